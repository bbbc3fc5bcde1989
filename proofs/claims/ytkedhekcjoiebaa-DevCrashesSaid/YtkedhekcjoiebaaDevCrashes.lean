/-
  For every disk, marks and place DevCrashes answers true and leaves its arguments as they were. No condition.
-/
import Derived.Test.YtkedhekcjoiebaaGen03
namespace Go.Proofs.Ytkedhekcjoiebaa.devCrashes
open Go.ChangeShapes Go.WideShapes Go.RowKit

theorem own : ownKnob Try.prog.godebug = none := by kernel_rfl
theorem laidOut : laidOutB Try.prog = true := by kernel_rfl

/-- Each block behind a crash is as it lasted, or as a write had it whose mark is true. -/
theorem kept_or : ∀ (ws : List Wt) (ks : List Bool) (b : List UInt8) (n : Int), seenW (markedW ws ks) b n = b ∨ ∃ (i : Nat) (x : Wt), ks[i]? = some true ∧ ws[i]? = some x ∧ x.1 = n ∧ x.2 = seenW (markedW ws ks) b n
  | [], ks, b, n => by cases ks <;> exact .inl rfl
  | x :: r, [], b, n => .inl rfl
  | x :: r, k :: ks, b, n => by
    have lift : ∀ b', (seenW (markedW r ks) b' n = b' ∨ ∃ (i : Nat) (y : Wt), ks[i]? = some true ∧ r[i]? = some y ∧ y.1 = n ∧ y.2 = seenW (markedW r ks) b' n) → (seenW (markedW r ks) b' n = b' ∨ ∃ (i : Nat) (y : Wt), (k :: ks)[i]? = some true ∧ (x :: r)[i]? = some y ∧ y.1 = n ∧ y.2 = seenW (markedW r ks) b' n) := fun b' h => by
      rcases h with h | ⟨i, y, h1, h2, h3⟩
      · exact .inl h
      · exact .inr ⟨i + 1, y, h1, h2, h3⟩
    cases k with
    | false => exact lift b (kept_or r ks b n)
    | true =>
      have e : seenW (markedW (x :: r) (true :: ks)) b n = seenW (markedW r ks) (if x.1 = n then x.2 else b) n := rfl
      rw [e]
      by_cases hx : x.1 = n
      · rw [if_pos hx]
        rcases lift x.2 (kept_or r ks x.2 n) with h | h
        · exact .inr ⟨0, x, rfl, rfl, hx, h.symm⟩
        · exact .inr h
      · rw [if_neg hx]
        exact lift b (kept_or r ks b n)
/-- Is it so by one of the first k writes? -/
def isB (s b : List UInt8) (ws : List Wt) (ks : List Bool) (n : Int) (k : Nat) : Bool := (s == b) || (List.range k).any fun i => ks[i]?.getD false && ((ws[i]?.getD (0, [])).1 == n && ((ws[i]?.getD (0, [])).2 == s))
theorem isB_succ {s b : List UInt8} {ws : List Wt} {ks : List Bool} {n : Int} {k : Nat} {x : Wt} {y : Bool} (hx : ws[k]? = some x) (hy : ks[k]? = some y) : isB s b ws ks n (k + 1) = (isB s b ws ks n k || (y && (x.1 == n && (x.2 == s)))) := by
  simp [isB, List.range_succ, hx, hy, Bool.or_assoc]
theorem isB_end {d : Dk} {ks : List Bool} {k : Nat} {b : List UInt8} (hb : d.1[k]? = some b) : isB (seenD (keptD d ks) k) b d.2 ks k d.2.length = true := by
  have e : seenD (keptD d ks) k = seenW (markedW d.2 ks) b k := by simp [seenD, keptD, hb]
  rw [e]
  rcases kept_or d.2 ks b k with h | ⟨i, x, h1, h2, h3, h4⟩
  · simp [isB, h]
  · have hi := (List.getElem?_eq_some_iff.1 h2).1
    simp only [isB, Bool.or_eq_true, List.any_eq_true, List.mem_range]
    exact .inr ⟨i, hi, by simp [h1, h2, h3, h4]⟩
theorem all_true {ks : List Bool} {k : Nat} {y : Bool} (h : ∀ q ∈ ks.take k, q = true) (hy : ks[k]? = some y) (e : y = true) : ∀ q ∈ ks.take (k + 1), q = true := by
  rw [List.take_add_one, hy]
  intro q hq
  rcases List.mem_append.1 hq with hq | hq
  · exact h q hq
  · simp at hq
    rw [hq, e]
theorem all_false {ks : List Bool} {k : Nat} {y : Bool} (h : ∀ q ∈ ks.take k, q = false) (hy : ks[k]? = some y) (e : y = false) : ∀ q ∈ ks.take (k + 1), q = false := by
  rw [List.take_add_one, hy]
  intro q hq
  rcases List.mem_append.1 hq with hq | hq
  · exact h q hq
  · simp at hq
    rw [hq, e]

theorem settled_none {d : Dk} {ks : List Bool} (hl : d.1.length = 256) (h : ∀ q ∈ ks, q = false) : settledD (keptD d ks) = (d.1, []) := by
  unfold keptD
  rw [markedW_none _ _ h]
  refine Prod.ext ?_ rfl
  refine List.ext_getElem? fun i => ?_
  by_cases hi : i < 256
  · have hg : d.1[i]? = some (d.1[i]'(by omega)) := List.getElem?_eq_getElem _
    rw [settled_at (d := (d.1, [])) hi]
    simp [seenD, seenW, hg]
  · rw [List.getElem?_eq_none (by rw [settled_len1]; omega), List.getElem?_eq_none (by show d.1.length ≤ i; omega)]
theorem kept_all {d : Dk} {ks : List Bool} (hl : ks.length = d.2.length) (h : ∀ q ∈ ks, q = true) : keptD d ks = d := by
  unfold keptD
  rw [markedW_all _ _ hl h]
theorem dsk_bare {w : World} {A : Option Addr} {c : Nat} {b : Value} {d : Dk} (h : Dsk (Old w) w (.agg #[.slice A d.1.length c, b]) d) : Dsk (Old w) w (.agg #[.slice A d.1.length c, .slice none 0 0]) (d.1, []) :=
  ⟨_, _, rfl, h.parts.1, none, 0, rfl, by simp, by omega, fun i x h => by simp at h⟩
set_option maxRecDepth 100000 in
set_option maxHeartbeats 8000000 in
theorem walk (v : Value) (d : Dk) (u : Value) (ks : List Bool) (n : Int) (hn : (Lit.int .i64 n).wf = true) (w : World) (h : Dsk (Old w) w v d) (hu : rSl 1 rBool (Old w) w [u] ks) :
    Calls Try.prog 6 #[v, u, .int .i64 n] w fun e w' => e = .returned (.bool true) ∧ Below w.heap.size w w' := by
  clear hn
  have stb : Stab (rSl 1 rBool) := stab_sl stab_bool
  obtain ⟨A, c, B, e, rfl, l1, m1, l2, m2, _⟩ := id h.open
  obtain ⟨K, kc, rfl, l3, m3, _⟩ := id (bools_open hu)
  obtain ⟨w0, hw0, x0, hB0, hs0⟩ := box_new h
  have u0 := Lib.hid (stb.old hu hB0)
  clear h hu
  replace x0 := Lib.hid x0
  replace hs0 := Lib.hid hs0
  go_enter Try.func6, Try.ntmps6
  go_upto_region 1 with fail
  clear hw0
  go_wp2_with fail
  with_reducible refine (alive_any _).mono ?_
  rintro e1 w1 ⟨rfl, hb1⟩
  have x1 := Lib.hid (x0.out.below hb1)
  have u1 := Lib.hid (stb.old u0.out hb1)
  have hB1 := hB0.trans (hb1.mono hB0.size)
  obtain ⟨z1, z2, _, _⟩ := x1.out.cells
  clear hb1 x0 u0 hB0
  go_wp2_with fail
  with_reducible refine (great_any _ d _ x1.out.dsk).mono ?_
  rintro e2 w2 ⟨rfl, hb2⟩
  have x2 := Lib.hid (x1.out.below hb2)
  have u2 := Lib.hid (stb.old u1.out hb2)
  have hB2 := hB1.trans (hb2.mono hB1.size)
  clear hb2 x1 u1 hB1 z1 z2
  obtain ⟨z1, z2, _, _⟩ := x2.out.cells
  cases hg : greatB d with
  | true =>
    go_wp2_with fail
    go_ret
    exact ⟨rfl, hB2⟩
  | false =>
  clear hg
  by_cases hl : 5000 < ks.length
  · have hl' : (5000 : Int) < ks.length := by omega
    go_wp2_with fail
    go_ret
    exact ⟨rfl, hB2⟩
  have hl' : ¬ (5000 : Int) < ks.length := by omega
  go_wp2_with fail
  with_reducible refine (check_any _ d _ x2.out.dsk).mono ?_
  rintro e3 w3 ⟨rfl, hb3⟩
  have x3 := Lib.hid (x2.out.below hb3)
  have u3 := Lib.hid (stb.old u2.out hb3)
  have hB3 := hB2.trans (hb3.mono hB2.size)
  clear hb3 x2 u2 hB2 z1 z2
  obtain ⟨z1, z2, _, _⟩ := x3.out.cells
  cases hm : mayB d with
  | false =>
    rw [chk_bad hm]
    go_wp2_with fail
    go_ret
    exact ⟨rfl, hB3⟩
  | true =>
  rw [chk_ok hm]
  by_cases hlen : ks.length = d.2.length
  case neg =>
    have hl2 : ((ks.length : Int) != d.2.length) = true := by simp; omega
    clear hlen hm
    go_wp2_with fail
    go_ret
    exact ⟨rfl, hB3⟩
  have hl2 : ((ks.length : Int) != d.2.length) = false := by simp; omega
  by_cases h0 : n < 0
  · replace hlen := Lib.hid hlen
    clear hm
    go_wp2_with fail
    go_ret
    exact ⟨rfl, hB3⟩
  by_cases h1 : 255 < n
  · replace hlen := Lib.hid hlen
    clear hm
    go_wp2_with fail
    go_ret
    exact ⟨rfl, hB3⟩
  obtain ⟨k, rfl⟩ : ∃ k : Nat, n = k := ⟨n.toNat, by omega⟩
  have hk : k < 256 := by omega
  have hmk := may_kept (ks := ks) hm
  obtain ⟨hm1, hm2, _, _⟩ := may_of hm
  replace hlen := Lib.hid hlen
  replace hm := Lib.hid hm
  replace hm1 := Lib.hid hm1
  go_wp2_with fail
  with_reducible refine (crash_old _ _ d ks _ x3.out.dsk u3.out hm.out hlen.out).mono ?_
  rintro e4 w4 ⟨A4, c4, B4, f4, rfl, hx4, hb4⟩
  have x4 := Lib.hid (x3.out.below hb4)
  have u4 := Lib.hid (stb.old u3.out hb4)
  have hB4 := hB3.trans (hb4.mono hB3.size)
  clear hb4 x3 u3 hB3 z1 z2
  obtain ⟨wa, hwa, ya, hba, hsa⟩ := box_new hx4
  have x5 := Lib.hid (x4.out.below hba)
  have u5 := Lib.hid (stb.old u4.out hba)
  have hB5 := hB4.trans (hba.mono hB4.size)
  have hq1 := settled_len1 (keptD d ks)
  have hq2 := settled_len2 (keptD d ks)
  have hqk := settled_at (d := keptD d ks) hk
  obtain ⟨b, hb⟩ : ∃ b, d.1[k]? = some b := ⟨_, List.getElem?_eq_getElem (by rw [hm1.out]; exact hk)⟩
  have hisB := Lib.hid (isB_end (ks := ks) hb)
  obtain ⟨S, hS⟩ : ∃ S, settledD (keptD d ks) = S := ⟨_, rfl⟩
  rw [hS] at ya hwa hx4 hq1 hq2 hqk ⊢
  replace hS := Lib.hid hS
  generalize seenD (keptD d ks) k = s at *
  obtain ⟨z1, z2, _, _⟩ := x5.out.cells
  obtain ⟨z3, z4, _, _⟩ := ya.cells
  -- the two blocks
  obtain ⟨A', c', B', e', ev, _, _, _, _, hA5, hW5⟩ := x5.out.dsk.open
  cases ev
  obtain ⟨A'', c'', B'', e'', ev, _, _, _, _, hA6, _⟩ := ya.dsk.open
  cases ev
  obtain ⟨ad, bv, rfl, ho1, hc1, hby1⟩ := hA5 k b hb
  obtain ⟨ad2, sv, rfl, ho2, hc2, hby2⟩ := hA6 k s hqk
  have hs1 := rBy_str hby1
  have hs2 := rBy_str hby2
  obtain ⟨E1, ce1, rfl, _⟩ := rBy_open hby1
  obtain ⟨E2, ce2, rfl, _⟩ := rBy_open hby2
  have HW := Lib.hid hW5
  replace ya := Lib.hid ya
  replace hsa := Lib.hid hsa
  replace hb := Lib.hid hb
  replace hqk := Lib.hid hqk
  rw [hq1] at z3 hwa ⊢
  rw [hq2] at z4 hwa ⊢
  replace hq1 := Lib.hid hq1
  replace hq2 := Lib.hid hq2
  replace hby2 := Lib.hid hby2
  clear hx4 hba hB4 x4 u4 hby1 hA5 hA6 hW5 hl
  have i1 : (0 : Int) ≤ (k : Int) := by omega
  have i2 : (k : Int) < (d.1.length : Int) := by rw [hm1.out]; omega
  have i3 : k < d.1.length := by rw [hm1.out]; omega
  have i4 : (k : Int) < 256 := by omega
  have i5 : (d.1.length : Int) ≤ 9223372036854775807 := by rw [hm1.out]; omega
  go_upto_region 9 with fail
  clear hwa
  go_quiet (fail)
  clear hs1 hc1 ho1 z1 z2 z3 z4
  obtain ⟨_, _, ev, _, _, HK⟩ := bools_open u5.out
  cases ev
  replace HK := Lib.hid HK
  have hc2w := Lib.hid hc2
  clear hc2
  replace hs2 := Lib.hid hs2
  go_wp2_with fail
  go_loopw [10, 11, 12, 13] (fun r1 r2 r3 i wr => ∃ j : Nat, j ≤ ks.length ∧ i = .int .i64 j ∧ (∃ p, p = isB s b d.2 ks k j ∧ r1 = .bool p) ∧ (∃ p, (p = true → ∀ q ∈ ks.take j, q = true) ∧ r2 = .bool p) ∧ (∃ p, (p = true → ∀ q ∈ ks.take j, q = false) ∧ r3 = .bool p) ∧ Below wa.heap.size wa wr) (fun _ _ _ i _ => ks.length - (intOf i).toNat)
  case atStart => exact ⟨0, by omega, rfl, ⟨_, by simp [isB], rfl⟩, ⟨_, fun _ => by simp, rfl⟩, ⟨_, fun _ => by simp, rfl⟩, below_drewN (Below.refl _ _) _⟩
  case round =>
    obtain ⟨j, hj, rfl, ⟨p, hp, rfl⟩, ⟨p1, hp1, rfl⟩, ⟨p2, hp2, rfl⟩, hb⟩ := hrel
    replace hp := Lib.hid hp
    replace hp1 := Lib.hid hp1
    replace hp2 := Lib.hid hp2
    by_cases hlt : j < ks.length
    · have hlt2 : j < d.2.length := by rw [← hlen.out]; exact hlt
      have hlt3 : (j : Int) < d.2.length := by omega
      have hlt4 : (j : Int) < ks.length := by omega
      obtain ⟨x, hx⟩ : ∃ x, d.2[j]? = some x := ⟨_, List.getElem?_eq_getElem hlt2⟩
      obtain ⟨y, hy⟩ : ∃ y, ks[j]? = some y := ⟨_, List.getElem?_eq_getElem hlt⟩
      have hsc := isB_succ (s := s) (b := b) (n := (k : Int)) hx hy
      rw [← hp.out] at hsc
      replace hsc := Lib.hid hsc
      obtain ⟨bd, v, rfl, hok, hok', hc, hc', hby, _, _⟩ := HW.out j x hx
      obtain ⟨kd, rfl, hok2, hc2⟩ := HK.out j y hy
      replace hx := Lib.hid hx
      replace hy := Lib.hid hy
      replace hc := (hb.cell hok).trans hc
      replace hc' := (hb.cell hok').trans hc'
      replace hc2 := (hb.cell hok2).trans hc2
      have hc3 := (hb.cell ho2).trans hc2w.out
      rw [add_next] at hc'
      have s1 := rBy_str (stab_by.old hby hb)
      have s2 := rBy_str (stab_by.old hby2.out hb)
      obtain ⟨E, ce, rfl, _⟩ := rBy_open hby
      have xr := x5.out.below hb
      have yr := ya.out.below hb
      obtain ⟨z1, z2, _, _⟩ := xr.cells
      obtain ⟨z3, z4, _, _⟩ := yr.cells
      rw [hq1.out] at z3
      clear hby xr yr z4
      cases p with
      | true =>
        cases p1 <;> cases p2 <;> cases y <;>
        (go_wp2_with fail
         go_quiet (fail)
         go_wp2_with fail
         go_roundw
         case rel => exact ⟨j + 1, by omega, by go_num, ⟨_, by rw [hsc.out]; simp, rfl⟩, ⟨_, fun h => by first | exact absurd h (by decide) | exact all_true (hp1.out (by simp)) hy.out rfl, rfl⟩, ⟨_, fun h => by first | exact absurd h (by decide) | exact all_false (hp2.out (by simp)) hy.out rfl, rfl⟩, below_drewN hb _⟩
         case measure => simp [intOf]; omega)
      | false =>
        cases y with
        | false =>
          cases p1 <;> cases p2 <;>
          (go_wp2_with fail
           go_quiet (fail)
           go_wp2_with fail
           go_roundw
           case rel => exact ⟨j + 1, by omega, by go_num, ⟨_, by rw [hsc.out]; simp, rfl⟩, ⟨_, fun h => by first | exact absurd h (by decide) | exact all_true (hp1.out (by simp)) hy.out rfl, rfl⟩, ⟨_, fun h => by first | exact absurd h (by decide) | exact all_false (hp2.out (by simp)) hy.out rfl, rfl⟩, below_drewN hb _⟩
           case measure => simp [intOf]; omega)
        | true =>
          cases hx1 : (x.1 == (k : Int)) with
          | false =>
            cases p1 <;> cases p2 <;>
            (go_wp2_with fail
             go_quiet (fail)
             go_wp2_with fail
             go_roundw
             case rel => exact ⟨j + 1, by omega, by go_num, ⟨_, by rw [hsc.out, hx1]; simp, rfl⟩, ⟨_, fun h => by first | exact absurd h (by decide) | exact all_true (hp1.out (by simp)) hy.out rfl, rfl⟩, ⟨_, fun h => by first | exact absurd h (by decide) | exact all_false (hp2.out (by simp)) hy.out rfl, rfl⟩, below_drewN hb _⟩
             case measure => simp [intOf]; omega)
          | true =>
            cases hx2 : (x.2 == s) with
            | false =>
              cases p1 <;> cases p2 <;>
              (go_wp2_with fail
               go_quiet (fail)
               go_wp2_with fail
               go_roundw
               case rel => exact ⟨j + 1, by omega, by go_num, ⟨_, by rw [hsc.out, hx1, hx2]; simp, rfl⟩, ⟨_, fun h => by first | exact absurd h (by decide) | exact all_true (hp1.out (by simp)) hy.out rfl, rfl⟩, ⟨_, fun h => by first | exact absurd h (by decide) | exact all_false (hp2.out (by simp)) hy.out rfl, rfl⟩, below_drewN hb _⟩
               case measure => simp [intOf]; omega)
            | true =>
              cases p1 <;> cases p2 <;>
              (go_wp2_with fail
               go_quiet (fail)
               go_wp2_with fail
               go_roundw
               case rel => exact ⟨j + 1, by omega, by go_num, ⟨_, by rw [hsc.out, hx1, hx2]; simp, rfl⟩, ⟨_, fun h => by first | exact absurd h (by decide) | exact all_true (hp1.out (by simp)) hy.out rfl, rfl⟩, ⟨_, fun h => by first | exact absurd h (by decide) | exact all_false (hp2.out (by simp)) hy.out rfl, rfl⟩, below_drewN hb _⟩
               case measure => simp [intOf]; omega)
    · have hge : ks.length ≤ j := by omega
      have hp' : p = true := by
        rw [hp.out, show j = d.2.length by have := hlen.out; omega]
        exact hisB.out
      subst hp'
      have htk : ks.take j = ks := List.take_of_length_le hge
      have g1 : Hid (p1 = true → settledD d = S) := Lib.hid fun h => by
        have := hp1.out h
        rw [htk] at this
        rw [← hS.out, kept_all hlen.out this]
      have g2 : Hid (p2 = true → (d.1, []) = S) := Lib.hid fun h => by
        have := hp2.out h
        rw [htk] at this
        rw [← hS.out, settled_none hm1.out this]
      clear htk hp hp1 hp2
      obtain ⟨z1, z2, _, _⟩ := (x5.out.below hb).cells
      go_wp2_with fail
      with_reducible refine (barrier_old _ d _ (x5.out.below hb).dsk hm.out).mono ?_
      rintro e5 w5 ⟨A5, c5, B5, f5, rfl, hx5, hb5⟩
      obtain ⟨wc, hwc, yb, hbc, hszc⟩ := box_new hx5
      replace hszc := Lib.hid hszc
      have hbx := hb.trans ((hb5.trans (hbc.mono hb5.size)).mono hb.size)
      obtain ⟨T, hT⟩ : ∃ T, settledD d = T := ⟨_, rfl⟩
      rw [hT] at hwc yb g1 hx5 ⊢
      replace hT := Lib.hid hT
      have x6 := Lib.hid (x5.out.below hbx)
      have y6 := Lib.hid (ya.out.below hbx)
      clear z1 z2
      obtain ⟨z1, z2, _, _⟩ := x6.out.cells
      obtain ⟨z3, z4, _, _⟩ := y6.out.cells
      obtain ⟨z5, z6, _, _⟩ := yb.cells
      rw [hq1.out] at z3
      rw [hq2.out] at z4
      have dT := Lib.hid yb.dsk
      have dS : Hid (Dsk (Old wc) wc (.agg #[.slice (some ad2) 256 c4, .slice B4 0 f4]) S) := Lib.hid (by
        have := y6.out.dsk
        rwa [hq1.out, hq2.out] at this)
      have hSS : sameB S S = true := by simp [sameB]
      clear yb hx5 hb5 hbc
      go_upto_region 18 with fail
      clear hwc
      cases p1 with
      | true =>
        go_wp2_with fail
        with_reducible refine (same_any _ _ T S _ dT.out dS.out).mono ?_
        rintro e6 w6 ⟨rfl, hb6⟩
        rw [g1.out (by simp), hSS]
        have x7 := Lib.hid (x6.out.below hb6)
        have y7 := Lib.hid (y6.out.below hb6)
        clear z1 z2 z3 z4 z5 z6
        obtain ⟨z1, z2, _, _⟩ := x7.out.cells
        obtain ⟨z3, z4, _, _⟩ := y7.out.cells
        rw [hq1.out] at z3
        rw [hq2.out] at z4
        have dS7 : Hid (Dsk (Old w6) w6 (.agg #[.slice (some ad2) 256 c4, .slice B4 0 f4]) S) := Lib.hid (by
          have := y7.out.dsk
          rwa [hq1.out, hq2.out] at this)
        have hby7 := hbx.trans (hb6.mono hbx.size)
        cases p2 with
        | true =>
          go_wp2_with fail
          with_reducible refine (same_any _ _ (d.1, []) S _ (dsk_bare x7.out.dsk) dS7.out).mono ?_
          rintro e7 w7 ⟨rfl, hb7⟩
          rw [g2.out (by simp), hSS]
          go_wp2_with fail
          go_ret
          exact ⟨rfl, hB5.trans ((hby7.trans (hb7.mono hby7.size)).mono hB5.size)⟩
        | false =>
          go_wp2_with fail
          go_ret
          exact ⟨rfl, hB5.trans (hby7.mono hB5.size)⟩
      | false =>
        cases p2 with
        | true =>
          go_wp2_with fail
          with_reducible refine (same_any _ _ (d.1, []) S _ (dsk_bare x6.out.dsk) dS.out).mono ?_
          rintro e7 w7 ⟨rfl, hb7⟩
          rw [g2.out (by simp), hSS]
          go_wp2_with fail
          go_ret
          exact ⟨rfl, hB5.trans ((hbx.trans (hb7.mono hbx.size)).mono hB5.size)⟩
        | false =>
          go_wp2_with fail
          go_ret
          exact ⟨rfl, hB5.trans (hbx.mono hB5.size)⟩

/-! ### The row's step -/
set_option maxRecDepth 100000 in
theorem lifted (os : Os) (started : os.Started) (H : Type) (enc : TypeId × Value → H) :
    ReturnsInHanded {} Try.checked os 6 .any (Rows.devCrashesSpec.pre6 enc Try.prog Try.f6 Rows.devCrashesRow.domain false) (Rows.devCrashesSpec.post enc Try.prog Try.f6 false true false false) := by
  refine returnsInHanded_of_change (C := Try.checked) own started (by kernel_rfl) Try.func6
    (ChangeSpec.witness6 (enc := enc) (C := Try.checked) false ⟨#[], #[.agg #[.slice none 0 0, .slice none 0 0], .slice none 0 0, .int .i64 0], []⟩ 8 (by kernel_rfl) (by kernel_rfl) (by kernel_rfl) (by kernel_rfl)) ?_
  intro W base args ds gs before hval0 hW _ _
  have hval : ∀ (j : Nat) t v, Try.f6.params[j]? = some t → args[j]? = some v → Value.okWide Try.prog W .any base t v := hval0
  have hW' := hW
  obtain ⟨p, q, hA0, hV, _, _, _⟩ := hW
  have hA : DataW.TrodAll enc Try.prog W 0 (fun _ => true) true Try.f6.params.toList args.toList ds p := hA0
  rw [Try.params6] at hA hval
  obtain ⟨v0, vs0, d0, ds0, p0, q0, hargs, rfl, _, h0, r0⟩ := trodAll_cons hA
  obtain ⟨v1, vs1, d1, ds1, p1, q1, rfl, rfl, _, h1, r1⟩ := trodAll_cons r0
  obtain ⟨v2, vs2, d2, ds2, p2, q2, rfl, rfl, _, h2, r2⟩ := trodAll_cons r1
  obtain ⟨rfl, rfl, _⟩ := trodAll_nil r2
  obtain rfl : args = #[v0, v1, v2] := by cases args; simp_all
  obtain ⟨rfl, _⟩ := trodVars_none hV
  obtain ⟨d0x, y0⟩ := open_disk (hval 0 30 v0 rfl rfl) h0
  obtain ⟨d1x, y1⟩ := open_bools (hval 1 36 v1 rfl rfl) h1
  obtain ⟨a2, rfl, _, _, w2⟩ := open_int Try.underlying3 (hval 2 3 v2 rfl rfl) h2
  clear hA0 hval0
  refine (walk v0 d0x v1 d1x a2 w2 W y0 y1).mono fun e W' ⟨he, hb⟩ => ?_
  subst he
  exact ⟨_, rfl, law_post laidOut (by rw [Try.params6]; decide +kernel) (by kernel_rfl) Try.underlying4 rfl ⟨rfl, by simp [Rows.devCrashesSpec], rfl⟩ hW' hb⟩

theorem over : Rows.devCrashesRow.holds Try.pinned (OpenSpec.ofChange Rows.devCrashesSpec) :=
  OpenClaim.holds_of_wide 6 Try.f6 rfl rfl rfl rfl rfl rfl rfl ⟨rfl, rfl, rfl, rfl, rfl⟩ rfl rfl rfl rfl rfl (by kernel_rfl) Try.func6 (by kernel_rfl)
    (of_decide_eq_true (by kernel_rfl)) (by unfold Func.isWrapper; first | (rw [if_pos (by decide +kernel)]; kernel_rfl) | (rw [if_neg (by decide +kernel)]; exact ⟨rfl, rfl⟩))
    (fun os started H enc _ => lifted os started H enc)

end Go.Proofs.Ytkedhekcjoiebaa.devCrashes
namespace Go.Proofs.Ytkedhekcjoiebaa
theorem devCrashes_proved : Rows.DevCrashesSaid := devCrashes.over
end Go.Proofs.Ytkedhekcjoiebaa
