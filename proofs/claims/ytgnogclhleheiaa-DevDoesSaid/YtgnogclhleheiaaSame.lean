/-
  Package dev: Same, and what it calls (bytes.Equal, slices.EqualFunc, sameWrite). Conditions: those that each lemma states.
-/
import Derived.Test.YtgnogclhleheiaaRefMay
namespace Go.Proofs.Ytgnogclhleheiaa
open Go.RowKit

/-- 'string(b)' of bytes. -/
theorem rBy_str {w : World} {v : Value} {xs : List UInt8} (h : rBy (Old w) w [v] xs) (d : Nat) : (convert 26 9 v).run Try.prog (w.drewN d) = .ok (.string ⟨xs.toArray⟩) (w.drewN d) := by
  obtain ⟨A, cap, rfl, _, _, hb⟩ := rBy_byt (B := w.heap.size) (fun _ h => h) h
  exact (hb.drewN d).str (P := Try.prog) 26 9 5 xs.length cap rfl Try.underlying26 Try.underlying5 Try.underlying9

theorem rBy_str0 {w : World} {v : Value} {xs : List UInt8} (h : rBy (Old w) w [v] xs) : (convert 26 9 v).run Try.prog w = .ok (.string ⟨xs.toArray⟩) w := rBy_str h 0
theorem beq_dec (xs ys : List UInt8) : (xs == ys) = decide (xs = ys) := by rw [Bool.eq_iff_iff]; simp
theorem equal_any (v u : Value) (xs ys : List UInt8) (w : World) (hv : rBy (Old w) w [v] xs) (hu : rBy (Old w) w [u] ys) :
    Calls Try.prog 48 #[v, u] w fun e w' => e = .returned (.bool (decide (xs = ys))) ∧ w = w' := by
  have s1 : (convert 26 9 v).run Try.prog w = .ok (.string ⟨xs.toArray⟩) w := rBy_str hv 0
  have s2 : (convert 26 9 u).run Try.prog w = .ok (.string ⟨ys.toArray⟩) w := rBy_str hu 0
  obtain ⟨A, a, rfl, _⟩ := rBy_open hv
  obtain ⟨B, b, rfl, _⟩ := rBy_open hu
  clear hv hu
  go_enter Try.func48, Try.ntmps48
  go_wp2_with fail
  go_ret
  exact ⟨ret_bool (beq_dec xs ys), rfl⟩

theorem list_eq_of {α : Type} {xs ys : List α} (hl : xs.length = ys.length) (h : ∀ i, i < xs.length → xs[i]? = ys[i]?) : xs = ys := by
  apply List.ext_getElem?
  intro i
  by_cases hi : i < xs.length
  · exact h i hi
  · rw [List.getElem?_eq_none (by omega), List.getElem?_eq_none (by omega)]
theorem take_eq_succ {α : Type} {xs ys : List α} {k : Nat} {x y : α} (h : xs.take k = ys.take k) (hx : xs[k]? = some x) (hy : ys[k]? = some y) (e : x = y) : xs.take (k + 1) = ys.take (k + 1) := by
  rw [List.take_add_one, List.take_add_one, h, hx, hy, e]
theorem ne_of_at {α : Type} {xs ys : List α} {k : Nat} {x y : α} (hx : xs[k]? = some x) (hy : ys[k]? = some y) (e : x ≠ y) : xs ≠ ys := fun h => by
  subst h
  rw [hx] at hy
  cases hy
  exact e rfl

set_option maxRecDepth 100000 in
set_option maxHeartbeats 2000000 in
theorem rowsEqual_any (v u : Value) (xs ys : List (List UInt8)) (w : World) (hv : rSl 1 rBy (Old w) w [v] xs) (hu : rSl 1 rBy (Old w) w [u] ys) :
    Calls Try.prog 47 #[v, u, .func (.func 48) #[] #[]] w fun e w' => e = .returned (.bool (decide (xs = ys))) ∧ w = w' := by
  obtain ⟨A, a, ev, la, ma, hA⟩ := rows_open hv
  obtain ⟨B, b, eu, lb, mb, hB⟩ := rows_open hu
  cases ev
  cases eu
  clear hv hu
  have HA := Lib.hid hA
  have HB := Lib.hid hB
  clear hA hB
  obtain ⟨n, hn⟩ : ∃ n, xs.length = n := ⟨_, rfl⟩
  obtain ⟨m, hm⟩ : ∃ m, ys.length = m := ⟨_, rfl⟩
  rw [hn] at la ⊢
  rw [hm] at lb ⊢
  replace hn := Lib.hid hn
  replace hm := Lib.hid hm
  by_cases h1 : n = m
  · subst h1
    go_enter Try.func47, Try.ntmps47
    go_wp2_with fail
    go_loop [17] (fun i => ∃ k : Nat, k ≤ n ∧ i = .int .i64 k ∧ xs.take k = ys.take k) (fun i => n - (intOf i).toNat)
    case atStart => exact ⟨0, by omega, rfl, rfl⟩
    case round =>
      obtain ⟨k, hk, rfl, ha⟩ := hrel
      replace ha := Lib.hid ha
      by_cases hlt : k < n
      · obtain ⟨x, hx⟩ : ∃ x, xs[k]? = some x := ⟨_, List.getElem?_eq_getElem (by rw [hn.out]; exact hlt)⟩
        obtain ⟨y, hy⟩ : ∃ y, ys[k]? = some y := ⟨_, List.getElem?_eq_getElem (by rw [hm.out]; exact hlt)⟩
        obtain ⟨ad, v, rfl, hok, hc, hby⟩ := HA.out k x hx
        obtain ⟨bd, u, rfl, hok2, hc2, hby2⟩ := HB.out k y hy
        replace hx := Lib.hid hx
        replace hy := Lib.hid hy
        by_cases e : x = y
        · have he : decide (x = y) = true := by simpa using e
          have he' := Lib.hid e
          clear e
          go_wp2_with fail
          refine (equal_any _ _ _ _ _ hby hby2).mono ?_
          rintro e w2 ⟨rfl, rfl⟩
          rw [he]
          go_wp2_with fail
          go_round
          case rel => exact ⟨k + 1, by omega, by go_num, take_eq_succ ha.out hx.out hy.out he'.out⟩
          case measure => simp [intOf]; omega
        · have he : decide (x = y) = false := by simpa using e
          have hne := Lib.hid (show decide (xs = ys) = false by simpa using ne_of_at hx.out hy.out e)
          clear e
          go_wp2_with fail
          refine (equal_any _ _ _ _ _ hby hby2).mono ?_
          rintro e w2 ⟨rfl, rfl⟩
          rw [he]
          go_wp2_with fail
          go_ret
          exact ⟨ret_bool hne.out.symm, rfl⟩
      · have hge : n ≤ k := by omega
        have he : Hid (decide (xs = ys) = true) := Lib.hid (by
          have := ha.out
          rw [List.take_of_length_le (by rw [hn.out]; exact hge), List.take_of_length_le (by rw [hm.out]; exact hge)] at this
          simpa using this)
        go_wp2_with fail
        go_ret
        exact ⟨ret_bool he.out.symm, rfl⟩
  · have he : Hid (decide (xs = ys) = false) := Lib.hid (by
      simp only [decide_eq_false_iff_not]
      intro e
      have := hn.out
      rw [e, hm.out] at this
      exact h1 this.symm)
    have h1' : ((n : Int) != m) = true := by simp; omega
    go_enter Try.func47, Try.ntmps47
    go_wp2_with fail
    go_ret
    exact ⟨ret_bool he.out.symm, rfl⟩

theorem sameWrite_any (a c : Int) (v u : Value) (xs ys : List UInt8) (w : World) (hv : rBy (Old w) w [v] xs) (hu : rBy (Old w) w [u] ys) :
    Calls Try.prog 50 #[.agg #[.int .i64 a, v], .agg #[.int .i64 c, u]] w fun e w' => e = .returned (.bool (decide ((a, xs) = (c, ys)))) ∧ Below w.heap.size w w' := by
  have hB0 := (((Below.refl w.heap.size w).alloc (Nat.le_refl _) (.cells #[.int .i64 a, v] 78)).alloc (by simp) (.cells #[.int .i64 c, u] 78))
  have k1 := stab_by.old hv hB0
  have k2 := stab_by.old hu hB0
  by_cases h : a = c
  · have h' : (a == c) = true := by simpa using h
    have he : Hid (decide ((a, xs) = (c, ys)) = decide (xs = ys)) := Lib.hid (by simp [h])
    clear h
    go_enter Try.func50, Try.ntmps50
    go_wp2_with fail
    refine (equal_any _ _ _ _ _ k1 k2).mono ?_
    rintro e w2 ⟨rfl, rfl⟩
    go_wp2_with fail
    go_ret
    exact ⟨ret_bool he.out.symm, hB0⟩
  · have h' : (a == c) = false := by simpa using h
    have he : Hid (decide ((a, xs) = (c, ys)) = false) := Lib.hid (by simp [h])
    clear h
    go_enter Try.func50, Try.ntmps50
    go_wp2_with fail
    go_ret
    exact ⟨ret_bool he.out.symm, hB0⟩

set_option maxRecDepth 100000 in
set_option maxHeartbeats 2000000 in
theorem writesEqual_any (v u : Value) (xs ys : List Wt) (w : World) (hv : rSl 2 rWt (Old w) w [v] xs) (hu : rSl 2 rWt (Old w) w [u] ys) :
    Calls Try.prog 49 #[v, u, .func (.func 50) #[] #[]] w fun e w' => e = .returned (.bool (decide (xs = ys))) ∧ Below w.heap.size w w' := by
  obtain ⟨A, a, ev, la, ma, hA⟩ := wts_open hv
  obtain ⟨B, b, eu, lb, mb, hB⟩ := wts_open hu
  cases ev
  cases eu
  clear hv hu
  have HA := Lib.hid hA
  have HB := Lib.hid hB
  clear hA hB
  obtain ⟨n, hn⟩ : ∃ n, xs.length = n := ⟨_, rfl⟩
  obtain ⟨m, hm⟩ : ∃ m, ys.length = m := ⟨_, rfl⟩
  rw [hn] at la ⊢
  rw [hm] at lb ⊢
  replace hn := Lib.hid hn
  replace hm := Lib.hid hm
  by_cases h1 : n = m
  · subst h1
    go_enter Try.func49, Try.ntmps49
    go_wp2_with fail
    go_loopw [17] (fun i wr => ∃ k : Nat, k ≤ n ∧ i = .int .i64 k ∧ xs.take k = ys.take k ∧ Below w.heap.size w wr) (fun i _ => n - (intOf i).toNat)
    case atStart => exact ⟨0, by omega, rfl, rfl, Below.refl _ _⟩
    case round =>
      obtain ⟨k, hk, rfl, ha, hb⟩ := hrel
      replace ha := Lib.hid ha
      by_cases hlt : k < n
      · obtain ⟨x, hx⟩ : ∃ x, xs[k]? = some x := ⟨_, List.getElem?_eq_getElem (by rw [hn.out]; exact hlt)⟩
        obtain ⟨y, hy⟩ : ∃ y, ys[k]? = some y := ⟨_, List.getElem?_eq_getElem (by rw [hm.out]; exact hlt)⟩
        obtain ⟨ad, v, rfl, hok, hok', hc, hc', hby, _, _⟩ := HA.out k x hx
        obtain ⟨bd, u, rfl, hok2, hok2', hc2, hc2', hby2, _, _⟩ := HB.out k y hy
        obtain ⟨E, ce, rfl, _⟩ := rBy_open hby
        obtain ⟨E', ce', rfl, _⟩ := rBy_open hby2
        replace hx := Lib.hid hx
        replace hy := Lib.hid hy
        replace hc := (hb.cell hok).trans hc
        replace hc' := (hb.cell hok').trans hc'
        replace hc2 := (hb.cell hok2).trans hc2
        replace hc2' := (hb.cell hok2').trans hc2'
        rw [add_next] at hc' hc2'
        have lt1 := World.block_lt_of_cell? _ _ hc
        have lt2 := World.block_lt_of_cell? _ _ hc2
        replace hby := stab_by.old hby hb
        replace hby2 := stab_by.old hby2 hb
        have hB1 := ((Below.refl wr.heap.size wr).alloc (Nat.le_refl _) (.cells #[.int .i64 x.1, .slice E x.2.length ce] 78))
        have hB2 := hB1.alloc (by simp) (.cells #[.int .i64 y.1, .slice E' y.2.length ce'] 78)
        have q1 := stab_by.old hby hB2
        have q2 := stab_by.old hby2 hB2
        have hbw := hb.trans (hB2.mono hb.size)
        clear hB1 hB2
        by_cases e : x = y
        · have he : decide ((x.1, x.2) = (y.1, y.2)) = true := decide_eq_true (show x = y from e)
          have he' := Lib.hid e
          replace he := Lib.hid he
          clear e
          go_wp2_with fail
          refine (sameWrite_any _ _ _ _ _ _ _ q1 q2).mono ?_
          rintro e w2 ⟨rfl, hb2⟩
          rw [he.out]
          go_wp2_with fail
          go_roundw
          case rel => exact ⟨k + 1, by omega, by go_num, take_eq_succ ha.out hx.out hy.out he'.out, hbw.trans (hb2.mono hbw.size)⟩
          case measure => simp [intOf]; omega
        · have he : decide ((x.1, x.2) = (y.1, y.2)) = false := decide_eq_false (show ¬ x = y from e)
          have hne := Lib.hid (show decide (xs = ys) = false by simpa using ne_of_at hx.out hy.out e)
          replace he := Lib.hid he
          clear e
          go_wp2_with fail
          refine (sameWrite_any _ _ _ _ _ _ _ q1 q2).mono ?_
          rintro e w2 ⟨rfl, hb2⟩
          rw [he.out]
          go_wp2_with fail
          go_ret
          exact ⟨ret_bool hne.out.symm, hbw.trans (hb2.mono hbw.size)⟩
      · have hge : n ≤ k := by omega
        have he : Hid (decide (xs = ys) = true) := Lib.hid (by
          have := ha.out
          rw [List.take_of_length_le (by rw [hn.out]; exact hge), List.take_of_length_le (by rw [hm.out]; exact hge)] at this
          simpa using this)
        go_wp2_with fail
        go_ret
        exact ⟨ret_bool he.out.symm, hb⟩
  · have he : Hid (decide (xs = ys) = false) := Lib.hid (by
      simp only [decide_eq_false_iff_not]
      intro e
      have := hn.out
      rw [e, hm.out] at this
      exact h1 this.symm)
    have h1' : ((n : Int) != m) = true := by simp; omega
    go_enter Try.func49, Try.ntmps49
    go_wp2_with fail
    go_ret
    exact ⟨ret_bool he.out.symm, Below.refl _ _⟩

def sameB (d o : Dk) : Bool := decide (d = o)
set_option maxRecDepth 100000 in
set_option maxHeartbeats 2000000 in
theorem same_any (v u : Value) (d o : Dk) (w : World) (hv : Dsk (Old w) w v d) (hu : Dsk (Old w) w u o) :
    Calls Try.prog 15 #[v, u] w fun e w' => e = .returned (.bool (sameB d o)) ∧ Below w.heap.size w w' := by
  obtain ⟨a, b, rfl, ha, hb⟩ := hv
  obtain ⟨a', b', rfl, ha', hb'⟩ := hu
  have hB0 := (((Below.refl w.heap.size w).alloc (Nat.le_refl _) (.cells #[a, b] 25)).alloc (by simp) (.cells #[a', b'] 25))
  replace ha := (stab_sl stab_by).old ha hB0
  replace ha' := (stab_sl stab_by).old ha' hB0
  replace hb := (stab_sl stab_wt).old hb hB0
  replace hb' := (stab_sl stab_wt).old hb' hB0
  by_cases h : d.1 = o.1
  · have h1 := Lib.hid (show decide (d.1 = o.1) = true by simpa using h)
    have h2 := Lib.hid (show decide (d.2 = o.2) = sameB d o by
      unfold sameB
      rw [Bool.eq_iff_iff]
      simp only [decide_eq_true_eq]
      exact ⟨fun e => Prod.ext h e, fun e => by rw [e]⟩)
    clear h
    go_enter Try.func15, Try.ntmps15
    go_wp2_with fail
    refine (rowsEqual_any _ _ _ _ _ ha ha').mono ?_
    rintro e w2 ⟨rfl, rfl⟩
    rw [h1.out]
    go_wp2_with fail
    refine (writesEqual_any _ _ _ _ _ hb hb').mono ?_
    rintro e w2 ⟨rfl, hb2⟩
    rw [h2.out]
    go_wp2_with fail
    go_ret
    exact ⟨rfl, hB0.trans (hb2.mono hB0.size)⟩
  · have h1 := Lib.hid (show decide (d.1 = o.1) = false by simpa using h)
    have h2 := Lib.hid (show sameB d o = false by
      unfold sameB
      simp only [decide_eq_false_iff_not]
      exact fun e => h (by rw [e]))
    clear h
    go_enter Try.func15, Try.ntmps15
    go_wp2_with fail
    refine (rowsEqual_any _ _ _ _ _ ha ha').mono ?_
    rintro e w2 ⟨rfl, rfl⟩
    rw [h1.out]
    go_wp2_with fail
    go_ret
    exact ⟨ret_bool h2.out.symm, hB0⟩
end Go.Proofs.Ytgnogclhleheiaa
