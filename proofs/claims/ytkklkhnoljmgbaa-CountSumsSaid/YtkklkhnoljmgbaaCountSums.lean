/-
  For every disk, side, table and place CountSums answers true and leaves its arguments as they were. No condition.
-/
import Derived.Test.YtkklkhnoljmgbaaBnd2
namespace Go.Proofs.Ytkklkhnoljmgbaa.countSums
open Go.ChangeShapes Go.WideShapes Go.RowKit

theorem own : ownKnob Try.prog.godebug = none := by kernel_rfl
theorem laidOut : laidOutB Try.prog = true := by kernel_rfl

theorem crc_set {t : List UInt8} {k : Nat} {x : UInt8} (hk : k < t.length) (hx : x ≠ t[k]?.getD 0) : crc (t.set k x) ≠ crc t := by
  have e0 : t[k]?.getD 0 = t[k] := by rw [List.getElem?_eq_getElem hk]; rfl
  have e1 : t = t.take k ++ [t[k]] ++ t.drop (k + 1) := by
    rw [List.append_assoc, List.singleton_append, List.getElem_cons_drop, List.take_append_drop]
  have e2 : t.set k x = t.take k ++ [x] ++ t.drop (k + 1) := by
    rw [List.set_eq_take_append_cons_drop, if_pos hk, List.append_assoc, List.singleton_append]
  rw [e2]
  conv => rhs; rw [e1]
  refine crc_turn _ _ _ _ rfl fun h => hx ?_
  have h1 := one_zero (x ^^^ t[k]) (by simpa [zip2] using h)
  rw [e0]
  have h2 := congrArg (· ^^^ t[k]) h1
  simpa [UInt8.xor_assoc] using h2
theorem up_sum {t : List UInt8} {n : Int} (h : upE t n = 0) : mayT (upV t n) = true ∧ ((crc (upV t n) : Int) == (crc t : Int)) = false ∧ (upV t n).length = 256 := by
  obtain ⟨k, rfl, hm, h8, h256, hlen, hx, hV⟩ := up_ways h
  refine ⟨by rw [hV]; exact mayT_set hm h8, ?_, by rw [hV, List.length_set, hlen]⟩
  have := crc_set (t := t) (k := k) (x := t[k]?.getD 0 + 1) (by omega) (fun e => by
    have h1 := congrArg UInt8.toNat e
    have h2 := (up_byte hx).1
    omega)
  rw [← hV] at this
  simpa [Int.natCast_inj] using this
set_option maxRecDepth 100000 in
set_option maxHeartbeats 16000000 in
theorem walk (v : Value) (d : Dk) (s : Int) (hn : (Lit.int .i64 s).wf = true) (u : Value) (t : List UInt8) (n : Int) (hn2 : (Lit.int .i64 n).wf = true) (w : World) (h : Dsk (Old w) w v d) (hu : rBy (Old w) w [u] t) :
    Calls Try.prog 8 #[v, .int .i64 s, u, .int .i64 n] w fun e w' => e = .returned (.bool true) ∧ Below w.heap.size w w' := by
  clear hn hn2
  obtain ⟨A, c, B, e0, rfl, _⟩ := id h.open
  obtain ⟨E, ce, rfl, _⟩ := id (rBy_open hu)
  obtain ⟨w0, hw0, b0, hs0, hB0⟩ := box_pair' w (.slice A d.1.length c) (.slice B d.2.length e0) 31
  have h0 := h.below hB0
  have u0 := stab_by.old hu hB0
  clear h hu
  replace b0 := Lib.hid b0
  replace hs0 := Lib.hid hs0
  replace h0 := Lib.hid h0
  replace u0 := Lib.hid u0
  go_enter Try.func8, Try.ntmps8
  go_upto_region 1 with fail
  clear hw0
  go_wp2_with fail
  with_reducible refine (alive7 _).mono ?_
  rintro e1 w1 ⟨rfl, hb1⟩
  have h1 := Lib.hid (h0.out.below hb1)
  have u1 := Lib.hid (stab_by.old u0.out hb1)
  have hB1 := hB0.trans (hb1.mono hB0.size)
  have b1 := (hb1.block w.heap.size (by rw [hs0.out]; omega)).trans b0.out
  obtain ⟨z1, z2, _, lt1⟩ := two_cells b1
  replace b1 := Lib.hid b1
  clear hb1 h0 u0 b0 hs0 hB0
  go_wp2_with fail
  with_reducible refine (great_any _ d _ h1.out).mono ?_
  rintro e2 w2 ⟨rfl, hb2⟩
  have h2 := Lib.hid (h1.out.below hb2)
  have u2 := Lib.hid (stab_by.old u1.out hb2)
  have hB2 := hB1.trans (hb2.mono hB1.size)
  have b2 := (hb2.block w.heap.size lt1).trans b1.out
  obtain ⟨y1, y2, _, lt2⟩ := two_cells b2
  replace b2 := Lib.hid b2
  clear hb2 h1 u1 b1 hB1 z1 z2 lt1
  cases hg : greatB d with
  | true =>
    go_wp2_with fail
    go_ret
    exact ⟨rfl, hB2⟩
  | false =>
    clear hg
    by_cases hl : 10000 < t.length
    · have hl' : (10000 : Int) < t.length := by omega
      go_wp2_with fail
      go_ret
      exact ⟨rfl, hB2⟩
    · have hl' : ¬ (10000 : Int) < t.length := by omega
      go_wp2_with fail
      with_reducible refine (sumT_any _ t _ u2.out).mono ?_
      rintro e3 w3 ⟨rfl, hb3⟩
      have h3 := Lib.hid (h2.out.below hb3)
      have u3 := Lib.hid (stab_by.old u2.out hb3)
      have hB3 := hB2.trans (hb3.mono hB2.size)
      have b3 := (hb3.block w.heap.size lt2).trans b2.out
      obtain ⟨x1, x2, _, lt3⟩ := two_cells b3
      replace b3 := Lib.hid b3
      clear hb3 h2 u2 b2 hB2 y1 y2 lt2 hl hl'
      cases hm : mayT t with
      | false =>
        rw [show smV t = 0 by simp [smV, hm], chkT_bad hm]
        clear hm
        go_wp2_with fail
        go_ret
        exact ⟨rfl, hB3⟩
      | true =>
        rw [show smV t = crc t by simp [smV, hm], chkT_ok hm]
        have hlen : t.length = 256 := mayT_len hm
        replace hm := Lib.hid hm
        rw [hlen] at u3 ⊢
        have hlen' := Lib.hid hlen
        clear hlen
        go_wp2_with fail
        with_reducible refine (up_open _ t n _ u3.out).mono ?_
        rintro e4 w4 ⟨E4, c4, rfl, hx4, hb4⟩
        have h4 := Lib.hid (h3.out.below hb4)
        have u4 := Lib.hid (stab_by.old u3.out hb4)
        have hB4 := hB3.trans (hb4.mono hB3.size)
        have b4 := (hb4.block w.heap.size lt3).trans b3.out
        obtain ⟨y1, y2, _, lt4⟩ := two_cells b4
        replace b4 := Lib.hid b4
        replace hx4 := Lib.hid (stab_by.drop hx4)
        clear hb4 h3 u3 b3 hB3 x1 x2 lt3
        by_cases he : upE t n = 0
        · obtain ⟨hm2, hne, hl2⟩ := up_sum he
          rw [he]
          rw [hl2] at hx4 ⊢
          replace he := Lib.hid he
          go_wp2_with fail
          with_reducible refine (sumT_any _ (upV t n) _ hx4.out).mono ?_
          rintro e5 w5 ⟨rfl, hb5⟩
          rw [show smV (upV t n) = crc (upV t n) by simp [smV, hm2], chkT_ok hm2]
          have h5 := Lib.hid (h4.out.below hb5)
          have u5 := Lib.hid (stab_by.old u4.out hb5)
          have hB5 := hB4.trans (hb5.mono hB4.size)
          have b5 := (hb5.block w.heap.size lt4).trans b4.out
          obtain ⟨x1, x2, _, lt5⟩ := two_cells b5
          replace b5 := Lib.hid b5
          obtain ⟨p, hp⟩ : ∃ p : Int, (crc (upV t n) : Int) = p := ⟨_, rfl⟩
          obtain ⟨q, hq⟩ : ∃ q : Int, (crc t : Int) = q := ⟨_, rfl⟩
          rw [hp, hq] at hne
          rw [hp]
          rw [hq]
          replace hp := Lib.hid hp
          replace hq := Lib.hid hq
          replace hm2 := Lib.hid hm2
          replace hl2 := Lib.hid hl2
          clear hb5 h4 u4 b4 hB4 y1 y2 lt4 hx4
          go_wp2_with fail
          with_reducible refine (cntWrite_any _ _ d s t _ h5.out u5.out).mono ?_
          rintro e6 w6 ⟨A6, c6, B6, d6, rfl, hx6, hb6⟩
          have u6 := Lib.hid (stab_by.old u5.out hb6)
          have hB6 := hB5.trans (hb6.mono hB5.size)
          clear hb6 h5 u5 b5 hB5 lt5
          by_cases he6 : cwE d s t = 0
          case neg =>
            have hR : cwR d s t = emptyD := by rw [cwR, if_neg he6]
            rw [hR] at hx6 ⊢
            obtain ⟨r, hr⟩ : ∃ r, cwE d s t = r := ⟨_, rfl⟩
            rw [hr] at he6 ⊢
            have hr0 : (r != 0) = true := by simpa using he6
            replace hr := Lib.hid hr
            have e1 : emptyD.1.length = 0 := rfl
            have e2 : emptyD.2.length = 0 := rfl
            rw [e1, e2] at hx6 ⊢
            obtain ⟨wb, hwb, g1, g3, hbb⟩ := box_pair' w6 (.slice A6 0 c6) (.slice B6 0 d6) 31
            have hBb := Lib.hid (hB6.trans (hbb.mono hB6.size))
            obtain ⟨z3, z4, _, lt6⟩ := two_cells g1
            replace g1 := Lib.hid g1
            replace g3 := Lib.hid g3
            clear hx6 hbb u6 hB6 he6 hR e1 e2
            go_upto_region 13 with fail
            clear hwb
            go_wp2_with fail
            go_ret
            exact ⟨rfl, hBb.out⟩
          obtain ⟨f1, f2, _, _, f5, f6, f7⟩ := sides_ok he6
          obtain ⟨W, hW⟩ : ∃ W, cwR d s t = W := ⟨_, rfl⟩
          rw [hW] at hx6 f1 f2 f5 f6 ⊢
          rw [he6]
          obtain ⟨wb, hwb, g1, g3, hbb⟩ := box_pair' w6 (.slice A6 W.1.length c6) (.slice B6 W.2.length d6) 31
          have hxb := Lib.hid (hx6.drop.below hbb)
          have ub := Lib.hid (stab_by.old u6.out hbb)
          have hBb := Lib.hid (hB6.trans (hbb.mono hB6.size))
          obtain ⟨z3, z4, _, lt6⟩ := two_cells g1
          replace g1 := Lib.hid g1
          replace g3 := Lib.hid g3
          replace f5 := Lib.hid f5
          replace f6 := Lib.hid f6
          replace f7 := Lib.hid f7
          replace he6 := Lib.hid he6
          replace hW := Lib.hid hW
          have hrd1 : Hid (∀ W1, Below wb.heap.size wb W1 → Calls Try.prog 15 #[.agg #[.slice A6 W.1.length c6, .slice B6 W.2.length d6], .int .i64 s] W1 fun e w' => ∃ E c, e = .returned (.tuple #[.slice E 256 c, .int .i64 0]) ∧ rBy (New W1.heap.size w') w' [.slice E 256 c] t ∧ Below W1.heap.size W1 w') := Lib.hid fun W1 hW1 => by
            have := cntRead_open _ W s W1 (hxb.out.below hW1)
            rwa [f1, f2, hlen'.out] at this
          clear hbb hx6 hB6 u6 f1 f2
          go_upto_region 13 with fail
          clear hwb
          go_wp2_with fail
          with_reducible refine (cntWrite_any _ _ W s t _ hxb.out ub.out).mono ?_
          rintro e7 w7 ⟨A7, c7, B7, d7, rfl, hx7, hb7⟩
          have hy7 := Lib.hid hb7
          have hB7 := hBb.out.trans (hb7.mono hBb.out.size)
          have v6 := (hb7.block w6.heap.size lt6).trans g1.out
          by_cases he7 : cwE W s t = 0
          case neg =>
            have hR : cwR W s t = emptyD := by rw [cwR, if_neg he7]
            rw [hR] at hx7 ⊢
            obtain ⟨r, hr⟩ : ∃ r, cwE W s t = r := ⟨_, rfl⟩
            rw [hr] at he7 ⊢
            have hr0 : (r != 0) = true := by simpa using he7
            replace hr := Lib.hid hr
            have e1 : emptyD.1.length = 0 := rfl
            have e2 : emptyD.2.length = 0 := rfl
            rw [e1, e2] at hx7 ⊢
            obtain ⟨wc, hwc, k1, k3, hbc⟩ := box_pair' w7 (.slice A7 0 c7) (.slice B7 0 d7) 31
            have hxc := Lib.hid (hx7.drop.below hbc)
            have hBc := Lib.hid (hB7.trans (hbc.mono hB7.size))
            have hyc := Lib.hid (hy7.out.trans (hbc.mono hy7.out.size))
            have v7 := (hbc.block w6.heap.size (Array.getElem?_eq_some_iff.1 v6).1).trans v6
            obtain ⟨o1, o2, _, lt7⟩ := two_cells v7
            obtain ⟨o3, o4, _, lt8⟩ := two_cells k1
            replace k1 := Lib.hid k1
            replace k3 := Lib.hid k3
            replace v6 := Lib.hid v6
            replace v7 := Lib.hid v7
            have hrd2 : Hid (∀ W1, Below wc.heap.size wc W1 → Calls Try.prog 15 #[.agg #[.slice A7 0 c7, .slice B7 0 d7], .int .i64 s] W1 fun e w' => ∃ E c, e = .returned (.tuple #[.slice E 0 c, .int .i64 8]) ∧ rBy (New W1.heap.size w') w' [.slice E 0 c] [] ∧ Below W1.heap.size W1 w') := Lib.hid fun W1 hW1 => by
              have h1 := cntRead_open (.agg #[.slice A7 0 c7, .slice B7 0 d7]) emptyD s W1 (hxc.out.below hW1)
              have e3 : crE emptyD s = 8 := by simp [crE, may_empty]
              have e4 : crV emptyD s = [] := by simp [crV, e3]
              rwa [e3, e4] at h1
            clear hx7 hbc hb7 he7 hR e1 e2 hB7 z3 z4 hxb hxc hBb
            go_upto_region 16 with fail
            clear hwc
            go_wp2_with fail
            with_reducible refine (hrd1.out _ hyc.out).mono ?_
            rintro e8 w8 ⟨E8, c8, rfl, r8, hb8⟩
            have R8 := Lib.hid (stab_by.drop r8)
            have hB8 := Lib.hid (hBc.out.trans (hb8.mono hBc.out.size))
            have hu8 := Lib.hid (stab_by.old ub.out (hyc.out.trans (hb8.mono hyc.out.size)))
            obtain ⟨n1, n2, _, _⟩ := two_cells ((hb8.block w7.heap.size lt8).trans k1.out)
            have hb8' := Lib.hid hb8
            clear hb8 r8 o1 o2 o3 o4
            go_wp2_with fail
            with_reducible refine (hrd2.out _ hb8'.out).mono ?_
            rintro e9 w9 ⟨E9, c9, rfl, r9, hb9⟩
            have t8 := rBy_str0 (stab_by.old R8.out hb9)
            have t5 := rBy_str0 (stab_by.old hu8.out hb9)
            have fin := Lib.hid (hB8.out.trans (hb9.mono hB8.out.size))
            clear r9 hb9 n1 n2
            go_wp2_with fail
            go_ret
            exact ⟨by simp, fin.out⟩
          obtain ⟨f1, f2, _, _, f5', f6', _⟩ := sides_ok he7
          obtain ⟨X, hX⟩ : ∃ X, cwR W s t = X := ⟨_, rfl⟩
          rw [hX] at hx7 f1 f2 f5' f6' ⊢
          rw [he7]
          obtain ⟨wc, hwc, k1, k3, hbc⟩ := box_pair' w7 (.slice A7 X.1.length c7) (.slice B7 X.2.length d7) 31
          have hxc := Lib.hid (hx7.drop.below hbc)
          have hBc := Lib.hid (hB7.trans (hbc.mono hB7.size))
          have hyc := Lib.hid (hy7.out.trans (hbc.mono hy7.out.size))
          have v7 := (hbc.block w6.heap.size (Array.getElem?_eq_some_iff.1 v6).1).trans v6
          obtain ⟨o1, o2, _, lt7⟩ := two_cells v7
          obtain ⟨o3, o4, _, lt8⟩ := two_cells k1
          replace k1 := Lib.hid k1
          replace k3 := Lib.hid k3
          replace v6 := Lib.hid v6
          replace v7 := Lib.hid v7
          have hrd2 : Hid (∀ W1, Below wc.heap.size wc W1 → Calls Try.prog 15 #[.agg #[.slice A7 X.1.length c7, .slice B7 X.2.length d7], .int .i64 s] W1 fun e w' => ∃ E c, e = .returned (.tuple #[.slice E 256 c, .int .i64 0]) ∧ rBy (New W1.heap.size w') w' [.slice E 256 c] t ∧ Below W1.heap.size W1 w') := Lib.hid fun W1 hW1 => by
            have := cntRead_open _ X s W1 (hxc.out.below hW1)
            rwa [f1, f2, hlen'.out] at this
          replace f5' := Lib.hid f5'
          replace f6' := Lib.hid f6'
          replace hX := Lib.hid hX
          replace he7 := Lib.hid he7
          clear hx7 hbc hb7 hB7 z3 z4 hxb hxc hBb f1 f2
          go_upto_region 16 with fail
          clear hwc
          go_wp2_with fail
          with_reducible refine (hrd1.out _ hyc.out).mono ?_
          rintro e8 w8 ⟨E8, c8, rfl, r8, hb8⟩
          have R8 := Lib.hid (stab_by.drop r8)
          have hB8 := Lib.hid (hBc.out.trans (hb8.mono hBc.out.size))
          have hu8 := Lib.hid (stab_by.old ub.out (hyc.out.trans (hb8.mono hyc.out.size)))
          obtain ⟨n1, n2, _, _⟩ := two_cells ((hb8.block w7.heap.size lt8).trans k1.out)
          have hb8' := Lib.hid hb8
          clear hb8 r8 o1 o2 o3 o4
          go_wp2_with fail
          with_reducible refine (hrd2.out _ hb8'.out).mono ?_
          rintro e9 w9 ⟨E9, c9, rfl, r9, hb9⟩
          have t8 := rBy_str0 (stab_by.old R8.out hb9)
          have t9 := rBy_str0 (stab_by.drop r9)
          have t5 := rBy_str0 (stab_by.old hu8.out hb9)
          have fin := Lib.hid (hB8.out.trans (hb9.mono hB8.out.size))
          clear r9 hb9 n1 n2
          go_wp2_with fail
          go_ret
          exact ⟨by simp, fin.out⟩
        · obtain ⟨qq, hqq⟩ : ∃ q, upE t n = q := ⟨_, rfl⟩
          have hq0 : (qq == 0) = false := by rw [← hqq]; simpa using he
          have hnil : upV t n = [] := by simp [upV, he]
          rw [hqq]
          rw [hnil] at hx4 ⊢
          obtain ⟨q, hq⟩ : ∃ q : Int, (crc t : Int) = q := ⟨_, rfl⟩
          rw [hq]
          replace hq := Lib.hid hq
          replace hqq := Lib.hid hqq
          obtain ⟨w5, hw5⟩ : ∃ w5 : World, w4 = w5 := ⟨_, rfl⟩
          rw [hw5] at h4 u4 b4 hB4 lt4 y1 y2 hx4 ⊢
          clear hw5
          have h5 := h4
          have u5 := u4
          have hB5 := hB4
          have b5 := b4
          have lt5 := lt4
          clear he hnil h4 u4 hB4 b4 lt4 hx4
          go_wp2_with fail
          with_reducible refine (cntWrite_any _ _ d s t _ h5.out u5.out).mono ?_
          rintro e6 w6 ⟨A6, c6, B6, d6, rfl, hx6, hb6⟩
          have u6 := Lib.hid (stab_by.old u5.out hb6)
          have hB6 := hB5.trans (hb6.mono hB5.size)
          clear hb6 h5 u5 b5 hB5 lt5
          by_cases he6 : cwE d s t = 0
          case neg =>
            have hR : cwR d s t = emptyD := by rw [cwR, if_neg he6]
            rw [hR] at hx6 ⊢
            obtain ⟨r, hr⟩ : ∃ r, cwE d s t = r := ⟨_, rfl⟩
            rw [hr] at he6 ⊢
            have hr0 : (r != 0) = true := by simpa using he6
            replace hr := Lib.hid hr
            have e1 : emptyD.1.length = 0 := rfl
            have e2 : emptyD.2.length = 0 := rfl
            rw [e1, e2] at hx6 ⊢
            obtain ⟨wb, hwb, g1, g3, hbb⟩ := box_pair' w6 (.slice A6 0 c6) (.slice B6 0 d6) 31
            have hBb := Lib.hid (hB6.trans (hbb.mono hB6.size))
            obtain ⟨z3, z4, _, lt6⟩ := two_cells g1
            replace g1 := Lib.hid g1
            replace g3 := Lib.hid g3
            clear hx6 hbb u6 hB6 he6 hR e1 e2
            go_upto_region 13 with fail
            clear hwb
            go_wp2_with fail
            go_ret
            exact ⟨rfl, hBb.out⟩
          obtain ⟨f1, f2, _, _, f5, f6, f7⟩ := sides_ok he6
          obtain ⟨W, hW⟩ : ∃ W, cwR d s t = W := ⟨_, rfl⟩
          rw [hW] at hx6 f1 f2 f5 f6 ⊢
          rw [he6]
          obtain ⟨wb, hwb, g1, g3, hbb⟩ := box_pair' w6 (.slice A6 W.1.length c6) (.slice B6 W.2.length d6) 31
          have hxb := Lib.hid (hx6.drop.below hbb)
          have ub := Lib.hid (stab_by.old u6.out hbb)
          have hBb := Lib.hid (hB6.trans (hbb.mono hB6.size))
          obtain ⟨z3, z4, _, lt6⟩ := two_cells g1
          replace g1 := Lib.hid g1
          replace g3 := Lib.hid g3
          replace f5 := Lib.hid f5
          replace f6 := Lib.hid f6
          replace f7 := Lib.hid f7
          replace he6 := Lib.hid he6
          replace hW := Lib.hid hW
          have hrd1 : Hid (∀ W1, Below wb.heap.size wb W1 → Calls Try.prog 15 #[.agg #[.slice A6 W.1.length c6, .slice B6 W.2.length d6], .int .i64 s] W1 fun e w' => ∃ E c, e = .returned (.tuple #[.slice E 256 c, .int .i64 0]) ∧ rBy (New W1.heap.size w') w' [.slice E 256 c] t ∧ Below W1.heap.size W1 w') := Lib.hid fun W1 hW1 => by
            have := cntRead_open _ W s W1 (hxb.out.below hW1)
            rwa [f1, f2, hlen'.out] at this
          clear hbb hx6 hB6 u6 f1 f2
          go_upto_region 13 with fail
          clear hwb
          go_wp2_with fail
          with_reducible refine (cntWrite_any _ _ W s t _ hxb.out ub.out).mono ?_
          rintro e7 w7 ⟨A7, c7, B7, d7, rfl, hx7, hb7⟩
          have hy7 := Lib.hid hb7
          have hB7 := hBb.out.trans (hb7.mono hBb.out.size)
          have v6 := (hb7.block w6.heap.size lt6).trans g1.out
          by_cases he7 : cwE W s t = 0
          case neg =>
            have hR : cwR W s t = emptyD := by rw [cwR, if_neg he7]
            rw [hR] at hx7 ⊢
            obtain ⟨r, hr⟩ : ∃ r, cwE W s t = r := ⟨_, rfl⟩
            rw [hr] at he7 ⊢
            have hr0 : (r != 0) = true := by simpa using he7
            replace hr := Lib.hid hr
            have e1 : emptyD.1.length = 0 := rfl
            have e2 : emptyD.2.length = 0 := rfl
            rw [e1, e2] at hx7 ⊢
            obtain ⟨wc, hwc, k1, k3, hbc⟩ := box_pair' w7 (.slice A7 0 c7) (.slice B7 0 d7) 31
            have hxc := Lib.hid (hx7.drop.below hbc)
            have hBc := Lib.hid (hB7.trans (hbc.mono hB7.size))
            have hyc := Lib.hid (hy7.out.trans (hbc.mono hy7.out.size))
            have v7 := (hbc.block w6.heap.size (Array.getElem?_eq_some_iff.1 v6).1).trans v6
            obtain ⟨o1, o2, _, lt7⟩ := two_cells v7
            obtain ⟨o3, o4, _, lt8⟩ := two_cells k1
            replace k1 := Lib.hid k1
            replace k3 := Lib.hid k3
            replace v6 := Lib.hid v6
            replace v7 := Lib.hid v7
            have hrd2 : Hid (∀ W1, Below wc.heap.size wc W1 → Calls Try.prog 15 #[.agg #[.slice A7 0 c7, .slice B7 0 d7], .int .i64 s] W1 fun e w' => ∃ E c, e = .returned (.tuple #[.slice E 0 c, .int .i64 8]) ∧ rBy (New W1.heap.size w') w' [.slice E 0 c] [] ∧ Below W1.heap.size W1 w') := Lib.hid fun W1 hW1 => by
              have h1 := cntRead_open (.agg #[.slice A7 0 c7, .slice B7 0 d7]) emptyD s W1 (hxc.out.below hW1)
              have e3 : crE emptyD s = 8 := by simp [crE, may_empty]
              have e4 : crV emptyD s = [] := by simp [crV, e3]
              rwa [e3, e4] at h1
            clear hx7 hbc hb7 he7 hR e1 e2 hB7 z3 z4 hxb hxc hBb
            go_upto_region 16 with fail
            clear hwc
            go_wp2_with fail
            with_reducible refine (hrd1.out _ hyc.out).mono ?_
            rintro e8 w8 ⟨E8, c8, rfl, r8, hb8⟩
            have R8 := Lib.hid (stab_by.drop r8)
            have hB8 := Lib.hid (hBc.out.trans (hb8.mono hBc.out.size))
            have hu8 := Lib.hid (stab_by.old ub.out (hyc.out.trans (hb8.mono hyc.out.size)))
            obtain ⟨n1, n2, _, _⟩ := two_cells ((hb8.block w7.heap.size lt8).trans k1.out)
            have hb8' := Lib.hid hb8
            clear hb8 r8 o1 o2 o3 o4
            go_wp2_with fail
            with_reducible refine (hrd2.out _ hb8'.out).mono ?_
            rintro e9 w9 ⟨E9, c9, rfl, r9, hb9⟩
            have t8 := rBy_str0 (stab_by.old R8.out hb9)
            have t5 := rBy_str0 (stab_by.old hu8.out hb9)
            have fin := Lib.hid (hB8.out.trans (hb9.mono hB8.out.size))
            clear r9 hb9 n1 n2
            go_wp2_with fail
            go_ret
            exact ⟨by simp, fin.out⟩
          obtain ⟨f1, f2, _, _, f5', f6', _⟩ := sides_ok he7
          obtain ⟨X, hX⟩ : ∃ X, cwR W s t = X := ⟨_, rfl⟩
          rw [hX] at hx7 f1 f2 f5' f6' ⊢
          rw [he7]
          obtain ⟨wc, hwc, k1, k3, hbc⟩ := box_pair' w7 (.slice A7 X.1.length c7) (.slice B7 X.2.length d7) 31
          have hxc := Lib.hid (hx7.drop.below hbc)
          have hBc := Lib.hid (hB7.trans (hbc.mono hB7.size))
          have hyc := Lib.hid (hy7.out.trans (hbc.mono hy7.out.size))
          have v7 := (hbc.block w6.heap.size (Array.getElem?_eq_some_iff.1 v6).1).trans v6
          obtain ⟨o1, o2, _, lt7⟩ := two_cells v7
          obtain ⟨o3, o4, _, lt8⟩ := two_cells k1
          replace k1 := Lib.hid k1
          replace k3 := Lib.hid k3
          replace v6 := Lib.hid v6
          replace v7 := Lib.hid v7
          have hrd2 : Hid (∀ W1, Below wc.heap.size wc W1 → Calls Try.prog 15 #[.agg #[.slice A7 X.1.length c7, .slice B7 X.2.length d7], .int .i64 s] W1 fun e w' => ∃ E c, e = .returned (.tuple #[.slice E 256 c, .int .i64 0]) ∧ rBy (New W1.heap.size w') w' [.slice E 256 c] t ∧ Below W1.heap.size W1 w') := Lib.hid fun W1 hW1 => by
            have := cntRead_open _ X s W1 (hxc.out.below hW1)
            rwa [f1, f2, hlen'.out] at this
          replace f5' := Lib.hid f5'
          replace f6' := Lib.hid f6'
          replace hX := Lib.hid hX
          replace he7 := Lib.hid he7
          clear hx7 hbc hb7 hB7 z3 z4 hxb hxc hBb f1 f2
          go_upto_region 16 with fail
          clear hwc
          go_wp2_with fail
          with_reducible refine (hrd1.out _ hyc.out).mono ?_
          rintro e8 w8 ⟨E8, c8, rfl, r8, hb8⟩
          have R8 := Lib.hid (stab_by.drop r8)
          have hB8 := Lib.hid (hBc.out.trans (hb8.mono hBc.out.size))
          have hu8 := Lib.hid (stab_by.old ub.out (hyc.out.trans (hb8.mono hyc.out.size)))
          obtain ⟨n1, n2, _, _⟩ := two_cells ((hb8.block w7.heap.size lt8).trans k1.out)
          have hb8' := Lib.hid hb8
          clear hb8 r8 o1 o2 o3 o4
          go_wp2_with fail
          with_reducible refine (hrd2.out _ hb8'.out).mono ?_
          rintro e9 w9 ⟨E9, c9, rfl, r9, hb9⟩
          have t8 := rBy_str0 (stab_by.old R8.out hb9)
          have t9 := rBy_str0 (stab_by.drop r9)
          have t5 := rBy_str0 (stab_by.old hu8.out hb9)
          have fin := Lib.hid (hB8.out.trans (hb9.mono hB8.out.size))
          clear r9 hb9 n1 n2
          go_wp2_with fail
          go_ret
          exact ⟨by simp, fin.out⟩

/-! ### The row's step -/
set_option maxRecDepth 100000 in
theorem lifted (os : Os) (started : os.Started) (H : Type) (enc : TypeId × Value → H) :
    ReturnsInHanded {} Try.checked os 8 .any (Rows.countSumsSpec.pre6 enc Try.prog Try.f8 Rows.countSumsRow.domain false) (Rows.countSumsSpec.post enc Try.prog Try.f8 false true false false) := by
  refine returnsInHanded_of_change (C := Try.checked) own started (by kernel_rfl) Try.func8
    (ChangeSpec.witness6 (enc := enc) (C := Try.checked) false ⟨#[], #[.agg #[.slice none 0 0, .slice none 0 0], .int .i64 0, .slice none 0 0, .int .i64 0], []⟩ 8 (by kernel_rfl) (by kernel_rfl) (by kernel_rfl) (by kernel_rfl)) ?_
  intro W base args ds gs before hval0 hW _ _
  have hval : ∀ (j : Nat) t v, Try.f8.params[j]? = some t → args[j]? = some v → Value.okWide Try.prog W .any base t v := hval0
  have hW' := hW
  obtain ⟨p, q, hA0, hV, _, _, _⟩ := hW
  have hA : DataW.TrodAll enc Try.prog W 0 (fun _ => true) true Try.f8.params.toList args.toList ds p := hA0
  rw [Try.params8] at hA hval
  obtain ⟨v0, vs0, d0, ds0, p0, q0, hargs, rfl, _, h0, r0⟩ := trodAll_cons hA
  obtain ⟨v1, vs1, d1, ds1, p1, q1, rfl, rfl, _, h1, r1⟩ := trodAll_cons r0
  obtain ⟨v2, vs2, d2, ds2, p2, q2, rfl, rfl, _, h2, r2⟩ := trodAll_cons r1
  obtain ⟨v3, vs3, d3, ds3, p3, q3, rfl, rfl, _, h3, r3⟩ := trodAll_cons r2
  obtain ⟨rfl, rfl, _⟩ := trodAll_nil r3
  obtain rfl : args = #[v0, v1, v2, v3] := by cases args; simp_all
  obtain ⟨rfl, _⟩ := trodVars_none hV
  obtain ⟨d0x, y0⟩ := open_disk (hval 0 31 v0 rfl rfl) h0
  obtain ⟨a1, rfl, _, _, w1⟩ := open_int Try.underlying3 (hval 1 3 v1 rfl rfl) h1
  obtain ⟨d2x, y2⟩ := open_by (hval 2 23 v2 rfl rfl) h2
  obtain ⟨a3, rfl, _, _, w3⟩ := open_int Try.underlying3 (hval 3 3 v3 rfl rfl) h3
  clear hA0 hval0
  refine (walk v0 d0x a1 w1 v2 d2x a3 w3 W y0 y2).mono fun e W' ⟨he, hb⟩ => ?_
  subst he
  exact ⟨_, rfl, law_post laidOut (by rw [Try.params8]; decide +kernel) (by kernel_rfl) Try.underlying4 rfl ⟨rfl, by simp [Rows.countSumsSpec], rfl⟩ hW' hb⟩

theorem over : Rows.countSumsRow.holds Try.pinned (OpenSpec.ofChange Rows.countSumsSpec) :=
  OpenClaim.holds_of_wide 8 Try.f8 rfl rfl rfl rfl rfl rfl rfl ⟨rfl, rfl, rfl, rfl, rfl⟩ rfl rfl rfl rfl rfl (by kernel_rfl) Try.func8 (by kernel_rfl)
    (of_decide_eq_true (by kernel_rfl)) (by unfold Func.isWrapper; first | (rw [if_pos (by decide +kernel)]; kernel_rfl) | (rw [if_neg (by decide +kernel)]; exact ⟨rfl, rfl⟩))
    (fun os started H enc _ => lifted os started H enc)

end Go.Proofs.Ytkklkhnoljmgbaa.countSums
namespace Go.Proofs.Ytkklkhnoljmgbaa
theorem countSums_proved : Rows.CountSumsSaid := countSums.over
end Go.Proofs.Ytkklkhnoljmgbaa
