/-
  DevNames answers true: the chapter's numbers and examples are so. No condition, no argument.
-/
import Derived.Test.YtkedhekcjoiebaaGen03
import Derived.Test.YtkedhekcjoiebaaAny
import Derived.Deep.CutRange
namespace Go.Proofs.Ytkedhekcjoiebaa.devNames
open Go.ChangeShapes Go.WideShapes Go.RowKit

theorem own : ownKnob Try.prog.godebug = none := by kernel_rfl
theorem laidOut : laidOutB Try.prog = true := by kernel_rfl

theorem zero_seen {k : Nat} (hk : k < 256) : seenD zeroD k = List.replicate 128 0 := by
  unfold seenD
  rw [zero_at hk]
  rfl
theorem names_facts {fa fb : List UInt8} (ha : fa.length = 128) (hb : fb.length = 128) : ∃ D1 D2 : Dk, wrR zeroD 9 fa = D1 ∧ wErr zeroD 9 fa = 0 ∧ mayB D1 = true ∧ wrR D1 9 fb = D2 ∧ wErr D1 9 fb = 0 ∧ mayB D2 = true ∧ D2.2.length = 2 ∧
    seenD (keptD D2 [true, false]) 9 = fa ∧ seenD (keptD D2 [false, false]) 9 = List.replicate 128 0 := by
  have m0 := may_zero
  have z2 := zero_len2
  have e1 : wErr zeroD 9 fa = 0 := by simp [wErr, m0, ha, z2, thereB]
  have m1 : mayB (wrD zeroD 9 fa) = true := may_write (k := 9) m0 (by omega) ha (by rw [z2]; omega)
  have l1 : (wrD zeroD 9 fa).2.length = 1 := by rw [wrD_len, z2]
  have e2 : wErr (wrD zeroD 9 fa) 9 fb = 0 := by simp [wErr, m1, hb, l1, thereB]
  have m2 : mayB (wrD (wrD zeroD 9 fa) 9 fb) = true := may_write (k := 9) m1 (by omega) hb (by rw [l1]; omega)
  refine ⟨wrD zeroD 9 fa, wrD (wrD zeroD 9 fa) 9 fb, by simp [wrR, e1], e1, m1, by simp [wrR, e2], e2, m2, by rw [wrD_len, l1], ?_, ?_⟩
  · have hz : zeroD.2 = [] := rfl
    simp [keptD, wrD, seenD, seenW, markedW, hz]
  · have hz : zeroD.2 = [] := rfl
    simp [keptD, wrD, seenD, seenW, markedW, hz, zero_at]
theorem bools_two (w : World) (t : TypeId) (a b : Bool) : rSl 1 rBool (Old (w.alloc (.cells #[.bool a, .bool b] t))) (w.alloc (.cells #[.bool a, .bool b] t)) [.slice (some ⟨w.heap.size, 0, none⟩) 2 2] [a, b] := by
  refine ⟨_, _, rfl, by simp, by decide, fun i x hx => ?_⟩
  have hi : i < 2 := by have := (List.getElem?_eq_some_iff.1 hx).1; simpa using this
  refine ⟨_, [.bool x], rfl, rfl, fun j v hj => ?_, rfl⟩
  have hj0 : j = 0 := by
    have := (List.getElem?_eq_some_iff.1 hj).1
    simp at this
    omega
  subst hj0
  cases hj
  match i, hi, hx with
  | 0, _, hx => cases hx; exact ⟨by simp [Old, Addr.add], by simp [Addr.add]⟩
  | 1, _, hx => cases hx; exact ⟨by simp [Old, Addr.add], by simp [Addr.add]⟩
theorem bools_one (w : World) (t : TypeId) (a : Bool) : rSl 1 rBool (Old (w.alloc (.cells #[.bool a] t))) (w.alloc (.cells #[.bool a] t)) [.slice (some ⟨w.heap.size, 0, none⟩) 1 1] [a] := by
  refine ⟨_, _, rfl, by simp, by decide, fun i x hx => ?_⟩
  have hi : i < 1 := by have := (List.getElem?_eq_some_iff.1 hx).1; simpa using this
  refine ⟨_, [.bool x], rfl, rfl, fun j v hj => ?_, rfl⟩
  have hj0 : j = 0 := by
    have := (List.getElem?_eq_some_iff.1 hj).1
    simp at this
    omega
  subst hj0
  cases hj
  match i, hi, hx with
  | 0, _, hx => cases hx; exact ⟨by simp [Old, Addr.add], by simp [Addr.add]⟩
theorem by_lit1 (w : World) (t : TypeId) : rBy (Old (w.alloc (.cells #[.int .u8 1] t))) (w.alloc (.cells #[.int .u8 1] t)) [.slice (some ⟨w.heap.size, 0, none⟩) 1 1] [1] := by
  refine ⟨_, _, rfl, by simp, by decide, fun i x hx => ?_⟩
  have hi : i < 1 := by have := (List.getElem?_eq_some_iff.1 hx).1; simpa using this
  match i, hi, hx with
  | 0, _, hx =>
    cases hx
    refine ⟨_, [.int .u8 1], rfl, rfl, fun j v hj => ?_, rfl⟩
    have hj0 : j = 0 := by
      have := (List.getElem?_eq_some_iff.1 hj).1
      simp at this
      omega
    subst hj0
    cases hj
    exact ⟨by simp [Old, Addr.add], by simp [Addr.add]⟩
def wroteW (D : Dk) (lo : Nat) (v : Value) (W : World) : Prop := ∃ A c B f, v = .tuple #[.agg #[.slice A D.1.length c, .slice B D.2.length f], .int .i64 0] ∧ Dsk (New lo W) W (.agg #[.slice A D.1.length c, .slice B D.2.length f]) D
def wroteD (D : Dk) (lo : Nat) (v : Value) (W : World) : Prop := ∃ A c B f, v = .agg #[.slice A D.1.length c, .slice B D.2.length f] ∧ Dsk (New lo W) W (.agg #[.slice A D.1.length c, .slice B D.2.length f]) D
theorem wroteW_step {D : Dk} {lo : Nat} {v : Value} {W W' : World} (h : wroteW D lo v W) (hb : Below W.heap.size W W') : wroteW D lo v W' := by
  obtain ⟨A, c, B, f, e, hx⟩ := h
  exact ⟨A, c, B, f, e, hx.new (Nat.le_refl _) hb⟩
theorem wroteD_step {D : Dk} {lo : Nat} {v : Value} {W W' : World} (h : wroteD D lo v W) (hb : Below W.heap.size W W') : wroteD D lo v W' := by
  obtain ⟨A, c, B, f, e, hx⟩ := h
  exact ⟨A, c, B, f, e, hx.new (Nat.le_refl _) hb⟩

set_option maxRecDepth 100000 in
set_option maxHeartbeats 8000000 in
theorem walk (w : World) :
    Calls Try.prog 3 #[] w fun e w' => e = .returned (.bool true) ∧ Below w.heap.size w w' := by
  obtain ⟨f0, hf0⟩ : ∃ fs : List UInt8, List.replicate 128 0 = fs := ⟨_, rfl⟩
  obtain ⟨fa, hfa⟩ : ∃ fs : List UInt8, List.replicate 128 1 = fs := ⟨_, rfl⟩
  obtain ⟨fb, hfb⟩ : ∃ fs : List UInt8, List.replicate 128 2 = fs := ⟨_, rfl⟩
  have la : fa.length = 128 := by rw [← hfa]; simp
  have lb : fb.length = 128 := by rw [← hfb]; simp
  have F0 : Hid (∀ W, Calls Try.prog 13 #[.int .u8 0] W fun e w' => ∃ u, e = .returned u ∧ rBy (New W.heap.size w') w' [u] f0 ∧ Below W.heap.size W w') := Lib.hid fun W => by
    have := full_any 0 W
    rw [hf0] at this
    exact this
  have F1 : Hid (∀ W, Calls Try.prog 13 #[.int .u8 1] W fun e w' => ∃ u, e = .returned u ∧ rBy (New W.heap.size w') w' [u] fa ∧ Below W.heap.size W w') := Lib.hid fun W => by
    have := full_any 1 W
    rw [hfa] at this
    exact this
  have F2 : Hid (∀ W, Calls Try.prog 13 #[.int .u8 2] W fun e w' => ∃ u, e = .returned u ∧ rBy (New W.heap.size w') w' [u] fb ∧ Below W.heap.size W w') := Lib.hid fun W => by
    have := full_any 2 W
    rw [hfb] at this
    exact this
  have r0 : Hid (rdB zeroD 0 = f0) := Lib.hid (by rw [← hf0]; simp [rdB, thereB, zero_seen])
  have r1 : Hid (rdB zeroD 256 = []) := Lib.hid (by simp [rdB, thereB])
  obtain ⟨D1, D2, q1, e1, m1, q2, e2, m2, n2, s1, s2⟩ := names_facts la lb
  rw [hf0] at s2
  have ez : Hid (wErr zeroD 9 [1] = 3) := Lib.hid (by simp [wErr, may_zero, thereB])
  replace q1 := Lib.hid q1
  replace e1 := Lib.hid e1
  replace m1 := Lib.hid m1
  replace q2 := Lib.hid q2
  replace e2 := Lib.hid e2
  replace m2 := Lib.hid m2
  replace n2 := Lib.hid n2
  replace s1 := Lib.hid s1
  replace s2 := Lib.hid s2
  clear hf0 hfa hfb la lb
  go_enter Try.func3, Try.ntmps3
  go_wp2_with fail
  with_reducible refine (alive_any _).mono ?_
  rintro e0 w0 ⟨rfl, hb0⟩
  go_wp2_with fail
  with_reducible refine (new_any _).mono ?_
  rintro e1' w1 ⟨u1, rfl, hu1, hb1⟩
  have B1 := hb0.trans (hb1.mono hb0.size)
  clear hb0 hb1
  go_wp2_with fail
  with_reducible refine (read_gen u1 zeroD 0 _ hu1.drop may_zero).mono ?_
  rintro e2' w2 ⟨E2, c2, rfl, hr2, hb2⟩
  rw [r0.out] at hr2 ⊢
  rw [show rdE 0 = 0 from rfl]
  have B2 := B1.trans (hb2.mono B1.size)
  replace hr2 := Lib.hid hr2
  clear hu1 hb2 B1
  go_wp2_with fail
  with_reducible refine (new_any _).mono ?_
  rintro e3 w3 ⟨u3, rfl, hu3, hb3⟩
  go_wp2_with fail
  with_reducible refine (read_gen u3 zeroD 256 _ hu3.drop may_zero).mono ?_
  rintro e4 w4 ⟨E4, c4, rfl, _, hb4⟩
  rw [r1.out]
  rw [show rdE 256 = 2 from rfl]
  have T4 := hb3.trans (hb4.mono hb3.size)
  clear hu3 hb3 hb4
  go_wp2_with fail
  with_reducible refine (new_any _).mono ?_
  rintro e5 w5 ⟨u5, rfl, hu5, hb5⟩
  have T5 := T4.trans (hb5.mono T4.size)
  clear hb5 T4
  go_wp2_with fail
  with_reducible refine (F1.out _).mono ?_
  rintro e6 w6 ⟨v6, rfl, hv6, hb6⟩
  have hu6 := hu5.drop.below hb6
  have T6 := T5.trans (hb6.mono T5.size)
  clear hb6 hu5 T5
  go_wp2_with fail
  with_reducible refine (write_gen u5 v6 zeroD 9 fa _ hu6 (stab_by.drop hv6)).mono ?_
  rintro e7 w7 ⟨A7, c7, B7, f7, rfl, hx7, hb7⟩
  rw [q1.out] at hx7 ⊢
  rw [e1.out]
  have T7 := T6.trans (hb7.mono T6.size)
  clear hb7 T6 hu6 hv6
  obtain ⟨w8, hw8, y8, hb8, hs8⟩ := box_new hx7
  have T8 := T7.trans (hb8.mono T7.size)
  have T7s : w2.heap.size ≤ w7.heap.size := T7.size
  obtain ⟨z1, z2, _, lt8⟩ := y8.cells
  have hd8 := Lib.hid y8.dsk
  replace y8 := Lib.hid y8
  replace hs8 := Lib.hid hs8
  clear hx7 hb8 T7
  go_upto_region 6 with fail
  clear hw8
  have hdr : Below w8.heap.size w8 w8.drew := (Below.refl _ _).drew
  go_cut [7] from 34 to 39 (fun x7 wx => x7 = .int .i64 0 ∧ ∃ A c B f, Bx wx w7.heap.size A c B f D2 ∧ Below w2.heap.size w2 wx)
  case first =>
    go_region_with (first
      | (go_at_call 13; refine (F2.out _).mono ?_; rintro e' wm ⟨u, rfl, ho, hb⟩; have hw : Below w8.heap.size w8 wm := hdr.trans hb; have p1 := (hw.cell (p := ⟨w7.heap.size, 0, none⟩) lt8).trans z1; have p2 := (hw.cell (p := ⟨w7.heap.size, 1, none⟩) lt8).trans z2)
      | (go_at_call 12; refine (write_new _ _ D1 9 fb _ (hd8.out.below hw) (stab_by.drop ho)).mono ?_; rintro e' wz ⟨A9, c9, B9, f9, rfl, hx9, hbz⟩; rw [q2.out] at hx9 ⊢; rw [e2.out]; have hz := ((hw.trans (hbz.mono hw.size)).block w7.heap.size lt8).trans y8.out.1; obtain ⟨k1, k2, k3, _⟩ := two_cells hz))
    all_goals
      (go_wp2_with fail
       go_meet
       obtain ⟨W9, hW9, g9, gr9, gs9⟩ := put_two (u := .slice A9 D2.1.length c9) (v := .slice B9 D2.2.length f9) hz
       rw [hW9]
       have TW := T8.trans ((hw.trans (hbz.mono hw.size)).mono T8.size)
       exact ⟨rfl, A9, c9, B9, f9, ⟨g9, (hx9.grown gr9 (fun q e => by cases e; exact Nat.lt_of_lt_of_le lt8 hw.size)).drop⟩, TW.grown gr9 TW.size (fun q e => by cases e; exact T7s)⟩)
  case rest =>
  obtain ⟨rfl, A9, c9, B9, f9, hy9, hb9⟩ := hcut
  obtain ⟨W9, rfl⟩ : ∃ W9 : World, W9 = wc := ⟨_, rfl⟩
  have y9 := Lib.hid hy9
  have T9 := hb9
  clear hy9 hb9 z1 z2 T8 hd8 y8 hdr
  -- the first crash
  obtain ⟨z1, z2, _, lt9⟩ := y9.out.cells
  go_wp2_with fail
  have hk := bools_two W9 4 true false
  have hlk : [true, false].length = D2.2.length := n2.out.symm
  have hba := (Below.refl W9.heap.size W9).alloc (Nat.le_refl _) (.cells #[.bool true, .bool false] 4)
  generalize W9.alloc (.cells #[.bool true, .bool false] 4) = wA at *
  with_reducible refine (crash_old _ _ D2 [true, false] _ (y9.out.dsk.below hba) hk m2.out hlk).mono ?_
  rintro eB wB ⟨AB, cB, BB, fB, rfl, hxB, hbB⟩
  have k11 := Lib.hid (settled_len1 (keptD D2 [true, false]))
  have k12 := Lib.hid (settled_len2 (keptD D2 [true, false]))
  have k19 := settled_at (d := keptD D2 [true, false]) (k := 9) (by omega)
  rw [s1.out] at k19
  obtain ⟨K1, hK1⟩ : ∃ K, settledD (keptD D2 [true, false]) = K := ⟨_, rfl⟩
  rw [hK1] at hxB k11 k12 k19 ⊢
  replace k19 := Lib.hid k19
  obtain ⟨wC, hwC, yC, hbC, hsC⟩ := box_new hxB
  have L1 := hba.trans ((hbB.trans (hbC.mono hbB.size)).mono hba.size)
  have TC := T9.trans (L1.mono T9.size)
  have y10 := Lib.hid (y9.out.below L1)
  replace yC := Lib.hid yC
  replace hsC := Lib.hid hsC
  clear hK1 hxB hbB hbC hba hk hlk L1 T9 y9 z1 z2 lt9
  go_upto_region 8 with fail
  clear hwC
  -- the second
  obtain ⟨z1, z2, _, lt9⟩ := y10.out.cells
  go_wp2_with fail
  have hk := bools_two wC 4 false false
  have hlk : [false, false].length = D2.2.length := n2.out.symm
  have hba := (Below.refl wC.heap.size wC).alloc (Nat.le_refl _) (.cells #[.bool false, .bool false] 4)
  generalize wC.alloc (.cells #[.bool false, .bool false] 4) = wD at *
  with_reducible refine (crash_old _ _ D2 [false, false] _ (y10.out.dsk.below hba) hk m2.out hlk).mono ?_
  rintro eE wE ⟨AE, cE, BE, fE, rfl, hxE, hbE⟩
  have k21 := Lib.hid (settled_len1 (keptD D2 [false, false]))
  have k29 := settled_at (d := keptD D2 [false, false]) (k := 9) (by omega)
  rw [s2.out] at k29
  obtain ⟨K2, hK2⟩ : ∃ K, settledD (keptD D2 [false, false]) = K := ⟨_, rfl⟩
  rw [hK2] at hxE k21 k29 ⊢
  replace k29 := Lib.hid k29
  obtain ⟨wF, hwF, yF, hbF, hsF⟩ := box_new hxE
  have L1 := hba.trans ((hbE.trans (hbF.mono hbE.size)).mono hba.size)
  have TF := TC.trans (L1.mono TC.size)
  have y11 := Lib.hid (y10.out.below L1)
  have yC1 := Lib.hid (yC.out.below L1)
  replace yF := Lib.hid yF
  replace hsF := Lib.hid hsF
  clear hK2 hxE hbE hbF hba hk hlk L1 TC y10 yC z1 z2 lt9
  go_upto_region 9 with fail
  clear hwF
  -- the third
  obtain ⟨z1, z2, _, lt9⟩ := y11.out.cells
  go_wp2_with fail
  have hk := bools_one wF 4 true
  have hba := (Below.refl wF.heap.size wF).alloc (Nat.le_refl _) (.cells #[.bool true] 4)
  generalize wF.alloc (.cells #[.bool true] 4) = wG at *
  with_reducible refine (crash_len _ _ D2 [true] _ (y11.out.dsk.below hba) hk m2.out (by rw [n2.out]; decide)).mono ?_
  rintro eH wH ⟨rfl, hbH⟩
  obtain ⟨wI, hwI, _, _, hbI⟩ := box_pair' wH (.slice none 0 0) (.slice none 0 0) 30
  have L1 := hba.trans ((hbH.trans (hbI.mono hbH.size)).mono hba.size)
  have TI := TF.trans (L1.mono TF.size)
  have yC2 := Lib.hid (yC1.out.below L1)
  have yF2 := Lib.hid (yF.out.below L1)
  replace hwI := Lib.hid hwI
  clear hbH hbI hba hk L1 TF y11 yC1 yF z1 z2 lt9
  go_upto_region 10 with fail
  rw [hwI.out]
  clear hwI
  -- too short
  go_wp2_with fail
  with_reducible refine (new_any _).mono ?_
  rintro eJ wJ ⟨uJ, rfl, huJ, hbJ⟩
  go_wp2_with fail
  have hk := by_lit1 wJ 5
  have hba := (Below.refl wJ.heap.size wJ).alloc (Nat.le_refl _) (.cells #[.int .u8 1] 5)
  have huK := huJ.drop.below hba
  generalize wJ.alloc (.cells #[.int .u8 1] 5) = wK at *
  with_reducible refine (write_gen uJ _ zeroD 9 [1] _ huK hk).mono ?_
  rintro eL wL ⟨AL, cL, BL, fL, rfl, hxL, hbL⟩
  rw [ez.out]
  obtain ⟨D3, hD3⟩ : ∃ D, wrR zeroD 9 [1] = D := ⟨_, rfl⟩
  rw [hD3] at hxL ⊢
  obtain ⟨wM, hwM, _, hbM, _⟩ := box_new hxL
  have L1 := hbJ.trans ((hba.trans ((hbL.trans (hbM.mono hbL.size)).mono hba.size)).mono hbJ.size)
  have TM := TI.trans (L1.mono TI.size)
  have yC3 := Lib.hid (yC2.out.below L1)
  have yF3 := Lib.hid (yF2.out.below L1)
  clear hD3 hxL hbL hbM hba hk L1 TI yC2 yF2 huK huJ hbJ
  go_upto_region 11 with fail
  clear hwM
  obtain ⟨z1, z2, _, lt1⟩ := yC3.out.cells
  obtain ⟨z3, z4, _, lt2⟩ := yF3.out.cells
  obtain ⟨_, _, _, _, ev, _, _, _, _, hC9, _⟩ := yC3.out.dsk.open
  cases ev
  obtain ⟨_, _, _, _, ev, _, _, _, _, hF9, _⟩ := yF3.out.dsk.open
  cases ev
  obtain ⟨ad, bv, rfl, ho1, hc1, hby1⟩ := hC9 9 _ k19.out
  obtain ⟨ad2, sv, rfl, ho2, hc2, hby2⟩ := hF9 9 _ k29.out
  clear hC9 hF9
  have HS := Lib.hid (fun W (hC : Below wM.heap.size wM W) => (⟨rBy_str0 (stab_by.old (stab_by.old hr2.out TM) hC), rBy_str0 (stab_by.old hby1 hC), rBy_str0 (stab_by.old hby2 hC)⟩ : _ ∧ _ ∧ _))
  obtain ⟨X1, d1, rfl, _⟩ := rBy_open hby1
  obtain ⟨X2, d2, rfl, _⟩ := rBy_open hby2
  rw [k11.out] at z1
  rw [k12.out] at z2
  rw [k21.out] at z3
  have hc1' := hc1
  have hc2' := hc2
  simp only [Addr.add] at hc1' hc2'
  clear hby1 hby2 z4
  go_upto_region 13 with fail
  have HP : Hid (∀ W, Below wM.heap.size wM W → W.cell? ⟨wB.heap.size, 0, none⟩ = some (.slice (some ad) 256 cB) ∧ W.cell? ⟨wB.heap.size, 1, none⟩ = some (.slice BB 0 fB) ∧ W.cell? ⟨wE.heap.size, 0, none⟩ = some (.slice (some ad2) 256 cE) ∧
      W.cell? ⟨ad.block, ad.off + 9, none⟩ = some (.slice X1 fa.length d1) ∧ W.cell? ⟨ad2.block, ad2.off + 9, none⟩ = some (.slice X2 f0.length d2)) := Lib.hid fun W hC =>
    ⟨(hC.cell (p := ⟨wB.heap.size, 0, none⟩) lt1).trans z1, (hC.cell (p := ⟨wB.heap.size, 1, none⟩) lt1).trans z2, (hC.cell (p := ⟨wE.heap.size, 0, none⟩) lt2).trans z3, by have := (hC.cell ho1).trans hc1; simpa [Addr.add] using this, by have := (hC.cell ho2).trans hc2; simpa [Addr.add] using this⟩
  clear z1 z2 z3 hc1 hc2 ho1 ho2 hc1' hc2'
  refine wp_region_fx (by kernel_rfl) (fun W => Below wM.heap.size wM W) (fun i => match i with
      | 7 => some (fun v W => rBy (New wM.heap.size W) W [v] f0)
      | 33 => some (fun v W => rBy (New wM.heap.size W) W [v] fa)
      | 53 => some (fun v W => rBy (New wM.heap.size W) W [v] f0)
      | _ => none) (fun i => match i with
      | 67 => some (.int .i64 8)
      | _ => none) (by kernel_rfl) (Below.refl _ _).drew (fun w w' h hb => h.trans (hb.mono h.size)) ?tsu ?_
  case tsu =>
    intro j φ x W W' hp hx hb
    match j, hp with
    | 7, hp => cases hp; exact stab_by.new hx (Nat.le_refl _) hb
    | 33, hp => cases hp; exact stab_by.new hx (Nat.le_refl _) hb
    | 53, hp => cases hp; exact stab_by.new hx (Nat.le_refl _) hb
  repeat (first
    | (refine wpAs_skip rfl ?_; simp only [Act.put, List.setIfInBounds_toArray, List.set_cons_zero, List.set_cons_succ])
    | (refine wpAs_pure (v := ?_) rfl rfl ?_ ?_; rotate_left; (intro W hC hE; clear hE; (have q := (HS.out W hC).1); clear hC; go_simp; done); simp only [Act.put, List.setIfInBounds_toArray, List.set_cons_zero, List.set_cons_succ])
    | (refine wpAs_pure (v := ?_) rfl rfl ?_ ?_; rotate_left; (intro W hC hE; clear hE; (have q := (HS.out W hC).1); clear hC; go_simp; with_reducible rfl); simp only [Act.put, List.setIfInBounds_toArray, List.set_cons_zero, List.set_cons_succ]))
  refine wpAs_act rfl rfl ?_ ?_
  · intro W hC hE
    clear hE
    refine does_enter (f := 13) (args := #[.int .u8 0]) ?_ ?_
    · go_simp
    · refine (F0.out W).mono ?_
      rintro e W' ⟨u, rfl, ho, hb⟩
      exact ⟨_, rfl, stab_by.mono ho hC.size, hb⟩
  simp only [Act.put, List.setIfInBounds_toArray, List.set_cons_zero, List.set_cons_succ, envAdd]
  intro x81
  refine wpAs_pure (v := .string ⟨f0.toArray⟩) rfl rfl (fun W hC hE => run_convert_op _ _ _ rfl rfl (rBy_str0 (stab_by.drop (hE.1 rfl)))) ?_
  simp only [Act.put, List.setIfInBounds_toArray, List.set_cons_zero, List.set_cons_succ]
  repeat (first
    | (refine wpAs_skip rfl ?_; simp only [Act.put, List.setIfInBounds_toArray, List.set_cons_zero, List.set_cons_succ])
    | (refine wpAs_pure (v := ?_) rfl rfl ?_ ?_; rotate_left; (intro W hC hE; clear hE; (have q := (HS.out W hC).2.1; obtain ⟨p1, p2, p3, p4, p5⟩ := HP.out W hC); clear hC; go_simp; done); simp only [Act.put, List.setIfInBounds_toArray, List.set_cons_zero, List.set_cons_succ])
    | (refine wpAs_pure (v := ?_) rfl rfl ?_ ?_; rotate_left; (intro W hC hE; clear hE; (have q := (HS.out W hC).2.1; obtain ⟨p1, p2, p3, p4, p5⟩ := HP.out W hC); clear hC; go_simp; with_reducible rfl); simp only [Act.put, List.setIfInBounds_toArray, List.set_cons_zero, List.set_cons_succ]))
  refine wpAs_act rfl rfl ?_ ?_
  · intro W hC hE
    clear hE
    refine does_enter (f := 13) (args := #[.int .u8 1]) ?_ ?_
    · go_simp
    · refine (F1.out W).mono ?_
      rintro e W' ⟨u, rfl, ho, hb⟩
      exact ⟨_, rfl, stab_by.mono ho hC.size, hb⟩
  simp only [Act.put, List.setIfInBounds_toArray, List.set_cons_zero, List.set_cons_succ, envAdd]
  intro x107
  refine wpAs_pure (v := .string ⟨fa.toArray⟩) rfl rfl (fun W hC hE => run_convert_op _ _ _ rfl rfl (rBy_str0 (stab_by.drop (hE.1 rfl)))) ?_
  simp only [Act.put, List.setIfInBounds_toArray, List.set_cons_zero, List.set_cons_succ]
  repeat (first
    | (refine wpAs_skip rfl ?_; simp only [Act.put, List.setIfInBounds_toArray, List.set_cons_zero, List.set_cons_succ])
    | (refine wpAs_pure (v := ?_) rfl rfl ?_ ?_; rotate_left; (intro W hC hE; clear hE; (have q := (HS.out W hC).2.2; obtain ⟨p1, p2, p3, p4, p5⟩ := HP.out W hC); clear hC; go_simp; done); simp only [Act.put, List.setIfInBounds_toArray, List.set_cons_zero, List.set_cons_succ])
    | (refine wpAs_pure (v := ?_) rfl rfl ?_ ?_; rotate_left; (intro W hC hE; clear hE; (have q := (HS.out W hC).2.2; obtain ⟨p1, p2, p3, p4, p5⟩ := HP.out W hC); clear hC; go_simp; with_reducible rfl); simp only [Act.put, List.setIfInBounds_toArray, List.set_cons_zero, List.set_cons_succ]))
  refine wpAs_act rfl rfl ?_ ?_
  · intro W hC hE
    clear hE
    refine does_enter (f := 13) (args := #[.int .u8 0]) ?_ ?_
    · go_simp
    · refine (F0.out W).mono ?_
      rintro e W' ⟨u, rfl, ho, hb⟩
      exact ⟨_, rfl, stab_by.mono ho hC.size, hb⟩
  simp only [Act.put, List.setIfInBounds_toArray, List.set_cons_zero, List.set_cons_succ, envAdd]
  intro x127
  refine wpAs_pure (v := .string ⟨f0.toArray⟩) rfl rfl (fun W hC hE => run_convert_op _ _ _ rfl rfl (rBy_str0 (stab_by.drop (hE.1 rfl)))) ?_
  simp only [Act.put, List.setIfInBounds_toArray, List.set_cons_zero, List.set_cons_succ]
  repeat (first
    | (refine wpAs_skip rfl ?_; simp only [Act.put, List.setIfInBounds_toArray, List.set_cons_zero, List.set_cons_succ])
    | (refine wpAs_pure (v := ?_) rfl rfl ?_ ?_; rotate_left; (intro W hC hE; clear hE; skip; clear hC; go_simp; done); simp only [Act.put, List.setIfInBounds_toArray, List.set_cons_zero, List.set_cons_succ])
    | (refine wpAs_pure (v := ?_) rfl rfl ?_ ?_; rotate_left; (intro W hC hE; clear hE; skip; clear hC; go_simp; with_reducible rfl); simp only [Act.put, List.setIfInBounds_toArray, List.set_cons_zero, List.set_cons_succ]))
  refine wpAs_fixed rfl rfl rfl ?_ ?_
  · intro W hC hE
    clear hE
    refine does_enter (f := 15) (args := #[.agg #[.slice none 0 0, .slice none 0 0]]) ?_ ?_
    · go_simp
    · refine (check_any _ emptyD W (dsk_empty_new 0 W).drop).mono ?_
      rintro e W' ⟨rfl, hb⟩
      rw [show chk emptyD = 8 from chk_bad may_empty]
      exact ⟨_, rfl, rfl, hb⟩
  simp only [Act.put, List.setIfInBounds_toArray, List.set_cons_zero, List.set_cons_succ]
  repeat (first
    | (refine wpAs_skip rfl ?_; simp only [Act.put, List.setIfInBounds_toArray, List.set_cons_zero, List.set_cons_succ])
    | (refine wpAs_pure (v := ?_) rfl rfl ?_ ?_; rotate_left; (intro W hC hE; clear hE; skip; clear hC; go_simp; done); simp only [Act.put, List.setIfInBounds_toArray, List.set_cons_zero, List.set_cons_succ])
    | (refine wpAs_pure (v := ?_) rfl rfl ?_ ?_; rotate_left; (intro W hC hE; clear hE; skip; clear hC; go_simp; with_reducible rfl); simp only [Act.put, List.setIfInBounds_toArray, List.set_cons_zero, List.set_cons_succ]))
  refine wpAs_end fun W hC hE => ?_
  clear hE
  have hBW := B2.trans ((TM.trans (hC.mono TM.size)).mono B2.size)
  go_wp2
  go_ret
  exact ⟨rfl, hBW⟩

/-! ### The row's step -/
set_option maxRecDepth 100000 in
theorem lifted (os : Os) (started : os.Started) (H : Type) (enc : TypeId × Value → H) :
    ReturnsInHanded {} Try.checked os 3 .any (Rows.devNamesSpec.pre6 enc Try.prog Try.f3 Rows.devNamesRow.domain false) (Rows.devNamesSpec.post enc Try.prog Try.f3 false true false false) := by
  refine returnsInHanded_of_change (C := Try.checked) own started (by kernel_rfl) Try.func3
    (ChangeSpec.witness6 (enc := enc) (C := Try.checked) false ⟨#[], #[], []⟩ 8 (by kernel_rfl) (by kernel_rfl) (by kernel_rfl) (by kernel_rfl)) ?_
  intro W base args ds gs before hval0 hW _ _
  have hval : ∀ (j : Nat) t v, Try.f3.params[j]? = some t → args[j]? = some v → Value.okWide Try.prog W .any base t v := hval0
  have hW' := hW
  obtain ⟨p, q, hA0, hV, _, _, _⟩ := hW
  have hA : DataW.TrodAll enc Try.prog W 0 (fun _ => true) true Try.f3.params.toList args.toList ds p := hA0
  rw [Try.params3] at hA hval
  obtain ⟨hargs, rfl, _⟩ := trodAll_nil hA
  obtain rfl : args = #[] := by cases args; simp_all
  obtain ⟨rfl, _⟩ := trodVars_none hV
  clear hA0 hval0
  refine (walk  W ).mono fun e W' ⟨he, hb⟩ => ?_
  subst he
  exact ⟨_, rfl, law_post laidOut (by rw [Try.params3]; decide +kernel) (by kernel_rfl) Try.underlying4 rfl ⟨rfl, by simp [Rows.devNamesSpec], rfl⟩ hW' hb⟩

theorem over : Rows.devNamesRow.holds Try.pinned (OpenSpec.ofChange Rows.devNamesSpec) :=
  OpenClaim.holds_of_wide 3 Try.f3 rfl rfl rfl rfl rfl rfl rfl ⟨rfl, rfl, rfl, rfl, rfl⟩ rfl rfl rfl rfl rfl (by kernel_rfl) Try.func3 (by kernel_rfl)
    (of_decide_eq_true (by kernel_rfl)) (by unfold Func.isWrapper; first | (rw [if_pos (by decide +kernel)]; kernel_rfl) | (rw [if_neg (by decide +kernel)]; exact ⟨rfl, rfl⟩))
    (fun os started H enc _ => lifted os started H enc)

end Go.Proofs.Ytkedhekcjoiebaa.devNames
namespace Go.Proofs.Ytkedhekcjoiebaa
theorem devNames_proved : Rows.DevNamesSaid := devNames.over
end Go.Proofs.Ytkedhekcjoiebaa
