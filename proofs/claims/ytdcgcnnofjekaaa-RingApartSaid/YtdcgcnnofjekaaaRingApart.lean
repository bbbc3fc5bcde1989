/-
  For every disk, two superblocks, number and bytes RingApart answers true and leaves its arguments as they were. No condition.
-/
import Derived.Test.YtdcgcnnofjekaaaBnd3
import Derived.Deep.CutBlock
namespace Go.Proofs.Ytdcgcnnofjekaaa.ringApart
open Go.ChangeShapes Go.WideShapes Go.RowKit

theorem own : ownKnob Try.prog.godebug = none := by kernel_rfl
theorem laidOut : laidOutB Try.prog = true := by kernel_rfl

def OldL (v : Value) (xs : List Sp) : World → Prop := fun w => rSl 5 rSp (Old w) w [v] xs
theorem lasts_oldL (v : Value) (xs : List Sp) : Lasts (OldL v xs) := fun _ _ h hb => (stab_sl stab_sp).old h hb
theorem oldL_new {lo : Nat} {w : World} {v : Value} {xs : List Sp} (h : rSl 5 rSp (New lo w) w [v] xs) : OldL v xs w := (stab_sl stab_sp) _ _ _ _ _ _ (fun p v hp hc => ⟨hp.2.1, hc⟩) h
set_option maxRecDepth 100000 in
set_option maxHeartbeats 16000000 in
theorem walk (v : Value) (d : Dk) (u1 : Value) (s : Sp) (u2 : Value) (t : Sp) (n : Int) (hn : (Lit.int .i64 n).wf = true) (u : Value) (xs : List UInt8) (w : World) (h : Dsk (Old w) w v d) (hs : Sup (Old w) w u1 s) (ht : Sup (Old w) w u2 t) (hu : rBy (Old w) w [u] xs) :
    Calls Try.prog 8 #[v, u1, u2, .int .i64 n, u] w fun e w' => e = .returned (.bool true) ∧ Below w.heap.size w w' := by
  clear hn
  obtain ⟨A, c, B, f, rfl, _⟩ := id h.open
  obtain ⟨D, dc, rfl, ins, _⟩ := id hs.open
  obtain ⟨D', dc', rfl, int, _⟩ := id ht.open
  obtain ⟨E, ce, rfl, lE, mE, _⟩ := id (rBy_open hu)
  have ins' := Lib.hid ins
  have int' := Lib.hid int
  have G1 := ((((Bag.nil w).add (F := OldD (.agg #[.slice A d.1.length c, .slice B d.2.length f]) d) h (lasts_oldD _ _)).add (F := OldS (supV s D dc) s) hs (lasts_oldS _ _)).add (F := OldS (supV t D' dc') t) ht (lasts_oldS _ _)).add (F := OldB (.slice E xs.length ce) xs) hu (lasts_oldB _ _)
  obtain ⟨w1, hw1, G2, hB1, _, _⟩ := bag_box G1 (Below.refl _ _) (.slice A d.1.length c) (.slice B d.2.length f)
  obtain ⟨w2, hw2, G3, hB2, _, _⟩ := bag_box5 G2 (Below.refl _ _) (.int .u32 s.1) (.int .i64 s.2.1) (.int .u32 s.2.2.1) (.int .u32 s.2.2.2.1) (.slice D s.2.2.2.2.length dc)
  obtain ⟨w3, hw3, G4, hB3, _, _⟩ := bag_box5 G3 (Below.refl _ _) (.int .u32 t.1) (.int .i64 t.2.1) (.int .u32 t.2.2.1) (.int .u32 t.2.2.2.1) (.slice D' t.2.2.2.2.length dc')
  have HG := Lib.hid G4
  have HW := Lib.hid (((hB1.trans (hB2.mono hB1.size)).trans (hB3.mono (hB1.trans (hB2.mono hB1.size)).size)))
  replace hw3 := Lib.hid hw3
  clear G1 G2 G3 G4 h hs ht hu hB1 hB2 hB3 ins int
  go_enter Try.func8, Try.ntmps8
  go_upto_region 1 with fail
  rw [hw3.out]
  clear hw1 hw2 hw3
  go_wp2_with fail
  with_reducible refine (alive4 _).mono ?_
  rintro e3 wa ⟨rfl, hb3⟩
  replace HG := Lib.hid (HG.out.below hb3)
  replace HW := Lib.hid (HW.out.trans (hb3.mono HW.out.size))
  clear hb3
  obtain ⟨k1, k2, _⟩ := HG.out.at 2 rfl
  have xd : Dsk (Old wa) wa _ _ := HG.out.at 6 rfl
  go_wp2_with fail
  with_reducible refine (great_any _ _ _ xd).mono ?_
  rintro e4 w4 ⟨rfl, hb4⟩
  replace HG := Lib.hid (HG.out.below hb4)
  replace HW := Lib.hid (HW.out.trans (hb4.mono HW.out.size))
  clear hb4 k1 k2 xd
  cases hg : greatB d with
  | true =>
    go_wp2_with fail
    go_ret
    exact ⟨rfl, HW.out⟩
  | false =>
  clear hg
  by_cases hl : 10000 < xs.length
  · have hl' : (10000 : Int) < xs.length := by omega
    go_wp2_with fail
    go_ret
    exact ⟨rfl, HW.out⟩
  have hl' : ¬ (10000 : Int) < xs.length := by omega
  clear hl
  obtain ⟨k1, k2, _⟩ := HG.out.at 2 rfl
  obtain ⟨s0, s1, s2, s3, s4, _⟩ := HG.out.at 1 rfl
  have xd : Dsk (Old w4) w4 _ _ := HG.out.at 6 rfl
  have xs1 : Sup (Old w4) w4 _ _ := HG.out.at 5 rfl
  go_wp2_with fail
  with_reducible refine (put_any _ _ d s _ xd xs1).mono ?_
  rintro e5 w5 ⟨u5, rfl, h5, hb5⟩
  obtain ⟨R1, hR1⟩ : ∃ R, putR d s = R := ⟨_, rfl⟩
  obtain ⟨q1, hq1⟩ : ∃ q, putE d s = q := ⟨_, rfl⟩
  rw [hR1] at h5
  rw [hq1]
  obtain ⟨A5, c5, B5, f5, rfl, _⟩ := id h5.open
  obtain ⟨w6, hw6, y6, hs6, b6⟩ := box_pair' w5 (.slice A5 R1.1.length c5) (.slice B5 R1.2.length f5) 30
  have Z6 := Lib.hid (show w4.heap.size ≤ w5.heap.size ∧ w5.heap.size < w6.heap.size from ⟨hb5.size, by omega⟩)
  have h6 := Lib.hid (h5.drop.below b6)
  have C6 := Lib.hid (hb5.trans (b6.mono hb5.size))
  obtain ⟨x1, x2, xf, _⟩ := two_cells y6
  replace y6 := Lib.hid y6
  clear hb5 h5 b6 hs6 k1 k2 s0 s1 s2 s3 s4 xd xs1
  go_upto_region 5 with fail
  clear hw6
  obtain ⟨t0, t1, t2, t3, t4, _⟩ := (HG.out.below C6.out).at 0 rfl
  have xt : Sup (Old w6) w6 _ _ := (HG.out.below C6.out).at 4 rfl
  go_wp2_with fail
  with_reducible refine (put_any _ _ R1 t _ h6.out xt).mono ?_
  rintro e7 w7 ⟨u7, rfl, h7, hb7⟩
  obtain ⟨R2, hR2⟩ : ∃ R, putR R1 t = R := ⟨_, rfl⟩
  obtain ⟨q2, hq2⟩ : ∃ q, putE R1 t = q := ⟨_, rfl⟩
  rw [hR2] at h7
  rw [hq2]
  obtain ⟨A7, c7, B7, f7, rfl, _⟩ := id h7.open
  have y7 := (hb7.block w5.heap.size Z6.out.2).trans y6.out
  obtain ⟨w8, hw8, y8, gr8, gs8⟩ := put_two (u := .slice A7 R2.1.length c7) (v := .slice B7 R2.2.length f7) y7
  have C7 := C6.out.trans (hb7.mono C6.out.size)
  have C8 := Lib.hid (C7.grown gr8 C7.size (fun q e => by cases e; exact Z6.out.1))
  have h8 := Lib.hid ((h7.grown gr8 (fun q e => by cases e; exact Z6.out.2)).drop)
  have Z8 := Lib.hid (show w5.heap.size < w8.heap.size from by have := Z6.out; have := hb7.size; omega)
  obtain ⟨m1, m2, mf, _⟩ := two_cells y7
  replace y7 := Lib.hid y7
  replace y8 := Lib.hid y8
  replace gs8 := Lib.hid gs8
  clear hb7 h7 gr8 C7 x1 x2 xf t0 t1 t2 t3 t4 xt h6
  go_upto_region 6 with fail
  clear hw8 m1 m2 mf
  obtain ⟨k1, k2, _⟩ := (HG.out.below C8.out).at 2 rfl
  obtain ⟨t0, t1, t2, t3, t4, _⟩ := (HG.out.below C8.out).at 0 rfl
  have xd : Dsk (Old w8) w8 _ _ := (HG.out.below C8.out).at 6 rfl
  have xt : Sup (Old w8) w8 _ _ := (HG.out.below C8.out).at 4 rfl
  go_wp2_with fail
  with_reducible refine (put_any _ _ d t _ xd xt).mono ?_
  rintro e9 w9 ⟨u9, rfl, h9, hb9⟩
  obtain ⟨R3, hR3⟩ : ∃ R, putR d t = R := ⟨_, rfl⟩
  obtain ⟨q3, hq3⟩ : ∃ q, putE d t = q := ⟨_, rfl⟩
  rw [hR3] at h9
  rw [hq3]
  obtain ⟨A9, c9, B9, f9, rfl, _⟩ := id h9.open
  obtain ⟨w10, hw10, y10, hs10, b10⟩ := box_pair' w9 (.slice A9 R3.1.length c9) (.slice B9 R3.2.length f9) 30
  have D10 := Lib.hid (hb9.trans (b10.mono hb9.size))
  have Z10 := Lib.hid (show w4.heap.size ≤ w9.heap.size ∧ w9.heap.size < w10.heap.size ∧ w8.heap.size ≤ w9.heap.size from ⟨Nat.le_trans C8.out.size hb9.size, by omega, hb9.size⟩)
  have h10 := Lib.hid (h9.drop.below b10)
  have C10 := Lib.hid (C8.out.trans (D10.out.mono C8.out.size))
  obtain ⟨x1, x2, xf, _⟩ := two_cells y10
  replace y10 := Lib.hid y10
  clear hb9 h9 b10 hs10 k1 k2 t0 t1 t2 t3 t4 xd xt
  go_upto_region 7 with fail
  clear hw10
  obtain ⟨s0, s1, s2, s3, s4, _⟩ := (HG.out.below C10.out).at 1 rfl
  have xs1 : Sup (Old w10) w10 _ _ := (HG.out.below C10.out).at 5 rfl
  go_wp2_with fail
  with_reducible refine (put_any _ _ R3 s _ h10.out xs1).mono ?_
  rintro e11 w11 ⟨u11, rfl, h11, hb11⟩
  obtain ⟨R4, hR4⟩ : ∃ R, putR R3 s = R := ⟨_, rfl⟩
  obtain ⟨q4, hq4⟩ : ∃ q, putE R3 s = q := ⟨_, rfl⟩
  rw [hR4] at h11
  rw [hq4]
  obtain ⟨A11, c11, B11, f11, rfl, _⟩ := id h11.open
  have y11 := (hb11.block w9.heap.size Z10.out.2.1).trans y10.out
  obtain ⟨w12, hw12, y12, gr12, gs12⟩ := put_two (u := .slice A11 R4.1.length c11) (v := .slice B11 R4.2.length f11) y11
  have C11 := C10.out.trans (hb11.mono C10.out.size)
  have C12 := C11.grown gr12 C11.size (fun q e => by cases e; exact Z10.out.1)
  have D11 := D10.out.trans (hb11.mono D10.out.size)
  have D12 := D11.grown gr12 D11.size (fun q e => by cases e; exact Z10.out.2.2)
  have h12 := (h11.grown gr12 (fun q e => by cases e; exact Z10.out.2.1)).drop
  have z8 := (D12.block w5.heap.size Z8.out).trans y8.out
  obtain ⟨a1, a2, _, a3⟩ := two_cells z8
  obtain ⟨b1, b2, _, b3⟩ := two_cells y12
  replace HW := Lib.hid (HW.out.trans (C12.mono HW.out.size))
  replace HG := Lib.hid (((((HG.out.below C12).add (F := OldD (.agg #[.slice A7 R2.1.length c7, .slice B7 R2.2.length f7]) R2) (h8.out.below D12) (lasts_oldD _ _)).add (F := OldD (.agg #[.slice A11 R4.1.length c11, .slice B11 R4.2.length f11]) R4) h12 (lasts_oldD _ _)).add (F := Box2 w5.heap.size (.slice A7 R2.1.length c7) (.slice B7 R2.2.length f7)) ⟨a1, a2, a3⟩ (lasts_box _ _ _)).add (F := Box2 w9.heap.size (.slice A11 R4.1.length c11) (.slice B11 R4.2.length f11)) ⟨b1, b2, b3⟩ (lasts_box _ _ _))
  obtain ⟨m1, m2, mf, _⟩ := two_cells y11
  replace y11 := Lib.hid y11
  replace gs12 := Lib.hid gs12
  clear hb11 h11 gr12 C11 C12 D11 D12 h12 z8 a1 a2 a3 b1 b2 b3 y12 x1 x2 xf s0 s1 s2 s3 s4 xs1 h10 h8 C6 C8 C10 D10
  go_upto_region 8 with fail
  clear hw12 m1 m2 mf y6 y7 y8 y10 y11 gs8 gs12
  by_cases e1 : q1 = 0
  case neg =>
    have ht : (q1 != 0) = true := by simpa using e1
    clear e1
    go_wp2_with fail
    go_ret
    exact ⟨rfl, HW.out⟩
  subst e1
  by_cases e2 : q2 = 0
  case neg =>
    have ht : (q2 != 0) = true := by simpa using e2
    clear e2
    go_wp2_with fail
    go_ret
    exact ⟨rfl, HW.out⟩
  subst e2
  by_cases e3 : q3 = 0
  case neg =>
    have ht : (q3 != 0) = true := by simpa using e3
    clear e3
    go_wp2_with fail
    go_ret
    exact ⟨rfl, HW.out⟩
  subst e3
  by_cases e4 : q4 = 0
  case neg =>
    have ht : (q4 != 0) = true := by simpa using e4
    clear e4
    go_wp2_with fail
    go_ret
    exact ⟨rfl, HW.out⟩
  subst e4
  have F2 := Lib.hid (show findE R2 = 0 by rw [← hR2]; exact find_put int'.out hq2)
  have F4 := Lib.hid (show findE R4 = 0 by rw [← hR4]; exact find_put ins'.out hq4)
  have SW := Lib.hid (show s.1 % 4 ≠ t.1 % 4 → findS R2 = findS R4 from fun hne => by
    have := put_swap ins'.out int'.out hq1 (by rw [hR1]; exact hq2) hq3 (by rw [hR3]; exact hq4) hne
    rwa [hR1, hR2, hR3, hR4] at this)
  have TW := Lib.hid (show putE R2 t = 0 → findS (putR R2 t) = findS R2 ∧ findE (putR R2 t) = 0 from fun h => by
    have := put_twice int'.out hq2 (by rw [hR2]; exact h)
    rw [hR2] at this
    exact ⟨this.1, by rw [this.2, F2.out]⟩)
  clear hq1 hq2 hq3 hq4 hR1 hR2 hR3 hR4
  obtain ⟨k1, k2, _⟩ := HG.out.at 1 rfl
  have xd : Dsk (Old w12) w12 _ _ := HG.out.at 3 rfl
  go_wp2_with fail
  with_reducible refine (find_any _ R2 _ xd).mono ?_
  rintro e13 w13 ⟨u13, rfl, h13, hb13⟩
  rw [F2.out]
  replace HG := Lib.hid ((HG.out.below hb13).add (F := OldL u13 (findS R2)) (oldL_new h13) (lasts_oldL _ _))
  replace HW := Lib.hid (HW.out.trans (hb13.mono HW.out.size))
  clear hb13 h13 k1 k2 xd
  obtain ⟨k1, k2, _⟩ := HG.out.at 1 rfl
  have xd : Dsk (Old w13) w13 _ _ := HG.out.at 3 rfl
  go_wp2_with fail
  with_reducible refine (find_any _ R4 _ xd).mono ?_
  rintro e14 w14 ⟨u14, rfl, h14, hb14⟩
  rw [F4.out]
  replace HG := Lib.hid ((HG.out.below hb14).add (F := OldL u14 (findS R4)) (oldL_new h14) (lasts_oldL _ _))
  replace HW := Lib.hid (HW.out.trans (hb14.mono HW.out.size))
  clear hb14 h14 k1 k2 xd
  obtain ⟨⟨g0, g1⟩, _, _, _⟩ := ins'.out
  obtain ⟨⟨g2, g3⟩, _, _, _⟩ := int'.out
  obtain ⟨a, ha⟩ : ∃ a, s.1 % 4 = a := ⟨_, rfl⟩
  obtain ⟨b, hb⟩ : ∃ b, t.1 % 4 = b := ⟨_, rfl⟩
  rw [ha, hb] at SW
  replace ha := Lib.hid ha
  replace hb := Lib.hid hb
  have HQ : Hid (∀ W, Below w14.heap.size w14 W → Bag W _) := Lib.hid fun W hb => HG.out.below hb
  go_upto_region 12 with fail
  have hab : ∃ p : Bool, (a != b) = p ∧ (p = true → findS R2 = findS R4) := ⟨_, rfl, fun h => SW.out (by simpa using h)⟩
  obtain ⟨p, hab, SP⟩ := hab
  replace SP := Lib.hid SP
  cases p
  case false =>
    refine wp_region_fx (by kernel_rfl) (fun W => Below w14.heap.size w14 W) (fun _ => none) (fun i => match i with
      | 9 => some (.int .i64 a)
      | 12 => some (.int .i64 b)
      | _ => none) (by kernel_rfl) (Below.refl _ _).drew (fun w w' h hb => h.trans (hb.mono h.size)) (fun j φ x W W' hp => by cases hp) ?_
    repeat (first
      | (refine wpAs_skip rfl ?_; simp only [Act.put, List.setIfInBounds_toArray, List.set_cons_zero, List.set_cons_succ])
      | (refine wpAs_pure (v := ?_) rfl rfl ?_ ?_; rotate_left; (intro W hC hE; clear hE; (obtain ⟨z0, z1, z2, z3, z4, _⟩ := (HQ.out W hC).at 7 rfl; obtain ⟨y0, y1, y2, y3, y4, _⟩ := (HQ.out W hC).at 6 rfl); clear hC; go_simp; done); simp only [Act.put, List.setIfInBounds_toArray, List.set_cons_zero, List.set_cons_succ])
      | (refine wpAs_pure (v := ?_) rfl rfl ?_ ?_; rotate_left; (intro W hC hE; clear hE; (obtain ⟨z0, z1, z2, z3, z4, _⟩ := (HQ.out W hC).at 7 rfl; obtain ⟨y0, y1, y2, y3, y4, _⟩ := (HQ.out W hC).at 6 rfl); clear hC; go_simp; with_reducible rfl); simp only [Act.put, List.setIfInBounds_toArray, List.set_cons_zero, List.set_cons_succ]))
    refine wpAs_fixed rfl rfl rfl ?_ ?_
    · intro W hC hE
      refine does_enter (f := 15) (args := #[.int .u32 s.1]) ?_ ?_
      · go_simp
      · refine (slot_any s.1 g0 g1 W).mono ?_
        rintro e W' ⟨rfl, rfl⟩
        rw [ha.out]
        exact ⟨_, rfl, rfl, Below.refl _ _⟩
    simp only [Act.put, List.setIfInBounds_toArray, List.set_cons_zero, List.set_cons_succ]
    repeat (first
      | (refine wpAs_skip rfl ?_; simp only [Act.put, List.setIfInBounds_toArray, List.set_cons_zero, List.set_cons_succ])
      | (refine wpAs_pure (v := ?_) rfl rfl ?_ ?_; rotate_left; (intro W hC hE; clear hE; (obtain ⟨z0, z1, z2, z3, z4, _⟩ := (HQ.out W hC).at 7 rfl; obtain ⟨y0, y1, y2, y3, y4, _⟩ := (HQ.out W hC).at 6 rfl); clear hC; go_simp; done); simp only [Act.put, List.setIfInBounds_toArray, List.set_cons_zero, List.set_cons_succ])
      | (refine wpAs_pure (v := ?_) rfl rfl ?_ ?_; rotate_left; (intro W hC hE; clear hE; (obtain ⟨z0, z1, z2, z3, z4, _⟩ := (HQ.out W hC).at 7 rfl; obtain ⟨y0, y1, y2, y3, y4, _⟩ := (HQ.out W hC).at 6 rfl); clear hC; go_simp; with_reducible rfl); simp only [Act.put, List.setIfInBounds_toArray, List.set_cons_zero, List.set_cons_succ]))
    refine wpAs_fixed rfl rfl rfl ?_ ?_
    · intro W hC hE
      refine does_enter (f := 15) (args := #[.int .u32 t.1]) ?_ ?_
      · go_simp
      · refine (slot_any t.1 g2 g3 W).mono ?_
        rintro e W' ⟨rfl, rfl⟩
        rw [hb.out]
        exact ⟨_, rfl, rfl, Below.refl _ _⟩
    simp only [Act.put, List.setIfInBounds_toArray, List.set_cons_zero, List.set_cons_succ]
    repeat (first
      | (refine wpAs_skip rfl ?_; simp only [Act.put, List.setIfInBounds_toArray, List.set_cons_zero, List.set_cons_succ])
      | (refine wpAs_pure (v := ?_) rfl rfl ?_ ?_; rotate_left; (intro W hC hE; clear hE; (skip); clear hC; go_simp; done); simp only [Act.put, List.setIfInBounds_toArray, List.set_cons_zero, List.set_cons_succ])
      | (refine wpAs_pure (v := ?_) rfl rfl ?_ ?_; rotate_left; (intro W hC hE; clear hE; (skip); clear hC; go_simp; with_reducible rfl); simp only [Act.put, List.setIfInBounds_toArray, List.set_cons_zero, List.set_cons_succ]))
    refine wpAs_end fun w15 hC hE => ?_
    replace HG := Lib.hid (HG.out.below hC)
    replace HW := Lib.hid (HW.out.trans (hC.mono HW.out.size))
    clear hE hC HQ hab SP SW
    obtain ⟨k1, k2, _⟩ := HG.out.at 3 rfl
    obtain ⟨t0, t1, t2, t3, t4, _⟩ := HG.out.at 6 rfl
    have xd : Dsk (Old w15) w15 _ _ := HG.out.at 5 rfl
    have xt : Sup (Old w15) w15 _ _ := HG.out.at 10 rfl
    go_wp2_with fail
    with_reducible refine (put_any _ _ R2 t _ xd xt).mono ?_
    rintro e16 w16 ⟨u16, rfl, h16, hb16⟩
    obtain ⟨R5, hR5⟩ : ∃ R, putR R2 t = R := ⟨_, rfl⟩
    obtain ⟨q5, hq5⟩ : ∃ q, putE R2 t = q := ⟨_, rfl⟩
    rw [hR5] at h16 TW
    rw [hq5] at TW ⊢
    obtain ⟨A16, c16, B16, f16, rfl, _⟩ := id h16.open
    obtain ⟨w17, hw17, G17, hb17, hb67, lt17⟩ := bag_box HG.out hb16 (.slice A16 R5.1.length c16) (.slice B16 R5.2.length f16)
    have y17 : OldD (.agg #[.slice A16 R5.1.length c16, .slice B16 R5.2.length f16]) R5 w17 := h16.drop.below hb67
    replace HG := Lib.hid (G17.add y17 (lasts_oldD _ _))
    replace HW := Lib.hid (HW.out.trans (hb17.mono HW.out.size))
    clear hb16 h16 hb17 hb67 lt17 G17 y17 k1 k2 t0 t1 t2 t3 t4 xd xt hR5 hq5
    go_upto_region 15 with fail
    clear hw17
    obtain ⟨k1, k2, _⟩ := HG.out.at 1 rfl
    have xd : Dsk (Old w17) w17 _ _ := HG.out.at 0 rfl
    go_wp2_with fail
    with_reducible refine (find_any _ R5 _ xd).mono ?_
    rintro e18 w18 ⟨u18, rfl, h18, hb18⟩
    replace HG := Lib.hid ((HG.out.below hb18).add (F := OldL u18 (findS R5)) (oldL_new h18) (lasts_oldL _ _))
    replace HW := Lib.hid (HW.out.trans (hb18.mono HW.out.size))
    clear hb18 h18 k1 k2 xd
    have fin : ∀ w19, Below w18.heap.size w18 w19 → Bag w19 _ ∧ Below w.heap.size w w19 := fun w19 hb => ⟨HG.out.below hb, HW.out.trans (hb.mono HW.out.size)⟩
    replace fin := Lib.hid fin
    obtain ⟨r5, hr5⟩ : ∃ r, findE R5 = r := ⟨_, rfl⟩
    rw [hr5] at TW ⊢
    clear hr5
    by_cases e5 : q5 = 0
    case pos =>
      subst e5
      have xa : rSl 5 rSp (Old w18) w18 [u18] (findS R5) := HG.out.at 0 rfl
      have xb : rSl 5 rSp (Old w18) w18 [u13] (findS R2) := HG.out.at 4 rfl
      obtain ⟨T1, rfl⟩ := TW.out rfl
      have T1' := Lib.hid T1
      clear T1
      go_wp2_with fail
      with_reducible refine (lawSame_any _ _ _ _ _ xa xb).mono ?_
      rintro e19 w19 ⟨rfl, hb19⟩
      rw [T1'.out, sameL_self]
      obtain ⟨HG', HW'⟩ := fin.out w19 hb19
      replace HG := Lib.hid HG'
      replace HW := Lib.hid HW'
      clear hb19 xa xb HG' HW' fin T1' TW
      go_upto_region 18 with fail
      obtain ⟨k1, k2, _⟩ := HG.out.at 6 rfl
      have xd : Dsk (Old w19) w19 _ _ := HG.out.at 8 rfl
      have xb : rBy (Old w19) w19 [_] _ := HG.out.at 12 rfl
      go_wp2_with fail
      with_reducible refine (write_all _ _ R2 n xs _ xd xb).mono ?_
      rintro e20 w20 ⟨u20, rfl, h20, hb20⟩
      have FF := Lib.hid (fun (h : wErr R2 n xs = 0) (h4 : 4 ≤ n) => find_far h h4)
      obtain ⟨R6, hR6⟩ : ∃ R, wrR R2 n xs = R := ⟨_, rfl⟩
      obtain ⟨q6, hq6⟩ : ∃ q, wErr R2 n xs = q := ⟨_, rfl⟩
      rw [hR6] at h20 FF
      rw [hq6] at FF ⊢
      obtain ⟨A20, c20, B20, f20, rfl, _⟩ := id h20.open
      obtain ⟨w21, hw21, G21, hb21, hb01, lt21⟩ := bag_box HG.out hb20 (.slice A20 R6.1.length c20) (.slice B20 R6.2.length f20)
      have y21 : OldD (.agg #[.slice A20 R6.1.length c20, .slice B20 R6.2.length f20]) R6 w21 := h20.drop.below hb01
      replace HG := Lib.hid (G21.add y21 (lasts_oldD _ _))
      replace HW := Lib.hid (HW.out.trans (hb21.mono HW.out.size))
      clear hb20 h20 hb21 hb01 lt21 G21 y21 k1 k2 xd xb hR6 hq6
      go_upto_region 19 with fail
      clear hw21
      by_cases e6 : q6 = 0
      case neg =>
        have t6 : (q6 != 0) = true := by simpa using e6
        clear e6
        go_wp2_with fail
        go_ret
        exact ⟨rfl, HW.out⟩
      subst e6
      by_cases e7 : n < 4
      case pos =>
        go_wp2_with fail
        go_ret
        exact ⟨rfl, HW.out⟩
      obtain ⟨f1, f2⟩ := FF.out rfl (by omega)
      have f1' := Lib.hid f1
      have f2' := Lib.hid (f2.trans F2.out)
      clear f1 f2 FF
      obtain ⟨k1, k2, _⟩ := HG.out.at 1 rfl
      have xd : Dsk (Old w21) w21 _ _ := HG.out.at 0 rfl
      go_wp2_with fail
      with_reducible refine (find_any _ R6 _ xd).mono ?_
      rintro e22 w22 ⟨u22, rfl, h22, hb22⟩
      rw [f2'.out]
      have xa : rSl 5 rSp (Old w22) w22 [u22] (findS R6) := oldL_new h22
      replace HG := Lib.hid (HG.out.below hb22)
      replace HW := Lib.hid (HW.out.trans (hb22.mono HW.out.size))
      have xb : rSl 5 rSp (Old w22) w22 [u13] (findS R2) := HG.out.at 6 rfl
      clear hb22 h22 k1 k2 xd
      go_wp2_with fail
      with_reducible refine (lawSame_any _ _ _ _ _ xa xb).mono ?_
      rintro e23 w23 ⟨rfl, hb23⟩
      rw [f1'.out, sameL_self]
      have BF := Lib.hid (HW.out.trans (hb23.mono HW.out.size))
      clear hb23
      go_wp2_with fail
      go_ret
      exact ⟨rfl, BF.out⟩
    case neg =>
      have t5 : (q5 == 0) = false := by simpa using e5
      clear e5
      obtain ⟨w19, rfl⟩ : ∃ w19 : World, w19 = w18 := ⟨_, rfl⟩
      clear fin TW
      go_upto_region 18 with fail
      obtain ⟨k1, k2, _⟩ := HG.out.at 6 rfl
      have xd : Dsk (Old w19) w19 _ _ := HG.out.at 8 rfl
      have xb : rBy (Old w19) w19 [_] _ := HG.out.at 12 rfl
      go_wp2_with fail
      with_reducible refine (write_all _ _ R2 n xs _ xd xb).mono ?_
      rintro e20 w20 ⟨u20, rfl, h20, hb20⟩
      have FF := Lib.hid (fun (h : wErr R2 n xs = 0) (h4 : 4 ≤ n) => find_far h h4)
      obtain ⟨R6, hR6⟩ : ∃ R, wrR R2 n xs = R := ⟨_, rfl⟩
      obtain ⟨q6, hq6⟩ : ∃ q, wErr R2 n xs = q := ⟨_, rfl⟩
      rw [hR6] at h20 FF
      rw [hq6] at FF ⊢
      obtain ⟨A20, c20, B20, f20, rfl, _⟩ := id h20.open
      obtain ⟨w21, hw21, G21, hb21, hb01, lt21⟩ := bag_box HG.out hb20 (.slice A20 R6.1.length c20) (.slice B20 R6.2.length f20)
      have y21 : OldD (.agg #[.slice A20 R6.1.length c20, .slice B20 R6.2.length f20]) R6 w21 := h20.drop.below hb01
      replace HG := Lib.hid (G21.add y21 (lasts_oldD _ _))
      replace HW := Lib.hid (HW.out.trans (hb21.mono HW.out.size))
      clear hb20 h20 hb21 hb01 lt21 G21 y21 k1 k2 xd xb hR6 hq6
      go_upto_region 19 with fail
      clear hw21
      by_cases e6 : q6 = 0
      case neg =>
        have t6 : (q6 != 0) = true := by simpa using e6
        clear e6
        go_wp2_with fail
        go_ret
        exact ⟨rfl, HW.out⟩
      subst e6
      by_cases e7 : n < 4
      case pos =>
        go_wp2_with fail
        go_ret
        exact ⟨rfl, HW.out⟩
      obtain ⟨f1, f2⟩ := FF.out rfl (by omega)
      have f1' := Lib.hid f1
      have f2' := Lib.hid (f2.trans F2.out)
      clear f1 f2 FF
      obtain ⟨k1, k2, _⟩ := HG.out.at 1 rfl
      have xd : Dsk (Old w21) w21 _ _ := HG.out.at 0 rfl
      go_wp2_with fail
      with_reducible refine (find_any _ R6 _ xd).mono ?_
      rintro e22 w22 ⟨u22, rfl, h22, hb22⟩
      rw [f2'.out]
      have xa : rSl 5 rSp (Old w22) w22 [u22] (findS R6) := oldL_new h22
      replace HG := Lib.hid (HG.out.below hb22)
      replace HW := Lib.hid (HW.out.trans (hb22.mono HW.out.size))
      have xb : rSl 5 rSp (Old w22) w22 [u13] (findS R2) := HG.out.at 6 rfl
      clear hb22 h22 k1 k2 xd
      go_wp2_with fail
      with_reducible refine (lawSame_any _ _ _ _ _ xa xb).mono ?_
      rintro e23 w23 ⟨rfl, hb23⟩
      rw [f1'.out, sameL_self]
      have BF := Lib.hid (HW.out.trans (hb23.mono HW.out.size))
      clear hb23
      go_wp2_with fail
      go_ret
      exact ⟨rfl, BF.out⟩
  case true =>
    refine wp_region_fx (by kernel_rfl) (fun W => Below w14.heap.size w14 W) (fun _ => none) (fun i => match i with
      | 9 => some (.int .i64 a)
      | 12 => some (.int .i64 b)
      | 17 => some (.bool true)
      | _ => none) (by kernel_rfl) (Below.refl _ _).drew (fun w w' h hb => h.trans (hb.mono h.size)) (fun j φ x W W' hp => by cases hp) ?_
    repeat (first
      | (refine wpAs_skip rfl ?_; simp only [Act.put, List.setIfInBounds_toArray, List.set_cons_zero, List.set_cons_succ])
      | (refine wpAs_pure (v := ?_) rfl rfl ?_ ?_; rotate_left; (intro W hC hE; clear hE; (obtain ⟨z0, z1, z2, z3, z4, _⟩ := (HQ.out W hC).at 7 rfl; obtain ⟨y0, y1, y2, y3, y4, _⟩ := (HQ.out W hC).at 6 rfl); clear hC; go_simp; done); simp only [Act.put, List.setIfInBounds_toArray, List.set_cons_zero, List.set_cons_succ])
      | (refine wpAs_pure (v := ?_) rfl rfl ?_ ?_; rotate_left; (intro W hC hE; clear hE; (obtain ⟨z0, z1, z2, z3, z4, _⟩ := (HQ.out W hC).at 7 rfl; obtain ⟨y0, y1, y2, y3, y4, _⟩ := (HQ.out W hC).at 6 rfl); clear hC; go_simp; with_reducible rfl); simp only [Act.put, List.setIfInBounds_toArray, List.set_cons_zero, List.set_cons_succ]))
    refine wpAs_fixed rfl rfl rfl ?_ ?_
    · intro W hC hE
      refine does_enter (f := 15) (args := #[.int .u32 s.1]) ?_ ?_
      · go_simp
      · refine (slot_any s.1 g0 g1 W).mono ?_
        rintro e W' ⟨rfl, rfl⟩
        rw [ha.out]
        exact ⟨_, rfl, rfl, Below.refl _ _⟩
    simp only [Act.put, List.setIfInBounds_toArray, List.set_cons_zero, List.set_cons_succ]
    repeat (first
      | (refine wpAs_skip rfl ?_; simp only [Act.put, List.setIfInBounds_toArray, List.set_cons_zero, List.set_cons_succ])
      | (refine wpAs_pure (v := ?_) rfl rfl ?_ ?_; rotate_left; (intro W hC hE; clear hE; (obtain ⟨z0, z1, z2, z3, z4, _⟩ := (HQ.out W hC).at 7 rfl; obtain ⟨y0, y1, y2, y3, y4, _⟩ := (HQ.out W hC).at 6 rfl); clear hC; go_simp; done); simp only [Act.put, List.setIfInBounds_toArray, List.set_cons_zero, List.set_cons_succ])
      | (refine wpAs_pure (v := ?_) rfl rfl ?_ ?_; rotate_left; (intro W hC hE; clear hE; (obtain ⟨z0, z1, z2, z3, z4, _⟩ := (HQ.out W hC).at 7 rfl; obtain ⟨y0, y1, y2, y3, y4, _⟩ := (HQ.out W hC).at 6 rfl); clear hC; go_simp; with_reducible rfl); simp only [Act.put, List.setIfInBounds_toArray, List.set_cons_zero, List.set_cons_succ]))
    refine wpAs_fixed rfl rfl rfl ?_ ?_
    · intro W hC hE
      refine does_enter (f := 15) (args := #[.int .u32 t.1]) ?_ ?_
      · go_simp
      · refine (slot_any t.1 g2 g3 W).mono ?_
        rintro e W' ⟨rfl, rfl⟩
        rw [hb.out]
        exact ⟨_, rfl, rfl, Below.refl _ _⟩
    simp only [Act.put, List.setIfInBounds_toArray, List.set_cons_zero, List.set_cons_succ]
    repeat (first
      | (refine wpAs_skip rfl ?_; simp only [Act.put, List.setIfInBounds_toArray, List.set_cons_zero, List.set_cons_succ])
      | (refine wpAs_pure (v := ?_) rfl rfl ?_ ?_; rotate_left; (intro W hC hE; clear hE; (skip); clear hC; go_simp; done); simp only [Act.put, List.setIfInBounds_toArray, List.set_cons_zero, List.set_cons_succ])
      | (refine wpAs_pure (v := ?_) rfl rfl ?_ ?_; rotate_left; (intro W hC hE; clear hE; (skip); clear hC; go_simp; with_reducible rfl); simp only [Act.put, List.setIfInBounds_toArray, List.set_cons_zero, List.set_cons_succ]))
    refine wpAs_fixed rfl rfl rfl ?_ ?_
    · intro W hC hE
      refine does_enter (f := 29) (args := #[u13, u14]) ?_ ?_
      · go_simp
      · refine (lawSame_any u13 u14 _ _ W ((HQ.out W hC).at 1 rfl : OldL u13 (findS R2) W) ((HQ.out W hC).at 0 rfl : OldL u14 (findS R4) W)).mono ?_
        rintro e W' ⟨rfl, hg⟩
        rw [SP.out rfl, sameL_self]
        exact ⟨_, rfl, rfl, hg⟩
    simp only [Act.put, List.setIfInBounds_toArray, List.set_cons_zero, List.set_cons_succ]
    repeat (first
      | (refine wpAs_skip rfl ?_; simp only [Act.put, List.setIfInBounds_toArray, List.set_cons_zero, List.set_cons_succ])
      | (refine wpAs_pure (v := ?_) rfl rfl ?_ ?_; rotate_left; (intro W hC hE; clear hE; (skip); clear hC; go_simp; done); simp only [Act.put, List.setIfInBounds_toArray, List.set_cons_zero, List.set_cons_succ])
      | (refine wpAs_pure (v := ?_) rfl rfl ?_ ?_; rotate_left; (intro W hC hE; clear hE; (skip); clear hC; go_simp; with_reducible rfl); simp only [Act.put, List.setIfInBounds_toArray, List.set_cons_zero, List.set_cons_succ]))
    refine wpAs_end fun w15 hC hE => ?_
    replace HG := Lib.hid (HG.out.below hC)
    replace HW := Lib.hid (HW.out.trans (hC.mono HW.out.size))
    clear hE hC HQ hab SP SW
    obtain ⟨k1, k2, _⟩ := HG.out.at 3 rfl
    obtain ⟨t0, t1, t2, t3, t4, _⟩ := HG.out.at 6 rfl
    have xd : Dsk (Old w15) w15 _ _ := HG.out.at 5 rfl
    have xt : Sup (Old w15) w15 _ _ := HG.out.at 10 rfl
    go_wp2_with fail
    with_reducible refine (put_any _ _ R2 t _ xd xt).mono ?_
    rintro e16 w16 ⟨u16, rfl, h16, hb16⟩
    obtain ⟨R5, hR5⟩ : ∃ R, putR R2 t = R := ⟨_, rfl⟩
    obtain ⟨q5, hq5⟩ : ∃ q, putE R2 t = q := ⟨_, rfl⟩
    rw [hR5] at h16 TW
    rw [hq5] at TW ⊢
    obtain ⟨A16, c16, B16, f16, rfl, _⟩ := id h16.open
    obtain ⟨w17, hw17, G17, hb17, hb67, lt17⟩ := bag_box HG.out hb16 (.slice A16 R5.1.length c16) (.slice B16 R5.2.length f16)
    have y17 : OldD (.agg #[.slice A16 R5.1.length c16, .slice B16 R5.2.length f16]) R5 w17 := h16.drop.below hb67
    replace HG := Lib.hid (G17.add y17 (lasts_oldD _ _))
    replace HW := Lib.hid (HW.out.trans (hb17.mono HW.out.size))
    clear hb16 h16 hb17 hb67 lt17 G17 y17 k1 k2 t0 t1 t2 t3 t4 xd xt hR5 hq5
    go_upto_region 15 with fail
    clear hw17
    obtain ⟨k1, k2, _⟩ := HG.out.at 1 rfl
    have xd : Dsk (Old w17) w17 _ _ := HG.out.at 0 rfl
    go_wp2_with fail
    with_reducible refine (find_any _ R5 _ xd).mono ?_
    rintro e18 w18 ⟨u18, rfl, h18, hb18⟩
    replace HG := Lib.hid ((HG.out.below hb18).add (F := OldL u18 (findS R5)) (oldL_new h18) (lasts_oldL _ _))
    replace HW := Lib.hid (HW.out.trans (hb18.mono HW.out.size))
    clear hb18 h18 k1 k2 xd
    have fin : ∀ w19, Below w18.heap.size w18 w19 → Bag w19 _ ∧ Below w.heap.size w w19 := fun w19 hb => ⟨HG.out.below hb, HW.out.trans (hb.mono HW.out.size)⟩
    replace fin := Lib.hid fin
    obtain ⟨r5, hr5⟩ : ∃ r, findE R5 = r := ⟨_, rfl⟩
    rw [hr5] at TW ⊢
    clear hr5
    by_cases e5 : q5 = 0
    case pos =>
      subst e5
      have xa : rSl 5 rSp (Old w18) w18 [u18] (findS R5) := HG.out.at 0 rfl
      have xb : rSl 5 rSp (Old w18) w18 [u13] (findS R2) := HG.out.at 4 rfl
      obtain ⟨T1, rfl⟩ := TW.out rfl
      have T1' := Lib.hid T1
      clear T1
      go_wp2_with fail
      with_reducible refine (lawSame_any _ _ _ _ _ xa xb).mono ?_
      rintro e19 w19 ⟨rfl, hb19⟩
      rw [T1'.out, sameL_self]
      obtain ⟨HG', HW'⟩ := fin.out w19 hb19
      replace HG := Lib.hid HG'
      replace HW := Lib.hid HW'
      clear hb19 xa xb HG' HW' fin T1' TW
      go_upto_region 18 with fail
      obtain ⟨k1, k2, _⟩ := HG.out.at 6 rfl
      have xd : Dsk (Old w19) w19 _ _ := HG.out.at 8 rfl
      have xb : rBy (Old w19) w19 [_] _ := HG.out.at 12 rfl
      go_wp2_with fail
      with_reducible refine (write_all _ _ R2 n xs _ xd xb).mono ?_
      rintro e20 w20 ⟨u20, rfl, h20, hb20⟩
      have FF := Lib.hid (fun (h : wErr R2 n xs = 0) (h4 : 4 ≤ n) => find_far h h4)
      obtain ⟨R6, hR6⟩ : ∃ R, wrR R2 n xs = R := ⟨_, rfl⟩
      obtain ⟨q6, hq6⟩ : ∃ q, wErr R2 n xs = q := ⟨_, rfl⟩
      rw [hR6] at h20 FF
      rw [hq6] at FF ⊢
      obtain ⟨A20, c20, B20, f20, rfl, _⟩ := id h20.open
      obtain ⟨w21, hw21, G21, hb21, hb01, lt21⟩ := bag_box HG.out hb20 (.slice A20 R6.1.length c20) (.slice B20 R6.2.length f20)
      have y21 : OldD (.agg #[.slice A20 R6.1.length c20, .slice B20 R6.2.length f20]) R6 w21 := h20.drop.below hb01
      replace HG := Lib.hid (G21.add y21 (lasts_oldD _ _))
      replace HW := Lib.hid (HW.out.trans (hb21.mono HW.out.size))
      clear hb20 h20 hb21 hb01 lt21 G21 y21 k1 k2 xd xb hR6 hq6
      go_upto_region 19 with fail
      clear hw21
      by_cases e6 : q6 = 0
      case neg =>
        have t6 : (q6 != 0) = true := by simpa using e6
        clear e6
        go_wp2_with fail
        go_ret
        exact ⟨rfl, HW.out⟩
      subst e6
      by_cases e7 : n < 4
      case pos =>
        go_wp2_with fail
        go_ret
        exact ⟨rfl, HW.out⟩
      obtain ⟨f1, f2⟩ := FF.out rfl (by omega)
      have f1' := Lib.hid f1
      have f2' := Lib.hid (f2.trans F2.out)
      clear f1 f2 FF
      obtain ⟨k1, k2, _⟩ := HG.out.at 1 rfl
      have xd : Dsk (Old w21) w21 _ _ := HG.out.at 0 rfl
      go_wp2_with fail
      with_reducible refine (find_any _ R6 _ xd).mono ?_
      rintro e22 w22 ⟨u22, rfl, h22, hb22⟩
      rw [f2'.out]
      have xa : rSl 5 rSp (Old w22) w22 [u22] (findS R6) := oldL_new h22
      replace HG := Lib.hid (HG.out.below hb22)
      replace HW := Lib.hid (HW.out.trans (hb22.mono HW.out.size))
      have xb : rSl 5 rSp (Old w22) w22 [u13] (findS R2) := HG.out.at 6 rfl
      clear hb22 h22 k1 k2 xd
      go_wp2_with fail
      with_reducible refine (lawSame_any _ _ _ _ _ xa xb).mono ?_
      rintro e23 w23 ⟨rfl, hb23⟩
      rw [f1'.out, sameL_self]
      have BF := Lib.hid (HW.out.trans (hb23.mono HW.out.size))
      clear hb23
      go_wp2_with fail
      go_ret
      exact ⟨rfl, BF.out⟩
    case neg =>
      have t5 : (q5 == 0) = false := by simpa using e5
      clear e5
      obtain ⟨w19, rfl⟩ : ∃ w19 : World, w19 = w18 := ⟨_, rfl⟩
      clear fin TW
      go_upto_region 18 with fail
      obtain ⟨k1, k2, _⟩ := HG.out.at 6 rfl
      have xd : Dsk (Old w19) w19 _ _ := HG.out.at 8 rfl
      have xb : rBy (Old w19) w19 [_] _ := HG.out.at 12 rfl
      go_wp2_with fail
      with_reducible refine (write_all _ _ R2 n xs _ xd xb).mono ?_
      rintro e20 w20 ⟨u20, rfl, h20, hb20⟩
      have FF := Lib.hid (fun (h : wErr R2 n xs = 0) (h4 : 4 ≤ n) => find_far h h4)
      obtain ⟨R6, hR6⟩ : ∃ R, wrR R2 n xs = R := ⟨_, rfl⟩
      obtain ⟨q6, hq6⟩ : ∃ q, wErr R2 n xs = q := ⟨_, rfl⟩
      rw [hR6] at h20 FF
      rw [hq6] at FF ⊢
      obtain ⟨A20, c20, B20, f20, rfl, _⟩ := id h20.open
      obtain ⟨w21, hw21, G21, hb21, hb01, lt21⟩ := bag_box HG.out hb20 (.slice A20 R6.1.length c20) (.slice B20 R6.2.length f20)
      have y21 : OldD (.agg #[.slice A20 R6.1.length c20, .slice B20 R6.2.length f20]) R6 w21 := h20.drop.below hb01
      replace HG := Lib.hid (G21.add y21 (lasts_oldD _ _))
      replace HW := Lib.hid (HW.out.trans (hb21.mono HW.out.size))
      clear hb20 h20 hb21 hb01 lt21 G21 y21 k1 k2 xd xb hR6 hq6
      go_upto_region 19 with fail
      clear hw21
      by_cases e6 : q6 = 0
      case neg =>
        have t6 : (q6 != 0) = true := by simpa using e6
        clear e6
        go_wp2_with fail
        go_ret
        exact ⟨rfl, HW.out⟩
      subst e6
      by_cases e7 : n < 4
      case pos =>
        go_wp2_with fail
        go_ret
        exact ⟨rfl, HW.out⟩
      obtain ⟨f1, f2⟩ := FF.out rfl (by omega)
      have f1' := Lib.hid f1
      have f2' := Lib.hid (f2.trans F2.out)
      clear f1 f2 FF
      obtain ⟨k1, k2, _⟩ := HG.out.at 1 rfl
      have xd : Dsk (Old w21) w21 _ _ := HG.out.at 0 rfl
      go_wp2_with fail
      with_reducible refine (find_any _ R6 _ xd).mono ?_
      rintro e22 w22 ⟨u22, rfl, h22, hb22⟩
      rw [f2'.out]
      have xa : rSl 5 rSp (Old w22) w22 [u22] (findS R6) := oldL_new h22
      replace HG := Lib.hid (HG.out.below hb22)
      replace HW := Lib.hid (HW.out.trans (hb22.mono HW.out.size))
      have xb : rSl 5 rSp (Old w22) w22 [u13] (findS R2) := HG.out.at 6 rfl
      clear hb22 h22 k1 k2 xd
      go_wp2_with fail
      with_reducible refine (lawSame_any _ _ _ _ _ xa xb).mono ?_
      rintro e23 w23 ⟨rfl, hb23⟩
      rw [f1'.out, sameL_self]
      have BF := Lib.hid (HW.out.trans (hb23.mono HW.out.size))
      clear hb23
      go_wp2_with fail
      go_ret
      exact ⟨rfl, BF.out⟩

/-! ### The row's step -/
set_option maxRecDepth 100000 in
theorem lifted (os : Os) (started : os.Started) (H : Type) (enc : TypeId × Value → H) :
    ReturnsInHanded {} Try.checked os 8 .any (Rows.ringApartSpec.pre6 enc Try.prog Try.f8 Rows.ringApartRow.domain false) (Rows.ringApartSpec.post enc Try.prog Try.f8 false true false false) := by
  refine returnsInHanded_of_change (C := Try.checked) own started (by kernel_rfl) Try.func8
    (ChangeSpec.witness6 (enc := enc) (C := Try.checked) false ⟨#[], #[.agg #[.slice none 0 0, .slice none 0 0], .agg #[.int .u32 0, .int .i64 0, .int .u32 0, .int .u32 0, .slice none 0 0], .agg #[.int .u32 0, .int .i64 0, .int .u32 0, .int .u32 0, .slice none 0 0], .int .i64 0, .slice none 0 0], []⟩ 8 (by kernel_rfl) (by kernel_rfl) (by kernel_rfl) (by kernel_rfl)) ?_
  intro W base args ds gs before hval0 hW _ _
  have hval : ∀ (j : Nat) t v, Try.f8.params[j]? = some t → args[j]? = some v → Value.okWide Try.prog W .any base t v := hval0
  have hW' := hW
  obtain ⟨p, q, hA0, hV, _, _, _⟩ := hW
  have hA : DataW.TrodAll enc Try.prog W 0 (fun _ => true) true Try.f8.params.toList args.toList ds p := hA0
  rw [Try.params8] at hA hval
  obtain ⟨v0, vs0, d0, ds0, p0, q0, hargs, rfl, _, h0, r0⟩ := trodAll_cons hA
  obtain ⟨v1, vs1, d1, ds1, p1, q1, rfl, rfl, _, h1, r1⟩ := trodAll_cons r0
  obtain ⟨v2, vs2, d2, ds2, p2, q2, rfl, rfl, _, h2, r2⟩ := trodAll_cons r1
  obtain ⟨v3, vs3, d3, ds3, p3, q3, rfl, rfl, _, h3, r3⟩ := trodAll_cons r2
  obtain ⟨v4, vs4, d4, ds4, p4, q4, rfl, rfl, _, h4, r4⟩ := trodAll_cons r3
  obtain ⟨rfl, rfl, _⟩ := trodAll_nil r4
  obtain rfl : args = #[v0, v1, v2, v3, v4] := by cases args; simp_all
  obtain ⟨rfl, _⟩ := trodVars_none hV
  obtain ⟨d0x, y0⟩ := open_disk (hval 0 30 v0 rfl rfl) h0
  obtain ⟨d1x, y1⟩ := open_sup (hval 1 37 v1 rfl rfl) h1
  obtain ⟨d2x, y2⟩ := open_sup (hval 2 37 v2 rfl rfl) h2
  obtain ⟨a3, rfl, _, _, w3⟩ := open_int Try.underlying3 (hval 3 3 v3 rfl rfl) h3
  obtain ⟨d4x, y4⟩ := open_by (hval 4 40 v4 rfl rfl) h4
  clear hA0 hval0
  refine (walk v0 d0x v1 d1x v2 d2x a3 w3 v4 d4x W y0 y1 y2 y4).mono fun e W' ⟨he, hb⟩ => ?_
  subst he
  exact ⟨_, rfl, law_post laidOut (by rw [Try.params8]; decide +kernel) (by kernel_rfl) Try.underlying4 rfl ⟨rfl, by simp [Rows.ringApartSpec], rfl⟩ hW' hb⟩

theorem over : Rows.ringApartRow.holds Try.pinned (OpenSpec.ofChange Rows.ringApartSpec) :=
  OpenClaim.holds_of_wide 8 Try.f8 rfl rfl rfl rfl rfl rfl rfl ⟨rfl, rfl, rfl, rfl, rfl⟩ rfl rfl rfl rfl rfl (by kernel_rfl) Try.func8 (by kernel_rfl)
    (of_decide_eq_true (by kernel_rfl)) (by unfold Func.isWrapper; first | (rw [if_pos (by decide +kernel)]; kernel_rfl) | (rw [if_neg (by decide +kernel)]; exact ⟨rfl, rfl⟩))
    (fun os started H enc _ => lifted os started H enc)

end Go.Proofs.Ytdcgcnnofjekaaa.ringApart
namespace Go.Proofs.Ytdcgcnnofjekaaa
theorem ringApart_proved : Rows.RingApartSaid := ringApart.over
end Go.Proofs.Ytdcgcnnofjekaaa
