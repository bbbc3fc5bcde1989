/-
  For every two superblocks and bytes RingCodes answers true and leaves its arguments as they were. No condition.
-/
import Derived.Test.YtgnogclhleheiaaBnd3
import Derived.Deep.CutBlock
namespace Go.Proofs.Ytgnogclhleheiaa.ringCodes
open Go.ChangeShapes Go.WideShapes Go.RowKit

theorem own : ownKnob Try.prog.godebug = none := by kernel_rfl
theorem laidOut : laidOutB Try.prog = true := by kernel_rfl

set_option maxRecDepth 100000 in
set_option maxHeartbeats 16000000 in
theorem walk (v : Value) (s : Sp) (v' : Value) (o : Sp) (u : Value) (xs : List UInt8) (w : World) (h : Sup (Old w) w v s) (h' : Sup (Old w) w v' o) (hu : rBy (Old w) w [u] xs) :
    Calls Try.prog 5 #[v, v', u] w fun e w' => e = .returned (.bool true) ∧ Below w.heap.size w w' := by
  obtain ⟨A, c, rfl, hin, lA, mA, _, _⟩ := h.open
  obtain ⟨B, d, rfl, hin', lB, mB, _, _⟩ := h'.open
  obtain ⟨E, ce, rfl, lE, mE, _⟩ := id (rBy_open hu)
  have G1 := (Bag.nil w).add (F := OldS (supV s A c) s) h (lasts_oldS _ _)
  have G2 := G1.add (F := OldS (supV o B d) o) h' (lasts_oldS _ _)
  have G3 := G2.add (F := OldB (.slice E xs.length ce) xs) hu (lasts_oldB _ _)
  obtain ⟨w1, hw1, G4, hB1, _, _⟩ := bag_box5 G3 (Below.refl _ _) (.int .u32 s.1) (.int .i64 s.2.1) (.int .u32 s.2.2.1) (.int .u32 s.2.2.2.1) (.slice A s.2.2.2.2.length c)
  obtain ⟨w2, hw2, G5, hB2, _, _⟩ := bag_box5 G4 (Below.refl _ _) (.int .u32 o.1) (.int .i64 o.2.1) (.int .u32 o.2.2.1) (.int .u32 o.2.2.2.1) (.slice B o.2.2.2.2.length d)
  have HG := Lib.hid G5
  have HW := Lib.hid (hB1.trans (hB2.mono hB1.size))
  obtain ⟨⟨g0, g1⟩, _, _, _⟩ := hin
  replace hw2 := Lib.hid hw2
  clear G1 G2 G3 G4 G5 h h' hu hB1 hB2 hin'
  go_enter Try.func5, Try.ntmps5
  go_upto_region 1 with fail
  rw [hw2.out]
  clear hw1 hw2
  obtain ⟨s0, s1, s2, s3, s4, _⟩ := HG.out.at 1 rfl
  obtain ⟨o0, o1, o2, o3, o4, _⟩ := HG.out.at 0 rfl
  by_cases hl : 10000 < xs.length
  · have hl' : (10000 : Int) < xs.length := by omega
    go_wp2_with fail
    go_ret
    exact ⟨rfl, HW.out⟩
  have hl' : ¬ (10000 : Int) < xs.length := by omega
  by_cases hk : 1000 < s.2.2.2.2.length
  · have hk' : (1000 : Int) < s.2.2.2.2.length := by omega
    go_wp2_with fail
    go_ret
    exact ⟨rfl, HW.out⟩
  have hk' : ¬ (1000 : Int) < s.2.2.2.2.length := by omega
  by_cases hm : 1000 < o.2.2.2.2.length
  · have hm' : (1000 : Int) < o.2.2.2.2.length := by omega
    go_wp2_with fail
    go_ret
    exact ⟨rfl, HW.out⟩
  have hm' : ¬ (1000 : Int) < o.2.2.2.2.length := by omega
  have hbig := Lib.hid (show xs.length ≤ 10000 by omega)
  have xb : rBy (Old w2) w2 [_] _ := HG.out.at 2 rfl
  obtain ⟨v3, w3, hr3, y3, hb3⟩ := app_copy _ xs w2 (by omega) xb
  have H3 := Lib.hid hr3
  replace HG := Lib.hid ((HG.out.below hb3).add (F := OldB v3 xs) (stab_by.drop y3) (lasts_oldB _ _))
  replace HW := Lib.hid (HW.out.trans (hb3.mono HW.out.size))
  clear hl hk hm xb hr3 y3
  obtain ⟨p0, p1, p2, p3, p4, _⟩ := HG.out.at 2 rfl
  have xs4 : Sup (Old w3) w3 _ _ := HG.out.at 5 rfl
  go_wp2_with (at_builtin; refine wpList_append_run rfl _ _ _ rfl rfl rfl H3.out ?_; clear H3)
  with_reducible refine (ringWrite_any _ s _ xs4).mono ?_
  rintro e4 w4 ⟨u4, rfl, y4, hb4⟩
  replace HG := Lib.hid ((HG.out.below hb4).add (F := OldB u4 (wrS s)) (stab_by.drop y4) (lasts_oldB _ _))
  replace HW := Lib.hid (HW.out.trans (hb4.mono HW.out.size))
  clear y4 hb4 s0 s1 s2 s3 s4 o0 o1 o2 o3 o4 p0 p1 p2 p3 p4 xs4
  obtain ⟨s0, s1, s2, s3, s4, _⟩ := HG.out.at 3 rfl
  have xs4 : Sup (Old w4) w4 _ _ := HG.out.at 6 rfl
  go_wp2_with fail
  with_reducible refine (refWriteS_any _ s _ xs4).mono ?_
  rintro e5 w5 ⟨u5, rfl, y5, hb5⟩
  replace HG := Lib.hid ((HG.out.below hb5).add (F := OldB u5 (wrS s)) (stab_by.drop y5) (lasts_oldB _ _))
  replace HW := Lib.hid (HW.out.trans (hb5.mono HW.out.size))
  clear y5 hb5 s0 s1 s2 s3 s4 xs4
  have x3 : rBy (Old w5) w5 [_] _ := HG.out.at 2 rfl
  go_wp2_with fail
  with_reducible refine (ringRead_any _ xs _ (Nat.le_trans hbig.out (by omega)) x3).mono ?_
  rintro e6 w6 ⟨u6, rfl, y6, hb6⟩
  obtain ⟨r, hr⟩ : ∃ r, reS xs = r := ⟨_, rfl⟩
  obtain ⟨q, hq⟩ : ∃ q, reE xs = q := ⟨_, rfl⟩
  rw [hr] at y6
  rw [hq]
  replace hr := Lib.hid hr
  replace hq := Lib.hid hq
  obtain ⟨C, cc, rfl, _⟩ := y6.open
  obtain ⟨w7, hw7, G7, hb7, hb67, _⟩ := bag_box5 HG.out hb6 (.int .u32 r.1) (.int .i64 r.2.1) (.int .u32 r.2.2.1) (.int .u32 r.2.2.2.1) (.slice C r.2.2.2.2.length cc)
  have y7 : OldS (supV r C cc) r w7 := y6.drop.below hb67
  replace HG := Lib.hid (G7.add y7 (lasts_oldS _ _))
  replace HW := Lib.hid (HW.out.trans (hb7.mono HW.out.size))
  clear hb6 hb7 hb67 y6 y7 G7 x3
  go_upto_region 7 with fail
  clear hw7
  have x2 : rBy (Old w7) w7 [_] _ := HG.out.at 7 rfl
  go_wp2_with fail
  with_reducible refine (refRead4_any _ xs _ (Nat.le_trans hbig.out (by omega)) x2).mono ?_
  rintro e8 w8 ⟨u8, rfl, y8, hb8⟩
  rw [hr.out] at y8
  rw [hq.out]
  obtain ⟨t, ht⟩ : ∃ t, t = r := ⟨_, rfl⟩
  rw [← ht] at y8
  replace ht := Lib.hid ht
  obtain ⟨D, dd, rfl, _⟩ := y8.open
  obtain ⟨w9, hw9, G9, hb9, hb89, _⟩ := bag_box5 HG.out hb8 (.int .u32 t.1) (.int .i64 t.2.1) (.int .u32 t.2.2.1) (.int .u32 t.2.2.2.1) (.slice D t.2.2.2.2.length dd)
  have y9 : OldS (supV t D dd) t w9 := y8.drop.below hb89
  replace HG := Lib.hid (G9.add y9 (lasts_oldS _ _))
  replace HW := Lib.hid (HW.out.trans (hb9.mono HW.out.size))
  clear hb8 hb9 hb89 y8 y9 G9 x2
  go_upto_region 8 with fail
  clear hw9
  -- the last region
  have HQ : Hid (∀ W, Below w9.heap.size w9 W → Bag W _) := Lib.hid fun W hb => HG.out.below hb
  obtain ⟨p, hp⟩ : ∃ p, sameSp s o = p := ⟨_, rfl⟩
  obtain ⟨k, hk⟩ : ∃ k, chkS s = k := ⟨_, rfl⟩
  obtain ⟨z, hz⟩ : ∃ z, s.1 % 4 = z := ⟨_, rfl⟩
  have hrt := Lib.hid (show sameSp r t = true by rw [ht.out]; exact sameSp_self _)
  replace hp := Lib.hid hp
  replace hk := Lib.hid hk
  replace hz := Lib.hid hz
  refine wp_region_fx (by kernel_rfl) (fun W => Below w9.heap.size w9 W) (fun _ => none) (fun i => match i with
      | 13 => some (.bool true)
      | 22 => some (.int .i64 k)
      | 24 => some (.int .i64 k)
      | 30 => some (.bool p)
      | 33 => some (.bool p)
      | 39 => some (.int .i64 z)
      | 42 => some (.int .i64 z)
      | _ => none) (by kernel_rfl) (Below.refl _ _).drew (fun w w' h hb => h.trans (hb.mono h.size)) (fun j φ x W W' hp => by cases hp) ?_
  repeat (first
    | (refine wpAs_skip rfl ?_; simp only [Act.put, List.setIfInBounds_toArray, List.set_cons_zero, List.set_cons_succ])
    | (refine wpAs_pure (v := ?_) rfl rfl ?_ ?_; rotate_left; (intro W hC hE; clear hE; (have q1 := rBy_str0 ((HQ.out W hC).at 5 rfl : rBy (Old W) W [_] _); have q2 := rBy_str0 ((HQ.out W hC).at 4 rfl : rBy (Old W) W [_] _); obtain ⟨r0, r1, r2, r3, r4, _⟩ := (HQ.out W hC).at 3 rfl; obtain ⟨t0, t1, t2, t3, t4, _⟩ := (HQ.out W hC).at 1 rfl); clear hC; go_simp; done); simp only [Act.put, List.setIfInBounds_toArray, List.set_cons_zero, List.set_cons_succ])
    | (refine wpAs_pure (v := ?_) rfl rfl ?_ ?_; rotate_left; (intro W hC hE; clear hE; (have q1 := rBy_str0 ((HQ.out W hC).at 5 rfl : rBy (Old W) W [_] _); have q2 := rBy_str0 ((HQ.out W hC).at 4 rfl : rBy (Old W) W [_] _); obtain ⟨r0, r1, r2, r3, r4, _⟩ := (HQ.out W hC).at 3 rfl; obtain ⟨t0, t1, t2, t3, t4, _⟩ := (HQ.out W hC).at 1 rfl); clear hC; go_simp; with_reducible rfl); simp only [Act.put, List.setIfInBounds_toArray, List.set_cons_zero, List.set_cons_succ]))
  refine wpAs_fixed rfl rfl rfl ?_ ?_
  · intro W hC hE
    refine does_enter (f := 38) (args := #[supV r C cc, supV t D dd]) ?_ ?_
    · go_simp
    · refine (refSameS_any _ _ r t W ((HQ.out W hC).at 2 rfl : Sup (Old W) W _ _) ((HQ.out W hC).at 0 rfl : Sup (Old W) W _ _)).mono ?_
      rintro e W' ⟨rfl, hg⟩
      rw [hrt.out]
      exact ⟨_, rfl, rfl, hg⟩
  simp only [Act.put, List.setIfInBounds_toArray, List.set_cons_zero, List.set_cons_succ]
  repeat (first
    | (refine wpAs_skip rfl ?_; simp only [Act.put, List.setIfInBounds_toArray, List.set_cons_zero, List.set_cons_succ])
    | (refine wpAs_pure (v := ?_) rfl rfl ?_ ?_; rotate_left; (intro W hC hE; clear hE; (obtain ⟨a0, a1, a2, a3, a4, _⟩ := (HQ.out W hC).at 8 rfl); clear hC; go_simp; done); simp only [Act.put, List.setIfInBounds_toArray, List.set_cons_zero, List.set_cons_succ])
    | (refine wpAs_pure (v := ?_) rfl rfl ?_ ?_; rotate_left; (intro W hC hE; clear hE; (obtain ⟨a0, a1, a2, a3, a4, _⟩ := (HQ.out W hC).at 8 rfl); clear hC; go_simp; with_reducible rfl); simp only [Act.put, List.setIfInBounds_toArray, List.set_cons_zero, List.set_cons_succ]))
  refine wpAs_fixed rfl rfl rfl ?_ ?_
  · intro W hC hE
    refine does_enter (f := 34) (args := #[supV s A c]) ?_ ?_
    · go_simp
    · refine (checkS_any _ s W ((HQ.out W hC).at 11 rfl : Sup (Old W) W _ _)).mono ?_
      rintro e W' ⟨rfl, hg⟩
      rw [hk.out]
      exact ⟨_, rfl, rfl, hg⟩
  simp only [Act.put, List.setIfInBounds_toArray, List.set_cons_zero, List.set_cons_succ]
  repeat (first
    | (refine wpAs_skip rfl ?_; simp only [Act.put, List.setIfInBounds_toArray, List.set_cons_zero, List.set_cons_succ])
    | (refine wpAs_pure (v := ?_) rfl rfl ?_ ?_; rotate_left; (intro W hC hE; clear hE; (obtain ⟨a0, a1, a2, a3, a4, _⟩ := (HQ.out W hC).at 8 rfl); clear hC; go_simp; done); simp only [Act.put, List.setIfInBounds_toArray, List.set_cons_zero, List.set_cons_succ])
    | (refine wpAs_pure (v := ?_) rfl rfl ?_ ?_; rotate_left; (intro W hC hE; clear hE; (obtain ⟨a0, a1, a2, a3, a4, _⟩ := (HQ.out W hC).at 8 rfl); clear hC; go_simp; with_reducible rfl); simp only [Act.put, List.setIfInBounds_toArray, List.set_cons_zero, List.set_cons_succ]))
  refine wpAs_fixed rfl rfl rfl ?_ ?_
  · intro W hC hE
    refine does_enter (f := 39) (args := #[supV s A c]) ?_ ?_
    · go_simp
    · refine (refCheckS_any _ s W ((HQ.out W hC).at 11 rfl : Sup (Old W) W _ _)).mono ?_
      rintro e W' ⟨rfl, hg⟩
      rw [hk.out]
      exact ⟨_, rfl, rfl, hg⟩
  simp only [Act.put, List.setIfInBounds_toArray, List.set_cons_zero, List.set_cons_succ]
  repeat (first
    | (refine wpAs_skip rfl ?_; simp only [Act.put, List.setIfInBounds_toArray, List.set_cons_zero, List.set_cons_succ])
    | (refine wpAs_pure (v := ?_) rfl rfl ?_ ?_; rotate_left; (intro W hC hE; clear hE; (obtain ⟨a0, a1, a2, a3, a4, _⟩ := (HQ.out W hC).at 8 rfl; obtain ⟨b0, b1, b2, b3, b4, _⟩ := (HQ.out W hC).at 7 rfl); clear hC; go_simp; done); simp only [Act.put, List.setIfInBounds_toArray, List.set_cons_zero, List.set_cons_succ])
    | (refine wpAs_pure (v := ?_) rfl rfl ?_ ?_; rotate_left; (intro W hC hE; clear hE; (obtain ⟨a0, a1, a2, a3, a4, _⟩ := (HQ.out W hC).at 8 rfl; obtain ⟨b0, b1, b2, b3, b4, _⟩ := (HQ.out W hC).at 7 rfl); clear hC; go_simp; with_reducible rfl); simp only [Act.put, List.setIfInBounds_toArray, List.set_cons_zero, List.set_cons_succ]))
  refine wpAs_fixed rfl rfl rfl ?_ ?_
  · intro W hC hE
    refine does_enter (f := 40) (args := #[supV s A c, supV o B d]) ?_ ?_
    · go_simp
    · refine (sameS_any _ _ s o W ((HQ.out W hC).at 11 rfl : Sup (Old W) W _ _) ((HQ.out W hC).at 10 rfl : Sup (Old W) W _ _)).mono ?_
      rintro e W' ⟨rfl, hg⟩
      rw [hp.out]
      exact ⟨_, rfl, rfl, hg⟩
  simp only [Act.put, List.setIfInBounds_toArray, List.set_cons_zero, List.set_cons_succ]
  repeat (first
    | (refine wpAs_skip rfl ?_; simp only [Act.put, List.setIfInBounds_toArray, List.set_cons_zero, List.set_cons_succ])
    | (refine wpAs_pure (v := ?_) rfl rfl ?_ ?_; rotate_left; (intro W hC hE; clear hE; (obtain ⟨a0, a1, a2, a3, a4, _⟩ := (HQ.out W hC).at 8 rfl; obtain ⟨b0, b1, b2, b3, b4, _⟩ := (HQ.out W hC).at 7 rfl); clear hC; go_simp; done); simp only [Act.put, List.setIfInBounds_toArray, List.set_cons_zero, List.set_cons_succ])
    | (refine wpAs_pure (v := ?_) rfl rfl ?_ ?_; rotate_left; (intro W hC hE; clear hE; (obtain ⟨a0, a1, a2, a3, a4, _⟩ := (HQ.out W hC).at 8 rfl; obtain ⟨b0, b1, b2, b3, b4, _⟩ := (HQ.out W hC).at 7 rfl); clear hC; go_simp; with_reducible rfl); simp only [Act.put, List.setIfInBounds_toArray, List.set_cons_zero, List.set_cons_succ]))
  refine wpAs_fixed rfl rfl rfl ?_ ?_
  · intro W hC hE
    refine does_enter (f := 38) (args := #[supV s A c, supV o B d]) ?_ ?_
    · go_simp
    · refine (refSameS_any _ _ s o W ((HQ.out W hC).at 11 rfl : Sup (Old W) W _ _) ((HQ.out W hC).at 10 rfl : Sup (Old W) W _ _)).mono ?_
      rintro e W' ⟨rfl, hg⟩
      rw [hp.out]
      exact ⟨_, rfl, rfl, hg⟩
  simp only [Act.put, List.setIfInBounds_toArray, List.set_cons_zero, List.set_cons_succ]
  repeat (first
    | (refine wpAs_skip rfl ?_; simp only [Act.put, List.setIfInBounds_toArray, List.set_cons_zero, List.set_cons_succ])
    | (refine wpAs_pure (v := ?_) rfl rfl ?_ ?_; rotate_left; (intro W hC hE; clear hE; (obtain ⟨a0, a1, a2, a3, a4, _⟩ := (HQ.out W hC).at 8 rfl); clear hC; go_simp; done); simp only [Act.put, List.setIfInBounds_toArray, List.set_cons_zero, List.set_cons_succ])
    | (refine wpAs_pure (v := ?_) rfl rfl ?_ ?_; rotate_left; (intro W hC hE; clear hE; (obtain ⟨a0, a1, a2, a3, a4, _⟩ := (HQ.out W hC).at 8 rfl); clear hC; go_simp; with_reducible rfl); simp only [Act.put, List.setIfInBounds_toArray, List.set_cons_zero, List.set_cons_succ]))
  refine wpAs_fixed rfl rfl rfl ?_ ?_
  · intro W hC hE
    refine does_enter (f := 33) (args := #[.int .u32 s.1]) ?_ ?_
    · go_simp
    · refine (slot_any s.1 g0 g1 W).mono ?_
      rintro e W' ⟨rfl, hg⟩
      rw [hz.out]
      exact ⟨_, rfl, rfl, hg ▸ Below.refl _ _⟩
  simp only [Act.put, List.setIfInBounds_toArray, List.set_cons_zero, List.set_cons_succ]
  repeat (first
    | (refine wpAs_skip rfl ?_; simp only [Act.put, List.setIfInBounds_toArray, List.set_cons_zero, List.set_cons_succ])
    | (refine wpAs_pure (v := ?_) rfl rfl ?_ ?_; rotate_left; (intro W hC hE; clear hE; (obtain ⟨a0, a1, a2, a3, a4, _⟩ := (HQ.out W hC).at 8 rfl); clear hC; go_simp; done); simp only [Act.put, List.setIfInBounds_toArray, List.set_cons_zero, List.set_cons_succ])
    | (refine wpAs_pure (v := ?_) rfl rfl ?_ ?_; rotate_left; (intro W hC hE; clear hE; (obtain ⟨a0, a1, a2, a3, a4, _⟩ := (HQ.out W hC).at 8 rfl); clear hC; go_simp; with_reducible rfl); simp only [Act.put, List.setIfInBounds_toArray, List.set_cons_zero, List.set_cons_succ]))
  refine wpAs_fixed rfl rfl rfl ?_ ?_
  · intro W hC hE
    refine does_enter (f := 41) (args := #[.int .u32 s.1]) ?_ ?_
    · go_simp
    · refine (refSlot_any s.1 g0 g1 W).mono ?_
      rintro e W' ⟨rfl, hg⟩
      rw [hz.out]
      exact ⟨_, rfl, rfl, hg ▸ Below.refl _ _⟩
  simp only [Act.put, List.setIfInBounds_toArray, List.set_cons_zero, List.set_cons_succ]
  repeat (first
    | (refine wpAs_skip rfl ?_; simp only [Act.put, List.setIfInBounds_toArray, List.set_cons_zero, List.set_cons_succ])
    | (refine wpAs_pure (v := ?_) rfl rfl ?_ ?_; rotate_left; (intro W hC hE; clear hE; (have q1 := rBy_str0 ((HQ.out W hC).at 6 rfl : rBy (Old W) W [_] _); have q2 := rBy_str0 ((HQ.out W hC).at 9 rfl : rBy (Old W) W [_] _)); clear hC; go_simp; done); simp only [Act.put, List.setIfInBounds_toArray, List.set_cons_zero, List.set_cons_succ])
    | (refine wpAs_pure (v := ?_) rfl rfl ?_ ?_; rotate_left; (intro W hC hE; clear hE; (have q1 := rBy_str0 ((HQ.out W hC).at 6 rfl : rBy (Old W) W [_] _); have q2 := rBy_str0 ((HQ.out W hC).at 9 rfl : rBy (Old W) W [_] _)); clear hC; go_simp; with_reducible rfl); simp only [Act.put, List.setIfInBounds_toArray, List.set_cons_zero, List.set_cons_succ]))
  refine wpAs_end fun W hC hE => ?_
  clear hE
  have BF := Lib.hid (HW.out.trans (hC.mono HW.out.size))
  clear hC
  go_wp2_with fail
  go_ret
  exact ⟨rfl, BF.out⟩

/-! ### The row's step -/
set_option maxRecDepth 100000 in
theorem lifted (os : Os) (started : os.Started) (H : Type) (enc : TypeId × Value → H) :
    ReturnsInHanded {} Try.checked os 5 .any (Rows.ringCodesSpec.pre6 enc Try.prog Try.f5 Rows.ringCodesRow.domain false) (Rows.ringCodesSpec.post enc Try.prog Try.f5 false true false false) := by
  refine returnsInHanded_of_change (C := Try.checked) own started (by kernel_rfl) Try.func5
    (ChangeSpec.witness6 (enc := enc) (C := Try.checked) false ⟨#[], #[.agg #[.int .u32 0, .int .i64 0, .int .u32 0, .int .u32 0, .slice none 0 0], .agg #[.int .u32 0, .int .i64 0, .int .u32 0, .int .u32 0, .slice none 0 0], .slice none 0 0], []⟩ 8 (by kernel_rfl) (by kernel_rfl) (by kernel_rfl) (by kernel_rfl)) ?_
  intro W base args ds gs before hval0 hW _ _
  have hval : ∀ (j : Nat) t v, Try.f5.params[j]? = some t → args[j]? = some v → Value.okWide Try.prog W .any base t v := hval0
  have hW' := hW
  obtain ⟨p, q, hA0, hV, _, _, _⟩ := hW
  have hA : DataW.TrodAll enc Try.prog W 0 (fun _ => true) true Try.f5.params.toList args.toList ds p := hA0
  rw [Try.params5] at hA hval
  obtain ⟨v0, vs0, d0, ds0, p0, q0, hargs, rfl, _, h0, r0⟩ := trodAll_cons hA
  obtain ⟨v1, vs1, d1, ds1, p1, q1, rfl, rfl, _, h1, r1⟩ := trodAll_cons r0
  obtain ⟨v2, vs2, d2, ds2, p2, q2, rfl, rfl, _, h2, r2⟩ := trodAll_cons r1
  obtain ⟨rfl, rfl, _⟩ := trodAll_nil r2
  obtain rfl : args = #[v0, v1, v2] := by cases args; simp_all
  obtain ⟨rfl, _⟩ := trodVars_none hV
  obtain ⟨d0x, y0⟩ := open_sup (hval 0 57 v0 rfl rfl) h0
  obtain ⟨d1x, y1⟩ := open_sup (hval 1 57 v1 rfl rfl) h1
  obtain ⟨d2x, y2⟩ := open_by (hval 2 26 v2 rfl rfl) h2
  clear hA0 hval0
  refine (walk v0 d0x v1 d1x v2 d2x W y0 y1 y2).mono fun e W' ⟨he, hb⟩ => ?_
  subst he
  exact ⟨_, rfl, law_post laidOut (by rw [Try.params5]; decide +kernel) (by kernel_rfl) Try.underlying4 rfl ⟨rfl, by simp [Rows.ringCodesSpec], rfl⟩ hW' hb⟩

theorem over : Rows.ringCodesRow.holds Try.pinned (OpenSpec.ofChange Rows.ringCodesSpec) :=
  OpenClaim.holds_of_wide 5 Try.f5 rfl rfl rfl rfl rfl rfl rfl ⟨rfl, rfl, rfl, rfl, rfl⟩ rfl rfl rfl rfl rfl (by kernel_rfl) Try.func5 (by kernel_rfl)
    (of_decide_eq_true (by kernel_rfl)) (by unfold Func.isWrapper; first | (rw [if_pos (by decide +kernel)]; kernel_rfl) | (rw [if_neg (by decide +kernel)]; exact ⟨rfl, rfl⟩))
    (fun os started H enc _ => lifted os started H enc)

end Go.Proofs.Ytgnogclhleheiaa.ringCodes
namespace Go.Proofs.Ytgnogclhleheiaa
theorem ringCodes_proved : Rows.RingCodesSaid := ringCodes.over
end Go.Proofs.Ytgnogclhleheiaa
