/-
  For every two items and list of bytes ItemCodes answers true and leaves its arguments as they were. No condition.
-/
import Derived.Test.YtmefejbbnfgbeaaBnd2
import Derived.StillTailTactics
import Derived.Deep.CutBlock
import Derived.Deep.CutRange
namespace Go.Proofs.Ytmefejbbnfgbeaa.itemCodes
open Go.ChangeShapes Go.WideShapes Go.RowKit

theorem own : ownKnob Try.prog.godebug = none := by kernel_rfl
theorem laidOut : laidOutB Try.prog = true := by kernel_rfl

theorem byt_of {w : World} {A : Option Addr} {n c : Nat} {xs : List UInt8} (h : rBy (Old w) w [.slice A n c] xs) : Byt w w.heap.size A xs := by
  obtain ⟨_, _, e, _, _, hy⟩ := rBy_byt (B := w.heap.size) (fun p hp => hp) h
  cases e
  exact hy
set_option maxRecDepth 100000 in
set_option maxHeartbeats 16000000 in
theorem walk (v : Value) (x : It) (u : Value) (o : It) (Q : Option Addr) (nb cb : Nat) (b : List UInt8) (hnb0 : b.length = nb) (hlb : nb ≤ cb) (hcb : cb ≤ 9223372036854775807) (w : World) (hv : Itm (Old w) w v x) (hu : Itm (Old w) w u o) (hb : Byt w w.heap.size Q b) :
    Calls Try.prog 4 #[v, u, .slice Q nb cb] w fun e w' => e = .returned (.bool true) ∧ Below w.heap.size w w' := by
  obtain ⟨A, c, rfl, _, l1, m1, _⟩ := hv.open
  obtain ⟨B, d, rfl, _, l2, m2, _⟩ := hu.open
  have rb : rBy (Old w) w [.slice Q nb cb] b := by rw [← hnb0]; exact byt_rBy hb (by omega) hcb
  have hnb := Lib.hid hnb0
  obtain ⟨k1, r1, v1⟩ := x
  obtain ⟨k2, r2, v2⟩ := o
  have G0 := (((Bag.nil w).add (F := OnI _ _ _) (on_old hv) (lasts_onI _ _ _)).add (F := OnI _ _ _) (on_old hu) (lasts_onI _ _ _)).add (F := OnB _ _ _) (onB_old rb) (lasts_onB _ _ _)
  obtain ⟨w1, hw1, G1, B1, _, s1⟩ := bag_item G0 (Below.refl _ _) (.int .u8 (k1.1.toNat : Int)) (.int .u32 k1.2.1) (.int .u32 k1.2.2) (.int .i64 r1) (.slice A v1.length c)
  obtain ⟨w2, hw2, G2, B2, _, s2⟩ := bag_item G1 (Below.refl _ _) (.int .u8 (k2.1.toNat : Int)) (.int .u32 k2.2.1) (.int .u32 k2.2.2) (.int .i64 r2) (.slice B v2.length d)
  have BB := Lib.hid (B1.trans (B2.mono B1.size))
  have HG := Lib.hid G2
  have LT := Lib.hid (show w.heap.size < w1.heap.size ∧ w1.heap.size < w2.heap.size from ⟨by omega, by omega⟩)
  replace hw2 := Lib.hid hw2
  unfold itV at *
  dsimp only at *
  clear G0 G1 G2 B1 B2 s1 s2 hv hu hb rb hnb0
  obtain ⟨n1, hn1⟩ : ∃ n, v1.length = n := ⟨_, rfl⟩
  obtain ⟨n2, hn2⟩ : ∃ n, v2.length = n := ⟨_, rfl⟩
  rw [hn1] at l1 HG hw1 ⊢
  rw [hn2] at l2 HG hw2 ⊢
  replace hn1 := Lib.hid hn1
  replace hn2 := Lib.hid hn2
  go_enter Try.func4, Try.ntmps4
  go_upto_region 1 with fail
  rw [hw2.out]
  clear hw1 hw2
  obtain ⟨x1, x2, x3, x4, x5, _⟩ := HG.out.at 1 rfl
  obtain ⟨y1, y2, y3, y4, y5, _⟩ := HG.out.at 0 rfl
  by_cases b1 : 10000 < nb
  · have j1 : (10000 : Int) < nb := by omega
    go_wp2_with fail
    go_ret
    exact ⟨rfl, BB.out⟩
  by_cases b2 : 10000 < n1
  · have j1 : ¬ (10000 : Int) < nb := by omega
    have j2 : (10000 : Int) < n1 := by omega
    go_wp2_with fail
    go_ret
    exact ⟨rfl, BB.out⟩
  by_cases b3 : 10000 < n2
  · have j1 : ¬ (10000 : Int) < nb := by omega
    have j2 : ¬ (10000 : Int) < n1 := by omega
    have j3 : (10000 : Int) < n2 := by omega
    go_wp2_with fail
    go_ret
    exact ⟨rfl, BB.out⟩
  have j1 : ¬ (10000 : Int) < nb := by omega
  have j2 : ¬ (10000 : Int) < n1 := by omega
  have j3 : ¬ (10000 : Int) < n2 := by omega
  go_upto_region 3 with fail
  obtain ⟨ov, w3, hr3, ho3, hb3⟩ := app_copy (.slice Q nb cb) b w2 (by rw [hnb.out]; omega) (OnB.old (HG.out.at 2 rfl))
  obtain ⟨O, oc, rfl, _⟩ := id (rBy_open ho3)
  rw [hnb.out] at hr3 ho3
  replace HG := Lib.hid ((HG.out.below hb3).add (F := OnB _ _ _) (onB_old (stab_by.drop ho3)) (lasts_onB _ _ _))
  replace BB := Lib.hid (BB.out.trans (hb3.mono BB.out.size))
  have S3 := Lib.hid hb3.size
  have H3 := Lib.hid hr3
  clear hr3 ho3 hb3 x1 x2 x3 x4 x5 y1 y2 y3 y4 y5
  obtain ⟨x1, x2, x3, x4, x5, _⟩ := HG.out.at 2 rfl
  go_wp2_with (at_builtin; refine wpList_append_run rfl _ _ _ rfl rfl rfl H3.out ?_; clear H3)
  with_reducible refine (itWrite_any _ (k1, r1, v1) _ (OnI.old (HG.out.at 5 rfl))).mono ?_
  rintro e4 w4 ⟨a4, rfl, ha4, hb4⟩
  obtain ⟨T, tc, rfl, _⟩ := id (rBy_open ha4)
  obtain ⟨la, hla⟩ : ∃ n, (wrI (k1, r1, v1)).length = n := ⟨_, rfl⟩
  rw [hla] at ha4 ⊢
  replace HG := Lib.hid ((HG.out.below hb4).add (F := OldB _ _) (stab_by.drop ha4) (lasts_oldB _ _))
  replace BB := Lib.hid (BB.out.trans (hb4.mono BB.out.size))
  have S4 := Lib.hid hb4.size
  clear ha4 hb4 x1 x2 x3 x4 x5
  obtain ⟨x1, x2, x3, x4, x5, _⟩ := HG.out.at 3 rfl
  go_wp2_with fail
  with_reducible refine (refWriteI_any _ (k1, r1, v1) _ (OnI.old (HG.out.at 6 rfl))).mono ?_
  rintro e5 w5 ⟨a5, rfl, ha5, hb5⟩
  obtain ⟨U, uc, rfl, _⟩ := id (rBy_open ha5)
  rw [hla] at ha5 ⊢
  replace HG := Lib.hid ((HG.out.below hb5).add (F := OldB _ _) (stab_by.drop ha5) (lasts_oldB _ _))
  replace BB := Lib.hid (BB.out.trans (hb5.mono BB.out.size))
  have S5 := Lib.hid hb5.size
  clear ha5 hb5 x1 x2 x3 x4 x5
  replace hla := Lib.hid hla
  obtain ⟨ck, hck⟩ : ∃ n, chkI (k1, r1, v1) = n := ⟨_, rfl⟩
  rw [hck]
  replace hck := Lib.hid hck
  go_wp2_with fail
  with_reducible refine (itRead_any _ b _ (OnB.old (HG.out.at 2 rfl))).mono ?_
  rintro e6 w6 ⟨u6, rfl, hu6, hb6⟩
  obtain ⟨D, dc, rfl, _⟩ := id hu6.open
  obtain ⟨w7, hw7, HG7, hb7, _, s7⟩ := bag_item (((HG.out.below hb6).add (F := OnI _ _ _) (on_new hu6) (lasts_onI _ _ _)).add (F := NewIn _ _ _ _) (newIn_of hu6) (lasts_newIn _ _ _ _)) (Below.refl _ _) (.int .u8 ((itR b).1.1.toNat : Int)) (.int .u32 (itR b).1.2.1) (.int .u32 (itR b).1.2.2) (.int .i64 (itR b).2.1) (.slice D (itR b).2.2.length dc)
  replace HG := Lib.hid HG7
  replace BB := Lib.hid ((BB.out.trans (hb6.mono BB.out.size)).trans (hb7.mono (BB.out.trans (hb6.mono BB.out.size)).size))
  have S6 := Lib.hid hb6.size
  replace s7 := Lib.hid s7
  clear hu6 hb6 HG7 hb7
  obtain ⟨s, hs⟩ : ∃ s, itR b = s := ⟨_, rfl⟩
  obtain ⟨N, hN⟩ : ∃ N, itN b = N := ⟨_, rfl⟩
  obtain ⟨F, hF⟩ : ∃ F, itE b = F := ⟨_, rfl⟩
  rw [hs] at HG hw7 ⊢
  rw [hN, hF]
  unfold itV at *
  go_upto_region 7 with fail
  clear hw7
  go_wp2_with fail
  with_reducible refine (refReadI_any _ b _ (OnB.old (HG.out.at 8 rfl))).mono ?_
  rintro e8 w8 ⟨u8, rfl, hu8, hb8⟩
  rw [hs] at hu8
  rw [hN, hF]
  obtain ⟨D8, dc8, rfl, _⟩ := id hu8.open
  obtain ⟨w9, hw9, HG9, hb9, _, s9⟩ := bag_item ((HG.out.below hb8).add (F := NewI _ _ _) hu8 (lasts_newI _ _ _)) (Below.refl _ _) (.int .u8 (s.1.1.toNat : Int)) (.int .u32 s.1.2.1) (.int .u32 s.1.2.2) (.int .i64 s.2.1) (.slice D8 s.2.2.length dc8)
  replace HG := Lib.hid HG9
  replace BB := Lib.hid ((BB.out.trans (hb8.mono BB.out.size)).trans (hb9.mono (BB.out.trans (hb8.mono BB.out.size)).size))
  have S8 := Lib.hid hb8.size
  have S9 := Lib.hid hb9.size
  clear hu8 hb8 HG9 hb9 s9
  replace hs := Lib.hid hs
  replace hN := Lib.hid hN
  replace hF := Lib.hid hF
  unfold itV at *
  go_upto_region 8 with fail
  clear hw9
  obtain ⟨S, hS⟩ : ∃ S, sameI (k1, r1, v1) (k2, r2, v2) = S := ⟨_, rfl⟩
  obtain ⟨K, hK⟩ : ∃ K, lessK k1 k2 = K := ⟨_, rfl⟩
  replace hS := Lib.hid hS
  replace hK := Lib.hid hK
  refine wp_region_fx (by kernel_rfl) (fun W => Below w9.heap.size w9 W) (fun _ => none) (fun i => match i with
      | 13 => some (.bool true)
      | 28 => some (.int .i64 ck)
      | 30 => some (.int .i64 ck)
      | 36 => some (.bool S)
      | 39 => some (.bool S)
      | 47 => some (.bool K)
      | 52 => some (.bool K)
      | _ => none) (by kernel_rfl) (Below.refl _ _).drew (fun w w' h hb => h.trans (hb.mono h.size)) (fun j φ x w w' hp => by cases hp) ?_
  repeat (first
    | (refine wpAs_skip rfl ?_; simp only [Act.put, List.setIfInBounds_toArray, List.set_cons_zero, List.set_cons_succ])
    | (refine wpAs_pure (v := ?_) rfl rfl ?_ ?_; rotate_left; (intro W hC hE; clear hE; skip; clear hC; go_simp; done); simp only [Act.put, List.setIfInBounds_toArray, List.set_cons_zero, List.set_cons_succ])
    | (refine wpAs_pure (v := ?_) rfl rfl ?_ ?_; rotate_left; (intro W hC hE; clear hE; skip; clear hC; go_simp; with_reducible rfl); simp only [Act.put, List.setIfInBounds_toArray, List.set_cons_zero, List.set_cons_succ]))
  refine wpAs_pure (v := .string ⟨(wrI (k1, r1, v1)).toArray⟩) rfl rfl ?_ ?_
  · intro W hC hE
    have h : rBy (Old W) W [.slice T la tc] (wrI (k1, r1, v1)) := (HG.out.below hC).at 6 rfl
    have hs := rBy_str0 h
    clear h hC hE
    refine run_convert_op (v := .slice T la tc) _ _ _ rfl ?_ hs
    first | rfl | (simp; done) | (go_simp; done)
  simp only [Act.put, List.setIfInBounds_toArray, List.set_cons_zero, List.set_cons_succ]
  repeat (first
    | (refine wpAs_skip rfl ?_; simp only [Act.put, List.setIfInBounds_toArray, List.set_cons_zero, List.set_cons_succ])
    | (refine wpAs_pure (v := ?_) rfl rfl ?_ ?_; rotate_left; (intro W hC hE; clear hE; skip; clear hC; go_simp; done); simp only [Act.put, List.setIfInBounds_toArray, List.set_cons_zero, List.set_cons_succ])
    | (refine wpAs_pure (v := ?_) rfl rfl ?_ ?_; rotate_left; (intro W hC hE; clear hE; skip; clear hC; go_simp; with_reducible rfl); simp only [Act.put, List.setIfInBounds_toArray, List.set_cons_zero, List.set_cons_succ]))
  refine wpAs_pure (v := .string ⟨(wrI (k1, r1, v1)).toArray⟩) rfl rfl ?_ ?_
  · intro W hC hE
    have h : rBy (Old W) W [.slice U la uc] (wrI (k1, r1, v1)) := (HG.out.below hC).at 5 rfl
    have hs := rBy_str0 h
    clear h hC hE
    refine run_convert_op (v := .slice U la uc) _ _ _ rfl ?_ hs
    first | rfl | (simp; done) | (go_simp; done)
  simp only [Act.put, List.setIfInBounds_toArray, List.set_cons_zero, List.set_cons_succ]
  repeat (first
    | (refine wpAs_skip rfl ?_; simp only [Act.put, List.setIfInBounds_toArray, List.set_cons_zero, List.set_cons_succ])
    | (refine wpAs_pure (v := ?_) rfl rfl ?_ ?_; rotate_left; (intro W hC hE; clear hE; (have HW := HG.out.below hC; obtain ⟨x1, x2, x3, x4, x5, _⟩ := HW.at 2 rfl; obtain ⟨y1, y2, y3, y4, y5, _⟩ := HW.at 0 rfl; clear HW); clear hC; go_simp; done); simp only [Act.put, List.setIfInBounds_toArray, List.set_cons_zero, List.set_cons_succ])
    | (refine wpAs_pure (v := ?_) rfl rfl ?_ ?_; rotate_left; (intro W hC hE; clear hE; (have HW := HG.out.below hC; obtain ⟨x1, x2, x3, x4, x5, _⟩ := HW.at 2 rfl; obtain ⟨y1, y2, y3, y4, y5, _⟩ := HW.at 0 rfl; clear HW); clear hC; go_simp; with_reducible rfl); simp only [Act.put, List.setIfInBounds_toArray, List.set_cons_zero, List.set_cons_succ]))
  refine wpAs_fixed rfl rfl rfl ?_ ?_
  · intro W hC hE
    clear hE
    refine does_enter (f := 17) (args := #[.agg #[.int .u8 (s.1.1.toNat : Int), .int .u32 s.1.2.1, .int .u32 s.1.2.2, .int .i64 s.2.1, .slice D s.2.2.length dc], .agg #[.int .u8 (s.1.1.toNat : Int), .int .u32 s.1.2.1, .int .u32 s.1.2.2, .int .i64 s.2.1, .slice D8 s.2.2.length dc8]]) ?_ ?_
    · clear hC
      go_simp
    · have HW := HG.out.below hC
      refine (refSameI_any _ _ s s _ (OnI.old (HW.at 4 rfl)) (Itm.drop (HW.at 1 rfl : Itm (New _ W) W _ s))).mono ?_
      rintro e w' ⟨rfl, hg⟩
      rw [sameI_self]
      exact ⟨_, rfl, rfl, hg⟩
  simp only [Act.put, List.setIfInBounds_toArray, List.set_cons_zero, List.set_cons_succ]
  repeat (first
    | (refine wpAs_skip rfl ?_; simp only [Act.put, List.setIfInBounds_toArray, List.set_cons_zero, List.set_cons_succ])
    | (refine wpAs_pure (v := ?_) rfl rfl ?_ ?_; rotate_left; (intro W hC hE; clear hE; (have HW := HG.out.below hC; obtain ⟨x1, x2, x3, x4, x5, _⟩ := HW.at 9 rfl; obtain ⟨y1, y2, y3, y4, y5, _⟩ := HW.at 8 rfl; clear HW); clear hC; go_simp; done); simp only [Act.put, List.setIfInBounds_toArray, List.set_cons_zero, List.set_cons_succ])
    | (refine wpAs_pure (v := ?_) rfl rfl ?_ ?_; rotate_left; (intro W hC hE; clear hE; (have HW := HG.out.below hC; obtain ⟨x1, x2, x3, x4, x5, _⟩ := HW.at 9 rfl; obtain ⟨y1, y2, y3, y4, y5, _⟩ := HW.at 8 rfl; clear HW); clear hC; go_simp; with_reducible rfl); simp only [Act.put, List.setIfInBounds_toArray, List.set_cons_zero, List.set_cons_succ]))
  refine wpAs_fixed rfl rfl rfl ?_ ?_
  · intro W hC hE
    clear hE
    refine does_enter (f := 13) (args := #[.agg #[.int .u8 (k1.1.toNat : Int), .int .u32 k1.2.1, .int .u32 k1.2.2, .int .i64 r1, .slice A n1 c]]) ?_ ?_
    · clear hC
      go_simp
    · have HW := HG.out.below hC
      refine (checkI_any _ (k1, r1, v1) _ (OnI.old (HW.at 12 rfl))).mono ?_
      rintro e w' ⟨rfl, hg⟩
      rw [hck.out]
      exact ⟨_, rfl, rfl, hg⟩
  simp only [Act.put, List.setIfInBounds_toArray, List.set_cons_zero, List.set_cons_succ]
  repeat (first
    | (refine wpAs_skip rfl ?_; simp only [Act.put, List.setIfInBounds_toArray, List.set_cons_zero, List.set_cons_succ])
    | (refine wpAs_pure (v := ?_) rfl rfl ?_ ?_; rotate_left; (intro W hC hE; clear hE; (have HW := HG.out.below hC; obtain ⟨x1, x2, x3, x4, x5, _⟩ := HW.at 9 rfl; obtain ⟨y1, y2, y3, y4, y5, _⟩ := HW.at 8 rfl; clear HW); clear hC; go_simp; done); simp only [Act.put, List.setIfInBounds_toArray, List.set_cons_zero, List.set_cons_succ])
    | (refine wpAs_pure (v := ?_) rfl rfl ?_ ?_; rotate_left; (intro W hC hE; clear hE; (have HW := HG.out.below hC; obtain ⟨x1, x2, x3, x4, x5, _⟩ := HW.at 9 rfl; obtain ⟨y1, y2, y3, y4, y5, _⟩ := HW.at 8 rfl; clear HW); clear hC; go_simp; with_reducible rfl); simp only [Act.put, List.setIfInBounds_toArray, List.set_cons_zero, List.set_cons_succ]))
  refine wpAs_fixed rfl rfl rfl ?_ ?_
  · intro W hC hE
    clear hE
    refine does_enter (f := 18) (args := #[.agg #[.int .u8 (k1.1.toNat : Int), .int .u32 k1.2.1, .int .u32 k1.2.2, .int .i64 r1, .slice A n1 c]]) ?_ ?_
    · clear hC
      go_simp
    · have HW := HG.out.below hC
      refine (refCheckI_any _ (k1, r1, v1) _ (OnI.old (HW.at 12 rfl))).mono ?_
      rintro e w' ⟨rfl, hg⟩
      rw [hck.out]
      exact ⟨_, rfl, rfl, hg⟩
  simp only [Act.put, List.setIfInBounds_toArray, List.set_cons_zero, List.set_cons_succ]
  repeat (first
    | (refine wpAs_skip rfl ?_; simp only [Act.put, List.setIfInBounds_toArray, List.set_cons_zero, List.set_cons_succ])
    | (refine wpAs_pure (v := ?_) rfl rfl ?_ ?_; rotate_left; (intro W hC hE; clear hE; (have HW := HG.out.below hC; obtain ⟨x1, x2, x3, x4, x5, _⟩ := HW.at 9 rfl; obtain ⟨y1, y2, y3, y4, y5, _⟩ := HW.at 8 rfl; clear HW); clear hC; go_simp; done); simp only [Act.put, List.setIfInBounds_toArray, List.set_cons_zero, List.set_cons_succ])
    | (refine wpAs_pure (v := ?_) rfl rfl ?_ ?_; rotate_left; (intro W hC hE; clear hE; (have HW := HG.out.below hC; obtain ⟨x1, x2, x3, x4, x5, _⟩ := HW.at 9 rfl; obtain ⟨y1, y2, y3, y4, y5, _⟩ := HW.at 8 rfl; clear HW); clear hC; go_simp; with_reducible rfl); simp only [Act.put, List.setIfInBounds_toArray, List.set_cons_zero, List.set_cons_succ]))
  refine wpAs_fixed rfl rfl rfl ?_ ?_
  · intro W hC hE
    clear hE
    refine does_enter (f := 19) (args := #[.agg #[.int .u8 (k1.1.toNat : Int), .int .u32 k1.2.1, .int .u32 k1.2.2, .int .i64 r1, .slice A n1 c], .agg #[.int .u8 (k2.1.toNat : Int), .int .u32 k2.2.1, .int .u32 k2.2.2, .int .i64 r2, .slice B n2 d]]) ?_ ?_
    · clear hC
      go_simp
    · have HW := HG.out.below hC
      refine (sameI_any _ _ (k1, r1, v1) (k2, r2, v2) _ (OnI.old (HW.at 12 rfl)) (OnI.old (HW.at 11 rfl))).mono ?_
      rintro e w' ⟨rfl, hg⟩
      rw [hS.out]
      exact ⟨_, rfl, rfl, hg⟩
  simp only [Act.put, List.setIfInBounds_toArray, List.set_cons_zero, List.set_cons_succ]
  repeat (first
    | (refine wpAs_skip rfl ?_; simp only [Act.put, List.setIfInBounds_toArray, List.set_cons_zero, List.set_cons_succ])
    | (refine wpAs_pure (v := ?_) rfl rfl ?_ ?_; rotate_left; (intro W hC hE; clear hE; (have HW := HG.out.below hC; obtain ⟨x1, x2, x3, x4, x5, _⟩ := HW.at 9 rfl; obtain ⟨y1, y2, y3, y4, y5, _⟩ := HW.at 8 rfl; clear HW); clear hC; go_simp; done); simp only [Act.put, List.setIfInBounds_toArray, List.set_cons_zero, List.set_cons_succ])
    | (refine wpAs_pure (v := ?_) rfl rfl ?_ ?_; rotate_left; (intro W hC hE; clear hE; (have HW := HG.out.below hC; obtain ⟨x1, x2, x3, x4, x5, _⟩ := HW.at 9 rfl; obtain ⟨y1, y2, y3, y4, y5, _⟩ := HW.at 8 rfl; clear HW); clear hC; go_simp; with_reducible rfl); simp only [Act.put, List.setIfInBounds_toArray, List.set_cons_zero, List.set_cons_succ]))
  refine wpAs_fixed rfl rfl rfl ?_ ?_
  · intro W hC hE
    clear hE
    refine does_enter (f := 17) (args := #[.agg #[.int .u8 (k1.1.toNat : Int), .int .u32 k1.2.1, .int .u32 k1.2.2, .int .i64 r1, .slice A n1 c], .agg #[.int .u8 (k2.1.toNat : Int), .int .u32 k2.2.1, .int .u32 k2.2.2, .int .i64 r2, .slice B n2 d]]) ?_ ?_
    · clear hC
      go_simp
    · have HW := HG.out.below hC
      refine (refSameI_any _ _ (k1, r1, v1) (k2, r2, v2) _ (OnI.old (HW.at 12 rfl)) (OnI.old (HW.at 11 rfl))).mono ?_
      rintro e w' ⟨rfl, hg⟩
      rw [hS.out]
      exact ⟨_, rfl, rfl, hg⟩
  simp only [Act.put, List.setIfInBounds_toArray, List.set_cons_zero, List.set_cons_succ]
  repeat (first
    | (refine wpAs_skip rfl ?_; simp only [Act.put, List.setIfInBounds_toArray, List.set_cons_zero, List.set_cons_succ])
    | (refine wpAs_pure (v := ?_) rfl rfl ?_ ?_; rotate_left; (intro W hC hE; clear hE; (have HW := HG.out.below hC; obtain ⟨x1, x2, x3, x4, x5, _⟩ := HW.at 9 rfl; obtain ⟨y1, y2, y3, y4, y5, _⟩ := HW.at 8 rfl; clear HW); clear hC; go_simp; done); simp only [Act.put, List.setIfInBounds_toArray, List.set_cons_zero, List.set_cons_succ])
    | (refine wpAs_pure (v := ?_) rfl rfl ?_ ?_; rotate_left; (intro W hC hE; clear hE; (have HW := HG.out.below hC; obtain ⟨x1, x2, x3, x4, x5, _⟩ := HW.at 9 rfl; obtain ⟨y1, y2, y3, y4, y5, _⟩ := HW.at 8 rfl; clear HW); clear hC; go_simp; with_reducible rfl); simp only [Act.put, List.setIfInBounds_toArray, List.set_cons_zero, List.set_cons_succ]))
  refine wpAs_fixed rfl rfl rfl ?_ ?_
  · intro W hC hE
    clear hE
    refine does_enter (f := 11) (args := #[kyV k1, kyV k2]) ?_ ?_
    · clear hC
      go_simp
    · have HW := HG.out.below hC
      refine (less_any k1 k2 W).mono ?_
      rintro e w' ⟨rfl, hg⟩
      rw [hK.out]
      exact ⟨_, rfl, rfl, hg⟩
  simp only [Act.put, List.setIfInBounds_toArray, List.set_cons_zero, List.set_cons_succ]
  repeat (first
    | (refine wpAs_skip rfl ?_; simp only [Act.put, List.setIfInBounds_toArray, List.set_cons_zero, List.set_cons_succ])
    | (refine wpAs_pure (v := ?_) rfl rfl ?_ ?_; rotate_left; (intro W hC hE; clear hE; (have HW := HG.out.below hC; obtain ⟨x1, x2, x3, x4, x5, _⟩ := HW.at 9 rfl; obtain ⟨y1, y2, y3, y4, y5, _⟩ := HW.at 8 rfl; clear HW); clear hC; go_simp; done); simp only [Act.put, List.setIfInBounds_toArray, List.set_cons_zero, List.set_cons_succ])
    | (refine wpAs_pure (v := ?_) rfl rfl ?_ ?_; rotate_left; (intro W hC hE; clear hE; (have HW := HG.out.below hC; obtain ⟨x1, x2, x3, x4, x5, _⟩ := HW.at 9 rfl; obtain ⟨y1, y2, y3, y4, y5, _⟩ := HW.at 8 rfl; clear HW); clear hC; go_simp; with_reducible rfl); simp only [Act.put, List.setIfInBounds_toArray, List.set_cons_zero, List.set_cons_succ]))
  refine wpAs_fixed rfl rfl rfl ?_ ?_
  · intro W hC hE
    clear hE
    refine does_enter (f := 20) (args := #[kyV k1, kyV k2]) ?_ ?_
    · clear hC
      go_simp
    · have HW := HG.out.below hC
      refine (refLess_any k1 k2 W).mono ?_
      rintro e w' ⟨rfl, hg⟩
      rw [hK.out]
      exact ⟨_, rfl, rfl, hg⟩
  simp only [Act.put, List.setIfInBounds_toArray, List.set_cons_zero, List.set_cons_succ]
  repeat (first
    | (refine wpAs_skip rfl ?_; simp only [Act.put, List.setIfInBounds_toArray, List.set_cons_zero, List.set_cons_succ])
    | (refine wpAs_pure (v := ?_) rfl rfl ?_ ?_; rotate_left; (intro W hC hE; clear hE; skip; clear hC; go_simp; done); simp only [Act.put, List.setIfInBounds_toArray, List.set_cons_zero, List.set_cons_succ])
    | (refine wpAs_pure (v := ?_) rfl rfl ?_ ?_; rotate_left; (intro W hC hE; clear hE; skip; clear hC; go_simp; with_reducible rfl); simp only [Act.put, List.setIfInBounds_toArray, List.set_cons_zero, List.set_cons_succ]))
  refine wpAs_end fun W hC hE => ?_
  clear hE
  replace HG := Lib.hid (HG.out.below hC)
  replace BB := Lib.hid (BB.out.trans (hC.mono BB.out.size))
  have SW := Lib.hid hC.size
  clear hC
  obtain ⟨x1, x2, x3, x4, x5, _⟩ := HG.out.at 9 rfl
  go_wp2_with fail
  with_reducible refine (twinI_any _ (k1, r1, v1) _ (by show v1.length ≤ _; rw [hn1.out]; omega) (OnI.old (HG.out.at 12 rfl))).mono ?_
  rintro ea wa ⟨ta, rfl, hta, hba⟩
  obtain ⟨X, xc, rfl, _⟩ := id hta.open
  obtain ⟨wb, hwb, HGb, hbb, _, sb⟩ := bag_item (((HG.out.below hba).add (F := OnI _ _ _) (on_new hta) (lasts_onI _ _ _)).add (F := NewIn _ _ _ _) (newIn_of hta) (lasts_newIn _ _ _ _)) (Below.refl _ _) (.int .u8 (k1.1.toNat : Int)) (.int .u32 k1.2.1) (.int .u32 k1.2.2) (.int .i64 r1) (.slice X v1.length xc)
  replace HG := Lib.hid HGb
  replace BB := Lib.hid ((BB.out.trans (hba.mono BB.out.size)).trans (hbb.mono (BB.out.trans (hba.mono BB.out.size)).size))
  have Sa := Lib.hid hba.size
  replace sb := Lib.hid sb
  clear hta hba HGb hbb x1 x2 x3 x4 x5
  unfold itV at *
  dsimp only at *
  go_upto_region 11 with fail
  clear hwb
  obtain ⟨z1, z2, z3, z4, z5, _⟩ := HG.out.at 0 rfl
  obtain ⟨x1, x2, x3, x4, x5, _⟩ := HG.out.at 12 rfl
  go_wp2_with fail
  with_reducible refine (refSameI_any _ _ (k1, r1, v1) (k1, r1, v1) _ (OnI.old (HG.out.at 2 rfl)) (OnI.old (HG.out.at 15 rfl))).mono ?_
  rintro ec wc ⟨rfl, hbc⟩
  rw [sameI_self]
  replace HG := Lib.hid (HG.out.below hbc)
  replace BB := Lib.hid (BB.out.trans (hbc.mono BB.out.size))
  have Sc := Lib.hid hbc.size
  clear hbc z1 z2 z3 z4 z5 x1 x2 x3 x4 x5
  obtain ⟨x1, x2, x3, x4, x5, _⟩ := HG.out.at 12 rfl
  go_wp2_with fail
  with_reducible refine (refTwinI_any _ (k1, r1, v1) _ (by show v1.length ≤ _; rw [hn1.out]; omega) (OnI.old (HG.out.at 15 rfl))).mono ?_
  rintro ed wd ⟨td, rfl, htd, hbd⟩
  obtain ⟨Y, yc, rfl, _⟩ := id htd.open
  obtain ⟨we, hwe, HGe, hbe, _, se⟩ := bag_item ((HG.out.below hbd).add (F := OnI _ _ _) (on_new htd) (lasts_onI _ _ _)) (Below.refl _ _) (.int .u8 (k1.1.toNat : Int)) (.int .u32 k1.2.1) (.int .u32 k1.2.2) (.int .i64 r1) (.slice Y v1.length yc)
  replace HG := Lib.hid HGe
  replace BB := Lib.hid ((BB.out.trans (hbd.mono BB.out.size)).trans (hbe.mono (BB.out.trans (hbd.mono BB.out.size)).size))
  have Sd := Lib.hid hbd.size
  replace se := Lib.hid se
  clear htd hbd HGe hbe x1 x2 x3 x4 x5
  unfold itV at *
  dsimp only at *
  go_upto_region 14 with fail
  clear hwe
  rw [hn1.out] at HG
  obtain ⟨_, _, _, _, z5, _⟩ := HG.out.at 2 rfl
  have HT3 : Hid (NewIn W.heap.size wa.heap.size (itV (k1, r1, v1) (.slice X n1 xc)) (k1, r1, v1) we) := Lib.hid (HG.out.at 3 rfl)
  go_wp2_with fail
  go_loopw [20] (fun i wr => ∃ j : Nat, j ≤ n1 ∧ i = .int .i64 j ∧ Turnt W.heap.size wa.heap.size we wr) (fun i _ => n1 - (intOf i).toNat)
  case atStart => exact ⟨0, by omega, rfl, Turnt.refl _ _ _⟩
  case round =>
    obtain ⟨j, hj, rfl, hT⟩ := hrel
    have z := (hT.cell (p := ⟨wa.heap.size, 4, none⟩) (Or.inr (Nat.le_refl _))).trans z5
    by_cases hlt : j < n1
    · obtain ⟨ad, y, rfl, hy, hf, hst0⟩ := turn_at HT3.out hT (by show j < v1.length; rw [hn1.out]; exact hlt)
      have hadd := u8_succ3 y
      have hst := Lib.hid hst0
      clear hT z5
      generalize (y + 1) = y' at *
      clear hst0
      go_wp2_with fail
      go_still_tail 10, (by kernel_rfl)
      change wpList _ _ _ _ _ wr.drew
      go_wp2
      go_roundw
      case rel => exact ⟨j + 1, by omega, by go_num, hst.out.drew⟩
      case measure => simp [intOf]; omega
    · have hT' := Lib.hid hT
      obtain ⟨wo, rfl⟩ : ∃ wo : World, wo = wr := ⟨_, rfl⟩
      have q5 : wo.cell? ⟨w6.heap.size, 4, none⟩ = some (.slice D s.2.2.length dc) := by
        obtain ⟨_, _, _, _, q, _⟩ := HG.out.at 7 rfl
        exact (hT.cell (p := ⟨w6.heap.size, 4, none⟩) (Or.inl (by have := s7.out; have := S8.out; have := S9.out; have := SW.out; show w6.heap.size < _; omega))).trans q
      have HR3 : Hid (NewIn w5.heap.size w6.heap.size (itV s (.slice D s.2.2.length dc)) s wo) := Lib.hid (hT.newIn_out (Or.inl (by have := s7.out; have := S8.out; have := S9.out; have := SW.out; omega)) (HG.out.at 8 rfl))
      have dm : s.2.2.length ≤ 9223372036854775807 := by
        obtain ⟨_, _, _, _, dl, dm, _⟩ := HR3.out.1.open
        omega
      have LO := Lib.hid (show w5.heap.size ≤ w6.heap.size ∧ w6.heap.size ≤ W.heap.size ∧ w3.heap.size ≤ w5.heap.size ∧ w.heap.size < w3.heap.size ∧ W.heap.size ≤ wa.heap.size ∧ wa.heap.size ≤ wc.heap.size ∧ wc.heap.size ≤ wd.heap.size from ⟨S6.out, by have := s7.out; have := S8.out; have := S9.out; have := SW.out; omega, by have := S4.out; have := S5.out; omega, by have := LT.out; have := S3.out; omega, Sa.out, by have := sb.out; have := Sc.out; omega, Sd.out⟩)
      clear hT z5
      go_wp2_with fail
      replace hj := Lib.hid hj
      replace hlt := Lib.hid hlt
      go_loopw [21] (fun i wr => ∃ j : Nat, j ≤ s.2.2.length ∧ i = .int .i64 j ∧ Turnt w5.heap.size w6.heap.size wo wr) (fun i _ => s.2.2.length - (intOf i).toNat)
      case atStart => exact ⟨0, by omega, rfl, Turnt.refl _ _ _⟩
      case round =>
        clear z
        obtain ⟨j2, hj2, rfl, hT2⟩ := hrel
        have z2 := (hT2.cell (p := ⟨w6.heap.size, 4, none⟩) (Or.inr (Nat.le_refl _))).trans q5
        by_cases hlt2 : j2 < s.2.2.length
        · obtain ⟨ad, y, rfl, hy, hf, hst0⟩ := turn_at HR3.out hT2 hlt2
          have hadd := u8_succ3 y
          have hst := Lib.hid hst0
          clear hT2 q5
          generalize (y + 1) = y' at *
          clear hst0
          go_wp2_with fail
          go_still_tail 10, (by kernel_rfl)
          change wpList _ _ _ _ _ wr.drew
          go_wp2
          go_roundw
          case rel => exact ⟨j2 + 1, by omega, by go_num, hst.out.drew⟩
          case measure => simp [intOf]; omega
        · obtain ⟨wf, rfl⟩ : ∃ wf : World, wf = wr := ⟨_, rfl⟩
          have LO' := LO.out
          have in0 : ∀ {p : Addr} {n lo hi : Nat}, n ≤ lo → In 0 n p → p.block < lo ∨ hi ≤ p.block := fun hn hp => Or.inl (Nat.lt_of_lt_of_le hp.2 hn)
          have own9 : OnB (In 0 w3.heap.size) (.slice O nb oc) b wf := hT2.by_out (fun p hp => in0 (by omega) hp) (hT'.out.by_out (fun p hp => in0 (by omega) hp) (HG.out.at 12 rfl))
          have b9 : OnB (In 0 w.heap.size) (.slice Q nb cb) b wf := hT2.by_out (fun p hp => in0 (by omega) hp) (hT'.out.by_out (fun p hp => in0 (by omega) hp) (HG.out.at 15 rfl))
          have x9 : OnI (In 0 w.heap.size) _ (k1, r1, v1) wf := hT2.itm_out (fun p hp => in0 (by omega) hp) (hT'.out.itm_out (fun p hp => in0 (by omega) hp) (HG.out.at 17 rfl))
          have was9 : OnI (In wc.heap.size wd.heap.size) _ (k1, r1, v1) wf := hT2.itm_out (fun p hp => Or.inr (by have := hp.1; omega)) (hT'.out.itm_out (fun p hp => Or.inr (by have := hp.1; omega)) (HG.out.at 1 rfl))
          have bx9 : Box5 w.heap.size _ _ _ _ _ wf := hT2.box5 (Or.inl (by omega)) (hT'.out.box5 (Or.inl (by omega)) (HG.out.at 14 rfl))
          have bw9 : Box5 wd.heap.size _ _ _ _ _ wf := hT2.box5 (Or.inr (by omega)) (hT'.out.box5 (Or.inr (by omega)) (HG.out.at 0 rfl))
          have BF := Lib.hid ((BB.out.trans (hT'.out.sp.low.mono (by omega))).trans (hT2.sp.low.mono (by omega)))
          have hs1 := rBy_str0 (OnB.old own9)
          have hs2 := rBy_str0 (OnB.old b9)
          have hbb : (b == b) = true := by simp
          have X9 := Lib.hid (OnI.old x9)
          have W9 := Lib.hid (OnI.old was9)
          obtain ⟨x1, x2, x3, x4, x5, _⟩ := bx9
          obtain ⟨y1, y2, y3, y4, y5, _⟩ := bw9
          clear own9 b9 x9 was9 hT2 q5 LO' in0
          go_wp2_with fail
          with_reducible refine (refSameI_any _ _ (k1, r1, v1) (k1, r1, v1) _ W9.out X9.out).mono ?_
          rintro eg wg ⟨rfl, hbg⟩
          rw [sameI_self]
          have BG := Lib.hid (BF.out.trans (hbg.mono BF.out.size))
          clear hbg
          go_wp2_with fail
          go_ret
          exact ⟨rfl, BG.out⟩

/-! ### The row's step -/
set_option maxRecDepth 100000 in
theorem lifted (os : Os) (started : os.Started) (H : Type) (enc : TypeId × Value → H) :
    ReturnsInHanded {} Try.checked os 4 .any (Rows.itemCodesSpec.pre6 enc Try.prog Try.f4 Rows.itemCodesRow.domain false) (Rows.itemCodesSpec.post enc Try.prog Try.f4 false true false false) := by
  refine returnsInHanded_of_change (C := Try.checked) own started (by kernel_rfl) Try.func4
    (ChangeSpec.witness6 (enc := enc) (C := Try.checked) false ⟨#[], #[.agg #[.int .u8 0, .int .u32 0, .int .u32 0, .int .i64 0, .slice none 0 0], .agg #[.int .u8 0, .int .u32 0, .int .u32 0, .int .i64 0, .slice none 0 0], .slice none 0 0], []⟩ 8 (by kernel_rfl) (by kernel_rfl) (by kernel_rfl) (by kernel_rfl)) ?_
  intro W base args ds gs before hval0 hW _ _
  have hval : ∀ (j : Nat) t v, Try.f4.params[j]? = some t → args[j]? = some v → Value.okWide Try.prog W .any base t v := hval0
  have hW' := hW
  obtain ⟨p, q, hA0, hV, _, _, _⟩ := hW
  have hA : DataW.TrodAll enc Try.prog W 0 (fun _ => true) true Try.f4.params.toList args.toList ds p := hA0
  rw [Try.params4] at hA hval
  obtain ⟨v0, vs0, d0, ds0, p0, q0, hargs, rfl, _, h0, r0⟩ := trodAll_cons hA
  obtain ⟨v1, vs1, d1, ds1, p1, q1, rfl, rfl, _, h1, r1⟩ := trodAll_cons r0
  obtain ⟨v2, vs2, d2, ds2, p2, q2, rfl, rfl, _, h2, r2⟩ := trodAll_cons r1
  obtain ⟨rfl, rfl, _⟩ := trodAll_nil r2
  obtain rfl : args = #[v0, v1, v2] := by cases args; simp_all
  obtain ⟨rfl, _⟩ := trodVars_none hV
  obtain ⟨d0x, y0⟩ := open_item (hval 0 27 v0 rfl rfl) h0
  obtain ⟨d1x, y1⟩ := open_item (hval 1 27 v1 rfl rfl) h1
  obtain ⟨A2, n2, c2, x2, rfl, l2, m2, b2, y2⟩ := open_bytes Try.underlying25 Try.underlying5 (by kernel_rfl) (hval 2 25 v2 rfl rfl) h2
  clear hA0 hval0
  refine (walk v0 d0x v1 d1x A2 n2 c2 x2 y2 l2 m2 W y0 y1 b2).mono fun e W' ⟨he, hb⟩ => ?_
  subst he
  exact ⟨_, rfl, law_post laidOut (by rw [Try.params4]; decide +kernel) (by kernel_rfl) Try.underlying4 rfl ⟨rfl, by simp [Rows.itemCodesSpec], rfl⟩ hW' hb⟩

theorem over : Rows.itemCodesRow.holds Try.pinned (OpenSpec.ofChange Rows.itemCodesSpec) :=
  OpenClaim.holds_of_wide 4 Try.f4 rfl rfl rfl rfl rfl rfl rfl ⟨rfl, rfl, rfl, rfl, rfl⟩ rfl rfl rfl rfl rfl (by kernel_rfl) Try.func4 (by kernel_rfl)
    (of_decide_eq_true (by kernel_rfl)) (by unfold Func.isWrapper; first | (rw [if_pos (by decide +kernel)]; kernel_rfl) | (rw [if_neg (by decide +kernel)]; exact ⟨rfl, rfl⟩))
    (fun os started H enc _ => lifted os started H enc)

end Go.Proofs.Ytmefejbbnfgbeaa.itemCodes
namespace Go.Proofs.Ytmefejbbnfgbeaa
theorem itemCodes_proved : Rows.ItemCodesSaid := itemCodes.over
end Go.Proofs.Ytmefejbbnfgbeaa
