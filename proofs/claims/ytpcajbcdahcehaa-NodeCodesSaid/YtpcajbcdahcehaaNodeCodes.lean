/-
  For every two nodes, key and list of bytes NodeCodes answers true and leaves its arguments as they were. No condition.
-/
import Derived.Test.YtpcajbcdahcehaaBnd3
import Derived.StillTailTactics
import Derived.Deep.CutBlock
import Derived.Deep.CutRange
namespace Go.Proofs.Ytpcajbcdahcehaa.nodeCodes
open Go.ChangeShapes Go.WideShapes Go.RowKit

theorem own : ownKnob Try.prog.godebug = none := by kernel_rfl
theorem laidOut : laidOutB Try.prog = true := by kernel_rfl

set_option maxRecDepth 100000 in
set_option maxHeartbeats 16000000 in
theorem walk (v : Value) (n : Nd) (u : Value) (o : Nd) (key : Ky) (Q : Option Addr) (nb cb : Nat) (b : List UInt8) (hnb0 : b.length = nb) (hlb : nb ≤ cb) (hcb : cb ≤ 9223372036854775807) (w : World) (hv : Nod (Old w) w v n) (hu : Nod (Old w) w u o) (hb : Byt w w.heap.size Q b) :
    Calls Try.prog 4 #[v, u, kyV key, .slice Q nb cb] w fun e w' => e = .returned (.bool true) ∧ Below w.heap.size w w' := by
  have rb : rBy (Old w) w [.slice Q nb cb] b := by rw [← hnb0]; exact byt_rBy hb (by omega) hcb
  have hnb := Lib.hid hnb0
  obtain ⟨A, c, rfl, _, l1, m1, hA⟩ := hv.open
  obtain ⟨B, d, rfl, _, l2, m2, hB⟩ := hu.open
  obtain ⟨l, hl⟩ : ∃ l, n.1 = l := ⟨_, rfl⟩
  obtain ⟨m, hm⟩ : ∃ m, n.2.length = m := ⟨_, rfl⟩
  obtain ⟨j, hj⟩ : ∃ l, o.1 = l := ⟨_, rfl⟩
  obtain ⟨k, hk⟩ : ∃ m, o.2.length = m := ⟨_, rfl⟩
  rw [hl, hm] at hv ⊢
  rw [hj, hk] at hu ⊢
  rw [hm] at l1 hA
  rw [hk] at l2 hB
  have G0 := (((((Bag.nil w).add (F := OnB _ _ _) (onB_old rb) (lasts_onB _ _ _)).add (F := OnN _ _ _) (onN_old hv) (lasts_onN _ _ _)).add (F := OldIs _ _) hA (lasts_oldIs _ _)).add (F := OnN _ _ _) (onN_old hu) (lasts_onN _ _ _)).add (F := OldIs _ _) hB (lasts_oldIs _ _)
  obtain ⟨w1, hw1, G1, B1, _, s1⟩ := bag_node G0 (Below.refl _ _) (.int .i64 l) (.slice A m c)
  obtain ⟨w2, hw2, G2, B2, _, s2⟩ := bag_node G1 (Below.refl _ _) (.int .i64 j) (.slice B k d)
  obtain ⟨w3, hw3, G3, B3, _, s3⟩ := bag_key G2 (Below.refl _ _) (.int .u8 (key.1.toNat : Int)) (.int .u32 key.2.1) (.int .u32 key.2.2)
  have BB := Lib.hid ((B1.trans (B2.mono B1.size)).trans (B3.mono (B1.trans (B2.mono B1.size)).size))
  have HG := Lib.hid G3
  have LT := Lib.hid (show w.heap.size < w1.heap.size ∧ w1.heap.size < w2.heap.size ∧ w2.heap.size < w3.heap.size from ⟨by omega, by omega, by omega⟩)
  replace hw3 := Lib.hid hw3
  clear G0 G1 G2 G3 B1 B2 B3 s1 s2 s3 hv hA hu hB rb hb hnb0 hl hm hj hk
  unfold kyV
  go_enter Try.func4, Try.ntmps4
  go_upto_region 1 with fail
  rw [hw3.out]
  clear hw1 hw2 hw3
  obtain ⟨z1, z2, _⟩ := HG.out.at 2 rfl
  have HI : Hid (rIts (Old w3) w3 [.slice A m c] n.2) := Lib.hid (HG.out.at 5 rfl)
  go_wp2_with fail
  with_reducible refine (greatI_any _ n.2 _ HI.out).mono ?_
  rintro e4 w4 ⟨rfl, hb4⟩
  replace HG := Lib.hid (HG.out.below hb4)
  replace BB := Lib.hid (BB.out.trans (hb4.mono BB.out.size))
  have S4 := Lib.hid hb4.size
  clear hb4 HI z1 z2
  obtain ⟨g, hg⟩ : ∃ g, greatI n.2 = g := ⟨_, rfl⟩
  rw [hg]
  replace hg := Lib.hid hg
  cases g with
  | true =>
    go_wp2_with fail
    go_ret
    exact ⟨rfl, BB.out⟩
  | false =>
  have hfew := Lib.hid (few_of hg.out)
  obtain ⟨y1, y2, _⟩ := HG.out.at 1 rfl
  have HI : Hid (rIts (Old w4) w4 [.slice B k d] o.2) := Lib.hid (HG.out.at 3 rfl)
  go_wp2_with fail
  with_reducible refine (greatI_any _ o.2 _ HI.out).mono ?_
  rintro e5 w5 ⟨rfl, hb5⟩
  replace HG := Lib.hid (HG.out.below hb5)
  replace BB := Lib.hid (BB.out.trans (hb5.mono BB.out.size))
  have S5 := Lib.hid hb5.size
  clear hb5 HI y1 y2
  obtain ⟨g, hg2⟩ : ∃ g, greatI o.2 = g := ⟨_, rfl⟩
  rw [hg2]
  replace hg2 := Lib.hid hg2
  cases g with
  | true =>
    go_wp2_with fail
    go_ret
    exact ⟨rfl, BB.out⟩
  | false =>
  by_cases hbig : 10000 < nb
  · have j1 : (10000 : Int) < nb := by omega
    go_wp2_with fail
    go_ret
    exact ⟨rfl, BB.out⟩
  have j1 : ¬ (10000 : Int) < nb := by omega
  obtain ⟨ov, w6, hr6, ho6, hb6⟩ := app_copy (.slice Q nb cb) b w5 (by rw [hnb.out]; omega) (HG.out.at 7 rfl : OnB _ _ _ w5).old
  obtain ⟨OA, oc, rfl, _, _, _⟩ := id (rBy_open ho6)
  rw [hnb.out] at hr6 ho6
  have H6 := Lib.hid hr6
  replace HG := Lib.hid ((HG.out.below hb6).add (F := OnB (In w5.heap.size w6.heap.size) _ _) (stab_by _ _ _ _ _ _ (fun _ _ hp hc => ⟨⟨hp.1, hp.2.1⟩, hc⟩) ho6) (lasts_onB _ _ _))
  replace BB := Lib.hid (BB.out.trans (hb6.mono BB.out.size))
  have S6 := Lib.hid hb6.size
  clear hr6 ho6 hb6
  obtain ⟨z1, z2, _⟩ := HG.out.at 3 rfl
  have HN : Hid (Nod (Old w6) w6 (.agg #[.int .i64 l, .slice A m c]) n) := Lib.hid (OnN.old (HG.out.at 7 rfl))
  go_wp2_with (at_builtin; refine wpList_append_run rfl _ _ _ rfl rfl rfl H6.out ?_; clear H6)
  with_reducible refine (nodeWrite_any _ n _ HN.out).mono ?_
  rintro e7 w7 ⟨a, rfl, ha, hb7⟩
  obtain ⟨T, tc, rfl, _, _, _⟩ := id (rBy_open ha)
  obtain ⟨la, hla⟩ : ∃ q, (wrN n).length = q := ⟨_, rfl⟩
  rw [hla] at ha ⊢
  replace HG := Lib.hid ((HG.out.below hb7).add (F := OldB _ _) (stab_by.drop ha) (lasts_oldB _ _))
  replace BB := Lib.hid (BB.out.trans (hb7.mono BB.out.size))
  have S7 := Lib.hid hb7.size
  clear z1 z2 ha hb7 HN
  obtain ⟨E, hE⟩ : ∃ E, chkN n = E := ⟨_, rfl⟩
  rw [hE]
  have hchk := Lib.hid hE
  clear hE
  obtain ⟨z1, z2, _⟩ := HG.out.at 4 rfl
  have HN : Hid (Nod (Old w7) w7 (.agg #[.int .i64 l, .slice A m c]) n) := Lib.hid (OnN.old (HG.out.at 8 rfl))
  go_wp2_with fail
  with_reducible refine (refWriteN_any _ n _ HN.out).mono ?_
  rintro e8 w8 ⟨a, rfl, ha, hb8⟩
  obtain ⟨U, uc, rfl, _, _, _⟩ := id (rBy_open ha)
  rw [hla] at ha ⊢
  replace hla := Lib.hid hla
  rw [hchk.out]
  replace HG := Lib.hid ((HG.out.below hb8).add (F := OldB _ _) (stab_by.drop ha) (lasts_oldB _ _))
  replace BB := Lib.hid (BB.out.trans (hb8.mono BB.out.size))
  have S8 := Lib.hid hb8.size
  clear z1 z2 ha hb8 HN
  have HO : Hid (rBy (Old w8) w8 [.slice OA nb oc] b) := Lib.hid (OnB.old (HG.out.at 2 rfl))
  go_wp2_with fail
  with_reducible refine (nodeRead_any _ b _ HO.out).mono ?_
  rintro e9 w9 ⟨u9, rfl, hu9, hb9⟩
  obtain ⟨D, dc, rfl, _⟩ := id hu9.open
  obtain ⟨R, hR⟩ : ∃ R, reV b = R := ⟨_, rfl⟩
  obtain ⟨F, hF⟩ : ∃ F, reN b = F := ⟨_, rfl⟩
  rw [hR] at hu9 ⊢
  rw [hF]
  obtain ⟨w10, hw10, HG10, hb10, _, s10⟩ := bag_node ((HG.out.below hb9).add (F := NewN w8.heap.size w9.heap.size _ _) (newN_of hu9) (lasts_newN _ _ _ _)) (Below.refl _ _) (.int .i64 R.1) (.slice D R.2.length dc)
  replace HG := Lib.hid HG10
  have S9 := Lib.hid hb9.size
  have S10 := Lib.hid s10
  replace BB := Lib.hid ((BB.out.trans (hb9.mono BB.out.size)).trans (hb10.mono (BB.out.trans (hb9.mono BB.out.size)).size))
  clear hu9 hb9 HG10 hb10 s10 HO
  go_upto_region 7 with fail
  clear hw10
  have HQ : Hid (rBy (Old w10) w10 [.slice Q nb cb] b) := Lib.hid (OnB.old (HG.out.at 12 rfl))
  go_wp2_with fail
  with_reducible refine (refReadN_any _ b _ HQ.out).mono ?_
  rintro e11 w11 ⟨u11, rfl, hu11, hb11⟩
  obtain ⟨D2, d2, rfl, _⟩ := id hu11.open
  rw [hR] at hu11 ⊢
  rw [hF]
  replace hR := Lib.hid hR
  replace hF := Lib.hid hF
  obtain ⟨w12, hw12, HG12, hb12, _, s12⟩ := bag_node ((HG.out.below hb11).add (F := OldN _ _) hu11.drop (lasts_oldN _ _)) (Below.refl _ _) (.int .i64 R.1) (.slice D2 R.2.length d2)
  replace HG := Lib.hid HG12
  have S11 := Lib.hid hb11.size
  have S12 := Lib.hid s12
  replace BB := Lib.hid ((BB.out.trans (hb11.mono BB.out.size)).trans (hb12.mono (BB.out.trans (hb11.mono BB.out.size)).size))
  clear hu11 hb11 HG12 hb12 s12 HQ
  go_upto_region 8 with fail
  clear hw12
  obtain ⟨z1, z2, _⟩ := HG.out.at 9 rfl
  obtain ⟨x0, x1, x2, _⟩ := HG.out.at 7 rfl
  have HN : Hid (Nod (Old w12) w12 (.agg #[.int .i64 l, .slice A m c]) n) := Lib.hid (OnN.old (HG.out.at 13 rfl))
  go_wp2_with fail
  with_reducible refine (nodePlace_any _ n key _ HN.out).mono ?_
  rintro e13 w13 ⟨rfl, hb13⟩
  obtain ⟨p, hp⟩ : ∃ p, placeN n key = p := ⟨_, rfl⟩
  obtain ⟨t, ht⟩ : ∃ t, thereN n key = t := ⟨_, rfl⟩
  rw [hp, ht]
  replace HG := Lib.hid (HG.out.below hb13)
  replace BB := Lib.hid (BB.out.trans (hb13.mono BB.out.size))
  have S13 := Lib.hid hb13.size
  clear hb13 HN z1 z2 x0 x1 x2
  obtain ⟨z1, z2, _⟩ := HG.out.at 9 rfl
  obtain ⟨x0, x1, x2, _⟩ := HG.out.at 7 rfl
  have HN : Hid (Nod (Old w13) w13 (.agg #[.int .i64 l, .slice A m c]) n) := Lib.hid (OnN.old (HG.out.at 13 rfl))
  go_wp2_with fail
  with_reducible refine (refPlaceN_any _ n key _ HN.out).mono ?_
  rintro e14 w14 ⟨rfl, hb14⟩
  rw [hp, ht]
  replace hp := Lib.hid hp
  replace ht := Lib.hid ht
  replace HG := Lib.hid (HG.out.below hb14)
  replace BB := Lib.hid (BB.out.trans (hb14.mono BB.out.size))
  have S14 := Lib.hid hb14.size
  clear hb14 HN z1 z2 x0 x1 x2
  obtain ⟨s, hs⟩ : ∃ s, sameN n o = s := ⟨_, rfl⟩
  replace hs := Lib.hid hs
  have hT0 : rBy (Old w14) w14 [.slice T la tc] (wrN n) := HG.out.at 5 rfl
  have hU0 : rBy (Old w14) w14 [.slice U la uc] (wrN n) := HG.out.at 4 rfl
  obtain ⟨P, hP⟩ : ∃ P, wrN n = P := ⟨_, rfl⟩
  rw [hP] at hT0 hU0
  replace hP := Lib.hid hP
  have HT : Hid (∀ W, Below w14.heap.size w14 W → rBy (Old W) W [.slice T la tc] P) := Lib.hid fun W hW => stab_by.old hT0 hW
  have HU : Hid (∀ W, Below w14.heap.size w14 W → rBy (Old W) W [.slice U la uc] P) := Lib.hid fun W hW => stab_by.old hU0 hW
  have HB2 : Hid (∀ W, Below w14.heap.size w14 W → (W.cell? ⟨w.heap.size, 0, none⟩ = some (.int .i64 l) ∧ W.cell? ⟨w.heap.size, 1, none⟩ = some (.slice A m c)) ∧ (W.cell? ⟨w1.heap.size, 0, none⟩ = some (.int .i64 j) ∧ W.cell? ⟨w1.heap.size, 1, none⟩ = some (.slice B k d)) ∧ (W.cell? ⟨w9.heap.size, 0, none⟩ = some (.int .i64 R.1) ∧ W.cell? ⟨w9.heap.size, 1, none⟩ = some (.slice D R.2.length dc)) ∧ (W.cell? ⟨w11.heap.size, 0, none⟩ = some (.int .i64 R.1) ∧ W.cell? ⟨w11.heap.size, 1, none⟩ = some (.slice D2 R.2.length d2))) := Lib.hid fun W hW => by
    have h := HG.out.below hW
    obtain ⟨q1, q2, _⟩ := h.at 9 rfl
    obtain ⟨q3, q4, _⟩ := h.at 8 rfl
    obtain ⟨q5, q6, _⟩ := h.at 2 rfl
    obtain ⟨q7, q8, _⟩ := h.at 0 rfl
    exact ⟨⟨q1, q2⟩, ⟨q3, q4⟩, ⟨q5, q6⟩, ⟨q7, q8⟩⟩
  have HN2 : Hid (∀ W, Below w14.heap.size w14 W → Nod (Old W) W (.agg #[.int .i64 l, .slice A m c]) n ∧ Nod (Old W) W (.agg #[.int .i64 j, .slice B k d]) o ∧ Nod (Old W) W (.agg #[.int .i64 R.1, .slice D R.2.length dc]) R ∧ Nod (Old W) W (.agg #[.int .i64 R.1, .slice D2 R.2.length d2]) R) := Lib.hid fun W hW => by
    have h := HG.out.below hW
    exact ⟨OnN.old (h.at 13 rfl), OnN.old (h.at 11 rfl), OnN.old (NewN.on (h.at 3 rfl)), h.at 1 rfl⟩
  have hEE : (E != E) = false := by simp
  have hFF : (F != F) = false := by simp
  have hpp : ((p : Int) != (p : Int)) = false := by simp
  have htt : (t != t) = false := by cases t <;> rfl
  have hss : (s != s) = false := by cases s <;> rfl
  have hPP : (P == P) = true := by simp
  have hPP2 : (P != P) = false := by simp
  clear hT0 hU0
  go_upto_region 10 with fail
  refine wp_region_fx (by kernel_rfl) (fun W => Below w14.heap.size w14 W) (fun _ => none) (fun i => match i with
    | 13 => some (.bool true)
    | 33 => some (.int .i64 E)
    | 35 => some (.int .i64 E)
    | 41 => some (.bool s)
    | 44 => some (.bool s)
    | _ => none) (by kernel_rfl) (Below.refl _ _).drew (fun w w' h hb => h.trans (hb.mono h.size)) (fun i φ x W W' hp => by cases hp) ?_
  repeat (first
    | (refine wpAs_skip rfl ?_; simp only [Act.put, List.setIfInBounds_toArray, List.set_cons_zero, List.set_cons_succ])
    | (refine wpAs_pure (v := ?_) rfl rfl ?_ ?_; rotate_left; (intro W hC hE; clear hE; skip; clear hC; go_simp; done); simp only [Act.put, List.setIfInBounds_toArray, List.set_cons_zero, List.set_cons_succ])
    | (refine wpAs_pure (v := ?_) rfl rfl ?_ ?_; rotate_left; (intro W hC hE; clear hE; skip; clear hC; go_simp; with_reducible rfl); simp only [Act.put, List.setIfInBounds_toArray, List.set_cons_zero, List.set_cons_succ]))
  refine wpAs_pure (v := .string ⟨(P).toArray⟩) rfl rfl ?_ ?_
  · intro W hC hE
    have h : rBy (Old W) W [.slice T la tc] (P) := HT.out W hC
    have hs := rBy_str0 h
    clear h hC hE
    refine run_convert_op (v := .slice T la tc) _ _ _ rfl ?_ hs
    first | rfl | (simp; done) | (go_simp; done)
  simp only [Act.put, List.setIfInBounds_toArray, List.set_cons_zero, List.set_cons_succ]
  repeat (first
    | (refine wpAs_skip rfl ?_; simp only [Act.put, List.setIfInBounds_toArray, List.set_cons_zero, List.set_cons_succ])
    | (refine wpAs_pure (v := ?_) rfl rfl ?_ ?_; rotate_left; (intro W hC hE; clear hE; skip; clear hC; go_simp; done); simp only [Act.put, List.setIfInBounds_toArray, List.set_cons_zero, List.set_cons_succ])
    | (refine wpAs_pure (v := ?_) rfl rfl ?_ ?_; rotate_left; (intro W hC hE; clear hE; skip; clear hC; go_simp; with_reducible rfl); simp only [Act.put, List.setIfInBounds_toArray, List.set_cons_zero, List.set_cons_succ]))
  refine wpAs_pure (v := .string ⟨(P).toArray⟩) rfl rfl ?_ ?_
  · intro W hC hE
    have h : rBy (Old W) W [.slice U la uc] (P) := HU.out W hC
    have hs := rBy_str0 h
    clear h hC hE
    refine run_convert_op (v := .slice U la uc) _ _ _ rfl ?_ hs
    first | rfl | (simp; done) | (go_simp; done)
  simp only [Act.put, List.setIfInBounds_toArray, List.set_cons_zero, List.set_cons_succ]
  repeat (first
    | (refine wpAs_skip rfl ?_; simp only [Act.put, List.setIfInBounds_toArray, List.set_cons_zero, List.set_cons_succ])
    | (refine wpAs_pure (v := ?_) rfl rfl ?_ ?_; rotate_left; (intro W hC hE; clear hE; (obtain ⟨⟨q1, q2⟩, ⟨q3, q4⟩, ⟨q5, q6⟩, ⟨q7, q8⟩⟩ := HB2.out W hC); clear hC; go_simp; done); simp only [Act.put, List.setIfInBounds_toArray, List.set_cons_zero, List.set_cons_succ])
    | (refine wpAs_pure (v := ?_) rfl rfl ?_ ?_; rotate_left; (intro W hC hE; clear hE; (obtain ⟨⟨q1, q2⟩, ⟨q3, q4⟩, ⟨q5, q6⟩, ⟨q7, q8⟩⟩ := HB2.out W hC); clear hC; go_simp; with_reducible rfl); simp only [Act.put, List.setIfInBounds_toArray, List.set_cons_zero, List.set_cons_succ]))
  refine wpAs_fixed rfl rfl rfl ?_ ?_
  · intro W hC hE
    refine does_enter (f := 19) (args := #[.agg #[.int .i64 R.1, .slice D R.2.length dc], .agg #[.int .i64 R.1, .slice D2 R.2.length d2]]) ?_ ?_
    · go_simp
    · refine (refSameN_any _ _ R R W (HN2.out W hC).2.2.1 (HN2.out W hC).2.2.2).mono ?_
      (rintro e W' ⟨rfl, hg⟩; rw [sameN_self])
      exact ⟨_, rfl, rfl, hg⟩
  simp only [Act.put, List.setIfInBounds_toArray, List.set_cons_zero, List.set_cons_succ]
  repeat (first
    | (refine wpAs_skip rfl ?_; simp only [Act.put, List.setIfInBounds_toArray, List.set_cons_zero, List.set_cons_succ])
    | (refine wpAs_pure (v := ?_) rfl rfl ?_ ?_; rotate_left; (intro W hC hE; clear hE; (obtain ⟨⟨q1, q2⟩, ⟨q3, q4⟩, ⟨q5, q6⟩, ⟨q7, q8⟩⟩ := HB2.out W hC); clear hC; go_simp; done); simp only [Act.put, List.setIfInBounds_toArray, List.set_cons_zero, List.set_cons_succ])
    | (refine wpAs_pure (v := ?_) rfl rfl ?_ ?_; rotate_left; (intro W hC hE; clear hE; (obtain ⟨⟨q1, q2⟩, ⟨q3, q4⟩, ⟨q5, q6⟩, ⟨q7, q8⟩⟩ := HB2.out W hC); clear hC; go_simp; with_reducible rfl); simp only [Act.put, List.setIfInBounds_toArray, List.set_cons_zero, List.set_cons_succ]))
  refine wpAs_fixed rfl rfl rfl ?_ ?_
  · intro W hC hE
    refine does_enter (f := 14) (args := #[.agg #[.int .i64 l, .slice A m c]]) ?_ ?_
    · go_simp
    · refine (checkN_any _ n W (HN2.out W hC).1).mono ?_
      (rintro e W' ⟨rfl, hg⟩; rw [hchk.out])
      exact ⟨_, rfl, rfl, hg⟩
  simp only [Act.put, List.setIfInBounds_toArray, List.set_cons_zero, List.set_cons_succ]
  repeat (first
    | (refine wpAs_skip rfl ?_; simp only [Act.put, List.setIfInBounds_toArray, List.set_cons_zero, List.set_cons_succ])
    | (refine wpAs_pure (v := ?_) rfl rfl ?_ ?_; rotate_left; (intro W hC hE; clear hE; (obtain ⟨⟨q1, q2⟩, ⟨q3, q4⟩, ⟨q5, q6⟩, ⟨q7, q8⟩⟩ := HB2.out W hC); clear hC; go_simp; done); simp only [Act.put, List.setIfInBounds_toArray, List.set_cons_zero, List.set_cons_succ])
    | (refine wpAs_pure (v := ?_) rfl rfl ?_ ?_; rotate_left; (intro W hC hE; clear hE; (obtain ⟨⟨q1, q2⟩, ⟨q3, q4⟩, ⟨q5, q6⟩, ⟨q7, q8⟩⟩ := HB2.out W hC); clear hC; go_simp; with_reducible rfl); simp only [Act.put, List.setIfInBounds_toArray, List.set_cons_zero, List.set_cons_succ]))
  refine wpAs_fixed rfl rfl rfl ?_ ?_
  · intro W hC hE
    refine does_enter (f := 20) (args := #[.agg #[.int .i64 l, .slice A m c]]) ?_ ?_
    · go_simp
    · refine (refCheckN_any _ n W (HN2.out W hC).1).mono ?_
      (rintro e W' ⟨rfl, hg⟩; rw [hchk.out])
      exact ⟨_, rfl, rfl, hg⟩
  simp only [Act.put, List.setIfInBounds_toArray, List.set_cons_zero, List.set_cons_succ]
  repeat (first
    | (refine wpAs_skip rfl ?_; simp only [Act.put, List.setIfInBounds_toArray, List.set_cons_zero, List.set_cons_succ])
    | (refine wpAs_pure (v := ?_) rfl rfl ?_ ?_; rotate_left; (intro W hC hE; clear hE; (obtain ⟨⟨q1, q2⟩, ⟨q3, q4⟩, ⟨q5, q6⟩, ⟨q7, q8⟩⟩ := HB2.out W hC); clear hC; go_simp; done); simp only [Act.put, List.setIfInBounds_toArray, List.set_cons_zero, List.set_cons_succ])
    | (refine wpAs_pure (v := ?_) rfl rfl ?_ ?_; rotate_left; (intro W hC hE; clear hE; (obtain ⟨⟨q1, q2⟩, ⟨q3, q4⟩, ⟨q5, q6⟩, ⟨q7, q8⟩⟩ := HB2.out W hC); clear hC; go_simp; with_reducible rfl); simp only [Act.put, List.setIfInBounds_toArray, List.set_cons_zero, List.set_cons_succ]))
  refine wpAs_fixed rfl rfl rfl ?_ ?_
  · intro W hC hE
    refine does_enter (f := 21) (args := #[.agg #[.int .i64 l, .slice A m c], .agg #[.int .i64 j, .slice B k d]]) ?_ ?_
    · go_simp
    · refine (sameN_any _ _ n o W (HN2.out W hC).1 (HN2.out W hC).2.1).mono ?_
      (rintro e W' ⟨rfl, hg⟩; rw [hs.out])
      exact ⟨_, rfl, rfl, hg⟩
  simp only [Act.put, List.setIfInBounds_toArray, List.set_cons_zero, List.set_cons_succ]
  repeat (first
    | (refine wpAs_skip rfl ?_; simp only [Act.put, List.setIfInBounds_toArray, List.set_cons_zero, List.set_cons_succ])
    | (refine wpAs_pure (v := ?_) rfl rfl ?_ ?_; rotate_left; (intro W hC hE; clear hE; (obtain ⟨⟨q1, q2⟩, ⟨q3, q4⟩, ⟨q5, q6⟩, ⟨q7, q8⟩⟩ := HB2.out W hC); clear hC; go_simp; done); simp only [Act.put, List.setIfInBounds_toArray, List.set_cons_zero, List.set_cons_succ])
    | (refine wpAs_pure (v := ?_) rfl rfl ?_ ?_; rotate_left; (intro W hC hE; clear hE; (obtain ⟨⟨q1, q2⟩, ⟨q3, q4⟩, ⟨q5, q6⟩, ⟨q7, q8⟩⟩ := HB2.out W hC); clear hC; go_simp; with_reducible rfl); simp only [Act.put, List.setIfInBounds_toArray, List.set_cons_zero, List.set_cons_succ]))
  refine wpAs_fixed rfl rfl rfl ?_ ?_
  · intro W hC hE
    refine does_enter (f := 19) (args := #[.agg #[.int .i64 l, .slice A m c], .agg #[.int .i64 j, .slice B k d]]) ?_ ?_
    · go_simp
    · refine (refSameN_any _ _ n o W (HN2.out W hC).1 (HN2.out W hC).2.1).mono ?_
      (rintro e W' ⟨rfl, hg⟩; rw [hs.out])
      exact ⟨_, rfl, rfl, hg⟩
  simp only [Act.put, List.setIfInBounds_toArray, List.set_cons_zero, List.set_cons_succ]
  repeat (first
    | (refine wpAs_skip rfl ?_; simp only [Act.put, List.setIfInBounds_toArray, List.set_cons_zero, List.set_cons_succ])
    | (refine wpAs_pure (v := ?_) rfl rfl ?_ ?_; rotate_left; (intro W hC hE; clear hE; skip; clear hC; go_simp; done); simp only [Act.put, List.setIfInBounds_toArray, List.set_cons_zero, List.set_cons_succ])
    | (refine wpAs_pure (v := ?_) rfl rfl ?_ ?_; rotate_left; (intro W hC hE; clear hE; skip; clear hC; go_simp; with_reducible rfl); simp only [Act.put, List.setIfInBounds_toArray, List.set_cons_zero, List.set_cons_succ]))
  refine wpAs_end fun W hC hE => ?_
  clear hE
  replace HG := Lib.hid (HG.out.below hC)
  replace BB := Lib.hid (BB.out.trans (hC.mono BB.out.size))
  have SW := Lib.hid hC.size
  clear hC HT HU HB2 HN2
  obtain ⟨z1, z2, _⟩ := HG.out.at 9 rfl
  have HN : Hid (Nod (Old W) W (.agg #[.int .i64 l, .slice A m c]) n) := Lib.hid (OnN.old (HG.out.at 13 rfl))
  go_wp2_with fail
  with_reducible refine (nodeTwin_any _ n _ hfew.out HN.out).mono ?_
  rintro e15 w15 ⟨u15, rfl, hu15, hb15⟩
  obtain ⟨X, xc, e15', _⟩ := id hu15.open
  obtain ⟨l', hl'⟩ : ∃ l', n.1 = l' := ⟨_, rfl⟩
  obtain ⟨m', hm'⟩ : ∃ m', n.2.length = m' := ⟨_, rfl⟩
  rw [hl', hm'] at e15'
  subst e15'
  obtain ⟨w16, hw16, HG16, hb16, _, s16⟩ := bag_node ((HG.out.below hb15).add (F := NewN W.heap.size w15.heap.size _ _) (newN_of hu15) (lasts_newN _ _ _ _)) (Below.refl _ _) (.int .i64 l') (.slice X m' xc)
  replace HG := Lib.hid HG16
  have S15 := Lib.hid hb15.size
  have S16 := Lib.hid s16
  replace BB := Lib.hid ((BB.out.trans (hb15.mono BB.out.size)).trans (hb16.mono (BB.out.trans (hb15.mono BB.out.size)).size))
  replace hl' := Lib.hid hl'
  replace hm' := Lib.hid hm'
  clear hu15 hb15 HG16 hb16 s16 HN z1 z2
  go_upto_region 13 with fail
  clear hw16
  -- 0: t's box, 1: t, 2: s's box, .., 11: n's box, .., 15: n, 16: the block
  obtain ⟨z1, z2, _⟩ := HG.out.at 11 rfl
  obtain ⟨y1, y2, _⟩ := HG.out.at 0 rfl
  have HN : Hid (Nod (Old w16) w16 (.agg #[.int .i64 l, .slice A m c]) n) := Lib.hid (OnN.old (HG.out.at 15 rfl))
  have HX : Hid (Nod (Old w16) w16 (.agg #[.int .i64 l', .slice X m' xc]) n) := Lib.hid (OnN.old (NewN.on (HG.out.at 1 rfl)))
  go_wp2_with fail
  with_reducible refine (refSameN_any _ _ n n _ HX.out HN.out).mono ?_
  rintro e17 w17 ⟨rfl, hb17⟩
  rw [sameN_self]
  replace HG := Lib.hid (HG.out.below hb17)
  replace BB := Lib.hid (BB.out.trans (hb17.mono BB.out.size))
  have S17 := Lib.hid hb17.size
  clear hb17 HN HX z1 z2 y1 y2
  obtain ⟨z1, z2, _⟩ := HG.out.at 11 rfl
  have HN : Hid (Nod (Old w17) w17 (.agg #[.int .i64 l, .slice A m c]) n) := Lib.hid (OnN.old (HG.out.at 15 rfl))
  go_wp2_with fail
  with_reducible refine (refTwinN_any _ n _ hfew.out HN.out).mono ?_
  rintro e18 w18 ⟨u18, rfl, hu18, hb18⟩
  obtain ⟨Y, yc, e18', _⟩ := id hu18.open
  rw [hl'.out, hm'.out] at e18'
  subst e18'
  obtain ⟨w19, hw19, HG19, hb19, _, s19⟩ := bag_node ((HG.out.below hb18).add (F := OnN (In w17.heap.size w18.heap.size) _ _) (onN_new hu18) (lasts_onN _ _ _)) (Below.refl _ _) (.int .i64 l') (.slice Y m' yc)
  replace HG := Lib.hid HG19
  have S18 := Lib.hid hb18.size
  have S19 := Lib.hid s19
  replace BB := Lib.hid ((BB.out.trans (hb18.mono BB.out.size)).trans (hb19.mono (BB.out.trans (hb18.mono BB.out.size)).size))
  clear hu18 hb18 HG19 hb19 s19 HN z1 z2
  go_upto_region 16 with fail
  clear hw19
  -- 0: before's box, 1: before, 2: t's box, 3: t, 4: s's box, 5: s, 6: r's box, 7: r, 8, 9: blocks, 10: own, 11: key's box, 12: o's box, 13: n's box, .., 17: n, 18: the block
  have LO := Lib.hid (show w.heap.size < w1.heap.size ∧ w1.heap.size ≤ w5.heap.size ∧ w5.heap.size ≤ w6.heap.size ∧ w6.heap.size ≤ w8.heap.size ∧ w8.heap.size ≤ w9.heap.size ∧ w9.heap.size < W.heap.size ∧ W.heap.size ≤ w15.heap.size ∧ w15.heap.size ≤ w17.heap.size ∧ w17.heap.size ≤ w18.heap.size ∧ w15.heap.size < w16.heap.size ∧ w18.heap.size < w19.heap.size by
    have := LT.out
    have := S4.out
    have := S5.out
    have := S6.out
    have := S7.out
    have := S8.out
    have := S9.out
    have := S10.out
    have := S11.out
    have := S12.out
    have := S13.out
    have := S14.out
    have := SW.out
    have := S15.out
    have := S16.out
    have := S17.out
    have := S18.out
    have := S19.out
    omega)
  obtain ⟨y1, y2, _⟩ := HG.out.at 2 rfl
  have HTN : Hid (NewN W.heap.size w15.heap.size (.agg #[.int .i64 l', .slice X m' xc]) n w19) := Lib.hid (HG.out.at 3 rfl)
  go_wp2_with fail
  with_reducible refine (spoil6_any _ n W.heap.size w15.heap.size _ S15.out HTN.out).mono ?_
  rintro e20 w20 ⟨⟨u20, rfl⟩, hT⟩
  have LO' := LO.out
  have bR : Box2 w9.heap.size (.int .i64 R.1) (.slice D R.2.length dc) w20 := hT.box (by omega) (HG.out.at 6 rfl)
  have HRN : Hid (NewN w8.heap.size w9.heap.size (.agg #[.int .i64 R.1, .slice D R.2.length dc]) R w20) := Lib.hid (hT.newN_out (by omega) (HG.out.at 7 rfl))
  have in0 : ∀ {p : Addr} {n lo hi : Nat}, n ≤ lo → In 0 n p → p.block < lo ∨ hi ≤ p.block := fun hn hp => Or.inl (Nat.lt_of_lt_of_le hp.2 hn)
  have hown : Hid (rBy (In w5.heap.size w6.heap.size) w20 [.slice OA nb oc] b) := Lib.hid (hT.by_out (fun p hp => Or.inl (Nat.lt_of_lt_of_le hp.2 (by omega))) (HG.out.at 10 rfl))
  have hblk : Hid (rBy (In 0 w.heap.size) w20 [.slice Q nb cb] b) := Lib.hid (hT.by_out (fun p hp => in0 (by omega) hp) (HG.out.at 18 rfl))
  have hnn : Hid (Nod (In 0 w.heap.size) w20 (.agg #[.int .i64 l, .slice A m c]) n) := Lib.hid (hT.nod_out (fun p hp => in0 (by omega) hp) (HG.out.at 17 rfl))
  have hbf : Hid (Nod (In w17.heap.size w18.heap.size) w20 (.agg #[.int .i64 l', .slice Y m' yc]) n) := Lib.hid (hT.nod_out (fun p hp => Or.inr (Nat.le_trans (by omega) hp.1)) (HG.out.at 1 rfl))
  have bn : Hid (Box2 w.heap.size (.int .i64 l) (.slice A m c) w20) := Lib.hid (hT.box (by omega) (HG.out.at 13 rfl))
  have bb : Hid (Box2 w18.heap.size (.int .i64 l') (.slice Y m' yc) w20) := Lib.hid (hT.box (by omega) (HG.out.at 0 rfl))
  have hBT := Lib.hid (BB.out.trans (hT.low.mono (by omega)))
  clear hT y1 y2 HTN LO'
  obtain ⟨x1, x2, _⟩ := bR
  go_wp2_with fail
  with_reducible refine (spoil6_any _ R w8.heap.size w9.heap.size _ S9.out HRN.out).mono ?_
  rintro e21 w21 ⟨⟨u21, rfl⟩, hT⟩
  have LO' := LO.out
  have hown2 := (hT.by_out (fun p hp => Or.inl (Nat.lt_of_lt_of_le hp.2 (by omega))) hown.out)
  have hblk2 := (hT.by_out (fun p hp => in0 (by omega) hp) hblk.out)
  have hnn2 := (hT.nod_out (fun p hp => in0 (by omega) hp) hnn.out)
  have hbf2 := (hT.nod_out (fun p hp => Or.inr (Nat.le_trans (by omega) hp.1)) hbf.out)
  obtain ⟨z1, z2, _⟩ := hT.box (by omega) bn.out
  obtain ⟨q1, q2, _⟩ := hT.box (by omega) bb.out
  have BF := Lib.hid (hBT.out.trans (hT.low.mono (by omega)))
  have so := rBy_str0 (OnB.old hown2)
  have sb := rBy_str0 (OnB.old hblk2)
  have HN : Hid (Nod (Old w21) w21 (.agg #[.int .i64 l, .slice A m c]) n) := Lib.hid (OnN.old hnn2)
  have HX : Hid (Nod (Old w21) w21 (.agg #[.int .i64 l', .slice Y m' yc]) n) := Lib.hid (OnN.old hbf2)
  have hbb : (b == b) = true := by simp
  clear hT hown2 hblk2 hnn2 hbf2 LO' x1 x2 in0
  go_wp2_with fail
  with_reducible refine (refSameN_any _ _ n n _ HX.out HN.out).mono ?_
  rintro e22 w22 ⟨rfl, hb22⟩
  rw [sameN_self]
  have BE := Lib.hid (BF.out.trans (hb22.mono BF.out.size))
  clear hb22
  go_wp2_with fail
  go_ret
  exact ⟨rfl, BE.out⟩

/-! ### The row's step -/
set_option maxRecDepth 100000 in
theorem lifted (os : Os) (started : os.Started) (H : Type) (enc : TypeId × Value → H) :
    ReturnsInHanded {} Try.checked os 4 .any (Rows.nodeCodesSpec.pre6 enc Try.prog Try.f4 Rows.nodeCodesRow.domain false) (Rows.nodeCodesSpec.post enc Try.prog Try.f4 false true false false) := by
  refine returnsInHanded_of_change (C := Try.checked) own started (by kernel_rfl) Try.func4
    (ChangeSpec.witness6 (enc := enc) (C := Try.checked) false ⟨#[], #[.agg #[.int .i64 0, .slice none 0 0], .agg #[.int .i64 0, .slice none 0 0], .agg #[.int .u8 0, .int .u32 0, .int .u32 0], .slice none 0 0], []⟩ 8 (by kernel_rfl) (by kernel_rfl) (by kernel_rfl) (by kernel_rfl)) ?_
  intro W base args ds gs before hval0 hW _ _
  have hval : ∀ (j : Nat) t v, Try.f4.params[j]? = some t → args[j]? = some v → Value.okWide Try.prog W .any base t v := hval0
  have hW' := hW
  obtain ⟨p, q, hA0, hV, _, _, _⟩ := hW
  have hA : DataW.TrodAll enc Try.prog W 0 (fun _ => true) true Try.f4.params.toList args.toList ds p := hA0
  rw [Try.params4] at hA hval
  obtain ⟨v0, vs0, d0, ds0, p0, q0, hargs, rfl, _, h0, r0⟩ := trodAll_cons hA
  obtain ⟨v1, vs1, d1, ds1, p1, q1, rfl, rfl, _, h1, r1⟩ := trodAll_cons r0
  obtain ⟨v2, vs2, d2, ds2, p2, q2, rfl, rfl, _, h2, r2⟩ := trodAll_cons r1
  obtain ⟨v3, vs3, d3, ds3, p3, q3, rfl, rfl, _, h3, r3⟩ := trodAll_cons r2
  obtain ⟨rfl, rfl, _⟩ := trodAll_nil r3
  obtain rfl : args = #[v0, v1, v2, v3] := by cases args; simp_all
  obtain ⟨rfl, _⟩ := trodVars_none hV
  obtain ⟨d0x, y0⟩ := open_node (hval 0 26 v0 rfl rfl) h0
  obtain ⟨d1x, y1⟩ := open_node (hval 1 26 v1 rfl rfl) h1
  obtain ⟨k2x, rfl, _⟩ := open_key (hval 2 30 v2 rfl rfl) h2
  obtain ⟨A3, n3, c3, x3, rfl, l3, m3, b3, y3⟩ := open_bytes Try.underlying31 Try.underlying5 (by kernel_rfl) (hval 3 31 v3 rfl rfl) h3
  clear hA0 hval0
  refine (walk v0 d0x v1 d1x k2x A3 n3 c3 x3 y3 l3 m3 W y0 y1 b3).mono fun e W' ⟨he, hb⟩ => ?_
  subst he
  exact ⟨_, rfl, law_post laidOut (by rw [Try.params4]; decide +kernel) (by kernel_rfl) Try.underlying4 rfl ⟨rfl, by simp [Rows.nodeCodesSpec], rfl⟩ hW' hb⟩

theorem over : Rows.nodeCodesRow.holds Try.pinned (OpenSpec.ofChange Rows.nodeCodesSpec) :=
  OpenClaim.holds_of_wide 4 Try.f4 rfl rfl rfl rfl rfl rfl rfl ⟨rfl, rfl, rfl, rfl, rfl⟩ rfl rfl rfl rfl rfl (by kernel_rfl) Try.func4 (by kernel_rfl)
    (of_decide_eq_true (by kernel_rfl)) (by unfold Func.isWrapper; first | (rw [if_pos (by decide +kernel)]; kernel_rfl) | (rw [if_neg (by decide +kernel)]; exact ⟨rfl, rfl⟩))
    (fun os started H enc _ => lifted os started H enc)

end Go.Proofs.Ytpcajbcdahcehaa.nodeCodes
namespace Go.Proofs.Ytpcajbcdahcehaa
theorem nodeCodes_proved : Rows.NodeCodesSaid := nodeCodes.over
end Go.Proofs.Ytpcajbcdahcehaa
