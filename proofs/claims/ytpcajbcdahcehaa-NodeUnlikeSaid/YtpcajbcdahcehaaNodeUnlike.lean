/-
  For every two nodes NodeUnlike answers true and leaves its arguments as they were. No condition.
-/
import Derived.Test.YtpcajbcdahcehaaBnd3
namespace Go.Proofs.Ytpcajbcdahcehaa.nodeUnlike
open Go.ChangeShapes Go.WideShapes Go.RowKit

theorem own : ownKnob Try.prog.godebug = none := by kernel_rfl
theorem laidOut : laidOutB Try.prog = true := by kernel_rfl

theorem blkN_mark (n : Nd) : (blkN n)[4]?.getD 0 = 78 := by
  unfold blkN sealN
  rw [List.getElem?_append_right (by rw [le_length]; omega), le_length, padN, told_parts]
  rfl
set_option maxRecDepth 100000 in
set_option maxHeartbeats 16000000 in
theorem walk (v : Value) (n : Nd) (u : Value) (o : Nd) (w : World) (hv : Nod (Old w) w v n) (hu : Nod (Old w) w u o) :
    Calls Try.prog 8 #[v, u] w fun e w' => e = .returned (.bool true) ∧ Below w.heap.size w w' := by
  have HIN := Lib.hid hv.inN
  have HIO := Lib.hid hu.inN
  obtain ⟨A, c, rfl, hin, l1, m1, hA⟩ := hv.open
  obtain ⟨B, d, rfl, hio, l2, m2, hB⟩ := hu.open
  obtain ⟨l, hl⟩ : ∃ l, n.1 = l := ⟨_, rfl⟩
  obtain ⟨m, hm⟩ : ∃ m, n.2.length = m := ⟨_, rfl⟩
  obtain ⟨j, hj⟩ : ∃ l, o.1 = l := ⟨_, rfl⟩
  obtain ⟨k, hk⟩ : ∃ m, o.2.length = m := ⟨_, rfl⟩
  rw [hl, hm] at hv ⊢
  rw [hj, hk] at hu ⊢
  rw [hm] at l1 hA
  rw [hk] at l2 hB
  have G0 := (((((Bag.nil w).add (F := OldN _ _) hv (lasts_oldN _ _)).add (F := OldIs _ _) hA (lasts_oldIs _ _)).add (F := OldN _ _) hu (lasts_oldN _ _)).add (F := OldIs _ _) hB (lasts_oldIs _ _))
  obtain ⟨w1, hw1, G1, B1, _, s1⟩ := bag_node G0 (Below.refl _ _) (.int .i64 l) (.slice A m c)
  obtain ⟨w2, hw2, G2, B2, _, s2⟩ := bag_node G1 (Below.refl _ _) (.int .i64 j) (.slice B k d)
  have BB := Lib.hid (B1.trans (B2.mono B1.size))
  have HG := Lib.hid G2
  replace hw2 := Lib.hid hw2
  clear G0 G1 G2 B1 B2 s1 s2 hv hA hin hu hB hio hl hm hj hk
  go_enter Try.func8, Try.ntmps8
  go_upto_region 1 with fail
  rw [hw2.out]
  clear hw1 hw2
  go_wp2_with fail
  with_reducible refine (alive6 _).mono ?_
  rintro e3 w3 ⟨rfl, hb3⟩
  replace HG := Lib.hid (HG.out.below hb3)
  replace BB := Lib.hid (BB.out.trans (hb3.mono BB.out.size))
  clear hb3
  obtain ⟨z1, z2, _⟩ := HG.out.at 1 rfl
  have HI : Hid (rIts (Old w3) w3 [.slice A m c] n.2) := Lib.hid (HG.out.at 4 rfl)
  go_wp2_with fail
  with_reducible refine (greatI_any _ n.2 _ HI.out).mono ?_
  rintro e4 w4 ⟨rfl, hb4⟩
  replace HG := Lib.hid (HG.out.below hb4)
  replace BB := Lib.hid (BB.out.trans (hb4.mono BB.out.size))
  clear hb4 HI z1 z2
  obtain ⟨g, hg⟩ : ∃ g, greatI n.2 = g := ⟨_, rfl⟩
  rw [hg]
  replace hg := Lib.hid hg
  cases g with
  | true =>
    go_wp2_with fail
    go_ret
    exact ⟨rfl, BB.out⟩
  | false =>
  have hfew := Lib.hid (few_of hg.out)
  obtain ⟨y1, y2, _⟩ := HG.out.at 0 rfl
  have HI : Hid (rIts (Old w4) w4 [.slice B k d] o.2) := Lib.hid (HG.out.at 2 rfl)
  go_wp2_with fail
  with_reducible refine (greatI_any _ o.2 _ HI.out).mono ?_
  rintro e5 w5 ⟨rfl, hb5⟩
  replace HG := Lib.hid (HG.out.below hb5)
  replace BB := Lib.hid (BB.out.trans (hb5.mono BB.out.size))
  clear hb5 HI y1 y2
  obtain ⟨g, hg2⟩ : ∃ g, greatI o.2 = g := ⟨_, rfl⟩
  rw [hg2]
  replace hg2 := Lib.hid hg2
  cases g with
  | true =>
    go_wp2_with fail
    go_ret
    exact ⟨rfl, BB.out⟩
  | false =>
  obtain ⟨z1, z2, _⟩ := HG.out.at 1 rfl
  have HN : Hid (Nod (Old w5) w5 (.agg #[.int .i64 l, .slice A m c]) n) := Lib.hid (HG.out.at 5 rfl)
  go_wp2_with fail
  with_reducible refine (nodeWrite_any _ n _ HN.out).mono ?_
  rintro e6 w6 ⟨a, rfl, ha, hb6⟩
  obtain ⟨T, tc, rfl, _, _, _⟩ := id (rBy_open ha)
  obtain ⟨la, hla⟩ : ∃ k, (wrN n).length = k := ⟨_, rfl⟩
  rw [hla] at ha ⊢
  replace HG := Lib.hid ((HG.out.below hb6).add (F := OldB _ _) (stab_by.drop ha) (lasts_oldB _ _))
  replace BB := Lib.hid (BB.out.trans (hb6.mono BB.out.size))
  replace hla := Lib.hid hla
  clear z1 z2 ha hb6 HN
  obtain ⟨y1, y2, _⟩ := HG.out.at 1 rfl
  have HO : Hid (Nod (Old w6) w6 (.agg #[.int .i64 j, .slice B k d]) o) := Lib.hid (HG.out.at 4 rfl)
  go_wp2_with fail
  with_reducible refine (nodeWrite_any _ o _ HO.out).mono ?_
  rintro e7 w7 ⟨b, rfl, hb, hb7⟩
  obtain ⟨U, uc, rfl, _, _, _⟩ := id (rBy_open hb)
  obtain ⟨lb, hlb⟩ : ∃ k, (wrN o).length = k := ⟨_, rfl⟩
  rw [hlb] at hb ⊢
  replace HG := Lib.hid ((HG.out.below hb7).add (F := OldB _ _) (stab_by.drop hb) (lasts_oldB _ _))
  replace BB := Lib.hid (BB.out.trans (hb7.mono BB.out.size))
  replace hlb := Lib.hid hlb
  clear y1 y2 hb hb7 HO
  -- 0: b's bytes, 1: a's bytes, 2: o's box, 3: n's box, 4: o's items, 5: o, 6: n's items, 7: n
  obtain ⟨E, hE⟩ : ∃ E, chkN n = E := ⟨_, rfl⟩
  obtain ⟨F, hF⟩ : ∃ E, chkN o = E := ⟨_, rfl⟩
  rw [hE, hF]
  obtain ⟨s, hs⟩ : ∃ s, sameN n o = s := ⟨_, rfl⟩
  have hs2 := Lib.hid (show sameN o n = s by rw [sameN_comm, hs])
  replace hs := Lib.hid hs
  have hts : (s != s) = false := by cases s <;> rfl
  have HB2 : Hid (∀ W, Below w7.heap.size w7 W → (W.cell? ⟨w.heap.size, 0, none⟩ = some (.int .i64 l) ∧ W.cell? ⟨w.heap.size, 1, none⟩ = some (.slice A m c)) ∧ (W.cell? ⟨w1.heap.size, 0, none⟩ = some (.int .i64 j) ∧ W.cell? ⟨w1.heap.size, 1, none⟩ = some (.slice B k d)) ∧ Nod (Old W) W (.agg #[.int .i64 l, .slice A m c]) n ∧ Nod (Old W) W (.agg #[.int .i64 j, .slice B k d]) o) := Lib.hid fun W hW => by
    have h := HG.out.below hW
    obtain ⟨x1, x2, _⟩ := h.at 3 rfl
    obtain ⟨x3, x4, _⟩ := h.at 2 rfl
    exact ⟨⟨x1, x2⟩, ⟨x3, x4⟩, h.at 7 rfl, h.at 5 rfl⟩
  go_upto_region 6 with fail
  go_cut [60] from 30 to 60 (fun c wx => c = .bool false ∧ Below w7.heap.size w7 wx)
  case first =>
    rcases bool_two (mayN n) with hmay | hmay
    · have h8 : E = 8 := by rw [← hE]; exact chkN_bad hmay
      have hl0 : la = 0 := by rw [← hla.out]; simp [wrN, hmay]
      subst h8
      subst hl0
      replace hmay := Lib.hid hmay
      have hchk := Lib.hid hE
      clear hE
      refine wp_region_fx (by kernel_rfl) (fun W => Below w7.heap.size w7 W) (fun i => match i with
          | 8 => some (fun v W => Nod (Old W) W v n)
          | _ => none) (fun i => match i with
          | 3 => some (.int .i64 8)
          | 10 => some (.bool true)
          | 16 => some (.bool s)
          | 19 => some (.bool s)
          | _ => none) (by kernel_rfl) (Below.refl _ _).drew (fun w w' h hb => h.trans (hb.mono h.size)) (fun i φ x W W' hp hx hb => ?tst) ?_
      case tst =>
        match i, hp with
        | 8, hp => cases hp; exact hx.below hb
      repeat (first
        | (refine wpAs_skip rfl ?_; simp only [Act.put, List.setIfInBounds_toArray, List.set_cons_zero, List.set_cons_succ])
        | (refine wpAs_pure (v := ?_) rfl rfl ?_ ?_; rotate_left; (intro W hC hE; clear hE; (obtain ⟨⟨x1, x2⟩, ⟨x3, x4⟩, _, _⟩ := HB2.out W hC); clear hC; go_simp; done); simp only [Act.put, List.setIfInBounds_toArray, List.set_cons_zero, List.set_cons_succ])
        | (refine wpAs_pure (v := ?_) rfl rfl ?_ ?_; rotate_left; (intro W hC hE; clear hE; (obtain ⟨⟨x1, x2⟩, ⟨x3, x4⟩, _, _⟩ := HB2.out W hC); clear hC; go_simp; with_reducible rfl); simp only [Act.put, List.setIfInBounds_toArray, List.set_cons_zero, List.set_cons_succ]))
      refine wpAs_fixed rfl rfl rfl ?_ ?_
      · intro W hC hE
        refine does_enter (f := 14) (args := #[.agg #[.int .i64 l, .slice A m c]]) ?_ ?_
        · go_simp
        · refine (checkN_any _ n W (HB2.out W hC).2.2.1).mono ?_
          (rintro e W' ⟨rfl, hg⟩; rw [hchk.out])
          exact ⟨_, rfl, rfl, hg⟩
      simp only [Act.put, List.setIfInBounds_toArray, List.set_cons_zero, List.set_cons_succ]
      repeat (first
        | (refine wpAs_skip rfl ?_; simp only [Act.put, List.setIfInBounds_toArray, List.set_cons_zero, List.set_cons_succ])
        | (refine wpAs_pure (v := ?_) rfl rfl ?_ ?_; rotate_left; (intro W hC hE; clear hE; (obtain ⟨⟨x1, x2⟩, ⟨x3, x4⟩, _, _⟩ := HB2.out W hC); clear hC; go_simp; done); simp only [Act.put, List.setIfInBounds_toArray, List.set_cons_zero, List.set_cons_succ])
        | (refine wpAs_pure (v := ?_) rfl rfl ?_ ?_; rotate_left; (intro W hC hE; clear hE; (obtain ⟨⟨x1, x2⟩, ⟨x3, x4⟩, _, _⟩ := HB2.out W hC); clear hC; go_simp; with_reducible rfl); simp only [Act.put, List.setIfInBounds_toArray, List.set_cons_zero, List.set_cons_succ]))
      refine wpAs_act rfl rfl ?_ ?_
      · intro W hC hE
        refine does_enter (f := 22) (args := #[.agg #[.int .i64 l, .slice A m c]]) ?_ ?_
        · go_simp
        · refine (nodeTwin_any _ n W hfew.out (HB2.out W hC).2.2.1).mono ?_
          rintro e W' ⟨u, rfl, hu, hg⟩
          exact ⟨_, rfl, hu.drop, hg⟩
      simp only [Act.put, List.setIfInBounds_toArray, List.set_cons_zero, List.set_cons_succ, envAdd]
      intro x38
      repeat (first
        | (refine wpAs_skip rfl ?_; simp only [Act.put, List.setIfInBounds_toArray, List.set_cons_zero, List.set_cons_succ])
        | (refine wpAs_pure (v := ?_) rfl rfl ?_ ?_; rotate_left; (intro W hC hE; clear hE; (obtain ⟨⟨x1, x2⟩, ⟨x3, x4⟩, _, _⟩ := HB2.out W hC); clear hC; go_simp; done); simp only [Act.put, List.setIfInBounds_toArray, List.set_cons_zero, List.set_cons_succ])
        | (refine wpAs_pure (v := ?_) rfl rfl ?_ ?_; rotate_left; (intro W hC hE; clear hE; (obtain ⟨⟨x1, x2⟩, ⟨x3, x4⟩, _, _⟩ := HB2.out W hC); clear hC; go_simp; with_reducible rfl); simp only [Act.put, List.setIfInBounds_toArray, List.set_cons_zero, List.set_cons_succ]))
      refine wpAs_fixed rfl rfl rfl ?_ ?_
      · intro W hC hE
        have hx := hE.1 rfl
        refine does_enter (f := 21) (args := #[x38, .agg #[.int .i64 l, .slice A m c]]) ?_ ?_
        · go_simp
        · refine (sameN_any _ _ n n W hx (HB2.out W hC).2.2.1).mono ?_
          rintro e W' ⟨rfl, hg⟩
          rw [sameN_self]
          exact ⟨_, rfl, rfl, hg⟩
      simp only [Act.put, List.setIfInBounds_toArray, List.set_cons_zero, List.set_cons_succ]
      repeat (first
        | (refine wpAs_skip rfl ?_; simp only [Act.put, List.setIfInBounds_toArray, List.set_cons_zero, List.set_cons_succ])
        | (refine wpAs_pure (v := ?_) rfl rfl ?_ ?_; rotate_left; (intro W hC hE; clear hE; (obtain ⟨⟨x1, x2⟩, ⟨x3, x4⟩, _, _⟩ := HB2.out W hC); clear hC; go_simp; done); simp only [Act.put, List.setIfInBounds_toArray, List.set_cons_zero, List.set_cons_succ])
        | (refine wpAs_pure (v := ?_) rfl rfl ?_ ?_; rotate_left; (intro W hC hE; clear hE; (obtain ⟨⟨x1, x2⟩, ⟨x3, x4⟩, _, _⟩ := HB2.out W hC); clear hC; go_simp; with_reducible rfl); simp only [Act.put, List.setIfInBounds_toArray, List.set_cons_zero, List.set_cons_succ]))
      refine wpAs_fixed rfl rfl rfl ?_ ?_
      · intro W hC hE
        refine does_enter (f := 21) (args := #[.agg #[.int .i64 l, .slice A m c], .agg #[.int .i64 j, .slice B k d]]) ?_ ?_
        · go_simp
        · refine (sameN_any _ _ n o W (HB2.out W hC).2.2.1 (HB2.out W hC).2.2.2).mono ?_
          (rintro e W' ⟨rfl, hg⟩; rw [hs.out])
          exact ⟨_, rfl, rfl, hg⟩
      simp only [Act.put, List.setIfInBounds_toArray, List.set_cons_zero, List.set_cons_succ]
      repeat (first
        | (refine wpAs_skip rfl ?_; simp only [Act.put, List.setIfInBounds_toArray, List.set_cons_zero, List.set_cons_succ])
        | (refine wpAs_pure (v := ?_) rfl rfl ?_ ?_; rotate_left; (intro W hC hE; clear hE; (obtain ⟨⟨x1, x2⟩, ⟨x3, x4⟩, _, _⟩ := HB2.out W hC); clear hC; go_simp; done); simp only [Act.put, List.setIfInBounds_toArray, List.set_cons_zero, List.set_cons_succ])
        | (refine wpAs_pure (v := ?_) rfl rfl ?_ ?_; rotate_left; (intro W hC hE; clear hE; (obtain ⟨⟨x1, x2⟩, ⟨x3, x4⟩, _, _⟩ := HB2.out W hC); clear hC; go_simp; with_reducible rfl); simp only [Act.put, List.setIfInBounds_toArray, List.set_cons_zero, List.set_cons_succ]))
      refine wpAs_fixed rfl rfl rfl ?_ ?_
      · intro W hC hE
        refine does_enter (f := 21) (args := #[.agg #[.int .i64 j, .slice B k d], .agg #[.int .i64 l, .slice A m c]]) ?_ ?_
        · go_simp
        · refine (sameN_any _ _ o n W (HB2.out W hC).2.2.2 (HB2.out W hC).2.2.1).mono ?_
          (rintro e W' ⟨rfl, hg⟩; rw [hs2.out])
          exact ⟨_, rfl, rfl, hg⟩
      simp only [Act.put, List.setIfInBounds_toArray, List.set_cons_zero, List.set_cons_succ]
      repeat (first
        | (refine wpAs_skip rfl ?_; simp only [Act.put, List.setIfInBounds_toArray, List.set_cons_zero, List.set_cons_succ])
        | (refine wpAs_pure (v := ?_) rfl rfl ?_ ?_; rotate_left; (intro W hC hE; clear hE; skip; clear hC; go_simp; done); simp only [Act.put, List.setIfInBounds_toArray, List.set_cons_zero, List.set_cons_succ])
        | (refine wpAs_pure (v := ?_) rfl rfl ?_ ?_; rotate_left; (intro W hC hE; clear hE; skip; clear hC; go_simp; with_reducible rfl); simp only [Act.put, List.setIfInBounds_toArray, List.set_cons_zero, List.set_cons_succ]))
      refine wpAs_end fun W hC hE => ?_
      clear hE
      go_wp2_with fail
      go_meet
      exact ⟨rfl, hC⟩
    · have h0 : E = 0 := by rw [← hE]; exact chkN_ok hmay
      subst h0
      replace hmay := Lib.hid hmay
      have hchk := Lib.hid hE
      clear hE
      refine wp_region_fx (by kernel_rfl) (fun W => Below w7.heap.size w7 W) (fun i => match i with
          | 8 => some (fun v W => Nod (Old W) W v n)
          | _ => none) (fun i => match i with
          | 3 => some (.int .i64 0)
          | 10 => some (.bool true)
          | 16 => some (.bool s)
          | 19 => some (.bool s)
          | _ => none) (by kernel_rfl) (Below.refl _ _).drew (fun w w' h hb => h.trans (hb.mono h.size)) (fun i φ x W W' hp hx hb => ?tst) ?_
      case tst =>
        match i, hp with
        | 8, hp => cases hp; exact hx.below hb
      repeat (first
        | (refine wpAs_skip rfl ?_; simp only [Act.put, List.setIfInBounds_toArray, List.set_cons_zero, List.set_cons_succ])
        | (refine wpAs_pure (v := ?_) rfl rfl ?_ ?_; rotate_left; (intro W hC hE; clear hE; (obtain ⟨⟨x1, x2⟩, ⟨x3, x4⟩, _, _⟩ := HB2.out W hC); clear hC; go_simp; done); simp only [Act.put, List.setIfInBounds_toArray, List.set_cons_zero, List.set_cons_succ])
        | (refine wpAs_pure (v := ?_) rfl rfl ?_ ?_; rotate_left; (intro W hC hE; clear hE; (obtain ⟨⟨x1, x2⟩, ⟨x3, x4⟩, _, _⟩ := HB2.out W hC); clear hC; go_simp; with_reducible rfl); simp only [Act.put, List.setIfInBounds_toArray, List.set_cons_zero, List.set_cons_succ]))
      refine wpAs_fixed rfl rfl rfl ?_ ?_
      · intro W hC hE
        refine does_enter (f := 14) (args := #[.agg #[.int .i64 l, .slice A m c]]) ?_ ?_
        · go_simp
        · refine (checkN_any _ n W (HB2.out W hC).2.2.1).mono ?_
          (rintro e W' ⟨rfl, hg⟩; rw [hchk.out])
          exact ⟨_, rfl, rfl, hg⟩
      simp only [Act.put, List.setIfInBounds_toArray, List.set_cons_zero, List.set_cons_succ]
      repeat (first
        | (refine wpAs_skip rfl ?_; simp only [Act.put, List.setIfInBounds_toArray, List.set_cons_zero, List.set_cons_succ])
        | (refine wpAs_pure (v := ?_) rfl rfl ?_ ?_; rotate_left; (intro W hC hE; clear hE; (obtain ⟨⟨x1, x2⟩, ⟨x3, x4⟩, _, _⟩ := HB2.out W hC); clear hC; go_simp; done); simp only [Act.put, List.setIfInBounds_toArray, List.set_cons_zero, List.set_cons_succ])
        | (refine wpAs_pure (v := ?_) rfl rfl ?_ ?_; rotate_left; (intro W hC hE; clear hE; (obtain ⟨⟨x1, x2⟩, ⟨x3, x4⟩, _, _⟩ := HB2.out W hC); clear hC; go_simp; with_reducible rfl); simp only [Act.put, List.setIfInBounds_toArray, List.set_cons_zero, List.set_cons_succ]))
      refine wpAs_act rfl rfl ?_ ?_
      · intro W hC hE
        refine does_enter (f := 22) (args := #[.agg #[.int .i64 l, .slice A m c]]) ?_ ?_
        · go_simp
        · refine (nodeTwin_any _ n W hfew.out (HB2.out W hC).2.2.1).mono ?_
          rintro e W' ⟨u, rfl, hu, hg⟩
          exact ⟨_, rfl, hu.drop, hg⟩
      simp only [Act.put, List.setIfInBounds_toArray, List.set_cons_zero, List.set_cons_succ, envAdd]
      intro x38
      repeat (first
        | (refine wpAs_skip rfl ?_; simp only [Act.put, List.setIfInBounds_toArray, List.set_cons_zero, List.set_cons_succ])
        | (refine wpAs_pure (v := ?_) rfl rfl ?_ ?_; rotate_left; (intro W hC hE; clear hE; (obtain ⟨⟨x1, x2⟩, ⟨x3, x4⟩, _, _⟩ := HB2.out W hC); clear hC; go_simp; done); simp only [Act.put, List.setIfInBounds_toArray, List.set_cons_zero, List.set_cons_succ])
        | (refine wpAs_pure (v := ?_) rfl rfl ?_ ?_; rotate_left; (intro W hC hE; clear hE; (obtain ⟨⟨x1, x2⟩, ⟨x3, x4⟩, _, _⟩ := HB2.out W hC); clear hC; go_simp; with_reducible rfl); simp only [Act.put, List.setIfInBounds_toArray, List.set_cons_zero, List.set_cons_succ]))
      refine wpAs_fixed rfl rfl rfl ?_ ?_
      · intro W hC hE
        have hx := hE.1 rfl
        refine does_enter (f := 21) (args := #[x38, .agg #[.int .i64 l, .slice A m c]]) ?_ ?_
        · go_simp
        · refine (sameN_any _ _ n n W hx (HB2.out W hC).2.2.1).mono ?_
          rintro e W' ⟨rfl, hg⟩
          rw [sameN_self]
          exact ⟨_, rfl, rfl, hg⟩
      simp only [Act.put, List.setIfInBounds_toArray, List.set_cons_zero, List.set_cons_succ]
      repeat (first
        | (refine wpAs_skip rfl ?_; simp only [Act.put, List.setIfInBounds_toArray, List.set_cons_zero, List.set_cons_succ])
        | (refine wpAs_pure (v := ?_) rfl rfl ?_ ?_; rotate_left; (intro W hC hE; clear hE; (obtain ⟨⟨x1, x2⟩, ⟨x3, x4⟩, _, _⟩ := HB2.out W hC); clear hC; go_simp; done); simp only [Act.put, List.setIfInBounds_toArray, List.set_cons_zero, List.set_cons_succ])
        | (refine wpAs_pure (v := ?_) rfl rfl ?_ ?_; rotate_left; (intro W hC hE; clear hE; (obtain ⟨⟨x1, x2⟩, ⟨x3, x4⟩, _, _⟩ := HB2.out W hC); clear hC; go_simp; with_reducible rfl); simp only [Act.put, List.setIfInBounds_toArray, List.set_cons_zero, List.set_cons_succ]))
      refine wpAs_fixed rfl rfl rfl ?_ ?_
      · intro W hC hE
        refine does_enter (f := 21) (args := #[.agg #[.int .i64 l, .slice A m c], .agg #[.int .i64 j, .slice B k d]]) ?_ ?_
        · go_simp
        · refine (sameN_any _ _ n o W (HB2.out W hC).2.2.1 (HB2.out W hC).2.2.2).mono ?_
          (rintro e W' ⟨rfl, hg⟩; rw [hs.out])
          exact ⟨_, rfl, rfl, hg⟩
      simp only [Act.put, List.setIfInBounds_toArray, List.set_cons_zero, List.set_cons_succ]
      repeat (first
        | (refine wpAs_skip rfl ?_; simp only [Act.put, List.setIfInBounds_toArray, List.set_cons_zero, List.set_cons_succ])
        | (refine wpAs_pure (v := ?_) rfl rfl ?_ ?_; rotate_left; (intro W hC hE; clear hE; (obtain ⟨⟨x1, x2⟩, ⟨x3, x4⟩, _, _⟩ := HB2.out W hC); clear hC; go_simp; done); simp only [Act.put, List.setIfInBounds_toArray, List.set_cons_zero, List.set_cons_succ])
        | (refine wpAs_pure (v := ?_) rfl rfl ?_ ?_; rotate_left; (intro W hC hE; clear hE; (obtain ⟨⟨x1, x2⟩, ⟨x3, x4⟩, _, _⟩ := HB2.out W hC); clear hC; go_simp; with_reducible rfl); simp only [Act.put, List.setIfInBounds_toArray, List.set_cons_zero, List.set_cons_succ]))
      refine wpAs_fixed rfl rfl rfl ?_ ?_
      · intro W hC hE
        refine does_enter (f := 21) (args := #[.agg #[.int .i64 j, .slice B k d], .agg #[.int .i64 l, .slice A m c]]) ?_ ?_
        · go_simp
        · refine (sameN_any _ _ o n W (HB2.out W hC).2.2.2 (HB2.out W hC).2.2.1).mono ?_
          (rintro e W' ⟨rfl, hg⟩; rw [hs2.out])
          exact ⟨_, rfl, rfl, hg⟩
      simp only [Act.put, List.setIfInBounds_toArray, List.set_cons_zero, List.set_cons_succ]
      repeat (first
        | (refine wpAs_skip rfl ?_; simp only [Act.put, List.setIfInBounds_toArray, List.set_cons_zero, List.set_cons_succ])
        | (refine wpAs_pure (v := ?_) rfl rfl ?_ ?_; rotate_left; (intro W hC hE; clear hE; skip; clear hC; go_simp; done); simp only [Act.put, List.setIfInBounds_toArray, List.set_cons_zero, List.set_cons_succ])
        | (refine wpAs_pure (v := ?_) rfl rfl ?_ ?_; rotate_left; (intro W hC hE; clear hE; skip; clear hC; go_simp; with_reducible rfl); simp only [Act.put, List.setIfInBounds_toArray, List.set_cons_zero, List.set_cons_succ]))
      refine wpAs_end fun W hC hE => ?_
      clear hE
      go_wp2_with fail
      go_meet
      exact ⟨rfl, hC⟩
  case rest =>
  obtain ⟨w8, rfl⟩ : ∃ w8 : World, w8 = wc := ⟨_, rfl⟩
  obtain ⟨rfl, hC8⟩ := hcut
  have B8 := Lib.hid (BB.out.trans (hC8.mono BB.out.size))
  have HG8 := Lib.hid (HG.out.below hC8)
  have HB8 : Hid (∀ W, Below w8.heap.size w8 W → (W.cell? ⟨w.heap.size, 0, none⟩ = some (.int .i64 l) ∧ W.cell? ⟨w.heap.size, 1, none⟩ = some (.slice A m c)) ∧ (W.cell? ⟨w1.heap.size, 0, none⟩ = some (.int .i64 j) ∧ W.cell? ⟨w1.heap.size, 1, none⟩ = some (.slice B k d)) ∧ Nod (Old W) W (.agg #[.int .i64 l, .slice A m c]) n ∧ Nod (Old W) W (.agg #[.int .i64 j, .slice B k d]) o) := Lib.hid fun W hW => HB2.out W (hC8.trans (hW.mono hC8.size))
  clear hC8
  rcases bool_two (mayN n) with hmay | hmay
  · have h8 : E = 8 := by rw [← hE]; exact chkN_bad hmay
    subst h8
    replace hmay := Lib.hid hmay
    clear hE
    go_wp2_with fail
    go_ret
    exact ⟨rfl, B8.out⟩
  rcases bool_two (mayN o) with hmao | hmao
  · have h8 : F = 8 := by rw [← hF]; exact chkN_bad hmao
    have h0 : E = 0 := by rw [← hE]; exact chkN_ok hmay
    subst h8
    subst h0
    replace hmay := Lib.hid hmay
    replace hmao := Lib.hid hmao
    clear hE hF
    go_wp2_with fail
    go_ret
    exact ⟨rfl, B8.out⟩
  have h1 : F = 0 := by rw [← hF]; exact chkN_ok hmao
  have h0 : E = 0 := by rw [← hE]; exact chkN_ok hmay
  subst h1
  subst h0
  have hwn := Lib.hid (show wrN n = blkN n by simp [wrN, hmay])
  have hwo := Lib.hid (show wrN o = blkN o by simp [wrN, hmao])
  have h128 : la = 128 := by rw [← hla.out, hwn.out]; exact blkN_length hmay
  have h129 : lb = 128 := by rw [← hlb.out, hwo.out]; exact blkN_length hmao
  subst h128
  subst h129
  have hinj := blkN_inj hmay hmao HIN.out HIO.out
  rw [hs.out] at hinj
  have hT8 : rBy (Old w8) w8 [.slice T 128 tc] (blkN n) := by rw [← hwn.out]; exact HG8.out.at 1 rfl
  have hU8 : rBy (Old w8) w8 [.slice U 128 uc] (blkN o) := by rw [← hwo.out]; exact HG8.out.at 0 rfl
  have HT : Hid (∀ W, Below w8.heap.size w8 W → rBy (Old W) W [.slice T 128 tc] (blkN n)) := Lib.hid fun W hW => stab_by.old hT8 hW
  have HU : Hid (∀ W, Below w8.heap.size w8 W → rBy (Old W) W [.slice U 128 uc] (blkN o)) := Lib.hid fun W hW => stab_by.old hU8 hW
  have hbeq : (blkN n == blkN o) = s := by rw [beq_dec]; exact hinj
  obtain ⟨_, _, eT, _, _, hc4⟩ := rBy_open hT8
  rw [blkN_length hmay] at eT
  obtain ⟨ta, eta, hok4, hcell4⟩ := hc4 4 (by rw [blkN_length hmay]; omega)
  cases eT
  subst eta
  rw [blkN_mark n] at hcell4
  have h4 : w8.cell? ⟨ta.block, ta.off + 4, none⟩ = some (.int .u8 78) := by simpa [Addr.add] using hcell4
  have lt4 : ta.block < w8.heap.size := World.block_lt_of_cell? w8 ⟨ta.block, ta.off + 4, none⟩ h4
  obtain ⟨P, hP⟩ : ∃ P, blkN n = P := ⟨_, rfl⟩
  obtain ⟨R, hR⟩ : ∃ R, blkN o = R := ⟨_, rfl⟩
  rw [hP] at HT hbeq
  rw [hR] at HU hbeq
  have hss : (s == s) = true := by cases s <;> rfl
  replace hP := Lib.hid hP
  replace hR := Lib.hid hR
  replace hmay := Lib.hid hmay
  replace hmao := Lib.hid hmao
  clear hE hF hinj hT8 hU8 hc4 hcell4 hok4
  go_upto_region 10 with fail
  refine wp_region_fx (by kernel_rfl) (fun W => Below w8.heap.size w8 W) (fun _ => none) (fun i => match i with
    | 20 => some (.bool s)
    | _ => none) (by kernel_rfl) (Below.refl _ _).drew (fun w w' h hb => h.trans (hb.mono h.size)) (fun i φ x W W' hp => by cases hp) ?_
  repeat (first
    | (refine wpAs_skip rfl ?_; simp only [Act.put, List.setIfInBounds_toArray, List.set_cons_zero, List.set_cons_succ])
    | (refine wpAs_pure (v := ?_) rfl rfl ?_ ?_; rotate_left; (intro W hC hE; clear hE; (have x4 := (hC.cell (p := ⟨ta.block, ta.off + 4, none⟩) lt4).trans h4); clear hC; go_simp; done); simp only [Act.put, List.setIfInBounds_toArray, List.set_cons_zero, List.set_cons_succ])
    | (refine wpAs_pure (v := ?_) rfl rfl ?_ ?_; rotate_left; (intro W hC hE; clear hE; (have x4 := (hC.cell (p := ⟨ta.block, ta.off + 4, none⟩) lt4).trans h4); clear hC; go_simp; with_reducible rfl); simp only [Act.put, List.setIfInBounds_toArray, List.set_cons_zero, List.set_cons_succ]))
  refine wpAs_pure (v := .string ⟨(P).toArray⟩) rfl rfl ?_ ?_
  · intro W hC hE
    have h : rBy (Old W) W [.slice (some ta) 128 tc] (P) := HT.out W hC
    have hs := rBy_str0 h
    clear h hC hE
    refine run_convert_op (v := .slice (some ta) 128 tc) _ _ _ rfl ?_ hs
    first | rfl | (simp; done) | (go_simp; done)
  simp only [Act.put, List.setIfInBounds_toArray, List.set_cons_zero, List.set_cons_succ]
  repeat (first
    | (refine wpAs_skip rfl ?_; simp only [Act.put, List.setIfInBounds_toArray, List.set_cons_zero, List.set_cons_succ])
    | (refine wpAs_pure (v := ?_) rfl rfl ?_ ?_; rotate_left; (intro W hC hE; clear hE; skip; clear hC; go_simp; done); simp only [Act.put, List.setIfInBounds_toArray, List.set_cons_zero, List.set_cons_succ])
    | (refine wpAs_pure (v := ?_) rfl rfl ?_ ?_; rotate_left; (intro W hC hE; clear hE; skip; clear hC; go_simp; with_reducible rfl); simp only [Act.put, List.setIfInBounds_toArray, List.set_cons_zero, List.set_cons_succ]))
  refine wpAs_pure (v := .string ⟨(R).toArray⟩) rfl rfl ?_ ?_
  · intro W hC hE
    have h : rBy (Old W) W [.slice U 128 uc] (R) := HU.out W hC
    have hs := rBy_str0 h
    clear h hC hE
    refine run_convert_op (v := .slice U 128 uc) _ _ _ rfl ?_ hs
    first | rfl | (simp; done) | (go_simp; done)
  simp only [Act.put, List.setIfInBounds_toArray, List.set_cons_zero, List.set_cons_succ]
  repeat (first
    | (refine wpAs_skip rfl ?_; simp only [Act.put, List.setIfInBounds_toArray, List.set_cons_zero, List.set_cons_succ])
    | (refine wpAs_pure (v := ?_) rfl rfl ?_ ?_; rotate_left; (intro W hC hE; clear hE; (obtain ⟨⟨x1, x2⟩, ⟨x3, x5⟩, _, _⟩ := HB8.out W hC); clear hC; go_simp; done); simp only [Act.put, List.setIfInBounds_toArray, List.set_cons_zero, List.set_cons_succ])
    | (refine wpAs_pure (v := ?_) rfl rfl ?_ ?_; rotate_left; (intro W hC hE; clear hE; (obtain ⟨⟨x1, x2⟩, ⟨x3, x5⟩, _, _⟩ := HB8.out W hC); clear hC; go_simp; with_reducible rfl); simp only [Act.put, List.setIfInBounds_toArray, List.set_cons_zero, List.set_cons_succ]))
  refine wpAs_fixed rfl rfl rfl ?_ ?_
  · intro W hC hE
    refine does_enter (f := 21) (args := #[.agg #[.int .i64 l, .slice A m c], .agg #[.int .i64 j, .slice B k d]]) ?_ ?_
    · go_simp
    · refine (sameN_any _ _ n o W (HB8.out W hC).2.2.1 (HB8.out W hC).2.2.2).mono ?_
      (rintro e W' ⟨rfl, hg⟩; rw [hs.out])
      exact ⟨_, rfl, rfl, hg⟩
  simp only [Act.put, List.setIfInBounds_toArray, List.set_cons_zero, List.set_cons_succ]
  repeat (first
    | (refine wpAs_skip rfl ?_; simp only [Act.put, List.setIfInBounds_toArray, List.set_cons_zero, List.set_cons_succ])
    | (refine wpAs_pure (v := ?_) rfl rfl ?_ ?_; rotate_left; (intro W hC hE; clear hE; skip; clear hC; go_simp; done); simp only [Act.put, List.setIfInBounds_toArray, List.set_cons_zero, List.set_cons_succ])
    | (refine wpAs_pure (v := ?_) rfl rfl ?_ ?_; rotate_left; (intro W hC hE; clear hE; skip; clear hC; go_simp; with_reducible rfl); simp only [Act.put, List.setIfInBounds_toArray, List.set_cons_zero, List.set_cons_succ]))
  refine wpAs_end fun W hC hE => ?_
  clear hE
  go_wp2
  go_ret
  exact ⟨rfl, B8.out.trans (hC.mono B8.out.size)⟩

/-! ### The row's step -/
set_option maxRecDepth 100000 in
theorem lifted (os : Os) (started : os.Started) (H : Type) (enc : TypeId × Value → H) :
    ReturnsInHanded {} Try.checked os 8 .any (Rows.nodeUnlikeSpec.pre6 enc Try.prog Try.f8 Rows.nodeUnlikeRow.domain false) (Rows.nodeUnlikeSpec.post enc Try.prog Try.f8 false true false false) := by
  refine returnsInHanded_of_change (C := Try.checked) own started (by kernel_rfl) Try.func8
    (ChangeSpec.witness6 (enc := enc) (C := Try.checked) false ⟨#[], #[.agg #[.int .i64 0, .slice none 0 0], .agg #[.int .i64 0, .slice none 0 0]], []⟩ 8 (by kernel_rfl) (by kernel_rfl) (by kernel_rfl) (by kernel_rfl)) ?_
  intro W base args ds gs before hval0 hW _ _
  have hval : ∀ (j : Nat) t v, Try.f8.params[j]? = some t → args[j]? = some v → Value.okWide Try.prog W .any base t v := hval0
  have hW' := hW
  obtain ⟨p, q, hA0, hV, _, _, _⟩ := hW
  have hA : DataW.TrodAll enc Try.prog W 0 (fun _ => true) true Try.f8.params.toList args.toList ds p := hA0
  rw [Try.params8] at hA hval
  obtain ⟨v0, vs0, d0, ds0, p0, q0, hargs, rfl, _, h0, r0⟩ := trodAll_cons hA
  obtain ⟨v1, vs1, d1, ds1, p1, q1, rfl, rfl, _, h1, r1⟩ := trodAll_cons r0
  obtain ⟨rfl, rfl, _⟩ := trodAll_nil r1
  obtain rfl : args = #[v0, v1] := by cases args; simp_all
  obtain ⟨rfl, _⟩ := trodVars_none hV
  obtain ⟨d0x, y0⟩ := open_node (hval 0 26 v0 rfl rfl) h0
  obtain ⟨d1x, y1⟩ := open_node (hval 1 26 v1 rfl rfl) h1
  clear hA0 hval0
  refine (walk v0 d0x v1 d1x W y0 y1).mono fun e W' ⟨he, hb⟩ => ?_
  subst he
  exact ⟨_, rfl, law_post laidOut (by rw [Try.params8]; decide +kernel) (by kernel_rfl) Try.underlying4 rfl ⟨rfl, by simp [Rows.nodeUnlikeSpec], rfl⟩ hW' hb⟩

theorem over : Rows.nodeUnlikeRow.holds Try.pinned (OpenSpec.ofChange Rows.nodeUnlikeSpec) :=
  OpenClaim.holds_of_wide 8 Try.f8 rfl rfl rfl rfl rfl rfl rfl ⟨rfl, rfl, rfl, rfl, rfl⟩ rfl rfl rfl rfl rfl (by kernel_rfl) Try.func8 (by kernel_rfl)
    (of_decide_eq_true (by kernel_rfl)) (by unfold Func.isWrapper; first | (rw [if_pos (by decide +kernel)]; kernel_rfl) | (rw [if_neg (by decide +kernel)]; exact ⟨rfl, rfl⟩))
    (fun os started H enc _ => lifted os started H enc)

end Go.Proofs.Ytpcajbcdahcehaa.nodeUnlike
namespace Go.Proofs.Ytpcajbcdahcehaa
theorem nodeUnlike_proved : Rows.NodeUnlikeSaid := nodeUnlike.over
end Go.Proofs.Ytpcajbcdahcehaa
