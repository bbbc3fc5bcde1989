/-
  PutNames answers true. No condition.
-/
import Derived.Test.YtogieepfimpdmaaGreatBnd6
namespace Go.Proofs.YtogieepfimpdmaaGreat.putNames
open Go.ChangeShapes Go.WideShapes Go.RowKit

theorem own : ownKnob Tryz.prog.godebug = none := by kernel_rfl
theorem laidOut : laidOutB Tryz.prog = true := by kernel_rfl

set_option maxRecDepth 100000 in
set_option maxHeartbeats 8000000 in
theorem walk (w : World) : Calls Tryz.prog 3 #[] w fun e w' => e = .returned (.bool true) ∧ Below w.heap.size w w' := by
  obtain ⟨t, e1, hlf⟩ := oneN_plain
  obtain ⟨g1, g2, g3, -, -, -⟩ := gS_one
  have hft := oneN_found hlf
  have hfull := Lib.hid (full_rm hlf.may)
  have hG1 := Lib.hid (fun W => (g1 ▸ grown_any 1 (by omega) W : Calls Tryz.prog 9 #[.int .u32 1] W (GrwR (gS 1).1 9 W)))
  have hG6 := Lib.hid (fun W => grown_six W)
  have hPo := Lib.hid (fun qa qb qc qd W h hS hb => putN_one qa qb qc qd W e1 h hS hb)
  have hPf := Lib.hid (fun qa qb qc qd W hS => putN_far qa qb qc qd W hS)
  have hPn := Lib.hid (fun qa qb qc qd W hS => putN_nil qa qb qc qd W hS)
  have hFd := Lib.hid (fun v W hS => findN_one hft v W hS)
  have hNt := Lib.hid (fun v W hS => nodeN_top v W hS)
  have hNl := Lib.hid (fun v W hS => nodeN_low v W hS)
  obtain ⟨S, hS⟩ : ∃ S, (gS 1).1 = S := ⟨_, rfl⟩
  obtain ⟨T, hT⟩ : ∃ T, (gS 6).1 = T := ⟨_, rfl⟩
  rw [hS] at hG1 hPo hPf hPn g2 g3
  rw [hT] at hG6 hNt hNl
  replace hS := Lib.hid hS
  replace hT := Lib.hid hT
  replace g3 := Lib.hid g3
  clear e1 hlf hft g1
  go_enter Tryz.func3, Tryz.ntmps3
  go_wp2_with fail
  with_reducible refine (alive12 _).mono ?_
  rintro e w0 ⟨rfl, hb0⟩
  have B0 := Lib.hid hb0
  clear hb0
  go_wp2_with fail
  with_reducible refine (hG1.out _).mono ?_
  rintro e w1 ⟨⟨A, na, ca⟩, ⟨B, nb, cb⟩, ⟨N, nn, cn⟩, ⟨L, nl, cl⟩, rfl, h1, hb1⟩
  dsimp only at h1 ⊢
  obtain rfl : nn = 256 := by
    obtain ⟨_, _, _, _, _, _, _, _, ea, _⟩ := id h1.open
    simp at ea
    omega
  obtain ⟨w2, hw2, b2, hs2, hB2⟩ := box_4 w1 (.slice A na ca) (.slice B nb cb) (.slice N 256 cn) (.slice L nl cl) 29
  have K1 := Lib.hid (fun W (hW : Below w2.heap.size w2 W) => And.intro (four_cells ((hW.block w1.heap.size (by omega)).trans b2)) (h1.below (hB2.trans (hW.mono hB2.size))))
  have B2 := Lib.hid (B0.out.trans ((hb1.trans (hB2.mono hb1.size)).mono B0.out.size))
  replace hs2 := Lib.hid hs2
  clear hB2 hb1 h1 b2 B0 hG1 g2
  obtain ⟨⟨k0, k1, k2, k3, _⟩, _⟩ := K1.out w2 (Below.refl _ _)
  go_upto_region 4 with fail
  clear hw2
  go_upto_region 6 with fail
  clear k0 k1 k2 k3
  refine wp_region_late (ops' := ?opsLate) (by kernel_rfl) [(11, 8), (11, 9), (12, 9)] ?he (by kernel_rfl) (fun d _ _ _ _ h => by cases d <;> exact h) 11 (fun W => Below w2.heap.size w2 W) (fun i => match i with
      | 3 => some (fun v W => ∃ h, v = .slice (some ⟨h, 0, none⟩) 1 1 ∧ rBy (Old W) W [.slice (some ⟨h, 0, none⟩) 1 1] [1])
      | 4 => some (fun v W => ∃ h, v = .agg #[.int .u8 2, .int .u32 0, .int .u32 1, .int .i64 0, .slice (some ⟨h, 0, none⟩) 1 1] ∧ rBy (Old W) W [.slice (some ⟨h, 0, none⟩) 1 1] [1])
      | 5 => some (fun v W => PhT w2.heap.size 8 t v W)
      | 6 => some (fun v W => PhT w2.heap.size 8 t v W)
      | 7 => some (fun v W => PhA w2.heap.size t v W)
      | 10 => some (fun v W => ∃ g, v = .pointer (some ⟨g, 0, none⟩) ∧ w2.heap.size ≤ g ∧ W.heap[g]? = some (.cells #[.slice none 0 0, .slice none 0 0, .slice none 0 0, .slice none 0 0] 29 (0, 0)))
      | _ => none) (fun i => match i with
      | 2 => some (.agg #[.int .u8 2, .int .u32 0, .int .u32 1])
      | 8 => some (.int .i64 8)
      | 9 => some (.int .i64 0)
      | _ => none) ?h1 ?h2 ?h3 (Below.refl _ _).drew (fun w w' h hb => h.trans (hb.mono h.size)) ?tst ?_
  case he =>
    simp [withEdges]
    rfl
  case h1 => decide
  case h2 => kernel_rfl
  case h3 => kernel_rfl
  case tst =>
    intro j φ x W W' hp hx hb
    match j, hp with
    | 3, hp => cases hp; obtain ⟨h, e, h2⟩ := hx; exact ⟨h, e, stab_by.old h2 hb⟩
    | 4, hp => cases hp; obtain ⟨h, e, h2⟩ := hx; exact ⟨h, e, stab_by.old h2 hb⟩
    | 5, hp => cases hp; exact hx.below hb
    | 6, hp => cases hp; exact hx.below hb
    | 7, hp => cases hp; exact hx.below hb
    | 10, hp => cases hp; obtain ⟨g, e, h1, h2⟩ := hx; exact ⟨g, e, h1, (hb.block g (Array.getElem?_eq_some_iff.1 h2).1).trans h2⟩
  simp only [List.take_succ_cons, List.take_zero, List.drop_succ_cons, List.drop_zero]
  repeat (first
    | (refine wpAs_skip rfl ?_; simp only [Act.put, List.setIfInBounds_toArray, List.set_cons_zero, List.set_cons_succ])
    | (refine wpAs_pure (v := ?_) rfl rfl ?_ ?_; rotate_left; (intro W hC hE; clear hE; (obtain ⟨⟨k0, k1, k2, k3, _⟩, _⟩ := K1.out W hC); clear hC; go_simp; done); simp only [Act.put, List.setIfInBounds_toArray, List.set_cons_zero, List.set_cons_succ])
    | (refine wpAs_pure (v := ?_) rfl rfl ?_ ?_; rotate_left; (intro W hC hE; clear hE; (obtain ⟨⟨k0, k1, k2, k3, _⟩, _⟩ := K1.out W hC); clear hC; go_simp; with_reducible rfl); simp only [Act.put, List.setIfInBounds_toArray, List.set_cons_zero, List.set_cons_succ]))
  refine wpAs_fixed rfl rfl rfl ?_ ?_
  · intro W hC hE
    refine does_enter (f := 11) (args := #[.int .u32 1]) ?_ ?_
    · go_simp
    · refine (keyP_any 1 W).mono ?_
      (rintro e W' ⟨rfl, hg⟩)
      exact ⟨_, rfl, rfl, hg⟩
  simp only [Act.put, List.setIfInBounds_toArray, List.set_cons_zero, List.set_cons_succ]
  refine wpAs_act rfl rfl ?_ ?_
  · intro W hC hE
    clear hE hC
    have hn := byte_lit W 5 1 1 rfl
    have hb := (Below.refl W.heap.size W).alloc (Nat.le_refl _) (.cells #[.int .u8 1] 5)
    replace hn := Lib.hid hn
    replace hb := Lib.hid hb
    go_simp
    exact ⟨⟨_, rfl, hn.out⟩, hb.out⟩
  simp only [Act.put, List.setIfInBounds_toArray, List.set_cons_zero, List.set_cons_succ, envAdd]
  intro x3
  refine wpAs_act rfl rfl ?_ ?_
  · intro W hC hE
    obtain ⟨h, rfl, hz⟩ := hE.1 rfl
    have hz' := Lib.hid hz
    clear hE hC hz
    go_simp
    exact ⟨⟨_, rfl, hz'.out⟩, Below.refl _ _⟩
  simp only [Act.put, List.setIfInBounds_toArray, List.set_cons_zero, List.set_cons_succ, envAdd]
  intro x4
  refine wpAs_act rfl rfl ?_ ?_
  · intro W hC hE
    obtain ⟨h, rfl, hz⟩ := hE.1 rfl
    clear hE
    refine does_enter (f := 10) (args := #[.agg #[.slice A na ca, .slice B nb cb, .slice N 256 cn, .slice L nl cl], .int .i64 9, .agg #[.int .u8 2, .int .u32 0, .int .u32 1, .int .i64 0, .slice (some ⟨h, 0, none⟩) 1 1]]) ?_ ?_
    · go_simp
    · refine (hPo.out (A, na, ca) (B, nb, cb) (N, 256, cn) (L, nl, cl) W h (K1.out W hC).2 hz).mono ?_
      rintro e W' ⟨v, rfl, ⟨pa, pb, pc, pd, rfl, hz⟩, hb⟩
      exact ⟨_, rfl, ⟨pa, pb, pc, pd, rfl, hz.new hC.size (Below.refl _ _)⟩, hb⟩
  simp only [Act.put, List.setIfInBounds_toArray, List.set_cons_zero, List.set_cons_succ, envAdd]
  intro x5
  refine wpAs_act rfl rfl ?_ ?_
  · intro W hC hE
    have h7 := hE.1 rfl
    clear hE hC
    go_simp
    exact ⟨h7, Below.refl _ _⟩
  simp only [Act.put, List.setIfInBounds_toArray, List.set_cons_zero, List.set_cons_succ, envAdd]
  intro x6
  refine wpAs_act rfl rfl ?_ ?_
  · intro W hC hE
    obtain ⟨pa, pb, pc, pd, rfl, hz⟩ := hE.1 rfl
    have hz' := Lib.hid hz
    clear hE hz hC
    go_simp
    exact ⟨⟨pa, pb, pc, pd, rfl, hz'.out⟩, Below.refl _ _⟩
  simp only [Act.put, List.setIfInBounds_toArray, List.set_cons_zero, List.set_cons_succ, envAdd]
  intro x7
  refine wpAs_fixed rfl rfl rfl ?_ ?_
  · intro W hC hE
    obtain ⟨pa, pb, pc, pd, rfl, hz⟩ := hE.2.1 rfl
    clear hE hz hC
    go_simp
    exact ⟨rfl, Below.refl _ _⟩
  simp only [Act.put, List.setIfInBounds_toArray, List.set_cons_zero, List.set_cons_succ]
  refine wpAs_fixed rfl rfl rfl ?_ ?_
  · intro W hC hE
    obtain ⟨pa, pb, pc, pd, rfl, hz⟩ := hE.2.1 rfl
    clear hE hz hC
    go_simp
    exact ⟨rfl, Below.refl _ _⟩
  simp only [Act.put, List.setIfInBounds_toArray, List.set_cons_zero, List.set_cons_succ]
  refine wpAs_act rfl rfl ?_ ?_
  · intro W hC hE
    have hs := hC.size
    clear hE hC
    go_simp
    exact ⟨⟨W.heap.size, rfl, hs, heap_alloc_new _ _⟩, (Below.refl _ _).alloc (Nat.le_refl _) _⟩
  simp only [Act.put, List.setIfInBounds_toArray, List.set_cons_zero, List.set_cons_succ, envAdd]
  intro x10
  refine wpAs_end fun W hC hE => ?_
  obtain ⟨⟨g, rfl, hg, hz⟩, h7, _⟩ := hE
  obtain ⟨pa, pb, pc, pd, rfl, hs⟩ := h7
  obtain ⟨u0, u1, u2, u3, uf, _⟩ := four_cells hz
  obtain ⟨w4, hW4, g4, gr4, gs4⟩ := put_four (a' := .slice pa.1 pa.2.1 pa.2.2) (b' := .slice pb.1 pb.2.1 pb.2.2) (c' := .slice pc.1 pc.2.1 pc.2.2) (d' := .slice pd.1 pd.2.1 pd.2.2) hz
  have hs4 := sto_put_zero hs.drop hfull.out hz (by simp) gr4
  have hb4 := hC.grown gr4 hC.size (fun q e => by cases e; exact hg)
  have K4 := Lib.hid (fun W (hW : Below w4.heap.size w4 W) => And.intro (four_cells ((hW.block g (Array.getElem?_eq_some_iff.1 g4).1).trans g4)) (hs4.below hW))
  have C4 := Lib.hid hb4
  have B4 := Lib.hid (B2.out.trans (hb4.mono B2.out.size))
  replace hz := Lib.hid hz
  clear hC hs gr4 gs4 hs4 hb4 g4 hg
  go_upto_region 7 with fail
  clear hW4 u0 u1 u2 u3 uf
  refine wp_region_late (ops' := ?opsLateb) (by kernel_rfl) [(8, 6)] ?heb (by kernel_rfl) (fun d _ _ _ _ h => by cases d <;> exact h) 8 (fun W => Below w4.heap.size w4 W) (fun i => match i with
      | 3 => some (fun v W => PhF v W)
      | 4 => some (fun v W => PhF v W)
      | 5 => some (fun v W => PhX v W)
      | 7 => some (fun v W => ∃ g, v = .pointer (some ⟨g, 0, none⟩) ∧ w4.heap.size ≤ g ∧ W.heap[g]? = some (.cells #[.int .u8 0, .int .u32 0, .int .u32 0, .int .i64 0, .slice none 0 0] 40 (0, 0)))
      | _ => none) (fun i => match i with
      | 2 => some (.agg #[.int .u8 2, .int .u32 0, .int .u32 1])
      | 6 => some (.int .i64 0)
      | _ => none) ?h1b ?h2b ?h3b (Below.refl _ _).drew (fun w w' h hb => h.trans (hb.mono h.size)) ?tstb ?_
  case heb =>
    simp [withEdges]
    rfl
  case h1b => decide
  case h2b => kernel_rfl
  case h3b => kernel_rfl
  case tstb =>
    intro j φ x W W' hp hx hb
    match j, hp with
    | 3, hp => cases hp; obtain ⟨P, pc, e, h2⟩ := hx; exact ⟨P, pc, e, stab_by.old h2 hb⟩
    | 4, hp => cases hp; obtain ⟨P, pc, e, h2⟩ := hx; exact ⟨P, pc, e, stab_by.old h2 hb⟩
    | 5, hp => cases hp; obtain ⟨P, pc, e, h2⟩ := hx; exact ⟨P, pc, e, stab_by.old h2 hb⟩
    | 7, hp => cases hp; obtain ⟨g, e, h1, h2⟩ := hx; exact ⟨g, e, h1, (hb.block g (Array.getElem?_eq_some_iff.1 h2).1).trans h2⟩
  simp only [List.take_succ_cons, List.take_zero, List.drop_succ_cons, List.drop_zero]
  repeat (first
    | (refine wpAs_skip rfl ?_; simp only [Act.put, List.setIfInBounds_toArray, List.set_cons_zero, List.set_cons_succ])
    | (refine wpAs_pure (v := ?_) rfl rfl ?_ ?_; rotate_left; (intro W hC hE; clear hE; (obtain ⟨⟨k0, k1, k2, k3, _⟩, _⟩ := K4.out W hC); clear hC; go_simp; done); simp only [Act.put, List.setIfInBounds_toArray, List.set_cons_zero, List.set_cons_succ])
    | (refine wpAs_pure (v := ?_) rfl rfl ?_ ?_; rotate_left; (intro W hC hE; clear hE; (obtain ⟨⟨k0, k1, k2, k3, _⟩, _⟩ := K4.out W hC); clear hC; go_simp; with_reducible rfl); simp only [Act.put, List.setIfInBounds_toArray, List.set_cons_zero, List.set_cons_succ]))
  refine wpAs_fixed rfl rfl rfl ?_ ?_
  · intro W hC hE
    refine does_enter (f := 11) (args := #[.int .u32 1]) ?_ ?_
    · go_simp
    · refine (keyP_any 1 W).mono ?_
      (rintro e W' ⟨rfl, hg⟩)
      exact ⟨_, rfl, rfl, hg⟩
  simp only [Act.put, List.setIfInBounds_toArray, List.set_cons_zero, List.set_cons_succ]
  refine wpAs_act rfl rfl ?_ ?_
  · intro W hC hE
    clear hE
    refine does_enter (f := 12) (args := #[.agg #[.slice pa.1 pa.2.1 pa.2.2, .slice pb.1 pb.2.1 pb.2.2, .slice pc.1 pc.2.1 pc.2.2, .slice pd.1 pd.2.1 pd.2.2], .int .i64 8, .agg #[.int .u8 2, .int .u32 0, .int .u32 1]]) ?_ ?_
    · go_simp
    · refine (hFd.out _ W (K4.out W hC).2).mono ?_
      rintro e W' ⟨v, rfl, hv, hb⟩
      exact ⟨_, rfl, hv, hb⟩
  simp only [Act.put, List.setIfInBounds_toArray, List.set_cons_zero, List.set_cons_succ, envAdd]
  intro y3
  refine wpAs_act rfl rfl ?_ ?_
  · intro W hC hE
    have h7 := hE.1 rfl
    clear hE hC
    go_simp
    exact ⟨h7, Below.refl _ _⟩
  simp only [Act.put, List.setIfInBounds_toArray, List.set_cons_zero, List.set_cons_succ, envAdd]
  intro y4
  refine wpAs_act rfl rfl ?_ ?_
  · intro W hC hE
    obtain ⟨P, pc, rfl, hz⟩ := hE.1 rfl
    have hz' := Lib.hid hz
    clear hE hz hC
    go_simp
    exact ⟨⟨P, pc, rfl, hz'.out⟩, Below.refl _ _⟩
  simp only [Act.put, List.setIfInBounds_toArray, List.set_cons_zero, List.set_cons_succ, envAdd]
  intro y5
  refine wpAs_fixed rfl rfl rfl ?_ ?_
  · intro W hC hE
    obtain ⟨P, pc, rfl, hz⟩ := hE.2.1 rfl
    clear hE hz hC
    go_simp
    exact ⟨rfl, Below.refl _ _⟩
  simp only [Act.put, List.setIfInBounds_toArray, List.set_cons_zero, List.set_cons_succ]
  refine wpAs_act rfl rfl ?_ ?_
  · intro W hC hE
    have hs := hC.size
    clear hE hC
    go_simp
    exact ⟨⟨W.heap.size, rfl, hs, heap_alloc_new _ _⟩, (Below.refl _ _).alloc (Nat.le_refl _) _⟩
  simp only [Act.put, List.setIfInBounds_toArray, List.set_cons_zero, List.set_cons_succ, envAdd]
  intro y7
  refine wpAs_end fun W hC hE => ?_
  obtain ⟨⟨f, rfl, hg, hz⟩, h7, _⟩ := hE
  obtain ⟨P, pc, rfl, hy⟩ := h7
  obtain ⟨u0, u1, u2, u3, u4, uf, _⟩ := five_cells hz
  obtain ⟨w5, hW5, g5, gr5, gs5⟩ := put_five (u0 := .int .u8 2) (u1 := .int .u32 0) (u2 := .int .u32 1) (u3 := .int .i64 0) (u4 := .slice P 1 pc) hz
  have hy5 := oneN_apart hy hz gr5
  have hb5 := hC.grown gr5 hC.size (fun q e => by cases e; exact hg)
  have K5 := Lib.hid (fun W (hW : Below w5.heap.size w5 W) => And.intro (five_cells ((hW.block f (Array.getElem?_eq_some_iff.1 g5).1).trans g5)) (stab_by.old hy5 hW))
  have C5 := Lib.hid (C4.out.trans (hb5.mono C4.out.size))
  have B5 := Lib.hid (B4.out.trans (hb5.mono B4.out.size))
  replace hz := Lib.hid hz
  clear hC hy gr5 gs5 hy5 hb5 g5 hg K4 C4 B4
  go_upto_region 8 with fail
  clear hW5 u0 u1 u2 u3 u4 uf
  go_wp2_with fail
  with_reducible refine (hG6.out _).mono ?_
  rintro e w6 ⟨ra, rb, rc, rd, rfl, h6, hb6⟩
  obtain ⟨w7, hw7, b7, hs7, hB7⟩ := box_4 w6 (.slice ra.1 ra.2.1 ra.2.2) (.slice rb.1 rb.2.1 rb.2.2) (.slice rc.1 rc.2.1 rc.2.2) (.slice rd.1 rd.2.1 rd.2.2) 29
  have K7 := Lib.hid (fun W (hW : Below w7.heap.size w7 W) => And.intro (four_cells ((hW.block w6.heap.size (by omega)).trans b7)) (h6.below (hB7.trans (hW.mono hB7.size))))
  have C57 := Lib.hid (hb6.trans (hB7.mono hb6.size))
  replace hs7 := Lib.hid hs7
  clear h6 hb6 hB7 b7 hG6
  go_upto_region 9 with fail
  clear hw7
  obtain ⟨⟨k0, k1, k2, k3, _⟩, _⟩ := K7.out w7 (Below.refl _ _)
  go_wp2_with fail
  with_reducible refine (hNt.out _ w7 (K7.out w7 (Below.refl _ _)).2).mono ?_
  rintro e w8 ⟨X, xc, rfl, hX, hb8⟩
  obtain ⟨w9, hw9, b9, hs9, hB9⟩ := box_pair' w8 (.int .i64 1) (.slice X 2 xc) 45
  obtain ⟨ad, E, ce, rfl, _, hF⟩ := its_first hX (s := (keyN 1, 8, [])) rfl
  have K9 := Lib.hid (fun W (hW : Below w9.heap.size w9 W) => And.intro (two_cells ((hW.block w8.heap.size (by omega)).trans b9)) (hF W (hB9.trans (hW.mono hB9.size))).1)
  have C79 := Lib.hid (hb8.trans (hB9.mono hb8.size))
  replace hs9 := Lib.hid hs9
  clear hX hb8 hB9 b9 hF k0 k1 k2 k3
  go_upto_region 10 with fail
  clear hw9
  obtain ⟨⟨k0, k1, _⟩, _⟩ := K9.out w9 (Below.refl _ _)
  go_upto_region 12 with fail
  clear k0 k1
  refine wp_region_late (ops' := ?opsLatec) (by kernel_rfl) [(11, 9)] ?hec (by kernel_rfl) (fun d _ _ _ _ h => by cases d <;> exact h) 11 (fun W => Below w9.heap.size w9 W) (fun i => match i with
      | 6 => some (fun v _ => PhN 0 3 v)
      | 7 => some (fun v _ => PhN 0 3 v)
      | 8 => some (fun v _ => ∃ A c, v = .agg #[.int .i64 0, .slice A 3 c])
      | 10 => some (fun v W => ∃ g, v = .pointer (some ⟨g, 0, none⟩) ∧ w9.heap.size ≤ g ∧ W.heap[g]? = some (.cells #[.int .i64 0, .slice none 0 0] 45 (0, 0)))
      | _ => none) (fun i => match i with
      | 9 => some (.int .i64 0)
      | _ => none) ?h1c ?h2c ?h3c (Below.refl _ _).drew (fun w w' h hb => h.trans (hb.mono h.size)) ?tstc ?_
  case hec =>
    simp [withEdges]
    rfl
  case h1c => decide
  case h2c => kernel_rfl
  case h3c => kernel_rfl
  case tstc =>
    intro j φ x W W' hp hx hb
    match j, hp with
    | 6, hp => cases hp; exact hx
    | 7, hp => cases hp; exact hx
    | 8, hp => cases hp; exact hx
    | 10, hp => cases hp; obtain ⟨g, e, h1, h2⟩ := hx; exact ⟨g, e, h1, (hb.block g (Array.getElem?_eq_some_iff.1 h2).1).trans h2⟩
  simp only [List.take_succ_cons, List.take_zero, List.drop_succ_cons, List.drop_zero]
  repeat (first
    | (refine wpAs_skip rfl ?_; simp only [Act.put, List.setIfInBounds_toArray, List.set_cons_zero, List.set_cons_succ])
    | (refine wpAs_pure (v := ?_) rfl rfl ?_ ?_; rotate_left; (intro W hC hE; clear hE; (obtain ⟨⟨j0, j1, _⟩, z0, z1, z2, z3, z4⟩ := K9.out W hC; obtain ⟨⟨k0, k1, k2, k3, _⟩, _⟩ := K7.out W (C79.out.trans (hC.mono C79.out.size))); clear hC; go_simp; done); simp only [Act.put, List.setIfInBounds_toArray, List.set_cons_zero, List.set_cons_succ])
    | (refine wpAs_pure (v := ?_) rfl rfl ?_ ?_; rotate_left; (intro W hC hE; clear hE; (obtain ⟨⟨j0, j1, _⟩, z0, z1, z2, z3, z4⟩ := K9.out W hC; obtain ⟨⟨k0, k1, k2, k3, _⟩, _⟩ := K7.out W (C79.out.trans (hC.mono C79.out.size))); clear hC; go_simp; with_reducible rfl); simp only [Act.put, List.setIfInBounds_toArray, List.set_cons_zero, List.set_cons_succ]))
  refine wpAs_act rfl rfl ?_ ?_
  · intro W hC hE
    clear hE
    refine does_enter (f := 13) (args := #[.agg #[.slice ra.1 ra.2.1 ra.2.2, .slice rb.1 rb.2.1 rb.2.2, .slice rc.1 rc.2.1 rc.2.2, .slice rd.1 rd.2.1 rd.2.2], .int .i64 8]) ?_ ?_
    · go_simp
    · refine (hNl.out _ W (K7.out W (C79.out.trans (hC.mono C79.out.size))).2).mono ?_
      rintro e W' ⟨v, rfl, hv, hb⟩
      exact ⟨_, rfl, hv, hb⟩
  simp only [Act.put, List.setIfInBounds_toArray, List.set_cons_zero, List.set_cons_succ, envAdd]
  intro z6
  refine wpAs_act rfl rfl ?_ ?_
  · intro W hC hE
    have h7 := hE.1 rfl
    clear hE hC
    go_simp
    exact ⟨h7, Below.refl _ _⟩
  simp only [Act.put, List.setIfInBounds_toArray, List.set_cons_zero, List.set_cons_succ, envAdd]
  intro z7
  refine wpAs_act rfl rfl ?_ ?_
  · intro W hC hE
    obtain ⟨A, c, rfl⟩ := hE.1 rfl
    clear hE hC
    go_simp
    exact ⟨⟨A, c, rfl⟩, Below.refl _ _⟩
  simp only [Act.put, List.setIfInBounds_toArray, List.set_cons_zero, List.set_cons_succ, envAdd]
  intro z8
  refine wpAs_fixed rfl rfl rfl ?_ ?_
  · intro W hC hE
    obtain ⟨A, c, rfl⟩ := hE.2.1 rfl
    clear hE hC
    go_simp
    exact ⟨rfl, Below.refl _ _⟩
  simp only [Act.put, List.setIfInBounds_toArray, List.set_cons_zero, List.set_cons_succ]
  refine wpAs_act rfl rfl ?_ ?_
  · intro W hC hE
    have hs := hC.size
    clear hE hC
    go_simp
    exact ⟨⟨W.heap.size, rfl, hs, heap_alloc_new _ _⟩, (Below.refl _ _).alloc (Nat.le_refl _) _⟩
  simp only [Act.put, List.setIfInBounds_toArray, List.set_cons_zero, List.set_cons_succ, envAdd]
  intro z10
  refine wpAs_end fun W hC hE => ?_
  obtain ⟨⟨m, rfl, hm, hz9⟩, ⟨M, mc, rfl⟩, _⟩ := hE
  obtain ⟨u0, u1, uf, _⟩ := two_cells hz9
  obtain ⟨w10, hW10, g10, gr10, gs10⟩ := put_two (u := .int .i64 0) (v := .slice M 3 mc) hz9
  have hb10 := hC.grown gr10 hC.size (fun q e => by cases e; exact hm)
  have K10 := Lib.hid (fun W (hW : Below w10.heap.size w10 W) => two_cells ((hW.block m (Array.getElem?_eq_some_iff.1 g10).1).trans g10))
  have C510 := Lib.hid ((C57.out.trans (C79.out.mono C57.out.size)).trans (hb10.mono (C57.out.trans (C79.out.mono C57.out.size)).size))
  replace hz9 := Lib.hid hz9
  clear hC gr10 gs10 hb10 g10 hm K9
  go_upto_region 13 with fail
  clear hW10 u0 u1 uf
  have C2a := Lib.hid (C5.out.trans (C510.out.mono C5.out.size))
  obtain ⟨⟨k0, k1, k2, k3, _⟩, _⟩ := K1.out w10 C2a.out
  go_wp2_with fail
  with_reducible refine (hPf.out (A, na, ca) (B, nb, cb) (N, 256, cn) (L, nl, cl) w10 (K1.out w10 C2a.out).2).mono ?_
  rintro e w11 ⟨v, rfl, ⟨sa, sb, sc, sd, rfl⟩, hb11⟩
  obtain ⟨w12, hw12, -, hs12, hB12⟩ := box_4 w11 (.slice sa.1 sa.2.1 sa.2.2) (.slice sb.1 sb.2.1 sb.2.2) (.slice sc.1 sc.2.1 sc.2.2) (.slice sd.1 sd.2.1 sd.2.2) 29
  have C12 := Lib.hid (hb11.trans (hB12.mono hb11.size))
  clear hb11 hB12 k0 k1 k2 k3 hs12
  go_upto_region 14 with fail
  clear hw12
  have C2b := Lib.hid (C2a.out.trans (C12.out.mono C2a.out.size))
  obtain ⟨⟨k0, k1, k2, k3, _⟩, _⟩ := K1.out w12 C2b.out
  go_wp2_with fail
  with_reducible refine (hPn.out (A, na, ca) (B, nb, cb) (N, 256, cn) (L, nl, cl) w12 (K1.out w12 C2b.out).2).mono ?_
  rintro e w13 ⟨v, rfl, ⟨ta, tb, tc, td, rfl⟩, hb13⟩
  obtain ⟨w14, hw14, -, hs14, hB14⟩ := box_4 w13 (.slice ta.1 ta.2.1 ta.2.2) (.slice tb.1 tb.2.1 tb.2.2) (.slice tc.1 tc.2.1 tc.2.2) (.slice td.1 td.2.1 td.2.2) 29
  have C14 := Lib.hid (C12.out.trans ((hb13.trans (hB14.mono hb13.size)).mono C12.out.size))
  clear hb13 hB14 k0 k1 k2 k3 hs14
  go_upto_region 15 with fail
  clear hw14
  have C2c := Lib.hid (C2a.out.trans (C14.out.mono C2a.out.size))
  obtain ⟨⟨k0, k1, k2, k3, _⟩, hSf⟩ := K1.out w14 C2c.out
  obtain ⟨⟨n0, n1, n2, n3, n4, _⟩, hyf⟩ := K5.out w14 (C510.out.trans (C14.out.mono C510.out.size))
  obtain ⟨m0, m1, _⟩ := K10.out w14 C14.out
  have hcv := rBy_str0 hyf
  have hbyte : Hid (∃ nd, N = some nd ∧ w14.cell? (nd.add 8) = some (.int .u8 0)) := Lib.hid (by
    obtain ⟨_, hN, _⟩ := hSf.parts
    obtain ⟨A', cap', e, _, _, hb⟩ := rBy_byt (B := w14.heap.size) (fun p hp => hp) hN
    simp only [Value.slice.injEq] at e
    obtain ⟨rfl, e2, rfl⟩ := e
    obtain ⟨nd, e1, _, hc⟩ := hb.at_ (by omega)
    refine ⟨nd, e1, ?_⟩
    have h8 : S.2.1[8]? = some 0 := by
      have := g3.out
      obtain ⟨y, hy⟩ : ∃ y, S.2.1[8]? = some y := ⟨_, List.getElem?_eq_getElem (by omega)⟩
      rw [hy] at this ⊢
      simpa using this
    exact hc 8 0 h8)
  obtain ⟨nd, rfl, hb8⟩ := hbyte.out
  have hb8' : w14.cell? ⟨nd.block, nd.off + 8, none⟩ = some (.int .u8 0) := hb8
  have BF := Lib.hid (B2.out.trans (C2c.out.mono B2.out.size))
  clear hSf hyf
  go_wp2_with fail
  go_ret
  exact ⟨rfl, BF.out⟩

/-! ### The row's step -/
set_option maxRecDepth 100000 in
theorem lifted (os : Os) (started : os.Started) (H : Type) (enc : TypeId × Value → H) :
    ReturnsInHanded {} Tryz.checked os 3 .any (Rows.putNamesSpec.pre6 enc Tryz.prog Tryz.f3 Rows.putNamesRow.domain false) (Rows.putNamesSpec.post enc Tryz.prog Tryz.f3 false true false false) := by
  refine returnsInHanded_of_change (C := Tryz.checked) own started (by kernel_rfl) Tryz.func3
    (ChangeSpec.witness6 (enc := enc) (C := Tryz.checked) false ⟨#[], #[], []⟩ 8 (by kernel_rfl) (by kernel_rfl) (by kernel_rfl) (by kernel_rfl)) ?_
  intro W base args ds gs before hval0 hW _ _
  have hval : ∀ (j : Nat) t v, Tryz.f3.params[j]? = some t → args[j]? = some v → Value.okWide Tryz.prog W .any base t v := hval0
  have hW' := hW
  obtain ⟨p, q, hA0, hV, _, _, _⟩ := hW
  have hA : DataW.TrodAll enc Tryz.prog W 0 (fun _ => true) true Tryz.f3.params.toList args.toList ds p := hA0
  rw [Tryz.params3] at hA hval
  obtain ⟨hargs, rfl, _⟩ := trodAll_nil hA
  obtain rfl : args = #[] := by cases args; simp_all
  obtain ⟨rfl, _⟩ := trodVars_none hV
  clear hA0 hval0
  refine (walk  W ).mono fun e W' ⟨he, hb⟩ => ?_
  subst he
  exact ⟨_, rfl, law_post laidOut (by rw [Tryz.params3]; decide +kernel) (by kernel_rfl) Tryz.underlying4 rfl ⟨rfl, by simp [Rows.putNamesSpec], rfl⟩ hW' hb⟩

theorem over : Rows.putNamesRow.holds Tryz.pinned (OpenSpec.ofChange Rows.putNamesSpec) :=
  OpenClaim.holds_of_wide 3 Tryz.f3 rfl rfl rfl rfl rfl rfl rfl ⟨rfl, rfl, rfl, rfl, rfl⟩ rfl rfl rfl rfl rfl (by kernel_rfl) Tryz.func3 (by kernel_rfl)
    (of_decide_eq_true (by kernel_rfl)) (by unfold Func.isWrapper; first | (rw [if_pos (by decide +kernel)]; kernel_rfl) | (rw [if_neg (by decide +kernel)]; exact ⟨rfl, rfl⟩))
    (fun os started H enc _ => lifted os started H enc)

end Go.Proofs.YtogieepfimpdmaaGreat.putNames
namespace Go.Proofs.YtogieepfimpdmaaGreat
theorem putNames_proved : Rows.PutNamesSaid := putNames.over
end Go.Proofs.YtogieepfimpdmaaGreat
