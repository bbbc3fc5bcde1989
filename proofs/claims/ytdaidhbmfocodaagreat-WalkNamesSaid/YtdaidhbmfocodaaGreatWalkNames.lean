/-
  WalkNames answers true. No condition.
-/
import Derived.Test.YtdaidhbmfocodaaGreatBnd4
namespace Go.Proofs.YtdaidhbmfocodaaGreat.walkNames
open Go.ChangeShapes Go.WideShapes Go.RowKit

theorem own : ownKnob Tryz.prog.godebug = none := by kernel_rfl
theorem laidOut : laidOutB Tryz.prog = true := by kernel_rfl

theorem walkNodes_lit (v : Value) (s : Rm) (a : Int) (M R : List Int) (hE : ckE s a = 0) (hM : ndsV s a = M) (hR : rfsV s a = R) (w : World) (h : Sto (Old w) w v s) :
    Calls Tryz.prog 11 #[v, .int .i64 a] w fun e w' => ∃ u c v d, e = .returned (.tuple #[.slice u M.length c, .slice v R.length d, .int .i64 0]) ∧ rSl 1 (rK .i64) (Old w') w' [.slice u M.length c] M ∧ Below w.heap.size w w' := by
  refine (walkNodes_any v s a w h).mono ?_
  rintro e w' ⟨u, c, v, d, rfl, hr, _, hb⟩
  rw [hM] at hr ⊢
  rw [hE, hR]
  exact ⟨u, c, v, d, rfl, (stab_sl (stab_k _)).drop hr, hb⟩
theorem walkRange_no (v : Value) (s : Rm) (a : Int) (hE : ckE s a = 6) (hM : raV s a keyZ keyZ = []) (w : World) (h : Sto (Old w) w v s) :
    Calls Tryz.prog 9 #[v, .int .i64 a, .agg #[.int .u8 0, .int .u32 0, .int .u32 0], .agg #[.int .u8 0, .int .u32 0, .int .u32 0]] w fun e w' => ∃ u c, e = .returned (.tuple #[.slice u 0 c, .int .i64 6]) ∧ Below w.heap.size w w' := by
  refine (walkRange_any v s a keyZ keyZ w h).mono ?_
  rintro e w' ⟨u, c, rfl, _, hb⟩
  rw [hM, hE]
  exact ⟨u, c, rfl, hb⟩
set_option maxRecDepth 100000 in
set_option maxHeartbeats 8000000 in
theorem walk (w : World) :
    Calls Tryz.prog 3 #[] w fun e w' => e = .returned (.bool true) ∧ Below w.heap.size w w' := by
  obtain ⟨⟨hE, hE6⟩, _, hM1, hM2, hM3, hN, hR⟩ := walk_tells
  have hMd := Lib.hid (fun W => madeW_any W)
  have hRg4 := Lib.hid (fun v W hW => walkRange_lit v (tk2 2) 9 2 4 [it2, it4K] hE hM1 W hW)
  have hRg5 := Lib.hid (fun v W hW => walkRange_lit v (tk2 2) 9 4 2 [] hE hM2 W hW)
  have hNd := Lib.hid (fun v W hW => walkNodes_lit v (tk2 2) 9 [8, 9] [] hE (by rw [ndsV, if_pos hE, markI, hN]; rfl) (by rw [rfsV, if_pos hE, markI, hR]; rfl) W hW)
  have hRg7 := Lib.hid (fun v W hW => walkRange_no v (tk2 2) 10 hE6 hM3 W hW)
  obtain ⟨T, hT⟩ : ∃ T, tk2 2 = T := ⟨_, rfl⟩
  rw [hT] at hMd hRg4 hRg5 hNd hRg7
  replace hT := Lib.hid hT
  clear hE hE6 hM1 hM2 hM3 hN hR
  go_enter Tryz.func3, Tryz.ntmps3
  go_wp2_with fail
  with_reducible refine (alive11 _).mono ?_
  rintro e w0 ⟨rfl, hb0⟩
  have B0 := Lib.hid hb0
  clear hb0
  go_wp2_with fail
  with_reducible refine (hMd.out _).mono ?_
  rintro e w1 ⟨A, ca, B, cb, N, cn, L, cl, rfl, h1, hb1⟩
  obtain ⟨w2, hw2, hg2, hB2, -, hs2⟩ := bag_four ((Bag.nil w1).add (F := OldR _ T) h1 (lasts_oldR _ _)) (Below.refl _ _) (.slice A T.1.1.length ca) (.slice B T.1.2.length cb) (.slice N T.2.1.length cn) (.slice L T.2.2.length cl) 29
  have H2 := Lib.hid hg2
  have B2 := Lib.hid (B0.out.trans ((hb1.trans (hB2.mono hb1.size)).mono B0.out.size))
  replace hs2 := Lib.hid hs2
  clear hg2 hB2 hb1 h1 hMd B0
  go_upto_region 4 with fail
  clear hw2
  refine wp_region_late (ops' := ?opsLate) (by kernel_rfl) [(7, 6)] ?he (by kernel_rfl) (fun d _ _ _ _ h => by cases d <;> exact h) 7 (fun W => Below w2.heap.size w2 W) (fun i => match i with
      | 3 => some (fun v W => ∃ u c, v = .tuple #[.slice u 2 c, .int .i64 0])
      | 4 => some (fun v W => ∃ u c, v = .tuple #[.slice u 2 c, .int .i64 0])
      | 5 => some (fun v W => ∃ u c, v = .slice u 2 c)
      | _ => none) (fun i => match i with
      | 1 => some (.agg #[.int .u8 2, .int .u32 0, .int .u32 2])
      | 2 => some (.agg #[.int .u8 2, .int .u32 0, .int .u32 4])
      | 6 => some (.int .i64 0)
      | _ => none) ?h1 ?h2 ?h3 (Below.refl _ _).drew (fun w w' h hb => h.trans (hb.mono h.size)) ?tst ?_
  case he =>
    simp [withEdges]
    rfl
  case h1 => decide
  case h2 => kernel_rfl
  case h3 => kernel_rfl
  case tst =>
    intro j φ x W W' hp hx hb
    match j, hp with
    | 3, hp => cases hp; exact hx
    | 4, hp => cases hp; exact hx
    | 5, hp => cases hp; exact hx
  simp only [List.take_succ_cons, List.take_zero, List.drop_succ_cons, List.drop_zero]
  repeat (first
    | (refine wpAs_skip rfl ?_; simp only [Act.put, List.setIfInBounds_toArray, List.set_cons_zero, List.set_cons_succ])
    | (refine wpAs_pure (v := ?_) rfl rfl ?_ ?_; rotate_left; (intro W hC hE; clear hE; (obtain ⟨k0, k1, k2, k3, _⟩ := (H2.out.below hC).at 0 rfl); clear hC; go_simp; done); simp only [Act.put, List.setIfInBounds_toArray, List.set_cons_zero, List.set_cons_succ])
    | (refine wpAs_pure (v := ?_) rfl rfl ?_ ?_; rotate_left; (intro W hC hE; clear hE; (obtain ⟨k0, k1, k2, k3, _⟩ := (H2.out.below hC).at 0 rfl); clear hC; go_simp; with_reducible rfl); simp only [Act.put, List.setIfInBounds_toArray, List.set_cons_zero, List.set_cons_succ]))
  refine wpAs_fixed rfl rfl rfl ?_ ?_
  · intro W hC hE
    refine does_enter (f := 10) (args := #[.int .u32 2]) ?_ ?_
    · go_simp
    · refine (keyW_any 2 W).mono ?_
      (rintro e W' ⟨rfl, hg⟩)
      exact ⟨_, rfl, rfl, hg⟩
  simp only [Act.put, List.setIfInBounds_toArray, List.set_cons_zero, List.set_cons_succ]
  refine wpAs_fixed rfl rfl rfl ?_ ?_
  · intro W hC hE
    refine does_enter (f := 10) (args := #[.int .u32 4]) ?_ ?_
    · go_simp
    · refine (keyW_any 4 W).mono ?_
      (rintro e W' ⟨rfl, hg⟩)
      exact ⟨_, rfl, rfl, hg⟩
  simp only [Act.put, List.setIfInBounds_toArray, List.set_cons_zero, List.set_cons_succ]
  refine wpAs_act rfl rfl ?_ ?_
  · intro W hC hE
    clear hE
    refine does_enter (f := 9) (args := #[.agg #[.slice A T.1.1.length ca, .slice B T.1.2.length cb, .slice N T.2.1.length cn, .slice L T.2.2.length cl], .int .i64 9, .agg #[.int .u8 2, .int .u32 0, .int .u32 2], .agg #[.int .u8 2, .int .u32 0, .int .u32 4]]) ?_ ?_
    · go_simp
    · refine (hRg4.out _ W ((H2.out.below hC).at 1 rfl)).mono ?_
      rintro e W' ⟨u, c, rfl, _, hb⟩
      exact ⟨_, rfl, ⟨u, c, rfl⟩, hb⟩
  simp only [Act.put, List.setIfInBounds_toArray, List.set_cons_zero, List.set_cons_succ, envAdd]
  intro x2
  refine wpAs_act rfl rfl ?_ ?_
  · intro W hC hE
    have h7 := hE.1 rfl
    clear hE hC
    go_simp
    exact ⟨h7, Below.refl _ _⟩
  simp only [Act.put, List.setIfInBounds_toArray, List.set_cons_zero, List.set_cons_succ, envAdd]
  intro x3
  refine wpAs_act rfl rfl ?_ ?_
  · intro W hC hE
    obtain ⟨u, c, rfl⟩ := hE.1 rfl
    clear hE hC
    go_simp
    exact ⟨⟨u, c, rfl⟩, Below.refl _ _⟩
  simp only [Act.put, List.setIfInBounds_toArray, List.set_cons_zero, List.set_cons_succ, envAdd]
  intro x4
  refine wpAs_fixed rfl rfl rfl ?_ ?_
  · intro W hC hE
    obtain ⟨u, c, rfl⟩ := hE.2.1 rfl
    clear hE hC
    go_simp
    exact ⟨rfl, Below.refl _ _⟩
  simp only [Act.put, List.setIfInBounds_toArray, List.set_cons_zero, List.set_cons_succ]
  refine wpAs_end fun W hC hE => ?_
  obtain ⟨⟨u4, c4, rfl⟩, _⟩ := hE
  have H5 := Lib.hid (H2.out.below hC)
  have B5 := Lib.hid (B2.out.trans (hC.mono B2.out.size))
  clear hC H2 B2
  go_upto_region 5 with fail
  obtain ⟨w5, rfl⟩ : ∃ w5 : World, w5 = W := ⟨_, rfl⟩
  refine wp_region_late (ops' := ?opsLateb) (by kernel_rfl) [(7, 6)] ?heb (by kernel_rfl) (fun d _ _ _ _ h => by cases d <;> exact h) 7 (fun W => Below w5.heap.size w5 W) (fun i => match i with
      | 3 => some (fun v W => ∃ u c, v = .tuple #[.slice u 0 c, .int .i64 0])
      | 4 => some (fun v W => ∃ u c, v = .tuple #[.slice u 0 c, .int .i64 0])
      | 5 => some (fun v W => ∃ u c, v = .slice u 0 c)
      | _ => none) (fun i => match i with
      | 1 => some (.agg #[.int .u8 2, .int .u32 0, .int .u32 4])
      | 2 => some (.agg #[.int .u8 2, .int .u32 0, .int .u32 2])
      | 6 => some (.int .i64 0)
      | _ => none) ?h1b ?h2b ?h3b (Below.refl _ _).drew (fun w w' h hb => h.trans (hb.mono h.size)) ?tstb ?_
  case heb =>
    simp [withEdges]
    rfl
  case h1b => decide
  case h2b => kernel_rfl
  case h3b => kernel_rfl
  case tstb =>
    intro j φ x W W' hp hx hb
    match j, hp with
    | 3, hp => cases hp; exact hx
    | 4, hp => cases hp; exact hx
    | 5, hp => cases hp; exact hx
  simp only [List.take_succ_cons, List.take_zero, List.drop_succ_cons, List.drop_zero]
  repeat (first
    | (refine wpAs_skip rfl ?_; simp only [Act.put, List.setIfInBounds_toArray, List.set_cons_zero, List.set_cons_succ])
    | (refine wpAs_pure (v := ?_) rfl rfl ?_ ?_; rotate_left; (intro W hC hE; clear hE; (obtain ⟨k0, k1, k2, k3, _⟩ := (H5.out.below hC).at 0 rfl); clear hC; go_simp; done); simp only [Act.put, List.setIfInBounds_toArray, List.set_cons_zero, List.set_cons_succ])
    | (refine wpAs_pure (v := ?_) rfl rfl ?_ ?_; rotate_left; (intro W hC hE; clear hE; (obtain ⟨k0, k1, k2, k3, _⟩ := (H5.out.below hC).at 0 rfl); clear hC; go_simp; with_reducible rfl); simp only [Act.put, List.setIfInBounds_toArray, List.set_cons_zero, List.set_cons_succ]))
  refine wpAs_fixed rfl rfl rfl ?_ ?_
  · intro W hC hE
    refine does_enter (f := 10) (args := #[.int .u32 4]) ?_ ?_
    · go_simp
    · refine (keyW_any 4 W).mono ?_
      (rintro e W' ⟨rfl, hg⟩)
      exact ⟨_, rfl, rfl, hg⟩
  simp only [Act.put, List.setIfInBounds_toArray, List.set_cons_zero, List.set_cons_succ]
  refine wpAs_fixed rfl rfl rfl ?_ ?_
  · intro W hC hE
    refine does_enter (f := 10) (args := #[.int .u32 2]) ?_ ?_
    · go_simp
    · refine (keyW_any 2 W).mono ?_
      (rintro e W' ⟨rfl, hg⟩)
      exact ⟨_, rfl, rfl, hg⟩
  simp only [Act.put, List.setIfInBounds_toArray, List.set_cons_zero, List.set_cons_succ]
  refine wpAs_act rfl rfl ?_ ?_
  · intro W hC hE
    clear hE
    refine does_enter (f := 9) (args := #[.agg #[.slice A T.1.1.length ca, .slice B T.1.2.length cb, .slice N T.2.1.length cn, .slice L T.2.2.length cl], .int .i64 9, .agg #[.int .u8 2, .int .u32 0, .int .u32 4], .agg #[.int .u8 2, .int .u32 0, .int .u32 2]]) ?_ ?_
    · go_simp
    · refine (hRg5.out _ W ((H5.out.below hC).at 1 rfl)).mono ?_
      rintro e W' ⟨u, c, rfl, _, hb⟩
      exact ⟨_, rfl, ⟨u, c, rfl⟩, hb⟩
  simp only [Act.put, List.setIfInBounds_toArray, List.set_cons_zero, List.set_cons_succ, envAdd]
  intro x2
  refine wpAs_act rfl rfl ?_ ?_
  · intro W hC hE
    have h7 := hE.1 rfl
    clear hE hC
    go_simp
    exact ⟨h7, Below.refl _ _⟩
  simp only [Act.put, List.setIfInBounds_toArray, List.set_cons_zero, List.set_cons_succ, envAdd]
  intro x3
  refine wpAs_act rfl rfl ?_ ?_
  · intro W hC hE
    obtain ⟨u, c, rfl⟩ := hE.1 rfl
    clear hE hC
    go_simp
    exact ⟨⟨u, c, rfl⟩, Below.refl _ _⟩
  simp only [Act.put, List.setIfInBounds_toArray, List.set_cons_zero, List.set_cons_succ, envAdd]
  intro x4
  refine wpAs_fixed rfl rfl rfl ?_ ?_
  · intro W hC hE
    obtain ⟨u, c, rfl⟩ := hE.2.1 rfl
    clear hE hC
    go_simp
    exact ⟨rfl, Below.refl _ _⟩
  simp only [Act.put, List.setIfInBounds_toArray, List.set_cons_zero, List.set_cons_succ]
  refine wpAs_end fun W hC hE => ?_
  obtain ⟨⟨u5, c5, rfl⟩, _⟩ := hE
  have H6 := Lib.hid (H5.out.below hC)
  have B6 := Lib.hid (B5.out.trans (hC.mono B5.out.size))
  clear hC H5 B5
  obtain ⟨w6, rfl⟩ : ∃ w6 : World, w6 = W := ⟨_, rfl⟩
  obtain ⟨k0, k1, k2, k3, _⟩ := H6.out.at 0 rfl
  go_upto_region 6 with fail
  go_wp2_with fail
  with_reducible refine (hNd.out _ _ (H6.out.at 1 rfl)).mono ?_
  rintro e w7 ⟨U, uc, X, xc, rfl, hr, hb⟩
  have H7 := Lib.hid (H6.out.below hb)
  have B7 := Lib.hid (B6.out.trans (hb.mono B6.out.size))
  replace hr := Lib.hid hr
  clear hb H6 B6 k0 k1 k2 k3 hNd
  obtain ⟨k0, k1, k2, k3, _⟩ := H7.out.at 0 rfl
  go_wp2_with fail
  with_reducible refine (hRg7.out _ _ (H7.out.at 1 rfl)).mono ?_
  rintro e w8 ⟨Y, yc, rfl, hb⟩
  have B8 := Lib.hid (B7.out.trans (hb.mono B7.out.size))
  have hr8 := (stab_sl (stab_k .i64)).old hr.out hb
  obtain ⟨_, _, e, _, _, h4⟩ := hr8
  cases e
  obtain ⟨ad, vs, rfl, e5, q0, r0⟩ := h4 0 8 rfl
  obtain ⟨ad', vs', e1, e6, q1, r1⟩ := h4 1 9 rfl
  cases e1
  obtain ⟨rfl, _, _⟩ := r0
  obtain ⟨rfl, _, _⟩ := r1
  have z0 := (q0 0 _ rfl).2
  have z1 := (q1 0 _ rfl).2
  have z0' : w8.cell? ad = some (.int .i64 8) := by simpa [Addr.add] using z0
  have z1' : w8.cell? ⟨ad.block, ad.off + 1, none⟩ = some (.int .i64 9) := by simpa [Addr.add] using z1
  clear z0 z1 hb H7 B7 k0 k1 k2 k3 hRg7 h4 q0 q1 e5 e6 hr
  go_wp2_with fail
  go_ret
  exact ⟨rfl, B8.out⟩

/-! ### The row's step -/
set_option maxRecDepth 100000 in
theorem lifted (os : Os) (started : os.Started) (H : Type) (enc : TypeId × Value → H) :
    ReturnsInHanded {} Tryz.checked os 3 .any (Rows.walkNamesSpec.pre6 enc Tryz.prog Tryz.f3 Rows.walkNamesRow.domain false) (Rows.walkNamesSpec.post enc Tryz.prog Tryz.f3 false true false false) := by
  refine returnsInHanded_of_change (C := Tryz.checked) own started (by kernel_rfl) Tryz.func3
    (ChangeSpec.witness6 (enc := enc) (C := Tryz.checked) false ⟨#[], #[], []⟩ 8 (by kernel_rfl) (by kernel_rfl) (by kernel_rfl) (by kernel_rfl)) ?_
  intro W base args ds gs before hval0 hW _ _
  have hval : ∀ (j : Nat) t v, Tryz.f3.params[j]? = some t → args[j]? = some v → Value.okWide Tryz.prog W .any base t v := hval0
  have hW' := hW
  obtain ⟨p, q, hA0, hV, _, _, _⟩ := hW
  have hA : DataW.TrodAll enc Tryz.prog W 0 (fun _ => true) true Tryz.f3.params.toList args.toList ds p := hA0
  rw [Tryz.params3] at hA hval
  obtain ⟨hargs, rfl, _⟩ := trodAll_nil hA
  obtain rfl : args = #[] := by cases args; simp_all
  obtain ⟨rfl, _⟩ := trodVars_none hV
  clear hA0 hval0
  refine (walk  W ).mono fun e W' ⟨he, hb⟩ => ?_
  subst he
  exact ⟨_, rfl, law_post laidOut (by rw [Tryz.params3]; decide +kernel) (by kernel_rfl) Tryz.underlying4 rfl ⟨rfl, by simp [Rows.walkNamesSpec], rfl⟩ hW' hb⟩

theorem over : Rows.walkNamesRow.holds Tryz.pinned (OpenSpec.ofChange Rows.walkNamesSpec) :=
  OpenClaim.holds_of_wide 3 Tryz.f3 rfl rfl rfl rfl rfl rfl rfl ⟨rfl, rfl, rfl, rfl, rfl⟩ rfl rfl rfl rfl rfl (by kernel_rfl) Tryz.func3 (by kernel_rfl)
    (of_decide_eq_true (by kernel_rfl)) (by unfold Func.isWrapper; first | (rw [if_pos (by decide +kernel)]; kernel_rfl) | (rw [if_neg (by decide +kernel)]; exact ⟨rfl, rfl⟩))
    (fun os started H enc _ => lifted os started H enc)

end Go.Proofs.YtdaidhbmfocodaaGreat.walkNames
namespace Go.Proofs.YtdaidhbmfocodaaGreat
theorem walkNames_proved : Rows.WalkNamesSaid := walkNames.over
end Go.Proofs.YtdaidhbmfocodaaGreat
