/-
  FindNames answers true. No condition.
-/
import Derived.Test.YtncnoingbaeomaaBnd4
namespace Go.Proofs.Ytncnoingbaeomaa.findNames
open Go.ChangeShapes Go.WideShapes Go.RowKit

theorem own : ownKnob Try.prog.godebug = none := by kernel_rfl
theorem laidOut : laidOutB Try.prog = true := by kernel_rfl

set_option maxRecDepth 100000 in
set_option maxHeartbeats 8000000 in
theorem walk (w : World) : Calls Try.prog 3 #[] w fun e w' => e = .returned (.bool true) ∧ Below w.heap.size w w' := by
  obtain ⟨c1, c2, c3, c4, c5, _, ⟨hE, hV⟩⟩ := tree_tells
  have hMd := Lib.hid (fun W => made_any 2 (by decide) W)
  have hMd1 := Lib.hid (fun W => made_any 1 (by decide) W)
  have hFd := Lib.hid (fun v W hW => findFind_lit v (tr2 2) 9 3 W hW)
  rw [hE, hV] at hFd
  have hC9 := Lib.hid (fun v W hW => findCheck_lit v (tr2 2) 9 W hW _ _ c1)
  have hC8 := Lib.hid (fun v W hW => findCheck_lit v (tr2 2) 8 W hW _ _ c2)
  have hC10 := Lib.hid (fun v W hW => findCheck_lit v (tr2 2) 10 W hW _ _ c3)
  have hC7 := Lib.hid (fun v W hW => findCheck_lit v (tr2 2) 7 W hW _ _ c4)
  have hC1 := Lib.hid (fun v W hW => findCheck_lit v (tr2 1) 9 W hW _ _ c5)
  obtain ⟨T, hT⟩ : ∃ T, tr2 2 = T := ⟨_, rfl⟩
  obtain ⟨S, hS⟩ : ∃ S, tr2 1 = S := ⟨_, rfl⟩
  rw [hT] at hMd hFd hC9 hC8 hC10 hC7
  rw [hS] at hMd1 hC1
  replace hT := Lib.hid hT
  replace hS := Lib.hid hS
  clear hE hV c1 c2 c3 c4 c5
  go_enter Try.func3, Try.ntmps3
  go_wp2_with fail
  with_reducible refine (alive10 _).mono ?_
  rintro e w0 ⟨rfl, hb0⟩
  have B0 := Lib.hid hb0
  clear hb0
  go_wp2_with fail
  with_reducible refine (hMd.out _).mono ?_
  rintro e w1 ⟨A, ca, B, cb, N, cn, L, cl, rfl, h1, hb1⟩
  obtain ⟨w2, hw2, hg2, hB2, -, hs2⟩ := bag_four ((Bag.nil w1).add (F := OldR _ T) h1 (lasts_oldR _ _)) (Below.refl _ _) (.slice A T.1.1.length ca) (.slice B T.1.2.length cb) (.slice N T.2.1.length cn) (.slice L T.2.2.length cl) 29
  have H2 := Lib.hid hg2
  have B2 := Lib.hid (B0.out.trans ((hb1.trans (hB2.mono hb1.size)).mono B0.out.size))
  replace hs2 := Lib.hid hs2
  clear hg2 hB2 hb1 h1 hMd B0
  go_upto_region 4 with fail
  clear hw2
  obtain ⟨k0, k1, k2, k3, _⟩ := H2.out.at 0 rfl
  go_wp2_with fail
  with_reducible refine (hC9.out _ _ (H2.out.at 1 rfl)).mono ?_
  rintro e w3 ⟨rfl, hb3⟩
  have H3 := Lib.hid (H2.out.below hb3)
  have B3 := Lib.hid (B2.out.trans (hb3.mono B2.out.size))
  clear hb3 k0 k1 k2 k3 H2 B2
  obtain ⟨k0, k1, k2, k3, _⟩ := H3.out.at 0 rfl
  go_wp2_with fail
  with_reducible refine (hC8.out _ _ (H3.out.at 1 rfl)).mono ?_
  rintro e w4 ⟨rfl, hb4⟩
  have H4 := Lib.hid (H3.out.below hb4)
  have B4 := Lib.hid (B3.out.trans (hb4.mono B3.out.size))
  clear hb4 k0 k1 k2 k3 H3 B3
  obtain ⟨k0, k1, k2, k3, _⟩ := H4.out.at 0 rfl
  go_wp2_with fail
  with_reducible refine (hC10.out _ _ (H4.out.at 1 rfl)).mono ?_
  rintro e w5 ⟨rfl, hb5⟩
  have H5 := Lib.hid (H4.out.below hb5)
  have B5 := Lib.hid (B4.out.trans (hb5.mono B4.out.size))
  clear hb5 k0 k1 k2 k3 H4 B4
  obtain ⟨k0, k1, k2, k3, _⟩ := H5.out.at 0 rfl
  go_wp2_with fail
  with_reducible refine (hC7.out _ _ (H5.out.at 1 rfl)).mono ?_
  rintro e w6 ⟨rfl, hb6⟩
  have H6 := Lib.hid (H5.out.below hb6)
  have B6 := Lib.hid (B5.out.trans (hb6.mono B5.out.size))
  clear hb6 k0 k1 k2 k3 H5 B5
  go_upto_region 8 with fail
  refine wp_region_late (ops' := ?opsLate) (by kernel_rfl) [(7, 5)] ?he (by kernel_rfl) (fun d _ _ _ _ h => by cases d <;> exact h) 7 (fun W => Below w6.heap.size w6 W) (fun i => match i with
      | 2 => some (fun v W => ∃ E ce, v = .tuple #[.agg #[.int .u8 0, .int .u32 0, .int .u32 0, .int .i64 0, .slice E 0 ce], .int .i64 6])
      | 3 => some (fun v W => ∃ E ce, v = .tuple #[.agg #[.int .u8 0, .int .u32 0, .int .u32 0, .int .i64 0, .slice E 0 ce], .int .i64 6])
      | 4 => some (fun v W => ∃ E ce, v = .agg #[.int .u8 0, .int .u32 0, .int .u32 0, .int .i64 0, .slice E 0 ce])
      | 6 => some (fun v W => ∃ g, v = .pointer (some ⟨g, 0, none⟩) ∧ w6.heap.size ≤ g ∧ W.heap[g]? = some (.cells #[.int .u8 0, .int .u32 0, .int .u32 0, .int .i64 0, .slice none 0 0] 39 (0, 0)))
      | _ => none) (fun i => match i with
      | 1 => some (.agg #[.int .u8 2, .int .u32 0, .int .u32 3])
      | 5 => some (.int .i64 6)
      | _ => none) ?h1 ?h2 ?h3 (Below.refl _ _).drew (fun w w' h hb => h.trans (hb.mono h.size)) ?tst ?_
  case he =>
    simp [withEdges]
    rfl
  case h1 => decide
  case h2 => kernel_rfl
  case h3 => kernel_rfl
  case tst =>
    intro j φ x W W' hp hx hb
    match j, hp with
    | 2, hp => cases hp; exact hx
    | 3, hp => cases hp; exact hx
    | 4, hp => cases hp; exact hx
    | 6, hp => cases hp; obtain ⟨g, e, h1, h2⟩ := hx; exact ⟨g, e, h1, (hb.block g (Array.getElem?_eq_some_iff.1 h2).1).trans h2⟩
  simp only [List.take_succ_cons, List.take_zero, List.drop_succ_cons, List.drop_zero]
  repeat (first
    | (refine wpAs_skip rfl ?_; simp only [Act.put, List.setIfInBounds_toArray, List.set_cons_zero, List.set_cons_succ])
    | (refine wpAs_pure (v := ?_) rfl rfl ?_ ?_; rotate_left; (intro W hC hE; clear hE; (obtain ⟨k0, k1, k2, k3, _⟩ := (H6.out.below hC).at 0 rfl); clear hC; go_simp; done); simp only [Act.put, List.setIfInBounds_toArray, List.set_cons_zero, List.set_cons_succ])
    | (refine wpAs_pure (v := ?_) rfl rfl ?_ ?_; rotate_left; (intro W hC hE; clear hE; (obtain ⟨k0, k1, k2, k3, _⟩ := (H6.out.below hC).at 0 rfl); clear hC; go_simp; with_reducible rfl); simp only [Act.put, List.setIfInBounds_toArray, List.set_cons_zero, List.set_cons_succ]))
  refine wpAs_fixed rfl rfl rfl ?_ ?_
  · intro W hC hE
    refine does_enter (f := 12) (args := #[.int .u32 3]) ?_ ?_
    · go_simp
    · refine (keyF_any 3 W).mono ?_
      (rintro e W' ⟨rfl, hg⟩)
      exact ⟨_, rfl, rfl, hg⟩
  simp only [Act.put, List.setIfInBounds_toArray, List.set_cons_zero, List.set_cons_succ]
  refine wpAs_act rfl rfl ?_ ?_
  · intro W hC hE
    clear hE
    refine does_enter (f := 11) (args := #[.agg #[.slice A T.1.1.length ca, .slice B T.1.2.length cb, .slice N T.2.1.length cn, .slice L T.2.2.length cl], .int .i64 9, .agg #[.int .u8 2, .int .u32 0, .int .u32 3]]) ?_ ?_
    · go_simp
    · refine (hFd.out _ W ((H6.out.below hC).at 1 rfl)).mono ?_
      rintro e W' ⟨u, rfl, hu, hb⟩
      obtain ⟨E, ce, rfl, _, _, _, _⟩ := hu.drop.open
      exact ⟨_, rfl, ⟨E, ce, rfl⟩, hb⟩
  simp only [Act.put, List.setIfInBounds_toArray, List.set_cons_zero, List.set_cons_succ, envAdd]
  intro x2
  refine wpAs_act rfl rfl ?_ ?_
  · intro W hC hE
    have h7 := hE.1 rfl
    clear hE hC
    go_simp
    exact ⟨h7, Below.refl _ _⟩
  simp only [Act.put, List.setIfInBounds_toArray, List.set_cons_zero, List.set_cons_succ, envAdd]
  intro x3
  refine wpAs_act rfl rfl ?_ ?_
  · intro W hC hE
    obtain ⟨E, ce, rfl⟩ := hE.1 rfl
    clear hE hC
    go_simp
    exact ⟨⟨E, ce, rfl⟩, Below.refl _ _⟩
  simp only [Act.put, List.setIfInBounds_toArray, List.set_cons_zero, List.set_cons_succ, envAdd]
  intro x4
  refine wpAs_fixed rfl rfl rfl ?_ ?_
  · intro W hC hE
    obtain ⟨E, ce, rfl⟩ := hE.2.1 rfl
    clear hE hC
    go_simp
    exact ⟨rfl, Below.refl _ _⟩
  simp only [Act.put, List.setIfInBounds_toArray, List.set_cons_zero, List.set_cons_succ]
  refine wpAs_act rfl rfl ?_ ?_
  · intro W hC hE
    have hs := hC.size
    clear hE hC
    go_simp
    exact ⟨⟨W.heap.size, rfl, hs, heap_alloc_new _ _⟩, (Below.refl _ _).alloc (Nat.le_refl _) _⟩
  simp only [Act.put, List.setIfInBounds_toArray, List.set_cons_zero, List.set_cons_succ, envAdd]
  intro x6
  refine wpAs_end fun W hC hE => ?_
  obtain ⟨⟨g, rfl, hg, hz⟩, ⟨E, ce, rfl⟩, _⟩ := hE
  obtain ⟨c0, c1, c2, c3, c4, c5, _⟩ := five_cells hz
  obtain ⟨W9, hW9, g9, gr9, gs9⟩ := put_five (u0 := .int .u8 0) (u1 := .int .u32 0) (u2 := .int .u32 0) (u3 := .int .i64 0) (u4 := .slice E 0 ce) hz
  have hb9 := hC.grown gr9 hC.size (fun q e => by cases e; exact hg)
  have B9 := Lib.hid (B6.out.trans (hb9.mono B6.out.size))
  replace hz := Lib.hid hz
  replace g9 := Lib.hid g9
  clear hC gr9 gs9 hb9 B6 H6
  go_upto_region 9 with fail
  clear hW9 c0 c1 c2 c3 c4 c5
  obtain ⟨w11, rfl⟩ : ∃ w11 : World, w11 = W9 := ⟨_, rfl⟩
  go_wp2_with fail
  with_reducible refine (hMd1.out _).mono ?_
  rintro e w12 ⟨A, ca, B, cb, N, cn, L, cl, rfl, h12, hb12⟩
  obtain ⟨w13, hw13, hg13, hB13, -, hs13⟩ := bag_four ((Bag.nil w12).add (F := OldR _ S) h12 (lasts_oldR _ _)) (Below.refl _ _) (.slice A S.1.1.length ca) (.slice B S.1.2.length cb) (.slice N S.2.1.length cn) (.slice L S.2.2.length cl) 29
  have H13 := Lib.hid hg13
  have B13 := Lib.hid (B9.out.trans ((hb12.trans (hB13.mono hb12.size)).mono B9.out.size))
  replace hs13 := Lib.hid hs13
  clear hg13 hB13 hb12 h12 hMd1 B9
  go_upto_region 10 with fail
  clear hw13
  obtain ⟨k0, k1, k2, k3, _⟩ := H13.out.at 0 rfl
  go_wp2_with fail
  with_reducible refine (hC1.out _ _ (H13.out.at 1 rfl)).mono ?_
  rintro e w14 ⟨rfl, hb14⟩
  have B14 := Lib.hid (B13.out.trans (hb14.mono B13.out.size))
  clear hb14 k0 k1 k2 k3 H13 B13
  go_wp2_with fail
  go_ret
  exact ⟨rfl, B14.out⟩

/-! ### The row's step -/
set_option maxRecDepth 100000 in
theorem lifted (os : Os) (started : os.Started) (H : Type) (enc : TypeId × Value → H) :
    ReturnsInHanded {} Try.checked os 3 .any (Rows.findNamesSpec.pre6 enc Try.prog Try.f3 Rows.findNamesRow.domain false) (Rows.findNamesSpec.post enc Try.prog Try.f3 false true false false) := by
  refine returnsInHanded_of_change (C := Try.checked) own started (by kernel_rfl) Try.func3
    (ChangeSpec.witness6 (enc := enc) (C := Try.checked) false ⟨#[], #[], []⟩ 8 (by kernel_rfl) (by kernel_rfl) (by kernel_rfl) (by kernel_rfl)) ?_
  intro W base args ds gs before hval0 hW _ _
  have hval : ∀ (j : Nat) t v, Try.f3.params[j]? = some t → args[j]? = some v → Value.okWide Try.prog W .any base t v := hval0
  have hW' := hW
  obtain ⟨p, q, hA0, hV, _, _, _⟩ := hW
  have hA : DataW.TrodAll enc Try.prog W 0 (fun _ => true) true Try.f3.params.toList args.toList ds p := hA0
  rw [Try.params3] at hA hval
  obtain ⟨hargs, rfl, _⟩ := trodAll_nil hA
  obtain rfl : args = #[] := by cases args; simp_all
  obtain ⟨rfl, _⟩ := trodVars_none hV
  clear hA0 hval0
  refine (walk  W ).mono fun e W' ⟨he, hb⟩ => ?_
  subst he
  exact ⟨_, rfl, law_post laidOut (by rw [Try.params3]; decide +kernel) (by kernel_rfl) Try.underlying4 rfl ⟨rfl, by simp [Rows.findNamesSpec], rfl⟩ hW' hb⟩

theorem over : Rows.findNamesRow.holds Try.pinned (OpenSpec.ofChange Rows.findNamesSpec) :=
  OpenClaim.holds_of_wide 3 Try.f3 rfl rfl rfl rfl rfl rfl rfl ⟨rfl, rfl, rfl, rfl, rfl⟩ rfl rfl rfl rfl rfl (by kernel_rfl) Try.func3 (by kernel_rfl)
    (of_decide_eq_true (by kernel_rfl)) (by unfold Func.isWrapper; first | (rw [if_pos (by decide +kernel)]; kernel_rfl) | (rw [if_neg (by decide +kernel)]; exact ⟨rfl, rfl⟩))
    (fun os started H enc _ => lifted os started H enc)

end Go.Proofs.Ytncnoingbaeomaa.findNames
namespace Go.Proofs.Ytncnoingbaeomaa
theorem findNames_proved : Rows.FindNamesSaid := findNames.over
end Go.Proofs.Ytncnoingbaeomaa
