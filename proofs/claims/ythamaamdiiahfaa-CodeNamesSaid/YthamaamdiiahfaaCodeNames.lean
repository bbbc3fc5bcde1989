/-
  CodeNames answers true: the errors have their numbers and the chapter's examples are so. No condition, no argument.
-/
import Derived.Test.YthamaamdiiahfaaGet
namespace Go.Proofs.Ythamaamdiiahfaa.codeNames
open Go.ChangeShapes Go.WideShapes Go.RowKit

theorem own : ownKnob Try.prog.godebug = none := by kernel_rfl
theorem laidOut : laidOutB Try.prog = true := by kernel_rfl

theorem walk (w : World) :
    Calls Try.prog 3 #[] w fun e w' => e = .returned (.bool true) ∧ Below w.heap.size w w' := by
  go_enter Try.func3, Try.ntmps3
  go_wp2_with fail
  refine (two_no 65536 (by omega) _).mono ?_
  rintro e _ ⟨rfl, rfl⟩
  go_wp2_with fail
  refine (two_no (-1) (by omega) _).mono ?_
  rintro e _ ⟨rfl, rfl⟩
  go_wp2_with fail
  refine (getTwo_ok _ 3 3 1 [7, 2, 1] (Lib.hid rfl) (by omega) (by omega) (by omega) _ (by simpa using byt_new w 5 [7, 2, 1] #[.int .u8 7, .int .u8 2, .int .u8 1] rfl)).mono ?_
  rintro e w1 ⟨rfl, hb1⟩
  rw [show num (([7, 2, 1] : List UInt8).drop 1 |>.take 2) = 258 by decide +kernel]
  go_wp2_with fail
  refine (getTwo_no _ 1 1 0 (by omega) (by omega) _).mono ?_
  rintro e w2 ⟨rfl, hb2⟩
  go_wp2_with fail
  refine (four_any 1 (by omega) (by omega) _).mono ?_
  rintro e w3 ⟨A, rfl, hx, hb3⟩
  go_wp2_with fail
  refine (getFour_ok _ 4 4 0 _ (Lib.hid (le_length 4 1)) (by omega) (by omega) (by omega) _ hx).mono ?_
  rintro e w4 ⟨rfl, hb4⟩
  rw [show num ((le 4 1).drop 0 |>.take 4) = 1 by decide +kernel]
  go_wp2_with fail
  refine (four_any 1 (by omega) (by omega) _).mono ?_
  rintro e w5 ⟨A5, rfl, hx5, hb5⟩
  go_wp2_with fail
  refine (getFour_no _ 4 4 (-1) (by omega) (by omega) _).mono ?_
  rintro e w6 ⟨rfl, hb6⟩
  go_wp2_with fail
  refine (alive_ok _).mono ?_
  rintro e w7 ⟨rfl, hb7⟩
  go_wp2_with fail
  refine (four_any 1 (by omega) (by omega) _).mono ?_
  rintro e w8 ⟨A8, rfl, hx8, hb8⟩
  have hxs := hx8.str (P := Try.prog) 22 9 5 4 4 (le_length 4 1) Try.underlying22 Try.underlying5 Try.underlying9
  rw [show le 4 1 = [1, 0, 0, 0] by decide +kernel] at hxs
  go_wp2
  go_ret
  refine ⟨rfl, ?_⟩
  subst hb2 hb6
  exact bstep (bstep (bstep (bstep (balloc (bstep (balloc (Below.refl _ _) _) hb1) _) (bstep hb3 hb4)) hb5) hb7) hb8

/-! ### The row's step -/
set_option maxRecDepth 100000 in
theorem lifted (os : Os) (started : os.Started) (H : Type) (enc : TypeId × Value → H) :
    ReturnsInHanded {} Try.checked os 3 .any (Rows.codeNamesSpec.pre6 enc Try.prog Try.f3 Rows.codeNamesRow.domain false) (Rows.codeNamesSpec.post enc Try.prog Try.f3 false true false false) := by
  refine returnsInHanded_of_change (C := Try.checked) own started (by kernel_rfl) Try.func3
    (ChangeSpec.witness6 (enc := enc) (C := Try.checked) false ⟨#[], #[], []⟩ 8 (by kernel_rfl) (by kernel_rfl) (by kernel_rfl) (by kernel_rfl)) ?_
  intro W base args ds gs before hval0 hW _ _
  have hval : ∀ (j : Nat) t v, Try.f3.params[j]? = some t → args[j]? = some v → Value.okWide Try.prog W .any base t v := hval0
  have hW' := hW
  obtain ⟨p, q, hA0, hV, _, _, _⟩ := hW
  have hA : DataW.TrodAll enc Try.prog W 0 (fun _ => true) true Try.f3.params.toList args.toList ds p := hA0
  rw [Try.params3] at hA hval
  obtain ⟨hargs, rfl, _⟩ := trodAll_nil hA
  obtain rfl : args = #[] := by cases args; simp_all
  obtain ⟨rfl, _⟩ := trodVars_none hV
  clear hA0 hval0
  refine (walk  W).mono fun e W' ⟨he, hb⟩ => ?_
  subst he
  exact ⟨_, rfl, law_post laidOut (by rw [Try.params3]; decide +kernel) (by kernel_rfl) Try.underlying4 rfl ⟨rfl, by simp [Rows.codeNamesSpec], rfl⟩ hW' hb⟩

theorem over : Rows.codeNamesRow.holds Try.pinned (OpenSpec.ofChange Rows.codeNamesSpec) :=
  OpenClaim.holds_of_wide 3 Try.f3 rfl rfl rfl rfl rfl rfl rfl ⟨rfl, rfl, rfl, rfl, rfl⟩ rfl rfl rfl rfl rfl (by kernel_rfl) Try.func3 (by kernel_rfl)
    (of_decide_eq_true (by kernel_rfl)) (by unfold Func.isWrapper; first | (rw [if_pos (by decide +kernel)]; kernel_rfl) | (rw [if_neg (by decide +kernel)]; exact ⟨rfl, rfl⟩))
    (fun os started H enc _ => lifted os started H enc)

end Go.Proofs.Ythamaamdiiahfaa.codeNames
namespace Go.Proofs.Ythamaamdiiahfaa
theorem codeNames_proved : Rows.CodeNamesSaid := codeNames.over
end Go.Proofs.Ythamaamdiiahfaa
