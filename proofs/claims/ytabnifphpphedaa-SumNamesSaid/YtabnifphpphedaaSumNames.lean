/-
  SumNames answers true: the limits and errors have their numbers and the chapter's examples are so. No condition, no argument.
-/
import Derived.Test.YtabnifphpphedaaAlive02
import Derived.Test.YtabnifphpphedaaAny
namespace Go.Proofs.Ytabnifphpphedaa.sumNames
open Go.ChangeShapes Go.WideShapes Go.RowKit

theorem own : ownKnob Try.prog.godebug = none := by kernel_rfl
theorem laidOut : laidOutB Try.prog = true := by kernel_rfl

theorem pad12 : padN [1, 2] = 1 :: 2 :: 0 :: zeros 121 := by decide +kernel
theorem noughts_bad : ¬ fits (zeros 128) := by
  unfold fits
  decide +kernel
theorem walk (w : World) :
    Calls Try.prog 3 #[] w fun e w' => e = .returned (.bool true) ∧ Below w.heap.size w w' := by
  have hm128 : ∀ w, (Instr.makeSlice 22 (.int .i64 128) (.int .i64 128)).run Try.prog w = .ok (.slice (some ⟨w.heap.size, 0, none⟩) 128 128) (w.alloc (.cells (rowA (zeros 128)) 5)) := make_bytes 128 (by omega)
  have hm125 : ∀ w, (Instr.makeSlice 22 (.int .i64 125) (.int .i64 125)).run Try.prog w = .ok (.slice (some ⟨w.heap.size, 0, none⟩) 125 125) (w.alloc (.cells (rowA (zeros 125)) 5)) := make_bytes 125 (by omega)
  go_enter Try.func3, Try.ntmps3
  go_wp2_with fail
  refine (seal_ok _ 2 2 [1, 2] (Lib.hid rfl) (by omega) (by omega) (by omega) _ (by simpa using byt_new w 5 [1, 2] #[.int .u8 1, .int .u8 2] rfl)).mono ?_
  rintro e w1 ⟨rfl, hR, hb1⟩
  have hb1' := bstep (balloc (Below.refl w.heap.size w) _) hb1
  have hx := hR.all
  clear hR hb1
  generalize World.alloc w (Obj.cells #[Value.int IntKind.u8 1, Value.int IntKind.u8 2] 5) = w0 at *
  go_wp2_with fail
  refine (open_ok _ 128 _ (Lib.hid (sealN_length (by simp))) (by omega) (by omega) _ hx (fits_seal _)).mono ?_
  rintro e w2 ⟨v2, rfl, hown, hb2⟩
  have hb2' := bstep hb1' hb2
  rw [seal_drop, pad12] at hown
  obtain ⟨A2, c2, rfl, hl2, hc2, hy⟩ := own_byt hown
  clear hb1' hb2 hx hown
  go_wp2_with fail
  have hx128 := (Row.new w2 (zeros 128)).all
  refine (open_bad _ 128 _ (Lib.hid (zeros_length 128)) (by omega) (by omega) _ hx128 noughts_bad).mono ?_
  rintro e w3 ⟨rfl, hb3⟩
  have hb3' := bstep (balloc (Below.refl w2.heap.size w2) _) hb3
  clear hb3 hx128
  go_wp2_with fail
  refine (seal_no _ 125 125 (by omega) _).mono ?_
  rintro e _ ⟨rfl, rfl⟩
  go_wp2_with fail
  refine (open_no _ 1 1 (by omega) _).mono ?_
  rintro e w5 ⟨rfl, hw5⟩
  have hb5' : Below w2.heap.size w2 w5 := by
    subst hw5
    exact balloc (balloc hb3' _) _
  have hB := bstep hb2' hb5'
  have hy5 := (hy.below hb5').more hb5'.size
  clear hw5 hb3' hb5' hy hb2'
  obtain ⟨ad, rfl, hab, hc⟩ := hy5 (by simp [zeros])
  have HC : Hid (∀ W, Below w5.heap.size w5 W → W.cell? ad = some (.int .u8 1) ∧ W.cell? ⟨ad.block, ad.off + 1, none⟩ = some (.int .u8 2) ∧ W.cell? ⟨ad.block, ad.off + 2, none⟩ = some (.int .u8 0)) := Lib.hid fun W h => by
    have c0 := (h.cell (p := ad.add 0) (by rw [add_block]; exact hab)).trans (hc 0 (by simp [zeros]))
    have c1 := (h.cell (p := ad.add 1) (by rw [add_block]; exact hab)).trans (hc 1 (by simp [zeros]))
    have c2 := (h.cell (p := ad.add 2) (by rw [add_block]; exact hab)).trans (hc 2 (by simp [zeros]))
    simp only [Addr.add] at c0 c1 c2
    exact ⟨by simpa using c0, by simpa using c1, by simpa using c2⟩
  clear hc
  go_wp2_with fail
  refine (alive_sum _).mono ?_
  rintro e w6 ⟨rfl, hb6⟩
  go_wp2_with fail
  refine (of_any _ _ _ [] (Lib.hid rfl) (Nat.le_refl 0) (by omega) _ Byt.nil).mono ?_
  rintro e w7 ⟨rfl, hb7⟩
  rw [show crc [] = 0 from rfl]
  have hB7 := bstep hb6 hb7
  obtain ⟨c0, c1, c2⟩ := HC.out w7 hB7
  have hE := bstep hB hB7
  clear hB7 HC hb6 hb7 hB
  go_wp2_with fail
  go_ret
  exact ⟨rfl, hE⟩

/-! ### The row's step -/
set_option maxRecDepth 100000 in
theorem lifted (os : Os) (started : os.Started) (H : Type) (enc : TypeId × Value → H) :
    ReturnsInHanded {} Try.checked os 3 .any (Rows.sumNamesSpec.pre6 enc Try.prog Try.f3 Rows.sumNamesRow.domain false) (Rows.sumNamesSpec.post enc Try.prog Try.f3 false true false false) := by
  refine returnsInHanded_of_change (C := Try.checked) own started (by kernel_rfl) Try.func3
    (ChangeSpec.witness6 (enc := enc) (C := Try.checked) false ⟨#[], #[], []⟩ 8 (by kernel_rfl) (by kernel_rfl) (by kernel_rfl) (by kernel_rfl)) ?_
  intro W base args ds gs before hval0 hW _ _
  have hval : ∀ (j : Nat) t v, Try.f3.params[j]? = some t → args[j]? = some v → Value.okWide Try.prog W .any base t v := hval0
  have hW' := hW
  obtain ⟨p, q, hA0, hV, _, _, _⟩ := hW
  have hA : DataW.TrodAll enc Try.prog W 0 (fun _ => true) true Try.f3.params.toList args.toList ds p := hA0
  rw [Try.params3] at hA hval
  obtain ⟨hargs, rfl, _⟩ := trodAll_nil hA
  obtain rfl : args = #[] := by cases args; simp_all
  obtain ⟨rfl, _⟩ := trodVars_none hV
  clear hA0 hval0
  refine (walk  W ).mono fun e W' ⟨he, hb⟩ => ?_
  subst he
  exact ⟨_, rfl, law_post laidOut (by rw [Try.params3]; decide +kernel) (by kernel_rfl) Try.underlying4 rfl ⟨rfl, by simp [Rows.sumNamesSpec], rfl⟩ hW' hb⟩

theorem over : Rows.sumNamesRow.holds Try.pinned (OpenSpec.ofChange Rows.sumNamesSpec) :=
  OpenClaim.holds_of_wide 3 Try.f3 rfl rfl rfl rfl rfl rfl rfl ⟨rfl, rfl, rfl, rfl, rfl⟩ rfl rfl rfl rfl rfl (by kernel_rfl) Try.func3 (by kernel_rfl)
    (of_decide_eq_true (by kernel_rfl)) (by unfold Func.isWrapper; first | (rw [if_pos (by decide +kernel)]; kernel_rfl) | (rw [if_neg (by decide +kernel)]; exact ⟨rfl, rfl⟩))
    (fun os started H enc _ => lifted os started H enc)

end Go.Proofs.Ytabnifphpphedaa.sumNames
namespace Go.Proofs.Ytabnifphpphedaa
theorem sumNames_proved : Rows.SumNamesSaid := sumNames.over
end Go.Proofs.Ytabnifphpphedaa
