/-
  ItemNames answers true: the limits and the error have their numbers, and the chapter's examples are so. No condition, no argument.
-/
import Derived.Test.YtmefejbbnfgbeaaBnd2
namespace Go.Proofs.Ytmefejbbnfgbeaa.itemNames
open Go.ChangeShapes Go.WideShapes Go.RowKit

theorem own : ownKnob Try.prog.godebug = none := by kernel_rfl
theorem laidOut : laidOutB Try.prog = true := by kernel_rfl

set_option maxRecDepth 100000 in
set_option maxHeartbeats 4000000 in
theorem walk (w : World) :
    Calls Try.prog 3 #[] w fun e w' => e = .returned (.bool true) ∧ Below w.heap.size w w' := by
  have c7 : Hid (chkI ((0, 0, 0), 7, []) = 8) := Lib.hid (by decide)
  have c13 : Hid (chkI ((0, 0, 0), 0, zeros 13) = 8) := Lib.hid (by decide)
  have n0 : Hid (itN [] = 0 ∧ itE [] = 8) := Lib.hid (by
    have h : okC [] = false := by decide
    have h2 : okR [] = false := by simp [okR, h]
    exact ⟨by simp [itN, h2], by simp [itE, h2]⟩)
  go_enter Try.func3, Try.ntmps3
  go_wp2_with fail
  with_reducible refine (itRead_any _ [] _ (rBy_nil _)).mono ?_
  rintro e1 w1 ⟨u, rfl, hu, hb1⟩
  rw [n0.out.1, n0.out.2]
  obtain ⟨D, dc, rfl, _⟩ := hu.open
  obtain ⟨w2, hw2, hb2⟩ : ∃ w2, w1.alloc (.cells #[.int .u8 ((itR []).1.1.toNat : Int), .int .u32 (itR []).1.2.1, .int .u32 (itR []).1.2.2, .int .i64 (itR []).2.1, .slice D (itR []).2.2.length dc] 27) = w2 ∧ Below w1.heap.size w1 w2 := ⟨_, rfl, (Below.refl _ _).alloc (Nat.le_refl _) _⟩
  have B2 := Lib.hid (hb1.trans (hb2.mono hb1.size))
  clear hb1 hb2 hu
  go_upto_region 2 with fail
  clear hw2
  go_wp2_with fail
  with_reducible refine (alive5 _).mono ?_
  rintro e3 w3 ⟨rfl, hb3⟩
  have B3 := Lib.hid (B2.out.trans (hb3.mono B2.out.size))
  clear hb3
  go_wp2_with fail
  with_reducible refine (key_any 2 2 rfl 0 0 _).mono ?_
  rintro e4 w4 ⟨rfl, hb4⟩
  have B4 := Lib.hid (B3.out.trans (hb4.mono B3.out.size))
  clear hb4
  go_wp2_with fail
  with_reducible refine (key_any 1 1 rfl 9 9 _).mono ?_
  rintro e5 w5 ⟨rfl, hb5⟩
  have B5 := Lib.hid (B4.out.trans (hb5.mono B4.out.size))
  clear hb5
  go_wp2_with fail
  with_reducible refine (less_any (2, 0, 0) (1, 9, 9) _).mono ?_
  rintro e6 w6 ⟨rfl, hb6⟩
  rw [show lessK (2, 0, 0) (1, 9, 9) = false by decide]
  have B6 := Lib.hid (B5.out.trans (hb6.mono B5.out.size))
  clear hb6
  go_wp2_with fail
  with_reducible refine (key_any 1 1 rfl 5 0 _).mono ?_
  rintro e7 w7 ⟨rfl, hb7⟩
  have B7 := Lib.hid (B6.out.trans (hb7.mono B6.out.size))
  clear hb7
  go_wp2_with fail
  with_reducible refine (key_any 1 1 rfl 5 0 _).mono ?_
  rintro e8 w8 ⟨rfl, hb8⟩
  have B8 := Lib.hid (B7.out.trans (hb8.mono B7.out.size))
  clear hb8
  go_wp2_with fail
  with_reducible refine (less_any (1, 5, 0) (1, 5, 0) _).mono ?_
  rintro e9 w9 ⟨rfl, hb9⟩
  rw [show lessK (1, 5, 0) (1, 5, 0) = false by decide]
  have B9 := Lib.hid (B8.out.trans (hb9.mono B8.out.size))
  clear hb9
  go_wp2_with fail
  have hi7 : Hid (Itm (Old w9) w9 (.agg #[.int .u8 0, .int .u32 0, .int .u32 0, .int .i64 7, .slice none 0 0]) ((0, 0, 0), 7, [])) := Lib.hid ⟨_, rfl, inI_small _ _ (by omega) (by omega) (by omega) (by omega) (by omega) (by omega), rBy_nil _⟩
  with_reducible refine (checkI_any _ ((0, 0, 0), 7, []) _ hi7.out).mono ?_
  rintro ea wa ⟨rfl, hba⟩
  rw [c7.out]
  have Ba := Lib.hid (B9.out.trans (hba.mono B9.out.size))
  clear hba
  have hmk := make_bytes 13 (by omega) wa
  rw [show ((13 : Nat) : Int) = 13 from rfl] at hmk
  have hR0 := Row.new wa (zeros 13)
  have hb0 := (Below.refl wa.heap.size wa).alloc (Nat.le_refl _) (Obj.cells (rowA (zeros 13)) 5)
  obtain ⟨wb, hwb⟩ : ∃ wb, wa.alloc (Obj.cells (rowA (zeros 13)) 5) = wb := ⟨_, rfl⟩
  rw [hwb] at hmk hR0 hb0
  have hy : rBy (Old wb) wb [.slice (some ⟨wa.heap.size, 0, none⟩) 13 13] (zeros 13) := by
    have h := byt_rBy (cap := 13) hR0.all (by rw [zeros_length]; omega) (by omega)
    rwa [zeros_length] at h
  have hi13 : Hid (Itm (Old wb) wb (.agg #[.int .u8 0, .int .u32 0, .int .u32 0, .int .i64 0, .slice (some ⟨wa.heap.size, 0, none⟩) 13 13]) ((0, 0, 0), 0, zeros 13)) := Lib.hid ⟨_, rfl, inI_small _ _ (by omega) (by omega) (by omega) (by omega) (by omega) (by omega), hy⟩
  have Bb := Lib.hid (Ba.out.trans (hb0.mono Ba.out.size))
  clear hR0 hb0 hy hwb
  go_wp2_with fail
  with_reducible refine (checkI_any _ ((0, 0, 0), 0, zeros 13) _ hi13.out).mono ?_
  rintro ec wc ⟨rfl, hbc⟩
  rw [c13.out]
  have Bc := Lib.hid (Bb.out.trans (hbc.mono Bb.out.size))
  clear hbc hmk
  go_wp2_with fail
  go_ret
  exact ⟨rfl, Bc.out⟩

/-! ### The row's step -/
set_option maxRecDepth 100000 in
theorem lifted (os : Os) (started : os.Started) (H : Type) (enc : TypeId × Value → H) :
    ReturnsInHanded {} Try.checked os 3 .any (Rows.itemNamesSpec.pre6 enc Try.prog Try.f3 Rows.itemNamesRow.domain false) (Rows.itemNamesSpec.post enc Try.prog Try.f3 false true false false) := by
  refine returnsInHanded_of_change (C := Try.checked) own started (by kernel_rfl) Try.func3
    (ChangeSpec.witness6 (enc := enc) (C := Try.checked) false ⟨#[], #[], []⟩ 8 (by kernel_rfl) (by kernel_rfl) (by kernel_rfl) (by kernel_rfl)) ?_
  intro W base args ds gs before hval0 hW _ _
  have hval : ∀ (j : Nat) t v, Try.f3.params[j]? = some t → args[j]? = some v → Value.okWide Try.prog W .any base t v := hval0
  have hW' := hW
  obtain ⟨p, q, hA0, hV, _, _, _⟩ := hW
  have hA : DataW.TrodAll enc Try.prog W 0 (fun _ => true) true Try.f3.params.toList args.toList ds p := hA0
  rw [Try.params3] at hA hval
  obtain ⟨hargs, rfl, _⟩ := trodAll_nil hA
  obtain rfl : args = #[] := by cases args; simp_all
  obtain ⟨rfl, _⟩ := trodVars_none hV
  clear hA0 hval0
  refine (walk  W ).mono fun e W' ⟨he, hb⟩ => ?_
  subst he
  exact ⟨_, rfl, law_post laidOut (by rw [Try.params3]; decide +kernel) (by kernel_rfl) Try.underlying4 rfl ⟨rfl, by simp [Rows.itemNamesSpec], rfl⟩ hW' hb⟩

theorem over : Rows.itemNamesRow.holds Try.pinned (OpenSpec.ofChange Rows.itemNamesSpec) :=
  OpenClaim.holds_of_wide 3 Try.f3 rfl rfl rfl rfl rfl rfl rfl ⟨rfl, rfl, rfl, rfl, rfl⟩ rfl rfl rfl rfl rfl (by kernel_rfl) Try.func3 (by kernel_rfl)
    (of_decide_eq_true (by kernel_rfl)) (by unfold Func.isWrapper; first | (rw [if_pos (by decide +kernel)]; kernel_rfl) | (rw [if_neg (by decide +kernel)]; exact ⟨rfl, rfl⟩))
    (fun os started H enc _ => lifted os started H enc)

end Go.Proofs.Ytmefejbbnfgbeaa.itemNames
namespace Go.Proofs.Ytmefejbbnfgbeaa
theorem itemNames_proved : Rows.ItemNamesSaid := itemNames.over
end Go.Proofs.Ytmefejbbnfgbeaa
