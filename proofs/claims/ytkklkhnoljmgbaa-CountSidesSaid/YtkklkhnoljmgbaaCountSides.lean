/-
  For every disk, side and table CountSides answers true and leaves its arguments as they were. No condition.
-/
import Derived.Test.YtkklkhnoljmgbaaBnd2
namespace Go.Proofs.Ytkklkhnoljmgbaa.countSides
open Go.ChangeShapes Go.WideShapes Go.RowKit

theorem own : ownKnob Try.prog.godebug = none := by kernel_rfl
theorem laidOut : laidOutB Try.prog = true := by kernel_rfl

set_option maxRecDepth 100000 in
set_option maxHeartbeats 8000000 in
theorem walk (v : Value) (d : Dk) (s : Int) (hn : (Lit.int .i64 s).wf = true) (u : Value) (t : List UInt8) (w : World) (h : Dsk (Old w) w v d) (hu : rBy (Old w) w [u] t) :
    Calls Try.prog 6 #[v, .int .i64 s, u] w fun e w' => e = .returned (.bool true) ∧ Below w.heap.size w w' := by
  clear hn
  obtain ⟨A, c, B, e0, rfl, _⟩ := id h.open
  obtain ⟨E, ce, rfl, _⟩ := id (rBy_open hu)
  obtain ⟨w0, hw0, b0, hs0, hB0⟩ := box_pair' w (.slice A d.1.length c) (.slice B d.2.length e0) 31
  have h0 := h.below hB0
  have u0 := stab_by.old hu hB0
  clear h hu
  replace b0 := Lib.hid b0
  replace hs0 := Lib.hid hs0
  replace h0 := Lib.hid h0
  replace u0 := Lib.hid u0
  go_enter Try.func6, Try.ntmps6
  go_upto_region 1 with fail
  clear hw0
  go_wp2_with fail
  with_reducible refine (alive7 _).mono ?_
  rintro e1 w1 ⟨rfl, hb1⟩
  have h1 := Lib.hid (h0.out.below hb1)
  have u1 := Lib.hid (stab_by.old u0.out hb1)
  have hB1 := hB0.trans (hb1.mono hB0.size)
  have b1 := (hb1.block w.heap.size (by rw [hs0.out]; omega)).trans b0.out
  obtain ⟨z1, z2, _, lt1⟩ := two_cells b1
  replace b1 := Lib.hid b1
  clear hb1 h0 u0 b0 hs0 hB0
  go_wp2_with fail
  with_reducible refine (great_any _ d _ h1.out).mono ?_
  rintro e2 w2 ⟨rfl, hb2⟩
  have h2 := Lib.hid (h1.out.below hb2)
  have u2 := Lib.hid (stab_by.old u1.out hb2)
  have hB2 := hB1.trans (hb2.mono hB1.size)
  have b2 := (hb2.block w.heap.size lt1).trans b1.out
  obtain ⟨y1, y2, _, lt2⟩ := two_cells b2
  replace b2 := Lib.hid b2
  clear hb2 h1 u1 b1 hB1 z1 z2 lt1
  cases hg : greatB d with
  | true =>
    go_wp2_with fail
    go_ret
    exact ⟨rfl, hB2⟩
  | false =>
    clear hg
    by_cases hl : 10000 < t.length
    · have hl' : (10000 : Int) < t.length := by omega
      go_wp2_with fail
      go_ret
      exact ⟨rfl, hB2⟩
    · have hl' : ¬ (10000 : Int) < t.length := by omega
      go_wp2_with fail
      with_reducible refine (cntWrite_any _ _ d s t _ h2.out u2.out).mono ?_
      rintro e4 w4 ⟨A4, c4, B4, d4, rfl, hx, hb4⟩
      have h4 := Lib.hid (h2.out.below hb4)
      have u4 := Lib.hid (stab_by.old u2.out hb4)
      have hB4 := hB2.trans (hb4.mono hB2.size)
      have b4 := (hb4.block w.heap.size lt2).trans b2.out
      clear hb4 h2 u2 b2 hB2 y1 y2
      by_cases he : cwE d s t = 0
      · obtain ⟨f1, f2, f3, f4, f5, f6, f7⟩ := sides_ok he
        obtain ⟨W, hW⟩ : ∃ W, cwR d s t = W := ⟨_, rfl⟩
        rw [hW] at hx f1 f2 f3 f4 f5 f6 ⊢
        rw [he]
        rw [f5] at hx ⊢
        rw [f7] at u4 hl' ⊢
        obtain ⟨wb, hwb, c1, c3, hbb⟩ := box_pair' w4 (.slice A4 W.1.length c4) (.slice B4 (d.2.length + 2) d4) 31
        have hxb := Lib.hid (hx.drop.below hbb)
        have h5 := Lib.hid (h4.out.below hbb)
        have u5 := Lib.hid (stab_by.old u4.out hbb)
        have hBb := Lib.hid (hB4.trans (hbb.mono hB4.size))
        have b5 := (hbb.block w.heap.size (Array.getElem?_eq_some_iff.1 b4).1).trans b4
        obtain ⟨z1, z2, _, lt5⟩ := two_cells b5
        obtain ⟨z3, z4, _, lt6⟩ := two_cells c1
        replace b4 := Lib.hid b4
        replace b5 := Lib.hid b5
        replace c1 := Lib.hid c1
        replace c3 := Lib.hid c3
        have hrd1 : Hid (∀ W1, Below wb.heap.size wb W1 → Calls Try.prog 15 #[.agg #[.slice A4 W.1.length c4, .slice B4 (d.2.length + 2) d4], .int .i64 s] W1 fun e w' => ∃ E c, e = .returned (.tuple #[.slice E 256 c, .int .i64 0]) ∧ rBy (New W1.heap.size w') w' [.slice E 256 c] t ∧ Below W1.heap.size W1 w') := Lib.hid fun W1 hW1 => by
          have := cntRead_open _ W s W1 (hxb.out.below hW1)
          rwa [f1, f2, f7] at this
        obtain ⟨q, hq⟩ : ∃ q, crE d (1 - s) = q := ⟨_, rfl⟩
        obtain ⟨L, hL⟩ : ∃ L, crV d (1 - s) = L := ⟨_, rfl⟩
        rw [hq] at f3
        rw [hL] at f4
        have hs := (cw_ok he).2.1
        have hd2 : d.2.length ≤ 4096 := (may_of (cw_ok he).1).2.1
        have hrd2 : Hid (∀ W1, Below wb.heap.size wb W1 → Calls Try.prog 15 #[.agg #[.slice A d.1.length c, .slice B d.2.length e0], .int .i64 (1 - s)] W1 fun e w' => ∃ E c, e = .returned (.tuple #[.slice E L.length c, .int .i64 q]) ∧ rBy (New W1.heap.size w') w' [.slice E L.length c] L ∧ Below W1.heap.size W1 w') := Lib.hid fun W1 hW1 => by
          have := cntRead_open _ d (1 - s) W1 (h5.out.below hW1)
          rwa [hq, hL] at this
        have hrd3 : Hid (∀ W1, Below wb.heap.size wb W1 → Calls Try.prog 15 #[.agg #[.slice A4 W.1.length c4, .slice B4 (d.2.length + 2) d4], .int .i64 (1 - s)] W1 fun e w' => ∃ E c, e = .returned (.tuple #[.slice E L.length c, .int .i64 q]) ∧ rBy (New W1.heap.size w') w' [.slice E L.length c] L ∧ Below W1.heap.size W1 w') := Lib.hid fun W1 hW1 => by
          have := cntRead_open _ W (1 - s) W1 (hxb.out.below hW1)
          rwa [f3, f4] at this
        have s1 : -1 ≤ 1 - s := by rcases hs with rfl | rfl <;> decide
        have s2 : 1 - s ≤ 1 := by rcases hs with rfl | rfl <;> decide
        clear f1 f2 f3 f4 f5 f6 f7 he hq hL hW hs hx hbb h4 u4 hB4 hxb h5 hl
        go_upto_region 7 with fail
        clear hwb
        go_wp2_with fail
        with_reducible refine (hrd1.out _ (Below.refl _ _)).mono ?_
        rintro e6 w6 ⟨E6, c6, rfl, r6, hb6⟩
        have R6 := Lib.hid (stab_by.drop r6)
        have K6 := Lib.hid hb6
        obtain ⟨x1, x2, _, _⟩ := two_cells ((hb6.block w.heap.size lt5).trans b5.out)
        obtain ⟨x3, x4, _, _⟩ := two_cells ((hb6.block w4.heap.size lt6).trans c1.out)
        clear r6 hb6 z1 z2 z3 z4
        go_wp2_with fail
        with_reducible refine (hrd2.out _ K6.out).mono ?_
        rintro e7 w7 ⟨E7, c7, rfl, r7, hb7⟩
        have R7 := Lib.hid (stab_by.drop r7)
        have R6' := Lib.hid (stab_by.old R6.out hb7)
        have K7 := Lib.hid (K6.out.trans (hb7.mono K6.out.size))
        obtain ⟨y1, y2, _, _⟩ := two_cells ((K7.out.block w.heap.size lt5).trans b5.out)
        obtain ⟨y3, y4, _, _⟩ := two_cells ((K7.out.block w4.heap.size lt6).trans c1.out)
        clear r7 hb7 x1 x2 x3 x4 R6 K6
        go_wp2_with fail
        with_reducible refine (hrd3.out _ K7.out).mono ?_
        rintro e8 w8 ⟨E8, c8, rfl, r8, hb8⟩
        have K8 := Lib.hid (K7.out.trans (hb8.mono K7.out.size))
        obtain ⟨x1, x2, _, _⟩ := two_cells ((K8.out.block w.heap.size lt5).trans b5.out)
        obtain ⟨x3, x4, _, _⟩ := two_cells ((K8.out.block w4.heap.size lt6).trans c1.out)
        have t8 := rBy_str0 (stab_by.drop r8)
        have t7 := rBy_str0 (stab_by.old R7.out hb8)
        have t6 := rBy_str0 (stab_by.old R6'.out hb8)
        have t5 := rBy_str0 (stab_by.old u5.out K8.out)
        have fin := Lib.hid (hBb.out.trans (K8.out.mono hBb.out.size))
        have i5 : ((d.2.length : Int) + 2 == (d.2.length : Int) + 2) = true := by simp
        clear r8 hb8 y1 y2 y3 y4 R7 R6' K7 K8 lt5 lt6
        go_wp2_with fail
        go_ret
        exact ⟨by simp, fin.out⟩
      · have hR : cwR d s t = emptyD := by rw [cwR, if_neg he]
        rw [hR] at hx ⊢
        obtain ⟨q, hq⟩ : ∃ q, cwE d s t = q := ⟨_, rfl⟩
        rw [hq] at he ⊢
        have hq0 : (q != 0) = true := by simpa using he
        replace hq := Lib.hid hq
        have e1 : emptyD.1.length = 0 := rfl
        have e2 : emptyD.2.length = 0 := rfl
        rw [e1, e2] at hx ⊢
        obtain ⟨wb, hwb, c1, c3, hbb⟩ := box_pair' w4 (.slice A4 0 c4) (.slice B4 0 d4) 31
        have hBb := Lib.hid (hB4.trans (hbb.mono hB4.size))
        obtain ⟨z3, z4, _, lt6⟩ := two_cells c1
        replace b4 := Lib.hid b4
        replace c1 := Lib.hid c1
        replace c3 := Lib.hid c3
        clear hx hbb h4 u4 hB4 he hR e1 e2
        go_upto_region 7 with fail
        clear hwb
        go_wp2_with fail
        go_ret
        exact ⟨rfl, hBb.out⟩

/-! ### The row's step -/
set_option maxRecDepth 100000 in
theorem lifted (os : Os) (started : os.Started) (H : Type) (enc : TypeId × Value → H) :
    ReturnsInHanded {} Try.checked os 6 .any (Rows.countSidesSpec.pre6 enc Try.prog Try.f6 Rows.countSidesRow.domain false) (Rows.countSidesSpec.post enc Try.prog Try.f6 false true false false) := by
  refine returnsInHanded_of_change (C := Try.checked) own started (by kernel_rfl) Try.func6
    (ChangeSpec.witness6 (enc := enc) (C := Try.checked) false ⟨#[], #[.agg #[.slice none 0 0, .slice none 0 0], .int .i64 0, .slice none 0 0], []⟩ 8 (by kernel_rfl) (by kernel_rfl) (by kernel_rfl) (by kernel_rfl)) ?_
  intro W base args ds gs before hval0 hW _ _
  have hval : ∀ (j : Nat) t v, Try.f6.params[j]? = some t → args[j]? = some v → Value.okWide Try.prog W .any base t v := hval0
  have hW' := hW
  obtain ⟨p, q, hA0, hV, _, _, _⟩ := hW
  have hA : DataW.TrodAll enc Try.prog W 0 (fun _ => true) true Try.f6.params.toList args.toList ds p := hA0
  rw [Try.params6] at hA hval
  obtain ⟨v0, vs0, d0, ds0, p0, q0, hargs, rfl, _, h0, r0⟩ := trodAll_cons hA
  obtain ⟨v1, vs1, d1, ds1, p1, q1, rfl, rfl, _, h1, r1⟩ := trodAll_cons r0
  obtain ⟨v2, vs2, d2, ds2, p2, q2, rfl, rfl, _, h2, r2⟩ := trodAll_cons r1
  obtain ⟨rfl, rfl, _⟩ := trodAll_nil r2
  obtain rfl : args = #[v0, v1, v2] := by cases args; simp_all
  obtain ⟨rfl, _⟩ := trodVars_none hV
  obtain ⟨d0x, y0⟩ := open_disk (hval 0 31 v0 rfl rfl) h0
  obtain ⟨a1, rfl, _, _, w1⟩ := open_int Try.underlying3 (hval 1 3 v1 rfl rfl) h1
  obtain ⟨d2x, y2⟩ := open_by (hval 2 23 v2 rfl rfl) h2
  clear hA0 hval0
  refine (walk v0 d0x a1 w1 v2 d2x W y0 y2).mono fun e W' ⟨he, hb⟩ => ?_
  subst he
  exact ⟨_, rfl, law_post laidOut (by rw [Try.params6]; decide +kernel) (by kernel_rfl) Try.underlying4 rfl ⟨rfl, by simp [Rows.countSidesSpec], rfl⟩ hW' hb⟩

theorem over : Rows.countSidesRow.holds Try.pinned (OpenSpec.ofChange Rows.countSidesSpec) :=
  OpenClaim.holds_of_wide 6 Try.f6 rfl rfl rfl rfl rfl rfl rfl ⟨rfl, rfl, rfl, rfl, rfl⟩ rfl rfl rfl rfl rfl (by kernel_rfl) Try.func6 (by kernel_rfl)
    (of_decide_eq_true (by kernel_rfl)) (by unfold Func.isWrapper; first | (rw [if_pos (by decide +kernel)]; kernel_rfl) | (rw [if_neg (by decide +kernel)]; exact ⟨rfl, rfl⟩))
    (fun os started H enc _ => lifted os started H enc)

end Go.Proofs.Ytkklkhnoljmgbaa.countSides
namespace Go.Proofs.Ytkklkhnoljmgbaa
theorem countSides_proved : Rows.CountSidesSaid := countSides.over
end Go.Proofs.Ytkklkhnoljmgbaa
