/-
  For every disk, place and bytes DevBounds answers true and leaves its arguments as they were. No condition.
-/
import Derived.Test.YtkedhekcjoiebaaAlive03
namespace Go.Proofs.Ytkedhekcjoiebaa.devBounds
open Go.ChangeShapes Go.WideShapes Go.RowKit

theorem own : ownKnob Try.prog.godebug = none := by kernel_rfl
theorem laidOut : laidOutB Try.prog = true := by kernel_rfl

set_option maxRecDepth 100000 in
set_option maxHeartbeats 4000000 in
theorem walk (v : Value) (d : Dk) (n : Int) (hn : (Lit.int .i64 n).wf = true) (u : Value) (xs : List UInt8) (w : World) (h : Dsk (Old w) w v d) (hu : rBy (Old w) w [u] xs) :
    Calls Try.prog 8 #[v, .int .i64 n, u] w fun e w' => e = .returned (.bool true) ∧ Below w.heap.size w w' := by
  clear hn
  obtain ⟨A, c, B, e, rfl, _⟩ := id h.open
  obtain ⟨E, ce, rfl, _⟩ := id (rBy_open hu)
  obtain ⟨w0, hw0, b0, hs0, hB0⟩ := box_pair' w (.slice A d.1.length c) (.slice B d.2.length e) 30
  have h0 := h.below hB0
  have u0 := stab_by.old hu hB0
  clear h hu
  replace b0 := Lib.hid b0
  replace hs0 := Lib.hid hs0
  replace h0 := Lib.hid h0
  replace u0 := Lib.hid u0
  go_enter Try.func8, Try.ntmps8
  go_upto_region 1 with fail
  clear hw0
  go_wp2_with fail
  refine (alive_any _).mono ?_
  rintro e1 w1 ⟨rfl, hb1⟩
  have h1 := Lib.hid (h0.out.below hb1)
  have u1 := Lib.hid (stab_by.old u0.out hb1)
  have hB1 := hB0.trans (hb1.mono hB0.size)
  have b1 := (hb1.block w.heap.size (by rw [hs0.out]; omega)).trans b0.out
  obtain ⟨z1, z2, _, lt1⟩ := two_cells b1
  replace b1 := Lib.hid b1
  clear hb1 h0 u0 b0 hs0 hB0
  go_wp2_with fail
  refine (great_any _ d _ h1.out).mono ?_
  rintro e2 w2 ⟨rfl, hb2⟩
  have h2 := Lib.hid (h1.out.below hb2)
  have u2 := Lib.hid (stab_by.old u1.out hb2)
  have hB2 := hB1.trans (hb2.mono hB1.size)
  have b2 := (hb2.block w.heap.size lt1).trans b1.out
  obtain ⟨y1, y2, _, lt2⟩ := two_cells b2
  replace b2 := Lib.hid b2
  clear hb2 h1 u1 b1 hB1 z1 z2
  cases hg : greatB d with
  | true =>
    go_wp2_with fail
    go_ret
    exact ⟨rfl, hB2⟩
  | false =>
    by_cases hl : 10000 < xs.length
    · have hl' : (10000 : Int) < xs.length := by omega
      go_wp2_with fail
      go_ret
      exact ⟨rfl, hB2⟩
    · have hl' : ¬ (10000 : Int) < xs.length := by omega
      go_wp2_with fail
      refine (check_any _ d _ h2.out).mono ?_
      rintro e3 w3 ⟨rfl, hb3⟩
      have h3 := Lib.hid (h2.out.below hb3)
      have u3 := Lib.hid (stab_by.old u2.out hb3)
      have hB3 := hB2.trans (hb3.mono hB2.size)
      have b3 := (hb3.block w.heap.size lt2).trans b2.out
      obtain ⟨x1, x2, _, lt3⟩ := two_cells b3
      replace b3 := Lib.hid b3
      clear hb3 h2 u2 b2 hB2 y1 y2
      cases hm : mayB d with
      | false =>
        rw [chk_bad hm]
        go_wp2_with fail
        go_ret
        exact ⟨rfl, hB3⟩
      | true =>
        rw [chk_ok hm]
        obtain ⟨hm1, hm2, _, _⟩ := may_of hm
        by_cases hw : wErr d n xs = 0
        · have hgood : thereB n = true ∧ xs.length = 128 ∧ d.2.length < 4096 := by
            unfold wErr at hw
            rw [hm] at hw
            cases ht : thereB n with
            | false => rw [ht] at hw; simp at hw
            | true =>
              rw [ht] at hw
              by_cases h8 : xs.length = 128
              · by_cases h9 : d.2.length = 4096
                · simp [h8, h9] at hw
                · exact ⟨rfl, h8, by omega⟩
              · simp [h8] at hw
          obtain ⟨ht, h8, h9⟩ := hgood
          obtain ⟨k, rfl, hk⟩ := thereB_nat ht
          have i1 : (0 : Int) ≤ (k : Int) := by omega
          have i2 : (k : Int) < 256 := by omega
          have i3 : ((xs.length : Int) == 128) = true := by rw [h8]; rfl
          have i4 : (d.2.length : Int) < 4096 := by omega
          have hmw := Lib.hid (chk_ok (may_write (k := k) hm hk h8 h9))
          have hlw := Lib.hid (wrD_len d k xs)
          replace h8 := Lib.hid h8
          replace hm := Lib.hid hm
          clear hw ht hg hm1 hm2
          go_wp2_with fail
          refine (write_wr _ _ d k xs _ h3.out u3.out hm.out hk h8.out h9).mono ?_
          rintro e4 w4 ⟨x, rfl, hx, hb4⟩
          obtain ⟨A4, c4, B4, d4, rfl, _⟩ := id hx.open
          rw [hlw.out] at hx ⊢
          rw [wrD_fst] at hx ⊢
          have h4 := Lib.hid (h3.out.below hb4)
          have hB4 := hB3.trans (hb4.mono hB3.size)
          have b4 := (hb4.block w.heap.size lt3).trans b3.out
          clear hb4 h3 u3 b3 hB3 x1 x2
          obtain ⟨wb, hwb, c1, c3, hbb⟩ := box_pair' w4 (.slice A4 d.1.length c4) (.slice B4 (d.2.length + 1) d4) 30
          have hxb := Lib.hid (hx.drop.below hbb)
          have h5 := Lib.hid (h4.out.below hbb)
          have hBb := hB4.trans (hbb.mono hB4.size)
          have b5 := (hbb.block w.heap.size (Array.getElem?_eq_some_iff.1 b4).1).trans b4
          obtain ⟨z1, z2, _, lt5⟩ := two_cells b5
          obtain ⟨z3, z4, _, lt6⟩ := two_cells c1
          replace b4 := Lib.hid b4
          replace b5 := Lib.hid b5
          replace c1 := Lib.hid c1
          replace c3 := Lib.hid c3
          clear hx hbb h4 hB4
          go_upto_region 5 with fail
          clear hwb
          go_wp2_with fail
          refine (read_ok _ d k _ h5.out hm.out hk).mono ?_
          rintro e5 w6 ⟨y, rfl, _, hb6⟩
          have hB6 := hBb.trans (hb6.mono hBb.size)
          have hx6 := Lib.hid (hxb.out.below hb6)
          obtain ⟨q1, q2, _, _⟩ := two_cells ((hb6.block w.heap.size lt5).trans b5.out)
          obtain ⟨q3, q4, _, _⟩ := two_cells ((hb6.block w4.heap.size lt6).trans c1.out)
          clear hb6 h5 hxb hBb z1 z2 z3 z4
          have i5 : ((d.2.length : Int) + 1 == (d.2.length : Int) + 1) = true := by simp
          go_wp2_with fail
          refine (check_any _ (wrD d k xs) _ hx6.out).mono ?_
          rintro e7 w7 ⟨rfl, hb7⟩
          rw [hmw.out]
          go_wp2_with fail
          go_ret
          exact ⟨rfl, hB6.trans (hb7.mono hB6.size)⟩
        · have hread : ∀ W, Dsk (Old W) W (.agg #[.slice A d.1.length c, .slice B d.2.length e]) d → Calls Try.prog 10 #[.agg #[.slice A d.1.length c, .slice B d.2.length e], .int .i64 n] W fun e W' => ∃ y q, e = .returned (.tuple #[y, .int .i64 q]) ∧ (q = 0 ↔ thereB n = true) ∧ Below W.heap.size W W' := fun W hW => by
            cases ht : thereB n with
            | true =>
              obtain ⟨k, rfl, hk⟩ := thereB_nat ht
              exact (read_ok _ d k W hW hm hk).mono fun _ _ ⟨y, e, _, hb⟩ => ⟨y, 0, e, by simp, hb⟩
            | false =>
              exact (read_bad _ d n W hW (by simp [ht])).mono fun _ _ ⟨e, hb⟩ => ⟨_, _, e, by rw [chkAt_out hm ht]; simp, hb⟩
          replace hread := Lib.hid hread
          have hbad : ¬ (thereB n = true ∧ xs.length = 128 ∧ d.2.length < 4096) := fun ⟨h1, h2, h3⟩ => hw (by
            have : ¬ d.2.length = 4096 := by omega
            simp [wErr, hm, h1, h2, this])
          have hwq : Hid (wErr d n xs ≠ 0) := Lib.hid hw
          clear hw hg hm1
          go_wp2_with fail
          with_reducible refine (write_bad _ _ d n xs _ h3.out u3.out hwq.out).mono ?_
          rintro e4 w4 ⟨rfl, hb4⟩
          obtain ⟨q, hq⟩ : ∃ q, wErr d n xs = q := ⟨_, rfl⟩
          have hq0 : ¬ q = 0 := by rw [← hq]; exact hwq.out
          rw [hq]
          replace hq := Lib.hid hq
          have h4 := Lib.hid (h3.out.below hb4)
          have hB4 := hB3.trans (hb4.mono hB3.size)
          have b4 := (hb4.block w.heap.size lt3).trans b3.out
          clear hb4 h3 u3 b3 hB3 x1 x2
          obtain ⟨wb, hwb, c1, c3, hbb⟩ := box_pair' w4 (.slice none 0 0) (.slice none 0 0) 30
          have h5 := Lib.hid (h4.out.below hbb)
          have hBb := hB4.trans (hbb.mono hB4.size)
          have b5 := (hbb.block w.heap.size (Array.getElem?_eq_some_iff.1 b4).1).trans b4
          obtain ⟨z1, z2, _, lt5⟩ := two_cells b5
          obtain ⟨z3, z4, _, lt6⟩ := two_cells c1
          replace b4 := Lib.hid b4
          replace b5 := Lib.hid b5
          replace c1 := Lib.hid c1
          replace c3 := Lib.hid c3
          clear hbb h4 hB4
          replace hwb := Lib.hid hwb
          go_upto_region 5 with fail
          rw [hwb.out]
          clear hwb
          go_wp2_with fail
          with_reducible refine (hread.out _ h5.out).mono ?_
          rintro e5 w6 ⟨y, r, rfl, hr, hb6⟩
          have hB6 := hBb.trans (hb6.mono hBb.size)
          obtain ⟨q1, q2, _, _⟩ := two_cells ((hb6.block w.heap.size lt5).trans b5.out)
          obtain ⟨q3, q4, _, _⟩ := two_cells ((hb6.block w4.heap.size lt6).trans c1.out)
          clear hb6 h5 hBb z1 z2 z3 z4
          have hq1 : (q == 0) = false := by simpa using hq0
          have hq2 : (q != 0) = true := by simpa using hq0
          clear hq0
          cases ht : thereB n with
          | false =>
            have hr0 : (r == 0) = false := by simp; intro e; rw [ht] at hr; simp [e] at hr
            clear hr hbad
            by_cases i1 : 0 ≤ n
            · have i2 : ¬ n < 256 := by
                simp only [thereB, Bool.and_eq_false_iff, decide_eq_false_iff_not] at ht
                omega
              replace ht := Lib.hid ht
              go_wp2_with fail
              go_ret
              exact ⟨rfl, hB6⟩
            · replace ht := Lib.hid ht
              go_wp2_with fail
              go_ret
              exact ⟨rfl, hB6⟩
          | true =>
            have hr0 : r = 0 := hr.2 ht
            subst hr0
            clear hr
            obtain ⟨k, rfl, hk⟩ := thereB_nat ht
            have i1 : (0 : Int) ≤ (k : Int) := by omega
            have i2 : (k : Int) < 256 := by omega
            by_cases h8 : xs.length = 128
            · have i4 : ¬ (d.2.length : Int) < 4096 := fun h => hbad ⟨ht, h8, by omega⟩
              have i3 : ((xs.length : Int) == 128) = true := by rw [h8]; rfl
              replace h8 := Lib.hid h8
              replace ht := Lib.hid ht
              clear hbad
              go_wp2_with fail
              go_ret
              exact ⟨rfl, hB6⟩
            · have i3 : ((xs.length : Int) == 128) = false := by simp; omega
              replace ht := Lib.hid ht
              clear hbad h8
              go_wp2_with fail
              go_ret
              exact ⟨rfl, hB6⟩

/-! ### The row's step -/
set_option maxRecDepth 100000 in
theorem lifted (os : Os) (started : os.Started) (H : Type) (enc : TypeId × Value → H) :
    ReturnsInHanded {} Try.checked os 8 .any (Rows.devBoundsSpec.pre6 enc Try.prog Try.f8 Rows.devBoundsRow.domain false) (Rows.devBoundsSpec.post enc Try.prog Try.f8 false true false false) := by
  refine returnsInHanded_of_change (C := Try.checked) own started (by kernel_rfl) Try.func8
    (ChangeSpec.witness6 (enc := enc) (C := Try.checked) false ⟨#[], #[.agg #[.slice none 0 0, .slice none 0 0], .int .i64 0, .slice none 0 0], []⟩ 8 (by kernel_rfl) (by kernel_rfl) (by kernel_rfl) (by kernel_rfl)) ?_
  intro W base args ds gs before hval0 hW _ _
  have hval : ∀ (j : Nat) t v, Try.f8.params[j]? = some t → args[j]? = some v → Value.okWide Try.prog W .any base t v := hval0
  have hW' := hW
  obtain ⟨p, q, hA0, hV, _, _, _⟩ := hW
  have hA : DataW.TrodAll enc Try.prog W 0 (fun _ => true) true Try.f8.params.toList args.toList ds p := hA0
  rw [Try.params8] at hA hval
  obtain ⟨v0, vs0, d0, ds0, p0, q0, hargs, rfl, _, h0, r0⟩ := trodAll_cons hA
  obtain ⟨v1, vs1, d1, ds1, p1, q1, rfl, rfl, _, h1, r1⟩ := trodAll_cons r0
  obtain ⟨v2, vs2, d2, ds2, p2, q2, rfl, rfl, _, h2, r2⟩ := trodAll_cons r1
  obtain ⟨rfl, rfl, _⟩ := trodAll_nil r2
  obtain rfl : args = #[v0, v1, v2] := by cases args; simp_all
  obtain ⟨rfl, _⟩ := trodVars_none hV
  obtain ⟨d0x, y0⟩ := open_disk (hval 0 30 v0 rfl rfl) h0
  obtain ⟨a1, rfl, _, _, w1⟩ := open_int Try.underlying3 (hval 1 3 v1 rfl rfl) h1
  obtain ⟨d2x, y2⟩ := open_by (hval 2 23 v2 rfl rfl) h2
  clear hA0 hval0
  refine (walk v0 d0x a1 w1 v2 d2x W y0 y2).mono fun e W' ⟨he, hb⟩ => ?_
  subst he
  exact ⟨_, rfl, law_post laidOut (by rw [Try.params8]; decide +kernel) (by kernel_rfl) Try.underlying4 rfl ⟨rfl, by simp [Rows.devBoundsSpec], rfl⟩ hW' hb⟩

theorem over : Rows.devBoundsRow.holds Try.pinned (OpenSpec.ofChange Rows.devBoundsSpec) :=
  OpenClaim.holds_of_wide 8 Try.f8 rfl rfl rfl rfl rfl rfl rfl ⟨rfl, rfl, rfl, rfl, rfl⟩ rfl rfl rfl rfl rfl (by kernel_rfl) Try.func8 (by kernel_rfl)
    (of_decide_eq_true (by kernel_rfl)) (by unfold Func.isWrapper; first | (rw [if_pos (by decide +kernel)]; kernel_rfl) | (rw [if_neg (by decide +kernel)]; exact ⟨rfl, rfl⟩))
    (fun os started H enc _ => lifted os started H enc)

end Go.Proofs.Ytkedhekcjoiebaa.devBounds
namespace Go.Proofs.Ytkedhekcjoiebaa
theorem devBounds_proved : Rows.DevBoundsSaid := devBounds.over
end Go.Proofs.Ytkedhekcjoiebaa
