/-
  For every disk, two places and bytes DevReads answers true and leaves its arguments as they were. No condition.
-/
import Derived.Test.YtkedhekcjoiebaaGen03
namespace Go.Proofs.Ytkedhekcjoiebaa.devReads
open Go.ChangeShapes Go.WideShapes Go.RowKit

theorem own : ownKnob Try.prog.godebug = none := by kernel_rfl
theorem laidOut : laidOutB Try.prog = true := by kernel_rfl

set_option maxRecDepth 100000 in
set_option maxHeartbeats 4000000 in
theorem walk (v : Value) (d : Dk) (n : Int) (hn : (Lit.int .i64 n).wf = true) (o : Int) (ho : (Lit.int .i64 o).wf = true) (u : Value) (xs : List UInt8) (w : World) (h : Dsk (Old w) w v d) (hu : rBy (Old w) w [u] xs) :
    Calls Try.prog 5 #[v, .int .i64 n, .int .i64 o, u] w fun e w' => e = .returned (.bool true) ∧ Below w.heap.size w w' := by
  clear hn ho
  obtain ⟨A, c, B, e, rfl, _⟩ := id h.open
  obtain ⟨E, ce, rfl, _⟩ := id (rBy_open hu)
  obtain ⟨w0, hw0, x0, hB0, hs0⟩ := box_new h
  have u0 := Lib.hid (stab_by.old hu hB0)
  clear h hu
  replace x0 := Lib.hid x0
  replace hs0 := Lib.hid hs0
  go_enter Try.func5, Try.ntmps5
  go_upto_region 1 with fail
  clear hw0
  go_wp2_with fail
  with_reducible refine (alive_any _).mono ?_
  rintro e1 w1 ⟨rfl, hb1⟩
  have x1 := Lib.hid (x0.out.below hb1)
  have u1 := Lib.hid (stab_by.old u0.out hb1)
  have hB1 := hB0.trans (hb1.mono hB0.size)
  obtain ⟨z1, z2, _, _⟩ := x1.out.cells
  clear hb1 x0 u0 hB0
  go_wp2_with fail
  with_reducible refine (great_any _ d _ x1.out.dsk).mono ?_
  rintro e2 w2 ⟨rfl, hb2⟩
  have x2 := Lib.hid (x1.out.below hb2)
  have u2 := Lib.hid (stab_by.old u1.out hb2)
  have hB2 := hB1.trans (hb2.mono hB1.size)
  clear hb2 x1 u1 hB1 z1 z2
  obtain ⟨z1, z2, _, _⟩ := x2.out.cells
  cases hg : greatB d with
  | true =>
    go_wp2_with fail
    go_ret
    exact ⟨rfl, hB2⟩
  | false =>
    by_cases hl : 10000 < xs.length
    · have hl' : (10000 : Int) < xs.length := by omega
      go_wp2_with fail
      go_ret
      exact ⟨rfl, hB2⟩
    · have hl' : ¬ (10000 : Int) < xs.length := by omega
      clear hg
      go_wp2_with fail
      with_reducible refine (write_gen _ _ d n xs _ x2.out.dsk u2.out).mono ?_
      rintro e3 w3 ⟨A3, c3, B3, f3, rfl, hx3, hb3⟩
      have x3 := Lib.hid (x2.out.below hb3)
      have u3 := Lib.hid (stab_by.old u2.out hb3)
      have hB3 := hB2.trans (hb3.mono hB2.size)
      clear hb3 x2 u2 hB2 z1 z2
      by_cases hw : wErr d n xs = 0
      · obtain ⟨hm, ht, h8, h9⟩ := write_fine hw (.inr trivial)
        obtain ⟨r1, r2⟩ := rdB_same hw
        obtain ⟨m1, m2, m3⟩ := may_wrR hw
        have hrs := Lib.hid (rdB_settled (wrR d n xs) o)
        have hne : Hid (o ≠ n → rdB d o = rdB (wrR d n xs) o) := Lib.hid fun h => (rdB_write hw h).symm
        rw [hw]
        have hst := Lib.hid (may_settled m1)
        have hs2 := Lib.hid (settled_len2 (wrR d n xs))
        generalize wrR d n xs = d3 at *
        rw [m2] at hx3 ⊢
        obtain ⟨wa, hwa, ya, hba, hsa⟩ := box_new (A := A3) (c := c3) (B := B3) (e := f3) (d := d3) (by rw [m2]; exact hx3)
        rw [m2] at hwa
        have x4 := Lib.hid (x3.out.below hba)
        have u4 := Lib.hid (stab_by.old u3.out hba)
        have hB4 := hB3.trans (hba.mono hB3.size)
        obtain ⟨z1, z2, _, _⟩ := x4.out.cells
        obtain ⟨z3, z4, _, _⟩ := ya.cells
        rw [m2] at z4
        replace ya := Lib.hid ya
        replace hsa := Lib.hid hsa
        replace hm := Lib.hid hm
        replace m1 := Lib.hid m1
        replace m2 := Lib.hid m2
        replace m3 := Lib.hid m3
        replace r1 := Lib.hid r1
        replace r2 := Lib.hid r2
        clear hx3 hba x3 u3 hB3 hw ht h8 hl
        go_upto_region 7 with fail
        clear hwa
        go_wp2_with fail
        have ya2 : Hid (Dsk (Old wa) wa (.agg #[.slice A3 d3.1.length c3, .slice B3 (d.2.length + 1) f3]) d3) := Lib.hid (by have := ya.out.dsk; rwa [m2.out] at this)
        with_reducible refine (read_gen _ d3 n _ ya2.out m1.out).mono ?_
        rintro e5 w5 ⟨E5, q5, rfl, hr5, hb5⟩
        rw [r1.out] at hr5 ⊢
        rw [r2.out]
        have x5 := Lib.hid (x4.out.below hb5)
        have y5 := Lib.hid (ya.out.below hb5)
        have u5 := Lib.hid (stab_by.old u4.out hb5)
        have hB5 := hB4.trans (hb5.mono hB4.size)
        have s1 := rBy_str0 hr5
        have s2 := rBy_str0 u5.out
        have t1 : (xs == xs) = true := by simp
        have t2 : ((d.2.length : Int) + 1 != (d.2.length : Int) + 1) = false := by simp
        clear x4 ya ya2 hb5 hB4 z1 z2 z3 z4
        obtain ⟨z1, z2, _, _⟩ := x5.out.cells
        obtain ⟨z3, z4, _, _⟩ := y5.out.cells
        rw [m2.out] at z4
        replace hr5 := Lib.hid hr5
        go_wp2_with fail
        with_reducible refine (read_gen _ d o _ x5.out.dsk hm.out).mono ?_
        rintro e6 w6 ⟨E6, q6, rfl, hr6, hb6⟩
        have y6 := Lib.hid (y5.out.below hb6)
        have hB6 := hB5.trans (hb6.mono hB5.size)
        clear x5 y5 hb6 hB5 z1 z2 z3 z4 s1 s2 u5 hr5
        obtain ⟨z3, z4, _, _⟩ := y6.out.cells
        rw [m2.out] at z4
        replace hr6 := Lib.hid hr6
        have y62 : Hid (Dsk (Old w6) w6 (.agg #[.slice A3 d3.1.length c3, .slice B3 (d.2.length + 1) f3]) d3) := Lib.hid (by have := y6.out.dsk; rwa [m2.out] at this)
        go_wp2_with fail
        with_reducible refine (read_gen _ d3 o _ y62.out m1.out).mono ?_
        rintro e7 w7 ⟨E7, q7, rfl, hr7, hb7⟩
        have y7 := Lib.hid (y6.out.below hb7)
        have hr67 := Lib.hid (stab_by.old hr6.out hb7)
        have hB7 := hB6.trans (hb7.mono hB6.size)
        clear y6 y62 hb7 hB6 z3 z4 hr6
        obtain ⟨z3, z4, _, _⟩ := y7.out.cells
        rw [m2.out] at z4
        replace hr7 := Lib.hid hr7
        have y72 : Hid (Dsk (Old w7) w7 (.agg #[.slice A3 d3.1.length c3, .slice B3 (d.2.length + 1) f3]) d3) := Lib.hid (by have := y7.out.dsk; rwa [m2.out] at this)
        go_wp2_with fail
        with_reducible refine (barrier_old _ d3 _ y72.out m1.out).mono ?_
        rintro e8 w8 ⟨A8, c8, B8, f8, rfl, hx8, hb8⟩
        have hr68 := Lib.hid (stab_by.old hr67.out hb8)
        have hr78 := Lib.hid (stab_by.old hr7.out hb8)
        have hB8 := hB7.trans (hb8.mono hB7.size)
        clear y7 y72 hb8 hB7 z3 z4 hr67 hr7
        obtain ⟨wb, hwb, yb, hbb, hsb⟩ := box_new hx8
        have hr69 := Lib.hid (stab_by.old hr68.out hbb)
        have hr79 := Lib.hid (stab_by.old hr78.out hbb)
        have hB9 := hB8.trans (hbb.mono hB8.size)
        obtain ⟨z1, z2, _, _⟩ := yb.cells
        replace yb := Lib.hid yb
        replace hsb := Lib.hid hsb
        clear hx8 hbb hB8 hr68 hr78
        go_upto_region 15 with fail
        clear hwb
        go_wp2_with fail
        with_reducible refine (read_gen _ (settledD d3) o _ yb.out.dsk hst.out).mono ?_
        rintro e10 w10 ⟨E10, q10, rfl, hr10, hb10⟩
        have yc := Lib.hid (yb.out.below hb10)
        have s1 := rBy_str0 (stab_by.old hr69.out hb10)
        have s2 := rBy_str0 (stab_by.old hr79.out hb10)
        have s3 := rBy_str0 hr10
        have hB10 := hB9.trans (hb10.mono hB9.size)
        rw [hrs.out] at s3 ⊢
        clear yb hb10 hB9 z1 z2 hr69 hr79 hr10 hrs
        obtain ⟨z1, z2, _, _⟩ := yc.out.cells
        rw [hs2.out] at z2
        have t3 : (rdB d3 o == rdB d3 o) = true := by simp
        have t4 : (rdE o != rdE o) = false := by simp
        by_cases hon : o = n
        · have t5 : (o == n) = true := by simpa using hon
          replace hon := Lib.hid hon
          generalize rdB d3 o = ys at *
          generalize rdB d o = zs at *
          generalize rdE o = re at *
          go_wp2_with fail
          go_ret
          exact ⟨rfl, hB10⟩
        · have t5 : (o == n) = false := by simpa using hon
          rw [hne.out hon] at s1
          rw [hne.out hon]
          clear hne hon
          generalize rdB d3 o = ys at *
          generalize rdE o = re at *
          go_wp2_with fail
          go_ret
          exact ⟨rfl, hB10⟩
      · have hwe : Hid (wrR d n xs = emptyD) := Lib.hid (by simp [wrR, hw])
        rw [hwe.out] at hx3 ⊢
        obtain ⟨q, hq⟩ : ∃ q, wErr d n xs = q := ⟨_, rfl⟩
        rw [hq] at hw ⊢
        replace hq := Lib.hid hq
        have hq2 : (q != 0) = true := by simpa using hw
        clear hw
        go_wp2_with fail
        go_ret
        exact ⟨rfl, (hB3.alloc hB3.size _)⟩

/-! ### The row's step -/
set_option maxRecDepth 100000 in
theorem lifted (os : Os) (started : os.Started) (H : Type) (enc : TypeId × Value → H) :
    ReturnsInHanded {} Try.checked os 5 .any (Rows.devReadsSpec.pre6 enc Try.prog Try.f5 Rows.devReadsRow.domain false) (Rows.devReadsSpec.post enc Try.prog Try.f5 false true false false) := by
  refine returnsInHanded_of_change (C := Try.checked) own started (by kernel_rfl) Try.func5
    (ChangeSpec.witness6 (enc := enc) (C := Try.checked) false ⟨#[], #[.agg #[.slice none 0 0, .slice none 0 0], .int .i64 0, .int .i64 0, .slice none 0 0], []⟩ 8 (by kernel_rfl) (by kernel_rfl) (by kernel_rfl) (by kernel_rfl)) ?_
  intro W base args ds gs before hval0 hW _ _
  have hval : ∀ (j : Nat) t v, Try.f5.params[j]? = some t → args[j]? = some v → Value.okWide Try.prog W .any base t v := hval0
  have hW' := hW
  obtain ⟨p, q, hA0, hV, _, _, _⟩ := hW
  have hA : DataW.TrodAll enc Try.prog W 0 (fun _ => true) true Try.f5.params.toList args.toList ds p := hA0
  rw [Try.params5] at hA hval
  obtain ⟨v0, vs0, d0, ds0, p0, q0, hargs, rfl, _, h0, r0⟩ := trodAll_cons hA
  obtain ⟨v1, vs1, d1, ds1, p1, q1, rfl, rfl, _, h1, r1⟩ := trodAll_cons r0
  obtain ⟨v2, vs2, d2, ds2, p2, q2, rfl, rfl, _, h2, r2⟩ := trodAll_cons r1
  obtain ⟨v3, vs3, d3, ds3, p3, q3, rfl, rfl, _, h3, r3⟩ := trodAll_cons r2
  obtain ⟨rfl, rfl, _⟩ := trodAll_nil r3
  obtain rfl : args = #[v0, v1, v2, v3] := by cases args; simp_all
  obtain ⟨rfl, _⟩ := trodVars_none hV
  obtain ⟨d0x, y0⟩ := open_disk (hval 0 30 v0 rfl rfl) h0
  obtain ⟨a1, rfl, _, _, w1⟩ := open_int Try.underlying3 (hval 1 3 v1 rfl rfl) h1
  obtain ⟨a2, rfl, _, _, w2⟩ := open_int Try.underlying3 (hval 2 3 v2 rfl rfl) h2
  obtain ⟨d3x, y3⟩ := open_by (hval 3 23 v3 rfl rfl) h3
  clear hA0 hval0
  refine (walk v0 d0x a1 w1 a2 w2 v3 d3x W y0 y3).mono fun e W' ⟨he, hb⟩ => ?_
  subst he
  exact ⟨_, rfl, law_post laidOut (by rw [Try.params5]; decide +kernel) (by kernel_rfl) Try.underlying4 rfl ⟨rfl, by simp [Rows.devReadsSpec], rfl⟩ hW' hb⟩

theorem over : Rows.devReadsRow.holds Try.pinned (OpenSpec.ofChange Rows.devReadsSpec) :=
  OpenClaim.holds_of_wide 5 Try.f5 rfl rfl rfl rfl rfl rfl rfl ⟨rfl, rfl, rfl, rfl, rfl⟩ rfl rfl rfl rfl rfl (by kernel_rfl) Try.func5 (by kernel_rfl)
    (of_decide_eq_true (by kernel_rfl)) (by unfold Func.isWrapper; first | (rw [if_pos (by decide +kernel)]; kernel_rfl) | (rw [if_neg (by decide +kernel)]; exact ⟨rfl, rfl⟩))
    (fun os started H enc _ => lifted os started H enc)

end Go.Proofs.Ytkedhekcjoiebaa.devReads
namespace Go.Proofs.Ytkedhekcjoiebaa
theorem devReads_proved : Rows.DevReadsSaid := devReads.over
end Go.Proofs.Ytkedhekcjoiebaa
