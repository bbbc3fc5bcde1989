/-
  RingNames answers true: the chapter's numbers and examples are so. No condition, no argument.
-/
import Derived.Test.YtdcgcnnofjekaaaBnd3
import Derived.Deep.CutBlock
namespace Go.Proofs.Ytdcgcnnofjekaaa.ringNames
open Go.ChangeShapes Go.WideShapes Go.RowKit

theorem own : ownKnob Try.prog.godebug = none := by kernel_rfl
theorem laidOut : laidOutB Try.prog = true := by kernel_rfl

def s6 : Sp := (6, 9, 0, 0, [])
theorem in6 : InSp s6 := ⟨⟨by decide, by decide⟩, ⟨by decide, by decide⟩, ⟨by decide, by decide⟩, ⟨by decide, by decide⟩⟩
theorem find0 : findE zeroD = 40 ∧ findS zeroD = [] := by
  have hst : stands zeroD = [] := by
    rw [stands_eq]
    simp only [stand_zero (show 0 < 256 by decide), stand_zero (show 1 < 256 by decide), stand_zero (show 2 < 256 by decide), stand_zero (show 3 < 256 by decide)]
    rfl
  exact ⟨by unfold findE; rw [may_zero, hst]; rfl, by unfold findS; rw [may_zero, hst]; rfl⟩
theorem find6 : putE (putR zeroD s5) s6 = 0 ∧ findE (putR (putR zeroD s5) s6) = 0 ∧ findS (putR (putR zeroD s5) s6) = [s6, s5] := by
  obtain ⟨_, h2, h3⟩ := put_ok (k := 1) (by decide) (by decide) puts5
  have hp : Puts (putR zeroD s5) s6 := ⟨h3, by decide, by rw [h2, wrD_len, zero_len2]; decide⟩
  obtain ⟨g1, _, g3⟩ := put_ok (k := 2) (by decide) (by decide) hp
  have hst : stands (putR (putR zeroD s5) s6) = [s5, s6] := by
    rw [stands_eq]
    simp only [stand_put in6 (k := 2) (by decide) (by decide) hp, stand_put in5 (k := 1) (by decide) (by decide) puts5, stand_zero (show 0 < 256 by decide), stand_zero (show 3 < 256 by decide)]
    rfl
  exact ⟨g1, by unfold findE; rw [g3, hst]; rfl, by unfold findS; rw [g3, hst]; rfl⟩
theorem read_one : reE [1] = 3 := by
  unfold reE oe
  simp
theorem read_zeros : reE (zeros 128) = 8 := nought_bad
set_option maxRecDepth 100000 in
set_option maxHeartbeats 16000000 in
theorem walk (w : World) : Calls Try.prog 3 #[] w fun e w' => e = .returned (.bool true) ∧ Below w.heap.size w w' := by
  have F0 := Lib.hid find0
  have F5 := Lib.hid find5
  have F6 := Lib.hid find6
  have R1 := Lib.hid read_one
  have RZ := Lib.hid read_zeros
  go_enter Try.func3, Try.ntmps3
  go_wp2_with fail
  with_reducible refine (alive4 _).mono ?_
  rintro e1 w1 ⟨rfl, b1⟩
  have HW := Lib.hid b1
  clear b1
  go_wp2_with fail
  with_reducible refine (new_any _).mono ?_
  rintro e2 w2 ⟨u2, rfl, h2, b2⟩
  replace HW := Lib.hid (HW.out.trans (b2.mono HW.out.size))
  obtain ⟨A2, c2, B2, f2, rfl, _⟩ := id h2.open
  have h2o := Lib.hid h2.drop
  clear b2 h2
  go_wp2_with fail
  with_reducible refine (find_any _ zeroD _ h2o.out).mono ?_
  rintro e3 w3 ⟨u3, rfl, h3, b3⟩
  rw [F0.out.1]
  rw [F0.out.2] at h3
  replace HW := Lib.hid (HW.out.trans (b3.mono HW.out.size))
  clear b3 h2o
  replace h3 := Lib.hid h3
  go_wp2_with fail
  with_reducible refine (new_any _).mono ?_
  rintro e4 w4 ⟨u4, rfl, h4, b4⟩
  replace HW := Lib.hid (HW.out.trans (b4.mono HW.out.size))
  obtain ⟨A4, c4, B4, f4, rfl, _⟩ := id h4.open
  have h4o := Lib.hid h4.drop
  clear b4 h4
  go_wp2_with fail
  refine (put_any _ (.agg #[.int .u32 5, .int .i64 8, .int .u32 0, .int .u32 0, .slice none 0 0]) zeroD s5 _ h4o.out ⟨_, rfl, in5, rInts_none _ _⟩).mono ?_
  rintro e5 w5 ⟨u5, rfl, h5, b5⟩
  rw [F5.out.1]
  obtain ⟨D, hD⟩ : ∃ D, putR zeroD s5 = D := ⟨_, rfl⟩
  have F6' := F6.out
  rw [hD] at h5 F6'
  replace hD := Lib.hid hD
  replace HW := Lib.hid (HW.out.trans (b5.mono HW.out.size))
  obtain ⟨A5, c5, B5, f5, rfl, _⟩ := id h5.open
  obtain ⟨w6, hw6, y6, hs6, b6⟩ := box_pair' w5 (.slice A5 D.1.length c5) (.slice B5 D.2.length f5) 30
  have SZ := Lib.hid (show w.heap.size ≤ w5.heap.size ∧ w5.heap.size < w6.heap.size from ⟨HW.out.size, by omega⟩)
  have h6o := Lib.hid (h5.drop.below b6)
  replace HW := Lib.hid (HW.out.trans (b6.mono HW.out.size))
  obtain ⟨k1, k2, kf, _⟩ := two_cells y6
  replace y6 := Lib.hid y6
  replace hs6 := Lib.hid hs6
  have F7 := Lib.hid F6'
  clear b5 h5 b6 h4o F6'
  go_upto_region 5 with fail
  clear hw6
  go_wp2_with fail
  refine (put_any _ (.agg #[.int .u32 6, .int .i64 9, .int .u32 0, .int .u32 0, .slice none 0 0]) D s6 _ h6o.out ⟨_, rfl, in6, rInts_none _ _⟩).mono ?_
  rintro e7 w7 ⟨u7, rfl, h7, b7⟩
  rw [F7.out.1]
  obtain ⟨D2, hD2⟩ : ∃ D2, putR D s6 = D2 := ⟨_, rfl⟩
  have F8' := F7.out.2
  rw [hD2] at h7 F8'
  have F8 := Lib.hid F8'
  replace hD2 := Lib.hid hD2
  obtain ⟨A7, c7, B7, f7, rfl, _⟩ := id h7.open
  have y7 := (b7.block w5.heap.size SZ.out.2).trans y6.out
  obtain ⟨w8, hw8, y8, gr8, gs8⟩ := put_two (u := .slice A7 D2.1.length c7) (v := .slice B7 D2.2.length f7) y7
  have BW := HW.out.trans (b7.mono HW.out.size)
  replace HW := Lib.hid (BW.grown gr8 BW.size (fun q e => by cases e; exact SZ.out.1))
  have h8o := Lib.hid ((h7.grown gr8 (fun q e => by cases e; exact SZ.out.2)).drop)
  obtain ⟨m1, m2, mf, _⟩ := two_cells y7
  obtain ⟨n1, n2, _, _⟩ := two_cells y8
  replace y8 := Lib.hid y8
  replace y7 := Lib.hid y7
  replace gs8 := Lib.hid gs8
  clear k1 k2 kf b7 h7 BW gr8 F8' h6o
  go_upto_region 6 with fail
  clear hw8 m1 m2 mf
  go_wp2_with fail
  with_reducible refine (find_any _ D2 _ h8o.out).mono ?_
  rintro e9 w9 ⟨u9, rfl, h9, b9⟩
  rw [F8.out.1]
  rw [F8.out.2] at h9
  replace HW := Lib.hid (HW.out.trans (b9.mono HW.out.size))
  obtain ⟨X, xc, ex, l1, l2, hx⟩ := h9
  simp only [List.length_cons, List.length_nil, Nat.zero_add, List.cons.injEq, and_true] at ex l1
  subst ex
  obtain ⟨ad, vs, rfl, e5, q5, q6⟩ := hx 0 s6 rfl
  obtain ⟨dv, rfl, _, _⟩ := rSp_open q6
  obtain ⟨ad', vs', ead, g5, g6, g7⟩ := hx 1 s5 rfl
  cases ead
  obtain ⟨dv', rfl, _, _⟩ := rSp_open g7
  have t0 := q5 0 _ rfl
  have t1 := g6 0 _ rfl
  rw [show 0 * 5 + 0 = 0 from rfl] at t0
  rw [show 1 * 5 + 0 = 5 from rfl] at t1
  have HC := Lib.hid (fun W (hb : Below w9.heap.size w9 W) => (show W.cell? ad = some (.int .u32 6) ∧ W.cell? ⟨ad.block, ad.off + 5, none⟩ = some (.int .u32 5) from
    ⟨by have := (hb.cell t0.1.2.1).trans t0.2; simpa [Addr.add, s6] using this, by have := (hb.cell t1.1.2.1).trans t1.2; simpa [Addr.add, s5] using this⟩))
  clear b9 h8o n1 n2 hx e5 q5 q6 g5 g6 g7 t0 t1
  have hmk : (Instr.makeSlice 40 (.int .i64 128) (.int .i64 128)).run Try.prog w9 = .ok (.slice (some ⟨w9.heap.size, 0, none⟩) 128 128) (w9.alloc (.cells (rowA (zeros 128)) 5)) := make_bytes 128 (by omega) w9
  have hzb := row_by w9 (zeros 128) (by simp [zeros])
  rw [zeros_length] at hzb
  have bz := balloc (Below.refl w9.heap.size w9) (.cells (rowA (zeros 128)) 5)
  generalize w9.alloc (.cells (rowA (zeros 128)) 5) = wA at hmk hzb bz
  replace HW := Lib.hid (HW.out.trans (bz.mono HW.out.size))
  have CA := Lib.hid bz
  have hzo := Lib.hid (stab_by.drop hzb)
  have hl8 := Lib.hid (zeros_length 128)
  clear bz hzb
  go_wp2_with fail
  refine (ringRead_any _ (zeros 128) _ (by rw [hl8.out]; omega) hzo.out).mono ?_
  rintro eB wB ⟨uB, rfl, hB, bB⟩
  rw [RZ.out]
  obtain ⟨r, hr⟩ : ∃ r, reS (zeros 128) = r := ⟨_, rfl⟩
  rw [hr] at hB
  replace hr := Lib.hid hr
  obtain ⟨C, cc, rfl, _⟩ := hB.open
  obtain ⟨wC, hwC, _, _, _, _, _, hsC, bC, _⟩ := box_five wB (.int .u32 r.1) (.int .i64 r.2.1) (.int .u32 r.2.2.1) (.int .u32 r.2.2.2.1) (.slice C r.2.2.2.2.length cc) 37
  have CC := Lib.hid ((CA.out.trans (bB.mono CA.out.size)).trans (bC.mono (CA.out.trans (bB.mono CA.out.size)).size))
  replace HW := Lib.hid ((HW.out.trans (bB.mono HW.out.size)).trans (bC.mono (HW.out.trans (bB.mono HW.out.size)).size))
  replace hsC := Lib.hid hsC
  clear hB bB bC hmk hzo
  go_upto_region 8 with fail
  clear hwC
  obtain ⟨wD, hwD, hD1⟩ : ∃ wD, wC.alloc (.cells #[.int .u8 1] 5) = wD ∧ rBy (Old wD) wD [.slice (some ⟨wC.heap.size, 0, none⟩) 1 1] [1] := ⟨_, rfl, byte_lit wC 5 1 1 rfl⟩
  have bD : Below wC.heap.size wC wD := by rw [← hwD]; exact (Below.refl _ _).alloc (Nat.le_refl _) _
  have CD := Lib.hid (CC.out.trans (bD.mono CC.out.size))
  replace HW := Lib.hid (HW.out.trans (bD.mono HW.out.size))
  replace hD1 := Lib.hid hD1
  clear bD
  go_wp2_with fail
  refine (ringRead_any _ [1] _ (by simp) hD1.out).mono ?_
  rintro eE wE ⟨uE, rfl, hE, bE⟩
  rw [R1.out]
  obtain ⟨p, hp⟩ : ∃ p, reS [1] = p := ⟨_, rfl⟩
  rw [hp] at hE
  replace hp := Lib.hid hp
  obtain ⟨F, fc, rfl, _⟩ := hE.open
  obtain ⟨wF, hwF, _, _, _, _, _, hsF, bF, _⟩ := box_five wE (.int .u32 p.1) (.int .i64 p.2.1) (.int .u32 p.2.2.1) (.int .u32 p.2.2.2.1) (.slice F p.2.2.2.2.length fc) 37
  have CF := Lib.hid ((CD.out.trans (bE.mono CD.out.size)).trans (bF.mono (CD.out.trans (bE.mono CD.out.size)).size))
  replace HW := Lib.hid ((HW.out.trans (bE.mono HW.out.size)).trans (bF.mono (HW.out.trans (bE.mono HW.out.size)).size))
  replace hsF := Lib.hid hsF
  clear hE bE bF hwD
  go_upto_region 9 with fail
  clear hwF
  have in8 : InSp (0, 8, 0, 0, []) := ⟨⟨by decide, by decide⟩, ⟨by decide, by decide⟩, ⟨by decide, by decide⟩, ⟨by decide, by decide⟩⟩
  have in7 : InSp (0, 7, 0, 0, []) := ⟨⟨by decide, by decide⟩, ⟨by decide, by decide⟩, ⟨by decide, by decide⟩, ⟨by decide, by decide⟩⟩
  have K8 := Lib.hid (show chkS (0, 8, 0, 0, []) = 0 by decide)
  have K7 := Lib.hid (show chkS (0, 7, 0, 0, []) = 8 by decide)
  replace in8 := Lib.hid in8
  replace in7 := Lib.hid in7
  go_wp2_with fail
  refine (slot_any 7 (by decide) (by decide) _).mono ?_
  rintro eG wG ⟨rfl, rfl⟩
  go_wp2_with fail
  refine (checkS_any (.agg #[.int .u32 0, .int .i64 8, .int .u32 0, .int .u32 0, .slice none 0 0]) (0, 8, 0, 0, []) _ ⟨_, rfl, in8.out, rInts_none _ _⟩).mono ?_
  rintro eH wH ⟨rfl, bH⟩
  rw [K8.out]
  have CH := Lib.hid (CF.out.trans (bH.mono CF.out.size))
  replace HW := Lib.hid (HW.out.trans (bH.mono HW.out.size))
  clear bH
  go_wp2_with fail
  refine (checkS_any (.agg #[.int .u32 0, .int .i64 7, .int .u32 0, .int .u32 0, .slice none 0 0]) (0, 7, 0, 0, []) _ ⟨_, rfl, in7.out, rInts_none _ _⟩).mono ?_
  rintro eI wI ⟨rfl, bI⟩
  rw [K7.out]
  have CI := CH.out.trans (bI.mono CH.out.size)
  replace HW := Lib.hid (HW.out.trans (bI.mono HW.out.size))
  obtain ⟨j1, j2⟩ := HC.out wI CI
  clear bI CI
  go_wp2_with fail
  go_ret
  exact ⟨rfl, HW.out⟩

/-! ### The row's step -/
set_option maxRecDepth 100000 in
theorem lifted (os : Os) (started : os.Started) (H : Type) (enc : TypeId × Value → H) :
    ReturnsInHanded {} Try.checked os 3 .any (Rows.ringNamesSpec.pre6 enc Try.prog Try.f3 Rows.ringNamesRow.domain false) (Rows.ringNamesSpec.post enc Try.prog Try.f3 false true false false) := by
  refine returnsInHanded_of_change (C := Try.checked) own started (by kernel_rfl) Try.func3
    (ChangeSpec.witness6 (enc := enc) (C := Try.checked) false ⟨#[], #[], []⟩ 8 (by kernel_rfl) (by kernel_rfl) (by kernel_rfl) (by kernel_rfl)) ?_
  intro W base args ds gs before hval0 hW _ _
  have hval : ∀ (j : Nat) t v, Try.f3.params[j]? = some t → args[j]? = some v → Value.okWide Try.prog W .any base t v := hval0
  have hW' := hW
  obtain ⟨p, q, hA0, hV, _, _, _⟩ := hW
  have hA : DataW.TrodAll enc Try.prog W 0 (fun _ => true) true Try.f3.params.toList args.toList ds p := hA0
  rw [Try.params3] at hA hval
  obtain ⟨hargs, rfl, _⟩ := trodAll_nil hA
  obtain rfl : args = #[] := by cases args; simp_all
  obtain ⟨rfl, _⟩ := trodVars_none hV
  clear hA0 hval0
  refine (walk  W ).mono fun e W' ⟨he, hb⟩ => ?_
  subst he
  exact ⟨_, rfl, law_post laidOut (by rw [Try.params3]; decide +kernel) (by kernel_rfl) Try.underlying4 rfl ⟨rfl, by simp [Rows.ringNamesSpec], rfl⟩ hW' hb⟩

theorem over : Rows.ringNamesRow.holds Try.pinned (OpenSpec.ofChange Rows.ringNamesSpec) :=
  OpenClaim.holds_of_wide 3 Try.f3 rfl rfl rfl rfl rfl rfl rfl ⟨rfl, rfl, rfl, rfl, rfl⟩ rfl rfl rfl rfl rfl (by kernel_rfl) Try.func3 (by kernel_rfl)
    (of_decide_eq_true (by kernel_rfl)) (by unfold Func.isWrapper; first | (rw [if_pos (by decide +kernel)]; kernel_rfl) | (rw [if_neg (by decide +kernel)]; exact ⟨rfl, rfl⟩))
    (fun os started H enc _ => lifted os started H enc)

end Go.Proofs.Ytdcgcnnofjekaaa.ringNames
namespace Go.Proofs.Ytdcgcnnofjekaaa
theorem ringNames_proved : Rows.RingNamesSaid := ringNames.over
end Go.Proofs.Ytdcgcnnofjekaaa
