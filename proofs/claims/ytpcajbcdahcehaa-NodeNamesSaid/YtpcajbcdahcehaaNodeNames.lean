/-
  NodeNames answers true: the limits and errors have their numbers, and the chapter's examples are so. No condition.
-/
import Derived.Test.YtpcajbcdahcehaaBnd3
namespace Go.Proofs.Ytpcajbcdahcehaa.nodeNames
open Go.ChangeShapes Go.WideShapes Go.RowKit

theorem own : ownKnob Try.prog.godebug = none := by kernel_rfl
theorem laidOut : laidOutB Try.prog = true := by kernel_rfl

theorem noughts_bad : ¬ fits (zeros 128) := by
  unfold fits
  decide +kernel
theorem read_noughts : reN (zeros 128) = 8 := by
  have h : oe (zeros 128) = 8 := by
    unfold oe
    rw [if_pos (by simp [zeros]), if_neg noughts_bad]
  rw [(reN_open (by rw [h]; decide)).1, h]
theorem place_val (xs : List Int) (k : Ky) : placeN (leafN xs) k = cntK (xs.map leafI) k := rfl
set_option maxRecDepth 100000 in
set_option maxHeartbeats 8000000 in
theorem walk (w : World) :
    Calls Try.prog 3 #[] w fun e w' => e = .returned (.bool true) ∧ Below w.heap.size w w' := by
  have hp1 : Hid (placeN (leafN [2, 4, 6]) (2, 0, 5) = 2) := Lib.hid (by decide)
  have hp2 : Hid (thereN (leafN [2, 4, 6]) (2, 0, 5) = false) := Lib.hid (by decide)
  have hp3 : Hid (placeN (leafN [2, 4, 6]) (2, 0, 9) = 3) := Lib.hid (by decide)
  have hp4 : Hid (thereN (leafN [2, 4, 6]) (2, 0, 9) = false) := Lib.hid (by decide)
  have hcz := Lib.hid (chkN_ok mayN_zero)
  have hwz := Lib.hid (show wrN zeroN = blkN zeroN by simp [wrN, mayN_zero])
  have hback := Lib.hid (read_blkN mayN_zero (nod_zero (Old w) w).inN)
  have hc1 := Lib.hid (chkN_bad (show mayN (1, []) = false by decide))
  have hc3 := Lib.hid (chkN_bad (show mayN (leafN [3, 3]) = false by decide))
  have hbad := Lib.hid read_noughts
  have hu1 := u4_lit w 28 [2, 4, 6] #[.int .u32 2, .int .u32 4, .int .u32 6] rfl (by simp) (u4_small (by simp))
  have hb1 : Below w.heap.size w (w.alloc (.cells #[.int .u32 2, .int .u32 4, .int .u32 6] 28)) := (Below.refl _ _).alloc (Nat.le_refl _) _
  obtain ⟨w1, hw1⟩ : ∃ w1, w.alloc (.cells #[.int .u32 2, .int .u32 4, .int .u32 6] 28) = w1 := ⟨_, rfl⟩
  rw [hw1] at hb1 hu1
  have B1 := Lib.hid hb1
  replace hu1 : Hid (rU4 (Old w1) w1 [.slice (some ⟨w.heap.size, 0, none⟩) 3 3] [2, 4, 6]) := Lib.hid hu1
  clear hb1
  go_enter Try.func3, Try.ntmps3
  go_wp2_with fail
  clear hw1
  with_reducible refine (leaf_any _ [2, 4, 6] _ (by simp) hu1.out).mono ?_
  rintro e2 w2 ⟨u2, rfl, hN2, hb2⟩
  have B2 := Lib.hid (B1.out.trans (hb2.mono B1.out.size))
  have HN2 := Lib.hid hN2.drop
  clear hN2 hb2
  go_wp2_with fail
  with_reducible refine (place_lit _ (leafN [2, 4, 6]) 2 2 0 5 rfl _ HN2.out).mono ?_
  rintro e3 w3 ⟨rfl, hb3⟩
  rw [hp1.out, hp2.out]
  have B3 := Lib.hid (B2.out.trans (hb3.mono B2.out.size))
  clear hb3
  have hu4 := u4_lit w3 28 [2, 4, 6] #[.int .u32 2, .int .u32 4, .int .u32 6] rfl (by simp) (u4_small (by simp))
  have hb4 : Below w3.heap.size w3 (w3.alloc (.cells #[.int .u32 2, .int .u32 4, .int .u32 6] 28)) := (Below.refl _ _).alloc (Nat.le_refl _) _
  obtain ⟨w4, hw4⟩ : ∃ w1, w3.alloc (.cells #[.int .u32 2, .int .u32 4, .int .u32 6] 28) = w1 := ⟨_, rfl⟩
  rw [hw4] at hb4 hu4
  have B4 := Lib.hid (B3.out.trans (hb4.mono B3.out.size))
  replace hu4 : Hid (rU4 (Old w4) w4 [.slice (some ⟨w3.heap.size, 0, none⟩) 3 3] [2, 4, 6]) := Lib.hid hu4
  clear hb4
  go_wp2_with fail
  clear hw4
  with_reducible refine (leaf_any _ [2, 4, 6] _ (by simp) hu4.out).mono ?_
  rintro e5 w5 ⟨u5, rfl, hN5, hb5⟩
  have B5 := Lib.hid (B4.out.trans (hb5.mono B4.out.size))
  have HN5 := Lib.hid hN5.drop
  clear hN5 hb5
  go_wp2_with fail
  with_reducible refine (place_lit _ (leafN [2, 4, 6]) 2 2 0 9 rfl _ HN5.out).mono ?_
  rintro e6 w6 ⟨rfl, hb6⟩
  rw [hp3.out, hp4.out]
  have B6 := Lib.hid (B5.out.trans (hb6.mono B5.out.size))
  have HZ6 := Lib.hid (nod_zero (Old w6) w6)
  clear hb6
  go_wp2_with fail
  with_reducible refine (nodeWrite_any _ zeroN _ HZ6.out).mono ?_
  rintro e7 w7 ⟨u7, rfl, hu7, hb7⟩
  rw [hcz.out]
  rw [hwz.out] at hu7
  have B7 := Lib.hid (B6.out.trans (hb7.mono B6.out.size))
  have HU7 := Lib.hid (stab_by.drop hu7)
  clear hu7 hb7
  go_wp2_with fail
  with_reducible refine (nodeRead_any _ (blkN zeroN) _ HU7.out).mono ?_
  rintro e8 w8 ⟨u8, rfl, hN8, hb8⟩
  rw [hback.out.1]
  rw [hback.out.2] at hN8
  have B8 := Lib.hid (B7.out.trans (hb8.mono B7.out.size))
  obtain ⟨A, c, rfl, _, l1, m1, _⟩ := hN8.drop.open
  have hz0 : zeroN.1 = 0 := rfl
  have hz1 : zeroN.2.length = 0 := rfl
  rw [hz0, hz1] at hN8 ⊢
  rw [hz1] at l1
  obtain ⟨w9, hw9, G9, hb9, _, s9⟩ := bag_node (Bag.nil w8) (Below.refl _ _) (.int .i64 0) (.slice A 0 c)
  have B9 := Lib.hid (B8.out.trans (hb9.mono B8.out.size))
  have HG9 := Lib.hid G9
  clear hN8 hb8 hb9 G9 s9
  go_upto_region 5 with fail
  clear hw9
  have hm128 : (Instr.makeSlice 31 (.int .i64 128) (.int .i64 128)).run Try.prog w9 = .ok (.slice (some ⟨w9.heap.size, 0, none⟩) 128 128) (w9.alloc (.cells (rowA (zeros 128)) 5)) := make_bytes 128 (by omega) w9
  have hbx : Below w9.heap.size w9 (w9.alloc (.cells (rowA (zeros 128)) 5)) := (Below.refl _ _).alloc (Nat.le_refl _) _
  have hx128 : rBy (Old (w9.alloc (.cells (rowA (zeros 128)) 5))) (w9.alloc (.cells (rowA (zeros 128)) 5)) [.slice (some ⟨w9.heap.size, 0, none⟩) 128 128] (zeros 128) := byt_rBy (Row.new w9 (zeros 128)).all (by simp [zeros]) (by omega)
  obtain ⟨wx, hwx⟩ : ∃ wx, w9.alloc (.cells (rowA (zeros 128)) 5) = wx := ⟨_, rfl⟩
  rw [hwx] at hm128 hbx hx128
  clear hwx
  have BX := Lib.hid (B9.out.trans (hbx.mono B9.out.size))
  have HX := Lib.hid hx128
  have HGX := Lib.hid (HG9.out.below hbx)
  clear hx128 hbx
  go_wp2_with fail
  with_reducible refine (nodeRead_any _ (zeros 128) _ HX.out).mono ?_
  rintro ea wa ⟨ua, rfl, hNa, hba⟩
  rw [hbad.out]
  have hea := Lib.hid (reN_no (b := zeros 128) (by rw [hbad.out]; decide))
  rw [hea.out] at hNa
  obtain ⟨A2, c2, rfl, _⟩ := hNa.drop.open
  rw [hz0, hz1]
  obtain ⟨wb, hwb, Gb, hbb, _, sb'⟩ := bag_node (HGX.out.below hba) (Below.refl _ _) (.int .i64 0) (.slice A2 0 c2)
  have BB := Lib.hid ((BX.out.trans (hba.mono BX.out.size)).trans (hbb.mono (BX.out.trans (hba.mono BX.out.size)).size))
  have HGB := Lib.hid Gb
  clear hNa hba hbb Gb sb' hz0 hz1
  go_upto_region 6 with fail
  clear hwb
  go_wp2_with fail
  with_reducible refine (alive6 _).mono ?_
  rintro ec wc ⟨rfl, hbc⟩
  have BC := Lib.hid (BB.out.trans (hbc.mono BB.out.size))
  have HGC := Lib.hid (HGB.out.below hbc)
  clear hbc
  have HZC := Lib.hid (nod_zero (Old wc) wc)
  go_wp2_with fail
  with_reducible refine (checkN_any _ zeroN _ HZC.out).mono ?_
  rintro ed wd ⟨rfl, hbd⟩
  rw [hcz.out]
  have BD := Lib.hid (BC.out.trans (hbd.mono BC.out.size))
  have HGD := Lib.hid (HGC.out.below hbd)
  clear hbd
  have HOD : Hid (Nod (Old wd) wd (.agg #[.int .i64 1, .slice none 0 0]) (1, [])) := Lib.hid ⟨_, rfl, ⟨by decide, by decide⟩, its_nil _ _⟩
  go_wp2_with fail
  with_reducible refine (checkN_any _ (1, []) _ HOD.out).mono ?_
  rintro ee we ⟨rfl, hbe⟩
  rw [hc1.out]
  have BE := Lib.hid (BD.out.trans (hbe.mono BD.out.size))
  have HGE := Lib.hid (HGD.out.below hbe)
  clear hbe
  have huf := u4_lit we 28 [3, 3] #[.int .u32 3, .int .u32 3] rfl (by simp) (u4_small (by simp))
  have hbf : Below we.heap.size we (we.alloc (.cells #[.int .u32 3, .int .u32 3] 28)) := (Below.refl _ _).alloc (Nat.le_refl _) _
  obtain ⟨wf, hwf⟩ : ∃ w1, we.alloc (.cells #[.int .u32 3, .int .u32 3] 28) = w1 := ⟨_, rfl⟩
  rw [hwf] at hbf huf
  have BF := Lib.hid (BE.out.trans (hbf.mono BE.out.size))
  have HGF := Lib.hid (HGE.out.below hbf)
  replace huf : Hid (rU4 (Old wf) wf [.slice (some ⟨we.heap.size, 0, none⟩) 2 2] [3, 3]) := Lib.hid huf
  clear hbf
  go_wp2_with fail
  clear hwf
  with_reducible refine (leaf_any _ [3, 3] _ (by simp) huf.out).mono ?_
  rintro eg wg ⟨ug, rfl, hNg, hbg⟩
  have BG := Lib.hid (BF.out.trans (hbg.mono BF.out.size))
  have HGG := Lib.hid (HGF.out.below hbg)
  have HNg := Lib.hid hNg.drop
  clear hNg hbg
  go_wp2_with fail
  with_reducible refine (checkN_any _ (leafN [3, 3]) _ HNg.out).mono ?_
  rintro eh wh ⟨rfl, hbh⟩
  rw [hc3.out]
  have BH := Lib.hid (BG.out.trans (hbh.mono BG.out.size))
  have HGH := Lib.hid (HGG.out.below hbh)
  clear hbh
  obtain ⟨z1, z2, _⟩ := HGH.out.at 1 rfl
  go_wp2_with fail
  go_ret
  exact ⟨rfl, BH.out⟩

/-! ### The row's step -/
set_option maxRecDepth 100000 in
theorem lifted (os : Os) (started : os.Started) (H : Type) (enc : TypeId × Value → H) :
    ReturnsInHanded {} Try.checked os 3 .any (Rows.nodeNamesSpec.pre6 enc Try.prog Try.f3 Rows.nodeNamesRow.domain false) (Rows.nodeNamesSpec.post enc Try.prog Try.f3 false true false false) := by
  refine returnsInHanded_of_change (C := Try.checked) own started (by kernel_rfl) Try.func3
    (ChangeSpec.witness6 (enc := enc) (C := Try.checked) false ⟨#[], #[], []⟩ 8 (by kernel_rfl) (by kernel_rfl) (by kernel_rfl) (by kernel_rfl)) ?_
  intro W base args ds gs before hval0 hW _ _
  have hval : ∀ (j : Nat) t v, Try.f3.params[j]? = some t → args[j]? = some v → Value.okWide Try.prog W .any base t v := hval0
  have hW' := hW
  obtain ⟨p, q, hA0, hV, _, _, _⟩ := hW
  have hA : DataW.TrodAll enc Try.prog W 0 (fun _ => true) true Try.f3.params.toList args.toList ds p := hA0
  rw [Try.params3] at hA hval
  obtain ⟨hargs, rfl, _⟩ := trodAll_nil hA
  obtain rfl : args = #[] := by cases args; simp_all
  obtain ⟨rfl, _⟩ := trodVars_none hV
  clear hA0 hval0
  refine (walk  W ).mono fun e W' ⟨he, hb⟩ => ?_
  subst he
  exact ⟨_, rfl, law_post laidOut (by rw [Try.params3]; decide +kernel) (by kernel_rfl) Try.underlying4 rfl ⟨rfl, by simp [Rows.nodeNamesSpec], rfl⟩ hW' hb⟩

theorem over : Rows.nodeNamesRow.holds Try.pinned (OpenSpec.ofChange Rows.nodeNamesSpec) :=
  OpenClaim.holds_of_wide 3 Try.f3 rfl rfl rfl rfl rfl rfl rfl ⟨rfl, rfl, rfl, rfl, rfl⟩ rfl rfl rfl rfl rfl (by kernel_rfl) Try.func3 (by kernel_rfl)
    (of_decide_eq_true (by kernel_rfl)) (by unfold Func.isWrapper; first | (rw [if_pos (by decide +kernel)]; kernel_rfl) | (rw [if_neg (by decide +kernel)]; exact ⟨rfl, rfl⟩))
    (fun os started H enc _ => lifted os started H enc)

end Go.Proofs.Ytpcajbcdahcehaa.nodeNames
namespace Go.Proofs.Ytpcajbcdahcehaa
theorem nodeNames_proved : Rows.NodeNamesSaid := nodeNames.over
end Go.Proofs.Ytpcajbcdahcehaa
