/-
  For every store and place DropLooses answers true and leaves its arguments as they were. No condition.
-/
import Derived.Test.YtmdlgnlfgfhkmaaBnd4
namespace Go.Proofs.Ytmdlgnlfgfhkmaa.dropLooses
open Go.ChangeShapes Go.WideShapes Go.RowKit

theorem own : ownKnob Try.prog.godebug = none := by kernel_rfl
theorem laidOut : laidOutB Try.prog = true := by kernel_rfl

set_option maxRecDepth 100000 in
set_option maxHeartbeats 8000000 in
theorem walk (v : Value) (s : Rm) (n : Int) (_hn : (Lit.int .i64 n).wf = true) (w : World) (h : Sto (Old w) w v s) :
    Calls Try.prog 7 #[v, .int .i64 n] w fun e w' => e = .returned (.bool true) ∧ Below w.heap.size w w' := by
  clear _hn
  obtain ⟨A, ca, B, cb, N, cn, L, cl, rfl, _, _, _⟩ := h.open
  have HG0 : Bag w [OldR (.agg #[.slice A s.1.1.length ca, .slice B s.1.2.length cb, .slice N s.2.1.length cn, .slice L s.2.2.length cl]) s] := (Bag.nil w).add (F := OldR _ s) h (lasts_oldR _ _)
  obtain ⟨w1, hw1, hg1, hB1, _, hs1⟩ := bag_four HG0 (Below.refl _ _) (.slice A s.1.1.length ca) (.slice B s.1.2.length cb) (.slice N s.2.1.length cn) (.slice L s.2.2.length cl) 29
  have HG1 := Lib.hid hg1
  have B1 := Lib.hid hB1
  replace hs1 := Lib.hid hs1
  obtain ⟨k0, k1, k2, k3, kg⟩ := hg1.at 0 rfl
  clear HG0 hg1 h hB1
  go_enter Try.func7, Try.ntmps7
  go_upto_region 1 with fail
  clear hw1 k0 k1 k2 k3
  go_wp2_with fail
  with_reducible refine (alive9 _).mono ?_
  rintro e w2 ⟨rfl, hb2⟩
  have HG2 := Lib.hid (HG1.out.below hb2)
  have B2 := Lib.hid (B1.out.trans (hb2.mono B1.out.size))
  clear hb2 HG1 B1 kg
  obtain ⟨k0, k1, k2, k3, kg⟩ := HG2.out.at 0 rfl
  go_wp2_with fail
  with_reducible refine (greatR_any _ s _ (HG2.out.at 1 rfl)).mono ?_
  rintro e w3 ⟨rfl, hb3⟩
  have HG3 := Lib.hid (HG2.out.below hb3)
  have B3 := Lib.hid (B2.out.trans (hb3.mono B2.out.size))
  clear hb3 HG2 B2 k0 k1 k2 k3 kg
  obtain ⟨k0, k1, k2, k3, kg⟩ := HG3.out.at 0 rfl
  cases hgr : greatR s with
  | true =>
    go_wp2_with fail
    go_ret
    exact ⟨rfl, B3.out⟩
  | false =>
  clear hgr
  go_wp2_with fail
  with_reducible refine (checkR_any _ s _ (HG3.out.at 1 rfl)).mono ?_
  rintro e w4 ⟨rfl, hb4⟩
  have HG4 := Lib.hid (HG3.out.below hb4)
  have B4 := Lib.hid (B3.out.trans (hb4.mono B3.out.size))
  clear hb4 HG3 B3 k0 k1 k2 k3 kg
  obtain ⟨k0, k1, k2, k3, kg⟩ := HG4.out.at 0 rfl
  cases hm : mayR s with
  | false =>
    rw [chkR_bad hm]
    go_wp2_with fail
    go_ret
    exact ⟨rfl, B4.out⟩
  | true =>
  rw [chkR_ok hm]
  -- Loose
  go_wp2_with fail
  with_reducible refine (looseV_open _ s n _ (HG4.out.at 1 rfl)).mono ?_
  rintro e w5 ⟨E, ea, G, eg, M, em, K, ek, rfl, h5, hb5⟩
  obtain ⟨T, hT⟩ : ∃ T, loV s n = T := ⟨_, rfl⟩
  obtain ⟨q, hq⟩ : ∃ q, asE s n = q := ⟨_, rfl⟩
  rw [hT] at h5 ⊢
  rw [hq]
  obtain ⟨w6, hw6, hg6, hB6, _, hs6⟩ := bag_four ((HG4.out.below hb5).add (F := OldR _ T) h5.drop (lasts_oldR _ _)) (Below.refl _ _) (.slice E T.1.1.length ea) (.slice G T.1.2.length eg) (.slice M T.2.1.length em) (.slice K T.2.2.length ek) 29
  have HG6 := Lib.hid hg6
  have B6 := Lib.hid (B4.out.trans ((hb5.trans (hB6.mono hb5.size)).mono B4.out.size))
  replace hs6 := Lib.hid hs6
  clear k0 k1 k2 k3 kg hg6 hB6 hb5 h5 HG4 B4
  obtain ⟨k0, k1, k2, k3, kg⟩ := HG6.out.at 2 rfl
  go_upto_region 5 with fail
  clear hw6
  -- Leave
  go_wp2_with fail
  with_reducible refine (leaveV_open _ s n _ (HG6.out.at 3 rfl)).mono ?_
  rintro e w7 ⟨E7, ea7, G7, eg7, M7, em7, K7, ek7, rfl, h7, hb7⟩
  obtain ⟨X, hX⟩ : ∃ X, lvV s n = X := ⟨_, rfl⟩
  obtain ⟨r, hr⟩ : ∃ r, lvE s n = r := ⟨_, rfl⟩
  rw [hX]
  rw [hr]
  obtain ⟨w8, hw8, -, hs8, hb8⟩ := box_4 w7 (.slice E7 X.1.1.length ea7) (.slice G7 X.1.2.length eg7) (.slice M7 X.2.1.length em7) (.slice K7 X.2.2.length ek7) 29
  have HG8 := Lib.hid (HG6.out.below (hb7.trans (hb8.mono hb7.size)))
  have B8 := Lib.hid (B6.out.trans ((hb7.trans (hb8.mono hb7.size)).mono B6.out.size))
  replace hs8 := Lib.hid hs8
  replace hX := Lib.hid hX
  clear k0 k1 k2 k3 kg hb7 hb8 h7 HG6 B6
  obtain ⟨k0, k1, k2, k3, kg⟩ := HG8.out.at 2 rfl
  obtain ⟨j0, j1, j2, j3, jg⟩ := HG8.out.at 0 rfl
  go_upto_region 6 with fail
  clear hw8
  have hrw : Hid (q ≠ 0 → r = q) := Lib.hid fun hq0 => by
    rcases lv_ways s n with ⟨_, e, _⟩ | ⟨_, ha, _⟩ | ⟨_, _, ha, _⟩
    · rw [← hr, ← hq, e]
    · rw [ha] at hq; exact absurd hq.symm hq0
    · rw [ha] at hq; exact absurd hq.symm hq0
  replace hr := Lib.hid hr
  rcases as_ways s n with ⟨hm', _⟩ | ⟨_, hn, e⟩ | ⟨k, _, hnk, h8, h256, hx, e⟩ | ⟨k, _, hnk, h8, h256, hx, e⟩
  · rw [hm] at hm'; cases hm'
  · rw [e] at hq
    subst hq
    obtain rfl := hrw.out (by decide)
    clear hm hrw
    by_cases h8 : n < 8
    · clear hn
      go_wp2_with fail
      go_ret
      exact ⟨by simp, B8.out⟩
    · have h9 : (255 : Int) < n := by omega
      clear hn
      go_wp2_with fail
      go_ret
      exact ⟨by simp, B8.out⟩
  · subst hnk
    rw [e] at hq
    subst hq
    obtain rfl := hrw.out (by decide)
    have hln := mayT_len (mayR_of hm).2.1
    obtain ⟨ad, ld, rfl, rfl, _, _, l1, _, had, _, hc⟩ := tables_at hm (HG8.out.at 3 rfl : Sto (Old w8) w8 _ s).parts.2.1 (HG8.out.at 3 rfl : Sto (Old w8) w8 _ s).parts.2.2
    have q1 := (hc k h256).1
    rw [hx] at q1
    replace q1 : w8.cell? (ad.add k) = some (.int .u8 0) := q1
    rw [hln] at k2
    have i1 : ¬ (k : Int) < 8 := by omega
    have i2 : ¬ (255 : Int) < (k : Int) := by omega
    clear hm hrw hc hln e
    go_wp2_with fail
    go_ret
    exact ⟨by simp, B8.out⟩
  · subst hnk
    rw [e] at hq
    subst hq
    clear hrw
    have ha : asE s (k : Int) = 0 := e
    obtain ⟨k', ekk, _, hmT, _, _, hx0, hln, hV⟩ := lo_ok ha
    have ek2 : k' = k := by omega
    subst ek2
    rw [hT] at hmT hV
    obtain ⟨x, hxx⟩ : ∃ x, s.2.1[k']?.getD 0 = x := ⟨_, rfl⟩
    rw [hxx] at hx hV
    have hTl : T.2.1.length = 256 := by rw [hV]; show (s.2.1.set _ _).length = 256; rw [List.length_set, hln]
    have hTa : T.2.1[k']?.getD 0 = x - 1 := by rw [hV]; exact set_get (by omega)
    have hTb : Hid (∀ j, j ≠ k' → T.2.1[j]?.getD 0 = s.2.1[j]?.getD 0) := Lib.hid fun j hj => by rw [hV]; exact set_other hj
    have hTd : T.1 = s.1 := by rw [hV]
    have hTc : T.2.2 = s.2.2 := by rw [hV]
    obtain ⟨ad, ld, rfl, rfl, -, -, -, -, had, -, hc⟩ := tables_at hm (HG8.out.at 3 rfl : Sto (Old w8) w8 _ s).parts.2.1 (HG8.out.at 3 rfl : Sto (Old w8) w8 _ s).parts.2.2
    obtain ⟨bd, lb, rfl, rfl, -, -, -, -, hbd, -, hd⟩ := tables_at hmT (HG8.out.at 1 rfl : Sto (Old w8) w8 _ T).parts.2.1 (HG8.out.at 1 rfl : Sto (Old w8) w8 _ T).parts.2.2
    have cS : Hid (∀ j, j < 256 → ∀ W, Below w8.heap.size w8 W → W.cell? (ad.add j) = some (.int .u8 ((s.2.1[j]?.getD 0).toNat : Int))) := Lib.hid fun j hj W hW => (hW.cell (by rw [add_block]; exact had)).trans (hc j hj).1
    have cT : Hid (∀ j, j < 256 → ∀ W, Below w8.heap.size w8 W → W.cell? (bd.add j) = some (.int .u8 ((T.2.1[j]?.getD 0).toNat : Int))) := Lib.hid fun j hj W hW => (hW.cell (by rw [add_block]; exact hbd)).trans (hd j hj).1
    obtain ⟨z, hz⟩ : ∃ z : Int, ((x - 1).toNat : Int) = z := ⟨_, rfl⟩
    have q1 : Hid (∀ W, Below w8.heap.size w8 W → W.cell? (ad.add k') = some (.int .u8 (x.toNat : Int))) := Lib.hid fun W hW => by rw [cS.out k' h256 W hW, hxx]
    have q2 : Hid (∀ W, Below w8.heap.size w8 W → W.cell? (bd.add k') = some (.int .u8 z)) := Lib.hid fun W hW => by rw [cT.out k' h256 W hW, hTa, hz]
    have t0 := byte_unlike (y := 0) (q := 0) rfl hx
    obtain ⟨hu, hu1, hu2⟩ := dn_byte hx
    have hwr : Hid (IntKind.u8.wrap ((x.toNat : Int) - 1) = z) := Lib.hid (by rw [← hz, ← hu]; simp only [IntKind.wrap, IntKind.signed, IntKind.bits]; simp; omega)
    have i1 : ¬ (k' : Int) < 8 := by omega
    have i2 : ¬ (255 : Int) < (k' : Int) := by omega
    have hsm : Hid (sameB T.1 s.1 = true) := Lib.hid (by rw [hTd]; simp [sameB])
    have n1 : Hid (Dsk (Old w8) w8 (.agg #[.slice A s.1.1.length ca, .slice B s.1.2.length cb]) s.1) := Lib.hid (HG8.out.at 3 rfl : Sto (Old w8) w8 _ s).parts.1
    have n2 : Hid (Dsk (Old w8) w8 (.agg #[.slice E T.1.1.length ea, .slice G T.1.2.length eg]) T.1) := Lib.hid (HG8.out.at 1 rfl : Sto (Old w8) w8 _ T).parts.1
    have s1 : Hid (∀ W, Below w8.heap.size w8 W → rBy (Old W) W [.slice (some lb) T.2.2.length ek] s.2.2) := Lib.hid fun W hW => by
      have := stab_by.old (HG8.out.at 1 rfl : Sto (Old w8) w8 _ T).parts.2.2 hW
      rwa [hTc] at this ⊢
    have s2 : Hid (∀ W, Below w8.heap.size w8 W → rBy (Old W) W [.slice (some ld) s.2.2.length cl] s.2.2) := Lib.hid fun W hW => stab_by.old (HG8.out.at 3 rfl : Sto (Old w8) w8 _ s).parts.2.2 hW
    have i3 : Hid ((k' : Int) < 256) := Lib.hid (by omega)
    have hshare : Hid ((shE s (k' : Int) = 70) ∨ (shE s (k' : Int) = 0 ∧ asE (shV s (k' : Int)) (k' : Int) = 0 ∧ loV (shV s (k' : Int)) (k' : Int) = s)) := Lib.hid (by
      by_cases h : shE s (k' : Int) = 0
      · exact .inr ⟨h, sh_loose h⟩
      · refine .inl ?_
        unfold shE at h ⊢
        rw [if_pos ha] at h ⊢
        split at h
        · rename_i h'
          rw [if_pos h']
        · exact absurd rfl h)
    rw [hln] at k2
    rw [hTl] at j2
    have q1' := q1.out w8 (Below.refl _ _)
    replace hxx := Lib.hid hxx
    replace hTl := Lib.hid hTl
    replace hTa := Lib.hid hTa
    replace hTd := Lib.hid hTd
    replace hTc := Lib.hid hTc
    replace hV := Lib.hid hV
    replace hln := Lib.hid hln
    replace hz := Lib.hid hz
    replace hu := Lib.hid hu
    replace hm := Lib.hid hm
    replace hmT := Lib.hid hmT
    replace hx := Lib.hid hx
    replace hT := Lib.hid hT
    replace ha := Lib.hid ha
    replace ekk := Lib.hid ekk
    replace e := Lib.hid e
    clear hc hd hx0 h8 hu1 hu2
    go_upto_region 10 with fail
    clear q1'
    refine wp_region_fx (by kernel_rfl) (fun W => Below w8.heap.size w8 W) (fun _ => none) (fun i => match i with
      | 21 => some (.bool true)
      | _ => none) (by kernel_rfl) (Below.refl _ _).drew (fun w w' h hb => h.trans (hb.mono h.size)) (fun j φ x w w' hp => by cases hp) ?_
    repeat (first
      | (refine wpAs_skip rfl ?_; simp only [Act.put, List.setIfInBounds_toArray, List.set_cons_zero, List.set_cons_succ])
      | (refine wpAs_pure (v := ?_) rfl rfl ?_ ?_; rotate_left; (intro W hC hE; clear hE; (have i3' := i3.out; have hwr' := hwr.out; have i4 : (z != z) = false := (by simp); have a1 := q1.out W hC; have a2 := q2.out W hC; have z0 := (hC.cell (p := ⟨w.heap.size, 0, none⟩) kg).trans k0; have z1 := (hC.cell (p := ⟨w.heap.size, 1, none⟩) kg).trans k1; have z2 := (hC.cell (p := ⟨w.heap.size, 2, none⟩) kg).trans k2; have y2 := (hC.cell (p := ⟨w5.heap.size, 2, none⟩) jg).trans j2; have y0 := (hC.cell (p := ⟨w5.heap.size, 0, none⟩) jg).trans j0; have y1 := (hC.cell (p := ⟨w5.heap.size, 1, none⟩) jg).trans j1); clear hC; go_simp; done); simp only [Act.put, List.setIfInBounds_toArray, List.set_cons_zero, List.set_cons_succ])
      | (refine wpAs_pure (v := ?_) rfl rfl ?_ ?_; rotate_left; (intro W hC hE; clear hE; (have i3' := i3.out; have hwr' := hwr.out; have i4 : (z != z) = false := (by simp); have a1 := q1.out W hC; have a2 := q2.out W hC; have z0 := (hC.cell (p := ⟨w.heap.size, 0, none⟩) kg).trans k0; have z1 := (hC.cell (p := ⟨w.heap.size, 1, none⟩) kg).trans k1; have z2 := (hC.cell (p := ⟨w.heap.size, 2, none⟩) kg).trans k2; have y2 := (hC.cell (p := ⟨w5.heap.size, 2, none⟩) jg).trans j2; have y0 := (hC.cell (p := ⟨w5.heap.size, 0, none⟩) jg).trans j0; have y1 := (hC.cell (p := ⟨w5.heap.size, 1, none⟩) jg).trans j1); clear hC; go_simp; with_reducible rfl); simp only [Act.put, List.setIfInBounds_toArray, List.set_cons_zero, List.set_cons_succ]))
    refine wpAs_fixed rfl rfl rfl ?_ ?_
    · intro W hC hE
      refine does_enter (f := 18) (args := #[.agg #[.slice E T.1.1.length ea, .slice G T.1.2.length eg], .agg #[.slice A s.1.1.length ca, .slice B s.1.2.length cb]]) ?_ ?_
      · go_simp
      · refine (same_any _ _ T.1 s.1 W (n2.out.below hC) (n1.out.below hC)).mono ?_
        rintro e w' ⟨rfl, hg⟩; rw [hsm.out]
        exact ⟨_, rfl, rfl, hg⟩
    simp only [Act.put, List.setIfInBounds_toArray, List.set_cons_zero, List.set_cons_succ]
    iterate 5 (first
      | (refine wpAs_skip rfl ?_; simp only [Act.put, List.setIfInBounds_toArray, List.set_cons_zero, List.set_cons_succ])
      | (refine wpAs_pure (v := ?_) rfl rfl ?_ ?_; rotate_left; (intro W hC hE; clear hE; (have z3 := (hC.cell (p := ⟨w.heap.size, 3, none⟩) kg).trans k3; have y3 := (hC.cell (p := ⟨w5.heap.size, 3, none⟩) jg).trans j3); clear hC; go_simp; with_reducible rfl); simp only [Act.put, List.setIfInBounds_toArray, List.set_cons_zero, List.set_cons_succ]))
    refine wpAs_pure (v := .string ⟨(s.2.2).toArray⟩) rfl rfl ?_ ?_
    · intro W hC hE
      have h : rBy (Old W) W [.slice (some lb) T.2.2.length ek] (s.2.2) := s1.out W hC
      have hs := rBy_str0 h
      clear h hC hE
      refine run_convert_op (v := .slice (some lb) T.2.2.length ek) _ _ _ rfl ?_ hs
      first | rfl | (simp; done) | (go_simp; done)
    simp only [Act.put, List.setIfInBounds_toArray, List.set_cons_zero, List.set_cons_succ]
    iterate 2 (first
      | (refine wpAs_skip rfl ?_; simp only [Act.put, List.setIfInBounds_toArray, List.set_cons_zero, List.set_cons_succ])
      | (refine wpAs_pure (v := ?_) rfl rfl ?_ ?_; rotate_left; (intro W hC hE; clear hE; (have z3 := (hC.cell (p := ⟨w.heap.size, 3, none⟩) kg).trans k3; have y3 := (hC.cell (p := ⟨w5.heap.size, 3, none⟩) jg).trans j3); clear hC; go_simp; with_reducible rfl); simp only [Act.put, List.setIfInBounds_toArray, List.set_cons_zero, List.set_cons_succ]))
    refine wpAs_pure (v := .string ⟨(s.2.2).toArray⟩) rfl rfl ?_ ?_
    · intro W hC hE
      have h : rBy (Old W) W [.slice (some ld) s.2.2.length cl] (s.2.2) := s2.out W hC
      have hs := rBy_str0 h
      clear h hC hE
      refine run_convert_op (v := .slice (some ld) s.2.2.length cl) _ _ _ rfl ?_ hs
      first | rfl | (simp; done) | (go_simp; done)
    simp only [Act.put, List.setIfInBounds_toArray, List.set_cons_zero, List.set_cons_succ]
    repeat (first
      | (refine wpAs_skip rfl ?_; simp only [Act.put, List.setIfInBounds_toArray, List.set_cons_zero, List.set_cons_succ])
      | (refine wpAs_pure (v := ?_) rfl rfl ?_ ?_; rotate_left; (intro W hC hE; clear hE; skip; clear hC; go_simp; done); simp only [Act.put, List.setIfInBounds_toArray, List.set_cons_zero, List.set_cons_succ])
      | (refine wpAs_pure (v := ?_) rfl rfl ?_ ?_; rotate_left; (intro W hC hE; clear hE; skip; clear hC; go_simp; with_reducible rfl); simp only [Act.put, List.setIfInBounds_toArray, List.set_cons_zero, List.set_cons_succ]))
    refine wpAs_end fun W hC hE => ?_
    clear hE
    have hdr : Below w8.heap.size w8 W := hC
    clear hC
    obtain ⟨w9, rfl⟩ : ∃ w9 : World, w9 = W := ⟨_, rfl⟩
    go_wp2_with fail
    go_loopw [10] (fun i wr => ∃ j : Nat, j ≤ 256 ∧ i = .int .i64 j ∧ Below w8.heap.size w8 wr) (fun i _ => 256 - (intOf i).toNat)
    case atStart => exact ⟨0, by omega, rfl, hdr⟩
    case round =>
      clear hdr
      obtain ⟨j, hj, rfl, hbr⟩ := hrel
      by_cases hlt : j < 256
      · by_cases hjk : j = k'
        · subst hjk
          have hbr' := Lib.hid hbr
          clear hbr
          go_upto_region 15 with fail
          go_quiet (fail)
          go_wp2_with fail
          go_roundw
          case rel => exact ⟨j + 1, by omega, by go_num, below_drewN hbr'.out _⟩
          case measure => simp [intOf]; omega
        · have q1 := cS.out j hlt wr hbr
          have q2 := cT.out j hlt wr hbr
          rw [hTb.out j hjk] at q2
          obtain ⟨y, hy⟩ : ∃ y, s.2.1[j]?.getD 0 = y := ⟨_, rfl⟩
          rw [hy] at q1 q2
          replace hy := Lib.hid hy
          have z2 := (hbr.cell (p := ⟨w.heap.size, 2, none⟩) kg).trans k2
          have y2 := (hbr.cell (p := ⟨w5.heap.size, 2, none⟩) jg).trans j2
          have g1 : ((j : Int) != (k' : Int)) = true := by simp; omega
          have hbr' := Lib.hid hbr
          clear hbr
          go_upto_region 15 with fail
          go_quiet (fail)
          go_wp2_with fail
          go_roundw
          case rel => exact ⟨j + 1, by omega, by go_num, below_drewN hbr'.out _⟩
          case measure => simp [intOf]; omega
      · have HG10 := Lib.hid (HG8.out.below hbr)
        have B10 := Lib.hid (B8.out.trans (hbr.mono B8.out.size))
        clear hbr HG8 B8 k0 k1 k2 k3 kg j0 j1 j2 j3 jg
        obtain ⟨k0, k1, k2, k3, kg⟩ := HG10.out.at 2 rfl
        rw [hln.out] at k2
        clear cS cT q1 q2 s1 s2 n1 n2 hTb
        go_wp2_with fail
        have hsh := shareR_open _ s (k' : Int) wr (HG10.out.at 3 rfl)
        rw [hln.out] at hsh
        with_reducible refine hsh.mono ?_
        rintro e w11 ⟨E11, ea11, G11, eg11, M11, em11, K11, ek11, rfl, h11, hb11⟩
        obtain ⟨U, hU⟩ : ∃ U, shV s (k' : Int) = U := ⟨_, rfl⟩
        rw [hU] at h11 ⊢
        obtain ⟨w12, hw12, hg12, hB12, _, hs12⟩ := bag_four ((HG10.out.below hb11).add (F := OldR _ U) h11.drop (lasts_oldR _ _)) (Below.refl _ _) (.slice E11 U.1.1.length ea11) (.slice G11 U.1.2.length eg11) (.slice M11 U.2.1.length em11) (.slice K11 U.2.2.length ek11) 29
        have HG12 := Lib.hid hg12
        have B12 := Lib.hid (B10.out.trans ((hb11.trans (hB12.mono hb11.size)).mono B10.out.size))
        replace hs12 := Lib.hid hs12
        clear k0 k1 k2 k3 kg hg12 hB12 hb11 h11 HG10 B10 hsh
        rcases hshare.out with hsE | ⟨hsE, hsA, hsV⟩
        · rw [hsE]
          replace hU := Lib.hid hU
          clear hsE
          obtain ⟨j0, j1, j2, j3, jg⟩ := HG12.out.at 0 rfl
          go_upto_region 18 with fail
          clear hw12
          go_wp2_with fail
          go_ret
          exact ⟨by simp, B12.out⟩
        · rw [hsE]
          rw [hU] at hsA hsV
          replace hsA := Lib.hid hsA
          replace hsV := Lib.hid hsV
          replace hU := Lib.hid hU
          clear hsE
          obtain ⟨j0, j1, j2, j3, jg⟩ := HG12.out.at 0 rfl
          go_upto_region 18 with fail
          clear hw12
          go_wp2_with fail
          with_reducible refine (looseV_open _ U (k' : Int) _ (HG12.out.at 1 rfl)).mono ?_
          rintro e w13 ⟨E13, ea13, G13, eg13, M13, em13, K13, ek13, rfl, h13, hb13⟩
          rw [hsA.out]
          rw [hsV.out] at h13 ⊢
          obtain ⟨w14, hw14, hg14, hB14, _, hs14⟩ := bag_four ((HG12.out.below hb13).add (F := OldR _ s) h13.drop (lasts_oldR _ _)) (Below.refl _ _) (.slice E13 s.1.1.length ea13) (.slice G13 s.1.2.length eg13) (.slice M13 s.2.1.length em13) (.slice K13 s.2.2.length ek13) 29
          have HG14 := Lib.hid hg14
          have B14 := Lib.hid (B12.out.trans ((hb13.trans (hB14.mono hb13.size)).mono B12.out.size))
          replace hs14 := Lib.hid hs14
          clear j0 j1 j2 j3 jg hg14 hB14 hb13 h13 HG12 B12
          obtain ⟨j0, j1, j2, j3, jg⟩ := HG14.out.at 0 rfl
          obtain ⟨k0, k1, k2, k3, kg⟩ := HG14.out.at 6 rfl
          go_upto_region 21 with fail
          clear hw14
          go_wp2_with fail
          with_reducible refine (sameR_any _ _ s s _ (HG14.out.at 1 rfl) (HG14.out.at 7 rfl)).mono ?_
          rintro e w15 ⟨rfl, hb15⟩
          rw [sameR_refl]
          have B15 := Lib.hid (B14.out.trans (hb15.mono B14.out.size))
          clear hb15
          go_wp2_with fail
          go_ret
          exact ⟨by simp, B15.out⟩

/-! ### The row's step -/
set_option maxRecDepth 100000 in
theorem lifted (os : Os) (started : os.Started) (H : Type) (enc : TypeId × Value → H) :
    ReturnsInHanded {} Try.checked os 7 .any (Rows.dropLoosesSpec.pre6 enc Try.prog Try.f7 Rows.dropLoosesRow.domain false) (Rows.dropLoosesSpec.post enc Try.prog Try.f7 false true false false) := by
  refine returnsInHanded_of_change (C := Try.checked) own started (by kernel_rfl) Try.func7
    (ChangeSpec.witness6 (enc := enc) (C := Try.checked) false ⟨#[], #[.agg #[.slice none 0 0, .slice none 0 0, .slice none 0 0, .slice none 0 0], .int .i64 0], []⟩ 8 (by kernel_rfl) (by kernel_rfl) (by kernel_rfl) (by kernel_rfl)) ?_
  intro W base args ds gs before hval0 hW _ _
  have hval : ∀ (j : Nat) t v, Try.f7.params[j]? = some t → args[j]? = some v → Value.okWide Try.prog W .any base t v := hval0
  have hW' := hW
  obtain ⟨p, q, hA0, hV, _, _, _⟩ := hW
  have hA : DataW.TrodAll enc Try.prog W 0 (fun _ => true) true Try.f7.params.toList args.toList ds p := hA0
  rw [Try.params7] at hA hval
  obtain ⟨v0, vs0, d0, ds0, p0, q0, hargs, rfl, _, h0, r0⟩ := trodAll_cons hA
  obtain ⟨v1, vs1, d1, ds1, p1, q1, rfl, rfl, _, h1, r1⟩ := trodAll_cons r0
  obtain ⟨rfl, rfl, _⟩ := trodAll_nil r1
  obtain rfl : args = #[v0, v1] := by cases args; simp_all
  obtain ⟨rfl, _⟩ := trodVars_none hV
  obtain ⟨d0x, y0⟩ := open_store (hval 0 29 v0 rfl rfl) h0
  obtain ⟨a1, rfl, _, _, w1⟩ := open_int Try.underlying3 (hval 1 3 v1 rfl rfl) h1
  clear hA0 hval0
  refine (walk v0 d0x a1 w1 W y0).mono fun e W' ⟨he, hb⟩ => ?_
  subst he
  exact ⟨_, rfl, law_post laidOut (by rw [Try.params7]; decide +kernel) (by kernel_rfl) Try.underlying4 rfl ⟨rfl, by simp [Rows.dropLoosesSpec], rfl⟩ hW' hb⟩

theorem over : Rows.dropLoosesRow.holds Try.pinned (OpenSpec.ofChange Rows.dropLoosesSpec) :=
  OpenClaim.holds_of_wide 7 Try.f7 rfl rfl rfl rfl rfl rfl rfl ⟨rfl, rfl, rfl, rfl, rfl⟩ rfl rfl rfl rfl rfl (by kernel_rfl) Try.func7 (by kernel_rfl)
    (of_decide_eq_true (by kernel_rfl)) (by unfold Func.isWrapper; first | (rw [if_pos (by decide +kernel)]; kernel_rfl) | (rw [if_neg (by decide +kernel)]; exact ⟨rfl, rfl⟩))
    (fun os started H enc _ => lifted os started H enc)

end Go.Proofs.Ytmdlgnlfgfhkmaa.dropLooses
namespace Go.Proofs.Ytmdlgnlfgfhkmaa
theorem dropLooses_proved : Rows.DropLoosesSaid := dropLooses.over
end Go.Proofs.Ytmdlgnlfgfhkmaa
