/-
  For every store and place RoomShares answers true and leaves its arguments as they were. No condition.
-/
import Derived.Test.YtjlbkcnhbndgbaaBnd2
namespace Go.Proofs.Ytjlbkcnhbndgbaa.roomShares
open Go.ChangeShapes Go.WideShapes Go.RowKit

theorem own : ownKnob Try.prog.godebug = none := by kernel_rfl
theorem laidOut : laidOutB Try.prog = true := by kernel_rfl

set_option maxRecDepth 100000 in
set_option maxHeartbeats 8000000 in
theorem walk (v : Value) (s : Rm) (n : Int) (_hn : (Lit.int .i64 n).wf = true) (w : World) (h : Sto (Old w) w v s) :
    Calls Try.prog 5 #[v, .int .i64 n] w fun e w' => e = .returned (.bool true) ∧ Below w.heap.size w w' := by
  clear _hn
  obtain ⟨A, ca, B, cb, N, cn, L, cl, w1, rfl, hw1, f1, hsz, hB, _, _, _⟩ := box_sto h
  have H := Lib.hid (h.below hB)
  clear h
  obtain ⟨k0, k1, k2, k3, _, kg⟩ := four_cells f1
  replace hsz := Lib.hid hsz
  go_enter Try.func5, Try.ntmps5
  go_upto_region 1 with fail
  clear hw1
  go_wp2_with fail
  with_reducible refine (alive8 _).mono ?_
  rintro e w2 ⟨rfl, hb2⟩
  have F2 := (hb2.block w.heap.size kg).trans f1
  obtain ⟨m0, m1, m2, m3, _, mg⟩ := four_cells F2
  have H2 := Lib.hid (H.out.below hb2)
  replace hb2 := Lib.hid (hB.trans (hb2.mono hB.size))
  replace F2 := Lib.hid F2
  clear f1 k0 k1 k2 k3 kg H hB
  go_wp2_with fail
  with_reducible refine (greatR_any _ s _ H2.out).mono ?_
  rintro e w3 ⟨rfl, hb3⟩
  have F3 := (hb3.block w.heap.size mg).trans F2.out
  obtain ⟨k0, k1, k2, k3, _, kg⟩ := four_cells F3
  have H3 := Lib.hid (H2.out.below hb3)
  replace hb3 := Lib.hid (hb2.out.trans (hb3.mono hb2.out.size))
  replace F3 := Lib.hid F3
  clear F2 m0 m1 m2 m3 mg H2 hb2
  cases hgr : greatR s with
  | true =>
    go_wp2_with fail
    go_ret
    exact ⟨rfl, hb3.out⟩
  | false =>
    clear hgr
    go_wp2_with fail
    with_reducible refine (shareR_any _ s n _ H3.out).mono ?_
    rintro e w4 ⟨t, rfl, ht, hb4⟩
    obtain ⟨E, ea, G, eg, M, em, K, ek, rfl, _⟩ := id ht.open
    have F4 := (hb4.block w.heap.size kg).trans F3.out
    have H4 := H3.out.below hb4
    obtain ⟨w5, hw5, f5, hs5, hb5⟩ := box_4 w4 (.slice E (shV s n).1.1.length ea) (.slice G (shV s n).1.2.length eg) (.slice M (shV s n).2.1.length em) (.slice K (shV s n).2.2.length ek) 33
    have F5 := (hb5.block w.heap.size (Array.getElem?_eq_some_iff.1 F4).1).trans F4
    have T5 := Lib.hid (ht.drop.below hb5)
    have H5 := Lib.hid (H4.below hb5)
    have B5 := Lib.hid (hb3.out.trans ((hb4.trans (hb5.mono hb4.size)).mono hb3.out.size))
    obtain ⟨m0, m1, m2, m3, _, mg⟩ := four_cells F5
    obtain ⟨j0, j1, j2, j3, _, jg⟩ := four_cells f5
    replace F5 := Lib.hid F5
    replace f5 := Lib.hid f5
    replace hs5 := Lib.hid hs5
    clear F3 F4 k0 k1 k2 k3 kg H3 H4 ht hb4 hb5 hb3
    go_upto_region 7 with fail
    clear hw5
    by_cases he : shE s n = 0
    · obtain ⟨k, rfl, hm, h8, h256, hx0, hx255, hln, hV⟩ := sh_ok he
      rw [he]
      have hlast := mayT_len (mayR_of hm).2.2
      obtain ⟨hu, hu1, hu2⟩ := up_byte hx255
      have hTl : (shV s k).2.1.length = 256 := by rw [hV, List.length_set, hln]
      have hTa : (shV s k).2.1[k]?.getD 0 = s.2.1[k]?.getD 0 + 1 := by rw [hV]; exact set_get (by omega)
      have hTb : Hid (∀ j, j ≠ k → (shV s k).2.1[j]?.getD 0 = s.2.1[j]?.getD 0) := Lib.hid fun j hj => by rw [hV]; exact set_other hj
      have hTd : (shV s k).1 = s.1 := by rw [hV]
      have hTc : (shV s k).2.2 = s.2.2 := by rw [hV]
      clear hV he
      obtain ⟨T, hT⟩ : ∃ T, shV s k = T := ⟨_, rfl⟩
      rw [hT] at T5 hTl hTa hTb hTd hTc j0 j1 j2 j3 f5 ⊢
      clear hT
      obtain ⟨x, hx⟩ : ∃ x, s.2.1[k]?.getD 0 = x := ⟨_, rfl⟩
      rw [hx] at hx0 hu hu1 hu2 hTa
      have t0 := byte_unlike (y := 0) (q := 0) rfl hx0
      obtain ⟨ad, ld, rfl, rfl, _, _, l1, _, had, _, hc⟩ := tables_at hm H5.out.parts.2.1 H5.out.parts.2.2
      obtain ⟨M', em', e1, l2, _, hmy⟩ := rBy_byt (B := w5.heap.size) (fun _ h => h) T5.out.parts.2.1
      cases e1
      obtain ⟨bd, rfl, hbd, hmc⟩ := hmy (by omega)
      have cT : Hid (∀ j, j < 256 → ∀ W, Below w5.heap.size w5 W → W.cell? (ad.add j) = some (.int .u8 ((s.2.1[j]?.getD 0).toNat : Int))) := Lib.hid fun j hj W hW => (hW.cell (by rw [add_block]; exact had)).trans (hc j hj).1
      have cU : Hid (∀ j, j < 256 → ∀ W, Below w5.heap.size w5 W → W.cell? (bd.add j) = some (.int .u8 ((T.2.1[j]?.getD 0).toNat : Int))) := Lib.hid fun j hj W hW => (hW.cell (by rw [add_block]; exact hbd)).trans (hmc j (by omega))
      have q1 : Hid (∀ W, Below w5.heap.size w5 W → W.cell? (ad.add k) = some (.int .u8 (x.toNat : Int))) := Lib.hid fun W hW => by rw [cT.out k h256 W hW, hx]
      obtain ⟨z, hz⟩ : ∃ z : Int, (x.toNat : Int) + 1 = z := ⟨_, rfl⟩
      have q2 : Hid (∀ W, Below w5.heap.size w5 W → W.cell? (bd.add k) = some (.int .u8 z)) := Lib.hid fun W hW => by rw [cU.out k h256 W hW, hTa, ← hu, hz]
      have hwr : Hid (IntKind.i64.wrap ((x.toNat : Int) + 1) = z) := Lib.hid (by rw [IntKind.wrap_i64]; omega)
      have hwz : Hid (IntKind.i64.wrap z = z) := Lib.hid (by rw [IntKind.wrap_i64]; omega)
      have hwx : Hid (IntKind.i64.wrap (x.toNat : Int) = (x.toNat : Int)) := Lib.hid (by rw [IntKind.wrap_i64]; omega)
      replace hz := Lib.hid hz
      have i1 : decide ((k : Int) < 8) = false := by simp; omega
      have i2 : decide ((255 : Int) < (k : Int)) = false := by simp; omega
      have hsm : Hid (sameB s.1 T.1 = true) := Lib.hid (by rw [hTd]; simp [sameB])
      have s1 : Hid (∀ W, Below w5.heap.size w5 W → rBy (Old W) W [.slice K T.2.2.length ek] s.2.2) := Lib.hid fun W hW => by
        have := stab_by.old T5.out.parts.2.2 hW
        rwa [hTc] at this ⊢
      have s2 : Hid (∀ W, Below w5.heap.size w5 W → rBy (Old W) W [.slice (some ld) s.2.2.length cl] s.2.2) := Lib.hid fun W hW => stab_by.old H5.out.parts.2.2 hW
      have n1 : Hid (Dsk (Old w5) w5 (.agg #[.slice A s.1.1.length ca, .slice B s.1.2.length cb]) s.1) := Lib.hid H5.out.parts.1
      have n2 : Hid (Dsk (Old w5) w5 (.agg #[.slice E T.1.1.length ea, .slice G T.1.2.length eg]) T.1) := Lib.hid T5.out.parts.1
      rw [hln] at m2 ⊢
      rw [hTl] at j2 l2 ⊢
      have i3 : Hid ((k : Int) < 256) := Lib.hid (by omega)
      replace hx := Lib.hid hx
      replace hlast := Lib.hid hlast
      replace hu := Lib.hid hu
      replace hTl := Lib.hid hTl
      replace hTa := Lib.hid hTa
      replace hTd := Lib.hid hTd
      replace hTc := Lib.hid hTc
      replace hln := Lib.hid hln
      replace hm := Lib.hid hm
      clear hc hmc hmy hx0 hx255 H5 T5
      go_upto_region 9 with fail
      refine wp_region_fx (by kernel_rfl) (fun W => Below w5.heap.size w5 W) (fun _ => none) (fun i => match i with
        | 35 => some (.bool true)
        | _ => none) (by kernel_rfl) (Below.refl _ _).drew (fun w w' h hb => h.trans (hb.mono h.size)) (fun j φ x w w' hp => by cases hp) ?_
      repeat (first
        | (refine wpAs_skip rfl ?_; simp only [Act.put, List.setIfInBounds_toArray, List.set_cons_zero, List.set_cons_succ])
        | (refine wpAs_pure (v := ?_) rfl rfl ?_ ?_; rotate_left; (intro W hC hE; clear hE; (have i3' := i3.out; have hwr' := hwr.out; have hwz' := hwz.out; have hwx' := hwx.out; have i4 : (z != z) = false := (by simp); have a1 := q1.out W hC; have a2 := q2.out W hC; have z0 := (hC.cell (p := ⟨w.heap.size, 0, none⟩) mg).trans m0; have z1 := (hC.cell (p := ⟨w.heap.size, 1, none⟩) mg).trans m1; have z2 := (hC.cell (p := ⟨w.heap.size, 2, none⟩) mg).trans m2; have y2 := (hC.cell (p := ⟨w4.heap.size, 2, none⟩) jg).trans j2; have y0 := (hC.cell (p := ⟨w4.heap.size, 0, none⟩) jg).trans j0; have y1 := (hC.cell (p := ⟨w4.heap.size, 1, none⟩) jg).trans j1); clear hC; go_simp; done); simp only [Act.put, List.setIfInBounds_toArray, List.set_cons_zero, List.set_cons_succ])
        | (refine wpAs_pure (v := ?_) rfl rfl ?_ ?_; rotate_left; (intro W hC hE; clear hE; (have i3' := i3.out; have hwr' := hwr.out; have hwz' := hwz.out; have hwx' := hwx.out; have i4 : (z != z) = false := (by simp); have a1 := q1.out W hC; have a2 := q2.out W hC; have z0 := (hC.cell (p := ⟨w.heap.size, 0, none⟩) mg).trans m0; have z1 := (hC.cell (p := ⟨w.heap.size, 1, none⟩) mg).trans m1; have z2 := (hC.cell (p := ⟨w.heap.size, 2, none⟩) mg).trans m2; have y2 := (hC.cell (p := ⟨w4.heap.size, 2, none⟩) jg).trans j2; have y0 := (hC.cell (p := ⟨w4.heap.size, 0, none⟩) jg).trans j0; have y1 := (hC.cell (p := ⟨w4.heap.size, 1, none⟩) jg).trans j1); clear hC; go_simp; with_reducible rfl); simp only [Act.put, List.setIfInBounds_toArray, List.set_cons_zero, List.set_cons_succ]))
      refine wpAs_fixed rfl rfl rfl ?_ ?_
      · intro W hC hE
        refine does_enter (f := 17) (args := #[.agg #[.slice A s.1.1.length ca, .slice B s.1.2.length cb], .agg #[.slice E T.1.1.length ea, .slice G T.1.2.length eg]]) ?_ ?_
        · go_simp
        · refine (same_any _ _ s.1 T.1 W (n1.out.below hC) (n2.out.below hC)).mono ?_
          rintro e w' ⟨rfl, hg⟩; rw [hsm.out]
          exact ⟨_, rfl, rfl, hg⟩
      simp only [Act.put, List.setIfInBounds_toArray, List.set_cons_zero, List.set_cons_succ]
      iterate 5 (first
        | (refine wpAs_skip rfl ?_; simp only [Act.put, List.setIfInBounds_toArray, List.set_cons_zero, List.set_cons_succ])
        | (refine wpAs_pure (v := ?_) rfl rfl ?_ ?_; rotate_left; (intro W hC hE; clear hE; (have z3 := (hC.cell (p := ⟨w.heap.size, 3, none⟩) mg).trans m3; have y3 := (hC.cell (p := ⟨w4.heap.size, 3, none⟩) jg).trans j3); clear hC; go_simp; with_reducible rfl); simp only [Act.put, List.setIfInBounds_toArray, List.set_cons_zero, List.set_cons_succ]))
      refine wpAs_pure (v := .string ⟨(s.2.2).toArray⟩) rfl rfl ?_ ?_
      · intro W hC hE
        have h : rBy (Old W) W [.slice K T.2.2.length ek] (s.2.2) := s1.out W hC
        have hs := rBy_str0 h
        clear h hC hE
        refine run_convert_op (v := .slice K T.2.2.length ek) _ _ _ rfl ?_ hs
        first | rfl | (simp; done) | (go_simp; done)
      simp only [Act.put, List.setIfInBounds_toArray, List.set_cons_zero, List.set_cons_succ]
      iterate 2 (first
        | (refine wpAs_skip rfl ?_; simp only [Act.put, List.setIfInBounds_toArray, List.set_cons_zero, List.set_cons_succ])
        | (refine wpAs_pure (v := ?_) rfl rfl ?_ ?_; rotate_left; (intro W hC hE; clear hE; (have z3 := (hC.cell (p := ⟨w.heap.size, 3, none⟩) mg).trans m3; have y3 := (hC.cell (p := ⟨w4.heap.size, 3, none⟩) jg).trans j3); clear hC; go_simp; with_reducible rfl); simp only [Act.put, List.setIfInBounds_toArray, List.set_cons_zero, List.set_cons_succ]))
      refine wpAs_pure (v := .string ⟨(s.2.2).toArray⟩) rfl rfl ?_ ?_
      · intro W hC hE
        have h : rBy (Old W) W [.slice (some ld) s.2.2.length cl] (s.2.2) := s2.out W hC
        have hs := rBy_str0 h
        clear h hC hE
        refine run_convert_op (v := .slice (some ld) s.2.2.length cl) _ _ _ rfl ?_ hs
        first | rfl | (simp; done) | (go_simp; done)
      simp only [Act.put, List.setIfInBounds_toArray, List.set_cons_zero, List.set_cons_succ]
      repeat (first
        | (refine wpAs_skip rfl ?_; simp only [Act.put, List.setIfInBounds_toArray, List.set_cons_zero, List.set_cons_succ])
        | (refine wpAs_pure (v := ?_) rfl rfl ?_ ?_; rotate_left; (intro W hC hE; clear hE; skip; clear hC; go_simp; done); simp only [Act.put, List.setIfInBounds_toArray, List.set_cons_zero, List.set_cons_succ])
        | (refine wpAs_pure (v := ?_) rfl rfl ?_ ?_; rotate_left; (intro W hC hE; clear hE; skip; clear hC; go_simp; with_reducible rfl); simp only [Act.put, List.setIfInBounds_toArray, List.set_cons_zero, List.set_cons_succ]))
      refine wpAs_end fun W hC hE => ?_
      clear hE
      have hdr : Below w5.heap.size w5 W := hC
      clear hC
      obtain ⟨w6, rfl⟩ : ∃ w6 : World, w6 = W := ⟨_, rfl⟩
      go_wp2_with fail
      go_loopw [8] (fun i wr => ∃ j : Nat, j ≤ 256 ∧ i = .int .i64 j ∧ Below w5.heap.size w5 wr) (fun i _ => 256 - (intOf i).toNat)
      case atStart => exact ⟨0, by omega, rfl, hdr⟩
      case round =>
        clear hdr
        obtain ⟨j, hj, rfl, hbr⟩ := hrel
        by_cases hlt : j < 256
        · by_cases hjk : j = k
          · subst hjk
            have hbr' := Lib.hid hbr
            clear hbr
            go_upto_region 14 with fail
            go_quiet (fail)
            go_wp2_with fail
            go_roundw
            case rel => exact ⟨j + 1, by omega, by go_num, below_drewN hbr'.out _⟩
            case measure => simp [intOf]; omega
          · have q1 := cT.out j hlt wr hbr
            have q2 := cU.out j hlt wr hbr
            rw [hTb.out j hjk] at q2
            obtain ⟨y, hy⟩ : ∃ y, s.2.1[j]?.getD 0 = y := ⟨_, rfl⟩
            rw [hy] at q1 q2
            replace hy := Lib.hid hy
            have z2 := (hbr.cell (p := ⟨w.heap.size, 2, none⟩) mg).trans m2
            have y2 := (hbr.cell (p := ⟨w4.heap.size, 2, none⟩) jg).trans j2
            have g1 : ((j : Int) != (k : Int)) = true := by simp; omega
            have hbr' := Lib.hid hbr
            clear hbr
            go_upto_region 14 with fail
            go_quiet (fail)
            go_wp2_with fail
            go_roundw
            case rel => exact ⟨j + 1, by omega, by go_num, below_drewN hbr'.out _⟩
            case measure => simp [intOf]; omega
        · have hbr' := Lib.hid hbr
          clear hbr
          go_wp2_with fail
          go_ret
          exact ⟨rfl, B5.out.trans (hbr'.out.mono B5.out.size)⟩
    · have hnil : shV s n = emptyR := sh_no he
      obtain ⟨q, hq⟩ : ∃ q, shE s n = q := ⟨_, rfl⟩
      have hq1 : (q != 0) = true := by rw [← hq]; simpa using he
      rw [hq]
      rw [hnil] at T5 j0 j1 j2 j3 f5 ⊢
      replace hq := Lib.hid hq
      clear he hnil
      go_wp2_with fail
      go_ret
      exact ⟨by simp [emptyR], B5.out⟩

/-! ### The row's step -/
set_option maxRecDepth 100000 in
theorem lifted (os : Os) (started : os.Started) (H : Type) (enc : TypeId × Value → H) :
    ReturnsInHanded {} Try.checked os 5 .any (Rows.roomSharesSpec.pre6 enc Try.prog Try.f5 Rows.roomSharesRow.domain false) (Rows.roomSharesSpec.post enc Try.prog Try.f5 false true false false) := by
  refine returnsInHanded_of_change (C := Try.checked) own started (by kernel_rfl) Try.func5
    (ChangeSpec.witness6 (enc := enc) (C := Try.checked) false ⟨#[], #[.agg #[.slice none 0 0, .slice none 0 0, .slice none 0 0, .slice none 0 0], .int .i64 0], []⟩ 8 (by kernel_rfl) (by kernel_rfl) (by kernel_rfl) (by kernel_rfl)) ?_
  intro W base args ds gs before hval0 hW _ _
  have hval : ∀ (j : Nat) t v, Try.f5.params[j]? = some t → args[j]? = some v → Value.okWide Try.prog W .any base t v := hval0
  have hW' := hW
  obtain ⟨p, q, hA0, hV, _, _, _⟩ := hW
  have hA : DataW.TrodAll enc Try.prog W 0 (fun _ => true) true Try.f5.params.toList args.toList ds p := hA0
  rw [Try.params5] at hA hval
  obtain ⟨v0, vs0, d0, ds0, p0, q0, hargs, rfl, _, h0, r0⟩ := trodAll_cons hA
  obtain ⟨v1, vs1, d1, ds1, p1, q1, rfl, rfl, _, h1, r1⟩ := trodAll_cons r0
  obtain ⟨rfl, rfl, _⟩ := trodAll_nil r1
  obtain rfl : args = #[v0, v1] := by cases args; simp_all
  obtain ⟨rfl, _⟩ := trodVars_none hV
  obtain ⟨d0x, y0⟩ := open_store (hval 0 33 v0 rfl rfl) h0
  obtain ⟨a1, rfl, _, _, w1⟩ := open_int Try.underlying3 (hval 1 3 v1 rfl rfl) h1
  clear hA0 hval0
  refine (walk v0 d0x a1 w1 W y0).mono fun e W' ⟨he, hb⟩ => ?_
  subst he
  exact ⟨_, rfl, law_post laidOut (by rw [Try.params5]; decide +kernel) (by kernel_rfl) Try.underlying4 rfl ⟨rfl, by simp [Rows.roomSharesSpec], rfl⟩ hW' hb⟩

theorem over : Rows.roomSharesRow.holds Try.pinned (OpenSpec.ofChange Rows.roomSharesSpec) :=
  OpenClaim.holds_of_wide 5 Try.f5 rfl rfl rfl rfl rfl rfl rfl ⟨rfl, rfl, rfl, rfl, rfl⟩ rfl rfl rfl rfl rfl (by kernel_rfl) Try.func5 (by kernel_rfl)
    (of_decide_eq_true (by kernel_rfl)) (by unfold Func.isWrapper; first | (rw [if_pos (by decide +kernel)]; kernel_rfl) | (rw [if_neg (by decide +kernel)]; exact ⟨rfl, rfl⟩))
    (fun os started H enc _ => lifted os started H enc)

end Go.Proofs.Ytjlbkcnhbndgbaa.roomShares
namespace Go.Proofs.Ytjlbkcnhbndgbaa
theorem roomShares_proved : Rows.RoomSharesSaid := roomShares.over
end Go.Proofs.Ytjlbkcnhbndgbaa
