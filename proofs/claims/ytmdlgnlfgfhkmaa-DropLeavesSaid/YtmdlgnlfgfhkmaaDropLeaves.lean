/-
  For every store and place DropLeaves answers true and leaves its arguments as they were. No condition.
-/
import Derived.Test.YtmdlgnlfgfhkmaaBnd4
namespace Go.Proofs.Ytmdlgnlfgfhkmaa.dropLeaves
open Go.ChangeShapes Go.WideShapes Go.RowKit

theorem own : ownKnob Try.prog.godebug = none := by kernel_rfl
theorem laidOut : laidOutB Try.prog = true := by kernel_rfl

set_option maxRecDepth 100000 in
set_option maxHeartbeats 8000000 in
theorem walk (v : Value) (s : Rm) (n : Int) (_hn : (Lit.int .i64 n).wf = true) (w : World) (h : Sto (Old w) w v s) :
    Calls Try.prog 5 #[v, .int .i64 n] w fun e w' => e = .returned (.bool true) ∧ Below w.heap.size w w' := by
  clear _hn
  obtain ⟨A, ca, B, cb, N, cn, L, cl, rfl, _, _, _⟩ := h.open
  have HG0 : Bag w [OldR (.agg #[.slice A s.1.1.length ca, .slice B s.1.2.length cb, .slice N s.2.1.length cn, .slice L s.2.2.length cl]) s] := (Bag.nil w).add (F := OldR _ s) h (lasts_oldR _ _)
  obtain ⟨w1, hw1, hg1, hB1, _, hs1⟩ := bag_four HG0 (Below.refl _ _) (.slice A s.1.1.length ca) (.slice B s.1.2.length cb) (.slice N s.2.1.length cn) (.slice L s.2.2.length cl) 29
  have HG1 := Lib.hid hg1
  have B1 := Lib.hid hB1
  replace hs1 := Lib.hid hs1
  obtain ⟨k0, k1, k2, k3, kg⟩ := hg1.at 0 rfl
  clear HG0 hg1 h hB1
  go_enter Try.func5, Try.ntmps5
  go_upto_region 1 with fail
  clear hw1 k0 k1 k2 k3
  go_wp2_with fail
  with_reducible refine (alive9 _).mono ?_
  rintro e w2 ⟨rfl, hb2⟩
  have HG2 := Lib.hid (HG1.out.below hb2)
  have B2 := Lib.hid (B1.out.trans (hb2.mono B1.out.size))
  clear hb2 HG1 B1 kg
  obtain ⟨k0, k1, k2, k3, kg⟩ := HG2.out.at 0 rfl
  go_wp2_with fail
  with_reducible refine (greatR_any _ s _ (HG2.out.at 1 rfl)).mono ?_
  rintro e w3 ⟨rfl, hb3⟩
  have HG3 := Lib.hid (HG2.out.below hb3)
  have B3 := Lib.hid (B2.out.trans (hb3.mono B2.out.size))
  clear hb3 HG2 B2 k0 k1 k2 k3 kg
  obtain ⟨k0, k1, k2, k3, kg⟩ := HG3.out.at 0 rfl
  cases hgr : greatR s with
  | true =>
    go_wp2_with fail
    go_ret
    exact ⟨rfl, B3.out⟩
  | false =>
  clear hgr
  -- Leave
  go_wp2_with fail
  with_reducible refine (leaveV_open _ s n _ (HG3.out.at 1 rfl)).mono ?_
  rintro e w5 ⟨E, ea, G, eg, M, em, K, ek, rfl, h5, hb5⟩
  obtain ⟨T, hT⟩ : ∃ T, lvV s n = T := ⟨_, rfl⟩
  obtain ⟨q, hq⟩ : ∃ q, lvE s n = q := ⟨_, rfl⟩
  rw [hT] at h5 ⊢
  rw [hq]
  obtain ⟨w8, hw8, hg8, hB8, _, hs8⟩ := bag_four ((HG3.out.below hb5).add (F := OldR _ T) h5.drop (lasts_oldR _ _)) (Below.refl _ _) (.slice E T.1.1.length ea) (.slice G T.1.2.length eg) (.slice M T.2.1.length em) (.slice K T.2.2.length ek) 29
  have HG8 := Lib.hid hg8
  have B8 := Lib.hid (B3.out.trans ((hb5.trans (hB8.mono hb5.size)).mono B3.out.size))
  replace hs8 := Lib.hid hs8
  clear k0 k1 k2 k3 kg hg8 hB8 hb5 h5 HG3 B3
  obtain ⟨k0, k1, k2, k3, kg⟩ := HG8.out.at 2 rfl
  obtain ⟨j0, j1, j2, j3, jg⟩ := HG8.out.at 0 rfl
  go_upto_region 7 with fail
  clear hw8
  by_cases hq0 : q = 0
  case neg =>
    have hTe : T = emptyR := by
      rcases lv_ways s n with ⟨_, _, e⟩ | ⟨_, _, _, _, _, _, _, _, _, e⟩ | ⟨_, _, _, _, _, _, _, _, _, e, _⟩
      · rw [← hT, e]
      · rw [← hT, e]
      · rw [e] at hq; exact absurd hq.symm hq0
    have hq1 : (q != 0) = true := by simpa using hq0
    subst hTe
    replace hq := Lib.hid hq
    replace hT := Lib.hid hT
    replace j2 : w8.cell? ⟨w5.heap.size, 2, none⟩ = some (.slice M 0 em) := j2
    clear hq0
    go_wp2_with fail
    go_ret
    exact ⟨by simp, B8.out⟩
  subst hq0
  obtain ⟨k, hnk, hm, hmT, h8, h256, hx, hTd, hTc, hTl, hln, hle, hlt, hset⟩ := lv_less hq
  subst hnk
  rw [hT] at hmT hTd hTc hTl hle hlt hset
  obtain ⟨x, hxx⟩ : ∃ x, s.2.1[k]?.getD 0 = x := ⟨_, rfl⟩
  obtain ⟨y, hyy⟩ : ∃ y, T.2.1[k]?.getD 0 = y := ⟨_, rfl⟩
  rw [hxx] at hx hlt hset
  rw [hyy] at hlt
  have hTb : Hid (1 < x.toNat → y = x - 1 ∧ ∀ j, j ≠ k → T.2.1[j]?.getD 0 = s.2.1[j]?.getD 0) := Lib.hid fun h1 => by
    have h2 := hset h1
    exact ⟨by rw [← hyy, h2]; exact set_get (by omega), fun j hj => by rw [h2]; exact set_other hj⟩
  replace hle := Lib.hid hle
  obtain ⟨ad, ld, rfl, rfl, -, -, -, -, had, -, hc⟩ := tables_at hm (HG8.out.at 3 rfl : Sto (Old w8) w8 _ s).parts.2.1 (HG8.out.at 3 rfl : Sto (Old w8) w8 _ s).parts.2.2
  obtain ⟨bd, lb, rfl, rfl, -, -, -, -, hbd, -, hd⟩ := tables_at hmT (HG8.out.at 1 rfl : Sto (Old w8) w8 _ T).parts.2.1 (HG8.out.at 1 rfl : Sto (Old w8) w8 _ T).parts.2.2
  have cS : Hid (∀ j, j < 256 → ∀ W, Below w8.heap.size w8 W → W.cell? (ad.add j) = some (.int .u8 ((s.2.1[j]?.getD 0).toNat : Int))) := Lib.hid fun j hj W hW => (hW.cell (by rw [add_block]; exact had)).trans (hc j hj).1
  have cT : Hid (∀ j, j < 256 → ∀ W, Below w8.heap.size w8 W → W.cell? (bd.add j) = some (.int .u8 ((T.2.1[j]?.getD 0).toNat : Int))) := Lib.hid fun j hj W hW => (hW.cell (by rw [add_block]; exact hbd)).trans (hd j hj).1
  have q1 : Hid (∀ W, Below w8.heap.size w8 W → W.cell? (ad.add k) = some (.int .u8 (x.toNat : Int))) := Lib.hid fun W hW => by rw [cS.out k h256 W hW, hxx]
  have q2 : Hid (∀ W, Below w8.heap.size w8 W → W.cell? (bd.add k) = some (.int .u8 (y.toNat : Int))) := Lib.hid fun W hW => by rw [cT.out k h256 W hW, hyy]
  have i1 : decide ((k : Int) < 8) = false := by simp; omega
  have i2 : decide ((255 : Int) < (k : Int)) = false := by simp; omega
  have hsm : Hid (sameB s.1 T.1 = true) := Lib.hid (by rw [hTd]; simp [sameB])
  have n1 : Hid (Dsk (Old w8) w8 (.agg #[.slice A s.1.1.length ca, .slice B s.1.2.length cb]) s.1) := Lib.hid (HG8.out.at 3 rfl : Sto (Old w8) w8 _ s).parts.1
  have n2 : Hid (Dsk (Old w8) w8 (.agg #[.slice E T.1.1.length ea, .slice G T.1.2.length eg]) T.1) := Lib.hid (HG8.out.at 1 rfl : Sto (Old w8) w8 _ T).parts.1
  have s1 : Hid (∀ W, Below w8.heap.size w8 W → rBy (Old W) W [.slice (some lb) T.2.2.length ek] s.2.2) := Lib.hid fun W hW => by
    have := stab_by.old (HG8.out.at 1 rfl : Sto (Old w8) w8 _ T).parts.2.2 hW
    rwa [hTc] at this ⊢
  have s2 : Hid (∀ W, Below w8.heap.size w8 W → rBy (Old W) W [.slice (some ld) s.2.2.length cl] s.2.2) := Lib.hid fun W hW => stab_by.old (HG8.out.at 3 rfl : Sto (Old w8) w8 _ s).parts.2.2 hW
  have i3 : Hid ((k : Int) < 256) := Lib.hid (by omega)
  have hge : Hid (¬ x.toNat ≤ y.toNat) := Lib.hid (by omega)
  rw [hln] at k2
  rw [hTl] at j2
  replace hxx := Lib.hid hxx
  replace hyy := Lib.hid hyy
  replace hTl := Lib.hid hTl
  replace hTd := Lib.hid hTd
  replace hTc := Lib.hid hTc
  replace hln := Lib.hid hln
  replace hm := Lib.hid hm
  replace hmT := Lib.hid hmT
  replace hT := Lib.hid hT
  replace hq := Lib.hid hq
  have hx' := Lib.hid hx
  replace hlt := Lib.hid hlt
  clear hc hd h8 hset hx
  go_upto_region 9 with fail
  refine wp_region_fx (by kernel_rfl) (fun W => Below w8.heap.size w8 W) (fun _ => none) (fun i => match i with
    | 11 => some (.bool true)
    | _ => none) (by kernel_rfl) (Below.refl _ _).drew (fun w w' h hb => h.trans (hb.mono h.size)) (fun j φ x w w' hp => by cases hp) ?_
  repeat (first
    | (refine wpAs_skip rfl ?_; simp only [Act.put, List.setIfInBounds_toArray, List.set_cons_zero, List.set_cons_succ])
    | (refine wpAs_pure (v := ?_) rfl rfl ?_ ?_; rotate_left; (intro W hC hE; clear hE; (have i3' := i3.out; have z0 := (hC.cell (p := ⟨w.heap.size, 0, none⟩) kg).trans k0; have z1 := (hC.cell (p := ⟨w.heap.size, 1, none⟩) kg).trans k1; have y0 := (hC.cell (p := ⟨w5.heap.size, 0, none⟩) jg).trans j0; have y1 := (hC.cell (p := ⟨w5.heap.size, 1, none⟩) jg).trans j1); clear hC; go_simp; done); simp only [Act.put, List.setIfInBounds_toArray, List.set_cons_zero, List.set_cons_succ])
    | (refine wpAs_pure (v := ?_) rfl rfl ?_ ?_; rotate_left; (intro W hC hE; clear hE; (have i3' := i3.out; have z0 := (hC.cell (p := ⟨w.heap.size, 0, none⟩) kg).trans k0; have z1 := (hC.cell (p := ⟨w.heap.size, 1, none⟩) kg).trans k1; have y0 := (hC.cell (p := ⟨w5.heap.size, 0, none⟩) jg).trans j0; have y1 := (hC.cell (p := ⟨w5.heap.size, 1, none⟩) jg).trans j1); clear hC; go_simp; with_reducible rfl); simp only [Act.put, List.setIfInBounds_toArray, List.set_cons_zero, List.set_cons_succ]))
  refine wpAs_fixed rfl rfl rfl ?_ ?_
  · intro W hC hE
    refine does_enter (f := 18) (args := #[.agg #[.slice A s.1.1.length ca, .slice B s.1.2.length cb], .agg #[.slice E T.1.1.length ea, .slice G T.1.2.length eg]]) ?_ ?_
    · go_simp
    · refine (same_any _ _ s.1 T.1 W (n1.out.below hC) (n2.out.below hC)).mono ?_
      rintro e w' ⟨rfl, hg⟩; rw [hsm.out]
      exact ⟨_, rfl, rfl, hg⟩
  simp only [Act.put, List.setIfInBounds_toArray, List.set_cons_zero, List.set_cons_succ]
  iterate 5 (first
    | (refine wpAs_skip rfl ?_; simp only [Act.put, List.setIfInBounds_toArray, List.set_cons_zero, List.set_cons_succ])
    | (refine wpAs_pure (v := ?_) rfl rfl ?_ ?_; rotate_left; (intro W hC hE; clear hE; (have z3 := (hC.cell (p := ⟨w.heap.size, 3, none⟩) kg).trans k3; have y3 := (hC.cell (p := ⟨w5.heap.size, 3, none⟩) jg).trans j3); clear hC; go_simp; with_reducible rfl); simp only [Act.put, List.setIfInBounds_toArray, List.set_cons_zero, List.set_cons_succ]))
  refine wpAs_pure (v := .string ⟨(s.2.2).toArray⟩) rfl rfl ?_ ?_
  · intro W hC hE
    have h : rBy (Old W) W [.slice (some ld) s.2.2.length cl] (s.2.2) := s2.out W hC
    have hs := rBy_str0 h
    clear h hC hE
    refine run_convert_op (v := .slice (some ld) s.2.2.length cl) _ _ _ rfl ?_ hs
    first | rfl | (simp; done) | (go_simp; done)
  simp only [Act.put, List.setIfInBounds_toArray, List.set_cons_zero, List.set_cons_succ]
  iterate 2 (first
    | (refine wpAs_skip rfl ?_; simp only [Act.put, List.setIfInBounds_toArray, List.set_cons_zero, List.set_cons_succ])
    | (refine wpAs_pure (v := ?_) rfl rfl ?_ ?_; rotate_left; (intro W hC hE; clear hE; (have z3 := (hC.cell (p := ⟨w.heap.size, 3, none⟩) kg).trans k3; have y3 := (hC.cell (p := ⟨w5.heap.size, 3, none⟩) jg).trans j3); clear hC; go_simp; with_reducible rfl); simp only [Act.put, List.setIfInBounds_toArray, List.set_cons_zero, List.set_cons_succ]))
  refine wpAs_pure (v := .string ⟨(s.2.2).toArray⟩) rfl rfl ?_ ?_
  · intro W hC hE
    have h : rBy (Old W) W [.slice (some lb) T.2.2.length ek] (s.2.2) := s1.out W hC
    have hs := rBy_str0 h
    clear h hC hE
    refine run_convert_op (v := .slice (some lb) T.2.2.length ek) _ _ _ rfl ?_ hs
    first | rfl | (simp; done) | (go_simp; done)
  simp only [Act.put, List.setIfInBounds_toArray, List.set_cons_zero, List.set_cons_succ]
  repeat (first
    | (refine wpAs_skip rfl ?_; simp only [Act.put, List.setIfInBounds_toArray, List.set_cons_zero, List.set_cons_succ])
    | (refine wpAs_pure (v := ?_) rfl rfl ?_ ?_; rotate_left; (intro W hC hE; clear hE; (have i3' := i3.out; have hge' := hge.out; have a1 := q1.out W hC; have a2 := q2.out W hC; have z2 := (hC.cell (p := ⟨w.heap.size, 2, none⟩) kg).trans k2; have y2 := (hC.cell (p := ⟨w5.heap.size, 2, none⟩) jg).trans j2); clear hC; go_simp; done); simp only [Act.put, List.setIfInBounds_toArray, List.set_cons_zero, List.set_cons_succ])
    | (refine wpAs_pure (v := ?_) rfl rfl ?_ ?_; rotate_left; (intro W hC hE; clear hE; (have i3' := i3.out; have hge' := hge.out; have a1 := q1.out W hC; have a2 := q2.out W hC; have z2 := (hC.cell (p := ⟨w.heap.size, 2, none⟩) kg).trans k2; have y2 := (hC.cell (p := ⟨w5.heap.size, 2, none⟩) jg).trans j2); clear hC; go_simp; with_reducible rfl); simp only [Act.put, List.setIfInBounds_toArray, List.set_cons_zero, List.set_cons_succ]))
  refine wpAs_end fun W hC hE => ?_
  clear hE
  have hdr : Below w8.heap.size w8 W := hC
  clear hC
  obtain ⟨w9, rfl⟩ : ∃ w9 : World, w9 = W := ⟨_, rfl⟩
  go_wp2_with fail
  go_loopw [8] (fun i wr => ∃ j : Nat, j ≤ 256 ∧ i = .int .i64 j ∧ Below w8.heap.size w8 wr) (fun i _ => 256 - (intOf i).toNat)
  case atStart => exact ⟨0, by omega, rfl, hdr⟩
  case round =>
    clear hdr
    obtain ⟨j, hj, rfl, hbr⟩ := hrel
    have z2 := (hbr.cell (p := ⟨w.heap.size, 2, none⟩) kg).trans k2
    have y2 := (hbr.cell (p := ⟨w5.heap.size, 2, none⟩) jg).trans j2
    have qk := q1.out wr hbr
    have rk := q2.out wr hbr
    have hbr' := Lib.hid hbr
    by_cases hlt2 : j < 256
    · have q1 := cS.out j hlt2 wr hbr
      have q2 := cT.out j hlt2 wr hbr
      have hab := hle.out j
      obtain ⟨b, hb⟩ : ∃ b, s.2.1[j]?.getD 0 = b := ⟨_, rfl⟩
      rw [hb] at q1 hab
      by_cases h1 : 1 < x.toNat
      · by_cases hjk : j = k
        · obtain ⟨a, ha⟩ : ∃ a, T.2.1[j]?.getD 0 = a := ⟨_, rfl⟩
          rw [ha] at q2 hab
          have g3 : ¬ b.toNat < a.toNat := by omega
          have g1 : ((j : Int) != (k : Int)) = false := by simp [hjk]
          have g5 : (1 : Int) < (x.toNat : Int) := by omega
          replace hb := Lib.hid hb
          replace ha := Lib.hid ha
          clear hbr hjk
          go_upto_region 14 with fail
          go_quiet (fail)
          go_wp2_with fail
          go_roundw
          case rel => exact ⟨j + 1, by omega, by go_num, below_drewN hbr'.out _⟩
          case measure => simp [intOf]; omega
        · rw [(hTb.out h1).2 j hjk, hb] at q2
          have g1 : ((j : Int) != (k : Int)) = true := by simp; omega
          have g5 : (1 : Int) < (x.toNat : Int) := by omega
          replace hb := Lib.hid hb
          clear hbr hab
          go_upto_region 14 with fail
          go_quiet (fail)
          go_wp2_with fail
          go_roundw
          case rel => exact ⟨j + 1, by omega, by go_num, below_drewN hbr'.out _⟩
          case measure => simp [intOf]; omega
      · obtain ⟨a, ha⟩ : ∃ a, T.2.1[j]?.getD 0 = a := ⟨_, rfl⟩
        rw [ha] at q2 hab
        have g3 : ¬ b.toNat < a.toNat := by omega
        have g5 : ¬ (1 : Int) < (x.toNat : Int) := by omega
        replace hb := Lib.hid hb
        replace ha := Lib.hid ha
        clear hbr
        go_upto_region 14 with fail
        go_quiet (fail)
        go_wp2_with fail
        go_roundw
        case rel => exact ⟨j + 1, by omega, by go_num, below_drewN hbr'.out _⟩
        case measure => simp [intOf]; omega
    · clear hbr
      have hwx : IntKind.i64.wrap (x.toNat : Int) = (x.toNat : Int) := by have := x.toNat_lt; rw [IntKind.wrap_i64]; omega
      have hwy : IntKind.i64.wrap (y.toNat : Int) = (y.toNat : Int) := by have := y.toNat_lt; rw [IntKind.wrap_i64]; omega
      by_cases h1 : x = 1
      · have t1 := byte_same (y := 1) (q := 1) rfl h1
        clear h1
        go_upto_region 16 with fail
        go_quiet (fail)
        go_wp2_with fail
        go_ret
        exact ⟨by simp, B8.out.trans ((below_drewN hbr'.out _).mono B8.out.size)⟩
      · have t1 := byte_unlike (y := 1) (q := 1) rfl h1
        have hxx1 : 1 < x.toNat := by
          have h2 : x.toNat ≠ 0 := fun e => hx'.out (nat_zero.1 e)
          have h3 : x.toNat ≠ 1 := fun e => h1 (UInt8.toNat_inj.1 (by rw [e]; rfl))
          omega
        have hy1 : (y.toNat : Int) = (x.toNat : Int) - 1 := by
          have := dn_nat hx'.out
          rw [← (hTb.out hxx1).1] at this
          omega
        have hws : IntKind.i64.wrap ((x.toNat : Int) - 1) = (x.toNat : Int) - 1 := by have := x.toNat_lt; rw [IntKind.wrap_i64]; omega
        rw [hy1] at rk hwy
        clear h1 hy1
        go_upto_region 16 with fail
        go_quiet (fail)
        go_wp2_with fail
        go_ret
        exact ⟨by simp, B8.out.trans ((below_drewN hbr'.out _).mono B8.out.size)⟩

/-! ### The row's step -/
set_option maxRecDepth 100000 in
theorem lifted (os : Os) (started : os.Started) (H : Type) (enc : TypeId × Value → H) :
    ReturnsInHanded {} Try.checked os 5 .any (Rows.dropLeavesSpec.pre6 enc Try.prog Try.f5 Rows.dropLeavesRow.domain false) (Rows.dropLeavesSpec.post enc Try.prog Try.f5 false true false false) := by
  refine returnsInHanded_of_change (C := Try.checked) own started (by kernel_rfl) Try.func5
    (ChangeSpec.witness6 (enc := enc) (C := Try.checked) false ⟨#[], #[.agg #[.slice none 0 0, .slice none 0 0, .slice none 0 0, .slice none 0 0], .int .i64 0], []⟩ 8 (by kernel_rfl) (by kernel_rfl) (by kernel_rfl) (by kernel_rfl)) ?_
  intro W base args ds gs before hval0 hW _ _
  have hval : ∀ (j : Nat) t v, Try.f5.params[j]? = some t → args[j]? = some v → Value.okWide Try.prog W .any base t v := hval0
  have hW' := hW
  obtain ⟨p, q, hA0, hV, _, _, _⟩ := hW
  have hA : DataW.TrodAll enc Try.prog W 0 (fun _ => true) true Try.f5.params.toList args.toList ds p := hA0
  rw [Try.params5] at hA hval
  obtain ⟨v0, vs0, d0, ds0, p0, q0, hargs, rfl, _, h0, r0⟩ := trodAll_cons hA
  obtain ⟨v1, vs1, d1, ds1, p1, q1, rfl, rfl, _, h1, r1⟩ := trodAll_cons r0
  obtain ⟨rfl, rfl, _⟩ := trodAll_nil r1
  obtain rfl : args = #[v0, v1] := by cases args; simp_all
  obtain ⟨rfl, _⟩ := trodVars_none hV
  obtain ⟨d0x, y0⟩ := open_store (hval 0 29 v0 rfl rfl) h0
  obtain ⟨a1, rfl, _, _, w1⟩ := open_int Try.underlying3 (hval 1 3 v1 rfl rfl) h1
  clear hA0 hval0
  refine (walk v0 d0x a1 w1 W y0).mono fun e W' ⟨he, hb⟩ => ?_
  subst he
  exact ⟨_, rfl, law_post laidOut (by rw [Try.params5]; decide +kernel) (by kernel_rfl) Try.underlying4 rfl ⟨rfl, by simp [Rows.dropLeavesSpec], rfl⟩ hW' hb⟩

theorem over : Rows.dropLeavesRow.holds Try.pinned (OpenSpec.ofChange Rows.dropLeavesSpec) :=
  OpenClaim.holds_of_wide 5 Try.f5 rfl rfl rfl rfl rfl rfl rfl ⟨rfl, rfl, rfl, rfl, rfl⟩ rfl rfl rfl rfl rfl (by kernel_rfl) Try.func5 (by kernel_rfl)
    (of_decide_eq_true (by kernel_rfl)) (by unfold Func.isWrapper; first | (rw [if_pos (by decide +kernel)]; kernel_rfl) | (rw [if_neg (by decide +kernel)]; exact ⟨rfl, rfl⟩))
    (fun os started H enc _ => lifted os started H enc)

end Go.Proofs.Ytmdlgnlfgfhkmaa.dropLeaves
namespace Go.Proofs.Ytmdlgnlfgfhkmaa
theorem dropLeaves_proved : Rows.DropLeavesSaid := dropLeaves.over
end Go.Proofs.Ytmdlgnlfgfhkmaa
