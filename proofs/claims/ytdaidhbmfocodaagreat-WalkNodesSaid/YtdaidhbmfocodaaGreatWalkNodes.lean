/-
  For every store and root WalkNodes answers true and leaves its arguments as they were. No condition.
-/
import Derived.Test.YtdaidhbmfocodaaGreatBnd4
import Derived.Deep.CutRange
import Derived.Deep.RegionWith
namespace Go.Proofs.YtdaidhbmfocodaaGreat.walkNodes
open Go.ChangeShapes Go.WideShapes Go.RowKit

theorem own : ownKnob Tryz.prog.godebug = none := by kernel_rfl
theorem laidOut : laidOutB Tryz.prog = true := by kernel_rfl

set_option maxRecDepth 100000 in
set_option maxHeartbeats 8000000 in
theorem walk (v : Value) (s : Rm) (a : Int) (_hn : (Lit.int .i64 a).wf = true) (w : World) (h : Sto (Old w) w v s) :
    Calls Tryz.prog 5 #[v, .int .i64 a] w fun e w' => e = .returned (.bool true) ∧ Below w.heap.size w w' := by
  clear _hn
  obtain ⟨A, ca, B, cb, N, cn, L, cl, rfl, _⟩ := id h.open
  have HG0 : Bag w [OldR (.agg #[.slice A s.1.1.length ca, .slice B s.1.2.length cb, .slice N s.2.1.length cn, .slice L s.2.2.length cl]) s] := (Bag.nil w).add (F := OldR _ s) h (lasts_oldR _ _)
  obtain ⟨w0, hw0, hg0, hB0, _, hs0⟩ := bag_four HG0 (Below.refl _ _) (.slice A s.1.1.length ca) (.slice B s.1.2.length cb) (.slice N s.2.1.length cn) (.slice L s.2.2.length cl) 29
  have HG1 := Lib.hid hg0
  have B1 := Lib.hid hB0
  replace hs0 := Lib.hid hs0
  clear HG0 hg0 h hB0
  go_enter Tryz.func5, Tryz.ntmps5
  go_upto_region 1 with fail
  clear hw0
  go_wp2_with fail
  with_reducible refine (alive11 _).mono ?_
  rintro e w2 ⟨rfl, hb2⟩
  have HG2 := Lib.hid (HG1.out.below hb2)
  have B2 := Lib.hid (B1.out.trans (hb2.mono B1.out.size))
  clear hb2 HG1 B1
  have hNd := Lib.hid (fun v W hW => walkNodes_any v s a W hW)
  have hct := Lib.hid (fun hh => ck_of (s := s) (a := a) hh)
  have hbd := Lib.hid (fun hh : ckE s a ≠ 0 => (⟨if_neg hh, if_neg hh⟩ : ndsV s a = [] ∧ rfsV s a = []))
  have hgd := Lib.hid (fun hh : ckE s a = 0 => (⟨if_pos hh, if_pos hh⟩ : ndsV s a = markI (nodesO s a) ∧ rfsV s a = markI (refsO s a)))
  unfold NodesR at hNd
  obtain ⟨E0, hE0⟩ : ∃ q, ckE s a = q := ⟨_, rfl⟩
  obtain ⟨l, hl⟩ : ∃ q, ndsV s a = q := ⟨_, rfl⟩
  obtain ⟨r, hr⟩ : ∃ q, rfsV s a = q := ⟨_, rfl⟩
  obtain ⟨n, hn⟩ : ∃ n, l.length = n := ⟨_, rfl⟩
  obtain ⟨m, hm⟩ : ∃ n, r.length = n := ⟨_, rfl⟩
  rw [hE0, hl, hr, hn, hm] at hNd
  rw [hE0, hl, hr] at hbd hgd
  rw [hE0] at hct
  replace hE0 := Lib.hid hE0
  replace hl := Lib.hid hl
  replace hr := Lib.hid hr
  obtain ⟨k0, k1, k2, k3, kg⟩ := HG2.out.at 0 rfl
  go_wp2_with fail
  with_reducible refine (hNd.out _ _ (HG2.out.at 1 rfl)).mono ?_
  rintro e w3 ⟨U, uc, X, xc, rfl, hU, hX, hb3⟩
  have HG3 := Lib.hid (HG2.out.below hb3)
  have hU3 := Lib.hid ((stab_sl (stab_k .i64)).drop hU)
  have hX3 := Lib.hid ((stab_sl (stab_k .i64)).drop hX)
  have B3 := Lib.hid (B2.out.trans (hb3.mono B2.out.size))
  clear hb3 hU hX HG2 B2 k0 k1 k2 k3 kg hNd
  obtain ⟨k0, k1, k2, k3, kg⟩ := HG3.out.at 0 rfl
  go_wp2_with fail
  with_reducible refine (greatR_any _ s _ (HG3.out.at 1 rfl)).mono ?_
  rintro e w4 ⟨rfl, hb4⟩
  have HG4 := Lib.hid (HG3.out.below hb4)
  have hU4 := Lib.hid ((stab_sl (stab_k .i64)).old hU3.out hb4)
  have hX4 := Lib.hid ((stab_sl (stab_k .i64)).old hX3.out hb4)
  have B4 := Lib.hid (B3.out.trans (hb4.mono B3.out.size))
  clear hb4 HG3 B3 hU3 hX3 k0 k1 k2 k3 kg
  by_cases he : E0 = 0
  case neg =>
    have e1 : (E0 != 0) = true := by simpa using he
    have e3 : (E0 == 0) = false := by simpa using he
    obtain rfl : n = 0 := by rw [← hn, (hbd.out he).1]; rfl
    obtain rfl : m = 0 := by rw [← hm, (hbd.out he).2]; rfl
    replace hn := Lib.hid hn
    replace hm := Lib.hid hm
    clear he
    cases hgr : greatR s with
    | true =>
      go_wp2_with fail
      go_ret
      exact ⟨rfl, B4.out⟩
    | false =>
      go_wp2_with fail
      go_ret
      exact ⟨rfl, B4.out⟩
  cases hgr : greatR s with
  | true =>
    subst he
    go_wp2_with fail
    go_ret
    exact ⟨rfl, B4.out⟩
  | false =>
  clear hgr
  subst he
  obtain ⟨htr, has, _⟩ := hct.out rfl
  have hS := Lib.hid (show NdSets s a l r by
    rw [(hgd.out rfl).1, (hgd.out rfl).2]
    exact nd_sets htr)
  have hmr := Lib.hid (show mayR s = true by
    obtain ⟨_, _, hq, _⟩ := as_read has
    exact hq)
  have hmax := Lib.hid (show n ≤ 256 ∧ m ≤ 256 by
    rw [← hn, ← hm]
    exact hS.out.len)
  replace hn := Lib.hid hn
  replace hm := Lib.hid hm
  clear htr has hbd hgd hct
  obtain ⟨w5, hw5, hq1, hq2, hB5⟩ := bits_two w4
  replace hq1 := Lib.hid hq1
  replace hq2 := Lib.hid hq2
  replace hB5 := Lib.hid hB5
  go_upto_region 8 with fail
  go_wp2_with fail
  clear hw5
  go_loopw [11] (fun vi wr => ∃ k : Nat, k ≤ n ∧ vi = .int .i64 k ∧ Below w4.heap.size w4 wr ∧ Bits w4.heap.size (l.take k) wr ∧ Bits (w4.heap.size + 1) [] wr) (fun vi _ => n - (intOf vi).toNat)
  case atStart => exact ⟨0, by omega, rfl, hB5.out, hq1.out, hq2.out⟩
  case round =>
  obtain ⟨k, hk, rfl, hbr, hf1, hf2⟩ := hrel
  have BR := Lib.hid hbr
  have F1 := Lib.hid hf1
  have F2 := Lib.hid hf2
  clear hbr hf1 hf2
  have hn15 := hmax.out.1
  by_cases hlt : k < n
  case pos =>
    obtain ⟨x, hx⟩ : ∃ x, l[k]? = some x := ⟨_, List.getElem?_eq_getElem (by rw [hn.out]; exact hlt)⟩
    obtain ⟨h8, h256, _⟩ := hS.out.nod x (List.mem_of_getElem? hx)
    obtain ⟨j, rfl⟩ : ∃ j : Nat, x = j := ⟨x.toNat, by omega⟩
    obtain ⟨ad, rfl, hz0⟩ := sl_at hU4.out hx
    have hz := Lib.hid hz0
    have i1 : ¬ (j : Int) < 8 := by omega
    have i2 : ¬ (255 : Int) < (j : Int) := by omega
    have i3 : j < 256 := by omega
    have i4 : (0 : Int) ≤ (k : Int) := by omega
    have i5 : (k : Int) < (n : Int) := by omega
    have i6 : (0 : Int) ≤ (j : Int) := by omega
    have i7 : (j : Int) < 256 := by omega
    clear hz0 h8 h256
    go_upto_region 11 with fail
    go_cut [80] from 53 to 79 (fun x80 wx => x80 = .bool false ∧ Below wr.heap.size wr wx)
    case first =>
      by_cases hk0 : k = 0
      · have i8 : ¬ (0 : Int) < (k : Int) := by omega
        replace hx := Lib.hid hx
        replace hk0 := Lib.hid hk0
        refine wp_region_fx (by kernel_rfl) (fun W => Below wr.heap.size wr W) (fun _ => none) (fun _ => none) (by kernel_rfl) (Below.refl _ _).drew (fun w w' h hb => h.trans (hb.mono h.size)) (fun j φ x W W' hp => by cases hp) ?_
        iterate 15 (first
          | (refine wpAs_skip rfl ?_; simp only [Act.put, List.setIfInBounds_toArray, List.set_cons_zero, List.set_cons_succ])
          | (refine wpAs_pure (v := ?_) rfl rfl ?_ ?_; rotate_left; (intro W hC hE; clear hE; (have z0 := hz.out W (BR.out.trans (hC.mono BR.out.size))); clear hC; go_simp; with_reducible rfl); simp only [Act.put, List.setIfInBounds_toArray, List.set_cons_zero, List.set_cons_succ]))
        refine wpAs_pure_jump (v := .bool false) 10 rfl rfl rfl ?_ (by kernel_rfl) ?_
        · intro W hC hE
          clear hE hC
          first
            | (go_simp; done)
            | (go_simp; simp; omega)
            | (go_simp; simp_all; done)
        simp only [skipN, Act.put, List.drop_succ_cons, List.drop_zero, List.setIfInBounds_toArray, List.set_cons_zero, List.set_cons_succ]
        repeat (first
          | (refine wpAs_skip rfl ?_; simp only [Act.put, List.setIfInBounds_toArray, List.set_cons_zero, List.set_cons_succ])
          | (refine wpAs_pure (v := ?_) rfl rfl ?_ ?_; rotate_left; (intro W hC hE; clear hE; skip; clear hC; go_simp; done); simp only [Act.put, List.setIfInBounds_toArray, List.set_cons_zero, List.set_cons_succ])
          | (refine wpAs_pure (v := ?_) rfl rfl ?_ ?_; rotate_left; (intro W hC hE; clear hE; skip; clear hC; go_simp; with_reducible rfl); simp only [Act.put, List.setIfInBounds_toArray, List.set_cons_zero, List.set_cons_succ]))
        refine wpAs_end fun W0 hC hE => ?_
        clear hE
        have hC' := Lib.hid hC
        clear hC
        go_wp2_with fail
        go_meet
        exact ⟨rfl, hC'.out⟩
      · have i8 : (0 : Int) < (k : Int) := by omega
        have i8n : 0 < k := by omega
        obtain ⟨kk, hkk⟩ : ∃ kk, k = kk + 1 := ⟨k - 1, by omega⟩
        obtain ⟨z, hzz⟩ : ∃ z, l[kk]? = some z := ⟨_, List.getElem?_eq_getElem (by rw [hn.out]; omega)⟩
        have hls := up_at hS.out.upl hzz (by rw [← hkk]; exact hx)
        have i9 : ¬ (j : Int) ≤ z := by omega
        obtain ⟨ad', e7, hy0⟩ := sl_at hU4.out hzz
        cases e7
        have hy := Lib.hid hy0
        have i10 : (k : Int) - 1 = (kk : Int) := by omega
        have i11 : IntKind.i64.wrap (kk : Int) = (kk : Int) := IntWalk.i64_in _ (by omega)
        have i12 : (kk : Int) < (n : Int) := by omega
        have i13 : (0 : Int) ≤ (kk : Int) := by omega
        replace hx := Lib.hid hx
        replace hzz := Lib.hid hzz
        replace hkk := Lib.hid hkk
        clear hy0 hls
        refine wp_region_fx (by kernel_rfl) (fun W => Below wr.heap.size wr W) (fun _ => none) (fun _ => none) (by kernel_rfl) (Below.refl _ _).drew (fun w w' h hb => h.trans (hb.mono h.size)) (fun j φ x W W' hp => by cases hp) ?_
        repeat (first
          | (refine wpAs_skip rfl ?_; simp only [Act.put, List.setIfInBounds_toArray, List.set_cons_zero, List.set_cons_succ])
          | (refine wpAs_pure (v := ?_) rfl rfl ?_ ?_; rotate_left; (intro W hC hE; clear hE; (have z0 := hz.out W (BR.out.trans (hC.mono BR.out.size)); have y0 := hy.out W (BR.out.trans (hC.mono BR.out.size))); clear hC; go_simp; done); simp only [Act.put, List.setIfInBounds_toArray, List.set_cons_zero, List.set_cons_succ])
          | (refine wpAs_pure (v := ?_) rfl rfl ?_ ?_; rotate_left; (intro W hC hE; clear hE; (have z0 := hz.out W (BR.out.trans (hC.mono BR.out.size)); have y0 := hy.out W (BR.out.trans (hC.mono BR.out.size))); clear hC; go_simp; with_reducible rfl); simp only [Act.put, List.setIfInBounds_toArray, List.set_cons_zero, List.set_cons_succ]))
        refine wpAs_end fun W0 hC hE => ?_
        clear hE
        have hC' := Lib.hid hC
        clear hC
        go_wp2_with fail
        go_meet
        exact ⟨rfl, hC'.out⟩
    case rest =>
    obtain ⟨rfl, hC⟩ := hcut
    have htk := Lib.hid (take_put hx)
    replace hx := Lib.hid hx
    have hbW := BR.out.trans (hC.mono BR.out.size)
    have z0 := hz.out _ hbW
    have G1 := lasts_bits _ _ _ _ F1.out hC
    have G2 := lasts_bits _ _ _ _ F2.out hC
    have c1 := bits_cell G1 i3
    have c2 := bits_frz G1 j
    have P1 := Lib.hid (bits_put G1 j)
    have P2 := Lib.hid (bits_other G2 (c := w4.heap.size) (by omega) j (.bool true))
    have BN := Lib.hid (hbW.setCell (p := ⟨w4.heap.size, j, none⟩) (Nat.le_refl _) (.bool true))
    rw [← htk.out] at P1
    clear hC hbW G1 G2 BR F1 F2 hz
    go_wp2_with fail
    go_roundw
    case rel => exact ⟨k + 1, by omega, by go_num, BN.out, P1.out, P2.out⟩
    case measure => simp [intOf]; omega
  obtain rfl : n = k := by omega
  rw [List.take_of_length_le (by rw [hn.out]; omega)] at F1
  have i5 : ¬ (n : Int) < (n : Int) := by omega
  clear hlt hk
  have hNN := (show Sto (Old w4) w4 _ s from HG4.out.at 1 rfl).parts
  obtain ⟨nd, bd, rfl, rfl, hl9, _, _, _, hb9, _, hc9⟩ := tables_at hmr.out hNN.2.1 hNN.2.2
  have hT := Lib.hid (fun (j : Nat) (hj : j < 256) W (hW : Below w4.heap.size w4 W) => (hW.cell (p := nd.add j) (by unfold Addr.add; split <;> exact hb9)).trans (hc9 j hj).1)
  clear hNN hb9 hc9
  obtain ⟨w6, rfl⟩ : ∃ w6 : World, w6 = wr := ⟨_, rfl⟩
  replace hl9 := Lib.hid hl9
  have i6 : ∀ j : Nat, j < 256 → (j : Int) < (s.2.1.length : Int) := fun j hj => by rw [hl9.out]; omega
  replace i6 := Lib.hid i6
  go_upto_region 14 with fail
  go_wp2_with fail
  go_loopw [12] (fun vi wr => ∃ k : Nat, k ≤ m ∧ vi = .int .i64 k ∧ Below w4.heap.size w4 wr ∧ Bits w4.heap.size l wr ∧ Bits (w4.heap.size + 1) (r.take k) wr) (fun vi _ => m - (intOf vi).toNat)
  case atStart => exact ⟨0, by omega, rfl, BR.out, F1.out, F2.out⟩
  case round =>
  clear BR F1 F2
  obtain ⟨k2, hk, rfl, hbr, hf1, hf2⟩ := hrel
  have BR := Lib.hid hbr
  have F1 := Lib.hid hf1
  have F2 := Lib.hid hf2
  clear hbr hf1 hf2
  have hm15 := hmax.out.2
  by_cases hlt : k2 < m
  case pos =>
    obtain ⟨x, hx⟩ : ∃ x, r[k2]? = some x := ⟨_, List.getElem?_eq_getElem (by rw [hm.out]; exact hlt)⟩
    obtain ⟨h8, h256, hy0⟩ := hS.out.ref x (List.mem_of_getElem? hx)
    obtain ⟨j, rfl⟩ : ∃ j : Nat, x = j := ⟨x.toNat, by omega⟩
    obtain ⟨ad, rfl, hz0⟩ := sl_at hX4.out hx
    have hz := Lib.hid hz0
    have i1 : ¬ (j : Int) < 8 := by omega
    have i2 : ¬ (255 : Int) < (j : Int) := by omega
    have i3 : j < 256 := by omega
    have hTj := Lib.hid (fun W hW => hT.out j i3 W hW)
    obtain ⟨y, hy⟩ : ∃ y : Nat, (s.2.1[j]?.getD 0).toNat = y := ⟨_, rfl⟩
    rw [hy] at hTj
    have y1 : ¬ y = 0 := fun e => hy0 (by
      rw [show ((j : Int)).toNat = j by omega]
      exact UInt8.toNat_inj.1 (hy.trans e))
    have y2 : ¬ (y : Int) = 0 := by omega
    have y3 : ((y : Int) == 0) = false := by simpa using y1
    have i7 := i6.out j i3
    have i4 : (0 : Int) ≤ (k2 : Int) := by omega
    have i5 : (k2 : Int) < (m : Int) := by omega
    have i8 : (0 : Int) ≤ (j : Int) := by omega
    have i9 : (j : Int) < 256 := by omega
    replace hy := Lib.hid hy
    clear hz0 h8 h256 hy0
    go_upto_region 17 with fail
    go_cut [130] from 92 to 129 (fun x130 wx => x130 = .bool false ∧ Below wr.heap.size wr wx)
    case first =>
      by_cases hk0 : k2 = 0
      · have j8 : ¬ (0 : Int) < (k2 : Int) := by omega
        replace hx := Lib.hid hx
        replace hk0 := Lib.hid hk0
        refine wp_region_fx (by kernel_rfl) (fun W => Below wr.heap.size wr W) (fun _ => none) (fun _ => none) (by kernel_rfl) (Below.refl _ _).drew (fun w w' h hb => h.trans (hb.mono h.size)) (fun j φ x W W' hp => by cases hp) ?_
        iterate 15 (first
          | (refine wpAs_skip rfl ?_; simp only [Act.put, List.setIfInBounds_toArray, List.set_cons_zero, List.set_cons_succ])
          | (refine wpAs_pure (v := ?_) rfl rfl ?_ ?_; rotate_left; (intro W hC hE; clear hE; (have z0 := hz.out W (BR.out.trans (hC.mono BR.out.size))); clear hC; go_simp; with_reducible rfl); simp only [Act.put, List.setIfInBounds_toArray, List.set_cons_zero, List.set_cons_succ]))
        refine wpAs_pure_jump (v := .bool false) 10 rfl rfl rfl ?_ (by kernel_rfl) ?_
        · intro W hC hE
          clear hE hC
          first
            | (go_simp; done)
            | (go_simp; simp; omega)
            | (go_simp; simp_all; done)
        simp only [skipN, Act.put, List.drop_succ_cons, List.drop_zero, List.setIfInBounds_toArray, List.set_cons_zero, List.set_cons_succ]
        repeat (first
          | (refine wpAs_skip rfl ?_; simp only [Act.put, List.setIfInBounds_toArray, List.set_cons_zero, List.set_cons_succ])
          | (refine wpAs_pure (v := ?_) rfl rfl ?_ ?_; rotate_left; (intro W hC hE; clear hE; (have hbW := BR.out.trans (hC.mono BR.out.size); have z0 := hz.out W hbW; have t0 := hTj.out W hbW; obtain ⟨k0, k1, k2, k3, kg⟩ := (HG4.out.below hbW).at 0 rfl); clear hC; go_simp; done); simp only [Act.put, List.setIfInBounds_toArray, List.set_cons_zero, List.set_cons_succ])
          | (refine wpAs_pure (v := ?_) rfl rfl ?_ ?_; rotate_left; (intro W hC hE; clear hE; (have hbW := BR.out.trans (hC.mono BR.out.size); have z0 := hz.out W hbW; have t0 := hTj.out W hbW; obtain ⟨k0, k1, k2, k3, kg⟩ := (HG4.out.below hbW).at 0 rfl); clear hC; go_simp; with_reducible rfl); simp only [Act.put, List.setIfInBounds_toArray, List.set_cons_zero, List.set_cons_succ]))
        refine wpAs_end fun W0 hC hE => ?_
        clear hE
        have hC' := Lib.hid hC
        clear hC
        go_wp2_with fail
        go_meet
        exact ⟨rfl, hC'.out⟩
      · have j8 : (0 : Int) < (k2 : Int) := by omega
        have j8n : 0 < k2 := by omega
        obtain ⟨kk, hkk⟩ : ∃ kk, k2 = kk + 1 := ⟨k2 - 1, by omega⟩
        obtain ⟨z, hzz⟩ : ∃ z, r[kk]? = some z := ⟨_, List.getElem?_eq_getElem (by rw [hm.out]; omega)⟩
        have hls := up_at hS.out.upr hzz (by rw [← hkk]; exact hx)
        have j9 : ¬ (j : Int) ≤ z := by omega
        obtain ⟨ad', e7, hy0⟩ := sl_at hX4.out hzz
        cases e7
        have hyy := Lib.hid hy0
        have i10 : (k2 : Int) - 1 = (kk : Int) := by omega
        have i11 : IntKind.i64.wrap (kk : Int) = (kk : Int) := IntWalk.i64_in _ (by omega)
        have i12 : (kk : Int) < (m : Int) := by omega
        have i13 : (0 : Int) ≤ (kk : Int) := by omega
        replace hx := Lib.hid hx
        replace hzz := Lib.hid hzz
        replace hkk := Lib.hid hkk
        clear hy0 hls
        refine wp_region_fx (by kernel_rfl) (fun W => Below wr.heap.size wr W) (fun _ => none) (fun _ => none) (by kernel_rfl) (Below.refl _ _).drew (fun w w' h hb => h.trans (hb.mono h.size)) (fun j φ x W W' hp => by cases hp) ?_
        repeat (first
          | (refine wpAs_skip rfl ?_; simp only [Act.put, List.setIfInBounds_toArray, List.set_cons_zero, List.set_cons_succ])
          | (refine wpAs_pure (v := ?_) rfl rfl ?_ ?_; rotate_left; (intro W hC hE; clear hE; (have hbW := BR.out.trans (hC.mono BR.out.size); have z0 := hz.out W hbW; have y0 := hyy.out W hbW; have t0 := hTj.out W hbW; obtain ⟨k0, k1, k2, k3, kg⟩ := (HG4.out.below hbW).at 0 rfl); clear hC; go_simp; done); simp only [Act.put, List.setIfInBounds_toArray, List.set_cons_zero, List.set_cons_succ])
          | (refine wpAs_pure (v := ?_) rfl rfl ?_ ?_; rotate_left; (intro W hC hE; clear hE; (have hbW := BR.out.trans (hC.mono BR.out.size); have z0 := hz.out W hbW; have y0 := hyy.out W hbW; have t0 := hTj.out W hbW; obtain ⟨k0, k1, k2, k3, kg⟩ := (HG4.out.below hbW).at 0 rfl); clear hC; go_simp; with_reducible rfl); simp only [Act.put, List.setIfInBounds_toArray, List.set_cons_zero, List.set_cons_succ]))
        refine wpAs_end fun W0 hC hE => ?_
        clear hE
        have hC' := Lib.hid hC
        clear hC
        go_wp2_with fail
        go_meet
        exact ⟨rfl, hC'.out⟩
    case rest =>
    obtain ⟨rfl, hC⟩ := hcut
    have htk := Lib.hid (take_put hx)
    replace hx := Lib.hid hx
    have hbW := BR.out.trans (hC.mono BR.out.size)
    have z0 := hz.out _ hbW
    have G1 := lasts_bits _ _ _ _ F1.out hC
    have G2 := lasts_bits _ _ _ _ F2.out hC
    have c1 := bits_cell G2 i3
    have c2 := bits_frz G2 j
    have P2 := Lib.hid (bits_put G2 j)
    have P1 := Lib.hid (bits_other G1 (c := w4.heap.size + 1) (by omega) j (.bool true))
    have BN := Lib.hid (hbW.setCell (p := ⟨w4.heap.size + 1, j, none⟩) (Nat.le_succ _) (.bool true))
    rw [← htk.out] at P2
    clear hC hbW G1 G2 BR F1 F2 hz hTj y1 y2 y3
    go_wp2_with fail
    go_roundw
    case rel => exact ⟨k2 + 1, by omega, by go_num, BN.out, P1.out, P2.out⟩
    case measure => simp [intOf]; omega
  obtain rfl : m = k2 := by omega
  rw [List.take_of_length_le (by rw [hm.out]; omega)] at F2
  have i5' : ¬ (m : Int) < (m : Int) := by omega
  clear hlt hk hT
  obtain ⟨w7, rfl⟩ : ∃ w7 : World, w7 = wr := ⟨_, rfl⟩
  have hNo := Lib.hid (fun v b W hW => nodeR_open v s b W hW)
  go_upto_region 20 with fail
  go_wp2_with fail
  go_loopw [13] (fun vi wr => ∃ k : Nat, k ≤ n ∧ vi = .int .i64 k ∧ Below w7.heap.size w7 wr) (fun vi _ => n - (intOf vi).toNat)
  case atStart => exact ⟨0, by omega, rfl, Below.refl _ _⟩
  case round =>
  obtain ⟨k3, hk, rfl, hbr⟩ := hrel
  have hbr' := BR.out.trans (hbr.mono BR.out.size)
  have BN := Lib.hid hbr
  have BO := Lib.hid hbr'
  have G1 := Lib.hid (lasts_bits _ _ _ _ F1.out hbr)
  have G2 := Lib.hid (lasts_bits _ _ _ _ F2.out hbr)
  have HR := Lib.hid (HG4.out.below hbr')
  clear hbr hbr'
  by_cases hlt : k3 < n
  case pos =>
    obtain ⟨x, hx⟩ : ∃ x, l[k3]? = some x := ⟨_, List.getElem?_eq_getElem (by rw [hn.out]; exact hlt)⟩
    have hxm := List.mem_of_getElem? hx
    obtain ⟨h8, h256, hE, hl0, hlen⟩ := hS.out.nod x hxm
    have hsub := Lib.hid (hS.out.sub x hxm)
    obtain ⟨ad, rfl, hz0⟩ := sl_at hU4.out hx
    have hz := Lib.hid hz0
    have hNx := Lib.hid (fun v W hW => hNo.out v x W hW)
    rw [hE] at hNx
    obtain ⟨L5, hL5⟩ : ∃ q, (rmV s x).2 = q := ⟨_, rfl⟩
    obtain ⟨lv, hlv⟩ : ∃ q, (rmV s x).1 = q := ⟨_, rfl⟩
    obtain ⟨nl, hnl⟩ : ∃ q, L5.length = q := ⟨_, rfl⟩
    rw [hL5, hlv, hnl] at hNx
    rw [hL5, hnl] at hlen
    rw [hL5, hlv] at hsub
    rw [hlv] at hl0
    have i4 : (0 : Int) ≤ (k3 : Int) := by omega
    have i5 : (k3 : Int) < (n : Int) := by omega
    replace hx := Lib.hid hx
    replace hL5 := Lib.hid hL5
    replace hlv := Lib.hid hlv
    replace hnl := Lib.hid hnl
    clear hz0 h8 h256 hE hxm
    go_upto_region 23 with fail
    refine wp_region_late (ops' := ?opsLate) (by kernel_rfl) [(10, 8)] ?he (by kernel_rfl) (fun d _ _ _ _ h => by cases d <;> exact h) 10 (fun W => Below wr.heap.size wr W) (fun i => match i with
      | 5 => some (fun v W => ∃ Z zc, v = .tuple #[.agg #[.int .i64 lv, .slice Z nl zc], .int .i64 0] ∧ rIts (Old W) W [.slice Z nl zc] L5)
      | 6 => some (fun v W => ∃ Z zc, v = .tuple #[.agg #[.int .i64 lv, .slice Z nl zc], .int .i64 0] ∧ rIts (Old W) W [.slice Z nl zc] L5)
      | 7 => some (fun v W => ∃ Z zc, v = .agg #[.int .i64 lv, .slice Z nl zc] ∧ rIts (Old W) W [.slice Z nl zc] L5)
      | 9 => some (fun v W => ∃ g, v = .pointer (some ⟨g, 0, none⟩) ∧ wr.heap.size ≤ g ∧ W.heap[g]? = some (.cells #[.int .i64 0, .slice none 0 0] 57 (0, 0)))
      | _ => none) (fun i => match i with
      | 8 => some (.int .i64 0)
      | _ => none) ?h1 ?h2 ?h3 (Below.refl _ _).drew (fun w w' h hb => h.trans (hb.mono h.size)) ?tst ?_
    case he =>
      simp [withEdges]
      rfl
    case h1 => decide
    case h2 => kernel_rfl
    case h3 => kernel_rfl
    case tst =>
      intro j φ x W W' hp hx hb
      match j, hp with
      | 5, hp => cases hp; obtain ⟨Z, zc, e, h⟩ := hx; exact ⟨Z, zc, e, stab_its.old h hb⟩
      | 6, hp => cases hp; obtain ⟨Z, zc, e, h⟩ := hx; exact ⟨Z, zc, e, stab_its.old h hb⟩
      | 7, hp => cases hp; obtain ⟨Z, zc, e, h⟩ := hx; exact ⟨Z, zc, e, stab_its.old h hb⟩
      | 9, hp => cases hp; obtain ⟨g, e, h1, h2⟩ := hx; exact ⟨g, e, h1, (hb.block g (Array.getElem?_eq_some_iff.1 h2).1).trans h2⟩
    simp only [List.take_succ_cons, List.take_zero, List.drop_succ_cons, List.drop_zero]
    repeat (first
      | (refine wpAs_skip rfl ?_; simp only [Act.put, List.setIfInBounds_toArray, List.set_cons_zero, List.set_cons_succ])
      | (refine wpAs_pure (v := ?_) rfl rfl ?_ ?_; rotate_left; (intro W hC hE; clear hE; (have hbW := BO.out.trans (hC.mono BO.out.size); have z0 := hz.out W hbW; obtain ⟨k0, k1, k2, k3', kg⟩ := (HG4.out.below hbW).at 0 rfl); clear hC; go_simp; done); simp only [Act.put, List.setIfInBounds_toArray, List.set_cons_zero, List.set_cons_succ])
      | (refine wpAs_pure (v := ?_) rfl rfl ?_ ?_; rotate_left; (intro W hC hE; clear hE; (have hbW := BO.out.trans (hC.mono BO.out.size); have z0 := hz.out W hbW; obtain ⟨k0, k1, k2, k3', kg⟩ := (HG4.out.below hbW).at 0 rfl); clear hC; go_simp; with_reducible rfl); simp only [Act.put, List.setIfInBounds_toArray, List.set_cons_zero, List.set_cons_succ]))
    refine wpAs_act rfl rfl ?_ ?_
    · intro W hC hE
      clear hE
      refine does_enter (f := 19) (args := #[.agg #[.slice A s.1.1.length ca, .slice B s.1.2.length cb, .slice (some nd) s.2.1.length cn, .slice (some bd) s.2.2.length cl], .int .i64 x]) ?_ ?_
      · go_simp
      · refine (hNx.out _ W ((HR.out.below hC).at 1 rfl)).mono ?_
        rintro e W' ⟨Z, zc, rfl, hI, _, hb⟩
        exact ⟨_, rfl, ⟨Z, zc, rfl, hI⟩, hb⟩
    simp only [Act.put, List.setIfInBounds_toArray, List.set_cons_zero, List.set_cons_succ, envAdd]
    intro x2
    refine wpAs_act rfl rfl ?_ ?_
    · intro W hC hE
      have h7 := hE.1 rfl
      clear hE hC
      go_simp
      exact ⟨h7, Below.refl _ _⟩
    simp only [Act.put, List.setIfInBounds_toArray, List.set_cons_zero, List.set_cons_succ, envAdd]
    intro x3
    refine wpAs_act rfl rfl ?_ ?_
    · intro W hC hE
      obtain ⟨Z, zc, rfl, hI⟩ := hE.1 rfl
      have hI' := Lib.hid hI
      clear hE hC hI
      go_simp
      exact ⟨⟨Z, zc, rfl, hI'.out⟩, Below.refl _ _⟩
    simp only [Act.put, List.setIfInBounds_toArray, List.set_cons_zero, List.set_cons_succ, envAdd]
    intro x4
    refine wpAs_fixed rfl rfl rfl ?_ ?_
    · intro W hC hE
      obtain ⟨Z, zc, rfl, hI⟩ := hE.2.1 rfl
      clear hE hC hI
      go_simp
      exact ⟨rfl, Below.refl _ _⟩
    simp only [Act.put, List.setIfInBounds_toArray, List.set_cons_zero, List.set_cons_succ]
    refine wpAs_act rfl rfl ?_ ?_
    · intro W hC hE
      have hs := hC.size
      clear hE hC
      go_simp
      exact ⟨⟨W.heap.size, rfl, hs, heap_alloc_new _ _⟩, (Below.refl _ _).alloc (Nat.le_refl _) _⟩
    simp only [Act.put, List.setIfInBounds_toArray, List.set_cons_zero, List.set_cons_succ, envAdd]
    intro x6
    refine wpAs_end fun W hC hE => ?_
    obtain ⟨⟨g, rfl, hg, hzz⟩, ⟨Z, zc, rfl, hI⟩, _⟩ := hE
    obtain ⟨c0, c1, c2, _⟩ := two_cells hzz
    obtain ⟨w8, hW9, g9, gr9, gs9⟩ := put_two (u := .int .i64 lv) (v := .slice Z nl zc) hzz
    have hb9 := hC.grown gr9 hC.size (fun q e => by cases e; exact hg)
    have hI2 := its_put_node hI hzz gr9
    have BK := Lib.hid (BN.out.trans (hb9.mono BN.out.size))
    have H1 := Lib.hid (lasts_bits _ _ _ _ G1.out hb9)
    have H2 := Lib.hid (lasts_bits _ _ _ _ G2.out hb9)
    have hI' := Lib.hid hI2
    have hG' := Lib.hid (show BoxW g #[.int .i64 lv, .slice Z nl zc] 57 w8 from g9)
    clear hC gr9 gs9 hb9 hI hI2 G1 G2 hzz g9 hz hNx
    go_upto_region 24 with fail
    clear hW9 c0 c1 c2
    go_wp2_with fail
    go_upto_region 26 with fail
    go_wp2_with fail
    go_loopw [16] (fun vi wi => ∃ q : Nat, q ≤ nl ∧ vi = .int .i64 q ∧ Below w8.heap.size w8 wi) (fun vi _ => nl - (intOf vi).toNat)
    case atStart => exact ⟨0, by omega, rfl, Below.refl _ _⟩
    case round =>
    obtain ⟨q, hq, rfl, hbi⟩ := hrel
    have hbi' := Lib.hid hbi
    have GW := lasts_boxW _ _ _ _ _ hG'.out hbi
    obtain ⟨n0, n1, _, _⟩ := two_cells GW
    clear GW
    by_cases hqt : q < nl
    · obtain ⟨u, hu⟩ : ∃ u, L5[q]? = some u := ⟨_, List.getElem?_eq_getElem (by rw [hnl.out]; exact hqt)⟩
      obtain ⟨hs1, hs2⟩ := hsub.out u (List.mem_of_getElem? hu)
      obtain ⟨ad5, E5, ce5, rfl, _, _, _, FX⟩ := its_old hI'.out hu
      obtain ⟨⟨_, _, _, u3, _⟩, _⟩ := FX _ hbi
      have H1' := lasts_bits _ _ _ _ H1.out hbi
      have H2' := lasts_bits _ _ _ _ H2.out hbi
      obtain ⟨t, ht⟩ : ∃ t, u.2.1 = t := ⟨_, rfl⟩
      rw [ht] at u3 hs1 hs2
      have q4 : (0 : Int) ≤ (q : Int) := by omega
      have q5 : (q : Int) < (nl : Int) := by omega
      replace hu := Lib.hid hu
      replace ht := Lib.hid ht
      clear FX hbi
      by_cases hv : lv = 0
      · have v1 : ¬ (0 : Int) < lv := by omega
        by_cases ht0 : t = 0
        · subst ht0
          subst hv
          clear hs1 hs2 H1' H2'
          go_wp2_with fail
          go_roundw
          case rel => exact ⟨q + 1, by omega, by go_num, hbi'.out⟩
          case measure => simp [intOf]; omega
        · have htr := hs2 hv ht0
          obtain ⟨r8, r256, _⟩ := hS.out.ref t htr
          obtain ⟨j, rfl⟩ : ∃ j : Nat, t = j := ⟨t.toNat, by omega⟩
          have c1 := bits_cell H2' (k := j) (by omega)
          rw [show inB r j = true from decide_eq_true htr] at c1
          have j1 : (0 : Int) < (j : Int) := by omega
          have j2 : 0 < j := by omega
          have j3 : (0 : Int) ≤ (j : Int) := by omega
          have j4 : (j : Int) < 256 := by omega
          have j5 : j < 256 := by omega
          subst hv
          clear hs1 hs2 H1' H2' htr r8 r256 ht0
          go_wp2_with fail
          go_roundw
          case rel => exact ⟨q + 1, by omega, by go_num, hbi'.out⟩
          case measure => simp [intOf]; omega
      · have v1 : (0 : Int) < lv := by omega
        have v2 : (lv == 0) = false := by simpa using hv
        have htr := hs1 hv
        obtain ⟨r8, r256, _⟩ := hS.out.nod t htr
        obtain ⟨j, rfl⟩ : ∃ j : Nat, t = j := ⟨t.toNat, by omega⟩
        have c1 := bits_cell H1' (k := j) (by omega)
        rw [show inB l j = true from decide_eq_true htr] at c1
        have j3 : (0 : Int) ≤ (j : Int) := by omega
        have j4 : (j : Int) < 256 := by omega
        have j5 : j < 256 := by omega
        clear hs1 hs2 H1' H2' htr r8 r256
        go_wp2_with fail
        go_roundw
        case rel => exact ⟨q + 1, by omega, by go_num, hbi'.out⟩
        case measure => simp [intOf]; omega
    · obtain rfl : nl = q := by omega
      have q5 : ¬ (nl : Int) < (nl : Int) := by omega
      clear hbi
      go_wp2_with fail
      go_roundw
      case rel => exact ⟨k3 + 1, by omega, by go_num, BK.out.trans (hbi'.out.mono BK.out.size)⟩
      case measure => simp [intOf]; omega
  obtain rfl : n = k3 := by omega
  have i7 : ¬ (n : Int) < (n : Int) := by omega
  obtain ⟨r8, r256, _⟩ := hS.out.nod a hS.out.root
  obtain ⟨j, hj⟩ : ∃ j : Nat, a = j := ⟨a.toNat, by omega⟩
  have c1 := bits_cell G1.out (k := j) (by omega)
  rw [show inB l j = true from decide_eq_true (by rw [← hj]; exact hS.out.root)] at c1
  have j3 : (0 : Int) ≤ (j : Int) := by omega
  have j4 : (j : Int) < 256 := by omega
  have j5 : j < 256 := by omega
  have BF := Lib.hid (B4.out.trans (BO.out.mono B4.out.size))
  subst hj
  clear r8 r256
  go_wp2_with fail
  go_ret
  exact ⟨rfl, BF.out⟩

/-! ### The row's step -/
set_option maxRecDepth 100000 in
theorem lifted (os : Os) (started : os.Started) (H : Type) (enc : TypeId × Value → H) :
    ReturnsInHanded {} Tryz.checked os 5 .any (Rows.walkNodesSpec.pre6 enc Tryz.prog Tryz.f5 Rows.walkNodesRow.domain false) (Rows.walkNodesSpec.post enc Tryz.prog Tryz.f5 false true false false) := by
  refine returnsInHanded_of_change (C := Tryz.checked) own started (by kernel_rfl) Tryz.func5
    (ChangeSpec.witness6 (enc := enc) (C := Tryz.checked) false ⟨#[], #[.agg #[.slice none 0 0, .slice none 0 0, .slice none 0 0, .slice none 0 0], .int .i64 0], []⟩ 8 (by kernel_rfl) (by kernel_rfl) (by kernel_rfl) (by kernel_rfl)) ?_
  intro W base args ds gs before hval0 hW _ _
  have hval : ∀ (j : Nat) t v, Tryz.f5.params[j]? = some t → args[j]? = some v → Value.okWide Tryz.prog W .any base t v := hval0
  have hW' := hW
  obtain ⟨p, q, hA0, hV, _, _, _⟩ := hW
  have hA : DataW.TrodAll enc Tryz.prog W 0 (fun _ => true) true Tryz.f5.params.toList args.toList ds p := hA0
  rw [Tryz.params5] at hA hval
  obtain ⟨v0, vs0, d0, ds0, p0, q0, hargs, rfl, _, h0, r0⟩ := trodAll_cons hA
  obtain ⟨v1, vs1, d1, ds1, p1, q1, rfl, rfl, _, h1, r1⟩ := trodAll_cons r0
  obtain ⟨rfl, rfl, _⟩ := trodAll_nil r1
  obtain rfl : args = #[v0, v1] := by cases args; simp_all
  obtain ⟨rfl, _⟩ := trodVars_none hV
  obtain ⟨d0x, y0⟩ := open_store (hval 0 29 v0 rfl rfl) h0
  obtain ⟨a1, rfl, _, _, w1⟩ := open_int Tryz.underlying3 (hval 1 3 v1 rfl rfl) h1
  clear hA0 hval0
  refine (walk v0 d0x a1 w1 W y0).mono fun e W' ⟨he, hb⟩ => ?_
  subst he
  exact ⟨_, rfl, law_post laidOut (by rw [Tryz.params5]; decide +kernel) (by kernel_rfl) Tryz.underlying4 rfl ⟨rfl, by simp [Rows.walkNodesSpec], rfl⟩ hW' hb⟩

theorem over : Rows.walkNodesRow.holds Tryz.pinned (OpenSpec.ofChange Rows.walkNodesSpec) :=
  OpenClaim.holds_of_wide 5 Tryz.f5 rfl rfl rfl rfl rfl rfl rfl ⟨rfl, rfl, rfl, rfl, rfl⟩ rfl rfl rfl rfl rfl (by kernel_rfl) Tryz.func5 (by kernel_rfl)
    (of_decide_eq_true (by kernel_rfl)) (by unfold Func.isWrapper; first | (rw [if_pos (by decide +kernel)]; kernel_rfl) | (rw [if_neg (by decide +kernel)]; exact ⟨rfl, rfl⟩))
    (fun os started H enc _ => lifted os started H enc)

end Go.Proofs.YtdaidhbmfocodaaGreat.walkNodes
namespace Go.Proofs.YtdaidhbmfocodaaGreat
theorem walkNodes_proved : Rows.WalkNodesSaid := walkNodes.over
end Go.Proofs.YtdaidhbmfocodaaGreat
