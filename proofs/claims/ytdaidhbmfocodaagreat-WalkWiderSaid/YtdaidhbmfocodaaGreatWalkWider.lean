/-
  For every store, root and four keys WalkWider answers true and leaves its arguments as they were. No condition.
-/
import Derived.Test.YtdaidhbmfocodaaGreatBnd4
import Derived.Deep.CutRange
import Derived.Deep.RegionWith
namespace Go.Proofs.YtdaidhbmfocodaaGreat.walkWider
open Go.ChangeShapes Go.WideShapes Go.RowKit

theorem own : ownKnob Tryz.prog.godebug = none := by kernel_rfl
theorem laidOut : laidOutB Tryz.prog = true := by kernel_rfl

set_option maxRecDepth 100000 in
set_option maxHeartbeats 8000000 in
theorem walk (v : Value) (s : Rm) (a : Int) (_hn : (Lit.int .i64 a).wf = true) (ka kb kc kd : Ky) (w : World) (h : Sto (Old w) w v s) :
    Calls Tryz.prog 6 #[v, .int .i64 a, kyV ka, kyV kb, kyV kc, kyV kd] w fun e w' => e = .returned (.bool true) ∧ Below w.heap.size w w' := by
  clear _hn
  obtain ⟨A, ca, B, cb, N, cn, L, cl, rfl, _⟩ := id h.open
  have HG0 : Bag w [OldR (.agg #[.slice A s.1.1.length ca, .slice B s.1.2.length cb, .slice N s.2.1.length cn, .slice L s.2.2.length cl]) s] := (Bag.nil w).add (F := OldR _ s) h (lasts_oldR _ _)
  obtain ⟨w0, hw0, hg0, hB0, _, hs0⟩ := bag_four HG0 (Below.refl _ _) (.slice A s.1.1.length ca) (.slice B s.1.2.length cb) (.slice N s.2.1.length cn) (.slice L s.2.2.length cl) 29
  obtain ⟨w1, hw1, hg1, hB1, _, hs1⟩ := bag_key hg0 (Below.refl _ _) (.int .u8 (ka.1.toNat : Int)) (.int .u32 ka.2.1) (.int .u32 ka.2.2)
  obtain ⟨w7, hw7, hg7, hB7, _, hs7⟩ := bag_key hg1 (Below.refl _ _) (.int .u8 (kb.1.toNat : Int)) (.int .u32 kb.2.1) (.int .u32 kb.2.2)
  obtain ⟨w8, hw8, hg8, hB8, _, hs8⟩ := bag_key hg7 (Below.refl _ _) (.int .u8 (kc.1.toNat : Int)) (.int .u32 kc.2.1) (.int .u32 kc.2.2)
  obtain ⟨w9, hw9, hg9, hB9, _, hs9⟩ := bag_key hg8 (Below.refl _ _) (.int .u8 (kd.1.toNat : Int)) (.int .u32 kd.2.1) (.int .u32 kd.2.2)
  have HG1 := Lib.hid hg9
  have hB89 := hB8.trans (hB9.mono hB8.size)
  have hB79 := hB7.trans (hB89.mono hB7.size)
  have hB19 := hB1.trans (hB79.mono hB1.size)
  have B1 := Lib.hid (hB0.trans (hB19.mono hB0.size))
  replace hs1 := Lib.hid hs1
  replace hs0 := Lib.hid hs0
  replace hs7 := Lib.hid hs7
  replace hs8 := Lib.hid hs8
  replace hs9 := Lib.hid hs9
  clear HG0 hg1 hg0 hg9 hg7 hg8 h hB1 hB0 hB9 hB8 hB7 hB89 hB79 hB19
  unfold kyV
  go_enter Tryz.func6, Tryz.ntmps6
  go_upto_region 1 with fail
  clear hw0 hw1 hw7 hw8 hw9
  go_wp2_with fail
  with_reducible refine (alive11 _).mono ?_
  rintro e w2 ⟨rfl, hb2⟩
  have HG2 := Lib.hid (HG1.out.below hb2)
  have B2 := Lib.hid (B1.out.trans (hb2.mono B1.out.size))
  clear hb2 HG1 B1
  obtain ⟨k0, k1, k2, k3, kg⟩ := HG2.out.at 4 rfl
  go_wp2_with fail
  with_reducible refine (greatR_any _ s _ (HG2.out.at 5 rfl)).mono ?_
  rintro e w3 ⟨rfl, hb3⟩
  have HG3 := Lib.hid (HG2.out.below hb3)
  have B3 := Lib.hid (B2.out.trans (hb3.mono B2.out.size))
  clear hb3 HG2 B2 k0 k1 k2 k3 kg
  cases hgr : greatR s with
  | true =>
    go_wp2_with fail
    go_ret
    exact ⟨rfl, B3.out⟩
  | false =>
  clear hgr
  have hl1 := Lib.hid (less_any kb ka w3)
  unfold kyV at hl1
  obtain ⟨b1, hb1⟩ : ∃ b, lessK kb ka = b := ⟨_, rfl⟩
  rw [hb1] at hl1
  obtain ⟨t0, t1, t2, _⟩ := HG3.out.at 2 rfl
  obtain ⟨u0, u1, u2, _⟩ := HG3.out.at 3 rfl
  go_wp2_with fail
  with_reducible refine hl1.out.mono ?_
  rintro e w4 ⟨rfl, hb4⟩
  have HG4 := Lib.hid (HG3.out.below hb4)
  have B4 := Lib.hid (B3.out.trans (hb4.mono B3.out.size))
  clear hb4 HG3 B3 t0 t1 t2 u0 u1 u2 hl1
  cases b1 with
  | true =>
    go_wp2_with fail
    go_ret
    exact ⟨rfl, B4.out⟩
  | false =>
  have hl2 := Lib.hid (less_any kd kc w4)
  unfold kyV at hl2
  obtain ⟨b2, hb2⟩ : ∃ b, lessK kd kc = b := ⟨_, rfl⟩
  rw [hb2] at hl2
  obtain ⟨t0, t1, t2, _⟩ := HG4.out.at 0 rfl
  obtain ⟨u0, u1, u2, _⟩ := HG4.out.at 1 rfl
  go_wp2_with fail
  with_reducible refine hl2.out.mono ?_
  rintro e w5 ⟨rfl, hb5⟩
  have HG5 := Lib.hid (HG4.out.below hb5)
  have B5 := Lib.hid (B4.out.trans (hb5.mono B4.out.size))
  clear hb5 HG4 B4 t0 t1 t2 u0 u1 u2 hl2
  cases b2 with
  | true =>
    go_wp2_with fail
    go_ret
    exact ⟨rfl, B5.out⟩
  | false =>
  have hRg := Lib.hid (fun f t v W hW => walkRange_any v s a f t W hW)
  unfold RangeR at hRg
  have hNd := Lib.hid (fun v W hW => walkNodes_any v s a W hW)
  unfold NodesR at hNd
  have hct := Lib.hid (fun hh => ck_of (s := s) (a := a) hh)
  have hgd := Lib.hid (fun f t hh => raV_ok (s := s) (a := a) (f := f) (t := t) hh)
  have hgn := Lib.hid (fun hh : ckE s a = 0 => (⟨if_pos hh, if_pos hh⟩ : ndsV s a = markI (nodesO s a) ∧ rfsV s a = markI (refsO s a)))
  obtain ⟨E0, hE0⟩ : ∃ q, ckE s a = q := ⟨_, rfl⟩
  obtain ⟨l, hl⟩ : ∃ q, raV s a kb kc = q := ⟨_, rfl⟩
  obtain ⟨m, hm⟩ : ∃ q, raV s a ka kd = q := ⟨_, rfl⟩
  obtain ⟨nn, hnn⟩ : ∃ q, ndsV s a = q := ⟨_, rfl⟩
  obtain ⟨rr, hrr⟩ : ∃ q, rfsV s a = q := ⟨_, rfl⟩
  obtain ⟨n1, hn1⟩ : ∃ n, l.length = n := ⟨_, rfl⟩
  obtain ⟨n2, hn2⟩ : ∃ n, m.length = n := ⟨_, rfl⟩
  obtain ⟨n3, hn3⟩ : ∃ n, nn.length = n := ⟨_, rfl⟩
  obtain ⟨n4, hn4⟩ : ∃ n, rr.length = n := ⟨_, rfl⟩
  have hR1 := Lib.hid (fun v W hW => hRg.out kb kc v W hW)
  have hR2 := Lib.hid (fun v W hW => hRg.out ka kd v W hW)
  rw [hE0] at hR1 hR2 hNd hct hgd hgn
  rw [hl, hn1] at hR1
  rw [hm, hn2] at hR2
  rw [hnn, hrr, hn3, hn4] at hNd
  rw [hnn, hrr] at hgn
  unfold kyV at hR1 hR2
  have h1 := Lib.hid (fun hh => (show l = rangeO s a kb kc by rw [← hl]; exact hgd.out kb kc hh))
  have h2 := Lib.hid (fun hh => (show m = rangeO s a ka kd by rw [← hm]; exact hgd.out ka kd hh))
  replace hE0 := Lib.hid hE0
  replace hl := Lib.hid hl
  replace hm := Lib.hid hm
  replace hnn := Lib.hid hnn
  replace hrr := Lib.hid hrr
  replace hn1 := Lib.hid hn1
  replace hn2 := Lib.hid hn2
  replace hn3 := Lib.hid hn3
  replace hn4 := Lib.hid hn4
  replace hb1 := Lib.hid hb1
  replace hb2 := Lib.hid hb2
  clear hRg hgd
  obtain ⟨k0, k1, k2, k3, kg⟩ := HG5.out.at 4 rfl
  obtain ⟨t0, t1, t2, _⟩ := HG5.out.at 2 rfl
  obtain ⟨u0, u1, u2, _⟩ := HG5.out.at 1 rfl
  go_wp2_with fail
  with_reducible refine (hR1.out _ _ (HG5.out.at 5 rfl)).mono ?_
  rintro e w6 ⟨U, uc, rfl, hU, hb6⟩
  have HG6 := Lib.hid ((HG5.out.below hb6).add (F := OldIs _ l) (stab_its.drop hU) (lasts_oldIs _ _))
  have B6 := Lib.hid (B5.out.trans (hb6.mono B5.out.size))
  clear hb6 hU HG5 B5 k0 k1 k2 k3 kg t0 t1 t2 u0 u1 u2 hR1
  obtain ⟨k0, k1, k2, k3, kg⟩ := HG6.out.at 5 rfl
  obtain ⟨t0, t1, t2, _⟩ := HG6.out.at 4 rfl
  obtain ⟨u0, u1, u2, _⟩ := HG6.out.at 1 rfl
  go_wp2_with fail
  with_reducible refine (hR2.out _ _ (HG6.out.at 6 rfl)).mono ?_
  rintro e w7 ⟨X, xc, rfl, hX, hb7⟩
  have HG7 := Lib.hid ((HG6.out.below hb7).add (F := OldIs _ m) (stab_its.drop hX) (lasts_oldIs _ _))
  have B7 := Lib.hid (B6.out.trans (hb7.mono B6.out.size))
  clear hb7 hX HG6 B6 k0 k1 k2 k3 kg t0 t1 t2 u0 u1 u2 hR2
  obtain ⟨k0, k1, k2, k3, kg⟩ := HG7.out.at 6 rfl
  go_wp2_with fail
  with_reducible refine (hNd.out _ _ (HG7.out.at 7 rfl)).mono ?_
  rintro e w8 ⟨Y, yc, Z, zc, rfl, hY, hZ, hb8⟩
  have HG8 := Lib.hid (HG7.out.below hb8)
  have hY8 := Lib.hid ((stab_sl (stab_k .i64)).drop hY)
  have hZ8 := Lib.hid ((stab_sl (stab_k .i64)).drop hZ)
  have B8 := Lib.hid (B7.out.trans (hb8.mono B7.out.size))
  clear hb8 hY hZ HG7 B7 k0 k1 k2 k3 kg hNd
  by_cases he : E0 = 0
  case neg =>
    have e1 : (E0 != 0) = true := by simpa using he
    clear he
    go_wp2_with fail
    go_ret
    exact ⟨by simp, B8.out⟩
  subst he
  obtain ⟨htr, has, _⟩ := hct.out rfl
  have hS := Lib.hid (show NdSets s a nn rr by
    rw [(hgn.out rfl).1, (hgn.out rfl).2]
    exact nd_sets htr)
  have hmr := Lib.hid (show mayR s = true by
    obtain ⟨_, _, hq, _⟩ := as_read has
    exact hq)
  have hfil := Lib.hid (show l = m.filter (betw kb kc) by
    rw [h1.out rfl, h2.out rfl]
    exact range_wider hb1.out hb2.out)
  have hmax := Lib.hid (show n2 ≤ 15625 ∧ n3 ≤ 256 ∧ n4 ≤ 256 by
    refine ⟨?_, ?_, ?_⟩
    · rw [← hn2.out, h2.out rfl]
      exact Nat.le_trans (List.length_filter_le _ _) (tree_all htr).2.1
    · rw [← hn3.out]; exact hS.out.len.1
    · rw [← hn4.out]; exact hS.out.len.2)
  have hn12 : n1 ≤ n2 := by
    rw [← hn1.out, ← hn2.out, hfil.out]
    exact List.length_filter_le _ _
  obtain ⟨p, hp⟩ : ∃ p, betw kb kc = p := ⟨_, rfl⟩
  rw [hp] at hfil
  have hcnt := Lib.hid (fun i => (show ((m.take i).filter p).length ≤ n1 by
    rw [← hn1.out, hfil.out]
    exact (List.Sublist.filter p (List.take_sublist i m)).length_le))
  replace hp := Lib.hid hp
  clear htr has hgn hct h1 h2 hb1 hb2
  have hm15 := hmax.out.1
  go_upto_region 10 with fail
  go_wp2_with fail
  go_loopw [21, 22] (fun va vi wr => ∃ k : Nat, k ≤ n2 ∧ vi = .int .i64 k ∧ va = .int .i64 (((m.take k).filter p).length : Nat) ∧ Below w8.heap.size w8 wr) (fun _ vi _ => n2 - (intOf vi).toNat)
  case atStart => exact ⟨0, by omega, rfl, rfl, Below.refl _ _⟩
  case round =>
  obtain ⟨k, hk, rfl, rfl, hbr⟩ := hrel
  have HR := Lib.hid (HG8.out.below hbr)
  have BR := Lib.hid hbr
  clear hbr
  by_cases hlt : k < n2
  case pos =>
    obtain ⟨x, hx⟩ : ∃ x, m[k]? = some x := ⟨_, List.getElem?_eq_getElem (by rw [hn2.out]; exact hlt)⟩
    obtain ⟨ad, E5, ce5, rfl, _, _, _, FX0⟩ := its_old (HR.out.at 0 rfl : rIts (Old wr) wr [.slice X n2 xc] m) hx
    have FX := Lib.hid FX0
    have hyes := Lib.hid (fun hh => meet_yes (p := p) hx hh)
    have hno := Lib.hid (fun hh => meet_no (p := p) hx hh)
    rw [← hfil.out] at hyes hno
    have hcn := hcnt.out k
    obtain ⟨c, hc⟩ : ∃ c, ((m.take k).filter p).length = c := ⟨_, rfl⟩
    obtain ⟨c', hc'⟩ : ∃ c, ((m.take (k + 1)).filter p).length = c := ⟨_, rfl⟩
    rw [hc, hc'] at hyes hno
    rw [hc] at hcn ⊢
    have i4 : (0 : Int) ≤ (k : Int) := by omega
    have i5 : (k : Int) < (n2 : Int) := by omega
    have i6 : (0 : Int) ≤ (c : Int) := by omega
    obtain ⟨q, hq⟩ : ∃ q, p x = q := ⟨_, rfl⟩
    have hup : Hid (c' = if q = true then c + 1 else c) := Lib.hid (by
      cases q with
      | true => exact (hyes.out hq).2
      | false => exact (hno.out hq).2)
    clear FX0
    replace hc := Lib.hid hc
    replace hc' := Lib.hid hc'
    go_upto_region 13 with fail
    go_cut [100] from 86 to 99 (fun x100 wx => x100 = .bool q ∧ Below wr.heap.size wr wx)
    case first =>
      by_cases hcl : c < n1
      · have i7 : (c : Int) < (n1 : Int) := by omega
        obtain ⟨y, hy⟩ : ∃ y, l[c]? = some y := ⟨_, List.getElem?_eq_getElem (by rw [hn1.out]; exact hcl)⟩
        obtain ⟨ad', E7, ce7, rfl, _, _, _, FY0⟩ := its_old (HR.out.at 1 rfl : rIts (Old wr) wr [.slice U n1 uc] l) hy
        have FY := Lib.hid FY0
        have hsm : Hid (sameI y x = q) := Lib.hid (by
          cases q with
          | true =>
            have := (hyes.out hq).1
            rw [hy] at this
            cases this
            exact sameI_self _
          | false =>
            cases hs : sameI y x with
            | false => rfl
            | true => exact absurd (sameI_eq hs) ((hno.out hq).1 y hy))
        replace hx := Lib.hid hx
        replace hy := Lib.hid hy
        replace hq := Lib.hid hq
        clear FY0 hyes hno
        refine wp_region_fx (by kernel_rfl) (fun W => Below wr.heap.size wr W) (fun _ => none) (fun i => match i with
          | 13 => some (.bool q)
          | _ => none) (by kernel_rfl) (Below.refl _ _).drew (fun w w' h hb => h.trans (hb.mono h.size)) (fun j φ x W W' hp => by cases hp) ?_
        repeat (first
          | (refine wpAs_skip rfl ?_; simp only [Act.put, List.setIfInBounds_toArray, List.set_cons_zero, List.set_cons_succ])
          | (refine wpAs_pure (v := ?_) rfl rfl ?_ ?_; rotate_left; (intro W hC hE; clear hE; (obtain ⟨⟨z0, z1, z2, z3, z4⟩, _⟩ := FX.out W hC; obtain ⟨⟨y0, y1, y2, y3, y4⟩, _⟩ := FY.out W hC); clear hC; go_simp; done); simp only [Act.put, List.setIfInBounds_toArray, List.set_cons_zero, List.set_cons_succ])
          | (refine wpAs_pure (v := ?_) rfl rfl ?_ ?_; rotate_left; (intro W hC hE; clear hE; (obtain ⟨⟨z0, z1, z2, z3, z4⟩, _⟩ := FX.out W hC; obtain ⟨⟨y0, y1, y2, y3, y4⟩, _⟩ := FY.out W hC); clear hC; go_simp; with_reducible rfl); simp only [Act.put, List.setIfInBounds_toArray, List.set_cons_zero, List.set_cons_succ]))
        refine wpAs_fixed rfl rfl rfl ?_ ?_
        · intro W hC hE
          clear hE
          refine does_enter (f := 21) (args := #[itV y (.slice E7 y.2.2.length ce7), itV x (.slice E5 x.2.2.length ce5)]) ?_ ?_
          · go_simp
          · refine (sameI_any _ _ y x W (FY.out W hC).2 (FX.out W hC).2).mono ?_
            rintro e W' ⟨rfl, hg⟩
            rw [hsm.out]
            exact ⟨_, rfl, rfl, hg⟩
        simp only [Act.put, List.setIfInBounds_toArray, List.set_cons_zero, List.set_cons_succ]
        repeat (first
          | (refine wpAs_skip rfl ?_; simp only [Act.put, List.setIfInBounds_toArray, List.set_cons_zero, List.set_cons_succ])
          | (refine wpAs_pure (v := ?_) rfl rfl ?_ ?_; rotate_left; (intro W hC hE; clear hE; skip; clear hC; go_simp; done); simp only [Act.put, List.setIfInBounds_toArray, List.set_cons_zero, List.set_cons_succ])
          | (refine wpAs_pure (v := ?_) rfl rfl ?_ ?_; rotate_left; (intro W hC hE; clear hE; skip; clear hC; go_simp; with_reducible rfl); simp only [Act.put, List.setIfInBounds_toArray, List.set_cons_zero, List.set_cons_succ]))
        refine wpAs_end fun W0 hC hE => ?_
        clear hE
        have hC' := Lib.hid hC
        clear hC
        cases q with
        | true =>
          go_wp2_with fail
          go_meet
          exact ⟨rfl, hC'.out⟩
        | false =>
          go_wp2_with fail
          go_meet
          exact ⟨rfl, hC'.out⟩
      · have i7 : ¬ (c : Int) < (n1 : Int) := by omega
        have hq0 : q = false := by
          cases q with
          | false => rfl
          | true =>
            have h := (List.getElem?_eq_some_iff.1 (hyes.out hq).1).1
            rw [hn1.out] at h
            omega
        replace hx := Lib.hid hx
        replace hq := Lib.hid hq
        subst hq0
        clear hyes hno
        refine wp_region_fx (by kernel_rfl) (fun W => Below wr.heap.size wr W) (fun _ => none) (fun i => match i with
          | 13 => some (.bool false)
          | _ => none) (by kernel_rfl) (Below.refl _ _).drew (fun w w' h hb => h.trans (hb.mono h.size)) (fun j φ x W W' hp => by cases hp) ?_
        iterate 4 (first
          | (refine wpAs_skip rfl ?_; simp only [Act.put, List.setIfInBounds_toArray, List.set_cons_zero, List.set_cons_succ])
          | (refine wpAs_pure (v := ?_) rfl rfl ?_ ?_; rotate_left; (intro W hC hE; clear hE; skip; clear hC; go_simp; with_reducible rfl); simp only [Act.put, List.setIfInBounds_toArray, List.set_cons_zero, List.set_cons_succ]))
        refine wpAs_pure_jump (v := .bool false) 9 rfl rfl rfl ?_ (by kernel_rfl) ?_
        · intro W hC hE
          clear hE hC
          first
            | (go_simp; done)
            | (go_simp; simp; omega)
            | (go_simp; simp_all; done)
        simp only [skipN, Act.put, List.drop_succ_cons, List.drop_zero, List.setIfInBounds_toArray, List.set_cons_zero, List.set_cons_succ]
        repeat (first
          | (refine wpAs_skip rfl ?_; simp only [Act.put, List.setIfInBounds_toArray, List.set_cons_zero, List.set_cons_succ])
          | (refine wpAs_pure (v := ?_) rfl rfl ?_ ?_; rotate_left; (intro W hC hE; clear hE; skip; clear hC; go_simp; done); simp only [Act.put, List.setIfInBounds_toArray, List.set_cons_zero, List.set_cons_succ])
          | (refine wpAs_pure (v := ?_) rfl rfl ?_ ?_; rotate_left; (intro W hC hE; clear hE; skip; clear hC; go_simp; with_reducible rfl); simp only [Act.put, List.setIfInBounds_toArray, List.set_cons_zero, List.set_cons_succ]))
        refine wpAs_end fun W0 hC hE => ?_
        clear hE
        have hC' := Lib.hid hC
        clear hC
        go_wp2_with fail
        go_meet
        exact ⟨rfl, hC'.out⟩
    case rest =>
    obtain ⟨rfl, hC⟩ := hcut
    have BN := Lib.hid (BR.out.trans (hC.mono BR.out.size))
    replace hx := Lib.hid hx
    replace hq := Lib.hid hq
    clear hC BR HR FX hyes hno
    have hc15 : c ≤ 15625 := by omega
    cases q with
    | true =>
      obtain rfl : c' = c + 1 := hup.out
      go_wp2_with fail
      go_roundw
      case rel => exact ⟨k + 1, by omega, by go_num, by rw [hc'.out]; go_num, BN.out⟩
      case measure => simp [intOf]; omega
    | false =>
      obtain rfl : c' = c := hup.out
      go_wp2_with fail
      go_roundw
      case rel => exact ⟨k + 1, by omega, by go_num, by rw [hc'.out], BN.out⟩
      case measure => simp [intOf]; omega
  have hall : Hid (((m.take k).filter p).length = n1) := Lib.hid (by
    rw [List.take_of_length_le (by rw [hn2.out]; omega), ← hfil.out]
    exact hn1.out)
  rw [hall.out]
  have i5 : ¬ (k : Int) < (n2 : Int) := by omega
  obtain ⟨w9, rfl⟩ : ∃ w9 : World, w9 = wr := ⟨_, rfl⟩
  clear hlt hk
  have hNN := (show Sto (Old w8) w8 _ s from HG8.out.at 7 rfl).parts
  obtain ⟨nd, bd, rfl, rfl, hl9, -, -, -, hb9, -, hc9⟩ := tables_at hmr.out hNN.2.1 hNN.2.2
  have hT := Lib.hid (fun (j : Nat) (hj : j < 256) W (hW : Below w8.heap.size w8 W) => (hW.cell (p := nd.add j) (by unfold Addr.add; split <;> exact hb9)).trans (hc9 j hj).1)
  have i6 : ∀ j : Nat, j < 256 → (j : Int) < (s.2.1.length : Int) := fun j hj => by rw [hl9]; omega
  replace i6 := Lib.hid i6
  replace hl9 := Lib.hid hl9
  clear hNN hb9 hc9
  have BR' := Lib.hid BR.out
  clear HR BR hall
  go_upto_region 18 with fail
  go_wp2_with fail
  go_loopw [23, 24] (fun va vi wr => ∃ k : Nat, k ≤ n3 ∧ vi = .int .i64 k ∧ va = .bool (decide (a ∈ nn.take k)) ∧ Below w8.heap.size w8 wr) (fun _ vi _ => n3 - (intOf vi).toNat)
  case atStart => exact ⟨0, by omega, rfl, by simp, BR'.out⟩
  case round =>
  obtain ⟨k2, hk, rfl, rfl, hbr⟩ := hrel
  have BR := Lib.hid hbr
  clear hbr
  have hn15 := hmax.out.2.1
  by_cases hlt : k2 < n3
  case pos =>
    obtain ⟨x, hx⟩ : ∃ x, nn[k2]? = some x := ⟨_, List.getElem?_eq_getElem (by rw [hn3.out]; exact hlt)⟩
    obtain ⟨h8, h256, hy0, _⟩ := hS.out.nod x (List.mem_of_getElem? hx)
    obtain ⟨j, rfl⟩ : ∃ j : Nat, x = j := ⟨x.toNat, by omega⟩
    obtain ⟨ad, rfl, hz0⟩ := sl_at hY8.out hx
    have hz := Lib.hid hz0
    have hy1 := (node_place hy0).2.2
    have i1 : ¬ (j : Int) < 8 := by omega
    have i2 : ¬ (255 : Int) < (j : Int) := by omega
    have i3 : j < 256 := by omega
    have hTj := Lib.hid (fun W hW => hT.out j i3 W hW)
    obtain ⟨y, hy⟩ : ∃ y : Nat, (s.2.1[j]?.getD 0).toNat = y := ⟨_, rfl⟩
    rw [hy] at hTj
    have y1 : ¬ y = 0 := fun e => hy1 (by
      rw [show ((j : Int)).toNat = j by omega]
      exact UInt8.toNat_inj.1 (hy.trans e))
    have y2 : ¬ (y : Int) = 0 := by omega
    have y3 : ((y : Int) == 0) = false := by simpa using y1
    have i7 := i6.out j i3
    have i4 : (0 : Int) ≤ (k2 : Int) := by omega
    have i5 : (k2 : Int) < (n3 : Int) := by omega
    have i8 : (0 : Int) ≤ (j : Int) := by omega
    obtain ⟨q, hq⟩ : ∃ q, decide (a ∈ nn.take k2) = q := ⟨_, rfl⟩
    rw [hq]
    obtain ⟨q', hq'⟩ : ∃ q, decide (a ∈ nn.take (k2 + 1)) = q := ⟨_, rfl⟩
    have hst : Hid (q' = (q || decide (a = (j : Int)))) := Lib.hid (by
      rw [← hq', ← hq, take_put hx]
      simp [List.mem_append])
    replace hy := Lib.hid hy
    replace hq := Lib.hid hq
    replace hq' := Lib.hid hq'
    have z0 := hz.out wr BR.out
    clear hz0 h8 h256 hy0 hy1
    go_upto_region 21 with fail
    go_cut [23] from 121 to 129 (fun x23 wx => x23 = .bool q' ∧ wx = wr)
    case first =>
      cases q with
      | true =>
        obtain rfl : q' = true := hst.out
        go_wp2_with fail
        go_meet
        exact ⟨rfl, rfl⟩
      | false =>
        by_cases hja : a = (j : Int)
        · obtain rfl : q' = true := by rw [hst.out]; simpa using hja
          subst hja
          go_wp2_with fail
          go_meet
          exact ⟨by simp, rfl⟩
        · obtain rfl : q' = false := by rw [hst.out]; simpa using hja
          have e4 : ((j : Int) == a) = false := by simpa using fun e => hja e.symm
          have e5 : ¬ ((j : Int) = a) := fun e => hja e.symm
          go_wp2_with fail
          go_meet
          exact ⟨by simp [e5], rfl⟩
    case rest =>
    obtain ⟨rfl, hww⟩ := hcut
    replace hww := hww.symm
    subst hww
    clear hst z0
    go_upto_region 22 with fail
    go_cut [176] from 130 to 175 (fun x176 wx => x176 = .bool false ∧ Below wr.heap.size wr wx)
    case first =>
      by_cases hk0 : k2 = 0
      · have j8 : ¬ (0 : Int) < (k2 : Int) := by omega
        replace hx := Lib.hid hx
        replace hk0 := Lib.hid hk0
        refine wp_region_fx (by kernel_rfl) (fun W => Below wr.heap.size wr W) (fun _ => none) (fun _ => none) (by kernel_rfl) (Below.refl _ _).drew (fun w w' h hb => h.trans (hb.mono h.size)) (fun j φ x W W' hp => by cases hp) ?_
        iterate 15 (first
          | (refine wpAs_skip rfl ?_; simp only [Act.put, List.setIfInBounds_toArray, List.set_cons_zero, List.set_cons_succ])
          | (refine wpAs_pure (v := ?_) rfl rfl ?_ ?_; rotate_left; (intro W hC hE; clear hE; (have z0 := hz.out W (BR.out.trans (hC.mono BR.out.size))); clear hC; go_simp; with_reducible rfl); simp only [Act.put, List.setIfInBounds_toArray, List.set_cons_zero, List.set_cons_succ]))
        refine wpAs_pure_jump (v := .bool false) 10 rfl rfl rfl ?_ (by kernel_rfl) ?_
        · intro W hC hE
          clear hE hC
          first
            | (go_simp; done)
            | (go_simp; simp; omega)
            | (go_simp; simp_all; done)
        simp only [skipN, Act.put, List.drop_succ_cons, List.drop_zero, List.setIfInBounds_toArray, List.set_cons_zero, List.set_cons_succ]
        iterate 11 (first
          | (refine wpAs_skip rfl ?_; simp only [Act.put, List.setIfInBounds_toArray, List.set_cons_zero, List.set_cons_succ])
          | (refine wpAs_pure (v := ?_) rfl rfl ?_ ?_; rotate_left; (intro W hC hE; clear hE; (have hbW := BR.out.trans (hC.mono BR.out.size); have z0 := hz.out W hbW; have t0 := hTj.out W hbW; obtain ⟨k0, k1, k2, k3, kg⟩ := (HG8.out.below hbW).at 6 rfl); clear hC; go_simp; with_reducible rfl); simp only [Act.put, List.setIfInBounds_toArray, List.set_cons_zero, List.set_cons_succ]))
        refine wpAs_pure_jump (v := .bool false) 0 rfl rfl rfl ?_ (by kernel_rfl) ?_
        · intro W hC hE
          clear hE hC
          first
            | (go_simp; done)
            | (go_simp; simp; omega)
            | (go_simp; simp_all; done)
        simp only [skipN, Act.put, List.drop_zero, List.setIfInBounds_toArray, List.set_cons_zero, List.set_cons_succ]
        refine wpAs_pure_jump (v := .bool false) 6 rfl rfl rfl ?_ (by kernel_rfl) ?_
        · intro W hC hE
          clear hE hC
          first
            | (go_simp; done)
            | (go_simp; simp; omega)
            | (go_simp; simp_all; done)
        simp only [skipN, Act.put, List.drop_succ_cons, List.drop_zero, List.setIfInBounds_toArray, List.set_cons_zero, List.set_cons_succ]
        repeat (first
          | (refine wpAs_skip rfl ?_; simp only [Act.put, List.setIfInBounds_toArray, List.set_cons_zero, List.set_cons_succ])
          | (refine wpAs_pure (v := ?_) rfl rfl ?_ ?_; rotate_left; (intro W hC hE; clear hE; skip; clear hC; go_simp; done); simp only [Act.put, List.setIfInBounds_toArray, List.set_cons_zero, List.set_cons_succ])
          | (refine wpAs_pure (v := ?_) rfl rfl ?_ ?_; rotate_left; (intro W hC hE; clear hE; skip; clear hC; go_simp; with_reducible rfl); simp only [Act.put, List.setIfInBounds_toArray, List.set_cons_zero, List.set_cons_succ]))
        refine wpAs_end fun W0 hC hE => ?_
        clear hE
        have hC' := Lib.hid hC
        clear hC
        go_wp2_with fail
        go_meet
        exact ⟨rfl, hC'.out⟩
      · have j8 : (0 : Int) < (k2 : Int) := by omega
        have j8n : 0 < k2 := by omega
        obtain ⟨kk, hkk⟩ : ∃ kk, k2 = kk + 1 := ⟨k2 - 1, by omega⟩
        obtain ⟨z, hzz⟩ : ∃ z, nn[kk]? = some z := ⟨_, List.getElem?_eq_getElem (by rw [hn3.out]; omega)⟩
        have hls := up_at hS.out.upl hzz (by rw [← hkk]; exact hx)
        have j9 : ¬ (j : Int) ≤ z := by omega
        obtain ⟨ad', e7, hy0⟩ := sl_at hY8.out hzz
        cases e7
        have hyy := Lib.hid hy0
        have i10 : (k2 : Int) - 1 = (kk : Int) := by omega
        have i11 : IntKind.i64.wrap (kk : Int) = (kk : Int) := IntWalk.i64_in _ (by omega)
        have i12 : (kk : Int) < (n3 : Int) := by omega
        have i13 : (0 : Int) ≤ (kk : Int) := by omega
        replace hx := Lib.hid hx
        replace hzz := Lib.hid hzz
        replace hkk := Lib.hid hkk
        clear hy0 hls
        refine wp_region_fx (by kernel_rfl) (fun W => Below wr.heap.size wr W) (fun _ => none) (fun _ => none) (by kernel_rfl) (Below.refl _ _).drew (fun w w' h hb => h.trans (hb.mono h.size)) (fun j φ x W W' hp => by cases hp) ?_
        iterate 37 (first
          | (refine wpAs_skip rfl ?_; simp only [Act.put, List.setIfInBounds_toArray, List.set_cons_zero, List.set_cons_succ])
          | (refine wpAs_pure (v := ?_) rfl rfl ?_ ?_; rotate_left; (intro W hC hE; clear hE; (have hbW := BR.out.trans (hC.mono BR.out.size); have z0 := hz.out W hbW; have y0 := hyy.out W hbW; have t0 := hTj.out W hbW; obtain ⟨k0, k1, k2, k3, kg⟩ := (HG8.out.below hbW).at 6 rfl); clear hC; go_simp; with_reducible rfl); simp only [Act.put, List.setIfInBounds_toArray, List.set_cons_zero, List.set_cons_succ]))
        refine wpAs_pure_jump (v := .bool false) 0 rfl rfl rfl ?_ (by kernel_rfl) ?_
        · intro W hC hE
          clear hE hC
          first
            | (go_simp; done)
            | (go_simp; simp; omega)
            | (go_simp; simp_all; done)
        simp only [skipN, Act.put, List.drop_zero, List.setIfInBounds_toArray, List.set_cons_zero, List.set_cons_succ]
        refine wpAs_pure_jump (v := .bool false) 6 rfl rfl rfl ?_ (by kernel_rfl) ?_
        · intro W hC hE
          clear hE hC
          first
            | (go_simp; done)
            | (go_simp; simp; omega)
            | (go_simp; simp_all; done)
        simp only [skipN, Act.put, List.drop_succ_cons, List.drop_zero, List.setIfInBounds_toArray, List.set_cons_zero, List.set_cons_succ]
        repeat (first
          | (refine wpAs_skip rfl ?_; simp only [Act.put, List.setIfInBounds_toArray, List.set_cons_zero, List.set_cons_succ])
          | (refine wpAs_pure (v := ?_) rfl rfl ?_ ?_; rotate_left; (intro W hC hE; clear hE; skip; clear hC; go_simp; done); simp only [Act.put, List.setIfInBounds_toArray, List.set_cons_zero, List.set_cons_succ])
          | (refine wpAs_pure (v := ?_) rfl rfl ?_ ?_; rotate_left; (intro W hC hE; clear hE; skip; clear hC; go_simp; with_reducible rfl); simp only [Act.put, List.setIfInBounds_toArray, List.set_cons_zero, List.set_cons_succ]))
        refine wpAs_end fun W0 hC hE => ?_
        clear hE
        have hC' := Lib.hid hC
        clear hC
        go_wp2_with fail
        go_meet
        exact ⟨rfl, hC'.out⟩
    case rest =>
    obtain ⟨rfl, hC⟩ := hcut
    have BN := Lib.hid (BR.out.trans (hC.mono BR.out.size))
    replace hx := Lib.hid hx
    clear hC BR hz hTj y1 y2 y3
    go_wp2_with fail
    go_roundw
    case rel => exact ⟨k2 + 1, by omega, by go_num, by rw [hq'.out], BN.out⟩
    case measure => simp [intOf]; omega
  have hin : Hid (decide (a ∈ nn.take k2) = true) := Lib.hid (by
    rw [List.take_of_length_le (by rw [hn3.out]; omega)]
    exact decide_eq_true hS.out.root)
  rw [hin.out]
  have i7 : ¬ (k2 : Int) < (n3 : Int) := by omega
  have BR2 := Lib.hid BR.out
  clear hlt hk BR BR'
  go_upto_region 24 with fail
  go_wp2_with fail
  go_loopw [25] (fun vi wr => ∃ k : Nat, k ≤ n4 ∧ vi = .int .i64 k ∧ Below w8.heap.size w8 wr) (fun vi _ => n4 - (intOf vi).toNat)
  case atStart => exact ⟨0, by omega, rfl, BR2.out⟩
  case round =>
  obtain ⟨k5, hk, rfl, hbr⟩ := hrel
  have BR := Lib.hid hbr
  clear hbr
  have hm16 := hmax.out.2.2
  by_cases hlt : k5 < n4
  case pos =>
    obtain ⟨x, hx⟩ : ∃ x, rr[k5]? = some x := ⟨_, List.getElem?_eq_getElem (by rw [hn4.out]; exact hlt)⟩
    obtain ⟨h8, h256, hy1⟩ := hS.out.ref x (List.mem_of_getElem? hx)
    obtain ⟨j, rfl⟩ : ∃ j : Nat, x = j := ⟨x.toNat, by omega⟩
    obtain ⟨ad, rfl, hz0⟩ := sl_at hZ8.out hx
    have hz := Lib.hid hz0
    have i1 : ¬ (j : Int) < 8 := by omega
    have i2 : ¬ (255 : Int) < (j : Int) := by omega
    have i3 : j < 256 := by omega
    have hTj := Lib.hid (fun W hW => hT.out j i3 W hW)
    obtain ⟨y, hy⟩ : ∃ y : Nat, (s.2.1[j]?.getD 0).toNat = y := ⟨_, rfl⟩
    rw [hy] at hTj
    have y1 : ¬ y = 0 := fun e => hy1 (by
      rw [show ((j : Int)).toNat = j by omega]
      exact UInt8.toNat_inj.1 (hy.trans e))
    have y2 : ¬ (y : Int) = 0 := by omega
    have y3 : ((y : Int) == 0) = false := by simpa using y1
    have i7 := i6.out j i3
    have i4 : (0 : Int) ≤ (k5 : Int) := by omega
    have i5 : (k5 : Int) < (n4 : Int) := by omega
    have i8 : (0 : Int) ≤ (j : Int) := by omega
    replace hy := Lib.hid hy
    clear hz0 h8 h256 hy1
    go_upto_region 27 with fail
    go_cut [221] from 183 to 220 (fun x221 wx => x221 = .bool false ∧ Below wr.heap.size wr wx)
    case first =>
      by_cases hk0 : k5 = 0
      · have j8 : ¬ (0 : Int) < (k5 : Int) := by omega
        replace hx := Lib.hid hx
        replace hk0 := Lib.hid hk0
        refine wp_region_fx (by kernel_rfl) (fun W => Below wr.heap.size wr W) (fun _ => none) (fun _ => none) (by kernel_rfl) (Below.refl _ _).drew (fun w w' h hb => h.trans (hb.mono h.size)) (fun j φ x W W' hp => by cases hp) ?_
        iterate 15 (first
          | (refine wpAs_skip rfl ?_; simp only [Act.put, List.setIfInBounds_toArray, List.set_cons_zero, List.set_cons_succ])
          | (refine wpAs_pure (v := ?_) rfl rfl ?_ ?_; rotate_left; (intro W hC hE; clear hE; (have z0 := hz.out W (BR.out.trans (hC.mono BR.out.size))); clear hC; go_simp; with_reducible rfl); simp only [Act.put, List.setIfInBounds_toArray, List.set_cons_zero, List.set_cons_succ]))
        refine wpAs_pure_jump (v := .bool false) 10 rfl rfl rfl ?_ (by kernel_rfl) ?_
        · intro W hC hE
          clear hE hC
          first
            | (go_simp; done)
            | (go_simp; simp; omega)
            | (go_simp; simp_all; done)
        simp only [skipN, Act.put, List.drop_succ_cons, List.drop_zero, List.setIfInBounds_toArray, List.set_cons_zero, List.set_cons_succ]
        repeat (first
          | (refine wpAs_skip rfl ?_; simp only [Act.put, List.setIfInBounds_toArray, List.set_cons_zero, List.set_cons_succ])
          | (refine wpAs_pure (v := ?_) rfl rfl ?_ ?_; rotate_left; (intro W hC hE; clear hE; (have hbW := BR.out.trans (hC.mono BR.out.size); have z0 := hz.out W hbW; have t0 := hTj.out W hbW; obtain ⟨k0, k1, k2, k3, kg⟩ := (HG8.out.below hbW).at 6 rfl); clear hC; go_simp; done); simp only [Act.put, List.setIfInBounds_toArray, List.set_cons_zero, List.set_cons_succ])
          | (refine wpAs_pure (v := ?_) rfl rfl ?_ ?_; rotate_left; (intro W hC hE; clear hE; (have hbW := BR.out.trans (hC.mono BR.out.size); have z0 := hz.out W hbW; have t0 := hTj.out W hbW; obtain ⟨k0, k1, k2, k3, kg⟩ := (HG8.out.below hbW).at 6 rfl); clear hC; go_simp; with_reducible rfl); simp only [Act.put, List.setIfInBounds_toArray, List.set_cons_zero, List.set_cons_succ]))
        refine wpAs_end fun W0 hC hE => ?_
        clear hE
        have hC' := Lib.hid hC
        clear hC
        go_wp2_with fail
        go_meet
        exact ⟨rfl, hC'.out⟩
      · have j8 : (0 : Int) < (k5 : Int) := by omega
        have j8n : 0 < k5 := by omega
        obtain ⟨kk, hkk⟩ : ∃ kk, k5 = kk + 1 := ⟨k5 - 1, by omega⟩
        obtain ⟨z, hzz⟩ : ∃ z, rr[kk]? = some z := ⟨_, List.getElem?_eq_getElem (by rw [hn4.out]; omega)⟩
        have hls := up_at hS.out.upr hzz (by rw [← hkk]; exact hx)
        have j9 : ¬ (j : Int) ≤ z := by omega
        obtain ⟨ad', e7, hy0⟩ := sl_at hZ8.out hzz
        cases e7
        have hyy := Lib.hid hy0
        have i10 : (k5 : Int) - 1 = (kk : Int) := by omega
        have i11 : IntKind.i64.wrap (kk : Int) = (kk : Int) := IntWalk.i64_in _ (by omega)
        have i12 : (kk : Int) < (n4 : Int) := by omega
        have i13 : (0 : Int) ≤ (kk : Int) := by omega
        replace hx := Lib.hid hx
        replace hzz := Lib.hid hzz
        replace hkk := Lib.hid hkk
        clear hy0 hls
        refine wp_region_fx (by kernel_rfl) (fun W => Below wr.heap.size wr W) (fun _ => none) (fun _ => none) (by kernel_rfl) (Below.refl _ _).drew (fun w w' h hb => h.trans (hb.mono h.size)) (fun j φ x W W' hp => by cases hp) ?_
        repeat (first
          | (refine wpAs_skip rfl ?_; simp only [Act.put, List.setIfInBounds_toArray, List.set_cons_zero, List.set_cons_succ])
          | (refine wpAs_pure (v := ?_) rfl rfl ?_ ?_; rotate_left; (intro W hC hE; clear hE; (have hbW := BR.out.trans (hC.mono BR.out.size); have z0 := hz.out W hbW; have y0 := hyy.out W hbW; have t0 := hTj.out W hbW; obtain ⟨k0, k1, k2, k3, kg⟩ := (HG8.out.below hbW).at 6 rfl); clear hC; go_simp; done); simp only [Act.put, List.setIfInBounds_toArray, List.set_cons_zero, List.set_cons_succ])
          | (refine wpAs_pure (v := ?_) rfl rfl ?_ ?_; rotate_left; (intro W hC hE; clear hE; (have hbW := BR.out.trans (hC.mono BR.out.size); have z0 := hz.out W hbW; have y0 := hyy.out W hbW; have t0 := hTj.out W hbW; obtain ⟨k0, k1, k2, k3, kg⟩ := (HG8.out.below hbW).at 6 rfl); clear hC; go_simp; with_reducible rfl); simp only [Act.put, List.setIfInBounds_toArray, List.set_cons_zero, List.set_cons_succ]))
        refine wpAs_end fun W0 hC hE => ?_
        clear hE
        have hC' := Lib.hid hC
        clear hC
        go_wp2_with fail
        go_meet
        exact ⟨rfl, hC'.out⟩
    case rest =>
    obtain ⟨rfl, hC⟩ := hcut
    have BN := Lib.hid (BR.out.trans (hC.mono BR.out.size))
    replace hx := Lib.hid hx
    clear hC BR hz hTj y1 y2 y3
    go_wp2_with fail
    go_roundw
    case rel => exact ⟨k5 + 1, by omega, by go_num, BN.out⟩
    case measure => simp [intOf]; omega
  have i8 : ¬ (k5 : Int) < (n4 : Int) := by omega
  have BF := Lib.hid (B8.out.trans (BR.out.mono B8.out.size))
  clear hlt hk BR BR2
  go_wp2_with fail
  go_ret
  exact ⟨rfl, BF.out⟩

/-! ### The row's step -/
set_option maxRecDepth 100000 in
theorem lifted (os : Os) (started : os.Started) (H : Type) (enc : TypeId × Value → H) :
    ReturnsInHanded {} Tryz.checked os 6 .any (Rows.walkWiderSpec.pre6 enc Tryz.prog Tryz.f6 Rows.walkWiderRow.domain false) (Rows.walkWiderSpec.post enc Tryz.prog Tryz.f6 false true false false) := by
  refine returnsInHanded_of_change (C := Tryz.checked) own started (by kernel_rfl) Tryz.func6
    (ChangeSpec.witness6 (enc := enc) (C := Tryz.checked) false ⟨#[], #[.agg #[.slice none 0 0, .slice none 0 0, .slice none 0 0, .slice none 0 0], .int .i64 0, .agg #[.int .u8 0, .int .u32 0, .int .u32 0], .agg #[.int .u8 0, .int .u32 0, .int .u32 0], .agg #[.int .u8 0, .int .u32 0, .int .u32 0], .agg #[.int .u8 0, .int .u32 0, .int .u32 0]], []⟩ 8 (by kernel_rfl) (by kernel_rfl) (by kernel_rfl) (by kernel_rfl)) ?_
  intro W base args ds gs before hval0 hW _ _
  have hval : ∀ (j : Nat) t v, Tryz.f6.params[j]? = some t → args[j]? = some v → Value.okWide Tryz.prog W .any base t v := hval0
  have hW' := hW
  obtain ⟨p, q, hA0, hV, _, _, _⟩ := hW
  have hA : DataW.TrodAll enc Tryz.prog W 0 (fun _ => true) true Tryz.f6.params.toList args.toList ds p := hA0
  rw [Tryz.params6] at hA hval
  obtain ⟨v0, vs0, d0, ds0, p0, q0, hargs, rfl, _, h0, r0⟩ := trodAll_cons hA
  obtain ⟨v1, vs1, d1, ds1, p1, q1, rfl, rfl, _, h1, r1⟩ := trodAll_cons r0
  obtain ⟨v2, vs2, d2, ds2, p2, q2, rfl, rfl, _, h2, r2⟩ := trodAll_cons r1
  obtain ⟨v3, vs3, d3, ds3, p3, q3, rfl, rfl, _, h3, r3⟩ := trodAll_cons r2
  obtain ⟨v4, vs4, d4, ds4, p4, q4, rfl, rfl, _, h4, r4⟩ := trodAll_cons r3
  obtain ⟨v5, vs5, d5, ds5, p5, q5, rfl, rfl, _, h5, r5⟩ := trodAll_cons r4
  obtain ⟨rfl, rfl, _⟩ := trodAll_nil r5
  obtain rfl : args = #[v0, v1, v2, v3, v4, v5] := by cases args; simp_all
  obtain ⟨rfl, _⟩ := trodVars_none hV
  obtain ⟨d0x, y0⟩ := open_store (hval 0 29 v0 rfl rfl) h0
  obtain ⟨a1, rfl, _, _, w1⟩ := open_int Tryz.underlying3 (hval 1 3 v1 rfl rfl) h1
  obtain ⟨k2x, rfl, _⟩ := open_key (hval 2 38 v2 rfl rfl) h2
  obtain ⟨k3x, rfl, _⟩ := open_key (hval 3 38 v3 rfl rfl) h3
  obtain ⟨k4x, rfl, _⟩ := open_key (hval 4 38 v4 rfl rfl) h4
  obtain ⟨k5x, rfl, _⟩ := open_key (hval 5 38 v5 rfl rfl) h5
  clear hA0 hval0
  refine (walk v0 d0x a1 w1 k2x k3x k4x k5x W y0).mono fun e W' ⟨he, hb⟩ => ?_
  subst he
  exact ⟨_, rfl, law_post laidOut (by rw [Tryz.params6]; decide +kernel) (by kernel_rfl) Tryz.underlying4 rfl ⟨rfl, by simp [Rows.walkWiderSpec], rfl⟩ hW' hb⟩

theorem over : Rows.walkWiderRow.holds Tryz.pinned (OpenSpec.ofChange Rows.walkWiderSpec) :=
  OpenClaim.holds_of_wide 6 Tryz.f6 rfl rfl rfl rfl rfl rfl rfl ⟨rfl, rfl, rfl, rfl, rfl⟩ rfl rfl rfl rfl rfl (by kernel_rfl) Tryz.func6 (by kernel_rfl)
    (of_decide_eq_true (by kernel_rfl)) (by unfold Func.isWrapper; first | (rw [if_pos (by decide +kernel)]; kernel_rfl) | (rw [if_neg (by decide +kernel)]; exact ⟨rfl, rfl⟩))
    (fun os started H enc _ => lifted os started H enc)

end Go.Proofs.YtdaidhbmfocodaaGreat.walkWider
namespace Go.Proofs.YtdaidhbmfocodaaGreat
theorem walkWider_proved : Rows.WalkWiderSaid := walkWider.over
end Go.Proofs.YtdaidhbmfocodaaGreat
