/-
  For every store, root and three keys WalkParts answers true and leaves its arguments as they were. No condition.
-/
import Derived.Test.YtdaidhbmfocodaaBnd4
import Derived.Deep.CutRange
import Derived.Deep.RegionWith
namespace Go.Proofs.Ytdaidhbmfocodaa.walkParts
open Go.ChangeShapes Go.WideShapes Go.RowKit

theorem own : ownKnob Try.prog.godebug = none := by kernel_rfl
theorem laidOut : laidOutB Try.prog = true := by kernel_rfl

set_option maxRecDepth 100000 in
set_option maxHeartbeats 8000000 in
theorem walk (v : Value) (s : Rm) (a : Int) (_hn : (Lit.int .i64 a).wf = true) (ka kb kc : Ky) (w : World) (h : Sto (Old w) w v s) :
    Calls Try.prog 3 #[v, .int .i64 a, kyV ka, kyV kb, kyV kc] w fun e w' => e = .returned (.bool true) ∧ Below w.heap.size w w' := by
  clear _hn
  obtain ⟨A, ca, B, cb, N, cn, L, cl, rfl, _⟩ := id h.open
  have HG0 : Bag w [OldR (.agg #[.slice A s.1.1.length ca, .slice B s.1.2.length cb, .slice N s.2.1.length cn, .slice L s.2.2.length cl]) s] := (Bag.nil w).add (F := OldR _ s) h (lasts_oldR _ _)
  obtain ⟨w0, hw0, hg0, hB0, _, hs0⟩ := bag_four HG0 (Below.refl _ _) (.slice A s.1.1.length ca) (.slice B s.1.2.length cb) (.slice N s.2.1.length cn) (.slice L s.2.2.length cl) 28
  obtain ⟨w1, hw1, hg1, hB1, _, hs1⟩ := bag_key hg0 (Below.refl _ _) (.int .u8 (ka.1.toNat : Int)) (.int .u32 ka.2.1) (.int .u32 ka.2.2)
  obtain ⟨w8, hw8, hg8, hB8, _, hs8⟩ := bag_key hg1 (Below.refl _ _) (.int .u8 (kb.1.toNat : Int)) (.int .u32 kb.2.1) (.int .u32 kb.2.2)
  obtain ⟨w9, hw9, hg9, hB9, _, hs9⟩ := bag_key hg8 (Below.refl _ _) (.int .u8 (kc.1.toNat : Int)) (.int .u32 kc.2.1) (.int .u32 kc.2.2)
  have HG1 := Lib.hid hg9
  have hB19 := hB1.trans ((hB8.trans (hB9.mono hB8.size)).mono hB1.size)
  have B1 := Lib.hid (hB0.trans (hB19.mono hB0.size))
  replace hs1 := Lib.hid hs1
  replace hs0 := Lib.hid hs0
  replace hs8 := Lib.hid hs8
  replace hs9 := Lib.hid hs9
  clear HG0 hg1 hg0 hg8 hg9 h hB1 hB0 hB8 hB9 hB19
  unfold kyV
  go_enter Try.func3, Try.ntmps3
  go_upto_region 1 with fail
  clear hw0 hw1 hw8 hw9
  go_wp2_with fail
  with_reducible refine (alive11 _).mono ?_
  rintro e w2 ⟨rfl, hb2⟩
  have HG3 := Lib.hid (HG1.out.below hb2)
  have B3 := Lib.hid (B1.out.trans (hb2.mono B1.out.size))
  clear hb2 HG1 B1
  have hRg := Lib.hid (fun f t v W hW => walkRange_any v s a f t W hW)
  unfold RangeR at hRg
  have hct := Lib.hid (fun hh => ck_of (s := s) (a := a) hh)
  have hbd := Lib.hid (fun f t hh => raV_bad (s := s) (a := a) (f := f) (t := t) hh)
  have hgd := Lib.hid (fun f t hh => raV_ok (s := s) (a := a) (f := f) (t := t) hh)
  have hfs := Lib.hid (fun x hh hx => fd_some (s := s) (a := a) (k := kb) (x := x) hh hx)
  have hfn := Lib.hid (fun hh hx => fd_none (s := s) (a := a) (k := kb) hh hx)
  obtain ⟨E0, hE0⟩ : ∃ q, ckE s a = q := ⟨_, rfl⟩
  rw [hE0] at hct hbd hgd hfs hfn hRg
  replace hE0 := Lib.hid hE0
  obtain ⟨l, hl⟩ : ∃ q, raV s a ka kc = q := ⟨_, rfl⟩
  obtain ⟨n, hn⟩ : ∃ n, l.length = n := ⟨_, rfl⟩
  have hR1 := Lib.hid (fun v W hW => hRg.out ka kc v W hW)
  rw [hl, hn] at hR1
  unfold kyV at hR1
  obtain ⟨k0, k1, k2, k3, kg⟩ := HG3.out.at 3 rfl
  obtain ⟨t0, t1, t2, _⟩ := HG3.out.at 2 rfl
  obtain ⟨u0, u1, u2, _⟩ := HG3.out.at 0 rfl
  go_wp2_with fail
  with_reducible refine (hR1.out _ _ (HG3.out.at 4 rfl)).mono ?_
  rintro e w4 ⟨U, uc, rfl, hU, hb4⟩
  have HG4 := Lib.hid ((HG3.out.below hb4).add (F := NewIs w.heap.size _ l) (stab_its.mono hU B3.out.size) (lasts_newIs _ _ _))
  have B4 := Lib.hid (B3.out.trans (hb4.mono B3.out.size))
  clear hb4 hU HG3 B3 k0 k1 k2 k3 kg t0 t1 t2 u0 u1 u2 hR1
  obtain ⟨k0, k1, k2, k3, kg⟩ := HG4.out.at 4 rfl
  go_wp2_with fail
  with_reducible refine (greatR_any _ s _ (HG4.out.at 5 rfl)).mono ?_
  rintro e w5 ⟨rfl, hb5⟩
  have HG5 := Lib.hid (HG4.out.below hb5)
  have B5 := Lib.hid (B4.out.trans (hb5.mono B4.out.size))
  clear hb5 HG4 B4 k0 k1 k2 k3 kg
  by_cases he : E0 = 0
  case neg =>
    have e1 : (E0 != 0) = true := by simpa using he
    have e3 : (E0 == 0) = false := by simpa using he
    have hn0 : n = 0 := by rw [← hn, ← hl, hbd.out _ _ he]; rfl
    have e2 : ((n : Int) == 0) = true := by simp [hn0]
    replace hn0 := Lib.hid hn0
    replace hl := Lib.hid hl
    replace hn := Lib.hid hn
    clear he
    cases hgr : greatR s with
    | true =>
      go_wp2_with fail
      go_ret
      exact ⟨rfl, B5.out⟩
    | false =>
      go_wp2_with fail
      go_ret
      exact ⟨rfl, B5.out⟩
  cases hgr : greatR s with
  | true =>
    subst he
    go_wp2_with fail
    go_ret
    exact ⟨rfl, B5.out⟩
  | false =>
  clear hgr
  obtain ⟨ht, _, _⟩ := hct.out he
  have hup0 := (tree_all ht).1
  have hlr := hgd.out ka kc he
  rw [hl] at hlr
  have hup := Lib.hid (show Up l by rw [hlr]; exact range_up hup0 ka kc)
  have hin := Lib.hid (fun (x : It) (hx : x ∈ l) => (show lessK x.1 ka = false ∧ lessK kc x.1 = false from (range_in ht (by rw [← hlr]; exact hx)).2))
  have hmx := Lib.hid (fun f t => (show (raV s a f t).length ≤ 15625 by
    rw [hgd.out f t he]
    exact Nat.le_trans (List.length_filter_le _ _) (tree_all ht).2.1))
  have hparts := Lib.hid (fun h1 h2 => (by
    rw [hgd.out ka kb he, hgd.out kb kc he, hgd.out kb kb he, hlr]
    exact range_parts hup0 h1 h2 : l = raV s a ka kb ++ (raV s a kb kc).drop (raV s a kb kb).length ∧ (raV s a ka kb).length + (raV s a kb kc).length = l.length + (raV s a kb kb).length))
  have hone := Lib.hid (by
    rw [hgd.out kb kb he]
    exact range_one ht kb : (raV s a kb kb).length = if (theO s a kb).isSome then 1 else 0)
  have hFd := Lib.hid (fun v W hW => findFind_open v s a kb W hW)
  have hway : Hid (((theO s a kb).isSome = true ∧ fdE s a kb = 0) ∨ ((theO s a kb).isSome = false ∧ fdE s a kb = 6)) := Lib.hid (by
    cases hT : theO s a kb with
    | none => exact .inr ⟨rfl, (hfn.out he hT).1⟩
    | some x => exact .inl ⟨rfl, (hfs.out x he hT).1⟩)
  have hmax := Lib.hid (by rw [← hn, ← hl]; exact hmx.out _ _ : n ≤ 15625)
  subst he
  replace hl := Lib.hid hl
  replace hn := Lib.hid hn
  clear ht hup0 hlr hct hbd hgd hfs hfn
  obtain ⟨t0, t1, t2, _⟩ := HG5.out.at 2 rfl
  obtain ⟨u0, u1, u2, _⟩ := HG5.out.at 3 rfl
  obtain ⟨x0, x1, x2, _⟩ := HG5.out.at 1 rfl
  have hls := Lib.hid (less_any kb ka w5)
  unfold kyV at hls
  obtain ⟨b1, hb1⟩ : ∃ b, lessK kb ka = b := ⟨_, rfl⟩
  rw [hb1] at hls
  replace hb1 := Lib.hid hb1
  go_wp2_with fail
  with_reducible refine hls.out.mono ?_
  rintro e w6 ⟨rfl, hb6⟩
  have HG6 := Lib.hid (HG5.out.below hb6)
  have B6 := Lib.hid (B5.out.trans (hb6.mono B5.out.size))
  clear hb6 HG5 B5 t0 t1 t2 u0 u1 u2 x0 x1 x2 hls
  cases b1 with
  | true =>
    go_wp2_with fail
    go_ret
    exact ⟨rfl, B6.out⟩
  | false =>
  obtain ⟨t0, t1, t2, _⟩ := HG6.out.at 1 rfl
  obtain ⟨u0, u1, u2, _⟩ := HG6.out.at 2 rfl
  have hls := Lib.hid (less_any kc kb w6)
  unfold kyV at hls
  obtain ⟨b2, hb2⟩ : ∃ b, lessK kc kb = b := ⟨_, rfl⟩
  rw [hb2] at hls
  replace hb2 := Lib.hid hb2
  go_wp2_with fail
  with_reducible refine hls.out.mono ?_
  rintro e w7 ⟨rfl, hb7⟩
  have HG7 := Lib.hid (HG6.out.below hb7)
  have B7 := Lib.hid (B6.out.trans (hb7.mono B6.out.size))
  clear hb7 HG6 B6 t0 t1 t2 u0 u1 u2 hls
  cases b2 with
  | true =>
    go_wp2_with fail
    go_ret
    exact ⟨rfl, B7.out⟩
  | false =>
  obtain ⟨hsum, hcnt⟩ := hparts.out hb1.out hb2.out
  have hR2 := Lib.hid (fun v W hW => hRg.out ka kb v W hW)
  have hR3 := Lib.hid (fun v W hW => hRg.out kb kc v W hW)
  have hR4 := Lib.hid (fun v W hW => hRg.out kb kb v W hW)
  have hm2 := hmx.out ka kb
  have hm3 := hmx.out kb kc
  have hm4 := hone.out
  obtain ⟨lm, hlm⟩ : ∃ q, raV s a ka kb = q := ⟨_, rfl⟩
  obtain ⟨ln, hln⟩ : ∃ q, raV s a kb kc = q := ⟨_, rfl⟩
  obtain ⟨l1, hl1⟩ : ∃ q, raV s a kb kb = q := ⟨_, rfl⟩
  rw [hlm] at hR2 hm2
  rw [hln] at hR3 hm3
  rw [hl1] at hR4 hm4
  rw [hlm, hln, hl1] at hsum hcnt
  obtain ⟨nm, hnm⟩ : ∃ q, lm.length = q := ⟨_, rfl⟩
  obtain ⟨nn, hnn⟩ : ∃ q, ln.length = q := ⟨_, rfl⟩
  obtain ⟨n1, hn1⟩ : ∃ q, l1.length = q := ⟨_, rfl⟩
  rw [hnm] at hR2 hm2 hcnt
  rw [hnn] at hR3 hm3 hcnt
  rw [hn1] at hR4 hm4 hcnt
  rw [hn1] at hsum
  rw [hn.out] at hcnt
  unfold kyV at hR2 hR3 hR4
  replace hlm := Lib.hid hlm
  replace hln := Lib.hid hln
  replace hl1 := Lib.hid hl1
  replace hnm := Lib.hid hnm
  replace hnn := Lib.hid hnn
  replace hn1 := Lib.hid hn1
  replace hsum := Lib.hid hsum
  replace hcnt := Lib.hid hcnt
  replace hm2 := Lib.hid hm2
  replace hm3 := Lib.hid hm3
  replace hm4 := Lib.hid hm4
  clear hparts hRg hmx hone
  -- between the first two
  obtain ⟨k0, k1, k2, k3, kg⟩ := HG7.out.at 4 rfl
  obtain ⟨t0, t1, t2, _⟩ := HG7.out.at 3 rfl
  obtain ⟨u0, u1, u2, _⟩ := HG7.out.at 2 rfl
  go_wp2_with fail
  with_reducible refine (hR2.out _ _ (HG7.out.at 5 rfl)).mono ?_
  rintro e w10 ⟨Um, um, rfl, hU, hb⟩
  have H10 := Lib.hid ((HG7.out.below hb).add (F := NewIs w.heap.size _ lm) (stab_its.mono hU B7.out.size) (lasts_newIs _ _ _))
  have B10 := Lib.hid (B7.out.trans (hb.mono B7.out.size))
  clear hb hU HG7 B7 k0 k1 k2 k3 kg t0 t1 t2 u0 u1 u2 hR2
  -- between the last two
  obtain ⟨k0, k1, k2, k3, kg⟩ := H10.out.at 5 rfl
  obtain ⟨t0, t1, t2, _⟩ := H10.out.at 3 rfl
  obtain ⟨u0, u1, u2, _⟩ := H10.out.at 2 rfl
  go_wp2_with fail
  with_reducible refine (hR3.out _ _ (H10.out.at 6 rfl)).mono ?_
  rintro e w11 ⟨Un, un, rfl, hU, hb⟩
  have H11 := Lib.hid ((H10.out.below hb).add (F := NewIs w.heap.size _ ln) (stab_its.mono hU B10.out.size) (lasts_newIs _ _ _))
  have B11 := Lib.hid (B10.out.trans (hb.mono B10.out.size))
  clear hb hU H10 B10 k0 k1 k2 k3 kg t0 t1 t2 u0 u1 u2 hR3
  -- at the middle one
  obtain ⟨k0, k1, k2, k3, kg⟩ := H11.out.at 6 rfl
  obtain ⟨t0, t1, t2, _⟩ := H11.out.at 4 rfl
  go_wp2_with fail
  with_reducible refine (hR4.out _ _ (H11.out.at 7 rfl)).mono ?_
  rintro e w12 ⟨U1, u1c, rfl, hU, hb⟩
  have H12 := Lib.hid (H11.out.below hb)
  have B12 := Lib.hid (B11.out.trans (hb.mono B11.out.size))
  clear hb hU H11 B11 k0 k1 k2 k3 kg t0 t1 t2 hR4
  obtain ⟨E1, hE1⟩ : ∃ q, fdE s a kb = q := ⟨_, rfl⟩
  obtain ⟨y, hV1⟩ : ∃ q, fdV s a kb = q := ⟨_, rfl⟩
  rw [hE1, hV1] at hFd
  rw [hE1] at hway
  obtain ⟨bT, hbT⟩ : ∃ q, (theO s a kb).isSome = q := ⟨_, rfl⟩
  rw [hbT] at hway hm4
  unfold kyV at hFd
  replace hE1 := Lib.hid hE1
  replace hV1 := Lib.hid hV1
  replace hbT := Lib.hid hbT
  obtain ⟨k0, k1, k2, k3, kg⟩ := H12.out.at 6 rfl
  obtain ⟨t0, t1, t2, _⟩ := H12.out.at 4 rfl
  go_wp2_with fail
  with_reducible refine (hFd.out _ _ (H12.out.at 7 rfl)).mono ?_
  rintro e w13 ⟨P, pc, rfl, -, hb⟩
  obtain ⟨w14, hw14, hg14, hB14, -, hs14⟩ := bag_item (H12.out.below hb) (Below.refl _ _) (.int .u8 (y.1.1.toNat : Int)) (.int .u32 y.1.2.1) (.int .u32 y.1.2.2) (.int .i64 y.2.1) (.slice P y.2.2.length pc)
  have H14 := Lib.hid hg14
  have B14 := Lib.hid (B12.out.trans ((hb.trans (hB14.mono hb.size)).mono B12.out.size))
  replace hs14 := Lib.hid hs14
  clear hb hg14 hB14 H12 B12 k0 k1 k2 k3 kg t0 t1 t2 hFd
  go_upto_region 13 with fail
  clear hw14
  have hm2' := hm2.out
  have hm3' := hm3.out
  have hcnt' := hcnt.out
  go_cut [126] from 91 to 125 (fun x126 wx => x126 = .bool false ∧ w14 = wx)
  case first =>
    rcases hway.out with ⟨rfl, rfl⟩ | ⟨rfl, rfl⟩
    · obtain rfl : n1 = 1 := hm4.out
      have i1 : IntKind.i64.wrap ((nm : Int) + (nn : Int)) = (nm : Int) + (nn : Int) := IntWalk.i64_in _ (by omega)
      have i2 : (nm : Int) + (nn : Int) - 1 = (n : Int) := by omega
      have i3 : IntKind.i64.wrap (n : Int) = (n : Int) := IntWalk.i64_in _ (by omega)
      clear hm2' hm3' hcnt'
      go_wp2_with fail
      go_meet
      exact ⟨rfl, rfl⟩
    · obtain rfl : n1 = 0 := hm4.out
      have i1 : (nm : Int) + (nn : Int) = (n : Int) := by omega
      have i3 : IntKind.i64.wrap (n : Int) = (n : Int) := IntWalk.i64_in _ (by omega)
      clear hm2' hm3' hcnt'
      go_wp2_with fail
      go_meet
      exact ⟨rfl, rfl⟩
  case rest =>
  obtain ⟨rfl, rfl⟩ := hcut
  have hn1' : n1 ≤ 1 := by
    rw [hm4.out]
    split <;> omega
  clear hway
  go_upto_region 15 with fail
  have hne1 : n1 ≤ nn := by
    have := hsum.out
    have h2 := congrArg List.length this
    rw [List.length_append, List.length_drop, hn.out, hnm.out, hnn.out] at h2
    have := hcnt.out
    omega
  obtain ⟨hAn, hUn, hun, -⟩ : ∃ A, Un = A ∧ (nn ≤ un ∧ un ≤ 9223372036854775807 ∧ (0 < nn → ∃ ad, A = some ad)) ∧ True := by
    obtain ⟨_, _, e, h2, h3, h4⟩ := (H14.out.at 1 rfl : rIts (New w.heap.size w14) w14 [.slice Un nn un] ln)
    cases e
    refine ⟨Un, rfl, ⟨by rw [← hnn.out]; exact h2, h3, fun h0 => ?_⟩, trivial⟩
    obtain ⟨ad, _, e, _⟩ := h4 0 _ (List.getElem?_eq_getElem (by rw [hnn.out]; exact h0))
    exact ⟨ad, e⟩
  obtain ⟨hu1, hu2, hu3⟩ := hun
  subst hUn
  refine wp_region_late (ops' := ?opsLate) (by kernel_rfl) [] ?he (by kernel_rfl) (fun d _ _ _ _ h => by cases d <;> exact h) 6 (fun W => Below w14.heap.size w14 W) (fun i => match i with
    | 1 => some (fun v W => ∃ A1 c1, v = .slice A1 nm c1 ∧ RowOf rIt 5 40 w.heap.size W A1 c1 lm ∧ ∀ g, A1.map (·.block) = some g → w14.heap.size ≤ g)
    | 5 => some (fun v W => ∃ B1 d1, v = .slice B1 (nn - n1) d1 ∧ rIts (fun p => New w.heap.size W p ∧ p.block < w14.heap.size) W [.slice B1 (nn - n1) d1] (ln.drop n1))
    | _ => none) (fun _ => none) ?h1 ?h2 ?h3 (Below.refl _ _).drew (fun w w' h hb => h.trans (hb.mono h.size)) ?tst ?_
  case he =>
    simp [withEdges]
    rfl
  case h1 => decide
  case h2 => kernel_rfl
  case h3 => kernel_rfl
  case tst =>
    intro j φ x W W' hp hx hb
    match j, hp with
    | 1, hp => cases hp; obtain ⟨A1, c1, e, h1, h2⟩ := hx; exact ⟨A1, c1, e, h1.below stab_it hb, h2⟩
    | 5, hp => cases hp; obtain ⟨A1, c1, e, h1⟩ := hx; exact ⟨A1, c1, e, stab_its _ _ _ _ _ _ (fun p v hq hc => ⟨⟨⟨hq.1.1, Nat.lt_of_lt_of_le hq.1.2.1 hb.size, (hb.frozen hq.1.2.1).trans hq.1.2.2⟩, hq.2⟩, (hb.cell hq.1.2.1).trans hc⟩) h1⟩
  simp only [List.take_succ_cons, List.take_zero, List.drop_succ_cons, List.drop_zero]
  repeat (first
    | (refine wpAs_skip rfl ?_; simp only [Act.put, List.setIfInBounds_toArray, List.set_cons_zero, List.set_cons_succ])
    | (refine wpAs_pure (v := ?_) rfl rfl ?_ ?_; rotate_left; (intro W hC hE; clear hE; skip; clear hC; go_simp; done); simp only [Act.put, List.setIfInBounds_toArray, List.set_cons_zero, List.set_cons_succ])
    | (refine wpAs_pure (v := ?_) rfl rfl ?_ ?_; rotate_left; (intro W hC hE; clear hE; skip; clear hC; go_simp; with_reducible rfl); simp only [Act.put, List.setIfInBounds_toArray, List.set_cons_zero, List.set_cons_succ]))
  refine wpAs_act rfl rfl ?_ ?_
  · intro W hC hE
    clear hE
    obtain ⟨A1, c1, W1, hr, hrow, hbl, hgr, hk1⟩ := its_app2 (RowOf.nil rIt 5 40 w.heap.size W) (stab_its _ _ _ _ _ _ (fun p v hq hc => ⟨⟨⟨hq.1, Nat.lt_of_lt_of_le hq.2.1 hC.size, (hC.frozen hq.2.1).trans hq.2.2⟩, by simp⟩, (hC.cell hq.2.1).trans hc⟩) (H14.out.at 2 rfl : rIts (New w.heap.size w14) w14 [.slice Um nm um] lm)) (by rw [hnm.out]; simp; omega) (Nat.le_trans B14.out.size hC.size) 0 rfl
    have hfr : ∀ g, A1.map (·.block) = some g → w14.heap.size ≤ g := fun g hg => by
      rcases hk1 with e | e
      · rw [e] at hg; cases hg
      · rw [e] at hg
        cases hg
        exact hC.size
    rw [Nat.zero_add] at hr
    rw [List.nil_append] at hrow
    have hb9 : Below W.heap.size W W1 := ⟨hgr.os, hgr.tape, hgr.output, hgr.size, fun k hk => hgr.block k hk (by simp)⟩
    exact does_append _ _ _ rfl rfl rfl hr ⟨⟨A1, c1, rfl, hrow, hfr⟩, hb9⟩
  simp only [Act.put, List.setIfInBounds_toArray, List.set_cons_zero, List.set_cons_succ, envAdd]
  intro x1
  repeat (first
    | (refine wpAs_skip rfl ?_; simp only [Act.put, List.setIfInBounds_toArray, List.set_cons_zero, List.set_cons_succ])
    | (refine wpAs_pure (v := ?_) rfl rfl ?_ ?_; rotate_left; (intro W hC hE; clear hE; skip; clear hC; go_simp; done); simp only [Act.put, List.setIfInBounds_toArray, List.set_cons_zero, List.set_cons_succ])
    | (refine wpAs_pure (v := ?_) rfl rfl ?_ ?_; rotate_left; (intro W hC hE; clear hE; skip; clear hC; go_simp; with_reducible rfl); simp only [Act.put, List.setIfInBounds_toArray, List.set_cons_zero, List.set_cons_succ]))
  have c1 : (0 : Int) ≤ (n1 : Int) := by omega
  have c2 : (n1 : Int) ≤ (un : Int) := by omega
  have c3 : (n1 : Int) ≤ (nn : Int) := by omega
  refine wpAs_act rfl rfl ?_ ?_
  · intro W hC hE
    clear hE
    have hW := Lib.hid (stab_its _ _ _ _ _ _ (fun p v hq hc => ⟨⟨⟨hq.1, Nat.lt_of_lt_of_le hq.2.1 hC.size, (hC.frozen hq.2.1).trans hq.2.2⟩, hq.2.1⟩, (hC.cell hq.2.1).trans hc⟩) (H14.out.at 1 rfl : rIts (New w.heap.size w14) w14 [.slice Un nn un] ln) : rIts (fun p => New w.heap.size W p ∧ p.block < w14.heap.size) W [.slice Un nn un] ln)
    rcases Un with _ | ad
    · have h0 : nn = 0 := by
        by_cases h : nn = 0
        · exact h
        · obtain ⟨_, e⟩ := hu3 (by omega)
          cases e
      have h1 : n1 = 0 := by omega
      subst h0 h1
      replace hC := Lib.hid hC
      go_simp
      exact ⟨⟨none, un, rfl, hW.out⟩, Below.refl _ _⟩
    · by_cases hmc : n1 = un
      · have c4 : un ≤ nn := by omega
        have hdr : Hid (ln.drop n1 = []) := Lib.hid (List.drop_of_length_le (by rw [hnn.out]; omega))
        have hz : Hid (rIts (fun p => New w.heap.size W p ∧ p.block < w14.heap.size) W [.slice (some ad) 0 0] (ln.drop n1)) := Lib.hid (by rw [hdr.out]; exact its_none (by omega))
        have e0 : nn - n1 = 0 := by omega
        subst hmc
        rw [e0]
        replace hC := Lib.hid hC
        clear e0
        go_simp
        exact ⟨⟨some ad, 0, rfl, hz.out⟩, Below.refl _ _⟩
      · have hz := Lib.hid (its_rest hW.out n1 (by rw [hnn.out]; exact hne1))
        have hmc' : ¬ un = n1 := fun e => hmc e.symm
        replace hC := Lib.hid hC
        go_simp
        exact ⟨⟨_, _, rfl, hz.out⟩, Below.refl _ _⟩
  simp only [Act.put, List.setIfInBounds_toArray, List.set_cons_zero, List.set_cons_succ, envAdd]
  intro x5
  refine wpAs_end fun W hC hE => ?_
  obtain ⟨⟨B1, d1, rfl, h5⟩, ⟨A1, c1', rfl, h1, h1'⟩, _⟩ := hE
  obtain ⟨A2, c2', W1, hr, hrow, hbl, hgr, hk1⟩ := its_app2 h1 (stab_its _ _ _ _ _ _ (fun p v hq hc => ⟨⟨hq.1, fun e => by have := h1' _ e; have := hq.2; omega⟩, hc⟩) h5) (by rw [hnm.out, List.length_drop, hnn.out]; omega) (Nat.le_trans B14.out.size hC.size) nm hnm.out
  rw [show nm + (nn - n1) = n by have := hcnt.out; omega] at hr
  rw [← hsum.out] at hrow
  have hrel := RowOf.rel stab_it hrow
  rw [hn.out] at hrel
  have hb1 : Below w14.heap.size w14 W1 := hC.grown hgr hC.size (fun k e => h1' k e)
  have H15 := Lib.hid ((H14.out.below hb1).add (F := NewIs w.heap.size _ l) hrel (lasts_newIs _ _ _))
  have B15 := Lib.hid (B14.out.trans (hb1.mono B14.out.size))
  have H9 := Lib.hid hr
  clear hr hrow hbl hgr hk1 hrel hb1 h1 h1' h5 hC H14 B14
  go_wp2_with (at_builtin; refine wpList_append_run2 rfl _ _ _ _ rfl rfl rfl H9.out ?_; clear H9)
  obtain ⟨w15, rfl⟩ : ∃ w15 : World, w15 = W1 := ⟨_, rfl⟩
  have hn15 := hmax.out
  go_loopw [23] (fun vi wr => ∃ k : Nat, k ≤ n ∧ vi = .int .i64 k ∧ Below w15.heap.size w15 wr) (fun vi _ => n - (intOf vi).toNat)
  case atStart => exact ⟨0, by omega, rfl, Below.refl _ _⟩
  case round =>
    obtain ⟨k, hk, rfl, hbr⟩ := hrel
    have HR := Lib.hid (H15.out.below hbr)
    have BR := Lib.hid hbr
    clear hbr
    by_cases hlt : k < n
    case neg =>
      have BF := Lib.hid (B15.out.trans (BR.out.mono B15.out.size))
      have i5 : ¬ (k : Int) < (n : Int) := by omega
      go_wp2_with fail
      go_ret
      exact ⟨rfl, BF.out⟩
    obtain ⟨x, hx⟩ : ∃ x, l[k]? = some x := ⟨_, List.getElem?_eq_getElem (by rw [hn.out]; exact hlt)⟩
    obtain ⟨ad5, E5, ce5, rfl, _, _, hin5, FX0⟩ := its_old (stab_its.drop (HR.out.at 4 rfl : rIts (New w.heap.size wr) wr [.slice U n uc] l)) hx
    obtain ⟨ad6, E6, ce6, rfl, _, _, _, FY0⟩ := its_old (stab_its.drop (HR.out.at 0 rfl : rIts (New w.heap.size wr) wr [.slice A2 n c2'] l)) hx
    have FX := Lib.hid FX0
    have FY := Lib.hid FY0
    obtain ⟨hl1, hl2⟩ := hin.out x (List.mem_of_getElem? hx)
    have i4 : (0 : Int) ≤ (k : Int) := by omega
    have i5 : (k : Int) < (n : Int) := by omega
    clear FX0 FY0
    go_upto_region 19 with fail
    by_cases hk0 : k = 0
    · have i6 : ¬ (0 : Int) < (k : Int) := by omega
      replace hx := Lib.hid hx
      replace hk0 := Lib.hid hk0
      refine wp_region_fx (by kernel_rfl) (fun W => Below wr.heap.size wr W) (fun _ => none) (fun i => match i with
          | 8 => some (.bool true)
          | 36 => some (.bool false)
          | 45 => some (.bool false)
          | _ => none) (by kernel_rfl) (Below.refl _ _).drew (fun w w' h hb => h.trans (hb.mono h.size)) (fun j φ x W W' hp => by cases hp) ?_
      repeat (first
        | (refine wpAs_skip rfl ?_; simp only [Act.put, List.setIfInBounds_toArray, List.set_cons_zero, List.set_cons_succ])
        | (refine wpAs_pure (v := ?_) rfl rfl ?_ ?_; rotate_left; (intro W hC hE; clear hE; (obtain ⟨⟨z0, z1, z2, z3, z4⟩, _⟩ := FX.out W hC; obtain ⟨⟨q0, q1, q2, q3, q4⟩, _⟩ := FY.out W hC); clear hC; go_simp; done); simp only [Act.put, List.setIfInBounds_toArray, List.set_cons_zero, List.set_cons_succ])
        | (refine wpAs_pure (v := ?_) rfl rfl ?_ ?_; rotate_left; (intro W hC hE; clear hE; (obtain ⟨⟨z0, z1, z2, z3, z4⟩, _⟩ := FX.out W hC; obtain ⟨⟨q0, q1, q2, q3, q4⟩, _⟩ := FY.out W hC); clear hC; go_simp; with_reducible rfl); simp only [Act.put, List.setIfInBounds_toArray, List.set_cons_zero, List.set_cons_succ]))
      refine wpAs_fixed rfl rfl rfl ?_ ?_
      · intro W hC hE
        clear hE
        refine does_enter (f := 10) (args := #[itV x (.slice E5 x.2.2.length ce5), itV x (.slice E6 x.2.2.length ce6)]) ?_ ?_
        · go_simp
        · refine (sameI_any _ _ x x W (FX.out W hC).2 (FY.out W hC).2).mono ?_
          rintro e W' ⟨rfl, hg⟩
          rw [sameI_self]
          exact ⟨_, rfl, rfl, hg⟩
      simp only [Act.put, List.setIfInBounds_toArray, List.set_cons_zero, List.set_cons_succ]
      iterate 4 (first
        | (refine wpAs_skip rfl ?_; simp only [Act.put, List.setIfInBounds_toArray, List.set_cons_zero, List.set_cons_succ])
        | (refine wpAs_pure (v := ?_) rfl rfl ?_ ?_; rotate_left; (intro W hC hE; clear hE; skip; clear hC; go_simp; with_reducible rfl); simp only [Act.put, List.setIfInBounds_toArray, List.set_cons_zero, List.set_cons_succ]))
      refine wpAs_pure_jump (v := .bool false) 13 rfl rfl rfl ?_ (by kernel_rfl) ?_
      · intro W hC hE
        clear hE hC
        first
          | (go_simp; done)
          | (go_simp; simp; omega)
          | (go_simp; simp_all; done)
      simp only [skipN, Act.put, List.drop_succ_cons, List.drop_zero, List.setIfInBounds_toArray, List.set_cons_zero, List.set_cons_succ]
      repeat (first
        | (refine wpAs_skip rfl ?_; simp only [Act.put, List.setIfInBounds_toArray, List.set_cons_zero, List.set_cons_succ])
        | (refine wpAs_pure (v := ?_) rfl rfl ?_ ?_; rotate_left; (intro W hC hE; clear hE; (obtain ⟨⟨z0, z1, z2, _, _⟩, _⟩ := FX.out W hC; obtain ⟨t0, t1, t2, _⟩ := (HR.out.below hC).at 7 rfl); clear hC; go_simp; done); simp only [Act.put, List.setIfInBounds_toArray, List.set_cons_zero, List.set_cons_succ])
        | (refine wpAs_pure (v := ?_) rfl rfl ?_ ?_; rotate_left; (intro W hC hE; clear hE; (obtain ⟨⟨z0, z1, z2, _, _⟩, _⟩ := FX.out W hC; obtain ⟨t0, t1, t2, _⟩ := (HR.out.below hC).at 7 rfl); clear hC; go_simp; with_reducible rfl); simp only [Act.put, List.setIfInBounds_toArray, List.set_cons_zero, List.set_cons_succ]))
      refine wpAs_fixed rfl rfl rfl ?_ ?_
      · intro W hC hE
        refine does_enter (f := 8) (args := #[kyV x.1, kyV ka]) ?_ ?_
        · go_simp
        · refine (less_any x.1 ka W).mono ?_
          (rintro e W' ⟨rfl, hg⟩; rw [hl1])
          exact ⟨_, rfl, rfl, hg⟩
      simp only [Act.put, List.setIfInBounds_toArray, List.set_cons_zero, List.set_cons_succ]
      repeat (first
        | (refine wpAs_skip rfl ?_; simp only [Act.put, List.setIfInBounds_toArray, List.set_cons_zero, List.set_cons_succ])
        | (refine wpAs_pure (v := ?_) rfl rfl ?_ ?_; rotate_left; (intro W hC hE; clear hE; (obtain ⟨⟨z0, z1, z2, _, _⟩, _⟩ := FX.out W hC; obtain ⟨t0, t1, t2, _⟩ := (HR.out.below hC).at 5 rfl); clear hC; go_simp; done); simp only [Act.put, List.setIfInBounds_toArray, List.set_cons_zero, List.set_cons_succ])
        | (refine wpAs_pure (v := ?_) rfl rfl ?_ ?_; rotate_left; (intro W hC hE; clear hE; (obtain ⟨⟨z0, z1, z2, _, _⟩, _⟩ := FX.out W hC; obtain ⟨t0, t1, t2, _⟩ := (HR.out.below hC).at 5 rfl); clear hC; go_simp; with_reducible rfl); simp only [Act.put, List.setIfInBounds_toArray, List.set_cons_zero, List.set_cons_succ]))
      refine wpAs_fixed rfl rfl rfl ?_ ?_
      · intro W hC hE
        refine does_enter (f := 8) (args := #[kyV kc, kyV x.1]) ?_ ?_
        · go_simp
        · refine (less_any kc x.1 W).mono ?_
          (rintro e W' ⟨rfl, hg⟩; rw [hl2])
          exact ⟨_, rfl, rfl, hg⟩
      simp only [Act.put, List.setIfInBounds_toArray, List.set_cons_zero, List.set_cons_succ]
      repeat (first
        | (refine wpAs_skip rfl ?_; simp only [Act.put, List.setIfInBounds_toArray, List.set_cons_zero, List.set_cons_succ])
        | (refine wpAs_pure (v := ?_) rfl rfl ?_ ?_; rotate_left; (intro W hC hE; clear hE; skip; clear hC; go_simp; done); simp only [Act.put, List.setIfInBounds_toArray, List.set_cons_zero, List.set_cons_succ])
        | (refine wpAs_pure (v := ?_) rfl rfl ?_ ?_; rotate_left; (intro W hC hE; clear hE; skip; clear hC; go_simp; with_reducible rfl); simp only [Act.put, List.setIfInBounds_toArray, List.set_cons_zero, List.set_cons_succ]))
      refine wpAs_end fun W0 hC hE => ?_
      clear hE
      have hB9 := Lib.hid (BR.out.trans (hC.mono BR.out.size))
      clear hC
      go_wp2_with fail
      go_roundw
      case rel => exact ⟨k + 1, by omega, by go_num, hB9.out⟩
      case measure => simp [intOf]; omega
    · have i6 : (0 : Int) < (k : Int) := by omega
      have i6n : 0 < k := by omega
      obtain ⟨j, hj⟩ : ∃ j, k = j + 1 := ⟨k - 1, by omega⟩
      obtain ⟨z, hz⟩ : ∃ z, l[j]? = some z := ⟨_, List.getElem?_eq_getElem (by rw [hn.out]; omega)⟩
      have hls := up_next hup.out hz (by rw [← hj]; exact hx)
      obtain ⟨ad', E7, ce7, e7, _, _, _, FZ0⟩ := its_old (stab_its.drop (HR.out.at 4 rfl : rIts (New w.heap.size wr) wr [.slice (some ad5) n uc] l)) hz
      cases e7
      have FZ := Lib.hid FZ0
      have i8 : (k : Int) - 1 = (j : Int) := by omega
      have i9 : IntKind.i64.wrap (j : Int) = (j : Int) := IntWalk.i64_in _ (by omega)
      have i10 : (j : Int) < (n : Int) := by omega
      have i11 : (0 : Int) ≤ (j : Int) := by omega
      replace hx := Lib.hid hx
      replace hz := Lib.hid hz
      replace hj := Lib.hid hj
      clear FZ0
      refine wp_region_fx (by kernel_rfl) (fun W => Below wr.heap.size wr W) (fun _ => none) (fun i => match i with
          | 8 => some (.bool true)
          | 25 => some (.bool true)
          | 36 => some (.bool false)
          | 45 => some (.bool false)
          | _ => none) (by kernel_rfl) (Below.refl _ _).drew (fun w w' h hb => h.trans (hb.mono h.size)) (fun j φ x W W' hp => by cases hp) ?_
      repeat (first
        | (refine wpAs_skip rfl ?_; simp only [Act.put, List.setIfInBounds_toArray, List.set_cons_zero, List.set_cons_succ])
        | (refine wpAs_pure (v := ?_) rfl rfl ?_ ?_; rotate_left; (intro W hC hE; clear hE; (obtain ⟨⟨z0, z1, z2, z3, z4⟩, _⟩ := FX.out W hC; obtain ⟨⟨q0, q1, q2, q3, q4⟩, _⟩ := FY.out W hC); clear hC; go_simp; done); simp only [Act.put, List.setIfInBounds_toArray, List.set_cons_zero, List.set_cons_succ])
        | (refine wpAs_pure (v := ?_) rfl rfl ?_ ?_; rotate_left; (intro W hC hE; clear hE; (obtain ⟨⟨z0, z1, z2, z3, z4⟩, _⟩ := FX.out W hC; obtain ⟨⟨q0, q1, q2, q3, q4⟩, _⟩ := FY.out W hC); clear hC; go_simp; with_reducible rfl); simp only [Act.put, List.setIfInBounds_toArray, List.set_cons_zero, List.set_cons_succ]))
      refine wpAs_fixed rfl rfl rfl ?_ ?_
      · intro W hC hE
        clear hE
        refine does_enter (f := 10) (args := #[itV x (.slice E5 x.2.2.length ce5), itV x (.slice E6 x.2.2.length ce6)]) ?_ ?_
        · go_simp
        · refine (sameI_any _ _ x x W (FX.out W hC).2 (FY.out W hC).2).mono ?_
          rintro e W' ⟨rfl, hg⟩
          rw [sameI_self]
          exact ⟨_, rfl, rfl, hg⟩
      simp only [Act.put, List.setIfInBounds_toArray, List.set_cons_zero, List.set_cons_succ]
      repeat (first
        | (refine wpAs_skip rfl ?_; simp only [Act.put, List.setIfInBounds_toArray, List.set_cons_zero, List.set_cons_succ])
        | (refine wpAs_pure (v := ?_) rfl rfl ?_ ?_; rotate_left; (intro W hC hE; clear hE; (obtain ⟨⟨z0, z1, z2, _, _⟩, _⟩ := FX.out W hC; obtain ⟨⟨u0, u1, u2, _, _⟩, _⟩ := FZ.out W hC); clear hC; go_simp; done); simp only [Act.put, List.setIfInBounds_toArray, List.set_cons_zero, List.set_cons_succ])
        | (refine wpAs_pure (v := ?_) rfl rfl ?_ ?_; rotate_left; (intro W hC hE; clear hE; (obtain ⟨⟨z0, z1, z2, _, _⟩, _⟩ := FX.out W hC; obtain ⟨⟨u0, u1, u2, _, _⟩, _⟩ := FZ.out W hC); clear hC; go_simp; with_reducible rfl); simp only [Act.put, List.setIfInBounds_toArray, List.set_cons_zero, List.set_cons_succ]))
      refine wpAs_fixed rfl rfl rfl ?_ ?_
      · intro W hC hE
        refine does_enter (f := 8) (args := #[kyV z.1, kyV x.1]) ?_ ?_
        · go_simp
        · refine (less_any z.1 x.1 W).mono ?_
          (rintro e W' ⟨rfl, hg⟩; rw [hls])
          exact ⟨_, rfl, rfl, hg⟩
      simp only [Act.put, List.setIfInBounds_toArray, List.set_cons_zero, List.set_cons_succ]
      repeat (first
        | (refine wpAs_skip rfl ?_; simp only [Act.put, List.setIfInBounds_toArray, List.set_cons_zero, List.set_cons_succ])
        | (refine wpAs_pure (v := ?_) rfl rfl ?_ ?_; rotate_left; (intro W hC hE; clear hE; (obtain ⟨⟨z0, z1, z2, _, _⟩, _⟩ := FX.out W hC; obtain ⟨t0, t1, t2, _⟩ := (HR.out.below hC).at 7 rfl); clear hC; go_simp; done); simp only [Act.put, List.setIfInBounds_toArray, List.set_cons_zero, List.set_cons_succ])
        | (refine wpAs_pure (v := ?_) rfl rfl ?_ ?_; rotate_left; (intro W hC hE; clear hE; (obtain ⟨⟨z0, z1, z2, _, _⟩, _⟩ := FX.out W hC; obtain ⟨t0, t1, t2, _⟩ := (HR.out.below hC).at 7 rfl); clear hC; go_simp; with_reducible rfl); simp only [Act.put, List.setIfInBounds_toArray, List.set_cons_zero, List.set_cons_succ]))
      refine wpAs_fixed rfl rfl rfl ?_ ?_
      · intro W hC hE
        refine does_enter (f := 8) (args := #[kyV x.1, kyV ka]) ?_ ?_
        · go_simp
        · refine (less_any x.1 ka W).mono ?_
          (rintro e W' ⟨rfl, hg⟩; rw [hl1])
          exact ⟨_, rfl, rfl, hg⟩
      simp only [Act.put, List.setIfInBounds_toArray, List.set_cons_zero, List.set_cons_succ]
      repeat (first
        | (refine wpAs_skip rfl ?_; simp only [Act.put, List.setIfInBounds_toArray, List.set_cons_zero, List.set_cons_succ])
        | (refine wpAs_pure (v := ?_) rfl rfl ?_ ?_; rotate_left; (intro W hC hE; clear hE; (obtain ⟨⟨z0, z1, z2, _, _⟩, _⟩ := FX.out W hC; obtain ⟨t0, t1, t2, _⟩ := (HR.out.below hC).at 5 rfl); clear hC; go_simp; done); simp only [Act.put, List.setIfInBounds_toArray, List.set_cons_zero, List.set_cons_succ])
        | (refine wpAs_pure (v := ?_) rfl rfl ?_ ?_; rotate_left; (intro W hC hE; clear hE; (obtain ⟨⟨z0, z1, z2, _, _⟩, _⟩ := FX.out W hC; obtain ⟨t0, t1, t2, _⟩ := (HR.out.below hC).at 5 rfl); clear hC; go_simp; with_reducible rfl); simp only [Act.put, List.setIfInBounds_toArray, List.set_cons_zero, List.set_cons_succ]))
      refine wpAs_fixed rfl rfl rfl ?_ ?_
      · intro W hC hE
        refine does_enter (f := 8) (args := #[kyV kc, kyV x.1]) ?_ ?_
        · go_simp
        · refine (less_any kc x.1 W).mono ?_
          (rintro e W' ⟨rfl, hg⟩; rw [hl2])
          exact ⟨_, rfl, rfl, hg⟩
      simp only [Act.put, List.setIfInBounds_toArray, List.set_cons_zero, List.set_cons_succ]
      repeat (first
        | (refine wpAs_skip rfl ?_; simp only [Act.put, List.setIfInBounds_toArray, List.set_cons_zero, List.set_cons_succ])
        | (refine wpAs_pure (v := ?_) rfl rfl ?_ ?_; rotate_left; (intro W hC hE; clear hE; skip; clear hC; go_simp; done); simp only [Act.put, List.setIfInBounds_toArray, List.set_cons_zero, List.set_cons_succ])
        | (refine wpAs_pure (v := ?_) rfl rfl ?_ ?_; rotate_left; (intro W hC hE; clear hE; skip; clear hC; go_simp; with_reducible rfl); simp only [Act.put, List.setIfInBounds_toArray, List.set_cons_zero, List.set_cons_succ]))
      refine wpAs_end fun W0 hC hE => ?_
      clear hE
      have hB9 := Lib.hid (BR.out.trans (hC.mono BR.out.size))
      clear hC
      go_wp2_with fail
      go_roundw
      case rel => exact ⟨k + 1, by omega, by go_num, hB9.out⟩
      case measure => simp [intOf]; omega

/-! ### The row's step -/
set_option maxRecDepth 100000 in
theorem lifted (os : Os) (started : os.Started) (H : Type) (enc : TypeId × Value → H) :
    ReturnsInHanded {} Try.checked os 3 .any (Rows.walkPartsSpec.pre6 enc Try.prog Try.f3 Rows.walkPartsRow.domain false) (Rows.walkPartsSpec.post enc Try.prog Try.f3 false true false false) := by
  refine returnsInHanded_of_change (C := Try.checked) own started (by kernel_rfl) Try.func3
    (ChangeSpec.witness6 (enc := enc) (C := Try.checked) false ⟨#[], #[.agg #[.slice none 0 0, .slice none 0 0, .slice none 0 0, .slice none 0 0], .int .i64 0, .agg #[.int .u8 0, .int .u32 0, .int .u32 0], .agg #[.int .u8 0, .int .u32 0, .int .u32 0], .agg #[.int .u8 0, .int .u32 0, .int .u32 0]], []⟩ 8 (by kernel_rfl) (by kernel_rfl) (by kernel_rfl) (by kernel_rfl)) ?_
  intro W base args ds gs before hval0 hW _ _
  have hval : ∀ (j : Nat) t v, Try.f3.params[j]? = some t → args[j]? = some v → Value.okWide Try.prog W .any base t v := hval0
  have hW' := hW
  obtain ⟨p, q, hA0, hV, _, _, _⟩ := hW
  have hA : DataW.TrodAll enc Try.prog W 0 (fun _ => true) true Try.f3.params.toList args.toList ds p := hA0
  rw [Try.params3] at hA hval
  obtain ⟨v0, vs0, d0, ds0, p0, q0, hargs, rfl, _, h0, r0⟩ := trodAll_cons hA
  obtain ⟨v1, vs1, d1, ds1, p1, q1, rfl, rfl, _, h1, r1⟩ := trodAll_cons r0
  obtain ⟨v2, vs2, d2, ds2, p2, q2, rfl, rfl, _, h2, r2⟩ := trodAll_cons r1
  obtain ⟨v3, vs3, d3, ds3, p3, q3, rfl, rfl, _, h3, r3⟩ := trodAll_cons r2
  obtain ⟨v4, vs4, d4, ds4, p4, q4, rfl, rfl, _, h4, r4⟩ := trodAll_cons r3
  obtain ⟨rfl, rfl, _⟩ := trodAll_nil r4
  obtain rfl : args = #[v0, v1, v2, v3, v4] := by cases args; simp_all
  obtain ⟨rfl, _⟩ := trodVars_none hV
  obtain ⟨d0x, y0⟩ := open_store (hval 0 28 v0 rfl rfl) h0
  obtain ⟨a1, rfl, _, _, w1⟩ := open_int Try.underlying3 (hval 1 3 v1 rfl rfl) h1
  obtain ⟨k2x, rfl, _⟩ := open_key (hval 2 31 v2 rfl rfl) h2
  obtain ⟨k3x, rfl, _⟩ := open_key (hval 3 31 v3 rfl rfl) h3
  obtain ⟨k4x, rfl, _⟩ := open_key (hval 4 31 v4 rfl rfl) h4
  clear hA0 hval0
  refine (walk v0 d0x a1 w1 k2x k3x k4x W y0).mono fun e W' ⟨he, hb⟩ => ?_
  subst he
  exact ⟨_, rfl, law_post laidOut (by rw [Try.params3]; decide +kernel) (by kernel_rfl) Try.underlying4 rfl ⟨rfl, by simp [Rows.walkPartsSpec], rfl⟩ hW' hb⟩

theorem over : Rows.walkPartsRow.holds Try.pinned (OpenSpec.ofChange Rows.walkPartsSpec) :=
  OpenClaim.holds_of_wide 3 Try.f3 rfl rfl rfl rfl rfl rfl rfl ⟨rfl, rfl, rfl, rfl, rfl⟩ rfl rfl rfl rfl rfl (by kernel_rfl) Try.func3 (by kernel_rfl)
    (of_decide_eq_true (by kernel_rfl)) (by unfold Func.isWrapper; first | (rw [if_pos (by decide +kernel)]; kernel_rfl) | (rw [if_neg (by decide +kernel)]; exact ⟨rfl, rfl⟩))
    (fun os started H enc _ => lifted os started H enc)

end Go.Proofs.Ytdaidhbmfocodaa.walkParts
namespace Go.Proofs.Ytdaidhbmfocodaa
theorem walkParts_proved : Rows.WalkPartsSaid := walkParts.over
end Go.Proofs.Ytdaidhbmfocodaa
