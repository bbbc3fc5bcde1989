/-
  For every store, root and item PutCounts answers true and leaves its arguments as they were. No condition.
-/
import Derived.Test.YtogieepfimpdmaaGreatBnd5
import Derived.Deep.CutRange
namespace Go.Proofs.YtogieepfimpdmaaGreat.putCounts
open Go.ChangeShapes Go.WideShapes Go.RowKit

theorem own : ownKnob Tryz.prog.godebug = none := by kernel_rfl
theorem laidOut : laidOutB Tryz.prog = true := by kernel_rfl

set_option maxRecDepth 100000 in
set_option maxHeartbeats 8000000 in
theorem walk (v : Value) (s : Rm) (a : Int) (_hn : (Lit.int .i64 a).wf = true) (u : Value) (x : It) (w : World) (h : Sto (Old w) w v s) (hu : Itm (Old w) w u x) :
    Calls Tryz.prog 7 #[v, .int .i64 a, u] w fun e w' => e = .returned (.bool true) ∧ Below w.heap.size w w' := by
  clear _hn
  obtain ⟨qa, qb, qc, qd, rfl⟩ : ∃ qa qb qc qd : Option Addr × Nat × Nat, v = .agg #[.slice qa.1 qa.2.1 qa.2.2, .slice qb.1 qb.2.1 qb.2.2, .slice qc.1 qc.2.1 qc.2.2, .slice qd.1 qd.2.1 qd.2.2] := by
    obtain ⟨A, ca, B, cb, N, cn, L, cl, rfl, _⟩ := h.open
    exact ⟨(A, _, ca), (B, _, cb), (N, _, cn), (L, _, cl), rfl⟩
  obtain ⟨E, ce, rfl, hxi, _, _, _⟩ := id hu.open
  obtain ⟨w1, hw1, b1, hs1, hB1⟩ := box_4 w (.slice qa.1 qa.2.1 qa.2.2) (.slice qb.1 qb.2.1 qb.2.2) (.slice qc.1 qc.2.1 qc.2.2) (.slice qd.1 qd.2.1 qd.2.2) 29
  obtain ⟨w2, hw2, -, -, -, -, -, hs2, hB2, b2⟩ := box_five w1 (.int .u8 (x.1.1.toNat : Int)) (.int .u32 x.1.2.1) (.int .u32 x.1.2.2) (.int .i64 x.2.1) (.slice E x.2.2.length ce) 40
  have hB12 := hB1.trans (hB2.mono hB1.size)
  have B2 := Lib.hid hB12
  have K2 := Lib.hid (fun W (hW : Below w2.heap.size w2 W) => And.intro (four_cells ((hW.block w.heap.size (by omega)).trans ((hB2.block w.heap.size (by omega)).trans b1))) (And.intro (five_cells ((hW.block w1.heap.size (by omega)).trans b2)) (And.intro (h.below (hB12.trans (hW.mono hB12.size))) (hu.below (hB12.trans (hW.mono hB12.size))))))
  have hIn := Lib.hid hxi
  replace hs1 := Lib.hid hs1
  replace hs2 := Lib.hid hs2
  clear h hu hB1 hB2 hB12 b1 b2 hxi
  unfold itV
  go_enter Tryz.func7, Tryz.ntmps7
  go_upto_region 1 with fail
  clear hw1 hw2
  go_wp2_with fail
  with_reducible refine (alive12 _).mono ?_
  rintro e w3 ⟨rfl, hb3⟩
  have C3 := Lib.hid hb3
  clear hb3
  obtain ⟨⟨k0, k1, k2, k3, _⟩, _⟩ := K2.out w3 C3.out
  go_upto_region 2 with fail
  go_wp2_with fail
  with_reducible refine (greatR_any _ s _ (K2.out w3 C3.out).2.2.1).mono ?_
  rintro e w4 ⟨rfl, hb4⟩
  have C4 := Lib.hid (C3.out.trans (hb4.mono C3.out.size))
  clear hb4 k0 k1 k2 k3 C3
  obtain ⟨⟨k0, k1, k2, k3, _⟩, ⟨n0, n1, n2, n3, n4, _⟩, _⟩ := K2.out w4 C4.out
  cases hgr : greatR s with
  | true =>
    have B4 := Lib.hid (B2.out.trans (C4.out.mono B2.out.size))
    go_wp2_with fail
    go_ret
    exact ⟨rfl, B4.out⟩
  | false =>
  clear hgr
  by_cases hl : 20 < x.2.2.length
  · have hl' : ((x.2.2.length : Int) > 20) := by omega
    have B4 := Lib.hid (B2.out.trans (C4.out.mono B2.out.size))
    go_wp2_with fail
    go_ret
    exact ⟨rfl, B4.out⟩
  have hl' : ¬ ((x.2.2.length : Int) > 20) := by omega
  go_upto_region 4 with fail
  go_wp2_with fail
  with_reducible refine (findCheck_any _ s a _ (K2.out w4 C4.out).2.2.1).mono ?_
  rintro e w5 ⟨rfl, hb5⟩
  have C5 := Lib.hid (C4.out.trans (hb5.mono C4.out.size))
  clear hb5 k0 k1 k2 k3 n0 n1 n2 n3 n4 C4
  obtain ⟨hh, hhh⟩ : ∃ q, ckH s a = q := ⟨_, rfl⟩
  obtain ⟨ck, hck⟩ : ∃ q, ckE s a = q := ⟨_, rfl⟩
  rw [hhh, hck]
  obtain ⟨⟨k0, k1, k2, k3, _⟩, ⟨n0, n1, n2, n3, n4, _⟩, _⟩ := K2.out w5 C5.out
  have hFd : Hid (Calls Tryz.prog 12 #[.agg #[.slice qa.1 qa.2.1 qa.2.2, .slice qb.1 qb.2.1 qb.2.2, .slice qc.1 qc.2.1 qc.2.2, .slice qd.1 qd.2.1 qd.2.2], .int .i64 a, .agg #[.int .u8 (x.1.1.toNat : Int), .int .u32 x.1.2.1, .int .u32 x.1.2.2]] w5 fun e w' => ∃ (k : Ky) (r : Int) (P : Option Addr) (n pc : Nat), e = .returned (.tuple #[.agg #[.int .u8 (k.1.toNat : Int), .int .u32 k.2.1, .int .u32 k.2.2, .int .i64 r, .slice P n pc], .int .i64 (fdE s a x.1)]) ∧ Below w5.heap.size w5 w') := Lib.hid ((findFind_open _ s a x.1 w5 (K2.out w5 C5.out).2.2.1).mono fun e w' ⟨P, pc, h1, _, h3⟩ => ⟨(fdV s a x.1).1, (fdV s a x.1).2.1, P, _, pc, h1, h3⟩)
  obtain ⟨fe, hfe⟩ : ∃ q, fdE s a x.1 = q := ⟨_, rfl⟩
  rw [hfe] at hFd
  go_upto_region 5 with fail
  go_wp2_with fail
  with_reducible refine hFd.out.mono ?_
  rintro e w6 ⟨fk, fr, P, pn, pc, rfl, hb6⟩
  obtain ⟨w7, hw7, -, -, -, -, -, hs7, hB7, -⟩ := box_five w6 (.int .u8 (fk.1.toNat : Int)) (.int .u32 fk.2.1) (.int .u32 fk.2.2) (.int .i64 fr) (.slice P pn pc) 40
  have C7 := Lib.hid (C5.out.trans ((hb6.trans (hB7.mono hb6.size)).mono C5.out.size))
  replace hs7 := Lib.hid hs7
  clear hb6 hB7 k0 k1 k2 k3 n0 n1 n2 n3 n4 C5 hFd
  obtain ⟨⟨k0, k1, k2, k3, _⟩, ⟨n0, n1, n2, n3, n4, _⟩, hSt, hIt⟩ := K2.out w7 C7.out
  have hPut := Lib.hid (putPut_any qa qb qc qd s a x E ce w7 hSt hIt)
  clear hSt hIt
  have hPut' := hPut.out
  unfold itV at hPut'
  replace hPut' := Lib.hid hPut'
  go_upto_region 6 with fail
  clear hw7
  go_wp2_with fail
  with_reducible refine hPut'.out.mono ?_
  rintro e w8 ⟨l, ra, rb, rc, rd, hl8, rfl, hS8, hb8⟩
  obtain ⟨w9, hw9, b9, hs9, hB9⟩ := box_4 w8 (.slice ra.1 ra.2.1 ra.2.2) (.slice rb.1 rb.2.1 rb.2.2) (.slice rc.1 rc.2.1 rc.2.2) (.slice rd.1 rd.2.1 rd.2.2) 29
  have K9 := Lib.hid (fun W (hW : Below w9.heap.size w9 W) => And.intro (four_cells ((hW.block w8.heap.size (by omega)).trans b9)) (hS8.drop.below (hB9.trans (hW.mono hB9.size))))
  have C9 := Lib.hid (C7.out.trans ((hb8.trans (hB9.mono hb8.size)).mono C7.out.size))
  have hlw := Lib.hid hl8
  obtain ⟨X, hX⟩ : ∃ X, putS s a x l = X := ⟨_, rfl⟩
  obtain ⟨pe, ps, pn2⟩ := X
  have hpz := Lib.hid (fun h => put_zero (s := s) (a := a) (x := x) (l := l) h)
  rw [hX] at K9 hpz ⊢
  replace hX := Lib.hid hX
  replace hs9 := Lib.hid hs9
  clear hS8 hb8 hB9 b9 hl8 hPut hPut' k0 k1 k2 k3 n0 n1 n2 n3 n4
  go_upto_region 7 with fail
  clear hw9
  obtain ⟨⟨m0, m1, m2, m3, _⟩, _⟩ := K9.out w9 (Below.refl _ _)
  by_cases hpe : pe = 0
  case neg =>
    have t0 : (pe != 0) = true := by simpa using hpe
    obtain ⟨rfl, rfl⟩ := hpz.out hpe
    have hr0 : Hid (rc.2.1 = 0) := Lib.hid (by
      obtain ⟨_, hN, _⟩ := (K9.out w9 (Below.refl _ _)).2.parts
      obtain ⟨A', cap', e, _, _, _⟩ := rBy_byt (B := w9.heap.size) (fun p hp => hp) hN
      simp only [Value.slice.injEq] at e
      exact e.2.1)
    have hc0 : ((rc.2.1 : Int) == 0) = true := by rw [hr0.out]; rfl
    have B9 := Lib.hid (B2.out.trans (C9.out.mono B2.out.size))
    go_wp2_with fail
    go_ret
    exact ⟨rfl, B9.out⟩
  subst hpe
  obtain ⟨hck0, hci0⟩ := put_checked (l := l) (show (putS s a x l).1 = 0 by rw [hX.out])
  obtain ⟨hmx, hrx⟩ := cit_ok hci0
  have hrf := (mayI_of hmx).1
  obtain rfl : ck = 0 := by rw [← hck, hck0]
  have hkk := Lib.hid hck0
  have hcc := Lib.hid hci0
  clear hci0 hrx hmx hck0 m0 m1 m2 m3
  obtain ⟨-, ⟨n0, n1, n2, n3, n4, _⟩, _⟩ := K2.out w9 C9.out
  go_upto_region 10 with fail
  have hxi2 := Lib.hid (hIn.out).2
  have hfd : Hid (fdE s a x.1 = fe) := Lib.hid hfe
  replace hrf := Lib.hid hrf
  replace hfe := Lib.hid hfe
  obtain ⟨pb, hpb⟩ : ∃ b, decide (8 ≤ x.2.1) = b := ⟨_, rfl⟩
  go_cut [75] from 68 to 75 (fun x75 wx => x75 = .bool pb ∧ w9 = wx)
  case first =>
    by_cases h0 : x.2.1 = 0
    · obtain rfl : pb = false := by rw [← hpb]; exact decide_eq_false (by omega)
      rw [h0] at n3
      replace h0 := Lib.hid h0
      replace hpb := Lib.hid hpb
      go_wp2_with fail
      go_meet
      exact ⟨rfl, rfl⟩
    · have i1 : x.2.1 ≥ 8 := by have := hrf.out; omega
      have i2 : x.2.1 < 256 := by have := hrf.out; omega
      obtain rfl : pb = true := by rw [← hpb]; exact decide_eq_true (by omega)
      replace hpb := Lib.hid hpb
      go_wp2_with fail
      go_meet
      exact ⟨rfl, rfl⟩
  case rest =>
  obtain ⟨rfl, rfl⟩ := hcut
  replace hpb := Lib.hid hpb
  go_upto_if 75 with fail
  go_cut [15] from 76 to 80 (fun x15 wx => ∃ (A : Option Addr) (n c : Nat), x15 = .slice A n c ∧ (heldI x).length = n ∧ rSl 1 (rK .i64) (Old wx) wx [.slice A n c] (heldI x) ∧ Below w9.heap.size w9 wx)
  case first =>
    cases pb with
    | false =>
      have hhe : Hid (heldI x = []) := Lib.hid (by have := of_decide_eq_false hpb.out; unfold heldI; rw [if_neg (by omega)])
      go_wp2_with fail
      go_meet
      exact ⟨none, 0, 0, rfl, by rw [hhe.out]; rfl, by rw [hhe.out]; exact nil_sl _ _, Below.refl _ _⟩
    | true =>
      have hhe : Hid (heldI x = [x.2.1]) := Lib.hid (by have := of_decide_eq_true hpb.out; unfold heldI; rw [if_pos ⟨this, by have := hrf.out; omega⟩])
      obtain ⟨wA, hwA, gA, hsA, hBA⟩ := box_1 w9 (.int .i64 x.2.1) 3
      obtain ⟨A', c', w', hrun, hrel, hb⟩ := one_held w9.heap.size x.2.1 1 gA hxi2.out
      have HR := Lib.hid hrun
      have HL := Lib.hid hrel
      have HB := Lib.hid (hBA.trans (hb.mono hBA.size))
      replace hsA := Lib.hid hsA
      clear hrun hrel hb hBA gA
      go_wp2_with (at_builtin; refine wpList_append_run2 rfl _ _ _ _ rfl rfl rfl HR.out ?_; clear HR hwA)
      go_meet
      exact ⟨A', 1, c', rfl, by rw [hhe.out]; rfl, by rw [hhe.out]; exact HL.out, HB.out⟩
  case rest =>
  obtain ⟨w10, rfl⟩ : ∃ w10 : World, w10 = wc := ⟨_, rfl⟩
  obtain ⟨HA, hn, hc, rfl, hhl, hHr, hBH⟩ := hcut
  obtain ⟨wA, hwA, gA, hsA, hBA⟩ := box_1 w10 (.int .i64 a) 3
  have B10 := Lib.hid hBH
  have C10 := Lib.hid (C9.out.trans (hBH.mono C9.out.size))
  have CA := Lib.hid (C10.out.trans (hBA.mono C10.out.size))
  have hen := Lib.hid (enough_any qa qb qc qd s (some ⟨w10.heap.size, 0, none⟩) 1 1 [a] HA hn hc (heldI x) wA (K2.out wA CA.out).2.2.1 (one_int gA (ck_64 hkk.out)) (sl_below hHr hBA) rfl hhl (by omega) (by omega) (by have := held_len x; omega) (fun r hr => by rw [List.mem_singleton.1 hr]; exact hkk.out) (held_256 x))
  have BA := Lib.hid hBA
  replace hsA := Lib.hid hsA
  clear hBH hHr hBA gA n0 n1 n2 n3 n4
  obtain ⟨⟨k0, k1, k2, k3, _⟩, _⟩ := K2.out w10 C10.out
  go_upto_region 14 with fail
  go_wp2_with fail
  with_reducible refine hen.out.mono ?_
  rintro e w11 ⟨V, res, hV1, hV2, hV3, rfl, hb11⟩
  have C11 := Lib.hid (CA.out.trans (hb11.mono CA.out.size))
  have D11 := Lib.hid (B10.out.trans ((BA.out.trans (hb11.mono BA.out.size)).mono B10.out.size))
  clear hb11 hen k0 k1 k2 k3
  cases res with
  | false =>
    have BF := Lib.hid (B2.out.trans (C11.out.mono B2.out.size))
    go_wp2_with fail
    go_ret
    exact ⟨rfl, BF.out⟩
  | true =>
  obtain ⟨M, H⟩ := put_one_res hIn.out (by rw [hX.out]) hlw.out hV1 hV2 (hV3.1 rfl)
  rw [hX.out] at H
  obtain ⟨c1, c2, c3⟩ := is_check hkk.out H
  have c4 := is_many hkk.out H
  obtain ⟨f1, f2⟩ := ck_few hkk.out
  have g1 := (tree_all H.tree).2.1
  have g2 := (tree_all (ck_of hkk.out).1).2.1
  have r1 := Lib.hid (raV_all c1)
  have r2 := Lib.hid (raV_all hkk.out)
  obtain ⟨h2, hh2⟩ : ∃ q, ckH ps pn2 = q := ⟨_, rfl⟩
  obtain ⟨nT, hnT⟩ : ∃ q, (allO ps pn2).length = q := ⟨_, rfl⟩
  obtain ⟨nS, hnS⟩ : ∃ q, (allO s a).length = q := ⟨_, rfl⟩
  rw [hhh, hh2] at c2 c3
  rw [hhh] at f1 f2
  rw [hnT] at g1
  rw [hnS] at g2
  rw [hfd.out] at c4
  replace hh2 := Lib.hid hh2
  replace c1 := Lib.hid c1
  have hsH := (K9.out w11 D11.out).2
  clear H hV1 hV2 hV3
  obtain ⟨⟨m0, m1, m2, m3, _⟩, _⟩ := K9.out w11 D11.out
  have hck2 := Lib.hid (findCheck_any _ ps pn2 _ hsH)
  rw [hh2.out, c1.out] at hck2
  clear hsH
  go_upto_region 16 with fail
  go_wp2_with fail
  with_reducible refine hck2.out.mono ?_
  rintro e w12 ⟨rfl, hb12⟩
  have C12 := Lib.hid (C11.out.trans (hb12.mono C11.out.size))
  have D12 := Lib.hid (D11.out.trans (hb12.mono D11.out.size))
  clear hb12 hck2 m0 m1 m2 m3
  have j1 : IntKind.i64.wrap (hh + 1) = hh + 1 := IntWalk.i64_in _ (by omega)
  have j2 : hh ≤ h2 := c2
  have j3 : h2 ≤ hh + 1 := c3
  go_upto_region 18 with fail
  by_cases h6 : fe = 6
  · have t6 : (fe == 6) = true := by simpa using h6
    have hsum : nT = nS + 1 := by rw [← hnT, ← hnS, c4, if_pos h6]
    have j4 : IntKind.i64.wrap ((nS : Int) + 1) = (nS : Int) + 1 := IntWalk.i64_in _ (by omega)
    have j5 : ((nT : Int) == (nS : Int) + 1) = true := by rw [hsum]; simp
    replace hsum := Lib.hid hsum
    replace hnT := Lib.hid hnT
    replace hnS := Lib.hid hnS
    replace c4 := Lib.hid c4
    go_upto_region 20 with fail
    refine wp_region_fx (by kernel_rfl) (fun W => Below w12.heap.size w12 W) (fun i => match i with
        | 19 => some (fun v _ => ∃ u c, v = .slice u nT c)
        | 23 => some (fun v _ => ∃ u c, v = .slice u nS c)
        | _ => none) (fun i => match i with
        | 20 => some (.int .i64 (nT : Int))
        | 24 => some (.int .i64 (nS : Int))
        | _ => none) (by kernel_rfl) (Below.refl _ _).drew (fun w w' h hb => h.trans (hb.mono h.size)) (fun j φ x W W' hp hx hb => by
          match j, hp with
          | 19, hp => cases hp; exact hx
          | 23, hp => cases hp; exact hx) ?_
    repeat (first
      | (refine wpAs_skip rfl ?_; simp only [Act.put, List.setIfInBounds_toArray, List.set_cons_zero, List.set_cons_succ])
      | (refine wpAs_pure (v := ?_) rfl rfl ?_ ?_; rotate_left; (intro W hC hE; clear hE; (obtain ⟨⟨m0, m1, m2, m3, _⟩, _⟩ := K9.out W (D12.out.trans (hC.mono D12.out.size))); clear hC; go_simp; done); simp only [Act.put, List.setIfInBounds_toArray, List.set_cons_zero, List.set_cons_succ])
      | (refine wpAs_pure (v := ?_) rfl rfl ?_ ?_; rotate_left; (intro W hC hE; clear hE; (obtain ⟨⟨m0, m1, m2, m3, _⟩, _⟩ := K9.out W (D12.out.trans (hC.mono D12.out.size))); clear hC; go_simp; with_reducible rfl); simp only [Act.put, List.setIfInBounds_toArray, List.set_cons_zero, List.set_cons_succ]))
    refine wpAs_act rfl rfl ?_ ?_
    · intro W hC hE
      clear hE
      refine does_enter (f := 18) (args := #[.agg #[.slice ra.1 ra.2.1 ra.2.2, .slice rb.1 rb.2.1 rb.2.2, .slice rc.1 rc.2.1 rc.2.2, .slice rd.1 rd.2.1 rd.2.2], .int .i64 pn2]) ?_ ?_
      · go_simp
      · refine (allP_any ra rb rc rd ps pn2 W (K9.out W (D12.out.trans (hC.mono D12.out.size))).2).mono ?_
        rintro e W' ⟨u, c, rfl, _, hb⟩
        rw [r1.out, hnT.out]
        exact ⟨_, rfl, ⟨u, c, rfl⟩, hb⟩
    simp only [Act.put, List.setIfInBounds_toArray, List.set_cons_zero, List.set_cons_succ, envAdd]
    intro x19
    refine wpAs_fixed rfl rfl rfl ?_ ?_
    · intro W hC hE
      obtain ⟨u, c, rfl⟩ := hE.1 rfl
      clear hE hC
      go_simp
      exact ⟨rfl, Below.refl _ _⟩
    simp only [Act.put, List.setIfInBounds_toArray, List.set_cons_zero, List.set_cons_succ]
    repeat (first
      | (refine wpAs_skip rfl ?_; simp only [Act.put, List.setIfInBounds_toArray, List.set_cons_zero, List.set_cons_succ])
      | (refine wpAs_pure (v := ?_) rfl rfl ?_ ?_; rotate_left; (intro W hC hE; clear hE; (obtain ⟨⟨m0, m1, m2, m3, _⟩, _⟩ := K2.out W (C12.out.trans (hC.mono C12.out.size))); clear hC; go_simp; done); simp only [Act.put, List.setIfInBounds_toArray, List.set_cons_zero, List.set_cons_succ])
      | (refine wpAs_pure (v := ?_) rfl rfl ?_ ?_; rotate_left; (intro W hC hE; clear hE; (obtain ⟨⟨m0, m1, m2, m3, _⟩, _⟩ := K2.out W (C12.out.trans (hC.mono C12.out.size))); clear hC; go_simp; with_reducible rfl); simp only [Act.put, List.setIfInBounds_toArray, List.set_cons_zero, List.set_cons_succ]))
    refine wpAs_act rfl rfl ?_ ?_
    · intro W hC hE
      clear hE
      refine does_enter (f := 18) (args := #[.agg #[.slice qa.1 qa.2.1 qa.2.2, .slice qb.1 qb.2.1 qb.2.2, .slice qc.1 qc.2.1 qc.2.2, .slice qd.1 qd.2.1 qd.2.2], .int .i64 a]) ?_ ?_
      · go_simp
      · refine (allP_any qa qb qc qd s a W (K2.out W (C12.out.trans (hC.mono C12.out.size))).2.2.1).mono ?_
        rintro e W' ⟨u, c, rfl, _, hb⟩
        rw [r2.out, hnS.out]
        exact ⟨_, rfl, ⟨u, c, rfl⟩, hb⟩
    simp only [Act.put, List.setIfInBounds_toArray, List.set_cons_zero, List.set_cons_succ, envAdd]
    intro x23
    refine wpAs_fixed rfl rfl rfl ?_ ?_
    · intro W hC hE
      obtain ⟨u, c, rfl⟩ := hE.1 rfl
      clear hE hC
      go_simp
      exact ⟨rfl, Below.refl _ _⟩
    simp only [Act.put, List.setIfInBounds_toArray, List.set_cons_zero, List.set_cons_succ]
    repeat (first
      | (refine wpAs_skip rfl ?_; simp only [Act.put, List.setIfInBounds_toArray, List.set_cons_zero, List.set_cons_succ])
      | (refine wpAs_pure (v := ?_) rfl rfl ?_ ?_; rotate_left; (intro W hC hE; clear hE; skip; clear hC; go_simp; done); simp only [Act.put, List.setIfInBounds_toArray, List.set_cons_zero, List.set_cons_succ])
      | (refine wpAs_pure (v := ?_) rfl rfl ?_ ?_; rotate_left; (intro W hC hE; clear hE; skip; clear hC; go_simp; with_reducible rfl); simp only [Act.put, List.setIfInBounds_toArray, List.set_cons_zero, List.set_cons_succ]))
    refine wpAs_end fun W hC hE => ?_
    have BF := Lib.hid (B2.out.trans ((C12.out.trans (hC.mono C12.out.size)).mono B2.out.size))
    clear hE hC
    go_wp2_with fail
    go_ret
    exact ⟨rfl, BF.out⟩
  · have t6 : (fe == 6) = false := by simpa using h6
    have hsum : nT = nS + 0 := by rw [← hnT, ← hnS, c4, if_neg h6]
    have j4 : IntKind.i64.wrap ((nS : Int)) = (nS : Int) := IntWalk.i64_in _ (by omega)
    have j5 : ((nT : Int) == (nS : Int)) = true := by rw [hsum]; simp
    replace hsum := Lib.hid hsum
    replace hnT := Lib.hid hnT
    replace hnS := Lib.hid hnS
    replace c4 := Lib.hid c4
    go_upto_region 20 with fail
    refine wp_region_fx (by kernel_rfl) (fun W => Below w12.heap.size w12 W) (fun i => match i with
        | 19 => some (fun v _ => ∃ u c, v = .slice u nT c)
        | 23 => some (fun v _ => ∃ u c, v = .slice u nS c)
        | _ => none) (fun i => match i with
        | 20 => some (.int .i64 (nT : Int))
        | 24 => some (.int .i64 (nS : Int))
        | _ => none) (by kernel_rfl) (Below.refl _ _).drew (fun w w' h hb => h.trans (hb.mono h.size)) (fun j φ x W W' hp hx hb => by
          match j, hp with
          | 19, hp => cases hp; exact hx
          | 23, hp => cases hp; exact hx) ?_
    repeat (first
      | (refine wpAs_skip rfl ?_; simp only [Act.put, List.setIfInBounds_toArray, List.set_cons_zero, List.set_cons_succ])
      | (refine wpAs_pure (v := ?_) rfl rfl ?_ ?_; rotate_left; (intro W hC hE; clear hE; (obtain ⟨⟨m0, m1, m2, m3, _⟩, _⟩ := K9.out W (D12.out.trans (hC.mono D12.out.size))); clear hC; go_simp; done); simp only [Act.put, List.setIfInBounds_toArray, List.set_cons_zero, List.set_cons_succ])
      | (refine wpAs_pure (v := ?_) rfl rfl ?_ ?_; rotate_left; (intro W hC hE; clear hE; (obtain ⟨⟨m0, m1, m2, m3, _⟩, _⟩ := K9.out W (D12.out.trans (hC.mono D12.out.size))); clear hC; go_simp; with_reducible rfl); simp only [Act.put, List.setIfInBounds_toArray, List.set_cons_zero, List.set_cons_succ]))
    refine wpAs_act rfl rfl ?_ ?_
    · intro W hC hE
      clear hE
      refine does_enter (f := 18) (args := #[.agg #[.slice ra.1 ra.2.1 ra.2.2, .slice rb.1 rb.2.1 rb.2.2, .slice rc.1 rc.2.1 rc.2.2, .slice rd.1 rd.2.1 rd.2.2], .int .i64 pn2]) ?_ ?_
      · go_simp
      · refine (allP_any ra rb rc rd ps pn2 W (K9.out W (D12.out.trans (hC.mono D12.out.size))).2).mono ?_
        rintro e W' ⟨u, c, rfl, _, hb⟩
        rw [r1.out, hnT.out]
        exact ⟨_, rfl, ⟨u, c, rfl⟩, hb⟩
    simp only [Act.put, List.setIfInBounds_toArray, List.set_cons_zero, List.set_cons_succ, envAdd]
    intro x19
    refine wpAs_fixed rfl rfl rfl ?_ ?_
    · intro W hC hE
      obtain ⟨u, c, rfl⟩ := hE.1 rfl
      clear hE hC
      go_simp
      exact ⟨rfl, Below.refl _ _⟩
    simp only [Act.put, List.setIfInBounds_toArray, List.set_cons_zero, List.set_cons_succ]
    repeat (first
      | (refine wpAs_skip rfl ?_; simp only [Act.put, List.setIfInBounds_toArray, List.set_cons_zero, List.set_cons_succ])
      | (refine wpAs_pure (v := ?_) rfl rfl ?_ ?_; rotate_left; (intro W hC hE; clear hE; (obtain ⟨⟨m0, m1, m2, m3, _⟩, _⟩ := K2.out W (C12.out.trans (hC.mono C12.out.size))); clear hC; go_simp; done); simp only [Act.put, List.setIfInBounds_toArray, List.set_cons_zero, List.set_cons_succ])
      | (refine wpAs_pure (v := ?_) rfl rfl ?_ ?_; rotate_left; (intro W hC hE; clear hE; (obtain ⟨⟨m0, m1, m2, m3, _⟩, _⟩ := K2.out W (C12.out.trans (hC.mono C12.out.size))); clear hC; go_simp; with_reducible rfl); simp only [Act.put, List.setIfInBounds_toArray, List.set_cons_zero, List.set_cons_succ]))
    refine wpAs_act rfl rfl ?_ ?_
    · intro W hC hE
      clear hE
      refine does_enter (f := 18) (args := #[.agg #[.slice qa.1 qa.2.1 qa.2.2, .slice qb.1 qb.2.1 qb.2.2, .slice qc.1 qc.2.1 qc.2.2, .slice qd.1 qd.2.1 qd.2.2], .int .i64 a]) ?_ ?_
      · go_simp
      · refine (allP_any qa qb qc qd s a W (K2.out W (C12.out.trans (hC.mono C12.out.size))).2.2.1).mono ?_
        rintro e W' ⟨u, c, rfl, _, hb⟩
        rw [r2.out, hnS.out]
        exact ⟨_, rfl, ⟨u, c, rfl⟩, hb⟩
    simp only [Act.put, List.setIfInBounds_toArray, List.set_cons_zero, List.set_cons_succ, envAdd]
    intro x23
    refine wpAs_fixed rfl rfl rfl ?_ ?_
    · intro W hC hE
      obtain ⟨u, c, rfl⟩ := hE.1 rfl
      clear hE hC
      go_simp
      exact ⟨rfl, Below.refl _ _⟩
    simp only [Act.put, List.setIfInBounds_toArray, List.set_cons_zero, List.set_cons_succ]
    repeat (first
      | (refine wpAs_skip rfl ?_; simp only [Act.put, List.setIfInBounds_toArray, List.set_cons_zero, List.set_cons_succ])
      | (refine wpAs_pure (v := ?_) rfl rfl ?_ ?_; rotate_left; (intro W hC hE; clear hE; skip; clear hC; go_simp; done); simp only [Act.put, List.setIfInBounds_toArray, List.set_cons_zero, List.set_cons_succ])
      | (refine wpAs_pure (v := ?_) rfl rfl ?_ ?_; rotate_left; (intro W hC hE; clear hE; skip; clear hC; go_simp; with_reducible rfl); simp only [Act.put, List.setIfInBounds_toArray, List.set_cons_zero, List.set_cons_succ]))
    refine wpAs_end fun W hC hE => ?_
    have BF := Lib.hid (B2.out.trans ((C12.out.trans (hC.mono C12.out.size)).mono B2.out.size))
    clear hE hC
    go_wp2_with fail
    go_ret
    exact ⟨rfl, BF.out⟩

/-! ### The row's step -/
set_option maxRecDepth 100000 in
theorem lifted (os : Os) (started : os.Started) (H : Type) (enc : TypeId × Value → H) :
    ReturnsInHanded {} Tryz.checked os 7 .any (Rows.putCountsSpec.pre6 enc Tryz.prog Tryz.f7 Rows.putCountsRow.domain false) (Rows.putCountsSpec.post enc Tryz.prog Tryz.f7 false true false false) := by
  refine returnsInHanded_of_change (C := Tryz.checked) own started (by kernel_rfl) Tryz.func7
    (ChangeSpec.witness6 (enc := enc) (C := Tryz.checked) false ⟨#[], #[.agg #[.slice none 0 0, .slice none 0 0, .slice none 0 0, .slice none 0 0], .int .i64 0, .agg #[.int .u8 0, .int .u32 0, .int .u32 0, .int .i64 0, .slice none 0 0]], []⟩ 8 (by kernel_rfl) (by kernel_rfl) (by kernel_rfl) (by kernel_rfl)) ?_
  intro W base args ds gs before hval0 hW _ _
  have hval : ∀ (j : Nat) t v, Tryz.f7.params[j]? = some t → args[j]? = some v → Value.okWide Tryz.prog W .any base t v := hval0
  have hW' := hW
  obtain ⟨p, q, hA0, hV, _, _, _⟩ := hW
  have hA : DataW.TrodAll enc Tryz.prog W 0 (fun _ => true) true Tryz.f7.params.toList args.toList ds p := hA0
  rw [Tryz.params7] at hA hval
  obtain ⟨v0, vs0, d0, ds0, p0, q0, hargs, rfl, _, h0, r0⟩ := trodAll_cons hA
  obtain ⟨v1, vs1, d1, ds1, p1, q1, rfl, rfl, _, h1, r1⟩ := trodAll_cons r0
  obtain ⟨v2, vs2, d2, ds2, p2, q2, rfl, rfl, _, h2, r2⟩ := trodAll_cons r1
  obtain ⟨rfl, rfl, _⟩ := trodAll_nil r2
  obtain rfl : args = #[v0, v1, v2] := by cases args; simp_all
  obtain ⟨rfl, _⟩ := trodVars_none hV
  obtain ⟨d0x, y0⟩ := open_store (hval 0 29 v0 rfl rfl) h0
  obtain ⟨a1, rfl, _, _, w1⟩ := open_int Tryz.underlying3 (hval 1 3 v1 rfl rfl) h1
  obtain ⟨d2x, y2⟩ := open_item (hval 2 40 v2 rfl rfl) h2
  clear hA0 hval0
  refine (walk v0 d0x a1 w1 v2 d2x W y0 y2).mono fun e W' ⟨he, hb⟩ => ?_
  subst he
  exact ⟨_, rfl, law_post laidOut (by rw [Tryz.params7]; decide +kernel) (by kernel_rfl) Tryz.underlying4 rfl ⟨rfl, by simp [Rows.putCountsSpec], rfl⟩ hW' hb⟩

theorem over : Rows.putCountsRow.holds Tryz.pinned (OpenSpec.ofChange Rows.putCountsSpec) :=
  OpenClaim.holds_of_wide 7 Tryz.f7 rfl rfl rfl rfl rfl rfl rfl ⟨rfl, rfl, rfl, rfl, rfl⟩ rfl rfl rfl rfl rfl (by kernel_rfl) Tryz.func7 (by kernel_rfl)
    (of_decide_eq_true (by kernel_rfl)) (by unfold Func.isWrapper; first | (rw [if_pos (by decide +kernel)]; kernel_rfl) | (rw [if_neg (by decide +kernel)]; exact ⟨rfl, rfl⟩))
    (fun os started H enc _ => lifted os started H enc)

end Go.Proofs.YtogieepfimpdmaaGreat.putCounts
namespace Go.Proofs.YtogieepfimpdmaaGreat
theorem putCounts_proved : Rows.PutCountsSaid := putCounts.over
end Go.Proofs.YtogieepfimpdmaaGreat
