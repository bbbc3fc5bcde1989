/-
  For every store, root and two items PutOrder answers true and leaves its arguments as they were. No condition.
-/
import Derived.Test.YtogieepfimpdmaaGreatBnd6
import Derived.Deep.CutRange
namespace Go.Proofs.YtogieepfimpdmaaGreat.putOrder
open Go.ChangeShapes Go.WideShapes Go.RowKit

theorem own : ownKnob Tryz.prog.godebug = none := by kernel_rfl
theorem laidOut : laidOutB Tryz.prog = true := by kernel_rfl

set_option maxRecDepth 100000 in
set_option maxHeartbeats 8000000 in
theorem walk (v : Value) (s : Rm) (a : Int) (_hn : (Lit.int .i64 a).wf = true) (u : Value) (x : It) (u2 : Value) (y : It) (w : World) (h : Sto (Old w) w v s) (hu : Itm (Old w) w u x) (hu2 : Itm (Old w) w u2 y) :
    Calls Tryz.prog 6 #[v, .int .i64 a, u, u2] w fun e w' => e = .returned (.bool true) ∧ Below w.heap.size w w' := by
  clear _hn
  obtain ⟨qa, qb, qc, qd, rfl⟩ : ∃ qa qb qc qd : Option Addr × Nat × Nat, v = .agg #[.slice qa.1 qa.2.1 qa.2.2, .slice qb.1 qb.2.1 qb.2.2, .slice qc.1 qc.2.1 qc.2.2, .slice qd.1 qd.2.1 qd.2.2] := by
    obtain ⟨A, ca, B, cb, N, cn, L, cl, rfl, _⟩ := h.open
    exact ⟨(A, _, ca), (B, _, cb), (N, _, cn), (L, _, cl), rfl⟩
  obtain ⟨E, ce, rfl, hxi, -, -, -⟩ := id hu.open
  obtain ⟨F, cf, rfl, hyi, -, -, -⟩ := id hu2.open
  have HG0 : Bag w [OldR (.agg #[.slice qa.1 qa.2.1 qa.2.2, .slice qb.1 qb.2.1 qb.2.2, .slice qc.1 qc.2.1 qc.2.2, .slice qd.1 qd.2.1 qd.2.2]) s, OldI (itV x (.slice E x.2.2.length ce)) x, OldI (itV y (.slice F y.2.2.length cf)) y] := (((Bag.nil w).add (F := OldI _ y) hu2 (lasts_oldI _ _)).add (F := OldI _ x) hu (lasts_oldI _ _)).add (F := OldR _ s) h (lasts_oldR _ _)
  obtain ⟨w1, hw1, hg1, hB1, -, hs1⟩ := bag_four HG0 (Below.refl _ _) (.slice qa.1 qa.2.1 qa.2.2) (.slice qb.1 qb.2.1 qb.2.2) (.slice qc.1 qc.2.1 qc.2.2) (.slice qd.1 qd.2.1 qd.2.2) 29
  obtain ⟨w2, hw2, hg2, hB2, -, hs2⟩ := bag_item hg1 (Below.refl _ _) (.int .u8 (x.1.1.toNat : Int)) (.int .u32 x.1.2.1) (.int .u32 x.1.2.2) (.int .i64 x.2.1) (.slice E x.2.2.length ce)
  obtain ⟨w3, hw3, hg3, hB3, -, hs3⟩ := bag_item hg2 (Below.refl _ _) (.int .u8 (y.1.1.toNat : Int)) (.int .u32 y.1.2.1) (.int .u32 y.1.2.2) (.int .i64 y.2.1) (.slice F y.2.2.length cf)
  have hB13 := hB1.trans ((hB2.trans (hB3.mono hB2.size)).mono hB1.size)
  have HG3 := Lib.hid hg3
  have B3 := Lib.hid hB13
  have hIx := Lib.hid hxi
  have hIy := Lib.hid hyi
  replace hs1 := Lib.hid hs1
  replace hs2 := Lib.hid hs2
  replace hs3 := Lib.hid hs3
  clear HG0 hg1 hg2 hg3 h hu hu2 hB1 hB2 hB3 hB13 hxi hyi
  unfold itV
  go_enter Tryz.func6, Tryz.ntmps6
  go_upto_region 1 with fail
  clear hw1 hw2 hw3
  go_wp2_with fail
  with_reducible refine (alive12 _).mono ?_
  rintro e w4 ⟨rfl, hb4⟩
  have HG4 := Lib.hid (HG3.out.below hb4)
  have B4 := Lib.hid (B3.out.trans (hb4.mono B3.out.size))
  clear hb4 HG3 B3
  obtain ⟨k0, k1, k2, k3, kg⟩ := HG4.out.at 2 rfl
  go_upto_region 2 with fail
  go_wp2_with fail
  with_reducible refine (greatR_any _ s _ (HG4.out.at 3 rfl)).mono ?_
  rintro e w5 ⟨rfl, hb5⟩
  have HG5 := Lib.hid (HG4.out.below hb5)
  have B5 := Lib.hid (B4.out.trans (hb5.mono B4.out.size))
  clear hb5 HG4 B4 k0 k1 k2 k3 kg
  obtain ⟨n0, n1, n2, n3, n4, ng⟩ := HG5.out.at 1 rfl
  obtain ⟨o0, o1, o2, o3, o4, og⟩ := HG5.out.at 0 rfl
  cases hgr : greatR s with
  | true =>
    go_wp2_with fail
    go_ret
    exact ⟨rfl, B5.out⟩
  | false =>
  clear hgr
  by_cases hz0 : x.2.1 = 0
  case neg =>
    have t0 : (x.2.1 != 0) = true := by simpa using hz0
    go_wp2_with fail
    go_ret
    exact ⟨rfl, B5.out⟩
  have tz0 : (x.2.1 != 0) = false := by simpa using hz0
  replace hz0 := Lib.hid hz0
  by_cases hz1 : y.2.1 = 0
  case neg =>
    have t0 : (y.2.1 != 0) = true := by simpa using hz1
    go_wp2_with fail
    go_ret
    exact ⟨rfl, B5.out⟩
  have tz1 : (y.2.1 != 0) = false := by simpa using hz1
  replace hz1 := Lib.hid hz1
  by_cases hl0 : 20 < x.2.2.length
  · have hl' : ((x.2.2.length : Int) > 20) := by omega
    go_wp2_with fail
    go_ret
    exact ⟨rfl, B5.out⟩
  have hl0' : ¬ ((x.2.2.length : Int) > 20) := by omega
  by_cases hl1 : 20 < y.2.2.length
  · have hl' : ((y.2.2.length : Int) > 20) := by omega
    go_wp2_with fail
    go_ret
    exact ⟨rfl, B5.out⟩
  have hl1' : ¬ ((y.2.2.length : Int) > 20) := by omega
  obtain ⟨ck, hck⟩ : ∃ q, ckE s a = q := ⟨_, rfl⟩
  obtain ⟨hh, hhh⟩ : ∃ q, ckH s a = q := ⟨_, rfl⟩
  have hCk := Lib.hid (findCheck_any _ s a _ (HG5.out.at 3 rfl))
  rw [hck, hhh] at hCk
  replace hck := Lib.hid hck
  replace hhh := Lib.hid hhh
  obtain ⟨k0, k1, k2, k3, kg⟩ := HG5.out.at 2 rfl
  go_upto_region 4 with fail
  clear tz0 tz1 hl0 hl1 hl0' hl1' n0 n1 n2 n3 n4 ng o0 o1 o2 o3 o4 og
  go_wp2_with fail
  with_reducible refine hCk.out.mono ?_
  rintro e w6 ⟨rfl, hb6⟩
  have HG6 := Lib.hid (HG5.out.below hb6)
  have B6 := Lib.hid (B5.out.trans (hb6.mono B5.out.size))
  clear hb6 HG5 B5 k0 k1 k2 k3 kg hCk
  go_upto_region 5 with fail
  by_cases hk : ck = 0
  case neg =>
    have t0 : (ck != 0) = true := by simpa using hk
    go_wp2_with fail
    go_ret
    exact ⟨rfl, B6.out⟩
  subst hk
  obtain ⟨wA, hwA, gA, hsA, hBA⟩ := box_1 w6 (.int .i64 a) 3
  have HGA := Lib.hid (HG6.out.below hBA)
  have BA := Lib.hid (B6.out.trans (hBA.mono B6.out.size))
  have hen := Lib.hid (enough_any qa qb qc qd s (some ⟨w6.heap.size, 0, none⟩) 1 1 [a] none 0 0 [] wA (HGA.out.at 3 rfl) (one_int gA (ck_64 hck.out)) (nil_sl _ _) rfl rfl (by omega) (by omega) (by omega) (fun r hr => by rw [List.mem_singleton.1 hr]; exact hck.out) (fun z hz => by cases hz))
  replace hsA := Lib.hid hsA
  obtain ⟨k0, k1, k2, k3, kg⟩ := HG6.out.at 2 rfl
  clear gA hBA
  go_wp2_with fail
  with_reducible refine hen.out.mono ?_
  rintro e w7 ⟨V, res, hV1, hV2, hV3, rfl, hb7⟩
  have HG7 := Lib.hid (HGA.out.below hb7)
  have B7 := Lib.hid (BA.out.trans (hb7.mono BA.out.size))
  clear hb7 hen k0 k1 k2 k3 kg HGA BA HG6 B6
  cases res with
  | false =>
    go_wp2_with fail
    go_ret
    exact ⟨rfl, B7.out⟩
  | true =>
  have hH0 := Lib.hid (held_enough hck.out hV1 hV2 (hV3.1 rfl))
  clear hV1 hV2 hV3

  -- put x into q
  have hPut := putPut_any qa qb qc qd s a x E ce w7 (HG7.out.at 3 rfl) (HG7.out.at 4 rfl)
  unfold itV at hPut
  replace hPut := Lib.hid hPut
  obtain ⟨k0, k1, k2, k3, kg⟩ := HG7.out.at 2 rfl
  obtain ⟨n0, n1, n2, n3, n4, ng⟩ := HG7.out.at 1 rfl
  go_upto_region 7 with fail
  go_wp2_with fail
  with_reducible refine hPut.out.mono ?_
  rintro e w8 ⟨l9, ra, rb, rc, rd, hl9, rfl, hS, hb⟩
  obtain ⟨X, hX9⟩ : ∃ X, putS s a x l9 = X := ⟨_, rfl⟩
  obtain ⟨e1, s1, m1⟩ := X
  rw [hX9] at hS ⊢
  obtain ⟨w9, hw9, hg, hB, -, hs9⟩ := bag_four ((HG7.out.below hb).add (F := OldR _ s1) hS.drop (lasts_oldR _ _)) (Below.refl _ _) (.slice ra.1 ra.2.1 ra.2.2) (.slice rb.1 rb.2.1 rb.2.2) (.slice rc.1 rc.2.1 rc.2.2) (.slice rd.1 rd.2.1 rd.2.2) 29
  have HG9 := Lib.hid hg
  have B9 := Lib.hid (B7.out.trans ((hb.trans (hB.mono hb.size)).mono B7.out.size))
  have hw9l := Lib.hid hl9
  replace hX9 := Lib.hid hX9
  replace hs9 := Lib.hid hs9
  clear hS hb hB hg hl9 hPut k0 k1 k2 k3 kg n0 n1 n2 n3 n4 ng HG7 B7
  go_upto_region 8 with fail
  clear hw9
  by_cases hpe : e1 = 0
  case neg =>
    have t0 : (e1 != 0) = true := by simpa using hpe
    go_wp2_with fail
    go_ret
    exact ⟨rfl, B9.out⟩
  subst hpe
  obtain ⟨hH, hL1⟩ := held_put hIx.out hz0.out hH0.out (by rw [hX9.out]) hw9l.out
  rw [hX9.out] at hH hL1
  have hr1 := Lib.hid (raV_all hH.ck)
  obtain ⟨nu1, hn1⟩ : ∃ n, (allO s1 m1).length = n := ⟨_, rfl⟩
  have h9 : (allO s1 m1).length ≤ 15625 := held_few hH
  have hf1 := Lib.hid (show nu1 < 1000000 by omega)
  have hH1 := Lib.hid hH
  replace hL1 := Lib.hid hL1
  replace hn1 := Lib.hid hn1
  clear hH h9
  -- put x into r
  have hPut := putPut_any ra rb rc rd s1 m1 x E ce w9 (HG9.out.at 1 rfl) (HG9.out.at 6 rfl)
  unfold itV at hPut
  replace hPut := Lib.hid hPut
  obtain ⟨k0, k1, k2, k3, kg⟩ := HG9.out.at 0 rfl
  obtain ⟨n0, n1, n2, n3, n4, ng⟩ := HG9.out.at 3 rfl
  go_upto_region 10 with fail
  go_wp2_with fail
  with_reducible refine hPut.out.mono ?_
  rintro e w10 ⟨l11, ta, tb, tc, td, hl11, rfl, hS, hb⟩
  obtain ⟨X, hX11⟩ : ∃ X, putS s1 m1 x l11 = X := ⟨_, rfl⟩
  obtain ⟨e2, s2, m2⟩ := X
  rw [hX11] at hS ⊢
  obtain ⟨w11, hw11, hg, hB, -, hs11⟩ := bag_four ((HG9.out.below hb).add (F := OldR _ s2) hS.drop (lasts_oldR _ _)) (Below.refl _ _) (.slice ta.1 ta.2.1 ta.2.2) (.slice tb.1 tb.2.1 tb.2.2) (.slice tc.1 tc.2.1 tc.2.2) (.slice td.1 td.2.1 td.2.2) 29
  have HG11 := Lib.hid hg
  have B11 := Lib.hid (B9.out.trans ((hb.trans (hB.mono hb.size)).mono B9.out.size))
  have hw11l := Lib.hid hl11
  replace hX11 := Lib.hid hX11
  replace hs11 := Lib.hid hs11
  clear hS hb hB hg hl11 hPut k0 k1 k2 k3 kg n0 n1 n2 n3 n4 ng HG9 B9
  go_upto_region 11 with fail
  clear hw11
  go_cut [103] from 92 to 103 (fun x103 wx => x103 = .bool false ∧ Below w11.heap.size w11 wx)
  case first =>
    by_cases hpe : e2 = 0
    case neg =>
      have t0 : (e2 == 0) = false := by simpa using hpe
      refine wp_region_fx (by kernel_rfl) (fun W => Below w11.heap.size w11 W) (fun _ => none) (fun _ => none) (by kernel_rfl) (Below.refl _ _).drew (fun w w' h hb => h.trans (hb.mono h.size)) (fun j φ x W W' hp => by cases hp) ?_
      iterate 1 (first
        | (refine wpAs_skip rfl ?_; simp only [Act.put, List.setIfInBounds_toArray, List.set_cons_zero, List.set_cons_succ])
        | (refine wpAs_pure (v := ?_) rfl rfl ?_ ?_; rotate_left; (intro W hC hE; clear hE; skip; clear hC; go_simp; with_reducible rfl); simp only [Act.put, List.setIfInBounds_toArray, List.set_cons_zero, List.set_cons_succ]))
      refine wpAs_pure_jump (v := .bool false) 0 rfl rfl rfl ?_ (by kernel_rfl) ?_
      · intro W hC hE
        clear hE hC
        first
          | (go_simp; done)
          | (go_simp; simp; omega)
          | (go_simp; simp_all; done)
      simp only [skipN, Act.put, List.drop_zero, List.setIfInBounds_toArray, List.set_cons_zero, List.set_cons_succ]
      refine wpAs_pure_jump (v := .bool false) 8 rfl rfl rfl ?_ (by kernel_rfl) ?_
      · intro W hC hE
        clear hE hC
        first
          | (go_simp; done)
          | (go_simp; simp; omega)
          | (go_simp; simp_all; done)
      simp only [skipN, Act.put, List.drop_succ_cons, List.drop_zero, List.setIfInBounds_toArray, List.set_cons_zero, List.set_cons_succ]
      iterate 1 (first
        | (refine wpAs_skip rfl ?_; simp only [Act.put, List.setIfInBounds_toArray, List.set_cons_zero, List.set_cons_succ])
        | (refine wpAs_pure (v := ?_) rfl rfl ?_ ?_; rotate_left; (intro W hC hE; clear hE; skip; clear hC; go_simp; with_reducible rfl); simp only [Act.put, List.setIfInBounds_toArray, List.set_cons_zero, List.set_cons_succ]))
      refine wpAs_end fun W hC hE => ?_
      have hC' := Lib.hid hC
      clear hE hC
      go_wp2_with fail
      go_meet
      exact ⟨rfl, hC'.out⟩
    subst hpe
    obtain ⟨hH, hL2⟩ := held_put hIx.out hz0.out hH1.out (by rw [hX11.out]) hw11l.out
    rw [hX11.out] at hH hL2
    have hr2 := Lib.hid (raV_all hH.ck)
    obtain ⟨nu2, hn2⟩ : ∃ n, (allO s2 m2).length = n := ⟨_, rfl⟩
    have h9 : (allO s2 m2).length ≤ 15625 := held_few hH
    have hf2 := Lib.hid (show nu2 < 1000000 by omega)
    have hH2 := Lib.hid hH
    replace hL2 := Lib.hid hL2
    replace hn2 := Lib.hid hn2
    clear hH h9
    have hd := Lib.hid (decide_eq_true (show allO s2 m2 = allO s1 m1 by rw [hL2.out, hL1.out]; exact putL_last (held_up hH0.out) rfl))
    refine wp_region_fx (by kernel_rfl) (fun W => Below w11.heap.size w11 W) (fun i => match i with
        | 5 => some (PhAll w11.heap.size nu2 (allO s2 m2))
        | 8 => some (PhAll w11.heap.size nu1 (allO s1 m1))
        | _ => none) (fun i => match i with
        | 9 => some (.bool true)
        | _ => none) (by kernel_rfl) (Below.refl _ _).drew (fun w w' h hb => h.trans (hb.mono h.size)) (fun j φ x W W' hp hx hb => by
          match j, hp with
          | 5, hp => cases hp; exact hx.below hb
          | 8, hp => cases hp; exact hx.below hb) ?_
    repeat (first
      | (refine wpAs_skip rfl ?_; simp only [Act.put, List.setIfInBounds_toArray, List.set_cons_zero, List.set_cons_succ])
      | (refine wpAs_pure (v := ?_) rfl rfl ?_ ?_; rotate_left; (intro W hC hE; clear hE; (obtain ⟨m0, m1', m2', m3', mg⟩ := (HG11.out.below hC).at 0 rfl); clear hC; go_simp; done); simp only [Act.put, List.setIfInBounds_toArray, List.set_cons_zero, List.set_cons_succ])
      | (refine wpAs_pure (v := ?_) rfl rfl ?_ ?_; rotate_left; (intro W hC hE; clear hE; (obtain ⟨m0, m1', m2', m3', mg⟩ := (HG11.out.below hC).at 0 rfl); clear hC; go_simp; with_reducible rfl); simp only [Act.put, List.setIfInBounds_toArray, List.set_cons_zero, List.set_cons_succ]))
    refine wpAs_act rfl rfl ?_ ?_
    · intro W hC hE
      clear hE
      refine does_enter (f := 18) (args := #[.agg #[.slice ta.1 ta.2.1 ta.2.2, .slice tb.1 tb.2.1 tb.2.2, .slice tc.1 tc.2.1 tc.2.2, .slice td.1 td.2.1 td.2.2], .int .i64 m2]) ?_ ?_
      · go_simp
      · exact all_ph ta tb tc td hr2.out hn2.out w11.heap.size W hC.size ((HG11.out.below hC).at 1 rfl)
    simp only [Act.put, List.setIfInBounds_toArray, List.set_cons_zero, List.set_cons_succ, envAdd]
    intro x5
    repeat (first
      | (refine wpAs_skip rfl ?_; simp only [Act.put, List.setIfInBounds_toArray, List.set_cons_zero, List.set_cons_succ])
      | (refine wpAs_pure (v := ?_) rfl rfl ?_ ?_; rotate_left; (intro W hC hE; clear hE; (obtain ⟨m0, m1', m2', m3', mg⟩ := (HG11.out.below hC).at 2 rfl); clear hC; go_simp; done); simp only [Act.put, List.setIfInBounds_toArray, List.set_cons_zero, List.set_cons_succ])
      | (refine wpAs_pure (v := ?_) rfl rfl ?_ ?_; rotate_left; (intro W hC hE; clear hE; (obtain ⟨m0, m1', m2', m3', mg⟩ := (HG11.out.below hC).at 2 rfl); clear hC; go_simp; with_reducible rfl); simp only [Act.put, List.setIfInBounds_toArray, List.set_cons_zero, List.set_cons_succ]))
    refine wpAs_act rfl rfl ?_ ?_
    · intro W hC hE
      clear hE
      refine does_enter (f := 18) (args := #[.agg #[.slice ra.1 ra.2.1 ra.2.2, .slice rb.1 rb.2.1 rb.2.2, .slice rc.1 rc.2.1 rc.2.2, .slice rd.1 rd.2.1 rd.2.2], .int .i64 m1]) ?_ ?_
      · go_simp
      · exact all_ph ra rb rc rd hr1.out hn1.out w11.heap.size W hC.size ((HG11.out.below hC).at 3 rfl)
    simp only [Act.put, List.setIfInBounds_toArray, List.set_cons_zero, List.set_cons_succ, envAdd]
    intro x8
    repeat (first
      | (refine wpAs_skip rfl ?_; simp only [Act.put, List.setIfInBounds_toArray, List.set_cons_zero, List.set_cons_succ])
      | (refine wpAs_pure (v := ?_) rfl rfl ?_ ?_; rotate_left; (intro W hC hE; clear hE; skip; clear hC; go_simp; done); simp only [Act.put, List.setIfInBounds_toArray, List.set_cons_zero, List.set_cons_succ])
      | (refine wpAs_pure (v := ?_) rfl rfl ?_ ?_; rotate_left; (intro W hC hE; clear hE; skip; clear hC; go_simp; with_reducible rfl); simp only [Act.put, List.setIfInBounds_toArray, List.set_cons_zero, List.set_cons_succ]))
    refine wpAs_fixed rfl rfl rfl ?_ ?_
    · intro W hC hE
      have h1 := hE.2.1 rfl
      have h2 := hE.1 rfl
      clear hE
      refine does_enter (f := 20) (args := #[x5, x8]) ?_ ?_
      · go_simp
      · refine (same_ph h1 h2 hn2.out hn1.out hf2.out hf1.out hd.out).mono ?_
        rintro e W' ⟨rfl, hg⟩
        exact ⟨_, rfl, rfl, hg⟩
    simp only [Act.put, List.setIfInBounds_toArray, List.set_cons_zero, List.set_cons_succ]
    repeat (first
      | (refine wpAs_skip rfl ?_; simp only [Act.put, List.setIfInBounds_toArray, List.set_cons_zero, List.set_cons_succ])
      | (refine wpAs_pure (v := ?_) rfl rfl ?_ ?_; rotate_left; (intro W hC hE; clear hE; skip; clear hC; go_simp; done); simp only [Act.put, List.setIfInBounds_toArray, List.set_cons_zero, List.set_cons_succ])
      | (refine wpAs_pure (v := ?_) rfl rfl ?_ ?_; rotate_left; (intro W hC hE; clear hE; skip; clear hC; go_simp; with_reducible rfl); simp only [Act.put, List.setIfInBounds_toArray, List.set_cons_zero, List.set_cons_succ]))
    refine wpAs_end fun W hC hE => ?_
    clear hE
    have hC' := Lib.hid hC
    clear hC
    go_wp2_with fail
    go_meet
    exact ⟨rfl, hC'.out⟩
  case rest =>
  obtain ⟨w12, rfl⟩ : ∃ w12 : World, w12 = wc := ⟨_, rfl⟩
  obtain ⟨rfl, hb⟩ := hcut
  have HG12 := Lib.hid (HG11.out.below hb)
  have B12 := Lib.hid (B11.out.trans (hb.mono B11.out.size))
  clear hb HG11 B11
  -- put y into r
  have hPut := putPut_any ra rb rc rd s1 m1 y F cf w12 (HG12.out.at 3 rfl) (HG12.out.at 9 rfl)
  unfold itV at hPut
  replace hPut := Lib.hid hPut
  obtain ⟨k0, k1, k2, k3, kg⟩ := HG12.out.at 2 rfl
  obtain ⟨n0, n1, n2, n3, n4, ng⟩ := HG12.out.at 4 rfl
  go_upto_region 13 with fail
  go_wp2_with fail
  with_reducible refine hPut.out.mono ?_
  rintro e w13 ⟨l14, fa, fb, fc, fd, hl14, rfl, hS, hb⟩
  obtain ⟨X, hX14⟩ : ∃ X, putS s1 m1 y l14 = X := ⟨_, rfl⟩
  obtain ⟨e3, s3, m3⟩ := X
  rw [hX14] at hS ⊢
  obtain ⟨w14, hw14, hg, hB, -, hs14⟩ := bag_four ((HG12.out.below hb).add (F := OldR _ s3) hS.drop (lasts_oldR _ _)) (Below.refl _ _) (.slice fa.1 fa.2.1 fa.2.2) (.slice fb.1 fb.2.1 fb.2.2) (.slice fc.1 fc.2.1 fc.2.2) (.slice fd.1 fd.2.1 fd.2.2) 29
  have HG14 := Lib.hid hg
  have B14 := Lib.hid (B12.out.trans ((hb.trans (hB.mono hb.size)).mono B12.out.size))
  have hw14l := Lib.hid hl14
  replace hX14 := Lib.hid hX14
  replace hs14 := Lib.hid hs14
  clear hS hb hB hg hl14 hPut k0 k1 k2 k3 kg n0 n1 n2 n3 n4 ng HG12 B12
  go_upto_region 14 with fail
  clear hw14
  -- put y into q
  have hPut := putPut_any qa qb qc qd s a y F cf w14 (HG14.out.at 9 rfl) (HG14.out.at 11 rfl)
  unfold itV at hPut
  replace hPut := Lib.hid hPut
  obtain ⟨k0, k1, k2, k3, kg⟩ := HG14.out.at 8 rfl
  obtain ⟨n0, n1, n2, n3, n4, ng⟩ := HG14.out.at 6 rfl
  go_wp2_with fail
  with_reducible refine hPut.out.mono ?_
  rintro e w15 ⟨l16, ga, gb, gc, gd, hl16, rfl, hS, hb⟩
  obtain ⟨X, hX16⟩ : ∃ X, putS s a y l16 = X := ⟨_, rfl⟩
  obtain ⟨e4, s4, m4⟩ := X
  rw [hX16] at hS ⊢
  obtain ⟨w16, hw16, hg, hB, -, hs16⟩ := bag_four ((HG14.out.below hb).add (F := OldR _ s4) hS.drop (lasts_oldR _ _)) (Below.refl _ _) (.slice ga.1 ga.2.1 ga.2.2) (.slice gb.1 gb.2.1 gb.2.2) (.slice gc.1 gc.2.1 gc.2.2) (.slice gd.1 gd.2.1 gd.2.2) 29
  have HG16 := Lib.hid hg
  have B16 := Lib.hid (B14.out.trans ((hb.trans (hB.mono hb.size)).mono B14.out.size))
  have hw16l := Lib.hid hl16
  replace hX16 := Lib.hid hX16
  replace hs16 := Lib.hid hs16
  clear hS hb hB hg hl16 hPut k0 k1 k2 k3 kg n0 n1 n2 n3 n4 ng HG14 B14
  go_upto_region 15 with fail
  clear hw16
  by_cases hpe : e3 = 0
  case neg =>
    have t0 : (e3 != 0) = true := by simpa using hpe
    go_wp2_with fail
    go_ret
    exact ⟨rfl, B16.out⟩
  subst hpe
  by_cases hpe : e4 = 0
  case neg =>
    have t0 : (e4 != 0) = true := by simpa using hpe
    go_wp2_with fail
    go_ret
    exact ⟨rfl, B16.out⟩
  subst hpe
  obtain ⟨hH, hL3⟩ := held_put hIy.out hz1.out hH1.out (by rw [hX14.out]) hw14l.out
  rw [hX14.out] at hH hL3
  have hr3 := Lib.hid (raV_all hH.ck)
  obtain ⟨nu3, hn3⟩ : ∃ n, (allO s3 m3).length = n := ⟨_, rfl⟩
  have h9 : (allO s3 m3).length ≤ 15625 := held_few hH
  have hf3 := Lib.hid (show nu3 < 1000000 by omega)
  have hH3 := Lib.hid hH
  replace hL3 := Lib.hid hL3
  replace hn3 := Lib.hid hn3
  clear hH h9
  obtain ⟨hH, hL4⟩ := held_put hIy.out hz1.out hH0.out (by rw [hX16.out]) hw16l.out
  rw [hX16.out] at hH hL4
  have hr4 := Lib.hid (raV_all hH.ck)
  obtain ⟨nu4, hn4⟩ : ∃ n, (allO s4 m4).length = n := ⟨_, rfl⟩
  have h9 : (allO s4 m4).length ≤ 15625 := held_few hH
  have hf4 := Lib.hid (show nu4 < 1000000 by omega)
  have hH4 := Lib.hid hH
  replace hL4 := Lib.hid hL4
  replace hn4 := Lib.hid hn4
  clear hH h9
  -- put x into g
  have hPut := putPut_any ga gb gc gd s4 m4 x E ce w16 (HG16.out.at 1 rfl) (HG16.out.at 12 rfl)
  unfold itV at hPut
  replace hPut := Lib.hid hPut
  obtain ⟨k0, k1, k2, k3, kg⟩ := HG16.out.at 0 rfl
  obtain ⟨n0, n1, n2, n3, n4, ng⟩ := HG16.out.at 9 rfl
  go_upto_region 17 with fail
  go_wp2_with fail
  with_reducible refine hPut.out.mono ?_
  rintro e w17 ⟨l18, ja, jb, jc, jd, hl18, rfl, hS, hb⟩
  obtain ⟨X, hX18⟩ : ∃ X, putS s4 m4 x l18 = X := ⟨_, rfl⟩
  obtain ⟨e5, s5, m5⟩ := X
  rw [hX18] at hS ⊢
  obtain ⟨w18, hw18, hg, hB, -, hs18⟩ := bag_four ((HG16.out.below hb).add (F := OldR _ s5) hS.drop (lasts_oldR _ _)) (Below.refl _ _) (.slice ja.1 ja.2.1 ja.2.2) (.slice jb.1 jb.2.1 jb.2.2) (.slice jc.1 jc.2.1 jc.2.2) (.slice jd.1 jd.2.1 jd.2.2) 29
  have HG18 := Lib.hid hg
  have B18 := Lib.hid (B16.out.trans ((hb.trans (hB.mono hb.size)).mono B16.out.size))
  have hw18l := Lib.hid hl18
  replace hX18 := Lib.hid hX18
  replace hs18 := Lib.hid hs18
  clear hS hb hB hg hl18 hPut k0 k1 k2 k3 kg n0 n1 n2 n3 n4 ng HG16 B16
  go_upto_region 18 with fail
  clear hw18
  by_cases hpe : e5 = 0
  case neg =>
    have t0 : (e5 != 0) = true := by simpa using hpe
    go_wp2_with fail
    go_ret
    exact ⟨rfl, B18.out⟩
  subst hpe
  obtain ⟨hH, hL5⟩ := held_put hIx.out hz0.out hH4.out (by rw [hX18.out]) hw18l.out
  rw [hX18.out] at hH hL5
  have hr5 := Lib.hid (raV_all hH.ck)
  obtain ⟨nu5, hn5⟩ : ∃ n, (allO s5 m5).length = n := ⟨_, rfl⟩
  have h9 : (allO s5 m5).length ≤ 15625 := held_few hH
  have hf5 := Lib.hid (show nu5 < 1000000 by omega)
  have hH5 := Lib.hid hH
  replace hL5 := Lib.hid hL5
  replace hn5 := Lib.hid hn5
  clear hH h9
  go_upto_region 20 with fail
  obtain ⟨n0, n1, n2, n3, n4, ng⟩ := HG18.out.at 11 rfl
  obtain ⟨o0, o1, o2, o3, o4, og⟩ := HG18.out.at 10 rfl
  have hke := key_eq x.1 y.1
  have hkg := key_guard
  unfold kyV at hke
  obtain ⟨b3, hb3⟩ : ∃ b, decide (x.1 = y.1) = b := ⟨_, rfl⟩
  rw [hb3] at hke
  replace hb3 := Lib.hid hb3
  cases b3 with
  | false =>
    have hd := Lib.hid (decide_eq_true (show allO s3 m3 = allO s5 m5 by rw [hL3.out, hL1.out, hL5.out, hL4.out]; exact putL_two (held_up hH0.out) (of_decide_eq_false hb3.out)))
    go_upto_region 21 with fail
    clear hke hkg n0 n1 n2 n3 n4 ng o0 o1 o2 o3 o4 og
    refine wp_region_fx (by kernel_rfl) (fun W => Below w18.heap.size w18 W) (fun i => match i with
        | 4 => some (PhAll w18.heap.size nu3 (allO s3 m3))
        | 7 => some (PhAll w18.heap.size nu5 (allO s5 m5))
        | _ => none) (fun i => match i with
        | 8 => some (.bool true)
        | _ => none) (by kernel_rfl) (Below.refl _ _).drew (fun w w' h hb => h.trans (hb.mono h.size)) (fun j φ x W W' hp hx hb => by
          match j, hp with
          | 4, hp => cases hp; exact hx.below hb
          | 7, hp => cases hp; exact hx.below hb) ?_
    repeat (first
      | (refine wpAs_skip rfl ?_; simp only [Act.put, List.setIfInBounds_toArray, List.set_cons_zero, List.set_cons_succ])
      | (refine wpAs_pure (v := ?_) rfl rfl ?_ ?_; rotate_left; (intro W hC hE; clear hE; (obtain ⟨m0, m1', m2', m3', mg⟩ := (HG18.out.below hC).at 4 rfl); clear hC; go_simp; done); simp only [Act.put, List.setIfInBounds_toArray, List.set_cons_zero, List.set_cons_succ])
      | (refine wpAs_pure (v := ?_) rfl rfl ?_ ?_; rotate_left; (intro W hC hE; clear hE; (obtain ⟨m0, m1', m2', m3', mg⟩ := (HG18.out.below hC).at 4 rfl); clear hC; go_simp; with_reducible rfl); simp only [Act.put, List.setIfInBounds_toArray, List.set_cons_zero, List.set_cons_succ]))
    refine wpAs_act rfl rfl ?_ ?_
    · intro W hC hE
      clear hE
      refine does_enter (f := 18) (args := #[.agg #[.slice fa.1 fa.2.1 fa.2.2, .slice fb.1 fb.2.1 fb.2.2, .slice fc.1 fc.2.1 fc.2.2, .slice fd.1 fd.2.1 fd.2.2], .int .i64 m3]) ?_ ?_
      · go_simp
      · exact all_ph fa fb fc fd hr3.out hn3.out w18.heap.size W hC.size ((HG18.out.below hC).at 5 rfl)
    simp only [Act.put, List.setIfInBounds_toArray, List.set_cons_zero, List.set_cons_succ, envAdd]
    intro x4
    repeat (first
      | (refine wpAs_skip rfl ?_; simp only [Act.put, List.setIfInBounds_toArray, List.set_cons_zero, List.set_cons_succ])
      | (refine wpAs_pure (v := ?_) rfl rfl ?_ ?_; rotate_left; (intro W hC hE; clear hE; (obtain ⟨m0, m1', m2', m3', mg⟩ := (HG18.out.below hC).at 0 rfl); clear hC; go_simp; done); simp only [Act.put, List.setIfInBounds_toArray, List.set_cons_zero, List.set_cons_succ])
      | (refine wpAs_pure (v := ?_) rfl rfl ?_ ?_; rotate_left; (intro W hC hE; clear hE; (obtain ⟨m0, m1', m2', m3', mg⟩ := (HG18.out.below hC).at 0 rfl); clear hC; go_simp; with_reducible rfl); simp only [Act.put, List.setIfInBounds_toArray, List.set_cons_zero, List.set_cons_succ]))
    refine wpAs_act rfl rfl ?_ ?_
    · intro W hC hE
      clear hE
      refine does_enter (f := 18) (args := #[.agg #[.slice ja.1 ja.2.1 ja.2.2, .slice jb.1 jb.2.1 jb.2.2, .slice jc.1 jc.2.1 jc.2.2, .slice jd.1 jd.2.1 jd.2.2], .int .i64 m5]) ?_ ?_
      · go_simp
      · exact all_ph ja jb jc jd hr5.out hn5.out w18.heap.size W hC.size ((HG18.out.below hC).at 1 rfl)
    simp only [Act.put, List.setIfInBounds_toArray, List.set_cons_zero, List.set_cons_succ, envAdd]
    intro x7
    repeat (first
      | (refine wpAs_skip rfl ?_; simp only [Act.put, List.setIfInBounds_toArray, List.set_cons_zero, List.set_cons_succ])
      | (refine wpAs_pure (v := ?_) rfl rfl ?_ ?_; rotate_left; (intro W hC hE; clear hE; skip; clear hC; go_simp; done); simp only [Act.put, List.setIfInBounds_toArray, List.set_cons_zero, List.set_cons_succ])
      | (refine wpAs_pure (v := ?_) rfl rfl ?_ ?_; rotate_left; (intro W hC hE; clear hE; skip; clear hC; go_simp; with_reducible rfl); simp only [Act.put, List.setIfInBounds_toArray, List.set_cons_zero, List.set_cons_succ]))
    refine wpAs_fixed rfl rfl rfl ?_ ?_
    · intro W hC hE
      have h1 := hE.2.1 rfl
      have h2 := hE.1 rfl
      clear hE
      refine does_enter (f := 20) (args := #[x4, x7]) ?_ ?_
      · go_simp
      · refine (same_ph h1 h2 hn3.out hn5.out hf3.out hf5.out hd.out).mono ?_
        rintro e W' ⟨rfl, hg⟩
        exact ⟨_, rfl, rfl, hg⟩
    simp only [Act.put, List.setIfInBounds_toArray, List.set_cons_zero, List.set_cons_succ]
    repeat (first
      | (refine wpAs_skip rfl ?_; simp only [Act.put, List.setIfInBounds_toArray, List.set_cons_zero, List.set_cons_succ])
      | (refine wpAs_pure (v := ?_) rfl rfl ?_ ?_; rotate_left; (intro W hC hE; clear hE; skip; clear hC; go_simp; done); simp only [Act.put, List.setIfInBounds_toArray, List.set_cons_zero, List.set_cons_succ])
      | (refine wpAs_pure (v := ?_) rfl rfl ?_ ?_; rotate_left; (intro W hC hE; clear hE; skip; clear hC; go_simp; with_reducible rfl); simp only [Act.put, List.setIfInBounds_toArray, List.set_cons_zero, List.set_cons_succ]))
    refine wpAs_end fun W hC hE => ?_
    clear hE
    have BF := Lib.hid (B18.out.trans (hC.mono B18.out.size))
    clear hC
    go_wp2_with fail
    go_ret
    exact ⟨rfl, BF.out⟩
  | true =>
    have hk := of_decide_eq_true hb3.out
    have hd := Lib.hid (decide_eq_true (show allO s3 m3 = allO s4 m4 by rw [hL3.out, hL1.out, hL4.out]; exact putL_last (held_up hH0.out) hk))
    have hd2 := Lib.hid (decide_eq_true (show allO s5 m5 = allO s1 m1 by rw [hL5.out, hL4.out, hL1.out]; exact putL_last (held_up hH0.out) hk.symm))
    replace hk := Lib.hid hk
    go_upto_region 22 with fail
    clear hke hkg n0 n1 n2 n3 n4 ng o0 o1 o2 o3 o4 og
    refine wp_region_fx (by kernel_rfl) (fun W => Below w18.heap.size w18 W) (fun i => match i with
        | 4 => some (PhAll w18.heap.size nu3 (allO s3 m3))
        | 7 => some (PhAll w18.heap.size nu4 (allO s4 m4))
        | 13 => some (PhAll w18.heap.size nu5 (allO s5 m5))
        | 16 => some (PhAll w18.heap.size nu1 (allO s1 m1))
        | _ => none) (fun i => match i with
        | 8 => some (.bool true)
        | 17 => some (.bool true)
        | _ => none) (by kernel_rfl) (Below.refl _ _).drew (fun w w' h hb => h.trans (hb.mono h.size)) (fun j φ x W W' hp hx hb => by
          match j, hp with
          | 4, hp => cases hp; exact hx.below hb
          | 7, hp => cases hp; exact hx.below hb
          | 13, hp => cases hp; exact hx.below hb
          | 16, hp => cases hp; exact hx.below hb) ?_
    repeat (first
      | (refine wpAs_skip rfl ?_; simp only [Act.put, List.setIfInBounds_toArray, List.set_cons_zero, List.set_cons_succ])
      | (refine wpAs_pure (v := ?_) rfl rfl ?_ ?_; rotate_left; (intro W hC hE; clear hE; (obtain ⟨m0, m1', m2', m3', mg⟩ := (HG18.out.below hC).at 4 rfl); clear hC; go_simp; done); simp only [Act.put, List.setIfInBounds_toArray, List.set_cons_zero, List.set_cons_succ])
      | (refine wpAs_pure (v := ?_) rfl rfl ?_ ?_; rotate_left; (intro W hC hE; clear hE; (obtain ⟨m0, m1', m2', m3', mg⟩ := (HG18.out.below hC).at 4 rfl); clear hC; go_simp; with_reducible rfl); simp only [Act.put, List.setIfInBounds_toArray, List.set_cons_zero, List.set_cons_succ]))
    refine wpAs_act rfl rfl ?_ ?_
    · intro W hC hE
      clear hE
      refine does_enter (f := 18) (args := #[.agg #[.slice fa.1 fa.2.1 fa.2.2, .slice fb.1 fb.2.1 fb.2.2, .slice fc.1 fc.2.1 fc.2.2, .slice fd.1 fd.2.1 fd.2.2], .int .i64 m3]) ?_ ?_
      · go_simp
      · exact all_ph fa fb fc fd hr3.out hn3.out w18.heap.size W hC.size ((HG18.out.below hC).at 5 rfl)
    simp only [Act.put, List.setIfInBounds_toArray, List.set_cons_zero, List.set_cons_succ, envAdd]
    intro x4
    repeat (first
      | (refine wpAs_skip rfl ?_; simp only [Act.put, List.setIfInBounds_toArray, List.set_cons_zero, List.set_cons_succ])
      | (refine wpAs_pure (v := ?_) rfl rfl ?_ ?_; rotate_left; (intro W hC hE; clear hE; (obtain ⟨m0, m1', m2', m3', mg⟩ := (HG18.out.below hC).at 2 rfl); clear hC; go_simp; done); simp only [Act.put, List.setIfInBounds_toArray, List.set_cons_zero, List.set_cons_succ])
      | (refine wpAs_pure (v := ?_) rfl rfl ?_ ?_; rotate_left; (intro W hC hE; clear hE; (obtain ⟨m0, m1', m2', m3', mg⟩ := (HG18.out.below hC).at 2 rfl); clear hC; go_simp; with_reducible rfl); simp only [Act.put, List.setIfInBounds_toArray, List.set_cons_zero, List.set_cons_succ]))
    refine wpAs_act rfl rfl ?_ ?_
    · intro W hC hE
      clear hE
      refine does_enter (f := 18) (args := #[.agg #[.slice ga.1 ga.2.1 ga.2.2, .slice gb.1 gb.2.1 gb.2.2, .slice gc.1 gc.2.1 gc.2.2, .slice gd.1 gd.2.1 gd.2.2], .int .i64 m4]) ?_ ?_
      · go_simp
      · exact all_ph ga gb gc gd hr4.out hn4.out w18.heap.size W hC.size ((HG18.out.below hC).at 3 rfl)
    simp only [Act.put, List.setIfInBounds_toArray, List.set_cons_zero, List.set_cons_succ, envAdd]
    intro x7
    repeat (first
      | (refine wpAs_skip rfl ?_; simp only [Act.put, List.setIfInBounds_toArray, List.set_cons_zero, List.set_cons_succ])
      | (refine wpAs_pure (v := ?_) rfl rfl ?_ ?_; rotate_left; (intro W hC hE; clear hE; skip; clear hC; go_simp; done); simp only [Act.put, List.setIfInBounds_toArray, List.set_cons_zero, List.set_cons_succ])
      | (refine wpAs_pure (v := ?_) rfl rfl ?_ ?_; rotate_left; (intro W hC hE; clear hE; skip; clear hC; go_simp; with_reducible rfl); simp only [Act.put, List.setIfInBounds_toArray, List.set_cons_zero, List.set_cons_succ]))
    refine wpAs_fixed rfl rfl rfl ?_ ?_
    · intro W hC hE
      have h1 := hE.2.1 rfl
      have h2 := hE.1 rfl
      clear hE
      refine does_enter (f := 20) (args := #[x4, x7]) ?_ ?_
      · go_simp
      · refine (same_ph h1 h2 hn3.out hn4.out hf3.out hf4.out hd.out).mono ?_
        rintro e W' ⟨rfl, hg⟩
        exact ⟨_, rfl, rfl, hg⟩
    simp only [Act.put, List.setIfInBounds_toArray, List.set_cons_zero, List.set_cons_succ]
    repeat (first
      | (refine wpAs_skip rfl ?_; simp only [Act.put, List.setIfInBounds_toArray, List.set_cons_zero, List.set_cons_succ])
      | (refine wpAs_pure (v := ?_) rfl rfl ?_ ?_; rotate_left; (intro W hC hE; clear hE; (obtain ⟨m0, m1', m2', m3', mg⟩ := (HG18.out.below hC).at 0 rfl); clear hC; go_simp; done); simp only [Act.put, List.setIfInBounds_toArray, List.set_cons_zero, List.set_cons_succ])
      | (refine wpAs_pure (v := ?_) rfl rfl ?_ ?_; rotate_left; (intro W hC hE; clear hE; (obtain ⟨m0, m1', m2', m3', mg⟩ := (HG18.out.below hC).at 0 rfl); clear hC; go_simp; with_reducible rfl); simp only [Act.put, List.setIfInBounds_toArray, List.set_cons_zero, List.set_cons_succ]))
    refine wpAs_act rfl rfl ?_ ?_
    · intro W hC hE
      clear hE
      refine does_enter (f := 18) (args := #[.agg #[.slice ja.1 ja.2.1 ja.2.2, .slice jb.1 jb.2.1 jb.2.2, .slice jc.1 jc.2.1 jc.2.2, .slice jd.1 jd.2.1 jd.2.2], .int .i64 m5]) ?_ ?_
      · go_simp
      · exact all_ph ja jb jc jd hr5.out hn5.out w18.heap.size W hC.size ((HG18.out.below hC).at 1 rfl)
    simp only [Act.put, List.setIfInBounds_toArray, List.set_cons_zero, List.set_cons_succ, envAdd]
    intro x13
    repeat (first
      | (refine wpAs_skip rfl ?_; simp only [Act.put, List.setIfInBounds_toArray, List.set_cons_zero, List.set_cons_succ])
      | (refine wpAs_pure (v := ?_) rfl rfl ?_ ?_; rotate_left; (intro W hC hE; clear hE; (obtain ⟨m0, m1', m2', m3', mg⟩ := (HG18.out.below hC).at 8 rfl); clear hC; go_simp; done); simp only [Act.put, List.setIfInBounds_toArray, List.set_cons_zero, List.set_cons_succ])
      | (refine wpAs_pure (v := ?_) rfl rfl ?_ ?_; rotate_left; (intro W hC hE; clear hE; (obtain ⟨m0, m1', m2', m3', mg⟩ := (HG18.out.below hC).at 8 rfl); clear hC; go_simp; with_reducible rfl); simp only [Act.put, List.setIfInBounds_toArray, List.set_cons_zero, List.set_cons_succ]))
    refine wpAs_act rfl rfl ?_ ?_
    · intro W hC hE
      clear hE
      refine does_enter (f := 18) (args := #[.agg #[.slice ra.1 ra.2.1 ra.2.2, .slice rb.1 rb.2.1 rb.2.2, .slice rc.1 rc.2.1 rc.2.2, .slice rd.1 rd.2.1 rd.2.2], .int .i64 m1]) ?_ ?_
      · go_simp
      · exact all_ph ra rb rc rd hr1.out hn1.out w18.heap.size W hC.size ((HG18.out.below hC).at 9 rfl)
    simp only [Act.put, List.setIfInBounds_toArray, List.set_cons_zero, List.set_cons_succ, envAdd]
    intro x16
    repeat (first
      | (refine wpAs_skip rfl ?_; simp only [Act.put, List.setIfInBounds_toArray, List.set_cons_zero, List.set_cons_succ])
      | (refine wpAs_pure (v := ?_) rfl rfl ?_ ?_; rotate_left; (intro W hC hE; clear hE; skip; clear hC; go_simp; done); simp only [Act.put, List.setIfInBounds_toArray, List.set_cons_zero, List.set_cons_succ])
      | (refine wpAs_pure (v := ?_) rfl rfl ?_ ?_; rotate_left; (intro W hC hE; clear hE; skip; clear hC; go_simp; with_reducible rfl); simp only [Act.put, List.setIfInBounds_toArray, List.set_cons_zero, List.set_cons_succ]))
    refine wpAs_fixed rfl rfl rfl ?_ ?_
    · intro W hC hE
      have h1 := hE.2.1 rfl
      have h2 := hE.1 rfl
      clear hE
      refine does_enter (f := 20) (args := #[x13, x16]) ?_ ?_
      · go_simp
      · refine (same_ph h1 h2 hn5.out hn1.out hf5.out hf1.out hd2.out).mono ?_
        rintro e W' ⟨rfl, hg⟩
        exact ⟨_, rfl, rfl, hg⟩
    simp only [Act.put, List.setIfInBounds_toArray, List.set_cons_zero, List.set_cons_succ]
    repeat (first
      | (refine wpAs_skip rfl ?_; simp only [Act.put, List.setIfInBounds_toArray, List.set_cons_zero, List.set_cons_succ])
      | (refine wpAs_pure (v := ?_) rfl rfl ?_ ?_; rotate_left; (intro W hC hE; clear hE; skip; clear hC; go_simp; done); simp only [Act.put, List.setIfInBounds_toArray, List.set_cons_zero, List.set_cons_succ])
      | (refine wpAs_pure (v := ?_) rfl rfl ?_ ?_; rotate_left; (intro W hC hE; clear hE; skip; clear hC; go_simp; with_reducible rfl); simp only [Act.put, List.setIfInBounds_toArray, List.set_cons_zero, List.set_cons_succ]))
    refine wpAs_end fun W hC hE => ?_
    clear hE
    have BF := Lib.hid (B18.out.trans (hC.mono B18.out.size))
    clear hC
    go_wp2_with fail
    go_ret
    exact ⟨rfl, BF.out⟩

/-! ### The row's step -/
set_option maxRecDepth 100000 in
theorem lifted (os : Os) (started : os.Started) (H : Type) (enc : TypeId × Value → H) :
    ReturnsInHanded {} Tryz.checked os 6 .any (Rows.putOrderSpec.pre6 enc Tryz.prog Tryz.f6 Rows.putOrderRow.domain false) (Rows.putOrderSpec.post enc Tryz.prog Tryz.f6 false true false false) := by
  refine returnsInHanded_of_change (C := Tryz.checked) own started (by kernel_rfl) Tryz.func6
    (ChangeSpec.witness6 (enc := enc) (C := Tryz.checked) false ⟨#[], #[.agg #[.slice none 0 0, .slice none 0 0, .slice none 0 0, .slice none 0 0], .int .i64 0, .agg #[.int .u8 0, .int .u32 0, .int .u32 0, .int .i64 0, .slice none 0 0], .agg #[.int .u8 0, .int .u32 0, .int .u32 0, .int .i64 0, .slice none 0 0]], []⟩ 8 (by kernel_rfl) (by kernel_rfl) (by kernel_rfl) (by kernel_rfl)) ?_
  intro W base args ds gs before hval0 hW _ _
  have hval : ∀ (j : Nat) t v, Tryz.f6.params[j]? = some t → args[j]? = some v → Value.okWide Tryz.prog W .any base t v := hval0
  have hW' := hW
  obtain ⟨p, q, hA0, hV, _, _, _⟩ := hW
  have hA : DataW.TrodAll enc Tryz.prog W 0 (fun _ => true) true Tryz.f6.params.toList args.toList ds p := hA0
  rw [Tryz.params6] at hA hval
  obtain ⟨v0, vs0, d0, ds0, p0, q0, hargs, rfl, _, h0, r0⟩ := trodAll_cons hA
  obtain ⟨v1, vs1, d1, ds1, p1, q1, rfl, rfl, _, h1, r1⟩ := trodAll_cons r0
  obtain ⟨v2, vs2, d2, ds2, p2, q2, rfl, rfl, _, h2, r2⟩ := trodAll_cons r1
  obtain ⟨v3, vs3, d3, ds3, p3, q3, rfl, rfl, _, h3, r3⟩ := trodAll_cons r2
  obtain ⟨rfl, rfl, _⟩ := trodAll_nil r3
  obtain rfl : args = #[v0, v1, v2, v3] := by cases args; simp_all
  obtain ⟨rfl, _⟩ := trodVars_none hV
  obtain ⟨d0x, y0⟩ := open_store (hval 0 29 v0 rfl rfl) h0
  obtain ⟨a1, rfl, _, _, w1⟩ := open_int Tryz.underlying3 (hval 1 3 v1 rfl rfl) h1
  obtain ⟨d2x, y2⟩ := open_item (hval 2 40 v2 rfl rfl) h2
  obtain ⟨d3x, y3⟩ := open_item (hval 3 40 v3 rfl rfl) h3
  clear hA0 hval0
  refine (walk v0 d0x a1 w1 v2 d2x v3 d3x W y0 y2 y3).mono fun e W' ⟨he, hb⟩ => ?_
  subst he
  exact ⟨_, rfl, law_post laidOut (by rw [Tryz.params6]; decide +kernel) (by kernel_rfl) Tryz.underlying4 rfl ⟨rfl, by simp [Rows.putOrderSpec], rfl⟩ hW' hb⟩

theorem over : Rows.putOrderRow.holds Tryz.pinned (OpenSpec.ofChange Rows.putOrderSpec) :=
  OpenClaim.holds_of_wide 6 Tryz.f6 rfl rfl rfl rfl rfl rfl rfl ⟨rfl, rfl, rfl, rfl, rfl⟩ rfl rfl rfl rfl rfl (by kernel_rfl) Tryz.func6 (by kernel_rfl)
    (of_decide_eq_true (by kernel_rfl)) (by unfold Func.isWrapper; first | (rw [if_pos (by decide +kernel)]; kernel_rfl) | (rw [if_neg (by decide +kernel)]; exact ⟨rfl, rfl⟩))
    (fun os started H enc _ => lifted os started H enc)

end Go.Proofs.YtogieepfimpdmaaGreat.putOrder
namespace Go.Proofs.YtogieepfimpdmaaGreat
theorem putOrder_proved : Rows.PutOrderSaid := putOrder.over
end Go.Proofs.YtogieepfimpdmaaGreat
