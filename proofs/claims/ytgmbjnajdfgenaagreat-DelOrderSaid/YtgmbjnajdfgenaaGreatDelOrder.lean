/-
  For every store, root and two keys DelOrder answers true and leaves its arguments as they were. No condition.
-/
import Derived.Test.YtgmbjnajdfgenaaGreatBnd6
import Derived.Deep.CutRange
open Go.Act renaming put → Qa
open Go.RowKit renaming Below → Qh
open Go.RowKit.Below renaming refl → Qb
open List renaming drop_zero → Qc, setIfInBounds_toArray → Qd, set_cons_zero → Qe, set_cons_succ → Qf, drop_succ_cons → Qg
namespace Go.Proofs.YtgmbjnajdfgenaaGreat.delOrder
open Go.ChangeShapes Go.WideShapes Go.RowKit

theorem own : ownKnob Tryz.prog.godebug = none := by kernel_rfl
theorem laidOut : laidOutB Tryz.prog = true := by kernel_rfl

set_option maxRecDepth 100000 in
set_option maxHeartbeats 8000000 in
theorem walk (v : Value) (s : Rm) (a : Int) (_hn : (Lit.int .i64 a).wf = true) (kk : Ky) (ll : Ky) (w : World) (h : Sto (Old w) w v s) :
    Calls Tryz.prog 7 #[v, .int .i64 a, kyV kk, kyV ll] w fun e w' => e = .returned (.bool true) /\ Qh w.heap.size w w' := by
  clear _hn;obtain ⟨qa, qb, qc, qd, rfl⟩ : ∃ qa qb qc qd : Option Addr × Nat × Nat, v = .agg #[.slice qa.1 qa.2.1 qa.2.2, .slice qb.1 qb.2.1 qb.2.2, .slice qc.1 qc.2.1 qc.2.2, .slice qd.1 qd.2.1 qd.2.2] := by
    obtain ⟨A, ca, B, cb, N, cn, L, cl, rfl, _⟩ := h.open;exact ⟨(A, _, ca), (B, _, cb), (N, _, cn), (L, _, cl), rfl⟩
  have HG0 : Bag w [Zl2 (.agg #[.slice qa.1 qa.2.1 qa.2.2, .slice qb.1 qb.2.1 qb.2.2, .slice qc.1 qc.2.1 qc.2.2, .slice qd.1 qd.2.1 qd.2.2]) s] := (Bag.nil w).add (F := Zl2 _ s) h (Xn _ _);obtain ⟨w1, hw1, hg1, hB1, -, hs1⟩ := Uc HG0 (Qb _ _) (.slice qa.1 qa.2.1 qa.2.2) (.slice qb.1 qb.2.1 qb.2.2) (.slice qc.1 qc.2.1 qc.2.2) (.slice qd.1 qd.2.1 qd.2.2) 29;obtain ⟨w2, hw2, hg2, hB2, -, hs2⟩ := Zna hg1 (Qb _ _) (.int .u8 (kk.1.toNat : Int)) (.int .u32 kk.2.1) (.int .u32 kk.2.2);obtain ⟨w3, hw3, hg3, hB3, -, hs3⟩ := Zna hg2 (Qb _ _) (.int .u8 (ll.1.toNat : Int)) (.int .u32 ll.2.1) (.int .u32 ll.2.2);have hB13 := hB1.trans ((hB2.trans (hB3.mono hB2.size)).mono hB1.size);have HG3 := Za hg3;have B3 := Za hB13;replace hs1 := Za hs1;replace hs2 := Za hs2;replace hs3 := Za hs3;clear HG0 hg1 hg2 hg3 h hB1 hB2 hB3 hB13;unfold kyV
  go_enter Tryz.func7, Tryz.ntmps7
  go_upto_region 1 with fail
  clear hw1 hw2 hw3
  go_wp2_with fail
  with_reducible refine (Z8m _).mono ?_
  rintro e w4 ⟨rfl, hb4⟩;have HG4 := Za (HG3.out.below hb4);have B4 := Za (B3.out.trans (hb4.mono B3.out.size));clear hb4 HG3 B3;obtain ⟨k0, k1, k2, k3, kg⟩ := HG4.out.at 2 rfl
  go_upto_region 2 with fail
  go_wp2_with fail
  with_reducible refine (Zwm _ s _ (HG4.out.at 3 rfl)).mono ?_
  rintro e w5 ⟨rfl, hb5⟩;have HG5 := Za (HG4.out.below hb5);have B5 := Za (B4.out.trans (hb5.mono B4.out.size));clear hb5 HG4 B4 k0 k1 k2 k3 kg;cases hgr : Zuc s with
  | true =>
    go_wp2_with fail
    go_ret;exact ⟨rfl, B5.out⟩
  | false =>
  clear hgr
  -- Find
  obtain ⟨k0, k1, k2, k3, kg⟩ := HG5.out.at 2 rfl;obtain ⟨t0, t1, t2, tg⟩ := HG5.out.at 1 rfl;obtain ⟨fe, hfe⟩ : ∃ q, fdE s a kk = q := ⟨_, rfl⟩
  obtain ⟨x, hy⟩ : ∃ q, fdV s a kk = q := ⟨_, rfl⟩
  have hFd := Za (Zfd _ s a kk _ (HG5.out.at 3 rfl));rw [hfe, hy] at hFd;unfold kyV at hFd;replace hfe := Za hfe;replace hy := Za hy
  go_upto_region 4 with fail
  go_wp2_with fail
  with_reducible refine hFd.out.mono ?_
  rintro e w6 ⟨E, ce, rfl, hit, hb⟩;have hIn := Za (show InI x by obtain ⟨d, _, h2, _⟩ := hit; exact h2);obtain ⟨w7, hw7, hg7, hB7, -, hs7⟩ := Zt0 ((HG5.out.below hb).add (F := Yb7 _ x) hit.drop (Zv0 _ _)) (Qb _ _) (.int .u8 (x.1.1.toNat : Int)) (.int .u32 x.1.2.1) (.int .u32 x.1.2.2) (.int .i64 x.2.1) (.slice E x.2.2.length ce);have HG7 := Za hg7;have B7 := Za (B5.out.trans ((hb.trans (hB7.mono hb.size)).mono B5.out.size));replace hs7 := Za hs7;clear hb hB7 hg7 hit HG5 B5 k0 k1 k2 k3 kg t0 t1 t2 tg hFd
  go_upto_region 5 with fail
  clear hw7;by_cases hk : fe = 0
  case neg =>
    have t0 : (fe != 0) = true := by simpa using hk
    go_wp2_with fail
    go_ret;exact ⟨rfl, B7.out⟩
  subst hk;have hck : ckE s a = 0 := by
    by_cases h0 : ckE s a = 0
    · exact h0
    · exact absurd (((Z0e (k := kk) h0).1.symm.trans hfe.out)) h0
  have hx0 : Zdv s a kk = some x := by
    cases hx : Zdv s a kk with
    | none => exact absurd ((Zqn hck hx).1.symm.trans hfe.out) (by decide)
    | some z => rw [<- (Zrb hck hx).2, hy.out]
  obtain ⟨hxin, hxk⟩ := (Z0z (Zam hck).1).1 hx0;replace hxin := Za hxin;replace hxk := Za hxk;replace hck := Za hck;clear hx0;obtain ⟨wA, hwA, gA, hsA, hBA⟩ := Ybt w7 (.int .i64 a) 3;have HGA := Za (HG7.out.below hBA);have BA := Za (B7.out.trans (hBA.mono B7.out.size));have hen := Za (Zpc qa qb qc qd s (some ⟨w7.heap.size, 0, none⟩) 1 1 [a] wA (HGA.out.at 5 rfl) (Z66 gA (Ybz hck.out)) rfl (by omega) (by omega) (fun r hr => by rw [List.mem_singleton.1 hr]; exact hck.out));replace hsA := Za hsA;obtain ⟨k0, k1, k2, k3, kg⟩ := HG7.out.at 4 rfl;clear gA hBA
  go_wp2_with fail
  with_reducible refine hen.out.mono ?_
  rintro e w8 ⟨V, res, hV1, hV2, hV3, rfl, hb8⟩;have HG8 := Za (HGA.out.below hb8);have B8 := Za (BA.out.trans (hb8.mono BA.out.size));clear hb8 hen k0 k1 k2 k3 kg HGA BA HG7 B7;cases res with
  | false =>
    go_wp2_with fail
    go_ret;exact ⟨rfl, B8.out⟩
  | true =>
  have hH0 := Za (Zrq hck.out hV1 hV2 (hV3.1 rfl));clear hV1 hV2 hV3
  -- Del of kk from q
  obtain ⟨k0, k1, k2, k3, kg⟩ := HG8.out.at 4 rfl;obtain ⟨t0, t1, t2, tg⟩ := HG8.out.at 3 rfl;obtain ⟨X, hX10⟩ : ∃ X, Zf5 s a kk = X := ⟨_, rfl⟩
  obtain ⟨e1, s1, m1⟩ := X;have hDl := Za (Za2 qa qb qc qd s a kk w8 (HG8.out.at 5 rfl));unfold Z3l kyV at hDl;rw [hX10] at hDl
  dsimp only at hDl
  replace hX10 := Za hX10
  go_upto_region 7 with fail
  go_wp2_with fail
  with_reducible refine hDl.out.mono ?_
  rintro e w9 ⟨ra, rb, rc, rd, rfl, hS, hb⟩;obtain ⟨w10, hw10, hg, hB, -, hs10⟩ := Uc ((HG8.out.below hb).add (F := Zl2 _ s1) hS.drop (Xn _ _)) (Qb _ _) (.slice ra.1 ra.2.1 ra.2.2) (.slice rb.1 rb.2.1 rb.2.2) (.slice rc.1 rc.2.1 rc.2.2) (.slice rd.1 rd.2.1 rd.2.2) 29;have HG10 := Za hg;have B10 := Za (B8.out.trans ((hb.trans (hB.mono hb.size)).mono B8.out.size));replace hs10 := Za hs10;clear hS hb hB hg hDl k0 k1 k2 k3 kg t0 t1 t2 tg HG8 B8
  go_upto_region 8 with fail
  clear hw10;by_cases hpe : e1 = 0
  case neg =>
    have t0 : (e1 != 0) = true := by simpa using hpe
    go_wp2_with fail
    go_ret;exact ⟨rfl, B10.out⟩
  subst hpe;obtain ⟨hH, hL, -⟩ := Zh0 (k := kk) hH0.out (by rw [hX10.out]);rw [hX10.out] at hH hL
  dsimp only at hH hL
  have hr1 := Za (Zek hH.ck);obtain ⟨nu1, hn1⟩ : ∃ n, (Vo s1 m1).length = n := ⟨_, rfl⟩
  have h9 : (Vo s1 m1).length <= 15625 := Zft hH;have hf1 := Za (show nu1 < 1000000 by omega);have hH1 := Za hH;have hL1 := Za hL;replace hn1 := Za hn1;clear hH hL h9
  -- Del of kk from r
  obtain ⟨k0, k1, k2, k3, kg⟩ := HG10.out.at 0 rfl;obtain ⟨t0, t1, t2, tg⟩ := HG10.out.at 5 rfl;obtain ⟨X, hX12⟩ : ∃ X, Zf5 s1 m1 kk = X := ⟨_, rfl⟩
  obtain ⟨e2, s2, m2⟩ := X;have hDl := Za (Za2 ra rb rc rd s1 m1 kk w10 (HG10.out.at 1 rfl));unfold Z3l kyV at hDl;rw [hX12] at hDl
  dsimp only at hDl
  replace hX12 := Za hX12
  go_upto_region 10 with fail
  go_wp2_with fail
  with_reducible refine hDl.out.mono ?_
  rintro e w11 ⟨ta, tb, tc, td, rfl, hS, hb⟩;obtain ⟨w12, hw12, hg, hB, -, hs12⟩ := Uc ((HG10.out.below hb).add (F := Zl2 _ s2) hS.drop (Xn _ _)) (Qb _ _) (.slice ta.1 ta.2.1 ta.2.2) (.slice tb.1 tb.2.1 tb.2.2) (.slice tc.1 tc.2.1 tc.2.2) (.slice td.1 td.2.1 td.2.2) 29;have HG12 := Za hg;have B12 := Za (B10.out.trans ((hb.trans (hB.mono hb.size)).mono B10.out.size));replace hs12 := Za hs12;clear hS hb hB hg hDl k0 k1 k2 k3 kg t0 t1 t2 tg HG10 B10
  go_upto_region 11 with fail
  clear hw12;obtain rfl : e2 = 6 := by
    have hno : Zdv s1 m1 kk = none := by
      cases hz : Zdv s1 m1 kk with
      | none => rfl
      | some z =>
        obtain ⟨z1, z2⟩ := (Z0z (Zam hH1.out.ck).1).1 hz;rw [hL1.out] at z1;exact absurd z2 (Z3p z z1)
    have := Zum hH1.out.ck hno;rw [hX12.out] at this;exact this
  obtain ⟨b0, hb0⟩ : ∃ b, (x.2.1 == 0) = b := ⟨_, rfl⟩
  obtain ⟨n0, n1, n2, n3, n4, ng⟩ := HG12.out.at 4 rfl;have hb0' := Za hb0
  go_upto_region 13 with fail
  go_cut [78] from 76 to 78 (fun xc wx => xc = .bool b0 /\ w12 = wx)
  case first =>
    go_wp2_with fail
    go_meet;exact ⟨rfl, rfl⟩
  case rest =>
  obtain ⟨rfl, rfl⟩ := hcut;replace hb0 := Za hb0
  go_upto_if 78 with fail
  go_cut [18, 19, 20] from 79 to 98 (fun _ _ _ wx => Qh w12.heap.size w12 wx)
  case first =>
    cases b0 with
    | false =>
      go_wp2_with fail
      go_meet;exact Qb _ _
    | true =>
      have hz0 : x.2.1 = 0 := by simpa using hb0'.out
      have hPut := Zlg ra rb rc rd s1 m1 x E ce w12 (HG12.out.at 3 rfl) (HG12.out.at 5 rfl);unfold itV at hPut;replace hPut := Za hPut;replace hz0 := Za hz0;obtain ⟨k0, k1, k2, k3, kg⟩ := HG12.out.at 2 rfl
      go_upto_region 14 with fail
      go_wp2_with fail
      with_reducible refine hPut.out.mono ?_
      rintro e wP ⟨lP, pa, pb, pc, pd, hlP, rfl, hS, hb⟩;obtain ⟨X, hXP⟩ : ∃ X, Zhd s1 m1 x lP = X := ⟨_, rfl⟩
      obtain ⟨pe, sP, mP⟩ := X;rw [hXP] at hS ⊢;obtain ⟨wQ, hwQ, hg, hB, -, hsQ⟩ := Uc ((HG12.out.below hb).add (F := Zl2 _ sP) hS.drop (Xn _ _)) (Qb _ _) (.slice pa.1 pa.2.1 pa.2.2) (.slice pb.1 pb.2.1 pb.2.2) (.slice pc.1 pc.2.1 pc.2.2) (.slice pd.1 pd.2.1 pd.2.2) 29;have HGQ := Za hg;have BQ := Za (hb.trans (hB.mono hb.size));have hlw := Za hlP;replace hXP := Za hXP;replace hsQ := Za hsQ;clear hS hb hB hg hlP hPut k0 k1 k2 k3 kg n0 n1 n2 n3 n4 ng
      go_upto_region 15 with fail
      clear hwQ;by_cases hpe : pe = 0
      case neg =>
        have t0 : (pe == 0) = false := by simpa using hpe
        refine wp_region_fx (by kernel_rfl) (fun W => Qh wQ.heap.size wQ W) (fun _ => none) (fun _ => none) (by kernel_rfl) (Qb _ _).drew (fun w w' h hb => h.trans (hb.mono h.size)) (fun j φ x W W' hp => by cases hp) ?_
        iterate 1 (first
          | (refine wpAs_skip rfl ?_; simp only[Qa,Zb,Zc,Zd])
          | (refine wpAs_pure (v := ?_) rfl rfl ?_ ?_; rotate_left; (intro W hC hE; clear hE; skip; clear hC; go_simp; with_reducible rfl); simp only[Qa,Zb,Zc,Zd]))
        refine Uw (v := .bool false) 0 rfl rfl rfl ?_ (by kernel_rfl) ?_
        · intro W hC hE
          clear hE hC
          first
            | (go_simp; done)
            | (go_simp; simp; omega)
            | (go_simp; simp_all; done)
        simp only [Zqt, Qa, Qc, Qd, Qe, Qf];refine Uw (v := .bool false) 8 rfl rfl rfl ?_ (by kernel_rfl) ?_
        · intro W hC hE
          clear hE hC
          first
            | (go_simp; done)
            | (go_simp; simp; omega)
            | (go_simp; simp_all; done)
        simp only [Zqt, Qa, Qg, Qc, Qd, Qe, Qf]
        iterate 1 (first
          | (refine wpAs_skip rfl ?_; simp only[Qa,Zb,Zc,Zd])
          | (refine wpAs_pure (v := ?_) rfl rfl ?_ ?_; rotate_left; (intro W hC hE; clear hE; skip; clear hC; go_simp; with_reducible rfl); simp only[Qa,Zb,Zc,Zd]))
        refine wpAs_end fun W hC hE=> ?_
        have hC' := Za (BQ.out.trans (hC.mono BQ.out.size));clear hE hC
        go_wp2_with fail
        go_meet;exact hC'.out
      subst hpe;obtain ⟨hH, hLP⟩ := Z28 hIn.out hz0.out hH1.out (by rw [hXP.out]) hlw.out;rw [hXP.out] at hH hLP
      dsimp only at hH hLP
      have hrP := Za (Zek hH.ck);have hr0 := Za (Zek hck.out);have h9 : (Vo s a).length <= 15625 := Zft hH0.out;obtain ⟨n, hn⟩ : ∃ n, (Vo s a).length = n := ⟨_, rfl⟩
      have hEq : Vo sP mP = Vo s a := by
        rw [hLP, hL1.out, <- hxk.out];exact Z8b (Z7y hH0.out) hxin.out
      rw [hEq] at hrP;have hn6 := Za (show n < 1000000 by omega);have hn' := Za hn;have hd := Za (decide_eq_true (rfl : Vo s a = Vo s a));clear hn h9 hH hLP hEq
      refine wp_region_fx (by kernel_rfl) (fun W => Qh wQ.heap.size wQ W) (fun i => match i with
          | 5 => some (Zkk wQ.heap.size n (Vo s a))
          | 8 => some (Zkk wQ.heap.size n (Vo s a))
          | _ => none) (fun i => match i with
          | 9 => some (.bool true)
          | _ => none) (by kernel_rfl) (Qb _ _).drew (fun w w' h hb => h.trans (hb.mono h.size)) (fun j φ x W W' hp hx hb => by
            match j, hp with
            | 5, hp => cases hp; exact hx.below hb
            | 8, hp => cases hp; exact hx.below hb) ?_
      repeat (first
        | (refine wpAs_skip rfl ?_; simp only[Qa,Zb,Zc,Zd])
        | (refine wpAs_pure (v := ?_) rfl rfl ?_ ?_; rotate_left; (intro W hC hE; clear hE; (obtain ⟨m0, m1', m2', m3', mg⟩ := (HGQ.out.below hC).at 0 rfl); clear hC; go_simp; first | done | with_reducible rfl); simp only[Qa,Zb,Zc,Zd]))
      refine wpAs_act rfl rfl ?_ ?_
      · intro W hC hE
        clear hE;refine does_enter (f := 13) (args := #[.agg #[.slice pa.1 pa.2.1 pa.2.2, .slice pb.1 pb.2.1 pb.2.2, .slice pc.1 pc.2.1 pc.2.2, .slice pd.1 pd.2.1 pd.2.2], .int .i64 mP]) ?_ ?_
        · go_simp
        · exact Zud pa pb pc pd hrP.out hn'.out wQ.heap.size W hC.size ((HGQ.out.below hC).at 1 rfl)
      simp only[Qa,Zb,Zc,Zd, envAdd];intro x5
      repeat (first
        | (refine wpAs_skip rfl ?_; simp only[Qa,Zb,Zc,Zd])
        | (refine wpAs_pure (v := ?_) rfl rfl ?_ ?_; rotate_left; (intro W hC hE; clear hE; (obtain ⟨m0, m1', m2', m3', mg⟩ := (HGQ.out.below hC).at 10 rfl); clear hC; go_simp; first | done | with_reducible rfl); simp only[Qa,Zb,Zc,Zd]))
      refine wpAs_act rfl rfl ?_ ?_
      · intro W hC hE
        clear hE;refine does_enter (f := 13) (args := #[.agg #[.slice qa.1 qa.2.1 qa.2.2, .slice qb.1 qb.2.1 qb.2.2, .slice qc.1 qc.2.1 qc.2.2, .slice qd.1 qd.2.1 qd.2.2], .int .i64 a]) ?_ ?_
        · go_simp
        · exact Zud qa qb qc qd hr0.out hn'.out wQ.heap.size W hC.size ((HGQ.out.below hC).at 11 rfl)
      simp only[Qa,Zb,Zc,Zd, envAdd];intro x8
      repeat (first
        | (refine wpAs_skip rfl ?_; simp only[Qa,Zb,Zc,Zd])
        | (refine wpAs_pure (v := ?_) rfl rfl ?_ ?_; rotate_left; (intro W hC hE; clear hE; skip; clear hC; go_simp; first | done | with_reducible rfl); simp only[Qa,Zb,Zc,Zd]))
      refine wpAs_fixed rfl rfl rfl ?_ ?_
      · intro W hC hE
        have h1 := hE.2.1 rfl;have h2 := hE.1 rfl;clear hE;refine does_enter (f := 21) (args := #[x5, x8]) ?_ ?_
        · go_simp
        · refine (Z0a h1 h2 hn'.out hn'.out hn6.out hn6.out hd.out).mono ?_
          rintro e W' ⟨rfl, hg⟩;exact ⟨_, rfl, rfl, hg⟩
      simp only[Qa,Zb,Zc,Zd]
      repeat (first
        | (refine wpAs_skip rfl ?_; simp only[Qa,Zb,Zc,Zd])
        | (refine wpAs_pure (v := ?_) rfl rfl ?_ ?_; rotate_left; (intro W hC hE; clear hE; skip; clear hC; go_simp; first | done | with_reducible rfl); simp only[Qa,Zb,Zc,Zd]))
      refine wpAs_end fun W hC hE=> ?_
      have hC' := Za (BQ.out.trans (hC.mono BQ.out.size));clear hE hC
      go_wp2_with fail
      go_meet;exact hC'.out
  case rest =>
  obtain ⟨w13, rfl⟩ : ∃ w13 : World, w13 = wc := ⟨_, rfl⟩
  have hb := hcut;have HG13 := Za (HG12.out.below hb);have B13 := Za (B12.out.trans (hb.mono B12.out.size));clear hcut hb HG12 B12 n0 n1 n2 n3 n4 ng
  -- Del of ll from r
  obtain ⟨k0, k1, k2, k3, kg⟩ := HG13.out.at 2 rfl;obtain ⟨t0, t1, t2, tg⟩ := HG13.out.at 6 rfl;obtain ⟨X, hX15⟩ : ∃ X, Zf5 s1 m1 ll = X := ⟨_, rfl⟩
  obtain ⟨e3, s3, m3⟩ := X;have hDl := Za (Za2 ra rb rc rd s1 m1 ll w13 (HG13.out.at 3 rfl));unfold Z3l kyV at hDl;rw [hX15] at hDl
  dsimp only at hDl
  replace hX15 := Za hX15
  go_upto_region 17 with fail
  go_wp2_with fail
  with_reducible refine hDl.out.mono ?_
  rintro e w14 ⟨fa, fb, fc, fd, rfl, hS, hb⟩;obtain ⟨w15, hw15, hg, hB, -, hs15⟩ := Uc ((HG13.out.below hb).add (F := Zl2 _ s3) hS.drop (Xn _ _)) (Qb _ _) (.slice fa.1 fa.2.1 fa.2.2) (.slice fb.1 fb.2.1 fb.2.2) (.slice fc.1 fc.2.1 fc.2.2) (.slice fd.1 fd.2.1 fd.2.2) 29;have HG15 := Za hg;have B15 := Za (B13.out.trans ((hb.trans (hB.mono hb.size)).mono B13.out.size));replace hs15 := Za hs15;clear hS hb hB hg hDl k0 k1 k2 k3 kg t0 t1 t2 tg HG13 B13
  -- Del of ll from q
  obtain ⟨k0, k1, k2, k3, kg⟩ := HG15.out.at 10 rfl;obtain ⟨t0, t1, t2, tg⟩ := HG15.out.at 8 rfl;obtain ⟨X, hX17⟩ : ∃ X, Zf5 s a ll = X := ⟨_, rfl⟩
  obtain ⟨e4, s4, m4⟩ := X;have hDl := Za (Za2 qa qb qc qd s a ll w15 (HG15.out.at 11 rfl));unfold Z3l kyV at hDl;rw [hX17] at hDl
  dsimp only at hDl
  replace hX17 := Za hX17
  go_upto_region 18 with fail
  clear hw15
  go_wp2_with fail
  with_reducible refine hDl.out.mono ?_
  rintro e w16 ⟨ga, gb, gc, gd, rfl, hS, hb⟩;obtain ⟨w17, hw17, hg, hB, -, hs17⟩ := Uc ((HG15.out.below hb).add (F := Zl2 _ s4) hS.drop (Xn _ _)) (Qb _ _) (.slice ga.1 ga.2.1 ga.2.2) (.slice gb.1 gb.2.1 gb.2.2) (.slice gc.1 gc.2.1 gc.2.2) (.slice gd.1 gd.2.1 gd.2.2) 29;have HG17 := Za hg;have B17 := Za (B15.out.trans ((hb.trans (hB.mono hb.size)).mono B15.out.size));replace hs17 := Za hs17;clear hS hb hB hg hDl k0 k1 k2 k3 kg t0 t1 t2 tg HG15 B15
  go_upto_region 19 with fail
  clear hw17;by_cases hpe : e3 = 0
  case neg =>
    have t0 : (e3 != 0) = true := by simpa using hpe
    go_wp2_with fail
    go_ret;exact ⟨rfl, B17.out⟩
  subst hpe;by_cases hpe : e4 = 0
  case neg =>
    have t0 : (e4 != 0) = true := by simpa using hpe
    go_wp2_with fail
    go_ret;exact ⟨rfl, B17.out⟩
  subst hpe;obtain ⟨hH, hL, -⟩ := Zh0 (k := ll) hH1.out (by rw [hX15.out]);rw [hX15.out] at hH hL
  dsimp only at hH hL
  have hr3 := Za (Zek hH.ck);obtain ⟨nu3, hn3⟩ : ∃ n, (Vo s3 m3).length = n := ⟨_, rfl⟩
  have h9 : (Vo s3 m3).length <= 15625 := Zft hH;have hf3 := Za (show nu3 < 1000000 by omega);have hH3 := Za hH;have hL3 := Za hL;replace hn3 := Za hn3;clear hH hL h9;obtain ⟨hH, hL, -⟩ := Zh0 (k := ll) hH0.out (by rw [hX17.out]);rw [hX17.out] at hH hL
  dsimp only at hH hL
  have hr4 := Za (Zek hH.ck);obtain ⟨nu4, hn4⟩ : ∃ n, (Vo s4 m4).length = n := ⟨_, rfl⟩
  have h9 : (Vo s4 m4).length <= 15625 := Zft hH;have hf4 := Za (show nu4 < 1000000 by omega);have hH4 := Za hH;have hL4 := Za hL;replace hn4 := Za hn4;clear hH hL h9
  -- Del of kk from g
  obtain ⟨k0, k1, k2, k3, kg⟩ := HG17.out.at 0 rfl;obtain ⟨t0, t1, t2, tg⟩ := HG17.out.at 11 rfl;obtain ⟨X, hX19⟩ : ∃ X, Zf5 s4 m4 kk = X := ⟨_, rfl⟩
  obtain ⟨e5, s5, m5⟩ := X;have hDl := Za (Za2 ga gb gc gd s4 m4 kk w17 (HG17.out.at 1 rfl));unfold Z3l kyV at hDl;rw [hX19] at hDl
  dsimp only at hDl
  replace hX19 := Za hX19
  go_upto_region 21 with fail
  go_wp2_with fail
  with_reducible refine hDl.out.mono ?_
  rintro e w18 ⟨ja, jb, jc, jd, rfl, hS, hb⟩;obtain ⟨w19, hw19, hg, hB, -, hs19⟩ := Uc ((HG17.out.below hb).add (F := Zl2 _ s5) hS.drop (Xn _ _)) (Qb _ _) (.slice ja.1 ja.2.1 ja.2.2) (.slice jb.1 jb.2.1 jb.2.2) (.slice jc.1 jc.2.1 jc.2.2) (.slice jd.1 jd.2.1 jd.2.2) 29;have HG19 := Za hg;have B19 := Za (B17.out.trans ((hb.trans (hB.mono hb.size)).mono B17.out.size));replace hs19 := Za hs19;clear hS hb hB hg hDl k0 k1 k2 k3 kg t0 t1 t2 tg HG17 B17
  go_upto_region 22 with fail
  clear hw19;by_cases hpe : e5 = 0
  case neg =>
    have t0 : (e5 != 0) = true := by simpa using hpe
    refine wp_region_fx (by kernel_rfl) (fun W => Qh w19.heap.size w19 W) (fun _ => none) (fun _ => none) (by kernel_rfl) (Qb _ _).drew (fun w w' h hb => h.trans (hb.mono h.size)) (fun j φ x W W' hp => by cases hp) ?_
    iterate 3 (first
      | (refine wpAs_skip rfl ?_; simp only[Qa,Zb,Zc,Zd])
      | (refine wpAs_pure (v := ?_) rfl rfl ?_ ?_; rotate_left; (intro W hC hE; clear hE; skip; clear hC; go_simp; with_reducible rfl); simp only[Qa,Zb,Zc,Zd]))
    refine Uw (v := .bool true) 0 rfl rfl rfl ?_ (by kernel_rfl) ?_
    · intro W hC hE
      clear hE hC
      first
        | (go_simp; done)
        | (go_simp; simp; omega)
        | (go_simp; simp_all; done)
    simp only [Zqt, Qa, Qc, Qd, Qe, Qf];refine Uw (v := .bool true) 7 rfl rfl rfl ?_ (by kernel_rfl) ?_
    · intro W hC hE
      clear hE hC
      first
        | (go_simp; done)
        | (go_simp; simp; omega)
        | (go_simp; simp_all; done)
    simp only [Zqt, Qa, Qg, Qc, Qd, Qe, Qf]
    iterate 3 (first
      | (refine wpAs_skip rfl ?_; simp only[Qa,Zb,Zc,Zd])
      | (refine wpAs_pure (v := ?_) rfl rfl ?_ ?_; rotate_left; (intro W hC hE; clear hE; skip; clear hC; go_simp; with_reducible rfl); simp only[Qa,Zb,Zc,Zd]))
    refine wpAs_end fun W hC hE=> ?_
    have BF := Za (B19.out.trans (hC.mono B19.out.size));clear hE hC
    go_wp2_with fail
    go_ret;exact ⟨rfl, BF.out⟩
  subst hpe;obtain ⟨hH, hL, -⟩ := Zh0 (k := kk) hH4.out (by rw [hX19.out]);rw [hX19.out] at hH hL
  dsimp only at hH hL
  have hr5 := Za (Zek hH.ck);obtain ⟨nu5, hn5⟩ : ∃ n, (Vo s5 m5).length = n := ⟨_, rfl⟩
  have h9 : (Vo s5 m5).length <= 15625 := Zft hH;have hf5 := Za (show nu5 < 1000000 by omega);have hH5 := Za hH;have hL5 := Za hL;replace hn5 := Za hn5;clear hH hL h9;have hd := Za (decide_eq_true (show Vo s3 m3 = Vo s5 m5 by rw [hL3.out, hL1.out, hL5.out, hL4.out]; exact Z7f ll kk _))
  refine wp_region_fx (by kernel_rfl) (fun W => Qh w19.heap.size w19 W) (fun i => match i with
      | 7 => some (Zkk w19.heap.size nu3 (Vo s3 m3))
      | 10 => some (Zkk w19.heap.size nu5 (Vo s5 m5))
      | _ => none) (fun i => match i with
      | 11 => some (.bool true)
      | _ => none) (by kernel_rfl) (Qb _ _).drew (fun w w' h hb => h.trans (hb.mono h.size)) (fun j φ x W W' hp hx hb => by
        match j, hp with
        | 7, hp => cases hp; exact hx.below hb
        | 10, hp => cases hp; exact hx.below hb) ?_
  repeat (first
    | (refine wpAs_skip rfl ?_; simp only[Qa,Zb,Zc,Zd])
    | (refine wpAs_pure (v := ?_) rfl rfl ?_ ?_; rotate_left; (intro W hC hE; clear hE; (obtain ⟨m0, m1', m2', m3', mg⟩ := (HG19.out.below hC).at 4 rfl); clear hC; go_simp; first | done | with_reducible rfl); simp only[Qa,Zb,Zc,Zd]))
  refine wpAs_act rfl rfl ?_ ?_
  · intro W hC hE
    clear hE;refine does_enter (f := 13) (args := #[.agg #[.slice fa.1 fa.2.1 fa.2.2, .slice fb.1 fb.2.1 fb.2.2, .slice fc.1 fc.2.1 fc.2.2, .slice fd.1 fd.2.1 fd.2.2], .int .i64 m3]) ?_ ?_
    · go_simp
    · exact Zud fa fb fc fd hr3.out hn3.out w19.heap.size W hC.size ((HG19.out.below hC).at 5 rfl)
  simp only[Qa,Zb,Zc,Zd, envAdd];intro x4
  repeat (first
    | (refine wpAs_skip rfl ?_; simp only[Qa,Zb,Zc,Zd])
    | (refine wpAs_pure (v := ?_) rfl rfl ?_ ?_; rotate_left; (intro W hC hE; clear hE; (obtain ⟨m0, m1', m2', m3', mg⟩ := (HG19.out.below hC).at 0 rfl); clear hC; go_simp; first | done | with_reducible rfl); simp only[Qa,Zb,Zc,Zd]))
  refine wpAs_act rfl rfl ?_ ?_
  · intro W hC hE
    clear hE;refine does_enter (f := 13) (args := #[.agg #[.slice ja.1 ja.2.1 ja.2.2, .slice jb.1 jb.2.1 jb.2.2, .slice jc.1 jc.2.1 jc.2.2, .slice jd.1 jd.2.1 jd.2.2], .int .i64 m5]) ?_ ?_
    · go_simp
    · exact Zud ja jb jc jd hr5.out hn5.out w19.heap.size W hC.size ((HG19.out.below hC).at 1 rfl)
  simp only[Qa,Zb,Zc,Zd, envAdd];intro x7
  repeat (first
    | (refine wpAs_skip rfl ?_; simp only[Qa,Zb,Zc,Zd])
    | (refine wpAs_pure (v := ?_) rfl rfl ?_ ?_; rotate_left; (intro W hC hE; clear hE; skip; clear hC; go_simp; first | done | with_reducible rfl); simp only[Qa,Zb,Zc,Zd]))
  refine wpAs_fixed rfl rfl rfl ?_ ?_
  · intro W hC hE
    have h1 := hE.2.1 rfl;have h2 := hE.1 rfl;clear hE;refine does_enter (f := 21) (args := #[x4, x7]) ?_ ?_
    · go_simp
    · refine (Z0a h1 h2 hn3.out hn5.out hf3.out hf5.out hd.out).mono ?_
      rintro e W' ⟨rfl, hg⟩;exact ⟨_, rfl, rfl, hg⟩
  simp only[Qa,Zb,Zc,Zd]
  repeat (first
    | (refine wpAs_skip rfl ?_; simp only[Qa,Zb,Zc,Zd])
    | (refine wpAs_pure (v := ?_) rfl rfl ?_ ?_; rotate_left; (intro W hC hE; clear hE; skip; clear hC; go_simp; first | done | with_reducible rfl); simp only[Qa,Zb,Zc,Zd]))
  refine wpAs_end fun W hC hE=> ?_
  clear hE;have BF := Za (B19.out.trans (hC.mono B19.out.size));clear hC
  go_wp2_with fail
  go_ret;exact ⟨rfl, BF.out⟩

/-! ### The row's step -/
set_option maxRecDepth 100000 in
theorem lifted (os : Os) (started : os.Started) (H : Type) (enc : TypeId × Value -> H) :
    ReturnsInHanded {} Tryz.checked os 7 .any (Rows.delOrderSpec.pre6 enc Tryz.prog Tryz.f7 Rows.delOrderRow.domain false) (Rows.delOrderSpec.post enc Tryz.prog Tryz.f7 false true false false) := by
  refine returnsInHanded_of_change (C := Tryz.checked) own started (by kernel_rfl) Tryz.func7
    (ChangeSpec.witness6 (enc := enc) (C := Tryz.checked) false ⟨#[], #[.agg #[.slice none 0 0, .slice none 0 0, .slice none 0 0, .slice none 0 0], .int .i64 0, .agg #[.int .u8 0, .int .u32 0, .int .u32 0], .agg #[.int .u8 0, .int .u32 0, .int .u32 0]], []⟩ 8 (by kernel_rfl) (by kernel_rfl) (by kernel_rfl) (by kernel_rfl)) ?_
  intro W base args ds gs before hval0 hW _ _;have hval : ∀ (j : Nat) t v, Tryz.f7.params[j]? = some t -> args[j]? = some v -> Value.okWide Tryz.prog W .any base t v := hval0;have hW' := hW;obtain ⟨p, q, hA0, hV, _, _, _⟩ := hW;have hA : DataW.TrodAll enc Tryz.prog W 0 (fun _ => true) true Tryz.f7.params.toList args.toList ds p := hA0;rw [Tryz.params7] at hA hval;obtain ⟨v0, vs0, d0, ds0, p0, q0, hargs, rfl, _, h0, r0⟩ := trodAll_cons hA;obtain ⟨v1, vs1, d1, ds1, p1, q1, rfl, rfl, _, h1, r1⟩ := trodAll_cons r0;obtain ⟨v2, vs2, d2, ds2, p2, q2, rfl, rfl, _, h2, r2⟩ := trodAll_cons r1;obtain ⟨v3, vs3, d3, ds3, p3, q3, rfl, rfl, _, h3, r3⟩ := trodAll_cons r2;obtain ⟨rfl, rfl, _⟩ := trodAll_nil r3;obtain rfl : args = #[v0, v1, v2, v3] := by cases args; simp_all
  obtain ⟨rfl, _⟩ := trodVars_none hV;obtain ⟨d0x, y0⟩ := Zu4 (hval 0 29 v0 rfl rfl) h0;obtain ⟨a1, rfl, _, _, w1⟩ := open_int Tryz.underlying3 (hval 1 3 v1 rfl rfl) h1;obtain ⟨k2x, rfl, _⟩ := Zsl (hval 2 37 v2 rfl rfl) h2;obtain ⟨k3x, rfl, _⟩ := Zsl (hval 3 37 v3 rfl rfl) h3;clear hA0 hval0;refine (walk v0 d0x a1 w1 k2x k3x W y0).mono fun e W' ⟨he, hb⟩=> ?_
  subst he;exact ⟨_, rfl, Z2x laidOut (by rw [Tryz.params7]; decide +kernel) (by kernel_rfl) Tryz.underlying4 rfl ⟨rfl, by simp [Rows.delOrderSpec], rfl⟩ hW' hb⟩

theorem over : Rows.delOrderRow.holds Tryz.pinned (OpenSpec.ofChange Rows.delOrderSpec) :=
  OpenClaim.holds_of_wide 7 Tryz.f7 rfl rfl rfl rfl rfl rfl rfl ⟨rfl, rfl, rfl, rfl, rfl⟩ rfl rfl rfl rfl rfl (by kernel_rfl) Tryz.func7 (by kernel_rfl)
    (of_decide_eq_true (by kernel_rfl)) (by unfold Func.isWrapper; first | (rw [if_pos (by decide +kernel)]; kernel_rfl) | (rw [if_neg (by decide +kernel)]; exact ⟨rfl, rfl⟩))
    (fun os started H enc _ => lifted os started H enc)

end Go.Proofs.YtgmbjnajdfgenaaGreat.delOrder
namespace Go.Proofs.YtgmbjnajdfgenaaGreat
theorem delOrder_proved : Rows.DelOrderSaid := delOrder.over
end Go.Proofs.YtgmbjnajdfgenaaGreat
