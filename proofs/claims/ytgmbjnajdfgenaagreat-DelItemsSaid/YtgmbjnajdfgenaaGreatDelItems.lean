/-
  For every store, two roots and a key DelItems answers true and leaves its arguments as they were. No condition.
-/
import Derived.Test.YtgmbjnajdfgenaaGreatBnd7
import Derived.Deep.CutRange
open Go.Act renaming put → Qa
open Go.RowKit renaming Below → Qf
open Go.RowKit.Below renaming refl → Qb
open List renaming mem_cons → Qd, not_mem_nil → Qe
open Nat renaming le_refl → Qc
namespace Go.Proofs.YtgmbjnajdfgenaaGreat.delItems
open Go.ChangeShapes Go.WideShapes Go.RowKit

theorem own : ownKnob Tryz.prog.godebug = none := by kernel_rfl
theorem laidOut : laidOutB Tryz.prog = true := by kernel_rfl

set_option maxRecDepth 100000 in
set_option maxHeartbeats 16000000 in
theorem walk (v : Value) (s : Rm) (a : Int) (_hn : (Lit.int .i64 a).wf = true) (b : Int) (_hn2 : (Lit.int .i64 b).wf = true) (kk : Ky) (w : World) (h : Sto (Old w) w v s) :
    Calls Tryz.prog 5 #[v, .int .i64 a, .int .i64 b, kyV kk] w fun e w' => e = .returned (.bool true) /\ Qf w.heap.size w w' := by
  clear _hn _hn2;obtain ⟨qa, qb, qc, qd, rfl⟩ : ∃ qa qb qc qd : Option Addr × Nat × Nat, v = .agg #[.slice qa.1 qa.2.1 qa.2.2, .slice qb.1 qb.2.1 qb.2.2, .slice qc.1 qc.2.1 qc.2.2, .slice qd.1 qd.2.1 qd.2.2] := by
    obtain ⟨A, ca, B, cb, N, cn, L, cl, rfl, _⟩ := h.open;exact ⟨(A, _, ca), (B, _, cb), (N, _, cn), (L, _, cl), rfl⟩
  have HG0 : Bag w [Zs4 (.agg #[.slice qa.1 qa.2.1 qa.2.2, .slice qb.1 qb.2.1 qb.2.2, .slice qc.1 qc.2.1 qc.2.2, .slice qd.1 qd.2.1 qd.2.2]) s] := (Bag.nil w).add (F := Zs4 _ s) h (Ut _ _);obtain ⟨w1, hw1, hg1, hB1, -, hs1⟩ := Zd9 HG0 (Qb _ _) (.slice qa.1 qa.2.1 qa.2.2) (.slice qb.1 qb.2.1 qb.2.2) (.slice qc.1 qc.2.1 qc.2.2) (.slice qd.1 qd.2.1 qd.2.2) 29;obtain ⟨w2, hw2, hg2, hB2, -, hs2⟩ := Zqy hg1 (Qb _ _) (.int .u8 (kk.1.toNat : Int)) (.int .u32 kk.2.1) (.int .u32 kk.2.2);have hB12 := hB1.trans (hB2.mono hB1.size);have HG2 := Za hg2;have B2 := Za hB12;replace hs1 := Za hs1;replace hs2 := Za hs2;clear HG0 hg1 hg2 h hB1 hB2 hB12;unfold kyV
  go_enter Tryz.func5, Tryz.ntmps5
  go_upto_region 1 with fail
  clear hw1 hw2
  go_wp2_with fail
  with_reducible refine (Z6w _).mono ?_
  rintro e w3 ⟨rfl, hb3⟩;have HG3 := Za (HG2.out.below hb3);have B3 := Za (B2.out.trans (hb3.mono B2.out.size));clear hb3 HG2 B2;obtain ⟨ck, hck⟩ : ∃ q, ckE s a = q := ⟨_, rfl⟩
  obtain ⟨hh, hhh⟩ : ∃ q, ckH s a = q := ⟨_, rfl⟩
  obtain ⟨cb, hcb⟩ : ∃ q, ckE s b = q := ⟨_, rfl⟩
  obtain ⟨hhb, hhhb⟩ : ∃ q, ckH s b = q := ⟨_, rfl⟩
  have hCk := Za (Xp _ s a _ (HG3.out.at 2 rfl));rw [hck, hhh] at hCk;have hCb := Za (fun v W hW => Xp v s b W hW);rw [hcb, hhhb] at hCb;replace hck := Za hck;replace hhh := Za hhh;replace hcb := Za hcb;replace hhhb := Za hhhb;obtain ⟨k0, k1, k2, k3, kg⟩ := HG3.out.at 1 rfl
  go_upto_region 4 with fail
  go_wp2_with fail
  with_reducible refine hCk.out.mono ?_
  rintro e w4 ⟨rfl, hb4⟩;have HG4 := Za (HG3.out.below hb4);have B4 := Za (B3.out.trans (hb4.mono B3.out.size));clear hb4 HG3 B3 k0 k1 k2 k3 kg hCk;obtain ⟨k0, k1, k2, k3, kg⟩ := HG4.out.at 1 rfl
  go_wp2_with fail
  with_reducible refine (hCb.out _ _ (HG4.out.at 2 rfl)).mono ?_
  rintro e w5 ⟨rfl, hb5⟩;have HG5 := Za (HG4.out.below hb5);have B5 := Za (B4.out.trans (hb5.mono B4.out.size));clear hb5 HG4 B4 k0 k1 k2 k3 kg hCb;obtain ⟨k0, k1, k2, k3, kg⟩ := HG5.out.at 1 rfl
  go_wp2_with fail
  with_reducible refine (Zvn _ s _ (HG5.out.at 2 rfl)).mono ?_
  rintro e w6 ⟨rfl, hb6⟩;have HG6 := Za (HG5.out.below hb6);have B6 := Za (B5.out.trans (hb6.mono B5.out.size));clear hb6 HG5 B5 k0 k1 k2 k3 kg;cases hgr : Zsy s with
  | true =>
    go_wp2_with fail
    go_ret;exact ⟨rfl, B6.out⟩
  | false =>
  clear hgr;by_cases hk : ck = 0
  case neg =>
    have t0 : (ck != 0) = true := by simpa using hk
    go_wp2_with fail
    go_ret;exact ⟨rfl, B6.out⟩
  subst hk;by_cases hk : cb = 0
  case neg =>
    have t0 : (cb != 0) = true := by simpa using hk
    go_wp2_with fail
    go_ret;exact ⟨rfl, B6.out⟩
  subst hk;obtain ⟨wA, hwA, gA, hsA, hBA⟩ : ∃ w1, w6.alloc (.cells #[.int .i64 a, .int .i64 b] 3) = w1 /\ w1.heap[w6.heap.size]? = some (.cells #[.int .i64 a, .int .i64 b] 3 (0, 0)) /\ w1.heap.size = w6.heap.size + 1 /\ Qf w6.heap.size w6 w1 := ⟨_, rfl, heap_alloc_new _ _, by simp, (Qb _ _).alloc (Qc _) _⟩
  have HGA := Za (HG6.out.below hBA);have BA := Za (B6.out.trans (hBA.mono B6.out.size));have hrt : Hid (∀ r ∈ [a, b], ckE s r = 0) := Za fun r hr => by
    simp only [Qd, Qe, or_false] at hr;rcases hr with rfl | rfl
    · exact hck.out
    · exact hcb.out
  have hen := Za (Zhe qa qb qc qd s (some ⟨w6.heap.size, 0, none⟩) 2 2 [a, b] wA (HGA.out.at 2 rfl) (Zsp gA (Z5k hck.out) (Z5k hcb.out)) rfl (by omega) (by omega) hrt.out);replace hsA := Za hsA;obtain ⟨k0, k1, k2, k3, kg⟩ := HG6.out.at 1 rfl;clear gA hBA
  go_wp2_with fail
  with_reducible refine hen.out.mono ?_
  rintro e w11 ⟨V, res, hV1, hV2, hV3, rfl, hb11⟩;have HG11 := Za (HGA.out.below hb11);have B11 := Za (BA.out.trans (hb11.mono BA.out.size));clear hb11 hen k0 k1 k2 k3 kg HGA BA HG6 B6;cases res with
  | false =>
    go_wp2_with fail
    go_ret;exact ⟨rfl, B11.out⟩
  | true =>
  have hR2 := Za (Zq5 (k := kk) hck.out hcb.out hV1 hV2 (hV3.1 rfl));clear hV1 hV2 hV3
  -- Del
  obtain ⟨X, hX⟩ : ∃ X, Zc5 s a kk = X := ⟨_, rfl⟩
  obtain ⟨pe, ps, pn2⟩ := X;have hDl := Za (Zkz qa qb qc qd s a kk w11 (HG11.out.at 2 rfl));unfold Yaf kyV at hDl;rw [hX] at hDl hR2
  dsimp only at hDl hR2
  replace hX := Za hX;obtain ⟨k0, k1, k2, k3, kg⟩ := HG11.out.at 1 rfl;obtain ⟨t0, t1, t2, tg⟩ := HG11.out.at 0 rfl
  go_upto_region 8 with fail
  go_wp2_with fail
  with_reducible refine hDl.out.mono ?_
  rintro e w12 ⟨ra, rb, rc, rd, rfl, hS, hb⟩;obtain ⟨w13, hw13, hg13, hB13, -, hs13⟩ := Zd9 ((HG11.out.below hb).add (F := Zs4 _ ps) hS.drop (Ut _ _)) (Qb _ _) (.slice ra.1 ra.2.1 ra.2.2) (.slice rb.1 rb.2.1 rb.2.2) (.slice rc.1 rc.2.1 rc.2.2) (.slice rd.1 rd.2.1 rd.2.2) 29;have HG13 := Za hg13;have B13 := Za (B11.out.trans ((hb.trans (hB13.mono hb.size)).mono B11.out.size));replace hs13 := Za hs13;clear hS hb hB13 hg13 hDl k0 k1 k2 k3 kg t0 t1 t2 tg HG11 B11
  -- Find
  obtain ⟨k0, k1, k2, k3, kg⟩ := HG13.out.at 3 rfl;obtain ⟨t0, t1, t2, tg⟩ := HG13.out.at 2 rfl;obtain ⟨fe, hfe⟩ : ∃ q, fdE s a kk = q := ⟨_, rfl⟩
  obtain ⟨y, hy⟩ : ∃ q, fdV s a kk = q := ⟨_, rfl⟩
  have hFd := Za (Zfp _ s a kk _ (HG13.out.at 4 rfl));rw [hfe, hy] at hFd;unfold kyV at hFd;replace hfe := Za hfe;replace hy := Za hy
  go_upto_region 9 with fail
  clear hw13
  go_wp2_with fail
  with_reducible refine hFd.out.mono ?_
  rintro e w14 ⟨P, pc, rfl, -, hb⟩;obtain ⟨w15, hw15, -, -, -, -, -, hs15, hB15, -⟩ := Z8 w14 (.int .u8 (y.1.1.toNat : Int)) (.int .u32 y.1.2.1) (.int .u32 y.1.2.2) (.int .i64 y.2.1) (.slice P y.2.2.length pc) 54;have HG15 := Za ((HG13.out.below hb).below hB15);have B15 := Za (B13.out.trans ((hb.trans (hB15.mono hb.size)).mono B13.out.size));replace hs15 := Za hs15;clear hb hB15 HG13 B13 k0 k1 k2 k3 kg t0 t1 t2 tg hFd
  go_upto_region 10 with fail
  clear hw15;by_cases hpe : pe = 0
  case neg =>
    have t0 : (pe != 0) = true := by simpa using hpe
    obtain ⟨m0, m1, m2, m3, mg⟩ := HG15.out.at 0 rfl;rcases hR2.out with ⟨_, h3, h4⟩ | ⟨h0, _⟩
    case inr => exact absurd h0 hpe
    have hr0 : Hid (rc.2.1 = 0) := Za (by
      obtain ⟨_, hN, _⟩ := (HG15.out.at 1 rfl : Sto (Old w15) w15 (.agg #[.slice ra.1 ra.2.1 ra.2.2, .slice rb.1 rb.2.1 rb.2.2, .slice rc.1 rc.2.1 rc.2.2, .slice rd.1 rd.2.1 rd.2.2]) ps).parts;rw [h4] at hN;obtain ⟨A', cap', e, _, _, _⟩ := Vd (B := w15.heap.size) (fun p hp => hp) hN;simp only [Value.slice.injEq] at e
      exact e.2.1)
    have hc0 : ((rc.2.1 : Int) == 0) = true := by rw [hr0.out]; rfl
    clear h4;rcases h3 with ⟨rfl, hno⟩ | rfl | rfl
    · have h6 := (Zr5 hck.out hno).1
      rw [hfe.out] at h6;subst h6
      go_wp2_with fail
      go_ret;exact ⟨rfl, B15.out⟩
    · go_wp2_with fail
      go_ret;exact ⟨rfl, B15.out⟩
    · go_wp2_with fail
      go_ret;exact ⟨rfl, B15.out⟩
  subst hpe
  have hR3 : Hid ((∃ x, Zf9 s a kk = some x) /\ ckE ps pn2 = 0 /\ ckH ps pn2 <= ckH s a /\ ckE ps b = 0 /\ Zbk ps pn2 = Zdk kk (Zbk s a) /\ Zbk ps b = Zbk s b /\ (ps.1.2.length : Int) <= s.1.2.length + ckH s a /\ ∀ W : List Int, W.Nodup -> (∀ n, n ∈ W ↔ ∃ r ∈ [pn2, b], n ∈ Xj ps r) -> ∀ i : Nat, 1 <= i -> i < 256 -> Zcj [] i + Zcj [pn2, b] i + Zcw ps.1 W i <= Yy ps.2.1 i) := Za (by
    rcases hR2.out with ⟨h0, _⟩ | ⟨_, h⟩
    · exact absurd rfl h0
    · exact h)
  obtain rfl : fe = 0 := by
    obtain ⟨x, hx⟩ := hR3.out.1;rw [<- hfe.out];exact (Zq8 hck.out hx).1
  have hL6 := (Znn (Zah hck.out).1).2.1;have hrL := Za (Zip hck.out);obtain ⟨L, hL⟩ : ∃ q, Zbk s a = q := ⟨_, rfl⟩
  obtain ⟨n, hn⟩ : ∃ q, L.length = q := ⟨_, rfl⟩
  rw [hL] at hL6 hrL;rw [hn] at hL6;replace hL := Za hL;have hn' := Za hn;obtain ⟨k0, k1, k2, k3, kg⟩ := HG15.out.at 3 rfl;have hAl := Za (Zsx qa qb qc qd hrL.out hn w15.heap.size w15 (Qc _) (HG15.out.at 4 rfl));clear hn hR2
  go_upto_region 13 with fail
  go_wp2_with fail
  with_reducible refine hAl.out.mono ?_
  rintro e w0 ⟨_, rfl, ⟨U, uc, rfl, hUr⟩, hb0⟩;have HG := Za (HG15.out.below hb0);have B0 := Za (B15.out.trans (hb0.mono B15.out.size));have HL := Za (fun k (z : It) (hk : L[k]? = some z) => Z83 (Y0.drop hUr) hk);clear hUr hb0 HG15 B15 k0 k1 k2 k3 kg hAl
  go_wp2_with fail
  go_loopw [19, 21] (fun wv iv wr => ∃ (j : Nat) (A : Option Addr) (m c : Nat), j <= n /\ iv = .int .i64 (j : Int) /\ wv = .slice A m c /\ Ze0 w0.heap.size wr A m c (Zdk kk (L.take j)) /\ Qf w0.heap.size w0 wr) (fun _ iv _ => n - (intOf iv).toNat)
  case atStart => exact ⟨0, none, 0, 0, by omega, rfl, rfl, Ze0.nil _ _ (Qc _), Qb _ _⟩
  case round =>
    obtain ⟨j, A, m, c, hj, rfl, rfl, hSt, hB⟩ := hrel;have hml : m <= n := by
      have h1 := hSt.len;have h2 : (Zdk kk (L.take j)).length <= (L.take j).length := List.length_filter_le ..;rw [List.length_take] at h2;omega
    have ST := Za hSt;have BR := Za hB;clear hSt hB;by_cases hjn : j < n
    case neg =>
      obtain rfl : j = n := by omega
      have i5 : ¬ ((j : Int) < (j : Int)) := by omega
      have htk : Hid (L.take j = L) := Za (List.take_of_length_le (by have := hn'.out; omega));rw [htk.out] at ST;have HGf := Za (HG.out.below BR.out);have BF := Za (B0.out.trans (BR.out.mono B0.out.size));have hmf := ST.out.len;obtain ⟨-, g1, g7, g2, g3, g4, g5, g6⟩ := hR3.out;have r1 := Za (Zip g1);have r2 := Za (Zip g2);have r3 := Za (Zip hcb.out);have hlO := (Znn (Zah hcb.out).1).2.1;rw [hL.out] at g3;rw [g3] at r1;rw [g4] at r2;obtain ⟨T, hT⟩ : ∃ q, Zdk kk L = q := ⟨_, rfl⟩
      obtain ⟨O, hO⟩ : ∃ q, Zbk s b = q := ⟨_, rfl⟩
      obtain ⟨nO, hnO⟩ : ∃ q, O.length = q := ⟨_, rfl⟩
      obtain ⟨h2, hh2⟩ : ∃ q, ckH ps pn2 = q := ⟨_, rfl⟩
      rw [hT] at r1 hmf ST;rw [hO] at r2 r3 hlO;rw [hnO] at hlO;have hmf' := Za hmf;have hnO' := Za hnO;have hnow := Zgg g1;obtain ⟨f1, f2⟩ := Yau hck.out;rw [hhh.out] at f1 f2 g5 g7;rw [hh2] at g7;obtain ⟨y1, y2⟩ := Zp8 (HGf.out.at 1 rfl : Sto (Old wr) wr (.agg #[.slice ra.1 ra.2.1 ra.2.2, .slice rb.1 rb.2.1 rb.2.2, .slice rc.1 rc.2.1 rc.2.2, .slice rd.1 rd.2.1 rd.2.2]) ps);obtain ⟨y3, y4⟩ := Zp8 (HGf.out.at 4 rfl : Sto (Old wr) wr (.agg #[.slice qa.1 qa.2.1 qa.2.2, .slice qb.1 qb.2.1 qb.2.2, .slice qc.1 qc.2.1 qc.2.2, .slice qd.1 qd.2.1 qd.2.2]) s);rw [<- y1, <- y3] at g5;have hE6 := Za g6;have hck1 := Za g1;have hck2 := Za g2;have hCt := Za (Xp _ ps pn2 _ (HGf.out.at 1 rfl));rw [g1, hh2] at hCt;obtain ⟨lr, hlr⟩ : ∃ q, rb.2.1 = q := ⟨_, rfl⟩
      obtain ⟨lq, hlq⟩ : ∃ q, qb.2.1 = q := ⟨_, rfl⟩
      rw [hlr, hlq] at g5;rw [hlr] at y2;rw [hlq] at y4;have j1 : IntKind.i64.wrap ((lr : Int) - (lq : Int)) = (lr : Int) - (lq : Int) := IntWalk.i64_in _ (by omega);have j4 : (lr : Int) - (lq : Int) <= hh := by omega
      have j5 : h2 <= hh := g7;have hlr' := Za hlr;have hlq' := Za hlq;clear hlr hlq y1 y3 g1 g2 g3 g4 g5 g6 g7 hmf hnO;replace hT := Za hT;replace hO := Za hO;replace hh2 := Za hh2;obtain ⟨m0, m1, m2, m3, mg⟩ := HGf.out.at 0 rfl
      go_upto_region 19 with fail
      go_wp2_with fail
      with_reducible refine hCt.out.mono ?_
      rintro e wf ⟨rfl, hbf⟩;replace HGf := Za (HGf.out.below hbf);replace BF := Za (BF.out.trans (hbf.mono BF.out.size));have hSF := Za (ST.out.below hbf);clear hbf m0 m1 m2 m3 mg hCt ST
      go_upto_region 20 with fail
      refine wp_region_fx (by kernel_rfl) (fun W => Qf wf.heap.size wf W) (fun i => match i with
          | 17 => some (Zks wf.heap.size m T)
          | 24 => some (Zks wf.heap.size nO O)
          | 27 => some (Zks wf.heap.size nO O)
          | 34 => some (Z23 pn2 b)
          | _ => none) (fun i => match i with
          | 19 => some (.bool true)
          | 28 => some (.bool true)
          | 35 => some (.bool true)
          | _ => none) (by kernel_rfl) (Qb _ _).drew (fun w w' h hb => h.trans (hb.mono h.size)) (fun j φ x W W' hp hx hb => by
            match j, hp with
            | 17, hp => cases hp; exact hx.below hb
            | 24, hp => cases hp; exact hx.below hb
            | 27, hp => cases hp; exact hx.below hb
            | 34, hp => cases hp; exact hx.below hb) ?_
      repeat (first
        | (refine wpAs_skip rfl ?_; simp only[Qa,Zb,Zc,Zd])
        | (refine wpAs_pure (v := ?_) rfl rfl ?_ ?_; rotate_left; (intro W hC hE; clear hE; (obtain ⟨m0, m1, m2, m3, mg⟩ := (HGf.out.below hC).at 0 rfl); clear hC; go_simp; first | done | with_reducible rfl); simp only[Qa,Zb,Zc,Zd]))
      refine wpAs_act rfl rfl ?_ ?_
      · intro W hC hE
        clear hE;refine does_enter (f := 13) (args := #[.agg #[.slice ra.1 ra.2.1 ra.2.2, .slice rb.1 rb.2.1 rb.2.2, .slice rc.1 rc.2.1 rc.2.2, .slice rd.1 rd.2.1 rd.2.2], .int .i64 pn2]) ?_ ?_
        · go_simp
        · exact Zsx ra rb rc rd r1.out hmf'.out wf.heap.size W hC.size ((HGf.out.below hC).at 1 rfl)
      simp only[Qa,Zb,Zc,Zd, envAdd];intro x4
      repeat (first
        | (refine wpAs_skip rfl ?_; simp only[Qa,Zb,Zc,Zd])
        | (refine wpAs_pure (v := ?_) rfl rfl ?_ ?_; rotate_left; (intro W hC hE; clear hE; skip; clear hC; go_simp; first | done | with_reducible rfl); simp only[Qa,Zb,Zc,Zd]))
      refine wpAs_fixed rfl rfl rfl ?_ ?_
      · intro W hC hE
        have h1 := hE.1 rfl;clear hE;refine does_enter (f := 21) (args := #[x4, .slice A m c]) ?_ ?_
        · go_simp
        · refine (Zyc h1 (hSF.out.below hC) hmf'.out hmf'.out (by omega) (by omega) (decide_eq_true rfl)).mono ?_
          rintro e W' ⟨rfl, hg⟩;exact ⟨_, rfl, rfl, hg⟩
      simp only[Qa,Zb,Zc,Zd]
      repeat (first
        | (refine wpAs_skip rfl ?_; simp only[Qa,Zb,Zc,Zd])
        | (refine wpAs_pure (v := ?_) rfl rfl ?_ ?_; rotate_left; (intro W hC hE; clear hE; (obtain ⟨m0, m1, m2, m3, mg⟩ := (HGf.out.below hC).at 0 rfl); clear hC; go_simp; first | done | with_reducible rfl); simp only[Qa,Zb,Zc,Zd]))
      refine wpAs_act rfl rfl ?_ ?_
      · intro W hC hE
        clear hE;refine does_enter (f := 13) (args := #[.agg #[.slice ra.1 ra.2.1 ra.2.2, .slice rb.1 rb.2.1 rb.2.2, .slice rc.1 rc.2.1 rc.2.2, .slice rd.1 rd.2.1 rd.2.2], .int .i64 b]) ?_ ?_
        · go_simp
        · exact Zsx ra rb rc rd r2.out hnO'.out wf.heap.size W hC.size ((HGf.out.below hC).at 1 rfl)
      simp only[Qa,Zb,Zc,Zd, envAdd];intro x11
      repeat (first
        | (refine wpAs_skip rfl ?_; simp only[Qa,Zb,Zc,Zd])
        | (refine wpAs_pure (v := ?_) rfl rfl ?_ ?_; rotate_left; (intro W hC hE; clear hE; (obtain ⟨k0, k1, k2, k3, kg⟩ := (HGf.out.below hC).at 3 rfl); clear hC; go_simp; first | done | with_reducible rfl); simp only[Qa,Zb,Zc,Zd]))
      refine wpAs_act rfl rfl ?_ ?_
      · intro W hC hE
        clear hE;refine does_enter (f := 13) (args := #[.agg #[.slice qa.1 qa.2.1 qa.2.2, .slice qb.1 qb.2.1 qb.2.2, .slice qc.1 qc.2.1 qc.2.2, .slice qd.1 qd.2.1 qd.2.2], .int .i64 b]) ?_ ?_
        · go_simp
        · exact Zsx qa qb qc qd r3.out hnO'.out wf.heap.size W hC.size ((HGf.out.below hC).at 4 rfl)
      simp only[Qa,Zb,Zc,Zd, envAdd];intro x14;refine wpAs_fixed rfl rfl rfl ?_ ?_
      · intro W hC hE
        have h1 := hE.2.1 rfl;have h2 := hE.1 rfl;clear hE;refine does_enter (f := 21) (args := #[x11, x14]) ?_ ?_
        · go_simp
        · refine (Z8k h1 h2 hnO'.out hnO'.out (by omega) (by omega) (decide_eq_true rfl)).mono ?_
          rintro e W' ⟨rfl, hg⟩;exact ⟨_, rfl, rfl, hg⟩
      simp only[Qa,Zb,Zc,Zd]
      repeat (first
        | (refine wpAs_skip rfl ?_; simp only[Qa,Zb,Zc,Zd])
        | (refine wpAs_pure (v := ?_) rfl rfl ?_ ?_; rotate_left; (intro W hC hE; clear hE; (obtain ⟨m0, m1, m2, m3, mg⟩ := (HGf.out.below hC).at 0 rfl); clear hC; go_simp; first | done | with_reducible rfl); simp only[Qa,Zb,Zc,Zd]))
      refine wpAs_act rfl rfl ?_ ?_
      · intro W hC hE
        clear hE
        go_simp
        exact ⟨⟨W.heap.size, rfl, heap_alloc_new _ _⟩, (Qb _ _).alloc (Qc _) _⟩
      simp only[Qa,Zb,Zc,Zd, envAdd];intro x21;refine wpAs_fixed rfl rfl rfl ?_ ?_
      · intro W hC hE
        obtain ⟨g, rfl, hg2⟩ := hE.1 rfl;clear hE;refine does_enter (f := 19) (args := #[.agg #[.slice ra.1 ra.2.1 ra.2.2, .slice rb.1 rb.2.1 rb.2.2, .slice rc.1 rc.2.1 rc.2.2, .slice rd.1 rd.2.1 rd.2.2], .slice (some ⟨g, 0, none⟩) 2 2]) ?_ ?_
        · go_simp
        · refine (Zhe ra rb rc rd ps (some ⟨g, 0, none⟩) 2 2 [pn2, b] W ((HGf.out.below hC).at 1 rfl) (Zsp hg2 (Z5k hck1.out) (Z5k hcb.out)) rfl (by omega) (by omega) (fun r hr => by
            simp only [Qd, Qe, or_false] at hr;rcases hr with rfl | rfl
            · exact hck1.out
            · exact hck2.out)).mono ?_
          rintro e W' ⟨V, res, v1, v2, v3, rfl, hg⟩;have : res = true := v3.2 (hE6.out V v1 v2);subst this;exact ⟨_, rfl, rfl, hg⟩
      simp only[Qa,Zb,Zc,Zd]
      repeat (first
        | (refine wpAs_skip rfl ?_; simp only[Qa,Zb,Zc,Zd])
        | (refine wpAs_pure (v := ?_) rfl rfl ?_ ?_; rotate_left; (intro W hC hE; clear hE; (obtain ⟨m0, m1, m2, m3, mg⟩ := (HGf.out.below hC).at 0 rfl; obtain ⟨k0, k1, k2, k3, kg⟩ := (HGf.out.below hC).at 3 rfl; rw [hlr'.out] at m1; rw [hlq'.out] at k1); clear hC; go_simp; first | done | with_reducible rfl); simp only[Qa,Zb,Zc,Zd]))
      refine wpAs_end fun W hC hE=> ?_
      have BW := Za (BF.out.trans (hC.mono BF.out.size));clear hE hC
      go_wp2_with fail
      go_ret;exact ⟨rfl, BW.out⟩
    obtain ⟨z, hz⟩ : ∃ z, L[j]? = some z := ⟨_, List.getElem?_eq_getElem (by rw [hn'.out]; exact hjn)⟩
    obtain ⟨ad, E5, ce5, rfl, hin5, FZ0⟩ := HL.out j z hz;have FZ := Za FZ0;have hsnoc := Za (Z3v kk (L.take j) z);have htk : Hid (L.take (j + 1) = L.take j ++ [z]) := Za (by rw [List.take_add_one, hz]; rfl);rw [<- htk.out] at hsnoc;obtain ⟨M, hM⟩ : ∃ q, Zdk kk (L.take j) = q := ⟨_, rfl⟩
    rw [hM] at ST hsnoc;replace hM := Za hM;have i4 : (0 : Int) <= (j : Int) := by omega
    have i5 : (j : Int) < (n : Int) := by omega
    have hin5' := Za hin5;replace hz := Za hz;clear FZ0 hin5;have hke := Z1c z.1 kk;have hkg := Zjr;unfold kyV at hke;obtain ⟨b3, hb3⟩ : ∃ b, decide (z.1 = kk) = b := ⟨_, rfl⟩
    rw [hb3] at hke;replace hb3 := Za hb3
    go_upto_region 17 with fail
    go_cut [113] from 107 to 113 (fun xc wx => xc = .bool (!b3) /\ Qf wr.heap.size wr wx)
    case first =>
      refine wp_region_fx (by kernel_rfl) (fun W => Qf wr.heap.size wr W) (fun _ => none) (fun _ => none) (by kernel_rfl) (Qb _ _).drew (fun w w' h hb => h.trans (hb.mono h.size)) (fun j φ x W W' hp => by cases hp) ?_
      repeat (first
        | (refine wpAs_skip rfl ?_; simp only[Qa,Zb,Zc,Zd])
        | (refine wpAs_pure (v := ?_) rfl rfl ?_ ?_; rotate_left; (intro W hC hE; clear hE; (obtain ⟨⟨z0, z1, z2, z3, z4⟩, _⟩ := FZ.out W (BR.out.trans (hC.mono BR.out.size)); obtain ⟨t0, t1, t2, tg⟩ := (HG.out.below (BR.out.trans (hC.mono BR.out.size))).at 2 rfl); clear hC; go_simp; first | done | with_reducible rfl); simp only[Qa,Zb,Zc,Zd]))
      refine wpAs_end fun W hC hE=> ?_
      have hC' := Za hC;clear hE hC
      go_wp2_with fail
      go_meet;exact ⟨rfl, hC'.out⟩
    case rest =>
    obtain ⟨wZ, rfl⟩ : ∃ wZ : World, wZ = wc := ⟨_, rfl⟩
    obtain ⟨rfl, hbZ⟩ := hcut;have BZ := Za (BR.out.trans (hbZ.mono BR.out.size));have SZ := Za (ST.out.below hbZ);clear hbZ ST BR hke hkg;obtain ⟨b4, hb4⟩ : ∃ q, (!b3) = q := ⟨_, rfl⟩
    rw [hb4]
    go_upto_if 113 with fail
    cases b4 with
    | false =>
      have hpv : Hid (z.1 = kk) := Za (of_decide_eq_true (by rw [hb3.out]; revert hb4; cases b3 <;> simp));replace hb4 := Za hb4;rw [if_pos hpv.out, List.append_nil] at hsnoc
      go_wp2_with fail
      go_roundw
      case rel => exact ⟨j + 1, A, m, c, by omega, by go_num, rfl, by rw [hsnoc.out]; exact SZ.out, BZ.out⟩
      case measure => simp [intOf]; omega
    | true =>
      have hpv : Hid (¬ z.1 = kk) := Za (of_decide_eq_false (by rw [hb3.out]; revert hb4; cases b3 <;> simp));replace hb4 := Za hb4;rw [if_neg hpv.out] at hsnoc;obtain ⟨wA, hwA, -, -, -, -, -, hsA, hBA, gA⟩ := Z8 wZ (.int .u8 (z.1.1.toNat : Int)) (.int .u32 z.1.2.1) (.int .u32 z.1.2.2) (.int .i64 z.2.1) (.slice E5 z.2.2.length ce5) 54;obtain ⟨⟨z0, z1, z2, z3, z4⟩, _⟩ := FZ.out wZ BZ.out;obtain ⟨A', c', w', hrun, hst, hb⟩ := (SZ.out.below hBA).push wZ.heap.size z (.slice E5 z.2.2.length ce5) 1 gA (by omega) hin5'.out (FZ.out wA (BZ.out.trans (hBA.mono BZ.out.size))).2;have HR := Za hrun;have HS := Za hst;have HB := Za ((BZ.out.trans (hBA.mono BZ.out.size)).trans hb);replace hsA := Za hsA;clear hrun hst hb hBA gA
      go_wp2_with (at_builtin; refine Vf rfl _ _ _ _ rfl rfl rfl HR.out ?_; clear HR hwA)
      go_roundw
      case rel => exact ⟨j + 1, A', m + 1, c', by omega, by go_num, rfl, by rw [hsnoc.out]; exact HS.out, HB.out⟩
      case measure => simp [intOf]; omega

/-! ### The row's step -/
set_option maxRecDepth 100000 in
theorem lifted (os : Os) (started : os.Started) (H : Type) (enc : TypeId × Value -> H) :
    ReturnsInHanded {} Tryz.checked os 5 .any (Rows.delItemsSpec.pre6 enc Tryz.prog Tryz.f5 Rows.delItemsRow.domain false) (Rows.delItemsSpec.post enc Tryz.prog Tryz.f5 false true false false) := by
  refine returnsInHanded_of_change (C := Tryz.checked) own started (by kernel_rfl) Tryz.func5
    (ChangeSpec.witness6 (enc := enc) (C := Tryz.checked) false ⟨#[], #[.agg #[.slice none 0 0, .slice none 0 0, .slice none 0 0, .slice none 0 0], .int .i64 0, .int .i64 0, .agg #[.int .u8 0, .int .u32 0, .int .u32 0]], []⟩ 8 (by kernel_rfl) (by kernel_rfl) (by kernel_rfl) (by kernel_rfl)) ?_
  intro W base args ds gs before hval0 hW _ _;have hval : ∀ (j : Nat) t v, Tryz.f5.params[j]? = some t -> args[j]? = some v -> Value.okWide Tryz.prog W .any base t v := hval0;have hW' := hW;obtain ⟨p, q, hA0, hV, _, _, _⟩ := hW;have hA : DataW.TrodAll enc Tryz.prog W 0 (fun _ => true) true Tryz.f5.params.toList args.toList ds p := hA0;rw [Tryz.params5] at hA hval;obtain ⟨v0, vs0, d0, ds0, p0, q0, hargs, rfl, _, h0, r0⟩ := trodAll_cons hA;obtain ⟨v1, vs1, d1, ds1, p1, q1, rfl, rfl, _, h1, r1⟩ := trodAll_cons r0;obtain ⟨v2, vs2, d2, ds2, p2, q2, rfl, rfl, _, h2, r2⟩ := trodAll_cons r1;obtain ⟨v3, vs3, d3, ds3, p3, q3, rfl, rfl, _, h3, r3⟩ := trodAll_cons r2;obtain ⟨rfl, rfl, _⟩ := trodAll_nil r3;obtain rfl : args = #[v0, v1, v2, v3] := by cases args; simp_all
  obtain ⟨rfl, _⟩ := trodVars_none hV;obtain ⟨d0x, y0⟩ := Zw8 (hval 0 29 v0 rfl rfl) h0;obtain ⟨a1, rfl, _, _, w1⟩ := open_int Tryz.underlying3 (hval 1 3 v1 rfl rfl) h1;obtain ⟨a2, rfl, _, _, w2⟩ := open_int Tryz.underlying3 (hval 2 3 v2 rfl rfl) h2;obtain ⟨k3x, rfl, _⟩ := Z2k (hval 3 37 v3 rfl rfl) h3;clear hA0 hval0;refine (walk v0 d0x a1 w1 a2 w2 k3x W y0).mono fun e W' ⟨he, hb⟩=> ?_
  subst he;exact ⟨_, rfl, Z2p laidOut (by rw [Tryz.params5]; decide +kernel) (by kernel_rfl) Tryz.underlying4 rfl ⟨rfl, by simp [Rows.delItemsSpec], rfl⟩ hW' hb⟩

theorem over : Rows.delItemsRow.holds Tryz.pinned (OpenSpec.ofChange Rows.delItemsSpec) :=
  OpenClaim.holds_of_wide 5 Tryz.f5 rfl rfl rfl rfl rfl rfl rfl ⟨rfl, rfl, rfl, rfl, rfl⟩ rfl rfl rfl rfl rfl (by kernel_rfl) Tryz.func5 (by kernel_rfl)
    (of_decide_eq_true (by kernel_rfl)) (by unfold Func.isWrapper; first | (rw [if_pos (by decide +kernel)]; kernel_rfl) | (rw [if_neg (by decide +kernel)]; exact ⟨rfl, rfl⟩))
    (fun os started H enc _ => lifted os started H enc)

end Go.Proofs.YtgmbjnajdfgenaaGreat.delItems
namespace Go.Proofs.YtgmbjnajdfgenaaGreat
theorem delItems_proved : Rows.DelItemsSaid := delItems.over
end Go.Proofs.YtgmbjnajdfgenaaGreat
