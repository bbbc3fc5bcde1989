/-
  For every store, root, key and value DelUndoes answers true and leaves its arguments as they were. No condition.
-/
import Derived.Test.YtgmbjnajdfgenaaGreatBnd7
import Derived.Deep.CutRange
open Go.Act renaming put → Qa
open Go.RowKit.Below renaming refl → Qb
open List renaming mem_singleton → Qc
namespace Go.Proofs.YtgmbjnajdfgenaaGreat.delUndoes
open Go.ChangeShapes Go.WideShapes Go.RowKit

theorem own : ownKnob Tryz.prog.godebug = none := by kernel_rfl
theorem laidOut : laidOutB Tryz.prog = true := by kernel_rfl

/-- One number, a row of its own. -/
def PhOne (a : Int) (v : Value) (W : World) : Prop := ∃ g, v = .slice (some ⟨g, 0, none⟩) 1 1 /\ W.heap[g]? = some (.cells #[.int .i64 a] 3 (0, 0))
theorem PhOne.below {a : Int}{v : Value}{W W' : World}(h : PhOne a v W) (hb : Below W.heap.size W W') : PhOne a v W' := by
  obtain ⟨g, e, hg⟩ := h;exact ⟨g, e, (hb.block g (Array.getElem?_eq_some_iff.1 hg).1).trans hg⟩
set_option maxRecDepth 100000 in
set_option maxHeartbeats 8000000 in
theorem walk (v : Value) (s : Rm) (a : Int) (_hn : (Lit.int .i64 a).wf = true) (kk : Ky) (u : Value) (bs : List UInt8) (w : World) (h : Sto (Old w) w v s) (hkk : InK kk) (hby : rBy (Old w) w [u] bs) :
    Calls Tryz.prog 6 #[v, .int .i64 a, kyV kk, u] w fun e w' => e = .returned (.bool true) /\ Below w.heap.size w w' := by
  clear _hn;obtain ⟨qa, qb, qc, qd, rfl⟩ : ∃ qa qb qc qd : Option Addr × Nat × Nat, v = .agg #[.slice qa.1 qa.2.1 qa.2.2, .slice qb.1 qb.2.1 qb.2.2, .slice qc.1 qc.2.1 qc.2.2, .slice qd.1 qd.2.1 qd.2.2] := by
    obtain ⟨A, ca, B, cb, N, cn, L, cl, rfl, _⟩ := h.open;exact ⟨(A, _, ca), (B, _, cb), (N, _, cn), (L, _, cl), rfl⟩
  obtain ⟨E, ce, rfl, -, -, -⟩ := Zt hby
  have hxi : InI (kk, 0, bs) := ⟨hkk, show (-9223372036854775808 : Int) <= 0 by decide, show (0 : Int) <= 9223372036854775807 by decide⟩
  have hu : Itm (Old w) w (itV (kk, 0, bs) (.slice E bs.length ce)) (kk, 0, bs) := ⟨_, rfl, hxi, hby⟩
  have HG0 : Bag w [Zrs (.agg #[.slice qa.1 qa.2.1 qa.2.2, .slice qb.1 qb.2.1 qb.2.2, .slice qc.1 qc.2.1 qc.2.2, .slice qd.1 qd.2.1 qd.2.2]) s, Ycf (itV (kk, 0, bs) (.slice E bs.length ce)) (kk, 0, bs)] := ((Bag.nil w).add (F := Ycf _ (kk, 0, bs)) hu (Zwm _ _)).add (F := Zrs _ s) h (V7 _ _);obtain ⟨w1, hw1, hg1, hB1, -, hs1⟩ := Zco HG0 (Qb _ _) (.slice qa.1 qa.2.1 qa.2.2) (.slice qb.1 qb.2.1 qb.2.2) (.slice qc.1 qc.2.1 qc.2.2) (.slice qd.1 qd.2.1 qd.2.2) 29;obtain ⟨w3, hw3, hg3, hB3, -, hs3⟩ := Zr4 hg1 (Qb _ _) (.int .u8 (kk.1.toNat : Int)) (.int .u32 kk.2.1) (.int .u32 kk.2.2);have hB13 := hB1.trans (hB3.mono hB1.size);have HG1 := Za hg3;have B1 := Za hB13;have hIn := Za hxi;replace hs1 := Za hs1;replace hs3 := Za hs3;clear HG0 hg1 hg3 h hu hby hkk hxi hB1 hB3 hB13;unfold kyV
  go_enter Tryz.func6, Tryz.ntmps6
  go_upto_region 1 with fail
  clear hw1 hw3
  go_wp2_with fail
  with_reducible refine (Z8v _).mono ?_
  rintro e w4 ⟨rfl, hb4⟩;have HG4 := Za (HG1.out.below hb4);have B4 := Za (B1.out.trans (hb4.mono B1.out.size));clear hb4 HG1 B1
  -- Check
  obtain ⟨k0, k1, k2, k3, kg⟩ := HG4.out.at 1 rfl;obtain ⟨ck, hck⟩ : ∃ q, ckE s a = q := ⟨_, rfl⟩
  obtain ⟨hh, hhh⟩ : ∃ q, ckH s a = q := ⟨_, rfl⟩
  have hCk := Za (Vm _ s a _ (HG4.out.at 2 rfl));rw [hck, hhh] at hCk;replace hck := Za hck;replace hhh := Za hhh
  go_upto_region 4 with fail
  go_wp2_with fail
  with_reducible refine hCk.out.mono ?_
  rintro e w5 ⟨rfl, hb5⟩;have HG5 := Za (HG4.out.below hb5);have B5 := Za (B4.out.trans (hb5.mono B4.out.size));clear hb5 HG4 B4 k0 k1 k2 k3 kg hCk;obtain ⟨k0, k1, k2, k3, kg⟩ := HG5.out.at 1 rfl
  go_upto_region 5 with fail
  go_wp2_with fail
  with_reducible refine (Zvt _ s _ (HG5.out.at 2 rfl)).mono ?_
  rintro e w6 ⟨rfl, hb6⟩;have HG6 := Za (HG5.out.below hb6);have B6 := Za (B5.out.trans (hb6.mono B5.out.size));clear hb6 HG5 B5 k0 k1 k2 k3 kg;cases hgr : Ztu s with
  | true =>
    go_wp2_with fail
    go_ret;exact ⟨rfl, B6.out⟩
  | false =>
  clear hgr;by_cases hl : 12 < bs.length
  · have hl' : ((bs.length : Int) > 12) := by omega
    go_wp2_with fail
    go_ret;exact ⟨rfl, B6.out⟩
  have hl' : ¬ ((bs.length : Int) > 12) := by omega
  by_cases hk : ck = 0
  case neg =>
    have t0 : (ck != 0) = true := by simpa using hk
    go_wp2_with fail
    go_ret;exact ⟨rfl, B6.out⟩
  subst hk;obtain ⟨wA, hwA, gA, hsA, hBA⟩ := Ycl w6 (.int .i64 a) 3;have HGA := Za (HG6.out.below hBA);have BA := Za (B6.out.trans (hBA.mono B6.out.size));have hen := Za (Zhk qa qb qc qd s (some ⟨w6.heap.size, 0, none⟩) 1 1 [a] wA (HGA.out.at 2 rfl) (Z07 gA (Ya4 hck.out)) rfl (by omega) (by omega) (fun r hr => by rw [Qc.1 hr]; exact hck.out));replace hsA := Za hsA;obtain ⟨k0, k1, k2, k3, kg⟩ := HG6.out.at 1 rfl;clear gA hBA
  go_wp2_with fail
  with_reducible refine hen.out.mono ?_
  rintro e w7 ⟨V, res, hV1, hV2, hV3, rfl, hb7⟩;have HG7 := Za (HGA.out.below hb7);have B7 := Za (BA.out.trans (hb7.mono BA.out.size));clear hb7 hen k0 k1 k2 k3 kg HGA BA HG6 B6;cases res with
  | false =>
    go_wp2_with fail
    go_ret;exact ⟨rfl, B7.out⟩
  | true =>
  have hH0 := Za (Zql hck.out hV1 hV2 (hV3.1 rfl));clear hV1 hV2 hV3
  -- Find
  obtain ⟨k0, k1, k2, k3, kg⟩ := HG7.out.at 1 rfl;obtain ⟨t0, t1, t2, tg⟩ := HG7.out.at 0 rfl;obtain ⟨fe, hfe⟩ : ∃ q, fdE s a kk = q := ⟨_, rfl⟩
  obtain ⟨y, hy⟩ : ∃ q, fdV s a kk = q := ⟨_, rfl⟩
  have hFd := Za (Zfq _ s a kk _ (HG7.out.at 2 rfl));rw [hfe, hy] at hFd;unfold kyV at hFd;replace hfe := Za hfe;replace hy := Za hy
  go_upto_region 7 with fail
  clear hl hl'
  go_wp2_with fail
  with_reducible refine hFd.out.mono ?_
  rintro e w8 ⟨P, pc, rfl, -, hb⟩;obtain ⟨w9, hw9, -, -, -, -, -, hs9, hB9, -⟩ := Z9 w8 (.int .u8 (y.1.1.toNat : Int)) (.int .u32 y.1.2.1) (.int .u32 y.1.2.2) (.int .i64 y.2.1) (.slice P y.2.2.length pc) 54;have HG9 := Za ((HG7.out.below hb).below hB9);have B9 := Za (B7.out.trans ((hb.trans (hB9.mono hb.size)).mono B7.out.size));replace hs9 := Za hs9;clear hb hB9 HG7 B7 k0 k1 k2 k3 kg t0 t1 t2 tg hFd
  -- Put
  obtain ⟨k0, k1, k2, k3, kg⟩ := HG9.out.at 1 rfl;obtain ⟨t0, t1, t2, tg⟩ := HG9.out.at 0 rfl;have hPut := Zll qa qb qc qd s a (kk, 0, bs) E ce w9 (HG9.out.at 2 rfl) (HG9.out.at 3 rfl);unfold itV at hPut
  dsimp only at hPut
  replace hPut := Za hPut
  go_upto_region 8 with fail
  clear hw9
  go_wp2_with fail
  with_reducible refine hPut.out.mono ?_
  rintro e w10 ⟨l, ra, rb, rc, rd, hl10, rfl, hS, hb⟩;obtain ⟨X, hX⟩ : ∃ X, Zhp s a (kk, 0, bs) l = X := ⟨_, rfl⟩
  obtain ⟨pe, ps, pn2⟩ := X;rw [hX] at hS ⊢;obtain ⟨w11, hw11, hg, hB, -, hs11⟩ := Zco ((HG9.out.below hb).add (F := Zrs _ ps) hS.drop (V7 _ _)) (Qb _ _) (.slice ra.1 ra.2.1 ra.2.2) (.slice rb.1 rb.2.1 rb.2.2) (.slice rc.1 rc.2.1 rc.2.2) (.slice rd.1 rd.2.1 rd.2.2) 29;have HG11 := Za hg;have B11 := Za (B9.out.trans ((hb.trans (hB.mono hb.size)).mono B9.out.size));have hlw := Za hl10;replace hX := Za hX;replace hs11 := Za hs11;clear hS hb hB hg hl10 hPut k0 k1 k2 k3 kg t0 t1 t2 tg HG9 B9
  go_upto_region 9 with fail
  clear hw11;by_cases hf6 : fe = 6
  case neg =>
    have t0 : (fe != 6) = true := by simpa using hf6
    go_wp2_with fail
    go_ret;exact ⟨rfl, B11.out⟩
  subst hf6;by_cases hpe : pe = 0
  case neg =>
    have t0 : (pe != 0) = true := by simpa using hpe
    go_wp2_with fail
    go_ret;exact ⟨rfl, B11.out⟩
  subst hpe;obtain ⟨hH, hL⟩ := Z40 hIn.out rfl hH0.out (by rw [hX.out]) hlw.out;rw [hX.out] at hH hL
  dsimp only at hH hL
  have hno := Zve hck.out hfe.out
  have hcp : Hid (Zfz kk (U7 ps pn2) = U7 s a) := Za (by
    rw [hL];exact Z69 (Z9o hH0.out) (x := (kk, 0, bs)) fun z hz e => by
      have := (Zfp (Ul hck.out).1).2.2 z hz;rw [show z.1 = kk from e, hno] at this
      cases this)
  have hsm : Hid (Zb5 ps pn2 kk ≠ none) := Za (fun e => by
    have := (Z0w (x := (kk, 0, bs)) (Ul hck.out).1 (Ul hH.ck).1 hL).1;rw [show Zb5 ps pn2 ((kk, 0, bs) : It).1 = Zb5 ps pn2 kk from rfl, e] at this
    cases this)
  have hH1 := Za hH;replace hL := Za hL;replace hno := Za hno;clear hH
  -- Del
  obtain ⟨m0, m1, m2, m3, mg⟩ := HG11.out.at 0 rfl;obtain ⟨t0, t1, t2, tg⟩ := HG11.out.at 2 rfl;obtain ⟨Y, hY⟩ : ∃ Y, Zgg ps pn2 kk = Y := ⟨_, rfl⟩
  obtain ⟨de, ds, dn⟩ := Y;have hDl := Za (Zln ra rb rc rd ps pn2 kk w11 (HG11.out.at 1 rfl));unfold Ybj kyV at hDl;rw [hY] at hDl
  dsimp only at hDl
  replace hY := Za hY
  go_upto_region 11 with fail
  go_wp2_with fail
  with_reducible refine hDl.out.mono ?_
  rintro e w12 ⟨ta, tb, tc, td, rfl, hS, hb⟩;obtain ⟨w13, hw13, hg, hB, -, hs13⟩ := Zco ((HG11.out.below hb).add (F := Zrs _ ds) hS.drop (V7 _ _)) (Qb _ _) (.slice ta.1 ta.2.1 ta.2.2) (.slice tb.1 tb.2.1 tb.2.2) (.slice tc.1 tc.2.1 tc.2.2) (.slice td.1 td.2.1 td.2.2) 29;have HG13 := Za hg;have B13 := Za (B11.out.trans ((hb.trans (hB.mono hb.size)).mono B11.out.size));replace hs13 := Za hs13;clear hS hb hB hg hDl m0 m1 m2 m3 mg t0 t1 t2 tg HG11 B11
  go_upto_region 12 with fail
  clear hw13;by_cases hde : de = 0
  case neg =>
    have t0 : (de != 0) = true := by simpa using hde
    have hor : de = 9 \/ de = 70 := by
      have := Z30 (k := kk) hH1.out (by rw [hY.out]; exact hde);rw [hY.out] at this;rcases this with ⟨_, e⟩ | ⟨e, _⟩
      · exact absurd e hsm.out
      · exact e
    rcases hor with rfl | rfl
    · go_wp2_with fail
      go_ret;exact ⟨rfl, B13.out⟩
    · go_wp2_with fail
      go_ret;exact ⟨rfl, B13.out⟩
  subst hde;obtain ⟨hH, hLd, -⟩ := Z36 (k := kk) hH1.out (by rw [hY.out]);rw [hY.out] at hH hLd
  dsimp only at hH hLd
  rw [hcp.out] at hLd;have r1 := Za (Zsj hH.ck);have r2 := Za (Zsj hck.out);rw [hLd] at r1;obtain ⟨L, hL0⟩ : ∃ L, U7 s a = L := ⟨_, rfl⟩
  obtain ⟨n, hn⟩ : ∃ n, L.length = n := ⟨_, rfl⟩
  have h9 : (U7 s a).length <= 15625 := Z27 hH0.out;rw [hL0] at r1 r2 h9;rw [hn] at h9;have hn' := Za hn;have hd := Za (decide_eq_true (rfl : L = L));have hH2 := Za hH;replace hL0 := Za hL0;clear hLd hH hn;have HGs := Za (fun W (hW : Below w13.heap.size w13 W) => HG13.out.below hW)
  go_upto_region 14 with fail
  refine wp_region_fx (by kernel_rfl) (fun W => Below w13.heap.size w13 W) (fun i => match i with
      | 4 => some (Zo1 w13.heap.size n L)
      | 7 => some (Zo1 w13.heap.size n L)
      | 13 => some (PhOne dn)
      | _ => none) (fun i => match i with
      | 8 => some (.bool true)
      | 14 => some (.bool true)
      | _ => none) (by kernel_rfl) (Qb _ _).drew (fun w w' h hb => h.trans (hb.mono h.size)) (fun j φ x W W' hp hx hb => by
        match j, hp with
        | 4, hp => cases hp; exact hx.below hb
        | 7, hp => cases hp; exact hx.below hb
        | 13, hp => cases hp; exact hx.below hb) ?_
  repeat (first
    | (refine wpAs_skip rfl ?_; simp only[Qa,Zb,Zc,Zd])
    | (refine wpAs_pure (v := ?_) rfl rfl ?_ ?_; rotate_left; (intro W hC hE; clear hE; (obtain ⟨m0, m1, m2, m3, mg⟩ := (HGs.out W hC).at 0 rfl); clear hC; go_simp; first | done | with_reducible rfl); simp only[Qa,Zb,Zc,Zd]))
  refine wpAs_act rfl rfl ?_ ?_
  · intro W hC hE
    clear hE;refine does_enter (f := 13) (args := #[.agg #[.slice ta.1 ta.2.1 ta.2.2, .slice tb.1 tb.2.1 tb.2.2, .slice tc.1 tc.2.1 tc.2.2, .slice td.1 td.2.1 td.2.2], .int .i64 dn]) ?_ ?_
    · go_simp
    · exact Z60 ta tb tc td r1.out hn'.out w13.heap.size W hC.size ((HGs.out W hC).at 1 rfl)
  simp only[Qa,Zb,Zc,Zd, envAdd];intro x4
  repeat (first
    | (refine wpAs_skip rfl ?_; simp only[Qa,Zb,Zc,Zd])
    | (refine wpAs_pure (v := ?_) rfl rfl ?_ ?_; rotate_left; (intro W hC hE; clear hE; (obtain ⟨m0, m1, m2, m3, mg⟩ := (HGs.out W hC).at 5 rfl); clear hC; go_simp; first | done | with_reducible rfl); simp only[Qa,Zb,Zc,Zd]))
  refine wpAs_act rfl rfl ?_ ?_
  · intro W hC hE
    clear hE;refine does_enter (f := 13) (args := #[.agg #[.slice qa.1 qa.2.1 qa.2.2, .slice qb.1 qb.2.1 qb.2.2, .slice qc.1 qc.2.1 qc.2.2, .slice qd.1 qd.2.1 qd.2.2], .int .i64 a]) ?_ ?_
    · go_simp
    · exact Z60 qa qb qc qd r2.out hn'.out w13.heap.size W hC.size ((HGs.out W hC).at 6 rfl)
  simp only[Qa,Zb,Zc,Zd, envAdd];intro x7
  repeat (first
    | (refine wpAs_skip rfl ?_; simp only[Qa,Zb,Zc,Zd])
    | (refine wpAs_pure (v := ?_) rfl rfl ?_ ?_; rotate_left; (intro W hC hE; clear hE; skip; clear hC; go_simp; first | done | with_reducible rfl); simp only[Qa,Zb,Zc,Zd]))
  refine wpAs_fixed rfl rfl rfl ?_ ?_
  · intro W hC hE
    have h1 := hE.2.1 rfl;have h2 := hE.1 rfl;clear hE;refine does_enter (f := 21) (args := #[x4, x7]) ?_ ?_
    · go_simp
    · refine (Z8i h1 h2 hn'.out hn'.out (by omega) (by omega) hd.out).mono ?_
      rintro e W' ⟨rfl, hg⟩;exact ⟨_, rfl, rfl, hg⟩
  simp only[Qa,Zb,Zc,Zd]
  repeat (first
    | (refine wpAs_skip rfl ?_; simp only[Qa,Zb,Zc,Zd])
    | (refine wpAs_pure (v := ?_) rfl rfl ?_ ?_; rotate_left; (intro W hC hE; clear hE; (obtain ⟨m0, m1, m2, m3, mg⟩ := (HGs.out W hC).at 0 rfl); clear hC; go_simp; first | done | with_reducible rfl); simp only[Qa,Zb,Zc,Zd]))
  refine wpAs_act rfl rfl ?_ ?_
  · intro W hC hE
    clear hE
    go_simp
    exact ⟨⟨W.heap.size, rfl, heap_alloc_new _ _⟩, (Qb _ _).alloc (Nat.le_refl _) _⟩
  simp only[Qa,Zb,Zc,Zd, envAdd];intro x13;refine wpAs_fixed rfl rfl rfl ?_ ?_
  · intro W hC hE
    obtain ⟨g, rfl, hg2⟩ := hE.1 rfl;clear hE;refine does_enter (f := 19) (args := #[.agg #[.slice ta.1 ta.2.1 ta.2.2, .slice tb.1 tb.2.1 tb.2.2, .slice tc.1 tc.2.1 tc.2.2, .slice td.1 td.2.1 td.2.2], .slice (some ⟨g, 0, none⟩) 1 1]) ?_ ?_
    · go_simp
    · refine (Zhk ta tb tc td ds (some ⟨g, 0, none⟩) 1 1 [dn] W ((HGs.out W hC).at 1 rfl) (Z07 hg2 (Ya4 hH2.out.ck)) rfl (by omega) (by omega) (fun r hr => by rw [Qc.1 hr]; exact hH2.out.ck)).mono ?_
      rintro e W' ⟨V, res, v1, v2, v3, rfl, hg⟩;have : res = true := v3.2 (fun i _ _ => Zsf hH2.out v1 v2 i);subst this;exact ⟨_, rfl, rfl, hg⟩
  simp only[Qa,Zb,Zc,Zd]
  repeat (first
    | (refine wpAs_skip rfl ?_; simp only[Qa,Zb,Zc,Zd])
    | (refine wpAs_pure (v := ?_) rfl rfl ?_ ?_; rotate_left; (intro W hC hE; clear hE; skip; clear hC; go_simp; first | done | with_reducible rfl); simp only[Qa,Zb,Zc,Zd]))
  refine wpAs_end fun W hC hE=> ?_
  have BF := Za (B13.out.trans (hC.mono B13.out.size));clear hE hC
  go_wp2_with fail
  go_ret;exact ⟨rfl, BF.out⟩

/-! ### The row's step -/
set_option maxRecDepth 100000 in
theorem lifted (os : Os) (started : os.Started) (H : Type) (enc : TypeId × Value -> H) :
    ReturnsInHanded {} Tryz.checked os 6 .any (Rows.delUndoesSpec.pre6 enc Tryz.prog Tryz.f6 Rows.delUndoesRow.domain false) (Rows.delUndoesSpec.post enc Tryz.prog Tryz.f6 false true false false) := by
  refine returnsInHanded_of_change (C := Tryz.checked) own started (by kernel_rfl) Tryz.func6
    (ChangeSpec.witness6 (enc := enc) (C := Tryz.checked) false ⟨#[], #[.agg #[.slice none 0 0, .slice none 0 0, .slice none 0 0, .slice none 0 0], .int .i64 0, .agg #[.int .u8 0, .int .u32 0, .int .u32 0], .slice none 0 0], []⟩ 8 (by kernel_rfl) (by kernel_rfl) (by kernel_rfl) (by kernel_rfl)) ?_
  intro W base args ds gs before hval0 hW _ _;have hval : ∀ (j : Nat) t v, Tryz.f6.params[j]? = some t -> args[j]? = some v -> Value.okWide Tryz.prog W .any base t v := hval0;have hW' := hW;obtain ⟨p, q, hA0, hV, _, _, _⟩ := hW;have hA : DataW.TrodAll enc Tryz.prog W 0 (fun _ => true) true Tryz.f6.params.toList args.toList ds p := hA0;rw [Tryz.params6] at hA hval;obtain ⟨v0, vs0, d0, ds0, p0, q0, hargs, rfl, _, h0, r0⟩ := trodAll_cons hA;obtain ⟨v1, vs1, d1, ds1, p1, q1, rfl, rfl, _, h1, r1⟩ := trodAll_cons r0;obtain ⟨v2, vs2, d2, ds2, p2, q2, rfl, rfl, _, h2, r2⟩ := trodAll_cons r1;obtain ⟨v3, vs3, d3, ds3, p3, q3, rfl, rfl, _, h3, r3⟩ := trodAll_cons r2;obtain ⟨rfl, rfl, _⟩ := trodAll_nil r3;obtain rfl : args = #[v0, v1, v2, v3] := by cases args; simp_all
  obtain ⟨rfl, _⟩ := trodVars_none hV;obtain ⟨d0x, y0⟩ := Zwc (hval 0 29 v0 rfl rfl) h0;obtain ⟨a1, rfl, _, _, w1⟩ := open_int Tryz.underlying3 (hval 1 3 v1 rfl rfl) h1;obtain ⟨k2x, rfl, y2⟩ := Z3g (hval 2 37 v2 rfl rfl) h2;obtain ⟨d3x, y3⟩ := Z62 (hval 3 27 v3 rfl rfl) h3;clear hA0 hval0;refine (walk v0 d0x a1 w1 k2x v3 d3x W y0 y2 y3).mono fun e W' ⟨he, hb⟩=> ?_
  subst he;exact ⟨_, rfl, Z2o laidOut (by rw [Tryz.params6]; decide +kernel) (by kernel_rfl) Tryz.underlying4 rfl ⟨rfl, by simp [Rows.delUndoesSpec], rfl⟩ hW' hb⟩

theorem over : Rows.delUndoesRow.holds Tryz.pinned (OpenSpec.ofChange Rows.delUndoesSpec) :=
  OpenClaim.holds_of_wide 6 Tryz.f6 rfl rfl rfl rfl rfl rfl rfl ⟨rfl, rfl, rfl, rfl, rfl⟩ rfl rfl rfl rfl rfl (by kernel_rfl) Tryz.func6 (by kernel_rfl)
    (of_decide_eq_true (by kernel_rfl)) (by unfold Func.isWrapper; first | (rw [if_pos (by decide +kernel)]; kernel_rfl) | (rw [if_neg (by decide +kernel)]; exact ⟨rfl, rfl⟩))
    (fun os started H enc _ => lifted os started H enc)

end Go.Proofs.YtgmbjnajdfgenaaGreat.delUndoes
namespace Go.Proofs.YtgmbjnajdfgenaaGreat
theorem delUndoes_proved : Rows.DelUndoesSaid := delUndoes.over
end Go.Proofs.YtgmbjnajdfgenaaGreat
