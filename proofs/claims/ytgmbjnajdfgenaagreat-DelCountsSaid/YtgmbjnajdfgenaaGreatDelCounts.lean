/-
  For every store, root and key DelCounts answers true and leaves its arguments as they were. No condition.
-/
import Derived.Test.YtgmbjnajdfgenaaGreatBnd6
import Derived.Deep.CutRange
open Go.Act renaming put → Qa
open Go.RowKit.Below renaming refl → Qb
namespace Go.Proofs.YtgmbjnajdfgenaaGreat.delCounts
open Go.ChangeShapes Go.WideShapes Go.RowKit

theorem own : ownKnob Tryz.prog.godebug = none := by kernel_rfl
theorem laidOut : laidOutB Tryz.prog = true := by kernel_rfl

set_option maxRecDepth 100000 in
set_option maxHeartbeats 8000000 in
theorem walk (v : Value) (s : Rm) (a : Int) (_hn : (Lit.int .i64 a).wf = true) (kk : Ky) (w : World) (h : Sto (Old w) w v s) :
    Calls Tryz.prog 8 #[v, .int .i64 a, kyV kk] w fun e w' => e = .returned (.bool true) /\ Below w.heap.size w w' := by
  clear _hn;obtain ⟨qa, qb, qc, qd, rfl⟩ : ∃ qa qb qc qd : Option Addr × Nat × Nat, v = .agg #[.slice qa.1 qa.2.1 qa.2.2, .slice qb.1 qb.2.1 qb.2.2, .slice qc.1 qc.2.1 qc.2.2, .slice qd.1 qd.2.1 qd.2.2] := by
    obtain ⟨A, ca, B, cb, N, cn, L, cl, rfl, _⟩ := h.open;exact ⟨(A, _, ca), (B, _, cb), (N, _, cn), (L, _, cl), rfl⟩
  have HG0 : Bag w [Zth (.agg #[.slice qa.1 qa.2.1 qa.2.2, .slice qb.1 qb.2.1 qb.2.2, .slice qc.1 qc.2.1 qc.2.2, .slice qd.1 qd.2.1 qd.2.2]) s] := (Bag.nil w).add (F := Zth _ s) h (Us _ _);obtain ⟨w1, hw1, hg1, hB1, -, hs1⟩ := Zds HG0 (Qb _ _) (.slice qa.1 qa.2.1 qa.2.2) (.slice qb.1 qb.2.1 qb.2.2) (.slice qc.1 qc.2.1 qc.2.2) (.slice qd.1 qd.2.1 qd.2.2) 29;obtain ⟨w3, hw3, hg3, hB3, -, hs3⟩ := Zrx hg1 (Qb _ _) (.int .u8 (kk.1.toNat : Int)) (.int .u32 kk.2.1) (.int .u32 kk.2.2);have hB13 := hB1.trans (hB3.mono hB1.size);have HG1 := Za hg3;have B1 := Za hB13;replace hs1 := Za hs1;replace hs3 := Za hs3;clear HG0 hg1 hg3 h hB1 hB3 hB13;unfold kyV
  go_enter Tryz.func8, Tryz.ntmps8
  go_upto_region 1 with fail
  clear hw1 hw3
  go_wp2_with fail
  with_reducible refine (Z7v _).mono ?_
  rintro e w4 ⟨rfl, hb4⟩;have HG4 := Za (HG1.out.below hb4);have B4 := Za (B1.out.trans (hb4.mono B1.out.size));clear hb4 HG1 B1;obtain ⟨k0, k1, k2, k3, kg⟩ := HG4.out.at 1 rfl
  go_upto_region 2 with fail
  go_wp2_with fail
  with_reducible refine (Zv6 _ s _ (HG4.out.at 2 rfl)).mono ?_
  rintro e w5 ⟨rfl, hb5⟩;have HG5 := Za (HG4.out.below hb5);have B5 := Za (B4.out.trans (hb5.mono B4.out.size));clear hb5 HG4 B4 k0 k1 k2 k3 kg;cases hgr : Zuk s with
  | true =>
    go_wp2_with fail
    go_ret;exact ⟨rfl, B5.out⟩
  | false =>
  clear hgr
  -- Check
  obtain ⟨k0, k1, k2, k3, kg⟩ := HG5.out.at 1 rfl;obtain ⟨ck, hck⟩ : ∃ q, ckE s a = q := ⟨_, rfl⟩
  obtain ⟨hh, hhh⟩ : ∃ q, ckH s a = q := ⟨_, rfl⟩
  have hCk := Za (Xz _ s a _ (HG5.out.at 2 rfl));rw [hck, hhh] at hCk;replace hck := Za hck;replace hhh := Za hhh
  go_upto_region 4 with fail
  go_wp2_with fail
  with_reducible refine hCk.out.mono ?_
  rintro e w6 ⟨rfl, hb6⟩;have HG6 := Za (HG5.out.below hb6);have B6 := Za (B5.out.trans (hb6.mono B5.out.size));clear hb6 HG5 B5 k0 k1 k2 k3 kg hCk
  -- Find
  obtain ⟨k0, k1, k2, k3, kg⟩ := HG6.out.at 1 rfl;obtain ⟨t0, t1, t2, tg⟩ := HG6.out.at 0 rfl;obtain ⟨fe, hfe⟩ : ∃ q, fdE s a kk = q := ⟨_, rfl⟩
  obtain ⟨y, hy⟩ : ∃ q, fdV s a kk = q := ⟨_, rfl⟩
  have hFd := Za (Ze4 _ s a kk _ (HG6.out.at 2 rfl));rw [hfe, hy] at hFd;unfold kyV at hFd;replace hfe := Za hfe;replace hy := Za hy
  go_upto_region 5 with fail
  go_wp2_with fail
  with_reducible refine hFd.out.mono ?_
  rintro e w7 ⟨P, pc, rfl, -, hb⟩;obtain ⟨w8, hw8, -, -, -, -, -, hs8, hB8, -⟩ := Z8 w7 (.int .u8 (y.1.1.toNat : Int)) (.int .u32 y.1.2.1) (.int .u32 y.1.2.2) (.int .i64 y.2.1) (.slice P y.2.2.length pc) 54;have HG8 := Za ((HG6.out.below hb).below hB8);have B8 := Za (B6.out.trans ((hb.trans (hB8.mono hb.size)).mono B6.out.size));replace hs8 := Za hs8;clear hb hB8 HG6 B6 k0 k1 k2 k3 kg t0 t1 t2 tg hFd
  -- Del
  obtain ⟨k0, k1, k2, k3, kg⟩ := HG8.out.at 1 rfl;obtain ⟨t0, t1, t2, tg⟩ := HG8.out.at 0 rfl;obtain ⟨X, hX⟩ : ∃ X, Zeh s a kk = X := ⟨_, rfl⟩
  obtain ⟨pe, ps, pn2⟩ := X;have hDl := Za (Zkp qa qb qc qd s a kk w8 (HG8.out.at 2 rfl));unfold Yal kyV at hDl;rw [hX] at hDl
  dsimp only at hDl
  replace hX := Za hX
  go_upto_region 6 with fail
  clear hw8
  go_wp2_with fail
  with_reducible refine hDl.out.mono ?_
  rintro e w9 ⟨ra, rb, rc, rd, rfl, hS9, hb9⟩;obtain ⟨w10, hw10, hg10, hB10, -, hs10⟩ := Zds ((HG8.out.below hb9).add (F := Zth _ ps) hS9.drop (Us _ _)) (Qb _ _) (.slice ra.1 ra.2.1 ra.2.2) (.slice rb.1 rb.2.1 rb.2.2) (.slice rc.1 rc.2.1 rc.2.2) (.slice rd.1 rd.2.1 rd.2.2) 29;have HG10 := Za hg10;have B10 := Za (B8.out.trans ((hb9.trans (hB10.mono hb9.size)).mono B8.out.size));replace hs10 := Za hs10;clear hS9 hb9 hB10 hg10 hDl k0 k1 k2 k3 kg t0 t1 t2 tg HG8 B8
  go_upto_region 7 with fail
  clear hw10;obtain ⟨m0, m1, m2, m3, mg⟩ := HG10.out.at 0 rfl;by_cases hpe : pe = 0
  case neg =>
    have t0 : (pe != 0) = true := by simpa using hpe
    obtain ⟨e1, e2⟩ := Z3v (s := s) (a := a) (k := kk) (by rw [hX.out]; exact hpe);rw [hX.out] at e1 e2
    dsimp only at e1 e2
    subst e1 e2
    have hr0 : Hid (rc.2.1 = 0) := Za (by
      obtain ⟨_, hN, _⟩ := (show Sto (Old w10) w10 _ Zi from HG10.out.at 1 rfl).parts;obtain ⟨A', cap', e, _, _, _⟩ := Vd (B := w10.heap.size) (fun p hp => hp) hN;simp only [Value.slice.injEq] at e
      exact e.2.1)
    have hc0 : ((rc.2.1 : Int) == 0) = true := by rw [hr0.out]; rfl
    by_cases hk : ck = 0
    · have i1 : (ck == 0) = true := by simpa using hk
      go_wp2_with fail
      go_ret;exact ⟨rfl, B10.out⟩
    · have i1 : (ck == 0) = false := by simpa using hk
      have i2 : (pe == ck) = true := by
        have := Zxl (s := s) (a := a) (k := kk) (by rw [hck.out]; exact hk);rw [hX.out, hck.out] at this
        simpa using this
      go_wp2_with fail
      go_ret;exact ⟨rfl, B10.out⟩
  subst hpe;obtain ⟨hk, x, hx⟩ := Zyi (s := s) (a := a) (k := kk) (by rw [hX.out]);have hf0 := (Zrn hk hx).1;rw [hfe.out] at hf0;subst hf0;have hck0 := Za hk;rw [hck.out] at hk;subst hk;replace hx := Za hx;clear m0 m1 m2 m3 mg
  -- enough
  obtain ⟨wA, hwA, gA, hsA, hBA⟩ := Yba w10 (.int .i64 a) 3;have HGA := Za (HG10.out.below hBA);have BA := Za (B10.out.trans (hBA.mono B10.out.size));have hen := Za (Zod qa qb qc qd s (some ⟨w10.heap.size, 0, none⟩) 1 1 [a] wA (HGA.out.at 4 rfl) (Z6t gA (Ybd hck0.out)) rfl (by omega) (by omega) (fun r hr => by rw [List.mem_singleton.1 hr]; exact hck0.out));replace hsA := Za hsA;obtain ⟨k0, k1, k2, k3, kg⟩ := HG10.out.at 3 rfl;clear gA hBA
  go_upto_region 11 with fail
  go_wp2_with fail
  with_reducible refine hen.out.mono ?_
  rintro e w11 ⟨V, res, hV1, hV2, hV3, rfl, hb11⟩;have HG11 := Za (HGA.out.below hb11);have B11 := Za (BA.out.trans (hb11.mono BA.out.size));clear hb11 hen k0 k1 k2 k3 kg HGA BA HG10 B10;cases res with
  | false =>
    go_wp2_with fail
    go_ret;exact ⟨rfl, B11.out⟩
  | true =>
  have hHe := Zr0 hck0.out hV1 hV2 (hV3.1 rfl);clear hV1 hV2 hV3;obtain ⟨hHd, -, hhi⟩ := Ztd (k := kk) hHe (by rw [hX.out]);have c4 := Zzj (k := kk) hHe (by rw [hX.out]);rw [hX.out] at hHd hhi c4
  dsimp only at hHd hhi c4
  obtain ⟨f1, f2⟩ := Z9o hck0.out;have g2 := Z3x hHe;have r1 := Za (Zqs hHd.ck);have r2 := Za (Zqs hck0.out);obtain ⟨h2, hh2⟩ : ∃ q, ckH ps pn2 = q := ⟨_, rfl⟩
  obtain ⟨nT, hnT⟩ : ∃ q, (Zad ps pn2).length = q := ⟨_, rfl⟩
  obtain ⟨nS, hnS⟩ : ∃ q, (Zad s a).length = q := ⟨_, rfl⟩
  rw [hhh.out] at f1 f2 hhi;rw [hh2] at hhi;rw [hnS] at g2;rw [hnT, hnS] at c4;have hck2 := Za (Xz _ ps pn2 _ (HG11.out.at 1 rfl));rw [hh2, hHd.ck] at hck2;replace hh2 := Za hh2;replace hnT := Za hnT;replace hnS := Za hnS;clear hHe hHd;obtain ⟨m0, m1, m2, m3, mg⟩ := HG11.out.at 0 rfl
  go_upto_region 13 with fail
  go_wp2_with fail
  with_reducible refine hck2.out.mono ?_
  rintro e w12 ⟨rfl, hb12⟩;have HG12 := Za (HG11.out.below hb12);have B12 := Za (B11.out.trans (hb12.mono B11.out.size));clear hb12 HG11 B11 m0 m1 m2 m3 mg hck2;have i1 : h2 <= hh := hhi;have i2 : IntKind.i64.wrap ((nS : Int) - 1) = (nS : Int) - 1 := IntWalk.i64_in _ (by omega);have i3 : ((nT : Int) == (nS : Int) - 1) = true := by
    have : (nT : Int) = (nS : Int) - 1 := by omega
    simpa using this
  have HGs := Za (fun W (hW : Below w12.heap.size w12 W) => HG12.out.below hW)
  go_upto_region 14 with fail
  refine wp_region_fx (by kernel_rfl) (fun W => Below w12.heap.size w12 W) (fun i => match i with
      | 13 => some (fun v _ => ∃ u c, v = .slice u nT c)
      | 17 => some (fun v _ => ∃ u c, v = .slice u nS c)
      | _ => none) (fun i => match i with
      | 14 => some (.int .i64 (nT : Int))
      | 18 => some (.int .i64 (nS : Int))
      | _ => none) (by kernel_rfl) (Qb _ _).drew (fun w w' h hb => h.trans (hb.mono h.size)) (fun j φ x W W' hp hx hb => by
        match j, hp with
        | 13, hp => cases hp; exact hx
        | 17, hp => cases hp; exact hx) ?_
  repeat (first
    | (refine wpAs_skip rfl ?_; simp only[Qa,Zb,Zc,Zd])
    | (refine wpAs_pure (v := ?_) rfl rfl ?_ ?_; rotate_left; (intro W hC hE; clear hE; (obtain ⟨m0, m1, m2, m3, mg⟩ := (HGs.out W hC).at 0 rfl); clear hC; go_simp; first | done | with_reducible rfl); simp only[Qa,Zb,Zc,Zd]))
  refine wpAs_act rfl rfl ?_ ?_
  · intro W hC hE
    clear hE;refine does_enter (f := 13) (args := #[.agg #[.slice ra.1 ra.2.1 ra.2.2, .slice rb.1 rb.2.1 rb.2.2, .slice rc.1 rc.2.1 rc.2.2, .slice rd.1 rd.2.1 rd.2.2], .int .i64 pn2]) ?_ ?_
    · go_simp
    · refine (Zm3 ra rb rc rd ps pn2 W ((HGs.out W hC).at 1 rfl)).mono ?_
      rintro e W' ⟨u, c, rfl, _, hb⟩;rw [r1.out, hnT.out];exact ⟨_, rfl, ⟨u, c, rfl⟩, hb⟩
  simp only[Qa,Zb,Zc,Zd, envAdd];intro x19;refine wpAs_fixed rfl rfl rfl ?_ ?_
  · intro W hC hE
    obtain ⟨u, c, rfl⟩ := hE.1 rfl;clear hE hC
    go_simp
    exact ⟨rfl, Qb _ _⟩
  simp only[Qa,Zb,Zc,Zd]
  repeat (first
    | (refine wpAs_skip rfl ?_; simp only[Qa,Zb,Zc,Zd])
    | (refine wpAs_pure (v := ?_) rfl rfl ?_ ?_; rotate_left; (intro W hC hE; clear hE; (obtain ⟨m0, m1, m2, m3, mg⟩ := (HGs.out W hC).at 3 rfl); clear hC; go_simp; first | done | with_reducible rfl); simp only[Qa,Zb,Zc,Zd]))
  refine wpAs_act rfl rfl ?_ ?_
  · intro W hC hE
    clear hE;refine does_enter (f := 13) (args := #[.agg #[.slice qa.1 qa.2.1 qa.2.2, .slice qb.1 qb.2.1 qb.2.2, .slice qc.1 qc.2.1 qc.2.2, .slice qd.1 qd.2.1 qd.2.2], .int .i64 a]) ?_ ?_
    · go_simp
    · refine (Zm3 qa qb qc qd s a W ((HGs.out W hC).at 4 rfl)).mono ?_
      rintro e W' ⟨u, c, rfl, _, hb⟩;rw [r2.out, hnS.out];exact ⟨_, rfl, ⟨u, c, rfl⟩, hb⟩
  simp only[Qa,Zb,Zc,Zd, envAdd];intro x23;refine wpAs_fixed rfl rfl rfl ?_ ?_
  · intro W hC hE
    obtain ⟨u, c, rfl⟩ := hE.1 rfl;clear hE hC
    go_simp
    exact ⟨rfl, Qb _ _⟩
  simp only[Qa,Zb,Zc,Zd]
  repeat (first
    | (refine wpAs_skip rfl ?_; simp only[Qa,Zb,Zc,Zd])
    | (refine wpAs_pure (v := ?_) rfl rfl ?_ ?_; rotate_left; (intro W hC hE; clear hE; skip; clear hC; go_simp; first | done | with_reducible rfl); simp only[Qa,Zb,Zc,Zd]))
  refine wpAs_end fun W hC hE=> ?_
  have BF := Za (B12.out.trans (hC.mono B12.out.size));clear hE hC
  go_wp2_with fail
  go_ret;exact ⟨rfl, BF.out⟩

/-! ### The row's step -/
set_option maxRecDepth 100000 in
theorem lifted (os : Os) (started : os.Started) (H : Type) (enc : TypeId × Value -> H) :
    ReturnsInHanded {} Tryz.checked os 8 .any (Rows.delCountsSpec.pre6 enc Tryz.prog Tryz.f8 Rows.delCountsRow.domain false) (Rows.delCountsSpec.post enc Tryz.prog Tryz.f8 false true false false) := by
  refine returnsInHanded_of_change (C := Tryz.checked) own started (by kernel_rfl) Tryz.func8
    (ChangeSpec.witness6 (enc := enc) (C := Tryz.checked) false ⟨#[], #[.agg #[.slice none 0 0, .slice none 0 0, .slice none 0 0, .slice none 0 0], .int .i64 0, .agg #[.int .u8 0, .int .u32 0, .int .u32 0]], []⟩ 8 (by kernel_rfl) (by kernel_rfl) (by kernel_rfl) (by kernel_rfl)) ?_
  intro W base args ds gs before hval0 hW _ _;have hval : ∀ (j : Nat) t v, Tryz.f8.params[j]? = some t -> args[j]? = some v -> Value.okWide Tryz.prog W .any base t v := hval0;have hW' := hW;obtain ⟨p, q, hA0, hV, _, _, _⟩ := hW;have hA : DataW.TrodAll enc Tryz.prog W 0 (fun _ => true) true Tryz.f8.params.toList args.toList ds p := hA0;rw [Tryz.params8] at hA hval;obtain ⟨v0, vs0, d0, ds0, p0, q0, hargs, rfl, _, h0, r0⟩ := trodAll_cons hA;obtain ⟨v1, vs1, d1, ds1, p1, q1, rfl, rfl, _, h1, r1⟩ := trodAll_cons r0;obtain ⟨v2, vs2, d2, ds2, p2, q2, rfl, rfl, _, h2, r2⟩ := trodAll_cons r1;obtain ⟨rfl, rfl, _⟩ := trodAll_nil r2;obtain rfl : args = #[v0, v1, v2] := by cases args; simp_all
  obtain ⟨rfl, _⟩ := trodVars_none hV;obtain ⟨d0x, y0⟩ := Zvw (hval 0 29 v0 rfl rfl) h0;obtain ⟨a1, rfl, _, _, w1⟩ := open_int Tryz.underlying3 (hval 1 3 v1 rfl rfl) h1;obtain ⟨k2x, rfl, _⟩ := Z1p (hval 2 37 v2 rfl rfl) h2;clear hA0 hval0;refine (walk v0 d0x a1 w1 k2x W y0).mono fun e W' ⟨he, hb⟩=> ?_
  subst he;exact ⟨_, rfl, Z3l laidOut (by rw [Tryz.params8]; decide +kernel) (by kernel_rfl) Tryz.underlying4 rfl ⟨rfl, by simp [Rows.delCountsSpec], rfl⟩ hW' hb⟩

theorem over : Rows.delCountsRow.holds Tryz.pinned (OpenSpec.ofChange Rows.delCountsSpec) :=
  OpenClaim.holds_of_wide 8 Tryz.f8 rfl rfl rfl rfl rfl rfl rfl ⟨rfl, rfl, rfl, rfl, rfl⟩ rfl rfl rfl rfl rfl (by kernel_rfl) Tryz.func8 (by kernel_rfl)
    (of_decide_eq_true (by kernel_rfl)) (by unfold Func.isWrapper; first | (rw [if_pos (by decide +kernel)]; kernel_rfl) | (rw [if_neg (by decide +kernel)]; exact ⟨rfl, rfl⟩))
    (fun os started H enc _ => lifted os started H enc)

end Go.Proofs.YtgmbjnajdfgenaaGreat.delCounts
namespace Go.Proofs.YtgmbjnajdfgenaaGreat
theorem delCounts_proved : Rows.DelCountsSaid := delCounts.over
end Go.Proofs.YtgmbjnajdfgenaaGreat
