/-
  A pool's volumes stand in the order of their numbers, each is found under its own, and no other number is; no block is counted less often than it is referred to: for every pool and number.
-/
import Derived.Test.YtmafkphcfkhokaaGreatBnd5
import Derived.Deep.CutRange
open Array renaming getElem?_eq_some_iff → Qd
open Go.Act renaming put → Qa
open Go.IntWalk renaming i64_in → Qi
open Go.RowKit renaming Below → Qj
open Go.RowKit.Below renaming refl → Qb
open List renaming getElem?_eq_some_iff → Qc, getElem?_eq_getElem → Qe, pairwise_iff_getElem → Qf, drop_succ_cons → Qg, drop_zero → Qh
namespace Go.Proofs.YtmafkphcfkhokaaGreat.forestFinds
open Go.ChangeShapes Go.WideShapes Go.RowKit

theorem own : ownKnob Tryz.prog.godebug = none := by kernel_rfl
theorem laidOut : laidOutB Tryz.prog = true := by kernel_rfl

theorem any_find {α : Type}(p : α -> Bool) (vs : List α) : vs.any p = (vs.find? p).isSome := by
  induction vs with
  | nil => rfl
  | cons a l ih =>
    rw [List.any_cons, List.find?_cons, ih];cases p a <;> rfl
theorem find_own {vs : List Vl}(hu : vs.Pairwise fun u v => u.1 < v.1){k : Nat}{v : Vl}(hk : vs[k]? = some v) : vs.find? (Zbr v.1) = some v := by
  refine (Zwf hk (by unfold Zbr; simp) fun j u hj hu'=> ?_).2;obtain ⟨l1, e1⟩ := Qc.1 hu';obtain ⟨l2, e2⟩ := Qc.1 hk;have h2 := Qf.1 hu j k l1 l2 hj;rw [e1, e2] at h2;unfold Zbr;simp;omega
theorem vol_own {qa qb qc qd : Q4}{s : Rm}{gen root next : Int}{dead : List Int}{D : Option Addr}{dl dc : Nat}{vs : List Vl}{g : Sg}{k : Nat}{vi vr vo : Int}{vf : Bool}{W : World}(hlk : Y6 (s, gen, root, next, dead) = some (vs, g)) (hu : vs.Pairwise fun u v => u.1 < v.1) (hk : vs[k]? = some (vi, vr, vf, vo)) (hP : Zhi qa qb qc qd D dl dc s gen root next dead W) :
    Calls Tryz.prog 11 #[.agg #[.slice qa.1 qa.2.1 qa.2.2, .slice qb.1 qb.2.1 qb.2.2, .slice qc.1 qc.2.1 qc.2.2, .slice qd.1 qd.2.1 qd.2.2, .int .u32 gen, .int .i64 root, .int .u32 next, .slice D dl dc], .int .u32 vi] W fun e w' => ∃ v, e = .returned v /\ v = .tuple #[.agg #[.int .u32 vi, .int .i64 vr, .bool vf, .int .u32 vo], .int .i64 0] /\ Qj W.heap.size W w' := by
  have h := Zdz hlk (find_own hu hk);have hv := Zju qa qb qc qd s gen root next dead D dl dc vi W hP
  dsimp only at h
  rw [h] at hv;refine hv.mono ?_;rintro e W' ⟨rfl, hb⟩;exact ⟨_, rfl, rfl, hb⟩
set_option maxRecDepth 100000 in
set_option maxHeartbeats 16000000 in
theorem walk (v : Value) (p : Pl) (id : Int) (_wid : (Lit.int .u32 id).wf = true) (w : World) (h : Pol (Old w) w v p) :
    Calls Tryz.prog 6 #[v, .int .u32 id] w fun e w' => e = .returned (.bool true) /\ Qj w.heap.size w w' := by
  clear _wid;obtain ⟨s, gen, root, next, dead⟩ := p;obtain ⟨qa, qb, ⟨qx, qy, qz⟩, qd, D, dl, dc, rfl, hP⟩ := h.parts;obtain ⟨w1, hw1, b1, hs1, hB1⟩ := Zb6 w (.slice qa.1 qa.2.1 qa.2.2) (.slice qb.1 qb.2.1 qb.2.2) (.slice qx qy qz) (.slice qd.1 qd.2.1 qd.2.2) (.int .u32 gen) (.int .i64 root) (.int .u32 next) (.slice D dl dc) 33;have B1 := Za hB1;have KC := Za (fun W (hW : Qj w1.heap.size w1 W) => Zm ((hW.block _ (Qd.1 b1).1).trans b1));have HP := Za (fun W (hW : Qj w1.heap.size w1 W) => (hP.below hB1).below hW);have hGr := Za (fun W hW => Zrx qa qb (qx, qy, qz) qd s gen root next dead D dl dc W hW);have hRf := Za (fun W hW => Zv9 qa qb (qx, qy, qz) qd s gen root next dead D dl dc W hW);have hVl := Za (fun W hW => Ztb qa qb (qx, qy, qz) qd s gen root next dead D dl dc W hW);have hVo := Za (fun i W hW => Zju qa qb (qx, qy, qz) qd s gen root next dead D dl dc i W hW);have hways := Zru (s, gen, root, next, dead);replace hs1 := Za hs1;clear b1 hB1 hP h;obtain ⟨gb, hgb⟩ : ∃ q, Zph s dead = q := ⟨_, rfl⟩
  rw [hgb] at hGr;replace hgb := Za hgb;have hways' := Za hways;clear hways
  go_enter Tryz.func6, Tryz.ntmps6
  go_upto_region 1 with fail
  clear hw1
  go_wp2_with fail
  with_reducible refine (Z3r _).mono ?_
  rintro e w2 ⟨rfl, hb2⟩;have B2 := Za hb2;clear hb2;obtain ⟨p0, p1, p2, p3, p4, p5, p6, p7, pf, _⟩ := KC.out w2 B2.out
  go_wp2_with fail
  with_reducible refine (hGr.out _ (HP.out w2 B2.out)).mono ?_
  rintro e w3 ⟨rfl, hb3⟩;have B3 := Za (B2.out.trans (hb3.mono B2.out.size));clear hb3 p0 p1 p2 p3 p4 p5 p6 p7 pf;obtain ⟨p0, p1, p2, p3, p4, p5, p6, p7, pf, _⟩ := KC.out w3 B3.out;cases gb with
  | true =>
    have BF := Za (B1.out.trans (B3.out.mono B1.out.size))
    go_wp2_with fail
    go_ret;exact ⟨rfl, BF.out⟩
  | false =>
  have hvl := Za (hVl.out w3 (HP.out w3 B3.out));rcases hways'.out with ⟨hE8, hno⟩ | ⟨hE0, vs, g, hlk, hsn⟩
  · obtain ⟨_, v2, v3, _⟩ := Zqy hno
    have v0 := Zqa (id := id) hno;replace hvl := Za (by have := hvl.out; rw [hE8, v2] at this; exact this);replace hRf := Za (fun W hW => (by have := hRf.out W hW; rw [hE8, v3] at this; exact this));replace hVo := Za (fun W hW => (by have := hVo.out id W hW; rw [v0] at this; exact this));unfold vlV Vi at hVo
    dsimp only at hVo
    clear hE8 hno v2 v3 v0 hways' hVl
    go_wp2_with fail
    with_reducible refine hvl.out.mono ?_
    rintro e w4 ⟨VA, vn, vc, rfl, hv4, hb4⟩;obtain rfl : vn = 0 := ((Zq3 hv4).1).symm;have B4 := Za (B3.out.trans (hb4.mono B3.out.size));clear hb4 hv4 hvl p0 p1 p2 p3 p4 p5 p6 p7 pf;obtain ⟨p0, p1, p2, p3, p4, p5, p6, p7, pf, _⟩ := KC.out w4 B4.out;have hvo := Za (hVo.out w4 (HP.out w4 B4.out))
    go_upto_region 5 with fail
    go_wp2_with fail
    with_reducible refine hvo.out.mono ?_
    rintro e w5 ⟨rfl, hb5⟩;have B5 := Za (B4.out.trans (hb5.mono B4.out.size));clear hb5 hvo hVo p0 p1 p2 p3 p4 p5 p6 p7 pf
    go_upto_region 6 with fail
    obtain ⟨w6, hw6, hB6⟩ : ∃ w6, w5.alloc (.cells #[.int .u32 0, .int .i64 0, .bool false, .int .u32 0] 40) = w6 /\ Qj w5.heap.size w5 w6 := ⟨_, rfl, (Qb _ _).alloc (Nat.le_refl _) _⟩
    rw [hw6];have B6 := Za (B5.out.trans (hB6.mono B5.out.size));replace hw6 := Za hw6;clear hB6;obtain ⟨p0, p1, p2, p3, p4, p5, p6, p7, pf, _⟩ := KC.out w6 B6.out;have hrf := Za (hRf.out w6 (HP.out w6 B6.out))
    go_wp2_with fail
    with_reducible refine hrf.out.mono ?_
    rintro e w7 ⟨RA, rn, rc, rfl, hr7, hb7⟩;obtain rfl : rn = 0 := ((Zq3 hr7).1).symm;have B7 := Za (B6.out.trans (hb7.mono B6.out.size));have BF := Za (B1.out.trans (B7.out.mono B1.out.size));clear hr7 hb7 hrf hRf p0 p1 p2 p3 p4 p5 p6 p7 pf
    go_wp2_with fail
    go_ret;exact ⟨rfl, BF.out⟩
  obtain ⟨_, v2, v3, _⟩ := Zgu hlk;replace hvl := Za (by have := hvl.out; rw [hE0, v2] at this; exact this);replace hRf := Za (fun W hW => (by have := hRf.out W hW; rw [hE0, v3] at this; exact this));obtain ⟨⟨OE, o0, o1, of, o2⟩, hOV⟩ : ∃ r, Zxh (s, gen, root, next, dead) id = r := ⟨_, rfl⟩
  have hvo1 := Za (fun W hW => (by have := hVo.out id W hW; rw [hOV] at this; exact this));unfold vlV at hvo1
  dsimp only at hvo1
  have hOW : Hid ((vs.find? (Zbr id) = none /\ OE = 6 /\ o0 = 0 /\ o1 = 0 /\ of = false /\ o2 = 0) \/ (OE = 0 /\ vs.find? (Zbr id) = some (o0, o1, of, o2))) := Za (by
    cases hf : vs.find? (Zbr id) with
    | none =>
      rw [Zlu hlk hf] at hOV;unfold Vi at hOV;simp only [Prod.mk.injEq] at hOV;obtain ⟨e1, e2, e3, e4, e5⟩ := hOV;exact .inl ⟨rfl, e1.symm, e2.symm, e3.symm, e4.symm, e5.symm⟩
    | some u =>
      rw [Zdz hlk hf] at hOV;simp only [Prod.mk.injEq] at hOV
      exact .inr ⟨hOV.1.symm, by rw [hOV.2]⟩)
  have SN := Za hsn;have hown := Za (fun k vi vr vf vo hk W (hW : Qj w1.heap.size w1 W) => vol_own (k := k) (vi := vi) (vr := vr) (vf := vf) (vo := vo) hlk SN.out.up hk (HP.out W hW))
  dsimp only at hown
  have hl256 : s.2.1.length = 256 := by
    obtain ⟨_, _, hm, _⟩ := Vh (Zlv SN.out.may).2.1;exact Yi (Yq hm).2.1
  have hS := (HP.out _ (Qb _ _)).sto.parts.2.1;obtain ⟨NA', ncp, e, _, _, hcl⟩ := Zo hS;simp only [Value.slice.injEq] at e;obtain ⟨eq1, eq2, eq3⟩ := e;rw [hl256] at eq2;obtain ⟨ad2, e2, _⟩ := hcl 0 (by omega);have hnow : Hid (∀ k, k < 256 -> ∀ W, Qj w1.heap.size w1 W -> W.cell? (ad2.add k) = some (.int .u8 ((s.2.1[k]?.getD 0).toNat : Int))) := Za fun k hk W hW => by
    obtain ⟨ad3, e3, ho, hc⟩ := hcl k (by omega);rw [e2] at e3;cases e3;exact (hW.cell ho).trans hc
  subst e2 eq1 eq2 eq3;clear hE0 hlk v2 v3 hways' hVl hVo hOV hsn hl256 hS hcl
  go_wp2_with fail
  with_reducible refine hvl.out.mono ?_
  rintro e w4 ⟨VA, vn, vc, rfl, hv4, hb4⟩;have B4 := Za (B3.out.trans (hb4.mono B3.out.size));obtain ⟨hvn, hvn63⟩ := Zq3 hv4;have V4 := Za hv4;have hvn' := Za hvn;have hv16 : vn <= 16 := by rw [<- hvn]; exact SN.out.few
  clear hb4 hv4 hvl hvn p0 p1 p2 p3 p4 p5 p6 p7 pf;obtain ⟨p0, p1, p2, p3, p4, p5, p6, p7, pf, _⟩ := KC.out w4 B4.out;have hvo := Za (hvo1.out w4 (HP.out w4 B4.out))
  go_upto_region 5 with fail
  go_wp2_with fail
  with_reducible refine hvo.out.mono ?_
  rintro e w5 ⟨rfl, hb5⟩;have B5 := Za (B4.out.trans (hb5.mono B4.out.size));have V5 := Za ((Zv Yk).old V4.out hb5);clear hb5 hvo hvo1 V4 p0 p1 p2 p3 p4 p5 p6 p7 pf
  go_upto_region 6 with fail
  obtain ⟨w6, hw6, b6, hs6, hB6⟩ := Xy w5 (.int .u32 o0) (.int .i64 o1) (.bool of) (.int .u32 o2) 40;rw [hw6];have B6 := Za (B5.out.trans (hB6.mono B5.out.size));have V6 := Za ((Zv Yk).old V5.out hB6);have OC := Za (fun W (hW : Qj w6.heap.size w6 W) => Ze ((hW.block _ (Qd.1 b6).1).trans b6));replace hw6 := Za hw6;clear hB6 b6 hs6 V5;obtain ⟨p0, p1, p2, p3, p4, p5, p6, p7, pf, _⟩ := KC.out w6 B6.out;have hrf := Za (hRf.out w6 (HP.out w6 B6.out))
  go_wp2_with fail
  with_reducible refine hrf.out.mono ?_
  rintro e w7 ⟨RA, rn, rc, rfl, hr7, hb7⟩;have B7 := Za (B6.out.trans (hb7.mono B6.out.size));have B67 := Za hb7;obtain ⟨hrl, hrn63⟩ := Zq3 hr7;obtain rfl : rn = 256 := by rw [<- hrl]; exact SN.out.gg.len
  have V7 := Za ((Zv Yk).old V6.out hb7)
  have hrx := Za (fun (k : Nat) (hk : k < 256) => (by
    have := SN.out.gg.len;rw [Qe (by omega)]
    rfl : g.2[k]? = some (g.2[k]?.getD 0)))
  obtain ⟨ad, era, _⟩ := Z48 hr7 (hrx.out 0 (by omega));subst era;have hrc : Hid (∀ k, k < 256 -> ∀ W, Qj w7.heap.size w7 W -> W.cell? (ad.add k) = some (.int .i64 (g.2[k]?.getD 0))) := Za fun k hk W hW => by
    obtain ⟨ad', e, h⟩ := Z48 hr7 (hrx.out k hk);cases e;exact h W hW
  clear hb7 hrf hRf hrx hr7 hrl hrn63 V6 p0 p1 p2 p3 p4 p5 p6 p7 pf;obtain ⟨p0, p1, p2, p3, p4, p5, p6, p7, pf, _⟩ := KC.out w7 B7.out;have h256 : ((256 : Int) != 256) = false := by decide
  have i16 : ¬ (16 : Int) < (vn : Int) := by omega
  obtain ⟨h8, hx256, _, hx1⟩ := SN.out.node SN.out.root
  dsimp only at h8 hx256 hx1
  obtain ⟨jr, rfl⟩ : ∃ jr : Nat, root = jr := ⟨root.toNat, by omega⟩
  have hq := hrc.out jr (by omega) _ (Qb _ _);obtain ⟨zz, hzz⟩ : ∃ z, g.2[jr]?.getD 0 = z := ⟨_, rfl⟩
  rw [hzz] at hq;have hz1 : 1 <= zz := by rw [<- hzz]; exact hx1
  have hz0 : ¬ zz < 1 := by omega
  have i6 : (0 : Int) <= (jr : Int) := by omega
  have i7 : (jr : Int) < 256 := by omega
  replace hzz := Za hzz;clear hx1 h8 hx256
  go_upto_region 9 with fail
  go_upto_region 11 with fail
  go_upto_region 12 with fail
  go_wp2_with fail
  go_loopw [13, 12] (fun vi vt wr => ∃ (k : Nat) (tb : Bool), k <= vn /\ vi = .int .i64 k /\ vt = .bool tb /\ (vs.take k).any (Zbr id) = tb /\ Qj w7.heap.size w7 wr) (fun vi _ _ => vn - (intOf vi).toNat)
  case atStart => exact ⟨0, false, by omega, rfl, rfl, rfl, Qb _ _⟩
  case round =>
  obtain ⟨k, tb, hk, rfl, rfl, htb, hbr⟩ := hrel;have BR := Za hbr;have BO := Za (B7.out.trans (hbr.mono B7.out.size));have HTB := Za htb;clear hbr htb p0 p1 p2 p3 p4 p5 p6 p7 pf hq hz0 hz1 i6 i7;by_cases hlt : k < vn
  case pos =>
    obtain ⟨⟨vi, vr, vf, vo⟩, hv⟩ : ∃ v, vs[k]? = some v := ⟨_, Qe (by rw [hvn'.out]; exact hlt)⟩
    have hvm := List.mem_of_getElem? hv;obtain ⟨_, hid0, hid1⟩ := SN.out.vols _ hvm;obtain ⟨h8, hx256, _, hx1⟩ := SN.out.node (SN.out.roots _ hvm);have hNc0 := hown.out k _ _ _ _ hv;have hgo : Hid ((vs.take (k + 1)).any (Zbr id) = (tb || Zbr id (vi, vr, vf, vo))) := Za (by rw [List.take_add_one, hv, List.any_append, HTB.out]; simp)
    dsimp only at hid0 hid1 h8 hx256 hx1 hNc0
    obtain ⟨j, rfl⟩ : ∃ j : Nat, vr = j := ⟨vr.toNat, by omega⟩
    obtain ⟨vad, rfl, hy0⟩ := Zun V7.out hv;have hy := Za hy0;have hNc := Za hNc0;have j256 : j < 256 := by omega
    have hq := Za (fun W hW => hrc.out j j256 W hW);obtain ⟨zz, hzz⟩ : ∃ z, g.2[j]?.getD 0 = z := ⟨_, rfl⟩
    have hz1 : 1 <= zz := by rw [<- hzz]; exact hx1
    rw [hzz] at hq;have i1 : ¬ vi < 1 := by omega
    have i2 : ¬ next <= vi := by omega
    have i3 : ¬ (j : Int) < 8 := by omega
    have i4 : ¬ (255 : Int) < (j : Int) := by omega
    have i5 : ¬ zz < 1 := by omega
    have i6 : (0 : Int) <= (k : Int) := by omega
    have i7 : (k : Int) < (vn : Int) := by omega
    have i8 : (0 : Int) <= (j : Int) := by omega
    have i9 : (j : Int) < 256 := by omega
    replace hzz := Za hzz;have hv' := Za hv;have hgu := Zli;have hsm := fun w => Zpl vi (j : Int) vo vf w
    clear hy0 hx1 hv h8 hx256 hvm hid0 hid1 hNc0
    go_upto_region 15 with fail
    refine Xi (ops' := ?opsLate) (by kernel_rfl) [(11, 9)] ?he (by kernel_rfl) (fun d _ _ _ _ h => by cases d <;> exact h) 11 (fun W => Qj wr.heap.size wr W) (fun i => match i with
      | 6 => some (fun v _ => v = .tuple #[.agg #[.int .u32 vi, .int .i64 j, .bool vf, .int .u32 vo], .int .i64 0])
      | 7 => some (fun v _ => v = .tuple #[.agg #[.int .u32 vi, .int .i64 j, .bool vf, .int .u32 vo], .int .i64 0])
      | 8 => some (fun v _ => v = .agg #[.int .u32 vi, .int .i64 j, .bool vf, .int .u32 vo])
      | 10 => some (fun v W => ∃ g, v = .pointer (some ⟨g, 0, none⟩) /\ wr.heap.size <= g /\ W.heap[g]? = some (.cells #[.int .u32 0, .int .i64 0, .bool false, .int .u32 0] 40 (0, 0)))
      | _ => none) (fun i => match i with
      | 9 => some (.int .i64 0)
      | _ => none) ?h1 ?h2 ?h3 (Qb _ _).drew (fun w w' h hb => h.trans (hb.mono h.size)) ?tst ?_
    case he =>
      simp [Z7];rfl
    case h1 => decide
    case h2 => kernel_rfl
    case h3 => kernel_rfl
    case tst =>
      intro j φ x W W' hp hx hb
      match j, hp with
      | 6, hp => cases hp; exact hx
      | 7, hp => cases hp; exact hx
      | 8, hp => cases hp; exact hx
      | 10, hp => cases hp; obtain ⟨g, e, h1, h2⟩ := hx; exact ⟨g, e, h1, (hb.block g (Qd.1 h2).1).trans h2⟩
    simp only [List.take_succ_cons, List.take_zero, Qg, Qh]
    repeat (first
      | (refine wpAs_skip rfl ?_; simp only[Qa,Zb,Zc,Zd])
      | (refine wpAs_pure (v := ?_) rfl rfl ?_ ?_; rotate_left; (intro W hC hE; clear hE; (have hbW := BR.out.trans (hC.mono BR.out.size); obtain ⟨y0, y1, y2, y3⟩ := hy.out W hbW; obtain ⟨p0, p1, p2, p3, p4, p5, p6, p7, pf, _⟩ := KC.out W (BO.out.trans (hC.mono BO.out.size))); clear hC; go_simp; first | done | with_reducible rfl); simp only[Qa,Zb,Zc,Zd]))
    refine wpAs_act rfl rfl ?_ ?_
    · intro W hC hE
      clear hE;refine does_enter (f := 11) (args := #[.agg #[.slice qa.1 qa.2.1 qa.2.2, .slice qb.1 qb.2.1 qb.2.2, .slice (some ad2) 256 qz, .slice qd.1 qd.2.1 qd.2.2, .int .u32 gen, .int .i64 jr, .int .u32 next, .slice D dl dc], .int .u32 vi]) ?_ ?_
      · go_simp
      · exact hNc.out W (BO.out.trans (hC.mono BO.out.size))
    simp only[Qa,Zb,Zc,Zd, envAdd];intro x2;refine wpAs_act rfl rfl ?_ ?_
    · intro W hC hE
      have h7 := hE.1 rfl;clear hE hC
      go_simp
      exact ⟨h7, Qb _ _⟩
    simp only[Qa,Zb,Zc,Zd, envAdd];intro x3;refine wpAs_act rfl rfl ?_ ?_
    · intro W hC hE
      obtain rfl := hE.1 rfl;clear hE hC
      go_simp
      exact ⟨rfl, Qb _ _⟩
    simp only[Qa,Zb,Zc,Zd, envAdd];intro x4;refine wpAs_fixed rfl rfl rfl ?_ ?_
    · intro W hC hE
      obtain rfl := hE.2.1 rfl;clear hE hC
      go_simp
      exact ⟨rfl, Qb _ _⟩
    simp only[Qa,Zb,Zc,Zd];refine wpAs_act rfl rfl ?_ ?_
    · intro W hC hE
      have hs := hC.size;clear hE hC
      go_simp
      exact ⟨⟨W.heap.size, rfl, hs, heap_alloc_new _ _⟩, (Qb _ _).alloc (Nat.le_refl _) _⟩
    simp only[Qa,Zb,Zc,Zd, envAdd];intro x6;refine wpAs_end fun W hC hE=> ?_
    obtain ⟨⟨gq, rfl, hgq, hzq⟩, rfl, _⟩ := hE;obtain ⟨c0, c1, c2, c3, cf, _⟩ := Ze hzq;obtain ⟨wb, hwb, gb9, gr9, gs9⟩ := Zt (a' := .int .u32 vi) (b' := .int .i64 j) (c' := .bool vf) (d' := .int .u32 vo) hzq;have hb9 := hC.grown gr9 hC.size (fun q e => by cases e; exact hgq);have BW := Za (BR.out.trans (hb9.mono BR.out.size));have BWO := Za (BO.out.trans (hb9.mono BO.out.size));have XC := Za (fun W (hW : Qj wb.heap.size wb W) => Ze ((hW.block _ (Qd.1 gb9).1).trans gb9));clear hC gr9 gs9 hb9 gb9 hNc
    go_upto_region 16 with fail
    clear hwb c0 c1 c2 c3 cf
    go_cut [172] from 100 to 171 (fun x172 wx => x172 = .bool false /\ Qj wb.heap.size wb wx)
    case first =>
      by_cases hk0 : k = 0
      · have i20 : ¬ (0 : Int) < (k : Int) := by omega
        replace hk0 := Za hk0;refine wp_region_fx (by kernel_rfl) (fun W => Qj wb.heap.size wb W) (fun _ => none) (fun _ => none) (by kernel_rfl) (Qb _ _).drew (fun w w' h hb => h.trans (hb.mono h.size)) (fun j φ x W W' hp => by cases hp) ?_
        iterate 31 (first
          | (refine wpAs_skip rfl ?_; simp only[Qa,Zb,Zc,Zd])
          | (refine wpAs_pure (v := ?_) rfl rfl ?_ ?_; rotate_left; (intro W hC hE; clear hE; (have hbW := BW.out.trans (hC.mono BW.out.size); obtain ⟨y0, y1, y2, y3⟩ := hy.out W hbW; obtain ⟨x0, x1, x2, x3, xf, _⟩ := XC.out W hC; have q0 := hq.out W hbW; obtain ⟨p0, p1, p2, p3, p4, p5, p6, p7, pf, _⟩ := KC.out W (BWO.out.trans (hC.mono BWO.out.size))); clear hC; go_simp; with_reducible rfl); simp only[Qa,Zb,Zc,Zd]))
        have i20n : ¬ 0 < k := by have := hk0.out; omega
        simp only [List.append];refine Zhr (v := .bool false) 12 rfl rfl rfl ?_ (by kernel_rfl) ?_
        · intro W hC hE
          clear hE hC
          first
            | (go_simp; done)
            | (go_simp; simp; omega)
            | (go_simp; simp_all; done)
        simp only [Zyc, Qa, Qg, Qh, List.setIfInBounds_toArray, List.set_cons_zero, List.set_cons_succ]
        repeat (first
          | (refine wpAs_skip rfl ?_; simp only[Qa,Zb,Zc,Zd])
          | (refine wpAs_pure (v := ?_) rfl rfl ?_ ?_; rotate_left; (intro W hC hE; clear hE; (have hbW := BW.out.trans (hC.mono BW.out.size); obtain ⟨y0, y1, y2, y3⟩ := hy.out W hbW; obtain ⟨x0, x1, x2, x3, xf, _⟩ := XC.out W hC; have q0 := hq.out W hbW; obtain ⟨p0, p1, p2, p3, p4, p5, p6, p7, pf, _⟩ := KC.out W (BWO.out.trans (hC.mono BWO.out.size))); clear hC; go_simp; first | done | with_reducible rfl); simp only[Qa,Zb,Zc,Zd]))
        refine wpAs_end fun W0 hC hE=> ?_
        clear hE;have hC' := Za hC;clear hC
        go_wp2_with fail
        go_meet;exact ⟨rfl, hC'.out⟩
      · have i20 : (0 : Int) < (k : Int) := by omega
        have i20n : 0 < k := by omega
        obtain ⟨kk, hkk⟩ : ∃ kk, k = kk + 1 := ⟨k - 1, by omega⟩
        obtain ⟨⟨ui, ur, uf, uo⟩, hu⟩ : ∃ v, vs[kk]? = some v := ⟨_, Qe (by rw [hvn'.out]; omega)⟩
        have hls : ui < vi := by
          have h1 := SN.out.up;obtain ⟨l1, e1⟩ := Qc.1 hu;have hv2 := hv'.out;rw [hkk] at hv2;obtain ⟨l2, e2⟩ := Qc.1 hv2;have h2 := Qf.1 h1 kk (kk + 1) l1 l2 (by omega);rw [e1, e2] at h2;exact h2
        have i21 : ¬ vi <= ui := by omega
        obtain ⟨vad', e7, hyy0⟩ := Zun V7.out hu;cases e7;have hyy := Za hyy0;have i10 : (k : Int) - 1 = (kk : Int) := by omega
        have i11 : IntKind.i64.wrap (kk : Int) = (kk : Int) := Qi _ (by omega);have i12 : (kk : Int) < (vn : Int) := by omega
        have i13 : (0 : Int) <= (kk : Int) := by omega
        replace hu := Za hu;replace hkk := Za hkk;clear hyy0 hls;refine wp_region_fx (by kernel_rfl) (fun W => Qj wb.heap.size wb W) (fun _ => none) (fun _ => none) (by kernel_rfl) (Qb _ _).drew (fun w w' h hb => h.trans (hb.mono h.size)) (fun j φ x W W' hp => by cases hp) ?_
        repeat (first
          | (refine wpAs_skip rfl ?_; simp only[Qa,Zb,Zc,Zd])
          | (refine wpAs_pure (v := ?_) rfl rfl ?_ ?_; rotate_left; (intro W hC hE; clear hE; (have hbW := BW.out.trans (hC.mono BW.out.size); obtain ⟨y0, y1, y2, y3⟩ := hy.out W hbW; obtain ⟨x0, x1, x2, x3, xf, _⟩ := XC.out W hC; have q0 := hq.out W hbW; obtain ⟨p0, p1, p2, p3, p4, p5, p6, p7, pf, _⟩ := KC.out W (BWO.out.trans (hC.mono BWO.out.size)); obtain ⟨u0, _, _, _⟩ := hyy.out W hbW); clear hC; go_simp; first | done | with_reducible rfl); simp only[Qa,Zb,Zc,Zd]))
        refine wpAs_end fun W0 hC hE=> ?_
        clear hE;have hC' := Za hC;clear hC
        go_wp2_with fail
        go_meet;exact ⟨rfl, hC'.out⟩
    case rest =>
    obtain ⟨rfl, hbc⟩ := hcut;have BC := Za (BW.out.trans (hbc.mono BW.out.size));clear hbc XC BWO;obtain ⟨y0, y1, y2, y3⟩ := hy.out _ BC.out;by_cases hid : vi = id
    · obtain rfl : id = vi := hid.symm
      have hf := find_own SN.out.up hv'.out
      dsimp only at hf
      rcases hOW.out with ⟨hn, _⟩ | ⟨rfl, hs⟩
      · rw [hf] at hn
        cases hn
      rw [hf] at hs;simp only [Option.some.injEq, Prod.mk.injEq] at hs;obtain ⟨s0, s1, s2, s3⟩ := hs;subst s0 s1 s2 s3;clear hid hf
      go_upto_region 20 with fail
      clear y0 y1 y2 y3
      go_cut [185] from 180 to 184 (fun x185 wx => x185 = .bool false /\ Qj wc.heap.size wc wx)
      case first =>
        refine wp_region_fx (by kernel_rfl) (fun W => Qj wc.heap.size wc W) (fun _ => none) (fun _ => none) (by kernel_rfl) (Qb _ _).drew (fun w w' h hb => h.trans (hb.mono h.size)) (fun j φ x W W' hp => by cases hp) ?_
        repeat (first
          | (refine wpAs_skip rfl ?_; simp only[Qa,Zb,Zc,Zd])
          | (refine wpAs_pure (v := ?_) rfl rfl ?_ ?_; rotate_left; (intro W hC hE; clear hE; (have hbW := BC.out.trans (hC.mono BC.out.size); obtain ⟨y0, y1, y2, y3⟩ := hy.out W hbW; obtain ⟨o0, o1, o2, o3, ofz, _⟩ := OC.out W (B67.out.trans (hbW.mono B67.out.size))); clear hC; go_simp; first | done | with_reducible rfl); simp only[Qa,Zb,Zc,Zd]))
        refine wpAs_end fun W0 hC hE=> ?_
        clear hE;have hC' := Za hC;clear hC
        go_wp2_with fail
        go_meet;exact ⟨rfl, hC'.out⟩
      case rest =>
      obtain ⟨rfl, hbd⟩ := hcut;have BD := Za (BC.out.trans (hbd.mono BC.out.size));clear hbd
      go_wp2_with fail
      go_roundw
      case rel => exact ⟨k + 1, true, by omega, by go_num, rfl, by rw [hgo.out]; unfold Zbr; simp, BD.out⟩
      case measure => simp [intOf]; omega
    · have hidn : (vi == id) = false := by simpa using hid
      replace hid := Za hid
      go_wp2_with fail
      go_roundw
      case rel => exact ⟨k + 1, tb, by omega, by go_num, rfl, by rw [hgo.out]; unfold Zbr; simp [hid.out], BC.out⟩
      case measure => simp [intOf]; omega
  obtain rfl : k = vn := by omega
  have hTB : (vs.find? (Zbr id)).isSome = tb := by
    rw [<- any_find, <- HTB.out, List.take_of_length_le (by rw [hvn'.out]; omega)]
  have hTB' := Za hTB;have B8 := BR;have BO8 := BO;obtain ⟨w8, rfl⟩ : ∃ w8 : World, w8 = wr := ⟨_, rfl⟩
  clear BR BO V7 HTB hTB
  go_wp2_with fail
  go_loopw [16] (fun vi wr => ∃ i : Nat, i <= 256 /\ vi = .int .i64 i /\ Qj w8.heap.size w8 wr) (fun vi _ => 256 - (intOf vi).toNat)
  case atStart => exact ⟨0, by omega, rfl, Qb _ _⟩
  case round =>
  obtain ⟨i, hi, rfl, hbr⟩ := hrel;have BK := Za hbr;have BR := Za (B8.out.trans (hbr.mono B8.out.size));have BO := Za (BO8.out.trans (hbr.mono BO8.out.size));clear hbr;by_cases hlt : i < 256
  case pos =>
    have hz := Za (fun W hW => hrc.out i hlt W hW);have hle := SN.out.le hlt;obtain ⟨zz, hzz⟩ : ∃ z, g.2[i]?.getD 0 = z := ⟨_, rfl⟩
    obtain ⟨yy, hyy⟩ : ∃ z, ((s.2.1[i]?.getD 0).toNat : Int) = z := ⟨_, rfl⟩
    have hy0 : 0 <= yy /\ yy < 256 := by
      have := (s.2.1[i]?.getD 0).toNat_lt;omega
    have wr1 : IntKind.i64.wrap yy = yy := Qi _ (by omega);rw [hzz] at hz;have hle' : 0 <= zz /\ zz <= yy := by rw [<- hzz, <- hyy]; exact hle
    have i1 : ¬ zz < 0 := by omega
    have i2 : ¬ yy < zz := by omega
    have hn := Za (fun W hW => hnow.out i hlt W hW);rw [hyy] at hn;have i4 : (0 : Int) <= (i : Int) := by omega
    have i5 : (i : Int) < 256 := by omega
    replace hzz := Za hzz;replace hyy := Za hyy;clear hle hle'
    go_upto_region 25 with fail
    go_cut [201] from 190 to 200 (fun x201 wx => x201 = .bool false /\ Qj wr.heap.size wr wx)
    case first =>
      refine wp_region_fx (by kernel_rfl) (fun W => Qj wr.heap.size wr W) (fun _ => none) (fun _ => none) (by kernel_rfl) (Qb _ _).drew (fun w w' h hb => h.trans (hb.mono h.size)) (fun j φ x W W' hp => by cases hp) ?_
      repeat (first
        | (refine wpAs_skip rfl ?_; simp only[Qa,Zb,Zc,Zd])
        | (refine wpAs_pure (v := ?_) rfl rfl ?_ ?_; rotate_left; (intro W hC hE; clear hE; (have hbW := BR.out.trans (hC.mono BR.out.size); have z0 := hz.out W hbW; have hbO := BO.out.trans (hC.mono BO.out.size); have n0 := hn.out W hbO; obtain ⟨p0, p1, p2, p3, p4, p5, p6, p7, pf, _⟩ := KC.out W hbO); clear hC; go_simp; first | done | with_reducible rfl); simp only[Qa,Zb,Zc,Zd]))
      refine wpAs_end fun W0 hC hE=> ?_
      clear hE;have hC' := Za hC;clear hC
      go_wp2_with fail
      go_meet;exact ⟨rfl, hC'.out⟩
    case rest =>
    obtain ⟨rfl, hbc⟩ := hcut;have BC := Za (BK.out.trans (hbc.mono BK.out.size));clear hbc
    go_wp2_with fail
    go_roundw
    case rel => exact ⟨i + 1, by omega, by go_num, BC.out⟩
    case measure => simp [intOf]; omega
  obtain rfl : i = 256 := by omega
  have BF := Za (B1.out.trans (BO.out.mono B1.out.size));obtain ⟨z0, z1, z2, z3, zf, _⟩ := OC.out _ (B67.out.trans (BR.out.mono B67.out.size));have hgu := Zli;rcases hOW.out with ⟨hf, rfl, rfl, rfl, rfl, rfl⟩ | ⟨rfl, hf⟩
  · obtain rfl : tb = false := by rw [<- hTB'.out, hf]; rfl
    have hsm := fun w => Zpl 0 0 0 false w
    clear hf
    go_wp2_with fail
    go_ret;exact ⟨rfl, BF.out⟩
  · obtain rfl : tb = true := by rw [<- hTB'.out, hf]; rfl
    clear hf
    go_wp2_with fail
    go_ret;exact ⟨rfl, BF.out⟩

/-! ### The row's step -/
set_option maxRecDepth 100000 in
theorem lifted (os : Os) (started : os.Started) (H : Type) (enc : TypeId × Value -> H) :
    ReturnsInHanded {} Tryz.checked os 6 .any (Rows.forestFindsSpec.pre6 enc Tryz.prog Tryz.f6 Rows.forestFindsRow.domain false) (Rows.forestFindsSpec.post enc Tryz.prog Tryz.f6 false true false false) := by
  refine returnsInHanded_of_change (C := Tryz.checked) own started (by kernel_rfl) Tryz.func6
    (ChangeSpec.witness6 (enc := enc) (C := Tryz.checked) false ⟨#[], #[.agg #[.slice none 0 0, .slice none 0 0, .slice none 0 0, .slice none 0 0, .int .u32 0, .int .i64 0, .int .u32 0, .slice none 0 0], .int .u32 0], []⟩ 8 (by kernel_rfl) (by kernel_rfl) (by kernel_rfl) (by kernel_rfl)) ?_
  intro W base args ds gs before hval0 hW _ _;have hval : ∀ (j : Nat) t v, Tryz.f6.params[j]? = some t -> args[j]? = some v -> Value.okWide Tryz.prog W .any base t v := hval0;have hW' := hW;obtain ⟨p, q, hA0, hV, _, _, _⟩ := hW;have hA : DataW.TrodAll enc Tryz.prog W 0 (fun _ => true) true Tryz.f6.params.toList args.toList ds p := hA0;rw [Tryz.params6] at hA hval;obtain ⟨v0, vs0, d0, ds0, p0, q0, hargs, rfl, _, h0, r0⟩ := trodAll_cons hA;obtain ⟨v1, vs1, d1, ds1, p1, q1, rfl, rfl, _, h1, r1⟩ := trodAll_cons r0;obtain ⟨rfl, rfl, _⟩ := trodAll_nil r1;obtain rfl : args = #[v0, v1] := by cases args; simp_all
  obtain ⟨rfl, _⟩ := trodVars_none hV;obtain ⟨d0x, y0⟩ := Zwj (hval 0 33 v0 rfl rfl) h0;obtain ⟨a1, rfl, _, _, w1⟩ := open_int Tryz.underlying30 (hval 1 30 v1 rfl rfl) h1;clear hA0 hval0;refine (walk v0 d0x a1 w1 W y0).mono fun e W' ⟨he, hb⟩=> ?_
  subst he;exact ⟨_, rfl, Z0k laidOut (by rw [Tryz.params6]; decide +kernel) (by kernel_rfl) Tryz.underlying4 rfl ⟨rfl, by simp [Rows.forestFindsSpec], rfl⟩ hW' hb⟩

theorem over : Rows.forestFindsRow.holds Tryz.pinned (OpenSpec.ofChange Rows.forestFindsSpec) :=
  OpenClaim.holds_of_wide 6 Tryz.f6 rfl rfl rfl rfl rfl rfl rfl ⟨rfl, rfl, rfl, rfl, rfl⟩ rfl rfl rfl rfl rfl (by kernel_rfl) Tryz.func6 (by kernel_rfl)
    (of_decide_eq_true (by kernel_rfl)) (by unfold Func.isWrapper; first | (rw [if_pos (by decide +kernel)]; kernel_rfl) | (rw [if_neg (by decide +kernel)]; exact ⟨rfl, rfl⟩))
    (fun os started H enc _ => lifted os started H enc)

end Go.Proofs.YtmafkphcfkhokaaGreat.forestFinds
namespace Go.Proofs.YtmafkphcfkhokaaGreat
theorem forestFinds_proved : Rows.ForestFindsSaid := forestFinds.over
end Go.Proofs.YtmafkphcfkhokaaGreat
