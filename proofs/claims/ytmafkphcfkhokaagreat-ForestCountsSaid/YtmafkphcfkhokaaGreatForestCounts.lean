/-
  A pool's nodes are blocks that it refers to, each of which is a node's; it refers to each volume's root; no block is counted less often, for every pool.
-/
import Derived.Test.YtmafkphcfkhokaaGreatBnd5
import Derived.Deep.CutRange
open Array renaming getElem?_eq_some_iff → Qg
open Go.Act renaming put → Qa
open Go.IntWalk renaming i64_in → Qd
open Go.RowKit renaming Below → Qm
open Go.RowKit.Below renaming refl → Qb
open List renaming getElem?_eq_getElem → Qc, drop_succ_cons → Qe, drop_zero → Qf, mem_of_getElem? → Qh, setIfInBounds_toArray → Qi, set_cons_zero → Qj, set_cons_succ → Qk, getElem?_eq_some_iff → Ql
namespace Go.Proofs.YtmafkphcfkhokaaGreat.forestCounts
open Go.ChangeShapes Go.WideShapes Go.RowKit

theorem own : ownKnob Tryz.prog.godebug = none := by kernel_rfl
theorem laidOut : laidOutB Tryz.prog = true := by kernel_rfl

set_option maxRecDepth 100000 in
set_option maxHeartbeats 16000000 in
theorem walk (v : Value) (p : Pl) (w : World) (h : Pol (Old w) w v p) :
    Calls Tryz.prog 5 #[v] w fun e w' => e = .returned (.bool true) /\ Qm w.heap.size w w' := by
  obtain ⟨s, gen, root, next, dead⟩ := p;obtain ⟨qa, qb, ⟨qx, qy, qz⟩, qd, D, dl, dc, rfl, hP⟩ := h.parts;obtain ⟨w1, hw1, b1, hs1, hB1⟩ := Zbn w (.slice qa.1 qa.2.1 qa.2.2) (.slice qb.1 qb.2.1 qb.2.2) (.slice qx qy qz) (.slice qd.1 qd.2.1 qd.2.2) (.int .u32 gen) (.int .i64 root) (.int .u32 next) (.slice D dl dc) 33;have B1 := Za hB1;have KC := Za (fun W (hW : Qm w1.heap.size w1 W) => Zl ((hW.block _ (Qg.1 b1).1).trans b1));have HP := Za (fun W (hW : Qm w1.heap.size w1 W) => (hP.below hB1).below hW);have hGr := Za (fun W hW => Zr2 qa qb (qx, qy, qz) qd s gen root next dead D dl dc W hW);have hCk := Za (fun W hW => Zh8 qa qb (qx, qy, qz) qd s gen root next dead D dl dc W hW);have hRf := Za (fun W hW => Zxe qa qb (qx, qy, qz) qd s gen root next dead D dl dc W hW);have hNd := Za (fun W hW => Zsf qa qb (qx, qy, qz) qd s gen root next dead D dl dc W hW);have hVl := Za (fun W hW => Zum qa qb (qx, qy, qz) qd s gen root next dead D dl dc W hW);have hways := Zro (s, gen, root, next, dead);replace hs1 := Za hs1;clear b1 hB1 hP h;obtain ⟨gb, hgb⟩ : ∃ q, Zo8 s dead = q := ⟨_, rfl⟩
  rw [hgb] at hGr;replace hgb := Za hgb
  go_enter Tryz.func5, Tryz.ntmps5
  go_upto_region 1 with fail
  clear hw1
  go_wp2_with fail
  with_reducible refine (Z11 _).mono ?_
  rintro e w2 ⟨rfl, hb2⟩;have B2 := Za hb2;clear hb2;obtain ⟨p0, p1, p2, p3, p4, p5, p6, p7, pf, _⟩ := KC.out w2 B2.out
  go_wp2_with fail
  with_reducible refine (hGr.out _ (HP.out w2 B2.out)).mono ?_
  rintro e w3 ⟨rfl, hb3⟩;have B3 := Za (B2.out.trans (hb3.mono B2.out.size));clear hb3 p0 p1 p2 p3 p4 p5 p6 p7 pf;obtain ⟨p0, p1, p2, p3, p4, p5, p6, p7, pf, _⟩ := KC.out w3 B3.out;cases gb with
  | true =>
    have BF := Za (B1.out.trans (B3.out.mono B1.out.size));clear hways
    go_wp2_with fail
    go_ret;exact ⟨rfl, BF.out⟩
  | false =>
  obtain ⟨E, hE⟩ : ∃ q, Zb8 (s, gen, root, next, dead) = q := ⟨_, rfl⟩
  rw [hE] at hCk hRf hNd hVl hways;replace hE := Za hE;have hck := Za (hCk.out w3 (HP.out w3 B3.out));have hways' := Za hways;clear hways hCk
  go_wp2_with fail
  with_reducible refine hck.out.mono ?_
  rintro e w4 ⟨rfl, hb4⟩;have B4 := Za (B3.out.trans (hb4.mono B3.out.size));clear hb4 p0 p1 p2 p3 p4 p5 p6 p7 pf hck;rcases hways'.out with ⟨rfl, _⟩ | ⟨rfl, vs, g, hlk, hsn⟩
  · have BF := Za (B1.out.trans (B4.out.mono B1.out.size))
    go_wp2_with fail
    go_ret;exact ⟨rfl, BF.out⟩
  obtain ⟨_, v2, v3, v4⟩ := Zer hlk;rw [v3] at hRf;rw [v4] at hNd;rw [v2] at hVl;have SN := Za hsn;obtain ⟨p0, p1, p2, p3, p4, p5, p6, p7, pf, _⟩ := KC.out w4 B4.out;have hrf := Za (hRf.out w4 (HP.out w4 B4.out));have hl256 : s.2.1.length = 256 := by
    obtain ⟨_, _, hm, _⟩ := Vi (Zk4 SN.out.may).2.1;exact Yk (Yq hm).2.1
  have hS := (HP.out _ (Qb _ _)).sto.parts.2.1;obtain ⟨NA', ncp, e, _, _, hcl⟩ := Zo hS;simp only [Value.slice.injEq] at e;obtain ⟨eq1, eq2, eq3⟩ := e;rw [hl256] at eq2;obtain ⟨ad2, e2, _⟩ := hcl 0 (by omega);have hnow : Hid (∀ k, k < 256 -> ∀ W, Qm w1.heap.size w1 W -> W.cell? (ad2.add k) = some (.int .u8 ((s.2.1[k]?.getD 0).toNat : Int))) := Za fun k hk W hW => by
    obtain ⟨ad3, e3, ho, hc⟩ := hcl k (by omega);rw [e2] at e3;cases e3;exact (hW.cell ho).trans hc
  subst e2 eq1 eq2 eq3;clear hlk hsn v2 v3 v4 hways' hRf hl256 hS hcl
  go_upto_region 6 with fail
  go_wp2_with fail
  with_reducible refine hrf.out.mono ?_
  rintro e w5 ⟨RA, rn, rc, rfl, hr5, hb5⟩;have B5 := Za (B4.out.trans (hb5.mono B4.out.size));obtain ⟨hrl, hrn63⟩ := Zxj hr5;obtain rfl : rn = 256 := by rw [<- hrl]; exact SN.out.gg.len
  have R5 := Za hr5;clear hb5 p0 p1 p2 p3 p4 p5 p6 p7 pf hrf hr5 hrl hrn63;obtain ⟨p0, p1, p2, p3, p4, p5, p6, p7, pf, _⟩ := KC.out w5 B5.out;have hnd := Za (hNd.out w5 (HP.out w5 B5.out));clear hNd
  go_upto_region 7 with fail
  go_wp2_with fail
  with_reducible refine hnd.out.mono ?_
  rintro e w6 ⟨NA, nn, nc, rfl, hn6, hb6⟩;have B6 := Za (B5.out.trans (hb6.mono B5.out.size));obtain ⟨hnl, hnn63⟩ := Zxj hn6;have N6 := Za hn6;have R6 := Za ((Zt (Y6 _)).old R5.out hb6);have hnl' := Za hnl;clear hb6 p0 p1 p2 p3 p4 p5 p6 p7 pf hnd hn6 hnl R5;obtain ⟨p0, p1, p2, p3, p4, p5, p6, p7, pf, _⟩ := KC.out w6 B6.out;have hvl := Za (hVl.out w6 (HP.out w6 B6.out));clear hVl
  go_upto_region 8 with fail
  go_wp2_with fail
  with_reducible refine hvl.out.mono ?_
  rintro e w7 ⟨VA, vn, vc, rfl, hv7, hb7⟩;have B7 := Za (B6.out.trans (hb7.mono B6.out.size));obtain ⟨hvn, hvn63⟩ := Zxj hv7;have V7 := Za hv7;have R7 := Za ((Zt (Y6 _)).old R6.out hb7);have N7 := Za ((Zt (Y6 _)).old N6.out hb7);have hvn' := Za hvn;have hv16 : vn <= 16 := by rw [<- hvn]; exact SN.out.few
  clear hb7 p0 p1 p2 p3 p4 p5 p6 p7 pf hvl hv7 hvn R6 N6;have h256 : ((256 : Int) != 256) = false := by decide
  have i16 : ¬ (16 : Int) < (vn : Int) := by omega
  have hrx := Za (fun (k : Nat) (hk : k < 256) => (by
    have := SN.out.gg.len;rw [Qc (by omega)]
    rfl : g.2[k]? = some (g.2[k]?.getD 0)))
  obtain ⟨ad, era, _⟩ := Zyl R7.out (hrx.out 0 (by omega));subst era;have hrc : Hid (∀ k, k < 256 -> ∀ W, Qm w7.heap.size w7 W -> W.cell? (ad.add k) = some (.int .i64 (g.2[k]?.getD 0))) := Za fun k hk W hW => by
    obtain ⟨ad', e, h⟩ := Zyl R7.out (hrx.out k hk);cases e;exact h W hW
  clear R7 hrx
  go_upto_region 9 with fail
  go_upto_region 11 with fail
  go_wp2_with fail
  go_loopw [10] (fun vi wr => ∃ k : Nat, k <= 256 /\ vi = .int .i64 k /\ Qm w7.heap.size w7 wr) (fun vi _ => 256 - (intOf vi).toNat)
  case atStart => exact ⟨0, by omega, rfl, Qb _ _⟩
  case round =>
  obtain ⟨k, hk, rfl, hbr⟩ := hrel;have BR := Za hbr;clear hbr;by_cases hlt : k < 256
  case pos =>
    have hz := Za (fun W hW => hrc.out k hlt W hW);have hle := SN.out.le hlt;obtain ⟨zz, hzz⟩ : ∃ z, g.2[k]?.getD 0 = z := ⟨_, rfl⟩
    obtain ⟨yy, hyy⟩ : ∃ z, ((s.2.1[k]?.getD 0).toNat : Int) = z := ⟨_, rfl⟩
    have hy0 : 0 <= yy /\ yy < 256 := by
      have := (s.2.1[k]?.getD 0).toNat_lt;omega
    have wr1 : IntKind.i64.wrap yy = yy := Qd _ (by omega);rw [hzz] at hz;have hle' : 0 <= zz /\ zz <= yy := by rw [<- hzz, <- hyy]; exact hle
    have i1 : ¬ zz < 0 := by omega
    have i2 : ¬ yy < zz := by omega
    have hn := Za (fun W hW => hnow.out k hlt W hW);rw [hyy] at hn;have i4 : (0 : Int) <= (k : Int) := by omega
    have i5 : (k : Int) < 256 := by omega
    replace hzz := Za hzz;replace hyy := Za hyy;clear hle hle'
    go_upto_region 14 with fail
    go_cut [83] from 65 to 82 (fun x83 wx => x83 = .bool false /\ Qm wr.heap.size wr wx)
    case first =>
      refine wp_region_fx (by kernel_rfl) (fun W => Qm wr.heap.size wr W) (fun _ => none) (fun _ => none) (by kernel_rfl) (Qb _ _).drew (fun w w' h hb => h.trans (hb.mono h.size)) (fun j φ x W W' hp => by cases hp) ?_
      repeat (first
        | (refine wpAs_skip rfl ?_; simp only[Qa,Zb,Zc,Zd])
        | (refine wpAs_pure (v := ?_) rfl rfl ?_ ?_; rotate_left; (intro W hC hE; clear hE; (have hbW := BR.out.trans (hC.mono BR.out.size); have z0 := hz.out W hbW; have n0 := hn.out W (B7.out.trans (hbW.mono B7.out.size)); obtain ⟨p0, p1, p2, p3, p4, p5, p6, p7, pf, _⟩ := KC.out W (B7.out.trans (hbW.mono B7.out.size))); clear hC; go_simp; first | done | with_reducible rfl); simp only[Qa,Zb,Zc,Zd]))
      refine wpAs_end fun W0 hC hE=> ?_
      clear hE;have hC' := Za hC;clear hC
      go_wp2_with fail
      go_meet;exact ⟨rfl, hC'.out⟩
    case rest =>
    obtain ⟨rfl, hbc⟩ := hcut;have BC := Za (BR.out.trans (hbc.mono BR.out.size));clear hbc
    go_wp2_with fail
    go_roundw
    case rel => exact ⟨k + 1, by omega, by go_num, BC.out⟩
    case measure => simp [intOf]; omega
  obtain rfl : k = 256 := by omega
  have B8 := Za (B7.out.trans (BR.out.mono B7.out.size));have N8 := Za ((Zt (Y6 _)).old N7.out BR.out);have V8 := Za ((Zt Ym).old V7.out BR.out);have hkn := Za (fun x (hx : x ∈ g.1) => (by have := SN.out.node hx; omega : 0 <= x /\ x < 256));have hup := Za (Zjn g.1);have hin := Za (fun x (hx : x ∈ Zc8 g.1) => SN.out.node ((Zki hkn.out).1 hx));have hnn256 : nn <= 256 := by
    rw [<- hnl'.out];unfold Zc8 Zur;rw [List.length_map];refine Nat.le_trans (List.length_filter_le _ _) ?_;rw [List.length_range];omega
  obtain ⟨NL, hNL⟩ : ∃ q, Zc8 g.1 = q := ⟨_, rfl⟩
  rw [hNL] at N8 hup hin hnl';replace hNL := Za hNL;have B78 := BR;obtain ⟨w8, rfl⟩ : ∃ w8 : World, w8 = wr := ⟨_, rfl⟩
  clear N7 V7 BR
  go_upto_region 16 with fail
  go_wp2_with fail
  go_loopw [11] (fun vi wr => ∃ k : Nat, k <= nn /\ vi = .int .i64 k /\ Qm w8.heap.size w8 wr) (fun vi _ => nn - (intOf vi).toNat)
  case atStart => exact ⟨0, by omega, rfl, Qb _ _⟩
  case round =>
  obtain ⟨k, hk, rfl, hbr⟩ := hrel;have BR := Za hbr;have BO := Za (B8.out.trans (hbr.mono B8.out.size));have B7r := Za (B78.out.trans (hbr.mono B78.out.size));clear hbr;by_cases hlt : k < nn
  case pos =>
    obtain ⟨x, hx⟩ : ∃ x, NL[k]? = some x := ⟨_, Qc (by rw [hnl'.out]; exact hlt)⟩
    obtain ⟨h8, hx256, hxe, hx1⟩ := hin.out x (Qh hx);obtain ⟨j, rfl⟩ : ∃ j : Nat, x = j := ⟨x.toNat, by omega⟩
    obtain ⟨nad, rfl, hz0⟩ := Zyl N8.out hx;have hz := Za hz0;have j256 : j < 256 := by omega
    have hq := Za (fun W hW => hrc.out j j256 W hW);obtain ⟨zz, hzz⟩ : ∃ z, g.2[j]?.getD 0 = z := ⟨_, rfl⟩
    have hz1 : 1 <= zz := by rw [<- hzz]; exact hx1
    rw [hzz] at hq;have hzn : ¬ zz = 0 := by omega
    have hzb : (zz == 0) = false := by simpa using hzn
    have i4 : (0 : Int) <= (k : Int) := by omega
    have i5 : (k : Int) < (nn : Int) := by omega
    have i6 : (0 : Int) <= (j : Int) := by omega
    have i7 : (j : Int) < 256 := by omega
    obtain ⟨lv, hlv⟩ : ∃ q, (rmV s (j : Int)).1 = q := ⟨_, rfl⟩
    obtain ⟨nl, hnl2⟩ : ∃ q, (rmV s (j : Int)).2.length = q := ⟨_, rfl⟩
    have hNc : Hid (∀ W, Qm w1.heap.size w1 W -> Calls Tryz.prog 23 #[.agg #[.slice qa.1 qa.2.1 qa.2.2, .slice qb.1 qb.2.1 qb.2.2, .slice (some ad2) 256 qz, .slice qd.1 qd.2.1 qd.2.2], .int .i64 j] W fun e w' => ∃ v, e = .returned v /\ (∃ Z zc, v = .tuple #[.agg #[.int .i64 lv, .slice Z nl zc], .int .i64 0]) /\ Qm W.heap.size W w') := Za fun W hW => by
      have h1 : Sto (Old W) W (.agg #[.slice qa.1 qa.2.1 qa.2.2, .slice qb.1 qb.2.1 qb.2.2, .slice (some ad2) 256 qz, .slice qd.1 qd.2.1 qd.2.2]) s := (HP.out W hW).sto;refine (Zd0 _ s (j : Int) W h1).mono ?_;rintro e W' ⟨u, rfl, hu, hb⟩;obtain ⟨Z, zc, rfl⟩ := Zfl hu;rw [hxe, hlv, hnl2];exact ⟨_, rfl, ⟨Z, zc, rfl⟩, hb⟩
    replace hzz := Za hzz;replace hlv := Za hlv;replace hnl2 := Za hnl2;have hx' := Za hx;clear hz0 hx1 hx h8 hx256 hxe
    go_upto_region 19 with fail
    refine Xi (ops' := ?opsLate) (by kernel_rfl) [(11, 9)] ?he (by kernel_rfl) (fun d _ _ _ _ h => by cases d <;> exact h) 11 (fun W => Qm wr.heap.size wr W) (fun i => match i with
      | 6 => some (fun v W => ∃ Z zc, v = .tuple #[.agg #[.int .i64 lv, .slice Z nl zc], .int .i64 0])
      | 7 => some (fun v W => ∃ Z zc, v = .tuple #[.agg #[.int .i64 lv, .slice Z nl zc], .int .i64 0])
      | 8 => some (fun v W => ∃ Z zc, v = .agg #[.int .i64 lv, .slice Z nl zc])
      | 10 => some (fun v W => ∃ g, v = .pointer (some ⟨g, 0, none⟩) /\ wr.heap.size <= g /\ W.heap[g]? = some (.cells #[.int .i64 0, .slice none 0 0] 59 (0, 0)))
      | _ => none) (fun i => match i with
      | 9 => some (.int .i64 0)
      | _ => none) ?h1 ?h2 ?h3 (Qb _ _).drew (fun w w' h hb => h.trans (hb.mono h.size)) ?tst ?_
    case he =>
      simp [Z7];rfl
    case h1 => decide
    case h2 => kernel_rfl
    case h3 => kernel_rfl
    case tst =>
      intro j φ x W W' hp hx hb
      match j, hp with
      | 6, hp => cases hp; exact hx
      | 7, hp => cases hp; exact hx
      | 8, hp => cases hp; exact hx
      | 10, hp => cases hp; obtain ⟨g, e, h1, h2⟩ := hx; exact ⟨g, e, h1, (hb.block g (Qg.1 h2).1).trans h2⟩
    simp only [List.take_succ_cons, List.take_zero, Qe, Qf]
    repeat (first
      | (refine wpAs_skip rfl ?_; simp only[Qa,Zb,Zc,Zd])
      | (refine wpAs_pure (v := ?_) rfl rfl ?_ ?_; rotate_left; (intro W hC hE; clear hE; (have hbW := BR.out.trans (hC.mono BR.out.size); have z0 := hz.out W hbW; obtain ⟨p0, p1, p2, p3, p4, p5, p6, p7, pf, _⟩ := KC.out W (BO.out.trans (hC.mono BO.out.size))); clear hC; go_simp; first | done | with_reducible rfl); simp only[Qa,Zb,Zc,Zd]))
    refine wpAs_act rfl rfl ?_ ?_
    · intro W hC hE
      clear hE;refine does_enter (f := 23) (args := #[.agg #[.slice qa.1 qa.2.1 qa.2.2, .slice qb.1 qb.2.1 qb.2.2, .slice (some ad2) 256 qz, .slice qd.1 qd.2.1 qd.2.2], .int .i64 j]) ?_ ?_
      · go_simp
      · exact hNc.out W (BO.out.trans (hC.mono BO.out.size))
    simp only[Qa,Zb,Zc,Zd, envAdd];intro x2;refine wpAs_act rfl rfl ?_ ?_
    · intro W hC hE
      have h7 := hE.1 rfl;clear hE hC
      go_simp
      exact ⟨h7, Qb _ _⟩
    simp only[Qa,Zb,Zc,Zd, envAdd];intro x3;refine wpAs_act rfl rfl ?_ ?_
    · intro W hC hE
      obtain ⟨Z, zc, rfl⟩ := hE.1 rfl;clear hE hC
      go_simp
      exact ⟨⟨Z, zc, rfl⟩, Qb _ _⟩
    simp only[Qa,Zb,Zc,Zd, envAdd];intro x4;refine wpAs_fixed rfl rfl rfl ?_ ?_
    · intro W hC hE
      obtain ⟨Z, zc, rfl⟩ := hE.2.1 rfl;clear hE hC
      go_simp
      exact ⟨rfl, Qb _ _⟩
    simp only[Qa,Zb,Zc,Zd];refine wpAs_act rfl rfl ?_ ?_
    · intro W hC hE
      have hs := hC.size;clear hE hC
      go_simp
      exact ⟨⟨W.heap.size, rfl, hs, heap_alloc_new _ _⟩, (Qb _ _).alloc (Nat.le_refl _) _⟩
    simp only[Qa,Zb,Zc,Zd, envAdd];intro x6;refine wpAs_end fun W hC hE=> ?_
    obtain ⟨⟨gq, rfl, hgq, hzq⟩, ⟨Z, zc, rfl⟩, _⟩ := hE;obtain ⟨c0, c1, c2, _⟩ := Zi hzq;obtain ⟨wb, hwb, gb9, gr9, gs9⟩ := Vh (u := .int .i64 lv) (v := .slice Z nl zc) hzq;have hb9 := hC.grown gr9 hC.size (fun q e => by cases e; exact hgq);have BW := Za (BR.out.trans (hb9.mono BR.out.size));have BW7 := Za (B7r.out.trans (hb9.mono B7r.out.size));clear hC gr9 gs9 hb9 gb9 hNc
    go_upto_region 20 with fail
    clear hwb c0 c1 c2
    go_cut [127] from 100 to 126 (fun x127 wx => x127 = .bool false /\ Qm wb.heap.size wb wx)
    case first =>
      by_cases hk0 : k = 0
      · have i8 : ¬ (0 : Int) < (k : Int) := by omega
        replace hk0 := Za hk0;refine wp_region_fx (by kernel_rfl) (fun W => Qm wb.heap.size wb W) (fun _ => none) (fun _ => none) (by kernel_rfl) (Qb _ _).drew (fun w w' h hb => h.trans (hb.mono h.size)) (fun j φ x W W' hp => by cases hp) ?_
        iterate 15 (first
          | (refine wpAs_skip rfl ?_; simp only[Qa,Zb,Zc,Zd])
          | (refine wpAs_pure (v := ?_) rfl rfl ?_ ?_; rotate_left; (intro W hC hE; clear hE; (have hbW := BW.out.trans (hC.mono BW.out.size); have z0 := hz.out W hbW; have q0 := hq.out W (BW7.out.trans (hC.mono BW7.out.size))); clear hC; go_simp; with_reducible rfl); simp only[Qa,Zb,Zc,Zd]))
        refine Zcz (v := .bool false) 10 rfl rfl rfl ?_ (by kernel_rfl) ?_
        · intro W hC hE
          clear hE hC
          first
            | (go_simp; done)
            | (go_simp; simp; omega)
            | (go_simp; simp_all; done)
        simp only [Ztj, Qa, Qe, Qf, Qi, Qj, Qk]
        repeat (first
          | (refine wpAs_skip rfl ?_; simp only[Qa,Zb,Zc,Zd])
          | (refine wpAs_pure (v := ?_) rfl rfl ?_ ?_; rotate_left; (intro W hC hE; clear hE; skip; clear hC; go_simp; first | done | with_reducible rfl); simp only[Qa,Zb,Zc,Zd]))
        refine wpAs_end fun W0 hC hE=> ?_
        clear hE;have hC' := Za hC;clear hC
        go_wp2_with fail
        go_meet;exact ⟨rfl, hC'.out⟩
      · have i8 : (0 : Int) < (k : Int) := by omega
        have i8n : 0 < k := by omega
        obtain ⟨kk, hkk⟩ : ∃ kk, k = kk + 1 := ⟨k - 1, by omega⟩
        obtain ⟨z, hzz2⟩ : ∃ z, NL[kk]? = some z := ⟨_, Qc (by rw [hnl'.out]; omega)⟩
        have hls := Z6l hup.out hzz2 (by rw [<- hkk]; exact hx'.out);have i9 : ¬ (j : Int) <= z := by omega
        obtain ⟨ad', e7, hy0⟩ := Zyl N8.out hzz2;cases e7;have hy := Za hy0;have i10 : (k : Int) - 1 = (kk : Int) := by omega
        have i11 : IntKind.i64.wrap (kk : Int) = (kk : Int) := Qd _ (by omega);have i12 : (kk : Int) < (nn : Int) := by omega
        have i13 : (0 : Int) <= (kk : Int) := by omega
        replace hzz2 := Za hzz2;replace hkk := Za hkk;clear hy0 hls;refine wp_region_fx (by kernel_rfl) (fun W => Qm wb.heap.size wb W) (fun _ => none) (fun _ => none) (by kernel_rfl) (Qb _ _).drew (fun w w' h hb => h.trans (hb.mono h.size)) (fun j φ x W W' hp => by cases hp) ?_
        repeat (first
          | (refine wpAs_skip rfl ?_; simp only[Qa,Zb,Zc,Zd])
          | (refine wpAs_pure (v := ?_) rfl rfl ?_ ?_; rotate_left; (intro W hC hE; clear hE; (have hbW := BW.out.trans (hC.mono BW.out.size); have z0 := hz.out W hbW; have y0 := hy.out W hbW; have q0 := hq.out W (BW7.out.trans (hC.mono BW7.out.size))); clear hC; go_simp; first | done | with_reducible rfl); simp only[Qa,Zb,Zc,Zd]))
        refine wpAs_end fun W0 hC hE=> ?_
        clear hE;have hC' := Za hC;clear hC
        go_wp2_with fail
        go_meet;exact ⟨rfl, hC'.out⟩
    case rest =>
    obtain ⟨rfl, hbc⟩ := hcut;have BC := Za (BW.out.trans (hbc.mono BW.out.size));clear hbc
    go_wp2_with fail
    go_roundw
    case rel => exact ⟨k + 1, by omega, by go_num, BC.out⟩
    case measure => simp [intOf]; omega
  obtain rfl : k = nn := by omega
  have B9 := Za BO.out;have B79 := B7r;have V9 := Za ((Zt Ym).old V8.out BR.out);obtain ⟨w9, rfl⟩ : ∃ w9 : World, w9 = wr := ⟨_, rfl⟩
  clear B7r BO BR V8 N8 hup hin hnl'
  go_upto_region 22 with fail
  go_wp2_with fail
  go_loopw [14] (fun vi wr => ∃ k : Nat, k <= vn /\ vi = .int .i64 k /\ Qm w9.heap.size w9 wr) (fun vi _ => vn - (intOf vi).toNat)
  case atStart => exact ⟨0, by omega, rfl, Qb _ _⟩
  case round =>
  obtain ⟨k, hk, rfl, hbr⟩ := hrel;have BR := Za hbr;have BO := Za (B9.out.trans (hbr.mono B9.out.size));have B7r := Za (B79.out.trans (hbr.mono B79.out.size));clear hbr;by_cases hlt : k < vn
  case pos =>
    obtain ⟨⟨vi, vr, vf, vo⟩, hv⟩ : ∃ v, vs[k]? = some v := ⟨_, Qc (by rw [hvn'.out]; exact hlt)⟩
    have hvm := Qh hv;obtain ⟨_, hid0, hid1⟩ := SN.out.vols _ hvm;obtain ⟨h8, hx256, _, hx1⟩ := SN.out.node (SN.out.roots _ hvm)
    dsimp only at hid0 hid1 h8 hx256 hx1
    obtain ⟨j, rfl⟩ : ∃ j : Nat, vr = j := ⟨vr.toNat, by omega⟩
    obtain ⟨vad, rfl, hy0⟩ := Zwm V9.out hv;have hy := Za hy0;have j256 : j < 256 := by omega
    have hq := Za (fun W hW => hrc.out j j256 W hW);obtain ⟨zz, hzz⟩ : ∃ z, g.2[j]?.getD 0 = z := ⟨_, rfl⟩
    have hz1 : 1 <= zz := by rw [<- hzz]; exact hx1
    rw [hzz] at hq;have hzn : ¬ zz = 0 := by omega
    have hzb : (zz == 0) = false := by simpa using hzn
    have hvz : ¬ vi = 0 := by omega
    have hvb : (vi == 0) = false := by simpa using hvz
    have hvn1 : ¬ next <= vi := by omega
    have i4 : (0 : Int) <= (k : Int) := by omega
    have i5 : (k : Int) < (vn : Int) := by omega
    have i6 : (0 : Int) <= (j : Int) := by omega
    have i7 : (j : Int) < 256 := by omega
    replace hzz := Za hzz;have hv' := Za hv;clear hy0 hx1 hv h8 hx256 hvm hid0 hid1
    go_upto_region 25 with fail
    go_cut [178] from 134 to 177 (fun x178 wx => x178 = .bool false /\ Qm wr.heap.size wr wx)
    case first =>
      by_cases hk0 : k = 0
      · have i8 : ¬ (0 : Int) < (k : Int) := by omega
        replace hk0 := Za hk0;refine wp_region_fx (by kernel_rfl) (fun W => Qm wr.heap.size wr W) (fun _ => none) (fun _ => none) (by kernel_rfl) (Qb _ _).drew (fun w w' h hb => h.trans (hb.mono h.size)) (fun j φ x W W' hp => by cases hp) ?_
        iterate 30 (first
          | (refine wpAs_skip rfl ?_; simp only[Qa,Zb,Zc,Zd])
          | (refine wpAs_pure (v := ?_) rfl rfl ?_ ?_; rotate_left; (intro W hC hE; clear hE; (have hbW := BR.out.trans (hC.mono BR.out.size); obtain ⟨y0, y1, _, _⟩ := hy.out W hbW; have q0 := hq.out W (B7r.out.trans (hC.mono B7r.out.size)); obtain ⟨p0, p1, p2, p3, p4, p5, p6, p7, pf, _⟩ := KC.out W (BO.out.trans (hC.mono BO.out.size))); clear hC; go_simp; with_reducible rfl); simp only[Qa,Zb,Zc,Zd]))
        refine Zcz (v := .bool false) 12 rfl rfl rfl ?_ (by kernel_rfl) ?_
        · intro W hC hE
          clear hE hC
          first
            | (go_simp; done)
            | (go_simp; simp; omega)
            | (go_simp; simp_all; done)
        simp only [Ztj, Qa, Qe, Qf, Qi, Qj, Qk]
        repeat (first
          | (refine wpAs_skip rfl ?_; simp only[Qa,Zb,Zc,Zd])
          | (refine wpAs_pure (v := ?_) rfl rfl ?_ ?_; rotate_left; (intro W hC hE; clear hE; skip; clear hC; go_simp; first | done | with_reducible rfl); simp only[Qa,Zb,Zc,Zd]))
        refine wpAs_end fun W0 hC hE=> ?_
        clear hE;have hC' := Za hC;clear hC
        go_wp2_with fail
        go_meet;exact ⟨rfl, hC'.out⟩
      · have i8 : (0 : Int) < (k : Int) := by omega
        have i8n : 0 < k := by omega
        obtain ⟨kk, hkk⟩ : ∃ kk, k = kk + 1 := ⟨k - 1, by omega⟩
        obtain ⟨⟨ui, ur, uf, uo⟩, hu⟩ : ∃ v, vs[kk]? = some v := ⟨_, Qc (by rw [hvn'.out]; omega)⟩
        have hls : ui < vi := by
          have h1 := SN.out.up;obtain ⟨l1, e1⟩ := Ql.1 hu;have hv2 := hv'.out;rw [hkk] at hv2;obtain ⟨l2, e2⟩ := Ql.1 hv2;have h2 := List.pairwise_iff_getElem.1 h1 kk (kk + 1) l1 l2 (by omega);rw [e1, e2] at h2;exact h2
        have i9 : ¬ vi <= ui := by omega
        obtain ⟨vad', e7, hyy0⟩ := Zwm V9.out hu;cases e7;have hyy := Za hyy0;have i10 : (k : Int) - 1 = (kk : Int) := by omega
        have i11 : IntKind.i64.wrap (kk : Int) = (kk : Int) := Qd _ (by omega);have i12 : (kk : Int) < (vn : Int) := by omega
        have i13 : (0 : Int) <= (kk : Int) := by omega
        replace hu := Za hu;replace hkk := Za hkk;clear hyy0 hls;refine wp_region_fx (by kernel_rfl) (fun W => Qm wr.heap.size wr W) (fun _ => none) (fun _ => none) (by kernel_rfl) (Qb _ _).drew (fun w w' h hb => h.trans (hb.mono h.size)) (fun j φ x W W' hp => by cases hp) ?_
        repeat (first
          | (refine wpAs_skip rfl ?_; simp only[Qa,Zb,Zc,Zd])
          | (refine wpAs_pure (v := ?_) rfl rfl ?_ ?_; rotate_left; (intro W hC hE; clear hE; (have hbW := BR.out.trans (hC.mono BR.out.size); obtain ⟨y0, y1, _, _⟩ := hy.out W hbW; obtain ⟨x0, _, _, _⟩ := hyy.out W hbW; have q0 := hq.out W (B7r.out.trans (hC.mono B7r.out.size)); obtain ⟨p0, p1, p2, p3, p4, p5, p6, p7, pf, _⟩ := KC.out W (BO.out.trans (hC.mono BO.out.size))); clear hC; go_simp; first | done | with_reducible rfl); simp only[Qa,Zb,Zc,Zd]))
        refine wpAs_end fun W0 hC hE=> ?_
        clear hE;have hC' := Za hC;clear hC
        go_wp2_with fail
        go_meet;exact ⟨rfl, hC'.out⟩
    case rest =>
    obtain ⟨rfl, hbc⟩ := hcut;have BC := Za (BR.out.trans (hbc.mono BR.out.size));clear hbc
    go_wp2_with fail
    go_roundw
    case rel => exact ⟨k + 1, by omega, by go_num, BC.out⟩
    case measure => simp [intOf]; omega
  obtain ⟨h8, hx256, _, hx1⟩ := SN.out.node SN.out.root
  dsimp only at h8 hx256 hx1
  obtain ⟨j, rfl⟩ : ∃ j : Nat, root = j := ⟨root.toNat, by omega⟩
  have hq := hrc.out j (by omega) _ B7r.out;obtain ⟨zz, hzz⟩ : ∃ z, g.2[j]?.getD 0 = z := ⟨_, rfl⟩
  rw [hzz] at hq;have hz1 : 1 <= zz := by rw [<- hzz]; exact hx1
  have hz0 : 0 < zz := by omega
  have i6 : (0 : Int) <= (j : Int) := by omega
  have i7 : (j : Int) < 256 := by omega
  obtain ⟨p0, p1, p2, p3, p4, p5, p6, p7, pf, _⟩ := KC.out _ BO.out;have BF := Za (B1.out.trans (BO.out.mono B1.out.size));replace hzz := Za hzz;clear hx1 h8 hx256
  go_wp2_with fail
  go_ret;exact ⟨rfl, BF.out⟩

/-! ### The row's step -/
set_option maxRecDepth 100000 in
theorem lifted (os : Os) (started : os.Started) (H : Type) (enc : TypeId × Value -> H) :
    ReturnsInHanded {} Tryz.checked os 5 .any (Rows.forestCountsSpec.pre6 enc Tryz.prog Tryz.f5 Rows.forestCountsRow.domain false) (Rows.forestCountsSpec.post enc Tryz.prog Tryz.f5 false true false false) := by
  refine returnsInHanded_of_change (C := Tryz.checked) own started (by kernel_rfl) Tryz.func5
    (ChangeSpec.witness6 (enc := enc) (C := Tryz.checked) false ⟨#[], #[.agg #[.slice none 0 0, .slice none 0 0, .slice none 0 0, .slice none 0 0, .int .u32 0, .int .i64 0, .int .u32 0, .slice none 0 0]], []⟩ 8 (by kernel_rfl) (by kernel_rfl) (by kernel_rfl) (by kernel_rfl)) ?_
  intro W base args ds gs before hval0 hW _ _;have hval : ∀ (j : Nat) t v, Tryz.f5.params[j]? = some t -> args[j]? = some v -> Value.okWide Tryz.prog W .any base t v := hval0;have hW' := hW;obtain ⟨p, q, hA0, hV, _, _, _⟩ := hW;have hA : DataW.TrodAll enc Tryz.prog W 0 (fun _ => true) true Tryz.f5.params.toList args.toList ds p := hA0;rw [Tryz.params5] at hA hval;obtain ⟨v0, vs0, d0, ds0, p0, q0, hargs, rfl, _, h0, r0⟩ := trodAll_cons hA;obtain ⟨rfl, rfl, _⟩ := trodAll_nil r0;obtain rfl : args = #[v0] := by cases args; simp_all
  obtain ⟨rfl, _⟩ := trodVars_none hV;obtain ⟨d0x, y0⟩ := Zu7 (hval 0 33 v0 rfl rfl) h0;clear hA0 hval0;refine (walk v0 d0x W y0).mono fun e W' ⟨he, hb⟩=> ?_
  subst he;exact ⟨_, rfl, Zx0 laidOut (by rw [Tryz.params5]; decide +kernel) (by kernel_rfl) Tryz.underlying4 rfl ⟨rfl, by simp [Rows.forestCountsSpec], rfl⟩ hW' hb⟩

theorem over : Rows.forestCountsRow.holds Tryz.pinned (OpenSpec.ofChange Rows.forestCountsSpec) :=
  OpenClaim.holds_of_wide 5 Tryz.f5 rfl rfl rfl rfl rfl rfl rfl ⟨rfl, rfl, rfl, rfl, rfl⟩ rfl rfl rfl rfl rfl (by kernel_rfl) Tryz.func5 (by kernel_rfl)
    (of_decide_eq_true (by kernel_rfl)) (by unfold Func.isWrapper; first | (rw [if_pos (by decide +kernel)]; kernel_rfl) | (rw [if_neg (by decide +kernel)]; exact ⟨rfl, rfl⟩))
    (fun os started H enc _ => lifted os started H enc)

end Go.Proofs.YtmafkphcfkhokaaGreat.forestCounts
namespace Go.Proofs.YtmafkphcfkhokaaGreat
theorem forestCounts_proved : Rows.ForestCountsSaid := forestCounts.over
end Go.Proofs.YtmafkphcfkhokaaGreat
