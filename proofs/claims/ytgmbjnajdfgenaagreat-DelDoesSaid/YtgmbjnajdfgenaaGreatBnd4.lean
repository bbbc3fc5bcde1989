/-
  Lemmas on the program and on the document's answers, gathered: RmRefT, DrLeave, DrMake, DfBox, NdTwin, NdTwin2, PuStay, FnPlain, FnKeep, FnSpan, FnPlace, WkPlain, PtEnough, PtMake, PtLists, PtBuilt, RmLaw, FnLeaf, FnRead, FnInner, DfBuilt, DfWide, FnRight, FnTree, FnOne, DfMade, DfOnce, DfTurn, PtGrow, PtGrown, PtPut, DlRow, PtErr, DlShrunk, DfNext, DlOut, DlErr, DePlain, DfRow, PuCopy, PuIns, WkApp, PuItems. Conditions: those that each lemma states.
-/
import Derived.Test.YtgmbjnajdfgenaaGreatBnd3
import Derived.Laws.CopyOwn
import Derived.Deep.RegionLaw
import Derived.Lib.Overlaps
import Derived.Lib.AppendZerosOnto
import Derived.StillTailTactics
set_option maxRecDepth 100000
set_option maxHeartbeats 16000000
open Array renaming getElem?_eq_some_iff → Qj, getElem_mem → Pa, mem_toList_iff → Pm, getElem?_modify → Qaa
open Bool renaming and_eq_true → Qo, true_and → Pg, false_and → Qab
open Go renaming World → Qaq, Value → Qar, Addr → Qas, TypeId → Qat, bodyPost_ret → Qau, heap_alloc_new → Qav, Calls → Qaw
open Go.Act renaming put → Qa
open Go.Builtin renaming copy_ → Qaj, clear_ → Qak
open Go.IntWalk renaming i64_in → Qp
open Go.RowKit renaming Below → Qax
open Go.RowKit.Below renaming refl → Qb
open Go.World renaming cell?_of_block → Qi, cell? → Qy, size_alloc → Q9, block_lt_of_cell? → Ph, ownsRow_nil → Py, setCell → P9
open List renaming getElem?_eq_getElem → Qc, getElem?_eq_some_iff → Qe, mem_of_getElem? → Qf, mem_append → Qg, drop_zero → Qk, mem_singleton → Ql, mem_cons → Qm, pairwise_append → Qn, mem_append_right → Qq, length_take → Qs, take_zero → Qt, drop_succ_cons → Qu, take_append_drop → Qv, take_of_length_le → Qw, getElem?_of_mem → Qx, mem_cons_self → Qz, take_succ_cons → Q3, getElem?_eq_none → Q4, getElem_cons_drop → Q5, pairwise_cons → Q6, mem_append_left → Q7, take_append_getElem → Q8, getElem?_map → Pc, length_append → Pd, mem_of_mem_take → Pe, getElem?_drop → Pf, length_set → Pi, nil_append → Pk, getElem?_append_right → Po, length_map → Pp, drop_eq_getElem_cons → Pq, drop_of_length_le → Pr, mem_of_getLast? → Ps, singleton_append → Pt, eq_nil_of_length_eq_zero → Pu, length_drop → Pv, append_assoc → Pw, ext_getElem? → Px, not_mem_nil → Pz, pairwise_iff_getElem → P3, all_eq_true → P4, getLast?_eq_some_getLast → P5, reverse_append → P7, getLast?_eq_getElem? → P8, getElem_mem → Qad, mem_of_mem_drop → Qae, cons_ne_nil → Qaf, drop_drop → Qag, drop_left → Qah, length_pos_iff → Qai, take_nil → Qam, drop_nil → Qan, getElem?_eq_none_iff → Qao, mem_iff_getElem? → Qap
open Nat renaming le_refl → Qd, lt_of_lt_of_le → Qh, le_trans → Qr, zero_mul → Pb, zero_add → Pj, add_zero → Pn, strongRecOn → Qac, min_eq_left → Qal
noncomputable section
namespace Go.Proofs.YtgmbjnajdfgenaaGreat
open Go.RowKit
def Off (g:Nat) (w:Qaq):Qas->Prop:=fun p=>p.block<w.heap.size/\p.block≠g
theorem Zbk {g:Nat}{W W1:Qaq}{p:Qas}{v:Qar}(gr:W.grownBy W1 (some g)) (hp:Off g W p) (hc:W.cell? p=some v):Off g W1 p/\W1.cell? p=some v :=
 ⟨⟨Qh hp.1 gr.size,hp.2⟩,(Qi (gr.block _ hp.1 (by simpa using hp.2))).trans hc⟩
theorem Za4 {g:Nat}{W W1:Qaq}{p:Qas}{v:Qar}(hb:Qax W.heap.size W W1) (hp:Off g W p) (hc:W.cell? p=some v):Off g W1 p/\W1.cell? p=some v :=
 ⟨⟨Qh hp.1 hb.size,hp.2⟩,(hb.cell hp.1).trans hc⟩
theorem Zk9 {g:Nat}{w W:Qaq}{p:Qas}{v:Qar}(hb:Qax w.heap.size w W) (hg:w.heap.size<=g) (hp:Old w p) (hc:w.cell? p=some v):Off g W p/\W.cell? p=some v :=
 ⟨⟨Qh hp hb.size,fun e=>by have h:p.block<w.heap.size:=hp;omega⟩,(hb.cell hp).trans hc⟩
theorem Zux {g lo:Nat}{W:Qaq}{p:Qas}{v:Qar}(hg:g<lo) (hp:New lo W p) (hc:W.cell? p=some v):Off g W p/\W.cell? p=some v :=
 ⟨⟨hp.2.1,fun e=>by have:=hp.1;omega⟩,hc⟩
theorem Zd5 {g:Nat}{W:Qaq}{p:Qas}{v:Qar}(hp:Off g W p) (hc:W.cell? p=some v):Old W p/\W.cell? p=some v:=⟨hp.1,hc⟩
theorem Zvx {g:Nat}{w W W':Qaq}{p:Qas}{v:Qar}(hw:w.heap.size<=g) (hg:g<W.heap.size) (hs:W.heap.size<=W'.heap.size) (hp:Zzi w W W' p) (hc:W'.cell? p=some v):Off g W' p/\W'.cell? p=some v :=
 ⟨hp.elim (fun h=>⟨by omega,by omega⟩) (fun h=>⟨h.2,by omega⟩),hc⟩
def tnN (s:Rm):Int:=if X5 s=[]\/4096<=s.1.2.length then -1 else (tkK s:Int)
def tnV (s:Rm) (b:List UInt8):Rm:=if X5 s=[]\/4096<=s.1.2.length then s else (wrD s.1 (tkK s) b,s.2.1.set (tkK s) 1,s.2.2)
theorem Zln (v u:Qar) (s:Rm) (b:List UInt8) (hm:Yp s=true) (hb128:b.length=128) (w:Qaq) (h:Sto (Old w) w v s) (hu:rBy (Old w) w [u] b) :
  Qaw Tryz.prog 167 #[v,u] w fun e w'=>∃ A ca B cb N cn L cl,e=.returned (.tuple #[.agg #[.slice A (tnV s b).1.1.length ca,.slice B (tnV s b).1.2.length cb,.slice N (tnV s b).2.1.length cn,.slice L (tnV s b).2.2.length cl],.int .i64 (tnN s)]) /\
   Sto (Old w') w' (.agg #[.slice A (tnV s b).1.1.length ca,.slice B (tnV s b).1.2.length cb,.slice N (tnV s b).2.1.length cn,.slice L (tnV s b).2.2.length cl]) (tnV s b)/\Qax w.heap.size w w':=by{
 have H0:=Za h;have U0:=Za hu;obtain⟨A,ca,B,cb,N,cn,L,cl,w1,rfl,hw1,f1,f2,hsz,hB,H⟩:=V3 h;obtain⟨E,ce,rfl,_⟩:=id (Zm hu);clear h hu;obtain⟨k0,k1,k2,k3,_,kg⟩:=Ze f1;replace hsz:=Za hsz;replace f2:=Za f2;have hl1:=Za (Z0 (Zw hm).2.1);obtain⟨M,hM⟩:∃ M,(X5 s).length=M:=⟨_,rfl⟩
 go_enter Tryz.func167,Tryz.ntmps167
 go_upto_region 1 with fail
 clear hw1
 go_wp2_with fail
 with_reducible refine(Zpw _ s hm _ H.out).mono ?_
 rintro e w2 ⟨u2,rfl,h2,hb2⟩;obtain⟨X,xc,rfl,_⟩:=id (Za1 h2);rw[Zar,hM] at h2 ⊢;have F1:=(hb2.block w.heap.size kg).trans f1;have F2:=(hb2.block (w.heap.size+1) (by rw[hsz.out];omega)).trans f2.out;have B2:=Za (hB.trans (hb2.mono hB.size));have X2:=Za h2;have s2:Hid (w1.heap.size=w.heap.size+2/\w.heap.size+2<=w2.heap.size):=Za ⟨hsz.out,by have:=hsz.out;have:=hb2.size;omega⟩;clear k0 k1 k2 k3 kg f1 hb2 h2 H;obtain⟨m0,m1,m2,m3,_,mg⟩:=Ze F1;by_cases hno:X5 s=[]\/4096<=s.1.2.length
 ·have hN:Hid (tnN s = -1):=Za (by rw[tnN,if_pos hno])
  have hV:Hid (tnV s b=s):=Za (by rw[tnV,if_pos hno]);obtain⟨c0,c1,c2,c3,c4,c5⟩:=Ze F2;obtain⟨W9,hW9,g9,gr9,gs9⟩:=Zo (a':=.slice A s.1.1.length ca) (b':=.slice B s.1.2.length cb) (c':=.slice N s.2.1.length cn) (d':=.slice L s.2.2.length cl) F2;obtain⟨n0,n1,n2,n3,_,_⟩:=Ze g9;have hB9:=Za (B2.out.grown gr9 B2.out.size (fun q e=>by cases e;omega));replace g9:=Za g9;replace F2:=Za F2;replace F1:=Za F1;clear gr9 gs9;have hfin:∀ (x:Qar),x=.tuple #[.agg #[.slice A s.1.1.length ca,.slice B s.1.2.length cb,.slice N s.2.1.length cn,.slice L s.2.2.length cl],.int .i64 (-1)]->∃ A ca B cb N cn L cl,Ending.returned x=.returned (.tuple #[.agg #[.slice A (tnV s b).1.1.length ca,.slice B (tnV s b).1.2.length cb,.slice N (tnV s b).2.1.length cn,.slice L (tnV s b).2.2.length cl],.int .i64 (tnN s)]) /\
   Sto (Old W9) W9 (.agg #[.slice A (tnV s b).1.1.length ca,.slice B (tnV s b).1.2.length cb,.slice N (tnV s b).2.1.length cn,.slice L (tnV s b).2.2.length cl]) (tnV s b)/\Qax w.heap.size w W9:=by
   rintro x rfl;rw[hN.out,hV.out];exact⟨A,ca,B,cb,N,cn,L,cl,rfl,H0.out.below hB9.out,hB9.out⟩
  replace hfin:=Za hfin;by_cases hz:M=0
  ·subst hz
   clear hno;replace hM:=Za hM
   go_wp2_with fail
   exact Qau (v:=.tuple #[.agg #[.slice A s.1.1.length ca,.slice B s.1.2.length cb,.slice N s.2.1.length cn,.slice L s.2.2.length cl],.int .i64 (-1)]) (by simp[results,Tryz.results167,go_sem,n0,n1,n2,n3]) rfl (hfin.out _ rfl)
  ·have hz2:((M:Int)==0)=false:=by rw[beq_eq_false_iff_ne];omega
   have hw4:4096<=s.1.2.length:=by
    rcases hno with h | h
    ·rw[h] at hM;exact absurd hM.symm hz
    ·exact h
   have hw4':(4096:Int)<=s.1.2.length:=by omega
   clear hno;replace hM:=Za hM
   go_wp2_with fail
   exact Qau (v:=.tuple #[.agg #[.slice A s.1.1.length ca,.slice B s.1.2.length cb,.slice N s.2.1.length cn,.slice L s.2.2.length cl],.int .i64 (-1)]) (by simp[results,Tryz.results167,go_sem,n0,n1,n2,n3]) rfl (hfin.out _ rfl)
 ·obtain⟨hf,hw4⟩:=not_or.1 hno
  have hE:=Z19 hm hb128 hf (by omega);obtain⟨-,-,-,hfl,h8,h256,-,-,-,-⟩:=Zqd hE;obtain⟨k,hk⟩:∃ k,tkK s=k:=⟨_,rfl⟩
  have hN:Hid (tnN s=(k:Int)):=Za (by rw[tnN,if_neg hno,hk]);have hV:Hid (tnV s b=(wrD s.1 k b,s.2.1.set k 1,s.2.2)):=Za (by rw[tnV,if_neg hno,hk])
  have hVf:Hid (U1 (wrD s.1 k b,s.2.1.set k 1,s.2.2)):=Za (by
   have:=Zo2 s b
   rwa [(Zqd hE).2.2.2.2.2.2.2.2.2,hk] at this)
  rw[hk] at hfl h8 h256;have hw4':s.1.2.length<4096:=by omega
  have hxm:0<M:=by rw[<- hM,hfl];simp
  obtain⟨xad,rfl,hxl,hxc⟩:∃ xad,X=some xad/\w1.heap.size<=xad.block/\w2.cell? xad=some (.int .i64 (k:Int)):=by
   obtain⟨X',c',e,_,_,hc⟩:=Za1 X2.out;simp only[Value.slice.injEq] at e;obtain⟨rfl,-,-⟩:=e;obtain⟨xad,rfl,hn,hcc,_⟩:=hc 0 (k:Int) (Zub hfl);exact⟨xad,rfl,by simpa [Addr.add] using hn.1,by simpa [Addr.add] using hcc⟩
  have hxb:xad.block<w2.heap.size:=Ph _ _ hxc;have hz2:((M:Int)==0)=false:=by rw[beq_eq_false_iff_ne];omega
  have hw5:¬ (4096:Int)<=s.1.2.length:=by omega
  replace hM:=Za hM;have hxl':=Za hxl;have hw4'':=Za hw4';have h256':=Za h256;have F1h:=Za F1;have F2h:=Za F2;have hxch:=Za hxc;clear hno hf hw4 hE hfl hk hxl F1 F2
  go_upto_region 4 with fail
  obtain⟨n1,hn1⟩:∃ n1,(wrD s.1 k b).1.length=n1:=⟨_,rfl⟩
  obtain⟨n2,hn2⟩:∃ n2,(wrD s.1 k b).2.length=n2:=⟨_,rfl⟩
  refine Z1 (by kernel_rfl) 8 (fun W=>Qax w2.heap.size w2 W) (fun i=>match i with
    | 6=>some (fun v W=>∃ P p Q r,v=.agg #[.slice P n1 p,.slice Q n2 r]/\Dsk (Off w.heap.size W) W (.agg #[.slice P n1 p,.slice Q n2 r]) (wrD s.1 k b))
    | _=>none) (fun _=>none) (by decide) (by kernel_rfl) (by kernel_rfl) (Qb _ _).drew (fun w w' h hb=>h.trans (hb.mono h.size)) ?tst ?_
  case tst =>
   intro j φ x W W' hp hx hb
   match j,hp with
   | 6,hp =>
    cases hp;obtain⟨P,p,Q,r,e,hd⟩:=hx;exact⟨P,p,Q,r,e,hd.map fun _ _ hp hc=>Za4 hb hp hc⟩
  simp only[Q3,Qt,Qu,Qk]
  repeat (first
   | (refine wpAs_skip rfl ?_;simp only[Qa,Zb,Zc,Zd])
   | (refine wpAs_pure (v := ?_) rfl rfl ?_ ?_;rotate_left;(intro W hC hE;clear hE;(have z0:=(hC.cell (p:=⟨w.heap.size,0,none⟩) mg).trans m0;have z1:=(hC.cell (p:=⟨w.heap.size,1,none⟩) mg).trans m1;have zx:=(hC.cell (p:=xad) hxb).trans hxch.out);clear hC;go_simp;first | done | with_reducible rfl);simp only[Qa,Zb,Zc,Zd]))
  refine wpAs_act rfl rfl ?_ ?_
  ·intro W hC hE
   clear hE;refine does_enter (f:=187) (args:=#[.agg #[.slice A s.1.1.length ca,.slice B s.1.2.length cb],.int .i64 (k:Int),.slice E b.length ce]) ?_ ?_
   ·go_simp
   ·refine(Ztu _ _ s.1 k b w W (B2.out.trans (hC.mono B2.out.size)) H0.out.parts.1 U0.out hw4''.out h256'.out).mono ?_
    rintro e W' ⟨x,rfl,hx,hb⟩;obtain⟨P,p,Q,r,rfl,_⟩:=id hx.open;rw[hn1,hn2] at hx;rw[hn1,hn2];exact⟨_,rfl,⟨P,p,Q,r,rfl,hx.map fun _ _ hp hc=>Zvx (Qd _) (by have:=s2.out;have:=hC.size;omega) hb.size hp hc⟩,hb⟩
  simp only[Qa,Zb,Zc,Zd,envAdd];intro x26
  repeat (first
   | (refine wpAs_skip rfl ?_;simp only[Qa,Zb,Zc,Zd])
   | (refine wpAs_pure (v := ?_) rfl rfl ?_ ?_;rotate_left;(intro W hC hE;clear hE;skip;clear hC;go_simp;first | done | with_reducible rfl);simp only[Qa,Zb,Zc,Zd]))
  refine wpAs_end fun W hC hE=> ?_
  obtain⟨⟨P,p,Q,r,rfl,hd⟩,_⟩:=hE;have bW:=(hC.block w.heap.size mg).trans F1h.out;obtain⟨c0,c1,c2,c3,c4,c5⟩:=Ze bW;obtain⟨W4,hW4,g4,gr4,gs4⟩:=Z20 (a':=.slice P n1 p) (b':=.slice Q n2 r) bW;have hd4:=Za (hd.map fun _ _ hp hc=>Zbk gr4 hp hc);have F4:=Za ((gr4.block (w.heap.size+1) (by have:=s2.out;have:=hC.size;omega) (by simp)).trans ((hC.block (w.heap.size+1) (by have:=s2.out;omega)).trans F2h.out));have B4:=Za ((B2.out.trans (hC.mono B2.out.size)).grown gr4 (Qr B2.out.size hC.size) (fun q e=>by cases e;omega));have xc4:=Za (((Qi (gr4.block xad.block (by have:=hC.size;omega) (by simp;have:=hxl'.out;have:=s2.out;omega)):W4.cell? xad=W.cell? xad)).trans ((hC.cell (p:=xad) hxb).trans hxch.out));have s4:Hid (w.heap.size+2<=W4.heap.size/\xad.block<W4.heap.size):=Za ⟨by have:=s2.out;have:=hC.size;omega,by have:=hC.size;omega⟩;have G4:=Za g4;replace bW:=Za bW;replace g4:=Za g4;clear hd gr4 gs4 hC m0 m1 m2 m3 mg
  go_upto_region 5 with fail
  clear hW4 c0 c1 c2 c3 c4 c5;obtain⟨w4,rfl⟩:∃ w4:Qaq,w4=W4:=⟨_,rfl⟩
  obtain⟨m0,m1,m2,m3,_,mg⟩:=Ze G4.out
  refine Z1 (by kernel_rfl) 7 (fun W=>Qax w4.heap.size w4 W) (fun i=>match i with
    | 5=>some (fun v W=>∃ Y y,v=.slice Y 256 y/\rBy (Off w.heap.size W) W [.slice Y 256 y] (s.2.1.set k 1))
    | _=>none) (fun _=>none) (by decide) (by kernel_rfl) (by kernel_rfl) (Qb _ _).drew (fun w w' h hb=>h.trans (hb.mono h.size)) ?tst ?_
  case tst =>
   intro j φ x W W' hp hx hb
   match j,hp with
   | 5,hp =>
    cases hp;obtain⟨Y,y,e,hy⟩:=hx;exact⟨Y,y,e,Zf _ _ _ _ _ _ (fun _ _ hp hc=>Za4 hb hp hc) hy⟩
  simp only[Q3,Qt,Qu,Qk]
  repeat (first
   | (refine wpAs_skip rfl ?_;simp only[Qa,Zb,Zc,Zd])
   | (refine wpAs_pure (v := ?_) rfl rfl ?_ ?_;rotate_left;(intro W hC hE;clear hE;(have z2:=(hC.cell (p:=⟨w.heap.size,2,none⟩) mg).trans m2;have zx:=(hC.cell (p:=xad) s4.out.2).trans xc4.out);clear hC;go_simp;first | done | with_reducible rfl);simp only[Qa,Zb,Zc,Zd]))
  refine wpAs_act rfl rfl ?_ ?_
  ·intro W hC hE
   clear hE;refine does_enter (f:=107) (args:=#[.slice N s.2.1.length cn,.int .i64 (k:Int),.int .u8 1]) ?_ ?_
   ·go_simp
   ·refine(Zaj _ s.2.1 k 1 1 rfl (by rw[hl1.out];exact h256'.out) (by rw[hl1.out];omega) W (H0.out.below (B4.out.trans (hC.mono B4.out.size))).parts.2.1).mono ?_
    rintro e W' ⟨x,rfl,hx,hb⟩;obtain⟨Y,y,rfl,_⟩:=id (Zm hx);rw[Pi,hl1.out] at hx;rw[Pi,hl1.out];exact⟨_,rfl,⟨Y,y,rfl,Zf _ _ _ _ _ _ (fun _ _ hp hc=>Zux (by have:=s4.out;have:=hC.size;omega) hp hc) hx⟩,hb⟩
  simp only[Qa,Zb,Zc,Zd,envAdd];intro x33
  repeat (first
   | (refine wpAs_skip rfl ?_;simp only[Qa,Zb,Zc,Zd])
   | (refine wpAs_pure (v := ?_) rfl rfl ?_ ?_;rotate_left;(intro W hC hE;clear hE;skip;clear hC;go_simp;first | done | with_reducible rfl);simp only[Qa,Zb,Zc,Zd]))
  refine wpAs_end fun W hC hE=> ?_
  obtain⟨⟨Y,y,rfl,hy⟩,_⟩:=hE;have bW:=(hC.block w.heap.size mg).trans G4.out;obtain⟨c0,c1,c2,c3,c4,c5⟩:=Ze bW;obtain⟨W5,hW5,g5,gr5,gs5⟩:=Zcg (c':=.slice Y 256 y) bW;have hy5:=Za (Zf _ _ _ _ _ _ (fun _ _ hp hc=>Zbk gr5 hp hc) hy);have hd5:=Za ((hd4.out.map fun _ _ hp hc=>Za4 hC hp hc).map fun _ _ hp hc=>Zbk gr5 hp hc);have F5:=(gr5.block (w.heap.size+1) (by have:=s4.out;have:=hC.size;omega) (by simp)).trans ((hC.block (w.heap.size+1) (by have:=s4.out;omega)).trans F4.out);have B5:=Za ((B4.out.trans (hC.mono B4.out.size)).grown gr5 (Qr B4.out.size hC.size) (fun q e=>by cases e;omega));have xc5:=((Qi (gr5.block xad.block (by have:=s4.out;have:=hC.size;omega) (by simp;have:=hxl'.out;have:=s2.out;omega)):W5.cell? xad=W.cell? xad)).trans ((hC.cell (p:=xad) s4.out.2).trans xc4.out);have G5:=Za g5;replace bW:=Za bW;replace g5:=Za g5;clear hy gr5 gs5 hC m0 m1 m2 m3 mg
  go_upto_region 6 with fail
  clear hW5 c0 c1 c2 c3 c4 c5;obtain⟨w5,rfl⟩:∃ w5:Qaq,w5=W5:=⟨_,rfl⟩
  obtain⟨m0,m1,m2,m3,_,mg⟩:=Ze G5.out;obtain⟨c0,c1,c2,c3,c4,c5⟩:=Ze F5;obtain⟨W9,hW9,g9,gr9,gs9⟩:=Zo (a':=.slice P n1 p) (b':=.slice Q n2 r) (c':=.slice Y 256 y) (d':=.slice L s.2.2.length cl) F5;obtain⟨o0,o1,o2,o3,_,_⟩:=Ze g9;have hB9:=Za (B5.out.grown gr9 B5.out.size (fun q e=>by cases e;omega));have hx9:W9.cell? xad=some (.int .i64 (k:Int)):=(Qi (gr9.block xad.block (Ph _ _ xc5) (by simp;have:=hxl'.out;have:=s2.out;omega))).trans xc5
  have hs9:Hid (Sto (Old W9) W9 (.agg #[.slice P n1 p,.slice Q n2 r,.slice Y 256 y,.slice L s.2.2.length cl]) (wrD s.1 k b,s.2.1.set k 1,s.2.2)):=Za (by
   have h5:Sto (Old w5) w5 (.agg #[.slice P n1 p,.slice Q n2 r,.slice Y 256 y,.slice L s.2.2.length cl]) (wrD s.1 k b,s.2.1.set k 1,s.2.2) :=
    Sto.mk (hd5.out.map fun _ _ hp hc=>Zd5 hp hc) (Zf _ _ _ _ _ _ (fun _ _ hp hc=>Zd5 hp hc) hy5.out) (H0.out.below B5.out).parts.2.2
   exact Z9 h5 hVf.out F5 (by simp) gr9)
  rw[<- hW9] at hx9;have hW:=Za hW9;have hlen:Hid ((wrD s.1 k b).1.length=n1/\(wrD s.1 k b).2.length=n2/\(s.2.1.set k 1).length=256):=Za ⟨hn1,hn2,by rw[Pi];exact hl1.out⟩;replace g9:=Za g9;replace F5:=Za F5;clear hW9 gr9 gs9 hn1 hn2
  go_region
  all_goals
   (go_wp2_with fail
    try rw[hW.out]
    have o0':(W9.drew).cell? ⟨w.heap.size+1,0,none⟩=some (.slice P n1 p):=o0;have o1':(W9.drew).cell? ⟨w.heap.size+1,1,none⟩=some (.slice Q n2 r):=o1;have o2':(W9.drew).cell? ⟨w.heap.size+1,2,none⟩=some (.slice Y 256 y):=o2;have o3':(W9.drew).cell? ⟨w.heap.size+1,3,none⟩=some (.slice L s.2.2.length cl):=o3;refine Qau (v:=.tuple #[.agg #[.slice P n1 p,.slice Q n2 r,.slice Y 256 y,.slice L s.2.2.length cl],.int .i64 (k:Int)]) (by simp[results,Tryz.results167,go_sem,o0',o1',o2',o3']) rfl ?_;rw[hN.out,hV.out];show ∃ A ca B cb N cn L cl,_=Ending.returned (.tuple #[.agg #[.slice A (wrD s.1 k b).1.length ca,.slice B (wrD s.1 k b).2.length cb,.slice N (s.2.1.set k 1).length cn,.slice L s.2.2.length cl],.int .i64 (k:Int)])/\Sto _ _ (.agg #[.slice A (wrD s.1 k b).1.length ca,.slice B (wrD s.1 k b).2.length cb,.slice N (s.2.1.set k 1).length cn,.slice L s.2.2.length cl]) (wrD s.1 k b,s.2.1.set k 1,s.2.2)/\_;rw[hlen.out.1,hlen.out.2.1,hlen.out.2.2]
    exact⟨P,p,Q,r,Y,y,L,cl,rfl,hs9.out.below (Qb _ _).drew,hB9.out.trans ((Qb _ _).drew)⟩)}
def lfR (s:Rm) (k:Nat):Rm:=match lfO s.1 s.2.1 k with
 | some t=>(s.1,t,s.2.2)
 | none=>Zn
theorem Zku {s:Rm}{k:Nat}{t:List UInt8}(h:lfO s.1 s.2.1 k=some t):lfR s k=(s.1,t,s.2.2):=by rw[lfR,h]
theorem Z0u {s:Rm}{k:Nat}(h:lfO s.1 s.2.1 k=none):lfR s k=Zn:=by rw[lfR,h]
theorem Zgl (v:Qar) (s:Rm) (k:Nat) (hm:Yp s=true) (h8:8<=k) (h256:k<256) (w:Qaq) (h:Sto (Old w) w v s) :
  Qaw Tryz.prog 65 #[v,.int .i64 k] w fun e w'=>∃ t,e=.returned (.tuple #[t,.bool (lfO s.1 s.2.1 k).isSome])/\Sto (Old w') w' t (lfR s k)/\Qax w.heap.size w w':=by{
 have H0:=Za h;obtain⟨A,ca,B,cb,N,cn,L,cl,w1,rfl,hw1,f1,f2,hsz,hB,H⟩:=V3 h;clear h;obtain⟨k0,k1,k2,k3,_,kg⟩:=Ze f1;replace hsz:=Za hsz;replace f2:=Za f2;have hL:=Za (Zz5 s hm _ _ s.2.1 k w1 H.out H.out.parts.2.1 (LeT.refl _) h8 h256);have hfu:=Za (Va hm);cases hf:lfO s.1 s.2.1 k with
 | none =>
  rw[hf] at hL;have hV:=Za (Z0u hf);clear hf hm
  go_enter Tryz.func65,Tryz.ntmps65
  go_upto_region 1 with fail
  clear hw1
  go_wp2_with fail
  with_reducible refine hL.out.mono ?_
  rintro e w2 ⟨X,xc,rfl,_,hb2⟩;have F2:=(hb2.block (w.heap.size+1) (by rw[hsz.out];omega)).trans f2.out;replace hb2:=Za (hB.trans (hb2.mono hB.size));clear hL k0 k1 k2 k3;obtain⟨k0,k1,k2,k3,k4,k5⟩:=Ze F2;obtain⟨W9,hW9,g9,gr9,gs9⟩:=Zo (a':=.slice none 0 0) (b':=.slice none 0 0) (c':=.slice none 0 0) (d':=.slice none 0 0) F2;obtain⟨n0,n1,n2,n3,_,_⟩:=Ze g9;have hB9:=Za ((hb2).out.grown gr9 (hb2).out.size (fun q e=>by cases e;omega));replace g9:=Za g9;replace F2:=Za F2;clear gr9 gs9
  go_wp2_with fail
  refine Qau (v:=.tuple #[.agg #[.slice none 0 0,.slice none 0 0,.slice none 0 0,.slice none 0 0],.bool false]) (by simp[results,Tryz.results65,go_sem,n0,n1,n2,n3]) rfl ?_;rw[hV.out];exact⟨_,rfl,Zu _ _,hB9.out⟩
 | some T =>
  rw[hf] at hL;have hV:=Za (Zku hf);clear hf hm
  go_enter Tryz.func65,Tryz.ntmps65
  go_upto_region 1 with fail
  clear hw1
  go_wp2_with fail
  with_reducible refine hL.out.mono ?_
  rintro e w2 ⟨X,xc,rfl,hx,hb2⟩;replace hx:rBy (New w1.heap.size w2) w2 [.slice X T.length xc] T:=hx;have G2:=(hb2.block w.heap.size kg).trans f1;have F2:=Za ((hb2.block (w.heap.size+1) (by rw[hsz.out];omega)).trans f2.out);obtain⟨m0,m1,m2,m3,mf,mg⟩:=Ze G2;obtain⟨W5,hW5,g5,gr5,gs5⟩:=Zcg (c':=.slice X T.length xc) G2;have hx5:Hid (rBy (New w1.heap.size W5) W5 [.slice X T.length xc] T):=Za (Zf.grown hx gr5 (fun q e=>by cases e;exact kg));have F5:=(gr5.block (w.heap.size+1) (by have:=hb2.size;have:=hsz.out;omega) (by simp)).trans F2.out;have B5:=Za ((hB.trans (hb2.mono hB.size)).grown gr5 (hB.trans (hb2.mono hB.size)).size (fun q e=>by cases e;omega));have G5:=Za g5;replace G2:=Za G2;clear hL k0 k1 k2 k3 hx hb2 g5 gr5 gs5 f1
  go_upto_region 5 with fail
  clear hW5 m0 m1 m2 m3 mf mg;obtain⟨w5,rfl⟩:∃ w5:Qaq,w5=W5:=⟨_,rfl⟩
  obtain⟨m0,m1,m2,m3,_,mg⟩:=Ze G5.out;obtain⟨c0,c1,c2,c3,c4,c5⟩:=Ze F5;obtain⟨W9,hW9,g9,gr9,gs9⟩:=Zo (a':=.slice A s.1.1.length ca) (b':=.slice B s.1.2.length cb) (c':=.slice X T.length xc) (d':=.slice L s.2.2.length cl) F5;obtain⟨o0,o1,o2,o3,_,_⟩:=Ze g9;have hB9:=Za (B5.out.grown gr9 B5.out.size (fun q e=>by cases e;omega))
  have hs9:Hid (Sto (Old W9) W9 (.agg #[.slice A s.1.1.length ca,.slice B s.1.2.length cb,.slice X T.length xc,.slice L s.2.2.length cl]) (s.1,T,s.2.2)):=Za (by
   have h5:Sto (Old w5) w5 (.agg #[.slice A s.1.1.length ca,.slice B s.1.2.length cb,.slice X T.length xc,.slice L s.2.2.length cl]) (s.1,T,s.2.2) :=
    Sto.mk (H0.out.below B5.out).parts.1 (Zf.drop hx5.out) (H0.out.below B5.out).parts.2.2
   exact Z9 h5 hfu.out F5 (by simp) gr9)
  replace g9:=Za g9;replace F5:=Za F5;clear gr9 gs9
  go_wp2_with fail
  refine Qau (v:=.tuple #[.agg #[.slice A s.1.1.length ca,.slice B s.1.2.length cb,.slice X T.length xc,.slice L s.2.2.length cl],.bool true]) (by simp[results,Tryz.results65,go_sem,o0,o1,o2,o3]) rfl ?_;rw[hV.out];exact⟨_,rfl,hs9.out,hB9.out⟩}
def ctR (s:Rm) (n:Nd):Rm:=if ctE s.2.1 n.2=0 then ctS s n else Zn
theorem Zsa {l:List It}{i:Nat}{x:It}{t:List UInt8}(h:ctE t (l.take i)=0) (hx:l[i]? = some x):ctE t l=ctE (ctV t (l.take i)) (x::l.drop (i+1)):=by
 have hk:=(Qe.1 hx).1;have hg:l[i]=x:=(Qe.1 hx).2;have e:l=l.take i++x::l.drop (i+1):=by rw[<- hg,Q5,Qv]
 have:ctE t l=ctE t (l.take i++x::l.drop (i+1)):=by rw[<- e]
 rw[this,Zl7,if_pos h]
theorem Zvy {l:List It}{i:Nat}{x:It}{t:List UInt8}(h:ctE t (l.take i)=0) (hx:l[i]? = some x):ctE t (l.take (i+1))=ctE (ctV t (l.take i)) [x]/\ctV t (l.take (i+1))=ctV (ctV t (l.take i)) [x]:=by
 have hk:=(Qe.1 hx).1;have hg:l[i]=x:=(Qe.1 hx).2;rw[<- Q8 hk,Zl7,Zqb,if_pos h,hg];exact⟨rfl,rfl⟩
theorem Zf9 {w:Qaq}(a b c d e f:Qar):∃ w1,((w.alloc (.cells #[a,b,c,d] 29)).alloc (.cells #[e,f] 81)).alloc (.cells #[.slice none 0 0,.slice none 0 0,.slice none 0 0,.slice none 0 0] 29)=w1 /\
  w1.heap[w.heap.size]? = some (.cells #[a,b,c,d] 29 (0,0))/\w1.heap[w.heap.size+1]? = some (.cells #[e,f] 81 (0,0))/\w1.heap[w.heap.size+2]? = some (.cells #[.slice none 0 0,.slice none 0 0,.slice none 0 0,.slice none 0 0] 29 (0,0))/\w1.heap.size=w.heap.size+3/\Qax w.heap.size w w1:=by{
 refine⟨_,rfl,Yk (Yk (Qav _ _)),Yk ?_,?_,by simp,(((Qb _ w).alloc (Qd _) _).alloc (by simp) _).alloc (by simp;omega) _⟩
 ·have:=Qav (w.alloc (.cells #[a,b,c,d] 29)) (.cells #[e,f] 81)
  rwa [Q9] at this
 ·have:=Qav ((w.alloc (.cells #[a,b,c,d] 29)).alloc (.cells #[e,f] 81)) (.cells #[.slice none 0 0,.slice none 0 0,.slice none 0 0,.slice none 0 0] 29)
  rwa [Q9,Q9] at this}
theorem Zi7 (v u:Qar) (s:Rm) (n:Nd) (hm:Yp s=true) (hn:Xn n=true) (w:Qaq) (h:Sto (Old w) w v s) (hu:Nod (Old w) w u n) :
  Qaw Tryz.prog 166 #[v,u] w fun e w'=>∃ t,e=.returned (.tuple #[t,.int .i64 (ctE s.2.1 n.2)])/\Sto (Old w') w' t (ctR s n)/\Qax w.heap.size w w':=by{
 have H0:=Za h;obtain⟨A,ca,B,cb,N,cn,L,cl,rfl,_⟩:=id h.open;obtain⟨I,ci,rfl,_,_,_,hI⟩:=hu.open;have HI:=Za hI;have hl0:=Z0 (Zw hm).2.1;obtain⟨lw,hlw⟩:∃ q,n.1=q:=⟨_,rfl⟩
 obtain⟨l,hl⟩:∃ q,n.2=q:=⟨_,rfl⟩
 obtain⟨t0,ht0⟩:∃ q,s.2.1=q:=⟨_,rfl⟩
 obtain⟨m,hlm⟩:∃ q,l.length=q:=⟨_,rfl⟩
 have hrf:=Za (V4 hn);obtain⟨⟨_,_,s3,_⟩,_⟩:=Zs hn;have hfu:=Za (Va hm);have hcr:Hid (ctR s n=if ctE t0 l=0 then (s.1,ctV t0 l,s.2.2) else Zn):=Za (by rw[<- hl,<- ht0];rfl);have hNW:=Za h.parts.2.1;rw[hl,hlm] at s3 HI;rw[hl] at hrf;rw[ht0] at hl0 hNW;rw[hlw,hl,ht0,hlm];obtain⟨w1,hw1,f1,fn,f2,hsz,hB⟩:=Zf9 (w:=w) (.slice A s.1.1.length ca) (.slice B s.1.2.length cb) (.slice N t0.length cn) (.slice L s.2.2.length cl) (.int .i64 lw) (.slice I m ci);obtain⟨v',w2,hr2,ho2,hb2⟩:=Zrv (.slice none 0 0) 0 [] (.slice N t0.length cn) t0 w1.heap.size w1 (Py _ _ _ _) (Zf.old hNW.out hB) (by omega) (Qd _);rw[Pj,Pk] at ho2;obtain⟨g,c2,rfl,hg1,hg2,hg3,hg4⟩:=Ze1 ho2 (by omega);obtain⟨k0,k1,k2,k3,_,kg⟩:=Ze f1;obtain⟨p0,p1,_,pg⟩:=Zg fn;have h3:Hid (w1.heap.size=w.heap.size+3):=Za hsz;have hgg:Hid (w.heap.size+3<=g):=Za (by omega);replace ho2:=Za ho2;have H2:=Za hr2;have B1:=Za hB;have B2:=Za hb2;have f1h:=Za f1;replace fn:=Za fn;replace f2:=Za f2;replace hl0:=Za hl0;replace ht0:=Za ht0;replace hl:=Za hl;replace hlw:=Za hlw;replace hlm:=Za hlm;clear hr2 hsz hB hb2 h hu hI f1 hg1
 go_enter Tryz.func166,Tryz.ntmps166
 go_upto_region 1 with fail
 clear hw1
 go_wp2_with (at_builtin;refine Zi rfl _ _ _ rfl rfl rfl H2.out ?_;clear H2)
 clear k0 k1 k2 k3 p0 p1
 go_loopw [7] (fun vi wr=>∃ i:Nat,i<=m/\vi=.int .i64 i/\ctE t0 (l.take i)=0/\wr.ownsRow w1.heap.size 5 1 (.slice (some ⟨g,0,none⟩) t0.length c2) t0.length (u8s (ctV t0 (l.take i)))/\Qax w1.heap.size w1 wr) (fun vi _=>m-(intOf vi).toNat)
 case atStart=>exact⟨0,by omega,rfl,rfl,ho2.out,B2.out⟩
 case round =>
  obtain⟨i,hi,rfl,hE,hown,hbr⟩:=hrel;have BF:=Za (B1.out.trans (hbr.mono B1.out.size));have r1:=(hbr.block w.heap.size kg).trans f1h.out;have r2:=(hbr.block (w.heap.size+1) pg).trans fn.out;have r3:=(hbr.block (w.heap.size+2) (by rw[h3.out];omega)).trans f2.out;obtain⟨p0,p1,_,_⟩:=Zg r2;by_cases hlt:i<m
  case neg =>
   have hlast:Hid (l.take i=l):=Za (Qw (by rw[hlm.out];omega));have hEl:Hid (ctE t0 l=0):=Za (by rw[<- hE,hlast.out]);obtain⟨W5,hW5,g5,gr5,gs5⟩:=Zcg (c':=.slice (some ⟨g,0,none⟩) t0.length c2) r1
   have hx5:Hid (rBy (New w1.heap.size W5) W5 [.slice (some ⟨g,0,none⟩) t0.length c2] (ctV t0 l)):=Za (by
    have h1:=Zal hown;rw[hlast.out] at h1
    exact Zf.grown h1 gr5 (fun q e=>by cases e;exact kg))
   have F5:=(gr5.block (w.heap.size+2) (by have:=hbr.size;have:=h3.out;omega) (by simp)).trans r3;have B5:=Za (BF.out.grown gr5 BF.out.size (fun q e=>by cases e;omega));obtain⟨c0,c1,cc2,c3,c4,c5⟩:=Ze r1;have G5:=Za g5;replace r1:=Za r1;replace r2:=Za r2;replace r3:=Za r3;have hlen:Hid ((ctV t0 l).length=t0.length):=Za (Zbs l t0);clear hown hbr hE g5 gr5 gs5
   go_upto_region 13 with fail
   clear hW5 c0 c1 cc2 c3 c4 c5 p0 p1;obtain⟨w5,rfl⟩:∃ w5:Qaq,w5=W5:=⟨_,rfl⟩
   obtain⟨m0,m1,m2,m3,_,mg⟩:=Ze G5.out;obtain⟨c0,c1,cc2,c3,c4,c5⟩:=Ze F5;obtain⟨W9,hW9,g9,gr9,gs9⟩:=Zo (a':=.slice A s.1.1.length ca) (b':=.slice B s.1.2.length cb) (c':=.slice (some ⟨g,0,none⟩) t0.length c2) (d':=.slice L s.2.2.length cl) F5;obtain⟨o0,o1,o2,o3,_,_⟩:=Ze g9;have hB9:=Za (B5.out.grown gr9 B5.out.size (fun q e=>by cases e;omega))
   have hs9:Hid (Sto (Old W9) W9 (.agg #[.slice A s.1.1.length ca,.slice B s.1.2.length cb,.slice (some ⟨g,0,none⟩) t0.length c2,.slice L s.2.2.length cl]) (s.1,ctV t0 l,s.2.2)):=Za (by
    have h5:Sto (Old w5) w5 (.agg #[.slice A s.1.1.length ca,.slice B s.1.2.length cb,.slice (some ⟨g,0,none⟩) t0.length c2,.slice L s.2.2.length cl]) (s.1,ctV t0 l,s.2.2) :=
     Sto.mk (H0.out.below B5.out).parts.1 (Zf.drop hx5.out) (H0.out.below B5.out).parts.2.2
    exact Z9 h5 hfu.out F5 (by simp) gr9)
   replace g9:=Za g9;replace F5:=Za F5;clear gr9 gs9
   go_wp2_with fail
   refine Qau (v:=.tuple #[.agg #[.slice A s.1.1.length ca,.slice B s.1.2.length cb,.slice (some ⟨g,0,none⟩) t0.length c2,.slice L s.2.2.length cl],.int .i64 0]) (by simp[results,Tryz.results166,go_sem,o0,o1,o2,o3]) rfl ?_;rw[hcr.out,if_pos hEl.out,hEl.out];exact⟨_,rfl,hs9.out,hB9.out⟩
  obtain⟨x,hx⟩:∃ x,l[i]? = some x:=⟨_,Qc (by rw[hlm.out];exact hlt)⟩
  have hsp:=Za (Zsa hE hx);have hnx:=Za (Zvy hE hx);have hxr:=hrf.out x (Qf hx);obtain⟨ad5,E5,ce5,rfl,_,_,_,FX⟩:=Y4 HI.out hx;obtain⟨⟨_,_,_,z3,_⟩,_⟩:=FX wr BF.out;clear FX;have i4:(0:Int)<=(i:Int):=by omega
  have i5:(i:Int)<(m:Int):=by omega
  obtain⟨z,hzz⟩:∃ z,x.2.1=z:=⟨_,rfl⟩
  have hc1:∀ T,ctE T (x::l.drop (i+1))=if z=0 then ctE T (l.drop (i+1)) else if T[z.toNat]?.getD 0=0 then 6 else if T[z.toNat]?.getD 0=255 then 70 else ctE (T.set z.toNat (T[z.toNat]?.getD 0+1)) (l.drop (i+1)):=fun T=>by rw[<- hzz];rfl
  have hc2:∀ T,ctE T [x]=if z=0 then 0 else if T[z.toNat]?.getD 0=0 then 6 else if T[z.toNat]?.getD 0=255 then 70 else 0:=fun T=>by rw[<- hzz];rfl
  have hc3:∀ T,ctV T [x]=if z=0 then T else T.set z.toNat (T[z.toNat]?.getD 0+1):=fun T=>by rw[<- hzz];rfl
  rw[hzz] at z3 hxr;replace hx:=Za hx;replace hzz:=Za hzz;obtain⟨T,hT⟩:∃ T,ctV t0 (l.take i)=T:=⟨_,rfl⟩
  have hTl:Hid (T.length=t0.length):=Za (by rw[<- hT];exact Zbs _ _);rw[hT] at hown hsp hnx;replace hT:=Za hT;by_cases hz0:z=0
  ·have hn1:Hid (ctE t0 (l.take (i+1))=0/\ctV t0 (l.take (i+1))=T):=Za ⟨by rw[hnx.out.1,hc2,if_pos hz0],by rw[hnx.out.2,hc3,if_pos hz0]⟩
   subst hz0;have HO:=Za hown;replace r1:=Za r1;replace r2:=Za r2;replace r3:=Za r3;replace hbr:=Za hbr;clear hc1 hc2 hc3 hxr hown hE hsp hnx
   go_wp2_with fail
   go_roundw
   case rel=>exact⟨i+1,by omega,by go_num,hn1.out.1,by rw[hn1.out.2];exact HO.out,hbr.out⟩
   case measure=>simp[intOf];omega
  obtain⟨r,hr,r8,r256⟩:∃ r:Nat,z=r/\8<=r/\r<256:=⟨z.toNat,by omega,by omega,by omega⟩
  rw[hc1,if_neg hz0,show z.toNat=r by omega] at hsp;rw[hc2,hc3,if_neg hz0,if_neg hz0,show z.toNat=r by omega] at hnx;have j3:(z==0)=false:=by simpa using hz0
  subst hr;have hcell:=Zbr hown (j:=r) (by rw[hl0.out];exact r256);have j5:r<t0.length:=by rw[hl0.out];exact r256
  obtain⟨y,hy⟩:∃ y,T[r]?.getD 0=y:=⟨_,rfl⟩
  rw[hy] at hsp hnx hcell;replace hy:=Za hy;by_cases hy0:y=0
  ·have t1:=Y0 (y:=0) (q:=0) rfl hy0
   have hEl:Hid (ctE t0 l=6):=Za (by rw[hsp.out,if_pos hy0]);replace r1:=Za r1;replace r2:=Za r2;clear hc1 hc2 hc3 hxr hown hE hsp hnx hbr hz0;obtain⟨k0,k1,k2,k3,k4,k5⟩:=Ze r3;obtain⟨W9,hW9,g9,gr9,gs9⟩:=Zo (a':=.slice none 0 0) (b':=.slice none 0 0) (c':=.slice none 0 0) (d':=.slice none 0 0) r3;obtain⟨n0,n1,n2,n3,_,_⟩:=Ze g9;have hB9:=Za ((BF).out.grown gr9 (BF).out.size (fun q e=>by cases e;omega));replace g9:=Za g9;replace r3:=Za r3;clear gr9 gs9
   go_wp2_with fail
   refine Qau (v:=.tuple #[.agg #[.slice none 0 0,.slice none 0 0,.slice none 0 0,.slice none 0 0],.int .i64 6]) (by simp[results,Tryz.results166,go_sem,n0,n1,n2,n3]) rfl ?_;rw[hcr.out,hEl.out];exact⟨_,rfl,Zu _ _,hB9.out⟩
  have t1:=Yf (y:=0) (q:=0) rfl hy0;by_cases hy5:y=255
  ·have t2:=Y0 (y:=255) (q:=255) rfl hy5
   have hEl:Hid (ctE t0 l=70):=Za (by rw[hsp.out,if_neg hy0,if_pos hy5]);replace r1:=Za r1;replace r2:=Za r2;clear hc1 hc2 hc3 hxr hown hE hsp hnx hbr hz0;obtain⟨k0,k1,k2,k3,k4,k5⟩:=Ze r3;obtain⟨W9,hW9,g9,gr9,gs9⟩:=Zo (a':=.slice none 0 0) (b':=.slice none 0 0) (c':=.slice none 0 0) (d':=.slice none 0 0) r3;obtain⟨n0,n1,n2,n3,_,_⟩:=Ze g9;have hB9:=Za ((BF).out.grown gr9 (BF).out.size (fun q e=>by cases e;omega));replace g9:=Za g9;replace r3:=Za r3;clear gr9 gs9
   go_wp2_with fail
   refine Qau (v:=.tuple #[.agg #[.slice none 0 0,.slice none 0 0,.slice none 0 0,.slice none 0 0],.int .i64 70]) (by simp[results,Tryz.results166,go_sem,n0,n1,n2,n3]) rfl ?_;rw[hcr.out,hEl.out];exact⟨_,rfl,Zu _ _,hB9.out⟩
  have t2:=Yf (y:=255) (q:=255) rfl hy5;have hfr:wr.frozen? ⟨g,r,none⟩=false:=by
   have:=Zeq hown r
   rwa [show (⟨g,0,none⟩:Qas).add r=⟨g,r,none⟩ by simp[Uq]] at this
  obtain⟨hu1,hu2,hu3⟩:=Zd1 hy5;have hset:=Zhf hown r (y+1);have hn1:Hid (ctE t0 (l.take (i+1))=0/\ctV t0 (l.take (i+1))=T.set r (y+1)):=Za ⟨by rw[hnx.out.1,if_neg hy0,if_neg hy5],hnx.out.2⟩;rw[<- hu1] at hset;replace hset:=Za hset;replace hu1:=Za hu1;have hbn:=Za (hbr.setCell (p:=⟨g,r,none⟩) (by show w1.heap.size<=g;have:=h3.out;have:=hgg.out;omega) (.int .u8 ((y.toNat:Int)+1)));replace r1:=Za r1;replace r2:=Za r2;replace r3:=Za r3;clear hc1 hc2 hc3 hxr hown hE hsp hnx hbr hz0
  go_wp2_with fail
  go_roundw
  case rel=>exact⟨i+1,by omega,by go_num,hn1.out.1,by rw[hn1.out.2];exact hset.out,hbn.out⟩
  case measure=>simp[intOf];omega}
theorem Z32 {s:Rm}{b:List UInt8}(hm:Yp s=true) (hlb:b.length=128):U1 (tnV s b)/\((tkE s b=9/\tnN s = -1)\/(tkE s b=0/\∃ k:Nat,tnN s=k/\tkN s b=k/\tkV s b=tnV s b)):=by{
 rcases Zyl s b with ⟨h,_⟩ | ⟨_,h,_⟩ | ⟨_,_,h,e⟩ | ⟨_,_,_,h,e⟩ | ⟨_,_,h,h',e⟩
 ·rw[hm] at h;cases h
 ·exact absurd hlb h
 ·exact⟨by rw[tnV,if_pos (.inl h)];exact Va hm,.inl ⟨e,by rw[tnN,if_pos (.inl h)]⟩⟩
 ·exact⟨by rw[tnV,if_pos (.inr h)];exact Va hm,.inl ⟨e,by rw[tnN,if_pos (.inr h)]⟩⟩
 ·have hno:¬ (X5 s=[]\/4096<=s.1.2.length):=by
   rintro(h1 | h1)
   ·exact h h1
   ·omega
  obtain⟨-,-,-,-,-,-,-,-,hN,hV⟩:=Zqd e;have hv:tkV s b=tnV s b:=by rw[hV,tnV,if_neg hno]
  exact⟨by rw[<- hv];exact Zo2 s b,.inr ⟨e,tkK s,by rw[tnN,if_neg hno],hN,hv⟩⟩}
theorem Zxd {s:Rm}{n:Nd}(hm:Yp s=true) (hn:Xn n=true):(ctE s.2.1 n.2≠0/\mkE s n=ctE s.2.1 n.2/\mkN s n=0/\mkV s n=Zn)\/(ctE s.2.1 n.2=0/\mkE s n=tkE (ctS s n) (Zb5 n)/\mkN s n=tkN (ctS s n) (Zb5 n)/\mkV s n=tkV (ctS s n) (Zb5 n)):=by{
 by_cases hc:ctE s.2.1 n.2=0
 ·have e:mkE s n=tkE (ctS s n) (Zb5 n):=by simp[mkE,hm,hn,hc]
  refine .inr ⟨hc,e,?_,?_⟩
  ·by_cases h:mkE s n=0
   ·rw[mkN,if_pos h]
   ·rw[mkN,if_neg h,(Zm9 (by rw[<- e];exact h)).1]
  ·by_cases h:mkE s n=0
   ·rw[mkV,if_pos h]
   ·rw[mkV,if_neg h,(Zm9 (by rw[<- e];exact h)).2]
 ·have e:mkE s n=ctE s.2.1 n.2:=by simp[mkE,hm,hn,hc]
  have h:mkE s n≠0:=by rw[e];exact hc
  exact .inl ⟨hc,e,(Zlj h).1,(Zlj h).2⟩}
theorem Zqm (v u:Qar) (s:Rm) (n:Nd) (hm:Yp s=true) (hn:Xn n=true) (w:Qaq) (h:Sto (Old w) w v s) (hu:Nod (Old w) w u n) :
  Qaw Tryz.prog 142 #[v,u] w fun e w'=>∃ t,e=.returned (.tuple #[t,.int .i64 (mkN s n),.int .i64 (mkE s n)])/\Sto (Old w') w' t (mkV s n)/\Qax w.heap.size w w':=by{
 obtain⟨A,ca,B,cb,N,cn,L,cl,rfl,_⟩:=id h.open;obtain⟨I,ci,rfl,_⟩:=id hu.open;obtain⟨w1,hw1,f1,fn,f2,hsz,hB⟩:=Zf9 (w:=w) (.slice A s.1.1.length ca) (.slice B s.1.2.length cb) (.slice N s.2.1.length cn) (.slice L s.2.2.length cl) (.int .i64 n.1) (.slice I n.2.length ci);have H:=Za (h.below hB);have U:=Za (hu.below hB);clear h hu;have hCt:=Za (Zi7 _ _ s n hm hn w1 H.out U.out);obtain⟨k0,k1,k2,k3,_,kg⟩:=Ze f1;obtain⟨p0,p1,_,pg⟩:=Zg fn;replace hsz:=Za hsz;replace f1:=Za f1;replace f2:=Za f2;have fnh:=Za fn;clear fn;rcases Zxd hm hn with ⟨hc,hE,hN,hV⟩ | ⟨hc,hE,hN,hV⟩
 ·obtain⟨q,hq⟩:∃ q,ctE s.2.1 n.2=q:=⟨_,rfl⟩
  have hq1:(q != 0)=true:=by rw[<- hq];simpa using hc
  have hcr:ctR s n=Zn:=by rw[ctR,if_neg hc]
  rw[hcr,hq] at hCt;rw[hq] at hE;replace hE:=Za hE;replace hN:=Za hN;replace hV:=Za hV;replace hq:=Za hq;clear hc hcr hm hn
  go_enter Tryz.func142,Tryz.ntmps142
  go_upto_region 1 with fail
  clear hw1
  go_wp2_with fail
  with_reducible refine hCt.out.mono ?_
  rintro e w2 ⟨t,rfl,ht,hb2⟩;obtain⟨P,p,Q,q',R1,r1,K,k9,rfl,_⟩:=id ht.open;obtain⟨w3,hw3,f3,hs3,hb3⟩:=Vm w2 (.slice P Zn.1.1.length p) (.slice Q Zn.1.2.length q') (.slice R1 Zn.2.1.length r1) (.slice K Zn.2.2.length k9) 29;have F3:=(hb3.block (w.heap.size+2) (by have:=hsz.out;have:=hb2.size;omega)).trans ((hb2.block (w.heap.size+2) (by rw[hsz.out];omega)).trans f2.out);have B3:=Za (hB.trans ((hb2.trans (hb3.mono hb2.size)).mono hB.size));replace hs3:=Za hs3;replace f3:=Za f3;replace F3:=Za F3;clear hCt ht hb2 hb3 k0 k1 k2 k3 p0 p1
  go_upto_region 2 with fail
  clear hw3;have F3:=F3.out;obtain⟨k0,k1,k2,k3,k4,k5⟩:=Ze F3;obtain⟨W9,hW9,g9,gr9,gs9⟩:=Zo (a':=.slice none 0 0) (b':=.slice none 0 0) (c':=.slice none 0 0) (d':=.slice none 0 0) F3;obtain⟨n0,n1,n2,n3,_,_⟩:=Ze g9;have hB9:=Za ((B3).out.grown gr9 (B3).out.size (fun q e=>by cases e;omega));replace g9:=Za g9;replace F3:=Za F3;clear gr9 gs9
  go_wp2_with fail
  refine Qau (v:=.tuple #[.agg #[.slice none 0 0,.slice none 0 0,.slice none 0 0,.slice none 0 0],.int .i64 0,.int .i64 q]) (by simp[results,Tryz.results142,go_sem,n0,n1,n2,n3]) rfl ?_;rw[hE.out,hN.out,hV.out];exact⟨_,rfl,Zu _ _,hB9.out⟩
 have hcr:ctR s n=ctS s n:=by rw[ctR,if_pos hc]
 rw[hcr,hc] at hCt;have hbl:=Zdw hn;have hSm:=Z3d hm hn hc;obtain⟨S,hS⟩:∃ S,ctS s n=S:=⟨_,rfl⟩
 rw[hS] at hCt hSm hE hN hV;obtain⟨bl,hblk⟩:∃ b,Zb5 n=b:=⟨_,rfl⟩
 rw[hblk] at hbl hE hN hV;obtain⟨hfull,hways⟩:=Z32 hSm hbl
 have hTk:Hid (∀ v u W,Sto (Old W) W v S->rBy (Old W) W [u] bl->Qaw Tryz.prog 167 #[v,u] W fun e w'=>∃ A ca B cb N cn L cl,e=.returned (.tuple #[.agg #[.slice A (tnV S bl).1.1.length ca,.slice B (tnV S bl).1.2.length cb,.slice N (tnV S bl).2.1.length cn,.slice L (tnV S bl).2.2.length cl],.int .i64 (tnN S)]) /\
   Sto (Old w') w' (.agg #[.slice A (tnV S bl).1.1.length ca,.slice B (tnV S bl).1.2.length cb,.slice N (tnV S bl).2.1.length cn,.slice L (tnV S bl).2.2.length cl]) (tnV S bl)/\Qax W.heap.size W w'):=Za fun v u W h hu=>Zln v u S bl hSm hbl W h hu
 have hBk:Hid (∀ v W,Nod (Old W) W v n->Qaw Tryz.prog 168 #[v] W fun e w'=>∃ u,e=.returned u/\rBy (Old w') w' [u] bl/\Qax W.heap.size W w'):=Za fun v W h=>by
  refine(Zn1 v n W h hn).mono ?_;rintro e w' ⟨u,rfl,h1,h2⟩;rw[hblk] at h1;exact⟨u,rfl,Zf.drop h1,h2⟩
 obtain⟨T,hT⟩:∃ T,tnV S bl=T:=⟨_,rfl⟩
 obtain⟨tn,htn⟩:∃ q,tnN S=q:=⟨_,rfl⟩
 rw[hT,htn] at hTk hways;rw[hT] at hfull;replace hfull:=Za hfull;replace hE:=Za hE;replace hN:=Za hN;replace hV:=Za hV;replace hS:=Za hS;replace hT:=Za hT;replace htn:=Za htn;replace hblk:=Za hblk;clear hc hcr hm hn hbl hSm
 go_enter Tryz.func142,Tryz.ntmps142
 go_upto_region 1 with fail
 clear hw1
 go_wp2_with fail
 with_reducible refine hCt.out.mono ?_
 rintro e w2 ⟨t,rfl,ht,hb2⟩;obtain⟨P,p,Q,q',R1,r1,K,k9,rfl,_⟩:=id ht.open;obtain⟨w3,hw3,f3,hs3,hb3⟩:=Vm w2 (.slice P S.1.1.length p) (.slice Q S.1.2.length q') (.slice R1 S.2.1.length r1) (.slice K S.2.2.length k9) 29;have F3:=Za ((hb3.block (w.heap.size+2) (by have:=hsz.out;have:=hb2.size;omega)).trans ((hb2.block (w.heap.size+2) (by rw[hsz.out];omega)).trans f2.out));have E3:=(hb3.block (w.heap.size+1) (by have:=hsz.out;have:=hb2.size;omega)).trans ((hb2.block (w.heap.size+1) pg).trans fnh.out);have U3:=Za (U.out.below (hb2.trans (hb3.mono hb2.size)));have S3:=Za (ht.below hb3);have B3:=Za (hB.trans ((hb2.trans (hb3.mono hb2.size)).mono hB.size));have z3:Hid (w.heap.size+3<=w2.heap.size):=Za (by have:=hsz.out;have:=hb2.size;omega);obtain⟨m0,m1,m2,m3,_,mg⟩:=Ze f3;obtain⟨p0,p1,_,pg⟩:=Zg E3;replace hs3:=Za hs3;replace f3:=Za f3;replace E3:=Za E3;clear hCt ht hb2 hb3 k0 k1 k2 k3 hB
 go_upto_region 4 with fail
 clear hw3
 refine Xh (ops' := ?opsLate) (by kernel_rfl) [(8,6)] ?he (by kernel_rfl) (fun d _ _ _ _ h=>by cases d <;> exact h) 8 (fun W=>Qax w3.heap.size w3 W) (fun i=>match i with
   | 2=>some (fun v W=>rBy (Old W) W [v] bl)
   | 3=>some (fun v W=>∃ A ca B cb N cn L cl,v=.tuple #[.agg #[.slice A T.1.1.length ca,.slice B T.1.2.length cb,.slice N T.2.1.length cn,.slice L T.2.2.length cl],.int .i64 tn]/\Sto (Old W) W (.agg #[.slice A T.1.1.length ca,.slice B T.1.2.length cb,.slice N T.2.1.length cn,.slice L T.2.2.length cl]) T)
   | 4=>some (fun v W=>∃ A ca B cb N cn L cl,v=.tuple #[.agg #[.slice A T.1.1.length ca,.slice B T.1.2.length cb,.slice N T.2.1.length cn,.slice L T.2.2.length cl],.int .i64 tn]/\Sto (Old W) W (.agg #[.slice A T.1.1.length ca,.slice B T.1.2.length cb,.slice N T.2.1.length cn,.slice L T.2.2.length cl]) T)
   | 5=>some (fun v W=>∃ A ca B cb N cn L cl,v=.agg #[.slice A T.1.1.length ca,.slice B T.1.2.length cb,.slice N T.2.1.length cn,.slice L T.2.2.length cl]/\Sto (Old W) W (.agg #[.slice A T.1.1.length ca,.slice B T.1.2.length cb,.slice N T.2.1.length cn,.slice L T.2.2.length cl]) T)
   | 7=>some (fun v W=>∃ g,v=.pointer (some ⟨g,0,none⟩)/\w3.heap.size<=g/\W.heap[g]? = some (.cells #[.slice none 0 0,.slice none 0 0,.slice none 0 0,.slice none 0 0] 29 (0,0)))
   | _=>none) (fun i=>match i with
   | 6=>some (.int .i64 tn)
   | _=>none) ?h1 ?h2 ?h3 (Qb _ _).drew (fun w w' h hb=>h.trans (hb.mono h.size)) ?tst ?_
 case he =>
  simp[Yg];rfl
 case h1=>decide
 case h2=>kernel_rfl
 case h3=>kernel_rfl
 case tst =>
  intro j φ x W W' hp hx hb
  match j,hp with
  | 2,hp=>cases hp;exact Zf.old hx hb
  | 3,hp=>cases hp;obtain⟨A,ca,B,cb,N,cn,L,cl,e,h⟩:=hx;exact⟨A,ca,B,cb,N,cn,L,cl,e,h.below hb⟩
  | 4,hp=>cases hp;obtain⟨A,ca,B,cb,N,cn,L,cl,e,h⟩:=hx;exact⟨A,ca,B,cb,N,cn,L,cl,e,h.below hb⟩
  | 5,hp=>cases hp;obtain⟨A,ca,B,cb,N,cn,L,cl,e,h⟩:=hx;exact⟨A,ca,B,cb,N,cn,L,cl,e,h.below hb⟩
  | 7,hp=>cases hp;obtain⟨g,e,h1,h2⟩:=hx;exact⟨g,e,h1,(hb.block g (Qj.1 h2).1).trans h2⟩
 simp only[Q3,Qt,Qu,Qk]
 repeat (first
  | (refine wpAs_skip rfl ?_;simp only[Qa,Zb,Zc,Zd])
  | (refine wpAs_pure (v := ?_) rfl rfl ?_ ?_;rotate_left;(intro W hC hE;clear hE;(have a0:=(hC.cell (p:=⟨w2.heap.size,0,none⟩) mg).trans m0;have a1:=(hC.cell (p:=⟨w2.heap.size,1,none⟩) mg).trans m1;have a2:=(hC.cell (p:=⟨w2.heap.size,2,none⟩) mg).trans m2;have a3:=(hC.cell (p:=⟨w2.heap.size,3,none⟩) mg).trans m3;have b0:=(hC.cell (p:=⟨w.heap.size+1,0,none⟩) pg).trans p0;have b1:=(hC.cell (p:=⟨w.heap.size+1,1,none⟩) pg).trans p1);clear hC;go_simp;first | done | with_reducible rfl);simp only[Qa,Zb,Zc,Zd]))
 refine wpAs_act rfl rfl ?_ ?_
 ·intro W hC hE
  clear hE;refine does_enter (f:=168) (args:=#[.agg #[.int .i64 n.1,.slice I n.2.length ci]]) ?_ ?_
  ·go_simp
  ·refine(hBk.out _ W (U3.out.below hC)).mono ?_
   rintro e W' ⟨u,rfl,hu,hb⟩;exact⟨_,rfl,hu,hb⟩
 simp only[Qa,Zb,Zc,Zd,envAdd];intro x24;refine wpAs_act rfl rfl ?_ ?_
 ·intro W hC hE
  have h24:=hE.1 rfl;clear hE;refine does_enter (f:=167) (args:=#[.agg #[.slice P S.1.1.length p,.slice Q S.1.2.length q',.slice R1 S.2.1.length r1,.slice K S.2.2.length k9],x24]) ?_ ?_
  ·go_simp
  ·refine(hTk.out _ x24 W (S3.out.below hC) h24).mono ?_
   rintro e W' ⟨A,ca,B,cb,N,cn,L,cl,rfl,hz,hb⟩;exact⟨_,rfl,⟨A,ca,B,cb,N,cn,L,cl,rfl,hz⟩,hb⟩
 simp only[Qa,Zb,Zc,Zd,envAdd];intro x25;refine wpAs_act rfl rfl ?_ ?_
 ·intro W hC hE
  have h7:=hE.1 rfl;clear hE
  go_simp
  exact⟨h7,Qb _ _⟩
 simp only[Qa,Zb,Zc,Zd,envAdd];intro x21;refine wpAs_act rfl rfl ?_ ?_
 ·intro W hC hE
  obtain⟨A,ca,B,cb,N,cn,L,cl,rfl,hz⟩:=hE.1 rfl;have hz':=Za hz;clear hE hz
  go_simp
  exact⟨⟨A,ca,B,cb,N,cn,L,cl,rfl,hz'.out⟩,Qb _ _⟩
 simp only[Qa,Zb,Zc,Zd,envAdd];intro x26;refine wpAs_fixed rfl rfl rfl ?_ ?_
 ·intro W hC hE
  obtain⟨A,ca,B,cb,N,cn,L,cl,rfl,hz⟩:=hE.2.1 rfl;clear hE hz
  go_simp
  exact⟨rfl,Qb _ _⟩
 simp only[Qa,Zb,Zc,Zd];refine wpAs_act rfl rfl ?_ ?_
 ·intro W hC hE
  have hs:=hC.size;clear hE hC
  go_simp
  exact⟨⟨W.heap.size,rfl,hs,Qav _ _⟩,(Qb _ _).alloc (Qd _) _⟩
 simp only[Qa,Zb,Zc,Zd,envAdd];intro x9;refine wpAs_end fun W hC hE=> ?_
 obtain⟨⟨g,rfl,hg,hz⟩,⟨A5,a5,B5,b5,N5,n5,L5,l5,rfl,hs⟩,_⟩:=hE;obtain⟨c0,c1,c2,c3,c4,c5⟩:=Ze hz;obtain⟨W5,hW5,g5,gr5,gs5⟩:=Zo (a':=.slice A5 T.1.1.length a5) (b':=.slice B5 T.1.2.length b5) (c':=.slice N5 T.2.1.length n5) (d':=.slice L5 T.2.2.length l5) hz;have hs5:=Za (Z9 hs hfull.out hz (by simp) gr5);have hb5:=hC.grown gr5 hC.size (fun q e=>by cases e;exact hg);have B9:=Za (B3.out.trans (hb5.mono B3.out.size));have F5:=Za ((hb5.block (w.heap.size+2) (by have:=z3.out;omega)).trans F3.out);have G5:=Za g5;replace hz:=Za hz;clear hs hC gr5 gs5 hb5 g5 m0 m1 m2 m3 p0 p1
 go_upto_region 5 with fail
 clear hW5 c0 c1 c2 c3 c4 c5;obtain⟨w5,rfl⟩:∃ w5:Qaq,w5=W5:=⟨_,rfl⟩
 rcases hways with ⟨e9,hp⟩ | ⟨e0,k,hp,hkN,hkV⟩
 ·subst hp
  replace e9:=Za e9;have F9:=F5.out;obtain⟨k0,k1,k2,k3,k4,k5⟩:=Ze F9;obtain⟨W9,hW9,g9,gr9,gs9⟩:=Zo (a':=.slice none 0 0) (b':=.slice none 0 0) (c':=.slice none 0 0) (d':=.slice none 0 0) F9;obtain⟨n0,n1,n2,n3,_,_⟩:=Ze g9;have hB9:=Za ((B9).out.grown gr9 (B9).out.size (fun q e=>by cases e;omega));replace g9:=Za g9;replace F9:=Za F9;clear gr9 gs9
  go_wp2_with fail
  refine Qau (v:=.tuple #[.agg #[.slice none 0 0,.slice none 0 0,.slice none 0 0,.slice none 0 0],.int .i64 0,.int .i64 9]) (by simp[results,Tryz.results142,go_sem,n0,n1,n2,n3]) rfl ?_;obtain⟨hn0,hv0⟩:=Zm9 (s:=S) (b:=bl) (by rw[e9.out];decide);rw[hE.out,hN.out,hV.out,e9.out,hn0,hv0];exact⟨_,rfl,Zu _ _,hB9.out⟩
 ·subst hp
  have F9:=F5.out;obtain⟨m0,m1,m2,m3,_,_⟩:=Ze G5.out;obtain⟨c0,c1,c2,c3,c4,c5⟩:=Ze F9;obtain⟨W9,hW9,g9,gr9,gs9⟩:=Zo (a':=.slice A5 T.1.1.length a5) (b':=.slice B5 T.1.2.length b5) (c':=.slice N5 T.2.1.length n5) (d':=.slice L5 T.2.2.length l5) F9;obtain⟨o0,o1,o2,o3,_,_⟩:=Ze g9;have hfin:=Za (Z9 hs5.out hfull.out F9 (by simp) gr9);have hB9:=Za (B9.out.grown gr9 B9.out.size (fun q e=>by cases e;omega));have i1:¬ (k:Int)<0:=by omega
  replace e0:=Za e0;replace hkN:=Za hkN;replace hkV:=Za hkV;replace g9:=Za g9;replace F9:=Za F9;clear gr9 gs9
  go_wp2_with fail
  refine Qau (v:=.tuple #[.agg #[.slice A5 T.1.1.length a5,.slice B5 T.1.2.length b5,.slice N5 T.2.1.length n5,.slice L5 T.2.2.length l5],.int .i64 (k:Int),.int .i64 0]) (by simp[results,Tryz.results142,go_sem,o0,o1,o2,o3]) rfl ?_;rw[hE.out,hN.out,hV.out,e0.out,hkN.out,hkV.out];exact⟨_,rfl,hfin.out,hB9.out⟩}
theorem Zx1 (s:Rm) (n:Nd):U1 (mkV s n):=by{
 by_cases h:mkE s n=0
 ·obtain⟨_,_,_,ht,_,hV⟩:=Z03 h
  rw[hV];exact Zo2 _ _
 ·rw[(Zlj h).2];exact Vg}
def Z6w (w:Qaq) (u:Qar):Prop:=(∃ k n,u=.int k n)\/∃ ad c b,u=.slice (some ad) 128 c/\w.cell? (ad.add 0)=some (.int .u8 b)
def Z51 (ok:Qas->Prop) (w:Qaq):Qas->Prop:=fun p=>ok p/\∃ u,w.cell? p=some u/\Z6w w u
theorem Zr1 {ok:Qas->Prop}{w:Qaq}{cs:List Qar}{x:List UInt8}(h:rBy ok w cs x):rBy (Z51 ok w) w cs x:=by
 obtain⟨A,cap,h1,h2,h3,h4⟩:=h;refine⟨A,cap,h1,h2,h3,fun i y hi=> ?_⟩;obtain⟨ad,vs,e1,e2,e3,e4⟩:=h4 i y hi;refine⟨ad,vs,e1,e2,fun j u hj=>⟨⟨(e3 j u hj).1,u,(e3 j u hj).2,?_⟩,(e3 j u hj).2⟩,e4⟩;unfold rU8 at e4;subst e4;have:=Qf hj;simp only[Ql] at this;exact .inl ⟨_,_,this⟩
theorem Zj3 {ok:Qas->Prop}{w:Qaq}{u:Qar}{x:List UInt8}(h:rBy ok w [u] x) (h0:0<x.length):∃ ad c b,u=.slice (some ad) x.length c/\w.cell? (ad.add 0)=some (.int .u8 b):=by
 obtain⟨A,cap,h1,h2,h3,h4⟩:=h;cases h1;obtain⟨ad,vs,rfl,e2,e3,e4⟩:=h4 0 _ (Qc h0);unfold rU8 at e4;subst e4;have:=(e3 0 _ rfl).2;exact⟨ad,cap,_,rfl,by simpa using this⟩
theorem Zmu {ok:Qas->Prop}{w:Qaq}{u:Qar}{x:List UInt8}(h:rBy ok w [u] x) (hx:x.length=128):Z6w w u:=by
 obtain⟨ad,c,b,e,hc⟩:=Zj3 h (by omega);rw[hx] at e;exact .inr ⟨ad,c,b,e,hc⟩
theorem Z0n {ok:Qas->Prop}{w:Qaq}{cs:List Qar}{xss:List (List UInt8)}(h:rSl 1 rBy ok w cs xss) (hn:∀ x∈xss,x.length=128):rSl 1 rBy (Z51 ok w) w cs xss:=by{
 obtain⟨A,cap,h1,h2,h3,h4⟩:=h;refine⟨A,cap,h1,h2,h3,fun i y hi=> ?_⟩;obtain⟨ad,vs,e1,e2,e3,e4⟩:=h4 i y hi;refine⟨ad,vs,e1,e2,fun j u hj=>⟨⟨(e3 j u hj).1,u,(e3 j u hj).2,?_⟩,(e3 j u hj).2⟩,Zr1 e4⟩
 match vs,e2 with
 | [v],_ =>
  have:=Qf hj;simp only[Ql] at this;rw[this];exact Zmu e4 (hn y (Qf hi))}
theorem Z3o {ok:Qas->Prop}{w:Qaq}{cs:List Qar}{ws:List Wt}(h:rSl 2 rWt ok w cs ws) (hn:∀ x∈ws,x.2.length=128):rSl 2 rWt (Z51 ok w) w cs ws:=by
 obtain⟨A,cap,h1,h2,h3,h4⟩:=h;refine⟨A,cap,h1,h2,h3,fun i y hi=> ?_⟩;obtain⟨ad,vs,e1,e2,e3,e4⟩:=h4 i y hi;obtain⟨v,rfl,b1,b2,hv⟩:=Zc9 e4;refine⟨ad,_,e1,e2,fun j u hj=>⟨⟨(e3 j u hj).1,u,(e3 j u hj).2,?_⟩,(e3 j u hj).2⟩,Zio b1 b2 (Zr1 hv)⟩;have:=Qf hj;simp only[Qm,Pz,or_false] at this;rcases this with rfl | rfl
 ·exact .inl ⟨_,_,rfl⟩
 ·exact Zmu hv (hn y (Qf hi))
theorem Ze0 {d:Dk}(h:Zai d=true):(∀ x∈d.1,x.length=128)/\(∀ x∈d.2,x.2.length=128)/\d.1.length=256:=by{
 obtain⟨h0,_,h1,h2⟩:=Zdl h;refine⟨fun x hx=> ?_,fun x hx=> ?_,h0⟩
 ·obtain⟨i,hi⟩:=Qx hx
  exact h1 i x hi
 ·obtain⟨i,hi⟩:=Qx hx
  exact(h2 i x hi).2.2}
theorem Z3c {ok:Qas->Prop}{w:Qaq}{v:Qar}{s:Rm}(h:Sto ok w v s) (hm:Yp s=true):Sto (Z51 ok w) w v s:=by
 obtain⟨a,b,n,l,e,⟨a',b',e',r1,r2⟩,h2,h3⟩:=h;obtain⟨m1,m2,_⟩:=Ze0 (Zw hm).1;exact⟨a,b,n,l,e,⟨a',b',e',Z0n r1 m1,Z3o r2 m2⟩,Zr1 h2,Zr1 h3⟩
theorem Zxg {ok:Qas->Prop}{W:Qaq}{g:Nat}{t:Qat}{a b n l:Qar}{s:Rm}{p:Qas}(hz:W.heap[g]? = some (.cells #[a,b,n,l] t (0,0))) (h:Sto ok W (.agg #[a,b,n,l]) s) (hm:Yp s=true) (hp:Z51 ok W p):p.block≠g:=fun e=>by
 obtain⟨A,ca,B,cb,N,cn,L,cl,e1,hd,hN,hL⟩:=h.open;simp only[Value.agg.injEq,Array.mk.injEq,List.cons.injEq,and_true] at e1;obtain⟨rfl,rfl,rfl,rfl⟩:=e1;obtain⟨_,u,hc,hu⟩:=hp;obtain⟨m1,m2,m3⟩:=Zw hm;have l2:=Z0 m2;have l3:=Z0 m3;have l1:=(Ze0 m1).2.2;unfold Qy at hc;rw[e,hz] at hc
 dsimp only at hc
 split at hc
 ·cases hc
 ·obtain⟨hlt,hu'⟩:=Qj.1 hc
  have hmem:u∈[Value.slice A s.1.1.length ca,.slice B s.1.2.length cb,.slice N s.2.1.length cn,.slice L s.2.2.length cl]:=by
   rw[<- hu'];exact Pm.2 (Pa hlt)
  simp only[Qm,Pz,or_false] at hmem;rcases hu with ⟨k,m,rfl⟩ | ⟨ad,c,bb,rfl,hb⟩
  ·rcases hmem with h | h | h | h <;> cases h
  ·rcases hmem with h | h | h | h
   ·simp only[Value.slice.injEq] at h
    omega
   ·simp only[Value.slice.injEq] at h
    obtain⟨rfl,hl,_⟩:=h;obtain⟨a',b',e',_,r2⟩:=hd;cases e';obtain⟨A',cap,e2,_,_,h4⟩:=r2;simp only[List.cons.injEq,Value.slice.injEq,and_true] at e2;obtain⟨rfl,_⟩:=e2;obtain⟨ad',vs,e3,e4,e5,e6⟩:=h4 0 _ (Qc (by omega));cases e3;obtain⟨v,rfl,_⟩:=Zc9 e6;have:=(e5 0 _ rfl).2;simp only[Pb,Pn] at this;rw[this] at hb;cases hb
   ·simp only[Value.slice.injEq] at h
    omega
   ·simp only[Value.slice.injEq] at h
    omega
theorem Zox {W W9:Qaq}{g:Nat}{t:Qat}{a b n l v:Qar}{s T:Rm}(h:Sto (Old W) W v T) (hT:Yp T=true) (hz:W.heap[g]? = some (.cells #[a,b,n,l] t (0,0))) (hs:Sto (Old W) W (.agg #[a,b,n,l]) s) (hm:Yp s=true) (hg:W.grownBy W9 (some g)):Sto (Old W9) W9 v T :=
 (Z3c h hT).map fun p u hp hc=>by
  have hn:=Zxg hz hs hm hp;exact⟨Qh hp.1 hg.size,(Qi (hg.block _ hp.1 (by simpa using hn))).trans hc⟩
abbrev Iv:=It×Qar
def Uf (p:Iv):List Qar:=[.int .u8 (p.1.1.1.toNat:Int),.int .u32 p.1.1.2.1,.int .u32 p.1.1.2.2,.int .i64 p.1.2.1,p.2]
def Zp (ps:List Iv):List Qar:=(ps.map Uf).flatten
theorem Xp:∀ ps:List Iv,(Zp ps).length=ps.length*5
 | []=>rfl
 | p::r=>by
  have:=Xp r;simp[Zp,Uf] at this ⊢;omega
theorem Zce:∀ {ps:List Iv}{k:Nat}{p:Iv},ps[k]? = some p->∀ j v,(Uf p)[j]? = some v->(Zp ps)[k*5+j]? = some v
 | q::r,0,p,h,j,v,hv=>by
  simp at h;subst h;have hj:j<(Uf q).length:=(Qe.1 hv).1;show ((Uf q)++Zp r)[0*5+j]? = some v;rw[Pb,Pj,List.getElem?_append_left hj,hv]
 | q::r,k+1,p,h,j,v,hv=>by
  have h':r[k]? = some p:=by simpa using h
  have:=Zce h' j v hv;show ((Uf q)++Zp r)[(k+1)*5+j]? = some v;have hl:(Uf q).length=5:=rfl;rw[Po (by omega),hl,show (k+1)*5+j-5=k*5+j by omega];exact this
theorem Vj {ps:List Iv}(h:∀ p∈ps,p.2.oneCell'=true):∀ u∈Zp ps,u.oneCell'=true:=fun u hu=>by
 unfold Zp at hu;rw[List.mem_flatten] at hu;obtain⟨l,hl,hul⟩:=hu;obtain⟨p,hp,rfl⟩:=List.mem_map.1 hl;simp[Uf] at hul;rcases hul with rfl | rfl | rfl | rfl | rfl
 ·rfl
 ·rfl
 ·rfl
 ·rfl
 ·exact h p hp
theorem Z15 {ok:Qas->Prop}{w:Qaq}{d:Qar}{xs:List UInt8}(h:rBy ok w [d] xs):d.oneCell'=true:=by
 obtain⟨_,_,rfl,_⟩:=Zm h;rfl
def Z0o (lo:Nat):Qas->Prop:=fun p=>p.block<lo
structure Zb6 (lo:Nat) (w:Qaq) (A:Option Qas) (n c:Nat) (xs:List It):Prop where
 low:lo<=w.heap.size
 row:∃ ps:List Iv,ps.map (·.1)=xs/\ps.length=n/\w.ownsRow lo 54 5 (.slice A n c) n (Zp ps)/\∀ p∈ps,InI p.1/\rBy (Z0o lo) w [p.2] p.1.2.2
theorem Zb6.nil (lo:Nat) (w:Qaq) (h:lo<=w.heap.size):Zb6 lo w none 0 0 []:=⟨h,[],rfl,rfl,Py _ _ _ _,fun p hp=>by cases hp⟩
theorem Zbb {lo:Nat}{w w':Qaq}{v:Qar}{l:List UInt8}(h:rBy (Z0o lo) w [v] l) (hb:Qax lo w w') (_:lo<=w.heap.size):rBy (Z0o lo) w' [v] l :=
 Zf _ _ _ _ _ _ (fun _ _ hp hc=>⟨hp,((hb.cell hp).trans hc)⟩) h
theorem Zb6.len {lo:Nat}{w:Qaq}{A:Option Qas}{n c:Nat}{xs:List It}(h:Zb6 lo w A n c xs):xs.length=n:=by
 obtain⟨_,ps,rfl,rfl,_⟩:=h;simp
theorem Zb6.below {lo:Nat}{w w':Qaq}{A:Option Qas}{n c:Nat}{xs:List It}(h:Zb6 lo w A n c xs) (hb:Qax w.heap.size w w'):Zb6 lo w' A n c xs:=by
 obtain⟨h0,ps,h1,h2,h3,h4⟩:=h;exact⟨Qr h0 hb.size,ps,h1,h2,Zr h3 hb,fun p hp=>⟨(h4 p hp).1,Zbb (h4 p hp).2 (hb.mono h0) h0⟩⟩
theorem Zb6.push {lo:Nat}{w:Qaq}{A:Option Qas}{n c:Nat}{xs:List It}(h:Zb6 lo w A n c xs) (g:Nat) (x:It) (d:Qar) (m:Nat) (hg:w.heap[g]? = some (.cells #[.int .u8 (x.1.1.toNat:Int),.int .u32 x.1.2.1,.int .u32 x.1.2.2,.int .i64 x.2.1,d] 54 (0,0))) (hs:n<100000) (hin:InI x) (hx:rBy (Z0o lo) w [d] x.2.2) :
  ∃ A' c' w',(Builtin.append_ #[39,39] 39 #[.slice A n c,.slice (some ⟨g,0,none⟩) 1 m]).run Tryz.prog w=.ok (.slice A' (n+1) c') w'/\Zb6 lo w' A' (n+1) c' (xs++[x])/\Qax lo w w':=by{
 obtain⟨h0,ps,h1,h2,h3,h4⟩:=h;obtain⟨i0,hi,hz0,hz1,hz2⟩:=info_parts Ul;obtain⟨E,ce,rfl,_⟩:=id (Zm hx)
 obtain⟨v',w',hr,o1,_,b1,_⟩:=Zfi (P:=Tryz.prog) (w:=w) lo 39 39 54 i0 (.agg #[.int .u8 0,.int .u32 0,.int .u32 0,.int .i64 0,.slice none 0 0]) 5 48 Tryz.underlying39 hi hz0 hz1 hz2 rfl (by decide) _ _ _ h3 ⟨g,0,none⟩ 1 m (Uf (x,.slice E x.2.2.length ce)) rfl (World.news_of_block (cs:=#[.int .u8 (x.1.1.toNat:Int),.int .u32 x.1.2.1,.int .u32 x.1.2.2,.int .i64 x.2.1,.slice E x.2.2.length ce]) hg) (fun u hu=>by
  simp[Uf] at hu
  rcases hu with rfl | rfl | rfl | rfl | rfl <;> rfl) (by unfold maxLen;omega) (by omega) h0
 obtain⟨A',c',rfl,_⟩:=Yr o1;refine⟨A',c',w',hr,⟨Qr h0 b1.size,ps++[(x,.slice E x.2.2.length ce)],by rw[List.map_append,h1];rfl,by simp[h2],?_,fun p hp=> ?_⟩,b1⟩
 ·have e:Zp (ps++[(x,.slice E x.2.2.length ce)])=Zp ps++Uf (x,.slice E x.2.2.length ce):=by simp[Zp]
  rw[e];exact o1
 ·rcases Qg.1 hp with hp | hp
  ·exact⟨(h4 p hp).1,Zbb (h4 p hp).2 b1 h0⟩
  ·rw[Ql.1 hp]
   exact⟨hin,Zbb hx b1 h0⟩}
theorem Zb6.its {lo:Nat}{w:Qaq}{A:Option Qas}{n c:Nat}{xs:List It}(h:Zb6 lo w A n c xs):Y6 (Old w) w [.slice A n c] xs:=by{
 obtain⟨h0,ps,rfl,rfl,h3,h4⟩:=h;obtain⟨_,_,e,l1,l2,_,h5⟩:=Yr h3;cases e;refine⟨A,c,by rw[Pp],by rw[Pp];exact l1,l2,fun i x hi=> ?_⟩;rw[Pc] at hi;obtain⟨p,hp,rfl⟩:=Option.map_eq_some_iff.1 hi;obtain⟨g1,g2⟩:=h4 p (Qf hp);have hlt:=(Qe.1 hp).1;obtain⟨ad,rfl⟩:=h5 (by omega);rcases h3.2 with ⟨e,e2⟩ | ⟨g,cap',cur,e,hb,hg,_⟩
 ·cases e
 ·injection e with e1
  injection e1 with e1
  subst e1;have hgl:g<w.heap.size:=(Qj.1 hg).1;refine⟨_,Uf p,rfl,rfl,fun j v hj=>⟨by unfold Old;rw[Zh];exact hgl,World.ownsRow.cells h3 (g:=g) rfl _ v (Zce hp j v hj)⟩,Zxe g1 (Zf _ _ _ _ _ _ (fun q v hq hc=>⟨Qh hq h0,hc⟩) g2)⟩}
theorem Zo3 {w:Qaq}{A:Option Qas}{n c k:Nat}{xs:List It}{x:It}(h:Y6 (Old w) w [.slice A n c] xs) (hk:xs[k]? = some x) :
  ∃ ad E ce,A=some ad/\InI x/\∀ W,Qax w.heap.size w W->At5 W (ad.add (k*5)) x (.slice E x.2.2.length ce)/\rBy (Z0o w.heap.size) W [.slice E x.2.2.length ce] x.2.2:=by
 obtain⟨ad,E,ce,rfl,_,h5,hi,_,_,hin⟩:=Zao h hk;obtain⟨_,e,_,hb⟩:=hi;unfold itV at e;simp only[Value.agg.injEq,Array.mk.injEq,List.cons.injEq,and_true,true_and] at e;subst e;exact⟨ad,E,ce,rfl,hin,fun W hW=>⟨h5.below hW,Zf _ _ _ _ _ _ (fun p v hp hc=>⟨hp,(hW.cell hp).trans hc⟩) hb⟩⟩
def Zgt:Ky:=(0,0,0)
def Xk (s:Rm) (l:List It):Bool:=l.all fun x=>decide (x.2.1=0)||decide (s.2.1[x.2.1.toNat]?.getD 0≠0)
def Zb9 (f:Int->Ky->Ky->Bool->Bool):List It->Ky->Bool->Bool
 | [],_,_=>true
 | [x],tb,ends=>f x.2.1 x.1 tb ends
 | x::y::r,tb,ends=>f x.2.1 x.1 y.1 true&&Zb9 f (y::r) tb ends
def Uu (l:List It) (k tb:Ky) (ends:Bool):Bool:=(match l[0]? with | none=>false | some x=>decide (x.1=k))&&(!ends||(match l.getLast? with | none=>false | some y=>Zq y.1 tb))
def Yn (s:Rm):Nat->Int->Ky->Ky->Bool->Bool
 | 0,a,k,tb,ends=>(decide (rmE s a=0)&&decide ((rmV s a).1=0))&&(Uu (rmV s a).2 k tb ends&&Xk s (rmV s a).2)
 | l+1,a,k,tb,ends=>(decide (rmE s a=0)&&decide ((rmV s a).1=((l+1:Nat):Int)))&&(Uu (rmV s a).2 k tb ends&&Zb9 (Yn s l) (rmV s a).2 tb ends)
def Ub (s:Rm) (n:Nd) (tb:Ky) (ends:Bool):Bool:=match n.1.toNat with
 | 0=>Xk s n.2
 | l+1=>Zb9 (Yn s l) n.2 tb ends
def Vb (s:Rm) (a:Int):Bool:=decide (rmE s a=0)&&Ub s (rmV s a) Zgt false
def fnH (s:Rm) (a:Int):Int:=if Vb s a then (rmV s a).1+1 else -1
def ckE (s:Rm) (a:Int):Int:=if asE s a=0 then (if Vb s a then 0 else 8) else asE s a
def ckH (s:Rm) (a:Int):Int:=if ckE s a=0 then (rmV s a).1+1 else 0
def Z6u (s:Rm):Nat->Int->List It
 | 0,a=>(rmV s a).2
 | l+1,a=>(rmV s a).2.flatMap fun x=>Z6u s l x.2.1
def Zes (s:Rm):Nat->Int->Ky->Option It
 | 0,a,k=>(rmV s a).2.reverse.find? fun x=>decide (x.1=k)
 | l+1,a,k=>((rmV s a).2.reverse.find? fun x => !Zq k x.1).bind fun x=>Zes s l x.2.1 k
def Zu2 (s:Rm) (a:Int) (k:Ky):Option It:=Zes s (rmV s a).1.toNat a k
def Up (l:List It):Prop:=l.Pairwise fun x y=>Zq x.1 y.1=true
theorem Yu {s:Rm}{a:Int}(h:rmE s a=0):Xn (rmV s a)=true/\asE s a=0:=by{
 by_cases ha:asE s a=0
 ·obtain⟨k,_,_,_,_,_,_,hE,hV,_⟩:=Xb ha
  rw[hE] at h;rw[hV];exact⟨(Zcz h).1,ha⟩
 ·rw[(Zrl ha).1] at h
  exact absurd h ha}
theorem Zgq {n:Nd}(h:Xn n=true):Up n.2:=by
 rw[Up,P3];intro i j hi hj hij;exact Za6 h hij (Qc hi) (Qc hj)
theorem Zeg {x:It}{l:List It}(h:Up (x::l)):∀ y∈x::l,y.1=x.1\/Zq x.1 y.1=true:=fun y hy=>by
 rcases Qm.1 hy with rfl | hy
 ·exact .inl rfl
 ·exact .inr ((Q6.1 h).1 y hy)
theorem Zu4 {l:List It}{z:It}{tb:Ky}(h:Up l) (hl:l.getLast? = some z) (hz:Zq z.1 tb=true):∀ y∈l,Zq y.1 tb=true:=fun y hy=>by
 obtain⟨r,rfl⟩:=List.getLast?_eq_some_iff.1 hl;rcases Qg.1 hy with hy | hy
 ·exact Yx ((Qn.1 h).2.2 y hy z (by simp)) hz
 ·rw[Ql.1 hy]
  exact hz
theorem Zd4 {l:List It}{k tb:Ky}{ends:Bool}(h:Uu l k tb ends=true):∃ x r,l=x::r/\x.1=k/\(ends=true->∃ z,l.getLast? = some z/\Zq z.1 tb=true):=by{
 unfold Uu at h;rw[Qo] at h;obtain⟨h1,h2⟩:=h;cases l with
 | nil=>simp at h1
 | cons x r =>
  refine⟨x,r,rfl,by simpa using h1,fun he=> ?_⟩;rw[he] at h2;cases hz:(x::r).getLast? with
  | none=>rw[hz] at h2;simp at h2
  | some z=>rw[hz] at h2;exact⟨z,rfl,by simpa using h2⟩}
structure Z5y (M:List It) (k tb:Ky) (ends:Bool) (N:Nat):Prop where
 first:∃ x r,M=x::r/\x.1=k
 up:Up M
 bound:ends=true->∀ y∈M,Zq y.1 tb=true
 few:M.length<=N
theorem Z5y.ge {M:List It}{k tb:Ky}{ends:Bool}{N:Nat}(h:Z5y M k tb ends N):∀ y∈M,y.1=k\/Zq k y.1=true:=by
 obtain⟨x,r,rfl,rfl⟩:=h.first;exact Zeg h.up
theorem Zlb {f:Int->Ky->Ky->Bool->Bool}{g:Int->List It}{N:Nat}(hf:∀ a k tb ends,f a k tb ends=true->Z5y (g a) k tb ends N):∀ (L:List It) (tb:Ky) (ends:Bool),L≠[]->Zb9 f L tb ends=true ->
  ∃ x r,L=x::r/\Z5y (L.flatMap fun x=>g x.2.1) x.1 tb ends (N*L.length)
 | [],_,_,h,_=>absurd rfl h
 | [x],tb,ends,_,h=>by
  refine⟨x,[],rfl,?_⟩;have:=hf _ _ _ _ h
  simpa using this
 | x::y::r,tb,ends,_,h=>by
  refine⟨x,y::r,rfl,?_⟩;unfold Zb9 at h;rw[Qo] at h;have hx:=hf _ _ _ _ h.1;obtain⟨y',r',e,hy⟩:=Zlb hf (y::r) tb ends (by simp) h.2;cases e;have e2:(x::y::r).flatMap (fun x=>g x.2.1)=g x.2.1++(y::r).flatMap fun x=>g x.2.1:=List.flatMap_cons
  rw[e2];have hb:=hx.bound rfl;have hlt:∀ p∈g x.2.1,∀ q∈(y::r).flatMap (fun x=>g x.2.1),Zq p.1 q.1=true:=fun p hp q hq=>by
   rcases hy.ge q hq with e | e
   ·rw[e];exact hb p hp
   ·exact Yx (hb p hp) e
  refine⟨?_,?_,fun he p hp=> ?_,?_⟩
  ·obtain⟨z,q,ez,kz⟩:=hx.first
   exact⟨z,_,by rw[ez];rfl,kz⟩
  ·exact Qn.2 ⟨hx.up,hy.up,hlt⟩
  ·rcases Qg.1 hp with hp | hp
   ·obtain⟨z,q,ez,kz⟩:=hy.first
    have hz:=hlt p hp z (by rw[ez];simp);exact Yx hz (hy.bound he z (by rw[ez];simp))
   ·exact hy.bound he p hp
  ·have h1:=hx.few
   have h2:=hy.few;rw[Pd];have e3:N*(x::y::r).length=N+N*(y::r).length:=by rw[List.length_cons,Nat.mul_succ,Nat.add_comm]
   omega
theorem Zan {s:Rm}{l:Nat}{a:Int}{k tb:Ky}{ends:Bool}(h:Yn s l a k tb ends=true):rmE s a=0/\(rmV s a).1=l/\Uu (rmV s a).2 k tb ends=true/\(match l with | 0=>Xk s (rmV s a).2 | l'+1=>Zb9 (Yn s l') (rmV s a).2 tb ends)=true:=by{
 cases l with
 | zero =>
  simp only[Yn,Qo,decide_eq_true_eq] at h;exact⟨h.1.1,h.1.2,h.2.1,h.2.2⟩
 | succ l =>
  simp only[Yn,Qo,decide_eq_true_eq] at h;exact⟨h.1.1,h.1.2,h.2.1,h.2.2⟩}
theorem Zf1 (s:Rm):∀ (l:Nat) (a:Int) (k tb:Ky) (ends:Bool),Yn s l a k tb ends=true->Z5y (Z6u s l a) k tb ends (5 ^ (l+1))
 | 0,a,k,tb,ends,h=>by
  obtain⟨h1,h2,h3,h4⟩:=Zan h;obtain⟨hm,_⟩:=Yu h1;obtain⟨x,r,e,ek,hz⟩:=Zd4 h3;refine⟨⟨x,r,e,ek⟩,Zgq hm,fun he=> ?_,?_⟩
  ·obtain⟨z,e1,e2⟩:=hz he
   exact Zu4 (Zgq hm) e1 e2
  ·exact(Zs hm).1.2.2.1
 | l+1,a,k,tb,ends,h=>by
  obtain⟨h1,h2,h3,h4⟩:=Zan h;obtain⟨hm,_⟩:=Yu h1;obtain⟨x,r,e,ek,hz⟩:=Zd4 h3;obtain⟨x',r',e',hp⟩:=Zlb (Zf1 s l) (rmV s a).2 tb ends (by rw[e];simp) h4;rw[e] at e';cases e';rw[ek] at hp;refine⟨hp.first,hp.up,hp.bound,Qr hp.few ?_⟩;have h5:=(Zs hm).1.2.2.1;rw[Nat.pow_succ 5 (l+1)];exact Nat.mul_le_mul_left _ h5
theorem Zh4 {p:It->Bool}{l:List It}(h:∀ x∈l,p x=false):l.reverse.find? p=none:=by
 rw[List.find?_eq_none];intro x hx;rw[h x (List.mem_reverse.1 hx)];simp
theorem Zby {s:Rm}{a:Int}(h:Vb s a=true):rmE s a=0/\asE s a=0/\Xn (rmV s a)=true/\0<=(rmV s a).1/\(rmV s a).1<6/\Ub s (rmV s a) Zgt false=true:=by
 simp only[Vb,Qo,decide_eq_true_eq] at h;obtain⟨hm,ha⟩:=Yu h.1;exact⟨h.1,ha,hm,(Zs hm).1.1,(Zs hm).1.2.1,h.2⟩
theorem Zn3 {s:Rm}{l:List It}{i:Nat}{x:It}(hx:l[i]? = some x):Xk s (l.take (i+1))=(Xk s (l.take i)&&(decide (x.2.1=0)||decide (s.2.1[x.2.1.toNat]?.getD 0≠0))):=by
 have hk:=(Qe.1 hx).1;have hg:l[i]=x:=(Qe.1 hx).2;rw[<- Q8 hk,hg];simp[Xk]
theorem Zrc {s:Rm}{l:List It}{i:Nat}(h:Xk s (l.take i)=false):Xk s l=false:=by{
 cases e:Xk s l with
 | false=>rfl
 | true =>
  unfold Xk at e h;rw[P4] at e;rw[<- h]
  symm
  rw[P4];exact fun x hx=>e x (Pe hx)}
def nxO (r:List It) (tb:Ky):Ky:=match r with | []=>tb | y::_=>y.1
def bxO (r:List It) (ends:Bool):Bool:=match r with | []=>ends | _::_=>true
theorem Zhc (f:Int->Ky->Ky->Bool->Bool) (x:It) (r:List It) (tb:Ky) (ends:Bool):Zb9 f (x::r) tb ends=(f x.2.1 x.1 (nxO r tb) (bxO r ends)&&Zb9 f r tb ends):=by
 cases r with
 | nil=>simp[Zb9,nxO,bxO]
 | cons y r=>rfl
theorem Zl6 (f:Int->Ky->Ky->Bool->Bool){l:List It}{i:Nat}{x:It}(hx:l[i]? = some x) (tb:Ky) (ends:Bool):Zb9 f (l.drop i) tb ends=(f x.2.1 x.1 (nxO (l.drop (i+1)) tb) (bxO (l.drop (i+1)) ends)&&Zb9 f (l.drop (i+1)) tb ends):=by
 have hk:=(Qe.1 hx).1;have hg:l[i]=x:=(Qe.1 hx).2;rw[Pq hk,hg,Zhc]
theorem Zpd {l:List It}{i:Nat}{y:It}(hy:l[i]? = some y) (tb:Ky) (ends:Bool):nxO (l.drop i) tb=y.1/\bxO (l.drop i) ends=true:=by
 have hk:=(Qe.1 hy).1;have hg:l[i]=y:=(Qe.1 hy).2;rw[Pq hk,hg];exact⟨rfl,rfl⟩
theorem Z2p {l:List It}{i:Nat}(h:l.length<=i) (tb:Ky) (ends:Bool):nxO (l.drop i) tb=tb/\bxO (l.drop i) ends=ends:=by
 rw[Pr h];exact⟨rfl,rfl⟩
structure Zav (s t:Rm):Prop where
 may:Yp t=true
 held:∀ k:Nat,s.2.1[k]?.getD 0≠0->t.2.1[k]?.getD 0≠0
 seen:∀ k:Nat,s.2.1[k]?.getD 0≠0->Z4 t.1 k=Z4 s.1 k
theorem V5 {s t:Rm}(h:Zav s t){a:Int}(ha:asE s a=0):asE t a=0/\rmE t a=rmE s a/\rmV t a=rmV s a:=by
 obtain⟨k,rfl,hm,h8,h256,_,_,hE,hV,hx⟩:=Xb ha;have ht:asE t (k:Int)=0:=Zj6 h.may h8 h256 (h.held k hx);refine⟨ht,?_,?_⟩
 ·rw[hE,rmE,if_pos ht,show ((k:Int)).toNat=k by omega,h.seen k hx]
 ·rw[hV,rmV,if_pos ht,show ((k:Int)).toNat=k by omega,h.seen k hx]
theorem Zhw {f:Int->Ky->Ky->Bool->Bool}:∀ {l:List It}{tb:Ky}{e:Bool},Zb9 f l tb e=true->∀ x∈l,∃ t e,f x.2.1 x.1 t e=true
 | [],_,_,_,x,hx=>by simp at hx
 | y::r,tb,e,hf,x,hx=>by
  rw[Zhc,Qo] at hf;rcases Qm.1 hx with rfl | hx
  ·exact⟨_,_,hf.1⟩
  ·exact Zhw hf.2 x hx
theorem Zj0 {s:Rm}{n:Int}(h:shE s n=0):Zav s (shV s n):=by{
 have hm':=Z4y h;obtain⟨k,rfl,hm,h8,h256,h0,h255,hl,hV⟩:=Z56 h;refine⟨hm',fun i hi=> ?_,fun i hi=>by rw[hV]⟩;rw[hV];show (s.2.1.set k (s.2.1[k]?.getD 0+1))[i]?.getD 0≠0;by_cases e:i=k
 ·subst e
  rw[Zf8 (by omega)];exact Zty h255
 ·rw[Zbc e]
  exact hi}
def Yt (g:Int->Option (Ky×Ky)):List It->Option (Ky×Ky)
 | []=>none
 | [x]=>(g x.2.1).bind fun p=>if p.1=x.1 then some p else none
 | x::y::r=>(g x.2.1).bind fun p=>(Yt g (y::r)).bind fun q=>if p.1=x.1/\Zq p.2 y.1=true then some (p.1,q.2) else none
def U7 (s:Rm):Nat->Int->Option (Ky×Ky)
 | 0,a=>if rmE s a=0/\(rmV s a).1=0/\Xk s (rmV s a).2=true then ((rmV s a).2[0]?).bind fun x=>((rmV s a).2.getLast?).map fun y=>(x.1,y.1) else none
 | l+1,a=>if rmE s a=0/\(rmV s a).1=((l+1:Nat):Int) then Yt (U7 s l) (rmV s a).2 else none
def LeK (a b:Ky):Prop:=a=b\/Zq a b=true
theorem LeK.lt {a b c:Ky}(h:LeK a b) (h':Zq b c=true):Zq a c=true:=h.elim (fun e=>by rw[e];exact h') fun h=>Yx h h'
theorem U6 {g:Int->Option (Ky×Ky)}(hg:∀ a p,g a=some p->LeK p.1 p.2):∀ {l:List It}{p:Ky×Ky},Yt g l=some p->LeK p.1 p.2/\∃ x r,l=x::r/\p.1=x.1
 | [],_,h=>by cases h
 | [x],p,h=>by
  unfold Yt at h;cases hx:g x.2.1 with
  | none=>rw[hx] at h;cases h
  | some q =>
   rw[hx] at h;have h':(if q.1=x.1 then some q else none)=some p:=h;split at h'
   ·rename_i e
    cases h';exact⟨hg _ _ hx,x,[],rfl,e⟩
   ·cases h'
 | x::y::r,p,h=>by
  unfold Yt at h;cases hx:g x.2.1 with
  | none=>rw[hx] at h;cases h
  | some q =>
   rw[hx] at h;cases hc:Yt g (y::r) with
   | none=>rw[hc] at h;cases h
   | some q' =>
    rw[hc] at h;have h':(if q.1=x.1/\Zq q.2 y.1=true then some (q.1,q'.2) else none)=some p:=h;obtain⟨i1,y',r',e',i2⟩:=U6 hg hc;cases e';split at h'
    ·rename_i e
     cases h';refine⟨.inr ?_,x,y::r,rfl,e.1⟩;have h1:Zq q.1 y.1=true:=(hg _ _ hx).lt e.2;rw[<- i2] at h1;exact i1.elim (fun e=>e ▸ h1) fun h2=>Yx h1 h2
    ·cases h'
theorem Zd2 (s:Rm):∀ (l:Nat) (a:Int) (p:Ky×Ky),U7 s l a=some p->LeK p.1 p.2
 | 0,a,p,h=>by
  unfold U7 at h;split at h
  ·rename_i hc
   have hu:=Zgq (Yu hc.1).1;cases hl:(rmV s a).2 with
   | nil=>rw[hl] at h;cases h
   | cons x r =>
    rw[hl] at h hu;cases hz:(x::r).getLast? with
    | none=>rw[hz] at h;cases h
    | some z =>
     rw[hz] at h;cases h;rcases Zeg hu z (Ps hz) with e | e
     ·exact .inl e.symm
     ·exact .inr e
  ·cases h
 | l+1,a,p,h=>by
  unfold U7 at h;split at h
  ·exact(U6 (Zd2 s l) h).1
  ·cases h
theorem Zeh {f:Int->Ky->Ky->Bool->Bool}{g:Int->Option (Ky×Ky)}(hle:∀ a p,g a=some p->LeK p.1 p.2) (hfg:∀ a k tb e,f a k tb e=true↔∃ t,g a=some (k,t)/\(e=true->Zq t tb=true)):∀ (l:List It) (tb:Ky) (e:Bool),l≠[] ->
  (Zb9 f l tb e=true↔∃ p,Yt g l=some p/\(e=true->Zq p.2 tb=true))
 | [],_,_,h=>absurd rfl h
 | [x],tb,e,_=>by
  show f x.2.1 x.1 tb e=true↔_;rw[hfg];unfold Yt;constructor
  ·rintro⟨t,h1,h2⟩
   exact⟨(x.1,t),by rw[h1];simp,h2⟩
  ·rintro⟨p,h1,h2⟩
   cases hx:g x.2.1 with
   | none=>rw[hx] at h1;cases h1
   | some q =>
    rw[hx] at h1;have h':(if q.1=x.1 then some q else none)=some p:=h1;split at h'
    ·rename_i e1
     cases h';exact⟨p.2,by rw[<- e1],h2⟩
    ·cases h'
 | x::y::r,tb,e,_=>by
  have ih:=Zeh hle hfg (y::r) tb e (by simp);show (f x.2.1 x.1 y.1 true&&Zb9 f (y::r) tb e)=true↔_;rw[Qo,hfg,ih];constructor
  ·rintro⟨⟨t,h1,h2⟩,p,h3,h4⟩
   refine⟨(x.1,p.2),?_,h4⟩;unfold Yt;rw[h1,h3];simp[h2 rfl]
  ·rintro⟨p,h1,h2⟩
   unfold Yt at h1;cases hx:g x.2.1 with
   | none=>rw[hx] at h1;cases h1
   | some q =>
    rw[hx] at h1;cases hc:Yt g (y::r) with
    | none=>rw[hc] at h1;cases h1
    | some q' =>
     rw[hc] at h1;have h':(if q.1=x.1/\Zq q.2 y.1=true then some (q.1,q'.2) else none)=some p:=h1;split at h'
     ·rename_i e1
      cases h';exact⟨⟨q.2,by rw[<- e1.1],fun _=>e1.2⟩,q',rfl,h2⟩
     ·cases h'
theorem Zfs (s:Rm):∀ (l:Nat) (a:Int) (k tb:Ky) (e:Bool),Yn s l a k tb e=true↔∃ t,U7 s l a=some (k,t)/\(e=true->Zq t tb=true)
 | 0,a,k,tb,e=>by
  constructor
  ·intro h
   obtain⟨h1,h2,h3,h4⟩:=Zan h;obtain⟨x,r,hl,ek,hz⟩:=Zd4 h3;obtain⟨z,hz1⟩:∃ z,(rmV s a).2.getLast? = some z:=by
    rw[hl];exact⟨_,P5 (by simp)⟩
   refine⟨z.1,?_,fun he=> ?_⟩
   ·unfold U7
    rw[if_pos ⟨h1,h2,h4⟩,hz1,show (rmV s a).2[0]? = some x by rw[hl];rfl,<- ek];rfl
   ·obtain⟨z',e1,e2⟩:=hz he
    rw[hz1] at e1;cases e1;exact e2
  ·rintro⟨t,h1,h2⟩
   unfold U7 at h1;split at h1
   ·rename_i hc
    unfold Yn;cases hx:(rmV s a).2[0]? with
    | none=>rw[hx] at h1;cases h1
    | some x =>
     cases hz:(rmV s a).2.getLast? with
     | none=>rw[hx,hz] at h1;cases h1
     | some z =>
      rw[hx,hz] at h1;have h1':(some (x.1,z.1):Option (Ky×Ky))=some (k,t):=h1;simp only[Option.some.injEq,Prod.mk.injEq] at h1';have hh:Uu (rmV s a).2 k tb e=true:=by
       unfold Uu;rw[hx,hz];cases e with
       | false=>simp[h1'.1]
       | true=>simp[h1'.1,h1'.2,h2 rfl]
      rw[hc.1,hc.2.1,hc.2.2,hh]
      decide
   ·cases h1
 | l+1,a,k,tb,e=>by
  have hc:=Zeh (Zd2 s l) (fun a k tb e=>Zfs s l a k tb e) (rmV s a).2 tb e;constructor
  ·intro h
   obtain⟨h1,h2,h3,h4⟩:=Zan h;obtain⟨x,r,hl,ek,_⟩:=Zd4 h3;obtain⟨p,hp,hb⟩:=(hc (by rw[hl];simp)).1 h4;obtain⟨_,x',r',e',hf⟩:=U6 (Zd2 s l) hp;rw[hl] at e';cases e';refine⟨p.2,?_,hb⟩;unfold U7;rw[if_pos ⟨h1,h2⟩,hp,<- ek,<- hf]
  ·rintro⟨t,h1,h2⟩
   unfold U7 at h1;split at h1
   ·rename_i hcond
    obtain⟨_,x,r,hl,hf⟩:=U6 (Zd2 s l) h1;have hi:=(hc (by rw[hl];simp)).2 ⟨(k,t),h1,h2⟩;have hh:Uu (rmV s a).2 k tb e=true:=by
     cases e with
     | false =>
      unfold Uu;rw[hl];simp[<- hf]
     | true =>
      obtain⟨x',r',e',hp⟩:=Zlb (Zf1 s l) (rmV s a).2 tb true (by rw[hl];simp) hi;obtain⟨z,hz1⟩:∃ z,(rmV s a).2.getLast? = some z:=by
       rw[hl];exact⟨_,P5 (by simp)⟩
      obtain⟨t',e2,hf2⟩:=Zhw hi z (Ps hz1);obtain⟨y,r2,ey,ky⟩:=(Zf1 s l _ _ _ _ hf2).first;have hy:=hp.bound rfl y (List.mem_flatMap.2 ⟨z,Ps hz1,by rw[ey];simp⟩);rw[ky] at hy;unfold Uu;rw[hz1,show (rmV s a).2[0]? = some x by rw[hl];rfl];simp[<- hf,hy]
    unfold Yn;rw[hcond.1,hcond.2,hh,hi];simp
   ·cases h1
theorem Zuv (s:Rm) (a:Int):Vb s a=true↔rmE s a=0/\(match (rmV s a).1.toNat with | 0=>Xk s (rmV s a).2=true | l+1=>∃ p,Yt (U7 s l) (rmV s a).2=some p):=by{
 constructor
 ·intro h
  obtain⟨h1,_,hm,l0,_,hi⟩:=Zby h;refine⟨h1,?_⟩;unfold Ub at hi;cases hl:(rmV s a).1.toNat with
  | zero=>rw[hl] at hi;exact hi
  | succ l =>
   rw[hl] at hi;have hne:(rmV s a).2≠[]:=fun e=>by
    have:=(Zs hm).1.2.2.2 (by omega);rw[e] at this;simp at this
   obtain⟨p,hp,_⟩:=(Zeh (Zd2 s l) (fun a k tb e=>Zfs s l a k tb e) _ Zgt false hne).1 hi;exact⟨p,hp⟩
 ·rintro⟨h1,h2⟩
  unfold Vb;rw[h1];unfold Ub;cases hl:(rmV s a).1.toNat with
  | zero=>rw[hl] at h2;simp only[h2];rfl
  | succ l =>
   rw[hl] at h2;obtain⟨p,hp⟩:=h2;obtain⟨_,x,r,e,_⟩:=U6 (Zd2 s l) hp;have:=(Zeh (Zd2 s l) (fun a k tb e=>Zfs s l a k tb e) (rmV s a).2 Zgt false (by rw[e];simp)).2 ⟨p,hp,fun h=>by cases h⟩;simp only[this];rfl}
theorem Zkr {p:It->Bool}{l:List It}{k:Nat}{x:It}(hx:l[k]? = some x):(l.take (k+1)).reverse.find? p=if p x=true then some x else (l.take k).reverse.find? p:=by
 have hk:=(Qe.1 hx).1;have hg:l[k]=x:=(Qe.1 hx).2;rw[<- Q8 hk,hg,P7,List.reverse_singleton,Pt,List.find?_cons];cases p x <;> rfl
theorem Zwn {p:It->Bool}{l:List It}{j:Nat}{x:It}(hx:l[j]? = some x) (h1:p x=true) (h2:∀ i y,j<i->l[i]? = some y->p y=false):l.reverse.find? p=some x:=by{
 have e:l.reverse.find? p=(l.take (j+1)).reverse.find? p:=by
  conv=>lhs;rw[<- Qv (j+1) l,P7,List.find?_append]
  rw[Zh4 (l:=l.drop (j+1)) fun y hy=>by
   obtain⟨i,hi⟩:=Qx hy;rw[Pf] at hi
   exact h2 (j+1+i) y (by omega) hi]
  rfl
 rw[e,Zkr hx,if_pos h1]}
theorem Ut {n:Nd}(h:Xn n=true){k:Ky}{x:It}(ht:Y8 n k=true) (hx:n.2[Yi n k]? = some x):x.1=k/\(n.2.reverse.find? fun x => !Zq k x.1)=some x/\(n.2.reverse.find? fun x=>decide (x.1=k))=some x:=by{
 have e:x.1=k:=by
  rw[Ziq hx] at ht
  simpa using ht
 have hup:∀ i y,Yi n k<i->n.2[i]? = some y->Zq k y.1=true:=fun i y hi hy=>by
  rw[<- e];exact Za6 h hi hx hy
 refine⟨e,Zwn hx (by rw[e,Zad];rfl) fun i y hi hy=>by rw[hup i y hi hy];rfl,Zwn hx (by simpa using e) fun i y hi hy=> ?_⟩;have h1:=hup i y hi hy;have:y.1≠k:=fun e2=>by rw[e2,Zad] at h1;cases h1
 simpa using this}
theorem Zfz {n:Nd}(h:Xn n=true){k:Ky}(ht:Y8 n k=false):(n.2.reverse.find? fun x=>decide (x.1=k))=none:=Zh4 fun x hx=>by
 obtain⟨i,hi⟩:=Qx hx;have:x.1≠k:=fun e=>by
  have:=(Zix h hi).2;rw[e,ht] at this;cases this
 simpa using this
theorem Zcf {n:Nd}(h:Xn n=true){k:Ky}(ht:Y8 n k=false){i:Nat}{y:It}(hi:Yi n k<=i) (hy:n.2[i]? = some y):Zq k y.1=true:=by
 have h1:=Vt h (k:=k) hy;rw[decide_eq_false (by omega)] at h1;have hne:y.1≠k:=fun e=>by
  have:=(Zix h hy).2;rw[e,ht] at this;cases this
 exact Zde hne h1
theorem Zh2 {n:Nd}(h:Xn n=true){k:Ky}{j:Nat}{x:It}(ht:Y8 n k=false) (hj:Yi n k=j+1) (hx:n.2[j]? = some x):(n.2.reverse.find? fun x => !Zq k x.1)=some x:=by
 have h1:=Vt h (k:=k) hx;rw[decide_eq_true (by omega)] at h1;refine Zwn hx (by rw[Zcd h1];rfl) fun i y hi hy=> ?_
 rw[Zcf h ht (by omega) hy];rfl
theorem Zjy {n:Nd}(h:Xn n=true){k:Ky}(ht:Y8 n k=false) (hj:Yi n k=0):(n.2.reverse.find? fun x => !Zq k x.1)=none:=Zh4 fun y hy=>by
 obtain⟨i,hi⟩:=Qx hy;rw[Zcf h ht (by omega) hi];rfl
theorem Zc2 {n:Nd}{k:Ky}(ht:Y8 n k=true):Yi n k<n.2.length:=by{
 rcases Nat.lt_or_ge (Yi n k) n.2.length with h | h
 ·exact h
 ·rw[Zkc h] at ht
  cases ht}
structure AtT (s:Rm) (l:Nat) (a:Int):Prop where
 ok:rmE s a=0
 lvl:(rmV s a).1=(l:Int)
 below:∀ j,l=j+1->∀ x∈(rmV s a).2,∃ t e,Yn s j x.2.1 x.1 t e=true
theorem AtT.may {s:Rm}{l:Nat}{a:Int}(h:AtT s l a):Xn (rmV s a)=true:=(Yu h.ok).1
theorem Z0d {s:Rm}{l:Nat}{a:Int}{k tb:Ky}{e:Bool}(h:Yn s l a k tb e=true):AtT s l a:=by
 obtain⟨h1,h2,_,h4⟩:=Zan h;refine⟨h1,h2,fun j hj x hx=> ?_⟩;subst hj;exact Zhw h4 x hx
theorem AtT.down {s:Rm}{j:Nat}{a:Int}(h:AtT s (j+1) a){x:It}(hx:x∈(rmV s a).2):AtT s j x.2.1:=by
 obtain⟨t,e,hr⟩:=h.below j rfl x hx;exact Z0d hr
theorem Zig {s:Rm}{a:Int}(h:Vb s a=true):AtT s (rmV s a).1.toNat a:=by
 obtain⟨h1,_,_,l0,_,hi⟩:=Zby h;refine⟨h1,by omega,fun j hj x hx=> ?_⟩;unfold Ub at hi;rw[hj] at hi;exact Zhw hi x hx
theorem Zhg (s:Rm) (a:Int) (k:Ky):Zes s 0 a k=(rmV s a).2.reverse.find? fun x=>decide (x.1=k):=rfl
theorem Zhu (s:Rm) (l:Nat) (a:Int) (k:Ky):Zes s (l+1) a k=((rmV s a).2.reverse.find? fun x => !Zq k x.1).bind fun x=>Zes s l x.2.1 k:=rfl
def Zb1 (s:Rm) (n:Nd):Option (Ky×Ky):=match n.1.toNat with
 | 0=>if Xk s n.2=true then (n.2[0]?).bind fun x=>(n.2.getLast?).map fun y=>(x.1,y.1) else none
 | l+1=>Yt (U7 s l) n.2
theorem Znl (s:Rm) (l:Nat) (a:Int):U7 s l a=if rmE s a=0/\(rmV s a).1=(l:Int) then Zb1 s (rmV s a) else none:=by{
 cases l with
 | zero =>
  unfold U7;by_cases h1:rmE s a=0/\(rmV s a).1=((0:Nat):Int)
  ·rw[if_pos h1]
   unfold Zb1;rw[h1.2];by_cases h2:Xk s (rmV s a).2=true
   ·rw[if_pos ⟨h1.1,rfl,h2⟩]
    show _=if Xk s (rmV s a).2=true then _ else none
    rw[if_pos h2]
   ·rw[if_neg (fun h=>h2 h.2.2)]
    show _=if Xk s (rmV s a).2=true then _ else none
    rw[if_neg h2]
  ·rw[if_neg h1,if_neg (fun h=>h1 ⟨h.1,h.2.1⟩)]
 | succ l =>
  unfold U7;by_cases h1:rmE s a=0/\(rmV s a).1=((l+1:Nat):Int)
  ·rw[if_pos h1,if_pos h1]
   unfold Zb1;rw[h1.2,show ((l+1:Nat):Int).toNat=l+1 by omega]
  ·rw[if_neg h1,if_neg h1]}
theorem Zng {s:Rm}{n:Nd}{x y:It}{j:Nat}(h:n.1=0) (hx:n.2[0]? = some x) (hj:n.2.length=j+1) (hy:n.2[j]? = some y):Zb1 s n=if Xk s n.2=true then some (x.1,y.1) else none:=by
 have hl:n.2.getLast? = some y:=by rw[P8,hj];exact hy
 unfold Zb1;rw[h];show (if Xk s n.2=true then _ else none)=_;rw[hx,hl];rfl
theorem Zmy {s:Rm}{n:Nd}{l:Nat}(h:n.1=((l+1:Nat):Int)):Zb1 s n=Yt (U7 s l) n.2:=by
 unfold Zb1;rw[h,show ((l+1:Nat):Int).toNat=l+1 by omega]
theorem Zeb {g:Int->Option (Ky×Ky)}{l:List It}{x:It}(hx:l[0]? = some x):Yt g (l.take 1)=(g x.2.1).bind fun p=>if p.1=x.1 then some p else none:=by{
 cases l with
 | nil=>cases hx
 | cons y r =>
  cases hx;rfl}
theorem Zok {g:Int->Option (Ky×Ky)}(x:It):∀ (l:List It),l≠[]->Yt g (l++[x])=(Yt g l).bind fun q=>(g x.2.1).bind fun p=>if p.1=x.1/\Zq q.2 x.1=true then some (q.1,p.2) else none
 | [],h=>absurd rfl h
 | [y],_=>by
  show (g y.2.1).bind _=_;unfold Yt;cases g y.2.1 with
  | none=>rfl
  | some p =>
   show ((Yt g [x]).bind _)=((if p.1=y.1 then some p else none):Option (Ky×Ky)).bind _;unfold Yt;cases g x.2.1 with
   | none =>
    by_cases h1:p.1=y.1 <;> simp[h1]
   | some q =>
    by_cases h1:p.1=y.1 <;> by_cases h2:q.1=x.1 <;> by_cases h3:Zq p.2 x.1=true <;> simp[h1,h2,h3]
 | y::z::r,_=>by
  have ih:=Zok (g:=g) x (z::r) (by simp);show (g y.2.1).bind (fun p=>(Yt g (z::r++[x])).bind _)=_;rw[ih]
  conv=>rhs;unfold Yt
  cases g y.2.1 with
  | none=>rfl
  | some p =>
   cases Yt g (z::r) with
   | none=>rfl
   | some q =>
    cases g x.2.1 with
    | none =>
     by_cases h1:p.1=y.1/\Zq p.2 z.1=true <;> simp[h1]
    | some q' =>
     by_cases h1:p.1=y.1/\Zq p.2 z.1=true <;> by_cases h2:q'.1=x.1/\Zq q.2 x.1=true <;> simp[h1,h2]
theorem Uj {g:Int->Option (Ky×Ky)}{l:List It}{k:Nat}{x:It}(hx:l[k]? = some x) (hk:0<k):Yt g (l.take (k+1))=(Yt g (l.take k)).bind fun q=>(g x.2.1).bind fun p=>if p.1=x.1/\Zq q.2 x.1=true then some (q.1,p.2) else none:=by
 have hl:=(Qe.1 hx).1;have hg:l[k]=x:=(Qe.1 hx).2;rw[<- Q8 hl,hg];exact Zok x _ fun e=>by
  have h0:(l.take k).length=0:=by rw[e];rfl
  rw[Qs] at h0;omega
theorem Zi1 {g:Int->Option (Ky×Ky)}{l:List It}:∀ {k:Nat},0<k->Yt g (l.take k)=none->Yt g l=none:=fun {k} hk h=>by
 induction hn:l.length-k generalizing k with
 | zero=>rwa [Qw (by omega)] at h
 | succ n ih =>
  obtain⟨x,hx⟩:∃ x,l[k]? = some x:=⟨_,Qc (by omega)⟩
  exact ih (k:=k+1) (by omega) (by rw[Uj hx hk,h];rfl) (by omega)
theorem Zwy {g:Int->Option (Ky×Ky)}{l:List It}{x:It}(hx:l[0]? = some x):∀ {k:Nat}{q:Ky×Ky},0<k->k<=l.length->Yt g (l.take k)=some q->q.1=x.1:=fun {k} {q} hk hl h=>by
 induction k generalizing q with
 | zero=>omega
 | succ k ih =>
  by_cases h0:k=0
  ·subst h0
   rw[Zeb hx] at h;cases hg:g x.2.1 with
   | none=>rw[hg] at h;cases h
   | some p =>
    rw[hg] at h;have h':(if p.1=x.1 then some p else none)=some q:=h;split at h'
    ·rename_i e;cases h';exact e
    ·cases h'
  ·obtain⟨y,hy⟩:∃ y,l[k]? = some y:=⟨_,Qc (by omega)⟩
   rw[Uj hy (by omega)] at h;cases hc:Yt g (l.take k) with
   | none=>rw[hc] at h;cases h
   | some q' =>
    have e:=ih (by omega) (by omega) hc;rw[hc] at h;cases hg:g y.2.1 with
    | none=>rw[hg] at h;cases h
    | some p =>
     rw[hg] at h;have h':(if p.1=y.1/\Zq q'.2 y.1=true then some (q'.1,p.2) else none)=some q:=h;split at h'
     ·cases h';exact e
     ·cases h'
def Zbi (s:Rm) (n:Nd):Bool:=decide (n.2.length=0)||(Zb1 s n).isSome
theorem Zo6 {s:Rm}{a:Int}(h:rmE s a=0):Zbi s (rmV s a)=Vb s a:=by{
 have hm:=(Yu h).1;have hsh:=(Zs hm).1;have e:Vb s a=true↔Zbi s (rmV s a)=true:=by
  rw[Zuv];unfold Zbi;rw[Bool.or_eq_true,decide_eq_true_eq];cases hl:(rmV s a).1.toNat with
  | zero =>
   have h0:(rmV s a).1=0:=by omega
   simp only;by_cases hz:(rmV s a).2.length=0
   ·have:(rmV s a).2=[]:=Pu hz
    rw[this];simp[h,Xk]
   ·obtain⟨j,hj⟩:∃ j,(rmV s a).2.length=j+1:=⟨(rmV s a).2.length-1,by omega⟩
    obtain⟨x,hx⟩:∃ x,(rmV s a).2[0]? = some x:=⟨_,Qc (by omega)⟩
    obtain⟨y,hy⟩:∃ y,(rmV s a).2[j]? = some y:=⟨_,Qc (by omega)⟩
    rw[Zng h0 hx hj hy];by_cases h2:Xk s (rmV s a).2=true <;> simp[h,h2,hz]
  | succ l =>
   have h1:(rmV s a).1=((l+1:Nat):Int):=by omega
   have hz:¬ (rmV s a).2.length=0:=by have:=hsh.2.2.2 (by omega);omega
   rw[Zmy h1];simp only;constructor
   ·rintro⟨_,p,hp⟩
    rw[hp];exact .inr rfl
   ·rintro(h3 | h3)
    ·exact absurd h3 hz
    ·exact⟨h,Option.isSome_iff_exists.1 h3⟩
 cases h1:Vb s a with
 | true=>exact e.1 h1
 | false =>
  cases h2:Zbi s (rmV s a) with
  | false=>rfl
  | true=>rw[e.2 h2] at h1;cases h1}
theorem Z3b {a b c:Ky}(h:Zq b a=false) (h':Zq b c=true):Zq a c=true:=by
 by_cases e:b=a
 ·rw[<- e];exact h'
 ·exact Yx (Zde e h) h'
theorem Zo5 {a b c:Ky}(h:Zq a b=true) (h':Zq c b=false):Zq a c=true:=by
 by_cases e:c=b
 ·rw[e];exact h
 ·exact Yx h (Zde e h')
def Xw (t:List UInt8) (k:Nat):Nat:=(t[k]?.getD 0).toNat
theorem Zsk {l:List It}{x:It}(hx:x∈l){k:Nat}(hk:x.2.1=(k:Int)) (h0:x.2.1≠0):1<=Zjd l k:=by{
 induction l with
 | nil=>cases hx
 | cons y r ih =>
  unfold Zjd;rcases Qm.1 hx with rfl | hx
  ·rw[if_pos hk,if_neg h0]
   omega
  ·have:=ih hx
   omega}
theorem Z1j {t u:List UInt8}{a:Nat}(h:dnO t a=some u):Xw t a=Xw u a+1/\(∀ k,k≠a->Xw u k=Xw t k):=by
 obtain⟨h1,h2,h3,h4⟩:=Zbv h;refine⟨h4.symm,fun k hk=> ?_⟩;unfold Xw;rw[h2,List.getElem?_set_ne (Ne.symm hk)]
theorem Zak {t:List UInt8}{k:Nat}:Xw t k≠0↔t[k]?.getD 0≠0:=by
 unfold Xw;rw[ne_eq,X7]
theorem Zie {s:Rm}{n:Nd}(h:mkE s n=0):Zav s (mkV s n):=by{
 obtain⟨k,e1,h8,h256,hz,_,hc,hV,hm,c1,c2,_⟩:=Vq h;have hne:∀ i:Nat,s.2.1[i]?.getD 0≠0->i≠k:=fun i hi e=>hi (by rw[e];exact hz)
 refine⟨hm,fun i hi=> ?_,fun i hi=> ?_⟩
 ·rw[<- Zak]
  have h1:=c2 i (hne i hi);have h2:=Zak.2 hi;unfold Xw at h2 ⊢;omega
 ·rw[hV]
  exact Zjg (hne i hi)}
theorem Zsu {p:It->Bool}{L:List It}(h:∀ x∈L,p x=true):L.filter p=L:=List.filter_eq_self.2 h
def Xg (n:Nd) (k:Ky):Nat:=if Y8 n k=true then Yi n k else Yi n k-1
theorem Zch {n:Nd}(k:Ky) (h:0<n.2.length):Xg n k<n.2.length:=by{
 unfold Xg;split
 ·rename_i ht;exact Zc2 ht
 ·have:=Zcs n k
  omega}
theorem Zue {n:Nd}(h:Xn n=true){k:Ky}{i:Nat}{y:It}(hi:Xg n k<i) (hy:n.2[i]? = some y):Zq k y.1=true:=by{
 unfold Xg at hi;cases ht:Y8 n k with
 | true =>
  rw[ht,if_pos rfl] at hi;have hp:=Zc2 ht;obtain⟨z,hz⟩:∃ z,n.2[Yi n k]? = some z:=⟨_,Qc hp⟩
  rw[<- (Ut h ht hz).1];exact Za6 h hi hz hy
 | false =>
  rw[ht,if_neg (by decide)] at hi;exact Zcf h ht (by omega) hy}
theorem Z3f {n:Nd}(h:Xn n=true){k:Ky}{y:It}(hy:n.2[Xg n k]? = some y) (h0:Xg n k≠0):Zq k y.1=false:=by{
 unfold Xg at hy h0;cases ht:Y8 n k with
 | true =>
  rw[ht,if_pos rfl] at hy;rw[(Ut h ht hy).1];exact Zad _
 | false =>
  rw[ht,if_neg (by decide)] at hy h0;have:=Vt h (k:=k) hy;rw[decide_eq_true (by omega)] at this;exact Zcd this}
theorem Zko (f:Int->Ky->Ky->Bool->Bool):∀ (A B:List It) (tb:Ky) (e:Bool),Zb9 f (A++B) tb e=(Zb9 f A (nxO B tb) (bxO B e)&&Zb9 f B tb e)
 | [],B,tb,e=>by
  show Zb9 f B tb e=(true&&Zb9 f B tb e);simp
 | x::r,B,tb,e=>by
  rw[List.cons_append,Zhc,Zko f r B tb e,Zhc];have e1:nxO (r++B) tb=nxO r (nxO B tb):=by cases r <;> rfl
  have e2:bxO (r++B) e=bxO r (bxO B e):=by cases r <;> rfl
  rw[e1,e2,Bool.and_assoc]
def Zml (l:List It):Ky:=match l with | []=>Zgt | x::_=>x.1
def upI (l:List It) (k:Int):It:=(Zml l,k,[])
def Ym (s:Rm) (lv:Int) (l:List It):Int×Rm×List It :=
 if l.length<=5 then
  if mkE s (lv,l)=0 then (0,mkV s (lv,l),[upI l (mkN s (lv,l))]) else (mkE s (lv,l),Zn,[])
 else if mkE s (lv,l.take 3)=0 then
  if mkE (mkV s (lv,l.take 3)) (lv,l.drop 3)=0 then (0,mkV (mkV s (lv,l.take 3)) (lv,l.drop 3),[upI (l.take 3) (mkN s (lv,l.take 3)),upI (l.drop 3) (mkN (mkV s (lv,l.take 3)) (lv,l.drop 3))])
  else (mkE (mkV s (lv,l.take 3)) (lv,l.drop 3),Zn,[])
 else (mkE s (lv,l.take 3),Zn,[])
theorem Za5 {s u:Rm}{lv:Int}{l up:List It}(h:Ym s lv l=(0,u,up)):(mkE s (lv,l)=0/\u=mkV s (lv,l)/\up=[upI l (mkN s (lv,l))]) \/
  (5<l.length/\mkE s (lv,l.take 3)=0/\mkE (mkV s (lv,l.take 3)) (lv,l.drop 3)=0/\u=mkV (mkV s (lv,l.take 3)) (lv,l.drop 3)/\up=[upI (l.take 3) (mkN s (lv,l.take 3)),upI (l.drop 3) (mkN (mkV s (lv,l.take 3)) (lv,l.drop 3))]):=by{
 unfold Ym at h;split at h
 ·split at h
  ·rename_i h1
   cases h;exact .inl ⟨h1,rfl,rfl⟩
  ·rename_i h1
   simp only[Prod.mk.injEq] at h;exact absurd h.1 h1
 ·rename_i h0
  split at h
  ·rename_i h1
   split at h
   ·rename_i h2
    cases h;exact .inr ⟨by omega,h1,h2,rfl,rfl⟩
   ·rename_i h2
    simp only[Prod.mk.injEq] at h;exact absurd h.1 h2
  ·rename_i h1
   simp only[Prod.mk.injEq] at h;exact absurd h.1 h1}
theorem Zp8 (v:Qar) (s:Rm) (n:Int) (w:Qaq) (h:Sto (Old w) w v s) :
  Qaw Tryz.prog 53 #[v,.int .i64 n] w fun e W'=>∃ A ca B cb N cn L cl,e=.returned (.tuple #[.agg #[.slice A (shV s n).1.1.length ca,.slice B (shV s n).1.2.length cb,.slice N (shV s n).2.1.length cn,.slice L (shV s n).2.2.length cl],.int .i64 (shE s n)]) /\
   Sto (New w.heap.size W') W' (.agg #[.slice A (shV s n).1.1.length ca,.slice B (shV s n).1.2.length cb,.slice N (shV s n).2.1.length cn,.slice L (shV s n).2.2.length cl]) (shV s n)/\Qax w.heap.size w W':=by
 refine(Zt5 v s n w h).mono ?_;rintro e W' ⟨t,rfl,ht,hb⟩;obtain⟨A,ca,B,cb,N,cn,L,cl,rfl,_⟩:=id ht.open;exact⟨A,ca,B,cb,N,cn,L,cl,rfl,ht,hb⟩
theorem Zrq {s:Rm}{l:List It}{i:Nat}{x:It}{r:Nat}{y:UInt8}(hx:l[i]? = some x) (hr:x.2.1=(r:Int)) (h0:r≠0) (hy:s.2.1[r]?.getD 0=y):Xk s (l.take (i+1))=(Xk s (l.take i)&&decide (y≠0)):=by
 rw[Zn3 hx,hr];have:¬ ((r:Nat):Int)=0:=by omega
 rw[decide_eq_false this,Bool.false_or,show ((r:Nat):Int).toNat=r by omega,hy]
theorem Zn8 {s:Rm}{l:List It}{i:Nat}{x:It}(hx:l[i]? = some x) (hr:x.2.1=0):Xk s (l.take (i+1))=Xk s (l.take i):=by
 rw[Zn3 hx,hr];simp
theorem Za3 {w:Qaq}{A:Option Qas}{n c:Nat}{xs:List It}{s:It}(h:Y6 (Old w) w [.slice A n c] xs) (hk:xs[0]? = some s) :
  ∃ ad E ce,A=some ad/\InI s/\∀ W,Qax w.heap.size w W->At5 W ad s (.slice E s.2.2.length ce)/\Itm (Old W) W (itV s (.slice E s.2.2.length ce)) s:=by
 obtain⟨ad,E,ce,e,_,_,h1,F⟩:=Y4 h hk;have e0:ad.add (0*5)=ad:=by simp[Addr.add]
 rw[e0] at F;exact⟨ad,E,ce,e,h1,F⟩
theorem Zqa (v u:Qar) (s:Rm) (hm:Yp s=true) (n:Nd) (hn:Xn n=true) (w:Qaq) (h:Sto (Old w) w v s) (hu:Nod (Old w) w u n) :
  Qaw Tryz.prog 135 #[v,u] w fun e w'=>e=.returned (.bool (Xk s n.2))/\Qax w.heap.size w w':=by{
 have hrf:=Za (V4 hn);have hls:=Za (Z0 (Zw hm).2.1);obtain⟨A,ca,B,cb,N,cn,L,cl,rfl,_⟩:=id h.open;obtain⟨I,ci,rfl,-,-,-,hI⟩:=id hu.open;obtain⟨lw,hlw⟩:∃ q,n.1=q:=⟨_,rfl⟩
 obtain⟨l,hl⟩:∃ q,n.2=q:=⟨_,rfl⟩
 obtain⟨m,hlm⟩:∃ q,l.length=q:=⟨_,rfl⟩
 rw[hl] at hrf;rw[hl,hlm] at hI;rw[hl,hlw,hlm];have hm5:m<=5:=by
  have:=(Zs hn).1.2.2.1;rw[hl,hlm] at this;exact this
 obtain⟨ad,ld,rfl,rfl,-,-,-,-,had,-,hc⟩:=Vr hm h.parts.2.1 h.parts.2.2;have HG0:Bag w [Zb8 (.slice I m ci) l,Zbu (.agg #[.slice A s.1.1.length ca,.slice B s.1.2.length cb,.slice (some ad) s.2.1.length cn,.slice (some ld) s.2.2.length cl]) s]:=((Bag.nil w).add (F:=Zbu _ s) h (Yj _ _)).add (F:=Zb8 _ l) hI (Yz _ _);obtain⟨w0,hw0,hg0,hB0,_,hs0⟩:=Xd HG0 (Qb _ _) (.slice A s.1.1.length ca) (.slice B s.1.2.length cb) (.slice (some ad) s.2.1.length cn) (.slice (some ld) s.2.2.length cl) 29;obtain⟨w1,hw1,hg1,hB1,_,hs1⟩:=Xa hg0 (Qb _ _) (.int .i64 lw) (.slice I m ci);have HG:=Za hg1;have BB:=Za (hB0.trans (hB1.mono hB0.size));have cS:Hid (∀ j,j<256->∀ W,Qax w1.heap.size w1 W->W.cell? (ad.add j)=some (.int .u8 ((s.2.1[j]?.getD 0).toNat:Int))):=Za fun j hj W hW =>
  ((BB.out.trans (hW.mono BB.out.size)).cell (by rw[Zh];exact had)).trans (hc j hj).1
 replace hs1:=Za hs1;replace hs0:=Za hs0;replace hlw:=Za hlw;replace hl:=Za hl;replace hlm:=Za hlm;clear HG0 hg1 hg0 h hu hB1 hB0 hc hI
 go_enter Tryz.func135,Tryz.ntmps135
 go_upto_region 1 with fail
 clear hw1 hw0
 go_wp2_with fail
 go_loopw [5] (fun vi wr=>∃ k:Nat,k<=m/\vi=.int .i64 k/\Xk s (l.take k)=true/\Qax w1.heap.size w1 wr) (fun vi _=>m-(intOf vi).toNat)
 case atStart=>exact⟨0,by omega,rfl,rfl,Qb _ _⟩
 case round =>
  obtain⟨k,hk,rfl,hE,hbr⟩:=hrel;have HR:=Za (HG.out.below hbr);have BR:=Za (BB.out.trans (hbr.mono BB.out.size));obtain⟨y0,y1,_⟩:=HR.out.at 0 rfl;by_cases hlt:k<m
  case neg =>
   have hf:Hid (Xk s l=true):=Za (by rw[<- hE,Qw (by rw[hlm.out];omega)]);clear hE hbr
   go_wp2_with fail
   go_ret;exact⟨Zk hf.out.symm,BR.out⟩
  obtain⟨x,hx⟩:∃ x,l[k]? = some x:=⟨_,Qc (by rw[hlm.out];exact hlt)⟩
  have hxr:=hrf.out x (Qf hx);have hIt:Y6 (Old wr) wr [.slice I m ci] l:=HR.out.at 2 rfl;obtain⟨a5,E5,ce5,rfl,_,_,_,FX⟩:=Y4 hIt hx;obtain⟨⟨_,_,_,z3,_⟩,_⟩:=FX wr (Qb _ _);clear FX hIt;obtain⟨k0,k1,k2,k3,_⟩:=HR.out.at 1 rfl;rw[hls.out] at k2;have i4:(0:Int)<=(k:Int):=by omega
  have i5:(k:Int)<(m:Int):=by omega
  obtain⟨z,hzz⟩:∃ z,x.2.1=z:=⟨_,rfl⟩
  rw[hzz] at z3 hxr;by_cases hz0:z=0
  ·subst hz0
   have hst:Hid (Xk s (l.take (k+1))=true):=Za (by rw[Zn8 hx hzz,hE]);replace hx:=Za hx;replace hzz:=Za hzz;clear hE hxr;replace hbr:=Za hbr
   go_wp2_with fail
   go_roundw
   case rel=>exact⟨k+1,by omega,by go_num,hst.out,hbr.out⟩
   case measure=>simp[intOf];omega
  ·obtain⟨r,hr,r8,r256⟩:∃ r:Nat,z=r/\8<=r/\r<256:=⟨z.toNat,by omega,by omega,by omega⟩
   subst hr;have hcell:=cS.out r r256 wr hbr;obtain⟨y,hy⟩:∃ y,s.2.1[r]?.getD 0=y:=⟨_,rfl⟩
   have hst:=Zrq hx hzz (by omega) hy;rw[hE,Pg] at hst;rw[hy] at hcell;have j0:(0:Int)<=(r:Int):=by omega
   have j1:r<256:=r256;have j2:¬ r=0:=by omega
   replace hbr:=Za hbr;replace hzz:=Za hzz;replace hy:=Za hy;clear hE hxr hz0;by_cases hy0:y=0
   ·have t0:=Y0 (y:=0) (q:=0) rfl hy0
    have hf:Hid (Xk s l=false):=Za (Zrc (i:=k+1) (by rw[hst];simp[hy0]));replace hx:=Za hx;clear hst hy0
    go_wp2_with fail
    go_ret;exact⟨Zk hf.out.symm,BR.out⟩
   ·have t0:=Yf (y:=0) (q:=0) rfl hy0
    replace hst:Hid (Xk s (l.take (k+1))=true):=Za (by rw[hst];simpa using hy0);replace hx:=Za hx;clear hy0
    go_wp2_with fail
    go_roundw
    case rel=>exact⟨k+1,by omega,by go_num,hst.out,hbr.out⟩
    case measure=>simp[intOf];omega}
theorem Z5b (w:Qaq) (a b c d:Qar):∃ w1,(w.alloc (.cells #[a,b,c,d] 29)).alloc (.cells #[.int .i64 0,.slice none 0 0] 81)=w1 /\
  w1.heap[w.heap.size]? = some (.cells #[a,b,c,d] 29 (0,0))/\w1.heap[w.heap.size+1]? = some (.cells #[.int .i64 0,.slice none 0 0] 81 (0,0))/\w1.heap.size=w.heap.size+2/\Qax w.heap.size w w1:=by
 refine⟨_,rfl,Yk (Qav _ _),?_,by simp,((Qb _ w).alloc (Qd _) _).alloc (by simp) _⟩;have:=Qav (w.alloc (.cells #[a,b,c,d] 29)) (.cells #[.int .i64 0,.slice none 0 0] 81)
 rwa [Q9] at this
theorem Zgm (v:Qar) (s:Rm) (n:Int) (hm:Yp s=true) (w:Qaq) (h:Sto (Old w) w v s) :
  Qaw Tryz.prog 59 #[v,.int .i64 n] w fun e w'=>∃ u,e=.returned (.tuple #[u,.bool (rmE s n==0)])/\Nod (New w.heap.size w') w' u (rmV s n)/\Qax w.heap.size w w':=by{
 by_cases ha:asE s n=0
 ·obtain⟨k,rfl,_,_,_,_,_,hE,hV,_⟩:=Xb ha
  rw[hE,hV];exact Zhe v s k ha w h
 obtain⟨hE,hV⟩:=Zrl ha;have hE0:(rmE s n==0)=false:=by rw[hE];simpa using ha
 rw[hE0,hV];obtain⟨A,ca,B,cb,N,cn,L,cl,rfl,_,_,_⟩:=h.open;obtain⟨w1,hw1,f1,f2,hsz,hB⟩:=Z5b w (.slice A s.1.1.length ca) (.slice B s.1.2.length cb) (.slice N s.2.1.length cn) (.slice L s.2.2.length cl);have H:=Za (h.below hB);clear h hE hV hE0;obtain⟨k0,k1,k2,k3,_,kg⟩:=Ze f1;obtain⟨c0,c1,c2,_⟩:=Zg f2;obtain⟨W9,hW9,g9,gr9,gs9⟩:=Ys (u:=.int .i64 0) (v:=.slice none 0 0) f2;obtain⟨o0,o1,_,_⟩:=Zg g9;have hfin:=Za (Zk6 (New w.heap.size W9) W9);have hB9:=Za (hB.grown gr9 hB.size (fun q e=>by cases e;omega));replace hsz:=Za hsz;replace f1:=Za f1;replace f2:=Za f2;replace g9:=Za g9;clear gr9 gs9;rcases Zcu s n with ⟨hm',_⟩ | ⟨_,hn,_⟩ | ⟨k,_,rfl,h8,h256,hx,_⟩ | ⟨k,_,hk,_,_,_,e⟩
 ·rw[hm] at hm';cases hm'
 ·by_cases h8:n<8
  ·clear hn ha
   go_enter Tryz.func59,Tryz.ntmps59
   go_upto_region 1 with fail
   clear hw1
   go_wp2_with fail
   refine Qau (v:=.tuple #[.agg #[.int .i64 0,.slice none 0 0],.bool false]) (by simp[results,Tryz.results59,go_sem,o0,o1]) rfl ?_;exact⟨_,rfl,hfin.out,hB9.out⟩
  ·have h9:256<=n:=by omega
   clear hn ha
   go_enter Tryz.func59,Tryz.ntmps59
   go_upto_region 1 with fail
   clear hw1
   go_wp2_with fail
   refine Qau (v:=.tuple #[.agg #[.int .i64 0,.slice none 0 0],.bool false]) (by simp[results,Tryz.results59,go_sem,o0,o1]) rfl ?_;exact⟨_,rfl,hfin.out,hB9.out⟩
 ·obtain⟨ad,bd,rfl,rfl,hl1,-,-,-,had,-,hc⟩:=Vr hm H.out.parts.2.1 H.out.parts.2.2
  have q1:=(hc k h256).1;rw[hx] at q1;replace q1:w1.cell? (ad.add k)=some (.int .u8 0):=q1;have i1:¬ (k:Int)<8:=by omega
  have i2:¬ 256<=(k:Int):=by omega
  have i3:k<s.2.1.length:=by omega
  replace hl1:=Za hl1;replace hx:=Za hx;clear hc ha hm
  go_enter Tryz.func59,Tryz.ntmps59
  go_upto_region 1 with fail
  clear hw1
  go_wp2_with fail
  refine Qau (v:=.tuple #[.agg #[.int .i64 0,.slice none 0 0],.bool false]) (by simp[results,Tryz.results59,go_sem,o0,o1]) rfl ?_;exact⟨_,rfl,hfin.out,hB9.out⟩
 ·exact absurd (hk ▸ e) ha}
def Zpc (s:Rm) (l:Nat):Prop:=∀ (v:Qar) (a:Int) (k tb:Ky) (ends:Bool) (w:Qaq),Sto (Old w) w v s ->
  Qaw Tryz.prog 136 #[v,.int .i64 a,.int .i64 (l:Int),kyV k,kyV tb,.bool ends] w fun e w'=>e=.returned (.bool (Yn s l a k tb ends))/\Qax w.heap.size w w'
def Zlo (s:Rm) (l:Nat):Prop:=∀ (v u:Qar) (n:Nd) (tb:Ky) (ends:Bool) (w:Qaq),Xn n=true->n.1=(l:Int)->Sto (Old w) w v s->Nod (Old w) w u n ->
  Qaw Tryz.prog 100 #[v,u,kyV tb,.bool ends] w fun e w'=>e=.returned (.bool (Ub s n tb ends))/\Qax w.heap.size w w'
theorem Zj8 {s:Rm}{n:Nd}(h:n.1=0) (tb:Ky) (ends:Bool):Ub s n tb ends=Xk s n.2:=by
 unfold Ub;rw[h];rfl
theorem Zjq {s:Rm}{n:Nd}{j:Nat}(h:n.1=((j+1:Nat):Int)) (tb:Ky) (ends:Bool):Ub s n tb ends=Zb9 (Yn s j) n.2 tb ends:=by
 unfold Ub;rw[h,show ((j+1:Nat):Int).toNat=j+1 by omega]
theorem Yo {W:Qaq}{g:Nat}{a b c a' b' c':Qar}{t:Qat}(h:W.heap[g]? = some (.cells #[a,b,c] t (0,0))):∃ W1,((W.setCell ⟨g,0,none⟩ a').setCell ⟨g,1,none⟩ b').setCell ⟨g,2,none⟩ c'=W1 /\
  W1.heap[g]? = some (.cells #[a',b',c'] t (0,0))/\W.grownBy W1 (some g)/\W1.heap.size=W.heap.size :=
 ⟨_,rfl,by simp[P9,Qaa,h],Z7 (p:=⟨g,2,none⟩) (Z7 (p:=⟨g,1,none⟩) (Z7 (p:=⟨g,0,none⟩) (Yh W (some g)) rfl a') rfl b') rfl c',by simp⟩
theorem Zj {W:Qaq}{g:Nat}{a b c:Qar}{t:Qat}(h:W.heap[g]? = some (.cells #[a,b,c] t (0,0))):W.cell? ⟨g,0,none⟩=some a/\W.cell? ⟨g,1,none⟩=some b/\W.cell? ⟨g,2,none⟩=some c/\(∀ o,W.frozen? ⟨g,o,none⟩=false)/\g<W.heap.size :=
 ⟨by simp[Qy,h],by simp[Qy,h],by simp[Qy,h],fun o=>by simp[World.frozen?,h],(Qj.1 h).1⟩
theorem Zte (s:Rm) (hm:Yp s=true) (l0:Nat) (hr0:∀ j,l0=j+1->Zpc s j):Zlo s l0:=by{
 intro v u n tb ends w hmn hlv h hu;obtain⟨A,ca,B,cb,N,cn,L,cl,rfl,_⟩:=id h.open;obtain⟨I,ci,rfl,-,-,-,hI⟩:=id hu.open;have hu':=Za hu;obtain⟨lw,hlw⟩:∃ q,n.1=q:=⟨_,rfl⟩
 obtain⟨l,hl⟩:∃ q,n.2=q:=⟨_,rfl⟩
 obtain⟨m,hlm⟩:∃ q,l.length=q:=⟨_,rfl⟩
 rw[hl,hlm] at hI;rw[hl,hlm,hlw] at hu';rw[hl,hlw,hlm];rw[hlw] at hlv;have hm5:m<=5:=by
  have:=(Zs hmn).1.2.2.1;rw[hl,hlm] at this;exact this
 have HG0:Bag w [Zuk (.agg #[.int .i64 lw,.slice I m ci]) n,Zb8 (.slice I m ci) l,Zbu (.agg #[.slice A s.1.1.length ca,.slice B s.1.2.length cb,.slice N s.2.1.length cn,.slice L s.2.2.length cl]) s]:=(((Bag.nil w).add (F:=Zbu _ s) h (Yj _ _)).add (F:=Zb8 _ l) hI (Yz _ _)).add (F:=Zuk _ n) hu'.out (Vh _ _);obtain⟨w0,hw0,hg0,hB0,_,hs0⟩:=Xd HG0 (Qb _ _) (.slice A s.1.1.length ca) (.slice B s.1.2.length cb) (.slice N s.2.1.length cn) (.slice L s.2.2.length cl) 29;obtain⟨w1,hw1,hg1,hB1,_,hs1⟩:=Xa hg0 (Qb _ _) (.int .i64 lw) (.slice I m ci);obtain⟨w2,hw2,hg2,hB2,_,hs2⟩:=V9 hg1 (Qb _ _) (.int .u8 (tb.1.toNat:Int)) (.int .u32 tb.2.1) (.int .u32 tb.2.2);have HG:=Za hg2;have BB:=Za ((hB0.trans (hB1.mono hB0.size)).trans (hB2.mono (hB0.trans (hB1.mono hB0.size)).size));replace hs2:=Za hs2;replace hs1:=Za hs1;replace hs0:=Za hs0;replace hlw:=Za hlw;replace hl:=Za hl;replace hlm:=Za hlm;clear HG0 hg2 hg1 hg0 h hu hu' hB2 hB1 hB0 hI;unfold kyV;obtain⟨R0,hR0⟩:∃ q,Ub s n tb ends=q:=⟨_,rfl⟩
 rw[hR0];cases l0 with
 | zero =>
  have e0:lw=0:=hlv;have hin:Hid (R0=Xk s l):=Za (by rw[<- hR0,Zj8 (hlw.out.trans e0),hl.out]);replace hR0:=Za hR0;subst e0;clear hlv;have k1:Hid (Nod (Old w2) w2 (.agg #[.int .i64 0,.slice I m ci]) n):=Za (HG.out.at 3 rfl);have k2:Hid (Sto (Old w2) w2 (.agg #[.slice A s.1.1.length ca,.slice B s.1.2.length cb,.slice N s.2.1.length cn,.slice L s.2.2.length cl]) s):=Za (HG.out.at 5 rfl);obtain⟨s0,s1,s2,s3,_⟩:=HG.out.at 2 rfl;obtain⟨y0,y1,_⟩:=HG.out.at 1 rfl
  go_enter Tryz.func100,Tryz.ntmps100
  go_upto_region 1 with fail
  clear hw0 hw1 hw2
  go_wp2_with fail
  with_reducible refine(Zqa _ _ s hm n hmn _ k2.out k1.out).mono ?_
  rintro e w3 ⟨rfl,hb3⟩;have B3:=Za (BB.out.trans (hb3.mono BB.out.size))
  go_wp2_with fail
  go_ret;exact⟨Zk (by rw[hin.out,hl.out]),B3.out⟩
 | succ j =>
  have hin:Hid (R0=Zb9 (Yn s j) l tb ends):=Za (by rw[<- hR0,Zjq (hlw.out.trans hlv),hl.out]);replace hR0:=Za hR0;have hrec:=hr0 j rfl;have c0:(lw==0)=false:=by simp;omega
  have c1:lw-1=(j:Int):=by omega
  have c2:IntKind.i64.wrap (j:Int)=(j:Int):=by
   have:=(Zs hmn).1.2.1;rw[hlw.out] at this;exact Qp _ (by omega)
  replace hlv:=Za hlv;obtain⟨R,hR⟩:∃ R,Zb9 (Yn s j) l tb ends=R:=⟨_,rfl⟩
  have hfin:Hid (R=R0):=Za (by rw[hin.out,hR]);replace hR:=Za hR;obtain⟨s0,s1,s2,s3,_⟩:=HG.out.at 2 rfl;obtain⟨y0,y1,_⟩:=HG.out.at 1 rfl
  go_enter Tryz.func100,Tryz.ntmps100
  go_upto_region 1 with fail
  clear hw0 hw1 hw2
  go_wp2_with fail
  clear s0 s1 s2 s3 y0 y1
  go_loopw [9] (fun vi wr=>∃ k:Nat,k<=m/\vi=.int .i64 k/\Zb9 (Yn s j) (l.drop k) tb ends=R/\Qax w2.heap.size w2 wr) (fun vi _=>m-(intOf vi).toNat)
  case atStart=>exact⟨0,by omega,rfl,by rw[Qk];exact hR.out,Qb _ _⟩
  case round =>
   obtain⟨k,hk,rfl,hE0,hbr⟩:=hrel;have hE:=Za hE0;have HR:=Za (HG.out.below hbr);have BR:=Za hbr;clear hE0 hbr;obtain⟨y0,y1,_⟩:=HR.out.at 1 rfl;obtain⟨t0,t1,t2,_⟩:=HR.out.at 0 rfl;by_cases hlt:k<m
   case neg =>
    have hf:Hid (R=true):=Za (by rw[<- hE.out,Pr (by rw[hlm.out];omega)];rfl);have B4:=Za (BB.out.trans (BR.out.mono BB.out.size))
    go_wp2_with fail
    go_ret;exact⟨Zk (hf.out.symm.trans hfin.out),B4.out⟩
   obtain⟨x,hx0⟩:∃ x,l[k]? = some x:=⟨_,Qc (by rw[hlm.out];exact hlt)⟩
   have hx:=Za hx0;have hIt:Y6 (Old wr) wr [.slice I m ci] l:=HR.out.at 4 rfl;obtain⟨ad,E5,ce5,rfl,_,_,_,FX⟩:=Y4 hIt hx0;obtain⟨w4,hw4,hg4,hB4,-,hs4⟩:=V9 HR.out (Qb _ _) (.int .u8 (tb.1.toNat:Int)) (.int .u32 tb.2.1) (.int .u32 tb.2.2);have hb4:w4.heap[wr.heap.size]? = some (.cells #[.int .u8 (tb.1.toNat:Int),.int .u32 tb.2.1,.int .u32 tb.2.2] 37 (0,0)):=by rw[<- hw4];exact Qav _ _
   replace hs4:=Za hs4;have i4:(0:Int)<=(k:Int):=by omega
   have i5:(k:Int)<(m:Int):=by omega
   clear hx0
   go_upto_region 7 with fail
   clear hw4 t0 t1 t2 y0 y1;obtain⟨y0,y1,_⟩:=(HR.out.below hB4).at 1 rfl;by_cases hlt2:k+1<m
   ·obtain⟨y,hy0⟩:∃ y,l[k+1]? = some y:=⟨_,Qc (by rw[hlm.out];exact hlt2)⟩
    have hnx:=Za (Zpd hy0 tb ends);obtain⟨j1,hj1⟩:∃ j1:Nat,k+1=j1:=⟨_,rfl⟩
    rw[hj1] at hy0;obtain⟨ad',E6,ce6,e6,_,_,_,FY⟩:=Y4 hIt hy0;cases e6;obtain⟨⟨u0,u1,u2,_,_⟩,_⟩:=FY w4 hB4;obtain⟨x0,x1,x2,_,x3⟩:=Zj hb4;obtain⟨W9,hW9,g9,gr9,gs9⟩:=Yo (a':=.int .u8 (y.1.1.toNat:Int)) (b':=.int .u32 y.1.2.1) (c':=.int .u32 y.1.2.2) hb4;obtain⟨v0,v1,v2,_,v3⟩:=Zj g9;have hB9:=hB4.grown gr9 hB4.size (fun q e=>by cases e;omega);have HN:=Za ((HR.out.below hB9).add (F:=Z5e _ _ _ _) ⟨v0,v1,v2,v3⟩ (Zdd _ _ _ _));have BN:=Za (BR.out.trans (hB9.mono BR.out.size));have FX':=Za (fun W (hW:Qax W9.heap.size W9 W)=>(FX W (hB9.trans (hW.mono hB9.size))).1);have i6:(k:Int)+1=(j1:Int):=by omega
    have i7:(j1:Int)<(m:Int):=by omega
    have i8:(0:Int)<=(j1:Int):=by omega
    have i9:IntKind.i64.wrap (j1:Int)=(j1:Int):=Qp _ (by omega);replace hj1:=Za hj1;replace hb4:=Za hb4;replace g9:=Za g9;replace gs9:=Za gs9;clear FX FY hIt hy0 hB4 hg4 gr9 hB9 v0 v1 v2 v3
    go_upto_region 9 with fail
    clear hW9 u0 u1 u2 x0 x1 x2 x3 y0 y1 i6 i7 i8 i9;have hnxt:=Za (show Zb9 (Yn s j) (l.drop k) tb ends=(Yn s j x.2.1 x.1 y.1 true&&Zb9 (Yn s j) (l.drop (k+1)) tb ends) from by rw[Zl6 _ hx.out,hnx.out.1,hnx.out.2]);have hcl:=Za (fun W (hW:Qax (W9).heap.size W9 W)=>hrec (.agg #[.slice A s.1.1.length ca,.slice B s.1.2.length cb,.slice N s.2.1.length cn,.slice L s.2.2.length cl]) x.2.1 x.1 y.1 true W ((HN.out.below hW).at 6 rfl));obtain⟨q,hq⟩:∃ q,Yn s j x.2.1 x.1 y.1 true=q:=⟨_,rfl⟩
    rw[hq] at hnxt;replace hq:=Za hq
    refine wp_region_fx (by kernel_rfl) (fun W=>Qax (W9).heap.size W9 W) (fun _=>none) (fun i=>match i with
     | 18=>some (.bool q)
     | _=>none) (by kernel_rfl) (Qb _ _).drew (fun w w' h hb=>h.trans (hb.mono h.size)) (fun j φ x W W' hp=>by cases hp) ?_
    repeat (first
     | (refine wpAs_skip rfl ?_;simp only[Qa,Zb,Zc,Zd])
     | (refine wpAs_pure (v := ?_) rfl rfl ?_ ?_;rotate_left;(intro W hC hE;clear hE;(have HW:=HN.out.below hC;obtain⟨k0,k1,k2,k3,_⟩:=HW.at 3 rfl;obtain⟨y0,y1,_⟩:=HW.at 2 rfl;obtain⟨t0,t1,t2,_⟩:=HW.at 0 rfl;clear HW;obtain⟨z0,z1,z2,z3,_⟩:=FX'.out W hC);clear hC;go_simp;first | done | with_reducible rfl);simp only[Qa,Zb,Zc,Zd]))
    refine wpAs_fixed rfl rfl rfl ?_ ?_
    ·intro W hC hE
     refine does_enter (f:=136) (args:=#[.agg #[.slice A s.1.1.length ca,.slice B s.1.2.length cb,.slice N s.2.1.length cn,.slice L s.2.2.length cl],.int .i64 x.2.1,.int .i64 (j:Int),kyV x.1,kyV (y.1),.bool true]) ?_ ?_
     ·go_simp
     ·refine(hcl.out W hC).mono ?_
      (rintro e W' ⟨rfl,hg⟩;rw[hq.out])
      exact⟨_,rfl,rfl,hg⟩
    simp only[Qa,Zb,Zc,Zd]
    repeat (first
     | (refine wpAs_skip rfl ?_;simp only[Qa,Zb,Zc,Zd])
     | (refine wpAs_pure (v := ?_) rfl rfl ?_ ?_;rotate_left;(intro W hC hE;clear hE;skip;clear hC;go_simp;first | done | with_reducible rfl);simp only[Qa,Zb,Zc,Zd]))
    refine wpAs_end fun W hC hE=> ?_
    have B3:=Za (BN.out.trans (hC.mono BN.out.size));have B4:=Za (BB.out.trans (B3.out.mono BB.out.size));clear hE hC;cases q with
    | true =>
     have hn:=Za (show Zb9 (Yn s j) (l.drop (k+1)) tb ends=R from by rw[<- hE.out,hnxt.out,Pg])
     go_wp2_with fail
     go_roundw
     case rel=>exact⟨k+1,by omega,by go_num,hn.out,B3.out⟩
     case measure=>simp[intOf];omega
    | false =>
     have hn:=Za (show R=false from by rw[<- hE.out,hnxt.out,Qab])
     go_wp2_with fail
     go_ret;exact⟨Zk (hn.out.symm.trans hfin.out),B4.out⟩
   ·have hnx:=Za (Z2p (l:=l) (i:=k+1) (by rw[hlm.out];omega) tb ends)
    obtain⟨v0,v1,v2,_,v3⟩:=Zj hb4;have HN:=Za ((HR.out.below hB4).add (F:=Z5e _ _ _ _) ⟨v0,v1,v2,v3⟩ (Zdd _ _ _ _));have BN:=Za (BR.out.trans (hB4.mono BR.out.size));have FX':=Za (fun W (hW:Qax w4.heap.size w4 W)=>(FX W (hB4.trans (hW.mono hB4.size))).1);have i6:¬ (k:Int)+1<(m:Int):=by omega
    replace hb4:=Za hb4;clear FX hIt hB4 hg4 v0 v1 v2 v3
    go_upto_region 9 with fail
    clear y0 y1;have hnxt:=Za (show Zb9 (Yn s j) (l.drop k) tb ends=(Yn s j x.2.1 x.1 tb ends&&Zb9 (Yn s j) (l.drop (k+1)) tb ends) from by rw[Zl6 _ hx.out,hnx.out.1,hnx.out.2]);have hcl:=Za (fun W (hW:Qax (w4).heap.size w4 W)=>hrec (.agg #[.slice A s.1.1.length ca,.slice B s.1.2.length cb,.slice N s.2.1.length cn,.slice L s.2.2.length cl]) x.2.1 x.1 tb ends W ((HN.out.below hW).at 6 rfl));obtain⟨q,hq⟩:∃ q,Yn s j x.2.1 x.1 tb ends=q:=⟨_,rfl⟩
    rw[hq] at hnxt;replace hq:=Za hq
    refine wp_region_fx (by kernel_rfl) (fun W=>Qax (w4).heap.size w4 W) (fun _=>none) (fun i=>match i with
     | 18=>some (.bool q)
     | _=>none) (by kernel_rfl) (Qb _ _).drew (fun w w' h hb=>h.trans (hb.mono h.size)) (fun j φ x W W' hp=>by cases hp) ?_
    repeat (first
     | (refine wpAs_skip rfl ?_;simp only[Qa,Zb,Zc,Zd])
     | (refine wpAs_pure (v := ?_) rfl rfl ?_ ?_;rotate_left;(intro W hC hE;clear hE;(have HW:=HN.out.below hC;obtain⟨k0,k1,k2,k3,_⟩:=HW.at 3 rfl;obtain⟨y0,y1,_⟩:=HW.at 2 rfl;obtain⟨t0,t1,t2,_⟩:=HW.at 0 rfl;clear HW;obtain⟨z0,z1,z2,z3,_⟩:=FX'.out W hC);clear hC;go_simp;first | done | with_reducible rfl);simp only[Qa,Zb,Zc,Zd]))
    refine wpAs_fixed rfl rfl rfl ?_ ?_
    ·intro W hC hE
     refine does_enter (f:=136) (args:=#[.agg #[.slice A s.1.1.length ca,.slice B s.1.2.length cb,.slice N s.2.1.length cn,.slice L s.2.2.length cl],.int .i64 x.2.1,.int .i64 (j:Int),kyV x.1,kyV (tb),.bool ends]) ?_ ?_
     ·go_simp
     ·refine(hcl.out W hC).mono ?_
      (rintro e W' ⟨rfl,hg⟩;rw[hq.out])
      exact⟨_,rfl,rfl,hg⟩
    simp only[Qa,Zb,Zc,Zd]
    repeat (first
     | (refine wpAs_skip rfl ?_;simp only[Qa,Zb,Zc,Zd])
     | (refine wpAs_pure (v := ?_) rfl rfl ?_ ?_;rotate_left;(intro W hC hE;clear hE;skip;clear hC;go_simp;first | done | with_reducible rfl);simp only[Qa,Zb,Zc,Zd]))
    refine wpAs_end fun W hC hE=> ?_
    have B3:=Za (BN.out.trans (hC.mono BN.out.size));have B4:=Za (BB.out.trans (B3.out.mono BB.out.size));clear hE hC;cases q with
    | true =>
     have hn:=Za (show Zb9 (Yn s j) (l.drop (k+1)) tb ends=R from by rw[<- hE.out,hnxt.out,Pg])
     go_wp2_with fail
     go_roundw
     case rel=>exact⟨k+1,by omega,by go_num,hn.out,B3.out⟩
     case measure=>simp[intOf];omega
    | false =>
     have hn:=Za (show R=false from by rw[<- hE.out,hnxt.out,Qab])
     go_wp2_with fail
     go_ret;exact⟨Zk (hn.out.symm.trans hfin.out),B4.out⟩}
def Z40 (s:Rm) (lv:Int) (l:List It) (w:Qaq) (e:Ending) (w':Qaq):Prop:=∃ (t:Qar) (P:Option Qas) (m pc:Nat),e=.returned (.tuple #[t,.slice P m pc,.int .i64 (mkE s (lv,l))])/\Sto (Old w') w' t (mkV s (lv,l)) /\
 (mkE s (lv,l)=0->m=1/\Y6 (New w.heap.size w') w' [.slice P 1 pc] [upI l (mkN s (lv,l))])/\Qax w.heap.size w w'
theorem Z49 (w:Qaq) (v:Qar) (t:Qat):∃ w1,w.alloc (.cells #[v] t)=w1/\w1.heap[w.heap.size]? = some (.cells #[v] t (0,0))/\w1.heap.size=w.heap.size+1/\Qax w.heap.size w w1 :=
 ⟨_,rfl,Qav w _,by simp,(Qb _ _).alloc (Qd _) _⟩
theorem Z4o {s:Rm}{lv:Int}{l:List It}(h:mkE s (lv,l)=0) (hl:∀ x∈l,InI x):InI (upI l (mkN s (lv,l))):=by
 obtain⟨k,e,h8,h256,_⟩:=Vq h;refine⟨?_,by show -9223372036854775808<=mkN s (lv,l);omega,by show mkN s (lv,l)<=9223372036854775807;omega⟩;show InK (Zml l);cases l with
 | nil=>exact Zr9.key
 | cons x r=>exact(hl x (Qz ..)).key
theorem Z1s {ok:Qas->Prop}{w:Qaq}{A:Option Qas}{n c:Nat}{l:List It}(h:Y6 ok w [.slice A n c] l):∀ x∈l,InI x:=fun x hx=>by
 obtain⟨i,hi⟩:=Qx hx;obtain⟨_,_,_,_,_,_,_,_,_,hin⟩:=Zao h hi;exact hin
theorem Z04 {W:Qaq}{g:Nat}{a b c d e u0 u1 u2:Qar}{t:Qat}(h:W.heap[g]? = some (.cells #[a,b,c,d,e] t (0,0))):∃ W1,((W.setCell ⟨g,0,none⟩ u0).setCell ⟨g,1,none⟩ u1).setCell ⟨g,2,none⟩ u2=W1 /\
  W1.heap[g]? = some (.cells #[u0,u1,u2,d,e] t (0,0))/\W.grownBy W1 (some g)/\W1.heap.size=W.heap.size :=
 ⟨_,rfl,by simp[P9,Qaa,h],Z7 (p:=⟨g,2,none⟩) (Z7 (p:=⟨g,1,none⟩) (Z7 (p:=⟨g,0,none⟩) (Yh W (some g)) rfl u0) rfl u1) rfl u2,by simp⟩
theorem Zm1 (v:Qar) (s:Rm) (lv:Int) (A:Option Qas) (n c:Nat) (l:List It) (hm:Yp s=true) (hn:Xn (lv,l)=true) (hlv:Zmp lv) (hln:l.length=n) (w:Qaq) (h:Sto (Old w) w v s) (hl:Y6 (Old w) w [.slice A n c] l) :
  Qaw Tryz.prog 106 #[v,.int .i64 lv,.slice A n c] w (Z40 s lv l w):=by{
 obtain⟨qa,qb,qc,qd,rfl⟩:∃ qa qb qc qd:Option Qas×Nat×Nat,v=.agg #[.slice qa.1 qa.2.1 qa.2.2,.slice qb.1 qb.2.1 qb.2.2,.slice qc.1 qc.2.1 qc.2.2,.slice qd.1 qd.2.1 qd.2.2]:=by
  obtain⟨A,ca,B,cb,N,cn,L,cl,rfl,_⟩:=h.open;exact⟨(A,_,ca),(B,_,cb),(N,_,cn),(L,_,cl),rfl⟩
 have h5:n<=5:=by rw[<- hln];exact(Zs hn).1.2.2.1
 obtain⟨w1,hw1,b1,hs1,hB1⟩:=Vm w (.slice qa.1 qa.2.1 qa.2.2) (.slice qb.1 qb.2.1 qb.2.2) (.slice qc.1 qc.2.1 qc.2.2) (.slice qd.1 qd.2.1 qd.2.2) 29;obtain⟨w2,hw2,b2,hs2,hB2⟩:=Vm w1 (.slice none 0 0) (.slice none 0 0) (.slice none 0 0) (.slice none 0 0) 29;obtain⟨w3,hw3,b3,hs3,hB3⟩:=Z49 w2 (.slice A n c) 39;have hB12:=hB1.trans (hB2.mono hB1.size);have hB13:=hB12.trans (hB3.mono hB12.size);have B3:=Za hB13;have SZ:=Za (show w1.heap.size=w.heap.size+1/\w2.heap.size=w.heap.size+2/\w3.heap.size=w.heap.size+3 from by omega);have G1:=Za ((hB3.block w.heap.size (by omega)).trans ((hB2.block w.heap.size (by omega)).trans b1));have G2:=Za ((hB3.block w1.heap.size (by omega)).trans b2);have KC:=Za (fun W (hW:Qax w3.heap.size w3 W)=>And.intro (Ze ((hW.block w.heap.size (by omega)).trans G1.out)) ((hW.block w2.heap.size (by omega)).trans b3));have HS:=Za (fun W (hW:Qax w3.heap.size w3 W)=>h.below (hB13.trans (hW.mono hB13.size)));have HN:Hid (∀ W,Qax w3.heap.size w3 W->Nod (Old W) W (.agg #[.int .i64 lv,.slice A n c]) (lv,l)):=Za (fun W hW=>⟨_,rfl,hlv,Z5.old hl (hB13.trans (hW.mono hB13.size))⟩);have HI:=Za (fun W (hW:Qax w3.heap.size w3 W)=>Z5.old hl (hB13.trans (hW.mono hB13.size)));have HL:=Za (fun W (hW:Qax w.heap.size w W)=>Z5.old hl hW);have hmd:Hid (∀ W,Qax w3.heap.size w3 W->Qaw Tryz.prog 142 #[.agg #[.slice qa.1 qa.2.1 qa.2.2,.slice qb.1 qb.2.1 qb.2.2,.slice qc.1 qc.2.1 qc.2.2,.slice qd.1 qd.2.1 qd.2.2],.agg #[.int .i64 lv,.slice A n c]] W fun e w'=>∃ t,e=.returned (.tuple #[t,.int .i64 (mkN s (lv,l)),.int .i64 (mkE s (lv,l))])/\Sto (Old w') w' t (mkV s (lv,l))/\Qax W.heap.size W w'):=Za (fun W hW=>Zqm _ _ s (lv,l) hm hn W (HS.out W hW) (HN.out W hW));have hin:=Za (Z1s hl);have hup:=Za (fun(hh:mkE s (lv,l)=0)=>Z4o hh (Z1s hl));have hmk:Hid (mkE s (lv,l)=0->Yp (mkV s (lv,l))=true):=Za (fun hh=>(Vq hh).choose_spec.2.2.2.2.2.2.2.1)
 have hfl:Hid (U1 (mkV s (lv,l))):=Za (by
  by_cases hh:mkE s (lv,l)=0
  ·exact Va ((Vq hh).choose_spec.2.2.2.2.2.2.2.1)
  ·rw[(Zlj hh).2];exact Vg)
 have hno:=Za (fun(hh:mkE s (lv,l)≠0)=>(Zlj hh).2);have hmr:=Za hm
 have hl0:Hid (∀ x,l[0]? = some x->Zml l=x.1):=Za (fun x hx=>by
  cases l with
  | nil=>cases hx
  | cons y r=>cases hx;rfl)
 have hlz:Hid (n=0->Zml l=Zgt):=Za (fun e=>by
  rw[Pu (hln.trans e)]
  rfl)
 obtain⟨er,her⟩:∃ q,mkE s (lv,l)=q:=⟨_,rfl⟩
 obtain⟨N',hN'⟩:∃ q,mkN s (lv,l)=q:=⟨_,rfl⟩
 obtain⟨V',hV'⟩:∃ q,mkV s (lv,l)=q:=⟨_,rfl⟩
 have hres:Hid (∀ e W,(∃ (t:Qar) (P:Option Qas) (m pc:Nat),e=.returned (.tuple #[t,.slice P m pc,.int .i64 er])/\Sto (Old W) W t V'/\(er=0->m=1/\Y6 (New w.heap.size W) W [.slice P 1 pc] [upI l N'])/\Qax w.heap.size w W)->Z40 s lv l w e W):=Za (fun e W hh=>by unfold Z40;rw[her,hN',hV'];exact hh);rw[her,hN',hV'] at hmd;rw[her,hN'] at hup;rw[her,hV'] at hmk hno;rw[hV'] at hfl;replace her:=Za her;replace hN':=Za hN';replace hV':=Za hV';replace hs1:=Za hs1;replace hs2:=Za hs2;replace hs3:=Za hs3;have hln':=Za hln;clear h hl hm hn hlv hln b1 b2 b3 hB1 hB2 hB3 hB12 hB13;have i5:¬ ((n:Int)>5):=by omega
 go_enter Tryz.func106,Tryz.ntmps106
 go_upto_region 2 with fail
 go_upto_region 4 with fail
 go_wp2_with fail
 clear hw1 hw2 hw3
 go_loopw [10,11] (fun ov iv wr=>(iv=.int .i64 0/\ov=.slice none 0 0/\Qax w3.heap.size w3 wr)\/(iv=.int .i64 1/\er=0/\∃ (P:Option Qas) (pc:Nat) (ra rb rc rd:Option Qas×Nat×Nat),ov=.slice P 1 pc/\Y6 (New w3.heap.size wr) wr [.slice P 1 pc] [upI l N'] /\
   wr.heap[w.heap.size]? = some (.cells #[.slice ra.1 ra.2.1 ra.2.2,.slice rb.1 rb.2.1 rb.2.2,.slice rc.1 rc.2.1 rc.2.2,.slice rd.1 rd.2.1 rd.2.2] 29 (0,0)) /\
   Sto (Old wr) wr (.agg #[.slice ra.1 ra.2.1 ra.2.2,.slice rb.1 rb.2.1 rb.2.2,.slice rc.1 rc.2.1 rc.2.2,.slice rd.1 rd.2.1 rd.2.2]) V' /\
   wr.heap[w1.heap.size]? = some (.cells #[.slice none 0 0,.slice none 0 0,.slice none 0 0,.slice none 0 0] 29 (0,0))/\Qax w.heap.size w wr)) (fun _ iv _=>1-(intOf iv).toNat)
 case atStart=>exact .inl ⟨rfl,rfl,Qb _ _⟩
 case round =>
  rcases hrel with ⟨rfl,rfl,hB⟩ | ⟨rfl,he0,P,pc,ra,rb,rc,rd,rfl,hP,hbx,hSt,hzr,hB⟩
  case inr =>
   obtain⟨k0,k1,k2,k3,_⟩:=Ze hbx;obtain⟨c0,c1,c2,c3,_⟩:=Ze hzr;obtain⟨W9,hW9,g9,gr9,gs9⟩:=Zo (a':=.slice ra.1 ra.2.1 ra.2.2) (b':=.slice rb.1 rb.2.1 rb.2.2) (c':=.slice rc.1 rc.2.1 rc.2.2) (d':=.slice rd.1 rd.2.1 rd.2.2) hzr;obtain⟨o0,o1,o2,o3,_,_⟩:=Ze g9
   have hfin:=Za (show Z40 s lv l w (.returned (.tuple #[.agg #[.slice ra.1 ra.2.1 ra.2.2,.slice rb.1 rb.2.1 rb.2.2,.slice rc.1 rc.2.1 rc.2.2,.slice rd.1 rd.2.1 rd.2.2],.slice P 1 pc,.int .i64 0])) W9 by
    have sz:=SZ.out
    exact hres.out _ _ ⟨_,P,1,pc,by rw[he0],Z9 hSt hfl.out hzr (by simp) gr9,fun _=>⟨rfl,Z5.new (Z5.grown hP gr9 (fun q e=>by cases e;omega)) (by omega) (Qb _ _)⟩,hB.grown gr9 hB.size (fun q e=>by cases e;omega)⟩)
   replace g9:=Za g9;clear hP hbx hSt hzr hB gr9 gs9 he0
   go_wp2_with fail
   refine Qau (v:=.tuple #[.agg #[.slice ra.1 ra.2.1 ra.2.2,.slice rb.1 rb.2.1 rb.2.2,.slice rc.1 rc.2.1 rc.2.2,.slice rd.1 rd.2.1 rd.2.2],.slice P 1 pc,.int .i64 0]) (by simp[results,Tryz.results106,go_sem,o0,o1,o2,o3]) rfl ?_;exact hfin.out
  obtain⟨⟨k0,k1,k2,k3,_⟩,p0⟩:=KC.out wr hB;replace p0:=(Ye p0).1;have BR:=Za hB;clear hB
  go_upto_region 8 with fail
  clear k0 k1 k2 k3 p0
  refine Xh (ops' := ?opsLate) (by kernel_rfl) [(13,10),(13,11),(14,11)] ?he (by kernel_rfl) (fun d _ _ _ _ h=>by cases d <;> exact h) 13 (fun W=>Qax wr.heap.size wr W) (fun i=>match i with
   | 7=>some (fun v W=>∃ t,v=.tuple #[t,.int .i64 N',.int .i64 er]/\Sto (Old W) W t V')
   | 8=>some (fun v W=>∃ t,v=.tuple #[t,.int .i64 N',.int .i64 er]/\Sto (Old W) W t V')
   | 9=>some (fun v W=>Sto (Old W) W v V')
   | 12=>some (fun v W=>∃ g,v=.pointer (some ⟨g,0,none⟩)/\wr.heap.size<=g/\W.heap[g]? = some (.cells #[.slice none 0 0,.slice none 0 0,.slice none 0 0,.slice none 0 0] 29 (0,0)))
   | _=>none) (fun i=>match i with
   | 10=>some (.int .i64 N')
   | 11=>some (.int .i64 er)
   | _=>none) ?h1 ?h2 ?h3 (Qb _ _).drew (fun w w' h hb=>h.trans (hb.mono h.size)) ?tst ?_
  case he =>
   simp[Yg];rfl
  case h1=>decide
  case h2=>kernel_rfl
  case h3=>kernel_rfl
  case tst =>
   intro j φ x W W' hp hx hb
   match j,hp with
   | 7,hp=>cases hp;obtain⟨t,e,h⟩:=hx;exact⟨t,e,h.below hb⟩
   | 8,hp=>cases hp;obtain⟨t,e,h⟩:=hx;exact⟨t,e,h.below hb⟩
   | 9,hp=>cases hp;exact Sto.below hx hb
   | 12,hp=>cases hp;obtain⟨g,e,h1,h2⟩:=hx;exact⟨g,e,h1,(hb.block g (Qj.1 h2).1).trans h2⟩
  simp only[Q3,Qt,Qu,Qk]
  repeat (first
   | (refine wpAs_skip rfl ?_;simp only[Qa,Zb,Zc,Zd])
   | (refine wpAs_pure (v := ?_) rfl rfl ?_ ?_;rotate_left;(intro W hC hE;clear hE;(obtain⟨⟨k0,k1,k2,k3,_⟩,p0⟩:=KC.out W (BR.out.trans (hC.mono BR.out.size));replace p0:=(Ye p0).1);clear hC;go_simp;first | done | with_reducible rfl);simp only[Qa,Zb,Zc,Zd]))
  refine wpAs_act rfl rfl ?_ ?_
  ·intro W hC hE
   clear hE;refine does_enter (f:=142) (args:=#[.agg #[.slice qa.1 qa.2.1 qa.2.2,.slice qb.1 qb.2.1 qb.2.2,.slice qc.1 qc.2.1 qc.2.2,.slice qd.1 qd.2.1 qd.2.2],.agg #[.int .i64 lv,.slice A n c]]) ?_ ?_
   ·go_simp
   ·refine(hmd.out W (BR.out.trans (hC.mono BR.out.size))).mono ?_
    rintro e W' ⟨t,rfl,hs,hb⟩;exact⟨_,rfl,⟨t,rfl,hs⟩,hb⟩
  simp only[Qa,Zb,Zc,Zd,envAdd];intro x7;refine wpAs_act rfl rfl ?_ ?_
  ·intro W hC hE
   have h7:=hE.1 rfl;clear hE hC
   go_simp
   exact⟨h7,Qb _ _⟩
  simp only[Qa,Zb,Zc,Zd,envAdd];intro x8;refine wpAs_act rfl rfl ?_ ?_
  ·intro W hC hE
   obtain⟨t,rfl,hs⟩:=hE.1 rfl;have hs':=Za hs;clear hE hC hs
   go_simp
   exact⟨hs'.out,Qb _ _⟩
  simp only[Qa,Zb,Zc,Zd,envAdd];intro x9;refine wpAs_fixed rfl rfl rfl ?_ ?_
  ·intro W hC hE
   obtain⟨t,rfl,hs⟩:=hE.2.1 rfl;clear hE hC hs
   go_simp
   exact⟨rfl,Qb _ _⟩
  simp only[Qa,Zb,Zc,Zd];refine wpAs_fixed rfl rfl rfl ?_ ?_
  ·intro W hC hE
   obtain⟨t,rfl,hs⟩:=hE.2.1 rfl;clear hE hC hs
   go_simp
   exact⟨rfl,Qb _ _⟩
  simp only[Qa,Zb,Zc,Zd];refine wpAs_act rfl rfl ?_ ?_
  ·intro W hC hE
   have hs:=hC.size;clear hE hC
   go_simp
   exact⟨⟨W.heap.size,rfl,hs,Qav _ _⟩,(Qb _ _).alloc (Qd _) _⟩
  simp only[Qa,Zb,Zc,Zd,envAdd];intro x12;refine wpAs_end fun W hC hE=> ?_
  obtain⟨⟨g,rfl,hg,hz⟩,hSt,_⟩:=hE;replace hSt:Sto (Old W) W x9 V':=hSt;obtain⟨ra,rb,rc,rd,rfl⟩:∃ qa qb qc qd:Option Qas×Nat×Nat,x9=.agg #[.slice qa.1 qa.2.1 qa.2.2,.slice qb.1 qb.2.1 qb.2.2,.slice qc.1 qc.2.1 qc.2.2,.slice qd.1 qd.2.1 qd.2.2]:=by
   obtain⟨A,ca,B,cb,N,cn,L,cl,rfl,_⟩:=hSt.open;exact⟨(A,_,ca),(B,_,cb),(N,_,cn),(L,_,cl),rfl⟩
  obtain⟨u0,u1,u2,u3,uf,_⟩:=Ze hz;obtain⟨w5,hW5,g5,gr5,gs5⟩:=Zo (a':=.slice ra.1 ra.2.1 ra.2.2) (b':=.slice rb.1 rb.2.1 rb.2.2) (c':=.slice rc.1 rc.2.1 rc.2.2) (d':=.slice rd.1 rd.2.1 rd.2.2) hz;have hs5:=Za (Z9 hSt hfl.out hz (by simp) gr5);have BW:=BR.out.trans (hC.mono BR.out.size);have B35:=Za (BW.grown gr5 BW.size (fun q e=>by cases e;exact Qr BR.out.size hg));have B5:=Za (B3.out.trans (B35.out.mono B3.out.size));have g5h:=Za g5;replace hz:=Za hz;clear hC hSt gr5 gs5 g5 hg BW
  go_upto_region 9 with fail
  clear hW5 u0 u1 u2 u3 uf;by_cases he:er=0
  case neg =>
   have t0:(er != 0)=true:=by simpa using he
   have szl:w.heap.size<=w1.heap.size:=by have:=SZ.out;omega
   have F5:=(B35.out.block w1.heap.size (by have:=SZ.out;omega)).trans G2.out;have heh:=Za he;clear he;obtain⟨k0,k1,k2,k3,k4,k5⟩:=Ze F5;obtain⟨W9,hW9,g9,gr9,gs9⟩:=Zo (a':=.slice none 0 0) (b':=.slice none 0 0) (c':=.slice none 0 0) (d':=.slice none 0 0) F5;obtain⟨n0,n1,n2,n3,_,_⟩:=Ze g9;have hB9:=Za ((B5).out.grown gr9 (B5).out.size (fun q e=>by cases e;omega));replace g9:=Za g9;replace F5:=Za F5;clear gr9 gs9
   go_wp2_with fail
   refine Qau (v:=.tuple #[.agg #[.slice none 0 0,.slice none 0 0,.slice none 0 0,.slice none 0 0],.slice none 0 0,.int .i64 er]) (by simp[results,Tryz.results106,go_sem,n0,n1,n2,n3]) rfl ?_;exact hres.out _ _ ⟨_,none,0,0,rfl,by rw[hno.out heh.out];exact Zu _ _,fun h=>absurd h heh.out,hB9.out⟩
  subst he;have bq:=(B35.out.block w.heap.size (by have:=SZ.out;omega)).trans G1.out;obtain⟨u0,u1,u2,u3,uf,_⟩:=Ze bq;obtain⟨m0,m1,m2,m3,_⟩:=Ze g5h.out;obtain⟨w6,hW6,g6,gr6,gs6⟩:=Zo (a':=.slice ra.1 ra.2.1 ra.2.2) (b':=.slice rb.1 rb.2.1 rb.2.2) (c':=.slice rc.1 rc.2.1 rc.2.2) (d':=.slice rd.1 rd.2.1 rd.2.2) bq;have hs6:=Za (Zox hs5.out (hmk.out rfl) bq (HS.out w5 B35.out) hmr.out gr6);have z6:=Za ((gr6.block w1.heap.size (by have:=B35.out.size;have:=SZ.out;omega) (by have:=SZ.out;simp;omega)).trans ((B35.out.block w1.heap.size (by have:=SZ.out;omega)).trans G2.out));have p6:=(gr6.block w2.heap.size (by have:=B35.out.size;have:=SZ.out;omega) (by have:=SZ.out;simp;omega)).trans (KC.out w5 B35.out).2;have l6:=Za (show w3.heap.size<=w6.heap.size by have:=B35.out.size;omega);have B6:=Za (B5.out.grown gr6 B5.out.size (fun q e=>by cases e;omega));have I6:=Za (HL.out w6 B6.out);have g6h:=Za g6;replace bq:=Za bq;replace g6:=Za g6;have p6h:=Za p6;clear gr6 gs6 p6
  go_upto_region 12 with fail
  clear hW6 u0 u1 u2 u3 uf m0 m1 m2 m3
  go_upto_region 13 with fail
  obtain⟨w7,hw7,-,-,-,-,-,hs7,hB7,b7⟩:=Z6 w6 (.int .u8 0) (.int .u32 0) (.int .u32 0) (.int .i64 N') (.slice none 0 0) 54;rw[hw7];have p7:=Za ((hB7.block w2.heap.size (by have:=l6.out;have:=SZ.out;omega)).trans p6h.out);have B7:=Za hB7;have I7:=Za (Z5.old I6.out hB7);have b7h:=Za b7;replace hs7:=Za hs7;clear b7 hB7 hw7;have p0:=(Ye p7.out).1;obtain⟨kk,hkk⟩:∃ kk:Ky,Zml l=kk:=⟨_,rfl⟩
  have hu:Hid (upI l N'=(kk,N',[])):=Za (by rw[<- hkk];rfl);replace hkk:=Za hkk;obtain⟨b0,hb0⟩:∃ b,decide (0<n)=b:=⟨_,rfl⟩
  go_cut [56] from 51 to 56 (fun xc wx=>xc=.bool b0/\w7=wx)
  case first =>
   by_cases i6:(n:Int)>0
   ·obtain rfl:b0=true:=by rw[<- hb0];exact decide_eq_true (by omega)
    replace hb0:=Za hb0
    go_wp2_with fail
    go_meet;refine⟨?_,rfl⟩;simp;omega
   ·obtain rfl:b0=false:=by rw[<- hb0];exact decide_eq_false (by omega)
    replace hb0:=Za hb0
    go_wp2_with fail
    go_meet;refine⟨?_,rfl⟩;simp;omega
  case rest =>
  obtain⟨rfl,rfl⟩:=hcut
  go_upto_if 56 with fail
  go_cut [] from 57 to 64 (fun wx=>wx.heap[w6.heap.size]? = some (.cells #[.int .u8 (kk.1.toNat:Int),.int .u32 kk.2.1,.int .u32 kk.2.2,.int .i64 N',.slice none 0 0] 54 (0,0))/\w7.grownBy wx (some w6.heap.size))
  case first =>
   cases b0 with
   | false =>
    have h0:n=0:=by have:=of_decide_eq_false hb0;omega
    have hz:=hlz.out h0;rw[hkk.out] at hz;subst hz;have b7':=b7h.out;clear h0;replace hb0:=Za hb0
    go_wp2_with fail
    go_meet;exact⟨b7h.out,Yh _ _⟩
   | true =>
    have h0:=of_decide_eq_true hb0;replace hb0:=Za hb0;obtain⟨z,hz⟩:∃ z,l[0]? = some z:=⟨_,Qc (by have:=hln'.out;omega)⟩
    obtain⟨ad,E5,ce5,rfl,-,FX⟩:=Za3 I7.out hz;obtain⟨⟨z0,z1,z2,z3,z4⟩,_⟩:=FX w7 (Qb _ _);have hkz:=hl0.out z hz;rw[hkk.out] at hkz;subst hkz;have i0:(0:Int)<(n:Int):=by omega
    obtain⟨n0,n1,n2,n3,n4,_⟩:=Zl b7h.out;obtain⟨w8,hW8,g8,gr8,gs8⟩:=Z04 (u0:=.int .u8 (z.1.1.toNat:Int)) (u1:=.int .u32 z.1.2.1) (u2:=.int .u32 z.1.2.2) b7h.out;have g8h:=Za g8;have gr8h:=Za gr8;replace hz:=Za hz;clear g8 gr8 gs8 FX
    go_wp2_with fail
    go_meet;exact⟨g8h.out,gr8h.out⟩
  case rest =>
  obtain⟨gx,grx⟩:=hcut;obtain⟨w8,rfl⟩:∃ w8:Qaq,w8=wc:=⟨_,rfl⟩
  obtain⟨v0,v1,v2,v3,v4,_⟩:=Zl gx;have s8:=grx.size;have s7:=hs7.out;obtain⟨w9,hw9,_,_,_,_,_,hs9,hB9,b9⟩:=Z6 w8 (.int .u8 (kk.1.toNat:Int)) (.int .u32 kk.2.1) (.int .u32 kk.2.2) (.int .i64 N') (.slice none 0 0) 54;have l3:=l6.out;obtain⟨P,pc,w10,hr10,row10,gr10,hb10⟩:=Zls (lo:=w3.heap.size) (A:=none) (c:=0) (xs:=[]) (Ya.nil _ _ _ w3.heap.size w9) w8.heap.size (kk,N',[]) (.slice none 0 0) 1 0 rfl b9 (by omega) (by have:=hB9.size;omega) (by rw[<- hu.out];exact hup.out rfl) (Vd _ _ none);have b610:=Za (show Qax w6.heap.size w6 w10 from (((B7.out.grown grx B7.out.size (fun q e=>by cases e;exact Qd _)).trans (hB9.mono (by omega))).grown gr10 (by have:=hB9.size;omega) (fun q e=>by cases e)));have H10:=Za hr10;have R10:=Za (Ya.rel Yl row10);replace hu:=Za hu.out;clear gx grx hr10 row10 gr10 hb10 b9 s7 s8
  go_wp2_with (first | (rw[hw9]) | (at_builtin;refine Yw rfl _ _ _ _ rfl rfl rfl H10.out ?_;clear H10))
  go_roundw
  case rel =>
   refine .inr ⟨by go_num,trivial,P,pc,ra,rb,rc,rd,rfl,?_,(b610.out.block w.heap.size (by have:=l6.out;have:=SZ.out;omega)).trans g6h.out,hs6.out.below b610.out,(b610.out.block w1.heap.size (by have:=l6.out;have:=SZ.out;omega)).trans z6.out,B6.out.trans (b610.out.mono B6.out.size)⟩;rw[hu.out];exact R10.out
  case measure=>simp[intOf]}
def Wd (ok:Qas->Prop) (w:Qaq) (p:Qas):Prop:=ok p/\((∃ q:Qas,q.block=p.block/\5<=q.off/\w.cell? q≠none)\/∃ (q:Qas) (ad:Qas) (n c:Nat),q.block=p.block/\w.cell? q=some (.slice (some ad) n c))
theorem Z1b {ok:Qas->Prop}{w:Qaq}{cs:List Qar}{x:List UInt8}(h:rBy ok w cs x) (hx:5<x.length):rBy (Wd ok w) w cs x:=by{
 obtain⟨A,cap,h1,h2,h3,h4⟩:=h;refine⟨A,cap,h1,h2,h3,fun i y hi=> ?_⟩;obtain⟨ad,vs,e1,e2,e3,e4⟩:=h4 i y hi;refine⟨ad,vs,e1,e2,fun j u hj=>⟨⟨(e3 j u hj).1,.inl ?_⟩,(e3 j u hj).2⟩,e4⟩;obtain⟨ad',vs',f1,f2,f3,_⟩:=h4 5 _ (Qc hx);rw[e1] at f1;cases f1;obtain⟨z,rfl⟩:∃ z,vs'=[z]:=by
  match vs',f2 with
  | [z],_=>exact⟨z,rfl⟩
 refine⟨ad.add (5*1+0),by rw[Zh,Zh],by show 5<=ad.off+(5*1+0);omega,?_⟩;rw[(f3 0 z rfl).2];simp}
theorem Z3l {ok:Qas->Prop}{w:Qaq}{cs:List Qar}{xss:List (List UInt8)}(h:rSl 1 rBy ok w cs xss) (hn:∀ x∈xss,x.length=128) (hl:5<xss.length):rSl 1 rBy (Wd ok w) w cs xss:=by{
 obtain⟨A,cap,h1,h2,h3,h4⟩:=h;refine⟨A,cap,h1,h2,h3,fun i y hi=> ?_⟩;obtain⟨ad,vs,e1,e2,e3,e4⟩:=h4 i y hi;refine⟨ad,vs,e1,e2,fun j u hj=>⟨⟨(e3 j u hj).1,.inl ?_⟩,(e3 j u hj).2⟩,Z1b e4 (by have:=hn y (Qf hi);omega)⟩;obtain⟨ad',vs',f1,f2,f3,_⟩:=h4 5 _ (Qc hl);rw[e1] at f1;cases f1;obtain⟨z,rfl⟩:∃ z,vs'=[z]:=by
  match vs',f2 with
  | [z],_=>exact⟨z,rfl⟩
 refine⟨ad.add (5*1+0),by rw[Zh,Zh],by show 5<=ad.off+(5*1+0);omega,?_⟩;rw[(f3 0 z rfl).2];simp}
theorem Z5k {ok:Qas->Prop}{w:Qaq}{cs:List Qar}{ws:List Wt}(h:rSl 2 rWt ok w cs ws) (hn:∀ x∈ws,x.2.length=128):rSl 2 rWt (Wd ok w) w cs ws:=by
 obtain⟨A,cap,h1,h2,h3,h4⟩:=h;refine⟨A,cap,h1,h2,h3,fun i y hi=> ?_⟩;obtain⟨ad,vs,e1,e2,e3,e4⟩:=h4 i y hi;obtain⟨v,rfl,b1,b2,hv⟩:=Zc9 e4;have h128:=hn y (Qf hi);obtain⟨ad',c',b',rfl,_⟩:=Zj3 hv (by omega);exact⟨ad,_,e1,e2,fun j u hj=>⟨⟨(e3 j u hj).1,.inr ⟨ad.add (i*2+1),ad',_,c',by rw[Zh,Zh],(e3 1 _ rfl).2⟩⟩,(e3 j u hj).2⟩,Zio b1 b2 (Z1b hv (by omega))⟩
theorem Z5s {ok:Qas->Prop}{w:Qaq}{v:Qar}{s:Rm}(h:Sto ok w v s) (hm:Yp s=true):Sto (Wd ok w) w v s:=by
 obtain⟨a,b,n,l,e,⟨a',b',e',r1,r2⟩,h2,h3⟩:=h;obtain⟨m1,m2,m3⟩:=Ze0 (Zw hm).1;have l2:=Z0 (Zw hm).2.1;have l3:=Z0 (Zw hm).2.2;exact⟨a,b,n,l,e,⟨a',b',e',Z3l r1 m1 (by omega),Z5k r2 m2⟩,Z1b h2 (by omega),Z1b h3 (by omega)⟩
theorem Zzo {ok:Qas->Prop}{W:Qaq}{g:Nat}{t:Qat}{a b c d e:Qar}{p:Qas}(hz:W.heap[g]? = some (.cells #[a,b,c,d,e] t (0,0))) (ha:∀ u∈[a,b,c,d,e],∀ (ad:Qas) (n k:Nat),u≠.slice (some ad) n k) (hp:Wd ok W p):p.block≠g:=fun ep=>by
 have hcell:∀ q:Qas,q.block=p.block->∀ u,W.cell? q=some u->q.off<5/\u∈[a,b,c,d,e]:=fun q hq u hc=>by
  unfold Qy at hc;rw[hq,ep,hz] at hc
  dsimp only at hc
  split at hc
  ·cases hc
  ·obtain⟨hlt,hu⟩:=Qj.1 hc
   refine⟨by simpa using hlt,?_⟩;rw[<- hu];exact Pm.2 (Pa hlt)
 rcases hp.2 with ⟨q,hq,h5,hn⟩ | ⟨q,ad,n,k,hq,hc⟩
 ·obtain⟨u,hu⟩:=Option.ne_none_iff_exists'.1 hn
  have:=(hcell q hq u hu).1;omega
 ·exact ha _ (hcell q hq _ hc).2 ad n k rfl
theorem Zqx (s:Rm) (l:Nat) (a:Int) (k tb:Ky) (ends:Bool):Yn s l a k tb ends=((decide (rmE s a=0)&&decide ((rmV s a).1=(l:Int)))&&(Uu (rmV s a).2 k tb ends&&Ub s (rmV s a) tb ends)):=by{
 by_cases h:(rmV s a).1=(l:Int)
 ·cases l with
  | zero=>rw[Zj8 h];rfl
  | succ l=>rw[Zjq h];rfl
 ·cases l with
  | zero =>
   have h':¬ (rmV s a).1=0:=h;simp[Yn,h']
  | succ l =>
   have h':¬ (rmV s a).1=((l:Nat):Int)+1:=by simpa using h
   simp[Yn,h']}
theorem Z07 {s:Rm}{l:Nat}{a:Int}{k tb:Ky}{ends:Bool}(h:¬ (rmE s a=0/\(rmV s a).1=(l:Int)/\Uu (rmV s a).2 k tb ends=true)):Yn s l a k tb ends=false:=by
 rw[Zqx];by_cases h1:rmE s a=0 <;> by_cases h2:(rmV s a).1=(l:Int) <;> by_cases h3:Uu (rmV s a).2 k tb ends=true <;> simp_all
theorem Zxb {s:Rm}{l:Nat}{a:Int}{k tb:Ky}{ends:Bool}(h1:rmE s a=0) (h2:(rmV s a).1=(l:Int)) (h3:Uu (rmV s a).2 k tb ends=true):Yn s l a k tb ends=Ub s (rmV s a) tb ends:=by
 rw[Zqx,h1,h2,h3];simp
theorem Z4i {l:List It}{k tb:Ky}{ends:Bool}{x:It}(hx:l[0]? = some x) (h:x.1≠k):¬ Uu l k tb ends=true:=by
 unfold Uu;rw[hx];simp[h]
theorem Zz2 {l:List It}{k tb:Ky}{ends:Bool}(h:l.length=0):¬ Uu l k tb ends=true:=by
 rw[Pu h];simp[Uu]
theorem Zwb {l:List It}{k tb:Ky}{x:It}(hx:l[0]? = some x) (h:x.1=k):Uu l k tb false=true:=by
 unfold Uu;rw[hx];simp[h]
theorem Zv1 {l:List It}{k tb:Ky}{x y:It}{j:Nat}(hx:l[0]? = some x) (h:x.1=k) (hj:l.length=j+1) (hy:l[j]? = some y):Uu l k tb true=Zq y.1 tb:=by
 unfold Uu;have:l.getLast? = some y:=by rw[P8,hj];exact hy
 rw[hx,this];simp[h]
theorem Zt3 (s:Rm) (hm:Yp s=true) (l0:Nat) (hin:Zlo s l0):Zpc s l0:=by{
 intro v a fr tb ends w h;obtain⟨A,ca,B,cb,N,cn,L,cl,rfl,_⟩:=id h.open;obtain⟨nd,hnd⟩:∃ q,rmV s a=q:=⟨_,rfl⟩
 obtain⟨lw,hlw⟩:∃ q,nd.1=q:=⟨_,rfl⟩
 obtain⟨l,hl⟩:∃ q,nd.2=q:=⟨_,rfl⟩
 obtain⟨m,hlm⟩:∃ q,l.length=q:=⟨_,rfl⟩
 obtain⟨es,hes⟩:∃ q,(rmE s a==0)=q:=⟨_,rfl⟩
 have hRd:Hid (∀ v W,Sto (Old W) W v s->Qaw Tryz.prog 59 #[v,.int .i64 a] W fun e w'=>∃ Z zc,e=.returned (.tuple #[.agg #[.int .i64 lw,.slice Z m zc],.bool es])/\Y6 (Old w') w' [.slice Z m zc] l/\Nod (Old w') w' (.agg #[.int .i64 lw,.slice Z m zc]) nd/\Qax W.heap.size W w'):=Za fun v W hW=>by
  refine(Zgm v s a hm W hW).mono ?_;rintro e w' ⟨u,rfl,hu,hb'⟩;rw[hnd] at hu;have hu2:=hu.drop;obtain⟨Z,zc,rfl,_,_,_,hA⟩:=hu.drop.open;rw[hlw,hl,hlm] at hu2;rw[hlw,hl,hlm,hes];rw[hl,hlm] at hA;exact⟨Z,zc,rfl,hA,hu2,hb'⟩
 obtain⟨R0,hR0⟩:∃ q,Yn s l0 a fr tb ends=q:=⟨_,rfl⟩
 have hno:=Za (fun hh=>hR0.symm.trans (Z07 (s:=s) (l:=l0) (a:=a) (k:=fr) (tb:=tb) (ends:=ends) hh));have hyes:=Za (fun h1 h2 h3=>hR0.symm.trans (Zxb (s:=s) (l:=l0) (a:=a) (k:=fr) (tb:=tb) (ends:=ends) h1 h2 h3));rw[hnd,hlw,hl] at hno hyes;have hmy:=Za (fun hh=>(Yu (s:=s) (a:=a) hh).1);rw[hnd] at hmy;rw[hR0];have HG0:Bag w [Zbu (.agg #[.slice A s.1.1.length ca,.slice B s.1.2.length cb,.slice N s.2.1.length cn,.slice L s.2.2.length cl]) s]:=(Bag.nil w).add (F:=Zbu _ s) h (Yj _ _);obtain⟨w0,hw0,hg0,hB0,_,hs0⟩:=Xd HG0 (Qb _ _) (.slice A s.1.1.length ca) (.slice B s.1.2.length cb) (.slice N s.2.1.length cn) (.slice L s.2.2.length cl) 29;obtain⟨w1,hw1,hg1,hB1,_,hs1⟩:=V9 hg0 (Qb _ _) (.int .u8 (fr.1.toNat:Int)) (.int .u32 fr.2.1) (.int .u32 fr.2.2);obtain⟨w2,hw2,hg2,hB2,_,hs2⟩:=V9 hg1 (Qb _ _) (.int .u8 (tb.1.toNat:Int)) (.int .u32 tb.2.1) (.int .u32 tb.2.2);have HG:=Za hg2;have BB:=Za ((hB0.trans (hB1.mono hB0.size)).trans (hB2.mono (hB0.trans (hB1.mono hB0.size)).size));have k2:Hid (Sto (Old w2) w2 (.agg #[.slice A s.1.1.length ca,.slice B s.1.2.length cb,.slice N s.2.1.length cn,.slice L s.2.2.length cl]) s):=Za (HG.out.at 3 rfl);obtain⟨s0,s1,s2,s3,_⟩:=HG.out.at 2 rfl;replace hs2:=Za hs2;replace hs1:=Za hs1;replace hs0:=Za hs0;replace hR0:=Za hR0;clear HG0 hg2 hg1 hg0 h hB2 hB1 hB0;unfold kyV
 go_enter Tryz.func136,Tryz.ntmps136
 go_upto_region 1 with fail
 clear hw0 hw1 hw2
 go_wp2_with fail
 with_reducible refine(hRd.out _ _ k2.out).mono ?_
 rintro e w3 ⟨Z,zc,rfl,h3,h3n,hb3⟩;obtain⟨w4,hw4,hg4,hb4,-,hs4⟩:=Xa (((HG.out.below hb3).add (F:=Zb8 _ l) h3 (Yz _ _)).add (F:=Zuk _ nd) h3n (Vh _ _)) (Qb _ _) (.int .i64 lw) (.slice Z m zc);replace HG:=Za hg4;replace BB:=Za (BB.out.trans ((hb3.trans (hb4.mono hb3.size)).mono BB.out.size));replace hs4:=Za hs4;clear hg4 hb4 hb3 h3 h3n k2 s0 s1 s2 s3 hRd
 go_upto_region 2 with fail
 clear hw4;obtain⟨y0,y1,_⟩:=HG.out.at 0 rfl;obtain⟨f0,f1,f2,_⟩:=HG.out.at 4 rfl;by_cases he:rmE s a=0
 case neg =>
  have e1:es=false:=by rw[<- hes];simpa using he
  have hf:=Za (hno.out (fun hh=>he hh.1));subst e1;replace hes:=Za hes;clear he
  go_quiet (fail)
  go_wp2_with fail
  go_ret;exact⟨Zk hf.out.symm,Z3 BB.out _⟩
 have e1:es=true:=by rw[<- hes,he];rfl
 subst e1;have hmn:=Za (hmy.out he);have hm5:m<=5:=by
  have:=(Zs hmn.out).1.2.2.1;rw[hl,hlm] at this;exact this
 replace hes:=Za hes;replace hnd:=Za hnd;replace hlw':=Za hlw;clear hlw;replace hl:=Za hl;replace hlm:=Za hlm;by_cases hlv:lw=(l0:Int)
 case neg =>
  have c1:(lw != (l0:Int))=true:=by simpa using hlv
  have hf:=Za (hno.out (fun hh=>hlv hh.2.1));clear hlv he
  go_quiet (fail)
  go_wp2_with fail
  go_ret;exact⟨Zk hf.out.symm,Z3 BB.out _⟩
 have c1:(lw != (l0:Int))=false:=by simp[hlv]
 by_cases hm0:m=0
 ·have hf:=Za (hno.out (fun hh=>Zz2 (by rw[hlm.out];exact hm0) hh.2.2))
  have c2:((m:Int)==0)=true:=by simp[hm0]
  subst hm0;clear hlv he
  go_quiet (fail)
  go_wp2_with fail
  go_ret;exact⟨Zk hf.out.symm,Z3 BB.out _⟩
 have c2:((m:Int)==0)=false:=by simpa using hm0
 obtain⟨x,hx0⟩:∃ x,l[0]? = some x:=⟨_,Qc (by rw[hlm.out];omega)⟩
 have hIt:Y6 (Old w4) w4 [.slice Z m zc] l:=HG.out.at 2 rfl;obtain⟨ad,E5,ce5,rfl,_,FX⟩:=Za3 hIt hx0;obtain⟨⟨z0,z1,z2,_,_⟩,_⟩:=FX w4 (Qb _ _);have hke:=Zmr x.1 fr;have hkg:=Zcv;unfold kyV at hke;have i0:(0:Int)<(m:Int):=by omega
 have i00:0<m:=by omega
 have i01:m≠0:=hm0;by_cases hkk:x.1=fr
 case neg =>
  have hf:=Za (hno.out (fun hh=>Z4i hx0 hkk hh.2.2));have c3:decide (x.1=fr)=false:=by simpa using hkk
  rw[c3] at hke;replace hx0:=Za hx0;clear hlv he hkk hIt FX hm0
  go_quiet (fail)
  go_wp2_with fail
  go_ret;exact⟨Zk hf.out.symm,Z3 BB.out _⟩
 have c3:decide (x.1=fr)=true:=by simpa using hkk
 rw[c3] at hke;have hlv2:=Za (show nd.1=(l0:Int) by rw[hlw'.out,hlv]);have FX':=Za (fun W (hW:Qax w4.heap.size w4 W)=>(FX W hW).1);have hx:=Za hx0;have hyes':=Za (fun hh=>hyes.out he hlv hh);have hno':=Za (fun(hh:¬ Uu l fr tb ends=true)=>hno.out (fun h3=>hh h3.2.2));clear hyes hno hmy FX;clear z0 z1 z2 f0 f1 f2 y0 y1;refine wp_region_fx (by kernel_rfl) (fun W=>Qax w4.heap.size w4 W) (fun _=>none) (fun _=>none) (by kernel_rfl) (Qb _ _).drew (fun w w' h hb=>h.trans (hb.mono h.size)) (fun j φ x W W' hp=>by cases hp) ?_
 repeat (first
  | (refine wpAs_skip rfl ?_;simp only[Qa,Zb,Zc,Zd])
  | (refine wpAs_pure (v := ?_) rfl rfl ?_ ?_;rotate_left;(intro W hC hE;clear hE;(have HW:=HG.out.below hC;obtain⟨y0,y1,_⟩:=HW.at 0 rfl;obtain⟨f0,f1,f2,_⟩:=HW.at 4 rfl;clear HW;obtain⟨z0,z1,z2,_,_⟩:=FX'.out W hC);clear hC;go_simp;first | done | with_reducible rfl);simp only[Qa,Zb,Zc,Zd]))
 refine wpAs_end fun W5 hC hE=> ?_
 have H5:=Za (HG.out.below hC);have B5:=Za (BB.out.trans (hC.mono BB.out.size));have FX5:=Za (fun W (hW:Qax W5.heap.size W5 W)=>FX'.out W (hC.trans (hW.mono hC.size)));clear hE hC HG BB FX'
 go_wp2_with fail
 clear c1 c2 c3 hkg hke;obtain⟨j,hj⟩:∃ j,m=j+1:=⟨m-1,by omega⟩
 obtain⟨y,hy0⟩:∃ y,l[j]? = some y:=⟨_,Qc (by rw[hlm.out];omega)⟩
 cases ends with
 | false =>
  have hf:=Za (hyes'.out (Zwb hx.out hkk)).symm;clear hyes' hy0;replace hj:=Za hj;replace hlv:=Za hlv;refine wp_region_fx (by kernel_rfl) (fun W=>Qax W5.heap.size W5 W) (fun _=>none) (fun _=>none) (by kernel_rfl) (Qb _ _).drew (fun w w' h hb=>h.trans (hb.mono h.size)) (fun j φ x W W' hp=>by cases hp) ?_
  iterate 1 (first
   | (refine wpAs_skip rfl ?_;simp only[Qa,Zb,Zc,Zd])
   | (refine wpAs_pure (v := ?_) rfl rfl ?_ ?_;rotate_left;(intro W hC hE;clear hE;skip;clear hC;go_simp;with_reducible rfl);simp only[Qa,Zb,Zc,Zd]))
  refine Zx (v:=.bool false) 12 rfl rfl rfl ?_ (by kernel_rfl) ?_
  ·intro W hC hE
   clear hE hC
   first
    | (go_simp;done)
    | (go_simp;simp;omega)
    | (go_simp;simp_all;done)
  simp only[Zbe,Qa,Qu,Qk,List.setIfInBounds_toArray,List.set_cons_zero,List.set_cons_succ]
  iterate 1 (first
   | (refine wpAs_skip rfl ?_;simp only[Qa,Zb,Zc,Zd])
   | (refine wpAs_pure (v := ?_) rfl rfl ?_ ?_;rotate_left;(intro W hC hE;clear hE;skip;clear hC;go_simp;with_reducible rfl);simp only[Qa,Zb,Zc,Zd]))
  refine wpAs_end fun W6 hC hE=> ?_
  have H6:=Za (H5.out.below hC);have B6:=Za (B5.out.trans (hC.mono B5.out.size));clear hE hC H5 B5;obtain⟨s0,s1,s2,s3,_⟩:=H6.out.at 5 rfl;obtain⟨g0,g1,g2,_⟩:=H6.out.at 3 rfl;obtain⟨y0,y1,_⟩:=H6.out.at 0 rfl;have k1:Hid (Nod (Old W6) W6 (.agg #[.int .i64 lw,.slice (some ad) m zc]) nd):=Za (H6.out.at 1 rfl);have k2:Hid (Sto (Old W6) W6 (.agg #[.slice A s.1.1.length ca,.slice B s.1.2.length cb,.slice N s.2.1.length cn,.slice L s.2.2.length cl]) s):=Za (H6.out.at 6 rfl);have hcall:=Za (hin _ _ nd tb false W6 hmn.out hlv2.out k2.out k1.out)
  go_wp2_with fail
  with_reducible refine hcall.out.mono ?_
  rintro e w7 ⟨rfl,hb7⟩;have B7:=Za (B6.out.trans (hb7.mono B6.out.size));clear hb7
  go_wp2_with fail
  go_ret;exact⟨Zk hf.out,B7.out⟩
 | true =>
  have hIt5:Y6 (Old W5) W5 [.slice (some ad) m zc] l:=H5.out.at 2 rfl;obtain⟨ad',E6,ce6,e6,_,_,_,FY⟩:=Y4 hIt5 hy0;cases e6;have FY':=Za (fun W (hW:Qax W5.heap.size W5 W)=>(FY W hW).1);have hhead:=Za (Zv1 (tb:=tb) hx.out hkk (by rw[hlm.out];exact hj) hy0);have i6:(m:Int)-1=(j:Int):=by omega
  have i7:(j:Int)<(m:Int):=by omega
  have i8:(0:Int)<=(j:Int):=by omega
  have i9:IntKind.i64.wrap (j:Int)=(j:Int):=Qp _ (by omega);replace hj:=Za hj;replace hlv:=Za hlv;clear FY hIt5 hIt FX5 hy0;obtain⟨q,hq⟩:∃ q,Zq y.1 tb=q:=⟨_,rfl⟩
  rw[hq] at hhead;replace hq:=Za hq
  refine wp_region_fx (by kernel_rfl) (fun W=>Qax W5.heap.size W5 W) (fun _=>none) (fun i=>match i with
   | 12=>some (.bool q)
   | _=>none) (by kernel_rfl) (Qb _ _).drew (fun w w' h hb=>h.trans (hb.mono h.size)) (fun j φ x W W' hp=>by cases hp) ?_
  repeat (first
   | (refine wpAs_skip rfl ?_;simp only[Qa,Zb,Zc,Zd])
   | (refine wpAs_pure (v := ?_) rfl rfl ?_ ?_;rotate_left;(intro W hC hE;clear hE;(have HW:=H5.out.below hC;obtain⟨y0,y1,_⟩:=HW.at 0 rfl;obtain⟨g0,g1,g2,_⟩:=HW.at 3 rfl;clear HW;obtain⟨z0,z1,z2,_,_⟩:=FY'.out W hC);clear hC;go_simp;first | done | with_reducible rfl);simp only[Qa,Zb,Zc,Zd]))
  refine wpAs_fixed rfl rfl rfl ?_ ?_
  ·intro W hC hE
   refine does_enter (f:=60) (args:=#[kyV y.1,kyV tb]) ?_ ?_
   ·go_simp
   ·refine(Uo y.1 tb W).mono ?_
    (rintro e W' ⟨rfl,hg⟩;rw[hq.out])
    exact⟨_,rfl,rfl,hg⟩
  simp only[Qa,Zb,Zc,Zd]
  repeat (first
   | (refine wpAs_skip rfl ?_;simp only[Qa,Zb,Zc,Zd])
   | (refine wpAs_pure (v := ?_) rfl rfl ?_ ?_;rotate_left;(intro W hC hE;clear hE;skip;clear hC;go_simp;first | done | with_reducible rfl);simp only[Qa,Zb,Zc,Zd]))
  refine wpAs_end fun W6 hC hE=> ?_
  have H6:=Za (H5.out.below hC);have B6:=Za (B5.out.trans (hC.mono B5.out.size));clear hE hC H5 B5 FY' i6 i7 i8 i9;cases q with
  | false =>
   have hf:=Za (hno'.out (by rw[hhead.out];simp))
   go_wp2_with fail
   go_ret;exact⟨Zk hf.out.symm,B6.out⟩
  | true =>
   have hf:=Za (hyes'.out hhead.out).symm;obtain⟨s0,s1,s2,s3,_⟩:=H6.out.at 5 rfl;obtain⟨g0,g1,g2,_⟩:=H6.out.at 3 rfl;obtain⟨y0,y1,_⟩:=H6.out.at 0 rfl;have k1:Hid (Nod (Old W6) W6 (.agg #[.int .i64 lw,.slice (some ad) m zc]) nd):=Za (H6.out.at 1 rfl);have k2:Hid (Sto (Old W6) W6 (.agg #[.slice A s.1.1.length ca,.slice B s.1.2.length cb,.slice N s.2.1.length cn,.slice L s.2.2.length cl]) s):=Za (H6.out.at 6 rfl);have hcall:=Za (hin _ _ nd tb true W6 hmn.out hlv2.out k2.out k1.out)
   go_wp2_with fail
   with_reducible refine hcall.out.mono ?_
   rintro e w7 ⟨rfl,hb7⟩;have B7:=Za (B6.out.trans (hb7.mono B6.out.size));clear hb7
   go_wp2_with fail
   go_ret;exact⟨Zk hf.out,B7.out⟩}
theorem Zp5 (s:Rm) (hm:Yp s=true):∀ l:Nat,Zlo s l/\Zpc s l:=by{
 intro l
 induction l using Qac with
 | ind l ih =>
  have h1:Zlo s l:=Zte s hm l fun j hj=>(ih j (by omega)).2
  exact⟨h1,Zt3 s hm l h1⟩}
theorem V7 (v:Qar) (s:Rm) (a:Int) (hm:Yp s=true) (w:Qaq) (h:Sto (Old w) w v s) :
  Qaw Tryz.prog 59 #[v,.int .i64 a] w fun e w'=>∃ Z zc,e=.returned (.tuple #[.agg #[.int .i64 (rmV s a).1,.slice Z (rmV s a).2.length zc],.bool (rmE s a==0)])/\Y6 (Old w') w' [.slice Z (rmV s a).2.length zc] (rmV s a).2 /\
   Nod (New w.heap.size w') w' (.agg #[.int .i64 (rmV s a).1,.slice Z (rmV s a).2.length zc]) (rmV s a)/\Qax w.heap.size w w':=by
 refine(Zgm v s a hm w h).mono ?_;rintro e w' ⟨u,rfl,hu,hb'⟩;have hu2:=hu;obtain⟨Z,zc,rfl,_,_,_,hA⟩:=hu.drop.open;exact⟨Z,zc,rfl,hA,hu2,hb'⟩
theorem Zfu (v:Qar) (s:Rm) (a:Int) (w:Qaq) (h:Sto (Old w) w v s) :
  Qaw Tryz.prog 36 #[v,.int .i64 a] w fun e w'=>∃ Z zc,e=.returned (.tuple #[.agg #[.int .i64 (rmV s a).1,.slice Z (rmV s a).2.length zc],.int .i64 (rmE s a)])/\Y6 (Old w') w' [.slice Z (rmV s a).2.length zc] (rmV s a).2 /\
   Nod (New w.heap.size w') w' (.agg #[.int .i64 (rmV s a).1,.slice Z (rmV s a).2.length zc]) (rmV s a)/\Qax w.heap.size w w':=by
 refine(Zm7 v s a w h).mono ?_;rintro e w' ⟨u,rfl,hu,hb'⟩;have hu2:=hu;obtain⟨Z,zc,rfl,_,_,_,hA⟩:=hu.drop.open;exact⟨Z,zc,rfl,hA,hu2,hb'⟩
theorem Z1y {s:Rm}{a:Int}(h:Vb s a=false):fnH s a = -1:=by rw[fnH,h];rfl
theorem Zw4 {s:Rm}{a:Int}(h:Vb s a=true):fnH s a=(rmV s a).1+1:=by rw[fnH,h];rfl
theorem Zyf {s:Rm}{a:Int}(h:rmE s a≠0):Vb s a=false:=by simp[Vb,h]
theorem Z2y {s:Rm}{a:Int}(h:rmE s a=0):Vb s a=Ub s (rmV s a) Zgt false:=by simp[Vb,h]
theorem Zql (v:Qar) (s:Rm) (a:Int) (hm:Yp s=true) (w:Qaq) (h:Sto (Old w) w v s) :
  Qaw Tryz.prog 58 #[v,.int .i64 a] w fun e w'=>e=.returned (.int .i64 (fnH s a))/\Qax w.heap.size w w':=by{
 obtain⟨A,ca,B,cb,N,cn,L,cl,rfl,_⟩:=id h.open;have hRd:=Za (fun v W hW=>V7 v s a hm W hW);have hno:=Za (fun hh=>Z1y (s:=s) (a:=a) hh);have hyes:=Za (fun hh=>Zw4 (s:=s) (a:=a) hh);have htn:=Za (fun hh=>Zyf (s:=s) (a:=a) hh);have hti:=Za (fun hh=>Z2y (s:=s) (a:=a) hh);have hmy:=Za (fun hh=>(Yu (s:=s) (a:=a) hh).1);obtain⟨nd,hnd⟩:∃ q,rmV s a=q:=⟨_,rfl⟩
 obtain⟨R0,hR0⟩:∃ q,fnH s a=q:=⟨_,rfl⟩
 rw[hnd] at hRd hyes hti hmy;rw[hR0] at hno hyes ⊢;obtain⟨lw,hlw⟩:∃ q,nd.1=q:=⟨_,rfl⟩
 obtain⟨l,hl⟩:∃ q,nd.2=q:=⟨_,rfl⟩
 obtain⟨m,hlm⟩:∃ q,l.length=q:=⟨_,rfl⟩
 obtain⟨es,hes⟩:∃ q,(rmE s a==0)=q:=⟨_,rfl⟩
 rw[hlw,hl,hlm,hes] at hRd;rw[hlw] at hyes;have HG0:Bag w [Zbu (.agg #[.slice A s.1.1.length ca,.slice B s.1.2.length cb,.slice N s.2.1.length cn,.slice L s.2.2.length cl]) s]:=(Bag.nil w).add (F:=Zbu _ s) h (Yj _ _);obtain⟨w0,hw0,hg0,hB0,_,hs0⟩:=Xd HG0 (Qb _ _) (.slice A s.1.1.length ca) (.slice B s.1.2.length cb) (.slice N s.2.1.length cn) (.slice L s.2.2.length cl) 29;have HG:=Za hg0;have BB:=Za hB0;have k2:Hid (Sto (Old w0) w0 (.agg #[.slice A s.1.1.length ca,.slice B s.1.2.length cb,.slice N s.2.1.length cn,.slice L s.2.2.length cl]) s):=Za (HG.out.at 1 rfl);obtain⟨s0,s1,s2,s3,_⟩:=HG.out.at 0 rfl;replace hs0:=Za hs0;replace hR0:=Za hR0;clear HG0 hg0 h hB0
 go_enter Tryz.func58,Tryz.ntmps58
 go_upto_region 1 with fail
 clear hw0
 go_wp2_with fail
 with_reducible refine(hRd.out _ _ k2.out).mono ?_
 rintro e w3 ⟨Z,zc,rfl,h3,h3n,hb3⟩;obtain⟨w4,hw4,hg4,hb4,-,hs4⟩:=Xa (((HG.out.below hb3).add (F:=Zb8 _ l) h3 (Yz _ _)).add (F:=Zuk _ nd) h3n.drop (Vh _ _)) (Qb _ _) (.int .i64 lw) (.slice Z m zc);replace HG:=Za hg4;replace BB:=Za (BB.out.trans ((hb3.trans (hb4.mono hb3.size)).mono BB.out.size));replace hs4:=Za hs4;clear hg4 hb4 hb3 h3 h3n k2 s0 s1 s2 s3 hRd
 go_upto_region 2 with fail
 clear hw4;obtain⟨y0,y1,_⟩:=HG.out.at 0 rfl;obtain⟨f0,f1,f2,f3,_⟩:=HG.out.at 3 rfl;have k1:Hid (Nod (Old w4) w4 (.agg #[.int .i64 lw,.slice Z m zc]) nd):=Za (HG.out.at 1 rfl);have k2:Hid (Sto (Old w4) w4 (.agg #[.slice A s.1.1.length ca,.slice B s.1.2.length cb,.slice N s.2.1.length cn,.slice L s.2.2.length cl]) s):=Za (HG.out.at 4 rfl);by_cases he:rmE s a=0
 case neg =>
  have e1:es=false:=by rw[<- hes];simpa using he
  have hf:=Za (hno.out (htn.out he));subst e1;replace hes:=Za hes;replace hnd:=Za hnd;replace hlw:=Za hlw;replace hl:=Za hl;replace hlm:=Za hlm;clear he
  go_wp2_with fail
  go_ret;exact⟨Zv hf.out.symm,BB.out⟩
 have e1:es=true:=by rw[<- hes,he];rfl
 subst e1;have hmn:=Za (hmy.out he);have hti0:=Za (hti.out he);obtain⟨q,hq⟩:∃ q,Ub s nd Zgt false=q:=⟨_,rfl⟩
 rw[hq] at hti0;have hsh:=(Zs hmn.out).1;rw[hlw] at hsh;obtain⟨g0,g6,_⟩:=hsh
 have hcall:Hid (Qaw Tryz.prog 100 #[.agg #[.slice A s.1.1.length ca,.slice B s.1.2.length cb,.slice N s.2.1.length cn,.slice L s.2.2.length cl],.agg #[.int .i64 lw,.slice Z m zc],.agg #[.int .u8 0,.int .u32 0,.int .u32 0],.bool false] w4 fun e w'=>e=.returned (.bool q)/\Qax w4.heap.size w4 w'):=Za (by
  have:=(Zp5 s hm nd.1.toNat).1 _ _ nd Zgt false w4 hmn.out (by rw[hlw];omega) k2.out k1.out;rw[hq] at this
  exact this)
 have i9:IntKind.i64.wrap (lw+1)=lw+1:=Qp _ (by omega);replace hes:=Za hes;replace hnd:=Za hnd;replace hlw:=Za hlw;replace hl:=Za hl;replace hlm:=Za hlm;replace hq:=Za hq;clear he
 go_wp2_with fail
 with_reducible refine hcall.out.mono ?_
 rintro e w5 ⟨rfl,hb5⟩;have HG5:=Za (HG.out.below hb5);have B5:=Za (BB.out.trans (hb5.mono BB.out.size));clear hb5 y0 y1 f0 f1 f2 f3;obtain⟨y0,y1,_⟩:=HG5.out.at 0 rfl;cases q with
 | false =>
  have hf:=Za (hno.out hti0.out)
  go_wp2_with fail
  go_ret;exact⟨Zv hf.out.symm,B5.out⟩
 | true =>
  have hf:=Za (hyes.out hti0.out)
  go_wp2_with fail
  go_ret;exact⟨Zv hf.out.symm,B5.out⟩}
theorem Z3k {s:Rm}{a:Int}(h:asE s a≠0):ckE s a=asE s a/\ckH s a=0:=by
 have e:ckE s a=asE s a:=by rw[ckE,if_neg h]
 exact⟨e,by rw[ckH,e,if_neg h]⟩
theorem Zn0 {s:Rm}{a:Int}(h:asE s a=0) (ht:Vb s a=false):ckE s a=8/\ckH s a=0:=by
 have e:ckE s a=8:=by rw[ckE,if_pos h,ht];rfl
 exact⟨e,by rw[ckH,e,if_neg (by decide)]⟩
theorem Zz0 {s:Rm}{a:Int}(h:asE s a=0) (ht:Vb s a=true):ckE s a=0/\ckH s a=(rmV s a).1+1:=by
 have e:ckE s a=0:=by rw[ckE,if_pos h,ht];rfl
 exact⟨e,by rw[ckH,e,if_pos rfl]⟩
theorem Zzz {s:Rm}{a:Int}(h:ckE s a=0):Vb s a=true/\asE s a=0/\ckH s a=(rmV s a).1+1:=by{
 by_cases ha:asE s a=0
 ·cases ht:Vb s a with
  | false=>rw[(Zn0 ha ht).1] at h;cases h
  | true=>exact⟨rfl,ha,(Zz0 ha ht).2⟩
 ·rw[(Z3k ha).1] at h
  exact absurd h ha}
theorem Zkx (v:Qar) (s:Rm) (a:Int) (w:Qaq) (h:Sto (Old w) w v s) :
  Qaw Tryz.prog 32 #[v,.int .i64 a] w fun e w'=>e=.returned (.tuple #[.int .i64 (ckH s a),.int .i64 (ckE s a)])/\Qax w.heap.size w w':=by{
 obtain⟨A,ca,B,cb,N,cn,L,cl,rfl,_⟩:=id h.open;have HG0:Bag w [Zbu (.agg #[.slice A s.1.1.length ca,.slice B s.1.2.length cb,.slice N s.2.1.length cn,.slice L s.2.2.length cl]) s]:=(Bag.nil w).add (F:=Zbu _ s) h (Yj _ _);obtain⟨w0,hw0,hg0,hB0,_,hs0⟩:=Xd HG0 (Qb _ _) (.slice A s.1.1.length ca) (.slice B s.1.2.length cb) (.slice N s.2.1.length cn) (.slice L s.2.2.length cl) 29;have HG:=Za hg0;have BB:=Za hB0;have k2:Hid (Sto (Old w0) w0 (.agg #[.slice A s.1.1.length ca,.slice B s.1.2.length cb,.slice N s.2.1.length cn,.slice L s.2.2.length cl]) s):=Za (HG.out.at 1 rfl);obtain⟨s0,s1,s2,s3,_⟩:=HG.out.at 0 rfl;replace hs0:=Za hs0;clear HG0 hg0 h hB0;have hkn:=Za (fun hh=>Z3k (s:=s) (a:=a) hh);have hkb:=Za (fun hh hh'=>Zn0 (s:=s) (a:=a) hh hh');have hko:=Za (fun hh hh'=>Zz0 (s:=s) (a:=a) hh hh');obtain⟨E0,hE0⟩:∃ q,ckE s a=q:=⟨_,rfl⟩
 obtain⟨H0,hH0⟩:∃ q,ckH s a=q:=⟨_,rfl⟩
 rw[hE0,hH0] at hkn hkb hko;rw[hE0,hH0];replace hE0:=Za hE0;replace hH0:=Za hH0;rcases Zcu s a with ⟨hm,e⟩ | ⟨hm,hn,e⟩ | ⟨k,hm,rfl,h8,h256,hx,e⟩ | ⟨k,hm,rfl,h8,h256,hx,e⟩
 ·have hf:=Za (hkn.out (by rw[e];decide))
  rw[e] at hf;replace e:=Za e
  go_enter Tryz.func32,Tryz.ntmps32
  go_upto_region 1 with fail
  clear hw0
  go_wp2_with fail
  with_reducible refine(Zac _ s _ k2.out).mono ?_
  rintro e w1 ⟨rfl,hb1⟩;rw[hm];have B1:=Za (BB.out.trans (hb1.mono BB.out.size));clear hb1
  go_wp2_with fail
  go_ret2
  exact⟨by rw[hf.out.1,hf.out.2];rfl,B1.out⟩
 ·have hf:=Za (hkn.out (by rw[e];decide))
  rw[e] at hf;replace e:=Za e;by_cases h8:a<8
  ·clear hn
   go_enter Tryz.func32,Tryz.ntmps32
   go_upto_region 1 with fail
   clear hw0
   go_wp2_with fail
   with_reducible refine(Zac _ s _ k2.out).mono ?_
   rintro e w1 ⟨rfl,hb1⟩;rw[hm];have B1:=Za (BB.out.trans (hb1.mono BB.out.size));clear hb1
   go_wp2_with fail
   go_ret2
   exact⟨by rw[hf.out.1,hf.out.2];rfl,B1.out⟩
  ·have h9:256<=a:=by omega
   clear hn
   go_enter Tryz.func32,Tryz.ntmps32
   go_upto_region 1 with fail
   clear hw0
   go_wp2_with fail
   with_reducible refine(Zac _ s _ k2.out).mono ?_
   rintro e w1 ⟨rfl,hb1⟩;rw[hm];have B1:=Za (BB.out.trans (hb1.mono BB.out.size));clear hb1
   go_wp2_with fail
   go_ret2
   exact⟨by rw[hf.out.1,hf.out.2];rfl,B1.out⟩
 all_goals
  obtain⟨ad,bd,rfl,rfl,hl1,-,-,-,had,-,hc⟩:=Vr hm k2.out.parts.2.1 k2.out.parts.2.2;have HC:=Za (fun W (hb:Qax w0.heap.size w0 W)=>(hb.cell (p:=ad.add k) (by rw[Zh];exact had)).trans (hc k h256).1);have i1:¬ (k:Int)<8:=by omega
  have i2:¬ 256<=(k:Int):=by omega
  have i3:k<s.2.1.length:=by omega
  have i5:(0:Int)<=(k:Int):=by omega
  replace hl1:=Za hl1;clear hc had
 ·have hf:=Za (hkn.out (by rw[e];decide))
  rw[e] at hf;rw[hx] at HC;replace hx:=Za hx;replace e:=Za e
  go_enter Tryz.func32,Tryz.ntmps32
  go_upto_region 1 with fail
  clear hw0
  go_wp2_with fail
  with_reducible refine(Zac _ s _ k2.out).mono ?_
  rintro e w1 ⟨rfl,hb1⟩;rw[hm];have B1:=Za (BB.out.trans (hb1.mono BB.out.size));have q1:w1.cell? (ad.add k)=some (.int .u8 0):=HC.out w1 hb1;obtain⟨t0,t1,t2,t3,_⟩:=(HG.out.below hb1).at 0 rfl;clear hb1 s0 s1 s2 s3
  go_wp2_with fail
  go_ret2
  exact⟨by rw[hf.out.1,hf.out.2];rfl,B1.out⟩
 ·obtain⟨y,hy⟩:∃ y,s.2.1[k]?.getD 0=y:=⟨_,rfl⟩
  rw[hy] at HC hx;have t0:=Yf (y:=0) (q:=0) rfl hx;replace hy:=Za hy;replace hx:=Za hx;have hTr:=Za (fun v W hW=>Zql v s (k:Int) hm W hW);have hfn:=Za (fun hh=>Z1y (s:=s) (a:=(k:Int)) hh);have hfy:=Za (fun hh=>Zw4 (s:=s) (a:=(k:Int)) hh);have hlv:=Za (fun hh=>(Zby (s:=s) (a:=(k:Int)) hh).2.2.2.1);obtain⟨F,hF⟩:∃ F,fnH s (k:Int)=F:=⟨_,rfl⟩
  rw[hF] at hTr hfn hfy;replace hF:=Za hF;have he:=Za e;clear e
  go_enter Tryz.func32,Tryz.ntmps32
  go_upto_region 1 with fail
  clear hw0
  go_wp2_with fail
  with_reducible refine(Zac _ s _ k2.out).mono ?_
  rintro e w1 ⟨rfl,hb1⟩;rw[hm];have B1:=Za (BB.out.trans (hb1.mono BB.out.size));have HG1:=Za (HG.out.below hb1);have q1:w1.cell? (ad.add k)=some (.int .u8 (y.toNat:Int)):=HC.out w1 hb1;obtain⟨t0',t1,t2,t3,_⟩:=HG1.out.at 0 rfl;clear hb1 s0 s1 s2 s3
  go_wp2_with fail
  with_reducible refine(hTr.out _ _ (HG1.out.at 1 rfl)).mono ?_
  rintro e w2 ⟨rfl,hb2⟩;have B2:=Za (B1.out.trans (hb2.mono B1.out.size));clear hb2;cases ht:Vb s (k:Int) with
  | false =>
   have h1:=hfn.out ht;have hf:=Za (hkb.out he.out ht);replace ht:=Za ht;subst h1
   go_wp2_with fail
   go_ret2
   exact⟨by rw[hf.out.1,hf.out.2];rfl,B2.out⟩
  | true =>
   have h1:=hfy.out ht;have h2:=hlv.out ht;have hf:=Za (hko.out he.out ht);have hF0:¬ F<0:=by omega
   replace ht:=Za ht;replace h1:=Za h1;clear h2
   go_wp2_with fail
   go_ret2
   exact⟨by rw[hf.out.1,hf.out.2,<- h1.out];rfl,B2.out⟩}
theorem Zlc {lo:Nat}{w:Qaq}{A:Option Qas}{n c k:Nat}{xs:List It}{s:It}(h:Y6 (New lo w) w [.slice A n c] xs) (hk:xs[k]? = some s) :
  ∃ ad E ce,A=some ad/\InI s/\∀ W,Qax w.heap.size w W->At5 W (ad.add (k*5)) s (.slice E s.2.2.length ce)/\Itm (New lo W) W (itV s (.slice E s.2.2.length ce)) s:=by
 obtain⟨ad,E,ce,rfl,_,h5,hi,_,_,hin⟩:=Zao h hk;exact⟨ad,E,ce,rfl,hin,fun W hW=>⟨h5.below hW,hi.new (Qd _) hW⟩⟩
def Z23 (lo:Nat) (v:Qar) (l:List It):Qaq->Prop:=fun w=>Y6 (New lo w) w [v] l
theorem Zin (lo:Nat) (v:Qar) (l:List It):Zd3 (Z23 lo v l):=fun _ _ h hb=>Z5.new h (Qd _) hb
def Xu (g:Nat) (cs:Array Qar) (t:Qat):Qaq->Prop:=fun w=>w.heap[g]? = some (.cells cs t (0,0))
theorem Yb (g:Nat) (cs:Array Qar) (t:Qat):Zd3 (Xu g cs t):=fun _ _ h hb=>(hb.block g (Qj.1 h).1).trans h
def Z4g (s:Rm) (l:Nat):Prop:=∀ (v:Qar) (a:Int) (k:Ky) (w:Qaq),AtT s l a->Sto (Old w) w v s ->
  Qaw Tryz.prog 33 #[v,.int .i64 a,kyV k] w fun e w'=>∃ u,e=.returned (.tuple #[u,.bool (Zes s l a k).isSome])/\Itm (New w.heap.size w') w' u ((Zes s l a k).getD Zaw)/\Qax w.heap.size w w'
theorem Z0y (s:Rm) (hm:Yp s=true) (l0:Nat) (hr0:∀ j,l0=j+1->Z4g s j):Z4g s l0:=by{
 intro v a key w hat h;obtain⟨A,ca,B,cb,N,cn,L,cl,rfl,_⟩:=id h.open;have hRd:=Za (fun v W hW=>V7 v s a hm W hW);have hok:(rmE s a==0)=true:=by rw[hat.ok];rfl
 have hmn:=Za hat.may;have hlv:=hat.lvl;have hdn:=Za (fun(j:Nat) (hj:l0=j+1) (x:It) (hx:x∈(rmV s a).2)=>(by subst hj;exact hat.down hx:AtT s j x.2.1));have hR0:=Za (fun(h0:l0=0)=>(by subst h0;exact Zhg s a key:Zes s l0 a key=(rmV s a).2.reverse.find? fun x=>decide (x.1=key)));have hR1:=Za (fun(j:Nat) (hj:l0=j+1)=>(by subst hj;exact Zhu s j a key:Zes s l0 a key=((rmV s a).2.reverse.find? fun x => !Zq key x.1).bind fun x=>Zes s j x.2.1 key));obtain⟨R,hR⟩:∃ R,Zes s l0 a key=R:=⟨_,rfl⟩
 obtain⟨nd,hnd⟩:∃ q,rmV s a=q:=⟨_,rfl⟩
 rw[hok,hnd] at hRd;rw[hnd] at hmn hlv hdn hR0 hR1;rw[hR] at hR0 hR1 ⊢;obtain⟨lw,hlw⟩:∃ q,nd.1=q:=⟨_,rfl⟩
 obtain⟨l,hl⟩:∃ q,nd.2=q:=⟨_,rfl⟩
 obtain⟨m,hlm⟩:∃ q,l.length=q:=⟨_,rfl⟩
 rw[hlw,hl,hlm] at hRd;rw[hl] at hdn hR0 hR1;rw[hlw] at hlv;have hm5:m<=5:=by
  have:=(Zs hmn.out).1.2.2.1;rw[hl,hlm] at this;exact this
 have HG0:Bag w [Zbu (.agg #[.slice A s.1.1.length ca,.slice B s.1.2.length cb,.slice N s.2.1.length cn,.slice L s.2.2.length cl]) s]:=(Bag.nil w).add (F:=Zbu _ s) h (Yj _ _);obtain⟨w0,hw0,hg0,hB0,_,hs0⟩:=Xd HG0 (Qb _ _) (.slice A s.1.1.length ca) (.slice B s.1.2.length cb) (.slice N s.2.1.length cn) (.slice L s.2.2.length cl) 29;obtain⟨w1,hw1,hg1,hB1,_,hs1⟩:=V9 hg0 (Qb _ _) (.int .u8 (key.1.toNat:Int)) (.int .u32 key.2.1) (.int .u32 key.2.2);obtain⟨w2,hw2,_,_,_,_,_,hs2,hB2,G2⟩:=Z6 w1 (.int .u8 0) (.int .u32 0) (.int .u32 0) (.int .i64 0) (.slice none 0 0) 54;have HG:=Za ((hg1.below hB2).add (F:=Xu w1.heap.size _ _) G2 (Yb _ _ _));have BB:=Za ((hB0.trans (hB1.mono hB0.size)).trans (hB2.mono (hB0.trans (hB1.mono hB0.size)).size));have lo1:Hid (w.heap.size<=w1.heap.size/\w1.heap.size<w2.heap.size):=Za ⟨(hB0.trans (hB1.mono hB0.size)).size,by omega⟩;have k2:Hid (Sto (Old w2) w2 (.agg #[.slice A s.1.1.length ca,.slice B s.1.2.length cb,.slice N s.2.1.length cn,.slice L s.2.2.length cl]) s):=Za (HG.out.at 3 rfl);obtain⟨s0,s1,s2,s3,_⟩:=HG.out.at 2 rfl;replace hs2:=Za hs2;replace hs1:=Za hs1;replace hs0:=Za hs0;replace hR:=Za hR;replace hnd:=Za hnd;replace hlw:=Za hlw;replace hl:=Za hl;replace hlm:=Za hlm;replace hlv:=Za hlv;clear HG0 hg1 hg0 h hB2 hB1 hB0 G2 hat hok;unfold kyV
 go_enter Tryz.func33,Tryz.ntmps33
 go_upto_region 1 with fail
 clear hw0 hw1 hw2
 go_wp2_with fail
 with_reducible refine(hRd.out _ _ k2.out).mono ?_
 rintro e w3 ⟨Z,zc,rfl,-,h3n,hb3⟩;have h3s:Y6 (New w2.heap.size w3) w3 [.slice Z m zc] l:=by
  obtain⟨_,e,_,h⟩:=h3n;cases e;rw[hl.out] at h;exact h
 obtain⟨w4,hw4,hg4,hb4,-,hs4⟩:=Xa ((HG.out.below hb3).add (F:=Z23 w2.heap.size _ l) h3s (Zin _ _ _)) (Qb _ _) (.int .i64 lw) (.slice Z m zc);replace HG:=Za hg4;replace BB:=Za (BB.out.trans ((hb3.trans (hb4.mono hb3.size)).mono BB.out.size));have lo4:Hid (w2.heap.size<=w4.heap.size):=Za (hb3.trans (hb4.mono hb3.size)).size;replace hs4:=Za hs4;clear hg4 hb4 hb3 h3s h3n k2 s0 s1 s2 s3 hRd
 go_upto_region 2 with fail
 clear hw4;obtain⟨y0,y1,_⟩:=HG.out.at 0 rfl;have i9:IntKind.i64.wrap ((m:Int)-1)=(m:Int)-1:=Qp _ (by omega)
 go_wp2_with fail
 clear y0 y1 i9;cases l0 with
 | zero =>
  obtain⟨F,hF⟩:∃ F,(l.reverse.find? fun x=>decide (x.1=key))=F:=⟨_,rfl⟩
  have hRF:=Za ((hR0.out rfl).trans hF);have e0:lw=0:=hlv.out;subst e0;replace hF:=Za hF;clear hR0 hR1 hlv
  go_loopw [10] (fun vi wr=>∃ k:Nat,k<=m/\vi=.int .i64 ((k:Int)-1)/\((l.take k).reverse.find? fun x=>decide (x.1=key))=F/\Qax w4.heap.size w4 wr) (fun vi _=>(intOf vi+1).toNat)
  case atStart=>exact⟨m,Qd _,rfl,by rw[Qw (by rw[hlm.out];omega)];exact hF.out,Qb _ _⟩
  case round =>
   obtain⟨k,hk,hvi,hE,hbr⟩:=hrel;have HR:=Za (HG.out.below hbr);have BR:=Za hbr;clear hbr;cases k with
   | zero =>
    rw[show ((0:Nat):Int)-1 = -1 from rfl] at hvi;subst hvi;have hno:Hid (R=none):=Za (by rw[hRF.out,<- hE];rfl);replace hE:=Za hE;have G5:(wr).heap[w1.heap.size]? = _:=HR.out.at 2 rfl;have B5:=Za (BB.out.trans (BR.out.mono BB.out.size));obtain⟨W9,hW9,g9,gr9,gs9⟩:=Y5 (u0:=.int .u8 0) (u1:=.int .u32 0) (u2:=.int .u32 0) (u3:=.int .i64 0) (u4:=.slice none 0 0) G5;obtain⟨n0,n1,n2,n3,n4,_⟩:=Zl g9;obtain⟨f0,f1,f2,f3,f4,f5,_⟩:=Zl G5;have hB9:=Za (B5.out.grown gr9 B5.out.size (fun q e=>by cases e;exact lo1.out.1));replace G5:=Za G5;replace g9:=Za g9;clear gr9 gs9
    go_wp2_with fail
    refine Qau (v:=.tuple #[.agg #[.int .u8 0,.int .u32 0,.int .u32 0,.int .i64 0,.slice none 0 0],.bool false]) (by simp[results,Tryz.results33,go_sem,n0,n1,n2,n3,n4]) rfl ?_;rw[hno.out];exact⟨_,rfl,Ug _ _,hB9.out⟩
   | succ j =>
    rw[show ((j+1:Nat):Int)-1=(j:Int) by omega] at hvi;subst hvi;obtain⟨x,hx0⟩:∃ x,l[j]? = some x:=⟨_,Qc (by rw[hlm.out];omega)⟩
    rw[Zkr hx0] at hE;obtain⟨ad,E5,ce5,rfl,hin5,FX⟩:=Zlc (HR.out.at 1 rfl:Y6 (New w2.heap.size wr) wr [.slice Z m zc] l) hx0;have hke:=Zmr x.1 key;have hkg:=Zcv;unfold kyV at hke;have i4:(0:Int)<=(j:Int):=by omega
    have i5:(j:Int)<(m:Int):=by omega
    have FX':=Za FX;have c0:((0:Int)==0)=true:=rfl;clear FX;by_cases hkk:x.1=key
    ·have c3:decide (x.1=key)=true:=by simpa using hkk
     rw[c3] at hke;rw[if_pos c3] at hE;have hyes:Hid (R=some x):=Za (by rw[hRF.out,<- hE]);replace hE:=Za hE;replace hx0:=Za hx0;clear hkk;obtain⟨y0,y1,_⟩:=HR.out.at 0 rfl
     go_upto_region 5 with fail
     go_quiet (fail)
     clear y0 y1
     go_upto_region 7 with fail
     refine wp_region_fx (by kernel_rfl) (fun W=>Qax wr.heap.size wr W) (fun _=>none) (fun _=>none) (by kernel_rfl) (Z3 (Qb _ _) _).drew (fun w w' h hb=>h.trans (hb.mono h.size)) (fun j φ x W W' hp=>by cases hp) ?_
     repeat (first
      | (refine wpAs_skip rfl ?_;simp only[Qa,Zb,Zc,Zd])
      | (refine wpAs_pure (v := ?_) rfl rfl ?_ ?_;rotate_left;(intro W hC hE;clear hE;(have HW:=HR.out.below hC;obtain⟨y0,y1,_⟩:=HW.at 0 rfl;obtain⟨t0,t1,t2,_⟩:=HW.at 3 rfl;clear HW;obtain⟨⟨z0,z1,z2,_,_⟩,_⟩:=FX'.out W hC);clear hC;go_simp;first | done | with_reducible rfl);simp only[Qa,Zb,Zc,Zd]))
     refine wpAs_end fun W5 hC hE5=> ?_
     clear hE5 hke hkg c3;obtain⟨⟨z0,z1,z2,z3,z4⟩,hit⟩:=FX'.out W5 hC;have HR5:=HR.out.below hC;obtain⟨y0,y1,_⟩:=HR5.at 0 rfl;have G5:W5.heap[w1.heap.size]? = _:=HR5.at 2 rfl;have B5:=Za (BB.out.trans ((BR.out.trans (hC.mono BR.out.size)).mono BB.out.size));obtain⟨f0,f1,f2,f3,f4,f5,_⟩:=Zl G5;obtain⟨W9,hW9,g9,gr9,gs9⟩:=Y5 (u0:=.int .u8 (x.1.1.toNat:Int)) (u1:=.int .u32 x.1.2.1) (u2:=.int .u32 x.1.2.2) (u3:=.int .i64 x.2.1) (u4:=.slice E5 x.2.2.length ce5) G5;obtain⟨n0,n1,n2,n3,n4,_⟩:=Zl g9;have hfin:=Za (show Itm (New w.heap.size W9) W9 (itV x (.slice E5 x.2.2.length ce5)) x from (hit.grown gr9 (fun q e=>by cases e;exact lo1.out.2)).new (by have:=lo1.out;omega) (Qb _ _));have hB9:=Za (B5.out.grown gr9 B5.out.size (fun q e=>by cases e;exact lo1.out.1));replace G5:=Za G5;replace g9:=Za g9;clear gr9 gs9 hit HR5 hC
     go_wp2_with fail
     refine Qau (v:=.tuple #[itV x (.slice E5 x.2.2.length ce5),.bool true]) (by simp[results,Tryz.results33,go_sem,n0,n1,n2,n3,n4]) rfl ?_;rw[hyes.out];exact⟨_,rfl,hfin.out,hB9.out⟩
    ·have c3:decide (x.1=key)=false:=by simpa using hkk
     rw[c3] at hke;rw[if_neg (by rw[c3];decide)] at hE;replace hE:=Za hE;replace hx0:=Za hx0;have i9:IntKind.i64.wrap ((j:Int)-1)=(j:Int)-1:=Qp _ (by omega);clear hkk;obtain⟨y0,y1,_⟩:=HR.out.at 0 rfl
     go_upto_region 5 with fail
     go_quiet (fail)
     clear y0 y1
     go_upto_region 7 with fail
     refine wp_region_fx (by kernel_rfl) (fun W=>Qax wr.heap.size wr W) (fun _=>none) (fun _=>none) (by kernel_rfl) (Z3 (Qb _ _) _).drew (fun w w' h hb=>h.trans (hb.mono h.size)) (fun j φ x W W' hp=>by cases hp) ?_
     repeat (first
      | (refine wpAs_skip rfl ?_;simp only[Qa,Zb,Zc,Zd])
      | (refine wpAs_pure (v := ?_) rfl rfl ?_ ?_;rotate_left;(intro W hC hE;clear hE;(have HW:=HR.out.below hC;obtain⟨y0,y1,_⟩:=HW.at 0 rfl;obtain⟨t0,t1,t2,_⟩:=HW.at 3 rfl;clear HW;obtain⟨⟨z0,z1,z2,_,_⟩,_⟩:=FX'.out W hC);clear hC;go_simp;first | done | with_reducible rfl);simp only[Qa,Zb,Zc,Zd]))
     refine wpAs_end fun W5 hC hE5=> ?_
     clear hE5 hke hkg c3;have B5:=Za (BR.out.trans (hC.mono BR.out.size));clear hC
     go_wp2_with fail
     go_roundw
     case rel=>exact⟨j,by omega,rfl,hE.out,B5.out⟩
     case measure=>simp[intOf]
 | succ l1 =>
  have hrec:=Za (hr0 l1 rfl);obtain⟨F,hF⟩:∃ F,(l.reverse.find? fun x => !Zq key x.1)=F:=⟨_,rfl⟩
  have hRF:Hid (R=F.bind fun x=>Zes s l1 x.2.1 key):=Za (by rw[<- hF];exact hR1.out l1 rfl);replace hF:=Za hF;have c0:(0:Int)<lw:=by have:=hlv.out;omega
  have c1:(lw==0)=false:=by have:=hlv.out;simp;omega
  have hdn':=Za (hdn.out l1 rfl);clear hR0 hR1 hdn
  go_loopw [10] (fun vi wr=>∃ k:Nat,k<=m/\vi=.int .i64 ((k:Int)-1)/\((l.take k).reverse.find? fun x => !Zq key x.1)=F/\Qax w4.heap.size w4 wr) (fun vi _=>(intOf vi+1).toNat)
  case atStart=>exact⟨m,Qd _,rfl,by rw[Qw (by rw[hlm.out];omega)];exact hF.out,Qb _ _⟩
  case round =>
   obtain⟨k,hk,hvi,hE,hbr⟩:=hrel;have HR:=Za (HG.out.below hbr);have BR:=Za hbr;clear hbr;cases k with
   | zero =>
    rw[show ((0:Nat):Int)-1 = -1 from rfl] at hvi;subst hvi;have hno:Hid (R=none):=Za (by rw[hRF.out,<- hE];rfl);replace hE:=Za hE;clear c0 c1;have G5:(wr).heap[w1.heap.size]? = _:=HR.out.at 2 rfl;have B5:=Za (BB.out.trans (BR.out.mono BB.out.size));obtain⟨W9,hW9,g9,gr9,gs9⟩:=Y5 (u0:=.int .u8 0) (u1:=.int .u32 0) (u2:=.int .u32 0) (u3:=.int .i64 0) (u4:=.slice none 0 0) G5;obtain⟨n0,n1,n2,n3,n4,_⟩:=Zl g9;obtain⟨f0,f1,f2,f3,f4,f5,_⟩:=Zl G5;have hB9:=Za (B5.out.grown gr9 B5.out.size (fun q e=>by cases e;exact lo1.out.1));replace G5:=Za G5;replace g9:=Za g9;clear gr9 gs9
    go_wp2_with fail
    refine Qau (v:=.tuple #[.agg #[.int .u8 0,.int .u32 0,.int .u32 0,.int .i64 0,.slice none 0 0],.bool false]) (by simp[results,Tryz.results33,go_sem,n0,n1,n2,n3,n4]) rfl ?_;rw[hno.out];exact⟨_,rfl,Ug _ _,hB9.out⟩
   | succ j =>
    rw[show ((j+1:Nat):Int)-1=(j:Int) by omega] at hvi;subst hvi;obtain⟨x,hx0⟩:∃ x,l[j]? = some x:=⟨_,Qc (by rw[hlm.out];omega)⟩
    rw[Zkr hx0] at hE;obtain⟨ad,E5,ce5,rfl,hin5,FX⟩:=Zlc (HR.out.at 1 rfl:Y6 (New w2.heap.size wr) wr [.slice Z m zc] l) hx0;have hxm:=Za (hdn'.out x (Qf hx0));have i4:(0:Int)<=(j:Int):=by omega
    have i5:(j:Int)<(m:Int):=by omega
    have FX':=Za FX;replace hx0:=Za hx0;clear FX;obtain⟨q,hq⟩:∃ q,Zq key x.1=q:=⟨_,rfl⟩
    rw[hq] at hE;replace hq:=Za hq
    go_upto_region 5 with fail
    refine wp_region_fx (by kernel_rfl) (fun W=>Qax wr.heap.size wr W) (fun _=>none) (fun i=>match i with
     | 11=>some (.bool q)
     | _=>none) (by kernel_rfl) (Qb _ _).drew (fun w w' h hb=>h.trans (hb.mono h.size)) (fun j φ x W W' hp=>by cases hp) ?_
    repeat (first
     | (refine wpAs_skip rfl ?_;simp only[Qa,Zb,Zc,Zd])
     | (refine wpAs_pure (v := ?_) rfl rfl ?_ ?_;rotate_left;(intro W hC hE;clear hE;(have HW:=HR.out.below hC;obtain⟨y0,y1,_⟩:=HW.at 0 rfl;obtain⟨t0,t1,t2,_⟩:=HW.at 3 rfl;clear HW;obtain⟨⟨z0,z1,z2,_,_⟩,_⟩:=FX'.out W hC);clear hC;go_simp;first | done | with_reducible rfl);simp only[Qa,Zb,Zc,Zd]))
    refine wpAs_fixed rfl rfl rfl ?_ ?_
    ·intro W hC hE
     refine does_enter (f:=60) (args:=#[kyV key,kyV x.1]) ?_ ?_
     ·go_simp
     ·refine(Uo key x.1 W).mono ?_
      (rintro e W' ⟨rfl,hg⟩;rw[hq.out])
      exact⟨_,rfl,rfl,hg⟩
    simp only[Qa,Zb,Zc,Zd]
    repeat (first
     | (refine wpAs_skip rfl ?_;simp only[Qa,Zb,Zc,Zd])
     | (refine wpAs_pure (v := ?_) rfl rfl ?_ ?_;rotate_left;(intro W hC hE;clear hE;skip;clear hC;go_simp;first | done | with_reducible rfl);simp only[Qa,Zb,Zc,Zd]))
    refine wpAs_end fun W5 hC hE5=> ?_
    have HR5:=Za (HR.out.below hC);have BR5:=Za (BR.out.trans (hC.mono BR.out.size));have FX5:=Za (fun W (hW:Qax W5.heap.size W5 W)=>FX'.out W (hC.trans (hW.mono hC.size)));have B5:=Za (BB.out.trans (BR5.out.mono BB.out.size));clear hE5 hC;cases q with
    | true =>
     rw[if_neg (by decide)] at hE;replace hE:=Za hE;have i9:IntKind.i64.wrap ((j:Int)-1)=(j:Int)-1:=Qp _ (by omega);obtain⟨y0,y1,_⟩:=HR5.out.at 0 rfl
     go_upto_region 7 with fail
     go_quiet (fail)
     go_wp2_with fail
     go_roundw
     case rel=>exact⟨j,by omega,rfl,hE.out,Z3 BR5.out _⟩
     case measure=>simp[intOf]
    | false =>
     rw[if_pos (by decide)] at hE;obtain⟨R1,hR1⟩:∃ R1,Zes s l1 x.2.1 key=R1:=⟨_,rfl⟩
     have hRR:Hid (R=R1):=Za (by rw[hRF.out,<- hE];exact hR1);have hcl:=Za (fun v W hW=>hrec.out v x.2.1 key W hxm.out hW);rw[hR1] at hcl;obtain⟨b1,hb1⟩:∃ b,R1.isSome=b:=⟨_,rfl⟩
     obtain⟨y,hy⟩:∃ y,R1.getD Zaw=y:=⟨_,rfl⟩
     rw[hb1,hy] at hcl;replace hE:=Za hE;replace hR1:=Za hR1;replace hb1:=Za hb1;replace hy:=Za hy;have lo5:Hid (w1.heap.size<W5.heap.size/\w.heap.size<=W5.heap.size):=Za ⟨by have:=lo1.out;have:=lo4.out;have:=BR5.out.size;omega,B5.out.size⟩
     go_upto_region 6 with fail
     refine Z1 (by kernel_rfl) 11 (fun W=>Qax W5.heap.size W5 W) (fun i=>match i with
      | 8=>some (fun v W=>∃ u,v=.tuple #[u,.bool b1]/\Itm (New W5.heap.size W) W u y)
      | 9=>some (fun v W=>Itm (New W5.heap.size W) W v y)
      | _=>none) (fun i=>match i with
      | 10=>some (.bool b1)
      | _=>none) (by decide) (by kernel_rfl) (by kernel_rfl) (Qb _ _).drew (fun w w' h hb=>h.trans (hb.mono h.size)) ?tst ?_
     case tst =>
      intro j φ x W W' hp hx hb
      match j,hp with
      | 8,hp =>
       cases hp;obtain⟨y,e,hy⟩:=hx;exact⟨y,e,hy.new (Qd _) hb⟩
      | 9,hp=>cases hp;exact hx.new (Qd _) hb
     simp only[Q3,Qt,Qu,Qk]
     repeat (first
      | (refine wpAs_skip rfl ?_;simp only[Qa,Zb,Zc,Zd])
      | (refine wpAs_pure (v := ?_) rfl rfl ?_ ?_;rotate_left;(intro W hC hE;clear hE;(have HW:=HR5.out.below hC;obtain⟨k0,k1,k2,k3,_⟩:=HW.at 4 rfl;obtain⟨y0,y1,_⟩:=HW.at 0 rfl;obtain⟨t0,t1,t2,_⟩:=HW.at 3 rfl;clear HW;obtain⟨⟨z0,z1,z2,z3,_⟩,_⟩:=FX5.out W hC);clear hC;go_simp;first | done | with_reducible rfl);simp only[Qa,Zb,Zc,Zd]))
     refine wpAs_act rfl rfl ?_ ?_
     ·intro W hC hE
      clear hE;refine does_enter (f:=33) (args:=#[.agg #[.slice A s.1.1.length ca,.slice B s.1.2.length cb,.slice N s.2.1.length cn,.slice L s.2.2.length cl],.int .i64 x.2.1,kyV key]) ?_ ?_
      ·go_simp
      ·refine(hcl.out _ W ((HR5.out.below hC).at 5 rfl)).mono ?_
       rintro e W' ⟨u,rfl,hu,hb⟩;exact⟨_,rfl,⟨u,rfl,hu.new hC.size (Qb _ _)⟩,hb⟩
     simp only[Qa,Zb,Zc,Zd,envAdd];intro x8;refine wpAs_act rfl rfl ?_ ?_
     ·intro W hC hE
      obtain⟨u,rfl,hu⟩:=hE.1 rfl;clear hE hC;replace hu:=Za hu
      go_simp
      exact⟨hu.out,Qb _ _⟩
     simp only[Qa,Zb,Zc,Zd,envAdd];intro x9;refine wpAs_fixed rfl rfl rfl ?_ ?_
     ·intro W hC hE
      obtain⟨u,rfl,hu⟩:=hE.2.1 rfl;clear hE hC hu
      go_simp
      exact⟨rfl,Qb _ _⟩
     simp only[Qa,Zb,Zc,Zd];refine wpAs_end fun W6 hC hE6=> ?_
     have hit:=hE6.1;clear hE6;obtain⟨P,pc,rfl,-,-,-,-⟩:=id hit.open;have G6:W6.heap[w1.heap.size]? = _:=(HR5.out.below hC).at 2 rfl;have B6:=Za (B5.out.trans (hC.mono B5.out.size));obtain⟨f0,f1,f2,f3,f4,f5,_⟩:=Zl G6;obtain⟨W9,hW9,g9,gr9,gs9⟩:=Y5 (u0:=.int .u8 (y.1.1.toNat:Int)) (u1:=.int .u32 y.1.2.1) (u2:=.int .u32 y.1.2.2) (u3:=.int .i64 y.2.1) (u4:=.slice P y.2.2.length pc) G6;obtain⟨n0,n1,n2,n3,n4,_⟩:=Zl g9;have hfin:=Za (show Itm (New w.heap.size W9) W9 (itV y (.slice P y.2.2.length pc)) y from (hit.grown gr9 (fun q e=>by cases e;exact lo5.out.1)).new lo5.out.2 (Qb _ _));have hB9:=Za (B6.out.grown gr9 B6.out.size (fun q e=>by cases e;exact lo1.out.1));replace G6:=Za G6;replace g9:=Za g9;clear gr9 gs9 hit hC
     go_wp2_with fail
     refine Qau (v:=.tuple #[itV y (.slice P y.2.2.length pc),.bool b1]) (by simp[results,Tryz.results33,go_sem,n0,n1,n2,n3,n4]) rfl ?_;rw[hRR.out,hy.out,hb1.out];exact⟨_,rfl,hfin.out,hB9.out⟩}
theorem Zs4 (s:Rm) (hm:Yp s=true):∀ l:Nat,Z4g s l:=by
 intro l
 induction l using Qac with
 | ind l ih=>exact Z0y s hm l fun j hj=>ih j (by omega)
def Zwq (s:Rm) (lv:Int) (l:List It):It:=if mkE s (lv,l)=0 then upI l (mkN s (lv,l)) else Zaw
def Z6c (s:Rm) (lv:Int) (l:List It) (w:Qaq) (e:Ending) (w':Qaq):Prop:=∃ (qa qb qc qd:Option Qas×Nat×Nat) (D:Option Qas) (dc:Nat),
 e=.returned (.tuple #[.agg #[.slice qa.1 qa.2.1 qa.2.2,.slice qb.1 qb.2.1 qb.2.2,.slice qc.1 qc.2.1 qc.2.2,.slice qd.1 qd.2.1 qd.2.2],itV (Zwq s lv l) (.slice D 0 dc),.int .i64 (mkE s (lv,l))]) /\
 Sto (Old w') w' (.agg #[.slice qa.1 qa.2.1 qa.2.2,.slice qb.1 qb.2.1 qb.2.2,.slice qc.1 qc.2.1 qc.2.2,.slice qd.1 qd.2.1 qd.2.2]) (mkV s (lv,l))/\rBy (Old w') w' [.slice D 0 dc] []/\Qax w.heap.size w w'
theorem Vs {ok:Qas->Prop}{w:Qaq}{v:Qar}{s:Rm}(h:Sto ok w v s):∃ qa qb qc qd:Option Qas×Nat×Nat,v=.agg #[.slice qa.1 qa.2.1 qa.2.2,.slice qb.1 qb.2.1 qb.2.2,.slice qc.1 qc.2.1 qc.2.2,.slice qd.1 qd.2.1 qd.2.2]:=by
 obtain⟨A,ca,B,cb,N,cn,L,cl,rfl,_⟩:=h.open;exact⟨(A,_,ca),(B,_,cb),(N,_,cn),(L,_,cl),rfl⟩
theorem Ze9 (v:Qar) (s:Rm) (lv:Int) (A:Option Qas) (n c:Nat) (l:List It) (hm:Yp s=true) (hn:Xn (lv,l)=true) (hlv:Zmp lv) (hln:l.length=n) (w:Qaq) (h:Sto (Old w) w v s) (hl:Y6 (Old w) w [.slice A n c] l) :
  Qaw Tryz.prog 62 #[v,.int .i64 lv,.slice A n c] w (Z6c s lv l w):=by{
 obtain⟨qa,qb,qc,qd,rfl⟩:=Vs h;obtain⟨w1,hw1,b1,hs1,hB1⟩:=Vm w (.slice qa.1 qa.2.1 qa.2.2) (.slice qb.1 qb.2.1 qb.2.2) (.slice qc.1 qc.2.1 qc.2.2) (.slice qd.1 qd.2.1 qd.2.2) 29;obtain⟨w2,hw2,b2,hs2,hB2⟩:=Vm w1 (.slice none 0 0) (.slice none 0 0) (.slice none 0 0) (.slice none 0 0) 29;obtain⟨w3,hw3,_,_,_,_,_,hs3,hB3,b3⟩:=Z6 w2 (.int .u8 0) (.int .u32 0) (.int .u32 0) (.int .i64 0) (.slice none 0 0) 54;have hB12:=hB1.trans (hB2.mono hB1.size);have hB13:=hB12.trans (hB3.mono hB12.size);have B3:=Za hB13;have SZ:=Za (show w1.heap.size=w.heap.size+1/\w2.heap.size=w.heap.size+2/\w3.heap.size=w.heap.size+3 from by omega);have k1:=(hB3.block w.heap.size (by omega)).trans ((hB2.block w.heap.size (by omega)).trans b1);have F2:=Za ((hB3.block w1.heap.size (by omega)).trans b2);have F3:=Za b3;obtain⟨u0,u1,u2,u3,_⟩:=Ze k1;have hbl:=Za (Zm1 _ s lv A n c l hm hn hlv hln w3 (h.below hB13) (Z5.old hl hB13));have hfl:=Za (Zx1 s (lv,l));have hmk:Hid (mkE s (lv,l)=0->Yp (mkV s (lv,l))=true):=Za (fun hh=>(Vq hh).choose_spec.2.2.2.2.2.2.2.1);have hno:=Za (fun(hh:mkE s (lv,l)≠0)=>(Zlj hh).2);obtain⟨N',hN'⟩:∃ q,mkN s (lv,l)=q:=⟨_,rfl⟩
 have hu0:Hid (mkE s (lv,l)=0->Zwq s lv l=upI l N'):=Za (fun hh=>by unfold Zwq;rw[if_pos hh,hN']);have hu1:Hid (mkE s (lv,l)≠0->Zwq s lv l=Zaw):=Za (fun hh=>by unfold Zwq;rw[if_neg hh]);unfold Z40 at hbl;unfold Z6c;rw[hN'] at hbl;obtain⟨up,hup0⟩:∃ q,Zwq s lv l=q:=⟨_,rfl⟩
 rw[hup0] at hu0 hu1 ⊢;obtain⟨er,her⟩:∃ q,mkE s (lv,l)=q:=⟨_,rfl⟩
 obtain⟨V',hV'⟩:∃ q,mkV s (lv,l)=q:=⟨_,rfl⟩
 rw[her,hV'] at hbl hno ⊢;rw[hV'] at hfl;rw[her,hV'] at hmk;rw[her] at hu0 hu1;replace her:=Za her;replace hV':=Za hV';replace hN':=Za hN';replace hup0:=Za hup0;replace hs1:=Za hs1;replace hs2:=Za hs2;replace hs3:=Za hs3;clear h hl hm hn hlv hln b1 b2 b3 hB1 hB2 hB3 hB12 hB13 k1
 go_enter Tryz.func62,Tryz.ntmps62
 go_upto_region 1 with fail
 clear hw1 hw2 hw3
 go_wp2_with fail
 with_reducible refine hbl.out.mono ?_
 rintro e w4 ⟨t,P,m,pc,rfl,hS,hup,hb⟩;obtain⟨ra,rb,rc,rd,rfl⟩:=Vs hS;obtain⟨w5,hw5,b5,hs5,hB5⟩:=Vm w4 (.slice ra.1 ra.2.1 ra.2.2) (.slice rb.1 rb.2.1 rb.2.2) (.slice rc.1 rc.2.1 rc.2.2) (.slice rd.1 rd.2.1 rd.2.2) 29;have B45:=Za (hb.trans (hB5.mono hb.size));have B5:=Za (B3.out.trans (B45.out.mono B3.out.size));have S5:=Za (hS.below hB5);have U5:=Za (fun he=>(⟨(hup he).1,Z5.new (hup he).2 (Qd _) hB5⟩:m=1/\Y6 (New w3.heap.size w5) w5 [.slice P 1 pc] [upI l N']));have F2':=(B45.out.block w1.heap.size (by have:=SZ.out;omega)).trans F2.out;have F3':=(B45.out.block w2.heap.size (by have:=SZ.out;omega)).trans F3.out;have SZ5:=Za (show w3.heap.size<=w4.heap.size from hb.size);replace hs5:=Za hs5;have b5h:=Za b5;clear hbl u0 u1 u2 u3 hS hup hb hB5 b5 F2 F3
 go_upto_region 2 with fail
 clear hw5;by_cases he:er=0
 case neg =>
  have t0:(er != 0)=true:=by simpa using he
  have heh:=Za he;obtain⟨k0,k1,k2,k3,k4,k5⟩:=Ze F2';obtain⟨W8,hW8,g8,gr8,gs8⟩:=Zo (a':=.slice none 0 0) (b':=.slice none 0 0) (c':=.slice none 0 0) (d':=.slice none 0 0) F2';have F38:=(gr8.block w2.heap.size (by have:=SZ.out;have:=SZ5.out;have:=B45.out.size;omega) (by have:=SZ.out;simp;omega)).trans F3';obtain⟨p0,p1,p2,p3,p4,p5,_⟩:=Zl F38;obtain⟨W9,hW9,g9,gr9,gs9⟩:=Y5 (u0:=.int .u8 0) (u1:=.int .u32 0) (u2:=.int .u32 0) (u3:=.int .i64 0) (u4:=.slice none 0 0) F38;have g89:=(gr9.block w1.heap.size (by have:=SZ.out;have:=SZ5.out;have:=B45.out.size;omega) (by have:=SZ.out;simp;omega)).trans g8;obtain⟨n0,n1,n2,n3,_,_⟩:=Ze g89;obtain⟨o0,o1,o2,o3,o4,_⟩:=Zl g9;have hB9:=Za ((B5.out.grown gr8 B5.out.size (fun q e=>by cases e;have:=SZ.out;omega)).grown gr9 (by have:=B5.out.size;omega) (fun q e=>by cases e;have:=SZ.out;omega));replace g8:=Za g8;replace g9:=Za g9;replace g89:=Za g89;replace F2':=Za F2';replace F3':=Za F3';replace F38:=Za F38;clear gr8 gs8 gr9 gs9 he
  go_wp2_with fail
  refine Qau (v:=.tuple #[.agg #[.slice none 0 0,.slice none 0 0,.slice none 0 0,.slice none 0 0],.agg #[.int .u8 0,.int .u32 0,.int .u32 0,.int .i64 0,.slice none 0 0],.int .i64 er]) (by simp[results,Tryz.results62,go_sem,n0,n1,n2,n3,o0,o1,o2,o3,o4]) rfl ?_;refine⟨(none,0,0),(none,0,0),(none,0,0),(none,0,0),none,0,by rw[hu1.out heh.out];rfl,by rw[hno.out heh.out];exact Zu _ _,Vd _ _ none,hB9.out⟩
 subst he;obtain⟨rfl,hI5⟩:=U5.out rfl;obtain⟨ad,E5,ce5,hP,hok5,h5,-,hpc0,hpc,-⟩:=Zao hI5 (show [upI l N'][0]? = some (upI l N') from rfl);subst hP;have e0:ad.add (0*5)=ad:=by simp[Addr.add]
 rw[e0] at h5;have hadl:w3.heap.size<=ad.block/\ad.block<w5.heap.size:=by
  have h:=hok5 0 (by omega);rw[show ad.add (0*5+0)=ad by simp[Addr.add]] at h;exact⟨h.1,h.2.1⟩
 have sz:=SZ.out;have sz5:=SZ5.out;have hue:=Za (hu0.out rfl);obtain⟨x,hx⟩:∃ x,upI l N'=x:=⟨_,rfl⟩
 rw[hx] at h5 hue;have hx0:x.2.2=[]:=by rw[<- hx];rfl
 rw[hx0] at h5;obtain⟨o4,ho4⟩:∃ o:Obj,Obj.cells #[.slice ra.1 ra.2.1 ra.2.2,.slice rb.1 rb.2.1 rb.2.2,.slice rc.1 rc.2.1 rc.2.2,.slice rd.1 rd.2.1 rd.2.2] 29 (0,0)=o:=⟨_,rfl⟩
 obtain⟨o5,ho5⟩:∃ o:Obj,Obj.cells #[.int .u8 (x.1.1.toNat:Int),.int .u32 x.1.2.1,.int .u32 x.1.2.2,.int .i64 x.2.1,.slice E5 0 ce5] 54 (0,0)=o:=⟨_,rfl⟩
 obtain⟨fin,hfn⟩:∃ fin,Zh3 w1.heap.size o4 w2.heap.size o5=fin:=⟨_,rfl⟩
 have fn4:Hid (fin w1.heap.size=some o4):=Za (by rw[<- hfn];exact Zjl _ _ _ _);have fn5:Hid (fin w2.heap.size=some o5):=Za (by rw[<- hfn];exact Zke (by omega) _ _);have fnh:Hid (∀ k,k≠w1.heap.size->k≠w2.heap.size->fin k=none):=Za fun k h1 h2=>by rw[<- hfn];exact Zh1 h1 h2 _ _
 have F2:=Za F2';have F3:=Za F3';have FK:Hid (∀ W,Xe fin w5 W->At5 W ad x (.slice E5 0 ce5)/\W.heap[w4.heap.size]? = some (.cells #[.slice ra.1 ra.2.1 ra.2.2,.slice rb.1 rb.2.1 rb.2.2,.slice rc.1 rc.2.1 rc.2.2,.slice rd.1 rd.2.1 rd.2.2] 29 (0,0))):=Za fun W hK=>by
  have hc:∀ (q:Qas) u,q.block=ad.block->w5.cell? q=some u->W.cell? q=some u:=fun q u hq hu=>by
   refine(Qi ?_).trans hu;rw[hq];rcases hK.block ad.block hadl.2 with h | ⟨o,h,_⟩
   ·exact h
   ·rw[fnh.out ad.block (by omega) (by omega)] at h
    cases h
  obtain⟨z0,z1,z2,z3,z4⟩:=h5;exact⟨⟨hc _ _ rfl z0,hc _ _ rfl z1,hc _ _ rfl z2,hc _ _ rfl z3,hc _ _ rfl z4⟩,hK.other (fnh.out _ (by omega) (by omega)) b5h.out⟩
 have K4:Hid (∀ W,Xe fin w5 W->∃ a b c d,W.heap[w1.heap.size]? = some (.cells #[a,b,c,d] 29 (0,0))):=Za fun W hK=>by
  rcases hK.box fn4.out F2.out with e | e
  ·exact⟨_,_,_,_,e⟩
  ·rw[<- ho4] at e;exact⟨_,_,_,_,e⟩
 have K5:Hid (∀ W,Xe fin w5 W->∃ a b c d e,W.heap[w2.heap.size]? = some (.cells #[a,b,c,d,e] 54 (0,0))):=Za fun W hK=>by
  rcases hK.box fn5.out F3.out with e | e
  ·exact⟨_,_,_,_,_,e⟩
  ·rw[<- ho5] at e;exact⟨_,_,_,_,_,e⟩
 have hfin:Hid (∀ W,Xe fin w5 W->Sto (Old W) W (.agg #[.slice ra.1 ra.2.1 ra.2.2,.slice rb.1 rb.2.1 rb.2.2,.slice rc.1 rc.2.1 rc.2.2,.slice rd.1 rd.2.1 rd.2.2]) V'/\Qax w.heap.size w W):=Za fun W hK=>by
  refine⟨(Z5s (Z1z S5.out hfl.out) (hmk.out rfl)).map fun p u hp hc=> ?_,B5.out.trans (hK.below B5.out.size fun k hk=>fnh.out k (by omega) (by omega))⟩;have n1:=Zra F2.out (by simp) hc hp.1.2;have n2:=Zzo F3.out (by simp) hp;refine⟨Qh hp.1.1 hK.size,(Qi ?_).trans hc⟩;rcases hK.block p.block hp.1.1 with h | ⟨o,h,_⟩
  ·exact h
  ·rw[fnh.out p.block n1 n2] at h
   cases h
 have hby:Hid (∀ W:Qaq,rBy (Old W) W [.slice E5 0 ce5] []):=Za fun W=>⟨E5,ce5,rfl,by simp,hpc,fun i x h=>by simp at h⟩
 replace ho4:=Za ho4;replace ho5:=Za ho5;replace hfn:=Za hfn;replace hx:=Za hx;replace F2':=Za F2';replace F3':=Za F3';clear h5 hI5 hpc0 hpc hx0 hok5 sz sz5 hadl e0
 go_upto_region 4 with fail
 refine Rb.wp_region_fx (Xe fin) (by kernel_rfl) (fun W=>Xe fin w5 W) (fun i=>match i with
  | 4=>some (fun _ W=>W.heap[w1.heap.size]? = some o4)
  | 5=>some (fun _ W=>W.heap[w2.heap.size]? = some o5)
  | _=>none) (fun i=>match i with
  | _=>none) (by kernel_rfl) (Xe.refl _ _).drew (fun w w' h hb=>h.trans hb) ?tst ?_
 case tst =>
  intro j φ x W W' hp hx hb
  match j,hp with
  | 4,hp=>cases hp;exact hb.done fn4.out hx
  | 5,hp=>cases hp;exact hb.done fn5.out hx
 repeat (first
  | (refine Rb.wpAs_skip rfl ?_;simp only[Qa,Zb,Zc,Zd])
  | (refine Rb.wpAs_pure (v := ?_) rfl rfl ?_ ?_;rotate_left;(intro W hC hE;clear hE;(obtain⟨⟨z0,z1,z2,z3,z4⟩,bb⟩:=FK.out W hC;obtain⟨v0,v1,v2,v3,-⟩:=Ze bb);clear hC;go_simp;first | done | with_reducible rfl);simp only[Qa,Zb,Zc,Zd]))
 refine Rb.wpAs_act rfl rfl ?_ ?_
 ·intro W hC hE
  clear hE;obtain⟨a,b,c,d,G⟩:=K4.out W hC;obtain⟨q0,q1,q2,q3,q4,_⟩:=Ze G;obtain⟨W1,hW1,g1,gr1,_⟩:=Zo (a':=.slice ra.1 ra.2.1 ra.2.2) (b':=.slice rb.1 rb.2.1 rb.2.2) (c':=.slice rc.1 rc.2.1 rc.2.2) (d':=.slice rd.1 rd.2.1 rd.2.2) G;rw[ho4.out] at g1;have hk:=Za (Xe.of_grown gr1 fn4.out g1);replace g1:=Za g1;clear gr1 G hC
  go_simp
  exact⟨g1.out,hk.out⟩
 simp only[Qa,Rb.envAdd];intro _;refine Rb.wpAs_act rfl rfl ?_ ?_
 ·intro W hC hE
  clear hE;obtain⟨a,b,c,d,e,G⟩:=K5.out W hC;obtain⟨q0,q1,q2,q3,q4,q5,_⟩:=Zl G;obtain⟨W1,hW1,g1,gr1,_⟩:=Y5 (u0:=.int .u8 (x.1.1.toNat:Int)) (u1:=.int .u32 x.1.2.1) (u2:=.int .u32 x.1.2.2) (u3:=.int .i64 x.2.1) (u4:=.slice E5 0 ce5) G;rw[ho5.out] at g1;have hk:=Za (Xe.of_grown gr1 fn5.out g1);replace g1:=Za g1;clear gr1 G hC
  go_simp
  exact⟨g1.out,hk.out⟩
 simp only[Qa,Rb.envAdd];intro _
 repeat (first
  | (refine Rb.wpAs_skip rfl ?_;simp only[Qa,Zb,Zc,Zd])
  | (refine Rb.wpAs_pure (v := ?_) rfl rfl ?_ ?_;rotate_left;(intro W hC hE;clear hE;skip;clear hC;go_simp;first | done | with_reducible rfl);simp only[Qa,Zb,Zc,Zd]))
 refine Rb.wpAs_end fun W hC hE=> ?_
 have e5:=hE.1;have e4:=hE.2.1;have hW:=Za (hfin.out W hC);rw[<- ho4.out] at e4;rw[<- ho5.out] at e5;obtain⟨n0,n1,n2,n3,_⟩:=Ze e4;obtain⟨o0,o1,o2,o3,o4',_⟩:=Zl e5;replace e4:=Za e4;replace e5:=Za e5;clear hE hC
 go_wp2_with fail
 refine Qau (v:=.tuple #[.agg #[.slice ra.1 ra.2.1 ra.2.2,.slice rb.1 rb.2.1 rb.2.2,.slice rc.1 rc.2.1 rc.2.2,.slice rd.1 rd.2.1 rd.2.2],itV x (.slice E5 0 ce5),.int .i64 0]) (by simp[results,Tryz.results62,go_sem,n0,n1,n2,n3,o0,o1,o2,o3,o4']) rfl ?_;rw[hue.out];exact⟨ra.1,ra.2.1,ra.2.2,rb.1,rb.2.1,rb.2.2,rc.1,rc.2.1,rc.2.2,rd.1,rd.2.1,rd.2.2,E5,ce5,rfl,hW.out.1,hby.out W,hW.out.2⟩}
structure Z6e (g:Nat) (z:Obj) (w w':Qaq):Prop where
 os:w'.os=w.os
 tape:w'.tape=w.tape
 output:w'.output=w.output
 size:w.heap.size<=w'.heap.size
 block:∀ k,k<w.heap.size->w'.heap[k]? = w.heap[k]? \/ (k=g/\w.heap[g]? = some z)
section
variable {g : Nat}{z : Obj}{a b c : Qaq}
theorem Z6e.of_grown (h:a.grownBy b (some g)) (hz:a.heap[g]? = some z):Z6e g z a b :=
 ⟨h.os,h.tape,h.output,h.size,fun k hk=>by
  by_cases e:k=g
  ·exact .inr ⟨e,hz⟩
  ·exact .inl (h.block k hk (fun e'=>e (Option.some.inj e')))⟩
end
theorem Z1o {W W9:Qaq}{cs:List Qar}{l:List It}(h:Y6 (Old W) W cs l) (hs:W.heap.size<=W9.heap.size) (hb:∀ k,k<W.heap.size->(∃ (p:Qas) (x:Int),p.block=k/\W.cell? p=some (.int .u8 x))->W9.heap[k]? = W.heap[k]?):Y6 (Old W9) W9 cs l:=by{
 have hk:∀ (p q:Qas) (x:Int) (v:Qar),Old W p->q.block=p.block->W.cell? q=some (.int .u8 x)->W.cell? p=some v->Old W9 p/\W9.cell? p=some v:=fun p q x v hp hn hq hc =>
  ⟨Qh hp hs,(Qi (hb _ hp ⟨q,x,hn,hq⟩)).trans hc⟩
 have hby:∀ cs b,rBy (Old W) W cs b->rBy (Old W9) W9 cs b:=fun cs b hb=>by
  obtain⟨A,cap,e,l1,l2,h4⟩:=hb;refine⟨A,cap,e,l1,l2,fun i x hx=> ?_⟩;obtain⟨ad,vs,eA,hv,hc,hu⟩:=h4 i x hx;unfold rU8 at hu;subst hu;exact⟨ad,_,eA,hv,fun j v hj=>hk _ _ _ _ (hc j v hj).1 (by rw[Zh,Zh]) (hc 0 _ rfl).2 (hc j v hj).2,rfl⟩
 obtain⟨A,cap,e,l1,l2,h4⟩:=h;refine⟨A,cap,e,l1,l2,fun i x hx=> ?_⟩;obtain⟨ad,vs,eA,hv,hc,c,d,rfl,hK,c2,d2,rfl,hR,hB⟩:=h4 i x hx;obtain⟨rfl,hin⟩:=Zlt hK;exact⟨ad,_,eA,hv,fun j v hj=>hk _ _ _ _ (hc j v hj).1 (by rw[Zh,Zh]) (hc 0 _ rfl).2 (hc j v hj).2,_,_,rfl,Zup hin,_,_,rfl,hR,hby _ _ hB⟩}
theorem Z42 {W:Qaq}{g:Nat}{cs:Array Qar}{t:Qat}(hz:W.heap[g]? = some (.cells cs t (0,0))) (hcs:∀ c∈cs,∀ x,c≠.int .u8 x):¬ ∃ (p:Qas) (x:Int),p.block=g/\W.cell? p=some (.int .u8 x):=by{
 rintro⟨p,x,e,hc⟩;unfold Qy at hc;rw[e,hz] at hc
 dsimp only at hc
 split at hc
 ·cases hc
 ·obtain⟨hlt,hu⟩:=Qj.1 hc
  exact hcs _ (Pa hlt) x hu}
theorem Z00 {g:Nat}{cs:Array Qar}{t:Qat}{W W':Qaq}{vs:List Qar}{l:List It}(h:Y6 (Old W) W vs l) (hcs:∀ c∈cs,∀ x,c≠.int .u8 x) (ho:Z6e g (.cells cs t (0,0)) W W'):Y6 (Old W') W' vs l :=
 Z1o h ho.size fun k hk hx=>by
  rcases ho.block k hk with e | ⟨rfl,e⟩
  ·exact e
  ·exact absurd hx (Z42 e hcs)
theorem Zam {g:Nat}{cs:Array Qar}{t:Qat}{W W':Qaq}{vs:List Qar}{l:List It}(h:Y6 (Old W) W vs l) (hcs:∀ c∈cs,∀ x,c≠.int .u8 x) (hz:W.heap[g]? = some (.cells cs t (0,0))) (hg:W.grownBy W' (some g)):Y6 (Old W') W' vs l :=
 Z00 h hcs (Z6e.of_grown hg hz)
theorem Z5q {ok ok':Qas->Prop}{w w':Qaq}{D:Option Qas}{c:Nat}(h:rBy ok w [.slice D 0 c] []):rBy ok' w' [.slice D 0 c] []:=by
 obtain⟨A,cap,e,h1,h2,_⟩:=h;cases e;exact⟨_,_,rfl,h1,h2,fun i x h=>by simp at h⟩
def PhF (U:Rm) (v:Qar) (W:Qaq):Prop:=∃ qa qb qc qd:Option Qas×Nat×Nat,v=.agg #[.slice qa.1 qa.2.1 qa.2.2,.slice qb.1 qb.2.1 qb.2.2,.slice qc.1 qc.2.1 qc.2.2,.slice qd.1 qd.2.1 qd.2.2]/\Sto (Old W) W (.agg #[.slice qa.1 qa.2.1 qa.2.2,.slice qb.1 qb.2.1 qb.2.2,.slice qc.1 qc.2.1 qc.2.2,.slice qd.1 qd.2.1 qd.2.2]) U
def PhG (g:Nat) (U:Rm) (W:Qaq):Prop:=∃ qa qb qc qd:Option Qas×Nat×Nat,W.heap[g]? = some (.cells #[.slice qa.1 qa.2.1 qa.2.2,.slice qb.1 qb.2.1 qb.2.2,.slice qc.1 qc.2.1 qc.2.2,.slice qd.1 qd.2.1 qd.2.2] 29 (0,0))/\Sto (Old W) W (.agg #[.slice qa.1 qa.2.1 qa.2.2,.slice qb.1 qb.2.1 qb.2.2,.slice qc.1 qc.2.1 qc.2.2,.slice qd.1 qd.2.1 qd.2.2]) U
theorem Z3y {W:Qaq}{g:Nat}{x:It}{d:Qar}{t:Qat}(hg:W.heap[g]? = some (.cells #[.int .u8 (x.1.1.toNat:Int),.int .u32 x.1.2.1,.int .u32 x.1.2.2,.int .i64 x.2.1,d] t (0,0))) (hi:InI x) (hd:rBy (Old W) W [d] x.2.2):Y6 (Old W) W [.slice (some ⟨g,0,none⟩) 1 1] [x]:=by{
 have hl:=(Qj.1 hg).1;refine⟨some ⟨g,0,none⟩,1,rfl,Qd _,by omega,fun i y hy=> ?_⟩;have hi0:i=0:=by
  have:=(Qe.1 hy).1;simp at this;exact this
 subst hi0;cases hy;refine⟨⟨g,0,none⟩,[.int .u8 (x.1.1.toNat:Int),.int .u32 x.1.2.1,.int .u32 x.1.2.2,.int .i64 x.2.1,d],rfl,rfl,fun j u hj=> ?_,_,_,rfl,Zup hi.key,_,_,rfl,⟨rfl,hi.ref⟩,hd⟩;obtain⟨z0,z1,z2,z3,z4,_⟩:=Zl hg;refine⟨?_,?_⟩
 ·show (Addr.add ⟨g,0,none⟩ (0*5+j)).block<W.heap.size
  rw[Zh];exact hl
 ·match j,hj with
  | 0,hj=>cases hj;exact z0
  | 1,hj=>cases hj;exact z1
  | 2,hj=>cases hj;exact z2
  | 3,hj=>cases hj;exact z3
  | 4,hj=>cases hj;exact z4}
def Wi (ok:Qas->Prop) (w:Qaq) (p:Qas):Prop:=ok p/\((∃ (q:Qas) (k:IntKind) (n:Int),q.block=p.block/\w.cell? q=some (.int k n))\/∃ q:Qas,q.block=p.block/\4<=q.off/\w.cell? q≠none)
theorem Zzb {ok:Qas->Prop}{w:Qaq}{cs:List Qar}{x:List UInt8}(h:rBy ok w cs x):rBy (Wi ok w) w cs x:=by
 obtain⟨A,cap,h1,h2,h3,h4⟩:=h;refine⟨A,cap,h1,h2,h3,fun i y hi=> ?_⟩;obtain⟨ad,vs,e1,e2,e3,e4⟩:=h4 i y hi;unfold rU8 at e4;subst e4;exact⟨ad,_,e1,e2,fun j u hj=>⟨⟨(e3 j u hj).1,.inl ⟨ad.add (i*1+0),_,_,by rw[Zh,Zh],(e3 0 _ rfl).2⟩⟩,(e3 j u hj).2⟩,rfl⟩
theorem Z4e {ok:Qas->Prop}{w:Qaq}{cs:List Qar}{xss:List (List UInt8)}(h:rSl 1 rBy ok w cs xss) (hl:4<xss.length):rSl 1 rBy (Wi ok w) w cs xss:=by{
 obtain⟨A,cap,h1,h2,h3,h4⟩:=h;refine⟨A,cap,h1,h2,h3,fun i y hi=> ?_⟩;obtain⟨ad,vs,e1,e2,e3,e4⟩:=h4 i y hi;refine⟨ad,vs,e1,e2,fun j u hj=>⟨⟨(e3 j u hj).1,.inr ?_⟩,(e3 j u hj).2⟩,Zzb e4⟩;obtain⟨ad',vs',f1,f2,f3,_⟩:=h4 4 _ (Qc hl);rw[e1] at f1;cases f1;obtain⟨z,rfl⟩:∃ z,vs'=[z]:=by
  match vs',f2 with
  | [z],_=>exact⟨z,rfl⟩
 refine⟨ad.add (4*1+0),by rw[Zh,Zh],by show 4<=ad.off+(4*1+0);omega,?_⟩;rw[(f3 0 z rfl).2];simp}
theorem Z5x {ok:Qas->Prop}{w:Qaq}{cs:List Qar}{ws:List Wt}(h:rSl 2 rWt ok w cs ws):rSl 2 rWt (Wi ok w) w cs ws:=by
 obtain⟨A,cap,h1,h2,h3,h4⟩:=h;refine⟨A,cap,h1,h2,h3,fun i y hi=> ?_⟩;obtain⟨ad,vs,e1,e2,e3,e4⟩:=h4 i y hi;obtain⟨v,rfl,b1,b2,hv⟩:=Zc9 e4;exact⟨ad,_,e1,e2,fun j u hj=>⟨⟨(e3 j u hj).1,.inl ⟨ad.add (i*2+0),_,_,by rw[Zh,Zh],(e3 0 _ rfl).2⟩⟩,(e3 j u hj).2⟩,Zio b1 b2 (Zzb hv)⟩
theorem Zwx {ok:Qas->Prop}{w:Qaq}{v:Qar}{s:Rm}(h:Sto ok w v s) (hm:Yp s=true):Sto (Wi ok w) w v s:=by
 obtain⟨a,b,n,l,e,⟨a',b',e',r1,r2⟩,h2,h3⟩:=h;obtain⟨_,_,m3⟩:=Ze0 (Zw hm).1;exact⟨a,b,n,l,e,⟨a',b',e',Z4e r1 (by omega),Z5x r2⟩,Zzb h2,Zzb h3⟩
def Zw2 (g:Nat) (w:Qaq):Prop:=∃ qa qb qc qd:Option Qas×Nat×Nat,w.heap[g]? = some (.cells #[.slice qa.1 qa.2.1 qa.2.2,.slice qb.1 qb.2.1 qb.2.2,.slice qc.1 qc.2.1 qc.2.2,.slice qd.1 qd.2.1 qd.2.2] 29 (0,0))
theorem Zmg {ok:Qas->Prop}{W:Qaq}{g:Nat}{p:Qas}(hz:Zw2 g W) (hp:Wi ok W p):p.block≠g:=fun ep=>by
 obtain⟨qa,qb,qc,qd,hz⟩:=hz;have hcell:∀ q:Qas,q.block=p.block->∀ u,W.cell? q=some u->q.off<4/\∀ k n,u≠.int k n:=fun q hq u hc=>by
  unfold Qy at hc;rw[hq,ep,hz] at hc
  dsimp only at hc
  split at hc
  ·cases hc
  ·obtain⟨hlt,hu⟩:=Qj.1 hc
   refine⟨by simpa using hlt,fun k n e=> ?_⟩;have hmem:=Pm.2 (Pa hlt);rw[hu,e] at hmem;simp at hmem
 rcases hp.2 with ⟨q,k,n,hq,hc⟩ | ⟨q,hq,h4,hn⟩
 ·exact(hcell q hq _ hc).2 k n rfl
 ·obtain⟨u,hu⟩:=Option.ne_none_iff_exists'.1 hn
  have:=(hcell q hq u hu).1;omega
structure Xm (g:Nat) (U:Rm) (w w':Qaq):Prop where
 os:w'.os=w.os
 tape:w'.tape=w.tape
 output:w'.output=w.output
 size:w.heap.size<=w'.heap.size
 other:∀ k,k<w.heap.size->k≠g->w'.heap[k]? = w.heap[k]?
 box:w'.heap[g]? = w.heap[g]? \/ (Zw2 g w/\PhG g U w')
section
variable {g : Nat}{U : Rm}{a b c : Qaq}
theorem PhG.four (h:PhG g U a):Zw2 g a:=by
 obtain⟨qa,qb,qc,qd,e,_⟩:=h;exact⟨qa,qb,qc,qd,e⟩
theorem PhG.keep (h:PhG g U a) (hs:a.heap.size<=b.heap.size) (ho:∀ k,k<a.heap.size->k≠g->b.heap[k]? = a.heap[k]?) (hb:b.heap[g]? = a.heap[g]?):PhG g U b:=by
 obtain⟨qa,qb,qc,qd,e,h⟩:=h;refine⟨qa,qb,qc,qd,hb.trans e,h.map fun p v hp hc=>⟨Qh hp hs,(Qi ?_).trans hc⟩⟩;by_cases e':p.block=g
 ·rw[e'];exact hb
 ·exact ho _ hp e'
theorem Xm.refl (g:Nat) (U:Rm) (w:Qaq):Xm g U w w:=⟨rfl,rfl,rfl,Qd _,fun _ _ _=>rfl,.inl rfl⟩
theorem Xm.trans (h:Xm g U a b) (k:Xm g U b c):Xm g U a c :=
 ⟨k.os.trans h.os,k.tape.trans h.tape,k.output.trans h.output,Qr h.size k.size,fun i hi hn=>(k.other i (Qh hi h.size) hn).trans (h.other i hi hn),by
  rcases h.box with e1 | ⟨f1,p1⟩
  ·rcases k.box with e2 | ⟨f2,p2⟩
   ·exact .inl (e2.trans e1)
   ·refine .inr ⟨?_,p2⟩
    unfold Zw2 at f2 ⊢;rw[<- e1];exact f2
  ·rcases k.box with e2 | ⟨f2,p2⟩
   ·exact .inr ⟨f1,p1.keep k.size (fun i hi hn=>k.other i hi hn) e2⟩
   ·exact .inr ⟨f1,p2⟩⟩
theorem Xm.drew (h:Xm g U a b):Xm g U a b.drew:=⟨h.os,h.tape,h.output,h.size,h.other,by
 rcases h.box with e | ⟨f,p⟩
 ·exact .inl e
 ·exact .inr ⟨f,p.keep (b:=b.drew) (Qd _) (fun _ _ _=>rfl) rfl⟩⟩
theorem Xm.of_below (h:Qax a.heap.size a b) (hg:g<a.heap.size):Xm g U a b:=⟨h.os,h.tape,h.output,h.size,fun k hk _=>h.block k hk,.inl (h.block g hg)⟩
theorem Xm.of_grown (h:a.grownBy b (some g)) (hf:Zw2 g a) (hp:PhG g U b):Xm g U a b:=⟨h.os,h.tape,h.output,h.size,fun k hk hn=>h.block k hk (fun e=>hn (Option.some.inj e)),.inr ⟨hf,hp⟩⟩
theorem Xm.blk {k:Nat}{o:Obj}(h:Xm g U a b) (hk:k≠g) (ha:a.heap[k]? = some o):b.heap[k]? = some o:=(h.other k (Qj.1 ha).1 hk).trans ha
theorem Xm.cell {p:Qas}{u:Qar}(h:Xm g U a b) (hp:p.block≠g) (hc:a.cell? p=some u):b.cell? p=some u :=
 (Qi (h.other _ (Ph _ _ hc) hp)).trans hc
theorem Xm.low {lo:Nat}(h:Xm g U a b) (hl:lo<=a.heap.size) (hg:lo<=g):Qax lo a b:=⟨h.os,h.tape,h.output,h.size,fun k hk=>h.other k (by omega) (by omega)⟩
theorem Xm.four (h:Xm g U a b) (hf:Zw2 g a):Zw2 g b:=by{
 rcases h.box with e | ⟨_,p⟩
 ·unfold Zw2 at hf ⊢
  rw[e];exact hf
 ·exact p.four}
theorem Xm.phG (h:Xm g U a b) (hp:PhG g U a):PhG g U b:=by
 rcases h.box with e | ⟨_,p⟩
 ·exact hp.keep h.size h.other e
 ·exact p
theorem Xm.sto {v:Qar}{s:Rm}(h:Xm g U a b) (hs:Sto (Old a) a v s) (hm:Yp s=true):Sto (Old b) b v s:=by{
 rcases h.box with e | ⟨f,_⟩
 ·refine hs.map fun p u hp hc=>⟨Qh hp h.size,(Qi ?_).trans hc⟩
  by_cases e':p.block=g
  ·rw[e'];exact e
  ·exact h.other _ hp e'
 ·exact(Zwx hs hm).map fun p u hp hc=>⟨Qh hp.1 h.size,h.cell (Zmg f hp) hc⟩}
theorem Xm.its {cs:List Qar}{l:List It}(h:Xm g U a b) (hi:Y6 (Old a) a cs l):Y6 (Old b) b cs l :=
 Z1o hi h.size fun k hk hx=>by
  by_cases e:k=g
  ·subst e
   rcases h.box with e | ⟨⟨qa,qb,qc,qd,f⟩,_⟩
   ·exact e
   ·exact absurd hx (Z42 f (by simp))
  ·exact h.other k hk e
theorem Xm.phF {v:Qar}(h:Xm g U a b) (hm:Yp U=true) (hp:PhF U v a):PhF U v b:=by
 obtain⟨qa,qb,qc,qd,e,hs⟩:=hp;exact⟨qa,qb,qc,qd,e,h.sto hs hm⟩
end
theorem Z0a {W:Qaq}{g:Nat}{U:Rm}{ra rb rc rd:Option Qas×Nat×Nat}(hf:Zw2 g W) (hm:Yp U=true) (h:Sto (Old W) W (.agg #[.slice ra.1 ra.2.1 ra.2.2,.slice rb.1 rb.2.1 rb.2.2,.slice rc.1 rc.2.1 rc.2.2,.slice rd.1 rd.2.1 rd.2.2]) U) :
  ∃ W1,(((W.setCell ⟨g,0,none⟩ (.slice ra.1 ra.2.1 ra.2.2)).setCell ⟨g,1,none⟩ (.slice rb.1 rb.2.1 rb.2.2)).setCell ⟨g,2,none⟩ (.slice rc.1 rc.2.1 rc.2.2)).setCell ⟨g,3,none⟩ (.slice rd.1 rd.2.1 rd.2.2)=W1/\PhG g U W1/\Xm g U W W1:=by
 obtain⟨qa,qb,qc,qd,e⟩:=hf;obtain⟨W1,hW1,g1,gr1,_⟩:=Zo (a':=.slice ra.1 ra.2.1 ra.2.2) (b':=.slice rb.1 rb.2.1 rb.2.2) (c':=.slice rc.1 rc.2.1 rc.2.2) (d':=.slice rd.1 rd.2.1 rd.2.2) e;have hp:PhG g U W1:=⟨ra,rb,rc,rd,g1,(Zwx h hm).map fun p u hp hc=>⟨Qh hp.1 gr1.size,(Qi (gr1.block _ hp.1 (by simpa using Zmg ⟨qa,qb,qc,qd,e⟩ hp))).trans hc⟩⟩
 exact⟨W1,hW1,hp,Xm.of_grown gr1 ⟨qa,qb,qc,qd,e⟩ hp⟩
def Zaf (s:Rm) (a:Int):Rm:=(s.1,s.2.1.set a.toNat (s.2.1[a.toNat]?.getD 0-1),s.2.2)
theorem Zh5 {s t u:Rm}(h1:Zav s t) (h2:Zav t u):Zav s u:=⟨h2.may,fun i hi=>h2.held i (h1.held i hi),fun i hi=>(h2.seen i (h1.held i hi)).trans (h1.seen i hi)⟩
theorem Zy5 {s:Rm}(h:Yp s=true):Zav s s:=⟨h,fun _ h=>h,fun _ _=>rfl⟩
theorem Z16 {s:Rm}{a:Int}(h:Xw s.2.1 a.toNat≠0):dnO s.2.1 a.toNat=some (Zaf s a).2.1:=by
 unfold dnO;rw[if_neg (Zak.1 h)];rfl
theorem Zyy {s:Rm}{a:Int}(hm:Yp s=true) (h:2<=Xw s.2.1 a.toNat):Zav s (Zaf s a):=by
 have hd:=Z16 (s:=s) (a:=a) (by omega);obtain⟨_,_,hle,_⟩:=Zbv hd;obtain⟨c1,c2⟩:=Z1j hd;obtain⟨m1,m2,m3⟩:=Zw hm;refine⟨Zdp m1 (LeT.may hle m2) m3,fun k hk=> ?_,fun _ _=>rfl⟩;rw[<- Zak] at hk ⊢;by_cases e:k=a.toNat
 ·subst e;omega
 ·rw[c2 k e];exact hk
def Z6z (s:Rm) (l:List It):Rm:=l.foldl (fun u x=>Zaf u x.2.1) s
theorem Zvo {s:Rm}{a:Int}(h:rmE s a=0):InN (rmV s a):=by
 obtain⟨k,rfl,_,_,_,_,_,hE,hV,_⟩:=Xb (Yu h).2;rw[hV];rw[hE] at h;exact(Zcz h).2.2
def Vx (l:List It) (p many:Nat) (up:List It):List It:=l.take p++(up++l.drop (p+many))
def Zb3 (n:Nd) (k:Ky):Int:=((n.2[Xg n k]?).map fun y=>y.2.1).getD 0
def Xl (x:It):Nat->Rm->Int->Int×Rm×List It
 | 0,s,a =>
  if (Ym s 0 (Vx (rmV s a).2 (Yi (rmV s a) x.1) (if Y8 (rmV s a) x.1=true then 1 else 0) [x])).1=0 then
   (0,(if x.2.1=0 then (Ym s 0 (Vx (rmV s a).2 (Yi (rmV s a) x.1) (if Y8 (rmV s a) x.1=true then 1 else 0) [x])).2.1 else Zaf (Ym s 0 (Vx (rmV s a).2 (Yi (rmV s a) x.1) (if Y8 (rmV s a) x.1=true then 1 else 0) [x])).2.1 x.2.1),(Ym s 0 (Vx (rmV s a).2 (Yi (rmV s a) x.1) (if Y8 (rmV s a) x.1=true then 1 else 0) [x])).2.2)
  else ((Ym s 0 (Vx (rmV s a).2 (Yi (rmV s a) x.1) (if Y8 (rmV s a) x.1=true then 1 else 0) [x])).1,Zn,[])
 | l+1,s,a =>
  if (Xl x l s (Zb3 (rmV s a) x.1)).1=0 then
   if (Ym (Xl x l s (Zb3 (rmV s a) x.1)).2.1 ((l+1:Nat):Int) (Vx (rmV s a).2 (Xg (rmV s a) x.1) 1 (Xl x l s (Zb3 (rmV s a) x.1)).2.2)).1=0 then
    (0,Z6z (Ym (Xl x l s (Zb3 (rmV s a) x.1)).2.1 ((l+1:Nat):Int) (Vx (rmV s a).2 (Xg (rmV s a) x.1) 1 (Xl x l s (Zb3 (rmV s a) x.1)).2.2)).2.1 (Xl x l s (Zb3 (rmV s a) x.1)).2.2,
     (Ym (Xl x l s (Zb3 (rmV s a) x.1)).2.1 ((l+1:Nat):Int) (Vx (rmV s a).2 (Xg (rmV s a) x.1) 1 (Xl x l s (Zb3 (rmV s a) x.1)).2.2)).2.2)
   else ((Ym (Xl x l s (Zb3 (rmV s a) x.1)).2.1 ((l+1:Nat):Int) (Vx (rmV s a).2 (Xg (rmV s a) x.1) 1 (Xl x l s (Zb3 (rmV s a) x.1)).2.2)).1,Zn,[])
  else ((Xl x l s (Zb3 (rmV s a) x.1)).1,Zn,[])
def Z61 (s:Rm):Nat->List It->Ky->Bool->Bool
 | 0,L,_,_=>Xk s L
 | j+1,L,tb,e=>Zb9 (Yn s j) L tb e
structure Zwo (s:Rm) (l:Nat) (a:Int) (tb:Ky) (e:Bool):Prop where
 ok:rmE s a=0
 lv:(rmV s a).1=(l:Int)
 inn:Z61 s l (rmV s a).2 tb e=true
 low:e=true->∀ y∈(rmV s a).2,Zq y.1 tb=true
theorem Zv3 {s:Rm}{l:Nat}{a:Int}{k tb:Ky}{e:Bool}(h:Yn s l a k tb e=true):Zwo s l a tb e/\∀ y r,(rmV s a).2=y::r->y.1=k:=by{
 obtain⟨r1,r2,r3,r4⟩:=Zan h;obtain⟨y,r,e1,e2,e3⟩:=Zd4 r3;refine⟨⟨r1,r2,by cases l <;> exact r4,fun he=> ?_⟩,fun y' r' e'=> ?_⟩
 ·obtain⟨z,hz,hb⟩:=e3 he
  exact Zu4 (Zgq (Yu r1).1) hz hb
 ·rw[e1] at e'
  cases e';exact e2}
theorem Zzw {s:Rm}{a:Int}(h:Vb s a=true):Zwo s (rmV s a).1.toNat a Zgt false:=by
 obtain⟨r1,_,_,l0,_,hi⟩:=Zby h;refine⟨r1,by omega,?_,fun he=>by cases he⟩;unfold Ub at hi;cases hl:(rmV s a).1.toNat with
 | zero=>rw[hl] at hi;exact hi
 | succ j=>rw[hl] at hi;exact hi
def Zno (x:It) (i:Nat):Nat:=if x.2.1≠0/\i=x.2.1.toNat then 1 else 0
theorem Zz1 {n:Nd}{k:Ky}{y:It}(hy:n.2[Xg n k]? = some y):n.2=n.2.take (Xg n k)++y::n.2.drop (Xg n k+1):=by
 obtain⟨hp,hg⟩:=Qe.1 hy
 conv=>lhs;rw[<- Qv (Xg n k) n.2,Pq hp,hg]
def Z5z (s:Rm):Nat->Int->Ky->Bool
 | 0,a,k=>decide (5<=(rmV s a).2.length) && !Y8 (rmV s a) k
 | l+1,a,k=>decide (5<=(rmV s a).2.length)&&Z5z s l (Zb3 (rmV s a) k) k
def Z6g (s:Rm) (a:Int) (k:Ky):Bool:=decide ((rmV s a).1=5)&&Z5z s 5 a k
def Zpl (s:Rm) (lv:Int) (up:List It):Int×Rm×List It :=
 if 1<up.length then
  if (Ym s (lv+1) up).1=0 then (0,Z6z (Ym s (lv+1) up).2.1 up,(Ym s (lv+1) up).2.2) else ((Ym s (lv+1) up).1,Zn,[])
 else (0,s,up)
def Zyr (up:List It):Int:=match up with | []=>0 | z::_=>z.2.1
def Z6t (s:Rm) (a:Int) (x:It):Int×Rm×Int :=
 if Z6g s a x.1 then (120,Zn,0)
 else if (Xl x (rmV s a).1.toNat s a).1=0 then
  if (Zpl (Xl x (rmV s a).1.toNat s a).2.1 (rmV s a).1 (Xl x (rmV s a).1.toNat s a).2.2).1=0 then
   match lfO (Zpl (Xl x (rmV s a).1.toNat s a).2.1 (rmV s a).1 (Xl x (rmV s a).1.toNat s a).2.2).2.1.1 (Zpl (Xl x (rmV s a).1.toNat s a).2.1 (rmV s a).1 (Xl x (rmV s a).1.toNat s a).2.2).2.1.2.1 a.toNat with
   | none=>(8,Zn,0)
   | some v=>(0,((Zpl (Xl x (rmV s a).1.toNat s a).2.1 (rmV s a).1 (Xl x (rmV s a).1.toNat s a).2.2).2.1.1,v,(Zpl (Xl x (rmV s a).1.toNat s a).2.1 (rmV s a).1 (Xl x (rmV s a).1.toNat s a).2.2).2.1.2.2),Zyr (Zpl (Xl x (rmV s a).1.toNat s a).2.1 (rmV s a).1 (Xl x (rmV s a).1.toNat s a).2.2).2.2)
  else ((Zpl (Xl x (rmV s a).1.toNat s a).2.1 (rmV s a).1 (Xl x (rmV s a).1.toNat s a).2.2).1,Zn,0)
 else ((Xl x (rmV s a).1.toNat s a).1,Zn,0)
def Zhx (k:Ky) (M:List It):List It:=M.filter fun y=>decide (y.1≠k)
theorem Z4c (k:Ky) (A B:List It):Zhx k (A++B)=Zhx k A++Zhx k B:=List.filter_append ..
theorem Zvc {k:Ky}{M:List It}(h:∀ y∈M,y.1≠k):Zhx k M=M:=Zsu fun y hy=>by simpa using h y hy
theorem Z1q {k:Ky}{M:List It}{y:It}:y∈Zhx k M↔y∈M/\y.1≠k:=by
 unfold Zhx;rw[List.mem_filter,decide_eq_true_eq]
theorem Zxq {lv:Int}{L:List It}(h0:0<=lv) (h6:lv<6) (h5:L.length<=5) (hne:0<L.length) (hu:Up L) (hk:∀ x∈L,okP lv x=true):Xn (lv,L)=true:=by{
 refine Zo1 ⟨h0,h6,h5,fun _=>hne⟩ fun i hi=> ?_
 have hi':i<L.length:=hi;have hx:(lv,L).2[i]? = some L[i]:=Qc hi';cases i with
 | zero=>rw[Zey hx];exact hk _ (Qad hi')
 | succ j =>
  have hj:j<L.length:=by omega
  rw[Zcr hx (Qc hj),hk _ (Qad hi'),Pg];exact P3.1 hu j (j+1) hj hi' (by omega)}
def Zz (s:Rm) (M:List It) (p:Nat) (L:List It):Nat×Nat×List It :=
 match M[p+1]? with
 | some c=>if (rmV s c.2.1).2.length+L.length<=5 then (p,2,L++(rmV s c.2.1).2) else (p,1,L)
 | none=>if p=0 then (p,1,L) else match M[p-1]? with
  | some b=>if (rmV s b.2.1).2.length+L.length<=5 then (p-1,2,(rmV s b.2.1).2++L) else (p,1,L)
  | none=>(p,1,L)
def Zt (k:Ky):Nat->Rm->Int->Int×Rm×List It×Int
 | 0,s,a=>(0,s,Zhx k (rmV s a).2,0)
 | l+1,s,a =>
  match Zt k l s (Zb3 (rmV s a) k) with
  | (e,t,L,held) =>
   if e=0 then
    if L=[] then (0,t,Vx (rmV s a).2 (Xg (rmV s a) k) 1 [],0)
    else match Zz s (rmV s a).2 (Xg (rmV s a) k) L with
     | (first,many,L')=>match Ym t (l:Int) L' with
      | (f,u,up)=>if f=0 then (0,(if held=0 then u else Zaf u held),Vx (rmV s a).2 first many (up.take 1),Zyr up) else (f,Zn,[],0)
   else (e,Zn,[],0)
theorem Zyk {l:Nat}(h:l<6){L:List It}(hi:∀ q∈L,InI q):InN ((l:Int),L):=⟨⟨by show (-9223372036854775808:Int)<=(l:Int);omega,by show (l:Int)<=9223372036854775807;omega⟩,hi⟩
theorem Zds {k:Ky}{l:Nat}{s t:Rm}{a held:Int}{L:List It}(h:Zt k (l+1) s a=(0,t,L,held)):∃ t1 L1 held1,Zt k l s (Zb3 (rmV s a) k)=(0,t1,L1,held1) /\
  ((L1=[]/\t=t1/\L=Vx (rmV s a).2 (Xg (rmV s a) k) 1 []/\held=0)\/(L1≠[]/\∃ u up,Ym t1 (l:Int) (Zz s (rmV s a).2 (Xg (rmV s a) k) L1).2.2=(0,u,up)/\t=(if held1=0 then u else Zaf u held1) /\
   L=Vx (rmV s a).2 (Zz s (rmV s a).2 (Xg (rmV s a) k) L1).1 (Zz s (rmV s a).2 (Xg (rmV s a) k) L1).2.1 (up.take 1)/\held=Zyr up)):=by{
 unfold Zt at h;generalize hg:Zt k l s (Zb3 (rmV s a) k)=g at h;obtain⟨ge,t1,L1,held1⟩:=g;simp only at h;split at h
 ·rename_i h0
  subst h0;refine⟨t1,L1,held1,rfl,?_⟩;split at h
  ·rename_i h1
   cases h;exact .inl ⟨h1,rfl,rfl,rfl⟩
  ·rename_i h1
   generalize hm:Zz s (rmV s a).2 (Xg (rmV s a) k) L1=m at h;obtain⟨first,many,L'⟩:=m;simp only at h;generalize hb:Ym t1 (l:Int) L'=b at h;obtain⟨f,u,up⟩:=b;simp only at h;split at h
   ·rename_i h2
    subst h2;cases h;exact .inr ⟨h1,u,up,rfl,rfl,rfl,rfl⟩
   ·rename_i h2
    simp only[Prod.mk.injEq] at h;exact absurd h.1 h2
 ·rename_i h0
  simp only[Prod.mk.injEq] at h;exact absurd h.1 h0}
theorem Zjt (s:Rm) (M:List It) (p:Nat) (L:List It):(Zz s M p L=(p,1,L))\/(∃ c,M[p+1]? = some c/\(rmV s c.2.1).2.length+L.length<=5/\Zz s M p L=(p,2,L++(rmV s c.2.1).2))\/(∃ b j,p=j+1/\M[j]? = some b/\(rmV s b.2.1).2.length+L.length<=5/\Zz s M p L=(j,2,(rmV s b.2.1).2++L)):=by{
 unfold Zz;cases h1:M[p+1]? with
 | some c =>
  by_cases h2:(rmV s c.2.1).2.length+L.length<=5
  ·exact .inr (.inl ⟨c,rfl,h2,by simp only[if_pos h2]⟩)
  ·exact .inl (by simp only[if_neg h2])
 | none =>
  cases p with
  | zero=>exact .inl rfl
  | succ j =>
   simp only[show ¬ (j+1=0) by omega,if_false,show j+1-1=j by omega];cases h2:M[j]? with
   | none=>exact .inl rfl
   | some b =>
    by_cases h3:(rmV s b.2.1).2.length+L.length<=5
    ·exact .inr (.inr ⟨b,j,rfl,h2,h3,by simp only[if_pos h3]⟩)
    ·exact .inl (by simp only[if_neg h3])}
theorem Zxx (l b:List It):Vx l l.length 0 b=l++b:=by
 unfold Vx;rw[List.take_length,Pn,List.drop_length,List.append_nil]
def Zhq (m p:Nat):Int:=if p+1<m then ((p+1:Nat):Int) else (p:Int)-1
theorem Ztw {s:Rm}{M:List It}{p:Nat}{L:List It}(h:Zhq M.length p<0):Zz s M p L=(p,1,L):=by{
 unfold Zhq at h;split at h
 ·omega
 ·rename_i hp
  obtain rfl:p=0:=by omega
  unfold Zz;rw[Q4 (by omega)];simp}
theorem Zta {s:Rm}{M:List It}{p j:Nat}{L:List It}{c:It}(hj:Zhq M.length p=(j:Int)) (hc:M[j]? = some c) :
  Zz s M p L=if (rmV s c.2.1).2.length+L.length<=5 then (if j<p then (j,2,(rmV s c.2.1).2++L) else (p,2,L++(rmV s c.2.1).2)) else (p,1,L):=by{
 unfold Zhq at hj;unfold Zz;split at hj
 ·rename_i hp
  obtain rfl:j=p+1:=by omega
  rw[hc];simp only[show ¬ (p+1<p) by omega,if_false]
 ·rename_i hp
  rw[Q4 (by omega)];simp only;obtain rfl:p=j+1:=by omega
  rw[if_neg (by omega),show j+1-1=j by omega,hc];simp only[show j<j+1 by omega,if_true]}
theorem Z4j {m p:Nat}(hp:p<m):Zhq m p<0\/∃ j:Nat,Zhq m p=(j:Int)/\j<m/\j≠p:=by{
 unfold Zhq;split
 ·exact .inr ⟨p+1,rfl,by omega,by omega⟩
 ·by_cases h:p=0
  ·exact .inl (by omega)
  ·exact .inr ⟨p-1,by omega,by omega,by omega⟩}
theorem Zju {k:Ky}:∀ {l:Nat}{s t:Rm}{a e held:Int}{L:List It},Zt k l s a=(e,t,L,held)->e≠0->t=Zn/\L=[]/\held=0
 | 0,s,t,a,e,held,L,h,he=>by
  unfold Zt at h;cases h;exact absurd rfl he
 | l+1,s,t,a,e,held,L,h,he=>by
  unfold Zt at h;generalize Zt k l s (Zb3 (rmV s a) k)=g at h;obtain⟨e1,t1,L1,h1⟩:=g;simp only at h;split at h
  ·split at h
   ·cases h
    exact absurd rfl he
   ·generalize Zz s (rmV s a).2 (Xg (rmV s a) k) L1=mg at h
    obtain⟨f,m,L'⟩:=mg;simp only at h;generalize Ym t1 (l:Int) L'=b at h;obtain⟨f2,u,up⟩:=b;simp only at h;split at h
    ·cases h
     exact absurd rfl he
    ·cases h
     exact⟨rfl,rfl,rfl⟩
  ·cases h
   exact⟨rfl,rfl,rfl⟩
section
variable {k : Ky}{l : Nat}{s t : Rm}{a c e h : Int}{L L' : List It}{f m : Nat}
theorem Zzt (h1:Zt k l s c=(e,t,L,h)) (hc:Zb3 (rmV s a) k=c) (he:e≠0):Zt k (l+1) s a=(e,Zn,[],0):=by
 unfold Zt;rw[hc,h1];show (if e=0 then _ else _)=_;rw[if_neg he]
theorem Z0h (h1:Zt k l s c=(0,t,[],h)) (hc:Zb3 (rmV s a) k=c):Zt k (l+1) s a=(0,t,Vx (rmV s a).2 (Xg (rmV s a) k) 1 [],0):=by
 unfold Zt;rw[hc,h1];show (if (0:Int)=0 then _ else _)=_;rw[if_pos rfl,if_pos rfl]
theorem Z0s (h1:Zt k l s c=(0,t,L,h)) (hc:Zb3 (rmV s a) k=c) (hL:L≠[]) (hmg:Zz s (rmV s a).2 (Xg (rmV s a) k) L=(f,m,L')) (h5:L'.length<=5):Zt k (l+1) s a =
  if mkE t ((l:Int),L')=0 then (0,(if h=0 then mkV t ((l:Int),L') else Zaf (mkV t ((l:Int),L')) h),Vx (rmV s a).2 f m [upI L' (mkN t ((l:Int),L'))],mkN t ((l:Int),L')) else (mkE t ((l:Int),L'),Zn,[],0):=by{
 unfold Zt;rw[hc,h1];show (if (0:Int)=0 then _ else _)=_;rw[if_pos rfl,if_neg hL,hmg];have hbu:Ym t (l:Int) L'=if mkE t ((l:Int),L')=0 then (0,mkV t ((l:Int),L'),[upI L' (mkN t ((l:Int),L'))]) else (mkE t ((l:Int),L'),Zn,[]):=by
  unfold Ym;rw[if_pos h5]
 simp only[hbu];by_cases hb:mkE t ((l:Int),L')=0
 ·simp only[hb,if_true]
  rfl
 ·simp only[hb,if_false]}
end
theorem Zpr (lw:Int) (Z:Option Qas) (m zc p:Nat) (w:Qaq) (hm:m<=1000) (hp:p<m) :
  Qaw Tryz.prog 105 #[.agg #[.int .i64 lw,.slice Z m zc],.int .i64 p] w fun e w'=>e=.returned (.int .i64 (Zhq m p))/\Qax w.heap.size w w':=by{
 obtain⟨w1,hw1,hg1,hB1,-,hs1⟩:=Xa (Bag.nil w) (Qb _ _) (.int .i64 lw) (.slice Z m zc);obtain⟨y0,y1,_⟩:=hg1.at 0 rfl;have i1:IntKind.i64.wrap ((p:Int)+1)=((p+1:Nat):Int):=by rw[Qp _ (by omega)];omega
 have i2:IntKind.i64.wrap ((p:Int)-1)=(p:Int)-1:=Qp _ (by omega);have HB:=Za hB1;replace hs1:=Za hs1;clear hg1 hB1;by_cases h:p+1<m
 ·have i5:(((p+1:Nat):Int))<(m:Int):=by omega
  have hr:Hid (Zhq m p=((p+1:Nat):Int)):=Za (if_pos h)
  go_enter Tryz.func105,Tryz.ntmps105
  go_upto_region 1 with fail
  clear hw1
  go_wp2_with fail
  go_ret;exact⟨by rw[hr.out];rfl,HB.out⟩
 ·have i5:¬ ((((p+1:Nat):Int))<(m:Int)):=by omega
  have hr:Hid (Zhq m p=(p:Int)-1):=Za (if_neg h)
  go_enter Tryz.func105,Tryz.ntmps105
  go_upto_region 1 with fail
  clear hw1
  go_wp2_with fail
  go_ret;exact⟨by rw[hr.out];rfl,HB.out⟩}
def Zmn (M:List It):Int:=match M with | []=>0 | q::_=>q.2.1
def upR (s:Rm) (b:Int):Rm:=(s.1,s.2.1.set b.toNat (s.2.1[b.toNat]?.getD 0+1),s.2.2)
def Yc:Nat->Rm->Int->Int×Rm×Int
 | 0,s,a=>(0,s,a)
 | l+1,s,a =>
  if (rmV s a).2.length=1 then
   if s.2.1[(Zmn (rmV s a).2).toNat]?.getD 0=255 then (70,Zn,0)
   else match lfO (upR s (Zmn (rmV s a).2)).1 (upR s (Zmn (rmV s a).2)).2.1 a.toNat with
    | none=>(8,Zn,0)
    | some v=>Yc l ((upR s (Zmn (rmV s a).2)).1,v,(upR s (Zmn (rmV s a).2)).2.2) (Zmn (rmV s a).2)
  else (0,s,a)
def Zje (s:Rm) (a:Int) (k:Ky):Int×Rm×Int :=
 match Zt k (rmV s a).1.toNat s a with
 | (e,t,L,held) =>
  if e=0 then
   match Ym t (if L=[] then 0 else (rmV s a).1) L with
   | (f,u,up) =>
    if f=0 then
     match Yc (if L=[] then 0 else (rmV s a).1.toNat) (if held=0 then u else Zaf u held) (Zyr up) with
     | (g,w,now) =>
      if g=0 then
       match lfO w.1 w.2.1 a.toNat with
       | none=>(8,Zn,0)
       | some v=>(0,(w.1,v,w.2.2),now)
      else (g,Zn,0)
    else (f,Zn,0)
  else (e,Zn,0)
theorem Zuq {l up:List It}{p m:Nat}{q:It}(h:q∈Vx l p m up):q∈l\/q∈up:=by{
 unfold Vx at h;rcases Qg.1 h with h | h
 ·exact .inl (Pe h)
 ·rcases Qg.1 h with h | h
  ·exact .inr h
  ·exact .inl (Qae h)}
theorem Zki {s:Rm}{n:Nd}(h:mkE s n=0):8<=mkN s n/\mkN s n<256:=by
 obtain⟨k,e1,h8,h256,_⟩:=Vq h;rw[e1];omega
theorem Zxa {s u:Rm}{lv:Int}{L up:List It}(h:Ym s lv L=(0,u,up)) (l:Int):∀ y∈up,okP l y=true:=by{
 have hz:∀ {M:List It} {j:Int},8<=j->j<256->okP l (upI M j)=true:=fun {M j} h1 h2=>by
  have e1:Zb0 (upI M j)=true:=Zxk ⟨.inr ⟨h1,h2⟩,by show (0:Nat)<=12;omega⟩;unfold okP Ua;rw[e1,show (upI M j).2.2=[] from rfl,decide_eq_true (show (upI M j).2.1≠0 by show j≠0;omega)];simp
 rcases Za5 h with ⟨h1,_,rfl⟩ | ⟨_,h1,h2,_,rfl⟩
 ·intro y hy
  rw[Ql.1 hy];exact hz (Zki h1).1 (Zki h1).2
 ·intro y hy
  rcases Qm.1 hy with rfl | hy
  ·exact hz (Zki h1).1 (Zki h1).2
  ·rw[Ql.1 hy]
   exact hz (Zki h2).1 (Zki h2).2}
theorem Zr3 {s:Rm}{l:Nat}{a:Int}(h:AtT s l a):∀ q∈(rmV s a).2,okP (l:Int) q=true:=fun q hq=>by
 obtain⟨i,hi⟩:=Qx hq;rw[<- h.lvl];exact Zek h.may hi
theorem Zjm {k:Ky}{s t:Rm}{a held:Int}{L:List It}:∀ {l:Nat},AtT s l a->Zt k l s a=(0,t,L,held)->∀ q∈L,okP (l:Int) q=true
 | 0,ht,h,q,hq=>by
  unfold Zt at h;cases h;exact Zr3 ht q (Z1q.1 hq).1
 | l+1,ht,h,q,hq=>by
  obtain⟨t1,L1,held1,_,hways⟩:=Zds h;rcases hways with ⟨_,_,rfl,_⟩ | ⟨_,u,up,hb,_,rfl,_⟩
  ·rcases Zuq hq with hq | hq
   ·exact Zr3 ht q hq
   ·cases hq
  ·rcases Zuq hq with hq | hq
   ·exact Zr3 ht q hq
   ·exact Zxa hb _ q (Pe hq)
theorem Zdj {s:Rm}{l:Nat}{a:Int}{tb:Ky}{e:Bool}(h:Zwo s l a tb e):AtT s l a:=⟨h.ok,h.lv,fun j hj x hx=>by
 subst hj
 exact Zhw (show Zb9 (Yn s j) (rmV s a).2 tb e=true from h.inn) x hx⟩
def Zdz (s0 s:Rm) (x:Int):Prop:=(if s0.2.1[x.toNat]?.getD 0≠0 then 2 else 1)<=Xw s.2.1 x.toNat
def Zi6 (s0 s:Rm):Nat->Int->Prop
 | 0,a=>rmE s a=0/\(rmV s a).1=0
 | l+1,a=>rmE s a=0/\(rmV s a).1=((l+1:Nat):Int)/\∀ x∈(rmV s a).2,Zi6 s0 s l x.2.1/\(s0.2.1[a.toNat]?.getD 0=0->Zdz s0 s x.2.1)
theorem Zi6.ok {s0 s:Rm}:∀ {l:Nat}{a:Int},Zi6 s0 s l a->rmE s a=0/\(rmV s a).1=(l:Int)
 | 0,_,h=>h
 | _+1,_,h=>⟨h.1,h.2.1⟩
theorem Zns {s:Rm}:∀ {l:Nat}{a:Int},AtT s l a->Zi6 s s l a
 | 0,_,h=>⟨h.ok,h.lvl⟩
 | l+1,a,h=>⟨h.ok,h.lvl,fun x hx=>⟨Zns (h.down hx),fun h0=>by
   obtain⟨k,rfl,_,_,_,_,_,_,_,hz⟩:=Xb (Yu h.ok).2;rw[show ((k:Int)).toNat=k by omega] at h0
   exact absurd h0 hz⟩⟩
theorem Zbx {s0 t u:Rm}(hk:Zav t u) (hm:∀ x,Zdz s0 t x->Zdz s0 u x):∀ {l:Nat}{a:Int},Zi6 s0 t l a->Zi6 s0 u l a
 | 0,a,h=>by
  obtain⟨_,e1,e2⟩:=V5 hk (Yu h.1).2;exact⟨e1.trans h.1,by rw[e2];exact h.2⟩
 | l+1,a,h=>by
  obtain⟨_,e1,e2⟩:=V5 hk (Yu h.1).2;exact⟨e1.trans h.1,by rw[e2];exact h.2.1,fun x hx=>by rw[e2] at hx;exact⟨Zbx hk hm (h.2.2 x hx).1,fun h0=>hm _ ((h.2.2 x hx).2 h0)⟩⟩
theorem Zl5 {s0 t u:Rm}{x:Int}(h:Xw t.2.1 x.toNat<=Xw u.2.1 x.toNat) (hm:Zdz s0 t x):Zdz s0 u x:=by unfold Zdz at hm ⊢;omega
theorem Z0w {s0 t:Rm}{l:Nat}{L:List It}(h:mkE t ((l:Int),L)=0) (hi:InN ((l:Int),L)) (hk:Zav s0 t) (hL:∀ j,l=j+1->∀ q∈L,Zi6 s0 t j q.2.1) :
  Zav s0 (mkV t ((l:Int),L))/\Zav t (mkV t ((l:Int),L))/\(∀ x,Zdz s0 t x->Zdz s0 (mkV t ((l:Int),L)) x)/\8<=mkN t ((l:Int),L)/\s0.2.1[(mkN t ((l:Int),L)).toNat]?.getD 0=0/\Xw (mkV t ((l:Int),L)).2.1 (mkN t ((l:Int),L)).toNat=1 /\
  Zi6 s0 (mkV t ((l:Int),L)) l (mkN t ((l:Int),L))/\rmV (mkV t ((l:Int),L)) (mkN t ((l:Int),L))=((l:Int),L)/\∀ q∈L,q.2.1≠0->Xw t.2.1 q.2.1.toNat+1<=Xw (mkV t ((l:Int),L)).2.1 q.2.1.toNat/\Zdz s0 (mkV t ((l:Int),L)) q.2.1:=by{
 have hkm:=Zie h;obtain⟨_,hn,_⟩:=Z03 h;obtain⟨k,e1,h8,h256,hz,_,hc,hV,hm,c1,c2,c3,_⟩:=Vq h;have hseen:Z4 (mkV t ((l:Int),L)).1 k=Zb5 ((l:Int),L):=by rw[hV];exact Zqt
 have ha:asE (mkV t ((l:Int),L)) (k:Int)=0:=Zj6 hm h8 h256 (by rw[c1];decide);obtain⟨r1,r2⟩:=Z50 ha hseen hn hi;have hz8:Xw t.2.1 k=0:=by unfold Xw;rw[hz];rfl
 have hc1:Xw (mkV t ((l:Int),L)).2.1 k=1:=by unfold Xw;rw[c1];rfl
 have hc2:∀ i,i≠k->Xw (mkV t ((l:Int),L)).2.1 i=Xw t.2.1 i+Zjd L i:=fun i hne=>c2 i hne
 have hle:∀ i,Xw t.2.1 i<=Xw (mkV t ((l:Int),L)).2.1 i:=fun i=>by
  by_cases e:i=k
  ·rw[e];omega
  ·rw[hc2 i e];omega
 have hmono:∀ x,Zdz s0 t x->Zdz s0 (mkV t ((l:Int),L)) x:=fun x hx=>Zl5 (hle _) hx
 have hup:∀ q∈L,q.2.1≠0->Xw t.2.1 q.2.1.toNat+1<=Xw (mkV t ((l:Int),L)).2.1 q.2.1.toNat/\Zdz s0 (mkV t ((l:Int),L)) q.2.1:=fun q hq h0=>by
  have hr:∃ i:Nat,q.2.1=(i:Int):=by
   rcases V4 hn q hq with e | ⟨e8,_⟩
   ·exact absurd e h0
   ·exact⟨q.2.1.toNat,by omega⟩
  obtain⟨i,hi'⟩:=hr;have h1:=Zsk hq hi' h0;have hne:i≠k:=fun e=>by rw[e] at h1;rw[hc] at h1;omega
  have h2:=hc2 i hne;have hti:q.2.1.toNat=i:=by omega
  rw[hti];refine⟨by omega,?_⟩;unfold Zdz;rw[hti];split
  ·rename_i h3
   have:=Zak.2 (hk.held i h3);omega
  ·omega
 rw[e1];rw[show ((k:Int)).toNat=k by omega];refine⟨Zh5 hk hkm,hkm,hmono,by omega,?_,hc1,?_,r2,hup⟩
 ·by_cases e:s0.2.1[k]?.getD 0=0
  ·exact e
  ·exact absurd hz (hk.held k e)
 ·cases l with
  | zero=>exact⟨r1,by rw[r2];rfl⟩
  | succ j =>
   refine⟨r1,by rw[r2],fun x hx=> ?_⟩;rw[r2] at hx;have hx0:x.2.1≠0:=fun e=>by
    obtain⟨h5,_⟩:=Zi6.ok (hL j rfl x hx);obtain⟨i,hi',_,h8',_⟩:=Xb (Yu h5).2;omega
   exact⟨Zbx hkm hmono (hL j rfl x hx),fun _=>(hup x hx hx0).2⟩}
theorem Zy2 {s0 u:Rm}{h:Int}(hk:Zav s0 u) (h0:s0.2.1[h.toNat]?.getD 0=0) (h2:2<=Xw u.2.1 h.toNat):Zav s0 (Zaf u h)/\Zav u (Zaf u h)/\(∀ x,Zdz s0 u x->Zdz s0 (Zaf u h) x)/\Xw (Zaf u h).2.1 h.toNat+1=Xw u.2.1 h.toNat/\∀ i,i≠h.toNat->Xw (Zaf u h).2.1 i=Xw u.2.1 i:=by{
 have hf:=Zyy hk.may h2;obtain⟨c1,c2⟩:=Z1j (Z16 (s:=u) (a:=h) (by omega));refine⟨Zh5 hk hf,hf,fun x hx=> ?_,by omega,c2⟩;by_cases e:x.toNat=h.toNat
 ·unfold Zdz
  rw[e,if_neg (fun h=>h h0)];omega
 ·exact Zl5 (by rw[c2 _ e];exact Qd _) hx}
def Zpo (s:Rm) (n:Nd) (held:Int):Int×Rm×Int :=
 if mkE s n=0 then (if held=0 then (0,mkV s n,mkN s n) else if asE (mkV s n) held=0 then (0,loV (mkV s n) held,mkN s n) else (asE (mkV s n) held,Zn,0)) else (mkE s n,Zn,0)
theorem Zvs {s:Rm}{lv:Int}{L:List It}{held:Int}(h5:L.length<=5) (ho:held=0\/∃ q∈L,q.2.1=held):Zpo s (lv,L) held=if (Ym s lv L).1=0 then (0,(if held=0 then (Ym s lv L).2.1 else Zaf (Ym s lv L).2.1 held),Zyr (Ym s lv L).2.2) else ((Ym s lv L).1,Zn,0):=by{
 unfold Zpo Ym;rw[if_pos h5];by_cases h:mkE s (lv,L)=0
 ·rw[if_pos h,if_pos h]
  by_cases h0:held=0
  ·rw[if_pos h0]
   exact(if_pos h0).symm ▸ rfl
  ·have hq:∃ q∈L,q.2.1=held:=ho.resolve_left h0
   obtain⟨q,hq,hqe⟩:=hq;obtain⟨_,hn,_⟩:=Z03 h;obtain⟨k,e1,h8,h256,hz,_,hc,hV,hm,c1,c2,c3,_⟩:=Vq h;rcases V4 hn q hq with e | ⟨i8,i256⟩
   ·exact absurd (hqe.symm.trans e) h0
   ·obtain⟨i,e⟩:∃ i:Nat,q.2.1=(i:Int):=⟨q.2.1.toNat,by omega⟩
    have h1:=Zsk hq e (by rw[hqe];exact h0);have hne:i≠k:=fun e=>by rw[e] at h1;rw[hc] at h1;omega
    have hnz:(mkV s (lv,L)).2.1[i]?.getD 0≠0:=by
     rw[<- Zak];have:=c2 i hne;unfold Xw;have h1':1<=Zjd (lv,L).2 i:=h1;omega
    have ha:asE (mkV s (lv,L)) held=0:=by
     rw[<- hqe,e];exact Zj6 hm (by omega) (by omega) hnz
    rw[if_neg h0,if_pos ha];have hl:loV (mkV s (lv,L)) held=Zaf (mkV s (lv,L)) held:=if_pos ha;rw[hl];exact(if_neg h0).symm ▸ rfl
 ·rw[if_neg h,if_neg h]
  exact(if_neg h).symm}
structure Z2b (s t:Rm) (l:Nat) (L:List It) (held:Int):Prop where
 keep:Zav s t
 few:L.length<=5
 inI:∀ q∈L,InI q
 lev:∀ j,l=j+1->∀ q∈L,Zi6 s t j q.2.1
 own:held=0\/(8<=held/\s.2.1[held.toNat]?.getD 0=0/\Xw t.2.1 held.toNat≠0/\∃ q∈L,q.2.1=held)
 none:L=[]->held=0
 more:∀ x,Zdz s s x->Zdz s t x
theorem Zib {s t:Rm}{l:Nat}{L1 L' up:List It}{h1:Int}{u:Rm}(G:Z2b s t l L1 h1) (h5:L'.length<=5) (hi:InN ((l:Int),L')) (hsub:∀ q∈L1,q∈L') (hL:∀ j,l=j+1->∀ q∈L',Zi6 s t j q.2.1) (hb:Ym t (l:Int) L'=(0,u,up)) :
  ∃ k:Int,up=[upI L' k]/\8<=k/\s.2.1[k.toNat]?.getD 0=0/\Zav s (if h1=0 then u else Zaf u h1)/\Zav t (if h1=0 then u else Zaf u h1)/\(∀ x,Zdz s t x->Zdz s (if h1=0 then u else Zaf u h1) x)/\Xw (if h1=0 then u else Zaf u h1).2.1 k.toNat=1/\Zi6 s (if h1=0 then u else Zaf u h1) l k/\rmV (if h1=0 then u else Zaf u h1) k=((l:Int),L'):=by{
 rcases Za5 hb with ⟨hm,rfl,rfl⟩ | ⟨h6,_⟩
 ·obtain⟨g1,g2,g3,g4,g5,g6,g7,g8,g9⟩:=Z0w hm hi G.keep hL
  generalize mkN t ((l:Int),L')=k at *;generalize mkV t ((l:Int),L')=u at *;by_cases h0:h1=0
  ·simp only[if_pos h0]
   exact⟨k,rfl,g4,g5,g1,g2,g3,g6,g7,g8⟩
  ·simp only[if_neg h0]
   obtain⟨h8,hz,hc,q,hq,hqe⟩:=G.own.resolve_left h0;obtain⟨c1,_⟩:=g9 q (hsub q hq) (by rw[hqe];exact h0);rw[hqe] at c1;obtain⟨f1,f2,f3,f4,f5⟩:=Zy2 g1 hz (by omega);have hne:k.toNat≠h1.toNat:=fun e=>by rw[e] at g6;omega
   refine⟨k,rfl,g4,g5,f1,Zh5 g2 f2,fun x hx=>f3 x (g3 x hx),by rw[f5 _ hne];exact g6,Zbx f2 f3 g7,?_⟩;rw[(V5 f2 (Yu g7.ok.1).2).2.2];exact g8
 ·omega}
theorem Zum {M up:List It}{p m:Nat}(h:p+m<=M.length) (hm:1<=m) (hu:up.length<=1):(Vx M p m up).length<=M.length:=by
 unfold Vx;simp only[Pd,Qs,Pv];omega
theorem Zk8 {M up:List It}{p m:Nat}{q:It}(h:q∈Vx M p m up):q∈M\/q∈up:=by{
 unfold Vx at h;rcases Qg.1 h with h | h
 ·exact .inl (Pe h)
 ·rcases Qg.1 h with h | h
  ·exact .inr h
  ·exact .inl (Qae h)}
structure Z4u (s t:Rm) (M:List It) (p:Nat) (l:Nat) (L1:List It):Prop where
 few:(Zz s M p L1).2.2.length<=5
 inI:∀ q∈(Zz s M p L1).2.2,InI q
 sub:∀ q∈L1,q∈(Zz s M p L1).2.2
 lev:∀ j,l=j+1->∀ q∈(Zz s M p L1).2.2,Zi6 s t j q.2.1
 fit:(Zz s M p L1).1+(Zz s M p L1).2.1<=M.length/\1<=(Zz s M p L1).2.1/\(Zz s M p L1).2.1<=2
theorem Zru {s t:Rm}{M:List It}{p l:Nat}{L1:List It}{h1:Int}(G:Z2b s t l L1 h1) (hp:p<M.length) (hM:∀ q∈M,Zi6 s s l q.2.1):Z4u s t M p l L1:=by{
 have hb:∀ c∈M,(∀ q∈(rmV s c.2.1).2,InI q)/\∀ j,l=j+1->∀ q∈(rmV s c.2.1).2,Zi6 s t j q.2.1:=fun c hc=>by
  have hl:=hM c hc;refine⟨(Zvo hl.ok.1).it,fun j hj q hq=> ?_⟩;subst hj;exact Zbx G.keep G.more (hl.2.2 q hq).1
 rcases Zjt s M p L1 with e | ⟨c,hc,h5,e⟩ | ⟨b,j,rfl,hbj,h5,e⟩
 ·exact⟨by rw[e];exact G.few,by rw[e];exact G.inI,fun q hq=>by rw[e];exact hq,by rw[e];exact G.lev,by rw[e];exact⟨by show p+1<=_;omega,Qd _,by show 1<=2;omega⟩⟩
 ·obtain⟨b1,b2⟩:=hb c (Qf hc)
  have hcl:=(Qe.1 hc).1;refine⟨by rw[e];simp only[Pd];omega,fun q hq=> ?_,fun q hq=>by rw[e];exact Q7 _ hq,fun j hj q hq=> ?_,by rw[e];exact⟨by show p+2<=_;omega,by show 1<=2;omega,Qd _⟩⟩
  ·rw[e] at hq
   rcases Qg.1 hq with hq | hq
   ·exact G.inI q hq
   ·exact b1 q hq
  ·rw[e] at hq
   rcases Qg.1 hq with hq | hq
   ·exact G.lev j hj q hq
   ·exact b2 j hj q hq
 ·obtain⟨b1,b2⟩:=hb b (Qf hbj)
  refine⟨by rw[e];simp only[Pd];omega,fun q hq=> ?_,fun q hq=>by rw[e];exact Qq _ hq,fun j' hj q hq=> ?_,by rw[e];exact⟨by show j+2<=_;omega,by show 1<=2;omega,Qd _⟩⟩
  ·rw[e] at hq
   rcases Qg.1 hq with hq | hq
   ·exact b1 q hq
   ·exact G.inI q hq
  ·rw[e] at hq
   rcases Qg.1 hq with hq | hq
   ·exact b2 j' hj q hq
   ·exact G.lev j' hj q hq}
theorem Z1w {L:List It}{k:Int}(hne:L≠[]) (hi:∀ q∈L,InI q) (hk:Zmp k):InI (upI L k):=by
 cases L with
 | nil=>exact absurd rfl hne
 | cons q r=>exact⟨(hi q Qz).key,hk⟩
theorem Z0e {s:Rm}{k:Ky}{a:Int}(h:AtT s 0 a):Z2b s s 0 (Zhx k (rmV s a).2) 0 :=
 ⟨Zy5 (by obtain⟨_,_,hm,_⟩:=Xb (Yu h.ok).2;exact hm),Qr (List.length_filter_le _ _) (Zs h.may).1.2.2.1,fun q hq=>(Zvo h.ok).it q (Z1q.1 hq).1,fun j hj=>(by cases hj),.inl rfl,fun _=>rfl,fun _ h=>h⟩
theorem X8 {k:Ky}{s:Rm}:∀ {l:Nat},l<6->∀ {a held:Int}{t:Rm}{L:List It},AtT s l a->Zt k l s a=(0,t,L,held)->Z2b s t l L held
 | 0,_,a,held,t,L,hA,h=>by
  unfold Zt at h;cases h;exact Z0e hA
 | l+1,h6,a,held,t,L,hA,h=>by
  obtain⟨t1,L1,h1,e1,hways⟩:=Zds h;have hm:=hA.may;have h5:=(Zs hm).1.2.2.1;have hne:0<(rmV s a).2.length:=(Zs hm).1.2.2.2 (by rw[hA.lvl];omega);obtain⟨y,hy⟩:∃ y,(rmV s a).2[Xg (rmV s a) k]? = some y:=⟨_,Qc (Zch k hne)⟩
  have hpl:=Zch k hne;have hir:Zb3 (rmV s a) k=y.2.1:=by unfold Zb3;rw[hy];rfl
  rw[hir] at e1;have G:=X8 (by omega) (hA.down (Qf hy)) e1;have hMs:∀ q∈(rmV s a).2,Zi6 s s l q.2.1:=fun q hq=>Zns (hA.down hq)
  have hMi:∀ q∈(rmV s a).2,InI q:=(Zvo hA.ok).it;rcases hways with ⟨_,rfl,rfl,rfl⟩ | ⟨hL1,u,up,hb,rfl,rfl,rfl⟩
  ·refine⟨G.keep,?_,fun q hq=> ?_,fun j hj q hq=> ?_,.inl rfl,fun _=>rfl,G.more⟩
   ·have:=Zum (M:=(rmV s a).2) (up:=[]) (p:=Xg (rmV s a) k) (m:=1) (by omega) (Qd _) (Nat.zero_le _)
    omega
   ·rcases Zk8 hq with hq | hq
    ·exact hMi q hq
    ·cases hq
   ·obtain rfl:l=j:=by omega
    rcases Zk8 hq with hq | hq
    ·exact Zbx G.keep G.more (hMs q hq)
    ·cases hq
  ·obtain⟨m1,m2,m3,m4,m5,m6,_⟩:=Zru (p:=Xg (rmV s a) k) G hpl hMs
   obtain⟨z,rfl,z8,zn,k1,k2,k3,k4,k5,k6⟩:=Zib G m1 (Zyk (by omega) m2) m3 m4 hb;refine⟨k1,?_,fun q hq=> ?_,fun j hj q hq=> ?_,.inr ⟨z8,zn,by show Xw _ z.toNat≠0;rw[k4];decide,upI (Zz s (rmV s a).2 (Xg (rmV s a) k) L1).2.2 z,?_,rfl⟩,fun e=> ?_,fun x hx=>k3 x (G.more x hx)⟩
   ·have:=Zum (M:=(rmV s a).2) (up:=[upI (Zz s (rmV s a).2 (Xg (rmV s a) k) L1).2.2 z].take 1) m5 m6 (Qd _)
    omega
   ·rcases Zk8 hq with hq | hq
    ·exact hMi q hq
    ·obtain rfl:=Ql.1 hq
     have hz:z<256:=by
      obtain⟨i,hi',_,_,h256,_⟩:=Xb (Yu k5.ok.1).2;omega
     refine Z1w ?_ m2 ⟨by omega,by omega⟩;intro e0;obtain⟨q0,hq0⟩:=List.exists_mem_of_ne_nil _ hL1;have:=m3 q0 hq0;rw[e0] at this;cases this
   ·obtain rfl:l=j:=by omega
    rcases Zk8 hq with hq | hq
    ·exact Zbx k2 k3 (Zbx G.keep G.more (hMs q hq))
    ·obtain rfl:=Ql.1 hq
     exact k5
   ·unfold Vx
    exact Qq _ (Q7 _ (Ql.2 rfl))
   ·have:=congrArg List.length e
    simp[Vx] at this
structure Bd (b0 tb:Ky) (e:Bool) (L:List It):Prop where
 up:Up L
 hi:e=true->∀ y∈L,Zq y.1 tb=true
 lo:∀ y∈L,Zq y.1 b0=false
theorem Bd.sub {b0 tb:Ky}{e:Bool}{L M:List It}(h:Bd b0 tb e M) (hs:L.Sublist M):Bd b0 tb e L:=⟨h.up.sublist hs,fun he y hy=>h.hi he y (hs.subset hy),fun y hy=>h.lo y (hs.subset hy)⟩
theorem Zwp {s:Rm}{l:Nat}{a:Int}{b0 tb:Ky}{e:Bool}(h:Zwo s l a tb e) (hlo:∀ y∈(rmV s a).2,Zq y.1 b0=false):Bd b0 tb e (rmV s a).2:=⟨Zgq (Yu h.ok).1,h.low,hlo⟩
theorem Zc6 {s:Rm}{l:Nat}{tb:Ky}{e:Bool}{M:List It}(h:Zb9 (Yn s l) M tb e=true){p:Nat}{c:It}(hc:M[p]? = some c):Zwo s l c.2.1 (nxO (M.drop (p+1)) tb) (bxO (M.drop (p+1)) e) /\
  Bd c.1 (nxO (M.drop (p+1)) tb) (bxO (M.drop (p+1)) e) (rmV s c.2.1).2/\∃ y r,(rmV s c.2.1).2=y::r/\y.1=c.1:=by
 have hM:M=M.take p++M.drop p:=(Qv p M).symm;rw[hM,Zko,Qo] at h;have h2:=h.2;rw[Zl6 _ hc,Qo] at h2;obtain⟨ht,hf⟩:=Zv3 h2.1;obtain⟨_,_,r3,_⟩:=Zan h2.1;obtain⟨y,r,e1,e2,_⟩:=Zd4 r3;refine⟨ht,Zwp ht fun z hz=> ?_,y,r,e1,e2⟩;have hu:=Zgq (Yu ht.ok).1;rw[e1] at hu hz;rcases Zeg hu z hz with h | h
 ·rw[h,e2];exact Zad _
 ·rw[<- e2];exact Zcd h
theorem Z4t {b0 tb:Ky}{e:Bool}{A mid C mr:List It}{y0 u:It}(h:Bd b0 tb e (A++(mid++C))) (hm:mid=y0::mr) (hu:Zq u.1 y0.1=false) (hn:bxO C e=true->Zq u.1 (nxO C tb)=true):Bd b0 tb e (A++(u::C)):=by{
 obtain⟨uA,uR,uX⟩:=Qn.1 h.up;obtain⟨_,uC,_⟩:=Qn.1 uR;have hy0:y0∈mid++C:=by rw[hm];exact Q7 _ Qz
 have huC:∀ y∈C,Zq u.1 y.1=true:=fun y hy=>by
  cases C with
  | nil=>cases hy
  | cons z q =>
   have h1:=hn rfl;rcases Zeg uC y hy with h | h
   ·rw[h];exact h1
   ·exact Yx h1 h
 refine⟨Qn.2 ⟨uA,Q6.2 ⟨huC,uC⟩,fun x hx y hy=> ?_⟩,fun he y hy=> ?_,fun y hy=> ?_⟩
 ·have h1:=uX x hx y0 hy0
  have h2:Zq x.1 u.1=true:=Zo5 h1 hu;rcases Qm.1 hy with rfl | hy
  ·exact h2
  ·exact Yx h2 (huC y hy)
 ·rcases Qg.1 hy with hy | hy
  ·exact h.hi he y (Q7 _ hy)
  ·rcases Qm.1 hy with rfl | hy
   ·cases C with
    | nil=>exact hn he
    | cons z q=>exact Yx (hn rfl) (h.hi he z (Qq _ (Qq _ Qz)))
   ·exact h.hi he y (Qq _ (Qq _ hy))
 ·rcases Qg.1 hy with hy | hy
  ·exact h.lo y (Q7 _ hy)
  ·rcases Qm.1 hy with rfl | hy
   ·have h1:=h.lo y0 (Qq _ hy0)
    cases e1:Zq y.1 b0 with
    | false=>rfl
    | true=>rw[Z3b hu e1] at h1;cases h1
   ·exact h.lo y (Qq _ (Qq _ hy))}
theorem Zqj {L:List It}(h:L≠[]):∃ q r,L=q::r/\Zml L=q.1:=by
 cases L with
 | nil=>exact absurd rfl h
 | cons q r=>exact⟨q,r,rfl,rfl⟩
theorem Z1t {s:Rm}{l:Nat}{tb:Ky}{e:Bool}{M L:List It}{p:Nat}{c:It}(hM:Zb9 (Yn s l) M tb e=true) (hU:Up M) (hlow:e=true->∀ y∈M,Zq y.1 tb=true) (hc:M[p]? = some c) (hne:L≠[]) (hL:Bd c.1 (nxO (M.drop (p+1)) tb) (bxO (M.drop (p+1)) e) L) :
  Up (Zz s M p L).2.2/\(Zz s M p L).2.2≠[]/\(∀ q∈(Zz s M p L).2.2,q∈L\/∃ z∈M,q∈(rmV s z.2.1).2) /\
  ∃ A mid C y0 mr,M=A++(mid++C)/\mid=y0::mr/\A.length=(Zz s M p L).1/\mid.length=(Zz s M p L).2.1/\Zq (Zml (Zz s M p L).2.2) y0.1=false/\(bxO C e=true->Zq (Zml (Zz s M p L).2.2) (nxO C tb)=true):=by{
 obtain⟨q0,r0,hL0,hk0⟩:=Zqj hne;have hq0:q0∈L:=by rw[hL0];exact Qz
 have hp:=(Qe.1 hc).1;have hsplit:M=M.take p++([c]++M.drop (p+1)):=by
  have:=(Qe.1 hc).2;rw[Pt,<- this,Q5,Qv]
 have hkc:Zq (Zml L) c.1=false:=by rw[hk0];exact hL.lo q0 hq0
 have hkn:bxO (M.drop (p+1)) e=true->Zq (Zml L) (nxO (M.drop (p+1)) tb)=true:=fun h=>by rw[hk0];exact hL.hi h q0 hq0
 rcases Zjt s M p L with h | ⟨c2,hc2,_,h⟩ | ⟨b,j,rfl,hb,_,h⟩
 ·rw[h]
  exact⟨hL.up,hne,fun q hq=>.inl hq,M.take p,[c],M.drop (p+1),c,[],hsplit,rfl,by rw[Qs];omega,rfl,hkc,hkn⟩
 ·rw[h]
  obtain⟨n1,n2⟩:=Zpd hc2 tb e;obtain⟨t2,d2,y,r,ey,hy⟩:=Zc6 hM hc2;rw[n1,n2] at hL;have hd:M.drop (p+1)=c2::M.drop (p+2):=by
   have h2:=(Qe.1 hc2)
   rw[<- h2.2,Q5]
  refine⟨Qn.2 ⟨hL.up,d2.up,fun x hx z hz=>Zo5 (hL.hi rfl x hx) (d2.lo z hz)⟩,by rw[hL0];exact Qaf _ _,fun q hq=> ?_,M.take p,[c,c2],M.drop (p+2),c,[c2],?_,rfl,by rw[Qs];omega,rfl,?_,fun hb=> ?_⟩
  ·rcases Qg.1 hq with hq | hq
   ·exact .inl hq
   ·exact .inr ⟨c2,Qf hc2,hq⟩
  ·conv=>lhs;rw[hsplit,hd]
   rfl
  ·show Zq (Zml (L++(rmV s c2.2.1).2)) c.1=false
   rw[hL0] at hkc ⊢;exact hkc
  ·show Zq (Zml (L++(rmV s c2.2.1).2)) _=true
   have h1:Zq (Zml L) c2.1=true:=by rw[hk0];exact hL.hi rfl q0 hq0
   have h2:Zq c2.1 (nxO (M.drop (p+2)) tb)=true:=by
    cases hdr:M.drop (p+2) with
    | nil =>
     rw[hdr] at hb;exact hlow hb c2 (Qf hc2)
    | cons z q =>
     rw[hd,hdr] at hsplit;rw[hsplit] at hU;obtain⟨_,u2,_⟩:=Qn.1 hU;rw[Pt,Q6] at u2;exact(Q6.1 u2.2).1 z Qz
   have h3:=Yx h1 h2;rw[hL0] at h3 ⊢;exact h3
 ·rw[h]
  obtain⟨n1,n2⟩:=Zpd hc tb e;obtain⟨t2,d2,y,r,ey,hy⟩:=Zc6 hM hb;rw[n1,n2] at d2;have hsb:M=M.take j++([b,c]++M.drop (j+1+1)):=by
   have h1:=(Qe.1 hb)
   have h2:=(Qe.1 hc)
   conv=>lhs;rw[<- Qv j M,<- Q5 h1.1,<- Q5 h2.1,h1.2,h2.2]
   rfl
  have hkb:Zml ((rmV s b.2.1).2++L)=b.1:=by rw[ey];exact hy
  refine⟨Qn.2 ⟨d2.up,hL.up,fun x hx z hz=>Zo5 (d2.hi rfl x hx) (hL.lo z hz)⟩,by rw[ey];exact Qaf _ _,fun q hq=> ?_,M.take j,[b,c],M.drop (j+1+1),b,[c],hsb,rfl,by rw[Qs];show min j M.length=j;omega,rfl,?_,fun hbx=> ?_⟩
  ·rcases Qg.1 hq with hq | hq
   ·exact .inr ⟨b,Qf hb,hq⟩
   ·exact .inl hq
  ·show Zq (Zml ((rmV s b.2.1).2++L)) b.1=false
   rw[hkb];exact Zad _
  ·show Zq (Zml ((rmV s b.2.1).2++L)) _=true
   rw[hkb];rw[hsb] at hU;obtain⟨_,u2,_⟩:=Qn.1 hU;rw[show [b,c]++M.drop (j+1+1)=b::(c::M.drop (j+1+1)) from rfl,Q6] at u2;cases hdr:M.drop (j+1+1) with
   | nil =>
    rw[hdr] at hbx;exact hlow hbx b (Qf hb)
   | cons z q=>exact u2.1 z (by rw[hdr];exact List.mem_cons_of_mem _ Qz)}
theorem Z54 {A mid C up:List It}{p m:Nat}(hA:A.length=p) (hm:mid.length=m):Vx (A++(mid++C)) p m up=A++(up++C):=by
 subst hA;subst hm;unfold Vx;rw[List.take_left,<- Qag,Qah,Qah]
theorem Zip {k:Ky}{s:Rm}:∀ (l:Nat){a held:Int}{t:Rm}{b0 tb:Ky}{e:Bool}{L:List It},l<6->Zwo s l a tb e->(∀ y∈(rmV s a).2,Zq y.1 b0=false)->Zt k l s a=(0,t,L,held)->Bd b0 tb e L
 | 0,a,held,t,b0,tb,e,L,_,ht,hlo,h=>by
  unfold Zt at h;cases h;exact(Zwp ht hlo).sub (List.filter_sublist)
 | l+1,a,held,t,b0,tb,e,L,h6,ht,hlo,h=>by
  have hb:=Zwp ht hlo;have hM:Zb9 (Yn s l) (rmV s a).2 tb e=true:=ht.inn;have hne:0<(rmV s a).2.length:=(Zs (Yu ht.ok).1).1.2.2.2 (by rw[ht.lv];omega);obtain⟨c,hc⟩:∃ c,(rmV s a).2[Xg (rmV s a) k]? = some c:=⟨_,Qc (Zch k hne)⟩
  obtain⟨t1,L1,held1,h1,hways⟩:=Zds h;have hrw:Zb3 (rmV s a) k=c.2.1:=by unfold Zb3;rw[hc];rfl
  rw[hrw] at h1;obtain⟨tc,dc,_⟩:=Zc6 hM hc;have ih:=Zip l (by omega) tc dc.lo h1;rcases hways with ⟨_,_,rfl,_⟩ | ⟨hn1,u,up,hbu,_,rfl,_⟩
  ·refine hb.sub ?_
   unfold Vx;rw[Pk]
   conv=>rhs;rw[<- Qv (Xg (rmV s a) k) (rmV s a).2]
   exact List.Sublist.append_left (by rw[<- Qag];exact List.drop_sublist _ _) _
  ·obtain⟨hu,hn,_,A,mid,C,y0,mr,e1,e2,e3,e4,e5,e6⟩:=Z1t hM hb.up hb.hi hc hn1 ih
   obtain⟨q,hq⟩:∃ q:It,up.take 1=[q]/\q.1=Zml (Zz s (rmV s a).2 (Xg (rmV s a) k) L1).2.2:=by
    rcases Za5 hbu with ⟨_,_,rfl⟩ | ⟨h5,_,_,_,rfl⟩
    ·exact⟨_,rfl,rfl⟩
    ·refine⟨_,rfl,?_⟩
     obtain⟨q,r,e7,_⟩:=Zqj hn;rw[e7];rfl
   rw[hq.1];generalize Zz s (rmV s a).2 (Xg (rmV s a) k) L1=mg at *;rw[e1] at hb ⊢;rw[Z54 e3 e4];exact Z4t hb e2 (by rw[hq.2];exact e5) (by rw[hq.2];exact e6)
theorem Zmx {s t:Rm}{k:Ky}{l:Nat}{a held:Int}{tb:Ky}{e:Bool}{L:List It}(h6:l<6) (ht:Zwo s l a tb e) (h:Zt k l s a=(0,t,L,held)) (hne:L≠[]):Xn ((l:Int),L)=true:=by{
 have hb:∀ y∈(rmV s a).2,Zq y.1 (Zml (rmV s a).2)=false:=fun y hy=>by
  have hu:=Zgq (Yu ht.ok).1;obtain⟨q,r,e1,e2⟩:=Zqj (List.ne_nil_of_mem hy);rw[e2];rw[e1] at hu hy;rcases Zeg hu y hy with h | h
  ·rw[h];exact Zad _
  ·exact Zcd h
 have B:=Zip l h6 ht hb h;have G:=X8 h6 (Zdj ht) h;exact Zxq (by omega) (by omega) G.few (Qai.2 hne) B.up (Zjm (Zdj ht) h)}
theorem Zm4 {s t:Rm}{k:Ky}{l:Nat}{a held:Int}{tb:Ky}{e:Bool}{L:List It}(h6:l+1<6) (ht:Zwo s (l+1) a tb e) (h:Zt k l s (Zb3 (rmV s a) k)=(0,t,L,held)) (hne:L≠[]) :
  Xn ((l:Int),(Zz s (rmV s a).2 (Xg (rmV s a) k) L).2.2)=true:=by{
 have hM:Zb9 (Yn s l) (rmV s a).2 tb e=true:=ht.inn;have hn:0<(rmV s a).2.length:=(Zs (Yu ht.ok).1).1.2.2.2 (by rw[ht.lv];omega);obtain⟨c,hc⟩:∃ c,(rmV s a).2[Xg (rmV s a) k]? = some c:=⟨_,Qc (Zch k hn)⟩
 have hrw:Zb3 (rmV s a) k=c.2.1:=by unfold Zb3;rw[hc];rfl
 rw[hrw] at h;obtain⟨tc,dc,_⟩:=Zc6 hM hc;have G:=X8 (by omega) (Zdj tc) h;obtain⟨hu,hn',hin,_⟩:=Z1t hM (Zgq (Yu ht.ok).1) ht.low hc hne (Zip l (by omega) tc dc.lo h);have hfew:=(Zru (p:=Xg (rmV s a) k) G (Zch k hn) (fun q hq=>Zns ((Zdj ht).down hq))).few;refine Zxq (by omega) (by omega) hfew (Qai.2 hn') hu fun q hq=> ?_
 rcases hin q hq with hq | ⟨z,hz,hq⟩
 ·exact Zjm (Zdj tc) h q hq
 ·exact Zr3 ((Zdj ht).down hz) q hq}
theorem Zvz {P:Program}{w:Qaq}(dT sT ty elem:Qat) (g o dLen dCap:Nat) (a:Qas) (sLen sCap:Nat) (C:List Qar) (t:Qat) (cs:List Qar) (k:Nat)
  (hu:P.underlying dT=some (.slice elem)) (hs:(P.info? elem).map (·.size)=some 5)
  (hg:w.heap[g]? = some (.cells C.toArray t (0,0))) (hk:Nat.min sLen dLen=k) (hn:cs.length=k*5)
  (hsrc:∀ j v,cs[j]? = some v->w.cell? (a.add j)=some v) (hfit:o+cs.length<=C.length) (h1:∀ v∈cs,v.oneCell'=true) :
  (Qaj #[dT,sT] ty #[.slice (some ⟨g,o,none⟩) dLen dCap,.slice (some a) sLen sCap]).run P w=.ok (goInt k) (w.setRow g (splice C o cs).toArray):=by{
 have hl:=run_loadCells_list (P:=P) w a cs hsrc;have hst:=run_storeCells_at P g o t cs 0 C.toArray w hg (by simpa using hfit) h1;have hf:(Builtin.firstCells 5 k (.slice (some a) sLen sCap)).run P w=.ok cs.toArray w:=by
  have:=run_firstCells_some (P:=P) w 5 k a sLen sCap cs (by omega) hsrc;exact this
 cases hq:P.info? elem with
 | none=>simp[hq] at hs
 | some i =>
  have hi:i.size=5:=by simpa [hq] using hs
  simp only[Pn] at hst;simp[Qaj,run_underlying hu,Builtin.lenOf,sizeOf,typeInfo,hq,hi,hk,hf,hst,splice]}
theorem Zcn {w:Qaq}{g:Nat}(cs:Array Qar):w.grownBy (w.setRow g cs) (some g) :=
 ⟨rfl,rfl,rfl,by simp[World.setRow],fun k _ hne=>setRow_other w g k cs (fun e=>hne (by rw[e]))⟩
theorem Zyz (w:Qaq) (n:Nat) (row:Option Nat):w.grownBy (w.drewN n) row:=⟨rfl,rfl,rfl,Qd _,fun _ _ _=>rfl⟩
theorem Zf2 {w w2:Qaq}{n:Nat}{r:Option Nat}(h:(w.drewN n).grownBy w2 r):w.grownBy w2 r:=⟨h.os,h.tape,h.output,h.size,h.block⟩
theorem Za0 {w w2:Qaq}{r:Option Nat}(h:w.drew.grownBy w2 r):w.grownBy w2 r:=⟨h.os,h.tape,h.output,h.size,h.block⟩
theorem Zgh {P:Program}{w:Qaq}{ops:Array Oper}{rest:List Oper}{o:Oper}{a:Act}{Q:Exit->Act->Qaq->Prop}(hgd:o.guard=none) (d s:Operand) (dT sT:Qat)
  (ho:o.op=.call { callee:=.builtin .copy,args:=#[d,s],argTypes:=#[dT,sT] }) (elem:Qat) (hu:P.underlying dT=some (.slice elem)) (hsz:(P.info? elem).map (·.size)=some 5)
  (dp sp:Option Qas) (dLen dCap sLen sCap:Nat) (hd:a.eval d=.slice dp dLen dCap) (hs:a.eval s=.slice sp sLen sCap)
  (g off:Nat) (C:List Qar) (t:Qat) (hg:w.heap[g]? = some (.cells C.toArray t (0,0))) (cs:List Qar) (k:Nat) (hk:Nat.min sLen dLen=k) (hn:cs.length=k*5)
  (hdp:dp=some ⟨g,off,none⟩) (ad:Qas) (hsp:sp=some ad) (hsrc:∀ j v,cs[j]? = some v->w.cell? (ad.add j)=some v)
  (hfit:off+cs.length<=C.length) (h1:∀ v∈cs,v.oneCell'=true)
  (h:∀ w',Hid (w'.heap[g]? = some (.cells (splice C off cs).toArray t (0,0)))->Hid (w.grownBy w' (some g))->wpList P ops Q rest (a.put o.dst (goInt k)) w') :
  wpList P ops Q (o::rest) a w:=by
 subst hdp;subst hsp;refine wpList_plain hgd fun K hK=> ?_
 have hrun:=Zvz (P:=P) dT sT o.type elem g off dLen dCap ad sLen sCap C t cs k hu hsz hg hk hn hsrc hfit h1;unfold Oper.wp;simp[execOp,ho,resolve,invoke,builtin,hd,hs,hrun,Result.andThen];exact hK _ _ (h _ (show _=_ by simpa using setRow_heap w g _ _ t _ hg) (Zcn _))
theorem Zef {P:Program}{w:Qaq}{ops:Array Oper}{rest:List Oper}{o:Oper}{a:Act}{Q:Exit->Act->Qaq->Prop}(hgd:o.guard=none) (x:Operand) (t:Qat)
  (ho:o.op=.call { callee:=.builtin .clear,args:=#[x],argTypes:=#[t] }) (elem:Qat) (hu:P.underlying t=some (.slice elem)) (A:Option Qas) (c:Nat) (hx:a.eval x=.slice A 0 c)
  (h:wpList P ops Q rest (a.put o.dst (.tuple #[])) w):wpList P ops Q (o::rest) a w:=by{
 refine wpList_plain hgd fun K hK=> ?_
 have hrun:(Qak #[t] o.type #[.slice A 0 c]).run P w=.ok (.tuple #[]) w:=by
  cases A <;> simp[Qak,run_underlying hu]
 unfold Oper.wp;simp[execOp,ho,resolve,invoke,builtin,hx,hrun,Result.andThen];exact hK _ _ h}
theorem Zaq {C Y:List Qar}{a:Nat}(h:a<=C.length):(splice C a Y).take (a+Y.length)=C.take a++Y:=by
 unfold splice;rw[<- Pw,List.take_append_of_le_length (by simp;omega)];exact Qw (by simp;omega)
theorem Zo7 {C Y:List Qar}{a k:Nat}(h:a+Y.length<=C.length) (hk:a+Y.length<=k):(splice C a Y)[k]? = C[k]? := by
 unfold splice;rw[Po (by rw[Qs];omega),Qs,Qal (by omega),Po (by omega),Pf]
 congr 1
 omega
theorem Zh9 {w:Qaq}{b k:Nat}{C:List Qar}{t:Qat}(h:w.heap[b]? = some (.cells C.toArray t (0,0))):w.cell? ⟨b,k,none⟩=C[k]? := by
 rw[cell_of_row w b k _ _ _ h];simp
theorem Ztg {C Y X:List Qar}{a b:Nat}(hb:b=a+Y.length) (h:b+X.length<=C.length):(splice (splice C a Y) b X).take (b+X.length)=C.take a++(Y++X):=by
 subst hb;have hl:(splice C a Y).length=C.length:=length_splice C a Y (by omega);rw[Zaq (by rw[hl];omega),Zaq (by omega),Pw]
theorem Vk:∀ (a b:List Iv),Zp (a++b)=Zp a++Zp b
 | [],_=>rfl
 | x::r,b=>by
  show Uf x++Zp (r++b)=(Uf x++Zp r)++Zp b;rw[Vk r b,Pw]
theorem Zdo (x:Iv) (r:List Iv):Zp (x::r)=Uf x++Zp r:=rfl
theorem Zbz:∀ (ps:List Iv) (k:Nat),Zp (ps.take k)=(Zp ps).take (k*5)
 | [],k=>by
  rw[Qam];exact Qam.symm
 | x::r,0=>by
  rw[Pb,Qt,Qt];rfl
 | x::r,k+1=>by
  rw[Q3,Zdo,Zdo,Zbz r k,List.take_append,show (Uf x).length=5 from rfl,show (k+1)*5-5=k*5 by omega,Qw (show (Uf x).length<=(k+1)*5 by show 5<=_;omega)]
theorem Zht:∀ (ps:List Iv) (k:Nat),Zp (ps.drop k)=(Zp ps).drop (k*5)
 | [],k=>by
  rw[Qan];exact Qan.symm
 | x::r,0=>by
  rw[Pb,Qk,Qk]
 | x::r,k+1=>by
  rw[Qu,Zdo,Zht r k,List.drop_append,show (Uf x).length=5 from rfl,show (k+1)*5-5=k*5 by omega,Pr (show (Uf x).length<=(k+1)*5 by show 5<=_;omega),Pk]
theorem Xs {w:Qaq}{lo n c:Nat}{ad:Qas}{t:Qat}{xs:List Qar}(h:w.ownsRow lo t 5 (.slice (some ad) n c) n xs) :
  ∃ b C,ad=⟨b,0,none⟩/\lo<=b/\b<w.heap.size/\w.heap[b]? = some (.cells (List.toArray C) t (0,0))/\n<=c/\c<=maxLen/\C.length=c*5/\C.take (n*5)=xs:=by{
 rcases h.2 with ⟨e,_⟩ | ⟨g,cap,cur,e,hb,hg,h1,h2,h3,h4⟩
 ·cases e
 ·cases e
  exact⟨g,cur.toList,rfl,hb,(Qj.1 hg).1,by simpa using hg,h1,h2,by simpa using h3,h4⟩}
theorem Zbd {w:Qaq}{lo b n c:Nat}{t:Qat}{C xs:List Qar}(hb:lo<=b) (hg:w.heap[b]? = some (.cells C.toArray t (0,0))) (h1:n<=c) (h2:c<=maxLen) (h3:C.length=c*5) (h4:C.take (n*5)=xs):w.ownsRow lo t 5 (.slice (some ⟨b,0,none⟩) n c) n xs :=
 ⟨by rw[<- h4,Qs,h3];omega,.inr ⟨b,c,C.toArray,rfl,hb,hg,h1,h2,by simpa using h3,by simpa using h4⟩⟩
theorem Znu {w:Qaq}{lo n c:Nat}{b:Nat}{t:Qat}{ps:List Iv}(h:w.ownsRow lo t 5 (.slice (some ⟨b,0,none⟩) n c) n (Zp ps)) (k:Nat):∀ j v,(Zp (ps.drop k))[j]? = some v->w.cell? ((⟨b,k*5,none⟩:Qas).add j)=some v:=fun j v hj=>by
 rw[Zht,Pf] at hj;have:=h.cells (g:=b) rfl _ _ hj;rw[Uq] at this ⊢
 rwa [Pj] at this
theorem Zfj {ps:List Iv}{n:Nat}{w:Qaq}{lo:Nat}{t:Qat}{v:Qar}(h:w.ownsRow lo t 5 v n (Zp ps)):ps.length=n:=by
 have:=h.1;rw[Xp] at this;omega
theorem Zn5:(Tryz.prog.info? 54).map (·.size)=some 5:=by kernel_rfl
theorem Zr4 {a b k:Nat}(h:(a<=b/\k=a)\/(b<=a/\k=b)):Nat.min a b=k:=by
 rcases h with ⟨h1,rfl⟩ | ⟨h1,rfl⟩
 ·exact Qal h1
 ·exact Nat.min_eq_right h1
theorem Zuc {ok:Qas->Prop}{w:Qaq}(hok:∀ p,ok p->p.block<w.heap.size){A:Option Qas}{n c:Nat}{xs:List It}(h:Y6 ok w [.slice A n c] xs):∃ ps:List Iv,ps.map (·.1)=xs/\Z2g w w.heap.size A (Zp ps)/\(∀ p∈ps,InI p.1/\rBy ok w [p.2] p.1.2.2):=by{
 obtain⟨ps,hl,hps⟩:=Zfw (n:=xs.length) (p:=fun i (p:Iv)=>xs[i]? = some p.1/\∃ ad,A=some ad/\(∀ j v,(Uf p)[j]? = some v->ad.block<w.heap.size/\w.cell? (ad.add (i*5+j))=some v)/\InI p.1/\rBy ok w [p.2] p.1.2.2) (fun i hi=>by
  have hx:xs[i]? = some xs[i]:=Qc hi;obtain⟨_,_,e,_,_,h4⟩:=id h;cases e;obtain⟨ad,vs,rfl,e5,q,r⟩:=h4 i _ hx;obtain⟨d,rfl,hin,hd⟩:=Zmd r
  exact⟨(xs[i],d),hx,ad,rfl,fun j v hj=>⟨by have:=hok _ (q j v hj).1;rwa [Zh] at this,(q j v hj).2⟩,hin,hd⟩)
 refine⟨ps,?_,?_,fun p hp=> ?_⟩
 ·apply Px
  intro i;rw[Pc];cases e:ps[i]? with
  | none =>
   have:xs.length<=i:=by rw[<- hl];exact Qao.1 e
   rw[Q4 this];rfl
  | some p=>exact(hps i p e).1.symm
 ·intro j v hj
  have hlt:=(Qe.1 hj).1;rw[Xp] at hlt;obtain⟨p,hp⟩:∃ p,ps[j / 5]? = some p:=⟨_,Qc (by omega)⟩
  obtain⟨_,ad,rfl,hc,_⟩:=hps _ p hp;obtain⟨u,hu⟩:∃ u,(Uf p)[j % 5]? = some u:=⟨_,Qc (by show j % 5<5;omega)⟩
  have h1:=Zce hp _ _ hu;rw[show j / 5*5+j % 5=j by omega,hj] at h1;cases h1;have:=hc _ _ hu;rw[show j / 5*5+j % 5=j by omega] at this;exact⟨ad,rfl,this.1,this.2⟩
 ·obtain⟨i,hi⟩:=Qap.1 hp
  obtain⟨_,_,_,_,h1,h2⟩:=hps i p hi;exact⟨h1,h2⟩}
theorem Zzn {ok:Qas->Prop}{w:Qaq}{ad:Qas}{n c:Nat}{b:List It}(h:Y6 ok w [.slice (some ad) n c] b) (k:Nat) (hk:k<=b.length):Y6 ok w [.slice (some (ad.add (k*5))) (n-k) (c-k)] (b.drop k):=by
 obtain⟨A,cap,e,h2,h3,h4⟩:=h;cases e;refine⟨some (ad.add (k*5)),c-k,by rw[Pv],by rw[Pv];omega,by omega,fun i x hi=> ?_⟩;rw[Pf] at hi;obtain⟨ad',vs,e1,e2,e3,e4⟩:=h4 (k+i) x hi;cases e1;refine⟨ad.add (k*5),vs,rfl,e2,fun j v hj=> ?_,e4⟩;have:=e3 j v hj;rw[Zmb,show k*5+(i*5+j)=(k+i)*5+j by omega];exact this
theorem Zgx {ok:Qas->Prop}{w:Qaq}{A:Option Qas}{c:Nat}(hc:c<=9223372036854775807):Y6 ok w [.slice A 0 c] []:=⟨A,c,rfl,by simp,hc,fun i x h=>by simp at h⟩
theorem Zdv {lo:Nat}{w:Qaq}{A:Option Qas}{c:Nat}{xs:List It}(h:Ya rIt 5 54 lo w A c xs):∃ ps:List Iv,ps.map (·.1)=xs/\w.ownsRow lo 54 5 (.slice A xs.length c) xs.length (Zp ps)/\∀ p∈ps,InI p.1/\rBy (Xx lo A w) w [p.2] p.1.2.2:=by{
 obtain⟨cs,ho,hcs⟩:=h
 obtain⟨ps,hl,hps⟩:=Zfw (n:=xs.length) (p:=fun i (p:Iv)=>xs[i]? = some p.1/\(∀ j u,(Uf p)[j]? = some u->cs[i*5+j]? = some u)/\InI p.1/\rBy (Xx lo A w) w [p.2] p.1.2.2) (fun i hi=>by
  have hx:xs[i]? = some xs[i]:=Qc hi;obtain⟨vs,e5,hc,r⟩:=hcs i _ hx;obtain⟨d,rfl,hin,hd⟩:=Zmd r
  exact⟨(xs[i],d),hx,hc,hin,hd⟩)
 have hmap:ps.map (·.1)=xs:=by
  apply Px;intro i;rw[Pc];cases e:ps[i]? with
  | none =>
   have:xs.length<=i:=by rw[<- hl];exact Qao.1 e
   rw[Q4 this];rfl
  | some p=>exact(hps i p e).1.symm
 have hcell:cs=Zp ps:=by
  apply Px;intro j;rcases Nat.lt_or_ge j (xs.length*5) with hj | hj
  ·obtain⟨p,hp⟩:∃ p,ps[j / 5]? = some p:=⟨_,Qc (by omega)⟩
   obtain⟨u,hu⟩:∃ u,(Uf p)[j % 5]? = some u:=⟨_,Qc (by show j % 5<5;omega)⟩
   have h1:=Zce hp _ _ hu;have h2:=(hps _ p hp).2.1 _ _ hu;rw[show j / 5*5+j % 5=j by omega] at h1 h2;rw[h1,h2]
  ·rw[Q4 (by rw[ho.1];exact hj),Q4 (by rw[Xp,hl];exact hj)]
 exact⟨ps,hmap,hcell ▸ ho,fun p hp=>by
  obtain⟨i,hi⟩:=Qap.1 hp
  exact(hps i p hi).2.2⟩}
theorem Zlr {lo n c:Nat}{w:Qaq}{A:Option Qas}{ps:List Iv}(h:w.ownsRow lo 54 5 (.slice A n c) n (Zp ps)) (hp:∀ p∈ps,InI p.1/\rBy (Old w) w [p.2] p.1.2.2):Y6 (Old w) w [.slice A n c] (ps.map (·.1)):=by
 have hl:=Zfj h;refine Zis (fun p _ hn=>hn.2.1) h (by rw[Pp];exact hl) fun i x hi=> ?_
 rw[Pc] at hi;obtain⟨p,hp',rfl⟩:=Option.map_eq_some_iff.1 hi;obtain⟨h1,h2⟩:=hp p (Qf hp');exact⟨Uf p,rfl,fun j u hj=>Zce hp' j u hj,Zxe h1 h2⟩
theorem Zks {ok:Qas->Prop}{w:Qaq}{ps:List Iv}(h:∀ p∈ps,InI p.1/\rBy ok w [p.2] p.1.2.2):∀ p∈ps,p.2.oneCell'=true:=fun p hp=>Z15 (h p hp).2
end Go.Proofs.YtgmbjnajdfgenaaGreat
