/-
  Lemmas on the program and on the document's answers, gathered: FrCnt, MrkNew, FrSee, WkRise, FrTell, FrGrown, FrPlace, FrTakes, PuIns, PuIns2, PuRep, PtKeep, PtEnough, PtMake, PtLists, PtBuilt, PtGrow, PtGrown, PtPut, PuStep, PuItems, DrStack, RmTwin, DrHold, RmRefT, DrMake, DrRefer, DrRefs, DrRefs2, DrLower, DrGo, DrGo2, DrMk, DrLaw. Conditions: those that each lemma states.
-/
import Derived.Test.YtmafkphcfkhokaaGreatBnd3
import Derived.Test.YtmafkphcfkhokaaGreatProg
import Derived.Shelf.SlIterI.Keys
import Derived.Shelf.SlIterI.Stops
import Derived.Shelf.SlIterI.Sorted
import Derived.Shelf.SortM.Plain
import Derived.Shelf.SortM.SortNone
import Derived.Maps.OwnSet
import Derived.StillTailTactics
set_option maxRecDepth 100000
set_option maxHeartbeats 16000000
open Array renaming getElem?_eq_some_iff → Qa, getElem?_modify → Pm, replicate_succ → P8, replicate_zero → Qaa, length_toList → Qat
open Bool renaming and_eq_true → Qn
open Go renaming World → Qa9, Value → Qba, Addr → Qbb, TypeId → Qbc, bodyPost_ret → Qbd, heap_alloc_new → Qbe, undef → Qbf, Calls → Qbg, Ending → Qbh
open Go.Act renaming put → Qd
open Go.Builtin renaming append_ → Pt, zeroCells → Qas
open Go.IntWalk renaming i64_in → Qag
open Go.RowKit renaming Below → Qbi
open Go.RowKit.Below renaming refl → Qb, heap_alloc → Ph
open Go.World renaming size_alloc → Qm, cell?_of_block → Qu, setCell → Pk, ownsRow_nil → Qak, block_lt_of_cell? → Qao, shape? → Qap, frozen? → Qaq
open List renaming getElem?_eq_getElem → Qe, getElem?_eq_some_iff → Qf, length_append → Qg, mem_cons_of_mem → Qh, mem_cons_self → Qi, length_drop → Qj, mem_cons → Qk, mem_filter → Qo, length_take → Qp, length_map → Qq, length_cons → Qr, mem_append → Qs, take_append_drop → Qv, mem_of_mem_drop → Qw, mem_singleton → Qx, length_nil → Qy, getElem?_map → Qz, cons_append → Q3, mem_append_right → Q5, map_cons → Q6, take_of_length_le → Q7, mem_of_getElem? → Q9, append_nil → Pa, take_take → Pd, mem_append_left → Pe, exists_cons_of_ne_nil → Pf, flatMap_append → Pg, all_eq_true → Pi, take_succ_cons → Pn, take_zero → Po, drop_succ_cons → Pp, drop_zero → Pq, getElem?_of_mem → Pu, getElem?_drop → Pv, mem_of_mem_take → Pw, getElem?_eq_none → Px, sum_cons → Py, size_toArray → Pz, push_toArray → Qab, append_toArray → Qac, nil_append → Qad, getElem_map → Qae, mem_range → Qaf, getElem?_replicate → Qah, getElem_cons_drop → Qai, take_append_getElem → Qaj, mem_iff_getElem? → Qal, find?_eq_none → Qam, find?_eq_some_iff_getElem → Qan, toArray → Qar, drop_of_length_le → Qau, filter_eq_self → Qav, pairwise_append → Qaw, Pairwise → Qax, pairwise_cons → Qay, drop_eq_getElem_cons → Qaz, mem_flatMap → Qa0, ext_getElem? → Qa1, map_append → Qa2, map_nil → Qa3, ext_getElem → Qa4, getElem_range → Qa5, length_reverse → Qa6, reverse_append → Qa7, getElem?_append_right → Qa8
open Nat renaming le_refl → Qc, le_trans → Ql, lt_of_lt_of_le → Qt, min_eq_left → Q0, add_zero → Q8, lt_or_ge → Pj, mul_le_mul_right → Pr, mul_one → Ps, reduceAdd → P5, reduceSub → P7
noncomputable section
namespace Go.Proofs.YtmafkphcfkhokaaGreat
open Go.RowKit
def Z0f (nw:List UInt8) (X:List Int):Bool:=(List.range 256).all fun i=>decide (X[i]?.getD 0<=((nw[i]?.getD 0).toNat:Int))
theorem Z1j {nw:List UInt8}{X:List Int}{k:Nat}(hk:k<256) (h:((nw[k]?.getD 0).toNat:Int)<X[k]?.getD 0):Z0f nw X=false:=by{
 cases e:Z0f nw X with
 | false=>rfl
 | true =>
  unfold Z0f at e;rw[Pi] at e;have:=of_decide_eq_true (e k (Qaf.2 hk));omega}
theorem Z0a {nw:List UInt8}{X:List Int}(h:∀ k,k<256->X[k]?.getD 0<=((nw[k]?.getD 0).toNat:Int)):Z0f nw X=true:=by
 unfold Z0f;rw[Pi];exact fun k hk=>decide_eq_true (h k (Qaf.1 hk))
theorem Zne (nw:List UInt8) (X:List Int) (q0 q1 q3 q4 q5 q6 q7 q8 q10:Qba) (N:Option Qbb) (cn g2:Nat) (w:Qa9) (hl:nw.length=256) (hN:rBy (Old w) w [.slice N 256 cn] nw) (hM:Mrk g2 X w) (hX:∀ k:Nat,0<=X[k]?.getD 0) :
  Qbg Tryz.prog 59 #[.agg #[q0,q1,.slice N 256 cn,q3,q4,q5,q6,q7,q8,.slice (some ⟨g2,0,none⟩) 256 256,q10]] w fun e w'=>e=.returned (.bool (Z0f nw X))/\Qbi w.heap.size w w':=by{
 obtain⟨w1,hw1,k1,hs1,hB1⟩:=Uf w q0 q1 (.slice N 256 cn) q3 q4 q5 q6 q7 q8 (.slice (some ⟨g2,0,none⟩) 256 256) q10 71;have hM1:=Za (Zbs _ _ _ _ hM hB1);obtain⟨_,_,e,_,_,hc⟩:=Zo (Zf.old hN hB1);have hcell:=Za (fun i (hi:i<256)=>hc i (by omega));obtain⟨s0,s1,s2,s3,s4,s5,s6,s7,s8,s9,s10,_⟩:=Zg k1;have K1:=Za k1;have B1:=Za hB1;rw[hl] at e;cases e;obtain⟨bq,hbq⟩:∃ q,Z0f nw X=q:=⟨_,rfl⟩
 rw[hbq];have hno:=Za (fun k (hk:k<256) (h:((nw[k]?.getD 0).toNat:Int)<X[k]?.getD 0)=>hbq.symm.trans (Z1j hk h));have hyes:=Za (fun(h:∀ k,k<256->X[k]?.getD 0<=((nw[k]?.getD 0).toNat:Int))=>hbq.symm.trans (Z0a h));replace hbq:=Za hbq;replace hs1:=Za hs1;replace hX:=Za hX;clear hN hM hB1 hc k1 hl
 go_enter Tryz.func59,Tryz.ntmps59
 go_upto_region 1 with fail
 clear hw1
 go_wp2_with fail
 clear s0 s1 s2 s3 s4 s5 s6 s7 s8 s9 s10
 go_loopw [8] (fun vi wr=>∃ k:Nat,k<=256/\vi=.int .i64 k/\(∀ i,i<k->X[i]?.getD 0<=((nw[i]?.getD 0).toNat:Int))/\Qbi w1.heap.size w1 wr) (fun vi _=>256-(intOf vi).toNat)
 case atStart=>exact⟨0,by omega,rfl,fun i hi=>by omega,Qb _ _⟩
 case round =>
 obtain⟨k,hk,rfl,hall,hbr⟩:=hrel;have BR:=Za hbr;have HA:=Za hall;by_cases hlt:k<256
 case neg =>
  obtain rfl:bq=true:=hyes.out fun i hi=>hall i (by omega)
  have BF:=Za (B1.out.trans (hbr.mono B1.out.size));clear hall hbr
  go_wp2_with fail
  go_ret;exact⟨rfl,BF.out⟩
 have hm:=Zbs _ _ _ _ hM1.out hbr;have hc2:=Zcl hm hlt;obtain⟨ad,rfl,ho,hc1⟩:=hcell.out k hlt;have hc1':=(hbr.cell ho).trans hc1;obtain⟨zz,hzz⟩:∃ z,X[k]?.getD 0=z:=⟨_,rfl⟩
 obtain⟨yy,hyy⟩:∃ z,((nw[k]?.getD 0).toNat:Int)=z:=⟨_,rfl⟩
 rw[hzz] at hc2;rw[hyy] at hc1';have hy0:0<=yy/\yy<256:=by
  have:=(nw[k]?.getD 0).toNat_lt;omega
 have wr1:IntKind.i64.wrap yy=yy:=Qag _ (by omega);obtain⟨s0,s1,s2,s3,s4,s5,s6,s7,s8,s9,s10,_⟩:=Zg ((hbr.block _ (Qa.1 K1.out).1).trans K1.out);have i4:(0:Int)<=(k:Int):=by omega
 have i5:(k:Int)<256:=by omega
 have hzz':=Za hzz;have hyy':=Za hyy;have BF:=Za (B1.out.trans (hbr.mono B1.out.size));by_cases hlt2:yy<zz
 ·obtain rfl:bq=false:=hno.out k hlt (by rw[hzz,hyy];exact hlt2)
  clear hm hall hbr hc1 ho hzz hyy
  go_wp2_with fail
  go_ret;exact⟨rfl,BF.out⟩
 ·have hA:Hid (∀ i,i<k+1->X[i]?.getD 0<=((nw[i]?.getD 0).toNat:Int)):=Za fun i hi=>by
   rcases Pj i k with h | h
   ·exact hall i h
   ·obtain rfl:i=k:=by omega
    rw[hzz,hyy];omega
  clear hm hall hbr hc1 ho hzz hyy
  go_wp2_with fail
  go_roundw
  case rel=>exact⟨k+1,by omega,by go_num,hA.out,BR.out⟩
  case measure=>simp[intOf];omega}
theorem Zlt (nw:List UInt8) (X:List Int) (q0 q1 q3 q4 q5 q6 q7 q8 q10:Qba) (N:Option Qbb) (cn g2:Nat) (a:Nat) (w:Qa9) (hl:nw.length=256) (hN:rBy (Old w) w [.slice N 256 cn] nw) (hM:Mrk g2 X w) (ha:a<256) :
  Qbg Tryz.prog 63 #[.agg #[q0,q1,.slice N 256 cn,q3,q4,q5,q6,q7,q8,.slice (some ⟨g2,0,none⟩) 256 256,q10],.int .i64 a] w fun e w'=>e=.returned (.bool (decide (X[a]?.getD 0<((nw[a]?.getD 0).toNat:Int))))/\Qbi w.heap.size w w':=by{
 obtain⟨w1,hw1,k1,hs1,hB1⟩:=Uf w q0 q1 (.slice N 256 cn) q3 q4 q5 q6 q7 q8 (.slice (some ⟨g2,0,none⟩) 256 256) q10 71;have hm:=Zbs _ _ _ _ hM hB1;obtain⟨_,_,e,_,_,hc⟩:=Zo (Zf.old hN hB1);rw[hl] at e;cases e;obtain⟨ad,rfl,_,hc1⟩:=hc a (by omega);have hc2:=Zcl hm ha;obtain⟨zz,hzz⟩:∃ z,X[a]?.getD 0=z:=⟨_,rfl⟩
 obtain⟨yy,hyy⟩:∃ z,((nw[a]?.getD 0).toNat:Int)=z:=⟨_,rfl⟩
 rw[hzz] at hc2;rw[hyy] at hc1;rw[hzz,hyy];have hy0:0<=yy/\yy<256:=by
  have:=(nw[a]?.getD 0).toNat_lt;omega
 have wr1:IntKind.i64.wrap yy=yy:=Qag _ (by omega);obtain⟨s0,s1,s2,s3,s4,s5,s6,s7,s8,s9,s10,_⟩:=Zg k1;have i4:(0:Int)<=(a:Int):=by omega
 have i5:(a:Int)<256:=by omega
 have B1:=Za hB1;replace hzz:=Za hzz;replace hyy:=Za hyy;replace hs1:=Za hs1;clear hN hM hB1 hc k1 hl hm
 go_enter Tryz.func63,Tryz.ntmps63
 go_upto_region 1 with fail
 clear hw1
 go_quiet (fail)
 go_wp2_with fail
 go_ret;exact⟨by simp,Vo B1.out _⟩}
theorem Zxd:∃ vs:Array Qba,(∀ k,k<256->vs[k]? = some (.int .i64 0))/\∀ W:Qa9,(Instr.makeSlice 31 (.int .i64 256) (.int .i64 256)).run Tryz.prog W=.ok (.slice (some ⟨W.heap.size,0,none⟩) 256 256) (W.alloc (.cells vs 3)):=by{
 obtain⟨i0,hi,hz0,hz1,hz2⟩:=info_parts Zlp;refine⟨madeCells #[.int .i64 0] (256*1),fun k hk=> ?_,fun W=> ?_⟩
 ·have:=Zkh (.int .i64 0) 256
  rw[<- Array.getElem?_toList,this,Qah,if_pos hk]
 ·have h1:=run_make (P:=Tryz.prog) W 31 3 i0 (.int .i64 0) Tryz.underlying31 hi hz0 .i64 .i64 256 256 (by omega) (by omega) (by rw[hz2];omega) (by omega)
  rw[hz1] at h1;exact h1}
theorem Z2x {vs:Array Qba}(hv:∀ k,k<256->vs[k]? = some (.int .i64 0)) (W:Qa9):Mrk W.heap.size (List.replicate 256 0) (W.alloc (.cells vs 3)) :=
 ⟨vs,Qbe _ _,List.length_replicate,fun k hk=>by rw[hv k hk,Qah,if_pos hk];rfl⟩
theorem Z44 {g:Nat}{X:List Int}{W:Qa9}(h:Mrk g X W) (hb:∀ k:Nat,Zcz (X[k]?.getD 0)):rSl 1 (rK .i64) (Old W) W [.slice (some ⟨g,0,none⟩) 256 256] X:=by{
 have hlt:=Z0t h;have hl:X.length=256:=by
  obtain⟨_,_,h1,_⟩:=h;exact h1
 refine⟨some ⟨g,0,none⟩,256,by rw[hl],by omega,by omega,fun i x hx=>⟨⟨g,0,none⟩,[.int .i64 x],rfl,rfl,fun j u hj=> ?_,?_⟩⟩
 ·have hi:i<256:=by
   have:=(Qf.1 hx).1;omega
  have hj0:j=0:=by
   have:=(Qf.1 hj).1;simp at this;exact this
  subst hj0;cases hj;have ea:(⟨g,0,none⟩:Qbb).add (i*1+0)=⟨g,i,none⟩:=by
   unfold Addr.add;split
   ·rename_i e
    have:i=0:=by omega
    subst this;rfl
   ·simp
  rw[ea];refine⟨hlt,?_⟩;rw[Zcl h hi,hx];rfl
 ·have:=hb i
  rw[hx] at this;exact Zi5 this}
def Pol (ok:Qbb->Prop) (w:Qa9) (v:Qba) (p:Pl):Prop:=∃ a b n l d,v=.agg #[a,b,n,l,.int .u32 p.2.1,.int .i64 p.2.2.1,.int .u32 p.2.2.2.1,d]/\Sto ok w (.agg #[a,b,n,l]) p.1/\(InU p.2.1/\Zcz p.2.2.1/\InU p.2.2.2.1)/\rSl 1 (rK .i64) ok w [d] p.2.2.2.2
section
variable {ok ok' : Qbb -> Prop}{w w' : Qa9}{v : Qba}{p : Pl}
theorem Pol.open (h:Pol ok w v p):∃ A ca B cb N cn L cl D dc,v=.agg #[.slice A p.1.1.1.length ca,.slice B p.1.1.2.length cb,.slice N p.1.2.1.length cn,.slice L p.1.2.2.length cl,.int .u32 p.2.1,.int .i64 p.2.2.1,.int .u32 p.2.2.2.1,.slice D p.2.2.2.2.length dc] /\
  Sto ok w (.agg #[.slice A p.1.1.1.length ca,.slice B p.1.1.2.length cb,.slice N p.1.2.1.length cn,.slice L p.1.2.2.length cl]) p.1/\(InU p.2.1/\Zcz p.2.2.1/\InU p.2.2.2.1)/\rSl 1 (rK .i64) ok w [.slice D p.2.2.2.2.length dc] p.2.2.2.2/\p.2.2.2.2.length<=dc/\dc<=9223372036854775807:=by
 obtain⟨a,b,n,l,d,rfl,h1,h2,h3⟩:=h;obtain⟨A,ca,B,cb,N,cn,L,cl,e,_⟩:=id h1.open;cases e;obtain⟨D,dc,e,h4,h5,_⟩:=id h3;cases e;exact⟨A,ca,B,cb,N,cn,L,cl,D,dc,rfl,h1,h2,h3,h4,h5⟩
end
theorem Vc {W:Qa9}{o:Nat}{a b c d e f g h i j k a' b' c' d' e' f' g' h' i' j' k':Qba}{t:Qbc}(hz:W.heap[o]? = some (.cells #[a,b,c,d,e,f,g,h,i,j,k] t (0,0))) :
  ∃ W1,((((((((((W.setCell ⟨o,0,none⟩ a').setCell ⟨o,1,none⟩ b').setCell ⟨o,2,none⟩ c').setCell ⟨o,3,none⟩ d').setCell ⟨o,4,none⟩ e').setCell ⟨o,5,none⟩ f').setCell ⟨o,6,none⟩ g').setCell ⟨o,7,none⟩ h').setCell ⟨o,8,none⟩ i').setCell ⟨o,9,none⟩ j').setCell ⟨o,10,none⟩ k'=W1 /\
   W1.heap[o]? = some (.cells #[a',b',c',d',e',f',g',h',i',j',k'] t (0,0))/\W.grownBy W1 (some o)/\W1.heap.size=W.heap.size:=by
 exact⟨_,rfl,by simp[Pk,Pm,hz],Zp (p:=⟨o,10,none⟩) (Zp (p:=⟨o,9,none⟩) (Zp (p:=⟨o,8,none⟩) (Zp (p:=⟨o,7,none⟩) (Zp (p:=⟨o,6,none⟩) (Zp (p:=⟨o,5,none⟩) (Zp (p:=⟨o,4,none⟩) (Zp (p:=⟨o,3,none⟩) (Zp (p:=⟨o,2,none⟩) (Zp (p:=⟨o,1,none⟩) (Zp (p:=⟨o,0,none⟩) (Ye W (some o)) rfl a') rfl b') rfl c') rfl d') rfl e') rfl f') rfl g') rfl h') rfl i') rfl j') rfl k',by simp⟩
theorem Z32 {W:Qa9}{o:Nat}{a b c d e f g h i j k k':Qba}{t:Qbc}(hz:W.heap[o]? = some (.cells #[a,b,c,d,e,f,g,h,i,j,k] t (0,0))) :
  ∃ W1,W.setCell ⟨o,10,none⟩ k'=W1/\W1.heap[o]? = some (.cells #[a,b,c,d,e,f,g,h,i,j,k'] t (0,0))/\W.grownBy W1 (some o)/\W1.heap.size=W.heap.size :=
 ⟨_,rfl,by simp[Pk,Pm,hz],Zp (p:=⟨o,10,none⟩) (Ye _ _) rfl _,by simp⟩
theorem Zs6 {W:Qa9}{g1 g2:Nat}(h1:g1<W.heap.size) (h2:g2<W.heap.size){a:Int}(ha:Zcz a) (t:Qbc):rSl 1 (rK .i64) (Z3j g1 g2 (W.alloc (.cells #[.int .i64 a] t))) (W.alloc (.cells #[.int .i64 a] t)) [.slice (some ⟨W.heap.size,0,none⟩) 1 1] [a]:=by{
 refine⟨_,_,rfl,Qc _,by omega,fun i x hi=> ?_⟩;have hi0:i=0:=by
  have:=(Qf.1 hi).1;simp at this;omega
 subst hi0;cases hi;refine⟨_,[.int .i64 a],rfl,rfl,fun j v hj=> ?_,Zi5 ha⟩;have hj0:j=0:=by
  have:=(Qf.1 hj).1;simp at this;omega
 subst hj0;cases hj;exact⟨⟨by simp[Addr.add],by simp[Addr.add];omega,by simp[Addr.add];omega⟩,by simp[Addr.add]⟩}
theorem Zv3 {s:Rm}{root:Int}{G:Sg}(h:Z8 s [root] ([],Yg)=(true,G)):ckE s root=0/\∀ b∈Zpj s root,b∈G.1:=by{
 have hc:root∈(([],Yg):Sg).1\/ckE s root=0:=by
  by_cases hc:root∈(([],Yg):Sg).1\/ckE s root=0
  ·exact hc
  ·have:=Zki (r:=[]) hc
   rw[h] at this;cases this
 have h0:=hc.resolve_left fun h=>by cases h
 rw[Zcj hc] at h;cases h;refine⟨h0,fun b hb=>(Zo7 s _ root _ (Zfe h0).1 (Zws (Zlv h0).1) (fun b _ hin=>by cases hin) b).2 (.inr hb)⟩}
theorem Zvy (s:Rm) (L:List Int) (g:Sg) (n:Nat) (w0:Qa9) (q0 q1 q2 q3 q4 q5 q6 q7 q8:Qba) (g1 g2 lo:Nat) (Q:Option Qbb) (m c:Nat) (w:Qa9) (hm:L.length=m) (hG:Gg s g n) (hn:n+m*400000<=800000000) (hE:FrE s w0 (.agg #[q0,q1,q2,q3]) g1 g2 lo) (hW:FrW s w0 g1 g2 lo g w) (hL:rSl 1 (rK .i64) (Z3j g1 g2 w) w [.slice Q m c] L) (b:Bool) (G:Sg) (hb:Z8 s L g=(b,G)) :
  Qbg Tryz.prog 57 #[.agg #[q0,q1,q2,q3,q4,q5,q6,q7,.map (some g1),.slice (some ⟨g2,0,none⟩) 256 256,q8],.slice Q m c] w fun e w'=>e=.returned (.bool b)/\(b=true->FrW s w0 g1 g2 lo G w')/\Qbi w0.heap.size w0 w'/\Zdc g1 g2 w w':=by
 subst hm;have:=Zzj s L g n w0 q0 q1 q2 q3 q4 q5 q6 q7 q8 g1 g2 lo Q c w hG hn hE hW hL;unfold Zrf at this;rw[hb] at this;exact this
theorem Zm6 {α:Type}{R:Rel α}(hS:Zde R){g1 g2 lo:Nat}{w w':Qa9}{cs:List Qba}{x:α}(h1:g1<lo) (h2:g2<lo) (h:R (New lo w) w cs x) (hr:Zdc g1 g2 w w'):R (New lo w') w' cs x :=
 hS _ _ _ _ _ _ (fun p v hq hc=>by
  have e:=hr.2 p.block hq.2.1 (by have:=hq.1;omega) (by have:=hq.1;omega)
  exact⟨⟨hq.1,Qt hq.2.1 hr.1,(World.frozen?_of_block e).trans hq.2.2⟩,(Qu e).trans hc⟩) h
theorem Zo8 {ok:Qbb->Prop}{w:Qa9}{A:Option Qbb}{n c:Nat}{vs:List Vl}(h:rSl 4 rVl ok w [.slice A n c] vs){k:Nat}{i r o:Int}{f:Bool}(hk:vs[k]? = some (i,r,f,o)) :
  ∃ ad,A=some ad/\w.cell? (ad.add (k*4))=some (.int .u32 i)/\w.cell? ⟨(ad.add (k*4)).block,(ad.add (k*4)).off+1,none⟩=some (.int .i64 r)/\w.cell? ⟨(ad.add (k*4)).block,(ad.add (k*4)).off+2,none⟩=some (.bool f)/\w.cell? ⟨(ad.add (k*4)).block,(ad.add (k*4)).off+3,none⟩=some (.int .u32 o)/\Zcz r:=by
 obtain⟨_,_,e,_,_,h4⟩:=h;cases e;obtain⟨ad,us,rfl,_,q,r'⟩:=h4 k _ hk;have hu:=Zx0 r';have hr:Zcz r:=by
  obtain⟨_,_,_,_,_,_,_,⟨_,a1,a2⟩,_⟩:=r';simp[IntKind.min,IntKind.max,IntKind.signed,IntKind.bits] at a1 a2;exact⟨a1,a2⟩
 subst hu;have q0:=(q 0 _ rfl).2;have q1:=(q 1 _ rfl).2;have q2:=(q 2 _ rfl).2;have q3:=(q 3 _ rfl).2;rw[Zwg] at q1 q2 q3;exact⟨ad,rfl,q0,q1,q2,q3,hr⟩
theorem Zvk {s:Rm}{L:List Int}{g G:Sg}{k:Nat}{a:Int}{b:Bool}{G':Sg}(hk:L[k]? = some a) (h:Z8 s (L.take k) g=(true,G)) (ha:Z8 s [a] G=(b,G')) :
  (b=false->(Z8 s L g).1=false)/\(b=true->Z8 s (L.take (k+1)) g=(true,G')):=by{
 obtain⟨h1,e1⟩:=Qf.1 hk;refine⟨fun hn=> ?_,fun hy=> ?_⟩
 ·subst hn
  have e:L=L.take k++([a]++L.drop (k+1)):=by
   rw[List.singleton_append,<- e1,Qai,Qv]
  rw[e,Zco,h];show (Z8 s ([a]++_) G).1=false;rw[Zco,ha];rfl
 ·subst hy
  rw[<- Qaj h1,e1,Zco,h];exact ha}
def Z55 (p:Pl) (q0 q1 q2 q3 q4 q5 q6 q7:Qba) (w:Qa9):Qbh->Qa9->Prop:=fun e w' =>
 (Y6 p=none/\e=.returned (.tuple #[.agg #[.slice none 0 0,.slice none 0 0,.slice none 0 0,.slice none 0 0,.int .u32 0,.int .i64 0,.int .u32 0,.slice none 0 0,.map none,.slice none 0 0,.slice none 0 0],.int .i64 8])/\Qbi w.heap.size w w') \/
 (∃ (vs:List Vl) (g:Sg) (g1 g2 lo:Nat) (A:Option Qbb) (n c:Nat),Y6 p=some (vs,g)/\e=.returned (.tuple #[.agg #[q0,q1,q2,q3,q4,q5,q6,q7,.map (some g1),.slice (some ⟨g2,0,none⟩) 256 256,.slice A n c],.int .i64 0])/\vs.length=n /\
  FrE p.1 w (.agg #[q0,q1,q2,q3]) g1 g2 lo/\FrW p.1 w g1 g2 lo g w'/\rSl 4 rVl (New lo w') w' [.slice A n c] vs)
theorem Zdp (s:Rm) (gen root next:Int) (dead:List Int) (qa qb qc qd:Option Qbb×Nat×Nat) (D:Option Qbb) (dl dc:Nat) (w:Qa9) (hS:Sto (Old w) w (.agg #[.slice qa.1 qa.2.1 qa.2.2,.slice qb.1 qb.2.1 qb.2.2,.slice qc.1 qc.2.1 qc.2.2,.slice qd.1 qd.2.1 qd.2.2]) s) (hin:InU gen/\Zcz root/\InU next) (hD:rSl 1 (rK .i64) (Old w) w [.slice D dl dc] dead) :
  Qbg Tryz.prog 28 #[.agg #[.slice qa.1 qa.2.1 qa.2.2,.slice qb.1 qb.2.1 qb.2.2,.slice qc.1 qc.2.1 qc.2.2,.slice qd.1 qd.2.1 qd.2.2,.int .u32 gen,.int .i64 root,.int .u32 next,.slice D dl dc]] w (Z55 (s,gen,root,next,dead) (.slice qa.1 qa.2.1 qa.2.2) (.slice qb.1 qb.2.1 qb.2.2) (.slice qc.1 qc.2.1 qc.2.2) (.slice qd.1 qd.2.1 qd.2.2) (.int .u32 gen) (.int .i64 root) (.int .u32 next) (.slice D dl dc) w):=by{
 obtain⟨w1,hw1,b1,hs1,hB1⟩:=Zb6 w (.slice qa.1 qa.2.1 qa.2.2) (.slice qb.1 qb.2.1 qb.2.2) (.slice qc.1 qc.2.1 qc.2.2) (.slice qd.1 qd.2.1 qd.2.2) (.int .u32 gen) (.int .i64 root) (.int .u32 next) (.slice D dl dc) 33;obtain⟨w2,hw2,b2,hs2,hB2⟩:=Uf w1 (.slice none 0 0) (.slice none 0 0) (.slice none 0 0) (.slice none 0 0) (.int .u32 0) (.int .i64 0) (.int .u32 0) (.slice none 0 0) (.map none) (.slice none 0 0) (.slice none 0 0) 71;have hdl:dead.length=dl:=by
  obtain⟨_,_,e,_⟩:=hD;cases e;rfl
 have K1:=Za ((hB2.block _ (Qa.1 b1).1).trans b1);have K2:=Za b2;have B2:=Za (hB1.trans (hB2.mono hB1.size));have HS:=Za hS;have HD:=Za hD;have HI:=Za hin;have hs1':=Za hs1;have hs2':=Za hs2;have hdl':=Za hdl;obtain⟨vz,hvz,hmk⟩:=Zxd;replace hvz:=Za hvz;clear b1 b2 hB1 hB2 hS hin hs1 hs2 hD
 go_enter Tryz.func28,Tryz.ntmps28
 go_upto_region 1 with fail
 clear hw2 hw1
 refine Xi (ops' := ?opsLate) (by kernel_rfl) [] ?he (by kernel_rfl) (fun d _ _ _ _ h=>by cases d <;> exact h) 5 (fun W=>Qbi w2.heap.size w2 W) (fun j=>match j with
   | 1=>some (fun v W=>∃ g,v=.map (some g)/\w2.heap.size<=g/\W.heap[g]? = some (.map #[] 0))
   | 2=>some (fun v W=>∃ g,v=.slice (some ⟨g,0,none⟩) 256 256/\w2.heap.size<=g/\Mrk g Yg W)
   | 4=>some (fun v W=>∃ g,v=.pointer (some ⟨g,0,none⟩)/\w2.heap.size<=g/\W.heap[g]? = some (.cells #[.slice none 0 0,.slice none 0 0,.slice none 0 0,.slice none 0 0,.int .u32 0,.int .i64 0,.int .u32 0,.slice none 0 0,.map none,.slice none 0 0,.slice none 0 0] 71 (0,0)))
   | _=>none) (fun _=>none) ?h1 ?h2 ?h3 (Qb _ _).drew (fun w w' h hb=>h.trans (hb.mono h.size)) ?tst ?_
 case he =>
  simp[Z7];rfl
 case h1=>decide
 case h2=>kernel_rfl
 case h3=>kernel_rfl
 case tst =>
  intro j φ y W W' hp hy hb
  match j,hp with
  | 1,hp=>cases hp;obtain⟨g,e,h1,h2⟩:=hy;exact⟨g,e,h1,(hb.block g (Qa.1 h2).1).trans h2⟩
  | 2,hp=>cases hp;obtain⟨g,e,h1,h2⟩:=hy;exact⟨g,e,h1,Zbs _ _ _ _ h2 hb⟩
  | 4,hp=>cases hp;obtain⟨g,e,h1,h2⟩:=hy;exact⟨g,e,h1,(hb.block g (Qa.1 h2).1).trans h2⟩
 simp only[Pn,Po,Pp,Pq]
 repeat (first
  | (refine wpAs_skip rfl ?_;simp only[Qd,Zb,Zc,Zd])
  | (refine wpAs_pure (v := ?_) rfl rfl ?_ ?_;rotate_left;(intro W hC hE;clear hE;(obtain⟨z0,z1,z2,z3,z4,z5,z6,z7,_⟩:=Zm ((hC.block _ (Qa.1 K1.out).1).trans K1.out));clear hC;go_simp;first | done | with_reducible rfl);simp only[Qd,Zb,Zc,Zd]))
 refine wpAs_act rfl rfl ?_ ?_
 ·intro W hC hE
  have hs:=hC.size;clear hE hC
  go_simp
  exact⟨⟨W.heap.size,rfl,hs,Qbe _ _⟩,(Qb _ _).alloc (Qc _) _⟩
 simp only[Qd,Zb,Zc,Zd,envAdd];intro x1;refine wpAs_act rfl rfl ?_ ?_
 ·intro W hC hE
  have hs:=hC.size;clear hE hC;exact Z1y 31 (.const (.int .i64 256)) (.const (.int .i64 256)) rfl (hmk W) ⟨⟨W.heap.size,rfl,hs,Z2x hvz.out W⟩,(Qb _ _).alloc (Qc _) _⟩
 simp only[Qd,Zb,Zc,Zd,envAdd];intro x2;refine wpAs_pure (v:=.agg #[.slice qa.1 qa.2.1 qa.2.2,.slice qb.1 qb.2.1 qb.2.2,.slice qc.1 qc.2.1 qc.2.2,.slice qd.1 qd.2.1 qd.2.2,.int .u32 gen,.int .i64 root,.int .u32 next,.slice D dl dc,x1,x2,.slice none 0 0]) rfl rfl ?_ ?_
 ·intro W hC hE
  obtain⟨_,rfl,_⟩:=hE.1 rfl;obtain⟨_,rfl,_⟩:=hE.2.1 rfl;clear hE hC
  go_simp
 simp only[Qd,Zb,Zc,Zd];refine wpAs_act rfl rfl ?_ ?_
 ·intro W hC hE
  have hs:=hC.size;clear hE hC
  go_simp
  exact⟨⟨W.heap.size,rfl,hs,Qbe _ _⟩,(Qb _ _).alloc (Qc _) _⟩
 simp only[Qd,Zb,Zc,Zd,envAdd];intro x4;refine wpAs_end fun W hC hE=> ?_
 obtain⟨⟨gb,rfl,hgb,hz⟩,⟨g2,rfl,hg2,hM⟩,⟨g1,rfl,hg1,hmap⟩,_⟩:=hE;obtain⟨t0,t1,t2,t3,t4,t5,t6,t7,t8,t9,t10,tf,_⟩:=Zg hz;obtain⟨w3,hw3,b3,gr3,gs3⟩:=Vc (a':=.slice qa.1 qa.2.1 qa.2.2) (b':=.slice qb.1 qb.2.1 qb.2.2) (c':=.slice qc.1 qc.2.1 qc.2.2) (d':=.slice qd.1 qd.2.1 qd.2.2) (e':=.int .u32 gen) (f':=.int .i64 root) (g':=.int .u32 next) (h':=.slice D dl dc) (i':=.map (some g1)) (j':=.slice (some ⟨g2,0,none⟩) 256 256) (k':=.slice none 0 0) hz;have n12:g1≠g2:=fun e=>by
  obtain⟨_,hh,_⟩:=hM;rw[<- e,hmap] at hh;cases hh
 have nb1:gb≠g1:=fun e=>by rw[e,hmap] at hz;cases hz
 have nb2:gb≠g2:=fun e=>by
  obtain⟨_,hh,_⟩:=hM;rw[<- e,hz] at hh;simp at hh
 have hlt1:g1<w3.heap.size:=by rw[gs3];exact(Qa.1 hmap).1
 have hlt2:g2<w3.heap.size:=by rw[gs3];exact Z0t hM
 have hltb:gb<w3.heap.size:=(Qa.1 b3).1;have hsz:=B2.out.size;have E0:Hid (FrE s w (.agg #[.slice qa.1 qa.2.1 qa.2.2,.slice qb.1 qb.2.1 qb.2.2,.slice qc.1 qc.2.1 qc.2.2,.slice qd.1 qd.2.1 qd.2.2]) g1 g2 w3.heap.size):=Za ⟨HS.out,Ql hsz hg1,Ql hsz hg2,hlt1,hlt2,n12⟩;have W3:Hid (FrW s w g1 g2 w3.heap.size ([],Yg) w3):=Za ⟨Qc _,(B2.out.trans (hC.mono hsz)).grown gr3 (Ql hsz hC.size) (fun q e=>by cases e;exact Ql hsz hgb),Ztf s _ ((gr3.block g1 (Qa.1 hmap).1 (fun e=>nb1 (Option.some.inj e).symm)).trans hmap),Zds hM gr3 (fun e=>nb2 (Option.some.inj e).symm)⟩;have c1:=(gr3.block w.heap.size (by have:=hC.size;have:=hs1'.out;have:=hs2'.out;omega) (fun e=>by cases e;have:=hs1'.out;have:=hs2'.out;omega)).trans ((hC.block _ (Qa.1 K1.out).1).trans K1.out);have c2:=(gr3.block w1.heap.size (by have:=hC.size;have:=hs2'.out;omega) (fun e=>by cases e;have:=hs2'.out;omega)).trans ((hC.block _ (Qa.1 K2.out).1).trans K2.out);have C1:=Za c1;have C2:=Za c2;have C3:=Za b3
 have hne:Hid ((w.heap.size≠g1/\w.heap.size≠g2)/\(w1.heap.size≠g1/\w1.heap.size≠g2)/\(gb≠g1/\gb≠g2)/\w.heap.size<=gb/\gb<w3.heap.size/\w.heap.size<gb/\w1.heap.size<gb):=Za (by
  have:=hs1'.out;have:=hs2'.out
  exact⟨⟨by omega,by omega⟩,⟨by omega,by omega⟩,⟨nb1,nb2⟩,by omega,hltb,by omega,by omega⟩)
 replace hz:=Za hz;clear hM hmap gr3 gs3 b3 n12 nb1 nb2 hlt1 hlt2 hltb hsz hC hg1 hg2 hgb c1
 go_upto_region 2 with fail
 clear hw3 t0 t1 t2 t3 t4 t5 t6 t7 t8 t9 t10 tf hz hmk;obtain⟨p0,p1,p2,p3,p4,p5,p6,p7,_⟩:=Zm C1.out;have hd63:dl<=9223372036854775807:=by
  obtain⟨_,_,e,h1,h2,_⟩:=HD.out;cases e;omega
 by_cases h40:40<dl
 ·have hnone:Hid (Y6 (s,gen,root,next,dead)=none):=Za (Z1z (by omega))
  have BF:=Za W3.out.bel;clear hdl;obtain⟨t0,t1,t2,t3,t4,t5,t6,t7,t8,t9,t10,tf,_⟩:=Zg c2;obtain⟨wz,hwz,bz,grz,_⟩:=Vc (a':=.slice none 0 0) (b':=.slice none 0 0) (c':=.slice none 0 0) (d':=.slice none 0 0) (e':=.int .u32 0) (f':=.int .i64 0) (g':=.int .u32 0) (h':=.slice none 0 0) (i':=.map none) (j':=.slice none 0 0) (k':=.slice none 0 0) c2;obtain⟨f0,f1,f2,f3,f4,f5,f6,f7,f8,f9,f10,_⟩:=Zg bz;have hBz:=Za (BF.out.grown grz BF.out.size (fun q e=>by cases e;have:=hs1'.out;omega));have c2':=Za c2;clear bz grz c2
  go_wp2_with fail
  refine Qbd (v:=.tuple #[.agg #[.slice none 0 0,.slice none 0 0,.slice none 0 0,.slice none 0 0,.int .u32 0,.int .i64 0,.int .u32 0,.slice none 0 0,.map none,.slice none 0 0,.slice none 0 0],.int .i64 8]) (by simp[results,Tryz.results28,go_sem,f0,f1,f2,f3,f4,f5,f6,f7,f8,f9,f10]) rfl ?_;exact .inl ⟨hnone.out,rfl,hBz.out⟩
 clear c2;have hr64:Zcz root:=HI.out.2.1;obtain⟨w4,hw4,hb4,hr4⟩:∃ w4,w3.alloc (.cells #[.int .i64 root] 3)=w4/\Qbi w3.heap.size w3 w4/\rSl 1 (rK .i64) (Z3j g1 g2 w4) w4 [.slice (some ⟨w3.heap.size,0,none⟩) 1 1] [root]:=⟨_,rfl,(Qb _ _).alloc (Qc _) _,Zs6 E0.out.lt1 E0.out.lt2 hr64 _⟩
 obtain⟨c1,G1,hG1⟩:∃ c G,Z8 s [root] ([],Yg)=(c,G):=⟨_,_,rfl⟩
 have hcal:=Zvy s [root] ([],Yg) 0 w (.slice qa.1 qa.2.1 qa.2.2) (.slice qb.1 qb.2.1 qb.2.2) (.slice qc.1 qc.2.1 qc.2.2) (.slice qd.1 qd.2.1 qd.2.2) (.int .u32 gen) (.int .i64 root) (.int .u32 next) (.slice D dl dc) (.slice none 0 0) g1 g2 w3.heap.size _ 1 1 w4 rfl (Zo0 s) (by omega) E0.out (W3.out.below hb4) hr4 _ _ hG1;have hcal':=Za hcal;have hb4':=Za hb4;obtain⟨s0,s1,s2,s3,s4,s5,s6,s7,s8,s9,s10,_⟩:=Zg C3.out;clear hcal hb4 hr4 hr64
 go_wp2_with fail
 with_reducible refine hcal'.out.mono ?_
 rintro e w5 ⟨rfl,hF5,hB5,hR5⟩;have R5:=Za (Z1 (Xx hb4'.out) hR5:Zdc g1 g2 w3 w5);have c2:=Z9 R5.out C2.out hne.out.2.1.1 hne.out.2.1.2;have c3:=Z9 R5.out C3.out hne.out.2.2.1.1 hne.out.2.2.1.2;have BF:=Za hB5;clear hB5 hR5 hw4 s0 s1 s2 s3 s4 s5 s6 s7 s8 s9 s10 hcal' p0 p1 p2 p3 p4 p5 p6 p7;cases c1 with
 | false =>
  have hnone:Hid (Y6 (s,gen,root,next,dead)=none):=Za (Z3d (by rw[hG1]));replace hG1:=Za hG1;clear hF5 c3;obtain⟨t0,t1,t2,t3,t4,t5,t6,t7,t8,t9,t10,tf,_⟩:=Zg c2;obtain⟨wz,hwz,bz,grz,_⟩:=Vc (a':=.slice none 0 0) (b':=.slice none 0 0) (c':=.slice none 0 0) (d':=.slice none 0 0) (e':=.int .u32 0) (f':=.int .i64 0) (g':=.int .u32 0) (h':=.slice none 0 0) (i':=.map none) (j':=.slice none 0 0) (k':=.slice none 0 0) c2;obtain⟨f0,f1,f2,f3,f4,f5,f6,f7,f8,f9,f10,_⟩:=Zg bz;have hBz:=Za (BF.out.grown grz BF.out.size (fun q e=>by cases e;have:=hs1'.out;omega));have c2':=Za c2;clear bz grz c2
  go_wp2_with fail
  refine Qbd (v:=.tuple #[.agg #[.slice none 0 0,.slice none 0 0,.slice none 0 0,.slice none 0 0,.int .u32 0,.int .i64 0,.int .u32 0,.slice none 0 0,.map none,.slice none 0 0,.slice none 0 0],.int .i64 8]) (by simp[results,Tryz.results28,go_sem,f0,f1,f2,f3,f4,f5,f6,f7,f8,f9,f10]) rfl ?_;exact .inl ⟨hnone.out,rfl,hBz.out⟩
 | true =>
 obtain⟨hck,hnod⟩:=Zv3 hG1;have F5:=Za (hF5 rfl);have hV:=Zok s root next (.slice qa.1 qa.2.1 qa.2.2) (.slice qb.1 qb.2.1 qb.2.2) (.slice qc.1 qc.2.1 qc.2.2) (.slice qd.1 qd.2.1 qd.2.2) (.int .u32 gen) (.slice D dl dc) (.slice (some ⟨g2,0,none⟩) 256 256) (.slice none 0 0) G1.1 g1 w3.heap.size w5 hck hnod F5.out.map
 have hmay:Hid (s.2.1.length=256):=Za (by
  obtain⟨_,_,hm,_⟩:=Vh (Zlv hck).2.1
  exact Yi (Yq hm).2.1)
 have hGg1:=Za (Zbt _ _ _ _ (Zo0 s) hG1).1;unfold Z4x at hV;obtain⟨E,hE⟩:∃ q,vsE next (Zem s root)=q:=⟨_,rfl⟩
 obtain⟨vs,hvs⟩:∃ q,vsL next (Zem s root)=q:=⟨_,rfl⟩
 rw[hE,hvs] at hV
 have hways:Hid ((E=8/\Y6 (s,gen,root,next,dead)=none)\/(E=0/\Xm next (Zem s root)=some vs/\¬ 16<(Zem s root).length)):=Za (by
  subst hE hvs;unfold vsE vsL;by_cases h16:16<(Zem s root).length
  ·rw[if_pos h16]
   exact .inl ⟨rfl,Z5h h16⟩
  ·rw[if_neg h16,if_neg h16]
   cases hv:Xm next (Zem s root) with
   | none=>exact .inl ⟨rfl,Z2h hv⟩
   | some ws=>exact .inr ⟨rfl,rfl,h16⟩)
 have hV':=Za hV;have hG1':=Za hG1;have c2':=Za c2;have c3':=Za c3;obtain⟨s0,s1,s2,s3,s4,s5,s6,s7,s8,s9,s10,_⟩:=Zg c3;replace hE:=Za hE;replace hvs:=Za hvs;clear hck hnod hF5 hV hG1 c2 c3
 go_upto_region 4 with fail
 go_wp2_with fail
 with_reducible refine hV'.out.mono ?_
 rintro e w6 ⟨A,n,ac,rfl,hrow,hb6⟩;have c2:=(hb6.block _ (Qa.1 c2'.out).1).trans c2'.out;have c3:=(hb6.block _ (Qa.1 c3'.out).1).trans c3'.out;have R6:=Za (Z1 R5.out (Xx hb6):Zdc g1 g2 w3 w6);have F6:=Za (F5.out.below hb6);have BF6:=Za F6.out.bel;have row6:=Za ((Zv Yk).mono hrow F5.out.size);have hnl:vs.length=n:=by
  obtain⟨_,_,e,_⟩:=hrow;cases e;rfl
 have hn63:n<=9223372036854775807:=by
  obtain⟨_,_,e,h1,h2,_⟩:=hrow;cases e;omega
 have hnl':=Za hnl;replace BF:=BF6;clear hb6 hrow hnl hV' c2' c3' s0 s1 s2 s3 s4 s5 s6 s7 s8 s9 s10 BF6 R5 F5;rcases hways.out with ⟨hE8,hnone'⟩ | ⟨hE0,hsome',h16'⟩
 ·have hnone:=Za hnone'
  subst hE8;clear hnone' c3;obtain⟨t0,t1,t2,t3,t4,t5,t6,t7,t8,t9,t10,tf,_⟩:=Zg c2;obtain⟨wz,hwz,bz,grz,_⟩:=Vc (a':=.slice none 0 0) (b':=.slice none 0 0) (c':=.slice none 0 0) (d':=.slice none 0 0) (e':=.int .u32 0) (f':=.int .i64 0) (g':=.int .u32 0) (h':=.slice none 0 0) (i':=.map none) (j':=.slice none 0 0) (k':=.slice none 0 0) c2;obtain⟨f0,f1,f2,f3,f4,f5,f6,f7,f8,f9,f10,_⟩:=Zg bz;have hBz:=Za (BF.out.grown grz BF.out.size (fun q e=>by cases e;have:=hs1'.out;omega));have c2':=Za c2;clear bz grz c2
  go_wp2_with fail
  refine Qbd (v:=.tuple #[.agg #[.slice none 0 0,.slice none 0 0,.slice none 0 0,.slice none 0 0,.int .u32 0,.int .i64 0,.int .u32 0,.slice none 0 0,.map none,.slice none 0 0,.slice none 0 0],.int .i64 8]) (by simp[results,Tryz.results28,go_sem,f0,f1,f2,f3,f4,f5,f6,f7,f8,f9,f10]) rfl ?_;exact .inl ⟨hnone.out,rfl,hBz.out⟩
 have hsome:=Za hsome';have h16:=Za h16';have hn16:n<=16:=by
  have:=hnl'.out;have h1:=(Zkp hsome').1;rw[h1,Qq] at h16';omega
 subst hE0;obtain⟨w7,hw7,b7,gr7,gs7⟩:=Z32 (k':=.slice A n ac) c3;obtain⟨s0,s1,s2,s3,s4,s5,s6,s7,s8,s9,s10,sf,_⟩:=Zg c3;have F7:Hid (FrW s w g1 g2 w3.heap.size G1 w7):=Za ⟨by have:=F6.out.size;omega,F6.out.bel.grown gr7 F6.out.bel.size (fun q e=>by cases e;exact hne.out.2.2.2.1),F6.out.map.kept gr7 (fun e=>hne.out.2.2.1.1 (Option.some.inj e).symm) (fun q e=>by cases e;exact hne.out.2.2.2.2.1),Zds F6.out.mrk gr7 (fun e=>hne.out.2.2.1.2 (Option.some.inj e).symm)⟩;have row7:=Za ((Zv Yk).grown row6.out gr7 (fun q e=>by cases e;exact hne.out.2.2.2.2.1));have hg37:w3.heap.size<=w7.heap.size:=by have:=F6.out.size;omega
 have d2:=Za ((gr7.block _ (Qa.1 c2).1 (fun e=>by cases e;have:=hne.out.2.2.2.2.2.2;omega)).trans c2);have c1:=Z9 R6.out C1.out hne.out.1.1 hne.out.1.2;have d1:=Za ((gr7.block _ (Qa.1 c1).1 (fun e=>by cases e;have:=hne.out.2.2.2.2.2.1;omega)).trans c1);have d3:=Za b7;have hEl:=Za (fun(h:FrW s w g1 g2 w3.heap.size G1 w7)=>h.bel);replace hg37:=Za hg37;have c3':=Za c3;clear gr7 gs7 b7 c2 c1 c3 hways hsome' h16' R6 F6 row6 BF C1 C2 C3
 go_upto_region 8 with fail
 clear hw7 s0 s1 s2 s3 s4 s5 s6 s7 s8 s9 s10 sf
 go_wp2_with fail
 go_loopw [39] (fun vi wr=>∃ (k:Nat) (G:Sg),k<=n/\vi=.int .i64 k/\Z8 s ((vs.map fun v=>v.2.1).take k) G1=(true,G)/\FrW s w g1 g2 w3.heap.size G wr/\Zdc g1 g2 w7 wr) (fun vi _=>n-(intOf vi).toNat)
 case atStart=>exact⟨0,G1,by omega,rfl,rfl,F7.out,Zg8 _ _ _⟩
 case round =>
 obtain⟨k,G,hk,rfl,hG,hw,hrs⟩:=hrel;have FR:=Za hw;have RS:=Za hrs;have e1:=Za (Z9 hrs d1.out hne.out.1.1 hne.out.1.2);have e2:=Za (Z9 hrs d2.out hne.out.2.1.1 hne.out.2.1.2);have e3:=Za (Z9 hrs d3.out hne.out.2.2.1.1 hne.out.2.2.1.2);have hGg:=Za (Zbt _ _ _ _ hGg1.out hG).1;have hmk:((vs.map fun v=>v.2.1).take k).length<=16:=by rw[Qp,Qq];omega
 have hmk':=Za hmk;have HG:=Za hG;clear hw hrs hG hmk;by_cases hlt:k<n
 case neg =>
  have hall:Hid (Z8 s (vs.map fun v=>v.2.1) G1=(true,G)):=Za (by
   have:=HG.out
   rwa [Q7 (by rw[Qq,hnl'.out];omega)] at this)
  obtain⟨cd,G3,hG3⟩:∃ c G',Z8 s dead G=(c,G'):=⟨_,_,rfl⟩
  have hDoff:rSl 1 (rK .i64) (Z3j g1 g2 wr) wr [.slice D dl dc] dead:=Zv (Xk _) _ _ _ _ _ _ (fun p v hq hc=>⟨⟨Qt hq FR.out.bel.size,by have:=E0.out.from1;have:p.block<w.heap.size:=hq;omega,by have:=E0.out.from2;have:p.block<w.heap.size:=hq;omega⟩,(FR.out.bel.cell hq).trans hc⟩) HD.out;have hcal:=Zvy s dead G _ w (.slice qa.1 qa.2.1 qa.2.2) (.slice qb.1 qb.2.1 qb.2.2) (.slice qc.1 qc.2.1 qc.2.2) (.slice qd.1 qd.2.1 qd.2.2) (.int .u32 gen) (.int .i64 root) (.int .u32 next) (.slice D dl dc) (.slice A n ac) g1 g2 w3.heap.size D dl dc wr hdl'.out hGg.out (by have:=hmk'.out;have:=Pr 400000 this;simp only[Qr,Qy];omega) E0.out FR.out hDoff _ _ hG3;have hcal':=Za hcal;have hGg3:=Za (fun(e:cd=true)=>(Zbt _ _ _ _ hGg.out (by rw[hG3,e])).1);have hG3':=Za hG3;obtain⟨s0,s1,s2,s3,s4,s5,s6,s7,s8,s9,s10,_⟩:=Zg e3.out;obtain⟨p0,p1,p2,p3,p4,p5,p6,p7,_⟩:=Zm e1.out;clear hcal hG3 hDoff
  go_wp2_with fail
  with_reducible refine hcal'.out.mono ?_
  rintro e w8 ⟨rfl,hF8,hB8,hR8⟩;have c2:=Z9 hR8 e2.out hne.out.2.1.1 hne.out.2.1.2;have c3:=Z9 hR8 e3.out hne.out.2.2.1.1 hne.out.2.2.1.2;have BF:=Za hB8;have R8:=Za (Z1 RS.out hR8);clear hB8 hR8 s0 s1 s2 s3 s4 s5 s6 s7 s8 s9 s10 p0 p1 p2 p3 p4 p5 p6 p7;cases cd with
  | false =>
   have hnone:Hid (Y6 (s,gen,root,next,dead)=none):=Za (Zyg hG1'.out hsome.out hall.out (by rw[hG3'.out]));clear hF8 c3;obtain⟨t0,t1,t2,t3,t4,t5,t6,t7,t8,t9,t10,tf,_⟩:=Zg c2;obtain⟨wz,hwz,bz,grz,_⟩:=Vc (a':=.slice none 0 0) (b':=.slice none 0 0) (c':=.slice none 0 0) (d':=.slice none 0 0) (e':=.int .u32 0) (f':=.int .i64 0) (g':=.int .u32 0) (h':=.slice none 0 0) (i':=.map none) (j':=.slice none 0 0) (k':=.slice none 0 0) c2;obtain⟨f0,f1,f2,f3,f4,f5,f6,f7,f8,f9,f10,_⟩:=Zg bz;have hBz:=Za (BF.out.grown grz BF.out.size (fun q e=>by cases e;have:=hs1'.out;omega));have c2':=Za c2;clear bz grz c2
   go_wp2_with fail
   refine Qbd (v:=.tuple #[.agg #[.slice none 0 0,.slice none 0 0,.slice none 0 0,.slice none 0 0,.int .u32 0,.int .i64 0,.int .u32 0,.slice none 0 0,.map none,.slice none 0 0,.slice none 0 0],.int .i64 8]) (by simp[results,Tryz.results28,go_sem,f0,f1,f2,f3,f4,f5,f6,f7,f8,f9,f10]) rfl ?_;exact .inl ⟨hnone.out,rfl,hBz.out⟩
  | true =>
   have F8:=Za (hF8 rfl);have S8:=(F8.out.sto E0.out).parts.2.1;have hl8:qc.2.1=256:=by
    obtain⟨_,_,e,_⟩:=S8;simp only[List.cons.injEq,Value.slice.injEq,and_true] at e;rw[e.2.1,hmay.out]
   obtain⟨bq,hbq⟩:∃ q,Z2q s G3.2=q:=⟨_,rfl⟩
   have hcnt:Hid (Qbg Tryz.prog 59 #[.agg #[.slice qa.1 qa.2.1 qa.2.2,.slice qb.1 qb.2.1 qb.2.2,.slice qc.1 qc.2.1 qc.2.2,.slice qd.1 qd.2.1 qd.2.2,.int .u32 gen,.int .i64 root,.int .u32 next,.slice D dl dc,.map (some g1),.slice (some ⟨g2,0,none⟩) 256 256,.slice A n ac]] w8 fun e w'=>e=.returned (.bool bq)/\Qbi w8.heap.size w8 w'):=Za (by
    rw[<- hbq,hl8];rw[hl8] at S8
    exact Zne s.2.1 G3.2 (.slice qa.1 qa.2.1 qa.2.2) (.slice qb.1 qb.2.1 qb.2.2) (.slice qd.1 qd.2.1 qd.2.2) (.int .u32 gen) (.int .i64 root) (.int .u32 next) (.slice D dl dc) (.map (some g1)) (.slice A n ac) qc.1 qc.2.2 g2 w8 hmay.out S8 F8.out.mrk (fun k=>((hGg3.out rfl).few k).1))
   have hlk:Hid (Y6 (s,gen,root,next,dead)=if bq=true then some (vs,G3) else none):=Za (by
    rw[<- hbq]
    exact Zv4 (by rw[hdl'.out];exact h40) h16.out hG1'.out hsome.out hall.out hG3'.out)
   obtain⟨s0,s1,s2,s3,s4,s5,s6,s7,s8,s9,s10,_⟩:=Zg c3;have c2':=Za c2;have c3':=Za c3;replace hbq:=Za hbq;clear S8 hl8 hF8 c2 c3
   go_wp2_with fail
   with_reducible refine hcnt.out.mono ?_
   rintro e w9 ⟨rfl,hb9⟩;have c2:=(hb9.block _ (Qa.1 c2'.out).1).trans c2'.out;have c3:=(hb9.block _ (Qa.1 c3'.out).1).trans c3'.out;have F9:=Za (F8.out.below hb9);have r9:=Za ((Zv Yk).new (Zm6 (Zv Yk) E0.out.lt1 E0.out.lt2 row7.out R8.out) (Qc _) hb9);replace BF:=Za F9.out.bel;clear hb9 s0 s1 s2 s3 s4 s5 s6 s7 s8 s9 s10 c2' c3';cases bq with
   | false =>
    have hnone:Hid (Y6 (s,gen,root,next,dead)=none):=Za hlk.out;clear c3;obtain⟨t0,t1,t2,t3,t4,t5,t6,t7,t8,t9,t10,tf,_⟩:=Zg c2;obtain⟨wz,hwz,bz,grz,_⟩:=Vc (a':=.slice none 0 0) (b':=.slice none 0 0) (c':=.slice none 0 0) (d':=.slice none 0 0) (e':=.int .u32 0) (f':=.int .i64 0) (g':=.int .u32 0) (h':=.slice none 0 0) (i':=.map none) (j':=.slice none 0 0) (k':=.slice none 0 0) c2;obtain⟨f0,f1,f2,f3,f4,f5,f6,f7,f8,f9,f10,_⟩:=Zg bz;have hBz:=Za (BF.out.grown grz BF.out.size (fun q e=>by cases e;have:=hs1'.out;omega));have c2':=Za c2;clear bz grz c2
    go_wp2_with fail
    refine Qbd (v:=.tuple #[.agg #[.slice none 0 0,.slice none 0 0,.slice none 0 0,.slice none 0 0,.int .u32 0,.int .i64 0,.int .u32 0,.slice none 0 0,.map none,.slice none 0 0,.slice none 0 0],.int .i64 8]) (by simp[results,Tryz.results28,go_sem,f0,f1,f2,f3,f4,f5,f6,f7,f8,f9,f10]) rfl ?_;exact .inl ⟨hnone.out,rfl,hBz.out⟩
   | true =>
    obtain⟨t0,t1,t2,t3,t4,t5,t6,t7,t8,t9,t10,tf,_⟩:=Zg c2;obtain⟨s0,s1,s2,s3,s4,s5,s6,s7,s8,s9,s10,_⟩:=Zg c3;obtain⟨wz,hwz,bz,grz,gsz⟩:=Vc (a':=.slice qa.1 qa.2.1 qa.2.2) (b':=.slice qb.1 qb.2.1 qb.2.2) (c':=.slice qc.1 qc.2.1 qc.2.2) (d':=.slice qd.1 qd.2.1 qd.2.2) (e':=.int .u32 gen) (f':=.int .i64 root) (g':=.int .u32 next) (h':=.slice D dl dc) (i':=.map (some g1)) (j':=.slice (some ⟨g2,0,none⟩) 256 256) (k':=.slice A n ac) c2;obtain⟨f0,f1,f2,f3,f4,f5,f6,f7,f8,f9,f10,_⟩:=Zg bz;have hlo1:w.heap.size<=w1.heap.size:=by have:=hs1'.out;omega
    have hlt1:w1.heap.size<w3.heap.size:=Nat.lt_trans hne.out.2.2.2.2.2.2 hne.out.2.2.2.2.1;have FZ:Hid (FrW s w g1 g2 w3.heap.size G3 wz):=Za ⟨by have:=F9.out.size;omega,F9.out.bel.grown grz F9.out.bel.size (fun q e=>by cases e;exact hlo1),F9.out.map.kept grz (fun e=>hne.out.2.1.1 (Option.some.inj e).symm) (fun q e=>by cases e;exact hlt1),Zds F9.out.mrk grz (fun e=>hne.out.2.1.2 (Option.some.inj e).symm)⟩;have rz:=Za ((Zv Yk).grown r9.out grz (fun q e=>by cases e;exact hlt1));have hlk':Hid (Y6 (s,gen,root,next,dead)=some (vs,G3)):=Za hlk.out;have c2':=Za c2;have c3':=Za c3;clear c2 c3 bz grz gsz
    go_wp2_with fail
    refine Qbd (v:=.tuple #[.agg #[.slice qa.1 qa.2.1 qa.2.2,.slice qb.1 qb.2.1 qb.2.2,.slice qc.1 qc.2.1 qc.2.2,.slice qd.1 qd.2.1 qd.2.2,.int .u32 gen,.int .i64 root,.int .u32 next,.slice D dl dc,.map (some g1),.slice (some ⟨g2,0,none⟩) 256 256,.slice A n ac],.int .i64 0]) (by simp[results,Tryz.results28,go_sem,f0,f1,f2,f3,f4,f5,f6,f7,f8,f9,f10]) rfl ?_;exact .inr ⟨vs,G3,g1,g2,w3.heap.size,A,n,ac,hlk'.out,rfl,hnl'.out,E0.out,FZ.out,rz.out⟩
 obtain⟨⟨vi,vr,vf,vo⟩,hv⟩:∃ v,vs[k]? = some v:=⟨_,Qe (by rw[hnl'.out];exact hlt)⟩
 obtain⟨ad,rfl,z0,z1,z2,z3,hr64⟩:=Zo8 (Zm6 (Zv Yk) E0.out.lt1 E0.out.lt2 row7.out RS.out) hv;have hvr:(vs.map fun v=>v.2.1)[k]? = some vr:=by rw[Qz,hv];rfl
 obtain⟨w8,hw8,b8,hs8,hB8⟩:=Xy wr (.int .u32 vi) (.int .i64 vr) (.bool vf) (.int .u32 vo) 40;obtain⟨w9,hw9,hb9,hr9⟩:∃ w9,w8.alloc (.cells #[.int .i64 vr] 3)=w9/\Qbi w8.heap.size w8 w9/\rSl 1 (rK .i64) (Z3j g1 g2 w9) w9 [.slice (some ⟨w8.heap.size,0,none⟩) 1 1] [vr]:=⟨_,rfl,(Qb _ _).alloc (Qc _) _,Zs6 (by have:=E0.out.lt1;have:=FR.out.size;omega) (by have:=E0.out.lt2;have:=FR.out.size;omega) hr64 _⟩
 obtain⟨cd,G',hG'⟩:∃ c G',Z8 s [vr] G=(c,G'):=⟨_,_,rfl⟩
 obtain⟨hno,hyes⟩:=Zvk hvr HG.out hG';have hb89:=hB8.trans (hb9.mono hB8.size);have hcal:=Zvy s [vr] G _ w (.slice qa.1 qa.2.1 qa.2.2) (.slice qb.1 qb.2.1 qb.2.2) (.slice qc.1 qc.2.1 qc.2.2) (.slice qd.1 qd.2.1 qd.2.2) (.int .u32 gen) (.int .i64 root) (.int .u32 next) (.slice D dl dc) (.slice (some ad) n ac) g1 g2 w3.heap.size _ 1 1 w9 rfl hGg.out (by have:=hmk'.out;have:=Pr 400000 this;simp only[Qr,Qy];omega) E0.out (FR.out.below hb89) hr9 _ _ hG';have hcal':=Za hcal;have hno':=Za hno;have hyes':=Za hyes;have i4:(0:Int)<=(k:Int):=by omega
 have i5:(k:Int)<(n:Int):=by omega
 have e3':=(hB8.block _ (Qa.1 e3.out).1).trans e3.out;have R9:=Za (Z1 RS.out (Xx hb89):Zdc g1 g2 w7 w9);have g8:=Za b8;obtain⟨s0,s1,s2,s3,s4,s5,s6,s7,s8,s9,s10,_⟩:=Zg e3';obtain⟨t0,t1,t2,t3,_⟩:=Ze b8;have e3'':=Za e3';have e2':=Za ((hb89.block _ (Qa.1 e2.out).1).trans e2.out);replace hv:=Za hv;replace hvr:=Za hvr;replace hG':=Za hG';replace hs8:=Za hs8;clear hno hyes hcal hr9 hb9 hB8 hb89 b8 e3' hr64
 go_upto_region 11 with fail
 clear hw8 z0 z1 z2 z3
 go_wp2_with fail
 with_reducible refine hcal'.out.mono ?_
 rintro e wA ⟨rfl,hFA,hBA,hRA⟩;have c2:=Z9 hRA e2'.out hne.out.2.1.1 hne.out.2.1.2;have BF:=Za hBA;have RA:=Za (Z1 R9.out hRA);clear hBA hRA hw9 s0 s1 s2 s3 s4 s5 s6 s7 s8 s9 s10 t0 t1 t2 t3;cases cd with
 | false =>
  have hnone:Hid (Y6 (s,gen,root,next,dead)=none):=Za (Z3i hG1'.out hsome.out (hno'.out rfl));clear hFA;obtain⟨t0,t1,t2,t3,t4,t5,t6,t7,t8,t9,t10,tf,_⟩:=Zg c2;obtain⟨wz,hwz,bz,grz,_⟩:=Vc (a':=.slice none 0 0) (b':=.slice none 0 0) (c':=.slice none 0 0) (d':=.slice none 0 0) (e':=.int .u32 0) (f':=.int .i64 0) (g':=.int .u32 0) (h':=.slice none 0 0) (i':=.map none) (j':=.slice none 0 0) (k':=.slice none 0 0) c2;obtain⟨f0,f1,f2,f3,f4,f5,f6,f7,f8,f9,f10,_⟩:=Zg bz;have hBz:=Za (BF.out.grown grz BF.out.size (fun q e=>by cases e;have:=hs1'.out;omega));have c2':=Za c2;clear bz grz c2
  go_wp2_with fail
  refine Qbd (v:=.tuple #[.agg #[.slice none 0 0,.slice none 0 0,.slice none 0 0,.slice none 0 0,.int .u32 0,.int .i64 0,.int .u32 0,.slice none 0 0,.map none,.slice none 0 0,.slice none 0 0],.int .i64 8]) (by simp[results,Tryz.results28,go_sem,f0,f1,f2,f3,f4,f5,f6,f7,f8,f9,f10]) rfl ?_;exact .inl ⟨hnone.out,rfl,hBz.out⟩
 | true =>
  have FA:=Za (hFA rfl);have hnx:=Za (hyes'.out rfl);have c2':=Za c2;clear hFA c2
  go_wp2_with fail
  go_roundw
  case rel=>exact⟨k+1,G',by omega,by go_num,hnx.out,FA.out,RA.out⟩
  case measure=>simp[intOf];omega}
end Go.Proofs.YtmafkphcfkhokaaGreat
namespace Go.Proofs.YtmafkphcfkhokaaGreat
open Go.RowKit Go.Maps Go.Sort Go.Shelf
def Z5j (K:List Int):List Int:=(Z6g K).map fun k:Nat=>(k:Int)
structure Zhi (qa qb qc qd:Option Qbb×Nat×Nat) (D:Option Qbb) (dl dc:Nat) (s:Rm) (gen root next:Int) (dead:List Int) (w:Qa9):Prop where
 sto:Sto (Old w) w (.agg #[.slice qa.1 qa.2.1 qa.2.2,.slice qb.1 qb.2.1 qb.2.2,.slice qc.1 qc.2.1 qc.2.2,.slice qd.1 qd.2.1 qd.2.2]) s
 inn:InU gen/\Zcz root/\InU next
 dead:rSl 1 (rK .i64) (Old w) w [.slice D dl dc] dead
theorem Zhi.below {qa qb qc qd:Option Qbb×Nat×Nat}{D:Option Qbb}{dl dc:Nat}{s:Rm}{gen root next:Int}{dead:List Int}{w w':Qa9}(h:Zhi qa qb qc qd D dl dc s gen root next dead w) (hb:Qbi w.heap.size w w'):Zhi qa qb qc qd D dl dc s gen root next dead w' :=
 ⟨h.sto.below hb,h.inn,(Zv (Xk _)).old h.dead hb⟩
theorem Pol.parts {w:Qa9}{v:Qba}{s:Rm}{gen root next:Int}{dead:List Int}(h:Pol (Old w) w v (s,gen,root,next,dead)):∃ qa qb qc qd D dl dc,v=.agg #[.slice qa.1 qa.2.1 qa.2.2,.slice qb.1 qb.2.1 qb.2.2,.slice qc.1 qc.2.1 qc.2.2,.slice qd.1 qd.2.1 qd.2.2,.int .u32 gen,.int .i64 root,.int .u32 next,.slice D dl dc]/\Zhi qa qb qc qd D dl dc s gen root next dead w:=by
 obtain⟨A,ca,B,cb,N,cn,L,cl,D,dc,e,h1,h2,h3,_⟩:=h.open;exact⟨(A,_,ca),(B,_,cb),(N,_,cn),(L,_,cl),D,_,dc,e,h1,h2,h3⟩
def Z4n (p:Pl):List Vl:=match Y6 p with | none=>[] | some q=>q.1
def Z4g (p:Pl):List Int:=match Y6 p with | none=>[] | some q=>q.2.2
def Z5v (p:Pl):List Int:=match Y6 p with | none=>[] | some q=>Z5j q.2.1
theorem Zfo (ok:Qbb->Prop) (w:Qa9):rSl 1 (rK .i64) ok w [.slice none 0 0] []:=⟨none,0,rfl,by simp,by omega,fun i x h=>by simp at h⟩
theorem Zqy {p:Pl}(h:Y6 p=none):Zdb p=8/\Z4n p=[]/\Z4g p=[]/\Z5v p=[]:=by
 unfold Zdb Z4n Z4g Z5v;rw[h];exact⟨rfl,rfl,rfl,rfl⟩
theorem Zgu {p:Pl}{vs:List Vl}{g:Sg}(h:Y6 p=some (vs,g)):Zdb p=0/\Z4n p=vs/\Z4g p=g.2/\Z5v p=Z5j g.1:=by
 unfold Zdb Z4n Z4g Z5v;rw[h];exact⟨rfl,rfl,rfl,rfl⟩
theorem Zr2 (qa qb qc qd:Option Qbb×Nat×Nat) (s:Rm) (gen root next:Int) (dead:List Int) (D:Option Qbb) (dl dc:Nat) (w:Qa9) (hP:Zhi qa qb qc qd D dl dc s gen root next dead w) :
  Qbg Tryz.prog 15 #[.agg #[.slice qa.1 qa.2.1 qa.2.2,.slice qb.1 qb.2.1 qb.2.2,.slice qc.1 qc.2.1 qc.2.2,.slice qd.1 qd.2.1 qd.2.2,.int .u32 gen,.int .i64 root,.int .u32 next,.slice D dl dc]] w fun e w'=>e=.returned (.int .i64 (Zdb (s,gen,root,next,dead)))/\Qbi w.heap.size w w':=by{
 obtain⟨w1,hw1,b1,hs1,hB1⟩:=Zb6 w (.slice qa.1 qa.2.1 qa.2.2) (.slice qb.1 qb.2.1 qb.2.2) (.slice qc.1 qc.2.1 qc.2.2) (.slice qd.1 qd.2.1 qd.2.2) (.int .u32 gen) (.int .i64 root) (.int .u32 next) (.slice D dl dc) 33;have H1:=hP.below hB1;have hcal:=Za (Zdp s gen root next dead qa qb qc qd D dl dc w1 H1.sto H1.inn H1.dead);obtain⟨p0,p1,p2,p3,p4,p5,p6,p7,_⟩:=Zm b1;have B1:=Za hB1;replace hs1:=Za hs1;clear hB1 b1 H1 hP
 go_enter Tryz.func15,Tryz.ntmps15
 go_upto_region 1 with fail
 clear hw1
 go_wp2_with fail
 with_reducible refine hcal.out.mono ?_
 rintro e w2 (⟨hno,rfl,hb2⟩ | ⟨vs,g,g1,g2,lo,A,n,c,hyes,rfl,hn,hE,hF,hr⟩)
 ·have e1:=Za (Zqy hno).1
  have BF:Hid (∀ o,Qbi w.heap.size w (w2.alloc o)):=Za fun o=>(B1.out.trans (hb2.mono B1.out.size)).alloc (B1.out.trans (hb2.mono B1.out.size)).size o
  clear hno hb2
  go_wp2_with fail
  go_ret;exact⟨by rw[e1.out];rfl,BF.out _⟩
 ·have e1:=Za (Zgu hyes).1
  have hb2:=hF.bel;have BF:Hid (∀ o,Qbi w.heap.size w (w2.alloc o)):=Za fun o=>(B1.out.trans (hb2.mono B1.out.size)).alloc (B1.out.trans (hb2.mono B1.out.size)).size o
  clear hyes hn hE hF hr hb2
  go_wp2_with fail
  go_ret;exact⟨by rw[e1.out];rfl,BF.out _⟩}
theorem Ztb (qa qb qc qd:Option Qbb×Nat×Nat) (s:Rm) (gen root next:Int) (dead:List Int) (D:Option Qbb) (dl dc:Nat) (w:Qa9) (hP:Zhi qa qb qc qd D dl dc s gen root next dead w) :
  Qbg Tryz.prog 10 #[.agg #[.slice qa.1 qa.2.1 qa.2.2,.slice qb.1 qb.2.1 qb.2.2,.slice qc.1 qc.2.1 qc.2.2,.slice qd.1 qd.2.1 qd.2.2,.int .u32 gen,.int .i64 root,.int .u32 next,.slice D dl dc]] w fun e w'=>∃ (A:Option Qbb) (n c:Nat),e=.returned (.tuple #[.slice A n c,.int .i64 (Zdb (s,gen,root,next,dead))])/\rSl 4 rVl (Old w') w' [.slice A n c] (Z4n (s,gen,root,next,dead))/\Qbi w.heap.size w w':=by{
 obtain⟨w1,hw1,b1,hs1,hB1⟩:=Zb6 w (.slice qa.1 qa.2.1 qa.2.2) (.slice qb.1 qb.2.1 qb.2.2) (.slice qc.1 qc.2.1 qc.2.2) (.slice qd.1 qd.2.1 qd.2.2) (.int .u32 gen) (.int .i64 root) (.int .u32 next) (.slice D dl dc) 33;have H1:=hP.below hB1;have hcal:=Za (Zdp s gen root next dead qa qb qc qd D dl dc w1 H1.sto H1.inn H1.dead);obtain⟨p0,p1,p2,p3,p4,p5,p6,p7,_⟩:=Zm b1;have B1:=Za hB1;replace hs1:=Za hs1;clear hB1 b1 H1 hP
 go_enter Tryz.func10,Tryz.ntmps10
 go_upto_region 1 with fail
 clear hw1
 go_wp2_with fail
 with_reducible refine hcal.out.mono ?_
 rintro e w2 (⟨hno,rfl,hb2⟩ | ⟨vs,g,g1,g2,lo,A,n,c,hyes,rfl,hn,hE,hF,hr⟩)
 ·have e1:=Za (Zqy hno)
  have BF:Hid (∀ o,Qbi w.heap.size w (w2.alloc o)):=Za fun o=>(B1.out.trans (hb2.mono B1.out.size)).alloc (B1.out.trans (hb2.mono B1.out.size)).size o
  clear hno hb2
  go_wp2_with fail
  go_ret2
  exact⟨none,0,0,by rw[e1.out.1];rfl,by rw[e1.out.2.1];exact Zjn _ _,BF.out _⟩
 ·have e1:=Za (Zgu hyes)
  obtain⟨w3,hw3,b3,hs3,hB3⟩:=Uf w2 (.slice qa.1 qa.2.1 qa.2.2) (.slice qb.1 qb.2.1 qb.2.2) (.slice qc.1 qc.2.1 qc.2.2) (.slice qd.1 qd.2.1 qd.2.2) (.int .u32 gen) (.int .i64 root) (.int .u32 next) (.slice D dl dc) (.map (some g1)) (.slice (some ⟨g2,0,none⟩) 256 256) (.slice A n c) 71;obtain⟨s0,s1,s2,s3,s4,s5,s6,s7,s8,s9,s10,_⟩:=Zg b3;have F3:=Za (hF.below hB3);have E3:=Za hE;have R3:=Za ((Zv Yk).new hr (Qc _) hB3);have BF:=Za (B1.out.trans (F3.out.bel.mono B1.out.size));have hsn:=Za (look_ok hyes);replace hs3:=Za hs3;clear hyes hn hE hF hr hB3 b3
  go_wp2_with fail
  go_ret2
  exact⟨A,n,c,by rw[e1.out.1];rfl,by rw[e1.out.2.1];exact Zv Yk _ _ _ _ _ _ (fun p v hp hc=>⟨hp.2.1,hc⟩) R3.out,BF.out⟩}
theorem Zv9 (qa qb qc qd:Option Qbb×Nat×Nat) (s:Rm) (gen root next:Int) (dead:List Int) (D:Option Qbb) (dl dc:Nat) (w:Qa9) (hP:Zhi qa qb qc qd D dl dc s gen root next dead w) :
  Qbg Tryz.prog 14 #[.agg #[.slice qa.1 qa.2.1 qa.2.2,.slice qb.1 qb.2.1 qb.2.2,.slice qc.1 qc.2.1 qc.2.2,.slice qd.1 qd.2.1 qd.2.2,.int .u32 gen,.int .i64 root,.int .u32 next,.slice D dl dc]] w fun e w'=>∃ (A:Option Qbb) (n c:Nat),e=.returned (.tuple #[.slice A n c,.int .i64 (Zdb (s,gen,root,next,dead))])/\rSl 1 (rK .i64) (Old w') w' [.slice A n c] (Z4g (s,gen,root,next,dead))/\Qbi w.heap.size w w':=by{
 obtain⟨w1,hw1,b1,hs1,hB1⟩:=Zb6 w (.slice qa.1 qa.2.1 qa.2.2) (.slice qb.1 qb.2.1 qb.2.2) (.slice qc.1 qc.2.1 qc.2.2) (.slice qd.1 qd.2.1 qd.2.2) (.int .u32 gen) (.int .i64 root) (.int .u32 next) (.slice D dl dc) 33;have H1:=hP.below hB1;have hcal:=Za (Zdp s gen root next dead qa qb qc qd D dl dc w1 H1.sto H1.inn H1.dead);obtain⟨p0,p1,p2,p3,p4,p5,p6,p7,_⟩:=Zm b1;have B1:=Za hB1;replace hs1:=Za hs1;clear hB1 b1 H1 hP
 go_enter Tryz.func14,Tryz.ntmps14
 go_upto_region 1 with fail
 clear hw1
 go_wp2_with fail
 with_reducible refine hcal.out.mono ?_
 rintro e w2 (⟨hno,rfl,hb2⟩ | ⟨vs,g,g1,g2,lo,A,n,c,hyes,rfl,hn,hE,hF,hr⟩)
 ·have e1:=Za (Zqy hno)
  have BF:Hid (∀ o,Qbi w.heap.size w (w2.alloc o)):=Za fun o=>(B1.out.trans (hb2.mono B1.out.size)).alloc (B1.out.trans (hb2.mono B1.out.size)).size o
  clear hno hb2
  go_wp2_with fail
  go_ret2
  exact⟨none,0,0,by rw[e1.out.1];rfl,by rw[e1.out.2.2.1];exact Zfo _ _,BF.out _⟩
 ·have e1:=Za (Zgu hyes)
  obtain⟨w3,hw3,b3,hs3,hB3⟩:=Uf w2 (.slice qa.1 qa.2.1 qa.2.2) (.slice qb.1 qb.2.1 qb.2.2) (.slice qc.1 qc.2.1 qc.2.2) (.slice qd.1 qd.2.1 qd.2.2) (.int .u32 gen) (.int .i64 root) (.int .u32 next) (.slice D dl dc) (.map (some g1)) (.slice (some ⟨g2,0,none⟩) 256 256) (.slice A n c) 71;obtain⟨s0,s1,s2,s3,s4,s5,s6,s7,s8,s9,s10,_⟩:=Zg b3;have F3:=Za (hF.below hB3);have E3:=Za hE;have R3:=Za ((Zv Yk).new hr (Qc _) hB3);have BF:=Za (B1.out.trans (F3.out.bel.mono B1.out.size));have hsn:=Za (look_ok hyes);replace hs3:=Za hs3;have hin:Hid (rSl 1 (rK .i64) (Old w3) w3 [.slice (some ⟨g2,0,none⟩) 256 256] g.2):=Za (Z44 F3.out.mrk fun k=>by have:=hsn.out.gg.few k;exact⟨by omega,by omega⟩);clear hyes hn hE hF hr hB3 b3
  go_wp2_with fail
  go_ret2
  exact⟨_,256,256,by rw[e1.out.1];rfl,by rw[e1.out.2.2.1];exact hin.out,BF.out⟩}
theorem Ua {W:Qa9}{o:Nat}{a b c d e f g h a' b' c' d' e' f' g' h':Qba}{t:Qbc}(hz:W.heap[o]? = some (.cells #[a,b,c,d,e,f,g,h] t (0,0))) :
  ∃ W1,(((((((W.setCell ⟨o,0,none⟩ a').setCell ⟨o,1,none⟩ b').setCell ⟨o,2,none⟩ c').setCell ⟨o,3,none⟩ d').setCell ⟨o,4,none⟩ e').setCell ⟨o,5,none⟩ f').setCell ⟨o,6,none⟩ g').setCell ⟨o,7,none⟩ h'=W1/\W1.heap[o]? = some (.cells #[a',b',c',d',e',f',g',h'] t (0,0))/\W.grownBy W1 (some o)/\W1.heap.size=W.heap.size:=by
 exact⟨_,rfl,by simp[Pk,Pm,hz],Zp (p:=⟨o,7,none⟩) (Zp (p:=⟨o,6,none⟩) (Zp (p:=⟨o,5,none⟩) (Zp (p:=⟨o,4,none⟩) (Zp (p:=⟨o,3,none⟩) (Zp (p:=⟨o,2,none⟩) (Zp (p:=⟨o,1,none⟩) (Zp (p:=⟨o,0,none⟩) (Ye W (some o)) rfl a') rfl b') rfl c') rfl d') rfl e') rfl f') rfl g') rfl h',by simp⟩
theorem Zjr (A:Option Qbb) (n cap:Nat) (xs:List Int) (hlen:Hid (xs.length=n)) (hbig:n<=100000) (w:Qa9) (hr:rSl 1 (rK .i64) (Old w) w [.slice A n cap] xs) :
  Qbg Tryz.prog 73 #[.slice A n cap] w fun e w'=>∃ U c,e=.returned (.slice U n c)/\rSl 1 (rK .i64) (New w.heap.size w') w' [.slice U n c] xs/\Qbi w.heap.size w w':=by{
 obtain⟨i0,hi,hz0,hz1,hz2⟩:=info_parts Zlp;have hin:∀ i x,xs[i]? = some x->Zcz x/\∃ ad,A=some ad/\ad.block<w.heap.size/\w.cell? (ad.add i)=some (.int .i64 x):=fun i x hx=>by
  obtain⟨_,_,e,_,_,h2⟩:=hr;cases e;obtain⟨ad,us,e0,_,e3,e4⟩:=h2 i x hx;obtain⟨rfl,e5,e6⟩:=e4;have:=e3 0 _ rfl;simp only[Ps,Q8] at this;simp[IntKind.min,IntKind.max,IntKind.signed,IntKind.bits] at e5 e6;exact⟨⟨e5,e6⟩,ad,e0,by have:=this.1;unfold Old at this;rwa [Zh] at this,this.2⟩
 have hx:Zmp w w.heap.size A (xs.map fun x=>Value.int .i64 x):=fun j v hj=>by
  rw[Qz] at hj;obtain⟨x,hx,rfl⟩:=Option.map_eq_some_iff.1 hj;exact(hin j x hx).2
 have fin:∀ (v:Qba) (w':Qa9),w'.ownsRow w.heap.size 3 1 v n (xs.map fun x=>Value.int .i64 x)->∃ U c,v=.slice U n c/\rSl 1 (rK .i64) (New w.heap.size w') w' [.slice U n c] xs:=fun v w' ho=>by
  obtain⟨U,c,rfl,_⟩:=Yo ho;refine⟨U,c,rfl,?_⟩;have hl:=hlen.out;subst hl;refine Zqc ho rfl fun i x hi=>⟨[.int .i64 x],rfl,fun j u hj=> ?_,Zi5 (hin i x hi).1⟩
  have hj0:j=0:=by
   have:=(Qf.1 hj).1;simp at this;omega
  subst hj0;cases hj;rw[Ps,Q8,Qz,hi];rfl
 have q22:∀ (w:Qa9) (a:Option Qbb) (n c n' c':Nat),(binOp .eql 31 (.slice a n c) (.slice none n' c')).run Tryz.prog w=.ok (.bool a.isNone) w:=fun w a n c n' c'=>Lib.run_eql_slice_nil w _ _ a n c n' c' Tryz.underlying31
 have hone:∀ u∈xs.map fun x=>Value.int .i64 x,u.oneCell'=true:=fun u hu=>by
  obtain⟨x,_,rfl⟩:=List.mem_map.1 hu;rfl
 have hvl:(xs.map fun x=>Value.int .i64 x).length=n:=by rw[Qq];exact hlen.out
 have hfin:=Za fin;generalize (xs.map fun x=>Value.int .i64 x)=vs at hx fin hone hvl hfin;clear hr hin fin;rcases A with _ | ad
 ·have h0:vs=[]:=by
   rcases vs with _ | ⟨v,r⟩
   ·rfl
   ·obtain⟨_,e,_⟩:=hx 0 v rfl
    cases e
  subst h0;obtain rfl:n=0:=by simpa using hvl.symm
  go_enter Tryz.func73,Tryz.ntmps73
  go_wp2
  go_ret;obtain⟨U,c,e,h1⟩:=hfin.out _ w (Qak _ _ _ _);exact⟨U,c,congrArg _ e,h1,Qb _ _⟩
 ·go_enter Tryz.func73,Tryz.ntmps73
  go_wp2_with (at_builtin;refine wpList_append_own _ rfl _ _ 31 rfl w.heap.size 3 i0 (.int .i64 0) 1 8 Tryz.underlying31 hi hz0 hz1 hz2 rfl (by decide) _ _ _ rfl (World.ownsRow_made w #[] 0 (Qc _) (Nat.zero_le _) rfl) ad n cap vs rfl ?qc1 ?qc2 hone ?qc4 ?qc5 ?qc6 ?_)
  case qc1=>rw[hvl,Ps]
  case qc2 =>
   intro j u hj;obtain⟨ad',e,hb,hc⟩:=hx j u hj;cases e;exact Lib.cell?_alloc_some _ hc
  case qc4=>unfold maxLen;omega
  case qc5=>omega
  case qc6=>simp
  intro v' w1 hown hgrow hnil
  go_wp2
  go_ret;obtain⟨U,c,e,h1⟩:=hfin.out v' w1 (by simpa using hown);exact⟨U,c,congrArg _ e,h1,((Qb _ w).alloc (Qc _) _).grown hgrow (by simp) (by intro k hk;simp[Value.ownBlock] at hk;omega)⟩}
theorem Zrp (qa qb qc qd:Option Qbb×Nat×Nat) (s:Rm) (gen root next:Int) (dead:List Int) (D:Option Qbb) (dl dc:Nat) (ra rb rc rd:Option Qbb×Nat×Nat) (T:Rm) (now:Int) (w:Qa9) (hP:Zhi qa qb qc qd D dl dc s gen root next dead w) (hT:Sto (Old w) w (.agg #[.slice ra.1 ra.2.1 ra.2.2,.slice rb.1 rb.2.1 rb.2.2,.slice rc.1 rc.2.1 rc.2.2,.slice rd.1 rd.2.1 rd.2.2]) T) (hnow:Zcz now) (hbig:dl<=100000) :
  Qbg Tryz.prog 33 #[.agg #[.slice qa.1 qa.2.1 qa.2.2,.slice qb.1 qb.2.1 qb.2.2,.slice qc.1 qc.2.1 qc.2.2,.slice qd.1 qd.2.1 qd.2.2,.int .u32 gen,.int .i64 root,.int .u32 next,.slice D dl dc],.agg #[.slice ra.1 ra.2.1 ra.2.2,.slice rb.1 rb.2.1 rb.2.2,.slice rc.1 rc.2.1 rc.2.2,.slice rd.1 rd.2.1 rd.2.2],.int .i64 now] w fun e w'=>∃ U c,e=.returned (.agg #[.slice ra.1 ra.2.1 ra.2.2,.slice rb.1 rb.2.1 rb.2.2,.slice rc.1 rc.2.1 rc.2.2,.slice rd.1 rd.2.1 rd.2.2,.int .u32 gen,.int .i64 now,.int .u32 next,.slice U dl c])/\Zhi ra rb rc rd U dl c T gen now next dead w'/\rSl 1 (rK .i64) (New w.heap.size w') w' [.slice U dl c] dead/\Qbi w.heap.size w w':=by{
 obtain⟨w0,hw0,b0,hs0,hB0⟩:=Zb6 w (.slice qa.1 qa.2.1 qa.2.2) (.slice qb.1 qb.2.1 qb.2.2) (.slice qc.1 qc.2.1 qc.2.2) (.slice qd.1 qd.2.1 qd.2.2) (.int .u32 gen) (.int .i64 root) (.int .u32 next) (.slice D dl dc) 33;obtain⟨w1,hw1,b1,hs1,hB1⟩:=Xy w0 (.slice ra.1 ra.2.1 ra.2.2) (.slice rb.1 rb.2.1 rb.2.2) (.slice rc.1 rc.2.1 rc.2.2) (.slice rd.1 rd.2.1 rd.2.2) 29;obtain⟨w2,hw2,b2,hs2,hB2⟩:=Zb6 w1 (.slice none 0 0) (.slice none 0 0) (.slice none 0 0) (.slice none 0 0) (.int .u32 0) (.int .i64 0) (.int .u32 0) (.slice none 0 0) 33;have hb02:=hB0.trans ((hB1.trans (hB2.mono hB1.size)).mono hB0.size);have C0:=Za (((hB1.trans (hB2.mono hB1.size)).block _ (Qa.1 b0).1).trans b0);have C1:=Za ((hB2.block _ (Qa.1 b1).1).trans b1);have C2:=Za b2;have B2:=Za hb02;have H2:=Za (hP.below hb02);have HT:=Za hT
 have hdl:Hid (dead.length=dl):=Za (by
  obtain⟨_,_,e,_⟩:=hP.dead;cases e
  rfl)
 have hnow':=Za hnow;have hsz:=Za (show w.heap.size<=w1.heap.size/\w1.heap.size<w2.heap.size by omega);replace hs0:=Za hs0;replace hs1:=Za hs1;replace hs2:=Za hs2;clear hB0 hB1 hB2 hb02 b0 b1 b2 hP hT hnow
 go_enter Tryz.func33,Tryz.ntmps33
 go_upto_region 1 with fail
 clear hw0 hw1 hw2
 refine Xi (ops' := ?opsLate) (by kernel_rfl) [] ?he (by kernel_rfl) (fun d _ _ _ _ h=>by cases d <;> exact h) 10 (fun W=>Qbi w2.heap.size w2 W) (fun j=>match j with
   | 8=>some (fun v W=>∃ U c,v=.slice U dl c/\rSl 1 (rK .i64) (New w2.heap.size W) W [.slice U dl c] dead)
   | _=>none) (fun _=>none) ?h1 ?h2 ?h3 (Qb _ _).drew (fun w w' h hb=>h.trans (hb.mono h.size)) ?tst ?_
 case he =>
  simp[Z7];rfl
 case h1=>decide
 case h2=>kernel_rfl
 case h3=>kernel_rfl
 case tst =>
  intro j φ y W W' hp hy hb
  match j,hp with
  | 8,hp=>cases hp;obtain⟨U,c,e,h1⟩:=hy;exact⟨U,c,e,(Zv (Xk _)).new h1 (Qc _) hb⟩
 simp only[Pn,Po,Pp,Pq]
 repeat (first
  | (refine wpAs_skip rfl ?_;simp only[Qd,Zb,Zc,Zd])
  | (refine wpAs_pure (v := ?_) rfl rfl ?_ ?_;rotate_left;(intro W hC hE;clear hE;(obtain⟨p0,p1,p2,p3,p4,p5,p6,p7,_⟩:=Zm ((hC.block _ (Qa.1 C0.out).1).trans C0.out);obtain⟨z0,z1,z2,z3,_⟩:=Ze ((hC.block _ (Qa.1 C1.out).1).trans C1.out));clear hC;go_simp;first | done | with_reducible rfl);simp only[Qd,Zb,Zc,Zd]))
 refine wpAs_act rfl rfl ?_ ?_
 ·intro W hC hE
  clear hE;refine does_enter (f:=73) (args:=#[.slice D dl dc]) ?_ ?_
  ·go_simp
  ·refine(Zjr D dl dc dead hdl hbig W ((Zv (Xk _)).old H2.out.dead hC)).mono ?_
   rintro e W' ⟨U,c,rfl,h1,hb⟩;exact⟨_,rfl,⟨U,c,rfl,(Zv (Xk _)).mono h1 hC.size⟩,hb⟩
 simp only[Qd,Zb,Zc,Zd,envAdd];intro x8;refine wpAs_pure (v:=.agg #[.slice ra.1 ra.2.1 ra.2.2,.slice rb.1 rb.2.1 rb.2.2,.slice rc.1 rc.2.1 rc.2.2,.slice rd.1 rd.2.1 rd.2.2,.int .u32 gen,.int .i64 now,.int .u32 next,x8]) rfl rfl ?_ ?_
 ·intro W hC hE
  obtain⟨_,_,rfl,_⟩:=hE.1 rfl;clear hE hC
  go_simp
 simp only[Qd,Zb,Zc,Zd];refine wpAs_end fun W hC hE=> ?_
 obtain⟨⟨U,c,rfl,hr⟩,_⟩:=hE;have c2:=(hC.block _ (Qa.1 C2.out).1).trans C2.out;obtain⟨t0,t1,t2,t3,t4,t5,t6,t7,tf,_⟩:=Zm c2;obtain⟨wz,hwz,bz,grz,gsz⟩:=Ua (a':=.slice ra.1 ra.2.1 ra.2.2) (b':=.slice rb.1 rb.2.1 rb.2.2) (c':=.slice rc.1 rc.2.1 rc.2.2) (d':=.slice rd.1 rd.2.1 rd.2.2) (e':=.int .u32 gen) (f':=.int .i64 now) (g':=.int .u32 next) (h':=.slice U dl c) c2;obtain⟨f0,f1,f2,f3,f4,f5,f6,f7,_⟩:=Zm bz;have BW:=B2.out.trans (hC.mono B2.out.size);have hBz:=Za (BW.grown grz BW.size (fun q e=>by cases e;exact hsz.out.1));have hd:rSl 1 (rK .i64) (Old wz) wz [.slice U dl c] dead:=Zv (Xk _) _ _ _ _ _ _ (fun p v hp hc=>⟨hp.2.1,hc⟩) ((Zv (Xk _)).grown hr grz (fun q e=>by cases e;exact hsz.out.2));have hdn:=Za ((Zv (Xk _)).mono ((Zv (Xk _)).grown hr grz (fun q e=>by cases e;exact hsz.out.2)) B2.out.size);have hst:Sto (Old wz) wz (.agg #[.slice ra.1 ra.2.1 ra.2.2,.slice rb.1 rb.2.1 rb.2.2,.slice rc.1 rc.2.1 rc.2.2,.slice rd.1 rd.2.1 rd.2.2]) T:=HT.out.below hBz.out;have hfin:Hid (Zhi ra rb rc rd U dl c T gen now next dead wz):=Za ⟨hst,⟨H2.out.inn.1,hnow'.out,H2.out.inn.2.2⟩,hd⟩;replace c2:=Za c2;clear hr bz grz gsz BW hd hst hC
 go_wp2_with fail
 refine Qbd (v:=.agg #[.slice ra.1 ra.2.1 ra.2.2,.slice rb.1 rb.2.1 rb.2.2,.slice rc.1 rc.2.1 rc.2.2,.slice rd.1 rd.2.1 rd.2.2,.int .u32 gen,.int .i64 now,.int .u32 next,.slice U dl c]) (by simp[results,Tryz.results33,go_sem,f0,f1,f2,f3,f4,f5,f6,f7]) rfl ?_;exact⟨U,c,rfl,hfin.out,hdn.out,hBz.out⟩}
def Zbr (id:Int) (v:Vl):Bool:=decide (v.1=id)
def Zvx (id:Int) (vs:List Vl):Int:=match vs.findIdx? (Zbr id) with
 | none => -1
 | some k=>(k:Int)
theorem Zp8 {id:Int}{vs:List Vl}(h:∀ (j:Nat) (v:Vl),vs[j]? = some v->Zbr id v=false):Zvx id vs = -1/\vs.find? (Zbr id)=none:=by
 have hm:∀ x∈vs,Zbr id x=false:=fun x hx=>by
  obtain⟨j,hj⟩:=Qal.1 hx;exact h j x hj
 unfold Zvx;rw[List.findIdx?_eq_none_iff.2 hm];exact⟨rfl,Qam.2 fun x hx=>by rw[hm x hx];simp⟩
theorem Zwf {id:Int}{vs:List Vl}{k:Nat}{v:Vl}(hk:vs[k]? = some v) (hv:Zbr id v=true) (h:∀ (j:Nat) (u:Vl),j<k->vs[j]? = some u->Zbr id u=false):Zvx id vs=(k:Int)/\vs.find? (Zbr id)=some v:=by
 obtain⟨hl,e⟩:=Qf.1 hk;unfold Zvx;have e1:vs.findIdx? (Zbr id)=some k:=by
  rw[List.findIdx?_eq_some_iff_getElem];refine⟨hl,by rw[e];exact hv,fun j hj=> ?_⟩;rw[h j _ hj (Qe (by omega))];simp
 rw[e1];refine⟨rfl,?_⟩;rw[Qan];refine⟨hv,k,hl,e,fun j hj=> ?_⟩;rw[h j _ hj (Qe (by omega))];rfl
theorem Zpd (id:Int) (vs:List Vl):(Zvx id vs = -1/\vs.find? (Zbr id)=none)\/∃ (k:Nat) (v:Vl),Zvx id vs=(k:Int)/\vs[k]? = some v/\Zbr id v=true/\vs.find? (Zbr id)=some v:=by{
 cases h:vs.find? (Zbr id) with
 | none =>
  have h1:=Qam.1 h;exact .inl ⟨(Zp8 fun j v hj=>by have:=h1 v (Q9 hj);simpa using this).1,rfl⟩
 | some v =>
  obtain⟨h1,k,hl,e,h2⟩:=Qan.1 h;have hk:vs[k]? = some v:=by rw[Qe hl,e]
  refine .inr ⟨k,v,(Zwf hk h1 fun j u hj hu=> ?_).1,hk,h1,rfl⟩;have h3:=h2 j hj;obtain⟨h4,e4⟩:=Qf.1 hu;rw[e4] at h3
  simpa using h3}
theorem Zzo (i r o id:Int) (f:Bool) (b:Nat) (w:Qa9) (hc:w.cell? ⟨b,0,none⟩=some (.int .u32 id)) :
  Qbg Tryz.prog 61 #[.agg #[.int .u32 i,.int .i64 r,.bool f,.int .u32 o],.pointer (some ⟨b,0,none⟩)] w fun e w'=>e=.returned (.bool (Zbr id (i,r,f,o)))/\Qbi w.heap.size w w':=by{
 obtain⟨w1,hw1,b1,hs1,hB1⟩:=Xy w (.int .u32 i) (.int .i64 r) (.bool f) (.int .u32 o) 40;obtain⟨t0,t1,t2,t3,_⟩:=Ze b1;have hc1:=(hB1.cell (Qao _ _ hc)).trans hc;obtain⟨q,hq⟩:∃ q,(i==id)=q:=⟨_,rfl⟩
 have he:Hid (Zbr id (i,r,f,o)=q):=Za (by rw[<- hq];rfl);have B1:=Za hB1;replace hs1:=Za hs1;clear hB1 b1 hc
 go_enter Tryz.func61,Tryz.ntmps61
 go_upto_region 1 with fail
 clear hw1
 go_wp2_with fail
 go_ret;exact⟨by rw[he.out];rfl,B1.out⟩}
theorem Zuq (vs:List Vl) (A:Option Qbb) (n c:Nat) (id:Int) (b:Nat) (w:Qa9) (hr:rSl 4 rVl (Old w) w [.slice A n c] vs) (hc:w.cell? ⟨b,0,none⟩=some (.int .u32 id)) :
  Qbg Tryz.prog 60 #[.slice A n c,.func (.func 61) #[] #[.pointer (some ⟨b,0,none⟩)]] w fun e w'=>e=.returned (.int .i64 (Zvx id vs))/\Qbi w.heap.size w w':=by{
 obtain⟨hn,hn63⟩:vs.length=n/\n<=9223372036854775807:=by
  obtain⟨_,_,e,h1,h2,_⟩:=hr;cases e;exact⟨rfl,by omega⟩
 have HR:=Za hr;have hn':=Za hn;have HC:=Za hc;clear hr hn hc
 go_enter Tryz.func60,Tryz.ntmps60
 go_wp2_with fail
 go_loopw [8] (fun vi wr=>∃ k:Nat,k<=n/\vi=.int .i64 k/\(∀ (j:Nat) (u:Vl),j<k->vs[j]? = some u->Zbr id u=false)/\Qbi w.heap.size w wr) (fun vi _=>n-(intOf vi).toNat)
 case atStart=>exact⟨0,by omega,rfl,fun j u hj=>by omega,Qb _ _⟩
 case round =>
 obtain⟨k,hk,rfl,ha,hbr⟩:=hrel;have HA:=Za ha;have BR:=Za hbr;by_cases hlt:k<n
 case neg =>
  have hf:=Za (Zp8 (id:=id) (vs:=vs) fun j v hj=>ha j v (by
   have:=(Qf.1 hj).1;have:=hn'.out
   omega) hj).1
  clear ha hbr
  go_wp2_with fail
  go_ret;exact⟨by rw[hf.out];rfl,BR.out⟩
 obtain⟨⟨vi,vr,vf,vo⟩,hv⟩:∃ v,vs[k]? = some v:=⟨_,Qe (by rw[hn'.out];exact hlt)⟩
 obtain⟨ad,rfl,z0,z1,z2,z3,_⟩:=Zo8 ((Zv Yk).old HR.out hbr) hv;have i4:(0:Int)<=(k:Int):=by omega
 have i5:(k:Int)<(n:Int):=by omega
 have hcal:=Zzo vi vr vo id vf b wr ((hbr.cell (Qao _ _ HC.out)).trans HC.out);obtain⟨q,hq⟩:∃ q,Zbr id (vi,vr,vf,vo)=q:=⟨_,rfl⟩
 rw[hq] at hcal;have hcal':=Za hcal;have hv':=Za hv;clear ha hbr hcal hv
 go_wp2_with fail
 with_reducible refine hcal'.out.mono ?_
 rintro e w2 ⟨rfl,hb2⟩;have BF:=Za (BR.out.trans (hb2.mono BR.out.size));clear hb2;cases q with
 | true =>
  have hf:=Za (Zwf hv'.out hq HA.out).1;replace hq:=Za hq
  go_wp2_with fail
  go_ret;exact⟨by rw[hf.out];rfl,BF.out⟩
 | false =>
  have hA:Hid (∀ (j:Nat) (u:Vl),j<k+1->vs[j]? = some u->Zbr id u=false):=Za fun j u hj hu=>by
   rcases Pj j k with h | h
   ·exact HA.out j u h hu
   ·obtain rfl:j=k:=by omega
    rw[hv'.out] at hu;cases hu;exact hq
  replace hq:=Za hq
  go_wp2_with fail
  go_roundw
  case rel=>exact⟨k+1,by omega,by go_num,hA.out,BF.out⟩
  case measure=>simp[intOf];omega}
theorem Zm9 (vs:List Vl) (A:Option Qbb) (n c:Nat) (id:Int) (q0 q1 q2 q3 q4 q5 q6 q7 q8 q9:Qba) (w:Qa9) (hr:rSl 4 rVl (Old w) w [.slice A n c] vs) :
  Qbg Tryz.prog 29 #[.agg #[q0,q1,q2,q3,q4,q5,q6,q7,q8,q9,.slice A n c],.int .u32 id] w fun e w'=>e=.returned (.int .i64 (Zvx id vs))/\Qbi w.heap.size w w':=by{
 obtain⟨w1,hw1,k1,hs1,hB1⟩:=Uf w q0 q1 q2 q3 q4 q5 q6 q7 q8 q9 (.slice A n c) 71;obtain⟨w2,hw2,f2,hs2,hB2⟩:∃ w2,w1.alloc (.cells #[.int .u32 id] 30)=w2/\w2.cell? ⟨w1.heap.size,0,none⟩=some (.int .u32 id)/\w2.heap.size=w1.heap.size+1/\Qbi w1.heap.size w1 w2:=⟨_,rfl,by simp,by simp,(Qb _ _).alloc (Qc _) _⟩
 have B2:=Za (hB1.trans (hB2.mono hB1.size));have k2:=(hB2.block _ (Qa.1 k1).1).trans k1;obtain⟨s0,s1,s2,s3,s4,s5,s6,s7,s8,s9,s10,_⟩:=Zg k2;have hcal:=Za (Zuq vs A n c id w1.heap.size w2 ((Zv Yk).old hr B2.out) f2);obtain⟨X,hX⟩:∃ q,Zvx id vs=q:=⟨_,rfl⟩
 rw[hX] at hcal ⊢;replace hs1:=Za hs1;replace hs2:=Za hs2;clear k1 k2 hB1 hB2 hr
 go_enter Tryz.func29,Tryz.ntmps29
 go_upto_region 1 with fail
 clear hw1 hw2
 go_wp2_with fail
 with_reducible refine hcal.out.mono ?_
 rintro e w3 ⟨rfl,hb3⟩;have BF:=Za (B2.out.trans (hb3.mono B2.out.size));clear hb3
 go_wp2_with fail
 go_ret;exact⟨rfl,BF.out⟩}
def tkF (s:Rm) (vs:List Vl) (R:List Int) (next id r:Int):Int :=
 if ¬ (0<id/\id<next)\/r<8\/256<=r then 2 else
  if vs.find? (Zbr id)=none/\vs.length=16 then 9 else
   if R[r.toNat]?.getD 0<((s.2.1[r.toNat]?.getD 0).toNat:Int) then ckE s r else 6
theorem Z1m {id:Int}{vs:List Vl}:(Zvx id vs<0↔vs.find? (Zbr id)=none):=by
 rcases Zpd id vs with ⟨h1,h2⟩ | ⟨k,v,h1,_,_,h2⟩
 ·rw[h1,h2];simp
 ·rw[h1,h2];simp
theorem Zrs (qa qb qc qd:Option Qbb×Nat×Nat) (q4 q5 q7:Qba) (s:Rm) (vs:List Vl) (g:Sg) (next:Int) (g1 g2 lo:Nat) (A:Option Qbb) (n c:Nat) (id r o:Int) (f:Bool) (w0 w:Qa9) (hE:FrE s w0 (.agg #[.slice qa.1 qa.2.1 qa.2.2,.slice qb.1 qb.2.1 qb.2.2,.slice qc.1 qc.2.1 qc.2.2,.slice qd.1 qd.2.1 qd.2.2]) g1 g2 lo) (hF:FrW s w0 g1 g2 lo g w) (hr:rSl 4 rVl (Old w) w [.slice A n c] vs) (hl:s.2.1.length=256) :
  Qbg Tryz.prog 30 #[.agg #[.slice qa.1 qa.2.1 qa.2.2,.slice qb.1 qb.2.1 qb.2.2,.slice qc.1 qc.2.1 qc.2.2,.slice qd.1 qd.2.1 qd.2.2,q4,q5,.int .u32 next,q7,.map (some g1),.slice (some ⟨g2,0,none⟩) 256 256,.slice A n c],.agg #[.int .u32 id,.int .i64 r,.bool f,.int .u32 o]] w fun e w'=>e=.returned (.int .i64 (tkF s vs g.2 next id r))/\Qbi w.heap.size w w':=by{
 obtain⟨w1,hw1,b1,hs1,hB1⟩:=Uf w (.slice qa.1 qa.2.1 qa.2.2) (.slice qb.1 qb.2.1 qb.2.2) (.slice qc.1 qc.2.1 qc.2.2) (.slice qd.1 qd.2.1 qd.2.2) q4 q5 (.int .u32 next) q7 (.map (some g1)) (.slice (some ⟨g2,0,none⟩) 256 256) (.slice A n c) 71;obtain⟨w2,hw2,b2,hs2,hB2⟩:=Xy w1 (.int .u32 id) (.int .i64 r) (.bool f) (.int .u32 o) 40;have hb12:=hB1.trans (hB2.mono hB1.size);have C1:=Za ((hB2.block _ (Qa.1 b1).1).trans b1);have C2:=Za b2;have B2:=Za hb12;have F2:=Za (hF.below hb12);have E2:=Za hE;have R2:=Za ((Zv Yk).old hr hb12);have hnl:vs.length=n:=by
  obtain⟨_,_,e,_⟩:=hr;cases e;rfl
 have hn63:n<=9223372036854775807:=by
  obtain⟨_,_,e,h1,h2,_⟩:=hr;cases e;omega
 have hnl':=Za hnl;have hl':=Za hl;obtain⟨gv,hgv⟩:∃ q,decide (0<id/\id<next)=q:=⟨_,rfl⟩
 have hcg:=Zm2 (.slice qa.1 qa.2.1 qa.2.2) (.slice qb.1 qb.2.1 qb.2.2) (.slice qc.1 qc.2.1 qc.2.2) (.slice qd.1 qd.2.1 qd.2.2) q4 q5 q7 (.map (some g1)) (.slice (some ⟨g2,0,none⟩) 256 256) (.slice A n c) next id w2;rw[hgv] at hcg;have hcg':=Za hcg;obtain⟨TE,hTE⟩:∃ q,tkF s vs g.2 next id r=q:=⟨_,rfl⟩
 rw[hTE];have hbad:Hid (gv=false\/r<8\/256<=r->TE=2):=Za fun h=>by
  rw[<- hTE];exact if_pos (h.imp (fun h=>by rw[h] at hgv;exact of_decide_eq_false hgv) (fun h=>h))
 have hok:Hid (gv=true->8<=r->r<256->TE=if vs.find? (Zbr id)=none/\vs.length=16 then 9 else if g.2[r.toNat]?.getD 0<((s.2.1[r.toNat]?.getD 0).toNat:Int) then ckE s r else 6):=Za fun h1 h2 h3=>by
  rw[<- hTE];refine if_neg fun h=> ?_
  rw[h1] at hgv;rcases h with h | h | h
  ·exact h (of_decide_eq_true hgv)
  ·omega
  ·omega
 replace hgv:=Za hgv;replace hTE:=Za hTE;replace hs1:=Za hs1;replace hs2:=Za hs2;clear hB1 hB2 hb12 b1 b2 hE hF hr hnl hcg hl;obtain⟨s0,s1,s2,s3,s4,s5,s6,s7,s8,s9,s10,_⟩:=Zg C1.out;obtain⟨t0,t1,t2,t3,_⟩:=Ze C2.out
 go_enter Tryz.func30,Tryz.ntmps30
 go_upto_region 1 with fail
 clear hw1 hw2
 go_wp2_with fail
 with_reducible refine hcg'.out.mono ?_
 rintro e w3 ⟨rfl,hb3⟩;have D1:=Za ((hb3.block _ (Qa.1 C1.out).1).trans C1.out);have D2:=Za ((hb3.block _ (Qa.1 C2.out).1).trans C2.out);have B3:=Za (B2.out.trans (hb3.mono B2.out.size));have F3:=Za (F2.out.below hb3);have R3:=Za ((Zv Yk).old R2.out hb3);clear hb3 s0 s1 s2 s3 s4 s5 s6 s7 s8 s9 s10 t0 t1 t2 t3 C1 C2 B2 F2 R2 hcg';obtain⟨t0,t1,t2,t3,_⟩:=Ze D2.out;cases gv with
 | false =>
  obtain rfl:TE=2:=hbad.out (.inl rfl)
  go_wp2_with fail
  go_ret;exact⟨rfl,B3.out⟩
 | true =>
 by_cases h8:r<8
 ·obtain rfl:TE=2:=hbad.out (.inr (.inl h8))
  go_wp2_with fail
  go_ret;exact⟨rfl,B3.out⟩
 by_cases h256:256<=r
 ·obtain rfl:TE=2:=hbad.out (.inr (.inr h256))
  go_wp2_with fail
  go_ret;exact⟨rfl,B3.out⟩
 have hTE3:=hok.out rfl (by omega) (by omega);have hpl:=Za (Zm9 vs A n c id (.slice qa.1 qa.2.1 qa.2.2) (.slice qb.1 qb.2.1 qb.2.2) (.slice qc.1 qc.2.1 qc.2.2) (.slice qd.1 qd.2.1 qd.2.2) q4 q5 (.int .u32 next) q7 (.map (some g1)) (.slice (some ⟨g2,0,none⟩) 256 256) w3 R3.out);obtain⟨s0,s1,s2,s3,s4,s5,s6,s7,s8,s9,s10,_⟩:=Zg D1.out;have hTE3':=Za hTE3;clear hTE3
 go_upto_region 3 with fail
 go_wp2_with fail
 with_reducible refine hpl.out.mono ?_
 rintro e w4 ⟨rfl,hb4⟩;have G1:=Za ((hb4.block _ (Qa.1 D1.out).1).trans D1.out);have G2:=Za ((hb4.block _ (Qa.1 D2.out).1).trans D2.out);have B4:=Za (B3.out.trans (hb4.mono B3.out.size));have F4:=Za (F3.out.below hb4);clear hb4 s0 s1 s2 s3 s4 s5 s6 s7 s8 s9 s10 t0 t1 t2 t3 D1 D2 B3 F3 R3 hpl;obtain⟨s0,s1,s2,s3,s4,s5,s6,s7,s8,s9,s10,_⟩:=Zg G1.out;obtain⟨t0,t1,t2,t3,_⟩:=Ze G2.out;obtain⟨X,hX⟩:∃ q,Zvx id vs=q:=⟨_,rfl⟩
 rw[hX];have hXn:Hid (X<0↔vs.find? (Zbr id)=none):=Za (by rw[<- hX];exact Z1m);replace hX:=Za hX;by_cases hx0:X<0
 ·by_cases h16:n=16
  ·subst h16
   obtain rfl:TE=9:=by rw[hTE3'.out,if_pos ⟨hXn.out.1 hx0,hnl'.out⟩]
   go_wp2_with fail
   go_ret;exact⟨rfl,B4.out⟩
  ·have hTE5:Hid (TE=if g.2[r.toNat]?.getD 0<((s.2.1[r.toNat]?.getD 0).toNat:Int) then ckE s r else 6):=Za (by rw[hTE3'.out,if_neg (fun h=>h16 (by rw[<- hnl'.out];exact h.2))])
   have h16':¬ (n:Int)=16:=by omega
   go_upto_region 5 with fail
   obtain⟨q,rfl⟩:∃ q:Nat,r=q:=⟨r.toNat,by omega⟩
   have q256:q<256:=by omega
   have S4:=(F4.out.sto E2.out).parts.2.1;have hl8:qc.2.1=256:=by
    obtain⟨_,_,e,_⟩:=S4;simp only[List.cons.injEq,Value.slice.injEq,and_true] at e;rw[e.2.1,hl'.out]
   obtain⟨hq,hhq⟩:∃ b,decide (g.2[q]?.getD 0<((s.2.1[q]?.getD 0).toNat:Int))=b:=⟨_,rfl⟩
   have hcal:Hid (Qbg Tryz.prog 63 #[.agg #[.slice qa.1 qa.2.1 qa.2.2,.slice qb.1 qb.2.1 qb.2.2,.slice qc.1 qc.2.1 qc.2.2,.slice qd.1 qd.2.1 qd.2.2,q4,q5,.int .u32 next,q7,.map (some g1),.slice (some ⟨g2,0,none⟩) 256 256,.slice A n c],.int .i64 q] w4 fun e w'=>e=.returned (.bool hq)/\Qbi w4.heap.size w4 w'):=Za (by
    rw[<- hhq,hl8];rw[hl8] at S4
    exact Zlt s.2.1 g.2 (.slice qa.1 qa.2.1 qa.2.2) (.slice qb.1 qb.2.1 qb.2.2) (.slice qd.1 qd.2.1 qd.2.2) q4 q5 (.int .u32 next) q7 (.map (some g1)) (.slice A n c) qc.1 qc.2.2 g2 q w4 hl'.out S4 F4.out.mrk q256)
   have hTE6:Hid (TE=if hq=true then ckE s (q:Int) else 6):=Za (by
    rw[hTE5.out,<- hhq];by_cases hh:g.2[q]?.getD 0<((s.2.1[q]?.getD 0).toNat:Int)
    ·rw[show ((q:Int)).toNat=q by omega,if_pos hh,decide_eq_true hh,if_pos rfl]
    ·rw[show ((q:Int)).toNat=q by omega,if_neg hh,decide_eq_false hh,if_neg (by decide)])
   have hCk:=Za (fun v W hW=>Ug v s (q:Int) W hW);replace hhq:=Za hhq;clear S4 hl8
   go_wp2_with fail
   with_reducible refine hcal.out.mono ?_
   rintro e w5 ⟨rfl,hb5⟩;have J1:=Za ((hb5.block _ (Qa.1 G1.out).1).trans G1.out);have J2:=Za ((hb5.block _ (Qa.1 G2.out).1).trans G2.out);have B5:=Za (B4.out.trans (hb5.mono B4.out.size));have S5:=Za ((F4.out.below hb5).sto E2.out);clear hb5 s0 s1 s2 s3 s4 s5 s6 s7 s8 s9 s10 t0 t1 t2 t3 G1 G2 B4 F4;cases hq with
   | false =>
    obtain rfl:TE=6:=hTE6.out
    go_wp2_with fail
    go_ret;exact⟨rfl,B5.out⟩
   | true =>
    have hfin:Hid (TE=ckE s (q:Int)):=Za hTE6.out;obtain⟨s0,s1,s2,s3,s4,s5,s6,s7,s8,s9,s10,_⟩:=Zg J1.out;obtain⟨t0,t1,t2,t3,_⟩:=Ze J2.out
    go_upto_region 7 with fail
    go_wp2_with fail
    with_reducible refine(hCk.out _ _ S5.out).mono ?_
    rintro e w6 ⟨rfl,hb6⟩;have BF:=Za (B5.out.trans (hb6.mono B5.out.size));clear hb6
    go_wp2_with fail
    go_ret;exact⟨by rw[hfin.out];rfl,BF.out⟩
 ·have hTE5:Hid (TE=if g.2[r.toNat]?.getD 0<((s.2.1[r.toNat]?.getD 0).toNat:Int) then ckE s r else 6):=Za (by rw[hTE3'.out,if_neg (fun h=>hx0 (hXn.out.2 h.1))])
  go_upto_region 5 with fail
  obtain⟨q,rfl⟩:∃ q:Nat,r=q:=⟨r.toNat,by omega⟩
  have q256:q<256:=by omega
  have S4:=(F4.out.sto E2.out).parts.2.1;have hl8:qc.2.1=256:=by
   obtain⟨_,_,e,_⟩:=S4;simp only[List.cons.injEq,Value.slice.injEq,and_true] at e;rw[e.2.1,hl'.out]
  obtain⟨hq,hhq⟩:∃ b,decide (g.2[q]?.getD 0<((s.2.1[q]?.getD 0).toNat:Int))=b:=⟨_,rfl⟩
  have hcal:Hid (Qbg Tryz.prog 63 #[.agg #[.slice qa.1 qa.2.1 qa.2.2,.slice qb.1 qb.2.1 qb.2.2,.slice qc.1 qc.2.1 qc.2.2,.slice qd.1 qd.2.1 qd.2.2,q4,q5,.int .u32 next,q7,.map (some g1),.slice (some ⟨g2,0,none⟩) 256 256,.slice A n c],.int .i64 q] w4 fun e w'=>e=.returned (.bool hq)/\Qbi w4.heap.size w4 w'):=Za (by
   rw[<- hhq,hl8];rw[hl8] at S4
   exact Zlt s.2.1 g.2 (.slice qa.1 qa.2.1 qa.2.2) (.slice qb.1 qb.2.1 qb.2.2) (.slice qd.1 qd.2.1 qd.2.2) q4 q5 (.int .u32 next) q7 (.map (some g1)) (.slice A n c) qc.1 qc.2.2 g2 q w4 hl'.out S4 F4.out.mrk q256)
  have hTE6:Hid (TE=if hq=true then ckE s (q:Int) else 6):=Za (by
   rw[hTE5.out,<- hhq];by_cases hh:g.2[q]?.getD 0<((s.2.1[q]?.getD 0).toNat:Int)
   ·rw[show ((q:Int)).toNat=q by omega,if_pos hh,decide_eq_true hh,if_pos rfl]
   ·rw[show ((q:Int)).toNat=q by omega,if_neg hh,decide_eq_false hh,if_neg (by decide)])
  have hCk:=Za (fun v W hW=>Ug v s (q:Int) W hW);replace hhq:=Za hhq;clear S4 hl8
  go_wp2_with fail
  with_reducible refine hcal.out.mono ?_
  rintro e w5 ⟨rfl,hb5⟩;have J1:=Za ((hb5.block _ (Qa.1 G1.out).1).trans G1.out);have J2:=Za ((hb5.block _ (Qa.1 G2.out).1).trans G2.out);have B5:=Za (B4.out.trans (hb5.mono B4.out.size));have S5:=Za ((F4.out.below hb5).sto E2.out);clear hb5 s0 s1 s2 s3 s4 s5 s6 s7 s8 s9 s10 t0 t1 t2 t3 G1 G2 B4 F4;cases hq with
  | false =>
   obtain rfl:TE=6:=hTE6.out
   go_wp2_with fail
   go_ret;exact⟨rfl,B5.out⟩
  | true =>
   have hfin:Hid (TE=ckE s (q:Int)):=Za hTE6.out;obtain⟨s0,s1,s2,s3,s4,s5,s6,s7,s8,s9,s10,_⟩:=Zg J1.out;obtain⟨t0,t1,t2,t3,_⟩:=Ze J2.out
   go_upto_region 7 with fail
   go_wp2_with fail
   with_reducible refine(hCk.out _ _ S5.out).mono ?_
   rintro e w6 ⟨rfl,hb6⟩;have BF:=Za (B5.out.trans (hb6.mono B5.out.size));clear hb6
   go_wp2_with fail
   go_ret;exact⟨by rw[hfin.out];rfl,BF.out⟩}
theorem X3:(Tryz.prog.info? 79).map (·.size)=some 5:=by kernel_rfl
theorem Vy {a b k:Nat}(h:(a<=b/\k=a)\/(b<=a/\k=b)):Nat.min a b=k:=by
 rcases h with ⟨h1,rfl⟩ | ⟨h1,rfl⟩
 ·exact Q0 h1
 ·exact Nat.min_eq_right h1
theorem Zgr {w:Qa9}{a b oa ob la ca lb cb:Nat}{Ca Cb:List Qba}{ta tb:Qbc}(ha:w.heap[a]? = some (.cells Ca.toArray ta (0,0))) (hb:w.heap[b]? = some (.cells Cb.toArray tb (0,0))) (hne:a≠b) (h0:Cb.length≠0) :
  (callFunc 183 #[.slice (some ⟨a,oa,none⟩) la ca,.slice (some ⟨b,ob,none⟩) lb cb]).run Tryz.prog w=.ok (.value (.bool false)) w:=by{
 obtain⟨i0,hi,hz0,hz1,hz2⟩:=info_parts Us
 rw[run_callFunc_extern Tryz.func183 (by kernel_rfl) (by kernel_rfl) (by kernel_rfl) (e:=Extern.SlicesOverlaps.overlaps #[57,57] #[4]) (by kernel_rfl),
  Lib.run_overlaps_apart w 57 4 79 Tryz.underlying57 5 (fun w=>by simp[sizeOf,typeInfo,hi,hz1]) ⟨a,oa,none⟩ ⟨b,ob,none⟩ la ca lb cb hne ta tb Ca.length Cb.length (by simp[Qap,ha]) (by simp[Qap,hb]) h0 (by simp[Qaq,ha]) (by simp[Qaq,ha])]
 rfl}
theorem Zm7 {w:Qa9}{lo n c i k:Nat}{ad:Qbb}{ps:List Iv}(h:w.ownsRow lo 79 5 (.slice (some ad) n c) n (Zj ps)) (hi:i<=n) (hk:0<k) (hc:c<i+k) (hb:i+k<=1000) :
  ∃ c' w1 Z,(Pt #[57,3] 57 #[.slice (some ad) i c,.int .i64 (k:Int)]).run Tryz.prog w=.ok (.slice (some ⟨w.heap.size,0,none⟩) (i+k) c') w1 /\
   w1.heap[w.heap.size]? = some (.cells (Qar Z) 79 (0,0))/\Z.length=c'*5/\i+k<=c'/\c'<=maxLen/\Z.take (i*5)=Zj (ps.take i)/\Qbi w.heap.size w w1/\w1.heap.size=w.heap.size+1:=by{
 obtain⟨i0,hi0,hz0,hz1,hz2⟩:=info_parts Us;have hl:=Zm0 h hi;obtain⟨b,C,rfl,_,hbs,hg,_,_,h3,h4⟩:=Xj hl;have hc1:∀ j v,((Zj ps).take (i*5))[j]? = some v->w.drew.cell? ((⟨b,0,none⟩:Qbb).add j)=some v:=fun j v hj=>hl.cells (g:=b) rfl j v hj
 have hlen:((Zj ps).take (i*5)).length=i*i0.size:=by rw[hz1];exact hl.1
 have Zcx:=run_firstCells_some (P:=Tryz.prog) w.drew i0.size i ⟨b,0,none⟩ i c _ hlen hc1;have hn:=nextslicecap_le (need:=i+k) (old:=c) hc;have hr:=Lib.run_append_grow_zeros (P:=Tryz.prog) w 57 3 57 79 i0 (.agg #[.int .u8 0,.int .u32 0,.int .u32 0,.int .i64 0,.slice none 0 0]) .i64 .i64 Tryz.underlying57 Tryz.underlying3 hi0 hz0
  (some ⟨b,0,none⟩) i c _ Zcx k hk (by omega) hc (by omega) (by rw[hz2];omega) (by rw[hz2];omega)
 have hge:=grownCap_ge w (i+k) c 79;have s1:=size_zeroCells (Value.agg #[.int .u8 0,.int .u32 0,.int .u32 0,.int .i64 0,.slice none 0 0]).cells k;have s2:=size_zeroCells (Value.agg #[.int .u8 0,.int .u32 0,.int .u32 0,.int .i64 0,.slice none 0 0]).cells (grownCap w (i+k) c 79-(i+k));rw[show (Value.agg #[Value.int .u8 0,Value.int .u32 0,Value.int .u32 0,Value.int .i64 0,Value.slice none 0 0]).cells.size=5 from rfl] at s1 s2;generalize Qas (Value.agg #[.int .u8 0,.int .u32 0,.int .u32 0,.int .i64 0,.slice none 0 0]).cells k=z1 at *;generalize Qas (Value.agg #[.int .u8 0,.int .u32 0,.int .u32 0,.int .i64 0,.slice none 0 0]).cells (grownCap w (i+k) c 79-(i+k))=z2 at *;have hcm:=grownCap_le_maxLen w (i+k) c 79 (by unfold maxLen;omega);have h5:((Zj ps).take (i*5)).length=i*5:=by rw[hlen,hz1]
 generalize hX:(Zj ps).take (i*5)=X at *;refine⟨_,_,X++z1.toList++z2.toList,hr,?_,?_,hge,hcm,?_,((Qb _ w).drew).alloc (Qc _) _,by simp⟩
 ·have:=Qbe w.drew (.cells (X.toArray++z1++z2) 79)
  refine this.trans ?_;rw[show (X++z1.toList++z2.toList).toArray=X.toArray++z1++z2 from Array.ext' (by simp)]
 ·rw[Qg,Qg,h5,Qat,Qat,s1,s2]
  omega
 ·rw[List.append_assoc,List.take_append_of_le_length (by omega),Q7 (by omega),Vt,hX]}
def Znh (lo:Nat) (w:Qa9) (A:Option Qbb) (L:List Iv) (e:Qbh) (w':Qa9):Prop:=∃ A' c',e=.returned (.slice A' L.length c')/\w'.ownsRow lo 79 5 (.slice A' L.length c') L.length (Zj L)/\w.grownBy w' (A.map (·.block))
theorem Zsc (A:Option Qbb) (lo lf n c fb m fc i:Nat) (ps qs:List Iv) (w:Qa9) (h:w.ownsRow lo 79 5 (.slice A n c) n (Zj ps)) (hf:w.ownsRow lf 79 5 (.slice (some ⟨fb,0,none⟩) m fc) m (Zj qs))
  (hne:A.map (·.block)≠some fb) (hi:i<=n) (hm:0<m) (hbig:n+m<=1000) (hp1:∀ p∈ps,p.2.oneCell'=true) (hq1:∀ p∈qs,p.2.oneCell'=true) (hlo:lo<=w.heap.size) :
  Qbg Tryz.prog 178 #[.slice A n c,.int .i64 i,.slice (some ⟨fb,0,none⟩) m fc] w (Znh lo w A (ps.take i++(qs++ps.drop i))):=by{
 have hpl:=Zf4 h;have hql:=Zf4 hf;obtain⟨i0,hi0,hz0,hz1,hz2⟩:=info_parts Us;have hqc:∀ j v,(Zj qs)[j]? = some v->w.cell? ((⟨fb,0,none⟩:Qbb).add j)=some v:=fun j v hj=>hf.cells (g:=fb) rfl j v hj
 have hq5:(Zj qs).length=m*5:=hf.1;have hone:=Vb hp1;have honq:=Vb hq1;have ec:∃ A1 c1,Value.slice A n c=.slice A1 n c1/\n<=c1/\c1<=9223372036854775807:=by
  obtain⟨A1,c1,e,h1,h2,_⟩:=Yo h;exact⟨A1,c1,e,h1,h2⟩
 obtain⟨A1,c1,e,hnc,hcm⟩:=ec;cases e;have hm0:¬ ((m:Int)=0):=by omega
 have hin:(i:Int)<=n:=by omega
 have hic:(i:Int)<=c:=by omega
 by_cases hie:i=n
 ·subst hie
  obtain⟨v',w',hr,o1,g1,b1,k1⟩:=Zgy (P:=Tryz.prog) (w:=w) lo 57 57 79 i0 (.agg #[.int .u8 0,.int .u32 0,.int .u32 0,.int .i64 0,.slice none 0 0]) 5 48 Tryz.underlying57 hi0 hz0 hz1 hz2 rfl (by decide) _ _ (Zj ps) h ⟨fb,0,none⟩ m fc (Zj qs) hq5 hqc honq (by unfold maxLen;omega) (by omega) hlo;obtain⟨A2,c2,rfl,_⟩:=Yo o1;have eL:ps.take i++(qs++ps.drop i)=ps++qs:=by rw[Q7 (by omega),Qau (by omega),Pa]
  have hfin:Hid (Znh lo w A (ps.take i++(qs++ps.drop i)) (.returned (.slice A2 (i+m) c2)) w'):=Za (by
   rw[eL];refine⟨A2,c2,by rw[Qg,hpl,hql],?_,?_⟩
   ·rw[Yv,Qg,hpl,hql]
    exact o1
   ·have e4:(Value.slice A i c).ownBlock=A.map (·.block):=by cases A <;> rfl
    rw[<- e4]
    exact g1)
  have H:=Za hr;clear hr o1 g1 b1 k1 h hf hqc hone honq hp1 hq1 hne;by_cases hcc:i=c
  ·subst hcc
   go_enter Tryz.func178,Tryz.ntmps178
   go_wp2_with (at_builtin;refine Zu rfl _ _ _ rfl rfl rfl H.out ?_;clear H)
   go_ret;exact hfin.out
  ·have hcc':¬ c=i:=fun e=>hcc e.symm
   cases A with
   | none =>
    go_enter Tryz.func178,Tryz.ntmps178
    go_wp2_with (at_builtin;refine Zu rfl _ _ _ rfl rfl rfl H.out ?_;clear H)
    go_ret;exact hfin.out
   | some ad =>
    go_enter Tryz.func178,Tryz.ntmps178
    go_wp2_with (at_builtin;refine Zu rfl _ _ _ rfl rfl rfl H.out ?_;clear H)
    go_ret;exact hfin.out
 have hin':i<n:=by omega
 obtain⟨ad,rfl⟩:∃ ad,A=some ad:=by
  obtain⟨_,_,e,_,_,_,h5⟩:=Yo h;cases e;exact h5 (by omega)
 obtain⟨b,C,rfl,hbl,hbs,hg,_,hcM,hC5,hC⟩:=Xj h;have hbf:b≠fb:=fun e=>hne (by rw[e];rfl)
 obtain⟨fb',Cf,e,_,hfs,hgf,_,_,hCf5,hCf⟩:=Xj hf;obtain rfl:fb=fb':=by cases e;rfl
 have hni:¬ ((i:Int)=(n:Int)):=by omega
 have hw1:IntKind.i64.wrap ((n:Int)+(m:Int))=(n:Int)+(m:Int):=by rw[IntKind.wrap_i64];omega
 have hw2:IntKind.i64.wrap ((n:Int)+(m:Int)-(i:Int))=(n:Int)+(m:Int)-(i:Int):=by rw[IntKind.wrap_i64];omega
 have hw3:IntKind.i64.wrap ((i:Int)+(m:Int))=(i:Int)+(m:Int):=by rw[IntKind.wrap_i64];omega
 have hic':¬ c=i:=by omega
 have hcn:c<=9223372036854775807:=hcm;by_cases hroom:n+m<=c
 ·have hgt:¬ ((c:Int)<(n:Int)+(m:Int)):=by omega
  have hov:∀ lb cb ob,(callFunc 183 #[.slice (some ⟨fb,0,none⟩) m fc,.slice (some ⟨b,ob,none⟩) lb cb]).run Tryz.prog w=.ok (.value (.bool false)) w:=fun lb cb ob=>Zgr hgf hg (fun e=>hbf e.symm) (by omega)
  have r1:(n:Int)+(m:Int)<=c:=by omega
  have r2:¬ c=i+m:=by omega
  have r3:(i:Int)+(m:Int)<=(n:Int)+(m:Int):=by omega
  have r6:(i:Int)<=(n:Int)+(m:Int):=by omega
  have r7:(0:Int)<=(i:Int)+(m:Int):=by omega
  have HO:=Za (Vb (ps:=ps.drop i) fun p hp=>hp1 p (Qw hp));have HQ:=Za honq;have r4:((i:Int)+(m:Int)).toNat=i+m:=by omega
  have r5:((n:Int)+(m:Int)).toNat=n+m:=by omega
  replace hov:=Za hov;replace hgf:=Za hgf;replace hg:=Za hg;replace hC:=Za hC;replace hCf:=Za hCf;replace hpl:=Za hpl;replace hql:=Za hql;replace hC5:=Za hC5;replace hCf5:=Za hCf5;clear hqc hone honq hp1 hq1 hne
  go_enter Tryz.func178,Tryz.ntmps178
  go_upto_region 15 with (simp only[hov.out])
  go_still_tail 8,(by kernel_rfl)
  change wpList _ _ _ _ _ w.drew;refine Yy rfl _ _ 57 57 rfl 79 Tryz.underlying57 X3 _ _ _ _ _ _ rfl rfl b ((i+m)*5) C 79 hg.out (Zj (ps.drop i)) (n-i) (Vy (by omega)) (by rw[Yh,Qj,hpl.out]) rfl ⟨b,i*5,none⟩ rfl (Zb8 (w:=w) h i) (by rw[Yh,Qj,hpl.out,hC5.out];omega) HO.out ?_;intro w2 hg2 hb2;have S1:=Za (length_splice C ((i+m)*5) (Zj (ps.drop i)) (by rw[Yh,Qj,hpl.out,hC5.out];omega));have Q2:Hid (∀ j v,(Zj qs)[j]? = some v->w2.cell? ((⟨fb,0,none⟩:Qbb).add j)=some v):=Za fun j v hj=>by
   have hc:=hf.cells (g:=fb) rfl j v hj;refine(Qu ?_).trans hc;rw[Zh];exact hb2.out.block fb hfs (fun e=>hbf (by cases e;rfl))
  have hfin:∀ W,W.heap[b]? = some (.cells (splice (splice C ((i+m)*5) (Zj (ps.drop i))) (i*5) (Zj qs)).toArray 79 (0,0))->w2.grownBy W (some b)->Znh lo w (some ⟨b,0,none⟩) (ps.take i++(qs++ps.drop i)) (.returned (.slice (some ⟨b,0,none⟩) (n+m) c)) W:=fun W h1 h2=>by
   have el:(ps.take i++(qs++ps.drop i)).length=n+m:=by rw[Qg,Qg,Qp,Qj,hpl.out,hql.out];omega
   refine⟨_,c,by rw[el],?_,Xb (Um hb2.out) h2⟩;rw[el];refine V8 hbl h1 hroom hcM (by rw[length_splice _ _ _ (by rw[S1.out,hq5,hC5.out];omega),S1.out,hC5.out]) ?_;rw[Yv,Yv,Vt,<- hC.out,Pd,Q0 (by omega)];have hd:(Zj (ps.drop i)).length=(n-i)*5:=by rw[Yh,Qj,hpl.out]
   have:=Zfz (C:=C) (Y:=Zj qs) (X:=Zj (ps.drop i)) (a:=i*5) (b:=(i+m)*5) (by rw[hq5];omega) (by rw[hd,hC5.out];omega);rw[hd,show (i+m)*5+(n-i)*5=(n+m)*5 by omega] at this;exact this
  replace hfin:=Za hfin;have hroom':=Za hroom;clear h hf hC hCf hCf5 hpl hql
  go_wp2_with (refine Yy rfl _ _ 57 57 rfl 79 Tryz.underlying57 X3 _ _ _ _ _ _ rfl rfl b (i*5) _ 79 hg2.out (Zj qs) m (Vy (by omega)) hq5 rfl ⟨fb,0,none⟩ rfl Q2.out (by rw[S1.out,hq5,hC5.out];have:=hroom'.out;omega) HQ.out ?_;intro w3 hg3 hb3)
  go_ret;exact hfin.out _ hg3.out hb3.out
 ·have hgt:((c:Int)<(n:Int)+(m:Int)):=by omega
  obtain⟨c',w1,Z,hr,hg1,hZ5,hZc,hZm,hZt,hB1,hs1⟩:=Zm7 (i:=i) (k:=n+m-i) h hi (by omega) (by omega) (by omega);rw[show i+(n+m-i)=n+m by omega] at hr hZc;rw[show ((n+m-i:Nat):Int)=(n:Int)+(m:Int)-(i:Int) by omega] at hr;have r1:(0:Int)<=(i:Int)+(m:Int):=by omega
  have r2:¬ c'=i+m:=by omega
  have r3:(i:Int)+(m:Int)<=(n:Int)+(m:Int):=by omega
  have r4:((i:Int)+(m:Int)).toNat=i+m:=by omega
  have r5:¬ c'=i:=by omega
  have r6:(i:Int)<=(n:Int)+(m:Int):=by omega
  have HO:=Za (Vb (ps:=ps.drop i) fun p hp=>hp1 p (Qw hp));have HQ:=Za honq;have Q1:Hid (∀ j v,(Zj qs)[j]? = some v->w1.cell? ((⟨fb,0,none⟩:Qbb).add j)=some v):=Za fun j v hj=>(hB1.cell (by rw[Zh];exact hfs)).trans (hf.cells (g:=fb) rfl j v hj)
  have S1:=Za (length_splice Z (i*5) (Zj qs) (by rw[hq5,hZ5];omega));have G1:=Za hg1;have HR:=Za hr;have hd:Hid ((Zj (ps.drop i)).length=(n-i)*5):=Za (by rw[Yh,Qj,hpl]);have hz5:=Za hZ5;have P2:Hid (∀ w2,w1.grownBy w2 (some w.heap.size)->∀ j v,(Zj (ps.drop i))[j]? = some v->w2.cell? ((⟨b,i*5,none⟩:Qbb).add j)=some v):=Za fun w2 hb2 j v hj=>by
   refine(Qu ?_).trans ((hB1.cell (by rw[Zh];exact hbs)).trans (Zb8 h i j v hj));rw[Zh];exact hb2.block b (by omega) (fun e=>by cases e;omega)
  have hfin:∀ W w2,w1.grownBy w2 (some w.heap.size)->W.heap[w.heap.size]? = some (.cells (splice (splice Z (i*5) (Zj qs)) ((i+m)*5) (Zj (ps.drop i))).toArray 79 (0,0))->w2.grownBy W (some w.heap.size)->Znh lo w (some ⟨b,0,none⟩) (ps.take i++(qs++ps.drop i)) (.returned (.slice (some ⟨w.heap.size,0,none⟩) (n+m) c')) W:=fun W w2 h0 h1 h2=>by
   have el:(ps.take i++(qs++ps.drop i)).length=n+m:=by rw[Qg,Qg,Qp,Qj,hpl,hql];omega
   have hB:Qbi w.heap.size w W:=(hB1.grown h0 hB1.size (fun k e=>by cases e;exact Qc _)).grown h2 (by have:=h0.size;omega) (fun k e=>by cases e;exact Qc _);refine⟨_,c',by rw[el],?_,⟨hB.os,hB.tape,hB.output,hB.size,fun k hk _=>hB.block k hk⟩⟩;rw[el];refine V8 hlo h1 hZc hZm (by rw[length_splice _ _ _ (by rw[S1.out,hd.out,hZ5];omega),S1.out,hZ5]) ?_;rw[Yv,Yv,<- hZt];have:=Zeg (C:=Z) (Y:=Zj qs) (X:=Zj (ps.drop i)) (a:=i*5) (b:=(i+m)*5) (by rw[hq5];omega) (by rw[hd.out,hZ5];omega);rw[hd.out,show (i+m)*5+(n-i)*5=(n+m)*5 by omega] at this;exact this
  replace hfin:=Za hfin;replace hZc:=Za hZc;replace hs1:=Za hs1;clear hqc hone honq hp1 hq1 hne h hf hC hC5 hCf hCf5 hpl hql hr hg1 hZ5 hZt hB1 hg hgf
  go_enter Tryz.func178,Tryz.ntmps178
  go_upto_region 11 with (first | (at_builtin;refine Vj rfl _ _ _ _ rfl rfl rfl HR.out ?_) | (refine Yy rfl _ _ 57 57 rfl 79 Tryz.underlying57 X3 _ _ _ _ _ _ rfl rfl w.heap.size (i*5) _ 79 G1.out (Zj qs) m (Vy (by omega)) hq5 rfl ⟨fb,0,none⟩ rfl Q1.out (by rw[hz5.out,hq5];have:=hZc.out;omega) HQ.out ?_;intro w2 hg2 hb2))
  go_still_tail 8,(by kernel_rfl)
  refine Yy rfl _ _ 57 57 rfl 79 Tryz.underlying57 X3 _ _ _ _ _ _ rfl rfl w.heap.size ((i+m)*5) _ 79 hg2.out (Zj (ps.drop i)) (n-i) (Vy (by omega)) hd.out rfl ⟨b,i*5,none⟩ rfl (P2.out w2 hb2.out) (by rw[S1.out,hd.out,hz5.out];have:=hZc.out;omega) HO.out ?_;intro w3 hg3 hb3
  go_wp2_with fail
  go_ret;exact hfin.out _ _ hb2.out hg3.out (Um hb3.out)}
theorem Zot (A:Option Qbb) (lo lf n c fb m fc i j:Nat) (ps qs:List Iv) (w:Qa9) (h:w.ownsRow lo 79 5 (.slice A n c) n (Zj ps)) (hf:w.ownsRow lf 79 5 (.slice (some ⟨fb,0,none⟩) m fc) m (Zj qs))
  (hne:A.map (·.block)≠some fb) (hj:j=i+1) (hi:j<=n) (hm:0<m) (hbig:n+m<=1000) (hp1:∀ p∈ps,p.2.oneCell'=true) (hq1:∀ p∈qs,p.2.oneCell'=true) (hlo:lo<=w.heap.size) :
  Qbg Tryz.prog 125 #[.slice A n c,.int .i64 i,.int .i64 j,.slice (some ⟨fb,0,none⟩) m fc] w (Znh lo w A (ps.take i++(qs++ps.drop j))):=by{
 have hpl:=Zf4 h;have hql:=Zf4 hf;obtain⟨i0,hi0,hz0,hz1,hz2⟩:=info_parts Us;have hqc:∀ j v,(Zj qs)[j]? = some v->w.cell? ((⟨fb,0,none⟩:Qbb).add j)=some v:=fun j v hj=>hf.cells (g:=fb) rfl j v hj
 have hq5:(Zj qs).length=m*5:=hf.1;have hone:=Vb hp1;have honq:=Vb hq1;obtain⟨ad,rfl⟩:∃ ad,A=some ad:=by
  obtain⟨_,_,e,_,_,_,h5⟩:=Yo h;cases e;exact h5 (by omega)
 obtain⟨b,C,rfl,hbl,hbs,hg,hnc,hcM,hC5,hC⟩:=Xj h;have hcm:c<=9223372036854775807:=by unfold maxLen at hcM;exact hcM
 have hbf:b≠fb:=fun e=>hne (by rw[e];rfl)
 obtain⟨fb',Cf,e,_,hfs,hgf,_,_,hCf5,hCf⟩:=Xj hf;obtain rfl:fb=fb':=by cases e;rfl
 have a1:¬ ((i:Int)=(j:Int)):=by omega
 have a2:(i:Int)<=(j:Int):=by omega
 have a3:(j:Int)<=(n:Int):=by omega
 have a4:(j:Int)<=(c:Int):=by omega
 have a5:(i:Int)<=(n:Int):=by omega
 have a6:(i:Int)<=(c:Int):=by omega
 have a7:¬ c=i:=by omega
 by_cases hjn:j=n
 ·have hjn':((j:Int)=(n:Int)):=by omega
  have hln:¬ ((i:Int)+(m:Int)<(n:Int)):=by omega
  have hln2:¬ (i+m<n):=by omega
  obtain⟨v',w',hr,o1,g1,b1,k1⟩:=Zgy (P:=Tryz.prog) (w:=w) lo 57 57 79 i0 (.agg #[.int .u8 0,.int .u32 0,.int .u32 0,.int .i64 0,.slice none 0 0]) 5 48 Tryz.underlying57 hi0 hz0 hz1 hz2 rfl (by decide) _ _ _ (Zm0 h (show i<=n by omega)) ⟨fb,0,none⟩ m fc (Zj qs) hq5 hqc honq (by unfold maxLen;omega) (by omega) hlo;obtain⟨A2,c2,rfl,_⟩:=Yo o1;have eL:ps.take i++(qs++ps.drop j)=ps.take i++qs:=by rw[Qau (by omega),Pa]
  have hfin:Hid (Znh lo w (some ⟨b,0,none⟩) (ps.take i++(qs++ps.drop j)) (.returned (.slice A2 (i+m) c2)) w'):=Za (by
   rw[eL];have el:(ps.take i++qs).length=i+m:=by rw[Qg,Qp];omega
   refine⟨A2,c2,by rw[el],?_,g1⟩;rw[Yv,el,Vt]
   exact o1)
  have H:=Za hr;replace hj:=Za hj;replace hjn:=Za hjn;clear eL hr o1 g1 b1 k1 h hf hqc hone honq hp1 hq1 hne hg hgf hC hC5 hCf hCf5 hpl hql
  go_enter Tryz.func125,Tryz.ntmps125
  go_wp2_with (at_builtin;refine Zu rfl _ _ _ rfl rfl rfl H.out ?_;clear H)
  go_ret;exact hfin.out
 have hjn':¬ ((j:Int)=(n:Int)):=by omega
 have a8:¬ c=j:=by omega
 have hw1:IntKind.i64.wrap ((i:Int)+(m:Int))=(i:Int)+(m:Int):=by rw[IntKind.wrap_i64];omega
 have hw2:IntKind.i64.wrap ((i:Int)+(m:Int)+((n:Int)-(j:Int)))=(i:Int)+(m:Int)+((n:Int)-(j:Int)):=by rw[IntKind.wrap_i64];omega
 obtain⟨tot,htot⟩:∃ tot,tot=i+m+(n-j):=⟨_,rfl⟩
 have hw3:IntKind.i64.wrap ((i:Int)+(m:Int)+((n-j:Nat):Int))=(tot:Int):=by rw[IntKind.wrap_i64];omega
 have hd:Hid ((Zj (ps.drop j)).length=(n-j)*5):=Za (by rw[Yh,Qj,hpl]);have HO:=Za (Vb (ps:=ps.drop j) fun p hp=>hp1 p (Qw hp));have HQ:=Za honq;have el:(ps.take i++(qs++ps.drop j)).length=tot:=by rw[Qg,Qg,Qp,Qj,hpl,hql];omega
 have r1:(0:Int)<=(i:Int)+(m:Int):=by omega
 have r3:(i:Int)+(m:Int)<=(tot:Int):=by omega
 have r4:((i:Int)+(m:Int)).toNat=i+m:=by omega
 have r6:(i:Int)<=(tot:Int):=by omega
 have hw4:IntKind.i64.wrap ((tot:Int)-(i:Int))=(tot:Int)-(i:Int):=by rw[IntKind.wrap_i64];omega
 replace hj:=Za hj;by_cases hroom:tot<=c
 ·have hgt:¬ ((c:Int)<(tot:Int)):=by omega
  have r2:¬ c=i+m:=by have:=hj.out;omega
  have r7:(tot:Int)<=(c:Int):=by omega
  have S1:Hid ((splice C (i*5) (Zj qs)).length=C.length):=Za (length_splice _ _ _ (by rw[hq5,hC5];omega));have S2:Hid ((splice C ((i+m)*5) (Zj (ps.drop j))).length=C.length):=Za (length_splice _ _ _ (by rw[hd.out,hC5];omega));have Q2:Hid (∀ w2:Qa9,w.grownBy w2 (some b)->∀ j v,(Zj qs)[j]? = some v->w2.cell? ((⟨fb,0,none⟩:Qbb).add j)=some v):=Za fun w2 hb2 j v hj=>by
   refine(Qu ?_).trans (hqc j v hj);rw[Zh];exact hb2.block fb hfs (fun e=>hbf (by cases e;rfl))
  have P0:Hid (∀ j' v,(Zj (ps.drop j))[j']? = some v->w.cell? ((⟨b,j*5,none⟩:Qbb).add j')=some v):=Za (Zb8 h j);have hC5h:=Za hC5;have hgh:=Za hg;by_cases hmj:m=1
  ·have hle:(i:Int)+(m:Int)<=(j:Int):=by have:=hj.out;omega
   have htn:tot=n:=by have:=hj.out;omega
   have P2:Hid (∀ w2:Qa9,w2.heap[b]? = some (.cells (splice C (i*5) (Zj qs)).toArray 79 (0,0))->∀ j' v,(Zj (ps.drop j))[j']? = some v->w2.cell? ((⟨b,j*5,none⟩:Qbb).add j')=some v):=Za fun w2 h2 j' v hj'=>by
    have h0:=Zb8 h j j' v hj';have e:((⟨b,j*5,none⟩:Qbb).add j')=⟨b,j*5+j',none⟩:=Zbj _ _ _;rw[e] at h0 ⊢;rw[Zf5 hg] at h0;rw[Zf5 h2,Zoc (by rw[hq5,hC5];omega) (by rw[hq5];have:=hj.out;omega)];exact h0
   have hfin:∀ (W w2:Qa9),w.grownBy w2 (some b)->W.heap[b]? = some (.cells (splice (splice C (i*5) (Zj qs)) ((i+m)*5) (Zj (ps.drop j))).toArray 79 (0,0))->w2.grownBy W (some b)->Znh lo w (some ⟨b,0,none⟩) (ps.take i++(qs++ps.drop j)) (.returned (.slice (some ⟨b,0,none⟩) tot c)) W:=fun W w2 h0 h1 h2=>by
    refine⟨_,c,by rw[el],?_,Xb h0 h2⟩;rw[el];refine V8 hbl h1 hroom hcM (by rw[length_splice _ _ _ (by rw[S1.out,hd.out,hC5];omega),S1.out,hC5]) ?_;rw[Yv,Yv,Vt,<- hC,Pd,Q0 (by omega)];have:=Zeg (C:=C) (Y:=Zj qs) (X:=Zj (ps.drop j)) (a:=i*5) (b:=(i+m)*5) (by rw[hq5];omega) (by rw[hd.out,hC5];omega);rw[hd.out,show (i+m)*5+(n-j)*5=tot*5 by omega] at this;exact this
   replace hfin:=Za hfin;have hroom':=Za (show i+m+(n-j)<=c by omega);have hmin:=Za (Vy (a:=m) (b:=tot-i) (k:=m) (by omega));have hmin2:=Za (Vy (a:=n-j) (b:=tot-(i+m)) (k:=n-j) (by omega));have htn':(tot:Int)<=(n:Int):=by omega
   have htz:n-tot=0:=by omega
   replace htot:=Za htot;replace hmj:=Za hmj;replace htn:=Za htn;clear hqc hone honq hp1 hq1 hne h hf hC hC5 hCf hCf5 hpl hql hg hgf el
   go_enter Tryz.func125,Tryz.ntmps125
   go_upto_region 9 with fail
   go_quiet (fail)
   go_upto_region 18 with (refine Yy rfl _ _ 57 57 rfl 79 Tryz.underlying57 X3 _ _ _ _ _ _ rfl rfl b (i*5) _ 79 hgh.out (Zj qs) m hmin.out hq5 rfl ⟨fb,0,none⟩ rfl (Q2.out _ (Zyb _ _ _)) (by rw[hq5,hC5h.out];have:=hroom'.out;omega) HQ.out ?_;intro w2 hg2 hb2)
   go_still_tail 9,(by kernel_rfl)
   refine Yy rfl _ _ 57 57 rfl 79 Tryz.underlying57 X3 _ _ _ _ _ _ rfl rfl b ((i+m)*5) _ 79 hg2.out (Zj (ps.drop j)) (n-j) hmin2.out hd.out rfl ⟨b,j*5,none⟩ rfl (P2.out w2 hg2.out) (by rw[S1.out,hd.out,hC5h.out];have:=hroom'.out;omega) HO.out ?_;intro w3 hg3 hb3;by_cases hcn:c=tot
   ·subst hcn
    go_wp2_with (refine Zd7 rfl _ 57 rfl 79 Tryz.underlying57 _ _ rfl ?_)
    go_ret;exact hfin.out _ _ (Ziy hb2.out) hg3.out (Um hb3.out)
   ·go_wp2_with (refine Zd7 rfl _ 57 rfl 79 Tryz.underlying57 _ _ rfl ?_)
    go_ret;exact hfin.out _ _ (Ziy hb2.out) hg3.out (Um hb3.out)
  ·have hle:¬ ((i:Int)+(m:Int)<=(j:Int)):=by have:=hj.out;omega
   have hov:Hid (∀ la ca lb cb ob nq,(callFunc 183 #[.slice (some ⟨b,ob,none⟩) la ca,.slice (some ⟨fb,0,none⟩) lb cb]).run Tryz.prog (w.drewN nq)=.ok (.value (.bool false)) (w.drewN nq)):=Za fun la ca lb cb ob nq=>Zgr (w:=w.drewN nq) hg hgf hbf (by omega)
   have hfin:∀ (W w2:Qa9),w.grownBy w2 (some b)->W.heap[b]? = some (.cells (splice (splice C ((i+m)*5) (Zj (ps.drop j))) (i*5) (Zj qs)).toArray 79 (0,0))->w2.grownBy W (some b)->Znh lo w (some ⟨b,0,none⟩) (ps.take i++(qs++ps.drop j)) (.returned (.slice (some ⟨b,0,none⟩) tot c)) W:=fun W w2 h0 h1 h2=>by
    refine⟨_,c,by rw[el],?_,Xb h0 h2⟩;rw[el];refine V8 hbl h1 hroom hcM (by rw[length_splice _ _ _ (by rw[S2.out,hq5,hC5];omega),S2.out,hC5]) ?_;rw[Yv,Yv,Vt,<- hC,Pd,Q0 (by omega)];have:=Zfz (C:=C) (Y:=Zj qs) (X:=Zj (ps.drop j)) (a:=i*5) (b:=(i+m)*5) (by rw[hq5];omega) (by rw[hd.out,hC5];omega);rw[hd.out,show (i+m)*5+(n-j)*5=tot*5 by omega] at this;exact this
   replace hfin:=Za hfin;have hroom':=Za (show i+m+(n-j)<=c by omega);have hmin:=Za (Vy (a:=m) (b:=tot-i) (k:=m) (by omega));have hmin2:=Za (Vy (a:=n-j) (b:=tot-(i+m)) (k:=n-j) (by omega));replace htot:=Za htot;clear hqc hone honq hp1 hq1 hne h hf hC hC5 hCf hCf5 hpl hql hg hgf el
   go_enter Tryz.func125,Tryz.ntmps125
   go_upto_region 9 with fail
   go_quiet (fail)
   go_upto_region 22 with (simp only[hov.out])
   go_still_tail 9,(by kernel_rfl)
   refine Yy rfl _ _ 57 57 rfl 79 Tryz.underlying57 X3 _ _ _ _ _ _ rfl rfl b ((i+m)*5) _ 79 hgh.out (Zj (ps.drop j)) (n-j) hmin2.out hd.out rfl ⟨b,j*5,none⟩ rfl P0.out (by rw[hd.out,hC5h.out];have:=hroom'.out;omega) HO.out ?_;intro w2 hg2 hb2;have hb2':Hid (w.grownBy w2 (some b)):=Za ⟨hb2.out.os,hb2.out.tape,hb2.out.output,hb2.out.size,hb2.out.block⟩;clear hb2
   go_wp2_with (refine Yy rfl _ _ 57 57 rfl 79 Tryz.underlying57 X3 _ _ _ _ _ _ rfl rfl b (i*5) _ 79 hg2.out (Zj qs) m hmin.out hq5 rfl ⟨fb,0,none⟩ rfl (Q2.out _ hb2'.out) (by rw[S2.out,hq5,hC5h.out];have:=hroom'.out;omega) HQ.out ?_;intro w3 hg3 hb3)
   go_ret;exact hfin.out _ _ hb2'.out hg3.out hb3.out
 ·have hgt:((c:Int)<(tot:Int)):=by omega
  have hz:Hid (∀ nq,∃ c' w1 Z,(Pt #[57,3] 57 #[.slice (some ⟨b,0,none⟩) i c,.int .i64 ((tot:Int)-(i:Int))]).run Tryz.prog (w.drewN nq)=.ok (.slice (some ⟨w.heap.size,0,none⟩) tot c') w1 /\
    w1.heap[w.heap.size]? = some (.cells (Qar Z) 79 (0,0))/\Z.length=c'*5/\tot<=c'/\c'<=maxLen/\Z.take (i*5)=Zj (ps.take i)/\Qbi w.heap.size w w1/\w1.heap.size=w.heap.size+1):=Za fun nq=>by
   obtain⟨c',w1,Z,e1,e2,e3,e4,e5,e6,e7,e8⟩:=Zm7 (w:=w.drewN nq) (i:=i) (k:=tot-i) h (by have:=hj.out;omega) (by omega) (by omega) (by omega);rw[show i+(tot-i)=tot by omega] at e1 e4;rw[show ((tot-i:Nat):Int)=(tot:Int)-(i:Int) by omega] at e1;exact⟨c',w1,Z,e1,e2,e3,e4,e5,e6,⟨e7.os,e7.tape,e7.output,e7.size,e7.block⟩,e8⟩
  replace htot:=Za htot
  go_enter Tryz.func125,Tryz.ntmps125
  go_upto_region 9 with fail
  go_quiet (fail)
  obtain⟨c',w1,Z,hr,hg1,hZ5,hZc,hZm,hZt,hB1,hs1⟩:=hz.out nq;clear hz;have r2:¬ c'=i+m:=by have:=hj.out;have:=htot.out;omega
  have r5:¬ c'=i:=by omega
  have Q1:Hid (∀ j v,(Zj qs)[j]? = some v->w1.cell? ((⟨fb,0,none⟩:Qbb).add j)=some v):=Za fun j v hj=>(hB1.cell (by rw[Zh];exact hfs)).trans (hqc j v hj)
  have S1:=Za (length_splice Z (i*5) (Zj qs) (by rw[hq5,hZ5];have:=htot.out;omega));have G1:=Za hg1;have HR:=Za hr;have hz5:=Za hZ5;have P2:Hid (∀ w2:Qa9,w1.grownBy w2 (some w.heap.size)->∀ j' v,(Zj (ps.drop j))[j']? = some v->w2.cell? ((⟨b,j*5,none⟩:Qbb).add j')=some v):=Za fun w2 hb2 j' v hj'=>by
   refine(Qu ?_).trans ((hB1.cell (by rw[Zh];exact hbs)).trans (Zb8 h j j' v hj'));rw[Zh];exact hb2.block b (by omega) (fun e=>by cases e;omega)
  have hfin:∀ W w2:Qa9,w1.grownBy w2 (some w.heap.size)->W.heap[w.heap.size]? = some (.cells (splice (splice Z (i*5) (Zj qs)) ((i+m)*5) (Zj (ps.drop j))).toArray 79 (0,0))->w2.grownBy W (some w.heap.size)->Znh lo w (some ⟨b,0,none⟩) (ps.take i++(qs++ps.drop j)) (.returned (.slice (some ⟨w.heap.size,0,none⟩) tot c')) W:=fun W w2 h0 h1 h2=>by
   have hB:Qbi w.heap.size w W:=(hB1.grown h0 hB1.size (fun k e=>by cases e;exact Qc _)).grown h2 (by have:=h0.size;omega) (fun k e=>by cases e;exact Qc _);refine⟨_,c',by rw[el],?_,⟨hB.os,hB.tape,hB.output,hB.size,fun k hk _=>hB.block k hk⟩⟩;rw[el];refine V8 hlo h1 hZc hZm (by rw[length_splice _ _ _ (by rw[S1.out,hd.out,hZ5];have:=htot.out;omega),S1.out,hZ5]) ?_;rw[Yv,Yv,<- hZt];have:=Zeg (C:=Z) (Y:=Zj qs) (X:=Zj (ps.drop j)) (a:=i*5) (b:=(i+m)*5) (by rw[hq5];omega) (by rw[hd.out,hZ5];have:=htot.out;omega);rw[hd.out,show (i+m)*5+(n-j)*5=tot*5 by have:=htot.out;omega] at this;exact this
  have hmin:=Za (Vy (a:=m) (b:=tot-i) (k:=m) (by have:=htot.out;omega));have hmin2:=Za (Vy (a:=n-j) (b:=tot-(i+m)) (k:=n-j) (by have:=htot.out;omega));have hroom':=Za (show i+m+(n-j)<=c' by have:=htot.out;omega);replace hfin:=Za hfin;replace hs1:=Za hs1;clear hqc hone honq hp1 hq1 hne h hf hC hC5 hCf hCf5 hpl hql hr hg1 hZ5 hZt hB1 hg hgf el
  go_upto_region 13 with (first | (at_builtin;refine Vj rfl _ _ _ _ rfl rfl rfl HR.out ?_) | (refine Yy rfl _ _ 57 57 rfl 79 Tryz.underlying57 X3 _ _ _ _ _ _ rfl rfl w.heap.size (i*5) _ 79 G1.out (Zj qs) m hmin.out hq5 rfl ⟨fb,0,none⟩ rfl Q1.out (by rw[hz5.out,hq5];have:=hroom'.out;omega) HQ.out ?_;intro w2 hg2 hb2))
  go_still_tail 9,(by kernel_rfl)
  refine Yy rfl _ _ 57 57 rfl 79 Tryz.underlying57 X3 _ _ _ _ _ _ rfl rfl w.heap.size ((i+m)*5) _ 79 hg2.out (Zj (ps.drop j)) (n-j) hmin2.out hd.out rfl ⟨b,j*5,none⟩ rfl (P2.out w2 hb2.out) (by rw[S1.out,hd.out,hz5.out];have:=hroom'.out;omega) HO.out ?_;intro w3 hg3 hb3
  go_wp2_with fail
  go_ret;exact hfin.out _ _ hb2.out hg3.out (Um hb3.out)}
theorem Zkq {f f':Int->Ky->Ky->Bool->Bool}:∀ {l:List It}{tb:Ky}{e:Bool},(∀ x∈l,∀ k tb e,f x.2.1 k tb e=true->f' x.2.1 k tb e=true)->Zbq f l tb e=true->Zbq f' l tb e=true
 | [],_,_,_,_=>rfl
 | x::r,tb,e,h,hf=>by
  rw[Zaf,Qn] at hf ⊢;exact⟨h x Qi _ _ _ hf.1,Zkq (fun y hy=>h y (Qh _ hy)) hf.2⟩
def ndD (d:Dk) (n:Int):Nd:=reV (Ya d n.toNat)
def Zk2 (d:Dk):List Int->Nat->Nat
 | [],_=>0
 | n::r,k=>Xh (ndD d n).2 k+Zk2 d r k
def Zec (t:List UInt8) (k:Nat):Nat:=(t[k]?.getD 0).toNat
structure Enf (d:Dk) (t:List UInt8) (P:Nat->Nat) (N:List Int):Prop where
 once:N.Nodup
 node:∀ n∈N,0<=n/\n<256/\reN (Ya d n.toNat)=0/\Zec t n.toNat≠0
 shut:∀ n∈N,(ndD d n).1≠0->∀ x∈(ndD d n).2,x.2.1∈N/\x.2.1≠0/\(ndD d x.2.1).1+1=(ndD d n).1
 refs:∀ n∈N,Zcu (ndD d n).2
 enough:∀ k,P k+Zk2 d N k<=Zec t k
theorem Zl5 (d:Dk) (p:Int->Bool) (k:Nat):∀ N:List Int,Zk2 d (N.filter p) k<=Zk2 d N k
 | []=>Qc _
 | n::r=>by
  have:=Zl5 d p k r;rw[List.filter_cons];split
  ·unfold Zk2;omega
  ·show Zk2 d (r.filter p) k<=Xh (ndD d n).2 k+Zk2 d r k
   omega
theorem Zjp {d:Dk}{k:Nat}{n:Int}:∀ {N:List Int},n∈N->Xh (ndD d n).2 k<=Zk2 d N k
 | m::r,h=>by
  unfold Zk2;rcases Qk.1 h with rfl | h
  ·omega
  ·have:=Zjp (k:=k) (d:=d) h
   omega
theorem Zi6 {l:List It}{x:It}(hx:x∈l){k:Nat}(hk:x.2.1=(k:Int)) (h0:x.2.1≠0):1<=Xh l k:=by{
 induction l with
 | nil=>cases hx
 | cons y r ih =>
  unfold Xh;rcases Qk.1 hx with rfl | hx
  ·rw[if_pos hk,if_neg h0]
   omega
  ·have:=ih hx
   omega}
theorem Zqs {t u:List UInt8}{a:Nat}(h:dnO t a=some u):Zec t a=Zec u a+1/\(∀ k,k≠a->Zec u k=Zec t k):=by
 obtain⟨h1,h2,h3,h4⟩:=Zcp h;refine⟨h4.symm,fun k hk=> ?_⟩;unfold Zec;rw[h2,List.getElem?_set_ne (Ne.symm hk)]
def Z36 (u:List UInt8) (N:List Int):List Int:=N.filter fun n=>decide (Zec u n.toNat≠0)
theorem Enf.part {d:Dk}{t u:List UInt8}{P Q:Nat->Nat}{N:List Int}(h:Enf d t P N) (p:Int->Bool) (hn:∀ n∈N,p n=true->Zec u n.toNat≠0) (hs:∀ n∈N,p n=true->∀ x∈(ndD d n).2,x.2.1∈N->x.2.1≠0->p x.2.1=true) (he:∀ k,Q k+Zk2 d (N.filter p) k<=Zec u k):Enf d u Q (N.filter p):=by{
 refine⟨h.once.filter _,fun n hm=> ?_,fun n hm h0 x hx=> ?_,fun n hm=> ?_,he⟩
 ·obtain⟨h1,h2⟩:=Qo.1 hm
  obtain⟨g1,g2,g3,_⟩:=h.node n h1;exact⟨g1,g2,g3,hn n h1 h2⟩
 ·obtain⟨h1,h2⟩:=Qo.1 hm
  obtain⟨g1,g2,g3⟩:=h.shut n h1 h0 x hx;exact⟨Qo.2 ⟨g1,hs n h1 h2 x hx g1 g2⟩,g2,g3⟩
 ·exact h.refs n (Qo.1 hm).1}
theorem Zxy {d:Dk}{t u:List UInt8}{P:Nat->Nat}{N:List Int}{a:Nat}(h:Enf d t (fun k=>P k+if k=a then 1 else 0) N) (hd:dnO t a=some u):Enf d u P (Z36 u N):=by{
 obtain⟨c1,c2⟩:=Zqs hd;refine h.part _ (fun n hn hp=>by simpa using hp) (fun n hn hp x hx hxN hx0=> ?_) (fun k=> ?_)
 ·simp only[decide_eq_true_eq] at hp ⊢
  intro h0;obtain⟨g1,_,_,g4⟩:=h.node _ hxN;have hxa:x.2.1.toNat=a:=by
   by_cases e:x.2.1.toNat=a
   ·exact e
   ·rw[c2 _ e] at h0
    exact absurd h0 g4
  have h1:=h.enough a;rw[hxa] at h0;have h2:=Zi6 hx (k:=a) (by omega) hx0;have h3:=Zjp (d:=d) (k:=a) hn;simp only[if_true] at h1;omega
 ·have h1:=h.enough k
  have h2:=Zl5 d (fun n=>decide (Zec u n.toNat≠0)) k N;by_cases e:k=a
  ·subst e
   simp only[if_true] at h1;omega
  ·rw[c2 k e]
   simp only[if_neg e] at h1;omega}
theorem Enf.same {d:Dk}{t:List UInt8}{P Q:Nat->Nat}{N:List Int}(h:Enf d t P N) (e:∀ k,Q k=P k):Enf d t Q N:=⟨h.once,h.node,h.shut,h.refs,fun k=>by rw[e];exact h.enough k⟩
theorem Zf1 {t:List UInt8}{k:Nat}:Zec t k≠0↔t[k]?.getD 0≠0:=by
 unfold Zec;rw[ne_eq,X8]
theorem Zmg {s:Rm}{n:Int}(h:rmE s n=0):ndD s.1 n=rmV s n:=by
 obtain⟨k,rfl,_,_,_,_,_,_,hV,_⟩:=Vh (Xf h).2;rw[hV,ndD,show ((k:Int)).toNat=k by omega]
theorem Ux {s:Rm}{n:Nd}(h:mkE s n=0):Zbl s (mkV s n):=by{
 obtain⟨k,e1,h8,h256,hz,_,hc,hV,hm,c1,c2,_⟩:=U7 h;have hne:∀ i:Nat,s.2.1[i]?.getD 0≠0->i≠k:=fun i hi e=>hi (by rw[e];exact hz)
 refine⟨hm,fun i hi=> ?_,fun i hi=> ?_⟩
 ·rw[<- Zf1]
  have h1:=c2 i (hne i hi);have h2:=Zf1.2 hi;unfold Zec at h2 ⊢;omega
 ·rw[hV]
  exact X2 (hne i hi)}
theorem Zjg {s:Rm}{n:Nd}{P:Nat->Nat}{N:List Int}(h:mkE s n=0) (hi:InN n) (hE:Enf s.1 s.2.1 P N) (hsub:n.1≠0->∀ x∈n.2,x.2.1∈N/\x.2.1≠0/\(ndD s.1 x.2.1).1+1=n.1) :
  ∃ k:Nat,mkN s n=k/\8<=k/\k<256/\Zec s.2.1 k=0/\(k:Int)∉N/\Enf (mkV s n).1 (mkV s n).2.1 (fun i=>P i+if i=k then 1 else 0) ((k:Int)::N)/\ndD (mkV s n).1 (k:Int)=n/\(∀ m∈N,ndD (mkV s n).1 m=ndD s.1 m)/\rmE (mkV s n) (k:Int)=0/\rmV (mkV s n) (k:Int)=n/\Zec (mkV s n).2.1 k=1:=by{
 obtain⟨_,hn,_⟩:=Zx6 h;obtain⟨k,e1,h8,h256,hz,_,hc,hV,hm,c1,c2,_⟩:=U7 h;have hseen:Ya (mkV s n).1 k=Ui n:=by rw[hV];exact U9
 have ha:asE (mkV s n) (k:Int)=0:=Zh1 hm h8 h256 (by rw[c1];decide);obtain⟨r1,r2⟩:=Zw4 ha hseen hn hi;have hnd:ndD (mkV s n).1 (k:Int)=n:=(Zmg r1).trans r2;have hz8:Zec s.2.1 k=0:=by unfold Zec;rw[hz];rfl
 have hkN:(k:Int)∉N:=fun hin=>by
  have:=(hE.node _ hin).2.2.2;rw[show ((k:Int)).toNat=k by omega] at this;exact this hz8
 have Zcx:∀ m∈N,m.toNat≠k:=fun m hmN e=>by
  have h0:=(hE.node m hmN).1;exact hkN (by rw[<- e,show ((m.toNat:Nat):Int)=m by omega];exact hmN)
 have hsm:∀ m∈N,Ya (mkV s n).1 m.toNat=Ya s.1 m.toNat:=fun m hmN=>by
  rw[hV];exact X2 (Zcx m hmN)
 have hndm:∀ m∈N,ndD (mkV s n).1 m=ndD s.1 m:=fun m hmN=>by rw[ndD,ndD,hsm m hmN]
 have hc1:Zec (mkV s n).2.1 k=1:=by unfold Zec;rw[c1];rfl
 have hc2:∀ i,i≠k->Zec (mkV s n).2.1 i=Zec s.2.1 i+Xh n.2 i:=fun i hne=>c2 i hne
 have hsum:∀ i,Zk2 (mkV s n).1 N i=Zk2 s.1 N i:=fun i=>by
  have:∀ M:List Int,(∀ m∈M,m∈N)->Zk2 (mkV s n).1 M i=Zk2 s.1 M i:=by
   intro M
   induction M with
   | nil=>intro _;rfl
   | cons m r ih =>
    intro hM;show Xh (ndD (mkV s n).1 m).2 i+Zk2 (mkV s n).1 r i=Xh (ndD s.1 m).2 i+Zk2 s.1 r i;rw[hndm m (hM m Qi),ih fun x hx=>hM x (Qh _ hx)]
  exact this N fun m hm=>hm
 refine⟨k,e1,h8,h256,hz8,hkN,⟨List.nodup_cons.2 ⟨hkN,hE.once⟩,fun m hmN=> ?_,fun m hmN h0 x hx=> ?_,fun m hmN=> ?_,fun i=> ?_⟩,hnd,hndm,r1,r2,hc1⟩
 ·rcases Qk.1 hmN with rfl | hmN
  ·refine⟨by omega,by omega,?_,by rw[show ((k:Int)).toNat=k by omega,hc1];decide⟩
   rw[show ((k:Int)).toNat=k by omega,hseen];exact(Zb2 hn hi).1
  ·obtain⟨g1,g2,g3,g4⟩:=hE.node m hmN
   refine⟨g1,g2,by rw[hsm m hmN];exact g3,?_⟩;rw[hc2 _ (Zcx m hmN)];omega
 ·rcases Qk.1 hmN with rfl | hmN
  ·rw[hnd] at h0 hx ⊢
   obtain⟨g1,g2,g3⟩:=hsub h0 x hx;exact⟨Qh _ g1,g2,by rw[hndm _ g1];exact g3⟩
  ·rw[hndm m hmN] at h0 hx ⊢
   obtain⟨g1,g2,g3⟩:=hE.shut m hmN h0 x hx;exact⟨Qh _ g1,g2,by rw[hndm _ g1];exact g3⟩
 ·rcases Qk.1 hmN with rfl | hmN
  ·rw[hnd]
   exact Zag hn
  ·rw[hndm m hmN]
   exact hE.refs m hmN
 ·show P i+(if i=k then 1 else 0)+(Xh (ndD (mkV s n).1 (k:Int)).2 i+Zk2 (mkV s n).1 N i)<=_
  rw[hnd,hsum];have h1:=hE.enough i;by_cases e:i=k
  ·subst e
   rw[if_pos rfl,hc1];omega
  ·rw[if_neg e,hc2 i e]
   omega}
theorem Zys {d:Dk}{t u:List UInt8}{P:Nat->Nat}{N:List Int}{a:Nat}(h:Enf d t (fun k=>P k+if k=a then 1 else 0) N) (hd:dnO t a=some u) (hc:Zec u a≠0):Enf d u P N:=by{
 have s:=Zxy h hd;obtain⟨c1,c2⟩:=Zqs hd;have:Z36 u N=N:=by
  unfold Z36;rw[Qav];intro n hn;have h4:=(h.node n hn).2.2.2;by_cases e:n.toNat=a
  ·rw[e];simpa using hc
  ·rw[c2 _ e];simpa using h4
 rwa [this] at s}
def Uc (L:List It) (x:It):List It:=(L.filter fun y=>Zr y.1 x.1)++x::(L.filter fun y=>Zr x.1 y.1)
theorem Zh3 {p:It->Bool}{L:List It}(h:∀ x∈L,p x=true):L.filter p=L:=Qav.2 h
theorem Zqe {A B C:List It}{x:It}(hA:∀ y∈A,Zr y.1 x.1=true) (hC:∀ y∈C,Zr x.1 y.1=true):Uc (A++(B++C)) x=A++(Uc B x++C):=by
 unfold Uc;simp only[List.filter_append];rw[Zh3 hA,U8 (L:=A) (fun y hy=>Ut (hA y hy)),U8 (L:=C) (fun y hy=>Ut (hC y hy)),Zh3 hC];simp
theorem Zip {A M C:List It}{x:It}(hA:∀ y∈A,Zr y.1 x.1=true) (hM:∀ y∈M,y.1=x.1) (hC:∀ y∈C,Zr x.1 y.1=true):Uc (A++(M++C)) x=A++x::C:=by
 rw[Zqe hA hC];unfold Uc;rw[U8 (L:=M) (fun y hy=>by rw[hM y hy];exact Xe _),U8 (L:=M) (fun y hy=>by rw[hM y hy];exact Xe _)];rfl
theorem Z1h {L:List It}(h:Up L) (x:It):Up (Uc L x):=by
 unfold Uc Up;rw[Qaw];refine⟨Qax.filter _ h,Qay.2 ⟨fun y hy=>(Qo.1 hy).2,Qax.filter _ h⟩,fun y hy z hz=> ?_⟩;have h1:=(Qo.1 hy).2;rcases Qk.1 hz with rfl | hz
 ·exact h1
 ·exact Yz h1 (Qo.1 hz).2
theorem Zby {L:List It}{x y:It}:y∈Uc L x↔y=x\/(y∈L/\y.1≠x.1):=by{
 unfold Uc;rw[Qs,Qk,Qo,Qo];constructor
 ·rintro(⟨h1,h2⟩ | rfl | ⟨h1,h2⟩)
  ·exact .inr ⟨h1,fun e=>by rw[e,Xe] at h2;cases h2⟩
  ·exact .inl rfl
  ·exact .inr ⟨h1,fun e=>by rw[e,Xe] at h2;cases h2⟩
 ·rintro(rfl | ⟨h1,h2⟩)
  ·exact .inr (.inl rfl)
  ·cases h3:Zr y.1 x.1 with
   | true=>exact .inl ⟨h1,rfl⟩
   | false=>exact .inr (.inr ⟨h1,Za5 h2 h3⟩)}
theorem Zkc {n:Nd}(h:mayN n=true) (x:It):n.2.take (Z4 n x.1)++x::n.2.drop (Z4 n x.1+if Y3 n x.1=true then 1 else 0)=Uc n.2 x:=by{
 have hA:∀ y∈n.2.take (Z4 n x.1),Zr y.1 x.1=true:=fun y hy=>by
  obtain⟨i,hi⟩:=Pu hy;have hlt:=(Qf.1 hi).1;rw[Qp] at hlt;rw[List.getElem?_take_of_lt (by omega)] at hi;rw[U6 h hi];simp;omega
 cases ht:Y3 n x.1 with
 | true =>
  have hp:=Zfn ht;obtain⟨z,hz⟩:∃ z,n.2[Z4 n x.1]? = some z:=⟨_,Qe hp⟩
  have hzk:=(Zc6 h ht hz).1;have hg:n.2[Z4 n x.1]=z:=(Qf.1 hz).2;have e:n.2=n.2.take (Z4 n x.1)++([z]++n.2.drop (Z4 n x.1+1)):=by
   conv=>lhs;rw[<- Qv (Z4 n x.1) n.2,Qaz hp,hg]
   rfl
  rw[if_pos rfl]
  conv=>rhs;rw[e]
  rw[Zip hA (fun y hy=>by rw[Qx.1 hy];exact hzk) (fun y hy=>by
   obtain⟨i,hi⟩:=Pu hy;rw[Pv] at hi;rw[<- hzk]
   exact Ur h (by omega) hz hi)]
 | false =>
  rw[if_neg (by decide),Q8];have e:n.2=n.2.take (Z4 n x.1)++([]++n.2.drop (Z4 n x.1)):=by simp
  conv=>rhs;rw[e]
  rw[Zip hA (fun y hy=>by cases hy) (fun y hy=>by
   obtain⟨i,hi⟩:=Pu hy;rw[Pv] at hi
   exact Zez h ht (by omega) hi)]}
def Zaq (n:Nd) (k:Ky):Nat:=if Y3 n k=true then Z4 n k else Z4 n k-1
theorem Zle {n:Nd}(k:Ky) (h:0<n.2.length):Zaq n k<n.2.length:=by{
 unfold Zaq;split
 ·rename_i ht;exact Zfn ht
 ·have:=Zgc n k
  omega}
theorem Zic {n:Nd}(h:mayN n=true){k:Ky}{i:Nat}{y:It}(hi:Zaq n k<i) (hy:n.2[i]? = some y):Zr k y.1=true:=by{
 unfold Zaq at hi;cases ht:Y3 n k with
 | true =>
  rw[ht,if_pos rfl] at hi;have hp:=Zfn ht;obtain⟨z,hz⟩:∃ z,n.2[Z4 n k]? = some z:=⟨_,Qe hp⟩
  rw[<- (Zc6 h ht hz).1];exact Ur h hi hz hy
 | false =>
  rw[ht,if_neg (by decide)] at hi;exact Zez h ht (by omega) hy}
theorem Z34 {n:Nd}(h:mayN n=true){k:Ky}{y:It}(hy:n.2[Zaq n k]? = some y) (h0:Zaq n k≠0):Zr k y.1=false:=by{
 unfold Zaq at hy h0;cases ht:Y3 n k with
 | true =>
  rw[ht,if_pos rfl] at hy;rw[(Zc6 h ht hy).1];exact Xe _
 | false =>
  rw[ht,if_neg (by decide)] at hy h0;have:=U6 h (k:=k) hy;rw[decide_eq_true (by omega)] at this;exact Ut this}
theorem Vm (f:Int->Ky->Ky->Bool->Bool):∀ (A B:List It) (tb:Ky) (e:Bool),Zbq f (A++B) tb e=(Zbq f A (nxO B tb) (bxO B e)&&Zbq f B tb e)
 | [],B,tb,e=>by
  show Zbq f B tb e=(true&&Zbq f B tb e);simp
 | x::r,B,tb,e=>by
  rw[Q3,Zaf,Vm f r B tb e,Zaf];have e1:nxO (r++B) tb=nxO r (nxO B tb):=by cases r <;> rfl
  have e2:bxO (r++B) e=bxO r (bxO B e):=by cases r <;> rfl
  rw[e1,e2,Bool.and_assoc]
theorem Zol {f f':Int->Ky->Ky->Bool->Bool}{A C up:List It}{y z:It}{r:List It}{tb:Ky}{e:Bool}(h:Zbq f (A++y::C) tb e=true) (hk:A≠[]->z.1=y.1) (hup:up=z::r)
  (hf:∀ x∈A++C,∀ k tb e,f x.2.1 k tb e=true->f' x.2.1 k tb e=true) (hu:Zbq f' up (nxO C tb) (bxO C e)=true):Zbq f' (A++(up++C)) tb e=true:=by{
 rw[Vm,Qn] at h;obtain⟨h1,h2⟩:=h;rw[Zaf,Qn] at h2;rw[Vm,Vm,Qn,Qn];refine⟨?_,hu,Zkq (fun x hx=>hf x (Q5 _ hx)) h2.2⟩;have e1:A≠[]->nxO (up++C) tb=nxO (y::C) tb/\bxO (up++C) e=bxO (y::C) e:=fun hA=>by
  subst hup;exact⟨hk hA,rfl⟩
 by_cases hA:A=[]
 ·subst hA;rfl
 ·obtain⟨g1,g2⟩:=e1 hA
  rw[g1,g2];exact Zkq (fun x hx=>hf x (Pe _ hx)) h1}
def Zvu (l:List It):Ky:=match l with | []=>Zed | x::_=>x.1
def upI (l:List It) (k:Int):It:=(Zvu l,k,[])
def Z5 (s:Rm) (lv:Int) (l:List It):Int×Rm×List It :=
 if l.length<=5 then
  if mkE s (lv,l)=0 then (0,mkV s (lv,l),[upI l (mkN s (lv,l))]) else (mkE s (lv,l),Zn,[])
 else if mkE s (lv,l.take 3)=0 then
  if mkE (mkV s (lv,l.take 3)) (lv,l.drop 3)=0 then (0,mkV (mkV s (lv,l.take 3)) (lv,l.drop 3),[upI (l.take 3) (mkN s (lv,l.take 3)),upI (l.drop 3) (mkN (mkV s (lv,l.take 3)) (lv,l.drop 3))])
  else (mkE (mkV s (lv,l.take 3)) (lv,l.drop 3),Zn,[])
 else (mkE s (lv,l.take 3),Zn,[])
theorem Za7 {s u:Rm}{lv:Int}{l up:List It}(h:Z5 s lv l=(0,u,up)):(mkE s (lv,l)=0/\u=mkV s (lv,l)/\up=[upI l (mkN s (lv,l))]) \/
  (5<l.length/\mkE s (lv,l.take 3)=0/\mkE (mkV s (lv,l.take 3)) (lv,l.drop 3)=0/\u=mkV (mkV s (lv,l.take 3)) (lv,l.drop 3)/\up=[upI (l.take 3) (mkN s (lv,l.take 3)),upI (l.drop 3) (mkN (mkV s (lv,l.take 3)) (lv,l.drop 3))]):=by{
 unfold Z5 at h;split at h
 ·split at h
  ·rename_i h1
   cases h;exact .inl ⟨h1,rfl,rfl⟩
  ·rename_i h1
   simp only[Prod.mk.injEq] at h;exact absurd h.1 h1
 ·rename_i h0
  split at h
  ·rename_i h1
   split at h
   ·rename_i h2
    cases h;exact .inr ⟨by omega,h1,h2,rfl,rfl⟩
   ·rename_i h2
    simp only[Prod.mk.injEq] at h;exact absurd h.1 h2
  ·rename_i h1
   simp only[Prod.mk.injEq] at h;exact absurd h.1 h1}
def Zsz (s:Rm):Nat->List It->Ky->Bool->List It->Prop
 | 0,L,tb,e,M=>Up L/\Y7 s L=true/\(e=true->∀ y∈L,Zr y.1 tb=true)/\M=L
 | l+1,L,tb,e,M=>Zbq (Yx s l) L tb e=true/\M=L.flatMap fun x=>Uh s l x.2.1
theorem Zo9 {s t:Rm}(h:Zbl s t):∀ {lv:Nat}{L M:List It}{tb:Ky}{e:Bool},Zsz s lv L tb e M->Zsz t lv L tb e M
 | 0,_,_,_,_,hr=>⟨hr.1,Zls h hr.2.1,hr.2.2⟩
 | l+1,L,M,tb,e,hr=>by
  refine⟨Zea (fun a k tb e hf=>(Yu h l a k tb e hf).1) _ _ _ hr.1,hr.2.trans (U5 fun x hx=> ?_)⟩;obtain⟨t',e',hf⟩:=U0 hr.1 x hx;exact(Yu h l _ _ _ _ hf).2.1.symm
theorem Zv6 {s:Rm}{l:Nat}{L:List It}{tb:Ky}(h:Zbq (Yx s l) L tb true=true):∀ x∈L,Zr x.1 tb=true:=fun x hx=>by
 obtain⟨y,r,rfl⟩:∃ y r,L=y::r:=by
  cases L with
  | nil=>cases hx
  | cons y r=>exact⟨y,r,rfl⟩
 obtain⟨y',r',e',hp⟩:=Zbi (Xg s l) (y::r) tb true (by simp) h;cases e';obtain⟨t,e2,hf⟩:=U0 h x hx;obtain⟨z,q,ez,kz⟩:=(Xg s l _ _ _ _ hf).first;have:=hp.bound rfl z (Qa0.2 ⟨x,hx,by rw[ez];simp⟩)
 rwa [kz] at this
theorem Z0d {s:Rm}{lv:Nat}{L M:List It}{tb:Ky}{e:Bool}{k:Int}(h1:rmE s k=0) (h2:rmV s k=((lv:Int),L)) (hne:L≠[]) (h:Zsz s lv L tb e M):Yx s lv k (Zvu L) tb e=true/\Uh s lv k=M:=by{
 obtain⟨x,r,rfl⟩:=Pf hne;obtain⟨z,hz⟩:∃ z,(x::r).getLast? = some z:=⟨_,List.getLast?_eq_some_getLast (by simp)⟩
 have hin:=List.mem_of_getLast? hz;have hb:e=true->Zr z.1 tb=true:=fun he=>by
  cases lv with
  | zero=>exact h.2.2.1 he z hin
  | succ l =>
   have h0:=h.1;rw[he] at h0;exact Zv6 h0 z hin
 have hh:Zfb (x::r) (Zvu (x::r)) tb e=true:=by
  unfold Zfb;rw[hz];cases e with
  | false=>simp[Zvu]
  | true=>simp[Zvu,hb rfl]
 cases lv with
 | zero =>
  refine⟨?_,by unfold Uh;rw[h2];exact h.2.2.2.symm⟩;unfold Yx;rw[h1,h2,hh,h.2.1];simp
 | succ l =>
  refine⟨?_,by unfold Uh;rw[h2];exact h.2.symm⟩;unfold Yx;rw[h1,h2,hh,h.1];simp}
theorem Zv5 {s:Rm}{lv:Nat}{A B M:List It}{tb:Ky}{e:Bool}(hB:B≠[]) (h:Zsz s lv (A++B) tb e M):∃ M1 M2,M=M1++M2/\Zsz s lv A (Zvu B) true M1/\Zsz s lv B tb e M2:=by{
 obtain⟨y,r,rfl⟩:=Pf hB;cases lv with
 | zero =>
  obtain⟨h1,h2,h3,h4⟩:=h;obtain⟨u1,u2,u3⟩:=Qaw.1 h1;have hl:Y7 s A=true/\Y7 s (y::r)=true:=by
   unfold Y7 at h2 ⊢;rw[List.all_append,Qn] at h2;exact h2
  exact⟨A,y::r,h4,⟨u1,hl.1,fun _ z hz=>u3 z hz y Qi,rfl⟩,⟨u2,hl.2,fun he z hz=>h3 he z (Q5 _ hz),rfl⟩⟩
 | succ l =>
  obtain⟨h1,h2⟩:=h;rw[Vm,Qn] at h1;exact⟨_,_,by rw[h2,Pg],⟨h1.1,rfl⟩,⟨h1.2,rfl⟩⟩}
theorem Zwz {lv:Int}{l:List It}{k:Nat}(h:InN (lv,l)):InN (lv,l.take k):=⟨h.1,fun x hx=>h.2 x (Pw hx)⟩
theorem Zxb {lv:Int}{l:List It}{k:Nat}(h:InN (lv,l)):InN (lv,l.drop k):=⟨h.1,fun x hx=>h.2 x (Qw hx)⟩
theorem Zck {s:Rm}{lv:Nat}{L M:List It}{tb:Ky}{e:Bool}(h:mkE s ((lv:Int),L)=0) (hi:InN ((lv:Int),L)) (hne:L≠[]) (hr:Zsz s lv L tb e M) :
  Yx (mkV s ((lv:Int),L)) lv (mkN s ((lv:Int),L)) (Zvu L) tb e=true/\Uh (mkV s ((lv:Int),L)) lv (mkN s ((lv:Int),L))=M:=by
 obtain⟨k,e1,_,_,_,_,r1,r2,_⟩:=Z2w hi h;rw[e1];exact Z0d r1 r2 hne (Zo9 (Ux h) hr)
theorem Zgm {s u:Rm}{lv:Nat}{L up M:List It}{tb:Ky}{e:Bool}(h:Z5 s (lv:Int) L=(0,u,up)) (hi:InN ((lv:Int),L)) (hne:L≠[]) (hr:Zsz s lv L tb e M) :
  Zbl s u/\Zbq (Yx u lv) up tb e=true/\(up.flatMap fun x=>Uh u lv x.2.1)=M/\(∃ z r,up=z::r/\z.1=Zvu L):=by{
 rcases Za7 h with ⟨h1,rfl,rfl⟩ | ⟨h0,h1,h2,rfl,rfl⟩
 ·obtain⟨g1,g2⟩:=Zck h1 hi hne hr
  exact⟨Ux h1,g1,by simpa [upI] using g2,_,_,rfl,rfl⟩
 ·have hd:L.drop 3≠[]:=fun e=>by
   have:=congrArg List.length e;rw[Qj] at this;simp at this;omega
  have ht:L.take 3≠[]:=fun e=>by
   have h5:(L.take 3).length=0:=by rw[e];rfl
   rw[Qp] at h5;omega
  obtain⟨M1,M2,rfl,r1,r2⟩:=Zv5 hd (show Zsz s lv (L.take 3++L.drop 3) tb e M by rw[Qv];exact hr);have k1:=Ux h1;have k2:=Ux h2;have k12:Zbl s (mkV (mkV s ((lv:Int),L.take 3)) ((lv:Int),L.drop 3)):=⟨k2.may,fun i hi=>k2.held i (k1.held i hi),fun i hi=>(k2.seen i (k1.held i hi)).trans (k1.seen i hi)⟩
  obtain⟨g1,g2⟩:=Zck h1 (Zwz hi) ht r1;obtain⟨g3,g4⟩:=Zck h2 (Zxb hi) hd (Zo9 k1 r2);obtain⟨g5,g6,_⟩:=Yu k2 lv _ _ _ _ g1;refine⟨k12,?_,?_,_,_,rfl,?_⟩
  ·exact Bool.and_eq_true_iff.2 ⟨g5,g3⟩
  ·have e1:=g6.trans g2
   have:Uh (mkV (mkV s ((lv:Int),L.take 3)) ((lv:Int),L.drop 3)) lv (mkN s ((lv:Int),L.take 3))++(Uh (mkV (mkV s ((lv:Int),L.take 3)) ((lv:Int),L.drop 3)) lv (mkN (mkV s ((lv:Int),L.take 3)) ((lv:Int),L.drop 3))++[])=M1++M2:=by rw[e1,g4,Pa]
   exact this
  ·obtain⟨x,r,ex⟩:=Pf hne
   subst ex;rfl}
def Zkj (s:Rm) (a:Int):Rm:=(s.1,s.2.1.set a.toNat (s.2.1[a.toNat]?.getD 0-1),s.2.2)
theorem Uu {s t u:Rm}(h1:Zbl s t) (h2:Zbl t u):Zbl s u:=⟨h2.may,fun i hi=>h2.held i (h1.held i hi),fun i hi=>(h2.seen i (h1.held i hi)).trans (h1.seen i hi)⟩
theorem Zpz {s:Rm}(h:Xz s=true):Zbl s s:=⟨h,fun _ h=>h,fun _ _=>rfl⟩
theorem Z0r {s:Rm}{a:Int}(h:Zec s.2.1 a.toNat≠0):dnO s.2.1 a.toNat=some (Zkj s a).2.1:=by
 unfold dnO;rw[if_neg (Zf1.1 h)];rfl
theorem Zze {s:Rm}{a:Int}(hm:Xz s=true) (h:2<=Zec s.2.1 a.toNat):Zbl s (Zkj s a):=by
 have hd:=Z0r (s:=s) (a:=a) (by omega);obtain⟨_,_,hle,_⟩:=Zcp hd;obtain⟨c1,c2⟩:=Zqs hd;obtain⟨m1,m2,m3⟩:=Yq hm;refine⟨Zet m1 (LeT.may hle m2) m3,fun k hk=> ?_,fun _ _=>rfl⟩;rw[<- Zf1] at hk ⊢;by_cases e:k=a.toNat
 ·subst e;omega
 ·rw[c2 k e];exact hk
theorem Ztr {s t:Rm}(h:Zbl s t){P:Nat->Nat}{N:List Int}(hE:Enf s.1 s.2.1 P N){m:Int}(hm:m∈N):ndD t.1 m=ndD s.1 m:=by
 unfold ndD;rw[h.seen _ (Zf1.1 (hE.node m hm).2.2.2)]
theorem Zou {s:Rm}{P:Nat->Nat}{N:List Int}{a:Int}(hm:Xz s=true) (hE:Enf s.1 s.2.1 (fun i=>P i+if i=a.toNat then 1 else 0) N) (h0:0<a) (hr:∃ n∈N,∃ x∈(ndD s.1 n).2,x.2.1=a):Zbl s (Zkj s a)/\Enf (Zkj s a).1 (Zkj s a).2.1 P N:=by{
 obtain⟨n,hn,x,hx,hxa⟩:=hr;have h1:=hE.enough a.toNat;have h2:=Zi6 hx (k:=a.toNat) (by omega) (by omega);have h3:=Zjp (d:=s.1) (k:=a.toNat) hn;simp only[if_true] at h1;have h4:2<=Zec s.2.1 a.toNat:=by omega
 have hd:=Z0r (s:=s) (a:=a) (by omega);have hc:Zec (Zkj s a).2.1 a.toNat≠0:=by
  have:=(Zqs hd).1;omega
 exact⟨Zze hm h4,Zys hE hd hc⟩}
def Zsv (s:Rm) (l:List It):Rm:=l.foldl (fun u x=>Zkj u x.2.1) s
theorem Zlq (s:Rm) (x:It) (l:List It):Zsv s (x::l)=Zsv (Zkj s x.2.1) l:=rfl
theorem Zkk:∀ (l:List It){s:Rm}{P:Nat->Nat}{N:List Int},Xz s=true->Enf s.1 s.2.1 (fun i=>P i+Xh l i) N->(∀ x∈l,0<x.2.1/\∃ n∈N,∃ z∈(ndD s.1 n).2,z.2.1=x.2.1)->Zbl s (Zsv s l)/\Enf (Zsv s l).1 (Zsv s l).2.1 P N
 | [],s,P,N,hm,hE,_=>⟨Zpz hm,hE.same fun _=>rfl⟩
 | x::l,s,P,N,hm,hE,hr=>by
  obtain⟨h0,h1⟩:=hr x Qi
  obtain⟨k1,e1⟩:=Zou (P:=fun i=>P i+Xh l i) hm (hE.same fun i=>by
   have ec:Xh (x::l) i=(if x.2.1=(i:Int) then (if x.2.1=0 then 0 else 1) else 0)+Xh l i:=rfl;show P i+Xh l i+(if i=x.2.1.toNat then 1 else 0)=P i+Xh (x::l) i;rw[ec];by_cases e:x.2.1=(i:Int)
   ·rw[if_pos e,if_neg (show ¬ x.2.1=0 by omega),if_pos (show i=x.2.1.toNat by omega)];omega
   ·rw[if_neg e,if_neg (show ¬ i=x.2.1.toNat by omega)];omega) h0 h1
  obtain⟨k2,e2⟩:=Zkk l (s:=Zkj s x.2.1) (P:=P) (N:=N) k1.may e1 fun y hy=>hr y (Qh _ hy)
  exact⟨Uu k1 k2,e2⟩
theorem Zzi {s:Rm}{a:Int}(h:rmE s a=0):InN (rmV s a):=by
 obtain⟨k,rfl,_,_,_,_,_,hE,hV,_⟩:=Vh (Xf h).2;rw[hV];rw[hE] at h;exact(Zeb h).2.2
theorem Zs4 {l:List It}{k i:Nat}(h:8<=k):Xh [upI l (k:Int)] i=if i=k then 1 else 0:=by{
 show (if (k:Int)=(i:Int) then (if (k:Int)=0 then 0 else 1) else 0)+0=_;by_cases e:i=k
 ·subst e
  rw[if_pos rfl,if_neg (by omega),if_pos rfl]
 ·rw[if_neg (by omega),if_neg e]}
theorem Za0 {s u:Rm}{lv:Int}{L up:List It}{P:Nat->Nat}{N:List Int}(h:Z5 s lv L=(0,u,up)) (hi:InN (lv,L)) (hE:Enf s.1 s.2.1 P N) (hsub:lv≠0->∀ x∈L,x.2.1∈N/\x.2.1≠0/\(ndD s.1 x.2.1).1+1=lv) :
  ∃ N',Enf u.1 u.2.1 (fun i=>P i+Xh up i) N'/\Zbl s u/\(∀ m∈N,m∈N')/\(∀ m∈N,ndD u.1 m=ndD s.1 m)/\(∀ y∈up,y.2.1∈N'/\8<=y.2.1/\y.2.1<256/\(ndD u.1 y.2.1).1=lv)/\(∀ x∈L,∃ n∈N',x∈(ndD u.1 n).2)/\up.length<=2/\u.1.2.length<=s.1.2.length+2:=by{
 have hw:∀ {s:Rm} {n:Nd},mkE s n=0->(mkV s n).1.2.length<=s.1.2.length+1:=fun {s n} h=>by
  obtain⟨k,_,_,_,_,_,_,hV,_⟩:=U7 h;rw[hV];simp[wrD]
 rcases Za7 h with ⟨h1,rfl,rfl⟩ | ⟨h0,h1,h2,rfl,rfl⟩
 ·obtain⟨k,e1,k8,k256,_,_,hE1,hnd,hndm,_⟩:=Zjg h1 hi hE hsub
  refine⟨_,hE1.same fun i=>by rw[e1,Zs4 k8],Ux h1,fun m hm=>Qh _ hm,hndm,fun y hy=> ?_,fun x hx=>⟨k,Qi,by rw[hnd];exact hx⟩,by simp,by have:=hw h1;omega⟩;rw[Qx.1 hy,e1];exact⟨Qi,by show (8:Int)<=k;omega,by show (k:Int)<256;omega,by show (ndD _ (k:Int)).1=_;rw[hnd]⟩
 ·have hst:lv≠0->∀ x∈L.take 3,x.2.1∈N/\x.2.1≠0/\(ndD s.1 x.2.1).1+1=lv:=fun hl x hx=>hsub hl x (Pw hx)
  obtain⟨k,e1,k8,k256,_,_,hE1,hnd,hndm,_⟩:=Zjg h1 (Zwz hi) hE hst;obtain⟨j,e2,j8,j256,_,hjN,hE2,hnd2,hndm2,_⟩:=Zjg h2 (Zxb hi) hE1 fun hl x hx=>by
   obtain⟨g1,g2,g3⟩:=hsub hl x (Qw hx);exact⟨Qh _ g1,g2,by rw[hndm _ g1];exact g3⟩
  have hkk:ndD (mkV (mkV s (lv,L.take 3)) (lv,L.drop 3)).1 (k:Int)=(lv,L.take 3):=(hndm2 _ Qi).trans hnd;refine⟨_,hE2.same fun i=> ?_,Uu (Ux h1) (Ux h2),fun m hm=>Qh _ (Qh _ hm),fun m hm=>(hndm2 m (Qh _ hm)).trans (hndm m hm),fun y hy=> ?_,fun x hx=> ?_,by simp,by have:=hw h1;have:=hw h2;omega⟩
  ·have ec:Xh [upI (L.take 3) (mkN s (lv,L.take 3)),upI (L.drop 3) (mkN (mkV s (lv,L.take 3)) (lv,L.drop 3))] i=Xh [upI (L.take 3) (mkN s (lv,L.take 3))] i+Xh [upI (L.drop 3) (mkN (mkV s (lv,L.take 3)) (lv,L.drop 3))] i:=by
    show _+(_+0)=(_+0)+(_+0);omega
   rw[ec,e1,e2,Zs4 k8,Zs4 j8];omega
  ·rcases Qk.1 hy with rfl | hy
   ·rw[e1]
    exact⟨Qh _ Qi,by show (8:Int)<=k;omega,by show (k:Int)<256;omega,by show (ndD _ (k:Int)).1=_;rw[hkk]⟩
   ·rw[Qx.1 hy,e2]
    exact⟨Qi,by show (8:Int)<=j;omega,by show (j:Int)<256;omega,by show (ndD _ (j:Int)).1=_;rw[hnd2]⟩
  ·rw[<- Qv 3 L] at hx
   rcases Qs.1 hx with hx | hx
   ·exact⟨k,Qh _ Qi,by rw[hkk];exact hx⟩
   ·exact⟨j,Qi,by rw[hnd2];exact hx⟩}
def Zft (l:List It) (p many:Nat) (up:List It):List It:=l.take p++(up++l.drop (p+many))
def Ze4 (n:Nd) (k:Ky):Int:=((n.2[Zaq n k]?).map fun y=>y.2.1).getD 0
def Zl (x:It):Nat->Rm->Int->Int×Rm×List It
 | 0,s,a =>
  if (Z5 s 0 (Zft (rmV s a).2 (Z4 (rmV s a) x.1) (if Y3 (rmV s a) x.1=true then 1 else 0) [x])).1=0 then
   (0,(if x.2.1=0 then (Z5 s 0 (Zft (rmV s a).2 (Z4 (rmV s a) x.1) (if Y3 (rmV s a) x.1=true then 1 else 0) [x])).2.1 else Zkj (Z5 s 0 (Zft (rmV s a).2 (Z4 (rmV s a) x.1) (if Y3 (rmV s a) x.1=true then 1 else 0) [x])).2.1 x.2.1),(Z5 s 0 (Zft (rmV s a).2 (Z4 (rmV s a) x.1) (if Y3 (rmV s a) x.1=true then 1 else 0) [x])).2.2)
  else ((Z5 s 0 (Zft (rmV s a).2 (Z4 (rmV s a) x.1) (if Y3 (rmV s a) x.1=true then 1 else 0) [x])).1,Zn,[])
 | l+1,s,a =>
  if (Zl x l s (Ze4 (rmV s a) x.1)).1=0 then
   if (Z5 (Zl x l s (Ze4 (rmV s a) x.1)).2.1 ((l+1:Nat):Int) (Zft (rmV s a).2 (Zaq (rmV s a) x.1) 1 (Zl x l s (Ze4 (rmV s a) x.1)).2.2)).1=0 then
    (0,Zsv (Z5 (Zl x l s (Ze4 (rmV s a) x.1)).2.1 ((l+1:Nat):Int) (Zft (rmV s a).2 (Zaq (rmV s a) x.1) 1 (Zl x l s (Ze4 (rmV s a) x.1)).2.2)).2.1 (Zl x l s (Ze4 (rmV s a) x.1)).2.2,
     (Z5 (Zl x l s (Ze4 (rmV s a) x.1)).2.1 ((l+1:Nat):Int) (Zft (rmV s a).2 (Zaq (rmV s a) x.1) 1 (Zl x l s (Ze4 (rmV s a) x.1)).2.2)).2.2)
   else ((Z5 (Zl x l s (Ze4 (rmV s a) x.1)).2.1 ((l+1:Nat):Int) (Zft (rmV s a).2 (Zaq (rmV s a) x.1) 1 (Zl x l s (Ze4 (rmV s a) x.1)).2.2)).1,Zn,[])
  else ((Zl x l s (Ze4 (rmV s a) x.1)).1,Zn,[])
theorem Zsl {x:It}{s u:Rm}{a:Int}{up:List It}(h:Zl x 0 s a=(0,u,up)):∃ u0,Z5 s 0 (Zft (rmV s a).2 (Z4 (rmV s a) x.1) (if Y3 (rmV s a) x.1=true then 1 else 0) [x])=(0,u0,up)/\u=if x.2.1=0 then u0 else Zkj u0 x.2.1:=by{
 unfold Zl at h;generalize hb:Z5 s 0 _=b at h;obtain⟨e,v,q⟩:=b;split at h
 ·rename_i h0
  cases h;exact⟨v,by rw[show e=0 from h0],rfl⟩
 ·rename_i h0
  simp only[Prod.mk.injEq] at h;exact absurd h.1 h0}
theorem Zns {x:It}{l:Nat}{s u:Rm}{a:Int}{up:List It}(h:Zl x (l+1) s a=(0,u,up)):∃ u1 up1 u2,Zl x l s (Ze4 (rmV s a) x.1)=(0,u1,up1)/\Z5 u1 ((l+1:Nat):Int) (Zft (rmV s a).2 (Zaq (rmV s a) x.1) 1 up1)=(0,u2,up)/\u=Zsv u2 up1:=by{
 unfold Zl at h;generalize hg:Zl x l s _=g at h;obtain⟨e,u1,up1⟩:=g;generalize hb:Z5 _ _ _=b at h;obtain⟨f,u2,q⟩:=b;split at h
 ·rename_i h0
  split at h
  ·rename_i h1
   cases h;exact⟨u1,up1,u2,by rw[show e=0 from h0],by rw[<- show f=0 from h1];exact hb,rfl⟩
  ·rename_i h1
   simp only[Prod.mk.injEq] at h;exact absurd h.1 h1
 ·rename_i h0
  simp only[Prod.mk.injEq] at h;exact absurd h.1 h0}
theorem Zlm {s u:Rm}{lv:Int}{L up:List It}(h:Z5 s lv L=(0,u,up)) (hne:L≠[]):∀ y∈up,∃ q∈L,y.1=q.1:=by{
 have hk:∀ {M:List It},M≠[]->∃ q∈M,Zvu M=q.1:=fun {M} hM=>by
  obtain⟨q,r,rfl⟩:=Pf hM;exact⟨q,Qi,rfl⟩
 rcases Za7 h with ⟨_,_,rfl⟩ | ⟨h0,_,_,_,rfl⟩
 ·intro y hy
  rw[Qx.1 hy];exact hk hne
 ·have hd:L.drop 3≠[]:=fun e=>by
   have:=congrArg List.length e;rw[Qj] at this;simp at this;omega
  have ht:L.take 3≠[]:=fun e=>by
   have h5:(L.take 3).length=0:=by rw[e];rfl
   rw[Qp] at h5;omega
  intro y hy;rcases Qk.1 hy with rfl | hy
  ·obtain⟨q,hq,e⟩:=hk ht
   exact⟨q,Pw hq,e⟩
  ·rw[Qx.1 hy]
   obtain⟨q,hq,e⟩:=hk hd;exact⟨q,Qw hq,e⟩}
theorem Zx9 {y:It}{r:List It}{x:It}(h:Up (y::r)) (hx:Zr x.1 y.1=false):Zvu (Uc (y::r) x)=y.1:=by{
 unfold Uc;cases hy:Zr y.1 x.1 with
 | true =>
  rw[List.filter_cons_of_pos (by simpa using hy)];rfl
 | false =>
  have e:y.1=x.1:=by
   by_cases e:y.1=x.1
   ·exact e
   ·rw[Za5 e hy] at hx;cases hx
  rw[U8 (L:=y::r) fun z hz=> ?_]
  ·exact e.symm
  ·rcases Qk.1 hz with rfl | hz
   ·exact hy
   ·rw[<- e]
    exact Ut ((Qay.1 h).1 z hz)}
def Z6p (s:Rm):Nat->List It->Ky->Bool->Bool
 | 0,L,_,_=>Y7 s L
 | j+1,L,tb,e=>Zbq (Yx s j) L tb e
structure Zsy (s:Rm) (l:Nat) (a:Int) (tb:Ky) (e:Bool):Prop where
 ok:rmE s a=0
 lv:(rmV s a).1=(l:Int)
 inn:Z6p s l (rmV s a).2 tb e=true
 low:e=true->∀ y∈(rmV s a).2,Zr y.1 tb=true
theorem Zlk {s:Rm}{l:Nat}{a:Int}{k tb:Ky}{e:Bool}(h:Yx s l a k tb e=true):Zsy s l a tb e/\∀ y r,(rmV s a).2=y::r->y.1=k:=by{
 obtain⟨r1,r2,r3,r4⟩:=Xw h;obtain⟨y,r,e1,e2,e3⟩:=Zb0 r3;refine⟨⟨r1,r2,by cases l <;> exact r4,fun he=> ?_⟩,fun y' r' e'=> ?_⟩
 ·obtain⟨z,hz,hb⟩:=e3 he
  exact Zj7 (Za3 (Xf r1).1) hz hb
 ·rw[e1] at e'
  cases e';exact e2}
theorem Zkr {s:Rm}{a:Int}(h:Ue s a=true):Zsy s (rmV s a).1.toNat a Zed false:=by
 obtain⟨r1,_,_,l0,_,hi⟩:=Zak h;refine⟨r1,by omega,?_,fun he=>by cases he⟩;unfold Ze1 at hi;cases hl:(rmV s a).1.toNat with
 | zero=>rw[hl] at hi;exact hi
 | succ j=>rw[hl] at hi;exact hi
def Zcx (x:It) (i:Nat):Nat:=if x.2.1≠0/\i=x.2.1.toNat then 1 else 0
structure Zgo (s u:Rm) (P:Nat->Nat) (N N':List Int) (l:Nat) (a:Int) (up:List It) (x:It) (tb:Ky) (e:Bool):Prop where
 keep:Zbl s u
 its:Zbq (Yx u l) up tb e=true
 all:(up.flatMap fun y=>Uh u l y.2.1)=Uc (Uh s l a) x
 first:∃ z r,up=z::r/\∀ y q,(rmV s a).2=y::q->Zr x.1 y.1=false->z.1=y.1
 enf:Enf u.1 u.2.1 (fun i=>P i+Xh up i) N'
 more:∀ m∈N,m∈N'
 ups:∀ y∈up,y.2.1∈N'/\8<=y.2.1/\y.2.1<256/\(ndD u.1 y.2.1).1=(l:Int)
 inI:∀ y∈up,InI y
 few:up.length<=2
 writes:u.1.2.length<=s.1.2.length+2*(l+1)
theorem Zrm {x:It}(hx:InI x){s u:Rm}{a:Int}{tb:Ky}{e:Bool}{P:Nat->Nat}{N:List Int}{up:List It}(ht:Zsy s 0 a tb e) (hb:e=true->Zr x.1 tb=true) (hr:x.2.1=0\/(0<x.2.1/\s.2.1[x.2.1.toNat]?.getD 0≠0))
  (hE:Enf s.1 s.2.1 (fun i=>P i+Zcx x i) N) (h:Zl x 0 s a=(0,u,up)):∃ N',Zgo s u P N N' 0 a up x tb e:=by{
 obtain⟨u0,h1,rfl⟩:=Zsl h;have hm:=(Xf ht.ok).1;have el:Zft (rmV s a).2 (Z4 (rmV s a) x.1) (if Y3 (rmV s a) x.1=true then 1 else 0) [x]=Uc (rmV s a).2 x:=Zkc hm x;rw[el] at h1;have hin:x∈Uc (rmV s a).2 x:=Zby.2 (.inl rfl);have hne:Uc (rmV s a).2 x≠[]:=fun e=>by rw[e] at hin;cases hin
 have hi:InN ((0:Int),Uc (rmV s a).2 x):=⟨⟨by simp,by simp⟩,fun y hy=>by
  rcases Zby.1 hy with rfl | ⟨hy,_⟩
  ·exact hx
  ·exact(Zzi ht.ok).it y hy⟩
 have hrow:Zsz s 0 (Uc (rmV s a).2 x) tb e (Uc (rmV s a).2 x):=by
  refine⟨Z1h (Za3 hm) x,?_,fun he y hy=> ?_,rfl⟩
  ·have h2:Y7 s (rmV s a).2=true:=ht.inn
   unfold Y7 at h2 ⊢;rw[Pi] at h2 ⊢;intro y hy;rcases Zby.1 hy with rfl | ⟨hy,_⟩
   ·rcases hr with hr | hr
    ·simp[hr]
    ·simp[hr.2]
   ·exact h2 y hy
  ·rcases Zby.1 hy with rfl | ⟨hy,_⟩
   ·exact hb he
   ·exact ht.low he y hy
 obtain⟨k1,g1,g2,z,r,ez,kz⟩:=Zgm (lv:=0) h1 hi hne hrow;obtain⟨N',e1,_,e3,e4,e5,e6,e7,e8⟩:=Za0 h1 hi hE fun h0=>absurd rfl h0;have hK:Zbl u0 (if x.2.1=0 then u0 else Zkj u0 x.2.1)/\Enf (if x.2.1=0 then u0 else Zkj u0 x.2.1).1 (if x.2.1=0 then u0 else Zkj u0 x.2.1).2.1 (fun i=>P i+Xh up i) N':=by
  by_cases h0:x.2.1=0
  ·rw[if_pos h0]
   exact⟨Zpz k1.may,e1.same fun i=>by simp[Zcx,h0]⟩
  ·rw[if_neg h0]
   obtain⟨n,hn,hxn⟩:=e6 x hin;have hpos:0<x.2.1:=by rcases hr with hr | hr <;> omega
   refine Zou k1.may (e1.same fun i=> ?_) hpos ⟨n,hn,x,hxn,rfl⟩;show P i+Xh up i+(if i=x.2.1.toNat then 1 else 0)=P i+Zcx x i+Xh up i;unfold Zcx;by_cases ei:i=x.2.1.toNat
   ·rw[if_pos ei,if_pos ⟨h0,ei⟩];omega
   ·rw[if_neg ei,if_neg fun h=>ei h.2];omega
 obtain⟨k2,e9⟩:=hK;have hnd:∀ m∈N',ndD (if x.2.1=0 then u0 else Zkj u0 x.2.1).1 m=ndD u0.1 m:=fun m hm=>by
  by_cases h0:x.2.1=0
  ·rw[if_pos h0]
  ·rw[if_neg h0];rfl
 refine⟨N',Uu k1 k2,Zea (fun a k tb e hf=>(Yu k2 0 a k tb e hf).1) _ _ _ g1,?_,⟨z,r,ez,fun y q ey hxy=> ?_⟩,e9,e3,fun y hy=> ?_,fun y hy=> ?_,e7,?_⟩
 ·rw[show Uh s 0 a=(rmV s a).2 from rfl,<- g2]
  exact U5 fun y hy=>by
   obtain⟨t',e',hf⟩:=U0 g1 y hy;exact(Yu k2 0 _ _ _ _ hf).2.1
 ·rw[kz,ey]
  exact Zx9 (by rw[<- ey];exact Za3 hm) hxy
 ·obtain⟨f1,f2,f3,f4⟩:=e5 y hy
  exact⟨f1,f2,f3,by rw[hnd _ f1];exact f4⟩
 ·obtain⟨q,hq,eq⟩:=Zlm h1 hne y hy
  obtain⟨_,f2,f3,_⟩:=e5 y hy;exact⟨by rw[eq];exact(hi.it q hq).key,⟨by omega,by omega⟩⟩
 ·have:(if x.2.1=0 then u0 else Zkj u0 x.2.1).1=u0.1:=by
   by_cases h0:x.2.1=0
   ·rw[if_pos h0]
   ·rw[if_neg h0];rfl
  rw[this];omega}
theorem Zq0 {n:Nd}{k:Ky}{y:It}(hy:n.2[Zaq n k]? = some y):n.2=n.2.take (Zaq n k)++y::n.2.drop (Zaq n k+1):=by
 obtain⟨hp,hg⟩:=Qf.1 hy
 conv=>lhs;rw[<- Qv (Zaq n k) n.2,Qaz hp,hg]
theorem Znj {x:It}{l:Nat}(h6:l+1<6){s u:Rm}{a:Int}{tb:Ky}{e:Bool}{P:Nat->Nat}{N:List Int}{up:List It}
  (ih:∀ {u:Rm} {a:Int} {tb:Ky} {e:Bool} {up:List It},Zsy s l a tb e->(e=true->Zr x.1 tb=true)->a∈N->Zl x l s a=(0,u,up)->∃ N',Zgo s u P N N' l a up x tb e)
  (ht:Zsy s (l+1) a tb e) (hb:e=true->Zr x.1 tb=true) (ha:a∈N) {Q:Nat->Nat} (hE:Enf s.1 s.2.1 Q N) (h:Zl x (l+1) s a=(0,u,up)):∃ N',Zgo s u P N N' (l+1) a up x tb e:=by{
 obtain⟨u1,up1,u2,h1,h2,rfl⟩:=Zns h;have hm:=(Xf ht.ok).1;have hne:0<(rmV s a).2.length:=(Z0 hm).1.2.2.2 (by rw[ht.lv];omega);obtain⟨y,hy⟩:∃ y,(rmV s a).2[Zaq (rmV s a) x.1]? = some y:=⟨_,Qe (Zle x.1 hne)⟩
 have hw:=Zq0 hy;have hyin:y∈(rmV s a).2:=Q9 hy;have hir:Ze4 (rmV s a) x.1=y.2.1:=by unfold Ze4;rw[hy];rfl
 rw[hir] at h1;have hbe:=fun(i:Nat) (c:It) (hi:Zaq (rmV s a) x.1<i) (hc:(rmV s a).2[i]? = some c)=>Zic hm hi hc
 have hown:=Z34 hm hy;have hA0:(rmV s a).2.take (Zaq (rmV s a) x.1)≠[]->Zr x.1 y.1=false:=fun hA=>hown fun e=>hA (by rw[e];rfl)
 have hCk:∀ c r,(rmV s a).2.drop (Zaq (rmV s a) x.1+1)=c::r->Zr x.1 c.1=true:=fun c r hc=>by
  refine hbe (Zaq (rmV s a) x.1+1) c (by omega) ?_;have:=congrArg (fun l=>l[0]?) hc
  simpa [Pv] using this
 have eL:Zft (rmV s a).2 (Zaq (rmV s a) x.1) 1 up1=(rmV s a).2.take (Zaq (rmV s a) x.1)++(up1++(rmV s a).2.drop (Zaq (rmV s a) x.1+1)):=rfl;rw[eL] at h2;generalize hAe:(rmV s a).2.take (Zaq (rmV s a) x.1)=A at *;generalize hCe:(rmV s a).2.drop (Zaq (rmV s a) x.1+1)=C at *;have hinn:Zbq (Yx s l) (rmV s a).2 tb e=true:=ht.inn;rw[hw] at hinn;have hsp:=hinn;rw[Vm,Qn,Zaf,Qn] at hsp;obtain⟨iA,iy,iC⟩:=hsp;obtain⟨hty,htk⟩:=Zlk iy;have hbC:bxO C e=true->Zr x.1 (nxO C tb)=true:=fun he=>by
  cases hC:C with
  | nil=>rw[hC] at he;exact hb he
  | cons c r=>exact hCk c r hC
 have hnd:ndD s.1 a=rmV s a:=Zmg ht.ok;have hsh:∀ q∈(rmV s a).2,q.2.1∈N/\q.2.1≠0/\(ndD s.1 q.2.1).1+1=((l+1:Nat):Int):=fun q hq=>by
  have:=hE.shut a ha (by rw[hnd,ht.lv];omega) q (by rw[hnd];exact hq);rw[hnd,ht.lv] at this;exact this
 obtain⟨N1,G⟩:=ih hty hbC (hsh y hyin).1 h1;obtain⟨z1,r1,ez1,kz1⟩:=G.first;have hz1:Zr x.1 y.1=false->z1.1=y.1:=fun hxy=>by
  obtain⟨y0,q0,e0,_⟩:∃ y0 q0,(rmV s y.2.1).2=y0::q0/\True:=by
   obtain⟨_,_,r3,_⟩:=Xw iy;obtain⟨y0,q0,e0,_⟩:=Zb0 r3;exact⟨y0,q0,e0,trivial⟩
  have k0:=htk y0 q0 e0;rw[kz1 y0 q0 e0 (by rw[k0];exact hxy),k0]
 have hits:Zbq (Yx u1 l) (A++(up1++C)) tb e=true:=Zol hinn (fun hA=>hz1 (hA0 hA)) ez1 (fun q _ k tb e hf=>(Yu G.keep l _ _ _ _ hf).1) G.its;have hfA:(A.flatMap fun q=>Uh u1 l q.2.1)=A.flatMap fun q=>Uh s l q.2.1:=U5 fun q hq=>by
  obtain⟨t',e',hf⟩:=U0 iA q hq;exact(Yu G.keep l _ _ _ _ hf).2.1
 have hfC:(C.flatMap fun q=>Uh u1 l q.2.1)=C.flatMap fun q=>Uh s l q.2.1:=U5 fun q hq=>by
  obtain⟨t',e',hf⟩:=U0 iC q hq;exact(Yu G.keep l _ _ _ _ hf).2.1
 have hpA:∀ q∈A.flatMap (fun q=>Uh s l q.2.1),Zr q.1 x.1=true:=fun q hq=>by
  by_cases hA:A=[]
  ·rw[hA] at hq;cases hq
  ·have iA':Zbq (Yx s l) A y.1 true=true:=iA
   obtain⟨_,_,_,hp⟩:=Zbi (Xg s l) A y.1 true hA iA';exact Z2j (hp.bound rfl q hq) (hA0 hA)
 have hpC:∀ q∈C.flatMap (fun q=>Uh s l q.2.1),Zr x.1 q.1=true:=fun q hq=>by
  by_cases hC:C=[]
  ·rw[hC] at hq;cases hq
  ·obtain⟨c,r,ec,hp⟩:=Zbi (Xg s l) C tb e hC iC
   have hc:=hCk c r ec;rcases hp.ge q hq with e1 | e1
   ·rw[e1];exact hc
   ·exact Yz hc e1
 have hall:((A++(up1++C)).flatMap fun q=>Uh u1 l q.2.1)=Uc (Uh s (l+1) a) x:=by
  have e1:Uh s (l+1) a=(rmV s a).2.flatMap fun q=>Uh s l q.2.1:=rfl
  rw[e1,hw,Pg,Pg,Pg,List.flatMap_cons,hfA,hfC,G.all,Zqe hpA hpC]
 have hin:InN (((l+1:Nat):Int),A++(up1++C)):=⟨⟨by show (-9223372036854775808:Int)<=((l+1:Nat):Int);omega,by show ((l+1:Nat):Int)<=9223372036854775807;omega⟩,fun q hq=>by
  have hN:=(Zzi ht.ok).it;rw[hw] at hN;rcases Qs.1 hq with hq | hq
  ·exact hN q (Pe _ hq)
  ·rcases Qs.1 hq with hq | hq
   ·exact G.inI q hq
   ·exact hN q (Q5 _ (Qh _ hq))⟩
 have hnL:A++(up1++C)≠[]:=by rw[ez1];simp
 have hrow:Zsz u1 (l+1) (A++(up1++C)) tb e (Uc (Uh s (l+1) a) x):=⟨hits,hall.symm⟩
 obtain⟨k2,g1,g2,z,r,ez,kz⟩:=Zgm h2 hin hnL hrow;obtain⟨N2,e1,_,e3,e4,e5,e6,e7,e8⟩:=Za0 h2 hin G.enf fun _ q hq=>by
  have Zcx:∀ q∈(rmV s a).2,q.2.1∈N1/\q.2.1≠0/\(ndD u1.1 q.2.1).1+1=((l+1:Nat):Int):=fun q hq=>by
   obtain⟨f1,f2,f3⟩:=hsh q hq;exact⟨G.more _ f1,f2,by rw[Ztr G.keep hE f1];exact f3⟩
  rw[hw] at Zcx;rcases Qs.1 hq with hq | hq
  ·exact Zcx q (Pe _ hq)
  ·rcases Qs.1 hq with hq | hq
   ·obtain⟨f1,f2,f3,f4⟩:=G.ups q hq
    exact⟨f1,by omega,by rw[f4];omega⟩
   ·exact Zcx q (Q5 _ (Qh _ hq))
 obtain⟨k3,e9⟩:=Zkk up1 (s:=u2) (P:=fun i=>P i+Xh up i) (N:=N2) k2.may (e1.same fun i=>by show P i+Xh up i+Xh up1 i=P i+Xh up1 i+Xh up i;omega) fun q hq=>by
  obtain⟨_,f2,_,_⟩:=G.ups q hq;obtain⟨n,hn,hqn⟩:=e6 q (Q5 _ (Pe _ hq));exact⟨by omega,n,hn,q,hqn,rfl⟩
 have hd:(Zsv u2 up1).1=u2.1:=by
  clear k3 e9 e1;have:∀ (l:List It) (v:Rm),(Zsv v l).1=v.1:=by
   intro l
   induction l with
   | nil=>intro v;rfl
   | cons q r ih=>intro v;rw[Zlq,ih];rfl
  exact this up1 u2
 refine⟨N2,Uu (Uu G.keep k2) k3,Zea (fun a k tb e hf=>(Yu k3 (l+1) a k tb e hf).1) _ _ _ g1,?_,⟨z,r,ez,fun y0 q0 e0 hxy=> ?_⟩,e9,fun m hm=>e3 m (G.more m hm),fun q hq=> ?_,fun q hq=> ?_,e7,?_⟩
 ·rw[<- g2]
  exact U5 fun q hq=>by
   obtain⟨t',e',hf⟩:=U0 g1 q hq;exact(Yu k3 (l+1) _ _ _ _ hf).2.1
 ·rw[kz]
  rw[hw] at e0;cases hA:A with
  | nil =>
   rw[hA] at e0;cases e0;rw[ez1];exact hz1 hxy
  | cons c r0 =>
   rw[hA] at e0;cases e0;rfl
 ·rw[hd]
  exact e5 q hq
 ·obtain⟨p,hp,ep⟩:=Zlm h2 hnL q hq
  obtain⟨_,f2,f3,_⟩:=e5 q hq;exact⟨by rw[ep];exact(hin.it p hp).key,⟨by omega,by omega⟩⟩
 ·rw[hd]
  have:=G.writes;omega}
theorem Zfx {x:It}(hx:InI x){s:Rm}{P:Nat->Nat}{N:List Int}(hr:x.2.1=0\/(0<x.2.1/\s.2.1[x.2.1.toNat]?.getD 0≠0)) (hE:Enf s.1 s.2.1 (fun i=>P i+Zcx x i) N):∀ (l:Nat),l<6->∀ {u:Rm}{a:Int}{tb:Ky}{e:Bool}{up:List It},Zsy s l a tb e->(e=true->Zr x.1 tb=true)->a∈N->Zl x l s a=(0,u,up)->∃ N',Zgo s u P N N' l a up x tb e
 | 0,_,_,_,_,_,_,ht,hb,_,h=>Zrm hx ht hb hr hE h
 | l+1,h6,_,_,_,_,_,ht,hb,ha,h=>Znj h6 (fun ht hb ha h=>Zfx hx hr hE l (by omega) ht hb ha h) ht hb ha hE h
def Zov (s:Rm):Nat->Int->Ky->Bool
 | 0,a,k=>decide (5<=(rmV s a).2.length) && !Y3 (rmV s a) k
 | l+1,a,k=>decide (5<=(rmV s a).2.length)&&Zov s l (Ze4 (rmV s a) k) k
def Zyw (s:Rm) (a:Int) (k:Ky):Bool:=decide ((rmV s a).1=5)&&Zov s 5 a k
def Va (s:Rm) (lv:Int) (up:List It):Int×Rm×List It :=
 if 1<up.length then
  if (Z5 s (lv+1) up).1=0 then (0,Zsv (Z5 s (lv+1) up).2.1 up,(Z5 s (lv+1) up).2.2) else ((Z5 s (lv+1) up).1,Zn,[])
 else (0,s,up)
def Zqg (up:List It):Int:=match up with | []=>0 | z::_=>z.2.1
def Zs1 (s:Rm) (a:Int) (x:It):Int×Rm×Int :=
 if Zyw s a x.1 then (120,Zn,0)
 else if (Zl x (rmV s a).1.toNat s a).1=0 then
  if (Va (Zl x (rmV s a).1.toNat s a).2.1 (rmV s a).1 (Zl x (rmV s a).1.toNat s a).2.2).1=0 then
   match lfO (Va (Zl x (rmV s a).1.toNat s a).2.1 (rmV s a).1 (Zl x (rmV s a).1.toNat s a).2.2).2.1.1 (Va (Zl x (rmV s a).1.toNat s a).2.1 (rmV s a).1 (Zl x (rmV s a).1.toNat s a).2.2).2.1.2.1 a.toNat with
   | none=>(8,Zn,0)
   | some v=>(0,((Va (Zl x (rmV s a).1.toNat s a).2.1 (rmV s a).1 (Zl x (rmV s a).1.toNat s a).2.2).2.1.1,v,(Va (Zl x (rmV s a).1.toNat s a).2.1 (rmV s a).1 (Zl x (rmV s a).1.toNat s a).2.2).2.1.2.2),Zqg (Va (Zl x (rmV s a).1.toNat s a).2.1 (rmV s a).1 (Zl x (rmV s a).1.toNat s a).2.2).2.2)
  else ((Va (Zl x (rmV s a).1.toNat s a).2.1 (rmV s a).1 (Zl x (rmV s a).1.toNat s a).2.2).1,Zn,0)
 else ((Zl x (rmV s a).1.toNat s a).1,Zn,0)
def Z6m (s:Rm) (a:Int) (x:It):Int×Rm×Int :=
 if ckE s a=0 then if Zas x then if x.2.1≠0/\s.2.1[x.2.1.toNat]?.getD 0=0 then (6,Zn,0) else Zs1 s a x else (8,Zn,0) else (ckE s a,Zn,0)
theorem Zuy {s u:Rm}{lv:Int}{up top:List It}(h:Va s lv up=(0,u,top)):(up.length<=1/\u=s/\top=up)\/(1<up.length/\∃ u0,Z5 s (lv+1) up=(0,u0,top)/\u=Zsv u0 up):=by{
 unfold Va at h;split at h
 ·rename_i h0
  generalize hb:Z5 s (lv+1) up=b at h;obtain⟨e,v,q⟩:=b;split at h
  ·rename_i h1
   cases h;exact .inr ⟨h0,v,by rw[show e=0 from h1],rfl⟩
  ·rename_i h1
   simp only[Prod.mk.injEq] at h;exact absurd h.1 h1
 ·cases h
  exact .inl ⟨by omega,rfl,rfl⟩}
def Zfq (n:Nd) (k:Ky):Nat×Bool:=if n.1=0 then (Z4 n k,Y3 n k) else (Zaq n k,true)
theorem Zrb (A:Option Qbb) (c:Nat) (n:Nd) (k:Ky) (w:Qa9) (h:Nod (Old w) w (.agg #[.int .i64 n.1,.slice A n.2.length c]) n) :
  Qbg Tryz.prog 115 #[.agg #[.int .i64 n.1,.slice A n.2.length c],kyV k] w fun e w'=>e=.returned (.agg #[.int .i64 n.1,.slice A n.2.length c,.int .i64 ((Zfq n k).1:Nat),.bool (Zfq n k).2])/\Qbi w.heap.size w w':=by{
 obtain⟨w1,hw1,b1,hs1,hB1⟩:=Yd w (.int .i64 n.1) (.slice A n.2.length c) 59;obtain⟨w2,hw2,-,-,-,hs2,hB2,b2⟩:=Xd w1 (.int .u8 (k.1.toNat:Int)) (.int .u32 k.2.1) (.int .u32 k.2.2) 77;obtain⟨w3,hw3,b3,hs3,hB3⟩:=Xy w2 (.int .i64 0) (.slice none 0 0) (.int .i64 0) (.bool false) 181;have B3:=Za (hB1.trans ((hB2.trans (hB3.mono hB2.size)).mono hB1.size));have hb1:=(hB3.block w.heap.size (by omega)).trans ((hB2.block w.heap.size (by omega)).trans b1);have hb2:=(hB3.block w1.heap.size (by omega)).trans b2;have hP:=Za (fun W hW=>Zjh _ n k W (h.below hW));obtain⟨p,hp⟩:∃ p,Z4 n k=p:=⟨_,rfl⟩
 obtain⟨t,ht⟩:∃ t,Y3 n k=t:=⟨_,rfl⟩
 obtain⟨lv,hlv⟩:∃ q,n.1=q:=⟨_,rfl⟩
 obtain⟨len,hlen⟩:∃ q,n.2.length=q:=⟨_,rfl⟩
 have hpl:=Zgc n k;have hst:Hid (Zfq n k=if lv=0 then (p,t) else (if t=true then p else p-1,true)):=Za (by unfold Zfq Zaq;rw[hlv,hp,ht]);have hcl:c<=9223372036854775807/\n.2.length<=c:=by
  obtain⟨A',c',e,_,h1,h2,_⟩:=h.open;cases e;exact⟨h2,h1⟩
 rw[hp] at hpl hP;rw[ht] at hP;rw[hlen] at hpl hcl hP b1 hb1 hw1 ⊢;rw[hlv] at hP b1 hb1 hw1 ⊢;have G3:=Za b3;have S:=Za (show w.heap.size<w3.heap.size/\w1.heap.size<w3.heap.size/\w2.heap.size<w3.heap.size/\w.heap.size<=w2.heap.size from ⟨by omega,by omega,by omega,by omega⟩);replace hp:=Za hp;replace ht:=Za ht;replace hlv:=Za hlv;replace hlen:=Za hlen;replace hs1:=Za hs1;replace hs2:=Za hs2;replace hs3:=Za hs3;obtain⟨p0,p1,_,_⟩:=Zi hb1;obtain⟨q0,q1,q2,_⟩:=Zk hb2;have G1:=Za hb1;clear h hB1 hB2 hB3 b1 b2 b3 hb1 hb2;unfold kyV
 go_enter Tryz.func115,Tryz.ntmps115
 go_upto_region 1 with fail
 clear hw1 hw2 hw3
 go_wp2_with fail
 with_reducible refine(hP.out _ B3.out).mono ?_
 rintro e w4 ⟨rfl,hb4⟩;have g3:=(hb4.block w2.heap.size S.out.2.2.1).trans G3.out;have g1:=(hb4.block w.heap.size S.out.1).trans G1.out;have B4:=Za (B3.out.trans (hb4.mono B3.out.size))
 have hfin:Hid (∀ (x:Nat) (y:Bool),Zfq n k=(x,y)->∃ W9,(((w4.setCell ⟨w2.heap.size,0,none⟩ (.int .i64 lv)).setCell ⟨w2.heap.size,1,none⟩ (.slice A len c)).setCell ⟨w2.heap.size,2,none⟩ (.int .i64 (x:Int))).setCell ⟨w2.heap.size,3,none⟩ (.bool y)=W9 /\
   W9.cell? ⟨w2.heap.size,0,none⟩=some (.int .i64 lv)/\W9.cell? ⟨w2.heap.size,1,none⟩=some (.slice A len c)/\W9.cell? ⟨w2.heap.size,2,none⟩=some (.int .i64 (x:Int))/\W9.cell? ⟨w2.heap.size,3,none⟩=some (.bool y) /\
   (Ending.returned (.agg #[.int .i64 lv,.slice A len c,.int .i64 (x:Int),.bool y])=.returned (.agg #[.int .i64 lv,.slice A len c,.int .i64 ((Zfq n k).1:Nat),.bool (Zfq n k).2])/\Qbi w.heap.size w W9)):=Za fun x y he=>by
  obtain⟨W9,e9,g9,gr9,_⟩:=Zt (a':=.int .i64 lv) (b':=.slice A len c) (c':=.int .i64 (x:Int)) (d':=.bool y) g3;obtain⟨k0,k1,k2,k3,_⟩:=Ze g9;exact⟨W9,e9,k0,k1,k2,k3,by rw[he],B4.out.grown gr9 B4.out.size fun q e=>by cases e;exact S.out.2.2.2⟩
 obtain⟨m0,m1,_,_⟩:=Zi g1;obtain⟨r0,r1,r2,r3,rf,_⟩:=Ze g3;clear p0 p1 q0 q1 q2 hb4 g3 g1;have hcl1:=hcl.1;have hcl2:=hcl.2;clear hcl;by_cases h0:lv=0
 ·subst h0
  obtain⟨W9,e9,k0,k1,k2,k3,hf⟩:=hfin.out p t (by rw[hst.out,if_pos rfl]);replace hf:=Za hf;replace e9:=Za e9;clear hfin hst
  go_wp2_with fail
  rw[e9.out];exact Qbd (v:=.agg #[.int .i64 0,.slice A len c,.int .i64 (p:Int),.bool t]) (by simp[results,Tryz.results115,go_sem,k0,k1,k2,k3]) rfl hf.out
 ·have h0':(lv==0)=false:=by simpa using h0
  cases t with
  | true =>
   obtain⟨W9,e9,k0,k1,k2,k3,hf⟩:=hfin.out p true (by rw[hst.out,if_neg h0,if_pos rfl]);replace hf:=Za hf;replace e9:=Za e9;clear hfin hst h0
   go_wp2_with fail
   rw[e9.out];exact Qbd (v:=.agg #[.int .i64 lv,.slice A len c,.int .i64 (p:Int),.bool true]) (by simp[results,Tryz.results115,go_sem,k0,k1,k2,k3]) rfl hf.out
  | false =>
   have hwr:IntKind.i64.wrap ((p:Int)-1)=(p:Int)-1:=by rw[IntKind.wrap_i64];omega
   by_cases hp0:p=0
   ·obtain⟨W9,e9,k0,k1,k2,k3,hf⟩:=hfin.out 0 true (by rw[hst.out,if_neg h0,if_neg (by decide),hp0])
    subst hp0;replace hf:=Za hf;replace e9:=Za e9;clear hfin hst h0
    go_wp2_with fail
    refine Eq.mpr (congrArg _ e9.out) ?_;exact Qbd (v:=.agg #[.int .i64 lv,.slice A len c,.int .i64 (0:Nat),.bool true]) (by simp[results,Tryz.results115,go_sem,k0,k1,k2,k3]) rfl hf.out
   ·obtain⟨W9,e9,k0,k1,k2,k3,hf⟩:=hfin.out (p-1) true (by rw[hst.out,if_neg h0,if_neg (by decide)])
    have hp1:((p-1:Nat):Int)=(p:Int)-1:=by omega
    have hp2:(0:Int)<=(p:Int)-1:=by omega
    have hmx:max ((p:Int)-1) 0=(p:Int)-1:=by omega
    rw[hp1] at e9 k2 hf;replace hf:=Za hf;replace e9:=Za e9;clear hfin hst h0 hp1
    go_wp2_with fail
    refine Eq.mpr (congrArg _ e9.out) ?_;exact Qbd (v:=.agg #[.int .i64 lv,.slice A len c,.int .i64 ((p:Int)-1),.bool true]) (by simp[results,Tryz.results115,go_sem,k0,k1,k2,k3]) rfl hf.out}
def Zhg (s:Rm) (x:It):Int:=if Zas x then if x.2.1≠0/\s.2.1[x.2.1.toNat]?.getD 0=0 then 6 else 0 else 8
theorem Zjt (v u:Qba) (s:Rm) (x:It) (w:Qa9) (hm:Xz s=true) (h:Sto (Old w) w v s) (hu:Itm (Old w) w u x) :
  Qbg Tryz.prog 68 #[v,u] w fun e w'=>e=.returned (.int .i64 (Zhg s x))/\Qbi w.heap.size w w':=by{
 obtain⟨A,ca,B,cb,N,cn,L,cl,rfl,_⟩:=id h.open;obtain⟨D,dc,rfl,_,_,_,_⟩:=id hu.open;obtain⟨w1,hw1,b1,hs1,hB1⟩:=Xy w (.slice A s.1.1.length ca) (.slice B s.1.2.length cb) (.slice N s.2.1.length cn) (.slice L s.2.2.length cl) 29;obtain⟨w2,hw2,-,-,-,-,-,hs2,hB2,b2⟩:=Zz w1 (.int .u8 (x.1.1.toNat:Int)) (.int .u32 x.1.2.1) (.int .u32 x.1.2.2) (.int .i64 x.2.1) (.slice D x.2.2.length dc) 79;have hb1:=(hB2.block w.heap.size (by omega)).trans b1;have B2:=Za (hB1.trans (hB2.mono hB1.size));have hC:=Za (Ul _ x w2 (hu.map fun p v hp hc=>⟨Qt hp B2.out.size,(B2.out.cell hp).trans hc⟩));have HS:=Za (h.below B2.out);have hl:=Yi (Yq hm).2.1;have hcit:Hid (Zhg s x=if Zas x then if x.2.1≠0/\s.2.1[x.2.1.toNat]?.getD 0=0 then 6 else 0 else 8):=Za rfl;have hmw:Zas x=true->x.2.1=0\/∃ k:Nat,x.2.1=k/\8<=k/\k<256:=fun h=>by
  rcases(Ud h).1 with e | e
  ·exact .inl e
  ·exact .inr ⟨x.2.1.toNat,by omega,by omega,by omega⟩
 obtain⟨z,hz⟩:∃ z,x.2.1=z:=⟨_,rfl⟩
 obtain⟨ev,hev⟩:∃ q,Z0m x=q:=⟨_,rfl⟩
 rw[hl] at b1 hb1 hw1 HS ⊢;rw[hz] at hw2 b2 hcit hmw;unfold itV at hC;rw[hz] at hC;rw[hev] at hC;change Qbg _ _ #[_,.agg #[.int .u8 (x.1.1.toNat:Int),.int .u32 x.1.2.1,.int .u32 x.1.2.2,.int .i64 x.2.1,.slice D x.2.2.length dc]] _ _;rw[hz];replace hz:=Za hz;replace hl:=Za hl;replace hs1:=Za hs1;replace hs2:=Za hs2;obtain⟨p0,p1,p2,p3,_⟩:=Ze hb1;obtain⟨q0,q1,q2,q3,q4,_⟩:=Zq b2;have G1:=Za hb1;have G2:=Za b2;have S:=Za (show w.heap.size<w2.heap.size/\w1.heap.size<w2.heap.size from ⟨by have:=hs1.out;have:=hs2.out;omega,by have:=hs2.out;omega⟩);clear h hu hB1 hB2 b1 b2 hb1
 go_enter Tryz.func68,Tryz.ntmps68
 go_upto_region 1 with fail
 clear hw1 hw2
 go_wp2_with fail
 with_reducible refine(hC.out).mono ?_
 rintro e w3 ⟨rfl,hb3⟩;have g1:=(hb3.block w.heap.size S.out.1).trans G1.out;have g2:=(hb3.block w1.heap.size S.out.2).trans G2.out;have B3:=Za (B2.out.trans (hb3.mono B2.out.size));have H3:=Za (HS.out.below hb3);obtain⟨p0,p1,p2,p3,_⟩:=Ze g1;obtain⟨q0,q1,q2,q3,q4,_⟩:=Zq g2;clear hb3 g1 g2 hC;rcases Zbc (Zas x) with hb | hb
 ·have he8:ev=8:=by rw[<- hev];simp[Z0m,hb]
  subst he8;have hr:=Za (show Zhg s x=8 by rw[hcit.out,hb];rfl);replace hev:=Za hev;replace hb:=Za hb;clear hmw
  go_wp2_with fail
  go_ret;exact⟨Zw hr.out.symm,B3.out⟩
 have he0:ev=0:=by rw[<- hev];simp[Z0m,hb]
 subst he0;have hw:=hmw hb;rw[hb,if_pos rfl] at hcit;replace hev:=Za hev;replace hb:=Za hb;clear hmw;rcases hw with h0 | ⟨k,hk,h8,h256⟩
 ·subst h0
  have hr:=Za (show Zhg s x=0 by rw[hcit.out,if_neg (by simp)]);clear hcit
  go_wp2_with fail
  go_ret;exact⟨Zw hr.out.symm,B3.out⟩
 ·subst hk
  have j0:((k:Int) != 0)=true:=by simp;omega
  have i1:(0:Int)<=(k:Int):=by omega
  have i2:(k:Int)<256:=by omega
  obtain⟨A2,c2,e2,n1,n2,hc2⟩:=Zo H3.out.parts.2.1;rw[hl.out] at e2 hc2;cases e2;obtain⟨ad,rfl,_,hck⟩:=hc2 k h256;obtain⟨y,hy⟩:∃ y,s.2.1[k]?.getD 0=y:=⟨_,rfl⟩
  rw[hy] at hck;rw[Int.toNat_natCast,hy] at hcit;replace hy:=Za hy;clear hc2 n1 n2;by_cases hy0:y=0
  ·have t1:=Xq (y:=0) (q:=0) rfl hy0
   have hr:=Za (show Zhg s x=6 by rw[hcit.out,if_pos ⟨by omega,hy0⟩]);replace hy0:=Za hy0;clear hcit
   go_wp2_with fail
   go_ret;exact⟨Zw hr.out.symm,B3.out⟩
  ·have t1:=Y8 (y:=0) (q:=0) rfl hy0
   have hr:=Za (show Zhg s x=0 by rw[hcit.out,if_neg (fun h=>hy0 h.2)]);replace hy0:=Za hy0;clear hcit
   go_wp2_with fail
   go_ret;exact⟨Zw hr.out.symm,B3.out⟩}
def Z5n (w:Qa9) (A:Option Qbb) (n c:Nat) (e:Qbh) (w':Qa9):Prop:=Qbi w.heap.size w w' /\
 ((n<=5/\e=.returned (.slice (some ⟨w.heap.size,0,none⟩) 1 1)/\w'.heap[w.heap.size]? = some (.cells #[.slice A n c] 57 (0,0))) \/
  (5<n/\∃ ad,A=some ad/\e=.returned (.slice (some ⟨w.heap.size,0,none⟩) 2 2)/\w'.heap[w.heap.size]? = some (.cells #[.slice (some ad) 3 c,.slice (some (ad.add (3*5))) (n-3) (c-3)] 57 (0,0))))
theorem Zvw (A:Option Qbb) (n c:Nat) (w:Qa9) (hn:n<=c) (hc:c<=9223372036854775807) (hA:0<n->∃ ad,A=some ad):Qbg Tryz.prog 176 #[.slice A n c] w (Z5n w A n c):=by{
 by_cases h5:n<=5
 ·have i5:(n:Int)<=5:=by omega
  go_enter Tryz.func176,Tryz.ntmps176
  go_wp2_with fail
  go_ret;exact⟨(Qb _ w).alloc (Qc _) _,.inl ⟨h5,rfl,Qbe w _⟩⟩
 ·have i5:¬ ((n:Int)<=5):=by omega
  obtain⟨ad,rfl⟩:=hA (by omega);have i6:(3:Int)<=(c:Int):=by omega
  have i7:(3:Int)<=(n:Int):=by omega
  have i8:¬ c=3:=by omega
  go_enter Tryz.func176,Tryz.ntmps176
  go_wp2_with fail
  go_still_tail 4,(by kernel_rfl)
  go_wp2_with fail
  go_ret;exact⟨((Qb _ w).drew).alloc (Qc _) _,.inr ⟨by omega,ad,rfl,rfl,Qbe w.drew _⟩⟩}
theorem Znh.low {lo:Nat}{w w1:Qa9}{A:Option Qbb}{L:List Iv}{e:Qbh}{w':Qa9}(h:Znh lo w1 A L e w') (hg:w.grownBy w1 (A.map (·.block))):Znh lo w A L e w':=by
 obtain⟨A',c',h1,h2,h3⟩:=h;exact⟨A',c',h1,h2,Xb hg h3⟩
theorem Zj8 (A:Option Qbb) (lo lf n c fb m fc i:Nat) (lv:Int) (b:Bool) (ps qs:List Iv) (w:Qa9) (h:w.ownsRow lo 79 5 (.slice A n c) n (Zj ps)) (hf:w.ownsRow lf 79 5 (.slice (some ⟨fb,0,none⟩) m fc) m (Zj qs))
  (hne:A.map (·.block)≠some fb) (hi:i+(if b=true then 1 else 0)<=n) (hm:0<m) (hbig:n+m<=1000) (hp1:∀ p∈ps,p.2.oneCell'=true) (hq1:∀ p∈qs,p.2.oneCell'=true) (hlo:lo<=w.heap.size) :
  Qbg Tryz.prog 118 #[.agg #[.int .i64 lv,.slice A n c,.int .i64 i,.bool b],.slice (some ⟨fb,0,none⟩) m fc] w fun e w'=>Znh lo w A (ps.take i++(qs++ps.drop (i+if b=true then 1 else 0))) e w'/\w.heap.size<w'.heap.size:=by{
 obtain⟨w1,hw1,b1,hs1,hB1⟩:=Xy w (.int .i64 lv) (.slice A n c) (.int .i64 i) (.bool b) 181;have h1:=Zy h hB1;have hf1:=Zy hf hB1;have hlow:=Za (fun L e w' (hh:Znh lo w1 A L e w')=>(⟨hh.low (w:=w) (hw1 ▸ World.grownBy_alloc w _ _),by obtain⟨_,_,_,_,hg⟩:=hh;have:=hg.size;omega⟩:Znh lo w A L e w'/\w.heap.size<w'.heap.size));obtain⟨p0,p1,p2,p3,_⟩:=Ze b1;have hwr:IntKind.i64.wrap ((i:Int)+1)=(i:Int)+1:=by rw[IntKind.wrap_i64];split at hi <;> omega
 cases b with
 | true =>
  have hR:=Zot A lo lf n c fb m fc i (i+1) ps qs w1 h1 hf1 hne rfl hi hm hbig hp1 hq1 (by omega);rw[show ((i+1:Nat):Int)=(i:Int)+1 by omega] at hR;rw[if_pos rfl];obtain⟨L,hL⟩:∃ L,ps.take i++(qs++ps.drop (i+1))=L:=⟨_,rfl⟩
  rw[hL] at hR ⊢;replace hL:=Za hL;have HR:=Za hR;clear h hf h1 hf1 hR hp1 hq1 hne hB1 b1 hs1 hi
  go_enter Tryz.func118,Tryz.ntmps118
  go_upto_region 1 with fail
  clear hw1
  go_wp2_with fail
  with_reducible refine(HR.out).mono ?_
  intro e w2 hh;have H2:=Za (hlow.out _ _ _ hh);obtain⟨A',c',rfl,_⟩:=hh
  go_wp2_with fail
  go_ret;exact H2.out
 | false =>
  have hR:=Zsc A lo lf n c fb m fc i ps qs w1 h1 hf1 hne (by simpa using hi) hm hbig hp1 hq1 (by omega);rw[if_neg (by decide),Q8];obtain⟨L,hL⟩:∃ L,ps.take i++(qs++ps.drop i)=L:=⟨_,rfl⟩
  rw[hL] at hR ⊢;replace hL:=Za hL;have HR:=Za hR;clear h hf h1 hf1 hR hp1 hq1 hne hB1 b1 hs1 hi
  go_enter Tryz.func118,Tryz.ntmps118
  go_upto_region 1 with fail
  clear hw1
  go_wp2_with fail
  with_reducible refine(HR.out).mono ?_
  intro e w2 hh;have H2:=Za (hlow.out _ _ _ hh);obtain⟨A',c',rfl,_⟩:=hh
  go_wp2_with fail
  go_ret;exact H2.out}
theorem Zdh {lo:Nat}{w:Qa9}{A:Option Qbb}{c:Nat}{xs:List It}(h:Yp rIt 5 79 lo w A c xs):∃ ps:List Iv,ps.map (·.1)=xs/\w.ownsRow lo 79 5 (.slice A xs.length c) xs.length (Zj ps)/\∀ p∈ps,InI p.1/\rBy (X6 lo A w) w [p.2] p.1.2.2:=by{
 obtain⟨cs,ho,hcs⟩:=h
 obtain⟨ps,hl,hps⟩:=Zes (n:=xs.length) (p:=fun i (p:Iv)=>xs[i]? = some p.1/\(∀ j u,(Zam p)[j]? = some u->cs[i*5+j]? = some u)/\InI p.1/\rBy (X6 lo A w) w [p.2] p.1.2.2) (fun i hi=>by
  have hx:xs[i]? = some xs[i]:=Qe hi;obtain⟨vs,e5,hc,r⟩:=hcs i _ hx;obtain⟨d,rfl,hin,hd⟩:=Zj3 r
  exact⟨(xs[i],d),hx,hc,hin,hd⟩)
 have hmap:ps.map (·.1)=xs:=by
  apply Qa1;intro i;rw[Qz];cases e:ps[i]? with
  | none =>
   have:xs.length<=i:=by rw[<- hl];exact List.getElem?_eq_none_iff.1 e
   rw[Px this];rfl
  | some p=>exact(hps i p e).1.symm
 have hcell:cs=Zj ps:=by
  apply Qa1;intro j;rcases Pj j (xs.length*5) with hj | hj
  ·obtain⟨p,hp⟩:∃ p,ps[j / 5]? = some p:=⟨_,Qe (by omega)⟩
   obtain⟨u,hu⟩:∃ u,(Zam p)[j % 5]? = some u:=⟨_,Qe (by show j % 5<5;omega)⟩
   have h1:=Zaz hp _ _ hu;have h2:=(hps _ p hp).2.1 _ _ hu;rw[show j / 5*5+j % 5=j by omega] at h1 h2;rw[h1,h2]
  ·rw[Px (by rw[ho.1];exact hj),Px (by rw[Yh,hl];exact hj)]
 exact⟨ps,hmap,hcell ▸ ho,fun p hp=>by
  obtain⟨i,hi⟩:=Qal.1 hp
  exact(hps i p hi).2.2⟩}
theorem Znv {lo n c:Nat}{w:Qa9}{A:Option Qbb}{ps:List Iv}(h:w.ownsRow lo 79 5 (.slice A n c) n (Zj ps)) (hp:∀ p∈ps,InI p.1/\rBy (Old w) w [p.2] p.1.2.2):Zar (Old w) w [.slice A n c] (ps.map (·.1)):=by
 have hl:=Zf4 h;refine Zld (fun p _ hn=>hn.2.1) h (by rw[Qq];exact hl) fun i x hi=> ?_
 rw[Qz] at hi;obtain⟨p,hp',rfl⟩:=Option.map_eq_some_iff.1 hi;obtain⟨h1,h2⟩:=hp p (Q9 hp');exact⟨Zam p,rfl,fun j u hj=>Zaz hp' j u hj,Zu3 h1 h2⟩
theorem Zuc {ok:Qbb->Prop}{w:Qa9}{ps:List Iv}(h:∀ p∈ps,InI p.1/\rBy ok w [p.2] p.1.2.2):∀ p∈ps,p.2.oneCell'=true:=fun p hp=>Z09 (h p hp).2
abbrev Rf:=Int×Int
def Rfd (x:Rf):Prop:=8<=x.1/\x.1<256 /\ -1<=x.2/\x.2<=6
def wkF (d:Dk) (lv:Int) (t:List UInt8) (a:Nat):Option (List UInt8):=if lv=6 then lfO d t a else lvF d (lv+1).toNat t a
def runT (d:Dk):List UInt8->List Rf->Option (List UInt8)
 | t,[]=>some t
 | t,x::l=>(wkF d x.2 t x.1.toNat).bind fun u=>runT d u l
theorem Zqj (d:Dk):∀ (a b:List Rf) (t:List UInt8),runT d t (a++b)=(runT d t a).bind fun u=>runT d u b
 | [],b,t=>rfl
 | x::a,b,t=>by
  simp only[Q3,runT];cases wkF d x.2 t x.1.toNat with
  | none=>rfl
  | some u=>exact Zqj d a b u
def Zhh (lv:Int) (l:List It):List Rf:=(l.filter fun x=>decide (x.2.1≠0)).map fun x=>(x.2.1,lv)
def Zs0 (n:Nd):List Rf:=Zhh (n.1-1) n.2
theorem Zpb (lv:Int):Zhh lv []=[]:=rfl
theorem Zg5 {lv:Int}{x:It}{l:List It}(h:x.2.1=0):Zhh lv (x::l)=Zhh lv l:=by simp[Zhh,h]
theorem Zgn {lv:Int}{x:It}{l:List It}(h:x.2.1≠0):Zhh lv (x::l)=(x.2.1,lv)::Zhh lv l:=by simp[Zhh,h]
theorem Zp5 (lv:Int) (a b:List It):Zhh lv (a++b)=Zhh lv a++Zhh lv b:=by simp[Zhh]
theorem Zpq (lv:Int) (l:List It):(Zhh lv l).length<=l.length:=by
 rw[Zhh,Qq];exact List.length_filter_le _ _
theorem Znb {lv:Int}(h1 : -1<=lv) (h6:lv<=6):∀ {l:List It},Zcu l->∀ x∈Zhh lv l,Rfd x
 | [],_,x,hx=>by simp[Zhh] at hx
 | y::l,h,x,hx=>by
  obtain⟨r1,r2⟩:=Zd6 h;rcases r1 with r1 | ⟨k,r1,r8,r256⟩
  ·rw[Zg5 r1] at hx
   exact Znb h1 h6 r2 x hx
  ·rw[Zgn (by omega)] at hx
   rcases Qk.1 hx with rfl | hx
   ·exact⟨by show 8<=y.2.1;omega,by show y.2.1<256;omega,h1,h6⟩
   ·exact Znb h1 h6 r2 x hx
theorem Zfj (d:Dk){k:Nat}(hk:k<=6):∀ (l:List It) (t:List UInt8),Zbg (lvF d k) t l=runT d t (Zhh ((k:Int)-1) l)
 | [],t=>rfl
 | x::l,t=>by
  unfold Zbg;by_cases h:x.2.1=0
  ·rw[if_pos h,Zg5 h]
   exact Zfj d hk l t
  ·rw[if_neg h,Zgn h]
   have e:wkF d ((k:Int)-1) t x.2.1.toNat=lvF d k t x.2.1.toNat:=by
    rw[wkF,if_neg (by omega),show ((k:Int)-1+1).toNat=k by omega]
   show (lvF d k t x.2.1.toNat).bind _=(wkF d ((k:Int)-1) t x.2.1.toNat).bind _;rw[e];cases lvF d k t x.2.1.toNat with
   | none=>rfl
   | some u=>exact Zfj d hk l u
theorem Z2k {d:Dk}{lv:Int}{t:List UInt8}{a:Nat}(h:t[a]?.getD 0=0):wkF d lv t a=none:=by{
 have hd:dnO t a=none:=by rw[dnO,if_pos h]
 unfold wkF;split
 ·rw[lfO,hd];rfl
 ·cases (lv+1).toNat with
  | zero=>exact hd
  | succ l =>
   show lvS d l (lvF d l) t a=none;rw[lvS,hd];rfl}
theorem Zp9 {x:UInt8}(h:x≠0):x-1≠0↔1<x.toNat:=by{
 have h1:=Zmf h;refine⟨fun e=> ?_,fun e e0=> ?_⟩
 ·have:(x-1).toNat≠0:=fun e'=>e (X8.1 e')
  omega
 ·have:=X8.2 e0
  omega}
def Rdn (d:Dk) (lv:Int) (a:Nat):Prop:=reN (Ya d a)=0/\(lv=6\/(reV (Ya d a)).1=lv)
theorem Z35 {d:Dk}{lv:Int}{t:List UInt8}{a:Nat}(h1 : -1<=lv) (h6:lv<=6) (h:t[a]?.getD 0≠0) :
  ((t[a]?.getD 0-1≠0\/lv = -1)/\wkF d lv t a=some (t.set a (t[a]?.getD 0-1))) \/
  (t[a]?.getD 0-1=0/\lv ≠ -1/\¬ Rdn d lv a/\wkF d lv t a=none) \/
  (t[a]?.getD 0-1=0/\lv ≠ -1/\Rdn d lv a/\wkF d lv t a=runT d (t.set a (t[a]?.getD 0-1)) (Zs0 (reV (Ya d a)))):=by{
 have hd:=Zeo h;have hlow:reN (Ya d a)=0->0<=(reV (Ya d a)).1/\(reV (Ya d a)).1<6:=fun hr=>by
  obtain⟨⟨s1,s2,_⟩,_⟩:=Z0 (Zeb hr).1;exact⟨s1,s2⟩
 by_cases hc:t[a]?.getD 0-1=0
 case neg =>
  refine .inl ⟨.inl hc,?_⟩;have hm:=(Zp9 h).1 hc;unfold wkF;split
  ·rw[lfO,hd]
   show (if 1<(t[a]?.getD 0).toNat then _ else _)=_;rw[if_pos hm]
  ·exact Zo6 d _ t a hm
 have hm:¬ 1<(t[a]?.getD 0).toNat:=fun e=>(Zp9 h).2 e hc
 by_cases hl:lv = -1
 ·refine .inl ⟨.inr hl,?_⟩
  subst hl;exact hd
 right
 by_cases h0:lv=6
 ·subst h0
  have e:wkF d 6 t a=if reN (Ya d a)=0 then Zbg (lvF d (reV (Ya d a)).1.toNat) (t.set a (t[a]?.getD 0-1)) (reV (Ya d a)).2 else none:=by
   rw[wkF,if_pos rfl,lfO,hd];show (if 1<(t[a]?.getD 0).toNat then _ else _)=_;rw[if_neg hm]
  by_cases hr:reN (Ya d a)=0
  ·refine .inr ⟨hc,by decide,⟨hr,.inl rfl⟩,?_⟩
   have hq:=hlow hr;rw[e,if_pos hr,Zfj d (by omega),Zs0,show (((reV (Ya d a)).1.toNat:Nat):Int)=(reV (Ya d a)).1 by omega]
  ·exact .inl ⟨hc,by decide,fun h=>hr h.1,by rw[e,if_neg hr]⟩
 ·obtain⟨l,rfl⟩:∃ l:Nat,lv=l:=⟨lv.toNat,by omega⟩
  have e:wkF d l t a=if reN (Ya d a)=0/\(reV (Ya d a)).1=(l:Int) then Zbg (lvF d l) (t.set a (t[a]?.getD 0-1)) (reV (Ya d a)).2 else none:=by
   rw[wkF,if_neg h0,show ((l:Int)+1).toNat=l+1 by omega];show lvS d l (lvF d l) t a=_;rw[lvS,hd];show (if 1<(t[a]?.getD 0).toNat then _ else _)=_;rw[if_neg hm]
  by_cases hr:reN (Ya d a)=0/\(reV (Ya d a)).1=(l:Int)
  ·refine .inr ⟨hc,hl,⟨hr.1,.inr hr.2⟩,?_⟩
   rw[e,if_pos hr,Zfj d (by omega),Zs0,hr.2]
  ·exact .inl ⟨hc,hl,fun h=>hr ⟨h.1,h.2.resolve_left h0⟩,by rw[e,if_neg hr]⟩}
def Znu (t:List UInt8):Nat:=(t.map (·.toNat)).sum
theorem Zxe:∀ t:List UInt8,Znu t<=255*t.length
 | []=>by simp[Znu]
 | x::t=>by
  have h1:=Zxe t;have h2:=x.toNat_lt;simp only[Znu,Q6,Py,Qr] at h1 ⊢;omega
theorem Zt2:∀ {t:List UInt8}{a:Nat},t[a]?.getD 0≠0->Znu (t.set a (t[a]?.getD 0-1))+1=Znu t
 | [],a,h=>absurd (by simp) h
 | x::t,0,h=>by
  have h':x≠0:=by simpa using h
  have:=Zmf h';simp only[List.set_cons_zero,Znu,Q6,Py,List.getElem?_cons_zero,Option.getD_some];omega
 | x::t,a+1,h=>by
  have h':t[a]?.getD 0≠0:=by simpa using h
  have:=Zt2 h';simp only[List.set_cons_succ,Znu,Q6,Py,List.getElem?_cons_succ] at this ⊢;omega
def Z02 (s:Rm):Prop:=Zw1 s.1/\s.2.1.length<=10000/\s.2.2.length<=10000
theorem Zsf {s:Rm}(h:Xz s=true):Z02 s:=by
 obtain⟨h1,h2,h3⟩:=Yq h;exact⟨Ze0 h1,by rw[Yi h2];omega,by rw[Yi h3];omega⟩
theorem Z22 {lo:Nat}{w1 W W9:Qa9}{P Q N L:Qba}{s:Rm}{g:Nat}(hd:Dsk (New w1.heap.size W) W (.agg #[P,Q]) s.1) (hn:rBy (New w1.heap.size W) W [N] s.2.1) (hl:rBy (New w1.heap.size W) W [L] s.2.2) (hg:g<w1.heap.size) (hlo:lo<=w1.heap.size) (gr:W.grownBy W9 (some g)):Sto (New lo W9) W9 (.agg #[P,Q,N,L]) s :=
 Sto.mk ((hd.grown gr (fun q e=>by cases e;exact hg)).new hlo (Qb _ _)) (Zf.new (Zf.grown hn gr (fun q e=>by cases e;exact hg)) hlo (Qb _ _)) (Zf.new (Zf.grown hl gr (fun q e=>by cases e;exact hg)) hlo (Qb _ _))
theorem Zw3 (v:Qba) (s:Rm) (hsm:Z02 s) (w:Qa9) (h:Sto (Old w) w v s) :
  Qbg Tryz.prog 181 #[v] w fun e w'=>∃ A ca B cb N cn L cl,e=.returned (.agg #[.slice A s.1.1.length ca,.slice B s.1.2.length cb,.slice N s.2.1.length cn,.slice L s.2.2.length cl])/\Sto (New w.heap.size w') w' (.agg #[.slice A s.1.1.length ca,.slice B s.1.2.length cb,.slice N s.2.1.length cn,.slice L s.2.2.length cl]) s/\Qbi w.heap.size w w':=by{
 obtain⟨A,ca,B,cb,N,cn,L,cl,w1,rfl,hw1,f1,f2,hsz,hB,H⟩:=Zfs h;clear h;obtain⟨m0,m1,m2,m3,_,mg⟩:=Ze f1;replace hsz:=Za hsz;replace f1:=Za f1;replace f2:=Za f2;replace hsm:=Za hsm
 go_enter Tryz.func181,Tryz.ntmps181
 go_upto_region 1 with fail
 clear hw1
 refine Zb1 (by kernel_rfl) 10 (fun W=>Qbi w1.heap.size w1 W) (fun i=>match i with
   | 2=>some (fun v W=>Dsk (New w1.heap.size W) W v s.1)
   | 5=>some (fun v W=>rBy (New w1.heap.size W) W [v] s.2.1)
   | 8=>some (fun v W=>rBy (New w1.heap.size W) W [v] s.2.2)
   | 9=>some (fun v W=>∃ P p Q r Y y X x,v=.agg #[.slice P s.1.1.length p,.slice Q s.1.2.length r,.slice Y s.2.1.length y,.slice X s.2.2.length x]/\Dsk (New w1.heap.size W) W (.agg #[.slice P s.1.1.length p,.slice Q s.1.2.length r]) s.1/\rBy (New w1.heap.size W) W [.slice Y s.2.1.length y] s.2.1/\rBy (New w1.heap.size W) W [.slice X s.2.2.length x] s.2.2)
   | _=>none) (fun _=>none) (by decide) (by kernel_rfl) (by kernel_rfl) (Qb _ _).drew (fun w w' h hb=>h.trans (hb.mono h.size)) ?tst ?_
 case tst =>
  intro j φ x W W' hp hx hb
  match j,hp with
  | 2,hp=>cases hp;exact hx.new (Qc _) hb
  | 5,hp=>cases hp;exact Zf.new hx (Qc _) hb
  | 8,hp=>cases hp;exact Zf.new hx (Qc _) hb
  | 9,hp =>
   cases hp;obtain⟨P,p,Q,r,Y,y,X,x,e1,e2,e3,e4⟩:=hx;exact⟨P,p,Q,r,Y,y,X,x,e1,e2.new (Qc _) hb,Zf.new e3 (Qc _) hb,Zf.new e4 (Qc _) hb⟩
 simp only[Pn,Po,Pp,Pq]
 repeat (first
  | (refine wpAs_skip rfl ?_;simp only[Qd,Zb,Zc,Zd])
  | (refine wpAs_pure (v := ?_) rfl rfl ?_ ?_;rotate_left;(intro W hC hE;clear hE;(have z0:=(hC.cell (p:=⟨w.heap.size,0,none⟩) mg).trans m0;have z1:=(hC.cell (p:=⟨w.heap.size,1,none⟩) mg).trans m1);clear hC;go_simp;first | done | with_reducible rfl);simp only[Qd,Zb,Zc,Zd]))
 refine wpAs_act rfl rfl ?_ ?_
 ·intro W hC hE
  clear hE;refine does_enter (f:=186) (args:=#[.agg #[.slice A s.1.1.length ca,.slice B s.1.2.length cb]]) ?_ ?_
  ·go_simp
  ·refine(Z0i _ s.1 W hsm.out.1 (H.out.below hC).parts.1).mono ?_
   rintro e W' ⟨u,rfl,hu,hb⟩;exact⟨_,rfl,hu.new hC.size (Qb _ _),hb⟩
 simp only[Qd,Zb,Zc,Zd,envAdd];intro x5
 repeat (first
  | (refine wpAs_skip rfl ?_;simp only[Qd,Zb,Zc,Zd])
  | (refine wpAs_pure (v := ?_) rfl rfl ?_ ?_;rotate_left;(intro W hC hE;clear hE;(have z2:=(hC.cell (p:=⟨w.heap.size,2,none⟩) mg).trans m2);clear hC;go_simp;first | done | with_reducible rfl);simp only[Qd,Zb,Zc,Zd]))
 refine wpAs_act rfl rfl ?_ ?_
 ·intro W hC hE
  clear hE;refine does_enter (f:=97) (args:=#[.slice N s.2.1.length cn]) ?_ ?_
  ·go_simp
  ·refine(Zaj _ s.2.1 W (by have:=hsm.out.2.1;omega) (H.out.below hC).parts.2.1).mono ?_
   rintro e W' ⟨u,rfl,ho,hb⟩;exact⟨_,rfl,Zf.new ho hC.size (Qb _ _),hb⟩
 simp only[Qd,Zb,Zc,Zd,envAdd];intro x8
 repeat (first
  | (refine wpAs_skip rfl ?_;simp only[Qd,Zb,Zc,Zd])
  | (refine wpAs_pure (v := ?_) rfl rfl ?_ ?_;rotate_left;(intro W hC hE;clear hE;(have z3:=(hC.cell (p:=⟨w.heap.size,3,none⟩) mg).trans m3);clear hC;go_simp;first | done | with_reducible rfl);simp only[Qd,Zb,Zc,Zd]))
 refine wpAs_act rfl rfl ?_ ?_
 ·intro W hC hE
  clear hE;refine does_enter (f:=97) (args:=#[.slice L s.2.2.length cl]) ?_ ?_
  ·go_simp
  ·refine(Zaj _ s.2.2 W (by have:=hsm.out.2.2;omega) (H.out.below hC).parts.2.2).mono ?_
   rintro e W' ⟨u,rfl,ho,hb⟩;exact⟨_,rfl,Zf.new ho hC.size (Qb _ _),hb⟩
 simp only[Qd,Zb,Zc,Zd,envAdd];intro x11;refine wpAs_act rfl rfl ?_ ?_
 ·intro W hC hE
  have h11:=hE.1 rfl;have h8:=hE.2.1 rfl;have h5:=hE.2.2.1 rfl;obtain⟨X,x,rfl,_⟩:=Zo h11;obtain⟨Y,y,rfl,_⟩:=Zo h8;obtain⟨P,p,Q,r,rfl,_⟩:=h5.open;have h11':=Za h11;have h8':=Za h8;have h5':=Za h5;clear hE hC h11 h8 h5
  go_simp
  exact⟨⟨P,p,Q,r,Y,y,X,x,rfl,h5'.out,h8'.out,h11'.out⟩,Qb _ _⟩
 simp only[Qd,Zb,Zc,Zd,envAdd];intro x12;refine wpAs_end fun W hC hE=> ?_
 obtain⟨⟨P,p,Q,r,Y,y,X,x,rfl,hd,hn,hl⟩,_⟩:=hE;have bW:=(hC.block (w.heap.size+1) (by rw[hsz.out];omega)).trans f2.out;obtain⟨c0,c1,c2,c3,c4,c5⟩:=Ze bW;obtain⟨W9,hW9,g9,gr9,gs9⟩:=Zt (a':=.slice P s.1.1.length p) (b':=.slice Q s.1.2.length r) (c':=.slice Y s.2.1.length y) (d':=.slice X s.2.2.length x) bW;obtain⟨n0,n1,n2,n3,_,_⟩:=Ze g9;have BW:=hB.trans (hC.mono hB.size);have hfin:=Za (Z22 (lo:=w.heap.size) hd hn hl (by rw[hsz.out];omega) hB.size gr9);have hB9:=Za (BW.grown gr9 BW.size (fun q e=>by cases e;omega));clear hd hn hl gr9 gs9 BW hC;replace bW:=Za bW;replace g9:=Za g9
 go_wp2_with fail
 refine Qbd (v:=.agg #[.slice P s.1.1.length p,.slice Q s.1.2.length r,.slice Y s.2.1.length y,.slice X s.2.2.length x]) (by simp[results,Tryz.results181,go_sem,n0,n1,n2,n3]) rfl ?_;exact⟨_,_,_,_,_,_,_,_,rfl,hfin.out,hB9.out⟩}
theorem Zmi (v:Qba) (s:Rm) (n:Int) (w:Qa9) (h:Sto (Old w) w v s):Qbg Tryz.prog 179 #[v,.int .i64 n] w fun e w'=>e=.returned (.int .i64 (asE s n))/\Qbi w.heap.size w w':=by{
 obtain⟨A,ca,B,cb,N,cn,L,cl,w1,rfl,hw1,f,hsz,hB,_,NN,_⟩:=Zjc h;have H:=Za (h.below hB);clear h;obtain⟨k0,k1,k2,k3,_,kg⟩:=Ze f;replace hsz:=Za hsz;rcases Zn4 s n with ⟨hm,he⟩ | ⟨hm,hn,he⟩ | ⟨k,hm,rfl,h8,h256,hx,he⟩ | ⟨k,hm,rfl,h8,h256,hx,he⟩
 ·replace he:=Za he
  have e1:=Zcc hm
  go_enter Tryz.func179,Tryz.ntmps179
  go_upto_region 1 with fail
  clear hw1
  go_wp2_with fail
  with_reducible refine(Yt _ s _ H.out).mono ?_
  rintro e w2 ⟨rfl,hb2⟩;rw[e1];replace hb2:=Za (hB.trans (hb2.mono hB.size))
  go_wp2_with fail
  go_ret;exact⟨Zw he.out.symm,hb2.out⟩
 ·replace he:=Za he
  have e1:=Zbh hm;by_cases h8:n<8
  ·clear hn
   go_enter Tryz.func179,Tryz.ntmps179
   go_upto_region 1 with fail
   clear hw1
   go_wp2_with fail
   with_reducible refine(Yt _ s _ H.out).mono ?_
   rintro e w2 ⟨rfl,hb2⟩;rw[e1];replace hb2:=Za (hB.trans (hb2.mono hB.size))
   go_wp2_with fail
   go_ret;exact⟨Zw he.out.symm,hb2.out⟩
  ·have h9:256<=n:=by omega
   clear hn
   go_enter Tryz.func179,Tryz.ntmps179
   go_upto_region 1 with fail
   clear hw1
   go_wp2_with fail
   with_reducible refine(Yt _ s _ H.out).mono ?_
   rintro e w2 ⟨rfl,hb2⟩;rw[e1];replace hb2:=Za (hB.trans (hb2.mono hB.size))
   go_wp2_with fail
   go_ret;exact⟨Zw he.out.symm,hb2.out⟩
 all_goals
  replace he:=Za he;have e1:=Zbh hm;have hlen:=Yi (Yq hm).2.1;obtain⟨A',c',e2,l1,m1,hby⟩:=Xs (B:=w1.heap.size) (fun _ h=>h) NN.out;cases e2;obtain⟨ad,rfl,hbk,hc⟩:=hby (by omega)
  have hcell:=hc k (by omega);replace hbk:(ad.add k).block<w1.heap.size:=by rw[Zh];exact hbk
  obtain⟨x,hx2⟩:∃ x,s.2.1[k]?.getD 0=x:=⟨_,rfl⟩
  rw[hx2] at hcell hx;have hlt:k<s.2.1.length:=by omega
  first
   | have t0:=Xq (y:=0) (q:=0) rfl hx
   | have t0:=Y8 (y:=0) (q:=0) rfl hx
  have i1:¬ (k:Int)<8:=by omega
  have i2:¬ 256<=(k:Int):=by omega
  replace hx2:=Za hx2;replace hx:=Za hx;replace hlen:=Za hlen;clear hc hby
  go_enter Tryz.func179,Tryz.ntmps179
  go_upto_region 1 with fail
  clear hw1
  go_wp2_with fail
  with_reducible refine(Yt _ s _ H.out).mono ?_
  rintro e w2 ⟨rfl,hb2⟩;rw[e1];replace k2:=(hb2.cell (p:=⟨w.heap.size,2,none⟩) kg).trans k2;replace hcell:=(hb2.cell hbk).trans hcell;replace hb2:=Za (hB.trans (hb2.mono hB.size))
  go_wp2_with fail
  go_ret;exact⟨Zw he.out.symm,hb2.out⟩}
theorem Z4p (w:Qa9) (a b c d e f:Qba):∃ w1,((w.alloc (.cells #[a,b,c,d] 29)).alloc (.cells #[e,f] 191)).alloc (.cells #[.int .i64 0,.slice none 0 0] 59)=w1 /\
  w1.heap[w.heap.size]? = some (.cells #[a,b,c,d] 29 (0,0))/\w1.heap[w.heap.size+1]? = some (.cells #[e,f] 191 (0,0))/\w1.heap[w.heap.size+2]? = some (.cells #[.int .i64 0,.slice none 0 0] 59 (0,0))/\w1.heap.size=w.heap.size+3/\Qbi w.heap.size w w1:=by{
 refine⟨_,rfl,Yw (Yw (Qbe _ _)),Yw ?_,?_,by simp,(((Qb _ w).alloc (Qc _) _).alloc (by simp) _).alloc (by simp;omega) _⟩
 ·have:=Qbe (w.alloc (.cells #[a,b,c,d] 29)) (.cells #[e,f] 191)
  rwa [Qm] at this
 ·have:=Qbe ((w.alloc (.cells #[a,b,c,d] 29)).alloc (.cells #[e,f] 191)) (.cells #[.int .i64 0,.slice none 0 0] 59)
  rwa [Qm,Qm] at this}
def RdP (s:Rm) (k:Nat) (lv:Int) (w w':Qa9) (e:Qbh):Prop:=∃ (u:Qba) (q:Int) (nd:Nd),e=.returned (.tuple #[u,.int .i64 q])/\((Rdn s.1 lv k/\q=0/\nd=reV (Ya s.1 k))\/(¬ Rdn s.1 lv k/\q=8/\nd=Xn))/\Nod (New w.heap.size w') w' u nd/\Qbi w.heap.size w w'
theorem Zk9 (v:Qba) (s:Rm) (k:Nat) (lv:Int) (ha:asE s k=0) (w:Qa9) (h:Sto (Old w) w v s) :
  Qbg Tryz.prog 225 #[v,.agg #[.int .i64 k,.int .i64 lv]] w fun e w'=>RdP s k lv w w' e:=by{
 obtain⟨A,ca,B,cb,N,cn,L,cl,rfl,_,_,_⟩:=h.open;obtain⟨w1,hw1,f1,f2,f3,hsz,hB⟩:=Z4p w (.slice A s.1.1.length ca) (.slice B s.1.2.length cb) (.slice N s.2.1.length cn) (.slice L s.2.2.length cl) (.int .i64 k) (.int .i64 lv);have H:=Za (h.below hB);clear h;obtain⟨k0,k1,k2,k3,_,kg⟩:=Ze f1;obtain⟨j0,j1,_,jg⟩:=Zi f2;obtain⟨k',e',_,_,_,_,_,hE,hV,-⟩:=Vh ha;have hkk:k'=k:=by omega
 subst hkk;clear e';obtain⟨b,hb⟩:∃ b,Ya s.1 k'=b:=⟨_,rfl⟩
 rw[hb] at hE hV;obtain⟨q,hq⟩:∃ q,reN b=q:=⟨_,rfl⟩
 obtain⟨nd,hnd⟩:∃ nd,reV b=nd:=⟨_,rfl⟩
 rw[hq] at hE;rw[hnd] at hV;obtain⟨lw,hlw⟩:∃ q,nd.1=q:=⟨_,rfl⟩
 have hR:Hid (Rdn s.1 lv k'↔(q=0/\(lv=6\/lw=lv))):=Za (by unfold Rdn;rw[hb,hq,hnd,hlw]);have hND:Hid (nd=reV (Ya s.1 k')):=Za (by rw[hb,hnd]);replace hsz:=Za hsz;replace f3:=Za f3;replace hb:=Za hb;replace hq:=Za hq;replace hnd:=Za hnd;replace hE:=Za hE;replace hV:=Za hV;clear f1 ha
 go_enter Tryz.func225,Tryz.ntmps225
 go_upto_region 1 with fail
 clear hw1
 go_wp2_with fail
 with_reducible refine(Zgp _ s (k':Int) _ H.out).mono ?_
 rintro e w2 ⟨u,rfl,hu,hb2⟩;rw[hE.out];rw[hV.out] at hu;obtain⟨P,pc,rfl,_⟩:=id hu.open;rw[hlw];obtain⟨w3,hw3,g3,hs3,hb3⟩:=Yd w2 (.int .i64 lw) (.slice P nd.2.length pc) 59;have F3:=(hb3.block (w.heap.size+2) (by have:=hb2.size;have:=hsz.out;omega)).trans ((hb2.block (w.heap.size+2) (by have:=hsz.out;omega)).trans f3.out);have G2:=(hb3.block (w.heap.size+1) (by have:=hb2.size;have:=hsz.out;omega)).trans ((hb2.block (w.heap.size+1) (by have:=hsz.out;omega)).trans f2);obtain⟨m0,m1,_,_⟩:=Zi g3;obtain⟨n0,n1,_,_⟩:=Zi G2;obtain⟨x0,x1,x2,_⟩:=Zi F3;have B3:=Za (hB.trans ((hb2.trans (hb3.mono hb2.size)).mono hB.size));have U3:=Za (hu.new (Qc _) hb3);have s3:Hid (w.heap.size+3<=w1.heap.size):=Za (by have:=hsz.out;omega);rw[hlw] at U3;clear hu hb2 hb3 hB k0 k1 k2 k3 kg j0 j1 jg f2;replace hs3:=Za hs3;replace g3:=Za g3;replace G2:=Za G2
 go_upto_region 2 with fail
 clear hw3;by_cases hok:q=0/\(lv=6\/lw=lv)
 ·obtain⟨W9,hW9,g9,gr9,gs9⟩:=Vq (u:=.int .i64 lw) (v:=.slice P nd.2.length pc) F3
  obtain⟨o0,o1,_,_⟩:=Zi g9
  have hfin:=Za (show Nod (New w.heap.size W9) W9 (.agg #[.int .i64 lw,.slice P nd.2.length pc]) nd from
   (U3.out.grown gr9 (fun q e=>by cases e;have:=s3.out;omega)).new (by have:=s3.out;omega) (Qb _ _))
  have hB9:=Za (B3.out.grown gr9 B3.out.size (fun q e=>by cases e;omega));have hq0:=hok.1;have hok':=Za hok;subst hq0;replace F3:=Za F3;replace g9:=Za g9;clear gr9 gs9;by_cases h6:lv=6
  ·have c1:(lv != 6)=false:=by simp[h6]
   clear hok h6
   go_wp2_with fail
   refine Qbd (v:=.tuple #[.agg #[.int .i64 lw,.slice P nd.2.length pc],.int .i64 0]) (by simp[results,Tryz.results225,go_sem,o0,o1]) rfl ?_;exact⟨_,0,nd,rfl,.inl ⟨hR.out.2 hok'.out,rfl,hND.out⟩,hfin.out,hB9.out⟩
  ·have c1:(lv != 6)=true:=by simpa using h6
   have c2:(lw != lv)=false:=by
    rcases hok.2 with h | h
    ·exact absurd h h6
    ·simp[h]
   clear hok
   go_wp2_with fail
   refine Qbd (v:=.tuple #[.agg #[.int .i64 lw,.slice P nd.2.length pc],.int .i64 0]) (by simp[results,Tryz.results225,go_sem,o0,o1]) rfl ?_;exact⟨_,0,nd,rfl,.inl ⟨hR.out.2 hok'.out,rfl,hND.out⟩,hfin.out,hB9.out⟩
 ·obtain⟨W9,hW9,g9,gr9,gs9⟩:=Vq (u:=.int .i64 0) (v:=.slice none 0 0) F3
  obtain⟨o0,o1,_,_⟩:=Zi g9;have hfin:=Za (Zzy (New w.heap.size W9) W9);have hB9:=Za (B3.out.grown gr9 B3.out.size (fun q e=>by cases e;omega));have hok':=Za hok;replace F3:=Za F3;replace g9:=Za g9;clear gr9 gs9;by_cases hq0:q=0
  ·have c1:(lv != 6)=true:=by
    have:¬ lv=6:=fun h=>hok ⟨hq0,.inl h⟩
    simpa using this
   have c2:(lw != lv)=true:=by
    have:¬ lw=lv:=fun h=>hok ⟨hq0,.inr h⟩
    simpa using this
   clear hok;subst hq0
   go_wp2_with fail
   refine Qbd (v:=.tuple #[.agg #[.int .i64 0,.slice none 0 0],.int .i64 8]) (by simp[results,Tryz.results225,go_sem,o0,o1]) rfl ?_;exact⟨_,8,Xn,rfl,.inr ⟨fun h=>hok'.out (hR.out.1 h),rfl,rfl⟩,hfin.out,hB9.out⟩
  ·have c0:(q != 0)=true:=by simpa using hq0
   clear hok
   go_wp2_with fail
   refine Qbd (v:=.tuple #[.agg #[.int .i64 0,.slice none 0 0],.int .i64 8]) (by simp[results,Tryz.results225,go_sem,o0,o1]) rfl ?_;exact⟨_,8,Xn,rfl,.inr ⟨fun h=>hok'.out (hR.out.1 h),rfl,rfl⟩,hfin.out,hB9.out⟩}
def Off (g:Nat) (w:Qa9):Qbb->Prop:=fun p=>p.block<w.heap.size/\p.block≠g
theorem Zgz {g:Nat}{W W1:Qa9}{p:Qbb}{v:Qba}(gr:W.grownBy W1 (some g)) (hp:Off g W p) (hc:W.cell? p=some v):Off g W1 p/\W1.cell? p=some v :=
 ⟨⟨Qt hp.1 gr.size,hp.2⟩,(Qu (gr.block _ hp.1 (by simpa using hp.2))).trans hc⟩
theorem Zmz {g:Nat}{W W1:Qa9}{p:Qbb}{v:Qba}(hb:Qbi W.heap.size W W1) (hp:Off g W p) (hc:W.cell? p=some v):Off g W1 p/\W1.cell? p=some v :=
 ⟨⟨Qt hp.1 hb.size,hp.2⟩,(hb.cell hp.1).trans hc⟩
theorem Zks {g:Nat}{w W:Qa9}{p:Qbb}{v:Qba}(hb:Qbi w.heap.size w W) (hg:w.heap.size<=g) (hp:Old w p) (hc:w.cell? p=some v):Off g W p/\W.cell? p=some v :=
 ⟨⟨Qt hp hb.size,fun e=>by have h:p.block<w.heap.size:=hp;omega⟩,(hb.cell hp).trans hc⟩
theorem Zjf {g:Nat}{W:Qa9}{p:Qbb}{v:Qba}(hp:Off g W p) (hc:W.cell? p=some v):Old W p/\W.cell? p=some v:=⟨hp.1,hc⟩
theorem Z0h {l:List It}{i:Nat}{x:It}{t:List UInt8}(h:ctE t (l.take i)=0) (hx:l[i]? = some x):ctE t l=ctE (ctV t (l.take i)) (x::l.drop (i+1)):=by
 have hk:=(Qf.1 hx).1;have hg:l[i]=x:=(Qf.1 hx).2;have e:l=l.take i++x::l.drop (i+1):=by rw[<- hg,Qai,Qv]
 have:ctE t l=ctE t (l.take i++x::l.drop (i+1)):=by rw[<- e]
 rw[this,Zi7,if_pos h]
theorem Z2g {l:List It}{i:Nat}{x:It}{t:List UInt8}(h:ctE t (l.take i)=0) (hx:l[i]? = some x):ctE t (l.take (i+1))=ctE (ctV t (l.take i)) [x]/\ctV t (l.take (i+1))=ctV (ctV t (l.take i)) [x]:=by
 have hk:=(Qf.1 hx).1;have hg:l[i]=x:=(Qf.1 hx).2;rw[<- Qaj hk,Zi7,Zox,if_pos h,hg];exact⟨rfl,rfl⟩
theorem Zrq {w:Qa9}(a b c d e f:Qba):∃ w1,((w.alloc (.cells #[a,b,c,d] 29)).alloc (.cells #[e,f] 59)).alloc (.cells #[.slice none 0 0,.slice none 0 0,.slice none 0 0,.slice none 0 0] 29)=w1 /\
  w1.heap[w.heap.size]? = some (.cells #[a,b,c,d] 29 (0,0))/\w1.heap[w.heap.size+1]? = some (.cells #[e,f] 59 (0,0))/\w1.heap[w.heap.size+2]? = some (.cells #[.slice none 0 0,.slice none 0 0,.slice none 0 0,.slice none 0 0] 29 (0,0))/\w1.heap.size=w.heap.size+3/\Qbi w.heap.size w w1:=by{
 refine⟨_,rfl,Yw (Yw (Qbe _ _)),Yw ?_,?_,by simp,(((Qb _ w).alloc (Qc _) _).alloc (by simp) _).alloc (by simp;omega) _⟩
 ·have:=Qbe (w.alloc (.cells #[a,b,c,d] 29)) (.cells #[e,f] 59)
  rwa [Qm] at this
 ·have:=Qbe ((w.alloc (.cells #[a,b,c,d] 29)).alloc (.cells #[e,f] 59)) (.cells #[.slice none 0 0,.slice none 0 0,.slice none 0 0,.slice none 0 0] 29)
  rwa [Qm,Qm] at this}
theorem Zve {s:Rm}{n:Nd}(hm:Xz s=true) (hn:mayN n=true):(ctE s.2.1 n.2≠0/\mkE s n=ctE s.2.1 n.2/\mkN s n=0/\mkV s n=Zn)\/(ctE s.2.1 n.2=0/\mkE s n=tkE (ctS s n) (Ui n)/\mkN s n=tkN (ctS s n) (Ui n)/\mkV s n=tkV (ctS s n) (Ui n)):=by{
 by_cases hc:ctE s.2.1 n.2=0
 ·have e:mkE s n=tkE (ctS s n) (Ui n):=by simp[mkE,hm,hn,hc]
  refine .inr ⟨hc,e,?_,?_⟩
  ·by_cases h:mkE s n=0
   ·rw[mkN,if_pos h]
   ·rw[mkN,if_neg h,(Zr0 (by rw[<- e];exact h)).1]
  ·by_cases h:mkE s n=0
   ·rw[mkV,if_pos h]
   ·rw[mkV,if_neg h,(Zr0 (by rw[<- e];exact h)).2]
 ·have e:mkE s n=ctE s.2.1 n.2:=by simp[mkE,hm,hn,hc]
  have h:mkE s n≠0:=by rw[e];exact hc
  exact .inl ⟨hc,e,(Zyf h).1,(Zyf h).2⟩}
theorem Zoy {a b:Qa9}{row:Option Nat}(h:Qbi a.heap.size a b):a.grownBy b row:=Vu (Ye a row) h
theorem Zw0 (g c lo:Nat) (t0:List UInt8) (u:Qba) (n:Nd) (hn:mayN n=true) (hl0:t0.length=256) (w:Qa9) (hown:w.ownsRow lo 5 1 (.slice (some ⟨g,0,none⟩) 256 c) 256 (u8s t0)) (hu:Nod (Off g w) w u n) :
  Qbg Tryz.prog 107 #[.slice (some ⟨g,0,none⟩) 256 c,u] w fun e w'=>e=.returned (.int .i64 (ctE t0 n.2))/\w.grownBy w' (some g)/\(ctE t0 n.2=0->w'.ownsRow lo 5 1 (.slice (some ⟨g,0,none⟩) 256 c) 256 (u8s (ctV t0 n.2))):=by{
 obtain⟨I,ci,rfl,_,_,_,hI⟩:=hu.open;obtain⟨lw,hlw⟩:∃ q,n.1=q:=⟨_,rfl⟩
 obtain⟨l,hl⟩:∃ q,n.2=q:=⟨_,rfl⟩
 obtain⟨m,hlm⟩:∃ q,l.length=q:=⟨_,rfl⟩
 have hrf:=Za (Zag hn);obtain⟨⟨_,_,s3,_⟩,_⟩:=Z0 hn;rw[hl,hlm] at s3 hI;rw[hl] at hrf ⊢;rw[hlw,hlm];have hg0:g<w.heap.size:=((hown.lt g rfl).2)
 obtain⟨w1,hw1,b1,hs1,hB1⟩:=Yd w (.int .i64 lw) (.slice I m ci) 59;have HI:=Za (Xv _ _ _ _ _ _ (fun _ _ hp hc=>Zmz (g:=g) hB1 hp hc) hI);have HO:=Za (Zy hown hB1);have GB:=Za (Zoy (row:=some g) hB1);obtain⟨p0,p1,_,pg⟩:=Zi b1;have hgs:Hid (g≠w.heap.size):=Za (by omega);have b1h:=Za b1;replace hl0:=Za hl0;replace hl:=Za hl;replace hlw:=Za hlw;replace hlm:=Za hlm;replace hs1:=Za hs1;clear hown hu hI b1 hB1
 go_enter Tryz.func107,Tryz.ntmps107
 go_upto_region 1 with fail
 clear hw1
 go_wp2_with fail
 clear p0 p1
 go_loopw [10] (fun vi wr=>∃ i:Nat,i<=m/\vi=.int .i64 i/\ctE t0 (l.take i)=0/\wr.ownsRow lo 5 1 (.slice (some ⟨g,0,none⟩) 256 c) 256 (u8s (ctV t0 (l.take i)))/\w1.grownBy wr (some g)) (fun vi _=>m-(intOf vi).toNat)
 case atStart=>exact⟨0,by omega,rfl,rfl,HO.out,Ye _ _⟩
 case round =>
  obtain⟨i,hi,rfl,hE,hown,hgr⟩:=hrel;have GF:=Za (Xb GB.out hgr);by_cases hlt:i<m
  case neg =>
   have hlast:Hid (l.take i=l):=Za (Q7 (by rw[hlm.out];omega));have hEl:Hid (ctE t0 l=0):=Za (by rw[<- hE,hlast.out]);rw[hlast.out] at hown;have HO2:=Za hown;clear hown hgr hE
   go_wp2_with fail
   go_ret;exact⟨Zw hEl.out.symm,GF.out,fun _=>HO2.out⟩
  obtain⟨x,hx⟩:∃ x,l[i]? = some x:=⟨_,Qe (by rw[hlm.out];exact hlt)⟩
  have hsp:=Za (Z0h hE hx);have hnx:=Za (Z2g hE hx);have hxr:=hrf.out x (Q9 hx);have hIr:=Xv _ _ _ _ _ _ (fun _ _ hp hc=>Zgz (g:=g) hgr hp hc) HI.out;obtain⟨ad5,E5,ce5,rfl,_,⟨z0,z1,z2,z3,z4⟩,_⟩:=Zdu hIr hx;clear hIr;obtain⟨w5,hw5,y0,y1,y2,y3,y4,hs5,hB5,_⟩:=Zz wr (.int .u8 (x.1.1.toNat:Int)) (.int .u32 x.1.2.1) (.int .u32 x.1.2.2) (.int .i64 x.2.1) (.slice E5 x.2.2.length ce5) 79;have hown5:=Zy hown hB5;have hgr5:=Za (Vu hgr (hB5.mono hgr.size));have GF5:=Za (Xb GB.out hgr5.out);replace hs5:=Za hs5;have i4:(0:Int)<=(i:Int):=by omega
  have i5:(i:Int)<(m:Int):=by omega
  obtain⟨z,hzz⟩:∃ z,x.2.1=z:=⟨_,rfl⟩
  have hc1:∀ T,ctE T (x::l.drop (i+1))=if z=0 then ctE T (l.drop (i+1)) else if T[z.toNat]?.getD 0=0 then 6 else if T[z.toNat]?.getD 0=255 then 70 else ctE (T.set z.toNat (T[z.toNat]?.getD 0+1)) (l.drop (i+1)):=fun T=>by rw[<- hzz];rfl
  have hc2:∀ T,ctE T [x]=if z=0 then 0 else if T[z.toNat]?.getD 0=0 then 6 else if T[z.toNat]?.getD 0=255 then 70 else 0:=fun T=>by rw[<- hzz];rfl
  have hc3:∀ T,ctV T [x]=if z=0 then T else T.set z.toNat (T[z.toNat]?.getD 0+1):=fun T=>by rw[<- hzz];rfl
  rw[hzz] at z3 hxr hw5 y3;replace hx:=Za hx;replace hzz:=Za hzz;obtain⟨T,hT⟩:∃ T,ctV t0 (l.take i)=T:=⟨_,rfl⟩
  have hTl:Hid (T.length=256):=Za (by rw[<- hT,Zc9,hl0.out]);rw[hT] at hown5 hsp hnx;replace hT:=Za hT;replace hE:=Za hE;clear hown hgr hB5
  go_upto_region 4 with fail
  clear hw5 z0 z1 z2 z3 z4;by_cases hz0:z=0
  ·have hn1:Hid (ctE t0 (l.take (i+1))=0/\ctV t0 (l.take (i+1))=T):=Za ⟨by rw[hnx.out.1,hc2,if_pos hz0],by rw[hnx.out.2,hc3,if_pos hz0]⟩
   subst hz0;have HO:=Za hown5;clear hc1 hc2 hc3 hxr hown5 hE hsp hnx
   go_wp2_with fail
   go_roundw
   case rel=>exact⟨i+1,by omega,by go_num,hn1.out.1,by rw[hn1.out.2];exact HO.out,hgr5.out⟩
   case measure=>simp[intOf];omega
  obtain⟨r,hr,r8,r256⟩:∃ r:Nat,z=r/\8<=r/\r<256:=⟨z.toNat,by omega,by omega,by omega⟩
  rw[hc1,if_neg hz0,show z.toNat=r by omega] at hsp;rw[hc2,hc3,if_neg hz0,if_neg hz0,show z.toNat=r by omega] at hnx;have j3:(z==0)=false:=by simpa using hz0
  subst hr;have hcell:=Zdt hown5 (j:=r) r256;obtain⟨y,hy⟩:∃ y,T[r]?.getD 0=y:=⟨_,rfl⟩
  rw[hy] at hsp hnx hcell;replace hy:=Za hy;by_cases hy0:y=0
  ·have t1:=Xq (y:=0) (q:=0) rfl hy0
   have hEl:Hid (ctE t0 l=6):=Za (by rw[hsp.out,if_pos hy0]);clear hc1 hc2 hc3 hxr hown5 hE hsp hnx hz0
   go_wp2_with fail
   go_ret;exact⟨Zw hEl.out.symm,GF5.out,fun h=>by rw[hEl.out] at h;cases h⟩
  have t1:=Y8 (y:=0) (q:=0) rfl hy0;by_cases hy5:y=255
  ·have t2:=Xq (y:=255) (q:=255) rfl hy5
   have hEl:Hid (ctE t0 l=70):=Za (by rw[hsp.out,if_neg hy0,if_pos hy5]);clear hc1 hc2 hc3 hxr hown5 hE hsp hnx hz0
   go_wp2_with fail
   go_ret;exact⟨Zw hEl.out.symm,GF5.out,fun h=>by rw[hEl.out] at h;cases h⟩
  have t2:=Y8 (y:=255) (q:=255) rfl hy5;have hfr:w5.frozen? ⟨g,r,none⟩=false:=hown5.frozenAt r;obtain⟨hu1,hu2,hu3⟩:=Zj9 hy5;have hset:=Zn6 hown5 r (y+1);have hn1:Hid (ctE t0 (l.take (i+1))=0/\ctV t0 (l.take (i+1))=T.set r (y+1)):=Za ⟨by rw[hnx.out.1,if_neg hy0,if_neg hy5],hnx.out.2⟩;rw[<- hu1] at hset;replace hset:=Za hset;replace hu1:=Za hu1;have hgn:=Za (Zp hgr5.out (p:=⟨g,r,none⟩) rfl (.int .u8 ((y.toNat:Int)+1)));clear hc1 hc2 hc3 hxr hown5 hE hsp hnx hz0
  go_wp2_with fail
  go_roundw
  case rel=>exact⟨i+1,by omega,by go_num,hn1.out.1,by rw[hn1.out.2];exact hset.out,hgn.out⟩
  case measure=>simp[intOf];omega}
end Go.Proofs.YtmafkphcfkhokaaGreat
namespace Go.Proofs.YtmafkphcfkhokaaGreat
open Go.RowKit Go.Shelf Go.Maps
attribute [local go_sem] Oper.semAt_some
theorem Zpi:(Tryz.prog.info? 191).map (fun i=>(i.zero,i.size,i.bytes))=some (some (.agg #[.int .i64 0,.int .i64 0]),2,16):=by kernel_rfl
def rfV (l:List Rf):List Qba:=l.flatMap fun x=>[.int .i64 x.1,.int .i64 x.2]
theorem Z11 (l:List Rf):(rfV l).length=l.length*2:=by{
 induction l with
 | nil=>rfl
 | cons x l ih =>
  show (rfV l).length+2=_;rw[ih,Qr];omega}
theorem Zoh (a b:List Rf):rfV (a++b)=rfV a++rfV b:=by simp[rfV]
theorem Z1q (l:List Rf):∀ v∈rfV l,v.oneCell'=true:=by
 intro v hv;simp only[rfV,Qa0] at hv;obtain⟨x,_,hx⟩:=hv;simp at hx;rcases hx with rfl | rfl <;> rfl
theorem Zzu (F:Fence) (n:Nat) (hf:F.fn 255) (hro:F.round=none) (hn:1<=n) (l Bs n₀ cap m:Nat) (A:Option Qbb) (ad:Qbb) (f:Nat->It) (E:Nat->Option Qbb) (ca:Nat->Nat) (hm:m<=9223372036854775807) (hA:0<m->A=some ad/\ad.block<n₀) (J Jx:List Nat->Qa9->Prop)
  (hY:∀ (pre:List Nat) (x:Nat) (W:Qa9),J pre W->pre.length<m->YieldAt F (n-1) Tryz.prog l #[.int .i64 (x:Int),.agg #[.int .u8 ((f x).1.1.toNat:Int),.int .u32 (f x).1.2.1,.int .u32 (f x).1.2.2,.int .i64 (f x).2.1,.slice (E x) (f x).2.2.length (ca x)]] W fun e W' =>
   (e=.returned (.bool true)/\J (pre++[x]) W'/\Zd0 n₀ Bs W W')\/(e=.returned (.bool false)/\Jx (pre++[x]) W'))
  (W:Qa9) (hBs:W.cell? ⟨Bs,0,none⟩=some (.slice A m cap)) (hc:∀ j,j<m->At5 W (ad.add (j*5)) (f j) (.slice (E j) (f j).2.2.length (ca j))) (h0:J [] W) :
  CallsIn F n Tryz.prog 255 #[.func (.yield l) #[] #[],.pointer (some ⟨Bs,0,none⟩)] W fun e W'=>(∃ v,e=.returned v) /\
   ((∃ ys,ys=Vs m m/\J ys W')\/(∃ pre,(∃ k,k<=m/\pre=Vs m k)/\Jx pre W')):=by{
 refine callsIn_of_wp Tryz.func255 rfl hf ?_ hro;simp only[Tryz.ntmps255,Pz,Qr,Qy,P5,P7,P8,Qaa,Qab,Qac,Qad,Q3];have HC:=Za hc;clear hc;replace hA:=Za hA
 gi_wp2
 gi_loopw [3] (fun i wr=>∃ k:Nat,k<=m/\i=.int .i64 ((m:Int)-1-k)/\J (Vs m k) wr/\Qbi n₀ W wr/\wr.cell? ⟨Bs,0,none⟩=some (.slice A m cap))
  (fun i _=>(intOf i+1).toNat)
 case atStart=>exact⟨0,Nat.zero_le _,by simp,h0,Qb _ _,hBs⟩
 case round =>
  obtain⟨k,hk,rfl,hJs,hnx,hbs⟩:=hrel;by_cases hlt:k<m
  ·obtain⟨rfl,hb⟩:=hA.out (by omega)
   have hx:=HC.out (m-1-k) (by omega);have g1:=(hnx.cell (p:=ad.add ((m-1-k)*5)) (by rw[Zh];exact hb)).trans hx.c0;have g2:=(hnx.cell (p:=⟨(ad.add ((m-1-k)*5)).block,(ad.add ((m-1-k)*5)).off+1,none⟩) (by rw[Zh];exact hb)).trans hx.c1;have g3:=(hnx.cell (p:=⟨(ad.add ((m-1-k)*5)).block,(ad.add ((m-1-k)*5)).off+2,none⟩) (by rw[Zh];exact hb)).trans hx.c2;have g4:=(hnx.cell (p:=⟨(ad.add ((m-1-k)*5)).block,(ad.add ((m-1-k)*5)).off+3,none⟩) (by rw[Zh];exact hb)).trans hx.c3;have g5:=(hnx.cell (p:=⟨(ad.add ((m-1-k)*5)).block,(ad.add ((m-1-k)*5)).off+4,none⟩) (by rw[Zh];exact hb)).trans hx.c4;clear hx;obtain⟨fn,tmps,assign,body,hy,hR⟩:=hY _ (m-1-k) wr hJs (by rw[Xo];exact hlt)
   try dsimp only at hy
   have e1:((m:Int)-1-k).toNat=m-1-k:=by omega
   have e2:((m-1-k:Nat):Int)=(m:Int)-1-k:=by omega
   rw[e2] at hy;clear e2;have hds:=Za (Zef m k);generalize ((f (m-1-k)).1.1.toNat:Int)=q1 at *;generalize (f (m-1-k)).1.2.1=q2 at *;generalize (f (m-1-k)).1.2.2=q3 at *;generalize (f (m-1-k)).2.1=q4 at *;generalize (f (m-1-k)).2.2.length=q5 at *;generalize E (m-1-k)=q6 at *;generalize ca (m-1-k)=q7 at *
   gi_wp2
   refine hR.mono ?_;rintro e W3 (⟨rfl,hJ3,hk3⟩ | ⟨rfl,hJx3⟩)
   ·gi_wp2
    go_roundw
    case rel=>exact⟨k+1,by omega,by go_num,by rw[hds.out];exact hJ3,hnx.trans hk3.1,hk3.2.trans hbs⟩
    case measure=>simp[intOf];omega
   ·gi_wp2
    refine Qbd (results_none rfl _ _ _) rfl ?_;exact⟨⟨_,rfl⟩,.inr ⟨_,⟨k+1,by omega,hds.out.symm⟩,hJx3⟩⟩
  ·obtain rfl:k=m:=by omega
   gi_wp2
   go_end0
   exact⟨⟨_,rfl⟩,.inl ⟨_,rfl,hJs⟩⟩}
theorem Zlb (F:Fence) (n:Nat) (hf:F.fn 247) (hro:F.round=none) (a:Option Qbb) (len cap:Nat) (w:Qa9) :
  CallsIn F n Tryz.prog 247 #[.slice a len cap] w fun e w'=>e=.returned (.func (.func 255) #[] #[.pointer (some ⟨w.heap.size,0,none⟩)])/\w'=w.alloc (.cells #[.slice a len cap] 57):=by
 refine callsIn_of_wp Tryz.func247 rfl hf ?_ hro;simp only[Tryz.ntmps247,Pz,Qr,Qy,P5,P7,P8,Qaa,Qab,Qac,Qad,Q3]
 gi_wp2
 go_ret;exact⟨rfl,rfl⟩
theorem Zha (F:Fence) (n:Nat) (hf:F.fn 255) (hro:F.round=none) (hn:1<=n) (Bs n₀ cap m:Nat) (A:Option Qbb) (ad:Qbb) (f:Nat->It) (E:Nat->Option Qbb) (ca:Nat->Nat) (hm:m<=9223372036854775807) (w:Qa9) (hBs:Bs<w.heap.size) (_hn₀:n₀<=w.heap.size)
  (hc:w.cell? ⟨Bs,0,none⟩=some (.slice A m cap)) (hA:0<m->A=some ad/\ad.block<n₀) (hx:∀ j,j<m->At5 w (ad.add (j*5)) (f j) (.slice (E j) (f j).2.2.length (ca j))) :
  SeqStopsK F n Tryz.prog 255 #[.pointer (some ⟨Bs,0,none⟩)] (fun x:Nat=>#[Value.int .i64 (x:Int),Value.agg #[.int .u8 ((f x).1.1.toNat:Int),.int .u32 (f x).1.2.1,.int .u32 (f x).1.2.2,.int .i64 (f x).2.1,.slice (E x) (f x).2.2.length (ca x)]]) (Zd0 n₀ Bs) (fun ys=>ys=Vs m m)
   (fun pre=>∃ k,k<=m/\pre=Vs m k) m w:=fun l J Jx W hW _ _ hY h0=>by
 have hc':=(hW.cell (p:=⟨Bs,0,none⟩) hBs).trans hc;exact Zzu F n hf hro hn l Bs n₀ cap m A ad f E ca hm hA J Jx hY W hc' (fun j hj=>(hx j hj).below hW) h0
theorem Z4o {w:Qa9}{A:Option Qbb}{n c:Nat}{xs:List It}(h:Zar (Old w) w [.slice A n c] xs) (hn:xs.length=n) :
  ∃ (ad:Qbb) (f:Nat->It) (E:Nat->Option Qbb) (ca:Nat->Nat),(0<n->A=some ad/\ad.block<w.heap.size)/\(∀ i x,xs[i]? = some x->f i=x)/\∀ i,i<n->At5 w (ad.add (i*5)) (f i) (.slice (E i) (f i).2.2.length (ca i)):=by{
 subst hn;have h2:∀ i,∃ g:It×Option Qbb×Nat,∀ x,xs[i]? = some x->g.1=x/\∃ ad,A=some ad/\ad.block<w.heap.size/\At5 w (ad.add (i*5)) x (.slice g.2.1 x.2.2.length g.2.2):=fun i=>by
  cases hx:xs[i]? with
  | none=>exact⟨(((0,0,0),0,[]),none,0),fun x e=>by cases e⟩
  | some x =>
   obtain⟨ad,E,ce,rfl,hok,h5,_⟩:=Zdu h hx;exact⟨(x,E,ce),fun y e=>by cases e;exact⟨rfl,ad,rfl,by have:=h5.lt;rwa [Zh] at this,h5⟩⟩
 obtain⟨g,hg⟩:∃ g:Nat->It×Option Qbb×Nat,∀ i x,xs[i]? = some x->(g i).1=x/\∃ ad,A=some ad/\ad.block<w.heap.size/\At5 w (ad.add (i*5)) x (.slice (g i).2.1 x.2.2.length (g i).2.2) :=
  ⟨fun i=>Classical.choose (h2 i),fun i=>Classical.choose_spec (h2 i)⟩
 rcases A with _ | ad
 ·refine⟨⟨0,0,none⟩,fun i=>(g i).1,fun i=>(g i).2.1,fun i=>(g i).2.2,fun h0=> ?_,fun i x hi=>(hg i x hi).1,fun i hi=> ?_⟩
  ·obtain⟨_,_,e,_⟩:=hg 0 _ (Qe h0)
   cases e
  ·obtain⟨_,_,e,_⟩:=hg i _ (Qe hi)
   cases e
 ·refine⟨ad,fun i=>(g i).1,fun i=>(g i).2.1,fun i=>(g i).2.2,fun h0=> ?_,fun i x hi=>(hg i x hi).1,fun i hi=> ?_⟩
  ·obtain⟨_,_,e,hb,_⟩:=hg 0 _ (Qe h0)
   cases e;exact⟨rfl,hb⟩
  ·obtain⟨e1,_,e,_,h5⟩:=hg i _ (Qe hi)
   cases e;rw[<- e1] at h5;exact h5}
def Zjw (lv:Int) (f:Nat->It) (pre:List Nat):List Rf:=Zhh lv (pre.map f)
theorem Zwr {lv:Int}{f:Nat->It}{pre:List Nat}{x:Nat}(h:(f x).2.1=0):Zjw lv f (pre++[x])=Zjw lv f pre:=by
 rw[Zjw,Qa2,Zp5,Q6,Qa3,Zg5 h,Zpb,Pa];rfl
theorem Zs5 {lv:Int}{f:Nat->It}{pre:List Nat}{x:Nat}(h:(f x).2.1≠0):Zjw lv f (pre++[x])=Zjw lv f pre++[((f x).2.1,lv)]:=by
 rw[Zjw,Qa2,Zp5,Q6,Qa3,Zgn h,Zpb];rfl
theorem Zul {f:Nat->It}{xs:List It}(h:∀ i x,xs[i]? = some x->f i=x):(Vs xs.length xs.length).map f=xs.reverse:=by
 refine Qa4 (by simp[Vs]) fun i h1 h2=> ?_
 have hi:i<xs.length:=by simpa using h2
 simp only[Vs,List.map_map,Qae,Qa5,Function.comp,List.getElem_reverse];exact h _ _ (Qe (by omega))
theorem Zxs (lv:Int) (l:List It):Zhh lv l.reverse=(Zhh lv l).reverse:=by simp[Zhh,List.filter_reverse]
theorem Zyn {lv:Int}{f:Nat->It}{xs:List It}(h:∀ i x,xs[i]? = some x->f i=x):Zjw lv f (Vs xs.length xs.length)=(Zhh lv xs).reverse:=by
 rw[Zjw,Zul h,Zxs]
end Go.Proofs.YtmafkphcfkhokaaGreat
namespace Go.Proofs.YtmafkphcfkhokaaGreat
open Go.RowKit Go.Shelf Go.Maps
attribute [local go_sem] Oper.semAt_some
theorem Zwu {w:Qa9}{a b:Qba}{t:Qbc}:∀ j u,([a,b]:List Qba)[j]? = some u->(w.alloc (.cells #[a,b] t)).cell? ((⟨w.heap.size,0,none⟩:Qbb).add j)=some u:=by
 intro j u hj;rw[Zbj,Nat.zero_add,cell_of_row _ _ _ #[a,b] t _ (Qbe w _)]
 simpa using hj
theorem Zct {W w1:Qa9}{g B base size k:Nat}{cs:Array Qba}{t e:Qbc}{tmp:Obj}{v v':Qba}{xs:List Qba}(h:W.heap[g]? = some (.cells cs t (0,0))) (hte:t≠e) (hr:W.ownsRow base e size v k xs) (hg:(W.alloc tmp).grownBy w1 v.ownBlock) (hB:g≠B) :
  (w1.setCell ⟨B,0,none⟩ v').heap[g]? = some (.cells cs t (0,0)):=by{
 have hlt:g<W.heap.size:=(Qa.1 h).1;have hne:some g≠v.ownBlock:=by
  rcases hr.2 with ⟨rfl,_⟩ | ⟨q,cap,cur,rfl,_,hq,_⟩
  ·simp[Value.ownBlock]
  ·intro e'
   obtain rfl:g=q:=by simpa [Value.ownBlock] using e'
   rw[h] at hq;simp at hq;exact hte hq.2
 rw[Below.heap_setCell w1 ⟨B,0,none⟩ v' g hB,hg.block g (by simp;omega) hne,Ph W tmp g hlt,h]}
theorem Z1x (F:Fence) (n:Nat) (h3:F.fn 226) (h5:F.fn 247) (h7:F.fn 255) (hro:F.round=none) (hn:3<=n)
  (v:Qba) (nd:Nd) (h0:0<=nd.1) (h6:nd.1<6) (hl5:nd.2.length<=5) (w:Qa9) (h:Nod (Old w) w v nd) :
  CallsIn F n Tryz.prog 226 #[v] w fun e W'=>∃ u,e=.returned u/\W'.ownsRow w.heap.size 191 2 u (Zs0 nd).length (rfV (Zs0 nd).reverse)/\Qbi w.heap.size w W':=by{
 have h1:1<=n:=by omega
 obtain⟨i0,hi,hz0,hz1,hz2⟩:=info_parts Zpi;obtain⟨A,c,rfl,_,l1,m1,hI⟩:=h.open;obtain⟨m,hm⟩:∃ m,nd.2.length=m:=⟨_,rfl⟩
 obtain⟨lv,hlv⟩:∃ lv,nd.1=lv:=⟨_,rfl⟩
 rw[hm] at l1 hI hl5 ⊢;obtain⟨ad,f,E,ca,hA,hf,hc⟩:=Z4o hI hm;have hcol:Hid (Zjw (lv-1) f (Vs m m)=(Zs0 nd).reverse):=Za (by rw[<- hm,Zyn hf,Zs0,hlv]);rw[hlv] at h0 h6 ⊢;replace hlv:=Za hlv;replace hm:=Za hm;replace hc:=Za hc;replace hA:=Za hA;replace hf:=Za hf;clear hI h;refine callsIn_of_wp_marks Tryz.func226 rfl h3 ?_ hro;simp only[Tryz.ntmps226,Pz,Qr,Qy,P5,P7,P8,Qaa,Qab,Qac,Qad,Q3]
 gi_wp2_with (gi_at_call 247;refine(Zlb F (n-1) h5 hro _ _ _ _).mono ?_;rintro e w' ⟨rfl,rfl⟩)
 obtain⟨W0,hW0,hB0,hs0,b0,bx,b3⟩:∃ W0,((w.alloc (.cells #[.int .i64 lv,.slice A m c] 59)).alloc (.cells #[.slice none 0 0] 308)).alloc (.cells #[.slice A m c] 57)=W0/\Qbi w.heap.size w W0/\W0.heap.size=w.heap.size+3 /\
   W0.heap[w.heap.size]? = some (.cells #[.int .i64 lv,.slice A m c] 59 (0,0))/\Boxed W0 (w.heap.size+1) 308 (.slice none 0 0)/\Boxed W0 (w.heap.size+1+1) 57 (.slice A m c) :=
  ⟨_,rfl,(((Qb _ w).alloc (Qc _) _).alloc (by simp) _).alloc (by simp;omega) _,by simp,(Ph _ _ _ (by simp;omega)).trans ((Ph _ _ _ (by simp)).trans (Qbe w _)),((by have:=Boxed.new (w.alloc (.cells #[.int .i64 lv,.slice A m c] 59)) 308 (.slice none 0 0);simpa using this:Boxed ((w.alloc (.cells #[.int .i64 lv,.slice A m c] 59)).alloc (.cells #[.slice none 0 0] 308)) (w.heap.size+1) 308 (.slice none 0 0))).alloc _,by have:=Boxed.new ((w.alloc (.cells #[.int .i64 lv,.slice A m c] 59)).alloc (.cells #[.slice none 0 0] 308)) 57 (.slice A m c);simpa using this⟩
 rw[hW0];clear hW0;have hlo:w.heap.size<=W0.heap.size:=hB0.size;have hA0:0<m->A=some ad/\ad.block<w.heap.size:=hA.out;refine wpIn_rangeFunc_ownH hro h1 (gf:=255) (lb:=#[.pointer (some ⟨w.heap.size+1+1,0,none⟩)]) rfl h7 (enters_of Tryz.func255 (by kernel_rfl) rfl)
  (Zha F (n-1) h7 hro (by omega) (w.heap.size+1+1) w.heap.size c m A ad f E ca (by omega) W0 (by omega) hlo b3.cell hA0 (fun j hj=>(hc.out j hj).below hB0))
  (fun h h'=>Zd0.trans h h') (fun W l o o' hl h1 h2 h3=>Zoo (w:=W0) (by omega) hlo l o o' hl h1 h2 h3) (Qb _ _) (fun _=>rfl)
  (fun pre W=>((∃ v,Boxed W (w.heap.size+1) 308 v/\W.ownsRow w.heap.size 191 2 v (Zjw (lv-1) f pre).length (rfV (Zjw (lv-1) f pre))/\True)/\(W.heap[w.heap.size]? = some (.cells #[.int .i64 lv,.slice A m c] 59 (0,0))/\Boxed W (w.heap.size+1+1) 57 (.slice A m c)))/\Qbi w.heap.size w W)
  (fun _ _ _=>False)
  (OwnFrom.and (OwnFrom.and (Own.from (holdsRow_own w.heap.size (w.heap.size+1) 308 191 2 (fun pre:List Nat=>(Zjw (lv-1) f pre).length) (fun pre=>rfV (Zjw (lv-1) f pre)) (fun _ _=>True)) _) (Own.from (fun s A B row hs hg hr=>⟨Zs hs.1 hg hr,Zs hs.2 hg hr⟩) _)) (ownFrom_below (Qc _) hlo))
  (fun _ _ _ _ _ hs _ _=>hs)
  ⟨⟨⟨_,bx,Qak _ _ _ _,trivial⟩,b0,b3⟩,hB0⟩
  (fun x a' W=>∃ g,a'={ tmps:=#[.agg #[.int .i64 lv,.slice A m c],.pointer (some ⟨w.heap.size,0,none⟩),.slice none 0 0,.pointer (some ⟨w.heap.size+1,0,none⟩),Qbf,.pointer (some ⟨g,0,none⟩),.pointer (some ⟨w.heap.size,1,none⟩),.slice A m c,
   .func (.func 255) #[] #[.pointer (some ⟨w.heap.size+1+1,0,none⟩)],.int .i64 (x:Int),.agg #[.int .u8 ((f x).1.1.toNat:Int),.int .u32 (f x).1.2.1,.int .u32 (f x).1.2.2,.int .i64 (f x).2.1,.slice (E x) (f x).2.2.length (ca x)],Qbf,Qbf,Qbf,Qbf,Qbf,Qbf,Qbf,Qbf,Qbf,Qbf,Qbf,Qbf,Qbf],defers:=[] } /\
   W.cell? ⟨g,3,none⟩=some (.int .i64 (f x).2.1))
  (fun x a'=>Own.from (fun s A B row hs hg hr=>by
   obtain⟨g,e,h1⟩:=hs
   exact⟨g,e,cell_kept h1 hg hr⟩) _) ?assign ?body ?done ?stop
 case assign =>
  rintro l pre x W K ⟨⟨⟨v,hv,hrow,_⟩,c0,c3⟩,hb⟩ hK;have c3':=c3.cell
  gi_wp2
  exact hK _ _ ((KeepsOthers.alloc _ _).from _) ⟨(Qb _ W).alloc hb.size _,(Lib.cell?_alloc_some _ c3').trans c3'.symm⟩
   ⟨⟨⟨v,hv.alloc _,hrow.alloc _,trivial⟩,(Ph W _ _ (Qa.1 c0).1).trans c0,c3.alloc _⟩,hb.alloc hb.size _⟩ ⟨W.heap.size,rfl,by go_simp⟩
 case body =>
  rintro l pre x a' W hl hloop ⟨⟨⟨v,hv,hrow,_⟩,c0,c3⟩,hb⟩ ⟨g,rfl,g3⟩ hlen;obtain⟨q,hq⟩:∃ q,(f x).2.1=q:=⟨_,rfl⟩
  rw[hq] at g3;have d0:W.cell? ⟨w.heap.size,0,none⟩=some (.int .i64 lv):=by rw[cell_of_row _ _ _ _ _ _ c0];rfl
  by_cases he:q=0
  ·have he':(q != 0)=false:=by simp[he]
   have hcz:Hid (Zjw (lv-1) f (pre++[x])=Zjw (lv-1) f pre):=Za (Zwr (by rw[hq,he]));replace hq:=Za hq;replace he:=Za he
   gi_wp2
   refine⟨KeepsFrom.refl _ _,⟨Qb _ _,rfl⟩,⟨⟨v,hv,?_,trivial⟩,c0,c3⟩,hb⟩;rw[hcz.out];exact hrow
  ·have he':(q != 0)=true:=by simpa using he
   have hcm:Hid (Zjw (lv-1) f (pre++[x])=Zjw (lv-1) f pre++[(q,lv-1)]):=Za (by rw[Zs5 (by rw[hq];exact he),hq]);have hle:w.heap.size<=w.heap.size+1:=by omega
   have hcell:=hv.cell
   have hkl:Hid ((Zjw (lv-1) f pre).length<=1000000):=Za (by
    have:=Zpq (lv-1) (pre.map f);rw[Qq] at this
    exact Ql this (by omega))
   obtain⟨k,hk⟩:∃ k,(Zjw (lv-1) f pre).length=k:=⟨_,rfl⟩
   rw[hk] at hrow hkl;replace hk:=Za hk;have hwr:IntKind.i64.wrap (lv-1)=lv-1:=by rw[IntKind.wrap_i64];omega
   replace hq:=Za hq;replace he:=Za he
   gi_wp2_with (gi_at_builtin;refine wpListIn_append_own _ rfl _ _ 308 rfl w.heap.size 191 i0 (.agg #[.int .i64 0,.int .i64 0]) 2 16 Tryz.underlying308 hi hz0 hz1 hz2 rfl (by decide) _ _ _ rfl (hrow.alloc _) ⟨W.heap.size,0,none⟩ 1 1 [.int .i64 q,.int .i64 (lv-1)] rfl rfl Zwu (by simp[Value.oneCell']) (by unfold maxLen;have:=hkl.out;omega) (by have:=hkl.out;omega) (by have:=hb.size;simp;omega) ?_;intro v' w1 hown' hgrow _;obtain⟨g',cap',rfl⟩:=ownsRow_succ hown';obtain⟨hv1,hv2,hr2,hk2,hb2⟩:=hv.appended (by decide) hrow hb.size hle hown' hgrow;have hc1:=hv1.cell;have hf1:=hv1.frozen)
   have e0:=Zct (v':=.slice (some ⟨g',0,none⟩) (k+1) cap') c0 (by decide) hrow hgrow (B:=w.heap.size+1) (by omega);have e3:Boxed _ (w.heap.size+1+1) 57 (.slice A m c):=Zct (v':=.slice (some ⟨g',0,none⟩) (k+1) cap') c3 (by decide) hrow hgrow (B:=w.heap.size+1) (by omega);refine⟨hk2.from _,⟨hb2,e3.cell.trans c3.cell.symm⟩,⟨⟨_,hv2,?_,trivial⟩,e0,e3⟩,hb.trans hb2⟩;rw[hcm.out,Qg,hk.out,Zoh];exact hr2
 case done =>
  rintro D zs W hD rfl ⟨⟨⟨v,hv,hrow,_⟩,c0,c3⟩,hb⟩ hK;have hcell:=hv.cell;rw[hcol.out,Qa6] at hrow
  gi_wp2
  refine⟨by simp,.inl ⟨_,_,rfl,run_takeDeferred hK,?_⟩⟩;have hrow':=ownsRow_putObj hrow (.deferred none) hK rfl;refine⟨_,results_tmp rfl _ _ _,v,rfl,hrow',hb.trans (belowK_b hlo _ D _ _ hD hK rfl rfl)⟩
 case stop =>
  rintro D c pre W _ _ h _;exact h.elim}
theorem Zzk (v:Qba) (nd:Nd) (h0:0<=nd.1) (h6:nd.1<6) (hl5:nd.2.length<=5) (w:Qa9) (h:Nod (Old w) w v nd) :
  Qbg Tryz.prog 226 #[v] w fun e W'=>∃ u,e=.returned u/\W'.ownsRow w.heap.size 191 2 u (Zs0 nd).length (rfV (Zs0 nd).reverse)/\Qbi w.heap.size w W' :=
 callsIn_wide.1 (Z1x Fence.wide 3 trivial trivial trivial rfl (Qc _) v nd h0 h6 hl5 w h)
theorem Zui {w w':Qa9}{B base g n c:Nat}{e:Qbc}{size:Nat}{xs:List Qba}(h:w.ownsRow base e size (.slice (some ⟨g,0,none⟩) n c) n xs) (hb:Qbi B w w') (hg:g<B):w'.ownsRow base e size (.slice (some ⟨g,0,none⟩) n c) n xs:=by
 refine⟨h.1,h.2.imp id ?_⟩;rintro⟨q,cap,cur,e1,h1,h2,h3⟩;have hq:g=q:=by
  simp only[Value.slice.injEq,Option.some.injEq,Addr.mk.injEq,and_true,true_and] at e1;exact e1.1
 exact⟨q,cap,cur,e1,h1,(hb.block q (by omega)).trans h2,h3⟩
theorem Z3s {w:Qa9}{base g n c:Nat}{e:Qbc}{size:Nat}{xs ys:List Qba}(h:w.ownsRow base e size (.slice (some ⟨g,0,none⟩) (n+1) c) (n+1) (xs++ys)) (hx:xs.length=n*size):w.ownsRow base e size (.slice (some ⟨g,0,none⟩) n c) n xs:=by{
 refine⟨hx,.inr ?_⟩;rcases h.2 with ⟨e1,_⟩ | ⟨q,cap,cur,e1,h1,h2,h3,h4,h5,h6⟩
 ·simp at e1
 ·simp only[Value.slice.injEq,Option.some.injEq,Addr.mk.injEq,and_true,true_and] at e1
  obtain⟨rfl,rfl⟩:=e1;refine⟨g,c,cur,rfl,h1,h2,by omega,h4,h5,?_⟩;have:(cur.toList.take ((n+1)*size)).take (n*size)=(xs++ys).take (n*size):=by rw[h6]
  rw[Pd,Q0 (Pr _ (by omega))] at this;rw[this,<- hx];exact List.take_left}
theorem Z5a {w:Qa9}{base base' n m:Nat}{ty:Qbc}{v u:Qba}{a b:List Rf}(hown:w.ownsRow base 191 2 v n (rfV a)) (hu:w.ownsRow base' 191 2 u m (rfV b)) (h:n+m<=1000000) (hbase:base<=w.heap.size) :
  ∃ v' w',(Pt #[308,308] ty #[v,u]).run Tryz.prog w=.ok v' w'/\w'.ownsRow base 191 2 v' (n+m) (rfV (a++b))/\w.grownBy w' v.ownBlock/\Qbi base w w':=by{
 obtain⟨i0,hi,hz0,hz1,hz2⟩:=info_parts Zpi;obtain⟨A,c,rfl,_,_,ho,_⟩:=Yo hu;have hcs:=fun g=>hu.cells (g:=g)
 rw[Zoh];refine Zt1 base _ ty 191 i0 (.agg #[.int .i64 0,.int .i64 0]) 2 16 Tryz.underlying308 hi hz0 hz1 hz2 rfl (by decide) v n (rfV a) hown A m c (rfV b) hu.1 (fun j x hj=> ?_) (Z1q b) (by unfold maxLen;omega) (by omega) hbase;rcases hu.2 with ⟨e,rfl⟩ | ⟨g,cap,cur,e,_⟩
 ·have:=hu.1
  rw[Nat.zero_mul] at this;rw[List.eq_nil_of_length_eq_zero this] at hj;simp at hj
 ·cases e
  exact⟨_,rfl,hcs _ rfl j x hj⟩}
theorem Z3o (l:List Rf):l=[]\/∃ a x,l=a++[x]:=by
 rcases List.eq_nil_or_concat l with h | ⟨a,x,h⟩
 ·exact .inl h
 ·exact .inr ⟨a,x,by rw[h,List.concat_eq_append]⟩
def msr (w:Qa9) (g:Nat):Nat:=((List.range 256).map fun j=>match w.cell? ⟨g,j,none⟩ with
 | some (.int _ n)=>n.toNat
 | _=>0).sum
theorem Zkd {w:Qa9}{base g c:Nat}{T:List UInt8}(h:w.ownsRow base 5 1 (.slice (some ⟨g,0,none⟩) 256 c) 256 (u8s T)):msr w g=Znu T:=by{
 have hl:T.length=256:=Zel h;unfold msr Znu
 congr 1
 refine Qa4 (by simp[hl]) fun i h1 h2=> ?_
 have hi:i<256:=by simpa using h1
 rw[Qae,Qae,Qa5];rw[Zdt h hi];show ((T[i]?.getD 0).toNat:Int).toNat=_;rw[Qe (by omega)];rfl}
def LwP (s:Rm) (x:Rf) (t0:List UInt8) (g c lo:Nat) (w w':Qa9) (e:Qbh):Prop:=∃ q:Int,e=.returned (.int .i64 q)/\w.grownBy w' (some g) /\
 ((wkF s.1 x.2 t0 x.1.toNat=none/\q=8)\/(∃ t,wkF s.1 x.2 t0 x.1.toNat=some t/\q=0/\w'.ownsRow lo 5 1 (.slice (some ⟨g,0,none⟩) 256 c) 256 (u8s t)))
theorem Z4k (w:Qa9) (a b c d e f:Qba):∃ w1,(w.alloc (.cells #[a,b,c,d] 29)).alloc (.cells #[e,f] 191)=w1 /\
  w1.heap[w.heap.size]? = some (.cells #[a,b,c,d] 29 (0,0))/\w1.heap[w.heap.size+1]? = some (.cells #[e,f] 191 (0,0))/\w1.heap.size=w.heap.size+2/\Qbi w.heap.size w w1:=by
 refine⟨_,rfl,Yw (Qbe _ _),?_,by simp,((Qb _ w).alloc (Qc _) _).alloc (by simp) _⟩;have:=Qbe (w.alloc (.cells #[a,b,c,d] 29)) (.cells #[e,f] 191)
 rwa [Qm] at this
def LwR (s:Rm) (t0:List UInt8) (R:Option (List UInt8)) (g c lo:Nat) (w1:Qa9) (v:Qba) (wr:Qa9):Prop:=∃ (st:List Rf) (T:List UInt8) (A:Option Qbb) (sc:Nat),v=.slice A st.length sc /\
 wr.ownsRow w1.heap.size 191 2 (.slice A st.length sc) st.length (rfV st)/\wr.ownsRow lo 5 1 (.slice (some ⟨g,0,none⟩) 256 c) 256 (u8s T)/\w1.grownBy wr (some g) /\
 runT s.1 T st.reverse=R/\LeT T t0/\(∀ x∈st,Rfd x)/\st.length+5*Znu T<=400000
theorem Zue (g c lo:Nat) (t0:List UInt8) (v:Qba) (s:Rm) (hm:Xz s=true) (a0 lv0:Int) (hx0:Rfd (a0,lv0)) (hle0:LeT t0 s.2.1) (w:Qa9) (hown:w.ownsRow lo 5 1 (.slice (some ⟨g,0,none⟩) 256 c) 256 (u8s t0)) (h:Sto (Off g w) w v s) :
  Qbg Tryz.prog 180 #[.slice (some ⟨g,0,none⟩) 256 c,v,.agg #[.int .i64 a0,.int .i64 lv0]] w fun e w'=>LwP s (a0,lv0) t0 g c lo w w' e:=by{
 obtain⟨A,ca,B,cb,N,cn,L,cl,rfl,_⟩:=id h.open;have hl0:t0.length=256:=Zel hown;have hg0:g<w.heap.size:=((hown.lt g rfl).2)
 obtain⟨w1,hw1,f1,f2,hsz,hB⟩:=Z4k w (.slice A s.1.1.length ca) (.slice B s.1.2.length cb) (.slice N s.2.1.length cn) (.slice L s.2.2.length cl) (.int .i64 a0) (.int .i64 lv0);have H:=Za (show Sto (Off g w1) w1 _ s from h.map fun _ _ hp hc=>Zmz hB hp hc);have HO:=Za (Zy hown hB);have GB:=Za (Zoy (row:=some g) hB);obtain⟨k0,k1,k2,k3,_,kg⟩:=Ze f1;obtain⟨j0,j1,_,jg⟩:=Zi f2;have f1h:=Za f1;obtain⟨R,hR⟩:∃ R,wkF s.1 lv0 t0 a0.toNat=R:=⟨_,rfl⟩
 have hgs:Hid (g<w.heap.size):=Za hg0;have hsz':=Za hsz;replace hl0:=Za hl0;replace hle0:=Za hle0
 have hL1:Hid (LwR s t0 R g c lo w1 (.slice (some ⟨w1.heap.size,0,none⟩) 1 1) (w1.alloc (.cells #[.int .i64 a0,.int .i64 lv0] 191))):=Za (by
  refine⟨[(a0,lv0)],t0,some ⟨w1.heap.size,0,none⟩,1,rfl,?_,Zy HO.out ((Qb _ _).alloc (Qc _) _),Zoy ((Qb _ _).alloc (Qc _) _),?_,LeT.refl _,?_,?_⟩
  ·exact World.ownsRow_lit w1 #[.int .i64 a0,.int .i64 lv0] 1 (Qc _) (by unfold maxLen;omega) rfl
  ·show (wkF s.1 lv0 t0 a0.toNat).bind _=R
   rw[hR];cases R <;> rfl
  ·intro x hx
   rw[Qx] at hx;rw[hx];exact hx0
  ·have:=Zxe t0
   rw[hl0.out] at this;show 1+5*Znu t0<=400000
   omega)
 replace hR:=Za hR;clear hown h f1 f2 hB hg0 hsz hx0
 go_enter Tryz.func180,Tryz.ntmps180
 go_upto_region 1 with fail
 clear hw1
 go_upto_region 2 with fail
 obtain⟨W2,hW2⟩:∃ W2,w1.alloc (.cells #[.int .i64 a0,.int .i64 lv0] 191)=W2:=⟨_,rfl⟩
 rw[hW2] at hL1 ⊢;clear hW2 k0 k1 k2 k3 j0 j1 jg
 go_loopw [7] (fun vs wr=>LwR s t0 R g c lo w1 vs wr) (fun _ wr=>msr wr g)
 case atStart=>exact hL1.out
 case round =>
  obtain⟨st,T,E,sc,rfl,hst,hown,hgr,hrun,hle,hrf,hbd⟩:=hrel;have GF:=Za (Xb GB.out hgr);rcases Z3o st with rfl | ⟨st',x,rfl⟩
  ·have hfin:Hid (R=some T):=Za hrun.symm
   have HO2:=Za hown;clear hst hown hgr hrun hle hrf hbd
   go_wp2_with fail
   go_ret;exact⟨0,rfl,GF.out,.inr ⟨T,hR.out.trans hfin.out,rfl,HO2.out⟩⟩
  obtain⟨a,lv⟩:=x;have hxd:=hrf (a,lv) (by simp);obtain⟨k,rfl⟩:∃ k:Nat,a=k:=⟨a.toNat,by have:=hxd.1;dsimp only at this;omega⟩
  obtain⟨h8,h256,hm1,h6⟩:=hxd
  dsimp only at h8 h256 hm1 h6
  have hrf':Hid (∀ x∈st',Rfd x):=Za fun x hx=>hrf x (by simp[hx])
  rw[Qa7] at hrun;replace hrun:(wkF s.1 lv T ((k:Int)).toNat).bind (fun u=>runT s.1 u st'.reverse)=R:=hrun;rw[show ((k:Int)).toNat=k by omega] at hrun;rw[Zoh,Qg] at hst;rw[Qg] at hbd;obtain⟨n,hn⟩:∃ n,st'.length=n:=⟨_,rfl⟩
  have e1:(st'++[((k:Int),lv)]).length=n+1:=by rw[Qg,hn];rfl
  rw[e1];replace hst:wr.ownsRow w1.heap.size 191 2 (.slice E (n+1) sc) (n+1) (rfV st'++[.int .i64 (k:Int),.int .i64 lv]):=by
   rw[hn] at hst;exact hst
  rw[hn] at hbd;replace hbd:n+1+5*Znu T<=400000:=hbd;obtain⟨gs,cap,e2⟩:=ownsRow_succ hst;cases e2;have hrl:(rfV st').length=n*2:=by rw[Z11,hn]
  have hc0:wr.cell? ⟨gs,n*2,none⟩=some (.int .i64 (k:Int)):=by
   rw[hst.cellAt (n*2) (by omega),Qa8 (by omega),hrl,Nat.sub_self];rfl
  have hc1:wr.cell? ⟨gs,n*2+1,none⟩=some (.int .i64 lv):=by
   rw[hst.cellAt (n*2+1) (by omega),Qa8 (by omega),hrl,show n*2+1-n*2=1 by omega];rfl
  have hpop:=Z3s hst hrl
  have hsc0:Hid (n+1<=sc):=Za (by
   obtain⟨_,_,e,hs,_⟩:=Yo hst;cases e
   exact hs)
  clear hst e1 hrf;obtain⟨w5,hw5,b5,hs5,hB5⟩:=Yd wr (.int .i64 (k:Int)) (.int .i64 lv) 191;have hown5:=Zy hown hB5;have hpop5:=Zy hpop hB5;have hgr5:=Vu hgr (hB5.mono hgr.size);have hms:Hid (msr wr g=Znu T):=Za (Zkd hown);obtain⟨q0,q1,_,qg⟩:=Zi b5;have hrs:Hid (w1.heap.size<=wr.heap.size):=Za hgr.size;clear hown hpop hgr hB5;have n1:IntKind.i64.wrap ((n:Int)+1-1)=n:=by rw[IntKind.wrap_i64];omega
  go_upto_region 4 with fail
  clear hw5 hc0 hc1;replace hs5:=Za hs5;have hsc:n+1<=sc:=by
   have:=hsc0.out;exact this
  have hs0:(0:Int)<=(n:Int):=by omega
  have hs2:¬ sc=0:=by omega
  have hs3:¬ 0=sc:=by omega
  have hs4:0<sc:=by omega
  have hs5':n<=sc:=by omega
  clear hsc;have hs1:(n:Int)<=(sc:Int):=by omega
  clear hrl
  go_upto_region 5 with fail
  clear hs0 hs1 hs2 hs3 hs4 hs5' n1
  have hle0':Hid (T[k]?.getD 0≠0->asE s (k:Int)=0):=Za fun hz=>Zh1 hm (by omega) (by omega) (fun e=>hz (X8.1 (by
   have h1:=(hle.trans hle0.out).le k;rw[e] at h1
   exact Nat.le_zero.1 h1)))
  have hways:=Za (fun hz=>Z35 (d:=s.1) (lv:=lv) (t:=T) (a:=k) hm1 h6 hz);have hnone:=Za (fun hz=>Z2k (d:=s.1) (lv:=lv) (t:=T) (a:=k) hz);have hdn:=Za (fun hz=>Zt2 (t:=T) (a:=k) hz);have hTl:Hid (T.length=256):=Za (Zel hown5);have hcell:=Zdt hown5 (j:=k) (by omega);have hfr:w5.frozen? ⟨g,k,none⟩=false:=hown5.frozenAt k;have k256:k<256:=by omega
  obtain⟨y,hy⟩:∃ y,T[k]?.getD 0=y:=⟨_,rfl⟩
  rw[hy] at hcell hle0' hways hnone hdn;replace hy:=Za hy;have hgr5':=Za hgr5;replace hrun:=Za hrun;replace hle:=Za hle;replace hbd:=Za hbd;replace hn:=Za hn;clear hgr5;by_cases hy0:y=0
  ·have t1:=Xq (y:=0) (q:=0) rfl hy0
   have hN:Hid (R=none):=Za (by rw[<- hrun.out,hnone.out hy0];rfl);have GF5:=Za (Xb GB.out hgr5'.out);clear hown5 hpop5 b5 hy0
   go_wp2_with fail
   go_ret;exact⟨8,rfl,GF5.out,.inl ⟨hR.out.trans hN.out,rfl⟩⟩
  have t1:=Y8 (y:=0) (q:=0) rfl hy0;obtain⟨hu1,hu2,hu3⟩:=Zub hy0;have hset:=Zn6 hown5 k (y-1);rw[<- hu1] at hset;have hg6:=Zp (Ye w5 (some g)) (p:=⟨g,k,none⟩) rfl (.int .u8 ((y.toNat:Int)-1))
  have hpop6:=hpop5.kept hg6 (.inr (fun e=>by
   have:=(hpop5.lt gs rfl).1;have h0:=hgs.out;have h1:=hsz'.out;have e':gs=g:=by simpa [Value.ownBlock] using e
   omega))
  have hgr6:=Zp hgr5'.out (p:=⟨g,k,none⟩) rfl (.int .u8 ((y.toNat:Int)-1))
  have b6:=(hg6.block wr.heap.size qg (fun e=>by
   have:=hgr5'.out.size;have h0:=hgs.out;have h1:=hsz'.out;have h2:=hgr5'.out.size;have h4:wr.heap.size=g:=by simpa using e
   have h5:=hrs.out
   omega)).trans b5
  obtain⟨w6,hw6⟩:∃ w6,w5.setCell ⟨g,k,none⟩ (.int .u8 ((y.toNat:Int)-1))=w6:=⟨_,rfl⟩
  rw[hw6] at hset hg6 hpop6 hgr6 b6;clear hown5 hpop5 b5;replace hset:=Za hset;replace hpop6:=Za hpop6;replace hgr6:=Za hgr6;replace b6:=Za b6;replace hu1:=Za hu1;clear hg6
  go_upto_region 8 with fail
  clear hw6 hcell hfr q0 q1;have c6:=Zdt hset.out (j:=k) k256;rw[Zc5 (by rw[hTl.out];exact k256)] at c6;obtain⟨q0,q1,_,_⟩:=Zi b6.out
  have hF1:=(hgr6.out.block w.heap.size kg (by
   have h0:=hgs.out;simp
   omega)).trans f1h.out
  obtain⟨k0,k1,k2,k3,_,_⟩:=Ze hF1;clear hF1;have hS6:Hid (Sto (Old w6) w6 (.agg #[.slice A s.1.1.length ca,.slice B s.1.2.length cb,.slice N s.2.1.length cn,.slice L s.2.2.length cl]) s):=Za ((H.out.map fun _ _ hp hc=>Zgz hgr6.out hp hc).map fun _ _ hp hc=>Zjf hp hc)
  have hms6:Hid (msr w6 g<msr wr g):=Za (by
   rw[Zkd hset.out,hms.out];have:=hdn.out hy0
   omega)
  have hle6:Hid (LeT (T.set k (y-1)) t0):=Za ((Zcp (by rw[dnO,hy.out,if_neg hy0])).2.2.1.trans hle.out);have hal6:Hid (Znu (T.set k (y-1))+1=Znu T):=Za (hdn.out hy0);have hT6:Hid (∀ t,wkF s.1 lv T k=t->t.bind (fun u=>runT s.1 u st'.reverse)=R):=Za fun t ht=>by rw[<- ht];exact hrun.out
  obtain⟨T',hT'⟩:∃ T',T.set k (y-1)=T':=⟨_,rfl⟩
  obtain⟨z,hz⟩:∃ z,y-1=z:=⟨_,rfl⟩
  have hw2:=hways.out hy0;rw[hT',hz] at hw2;rw[hz] at c6;rw[hT'] at hset hle6 hal6;clear hT' hways hnone hdn;rcases hw2 with ⟨hc,hF⟩ | ⟨hz0,hl,hnr,hF⟩ | ⟨hz0,hl,hr,hF⟩
  ·have hrel6:Hid (LwR s t0 R g c lo w1 (.slice (some ⟨gs,0,none⟩) n sc) w6):=Za ⟨st',T',some ⟨gs,0,none⟩,sc,by rw[hn.out],by rw[hn.out];exact hpop6.out,hset.out,hgr6.out,hT6.out _ hF,hle6.out,hrf'.out,by have:=hal6.out;have:=hbd.out;have:=hn.out;omega⟩
   replace hz:=Za hz;replace hF:=Za hF;clear hy0 t1;by_cases hz0:z=0
   ·have hlv:=hc.resolve_left (fun h=>h hz0)
    subst hz0;subst hlv;replace c6:w6.cell? ⟨g,k,none⟩=some (.int .u8 0):=c6;clear hc
    go_wp2_with fail
    go_roundw
    case rel=>exact hrel6.out
    case measure=>exact hms6.out
   ·have hz1:0<z.toNat:=by
     have:z.toNat≠0:=fun e=>hz0 (X8.1 e);omega
    clear hc hz0
    go_wp2_with fail
    go_roundw
    case rel=>exact hrel6.out
    case measure=>exact hms6.out
  ·have hN:Hid (R=none):=Za (hT6.out _ hF).symm
   have has:=Za (hle0'.out hy0);have c7:(lv == -1)=false:=by simpa using hl
   subst hz0;replace c6:w6.cell? ⟨g,k,none⟩=some (.int .u8 0):=c6;replace hz:=Za hz;replace hF:=Za hF;replace hnr:=Za hnr;clear hy0 t1 hl
   go_wp2_with fail
   with_reducible refine(Zk9 _ s k lv has.out _ hS6.out).mono ?_
   rintro e w7 ⟨u,q,nd,rfl,hq,hu,hb7⟩;rcases hq with ⟨hr,_⟩ | ⟨_,rfl,_⟩
   ·exact absurd hr hnr.out
   obtain⟨P,pc,rfl,_⟩:=id hu.open;obtain⟨pl,hpl⟩:∃ pl,nd.2.length=pl:=⟨_,rfl⟩
   obtain⟨pv,hpv⟩:∃ pv,nd.1=pv:=⟨_,rfl⟩
   rw[hpl,hpv];obtain⟨w8,hw8,b8,hs8,hB8⟩:=Yd w7 (.int .i64 pv) (.slice P pl pc) 59;have G8:=Za (Xb GB.out (Vu hgr6.out ((hb7.trans (hB8.mono hb7.size)).mono hgr6.out.size)));replace hs8:=Za hs8;clear hu hpl hpv hb7 hB8 b8 q0 q1 c6 k0 k1 k2 k3
   go_upto_region 10 with fail
   clear hw8
   go_wp2_with fail
   go_ret;exact⟨8,rfl,G8.out,.inl ⟨hR.out.trans hN.out,rfl⟩⟩
  ·have has:=Za (hle0'.out hy0)
   have c7:(lv == -1)=false:=by simpa using hl
   subst hz0;replace c6:w6.cell? ⟨g,k,none⟩=some (.int .u8 0):=c6;replace hz:=Za hz;replace hF:=Za hF;replace hr:=Za hr;clear hy0 t1 hl
   go_wp2_with fail
   with_reducible refine(Zk9 _ s k lv has.out _ hS6.out).mono ?_
   rintro e w7 ⟨u,q,nd,rfl,hq,hu,hb7⟩;rcases hq with ⟨_,rfl,hnd⟩ | ⟨hnr,_⟩
   case inr=>exact absurd hr.out hnr
   obtain⟨P,pc,rfl,_⟩:=id hu.open;obtain⟨pl,hpl⟩:∃ pl,nd.2.length=pl:=⟨_,rfl⟩
   obtain⟨pv,hpv⟩:∃ pv,nd.1=pv:=⟨_,rfl⟩
   rw[hpl,hpv] at hu ⊢;obtain⟨w8,hw8,b8,hs8,hB8⟩:=Yd w7 (.int .i64 pv) (.slice P pl pc) 59;have G8:=Za (Vu hgr6.out ((hb7.trans (hB8.mono hb7.size)).mono hgr6.out.size));have N8:=Za (hu.drop.below hB8);have own8:=Za (Zy (Zy hset.out hb7) hB8);have pop8:=Za (Zy (Zy hpop6.out hb7) hB8);have hmn:=(Zeb hr.out.1).1;rw[<- hnd] at hF hmn;obtain⟨⟨s1,s2,s3,_⟩,_⟩:=Z0 hmn;have hrfs:=Za (Zag hmn);replace hs8:=Za hs8;obtain⟨q0,q1,_,_⟩:=Zi b8;have b8h:=Za b8;clear hu hb7 hB8 b8 c6 k0 k1 k2 k3
   go_upto_region 10 with fail
   clear hw8
   go_wp2_with fail
   with_reducible refine(Zzk (.agg #[.int .i64 pv,.slice P pl pc]) nd s1 s2 s3 _ N8.out).mono ?_
   rintro e w9 ⟨u9,rfl,hu9,hb9⟩;obtain⟨m,hm9⟩:∃ m,(Zs0 nd).length=m:=⟨_,rfl⟩
   have hm5:m<=5:=by
    rw[<- hm9];exact Ql (Zpq _ _) s3
   rw[hm9] at hu9;have own9:=Zy own8.out hb9;have pop9:=Zy pop8.out hb9;have G9:=Vu G8.out (hb9.mono G8.out.size);obtain⟨v',w10,hr10,ho10,_,hb10⟩:=Z5a (ty:=308) pop9 hu9 (by have:=hbd.out;omega) G9.size;obtain⟨A10,c10,rfl,_⟩:=Yo ho10;have H10:=Za hr10;have hl10:(st'++(Zs0 nd).reverse).length=n+m:=by rw[Qg,Qa6,hn.out,hm9]
   have own10:=Zui own9 hb10 (by have h0:=hgs.out;have h1:=hsz'.out;omega)
   have hrel10:Hid (LwR s t0 R g c lo w1 (.slice A10 (n+m) c10) w10):=Za ⟨st'++(Zs0 nd).reverse,T',A10,c10,by rw[hl10],by rw[hl10];exact ho10,own10,Vu G9 hb10,(by
    rw[Qa7,List.reverse_reverse,Zqj]
    exact hT6.out _ hF.out),hle6.out,fun x hx=>(Qs.1 hx).elim (hrf'.out x) (fun h=>Znb (by omega) (by omega) hrfs.out x (List.mem_reverse.1 h)),(by rw[hl10];have:=hal6.out;have:=hbd.out;omega)⟩
   have hms10:Hid (msr w10 g<msr wr g):=Za (by
    have:=hms6.out
    rwa [Zkd hset.out,<- Zkd own10] at this)
   clear hr10 ho10 hb10 own9 pop9 G9 hu9 hb9 own10 hl10 hm9 hm5
   go_wp2_with (at_builtin;refine Zu rfl _ _ _ rfl rfl rfl H10.out ?_;clear H10)
   go_roundw
   case rel=>exact hrel10.out
   case measure=>exact hms10.out}
def gdE (s:Rm) (lv a:Int):Int:=if asE s a=0 then (match wkF s.1 lv s.2.1 a.toNat with | some _=>0 | none=>8) else asE s a
def gdV (s:Rm) (lv a:Int):Rm:=if asE s a=0 then (match wkF s.1 lv s.2.1 a.toNat with | some t=>(s.1,t,s.2.2) | none=>Zn) else Zn
theorem Z6f {s:Rm}{lv a:Int}(h:asE s a≠0):gdE s lv a=asE s a/\gdV s lv a=Zn:=⟨by rw[gdE,if_neg h],by rw[gdV,if_neg h]⟩
theorem Z5r {s:Rm}{lv a:Int}(h:asE s a=0) (h':wkF s.1 lv s.2.1 a.toNat=none):gdE s lv a=8/\gdV s lv a=Zn:=⟨by rw[gdE,if_pos h,h'],by rw[gdV,if_pos h,h']⟩
theorem Z58 {s:Rm}{lv a:Int}{t:List UInt8}(h:asE s a=0) (h':wkF s.1 lv s.2.1 a.toNat=some t):gdE s lv a=0/\gdV s lv a=(s.1,t,s.2.2):=⟨by rw[gdE,if_pos h,h'],by rw[gdV,if_pos h,h']⟩
theorem Z5k (d:Dk) (t:List UInt8) (a:Nat):wkF d 6 t a=lfO d t a:=by rw[wkF,if_pos rfl]
theorem Z46 (d:Dk) (t:List UInt8) (a:Nat):wkF d (-1) t a=dnO t a:=by
 rw[wkF,if_neg (by decide)];rfl
theorem Z0s {s:Rm}{n:Int}(h:asE s n=0):∃ k:Nat,n=k/\Xz s=true/\8<=k/\k<256/\s.2.1[k]?.getD 0≠0:=by
 obtain⟨k,e,hm,h8,h256,_,_,_,_,hx⟩:=Vh h;exact⟨k,e,hm,h8,h256,hx⟩
theorem Zfc (s:Rm) (a:Int):gdE s 6 a=lvE s a/\gdV s 6 a=lvV s a:=by
 unfold gdE gdV lvE lvV;rw[Z5k];exact⟨rfl,rfl⟩
theorem Zfi (s:Rm) (a:Int):gdE s (-1) a=asE s a/\gdV s (-1) a=loV s a:=by{
 unfold gdE gdV loV;rw[Z46];by_cases h:asE s a=0
 ·obtain⟨k,rfl,_,_,_,hx⟩:=Z0s h
  rw[show ((k:Int)).toNat=k by omega,Zeo hx];exact⟨by rw[if_pos h,h],rfl⟩
 ·exact⟨by rw[if_neg h],by rw[if_neg h,if_neg h]⟩}
theorem Z56 {d:Dk}{lv:Int}{t u:List UInt8}{a:Nat}(h:wkF d lv t a=some u):LeT u t:=by
 unfold wkF at h;split at h
 ·exact(Z2t h).2.1
 ·exact Zwv d _ t a u h
theorem Z5m (w:Qa9) (a b c d e f:Qba):∃ w1,((w.alloc (.cells #[a,b,c,d] 29)).alloc (.cells #[e,f] 191)).alloc (.cells #[.slice none 0 0,.slice none 0 0,.slice none 0 0,.slice none 0 0] 29)=w1 /\
  w1.heap[w.heap.size]? = some (.cells #[a,b,c,d] 29 (0,0))/\w1.heap[w.heap.size+1]? = some (.cells #[e,f] 191 (0,0))/\w1.heap[w.heap.size+2]? = some (.cells #[.slice none 0 0,.slice none 0 0,.slice none 0 0,.slice none 0 0] 29 (0,0))/\w1.heap.size=w.heap.size+3/\Qbi w.heap.size w w1:=by{
 refine⟨_,rfl,Yw (Yw (Qbe _ _)),Yw ?_,?_,by simp,(((Qb _ w).alloc (Qc _) _).alloc (by simp) _).alloc (by simp;omega) _⟩
 ·have:=Qbe (w.alloc (.cells #[a,b,c,d] 29)) (.cells #[e,f] 191)
  rwa [Qm] at this
 ·have:=Qbe ((w.alloc (.cells #[a,b,c,d] 29)).alloc (.cells #[e,f] 191)) (.cells #[.slice none 0 0,.slice none 0 0,.slice none 0 0,.slice none 0 0] 29)
  rwa [Qm,Qm] at this}
theorem Ziu (v:Qba) (s:Rm) (a lv:Int) (hlv : -1<=lv/\lv<=6) (w:Qa9) (h:Sto (Old w) w v s) :
  Qbg Tryz.prog 119 #[v,.agg #[.int .i64 a,.int .i64 lv]] w fun e w'=>∃ u,e=.returned (.tuple #[u,.int .i64 (gdE s lv a)])/\Sto (New w.heap.size w') w' u (gdV s lv a)/\Qbi w.heap.size w w':=by{
 obtain⟨A,ca,B,cb,N,cn,L,cl,rfl,_⟩:=id h.open;obtain⟨w1,hw1,f1,f2,f3,hsz,hB⟩:=Z5m w (.slice A s.1.1.length ca) (.slice B s.1.2.length cb) (.slice N s.2.1.length cn) (.slice L s.2.2.length cl) (.int .i64 a) (.int .i64 lv);have H:=Za (h.below hB);clear h;obtain⟨k0,k1,k2,k3,_,kg⟩:=Ze f1;obtain⟨j0,j1,_,jg⟩:=Zi f2;replace hsz:=Za hsz;replace f3:=Za f3;by_cases ha:asE s a=0
 case neg =>
  obtain⟨hE,hV⟩:=Z6f (lv:=lv) ha;obtain⟨q,hq⟩:∃ q,asE s a=q:=⟨_,rfl⟩
  rw[hq] at ha hE;have hq1:(q != 0)=true:=by simpa using ha
  replace hq:=Za hq;replace hE:=Za hE;replace hV:=Za hV;clear ha
  go_enter Tryz.func119,Tryz.ntmps119
  go_upto_region 1 with fail
  clear hw1
  go_wp2_with fail
  with_reducible refine(Zmi _ s a _ H.out).mono ?_
  rintro e w2 ⟨rfl,hb2⟩;rw[hq.out];have F2:=(hb2.block (w.heap.size+2) (by rw[hsz.out];omega)).trans f3.out;replace hb2:=Za (hB.trans (hb2.mono hB.size));clear k0 k1 k2 k3 kg j0 j1 jg f1 f2 hB;obtain⟨k0,k1,k2,k3,k4,k5⟩:=Ze F2;obtain⟨W9,hW9,g9,gr9,gs9⟩:=Zt (a':=.slice none 0 0) (b':=.slice none 0 0) (c':=.slice none 0 0) (d':=.slice none 0 0) F2;obtain⟨n0,n1,n2,n3,_,_⟩:=Ze g9;have hB9:=Za ((hb2).out.grown gr9 (hb2).out.size (fun q e=>by cases e;omega));replace g9:=Za g9;replace F2:=Za F2;clear gr9 gs9
  go_wp2_with fail
  refine Qbd (v:=.tuple #[.agg #[.slice none 0 0,.slice none 0 0,.slice none 0 0,.slice none 0 0],.int .i64 q]) (by simp[results,Tryz.results119,go_sem,n0,n1,n2,n3]) rfl ?_;rw[hE.out,hV.out];exact⟨_,rfl,Y1 _ _,hB9.out⟩
 obtain⟨k,hk,hm,h8,h256,hx⟩:=Z0s ha;subst hk;have hax:=Za ha;have hlen:=Za (Yi (Yq hm).2.1);obtain⟨R,hR⟩:∃ R,wkF s.1 lv s.2.1 ((k:Int)).toNat=R:=⟨_,rfl⟩
 have hrd:Hid (Rfd ((k:Int),lv)):=Za ⟨by show (8:Int)<=k;omega,by show (k:Int)<256;omega,hlv.1,hlv.2⟩;replace hR:=Za hR;replace hx:=Za hx;clear ha hlv h8 h256
 go_enter Tryz.func119,Tryz.ntmps119
 go_upto_region 1 with fail
 clear hw1
 go_wp2_with fail
 with_reducible refine(Zmi _ s (k:Int) _ H.out).mono ?_
 rintro e w2 ⟨rfl,hb2⟩;rw[hax.out];have F1:=(hb2.block w.heap.size kg).trans f1;have F2:=(hb2.block (w.heap.size+1) jg).trans f2;have F3:=Za ((hb2.block (w.heap.size+2) (by rw[hsz.out];omega)).trans f3.out);have H2:=Za (H.out.below hb2);have s2:Hid (w.heap.size+3<=w2.heap.size):=Za (by have:=hb2.size;have:=hsz.out;omega);have B2:=Za (hB.trans (hb2.mono hB.size));clear k0 k1 k2 k3 kg j0 j1 jg f1 f2 hb2 hB;obtain⟨k0,k1,k2,k3,_,kg⟩:=Ze F1;obtain⟨j0,j1,_,jg⟩:=Zi F2
 go_wp2_with fail
 obtain⟨_,_,e9,l1,m1,hby⟩:=Xs (B:=w2.heap.size) (fun _ h=>h) H2.out.parts.2.1;cases e9;with_reducible refine(Zdy N s.2.1.length cn s.2.1 (Za rfl) (by rw[hlen.out];omega) _ hby).mono ?_
 rintro e w3 ⟨u,rfl,hu3,hb3⟩;obtain⟨g,c2,rfl,hg1,hg2,hg3,hg4⟩:=Zjy hu3 (by rw[hlen.out];omega);rw[hlen.out] at hu3 ⊢;have G1:=(hb3.block w.heap.size kg).trans F1;have G2:=(hb3.block (w.heap.size+1) jg).trans F2;have G3:=Za ((hb3.block (w.heap.size+2) (by have:=s2.out;omega)).trans F3.out);have H3:=Za (show Sto (Off g w3) w3 _ s from H2.out.map fun _ _ hp hc=>Zks hb3 hg1 hp hc);have O3:=Za hu3;have B3:=Za (B2.out.trans (hb3.mono B2.out.size));have hgw:Hid (w.heap.size+3<=g):=Za (by have:=s2.out;omega);clear k0 k1 k2 k3 kg j0 j1 jg F1 F2 F3 hb3 B2 H2 hby l1 m1 hu3 hg1;obtain⟨k0,k1,k2,k3,_,kg⟩:=Ze G1;obtain⟨j0,j1,_,jg⟩:=Zi G2
 go_wp2_with fail
 with_reducible refine(Zue g c2 w2.heap.size s.2.1 _ s hm (k:Int) lv hrd.out (LeT.refl _) _ O3.out H3.out).mono ?_
 rintro e w4 ⟨q,rfl,hgr,hq⟩;have E1:=(hgr.block w.heap.size kg (by have:=hgw.out;simp;omega)).trans G1;have E3:=(hgr.block (w.heap.size+2) (by have:=G3.out;exact(Qa.1 this).1) (by have:=hgw.out;simp;omega)).trans G3.out;have B4:=Za (B3.out.grown hgr B3.out.size (fun q e=>by cases e;have:=hgw.out;omega));have H4:=Za (show Sto (Old w4) w4 _ s from (H3.out.map fun _ _ hp hc=>Zgz hgr hp hc).map fun _ _ hp hc=>Zjf hp hc);clear k0 k1 k2 k3 kg j0 j1 jg G1 G2 G3 B3 H3 O3 hgr;rcases hq with ⟨hN,rfl⟩ | ⟨t,hS,rfl,hown⟩
 ·obtain⟨hE,hV⟩:=Z5r hax.out hN
  replace hE:=Za hE;replace hV:=Za hV;replace hN:=Za hN;clear E1;obtain⟨k0,k1,k2,k3,k4,k5⟩:=Ze E3;obtain⟨W9,hW9,g9,gr9,gs9⟩:=Zt (a':=.slice none 0 0) (b':=.slice none 0 0) (c':=.slice none 0 0) (d':=.slice none 0 0) E3;obtain⟨n0,n1,n2,n3,_,_⟩:=Ze g9;have hB9:=Za ((B4).out.grown gr9 (B4).out.size (fun q e=>by cases e;omega));replace g9:=Za g9;replace E3:=Za E3;clear gr9 gs9
  go_wp2_with fail
  refine Qbd (v:=.tuple #[.agg #[.slice none 0 0,.slice none 0 0,.slice none 0 0,.slice none 0 0],.int .i64 8]) (by simp[results,Tryz.results119,go_sem,n0,n1,n2,n3]) rfl ?_;rw[hE.out,hV.out];exact⟨_,rfl,Y1 _ _,hB9.out⟩
 ·obtain⟨hE,hV⟩:=Z58 hax.out hS
  have hle:=Z56 hS;have htl:t.length=256:=hle.len.trans hlen.out;have hmS:Xz (s.1,t,s.2.2)=true:=Zet (Yq hm).1 (hle.may (Yq hm).2.1) (Yq hm).2.2;have hsm:=Za (Zsf hmS);have T4:Hid (Sto (Old w4) w4 (.agg #[.slice A s.1.1.length ca,.slice B s.1.2.length cb,.slice (some ⟨g,0,none⟩) 256 c2,.slice L s.2.2.length cl]) (s.1,t,s.2.2)):=Za (Sto.mk H4.out.parts.1 (Zf.drop (Zcw hown)) H4.out.parts.2.2);replace hE:=Za hE;replace hV:=Za hV;replace hS:=Za hS;obtain⟨k0,k1,k2,k3,_,kg⟩:=Ze E1;replace E3:=Za E3;clear hown hle
  go_wp2_with fail
  with_reducible refine(Zw3 _ (s.1,t,s.2.2) hsm.out _ T4.out).mono ?_
  rintro e w5 ⟨A5,a5,B5,b5,N5,n5,L5,l5,rfl,h5,hb5⟩;have F5:=(hb5.block (w.heap.size+2) (by have:=B4.out.size;have:=(Qa.1 E3.out).1;omega)).trans E3.out;have s5:Hid (w.heap.size+2<w4.heap.size):=Za (Qa.1 E3.out).1;obtain⟨o0,o1,o2,o3,_,_⟩:=Ze F5;obtain⟨W9,hW9,g9,gr9,gs9⟩:=Zt (a':=.slice A5 s.1.1.length a5) (b':=.slice B5 s.1.2.length b5) (c':=.slice N5 t.length n5) (d':=.slice L5 s.2.2.length l5) F5;obtain⟨n0,n1,n2,n3,_,_⟩:=Ze g9
  have hfin:=Za (show Sto (New w.heap.size W9) W9 (.agg #[.slice A5 s.1.1.length a5,.slice B5 s.1.2.length b5,.slice N5 t.length n5,.slice L5 s.2.2.length l5]) (s.1,t,s.2.2) from
   (h5.grown gr9 (fun q e=>by cases e;exact s5.out)).new B4.out.size (Qb _ _))
  have hB9:=Za ((B4.out.trans (hb5.mono B4.out.size)).grown gr9 (Ql B4.out.size hb5.size) (fun q e=>by cases e;omega));replace F5:=Za F5;replace g9:=Za g9;replace htl:=Za htl;clear gr9 gs9 h5 hb5 k0 k1 k2 k3 kg E1
  go_wp2_with fail
  refine Qbd (v:=.tuple #[.agg #[.slice A5 s.1.1.length a5,.slice B5 s.1.2.length b5,.slice N5 t.length n5,.slice L5 s.2.2.length l5],.int .i64 0]) (by simp[results,Tryz.results119,go_sem,n0,n1,n2,n3]) rfl ?_;rw[hE.out,hV.out];exact⟨_,rfl,hfin.out,hB9.out⟩}
theorem Zr8 (v:Qba) (s:Rm) (n:Int) (w:Qa9) (h:Sto (Old w) w v s) :
  Qbg Tryz.prog 72 #[v,.int .i64 n] w fun e w'=>∃ u,e=.returned (.tuple #[u,.int .i64 (lvE s n)])/\Sto (New w.heap.size w') w' u (lvV s n)/\Qbi w.heap.size w w':=by{
 obtain⟨A,ca,B,cb,N,cn,L,cl,w1,rfl,hw1,f1,f2,hsz,hB,H⟩:=Zfs h;clear h;obtain⟨k0,k1,k2,k3,_,kg⟩:=Ze f1;replace hsz:=Za hsz;replace f2:=Za f2
 go_enter Tryz.func72,Tryz.ntmps72
 go_upto_region 1 with fail
 clear hw1
 go_wp2_with fail
 with_reducible refine(Ziu _ s n 6 (by decide) _ H.out).mono ?_
 rintro e w2 ⟨u,rfl,hu,hb2⟩;rw[(Zfc s n).1];rw[(Zfc s n).2] at hu;obtain⟨q,hq⟩:∃ q,gdE s 6 n=q:=⟨_,rfl⟩
 have hq':=Za ((Zfc s n).1.symm.trans hq);clear hq;rw[hq'.out];obtain⟨V,hV⟩:∃ V,gdV s 6 n=V:=⟨_,rfl⟩
 have hV':=Za ((Zfc s n).2.symm.trans hV);clear hV;rw[hV'.out] at hu;obtain⟨P,p,Q,r,Y,y,X,x,rfl,_⟩:=id hu.open;have F2:=(hb2.block (w.heap.size+1) (by rw[hsz.out];omega)).trans f2.out;obtain⟨o0,o1,o2,o3,_,_⟩:=Ze F2;obtain⟨W9,hW9,g9,gr9,gs9⟩:=Zt (a':=.slice P V.1.1.length p) (b':=.slice Q V.1.2.length r) (c':=.slice Y V.2.1.length y) (d':=.slice X V.2.2.length x) F2;obtain⟨n0,n1,n2,n3,_,_⟩:=Ze g9;have hfin:=Za (show Sto (New w.heap.size W9) W9 _ V from (hu.grown gr9 (fun q e=>by cases e;rw[hsz.out];omega)).new hB.size (Qb _ _));have hB9:=Za ((hB.trans (hb2.mono hB.size)).grown gr9 (Ql hB.size hb2.size) (fun q e=>by cases e;omega));replace F2:=Za F2;replace g9:=Za g9;clear gr9 gs9 hu hb2 k0 k1 k2 k3 kg f1
 go_wp2_with fail
 refine Qbd (v:=.tuple #[.agg #[.slice P V.1.1.length p,.slice Q V.1.2.length r,.slice Y V.2.1.length y,.slice X V.2.2.length x],.int .i64 q]) (by simp[results,Tryz.results72,go_sem,n0,n1,n2,n3]) rfl ?_;rw[hq'.out,hV'.out];exact⟨_,rfl,hfin.out,hB9.out⟩}
theorem Zsm (v:Qba) (s:Rm) (n:Int) (w:Qa9) (h:Sto (Old w) w v s) :
  Qbg Tryz.prog 177 #[v,.int .i64 n] w fun e w'=>∃ u,e=.returned (.tuple #[u,.int .i64 (asE s n)])/\Sto (New w.heap.size w') w' u (loV s n)/\Qbi w.heap.size w w':=by{
 obtain⟨A,ca,B,cb,N,cn,L,cl,w1,rfl,hw1,f1,f2,hsz,hB,H⟩:=Zfs h;clear h;obtain⟨k0,k1,k2,k3,_,kg⟩:=Ze f1;replace hsz:=Za hsz;replace f2:=Za f2
 go_enter Tryz.func177,Tryz.ntmps177
 go_upto_region 1 with fail
 clear hw1
 go_wp2_with fail
 with_reducible refine(Ziu _ s n (-1) (by decide) _ H.out).mono ?_
 rintro e w2 ⟨u,rfl,hu,hb2⟩;rw[(Zfi s n).1];rw[(Zfi s n).2] at hu;obtain⟨q,hq⟩:∃ q,gdE s (-1) n=q:=⟨_,rfl⟩
 have hq':=Za ((Zfi s n).1.symm.trans hq);clear hq;rw[hq'.out];obtain⟨V,hV⟩:∃ V,gdV s (-1) n=V:=⟨_,rfl⟩
 have hV':=Za ((Zfi s n).2.symm.trans hV);clear hV;rw[hV'.out] at hu;obtain⟨P,p,Q,r,Y,y,X,x,rfl,_⟩:=id hu.open;have F2:=(hb2.block (w.heap.size+1) (by rw[hsz.out];omega)).trans f2.out;obtain⟨o0,o1,o2,o3,_,_⟩:=Ze F2;obtain⟨W9,hW9,g9,gr9,gs9⟩:=Zt (a':=.slice P V.1.1.length p) (b':=.slice Q V.1.2.length r) (c':=.slice Y V.2.1.length y) (d':=.slice X V.2.2.length x) F2;obtain⟨n0,n1,n2,n3,_,_⟩:=Ze g9;have hfin:=Za (show Sto (New w.heap.size W9) W9 _ V from (hu.grown gr9 (fun q e=>by cases e;rw[hsz.out];omega)).new hB.size (Qb _ _));have hB9:=Za ((hB.trans (hb2.mono hB.size)).grown gr9 (Ql hB.size hb2.size) (fun q e=>by cases e;omega));replace F2:=Za F2;replace g9:=Za g9;clear gr9 gs9 hu hb2 k0 k1 k2 k3 kg f1
 go_wp2_with fail
 refine Qbd (v:=.tuple #[.agg #[.slice P V.1.1.length p,.slice Q V.1.2.length r,.slice Y V.2.1.length y,.slice X V.2.2.length x],.int .i64 q]) (by simp[results,Tryz.results177,go_sem,n0,n1,n2,n3]) rfl ?_;rw[hq'.out,hV'.out];exact⟨_,rfl,hfin.out,hB9.out⟩}
theorem Zvf {s:Rm}{n:Nd}(h:Xz s=false):mkE s n=8:=by rw[mkE,h];rfl
theorem Zz3 {s:Rm}{n:Nd}(h:mayN n=false):mkE s n=8:=by rw[mkE,h];simp
theorem Zs2 (v u:Qba) (s:Rm) (n:Nd) (w:Qa9) (h:Sto (Old w) w v s) (hu:Nod (Old w) w u n) :
  Qbg Tryz.prog 54 #[v,u] w fun e w'=>∃ t,e=.returned (.tuple #[t,.int .i64 (mkN s n),.int .i64 (mkE s n)])/\Sto (New w.heap.size w') w' t (mkV s n)/\Qbi w.heap.size w w':=by{
 obtain⟨A,ca,B,cb,N,cn,L,cl,rfl,_⟩:=id h.open;obtain⟨I,ci,rfl,_⟩:=id hu.open;obtain⟨w1,hw1,f1,fn,f2,hsz,hB⟩:=Zrq (w:=w) (.slice A s.1.1.length ca) (.slice B s.1.2.length cb) (.slice N s.2.1.length cn) (.slice L s.2.2.length cl) (.int .i64 n.1) (.slice I n.2.length ci);have H:=Za (h.below hB);have U:=Za (hu.below hB);clear h hu;obtain⟨k0,k1,k2,k3,_,kg⟩:=Ze f1;obtain⟨p0,p1,_,pg⟩:=Zi fn;replace hsz:=Za hsz;replace f2:=Za f2;cases hm:Xz s with
 | false =>
  have hE:=Zvf (n:=n) hm;obtain⟨hN,hV⟩:=Zyf (s:=s) (n:=n) (by rw[hE];decide);have e1:=Zcc hm;replace hE:=Za hE;replace hN:=Za hN;replace hV:=Za hV
  go_enter Tryz.func54,Tryz.ntmps54
  go_upto_region 1 with fail
  clear hw1
  go_wp2_with fail
  with_reducible refine(Yt _ s _ H.out).mono ?_
  rintro e w2 ⟨rfl,hb2⟩;rw[e1];have F2:=(hb2.block (w.heap.size+2) (by rw[hsz.out];omega)).trans f2.out;replace hb2:=Za (hB.trans (hb2.mono hB.size));clear k0 k1 k2 k3 kg p0 p1 pg f1 fn hB e1 hm;obtain⟨k0,k1,k2,k3,k4,k5⟩:=Ze F2;obtain⟨W9,hW9,g9,gr9,gs9⟩:=Zt (a':=.slice none 0 0) (b':=.slice none 0 0) (c':=.slice none 0 0) (d':=.slice none 0 0) F2;obtain⟨n0,n1,n2,n3,_,_⟩:=Ze g9;have hB9:=Za ((hb2).out.grown gr9 (hb2).out.size (fun q e=>by cases e;omega));replace g9:=Za g9;replace F2:=Za F2;clear gr9 gs9
  go_wp2_with fail
  refine Qbd (v:=.tuple #[.agg #[.slice none 0 0,.slice none 0 0,.slice none 0 0,.slice none 0 0],.int .i64 0,.int .i64 8]) (by simp[results,Tryz.results54,go_sem,n0,n1,n2,n3]) rfl ?_;rw[hE.out,hN.out,hV.out];exact⟨_,rfl,Y1 _ _,hB9.out⟩
 | true =>
 have e1:=Zbh hm;obtain⟨b,hb⟩:∃ b,wrN n=b:=⟨_,rfl⟩
 obtain⟨q,hq⟩:∃ q,Zxg n=q:=⟨_,rfl⟩
 replace hb:=Za hb;replace hq:=Za hq;have hlen:=Za (Yi (Yq hm).2.1)
 go_enter Tryz.func54,Tryz.ntmps54
 go_upto_region 1 with fail
 clear hw1
 go_wp2_with fail
 with_reducible refine(Yt _ s _ H.out).mono ?_
 rintro e w2 ⟨rfl,hb2⟩;rw[e1];have F1:=(hb2.block w.heap.size kg).trans f1;have Fn:=(hb2.block (w.heap.size+1) pg).trans fn;have F2:=(hb2.block (w.heap.size+2) (by rw[hsz.out];omega)).trans f2.out;have H2:=H.out.below hb2;have U2:=U.out.below hb2;have s2:Hid (w.heap.size+3<=w2.heap.size):=Za (by have:=hb2.size;have:=hsz.out;omega);have B2:=Za (hB.trans (hb2.mono hB.size));clear k0 k1 k2 k3 kg p0 p1 pg f1 fn hb2 hB f2 e1 H U;obtain⟨k0,k1,k2,k3,_,kg⟩:=Ze F1;obtain⟨p0,p1,_,pg⟩:=Zi Fn;replace F2:=Za F2;replace H2:=Za H2;replace U2:=Za U2
 go_wp2_with fail
 with_reducible refine(Zjo _ n _ U2.out).mono ?_
 rintro e w3 ⟨u3,rfl,h3,hb3⟩;rw[hq.out];rw[hb.out] at h3;obtain⟨E,ce,rfl,_⟩:=id (Zo h3);have G1:=(hb3.block w.heap.size kg).trans F1;have Gn:=(hb3.block (w.heap.size+1) pg).trans Fn;have G2:=(hb3.block (w.heap.size+2) (by have:=s2.out;omega)).trans F2.out;have H3:=H2.out.below hb3;have U3:=U2.out.below hb3;have s3:Hid (w.heap.size+3<=w3.heap.size):=Za (by have:=hb3.size;have:=s2.out;omega);have B3:=Za (B2.out.trans (hb3.mono B2.out.size));have R3:=Za (Zf.drop h3);clear k0 k1 k2 k3 kg p0 p1 pg F1 Fn hb3 F2 H2 U2 B2 h3 s2;cases hn:mayN n with
 | false =>
  have hE:=Zz3 (s:=s) hn;obtain⟨hN,hV⟩:=Zyf (s:=s) (n:=n) (by rw[hE];decide);have hq8:q=8:=by rw[<- hq.out,Zxg,hn];rfl
  subst hq8;replace hE:=Za hE;replace hN:=Za hN;replace hV:=Za hV;clear H3 U3 G1 Gn hn hm;obtain⟨k0,k1,k2,k3,k4,k5⟩:=Ze G2;obtain⟨W9,hW9,g9,gr9,gs9⟩:=Zt (a':=.slice none 0 0) (b':=.slice none 0 0) (c':=.slice none 0 0) (d':=.slice none 0 0) G2;obtain⟨n0,n1,n2,n3,_,_⟩:=Ze g9;have hB9:=Za ((B3).out.grown gr9 (B3).out.size (fun q e=>by cases e;omega));replace g9:=Za g9;replace G2:=Za G2;clear gr9 gs9
  go_wp2_with fail
  refine Qbd (v:=.tuple #[.agg #[.slice none 0 0,.slice none 0 0,.slice none 0 0,.slice none 0 0],.int .i64 0,.int .i64 8]) (by simp[results,Tryz.results54,go_sem,n0,n1,n2,n3]) rfl ?_;rw[hE.out,hN.out,hV.out];exact⟨_,rfl,Y1 _ _,hB9.out⟩
 | true =>
 have hq0:q=0:=by rw[<- hq.out,Zxg,hn];rfl
 subst hq0;have hbk:Hid (Ui n=b):=Za (by rw[<- hb.out,wrN,hn];rfl);have hways:=Za (Zve hm hn);obtain⟨k0,k1,k2,k3,_,kg⟩:=Ze G1;obtain⟨p0,p1,_,pg⟩:=Zi Gn;replace G2:=Za G2;replace H3:=Za H3;replace U3:=Za U3
 go_wp2_with fail
 obtain⟨_,_,e9,l1,m1,hby⟩:=Xs (B:=w3.heap.size) (fun _ h=>h) H3.out.parts.2.1;cases e9;with_reducible refine(Zdy N s.2.1.length cn s.2.1 (Za rfl) (by rw[hlen.out];omega) _ hby).mono ?_
 rintro e w4 ⟨u4,rfl,hu4,hb4⟩;obtain⟨g,c2,rfl,hg1,hg2,hg3,hg4⟩:=Zjy hu4 (by rw[hlen.out];omega);rw[hlen.out] at hu4 ⊢;have F1:=(hb4.block w.heap.size kg).trans G1;have Fn:=(hb4.block (w.heap.size+1) pg).trans Gn;have F2:=Za ((hb4.block (w.heap.size+2) (by have:=s3.out;omega)).trans G2.out);have H4:=Za (show Sto (Off g w4) w4 _ s from H3.out.map fun _ _ hp hc=>Zks hb4 hg1 hp hc);have U4:=Za (show Nod (Off g w4) w4 _ n from U3.out.map fun _ _ hp hc=>Zks hb4 hg1 hp hc);have R4:=Za (show rBy (Off g w4) w4 _ b from Zf _ _ _ _ _ _ (fun _ _ hp hc=>Zks hb4 hg1 hp hc) R3.out);have O4:=Za hu4;have B4:=Za (B3.out.trans (hb4.mono B3.out.size));have hgw:Hid (w.heap.size+3<=g):=Za (by have:=s3.out;omega);clear k0 k1 k2 k3 kg p0 p1 pg G1 Gn G2 hb4 H3 U3 R3 B3 hby l1 m1 hu4 hg1 s3;obtain⟨k0,k1,k2,k3,_,kg⟩:=Ze F1;obtain⟨p0,p1,_,pg⟩:=Zi Fn;obtain⟨r,hr⟩:∃ r,ctE s.2.1 n.2=r:=⟨_,rfl⟩
 go_wp2_with fail
 with_reducible refine(Zw0 g c2 w3.heap.size s.2.1 _ n hn hlen.out _ O4.out U4.out).mono ?_
 rintro e w5 ⟨rfl,hgr,hown⟩;rw[hr] at hown ⊢;have E1:=(hgr.block w.heap.size kg (by have:=hgw.out;simp;omega)).trans F1;have E3:=(hgr.block (w.heap.size+2) (by have:=F2.out;exact(Qa.1 this).1) (by have:=hgw.out;simp;omega)).trans F2.out;have B5:=Za (B4.out.grown hgr B4.out.size (fun q e=>by cases e;have:=hgw.out;omega));have H5:=Za (show Sto (Old w5) w5 _ s from (H4.out.map fun _ _ hp hc=>Zgz hgr hp hc).map fun _ _ hp hc=>Zjf hp hc);have R5:=Za (show rBy (Old w5) w5 _ b from Zf _ _ _ _ _ _ (fun _ _ hp hc=>Zjf hp hc) (Zf _ _ _ _ _ _ (fun _ _ hp hc=>Zgz hgr hp hc) R4.out));clear k0 k1 k2 k3 kg p0 p1 pg F1 Fn F2 B4 H4 U4 R4 O4 hgr;rcases hways.out with ⟨hc,hE,hN,hV⟩ | ⟨hc,hE,hN,hV⟩
 ·rw[hr] at hc hE
  have hr1:(r != 0)=true:=by simpa using hc
  replace hE:=Za hE;replace hN:=Za hN;replace hV:=Za hV;replace hr:=Za hr;clear E1 hown hc hm hn hways;obtain⟨k0,k1,k2,k3,k4,k5⟩:=Ze E3;obtain⟨W9,hW9,g9,gr9,gs9⟩:=Zt (a':=.slice none 0 0) (b':=.slice none 0 0) (c':=.slice none 0 0) (d':=.slice none 0 0) E3;obtain⟨n0,n1,n2,n3,_,_⟩:=Ze g9;have hB9:=Za ((B5).out.grown gr9 (B5).out.size (fun q e=>by cases e;omega));replace g9:=Za g9;replace E3:=Za E3;clear gr9 gs9
  go_wp2_with fail
  refine Qbd (v:=.tuple #[.agg #[.slice none 0 0,.slice none 0 0,.slice none 0 0,.slice none 0 0],.int .i64 0,.int .i64 r]) (by simp[results,Tryz.results54,go_sem,n0,n1,n2,n3]) rfl ?_;rw[hE.out,hN.out,hV.out];exact⟨_,rfl,Y1 _ _,hB9.out⟩
 ·rw[hr] at hc
  subst hc;rw[hbk.out] at hE hN hV;have hctl:(ctV s.2.1 n.2).length=256:=by rw[Zc9,hlen.out]
  have T5:Hid (Sto (Old w5) w5 (.agg #[.slice A s.1.1.length ca,.slice B s.1.2.length cb,.slice (some ⟨g,0,none⟩) 256 c2,.slice L s.2.2.length cl]) (ctS s n)):=Za (Sto.mk H5.out.parts.1 (Zf.drop (Zcw (hown rfl))) H5.out.parts.2.2);obtain⟨S,hS⟩:∃ S,ctS s n=S:=⟨_,rfl⟩
  rw[hS] at T5 hE hN hV;obtain⟨V,hVV⟩:∃ V,tkV S b=V:=⟨_,rfl⟩
  obtain⟨x,hx⟩:∃ x,tkN S b=x:=⟨_,rfl⟩
  obtain⟨y,hy⟩:∃ y,tkE S b=y:=⟨_,rfl⟩
  rw[hVV] at hV;rw[hx] at hN;rw[hy] at hE;replace hE:=Za hE;replace hN:=Za hN;replace hV:=Za hV;replace hr:=Za hr;replace hS:=Za hS;replace hVV:=Za hVV;replace hx:=Za hx;replace hy:=Za hy;obtain⟨k0,k1,k2,k3,_,kg⟩:=Ze E1;replace E3:=Za E3;clear hown hm hn hways hctl
  go_wp2_with fail
  with_reducible refine(Zvq _ _ S b _ T5.out R5.out).mono ?_
  rintro e w6 ⟨t6,rfl,h6,hb6⟩;rw[hx.out,hy.out];rw[hVV.out] at h6;obtain⟨A6,a6,B6,b6,N6,n6,L6,l6,rfl,_⟩:=id h6.open;have F6:=(hb6.block (w.heap.size+2) (by exact(Qa.1 E3.out).1)).trans E3.out;have s6:Hid (w.heap.size+2<w5.heap.size):=Za (Qa.1 E3.out).1;obtain⟨o0,o1,o2,o3,_,_⟩:=Ze F6;obtain⟨W9,hW9,g9,gr9,gs9⟩:=Zt (a':=.slice A6 V.1.1.length a6) (b':=.slice B6 V.1.2.length b6) (c':=.slice N6 V.2.1.length n6) (d':=.slice L6 V.2.2.length l6) F6;obtain⟨n0,n1,n2,n3,_,_⟩:=Ze g9;have hfin:=Za (show Sto (New w.heap.size W9) W9 _ V from (h6.grown gr9 (fun q e=>by cases e;exact s6.out)).new B5.out.size (Qb _ _));have hB9:=Za ((B5.out.trans (hb6.mono B5.out.size)).grown gr9 (Ql B5.out.size hb6.size) (fun q e=>by cases e;omega));replace F6:=Za F6;replace g9:=Za g9;clear gr9 gs9 h6 hb6 k0 k1 k2 k3 kg E1
  go_wp2_with fail
  refine Qbd (v:=.tuple #[.agg #[.slice A6 V.1.1.length a6,.slice B6 V.1.2.length b6,.slice N6 V.2.1.length n6,.slice L6 V.2.2.length l6],.int .i64 x,.int .i64 y]) (by simp[results,Tryz.results54,go_sem,n0,n1,n2,n3]) rfl ?_;rw[hE.out,hN.out,hV.out];exact⟨_,rfl,hfin.out,hB9.out⟩}
theorem Zse (v u:Qba) (s:Rm) (n:Nd) (w:Qa9) (h:Sto (Old w) w v s) (hu:Nod (Old w) w u n) :
  Qbg Tryz.prog 54 #[v,u] w fun e W'=>∃ A ca B cb N cn L cl,e=.returned (.tuple #[.agg #[.slice A (mkV s n).1.1.length ca,.slice B (mkV s n).1.2.length cb,.slice N (mkV s n).2.1.length cn,.slice L (mkV s n).2.2.length cl],.int .i64 (mkN s n),.int .i64 (mkE s n)]) /\
   Sto (New w.heap.size W') W' (.agg #[.slice A (mkV s n).1.1.length ca,.slice B (mkV s n).1.2.length cb,.slice N (mkV s n).2.1.length cn,.slice L (mkV s n).2.2.length cl]) (mkV s n)/\Qbi w.heap.size w W':=by
 refine(Zs2 v u s n w h hu).mono ?_;rintro e W' ⟨t,rfl,ht,hb⟩;obtain⟨A,ca,B,cb,N,cn,L,cl,rfl,_⟩:=id ht.open;exact⟨A,ca,B,cb,N,cn,L,cl,rfl,ht,hb⟩
theorem Znk (v:Qba) (s:Rm) (n:Int) (w:Qa9) (h:Sto (Old w) w v s) :
  Qbg Tryz.prog 72 #[v,.int .i64 n] w fun e W'=>∃ A ca B cb N cn L cl,e=.returned (.tuple #[.agg #[.slice A (lvV s n).1.1.length ca,.slice B (lvV s n).1.2.length cb,.slice N (lvV s n).2.1.length cn,.slice L (lvV s n).2.2.length cl],.int .i64 (lvE s n)]) /\
   Sto (New w.heap.size W') W' (.agg #[.slice A (lvV s n).1.1.length ca,.slice B (lvV s n).1.2.length cb,.slice N (lvV s n).2.1.length cn,.slice L (lvV s n).2.2.length cl]) (lvV s n)/\Qbi w.heap.size w W':=by
 refine(Zr8 v s n w h).mono ?_;rintro e W' ⟨t,rfl,ht,hb⟩;obtain⟨A,ca,B,cb,N,cn,L,cl,rfl,_⟩:=id ht.open;exact⟨A,ca,B,cb,N,cn,L,cl,rfl,ht,hb⟩
theorem Zn9 (v:Qba) (s:Rm) (n:Int) (w:Qa9) (h:Sto (Old w) w v s) :
  Qbg Tryz.prog 177 #[v,.int .i64 n] w fun e W'=>∃ A ca B cb N cn L cl,e=.returned (.tuple #[.agg #[.slice A (loV s n).1.1.length ca,.slice B (loV s n).1.2.length cb,.slice N (loV s n).2.1.length cn,.slice L (loV s n).2.2.length cl],.int .i64 (asE s n)]) /\
   Sto (New w.heap.size W') W' (.agg #[.slice A (loV s n).1.1.length ca,.slice B (loV s n).1.2.length cb,.slice N (loV s n).2.1.length cn,.slice L (loV s n).2.2.length cl]) (loV s n)/\Qbi w.heap.size w W':=by
 refine(Zsm v s n w h).mono ?_;rintro e W' ⟨t,rfl,ht,hb⟩;obtain⟨A,ca,B,cb,N,cn,L,cl,rfl,_⟩:=id ht.open;exact⟨A,ca,B,cb,N,cn,L,cl,rfl,ht,hb⟩
end Go.Proofs.YtmafkphcfkhokaaGreat
