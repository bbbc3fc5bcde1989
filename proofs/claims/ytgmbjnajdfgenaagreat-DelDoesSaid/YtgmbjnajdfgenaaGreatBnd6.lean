/-
  Lemmas on the program and on the document's answers, gathered: DfLowd, DeWay, DeBack, DeSt, DeRow, DeRep, DeJoin, DeShI, DeOut, DfOut, DfOutR, DfDel, DeShrink, FnFind, FnLaws, DeDel. Conditions: those that each lemma states.
-/
import Derived.Test.YtgmbjnajdfgenaaGreatBnd5
import Derived.WalkMore
set_option maxRecDepth 100000
set_option maxHeartbeats 16000000
open Array renaming getElem?_eq_some_iff → Qc, replicate_succ → Pk, replicate_zero → Pm
open Go renaming World → Pw, Value → Px, Addr → Py, TypeId → Pz, bodyPost_ret → P3, heap_alloc_new → P4, undef → P5, Calls → P7, Ending → P8
open Go.Act renaming put → Qb
open Go.Builtin renaming append_ → Qv, clear_ → Pr
open Go.RowKit renaming Below → P9
open Go.RowKit.Below renaming refl → Qa
open Go.World renaming cell?_of_block → Qd, block_lt_of_cell? → Q7, ownsRow_nil → Pg
open List renaming getElem?_eq_getElem → Qh, length_append → Qi, getElem?_eq_some_iff → Qj, take_succ_cons → Qk, take_zero → Ql, drop_succ_cons → Qm, drop_zero → Qn, mem_append → Qo, mem_of_getElem? → Qp, mem_of_mem_take → Qq, length_take → Qr, mem_singleton → Qs, map_append → Qt, getElem?_take_of_lt → Qu, length_cons → Qw, length_nil → Qx, take_take → Qz, length_drop → Q3, mem_of_mem_drop → Q4, length_map → Q5, getElem?_of_mem → Q6, size_toArray → Q8, length_pos_iff → Pb, length_set → Pc, getElem?_append_left → Pe, getElem?_append_right → Pf, not_mem_nil → Ph, push_toArray → Pn, append_toArray → Po, nil_append → Pp, cons_append → Pq, drop_of_length_le → Ps, getElem?_eq_none → Pt, map_take → Pu, map_drop → Pv
open Nat renaming le_refl → Qe, le_trans → Qf, lt_of_lt_of_le → Qg, sub_self → Qy, zero_add → Q9, min_eq_left → Pa, eq_zero_or_pos → Pd, reduceAdd → Pi, reduceSub → Pj
namespace Go.Proofs.YtgmbjnajdfgenaaGreat
open Go.RowKit
theorem Zqw {W W9:Pw}{g:Nat}{v:Px}{s:Rm}(h:Sto (Old W) W v s) (hm:Yp s=true) (hf:Zw2 g W) (hg:W.grownBy W9 (some g)):Sto (Old W9) W9 v s :=
 (Zwx h hm).map fun p u hp hc=>⟨Qg hp.1 hg.size,(Qd (hg.block _ hp.1 (by simpa using Zmg hf hp))).trans hc⟩
theorem Z3u {s0 s:Rm}{l:Nat}{r:Int}(h:Zmk s0 s l r) (h1:¬ ((rmV s r).1=0\/1<(rmV s r).2.length)):∃ j y,l=j+1/\(rmV s r).2=[y]/\(∃ i:Nat,y.2.1=(i:Int)/\i<256)/\(∃ i:Nat,r=(i:Int)/\8<=i/\i<256 /\
  ((s.2.1[y.2.1.toNat]?.getD 0=255/\Yc l s r=(70,Zn,0))\/(s.2.1[y.2.1.toNat]?.getD 0≠255/\Yp (upR s y.2.1)=true /\
   ((lfO (upR s y.2.1).1 (upR s y.2.1).2.1 i=none/\Yc l s r=(8,Zn,0))\/∃ v,lfO (upR s y.2.1).1 (upR s y.2.1).2.1 i=some v/\Yp ((upR s y.2.1).1,v,(upR s y.2.1).2.2)=true/\Yc l s r=Yc j ((upR s y.2.1).1,v,(upR s y.2.1).2.2) y.2.1/\Zmk s0 ((upR s y.2.1).1,v,(upR s y.2.1).2.2) j y.2.1)))):=by{
 have hlv:=h.lev.ok;cases l with
 | zero=>exact absurd (.inl (by rw[hlv.2];rfl)) h1
 | succ j =>
  have hne:0<(rmV s r).2.length:=(Zs (Yu hlv.1).1).1.2.2.2 (by rw[hlv.2];omega);have hl:(rmV s r).2.length=1:=by
   have:¬ 1<(rmV s r).2.length:=fun h=>h1 (.inr h)
   omega
  obtain⟨y,hy,ho⟩:=Zvj hl;obtain⟨g1,g2,g3⟩:=Zsd h hl;rw[ho] at g1 g3;obtain⟨i,ei,_,i8,i256,_⟩:=Xb g1;obtain⟨q,eq,_,q8,q256,_⟩:=Xb g2;refine⟨j,y,rfl,hy,⟨i,ei,i256⟩,q,eq,q8,q256,?_⟩;have hun:Yc (j+1) s r=(if s.2.1[y.2.1.toNat]?.getD 0=255 then (70,Zn,0) else match lfO (upR s y.2.1).1 (upR s y.2.1).2.1 r.toNat with | none=>(8,Zn,0) | some v=>Yc j ((upR s y.2.1).1,v,(upR s y.2.1).2.2) y.2.1):=by
   conv=>lhs;unfold Yc
   rw[if_pos hl,ho];rfl
  rw[hun];have er:r.toNat=q:=by omega
  by_cases h255:s.2.1[y.2.1.toNat]?.getD 0=255
  ·rw[if_pos h255]
   exact .inl ⟨h255,rfl⟩
  ·rw[if_neg h255]
   obtain⟨e1,e2,e3,e4⟩:=g3 h255;have hmu:Yp (upR s y.2.1)=true:=by rw[<- e2];exact(Zj0 e1).may
   rw[er] at e4 ⊢;refine .inr ⟨h255,hmu,?_⟩;cases hf:lfO (upR s y.2.1).1 (upR s y.2.1).2.1 q with
   | none=>exact .inl ⟨rfl,rfl⟩
   | some v=>exact .inr ⟨v,rfl,(e4 v hf).keep.may,rfl,e4 v hf⟩}
def LdR (g:Int×Rm×Int) (w:Pw) (e:P8) (w':Pw):Prop:=∃ qa qb qc qd:Option Py×Nat×Nat,
 e=.returned (.tuple #[.agg #[.slice qa.1 qa.2.1 qa.2.2,.slice qb.1 qb.2.1 qb.2.2,.slice qc.1 qc.2.1 qc.2.2,.slice qd.1 qd.2.1 qd.2.2],.int .i64 g.2.2,.int .i64 g.1]) /\
 Sto (Old w') w' (.agg #[.slice qa.1 qa.2.1 qa.2.2,.slice qb.1 qb.2.1 qb.2.2,.slice qc.1 qc.2.1 qc.2.2,.slice qd.1 qd.2.1 qd.2.2]) g.2.1/\P9 w.heap.size w w'
def LwD (s0:Rm) (w w1 w2:Pw) (g:Int×Rm×Int) (rv:Px) (wr:Pw) (j:Nat):Prop:=∃ (S:Rm) (r:Int) (qa qb qc qd:Option Py×Nat×Nat),rv=.int .i64 r/\g=Yc j S r/\Zmk s0 S j r/\P9 w.heap.size w wr/\w2.heap.size<=wr.heap.size /\
 wr.heap[w.heap.size]? = some (.cells #[.slice qa.1 qa.2.1 qa.2.2,.slice qb.1 qb.2.1 qb.2.2,.slice qc.1 qc.2.1 qc.2.2,.slice qd.1 qd.2.1 qd.2.2] 29 (0,0)) /\
 Sto (Old wr) wr (.agg #[.slice qa.1 qa.2.1 qa.2.2,.slice qb.1 qb.2.1 qb.2.2,.slice qc.1 qc.2.1 qc.2.2,.slice qd.1 qd.2.1 qd.2.2]) S /\
 wr.heap[w1.heap.size]? = some (.cells #[.slice none 0 0,.slice none 0 0,.slice none 0 0,.slice none 0 0] 29 (0,0))
theorem Zjk (v:Px) (s0 s:Rm) (l:Nat) (r:Int) (hI:Zmk s0 s l r) (w:Pw) (h:Sto (Old w) w v s) :
  P7 Tryz.prog 63 #[v,.int .i64 r] w (LdR (Yc l s r) w):=by{
 obtain⟨qa,qb,qc,qd,rfl⟩:=Vs h;obtain⟨w1,hw1,b1,hs1,hB1⟩:=Vm w (.slice qa.1 qa.2.1 qa.2.2) (.slice qb.1 qb.2.1 qb.2.2) (.slice qc.1 qc.2.1 qc.2.2) (.slice qd.1 qd.2.1 qd.2.2) 29;obtain⟨w2,hw2,b2,hs2,hB2⟩:=Vm w1 (.slice none 0 0) (.slice none 0 0) (.slice none 0 0) (.slice none 0 0) 29;have hB12:=hB1.trans (hB2.mono hB1.size);obtain⟨g,hg⟩:∃ q,Yc l s r=q:=⟨_,rfl⟩
 rw[hg];obtain⟨QQ,hQQ⟩:∃ QQ,LdR g w=QQ:=⟨_,rfl⟩
 rw[hQQ];have hJ0:Hid (LwD s0 w w1 w2 g (.int .i64 r) w2 l):=Za ⟨s,r,qa,qb,qc,qd,rfl,hg.symm,hI,hB12,Qe _,(hB2.block _ (by omega)).trans b1,h.below hB12,b2⟩;have SZ:=Za (show w1.heap.size=w.heap.size+1/\w2.heap.size=w.heap.size+2 from by omega);replace hg:=Za hg;replace hQQ:=Za hQQ;replace hs1:=Za hs1;replace hs2:=Za hs2;clear h hB1 hB2 hB12 b1 b2 hI
 go_enter Tryz.func63,Tryz.ntmps63
 go_wp2_with fail
 clear hw1 hw2
 go_loopw [1] (fun rv wr=>∃ j,LwD s0 w w1 w2 g rv wr j) (fun rv wr=>Ziz (LwD s0 w w1 w2 g rv wr))
 case atStart=>exact⟨l,hJ0.out⟩
 case round =>
  obtain⟨j,hj,S,x,⟨A,a2,ca⟩,⟨B,b2,cb⟩,⟨N,n2,cn⟩,⟨L,l2,cl⟩,rfl,hgj,hIj,hBw,hsz,hbx,hS,hrb⟩:=Znc hrel
  dsimp only at hbx hS
  clear hrel;have hm:=hIj.keep.may;obtain⟨A',ca',B',cb',N',cn',L',cl',e4,hdk,hNw,hLs⟩:=hS.open;simp only[Value.agg.injEq,Array.mk.injEq,List.cons.injEq,Value.slice.injEq,and_true] at e4;obtain⟨⟨rfl,rfl,rfl⟩,⟨rfl,rfl,rfl⟩,⟨rfl,rfl,rfl⟩,⟨rfl,rfl,rfl⟩⟩:=e4;obtain⟨ad,bd,rfl,rfl,hl1,hl2,-,-,had,-,hc⟩:=Vr hm hNw hLs;replace hl1:=Za hl1;replace hl2:=Za hl2;have hRd:=V7 _ S x hm wr hS;have hlv:=hIj.lev.ok;have hmn:=(Yu hlv.1).1;rw[show (rmE S x==0)=true by rw[hlv.1];rfl] at hRd;have hEnd:=Za (fun h=>Zpx hIj h);have hGo:=Za (fun h=>Z3u hIj h);have hne:=Za (Zs hmn).1.2.2.2;have hmS:=Za hm;have hfS:=Za (Va hm:U1 S);clear hlv hIj hmn hdk hNw hLs hm;obtain⟨nd,hnd⟩:∃ q,rmV S x=q:=⟨_,rfl⟩
  rw[hnd] at hRd hEnd hGo hne;replace hnd:=Za hnd;obtain⟨lw,hlw⟩:∃ q,nd.1=q:=⟨_,rfl⟩
  obtain⟨nl,hnl⟩:∃ q,nd.2.length=q:=⟨_,rfl⟩
  rw[hlw,hnl] at hRd hEnd hGo hne;obtain⟨k0,k1,k2,k3,kf,_⟩:=Ze hbx;have hbx':=Za hbx;have hrb':=Za hrb;have hS':=Za hS;have hBw':=Za hBw;have hsz':=Za hsz;have hc':=Za hc;have had':=Za had;replace hgj:=Za hgj;replace hj:=Za hj;clear hbx hrb hS hBw hsz hc had
  go_upto_region 1 with fail
  go_wp2_with fail
  with_reducible refine hRd.mono ?_
  rintro e W1 ⟨Z,zc,rfl,hin,-,hb1⟩;clear hRd k0 k1 k2 k3 kf;obtain⟨w3,hw3,b3,hs3,hB3⟩:=Zy W1 (.int .i64 lw) (.slice Z nl zc) 81;have B13:=Za (hb1.trans (hB3.mono hb1.size));obtain⟨n0,n1,_⟩:=Zg b3;have c3:=Za ((B13.out.block w.heap.size (by have:=hsz'.out;have:=SZ.out;omega)).trans hbx'.out);have r3:=Za ((B13.out.block w1.heap.size (by have:=hsz'.out;have:=SZ.out;omega)).trans hrb'.out);have B3:=Za (hBw'.out.trans (B13.out.mono hBw'.out.size));have S3:=Za (hS'.out.below B13.out);have I3:=Za (Z5.old hin hB3);have hz3:=Za (show w2.heap.size<=w3.heap.size from Qf hsz'.out B13.out.size);obtain⟨k0,k1,k2,k3,kf,_⟩:=Ze c3.out;replace hs3:=Za hs3;replace b3:=Za b3;clear hb1 hB3 hin
  go_upto_region 2 with fail
  clear hw3;by_cases he:lw=0\/1<nl
  ·obtain⟨u0,u1,u2,u3,uf,_⟩:=Ze r3.out
   obtain⟨W9,hW9,g9,gr9,gs9⟩:=Zo (a':=.slice A S.1.1.length ca) (b':=.slice B S.1.2.length cb) (c':=.slice (some ad) S.2.1.length cn) (d':=.slice (some bd) S.2.2.length cl) r3.out;obtain⟨o0,o1,o2,o3,_,_⟩:=Ze g9
   have hfin:=Za (show LdR g w (.returned (.tuple #[.agg #[.slice A S.1.1.length ca,.slice B S.1.2.length cb,.slice (some ad) S.2.1.length cn,.slice (some bd) S.2.2.length cl],.int .i64 x,.int .i64 0])) W9 by
    rw[hgj.out,hEnd.out he]
    exact⟨(A,S.1.1.length,ca),(B,S.1.2.length,cb),(some ad,S.2.1.length,cn),(some bd,S.2.2.length,cl),rfl,Z9 S3.out hfS.out r3.out (by simp) gr9,B3.out.grown gr9 B3.out.size (fun q e=>by cases e;have:=SZ.out;omega)⟩)
   replace g9:=Za g9;replace hlw:=Za hlw;replace hnl:=Za hnl;clear gr9 gs9;by_cases h0:lw=0
   ·subst h0
    have t0:((0:Int)==0)=true:=rfl;clear he
    go_wp2_with fail
    refine P3 (v:=.tuple #[.agg #[.slice A S.1.1.length ca,.slice B S.1.2.length cb,.slice (some ad) S.2.1.length cn,.slice (some bd) S.2.2.length cl],.int .i64 x,.int .i64 0]) (by simp[results,Tryz.results63,go_sem,o0,o1,o2,o3]) rfl ?_;rw[<- hQQ.out];exact hfin.out
   ·have t0:(lw==0)=false:=by simpa using h0
    have t1:((nl:Int) != 1)=true:=by
     have:1<nl:=he.resolve_left h0;simp;omega
    clear he
    go_wp2_with fail
    refine P3 (v:=.tuple #[.agg #[.slice A S.1.1.length ca,.slice B S.1.2.length cb,.slice (some ad) S.2.1.length cn,.slice (some bd) S.2.2.length cl],.int .i64 x,.int .i64 0]) (by simp[results,Tryz.results63,go_sem,o0,o1,o2,o3]) rfl ?_;rw[<- hQQ.out];exact hfin.out
  obtain⟨i,y,hij,hy,⟨q,hyq,hq256⟩,k,hxk,hk8,hk256,hways⟩:=hGo.out he;subst hxk;have t0:(lw==0)=false:=by
   have:¬ lw=0:=fun h=>he (.inl h)
   simpa using this
  obtain rfl:nl=1:=by rw[<- hnl,hy];rfl
  obtain⟨ad2,E,ce,e0,_,⟨_,_,_,t3,_⟩,_⟩:=Zao I3.out (show nd.2[0]? = some y by rw[hy];rfl);subst e0;have e0:ad2.add (0*5)=ad2:=by simp[Addr.add]
  rw[e0,hyq] at t3;have hc3:=((B13.out.cell (p:=ad.add q) (by rw[Zh];exact had'.out)).trans ((hc'.out q hq256).1))
  rw[hyq,show ((q:Int)).toNat=q by omega] at hways;obtain⟨b,hb⟩:∃ b,S.2.1[q]?.getD 0=b:=⟨_,rfl⟩
  rw[hb] at hc3 hways;have t1:(((1:Nat):Int) != 1)=false:=rfl;have szl:w.heap.size<=w1.heap.size/\w1.heap.size<w2.heap.size/\w.heap.size<w1.heap.size:=by have:=SZ.out;omega
  replace hlw:=Za hlw;replace hnl:=Za hnl;replace hyq:=Za hyq;replace hy:=Za hy;replace hb:=Za hb;have i3:q<S.2.1.length:=by rw[hl1.out];exact hq256
  have i3h:=Za i3;by_cases h255:b=255
  ·have t2:((b.toNat:Int)==255)=true:=by rw[h255];rfl
   have hfin:Hid (g=(70,Zn,0)):=Za (by
    rw[hgj.out];rcases hways with ⟨_,h⟩ | ⟨h,_⟩
    ·exact h
    ·exact absurd h255 h)
   have r3':=r3.out;subst h255;clear hways he;obtain⟨k0,k1,k2,k3,k4,k5⟩:=Ze r3';obtain⟨W9,hW9,g9,gr9,gs9⟩:=Zo (a':=.slice none 0 0) (b':=.slice none 0 0) (c':=.slice none 0 0) (d':=.slice none 0 0) r3';obtain⟨n0,n1,n2,n3,_,_⟩:=Ze g9;have hB9:=Za ((B3).out.grown gr9 (B3).out.size (fun q e=>by cases e;omega));replace g9:=Za g9;replace r3':=Za r3';clear gr9 gs9
   go_wp2_with fail
   refine P3 (v:=.tuple #[.agg #[.slice none 0 0,.slice none 0 0,.slice none 0 0,.slice none 0 0],.int .i64 0,.int .i64 70]) (by simp[results,Tryz.results63,go_sem,n0,n1,n2,n3]) rfl ?_;rw[<- hQQ.out,hfin.out];exact⟨(none,0,0),(none,0,0),(none,0,0),(none,0,0),rfl,Zu _ _,hB9.out⟩
  have t2:((b.toNat:Int)==255)=false:=by
   have:b.toNat≠255:=fun h=>h255 (UInt8.toNat_inj.1 h);simp;omega
  obtain⟨-,hmu,hw2⟩:=hways.resolve_left (fun h=>h255 h.1);have hmu':=Za hmu;obtain⟨hu,hu1,hu2⟩:=Zd1 h255;have hwr:Hid (IntKind.u8.wrap ((b.toNat:Int)+1)=((b+1).toNat:Int)):=Za (by rw[<- hu];simp only[IntKind.wrap,IntKind.signed,IntKind.bits];simp;omega);have hU:Hid (upR S (q:Int)=(S.1,S.2.1.set q (b+1),S.2.2)):=Za (by unfold upR;rw[show ((q:Int)).toNat=q by omega,hb.out]);have hcl:=Za hc3;have had3:=Za (show ad.block<w3.heap.size by have:=had'.out;have:=B13.out.size;omega);have k2f:=Za (fun W (hW:P9 w3.heap.size w3 W)=>(Ze ((hW.block w.heap.size (by have:=hz3.out;omega)).trans c3.out)).2.2.1);have hlb:Hid (S.2.1.length<=1000000):=Za (by have:=hl1.out;omega);clear hu hu1 hu2 h255 hmu he hways;replace hw2:=Za hw2
  go_upto_region 7 with fail
  refine Z1 (by kernel_rfl) 11 (fun W=>P9 w3.heap.size w3 W) (fun i=>match i with
    | 9=>some (fun v W=>∃ Y y,v=.slice Y S.2.1.length y/\rBy (Old W) W [.slice Y S.2.1.length y] (S.2.1.set q (b+1)))
    | _=>none) (fun i=>match i with
    | 8=>some (.int .u8 ((b+1).toNat:Int))
    | _=>none) (by decide) (by kernel_rfl) (by kernel_rfl) (Qa _ _).drew (fun w w' h hb=>h.trans (hb.mono h.size)) ?tst ?_
  case tst =>
   intro j φ x W W' hp hx hb
   match j,hp with
   | 9,hp =>
    cases hp;obtain⟨Y,y,e,hy⟩:=hx;exact⟨Y,y,e,Zf.old hy hb⟩
  simp only[Qk,Ql,Qm,Qn]
  repeat (first
   | (refine wpAs_skip rfl ?_;simp only[Qb,Zb,Zc,Zd])
   | (refine wpAs_pure (v := ?_) rfl rfl ?_ ?_;rotate_left;(intro W hC hE;clear hE;(have i3':=i3h.out;have z2:=k2f.out W hC;have zx:=(hC.cell (p:=ad.add q) (by rw[Zh];exact had3.out)).trans hcl.out);clear hC;go_simp;first | done | with_reducible rfl);simp only[Qb,Zb,Zc,Zd]))
  refine wpAs_fixed rfl rfl rfl ?_ ?_
  ·intro W hC hE
   have hwr':=hwr.out;clear hE hC
   go_simp
   exact⟨rfl,Qa _ _⟩
  simp only[Qb,Zb,Zc,Zd];refine wpAs_act rfl rfl ?_ ?_
  ·intro W hC hE
   clear hE;refine does_enter (f:=107) (args:=#[.slice (some ad) S.2.1.length cn,.int .i64 (q:Int),.int .u8 ((b+1).toNat:Int)]) ?_ ?_
   ·go_simp
   ·refine(Zaj _ S.2.1 q (b+1) _ rfl i3h.out hlb.out W (S3.out.below hC).parts.2.1).mono ?_
    rintro e W' ⟨z,rfl,hz,hb⟩;obtain⟨Y,y,rfl,_⟩:=id (Zm hz);rw[Pc] at hz;rw[Pc];exact⟨_,rfl,⟨Y,y,rfl,Zf.drop hz⟩,hb⟩
  simp only[Qb,Zb,Zc,Zd,envAdd];intro x30
  repeat (first
   | (refine wpAs_skip rfl ?_;simp only[Qb,Zb,Zc,Zd])
   | (refine wpAs_pure (v := ?_) rfl rfl ?_ ?_;rotate_left;(intro W hC hE;clear hE;skip;clear hC;go_simp;first | done | with_reducible rfl);simp only[Qb,Zb,Zc,Zd]))
  refine wpAs_end fun W hC hE=> ?_
  obtain⟨⟨Y,y,rfl,hyv⟩,_⟩:=hE;have bW:=(hC.block w.heap.size (by have:=hz3.out;omega)).trans c3.out;obtain⟨c0,c1,c2,c3',c4,c5⟩:=Ze bW;obtain⟨W5,hW5,g5,gr5,gs5⟩:=Zcg (c':=.slice Y S.2.1.length y) bW
  have S5:Hid (Sto (Old W5) W5 (.agg #[.slice A S.1.1.length ca,.slice B S.1.2.length cb,.slice Y S.2.1.length y,.slice (some bd) S.2.2.length cl]) (upR S (q:Int))):=Za (by
   refine Zqw ?_ hmu'.out ⟨(A,S.1.1.length,ca),(B,S.1.2.length,cb),(some ad,S.2.1.length,cn),(some bd,S.2.2.length,cl),bW⟩ gr5;rw[hU.out]
   exact Sto.mk (S3.out.below hC).parts.1 hyv (S3.out.below hC).parts.2.2)
  have B5:=Za ((B3.out.trans (hC.mono B3.out.size)).grown gr5 (Qf B3.out.size hC.size) (fun q e=>by cases e;omega));have hz5:=Za (show w2.heap.size<=W5.heap.size by have:=hz3.out;have:=hC.size;omega);have r5:=Za ((gr5.block w1.heap.size (by have:=hz3.out;have:=hC.size;omega) (by simp;omega)).trans ((hC.block w1.heap.size (by have:=hz3.out;omega)).trans r3.out));have G5:=Za g5;replace bW:=Za bW;replace g5:=Za g5;clear hyv gr5 gs5 hC k0 k1 k2 k3 kf n0 n1
  go_upto_region 8 with fail
  clear hW5 c0 c1 c2 c3' c4 c5;obtain⟨m0,m1,m2,m3,_,mg⟩:=Ze G5.out;have hLf:=Zgl _ (upR S (q:Int)) k hmu'.out hk8 hk256 W5 S5.out;have hlo:∀ v,lfO (upR S (q:Int)).1 (upR S (q:Int)).2.1 k=some v->lfR (upR S (q:Int)) k=((upR S (q:Int)).1,v,(upR S (q:Int)).2.2):=fun v h=>Zku h
  obtain⟨o,ho⟩:∃ o,lfO (upR S (q:Int)).1 (upR S (q:Int)).2.1 k=o:=⟨_,rfl⟩
  have hw3:=hw2.out;rw[ho] at hLf hlo hw3;replace ho:=Za ho;replace hlo:=Za hlo;clear hw2
  go_wp2_with fail
  with_reducible refine hLf.mono ?_
  rintro e W6 ⟨t,rfl,hS6,hb6⟩;obtain⟨ra,rb,rc,rd,rfl⟩:=Vs hS6;obtain⟨W7,hW7,b7,hs7,hB7⟩:=Vm W6 (.slice ra.1 ra.2.1 ra.2.2) (.slice rb.1 rb.2.1 rb.2.2) (.slice rc.1 rc.2.1 rc.2.2) (.slice rd.1 rd.2.1 rd.2.2) 29;have B57:=hb6.trans (hB7.mono hb6.size);have B7:=Za (B5.out.trans (B57.mono B5.out.size));have S7:=Za (hS6.below hB7);have G7:=Za ((B57.block w.heap.size (by have:=hz5.out;omega)).trans G5.out);have r7:=Za ((B57.block w1.heap.size (by have:=hz5.out;omega)).trans r5.out);have hz7:=Za (show w2.heap.size<=W7.heap.size by have:=hz5.out;have:=B57.size;omega);have b7':=Za b7;have hne7:=Za (show w.heap.size<W6.heap.size by have:=hz5.out;have:=hb6.size;omega);replace hs7:=Za hs7;clear hS6 hb6 hB7 B57 b7 m0 m1 m2 m3 mg hLf
  go_upto_region 9 with fail
  clear hW7;cases o with
  | none =>
   have hlw2:Yc j S (k:Int)=(8,Zn,0):=by
    rcases hw3 with ⟨_,h⟩ | ⟨v,h,_⟩
    ·exact h
    ·cases h
   have hfin:Hid (g=(8,Zn,0)):=Za (hgj.out.trans hlw2);have t3':(!(none:Option (List UInt8)).isSome)=true:=rfl;have r7':=r7.out;clear hlw2 hw3;obtain⟨k0,k1,k2,k3,k4,k5⟩:=Ze r7';obtain⟨W9,hW9,g9,gr9,gs9⟩:=Zo (a':=.slice none 0 0) (b':=.slice none 0 0) (c':=.slice none 0 0) (d':=.slice none 0 0) r7';obtain⟨n0,n1,n2,n3,_,_⟩:=Ze g9;have hB9:=Za ((B7).out.grown gr9 (B7).out.size (fun q e=>by cases e;omega));replace g9:=Za g9;replace r7':=Za r7';clear gr9 gs9
   go_wp2_with fail
   refine P3 (v:=.tuple #[.agg #[.slice none 0 0,.slice none 0 0,.slice none 0 0,.slice none 0 0],.int .i64 0,.int .i64 8]) (by simp[results,Tryz.results63,go_sem,n0,n1,n2,n3]) rfl ?_;rw[<- hQQ.out,hfin.out];exact⟨(none,0,0),(none,0,0),(none,0,0),(none,0,0),rfl,Zu _ _,hB9.out⟩
  | some v =>
   obtain⟨hmv,hlw2,hI'⟩:Yp ((upR S (q:Int)).1,v,(upR S (q:Int)).2.2)=true/\Yc j S (k:Int)=Yc i ((upR S (q:Int)).1,v,(upR S (q:Int)).2.2) (q:Int)/\Zmk s0 ((upR S (q:Int)).1,v,(upR S (q:Int)).2.2) i (q:Int):=by
    rcases hw3 with ⟨h,_⟩ | ⟨v',h,h1,h2,h3⟩
    ·cases h
    ·cases h
     exact⟨h1,h2,h3⟩
   have S7':=S7.out;rw[hlo.out v rfl] at S7';obtain⟨m0,m1,m2,m3,_,mg⟩:=Ze b7'.out;obtain⟨c0,c1,c2,c3',c4,c5⟩:=Ze G7.out;obtain⟨W8,hW8,g8,gr8,gs8⟩:=Zo (a':=.slice ra.1 ra.2.1 ra.2.2) (b':=.slice rb.1 rb.2.1 rb.2.2) (c':=.slice rc.1 rc.2.1 rc.2.2) (d':=.slice rd.1 rd.2.1 rd.2.2) G7.out
   have hnext:Hid (LwD s0 w w1 w2 g (.int .i64 (q:Int)) W8 i):=Za ⟨_,(q:Int),ra,rb,rc,rd,rfl,hgj.out.trans hlw2,hI',B7.out.grown gr8 B7.out.size (fun q e=>by cases e;omega),by have:=hz7.out;omega,g8,
    Zqw S7' hmv ⟨(A,S.1.1.length,ca),(B,S.1.2.length,cb),(Y,S.2.1.length,y),(some bd,S.2.2.length,cl),G7.out⟩ gr8,(gr8.block w1.heap.size (by have:=hz7.out;omega) (by simp;omega)).trans r7.out⟩
   have t3':(!(some v).isSome)=false:=rfl;replace g8:=Za g8;clear gr8 gs8 hw3 hlw2 hI' hmv S7'
   go_wp2_with fail
   go_roundw
   case rel=>exact⟨i,hnext.out⟩
   case measure =>
    have h1:=Zol hnext.out;have h2:=hj.out;omega}
theorem Zk2 {s:Rm}{k:Ky}:∀ {l:Nat}{a:Int}{x:It},AtT s l a->Zes s l a k=some x->(Y8 (rmV s a) k=true\/1<=Yi (rmV s a) k)/\(l=0->Y8 (rmV s a) k=true)/\∀ j,l=j+1->Zes s j (Zb3 (rmV s a) k) k=some x
 | 0,a,x,hA,h=>by
  cases ht:Y8 (rmV s a) k with
  | true=>exact⟨.inl rfl,fun _=>rfl,fun j hj=>by cases hj⟩
  | false =>
   rw[Zhg,Zfz hA.may ht] at h;cases h
 | l+1,a,x,hA,h=>by
  rw[Zhu] at h;have key:∀ y:It,(rmV s a).2[Xg (rmV s a) k]? = some y->((rmV s a).2.reverse.find? fun x => !Zq k x.1)=some y->∀ j,l+1=j+1->Zes s j (Zb3 (rmV s a) k) k=some x:=fun y hy hf j hj=>by
   obtain rfl:l=j:=by omega
   rw[hf] at h;rw[Zwc hy];exact h
  cases ht:Y8 (rmV s a) k with
  | true =>
   obtain⟨y,hy⟩:∃ y,(rmV s a).2[Yi (rmV s a) k]? = some y:=⟨_,Qh (Zc2 ht)⟩
   refine⟨.inl rfl,fun h=>(by cases h),key y ?_ (Ut hA.may ht hy).2.1⟩;unfold Xg;rw[if_pos ht];exact hy
  | false =>
   rcases Pd (Yi (rmV s a) k) with h0 | h0
   ·rw[Zjy hA.may ht h0] at h
    cases h
   ·obtain⟨p,hp⟩:∃ p,Yi (rmV s a) k=p+1:=⟨Yi (rmV s a) k-1,by omega⟩
    have hle:=Zcs (rmV s a) k;obtain⟨y,hy⟩:∃ y,(rmV s a).2[p]? = some y:=⟨_,Qh (by omega)⟩
    refine⟨.inr h0,fun h=>(by cases h),key y ?_ (Zh2 hA.may ht hp hy)⟩;unfold Xg;rw[if_neg (by rw[ht];decide),hp];exact hy
theorem Zl2 {s:Rm}{k:Ky}{a:Int}{lv:Nat}{x:It}(hA:AtT s lv a) (h:Zes s lv a k=some x):∀ j,j<=lv->Zes s (lv-j) (atW s k a j) k=some x
 | 0,_=>h
 | j+1,hj=>by
  have ih:=Zl2 hA h j (by omega);exact(Zk2 (Zct hA j (by omega)) ih).2.2 (lv-(j+1)) (by omega)
theorem Z59 {n:Nd}{k:Ky}(h:Xn n=true) (ht:Y8 n k=true):Zhx k n.2=Vx n.2 (Xg n k) 1 []:=by{
 have hw:Xg n k=Yi n k:=if_pos ht;obtain⟨y,hy⟩:∃ y,n.2[Xg n k]? = some y:=⟨_,Qh (by rw[hw];exact Zc2 ht)⟩
 have hyk:=(Ut h ht (by rw[<- hw];exact hy)).1;have hne:∀ i z,n.2[i]? = some z->i≠Yi n k->z.1≠k:=fun i z hz hi e=>by
  have:=(Zix h hz).1;rw[e] at this;exact hi this.symm
 conv=>lhs;rw[Zz1 hy]
 rw[Z4c];have e1:Zhx k (n.2.take (Xg n k))=n.2.take (Xg n k):=Zvc fun z hz=>by
  obtain⟨i,hi⟩:=Q6 hz;have hil:=(Qj.1 hi).1;rw[Qr] at hil;rw[Qu (by omega)] at hi;exact hne i z hi (by omega)
 have e2:Zhx k (n.2.drop (Xg n k+1))=n.2.drop (Xg n k+1):=Zvc fun z hz=>by
  obtain⟨i,hi⟩:=Q6 hz;rw[List.getElem?_drop] at hi;exact hne _ z hi (by omega)
 have e3:Zhx k (y::n.2.drop (Xg n k+1))=Zhx k (n.2.drop (Xg n k+1)):=by
  unfold Zhx;rw[List.filter_cons,if_neg (by simpa using hyk)]
 rw[e1,e3,e2];rfl}
def dvV (q:Sv):List Px:=[.int .i64 q.nd.1,.slice q.A q.nd.2.length q.c,.int .i64 (q.pl:Int)]
def dvs (l:List Sv):List Px:=l.flatMap dvV
def Z6p:Px->Nat | .slice _ n _=>n | _=>0
theorem Zp2:(Tryz.prog.info? 102).map (fun i=>(i.zero,i.size,i.bytes))=some (some (.agg #[.int .i64 0,.slice none 0 0,.int .i64 0]),3,40):=by kernel_rfl
theorem Z2u (a b:List Sv):dvs (a++b)=dvs a++dvs b:=by simp[dvs]
structure Z1p (lo:Nat) (s:Rm) (k:Ky) (a:Int) (W:Pw) (A:Option Py) (c:Nat) (l:List Sv):Prop where
 row:W.ownsRow lo 102 3 (.slice A l.length c) l.length (dvs l)
 rows:Rows lo W.heap.size W l
 off:∀ g q,A.map (·.block)=some g->q∈l->g<q.lo\/q.hi<=g
 are:∀ i q,l[i]? = some q->q.nd=rmV s (atW s k a i)/\q.pl=Xg q.nd k
theorem Zo4 {w:Pw}{lo:Nat}{A:Option Py}{c:Nat}{l:List Sv}(h:w.ownsRow lo 102 3 (.slice A l.length c) l.length (dvs l)) (q:Sv) (g m n:Nat) (hg:w.heap[g]? = some (.cells #[.int .i64 q.nd.1,.slice q.A q.nd.2.length q.c,.int .i64 (q.pl:Int)] 102 (0,0))) (hn:l.length=n) (hs:n<100) (hbase:lo<=w.heap.size) :
  ∃ A' c' w',(Qv #[64,64] 64 #[.slice A n c,.slice (some ⟨g,0,none⟩) 1 m]).run Tryz.prog w=.ok (.slice A' (n+1) c') w'/\w'.ownsRow lo 102 3 (.slice A' (l++[q]).length c') (l++[q]).length (dvs (l++[q]))/\w.grownBy w' (A.map (·.block))/\P9 lo w w'/\(A'.map (·.block)=A.map (·.block)\/A'.map (·.block)=some w.heap.size):=by{
 subst hn;obtain⟨i0,hi,hz0,hz1,hz2⟩:=info_parts Zp2;obtain⟨A1,c1,e,_,_,e4,_⟩:=Yr h;cases e
 obtain⟨v',w',hr,o1,g1,b1,k1⟩:=Zfi (P:=Tryz.prog) (w:=w) lo 64 64 102 i0 (.agg #[.int .i64 0,.slice none 0 0,.int .i64 0]) 3 40 Tryz.underlying64 hi hz0 hz1 hz2 rfl (by decide) _ _ _ h ⟨g,0,none⟩ 1 m (dvV q) rfl (World.news_of_block (cs:=#[.int .i64 q.nd.1,.slice q.A q.nd.2.length q.c,.int .i64 (q.pl:Int)]) hg) (fun u hu=>by
  simp[dvV] at hu
  rcases hu with rfl | rfl | rfl <;> rfl) (by unfold maxLen;omega) (by omega) hbase
 obtain⟨A2,c2,rfl,_,_,e5,_⟩:=Yr o1;rw[e4] at g1 k1;rw[e5] at k1;refine⟨A2,c2,w',hr,?_,g1,b1,k1⟩;rw[Z2u,Qi]
 simpa [dvs] using o1}
theorem Z1p.push {lo:Nat}{s:Rm}{k:Ky}{a:Int}{wr W1 w6 w7:Pw}{A A':Option Py}{c c':Nat}{l:List Sv}(h:Z1p lo s k a wr A c l) (q:Sv) (hlo:q.lo=wr.heap.size) (hhi:q.hi=W1.heap.size) (hrow:Ya rIt 5 54 wr.heap.size W1 q.A q.c q.nd.2)
  (hb1:P9 wr.heap.size wr W1) (h16:P9 W1.heap.size W1 w6) (g67:w6.grownBy w7 (A.map (·.block))) (row:w7.ownsRow lo 102 3 (.slice A' (l++[q]).length c') (l++[q]).length (dvs (l++[q]))) (k1:A'.map (·.block)=A.map (·.block)\/A'.map (·.block)=some w6.heap.size)
  (hnd:q.nd=rmV s (atW s k a l.length)) (hst:q.pl=Xg q.nd k) (hl:lo<=wr.heap.size):Z1p lo s k a w7 A' c' (l++[q]):=by{
 have hA:∀ g,A.map (·.block)=some g->g<wr.heap.size:=fun g e=>(h.row.lt g (by rw[<- e];cases A <;> rfl)).2
 have s1:=hb1.size;have s6:=h16.size;have s7:=g67.size;have Zno:∀ x∈l,∀ k,x.lo<=k->k<x.hi->w7.heap[k]? = wr.heap[k]? := fun x hx k h1 h2=>by
  obtain⟨_,_,h3,_⟩:=h.rows.ok x hx;rw[g67.block k (by omega) (fun e=>by rcases h.off _ x e.symm hx with h4 | h4 <;> omega),h16.block k (by omega),hb1.block k (by omega)]
 refine⟨row,⟨fun x hx=> ?_,?_⟩,fun g x e hx=> ?_,fun i x e=> ?_⟩
 ·rcases Qo.1 hx with hx | hx
  ·obtain⟨h1,h2,h3,h4⟩:=h.rows.ok x hx
   exact⟨h1,h2,by omega,h4.same (Zno x hx)⟩
  ·obtain rfl:=Qs.1 hx
   refine⟨by omega,by omega,by omega,W1,hhi.symm,by rw[hlo];exact hrow,fun k h1 h2=> ?_⟩;rw[g67.block k (by omega) (fun e=>by have:=hA _ e.symm;omega),h16.block k (by omega)]
 ·rw[List.pairwise_append]
  refine⟨h.rows.apart,List.pairwise_singleton _ _,fun x hx y hy=> ?_⟩;obtain rfl:=Qs.1 hy;have:=(h.rows.ok x hx).2.2.1;omega
 ·have hg:A.map (·.block)=some g\/g=w6.heap.size:=by
   rcases k1 with k1 | k1
   ·exact .inl (by rw[<- k1,e])
   ·rw[e] at k1
    exact .inr (by simpa using k1)
  rcases Qo.1 hx with hx | hx
  ·rcases hg with hg | hg
   ·exact h.off g x hg hx
   ·have:=(h.rows.ok x hx).2.2.1
    omega
  ·obtain rfl:=Qs.1 hx
   rcases hg with hg | hg
   ·have:=hA g hg
    omega
   ·omega
 ·rcases Nat.lt_or_ge i l.length with hi | hi
  ·rw[Pe hi] at e
   exact h.are i x e
  ·rw[Pf hi] at e
   have hi0:i=l.length:=by
    have:=(Qj.1 e).1;simp at this;omega
   subst hi0;simp at e;subst e;exact⟨hnd,hst⟩}
theorem Zso (qa qb qc qd:Option Py×Nat×Nat) (s:Rm) (a:Int) (lv:Nat) (hlv:lv<6) (k:Ky) (x:It) (hx:Zes s lv a k=some x) (w:Pw) (h:Sto (Old w) w (.agg #[.slice qa.1 qa.2.1 qa.2.2,.slice qb.1 qb.2.1 qb.2.2,.slice qc.1 qc.2.1 qc.2.2,.slice qd.1 qd.2.1 qd.2.2]) s) (hT:AtT s lv a) :
  P7 Tryz.prog 25 #[.agg #[.slice qa.1 qa.2.1 qa.2.2,.slice qb.1 qb.2.1 qb.2.2,.slice qc.1 qc.2.1 qc.2.2,.slice qd.1 qd.2.1 qd.2.2],.int .i64 a,kyV k] w fun e w'=>∃ A c l,e=.returned (.tuple #[.slice A l.length c,.int .i64 0])/\l.length=lv+1/\Z1p w.heap.size s k a w' A c l/\P9 w.heap.size w w':=by{
 obtain⟨w1,hw1,b1,hs1,hB1⟩:=Vm w (.slice qa.1 qa.2.1 qa.2.2) (.slice qb.1 qb.2.1 qb.2.2) (.slice qc.1 qc.2.1 qc.2.2) (.slice qd.1 qd.2.1 qd.2.2) 29;obtain⟨w2,hw2,-,-,-,hs2,hB2,b2⟩:=Xf w1 (.int .u8 (k.1.toNat:Int)) (.int .u32 k.2.1) (.int .u32 k.2.2) 37;have hB12:=hB1.trans (hB2.mono hB1.size);have G1:=Za ((hB2.block w.heap.size (by omega)).trans b1);have G2:=Za b2;have B2:=Za hB12;have SZ:=Za (show w1.heap.size=w.heap.size+1/\w2.heap.size=w.heap.size+2 from ⟨hs1,by omega⟩);have HS:=Za h;have hdn:=Za (fun j hj=>And.intro (Zct (k:=k) hT j hj) (Zk2 (Zct (k:=k) hT j hj) (Zl2 hT hx j hj)));replace hs1:=Za hs1;replace hs2:=Za hs2;replace hT:=Za hT;replace hx:=Za hx;clear h hB1 hB2 hB12 b1 b2;unfold kyV
 go_enter Tryz.func25,Tryz.ntmps25
 go_wp2_with fail
 clear hw1 hw2
 go_loopw [8,9] (fun sv av wr=>∃ (j:Nat) (A:Option Py) (c:Nat) (l:List Sv),j<=lv/\l.length=j/\sv=.slice A l.length c/\av=.int .i64 (atW s k a j)/\Z1p w2.heap.size s k a wr A c l/\P9 w2.heap.size w2 wr) (fun sv _ _=>lv+1-Z6p sv)
 case atStart=>exact⟨0,none,0,[],by omega,rfl,rfl,rfl,⟨Pg ..,⟨fun _ h=>(Ph h).elim,List.Pairwise.nil⟩,fun _ _ e=>(nomatch e),fun _ _ e=>(nomatch e)⟩,Qa _ _⟩
 case round =>
  obtain⟨j,A,c,l,hj,hll,rfl,rfl,hW,hb⟩:=hrel;obtain⟨hA,hpl0,hth,_⟩:=hdn.out j hj;have hok:=hA.ok;have hlv:=hA.lvl;have hmay:=hA.may;have hBr:=Za (B2.out.trans (hb.mono B2.out.size));have hN:=Zeo _ s (atW s k a j) wr (HS.out.below hBr.out);have hne:=(Zs hmay).1.2.2.2;have hfive:=Za (Zs hmay).1.2.2.1;obtain⟨nd,hnd⟩:∃ q,rmV s (atW s k a j)=q:=⟨_,rfl⟩
  have hnext:Hid (nd.1≠0->∃ y,nd.2[Xg nd k]? = some y/\y.2.1=atW s k a (j+1)):=Za (fun h0=>by
   rw[hnd] at hne;rw[hnd] at hlv;have hlt:=Zch k (hne (by omega));refine⟨_,Qh hlt,?_⟩;show _=Zb3 (rmV s (atW s k a j)) k
   rw[hnd,Zwc (Qh hlt)])
  rw[hok,hnd] at hN;rw[hnd] at hlv hfive hpl0;have hplw:Hid (Xg nd k=if Y8 nd k=true then Yi nd k else Yi nd k-1):=Za rfl;have hple:=Zcs nd k;clear hmay hne hok hth;have hlv0:nd.1=0->j=lv:=fun h0=>by omega
  obtain⟨lw,hlw⟩:∃ q,nd.1=q:=⟨_,rfl⟩
  obtain⟨nl,hnl⟩:∃ q,nd.2.length=q:=⟨_,rfl⟩
  obtain⟨pn,hpn⟩:∃ q,Yi nd k=q:=⟨_,rfl⟩
  obtain⟨tn,htn⟩:∃ q,Y8 nd k=q:=⟨_,rfl⟩
  obtain⟨pl,hpl⟩:∃ q,Xg nd k=q:=⟨_,rfl⟩
  rw[hpn,htn] at hpl0;rw[hpn,htn,hpl] at hplw;rw[hpn,hnl] at hple;have g1:=Za ((hb.block w.heap.size (by have:=SZ.out;omega)).trans G1.out);have g2:=Za ((hb.block w1.heap.size (by have:=SZ.out;omega)).trans G2.out);obtain⟨k0,k1,k2,k3,_⟩:=Ze g1.out;have hW':=Za hW;have hb':=Za hb;have hnd':=Za hnd;replace hll:=Za hll;clear hA hW hb hnd
  go_upto_region 3 with fail
  go_wp2_with fail
  with_reducible refine hN.mono ?_
  rintro e W1 ⟨u,rfl,⟨Z,zc,rfl,hin,hrow⟩,hb1⟩;rw[hnl,hlw];clear hN k0 k1 k2 k3;obtain⟨w3,hw3,b3,hs3,hB3⟩:=Zy W1 (.int .i64 lw) (.slice Z nl zc) 81;have g23:=(hB3.block w1.heap.size (by have:=hb1.size;have:=hb'.out.size;have:=SZ.out;omega)).trans ((hb1.block w1.heap.size (by have:=hb'.out.size;have:=SZ.out;omega)).trans g2.out);obtain⟨y0,y1,_⟩:=Zg b3;obtain⟨z0,z1,z2,_⟩:=Zj g23;have hst:=Zew _ nd k w3 ((Zjw.nod ⟨Z,zc,rfl,hin,hrow⟩).drop.below hB3);rw[hnl,hlw,hpn,htn] at hst;have B13:=Za hB3;have hrow1:=Za hrow;have B1:=Za hb1;have b3':=Za b3;clear hb1 hB3 hrow hin b3 g23;replace hs3:=Za hs3
  go_upto_region 6 with fail
  clear hw3;unfold kyV at hst
  go_wp2_with fail
  with_reducible refine hst.mono ?_
  rintro e w4 ⟨rfl,hb4⟩;clear hst y0 y1 z0 z1 z2;have b4:=(hb4.block W1.heap.size (by have:=hs3.out;omega)).trans b3'.out;obtain⟨y0,y1,_⟩:=Zg b4;obtain⟨w6,hw6,b6,hs6,hB6⟩:∃ w6,w4.alloc (.cells #[.int .i64 lw,.slice Z nl zc,.int .i64 (pl:Int)] 102)=w6/\w6.heap[w4.heap.size]? = some (.cells #[.int .i64 lw,.slice Z nl zc,.int .i64 (pl:Int)] 102 (0,0))/\w6.heap.size=w4.heap.size+1/\P9 w4.heap.size w4 w6:=⟨_,rfl,P4 _ _,by simp,(Qa _ _).alloc (Qe _) _⟩
  have B16:Hid (P9 W1.heap.size W1 w6):=Za (B13.out.trans ((hb4.trans (hB6.mono hb4.size)).mono B13.out.size));have B26:Hid (P9 w2.heap.size w2 w6):=Za (hb'.out.trans ((B1.out.mono hb'.out.size).trans (B16.out.mono (Qf hb'.out.size B1.out.size))));have row6:=Zr (Zr hW'.out.row B1.out) B16.out;obtain⟨A',c',w7,hr7,row7,gr7,hb7,k7⟩:=Zo4 row6 ⟨nd,pl,false,Z,zc,wr.heap.size,W1.heap.size⟩ w4.heap.size 1 j (by rw[hlw,hnl];exact b6) hll.out (by omega) B26.out.size;have hW7:=Za (Z1p.push hW'.out ⟨nd,pl,false,Z,zc,wr.heap.size,W1.heap.size⟩ rfl rfl hrow1.out B1.out B16.out gr7 row7 k7 (by rw[hll.out];exact hnd'.out.symm) hpl.symm hb'.out.size);have hB27:=Za (B26.out.trans hb7);have hAlt:∀ g,A.map (·.block)=some g->g<wr.heap.size:=fun g e=>(hW'.out.row.lt g (by rw[<- e];cases A <;> rfl)).2
  have f3:=(gr7.block W1.heap.size (by have:=B16.out.size;have:=B13.out.size;have:=hs3.out;have:=hb4.size;have:=hB6.size;omega) (fun e=>by have:=hAlt _ e.symm;have:=B1.out.size;omega)).trans ((hB6.block W1.heap.size (by have:=hs3.out;have:=hb4.size;omega)).trans b4);have H7:=Za hr7;have hl7:Hid (j+1=(l++[(⟨nd,pl,false,Z,zc,wr.heap.size,W1.heap.size⟩:Sv)]).length):=Za (by rw[Qi,hll.out];rfl);have hlj:Hid (l.length=j):=hll;obtain⟨l',hl'⟩:∃ q,l++[(⟨nd,pl,false,Z,zc,wr.heap.size,W1.heap.size⟩:Sv)]=q:=⟨_,rfl⟩
  have hrow7:Hid (Ya rIt 5 54 wr.heap.size w7 Z zc nd.2):=Za (by
   obtain⟨_,_,h3,h4⟩:=hW7.out.rows.ok ⟨nd,pl,false,Z,zc,wr.heap.size,W1.heap.size⟩ (by simp)
   exact h4.use h3)
  rw[hl'] at hW7 hl7;replace hl':=Za hl';obtain⟨n0,n1,_⟩:=Zg f3;replace f3:=Za f3;replace hs6:=Za hs6;replace b6:=Za b6;clear hr7 gr7 hb7 row7 row6 k7 hB6 hAlt hW' hb4 b4;have hfin:Hid (lw=0->∃ A0 c0 l0,Ending.returned (.tuple #[.slice A' (j+1) c',.int .i64 0])=.returned (.tuple #[.slice A0 l0.length c0,.int .i64 0])/\l0.length=lv+1/\Z1p w.heap.size s k a w7 A0 c0 l0/\P9 w.heap.size w w7):=Za fun h0=>by
   have hjl:=hlv0 (by rw[hlw];exact h0)
   refine⟨A',c',l',by rw[hl7.out],by rw[<- hl7.out,hjl],⟨Zdq hW7.out.row (by have:=SZ.out;omega),⟨fun q hq=>by
    obtain⟨h1,h2,h3,h4⟩:=hW7.out.rows.ok q hq
    exact⟨by have:=SZ.out;omega,h2,h3,h4⟩,hW7.out.rows.apart⟩,hW7.out.off,hW7.out.are⟩,B2.out.trans (hB27.out.mono B2.out.size)⟩
  have ijl:Hid (lw≠0->j+1<=lv):=Za fun h0=>by
   have:(rmV s (atW s k a j)).1=nd.1:=by rw[hnd'.out]
   rw[hlw] at hlv;omega
  rw[hlj.out];have hplT:Hid (tn=true->pl=pn):=Za fun h=>by rw[hplw.out,if_pos h]
  have hplF:Hid (tn=false->pl=pn-1/\1<=pn):=Za fun h=>by
   rw[hplw.out,if_neg (by rw[h];decide)];exact⟨rfl,hpl0.resolve_left (by rw[h];decide)⟩
  have hn5:nl<=5:=by rw[<- hnl];exact hfive.out
  have hnextl:=hnext.out;rw[hlw,hpl] at hnextl;replace hnextl:=Za hnextl;replace hlw:=Za hlw;replace hnl:=Za hnl;replace hpn:=Za hpn;replace htn:=Za htn;replace hpl:=Za hpl;replace hplw:=Za hplw;clear hpl0 hlv hlv0;have hend:Hid (∀ j',j'=j->lw≠0->∃ (j:Nat) (A:Option Py) (c:Nat) (l:List Sv),j<=lv/\l.length=j/\Value.slice A' (j'+1) c'=.slice A l.length c/\Value.int .i64 (atW s k a (j'+1))=.int .i64 (atW s k a j)/\Z1p w2.heap.size s k a w7 A c l/\P9 w2.heap.size w2 w7):=Za fun j' e h0=>by
   subst e;exact⟨j'+1,A',c',l',ijl.out h0,hl7.out.symm,by rw[<- hl7.out],rfl,hW7.out,hB27.out⟩
  cases tn with
  | true =>
   obtain rfl:=hplT.out rfl;by_cases h0:lw=0
   ·subst h0
    have hf:=Za (hfin.out rfl)
    go_wp2_with (at_builtin;refine Zi rfl _ _ _ rfl rfl rfl H7.out ?_;clear H7)
    exact P3 (v:=.tuple #[.slice A' (j+1) c',.int .i64 0]) (by simp[results,Tryz.results25,go_sem]) rfl hf.out
   ·have t0:(lw==0)=false:=by simpa using h0
    obtain⟨y,hy,hyn⟩:=hnextl.out h0;obtain⟨ad,E,ce,e0,_,⟨_,_,_,t3,_⟩,_⟩:=Zao (hrow7.out.rel Yl) hy;have hpnl:pl<nl:=by rw[<- hnl.out];exact(Qj.1 hy).1
    subst e0;replace hy:=Za hy;rw[hyn] at t3;replace hyn:=Za hyn;have he:=Za (hend.out j rfl h0);obtain⟨nx,hnx⟩:∃ q,atW s k a (j+1)=q:=⟨_,rfl⟩
    rw[hnx] at t3 he;replace hnx:=Za hnx
    go_wp2_with (at_builtin;refine Zi rfl _ _ _ rfl rfl rfl H7.out ?_;clear H7)
    go_roundw
    case rel=>exact he.out
    case measure =>
     have h1:=hlj.out;simp[Z6p];omega
  | false =>
   obtain⟨e,h1⟩:=hplF.out rfl;have i8:IntKind.i64.wrap ((pn:Int)-1)=(pl:Int):=by rw[IntKind.wrap_i64];omega
   replace e:=Za e;replace h1:=Za h1;by_cases h0:lw=0
   ·subst h0
    have hf:=Za (hfin.out rfl)
    go_wp2_with (at_builtin;refine Zi rfl _ _ _ rfl rfl rfl H7.out ?_;clear H7)
    exact P3 (v:=.tuple #[.slice A' (j+1) c',.int .i64 0]) (by simp[results,Tryz.results25,go_sem]) rfl hf.out
   ·have t0:(lw==0)=false:=by simpa using h0
    obtain⟨y,hy,hyn⟩:=hnextl.out h0;obtain⟨ad,E,ce,e0,_,⟨_,_,_,t3,_⟩,_⟩:=Zao (hrow7.out.rel Yl) hy;have hpnl:pl<nl:=by rw[<- hnl.out];exact(Qj.1 hy).1
    subst e0;replace hy:=Za hy;rw[hyn] at t3;replace hyn:=Za hyn;have he:=Za (hend.out j rfl h0);obtain⟨nx,hnx⟩:∃ q,atW s k a (j+1)=q:=⟨_,rfl⟩
    rw[hnx] at t3 he;replace hnx:=Za hnx
    go_wp2_with (at_builtin;refine Zi rfl _ _ _ rfl rfl rfl H7.out ?_;clear H7)
    go_roundw
    case rel=>exact he.out
    case measure =>
     have h1:=hlj.out;simp[Z6p];omega}
end Go.Proofs.YtgmbjnajdfgenaaGreat
namespace Go.Proofs.YtgmbjnajdfgenaaGreat
open Go.RowKit Go.Shelf
attribute [local go_sem] Oper.semAt_some
abbrev Z6h (f:Nat->Sv) (x:Nat):Array Px:=#[.int .i64 (x:Int),.agg #[.int .i64 (f x).nd.1,.slice (f x).A (f x).nd.2.length (f x).c,.int .i64 ((f x).pl:Int)]]
structure At3 (w:Pw) (p:Py) (q:Sv):Prop where
 c0:w.cell? p=some (.int .i64 q.nd.1)
 c1:w.cell? ⟨p.block,p.off+1,none⟩=some (.slice q.A q.nd.2.length q.c)
 c2:w.cell? ⟨p.block,p.off+2,none⟩=some (.int .i64 (q.pl:Int))
theorem At3.same {w w':Pw}{p:Py}{q:Sv}(h:At3 w p q) (e:w'.heap[p.block]? = w.heap[p.block]?):At3 w' p q :=
 ⟨(Qd e).trans h.c0,(Qd (a:=⟨p.block,p.off+1,none⟩) e).trans h.c1,(Qd (a:=⟨p.block,p.off+2,none⟩) e).trans h.c2⟩
theorem Ztx (Bs cap m:Nat) (A:Option Py) (ad:Py) (f:Nat->Sv) (w:Pw) (hBs:w.cell? ⟨Bs,0,none⟩=some (.slice A m cap)) (hA:0<m->A=some ad/\ad.block<w.heap.size) (hm:m<=1000) (hc:∀ j,j<m->At3 w (ad.add (j*3)) (f j)) :
  Z6y Tryz.prog 83 #[.pointer (some ⟨Bs,0,none⟩)] (Z6h f) (fun _ pre x _ _=>pre=Vu m pre.length/\pre.length<m/\x=m-1-pre.length) (fun xs=>xs=Vu m m) (fun k=>k=Bs\/(0<m/\k=ad.block)) w:=by{
 intro l M J Jx o W hW hJ hJx hM hJs hZ hY h0;have hBl:Bs<w.heap.size:=Q7 _ _ hBs;have hzB:=Za (hZ Bs (.inl rfl));have hzA:=Za (fun h:0<m=>hZ ad.block (.inr ⟨h,rfl⟩));have hcW:=Za (fun j (hj:j<m)=>(hc j hj).same (hW.block _ (by rw[Zh];exact(hA (by omega)).2)));have hBW:=Za ((hW.cell (p:=⟨Bs,0,none⟩) hBl).trans hBs);have hlt:=Za (show Bs<W.heap.size/\(0<m->ad.block<W.heap.size) from ⟨Qg hBl hW.size,fun h=>Qg (hA h).2 hW.size⟩);have hAA:=Za (fun h=>(hA h).1);have b0:=hBW.out;replace hY:=Za hY;replace hM:=Za hM;replace hJs:=Za hJs;replace hZ:=Za hZ;clear hc hBs hA hW;refine callsIn_wide.1 (callsIn_of_wp (n:=5) Tryz.func83 rfl trivial ?_ rfl);simp only[Tryz.ntmps83,Q8,Qw,Qx,Pi,Pj,Pk,Pm,Pn,Po,Pp,Pq]
 gi_wp2
 clear b0
 gi_loopw [3] (fun i wr=>∃ (k:Nat) (q:Option Nat),k<=m/\i=.int .i64 ((m:Int)-1-k)/\J (Vu m k,q) wr/\Zdn M o q W wr)
  (fun i _=>(intOf i+1).toNat)
 case atStart=>exact⟨0,o,Nat.zero_le _,by simp,h0,Zdn.refl _ _ _⟩
 case round =>
  obtain⟨k,q,hk,rfl,hJr,hKr⟩:=hrel;have hbr:wr.cell? ⟨Bs,0,none⟩=some (.slice A m cap):=(hKr.cell (p:=⟨Bs,0,none⟩) hlt.out.1 hzB.out.1 hzB.out.2).trans hBW.out;by_cases hkm:k<m
  ·obtain rfl:=hAA.out (by omega)
   obtain⟨g1,g2,g3⟩:=(hcW.out (m-1-k) (by omega)).same (w':=wr) (by rw[Zh];exact(hKr.same ad.block (hlt.out.2 (by omega)) (hzA.out (by omega)).1 (hzA.out (by omega)).2).1);obtain⟨fn,tmps,assign,body,hy,hR⟩:=hY.out _ q (m-1-k) wr hJr ⟨by rw[Vi],by rw[Vi];exact hkm,by rw[Vi]⟩;unfold Z6h at hy;have e1:((m:Int)-1-k).toNat=m-1-k:=by omega
   have e2:((m-1-k:Nat):Int)=(m:Int)-1-k:=by omega
   rw[e2] at hy;clear e2;have hds:=Za (Zfv m k);replace hR:=Za hR;replace hKr:=Za hKr;replace hJr:=Za hJr;generalize (f (m-1-k)).nd.1=q1 at *;generalize (f (m-1-k)).A=q2 at *;generalize (f (m-1-k)).nd.2.length=q3 at *;generalize (f (m-1-k)).c=q4 at *;generalize ((f (m-1-k)).pl:Int)=q5 at *
   gi_wp2
   refine(Ztp hR.out).mono ?_;rintro e w5 ⟨q5',hk5,⟨rfl,J5⟩ | ⟨rfl,J5⟩⟩
   ·have hK5:=Za (hKr.out.trans hk5)
    clear hk5
    gi_wp2
    go_roundw
    case rel=>exact⟨k+1,q5',by omega,by go_num,by rw[hds.out];exact J5,hK5.out⟩
    case measure=>simp[intOf];omega
   ·gi_wp2
    refine P3 (results_none rfl _ _ _) rfl ?_;exact⟨⟨_,rfl⟩,.inr ⟨_,_,J5⟩⟩
  ·obtain rfl:k=m:=by omega
   gi_wp2
   go_end0
   exact⟨⟨_,rfl⟩,.inl ⟨_,_,rfl,hJr⟩⟩}
theorem Zk3 (a:Option Py) (len cap:Nat) (w:Pw) :
  P7 Tryz.prog 48 #[.slice a len cap] w fun e w'=>e=.returned (.func (.func 83) #[] #[.pointer (some ⟨w.heap.size,0,none⟩)])/\w'=w.alloc (.cells #[.slice a len cap] 64):=by
 go_enter Tryz.func48,Tryz.ntmps48
 go_wp2_with fail
 go_ret;exact⟨rfl,rfl⟩
theorem Z1k {l:List Sv}{i:Nat}{x:Sv}(h:l[i]? = some x):∀ j u,(dvV x)[j]? = some u->(dvs l)[i*3+j]? = some u:=by{
 induction l generalizing i with
 | nil=>simp at h
 | cons y l ih =>
  intro j u hj;have hj4:j<3:=(Qj.1 hj).1;cases i with
  | zero =>
   simp at h;subst h;show (dvV y++dvs l)[0*3+j]? = _;rw[Pe (by show 0*3+j<3;omega),Nat.zero_mul,Q9];exact hj
  | succ i =>
   show (dvV y++dvs l)[(i+1)*3+j]? = _;rw[Pf (by show 3<=_;omega),show (i+1)*3+j-(dvV y).length=i*3+j by show _-3=_;omega];exact ih (by simpa using h) j u hj}
theorem Zyd {w:Pw}{lo c:Nat}{A:Option Py}{l:List Sv}(h:w.ownsRow lo 102 3 (.slice A l.length c) l.length (dvs l)):∃ ad:Py,(0<l.length->A=some ad/\lo<=ad.block/\ad.block<w.heap.size)/\∀ j,j<l.length->At3 w (ad.add (j*3)) (l[j]?.getD svZ):=by{
 rcases Pd l.length with h0 | h0
 ·exact⟨⟨0,0,none⟩,fun h=>by omega,fun j hj=>by omega⟩
 rcases h.2 with ⟨_,e⟩ | ⟨g,cap,cur,e,hb,hg,_⟩
 ·omega
 ·cases e
  refine⟨⟨g,0,none⟩,fun _=>⟨rfl,hb,(Qc.1 hg).1⟩,fun j hj=> ?_⟩;have hx:l[j]? = some l[j]:=Qh hj;have hc:=fun i u hu=>h.cells (g:=g) rfl _ u (Z1k hx i u hu)
  rw[hx];have e0:=hc 0 _ rfl;have e1:=hc 1 _ rfl;have e2:=hc 2 _ rfl;rw[Uq,Q9] at e0 e1 e2;rw[Uq,Q9];exact⟨e0,e1,e2⟩}
noncomputable def stO (k:Ky) (s:Rm) (a:Int) (l:Nat):Nat->Int×Rm×List It×Int
 | 0=>(0,s,[],0)
 | d+1=>Zt k d s (atW s k a (l-d))
theorem Z12 {k:Ky}{s:Rm}{a:Int}{l:Nat}{e:Int}{i:Nat}(h:stO k s a l i=(e,Zn,[],0)) (he:e≠0):∀ j,i<=j->j<=l+1->stO k s a l j=(e,Zn,[],0)
 | 0,hi,_=>by
  obtain rfl:i=0:=by omega
  exact h
 | j+1,hi,hj=>by
  rcases Nat.lt_or_ge j i with h1 | h1
  ·obtain rfl:i=j+1:=by omega
   exact h
  ·have ih:=Z12 h he j h1 (by omega)
   cases j with
   | zero =>
    unfold stO at ih;cases ih;exact absurd rfl he
   | succ d =>
    have ih':Zt k d s (atW s k a (l-d))=(e,Zn,[],0):=ih;have ha:Zb3 (rmV s (atW s k a (l-(d+1)))) k=atW s k a (l-d):=by
     rw[show l-d=(l-(d+1))+1 by omega];rfl
    show Zt k (d+1) s (atW s k a (l-(d+1)))=_;unfold Zt;rw[ha,ih'];show (if e=0 then _ else _)=_;rw[if_neg he]
theorem Zxi {k:Ky}{s:Rm}{a:Int}{l:Nat}(h6:l<6) (hA:AtT s l a){d:Nat}(hd:d<=l){t:Rm}{L:List It}{held:Int}(h:stO k s a l (d+1)=(0,t,L,held)):Z2b s t d L held:=by
 have h1:=Zct (k:=k) hA (l-d) (by omega);rw[show l-(l-d)=d by omega] at h1;exact X8 (by omega) h1 h
theorem Z31 {k:Ky}{s:Rm}{a:Int}{l:Nat}{x:It}(h6:l<6) (hA:AtT s l a) (hx:Zes s l a k=some x){i:Nat}(hi:i<=l){t:Rm}{held:Int}(h:stO k s a l i=(0,t,[],held)) :
  held=0/\stO k s a l (i+1)=(0,t,Vx (rmV s (atW s k a (l-i))).2 (Xg (rmV s (atW s k a (l-i))) k) 1 [],0):=by{
 cases i with
 | zero =>
  unfold stO at h;cases h;refine⟨rfl,?_⟩;show Zt k 0 s (atW s k a (l-0))=_;unfold Zt;have hd:=Zct (k:=k) hA l (Qe _);rw[Qy] at hd;have ho:=Zl2 hA hx l (Qe _);rw[Qy] at ho;rw[Nat.sub_zero,Z59 hd.may ((Zk2 hd ho).2.1 rfl)]
 | succ d =>
  have G:=Zxi h6 hA (by omega) h;have hh:=G.none rfl;refine⟨hh,?_⟩;subst hh;have h':Zt k d s (atW s k a (l-d))=(0,t,[],0):=h;have ha:Zb3 (rmV s (atW s k a (l-(d+1)))) k=atW s k a (l-d):=by
   rw[show l-d=(l-(d+1))+1 by omega];rfl
  show Zt k (d+1) s (atW s k a (l-(d+1)))=_;unfold Zt;rw[ha,h'];show (if (0:Int)=0 then _ else _)=_;rw[if_pos rfl,if_pos rfl]}
theorem Zs9 {s t:Rm}{M:List It}(h:∀ q∈M,rmV t q.2.1=rmV s q.2.1) (p:Nat) (L:List It):Zz t M p L=Zz s M p L:=by{
 unfold Zz;cases h1:M[p+1]? with
 | some c=>simp only[h c (Qp h1)]
 | none =>
  cases h2:M[p-1]? with
  | some b=>simp only[h b (Qp h2)]
  | none=>rfl}
theorem Z3s {k:Ky}{s:Rm}{a:Int}{l:Nat}(h6:l<6) (hA:AtT s l a){d:Nat}(hd:d+1<=l){t:Rm}{L:List It}{held:Int}(hL:L≠[]) (h:stO k s a l (d+1)=(0,t,L,held)) :
  (∀ q∈(rmV s (atW s k a (l-(d+1)))).2,rmE t q.2.1=0/\0<(rmV t q.2.1).2.length) /\
  Z4u s t (rmV s (atW s k a (l-(d+1)))).2 (Xg (rmV s (atW s k a (l-(d+1)))) k) d L /\
  Zz t (rmV s (atW s k a (l-(d+1)))).2 (Xg (rmV s (atW s k a (l-(d+1)))) k) L=Zz s (rmV s (atW s k a (l-(d+1)))).2 (Xg (rmV s (atW s k a (l-(d+1)))) k) L /\
  (rmV s (atW s k a (l-(d+1)))).1=((d+1:Nat):Int)/\Xg (rmV s (atW s k a (l-(d+1)))) k<(rmV s (atW s k a (l-(d+1)))).2.length/\(rmV s (atW s k a (l-(d+1)))).2.length<=5 /\
  stO k s a l (d+1+1)=(if (Zpo t ((d:Int),(Zz s (rmV s (atW s k a (l-(d+1)))).2 (Xg (rmV s (atW s k a (l-(d+1)))) k) L).2.2) held).1=0 then
   (0,(Zpo t ((d:Int),(Zz s (rmV s (atW s k a (l-(d+1)))).2 (Xg (rmV s (atW s k a (l-(d+1)))) k) L).2.2) held).2.1,
    Vx (rmV s (atW s k a (l-(d+1)))).2 (Zz s (rmV s (atW s k a (l-(d+1)))).2 (Xg (rmV s (atW s k a (l-(d+1)))) k) L).1 (Zz s (rmV s (atW s k a (l-(d+1)))).2 (Xg (rmV s (atW s k a (l-(d+1)))) k) L).2.1 [upI (Zz s (rmV s (atW s k a (l-(d+1)))).2 (Xg (rmV s (atW s k a (l-(d+1)))) k) L).2.2 (Zpo t ((d:Int),(Zz s (rmV s (atW s k a (l-(d+1)))).2 (Xg (rmV s (atW s k a (l-(d+1)))) k) L).2.2) held).2.2],
    (Zpo t ((d:Int),(Zz s (rmV s (atW s k a (l-(d+1)))).2 (Xg (rmV s (atW s k a (l-(d+1)))) k) L).2.2) held).2.2)
   else ((Zpo t ((d:Int),(Zz s (rmV s (atW s k a (l-(d+1)))).2 (Xg (rmV s (atW s k a (l-(d+1)))) k) L).2.2) held).1,Zn,[],0)):=by{
 have G:=Zxi h6 hA (by omega) h;have h1:=Zct (k:=k) hA (l-(d+1)) (by omega);rw[show l-(l-(d+1))=d+1 by omega] at h1;have h':Zt k d s (atW s k a (l-d))=(0,t,L,held):=h;have ha:Zb3 (rmV s (atW s k a (l-(d+1)))) k=atW s k a (l-d):=by
  rw[show l-d=(l-(d+1))+1 by omega];rfl
 have hun:stO k s a l (d+1+1)=Zt k (d+1) s (atW s k a (l-(d+1))):=rfl;rw[hun];generalize atW s k a (l-(d+1))=b at *;have hm:=h1.may;have h5:=(Zs hm).1.2.2.1;have hne:0<(rmV s b).2.length:=(Zs hm).1.2.2.2 (by rw[h1.lvl];omega);have hpl:=Zch k hne;have hMs:∀ q∈(rmV s b).2,Zi6 s s d q.2.1:=fun q hq=>Zns (h1.down hq)
 have hkn:∀ q∈(rmV s b).2,rmE t q.2.1=0/\rmV t q.2.1=rmV s q.2.1:=fun q hq=>by
  have hok:=(hMs q hq).ok.1;obtain⟨_,e1,e2⟩:=V5 G.keep (Yu hok).2;exact⟨e1.trans hok,e2⟩
 have hmrg:=Zru (p:=Xg (rmV s b) k) G hpl hMs;refine⟨fun q hq=>⟨(hkn q hq).1,?_⟩,hmrg,Zs9 (fun q hq=>(hkn q hq).2) _ _,h1.lvl,hpl,h5,?_⟩
 ·rw[(hkn q hq).2]
  obtain⟨tb,e,hr⟩:=h1.below d rfl q hq;obtain⟨_,_,r3,_⟩:=Zan hr;obtain⟨y0,q0,e0,_⟩:=Zd4 r3;rw[e0];exact Nat.succ_pos _
 ·have hlay:=Zvs (s:=t) (lv:=(d:Int)) (held:=held) hmrg.few (by
   rcases G.own with h | ⟨_,_,_,q,hq,hqe⟩
   ·exact .inl h
   ·exact .inr ⟨q,hmrg.sub q hq,hqe⟩)
  rw[hlay]
  conv=>lhs;unfold Zt
  rw[ha,h'];show (if (0:Int)=0 then _ else _)=_;rw[if_pos rfl,if_neg hL];have hfew:=hmrg.few;clear hmrg;generalize Zz s (rmV s b).2 (Xg (rmV s b) k) L=mg at *;obtain⟨first,many,L'⟩:=mg;simp only;by_cases hb:(Ym t (d:Int) L').1=0
  ·simp only[hb,if_true]
   obtain⟨u,up,e⟩:∃ u up,Ym t (d:Int) L'=(0,u,up):=⟨_,_,Prod.ext hb rfl⟩
   rw[e];have hup:∃ z,up=[upI L' z]:=by
    rcases Za5 e with ⟨_,_,rfl⟩ | ⟨h6',_⟩
    ·exact⟨_,rfl⟩
    ·have:L'.length<=5:=hfew
     omega
   obtain⟨z,rfl⟩:=hup;rfl
  ·simp only[hb,if_false]}
theorem Z47 {s:Rm}{k:Ky}{l:Nat}{b:Int}{x:It}(hA:AtT s l b) (h:Zes s l b k=some x):Xg (rmV s b) k<(rmV s b).2.length/\(rmV s b).2.length<=5/\Zmp (rmV s b).1:=by{
 refine⟨?_,(Zs hA.may).1.2.2.1,(Zvo hA.ok).lv⟩;cases l with
 | zero =>
  have ht:=(Zk2 hA h).2.1 rfl;unfold Xg;rw[if_pos ht];exact Zc2 ht
 | succ l=>exact Zch k ((Zs hA.may).1.2.2.2 (by rw[hA.lvl];omega))}
theorem Zd7 {C Y:List Px}{a:Nat}(h:a<=C.length):(splice C a Y).take a=C.take a:=by
 unfold splice;rw[List.take_append_of_le_length (by rw[Qr];omega),Qz,Nat.min_self]
def Z1d (lo:Nat) (w:Pw) (A:Option Py) (c:Nat) (L:List Iv) (e:P8) (w':Pw):Prop:=e=.returned (.slice A L.length c)/\w'.ownsRow lo 54 5 (.slice A L.length c) L.length (Zp L)/\w.grownBy w' (A.map (·.block))
def Zjf:List Px:=[.int .u8 0,.int .u32 0,.int .u32 0,.int .i64 0,.slice none 0 0]
theorem Zt1 {w:Pw}(ty:Pz) (g o c:Nat) (C:List Px) (t:Pz) (hg:w.heap[g]? = some (.cells C.toArray t (0,0))) (hfit:o+5<=C.length) :
  (Pr #[39] ty #[.slice (some ⟨g,o,none⟩) 1 c]).run Tryz.prog w=.ok (.tuple #[]) (w.setRow g (splice C o Zjf).toArray):=by
 have hst:=run_storeCells_at Tryz.prog g o t Zjf 0 C.toArray w hg (by simpa [Zjf] using hfit) (by intro v hv;simp[Zjf] at hv;rcases hv with rfl | rfl | rfl | rfl | rfl <;> rfl);have hz:(Builtin.zeroCells (Value.agg #[.int .u8 0,.int .u32 0,.int .u32 0,.int .i64 0,.slice none 0 0]).cells 1).toList=Zjf:=by kernel_rfl
 simp only[Nat.add_zero] at hst;simp[Pr,run_underlying Tryz.underlying39,hz,hst,splice]
theorem Uh {w:Pw}{ops:Array Oper}{rest:List Oper}{o:Oper}{a:Act}{Q:Exit->Act->Pw->Prop}(hgd:o.guard=none) (x:Operand)
  (ho:o.op=.call { callee:=.builtin .clear,args:=#[x],argTypes:=#[39] }) (A:Option Py) (m c:Nat) (hx:a.eval x=.slice A m c) (hm:m=1) (g off:Nat) (hA:A=some ⟨g,off,none⟩) (C:List Px) (t:Pz) (hg:w.heap[g]? = some (.cells C.toArray t (0,0))) (hfit:off+5<=C.length)
  (h:∀ w',Hid (w'.heap[g]? = some (.cells (splice C off Zjf).toArray t (0,0)))->Hid (w.grownBy w' (some g))->wpList Tryz.prog ops Q rest (a.put o.dst (.tuple #[])) w'):wpList Tryz.prog ops Q (o::rest) a w:=by
 subst hm;subst hA;refine wpList_plain hgd fun K hK=> ?_
 have hrun:=Zt1 (w:=w) o.type g off c C t hg hfit;unfold Oper.wp;simp[execOp,ho,resolve,invoke,builtin,hx,hrun,Result.andThen];exact hK _ _ (h _ (show _=_ by simpa using setRow_heap w g _ _ t _ hg) (Zcn _))
theorem Zn2 {w:Pw}{b i c m cc:Nat}{C:List Px}{ad:Py}{cs:List Px}(hg:w.heap[b]? = some (.cells (List.toArray C) 54 (0,0))) (hC5:C.length=c*5) (hfit:i+m<=c) (hl:cs.length=m*5) (hcs:∀ k v,cs[k]? = some v->w.cell? (ad.add k)=some v) (h1:∀ v∈cs,v.oneCell'=true) :
  ∃ w2,(Qv #[39,39] 39 #[.slice (some ⟨b,0,none⟩) i c,.slice (some ad) m cc]).run Tryz.prog w=.ok (.slice (some ⟨b,0,none⟩) (i+m) c) w2/\w2.heap[b]? = some (.cells (splice C (i*5) cs).toArray 54 (0,0))/\w.grownBy w2 (some b):=by
 obtain⟨i0,hi0,hz0,hz1,hz2⟩:=info_parts Ul;have hr:=run_append_room (P:=Tryz.prog) w 39 39 54 i0 Tryz.underlying39 hi0 b i c C.toArray hg ad m cc cs (by rw[hl,hz1]) hcs h1 hfit (by rw[hz1,hl,Q8,hC5];omega);rw[hz1] at hr;refine⟨_,hr,?_,Zcn _⟩;have:=setRow_heap w b C.toArray (C.toArray.toList.take (i*5)++cs++C.toArray.toList.drop (i*5+cs.length)).toArray 54 (0,0) hg
 simpa [splice] using this
theorem Zto (A:Option Py) (lo n c i j:Nat) (ps:List Iv) (w:Pw) (h:w.ownsRow lo 54 5 (.slice A n c) n (Zp ps)) (hj:j=i+1) (hi:j<=n) (hbig:n<=1000) (hp1:∀ p∈ps,p.2.oneCell'=true) :
  P7 Tryz.prog 49 #[.slice A n c,.int .i64 i,.int .i64 j] w (Z1d lo w A c (ps.take i++ps.drop j)):=by{
 have hpl:=Zfj h;have hone:=Vj hp1;obtain⟨ad,rfl⟩:∃ ad,A=some ad:=by
  obtain⟨_,_,e,_,_,_,h5⟩:=Yr h;cases e;exact h5 (by omega)
 obtain⟨b,C,rfl,hbl,hbs,hg,hnc,hcM,hC5,hC⟩:=Xs h;have hcm:c<=9223372036854775807:=by unfold maxLen at hcM;exact hcM
 have a1:¬ ((i:Int)=(j:Int)):=by omega
 have a2:(i:Int)<=(j:Int):=by omega
 have a3:(j:Int)<=(n:Int):=by omega
 have a4:(j:Int)<=(c:Int):=by omega
 have a5:(n:Int)<=(c:Int):=by omega
 have a6:(i:Int)<=(c:Int):=by omega
 have a7:¬ c=i:=by omega
 obtain⟨tot,htot⟩:∃ tot,tot=i+(n-j):=⟨_,rfl⟩
 have b1:(tot:Int)<=(n:Int):=by omega
 have b2:¬ c=tot:=by omega
 have b3:(tot:Int)<=(c:Int):=by omega
 have hd:(Zp (ps.drop j)).length=(n-j)*5:=by rw[Xp,Q3,hpl]
 have HO:=Vj (ps:=ps.drop j) fun p hp=>hp1 p (Q4 hp)
 have el:(ps.take i++ps.drop j).length=tot:=by rw[Qi,Qr,Q3,hpl];omega
 have hrun:Hid (∀ (ad:Py) (cc:Nat),(∀ k v,(Zp (ps.drop j))[k]? = some v->w.drew.cell? (ad.add k)=some v)->∃ w2,(Qv #[39,39] 39 #[.slice (some ⟨b,0,none⟩) i c,.slice (some ad) (n-j) cc]).run Tryz.prog w.drew=.ok (.slice (some ⟨b,0,none⟩) tot c) w2/\w2.heap[b]? = some (.cells (splice C (i*5) (Zp (ps.drop j))).toArray 54 (0,0))/\w.drew.grownBy w2 (some b)):=Za fun ad cc hcs=>by
  have:=Zn2 (w:=w.drew) (b:=b) (i:=i) (c:=c) (m:=n-j) (cc:=cc) (ad:=ad) (show w.drew.heap[b]? = _ from hg) hC5 (by omega) hd hcs HO;rw[<- htot] at this;exact this
 have S1:Hid ((splice C (i*5) (Zp (ps.drop j))).length=C.length):=Za (length_splice _ _ _ (by rw[hd,hC5];omega));have hfin:Hid (∀ (w2 W:Pw),w.drew.grownBy w2 (some b)->W.heap[b]? = some (.cells (splice (splice C (i*5) (Zp (ps.drop j))) (tot*5) Zjf).toArray 54 (0,0))->w2.grownBy W (some b)->Z1d lo w (some ⟨b,0,none⟩) c (ps.take i++ps.drop j) (.returned (.slice (some ⟨b,0,none⟩) tot c)) W):=Za fun w2 W h0 h1 h2=>by
  refine⟨by rw[el],?_,Za0 (Xc h0 h2)⟩;rw[el];refine Zbd hbl h1 (by omega) hcM (by rw[length_splice _ _ _ (by rw[S1.out,hC5];show tot*5+5<=c*5;omega),S1.out,hC5]) ?_;rw[Zd7 (by rw[S1.out,hC5];omega),show tot*5=i*5+(Zp (ps.drop j)).length by rw[hd];omega,Zaq (by rw[hC5];omega),Vk,Zbz,<- hC,Qz,Pa (by omega)]
 have P0:Hid (∀ k v,(Zp (ps.drop j))[k]? = some v->w.drew.cell? ((⟨b,j*5,none⟩:Py).add k)=some v):=Za (Znu h j);have hnil:Hid (j=n->∀ (ad:Py) k v,(Zp (ps.drop j))[k]? = some v->w.drew.cell? (ad.add k)=some v):=Za fun e ad k v hv=>by
  rw[Ps (by omega)] at hv;cases hv
 have hfit:Hid (tot*5+5<=(splice C (i*5) (Zp (ps.drop j))).length):=Za (by rw[S1.out,hC5];omega);have h1:Hid (n-tot=1):=Za (by omega);have hcn:Hid (c=j->j=n):=Za (by omega);replace hj:=Za hj;replace htot:=Za htot;clear h hp1 hone HO hd el hC hC5 hg hpl S1
 go_enter Tryz.func49,Tryz.ntmps49
 by_cases hcj:c=j
 ·obtain⟨w2,hr2,hg2,hb2⟩:=hrun.out ⟨b,0,none⟩ 0 (hnil.out (hcn.out hcj) _)
  have hjn:=hcn.out hcj;subst hcj;subst hjn;rw[Qy] at hr2;have HR:=Za hr2;have HG:=Za hg2;have HB:=Za hb2;clear hr2 hg2 hb2
  go_upto_region 5 with fail
  go_still_tail 6,(by kernel_rfl)
  refine Zi rfl _ _ _ rfl rfl rfl HR.out ?_
  go_wp2_with (refine Uh rfl _ rfl _ _ _ rfl h1.out b (tot*5) rfl _ _ HG.out hfit.out ?_;intro w3 hg3 hb3)
  go_ret;exact hfin.out w2 _ HB.out hg3.out hb3.out
 ·obtain⟨w2,hr2,hg2,hb2⟩:=hrun.out ⟨b,j*5,none⟩ (c-j) P0.out
  have HR:=Za hr2;have HG:=Za hg2;have HB:=Za hb2;clear hr2 hg2 hb2
  go_upto_region 5 with fail
  go_still_tail 6,(by kernel_rfl)
  refine Zi rfl _ _ _ rfl rfl rfl HR.out ?_
  go_wp2_with (refine Uh rfl _ rfl _ _ _ rfl h1.out b (tot*5) rfl _ _ HG.out hfit.out ?_;intro w3 hg3 hb3)
  go_ret;exact hfin.out w2 _ HB.out hg3.out hb3.out}
theorem Zm3 (A:Option Py) (lo lf n c fb fc i j:Nat) (ps qs:List Iv) (w:Pw) (h:w.ownsRow lo 54 5 (.slice A n c) n (Zp ps)) (hf:w.ownsRow lf 54 5 (.slice (some ⟨fb,0,none⟩) 1 fc) 1 (Zp qs))
  (hne:A.map (·.block)≠some fb) (hj:j=i+1\/j=i+2) (hi:j<=n) (hbig:n<=1000) (hp1:∀ p∈ps,p.2.oneCell'=true) (hq1:∀ p∈qs,p.2.oneCell'=true) :
  P7 Tryz.prog 52 #[.slice A n c,.int .i64 i,.int .i64 j,.slice (some ⟨fb,0,none⟩) 1 fc] w (Z1d lo w A c (ps.take i++(qs++ps.drop j))):=by{
 have hpl:=Zfj h;have hql:=Zfj hf;have hqc:∀ j v,(Zp qs)[j]? = some v->w.cell? ((⟨fb,0,none⟩:Py).add j)=some v:=fun j v hj=>hf.cells (g:=fb) rfl j v hj
 have hq5:(Zp qs).length=1*5:=hf.1;have hone:=Vj hp1;have honq:=Vj hq1;obtain⟨ad,rfl⟩:∃ ad,A=some ad:=by
  obtain⟨_,_,e,_,_,_,h5⟩:=Yr h;cases e;exact h5 (by omega)
 obtain⟨b,C,rfl,hbl,hbs,hg,hnc,hcM,hC5,hC⟩:=Xs h;have hcm:c<=9223372036854775807:=by unfold maxLen at hcM;exact hcM
 have hbf:b≠fb:=fun e=>hne (by rw[e];rfl)
 obtain⟨fb',Cf,e,_,hfs,hgf,_,_,hCf5,hCf⟩:=Xs hf;obtain rfl:fb=fb':=by cases e;rfl
 have a1:¬ ((i:Int)=(j:Int)):=by omega
 have a2:(i:Int)<=(j:Int):=by omega
 have a3:(j:Int)<=(n:Int):=by omega
 have a4:(j:Int)<=(c:Int):=by omega
 have a5:(i:Int)<=(n:Int):=by omega
 have a6:(i:Int)<=(c:Int):=by omega
 have a7:¬ c=i:=by omega
 have hzl:Zjf.length=5:=rfl;have S1:Hid ((splice C (i*5) (Zp qs)).length=C.length):=Za (length_splice _ _ _ (by rw[hq5,hC5];omega));by_cases hjn:j=n
 ·have hjn':((j:Int)=(n:Int)):=by omega
  obtain⟨w2,hr2,hg2,hb2⟩:=Zn2 (w:=w) (b:=b) (i:=i) (c:=c) (m:=1) (cc:=fc) (ad:=⟨fb,0,none⟩) hg hC5 (by omega) hq5 hqc honq;have eL:ps.take i++(qs++ps.drop j)=ps.take i++qs:=by rw[Ps (by omega),List.append_nil]
  have el:(ps.take i++qs).length=i+1:=by rw[Qi,Qr];omega
  have e2:(splice C (i*5) (Zp qs)).take ((i+1)*5)=Zp (ps.take i++qs):=by
   rw[show (i+1)*5=i*5+(Zp qs).length by rw[hq5];omega,Zaq (by rw[hC5];omega),Vk,Zbz,<- hC,Qz,Pa (by omega)]
  rw[eL];have HR:=Za hr2;have HG:=Za hg2;have HB:=Za hb2;rcases hj with hj | hj
  ·have hln:¬ (((i+1:Nat):Int)<(n:Int)):=by omega
   have hln2:¬ (i+1<n):=by omega
   have hfin:Hid (Z1d lo w (some ⟨b,0,none⟩) c (ps.take i++qs) (.returned (.slice (some ⟨b,0,none⟩) (i+1) c)) w2):=Za ⟨by rw[el],by rw[el];exact Zbd hbl hg2 (by omega) hcM (by rw[S1.out,hC5]) e2,hb2⟩;replace hj:=Za hj;replace hjn:=Za hjn;clear eL hr2 hg2 hb2 h hf hqc hone honq hp1 hq1 hne hg hgf hC hC5 hCf hCf5 hpl hql e2 el HG HB
   go_enter Tryz.func52,Tryz.ntmps52
   go_wp2_with (at_builtin;refine Zi rfl _ _ _ rfl rfl rfl HR.out ?_;clear HR)
   go_ret;exact hfin.out
  ·have hln:((i:Int)+1<(n:Int)):=by omega
   have hln2:(i+1<n):=by omega
   have hln3:(((i+1:Nat):Int)<(n:Int)):=by omega
   have b1:((i:Int)+1<=(n:Int)):=by omega
   have b2:((i:Int)+1<=(c:Int)):=by omega
   have b3:¬ c=i+1:=by omega
   have h1:Hid (n-(i+1)=1):=Za (by omega);have hfit:Hid ((i+1)*5+5<=(splice C (i*5) (Zp qs)).length):=Za (by rw[S1.out,hC5];omega);have hfin:Hid (∀ W,W.heap[b]? = some (.cells (splice (splice C (i*5) (Zp qs)) ((i+1)*5) Zjf).toArray 54 (0,0))->w2.grownBy W (some b)->Z1d lo w (some ⟨b,0,none⟩) c (ps.take i++qs) (.returned (.slice (some ⟨b,0,none⟩) (i+1) c)) W):=Za fun W h1' h2'=>by
    refine⟨by rw[el],?_,Xc hb2 h2'⟩;rw[el];refine Zbd hbl h1' (by omega) hcM (by rw[length_splice _ _ _ (by rw[hzl];exact hfit.out),S1.out,hC5]) ?_;rw[<- e2];exact Zd7 (by have:=hfit.out;omega)
   replace hj:=Za hj;replace hjn:=Za hjn;clear eL hr2 hg2 hb2 h hf hqc hone honq hp1 hq1 hne hg hgf hC hC5 hCf hCf5 hpl hql e2 el
   go_enter Tryz.func52,Tryz.ntmps52
   go_wp2_with (first | (at_builtin;refine Zi rfl _ _ _ rfl rfl rfl HR.out ?_) | (refine Uh rfl _ rfl _ _ _ rfl h1.out b ((i+1)*5) rfl _ _ HG.out hfit.out ?_;intro w3 hg3 hb3))
   go_ret;exact hfin.out _ hg3.out hb3.out
 have hjn':¬ ((j:Int)=(n:Int)):=by omega
 have a8:¬ c=j:=by omega
 have hw1:IntKind.i64.wrap ((i:Int)+1)=(i:Int)+1:=by rw[IntKind.wrap_i64];omega
 obtain⟨tot,htot⟩:∃ tot,tot=i+1+(n-j):=⟨_,rfl⟩
 have hw3:IntKind.i64.wrap ((i:Int)+1+((n-j:Nat):Int))=(tot:Int):=by rw[IntKind.wrap_i64];omega
 have hd:Hid ((Zp (ps.drop j)).length=(n-j)*5):=Za (by rw[Xp,Q3,hpl]);have HO:=Za (Vj (ps:=ps.drop j) fun p hp=>hp1 p (Q4 hp));have HQ:=Za honq;have el:(ps.take i++(qs++ps.drop j)).length=tot:=by rw[Qi,Qi,Qr,Q3,hpl,hql];omega
 have r1:(0:Int)<=(i:Int)+1:=by omega
 have r3:(i:Int)+1<=(tot:Int):=by omega
 have r4:((i:Int)+1).toNat=i+1:=by omega
 have r6:(i:Int)<=(tot:Int):=by omega
 have r7:(tot:Int)<=(c:Int):=by omega
 have r8:(tot:Int)<=(n:Int):=by omega
 have r9:(i:Int)+1<=(c:Int):=by omega
 have hgt:¬ ((c:Int)<(tot:Int)):=by omega
 have r2:¬ c=i+1:=by omega
 have hle:(i:Int)+1<=(j:Int):=by omega
 have S2:Hid ((splice (splice C (i*5) (Zp qs)) ((i+1)*5) (Zp (ps.drop j))).length=C.length):=Za (by rw[length_splice _ _ _ (by rw[S1.out,hd.out,hC5];omega),S1.out]);have Q2:Hid (∀ w2:Pw,w.grownBy w2 (some b)->∀ j v,(Zp qs)[j]? = some v->w2.cell? ((⟨fb,0,none⟩:Py).add j)=some v):=Za fun w2 hb2 j v hj=>by
  refine(Qd ?_).trans (hqc j v hj);rw[Zh];exact hb2.block fb hfs (fun e=>hbf (by cases e;rfl))
 have P2:Hid (∀ w2:Pw,w2.heap[b]? = some (.cells (splice C (i*5) (Zp qs)).toArray 54 (0,0))->∀ j' v,(Zp (ps.drop j))[j']? = some v->w2.cell? ((⟨b,j*5,none⟩:Py).add j')=some v):=Za fun w2 h2 j' v hj'=>by
  have h0:=Znu h j j' v hj';have e:((⟨b,j*5,none⟩:Py).add j')=⟨b,j*5+j',none⟩:=Uq _ _ _;rw[e] at h0 ⊢;rw[Zh9 hg] at h0;rw[Zh9 h2,Zo7 (by rw[hq5,hC5];omega) (by rw[hq5];omega)];exact h0
 have e2:(splice (splice C (i*5) (Zp qs)) ((i+1)*5) (Zp (ps.drop j))).take (tot*5)=Zp (ps.take i++(qs++ps.drop j)):=by
  have:=Ztg (C:=C) (Y:=Zp qs) (X:=Zp (ps.drop j)) (a:=i*5) (b:=(i+1)*5) (by rw[hq5];omega) (by rw[hd.out,hC5];omega);rw[hd.out,show (i+1)*5+(n-j)*5=tot*5 by omega] at this;rw[this,Vk,Vk,Zbz,<- hC,Qz,Pa (by omega)]
 have hC5h:=Za hC5;have hgh:=Za hg;have hmin:=Za (Zr4 (a:=1) (b:=tot-i) (k:=1) (by omega));have hmin2:=Za (Zr4 (a:=n-j) (b:=tot-(i+1)) (k:=n-j) (by omega));have hroom':=Za (show i+1+(n-j)<=c by omega);have hdone:Hid (∀ (W w2:Pw),w.grownBy w2 (some b)->W.heap[b]? = some (.cells (splice (splice C (i*5) (Zp qs)) ((i+1)*5) (Zp (ps.drop j))).toArray 54 (0,0))->w2.grownBy W (some b)->Z1d lo w (some ⟨b,0,none⟩) c (ps.take i++(qs++ps.drop j)) (.returned (.slice (some ⟨b,0,none⟩) tot c)) W):=Za fun W w2 h0 h1 h2=>by
  refine⟨by rw[el],?_,Xc h0 h2⟩;rw[el];exact Zbd hbl h1 (by omega) hcM (by rw[S2.out,hC5]) e2
 have hdone2:Hid (∀ (W w2 w3:Pw),tot*5+5<=C.length->w.grownBy w2 (some b)->w2.grownBy w3 (some b)->W.heap[b]? = some (.cells (splice (splice (splice C (i*5) (Zp qs)) ((i+1)*5) (Zp (ps.drop j))) (tot*5) Zjf).toArray 54 (0,0))->w3.grownBy W (some b)->Z1d lo w (some ⟨b,0,none⟩) c (ps.take i++(qs++ps.drop j)) (.returned (.slice (some ⟨b,0,none⟩) tot c)) W):=Za fun W w2 w3 hf0 h0 h1 h2 h3=>by
  refine⟨by rw[el],?_,Xc (Xc h0 h1) h3⟩;rw[el];refine Zbd hbl h2 (by omega) hcM (by rw[length_splice _ _ _ (by rw[hzl,S2.out];exact hf0),S2.out,hC5]) ?_;rw[<- e2];exact Zd7 (by rw[S2.out];omega)
 have hway:(c=tot/\n=tot)\/(¬ c=tot/\n-tot=0)\/(¬ c=tot/\n-tot=1):=by omega
 have hfit:Hid (n-tot=1->tot*5+5<=C.length):=Za (by rw[hC5];omega);replace htot:=Za htot;replace hj:=Za hj;clear hqc hone honq hp1 hq1 hne h hf hC hC5 hCf hCf5 hpl hql hg hgf el e2
 go_enter Tryz.func52,Tryz.ntmps52
 go_upto_region 9 with fail
 go_quiet (fail)
 go_upto_region 18 with (refine Zgh rfl _ _ 39 39 rfl 54 Tryz.underlying39 Zn5 _ _ _ _ _ _ rfl rfl b (i*5) _ 54 hgh.out (Zp qs) 1 hmin.out hq5 rfl ⟨fb,0,none⟩ rfl (Q2.out _ (Zyz _ _ _)) (by rw[hq5,hC5h.out];have:=hroom'.out;omega) HQ.out ?_;intro w2 hg2 hb2)
 go_still_tail 9,(by kernel_rfl)
 refine Zgh rfl _ _ 39 39 rfl 54 Tryz.underlying39 Zn5 _ _ _ _ _ _ rfl rfl b ((i+1)*5) _ 54 hg2.out (Zp (ps.drop j)) (n-j) hmin2.out hd.out rfl ⟨b,j*5,none⟩ rfl (P2.out w2 hg2.out) (by rw[S1.out,hd.out,hC5h.out];have:=hroom'.out;omega) HO.out ?_;intro w3 hg3 hb3;rcases hway with ⟨h1,h2⟩ | ⟨h1,h2⟩ | ⟨h1,h2⟩
 ·subst h1
  have h0:n-c=0:=by omega
  go_wp2_with (refine Zef rfl _ 39 rfl 54 Tryz.underlying39 _ _ (by rw[<- h0];rfl) ?_)
  go_ret;exact hdone.out _ _ (Zf2 hb2.out) hg3.out (Za0 hb3.out)
 ·go_wp2_with (refine Zef rfl _ 39 rfl 54 Tryz.underlying39 _ _ (by rw[<- h2];rfl) ?_)
  go_ret;exact hdone.out _ _ (Zf2 hb2.out) hg3.out (Za0 hb3.out)
 ·have h2':=Za h2
  have hf2:Hid (tot*5+5<=(splice (splice C (i*5) (Zp qs)) ((i+1)*5) (Zp (ps.drop j))).length):=Za (by rw[S2.out];exact hfit.out h2);clear h2
  go_wp2_with (refine Uh rfl _ rfl _ _ _ rfl h2'.out b (tot*5) rfl _ _ hg3.out hf2.out ?_;intro w4 hg4 hb4)
  go_ret;exact hdone2.out _ _ _ (hfit.out h2'.out) (Zf2 hb2.out) (Za0 hb3.out) hg4.out hb4.out}
theorem Zei {W W9:Pw}{g lo size n:Nat}{t t':Pz}{v:Px}{xs:List Px}{cs:Array Px}(h:W.ownsRow lo t size v n xs) (hz:W.heap[g]? = some (.cells cs t' (0,0))) (ht:t≠t') (hg:W.grownBy W9 (some g)):W9.ownsRow lo t size v n xs:=by{
 refine⟨h.1,?_⟩;rcases h.2 with e | ⟨b,cap,cur,e,hb,hgg,r⟩
 ·exact .inl e
 ·have hne:b≠g:=fun e'=>by
   rw[e',hz] at hgg;simp at hgg;exact ht hgg.2.symm
  exact .inr ⟨b,cap,cur,e,hb,(hg.block b (Qc.1 hgg).1 (fun e'=>hne (Option.some.inj e'))).trans hgg,r⟩}
theorem Z13 {W:Pw}{g:Nat}{t:Pz}{ok:Py->Prop}{cs:List Px}{b:List UInt8}(h:rBy ok W cs b) (hz:W.heap[g]? = some (.cells #[.int .i64 0,.slice none 0 0] t (0,0))):rBy (fun p=>ok p/\p.block≠g) W cs b:=by{
 have h8:∀ (p:Py) (x:Int),W.cell? p=some (.int .u8 x)->p.block≠g:=fun p x hc e=>by
  unfold World.cell? at hc;rw[e,hz] at hc
  dsimp only at hc
  split at hc
  ·cases hc
  ·obtain⟨hlt,hu⟩:=Qc.1 hc
   have:=Array.getElem_mem hlt;rw[hu] at this;simp at this
 have hab:∀ (a:Py) (n:Nat),(a.add n).block=a.block:=fun a n=>by unfold Addr.add;split <;> rfl
 obtain⟨A,cap,e,l1,l2,h4⟩:=h;refine⟨A,cap,e,l1,l2,fun i x hx=> ?_⟩;obtain⟨ad,vs,eA,hv,hc,hu⟩:=h4 i x hx;unfold rU8 at hu;subst hu
 exact⟨ad,_,eA,hv,fun j v hj=>by
  obtain⟨h1,h2⟩:=hc j v hj;refine⟨⟨h1,?_⟩,h2⟩;have h0:=(hc 0 _ rfl).2;have:=h8 _ _ h0;rw[hab] at this ⊢
  exact this,rfl⟩}
theorem Zgs {P:Program}{Q:Exit->Act->Pw->Prop}(Kr:Rk.KrT){id:Nat}{ops:Array Oper}{a:Act}{w:Pw}(hm:P.follows .mixedOrders=true) (m:Nat) (C:Pw->Prop) (phi:Nat->Option (Px->Pw->Prop)) (fx:Nat->Option Px) (hms:m<=ops.size) (hok:Rb.okAs (ops.toList.take m).toArray a.tmps.size=true) (hlast:Zbh ops m=true)
  (h1:Kr.C0 w.drew) (hon:((List.range m).all fun i=>i==Kr.k || !((phi i).isSome||(fx i).isSome)||Rk.leansOn (ops.toList.take m).toArray Kr.k m i)=true) (hC:C w.drew) (hCb:∀ w w',C w->Kr.rel w w'->C w') (hst:∀ (j:Nat) (φ:Px->Pw->Prop) (x:Px) (w w':Pw),phi j=some φ->φ x w->Kr.rel w w'->φ x w')
  (h:Rk.wpAs Kr P (ops.toList.take m).toArray C phi fx (fun a w=>wpList P ops Q (ops.toList.drop m) a w) 0 (ops.toList.take m) a []):(Code.region id ops true).wp P Q a w :=
 wp_region_any hm (Zgc m C phi fx hms hok hlast h1 hon hC hCb hst h)
theorem Zmt {P:Program}{w w':Pw}{o:Oper}{a:Act}{R:Px->Pw->Prop}(s x:Operand) (t:Pz)
  (ho:o.op=.call { callee:=.builtin .append,args:=#[s,x],argTypes:=#[t,t] }) {v u v':Px} (hs:a.eval s=v) (hx:a.eval x=u)
  (hrun:(Qv #[t,t] o.type #[v,u]).run P w=.ok v' w') (h:R v' w'):Rb.doesUpon P R ((execOp a.eval o).run P w):=by
 unfold execOp;simp only[ho,resolve,invoke,builtin,Sem.run_bind,Sem.run_pure,Result.andThen_ok,List.map_toArray,List.map_cons,List.map_nil,hs,hx,hrun];exact h
def Z3x (t:Rm) (M:List It) (p:Nat) (L1:List It) (F:Option Py) (w:Pw) (e:P8) (w':Pw):Prop:=∃ b c',e=.returned (.tuple #[.agg #[.int .i64 ((Zz t M p L1).1:Int),.int .i64 ((Zz t M p L1).2.1:Int)],.slice (some ⟨b,0,none⟩) (Zz t M p L1).2.2.length c',.int .i64 0]) /\
 Y6 (Old w') w' [.slice (some ⟨b,0,none⟩) (Zz t M p L1).2.2.length c'] (Zz t M p L1).2.2/\w.grownBy w' (F.map (·.block))
theorem Z02 (qa qb qc qd:Option Py×Nat×Nat) (t:Rm) (lw:Int) (A:Option Py) (n c p:Nat) (M:List It) (F:Option Py) (lf m fc:Nat) (qs:List Iv) (L1:List It) (w:Pw) (h:Sto (Old w) w (.agg #[.slice qa.1 qa.2.1 qa.2.2,.slice qb.1 qb.2.1 qb.2.2,.slice qc.1 qc.2.1 qc.2.2,.slice qd.1 qd.2.1 qd.2.2]) t)
  (hM:Y6 (Old w) w [.slice A n c] M) (hn:M.length=n) (hp:p<n) (hn5:n<=5) (hR:∀ q∈M,rmE t q.2.1=0/\0<(rmV t q.2.1).2.length) (hF:w.ownsRow lf 54 5 (.slice F m fc) m (Zp qs)) (hqs:qs.map (·.1)=L1) (hm0:0<m) (hm5:m<=5)
  (hqi:∀ p∈qs,InI p.1/\rBy (fun a=>a.block<w.heap.size/\F.map (·.block)≠some a.block) w [p.2] p.1.2.2) (hlf:lf<=w.heap.size) :
  P7 Tryz.prog 50 #[.agg #[.int .i64 lw,.slice A n c,.int .i64 (p:Int)],.agg #[.slice qa.1 qa.2.1 qa.2.2,.slice qb.1 qb.2.1 qb.2.2,.slice qc.1 qc.2.1 qc.2.2,.slice qd.1 qd.2.1 qd.2.2],.slice F m fc] w (Z3x t M p L1 F w):=by{
 obtain⟨ad,rfl⟩:∃ ad,A=some ad:=by
  obtain⟨ad,_,_,e,_⟩:=Zao hM (Qh (show p<M.length by omega));exact⟨ad,e⟩
 obtain⟨fa,rfl⟩:∃ fa,F=some fa:=by
  obtain⟨_,_,e,_,_,_,h5⟩:=Yr hF;cases e;exact h5 hm0
 obtain⟨fb,Cf,rfl,hfl,hfs,_⟩:=Xs hF;obtain⟨w1,hw1,-,-,-,hs1,hB1,b1⟩:=Xf w (.int .i64 lw) (.slice (some ad) n c) (.int .i64 (p:Int)) 102;obtain⟨w2,hw2,b2,hs2,hB2⟩:=Vm w1 (.slice qa.1 qa.2.1 qa.2.2) (.slice qb.1 qb.2.1 qb.2.2) (.slice qc.1 qc.2.1 qc.2.2) (.slice qd.1 qd.2.1 qd.2.2) 29;obtain⟨w3,hw3,b3,hs3,hB3⟩:=Zy w2 (.int .i64 0) (.int .i64 0) 108;obtain⟨w4,hw4,b4,hs4,hB4⟩:=Zy w3 (.int .i64 (p:Int)) (.int .i64 1) 108;have hB34:=hB3.trans (hB4.mono hB3.size);have hB24:=hB2.trans (hB34.mono hB2.size);have hB14:=hB1.trans (hB24.mono hB1.size);have B4:=Za hB14;have SZ:=Za (show w1.heap.size=w.heap.size+1/\w2.heap.size=w.heap.size+2/\w3.heap.size=w.heap.size+3/\w4.heap.size=w.heap.size+4 from by omega);have G1:=(hB24.block w.heap.size (by omega)).trans b1;have G2:=(hB34.block w1.heap.size (by omega)).trans b2;have G3:=(hB4.block w2.heap.size (by omega)).trans b3;have KB1:=Za (fun W (hW:P9 w4.heap.size w4 W)=>(hW.block w.heap.size (by omega)).trans G1);have KB2:=Za (fun W (hW:P9 w4.heap.size w4 W)=>(hW.block w1.heap.size (by omega)).trans G2);have KB6:=Za (fun W (hW:P9 w4.heap.size w4 W)=>(hW.block w2.heap.size (by omega)).trans G3);have KB9:=Za (fun W (hW:P9 w4.heap.size w4 W)=>(hW.block w3.heap.size (by omega)).trans b4);have hS4:=Za (fun W (hW:P9 w4.heap.size w4 W)=>h.below (hB14.trans (hW.mono hB14.size)));have hM':=Za hM
 have hnb:Hid (∀ bs c0,M[bs]? = some c0->∃ (x lv:Int) (nl:Nat) (L5:List It),c0.2.1=x/\rmV t x=(lv,L5)/\Hid (L5.length=nl/\nl<=5/\0<nl)/\Hid (∀ W,P9 w4.heap.size w4 W->W.cell? ⟨(ad.add (bs*5)).block,(ad.add (bs*5)).off+3,none⟩=some (.int .i64 x)) /\
   Hid (∀ W,P9 w4.heap.size w4 W->P7 Tryz.prog 36 #[.agg #[.slice qa.1 qa.2.1 qa.2.2,.slice qb.1 qb.2.1 qb.2.2,.slice qc.1 qc.2.1 qc.2.2,.slice qd.1 qd.2.1 qd.2.2],.int .i64 x] W fun e W'=>∃ Z zc,e=.returned (.tuple #[.agg #[.int .i64 lv,.slice Z nl zc],.int .i64 0])/\Ya rIt 5 54 w4.heap.size W' Z zc L5/\P9 W.heap.size W W')):=Za fun bs c0 hc0=>by
  obtain⟨ad',E,ce,e,_,_,_,h5⟩:=Y4 hM hc0;cases e;obtain⟨h0,hpos⟩:=hR c0 (Qp hc0);refine⟨c0.2.1,(rmV t c0.2.1).1,(rmV t c0.2.1).2.length,(rmV t c0.2.1).2,rfl,rfl,Za ⟨rfl,(Zs (Yu h0).1).1.2.2.1,hpos⟩,Za fun W hW=>(h5 W (hB14.trans (hW.mono hB14.size))).1.c3,Za fun W hW=> ?_⟩;refine(Zeo _ t c0.2.1 W (h.below (hB14.trans (hW.mono hB14.size)))).mono ?_;rintro e W' ⟨u,rfl,⟨Z,zc,rfl,_,hr⟩,hb⟩;rw[h0];exact⟨Z,zc,rfl,hr.low Yl hW.size,hb⟩
 have hF':=Za hF;have hqi':=Za hqi;have hqm:Hid (qs.length=m):=Za (Zfj hF);have hL1:Hid (L1.length=m):=Za (by rw[<- hqs,Q5,Zfj hF]);have hqs':=Za hqs;have hnn:=Za hn;obtain⟨g0,g1,g2,_⟩:=Zj G1;obtain⟨f0,f1,f2,_⟩:=Zj ((hB3.block w.heap.size (by omega)).trans ((hB2.block w.heap.size (by omega)).trans b1));obtain⟨u0,u1,uf,_⟩:=Zg G3;obtain⟨v0,v1,vf,_⟩:=Zg b4;obtain⟨R,hRe⟩:∃ R,Zz t M p L1=R:=⟨_,rfl⟩
 unfold Z3x;rw[hRe]
 have hMe:Hid (Zz t M p L1=match M[p+1]? with
  | some c=>if (rmV t c.2.1).2.length+L1.length<=5 then (p,2,L1++(rmV t c.2.1).2) else (p,1,L1)
  | none=>if p=0 then (p,1,L1) else match M[p-1]? with
   | some b=>if (rmV t b.2.1).2.length+L1.length<=5 then (p-1,2,(rmV t b.2.1).2++L1) else (p,1,L1)
   | none=>(p,1,L1)):=Za rfl
 rw[hRe] at hMe;replace hRe:=Za hRe;replace hs1:=Za hs1;replace hs2:=Za hs2;replace hs3:=Za hs3;replace hs4:=Za hs4;have halone:Hid (∀ W,P9 w.heap.size w W->R=(p,1,L1)->∃ b c',Ending.returned (.tuple #[.agg #[.int .i64 (p:Int),.int .i64 1],.slice (some ⟨fb,0,none⟩) m fc,.int .i64 0])=.returned (.tuple #[.agg #[.int .i64 (R.1:Int),.int .i64 (R.2.1:Int)],.slice (some ⟨b,0,none⟩) R.2.2.length c',.int .i64 0])/\Y6 (Old W) W [.slice (some ⟨b,0,none⟩) R.2.2.length c'] R.2.2/\w.grownBy W ((some (⟨fb,0,none⟩:Py)).map (·.block))):=Za fun W hb he=>by
  rw[he];refine⟨fb,fc,by rw[hL1.out];rfl,?_,⟨hb.os,hb.tape,hb.output,hb.size,fun k hk _=>hb.block k hk⟩⟩;rw[hL1.out];have:=Zlr (Zr hF'.out hb) (fun p hp=>⟨(hqi'.out p hp).1,Zf _ _ _ _ _ _ (fun a v ha hc=>⟨Qg ha.1 hb.size,(hb.cell ha.1).trans hc⟩) (hqi'.out p hp).2⟩)
  rwa [hqs'.out] at this
 have honq:=Za (Zks hqi);have i1:IntKind.i64.wrap ((p:Int)+1)=((p+1:Nat):Int):=by rw[IntKind.wrap_i64];omega
 clear h hM hR hF hqi hqs hn hB1 hB2 hB3 hB4 hB34 hB24 hB14 b1 b2 b3 b4 G1 G2 G3
 go_enter Tryz.func50,Tryz.ntmps50
 by_cases hA:p+1<n
 ·obtain⟨bs,hbs⟩:∃ bs,bs=p+1:=⟨_,rfl⟩
  rw[<- hbs] at i1;have t0:((bs:Int)==(n:Int))=false:=by simp;omega
  have t1:¬ ((bs:Int)<0):=by omega
  have t2:(0:Int)<=(bs:Int):=by omega
  have t3:(bs:Int)<(n:Int):=by omega
  have t4:bs<n:=by omega
  have t5:¬ ((bs:Int)<(p:Int)):=by omega
  have t6:¬ (bs<p):=by omega
  obtain⟨c0,hc0⟩:∃ c0,M[bs]? = some c0:=⟨_,Qh (by rw[hnn.out];omega)⟩
  obtain⟨x,lv,nl,L5,hx,hx5,hL5l,hcf,HN⟩:=hnb.out bs c0 hc0
  have hR2:Hid (R=if L5.length+L1.length<=5 then (p,2,L1++L5) else (p,1,L1)):=Za (by
   rw[hMe.out,<- hbs,hc0]
   simp only[hx,hx5])
  have hn5':nl<=5:=hL5l.out.2.1;have hn0':=Za hL5l.out.2.2;replace hL5l:=Za hL5l.out.1;have i3:IntKind.i64.wrap ((m:Int)+(nl:Int))=(m:Int)+(nl:Int):=by rw[IntKind.wrap_i64];omega
  replace hx:=Za hx;replace hx5:=Za hx5;replace hc0:=Za hc0;replace hbs:=Za hbs;clear hnb
  go_upto_region 7 with fail
  refine Xh (ops' := ?opsLateA) (by kernel_rfl) [(13,11)] ?heA (by kernel_rfl) (fun d _ _ _ _ h=>by cases d <;> exact h) 13 (fun W=>P9 w4.heap.size w4 W) (fun i=>match i with
   | 8=>some (fun v W=>∃ Z zc,v=.tuple #[.agg #[.int .i64 lv,.slice Z nl zc],.int .i64 0]/\Ya rIt 5 54 w4.heap.size W Z zc L5)
   | 9=>some (fun v W=>∃ Z zc,v=.tuple #[.agg #[.int .i64 lv,.slice Z nl zc],.int .i64 0]/\Ya rIt 5 54 w4.heap.size W Z zc L5)
   | 10=>some (fun v W=>∃ Z zc,v=.agg #[.int .i64 lv,.slice Z nl zc]/\Ya rIt 5 54 w4.heap.size W Z zc L5)
   | 12=>some (fun v W=>∃ g,v=.pointer (some ⟨g,0,none⟩)/\w4.heap.size<=g/\W.heap[g]? = some (.cells #[.int .i64 0,.slice none 0 0] 81 (0,0)))
   | _=>none) (fun i=>match i with
   | 11=>some (.int .i64 0)
   | _=>none) ?h1A ?h2A ?h3A (Qa _ _).drew (fun w w' h hb=>h.trans (hb.mono h.size)) ?tstA ?_
  case heA =>
   simp[Yg];rfl
  case h1A=>decide
  case h2A=>kernel_rfl
  case h3A=>kernel_rfl
  case tstA =>
   intro j φ x W W' hp hx hb
   match j,hp with
   | 8,hp=>cases hp;obtain⟨Z,zc,e,h⟩:=hx;exact⟨Z,zc,e,h.below Yl hb⟩
   | 9,hp=>cases hp;obtain⟨Z,zc,e,h⟩:=hx;exact⟨Z,zc,e,h.below Yl hb⟩
   | 10,hp=>cases hp;obtain⟨Z,zc,e,h⟩:=hx;exact⟨Z,zc,e,h.below Yl hb⟩
   | 12,hp=>cases hp;obtain⟨g,e,h1,h2⟩:=hx;exact⟨g,e,h1,(hb.block g (Qc.1 h2).1).trans h2⟩
  simp only[Qk,Ql,Qm,Qn]
  repeat (first
   | (refine wpAs_skip rfl ?_;simp only[Qb,Zb,Zc,Zd])
   | (refine wpAs_pure (v := ?_) rfl rfl ?_ ?_;rotate_left;(intro W hC hE;clear hE;(obtain⟨k0,k1,k2,k3,_⟩:=Ze (KB2.out W hC);obtain⟨p0,p1,p2,_⟩:=Zj (KB1.out W hC);have cf:=hcf.out W hC);clear hC;go_simp;first | done | with_reducible rfl);simp only[Qb,Zb,Zc,Zd]))
  refine wpAs_act rfl rfl ?_ ?_
  ·intro W hC hE
   clear hE;refine does_enter (f:=36) (args:=#[.agg #[.slice qa.1 qa.2.1 qa.2.2,.slice qb.1 qb.2.1 qb.2.2,.slice qc.1 qc.2.1 qc.2.2,.slice qd.1 qd.2.1 qd.2.2],.int .i64 x]) ?_ ?_
   ·go_simp
   ·refine(HN.out W hC).mono ?_
    rintro e W' ⟨Z,zc,rfl,hI,hb⟩;exact⟨_,rfl,⟨Z,zc,rfl,hI⟩,hb⟩
  simp only[Qb,Zb,Zc,Zd,envAdd];intro x2;refine wpAs_act rfl rfl ?_ ?_
  ·intro W hC hE
   have h7:=hE.1 rfl;clear hE hC
   go_simp
   exact⟨h7,Qa _ _⟩
  simp only[Qb,Zb,Zc,Zd,envAdd];intro x3;refine wpAs_act rfl rfl ?_ ?_
  ·intro W hC hE
   obtain⟨Z,zc,rfl,hI⟩:=hE.1 rfl;have hI':=Za hI;clear hE hC hI
   go_simp
   exact⟨⟨Z,zc,rfl,hI'.out⟩,Qa _ _⟩
  simp only[Qb,Zb,Zc,Zd,envAdd];intro x4;refine wpAs_fixed rfl rfl rfl ?_ ?_
  ·intro W hC hE
   obtain⟨Z,zc,rfl,hI⟩:=hE.2.1 rfl;clear hE hC hI
   go_simp
   exact⟨rfl,Qa _ _⟩
  simp only[Qb,Zb,Zc,Zd];refine wpAs_act rfl rfl ?_ ?_
  ·intro W hC hE
   have hs:=hC.size;clear hE hC
   go_simp
   exact⟨⟨W.heap.size,rfl,hs,P4 _ _⟩,(Qa _ _).alloc (Qe _) _⟩
  simp only[Qb,Zb,Zc,Zd,envAdd];intro x6;refine wpAs_end fun W hC hE=> ?_
  obtain⟨⟨g,rfl,hg,hzz⟩,⟨Z,zc,rfl,hI⟩,_⟩:=hE;obtain⟨c0,c1,c2,_⟩:=Zg hzz;obtain⟨w8,hW9,g9,gr9,gs9⟩:=Ys (u:=.int .i64 lv) (v:=.slice Z nl zc) hzz;have hb9:=hC.grown gr9 hC.size (fun q e=>by cases e;exact hg);obtain⟨zs,e1,e2,e3⟩:=Zdv hI;rw[hL5l.out] at e2;have e2':=Zei e2 hzz (by decide) gr9;have HZ:=Za (show (∀ p∈zs,InI p.1/\rBy (fun a=>w4.heap.size<=a.block/\a.block<w8.heap.size/\Z.map (·.block)≠some a.block) w8 [p.2] p.1.2.2) from fun p hp=>⟨(e3 p hp).1,Zf _ _ _ _ _ _ (fun a v ha hc=>⟨⟨ha.1.1.1,Qg ha.1.1.2.1 gr9.size,ha.1.2⟩,(Qd (gr9.block a.block ha.1.1.2.1 (fun e=>ha.2 (Option.some.inj e)))).trans hc⟩) (Z13 (e3 p hp).2 hzz)⟩);have HO:=Za e2';have HB:=Za hb9;have HL:=Za e1;have G9:=Za g9;have a1:=KB1.out w8 hb9;have a6:=KB6.out w8 hb9;have a9:=KB9.out w8 hb9;obtain⟨p0,p1,p2,_⟩:=Zj a1;obtain⟨m0,m1,mf,_⟩:=Zg a6;obtain⟨d0,d1,df,_⟩:=Zg a9;obtain⟨n0,n1,_⟩:=Zg g9;replace a6:=Za a6;replace gr9:=Za gr9;replace gs9:=Za gs9;replace hg:=Za hg;clear hC hI hzz hb9 e1 e2 e2' e3 a1 a9;replace g9:=Za g9
  go_upto_region 10 with fail
  clear hW9 c0 c1 c2;by_cases hmany:5<m+nl
  ·have j1:(5:Int)<(m:Int)+(nl:Int):=by omega
   obtain⟨W9,hW9,g10,gr10,gs10⟩:=Ys (u:=.int .i64 (p:Int)) (v:=.int .i64 1) a6.out;have hfin:=Za (halone.out W9 ((B4.out.trans (HB.out.mono B4.out.size)).grown gr10 (B4.out.trans (HB.out.mono B4.out.size)).size (fun q e=>by cases e;have:=SZ.out;omega)) (by rw[hR2.out,if_neg (by rw[hL5l.out,hL1.out];omega)]));obtain⟨y0,y1,_⟩:=Zg g10;clear g10 gr10 gs10
   go_wp2_with fail
   exact P3 (v:=.tuple #[.agg #[.int .i64 (p:Int),.int .i64 1],.slice (some ⟨fb,0,none⟩) m fc,.int .i64 0]) (by simp[results,Tryz.results50,go_sem,y0,y1]) rfl hfin.out
  have j1:¬ ((5:Int)<(m:Int)+(nl:Int)):=by omega
  obtain⟨zad,rfl⟩:∃ zad,Z=some zad:=by
   obtain⟨_,_,e,_,_,_,h5⟩:=Yr HO.out;cases e;exact h5 hn0'.out
  obtain⟨zb,CZ,rfl,hzl,hzs,_⟩:=Xs HO.out;obtain⟨i0,hi0,hz0,hz1,hz2⟩:=info_parts Ul;have hFw:=Zr (Zr hF'.out B4.out) HB.out;obtain⟨v',W1,hr,o1,gg1,bb1,kk1⟩:=Zfi (P:=Tryz.prog) (w:=w8.drew) lf 39 39 54 i0 (.agg #[.int .u8 0,.int .u32 0,.int .u32 0,.int .i64 0,.slice none 0 0]) 5 48 Tryz.underlying39 hi0 hz0 hz1 hz2 rfl (by decide) _ _ _ (show w8.drew.ownsRow lf 54 5 (.slice (some ⟨fb,0,none⟩) m fc) m (Zp qs) from hFw) ⟨zb,0,none⟩ nl zc (Zp zs) HO.out.1 (fun j u hj=>HO.out.cells (g:=zb) rfl j u hj) (Vj (Zks HZ.out)) (by unfold maxLen;omega) (by omega) (show lf<=w8.heap.size from Qf hlf (Qf B4.out.size HB.out.size));obtain⟨A2,c2,rfl,_,_,_,h5⟩:=Yr o1;obtain⟨ad2,rfl⟩:=h5 (by omega);obtain⟨b2,_,rfl,_⟩:=Xs o1;have hgb:w8.grownBy W1 (some fb):=Za0 gg1;have hBw:P9 w.heap.size w w8:=B4.out.trans (HB.out.mono B4.out.size);have hsz8:=hBw.size;have ka:∀ k,k<w8.heap.size->k≠fb->W1.heap[k]? = w8.heap[k]? := fun k h1 h2=>hgb.block k h1 (fun e=>h2 (Option.some.inj e))
  have z1:W1.heap[w.heap.size]? = w8.heap[w.heap.size]? := ka _ (by have:=HB.out.size;have:=SZ.out;omega) (by omega);have z6:W1.heap[w2.heap.size]? = some (.cells #[.int .i64 0,.int .i64 0] 108 (0,0)):=(ka _ (by have:=HB.out.size;have:=SZ.out;omega) (by have:=SZ.out;omega)).trans a6.out;have zg:W1.heap[g]? = w8.heap[g]? := ka _ (Qc.1 G9.out).1 (by have:=hg.out;have:=SZ.out;omega)
  have K1:=Za (fun W (hW:W=w8.drew\/W=W1)=>(show W.heap[w.heap.size]? = _ from by
   rcases hW with rfl | rfl
   ·exact KB1.out w8 HB.out
   ·exact z1.trans (KB1.out w8 HB.out)))
  have KG:=Za (fun W (hW:W=w8.drew\/W=W1)=>(show W.heap[g]? = _ from by
   rcases hW with rfl | rfl
   ·exact G9.out
   ·exact zg.trans G9.out))
  obtain⟨W9,hW9,g10,gr10,gs10⟩:=Ys (u:=.int .i64 (p:Int)) (v:=.int .i64 2) z6;obtain⟨y0,y1,_⟩:=Zg g10;obtain⟨x0,x1,xf,_⟩:=Zg z6
  have hfin:Hid (∃ b c',Ending.returned (.tuple #[.agg #[.int .i64 (p:Int),.int .i64 2],.slice (some ⟨b2,0,none⟩) (m+nl) c2,.int .i64 0])=.returned (.tuple #[.agg #[.int .i64 (R.1:Int),.int .i64 (R.2.1:Int)],.slice (some ⟨b,0,none⟩) R.2.2.length c',.int .i64 0])/\Y6 (Old W9) W9 [.slice (some ⟨b,0,none⟩) R.2.2.length c'] R.2.2/\w.grownBy W9 ((some (⟨fb,0,none⟩:Py)).map (·.block))):=Za (by
   have eR:R=(p,2,L1++L5):=by rw[hR2.out,if_pos (by rw[hL5l.out,hL1.out];omega)]
   have el:(L1++L5).length=m+nl:=by rw[Qi,hL5l.out,hL1.out]
   have hgA:w.grownBy W9 (some fb):=by
    have h1:=Xc ⟨hBw.os,hBw.tape,hBw.output,hBw.size,fun k hk _=>hBw.block k hk⟩ hgb;refine⟨gr10.os.trans h1.os,gr10.tape.trans h1.tape,gr10.output.trans h1.output,Qf h1.size gr10.size,fun k hk hne=>(gr10.block k (Qg hk h1.size) (fun e=> ?_)).trans (h1.block k hk hne)⟩;have:=Option.some.inj e;have:=SZ.out;omega
   rw[eR];refine⟨b2,c2,by rw[el];rfl,?_,hgA⟩;rw[el];have hco:Zp (qs++zs)=Zp qs++Zp zs:=Vk _ _;have hO9:W9.ownsRow lf 54 5 (.slice (some ⟨b2,0,none⟩) (m+nl) c2) (m+nl) (Zp (qs++zs)):=Zei (by rw[hco];exact o1) z6 (by decide) gr10;have:=Zlr hO9 (fun q hq=> ?_)
   ·rwa [Qt,hqs'.out,HL.out] at this
   ·rcases Qo.1 hq with hq | hq
    ·refine⟨(hqi'.out q hq).1,Zf _ _ _ _ _ _ (fun a v ha hc=> ?_) (hqi'.out q hq).2⟩
     have h1:a.block≠fb:=fun e=>ha.2 (by rw[e];rfl)
     have hb:=(gr10.block a.block (by have:=ha.1;have:=hgb.size;omega) (fun e=>by have:=Option.some.inj e;have:=ha.1;have:=SZ.out;omega)).trans ((ka a.block (by have:=ha.1;omega) h1).trans (hBw.block a.block ha.1));exact⟨Qg ha.1 (Qf hsz8 (Qf hgb.size gr10.size)),(Qd hb).trans hc⟩
    ·refine⟨(HZ.out q hq).1,Zf _ _ _ _ _ _ (fun a v ha hc=> ?_) (HZ.out q hq).2⟩
     have hb:=(gr10.block a.block (by have:=ha.2.1;have:=hgb.size;omega) (fun e=>by have:=Option.some.inj e;have:=ha.1;have:=SZ.out;omega)).trans (ka a.block ha.2.1 (by have:=ha.1;have:=SZ.out;omega))
     exact⟨Qg ha.2.1 (Qf hgb.size gr10.size),(Qd hb).trans hc⟩)
  have HR:=Za hr;clear hr o1 gg1 bb1 kk1 hgb ka z1 zg g10 gr10 gs10 hFw hi0 hz0 hz1 hz2 hBw hzl hzs;replace z6:=Za z6
  go_upto_region 14 with fail
  clear p0 p1 p2 n0 n1 d0 d1 df m0 m1 mf
  refine Zgs ⟨fun W W'=>W'=W\/(W=w8.drew/\W'=W1),6,fun W=>W=w8.drew⟩ (by kernel_rfl) 7 (fun W=>W=w8.drew\/W=W1) (fun i=>match i with
   | 6=>some (fun v W=>v=.slice (some ⟨b2,0,none⟩) (m+nl) c2/\W=W1)
   | _=>none) (fun _=>none) ?h1J ?h2J ?h3J rfl ?honJ (.inl rfl) (fun W W' h hr=> ?hcbJ) ?tstJ ?_
  case h1J=>decide
  case h2J=>kernel_rfl
  case h3J=>kernel_rfl
  case honJ=>kernel_rfl
  case hcbJ =>
   rcases hr with rfl | ⟨_,rfl⟩
   ·exact h
   ·exact .inr rfl
  case tstJ =>
   intro j φ v W W' hp hx hr
   match j,hp with
   | 6,hp =>
    cases hp;obtain⟨e1,e2⟩:=hx;rcases hr with rfl | ⟨_,rfl⟩
    ·exact⟨e1,e2⟩
    ·exact⟨e1,rfl⟩
  simp only[Qk,Ql,Qm,Qn]
  repeat (first
   | (refine Rk.wpAs_skip rfl ?_;simp only[Qb,Zb,Zc,Zd])
   | (refine Rk.wpAs_pure (v := ?_) rfl rfl ?_ ?_;rotate_left;(intro W hC hE;clear hE;(obtain⟨p0,p1,p2,_⟩:=Zj (K1.out W hC);obtain⟨n0,n1,_⟩:=Zg (KG.out W hC));clear hC;go_simp;first | done | with_reducible rfl);simp only[Qb,Zb,Zc,Zd]))
  refine Rk.wpAs_act rfl rfl ?_ ?_
  ·intro W hC hk hE
   obtain rfl:=hk rfl;clear hE hC;exact Zmt _ _ _ rfl rfl rfl HR.out ⟨⟨rfl,rfl⟩,.inr ⟨rfl,rfl⟩⟩
  simp only[Qb,Zb,Zc,Zd,Rb.envAdd];intro x9
  repeat (first
   | (refine Rk.wpAs_skip rfl ?_;simp only[Qb,Zb,Zc,Zd])
   | (refine Rk.wpAs_pure (v := ?_) rfl rfl ?_ ?_;rotate_left;(intro W hC hE;clear hE;skip;clear hC;go_simp;first | done | with_reducible rfl);simp only[Qb,Zb,Zc,Zd]))
  refine Rk.wpAs_end fun W hC hE=> ?_
  obtain⟨⟨rfl,rfl⟩,_⟩:=hE
  go_wp2_with fail
  exact P3 (v:=.tuple #[.agg #[.int .i64 (p:Int),.int .i64 2],.slice (some ⟨b2,0,none⟩) (m+nl) c2,.int .i64 0]) (by simp[results,Tryz.results50,go_sem,y0,y1]) rfl hfin.out
 ·have hpn:p+1=n:=by omega
  rw[hpn] at i1;have hMn:Hid (M[p+1]? = none):=Za (Pt (by rw[hnn.out];omega));by_cases h0:p=0
  ·have i2:IntKind.i64.wrap ((p:Int)-1) = -1:=by rw[IntKind.wrap_i64];omega
   have a6:=KB6.out w4 (Qa _ _);obtain⟨W9,hW9,g10,gr10,gs10⟩:=Ys (u:=.int .i64 (p:Int)) (v:=.int .i64 1) a6;have hfin:=Za (halone.out W9 (B4.out.grown gr10 B4.out.size (fun q e=>by cases e;have:=SZ.out;omega)) (by rw[hMe.out,hMn.out];simp only[if_pos h0]));obtain⟨y0,y1,_⟩:=Zg g10;replace h0:=Za h0;replace hpn:=Za hpn;clear g10 gr10 gs10 a6
   go_wp2_with fail
   exact P3 (v:=.tuple #[.agg #[.int .i64 (p:Int),.int .i64 1],.slice (some ⟨fb,0,none⟩) m fc,.int .i64 0]) (by simp[results,Tryz.results50,go_sem,y0,y1]) rfl hfin.out
  ·obtain⟨bs,hbs⟩:∃ bs,bs=p-1:=⟨_,rfl⟩
   have i2:IntKind.i64.wrap ((p:Int)-1)=(bs:Int):=by rw[IntKind.wrap_i64];omega
   have t1:¬ ((bs:Int)<0):=by omega
   have t2:(0:Int)<=(bs:Int):=by omega
   have t3:(bs:Int)<(n:Int):=by omega
   have t4:bs<n:=by omega
   have t5:((bs:Int)<(p:Int)):=by omega
   have t6:(bs<p):=by omega
   obtain⟨c0,hc0⟩:∃ c0,M[bs]? = some c0:=⟨_,Qh (by rw[hnn.out];omega)⟩
   obtain⟨x,lv,nl,L5,hx,hx5,hL5l,hcf,HN⟩:=hnb.out bs c0 hc0
   have hR2:Hid (R=if L5.length+L1.length<=5 then (bs,2,L5++L1) else (p,1,L1)):=Za (by
    rw[hMe.out,hMn.out];simp only[if_neg h0];rw[<- hbs,hc0]
    simp only[hx,hx5])
   have hn5':nl<=5:=hL5l.out.2.1;have hn0':=Za hL5l.out.2.2;replace hL5l:=Za hL5l.out.1;have i3:IntKind.i64.wrap ((m:Int)+(nl:Int))=(m:Int)+(nl:Int):=by rw[IntKind.wrap_i64];omega
   replace hx:=Za hx;replace hx5:=Za hx5;replace hc0:=Za hc0;replace hbs:=Za hbs;replace h0:=Za h0;replace hpn:=Za hpn;clear hnb
   go_upto_region 7 with fail
   refine Xh (ops' := ?opsLateC) (by kernel_rfl) [(13,11)] ?heC (by kernel_rfl) (fun d _ _ _ _ h=>by cases d <;> exact h) 13 (fun W=>P9 w4.heap.size w4 W) (fun i=>match i with
    | 8=>some (fun v W=>∃ Z zc,v=.tuple #[.agg #[.int .i64 lv,.slice Z nl zc],.int .i64 0]/\Ya rIt 5 54 w4.heap.size W Z zc L5)
    | 9=>some (fun v W=>∃ Z zc,v=.tuple #[.agg #[.int .i64 lv,.slice Z nl zc],.int .i64 0]/\Ya rIt 5 54 w4.heap.size W Z zc L5)
    | 10=>some (fun v W=>∃ Z zc,v=.agg #[.int .i64 lv,.slice Z nl zc]/\Ya rIt 5 54 w4.heap.size W Z zc L5)
    | 12=>some (fun v W=>∃ g,v=.pointer (some ⟨g,0,none⟩)/\w4.heap.size<=g/\W.heap[g]? = some (.cells #[.int .i64 0,.slice none 0 0] 81 (0,0)))
    | _=>none) (fun i=>match i with
    | 11=>some (.int .i64 0)
    | _=>none) ?h1C ?h2C ?h3C (Qa _ _).drew (fun w w' h hb=>h.trans (hb.mono h.size)) ?tstC ?_
   case heC =>
    simp[Yg];rfl
   case h1C=>decide
   case h2C=>kernel_rfl
   case h3C=>kernel_rfl
   case tstC =>
    intro j φ x W W' hp hx hb
    match j,hp with
    | 8,hp=>cases hp;obtain⟨Z,zc,e,h⟩:=hx;exact⟨Z,zc,e,h.below Yl hb⟩
    | 9,hp=>cases hp;obtain⟨Z,zc,e,h⟩:=hx;exact⟨Z,zc,e,h.below Yl hb⟩
    | 10,hp=>cases hp;obtain⟨Z,zc,e,h⟩:=hx;exact⟨Z,zc,e,h.below Yl hb⟩
    | 12,hp=>cases hp;obtain⟨g,e,h1,h2⟩:=hx;exact⟨g,e,h1,(hb.block g (Qc.1 h2).1).trans h2⟩
   simp only[Qk,Ql,Qm,Qn]
   repeat (first
    | (refine wpAs_skip rfl ?_;simp only[Qb,Zb,Zc,Zd])
    | (refine wpAs_pure (v := ?_) rfl rfl ?_ ?_;rotate_left;(intro W hC hE;clear hE;(obtain⟨k0,k1,k2,k3,_⟩:=Ze (KB2.out W hC);obtain⟨p0,p1,p2,_⟩:=Zj (KB1.out W hC);have cf:=hcf.out W hC);clear hC;go_simp;first | done | with_reducible rfl);simp only[Qb,Zb,Zc,Zd]))
   refine wpAs_act rfl rfl ?_ ?_
   ·intro W hC hE
    clear hE;refine does_enter (f:=36) (args:=#[.agg #[.slice qa.1 qa.2.1 qa.2.2,.slice qb.1 qb.2.1 qb.2.2,.slice qc.1 qc.2.1 qc.2.2,.slice qd.1 qd.2.1 qd.2.2],.int .i64 x]) ?_ ?_
    ·go_simp
    ·refine(HN.out W hC).mono ?_
     rintro e W' ⟨Z,zc,rfl,hI,hb⟩;exact⟨_,rfl,⟨Z,zc,rfl,hI⟩,hb⟩
   simp only[Qb,Zb,Zc,Zd,envAdd];intro x2;refine wpAs_act rfl rfl ?_ ?_
   ·intro W hC hE
    have h7:=hE.1 rfl;clear hE hC
    go_simp
    exact⟨h7,Qa _ _⟩
   simp only[Qb,Zb,Zc,Zd,envAdd];intro x3;refine wpAs_act rfl rfl ?_ ?_
   ·intro W hC hE
    obtain⟨Z,zc,rfl,hI⟩:=hE.1 rfl;have hI':=Za hI;clear hE hC hI
    go_simp
    exact⟨⟨Z,zc,rfl,hI'.out⟩,Qa _ _⟩
   simp only[Qb,Zb,Zc,Zd,envAdd];intro x4;refine wpAs_fixed rfl rfl rfl ?_ ?_
   ·intro W hC hE
    obtain⟨Z,zc,rfl,hI⟩:=hE.2.1 rfl;clear hE hC hI
    go_simp
    exact⟨rfl,Qa _ _⟩
   simp only[Qb,Zb,Zc,Zd];refine wpAs_act rfl rfl ?_ ?_
   ·intro W hC hE
    have hs:=hC.size;clear hE hC
    go_simp
    exact⟨⟨W.heap.size,rfl,hs,P4 _ _⟩,(Qa _ _).alloc (Qe _) _⟩
   simp only[Qb,Zb,Zc,Zd,envAdd];intro x6;refine wpAs_end fun W hC hE=> ?_
   obtain⟨⟨g,rfl,hg,hzz⟩,⟨Z,zc,rfl,hI⟩,_⟩:=hE;obtain⟨c0,c1,c2,_⟩:=Zg hzz;obtain⟨w8,hW9,g9,gr9,gs9⟩:=Ys (u:=.int .i64 lv) (v:=.slice Z nl zc) hzz;have hb9:=hC.grown gr9 hC.size (fun q e=>by cases e;exact hg);obtain⟨zs,e1,e2,e3⟩:=Zdv hI;rw[hL5l.out] at e2;have e2':=Zei e2 hzz (by decide) gr9;have HZ:=Za (show (∀ p∈zs,InI p.1/\rBy (fun a=>w4.heap.size<=a.block/\a.block<w8.heap.size/\Z.map (·.block)≠some a.block) w8 [p.2] p.1.2.2) from fun p hp=>⟨(e3 p hp).1,Zf _ _ _ _ _ _ (fun a v ha hc=>⟨⟨ha.1.1.1,Qg ha.1.1.2.1 gr9.size,ha.1.2⟩,(Qd (gr9.block a.block ha.1.1.2.1 (fun e=>ha.2 (Option.some.inj e)))).trans hc⟩) (Z13 (e3 p hp).2 hzz)⟩);have HO:=Za e2';have HB:=Za hb9;have HL:=Za e1;have G9:=Za g9;have a1:=KB1.out w8 hb9;have a6:=KB6.out w8 hb9;have a9:=KB9.out w8 hb9;obtain⟨p0,p1,p2,_⟩:=Zj a1;obtain⟨m0,m1,mf,_⟩:=Zg a6;obtain⟨d0,d1,df,_⟩:=Zg a9;obtain⟨n0,n1,_⟩:=Zg g9;replace a6:=Za a6;replace gr9:=Za gr9;replace gs9:=Za gs9;replace hg:=Za hg;clear hC hI hzz hb9 e1 e2 e2' e3 a1 a9;replace g9:=Za g9
   go_upto_region 10 with fail
   clear hW9 c0 c1 c2;by_cases hmany:5<m+nl
   ·have j1:(5:Int)<(m:Int)+(nl:Int):=by omega
    obtain⟨W9,hW9,g10,gr10,gs10⟩:=Ys (u:=.int .i64 (p:Int)) (v:=.int .i64 1) a6.out;have hfin:=Za (halone.out W9 ((B4.out.trans (HB.out.mono B4.out.size)).grown gr10 (B4.out.trans (HB.out.mono B4.out.size)).size (fun q e=>by cases e;have:=SZ.out;omega)) (by rw[hR2.out,if_neg (by rw[hL5l.out,hL1.out];omega)]));obtain⟨y0,y1,_⟩:=Zg g10;clear g10 gr10 gs10
    go_wp2_with fail
    exact P3 (v:=.tuple #[.agg #[.int .i64 (p:Int),.int .i64 1],.slice (some ⟨fb,0,none⟩) m fc,.int .i64 0]) (by simp[results,Tryz.results50,go_sem,y0,y1]) rfl hfin.out
   have j1:¬ ((5:Int)<(m:Int)+(nl:Int)):=by omega
   obtain⟨zad,rfl⟩:∃ zad,Z=some zad:=by
    obtain⟨_,_,e,_,_,_,h5⟩:=Yr HO.out;cases e;exact h5 hn0'.out
   obtain⟨zb,CZ,rfl,hzl,hzs,_⟩:=Xs HO.out;obtain⟨i0,hi0,hz0,hz1,hz2⟩:=info_parts Ul;have hFw:=Zr (Zr hF'.out B4.out) HB.out;obtain⟨v',W1,hr,o1,gg1,bb1,kk1⟩:=Zfi (P:=Tryz.prog) (w:=w8) w4.heap.size 39 39 54 i0 (.agg #[.int .u8 0,.int .u32 0,.int .u32 0,.int .i64 0,.slice none 0 0]) 5 48 Tryz.underlying39 hi0 hz0 hz1 hz2 rfl (by decide) _ _ _ HO.out ⟨fb,0,none⟩ m fc (Zp qs) hFw.1 (fun j u hj=>hFw.cells (g:=fb) rfl j u hj) (Vj honq.out) (by unfold maxLen;omega) (by omega) (Qf (Qe _) HB.out.size);obtain⟨A2,c2,rfl,_,_,_,h5⟩:=Yr o1;obtain⟨ad2,rfl⟩:=h5 (by omega);obtain⟨b2,_,rfl,_⟩:=Xs o1;have hgb:w8.grownBy W1 (some zb):=gg1;have hBw:P9 w.heap.size w w8:=B4.out.trans (HB.out.mono B4.out.size);have hsz8:=hBw.size;have ka:∀ k,k<w8.heap.size->k≠zb->W1.heap[k]? = w8.heap[k]? := fun k h1 h2=>hgb.block k h1 (fun e=>h2 (Option.some.inj e))
   have z6:W1.heap[w2.heap.size]? = some (.cells #[.int .i64 0,.int .i64 0] 108 (0,0)):=(ka _ (by have:=HB.out.size;have:=SZ.out;omega) (by have:=SZ.out;omega)).trans a6.out;obtain⟨W9,hW9',g10,gr10,gs10⟩:=Ys (u:=.int .i64 (bs:Int)) (v:=.int .i64 2) z6;obtain⟨y0,y1,_⟩:=Zg g10;obtain⟨x0,x1,xf,_⟩:=Zg z6
   have hfin:Hid (∃ b c',Ending.returned (.tuple #[.agg #[.int .i64 (bs:Int),.int .i64 2],.slice (some ⟨b2,0,none⟩) (nl+m) c2,.int .i64 0])=.returned (.tuple #[.agg #[.int .i64 (R.1:Int),.int .i64 (R.2.1:Int)],.slice (some ⟨b,0,none⟩) R.2.2.length c',.int .i64 0])/\Y6 (Old W9) W9 [.slice (some ⟨b,0,none⟩) R.2.2.length c'] R.2.2/\w.grownBy W9 ((some (⟨fb,0,none⟩:Py)).map (·.block))):=Za (by
    have eR:R=(bs,2,L5++L1):=by rw[hR2.out,if_pos (by rw[hL5l.out,hL1.out];omega)]
    have el:(L5++L1).length=nl+m:=by rw[Qi,hL5l.out,hL1.out]
    have hB1:=hBw.grown hgb hBw.size (fun q e=>by cases e;have:=SZ.out;omega);have hB9:=hB1.grown gr10 hB1.size (fun q e=>by cases e;have:=SZ.out;omega);rw[eR];refine⟨b2,c2,by rw[el];rfl,?_,⟨hB9.os,hB9.tape,hB9.output,hB9.size,fun k hk _=>hB9.block k hk⟩⟩;rw[el];have hco:Zp (zs++qs)=Zp zs++Zp qs:=Vk _ _;have hO9:W9.ownsRow w4.heap.size 54 5 (.slice (some ⟨b2,0,none⟩) (nl+m) c2) (nl+m) (Zp (zs++qs)):=Zei (by rw[hco];exact o1) z6 (by decide) gr10;have:=Zlr hO9 (fun q hq=> ?_)
    ·rwa [Qt,hqs'.out,HL.out] at this
    ·rcases Qo.1 hq with hq | hq
     ·refine⟨(HZ.out q hq).1,Zf _ _ _ _ _ _ (fun a v ha hc=> ?_) (HZ.out q hq).2⟩
      have h1:a.block≠zb:=fun e=>ha.2.2 (by rw[e];rfl)
      have hb:=(gr10.block a.block (by have:=ha.2.1;have:=hgb.size;omega) (fun e=>by have:=Option.some.inj e;have:=ha.1;have:=SZ.out;omega)).trans (ka a.block ha.2.1 h1);exact⟨Qg ha.2.1 (Qf hgb.size gr10.size),(Qd hb).trans hc⟩
     ·refine⟨(hqi'.out q hq).1,Zf _ _ _ _ _ _ (fun a v ha hc=> ?_) (hqi'.out q hq).2⟩
      exact⟨Qg ha.1 hB9.size,(Qd (hB9.block a.block ha.1)).trans hc⟩)
   have HR:=Za hr;clear hr o1 gg1 bb1 kk1 hgb ka g10 gr10 gs10 hFw hi0 hz0 hz1 hz2 hBw hzl hzs z6
   go_upto_region 13 with fail
   go_wp2_with (at_builtin;refine Zi rfl _ _ _ rfl rfl rfl HR.out ?_;clear HR)
   exact P3 (v:=.tuple #[.agg #[.int .i64 (bs:Int),.int .i64 2],.slice (some ⟨b2,0,none⟩) (nl+m) c2,.int .i64 0]) (by simp[results,Tryz.results50,go_sem,y0,y1]) rfl hfin.out}
end Go.Proofs.YtgmbjnajdfgenaaGreat
namespace Go.Proofs.YtgmbjnajdfgenaaGreat
open Go.RowKit Go.Shelf
structure Zdt (lo hi:Nat) (V:Pw) (A:Option Py) (c:Nat) (L:List It):Prop where
 le:lo<=hi
 blk:∀ g,A.map (·.block)=some g->lo<=g/\g<hi
 row:∃ ps:List Iv,ps.map (·.1)=L/\V.ownsRow lo 54 5 (.slice A L.length c) L.length (Zp ps)/\∀ p∈ps,InI p.1/\rBy (fun ad=>lo<=ad.block/\ad.block<hi/\A.map (·.block)≠some ad.block) V [p.2] p.1.2.2
theorem Zxt {lo hi:Nat}(h:lo<=hi) (V:Pw):Zdt lo hi V none 0 []:=⟨h,fun g e=>(by cases e),[],rfl,Pg ..,fun p hp=>(Ph hp).elim⟩
theorem Zcw {lo size n:Nat}{t:Pz}{A:Option Py}{c:Nat}{V V':Pw}{xs:List Px}(h:V.ownsRow lo t size (.slice A n c) n xs) (e:∀ k,A.map (·.block)=some k->V'.heap[k]? = V.heap[k]?):V'.ownsRow lo t size (.slice A n c) n xs:=by{
 refine⟨h.1,?_⟩;rcases h.2 with e' | ⟨b,cap,cur,e',hb,hgg,r⟩
 ·exact .inl e'
 ·cases e'
  exact .inr ⟨b,_,cur,rfl,hb,(e b rfl).trans hgg,r⟩}
theorem Zdt.same {lo hi:Nat}{V V':Pw}{A:Option Py}{c:Nat}{L:List It}(h:Zdt lo hi V A c L) (e:∀ k,lo<=k->k<hi->V'.heap[k]? = V.heap[k]?):Zdt lo hi V' A c L:=by
 obtain⟨ps,h1,h2,h3⟩:=h.row;exact⟨h.le,h.blk,ps,h1,Zcw h2 fun k hk=>e k (h.blk k hk).1 (h.blk k hk).2,fun p hp=>⟨(h3 p hp).1,Zf _ _ _ _ _ _ (fun a v ha hc=>⟨ha,(Qd (e a.block ha.1 ha.2.1)).trans hc⟩) (h3 p hp).2⟩⟩
theorem Zdt.kept {lo hi:Nat}{V V':Pw}{A:Option Py}{c:Nat}{L:List It}{row:Option Nat}(h:Zdt lo hi V A c L) (hg:V.grownBy V' row) (hr:∀ r,row=some r->∃ o:Obj,V.heap[r]? = some o/\o.isCells=false):Zdt lo hi V' A c L:=by
 obtain⟨ps,h1,h2,h3⟩:=h.row;refine⟨h.le,h.blk,ps,h1,⟨h2.1,?_⟩,fun p hp=>⟨(h3 p hp).1,Zf _ _ _ _ _ _ (fun a v ha hc=>⟨ha,cell_kept hc hg hr⟩) (h3 p hp).2⟩⟩;rcases h2.2 with e' | ⟨b,cap,cur,e',hb,hgg,r⟩
 ·exact .inl e'
 ·exact .inr ⟨b,cap,cur,e',hb,Z8 hgg hg hr,r⟩
theorem Zdt.wide {lo hi hi':Nat}{V:Pw}{A:Option Py}{c:Nat}{L:List It}(h:Zdt lo hi V A c L) (hh:hi<=hi'):Zdt lo hi' V A c L:=by
 obtain⟨ps,h1,h2,h3⟩:=h.row;exact⟨Qf h.le hh,fun g e=>⟨(h.blk g e).1,Qg (h.blk g e).2 hh⟩,ps,h1,h2,fun p hp=>⟨(h3 p hp).1,Zf _ _ _ _ _ _ (fun a v ha hc=>⟨⟨ha.1,Qg ha.2.1 hh,ha.2.2⟩,hc⟩) (h3 p hp).2⟩⟩
theorem Zdt.its {lo hi:Nat}{V:Pw}{A:Option Py}{c:Nat}{L:List It}(h:Zdt lo hi V A c L) (hh:hi<=V.heap.size):Y6 (Old V) V [.slice A L.length c] L:=by
 obtain⟨ps,h1,h2,h3⟩:=h.row;have:=Zlr h2 (fun p hp=>⟨(h3 p hp).1,Zf _ _ _ _ _ _ (fun a v ha hc=>⟨Qg ha.2.1 hh,hc⟩) (h3 p hp).2⟩)
 rwa [h1] at this
theorem Zzg {V:Pw}{q:Sv}(h:Zhm V q) (hq:q.lo<=q.hi):Zdt q.lo q.hi V q.A q.c q.nd.2:=by
 obtain⟨w0,h0,h1,h3⟩:=h;obtain⟨ps,e1,e2,e3⟩:=Zdv h1;have hb:∀ g,q.A.map (·.block)=some g->q.lo<=g/\g<q.hi:=fun g e=>by
  have:=e2.lt g (by rw[<- e];cases q.A <;> rfl);exact⟨this.1,by omega⟩
 exact⟨hq,hb,ps,e1,Zcw e2 fun k hk=>h3 k (hb k hk).1 (hb k hk).2,fun p hp=>⟨(e3 p hp).1,Zf _ _ _ _ _ _ (fun a v ha hc=>⟨⟨ha.1.1,by have:=ha.1.2.1;omega,ha.2⟩,(Qd (h3 a.block ha.1.1 (by have:=ha.1.2.1;omega))).trans hc⟩) (e3 p hp).2⟩⟩
theorem Z1x {lo hi:Nat}{V W:Pw}{A:Option Py}{c:Nat}{L:List Iv}{e:P8}(hl:lo<=hi) (hb:∀ g,A.map (·.block)=some g->lo<=g/\g<hi) (hi':hi<=V.heap.size) (h:Z1d lo V A c L e W) (hL:∀ p∈L,InI p.1/\rBy (fun ad=>lo<=ad.block/\ad.block<hi/\A.map (·.block)≠some ad.block) V [p.2] p.1.2.2):Zdt lo hi W A c (L.map (·.1)):=by
 obtain⟨_,h2,h3⟩:=h;refine⟨hl,hb,L,rfl,by rw[Q5];exact h2,fun p hp=>⟨(hL p hp).1,Zf _ _ _ _ _ _ (fun a v ha hc=>⟨ha,?_⟩) (hL p hp).2⟩⟩;exact(Qd (h3.block a.block (by omega) (fun e=>ha.2.2 e.symm))).trans hc
def ShI (l0 lo hi B2 B4 B5 B6 B7 B8:Nat) (A0:Option Py) (c0:Nat) (n0:Pw) (s:Rm) (k:Ky) (a:Int) (lv:Nat) (l:List Sv) (r:List Nat×Option Nat) (V:Pw):Prop :=
 r.2=none/\(P9 lo n0 V/\hi<=V.heap.size/\V.ownsRow lo 102 3 (.slice A0 l.length c0) l.length (dvs l))/\(Xu B4 #[.slice none 0 0,.slice none 0 0,.slice none 0 0,.slice none 0 0] 29 V/\Xu B5 #[.int .i64 0] 3 V/\Xu B6 #[.int .i64 0] 33 V) /\
 ∃ (t:Rm) (L:List It) (held:Int) (qa qb qc qd:Option Py×Nat×Nat) (A:Option Py) (c bnd:Nat),stO k s a lv r.1.length=(0,t,L,held)/\Xu B2 #[.slice qa.1 qa.2.1 qa.2.2,.slice qb.1 qb.2.1 qb.2.2,.slice qc.1 qc.2.1 qc.2.2,.slice qd.1 qd.2.1 qd.2.2] 29 V /\
  Sto (Kn (fun k=>k<l0\/hi<=k) V) V (.agg #[.slice qa.1 qa.2.1 qa.2.2,.slice qb.1 qb.2.1 qb.2.2,.slice qc.1 qc.2.1 qc.2.2,.slice qd.1 qd.2.1 qd.2.2]) t/\Xu B7 #[.slice A L.length c] 39 V/\Xu B8 #[.int .i64 held] 3 V /\
  (lo<=bnd/\Zdt bnd n0.heap.size V A c L/\(A=none\/∃ q∈l,q.A=A))/\∀ q∈l.take (l.length-r.1.length),q.hi<=bnd/\Zhm V q
def ShX (lo hi B4 B5 B6:Nat) (n0:Pw) (s:Rm) (k:Ky) (a:Int) (lv:Nat) (c:Code) (r:List Nat×Option Nat) (V:Pw):Prop :=
 c=.ret/\r.2=none/\(P9 lo n0 V/\hi<=V.heap.size)/\∃ er:Int,Xu B4 #[.slice none 0 0,.slice none 0 0,.slice none 0 0,.slice none 0 0] 29 V/\Xu B5 #[.int .i64 0] 3 V/\Xu B6 #[.int .i64 er] 33 V/\stO k s a lv (lv+1)=(er,Zn,[],0)/\er≠0
theorem Zv5 {K:Nat->Prop}{V V':Pw}{v:Px}{s:Rm}{row:Option Nat}(h:Sto (Kn K V) V v s) (hg:V.grownBy V' row) (hr:∀ r,row=some r->∃ o:Obj,V.heap[r]? = some o/\o.isCells=false):Sto (Kn K V') V' v s :=
 h.map fun _ _ hp hc=>⟨⟨hp.1,Qg hp.2 hg.size⟩,cell_kept hc hg hr⟩
theorem Z0m {lo size n:Nat}{t:Pz}{v:Px}{V V':Pw}{xs:List Px}{row:Option Nat}(h:V.ownsRow lo t size v n xs) (hg:V.grownBy V' row) (hr:∀ r,row=some r->∃ o:Obj,V.heap[r]? = some o/\o.isCells=false):V'.ownsRow lo t size v n xs:=by
 refine⟨h.1,?_⟩;rcases h.2 with e' | ⟨b,cap,cur,e',hb,hgg,r⟩
 ·exact .inl e'
 ·exact .inr ⟨b,cap,cur,e',hb,Z8 hgg hg hr,r⟩
theorem Z3v {l0 lo hi B2 B4 B5 B6 B7 B8:Nat}{A0:Option Py}{c0:Nat}{n0:Pw}{s:Rm}{k:Ky}{a:Int}{lv:Nat}{l:List Sv}{B:Nat}(hlh:lo<=hi) (hB:lo<=B) (hq:∀ q∈l,q.hi<=B/\q.hi<=hi):OwnFrom B (ShI l0 lo hi B2 B4 B5 B6 B7 B8 A0 c0 n0 s k a lv l):=fun r V V' row hs hg hrr=>by
 obtain⟨h0,⟨h1,h2,h2o⟩,⟨h3,h4,h5⟩,t,L,held,qa,qb,qc,qd,A,c,bnd,e1,e2,e3,e4,e5,⟨e6,e7,e8⟩,e9⟩:=hs;have hn:=fun r e=>(hrr r e).2
 refine⟨h0,⟨h1.grown hg (by omega) (fun r e=>by have:=(hrr r e).1;omega),Qf h2 hg.size,Z0m h2o hg hn⟩,⟨Z8 h3 hg hn,Z8 h4 hg hn,Z8 h5 hg hn⟩,t,L,held,qa,qb,qc,qd,A,c,bnd,e1,Z8 e2 hg hn,Zv5 e3 hg hn,Z8 e4 hg hn,Z8 e5 hg hn,⟨e6,e7.kept hg hn,e8⟩,fun q hm=>⟨(e9 q hm).1,?_⟩⟩;have:=hq q (Qq hm);exact Zvb (e9 q hm).2 (by omega) hg fun r e=>.inr (by have:=(hrr r e).1;omega)
theorem Z2t {lo hi B4 B5 B6:Nat}{n0:Pw}{s:Rm}{k:Ky}{a:Int}{lv:Nat}{c:Code}{B:Nat}(hlh:lo<=hi) (hB:lo<=B):OwnFrom B (ShX lo hi B4 B5 B6 n0 s k a lv c):=fun r V V' row hs hg hrr=>by
 obtain⟨hc,h0,⟨h1,h2⟩,er,h3,h4,h5,h6⟩:=hs;have hn:=fun r e=>(hrr r e).2
 exact⟨hc,h0,⟨h1.grown hg (by omega) (fun r e=>by have:=(hrr r e).1;omega),Qf h2 hg.size⟩,er,Z8 h3 hg hn,Z8 h4 hg hn,Z8 h5 hg hn,h6⟩
noncomputable def Z38 (s:Rm) (a:Int) (lv:Nat) (k:Ky):Int×Rm×Int :=
 if (stO k s a lv (lv+1)).1=0 then Zpo (stO k s a lv (lv+1)).2.1 ((if (stO k s a lv (lv+1)).2.2.1=[] then 0 else (rmV s a).1),(stO k s a lv (lv+1)).2.2.1) (stO k s a lv (lv+1)).2.2.2 else ((stO k s a lv (lv+1)).1,Zn,0)
def Z6l (l0 lo:Nat) (g:Int×Rm×Int) (w:Pw) (e:P8) (w':Pw):Prop:=∃ qa qb qc qd:Option Py×Nat×Nat,e=.returned (.tuple #[.agg #[.slice qa.1 qa.2.1 qa.2.2,.slice qb.1 qb.2.1 qb.2.2,.slice qc.1 qc.2.1 qc.2.2,.slice qd.1 qd.2.1 qd.2.2],.int .i64 g.2.2,.int .i64 g.1]) /\
 Sto (Kn (fun k=>k<l0\/w.heap.size<=k) w') w' (.agg #[.slice qa.1 qa.2.1 qa.2.2,.slice qb.1 qb.2.1 qb.2.2,.slice qc.1 qc.2.1 qc.2.2,.slice qd.1 qd.2.1 qd.2.2]) g.2.1/\P9 lo w w'
theorem Zl1 {s0:Rm}:∀ {l:Nat}{s u:Rm}{r now:Int},Zmk s0 s l r->Yc l s r=(0,u,now)->Zav s0 u
 | 0,s,u,r,now,h,e=>by
  cases e;exact h.keep
 | l+1,s,u,r,now,h,e=>by
  by_cases h1:(rmV s r).1=0\/1<(rmV s r).2.length
  ·rw[Zpx h h1] at e
   cases e;exact h.keep
  ·obtain⟨j,y,hj,hy,h2⟩:=Z1g h h1
   obtain rfl:l=j:=by omega
   rcases h2 with ⟨_,e2⟩ | ⟨_,_,e2⟩ | ⟨_,_,e2,h3⟩
   ·rw[e2] at e
    cases e
   ·rw[e2] at e
    cases e
   ·rw[e2] at e
    exact Zl1 h3 e
structure Z64 (s:Rm) (a:Int) (o g:Int×Rm×Int):Prop where
 bad:g.1≠0->o=(g.1,Zn,0)
 good:g.1=0->∃ l,Zmk s g.2.1 l g.2.2/\((Yc l g.2.1 g.2.2).1≠0->o=((Yc l g.2.1 g.2.2).1,Zn,0)) /\
  ((Yc l g.2.1 g.2.2).1=0->(lvE (Yc l g.2.1 g.2.2).2.1 a≠0->o=(lvE (Yc l g.2.1 g.2.2).2.1 a,Zn,0))/\(lvE (Yc l g.2.1 g.2.2).2.1 a=0->o=(0,lvV (Yc l g.2.1 g.2.2).2.1 a,(Yc l g.2.1 g.2.2).2.2)))
theorem Z48 {s:Rm}{a:Int}{k:Ky}(ht:Vb s a=true):Z64 s a (Zje s a k) (Z38 s a (rmV s a).1.toNat k):=by{
 obtain⟨r1,ra,_,l0,l6,_⟩:=Zby ht;have hT:=Zig ht;obtain⟨lv,hlv⟩:∃ lv,(rmV s a).1.toNat=lv:=⟨_,rfl⟩
 have hlvi:(rmV s a).1=(lv:Int):=by omega
 rw[hlv] at hT ⊢;have hst:stO k s a lv (lv+1)=Zt k lv s a:=by
  show Zt k lv s (atW s k a (lv-lv))=_;rw[Qy];rfl
 have hun:Zje s a k=match Zt k lv s a with
  | (e,t,L,held)=>if e=0 then (match Ym t (if L=[] then 0 else (lv:Int)) L with
   | (f,u,up)=>if f=0 then (match Yc (if L=[] then 0 else lv) (if held=0 then u else Zaf u held) (Zyr up) with
    | (g,w,now)=>if g=0 then (match lfO w.1 w.2.1 a.toNat with | none=>(8,Zn,0) | some v=>(0,(w.1,v,w.2.2),now)) else (g,Zn,0)) else (f,Zn,0)) else (e,Zn,0):=by
  unfold Zje;rw[hlv,hlvi];rfl
 rw[hun];unfold Z38;rw[hst,hlvi];obtain⟨e,t,L,held,hs⟩:∃ e t L held,Zt k lv s a=(e,t,L,held):=⟨_,_,_,_,rfl⟩
 rw[hs]
 dsimp only
 by_cases he:e=0
 ·subst he
  rw[if_pos rfl,if_pos rfl];have G:=X8 (by omega) hT hs;obtain⟨l',hl'⟩:∃ l':Nat,(if L=[] then 0 else lv)=l':=⟨_,rfl⟩
  have hl'i:(if L=[] then (0:Int) else (lv:Int))=(l':Int):=by
   rw[<- hl'];split <;> rfl
  rw[hl',hl'i];have G':Z2b s t l' L held:=by
   by_cases hL:L=[]
   ·rw[if_pos hL] at hl'
    subst hl';exact⟨G.keep,G.few,G.inI,fun j hj=>(by cases hj),G.own,G.none,G.more⟩
   ·rw[if_neg hL] at hl'
    subst hl';exact G
  have hl6:l'<6:=by
   rw[<- hl'];split <;> omega
  have hlay:=Zvs (s:=t) (lv:=(l':Int)) (held:=held) G.few (by
   rcases G.own with h | ⟨_,_,_,q,hq,hqe⟩
   ·exact .inl h
   ·exact .inr ⟨q,hq,hqe⟩)
  by_cases hb:(Ym t (l':Int) L).1=0
  ·obtain⟨u,up,e⟩:∃ u up,Ym t (l':Int) L=(0,u,up):=⟨_,_,Prod.ext hb rfl⟩
   rw[hlay,e]
   dsimp only
   rw[if_pos rfl,if_pos rfl];obtain⟨z,rfl,z8,zn,k1,k2,k3,k4,k5,k6⟩:=Zib G' G.few (Zyk hl6 G.inI) (fun _ h=>h) G'.lev e;have hnow:Zyr [upI L z]=z:=rfl;rw[hnow]
   have hlow:Zmk s (if held=0 then u else Zaf u held) l' z:=⟨k1,k5,by
    unfold Zdz;rw[if_neg (fun h=>h zn),k4]
    exact Qe _⟩
   generalize (if held=0 then u else Zaf u held)=u1 at *;refine⟨fun h=>absurd rfl h,fun _=>⟨l',hlow,fun hw=> ?_,fun hw=> ?_⟩⟩
   ·generalize Yc l' u1 z=lo at hw ⊢
    obtain⟨g,w,now⟩:=lo;exact if_neg hw
   ·obtain⟨w,now,e3⟩:∃ w now,Yc l' u1 z=(0,w,now):=⟨_,_,Prod.ext hw rfl⟩
    have hk:=Zl1 hlow e3;have ha:=(V5 hk ra).1;rw[e3]
    dsimp only
    rw[if_pos rfl];cases hf:lfO w.1 w.2.1 a.toNat with
    | none =>
     have:=Zym ha hf;exact⟨fun _=>by rw[this],fun h=>by rw[this] at h;cases h⟩
    | some v =>
     obtain⟨h1,h2⟩:=Zqf ha hf;exact⟨fun h=>absurd h1 h,fun _=>by rw[h2]⟩
  ·rw[if_neg hb] at hlay
   rw[hlay];refine⟨fun _=> ?_,fun h=>absurd h hb⟩;generalize Ym t (l':Int) L=b at hb ⊢;obtain⟨f,u,up⟩:=b;exact if_neg hb
 ·rw[if_neg he,if_neg he]
  exact⟨fun _=>rfl,fun h=>absurd h he⟩}
structure Z63 (s:Rm) (a:Int) (k:Ky) (lv:Nat) (e:Int) (t:Rm) (L:List It) (held:Int) (l':Nat):Prop where
 bad:e≠0->Zje s a k=(e,Zn,0)
 may:e=0->Yp t=true/\L.length<=5/\Xn ((l':Int),L)=true/\(∀ x∈L,InI x)/\(L=[]->l'=0)/\(L≠[]->l'=lv)
 bad2:e=0->mkE t ((l':Int),L)≠0->Zje s a k=(mkE t ((l':Int),L),Zn,0)
 good:e=0->mkE t ((l':Int),L)=0->Yp (mkV t ((l':Int),L))=true/\(held=0\/(0<=held/\held<256/\(mkV t ((l':Int),L)).2.1[held.toNat]?.getD 0≠0)) /\
  Zmk s (if held=0 then mkV t ((l':Int),L) else Zaf (mkV t ((l':Int),L)) held) l' (mkN t ((l':Int),L)) /\
  ∀ g w now,Yc l' (if held=0 then mkV t ((l':Int),L) else Zaf (mkV t ((l':Int),L)) held) (mkN t ((l':Int),L))=(g,w,now)->(g≠0->w=Zn/\Zje s a k=(g,Zn,0)) /\
   (g=0->Yp w=true/\asE w a=0/\∃ i:Nat,a=(i:Int)/\8<=i/\i<256/\(lfO w.1 w.2.1 i=none->Zje s a k=(8,Zn,0))/\∀ v,lfO w.1 w.2.1 i=some v->Zje s a k=(0,(w.1,v,w.2.2),now))
theorem Znw:∀ {l:Nat}{s w:Rm}{r g now:Int},Yc l s r=(g,w,now)->g≠0->w=Zn
 | 0,s,w,r,g,now,h,hg=>by
  unfold Yc at h;cases h;exact absurd rfl hg
 | l+1,s,w,r,g,now,h,hg=>by
  unfold Yc at h;split at h
  ·split at h
   ·cases h;rfl
   ·split at h
    ·cases h;rfl
    ·exact Znw h hg
  ·cases h
   exact absurd rfl hg
theorem Zu7 {s:Rm}{a:Int}{k:Ky}(ht:Vb s a=true):∃ lv:Nat,(rmV s a).1=(lv:Int)/\lv<6/\Zwo s lv a Zgt false/\∃ e t L held,Zt k lv s a=(e,t,L,held)/\∃ l',Z63 s a k lv e t L held l':=by{
 obtain⟨r1,ra,_,l0,l6,_⟩:=Zby ht;have hT:=Zig ht;have hP:=Zzw ht;obtain⟨lv,hlv⟩:∃ lv,(rmV s a).1.toNat=lv:=⟨_,rfl⟩
 have hlvi:(rmV s a).1=(lv:Int):=by omega
 rw[hlv] at hT hP;have hun:Zje s a k=match Zt k lv s a with
  | (e,t,L,held)=>if e=0 then (match Ym t (if L=[] then 0 else (lv:Int)) L with
   | (f,u,up)=>if f=0 then (match Yc (if L=[] then 0 else lv) (if held=0 then u else Zaf u held) (Zyr up) with
    | (g,w,now)=>if g=0 then (match lfO w.1 w.2.1 a.toNat with | none=>(8,Zn,0) | some v=>(0,(w.1,v,w.2.2),now)) else (g,Zn,0)) else (f,Zn,0)) else (e,Zn,0):=by
  unfold Zje;rw[hlv,hlvi];rfl
 obtain⟨e,t,L,held,hs⟩:∃ e t L held,Zt k lv s a=(e,t,L,held):=⟨_,_,_,_,rfl⟩
 rw[hs] at hun
 dsimp only at hun
 refine⟨lv,hlvi,by omega,hP,e,t,L,held,hs,(if L=[] then 0 else lv),?_⟩;obtain⟨l',hl'⟩:∃ l':Nat,(if L=[] then 0 else lv)=l':=⟨_,rfl⟩
 have hl'i:(if L=[] then (0:Int) else (lv:Int))=(l':Int):=by
  rw[<- hl'];split <;> rfl
 have hl6:l'<6:=by
  rw[<- hl'];split <;> omega
 rw[hl',hl'i] at hun;rw[hl'];by_cases he:e=0
 ·subst he
  rw[if_pos rfl] at hun;have G:=X8 (by omega) hT hs;have G':Z2b s t l' L held:=by
   by_cases hL:L=[]
   ·rw[if_pos hL] at hl'
    subst hl';exact⟨G.keep,G.few,G.inI,fun j hj=>(by cases hj),G.own,G.none,G.more⟩
   ·rw[if_neg hL] at hl'
    subst hl';exact G
  have hmay:Xn ((l':Int),L)=true:=by
   by_cases hL:L=[]
   ·rw[if_pos hL] at hl'
    subst hl';rw[hL];rfl
   ·rw[if_neg hL] at hl'
    subst hl';exact Zmx (by omega) hP hs hL
  have hbu:Ym t (l':Int) L=if mkE t ((l':Int),L)=0 then (0,mkV t ((l':Int),L),[upI L (mkN t ((l':Int),L))]) else (mkE t ((l':Int),L),Zn,[]):=by
   unfold Ym;rw[if_pos G.few]
  refine⟨fun h=>absurd rfl h,fun _=>⟨G.keep.may,G.few,hmay,G.inI,fun h=>by rw[<- hl',if_pos h],fun h=>by rw[<- hl',if_neg h]⟩,fun _ hb=> ?_,fun _ hb=> ?_⟩
  ·rw[hun,hbu,if_neg hb]
   exact if_neg hb
  ·rw[hbu,if_pos hb] at hun
   dsimp only at hun
   rw[if_pos rfl] at hun;have hnow:Zyr [upI L (mkN t ((l':Int),L))]=mkN t ((l':Int),L):=rfl;rw[hnow] at hun;obtain⟨z,ez,z8,zn,k1,k2,k3,k4,k5,k6⟩:=Zib G' G.few (Zyk hl6 G.inI) (fun _ h=>h) G'.lev (by rw[hbu,if_pos hb]);have ez':z=mkN t ((l':Int),L):=by
    have:=congrArg Zyr ez;exact this.symm
   subst ez';have hkm:=Zie hb
   have hlow:Zmk s (if held=0 then mkV t ((l':Int),L) else Zaf (mkV t ((l':Int),L)) held) l' (mkN t ((l':Int),L)):=⟨k1,k5,by
    unfold Zdz;rw[if_neg (fun h=>h zn),k4]
    exact Qe _⟩
   refine⟨hkm.may,?_,hlow,fun g w now hlo=> ?_⟩
   ·rcases G.own with h | ⟨h8,_,hc,_⟩
    ·exact .inl h
    ·have h1:=hkm.held _ (Zak.1 hc)
     have hl:=Z0 (Zw hkm.may).2.1;refine .inr ⟨by omega,?_,h1⟩;refine Decidable.byContradiction fun hn=>h1 ?_
     rw[Pt (by omega)];rfl
   ·rw[hlo] at hun
    dsimp only at hun
    refine⟨fun hg=>⟨Znw hlo hg,by rw[hun,if_neg hg]⟩,fun hg=> ?_⟩;subst hg;rw[if_pos rfl] at hun;have hk:=Zl1 hlow hlo;obtain⟨i,ei,_,i8,i256,_⟩:=Xb (V5 hk ra).1;refine⟨hk.may,(V5 hk ra).1,i,ei,i8,i256,fun hf=> ?_,fun v hf=> ?_⟩
    ·rw[hun,show a.toNat=i by omega,hf]
    ·rw[hun,show a.toNat=i by omega,hf]
 ·rw[if_neg he] at hun
  exact⟨fun _=>hun,fun h=>absurd h he,fun h=>absurd h he,fun h=>absurd h he⟩}
theorem Zvu {s:Rm}{a:Int}{k:Ky}(ht:Vb s a=true):(Zje s a k).2.1=Zn\/Yp (Zje s a k).2.1=true:=by{
 obtain⟨lv,_,_,_,e,t,L,held,_,l',hO⟩:=Zu7 (k:=k) ht;by_cases he:e=0
 ·by_cases hb:mkE t ((l':Int),L)=0
  ·obtain⟨_,_,_,hlo⟩:=hO.good he hb
   obtain⟨g,w,now,hg⟩:∃ g w now,Yc l' (if held=0 then mkV t ((l':Int),L) else Zaf (mkV t ((l':Int),L)) held) (mkN t ((l':Int),L))=(g,w,now):=⟨_,_,_,rfl⟩
   obtain⟨h1,h2⟩:=hlo g w now hg;by_cases hg0:g=0
   ·obtain⟨hm,ha,i,ei,_,_,h3,h4⟩:=h2 hg0
    cases hf:lfO w.1 w.2.1 i with
    | none=>rw[h3 hf];exact .inl rfl
    | some v =>
     rw[h4 v hf];obtain⟨e1,e2⟩:=Zqf (n:=a) ha (by rw[ei,show ((i:Int)).toNat=i by omega];exact hf);obtain⟨_,_,_,hm',_⟩:=Z3h e1;rw[e2] at hm';exact .inr hm'
   ·rw[(h1 hg0).2];exact .inl rfl
  ·rw[hO.bad2 he hb];exact .inl rfl
 ·rw[hO.bad he];exact .inl rfl}
theorem Z06 {s:Rm}{a:Int}{k:Ky}(ht:Vb s a=true):U1 (Zje s a k).2.1:=by
 rcases Zvu (k:=k) ht with h | h
 ·rw[h];exact Vg
 ·exact Va h
theorem Z4a {s:Rm}{a:Int}{k:Ky}:(Zja s a k).2.1=Zn\/Yp (Zja s a k).2.1=true:=by{
 unfold Zja;split
 ·exact .inl rfl
 ·rename_i h
  split
  ·exact Zvu (Zzz (by simpa using h)).1
  ·exact .inl rfl}
theorem Zfa {U:Rm}{v:Px}{W W':Pw}(h:PhF U v W) (hb:P9 W.heap.size W W'):PhF U v W':=by
 obtain⟨qa,qb,qc,qd,e,h⟩:=h;exact⟨qa,qb,qc,qd,e,h.below hb⟩
theorem Zs3 (v:Px) (s:Rm) (a:Int) (kk:Ky) (hm:Yp s=true) (ht:Vb s a=true) (w:Pw) (h:Sto (Old w) w v s) :
  P7 Tryz.prog 34 #[v,.int .i64 a,kyV kk] w (LdR (Zje s a kk) w):=by{
 obtain⟨qa,qb,qc,qd,rfl⟩:=Vs h;obtain⟨lv,hlv,h6,hP,er1,T1,L1,held1,hsk,l',hO⟩:=Zu7 (k:=kk) ht;have hRa:=Za (fun v W hW=>V7 v s a hm W hW);have hCl:=Za (fun v W hW=>Zcm s kk hm lv v a Zgt false W h6 hP hW);rw[hsk] at hCl;have hok:(rmE s a==0)=true:=by rw[hP.ok];rfl
 rw[hok,hlv] at hRa;obtain⟨m,hlm⟩:∃ q,(rmV s a).2.length=q:=⟨_,rfl⟩
 obtain⟨l,hl⟩:∃ q,(rmV s a).2=q:=⟨_,rfl⟩
 rw[hlm,hl] at hRa;obtain⟨G,hG⟩:∃ G,Zje s a kk=G:=⟨_,rfl⟩
 rw[hG];obtain⟨QQ,hQQ⟩:∃ QQ,LdR G w=QQ:=⟨_,rfl⟩
 rw[hQQ]
 have hfT:Hid (U1 T1):=Za (by
  by_cases he:er1=0
  ·exact Va (hO.may he).1
  ·have:=Zju hsk he
   rw[this.1]
   exact Vg)
 have HG0:Bag w [Zbu (.agg #[.slice qa.1 qa.2.1 qa.2.2,.slice qb.1 qb.2.1 qb.2.2,.slice qc.1 qc.2.1 qc.2.2,.slice qd.1 qd.2.1 qd.2.2]) s]:=(Bag.nil w).add (F:=Zbu _ s) h (Yj _ _);obtain⟨w0,hw0,hg0,hB0,_,hs0⟩:=Xd HG0 (Qa _ _) (.slice qa.1 qa.2.1 qa.2.2) (.slice qb.1 qb.2.1 qb.2.2) (.slice qc.1 qc.2.1 qc.2.2) (.slice qd.1 qd.2.1 qd.2.2) 29;obtain⟨w1,hw1,hg1,hB1,_,hs1⟩:=V9 hg0 (Qa _ _) (.int .u8 (kk.1.toNat:Int)) (.int .u32 kk.2.1) (.int .u32 kk.2.2);obtain⟨w2,hw2,b2,hs2,hB2⟩:=Vm w1 (.slice none 0 0) (.slice none 0 0) (.slice none 0 0) (.slice none 0 0) 29;have HG:=Za ((hg1.below hB2).add (F:=Xu w1.heap.size _ _) b2 (Yb _ _ _));have BB:=Za ((hB0.trans (hB1.mono hB0.size)).trans (hB2.mono (hB0.trans (hB1.mono hB0.size)).size));have lo1:Hid (w.heap.size<=w1.heap.size/\w1.heap.size<w2.heap.size):=Za ⟨(hB0.trans (hB1.mono hB0.size)).size,by omega⟩;have k2:Hid (Sto (Old w2) w2 (.agg #[.slice qa.1 qa.2.1 qa.2.2,.slice qb.1 qb.2.1 qb.2.2,.slice qc.1 qc.2.1 qc.2.2,.slice qd.1 qd.2.1 qd.2.2]) s):=Za (HG.out.at 3 rfl);obtain⟨s0,s1,s2,s3,_⟩:=HG.out.at 2 rfl;unfold Z37 at hCl
 dsimp only at hCl
 unfold kyV at hCl ⊢;obtain⟨n1,hn1⟩:∃ q,L1.length=q:=⟨_,rfl⟩
 rw[hn1] at hCl;replace hs2:=Za hs2;replace hs1:=Za hs1;replace hs0:=Za hs0;replace hG:=Za hG;replace hQQ:=Za hQQ;replace hlm:=Za hlm;replace hl:=Za hl;replace hO:=Za hO;replace hn1:=Za hn1;clear HG0 hg1 hg0 h hB2 hB1 hB0 b2 hok hP hsk hlv
 go_enter Tryz.func34,Tryz.ntmps34
 go_upto_region 1 with fail
 clear hw0 hw1 hw2
 go_wp2_with fail
 with_reducible refine(hRa.out _ _ k2.out).mono ?_
 rintro e w3 ⟨Z,zc,rfl,h3s,-,hb3⟩;obtain⟨w4,hw4,hg4,hb4,-,hs4⟩:=Xa (HG.out.below hb3) (Qa _ _) (.int .i64 (lv:Int)) (.slice Z m zc);replace HG:=Za hg4;replace BB:=Za (BB.out.trans ((hb3.trans (hb4.mono hb3.size)).mono BB.out.size));have lo4:Hid (w2.heap.size<=w4.heap.size):=Za (hb3.trans (hb4.mono hb3.size)).size;replace hs4:=Za hs4;clear hg4 hb4 hb3 h3s k2 s0 s1 s2 s3 hRa
 go_upto_region 2 with fail
 clear hw4;obtain⟨t0,t1,t2,tg⟩:=HG.out.at 2 rfl;obtain⟨k0,k1,k2,k3,_⟩:=HG.out.at 3 rfl
 go_wp2_with fail
 with_reducible refine(hCl.out _ _ (HG.out.at 4 rfl)).mono ?_
 rintro e w5 ⟨ra,rb,rc,rd,P,pc,rfl,hS5,hI5,hb5⟩;obtain⟨w6,hw6,b6,hs6,hB6⟩:=Vm w5 (.slice ra.1 ra.2.1 ra.2.2) (.slice rb.1 rb.2.1 rb.2.2) (.slice rc.1 rc.2.1 rc.2.2) (.slice rd.1 rd.2.1 rd.2.2) 29;have B6:=Za (hb5.trans (hB6.mono hb5.size));have HG6:=Za ((HG.out.below B6.out).add (F:=Xu w5.heap.size _ _) b6 (Yb _ _ _));have BB6:=Za (BB.out.trans (B6.out.mono BB.out.size));have S6:=Za (hS5.below hB6);have I6:=Za (Z5.old hI5 hB6);have szl:=lo1.out.1;replace hs6:=Za hs6;clear t0 t1 t2 tg k0 k1 k2 k3 hS5 hI5 hb5 b6 hB6 hCl
 go_upto_region 3 with fail
 clear hw6;by_cases he:er1=0
 case neg =>
  have t0:(er1 != 0)=true:=by simpa using he
  have hfin:Hid (G=(er1,Zn,0)):=Za (by rw[<- hG.out];exact hO.out.bad he);have F5:w6.heap[w1.heap.size]? = _:=HG6.out.at 2 rfl;replace he:=Za he;obtain⟨k0,k1,k2,k3,k4,k5⟩:=Ze F5;obtain⟨W9,hW9,g9,gr9,gs9⟩:=Zo (a':=.slice none 0 0) (b':=.slice none 0 0) (c':=.slice none 0 0) (d':=.slice none 0 0) F5;obtain⟨n0,n1,n2,n3,_,_⟩:=Ze g9;have hB9:=Za ((BB6).out.grown gr9 (BB6).out.size (fun q e=>by cases e;omega));replace g9:=Za g9;replace F5:=Za F5;clear gr9 gs9
  go_wp2_with fail
  refine P3 (v:=.tuple #[.agg #[.slice none 0 0,.slice none 0 0,.slice none 0 0,.slice none 0 0],.int .i64 0,.int .i64 er1]) (by simp[results,Tryz.results34,go_sem,n0,n1,n2,n3]) rfl ?_;rw[<- hQQ.out,hfin.out];exact⟨(none,0,0),(none,0,0),(none,0,0),(none,0,0),rfl,Zu _ _,hB9.out⟩
 subst he;obtain⟨hmT,h15,hmay,hinI,hl0,hl1⟩:=hO.out.may rfl;obtain⟨y0,y1,-⟩:=HG6.out.at 1 rfl
 go_upto_if 47 with fail
 go_cut [15] from 46 to 47 (fun xv wx=>xv=.int .i64 (l':Int)/\wx=w6)
 case first =>
  by_cases hL:L1=[]
  ·have hl0':=hl0 hL
   subst hl0';have c1:((n1:Int)==0)=true:=by rw[<- hn1.out,hL];rfl
   replace hn1:=Za hn1;clear hL
   go_wp2_with fail
   go_meet;exact⟨rfl,rfl⟩
  ·have hl1':=hl1 hL
   subst hl1';have c1:((n1:Int)==0)=false:=by
    have:=Pb.2 hL;rw[hn1.out] at this;simp;omega
   replace hn1:=Za hn1;clear hL
   go_wp2_with fail
   go_meet;exact⟨rfl,rfl⟩
 case rest =>
 obtain⟨rfl,hwx⟩:=hcut;obtain⟨w7,hw7⟩:∃ w7:Pw,w7=w6:=⟨_,rfl⟩
 rw[<- hw7] at hwx;subst hwx;rw[<- hw7] at HG6 S6 I6 BB6 B6;have hmd:=Za (Ze9 _ T1 (l':Int) P n1 pc L1 hmT hmay ⟨by have:=(Zs hmay).1;omega,by have:=(Zs hmay).1.2.1;omega⟩ hn1.out _ S6.out I6.out);unfold Z6c at hmd;have hup:=Za (fun(hh:mkE T1 ((l':Int),L1)=0)=>(by unfold Zwq;rw[if_pos hh];rfl:(Zwq T1 (l':Int) L1).2.1=mkN T1 ((l':Int),L1)));have hbad:=Za (fun hh=>hO.out.bad2 rfl hh);have hgood:=Za (fun hh=>hO.out.good rfl hh);obtain⟨xm,hxm⟩:∃ q,Zwq T1 (l':Int) L1=q:=⟨_,rfl⟩
 obtain⟨er2,her2⟩:∃ q,mkE T1 ((l':Int),L1)=q:=⟨_,rfl⟩
 obtain⟨V2,hV2⟩:∃ q,mkV T1 ((l':Int),L1)=q:=⟨_,rfl⟩
 obtain⟨N2,hN2⟩:∃ q,mkN T1 ((l':Int),L1)=q:=⟨_,rfl⟩
 rw[hxm,her2,hV2] at hmd;rw[hxm,her2,hN2] at hup;rw[her2] at hbad;rw[her2,hV2,hN2] at hgood;rw[hG.out] at hbad hgood;replace hxm:=Za hxm;replace her2:=Za her2;replace hV2:=Za hV2;replace hN2:=Za hN2;replace hw7:=Za hw7;obtain⟨v0,v1,v2,v3,-⟩:=Ze (HG6.out.at 0 rfl);clear hmT h15 hmay hinI hl0 hl1 y0 y1
 go_wp2_with fail
 refine hmd.out.mono ?_;rintro e w9 ⟨sa,sb,sc,sd,D,dc,rfl,hS9,hD9,hb9⟩;clear v0 v1 v2 v3 hmd
 go_upto_region 9 with fail
 obtain⟨w10,hw10,b10,hs10,hB10⟩:=Vm w9 (.slice sa.1 sa.2.1 sa.2.2) (.slice sb.1 sb.2.1 sb.2.2) (.slice sc.1 sc.2.1 sc.2.2) (.slice sd.1 sd.2.1 sd.2.2) 29;obtain⟨w11,hw11,_,_,_,_,_,hs11,hB11,b11⟩:=Z6 w10 (.int .u8 (xm.1.1.toNat:Int)) (.int .u32 xm.1.2.1) (.int .u32 xm.1.2.2) (.int .i64 xm.2.1) (.slice D 0 dc) 54;rw[hw10,hw11,<- hs10];have h911:=hB10.trans (hB11.mono hB10.size);have B11:=Za (hb9.trans (h911.mono hb9.size));have H11:=Za (HG6.out.below B11.out);have BB11:=Za (BB6.out.trans (B11.out.mono BB6.out.size));have S11:=Za (hS9.below h911);have b10':=Za ((hB11.block w9.heap.size (by omega)).trans b10);have b11':=Za b11;have lo11:Hid (w9.heap.size<w11.heap.size/\w10.heap.size<w11.heap.size):=Za ⟨by omega,by omega⟩;clear hs10 hs11 hB10 hB11 h911 b10 b11 hb9 hS9 hD9 hw10 hw11;by_cases he2:er2=0
 case neg =>
  have t0:(er2 != 0)=true:=by simpa using he2
  have hfin:Hid (G=(er2,Zn,0)):=Za (hbad.out he2);have F5:w11.heap[w1.heap.size]? = _:=H11.out.at 2 rfl;replace he2:=Za he2;obtain⟨k0,k1,k2,k3,k4,k5⟩:=Ze F5;obtain⟨W9,hW9,g9,gr9,gs9⟩:=Zo (a':=.slice none 0 0) (b':=.slice none 0 0) (c':=.slice none 0 0) (d':=.slice none 0 0) F5;obtain⟨n0,n1,n2,n3,_,_⟩:=Ze g9;have hB9:=Za ((BB11).out.grown gr9 (BB11).out.size (fun q e=>by cases e;omega));replace g9:=Za g9;replace F5:=Za F5;clear gr9 gs9
  go_wp2_with fail
  refine P3 (v:=.tuple #[.agg #[.slice none 0 0,.slice none 0 0,.slice none 0 0,.slice none 0 0],.int .i64 0,.int .i64 er2]) (by simp[results,Tryz.results34,go_sem,n0,n1,n2,n3]) rfl ?_;rw[<- hQQ.out,hfin.out];exact⟨(none,0,0),(none,0,0),(none,0,0),(none,0,0),rfl,Zu _ _,hB9.out⟩
 subst he2;obtain⟨hmV,hheld,hlow,hlo⟩:=hgood.out rfl;have hxr:=hup.out rfl;have hfr:=Za (fun W hW=>Zgi (.agg #[.slice sa.1 sa.2.1 sa.2.2,.slice sb.1 sb.2.1 sb.2.2,.slice sc.1 sc.2.1 sc.2.2,.slice sd.1 sd.2.1 sd.2.2]) V2 held1 hmV hheld W hW);obtain⟨U2,hU2⟩:∃ q,(if held1=0 then V2 else Zaf V2 held1)=q:=⟨_,rfl⟩
 rw[hU2] at hfr hlow hlo;have hLd:=Za (fun v W hW=>Zjk v s U2 l' N2 hlow W hW);obtain⟨gg,hgg⟩:∃ q,Yc l' U2 N2=q:=⟨_,rfl⟩
 obtain⟨er3,w3r,now3⟩:=gg;obtain⟨hlb,hlg⟩:=hlo er3 w3r now3 hgg;rw[hgg] at hLd;unfold LdR at hLd
 dsimp only at hLd
 have hf3:Hid (U1 w3r):=Za (by
  by_cases he:er3=0
  ·exact Va (hlg he).1
  ·rw[(hlb he).1]
   exact Vg)
 rw[<- hxr] at hLd;replace hlb:=Za hlb;replace hlg:=Za hlg;replace hU2:=Za hU2;replace hxr:=Za hxr;replace hmV:=Za hmV;replace hheld:=Za hheld;replace hgg:=Za hgg;clear hlow hlo hgood hbad hup
 go_upto_region 11 with fail
 refine Xh (ops' := ?opsLate) (by kernel_rfl) [(11,8),(11,9),(12,9)] ?he (by kernel_rfl) (fun d _ _ _ _ h=>by cases d <;> exact h) 11 (fun W=>P9 w11.heap.size w11 W) (fun i=>match i with
  | 2=>some (PhF U2)
  | 5=>some (fun v W=>∃ t,v=.tuple #[t,.int .i64 now3,.int .i64 er3]/\PhF w3r t W)
  | 6=>some (fun v W=>∃ t,v=.tuple #[t,.int .i64 now3,.int .i64 er3]/\PhF w3r t W)
  | 7=>some (PhF w3r)
  | 10=>some (fun v W=>∃ g,v=.pointer (some ⟨g,0,none⟩)/\w11.heap.size<=g/\W.heap[g]? = some (.cells #[.slice none 0 0,.slice none 0 0,.slice none 0 0,.slice none 0 0] 29 (0,0)))
  | _=>none) (fun i=>match i with
  | 8=>some (.int .i64 now3)
  | 9=>some (.int .i64 er3)
  | _=>none) ?h1 ?h2 ?h3 (Qa _ _).drew (fun w w' h hb=>h.trans (hb.mono h.size)) ?tst ?_
 case he =>
  simp[Yg];rfl
 case h1=>decide
 case h2=>kernel_rfl
 case h3=>kernel_rfl
 case tst =>
  intro j φ x W W' hp hx hb
  match j,hp with
  | 2,hp=>cases hp;exact Zfa hx hb
  | 5,hp=>cases hp;obtain⟨t,e,h⟩:=hx;exact⟨t,e,Zfa h hb⟩
  | 6,hp=>cases hp;obtain⟨t,e,h⟩:=hx;exact⟨t,e,Zfa h hb⟩
  | 7,hp=>cases hp;exact Zfa hx hb
  | 10,hp=>cases hp;obtain⟨g,e,h1,h2⟩:=hx;exact⟨g,e,h1,(hb.block g (Qc.1 h2).1).trans h2⟩
 simp only[Qk,Ql,Qm,Qn]
 repeat (first
  | (refine wpAs_skip rfl ?_;simp only[Qb,Zb,Zc,Zd])
  | (refine wpAs_pure (v := ?_) rfl rfl ?_ ?_;rotate_left;(intro W hC hE;clear hE;(obtain⟨v0,v1,v2,v3,-⟩:=Ze ((hC.block w9.heap.size lo11.out.1).trans b10'.out);obtain⟨o0,o1,o2,o3,o4,-⟩:=Zl ((hC.block w10.heap.size lo11.out.2).trans b11'.out));clear hC;go_simp;first | done | with_reducible rfl);simp only[Qb,Zb,Zc,Zd]))
 refine wpAs_act rfl rfl ?_ ?_
 ·intro W hC hE
  clear hE;refine does_enter (f:=64) (args:=#[.agg #[.slice sa.1 sa.2.1 sa.2.2,.slice sb.1 sb.2.1 sb.2.2,.slice sc.1 sc.2.1 sc.2.2,.slice sd.1 sd.2.1 sd.2.2],.int .i64 held1]) ?_ ?_
  ·go_simp
  ·refine(hfr.out W (S11.out.below hC)).mono ?_
   rintro e W' ⟨t,rfl,hs,hb⟩;obtain⟨ta,tb,tc,td,rfl⟩:=Vs hs;exact⟨_,rfl,⟨ta,tb,tc,td,rfl,hs⟩,hb⟩
 simp only[Qb,Zb,Zc,Zd,envAdd];intro x2
 repeat (first
  | (refine wpAs_skip rfl ?_;simp only[Qb,Zb,Zc,Zd])
  | (refine wpAs_pure (v := ?_) rfl rfl ?_ ?_;rotate_left;(intro W hC hE;clear hE;(obtain⟨v0,v1,v2,v3,-⟩:=Ze ((hC.block w9.heap.size lo11.out.1).trans b10'.out);obtain⟨o0,o1,o2,o3,o4,-⟩:=Zl ((hC.block w10.heap.size lo11.out.2).trans b11'.out));clear hC;go_simp;first | done | with_reducible rfl);simp only[Qb,Zb,Zc,Zd]))
 refine wpAs_act rfl rfl ?_ ?_
 ·intro W hC hE
  obtain⟨ta,tb,tc,td,rfl,hs⟩:=hE.1 rfl;clear hE;refine does_enter (f:=63) (args:=#[.agg #[.slice ta.1 ta.2.1 ta.2.2,.slice tb.1 tb.2.1 tb.2.2,.slice tc.1 tc.2.1 tc.2.2,.slice td.1 td.2.1 td.2.2],.int .i64 xm.2.1]) ?_ ?_
  ·clear hs hC
   go_simp
  ·refine(hLd.out _ W hs).mono ?_
   rintro e W' ⟨ua,ub,uc,ud,rfl,hs,hb⟩;exact⟨_,rfl,⟨_,rfl,ua,ub,uc,ud,rfl,hs⟩,hb⟩
 simp only[Qb,Zb,Zc,Zd,envAdd];intro x5;refine wpAs_act rfl rfl ?_ ?_
 ·intro W hC hE
  have h7:=Za (hE.1 rfl);clear hE hC
  go_simp
  exact⟨h7.out,Qa _ _⟩
 simp only[Qb,Zb,Zc,Zd,envAdd];intro x6;refine wpAs_act rfl rfl ?_ ?_
 ·intro W hC hE
  obtain⟨t,rfl,hs⟩:=hE.1 rfl;have hs':=Za hs;clear hE hC hs
  go_simp
  exact⟨hs'.out,Qa _ _⟩
 simp only[Qb,Zb,Zc,Zd,envAdd];intro x7;refine wpAs_fixed rfl rfl rfl ?_ ?_
 ·intro W hC hE
  obtain⟨t,rfl,hs⟩:=hE.2.1 rfl;clear hE hC hs
  go_simp
  exact⟨rfl,Qa _ _⟩
 simp only[Qb,Zb,Zc,Zd];refine wpAs_fixed rfl rfl rfl ?_ ?_
 ·intro W hC hE
  obtain⟨t,rfl,hs⟩:=hE.2.1 rfl;clear hE hC hs
  go_simp
  exact⟨rfl,Qa _ _⟩
 simp only[Qb,Zb,Zc,Zd];refine wpAs_act rfl rfl ?_ ?_
 ·intro W hC hE
  have hs:=hC.size;clear hE hC
  go_simp
  exact⟨⟨W.heap.size,rfl,hs,P4 _ _⟩,(Qa _ _).alloc (Qe _) _⟩
 simp only[Qb,Zb,Zc,Zd,envAdd];intro x10;refine wpAs_end fun W hC hE=> ?_
 obtain⟨⟨g,rfl,hg,hz⟩,hx7,_⟩:=hE;obtain⟨ua,ub,uc,ud,rfl,hSt⟩:PhF w3r x7 W:=hx7;obtain⟨u0,u1,u2,u3,uf,_⟩:=Ze hz;obtain⟨w12,hW12,g12,gr12,gs12⟩:=Zo (a':=.slice ua.1 ua.2.1 ua.2.2) (b':=.slice ub.1 ub.2.1 ub.2.2) (c':=.slice uc.1 uc.2.1 uc.2.2) (d':=.slice ud.1 ud.2.1 ud.2.2) hz;have B12:=Za (hC.grown gr12 hC.size (fun q e=>by cases e;exact hg));have S12:=Za (Z9 hSt hf3.out hz (by simp) gr12);have H12:=Za (H11.out.below B12.out);have BB12:=Za (BB11.out.trans (B12.out.mono BB11.out.size));have G12:=Za g12;replace hz:=Za hz;clear hC hSt gr12 gs12 g12 hg hfr hLd
 go_upto_region 12 with fail
 clear hW12 u0 u1 u2 u3 uf;by_cases he3:er3=0
 case neg =>
  have t0:(er3 != 0)=true:=by simpa using he3
  have hfin:Hid (G=(er3,Zn,0)):=Za (hlb.out he3).2;have F5:w12.heap[w1.heap.size]? = _:=H12.out.at 2 rfl;replace he3:=Za he3;obtain⟨k0,k1,k2,k3,k4,k5⟩:=Ze F5;obtain⟨W9,hW9,g9,gr9,gs9⟩:=Zo (a':=.slice none 0 0) (b':=.slice none 0 0) (c':=.slice none 0 0) (d':=.slice none 0 0) F5;obtain⟨n0,n1,n2,n3,_,_⟩:=Ze g9;have hB9:=Za ((BB12).out.grown gr9 (BB12).out.size (fun q e=>by cases e;omega));replace g9:=Za g9;replace F5:=Za F5;clear gr9 gs9
  go_wp2_with fail
  refine P3 (v:=.tuple #[.agg #[.slice none 0 0,.slice none 0 0,.slice none 0 0,.slice none 0 0],.int .i64 0,.int .i64 er3]) (by simp[results,Tryz.results34,go_sem,n0,n1,n2,n3]) rfl ?_;rw[<- hQQ.out,hfin.out];exact⟨(none,0,0),(none,0,0),(none,0,0),(none,0,0),rfl,Zu _ _,hB9.out⟩
 subst he3;obtain⟨hm3,-,i,hai,hi8,hi256,hnone,hsome⟩:=hlg.out rfl;subst hai;have hLf:=Zgl _ w3r i hm3 hi8 hi256 _ S12.out;have hlr:∀ v,lfO w3r.1 w3r.2.1 i=some v->lfR w3r i=(w3r.1,v,w3r.2.2):=fun v h=>Zku h
 obtain⟨o,ho⟩:∃ o,lfO w3r.1 w3r.2.1 i=o:=⟨_,rfl⟩
 rw[ho] at hLf hlr hnone hsome;obtain⟨R3,hR3⟩:∃ q,lfR w3r i=q:=⟨_,rfl⟩
 have hfR:Hid (U1 R3):=Za (by
  rw[<- hR3];unfold lfR;split
  ·exact(Va hm3:U1 w3r)
  ·exact Vg)
 rw[hR3] at hLf hlr;replace hR3:=Za hR3;replace ho:=Za ho;replace hlr:=Za hlr;replace hnone:=Za hnone;replace hsome:=Za hsome;obtain⟨m0,m1,m2,m3,_,mg⟩:=Ze G12.out;clear hi8 hi256 hm3
 go_wp2_with fail
 with_reducible refine hLf.mono ?_
 rintro e w13 ⟨t,rfl,hS13,hb13⟩;obtain⟨ya,yb,yc,yd,rfl⟩:=Vs hS13;obtain⟨w14,hw14,b14,hs14,hB14⟩:=Vm w13 (.slice ya.1 ya.2.1 ya.2.2) (.slice yb.1 yb.2.1 yb.2.2) (.slice yc.1 yc.2.1 yc.2.2) (.slice yd.1 yd.2.1 yd.2.2) 29;have B1214:=hb13.trans (hB14.mono hb13.size);have BB14:=Za (BB12.out.trans (B1214.mono BB12.out.size));have S14:=Za (hS13.below hB14);have F5:w14.heap[w1.heap.size]? = _:=(H12.out.below B1214).at 2 rfl;obtain⟨m0,m1,m2,m3,_,mg⟩:=Ze b14;replace hs14:=Za hs14;replace b14:=Za b14;clear hS13 hb13 hB14 B1214 hLf
 go_upto_region 15 with fail
 clear hw14;cases o with
 | none =>
  have hfin:Hid (G=(8,Zn,0)):=Za (hnone.out rfl);have t3':(!(none:Option (List UInt8)).isSome)=true:=rfl;clear m0 m1 m2 m3 mg;obtain⟨k0,k1,k2,k3,k4,k5⟩:=Ze F5;obtain⟨W9,hW9,g9,gr9,gs9⟩:=Zo (a':=.slice none 0 0) (b':=.slice none 0 0) (c':=.slice none 0 0) (d':=.slice none 0 0) F5;obtain⟨n0,n1,n2,n3,_,_⟩:=Ze g9;have hB9:=Za ((BB14).out.grown gr9 (BB14).out.size (fun q e=>by cases e;omega));replace g9:=Za g9;replace F5:=Za F5;clear gr9 gs9
  go_wp2_with fail
  refine P3 (v:=.tuple #[.agg #[.slice none 0 0,.slice none 0 0,.slice none 0 0,.slice none 0 0],.int .i64 0,.int .i64 8]) (by simp[results,Tryz.results34,go_sem,n0,n1,n2,n3]) rfl ?_;rw[<- hQQ.out,hfin.out];exact⟨(none,0,0),(none,0,0),(none,0,0),(none,0,0),rfl,Zu _ _,hB9.out⟩
 | some v =>
  have t3':(!(some v).isSome)=false:=rfl;have hfin:Hid (G=(0,R3,now3)):=Za (by rw[hsome.out v rfl,hlr.out v rfl]);obtain⟨u0,u1,u2,u3,uf,_⟩:=Ze F5;obtain⟨W9,hW9,g9,gr9,gs9⟩:=Zo (a':=.slice ya.1 ya.2.1 ya.2.2) (b':=.slice yb.1 yb.2.1 yb.2.2) (c':=.slice yc.1 yc.2.1 yc.2.2) (d':=.slice yd.1 yd.2.1 yd.2.2) F5;obtain⟨n0,n1',n2,n3,_,_⟩:=Ze g9
  have hend:=Za (show LdR G w (.returned (.tuple #[.agg #[.slice ya.1 ya.2.1 ya.2.2,.slice yb.1 yb.2.1 yb.2.2,.slice yc.1 yc.2.1 yc.2.2,.slice yd.1 yd.2.1 yd.2.2],.int .i64 now3,.int .i64 0])) W9 by
   rw[hfin.out]
   exact⟨ya,yb,yc,yd,rfl,Z9 S14.out hfR.out F5 (by simp) gr9,BB14.out.grown gr9 BB14.out.size (fun q e=>by cases e;exact szl)⟩)
  replace F5:=Za F5;replace g9:=Za g9;clear gr9 gs9
  go_wp2_with fail
  refine P3 (v:=.tuple #[.agg #[.slice ya.1 ya.2.1 ya.2.2,.slice yb.1 yb.2.1 yb.2.2,.slice yc.1 yc.2.1 yc.2.2,.slice yd.1 yd.2.1 yd.2.2],.int .i64 now3,.int .i64 0]) (by simp[results,Tryz.results34,go_sem,n0,n1',n2,n3]) rfl ?_;rw[<- hQQ.out];exact hend.out}
theorem Znb (v:Px) (s:Rm) (a:Int) (key:Ky) (w:Pw) (h:Sto (Old w) w v s) :
  P7 Tryz.prog 16 #[v,.int .i64 a,kyV key] w (LdR (Zja s a key) w):=by{
 obtain⟨qa,qb,qc,qd,rfl⟩:=Vs h;have hCk:=Za (fun v W hW=>Zkx v s a W hW);have hOne:=Za (fun(ht:Vb s a=true)=>fun v W hW=>Zs4 s (Zr7 ht) (rmV s a).1.toNat v a key W (Zig ht) hW);have hOut:=Za (fun(ht:Vb s a=true)=>fun v W hW=>Zs3 v s a key (Zr7 ht) ht W hW);have hct:=Za (fun hh=>(Zzz (s:=s) (a:=a) hh).1);have hfb:Hid (ckE s a≠0->Zja s a key=(ckE s a,Zn,0)):=Za (fun hh=>by unfold Zja;rw[if_pos hh]);have hfn:Hid (ckE s a=0->(Zu2 s a key).isSome=false->Zja s a key=(6,Zn,0)):=Za (fun hh hx=>by unfold Zja;rw[if_neg (fun h=>h hh),if_neg (by rw[hx];decide)]);have hfs:Hid (ckE s a=0->(Zu2 s a key).isSome=true->Zja s a key=Zje s a key):=Za (fun hh hx=>by unfold Zja;rw[if_neg (fun h=>h hh),if_pos hx]);obtain⟨T,hT⟩:∃ T,Zu2 s a key=T:=⟨_,rfl⟩
 have hT':Zes s (rmV s a).1.toNat a key=T:=hT;rw[hT'] at hOne;rw[hT] at hfs hfn;obtain⟨E0,hE0⟩:∃ q,ckE s a=q:=⟨_,rfl⟩
 obtain⟨H0,hH0⟩:∃ q,ckH s a=q:=⟨_,rfl⟩
 rw[hE0] at hCk hct hfb hfs hfn;rw[hH0] at hCk;obtain⟨G,hG⟩:∃ q,Zja s a key=q:=⟨_,rfl⟩
 rw[hG] at hfb hfs hfn ⊢;obtain⟨QQ,hQQ⟩:∃ QQ,LdR G w=QQ:=⟨_,rfl⟩
 rw[hQQ];have HG0:Bag w [Zbu (.agg #[.slice qa.1 qa.2.1 qa.2.2,.slice qb.1 qb.2.1 qb.2.2,.slice qc.1 qc.2.1 qc.2.2,.slice qd.1 qd.2.1 qd.2.2]) s]:=(Bag.nil w).add (F:=Zbu _ s) h (Yj _ _);obtain⟨w0,hw0,hg0,hB0,_,hs0⟩:=Xd HG0 (Qa _ _) (.slice qa.1 qa.2.1 qa.2.2) (.slice qb.1 qb.2.1 qb.2.2) (.slice qc.1 qc.2.1 qc.2.2) (.slice qd.1 qd.2.1 qd.2.2) 29;obtain⟨w1,hw1,hg1,hB1,_,hs1⟩:=V9 hg0 (Qa _ _) (.int .u8 (key.1.toNat:Int)) (.int .u32 key.2.1) (.int .u32 key.2.2);obtain⟨w2,hw2,b2,hs2,hB2⟩:=Vm w1 (.slice none 0 0) (.slice none 0 0) (.slice none 0 0) (.slice none 0 0) 29;have HG:=Za ((hg1.below hB2).add (F:=Xu w1.heap.size _ _) b2 (Yb _ _ _));have BB:=Za ((hB0.trans (hB1.mono hB0.size)).trans (hB2.mono (hB0.trans (hB1.mono hB0.size)).size));have lo1:Hid (w.heap.size<=w1.heap.size/\w1.heap.size<w2.heap.size):=Za ⟨(hB0.trans (hB1.mono hB0.size)).size,by omega⟩;have szl:=lo1.out.1;obtain⟨s0,s1,s2,s3,_⟩:=HG.out.at 2 rfl;replace hs2:=Za hs2;replace hs1:=Za hs1;replace hs0:=Za hs0;replace hE0:=Za hE0;replace hH0:=Za hH0;replace hT:=Za hT;replace hG:=Za hG;replace hQQ:=Za hQQ;clear HG0 hg1 hg0 h hB2 hB1 hB0 b2 hT';unfold kyV at hOut ⊢
 go_enter Tryz.func16,Tryz.ntmps16
 go_upto_region 1 with fail
 clear hw0 hw1 hw2
 go_wp2_with fail
 with_reducible refine(hCk.out _ _ (HG.out.at 3 rfl)).mono ?_
 rintro e w3 ⟨rfl,hb3⟩;have HR:=Za (HG.out.below hb3);have BR:=Za (BB.out.trans (hb3.mono BB.out.size));clear hb3 s0 s1 s2 s3 hCk HG;by_cases he:E0=0
 case neg =>
  have hq1:(E0 != 0)=true:=by simpa using he
  have hf:=Za (hfb.out he);have F5:w3.heap[w1.heap.size]? = _:=HR.out.at 0 rfl;replace he:=Za he;obtain⟨k0,k1,k2,k3,k4,k5⟩:=Ze F5;obtain⟨W9,hW9,g9,gr9,gs9⟩:=Zo (a':=.slice none 0 0) (b':=.slice none 0 0) (c':=.slice none 0 0) (d':=.slice none 0 0) F5;obtain⟨n0,n1,n2,n3,_,_⟩:=Ze g9;have hB9:=Za ((BR).out.grown gr9 (BR).out.size (fun q e=>by cases e;omega));replace g9:=Za g9;replace F5:=Za F5;clear gr9 gs9
  go_wp2_with fail
  refine P3 (v:=.tuple #[.agg #[.slice none 0 0,.slice none 0 0,.slice none 0 0,.slice none 0 0],.int .i64 0,.int .i64 E0]) (by simp[results,Tryz.results16,go_sem,n0,n1,n2,n3]) rfl ?_;rw[<- hQQ.out,hf.out];exact⟨(none,0,0),(none,0,0),(none,0,0),(none,0,0),rfl,Zu _ _,hB9.out⟩
 have hcall:=Za (hOne.out (hct.out he));have hout:=Za (hOut.out (hct.out he));have hfO:Hid (U1 (Zje s a key).2.1):=Za (Z06 (hct.out he));have hfs':=Za (hfs.out he);have hfn':=Za (hfn.out he);subst he;obtain⟨b1,hb1⟩:∃ b,T.isSome=b:=⟨_,rfl⟩
 obtain⟨y,hy⟩:∃ y,T.getD Zaw=y:=⟨_,rfl⟩
 rw[hb1,hy] at hcall;rw[hb1] at hfs' hfn';replace hy:=Za hy;replace hb1:=Za hb1;obtain⟨s0,s1,s2,s3,_⟩:=HR.out.at 2 rfl;obtain⟨t0,t1,t2,_⟩:=HR.out.at 1 rfl;unfold kyV at hcall
 go_wp2_with fail
 with_reducible refine(hcall.out _ _ (HR.out.at 3 rfl)).mono ?_
 rintro e w4 ⟨u,rfl,hu,hb4⟩;obtain⟨P,pc,rfl,-,-,-,-⟩:=id hu.open;obtain⟨w5,hw5,hg5,hB5,hB5',hs5⟩:=Zsm (HR.out.below hb4) (Qa _ _) (.int .u8 (y.1.1.toNat:Int)) (.int .u32 y.1.2.1) (.int .u32 y.1.2.2) (.int .i64 y.2.1) (.slice P y.2.2.length pc);have H5:=Za hg5;have B5:=Za (BR.out.trans ((hb4.trans (hB5.mono hb4.size)).mono BR.out.size));replace hs5:=Za hs5;clear s0 s1 s2 s3 t0 t1 t2 hg5 hB5 hB5' hb4 hu hcall hOne
 go_upto_region 5 with fail
 clear hw5;cases b1 with
 | false =>
  have hf:=Za (hfn'.out rfl);have F5:w5.heap[w1.heap.size]? = _:=H5.out.at 1 rfl;obtain⟨k0,k1,k2,k3,k4,k5⟩:=Ze F5;obtain⟨W9,hW9,g9,gr9,gs9⟩:=Zo (a':=.slice none 0 0) (b':=.slice none 0 0) (c':=.slice none 0 0) (d':=.slice none 0 0) F5;obtain⟨n0,n1,n2,n3,_,_⟩:=Ze g9;have hB9:=Za ((B5).out.grown gr9 (B5).out.size (fun q e=>by cases e;omega));replace g9:=Za g9;replace F5:=Za F5;clear gr9 gs9
  go_wp2_with fail
  refine P3 (v:=.tuple #[.agg #[.slice none 0 0,.slice none 0 0,.slice none 0 0,.slice none 0 0],.int .i64 0,.int .i64 6]) (by simp[results,Tryz.results16,go_sem,n0,n1,n2,n3]) rfl ?_;rw[<- hQQ.out,hf.out];exact⟨(none,0,0),(none,0,0),(none,0,0),(none,0,0),rfl,Zu _ _,hB9.out⟩
 | true =>
  have hf:=Za (hfs'.out rfl);obtain⟨GO,hGO⟩:∃ q,Zje s a key=q:=⟨_,rfl⟩
  rw[hGO] at hout hf hfO;unfold LdR at hout;replace hGO:=Za hGO;obtain⟨s0,s1,s2,s3,_⟩:=H5.out.at 3 rfl;obtain⟨t0,t1,t2,_⟩:=H5.out.at 2 rfl
  go_wp2_with fail
  with_reducible refine(hout.out _ _ (H5.out.at 4 rfl)).mono ?_
  rintro e w6 ⟨ya,yb,yc,yd,rfl,hS6,hb6⟩;have F5:w6.heap[w1.heap.size]? = _:=(H5.out.below hb6).at 1 rfl;have B6:=B5.out.trans (hb6.mono B5.out.size);obtain⟨u0,u1,u2,u3,uf,_⟩:=Ze F5;obtain⟨W9,hW9,g9,gr9,gs9⟩:=Zo (a':=.slice ya.1 ya.2.1 ya.2.2) (b':=.slice yb.1 yb.2.1 yb.2.2) (c':=.slice yc.1 yc.2.1 yc.2.2) (d':=.slice yd.1 yd.2.1 yd.2.2) F5;obtain⟨n0,n1',n2,n3,_,_⟩:=Ze g9
  have hend:=Za (show LdR G w (.returned (.tuple #[.agg #[.slice ya.1 ya.2.1 ya.2.2,.slice yb.1 yb.2.1 yb.2.2,.slice yc.1 yc.2.1 yc.2.2,.slice yd.1 yd.2.1 yd.2.2],.int .i64 GO.2.2,.int .i64 GO.1])) W9 by
   rw[hf.out]
   exact⟨ya,yb,yc,yd,rfl,Z9 hS6 hfO.out F5 (by simp) gr9,B6.grown gr9 B6.size (fun q e=>by cases e;exact szl)⟩)
  replace F5:=Za F5;replace g9:=Za g9;clear gr9 gs9 hS6 hb6 B6 s0 s1 s2 s3 t0 t1 t2 hout
  go_wp2_with fail
  refine P3 (v:=.tuple #[.agg #[.slice ya.1 ya.2.1 ya.2.2,.slice yb.1 yb.2.1 yb.2.2,.slice yc.1 yc.2.1 yc.2.2,.slice yd.1 yd.2.1 yd.2.2],.int .i64 GO.2.2,.int .i64 GO.1]) (by simp[results,Tryz.results16,go_sem,n0,n1',n2,n3]) rfl ?_;rw[<- hQQ.out];exact hend.out}
end Go.Proofs.YtgmbjnajdfgenaaGreat
namespace Go.Proofs.YtgmbjnajdfgenaaGreat
open Go.RowKit Go.Shelf
attribute [local go_sem] Oper.semAt_some
def PhK (K:Nat->Prop) (z er:Int) (S:Rm) (v:Px) (W:Pw):Prop:=∃ va vb vc vd:Option Py×Nat×Nat,v=.tuple #[.agg #[.slice va.1 va.2.1 va.2.2,.slice vb.1 vb.2.1 vb.2.2,.slice vc.1 vc.2.1 vc.2.2,.slice vd.1 vd.2.1 vd.2.2],.int .i64 z,.int .i64 er]/\Sto (Kn K W) W (.agg #[.slice va.1 va.2.1 va.2.2,.slice vb.1 vb.2.1 vb.2.2,.slice vc.1 vc.2.1 vc.2.2,.slice vd.1 vd.2.1 vd.2.2]) S
def Z60 (K:Nat->Prop) (S:Rm) (v:Px) (W:Pw):Prop:=∃ va vb vc vd:Option Py×Nat×Nat,v=.agg #[.slice va.1 va.2.1 va.2.2,.slice vb.1 vb.2.1 vb.2.2,.slice vc.1 vc.2.1 vc.2.2,.slice vd.1 vd.2.1 vd.2.2]/\Sto (Kn K W) W (.agg #[.slice va.1 va.2.1 va.2.2,.slice vb.1 vb.2.1 vb.2.2,.slice vc.1 vc.2.1 vc.2.2,.slice vd.1 vd.2.1 vd.2.2]) S
theorem Zwz {F:Fence}{n:Nat}{P:Program}{c:Code}{Q:Exit->Act->Pw->Prop}{a:Act}{w:Pw}(h:c.wpIn F n P (Z5l (Q .normal)) a w):c.wpIn F n P Q a w :=
 wpIn_mono h fun e a w h=>by
  cases e <;> first
   | exact h
   | exact h.elim
theorem Zlf (l0 lo:Nat) (hl0:l0<=lo) (qa qb qc qd:Option Py×Nat×Nat) (s:Rm) (k:Ky) (a:Int) (lv:Nat) (h6:lv<6) (hT:AtT s lv a) (x:It) (hx:Zes s lv a k=some x) (A:Option Py) (m c:Nat) (l:List Sv) (w:Pw) (hlo:lo<=w.heap.size) (h:Sto (fun p=>p.block<l0) w (.agg #[.slice qa.1 qa.2.1 qa.2.2,.slice qb.1 qb.2.1 qb.2.2,.slice qc.1 qc.2.1 qc.2.2,.slice qd.1 qd.2.1 qd.2.2]) s)
  (hst:w.ownsRow lo 102 3 (.slice A m c) m (dvs l)) (hl:l.length=m) (hm:m=lv+1) (hR:Rows lo w.heap.size w l) (hA:∀ g q,A.map (·.block)=some g->q∈l->g<q.lo\/q.hi<=g)
  (hq:∀ i q,l[i]? = some q->q.nd=rmV s (atW s k a i)/\q.pl=Xg q.nd k) :
  P7 Tryz.prog 26 #[.agg #[.slice qa.1 qa.2.1 qa.2.2,.slice qb.1 qb.2.1 qb.2.2,.slice qc.1 qc.2.1 qc.2.2,.slice qd.1 qd.2.1 qd.2.2],.slice A m c] w (Z6l l0 lo (Z38 s a lv k) w):=by{
 obtain⟨w1,hw1,b1,hs1,hB1⟩:=Vm w (.slice qa.1 qa.2.1 qa.2.2) (.slice qb.1 qb.2.1 qb.2.2) (.slice qc.1 qc.2.1 qc.2.2) (.slice qd.1 qd.2.1 qd.2.2) 29;obtain⟨w2,hw2,b2,hs2,hB2⟩:=Vm w1 (.slice none 0 0) (.slice none 0 0) (.slice none 0 0) (.slice none 0 0) 29;obtain⟨w3,hw3,b3,hs3,hB3⟩:∃ w3,w2.alloc (.cells #[.int .i64 0] 3)=w3/\Xu w2.heap.size #[.int .i64 0] 3 w3/\w3.heap.size=w2.heap.size+1/\P9 w2.heap.size w2 w3:=⟨_,rfl,P4 w2 _,by simp,(Qa _ _).alloc (Qe _) _⟩
 obtain⟨w4,hw4,b4,hs4,hB4⟩:∃ w4,w3.alloc (.cells #[.int .i64 0] 33)=w4/\Xu w3.heap.size #[.int .i64 0] 33 w4/\w4.heap.size=w3.heap.size+1/\P9 w3.heap.size w3 w4:=⟨_,rfl,P4 w3 _,by simp,(Qa _ _).alloc (Qe _) _⟩
 obtain⟨w5,hw5,b5,hs5,hB5⟩:∃ w5,w4.alloc (.cells #[.slice none 0 0] 39)=w5/\Xu w4.heap.size #[.slice none 0 0] 39 w5/\w5.heap.size=w4.heap.size+1/\P9 w4.heap.size w4 w5:=⟨_,rfl,P4 w4 _,by simp,(Qa _ _).alloc (Qe _) _⟩
 obtain⟨w6,hw6,b6,hs6,hB6⟩:∃ w6,w5.alloc (.cells #[.int .i64 0] 3)=w6/\Xu w5.heap.size #[.int .i64 0] 3 w6/\w6.heap.size=w5.heap.size+1/\P9 w5.heap.size w5 w6:=⟨_,rfl,P4 w5 _,by simp,(Qa _ _).alloc (Qe _) _⟩
 obtain⟨w7,hw7,b7,hs7,hB7⟩:=Zut w6 (.slice A m c) 64;have hbw:=Za (Zk3 A m c w6);rw[hw7] at hbw;have k67:=hB6.trans (hB7.mono hB6.size);have k57:=hB5.trans (k67.mono hB5.size);have k47:=hB4.trans (k57.mono hB4.size);have k37:=hB3.trans (k47.mono hB3.size);have k27:=hB2.trans (k37.mono hB2.size);have k17:=hB1.trans (k27.mono hB1.size);have BW:=Za k17;have SZ:=Za (show w1.heap.size=w.heap.size+1/\w2.heap.size=w.heap.size+2/\w3.heap.size=w.heap.size+3/\w4.heap.size=w.heap.size+4/\w5.heap.size=w.heap.size+5/\w6.heap.size=w.heap.size+6/\w7.heap.size=w.heap.size+7 from by omega);obtain⟨ad,had,hat⟩:=Zyd (by rw[hl];exact hst);rw[hl] at had hat;obtain⟨f,hf⟩:∃ f:Nat->Sv,f=fun j=>l[j]?.getD svZ:=⟨_,rfl⟩
 have hff:Hid (∀ j,j<m->f (m-1-j)∈l/\l[m-1-j]? = some (f (m-1-j))):=Za fun j hj=>by
  have e2:f (m-1-j)=l[m-1-j]:=by
   rw[hf];simp[Qh (show m-1-j<l.length by omega)]
  rw[e2];exact⟨List.getElem_mem _,Qh _⟩
 have htold:=Ztx w6.heap.size c m A ad f w7 b7 (fun h=>⟨(had h).1,by have:=(had h).2.2;omega⟩) (by omega) (fun j hj=>by rw[hf];exact(hat j hj).same (k17.block _ (by rw[Zh];exact(had (by omega)).2.2)));have hI0:ShI l0 lo w7.heap.size w.heap.size w1.heap.size w2.heap.size w3.heap.size w4.heap.size w5.heap.size A c w s k a lv l ([],none) w7 :=
  ⟨rfl,⟨k17.mono hlo,Qe _,Zr (by rw[hl];exact hst) k17⟩,⟨(k37.block _ (by omega)).trans b2,(k47.block _ (by omega)).trans b3,(k57.block _ (by omega)).trans b4⟩,s,[],0,qa,qb,qc,qd,none,0,w.heap.size,rfl,(k27.block _ (by omega)).trans b1,h.map fun p v hp hc=>⟨⟨.inl hp,by omega⟩,(k17.cell (by omega)).trans hc⟩,
   (k67.block _ (by omega)).trans b5,(hB7.block _ (by omega)).trans b6,⟨hlo,Zxt (Qe _) _,.inl rfl⟩,fun q hqm=>⟨(hR.ok q (Qq hqm)).2.2.1,(hR.ok q (Qq hqm)).2.2.2.same fun k h1 h2=>k17.block k (by have:=(hR.ok q (Qq hqm)).2.2.1;omega)⟩⟩
 have hlt:=Za (fun h:0<m=>(had h).2);have hAA:=Za (fun h:0<m=>(had h).1);have hAst:=Za (show ∀ kk,A.map (·.block)=some kk->kk<w.heap.size from fun kk e=>(hst.lt kk (by rw[<- e];cases A <;> rfl)).2);obtain⟨g,hg⟩:∃ g,Z38 s a lv k=g:=⟨_,rfl⟩
 rw[hg];obtain⟨QQ,hQQ⟩:∃ QQ,Z6l l0 lo g w=QQ:=⟨_,rfl⟩
 rw[hQQ];replace hQQ:=Za hQQ;replace hg:=Za hg;obtain⟨z0,zf,_⟩:=Ye b6;have hself:=Vl (i:=0) (v:=.int .i64 0) b6 rfl;replace hm:=Za hm;replace hf:=Za hf;replace hl:=Za hl;replace hA:=Za hA;replace hR:=Za hR;replace hq:=Za hq;replace hx:=Za hx;replace hT:=Za hT;replace hs1:=Za hs1;replace hs2:=Za hs2;replace hs3:=Za hs3;replace hs4:=Za hs4;replace hs5:=Za hs5;replace hs6:=Za hs6;replace hs7:=Za hs7;replace hI0:=Za hI0;clear h hst had hat b1 b2 b3 b4 b5 b6 b7 hB1 hB2 hB3 hB4 hB5 hB6 hB7 k67 k57 k47 k37 k27 k17 hw7;refine callsIn_wide.1 (callsIn_of_wp_marks (n:=5) Tryz.func26 rfl trivial ?_ rfl);simp only[Tryz.ntmps26,Q8,Qw,Qx,Pi,Pj,Pk,Pm,Pn,Po,Pp,Pq]
 gi_wp2_with fail
 refine wpIn_wide.2 (wp_scope_straight ?_);refine(wpIn_wide (n:=5)).1 ?_
 gi_wp2_with fail
 refine wpIn_label ?_
 gi_wp2_with fail
 clear hw1 hw2 hw3 hw4 hw5 hw6 z0 zf hself;refine⟨trivial,?_⟩
 gi_at_call 48
 refine(callsIn_wide.2 hbw.out).mono ?_;rintro e w7 ⟨rfl,rfl⟩
 gi_wp2_with fail
 refine Ztt (m:=5) (gf:=83) (lb:=#[.pointer (some ⟨w6.heap.size,0,none⟩)]) rfl (enters_of Tryz.func83 (by kernel_rfl) rfl) htold (fun _=>rfl)
  (fun k=>k=w.heap.size\/k=w2.heap.size\/k=w3.heap.size\/k=w1.heap.size\/k=w4.heap.size\/k=w5.heap.size\/∃ q∈l,q.A.map (·.block)=some k) (fun k e=>by
   rcases e with e | e | e | e | e | e | ⟨q,hq,e⟩
   ·have:=SZ.out;omega
   ·have:=SZ.out;omega
   ·have:=SZ.out;omega
   ·have:=SZ.out;omega
   ·have:=SZ.out;omega
   ·have:=SZ.out;omega
   ·have h1:=hR.out.ok q hq
    have:=Zee h1.2.2.2 k e
    have:=SZ.out;omega) none (fun k hk=>by
   rcases hk with rfl | ⟨h0,rfl⟩
   ·refine⟨by have:=SZ.out;omega,?_,by simp⟩
    rintro(e | e | e | e | e | e | ⟨q,hq,e⟩)
    ·have:=SZ.out;omega
    ·have:=SZ.out;omega
    ·have:=SZ.out;omega
    ·have:=SZ.out;omega
    ·have:=SZ.out;omega
    ·have:=SZ.out;omega
    ·have h1:=hR.out.ok q hq
     have:=Zee h1.2.2.2 _ e;have:=SZ.out;omega
   ·have:=hlt.out h0
    refine⟨by have:=SZ.out;omega,?_,by simp⟩;rintro(e | e | e | e | e | e | ⟨q,hq,e⟩)
    ·have:=SZ.out;omega
    ·have:=SZ.out;omega
    ·have:=SZ.out;omega
    ·have:=SZ.out;omega
    ·have:=SZ.out;omega
    ·have:=SZ.out;omega
    ·have h1:=hR.out.ok q hq
     have:=Zee h1.2.2.2 _ e;have:=hA.out ad.block q (by rw[hAA.out h0];rfl) hq
     omega)
  (ShI l0 lo w7.heap.size w.heap.size w1.heap.size w2.heap.size w3.heap.size w4.heap.size w5.heap.size A c w s k a lv l) (ShX lo w7.heap.size w1.heap.size w2.heap.size w3.heap.size w s k a lv)
  (Z3v (by have:=SZ.out;omega) (by have:=SZ.out;omega) (fun q hq=>by have:=(hR.out.ok q hq).2.2.1;have:=SZ.out;omega)) (fun c=>Z2t (by have:=SZ.out;omega) (by have:=SZ.out;omega))
  (fun r V hr k e=>by rw[hr.1] at e;cases e) hI0.out
  (fun x' a' V=>∃ g:Nat,a'={ tmps:=#[.agg #[.slice qa.1 qa.2.1 qa.2.2,.slice qb.1 qb.2.1 qb.2.2,.slice qc.1 qc.2.1 qc.2.2,.slice qd.1 qd.2.1 qd.2.2],.slice A m c,.pointer (some ⟨w.heap.size,0,none⟩),P5,.pointer (some ⟨w1.heap.size,0,none⟩),.pointer (some ⟨w2.heap.size,0,none⟩),.pointer (some ⟨w3.heap.size,0,none⟩),.pointer (some ⟨w4.heap.size,0,none⟩),.pointer (some ⟨w5.heap.size,0,none⟩),P5,.pointer (some ⟨g,0,none⟩),P5,P5,P5,.slice A m c,.func (.func 83) #[] #[.pointer (some ⟨w6.heap.size,0,none⟩)],.int .i64 (x':Int),.agg #[.int .i64 (f x').nd.1,.slice (f x').A (f x').nd.2.length (f x').c,.int .i64 ((f x').pl:Int)],P5,P5,P5,P5,P5,P5,P5,P5,P5,P5,P5,P5,P5,P5,P5,P5,P5,P5,P5,P5,P5,P5,P5,P5,P5,P5,P5,P5,P5,P5,P5,P5,P5,P5,P5,P5,P5,P5,P5,P5,P5,P5,P5,P5,P5,P5,P5,P5,P5,P5,P5,P5,P5,P5,P5,P5,P5,P5,P5,P5,P5,P5,P5,P5,P5,P5,P5,P5,P5,P5,P5,P5,P5,P5,P5,P5,P5,P5,P5,P5,P5,P5],defers:=[] }/\Xu g #[.int .i64 (f x').nd.1,.slice (f x').A (f x').nd.2.length (f x').c,.int .i64 ((f x').pl:Int)] 102 V)
  (fun y a' _ A B row hs hg hr=>by
   obtain⟨g,e1,h0⟩:=hs
   exact⟨g,e1,Z8 h0 hg fun r e=>(hr r e).2⟩)
  (fun pre x q=>fun _ _ _ _ hs _ _=>hs) ?assign ?body ?done ?stop
 case assign =>
  rintro l' pre' q' x' V K hi hT hK;obtain⟨V1,hV1,bV,hVs,hVB⟩:∃ V1,V.alloc (.cells #[.int .i64 (f x').nd.1,.slice (f x').A (f x').nd.2.length (f x').c,.int .i64 ((f x').pl:Int)] 102)=V1/\V1.heap[V.heap.size]? = some (.cells #[.int .i64 (f x').nd.1,.slice (f x').A (f x').nd.2.length (f x').c,.int .i64 ((f x').pl:Int)] 102 (0,0))/\V1.heap.size=V.heap.size+1/\P9 V.heap.size V V1:=⟨_,rfl,P4 _ _,by simp,(Qa _ _).alloc (Qe _) _⟩
  replace hVs:=Za hVs;clear hi hT;simp only[Z6h]
  gi_wp2_with fail
  exact hK _ _ (Zbg hVB) ⟨V.heap.size,rfl,bV⟩
 case body =>
  rintro l' pre' q' x' a' V hVs hI ⟨g1,rfl,hg1⟩ ⟨hp1,hp2,hp3⟩;obtain⟨hqn,⟨hIb,hIs,hIo⟩,⟨hB4,hB5,hB6⟩,t,L,held,pa,pb,pc,pd,F,fc,bnd,hst,hB2,hSto,hB7,hB8,⟨hbl,hrow,hFq⟩,hrows⟩:=hI
  dsimp only at hqn
  subst hqn;have hk:pre'.length<m:=hp2;clear hp1;obtain⟨hqm,hqi⟩:=hff.out _ hk;rw[<- hp3] at hqm hqi;have hidx:Hid (∀ q∈l.take (l.length-(pre'++[x']).length),q.hi<=(f x').lo/\q∈l.take (l.length-pre'.length)):=Za fun q hqm'=>by
   obtain⟨i,hi⟩:=Q6 hqm';have hil:=(Qj.1 hi).1;rw[Qr,Qi,hl.out] at hil;simp only[Qw,Qx] at hil;rw[Qu (by rw[hl.out,Qi];simp only[Qw,Qx];omega)] at hi;refine⟨?_,Qp (i:=i) (by rw[Qu (by rw[hl.out];omega)];exact hi)⟩;obtain⟨h1,e1⟩:=Qj.1 hi;obtain⟨h2,e2⟩:=Qj.1 hqi;have:=List.pairwise_iff_getElem.1 hR.out.apart i x' h1 h2 (by omega);rw[e1,e2] at this;exact this
  obtain⟨hqh,hRA⟩:=hrows _ (Qp (i:=m-1-pre'.length) (by rw[Qu (by rw[hl.out];show m-1-pre'.length<m-pre'.length;omega),<- hp3];exact hqi));have hpl:(pre'++[x']).length=pre'.length+1:=by rw[Qi];rfl
  obtain⟨hnd,hpw⟩:=hq.out x' _ hqi;have hxl:x'=lv-pre'.length:=by have:=hm.out;omega
  have hdn:=Zct (k:=k) hT.out x' (by omega);have hwl:=Z47 hdn (Zl2 hT.out hx.out x' (by omega));rw[<- hnd,<- hpw] at hwl;obtain⟨hplt,hq5,hql64⟩:=hwl;clear hp3 hdn;generalize f x'=q at *;obtain⟨hql1,hql2,hql3,_⟩:=hR.out.ok q hqm;have hrin:=Zzg hRA hql2;obtain⟨ps,hps,hpo,hpi⟩:=hrin.row;obtain⟨rb,hrbe⟩:∃ rb,q.A.map (·.block)=rb:=⟨_,rfl⟩
  have hrb:=hrin.blk;rw[hrbe] at hrb hpi;by_cases hL:L=[]
  ·subst hL
   obtain⟨hh,hst2⟩:=Z31 h6 hT.out hx.out (show pre'.length<=lv by have:=hm.out;omega) hst;rw[<- hxl,<- hnd,<- hpw] at hst2;subst hh;have HD:=Zto q.A q.lo q.nd.2.length q.c q.pl (q.pl+1) ps V hpo rfl (by omega) (by omega) (Zks hpi);obtain⟨Ls,hLs⟩:∃ Ls,ps.take q.pl++ps.drop (q.pl+1)=Ls:=⟨_,rfl⟩
   have hmap:Ls.map (·.1)=Vx q.nd.2 q.pl 1 []:=by
    rw[<- hLs,Qt,Pu,Pv,hps];rfl
   have hLi:∀ p∈Ls,InI p.1/\rBy (fun ad=>q.lo<=ad.block/\ad.block<q.hi/\rb≠some ad.block) V [p.2] p.1.2.2:=fun p hp=>by
    rw[<- hLs] at hp;rcases Qo.1 hp with hp | hp
    ·exact hpi p (Qq hp)
    ·exact hpi p (Q4 hp)
   rw[hLs] at HD;obtain⟨len,hlen⟩:∃ len,Ls.length=len:=⟨_,rfl⟩
   have hins:(Vx q.nd.2 q.pl 1 []).length=len:=by rw[<- hmap,Q5,hlen]
   have i1:IntKind.i64.wrap ((q.pl:Int)+1)=(q.pl:Int)+1:=by rw[IntKind.wrap_i64];omega
   obtain⟨n0,nf,_⟩:=Ye hB7;obtain⟨y0,y1,y2,_⟩:=Zj hg1;rw[show ((q.pl+1:Nat):Int)=(q.pl:Int)+1 by omega] at HD;have hHD:=Za HD;have HB2:=Za hB2;have HB4:=Za hB4;have HB5:=Za hB5;have HB6:=Za hB6;have HB7:=Za hB7;have HB8:=Za hB8;have HIb:=Za hIb;have HIs:=Za hIs;have HSto:=Za hSto;have HIo:=Za hIo;have HRows:=Za hrows;have Hrb:=Za hrb;have HLi:=Za hLi;replace hst2:=Za hst2;replace hmap:=Za hmap;replace hlen:=Za hlen;replace hins:=Za hins;replace hqm:=Za hqm;replace hrbe:=Za hrbe;replace hLs:=Za hLs;replace hxl:=Za hxl;replace hnd:=Za hnd;replace hpw:=Za hpw;replace hpl:=Za hpl;clear hIo HD hB2 hB4 hB5 hB6 hB7 hB8 hIb hIs hSto hrows hrb hLi hrow hrin hRA hg1 hps hpo hpi hst;generalize q.nd.1=q1 at *;generalize q.nd.2.length=q3 at *
   gi_wp2_with fail
   refine⟨trivial,rfl,?_⟩;refine(CallsIn.inRound _ (callsIn_wide.2 hHD.out)).mono ?_;rintro e W hrep;have hrep':=Za hrep;obtain⟨rfl,ho,hgr⟩:=hrep;rw[hrbe.out] at hgr;rw[hlen.out];have keep:∀ k,w.heap.size<=k->k<V.heap.size->W.heap[k]? = V.heap[k]? := fun k h1 h2=>hgr.block k h2 (fun e=>by have:=Hrb.out k e.symm;omega)
   have c7:Xu w4.heap.size _ 39 W:=(keep _ (by have:=SZ.out;omega) (Qc.1 HB7.out).1).trans HB7.out;obtain⟨W1,hW1,d7,gr1,gs1⟩:=Zca (u:=.slice q.A len q.c) c7;obtain⟨m0,mf,_⟩:=Ye c7;have all1:∀ k,k<W.heap.size->k≠w4.heap.size->W1.heap[k]? = W.heap[k]? := fun k h1 h2=>gr1.block k h1 (fun e=>h2 (Option.some.inj e))
   have hsz:=hgr.size;have kpt:Hid (Zdn (fun k=>k=w.heap.size\/k=w2.heap.size\/k=w3.heap.size\/k=w1.heap.size\/k=w4.heap.size\/k=w5.heap.size\/∃ q∈l,q.A.map (·.block)=some k) none none V W1):=Za (((Zdn.refl _ _ _).grown hgr fun r e=>.inr (.inr (.inr (.inr (.inr (.inr (.inr ⟨q,hqm.out,by rw[hrbe.out,e]⟩))))))).grown gr1 fun r e=>by cases e;exact .inr (.inr (.inr (.inr (.inr (.inl rfl))))))
   have hfin:Hid (ShI l0 lo w7.heap.size w.heap.size w1.heap.size w2.heap.size w3.heap.size w4.heap.size w5.heap.size A c w s k a lv l (pre'++[x'],none) W1):=Za (by
    have kb:∀ k,w.heap.size<=k->k<V.heap.size->k≠w4.heap.size->W1.heap[k]? = V.heap[k]? := fun k h1 h2 h3=>(all1 k (by omega) h3).trans (keep k h1 h2)
    have bx:∀ {k:Nat} {cs:Array Px} {t:Pz},Xu k cs t V->w.heap.size<=k->k≠w4.heap.size->Xu k cs t W1:=fun h h1 h2=>(kb _ h1 (Qc.1 h).1 h2).trans h
    have hlo':∀ r,rb=some r->lo<=r:=fun r e=>by have:=Hrb.out r e;omega
    refine⟨rfl,⟨(HIb.out.grown hgr (by have:=HIs.out;have:=SZ.out;omega) hlo').grown gr1 (by have:=HIs.out;have:=SZ.out;omega) (fun k e=>by cases e;have:=SZ.out;omega),by have:=HIs.out;omega,Zcw HIo.out fun kk e=> ?_⟩,⟨bx HB4.out (by have:=SZ.out;omega) (by have:=SZ.out;omega),bx HB5.out (by have:=SZ.out;omega) (by have:=SZ.out;omega),bx HB6.out (by have:=SZ.out;omega) (by have:=SZ.out;omega)⟩,t,Vx q.nd.2 q.pl 1 [],0,pa,pb,pc,pd,q.A,q.c,q.lo,?_,bx HB2.out (Qe _) (by have:=SZ.out;omega),?_,?_,bx HB8.out (by have:=SZ.out;omega) (by have:=SZ.out;omega),⟨hql1,?_,.inr ⟨q,hqm.out,rfl⟩⟩,fun q2 hq2=> ?_⟩
    ·have h1:=hAst.out kk e
     have h2:=hA.out kk q e hqm.out;rw[all1 kk (by have:=HIs.out;have:=SZ.out;omega) (by have:=SZ.out;omega)];exact hgr.block kk (by have:=HIs.out;have:=SZ.out;omega) (fun e=>by have:=Hrb.out kk e.symm;omega)
    ·show stO k s a lv (pre'++[x']).length=_
     rw[hpl.out];exact hst2.out
    ·refine HSto.out.map fun p v hp hc=> ?_
     have h1:p.block<V.heap.size:=hp.2;have h2:W.heap[p.block]? = V.heap[p.block]? := hgr.block p.block h1 (fun e=>by have:=Hrb.out _ e.symm;have:=SZ.out;rcases hp.1 with h | h <;> omega);have h3:=all1 p.block (by omega) (by have:=SZ.out;rcases hp.1 with h | h <;> omega);exact⟨⟨hp.1,by omega⟩,(Qd (h3.trans h2)).trans hc⟩
    ·rw[hins.out]
     exact d7
    ·have:=(Z1x (hi:=q.hi) hql2 (by rw[hrbe.out];exact Hrb.out) (by have:=HIs.out;have:=SZ.out;omega) hrep'.out (by rw[hrbe.out];exact HLi.out)).wide hql3
     rw[hmap.out] at this;exact this.same fun k h1 h2=>all1 k (by have:=HIs.out;have:=SZ.out;omega) (by have:=SZ.out;omega)
    ·obtain⟨h1,h2⟩:=hidx.out q2 hq2
     refine⟨h1,(HRows.out q2 h2).2.same fun k h3 h4=> ?_⟩;have h5:=(hR.out.ok q2 (Qq h2)).2.2.1;rw[all1 k (by have:=HIs.out;have:=SZ.out;omega) (by have:=SZ.out;omega)]
     exact hgr.block k (by have:=HIs.out;have:=SZ.out;omega) (fun e=>by have:=Hrb.out k e.symm;omega))
   clear keep all1 d7 gr1 gs1 hgr ho c7
   gi_wp2_with fail
   exact⟨none,kpt.out.wide fun k _ h=>by simpa using h,hfin.out⟩
  ·obtain⟨d,hd⟩:∃ d,pre'.length=d+1:=by
    cases hp:pre'.length with
    | zero =>
     rw[hp] at hst;unfold stO at hst;cases hst;exact absurd rfl hL
    | succ d=>exact⟨d,rfl⟩
   rw[hd] at hst;have hdl:d+1<=lv:=by have:=hm.out;omega
   have GG:=Zxi h6 hT.out (show d<=lv by omega) hst;obtain⟨m1,m2,m3,m4,m5,m6,m7⟩:=Z3s h6 hT.out hdl hL hst;rw[show lv-(d+1)=x' by omega,<- hnd] at m1 m2 m3 m4 m5 m6 m7;rw[<- hpw] at m2 m3 m5 m7;have mfew:=m2.few;have minI:=m2.inI;have mfit:=m2.fit;have msub:=m2.sub;obtain⟨qs,hqs,hFo,hFi⟩:=hrow.row;have hL0:0<L.length:=Pb.2 hL;have HJ:=Z02 pa pb pc pd t q.nd.1 q.A q.nd.2.length q.c q.pl q.nd.2 F bnd L.length fc qs L V (Zel hSto) (hrin.its (by have:=SZ.out;have:=hIs;omega)) rfl hplt hq5 m1 hFo hqs hL0 GG.few (fun p hp=>⟨(hFi p hp).1,Zf _ _ _ _ _ _ (fun a v ha hc=>⟨⟨by have:=ha.2.1;have:=SZ.out;have:=hIs;omega,ha.2.2⟩,hc⟩) (hFi p hp).2⟩) (by have:=hrow.le;have:=SZ.out;have:=hIs;omega);unfold Z3x at HJ;obtain⟨R,hRe⟩:∃ R,Zz s q.nd.2 q.pl L=R:=⟨_,rfl⟩
   rw[m3,hRe] at HJ;rw[hRe] at mfew minI mfit msub m7;obtain⟨first,many,L'⟩:=R
   dsimp only at HJ mfew minI mfit msub m7
   obtain⟨y0,r0,hy0⟩:∃ y0 r0,L'=y0::r0:=by
    obtain⟨z0,hz0⟩:=List.exists_mem_of_ne_nil _ hL;have:=msub z0 hz0;cases L' with
    | nil=>cases this
    | cons a b=>exact⟨a,b,rfl⟩
   obtain⟨fa,rfl⟩:∃ fa,F=some fa:=by
    obtain⟨_,_,e,_,_,_,h5⟩:=Yr hFo;cases e;exact h5 hL0
   obtain⟨fb,Cf,rfl,hfl,hfs,hfg,_⟩:=Xs hFo;obtain⟨q2,hq2,hq2A⟩:∃ q2∈l,q2.A=some ⟨fb,0,none⟩:=hFq.resolve_left (by simp);have hfbw:fb<w.heap.size:=(hrow.blk fb rfl).2;have hfbq:q.hi<=fb:=Qf hqh hfl;have hgb:g1≠fb:=fun e=>by
    unfold Xu at hg1;rw[e,hfg] at hg1;simp at hg1
   have HL:=fun(b c':Nat) (W:Pw) (hs:Sto (Old W) W (.agg #[.slice pa.1 pa.2.1 pa.2.2,.slice pb.1 pb.2.1 pb.2.2,.slice pc.1 pc.2.1 pc.2.2,.slice pd.1 pd.2.1 pd.2.2]) t) (hi:Y6 (Old W) W [.slice (some ⟨b,0,none⟩) L'.length c'] L')=>Zlv pa pb pc pd t (some ⟨b,0,none⟩) c' ((d:Int),L') held W hs ⟨_,rfl,⟨by omega,by omega⟩,hi⟩
   obtain⟨LD,hLD⟩:∃ LD,Zpo t ((d:Int),L') held=LD:=⟨_,rfl⟩
   rw[hLD] at m7 HL;obtain⟨er,S',z⟩:=LD
   dsimp only at m7 HL
   have hz64:er=0->Zmp z:=fun h0=>by
    have:=Zvs (s:=t) (lv:=(d:Int)) (L:=L') (held:=held) mfew (by
     rcases GG.own with h | ⟨_,_,_,q,hq,hqe⟩
     ·exact .inl h
     ·exact .inr ⟨q,msub q hq,hqe⟩)
    rw[hLD] at this;by_cases hb:(Ym t (d:Int) L').1=0
    ·rw[if_pos hb] at this
     obtain⟨u,up,e⟩:∃ u up,Ym t (d:Int) L'=(0,u,up):=⟨_,_,Prod.ext hb rfl⟩
     rw[e] at this;rcases Za5 e with ⟨hmk,_,rfl⟩ | ⟨h6',_⟩
     ·obtain⟨kk,e1,k8,k256,_⟩:=Vq hmk
      have hz:z=mkN t ((d:Int),L'):=by
       have:=congrArg (fun g:Int×Rm×Int=>g.2.2) this;exact this
      rw[hz,e1];exact⟨by omega,by omega⟩
     ·omega
    ·rw[if_neg hb] at this
     have:=congrArg (fun g:Int×Rm×Int=>g.1) this;exact absurd (this.symm.trans h0) hb
   have hFit:=Za mfit;have i5:IntKind.i64.wrap (q.nd.1-1)=(d:Int):=by rw[m4,IntKind.wrap_i64];omega
   have i6:IntKind.i64.wrap ((first:Int)+(many:Int))=(first:Int)+(many:Int):=by rw[IntKind.wrap_i64];omega
   have hmk:=Za (show ∀ L2:List Iv,L2=ps.take first++([(upI L' z,.slice none 0 0)]++ps.drop (first+many))->L2.map (·.1)=Vx q.nd.2 first many [upI L' z] from fun L2 e=>by
    rw[e,Qt,Qt,Pu,Pv,hps]
    rfl)
   have t0:((L.length:Int)==0)=false:=by simp;omega
   obtain⟨ml,hml⟩:∃ ml,L.length=ml:=⟨_,rfl⟩
   obtain⟨nl',hnl'⟩:∃ nl',L'.length=nl':=⟨_,rfl⟩
   rw[hml] at HJ hB7 t0;rw[hnl'] at HJ HL;obtain⟨n0,nf,_⟩:=Ye hB7;obtain⟨u0,u1,u2,_⟩:=Zj hg1;obtain⟨k0,k1,k2,k3,kf,_⟩:=Ze hB2;have hHJ:=Za HJ;have hHL:=Za HL;have HB2:=Za hB2;have HB4:=Za hB4;have HB5:=Za hB5;have HB6:=Za hB6;have HB7:=Za hB7;have HB8:=Za hB8;have HG1:=Za hg1;have HIb:=Za hIb;have HIs:=Za hIs;have HSto:=Za hSto;have HIo:=Za hIo;have HRows:=Za hrows;have Hrb:=Za hrb;have HPO:=Za hpo;have HPI:=Za hpi;replace m7:=Za m7;replace minI:=Za minI;replace hml:=Za hml;replace hnl':=Za hnl';replace hLD:=Za hLD;replace hRe:=Za hRe;replace hy0:=Za hy0;replace hqm:=Za hqm;replace hrbe:=Za hrbe;replace hxl:=Za hxl;replace hnd:=Za hnd;replace hpw:=Za hpw;replace hpl:=Za hpl;replace hd:=Za hd;replace hz64:=Za hz64;replace hL:=Za hL;clear hIo HJ HL hB2 hB4 hB5 hB6 hB7 hB8 hIb hIs hSto hrows hrb hrow hrin hRA hg1 hps hpo hpi hst m1 m2 m3 m4 m5 m6 mfew mfit msub GG hqs hFo hFi hfg;have hq64:=Za hql64;clear hql64;obtain⟨q1,hq1⟩:∃ q1,q.nd.1=q1:=⟨_,rfl⟩
   obtain⟨q3,hq3⟩:∃ q3,q.nd.2.length=q3:=⟨_,rfl⟩
   rw[hq1] at i5 u0 hHJ HG1;rw[hq3] at u1 hHJ HPO HG1 hplt hq5 hFit;rw[hq1,hq3];replace hq1:=Za hq1;replace hq3:=Za hq3
   gi_wp2_with fail
   refine⟨trivial,rfl,?_⟩;refine(CallsIn.inRound _ (callsIn_wide.2 hHJ.out)).mono ?_;rintro e W2 ⟨b,c',rfl,hits,hgr⟩;have keep2:∀ k,k<V.heap.size->k≠fb->W2.heap[k]? = V.heap[k]? := fun k h1 h2=>hgr.block k h1 (fun e=>h2 (Option.some.inj e))
   have hsz2:=hgr.size;obtain⟨W3,hW3,i3,hs3',hB3'⟩:=Zy W2 (.int .i64 (first:Int)) (.int .i64 (many:Int)) 108;have keep3:∀ k,k<V.heap.size->k≠fb->W3.heap[k]? = V.heap[k]? := fun k h1 h2=>(hB3'.block k (by omega)).trans (keep2 k h1 h2)
   have bx3:∀ {k:Nat} {cs:Array Px} {t:Pz},Xu k cs t V->w.heap.size<=k->Xu k cs t W3:=fun h h1=>(keep3 _ (Qc.1 h).1 (by omega)).trans h
   have c2:=bx3 HB2.out (Qe _);have c8:=bx3 HB8.out (by have:=SZ.out;omega);have cg:Xu g1 _ 102 W3:=(keep3 g1 (Qc.1 HG1.out).1 hgb).trans HG1.out;have hS3:Sto (Kn (fun k=>k<l0\/w7.heap.size<=k) W3) W3 (.agg #[.slice pa.1 pa.2.1 pa.2.2,.slice pb.1 pb.2.1 pb.2.2,.slice pc.1 pc.2.1 pc.2.2,.slice pd.1 pd.2.1 pd.2.2]) t:=HSto.out.map fun p v hp hc=>by
    have h1:p.block<V.heap.size:=hp.2;have h2:=keep3 p.block h1 (by have:=SZ.out;rcases hp.1 with h | h <;> omega);exact⟨⟨hp.1,by omega⟩,(Qd h2).trans hc⟩
   have HLc:=Za (hHL.out b c' W3 (Zel hS3) (Z5.old hits hB3'));clear n0 nf u0 u1 u2 k0 k1 k2 k3 kf;obtain⟨k0,k1,k2,k3,kf,_⟩:=Ze c2;obtain⟨u0,u1,u2,_⟩:=Zj cg;obtain⟨o0,_⟩:=Ye c8;have hIts:=Za hits;have K3:=Za keep3;have C2:=Za c2;have C8:=Za c8;have CG:=Za cg;have I3:=Za i3;have HGR:=Za hgr;have B23:=Za hB3';have S23:=Za hs3';replace hsz2:=Za hsz2;clear hits keep2 keep3 bx3 c2 c8 cg hS3 i3 hgr hB3' hs3' hHL hHJ
   gi_wp2_with fail
   clear hW3;refine⟨trivial,rfl,?_⟩;refine(CallsIn.inRound _ (callsIn_wide.2 HLc.out)).mono ?_;rintro e W4 ⟨va,vb,vc,vd,rfl,hS4,hb4⟩;clear k0 k1 k2 k3 kf u0 u1 u2 o0 HLc;have hV3:V.heap.size<W3.heap.size:=by have:=hsz2.out;have:=S23.out;omega
   have hszw:w7.heap.size<=V.heap.size:=HIs.out;have c24:Xu w.heap.size _ 29 W4:=(hb4.block _ (by have:=SZ.out;omega)).trans C2.out;obtain⟨W5,hW5,g5,gr5,gs5⟩:=Zo (a':=.slice va.1 va.2.1 va.2.2) (b':=.slice vb.1 vb.2.1 vb.2.2) (c':=.slice vc.1 vc.2.1 vc.2.2) (d':=.slice vd.1 vd.2.1 vd.2.2) c24;have c85:Xu w5.heap.size _ 3 W5:=(gr5.block _ (by have:=SZ.out;have:=hb4.size;omega) (fun e=>by have:=Option.some.inj e;have:=SZ.out;omega)).trans ((hb4.block _ (by have:=SZ.out;omega)).trans C8.out);obtain⟨W6,hW6,g6,gr6,gs6⟩:=Zca (u:=.int .i64 z) c85;obtain⟨k0,k1,k2,k3,kf,_⟩:=Ze c24;obtain⟨o0,of,_⟩:=Ye c85;have all6:∀ k,k<W4.heap.size->k≠w.heap.size->k≠w5.heap.size->W6.heap[k]? = W4.heap[k]? := fun k h1 h2 h3=>(gr6.block k (by omega) (fun e=>h3 (Option.some.inj e))).trans (gr5.block k h1 (fun e=>h2 (Option.some.inj e)))
   have keep6:∀ k,k<V.heap.size->k≠fb->k≠w.heap.size->k≠w5.heap.size->W6.heap[k]? = V.heap[k]? := fun k h1 h2 h3 h4=>(all6 k (by have:=hb4.size;omega) h3 h4).trans ((hb4.block k (by omega)).trans (K3.out k h1 h2))
   have bx6:∀ {k:Nat} {cs:Array Px} {t:Pz},Xu k cs t V->w.heap.size<k->k≠w5.heap.size->Xu k cs t W6:=fun h h1 h2=>(keep6 _ (Qc.1 h).1 (by omega) (by omega) h2).trans h
   have hfbl:∀ r,(some fb:Option Nat)=some r->lo<=r:=fun r e=>by cases e;omega
   have kpt:Hid (Zdn (fun k=>k=w.heap.size\/k=w2.heap.size\/k=w3.heap.size\/k=w1.heap.size\/k=w4.heap.size\/k=w5.heap.size\/∃ q∈l,q.A.map (·.block)=some k) none none V W6):=Za (((((Zdn.refl _ _ _).grown HGR.out fun r e=>.inr (.inr (.inr (.inr (.inr (.inr (.inr ⟨q2,hq2,by rw[hq2A];exact e⟩))))))).grown (Zbg B23.out) fun r e=>by cases e).grown (Zbg hb4) fun r e=>by cases e).grown gr5 fun r e=>by cases e;exact .inr (.inl rfl)).grown gr6 fun r e=>by cases e;exact .inr (.inr (.inr (.inr (.inr (.inr (.inl rfl))))))
   have hb6:Hid (P9 lo w W6/\w7.heap.size<=W6.heap.size):=Za ⟨((((HIb.out.grown HGR.out (by have:=SZ.out;omega) hfbl).trans (B23.out.mono (by have:=SZ.out;have:=hsz2.out;omega))).trans (hb4.mono (by have:=SZ.out;omega))).grown gr5 (by have:=SZ.out;have:=hb4.size;omega) (fun k e=>by cases e;omega)).grown gr6 (by have:=SZ.out;have:=hb4.size;omega) (fun k e=>by cases e;have:=SZ.out;omega),by have:=hb4.size;omega⟩;have z4:Hid (Xu w1.heap.size #[.slice none 0 0,.slice none 0 0,.slice none 0 0,.slice none 0 0] 29 W6):=Za (bx6 HB4.out (by have:=SZ.out;omega) (by have:=SZ.out;omega));have z5:Hid (Xu w2.heap.size #[.int .i64 0] 3 W6):=Za (bx6 HB5.out (by have:=SZ.out;omega) (by have:=SZ.out;omega));have z6:Hid (Xu w3.heap.size #[.int .i64 0] 33 W6):=Za (bx6 HB6.out (by have:=SZ.out;omega) (by have:=SZ.out;omega))
   have hS6:Hid (Sto (Kn (fun k=>k<l0\/w7.heap.size<=k) W6) W6 (.agg #[.slice va.1 va.2.1 va.2.2,.slice vb.1 vb.2.1 vb.2.2,.slice vc.1 vc.2.1 vc.2.2,.slice vd.1 vd.2.1 vd.2.2]) S'):=Za (hS4.map fun p v hp hc=>by
    have h1:W3.heap.size<=p.block:=hp.1;have h2:p.block<W4.heap.size:=hp.2;have h3:=all6 p.block h2 (by have:=SZ.out;omega) (by have:=SZ.out;omega)
    exact⟨⟨.inr (by omega),by omega⟩,(Qd h3).trans hc⟩)
   by_cases he0:er=0
   case neg =>
    have t1:(er != 0)=true:=by simpa using he0
    obtain⟨W7,hW7,g7,gr7,gs7⟩:=Zca (u:=.int .i64 er) z6.out;have e4:=z4.out;have e5:=z5.out;obtain⟨m0,m1,m2,m3,mf,_⟩:=Ze e4;obtain⟨p0,pf,_⟩:=Ye e5;obtain⟨y0',yf,_⟩:=Ye z6.out;have S4:=Vl (W:=W6) (i:=0) (v:=.slice none 0 0) e4 rfl;have S4b:=Vl (W:=W6) (i:=1) (v:=.slice none 0 0) e4 rfl;have S4c:=Vl (W:=W6) (i:=2) (v:=.slice none 0 0) e4 rfl;have S4d:=Vl (W:=W6) (i:=3) (v:=.slice none 0 0) e4 rfl;have S5:=Vl (W:=W6) (i:=0) (v:=.int .i64 0) e5 rfl
    have hfin:Hid (ShX lo w7.heap.size w1.heap.size w2.heap.size w3.heap.size w s k a lv .ret (pre'++[x'],none) W7):=Za (by
     have b7:∀ {k:Nat} {cs:Array Px} {t:Pz},Xu k cs t W6->k≠w3.heap.size->Xu k cs t W7:=fun h h1=>(gr7.block _ (Qc.1 h).1 (fun e=>h1 (Option.some.inj e))).trans h
     refine⟨rfl,rfl,⟨hb6.out.1.grown gr7 (by have:=hb6.out.2;have:=SZ.out;omega) (fun k e=>by cases e;have:=SZ.out;omega),by have:=hb6.out.2;omega⟩,er,b7 z4.out (by have:=SZ.out;omega),b7 z5.out (by have:=SZ.out;omega),g7,?_,he0⟩
     exact Z12 (i:=d+1+1) (by rw[m7.out,if_neg he0]) he0 (lv+1) (by omega) (Qe _))
    have kp7:Hid (Zdn (fun k=>k=w.heap.size\/k=w2.heap.size\/k=w3.heap.size\/k=w1.heap.size\/k=w4.heap.size\/k=w5.heap.size\/∃ q∈l,q.A.map (·.block)=some k) none none V W7):=Za (kpt.out.grown gr7 fun r e=>by cases e;exact .inr (.inr (.inr (.inl rfl))));clear g7 gr7 gs7 e4 e5 all6 keep6 bx6 hfbl g5 gr5 gs5 g6 gr6 gs6 c24 c85 hS4 hb4;replace he0:=Za he0
    gi_wp2_with fail
    exact⟨none,kp7.out.wide fun k _ h=>by simpa using h,hfin.out⟩
   subst he0;obtain⟨ad0,E0,ce0,e0,_,hAt,_⟩:=Zao hIts.out (show L'[0]? = some y0 by rw[hy0.out];rfl);cases e0;obtain⟨a0,a1,a2,_,_⟩:=hAt;have a0':W2.cell? ⟨b,0,none⟩=some (.int .u8 (y0.1.1.toNat:Int)):=by simpa [Addr.add] using a0
   have a1':W2.cell? ⟨b,1,none⟩=some (.int .u32 y0.1.2.1):=by simpa [Addr.add] using a1
   have a2':W2.cell? ⟨b,2,none⟩=some (.int .u32 y0.1.2.2):=by simpa [Addr.add] using a2
   have hbW2:b<W2.heap.size:=Q7 _ ⟨b,0,none⟩ a0';have hbn:b≠w.heap.size/\b≠w5.heap.size:=by
    have h1:W2.heap[w.heap.size]? = W3.heap[w.heap.size]? := (B23.out.block _ (by have:=hsz2.out;have:=SZ.out;omega)).symm;have h2:W2.heap[w5.heap.size]? = W3.heap[w5.heap.size]? := (B23.out.block _ (by have:=hsz2.out;have:=SZ.out;omega)).symm;refine⟨fun e=> ?_,fun e=> ?_⟩
    ·rw[e,(Ze (h1.trans C2.out)).1] at a0'
     cases a0'
    ·rw[e,(Ye (h2.trans C8.out)).1] at a0'
     cases a0'
   have kb:W6.heap[b]? = W2.heap[b]? := (all6 b (by have:=hb4.size;have:=S23.out;omega) hbn.1 hbn.2).trans ((hb4.block b (by have:=S23.out;omega)).trans (B23.out.block b hbW2))
   have KD:=Za (fun W (hW:P9 W6.heap.size W6 W)=>(show W.cell? ⟨b,0,none⟩=some (.int .u8 (y0.1.1.toNat:Int))/\W.cell? ⟨b,1,none⟩=some (.int .u32 y0.1.2.1)/\W.cell? ⟨b,2,none⟩=some (.int .u32 y0.1.2.2) from by
    have hb:=(hW.block b (by have:=hb4.size;have:=S23.out;omega)).trans kb
    exact⟨(Qd (a:=⟨b,0,none⟩) hb).trans a0',(Qd (a:=⟨b,1,none⟩) hb).trans a1',(Qd (a:=⟨b,2,none⟩) hb).trans a2'⟩))
   have ig:Xu W2.heap.size #[.int .i64 (first:Int),.int .i64 (many:Int)] 108 W6:=(all6 _ (by have:=hb4.size;have:=S23.out;omega) (by have:=hsz2.out;have:=SZ.out;omega) (by have:=hsz2.out;have:=SZ.out;omega)).trans ((hb4.block _ (by have:=S23.out;omega)).trans I3.out);have KI:=Za (fun W (hW:P9 W6.heap.size W6 W)=>(hW.block _ (Qc.1 ig).1).trans ig);have pg:Xu g1 #[.int .i64 q1,.slice q.A q3 q.c,.int .i64 (q.pl:Int)] 102 W6:=by
    have h1:g1≠w.heap.size/\g1≠w5.heap.size:=by
     refine⟨fun e=> ?_,fun e=> ?_⟩
     ·have h2:=HB2.out
      have h3:=HG1.out;unfold Xu at h2 h3;rw[e,h2] at h3;simp at h3
     ·have h2:=HB8.out
      have h3:=HG1.out;unfold Xu at h2 h3;rw[e,h2] at h3;simp at h3
    exact(keep6 g1 (Qc.1 HG1.out).1 hgb h1.1 h1.2).trans HG1.out
   have KP:=Za (fun W (hW:P9 W6.heap.size W6 W)=>(hW.block _ (Qc.1 pg).1).trans pg);have KZ:=Za (fun W (hW:P9 W6.heap.size W6 W)=>(hW.block _ (Qc.1 g6).1).trans g6);have g7:=bx6 HB7.out (by have:=SZ.out;omega) (by have:=SZ.out;omega);have K7:=Za (fun W (hW:P9 W6.heap.size W6 W)=>(hW.block _ (Qc.1 g7).1).trans g7);have g2b:Xu w.heap.size #[.slice va.1 va.2.1 va.2.2,.slice vb.1 vb.2.1 vb.2.2,.slice vc.1 vc.2.1 vc.2.2,.slice vd.1 vd.2.1 vd.2.2] 29 W6:=(gr6.block _ (by rw[gs5];exact(Qc.1 c24).1) (fun e=>by have:=Option.some.inj e;have:=SZ.out;omega)).trans g5;have H2b:=Za g2b;have H8b:=Za g6;have hz:=hz64.out rfl;have hnp:0<nl':=by rw[<- hnl'.out,hy0.out];exact Nat.succ_pos _
   have hnp2:(0:Int)<(nl':Int):=by omega
   have hKeep6:=Za keep6;have hlt6:=Za (show V.heap.size<=W6.heap.size by have:=hb4.size;omega);have hnd0:Hid (∀ kk,q.lo<=kk->kk<q.hi->W6.heap[kk]? = V.heap[kk]?):=Za fun kk h1 h2=>keep6 kk (by omega) (by omega) (by omega) (by have:=SZ.out;omega)
   clear all6 keep6 bx6 hfbl g5 gr5 gs5 g6 gr6 gs6 c24 c85 hS4 hb4 a0 a1 a2 a0' a1' a2' kb ig pg g7 g2b hbn
   gi_wp2_with fail
   clear hW5 hW6 k0 k1 k2 k3 kf o0 of;refine Zwz ?_
   refine Zf0 ⟨fun W W'=>P9 W.heap.size W W',16,fun _=>True⟩ (ops' := ?opsLate) (by kernel_rfl) [] ?he (by kernel_rfl) (by kernel_rfl) (fun _ _ _ _ _ h=>h) (fun⟨_,_,h⟩=>h) 17 (fun W=>P9 W6.heap.size W6 W) (fun i=>match i with
    | 16=>some (fun v W=>∃ g2,v=.slice (some ⟨g2,0,none⟩) 1 1/\W6.heap.size<=g2/\Xu g2 #[.int .u8 (y0.1.1.toNat:Int),.int .u32 y0.1.2.1,.int .u32 y0.1.2.2,.int .i64 z,.slice none 0 0] 54 W)
    | _=>none) (fun _=>none) ?h1 ?h2 ?h3 trivial ?hon (Qa _ _).drew (fun w w' h hb=>h.trans (hb.mono h.size)) ?tst ?_
   case he =>
    simp[Yg];rfl
   case h1=>decide
   case h2=>kernel_rfl
   case h3=>kernel_rfl
   case hon=>kernel_rfl
   case tst =>
    intro j φ v W W' hp hx hr
    match j,hp with
    | 16,hp =>
     cases hp;obtain⟨g2,e,h1,h2⟩:=hx;exact⟨g2,e,h1,(hr.block g2 (Qc.1 h2).1).trans h2⟩
   simp only[Qk,Ql,Qm,Qn]
   repeat (first
    | (refine Rk.wpAs_skip rfl ?_;simp only[Qb,Zb,Zc,Zd])
    | (refine Rk.wpAs_pure (v := ?_) rfl rfl ?_ ?_;rotate_left;(intro W hC hE;clear hE;(obtain⟨u0,u1,u2,_⟩:=Zj (KP.out W hC);obtain⟨i0,i1,_⟩:=Zg (KI.out W hC);obtain⟨z0,_⟩:=Ye (KZ.out W hC);obtain⟨d0,d1,d2⟩:=KD.out W hC);clear hC;go_simp;first | done | with_reducible rfl);simp only[Qb,Zb,Zc,Zd]))
   refine Rk.wpAs_act rfl rfl ?_ ?_
   ·intro W hC _ hE
    have hs:=hC.size;clear hE hC
    go_simp
    exact⟨⟨W.heap.size,rfl,hs,P4 _ _⟩,(Qa _ _).alloc (Qe _) _⟩
   simp only[Qb,Zb,Zc,Zd,Rb.envAdd];intro x16;refine Rk.wpAs_end fun W hC hE=> ?_
   obtain⟨⟨g2,rfl,hg2,hbx⟩,_⟩:=hE;have hsW:=hC.size;have hup:upI L' z=(y0.1,z,[]):=by rw[hy0.out];rfl
   have hqw:q.hi<=w.heap.size:=hql3;have hV7:w.heap.size+7<=V.heap.size:=by have:=SZ.out;have:=HIs.out;omega
   have hV6:=hlt6.out;have ho9:W.ownsRow q.lo 54 5 (.slice q.A q3 q.c) q3 (Zp ps):=Zcw HPO.out fun kk hk=>by
    have:=Hrb.out kk (by rw[<- hrbe.out];exact hk);exact(hC.block kk (by omega)).trans (hnd0.out kk this.1 this.2)
   have hf9:W.ownsRow W6.heap.size 54 5 (.slice (some ⟨g2,0,none⟩) 1 1) 1 (Zp [((y0.1,z,[]),.slice none 0 0)]):=Zbd (C:=Zp [((y0.1,z,[]),.slice none 0 0)]) hg2 hbx (Qe _) (by decide) rfl rfl;have HRp:=Zm3 q.A q.lo W6.heap.size q3 q.c g2 1 first (first+many) ps [((y0.1,z,[]),.slice none 0 0)] W ho9 hf9 (fun e=>by have:=Hrb.out g2 (by rw[<- hrbe.out];exact e);omega) (by have:=hFit.out;omega) hFit.out.1 (by omega) (Zks HPI.out) (fun p hp=>by rw[Qs.1 hp];rfl)
   rw[show ((first+many:Nat):Int)=(first:Int)+(many:Int) by omega] at HRp;obtain⟨Ls,hLs⟩:∃ Ls,ps.take first++([((y0.1,z,[]),.slice none 0 0)]++ps.drop (first+many))=Ls:=⟨_,rfl⟩
   rw[hLs] at HRp;have hmap:Ls.map (·.1)=Vx q.nd.2 first many [upI L' z]:=hmk.out Ls (by rw[hup,hLs])
   have hLi:∀ p∈Ls,InI p.1/\rBy (fun ad=>q.lo<=ad.block/\ad.block<q.hi/\rb≠some ad.block) W [p.2] p.1.2.2:=fun p hp=>by
    have Zno:p∈ps->InI p.1/\rBy (fun ad=>q.lo<=ad.block/\ad.block<q.hi/\rb≠some ad.block) W [p.2] p.1.2.2:=fun hp=>⟨(HPI.out p hp).1,Zf _ _ _ _ _ _ (fun a v ha hc=>⟨ha,(Qd ((hC.block a.block (by omega)).trans (hnd0.out a.block ha.1 ha.2.1))).trans hc⟩) (HPI.out p hp).2⟩
    rw[<- hLs] at hp;rcases Qo.1 hp with hp | hp
    ·exact Zno (Qq hp)
    ·rcases Qo.1 hp with hp | hp
     ·rw[Qs.1 hp]
      exact⟨by rw[<- hup];exact Z1w (by rw[hy0.out];simp) minI.out hz,Vd _ _ none⟩
     ·exact Zno (Q4 hp)
   obtain⟨len,hlen⟩:∃ len,Ls.length=len:=⟨_,rfl⟩
   have hins:(Vx q.nd.2 first many [upI L' z]).length=len:=by rw[<- hmap,Q5,hlen]
   have HRh:=Za HRp;have HC:=Za hC;replace hLi:=Za hLi;replace hmap:=Za hmap;replace hins:=Za hins;replace hlen:=Za hlen;replace hLs:=Za hLs;replace hup:=Za hup;clear HRp ho9 hf9 hbx hC
   go_wp2_with fail
   with_reducible refine HRh.out.mono ?_
   rintro e W9 hrep;have hrep':=Za hrep;obtain⟨rfl,ho,hgr9⟩:=hrep;rw[hrbe.out] at hgr9;rw[hlen.out];have hsz9:=hgr9.size;have c7:Xu w4.heap.size _ 39 W9:=(hgr9.block _ (by have:=SZ.out;omega) (fun e=>by have:=Hrb.out _ e.symm;have:=SZ.out;omega)).trans (K7.out W HC.out);obtain⟨W10,hW10,d7,gr10,gs10⟩:=Zca (u:=.slice q.A len q.c) c7;obtain⟨m0,mf,_⟩:=Ye c7;have kb:∀ kk,kk<W6.heap.size->rb≠some kk->kk≠w4.heap.size->W10.heap[kk]? = W6.heap[kk]? := fun kk h1 h2 h3=>(gr10.block kk (by omega) (fun e=>h3 (Option.some.inj e))).trans ((hgr9.block kk (by omega) (fun e=>h2 e.symm)).trans (HC.out.block kk h1))
   have hrw:∀ kk,q.hi<=kk->rb≠some kk:=fun kk h1 e=>by have:=Hrb.out kk e;omega
   have bx:∀ {k:Nat} {cs:Array Px} {t:Pz},Xu k cs t W6->w.heap.size<=k->k≠w4.heap.size->Xu k cs t W10:=fun h h1 h2=>(kb _ (Qc.1 h).1 (hrw _ (by omega)) h2).trans h
   have kp10:Hid (Zdn (fun k=>k=w.heap.size\/k=w2.heap.size\/k=w3.heap.size\/k=w1.heap.size\/k=w4.heap.size\/k=w5.heap.size\/∃ q∈l,q.A.map (·.block)=some k) none none V W10):=Za (((kpt.out.grown (Zbg HC.out) fun r e=>by cases e).grown hgr9 fun r e=>.inr (.inr (.inr (.inr (.inr (.inr (.inr ⟨q,hqm.out,by rw[hrbe.out,e]⟩))))))).grown gr10 fun r e=>by cases e;exact .inr (.inr (.inr (.inr (.inr (.inl rfl))))))
   have hfin:Hid (ShI l0 lo w7.heap.size w.heap.size w1.heap.size w2.heap.size w3.heap.size w4.heap.size w5.heap.size A c w s k a lv l (pre'++[x'],none) W10):=Za (by
    refine⟨rfl,⟨((hb6.out.1.trans (HC.out.mono (by omega))).grown hgr9 (by omega) (fun r e=>by have:=Hrb.out r e;omega)).grown gr10 (by omega) (fun k e=>by cases e;have:=SZ.out;omega),by have:=SZ.out;omega,Zcw HIo.out fun kk e=> ?_⟩,⟨bx z4.out (by have:=SZ.out;omega) (by have:=SZ.out;omega),bx z5.out (by have:=SZ.out;omega) (by have:=SZ.out;omega),bx z6.out (by have:=SZ.out;omega) (by have:=SZ.out;omega)⟩,S',Vx q.nd.2 first many [upI L' z],z,va,vb,vc,vd,q.A,q.c,q.lo,?_,bx H2b.out (Qe _) (by have:=SZ.out;omega),?_,?_,bx H8b.out (by have:=SZ.out;omega) (by have:=SZ.out;omega),⟨hql1,?_,.inr ⟨q,hqm.out,rfl⟩⟩,fun q9 hq9=> ?_⟩
    ·have h1:=hAst.out kk e
     have h2:=hA.out kk q e hqm.out;have h3:=hA.out kk q2 e hq2;have h4:=Zee (hR.out.ok q2 hq2).2.2.2 fb (by rw[hq2A];rfl);rw[kb kk (by omega) (fun e=>by have:=Hrb.out kk e;omega) (by have:=SZ.out;omega)];exact hKeep6.out kk (by omega) (by omega) (by omega) (by have:=SZ.out;omega)
    ·show stO k s a lv (pre'++[x']).length=_
     rw[hpl.out,hd.out,m7.out]
     first | rw[if_pos rfl] | simp only[if_true]
    ·refine hS6.out.map fun p v hp hc=> ?_
     have h2:=kb p.block hp.2 (fun e=>by have:=Hrb.out _ e;have:=SZ.out;rcases hp.1 with h | h <;> omega) (by have:=SZ.out;rcases hp.1 with h | h <;> omega);exact⟨⟨hp.1,by have:=hp.2;omega⟩,(Qd h2).trans hc⟩
    ·rw[hins.out]
     exact d7
    ·have:=(Z1x (hi:=q.hi) hql2 (by rw[hrbe.out];exact Hrb.out) (by omega) hrep'.out (by rw[hrbe.out];exact hLi.out)).wide hql3
     rw[hmap.out] at this;exact this.same fun kk h1 h2=>gr10.block kk (by omega) (fun e=>by have:=Option.some.inj e;have:=SZ.out;omega)
    ·obtain⟨h1,h2⟩:=hidx.out q9 hq9
     refine⟨h1,(HRows.out q9 h2).2.same fun kk h3 h4=> ?_⟩;rw[kb kk (by omega) (fun e=>by have:=Hrb.out kk e;omega) (by have:=SZ.out;omega)]
     exact hKeep6.out kk (by omega) (by omega) (by omega) (by have:=SZ.out;omega))
   clear kb hrw bx d7 gr10 gs10 hgr9 ho c7
   go_wp2_with fail
   simp only[Z5l]
   gi_wp2_with fail
   exact⟨none,kp10.out.wide fun k _ h=>by simpa using h,hfin.out⟩
 case done =>
  rintro xs q' V hVs rfl ⟨_,⟨hIb,hIs,hIo⟩,⟨hB4,hB5,hB6⟩,t,L,held,pa,pb,pc,pd,F,fc,bnd,hst,hB2,hSto,hB7,hB8,⟨hbl,hrow,hFq⟩,_⟩ hDV hqV;rw[Vi] at hst;have hst':stO k s a lv (lv+1)=(0,t,L,held):=by rw[<- hm.out];exact hst
  have hO:g=Zpo t ((if L=[] then 0 else (rmV s a).1),L) held:=by
   rw[<- hg.out];unfold Z38;rw[hst'];exact if_pos rfl
  have hD1:=Za hDV;have HIb:=Za hIb;have HB2:=Za hB2;have HB4:=Za hB4;have HB5:=Za hB5;have HB6:=Za hB6;have HB7:=Za hB7;have HB8:=Za hB8;have HIs:=Za hIs;have HSto:=Za hSto;obtain⟨k0,k1,k2,k3,kf,_⟩:=Ze hB2;obtain⟨n0,nf,_⟩:=Ye hB7;obtain⟨y0,yf,_⟩:=Ye hB8;by_cases hL:L=[]
  ·subst hL
   rw[if_pos rfl] at hO;have HL:=Zlv pa pb pc pd t none 0 (0,[]) held V (Zel hSto) (Zjw.zero w.heap.size V).nod.drop;obtain⟨LD,hLD⟩:∃ LD,Zpo t (0,[]) held=LD:=⟨_,rfl⟩
   rw[hLD] at hO HL;obtain⟨er,S',z⟩:=LD;have hHL:=Za HL;replace hO:=Za hO;replace hLD:=Za hLD;clear HL hB2 hB4 hB5 hB6 hB7 hB8 hIb hIs hIo hSto hrow hDV hqV hst hst'
   gi_wp2_with fail
   refine⟨trivial,?_⟩
   gi_at_call 51
   refine(callsIn_wide.2 hHL.out).mono ?_;rintro e W ⟨va,vb,vc,vd,rfl,hS4,hb4⟩
   dsimp only at hS4
   clear k0 k1 k2 k3 kf n0 nf y0 yf hHL;have c4:=(Yb _ _ _ _ _ HB4.out hb4:Xu w1.heap.size _ _ W)
   obtain⟨W5,hW5,g5,gr5,gs5⟩:=Zo (a':=.slice va.1 va.2.1 va.2.2) (b':=.slice vb.1 vb.2.1 vb.2.2) (c':=.slice vc.1 vc.2.1 vc.2.2) (d':=.slice vd.1 vd.2.1 vd.2.2) c4;have c5:Xu w2.heap.size _ 3 W5:=(gr5.block _ (by have:=SZ.out;have:=HIs.out;have:=hb4.size;omega) (fun e=>by have:=Option.some.inj e;have:=SZ.out;omega)).trans (Yb _ _ _ _ _ HB5.out hb4:Xu w2.heap.size _ _ W);obtain⟨W6,hW6,g6,gr6,gs6⟩:=Zca (u:=.int .i64 z) c5;have c6:Xu w3.heap.size _ 33 W6:=(gr6.block _ (by have:=SZ.out;have:=HIs.out;have:=hb4.size;omega) (fun e=>by have:=Option.some.inj e;have:=SZ.out;omega)).trans ((gr5.block _ (by have:=SZ.out;have:=HIs.out;have:=hb4.size;omega) (fun e=>by have:=Option.some.inj e;have:=SZ.out;omega)).trans (Yb _ _ _ _ _ HB6.out hb4:Xu w3.heap.size _ _ W));obtain⟨W7,hW7,g7,gr7,gs7⟩:=Zca (u:=.int .i64 er) c6;obtain⟨m0,m1,m2,m3,mf,_⟩:=Ze c4;obtain⟨p0,pf,_⟩:=Ye c5;obtain⟨r0,rf,_⟩:=Ye c6;have z4:=Za ((gr7.block _ (by have:=SZ.out;have:=HIs.out;have:=hb4.size;omega) (fun e=>by have:=Option.some.inj e;have:=SZ.out;omega)).trans ((gr6.block _ (by have:=SZ.out;have:=HIs.out;have:=hb4.size;omega) (fun e=>by have:=Option.some.inj e;have:=SZ.out;omega)).trans g5):Xu w1.heap.size _ 29 W7);have z5:=Za ((gr7.block _ (by have:=SZ.out;have:=HIs.out;have:=hb4.size;omega) (fun e=>by have:=Option.some.inj e;have:=SZ.out;omega)).trans g6:Xu w2.heap.size _ 3 W7);have z6:=Za (g7:Xu w3.heap.size _ 33 W7);have keep:∀ k,k<W.heap.size->k≠w1.heap.size->k≠w2.heap.size->k≠w3.heap.size->W7.heap[k]? = W.heap[k]? := fun k h1 h2 h3 h4=>(gr7.block k (by omega) (fun e=>h4 (Option.some.inj e))).trans ((gr6.block k (by omega) (fun e=>h3 (Option.some.inj e))).trans (gr5.block k h1 (fun e=>h2 (Option.some.inj e))))
   have hDe:Hid (W7.heap[w7.heap.size]? = some (.deferred (some []))):=Za ((keep _ (by have:=(Qc.1 hD1.out).1;have:=hb4.size;omega) (by have:=SZ.out;omega) (by have:=SZ.out;omega) (by have:=SZ.out;omega)).trans ((hb4.block _ (Qc.1 hD1.out).1).trans hD1.out))
   have hS7:Hid (Sto (Kn (fun k=>k<l0\/w.heap.size<=k) W7) W7 (.agg #[.slice va.1 va.2.1 va.2.2,.slice vb.1 vb.2.1 vb.2.2,.slice vc.1 vc.2.1 vc.2.2,.slice vd.1 vd.2.1 vd.2.2]) S'):=Za (hS4.map fun p v hp hc=>by
    have h1:V.heap.size<=p.block:=hp.1;have h2:p.block<W.heap.size:=hp.2;have h3:=HIs.out;have h4:=keep p.block h2 (by have:=SZ.out;omega) (by have:=SZ.out;omega) (by have:=SZ.out;omega)
    exact⟨⟨.inr (by have:=SZ.out;omega),by omega⟩,(Qd h4).trans hc⟩)
   have hBe:Hid (P9 lo w W7):=Za ((((HIb.out.trans (hb4.mono (by have:=HIs.out;have:=SZ.out;omega))).grown gr5 (by have:=HIs.out;have:=SZ.out;have:=hb4.size;omega) (fun k e=>by cases e;have:=SZ.out;omega)).grown gr6 (by have:=HIs.out;have:=SZ.out;have:=hb4.size;omega) (fun k e=>by cases e;have:=SZ.out;omega)).grown gr7 (by have:=HIs.out;have:=SZ.out;have:=hb4.size;omega) (fun k e=>by cases e;have:=SZ.out;omega));have hsz7:=Za (show w7.heap.size<=W7.heap.size by have:=HIs.out;have:=hb4.size;omega);clear keep g5 gr5 gs5 g6 gr6 gs6 g7 gr7 gs7 c4 c5 c6 hS4 hb4
   gi_wp2_with fail
   refine⟨by simp,.inl ⟨_,_,rfl,run_takeDeferred hDe.out,?_⟩⟩;have hgp:=grownBy_putObj' W7 w7.heap.size (.deferred none);have hnp:∀ r,some w7.heap.size=some r->∃ o:Obj,W7.heap[r]? = some o/\o.isCells=false:=fun r e=>by cases e;exact⟨_,hDe.out,rfl⟩
   obtain⟨m0,m1,m2,m3,_⟩:=Ze (Z8 z4.out hgp hnp);obtain⟨n0,_⟩:=Ye (Z8 z5.out hgp hnp);obtain⟨y0,_⟩:=Ye (Z8 z6.out hgp hnp);refine⟨.tuple #[.agg #[.slice va.1 va.2.1 va.2.2,.slice vb.1 vb.2.1 vb.2.2,.slice vc.1 vc.2.1 vc.2.2,.slice vd.1 vd.2.1 vd.2.2],.int .i64 z,.int .i64 er],by simp[results,Tryz.f26,go_sem,m0,m1,m2,m3,n0,y0],?_⟩;rw[<- hQQ.out];exact⟨va,vb,vc,vd,by rw[hO.out],by rw[hO.out];exact Zv5 hS7.out hgp hnp,hBe.out.grown hgp (by have:=SZ.out;have:=hsz7.out;omega) (fun k e=>by cases e;have:=SZ.out;omega)⟩
  ·rw[if_neg hL] at hO
   have hits:=hrow.its (show w.heap.size<=V.heap.size by have:=SZ.out;omega);obtain⟨q0,hq0⟩:∃ q0,l[0]? = some q0:=⟨_,Qh (by rw[hl.out,hm.out];omega)⟩
   obtain⟨hnd0,_⟩:=hq.out 0 q0 hq0;have hlvl:q0.nd.1=(rmV s a).1:=by rw[hnd0];rfl
   have hI64:=(Zvo hT.out.ok).lv;obtain⟨sg,rfl,hsc⟩:∃ sg,A=some ⟨sg,0,none⟩/\V.cell? ⟨sg,0,none⟩=some (.int .i64 (rmV s a).1):=by
    rcases hIo.2 with ⟨_,e⟩ | ⟨sg,cap,cur,e,_⟩
    ·have:=hl.out
     have:=hm.out;omega
    ·cases e
     refine⟨sg,rfl,?_⟩;have:=hIo.cells (g:=sg) rfl _ _ (Z1k hq0 0 _ rfl);rw[hlvl] at this
     simpa [Addr.add] using this
   obtain⟨ml,hml⟩:∃ ml,L.length=ml:=⟨_,rfl⟩
   have hm0:0<ml:=by rw[<- hml];exact Pb.2 hL
   have t0:((ml:Int)==0)=false:=by simp;omega
   have hmp:0<m:=by have:=hm.out;omega
   have hmp2:(0:Int)<(m:Int):=by omega
   have HL:=fun(W:Pw) (hW:P9 V.heap.size V W)=>Zlv pa pb pc pd t F fc ((rmV s a).1,L) held W (Zel (Zbq (K':=fun k=>k<l0\/w7.heap.size<=k) hSto (fun _ h=>h) hW)) ⟨_,rfl,hI64,Z5.old hits hW⟩
   obtain⟨lvv,hlvv⟩:∃ q,(rmV s a).1=q:=⟨_,rfl⟩
   rw[hlvv] at HL hO hsc;obtain⟨LD,hLD⟩:∃ LD,Zpo t (lvv,L) held=LD:=⟨_,rfl⟩
   rw[hLD] at hO HL
   dsimp only at HL
   rw[hml] at HL hB7 n0;obtain⟨er,S',z⟩:=LD;have hHL:=Za HL;have K2:=Za (fun W (hW:P9 V.heap.size V W)=>(Yb _ _ _ _ _ hB2 hW:Xu w.heap.size _ _ W));have K7:=Za (fun W (hW:P9 V.heap.size V W)=>(Yb _ _ _ _ _ hB7 hW:Xu w4.heap.size _ _ W));have K8:=Za (fun W (hW:P9 V.heap.size V W)=>(Yb _ _ _ _ _ hB8 hW:Xu w5.heap.size _ _ W));have KS:=Za (fun W (hW:P9 V.heap.size V W)=>(hW.cell (p:=⟨sg,0,none⟩) (Q7 _ ⟨sg,0,none⟩ hsc)).trans hsc);replace hO:=Za hO;replace hLD:=Za hLD;replace hml:=Za hml;replace hlvv:=Za hlvv;replace hL:=Za hL;clear HL hB2 hB4 hB5 hB6 hB7 hB8 hIb hIs hIo hSto hrow hDV hqV hst hst' hits hsc hq0 hnd0 hlvl hI64
   gi_wp2_with fail
   clear k0 k1 k2 k3 kf n0 nf y0 yf;refine wpIn_wide.2 ?_
   refine Z1 (by kernel_rfl) 13 (fun W=>P9 V.heap.size V W) (fun i=>match i with
    | 9=>some (PhK (fun k=>V.heap.size<=k) z er S')
    | 10=>some (Z60 (fun k=>V.heap.size<=k) S')
    | _=>none) (fun i=>match i with
    | 11=>some (.int .i64 z)
    | 12=>some (.int .i64 er)
    | _=>none) ?h1 ?h2 ?h3 (Qa _ _).drew (fun w w' h hb=>h.trans (hb.mono h.size)) ?tst ?_
   case h1=>decide
   case h2=>kernel_rfl
   case h3=>kernel_rfl
   case tst =>
    intro j φ v W W' hp hx hb
    match j,hp with
    | 9,hp=>cases hp;obtain⟨va,vb,vc,vd,e,h⟩:=hx;exact⟨va,vb,vc,vd,e,Zbq h (fun _ h=>h) hb⟩
    | 10,hp=>cases hp;obtain⟨va,vb,vc,vd,e,h⟩:=hx;exact⟨va,vb,vc,vd,e,Zbq h (fun _ h=>h) hb⟩
   simp only[Qk,Ql,Qm,Qn]
   repeat (first
    | (refine wpAs_skip rfl ?_;simp only[Qb,Zb,Zc,Zd])
    | (refine wpAs_pure (v := ?_) rfl rfl ?_ ?_;rotate_left;(intro W hC hE;clear hE;(obtain⟨k0,k1,k2,k3,_⟩:=Ze (K2.out W hC);obtain⟨n0,_⟩:=Ye (K7.out W hC);obtain⟨y0,_⟩:=Ye (K8.out W hC);have cs:=KS.out W hC);clear hC;go_simp;first | done | with_reducible rfl);simp only[Qb,Zb,Zc,Zd]))
   refine wpAs_act rfl rfl ?_ ?_
   ·intro W hC hE
    clear hE;refine does_enter (f:=51) (args:=#[.agg #[.slice pa.1 pa.2.1 pa.2.2,.slice pb.1 pb.2.1 pb.2.2,.slice pc.1 pc.2.1 pc.2.2,.slice pd.1 pd.2.1 pd.2.2],.agg #[.int .i64 lvv,.slice F ml fc],.int .i64 held]) ?_ ?_
    ·go_simp
    ·refine(hHL.out W hC).mono ?_
     rintro e W' ⟨va,vb,vc,vd,rfl,h1,hb⟩;exact⟨_,rfl,⟨va,vb,vc,vd,rfl,Zbq h1 (fun k h=>Qf hC.size h) (Qa _ _)⟩,hb⟩
   simp only[Qb,Zb,Zc,Zd,envAdd];intro x9;refine wpAs_act rfl rfl ?_ ?_
   ·intro W hC hE
    obtain⟨va,vb,vc,vd,rfl,h1⟩:=hE.1 rfl;have hI':=Za h1;clear hE hC h1
    go_simp
    exact⟨⟨va,vb,vc,vd,rfl,hI'.out⟩,Qa _ _⟩
   simp only[Qb,Zb,Zc,Zd,envAdd];intro x10;refine wpAs_fixed rfl rfl rfl ?_ ?_
   ·intro W hC hE
    obtain⟨va,vb,vc,vd,rfl,h1⟩:=hE.2.1 rfl;clear hE hC h1
    go_simp
    exact⟨rfl,Qa _ _⟩
   simp only[Qb,Zb,Zc,Zd];refine wpAs_fixed rfl rfl rfl ?_ ?_
   ·intro W hC hE
    obtain⟨va,vb,vc,vd,rfl,h1⟩:=hE.2.1 rfl;clear hE hC h1
    go_simp
    exact⟨rfl,Qa _ _⟩
   simp only[Qb,Zb,Zc,Zd];refine wpAs_end fun W hC hE=> ?_
   obtain⟨⟨va,vb,vc,vd,rfl,hS4⟩,_⟩:=hE;have hb4:=hC;have c4:=(Yb _ _ _ _ _ HB4.out hb4:Xu w1.heap.size _ _ W)
   obtain⟨W5,hW5,g5,gr5,gs5⟩:=Zo (a':=.slice va.1 va.2.1 va.2.2) (b':=.slice vb.1 vb.2.1 vb.2.2) (c':=.slice vc.1 vc.2.1 vc.2.2) (d':=.slice vd.1 vd.2.1 vd.2.2) c4;have c5:Xu w2.heap.size _ 3 W5:=(gr5.block _ (by have:=SZ.out;have:=HIs.out;have:=hb4.size;omega) (fun e=>by have:=Option.some.inj e;have:=SZ.out;omega)).trans (Yb _ _ _ _ _ HB5.out hb4:Xu w2.heap.size _ _ W);obtain⟨W6,hW6,g6,gr6,gs6⟩:=Zca (u:=.int .i64 z) c5;have c6:Xu w3.heap.size _ 33 W6:=(gr6.block _ (by have:=SZ.out;have:=HIs.out;have:=hb4.size;omega) (fun e=>by have:=Option.some.inj e;have:=SZ.out;omega)).trans ((gr5.block _ (by have:=SZ.out;have:=HIs.out;have:=hb4.size;omega) (fun e=>by have:=Option.some.inj e;have:=SZ.out;omega)).trans (Yb _ _ _ _ _ HB6.out hb4:Xu w3.heap.size _ _ W));obtain⟨W7,hW7,g7,gr7,gs7⟩:=Zca (u:=.int .i64 er) c6;obtain⟨m0,m1,m2,m3,mf,_⟩:=Ze c4;obtain⟨p0,pf,_⟩:=Ye c5;obtain⟨r0,rf,_⟩:=Ye c6;clear hC;have z4:=Za ((gr7.block _ (by have:=SZ.out;have:=HIs.out;have:=hb4.size;omega) (fun e=>by have:=Option.some.inj e;have:=SZ.out;omega)).trans ((gr6.block _ (by have:=SZ.out;have:=HIs.out;have:=hb4.size;omega) (fun e=>by have:=Option.some.inj e;have:=SZ.out;omega)).trans g5):Xu w1.heap.size _ 29 W7);have z5:=Za ((gr7.block _ (by have:=SZ.out;have:=HIs.out;have:=hb4.size;omega) (fun e=>by have:=Option.some.inj e;have:=SZ.out;omega)).trans g6:Xu w2.heap.size _ 3 W7);have z6:=Za (g7:Xu w3.heap.size _ 33 W7);have keep:∀ k,k<W.heap.size->k≠w1.heap.size->k≠w2.heap.size->k≠w3.heap.size->W7.heap[k]? = W.heap[k]? := fun k h1 h2 h3 h4=>(gr7.block k (by omega) (fun e=>h4 (Option.some.inj e))).trans ((gr6.block k (by omega) (fun e=>h3 (Option.some.inj e))).trans (gr5.block k h1 (fun e=>h2 (Option.some.inj e))))
   have hDe:Hid (W7.heap[w7.heap.size]? = some (.deferred (some []))):=Za ((keep _ (by have:=(Qc.1 hD1.out).1;have:=hb4.size;omega) (by have:=SZ.out;omega) (by have:=SZ.out;omega) (by have:=SZ.out;omega)).trans ((hb4.block _ (Qc.1 hD1.out).1).trans hD1.out))
   have hS7:Hid (Sto (Kn (fun k=>k<l0\/w.heap.size<=k) W7) W7 (.agg #[.slice va.1 va.2.1 va.2.2,.slice vb.1 vb.2.1 vb.2.2,.slice vc.1 vc.2.1 vc.2.2,.slice vd.1 vd.2.1 vd.2.2]) S'):=Za (hS4.map fun p v hp hc=>by
    have h1:V.heap.size<=p.block:=hp.1;have h2:p.block<W.heap.size:=hp.2;have h3:=HIs.out;have h4:=keep p.block h2 (by have:=SZ.out;omega) (by have:=SZ.out;omega) (by have:=SZ.out;omega)
    exact⟨⟨.inr (by have:=SZ.out;omega),by omega⟩,(Qd h4).trans hc⟩)
   have hBe:Hid (P9 lo w W7):=Za ((((HIb.out.trans (hb4.mono (by have:=HIs.out;have:=SZ.out;omega))).grown gr5 (by have:=HIs.out;have:=SZ.out;have:=hb4.size;omega) (fun k e=>by cases e;have:=SZ.out;omega)).grown gr6 (by have:=HIs.out;have:=SZ.out;have:=hb4.size;omega) (fun k e=>by cases e;have:=SZ.out;omega)).grown gr7 (by have:=HIs.out;have:=SZ.out;have:=hb4.size;omega) (fun k e=>by cases e;have:=SZ.out;omega));have hsz7:=Za (show w7.heap.size<=W7.heap.size by have:=HIs.out;have:=hb4.size;omega);clear keep g5 gr5 gs5 g6 gr6 gs6 g7 gr7 gs7 c4 c5 c6 hS4 hb4
   go_wp2_with fail
   gi_wp2_with fail
   refine⟨by simp,.inl ⟨_,_,rfl,run_takeDeferred hDe.out,?_⟩⟩;have hgp:=grownBy_putObj' W7 w7.heap.size (.deferred none);have hnp:∀ r,some w7.heap.size=some r->∃ o:Obj,W7.heap[r]? = some o/\o.isCells=false:=fun r e=>by cases e;exact⟨_,hDe.out,rfl⟩
   obtain⟨m0,m1,m2,m3,_⟩:=Ze (Z8 z4.out hgp hnp);obtain⟨n0,_⟩:=Ye (Z8 z5.out hgp hnp);obtain⟨y0,_⟩:=Ye (Z8 z6.out hgp hnp);refine⟨.tuple #[.agg #[.slice va.1 va.2.1 va.2.2,.slice vb.1 vb.2.1 vb.2.2,.slice vc.1 vc.2.1 vc.2.2,.slice vd.1 vd.2.1 vd.2.2],.int .i64 z,.int .i64 er],by simp[results,Tryz.f26,go_sem,m0,m1,m2,m3,n0,y0],?_⟩;rw[<- hQQ.out];exact⟨va,vb,vc,vd,by rw[hO.out],by rw[hO.out];exact Zv5 hS7.out hgp hnp,hBe.out.grown hgp (by have:=SZ.out;have:=hsz7.out;omega) (fun k e=>by cases e;have:=SZ.out;omega)⟩
 case stop =>
  rintro c pre' q' V hVs ⟨rfl,_,⟨hIb,hIs⟩,er,hB4,hB5,hB6,hgA,he0⟩ hDV hqV;have hD1:=Za hDV;have z4:=Za hB4;have z5:=Za hB5;have z6:=Za hB6;have hb:=Za hIb;have hO:Hid (g=(er,Zn,0)):=Za (by rw[<- hg.out];unfold Z38;rw[hgA,if_neg he0]);clear hB4 hB5 hB6 hgA he0 hDV hqV hIb
  gi_wp2_with fail
  refine⟨by simp,.inl ⟨_,_,rfl,run_takeDeferred hD1.out,?_⟩⟩;have hgp:=grownBy_putObj' V w7.heap.size (.deferred none);have hnp:∀ r,some w7.heap.size=some r->∃ o:Obj,V.heap[r]? = some o/\o.isCells=false:=fun r e=>by cases e;exact⟨_,hD1.out,rfl⟩
  obtain⟨m0,m1,m2,m3,_⟩:=Ze (Z8 z4.out hgp hnp);obtain⟨n0,_⟩:=Ye (Z8 z5.out hgp hnp);obtain⟨y0,_⟩:=Ye (Z8 z6.out hgp hnp);refine⟨.tuple #[.agg #[.slice none 0 0,.slice none 0 0,.slice none 0 0,.slice none 0 0],.int .i64 0,.int .i64 er],by simp[results,Tryz.f26,go_sem,m0,m1,m2,m3,n0,y0],?_⟩;rw[<- hQQ.out];exact⟨(none,0,0),(none,0,0),(none,0,0),(none,0,0),by rw[hO.out],by rw[hO.out];exact Zu _ _,hb.out.grown hgp (by have:=SZ.out;omega) (fun k e=>by cases e;have:=SZ.out;omega)⟩}
theorem Zi8 (v:Px) (n:Nd) (key:Ky) (w:Pw) (h:Nod (Old w) w v n) :
  P7 Tryz.prog 39 #[v,kyV key] w fun e w'=>e=.returned (.tuple #[.int .i64 (Yi n key:Nat),.bool (Y8 n key)])/\P9 w.heap.size w w':=Zew v n key w h
theorem Zoa (v:Px) (s:Rm) (a:Int) (key:Ky) (w:Pw) (h:Sto (Old w) w v s) :
  P7 Tryz.prog 20 #[v,.int .i64 a,kyV key] w fun e w'=>∃ u,e=.returned (.tuple #[u,.int .i64 (fdE s a key)])/\Itm (New w.heap.size w') w' u (fdV s a key)/\P9 w.heap.size w w':=by{
 obtain⟨A,ca,B,cb,N,cn,L,cl,rfl,_⟩:=id h.open;have hCk:=Za (fun v W hW=>Zmf v s a W hW);have hct:=Za (fun hh=>Zzz (s:=s) (a:=a) hh);have hta:=Za (fun ht=>Zig (s:=s) (a:=a) ht);have htl:=Za (fun ht=>Zby (s:=s) (a:=a) ht);have hfb:=Za (fun hh=>Z1f (s:=s) (a:=a) (k:=key) hh);have hfs:=Za (fun x hh hx=>Zyj (s:=s) (a:=a) (k:=key) (x:=x) hh hx);have hfn:=Za (fun hh hx=>Zuo (s:=s) (a:=a) (k:=key) hh hx);obtain⟨T,hT⟩:∃ T,Zu2 s a key=T:=⟨_,rfl⟩
 have hT':Hid (Zes s (rmV s a).1.toNat a key=T):=Za hT;rw[hT] at hfs hfn;obtain⟨E0,hE0⟩:∃ q,ckE s a=q:=⟨_,rfl⟩
 obtain⟨H0,hH0⟩:∃ q,ckH s a=q:=⟨_,rfl⟩
 rw[hE0] at hCk hct hfb hfs hfn;rw[hH0] at hCk hct;obtain⟨E1,hE1⟩:∃ q,fdE s a key=q:=⟨_,rfl⟩
 obtain⟨V1,hV1⟩:∃ q,fdV s a key=q:=⟨_,rfl⟩
 rw[hE1,hV1] at hfb hfs hfn ⊢;have HG0:Bag w [Zbu (.agg #[.slice A s.1.1.length ca,.slice B s.1.2.length cb,.slice N s.2.1.length cn,.slice L s.2.2.length cl]) s]:=(Bag.nil w).add (F:=Zbu _ s) h (Yj _ _);obtain⟨w0,hw0,hg0,hB0,_,hs0⟩:=Xd HG0 (Qa _ _) (.slice A s.1.1.length ca) (.slice B s.1.2.length cb) (.slice N s.2.1.length cn) (.slice L s.2.2.length cl) 29;obtain⟨w1,hw1,hg1,hB1,_,hs1⟩:=V9 hg0 (Qa _ _) (.int .u8 (key.1.toNat:Int)) (.int .u32 key.2.1) (.int .u32 key.2.2);obtain⟨w2,hw2,_,_,_,_,_,hs2,hB2,G2⟩:=Z6 w1 (.int .u8 0) (.int .u32 0) (.int .u32 0) (.int .i64 0) (.slice none 0 0) 54;have HG:=Za ((hg1.below hB2).add (F:=Xu w1.heap.size _ _) G2 (Yb _ _ _));have BB:=Za ((hB0.trans (hB1.mono hB0.size)).trans (hB2.mono (hB0.trans (hB1.mono hB0.size)).size));have lo1:Hid (w.heap.size<=w1.heap.size/\w1.heap.size<w2.heap.size):=Za ⟨(hB0.trans (hB1.mono hB0.size)).size,by omega⟩;obtain⟨s0,s1,s2,s3,_⟩:=HG.out.at 2 rfl;replace hs2:=Za hs2;replace hs1:=Za hs1;replace hs0:=Za hs0;replace hE0:=Za hE0;replace hH0:=Za hH0;replace hE1:=Za hE1;replace hV1:=Za hV1;replace hT:=Za hT;clear HG0 hg1 hg0 h hB2 hB1 hB0 G2;unfold kyV
 go_enter Tryz.func20,Tryz.ntmps20
 go_wp2_with fail
 go_step3
 go_upto_region 1 with fail
 clear hw0 hw1 hw2
 go_wp2_with fail
 with_reducible refine(hCk.out _ _ (HG.out.at 3 rfl)).mono ?_
 rintro e w3 ⟨rfl,hb3⟩;have HR:=Za (HG.out.below hb3);have BR:=Za (BB.out.trans (hb3.mono BB.out.size));have lo3:Hid (w1.heap.size<w3.heap.size/\w.heap.size<=w3.heap.size):=Za ⟨by have:=lo1.out;have:=hb3.size;omega,BR.out.size⟩;clear hb3 s0 s1 s2 s3 hCk HG;by_cases he:E0=0
 case neg =>
  have hq1:(E0 != 0)=true:=by simpa using he
  have hf:=Za (hfb.out he);have G5:w3.heap[w1.heap.size]? = _:=HR.out.at 0 rfl;obtain⟨W9,hW9,g9,gr9,gs9⟩:=Y5 (u0:=.int .u8 0) (u1:=.int .u32 0) (u2:=.int .u32 0) (u3:=.int .i64 0) (u4:=.slice none 0 0) G5;obtain⟨n0,n1,n2,n3,n4,_⟩:=Zl g9;obtain⟨f0,f1,f2,f3,f4,f5,_⟩:=Zl G5;have hB9:=Za (BR.out.grown gr9 BR.out.size (fun q e=>by cases e;exact lo1.out.1));replace G5:=Za G5;replace g9:=Za g9;clear gr9 gs9 he
  go_wp2_with fail
  rw[Exit.noGoto_ret];refine P3 (v:=.tuple #[.agg #[.int .u8 0,.int .u32 0,.int .u32 0,.int .i64 0,.slice none 0 0],.int .i64 E0]) (by simp[results,Tryz.results20,go_sem,n0,n1,n2,n3,n4]) rfl ?_;rw[hf.out.1,hf.out.2];exact⟨_,rfl,Ug _ _,hB9.out⟩
 obtain⟨ht,_,hh⟩:=hct.out he;have hat:=Za (hta.out ht);obtain⟨_,_,_,l0,l6,_⟩:=htl.out ht;have hfs':=Za (fun x hx=>hfs.out x he hx);have hfn':=Za (fun hx=>hfn.out he hx);subst he;obtain⟨M,hM⟩:∃ M,(rmV s a).1.toNat=M:=⟨_,rfl⟩
 rw[hM] at hat hT';have hHM:Hid (H0=(M:Int)+1):=Za (by omega);have hM6:Hid (M<6):=Za (by omega);replace hM:=Za hM;clear ht hh l0 l6 hct hta htl hfs hfn hfb
 go_wp2_with fail
 go_step3
 go_wp2_with fail
 go_loopw [27,10] (fun vi va wr=>∃ (i l:Nat) (b:Int),i+l=M/\vi=.int .i64 (i:Int)/\va=.int .i64 b/\AtT s l b/\Zes s l b key=T/\P9 w3.heap.size w3 wr) (fun vi _ _=>7-(intOf vi).toNat)
 case atStart=>exact⟨0,M,a,by omega,rfl,rfl,hat.out,hT'.out,Qa _ _⟩
 case round =>
  obtain⟨i,l,b,hil,rfl,rfl,hab,hone,hbr⟩:=hrel;have HQ:=Za (HR.out.below hbr);have BQ:=Za hbr;have hi5:i<=5:=by have:=hM6.out;omega
  have i0:(i:Int)<H0:=by have:=hHM.out;have:=hM6.out;omega
  have hNd:=Za (fun v W hW=>Zfu v s b W hW);have hok:=hab.ok;have hmn:=Za hab.may;have hlv:=Za hab.lvl;have hdn:=Za (fun(j:Nat) (hj:l=j+1) (x:It) (hx:x∈(rmV s b).2)=>(by subst hj;exact hab.down hx:AtT s j x.2.1));have hz:=Za (fun(h0:l=0)=>(by subst h0;exact hone.symm.trans (Zhg s b key):T=(rmV s b).2.reverse.find? fun x=>decide (x.1=key)));have hsu:=Za (fun(j:Nat) (hj:l=j+1)=>(by subst hj;exact hone.symm.trans (Zhu s j b key):T=((rmV s b).2.reverse.find? fun x => !Zq key x.1).bind fun x=>Zes s j x.2.1 key));obtain⟨nd,hnd⟩:∃ q,rmV s b=q:=⟨_,rfl⟩
  rw[hok,hnd] at hNd;rw[hnd] at hmn hlv hdn hz hsu;have hPl:=Za (fun v W hW=>Zi8 v nd key W hW);obtain⟨p,hp⟩:∃ p,Yi nd key=p:=⟨_,rfl⟩
  obtain⟨t,htt⟩:∃ t,Y8 nd key=t:=⟨_,rfl⟩
  rw[hp,htt] at hPl;obtain⟨lw,hlw⟩:∃ q,nd.1=q:=⟨_,rfl⟩
  obtain⟨ll,hl⟩:∃ q,nd.2=q:=⟨_,rfl⟩
  obtain⟨m,hlm⟩:∃ q,ll.length=q:=⟨_,rfl⟩
  rw[hlw,hl,hlm] at hNd;rw[hl] at hdn hz hsu;rw[hlw] at hlv;replace hnd:=Za hnd;replace hlw:=Za hlw;replace hl:=Za hl;replace hlm:=Za hlm;replace hp:=Za hp;replace htt:=Za htt;replace hone:=Za hone;replace hil:=Za hil;have hm5:m<=5:=by
   have:=(Zs hmn.out).1.2.2.1;rw[hl.out,hlm.out] at this;exact this
  clear hok hab hbr;obtain⟨s0,s1,s2,s3,_⟩:=HQ.out.at 2 rfl
  go_wp2_with fail
  with_reducible refine(hNd.out _ _ (HQ.out.at 3 rfl)).mono ?_
  rintro e w4 ⟨Z,zc,rfl,-,h4n,hb4⟩;have h4s:Y6 (New wr.heap.size w4) w4 [.slice Z m zc] ll:=by
   obtain⟨_,e,_,h⟩:=h4n;cases e;rw[hl.out] at h;exact h
  obtain⟨w5,hw5,hg5,hB5,-,hs5⟩:=Xa (((HQ.out.below hb4).add (F:=Zuk _ nd) h4n.drop (Vh _ _)).add (F:=Z23 wr.heap.size _ ll) h4s (Zin _ _ _)) (Qa _ _) (.int .i64 lw) (.slice Z m zc);have H5:=Za hg5;have B5:=Za (BQ.out.trans ((hb4.trans (hB5.mono hb4.size)).mono BQ.out.size));replace hs5:=Za hs5;clear s0 s1 s2 s3 hg5 hB5 hb4 h4n h4s hNd
  go_upto_region 8 with fail
  clear hw5;obtain⟨y0,y1,_⟩:=H5.out.at 0 rfl;obtain⟨t0,t1,t2,_⟩:=H5.out.at 4 rfl
  go_upto_region 10 with fail
  go_wp2_with fail
  with_reducible refine(hPl.out _ _ (H5.out.at 2 rfl)).mono ?_
  rintro e w6 ⟨rfl,hb6⟩;have H6:=Za (H5.out.below hb6);have B6:=Za (B5.out.trans (hb6.mono B5.out.size));clear hb6 y0 y1 t0 t1 t2 hPl H5 B5;obtain⟨y0,y1,_⟩:=H6.out.at 0 rfl;cases t with
  | true =>
   have hpm:p<m:=by
    have:=Zc2 htt.out;rw[hp.out,hl.out,hlm.out] at this;exact this
   obtain⟨x,hx⟩:∃ x,ll[p]? = some x:=⟨_,Qh (by rw[hlm.out];exact hpm)⟩
   obtain⟨hxk,hf1,hf2⟩:=Ut hmn.out htt.out (x:=x) (by rw[hp.out,hl.out];exact hx);rw[hl.out] at hf1 hf2;obtain⟨ad,E5,ce5,rfl,-,FX⟩:=Zlc (H6.out.at 1 rfl:Y6 (New wr.heap.size w6) w6 [.slice Z m zc] ll) hx;obtain⟨⟨z0,z1,z2,z3,z4⟩,hit⟩:=FX w6 (Qa _ _);have i4:(0:Int)<=(p:Int):=by omega
   have i5:(p:Int)<(m:Int):=by omega
   have hxm:=Za (Qp hx);replace hx:=Za hx;replace hxk:=Za hxk;cases l with
   | zero =>
    have e0:lw=0:=hlv.out;have hf:=Za (hfs'.out x ((hz.out rfl).trans hf2));replace e0:=Za e0;have c0:(lw==0)=true:=by rw[e0.out];rfl
    have G5:w6.heap[w1.heap.size]? = _:=H6.out.at 3 rfl;obtain⟨f0,f1,f2,f3,f4,f5,_⟩:=Zl G5;obtain⟨W9,hW9,g9,gr9,gs9⟩:=Y5 (u0:=.int .u8 (x.1.1.toNat:Int)) (u1:=.int .u32 x.1.2.1) (u2:=.int .u32 x.1.2.2) (u3:=.int .i64 x.2.1) (u4:=.slice E5 x.2.2.length ce5) G5;obtain⟨n0,n1,n2,n3,n4,_⟩:=Zl g9;have hfin:=Za (show Itm (New w.heap.size W9) W9 (itV x (.slice E5 x.2.2.length ce5)) x from (hit.grown gr9 (fun q e=>by cases e;have:=lo3.out;have:=BQ.out.size;omega)).new (by have:=lo3.out;have:=BQ.out.size;omega) (Qa _ _));have B9:=BR.out.trans (B6.out.mono BR.out.size);have hB9:=Za (B9.grown gr9 B9.size (fun q e=>by cases e;exact lo1.out.1));replace G5:=Za G5;replace g9:=Za g9;clear gr9 gs9 hit FX hf1 hf2 B9
    go_wp2_with fail
    rw[Exit.noGoto_ret];refine P3 (v:=.tuple #[itV x (.slice E5 x.2.2.length ce5),.int .i64 0]) (by simp[results,Tryz.results20,go_sem,n0,n1,n2,n3,n4]) rfl ?_;rw[hf.out.1,hf.out.2];exact⟨_,rfl,hfin.out,hB9.out⟩
   | succ l1 =>
    have c0:(lw==0)=false:=by have:=hlv.out;simp;omega
    have hn1:=Za (hdn.out l1 rfl x hxm.out);have hn2:Hid (Zes s l1 x.2.1 key=T):=Za (by rw[hsu.out l1 rfl,hf1];rfl);clear FX hf1 hf2 hit
    go_wp2_with fail
    go_roundw
    case rel=>exact⟨i+1,l1,x.2.1,by have:=hil.out;omega,by go_num,rfl,hn1.out,hn2.out,B6.out⟩
    case measure=>have:=hil.out;simp[intOf];omega
  | false =>
   by_cases hp0:0<p
   ·have i6:(0:Int)<(p:Int):=by omega
    cases l with
    | zero =>
     have e0:lw=0:=hlv.out;have c0:¬ (0:Int)<lw:=by omega
     have hf:=Za (hfn'.out ((hz.out rfl).trans (by
      have:=Zfz hmn.out htt.out;rw[hl.out] at this
      exact this)))
     replace e0:=Za e0;have G5:w6.heap[w1.heap.size]? = _:=H6.out.at 3 rfl;obtain⟨f0,f1,f2,f3,f4,f5,_⟩:=Zl G5;obtain⟨W9,hW9,g9,gr9,gs9⟩:=Y5 (u0:=.int .u8 0) (u1:=.int .u32 0) (u2:=.int .u32 0) (u3:=.int .i64 0) (u4:=.slice none 0 0) G5;obtain⟨n0,n1,n2,n3,n4,_⟩:=Zl g9;have B9:=BR.out.trans (B6.out.mono BR.out.size);have hB9:=Za (B9.grown gr9 B9.size (fun q e=>by cases e;exact lo1.out.1));replace G5:=Za G5;replace g9:=Za g9;clear gr9 gs9 B9
     go_wp2_with fail
     rw[Exit.noGoto_ret];refine P3 (v:=.tuple #[.agg #[.int .u8 0,.int .u32 0,.int .u32 0,.int .i64 0,.slice none 0 0],.int .i64 6]) (by simp[results,Tryz.results20,go_sem,n0,n1,n2,n3,n4]) rfl ?_;rw[hf.out.1,hf.out.2];exact⟨_,rfl,Ug _ _,hB9.out⟩
    | succ l1 =>
     have c0:(0:Int)<lw:=by have:=hlv.out;omega
     obtain⟨j,hj⟩:∃ j,p=j+1:=⟨p-1,by omega⟩
     have hpm:p<=m:=by
      have:=Zcs nd key;rw[hp.out,hl.out,hlm.out] at this;exact this
     obtain⟨x,hx⟩:∃ x,ll[j]? = some x:=⟨_,Qh (by rw[hlm.out];omega)⟩
     have hf1:=Zh2 hmn.out (x:=x) htt.out (by rw[hp.out,hj]) (by rw[hl.out];exact hx);rw[hl.out] at hf1;obtain⟨ad,E5,ce5,rfl,-,FX⟩:=Zlc (H6.out.at 1 rfl:Y6 (New wr.heap.size w6) w6 [.slice Z m zc] ll) hx;obtain⟨⟨z0,z1,z2,z3,z4⟩,hit⟩:=FX w6 (Qa _ _);have i4:(0:Int)<=(j:Int):=by omega
     have i5:(j:Int)<(m:Int):=by omega
     have i7:(p:Int)-1=(j:Int):=by omega
     have i8:IntKind.i64.wrap (j:Int)=(j:Int):=IntWalk.i64_in _ (by omega);have hxm:=Za (Qp hx);have hn1:=Za (hdn.out l1 rfl x hxm.out);have hn2:Hid (Zes s l1 x.2.1 key=T):=Za (by rw[hsu.out l1 rfl,hf1];rfl);replace hx:=Za hx;replace hj:=Za hj;clear FX hf1 hit
     go_wp2_with fail
     go_roundw
     case rel=>exact⟨i+1,l1,x.2.1,by have:=hil.out;omega,by go_num,rfl,hn1.out,hn2.out,B6.out⟩
     case measure=>have:=hil.out;simp[intOf];omega
   ·have i6:¬ (0:Int)<(p:Int):=by omega
    have hf:=Za (hfn'.out (by
     cases l with
     | zero =>
      refine(hz.out rfl).trans ?_;have:=Zfz hmn.out htt.out;rw[hl.out] at this;exact this
     | succ l1 =>
      have h1:=Zjy hmn.out htt.out (by rw[hp.out];omega);rw[hl.out] at h1;rw[hsu.out l1 rfl,h1]
      rfl))
    have G5:w6.heap[w1.heap.size]? = _:=H6.out.at 3 rfl;obtain⟨f0,f1,f2,f3,f4,f5,_⟩:=Zl G5;obtain⟨W9,hW9,g9,gr9,gs9⟩:=Y5 (u0:=.int .u8 0) (u1:=.int .u32 0) (u2:=.int .u32 0) (u3:=.int .i64 0) (u4:=.slice none 0 0) G5;obtain⟨n0,n1,n2,n3,n4,_⟩:=Zl g9;have B9:=BR.out.trans (B6.out.mono BR.out.size);have hB9:=Za (B9.grown gr9 B9.size (fun q e=>by cases e;exact lo1.out.1));replace G5:=Za G5;replace g9:=Za g9;clear gr9 gs9 B9
    go_wp2_with fail
    rw[Exit.noGoto_ret];refine P3 (v:=.tuple #[.agg #[.int .u8 0,.int .u32 0,.int .u32 0,.int .i64 0,.slice none 0 0],.int .i64 6]) (by simp[results,Tryz.results20,go_sem,n0,n1,n2,n3,n4]) rfl ?_;rw[hf.out.1,hf.out.2];exact⟨_,rfl,Ug _ _,hB9.out⟩}
theorem Zkv (v:Px) (s:Rm) (a:Int) (key:Ky) (w:Pw) (h:Sto (Old w) w v s) :
  P7 Tryz.prog 20 #[v,.int .i64 a,kyV key] w fun e w'=>∃ P pc,e=.returned (.tuple #[itV (fdV s a key) (.slice P (fdV s a key).2.2.length pc),.int .i64 (fdE s a key)])/\Itm (New w.heap.size w') w' (itV (fdV s a key) (.slice P (fdV s a key).2.2.length pc)) (fdV s a key)/\P9 w.heap.size w w':=by
 refine(Zoa v s a key w h).mono ?_;rintro e w' ⟨u,rfl,hu,hb⟩;obtain⟨P,pc,rfl,_⟩:=id hu.open;exact⟨P,pc,rfl,hu,hb⟩
def Z6a (s:Rm) (a:Int) (k:Ky) (w:Pw) (e:P8) (w':Pw):Prop:=∃ qa qb qc qd:Option Py×Nat×Nat,e=.returned (.tuple #[.agg #[.slice qa.1 qa.2.1 qa.2.2,.slice qb.1 qb.2.1 qb.2.2,.slice qc.1 qc.2.1 qc.2.2,.slice qd.1 qd.2.1 qd.2.2],.int .i64 (Zja s a k).2.2,.int .i64 (Zja s a k).1]) /\
 Sto (New w.heap.size w') w' (.agg #[.slice qa.1 qa.2.1 qa.2.2,.slice qb.1 qb.2.1 qb.2.2,.slice qc.1 qc.2.1 qc.2.2,.slice qd.1 qd.2.1 qd.2.2]) (Zja s a k).2.1/\P9 w.heap.size w w'
theorem Ztk (qa qb qc qd:Option Py×Nat×Nat) (s:Rm) (a:Int) (k:Ky) (w:Pw) (h:Sto (Old w) w (.agg #[.slice qa.1 qa.2.1 qa.2.2,.slice qb.1 qb.2.1 qb.2.2,.slice qc.1 qc.2.1 qc.2.2,.slice qd.1 qd.2.1 qd.2.2]) s) :
  P7 Tryz.prog 11 #[.agg #[.slice qa.1 qa.2.1 qa.2.2,.slice qb.1 qb.2.1 qb.2.2,.slice qc.1 qc.2.1 qc.2.2,.slice qd.1 qd.2.1 qd.2.2],.int .i64 a,kyV k] w (Z6a s a k w):=by{
 obtain⟨w1,hw1,b1,hs1,hB1⟩:=Vm w (.slice qa.1 qa.2.1 qa.2.2) (.slice qb.1 qb.2.1 qb.2.2) (.slice qc.1 qc.2.1 qc.2.2) (.slice qd.1 qd.2.1 qd.2.2) 29;obtain⟨w2,hw2,-,-,-,hs2,hB2,b2⟩:=Xf w1 (.int .u8 (k.1.toNat:Int)) (.int .u32 k.2.1) (.int .u32 k.2.2) 37;obtain⟨w3,hw3,b3,hs3,hB3⟩:=Vm w2 (.slice none 0 0) (.slice none 0 0) (.slice none 0 0) (.slice none 0 0) 29;have hB12:=hB1.trans (hB2.mono hB1.size);have hB13:=hB12.trans (hB3.mono hB12.size);have B3:=Za hB13;have SZ:=Za (show w1.heap.size=w.heap.size+1/\w2.heap.size=w.heap.size+2/\w3.heap.size=w.heap.size+3 from by omega);have G1:=Za ((hB3.block w.heap.size (by omega)).trans ((hB2.block w.heap.size (by omega)).trans b1));have G2:=Za ((hB3.block w1.heap.size (by omega)).trans b2);have hS0:=Za h;have HS:=Za (fun W (hW:P9 w3.heap.size w3 W)=>h.below (hB13.trans (hW.mono hB13.size)));have KC:=Za (fun W (hW:P9 w3.heap.size w3 W)=>And.intro ((hW.block w.heap.size (by omega)).trans G1.out) (And.intro ((hW.block w1.heap.size (by omega)).trans G2.out) ((hW.block w2.heap.size (by omega)).trans b3)));obtain⟨D,hD⟩:∃ D,Zja s a k=D:=⟨_,rfl⟩
 have hzero:Hid (∀ (er:Int) (W:Pw) (v0 v1 v2 v3:Px),W.heap[w2.heap.size]? = some (.cells #[v0,v1,v2,v3] 29 (0,0))->P9 w.heap.size w W->D=(er,Zn,0) ->
   ∃ W9,(((W.setCell ⟨w2.heap.size,0,none⟩ (.slice none 0 0)).setCell ⟨w2.heap.size,1,none⟩ (.slice none 0 0)).setCell ⟨w2.heap.size,2,none⟩ (.slice none 0 0)).setCell ⟨w2.heap.size,3,none⟩ (.slice none 0 0)=W9 /\
   W9.cell? ⟨w2.heap.size,0,none⟩=some (.slice none 0 0)/\W9.cell? ⟨w2.heap.size,1,none⟩=some (.slice none 0 0)/\W9.cell? ⟨w2.heap.size,2,none⟩=some (.slice none 0 0)/\W9.cell? ⟨w2.heap.size,3,none⟩=some (.slice none 0 0) /\
   Z6a s a k w (.returned (.tuple #[.agg #[.slice none 0 0,.slice none 0 0,.slice none 0 0,.slice none 0 0],.int .i64 0,.int .i64 er])) W9):=Za fun er W v0 v1 v2 v3 bW hW he=>by
  obtain⟨W9,e9,g9,gr9,_⟩:=Zo (a':=.slice none 0 0) (b':=.slice none 0 0) (c':=.slice none 0 0) (d':=.slice none 0 0) bW;obtain⟨k0,k1,k2,k3,_⟩:=Ze g9;exact⟨W9,e9,k0,k1,k2,k3,(none,0,0),(none,0,0),(none,0,0),(none,0,0),by rw[hD,he],by rw[hD,he];exact Zu _ _,hW.grown gr9 hW.size (fun q e=>by cases e;omega)⟩
 have hC3:=KC.out w3 (Qa _ _);obtain⟨k0,k1,k2,k3,_⟩:=Ze hC3.1;obtain⟨n0,n1,n2,_⟩:=Zj hC3.2.1;replace hs1:=Za hs1;replace hs2:=Za hs2;replace hs3:=Za hs3;have hFd:=Za (Zkv (.agg #[.slice qa.1 qa.2.1 qa.2.2,.slice qb.1 qb.2.1 qb.2.2,.slice qc.1 qc.2.1 qc.2.2,.slice qd.1 qd.2.1 qd.2.2]) s a k w3 (HS.out w3 (Qa _ _)))
 have hfd:Hid ((fdE s a k≠0->D=(fdE s a k,Zn,0))/\(fdE s a k=0->Vb s a=true/\asE s a=0/\D=Zje s a k/\∃ x,Zes s (rmV s a).1.toNat a k=some x)):=Za (by
  rw[<- hD];by_cases hc:ckE s a=0
  ·cases hx:Zu2 s a k with
   | none =>
    have h6:=(Zuo hc hx).1;refine⟨fun _=> ?_,fun h=>by rw[h6] at h;cases h⟩;rw[h6];unfold Zja;rw[if_neg (fun h=>h hc),hx];rfl
   | some x =>
    have h6:=(Zyj hc hx).1;obtain⟨h1,h2,h3⟩:=Zzz hc;exact⟨fun h=>absurd h6 h,fun _=>⟨h1,h2,Zu1 hc hx,x,hx⟩⟩
  ·have h6:=(Z1f (k:=k) hc).1
   refine⟨fun _=> ?_,fun h=>absurd (h6.symm.trans h) hc⟩;rw[h6];unfold Zja
   rw[if_pos hc])
 obtain⟨fe,hfe⟩:∃ q,fdE s a k=q:=⟨_,rfl⟩
 obtain⟨fv,hfv⟩:∃ q,fdV s a k=q:=⟨_,rfl⟩
 rw[hfe,hfv] at hFd;rw[hfe] at hfd;replace hfe:=Za hfe;replace hfv:=Za hfv;replace hD:=Za hD;clear h hB1 hB2 hB3 hB12 hB13 b1 b2 b3 hC3;have hFd':=hFd.out;unfold kyV itV at hFd';replace hFd':=Za hFd';unfold kyV
 go_enter Tryz.func11,Tryz.ntmps11
 go_upto_region 1 with fail
 clear hw1 hw2 hw3
 go_wp2_with fail
 with_reducible refine hFd'.out.mono ?_
 rintro e w4 ⟨P,pc,rfl,-,hb4⟩;clear k0 k1 k2 k3 n0 n1 n2 hFd hFd';obtain⟨w5,hw5,-,-,-,-,-,hs5,hB5,b5⟩:=Z6 w4 (.int .u8 (fv.1.1.toNat:Int)) (.int .u32 fv.1.2.1) (.int .u32 fv.1.2.2) (.int .i64 fv.2.1) (.slice P fv.2.2.length pc) 54;have B5:=Za (hb4.trans (hB5.mono hb4.size));replace hs5:=Za hs5;clear hb4 hB5 b5;obtain⟨c5a,c5b,c5c⟩:=KC.out w5 B5.out;obtain⟨k0,k1,k2,k3,_⟩:=Ze c5a;obtain⟨n0,n1,n2,_⟩:=Zj c5b;obtain⟨u0,u1,u2,u3,uf,_⟩:=Ze c5c
 go_upto_region 2 with fail
 clear hw5;by_cases hk:fe=0
 case neg =>
  have t0:(fe != 0)=true:=by simpa using hk
  obtain⟨W9,e9,y0,y1,y2,y3,hfin⟩:=hzero.out fe w5 _ _ _ _ c5c (B3.out.trans (B5.out.mono B3.out.size)) (hfd.out.1 hk);replace hfin:=Za hfin
  go_wp2_with fail
  exact P3 (v:=.tuple #[.agg #[.slice none 0 0,.slice none 0 0,.slice none 0 0,.slice none 0 0],.int .i64 0,.int .i64 fe]) (by simp[results,Tryz.results11,go_sem,y0,y1,y2,y3]) rfl hfin.out
 subst hk;obtain⟨htr,has,hDo,x,hx⟩:=hfd.out.2 rfl;obtain⟨-,-,-,l0,l6,-⟩:=Zby htr;have hT:=Za (Zig htr);have hO:=Za (Z48 (k:=k) htr);obtain⟨lv,hlv⟩:∃ lv,(rmV s a).1.toNat=lv:=⟨_,rfl⟩
 rw[hlv] at hT hx hO;have lv6:lv<6:=by omega
 have hway:=Zso qa qb qc qd s a lv lv6 k x hx w5 (HS.out w5 B5.out) hT.out;unfold kyV at hway;have hway':=Za hway;replace hlv:=Za hlv;replace hx:=Za hx;replace hDo:=Za hDo;clear hway l0 l6 htr has c5a c5b;have C5:=Za c5c;clear c5c
 go_upto_region 4 with fail
 go_wp2_with fail
 with_reducible refine hway'.out.mono ?_
 rintro e w6 ⟨A,c,l,rfl,hll,hW,hb6⟩;clear k0 k1 k2 k3 n0 n1 n2 u0 u1 u2 u3 uf hway';have B6:=Za (B5.out.trans (hb6.mono B5.out.size));obtain⟨m,hm⟩:∃ q,l.length=q:=⟨_,rfl⟩
 have hW':=Za hW;have hB56:=Za hb6;rw[hm];have hml:m=lv+1:=by omega
 have hshr:=Za (Zlf w.heap.size w5.heap.size (by have:=B3.out.size;have:=B5.out.size;omega) qa qb qc qd s k a lv lv6 hT.out x hx.out A m c l w6 hb6.size
  (hS0.out.map fun p v hp hc=>⟨hp,((B3.out.trans (B6.out.mono B3.out.size)).cell hp).trans hc⟩) (by have:=hW.row;rw[hm] at this;exact this) hm hml hW.rows hW.off hW.are)
 replace hm:=Za hm;replace hml:=Za hml;clear hW hb6 hll;obtain⟨c6a,c6b,c6c⟩:=KC.out w6 B6.out;obtain⟨k0,k1,k2,k3,_⟩:=Ze c6a;have C6:=Za c6c;clear c6a c6b c6c;obtain⟨⟨ge,gs,gn⟩,hG⟩:∃ G,Z38 s a lv k=G:=⟨_,rfl⟩
 unfold Z6l at hshr;rw[hG] at hshr hO
 dsimp only at hshr
 replace hG:=Za hG
 go_upto_region 7 with fail
 go_wp2_with fail
 with_reducible refine hshr.out.mono ?_
 rintro e w7 ⟨pa,pb,pc',pd,rfl,hS7,hb7⟩;clear k0 k1 k2 k3 hshr;have hlt:w3.heap.size<=w5.heap.size:=B5.out.size;have hlt6:w5.heap.size<=w6.heap.size:=hB56.out.size;have hc7:=(hb7.block w2.heap.size (by have:=SZ.out;omega)).trans C6.out;have hBw6:P9 w.heap.size w w6:=B3.out.trans (B6.out.mono B3.out.size);have hBw7:P9 w.heap.size w w7:=hBw6.trans (hb7.mono (by have:=SZ.out;omega));have hnK:Hid (¬ (fun k=>k<w.heap.size\/w3.heap.size<=k) w2.heap.size):=Za (fun h=>by have:=SZ.out;rcases h with h | h <;> omega);obtain⟨u0,u1,u2,u3,uf,_⟩:=Ze hc7;obtain⟨w8,e8,y0,y1,y2,y3,yf,g8,B8,sz8,S8,-⟩:=V8 (K:=fun k=>k<w.heap.size\/w3.heap.size<=k) (w:=w) (er:=0) (nn:=0) (by have:=SZ.out;omega) hnK.out hc7 hBw7 (Zbq hS7 (fun k h=>h.imp id (fun h=>by omega)) (Qa _ _));have hlt7:w3.heap.size<=w8.heap.size:=by rw[sz8.out];have:=hb7.size;omega
 clear hS7 hb7 hc7 hBw6 hBw7
 go_upto_region 8 with fail
 clear u0 u1 u2 u3 uf e8;by_cases hge:ge=0
 case neg =>
  have t0:(ge != 0)=true:=by simpa using hge
  obtain⟨W9,e9,y0,y1,y2,y3,hfin⟩:=hzero.out ge w8 _ _ _ _ g8.out B8.out.1 (by rw[hDo.out];exact hO.out.bad hge);replace hfin:=Za hfin
  go_wp2_with fail
  exact P3 (v:=.tuple #[.agg #[.slice none 0 0,.slice none 0 0,.slice none 0 0,.slice none 0 0],.int .i64 0,.int .i64 ge]) (by simp[results,Tryz.results11,go_sem,y0,y1,y2,y3]) rfl hfin.out
 subst hge;obtain⟨l',hlow,hO1,hO2⟩:=hO.out.good rfl
 dsimp only at hlow hO1 hO2
 have hlw:=Za (Zmq (fun k=>k<w.heap.size\/w3.heap.size<=k) pa pb pc' pd s gs l' gn hlow w8 (fun k h=>.inr (by omega)) S8.out);obtain⟨⟨le,ls,ln⟩,hLo⟩:∃ G,Yc l' gs gn=G:=⟨_,rfl⟩
 unfold Zyp at hlw;rw[hLo] at hlw hO1 hO2
 dsimp only at hlw hO1 hO2
 replace hLo:=Za hLo;replace hO1:=Za hO1;replace hO2:=Za hO2;clear hlow
 go_upto_region 10 with fail
 go_wp2_with fail
 with_reducible refine hlw.out.mono ?_
 rintro e w9 ⟨ra,rb,rc,rd,rfl,hS9,hb9⟩;have hlt8:=(Qc.1 g8.out).1;have hc9:=(hb9.block w2.heap.size hlt8).trans g8.out;obtain⟨u0,u1,u2,u3,uf,_⟩:=Ze hc9;obtain⟨w10,e10,x0,x1,x2,x3,xf,g10,B10,sz10,S10,-⟩:=V8 (K:=fun k=>k<w.heap.size\/w3.heap.size<=k) (w:=w) (er:=0) (nn:=0) (by have:=SZ.out;omega) hnK.out hc9 (B8.out.1.trans (hb9.mono B8.out.1.size)) hS9;clear hS9 hb9 hc9 hlw y0 y1 y2 y3 yf
 go_upto_region 11 with fail
 clear u0 u1 u2 u3 uf e10;by_cases hle:le=0
 case neg =>
  have t0:(le != 0)=true:=by simpa using hle
  obtain⟨W9,e9,y0,y1,y2,y3,hfin⟩:=hzero.out le w10 _ _ _ _ g10.out B10.out.1 (by rw[hDo.out];exact hO1.out hle);replace hfin:=Za hfin
  go_wp2_with fail
  exact P3 (v:=.tuple #[.agg #[.slice none 0 0,.slice none 0 0,.slice none 0 0,.slice none 0 0],.int .i64 0,.int .i64 le]) (by simp[results,Tryz.results11,go_sem,y0,y1,y2,y3]) rfl hfin.out
 subst hle;have hlv2:=Za (Zim _ ls a w10 (Zel S10.out));have hO3:=Za (hO2.out rfl);obtain⟨ve,hve⟩:∃ q,lvE ls a=q:=⟨_,rfl⟩
 obtain⟨vv,hvv⟩:∃ q,lvV ls a=q:=⟨_,rfl⟩
 rw[hve,hvv] at hlv2 hO3;replace hve:=Za hve;replace hvv:=Za hvv
 go_upto_region 13 with fail
 go_wp2_with fail
 with_reducible refine hlv2.out.mono ?_
 rintro e w11 ⟨va,vb,vc,vd,rfl,hS11,hb11⟩;have hlt10:=Za (Qc.1 g10.out).1;have hc11:=(hb11.block w2.heap.size hlt10.out).trans g10.out;obtain⟨u0,u1,u2,u3,uf,_⟩:=Ze hc11;obtain⟨w12,e12,g12,gr12,gs12⟩:=Zo (a':=.slice va.1 va.2.1 va.2.2) (b':=.slice vb.1 vb.2.1 vb.2.2) (c':=.slice vc.1 vc.2.1 vc.2.2) (d':=.slice vd.1 vd.2.1 vd.2.2) hc11;have B12:=Za ((B10.out.1.trans (hb11.mono B10.out.1.size)).grown gr12 (B10.out.1.trans (hb11.mono B10.out.1.size)).size (fun q e=>by cases e;have:=SZ.out;omega));have S12:=Za (hS11.grown gr12 (fun q e=>by cases e;exact hlt10.out));have G12:=Za g12;obtain⟨y0,y1,y2,y3,yf,_⟩:=Ze g12;clear hS11 hb11 hc11 hlv2 x0 x1 x2 x3 xf g12 gr12 gs12
 go_upto_region 14 with fail
 clear u0 u1 u2 u3 uf e12;by_cases hve0:ve=0
 case neg =>
  clear y0 y1 y2 y3;obtain⟨u0,u1,u2,u3,_⟩:=Ze G12.out;have t0:(ve != 0)=true:=by simpa using hve0
  obtain⟨W9,e9,y0,y1,y2,y3,hfin⟩:=hzero.out ve w12 _ _ _ _ G12.out B12.out (by rw[hDo.out];exact hO3.out.1 hve0);replace hfin:=Za hfin
  go_wp2_with fail
  exact P3 (v:=.tuple #[.agg #[.slice none 0 0,.slice none 0 0,.slice none 0 0,.slice none 0 0],.int .i64 0,.int .i64 ve]) (by simp[results,Tryz.results11,go_sem,y0,y1,y2,y3]) rfl hfin.out
 subst hve0;obtain⟨W9,hW9,g13,gr13,gs13⟩:=Zo (a':=.slice va.1 va.2.1 va.2.2) (b':=.slice vb.1 vb.2.1 vb.2.2) (c':=.slice vc.1 vc.2.1 vc.2.2) (d':=.slice vd.1 vd.2.1 vd.2.2) G12.out;obtain⟨z0,z1,z2,z3,_,_⟩:=Ze g13
 have hfin:Hid (Z6a s a k w (.returned (.tuple #[.agg #[.slice va.1 va.2.1 va.2.2,.slice vb.1 vb.2.1 vb.2.2,.slice vc.1 vc.2.1 vc.2.2,.slice vd.1 vd.2.1 vd.2.2],.int .i64 ln,.int .i64 0])) W9):=Za (by
  have hp:Zja s a k=(0,vv,ln):=by rw[hD.out,hDo.out];exact hO3.out.2 rfl
  exact⟨va,vb,vc,vd,by rw[hp],by rw[hp];exact(S12.out.grown gr13 (fun q e=>by cases e;exact hlt10.out)).new B10.out.1.size (Qa _ _),B12.out.grown gr13 B12.out.size (fun q e=>by cases e;have:=SZ.out;omega)⟩)
 replace g13:=Za g13;clear gr13 gs13
 go_wp2_with fail
 exact P3 (v:=.tuple #[.agg #[.slice va.1 va.2.1 va.2.2,.slice vb.1 vb.2.1 vb.2.2,.slice vc.1 vc.2.1 vc.2.2,.slice vd.1 vd.2.1 vd.2.2],.int .i64 ln,.int .i64 0]) (by simp[results,Tryz.results11,go_sem,z0,z1,z2,z3]) rfl hfin.out}
end Go.Proofs.YtgmbjnajdfgenaaGreat
