/-
  Lemmas on the program and on the document's answers, gathered: DeWay, DeBack, DePlain, DeSt, DeLay, DeRow, DeRep, DeJoin, DeShI, DeLow, DeOut, DeShrink, DeLower, FnLaws, DeDel, DeAlive, WkMarker, PuEnough, DeEnough, PuHeld. Conditions: those that each lemma states.
-/
import Derived.Test.YtgmbjnajdfgenaaGreatBnd5
import Derived.WalkMore
set_option maxRecDepth 100000
set_option maxHeartbeats 16000000
open Array renaming getElem?_eq_some_iff → Qd, replicate_succ → Pn, replicate_zero → Po, getElem?_replicate → P7
open Go renaming World → P8, Value → P9, Addr → Qaa, TypeId → Qab, bodyPost_ret → Qac, heap_alloc_new → Qad, undef → Qae, Calls → Qaf, Ending → Qag
open Go.Act renaming put → Qb
open Go.Builtin renaming append_ → Qz, clear_ → Pw
open Go.RowKit renaming Below → Qah
open Go.RowKit.Below renaming refl → Qa
open Go.World renaming cell?_of_block → Qe, block_lt_of_cell? → Q8, ownsRow_nil → Pi, cell? → Py, setCell → P5
open List renaming mem_append → Qg, getElem?_eq_getElem → Qi, mem_of_getElem? → Qj, mem_singleton → Qk, length_append → Ql, getElem?_eq_some_iff → Qm, length_take → Qn, mem_of_mem_take → Qo, take_zero → Qp, take_succ_cons → Qq, drop_succ_cons → Qr, drop_zero → Qs, getElem?_set_ne → Qt, take_add_one → Qu, length_drop → Qv, mem_of_mem_drop → Qw, map_append → Qx, getElem?_take_of_lt → Qy, length_cons → Q0, length_nil → Q3, take_take → Q5, length_map → Q6, getElem?_of_mem → Q7, size_toArray → Q9, getElem?_set_self → Pc, length_set → Pd, take_of_length_le → Pe, getElem?_append_left → Pg, getElem?_append_right → Ph, not_mem_nil → Pj, push_toArray → Pp, append_toArray → Pq, nil_append → Pr, cons_append → Ps, mem_append_left → Pt, mem_append_right → Pu, exists_mem_of_ne_nil → Pv, drop_of_length_le → Px, map_take → P1, map_drop → P3, length_pos_iff → P4
open Nat renaming le_refl → Qc, le_trans → Qf, lt_of_lt_of_le → Qh, sub_self → Q4, zero_add → Pa, min_eq_left → Pb, eq_zero_or_pos → Pf, reduceAdd → Pk, reduceSub → Pm, lt_succ_self → Pz
noncomputable section
namespace Go.Proofs.YtgmbjnajdfgenaaGreat
open Go.RowKit
theorem Zmf {s:Rm}{k:Ky}:∀ {l:Nat}{a:Int}{x:It},AtT s l a->Zcl s l a k=some x->(Yl (rmV s a) k=true\/1<=Z2 (rmV s a) k)/\(l=0->Yl (rmV s a) k=true)/\∀ j,l=j+1->Zcl s j (Zci (rmV s a) k) k=some x
 | 0,a,x,hA,h=>by
  cases ht:Yl (rmV s a) k with
  | true=>exact⟨.inl rfl,fun _=>rfl,fun j hj=>by cases hj⟩
  | false =>
   rw[Zi0,Zgl hA.may ht] at h;cases h
 | l+1,a,x,hA,h=>by
  rw[Zjx] at h;have key:∀ y:It,(rmV s a).2[Xk (rmV s a) k]? = some y->((rmV s a).2.reverse.find? fun x => !Zo k x.1)=some y->∀ j,l+1=j+1->Zcl s j (Zci (rmV s a) k) k=some x:=fun y hy hf j hj=>by
   obtain rfl:l=j:=by omega
   rw[hf] at h;rw[Zoq hy];exact h
  cases ht:Yl (rmV s a) k with
  | true =>
   obtain⟨y,hy⟩:∃ y,(rmV s a).2[Z2 (rmV s a) k]? = some y:=⟨_,Qi (Zbi ht)⟩
   refine⟨.inl rfl,fun h=>(by cases h),key y ?_ (Ut hA.may ht hy).2.1⟩;unfold Xk;rw[if_pos ht];exact hy
  | false =>
   rcases Pf (Z2 (rmV s a) k) with h0 | h0
   ·rw[Zk6 hA.may ht h0] at h
    cases h
   ·obtain⟨p,hp⟩:∃ p,Z2 (rmV s a) k=p+1:=⟨Z2 (rmV s a) k-1,by omega⟩
    have hle:=Zcb (rmV s a) k;obtain⟨y,hy⟩:∃ y,(rmV s a).2[p]? = some y:=⟨_,Qi (by omega)⟩
    refine⟨.inr h0,fun h=>(by cases h),key y ?_ (Zjb hA.may ht hp hy)⟩;unfold Xk;rw[if_neg (by rw[ht];decide),hp];exact hy
theorem Zlr {s:Rm}{k:Ky}{a:Int}{lv:Nat}{x:It}(hA:AtT s lv a) (h:Zcl s lv a k=some x):∀ j,j<=lv->Zcl s (lv-j) (atW s k a j) k=some x
 | 0,_=>h
 | j+1,hj=>by
  have ih:=Zlr hA h j (by omega);exact(Zmf (Zak hA j (by omega)) ih).2.2 (lv-(j+1)) (by omega)
theorem Yam {n:Nd}{k:Ky}(h:mayN n=true) (ht:Yl n k=true):Zd2 k n.2=Zbb n.2 (Xk n k) 1 []:=by{
 have hw:Xk n k=Z2 n k:=if_pos ht;obtain⟨y,hy⟩:∃ y,n.2[Xk n k]? = some y:=⟨_,Qi (by rw[hw];exact Zbi ht)⟩
 have hyk:=(Ut h ht (by rw[<- hw];exact hy)).1;have hne:∀ i z,n.2[i]? = some z->i≠Z2 n k->z.1≠k:=fun i z hz hi e=>by
  have:=(Zir h hz).1;rw[e] at this;exact hi this.symm
 conv=>lhs;rw[Zhl hy]
 rw[Zeq];have e1:Zd2 k (n.2.take (Xk n k))=n.2.take (Xk n k):=Zds fun z hz=>by
  obtain⟨i,hi⟩:=Q7 hz;have hil:=(Qm.1 hi).1;rw[Qn] at hil;rw[Qy (by omega)] at hi;exact hne i z hi (by omega)
 have e2:Zd2 k (n.2.drop (Xk n k+1))=n.2.drop (Xk n k+1):=Zds fun z hz=>by
  obtain⟨i,hi⟩:=Q7 hz;rw[List.getElem?_drop] at hi;exact hne _ z hi (by omega)
 have e3:Zd2 k (y::n.2.drop (Xk n k+1))=Zd2 k (n.2.drop (Xk n k+1)):=by
  unfold Zd2;rw[List.filter_cons,if_neg (by simpa using hyk)]
 rw[e1,e3,e2];rfl}
def dvV (q:Sv):List P9:=[.int .i64 q.nd.1,.slice q.A q.nd.2.length q.c,.int .i64 (q.pl:Int)]
def dvs (l:List Sv):List P9:=l.flatMap dvV
def Yb1:P9->Nat | .slice _ n _=>n | _=>0
theorem Zq9:(Tryz.prog.info? 102).map (fun i=>(i.zero,i.size,i.bytes))=some (some (.agg #[.int .i64 0,.slice none 0 0,.int .i64 0]),3,40):=by kernel_rfl
theorem Z6h (a b:List Sv):dvs (a++b)=dvs a++dvs b:=by simp[dvs]
structure Z54 (lo:Nat) (s:Rm) (k:Ky) (a:Int) (W:P8) (A:Option Qaa) (c:Nat) (l:List Sv):Prop where
 row:W.ownsRow lo 102 3 (.slice A l.length c) l.length (dvs l)
 rows:Rows lo W.heap.size W l
 off:∀ g q,A.map (·.block)=some g->q∈l->g<q.lo\/q.hi<=g
 are:∀ i q,l[i]? = some q->q.nd=rmV s (atW s k a i)/\q.pl=Xk q.nd k
theorem Zq1 {w:P8}{lo:Nat}{A:Option Qaa}{c:Nat}{l:List Sv}(h:w.ownsRow lo 102 3 (.slice A l.length c) l.length (dvs l)) (q:Sv) (g m n:Nat) (hg:w.heap[g]? = some (.cells #[.int .i64 q.nd.1,.slice q.A q.nd.2.length q.c,.int .i64 (q.pl:Int)] 102 (0,0))) (hn:l.length=n) (hs:n<100) (hbase:lo<=w.heap.size) :
  ∃ A' c' w',(Qz #[64,64] 64 #[.slice A n c,.slice (some ⟨g,0,none⟩) 1 m]).run Tryz.prog w=.ok (.slice A' (n+1) c') w'/\w'.ownsRow lo 102 3 (.slice A' (l++[q]).length c') (l++[q]).length (dvs (l++[q]))/\w.grownBy w' (A.map (·.block))/\Qah lo w w'/\(A'.map (·.block)=A.map (·.block)\/A'.map (·.block)=some w.heap.size):=by{
 subst hn;obtain⟨i0,hi,hz0,hz1,hz2⟩:=info_parts Zq9;obtain⟨A1,c1,e,_,_,e4,_⟩:=Yj h;cases e
 obtain⟨v',w',hr,o1,g1,b1,k1⟩:=Zdo (P:=Tryz.prog) (w:=w) lo 64 64 102 i0 (.agg #[.int .i64 0,.slice none 0 0,.int .i64 0]) 3 40 Tryz.underlying64 hi hz0 hz1 hz2 rfl (by decide) _ _ _ h ⟨g,0,none⟩ 1 m (dvV q) rfl (World.news_of_block (cs:=#[.int .i64 q.nd.1,.slice q.A q.nd.2.length q.c,.int .i64 (q.pl:Int)]) hg) (fun u hu=>by
  simp[dvV] at hu
  rcases hu with rfl | rfl | rfl <;> rfl) (by unfold maxLen;omega) (by omega) hbase
 obtain⟨A2,c2,rfl,_,_,e5,_⟩:=Yj o1;rw[e4] at g1 k1;rw[e5] at k1;refine⟨A2,c2,w',hr,?_,g1,b1,k1⟩;rw[Z6h,Ql]
 simpa [dvs] using o1}
theorem Z54.push {lo:Nat}{s:Rm}{k:Ky}{a:Int}{wr W1 w6 w7:P8}{A A':Option Qaa}{c c':Nat}{l:List Sv}(h:Z54 lo s k a wr A c l) (q:Sv) (hlo:q.lo=wr.heap.size) (hhi:q.hi=W1.heap.size) (hrow:Yh rIt 5 54 wr.heap.size W1 q.A q.c q.nd.2)
  (hb1:Qah wr.heap.size wr W1) (h16:Qah W1.heap.size W1 w6) (g67:w6.grownBy w7 (A.map (·.block))) (row:w7.ownsRow lo 102 3 (.slice A' (l++[q]).length c') (l++[q]).length (dvs (l++[q]))) (k1:A'.map (·.block)=A.map (·.block)\/A'.map (·.block)=some w6.heap.size)
  (hnd:q.nd=rmV s (atW s k a l.length)) (hst:q.pl=Xk q.nd k) (hl:lo<=wr.heap.size):Z54 lo s k a w7 A' c' (l++[q]):=by{
 have hA:∀ g,A.map (·.block)=some g->g<wr.heap.size:=fun g e=>(h.row.lt g (by rw[<- e];cases A <;> rfl)).2
 have s1:=hb1.size;have s6:=h16.size;have s7:=g67.size;have Zaf:∀ x∈l,∀ k,x.lo<=k->k<x.hi->w7.heap[k]? = wr.heap[k]? := fun x hx k h1 h2=>by
  obtain⟨_,_,h3,_⟩:=h.rows.ok x hx;rw[g67.block k (by omega) (fun e=>by rcases h.off _ x e.symm hx with h4 | h4 <;> omega),h16.block k (by omega),hb1.block k (by omega)]
 refine⟨row,⟨fun x hx=> ?_,?_⟩,fun g x e hx=> ?_,fun i x e=> ?_⟩
 ·rcases Qg.1 hx with hx | hx
  ·obtain⟨h1,h2,h3,h4⟩:=h.rows.ok x hx
   exact⟨h1,h2,by omega,h4.same (Zaf x hx)⟩
  ·obtain rfl:=Qk.1 hx
   refine⟨by omega,by omega,by omega,W1,hhi.symm,by rw[hlo];exact hrow,fun k h1 h2=> ?_⟩;rw[g67.block k (by omega) (fun e=>by have:=hA _ e.symm;omega),h16.block k (by omega)]
 ·rw[List.pairwise_append]
  refine⟨h.rows.apart,List.pairwise_singleton _ _,fun x hx y hy=> ?_⟩;obtain rfl:=Qk.1 hy;have:=(h.rows.ok x hx).2.2.1;omega
 ·have hg:A.map (·.block)=some g\/g=w6.heap.size:=by
   rcases k1 with k1 | k1
   ·exact .inl (by rw[<- k1,e])
   ·rw[e] at k1
    exact .inr (by simpa using k1)
  rcases Qg.1 hx with hx | hx
  ·rcases hg with hg | hg
   ·exact h.off g x hg hx
   ·have:=(h.rows.ok x hx).2.2.1
    omega
  ·obtain rfl:=Qk.1 hx
   rcases hg with hg | hg
   ·have:=hA g hg
    omega
   ·omega
 ·rcases Nat.lt_or_ge i l.length with hi | hi
  ·rw[Pg hi] at e
   exact h.are i x e
  ·rw[Ph hi] at e
   have hi0:i=l.length:=by
    have:=(Qm.1 e).1;simp at this;omega
   subst hi0;simp at e;subst e;exact⟨hnd,hst⟩}
theorem Zu0 (qa qb qc qd:Option Qaa×Nat×Nat) (s:Rm) (a:Int) (lv:Nat) (hlv:lv<6) (k:Ky) (x:It) (hx:Zcl s lv a k=some x) (w:P8) (h:Sto (Old w) w (.agg #[.slice qa.1 qa.2.1 qa.2.2,.slice qb.1 qb.2.1 qb.2.2,.slice qc.1 qc.2.1 qc.2.2,.slice qd.1 qd.2.1 qd.2.2]) s) (hT:AtT s lv a) :
  Qaf Tryz.prog 25 #[.agg #[.slice qa.1 qa.2.1 qa.2.2,.slice qb.1 qb.2.1 qb.2.2,.slice qc.1 qc.2.1 qc.2.2,.slice qd.1 qd.2.1 qd.2.2],.int .i64 a,kyV k] w fun e w'=>∃ A c l,e=.returned (.tuple #[.slice A l.length c,.int .i64 0])/\l.length=lv+1/\Z54 w.heap.size s k a w' A c l/\Qah w.heap.size w w':=by{
 obtain⟨w1,hw1,b1,hs1,hB1⟩:=X4 w (.slice qa.1 qa.2.1 qa.2.2) (.slice qb.1 qb.2.1 qb.2.2) (.slice qc.1 qc.2.1 qc.2.2) (.slice qd.1 qd.2.1 qd.2.2) 29;obtain⟨w2,hw2,-,-,-,hs2,hB2,b2⟩:=Y9 w1 (.int .u8 (k.1.toNat:Int)) (.int .u32 k.2.1) (.int .u32 k.2.2) 37;have hB12:=hB1.trans (hB2.mono hB1.size);have G1:=Za ((hB2.block w.heap.size (by omega)).trans b1);have G2:=Za b2;have B2:=Za hB12;have SZ:=Za (show w1.heap.size=w.heap.size+1/\w2.heap.size=w.heap.size+2 from ⟨hs1,by omega⟩);have HS:=Za h;have hdn:=Za (fun j hj=>And.intro (Zak (k:=k) hT j hj) (Zmf (Zak (k:=k) hT j hj) (Zlr hT hx j hj)));replace hs1:=Za hs1;replace hs2:=Za hs2;replace hT:=Za hT;replace hx:=Za hx;clear h hB1 hB2 hB12 b1 b2;unfold kyV
 go_enter Tryz.func25,Tryz.ntmps25
 go_wp2_with fail
 clear hw1 hw2
 go_loopw [8,9] (fun sv av wr=>∃ (j:Nat) (A:Option Qaa) (c:Nat) (l:List Sv),j<=lv/\l.length=j/\sv=.slice A l.length c/\av=.int .i64 (atW s k a j)/\Z54 w2.heap.size s k a wr A c l/\Qah w2.heap.size w2 wr) (fun sv _ _=>lv+1-Yb1 sv)
 case atStart=>exact⟨0,none,0,[],by omega,rfl,rfl,rfl,⟨Pi ..,⟨fun _ h=>(Pj h).elim,List.Pairwise.nil⟩,fun _ _ e=>(nomatch e),fun _ _ e=>(nomatch e)⟩,Qa _ _⟩
 case round =>
  obtain⟨j,A,c,l,hj,hll,rfl,rfl,hW,hb⟩:=hrel;obtain⟨hA,hpl0,hth,_⟩:=hdn.out j hj;have hok:=hA.ok;have hlv:=hA.lvl;have hmay:=hA.may;have hBr:=Za (B2.out.trans (hb.mono B2.out.size));have hN:=Zb0 _ s (atW s k a j) wr (HS.out.below hBr.out);have hne:=(Zx hmay).1.2.2.2;have hfive:=Za (Zx hmay).1.2.2.1;obtain⟨nd,hnd⟩:∃ q,rmV s (atW s k a j)=q:=⟨_,rfl⟩
  have hnext:Hid (nd.1≠0->∃ y,nd.2[Xk nd k]? = some y/\y.2.1=atW s k a (j+1)):=Za (fun h0=>by
   rw[hnd] at hne;rw[hnd] at hlv;have hlt:=Zc4 k (hne (by omega));refine⟨_,Qi hlt,?_⟩;show _=Zci (rmV s (atW s k a j)) k
   rw[hnd,Zoq (Qi hlt)])
  rw[hok,hnd] at hN;rw[hnd] at hlv hfive hpl0;have hplw:Hid (Xk nd k=if Yl nd k=true then Z2 nd k else Z2 nd k-1):=Za rfl;have hple:=Zcb nd k;clear hmay hne hok hth;have hlv0:nd.1=0->j=lv:=fun h0=>by omega
  obtain⟨lw,hlw⟩:∃ q,nd.1=q:=⟨_,rfl⟩
  obtain⟨nl,hnl⟩:∃ q,nd.2.length=q:=⟨_,rfl⟩
  obtain⟨pn,hpn⟩:∃ q,Z2 nd k=q:=⟨_,rfl⟩
  obtain⟨tn,htn⟩:∃ q,Yl nd k=q:=⟨_,rfl⟩
  obtain⟨pl,hpl⟩:∃ q,Xk nd k=q:=⟨_,rfl⟩
  rw[hpn,htn] at hpl0;rw[hpn,htn,hpl] at hplw;rw[hpn,hnl] at hple;have g1:=Za ((hb.block w.heap.size (by have:=SZ.out;omega)).trans G1.out);have g2:=Za ((hb.block w1.heap.size (by have:=SZ.out;omega)).trans G2.out);obtain⟨k0,k1,k2,k3,_⟩:=Ze g1.out;have hW':=Za hW;have hb':=Za hb;have hnd':=Za hnd;replace hll:=Za hll;clear hA hW hb hnd
  go_upto_region 3 with fail
  go_wp2_with fail
  with_reducible refine hN.mono ?_
  rintro e W1 ⟨u,rfl,⟨Z,zc,rfl,hin,hrow⟩,hb1⟩;rw[hnl,hlw];clear hN k0 k1 k2 k3;obtain⟨w3,hw3,b3,hs3,hB3⟩:=Yc W1 (.int .i64 lw) (.slice Z nl zc) 81;have g23:=(hB3.block w1.heap.size (by have:=hb1.size;have:=hb'.out.size;have:=SZ.out;omega)).trans ((hb1.block w1.heap.size (by have:=hb'.out.size;have:=SZ.out;omega)).trans g2.out);obtain⟨y0,y1,_⟩:=Zg b3;obtain⟨z0,z1,z2,_⟩:=Zk g23;have hst:=Zcp _ nd k w3 ((Zj8.nod ⟨Z,zc,rfl,hin,hrow⟩).drop.below hB3);rw[hnl,hlw,hpn,htn] at hst;have B13:=Za hB3;have hrow1:=Za hrow;have B1:=Za hb1;have b3':=Za b3;clear hb1 hB3 hrow hin b3 g23;replace hs3:=Za hs3
  go_upto_region 6 with fail
  clear hw3;unfold kyV at hst
  go_wp2_with fail
  with_reducible refine hst.mono ?_
  rintro e w4 ⟨rfl,hb4⟩;clear hst y0 y1 z0 z1 z2;have b4:=(hb4.block W1.heap.size (by have:=hs3.out;omega)).trans b3'.out;obtain⟨y0,y1,_⟩:=Zg b4;obtain⟨w6,hw6,b6,hs6,hB6⟩:∃ w6,w4.alloc (.cells #[.int .i64 lw,.slice Z nl zc,.int .i64 (pl:Int)] 102)=w6/\w6.heap[w4.heap.size]? = some (.cells #[.int .i64 lw,.slice Z nl zc,.int .i64 (pl:Int)] 102 (0,0))/\w6.heap.size=w4.heap.size+1/\Qah w4.heap.size w4 w6:=⟨_,rfl,Qad _ _,by simp,(Qa _ _).alloc (Qc _) _⟩
  have B16:Hid (Qah W1.heap.size W1 w6):=Za (B13.out.trans ((hb4.trans (hB6.mono hb4.size)).mono B13.out.size));have B26:Hid (Qah w2.heap.size w2 w6):=Za (hb'.out.trans ((B1.out.mono hb'.out.size).trans (B16.out.mono (Qf hb'.out.size B1.out.size))));have row6:=Zw (Zw hW'.out.row B1.out) B16.out;obtain⟨A',c',w7,hr7,row7,gr7,hb7,k7⟩:=Zq1 row6 ⟨nd,pl,false,Z,zc,wr.heap.size,W1.heap.size⟩ w4.heap.size 1 j (by rw[hlw,hnl];exact b6) hll.out (by omega) B26.out.size;have hW7:=Za (Z54.push hW'.out ⟨nd,pl,false,Z,zc,wr.heap.size,W1.heap.size⟩ rfl rfl hrow1.out B1.out B16.out gr7 row7 k7 (by rw[hll.out];exact hnd'.out.symm) hpl.symm hb'.out.size);have hB27:=Za (B26.out.trans hb7);have hAlt:∀ g,A.map (·.block)=some g->g<wr.heap.size:=fun g e=>(hW'.out.row.lt g (by rw[<- e];cases A <;> rfl)).2
  have f3:=(gr7.block W1.heap.size (by have:=B16.out.size;have:=B13.out.size;have:=hs3.out;have:=hb4.size;have:=hB6.size;omega) (fun e=>by have:=hAlt _ e.symm;have:=B1.out.size;omega)).trans ((hB6.block W1.heap.size (by have:=hs3.out;have:=hb4.size;omega)).trans b4);have H7:=Za hr7;have hl7:Hid (j+1=(l++[(⟨nd,pl,false,Z,zc,wr.heap.size,W1.heap.size⟩:Sv)]).length):=Za (by rw[Ql,hll.out];rfl);have hlj:Hid (l.length=j):=hll;obtain⟨l',hl'⟩:∃ q,l++[(⟨nd,pl,false,Z,zc,wr.heap.size,W1.heap.size⟩:Sv)]=q:=⟨_,rfl⟩
  have hrow7:Hid (Yh rIt 5 54 wr.heap.size w7 Z zc nd.2):=Za (by
   obtain⟨_,_,h3,h4⟩:=hW7.out.rows.ok ⟨nd,pl,false,Z,zc,wr.heap.size,W1.heap.size⟩ (by simp)
   exact h4.use h3)
  rw[hl'] at hW7 hl7;replace hl':=Za hl';obtain⟨n0,n1,_⟩:=Zg f3;replace f3:=Za f3;replace hs6:=Za hs6;replace b6:=Za b6;clear hr7 gr7 hb7 row7 row6 k7 hB6 hAlt hW' hb4 b4;have hfin:Hid (lw=0->∃ A0 c0 l0,Ending.returned (.tuple #[.slice A' (j+1) c',.int .i64 0])=.returned (.tuple #[.slice A0 l0.length c0,.int .i64 0])/\l0.length=lv+1/\Z54 w.heap.size s k a w7 A0 c0 l0/\Qah w.heap.size w w7):=Za fun h0=>by
   have hjl:=hlv0 (by rw[hlw];exact h0)
   refine⟨A',c',l',by rw[hl7.out],by rw[<- hl7.out,hjl],⟨Zcx hW7.out.row (by have:=SZ.out;omega),⟨fun q hq=>by
    obtain⟨h1,h2,h3,h4⟩:=hW7.out.rows.ok q hq
    exact⟨by have:=SZ.out;omega,h2,h3,h4⟩,hW7.out.rows.apart⟩,hW7.out.off,hW7.out.are⟩,B2.out.trans (hB27.out.mono B2.out.size)⟩
  have ijl:Hid (lw≠0->j+1<=lv):=Za fun h0=>by
   have:(rmV s (atW s k a j)).1=nd.1:=by rw[hnd'.out]
   rw[hlw] at hlv;omega
  rw[hlj.out];have hplT:Hid (tn=true->pl=pn):=Za fun h=>by rw[hplw.out,if_pos h]
  have hplF:Hid (tn=false->pl=pn-1/\1<=pn):=Za fun h=>by
   rw[hplw.out,if_neg (by rw[h];decide)];exact⟨rfl,hpl0.resolve_left (by rw[h];decide)⟩
  have hn5:nl<=5:=by rw[<- hnl];exact hfive.out
  have hnextl:=hnext.out;rw[hlw,hpl] at hnextl;replace hnextl:=Za hnextl;replace hlw:=Za hlw;replace hnl:=Za hnl;replace hpn:=Za hpn;replace htn:=Za htn;replace hpl:=Za hpl;replace hplw:=Za hplw;clear hpl0 hlv hlv0;have hend:Hid (∀ j',j'=j->lw≠0->∃ (j:Nat) (A:Option Qaa) (c:Nat) (l:List Sv),j<=lv/\l.length=j/\Value.slice A' (j'+1) c'=.slice A l.length c/\Value.int .i64 (atW s k a (j'+1))=.int .i64 (atW s k a j)/\Z54 w2.heap.size s k a w7 A c l/\Qah w2.heap.size w2 w7):=Za fun j' e h0=>by
   subst e;exact⟨j'+1,A',c',l',ijl.out h0,hl7.out.symm,by rw[<- hl7.out],rfl,hW7.out,hB27.out⟩
  cases tn with
  | true =>
   obtain rfl:=hplT.out rfl;by_cases h0:lw=0
   ·subst h0
    have hf:=Za (hfin.out rfl)
    go_wp2_with (at_builtin;refine Zp rfl _ _ _ rfl rfl rfl H7.out ?_;clear H7)
    exact Qac (v:=.tuple #[.slice A' (j+1) c',.int .i64 0]) (by simp[results,Tryz.results25,go_sem]) rfl hf.out
   ·have t0:(lw==0)=false:=by simpa using h0
    obtain⟨y,hy,hyn⟩:=hnextl.out h0;obtain⟨ad,E,ce,e0,_,⟨_,_,_,t3,_⟩,_⟩:=Zao (hrow7.out.rel Z0) hy;have hpnl:pl<nl:=by rw[<- hnl.out];exact(Qm.1 hy).1
    subst e0;replace hy:=Za hy;rw[hyn] at t3;replace hyn:=Za hyn;have he:=Za (hend.out j rfl h0);obtain⟨nx,hnx⟩:∃ q,atW s k a (j+1)=q:=⟨_,rfl⟩
    rw[hnx] at t3 he;replace hnx:=Za hnx
    go_wp2_with (at_builtin;refine Zp rfl _ _ _ rfl rfl rfl H7.out ?_;clear H7)
    go_roundw
    case rel=>exact he.out
    case measure =>
     have h1:=hlj.out;simp[Yb1];omega
  | false =>
   obtain⟨e,h1⟩:=hplF.out rfl;have i8:IntKind.i64.wrap ((pn:Int)-1)=(pl:Int):=by rw[IntKind.wrap_i64];omega
   replace e:=Za e;replace h1:=Za h1;by_cases h0:lw=0
   ·subst h0
    have hf:=Za (hfin.out rfl)
    go_wp2_with (at_builtin;refine Zp rfl _ _ _ rfl rfl rfl H7.out ?_;clear H7)
    exact Qac (v:=.tuple #[.slice A' (j+1) c',.int .i64 0]) (by simp[results,Tryz.results25,go_sem]) rfl hf.out
   ·have t0:(lw==0)=false:=by simpa using h0
    obtain⟨y,hy,hyn⟩:=hnextl.out h0;obtain⟨ad,E,ce,e0,_,⟨_,_,_,t3,_⟩,_⟩:=Zao (hrow7.out.rel Z0) hy;have hpnl:pl<nl:=by rw[<- hnl.out];exact(Qm.1 hy).1
    subst e0;replace hy:=Za hy;rw[hyn] at t3;replace hyn:=Za hyn;have he:=Za (hend.out j rfl h0);obtain⟨nx,hnx⟩:∃ q,atW s k a (j+1)=q:=⟨_,rfl⟩
    rw[hnx] at t3 he;replace hnx:=Za hnx
    go_wp2_with (at_builtin;refine Zp rfl _ _ _ rfl rfl rfl H7.out ?_;clear H7)
    go_roundw
    case rel=>exact he.out
    case measure =>
     have h1:=hlj.out;simp[Yb1];omega}
end Go.Proofs.YtgmbjnajdfgenaaGreat
namespace Go.Proofs.YtgmbjnajdfgenaaGreat
open Go.RowKit Go.Shelf
attribute [local go_sem] Oper.semAt_some
abbrev Ybq (f:Nat->Sv) (x:Nat):Array P9:=#[.int .i64 (x:Int),.agg #[.int .i64 (f x).nd.1,.slice (f x).A (f x).nd.2.length (f x).c,.int .i64 ((f x).pl:Int)]]
structure At3 (w:P8) (p:Qaa) (q:Sv):Prop where
 c0:w.cell? p=some (.int .i64 q.nd.1)
 c1:w.cell? ⟨p.block,p.off+1,none⟩=some (.slice q.A q.nd.2.length q.c)
 c2:w.cell? ⟨p.block,p.off+2,none⟩=some (.int .i64 (q.pl:Int))
theorem At3.same {w w':P8}{p:Qaa}{q:Sv}(h:At3 w p q) (e:w'.heap[p.block]? = w.heap[p.block]?):At3 w' p q :=
 ⟨(Qe e).trans h.c0,(Qe (a:=⟨p.block,p.off+1,none⟩) e).trans h.c1,(Qe (a:=⟨p.block,p.off+2,none⟩) e).trans h.c2⟩
theorem Zu2 (Bs cap m:Nat) (A:Option Qaa) (ad:Qaa) (f:Nat->Sv) (w:P8) (hBs:w.cell? ⟨Bs,0,none⟩=some (.slice A m cap)) (hA:0<m->A=some ad/\ad.block<w.heap.size) (hm:m<=1000) (hc:∀ j,j<m->At3 w (ad.add (j*3)) (f j)) :
  Ybj Tryz.prog 83 #[.pointer (some ⟨Bs,0,none⟩)] (Ybq f) (fun _ pre x _ _=>pre=V7 m pre.length/\pre.length<m/\x=m-1-pre.length) (fun xs=>xs=V7 m m) (fun k=>k=Bs\/(0<m/\k=ad.block)) w:=by{
 intro l M J Jx o W hW hJ hJx hM hJs hZ hY h0;have hBl:Bs<w.heap.size:=Q8 _ _ hBs;have hzB:=Za (hZ Bs (.inl rfl));have hzA:=Za (fun h:0<m=>hZ ad.block (.inr ⟨h,rfl⟩));have hcW:=Za (fun j (hj:j<m)=>(hc j hj).same (hW.block _ (by rw[Zh];exact(hA (by omega)).2)));have hBW:=Za ((hW.cell (p:=⟨Bs,0,none⟩) hBl).trans hBs);have hlt:=Za (show Bs<W.heap.size/\(0<m->ad.block<W.heap.size) from ⟨Qh hBl hW.size,fun h=>Qh (hA h).2 hW.size⟩);have hAA:=Za (fun h=>(hA h).1);have b0:=hBW.out;replace hY:=Za hY;replace hM:=Za hM;replace hJs:=Za hJs;replace hZ:=Za hZ;clear hc hBs hA hW;refine callsIn_wide.1 (callsIn_of_wp (n:=5) Tryz.func83 rfl trivial ?_ rfl);simp only[Tryz.ntmps83,Q9,Q0,Q3,Pk,Pm,Pn,Po,Pp,Pq,Pr,Ps]
 gi_wp2
 clear b0
 gi_loopw [3] (fun i wr=>∃ (k:Nat) (q:Option Nat),k<=m/\i=.int .i64 ((m:Int)-1-k)/\J (V7 m k,q) wr/\Vq M o q W wr)
  (fun i _=>(intOf i+1).toNat)
 case atStart=>exact⟨0,o,Nat.zero_le _,by simp,h0,Vq.refl _ _ _⟩
 case round =>
  obtain⟨k,q,hk,rfl,hJr,hKr⟩:=hrel;have hbr:wr.cell? ⟨Bs,0,none⟩=some (.slice A m cap):=(hKr.cell (p:=⟨Bs,0,none⟩) hlt.out.1 hzB.out.1 hzB.out.2).trans hBW.out;by_cases hkm:k<m
  ·obtain rfl:=hAA.out (by omega)
   obtain⟨g1,g2,g3⟩:=(hcW.out (m-1-k) (by omega)).same (w':=wr) (by rw[Zh];exact(hKr.same ad.block (hlt.out.2 (by omega)) (hzA.out (by omega)).1 (hzA.out (by omega)).2).1);obtain⟨fn,tmps,assign,body,hy,hR⟩:=hY.out _ q (m-1-k) wr hJr ⟨by rw[Xb],by rw[Xb];exact hkm,by rw[Xb]⟩;unfold Ybq at hy;have e1:((m:Int)-1-k).toNat=m-1-k:=by omega
   have e2:((m-1-k:Nat):Int)=(m:Int)-1-k:=by omega
   rw[e2] at hy;clear e2;have hds:=Za (Zea m k);replace hR:=Za hR;replace hKr:=Za hKr;replace hJr:=Za hJr;generalize (f (m-1-k)).nd.1=q1 at *;generalize (f (m-1-k)).A=q2 at *;generalize (f (m-1-k)).nd.2.length=q3 at *;generalize (f (m-1-k)).c=q4 at *;generalize ((f (m-1-k)).pl:Int)=q5 at *
   gi_wp2
   refine(Zgd hR.out).mono ?_;rintro e w5 ⟨q5',hk5,⟨rfl,J5⟩ | ⟨rfl,J5⟩⟩
   ·have hK5:=Za (hKr.out.trans hk5)
    clear hk5
    gi_wp2
    go_roundw
    case rel=>exact⟨k+1,q5',by omega,by go_num,by rw[hds.out];exact J5,hK5.out⟩
    case measure=>simp[intOf];omega
   ·gi_wp2
    refine Qac (results_none rfl _ _ _) rfl ?_;exact⟨⟨_,rfl⟩,.inr ⟨_,_,J5⟩⟩
  ·obtain rfl:k=m:=by omega
   gi_wp2
   go_end0
   exact⟨⟨_,rfl⟩,.inl ⟨_,_,rfl,hJr⟩⟩}
theorem Zmp (a:Option Qaa) (len cap:Nat) (w:P8) :
  Qaf Tryz.prog 48 #[.slice a len cap] w fun e w'=>e=.returned (.func (.func 83) #[] #[.pointer (some ⟨w.heap.size,0,none⟩)])/\w'=w.alloc (.cells #[.slice a len cap] 64):=by
 go_enter Tryz.func48,Tryz.ntmps48
 go_wp2_with fail
 go_ret;exact⟨rfl,rfl⟩
theorem Z5u {l:List Sv}{i:Nat}{x:Sv}(h:l[i]? = some x):∀ j u,(dvV x)[j]? = some u->(dvs l)[i*3+j]? = some u:=by{
 induction l generalizing i with
 | nil=>simp at h
 | cons y l ih =>
  intro j u hj;have hj4:j<3:=(Qm.1 hj).1;cases i with
  | zero =>
   simp at h;subst h;show (dvV y++dvs l)[0*3+j]? = _;rw[Pg (by show 0*3+j<3;omega),Nat.zero_mul,Pa];exact hj
  | succ i =>
   show (dvV y++dvs l)[(i+1)*3+j]? = _;rw[Ph (by show 3<=_;omega),show (i+1)*3+j-(dvV y).length=i*3+j by show _-3=_;omega];exact ih (by simpa using h) j u hj}
theorem Zxx {w:P8}{lo c:Nat}{A:Option Qaa}{l:List Sv}(h:w.ownsRow lo 102 3 (.slice A l.length c) l.length (dvs l)):∃ ad:Qaa,(0<l.length->A=some ad/\lo<=ad.block/\ad.block<w.heap.size)/\∀ j,j<l.length->At3 w (ad.add (j*3)) (l[j]?.getD svZ):=by{
 rcases Pf l.length with h0 | h0
 ·exact⟨⟨0,0,none⟩,fun h=>by omega,fun j hj=>by omega⟩
 rcases h.2 with ⟨_,e⟩ | ⟨g,cap,cur,e,hb,hg,_⟩
 ·omega
 ·cases e
  refine⟨⟨g,0,none⟩,fun _=>⟨rfl,hb,(Qd.1 hg).1⟩,fun j hj=> ?_⟩;have hx:l[j]? = some l[j]:=Qi hj;have hc:=fun i u hu=>h.cells (g:=g) rfl _ u (Z5u hx i u hu)
  rw[hx];have e0:=hc 0 _ rfl;have e1:=hc 1 _ rfl;have e2:=hc 2 _ rfl;rw[Zai,Pa] at e0 e1 e2;rw[Zai,Pa];exact⟨e0,e1,e2⟩}
def Ze7 (s0 s:Rm) (x:Int):Prop:=(if s0.2.1[x.toNat]?.getD 0≠0 then 2 else 1)<=Yy s.2.1 x.toNat
def Zkd (s0 s:Rm):Nat->Int->Prop
 | 0,a=>rmE s a=0/\(rmV s a).1=0
 | l+1,a=>rmE s a=0/\(rmV s a).1=((l+1:Nat):Int)/\∀ x∈(rmV s a).2,Zkd s0 s l x.2.1/\(s0.2.1[a.toNat]?.getD 0=0->Ze7 s0 s x.2.1)
theorem Zkd.ok {s0 s:Rm}:∀ {l:Nat}{a:Int},Zkd s0 s l a->rmE s a=0/\(rmV s a).1=(l:Int)
 | 0,_,h=>h
 | _+1,_,h=>⟨h.1,h.2.1⟩
theorem Zz0 {s:Rm}:∀ {l:Nat}{a:Int},AtT s l a->Zkd s s l a
 | 0,_,h=>⟨h.ok,h.lvl⟩
 | l+1,a,h=>⟨h.ok,h.lvl,fun x hx=>⟨Zz0 (h.down hx),fun h0=>by
   obtain⟨k,rfl,_,_,_,_,_,_,_,hz⟩:=Y6 (Z9 h.ok).2;rw[show ((k:Int)).toNat=k by omega] at h0
   exact absurd h0 hz⟩⟩
theorem Zcr {s0 t u:Rm}(hk:Xv t u) (hm:∀ x,Ze7 s0 t x->Ze7 s0 u x):∀ {l:Nat}{a:Int},Zkd s0 t l a->Zkd s0 u l a
 | 0,a,h=>by
  obtain⟨_,e1,e2⟩:=Vr hk (Z9 h.1).2;exact⟨e1.trans h.1,by rw[e2];exact h.2⟩
 | l+1,a,h=>by
  obtain⟨_,e1,e2⟩:=Vr hk (Z9 h.1).2;exact⟨e1.trans h.1,by rw[e2];exact h.2.1,fun x hx=>by rw[e2] at hx;exact⟨Zcr hk hm (h.2.2 x hx).1,fun h0=>hm _ ((h.2.2 x hx).2 h0)⟩⟩
theorem Znc {s0 t u:Rm}{x:Int}(h:Yy t.2.1 x.toNat<=Yy u.2.1 x.toNat) (hm:Ze7 s0 t x):Ze7 s0 u x:=by unfold Ze7 at hm ⊢;omega
theorem Z4i {s0 t:Rm}{l:Nat}{L:List It}(h:mkE t ((l:Int),L)=0) (hi:InN ((l:Int),L)) (hk:Xv s0 t) (hL:∀ j,l=j+1->∀ q∈L,Zkd s0 t j q.2.1) :
  Xv s0 (mkV t ((l:Int),L))/\Xv t (mkV t ((l:Int),L))/\(∀ x,Ze7 s0 t x->Ze7 s0 (mkV t ((l:Int),L)) x)/\8<=mkN t ((l:Int),L)/\s0.2.1[(mkN t ((l:Int),L)).toNat]?.getD 0=0/\Yy (mkV t ((l:Int),L)).2.1 (mkN t ((l:Int),L)).toNat=1 /\
  Zkd s0 (mkV t ((l:Int),L)) l (mkN t ((l:Int),L))/\rmV (mkV t ((l:Int),L)) (mkN t ((l:Int),L))=((l:Int),L)/\∀ q∈L,q.2.1≠0->Yy t.2.1 q.2.1.toNat+1<=Yy (mkV t ((l:Int),L)).2.1 q.2.1.toNat/\Ze7 s0 (mkV t ((l:Int),L)) q.2.1:=by{
 have hkm:=U7 h;obtain⟨_,hn,_⟩:=Zvy h;obtain⟨k,e1,h8,h256,hz,_,hc,hV,hm,c1,c2,c3,_⟩:=X5 h;have hseen:Z1 (mkV t ((l:Int),L)).1 k=Va ((l:Int),L):=by rw[hV];exact Xr
 have ha:asE (mkV t ((l:Int),L)) (k:Int)=0:=Zcf hm h8 h256 (by rw[c1];decide);obtain⟨r1,r2⟩:=Zj5 ha hseen hn hi;have hz8:Yy t.2.1 k=0:=by unfold Yy;rw[hz];rfl
 have hc1:Yy (mkV t ((l:Int),L)).2.1 k=1:=by unfold Yy;rw[c1];rfl
 have hc2:∀ i,i≠k->Yy (mkV t ((l:Int),L)).2.1 i=Yy t.2.1 i+Xj L i:=fun i hne=>c2 i hne
 have hle:∀ i,Yy t.2.1 i<=Yy (mkV t ((l:Int),L)).2.1 i:=fun i=>by
  by_cases e:i=k
  ·rw[e];omega
  ·rw[hc2 i e];omega
 have hmono:∀ x,Ze7 s0 t x->Ze7 s0 (mkV t ((l:Int),L)) x:=fun x hx=>Znc (hle _) hx
 have hup:∀ q∈L,q.2.1≠0->Yy t.2.1 q.2.1.toNat+1<=Yy (mkV t ((l:Int),L)).2.1 q.2.1.toNat/\Ze7 s0 (mkV t ((l:Int),L)) q.2.1:=fun q hq h0=>by
  have hr:∃ i:Nat,q.2.1=(i:Int):=by
   rcases Vx hn q hq with e | ⟨e8,_⟩
   ·exact absurd e h0
   ·exact⟨q.2.1.toNat,by omega⟩
  obtain⟨i,hi'⟩:=hr;have h1:=Zbr hq hi' h0;have hne:i≠k:=fun e=>by rw[e] at h1;rw[hc] at h1;omega
  have h2:=hc2 i hne;have hti:q.2.1.toNat=i:=by omega
  rw[hti];refine⟨by omega,?_⟩;unfold Ze7;rw[hti];split
  ·rename_i h3
   have:=V4.2 (hk.held i h3);omega
  ·omega
 rw[e1];rw[show ((k:Int)).toNat=k by omega];refine⟨Xp hk hkm,hkm,hmono,by omega,?_,hc1,?_,r2,hup⟩
 ·by_cases e:s0.2.1[k]?.getD 0=0
  ·exact e
  ·exact absurd hz (hk.held k e)
 ·cases l with
  | zero=>exact⟨r1,by rw[r2];rfl⟩
  | succ j =>
   refine⟨r1,by rw[r2],fun x hx=> ?_⟩;rw[r2] at hx;have hx0:x.2.1≠0:=fun e=>by
    obtain⟨h5,_⟩:=Zkd.ok (hL j rfl x hx);obtain⟨i,hi',_,h8',_⟩:=Y6 (Z9 h5).2;omega
   exact⟨Zcr hkm hmono (hL j rfl x hx),fun _=>(hup x hx hx0).2⟩}
theorem Z2d {s0 u:Rm}{h:Int}(hk:Xv s0 u) (h0:s0.2.1[h.toNat]?.getD 0=0) (h2:2<=Yy u.2.1 h.toNat):Xv s0 (Vw u h)/\Xv u (Vw u h)/\(∀ x,Ze7 s0 u x->Ze7 s0 (Vw u h) x)/\Yy (Vw u h).2.1 h.toNat+1=Yy u.2.1 h.toNat/\∀ i,i≠h.toNat->Yy (Vw u h).2.1 i=Yy u.2.1 i:=by{
 have hf:=Zsp hk.may h2;obtain⟨c1,c2⟩:=Zjy (Zx3 (s:=u) (a:=h) (by omega));refine⟨Xp hk hf,hf,fun x hx=> ?_,by omega,c2⟩;by_cases e:x.toNat=h.toNat
 ·unfold Ze7
  rw[e,if_neg (fun h=>h h0)];omega
 ·exact Znc (by rw[c2 _ e];exact Qc _) hx}
def Zsc (s:Rm) (n:Nd) (held:Int):Int×Rm×Int :=
 if mkE s n=0 then (if held=0 then (0,mkV s n,mkN s n) else if asE (mkV s n) held=0 then (0,loV (mkV s n) held,mkN s n) else (asE (mkV s n) held,Zj,0)) else (mkE s n,Zj,0)
theorem Z1n {s:Rm}{lv:Int}{L:List It}{held:Int}(h5:L.length<=5) (ho:held=0\/∃ q∈L,q.2.1=held):Zsc s (lv,L) held=if (Zq s lv L).1=0 then (0,(if held=0 then (Zq s lv L).2.1 else Vw (Zq s lv L).2.1 held),Zch (Zq s lv L).2.2) else ((Zq s lv L).1,Zj,0):=by{
 unfold Zsc Zq;rw[if_pos h5];by_cases h:mkE s (lv,L)=0
 ·rw[if_pos h,if_pos h]
  by_cases h0:held=0
  ·rw[if_pos h0]
   exact(if_pos h0).symm ▸ rfl
  ·have hq:∃ q∈L,q.2.1=held:=ho.resolve_left h0
   obtain⟨q,hq,hqe⟩:=hq;obtain⟨_,hn,_⟩:=Zvy h;obtain⟨k,e1,h8,h256,hz,_,hc,hV,hm,c1,c2,c3,_⟩:=X5 h;rcases Vx hn q hq with e | ⟨i8,i256⟩
   ·exact absurd (hqe.symm.trans e) h0
   ·obtain⟨i,e⟩:∃ i:Nat,q.2.1=(i:Int):=⟨q.2.1.toNat,by omega⟩
    have h1:=Zbr hq e (by rw[hqe];exact h0);have hne:i≠k:=fun e=>by rw[e] at h1;rw[hc] at h1;omega
    have hnz:(mkV s (lv,L)).2.1[i]?.getD 0≠0:=by
     rw[<- V4];have:=c2 i hne;unfold Yy;have h1':1<=Xj (lv,L).2 i:=h1;omega
    have ha:asE (mkV s (lv,L)) held=0:=by
     rw[<- hqe,e];exact Zcf hm (by omega) (by omega) hnz
    rw[if_neg h0,if_pos ha];have hl:loV (mkV s (lv,L)) held=Vw (mkV s (lv,L)) held:=if_pos ha;rw[hl];exact(if_neg h0).symm ▸ rfl
 ·rw[if_neg h,if_neg h]
  exact(if_neg h).symm}
structure Z9e (s t:Rm) (l:Nat) (L:List It) (held:Int):Prop where
 keep:Xv s t
 few:L.length<=5
 inI:∀ q∈L,InI q
 lev:∀ j,l=j+1->∀ q∈L,Zkd s t j q.2.1
 own:held=0\/(8<=held/\s.2.1[held.toNat]?.getD 0=0/\Yy t.2.1 held.toNat≠0/\∃ q∈L,q.2.1=held)
 none:L=[]->held=0
 more:∀ x,Ze7 s s x->Ze7 s t x
theorem Zn6 {s t:Rm}{l:Nat}{L1 L' up:List It}{h1:Int}{u:Rm}(G:Z9e s t l L1 h1) (h5:L'.length<=5) (hi:InN ((l:Int),L')) (hsub:∀ q∈L1,q∈L') (hL:∀ j,l=j+1->∀ q∈L',Zkd s t j q.2.1) (hb:Zq t (l:Int) L'=(0,u,up)) :
  ∃ k:Int,up=[upI L' k]/\8<=k/\s.2.1[k.toNat]?.getD 0=0/\Xv s (if h1=0 then u else Vw u h1)/\Xv t (if h1=0 then u else Vw u h1)/\(∀ x,Ze7 s t x->Ze7 s (if h1=0 then u else Vw u h1) x)/\Yy (if h1=0 then u else Vw u h1).2.1 k.toNat=1/\Zkd s (if h1=0 then u else Vw u h1) l k/\rmV (if h1=0 then u else Vw u h1) k=((l:Int),L'):=by{
 rcases X9 hb with ⟨hm,rfl,rfl⟩ | ⟨h6,_⟩
 ·obtain⟨g1,g2,g3,g4,g5,g6,g7,g8,g9⟩:=Z4i hm hi G.keep hL
  generalize mkN t ((l:Int),L')=k at *;generalize mkV t ((l:Int),L')=u at *;by_cases h0:h1=0
  ·simp only[if_pos h0]
   exact⟨k,rfl,g4,g5,g1,g2,g3,g6,g7,g8⟩
  ·simp only[if_neg h0]
   obtain⟨h8,hz,hc,q,hq,hqe⟩:=G.own.resolve_left h0;obtain⟨c1,_⟩:=g9 q (hsub q hq) (by rw[hqe];exact h0);rw[hqe] at c1;obtain⟨f1,f2,f3,f4,f5⟩:=Z2d g1 hz (by omega);have hne:k.toNat≠h1.toNat:=fun e=>by rw[e] at g6;omega
   refine⟨k,rfl,g4,g5,f1,Xp g2 f2,fun x hx=>f3 x (g3 x hx),by rw[f5 _ hne];exact g6,Zcr f2 f3 g7,?_⟩;rw[(Vr f2 (Z9 g7.ok.1).2).2.2];exact g8
 ·omega}
theorem Zzl {M up:List It}{p m:Nat}(h:p+m<=M.length) (hm:1<=m) (hu:up.length<=1):(Zbb M p m up).length<=M.length:=by
 unfold Zbb;simp only[Ql,Qn,Qv];omega
theorem Zmh {M up:List It}{p m:Nat}{q:It}(h:q∈Zbb M p m up):q∈M\/q∈up:=by{
 unfold Zbb at h;rcases Qg.1 h with h | h
 ·exact .inl (Qo h)
 ·rcases Qg.1 h with h | h
  ·exact .inr h
  ·exact .inl (Qw h)}
structure Yau (s t:Rm) (M:List It) (p:Nat) (l:Nat) (L1:List It):Prop where
 few:(Yk s M p L1).2.2.length<=5
 inI:∀ q∈(Yk s M p L1).2.2,InI q
 sub:∀ q∈L1,q∈(Yk s M p L1).2.2
 lev:∀ j,l=j+1->∀ q∈(Yk s M p L1).2.2,Zkd s t j q.2.1
 fit:(Yk s M p L1).1+(Yk s M p L1).2.1<=M.length/\1<=(Yk s M p L1).2.1/\(Yk s M p L1).2.1<=2
theorem Z5p {s t:Rm}{M:List It}{p l:Nat}{L1:List It}{h1:Int}(G:Z9e s t l L1 h1) (hp:p<M.length) (hM:∀ q∈M,Zkd s s l q.2.1):Yau s t M p l L1:=by{
 have hb:∀ c∈M,(∀ q∈(rmV s c.2.1).2,InI q)/\∀ j,l=j+1->∀ q∈(rmV s c.2.1).2,Zkd s t j q.2.1:=fun c hc=>by
  have hl:=hM c hc;refine⟨(Ze5 hl.ok.1).it,fun j hj q hq=> ?_⟩;subst hj;exact Zcr G.keep G.more (hl.2.2 q hq).1
 rcases Zlh s M p L1 with e | ⟨c,hc,h5,e⟩ | ⟨b,j,rfl,hbj,h5,e⟩
 ·exact⟨by rw[e];exact G.few,by rw[e];exact G.inI,fun q hq=>by rw[e];exact hq,by rw[e];exact G.lev,by rw[e];exact⟨by show p+1<=_;omega,Qc _,by show 1<=2;omega⟩⟩
 ·obtain⟨b1,b2⟩:=hb c (Qj hc)
  have hcl:=(Qm.1 hc).1;refine⟨by rw[e];simp only[Ql];omega,fun q hq=> ?_,fun q hq=>by rw[e];exact Pt _ hq,fun j hj q hq=> ?_,by rw[e];exact⟨by show p+2<=_;omega,by show 1<=2;omega,Qc _⟩⟩
  ·rw[e] at hq
   rcases Qg.1 hq with hq | hq
   ·exact G.inI q hq
   ·exact b1 q hq
  ·rw[e] at hq
   rcases Qg.1 hq with hq | hq
   ·exact G.lev j hj q hq
   ·exact b2 j hj q hq
 ·obtain⟨b1,b2⟩:=hb b (Qj hbj)
  refine⟨by rw[e];simp only[Ql];omega,fun q hq=> ?_,fun q hq=>by rw[e];exact Pu _ hq,fun j' hj q hq=> ?_,by rw[e];exact⟨by show j+2<=_;omega,by show 1<=2;omega,Qc _⟩⟩
  ·rw[e] at hq
   rcases Qg.1 hq with hq | hq
   ·exact b1 q hq
   ·exact G.inI q hq
  ·rw[e] at hq
   rcases Qg.1 hq with hq | hq
   ·exact b2 j' hj q hq
   ·exact G.lev j' hj q hq}
theorem Z6c {L:List It}{k:Int}(hne:L≠[]) (hi:∀ q∈L,InI q) (hk:Zka k):InI (upI L k):=by
 cases L with
 | nil=>exact absurd rfl hne
 | cons q r=>exact⟨(hi q List.mem_cons_self).key,hk⟩
theorem Z2z {s:Rm}{k:Ky}{a:Int}(h:AtT s 0 a):Z9e s s 0 (Zd2 k (rmV s a).2) 0 :=
 ⟨Zeb (by obtain⟨_,_,hm,_⟩:=Y6 (Z9 h.ok).2;exact hm),Qf (List.length_filter_le _ _) (Zx h.may).1.2.2.1,fun q hq=>(Ze5 h.ok).it q (Zij.1 hq).1,fun j hj=>(by cases hj),.inl rfl,fun _=>rfl,fun _ h=>h⟩
theorem Zga {k:Ky}{s:Rm}:∀ {l:Nat},l<6->∀ {a held:Int}{t:Rm}{L:List It},AtT s l a->Yf k l s a=(0,t,L,held)->Z9e s t l L held
 | 0,_,a,held,t,L,hA,h=>by
  unfold Yf at h;cases h;exact Z2z hA
 | l+1,h6,a,held,t,L,hA,h=>by
  obtain⟨t1,L1,h1,e1,hways⟩:=Zii h;have hm:=hA.may;have h5:=(Zx hm).1.2.2.1;have hne:0<(rmV s a).2.length:=(Zx hm).1.2.2.2 (by rw[hA.lvl];omega);obtain⟨y,hy⟩:∃ y,(rmV s a).2[Xk (rmV s a) k]? = some y:=⟨_,Qi (Zc4 k hne)⟩
  have hpl:=Zc4 k hne;have hir:Zci (rmV s a) k=y.2.1:=by unfold Zci;rw[hy];rfl
  rw[hir] at e1;have G:=Zga (by omega) (hA.down (Qj hy)) e1;have hMs:∀ q∈(rmV s a).2,Zkd s s l q.2.1:=fun q hq=>Zz0 (hA.down hq)
  have hMi:∀ q∈(rmV s a).2,InI q:=(Ze5 hA.ok).it;rcases hways with ⟨_,rfl,rfl,rfl⟩ | ⟨hL1,u,up,hb,rfl,rfl,rfl⟩
  ·refine⟨G.keep,?_,fun q hq=> ?_,fun j hj q hq=> ?_,.inl rfl,fun _=>rfl,G.more⟩
   ·have:=Zzl (M:=(rmV s a).2) (up:=[]) (p:=Xk (rmV s a) k) (m:=1) (by omega) (Qc _) (Nat.zero_le _)
    omega
   ·rcases Zmh hq with hq | hq
    ·exact hMi q hq
    ·cases hq
   ·obtain rfl:l=j:=by omega
    rcases Zmh hq with hq | hq
    ·exact Zcr G.keep G.more (hMs q hq)
    ·cases hq
  ·obtain⟨m1,m2,m3,m4,m5,m6,_⟩:=Z5p (p:=Xk (rmV s a) k) G hpl hMs
   obtain⟨z,rfl,z8,zn,k1,k2,k3,k4,k5,k6⟩:=Zn6 G m1 (Zpk (by omega) m2) m3 m4 hb;refine⟨k1,?_,fun q hq=> ?_,fun j hj q hq=> ?_,.inr ⟨z8,zn,by show Yy _ z.toNat≠0;rw[k4];decide,upI (Yk s (rmV s a).2 (Xk (rmV s a) k) L1).2.2 z,?_,rfl⟩,fun e=> ?_,fun x hx=>k3 x (G.more x hx)⟩
   ·have:=Zzl (M:=(rmV s a).2) (up:=[upI (Yk s (rmV s a).2 (Xk (rmV s a) k) L1).2.2 z].take 1) m5 m6 (Qc _)
    omega
   ·rcases Zmh hq with hq | hq
    ·exact hMi q hq
    ·obtain rfl:=Qk.1 hq
     have hz:z<256:=by
      obtain⟨i,hi',_,_,h256,_⟩:=Y6 (Z9 k5.ok.1).2;omega
     refine Z6c ?_ m2 ⟨by omega,by omega⟩;intro e0;obtain⟨q0,hq0⟩:=Pv _ hL1;have:=m3 q0 hq0;rw[e0] at this;cases this
   ·obtain rfl:l=j:=by omega
    rcases Zmh hq with hq | hq
    ·exact Zcr k2 k3 (Zcr G.keep G.more (hMs q hq))
    ·obtain rfl:=Qk.1 hq
     exact k5
   ·unfold Zbb
    exact Pu _ (Pt _ (Qk.2 rfl))
   ·have:=congrArg List.length e
    simp[Zbb] at this
def stO (k:Ky) (s:Rm) (a:Int) (l:Nat):Nat->Int×Rm×List It×Int
 | 0=>(0,s,[],0)
 | d+1=>Yf k d s (atW s k a (l-d))
theorem Z5z {k:Ky}{s:Rm}{a:Int}{l:Nat}{e:Int}{i:Nat}(h:stO k s a l i=(e,Zj,[],0)) (he:e≠0):∀ j,i<=j->j<=l+1->stO k s a l j=(e,Zj,[],0)
 | 0,hi,_=>by
  obtain rfl:i=0:=by omega
  exact h
 | j+1,hi,hj=>by
  rcases Nat.lt_or_ge j i with h1 | h1
  ·obtain rfl:i=j+1:=by omega
   exact h
  ·have ih:=Z5z h he j h1 (by omega)
   cases j with
   | zero =>
    unfold stO at ih;cases ih;exact absurd rfl he
   | succ d =>
    have ih':Yf k d s (atW s k a (l-d))=(e,Zj,[],0):=ih;have ha:Zci (rmV s (atW s k a (l-(d+1)))) k=atW s k a (l-d):=by
     rw[show l-d=(l-(d+1))+1 by omega];rfl
    show Yf k (d+1) s (atW s k a (l-(d+1)))=_;unfold Yf;rw[ha,ih'];show (if e=0 then _ else _)=_;rw[if_neg he]
theorem Zx6 {k:Ky}{s:Rm}{a:Int}{l:Nat}(h6:l<6) (hA:AtT s l a){d:Nat}(hd:d<=l){t:Rm}{L:List It}{held:Int}(h:stO k s a l (d+1)=(0,t,L,held)):Z9e s t d L held:=by
 have h1:=Zak (k:=k) hA (l-d) (by omega);rw[show l-(l-d)=d by omega] at h1;exact Zga (by omega) h1 h
theorem Z9c {k:Ky}{s:Rm}{a:Int}{l:Nat}{x:It}(h6:l<6) (hA:AtT s l a) (hx:Zcl s l a k=some x){i:Nat}(hi:i<=l){t:Rm}{held:Int}(h:stO k s a l i=(0,t,[],held)) :
  held=0/\stO k s a l (i+1)=(0,t,Zbb (rmV s (atW s k a (l-i))).2 (Xk (rmV s (atW s k a (l-i))) k) 1 [],0):=by{
 cases i with
 | zero =>
  unfold stO at h;cases h;refine⟨rfl,?_⟩;show Yf k 0 s (atW s k a (l-0))=_;unfold Yf;have hd:=Zak (k:=k) hA l (Qc _);rw[Q4] at hd;have ho:=Zlr hA hx l (Qc _);rw[Q4] at ho;rw[Nat.sub_zero,Yam hd.may ((Zmf hd ho).2.1 rfl)]
 | succ d =>
  have G:=Zx6 h6 hA (by omega) h;have hh:=G.none rfl;refine⟨hh,?_⟩;subst hh;have h':Yf k d s (atW s k a (l-d))=(0,t,[],0):=h;have ha:Zci (rmV s (atW s k a (l-(d+1)))) k=atW s k a (l-d):=by
   rw[show l-d=(l-(d+1))+1 by omega];rfl
  show Yf k (d+1) s (atW s k a (l-(d+1)))=_;unfold Yf;rw[ha,h'];show (if (0:Int)=0 then _ else _)=_;rw[if_pos rfl,if_pos rfl]}
theorem Zvc {s t:Rm}{M:List It}(h:∀ q∈M,rmV t q.2.1=rmV s q.2.1) (p:Nat) (L:List It):Yk t M p L=Yk s M p L:=by{
 unfold Yk;cases h1:M[p+1]? with
 | some c=>simp only[h c (Qj h1)]
 | none =>
  cases h2:M[p-1]? with
  | some b=>simp only[h b (Qj h2)]
  | none=>rfl}
theorem Z8g {k:Ky}{s:Rm}{a:Int}{l:Nat}(h6:l<6) (hA:AtT s l a){d:Nat}(hd:d+1<=l){t:Rm}{L:List It}{held:Int}(hL:L≠[]) (h:stO k s a l (d+1)=(0,t,L,held)) :
  (∀ q∈(rmV s (atW s k a (l-(d+1)))).2,rmE t q.2.1=0/\0<(rmV t q.2.1).2.length) /\
  Yau s t (rmV s (atW s k a (l-(d+1)))).2 (Xk (rmV s (atW s k a (l-(d+1)))) k) d L /\
  Yk t (rmV s (atW s k a (l-(d+1)))).2 (Xk (rmV s (atW s k a (l-(d+1)))) k) L=Yk s (rmV s (atW s k a (l-(d+1)))).2 (Xk (rmV s (atW s k a (l-(d+1)))) k) L /\
  (rmV s (atW s k a (l-(d+1)))).1=((d+1:Nat):Int)/\Xk (rmV s (atW s k a (l-(d+1)))) k<(rmV s (atW s k a (l-(d+1)))).2.length/\(rmV s (atW s k a (l-(d+1)))).2.length<=5 /\
  stO k s a l (d+1+1)=(if (Zsc t ((d:Int),(Yk s (rmV s (atW s k a (l-(d+1)))).2 (Xk (rmV s (atW s k a (l-(d+1)))) k) L).2.2) held).1=0 then
   (0,(Zsc t ((d:Int),(Yk s (rmV s (atW s k a (l-(d+1)))).2 (Xk (rmV s (atW s k a (l-(d+1)))) k) L).2.2) held).2.1,
    Zbb (rmV s (atW s k a (l-(d+1)))).2 (Yk s (rmV s (atW s k a (l-(d+1)))).2 (Xk (rmV s (atW s k a (l-(d+1)))) k) L).1 (Yk s (rmV s (atW s k a (l-(d+1)))).2 (Xk (rmV s (atW s k a (l-(d+1)))) k) L).2.1 [upI (Yk s (rmV s (atW s k a (l-(d+1)))).2 (Xk (rmV s (atW s k a (l-(d+1)))) k) L).2.2 (Zsc t ((d:Int),(Yk s (rmV s (atW s k a (l-(d+1)))).2 (Xk (rmV s (atW s k a (l-(d+1)))) k) L).2.2) held).2.2],
    (Zsc t ((d:Int),(Yk s (rmV s (atW s k a (l-(d+1)))).2 (Xk (rmV s (atW s k a (l-(d+1)))) k) L).2.2) held).2.2)
   else ((Zsc t ((d:Int),(Yk s (rmV s (atW s k a (l-(d+1)))).2 (Xk (rmV s (atW s k a (l-(d+1)))) k) L).2.2) held).1,Zj,[],0)):=by{
 have G:=Zx6 h6 hA (by omega) h;have h1:=Zak (k:=k) hA (l-(d+1)) (by omega);rw[show l-(l-(d+1))=d+1 by omega] at h1;have h':Yf k d s (atW s k a (l-d))=(0,t,L,held):=h;have ha:Zci (rmV s (atW s k a (l-(d+1)))) k=atW s k a (l-d):=by
  rw[show l-d=(l-(d+1))+1 by omega];rfl
 have hun:stO k s a l (d+1+1)=Yf k (d+1) s (atW s k a (l-(d+1))):=rfl;rw[hun];generalize atW s k a (l-(d+1))=b at *;have hm:=h1.may;have h5:=(Zx hm).1.2.2.1;have hne:0<(rmV s b).2.length:=(Zx hm).1.2.2.2 (by rw[h1.lvl];omega);have hpl:=Zc4 k hne;have hMs:∀ q∈(rmV s b).2,Zkd s s d q.2.1:=fun q hq=>Zz0 (h1.down hq)
 have hkn:∀ q∈(rmV s b).2,rmE t q.2.1=0/\rmV t q.2.1=rmV s q.2.1:=fun q hq=>by
  have hok:=(hMs q hq).ok.1;obtain⟨_,e1,e2⟩:=Vr G.keep (Z9 hok).2;exact⟨e1.trans hok,e2⟩
 have hmrg:=Z5p (p:=Xk (rmV s b) k) G hpl hMs;refine⟨fun q hq=>⟨(hkn q hq).1,?_⟩,hmrg,Zvc (fun q hq=>(hkn q hq).2) _ _,h1.lvl,hpl,h5,?_⟩
 ·rw[(hkn q hq).2]
  obtain⟨tb,e,hr⟩:=h1.below d rfl q hq;obtain⟨_,_,r3,_⟩:=Ya hr;obtain⟨y0,q0,e0,_⟩:=Zbs r3;rw[e0];exact Nat.succ_pos _
 ·have hlay:=Z1n (s:=t) (lv:=(d:Int)) (held:=held) hmrg.few (by
   rcases G.own with h | ⟨_,_,_,q,hq,hqe⟩
   ·exact .inl h
   ·exact .inr ⟨q,hmrg.sub q hq,hqe⟩)
  rw[hlay]
  conv=>lhs;unfold Yf
  rw[ha,h'];show (if (0:Int)=0 then _ else _)=_;rw[if_pos rfl,if_neg hL];have hfew:=hmrg.few;clear hmrg;generalize Yk s (rmV s b).2 (Xk (rmV s b) k) L=mg at *;obtain⟨first,many,L'⟩:=mg;simp only;by_cases hb:(Zq t (d:Int) L').1=0
  ·simp only[hb,if_true]
   obtain⟨u,up,e⟩:∃ u up,Zq t (d:Int) L'=(0,u,up):=⟨_,_,Prod.ext hb rfl⟩
   rw[e];have hup:∃ z,up=[upI L' z]:=by
    rcases X9 e with ⟨_,_,rfl⟩ | ⟨h6',_⟩
    ·exact⟨_,rfl⟩
    ·have:L'.length<=5:=hfew
     omega
   obtain⟨z,rfl⟩:=hup;rfl
  ·simp only[hb,if_false]}
theorem Yai {s:Rm}{k:Ky}{l:Nat}{b:Int}{x:It}(hA:AtT s l b) (h:Zcl s l b k=some x):Xk (rmV s b) k<(rmV s b).2.length/\(rmV s b).2.length<=5/\Zka (rmV s b).1:=by{
 refine⟨?_,(Zx hA.may).1.2.2.1,(Ze5 hA.ok).lv⟩;cases l with
 | zero =>
  have ht:=(Zmf hA h).2.1 rfl;unfold Xk;rw[if_pos ht];exact Zbi ht
 | succ l=>exact Zc4 k ((Zx hA.may).1.2.2.2 (by rw[hA.lvl];omega))}
def Kn (K:Nat->Prop) (W:P8):Qaa->Prop:=fun p=>K p.block/\p.block<W.heap.size
theorem Zef {K:Nat->Prop}{W:P8}{v:P9}{s:Rm}(h:Sto (Kn K W) W v s):Sto (Old W) W v s:=h.map fun _ _ hp hc=>⟨hp.2,hc⟩
theorem U0 {K K':Nat->Prop}{W W':P8}{v:P9}{s:Rm}(h:Sto (Kn K W) W v s) (hK:∀ k,K k->K' k) (hb:Qah W.heap.size W W'):Sto (Kn K' W') W' v s:=h.map fun _ _ hp hc=>⟨⟨hK _ hp.1,Qh hp.2 hb.size⟩,(hb.cell hp.2).trans hc⟩
theorem Zo2 {K:Nat->Prop}{lo:Nat}{W:P8}{v:P9}{s:Rm}(h:Sto (New lo W) W v s) (hK:∀ k,lo<=k->K k):Sto (Kn K W) W v s:=h.map fun _ _ hp hc=>⟨⟨hK _ hp.1,hp.2.1⟩,hc⟩
theorem Z4l {K:Nat->Prop}{W W':P8}{v:P9}{s:Rm}{b:Nat}(h:Sto (Kn K W) W v s) (hb:¬ K b) (hg:W.grownBy W' (some b)):Sto (Kn K W') W' v s:=h.map fun p v hp hc=>by
 have hk:=hg.block p.block hp.2 (fun e=>hb (by have:=Option.some.inj e;rw[<- this];exact hp.1));exact⟨⟨hp.1,Qh hp.2 hg.size⟩,(Qe hk).trans hc⟩
def Z1x (K:Nat->Prop) (w:P8) (g:Int×Rm×Int) (e:Qag) (w':P8):Prop:=∃ qa qb qc qd:Option Qaa×Nat×Nat,e=.returned (.tuple #[.agg #[.slice qa.1 qa.2.1 qa.2.2,.slice qb.1 qb.2.1 qb.2.2,.slice qc.1 qc.2.1 qc.2.2,.slice qd.1 qd.2.1 qd.2.2],.int .i64 g.2.2,.int .i64 g.1]) /\
 Sto (Kn K w') w' (.agg #[.slice qa.1 qa.2.1 qa.2.2,.slice qb.1 qb.2.1 qb.2.2,.slice qc.1 qc.2.1 qc.2.2,.slice qd.1 qd.2.1 qd.2.2]) g.2.1/\Qah w.heap.size w w'
theorem Z1x.mono {K K':Nat->Prop}{w w':P8}{g:Int×Rm×Int}{e:Qag}(h:Z1x K w g e w') (hK:∀ k,K k->K' k):Z1x K' w g e w':=by
 obtain⟨qa,qb,qc,qd,e,h1,h2⟩:=h;exact⟨qa,qb,qc,qd,e,U0 h1 hK (Qa _ _),h2⟩
theorem Zan {K:Nat->Prop}{w W:P8}{b:Nat}{p0 p1 p2 p3:P9}{ra rb rc rd:Option Qaa×Nat×Nat}{er nn:Int}{S:Rm}(hb:w.heap.size<=b) (hK:¬ K b) (hg:W.heap[b]? = some (.cells #[p0,p1,p2,p3] 29 (0,0))) (hB:Qah w.heap.size w W)
  (hS:Sto (Kn K W) W (.agg #[.slice ra.1 ra.2.1 ra.2.2,.slice rb.1 rb.2.1 rb.2.2,.slice rc.1 rc.2.1 rc.2.2,.slice rd.1 rd.2.1 rd.2.2]) S) :
  ∃ W9,(((W.setCell ⟨b,0,none⟩ (.slice ra.1 ra.2.1 ra.2.2)).setCell ⟨b,1,none⟩ (.slice rb.1 rb.2.1 rb.2.2)).setCell ⟨b,2,none⟩ (.slice rc.1 rc.2.1 rc.2.2)).setCell ⟨b,3,none⟩ (.slice rd.1 rd.2.1 rd.2.2)=W9 /\
   W9.cell? ⟨b,0,none⟩=some (.slice ra.1 ra.2.1 ra.2.2)/\W9.cell? ⟨b,1,none⟩=some (.slice rb.1 rb.2.1 rb.2.2)/\W9.cell? ⟨b,2,none⟩=some (.slice rc.1 rc.2.1 rc.2.2)/\W9.cell? ⟨b,3,none⟩=some (.slice rd.1 rd.2.1 rd.2.2) /\
   (∀ o,W9.frozen? ⟨b,o,none⟩=false)/\Hid (W9.heap[b]? = some (.cells #[.slice ra.1 ra.2.1 ra.2.2,.slice rb.1 rb.2.1 rb.2.2,.slice rc.1 rc.2.1 rc.2.2,.slice rd.1 rd.2.1 rd.2.2] 29 (0,0)))/\Hid (Qah w.heap.size w W9/\W.grownBy W9 (some b))/\Hid (W9.heap.size=W.heap.size) /\
   Hid (Sto (Kn K W9) W9 (.agg #[.slice ra.1 ra.2.1 ra.2.2,.slice rb.1 rb.2.1 rb.2.2,.slice rc.1 rc.2.1 rc.2.2,.slice rd.1 rd.2.1 rd.2.2]) S) /\
   Hid (Z1x K w (er,S,nn) (.returned (.tuple #[.agg #[.slice ra.1 ra.2.1 ra.2.2,.slice rb.1 rb.2.1 rb.2.2,.slice rc.1 rc.2.1 rc.2.2,.slice rd.1 rd.2.1 rd.2.2],.int .i64 nn,.int .i64 er])) W9):=by
 obtain⟨W9,e9,g9,gr9,gs9⟩:=Zu (a':=.slice ra.1 ra.2.1 ra.2.2) (b':=.slice rb.1 rb.2.1 rb.2.2) (c':=.slice rc.1 rc.2.1 rc.2.2) (d':=.slice rd.1 rd.2.1 rd.2.2) hg;obtain⟨k0,k1,k2,k3,kf,_⟩:=Ze g9;have hS9:=Z4l hS hK gr9;have hB9:=hB.grown gr9 hB.size (fun q e=>by cases e;exact hb);exact⟨W9,e9,k0,k1,k2,k3,kf,Za g9,Za ⟨hB9,gr9⟩,Za gs9,Za hS9,Za ⟨ra,rb,rc,rd,rfl,hS9,hB9⟩⟩
theorem Zm4 (qa qb qc qd:Option Qaa×Nat×Nat) (s:Rm) (I:Option Qaa) (ci:Nat) (n:Nd) (held:Int) (w:P8) (h:Sto (Old w) w (.agg #[.slice qa.1 qa.2.1 qa.2.2,.slice qb.1 qb.2.1 qb.2.2,.slice qc.1 qc.2.1 qc.2.2,.slice qd.1 qd.2.1 qd.2.2]) s)
  (hu:Nod (Old w) w (.agg #[.int .i64 n.1,.slice I n.2.length ci]) n) :
  Qaf Tryz.prog 51 #[.agg #[.slice qa.1 qa.2.1 qa.2.2,.slice qb.1 qb.2.1 qb.2.2,.slice qc.1 qc.2.1 qc.2.2,.slice qd.1 qd.2.1 qd.2.2],.agg #[.int .i64 n.1,.slice I n.2.length ci],.int .i64 held] w (Z1x (fun k=>w.heap.size<=k) w (Zsc s n held)):=by{
 obtain⟨w1,hw1,b1,hs1,hB1⟩:=X4 w (.slice qa.1 qa.2.1 qa.2.2) (.slice qb.1 qb.2.1 qb.2.2) (.slice qc.1 qc.2.1 qc.2.2) (.slice qd.1 qd.2.1 qd.2.2) 29;obtain⟨w2,hw2,b2,hs2,hB2⟩:=Yc w1 (.int .i64 n.1) (.slice I n.2.length ci) 81;obtain⟨w3,hw3,b3,hs3,hB3⟩:=X4 w2 (.slice none 0 0) (.slice none 0 0) (.slice none 0 0) (.slice none 0 0) 29;have hB23:=hB2.trans (hB3.mono hB2.size);have hB13:=hB1.trans (hB23.mono hB1.size);have B3:=Za hB13;have SZ:=Za (show w1.heap.size=w.heap.size+1/\w2.heap.size=w.heap.size+2/\w3.heap.size=w.heap.size+3 from by omega);have HM:=Za (Zgu (.agg #[.slice qa.1 qa.2.1 qa.2.2,.slice qb.1 qb.2.1 qb.2.2,.slice qc.1 qc.2.1 qc.2.2,.slice qd.1 qd.2.1 qd.2.2]) (.agg #[.int .i64 n.1,.slice I n.2.length ci]) s n w3 (h.below hB13) (hu.below hB13));have G3:=Za b3;obtain⟨k0,k1,k2,k3,_⟩:=Ze ((hB23.block w.heap.size (by omega)).trans b1);obtain⟨n0,n1,_⟩:=Zg ((hB3.block w1.heap.size (by omega)).trans b2);replace hs1:=Za hs1;replace hs2:=Za hs2;replace hs3:=Za hs3;have hL:Hid (Zsc s n held=if mkE s n=0 then (if held=0 then (0,mkV s n,mkN s n) else if asE (mkV s n) held=0 then (0,loV (mkV s n) held,mkN s n) else (asE (mkV s n) held,Zj,0)) else (mkE s n,Zj,0)):=Za rfl;have hno:=Za (Zw8 (s:=s) (n:=n));obtain⟨mn,hmn⟩:∃ q,mkN s n=q:=⟨_,rfl⟩
 obtain⟨me,hme⟩:∃ q,mkE s n=q:=⟨_,rfl⟩
 obtain⟨mv,hmv⟩:∃ q,mkV s n=q:=⟨_,rfl⟩
 rw[hmn,hme,hmv] at HM hL hno;obtain⟨ld,hld⟩:∃ q,Zsc s n held=q:=⟨_,rfl⟩
 rw[hld] at hL ⊢;generalize n.1=lw at *;generalize n.2.length=nl at *;replace hmn:=Za hmn;replace hme:=Za hme;replace hmv:=Za hmv;replace hld:=Za hld;clear h hu hB1 hB2 hB3 hB23 hB13 b1 b2 b3
 go_enter Tryz.func51,Tryz.ntmps51
 go_upto_region 1 with fail
 clear hw1 hw2 hw3
 go_wp2_with fail
 with_reducible refine(HM.out).mono ?_
 rintro e w4 ⟨ra,rb,rc,rd,rfl,hS4,hb4⟩;have hc4:=(hb4.block w2.heap.size (by have:=SZ.out;omega)).trans G3.out;obtain⟨u0,u1,u2,u3,uf,_⟩:=Ze hc4;have hnK:¬ (fun k=>w3.heap.size<=k) w2.heap.size:=by have:=SZ.out;show ¬ w3.heap.size<=w2.heap.size;omega
 have hKw:Hid (∀ k,(fun k=>w3.heap.size<=k) k->(fun k=>w.heap.size<=k) k):=Za fun k h=>Qf B3.out.size h
 obtain⟨w5,e5,y0,y1,y2,y3,yf,g5,B5,sz5,S5,-⟩:=Zan (K:=fun k=>w3.heap.size<=k) (w:=w) (er:=0) (nn:=0) (by have:=SZ.out;omega) hnK hc4 (B3.out.trans (hb4.mono B3.out.size)) (Zo2 hS4 fun _ h=>h);obtain⟨w6,e6,z0,z1,z2,z3,-,-,-,-,-,hfin⟩:=Zan (K:=fun k=>w3.heap.size<=k) (w:=w) (er:=me) (nn:=mn) (by have:=SZ.out;omega) hnK g5.out B5.out.1 S5.out;replace hfin:=Za (hfin.out.mono hKw.out);replace hnK:=Za hnK;replace hb4:=Za hb4;clear hS4 hc4 HM k0 k1 k2 k3 n0 n1
 go_upto_region 2 with fail
 clear u0 u1 u2 u3 uf e5;by_cases hk:me=0
 case neg =>
  have t0:(me != 0)=true:=by simpa using hk
  obtain⟨hn0,hv0⟩:=hno.out hk;have he:Hid (ld=(me,mv,mn)):=Za (by rw[hL.out,if_neg hk,hn0,hv0]);clear hn0 hv0
  go_wp2_with fail
  rw[he.out];exact Qac (v:=.tuple #[.agg #[.slice ra.1 ra.2.1 ra.2.2,.slice rb.1 rb.2.1 rb.2.2,.slice rc.1 rc.2.1 rc.2.2,.slice rd.1 rd.2.1 rd.2.2],.int .i64 mn,.int .i64 me]) (by simp[results,Tryz.results51,go_sem,z0,z1,z2,z3]) rfl hfin.out
 subst hk;by_cases h0:held=0
 ·subst h0
  have he:Hid (ld=(0,mv,mn)):=Za (by rw[hL.out,if_pos rfl,if_pos rfl])
  go_wp2_with fail
  rw[he.out];exact Qac (v:=.tuple #[.agg #[.slice ra.1 ra.2.1 ra.2.2,.slice rb.1 rb.2.1 rb.2.2,.slice rc.1 rc.2.1 rc.2.2,.slice rd.1 rd.2.1 rd.2.2],.int .i64 mn,.int .i64 0]) (by simp[results,Tryz.results51,go_sem,z0,z1,z2,z3]) rfl hfin.out
 clear e6 z0 z1 z2 z3 hfin;have t1:(held==0)=false:=by simpa using h0
 have HL:=Za (Zif (.agg #[.slice ra.1 ra.2.1 ra.2.2,.slice rb.1 rb.2.1 rb.2.2,.slice rc.1 rc.2.1 rc.2.2,.slice rd.1 rd.2.1 rd.2.2]) mv held w5 (Zef S5.out));obtain⟨le,hle⟩:∃ q,asE mv held=q:=⟨_,rfl⟩
 obtain⟨lv,hlv⟩:∃ q,loV mv held=q:=⟨_,rfl⟩
 have hL2:Hid (ld=if le=0 then (0,lv,mn) else (le,Zj,0)):=Za (by rw[hL.out,if_pos rfl,if_neg h0,hle,hlv]);rw[hle,hlv] at HL;replace hle:=Za hle;replace hlv:=Za hlv;replace h0:=Za h0
 go_upto_region 4 with fail
 go_wp2_with fail
 with_reducible refine(HL.out).mono ?_
 rintro e w7 ⟨pa,pb,pc,pd,rfl,hS7,hb7⟩;have hlt5:=Za (show w3.heap.size<=w5.heap.size from by rw[sz5.out];exact hb4.out.size);have hc7:=(hb7.block w2.heap.size (by have:=SZ.out;have:=hlt5.out;omega)).trans g5.out;obtain⟨u0,u1,u2,u3,uf,_⟩:=Ze hc7;obtain⟨w8,e8,x0,x1,x2,x3,xf,g8,B8,sz8,S8,-⟩:=Zan (K:=fun k=>w3.heap.size<=k) (w:=w) (er:=0) (nn:=0) (by have:=SZ.out;omega) hnK.out hc7 (B5.out.1.trans (hb7.mono B5.out.1.size)) (Zo2 hS7 fun k h=>by have:=hlt5.out;show w3.heap.size<=k;omega);clear hS7 hc7 hb7 HL y0 y1 y2 y3 yf
 go_upto_region 5 with fail
 clear u0 u1 u2 u3 uf e8;by_cases hl0:le=0
 ·subst hl0
  obtain⟨w6,e6,z0,z1,z2,z3,-,-,-,-,-,hfin⟩:=Zan (K:=fun k=>w3.heap.size<=k) (w:=w) (er:=0) (nn:=mn) (by have:=SZ.out;omega) hnK.out g8.out B8.out.1 S8.out;replace hfin:=Za (hfin.out.mono hKw.out);have he:Hid (ld=(0,lv,mn)):=Za (by rw[hL2.out,if_pos rfl])
  go_wp2_with fail
  rw[he.out];exact Qac (v:=.tuple #[.agg #[.slice pa.1 pa.2.1 pa.2.2,.slice pb.1 pb.2.1 pb.2.2,.slice pc.1 pc.2.1 pc.2.2,.slice pd.1 pd.2.1 pd.2.2],.int .i64 mn,.int .i64 0]) (by simp[results,Tryz.results51,go_sem,z0,z1,z2,z3]) rfl hfin.out
 ·have t0:(le != 0)=true:=by simpa using hl0
  obtain⟨w6,e6,z0,z1,z2,z3,-,-,-,-,-,hfin⟩:=Zan (K:=fun k=>w3.heap.size<=k) (w:=w) (ra:=(none,0,0)) (rb:=(none,0,0)) (rc:=(none,0,0)) (rd:=(none,0,0)) (S:=Zj) (er:=le) (nn:=0) (by have:=SZ.out;omega) hnK.out g8.out B8.out.1 (Yv _ _)
  dsimp only at e6 z0 z1 z2 z3
  replace hfin:=Za (hfin.out.mono hKw.out);have he:Hid (ld=(le,Zj,0)):=Za (by rw[hL2.out,if_neg hl0])
  go_wp2_with fail
  rw[he.out];exact Qac (v:=.tuple #[.agg #[.slice none 0 0,.slice none 0 0,.slice none 0 0,.slice none 0 0],.int .i64 0,.int .i64 le]) (by simp[results,Tryz.results51,go_sem,z0,z1,z2,z3]) rfl hfin.out}
theorem Zeu {C Y:List P9}{a:Nat}(h:a<=C.length):(splice C a Y).take a=C.take a:=by
 unfold splice;rw[List.take_append_of_le_length (by rw[Qn];omega),Q5,Nat.min_self]
def Z5s (lo:Nat) (w:P8) (A:Option Qaa) (c:Nat) (L:List Iv) (e:Qag) (w':P8):Prop:=e=.returned (.slice A L.length c)/\w'.ownsRow lo 54 5 (.slice A L.length c) L.length (Zi L)/\w.grownBy w' (A.map (·.block))
def Zkg:List P9:=[.int .u8 0,.int .u32 0,.int .u32 0,.int .i64 0,.slice none 0 0]
theorem Zwu {w:P8}(ty:Qab) (g o c:Nat) (C:List P9) (t:Qab) (hg:w.heap[g]? = some (.cells C.toArray t (0,0))) (hfit:o+5<=C.length) :
  (Pw #[39] ty #[.slice (some ⟨g,o,none⟩) 1 c]).run Tryz.prog w=.ok (.tuple #[]) (w.setRow g (splice C o Zkg).toArray):=by
 have hst:=run_storeCells_at Tryz.prog g o t Zkg 0 C.toArray w hg (by simpa [Zkg] using hfit) (by intro v hv;simp[Zkg] at hv;rcases hv with rfl | rfl | rfl | rfl | rfl <;> rfl);have hz:(Builtin.zeroCells (Value.agg #[.int .u8 0,.int .u32 0,.int .u32 0,.int .i64 0,.slice none 0 0]).cells 1).toList=Zkg:=by kernel_rfl
 simp only[Nat.add_zero] at hst;simp[Pw,run_underlying Tryz.underlying39,hz,hst,splice]
theorem Zas {w:P8}{ops:Array Oper}{rest:List Oper}{o:Oper}{a:Act}{Q:Exit->Act->P8->Prop}(hgd:o.guard=none) (x:Operand)
  (ho:o.op=.call { callee:=.builtin .clear,args:=#[x],argTypes:=#[39] }) (A:Option Qaa) (m c:Nat) (hx:a.eval x=.slice A m c) (hm:m=1) (g off:Nat) (hA:A=some ⟨g,off,none⟩) (C:List P9) (t:Qab) (hg:w.heap[g]? = some (.cells C.toArray t (0,0))) (hfit:off+5<=C.length)
  (h:∀ w',Hid (w'.heap[g]? = some (.cells (splice C off Zkg).toArray t (0,0)))->Hid (w.grownBy w' (some g))->wpList Tryz.prog ops Q rest (a.put o.dst (.tuple #[])) w'):wpList Tryz.prog ops Q (o::rest) a w:=by
 subst hm;subst hA;refine wpList_plain hgd fun K hK=> ?_
 have hrun:=Zwu (w:=w) o.type g off c C t hg hfit;unfold Oper.wp;simp[execOp,ho,resolve,invoke,builtin,hx,hrun,Result.andThen];exact hK _ _ (h _ (show _=_ by simpa using setRow_heap w g _ _ t _ hg) (Zdb _))
theorem Zpb {w:P8}{b i c m cc:Nat}{C:List P9}{ad:Qaa}{cs:List P9}(hg:w.heap[b]? = some (.cells (List.toArray C) 54 (0,0))) (hC5:C.length=c*5) (hfit:i+m<=c) (hl:cs.length=m*5) (hcs:∀ k v,cs[k]? = some v->w.cell? (ad.add k)=some v) (h1:∀ v∈cs,v.oneCell'=true) :
  ∃ w2,(Qz #[39,39] 39 #[.slice (some ⟨b,0,none⟩) i c,.slice (some ad) m cc]).run Tryz.prog w=.ok (.slice (some ⟨b,0,none⟩) (i+m) c) w2/\w2.heap[b]? = some (.cells (splice C (i*5) cs).toArray 54 (0,0))/\w.grownBy w2 (some b):=by
 obtain⟨i0,hi0,hz0,hz1,hz2⟩:=info_parts Vk;have hr:=run_append_room (P:=Tryz.prog) w 39 39 54 i0 Tryz.underlying39 hi0 b i c C.toArray hg ad m cc cs (by rw[hl,hz1]) hcs h1 hfit (by rw[hz1,hl,Q9,hC5];omega);rw[hz1] at hr;refine⟨_,hr,?_,Zdb _⟩;have:=setRow_heap w b C.toArray (C.toArray.toList.take (i*5)++cs++C.toArray.toList.drop (i*5+cs.length)).toArray 54 (0,0) hg
 simpa [splice] using this
theorem Zv3 (A:Option Qaa) (lo n c i j:Nat) (ps:List Iv) (w:P8) (h:w.ownsRow lo 54 5 (.slice A n c) n (Zi ps)) (hj:j=i+1) (hi:j<=n) (hbig:n<=1000) (hp1:∀ p∈ps,p.2.oneCell'=true) :
  Qaf Tryz.prog 49 #[.slice A n c,.int .i64 i,.int .i64 j] w (Z5s lo w A c (ps.take i++ps.drop j)):=by{
 have hpl:=Zbu h;have hone:=Xd hp1;obtain⟨ad,rfl⟩:∃ ad,A=some ad:=by
  obtain⟨_,_,e,_,_,_,h5⟩:=Yj h;cases e;exact h5 (by omega)
 obtain⟨b,C,rfl,hbl,hbs,hg,hnc,hcM,hC5,hC⟩:=Yd h;have hcm:c<=9223372036854775807:=by unfold maxLen at hcM;exact hcM
 have a1:¬ ((i:Int)=(j:Int)):=by omega
 have a2:(i:Int)<=(j:Int):=by omega
 have a3:(j:Int)<=(n:Int):=by omega
 have a4:(j:Int)<=(c:Int):=by omega
 have a5:(n:Int)<=(c:Int):=by omega
 have a6:(i:Int)<=(c:Int):=by omega
 have a7:¬ c=i:=by omega
 obtain⟨tot,htot⟩:∃ tot,tot=i+(n-j):=⟨_,rfl⟩
 have b1:(tot:Int)<=(n:Int):=by omega
 have b2:¬ c=tot:=by omega
 have b3:(tot:Int)<=(c:Int):=by omega
 have hd:(Zi (ps.drop j)).length=(n-j)*5:=by rw[Yx,Qv,hpl]
 have HO:=Xd (ps:=ps.drop j) fun p hp=>hp1 p (Qw hp)
 have el:(ps.take i++ps.drop j).length=tot:=by rw[Ql,Qn,Qv,hpl];omega
 have hrun:Hid (∀ (ad:Qaa) (cc:Nat),(∀ k v,(Zi (ps.drop j))[k]? = some v->w.drew.cell? (ad.add k)=some v)->∃ w2,(Qz #[39,39] 39 #[.slice (some ⟨b,0,none⟩) i c,.slice (some ad) (n-j) cc]).run Tryz.prog w.drew=.ok (.slice (some ⟨b,0,none⟩) tot c) w2/\w2.heap[b]? = some (.cells (splice C (i*5) (Zi (ps.drop j))).toArray 54 (0,0))/\w.drew.grownBy w2 (some b)):=Za fun ad cc hcs=>by
  have:=Zpb (w:=w.drew) (b:=b) (i:=i) (c:=c) (m:=n-j) (cc:=cc) (ad:=ad) (show w.drew.heap[b]? = _ from hg) hC5 (by omega) hd hcs HO;rw[<- htot] at this;exact this
 have S1:Hid ((splice C (i*5) (Zi (ps.drop j))).length=C.length):=Za (length_splice _ _ _ (by rw[hd,hC5];omega));have hfin:Hid (∀ (w2 W:P8),w.drew.grownBy w2 (some b)->W.heap[b]? = some (.cells (splice (splice C (i*5) (Zi (ps.drop j))) (tot*5) Zkg).toArray 54 (0,0))->w2.grownBy W (some b)->Z5s lo w (some ⟨b,0,none⟩) c (ps.take i++ps.drop j) (.returned (.slice (some ⟨b,0,none⟩) tot c)) W):=Za fun w2 W h0 h1 h2=>by
  refine⟨by rw[el],?_,Xx (Ys h0 h2)⟩;rw[el];refine Xq hbl h1 (by omega) hcM (by rw[length_splice _ _ _ (by rw[S1.out,hC5];show tot*5+5<=c*5;omega),S1.out,hC5]) ?_;rw[Zeu (by rw[S1.out,hC5];omega),show tot*5=i*5+(Zi (ps.drop j)).length by rw[hd];omega,Zbk (by rw[hC5];omega),Yi,X3,<- hC,Q5,Pb (by omega)]
 have P0:Hid (∀ k v,(Zi (ps.drop j))[k]? = some v->w.drew.cell? ((⟨b,j*5,none⟩:Qaa).add k)=some v):=Za (Zbf h j);have hnil:Hid (j=n->∀ (ad:Qaa) k v,(Zi (ps.drop j))[k]? = some v->w.drew.cell? (ad.add k)=some v):=Za fun e ad k v hv=>by
  rw[Px (by omega)] at hv;cases hv
 have hfit:Hid (tot*5+5<=(splice C (i*5) (Zi (ps.drop j))).length):=Za (by rw[S1.out,hC5];omega);have h1:Hid (n-tot=1):=Za (by omega);have hcn:Hid (c=j->j=n):=Za (by omega);replace hj:=Za hj;replace htot:=Za htot;clear h hp1 hone HO hd el hC hC5 hg hpl S1
 go_enter Tryz.func49,Tryz.ntmps49
 by_cases hcj:c=j
 ·obtain⟨w2,hr2,hg2,hb2⟩:=hrun.out ⟨b,0,none⟩ 0 (hnil.out (hcn.out hcj) _)
  have hjn:=hcn.out hcj;subst hcj;subst hjn;rw[Q4] at hr2;have HR:=Za hr2;have HG:=Za hg2;have HB:=Za hb2;clear hr2 hg2 hb2
  go_upto_region 5 with fail
  go_still_tail 6,(by kernel_rfl)
  refine Zp rfl _ _ _ rfl rfl rfl HR.out ?_
  go_wp2_with (refine Zas rfl _ rfl _ _ _ rfl h1.out b (tot*5) rfl _ _ HG.out hfit.out ?_;intro w3 hg3 hb3)
  go_ret;exact hfin.out w2 _ HB.out hg3.out hb3.out
 ·obtain⟨w2,hr2,hg2,hb2⟩:=hrun.out ⟨b,j*5,none⟩ (c-j) P0.out
  have HR:=Za hr2;have HG:=Za hg2;have HB:=Za hb2;clear hr2 hg2 hb2
  go_upto_region 5 with fail
  go_still_tail 6,(by kernel_rfl)
  refine Zp rfl _ _ _ rfl rfl rfl HR.out ?_
  go_wp2_with (refine Zas rfl _ rfl _ _ _ rfl h1.out b (tot*5) rfl _ _ HG.out hfit.out ?_;intro w3 hg3 hb3)
  go_ret;exact hfin.out w2 _ HB.out hg3.out hb3.out}
theorem Zp4 (A:Option Qaa) (lo lf n c fb fc i j:Nat) (ps qs:List Iv) (w:P8) (h:w.ownsRow lo 54 5 (.slice A n c) n (Zi ps)) (hf:w.ownsRow lf 54 5 (.slice (some ⟨fb,0,none⟩) 1 fc) 1 (Zi qs))
  (hne:A.map (·.block)≠some fb) (hj:j=i+1\/j=i+2) (hi:j<=n) (hbig:n<=1000) (hp1:∀ p∈ps,p.2.oneCell'=true) (hq1:∀ p∈qs,p.2.oneCell'=true) :
  Qaf Tryz.prog 52 #[.slice A n c,.int .i64 i,.int .i64 j,.slice (some ⟨fb,0,none⟩) 1 fc] w (Z5s lo w A c (ps.take i++(qs++ps.drop j))):=by{
 have hpl:=Zbu h;have hql:=Zbu hf;have hqc:∀ j v,(Zi qs)[j]? = some v->w.cell? ((⟨fb,0,none⟩:Qaa).add j)=some v:=fun j v hj=>hf.cells (g:=fb) rfl j v hj
 have hq5:(Zi qs).length=1*5:=hf.1;have hone:=Xd hp1;have honq:=Xd hq1;obtain⟨ad,rfl⟩:∃ ad,A=some ad:=by
  obtain⟨_,_,e,_,_,_,h5⟩:=Yj h;cases e;exact h5 (by omega)
 obtain⟨b,C,rfl,hbl,hbs,hg,hnc,hcM,hC5,hC⟩:=Yd h;have hcm:c<=9223372036854775807:=by unfold maxLen at hcM;exact hcM
 have hbf:b≠fb:=fun e=>hne (by rw[e];rfl)
 obtain⟨fb',Cf,e,_,hfs,hgf,_,_,hCf5,hCf⟩:=Yd hf;obtain rfl:fb=fb':=by cases e;rfl
 have a1:¬ ((i:Int)=(j:Int)):=by omega
 have a2:(i:Int)<=(j:Int):=by omega
 have a3:(j:Int)<=(n:Int):=by omega
 have a4:(j:Int)<=(c:Int):=by omega
 have a5:(i:Int)<=(n:Int):=by omega
 have a6:(i:Int)<=(c:Int):=by omega
 have a7:¬ c=i:=by omega
 have hzl:Zkg.length=5:=rfl;have S1:Hid ((splice C (i*5) (Zi qs)).length=C.length):=Za (length_splice _ _ _ (by rw[hq5,hC5];omega));by_cases hjn:j=n
 ·have hjn':((j:Int)=(n:Int)):=by omega
  obtain⟨w2,hr2,hg2,hb2⟩:=Zpb (w:=w) (b:=b) (i:=i) (c:=c) (m:=1) (cc:=fc) (ad:=⟨fb,0,none⟩) hg hC5 (by omega) hq5 hqc honq;have eL:ps.take i++(qs++ps.drop j)=ps.take i++qs:=by rw[Px (by omega),List.append_nil]
  have el:(ps.take i++qs).length=i+1:=by rw[Ql,Qn];omega
  have e2:(splice C (i*5) (Zi qs)).take ((i+1)*5)=Zi (ps.take i++qs):=by
   rw[show (i+1)*5=i*5+(Zi qs).length by rw[hq5];omega,Zbk (by rw[hC5];omega),Yi,X3,<- hC,Q5,Pb (by omega)]
  rw[eL];have HR:=Za hr2;have HG:=Za hg2;have HB:=Za hb2;rcases hj with hj | hj
  ·have hln:¬ (((i+1:Nat):Int)<(n:Int)):=by omega
   have hln2:¬ (i+1<n):=by omega
   have hfin:Hid (Z5s lo w (some ⟨b,0,none⟩) c (ps.take i++qs) (.returned (.slice (some ⟨b,0,none⟩) (i+1) c)) w2):=Za ⟨by rw[el],by rw[el];exact Xq hbl hg2 (by omega) hcM (by rw[S1.out,hC5]) e2,hb2⟩;replace hj:=Za hj;replace hjn:=Za hjn;clear eL hr2 hg2 hb2 h hf hqc hone honq hp1 hq1 hne hg hgf hC hC5 hCf hCf5 hpl hql e2 el HG HB
   go_enter Tryz.func52,Tryz.ntmps52
   go_wp2_with (at_builtin;refine Zp rfl _ _ _ rfl rfl rfl HR.out ?_;clear HR)
   go_ret;exact hfin.out
  ·have hln:((i:Int)+1<(n:Int)):=by omega
   have hln2:(i+1<n):=by omega
   have hln3:(((i+1:Nat):Int)<(n:Int)):=by omega
   have b1:((i:Int)+1<=(n:Int)):=by omega
   have b2:((i:Int)+1<=(c:Int)):=by omega
   have b3:¬ c=i+1:=by omega
   have h1:Hid (n-(i+1)=1):=Za (by omega);have hfit:Hid ((i+1)*5+5<=(splice C (i*5) (Zi qs)).length):=Za (by rw[S1.out,hC5];omega);have hfin:Hid (∀ W,W.heap[b]? = some (.cells (splice (splice C (i*5) (Zi qs)) ((i+1)*5) Zkg).toArray 54 (0,0))->w2.grownBy W (some b)->Z5s lo w (some ⟨b,0,none⟩) c (ps.take i++qs) (.returned (.slice (some ⟨b,0,none⟩) (i+1) c)) W):=Za fun W h1' h2'=>by
    refine⟨by rw[el],?_,Ys hb2 h2'⟩;rw[el];refine Xq hbl h1' (by omega) hcM (by rw[length_splice _ _ _ (by rw[hzl];exact hfit.out),S1.out,hC5]) ?_;rw[<- e2];exact Zeu (by have:=hfit.out;omega)
   replace hj:=Za hj;replace hjn:=Za hjn;clear eL hr2 hg2 hb2 h hf hqc hone honq hp1 hq1 hne hg hgf hC hC5 hCf hCf5 hpl hql e2 el
   go_enter Tryz.func52,Tryz.ntmps52
   go_wp2_with (first | (at_builtin;refine Zp rfl _ _ _ rfl rfl rfl HR.out ?_) | (refine Zas rfl _ rfl _ _ _ rfl h1.out b ((i+1)*5) rfl _ _ HG.out hfit.out ?_;intro w3 hg3 hb3))
   go_ret;exact hfin.out _ hg3.out hb3.out
 have hjn':¬ ((j:Int)=(n:Int)):=by omega
 have a8:¬ c=j:=by omega
 have hw1:IntKind.i64.wrap ((i:Int)+1)=(i:Int)+1:=by rw[IntKind.wrap_i64];omega
 obtain⟨tot,htot⟩:∃ tot,tot=i+1+(n-j):=⟨_,rfl⟩
 have hw3:IntKind.i64.wrap ((i:Int)+1+((n-j:Nat):Int))=(tot:Int):=by rw[IntKind.wrap_i64];omega
 have hd:Hid ((Zi (ps.drop j)).length=(n-j)*5):=Za (by rw[Yx,Qv,hpl]);have HO:=Za (Xd (ps:=ps.drop j) fun p hp=>hp1 p (Qw hp));have HQ:=Za honq;have el:(ps.take i++(qs++ps.drop j)).length=tot:=by rw[Ql,Ql,Qn,Qv,hpl,hql];omega
 have r1:(0:Int)<=(i:Int)+1:=by omega
 have r3:(i:Int)+1<=(tot:Int):=by omega
 have r4:((i:Int)+1).toNat=i+1:=by omega
 have r6:(i:Int)<=(tot:Int):=by omega
 have r7:(tot:Int)<=(c:Int):=by omega
 have r8:(tot:Int)<=(n:Int):=by omega
 have r9:(i:Int)+1<=(c:Int):=by omega
 have hgt:¬ ((c:Int)<(tot:Int)):=by omega
 have r2:¬ c=i+1:=by omega
 have hle:(i:Int)+1<=(j:Int):=by omega
 have S2:Hid ((splice (splice C (i*5) (Zi qs)) ((i+1)*5) (Zi (ps.drop j))).length=C.length):=Za (by rw[length_splice _ _ _ (by rw[S1.out,hd.out,hC5];omega),S1.out]);have Q2:Hid (∀ w2:P8,w.grownBy w2 (some b)->∀ j v,(Zi qs)[j]? = some v->w2.cell? ((⟨fb,0,none⟩:Qaa).add j)=some v):=Za fun w2 hb2 j v hj=>by
  refine(Qe ?_).trans (hqc j v hj);rw[Zh];exact hb2.block fb hfs (fun e=>hbf (by cases e;rfl))
 have P2:Hid (∀ w2:P8,w2.heap[b]? = some (.cells (splice C (i*5) (Zi qs)).toArray 54 (0,0))->∀ j' v,(Zi (ps.drop j))[j']? = some v->w2.cell? ((⟨b,j*5,none⟩:Qaa).add j')=some v):=Za fun w2 h2 j' v hj'=>by
  have h0:=Zbf h j j' v hj';have e:((⟨b,j*5,none⟩:Qaa).add j')=⟨b,j*5+j',none⟩:=Zai _ _ _;rw[e] at h0 ⊢;rw[Zc2 hg] at h0;rw[Zc2 h2,Ziw (by rw[hq5,hC5];omega) (by rw[hq5];omega)];exact h0
 have e2:(splice (splice C (i*5) (Zi qs)) ((i+1)*5) (Zi (ps.drop j))).take (tot*5)=Zi (ps.take i++(qs++ps.drop j)):=by
  have:=Zec (C:=C) (Y:=Zi qs) (X:=Zi (ps.drop j)) (a:=i*5) (b:=(i+1)*5) (by rw[hq5];omega) (by rw[hd.out,hC5];omega);rw[hd.out,show (i+1)*5+(n-j)*5=tot*5 by omega] at this;rw[this,Yi,Yi,X3,<- hC,Q5,Pb (by omega)]
 have hC5h:=Za hC5;have hgh:=Za hg;have hmin:=Za (Vv (a:=1) (b:=tot-i) (k:=1) (by omega));have hmin2:=Za (Vv (a:=n-j) (b:=tot-(i+1)) (k:=n-j) (by omega));have hroom':=Za (show i+1+(n-j)<=c by omega);have hdone:Hid (∀ (W w2:P8),w.grownBy w2 (some b)->W.heap[b]? = some (.cells (splice (splice C (i*5) (Zi qs)) ((i+1)*5) (Zi (ps.drop j))).toArray 54 (0,0))->w2.grownBy W (some b)->Z5s lo w (some ⟨b,0,none⟩) c (ps.take i++(qs++ps.drop j)) (.returned (.slice (some ⟨b,0,none⟩) tot c)) W):=Za fun W w2 h0 h1 h2=>by
  refine⟨by rw[el],?_,Ys h0 h2⟩;rw[el];exact Xq hbl h1 (by omega) hcM (by rw[S2.out,hC5]) e2
 have hdone2:Hid (∀ (W w2 w3:P8),tot*5+5<=C.length->w.grownBy w2 (some b)->w2.grownBy w3 (some b)->W.heap[b]? = some (.cells (splice (splice (splice C (i*5) (Zi qs)) ((i+1)*5) (Zi (ps.drop j))) (tot*5) Zkg).toArray 54 (0,0))->w3.grownBy W (some b)->Z5s lo w (some ⟨b,0,none⟩) c (ps.take i++(qs++ps.drop j)) (.returned (.slice (some ⟨b,0,none⟩) tot c)) W):=Za fun W w2 w3 hf0 h0 h1 h2 h3=>by
  refine⟨by rw[el],?_,Ys (Ys h0 h1) h3⟩;rw[el];refine Xq hbl h2 (by omega) hcM (by rw[length_splice _ _ _ (by rw[hzl,S2.out];exact hf0),S2.out,hC5]) ?_;rw[<- e2];exact Zeu (by rw[S2.out];omega)
 have hway:(c=tot/\n=tot)\/(¬ c=tot/\n-tot=0)\/(¬ c=tot/\n-tot=1):=by omega
 have hfit:Hid (n-tot=1->tot*5+5<=C.length):=Za (by rw[hC5];omega);replace htot:=Za htot;replace hj:=Za hj;clear hqc hone honq hp1 hq1 hne h hf hC hC5 hCf hCf5 hpl hql hg hgf el e2
 go_enter Tryz.func52,Tryz.ntmps52
 go_upto_region 9 with fail
 go_quiet (fail)
 go_upto_region 18 with (refine Yz rfl _ _ 39 39 rfl 54 Tryz.underlying39 X6 _ _ _ _ _ _ rfl rfl b (i*5) _ 54 hgh.out (Zi qs) 1 hmin.out hq5 rfl ⟨fb,0,none⟩ rfl (Q2.out _ (Zul _ _ _)) (by rw[hq5,hC5h.out];have:=hroom'.out;omega) HQ.out ?_;intro w2 hg2 hb2)
 go_still_tail 9,(by kernel_rfl)
 refine Yz rfl _ _ 39 39 rfl 54 Tryz.underlying39 X6 _ _ _ _ _ _ rfl rfl b ((i+1)*5) _ 54 hg2.out (Zi (ps.drop j)) (n-j) hmin2.out hd.out rfl ⟨b,j*5,none⟩ rfl (P2.out w2 hg2.out) (by rw[S1.out,hd.out,hC5h.out];have:=hroom'.out;omega) HO.out ?_;intro w3 hg3 hb3;rcases hway with ⟨h1,h2⟩ | ⟨h1,h2⟩ | ⟨h1,h2⟩
 ·subst h1
  have h0:n-c=0:=by omega
  go_wp2_with (refine Zap rfl _ 39 rfl 54 Tryz.underlying39 _ _ (by rw[<- h0];rfl) ?_)
  go_ret;exact hdone.out _ _ (Zcg hb2.out) hg3.out (Xx hb3.out)
 ·go_wp2_with (refine Zap rfl _ 39 rfl 54 Tryz.underlying39 _ _ (by rw[<- h2];rfl) ?_)
  go_ret;exact hdone.out _ _ (Zcg hb2.out) hg3.out (Xx hb3.out)
 ·have h2':=Za h2
  have hf2:Hid (tot*5+5<=(splice (splice C (i*5) (Zi qs)) ((i+1)*5) (Zi (ps.drop j))).length):=Za (by rw[S2.out];exact hfit.out h2);clear h2
  go_wp2_with (refine Zas rfl _ rfl _ _ _ rfl h2'.out b (tot*5) rfl _ _ hg3.out hf2.out ?_;intro w4 hg4 hb4)
  go_ret;exact hdone2.out _ _ _ (hfit.out h2'.out) (Zcg hb2.out) (Xx hb3.out) hg4.out hb4.out}
theorem Zfs {W W9:P8}{g lo size n:Nat}{t t':Qab}{v:P9}{xs:List P9}{cs:Array P9}(h:W.ownsRow lo t size v n xs) (hz:W.heap[g]? = some (.cells cs t' (0,0))) (ht:t≠t') (hg:W.grownBy W9 (some g)):W9.ownsRow lo t size v n xs:=by{
 refine⟨h.1,?_⟩;rcases h.2 with e | ⟨b,cap,cur,e,hb,hgg,r⟩
 ·exact .inl e
 ·have hne:b≠g:=fun e'=>by
   rw[e',hz] at hgg;simp at hgg;exact ht hgg.2.symm
  exact .inr ⟨b,cap,cur,e,hb,(hg.block b (Qd.1 hgg).1 (fun e'=>hne (Option.some.inj e'))).trans hgg,r⟩}
theorem Z52 {W:P8}{g:Nat}{t:Qab}{ok:Qaa->Prop}{cs:List P9}{b:List UInt8}(h:rBy ok W cs b) (hz:W.heap[g]? = some (.cells #[.int .i64 0,.slice none 0 0] t (0,0))):rBy (fun p=>ok p/\p.block≠g) W cs b:=by{
 have h8:∀ (p:Qaa) (x:Int),W.cell? p=some (.int .u8 x)->p.block≠g:=fun p x hc e=>by
  unfold Py at hc;rw[e,hz] at hc
  dsimp only at hc
  split at hc
  ·cases hc
  ·obtain⟨hlt,hu⟩:=Qd.1 hc
   have:=Array.getElem_mem hlt;rw[hu] at this;simp at this
 have hab:∀ (a:Qaa) (n:Nat),(a.add n).block=a.block:=fun a n=>by unfold Addr.add;split <;> rfl
 obtain⟨A,cap,e,l1,l2,h4⟩:=h;refine⟨A,cap,e,l1,l2,fun i x hx=> ?_⟩;obtain⟨ad,vs,eA,hv,hc,hu⟩:=h4 i x hx;unfold rU8 at hu;subst hu
 exact⟨ad,_,eA,hv,fun j v hj=>by
  obtain⟨h1,h2⟩:=hc j v hj;refine⟨⟨h1,?_⟩,h2⟩;have h0:=(hc 0 _ rfl).2;have:=h8 _ _ h0;rw[hab] at this ⊢
  exact this,rfl⟩}
theorem Zhc {P:Program}{Q:Exit->Act->P8->Prop}(Kr:Rk.KrT){id:Nat}{ops:Array Oper}{a:Act}{w:P8}(hm:P.follows .mixedOrders=true) (m:Nat) (C:P8->Prop) (phi:Nat->Option (P9->P8->Prop)) (fx:Nat->Option P9) (hms:m<=ops.size) (hok:Rb.okAs (ops.toList.take m).toArray a.tmps.size=true) (hlast:Zck ops m=true)
  (h1:Kr.C0 w.drew) (hon:((List.range m).all fun i=>i==Kr.k || !((phi i).isSome||(fx i).isSome)||Rk.leansOn (ops.toList.take m).toArray Kr.k m i)=true) (hC:C w.drew) (hCb:∀ w w',C w->Kr.rel w w'->C w') (hst:∀ (j:Nat) (φ:P9->P8->Prop) (x:P9) (w w':P8),phi j=some φ->φ x w->Kr.rel w w'->φ x w')
  (h:Rk.wpAs Kr P (ops.toList.take m).toArray C phi fx (fun a w=>wpList P ops Q (ops.toList.drop m) a w) 0 (ops.toList.take m) a []):(Code.region id ops true).wp P Q a w :=
 wp_region_any hm (Zg5 m C phi fx hms hok hlast h1 hon hC hCb hst h)
theorem Zpa {P:Program}{w w':P8}{o:Oper}{a:Act}{R:P9->P8->Prop}(s x:Operand) (t:Qab)
  (ho:o.op=.call { callee:=.builtin .append,args:=#[s,x],argTypes:=#[t,t] }) {v u v':P9} (hs:a.eval s=v) (hx:a.eval x=u)
  (hrun:(Qz #[t,t] o.type #[v,u]).run P w=.ok v' w') (h:R v' w'):Rb.doesUpon P R ((execOp a.eval o).run P w):=by
 unfold execOp;simp only[ho,resolve,invoke,builtin,Sem.run_bind,Sem.run_pure,Result.andThen_ok,List.map_toArray,List.map_cons,List.map_nil,hs,hx,hrun];exact h
def Z81 (t:Rm) (M:List It) (p:Nat) (L1:List It) (F:Option Qaa) (w:P8) (e:Qag) (w':P8):Prop:=∃ b c',e=.returned (.tuple #[.agg #[.int .i64 ((Yk t M p L1).1:Int),.int .i64 ((Yk t M p L1).2.1:Int)],.slice (some ⟨b,0,none⟩) (Yk t M p L1).2.2.length c',.int .i64 0]) /\
 Zae (Old w') w' [.slice (some ⟨b,0,none⟩) (Yk t M p L1).2.2.length c'] (Yk t M p L1).2.2/\w.grownBy w' (F.map (·.block))
theorem Z2u (qa qb qc qd:Option Qaa×Nat×Nat) (t:Rm) (lw:Int) (A:Option Qaa) (n c p:Nat) (M:List It) (F:Option Qaa) (lf m fc:Nat) (qs:List Iv) (L1:List It) (w:P8) (h:Sto (Old w) w (.agg #[.slice qa.1 qa.2.1 qa.2.2,.slice qb.1 qb.2.1 qb.2.2,.slice qc.1 qc.2.1 qc.2.2,.slice qd.1 qd.2.1 qd.2.2]) t)
  (hM:Zae (Old w) w [.slice A n c] M) (hn:M.length=n) (hp:p<n) (hn5:n<=5) (hR:∀ q∈M,rmE t q.2.1=0/\0<(rmV t q.2.1).2.length) (hF:w.ownsRow lf 54 5 (.slice F m fc) m (Zi qs)) (hqs:qs.map (·.1)=L1) (hm0:0<m) (hm5:m<=5)
  (hqi:∀ p∈qs,InI p.1/\rBy (fun a=>a.block<w.heap.size/\F.map (·.block)≠some a.block) w [p.2] p.1.2.2) (hlf:lf<=w.heap.size) :
  Qaf Tryz.prog 50 #[.agg #[.int .i64 lw,.slice A n c,.int .i64 (p:Int)],.agg #[.slice qa.1 qa.2.1 qa.2.2,.slice qb.1 qb.2.1 qb.2.2,.slice qc.1 qc.2.1 qc.2.2,.slice qd.1 qd.2.1 qd.2.2],.slice F m fc] w (Z81 t M p L1 F w):=by{
 obtain⟨ad,rfl⟩:∃ ad,A=some ad:=by
  obtain⟨ad,_,_,e,_⟩:=Zao hM (Qi (show p<M.length by omega));exact⟨ad,e⟩
 obtain⟨fa,rfl⟩:∃ fa,F=some fa:=by
  obtain⟨_,_,e,_,_,_,h5⟩:=Yj hF;cases e;exact h5 hm0
 obtain⟨fb,Cf,rfl,hfl,hfs,_⟩:=Yd hF;obtain⟨w1,hw1,-,-,-,hs1,hB1,b1⟩:=Y9 w (.int .i64 lw) (.slice (some ad) n c) (.int .i64 (p:Int)) 102;obtain⟨w2,hw2,b2,hs2,hB2⟩:=X4 w1 (.slice qa.1 qa.2.1 qa.2.2) (.slice qb.1 qb.2.1 qb.2.2) (.slice qc.1 qc.2.1 qc.2.2) (.slice qd.1 qd.2.1 qd.2.2) 29;obtain⟨w3,hw3,b3,hs3,hB3⟩:=Yc w2 (.int .i64 0) (.int .i64 0) 108;obtain⟨w4,hw4,b4,hs4,hB4⟩:=Yc w3 (.int .i64 (p:Int)) (.int .i64 1) 108;have hB34:=hB3.trans (hB4.mono hB3.size);have hB24:=hB2.trans (hB34.mono hB2.size);have hB14:=hB1.trans (hB24.mono hB1.size);have B4:=Za hB14;have SZ:=Za (show w1.heap.size=w.heap.size+1/\w2.heap.size=w.heap.size+2/\w3.heap.size=w.heap.size+3/\w4.heap.size=w.heap.size+4 from by omega);have G1:=(hB24.block w.heap.size (by omega)).trans b1;have G2:=(hB34.block w1.heap.size (by omega)).trans b2;have G3:=(hB4.block w2.heap.size (by omega)).trans b3;have KB1:=Za (fun W (hW:Qah w4.heap.size w4 W)=>(hW.block w.heap.size (by omega)).trans G1);have KB2:=Za (fun W (hW:Qah w4.heap.size w4 W)=>(hW.block w1.heap.size (by omega)).trans G2);have KB6:=Za (fun W (hW:Qah w4.heap.size w4 W)=>(hW.block w2.heap.size (by omega)).trans G3);have KB9:=Za (fun W (hW:Qah w4.heap.size w4 W)=>(hW.block w3.heap.size (by omega)).trans b4);have hS4:=Za (fun W (hW:Qah w4.heap.size w4 W)=>h.below (hB14.trans (hW.mono hB14.size)));have hM':=Za hM
 have hnb:Hid (∀ bs c0,M[bs]? = some c0->∃ (x lv:Int) (nl:Nat) (L5:List It),c0.2.1=x/\rmV t x=(lv,L5)/\Hid (L5.length=nl/\nl<=5/\0<nl)/\Hid (∀ W,Qah w4.heap.size w4 W->W.cell? ⟨(ad.add (bs*5)).block,(ad.add (bs*5)).off+3,none⟩=some (.int .i64 x)) /\
   Hid (∀ W,Qah w4.heap.size w4 W->Qaf Tryz.prog 36 #[.agg #[.slice qa.1 qa.2.1 qa.2.2,.slice qb.1 qb.2.1 qb.2.2,.slice qc.1 qc.2.1 qc.2.2,.slice qd.1 qd.2.1 qd.2.2],.int .i64 x] W fun e W'=>∃ Z zc,e=.returned (.tuple #[.agg #[.int .i64 lv,.slice Z nl zc],.int .i64 0])/\Yh rIt 5 54 w4.heap.size W' Z zc L5/\Qah W.heap.size W W')):=Za fun bs c0 hc0=>by
  obtain⟨ad',E,ce,e,_,_,_,h5⟩:=Vz hM hc0;cases e;obtain⟨h0,hpos⟩:=hR c0 (Qj hc0);refine⟨c0.2.1,(rmV t c0.2.1).1,(rmV t c0.2.1).2.length,(rmV t c0.2.1).2,rfl,rfl,Za ⟨rfl,(Zx (Z9 h0).1).1.2.2.1,hpos⟩,Za fun W hW=>(h5 W (hB14.trans (hW.mono hB14.size))).1.c3,Za fun W hW=> ?_⟩;refine(Zb0 _ t c0.2.1 W (h.below (hB14.trans (hW.mono hB14.size)))).mono ?_;rintro e W' ⟨u,rfl,⟨Z,zc,rfl,_,hr⟩,hb⟩;rw[h0];exact⟨Z,zc,rfl,hr.low Z0 hW.size,hb⟩
 have hF':=Za hF;have hqi':=Za hqi;have hqm:Hid (qs.length=m):=Za (Zbu hF);have hL1:Hid (L1.length=m):=Za (by rw[<- hqs,Q6,Zbu hF]);have hqs':=Za hqs;have hnn:=Za hn;obtain⟨g0,g1,g2,_⟩:=Zk G1;obtain⟨f0,f1,f2,_⟩:=Zk ((hB3.block w.heap.size (by omega)).trans ((hB2.block w.heap.size (by omega)).trans b1));obtain⟨u0,u1,uf,_⟩:=Zg G3;obtain⟨v0,v1,vf,_⟩:=Zg b4;obtain⟨R,hRe⟩:∃ R,Yk t M p L1=R:=⟨_,rfl⟩
 unfold Z81;rw[hRe]
 have hMe:Hid (Yk t M p L1=match M[p+1]? with
  | some c=>if (rmV t c.2.1).2.length+L1.length<=5 then (p,2,L1++(rmV t c.2.1).2) else (p,1,L1)
  | none=>if p=0 then (p,1,L1) else match M[p-1]? with
   | some b=>if (rmV t b.2.1).2.length+L1.length<=5 then (p-1,2,(rmV t b.2.1).2++L1) else (p,1,L1)
   | none=>(p,1,L1)):=Za rfl
 rw[hRe] at hMe;replace hRe:=Za hRe;replace hs1:=Za hs1;replace hs2:=Za hs2;replace hs3:=Za hs3;replace hs4:=Za hs4;have halone:Hid (∀ W,Qah w.heap.size w W->R=(p,1,L1)->∃ b c',Ending.returned (.tuple #[.agg #[.int .i64 (p:Int),.int .i64 1],.slice (some ⟨fb,0,none⟩) m fc,.int .i64 0])=.returned (.tuple #[.agg #[.int .i64 (R.1:Int),.int .i64 (R.2.1:Int)],.slice (some ⟨b,0,none⟩) R.2.2.length c',.int .i64 0])/\Zae (Old W) W [.slice (some ⟨b,0,none⟩) R.2.2.length c'] R.2.2/\w.grownBy W ((some (⟨fb,0,none⟩:Qaa)).map (·.block))):=Za fun W hb he=>by
  rw[he];refine⟨fb,fc,by rw[hL1.out];rfl,?_,⟨hb.os,hb.tape,hb.output,hb.size,fun k hk _=>hb.block k hk⟩⟩;rw[hL1.out];have:=Zem (Zw hF'.out hb) (fun p hp=>⟨(hqi'.out p hp).1,Zf _ _ _ _ _ _ (fun a v ha hc=>⟨Qh ha.1 hb.size,(hb.cell ha.1).trans hc⟩) (hqi'.out p hp).2⟩)
  rwa [hqs'.out] at this
 have honq:=Za (Zf8 hqi);have i1:IntKind.i64.wrap ((p:Int)+1)=((p+1:Nat):Int):=by rw[IntKind.wrap_i64];omega
 clear h hM hR hF hqi hqs hn hB1 hB2 hB3 hB4 hB34 hB24 hB14 b1 b2 b3 b4 G1 G2 G3
 go_enter Tryz.func50,Tryz.ntmps50
 by_cases hA:p+1<n
 ·obtain⟨bs,hbs⟩:∃ bs,bs=p+1:=⟨_,rfl⟩
  rw[<- hbs] at i1;have t0:((bs:Int)==(n:Int))=false:=by simp;omega
  have t1:¬ ((bs:Int)<0):=by omega
  have t2:(0:Int)<=(bs:Int):=by omega
  have t3:(bs:Int)<(n:Int):=by omega
  have t4:bs<n:=by omega
  have t5:¬ ((bs:Int)<(p:Int)):=by omega
  have t6:¬ (bs<p):=by omega
  obtain⟨c0,hc0⟩:∃ c0,M[bs]? = some c0:=⟨_,Qi (by rw[hnn.out];omega)⟩
  obtain⟨x,lv,nl,L5,hx,hx5,hL5l,hcf,HN⟩:=hnb.out bs c0 hc0
  have hR2:Hid (R=if L5.length+L1.length<=5 then (p,2,L1++L5) else (p,1,L1)):=Za (by
   rw[hMe.out,<- hbs,hc0]
   simp only[hx,hx5])
  have hn5':nl<=5:=hL5l.out.2.1;have hn0':=Za hL5l.out.2.2;replace hL5l:=Za hL5l.out.1;have i3:IntKind.i64.wrap ((m:Int)+(nl:Int))=(m:Int)+(nl:Int):=by rw[IntKind.wrap_i64];omega
  replace hx:=Za hx;replace hx5:=Za hx5;replace hc0:=Za hc0;replace hbs:=Za hbs;clear hnb
  go_upto_region 7 with fail
  refine X8 (ops' := ?opsLateA) (by kernel_rfl) [(13,11)] ?heA (by kernel_rfl) (fun d _ _ _ _ h=>by cases d <;> exact h) 13 (fun W=>Qah w4.heap.size w4 W) (fun i=>match i with
   | 8=>some (fun v W=>∃ Z zc,v=.tuple #[.agg #[.int .i64 lv,.slice Z nl zc],.int .i64 0]/\Yh rIt 5 54 w4.heap.size W Z zc L5)
   | 9=>some (fun v W=>∃ Z zc,v=.tuple #[.agg #[.int .i64 lv,.slice Z nl zc],.int .i64 0]/\Yh rIt 5 54 w4.heap.size W Z zc L5)
   | 10=>some (fun v W=>∃ Z zc,v=.agg #[.int .i64 lv,.slice Z nl zc]/\Yh rIt 5 54 w4.heap.size W Z zc L5)
   | 12=>some (fun v W=>∃ g,v=.pointer (some ⟨g,0,none⟩)/\w4.heap.size<=g/\W.heap[g]? = some (.cells #[.int .i64 0,.slice none 0 0] 81 (0,0)))
   | _=>none) (fun i=>match i with
   | 11=>some (.int .i64 0)
   | _=>none) ?h1A ?h2A ?h3A (Qa _ _).drew (fun w w' h hb=>h.trans (hb.mono h.size)) ?tstA ?_
  case heA =>
   simp[Yb];rfl
  case h1A=>decide
  case h2A=>kernel_rfl
  case h3A=>kernel_rfl
  case tstA =>
   intro j φ x W W' hp hx hb
   match j,hp with
   | 8,hp=>cases hp;obtain⟨Z,zc,e,h⟩:=hx;exact⟨Z,zc,e,h.below Z0 hb⟩
   | 9,hp=>cases hp;obtain⟨Z,zc,e,h⟩:=hx;exact⟨Z,zc,e,h.below Z0 hb⟩
   | 10,hp=>cases hp;obtain⟨Z,zc,e,h⟩:=hx;exact⟨Z,zc,e,h.below Z0 hb⟩
   | 12,hp=>cases hp;obtain⟨g,e,h1,h2⟩:=hx;exact⟨g,e,h1,(hb.block g (Qd.1 h2).1).trans h2⟩
  simp only[Qq,Qp,Qr,Qs]
  repeat (first
   | (refine wpAs_skip rfl ?_;simp only[Qb,Zb,Zc,Zd])
   | (refine wpAs_pure (v := ?_) rfl rfl ?_ ?_;rotate_left;(intro W hC hE;clear hE;(obtain⟨k0,k1,k2,k3,_⟩:=Ze (KB2.out W hC);obtain⟨p0,p1,p2,_⟩:=Zk (KB1.out W hC);have cf:=hcf.out W hC);clear hC;go_simp;first | done | with_reducible rfl);simp only[Qb,Zb,Zc,Zd]))
  refine wpAs_act rfl rfl ?_ ?_
  ·intro W hC hE
   clear hE;refine does_enter (f:=36) (args:=#[.agg #[.slice qa.1 qa.2.1 qa.2.2,.slice qb.1 qb.2.1 qb.2.2,.slice qc.1 qc.2.1 qc.2.2,.slice qd.1 qd.2.1 qd.2.2],.int .i64 x]) ?_ ?_
   ·go_simp
   ·refine(HN.out W hC).mono ?_
    rintro e W' ⟨Z,zc,rfl,hI,hb⟩;exact⟨_,rfl,⟨Z,zc,rfl,hI⟩,hb⟩
  simp only[Qb,Zb,Zc,Zd,envAdd];intro x2;refine wpAs_act rfl rfl ?_ ?_
  ·intro W hC hE
   have h7:=hE.1 rfl;clear hE hC
   go_simp
   exact⟨h7,Qa _ _⟩
  simp only[Qb,Zb,Zc,Zd,envAdd];intro x3;refine wpAs_act rfl rfl ?_ ?_
  ·intro W hC hE
   obtain⟨Z,zc,rfl,hI⟩:=hE.1 rfl;have hI':=Za hI;clear hE hC hI
   go_simp
   exact⟨⟨Z,zc,rfl,hI'.out⟩,Qa _ _⟩
  simp only[Qb,Zb,Zc,Zd,envAdd];intro x4;refine wpAs_fixed rfl rfl rfl ?_ ?_
  ·intro W hC hE
   obtain⟨Z,zc,rfl,hI⟩:=hE.2.1 rfl;clear hE hC hI
   go_simp
   exact⟨rfl,Qa _ _⟩
  simp only[Qb,Zb,Zc,Zd];refine wpAs_act rfl rfl ?_ ?_
  ·intro W hC hE
   have hs:=hC.size;clear hE hC
   go_simp
   exact⟨⟨W.heap.size,rfl,hs,Qad _ _⟩,(Qa _ _).alloc (Qc _) _⟩
  simp only[Qb,Zb,Zc,Zd,envAdd];intro x6;refine wpAs_end fun W hC hE=> ?_
  obtain⟨⟨g,rfl,hg,hzz⟩,⟨Z,zc,rfl,hI⟩,_⟩:=hE;obtain⟨c0,c1,c2,_⟩:=Zg hzz;obtain⟨w8,hW9,g9,gr9,gs9⟩:=Xt (u:=.int .i64 lv) (v:=.slice Z nl zc) hzz;have hb9:=hC.grown gr9 hC.size (fun q e=>by cases e;exact hg);obtain⟨zs,e1,e2,e3⟩:=Uu hI;rw[hL5l.out] at e2;have e2':=Zfs e2 hzz (by decide) gr9;have HZ:=Za (show (∀ p∈zs,InI p.1/\rBy (fun a=>w4.heap.size<=a.block/\a.block<w8.heap.size/\Z.map (·.block)≠some a.block) w8 [p.2] p.1.2.2) from fun p hp=>⟨(e3 p hp).1,Zf _ _ _ _ _ _ (fun a v ha hc=>⟨⟨ha.1.1.1,Qh ha.1.1.2.1 gr9.size,ha.1.2⟩,(Qe (gr9.block a.block ha.1.1.2.1 (fun e=>ha.2 (Option.some.inj e)))).trans hc⟩) (Z52 (e3 p hp).2 hzz)⟩);have HO:=Za e2';have HB:=Za hb9;have HL:=Za e1;have G9:=Za g9;have a1:=KB1.out w8 hb9;have a6:=KB6.out w8 hb9;have a9:=KB9.out w8 hb9;obtain⟨p0,p1,p2,_⟩:=Zk a1;obtain⟨m0,m1,mf,_⟩:=Zg a6;obtain⟨d0,d1,df,_⟩:=Zg a9;obtain⟨n0,n1,_⟩:=Zg g9;replace a6:=Za a6;replace gr9:=Za gr9;replace gs9:=Za gs9;replace hg:=Za hg;clear hC hI hzz hb9 e1 e2 e2' e3 a1 a9;replace g9:=Za g9
  go_upto_region 10 with fail
  clear hW9 c0 c1 c2;by_cases hmany:5<m+nl
  ·have j1:(5:Int)<(m:Int)+(nl:Int):=by omega
   obtain⟨W9,hW9,g10,gr10,gs10⟩:=Xt (u:=.int .i64 (p:Int)) (v:=.int .i64 1) a6.out;have hfin:=Za (halone.out W9 ((B4.out.trans (HB.out.mono B4.out.size)).grown gr10 (B4.out.trans (HB.out.mono B4.out.size)).size (fun q e=>by cases e;have:=SZ.out;omega)) (by rw[hR2.out,if_neg (by rw[hL5l.out,hL1.out];omega)]));obtain⟨y0,y1,_⟩:=Zg g10;clear g10 gr10 gs10
   go_wp2_with fail
   exact Qac (v:=.tuple #[.agg #[.int .i64 (p:Int),.int .i64 1],.slice (some ⟨fb,0,none⟩) m fc,.int .i64 0]) (by simp[results,Tryz.results50,go_sem,y0,y1]) rfl hfin.out
  have j1:¬ ((5:Int)<(m:Int)+(nl:Int)):=by omega
  obtain⟨zad,rfl⟩:∃ zad,Z=some zad:=by
   obtain⟨_,_,e,_,_,_,h5⟩:=Yj HO.out;cases e;exact h5 hn0'.out
  obtain⟨zb,CZ,rfl,hzl,hzs,_⟩:=Yd HO.out;obtain⟨i0,hi0,hz0,hz1,hz2⟩:=info_parts Vk;have hFw:=Zw (Zw hF'.out B4.out) HB.out;obtain⟨v',W1,hr,o1,gg1,bb1,kk1⟩:=Zdo (P:=Tryz.prog) (w:=w8.drew) lf 39 39 54 i0 (.agg #[.int .u8 0,.int .u32 0,.int .u32 0,.int .i64 0,.slice none 0 0]) 5 48 Tryz.underlying39 hi0 hz0 hz1 hz2 rfl (by decide) _ _ _ (show w8.drew.ownsRow lf 54 5 (.slice (some ⟨fb,0,none⟩) m fc) m (Zi qs) from hFw) ⟨zb,0,none⟩ nl zc (Zi zs) HO.out.1 (fun j u hj=>HO.out.cells (g:=zb) rfl j u hj) (Xd (Zf8 HZ.out)) (by unfold maxLen;omega) (by omega) (show lf<=w8.heap.size from Qf hlf (Qf B4.out.size HB.out.size));obtain⟨A2,c2,rfl,_,_,_,h5⟩:=Yj o1;obtain⟨ad2,rfl⟩:=h5 (by omega);obtain⟨b2,_,rfl,_⟩:=Yd o1;have hgb:w8.grownBy W1 (some fb):=Xx gg1;have hBw:Qah w.heap.size w w8:=B4.out.trans (HB.out.mono B4.out.size);have hsz8:=hBw.size;have ka:∀ k,k<w8.heap.size->k≠fb->W1.heap[k]? = w8.heap[k]? := fun k h1 h2=>hgb.block k h1 (fun e=>h2 (Option.some.inj e))
  have z1:W1.heap[w.heap.size]? = w8.heap[w.heap.size]? := ka _ (by have:=HB.out.size;have:=SZ.out;omega) (by omega);have z6:W1.heap[w2.heap.size]? = some (.cells #[.int .i64 0,.int .i64 0] 108 (0,0)):=(ka _ (by have:=HB.out.size;have:=SZ.out;omega) (by have:=SZ.out;omega)).trans a6.out;have zg:W1.heap[g]? = w8.heap[g]? := ka _ (Qd.1 G9.out).1 (by have:=hg.out;have:=SZ.out;omega)
  have K1:=Za (fun W (hW:W=w8.drew\/W=W1)=>(show W.heap[w.heap.size]? = _ from by
   rcases hW with rfl | rfl
   ·exact KB1.out w8 HB.out
   ·exact z1.trans (KB1.out w8 HB.out)))
  have KG:=Za (fun W (hW:W=w8.drew\/W=W1)=>(show W.heap[g]? = _ from by
   rcases hW with rfl | rfl
   ·exact G9.out
   ·exact zg.trans G9.out))
  obtain⟨W9,hW9,g10,gr10,gs10⟩:=Xt (u:=.int .i64 (p:Int)) (v:=.int .i64 2) z6;obtain⟨y0,y1,_⟩:=Zg g10;obtain⟨x0,x1,xf,_⟩:=Zg z6
  have hfin:Hid (∃ b c',Ending.returned (.tuple #[.agg #[.int .i64 (p:Int),.int .i64 2],.slice (some ⟨b2,0,none⟩) (m+nl) c2,.int .i64 0])=.returned (.tuple #[.agg #[.int .i64 (R.1:Int),.int .i64 (R.2.1:Int)],.slice (some ⟨b,0,none⟩) R.2.2.length c',.int .i64 0])/\Zae (Old W9) W9 [.slice (some ⟨b,0,none⟩) R.2.2.length c'] R.2.2/\w.grownBy W9 ((some (⟨fb,0,none⟩:Qaa)).map (·.block))):=Za (by
   have eR:R=(p,2,L1++L5):=by rw[hR2.out,if_pos (by rw[hL5l.out,hL1.out];omega)]
   have el:(L1++L5).length=m+nl:=by rw[Ql,hL5l.out,hL1.out]
   have hgA:w.grownBy W9 (some fb):=by
    have h1:=Ys ⟨hBw.os,hBw.tape,hBw.output,hBw.size,fun k hk _=>hBw.block k hk⟩ hgb;refine⟨gr10.os.trans h1.os,gr10.tape.trans h1.tape,gr10.output.trans h1.output,Qf h1.size gr10.size,fun k hk hne=>(gr10.block k (Qh hk h1.size) (fun e=> ?_)).trans (h1.block k hk hne)⟩;have:=Option.some.inj e;have:=SZ.out;omega
   rw[eR];refine⟨b2,c2,by rw[el];rfl,?_,hgA⟩;rw[el];have hco:Zi (qs++zs)=Zi qs++Zi zs:=Yi _ _;have hO9:W9.ownsRow lf 54 5 (.slice (some ⟨b2,0,none⟩) (m+nl) c2) (m+nl) (Zi (qs++zs)):=Zfs (by rw[hco];exact o1) z6 (by decide) gr10;have:=Zem hO9 (fun q hq=> ?_)
   ·rwa [Qx,hqs'.out,HL.out] at this
   ·rcases Qg.1 hq with hq | hq
    ·refine⟨(hqi'.out q hq).1,Zf _ _ _ _ _ _ (fun a v ha hc=> ?_) (hqi'.out q hq).2⟩
     have h1:a.block≠fb:=fun e=>ha.2 (by rw[e];rfl)
     have hb:=(gr10.block a.block (by have:=ha.1;have:=hgb.size;omega) (fun e=>by have:=Option.some.inj e;have:=ha.1;have:=SZ.out;omega)).trans ((ka a.block (by have:=ha.1;omega) h1).trans (hBw.block a.block ha.1));exact⟨Qh ha.1 (Qf hsz8 (Qf hgb.size gr10.size)),(Qe hb).trans hc⟩
    ·refine⟨(HZ.out q hq).1,Zf _ _ _ _ _ _ (fun a v ha hc=> ?_) (HZ.out q hq).2⟩
     have hb:=(gr10.block a.block (by have:=ha.2.1;have:=hgb.size;omega) (fun e=>by have:=Option.some.inj e;have:=ha.1;have:=SZ.out;omega)).trans (ka a.block ha.2.1 (by have:=ha.1;have:=SZ.out;omega))
     exact⟨Qh ha.2.1 (Qf hgb.size gr10.size),(Qe hb).trans hc⟩)
  have HR:=Za hr;clear hr o1 gg1 bb1 kk1 hgb ka z1 zg g10 gr10 gs10 hFw hi0 hz0 hz1 hz2 hBw hzl hzs;replace z6:=Za z6
  go_upto_region 14 with fail
  clear p0 p1 p2 n0 n1 d0 d1 df m0 m1 mf
  refine Zhc ⟨fun W W'=>W'=W\/(W=w8.drew/\W'=W1),6,fun W=>W=w8.drew⟩ (by kernel_rfl) 7 (fun W=>W=w8.drew\/W=W1) (fun i=>match i with
   | 6=>some (fun v W=>v=.slice (some ⟨b2,0,none⟩) (m+nl) c2/\W=W1)
   | _=>none) (fun _=>none) ?h1J ?h2J ?h3J rfl ?honJ (.inl rfl) (fun W W' h hr=> ?hcbJ) ?tstJ ?_
  case h1J=>decide
  case h2J=>kernel_rfl
  case h3J=>kernel_rfl
  case honJ=>kernel_rfl
  case hcbJ =>
   rcases hr with rfl | ⟨_,rfl⟩
   ·exact h
   ·exact .inr rfl
  case tstJ =>
   intro j φ v W W' hp hx hr
   match j,hp with
   | 6,hp =>
    cases hp;obtain⟨e1,e2⟩:=hx;rcases hr with rfl | ⟨_,rfl⟩
    ·exact⟨e1,e2⟩
    ·exact⟨e1,rfl⟩
  simp only[Qq,Qp,Qr,Qs]
  repeat (first
   | (refine Rk.wpAs_skip rfl ?_;simp only[Qb,Zb,Zc,Zd])
   | (refine Rk.wpAs_pure (v := ?_) rfl rfl ?_ ?_;rotate_left;(intro W hC hE;clear hE;(obtain⟨p0,p1,p2,_⟩:=Zk (K1.out W hC);obtain⟨n0,n1,_⟩:=Zg (KG.out W hC));clear hC;go_simp;first | done | with_reducible rfl);simp only[Qb,Zb,Zc,Zd]))
  refine Rk.wpAs_act rfl rfl ?_ ?_
  ·intro W hC hk hE
   obtain rfl:=hk rfl;clear hE hC;exact Zpa _ _ _ rfl rfl rfl HR.out ⟨⟨rfl,rfl⟩,.inr ⟨rfl,rfl⟩⟩
  simp only[Qb,Zb,Zc,Zd,Rb.envAdd];intro x9
  repeat (first
   | (refine Rk.wpAs_skip rfl ?_;simp only[Qb,Zb,Zc,Zd])
   | (refine Rk.wpAs_pure (v := ?_) rfl rfl ?_ ?_;rotate_left;(intro W hC hE;clear hE;skip;clear hC;go_simp;first | done | with_reducible rfl);simp only[Qb,Zb,Zc,Zd]))
  refine Rk.wpAs_end fun W hC hE=> ?_
  obtain⟨⟨rfl,rfl⟩,_⟩:=hE
  go_wp2_with fail
  exact Qac (v:=.tuple #[.agg #[.int .i64 (p:Int),.int .i64 2],.slice (some ⟨b2,0,none⟩) (m+nl) c2,.int .i64 0]) (by simp[results,Tryz.results50,go_sem,y0,y1]) rfl hfin.out
 ·have hpn:p+1=n:=by omega
  rw[hpn] at i1;have hMn:Hid (M[p+1]? = none):=Za (List.getElem?_eq_none (by rw[hnn.out];omega));by_cases h0:p=0
  ·have i2:IntKind.i64.wrap ((p:Int)-1) = -1:=by rw[IntKind.wrap_i64];omega
   have a6:=KB6.out w4 (Qa _ _);obtain⟨W9,hW9,g10,gr10,gs10⟩:=Xt (u:=.int .i64 (p:Int)) (v:=.int .i64 1) a6;have hfin:=Za (halone.out W9 (B4.out.grown gr10 B4.out.size (fun q e=>by cases e;have:=SZ.out;omega)) (by rw[hMe.out,hMn.out];simp only[if_pos h0]));obtain⟨y0,y1,_⟩:=Zg g10;replace h0:=Za h0;replace hpn:=Za hpn;clear g10 gr10 gs10 a6
   go_wp2_with fail
   exact Qac (v:=.tuple #[.agg #[.int .i64 (p:Int),.int .i64 1],.slice (some ⟨fb,0,none⟩) m fc,.int .i64 0]) (by simp[results,Tryz.results50,go_sem,y0,y1]) rfl hfin.out
  ·obtain⟨bs,hbs⟩:∃ bs,bs=p-1:=⟨_,rfl⟩
   have i2:IntKind.i64.wrap ((p:Int)-1)=(bs:Int):=by rw[IntKind.wrap_i64];omega
   have t1:¬ ((bs:Int)<0):=by omega
   have t2:(0:Int)<=(bs:Int):=by omega
   have t3:(bs:Int)<(n:Int):=by omega
   have t4:bs<n:=by omega
   have t5:((bs:Int)<(p:Int)):=by omega
   have t6:(bs<p):=by omega
   obtain⟨c0,hc0⟩:∃ c0,M[bs]? = some c0:=⟨_,Qi (by rw[hnn.out];omega)⟩
   obtain⟨x,lv,nl,L5,hx,hx5,hL5l,hcf,HN⟩:=hnb.out bs c0 hc0
   have hR2:Hid (R=if L5.length+L1.length<=5 then (bs,2,L5++L1) else (p,1,L1)):=Za (by
    rw[hMe.out,hMn.out];simp only[if_neg h0];rw[<- hbs,hc0]
    simp only[hx,hx5])
   have hn5':nl<=5:=hL5l.out.2.1;have hn0':=Za hL5l.out.2.2;replace hL5l:=Za hL5l.out.1;have i3:IntKind.i64.wrap ((m:Int)+(nl:Int))=(m:Int)+(nl:Int):=by rw[IntKind.wrap_i64];omega
   replace hx:=Za hx;replace hx5:=Za hx5;replace hc0:=Za hc0;replace hbs:=Za hbs;replace h0:=Za h0;replace hpn:=Za hpn;clear hnb
   go_upto_region 7 with fail
   refine X8 (ops' := ?opsLateC) (by kernel_rfl) [(13,11)] ?heC (by kernel_rfl) (fun d _ _ _ _ h=>by cases d <;> exact h) 13 (fun W=>Qah w4.heap.size w4 W) (fun i=>match i with
    | 8=>some (fun v W=>∃ Z zc,v=.tuple #[.agg #[.int .i64 lv,.slice Z nl zc],.int .i64 0]/\Yh rIt 5 54 w4.heap.size W Z zc L5)
    | 9=>some (fun v W=>∃ Z zc,v=.tuple #[.agg #[.int .i64 lv,.slice Z nl zc],.int .i64 0]/\Yh rIt 5 54 w4.heap.size W Z zc L5)
    | 10=>some (fun v W=>∃ Z zc,v=.agg #[.int .i64 lv,.slice Z nl zc]/\Yh rIt 5 54 w4.heap.size W Z zc L5)
    | 12=>some (fun v W=>∃ g,v=.pointer (some ⟨g,0,none⟩)/\w4.heap.size<=g/\W.heap[g]? = some (.cells #[.int .i64 0,.slice none 0 0] 81 (0,0)))
    | _=>none) (fun i=>match i with
    | 11=>some (.int .i64 0)
    | _=>none) ?h1C ?h2C ?h3C (Qa _ _).drew (fun w w' h hb=>h.trans (hb.mono h.size)) ?tstC ?_
   case heC =>
    simp[Yb];rfl
   case h1C=>decide
   case h2C=>kernel_rfl
   case h3C=>kernel_rfl
   case tstC =>
    intro j φ x W W' hp hx hb
    match j,hp with
    | 8,hp=>cases hp;obtain⟨Z,zc,e,h⟩:=hx;exact⟨Z,zc,e,h.below Z0 hb⟩
    | 9,hp=>cases hp;obtain⟨Z,zc,e,h⟩:=hx;exact⟨Z,zc,e,h.below Z0 hb⟩
    | 10,hp=>cases hp;obtain⟨Z,zc,e,h⟩:=hx;exact⟨Z,zc,e,h.below Z0 hb⟩
    | 12,hp=>cases hp;obtain⟨g,e,h1,h2⟩:=hx;exact⟨g,e,h1,(hb.block g (Qd.1 h2).1).trans h2⟩
   simp only[Qq,Qp,Qr,Qs]
   repeat (first
    | (refine wpAs_skip rfl ?_;simp only[Qb,Zb,Zc,Zd])
    | (refine wpAs_pure (v := ?_) rfl rfl ?_ ?_;rotate_left;(intro W hC hE;clear hE;(obtain⟨k0,k1,k2,k3,_⟩:=Ze (KB2.out W hC);obtain⟨p0,p1,p2,_⟩:=Zk (KB1.out W hC);have cf:=hcf.out W hC);clear hC;go_simp;first | done | with_reducible rfl);simp only[Qb,Zb,Zc,Zd]))
   refine wpAs_act rfl rfl ?_ ?_
   ·intro W hC hE
    clear hE;refine does_enter (f:=36) (args:=#[.agg #[.slice qa.1 qa.2.1 qa.2.2,.slice qb.1 qb.2.1 qb.2.2,.slice qc.1 qc.2.1 qc.2.2,.slice qd.1 qd.2.1 qd.2.2],.int .i64 x]) ?_ ?_
    ·go_simp
    ·refine(HN.out W hC).mono ?_
     rintro e W' ⟨Z,zc,rfl,hI,hb⟩;exact⟨_,rfl,⟨Z,zc,rfl,hI⟩,hb⟩
   simp only[Qb,Zb,Zc,Zd,envAdd];intro x2;refine wpAs_act rfl rfl ?_ ?_
   ·intro W hC hE
    have h7:=hE.1 rfl;clear hE hC
    go_simp
    exact⟨h7,Qa _ _⟩
   simp only[Qb,Zb,Zc,Zd,envAdd];intro x3;refine wpAs_act rfl rfl ?_ ?_
   ·intro W hC hE
    obtain⟨Z,zc,rfl,hI⟩:=hE.1 rfl;have hI':=Za hI;clear hE hC hI
    go_simp
    exact⟨⟨Z,zc,rfl,hI'.out⟩,Qa _ _⟩
   simp only[Qb,Zb,Zc,Zd,envAdd];intro x4;refine wpAs_fixed rfl rfl rfl ?_ ?_
   ·intro W hC hE
    obtain⟨Z,zc,rfl,hI⟩:=hE.2.1 rfl;clear hE hC hI
    go_simp
    exact⟨rfl,Qa _ _⟩
   simp only[Qb,Zb,Zc,Zd];refine wpAs_act rfl rfl ?_ ?_
   ·intro W hC hE
    have hs:=hC.size;clear hE hC
    go_simp
    exact⟨⟨W.heap.size,rfl,hs,Qad _ _⟩,(Qa _ _).alloc (Qc _) _⟩
   simp only[Qb,Zb,Zc,Zd,envAdd];intro x6;refine wpAs_end fun W hC hE=> ?_
   obtain⟨⟨g,rfl,hg,hzz⟩,⟨Z,zc,rfl,hI⟩,_⟩:=hE;obtain⟨c0,c1,c2,_⟩:=Zg hzz;obtain⟨w8,hW9,g9,gr9,gs9⟩:=Xt (u:=.int .i64 lv) (v:=.slice Z nl zc) hzz;have hb9:=hC.grown gr9 hC.size (fun q e=>by cases e;exact hg);obtain⟨zs,e1,e2,e3⟩:=Uu hI;rw[hL5l.out] at e2;have e2':=Zfs e2 hzz (by decide) gr9;have HZ:=Za (show (∀ p∈zs,InI p.1/\rBy (fun a=>w4.heap.size<=a.block/\a.block<w8.heap.size/\Z.map (·.block)≠some a.block) w8 [p.2] p.1.2.2) from fun p hp=>⟨(e3 p hp).1,Zf _ _ _ _ _ _ (fun a v ha hc=>⟨⟨ha.1.1.1,Qh ha.1.1.2.1 gr9.size,ha.1.2⟩,(Qe (gr9.block a.block ha.1.1.2.1 (fun e=>ha.2 (Option.some.inj e)))).trans hc⟩) (Z52 (e3 p hp).2 hzz)⟩);have HO:=Za e2';have HB:=Za hb9;have HL:=Za e1;have G9:=Za g9;have a1:=KB1.out w8 hb9;have a6:=KB6.out w8 hb9;have a9:=KB9.out w8 hb9;obtain⟨p0,p1,p2,_⟩:=Zk a1;obtain⟨m0,m1,mf,_⟩:=Zg a6;obtain⟨d0,d1,df,_⟩:=Zg a9;obtain⟨n0,n1,_⟩:=Zg g9;replace a6:=Za a6;replace gr9:=Za gr9;replace gs9:=Za gs9;replace hg:=Za hg;clear hC hI hzz hb9 e1 e2 e2' e3 a1 a9;replace g9:=Za g9
   go_upto_region 10 with fail
   clear hW9 c0 c1 c2;by_cases hmany:5<m+nl
   ·have j1:(5:Int)<(m:Int)+(nl:Int):=by omega
    obtain⟨W9,hW9,g10,gr10,gs10⟩:=Xt (u:=.int .i64 (p:Int)) (v:=.int .i64 1) a6.out;have hfin:=Za (halone.out W9 ((B4.out.trans (HB.out.mono B4.out.size)).grown gr10 (B4.out.trans (HB.out.mono B4.out.size)).size (fun q e=>by cases e;have:=SZ.out;omega)) (by rw[hR2.out,if_neg (by rw[hL5l.out,hL1.out];omega)]));obtain⟨y0,y1,_⟩:=Zg g10;clear g10 gr10 gs10
    go_wp2_with fail
    exact Qac (v:=.tuple #[.agg #[.int .i64 (p:Int),.int .i64 1],.slice (some ⟨fb,0,none⟩) m fc,.int .i64 0]) (by simp[results,Tryz.results50,go_sem,y0,y1]) rfl hfin.out
   have j1:¬ ((5:Int)<(m:Int)+(nl:Int)):=by omega
   obtain⟨zad,rfl⟩:∃ zad,Z=some zad:=by
    obtain⟨_,_,e,_,_,_,h5⟩:=Yj HO.out;cases e;exact h5 hn0'.out
   obtain⟨zb,CZ,rfl,hzl,hzs,_⟩:=Yd HO.out;obtain⟨i0,hi0,hz0,hz1,hz2⟩:=info_parts Vk;have hFw:=Zw (Zw hF'.out B4.out) HB.out;obtain⟨v',W1,hr,o1,gg1,bb1,kk1⟩:=Zdo (P:=Tryz.prog) (w:=w8) w4.heap.size 39 39 54 i0 (.agg #[.int .u8 0,.int .u32 0,.int .u32 0,.int .i64 0,.slice none 0 0]) 5 48 Tryz.underlying39 hi0 hz0 hz1 hz2 rfl (by decide) _ _ _ HO.out ⟨fb,0,none⟩ m fc (Zi qs) hFw.1 (fun j u hj=>hFw.cells (g:=fb) rfl j u hj) (Xd honq.out) (by unfold maxLen;omega) (by omega) (Qf (Qc _) HB.out.size);obtain⟨A2,c2,rfl,_,_,_,h5⟩:=Yj o1;obtain⟨ad2,rfl⟩:=h5 (by omega);obtain⟨b2,_,rfl,_⟩:=Yd o1;have hgb:w8.grownBy W1 (some zb):=gg1;have hBw:Qah w.heap.size w w8:=B4.out.trans (HB.out.mono B4.out.size);have hsz8:=hBw.size;have ka:∀ k,k<w8.heap.size->k≠zb->W1.heap[k]? = w8.heap[k]? := fun k h1 h2=>hgb.block k h1 (fun e=>h2 (Option.some.inj e))
   have z6:W1.heap[w2.heap.size]? = some (.cells #[.int .i64 0,.int .i64 0] 108 (0,0)):=(ka _ (by have:=HB.out.size;have:=SZ.out;omega) (by have:=SZ.out;omega)).trans a6.out;obtain⟨W9,hW9',g10,gr10,gs10⟩:=Xt (u:=.int .i64 (bs:Int)) (v:=.int .i64 2) z6;obtain⟨y0,y1,_⟩:=Zg g10;obtain⟨x0,x1,xf,_⟩:=Zg z6
   have hfin:Hid (∃ b c',Ending.returned (.tuple #[.agg #[.int .i64 (bs:Int),.int .i64 2],.slice (some ⟨b2,0,none⟩) (nl+m) c2,.int .i64 0])=.returned (.tuple #[.agg #[.int .i64 (R.1:Int),.int .i64 (R.2.1:Int)],.slice (some ⟨b,0,none⟩) R.2.2.length c',.int .i64 0])/\Zae (Old W9) W9 [.slice (some ⟨b,0,none⟩) R.2.2.length c'] R.2.2/\w.grownBy W9 ((some (⟨fb,0,none⟩:Qaa)).map (·.block))):=Za (by
    have eR:R=(bs,2,L5++L1):=by rw[hR2.out,if_pos (by rw[hL5l.out,hL1.out];omega)]
    have el:(L5++L1).length=nl+m:=by rw[Ql,hL5l.out,hL1.out]
    have hB1:=hBw.grown hgb hBw.size (fun q e=>by cases e;have:=SZ.out;omega);have hB9:=hB1.grown gr10 hB1.size (fun q e=>by cases e;have:=SZ.out;omega);rw[eR];refine⟨b2,c2,by rw[el];rfl,?_,⟨hB9.os,hB9.tape,hB9.output,hB9.size,fun k hk _=>hB9.block k hk⟩⟩;rw[el];have hco:Zi (zs++qs)=Zi zs++Zi qs:=Yi _ _;have hO9:W9.ownsRow w4.heap.size 54 5 (.slice (some ⟨b2,0,none⟩) (nl+m) c2) (nl+m) (Zi (zs++qs)):=Zfs (by rw[hco];exact o1) z6 (by decide) gr10;have:=Zem hO9 (fun q hq=> ?_)
    ·rwa [Qx,hqs'.out,HL.out] at this
    ·rcases Qg.1 hq with hq | hq
     ·refine⟨(HZ.out q hq).1,Zf _ _ _ _ _ _ (fun a v ha hc=> ?_) (HZ.out q hq).2⟩
      have h1:a.block≠zb:=fun e=>ha.2.2 (by rw[e];rfl)
      have hb:=(gr10.block a.block (by have:=ha.2.1;have:=hgb.size;omega) (fun e=>by have:=Option.some.inj e;have:=ha.1;have:=SZ.out;omega)).trans (ka a.block ha.2.1 h1);exact⟨Qh ha.2.1 (Qf hgb.size gr10.size),(Qe hb).trans hc⟩
     ·refine⟨(hqi'.out q hq).1,Zf _ _ _ _ _ _ (fun a v ha hc=> ?_) (hqi'.out q hq).2⟩
      exact⟨Qh ha.1 hB9.size,(Qe (hB9.block a.block ha.1)).trans hc⟩)
   have HR:=Za hr;clear hr o1 gg1 bb1 kk1 hgb ka g10 gr10 gs10 hFw hi0 hz0 hz1 hz2 hBw hzl hzs z6
   go_upto_region 13 with fail
   go_wp2_with (at_builtin;refine Zp rfl _ _ _ rfl rfl rfl HR.out ?_;clear HR)
   exact Qac (v:=.tuple #[.agg #[.int .i64 (bs:Int),.int .i64 2],.slice (some ⟨b2,0,none⟩) (nl+m) c2,.int .i64 0]) (by simp[results,Tryz.results50,go_sem,y0,y1]) rfl hfin.out}
end Go.Proofs.YtgmbjnajdfgenaaGreat
namespace Go.Proofs.YtgmbjnajdfgenaaGreat
open Go.RowKit Go.Shelf
structure Zej (lo hi:Nat) (V:P8) (A:Option Qaa) (c:Nat) (L:List It):Prop where
 le:lo<=hi
 blk:∀ g,A.map (·.block)=some g->lo<=g/\g<hi
 row:∃ ps:List Iv,ps.map (·.1)=L/\V.ownsRow lo 54 5 (.slice A L.length c) L.length (Zi ps)/\∀ p∈ps,InI p.1/\rBy (fun ad=>lo<=ad.block/\ad.block<hi/\A.map (·.block)≠some ad.block) V [p.2] p.1.2.2
theorem Zyg {lo hi:Nat}(h:lo<=hi) (V:P8):Zej lo hi V none 0 []:=⟨h,fun g e=>(by cases e),[],rfl,Pi ..,fun p hp=>(Pj hp).elim⟩
theorem Zdi {lo size n:Nat}{t:Qab}{A:Option Qaa}{c:Nat}{V V':P8}{xs:List P9}(h:V.ownsRow lo t size (.slice A n c) n xs) (e:∀ k,A.map (·.block)=some k->V'.heap[k]? = V.heap[k]?):V'.ownsRow lo t size (.slice A n c) n xs:=by{
 refine⟨h.1,?_⟩;rcases h.2 with e' | ⟨b,cap,cur,e',hb,hgg,r⟩
 ·exact .inl e'
 ·cases e'
  exact .inr ⟨b,_,cur,rfl,hb,(e b rfl).trans hgg,r⟩}
theorem Zej.same {lo hi:Nat}{V V':P8}{A:Option Qaa}{c:Nat}{L:List It}(h:Zej lo hi V A c L) (e:∀ k,lo<=k->k<hi->V'.heap[k]? = V.heap[k]?):Zej lo hi V' A c L:=by
 obtain⟨ps,h1,h2,h3⟩:=h.row;exact⟨h.le,h.blk,ps,h1,Zdi h2 fun k hk=>e k (h.blk k hk).1 (h.blk k hk).2,fun p hp=>⟨(h3 p hp).1,Zf _ _ _ _ _ _ (fun a v ha hc=>⟨ha,(Qe (e a.block ha.1 ha.2.1)).trans hc⟩) (h3 p hp).2⟩⟩
theorem Zej.kept {lo hi:Nat}{V V':P8}{A:Option Qaa}{c:Nat}{L:List It}{row:Option Nat}(h:Zej lo hi V A c L) (hg:V.grownBy V' row) (hr:∀ r,row=some r->∃ o:Obj,V.heap[r]? = some o/\o.isCells=false):Zej lo hi V' A c L:=by
 obtain⟨ps,h1,h2,h3⟩:=h.row;refine⟨h.le,h.blk,ps,h1,⟨h2.1,?_⟩,fun p hp=>⟨(h3 p hp).1,Zf _ _ _ _ _ _ (fun a v ha hc=>⟨ha,cell_kept hc hg hr⟩) (h3 p hp).2⟩⟩;rcases h2.2 with e' | ⟨b,cap,cur,e',hb,hgg,r⟩
 ·exact .inl e'
 ·exact .inr ⟨b,cap,cur,e',hb,Zl hgg hg hr,r⟩
theorem Zej.wide {lo hi hi':Nat}{V:P8}{A:Option Qaa}{c:Nat}{L:List It}(h:Zej lo hi V A c L) (hh:hi<=hi'):Zej lo hi' V A c L:=by
 obtain⟨ps,h1,h2,h3⟩:=h.row;exact⟨Qf h.le hh,fun g e=>⟨(h.blk g e).1,Qh (h.blk g e).2 hh⟩,ps,h1,h2,fun p hp=>⟨(h3 p hp).1,Zf _ _ _ _ _ _ (fun a v ha hc=>⟨⟨ha.1,Qh ha.2.1 hh,ha.2.2⟩,hc⟩) (h3 p hp).2⟩⟩
theorem Zej.its {lo hi:Nat}{V:P8}{A:Option Qaa}{c:Nat}{L:List It}(h:Zej lo hi V A c L) (hh:hi<=V.heap.size):Zae (Old V) V [.slice A L.length c] L:=by
 obtain⟨ps,h1,h2,h3⟩:=h.row;have:=Zem h2 (fun p hp=>⟨(h3 p hp).1,Zf _ _ _ _ _ _ (fun a v ha hc=>⟨Qh ha.2.1 hh,hc⟩) (h3 p hp).2⟩)
 rwa [h1] at this
theorem Z13 {V:P8}{q:Sv}(h:Zfr V q) (hq:q.lo<=q.hi):Zej q.lo q.hi V q.A q.c q.nd.2:=by
 obtain⟨w0,h0,h1,h3⟩:=h;obtain⟨ps,e1,e2,e3⟩:=Uu h1;have hb:∀ g,q.A.map (·.block)=some g->q.lo<=g/\g<q.hi:=fun g e=>by
  have:=e2.lt g (by rw[<- e];cases q.A <;> rfl);exact⟨this.1,by omega⟩
 exact⟨hq,hb,ps,e1,Zdi e2 fun k hk=>h3 k (hb k hk).1 (hb k hk).2,fun p hp=>⟨(e3 p hp).1,Zf _ _ _ _ _ _ (fun a v ha hc=>⟨⟨ha.1.1,by have:=ha.1.2.1;omega,ha.2⟩,(Qe (h3 a.block ha.1.1 (by have:=ha.1.2.1;omega))).trans hc⟩) (e3 p hp).2⟩⟩
theorem Z53 {lo hi:Nat}{V W:P8}{A:Option Qaa}{c:Nat}{L:List Iv}{e:Qag}(hl:lo<=hi) (hb:∀ g,A.map (·.block)=some g->lo<=g/\g<hi) (hi':hi<=V.heap.size) (h:Z5s lo V A c L e W) (hL:∀ p∈L,InI p.1/\rBy (fun ad=>lo<=ad.block/\ad.block<hi/\A.map (·.block)≠some ad.block) V [p.2] p.1.2.2):Zej lo hi W A c (L.map (·.1)):=by
 obtain⟨_,h2,h3⟩:=h;refine⟨hl,hb,L,rfl,by rw[Q6];exact h2,fun p hp=>⟨(hL p hp).1,Zf _ _ _ _ _ _ (fun a v ha hc=>⟨ha,?_⟩) (hL p hp).2⟩⟩;exact(Qe (h3.block a.block (by omega) (fun e=>ha.2.2 e.symm))).trans hc
def ShI (l0 lo hi B2 B4 B5 B6 B7 B8:Nat) (A0:Option Qaa) (c0:Nat) (n0:P8) (s:Rm) (k:Ky) (a:Int) (lv:Nat) (l:List Sv) (r:List Nat×Option Nat) (V:P8):Prop :=
 r.2=none/\(Qah lo n0 V/\hi<=V.heap.size/\V.ownsRow lo 102 3 (.slice A0 l.length c0) l.length (dvs l))/\(Yg B4 #[.slice none 0 0,.slice none 0 0,.slice none 0 0,.slice none 0 0] 29 V/\Yg B5 #[.int .i64 0] 3 V/\Yg B6 #[.int .i64 0] 33 V) /\
 ∃ (t:Rm) (L:List It) (held:Int) (qa qb qc qd:Option Qaa×Nat×Nat) (A:Option Qaa) (c bnd:Nat),stO k s a lv r.1.length=(0,t,L,held)/\Yg B2 #[.slice qa.1 qa.2.1 qa.2.2,.slice qb.1 qb.2.1 qb.2.2,.slice qc.1 qc.2.1 qc.2.2,.slice qd.1 qd.2.1 qd.2.2] 29 V /\
  Sto (Kn (fun k=>k<l0\/hi<=k) V) V (.agg #[.slice qa.1 qa.2.1 qa.2.2,.slice qb.1 qb.2.1 qb.2.2,.slice qc.1 qc.2.1 qc.2.2,.slice qd.1 qd.2.1 qd.2.2]) t/\Yg B7 #[.slice A L.length c] 39 V/\Yg B8 #[.int .i64 held] 3 V /\
  (lo<=bnd/\Zej bnd n0.heap.size V A c L/\(A=none\/∃ q∈l,q.A=A))/\∀ q∈l.take (l.length-r.1.length),q.hi<=bnd/\Zfr V q
def ShX (lo hi B4 B5 B6:Nat) (n0:P8) (s:Rm) (k:Ky) (a:Int) (lv:Nat) (c:Code) (r:List Nat×Option Nat) (V:P8):Prop :=
 c=.ret/\r.2=none/\(Qah lo n0 V/\hi<=V.heap.size)/\∃ er:Int,Yg B4 #[.slice none 0 0,.slice none 0 0,.slice none 0 0,.slice none 0 0] 29 V/\Yg B5 #[.int .i64 0] 3 V/\Yg B6 #[.int .i64 er] 33 V/\stO k s a lv (lv+1)=(er,Zj,[],0)/\er≠0
theorem Zy5 {K:Nat->Prop}{V V':P8}{v:P9}{s:Rm}{row:Option Nat}(h:Sto (Kn K V) V v s) (hg:V.grownBy V' row) (hr:∀ r,row=some r->∃ o:Obj,V.heap[r]? = some o/\o.isCells=false):Sto (Kn K V') V' v s :=
 h.map fun _ _ hp hc=>⟨⟨hp.1,Qh hp.2 hg.size⟩,cell_kept hc hg hr⟩
theorem Z2a {lo size n:Nat}{t:Qab}{v:P9}{V V':P8}{xs:List P9}{row:Option Nat}(h:V.ownsRow lo t size v n xs) (hg:V.grownBy V' row) (hr:∀ r,row=some r->∃ o:Obj,V.heap[r]? = some o/\o.isCells=false):V'.ownsRow lo t size v n xs:=by
 refine⟨h.1,?_⟩;rcases h.2 with e' | ⟨b,cap,cur,e',hb,hgg,r⟩
 ·exact .inl e'
 ·exact .inr ⟨b,cap,cur,e',hb,Zl hgg hg hr,r⟩
theorem Z7q {l0 lo hi B2 B4 B5 B6 B7 B8:Nat}{A0:Option Qaa}{c0:Nat}{n0:P8}{s:Rm}{k:Ky}{a:Int}{lv:Nat}{l:List Sv}{B:Nat}(hlh:lo<=hi) (hB:lo<=B) (hq:∀ q∈l,q.hi<=B/\q.hi<=hi):OwnFrom B (ShI l0 lo hi B2 B4 B5 B6 B7 B8 A0 c0 n0 s k a lv l):=fun r V V' row hs hg hrr=>by
 obtain⟨h0,⟨h1,h2,h2o⟩,⟨h3,h4,h5⟩,t,L,held,qa,qb,qc,qd,A,c,bnd,e1,e2,e3,e4,e5,⟨e6,e7,e8⟩,e9⟩:=hs;have hn:=fun r e=>(hrr r e).2
 refine⟨h0,⟨h1.grown hg (by omega) (fun r e=>by have:=(hrr r e).1;omega),Qf h2 hg.size,Z2a h2o hg hn⟩,⟨Zl h3 hg hn,Zl h4 hg hn,Zl h5 hg hn⟩,t,L,held,qa,qb,qc,qd,A,c,bnd,e1,Zl e2 hg hn,Zy5 e3 hg hn,Zl e4 hg hn,Zl e5 hg hn,⟨e6,e7.kept hg hn,e8⟩,fun q hm=>⟨(e9 q hm).1,?_⟩⟩;have:=hq q (Qo hm);exact Znp (e9 q hm).2 (by omega) hg fun r e=>.inr (by have:=(hrr r e).1;omega)
theorem Z7n {lo hi B4 B5 B6:Nat}{n0:P8}{s:Rm}{k:Ky}{a:Int}{lv:Nat}{c:Code}{B:Nat}(hlh:lo<=hi) (hB:lo<=B):OwnFrom B (ShX lo hi B4 B5 B6 n0 s k a lv c):=fun r V V' row hs hg hrr=>by
 obtain⟨hc,h0,⟨h1,h2⟩,er,h3,h4,h5,h6⟩:=hs;have hn:=fun r e=>(hrr r e).2
 exact⟨hc,h0,⟨h1.grown hg (by omega) (fun r e=>by have:=(hrr r e).1;omega),Qf h2 hg.size⟩,er,Zl h3 hg hn,Zl h4 hg hn,Zl h5 hg hn,h6⟩
def Z64 (s:Rm) (a:Int) (lv:Nat) (k:Ky):Int×Rm×Int :=
 if (stO k s a lv (lv+1)).1=0 then Zsc (stO k s a lv (lv+1)).2.1 ((if (stO k s a lv (lv+1)).2.2.1=[] then 0 else (rmV s a).1),(stO k s a lv (lv+1)).2.2.1) (stO k s a lv (lv+1)).2.2.2 else ((stO k s a lv (lv+1)).1,Zj,0)
def Yby (l0 lo:Nat) (g:Int×Rm×Int) (w:P8) (e:Qag) (w':P8):Prop:=∃ qa qb qc qd:Option Qaa×Nat×Nat,e=.returned (.tuple #[.agg #[.slice qa.1 qa.2.1 qa.2.2,.slice qb.1 qb.2.1 qb.2.2,.slice qc.1 qc.2.1 qc.2.2,.slice qd.1 qd.2.1 qd.2.2],.int .i64 g.2.2,.int .i64 g.1]) /\
 Sto (Kn (fun k=>k<l0\/w.heap.size<=k) w') w' (.agg #[.slice qa.1 qa.2.1 qa.2.2,.slice qb.1 qb.2.1 qb.2.2,.slice qc.1 qc.2.1 qc.2.2,.slice qd.1 qd.2.1 qd.2.2]) g.2.1/\Qah lo w w'
theorem Z6u {s0 t u:Rm}{r:Int}{L:Nat}(hm:Xm u=true) (hd:u.1=t.1) (hr:Zkd s0 t L r) (hh:∀ i:Nat,i≠r.toNat->t.2.1[i]?.getD 0≠0->u.2.1[i]?.getD 0≠0) (hmo:∀ x:Int,x.toNat≠r.toNat->Ze7 s0 t x->Ze7 s0 u x):∀ {l:Nat}{a:Int},l<L->Zkd s0 t l a->Zkd s0 u l a:=by{
 have hnode:∀ {l:Nat} {a:Int},l<L->Zkd s0 t l a->a.toNat≠r.toNat/\rmE u a=rmE t a/\rmV u a=rmV t a:=fun {l a} hl h=>by
  have h1:=h.ok;have h2:=hr.ok;obtain⟨k,rfl,_,h8,h256,_,_,hE,hV,hx⟩:=Y6 (Z9 h1.1).2;obtain⟨j,rfl,_,_,_,_,_,_,hV2,_⟩:=Y6 (Z9 h2.1).2;have hne:k≠j:=fun e=>by
   subst e;rw[h1.2] at h2;omega
  have hne':((k:Int)).toNat≠((j:Int)).toNat:=by omega
  have ha:asE u (k:Int)=0:=Zcf hm h8 h256 (hh k (by omega) hx);refine⟨hne',?_,?_⟩
  ·rw[hE,rmE,if_pos ha,hd,show ((k:Int)).toNat=k by omega]
  ·rw[hV,rmV,if_pos ha,hd,show ((k:Int)).toNat=k by omega]
 intro l
 induction l with
 | zero =>
  intro a hl h;obtain⟨_,e1,e2⟩:=hnode hl h;exact⟨e1.trans h.1,by rw[e2];exact h.2⟩
 | succ l ih =>
  intro a hl h;obtain⟨_,e1,e2⟩:=hnode hl h;refine⟨e1.trans h.1,by rw[e2];exact h.2.1,fun x hx=> ?_⟩;rw[e2] at hx;obtain⟨g1,g2⟩:=h.2.2 x hx;exact⟨ih (by omega) g1,fun h0=>hmo _ (hnode (by omega) g1).1 (g2 h0)⟩}
structure Zw6 (s0 s:Rm) (l:Nat) (r:Int):Prop where
 keep:Xv s0 s
 lev:Zkd s0 s l r
 more:Ze7 s0 s r
theorem Z50 {s:Rm}{r:Int}(h:(rmV s r).2.length=1):∃ x,(rmV s r).2=[x]/\Zl7 (rmV s r).2=x.2.1:=by
 match he:(rmV s r).2,h with
 | [x],_=>exact⟨x,rfl,rfl⟩
theorem Z3k {s0 s:Rm}{l:Nat}{r:Int}(h:Zw6 s0 s (l+1) r) (h1:(rmV s r).2.length=1) :
  asE s (Zl7 (rmV s r).2)=0/\asE s r=0/\(s.2.1[(Zl7 (rmV s r).2).toNat]?.getD 0≠255->shE s (Zl7 (rmV s r).2)=0/\shV s (Zl7 (rmV s r).2)=upR s (Zl7 (rmV s r).2)/\asE (upR s (Zl7 (rmV s r).2)) r=0 /\
   ∀ v,lfO (upR s (Zl7 (rmV s r).2)).1 (upR s (Zl7 (rmV s r).2)).2.1 r.toNat=some v->Zw6 s0 ((upR s (Zl7 (rmV s r).2)).1,v,(upR s (Zl7 (rmV s r).2)).2.2) l (Zl7 (rmV s r).2)):=by{
 obtain⟨x,hx,ho⟩:=Z50 h1;rw[ho];have hxm:x∈(rmV s r).2:=by rw[hx];exact Qk.2 rfl
 have hlr:=h.lev.ok;obtain⟨lb,mb⟩:=h.lev.2.2 x hxm;have hab:=(Z9 lb.ok.1).2;have har:=(Z9 hlr.1).2;refine⟨hab,har,fun h255=> ?_⟩;have hsh:shE s x.2.1=0:=by unfold shE;rw[if_pos hab,if_neg h255]
 have hsv:shV s x.2.1=upR s x.2.1:=if_pos hsh;have hk:=Zky hsh;rw[hsv] at hk;have har2:=(Vr hk har).1;refine⟨hsh,hsv,har2,fun v hv=> ?_⟩;have hlb:=lb.ok;have hlvl:=hlr.2;obtain⟨j,hj,hmr,j8,j256,_,_,_,hVr,hzr⟩:=Y6 har;obtain⟨k,hk',_,k8,k256,_,_,_,hVb,hzb⟩:=Y6 hab;have hne:k≠j:=fun e=>by
  rw[hk',e,<- hj] at hlb;rw[hlb.2] at hlvl;omega
 have hlen:=Yw (Ye hmr).2.1;have hkt:x.2.1.toNat=k:=by omega
 have hjt:r.toNat=j:=by omega
 have hU:(upR s x.2.1).2.1=s.2.1.set k (s.2.1[k]?.getD 0+1):=by unfold upR;rw[hkt]
 have hU1:(upR s x.2.1).1=s.1:=rfl;have hU2:(upR s x.2.1).2.2=s.2.2:=rfl;have hkl:k<s.2.1.length:=by omega
 have uk:Yy (upR s x.2.1).2.1 k=Yy s.2.1 k+1:=by
  unfold Yy;rw[hU,Pc hkl];exact Zxt (by rw[<- hkt];exact h255)
 have uo:∀ i,i≠k->(upR s x.2.1).2.1[i]?.getD 0=s.2.1[i]?.getD 0:=fun i hi=>by rw[hU,Qt (Ne.symm hi)]
 have uo8:∀ i,i≠k->Yy (upR s x.2.1).2.1 i=Yy s.2.1 i:=fun i hi=>by unfold Yy;rw[uo i hi]
 generalize hue:upR s x.2.1=U at *;obtain⟨_,hle,_,hmany⟩:=Zre hv;have hseen:Z1 U.1 j=Z1 s.1 j:=by rw[hU1]
 have hmu:Xm (U.1,v,U.2.2)=true:=by
  obtain⟨m1,m2,m3⟩:=Ye hk.may;exact Zag m1 (LeT.may hle m2) m3
 have hzb':1<=Yy s.2.1 k:=by have:=V4.2 hzb;omega
 have hmoreb:∀ x':Int,x'.toNat=k->Ze7 s0 s x'->Ze7 s0 (U.1,v,U.2.2) x'->True:=fun _ _ _ _=>trivial
 have hv2:(∀ i,i≠j->i≠k->v[i]?.getD 0=s.2.1[i]?.getD 0)/\(Yy s.2.1 j=1->Yy v k=Yy s.2.1 k)/\(1<Yy s.2.1 j->Yy v k=Yy s.2.1 k+1/\Yy v j+1=Yy s.2.1 j):=by
  rw[hjt] at hv hmany;by_cases hc:1<Yy s.2.1 j
  ·have hc':1<(U.2.1[j]?.getD 0).toNat:=by rw[uo j (Ne.symm hne)];exact hc
   have e:=hmany hc';have hjl:j<U.2.1.length:=by rw[hU,Pd];omega
   refine⟨fun i h2 h3=>by rw[e,Qt (Ne.symm h2),uo i h3],fun h2=>by omega,fun _=>⟨?_,?_⟩⟩
   ·have:Yy v k=Yy U.2.1 k:=by unfold Yy;rw[e,Qt (Ne.symm hne)]
    rw[this,uk]
   ·have:Yy v j=(U.2.1[j]?.getD 0-1).toNat:=by unfold Yy;rw[e,Pc hjl];rfl
    rw[this,uo j (Ne.symm hne)];exact Zi5 hzr
  ·have hc1:Yy s.2.1 j=1:=by have:=V4.2 hzr;omega
   refine⟨?_,fun _=> ?_,fun h2=>absurd h2 hc⟩
   all_goals
    unfold lfO at hv;have hd:dnO U.2.1 j=some (U.2.1.set j (U.2.1[j]?.getD 0-1)):=Zdl (by rw[uo j (Ne.symm hne)];exact hzr);rw[hd,hseen] at hv;have hn1:¬ 1<(U.2.1[j]?.getD 0).toNat:=by rw[uo j (Ne.symm hne)];exact hc
    have hv':(if 1<(U.2.1[j]?.getD 0).toNat then some (U.2.1.set j (U.2.1[j]?.getD 0-1)) else if reN (Z1 s.1 j)=0 then Vm (lvF U.1 (reV (Z1 s.1 j)).1.toNat) (U.2.1.set j (U.2.1[j]?.getD 0-1)) (reV (Z1 s.1 j)).2 else none)=some v:=hv;rw[if_neg hn1] at hv';split at hv'
    ·rw[<- hVr,hx] at hv'
     have hx0:¬ x.2.1=0:=by omega
     simp only[Vm,if_neg hx0,hkt] at hv';have hkl':k<(U.2.1.set j (U.2.1[j]?.getD 0-1)).length:=by rw[Pd,hU,Pd];omega
     have hck:(U.2.1.set j (U.2.1[j]?.getD 0-1))[k]?.getD 0=U.2.1[k]?.getD 0:=by rw[Qt hne.symm]
     have h2k:1<((U.2.1.set j (U.2.1[j]?.getD 0-1))[k]?.getD 0).toNat:=by
      rw[hck];have:=uk;unfold Yy at this hzb';omega
     rw[Zhh U.1 _ _ _ h2k] at hv';have hve:v=(U.2.1.set j (U.2.1[j]?.getD 0-1)).set k ((U.2.1.set j (U.2.1[j]?.getD 0-1))[k]?.getD 0-1):=by
      have:some ((U.2.1.set j (U.2.1[j]?.getD 0-1)).set k ((U.2.1.set j (U.2.1[j]?.getD 0-1))[k]?.getD 0-1))=some v:=hv';exact(Option.some.inj this).symm
     first
      | exact fun i h2 h3=>by rw[hve,Qt (Ne.symm h3),Qt (Ne.symm h2),uo i h3]
      | (
        have h3:Yy v k=((U.2.1.set j (U.2.1[j]?.getD 0-1))[k]?.getD 0-1).toNat:=by unfold Yy;rw[hve,Pc hkl'];rfl
        have h4:=Zi5 (Zhm h2k);rw[h3];rw[hck] at h4 ⊢;unfold Yy at uk ⊢
        omega)
    ·cases hv'
 obtain⟨v1,v2,v3⟩:=hv2;have hcase:Yy s.2.1 j=1\/1<Yy s.2.1 j:=by have:=V4.2 hzr;omega
 have hmj:=h.more;unfold Ze7 at hmj;rw[hjt] at hmj;have Zaf:s0.2.1[j]?.getD 0≠0->1<Yy s.2.1 j:=fun h0=>by rw[if_pos h0] at hmj;omega
 have hvk:Yy s.2.1 k<=Yy v k:=by
  rcases hcase with c | c
  ·rw[v2 c];exact Qc _
  ·rw[(v3 c).1];omega
 have hkeep:Xv s0 (U.1,v,U.2.2):=by
  refine⟨hmu,fun i hi=> ?_,fun i hi=>by show Z1 U.1 i=_;rw[hU1];exact h.keep.seen i hi⟩;have h0:=h.keep.held i hi;by_cases e1:i=k
  ·subst e1
   exact V4.1 (by show Yy v i≠0;omega)
  ·by_cases e2:i=j
   ·subst e2
    have:=(v3 (Zaf hi)).2;exact V4.1 (by show Yy v i≠0;have:=Zaf hi;omega)
   ·show v[i]?.getD 0≠0
    rw[v1 i e2 e1];exact h0
 have hmono:∀ x':Int,x'.toNat≠r.toNat->Ze7 s0 s x'->Ze7 s0 (U.1,v,U.2.2) x':=fun x' h2 h3=>by
  refine Znc ?_ h3;show Yy s.2.1 x'.toNat<=Yy v x'.toNat;by_cases e:x'.toNat=k
  ·rw[e];exact hvk
  ·rw[hjt] at h2
   unfold Yy;rw[v1 _ h2 e];exact Qc _
 refine⟨hkeep,Z6u hmu hU1 h.lev (fun i h2 h3=> ?_) hmono (Pz l) lb,?_⟩
 ·rw[hjt] at h2
  by_cases e:i=k
  ·subst e
   exact V4.1 (by show Yy v i≠0;omega)
  ·show v[i]?.getD 0≠0
   rw[v1 i h2 e];exact h3
 ·by_cases h0:s0.2.1[j]?.getD 0=0
  ·exact hmono _ (by omega) (mb (by rw[hjt];exact h0))
  ·have:=(v3 (Zaf h0)).1
   unfold Ze7;show _<=Yy v x.2.1.toNat;rw[hkt];split <;> omega}
theorem Zx8 {s0 s:Rm}{l:Nat}{r:Int}(h:Zw6 s0 s l r) (h1:(rmV s r).1=0\/1<(rmV s r).2.length):Yu l s r=(0,s,r):=by{
 cases l with
 | zero=>rfl
 | succ l =>
  have:=h.lev.ok.2;unfold Yu;rw[if_neg (by rcases h1 with h1 | h1 <;> omega)]}
theorem Zy9 {s:Rm}{n:Int}{v:List UInt8}(ha:asE s n=0) (h:lfO s.1 s.2.1 n.toNat=some v):lvE s n=0/\lvV s n=(s.1,v,s.2.2):=by
 unfold lvE lvV;rw[if_pos ha,if_pos ha,h];exact⟨rfl,rfl⟩
theorem Z04 {s:Rm}{n:Int}(ha:asE s n=0) (h:lfO s.1 s.2.1 n.toNat=none):lvE s n=8:=by
 unfold lvE;rw[if_pos ha,h]
theorem Z5r {s0 s:Rm}{l:Nat}{r:Int}(h:Zw6 s0 s l r) (h1:¬ ((rmV s r).1=0\/1<(rmV s r).2.length)):∃ j y,l=j+1/\(rmV s r).2=[y] /\
  ((shE s y.2.1=70/\Yu l s r=(70,Zj,0))\/(shE s y.2.1=0/\lvE (shV s y.2.1) r=8/\Yu l s r=(8,Zj,0)) \/
   (shE s y.2.1=0/\lvE (shV s y.2.1) r=0/\Yu l s r=Yu j (lvV (shV s y.2.1) r) y.2.1/\Zw6 s0 (lvV (shV s y.2.1) r) j y.2.1)):=by{
 have hlv:=h.lev.ok;cases l with
 | zero=>exact absurd (.inl (by rw[hlv.2];rfl)) h1
 | succ j =>
  have hne:0<(rmV s r).2.length:=(Zx (Z9 hlv.1).1).1.2.2.2 (by rw[hlv.2];omega);have hl:(rmV s r).2.length=1:=by
   have:¬ 1<(rmV s r).2.length:=fun h=>h1 (.inr h)
   omega
  obtain⟨y,hy,ho⟩:=Z50 hl;obtain⟨g1,g2,g3⟩:=Z3k h hl;rw[ho] at g1 g3;refine⟨j,y,rfl,hy,?_⟩;have hun:Yu (j+1) s r=(if s.2.1[y.2.1.toNat]?.getD 0=255 then (70,Zj,0) else match lfO (upR s y.2.1).1 (upR s y.2.1).2.1 r.toNat with | none=>(8,Zj,0) | some v=>Yu j ((upR s y.2.1).1,v,(upR s y.2.1).2.2) y.2.1):=by
   conv=>lhs;unfold Yu
   rw[if_pos hl,ho];rfl
  rw[hun];by_cases h255:s.2.1[y.2.1.toNat]?.getD 0=255
  ·rw[if_pos h255]
   exact .inl ⟨by unfold shE;rw[if_pos g1,if_pos h255],rfl⟩
  ·rw[if_neg h255]
   obtain⟨e1,e2,e3,e4⟩:=g3 h255;rw[e2];cases hf:lfO (upR s y.2.1).1 (upR s y.2.1).2.1 r.toNat with
   | none=>exact .inr (.inl ⟨e1,Z04 e3 hf,rfl⟩)
   | some v =>
    obtain⟨f1,f2⟩:=Zy9 e3 hf;exact .inr (.inr ⟨e1,f1,by rw[f2],by rw[f2];exact e4 v hf⟩)}
theorem Ztk {s0:Rm}:∀ {l:Nat}{s u:Rm}{r now:Int},Zw6 s0 s l r->Yu l s r=(0,u,now)->Xv s0 u
 | 0,s,u,r,now,h,e=>by
  cases e;exact h.keep
 | l+1,s,u,r,now,h,e=>by
  by_cases h1:(rmV s r).1=0\/1<(rmV s r).2.length
  ·rw[Zx8 h h1] at e
   cases e;exact h.keep
  ·obtain⟨j,y,hj,hy,h2⟩:=Z5r h h1
   obtain rfl:l=j:=by omega
   rcases h2 with ⟨_,e2⟩ | ⟨_,_,e2⟩ | ⟨_,_,e2,h3⟩
   ·rw[e2] at e
    cases e
   ·rw[e2] at e
    cases e
   ·rw[e2] at e
    exact Ztk h3 e
structure Yce (s:Rm) (a:Int) (o g:Int×Rm×Int):Prop where
 bad:g.1≠0->o=(g.1,Zj,0)
 good:g.1=0->∃ l,Zw6 s g.2.1 l g.2.2/\((Yu l g.2.1 g.2.2).1≠0->o=((Yu l g.2.1 g.2.2).1,Zj,0)) /\
  ((Yu l g.2.1 g.2.2).1=0->(lvE (Yu l g.2.1 g.2.2).2.1 a≠0->o=(lvE (Yu l g.2.1 g.2.2).2.1 a,Zj,0))/\(lvE (Yu l g.2.1 g.2.2).2.1 a=0->o=(0,lvV (Yu l g.2.1 g.2.2).2.1 a,(Yu l g.2.1 g.2.2).2.2)))
theorem Yac {s:Rm}{a:Int}{k:Ky}(ht:Yo s a=true):Yce s a (Zqb s a k) (Z64 s a (rmV s a).1.toNat k):=by{
 obtain⟨r1,ra,_,l0,l6,_⟩:=Xf ht;have hT:=Zbt ht;obtain⟨lv,hlv⟩:∃ lv,(rmV s a).1.toNat=lv:=⟨_,rfl⟩
 have hlvi:(rmV s a).1=(lv:Int):=by omega
 rw[hlv] at hT ⊢;have hst:stO k s a lv (lv+1)=Yf k lv s a:=by
  show Yf k lv s (atW s k a (lv-lv))=_;rw[Q4];rfl
 have hun:Zqb s a k=match Yf k lv s a with
  | (e,t,L,held)=>if e=0 then (match Zq t (if L=[] then 0 else (lv:Int)) L with
   | (f,u,up)=>if f=0 then (match Yu (if L=[] then 0 else lv) (if held=0 then u else Vw u held) (Zch up) with
    | (g,w,now)=>if g=0 then (match lfO w.1 w.2.1 a.toNat with | none=>(8,Zj,0) | some v=>(0,(w.1,v,w.2.2),now)) else (g,Zj,0)) else (f,Zj,0)) else (e,Zj,0):=by
  unfold Zqb;rw[hlv,hlvi];rfl
 rw[hun];unfold Z64;rw[hst,hlvi];obtain⟨e,t,L,held,hs⟩:∃ e t L held,Yf k lv s a=(e,t,L,held):=⟨_,_,_,_,rfl⟩
 rw[hs]
 dsimp only
 by_cases he:e=0
 ·subst he
  rw[if_pos rfl,if_pos rfl];have G:=Zga (by omega) hT hs;obtain⟨l',hl'⟩:∃ l':Nat,(if L=[] then 0 else lv)=l':=⟨_,rfl⟩
  have hl'i:(if L=[] then (0:Int) else (lv:Int))=(l':Int):=by
   rw[<- hl'];split <;> rfl
  rw[hl',hl'i];have G':Z9e s t l' L held:=by
   by_cases hL:L=[]
   ·rw[if_pos hL] at hl'
    subst hl';exact⟨G.keep,G.few,G.inI,fun j hj=>(by cases hj),G.own,G.none,G.more⟩
   ·rw[if_neg hL] at hl'
    subst hl';exact G
  have hl6:l'<6:=by
   rw[<- hl'];split <;> omega
  have hlay:=Z1n (s:=t) (lv:=(l':Int)) (held:=held) G.few (by
   rcases G.own with h | ⟨_,_,_,q,hq,hqe⟩
   ·exact .inl h
   ·exact .inr ⟨q,hq,hqe⟩)
  by_cases hb:(Zq t (l':Int) L).1=0
  ·obtain⟨u,up,e⟩:∃ u up,Zq t (l':Int) L=(0,u,up):=⟨_,_,Prod.ext hb rfl⟩
   rw[hlay,e]
   dsimp only
   rw[if_pos rfl,if_pos rfl];obtain⟨z,rfl,z8,zn,k1,k2,k3,k4,k5,k6⟩:=Zn6 G' G.few (Zpk hl6 G.inI) (fun _ h=>h) G'.lev e;have hnow:Zch [upI L z]=z:=rfl;rw[hnow]
   have hlow:Zw6 s (if held=0 then u else Vw u held) l' z:=⟨k1,k5,by
    unfold Ze7;rw[if_neg (fun h=>h zn),k4]
    exact Qc _⟩
   generalize (if held=0 then u else Vw u held)=u1 at *;refine⟨fun h=>absurd rfl h,fun _=>⟨l',hlow,fun hw=> ?_,fun hw=> ?_⟩⟩
   ·generalize Yu l' u1 z=lo at hw ⊢
    obtain⟨g,w,now⟩:=lo;exact if_neg hw
   ·obtain⟨w,now,e3⟩:∃ w now,Yu l' u1 z=(0,w,now):=⟨_,_,Prod.ext hw rfl⟩
    have hk:=Ztk hlow e3;have ha:=(Vr hk ra).1;rw[e3]
    dsimp only
    rw[if_pos rfl];cases hf:lfO w.1 w.2.1 a.toNat with
    | none =>
     have:=Z04 ha hf;exact⟨fun _=>by rw[this],fun h=>by rw[this] at h;cases h⟩
    | some v =>
     obtain⟨h1,h2⟩:=Zy9 ha hf;exact⟨fun h=>absurd h1 h,fun _=>by rw[h2]⟩
  ·rw[if_neg hb] at hlay
   rw[hlay];refine⟨fun _=> ?_,fun h=>absurd h hb⟩;generalize Zq t (l':Int) L=b at hb ⊢;obtain⟨f,u,up⟩:=b;exact if_neg hb
 ·rw[if_neg he,if_neg he]
  exact⟨fun _=>rfl,fun h=>absurd h he⟩}
end Go.Proofs.YtgmbjnajdfgenaaGreat
namespace Go.Proofs.YtgmbjnajdfgenaaGreat
open Go.RowKit Go.Shelf
attribute [local go_sem] Oper.semAt_some
def PhK (K:Nat->Prop) (z er:Int) (S:Rm) (v:P9) (W:P8):Prop:=∃ va vb vc vd:Option Qaa×Nat×Nat,v=.tuple #[.agg #[.slice va.1 va.2.1 va.2.2,.slice vb.1 vb.2.1 vb.2.2,.slice vc.1 vc.2.1 vc.2.2,.slice vd.1 vd.2.1 vd.2.2],.int .i64 z,.int .i64 er]/\Sto (Kn K W) W (.agg #[.slice va.1 va.2.1 va.2.2,.slice vb.1 vb.2.1 vb.2.2,.slice vc.1 vc.2.1 vc.2.2,.slice vd.1 vd.2.1 vd.2.2]) S
def Yca (K:Nat->Prop) (S:Rm) (v:P9) (W:P8):Prop:=∃ va vb vc vd:Option Qaa×Nat×Nat,v=.agg #[.slice va.1 va.2.1 va.2.2,.slice vb.1 vb.2.1 vb.2.2,.slice vc.1 vc.2.1 vc.2.2,.slice vd.1 vd.2.1 vd.2.2]/\Sto (Kn K W) W (.agg #[.slice va.1 va.2.1 va.2.2,.slice vb.1 vb.2.1 vb.2.2,.slice vc.1 vc.2.1 vc.2.2,.slice vd.1 vd.2.1 vd.2.2]) S
theorem Z0r {F:Fence}{n:Nat}{P:Program}{c:Code}{Q:Exit->Act->P8->Prop}{a:Act}{w:P8}(h:c.wpIn F n P (Zwv (Q .normal)) a w):c.wpIn F n P Q a w :=
 wpIn_mono h fun e a w h=>by
  cases e <;> first
   | exact h
   | exact h.elim
theorem Zmw (l0 lo:Nat) (hl0:l0<=lo) (qa qb qc qd:Option Qaa×Nat×Nat) (s:Rm) (k:Ky) (a:Int) (lv:Nat) (h6:lv<6) (hT:AtT s lv a) (x:It) (hx:Zcl s lv a k=some x) (A:Option Qaa) (m c:Nat) (l:List Sv) (w:P8) (hlo:lo<=w.heap.size) (h:Sto (fun p=>p.block<l0) w (.agg #[.slice qa.1 qa.2.1 qa.2.2,.slice qb.1 qb.2.1 qb.2.2,.slice qc.1 qc.2.1 qc.2.2,.slice qd.1 qd.2.1 qd.2.2]) s)
  (hst:w.ownsRow lo 102 3 (.slice A m c) m (dvs l)) (hl:l.length=m) (hm:m=lv+1) (hR:Rows lo w.heap.size w l) (hA:∀ g q,A.map (·.block)=some g->q∈l->g<q.lo\/q.hi<=g)
  (hq:∀ i q,l[i]? = some q->q.nd=rmV s (atW s k a i)/\q.pl=Xk q.nd k) :
  Qaf Tryz.prog 26 #[.agg #[.slice qa.1 qa.2.1 qa.2.2,.slice qb.1 qb.2.1 qb.2.2,.slice qc.1 qc.2.1 qc.2.2,.slice qd.1 qd.2.1 qd.2.2],.slice A m c] w (Yby l0 lo (Z64 s a lv k) w):=by{
 obtain⟨w1,hw1,b1,hs1,hB1⟩:=X4 w (.slice qa.1 qa.2.1 qa.2.2) (.slice qb.1 qb.2.1 qb.2.2) (.slice qc.1 qc.2.1 qc.2.2) (.slice qd.1 qd.2.1 qd.2.2) 29;obtain⟨w2,hw2,b2,hs2,hB2⟩:=X4 w1 (.slice none 0 0) (.slice none 0 0) (.slice none 0 0) (.slice none 0 0) 29;obtain⟨w3,hw3,b3,hs3,hB3⟩:∃ w3,w2.alloc (.cells #[.int .i64 0] 3)=w3/\Yg w2.heap.size #[.int .i64 0] 3 w3/\w3.heap.size=w2.heap.size+1/\Qah w2.heap.size w2 w3:=⟨_,rfl,Qad w2 _,by simp,(Qa _ _).alloc (Qc _) _⟩
 obtain⟨w4,hw4,b4,hs4,hB4⟩:∃ w4,w3.alloc (.cells #[.int .i64 0] 33)=w4/\Yg w3.heap.size #[.int .i64 0] 33 w4/\w4.heap.size=w3.heap.size+1/\Qah w3.heap.size w3 w4:=⟨_,rfl,Qad w3 _,by simp,(Qa _ _).alloc (Qc _) _⟩
 obtain⟨w5,hw5,b5,hs5,hB5⟩:∃ w5,w4.alloc (.cells #[.slice none 0 0] 39)=w5/\Yg w4.heap.size #[.slice none 0 0] 39 w5/\w5.heap.size=w4.heap.size+1/\Qah w4.heap.size w4 w5:=⟨_,rfl,Qad w4 _,by simp,(Qa _ _).alloc (Qc _) _⟩
 obtain⟨w6,hw6,b6,hs6,hB6⟩:∃ w6,w5.alloc (.cells #[.int .i64 0] 3)=w6/\Yg w5.heap.size #[.int .i64 0] 3 w6/\w6.heap.size=w5.heap.size+1/\Qah w5.heap.size w5 w6:=⟨_,rfl,Qad w5 _,by simp,(Qa _ _).alloc (Qc _) _⟩
 obtain⟨w7,hw7,b7,hs7,hB7⟩:=Zdk w6 (.slice A m c) 64;have hbw:=Za (Zmp A m c w6);rw[hw7] at hbw;have k67:=hB6.trans (hB7.mono hB6.size);have k57:=hB5.trans (k67.mono hB5.size);have k47:=hB4.trans (k57.mono hB4.size);have k37:=hB3.trans (k47.mono hB3.size);have k27:=hB2.trans (k37.mono hB2.size);have k17:=hB1.trans (k27.mono hB1.size);have BW:=Za k17;have SZ:=Za (show w1.heap.size=w.heap.size+1/\w2.heap.size=w.heap.size+2/\w3.heap.size=w.heap.size+3/\w4.heap.size=w.heap.size+4/\w5.heap.size=w.heap.size+5/\w6.heap.size=w.heap.size+6/\w7.heap.size=w.heap.size+7 from by omega);obtain⟨ad,had,hat⟩:=Zxx (by rw[hl];exact hst);rw[hl] at had hat;obtain⟨f,hf⟩:∃ f:Nat->Sv,f=fun j=>l[j]?.getD svZ:=⟨_,rfl⟩
 have hff:Hid (∀ j,j<m->f (m-1-j)∈l/\l[m-1-j]? = some (f (m-1-j))):=Za fun j hj=>by
  have e2:f (m-1-j)=l[m-1-j]:=by
   rw[hf];simp[Qi (show m-1-j<l.length by omega)]
  rw[e2];exact⟨List.getElem_mem _,Qi _⟩
 have htold:=Zu2 w6.heap.size c m A ad f w7 b7 (fun h=>⟨(had h).1,by have:=(had h).2.2;omega⟩) (by omega) (fun j hj=>by rw[hf];exact(hat j hj).same (k17.block _ (by rw[Zh];exact(had (by omega)).2.2)));have hI0:ShI l0 lo w7.heap.size w.heap.size w1.heap.size w2.heap.size w3.heap.size w4.heap.size w5.heap.size A c w s k a lv l ([],none) w7 :=
  ⟨rfl,⟨k17.mono hlo,Qc _,Zw (by rw[hl];exact hst) k17⟩,⟨(k37.block _ (by omega)).trans b2,(k47.block _ (by omega)).trans b3,(k57.block _ (by omega)).trans b4⟩,s,[],0,qa,qb,qc,qd,none,0,w.heap.size,rfl,(k27.block _ (by omega)).trans b1,h.map fun p v hp hc=>⟨⟨.inl hp,by omega⟩,(k17.cell (by omega)).trans hc⟩,
   (k67.block _ (by omega)).trans b5,(hB7.block _ (by omega)).trans b6,⟨hlo,Zyg (Qc _) _,.inl rfl⟩,fun q hqm=>⟨(hR.ok q (Qo hqm)).2.2.1,(hR.ok q (Qo hqm)).2.2.2.same fun k h1 h2=>k17.block k (by have:=(hR.ok q (Qo hqm)).2.2.1;omega)⟩⟩
 have hlt:=Za (fun h:0<m=>(had h).2);have hAA:=Za (fun h:0<m=>(had h).1);have hAst:=Za (show ∀ kk,A.map (·.block)=some kk->kk<w.heap.size from fun kk e=>(hst.lt kk (by rw[<- e];cases A <;> rfl)).2);obtain⟨g,hg⟩:∃ g,Z64 s a lv k=g:=⟨_,rfl⟩
 rw[hg];obtain⟨QQ,hQQ⟩:∃ QQ,Yby l0 lo g w=QQ:=⟨_,rfl⟩
 rw[hQQ];replace hQQ:=Za hQQ;replace hg:=Za hg;obtain⟨z0,zf,_⟩:=Zn b6;have hself:=Z3 (i:=0) (v:=.int .i64 0) b6 rfl;replace hm:=Za hm;replace hf:=Za hf;replace hl:=Za hl;replace hA:=Za hA;replace hR:=Za hR;replace hq:=Za hq;replace hx:=Za hx;replace hT:=Za hT;replace hs1:=Za hs1;replace hs2:=Za hs2;replace hs3:=Za hs3;replace hs4:=Za hs4;replace hs5:=Za hs5;replace hs6:=Za hs6;replace hs7:=Za hs7;replace hI0:=Za hI0;clear h hst had hat b1 b2 b3 b4 b5 b6 b7 hB1 hB2 hB3 hB4 hB5 hB6 hB7 k67 k57 k47 k37 k27 k17 hw7;refine callsIn_wide.1 (callsIn_of_wp_marks (n:=5) Tryz.func26 rfl trivial ?_ rfl);simp only[Tryz.ntmps26,Q9,Q0,Q3,Pk,Pm,Pn,Po,Pp,Pq,Pr,Ps]
 gi_wp2_with fail
 refine wpIn_wide.2 (wp_scope_straight ?_);refine(wpIn_wide (n:=5)).1 ?_
 gi_wp2_with fail
 refine wpIn_label ?_
 gi_wp2_with fail
 clear hw1 hw2 hw3 hw4 hw5 hw6 z0 zf hself;refine⟨trivial,?_⟩
 gi_at_call 48
 refine(callsIn_wide.2 hbw.out).mono ?_;rintro e w7 ⟨rfl,rfl⟩
 gi_wp2_with fail
 refine Za0 (m:=5) (gf:=83) (lb:=#[.pointer (some ⟨w6.heap.size,0,none⟩)]) rfl (enters_of Tryz.func83 (by kernel_rfl) rfl) htold (fun _=>rfl)
  (fun k=>k=w.heap.size\/k=w2.heap.size\/k=w3.heap.size\/k=w1.heap.size\/k=w4.heap.size\/k=w5.heap.size\/∃ q∈l,q.A.map (·.block)=some k) (fun k e=>by
   rcases e with e | e | e | e | e | e | ⟨q,hq,e⟩
   ·have:=SZ.out;omega
   ·have:=SZ.out;omega
   ·have:=SZ.out;omega
   ·have:=SZ.out;omega
   ·have:=SZ.out;omega
   ·have:=SZ.out;omega
   ·have h1:=hR.out.ok q hq
    have:=U9 h1.2.2.2 k e
    have:=SZ.out;omega) none (fun k hk=>by
   rcases hk with rfl | ⟨h0,rfl⟩
   ·refine⟨by have:=SZ.out;omega,?_,by simp⟩
    rintro(e | e | e | e | e | e | ⟨q,hq,e⟩)
    ·have:=SZ.out;omega
    ·have:=SZ.out;omega
    ·have:=SZ.out;omega
    ·have:=SZ.out;omega
    ·have:=SZ.out;omega
    ·have:=SZ.out;omega
    ·have h1:=hR.out.ok q hq
     have:=U9 h1.2.2.2 _ e;have:=SZ.out;omega
   ·have:=hlt.out h0
    refine⟨by have:=SZ.out;omega,?_,by simp⟩;rintro(e | e | e | e | e | e | ⟨q,hq,e⟩)
    ·have:=SZ.out;omega
    ·have:=SZ.out;omega
    ·have:=SZ.out;omega
    ·have:=SZ.out;omega
    ·have:=SZ.out;omega
    ·have:=SZ.out;omega
    ·have h1:=hR.out.ok q hq
     have:=U9 h1.2.2.2 _ e;have:=hA.out ad.block q (by rw[hAA.out h0];rfl) hq
     omega)
  (ShI l0 lo w7.heap.size w.heap.size w1.heap.size w2.heap.size w3.heap.size w4.heap.size w5.heap.size A c w s k a lv l) (ShX lo w7.heap.size w1.heap.size w2.heap.size w3.heap.size w s k a lv)
  (Z7q (by have:=SZ.out;omega) (by have:=SZ.out;omega) (fun q hq=>by have:=(hR.out.ok q hq).2.2.1;have:=SZ.out;omega)) (fun c=>Z7n (by have:=SZ.out;omega) (by have:=SZ.out;omega))
  (fun r V hr k e=>by rw[hr.1] at e;cases e) hI0.out
  (fun x' a' V=>∃ g:Nat,a'={ tmps:=#[.agg #[.slice qa.1 qa.2.1 qa.2.2,.slice qb.1 qb.2.1 qb.2.2,.slice qc.1 qc.2.1 qc.2.2,.slice qd.1 qd.2.1 qd.2.2],.slice A m c,.pointer (some ⟨w.heap.size,0,none⟩),Qae,.pointer (some ⟨w1.heap.size,0,none⟩),.pointer (some ⟨w2.heap.size,0,none⟩),.pointer (some ⟨w3.heap.size,0,none⟩),.pointer (some ⟨w4.heap.size,0,none⟩),.pointer (some ⟨w5.heap.size,0,none⟩),Qae,.pointer (some ⟨g,0,none⟩),Qae,Qae,Qae,.slice A m c,.func (.func 83) #[] #[.pointer (some ⟨w6.heap.size,0,none⟩)],.int .i64 (x':Int),.agg #[.int .i64 (f x').nd.1,.slice (f x').A (f x').nd.2.length (f x').c,.int .i64 ((f x').pl:Int)],Qae,Qae,Qae,Qae,Qae,Qae,Qae,Qae,Qae,Qae,Qae,Qae,Qae,Qae,Qae,Qae,Qae,Qae,Qae,Qae,Qae,Qae,Qae,Qae,Qae,Qae,Qae,Qae,Qae,Qae,Qae,Qae,Qae,Qae,Qae,Qae,Qae,Qae,Qae,Qae,Qae,Qae,Qae,Qae,Qae,Qae,Qae,Qae,Qae,Qae,Qae,Qae,Qae,Qae,Qae,Qae,Qae,Qae,Qae,Qae,Qae,Qae,Qae,Qae,Qae,Qae,Qae,Qae,Qae,Qae,Qae,Qae,Qae,Qae,Qae,Qae,Qae,Qae,Qae,Qae,Qae,Qae],defers:=[] }/\Yg g #[.int .i64 (f x').nd.1,.slice (f x').A (f x').nd.2.length (f x').c,.int .i64 ((f x').pl:Int)] 102 V)
  (fun y a' _ A B row hs hg hr=>by
   obtain⟨g,e1,h0⟩:=hs
   exact⟨g,e1,Zl h0 hg fun r e=>(hr r e).2⟩)
  (fun pre x q=>fun _ _ _ _ hs _ _=>hs) ?assign ?body ?done ?stop
 case assign =>
  rintro l' pre' q' x' V K hi hT hK;obtain⟨V1,hV1,bV,hVs,hVB⟩:∃ V1,V.alloc (.cells #[.int .i64 (f x').nd.1,.slice (f x').A (f x').nd.2.length (f x').c,.int .i64 ((f x').pl:Int)] 102)=V1/\V1.heap[V.heap.size]? = some (.cells #[.int .i64 (f x').nd.1,.slice (f x').A (f x').nd.2.length (f x').c,.int .i64 ((f x').pl:Int)] 102 (0,0))/\V1.heap.size=V.heap.size+1/\Qah V.heap.size V V1:=⟨_,rfl,Qad _ _,by simp,(Qa _ _).alloc (Qc _) _⟩
  replace hVs:=Za hVs;clear hi hT;simp only[Ybq]
  gi_wp2_with fail
  exact hK _ _ (Z5 hVB) ⟨V.heap.size,rfl,bV⟩
 case body =>
  rintro l' pre' q' x' a' V hVs hI ⟨g1,rfl,hg1⟩ ⟨hp1,hp2,hp3⟩;obtain⟨hqn,⟨hIb,hIs,hIo⟩,⟨hB4,hB5,hB6⟩,t,L,held,pa,pb,pc,pd,F,fc,bnd,hst,hB2,hSto,hB7,hB8,⟨hbl,hrow,hFq⟩,hrows⟩:=hI
  dsimp only at hqn
  subst hqn;have hk:pre'.length<m:=hp2;clear hp1;obtain⟨hqm,hqi⟩:=hff.out _ hk;rw[<- hp3] at hqm hqi;have hidx:Hid (∀ q∈l.take (l.length-(pre'++[x']).length),q.hi<=(f x').lo/\q∈l.take (l.length-pre'.length)):=Za fun q hqm'=>by
   obtain⟨i,hi⟩:=Q7 hqm';have hil:=(Qm.1 hi).1;rw[Qn,Ql,hl.out] at hil;simp only[Q0,Q3] at hil;rw[Qy (by rw[hl.out,Ql];simp only[Q0,Q3];omega)] at hi;refine⟨?_,Qj (i:=i) (by rw[Qy (by rw[hl.out];omega)];exact hi)⟩;obtain⟨h1,e1⟩:=Qm.1 hi;obtain⟨h2,e2⟩:=Qm.1 hqi;have:=List.pairwise_iff_getElem.1 hR.out.apart i x' h1 h2 (by omega);rw[e1,e2] at this;exact this
  obtain⟨hqh,hRA⟩:=hrows _ (Qj (i:=m-1-pre'.length) (by rw[Qy (by rw[hl.out];show m-1-pre'.length<m-pre'.length;omega),<- hp3];exact hqi));have hpl:(pre'++[x']).length=pre'.length+1:=by rw[Ql];rfl
  obtain⟨hnd,hpw⟩:=hq.out x' _ hqi;have hxl:x'=lv-pre'.length:=by have:=hm.out;omega
  have hdn:=Zak (k:=k) hT.out x' (by omega);have hwl:=Yai hdn (Zlr hT.out hx.out x' (by omega));rw[<- hnd,<- hpw] at hwl;obtain⟨hplt,hq5,hql64⟩:=hwl;clear hp3 hdn;generalize f x'=q at *;obtain⟨hql1,hql2,hql3,_⟩:=hR.out.ok q hqm;have hrin:=Z13 hRA hql2;obtain⟨ps,hps,hpo,hpi⟩:=hrin.row;obtain⟨rb,hrbe⟩:∃ rb,q.A.map (·.block)=rb:=⟨_,rfl⟩
  have hrb:=hrin.blk;rw[hrbe] at hrb hpi;by_cases hL:L=[]
  ·subst hL
   obtain⟨hh,hst2⟩:=Z9c h6 hT.out hx.out (show pre'.length<=lv by have:=hm.out;omega) hst;rw[<- hxl,<- hnd,<- hpw] at hst2;subst hh;have HD:=Zv3 q.A q.lo q.nd.2.length q.c q.pl (q.pl+1) ps V hpo rfl (by omega) (by omega) (Zf8 hpi);obtain⟨Ls,hLs⟩:∃ Ls,ps.take q.pl++ps.drop (q.pl+1)=Ls:=⟨_,rfl⟩
   have hmap:Ls.map (·.1)=Zbb q.nd.2 q.pl 1 []:=by
    rw[<- hLs,Qx,P1,P3,hps];rfl
   have hLi:∀ p∈Ls,InI p.1/\rBy (fun ad=>q.lo<=ad.block/\ad.block<q.hi/\rb≠some ad.block) V [p.2] p.1.2.2:=fun p hp=>by
    rw[<- hLs] at hp;rcases Qg.1 hp with hp | hp
    ·exact hpi p (Qo hp)
    ·exact hpi p (Qw hp)
   rw[hLs] at HD;obtain⟨len,hlen⟩:∃ len,Ls.length=len:=⟨_,rfl⟩
   have hins:(Zbb q.nd.2 q.pl 1 []).length=len:=by rw[<- hmap,Q6,hlen]
   have i1:IntKind.i64.wrap ((q.pl:Int)+1)=(q.pl:Int)+1:=by rw[IntKind.wrap_i64];omega
   obtain⟨n0,nf,_⟩:=Zn hB7;obtain⟨y0,y1,y2,_⟩:=Zk hg1;rw[show ((q.pl+1:Nat):Int)=(q.pl:Int)+1 by omega] at HD;have hHD:=Za HD;have HB2:=Za hB2;have HB4:=Za hB4;have HB5:=Za hB5;have HB6:=Za hB6;have HB7:=Za hB7;have HB8:=Za hB8;have HIb:=Za hIb;have HIs:=Za hIs;have HSto:=Za hSto;have HIo:=Za hIo;have HRows:=Za hrows;have Hrb:=Za hrb;have HLi:=Za hLi;replace hst2:=Za hst2;replace hmap:=Za hmap;replace hlen:=Za hlen;replace hins:=Za hins;replace hqm:=Za hqm;replace hrbe:=Za hrbe;replace hLs:=Za hLs;replace hxl:=Za hxl;replace hnd:=Za hnd;replace hpw:=Za hpw;replace hpl:=Za hpl;clear hIo HD hB2 hB4 hB5 hB6 hB7 hB8 hIb hIs hSto hrows hrb hLi hrow hrin hRA hg1 hps hpo hpi hst;generalize q.nd.1=q1 at *;generalize q.nd.2.length=q3 at *
   gi_wp2_with fail
   refine⟨trivial,rfl,?_⟩;refine(CallsIn.inRound _ (callsIn_wide.2 hHD.out)).mono ?_;rintro e W hrep;have hrep':=Za hrep;obtain⟨rfl,ho,hgr⟩:=hrep;rw[hrbe.out] at hgr;rw[hlen.out];have keep:∀ k,w.heap.size<=k->k<V.heap.size->W.heap[k]? = V.heap[k]? := fun k h1 h2=>hgr.block k h2 (fun e=>by have:=Hrb.out k e.symm;omega)
   have c7:Yg w4.heap.size _ 39 W:=(keep _ (by have:=SZ.out;omega) (Qd.1 HB7.out).1).trans HB7.out;obtain⟨W1,hW1,d7,gr1,gs1⟩:=X1 (u:=.slice q.A len q.c) c7;obtain⟨m0,mf,_⟩:=Zn c7;have all1:∀ k,k<W.heap.size->k≠w4.heap.size->W1.heap[k]? = W.heap[k]? := fun k h1 h2=>gr1.block k h1 (fun e=>h2 (Option.some.inj e))
   have hsz:=hgr.size;have kpt:Hid (Vq (fun k=>k=w.heap.size\/k=w2.heap.size\/k=w3.heap.size\/k=w1.heap.size\/k=w4.heap.size\/k=w5.heap.size\/∃ q∈l,q.A.map (·.block)=some k) none none V W1):=Za (((Vq.refl _ _ _).grown hgr fun r e=>.inr (.inr (.inr (.inr (.inr (.inr (.inr ⟨q,hqm.out,by rw[hrbe.out,e]⟩))))))).grown gr1 fun r e=>by cases e;exact .inr (.inr (.inr (.inr (.inr (.inl rfl))))))
   have hfin:Hid (ShI l0 lo w7.heap.size w.heap.size w1.heap.size w2.heap.size w3.heap.size w4.heap.size w5.heap.size A c w s k a lv l (pre'++[x'],none) W1):=Za (by
    have kb:∀ k,w.heap.size<=k->k<V.heap.size->k≠w4.heap.size->W1.heap[k]? = V.heap[k]? := fun k h1 h2 h3=>(all1 k (by omega) h3).trans (keep k h1 h2)
    have bx:∀ {k:Nat} {cs:Array P9} {t:Qab},Yg k cs t V->w.heap.size<=k->k≠w4.heap.size->Yg k cs t W1:=fun h h1 h2=>(kb _ h1 (Qd.1 h).1 h2).trans h
    have hlo':∀ r,rb=some r->lo<=r:=fun r e=>by have:=Hrb.out r e;omega
    refine⟨rfl,⟨(HIb.out.grown hgr (by have:=HIs.out;have:=SZ.out;omega) hlo').grown gr1 (by have:=HIs.out;have:=SZ.out;omega) (fun k e=>by cases e;have:=SZ.out;omega),by have:=HIs.out;omega,Zdi HIo.out fun kk e=> ?_⟩,⟨bx HB4.out (by have:=SZ.out;omega) (by have:=SZ.out;omega),bx HB5.out (by have:=SZ.out;omega) (by have:=SZ.out;omega),bx HB6.out (by have:=SZ.out;omega) (by have:=SZ.out;omega)⟩,t,Zbb q.nd.2 q.pl 1 [],0,pa,pb,pc,pd,q.A,q.c,q.lo,?_,bx HB2.out (Qc _) (by have:=SZ.out;omega),?_,?_,bx HB8.out (by have:=SZ.out;omega) (by have:=SZ.out;omega),⟨hql1,?_,.inr ⟨q,hqm.out,rfl⟩⟩,fun q2 hq2=> ?_⟩
    ·have h1:=hAst.out kk e
     have h2:=hA.out kk q e hqm.out;rw[all1 kk (by have:=HIs.out;have:=SZ.out;omega) (by have:=SZ.out;omega)];exact hgr.block kk (by have:=HIs.out;have:=SZ.out;omega) (fun e=>by have:=Hrb.out kk e.symm;omega)
    ·show stO k s a lv (pre'++[x']).length=_
     rw[hpl.out];exact hst2.out
    ·refine HSto.out.map fun p v hp hc=> ?_
     have h1:p.block<V.heap.size:=hp.2;have h2:W.heap[p.block]? = V.heap[p.block]? := hgr.block p.block h1 (fun e=>by have:=Hrb.out _ e.symm;have:=SZ.out;rcases hp.1 with h | h <;> omega);have h3:=all1 p.block (by omega) (by have:=SZ.out;rcases hp.1 with h | h <;> omega);exact⟨⟨hp.1,by omega⟩,(Qe (h3.trans h2)).trans hc⟩
    ·rw[hins.out]
     exact d7
    ·have:=(Z53 (hi:=q.hi) hql2 (by rw[hrbe.out];exact Hrb.out) (by have:=HIs.out;have:=SZ.out;omega) hrep'.out (by rw[hrbe.out];exact HLi.out)).wide hql3
     rw[hmap.out] at this;exact this.same fun k h1 h2=>all1 k (by have:=HIs.out;have:=SZ.out;omega) (by have:=SZ.out;omega)
    ·obtain⟨h1,h2⟩:=hidx.out q2 hq2
     refine⟨h1,(HRows.out q2 h2).2.same fun k h3 h4=> ?_⟩;have h5:=(hR.out.ok q2 (Qo h2)).2.2.1;rw[all1 k (by have:=HIs.out;have:=SZ.out;omega) (by have:=SZ.out;omega)]
     exact hgr.block k (by have:=HIs.out;have:=SZ.out;omega) (fun e=>by have:=Hrb.out k e.symm;omega))
   clear keep all1 d7 gr1 gs1 hgr ho c7
   gi_wp2_with fail
   exact⟨none,kpt.out.wide fun k _ h=>by simpa using h,hfin.out⟩
  ·obtain⟨d,hd⟩:∃ d,pre'.length=d+1:=by
    cases hp:pre'.length with
    | zero =>
     rw[hp] at hst;unfold stO at hst;cases hst;exact absurd rfl hL
    | succ d=>exact⟨d,rfl⟩
   rw[hd] at hst;have hdl:d+1<=lv:=by have:=hm.out;omega
   have GG:=Zx6 h6 hT.out (show d<=lv by omega) hst;obtain⟨m1,m2,m3,m4,m5,m6,m7⟩:=Z8g h6 hT.out hdl hL hst;rw[show lv-(d+1)=x' by omega,<- hnd] at m1 m2 m3 m4 m5 m6 m7;rw[<- hpw] at m2 m3 m5 m7;have mfew:=m2.few;have minI:=m2.inI;have mfit:=m2.fit;have msub:=m2.sub;obtain⟨qs,hqs,hFo,hFi⟩:=hrow.row;have hL0:0<L.length:=P4.2 hL;have HJ:=Z2u pa pb pc pd t q.nd.1 q.A q.nd.2.length q.c q.pl q.nd.2 F bnd L.length fc qs L V (Zef hSto) (hrin.its (by have:=SZ.out;have:=hIs;omega)) rfl hplt hq5 m1 hFo hqs hL0 GG.few (fun p hp=>⟨(hFi p hp).1,Zf _ _ _ _ _ _ (fun a v ha hc=>⟨⟨by have:=ha.2.1;have:=SZ.out;have:=hIs;omega,ha.2.2⟩,hc⟩) (hFi p hp).2⟩) (by have:=hrow.le;have:=SZ.out;have:=hIs;omega);unfold Z81 at HJ;obtain⟨R,hRe⟩:∃ R,Yk s q.nd.2 q.pl L=R:=⟨_,rfl⟩
   rw[m3,hRe] at HJ;rw[hRe] at mfew minI mfit msub m7;obtain⟨first,many,L'⟩:=R
   dsimp only at HJ mfew minI mfit msub m7
   obtain⟨y0,r0,hy0⟩:∃ y0 r0,L'=y0::r0:=by
    obtain⟨z0,hz0⟩:=Pv _ hL;have:=msub z0 hz0;cases L' with
    | nil=>cases this
    | cons a b=>exact⟨a,b,rfl⟩
   obtain⟨fa,rfl⟩:∃ fa,F=some fa:=by
    obtain⟨_,_,e,_,_,_,h5⟩:=Yj hFo;cases e;exact h5 hL0
   obtain⟨fb,Cf,rfl,hfl,hfs,hfg,_⟩:=Yd hFo;obtain⟨q2,hq2,hq2A⟩:∃ q2∈l,q2.A=some ⟨fb,0,none⟩:=hFq.resolve_left (by simp);have hfbw:fb<w.heap.size:=(hrow.blk fb rfl).2;have hfbq:q.hi<=fb:=Qf hqh hfl;have hgb:g1≠fb:=fun e=>by
    unfold Yg at hg1;rw[e,hfg] at hg1;simp at hg1
   have HL:=fun(b c':Nat) (W:P8) (hs:Sto (Old W) W (.agg #[.slice pa.1 pa.2.1 pa.2.2,.slice pb.1 pb.2.1 pb.2.2,.slice pc.1 pc.2.1 pc.2.2,.slice pd.1 pd.2.1 pd.2.2]) t) (hi:Zae (Old W) W [.slice (some ⟨b,0,none⟩) L'.length c'] L')=>Zm4 pa pb pc pd t (some ⟨b,0,none⟩) c' ((d:Int),L') held W hs ⟨_,rfl,⟨by omega,by omega⟩,hi⟩
   obtain⟨LD,hLD⟩:∃ LD,Zsc t ((d:Int),L') held=LD:=⟨_,rfl⟩
   rw[hLD] at m7 HL;obtain⟨er,S',z⟩:=LD
   dsimp only at m7 HL
   have hz64:er=0->Zka z:=fun h0=>by
    have:=Z1n (s:=t) (lv:=(d:Int)) (L:=L') (held:=held) mfew (by
     rcases GG.own with h | ⟨_,_,_,q,hq,hqe⟩
     ·exact .inl h
     ·exact .inr ⟨q,msub q hq,hqe⟩)
    rw[hLD] at this;by_cases hb:(Zq t (d:Int) L').1=0
    ·rw[if_pos hb] at this
     obtain⟨u,up,e⟩:∃ u up,Zq t (d:Int) L'=(0,u,up):=⟨_,_,Prod.ext hb rfl⟩
     rw[e] at this;rcases X9 e with ⟨hmk,_,rfl⟩ | ⟨h6',_⟩
     ·obtain⟨kk,e1,k8,k256,_⟩:=X5 hmk
      have hz:z=mkN t ((d:Int),L'):=by
       have:=congrArg (fun g:Int×Rm×Int=>g.2.2) this;exact this
      rw[hz,e1];exact⟨by omega,by omega⟩
     ·omega
    ·rw[if_neg hb] at this
     have:=congrArg (fun g:Int×Rm×Int=>g.1) this;exact absurd (this.symm.trans h0) hb
   have hFit:=Za mfit;have i5:IntKind.i64.wrap (q.nd.1-1)=(d:Int):=by rw[m4,IntKind.wrap_i64];omega
   have i6:IntKind.i64.wrap ((first:Int)+(many:Int))=(first:Int)+(many:Int):=by rw[IntKind.wrap_i64];omega
   have hmk:=Za (show ∀ L2:List Iv,L2=ps.take first++([(upI L' z,.slice none 0 0)]++ps.drop (first+many))->L2.map (·.1)=Zbb q.nd.2 first many [upI L' z] from fun L2 e=>by
    rw[e,Qx,Qx,P1,P3,hps]
    rfl)
   have t0:((L.length:Int)==0)=false:=by simp;omega
   obtain⟨ml,hml⟩:∃ ml,L.length=ml:=⟨_,rfl⟩
   obtain⟨nl',hnl'⟩:∃ nl',L'.length=nl':=⟨_,rfl⟩
   rw[hml] at HJ hB7 t0;rw[hnl'] at HJ HL;obtain⟨n0,nf,_⟩:=Zn hB7;obtain⟨u0,u1,u2,_⟩:=Zk hg1;obtain⟨k0,k1,k2,k3,kf,_⟩:=Ze hB2;have hHJ:=Za HJ;have hHL:=Za HL;have HB2:=Za hB2;have HB4:=Za hB4;have HB5:=Za hB5;have HB6:=Za hB6;have HB7:=Za hB7;have HB8:=Za hB8;have HG1:=Za hg1;have HIb:=Za hIb;have HIs:=Za hIs;have HSto:=Za hSto;have HIo:=Za hIo;have HRows:=Za hrows;have Hrb:=Za hrb;have HPO:=Za hpo;have HPI:=Za hpi;replace m7:=Za m7;replace minI:=Za minI;replace hml:=Za hml;replace hnl':=Za hnl';replace hLD:=Za hLD;replace hRe:=Za hRe;replace hy0:=Za hy0;replace hqm:=Za hqm;replace hrbe:=Za hrbe;replace hxl:=Za hxl;replace hnd:=Za hnd;replace hpw:=Za hpw;replace hpl:=Za hpl;replace hd:=Za hd;replace hz64:=Za hz64;replace hL:=Za hL;clear hIo HJ HL hB2 hB4 hB5 hB6 hB7 hB8 hIb hIs hSto hrows hrb hrow hrin hRA hg1 hps hpo hpi hst m1 m2 m3 m4 m5 m6 mfew mfit msub GG hqs hFo hFi hfg;have hq64:=Za hql64;clear hql64;obtain⟨q1,hq1⟩:∃ q1,q.nd.1=q1:=⟨_,rfl⟩
   obtain⟨q3,hq3⟩:∃ q3,q.nd.2.length=q3:=⟨_,rfl⟩
   rw[hq1] at i5 u0 hHJ HG1;rw[hq3] at u1 hHJ HPO HG1 hplt hq5 hFit;rw[hq1,hq3];replace hq1:=Za hq1;replace hq3:=Za hq3
   gi_wp2_with fail
   refine⟨trivial,rfl,?_⟩;refine(CallsIn.inRound _ (callsIn_wide.2 hHJ.out)).mono ?_;rintro e W2 ⟨b,c',rfl,hits,hgr⟩;have keep2:∀ k,k<V.heap.size->k≠fb->W2.heap[k]? = V.heap[k]? := fun k h1 h2=>hgr.block k h1 (fun e=>h2 (Option.some.inj e))
   have hsz2:=hgr.size;obtain⟨W3,hW3,i3,hs3',hB3'⟩:=Yc W2 (.int .i64 (first:Int)) (.int .i64 (many:Int)) 108;have keep3:∀ k,k<V.heap.size->k≠fb->W3.heap[k]? = V.heap[k]? := fun k h1 h2=>(hB3'.block k (by omega)).trans (keep2 k h1 h2)
   have bx3:∀ {k:Nat} {cs:Array P9} {t:Qab},Yg k cs t V->w.heap.size<=k->Yg k cs t W3:=fun h h1=>(keep3 _ (Qd.1 h).1 (by omega)).trans h
   have c2:=bx3 HB2.out (Qc _);have c8:=bx3 HB8.out (by have:=SZ.out;omega);have cg:Yg g1 _ 102 W3:=(keep3 g1 (Qd.1 HG1.out).1 hgb).trans HG1.out;have hS3:Sto (Kn (fun k=>k<l0\/w7.heap.size<=k) W3) W3 (.agg #[.slice pa.1 pa.2.1 pa.2.2,.slice pb.1 pb.2.1 pb.2.2,.slice pc.1 pc.2.1 pc.2.2,.slice pd.1 pd.2.1 pd.2.2]) t:=HSto.out.map fun p v hp hc=>by
    have h1:p.block<V.heap.size:=hp.2;have h2:=keep3 p.block h1 (by have:=SZ.out;rcases hp.1 with h | h <;> omega);exact⟨⟨hp.1,by omega⟩,(Qe h2).trans hc⟩
   have HLc:=Za (hHL.out b c' W3 (Zef hS3) (Y8.old hits hB3'));clear n0 nf u0 u1 u2 k0 k1 k2 k3 kf;obtain⟨k0,k1,k2,k3,kf,_⟩:=Ze c2;obtain⟨u0,u1,u2,_⟩:=Zk cg;obtain⟨o0,_⟩:=Zn c8;have hIts:=Za hits;have K3:=Za keep3;have C2:=Za c2;have C8:=Za c8;have CG:=Za cg;have I3:=Za i3;have HGR:=Za hgr;have B23:=Za hB3';have S23:=Za hs3';replace hsz2:=Za hsz2;clear hits keep2 keep3 bx3 c2 c8 cg hS3 i3 hgr hB3' hs3' hHL hHJ
   gi_wp2_with fail
   clear hW3;refine⟨trivial,rfl,?_⟩;refine(CallsIn.inRound _ (callsIn_wide.2 HLc.out)).mono ?_;rintro e W4 ⟨va,vb,vc,vd,rfl,hS4,hb4⟩;clear k0 k1 k2 k3 kf u0 u1 u2 o0 HLc;have hV3:V.heap.size<W3.heap.size:=by have:=hsz2.out;have:=S23.out;omega
   have hszw:w7.heap.size<=V.heap.size:=HIs.out;have c24:Yg w.heap.size _ 29 W4:=(hb4.block _ (by have:=SZ.out;omega)).trans C2.out;obtain⟨W5,hW5,g5,gr5,gs5⟩:=Zu (a':=.slice va.1 va.2.1 va.2.2) (b':=.slice vb.1 vb.2.1 vb.2.2) (c':=.slice vc.1 vc.2.1 vc.2.2) (d':=.slice vd.1 vd.2.1 vd.2.2) c24;have c85:Yg w5.heap.size _ 3 W5:=(gr5.block _ (by have:=SZ.out;have:=hb4.size;omega) (fun e=>by have:=Option.some.inj e;have:=SZ.out;omega)).trans ((hb4.block _ (by have:=SZ.out;omega)).trans C8.out);obtain⟨W6,hW6,g6,gr6,gs6⟩:=X1 (u:=.int .i64 z) c85;obtain⟨k0,k1,k2,k3,kf,_⟩:=Ze c24;obtain⟨o0,of,_⟩:=Zn c85;have all6:∀ k,k<W4.heap.size->k≠w.heap.size->k≠w5.heap.size->W6.heap[k]? = W4.heap[k]? := fun k h1 h2 h3=>(gr6.block k (by omega) (fun e=>h3 (Option.some.inj e))).trans (gr5.block k h1 (fun e=>h2 (Option.some.inj e)))
   have keep6:∀ k,k<V.heap.size->k≠fb->k≠w.heap.size->k≠w5.heap.size->W6.heap[k]? = V.heap[k]? := fun k h1 h2 h3 h4=>(all6 k (by have:=hb4.size;omega) h3 h4).trans ((hb4.block k (by omega)).trans (K3.out k h1 h2))
   have bx6:∀ {k:Nat} {cs:Array P9} {t:Qab},Yg k cs t V->w.heap.size<k->k≠w5.heap.size->Yg k cs t W6:=fun h h1 h2=>(keep6 _ (Qd.1 h).1 (by omega) (by omega) h2).trans h
   have hfbl:∀ r,(some fb:Option Nat)=some r->lo<=r:=fun r e=>by cases e;omega
   have kpt:Hid (Vq (fun k=>k=w.heap.size\/k=w2.heap.size\/k=w3.heap.size\/k=w1.heap.size\/k=w4.heap.size\/k=w5.heap.size\/∃ q∈l,q.A.map (·.block)=some k) none none V W6):=Za (((((Vq.refl _ _ _).grown HGR.out fun r e=>.inr (.inr (.inr (.inr (.inr (.inr (.inr ⟨q2,hq2,by rw[hq2A];exact e⟩))))))).grown (Z5 B23.out) fun r e=>by cases e).grown (Z5 hb4) fun r e=>by cases e).grown gr5 fun r e=>by cases e;exact .inr (.inl rfl)).grown gr6 fun r e=>by cases e;exact .inr (.inr (.inr (.inr (.inr (.inr (.inl rfl))))))
   have hb6:Hid (Qah lo w W6/\w7.heap.size<=W6.heap.size):=Za ⟨((((HIb.out.grown HGR.out (by have:=SZ.out;omega) hfbl).trans (B23.out.mono (by have:=SZ.out;have:=hsz2.out;omega))).trans (hb4.mono (by have:=SZ.out;omega))).grown gr5 (by have:=SZ.out;have:=hb4.size;omega) (fun k e=>by cases e;omega)).grown gr6 (by have:=SZ.out;have:=hb4.size;omega) (fun k e=>by cases e;have:=SZ.out;omega),by have:=hb4.size;omega⟩;have z4:Hid (Yg w1.heap.size #[.slice none 0 0,.slice none 0 0,.slice none 0 0,.slice none 0 0] 29 W6):=Za (bx6 HB4.out (by have:=SZ.out;omega) (by have:=SZ.out;omega));have z5:Hid (Yg w2.heap.size #[.int .i64 0] 3 W6):=Za (bx6 HB5.out (by have:=SZ.out;omega) (by have:=SZ.out;omega));have z6:Hid (Yg w3.heap.size #[.int .i64 0] 33 W6):=Za (bx6 HB6.out (by have:=SZ.out;omega) (by have:=SZ.out;omega))
   have hS6:Hid (Sto (Kn (fun k=>k<l0\/w7.heap.size<=k) W6) W6 (.agg #[.slice va.1 va.2.1 va.2.2,.slice vb.1 vb.2.1 vb.2.2,.slice vc.1 vc.2.1 vc.2.2,.slice vd.1 vd.2.1 vd.2.2]) S'):=Za (hS4.map fun p v hp hc=>by
    have h1:W3.heap.size<=p.block:=hp.1;have h2:p.block<W4.heap.size:=hp.2;have h3:=all6 p.block h2 (by have:=SZ.out;omega) (by have:=SZ.out;omega)
    exact⟨⟨.inr (by omega),by omega⟩,(Qe h3).trans hc⟩)
   by_cases he0:er=0
   case neg =>
    have t1:(er != 0)=true:=by simpa using he0
    obtain⟨W7,hW7,g7,gr7,gs7⟩:=X1 (u:=.int .i64 er) z6.out;have e4:=z4.out;have e5:=z5.out;obtain⟨m0,m1,m2,m3,mf,_⟩:=Ze e4;obtain⟨p0,pf,_⟩:=Zn e5;obtain⟨y0',yf,_⟩:=Zn z6.out;have S4:=Z3 (W:=W6) (i:=0) (v:=.slice none 0 0) e4 rfl;have S4b:=Z3 (W:=W6) (i:=1) (v:=.slice none 0 0) e4 rfl;have S4c:=Z3 (W:=W6) (i:=2) (v:=.slice none 0 0) e4 rfl;have S4d:=Z3 (W:=W6) (i:=3) (v:=.slice none 0 0) e4 rfl;have S5:=Z3 (W:=W6) (i:=0) (v:=.int .i64 0) e5 rfl
    have hfin:Hid (ShX lo w7.heap.size w1.heap.size w2.heap.size w3.heap.size w s k a lv .ret (pre'++[x'],none) W7):=Za (by
     have b7:∀ {k:Nat} {cs:Array P9} {t:Qab},Yg k cs t W6->k≠w3.heap.size->Yg k cs t W7:=fun h h1=>(gr7.block _ (Qd.1 h).1 (fun e=>h1 (Option.some.inj e))).trans h
     refine⟨rfl,rfl,⟨hb6.out.1.grown gr7 (by have:=hb6.out.2;have:=SZ.out;omega) (fun k e=>by cases e;have:=SZ.out;omega),by have:=hb6.out.2;omega⟩,er,b7 z4.out (by have:=SZ.out;omega),b7 z5.out (by have:=SZ.out;omega),g7,?_,he0⟩
     exact Z5z (i:=d+1+1) (by rw[m7.out,if_neg he0]) he0 (lv+1) (by omega) (Qc _))
    have kp7:Hid (Vq (fun k=>k=w.heap.size\/k=w2.heap.size\/k=w3.heap.size\/k=w1.heap.size\/k=w4.heap.size\/k=w5.heap.size\/∃ q∈l,q.A.map (·.block)=some k) none none V W7):=Za (kpt.out.grown gr7 fun r e=>by cases e;exact .inr (.inr (.inr (.inl rfl))));clear g7 gr7 gs7 e4 e5 all6 keep6 bx6 hfbl g5 gr5 gs5 g6 gr6 gs6 c24 c85 hS4 hb4;replace he0:=Za he0
    gi_wp2_with fail
    exact⟨none,kp7.out.wide fun k _ h=>by simpa using h,hfin.out⟩
   subst he0;obtain⟨ad0,E0,ce0,e0,_,hAt,_⟩:=Zao hIts.out (show L'[0]? = some y0 by rw[hy0.out];rfl);cases e0;obtain⟨a0,a1,a2,_,_⟩:=hAt;have a0':W2.cell? ⟨b,0,none⟩=some (.int .u8 (y0.1.1.toNat:Int)):=by simpa [Addr.add] using a0
   have a1':W2.cell? ⟨b,1,none⟩=some (.int .u32 y0.1.2.1):=by simpa [Addr.add] using a1
   have a2':W2.cell? ⟨b,2,none⟩=some (.int .u32 y0.1.2.2):=by simpa [Addr.add] using a2
   have hbW2:b<W2.heap.size:=Q8 _ ⟨b,0,none⟩ a0';have hbn:b≠w.heap.size/\b≠w5.heap.size:=by
    have h1:W2.heap[w.heap.size]? = W3.heap[w.heap.size]? := (B23.out.block _ (by have:=hsz2.out;have:=SZ.out;omega)).symm;have h2:W2.heap[w5.heap.size]? = W3.heap[w5.heap.size]? := (B23.out.block _ (by have:=hsz2.out;have:=SZ.out;omega)).symm;refine⟨fun e=> ?_,fun e=> ?_⟩
    ·rw[e,(Ze (h1.trans C2.out)).1] at a0'
     cases a0'
    ·rw[e,(Zn (h2.trans C8.out)).1] at a0'
     cases a0'
   have kb:W6.heap[b]? = W2.heap[b]? := (all6 b (by have:=hb4.size;have:=S23.out;omega) hbn.1 hbn.2).trans ((hb4.block b (by have:=S23.out;omega)).trans (B23.out.block b hbW2))
   have KD:=Za (fun W (hW:Qah W6.heap.size W6 W)=>(show W.cell? ⟨b,0,none⟩=some (.int .u8 (y0.1.1.toNat:Int))/\W.cell? ⟨b,1,none⟩=some (.int .u32 y0.1.2.1)/\W.cell? ⟨b,2,none⟩=some (.int .u32 y0.1.2.2) from by
    have hb:=(hW.block b (by have:=hb4.size;have:=S23.out;omega)).trans kb
    exact⟨(Qe (a:=⟨b,0,none⟩) hb).trans a0',(Qe (a:=⟨b,1,none⟩) hb).trans a1',(Qe (a:=⟨b,2,none⟩) hb).trans a2'⟩))
   have ig:Yg W2.heap.size #[.int .i64 (first:Int),.int .i64 (many:Int)] 108 W6:=(all6 _ (by have:=hb4.size;have:=S23.out;omega) (by have:=hsz2.out;have:=SZ.out;omega) (by have:=hsz2.out;have:=SZ.out;omega)).trans ((hb4.block _ (by have:=S23.out;omega)).trans I3.out);have KI:=Za (fun W (hW:Qah W6.heap.size W6 W)=>(hW.block _ (Qd.1 ig).1).trans ig);have pg:Yg g1 #[.int .i64 q1,.slice q.A q3 q.c,.int .i64 (q.pl:Int)] 102 W6:=by
    have h1:g1≠w.heap.size/\g1≠w5.heap.size:=by
     refine⟨fun e=> ?_,fun e=> ?_⟩
     ·have h2:=HB2.out
      have h3:=HG1.out;unfold Yg at h2 h3;rw[e,h2] at h3;simp at h3
     ·have h2:=HB8.out
      have h3:=HG1.out;unfold Yg at h2 h3;rw[e,h2] at h3;simp at h3
    exact(keep6 g1 (Qd.1 HG1.out).1 hgb h1.1 h1.2).trans HG1.out
   have KP:=Za (fun W (hW:Qah W6.heap.size W6 W)=>(hW.block _ (Qd.1 pg).1).trans pg);have KZ:=Za (fun W (hW:Qah W6.heap.size W6 W)=>(hW.block _ (Qd.1 g6).1).trans g6);have g7:=bx6 HB7.out (by have:=SZ.out;omega) (by have:=SZ.out;omega);have K7:=Za (fun W (hW:Qah W6.heap.size W6 W)=>(hW.block _ (Qd.1 g7).1).trans g7);have g2b:Yg w.heap.size #[.slice va.1 va.2.1 va.2.2,.slice vb.1 vb.2.1 vb.2.2,.slice vc.1 vc.2.1 vc.2.2,.slice vd.1 vd.2.1 vd.2.2] 29 W6:=(gr6.block _ (by rw[gs5];exact(Qd.1 c24).1) (fun e=>by have:=Option.some.inj e;have:=SZ.out;omega)).trans g5;have H2b:=Za g2b;have H8b:=Za g6;have hz:=hz64.out rfl;have hnp:0<nl':=by rw[<- hnl'.out,hy0.out];exact Nat.succ_pos _
   have hnp2:(0:Int)<(nl':Int):=by omega
   have hKeep6:=Za keep6;have hlt6:=Za (show V.heap.size<=W6.heap.size by have:=hb4.size;omega);have hnd0:Hid (∀ kk,q.lo<=kk->kk<q.hi->W6.heap[kk]? = V.heap[kk]?):=Za fun kk h1 h2=>keep6 kk (by omega) (by omega) (by omega) (by have:=SZ.out;omega)
   clear all6 keep6 bx6 hfbl g5 gr5 gs5 g6 gr6 gs6 c24 c85 hS4 hb4 a0 a1 a2 a0' a1' a2' kb ig pg g7 g2b hbn
   gi_wp2_with fail
   clear hW5 hW6 k0 k1 k2 k3 kf o0 of;refine Z0r ?_
   refine Us ⟨fun W W'=>Qah W.heap.size W W',16,fun _=>True⟩ (ops' := ?opsLate) (by kernel_rfl) [] ?he (by kernel_rfl) (by kernel_rfl) (fun _ _ _ _ _ h=>h) (fun⟨_,_,h⟩=>h) 17 (fun W=>Qah W6.heap.size W6 W) (fun i=>match i with
    | 16=>some (fun v W=>∃ g2,v=.slice (some ⟨g2,0,none⟩) 1 1/\W6.heap.size<=g2/\Yg g2 #[.int .u8 (y0.1.1.toNat:Int),.int .u32 y0.1.2.1,.int .u32 y0.1.2.2,.int .i64 z,.slice none 0 0] 54 W)
    | _=>none) (fun _=>none) ?h1 ?h2 ?h3 trivial ?hon (Qa _ _).drew (fun w w' h hb=>h.trans (hb.mono h.size)) ?tst ?_
   case he =>
    simp[Yb];rfl
   case h1=>decide
   case h2=>kernel_rfl
   case h3=>kernel_rfl
   case hon=>kernel_rfl
   case tst =>
    intro j φ v W W' hp hx hr
    match j,hp with
    | 16,hp =>
     cases hp;obtain⟨g2,e,h1,h2⟩:=hx;exact⟨g2,e,h1,(hr.block g2 (Qd.1 h2).1).trans h2⟩
   simp only[Qq,Qp,Qr,Qs]
   repeat (first
    | (refine Rk.wpAs_skip rfl ?_;simp only[Qb,Zb,Zc,Zd])
    | (refine Rk.wpAs_pure (v := ?_) rfl rfl ?_ ?_;rotate_left;(intro W hC hE;clear hE;(obtain⟨u0,u1,u2,_⟩:=Zk (KP.out W hC);obtain⟨i0,i1,_⟩:=Zg (KI.out W hC);obtain⟨z0,_⟩:=Zn (KZ.out W hC);obtain⟨d0,d1,d2⟩:=KD.out W hC);clear hC;go_simp;first | done | with_reducible rfl);simp only[Qb,Zb,Zc,Zd]))
   refine Rk.wpAs_act rfl rfl ?_ ?_
   ·intro W hC _ hE
    have hs:=hC.size;clear hE hC
    go_simp
    exact⟨⟨W.heap.size,rfl,hs,Qad _ _⟩,(Qa _ _).alloc (Qc _) _⟩
   simp only[Qb,Zb,Zc,Zd,Rb.envAdd];intro x16;refine Rk.wpAs_end fun W hC hE=> ?_
   obtain⟨⟨g2,rfl,hg2,hbx⟩,_⟩:=hE;have hsW:=hC.size;have hup:upI L' z=(y0.1,z,[]):=by rw[hy0.out];rfl
   have hqw:q.hi<=w.heap.size:=hql3;have hV7:w.heap.size+7<=V.heap.size:=by have:=SZ.out;have:=HIs.out;omega
   have hV6:=hlt6.out;have ho9:W.ownsRow q.lo 54 5 (.slice q.A q3 q.c) q3 (Zi ps):=Zdi HPO.out fun kk hk=>by
    have:=Hrb.out kk (by rw[<- hrbe.out];exact hk);exact(hC.block kk (by omega)).trans (hnd0.out kk this.1 this.2)
   have hf9:W.ownsRow W6.heap.size 54 5 (.slice (some ⟨g2,0,none⟩) 1 1) 1 (Zi [((y0.1,z,[]),.slice none 0 0)]):=Xq (C:=Zi [((y0.1,z,[]),.slice none 0 0)]) hg2 hbx (Qc _) (by decide) rfl rfl;have HRp:=Zp4 q.A q.lo W6.heap.size q3 q.c g2 1 first (first+many) ps [((y0.1,z,[]),.slice none 0 0)] W ho9 hf9 (fun e=>by have:=Hrb.out g2 (by rw[<- hrbe.out];exact e);omega) (by have:=hFit.out;omega) hFit.out.1 (by omega) (Zf8 HPI.out) (fun p hp=>by rw[Qk.1 hp];rfl)
   rw[show ((first+many:Nat):Int)=(first:Int)+(many:Int) by omega] at HRp;obtain⟨Ls,hLs⟩:∃ Ls,ps.take first++([((y0.1,z,[]),.slice none 0 0)]++ps.drop (first+many))=Ls:=⟨_,rfl⟩
   rw[hLs] at HRp;have hmap:Ls.map (·.1)=Zbb q.nd.2 first many [upI L' z]:=hmk.out Ls (by rw[hup,hLs])
   have hLi:∀ p∈Ls,InI p.1/\rBy (fun ad=>q.lo<=ad.block/\ad.block<q.hi/\rb≠some ad.block) W [p.2] p.1.2.2:=fun p hp=>by
    have Zaf:p∈ps->InI p.1/\rBy (fun ad=>q.lo<=ad.block/\ad.block<q.hi/\rb≠some ad.block) W [p.2] p.1.2.2:=fun hp=>⟨(HPI.out p hp).1,Zf _ _ _ _ _ _ (fun a v ha hc=>⟨ha,(Qe ((hC.block a.block (by omega)).trans (hnd0.out a.block ha.1 ha.2.1))).trans hc⟩) (HPI.out p hp).2⟩
    rw[<- hLs] at hp;rcases Qg.1 hp with hp | hp
    ·exact Zaf (Qo hp)
    ·rcases Qg.1 hp with hp | hp
     ·rw[Qk.1 hp]
      exact⟨by rw[<- hup];exact Z6c (by rw[hy0.out];simp) minI.out hz,U8 _ _ none⟩
     ·exact Zaf (Qw hp)
   obtain⟨len,hlen⟩:∃ len,Ls.length=len:=⟨_,rfl⟩
   have hins:(Zbb q.nd.2 first many [upI L' z]).length=len:=by rw[<- hmap,Q6,hlen]
   have HRh:=Za HRp;have HC:=Za hC;replace hLi:=Za hLi;replace hmap:=Za hmap;replace hins:=Za hins;replace hlen:=Za hlen;replace hLs:=Za hLs;replace hup:=Za hup;clear HRp ho9 hf9 hbx hC
   go_wp2_with fail
   with_reducible refine HRh.out.mono ?_
   rintro e W9 hrep;have hrep':=Za hrep;obtain⟨rfl,ho,hgr9⟩:=hrep;rw[hrbe.out] at hgr9;rw[hlen.out];have hsz9:=hgr9.size;have c7:Yg w4.heap.size _ 39 W9:=(hgr9.block _ (by have:=SZ.out;omega) (fun e=>by have:=Hrb.out _ e.symm;have:=SZ.out;omega)).trans (K7.out W HC.out);obtain⟨W10,hW10,d7,gr10,gs10⟩:=X1 (u:=.slice q.A len q.c) c7;obtain⟨m0,mf,_⟩:=Zn c7;have kb:∀ kk,kk<W6.heap.size->rb≠some kk->kk≠w4.heap.size->W10.heap[kk]? = W6.heap[kk]? := fun kk h1 h2 h3=>(gr10.block kk (by omega) (fun e=>h3 (Option.some.inj e))).trans ((hgr9.block kk (by omega) (fun e=>h2 e.symm)).trans (HC.out.block kk h1))
   have hrw:∀ kk,q.hi<=kk->rb≠some kk:=fun kk h1 e=>by have:=Hrb.out kk e;omega
   have bx:∀ {k:Nat} {cs:Array P9} {t:Qab},Yg k cs t W6->w.heap.size<=k->k≠w4.heap.size->Yg k cs t W10:=fun h h1 h2=>(kb _ (Qd.1 h).1 (hrw _ (by omega)) h2).trans h
   have kp10:Hid (Vq (fun k=>k=w.heap.size\/k=w2.heap.size\/k=w3.heap.size\/k=w1.heap.size\/k=w4.heap.size\/k=w5.heap.size\/∃ q∈l,q.A.map (·.block)=some k) none none V W10):=Za (((kpt.out.grown (Z5 HC.out) fun r e=>by cases e).grown hgr9 fun r e=>.inr (.inr (.inr (.inr (.inr (.inr (.inr ⟨q,hqm.out,by rw[hrbe.out,e]⟩))))))).grown gr10 fun r e=>by cases e;exact .inr (.inr (.inr (.inr (.inr (.inl rfl))))))
   have hfin:Hid (ShI l0 lo w7.heap.size w.heap.size w1.heap.size w2.heap.size w3.heap.size w4.heap.size w5.heap.size A c w s k a lv l (pre'++[x'],none) W10):=Za (by
    refine⟨rfl,⟨((hb6.out.1.trans (HC.out.mono (by omega))).grown hgr9 (by omega) (fun r e=>by have:=Hrb.out r e;omega)).grown gr10 (by omega) (fun k e=>by cases e;have:=SZ.out;omega),by have:=SZ.out;omega,Zdi HIo.out fun kk e=> ?_⟩,⟨bx z4.out (by have:=SZ.out;omega) (by have:=SZ.out;omega),bx z5.out (by have:=SZ.out;omega) (by have:=SZ.out;omega),bx z6.out (by have:=SZ.out;omega) (by have:=SZ.out;omega)⟩,S',Zbb q.nd.2 first many [upI L' z],z,va,vb,vc,vd,q.A,q.c,q.lo,?_,bx H2b.out (Qc _) (by have:=SZ.out;omega),?_,?_,bx H8b.out (by have:=SZ.out;omega) (by have:=SZ.out;omega),⟨hql1,?_,.inr ⟨q,hqm.out,rfl⟩⟩,fun q9 hq9=> ?_⟩
    ·have h1:=hAst.out kk e
     have h2:=hA.out kk q e hqm.out;have h3:=hA.out kk q2 e hq2;have h4:=U9 (hR.out.ok q2 hq2).2.2.2 fb (by rw[hq2A];rfl);rw[kb kk (by omega) (fun e=>by have:=Hrb.out kk e;omega) (by have:=SZ.out;omega)];exact hKeep6.out kk (by omega) (by omega) (by omega) (by have:=SZ.out;omega)
    ·show stO k s a lv (pre'++[x']).length=_
     rw[hpl.out,hd.out,m7.out]
     first | rw[if_pos rfl] | simp only[if_true]
    ·refine hS6.out.map fun p v hp hc=> ?_
     have h2:=kb p.block hp.2 (fun e=>by have:=Hrb.out _ e;have:=SZ.out;rcases hp.1 with h | h <;> omega) (by have:=SZ.out;rcases hp.1 with h | h <;> omega);exact⟨⟨hp.1,by have:=hp.2;omega⟩,(Qe h2).trans hc⟩
    ·rw[hins.out]
     exact d7
    ·have:=(Z53 (hi:=q.hi) hql2 (by rw[hrbe.out];exact Hrb.out) (by omega) hrep'.out (by rw[hrbe.out];exact hLi.out)).wide hql3
     rw[hmap.out] at this;exact this.same fun kk h1 h2=>gr10.block kk (by omega) (fun e=>by have:=Option.some.inj e;have:=SZ.out;omega)
    ·obtain⟨h1,h2⟩:=hidx.out q9 hq9
     refine⟨h1,(HRows.out q9 h2).2.same fun kk h3 h4=> ?_⟩;rw[kb kk (by omega) (fun e=>by have:=Hrb.out kk e;omega) (by have:=SZ.out;omega)]
     exact hKeep6.out kk (by omega) (by omega) (by omega) (by have:=SZ.out;omega))
   clear kb hrw bx d7 gr10 gs10 hgr9 ho c7
   go_wp2_with fail
   simp only[Zwv]
   gi_wp2_with fail
   exact⟨none,kp10.out.wide fun k _ h=>by simpa using h,hfin.out⟩
 case done =>
  rintro xs q' V hVs rfl ⟨_,⟨hIb,hIs,hIo⟩,⟨hB4,hB5,hB6⟩,t,L,held,pa,pb,pc,pd,F,fc,bnd,hst,hB2,hSto,hB7,hB8,⟨hbl,hrow,hFq⟩,_⟩ hDV hqV;rw[Xb] at hst;have hst':stO k s a lv (lv+1)=(0,t,L,held):=by rw[<- hm.out];exact hst
  have hO:g=Zsc t ((if L=[] then 0 else (rmV s a).1),L) held:=by
   rw[<- hg.out];unfold Z64;rw[hst'];exact if_pos rfl
  have hD1:=Za hDV;have HIb:=Za hIb;have HB2:=Za hB2;have HB4:=Za hB4;have HB5:=Za hB5;have HB6:=Za hB6;have HB7:=Za hB7;have HB8:=Za hB8;have HIs:=Za hIs;have HSto:=Za hSto;obtain⟨k0,k1,k2,k3,kf,_⟩:=Ze hB2;obtain⟨n0,nf,_⟩:=Zn hB7;obtain⟨y0,yf,_⟩:=Zn hB8;by_cases hL:L=[]
  ·subst hL
   rw[if_pos rfl] at hO;have HL:=Zm4 pa pb pc pd t none 0 (0,[]) held V (Zef hSto) (Zj8.zero w.heap.size V).nod.drop;obtain⟨LD,hLD⟩:∃ LD,Zsc t (0,[]) held=LD:=⟨_,rfl⟩
   rw[hLD] at hO HL;obtain⟨er,S',z⟩:=LD;have hHL:=Za HL;replace hO:=Za hO;replace hLD:=Za hLD;clear HL hB2 hB4 hB5 hB6 hB7 hB8 hIb hIs hIo hSto hrow hDV hqV hst hst'
   gi_wp2_with fail
   refine⟨trivial,?_⟩
   gi_at_call 51
   refine(callsIn_wide.2 hHL.out).mono ?_;rintro e W ⟨va,vb,vc,vd,rfl,hS4,hb4⟩
   dsimp only at hS4
   clear k0 k1 k2 k3 kf n0 nf y0 yf hHL;have c4:=(Zr _ _ _ _ _ HB4.out hb4:Yg w1.heap.size _ _ W)
   obtain⟨W5,hW5,g5,gr5,gs5⟩:=Zu (a':=.slice va.1 va.2.1 va.2.2) (b':=.slice vb.1 vb.2.1 vb.2.2) (c':=.slice vc.1 vc.2.1 vc.2.2) (d':=.slice vd.1 vd.2.1 vd.2.2) c4;have c5:Yg w2.heap.size _ 3 W5:=(gr5.block _ (by have:=SZ.out;have:=HIs.out;have:=hb4.size;omega) (fun e=>by have:=Option.some.inj e;have:=SZ.out;omega)).trans (Zr _ _ _ _ _ HB5.out hb4:Yg w2.heap.size _ _ W);obtain⟨W6,hW6,g6,gr6,gs6⟩:=X1 (u:=.int .i64 z) c5;have c6:Yg w3.heap.size _ 33 W6:=(gr6.block _ (by have:=SZ.out;have:=HIs.out;have:=hb4.size;omega) (fun e=>by have:=Option.some.inj e;have:=SZ.out;omega)).trans ((gr5.block _ (by have:=SZ.out;have:=HIs.out;have:=hb4.size;omega) (fun e=>by have:=Option.some.inj e;have:=SZ.out;omega)).trans (Zr _ _ _ _ _ HB6.out hb4:Yg w3.heap.size _ _ W));obtain⟨W7,hW7,g7,gr7,gs7⟩:=X1 (u:=.int .i64 er) c6;obtain⟨m0,m1,m2,m3,mf,_⟩:=Ze c4;obtain⟨p0,pf,_⟩:=Zn c5;obtain⟨r0,rf,_⟩:=Zn c6;have z4:=Za ((gr7.block _ (by have:=SZ.out;have:=HIs.out;have:=hb4.size;omega) (fun e=>by have:=Option.some.inj e;have:=SZ.out;omega)).trans ((gr6.block _ (by have:=SZ.out;have:=HIs.out;have:=hb4.size;omega) (fun e=>by have:=Option.some.inj e;have:=SZ.out;omega)).trans g5):Yg w1.heap.size _ 29 W7);have z5:=Za ((gr7.block _ (by have:=SZ.out;have:=HIs.out;have:=hb4.size;omega) (fun e=>by have:=Option.some.inj e;have:=SZ.out;omega)).trans g6:Yg w2.heap.size _ 3 W7);have z6:=Za (g7:Yg w3.heap.size _ 33 W7);have keep:∀ k,k<W.heap.size->k≠w1.heap.size->k≠w2.heap.size->k≠w3.heap.size->W7.heap[k]? = W.heap[k]? := fun k h1 h2 h3 h4=>(gr7.block k (by omega) (fun e=>h4 (Option.some.inj e))).trans ((gr6.block k (by omega) (fun e=>h3 (Option.some.inj e))).trans (gr5.block k h1 (fun e=>h2 (Option.some.inj e))))
   have hDe:Hid (W7.heap[w7.heap.size]? = some (.deferred (some []))):=Za ((keep _ (by have:=(Qd.1 hD1.out).1;have:=hb4.size;omega) (by have:=SZ.out;omega) (by have:=SZ.out;omega) (by have:=SZ.out;omega)).trans ((hb4.block _ (Qd.1 hD1.out).1).trans hD1.out))
   have hS7:Hid (Sto (Kn (fun k=>k<l0\/w.heap.size<=k) W7) W7 (.agg #[.slice va.1 va.2.1 va.2.2,.slice vb.1 vb.2.1 vb.2.2,.slice vc.1 vc.2.1 vc.2.2,.slice vd.1 vd.2.1 vd.2.2]) S'):=Za (hS4.map fun p v hp hc=>by
    have h1:V.heap.size<=p.block:=hp.1;have h2:p.block<W.heap.size:=hp.2;have h3:=HIs.out;have h4:=keep p.block h2 (by have:=SZ.out;omega) (by have:=SZ.out;omega) (by have:=SZ.out;omega)
    exact⟨⟨.inr (by have:=SZ.out;omega),by omega⟩,(Qe h4).trans hc⟩)
   have hBe:Hid (Qah lo w W7):=Za ((((HIb.out.trans (hb4.mono (by have:=HIs.out;have:=SZ.out;omega))).grown gr5 (by have:=HIs.out;have:=SZ.out;have:=hb4.size;omega) (fun k e=>by cases e;have:=SZ.out;omega)).grown gr6 (by have:=HIs.out;have:=SZ.out;have:=hb4.size;omega) (fun k e=>by cases e;have:=SZ.out;omega)).grown gr7 (by have:=HIs.out;have:=SZ.out;have:=hb4.size;omega) (fun k e=>by cases e;have:=SZ.out;omega));have hsz7:=Za (show w7.heap.size<=W7.heap.size by have:=HIs.out;have:=hb4.size;omega);clear keep g5 gr5 gs5 g6 gr6 gs6 g7 gr7 gs7 c4 c5 c6 hS4 hb4
   gi_wp2_with fail
   refine⟨by simp,.inl ⟨_,_,rfl,run_takeDeferred hDe.out,?_⟩⟩;have hgp:=grownBy_putObj' W7 w7.heap.size (.deferred none);have hnp:∀ r,some w7.heap.size=some r->∃ o:Obj,W7.heap[r]? = some o/\o.isCells=false:=fun r e=>by cases e;exact⟨_,hDe.out,rfl⟩
   obtain⟨m0,m1,m2,m3,_⟩:=Ze (Zl z4.out hgp hnp);obtain⟨n0,_⟩:=Zn (Zl z5.out hgp hnp);obtain⟨y0,_⟩:=Zn (Zl z6.out hgp hnp);refine⟨.tuple #[.agg #[.slice va.1 va.2.1 va.2.2,.slice vb.1 vb.2.1 vb.2.2,.slice vc.1 vc.2.1 vc.2.2,.slice vd.1 vd.2.1 vd.2.2],.int .i64 z,.int .i64 er],by simp[results,Tryz.f26,go_sem,m0,m1,m2,m3,n0,y0],?_⟩;rw[<- hQQ.out];exact⟨va,vb,vc,vd,by rw[hO.out],by rw[hO.out];exact Zy5 hS7.out hgp hnp,hBe.out.grown hgp (by have:=SZ.out;have:=hsz7.out;omega) (fun k e=>by cases e;have:=SZ.out;omega)⟩
  ·rw[if_neg hL] at hO
   have hits:=hrow.its (show w.heap.size<=V.heap.size by have:=SZ.out;omega);obtain⟨q0,hq0⟩:∃ q0,l[0]? = some q0:=⟨_,Qi (by rw[hl.out,hm.out];omega)⟩
   obtain⟨hnd0,_⟩:=hq.out 0 q0 hq0;have hlvl:q0.nd.1=(rmV s a).1:=by rw[hnd0];rfl
   have hI64:=(Ze5 hT.out.ok).lv;obtain⟨sg,rfl,hsc⟩:∃ sg,A=some ⟨sg,0,none⟩/\V.cell? ⟨sg,0,none⟩=some (.int .i64 (rmV s a).1):=by
    rcases hIo.2 with ⟨_,e⟩ | ⟨sg,cap,cur,e,_⟩
    ·have:=hl.out
     have:=hm.out;omega
    ·cases e
     refine⟨sg,rfl,?_⟩;have:=hIo.cells (g:=sg) rfl _ _ (Z5u hq0 0 _ rfl);rw[hlvl] at this
     simpa [Addr.add] using this
   obtain⟨ml,hml⟩:∃ ml,L.length=ml:=⟨_,rfl⟩
   have hm0:0<ml:=by rw[<- hml];exact P4.2 hL
   have t0:((ml:Int)==0)=false:=by simp;omega
   have hmp:0<m:=by have:=hm.out;omega
   have hmp2:(0:Int)<(m:Int):=by omega
   have HL:=fun(W:P8) (hW:Qah V.heap.size V W)=>Zm4 pa pb pc pd t F fc ((rmV s a).1,L) held W (Zef (U0 (K':=fun k=>k<l0\/w7.heap.size<=k) hSto (fun _ h=>h) hW)) ⟨_,rfl,hI64,Y8.old hits hW⟩
   obtain⟨lvv,hlvv⟩:∃ q,(rmV s a).1=q:=⟨_,rfl⟩
   rw[hlvv] at HL hO hsc;obtain⟨LD,hLD⟩:∃ LD,Zsc t (lvv,L) held=LD:=⟨_,rfl⟩
   rw[hLD] at hO HL
   dsimp only at HL
   rw[hml] at HL hB7 n0;obtain⟨er,S',z⟩:=LD;have hHL:=Za HL;have K2:=Za (fun W (hW:Qah V.heap.size V W)=>(Zr _ _ _ _ _ hB2 hW:Yg w.heap.size _ _ W));have K7:=Za (fun W (hW:Qah V.heap.size V W)=>(Zr _ _ _ _ _ hB7 hW:Yg w4.heap.size _ _ W));have K8:=Za (fun W (hW:Qah V.heap.size V W)=>(Zr _ _ _ _ _ hB8 hW:Yg w5.heap.size _ _ W));have KS:=Za (fun W (hW:Qah V.heap.size V W)=>(hW.cell (p:=⟨sg,0,none⟩) (Q8 _ ⟨sg,0,none⟩ hsc)).trans hsc);replace hO:=Za hO;replace hLD:=Za hLD;replace hml:=Za hml;replace hlvv:=Za hlvv;replace hL:=Za hL;clear HL hB2 hB4 hB5 hB6 hB7 hB8 hIb hIs hIo hSto hrow hDV hqV hst hst' hits hsc hq0 hnd0 hlvl hI64
   gi_wp2_with fail
   clear k0 k1 k2 k3 kf n0 nf y0 yf;refine wpIn_wide.2 ?_
   refine Uf (by kernel_rfl) 13 (fun W=>Qah V.heap.size V W) (fun i=>match i with
    | 9=>some (PhK (fun k=>V.heap.size<=k) z er S')
    | 10=>some (Yca (fun k=>V.heap.size<=k) S')
    | _=>none) (fun i=>match i with
    | 11=>some (.int .i64 z)
    | 12=>some (.int .i64 er)
    | _=>none) ?h1 ?h2 ?h3 (Qa _ _).drew (fun w w' h hb=>h.trans (hb.mono h.size)) ?tst ?_
   case h1=>decide
   case h2=>kernel_rfl
   case h3=>kernel_rfl
   case tst =>
    intro j φ v W W' hp hx hb
    match j,hp with
    | 9,hp=>cases hp;obtain⟨va,vb,vc,vd,e,h⟩:=hx;exact⟨va,vb,vc,vd,e,U0 h (fun _ h=>h) hb⟩
    | 10,hp=>cases hp;obtain⟨va,vb,vc,vd,e,h⟩:=hx;exact⟨va,vb,vc,vd,e,U0 h (fun _ h=>h) hb⟩
   simp only[Qq,Qp,Qr,Qs]
   repeat (first
    | (refine wpAs_skip rfl ?_;simp only[Qb,Zb,Zc,Zd])
    | (refine wpAs_pure (v := ?_) rfl rfl ?_ ?_;rotate_left;(intro W hC hE;clear hE;(obtain⟨k0,k1,k2,k3,_⟩:=Ze (K2.out W hC);obtain⟨n0,_⟩:=Zn (K7.out W hC);obtain⟨y0,_⟩:=Zn (K8.out W hC);have cs:=KS.out W hC);clear hC;go_simp;first | done | with_reducible rfl);simp only[Qb,Zb,Zc,Zd]))
   refine wpAs_act rfl rfl ?_ ?_
   ·intro W hC hE
    clear hE;refine does_enter (f:=51) (args:=#[.agg #[.slice pa.1 pa.2.1 pa.2.2,.slice pb.1 pb.2.1 pb.2.2,.slice pc.1 pc.2.1 pc.2.2,.slice pd.1 pd.2.1 pd.2.2],.agg #[.int .i64 lvv,.slice F ml fc],.int .i64 held]) ?_ ?_
    ·go_simp
    ·refine(hHL.out W hC).mono ?_
     rintro e W' ⟨va,vb,vc,vd,rfl,h1,hb⟩;exact⟨_,rfl,⟨va,vb,vc,vd,rfl,U0 h1 (fun k h=>Qf hC.size h) (Qa _ _)⟩,hb⟩
   simp only[Qb,Zb,Zc,Zd,envAdd];intro x9;refine wpAs_act rfl rfl ?_ ?_
   ·intro W hC hE
    obtain⟨va,vb,vc,vd,rfl,h1⟩:=hE.1 rfl;have hI':=Za h1;clear hE hC h1
    go_simp
    exact⟨⟨va,vb,vc,vd,rfl,hI'.out⟩,Qa _ _⟩
   simp only[Qb,Zb,Zc,Zd,envAdd];intro x10;refine wpAs_fixed rfl rfl rfl ?_ ?_
   ·intro W hC hE
    obtain⟨va,vb,vc,vd,rfl,h1⟩:=hE.2.1 rfl;clear hE hC h1
    go_simp
    exact⟨rfl,Qa _ _⟩
   simp only[Qb,Zb,Zc,Zd];refine wpAs_fixed rfl rfl rfl ?_ ?_
   ·intro W hC hE
    obtain⟨va,vb,vc,vd,rfl,h1⟩:=hE.2.1 rfl;clear hE hC h1
    go_simp
    exact⟨rfl,Qa _ _⟩
   simp only[Qb,Zb,Zc,Zd];refine wpAs_end fun W hC hE=> ?_
   obtain⟨⟨va,vb,vc,vd,rfl,hS4⟩,_⟩:=hE;have hb4:=hC;have c4:=(Zr _ _ _ _ _ HB4.out hb4:Yg w1.heap.size _ _ W)
   obtain⟨W5,hW5,g5,gr5,gs5⟩:=Zu (a':=.slice va.1 va.2.1 va.2.2) (b':=.slice vb.1 vb.2.1 vb.2.2) (c':=.slice vc.1 vc.2.1 vc.2.2) (d':=.slice vd.1 vd.2.1 vd.2.2) c4;have c5:Yg w2.heap.size _ 3 W5:=(gr5.block _ (by have:=SZ.out;have:=HIs.out;have:=hb4.size;omega) (fun e=>by have:=Option.some.inj e;have:=SZ.out;omega)).trans (Zr _ _ _ _ _ HB5.out hb4:Yg w2.heap.size _ _ W);obtain⟨W6,hW6,g6,gr6,gs6⟩:=X1 (u:=.int .i64 z) c5;have c6:Yg w3.heap.size _ 33 W6:=(gr6.block _ (by have:=SZ.out;have:=HIs.out;have:=hb4.size;omega) (fun e=>by have:=Option.some.inj e;have:=SZ.out;omega)).trans ((gr5.block _ (by have:=SZ.out;have:=HIs.out;have:=hb4.size;omega) (fun e=>by have:=Option.some.inj e;have:=SZ.out;omega)).trans (Zr _ _ _ _ _ HB6.out hb4:Yg w3.heap.size _ _ W));obtain⟨W7,hW7,g7,gr7,gs7⟩:=X1 (u:=.int .i64 er) c6;obtain⟨m0,m1,m2,m3,mf,_⟩:=Ze c4;obtain⟨p0,pf,_⟩:=Zn c5;obtain⟨r0,rf,_⟩:=Zn c6;clear hC;have z4:=Za ((gr7.block _ (by have:=SZ.out;have:=HIs.out;have:=hb4.size;omega) (fun e=>by have:=Option.some.inj e;have:=SZ.out;omega)).trans ((gr6.block _ (by have:=SZ.out;have:=HIs.out;have:=hb4.size;omega) (fun e=>by have:=Option.some.inj e;have:=SZ.out;omega)).trans g5):Yg w1.heap.size _ 29 W7);have z5:=Za ((gr7.block _ (by have:=SZ.out;have:=HIs.out;have:=hb4.size;omega) (fun e=>by have:=Option.some.inj e;have:=SZ.out;omega)).trans g6:Yg w2.heap.size _ 3 W7);have z6:=Za (g7:Yg w3.heap.size _ 33 W7);have keep:∀ k,k<W.heap.size->k≠w1.heap.size->k≠w2.heap.size->k≠w3.heap.size->W7.heap[k]? = W.heap[k]? := fun k h1 h2 h3 h4=>(gr7.block k (by omega) (fun e=>h4 (Option.some.inj e))).trans ((gr6.block k (by omega) (fun e=>h3 (Option.some.inj e))).trans (gr5.block k h1 (fun e=>h2 (Option.some.inj e))))
   have hDe:Hid (W7.heap[w7.heap.size]? = some (.deferred (some []))):=Za ((keep _ (by have:=(Qd.1 hD1.out).1;have:=hb4.size;omega) (by have:=SZ.out;omega) (by have:=SZ.out;omega) (by have:=SZ.out;omega)).trans ((hb4.block _ (Qd.1 hD1.out).1).trans hD1.out))
   have hS7:Hid (Sto (Kn (fun k=>k<l0\/w.heap.size<=k) W7) W7 (.agg #[.slice va.1 va.2.1 va.2.2,.slice vb.1 vb.2.1 vb.2.2,.slice vc.1 vc.2.1 vc.2.2,.slice vd.1 vd.2.1 vd.2.2]) S'):=Za (hS4.map fun p v hp hc=>by
    have h1:V.heap.size<=p.block:=hp.1;have h2:p.block<W.heap.size:=hp.2;have h3:=HIs.out;have h4:=keep p.block h2 (by have:=SZ.out;omega) (by have:=SZ.out;omega) (by have:=SZ.out;omega)
    exact⟨⟨.inr (by have:=SZ.out;omega),by omega⟩,(Qe h4).trans hc⟩)
   have hBe:Hid (Qah lo w W7):=Za ((((HIb.out.trans (hb4.mono (by have:=HIs.out;have:=SZ.out;omega))).grown gr5 (by have:=HIs.out;have:=SZ.out;have:=hb4.size;omega) (fun k e=>by cases e;have:=SZ.out;omega)).grown gr6 (by have:=HIs.out;have:=SZ.out;have:=hb4.size;omega) (fun k e=>by cases e;have:=SZ.out;omega)).grown gr7 (by have:=HIs.out;have:=SZ.out;have:=hb4.size;omega) (fun k e=>by cases e;have:=SZ.out;omega));have hsz7:=Za (show w7.heap.size<=W7.heap.size by have:=HIs.out;have:=hb4.size;omega);clear keep g5 gr5 gs5 g6 gr6 gs6 g7 gr7 gs7 c4 c5 c6 hS4 hb4
   go_wp2_with fail
   gi_wp2_with fail
   refine⟨by simp,.inl ⟨_,_,rfl,run_takeDeferred hDe.out,?_⟩⟩;have hgp:=grownBy_putObj' W7 w7.heap.size (.deferred none);have hnp:∀ r,some w7.heap.size=some r->∃ o:Obj,W7.heap[r]? = some o/\o.isCells=false:=fun r e=>by cases e;exact⟨_,hDe.out,rfl⟩
   obtain⟨m0,m1,m2,m3,_⟩:=Ze (Zl z4.out hgp hnp);obtain⟨n0,_⟩:=Zn (Zl z5.out hgp hnp);obtain⟨y0,_⟩:=Zn (Zl z6.out hgp hnp);refine⟨.tuple #[.agg #[.slice va.1 va.2.1 va.2.2,.slice vb.1 vb.2.1 vb.2.2,.slice vc.1 vc.2.1 vc.2.2,.slice vd.1 vd.2.1 vd.2.2],.int .i64 z,.int .i64 er],by simp[results,Tryz.f26,go_sem,m0,m1,m2,m3,n0,y0],?_⟩;rw[<- hQQ.out];exact⟨va,vb,vc,vd,by rw[hO.out],by rw[hO.out];exact Zy5 hS7.out hgp hnp,hBe.out.grown hgp (by have:=SZ.out;have:=hsz7.out;omega) (fun k e=>by cases e;have:=SZ.out;omega)⟩
 case stop =>
  rintro c pre' q' V hVs ⟨rfl,_,⟨hIb,hIs⟩,er,hB4,hB5,hB6,hgA,he0⟩ hDV hqV;have hD1:=Za hDV;have z4:=Za hB4;have z5:=Za hB5;have z6:=Za hB6;have hb:=Za hIb;have hO:Hid (g=(er,Zj,0)):=Za (by rw[<- hg.out];unfold Z64;rw[hgA,if_neg he0]);clear hB4 hB5 hB6 hgA he0 hDV hqV hIb
  gi_wp2_with fail
  refine⟨by simp,.inl ⟨_,_,rfl,run_takeDeferred hD1.out,?_⟩⟩;have hgp:=grownBy_putObj' V w7.heap.size (.deferred none);have hnp:∀ r,some w7.heap.size=some r->∃ o:Obj,V.heap[r]? = some o/\o.isCells=false:=fun r e=>by cases e;exact⟨_,hD1.out,rfl⟩
  obtain⟨m0,m1,m2,m3,_⟩:=Ze (Zl z4.out hgp hnp);obtain⟨n0,_⟩:=Zn (Zl z5.out hgp hnp);obtain⟨y0,_⟩:=Zn (Zl z6.out hgp hnp);refine⟨.tuple #[.agg #[.slice none 0 0,.slice none 0 0,.slice none 0 0,.slice none 0 0],.int .i64 0,.int .i64 er],by simp[results,Tryz.f26,go_sem,m0,m1,m2,m3,n0,y0],?_⟩;rw[<- hQQ.out];exact⟨(none,0,0),(none,0,0),(none,0,0),(none,0,0),by rw[hO.out],by rw[hO.out];exact Yv _ _,hb.out.grown hgp (by have:=SZ.out;omega) (fun k e=>by cases e;have:=SZ.out;omega)⟩}
theorem Zly {P:Nat->Prop}(h:∃ j,P j):∃ j,P j/\∀ i,P i->j<=i:=by{
 obtain⟨j,hj⟩:=h
 induction j using Nat.strongRecOn with
 | ind j ih =>
  by_cases hs:∃ i,i<j/\P i
  ·obtain⟨i,hi,hp⟩:=hs
   exact ih i hi hp
  ·exact⟨j,hj,fun i hi=>Nat.le_of_not_lt fun h=>hs ⟨i,h,hi⟩⟩}
open Classical in
def Zk2 (P:Nat->Prop):Nat:=if h:∃ j,P j then Classical.choose (Zly h) else 0
theorem Z0h {P:Nat->Prop}(h:∃ j,P j):P (Zk2 P):=by
 unfold Zk2;rw[dif_pos h];exact(Classical.choose_spec (Zly h)).1
theorem Zzp {P:Nat->Prop}{j:Nat}(h:P j):Zk2 P<=j:=by
 unfold Zk2;rw[dif_pos ⟨j,h⟩];exact(Classical.choose_spec (Zly ⟨j,h⟩)).2 j h
theorem Z06 {P:Nat->Prop}(h:∃ j,P j):∃ j,Zk2 P=j/\P j:=⟨_,rfl,Z0h h⟩
theorem Zqm (v:P9) (s:Rm) (n:Int) (w:P8) (h:Sto (Old w) w v s) :
  Qaf Tryz.prog 53 #[v,.int .i64 n] w fun e W'=>∃ qa qb qc qd:Option Qaa×Nat×Nat,e=.returned (.tuple #[.agg #[.slice qa.1 qa.2.1 qa.2.2,.slice qb.1 qb.2.1 qb.2.2,.slice qc.1 qc.2.1 qc.2.2,.slice qd.1 qd.2.1 qd.2.2],.int .i64 (shE s n)])/\Sto (New w.heap.size W') W' (.agg #[.slice qa.1 qa.2.1 qa.2.2,.slice qb.1 qb.2.1 qb.2.2,.slice qc.1 qc.2.1 qc.2.2,.slice qd.1 qd.2.1 qd.2.2]) (shV s n)/\Qah w.heap.size w W' :=
 (Zrt v s n w h).mono fun _ _ ⟨A,ca,B,cb,N,cn,L,cl,h1,h2,h3⟩=>⟨(A,_,ca),(B,_,cb),(N,_,cn),(L,_,cl),h1,h2,h3⟩
def LwJ (K:Nat->Prop) (s0:Rm) (w w1 w2:P8) (g:Int×Rm×Int) (rv:P9) (wr:P8) (j:Nat):Prop:=∃ (S:Rm) (r:Int) (qa qb qc qd:Option Qaa×Nat×Nat),rv=.int .i64 r/\g=Yu j S r/\Zw6 s0 S j r/\Qah w.heap.size w wr/\w2.heap.size<=wr.heap.size /\
 wr.heap[w.heap.size]? = some (.cells #[.slice qa.1 qa.2.1 qa.2.2,.slice qb.1 qb.2.1 qb.2.2,.slice qc.1 qc.2.1 qc.2.2,.slice qd.1 qd.2.1 qd.2.2] 29 (0,0)) /\
 Sto (Kn (fun k=>K k/\(k<w.heap.size\/w2.heap.size<=k)) wr) wr (.agg #[.slice qa.1 qa.2.1 qa.2.2,.slice qb.1 qb.2.1 qb.2.2,.slice qc.1 qc.2.1 qc.2.2,.slice qd.1 qd.2.1 qd.2.2]) S /\
 wr.heap[w1.heap.size]? = some (.cells #[.slice none 0 0,.slice none 0 0,.slice none 0 0,.slice none 0 0] 29 (0,0))
theorem Zoz (K:Nat->Prop) (qa qb qc qd:Option Qaa×Nat×Nat) (s0 s:Rm) (l:Nat) (r:Int) (hI:Zw6 s0 s l r) (w:P8) (hK:∀ k,w.heap.size<=k->K k) (h:Sto (Kn K w) w (.agg #[.slice qa.1 qa.2.1 qa.2.2,.slice qb.1 qb.2.1 qb.2.2,.slice qc.1 qc.2.1 qc.2.2,.slice qd.1 qd.2.1 qd.2.2]) s) :
  Qaf Tryz.prog 27 #[.agg #[.slice qa.1 qa.2.1 qa.2.2,.slice qb.1 qb.2.1 qb.2.2,.slice qc.1 qc.2.1 qc.2.2,.slice qd.1 qd.2.1 qd.2.2],.int .i64 r] w (Z1x K w (Yu l s r)):=by{
 obtain⟨w1,hw1,b1,hs1,hB1⟩:=X4 w (.slice qa.1 qa.2.1 qa.2.2) (.slice qb.1 qb.2.1 qb.2.2) (.slice qc.1 qc.2.1 qc.2.2) (.slice qd.1 qd.2.1 qd.2.2) 29;obtain⟨w2,hw2,b2,hs2,hB2⟩:=X4 w1 (.slice none 0 0) (.slice none 0 0) (.slice none 0 0) (.slice none 0 0) 29;have hB12:=hB1.trans (hB2.mono hB1.size);obtain⟨g,hg⟩:∃ q,Yu l s r=q:=⟨_,rfl⟩
 rw[hg];have hJ0:Hid (LwJ K s0 w w1 w2 g (.int .i64 r) w2 l):=Za ⟨s,r,qa,qb,qc,qd,rfl,hg.symm,hI,hB12,Qc _,(hB2.block _ (by omega)).trans b1,h.map fun p v hp hc=>⟨⟨⟨hp.1,.inl hp.2⟩,by have:=hp.2;omega⟩,(hB12.cell hp.2).trans hc⟩,b2⟩;have SZ:=Za (show w1.heap.size=w.heap.size+1/\w2.heap.size=w.heap.size+2 from by omega);obtain⟨KX,hKX⟩:∃ KX:Nat->Prop,KX=fun k=>K k/\(k<w.heap.size\/w2.heap.size<=k):=⟨_,rfl⟩
 have hX:Hid ((¬ KX w.heap.size)/\(¬ KX w1.heap.size)/\(∀ k,KX k->K k)/\∀ k,w2.heap.size<=k->KX k):=Za (by
  rw[hKX];refine⟨fun h=> ?_,fun h=> ?_,fun k h=>h.1,fun k h=>⟨hK k (by omega),.inr h⟩⟩
  ·rcases h.2 with h | h <;> omega
  ·rcases h.2 with h | h <;> omega)
 have hgo:=Za (fun(S:Rm) (j:Nat) (x:Int)=>@Z5r s0 S j x);have hend:=Za (fun(S:Rm) (j:Nat) (x:Int)=>@Zx8 s0 S j x);replace hg:=Za hg;replace hKX:=Za hKX;replace hs1:=Za hs1;replace hs2:=Za hs2;clear h hB1 hB2 hB12 b1 b2 hI
 go_enter Tryz.func27,Tryz.ntmps27
 go_wp2_with fail
 clear hw1 hw2
 go_loopw [1] (fun rv wr=>∃ j,LwJ K s0 w w1 w2 g rv wr j) (fun rv wr=>Zk2 (LwJ K s0 w w1 w2 g rv wr))
 case atStart=>exact⟨l,hJ0.out⟩
 case round =>
  obtain⟨j,hj,S,x,pa,pb,pc,pd,rfl,hgj,hIj,hBw,hsz,hbx,hS,hrb⟩:=Z06 hrel;rw[<- hKX.out] at hS;clear hrel;have hN:=Zb0 _ S x wr (Zef hS);have hlv:=hIj.lev.ok;have hEnd:=Za (hend.out S j x hIj);have hGo:=Za (hgo.out S j x hIj);rw[hlv.1] at hN;clear hlv hIj;obtain⟨nd,hnd⟩:∃ q,rmV S x=q:=⟨_,rfl⟩
  rw[hnd] at hN hEnd hGo;replace hnd:=Za hnd;obtain⟨lw,hlw⟩:∃ q,nd.1=q:=⟨_,rfl⟩
  obtain⟨nl,hnl⟩:∃ q,nd.2.length=q:=⟨_,rfl⟩
  obtain⟨k0,k1,k2,k3,kf,_⟩:=Ze hbx;have hbx':=Za hbx;have hrb':=Za hrb;have hS':=Za hS;have hBw':=Za hBw;have hsz':=Za hsz;replace hgj:=Za hgj;replace hj:=Za hj;clear hbx hrb hS hBw hsz
  go_upto_region 1 with fail
  go_wp2_with fail
  with_reducible refine hN.mono ?_
  rintro e W1 ⟨u,rfl,⟨Z,zc,rfl,hin,hrow⟩,hb1⟩;rw[hnl,hlw];clear hN k0 k1 k2 k3 kf hin;obtain⟨w3,hw3,b3,hs3,hB3⟩:=Yc W1 (.int .i64 lw) (.slice Z nl zc) 81;have B13:=Za (hb1.trans (hB3.mono hb1.size));obtain⟨n0,n1,_⟩:=Zg b3;have c3:=Za ((B13.out.block w.heap.size (by have:=hsz'.out;have:=SZ.out;omega)).trans hbx'.out);have r3:=Za ((B13.out.block w1.heap.size (by have:=hsz'.out;have:=SZ.out;omega)).trans hrb'.out);have B3:=Za (hBw'.out.trans (B13.out.mono hBw'.out.size));have S3:=Za (U0 (K':=KX) hS'.out (fun _ h=>h) B13.out);obtain⟨k0,k1,k2,k3,kf,_⟩:=Ze c3.out;obtain⟨u0,u1,u2,u3,uf,_⟩:=Ze r3.out;have hrow3:=Za ((hrow.below Z0 hB3).rel Z0);obtain⟨cs,ho,_⟩:=hrow.below Z0 hB3;have HO:=Za ho;clear ho;have hz3:=Za (show w2.heap.size<=w3.heap.size from Qf hsz'.out B13.out.size);replace hs3:=Za hs3;replace b3:=Za b3;clear hb1 hB3 hrow
  go_upto_region 4 with fail
  clear hw3;by_cases he:lw=0\/1<nl
  ·obtain⟨w6,e6,z0,z1,z2,z3,-,-,-,-,-,hfin⟩:=Zan (K:=KX) (w:=w) (er:=0) (nn:=x) (by have:=SZ.out;omega) hX.out.2.1 r3.out B3.out S3.out
   have hfin:Hid (Z1x K w g (.returned (.tuple #[.agg #[.slice pa.1 pa.2.1 pa.2.2,.slice pb.1 pb.2.1 pb.2.2,.slice pc.1 pc.2.1 pc.2.2,.slice pd.1 pd.2.1 pd.2.2],.int .i64 x,.int .i64 0])) w6):=Za (by
    rw[hgj.out,hEnd.out (by rw[hlw,hnl];exact he)]
    exact hfin.out.mono hX.out.2.2.1)
   replace hlw:=Za hlw;replace hnl:=Za hnl;by_cases h0:lw=0
   ·subst h0
    clear he
    go_wp2_with fail
    exact Qac (v:=.tuple #[.agg #[.slice pa.1 pa.2.1 pa.2.2,.slice pb.1 pb.2.1 pb.2.2,.slice pc.1 pc.2.1 pc.2.2,.slice pd.1 pd.2.1 pd.2.2],.int .i64 x,.int .i64 0]) (by simp[results,Tryz.results27,go_sem,z0,z1,z2,z3]) rfl hfin.out
   ·have t0:(lw==0)=false:=by simpa using h0
    have t1:(1:Int)<(nl:Int):=by omega
    have t2:1<nl:=by omega
    clear he
    go_wp2_with fail
    exact Qac (v:=.tuple #[.agg #[.slice pa.1 pa.2.1 pa.2.2,.slice pb.1 pb.2.1 pb.2.2,.slice pc.1 pc.2.1 pc.2.2,.slice pd.1 pd.2.1 pd.2.2],.int .i64 x,.int .i64 0]) (by simp[results,Tryz.results27,go_sem,z0,z1,z2,z3]) rfl hfin.out
  obtain⟨i,y,hij,hy,hways⟩:=hGo.out (by rw[hlw,hnl];exact he);have t0:(lw==0)=false:=by
   have:¬ lw=0:=fun h=>he (.inl h)
   simpa using this
  obtain rfl:nl=1:=by rw[<- hnl,hy];rfl
  obtain⟨ad,E,ce,e0,_,⟨_,_,_,t3,_⟩,_⟩:=Zao hrow3.out (show nd.2[0]? = some y by rw[hy];rfl);subst e0;obtain⟨zb,C,rfl,_⟩:=Yd HO.out;replace HO:=Za HO;have t3':w3.cell? ⟨zb,3,none⟩=some (.int .i64 y.2.1):=by simpa [Addr.add] using t3
  obtain⟨b,hb⟩:∃ b,y.2.1=b:=⟨_,rfl⟩
  rw[hb] at hways t3 t3';obtain⟨se,hse⟩:∃ q,shE S b=q:=⟨_,rfl⟩
  obtain⟨sv,hsv⟩:∃ q,shV S b=q:=⟨_,rfl⟩
  have HS:=Za (Zqm _ S b w3 (Zef S3.out));rw[hse,hsv] at HS hways;replace hways:=Za hways;replace hy:=Za hy;replace hb:=Za hb;replace hse:=Za hse;replace hsv:=Za hsv;replace hlw:=Za hlw;replace hnl:=Za hnl;replace he:=Za he;replace hij:=Za hij;clear u0 u1 u2 u3 uf
  go_upto_region 7 with fail
  go_wp2_with fail
  with_reducible refine(HS.out).mono ?_
  rintro e w4 ⟨ra,rb,rc,rd,rfl,hS4,hb4⟩;have c4:=(hb4.block w.heap.size (by have:=SZ.out;have:=hz3.out;omega)).trans c3.out;have r4:=Za ((hb4.block w1.heap.size (by have:=SZ.out;have:=hz3.out;omega)).trans r3.out);have n4:=(hb4.block W1.heap.size (by have:=hs3.out;omega)).trans b3.out;obtain⟨v0,v1,v2,v3,vf,_⟩:=Ze c4;obtain⟨w5,e5,y0,y1,y2,y3,yf,g5,B5,sz5,S5,-⟩:=Zan (K:=KX) (w:=w) (er:=0) (nn:=0) (Qc _) hX.out.1 c4 (B3.out.trans (hb4.mono B3.out.size)) (Zo2 hS4 fun k h=>hX.out.2.2.2 k (Qf hz3.out h));have r5:=Za ((B5.out.2.block w1.heap.size (by have:=SZ.out;have:=hz3.out;have:=hb4.size;omega) (fun e=>by have:=Option.some.inj e;have:=SZ.out;omega)).trans r4.out);have hz5:=Za (show w2.heap.size<=w5.heap.size from by rw[sz5.out];exact Qf hz3.out hb4.size);clear hS4 hb4 c4 HS k0 k1 k2 k3 kf n0 n1 n4 t3 t3'
  go_upto_region 8 with fail
  clear v0 v1 v2 v3 vf e5;by_cases hs0:se=0
  case neg =>
   have t1:(se != 0)=true:=by simpa using hs0
   obtain⟨u0,u1,u2,u3,uf,_⟩:=Ze r5.out;obtain⟨w6,e6,z0,z1,z2,z3,-,-,-,-,-,hfin⟩:=Zan (K:=KX) (w:=w) (ra:=(none,0,0)) (rb:=(none,0,0)) (rc:=(none,0,0)) (rd:=(none,0,0)) (S:=Zj) (er:=se) (nn:=0) (by have:=SZ.out;omega) hX.out.2.1 r5.out B5.out.1 (Yv _ _)
   dsimp only at e6 z0 z1 z2 z3
   have hfin:Hid (Z1x K w g (.returned (.tuple #[.agg #[.slice none 0 0,.slice none 0 0,.slice none 0 0,.slice none 0 0],.int .i64 0,.int .i64 se])) w6):=Za (by
    rcases hways.out with ⟨h1,h2⟩ | ⟨h1,_⟩ | ⟨h1,_⟩
    ·rw[hgj.out,h2,<- h1]
     exact hfin.out.mono hX.out.2.2.1
    ·exact absurd h1 hs0
    ·exact absurd h1 hs0)
   go_wp2_with fail
   exact Qac (v:=.tuple #[.agg #[.slice none 0 0,.slice none 0 0,.slice none 0 0,.slice none 0 0],.int .i64 0,.int .i64 se]) (by simp[results,Tryz.results27,go_sem,z0,z1,z2,z3]) rfl hfin.out
  subst hs0;obtain⟨le,hle⟩:∃ q,lvE sv x=q:=⟨_,rfl⟩
  obtain⟨lv,hlv⟩:∃ q,lvV sv x=q:=⟨_,rfl⟩
  have HL:=Za (Zcz _ sv x w5 (Zef S5.out))
  have hways2:Hid ((le=8/\Yu j S x=(8,Zj,0))\/(le=0/\Yu j S x=Yu i lv b/\Zw6 s0 lv i b)):=Za (by
   rcases hways.out with ⟨h1,_⟩ | ⟨_,h2,h3⟩ | ⟨_,h2,h3,h4⟩
   ·exact absurd h1 (by decide)
   ·exact .inl ⟨hle ▸ h2,h3⟩
   ·exact .inr ⟨hle ▸ h2,hlv ▸ h3,hlv ▸ h4⟩)
  rw[hle,hlv] at HL;replace hle:=Za hle;replace hlv:=Za hlv
  go_upto_region 10 with fail
  go_wp2_with fail
  with_reducible refine(HL.out).mono ?_
  rintro e w6 ⟨ra',rb',rc',rd',rfl,hS6,hb6⟩;have c6:=(hb6.block w.heap.size (by have:=SZ.out;have:=hz5.out;omega)).trans g5.out;have r6:=Za ((hb6.block w1.heap.size (by have:=SZ.out;have:=hz5.out;omega)).trans r5.out);obtain⟨v0,v1,v2,v3,vf,_⟩:=Ze c6;obtain⟨w7,e7,x0,x1,x2,x3,xf,g7,B7,sz7,S7,-⟩:=Zan (K:=KX) (w:=w) (er:=0) (nn:=0) (Qc _) hX.out.1 c6 (B5.out.1.trans (hb6.mono B5.out.1.size)) (Zo2 hS6 fun k h=>hX.out.2.2.2 k (Qf hz5.out h));have r7:=Za ((B7.out.2.block w1.heap.size (by have:=SZ.out;have:=hz5.out;have:=hb6.size;omega) (fun e=>by have:=Option.some.inj e;have:=SZ.out;omega)).trans r6.out);have hz7:=Za (show w2.heap.size<=w7.heap.size from by rw[sz7.out];exact Qf hz5.out hb6.size);clear hS6 hb6 c6 HL y0 y1 y2 y3 yf
  go_upto_region 11 with fail
  clear v0 v1 v2 v3 vf e7;by_cases hl0:le=0
  case neg =>
   have t1:(le != 0)=true:=by simpa using hl0
   obtain⟨u0,u1,u2,u3,uf,_⟩:=Ze r7.out;obtain⟨w8,e8,z0,z1,z2,z3,-,-,-,-,-,hfin⟩:=Zan (K:=KX) (w:=w) (ra:=(none,0,0)) (rb:=(none,0,0)) (rc:=(none,0,0)) (rd:=(none,0,0)) (S:=Zj) (er:=le) (nn:=0) (by have:=SZ.out;omega) hX.out.2.1 r7.out B7.out.1 (Yv _ _)
   dsimp only at e8 z0 z1 z2 z3
   have hfin:Hid (Z1x K w g (.returned (.tuple #[.agg #[.slice none 0 0,.slice none 0 0,.slice none 0 0,.slice none 0 0],.int .i64 0,.int .i64 le])) w8):=Za (by
    rcases hways2.out with ⟨h1,h2⟩ | ⟨h1,_⟩
    ·rw[hgj.out,h2,<- h1]
     exact hfin.out.mono hX.out.2.2.1
    ·exact absurd h1 hl0)
   go_wp2_with fail
   exact Qac (v:=.tuple #[.agg #[.slice none 0 0,.slice none 0 0,.slice none 0 0,.slice none 0 0],.int .i64 0,.int .i64 le]) (by simp[results,Tryz.results27,go_sem,z0,z1,z2,z3]) rfl hfin.out
  subst hl0
  have hnew:Hid (LwJ K s0 w w1 w2 g (.int .i64 b) w7 i):=Za (by
   rcases hways2.out with ⟨h1,_⟩ | ⟨_,h2,h3⟩
   ·exact absurd h1 (by decide)
   ·exact⟨lv,b,ra',rb',rc',rd',rfl,by rw[hgj.out,h2],h3,B7.out.1,hz7.out,g7.out,by rw[<- hKX.out];exact S7.out,r7.out⟩)
  go_wp2_with fail
  go_roundw
  case rel=>exact⟨i,hnew.out⟩
  case measure=>exact Nat.lt_of_le_of_lt (Zzp hnew.out) (by rw[hj.out,hij.out];exact Pz _)}
theorem Zfd (v:P9) (s:Rm) (a:Int) (key:Ky) (w:P8) (h:Sto (Old w) w v s) :
  Qaf Tryz.prog 20 #[v,.int .i64 a,kyV key] w fun e w'=>∃ P pc,e=.returned (.tuple #[itV (fdV s a key) (.slice P (fdV s a key).2.2.length pc),.int .i64 (fdE s a key)])/\Itm (New w.heap.size w') w' (itV (fdV s a key) (.slice P (fdV s a key).2.2.length pc)) (fdV s a key)/\Qah w.heap.size w w':=by
 refine(Zoo v s a key w h).mono ?_;rintro e w' ⟨u,rfl,hu,hb⟩;obtain⟨P,pc,rfl,_⟩:=id hu.open;exact⟨P,pc,rfl,hu,hb⟩
def Z3l (s:Rm) (a:Int) (k:Ky) (w:P8) (e:Qag) (w':P8):Prop:=∃ qa qb qc qd:Option Qaa×Nat×Nat,e=.returned (.tuple #[.agg #[.slice qa.1 qa.2.1 qa.2.2,.slice qb.1 qb.2.1 qb.2.2,.slice qc.1 qc.2.1 qc.2.2,.slice qd.1 qd.2.1 qd.2.2],.int .i64 (Zf5 s a k).2.2,.int .i64 (Zf5 s a k).1]) /\
 Sto (New w.heap.size w') w' (.agg #[.slice qa.1 qa.2.1 qa.2.2,.slice qb.1 qb.2.1 qb.2.2,.slice qc.1 qc.2.1 qc.2.2,.slice qd.1 qd.2.1 qd.2.2]) (Zf5 s a k).2.1/\Qah w.heap.size w w'
theorem Za2 (qa qb qc qd:Option Qaa×Nat×Nat) (s:Rm) (a:Int) (k:Ky) (w:P8) (h:Sto (Old w) w (.agg #[.slice qa.1 qa.2.1 qa.2.2,.slice qb.1 qb.2.1 qb.2.2,.slice qc.1 qc.2.1 qc.2.2,.slice qd.1 qd.2.1 qd.2.2]) s) :
  Qaf Tryz.prog 11 #[.agg #[.slice qa.1 qa.2.1 qa.2.2,.slice qb.1 qb.2.1 qb.2.2,.slice qc.1 qc.2.1 qc.2.2,.slice qd.1 qd.2.1 qd.2.2],.int .i64 a,kyV k] w (Z3l s a k w):=by{
 obtain⟨w1,hw1,b1,hs1,hB1⟩:=X4 w (.slice qa.1 qa.2.1 qa.2.2) (.slice qb.1 qb.2.1 qb.2.2) (.slice qc.1 qc.2.1 qc.2.2) (.slice qd.1 qd.2.1 qd.2.2) 29;obtain⟨w2,hw2,-,-,-,hs2,hB2,b2⟩:=Y9 w1 (.int .u8 (k.1.toNat:Int)) (.int .u32 k.2.1) (.int .u32 k.2.2) 37;obtain⟨w3,hw3,b3,hs3,hB3⟩:=X4 w2 (.slice none 0 0) (.slice none 0 0) (.slice none 0 0) (.slice none 0 0) 29;have hB12:=hB1.trans (hB2.mono hB1.size);have hB13:=hB12.trans (hB3.mono hB12.size);have B3:=Za hB13;have SZ:=Za (show w1.heap.size=w.heap.size+1/\w2.heap.size=w.heap.size+2/\w3.heap.size=w.heap.size+3 from by omega);have G1:=Za ((hB3.block w.heap.size (by omega)).trans ((hB2.block w.heap.size (by omega)).trans b1));have G2:=Za ((hB3.block w1.heap.size (by omega)).trans b2);have hS0:=Za h;have HS:=Za (fun W (hW:Qah w3.heap.size w3 W)=>h.below (hB13.trans (hW.mono hB13.size)));have KC:=Za (fun W (hW:Qah w3.heap.size w3 W)=>And.intro ((hW.block w.heap.size (by omega)).trans G1.out) (And.intro ((hW.block w1.heap.size (by omega)).trans G2.out) ((hW.block w2.heap.size (by omega)).trans b3)));obtain⟨D,hD⟩:∃ D,Zf5 s a k=D:=⟨_,rfl⟩
 have hzero:Hid (∀ (er:Int) (W:P8) (v0 v1 v2 v3:P9),W.heap[w2.heap.size]? = some (.cells #[v0,v1,v2,v3] 29 (0,0))->Qah w.heap.size w W->D=(er,Zj,0) ->
   ∃ W9,(((W.setCell ⟨w2.heap.size,0,none⟩ (.slice none 0 0)).setCell ⟨w2.heap.size,1,none⟩ (.slice none 0 0)).setCell ⟨w2.heap.size,2,none⟩ (.slice none 0 0)).setCell ⟨w2.heap.size,3,none⟩ (.slice none 0 0)=W9 /\
   W9.cell? ⟨w2.heap.size,0,none⟩=some (.slice none 0 0)/\W9.cell? ⟨w2.heap.size,1,none⟩=some (.slice none 0 0)/\W9.cell? ⟨w2.heap.size,2,none⟩=some (.slice none 0 0)/\W9.cell? ⟨w2.heap.size,3,none⟩=some (.slice none 0 0) /\
   Z3l s a k w (.returned (.tuple #[.agg #[.slice none 0 0,.slice none 0 0,.slice none 0 0,.slice none 0 0],.int .i64 0,.int .i64 er])) W9):=Za fun er W v0 v1 v2 v3 bW hW he=>by
  obtain⟨W9,e9,g9,gr9,_⟩:=Zu (a':=.slice none 0 0) (b':=.slice none 0 0) (c':=.slice none 0 0) (d':=.slice none 0 0) bW;obtain⟨k0,k1,k2,k3,_⟩:=Ze g9;exact⟨W9,e9,k0,k1,k2,k3,(none,0,0),(none,0,0),(none,0,0),(none,0,0),by rw[hD,he],by rw[hD,he];exact Yv _ _,hW.grown gr9 hW.size (fun q e=>by cases e;omega)⟩
 have hC3:=KC.out w3 (Qa _ _);obtain⟨k0,k1,k2,k3,_⟩:=Ze hC3.1;obtain⟨n0,n1,n2,_⟩:=Zk hC3.2.1;replace hs1:=Za hs1;replace hs2:=Za hs2;replace hs3:=Za hs3;have hFd:=Za (Zfd (.agg #[.slice qa.1 qa.2.1 qa.2.2,.slice qb.1 qb.2.1 qb.2.2,.slice qc.1 qc.2.1 qc.2.2,.slice qd.1 qd.2.1 qd.2.2]) s a k w3 (HS.out w3 (Qa _ _)))
 have hfd:Hid ((fdE s a k≠0->D=(fdE s a k,Zj,0))/\(fdE s a k=0->Yo s a=true/\asE s a=0/\D=Zqb s a k/\∃ x,Zcl s (rmV s a).1.toNat a k=some x)):=Za (by
  rw[<- hD];by_cases hc:ckE s a=0
  ·cases hx:Zdv s a k with
   | none =>
    have h6:=(Zqn hc hx).1;refine⟨fun _=> ?_,fun h=>by rw[h6] at h;cases h⟩;rw[h6];unfold Zf5;rw[if_neg (fun h=>h hc),hx];rfl
   | some x =>
    have h6:=(Zrb hc hx).1;obtain⟨h1,h2,h3⟩:=Zam hc;exact⟨fun h=>absurd h6 h,fun _=>⟨h1,h2,Zjf hc hx,x,hx⟩⟩
  ·have h6:=(Z0e (k:=k) hc).1
   refine⟨fun _=> ?_,fun h=>absurd (h6.symm.trans h) hc⟩;rw[h6];unfold Zf5
   rw[if_pos hc])
 obtain⟨fe,hfe⟩:∃ q,fdE s a k=q:=⟨_,rfl⟩
 obtain⟨fv,hfv⟩:∃ q,fdV s a k=q:=⟨_,rfl⟩
 rw[hfe,hfv] at hFd;rw[hfe] at hfd;replace hfe:=Za hfe;replace hfv:=Za hfv;replace hD:=Za hD;clear h hB1 hB2 hB3 hB12 hB13 b1 b2 b3 hC3;have hFd':=hFd.out;unfold kyV itV at hFd';replace hFd':=Za hFd';unfold kyV
 go_enter Tryz.func11,Tryz.ntmps11
 go_upto_region 1 with fail
 clear hw1 hw2 hw3
 go_wp2_with fail
 with_reducible refine hFd'.out.mono ?_
 rintro e w4 ⟨P,pc,rfl,-,hb4⟩;clear k0 k1 k2 k3 n0 n1 n2 hFd hFd';obtain⟨w5,hw5,-,-,-,-,-,hs5,hB5,b5⟩:=Z7 w4 (.int .u8 (fv.1.1.toNat:Int)) (.int .u32 fv.1.2.1) (.int .u32 fv.1.2.2) (.int .i64 fv.2.1) (.slice P fv.2.2.length pc) 54;have B5:=Za (hb4.trans (hB5.mono hb4.size));replace hs5:=Za hs5;clear hb4 hB5 b5;obtain⟨c5a,c5b,c5c⟩:=KC.out w5 B5.out;obtain⟨k0,k1,k2,k3,_⟩:=Ze c5a;obtain⟨n0,n1,n2,_⟩:=Zk c5b;obtain⟨u0,u1,u2,u3,uf,_⟩:=Ze c5c
 go_upto_region 2 with fail
 clear hw5;by_cases hk:fe=0
 case neg =>
  have t0:(fe != 0)=true:=by simpa using hk
  obtain⟨W9,e9,y0,y1,y2,y3,hfin⟩:=hzero.out fe w5 _ _ _ _ c5c (B3.out.trans (B5.out.mono B3.out.size)) (hfd.out.1 hk);replace hfin:=Za hfin
  go_wp2_with fail
  exact Qac (v:=.tuple #[.agg #[.slice none 0 0,.slice none 0 0,.slice none 0 0,.slice none 0 0],.int .i64 0,.int .i64 fe]) (by simp[results,Tryz.results11,go_sem,y0,y1,y2,y3]) rfl hfin.out
 subst hk;obtain⟨htr,has,hDo,x,hx⟩:=hfd.out.2 rfl;obtain⟨-,-,-,l0,l6,-⟩:=Xf htr;have hT:=Za (Zbt htr);have hO:=Za (Yac (k:=k) htr);obtain⟨lv,hlv⟩:∃ lv,(rmV s a).1.toNat=lv:=⟨_,rfl⟩
 rw[hlv] at hT hx hO;have lv6:lv<6:=by omega
 have hway:=Zu0 qa qb qc qd s a lv lv6 k x hx w5 (HS.out w5 B5.out) hT.out;unfold kyV at hway;have hway':=Za hway;replace hlv:=Za hlv;replace hx:=Za hx;replace hDo:=Za hDo;clear hway l0 l6 htr has c5a c5b;have C5:=Za c5c;clear c5c
 go_upto_region 4 with fail
 go_wp2_with fail
 with_reducible refine hway'.out.mono ?_
 rintro e w6 ⟨A,c,l,rfl,hll,hW,hb6⟩;clear k0 k1 k2 k3 n0 n1 n2 u0 u1 u2 u3 uf hway';have B6:=Za (B5.out.trans (hb6.mono B5.out.size));obtain⟨m,hm⟩:∃ q,l.length=q:=⟨_,rfl⟩
 have hW':=Za hW;have hB56:=Za hb6;rw[hm];have hml:m=lv+1:=by omega
 have hshr:=Za (Zmw w.heap.size w5.heap.size (by have:=B3.out.size;have:=B5.out.size;omega) qa qb qc qd s k a lv lv6 hT.out x hx.out A m c l w6 hb6.size
  (hS0.out.map fun p v hp hc=>⟨hp,((B3.out.trans (B6.out.mono B3.out.size)).cell hp).trans hc⟩) (by have:=hW.row;rw[hm] at this;exact this) hm hml hW.rows hW.off hW.are)
 replace hm:=Za hm;replace hml:=Za hml;clear hW hb6 hll;obtain⟨c6a,c6b,c6c⟩:=KC.out w6 B6.out;obtain⟨k0,k1,k2,k3,_⟩:=Ze c6a;have C6:=Za c6c;clear c6a c6b c6c;obtain⟨⟨ge,gs,gn⟩,hG⟩:∃ G,Z64 s a lv k=G:=⟨_,rfl⟩
 unfold Yby at hshr;rw[hG] at hshr hO
 dsimp only at hshr
 replace hG:=Za hG
 go_upto_region 7 with fail
 go_wp2_with fail
 with_reducible refine hshr.out.mono ?_
 rintro e w7 ⟨pa,pb,pc',pd,rfl,hS7,hb7⟩;clear k0 k1 k2 k3 hshr;have hlt:w3.heap.size<=w5.heap.size:=B5.out.size;have hlt6:w5.heap.size<=w6.heap.size:=hB56.out.size;have hc7:=(hb7.block w2.heap.size (by have:=SZ.out;omega)).trans C6.out;have hBw6:Qah w.heap.size w w6:=B3.out.trans (B6.out.mono B3.out.size);have hBw7:Qah w.heap.size w w7:=hBw6.trans (hb7.mono (by have:=SZ.out;omega));have hnK:Hid (¬ (fun k=>k<w.heap.size\/w3.heap.size<=k) w2.heap.size):=Za (fun h=>by have:=SZ.out;rcases h with h | h <;> omega);obtain⟨u0,u1,u2,u3,uf,_⟩:=Ze hc7;obtain⟨w8,e8,y0,y1,y2,y3,yf,g8,B8,sz8,S8,-⟩:=Zan (K:=fun k=>k<w.heap.size\/w3.heap.size<=k) (w:=w) (er:=0) (nn:=0) (by have:=SZ.out;omega) hnK.out hc7 hBw7 (U0 hS7 (fun k h=>h.imp id (fun h=>by omega)) (Qa _ _));have hlt7:w3.heap.size<=w8.heap.size:=by rw[sz8.out];have:=hb7.size;omega
 clear hS7 hb7 hc7 hBw6 hBw7
 go_upto_region 8 with fail
 clear u0 u1 u2 u3 uf e8;by_cases hge:ge=0
 case neg =>
  have t0:(ge != 0)=true:=by simpa using hge
  obtain⟨W9,e9,y0,y1,y2,y3,hfin⟩:=hzero.out ge w8 _ _ _ _ g8.out B8.out.1 (by rw[hDo.out];exact hO.out.bad hge);replace hfin:=Za hfin
  go_wp2_with fail
  exact Qac (v:=.tuple #[.agg #[.slice none 0 0,.slice none 0 0,.slice none 0 0,.slice none 0 0],.int .i64 0,.int .i64 ge]) (by simp[results,Tryz.results11,go_sem,y0,y1,y2,y3]) rfl hfin.out
 subst hge;obtain⟨l',hlow,hO1,hO2⟩:=hO.out.good rfl
 dsimp only at hlow hO1 hO2
 have hlw:=Za (Zoz (fun k=>k<w.heap.size\/w3.heap.size<=k) pa pb pc' pd s gs l' gn hlow w8 (fun k h=>.inr (by omega)) S8.out);obtain⟨⟨le,ls,ln⟩,hLo⟩:∃ G,Yu l' gs gn=G:=⟨_,rfl⟩
 unfold Z1x at hlw;rw[hLo] at hlw hO1 hO2
 dsimp only at hlw hO1 hO2
 replace hLo:=Za hLo;replace hO1:=Za hO1;replace hO2:=Za hO2;clear hlow
 go_upto_region 10 with fail
 go_wp2_with fail
 with_reducible refine hlw.out.mono ?_
 rintro e w9 ⟨ra,rb,rc,rd,rfl,hS9,hb9⟩;have hlt8:=(Qd.1 g8.out).1;have hc9:=(hb9.block w2.heap.size hlt8).trans g8.out;obtain⟨u0,u1,u2,u3,uf,_⟩:=Ze hc9;obtain⟨w10,e10,x0,x1,x2,x3,xf,g10,B10,sz10,S10,-⟩:=Zan (K:=fun k=>k<w.heap.size\/w3.heap.size<=k) (w:=w) (er:=0) (nn:=0) (by have:=SZ.out;omega) hnK.out hc9 (B8.out.1.trans (hb9.mono B8.out.1.size)) hS9;clear hS9 hb9 hc9 hlw y0 y1 y2 y3 yf
 go_upto_region 11 with fail
 clear u0 u1 u2 u3 uf e10;by_cases hle:le=0
 case neg =>
  have t0:(le != 0)=true:=by simpa using hle
  obtain⟨W9,e9,y0,y1,y2,y3,hfin⟩:=hzero.out le w10 _ _ _ _ g10.out B10.out.1 (by rw[hDo.out];exact hO1.out hle);replace hfin:=Za hfin
  go_wp2_with fail
  exact Qac (v:=.tuple #[.agg #[.slice none 0 0,.slice none 0 0,.slice none 0 0,.slice none 0 0],.int .i64 0,.int .i64 le]) (by simp[results,Tryz.results11,go_sem,y0,y1,y2,y3]) rfl hfin.out
 subst hle;have hlv2:=Za (Zcz _ ls a w10 (Zef S10.out));have hO3:=Za (hO2.out rfl);obtain⟨ve,hve⟩:∃ q,lvE ls a=q:=⟨_,rfl⟩
 obtain⟨vv,hvv⟩:∃ q,lvV ls a=q:=⟨_,rfl⟩
 rw[hve,hvv] at hlv2 hO3;replace hve:=Za hve;replace hvv:=Za hvv
 go_upto_region 13 with fail
 go_wp2_with fail
 with_reducible refine hlv2.out.mono ?_
 rintro e w11 ⟨va,vb,vc,vd,rfl,hS11,hb11⟩;have hlt10:=Za (Qd.1 g10.out).1;have hc11:=(hb11.block w2.heap.size hlt10.out).trans g10.out;obtain⟨u0,u1,u2,u3,uf,_⟩:=Ze hc11;obtain⟨w12,e12,g12,gr12,gs12⟩:=Zu (a':=.slice va.1 va.2.1 va.2.2) (b':=.slice vb.1 vb.2.1 vb.2.2) (c':=.slice vc.1 vc.2.1 vc.2.2) (d':=.slice vd.1 vd.2.1 vd.2.2) hc11;have B12:=Za ((B10.out.1.trans (hb11.mono B10.out.1.size)).grown gr12 (B10.out.1.trans (hb11.mono B10.out.1.size)).size (fun q e=>by cases e;have:=SZ.out;omega));have S12:=Za (hS11.grown gr12 (fun q e=>by cases e;exact hlt10.out));have G12:=Za g12;obtain⟨y0,y1,y2,y3,yf,_⟩:=Ze g12;clear hS11 hb11 hc11 hlv2 x0 x1 x2 x3 xf g12 gr12 gs12
 go_upto_region 14 with fail
 clear u0 u1 u2 u3 uf e12;by_cases hve0:ve=0
 case neg =>
  clear y0 y1 y2 y3;obtain⟨u0,u1,u2,u3,_⟩:=Ze G12.out;have t0:(ve != 0)=true:=by simpa using hve0
  obtain⟨W9,e9,y0,y1,y2,y3,hfin⟩:=hzero.out ve w12 _ _ _ _ G12.out B12.out (by rw[hDo.out];exact hO3.out.1 hve0);replace hfin:=Za hfin
  go_wp2_with fail
  exact Qac (v:=.tuple #[.agg #[.slice none 0 0,.slice none 0 0,.slice none 0 0,.slice none 0 0],.int .i64 0,.int .i64 ve]) (by simp[results,Tryz.results11,go_sem,y0,y1,y2,y3]) rfl hfin.out
 subst hve0;obtain⟨W9,hW9,g13,gr13,gs13⟩:=Zu (a':=.slice va.1 va.2.1 va.2.2) (b':=.slice vb.1 vb.2.1 vb.2.2) (c':=.slice vc.1 vc.2.1 vc.2.2) (d':=.slice vd.1 vd.2.1 vd.2.2) G12.out;obtain⟨z0,z1,z2,z3,_,_⟩:=Ze g13
 have hfin:Hid (Z3l s a k w (.returned (.tuple #[.agg #[.slice va.1 va.2.1 va.2.2,.slice vb.1 vb.2.1 vb.2.2,.slice vc.1 vc.2.1 vc.2.2,.slice vd.1 vd.2.1 vd.2.2],.int .i64 ln,.int .i64 0])) W9):=Za (by
  have hp:Zf5 s a k=(0,vv,ln):=by rw[hD.out,hDo.out];exact hO3.out.2 rfl
  exact⟨va,vb,vc,vd,by rw[hp],by rw[hp];exact(S12.out.grown gr13 (fun q e=>by cases e;exact hlt10.out)).new B10.out.1.size (Qa _ _),B12.out.grown gr13 B12.out.size (fun q e=>by cases e;have:=SZ.out;omega)⟩)
 replace g13:=Za g13;clear gr13 gs13
 go_wp2_with fail
 exact Qac (v:=.tuple #[.agg #[.slice va.1 va.2.1 va.2.2,.slice vb.1 vb.2.1 vb.2.2,.slice vc.1 vc.2.1 vc.2.2,.slice vd.1 vd.2.1 vd.2.2],.int .i64 ln,.int .i64 0]) (by simp[results,Tryz.results11,go_sem,z0,z1,z2,z3]) rfl hfin.out}
theorem Z1h {s T:Rm}{a z er:Int}{k:Ky}(hd:Zf5 s a k=(er,T,z)) (qa qb qc qd:Option Qaa×Nat×Nat) (w:P8) (h:Sto (Old w) w (.agg #[.slice qa.1 qa.2.1 qa.2.2,.slice qb.1 qb.2.1 qb.2.2,.slice qc.1 qc.2.1 qc.2.2,.slice qd.1 qd.2.1 qd.2.2]) s) :
  Qaf Tryz.prog 11 #[.agg #[.slice qa.1 qa.2.1 qa.2.2,.slice qb.1 qb.2.1 qb.2.2,.slice qc.1 qc.2.1 qc.2.2,.slice qd.1 qd.2.1 qd.2.2],.int .i64 a,kyV k] w fun e w'=>∃ qa qb qc qd:Option Qaa×Nat×Nat,e=.returned (.tuple #[.agg #[.slice qa.1 qa.2.1 qa.2.2,.slice qb.1 qb.2.1 qb.2.2,.slice qc.1 qc.2.1 qc.2.2,.slice qd.1 qd.2.1 qd.2.2],.int .i64 z,.int .i64 er])/\Sto (New w.heap.size w') w' (.agg #[.slice qa.1 qa.2.1 qa.2.2,.slice qb.1 qb.2.1 qb.2.2,.slice qc.1 qc.2.1 qc.2.2,.slice qd.1 qd.2.1 qd.2.2]) T/\Qah w.heap.size w w':=by
 refine(Za2 qa qb qc qd s a k w h).mono ?_;unfold Z3l;rw[hd];exact fun _ _ h=>h
theorem Z8m (w:P8):Qaf Tryz.prog 9 #[] w fun e w'=>e=.returned (.bool true)/\Qah w.heap.size w w':=by{
 obtain⟨T,hD,hE,hH,hA⟩:=Z8z;have hG:=Za (fun W=>Zxv W);obtain⟨S,hS⟩:∃ S,(gS 6).1=S:=⟨_,rfl⟩
 rw[hS] at hG hD;replace hS:=Za hS
 have hmT:Hid (Z8x T):=Za (Z6k (by
  obtain⟨_,_,hm,_⟩:=Y6 (Zam hE).2.1
  exact hm))
 have hDl:=Za (fun qa qb qc qd W (h:Sto (Old W) W _ S)=>Z1h hD qa qb qc qd W h);have hCk:Hid (∀ v W,Sto (Old W) W v T->Qaf Tryz.prog 18 #[v,.int .i64 9] W fun e w'=>e=.returned (.tuple #[.int .i64 1,.int .i64 0])/\Qah W.heap.size W w'):=Za fun v W hW=>by
  have:=Ud v T 9 W hW;rw[hE,hH] at this;exact this
 have hAl:=Za (fun qa qb qc qd W (h:Sto (Old W) W _ T)=>Ztb qa qb qc qd T 9 W h);rw[hA] at hAl;obtain⟨RL,hRL⟩:∃ RL,raV T 9 Zbh Zwx=RL:=⟨_,rfl⟩
 rw[hRL] at hAl;replace hRL:=Za hRL;clear hE hH hA hD
 go_enter Tryz.func9,Tryz.ntmps9
 go_upto_region 1 with fail
 go_wp2_with fail
 with_reducible refine(hG.out _).mono ?_
 rintro e w1 ⟨qa,qb,qc,qd,rfl,h1,hb1⟩;obtain⟨w2,hw2,b2,hs2,hB2⟩:=X4 w1 (.slice qa.1 qa.2.1 qa.2.2) (.slice qb.1 qb.2.1 qb.2.2) (.slice qc.1 qc.2.1 qc.2.2) (.slice qd.1 qd.2.1 qd.2.2) 29;have K2:=Za (fun W (hW:Qah w2.heap.size w2 W)=>And.intro (Ze ((hW.block w1.heap.size (by omega)).trans b2)) (h1.below (hB2.trans (hW.mono hB2.size))));have B2:=Za (hb1.trans (hB2.mono hb1.size));replace hs2:=Za hs2;clear h1 hb1 hB2 hG b2
 go_upto_region 2 with fail
 clear hw2
 refine X8 (ops' := ?opsLate) (by kernel_rfl) [(9,6),(9,7),(10,7)] ?he (by kernel_rfl) (fun d _ _ _ _ h=>by cases d <;> exact h) 9 (fun W=>Qah w2.heap.size w2 W) (fun i=>match i with
   | 3=>some (PhK (fun k=>w2.heap.size<=k) (9) (0) T)
   | 4=>some (PhK (fun k=>w2.heap.size<=k) (9) (0) T)
   | 5=>some (Yca (fun k=>w2.heap.size<=k) T)
   | 8=>some (fun v W=>∃ g,v=.pointer (some ⟨g,0,none⟩)/\w2.heap.size<=g/\W.heap[g]? = some (.cells #[.slice none 0 0,.slice none 0 0,.slice none 0 0,.slice none 0 0] 29 (0,0)))
   | _=>none) (fun i=>match i with
   | 2=>some (.agg #[.int .u8 2,.int .u32 0,.int .u32 1])
   | 6=>some (.int .i64 (9))
   | 7=>some (.int .i64 (0))
   | _=>none) ?h1 ?h2 ?h3 (Qa _ _).drew (fun w w' h hb=>h.trans (hb.mono h.size)) ?tst ?_
 case he =>
  simp[Yb];rfl
 case h1=>decide
 case h2=>kernel_rfl
 case h3=>kernel_rfl
 case tst =>
  intro j φ x W W' hp hx hb
  match j,hp with
  | 3,hp=>cases hp;obtain⟨va,vb,vc,vd,e,h⟩:=hx;exact⟨va,vb,vc,vd,e,U0 h (fun _ h=>h) hb⟩
  | 4,hp=>cases hp;obtain⟨va,vb,vc,vd,e,h⟩:=hx;exact⟨va,vb,vc,vd,e,U0 h (fun _ h=>h) hb⟩
  | 5,hp=>cases hp;obtain⟨va,vb,vc,vd,e,h⟩:=hx;exact⟨va,vb,vc,vd,e,U0 h (fun _ h=>h) hb⟩
  | 8,hp=>cases hp;obtain⟨g,e,h1,h2⟩:=hx;exact⟨g,e,h1,(hb.block g (Qd.1 h2).1).trans h2⟩
 simp only[Qq,Qp,Qr,Qs]
 repeat (first
  | (refine wpAs_skip rfl ?_;simp only[Qb,Zb,Zc,Zd])
  | (refine wpAs_pure (v := ?_) rfl rfl ?_ ?_;rotate_left;(intro W hC hE;clear hE;(obtain⟨⟨k0,k1,k2,k3,_⟩,_⟩:=K2.out W hC);clear hC;go_simp;first | done | with_reducible rfl);simp only[Qb,Zb,Zc,Zd]))
 refine wpAs_fixed rfl rfl rfl ?_ ?_
 ·intro W hC hE
  refine does_enter (f:=12) (args:=#[.int .u32 1]) ?_ ?_
  ·go_simp
  ·refine(Zur 1 W).mono ?_
   (rintro e W' ⟨rfl,hg⟩)
   exact⟨_,rfl,rfl,hg⟩
 simp only[Qb,Zb,Zc,Zd];refine wpAs_act rfl rfl ?_ ?_
 ·intro W hC hE
  clear hE;refine does_enter (f:=11) (args:=#[.agg #[.slice qa.1 qa.2.1 qa.2.2,.slice qb.1 qb.2.1 qb.2.2,.slice qc.1 qc.2.1 qc.2.2,.slice qd.1 qd.2.1 qd.2.2],.int .i64 (11),.agg #[.int .u8 2,.int .u32 0,.int .u32 1]]) ?_ ?_
  ·obtain⟨⟨k0,k1,k2,k3,_⟩,_⟩:=K2.out W hC
   go_simp
  ·refine((fun W hC=>hDl.out qa qb qc qd W (K2.out W hC).2) W hC).mono ?_
   rintro e W' ⟨va,vb,vc,vd,rfl,h1,hb⟩;exact⟨_,rfl,⟨va,vb,vc,vd,rfl,Zo2 h1 (fun k h=>Qf hC.size h)⟩,hb⟩
 simp only[Qb,Zb,Zc,Zd,envAdd];intro x3;refine wpAs_act rfl rfl ?_ ?_
 ·intro W hC hE
  have h7:=hE.1 rfl;clear hE hC
  go_simp
  exact⟨h7,Qa _ _⟩
 simp only[Qb,Zb,Zc,Zd,envAdd];intro x4;refine wpAs_act rfl rfl ?_ ?_
 ·intro W hC hE
  obtain⟨va,vb,vc,vd,rfl,hz⟩:=hE.1 rfl;have hz':=Za hz;clear hE hz hC
  go_simp
  exact⟨⟨va,vb,vc,vd,rfl,hz'.out⟩,Qa _ _⟩
 simp only[Qb,Zb,Zc,Zd,envAdd];intro x5;refine wpAs_fixed rfl rfl rfl ?_ ?_
 ·intro W hC hE
  obtain⟨va,vb,vc,vd,rfl,hz⟩:=hE.2.1 rfl;clear hE hz hC
  go_simp
  exact⟨rfl,Qa _ _⟩
 simp only[Qb,Zb,Zc,Zd];refine wpAs_fixed rfl rfl rfl ?_ ?_
 ·intro W hC hE
  obtain⟨va,vb,vc,vd,rfl,hz⟩:=hE.2.1 rfl;clear hE hz hC
  go_simp
  exact⟨rfl,Qa _ _⟩
 simp only[Qb,Zb,Zc,Zd];refine wpAs_act rfl rfl ?_ ?_
 ·intro W hC hE
  have hs:=hC.size;clear hE hC
  go_simp
  exact⟨⟨W.heap.size,rfl,hs,Qad _ _⟩,(Qa _ _).alloc (Qc _) _⟩
 simp only[Qb,Zb,Zc,Zd,envAdd];intro x8;refine wpAs_end fun W hC hE=> ?_
 obtain⟨⟨g,rfl,hg,hz⟩,⟨pa,pb,pc,pd,rfl,hs⟩,_⟩:=hE;obtain⟨u0,u1,u2,u3,uf,_⟩:=Ze hz;obtain⟨w4,hW4,g4,gr4,gs4⟩:=Zu (a':=.slice pa.1 pa.2.1 pa.2.2) (b':=.slice pb.1 pb.2.1 pb.2.2) (c':=.slice pc.1 pc.2.1 pc.2.2) (d':=.slice pd.1 pd.2.1 pd.2.2) hz;have hs4:=Zpn (Zef hs) hmT.out hz (by simp) gr4;have hb4:=hC.grown gr4 hC.size (fun q e=>by cases e;exact hg);have K4:=Za (fun W (hW:Qah w4.heap.size w4 W)=>And.intro (Ze ((hW.block g (Qd.1 g4).1).trans g4)) (hs4.below hW));have B4:=Za (B2.out.trans (hb4.mono B2.out.size));replace hz:=Za hz;clear hC hs gr4 gs4 hs4 hb4 g4 hg
 go_upto_region 3 with fail
 clear hW4 u0 u1 u2 u3 uf;obtain⟨⟨k0,k1,k2,k3,_⟩,_⟩:=K4.out w4 (Qa _ _)
 go_wp2_with fail
 with_reducible refine(hCk.out _ _ (K4.out w4 (Qa _ _)).2).mono ?_
 rintro e w5 ⟨rfl,hb5⟩;have B5:=Za (B4.out.trans (hb5.mono B4.out.size));have hAll:=Za (hAl.out pa pb pc pd w5 (K4.out w5 hb5).2);clear k0 k1 k2 k3;obtain⟨⟨k0,k1,k2,k3,_⟩,_⟩:=K4.out w5 hb5;clear hb5
 go_upto_region 4 with fail
 go_wp2_with fail
 with_reducible refine(hAll.out).mono ?_
 rintro e w6 ⟨u,c,rfl,_,hb6⟩;have B6:=Za (B5.out.trans (hb6.mono B5.out.size));clear hb6 k0 k1 k2 k3
 go_wp2_with fail
 go_ret;exact⟨rfl,B6.out⟩}
def Znn (g1 g2:Nat) (w w':P8):Prop:=w.heap.size<=w'.heap.size/\∀ k,k<w.heap.size->k≠g1->k≠g2->w'.heap[k]? = w.heap[k]?
theorem Zfi (g1 g2:Nat) (w:P8):Znn g1 g2 w w:=⟨Qc _,fun _ _ _ _=>rfl⟩
theorem Uq {g1 g2:Nat}{a b c:P8}(h:Znn g1 g2 a b) (h':Znn g1 g2 b c):Znn g1 g2 a c :=
 ⟨Qf h.1 h'.1,fun k hk h1 h2=>(h'.2 k (Qh hk h.1) h1 h2).trans (h.2 k hk h1 h2)⟩
theorem Zk8 {g1 g2:Nat}{w w':P8}(h:Qah w.heap.size w w'):Znn g1 g2 w w':=⟨h.size,fun k hk _ _=>h.block k hk⟩
theorem Zl6 {g1 g2 g:Nat}{w:P8}(hg:g=g1\/g=g2) (k:Nat) (v:P9):Znn g1 g2 w (w.setCell ⟨g,k,none⟩ v):=by
 refine⟨by simp[P5],fun j hj h1 h2=> ?_⟩;have hne:g≠j:=fun e=>by subst e;rcases hg with rfl | rfl <;> contradiction
 simp[P5,Array.getElem?_modify,hne]
theorem Zwb {g1 g2 g:Nat}{w w':P8}{cs:Array P9}{t:Qab}(h:Znn g1 g2 w w') (hz:w.heap[g]? = some (.cells cs t (0,0))) (h1:g≠g1) (h2:g≠g2):w'.heap[g]? = some (.cells cs t (0,0)):=(h.2 g (Qd.1 hz).1 h1 h2).trans hz
theorem Z42:Tryz.zeroCells86=Array.replicate 256 (.int .i64 0):=by kernel_rfl
theorem Z4t (w:P8):∃ w5,(w.alloc (.cells Tryz.zeroCells85 85)).alloc (.cells Tryz.zeroCells86 86)=w5/\Z1w w.heap.size [] w5/\Cnt (w.heap.size+1) (fun _=>0) w5/\Qah w.heap.size w w5/\w5.heap.size=w.heap.size+2:=by{
 have hz:∀ k,k<256->(Tryz.zeroCells85:Array P9)[k]? = some (.bool (inB [] k)):=fun k hk=>by
  rw[Z1j,P7,if_pos hk];simp[inB]
 have hz2:∀ k,k<256->(Tryz.zeroCells86:Array P9)[k]? = some (.int .i64 0):=fun k hk=>by
  rw[Z42,P7,if_pos hk]
 refine⟨_,rfl,⟨_,Y5 (Qad _ _),hz⟩,⟨_,?_,hz2⟩,((Qa _ w).alloc (Qc _) _).alloc (by simp) _,by simp⟩;have:=Qad (w.alloc (.cells Tryz.zeroCells85 85)) (.cells Tryz.zeroCells86 86)
 rwa [World.size_alloc] at this}
structure EnS (n0 b:Nat) (w2:P8) (f:Nat->Int) (V:List Int) (W:P8):Prop where
 low:Qah n0 w2 W
 cnt:Cnt (b+1) f W
 bits:Z1w b V W
theorem EnS.below {n0 b:Nat}{w2:P8}{f:Nat->Int}{V:List Int}{W W':P8}(h:EnS n0 b w2 f V W) (hn:n0<=W.heap.size) (hb:Qah W.heap.size W W'):EnS n0 b w2 f V W' :=
 ⟨h.low.trans (hb.mono hn),Zy7 _ _ _ _ h.cnt hb,Zv9 _ _ _ _ h.bits hb⟩
theorem EnS.up {n0 b:Nat}{w2:P8}{f:Nat->Int}{V:List Int}{W:P8}(h:EnS n0 b w2 f V W) (hn:n0<=b) (k:Nat):EnS n0 b w2 (upF f k) V (W.setCell ⟨b+1,k,none⟩ (.int .i64 (f k+1))) :=
 ⟨h.low.trans (by
  have hg:W.grownBy (W.setCell ⟨b+1,k,none⟩ (.int .i64 (f k+1))) (some (b+1)):=Yq (p:=⟨b+1,k,none⟩) (Xa W (some (b+1))) rfl _
  exact(Qa n0 W).grown hg (by have:=Zsi h.cnt;omega) (fun q e=>by cases e;omega)),Z7d h.cnt k,Zwi h.bits (by omega) k _⟩
theorem EnS.met {n0 b:Nat}{w2:P8}{f:Nat->Int}{V:List Int}{W:P8}(h:EnS n0 b w2 f V W) (hn:n0<=b) (k:Nat):EnS n0 b w2 f (V++[(k:Int)]) (W.setCell ⟨b,k,none⟩ (.bool true)) :=
 ⟨h.low.trans (by
  have hg:W.grownBy (W.setCell ⟨b,k,none⟩ (.bool true)) (some b):=Yq (p:=⟨b,k,none⟩) (Xa W (some b)) rfl _
  exact(Qa n0 W).grown hg (by have:=Z78 h.bits;omega) (fun q e=>by cases e;omega)),Zz6 h.cnt (by omega) k _,Z23 h.bits k⟩
theorem Ybg {l:List Int}{n:Int}{j:Nat}(h:l[j]? = some n) (h0:0<=n):upF (fun i=>((Zc7 (l.take j) i:Nat):Int)) n.toNat=fun i=>((Zc7 (l.take (j+1)) i:Nat):Int):=by{
 funext i
 unfold upF
 dsimp only
 rw[Qu,h,Option.toList_some,Zi1];by_cases e:i=n.toNat
 ·rw[if_pos e,if_pos (show n=(i:Int) by omega)];omega
 ·rw[if_neg e,if_neg (show ¬ n=(i:Int) by omega)];omega}
def Zcd (s:Rm) (held pre:List Int) (V:List Int):Nat->Int:=fun i=>((Zc7 held i+Zc7 pre i+Zqc s V i:Nat):Int)
theorem Z1b {s:Rm}{held roots:List Int}{V:List Int}{n:Int}{j:Nat}(h:roots[j]? = some n) (h0:0<=n):upF (Zcd s held (roots.take j) V) n.toNat=Zcd s held (roots.take (j+1)) V:=by{
 funext i
 unfold upF Zcd;rw[Qu,h,Option.toList_some,Zi1];by_cases e:i=n.toNat
 ·rw[if_pos e,if_pos (show n=(i:Int) by omega)];omega
 ·rw[if_neg e,if_neg (show ¬ n=(i:Int) by omega)];omega}
theorem Zuo {s:Rm}{held pre V:List Int}(hh:held.length<=4) (hp:pre.length<=4) (hd:V.Nodup) (hV:∀ n∈V,rmE s n=0) (i:Nat):Zc7 held i+Zc7 pre i+Zqc s V i<=1288:=by
 have h1:=Zmb i held;have h2:=Zmb i pre;have h3:=Zs3 s i V hV;have h4:=Zjm 256 V hd fun n hn=>by
  obtain⟨p1,p2,_⟩:=Xh (hV n hn);exact⟨by omega,by omega⟩
 omega
def PhD (lo n:Nat) (L:List Int) (v:P9) (W:P8):Prop:=∃ (u:Option Qaa) (c:Nat) (p:Option Qaa) (q d:Nat),v=.tuple #[.slice u n c,.slice p q d,.int .i64 0]/\rSl 1 (rK .i64) (New lo W) W [.slice u n c] L
def PhU (lo n:Nat) (L:List Int) (v:P9) (W:P8):Prop:=∃ (u:Option Qaa) (c:Nat),v=.slice u n c/\rSl 1 (rK .i64) (New lo W) W [.slice u n c] L
theorem PhD.below {lo n:Nat}{L:List Int}{v:P9}{W W':P8}(h:PhD lo n L v W) (hb:Qah W.heap.size W W'):PhD lo n L v W':=by
 obtain⟨u,c,p,q,d,e,h⟩:=h;exact⟨u,c,p,q,d,e,(Uh (Zfu _)).new h (Qc _) hb⟩
theorem PhU.below {lo n:Nat}{L:List Int}{v:P9}{W W':P8}(h:PhU lo n L v W) (hb:Qah W.heap.size W W'):PhU lo n L v W':=by
 obtain⟨u,c,e,h⟩:=h;exact⟨u,c,e,(Uh (Zfu _)).new h (Qc _) hb⟩
theorem Z27 {s:Rm}{r:Int}(hr:ckE s r=0) (lo:Nat) (v:P9) (w:P8) (hlo:lo<=w.heap.size) (h:Sto (Old w) w v s):Qaf Tryz.prog 38 #[v,.int .i64 r] w fun e w'=>∃ v,e=.returned v/\PhD lo (Zaq (Xo s r)).length (Zaq (Xo s r)) v w'/\Qah w.heap.size w w':=by
 refine(Zlp v s r w h).mono ?_;rintro e w' ⟨u,c,p,d,rfl,h1,h2,hb⟩;have e1:Z7j s r=Zaq (Xo s r):=if_pos hr;rw[hr];rw[e1] at h1 ⊢;exact⟨_,rfl,⟨u,c,p,_,d,rfl,(Uh (Zfu _)).new h1 hlo (Qa _ _)⟩,hb⟩
theorem Z7e {lo b:Nat}{w:P8}{U:Option Qaa}{n c:Nat}{l:List Int}(h:rSl 1 (rK .i64) (New lo w) w [.slice U n c] l) (hb:b+1<lo){k:Nat}{x:Int}(hx:l[k]? = some x) :
  ∃ ad,U=some ad/\∀ W,Znn b (b+1) w W->W.cell? (ad.add k)=some (.int .i64 x):=by
 obtain⟨A,cap,e,_,_,h2⟩:=h;simp only[List.cons.injEq,Value.slice.injEq,and_true] at e;obtain⟨rfl,_,_⟩:=e;obtain⟨ad,vs,rfl,_,e3,e4⟩:=h2 k x hx;obtain⟨rfl,_,_⟩:=e4;have:=e3 0 _ rfl;simp only[Nat.mul_one,Nat.add_zero] at this;obtain⟨⟨p1,p2,_⟩,p4⟩:=this;exact⟨ad,rfl,fun W hW=>(Qe (hW.2 _ p2 (by omega) (by omega))).trans p4⟩
def PhQ (lo:Nat) (lv:Int) (n:Nat) (L:List It) (v:P9) (W:P8):Prop:=∃ (A:Option Qaa) (c:Nat),v=.tuple #[.agg #[.int .i64 lv,.slice A n c],.int .i64 0]/\Yh rIt 5 54 lo W A c L
def Ybf (lo:Nat) (lv:Int) (n:Nat) (L:List It) (v:P9) (W:P8):Prop:=∃ (A:Option Qaa) (c:Nat),v=.agg #[.int .i64 lv,.slice A n c]/\Yh rIt 5 54 lo W A c L
theorem PhQ.below {lo n:Nat}{lv:Int}{L:List It}{v:P9}{W W':P8}(h:PhQ lo lv n L v W) (hb:Qah W.heap.size W W'):PhQ lo lv n L v W':=by
 obtain⟨A,c,e,h⟩:=h;exact⟨A,c,e,h.below Z0 hb⟩
theorem Ybf.below {lo n:Nat}{lv:Int}{L:List It}{v:P9}{W W':P8}(h:Ybf lo lv n L v W) (hb:Qah W.heap.size W W'):Ybf lo lv n L v W':=by
 obtain⟨A,c,e,h⟩:=h;exact⟨A,c,e,h.below Z0 hb⟩
theorem Z8p {s:Rm}{y:Int}(hy:rmE s y=0) (lo:Nat) (v:P9) (w:P8) (hlo:lo<=w.heap.size) (h:Sto (Old w) w v s):Qaf Tryz.prog 36 #[v,.int .i64 y] w fun e w'=>∃ v,e=.returned v/\PhQ lo (rmV s y).1 (rmV s y).2.length (rmV s y).2 v w'/\Qah w.heap.size w w':=by
 refine(Zb0 v s y w h).mono ?_;rintro e w' ⟨u,rfl,⟨A,c,rfl,_,hr⟩,hb⟩;rw[hy];exact⟨_,rfl,⟨A,c,rfl,hr.low Z0 hlo⟩,hb⟩
theorem Z3q {lo b g:Nat}{w w':P8}{A:Option Qaa}{c:Nat}{L:List It}{zs:Array P9}{t:Qab}(h:Yh rIt 5 54 lo w A c L) (hb:b+1<lo) (hg:w.heap[g]? = some (.cells zs t (0,0))) (ht:t≠54) (hgr:w.grownBy w' (some g)){k:Nat}{x:It}(hx:L[k]? = some x) :
  ∃ ad,A=some ad/\∀ W,Znn b (b+1) w' W->W.cell? ⟨(ad.add (k*5)).block,(ad.add (k*5)).off+3,none⟩=some (.int .i64 x.2.1):=by{
 obtain⟨ad,E,ce,rfl,hok,⟨_,_,_,c3,_⟩,_⟩:=Zao (h.rel Z0) hx;obtain⟨p1,p2,_⟩:=hok 0 (by omega);rw[Zh] at p1;have p2:ad.block<w.heap.size:=by
  have:=p2;unfold Old at this
  rwa [Zh] at this
 have hne:ad.block≠g:=fun e=>by
  obtain⟨cs,ho,_⟩:=h;have hlt:=(Qm.1 hx).1;rcases ho.2 with ⟨e1,e2⟩ | ⟨g',cap,cur,e1,_,hgg,_⟩
  ·omega
  ·cases e1
   rw[show (⟨g',0,none⟩:Qaa).block=g' from rfl] at e;rw[e,hg] at hgg;simp at hgg;exact ht hgg.2
 refine⟨ad,rfl,fun W hW=> ?_⟩;have e1:=hgr.block ad.block p2 (by simpa using hne);have e2:=hW.2 ad.block (Qh p2 hgr.size) (by omega) (by omega);exact(Qe (a:=⟨(ad.add (k*5)).block,(ad.add (k*5)).off+3,none⟩) (by rw[Zh];exact e2.trans e1)).trans c3}
theorem EnS.box {n0 b:Nat}{w2:P8}{f:Nat->Int}{V:List Int}{W W':P8}{g:Nat}(h:EnS n0 b w2 f V W) (hn:n0<=b) (hb:b+1<g) (hg:W.grownBy W' (some g)):EnS n0 b w2 f V W':=by{
 obtain⟨vs,c1,c2⟩:=h.cnt;obtain⟨us,d1,d2⟩:=h.bits;have hc:=(Qd.1 c1).1;refine⟨h.low.trans ((Qa n0 W).grown hg (by omega) (fun q e=>by cases e;omega)),⟨vs,?_,c2⟩,⟨us,?_,d2⟩⟩
 ·rw[hg.block (b+1) hc (fun e=>by have:=Option.some.inj e;omega)]
  exact c1
 ·rw[hg.block b (by omega) (fun e=>by have:=Option.some.inj e;omega)]
  exact d1}
theorem EnS.same {n0 b:Nat}{w2:P8}{f:Nat->Int}{V V':List Int}{W:P8}(h:EnS n0 b w2 f V W) (e:∀ k:Nat,(k:Int)∈V↔(k:Int)∈V'):EnS n0 b w2 f V' W:=by
 obtain⟨us,d1,d2⟩:=h.bits;refine⟨h.low,h.cnt,us,d1,fun k hk=> ?_⟩;rw[d2 k hk];unfold inB;simp only[e k]
theorem Zu8 {b g:Nat}{w w' w'':P8}(h:Znn b (b+1) w w') (hg:w'.grownBy w'' (some g)) (hl:w.heap.size<=g):Znn b (b+1) w w'' :=
 ⟨Qf h.1 hg.size,fun k hk h1 h2=>(hg.block k (Qh hk h.1) (fun e=>by have:=Option.some.inj e;omega)).trans (h.2 k hk h1 h2)⟩
def Zie (s:Rm) (held pre:List Int) (V:List Int) (I:List It) (q:Nat):Nat->Int:=fun i=>Zcd s held pre V i+((Zui (I.take q) i:Nat):Int)
theorem Zv4 (s:Rm) (held pre V:List Int) (I:List It):Zie s held pre V I 0=Zcd s held pre V:=by
 funext i
 unfold Zie;rw[Qp];simp[Zui]
theorem Zzv {s:Rm}{held pre V:List Int}{y:Int}{q:Nat}(hq:(rmV s y).2.length<=q):Zie s held pre V (rmV s y).2 q=Zcd s held pre (V++[y]):=by
 funext i
 unfold Zie Zcd;rw[Pe hq,Zn2];omega
theorem Z2l {s:Rm}{held pre V:List Int}{I:List It}{q:Nat}{x:It}(hx:I[q]? = some x) (h0:0<=x.2.1):upF (Zie s held pre V I q) x.2.1.toNat=Zie s held pre V I (q+1):=by{
 funext i
 unfold upF Zie;rw[Qu,hx,Option.toList_some,Zn7];by_cases e:i=x.2.1.toNat
 ·rw[if_pos e,if_pos (show x.2.1=(i:Int) by omega)];omega
 ·rw[if_neg e,if_neg (show ¬ x.2.1=(i:Int) by omega)];omega}
def Ybl (s:Rm) (roots held:List Int) (w:P8) (e:Qag) (w':P8):Prop:=∃ (V:List Int) (res:Bool),V.Nodup/\(∀ n,n∈V↔∃ r∈roots,n∈Xo s r)/\(res=true↔∀ i:Nat,1<=i->i<256->Zc7 held i+Zc7 roots i+Ze6 s.1 V i<=Yy s.2.1 i)/\e=.returned (.bool res)/\Qah w.heap.size w w'
theorem Zpc (qa qb qc qd:Option Qaa×Nat×Nat) (s:Rm) (R:Option Qaa) (nr cr:Nat) (roots:List Int) (w:P8) (h:Sto (Old w) w (.agg #[.slice qa.1 qa.2.1 qa.2.2,.slice qb.1 qb.2.1 qb.2.2,.slice qc.1 qc.2.1 qc.2.2,.slice qd.1 qd.2.1 qd.2.2]) s)
  (hr:rSl 1 (rK .i64) (Old w) w [.slice R nr cr] roots) (hrn:roots.length=nr) (hr4:nr<=4) (hr0:0<nr) (ht:∀ r∈roots,ckE s r=0) :
  Qaf Tryz.prog 19 #[.agg #[.slice qa.1 qa.2.1 qa.2.2,.slice qb.1 qb.2.1 qb.2.2,.slice qc.1 qc.2.1 qc.2.2,.slice qd.1 qd.2.1 qd.2.2],.slice R nr cr] w (Ybl s roots [] w):=by{
 obtain⟨held,hheld⟩:∃ held:List Int,[]=held:=⟨_,rfl⟩
 rw[hheld];obtain⟨w1,hw1,b1,hs1,hB1⟩:=X4 w (.slice qa.1 qa.2.1 qa.2.2) (.slice qb.1 qb.2.1 qb.2.2) (.slice qc.1 qc.2.1 qc.2.2) (.slice qd.1 qd.2.1 qd.2.2) 29;obtain⟨w2,hw2,hbt,hct,hB2,hs2⟩:=Z4t w1;have hB12:=hB1.trans (hB2.mono hB1.size);have SZ:=Za (show w1.heap.size=w.heap.size+1/\w2.heap.size=w.heap.size+3 from ⟨hs1,by omega⟩);have B2:=Za hB12;have HS:=Za (fun W (hW:Qah w1.heap.size w2 W)=>And.intro (Ze ((hW.block w.heap.size (by omega)).trans ((hB2.block w.heap.size (by omega)).trans b1))) (h.below (hB12.trans (hW.mono hB1.size))));have HR:=Za (fun j (x:Int) (hx:roots[j]? = some x)=>Ybm hr hx);have E2:=Za (show EnS w1.heap.size w1.heap.size w2 (fun _=>0) [] w2 from ⟨Qa _ _,hct,hbt⟩);have LR:=Za hrn;have LH:=Za (show held.length=0 by rw[<- hheld];rfl);have hT:=Za ht
 have hlen:Hid (s.2.1.length=256):=Za (by
  obtain⟨x,hx⟩:∃ x,roots[0]? = some x:=⟨_,Qi (by omega)⟩
  obtain⟨-,-,hm,-⟩:=Y6 (Zam (ht x (Qj hx))).2.1
  exact Yw (Ye hm).2.1)
 replace hs1:=Za hs1;replace hs2:=Za hs2;have hE1:Hid (EnS w1.heap.size w1.heap.size w2 (fun i=>((Zc7 held i:Nat):Int)) [] w2):=Za (by rw[<- hheld];exact E2.out);replace hheld:=Za hheld;clear h hr hrn ht hB1 hB2 hB12 b1 hbt hct
 go_enter Tryz.func19,Tryz.ntmps19
 go_upto_region 3 with fail
 clear hw1 hw2
 go_wp2_with fail
 go_loopw [7] (fun iv wr=>∃ (j:Nat) (V:List Int),j<=nr/\iv=.int .i64 (j:Int)/\EnS w1.heap.size w1.heap.size w2 (Zcd s held (roots.take j) V) V wr/\V.Nodup/\∀ n,n∈V↔∃ r∈roots.take j,n∈Xo s r) (fun iv _=>nr-(intOf iv).toNat)
 case atStart=>exact⟨0,[],by omega,rfl,by
  have:=hE1.out;have e:Zcd s held (roots.take 0) []=fun i=>((Zc7 held i:Nat):Int):=by
   funext i
   unfold Zcd;simp[Zc7,Zqc]
  rw[e]
  exact this,List.nodup_nil,fun n=>by simp⟩
 case round =>
  obtain⟨j',V,hj,rfl,hE,hVd,hVm⟩:=hrel
  have hVr:Hid (∀ n∈V,rmE s n=0):=Za (fun n hn=>by
   obtain⟨r,hr,hnr⟩:=(hVm n).1 hn
   exact(Zau (Zam (hT.out r (Qo hr))).1).node n hnr)
  by_cases hlt':j'<nr
  case neg =>
   obtain rfl:j'=nr:=by omega
   have i3:¬ ((j':Int)<(j':Int)):=by omega
   have eR:roots.take j'=roots:=Pe (by rw[LR.out];exact Qc _);rw[eR] at hE hVm;have HE:=Za hE;have HV:=Za hVm;have HN:=Za (fun W (hW:Qah w1.heap.size w2 W)=>(HS.out W hW).2.parts.2.1);clear hE hVm eR
   go_wp2_with fail
   obtain⟨v3,rfl⟩:∃ v3:P8,v3=wr:=⟨_,rfl⟩
   have hn0:w1.heap.size+1<v3.heap.size:=Zsi HE.out.cnt;have B3:=Za (B2.out.trans (HE.out.low.mono (by have:=SZ.out;omega)))
   go_loopw [15] (fun iv wz=>∃ (i:Nat),1<=i/\i<=256/\iv=.int .i64 (i:Int)/\Qah v3.heap.size v3 wz/\∀ t:Nat,1<=t->t<i->Zc7 held t+Zc7 roots t+Zqc s V t<=Yy s.2.1 t) (fun iv _=>256-(intOf iv).toNat)
   case atStart=>exact⟨1,by omega,by omega,rfl,Qa _ _,fun t h1 h2=>by omega⟩
   case round =>
    obtain⟨i,hi1,hi2,rfl,hB,hall⟩:=hrel;have BB:=Za (B3.out.trans (hB.mono B3.out.size));by_cases hi:i<256
    case neg =>
     have i4:¬ ((i:Int)<256):=by omega
     have hfin:Hid (Ybl s roots held w (.returned (.bool true)) wr):=Za ⟨V,true,hVd,HV.out,⟨fun _ t h1 h2=>by rw[<- Zme h1 V hVr.out];exact hall t h1 (by omega),fun _=>rfl⟩,rfl,BB.out⟩;clear hall hB
     go_wp2_with fail
     exact Qac (v:=.bool true) (by simp[results,Tryz.results19,go_sem]) rfl hfin.out
    obtain⟨y,hy⟩:∃ y,s.2.1[i]? = some y:=⟨_,Qi (by rw[hlen.out];exact hi)⟩
    have hw2r:Qah w1.heap.size w2 wr:=HE.out.low.trans (hB.mono (by omega));have hby:=HN.out wr hw2r;obtain⟨A',cap',e,_,_,hbt⟩:=Vf (B:=wr.heap.size) (fun p hp=>hp) hby
    obtain⟨nd,hnd,hndl,hcb⟩:=hbt.at_ (by rw[hlen.out];omega);simp only[Value.slice.injEq] at e;obtain⟨e1,e2,_⟩:=e;rw[hlen.out] at e2;have hq1:qc.1=some nd:=e1.trans hnd;obtain⟨fi,hfi⟩:∃ fi,Zc7 held i+Zc7 roots i+Zqc s V i=fi:=⟨_,rfl⟩
    have KI:=Za (fun W' (hW:Qah wr.heap.size wr W')=>And.intro (HS.out W' (hw2r.trans (hW.mono (by have:=hB.size;omega)))).1 (And.intro (show W'.cell? ⟨w1.heap.size+1,i,none⟩=some (.int .i64 (fi:Int)) by
      have:=Zmq ((HE.out.below (by omega) hB).below (by have:=hB.size;omega) hW).cnt hi;unfold Zcd at this
      rwa [hfi] at this) ((hW.cell (p:=nd.add i) (by rw[Zh];exact hndl)).trans (hcb i y hy))))
    have hcy:Yy s.2.1 i=y.toNat:=by unfold Yy;rw[hy];rfl
    have y255:=y.toNat_lt;have iwy:IntKind.i64.wrap (y.toNat:Int)=(y.toNat:Int):=by rw[IntKind.wrap_i64];omega
    have i4:((i:Int)<256):=by omega
    have hall':=Za hall;have hB':=Za hB;obtain⟨yn,hyn⟩:∃ yn,y.toNat=yn:=⟨_,rfl⟩
    rw[hyn] at KI hcy y255 iwy;replace hy:=Za hy;replace hyn:=Za hyn;replace hfi:=Za hfi;replace hcy:=Za hcy;obtain⟨q1,q2,q3⟩:=qc
    dsimp only at hq1 e2
    subst hq1;subst e2;clear hall hB hby hbt hcb hw2r e1 hnd
    go_upto_region 24 with fail
    by_cases hgt:yn<fi
    ·have hd:decide ((fi:Int)>(yn:Int))=true:=decide_eq_true (by omega)
     refine wp_region_fx (by kernel_rfl) (fun W=>Qah wr.heap.size wr W) (fun _=>none) (fun _=>none) (by kernel_rfl) (Qa _ _).drew (fun w w' h hb=>h.trans (hb.mono h.size)) (fun j φ x W W' hp=>by cases hp) ?_
     repeat (first
      | (refine wpAs_skip rfl ?_;simp only[Qb,Zb,Zc,Zd])
      | (refine wpAs_pure (v := ?_) rfl rfl ?_ ?_;rotate_left;(intro W hC hE;clear hE;(obtain⟨⟨k0,k1,k2,k3,_⟩,hci,hcn⟩:=KI.out W hC);clear hC;go_simp;first | done | with_reducible rfl);simp only[Qb,Zb,Zc,Zd]))
     refine wpAs_end fun W hC hE=> ?_
     have hfin:Hid (Ybl s roots held w (.returned (.bool false)) W):=Za ⟨V,false,hVd,HV.out,⟨(nomatch ·),fun h=>by
      have h1:=h i hi1 hi;rw[<- Zme hi1 V hVr.out,hfi.out,hcy.out] at h1
      omega⟩,rfl,BB.out.trans (hC.mono BB.out.size)⟩
     clear hE hC
     go_wp2_with fail
     exact Qac (v:=.bool false) (by simp[results,Tryz.results19,go_sem]) rfl hfin.out
    ·have hd:decide ((fi:Int)>(yn:Int))=false:=decide_eq_false (by omega)
     refine wp_region_fx (by kernel_rfl) (fun W=>Qah wr.heap.size wr W) (fun _=>none) (fun _=>none) (by kernel_rfl) (Qa _ _).drew (fun w w' h hb=>h.trans (hb.mono h.size)) (fun j φ x W W' hp=>by cases hp) ?_
     repeat (first
      | (refine wpAs_skip rfl ?_;simp only[Qb,Zb,Zc,Zd])
      | (refine wpAs_pure (v := ?_) rfl rfl ?_ ?_;rotate_left;(intro W hC hE;clear hE;(obtain⟨⟨k0,k1,k2,k3,_⟩,hci,hcn⟩:=KI.out W hC);clear hC;go_simp;first | done | with_reducible rfl);simp only[Qb,Zb,Zc,Zd]))
     refine wpAs_end fun W hC hE=> ?_
     have hB9:=Za (hB'.out.trans (hC.mono hB'.out.size));clear hE hC
     go_wp2_with fail
     go_roundw
     case rel=>exact⟨i+1,by omega,by omega,by go_num,hB9.out,fun t h1 h2=>by
      by_cases e:t=i
      ·subst e
       rw[hfi.out,hcy.out];omega
      ·exact hall'.out t h1 (by omega)⟩
     case measure=>simp[intOf];omega
  obtain⟨x,hx⟩:∃ x,roots[j']? = some x:=⟨_,Qi (by rw[LR.out];exact hlt')⟩
  have hck:=hT.out x (Qj hx);obtain⟨k,rfl,_,k8,k256,-⟩:=Y6 (Zam hck).2.1;obtain⟨ad,rfl,hc⟩:=HR.out j' _ hx;have hcx:=Za (fun W (hW:Qah wr.heap.size wr W)=>hc W (B2.out.trans ((hE.low.mono (by have:=SZ.out;omega)).trans (hW.mono (by have:=SZ.out;have:=hE.low.size;omega)))));have hc0:=hcx.out wr (Qa _ _);have hcell:=Zmq hE.cnt k256;have hfrz:=Z0o hE.cnt k;have hle:=Zuo (held:=held) (pre:=roots.take j') (by rw[LH.out];omega) (by rw[Qn,LR.out];omega) hVd hVr.out k;obtain⟨m,hm⟩:∃ m,Zc7 held k+Zc7 (roots.take j') k+Zqc s V k=m:=⟨_,rfl⟩
  unfold Zcd at hcell;rw[hm] at hcell hle;have i3:(j':Int)<(nr:Int):=by omega
  have iw:IntKind.i64.wrap ((m:Int)+1)=(m:Int)+1:=by rw[IntKind.wrap_i64];omega
  obtain⟨W9,hW9⟩:∃ W9,wr.setCell ⟨w1.heap.size+1,k,none⟩ (.int .i64 ((m:Int)+1))=W9:=⟨_,rfl⟩
  have hE9:Hid (EnS w1.heap.size w1.heap.size w2 (Zcd s held (roots.take (j'+1)) V) V W9):=Za (by
   have:=hE.up (Qc _) k;rw[show (Zcd s held (roots.take j') V) k=(m:Int) by unfold Zcd;rw[hm],hW9] at this;have e:=Z1b (s:=s) (held:=held) (V:=V) hx (by omega);rw[show ((k:Int)).toNat=k by omega] at e
   rwa [e] at this)
  have hNd:=Za (fun v W hlo hW=>Z27 hck W9.heap.size v W hlo hW);obtain⟨L,hL⟩:∃ L,Zaq (Xo s (k:Int))=L:=⟨_,rfl⟩
  rw[hL] at hNd;obtain⟨nl,hnl⟩:∃ q,L.length=q:=⟨_,rfl⟩
  rw[hnl] at hNd;have hn256:nl<=256:=by
   have hbd:∀ z∈Xo s (k:Int),0<=z/\z<256:=fun z hz=>by
    have:=Xh ((Zau (Zam hck).1).node z hz);omega
   rw[<- hnl,<- hL];exact Zjm 256 _ ((Zmk _).imp fun h=>by omega) fun n hn=>by
    have:=hbd n ((Zfl hbd).1 hn);omega
  have KR:=Za (fun W (hW:Qah W9.heap.size W9 W)=>And.intro (HS.out W (hE9.out.low.trans (hW.mono (by have:=SZ.out;have:=hE9.out.low.size;omega)))) (hc W (B2.out.trans ((hE9.out.low.mono (by have:=SZ.out;omega)).trans (hW.mono (by have:=SZ.out;have:=hE9.out.low.size;omega))))));replace hm:=Za hm;replace hx:=Za hx;replace hL:=Za hL;replace hnl:=Za hnl;replace hVm:=Za hVm;clear hE hc hle hck hcx
  go_upto_region 7 with fail
  clear hc0 hcell hfrz hW9
  refine X8 (ops' := ?opsLate) (by kernel_rfl) [(10,8),(10,9),(11,9)] ?he (by kernel_rfl) (fun d _ _ _ _ h=>by cases d <;> exact h) 10 (fun W=>Qah W9.heap.size W9 W) (fun i=>match i with
   | 5=>some (fun v W=>PhD W9.heap.size nl L v W)
   | 6=>some (fun v W=>PhD W9.heap.size nl L v W)
   | 7=>some (fun v W=>PhU W9.heap.size nl L v W)
   | 8=>some (fun v _=>∃ (p:Option Qaa) (q d:Nat),v=.slice p q d)
   | _=>none) (fun i=>match i with
   | 9=>some (.int .i64 0)
   | _=>none) ?h1 ?h2 ?h3 (Qa _ _).drew (fun w w' h hb=>h.trans (hb.mono h.size)) ?tst ?_
  case he =>
   simp[Yb];rfl
  case h1=>decide
  case h2=>kernel_rfl
  case h3=>kernel_rfl
  case tst =>
   intro j φ x W W' hp hx hb
   match j,hp with
   | 5,hp=>cases hp;exact hx.below hb
   | 6,hp=>cases hp;exact hx.below hb
   | 7,hp=>cases hp;exact hx.below hb
   | 8,hp=>cases hp;exact hx
  simp only[Qq,Qp,Qr,Qs]
  repeat (first
   | (refine wpAs_skip rfl ?_;simp only[Qb,Zb,Zc,Zd])
   | (refine wpAs_pure (v := ?_) rfl rfl ?_ ?_;rotate_left;(intro W hC hE;clear hE;(obtain⟨⟨⟨k0,k1,k2,k3,_⟩,_⟩,hcw⟩:=KR.out W hC);clear hC;go_simp;first | done | with_reducible rfl);simp only[Qb,Zb,Zc,Zd]))
  refine wpAs_act rfl rfl ?_ ?_
  ·intro W hC hE
   clear hE;refine does_enter (f:=38) (args:=#[.agg #[.slice qa.1 qa.2.1 qa.2.2,.slice qb.1 qb.2.1 qb.2.2,.slice qc.1 qc.2.1 qc.2.2,.slice qd.1 qd.2.1 qd.2.2],.int .i64 k]) ?_ ?_
   ·go_simp
   ·refine(hNd.out _ W hC.size (KR.out W hC).1.2).mono ?_
    rintro e W' ⟨v,rfl,hv,hb⟩;exact⟨_,rfl,hv,hb⟩
  simp only[Qb,Zb,Zc,Zd,envAdd];intro x5;refine wpAs_act rfl rfl ?_ ?_
  ·intro W hC hE
   have h7:=hE.1 rfl;clear hE hC
   go_simp
   exact⟨h7,Qa _ _⟩
  simp only[Qb,Zb,Zc,Zd,envAdd];intro x6;refine wpAs_act rfl rfl ?_ ?_
  ·intro W hC hE
   obtain⟨u,c,p,q,d,rfl,hz⟩:=hE.1 rfl;have hz':=Za hz;clear hE hz hC
   go_simp
   exact⟨⟨u,c,rfl,hz'.out⟩,Qa _ _⟩
  simp only[Qb,Zb,Zc,Zd,envAdd];intro x7;refine wpAs_act rfl rfl ?_ ?_
  ·intro W hC hE
   obtain⟨u,c,p,q,d,rfl,hz⟩:=hE.2.1 rfl;clear hE hz hC
   go_simp
   exact⟨⟨p,q,d,rfl⟩,Qa _ _⟩
  simp only[Qb,Zb,Zc,Zd,envAdd];intro x8;refine wpAs_fixed rfl rfl rfl ?_ ?_
  ·intro W hC hE
   obtain⟨u,c,p,q,d,rfl,hz⟩:=hE.2.2.1 rfl;clear hE hz hC
   go_simp
   exact⟨rfl,Qa _ _⟩
  simp only[Qb,Zb,Zc,Zd];refine wpAs_end fun W hC hE=> ?_
  obtain⟨⟨p,q,d,rfl⟩,h7,_⟩:=hE;obtain⟨u,c,rfl,hu⟩:=h7;have hw9:w1.heap.size+1<W9.heap.size:=by have:=Zsi hE9.out.cnt;omega
  have HU:=Za (fun p (y:Int) (hy:L[p]? = some y)=>Z7e hu hw9 hy);have EW:=Za (hE9.out.below (by omega) hC);have hCW:=Za hC;clear hu hC hw9
  go_upto_region 8 with fail
  go_upto_region 10 with fail
  go_wp2_with fail
  go_loopw [11] (fun iv wz=>∃ (p:Nat) (V':List Int),p<=nl/\iv=.int .i64 (p:Int)/\EnS w1.heap.size w1.heap.size w2 (Zcd s held (roots.take (j'+1)) V') V' wz/\Znn w1.heap.size (w1.heap.size+1) W wz/\V'.Nodup/\(∀ n∈V',rmE s n=0)/\∀ n,n∈V'↔n∈V\/n∈L.take p) (fun iv _=>nl-(intOf iv).toNat)
  case atStart=>exact⟨0,V,by omega,rfl,EW.out,Zfi _ _ _,hVd,hVr.out,fun n=>by simp⟩
  case round =>
   obtain⟨p',V',hp,rfl,hE,hRs,hVd',hVr',hVm'⟩:=hrel;by_cases hpl:p'<nl
   case neg =>
    obtain rfl:p'=nl:=by omega
    have i9:¬ ((p':Int)<(p':Int)):=by omega
    have eL:L.take p'=L:=Pe (by rw[hnl.out];exact Qc _)
    have hfin:Hid (EnS w1.heap.size w1.heap.size w2 (Zcd s held (roots.take (j'+1)) V') V' wr/\∀ n,n∈V'↔∃ r∈roots.take (j'+1),n∈Xo s r):=Za ⟨hE,fun n=>by
     rw[hVm' n,hVm.out n,eL,<- hL.out,Zfl (fun y hy=>by
      have:=Xh ((Zau (Zam (hT.out _ (Qj hx.out))).1).node y hy)
      omega),Qu,hx.out]
     simp only[Option.toList_some,Qg,Qk];constructor
     ·rintro(⟨r,h1,h2⟩ | h)
      ·exact⟨r,.inl h1,h2⟩
      ·exact⟨_,.inr rfl,h⟩
     ·rintro⟨r,h1 | rfl,h2⟩
      ·exact .inl ⟨r,h1,h2⟩
      ·exact .inr h2⟩
    clear hE hRs hVm'
    go_wp2_with fail
    go_roundw
    case rel=>exact⟨j'+1,V',by omega,by go_num,hfin.out.1,hVd',hfin.out.2⟩
    case measure=>simp[intOf];omega
   obtain⟨y,hy⟩:∃ y,L[p']? = some y:=⟨_,Qi (by rw[hnl.out];exact hpl)⟩
   have hyr:rmE s y=0:=(Zau (Zam (hT.out _ (Qj hx.out))).1).node y (by
    have:=Qj hy
    rw[<- hL.out,Zfl (fun z hz=>by
     have:=Xh ((Zau (Zam (hT.out _ (Qj hx.out))).1).node z hz)
     omega)] at this
    exact this)
   obtain⟨yk,rfl,_,y8,y256,-⟩:=Y6 (Z9 hyr).2;obtain⟨ud,rfl,hud⟩:=HU.out p' _ hy;have hNo:=Za (fun v W hlo hW=>Z8p hyr wr.heap.size v W hlo hW);have hit5:=(Zx (Z9 hyr).1).1.2.2.1;obtain⟨I,hI⟩:∃ I,(rmV s (yk:Int)).2=I:=⟨_,rfl⟩
   obtain⟨ni,hni⟩:∃ q,I.length=q:=⟨_,rfl⟩
   obtain⟨lv,hlv⟩:∃ q,(rmV s (yk:Int)).1=q:=⟨_,rfl⟩
   rw[hI,hni,hlv] at hNo;rw[hI,hni] at hit5;have KN:=Za (fun W' (hW:Qah wr.heap.size wr W')=>And.intro (HS.out W' (hE.low.trans (hW.mono (by have:=SZ.out;have:=hE.low.size;omega)))) (hud W' (Uq hRs (Zk8 hW))));have i4:(p':Int)<(nl:Int):=by omega
   have hcl:w1.heap.size+1<wr.heap.size:=Zsi hE.cnt;have hRs':=Za hRs;have hE':=Za hE;have hVm2:=Za hVm';have hVr2:=Za hVr';replace hI:=Za hI;replace hni:=Za hni;replace hy:=Za hy;replace hyr:=Za hyr;replace hlv:=Za hlv;have hud2:=Za hud;clear hud hE hRs hVm' hVr'
   go_upto_region 13 with fail
   refine X8 (ops' := ?opsLateb) (by kernel_rfl) [(10,8)] ?heb (by kernel_rfl) (fun d _ _ _ _ h=>by cases d <;> exact h) 10 (fun W=>Qah wr.heap.size wr W) (fun i=>match i with
    | 5=>some (fun v W=>PhQ wr.heap.size lv ni I v W)
    | 6=>some (fun v W=>PhQ wr.heap.size lv ni I v W)
    | 7=>some (fun v W=>Ybf wr.heap.size lv ni I v W)
    | 9=>some (fun v W=>∃ g,v=.pointer (some ⟨g,0,none⟩)/\wr.heap.size<=g/\W.heap[g]? = some (.cells #[.int .i64 0,.slice none 0 0] 81 (0,0)))
    | _=>none) (fun i=>match i with
    | 8=>some (.int .i64 0)
    | _=>none) ?h1b ?h2b ?h3b (Qa _ _).drew (fun w w' h hb=>h.trans (hb.mono h.size)) ?tstb ?_
   case heb =>
    simp[Yb];rfl
   case h1b=>decide
   case h2b=>kernel_rfl
   case h3b=>kernel_rfl
   case tstb =>
    intro j φ x W W' hp hx hb
    match j,hp with
    | 5,hp=>cases hp;exact hx.below hb
    | 6,hp=>cases hp;exact hx.below hb
    | 7,hp=>cases hp;exact hx.below hb
    | 9,hp=>cases hp;obtain⟨g,e,h1,h2⟩:=hx;exact⟨g,e,h1,(hb.block g (Qd.1 h2).1).trans h2⟩
   simp only[Qq,Qp,Qr,Qs]
   repeat (first
    | (refine wpAs_skip rfl ?_;simp only[Qb,Zb,Zc,Zd])
    | (refine wpAs_pure (v := ?_) rfl rfl ?_ ?_;rotate_left;(intro W hC hE;clear hE;(obtain⟨⟨⟨k0,k1,k2,k3,_⟩,_⟩,hcw⟩:=KN.out W hC);clear hC;go_simp;first | done | with_reducible rfl);simp only[Qb,Zb,Zc,Zd]))
   refine wpAs_act rfl rfl ?_ ?_
   ·intro W hC hE
    clear hE;refine does_enter (f:=36) (args:=#[.agg #[.slice qa.1 qa.2.1 qa.2.2,.slice qb.1 qb.2.1 qb.2.2,.slice qc.1 qc.2.1 qc.2.2,.slice qd.1 qd.2.1 qd.2.2],.int .i64 yk]) ?_ ?_
    ·go_simp
    ·refine(hNo.out _ W hC.size (KN.out W hC).1.2).mono ?_
     rintro e W' ⟨v,rfl,hv,hb⟩;exact⟨_,rfl,hv,hb⟩
   simp only[Qb,Zb,Zc,Zd,envAdd];intro v5;refine wpAs_act rfl rfl ?_ ?_
   ·intro W hC hE
    have h7:=hE.1 rfl;clear hE hC
    go_simp
    exact⟨h7,Qa _ _⟩
   simp only[Qb,Zb,Zc,Zd,envAdd];intro v6;refine wpAs_act rfl rfl ?_ ?_
   ·intro W hC hE
    obtain⟨A,c,rfl,hz⟩:=hE.1 rfl;have hz':=Za hz;clear hE hz hC
    go_simp
    exact⟨⟨A,c,rfl,hz'.out⟩,Qa _ _⟩
   simp only[Qb,Zb,Zc,Zd,envAdd];intro v7;refine wpAs_fixed rfl rfl rfl ?_ ?_
   ·intro W hC hE
    obtain⟨A,c,rfl,hz⟩:=hE.2.1 rfl;clear hE hz hC
    go_simp
    exact⟨rfl,Qa _ _⟩
   simp only[Qb,Zb,Zc,Zd];refine wpAs_act rfl rfl ?_ ?_
   ·intro W hC hE
    have hs:=hC.size;clear hE hC
    go_simp
    exact⟨⟨W.heap.size,rfl,hs,Qad _ _⟩,(Qa _ _).alloc (Qc _) _⟩
   simp only[Qb,Zb,Zc,Zd,envAdd];intro v9;refine wpAs_end fun W2 hC hE=> ?_
   obtain⟨⟨g,rfl,hg,hz⟩,h7,_⟩:=hE;obtain⟨A,c,rfl,hrw⟩:=h7;obtain⟨u0,u1,uf,_⟩:=Zg hz;obtain⟨w5,hW5,g5,gr5,gs5⟩:=Xt (u:=.int .i64 lv) (v:=.slice A ni c) hz;have E5:=Za ((hE'.out.below (by omega) hC).box (Qc _) (by omega) gr5);have R5:=Za (Zu8 (Uq hRs'.out (Zk8 hC)) gr5 (by have:=hRs'.out.1;omega));have HI:=Za (fun q (z:It) (hq:I[q]? = some z)=>Z3q hrw hcl hz (by decide) gr5 hq);have KG:=Za (fun W' (hW:Znn w1.heap.size (w1.heap.size+1) w5 W')=>Zg (Zwb hW g5 (by omega) (by omega)));have KS:=Za (fun W' (hW:Znn w1.heap.size (w1.heap.size+1) w5 W')=>hud2.out W' (Uq R5.out hW));have g5':=Za g5;replace hz:=Za hz;clear hC hg hrw gr5 gs5 g5
   go_upto_region 14 with fail
   clear hW5 u0 u1 uf
   go_upto_region 16 with fail
   by_cases hmet:(yk:Int)∈V'
   ·have hbt:inB V' yk=true:=decide_eq_true hmet
    obtain⟨m0,m1,mf,_⟩:=KG.out w5 (Zfi _ _ _);have hud5:=KS.out w5 (Zfi _ _ _);have hcell:=Ziz E5.out.bits y256;rw[hbt] at hcell;have hfrz:=Zsr E5.out.bits yk;obtain⟨W6,hW6⟩:∃ W6,w5.setCell ⟨w1.heap.size,yk,none⟩ (.bool true)=W6:=⟨_,rfl⟩
    have E6:Hid (EnS w1.heap.size w1.heap.size w2 (Zcd s held (roots.take (j'+1)) V') V' W6):=Za (by
     have:=(E5.out.met (Qc _) yk).same (V':=V') (fun k=>by
      simp only[Qg,Qk]
      exact⟨fun h=>h.elim id (fun e=>e ▸ hmet),.inl⟩)
     rwa [hW6] at this)
    have R6:=Za (hW6 ▸ Uq R5.out (Zl6 (.inl rfl) yk (.bool true)):Znn w1.heap.size (w1.heap.size+1) W W6)
    have hVn:Hid (∀ n,n∈V'↔n∈V\/n∈L.take (p'+1)):=Za (fun n=>by
     rw[Qu,hy.out,Option.toList_some,Qg,Qk,<- or_assoc,<- hVm2.out n]
     exact⟨.inl,fun h=>h.elim id (fun e=>e ▸ hmet)⟩)
    go_wp2_with fail
    go_loopw [14] (fun iv wz=>iv=.int .i64 0/\wz=w5) (fun _ _=>0)
    case atStart=>exact⟨rfl,rfl⟩
    case round =>
     obtain⟨rfl,rfl⟩:=hrel;by_cases hn0:0<ni
     ·have i5:(0:Int)<(ni:Int):=by omega
      go_wp2_with fail
      go_roundw
      case rel=>exact⟨p'+1,V',by omega,by go_num,E6.out,R6.out,hVd',hVr2.out,hVn.out⟩
      case measure=>simp[intOf];omega
     ·have i5:¬ ((0:Int)<(ni:Int)):=by omega
      go_wp2_with fail
      go_roundw
      case rel=>exact⟨p'+1,V',by omega,by go_num,E6.out,R6.out,hVd',hVr2.out,hVn.out⟩
      case measure=>simp[intOf];omega
   ·have hbt:inB V' yk=false:=decide_eq_false hmet
    go_wp2_with fail
    go_loopw [14] (fun iv wz=>∃ (q:Nat),q<=ni/\iv=.int .i64 (q:Int)/\EnS w1.heap.size w1.heap.size w2 (Zie s held (roots.take (j'+1)) V' I q) V' wz/\Znn w1.heap.size (w1.heap.size+1) w5 wz) (fun iv _=>ni-(intOf iv).toNat)
    case atStart=>exact⟨0,by omega,rfl,by rw[Zv4];exact E5.out,Zfi _ _ _⟩
    case round =>
     obtain⟨q,hq,rfl,hEq,hRq⟩:=hrel;obtain⟨m0,m1,mf,_⟩:=KG.out _ hRq;have hudq:=KS.out _ hRq;by_cases hqn:q<ni
     case neg =>
      obtain rfl:q=ni:=by omega
      have i5:¬ ((q:Int)<(q:Int)):=by omega
      have hcell:=Ziz hEq.bits y256;rw[hbt] at hcell;have hfrz:=Zsr hEq.bits yk;obtain⟨W6,hW6⟩:∃ W6,wr.setCell ⟨w1.heap.size,yk,none⟩ (.bool true)=W6:=⟨_,rfl⟩
      have E6:Hid (EnS w1.heap.size w1.heap.size w2 (Zcd s held (roots.take (j'+1)) (V'++[(yk:Int)])) (V'++[(yk:Int)]) W6):=Za (by
       have:=hEq.met (Qc _) yk;rw[<- hI.out,Zzv (by rw[hI.out,hni.out];exact Qc _),hW6] at this
       exact this)
      have R6:=Za (hW6 ▸ Uq (Uq R5.out hRq) (Zl6 (.inl rfl) yk (.bool true)):Znn w1.heap.size (w1.heap.size+1) W W6)
      have hVn:Hid (∀ n,n∈V'++[(yk:Int)]↔n∈V\/n∈L.take (p'+1)):=Za (fun n=>by
       rw[Qu,hy.out,Option.toList_some,Qg,Qg,<- or_assoc,<- hVm2.out n])
      have hVd6:Hid ((V'++[(yk:Int)]).Nodup):=Za (by
       rw[List.nodup_append]
       exact⟨hVd',by simp,fun a ha b hb e=>hmet (by rw[Qk.1 hb] at e;exact e ▸ ha)⟩)
      have hVr6:Hid (∀ n∈V'++[(yk:Int)],rmE s n=0):=Za (fun n hn=>by
       rcases Qg.1 hn with hn | hn
       ·exact hVr2.out n hn
       ·rw[Qk.1 hn];exact hyr.out)
      clear hEq hRq
      go_wp2_with fail
      go_roundw
      case rel=>exact⟨p'+1,V'++[(yk:Int)],by omega,by go_num,E6.out,R6.out,hVd6.out,hVr6.out,hVn.out⟩
      case measure=>simp[intOf];omega
     obtain⟨z,hz⟩:∃ z,I[q]? = some z:=⟨_,Qi (by rw[hni.out];exact hqn)⟩
     obtain⟨ad5,rfl,hcz⟩:=HI.out q z hz;have hcz':=hcz _ hRq;have hrz:=Vx (Z9 hyr.out).1 z (by rw[hI.out];exact Qj hz);obtain⟨rk,hrk⟩:∃ rk:Nat,z.2.1=(rk:Int):=⟨z.2.1.toNat,by omega⟩
     have r256:rk<256:=by omega
     rw[hrk] at hcz';have hbc:=Ziz hEq.bits y256;rw[hbt] at hbc;have hcell:=Zmq hEq.cnt r256;have hfrz:=Z0o hEq.cnt rk;have hle:=Zuo (held:=held) (pre:=roots.take (j'+1)) (by rw[LH.out];omega) (by rw[Qn,LR.out];omega) hVd' hVr2.out rk;have hle2:=Zl0 rk (I.take q);rw[Qn] at hle2;obtain⟨mm,hmm⟩:∃ mm,Zc7 held rk+Zc7 (roots.take (j'+1)) rk+Zqc s V' rk+Zui (I.take q) rk=mm:=⟨_,rfl⟩
     have hval:Zie s held (roots.take (j'+1)) V' I q rk=(mm:Int):=by unfold Zie Zcd;omega
     rw[hval] at hcell;have i5:(q:Int)<(ni:Int):=by omega
     have iw2:IntKind.i64.wrap ((mm:Int)+1)=(mm:Int)+1:=by rw[IntKind.wrap_i64];omega
     obtain⟨W6,hW6⟩:∃ W6,wr.setCell ⟨w1.heap.size+1,rk,none⟩ (.int .i64 ((mm:Int)+1))=W6:=⟨_,rfl⟩
     have E6:Hid (EnS w1.heap.size w1.heap.size w2 (Zie s held (roots.take (j'+1)) V' I (q+1)) V' W6):=Za (by
      have:=hEq.up (Qc _) rk;have e:=Z2l (s:=s) (held:=held) (pre:=roots.take (j'+1)) (V:=V') hz (by omega);rw[hrk,show ((rk:Int)).toNat=rk by omega] at e;rw[hval,hW6,e] at this
      exact this)
     have R6:=Za (hW6 ▸ Uq hRq (Zl6 (.inr rfl) rk (.int .i64 ((mm:Int)+1))):Znn w1.heap.size (w1.heap.size+1) w5 W6);replace hmm:=Za hmm;replace hz:=Za hz;clear hEq hRq hcz hle hle2 hval hrz
     go_wp2_with fail
     go_roundw
     case rel=>exact⟨q+1,by omega,by go_num,E6.out,R6.out⟩
     case measure=>simp[intOf];omega}
theorem Z3b {w:P8}{g:Nat}{l:List Int}(hg:w.heap[g]? = some (.cells (l.map fun n=>Value.int .i64 n).toArray 3 (0,0))) (hl:∀ n∈l,Zka n) (hn:l.length<1000):rSl 1 (rK .i64) (Old w) w [.slice (some ⟨g,0,none⟩) l.length l.length] l:=by{
 have hlt:=(Qd.1 hg).1;refine⟨some ⟨g,0,none⟩,l.length,rfl,by omega,by omega,fun i x hx=>⟨⟨g,0,none⟩,[.int .i64 x],rfl,rfl,fun j u hj=> ?_,Zw2 (hl x (Qj hx))⟩⟩;have hj0:j=0:=by
  have:=(Qm.1 hj).1;simp at this;exact this
 subst hj0;cases hj;refine⟨by unfold Old;rw[Zh];exact hlt,?_⟩;have e:(⟨g,0,none⟩:Qaa).add (i*1+0)=⟨g,i,none⟩:=by simp[Addr.add];omega
 rw[e];simp[Py,hg,hx]}
theorem Z66 {w:P8}{g:Nat}{a:Int}(hg:w.heap[g]? = some (.cells #[.int .i64 a] 3 (0,0))) (ha:Zka a):rSl 1 (rK .i64) (Old w) w [.slice (some ⟨g,0,none⟩) 1 1] [a] :=
 Z3b (l:=[a]) hg (fun n hn=>by rw[Qk.1 hn];exact ha) (by simp)
end Go.Proofs.YtgmbjnajdfgenaaGreat
