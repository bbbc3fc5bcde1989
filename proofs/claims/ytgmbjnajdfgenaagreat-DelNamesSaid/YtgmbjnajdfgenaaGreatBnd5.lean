/-
  Lemmas on the program and on the document's answers, gathered: PuGrow2, PuPut, PtItems, PuPlain, FnMade, PuSix, PuNew, PuLaw, PuAll, FnRef, FnFind, DlRow, DlShrunk, DlOut, DlEnd, DeSix, DeWay, DeBack, DePlain, DeSt, DeLay, DeRow, DeRep. Conditions: those that each lemma states.
-/
import Derived.Test.YtgmbjnajdfgenaaGreatBnd4
import Derived.WalkMore
set_option maxRecDepth 100000
set_option maxHeartbeats 16000000
namespace Go.Proofs.YtgmbjnajdfgenaaGreat
open Go.RowKit Go.Shelf
attribute [local go_sem] Oper.semAt_some
def GrI (l0 lo hr hi B3 B6 B7 B8 B9:Nat) (n0:World) (s:Rm) (x:It) (l:List Sv) (r:List Nat×Option Nat) (V:World):Prop :=
 r.2=none∧(Below lo n0 V∧hi≤V.heap.size)∧(Ya B6 #[.slice none 0 0,.slice none 0 0,.slice none 0 0,.slice none 0 0] 29 V∧Ya B7 #[.int .i64 0] 3 V∧Ya B8 #[.int .i64 0] 33 V) ∧
 ∃ (sk:Rm) (F:List It) (qa qb qc qd:Option Addr×Nat×Nat) (fb m fc:Nat),Xh l.reverse s [x]=Xh (l.reverse.drop r.1.length) sk F∧Ya B3 #[.slice qa.1 qa.2.1 qa.2.2,.slice qb.1 qb.2.1 qb.2.2,.slice qc.1 qc.2.1 qc.2.2,.slice qd.1 qd.2.1 qd.2.2] 29 V∧Sto (Out l0 hi V) V (.agg #[.slice qa.1 qa.2.1 qa.2.2,.slice qb.1 qb.2.1 qb.2.2,.slice qc.1 qc.2.1 qc.2.2,.slice qd.1 qd.2.1 qd.2.2]) sk ∧
  Ya B9 #[.slice (some ⟨fb,0,none⟩) m fc] 39 V∧FrB l0 hr hi V fb m fc F∧∀ q∈l.take (l.length-r.1.length),Zed V q
def GrX (lo hi B6 B7 B8:Nat) (n0:World) (s:Rm) (x:It) (l:List Sv) (c:Code) (r:List Nat×Option Nat) (V:World):Prop :=
 c=.ret∧r.2=none∧(Below lo n0 V∧hi≤V.heap.size)∧∃ er:Int,Ya B6 #[.slice none 0 0,.slice none 0 0,.slice none 0 0,.slice none 0 0] 29 V∧Ya B7 #[.int .i64 0] 3 V∧Ya B8 #[.int .i64 er] 33 V∧Xh l.reverse s [x]=(er,Zh,[])∧er≠0
theorem Zs0 {lo hi:Nat} {V V':World} {row:Option Nat} (hg:V.grownBy V' row) (hr:∀ r,row=some r→∃ o:Obj,V.heap[r]? = some o∧o.isCells=false) {p:Addr} {v:Value} (hp:Out lo hi V p) (hc:V.cell? p=some v):Out lo hi V' p∧V'.cell? p=some v :=
 ⟨⟨hp.1,Nat.lt_of_lt_of_le hp.2 hg.size⟩,cell_kept hc hg hr⟩
theorem Zmi {V V':World} {q:Sv} {row:Option Nat} (h:Zed V q) (hh:q.hi≤V.heap.size) (hg:V.grownBy V' row) (hr:∀ r,row=some r→V.heap.size≤r∨q.hi≤r):Zed V' q :=
 h.same fun k h1 h2=>hg.block k (by omega) (fun e=>by rcases hr k e.symm with h | h <;> omega)
theorem Z15 {lo hr hi fb m fc:Nat} {V V':World} {F:List It} {row:Option Nat} (h:FrB lo hr hi V fb m fc F) (hg:V.grownBy V' row) (hrow:∀ r,row=some r→∃ o:Obj,V.heap[r]? = some o∧o.isCells=false):FrB lo hr hi V' fb m fc F:=by
 obtain⟨h1,h2,h3,h4,ps,h5,h6,h7⟩:=h
 refine⟨h1,h2,h3,h4,ps,h5,⟨h6.1,?_⟩,fun p hp=>⟨(h7 p hp).1,Zf _ _ _ _ _ _ (fun a v ha hc=>Zs0 hg hrow ha hc) (h7 p hp).2⟩⟩
 rcases h6.2 with e' | ⟨g,cap,cur,e',hb,hgg,r⟩
 ·exact .inl e'
 ·exact .inr ⟨g,cap,cur,e',hb,Zl hgg hg hrow,r⟩
theorem Z02 {l0 lo hr hi B3 B6 B7 B8 B9:Nat} {n0:World} {s:Rm} {x:It} {l:List Sv} {B:Nat} (hlh:lo≤hi) (hB:lo≤B) (hq:∀ q∈l,q.hi≤B∧q.hi≤hi):OwnFrom B (GrI l0 lo hr hi B3 B6 B7 B8 B9 n0 s x l):=fun r V V' row hs hg hrr=>by
 obtain⟨h0,⟨h1,h2⟩,⟨h3,h4,h5⟩,sk,F,qa,qb,qc,qd,fb,m,fc,e1,e2,e3,e4,e5,e6⟩:=hs
 have hn:=fun r e=>(hrr r e).2
 refine⟨h0,⟨h1.grown hg (by omega) (fun r e=>by have:=(hrr r e).1;omega),Nat.le_trans h2 hg.size⟩,⟨Zl h3 hg hn,Zl h4 hg hn,Zl h5 hg hn⟩,sk,F,qa,qb,qc,qd,fb,m,fc,e1,Zl e2 hg hn,e3.map fun p v hp hc=>Zs0 hg hn hp hc,Zl e4 hg hn,Z15 e5 hg hn,fun q hm => ?_⟩
 have:=hq q (List.mem_of_mem_take hm)
 exact Zmi (e6 q hm) (by omega) hg fun r e=>.inr (by have:=(hrr r e).1;omega)
theorem Z0m {lo hi B6 B7 B8:Nat} {n0:World} {s:Rm} {x:It} {l:List Sv} {c:Code} {B:Nat} (hlh:lo≤hi) (hB:lo≤B):OwnFrom B (GrX lo hi B6 B7 B8 n0 s x l c):=fun r V V' row hs hg hrr=>by
 obtain⟨hc,h0,⟨h1,h2⟩,er,h3,h4,h5,h6⟩:=hs
 have hn:=fun r e=>(hrr r e).2
 exact⟨hc,h0,⟨h1.grown hg (by omega) (fun r e=>by have:=(hrr r e).1;omega),Nat.le_trans h2 hg.size⟩,er,Zl h3 hg hn,Zl h4 hg hn,Zl h5 hg hn,h6⟩
def Z42 (l0 lo:Nat) (s:Rm) (l:List Sv) (x:It) (w:World) (e:Ending) (w':World):Prop:=∃ qa qb qc qd:Option Addr×Nat×Nat,e=.returned (.tuple #[.agg #[.slice qa.1 qa.2.1 qa.2.2,.slice qb.1 qb.2.1 qb.2.2,.slice qc.1 qc.2.1 qc.2.2,.slice qd.1 qd.2.1 qd.2.2],.int .i64 (Xa s l x).2.2,.int .i64 (Xa s l x).1])∧Sto (Out l0 w.heap.size w') w' (.agg #[.slice qa.1 qa.2.1 qa.2.2,.slice qb.1 qb.2.1 qb.2.2,.slice qc.1 qc.2.1 qc.2.2,.slice qd.1 qd.2.1 qd.2.2]) (Xa s l x).2.1∧Below lo w w'
theorem Z0 {W:World} {g i:Nat} {cs:Array Value} {t:TypeId} {v:Value} (h:W.heap[g]? = some (.cells cs t (0,0))) (hv:cs[i]? = some v):W.setCell ⟨g,i,none⟩ v=W:=by
 have hh:(W.setCell ⟨g,i,none⟩ v).heap=W.heap:=by
  apply Array.ext_getElem?
  intro k
  by_cases e:k=g
  ·subst e
   rw[heap_setCell_same W k i _ _ v h,h]
   congr 2
   apply Array.ext_getElem?
   intro j
   obtain⟨hi,hv'⟩:=Array.getElem?_eq_some_iff.1 hv
   by_cases ej:i=j
   ·subst ej
    simp[hi,hv']
   ·rw[Array.getElem?_setIfInBounds_ne ej]
  ·exact Below.heap_setCell W ⟨g,i,none⟩ v k e
 have:W.setCell ⟨g,i,none⟩ v={ W with heap:=(W.setCell ⟨g,i,none⟩ v).heap }:=rfl
 rw[this,hh]
def PhI (V:World) (len:Nat) (LL:List It) (v:Value) (W:World):Prop:=V.heap.size<W.heap.size∧∃ A' c',v=.slice A' len c'∧Uo (Old W) W [.slice A' len c'] LL
def PhL (V:World) (nu:Nat) (er:Int) (S':Rm) (up:List It) (v:Value) (W:World):Prop:=V.heap.size<W.heap.size∧∃ (qa qb qc qd:Option Addr×Nat×Nat) (M:Option Addr) (mc:Nat),v=.tuple #[.agg #[.slice qa.1 qa.2.1 qa.2.2,.slice qb.1 qb.2.1 qb.2.2,.slice qc.1 qc.2.1 qc.2.2,.slice qd.1 qd.2.1 qd.2.2],.slice M nu mc,.int .i64 er]∧Sto (New V.heap.size W) W (.agg #[.slice qa.1 qa.2.1 qa.2.2,.slice qb.1 qb.2.1 qb.2.2,.slice qc.1 qc.2.1 qc.2.2,.slice qd.1 qd.2.1 qd.2.2]) S'∧Yd rIt 5 54 V.heap.size W M mc up
def PhS (V:World) (S':Rm) (v:Value) (W:World):Prop:=V.heap.size<W.heap.size∧∃ (qa qb qc qd:Option Addr×Nat×Nat),v=.agg #[.slice qa.1 qa.2.1 qa.2.2,.slice qb.1 qb.2.1 qb.2.2,.slice qc.1 qc.2.1 qc.2.2,.slice qd.1 qd.2.1 qd.2.2]∧Sto (New V.heap.size W) W (.agg #[.slice qa.1 qa.2.1 qa.2.2,.slice qb.1 qb.2.1 qb.2.2,.slice qc.1 qc.2.1 qc.2.2,.slice qd.1 qd.2.1 qd.2.2]) S'
def PhM (V:World) (nu:Nat) (up:List It) (v:Value) (W:World):Prop:=V.heap.size<W.heap.size∧∃ (M:Option Addr) (mc:Nat),v=.slice M nu mc∧Yd rIt 5 54 V.heap.size W M mc up
theorem Zpd (l0 lo:Nat) (hl0:l0≤lo) (qa qb qc qd:Option Addr×Nat×Nat) (s:Rm) (A:Option Addr) (m c:Nat) (l:List Sv) (E:Option Addr) (ce:Nat) (x:It) (w:World) (hlo:lo≤w.heap.size) (h:Sto (fun p=>p.block<l0) w (.agg #[.slice qa.1 qa.2.1 qa.2.2,.slice qb.1 qb.2.1 qb.2.2,.slice qc.1 qc.2.1 qc.2.2,.slice qd.1 qd.2.1 qd.2.2]) s)
  (hst:w.ownsRow lo 144 4 (.slice A m c) m (svs l)) (hl:l.length=m) (hm:m≤6) (hR:Rows lo w.heap.size w l) (hA:∀ g q,A.map (·.block)=some g→q∈l→g<q.lo∨q.hi≤g)
  (hq:∀ q∈l,Zkb q.nd.1∧q.nd.2.length≤5∧q.pl+(if q.inst=true then 1 else 0)≤q.nd.2.length) (hx:Itm (fun p=>p.block<l0) w (itV x (.slice E x.2.2.length ce)) x) :
  Calls Tryz.prog 44 #[.agg #[.slice qa.1 qa.2.1 qa.2.2,.slice qb.1 qb.2.1 qb.2.2,.slice qc.1 qc.2.1 qc.2.2,.slice qd.1 qd.2.1 qd.2.2],.slice A m c,itV x (.slice E x.2.2.length ce)] w (Z42 l0 lo s l x w):=by
 obtain⟨w1,hw1,b1,hs1,hB1⟩:=Xt w (.slice qa.1 qa.2.1 qa.2.2) (.slice qb.1 qb.2.1 qb.2.2) (.slice qc.1 qc.2.1 qc.2.2) (.slice qd.1 qd.2.1 qd.2.2) 29
 obtain⟨w2,hw2,-,-,-,-,-,hs2,hB2,b2⟩:=Z8 w1 (.int .u8 (x.1.1.toNat:Int)) (.int .u32 x.1.2.1) (.int .u32 x.1.2.2) (.int .i64 x.2.1) (.slice E x.2.2.length ce) 54
 obtain⟨w3,hw3,b3,hs3,hB3⟩:=Xt w2 (.slice none 0 0) (.slice none 0 0) (.slice none 0 0) (.slice none 0 0) 29
 obtain⟨w4,hw4,b4,hs4,hB4⟩:∃ w4,w3.alloc (.cells #[.int .i64 0] 3)=w4∧Ya w3.heap.size #[.int .i64 0] 3 w4∧w4.heap.size=w3.heap.size+1∧Below w3.heap.size w3 w4:=⟨_,rfl,heap_alloc_new w3 _,by simp,(Below.refl _ _).alloc (Nat.le_refl _) _⟩
 obtain⟨w5,hw5,b5,hs5,hB5⟩:∃ w5,w4.alloc (.cells #[.int .i64 0] 33)=w5∧Ya w4.heap.size #[.int .i64 0] 33 w5∧w5.heap.size=w4.heap.size+1∧Below w4.heap.size w4 w5:=⟨_,rfl,heap_alloc_new w4 _,by simp,(Below.refl _ _).alloc (Nat.le_refl _) _⟩
 obtain⟨w6,hw6,-,-,-,-,-,hs6,hB6,b6⟩:=Z8 w5 (.int .u8 (x.1.1.toNat:Int)) (.int .u32 x.1.2.1) (.int .u32 x.1.2.2) (.int .i64 x.2.1) (.slice E x.2.2.length ce) 54
 obtain⟨w7,hw7,b7,hs7,hB7⟩:∃ w7,w6.alloc (.cells #[.slice (some ⟨w5.heap.size,0,none⟩) 1 1] 39)=w7∧Ya w6.heap.size #[.slice (some ⟨w5.heap.size,0,none⟩) 1 1] 39 w7∧w7.heap.size=w6.heap.size+1∧Below w6.heap.size w6 w7:=⟨_,rfl,heap_alloc_new w6 _,by simp,(Below.refl _ _).alloc (Nat.le_refl _) _⟩
 obtain⟨w8,hw8,b8,hs8,hB8⟩:=Zdt w7 (.slice A m c) 93
 have hbw:=Za (Zeb A m c w7)
 rw[hw8] at hbw
 have k78:=hB7.trans (hB8.mono hB7.size)
 have k68:=hB6.trans (k78.mono hB6.size)
 have k58:=hB5.trans (k68.mono hB5.size)
 have k48:=hB4.trans (k58.mono hB4.size)
 have k38:=hB3.trans (k48.mono hB3.size)
 have k28:=hB2.trans (k38.mono hB2.size)
 have k18:=hB1.trans (k28.mono hB1.size)
 have BW:=Za k18
 obtain⟨i0,i1,i2,i3,i4,_⟩:=Zt ((((hB3.trans (hB4.mono hB3.size)).trans (hB5.mono (hB3.trans (hB4.mono hB3.size)).size)).block w1.heap.size (by omega)).trans b2)
 have SZ:=Za (show w1.heap.size=w.heap.size+1∧w2.heap.size=w.heap.size+2∧w3.heap.size=w.heap.size+3∧w4.heap.size=w.heap.size+4∧w5.heap.size=w.heap.size+5∧w6.heap.size=w.heap.size+6∧w7.heap.size=w.heap.size+7∧w8.heap.size=w.heap.size+8 from by omega)
 obtain⟨ad,had,hat⟩:=Zo2 (by rw[hl];exact hst)
 rw[hl] at had hat
 obtain⟨f,hf⟩:∃ f:Nat→Sv,f=fun j=>l[j]?.getD svZ:=⟨_,rfl⟩
 have hff:Hid (∀ k,k<m→l.reverse[k]? = some (f (m-1-k))∧f (m-1-k)∈l∧l[m-1-k]? = some (f (m-1-k))):=Za fun k hk=>by
  have e:l.reverse[k]? = some l[m-1-k]:=by
   rw[List.getElem?_reverse (by omega),show l.length-1-k=m-1-k by omega]
   exact List.getElem?_eq_getElem _
  have e2:f (m-1-k)=l[m-1-k]:=by
   rw[hf]
   simp[List.getElem?_eq_getElem (show m-1-k<l.length by omega)]
  rw[e2]
  exact⟨e,List.getElem_mem _,List.getElem?_eq_getElem _⟩
 have htold:=Ziw w7.heap.size c m A ad f w8 b8 (fun h=>⟨(had h).1,by have:=(had h).2.2;omega⟩) (by omega) (fun j hj=>by rw[hf];exact(hat j hj).same (k18.block _ (by rw[Zj];exact(had (by omega)).2.2)))
 have hin:InI x:=by
  obtain⟨_,_,hi,_⟩:=hx
  exact hi
 have hfr:FrB l0 w.heap.size w8.heap.size w8 w5.heap.size 1 1 [x]:=by
  refine⟨rfl,by omega,by omega,by omega,[(x,.slice E x.2.2.length ce)],rfl,?_,fun p hp => ?_⟩
  ·exact Xd (b:=w5.heap.size) (C:=Zi [(x,.slice E x.2.2.length ce)]) (by omega) ((k78.block _ (by omega)).trans b6) (Nat.le_refl _) (by decide) rfl (by rfl)
  ·rw[List.mem_singleton.1 hp]
   obtain⟨d,e,h1,h2⟩:=hx
   have ed:d=.slice E x.2.2.length ce:=by
    unfold itV at e
    simp at e
    exact e.symm
   subst ed
   exact⟨h1,Zf _ _ _ _ _ _ (fun a v ha hc=>⟨⟨.inl ha,by have:=hlo;omega⟩,(k18.cell (by omega)).trans hc⟩) h2⟩
 have hI0:GrI l0 lo w.heap.size w8.heap.size w.heap.size w2.heap.size w3.heap.size w4.heap.size w6.heap.size w s x l ([],none) w8 :=
  ⟨rfl,⟨k18.mono hlo,Nat.le_refl _⟩,⟨(k48.block _ (by omega)).trans b3,(k58.block _ (by omega)).trans b4,(k68.block _ (by omega)).trans b5⟩,s,[x],qa,qb,qc,qd,w5.heap.size,1,1,rfl,(k28.block _ (by omega)).trans b1,h.map fun p v hp hc=>⟨⟨.inl hp,by omega⟩,(k18.cell (by omega)).trans hc⟩,
   (hB8.block _ (by omega)).trans b7,hfr,fun q hqm=>(hR.ok q (List.mem_of_mem_take hqm)).2.2.2.same fun k h1 h2=>k18.block k (by have:=(hR.ok q (List.mem_of_mem_take hqm)).2.2.1;omega)⟩
 have hlt:=Za (fun h:0<m=>(had h).2)
 have hAA:=Za (fun h:0<m=>(had h).1)
 replace hf:=Za hf
 replace hl:=Za hl
 replace hA:=Za hA
 replace hR:=Za hR
 replace hq:=Za hq
 replace hfr:=Za hfr
 replace hin:=Za hin
 replace hs1:=Za hs1
 replace hs2:=Za hs2
 replace hs3:=Za hs3
 replace hs4:=Za hs4
 replace hs5:=Za hs5
 replace hs6:=Za hs6
 replace hs7:=Za hs7
 replace hs8:=Za hs8
 replace hI0:=Za hI0
 clear h hst had hat b1 b2 b3 b4 b5 b6 b7 b8 hB1 hB2 hB3 hB4 hB5 hB6 hB7 hB8 k78 k68 k58 k48 k38 k28 k18 hx hw8
 refine callsIn_wide.1 (callsIn_of_wp_marks (n:=5) Tryz.func44 rfl trivial ?_ rfl)
 simp only[Tryz.ntmps44,List.size_toArray,List.length_cons,List.length_nil,Nat.reduceAdd,Nat.reduceSub,Array.replicate_succ,Array.replicate_zero,List.push_toArray,List.append_toArray,List.nil_append,List.cons_append]
 gi_wp2_with fail
 refine⟨trivial,?_⟩
 gi_at_call 75
 refine(callsIn_wide.2 hbw.out).mono ?_
 rintro e w8 ⟨rfl,rfl⟩
 clear i0 i1 i2 i3 i4
 gi_wp2_with fail
 refine Za9 (m:=5) (gf:=119) (lb:=#[.pointer (some ⟨w7.heap.size,0,none⟩)]) rfl (enters_of Tryz.func119 (by kernel_rfl) rfl) htold (fun _=>rfl)
  (fun k=>k=w.heap.size∨k=w2.heap.size∨k=w3.heap.size∨k=w4.heap.size∨k=w6.heap.size∨∃ q∈l,q.A.map (·.block)=some k) (fun k e=>by
   rcases e with e | e | e | e | e | ⟨q,hq,e⟩
   ·have:=SZ.out;omega
   ·have:=SZ.out;omega
   ·have:=SZ.out;omega
   ·have:=SZ.out;omega
   ·have:=SZ.out;omega
   ·have h1:=hR.out.ok q hq
    have:=Uc h1.2.2.2 k e
    have:=SZ.out;omega) none (fun k hk=>by
   rcases hk with rfl | ⟨h0,rfl⟩
   ·refine⟨by have:=SZ.out;omega,?_,by simp⟩
    rintro(e | e | e | e | e | ⟨q,hq,e⟩)
    ·have:=SZ.out;omega
    ·have:=SZ.out;omega
    ·have:=SZ.out;omega
    ·have:=SZ.out;omega
    ·have:=SZ.out;omega
    ·have h1:=hR.out.ok q hq
     have:=Uc h1.2.2.2 _ e
     have:=SZ.out;omega
   ·have:=hlt.out h0
    refine⟨by have:=SZ.out;omega,?_,by simp⟩
    rintro(e | e | e | e | e | ⟨q,hq,e⟩)
    ·have:=SZ.out;omega
    ·have:=SZ.out;omega
    ·have:=SZ.out;omega
    ·have:=SZ.out;omega
    ·have:=SZ.out;omega
    ·have h1:=hR.out.ok q hq
     have:=Uc h1.2.2.2 _ e
     have:=hA.out ad.block q (by rw[hAA.out h0];rfl) hq
     omega)
  (GrI l0 lo w.heap.size w8.heap.size w.heap.size w2.heap.size w3.heap.size w4.heap.size w6.heap.size w s x l) (GrX lo w8.heap.size w2.heap.size w3.heap.size w4.heap.size w s x l)
  (Z02 (by have:=SZ.out;omega) (by have:=SZ.out;omega) (fun q hq=>by have:=(hR.out.ok q hq).2.2.1;have:=SZ.out;omega)) (fun c=>Z0m (by have:=SZ.out;omega) (by have:=SZ.out;omega))
  (fun r V hr k e=>by rw[hr.1] at e;cases e) hI0.out
  (fun x' a' V=>∃ g:Nat,a'={ tmps:=#[.agg #[.slice qa.1 qa.2.1 qa.2.2,.slice qb.1 qb.2.1 qb.2.2,.slice qc.1 qc.2.1 qc.2.2,.slice qd.1 qd.2.1 qd.2.2],.slice A m c,itV x (.slice E x.2.2.length ce),.pointer (some ⟨w.heap.size,0,none⟩),undef,.pointer (some ⟨w1.heap.size,0,none⟩),.pointer (some ⟨w2.heap.size,0,none⟩),.pointer (some ⟨w3.heap.size,0,none⟩),.pointer (some ⟨w4.heap.size,0,none⟩),.pointer (some ⟨w6.heap.size,0,none⟩),undef,.pointer (some ⟨g,0,none⟩),.agg #[.int .u8 (x.1.1.toNat:Int),.int .u32 x.1.2.1,.int .u32 x.1.2.2,.int .i64 x.2.1,.slice E x.2.2.length ce],.slice (some ⟨w5.heap.size,0,none⟩) 1 1,.slice A m c,.func (.func 119) #[] #[.pointer (some ⟨w7.heap.size,0,none⟩)],.int .i64 (x':Int),.agg #[.int .i64 (f x').nd.1,.slice (f x').A (f x').nd.2.length (f x').c,.int .i64 ((f x').pl:Int),.bool (f x').inst],undef,undef,undef,undef,undef,undef,undef,undef,undef,undef,undef,undef,undef,undef,undef,undef,undef,undef,undef,undef,undef,undef,undef,undef,undef,undef,undef,undef,undef,undef,undef,undef,undef,undef,undef,undef,undef,undef,undef],defers:=[] }∧Ya g #[.int .i64 (f x').nd.1,.slice (f x').A (f x').nd.2.length (f x').c,.int .i64 ((f x').pl:Int),.bool (f x').inst] 144 V)
  (fun y a' _ A B row hs hg hr=>by
   obtain⟨g,e1,h0⟩:=hs
   exact⟨g,e1,Zl h0 hg fun r e=>(hr r e).2⟩)
  (fun pre x q=>fun _ _ _ _ hs _ _=>hs) ?assign ?body ?done ?stop
 case assign =>
  rintro l' pre' q' x' V K hi hT hK
  obtain⟨V1,hV1,bV,hVs,hVB⟩:=Xt V (.int .i64 (f x').nd.1) (.slice (f x').A (f x').nd.2.length (f x').c) (.int .i64 ((f x').pl:Int)) (.bool (f x').inst) 144
  replace hVs:=Za hVs
  clear hi hT
  simp only[Z4t]
  gi_wp2_with fail
  exact hK _ _ (Z5 hVB) ⟨V.heap.size,rfl,bV⟩
 case body =>
  rintro l' pre' q' x' a' V hVs hI ⟨g,rfl,hg⟩ ⟨hp1,hp2,hp3⟩
  obtain⟨hqn,⟨hIb,hIs⟩,⟨hB6,hB7,hB8⟩,sk,F,pa,pb,pc,pd,fb,mf,fc,hgr,hB3,hSto,hB9,hFr,hrows⟩:=hI
  dsimp only at hqn
  subst hqn
  have hk:pre'.length<m:=hp2
  clear hp1
  obtain⟨hrv,hqm,hqi⟩:=hff.out _ hk
  rw[← hp3] at hrv hqm hqi
  have hst:=Zsc (s:=sk) (F:=F) hrv
  have hidx:Hid (∀ q∈l.take (l.length-(pre'++[x']).length),q.hi≤(f x').lo∧q∈l.take (l.length-pre'.length)):=Za fun q hqm'=>by
   obtain⟨i,hi⟩:=List.getElem?_of_mem hqm'
   have hil:=(List.getElem?_eq_some_iff.1 hi).1
   rw[List.length_take,List.length_append,hl.out] at hil
   simp only[List.length_cons,List.length_nil] at hil
   rw[List.getElem?_take_of_lt (by rw[hl.out,List.length_append];simp only[List.length_cons,List.length_nil];omega)] at hi
   refine⟨?_,List.mem_of_getElem? (i:=i) (by rw[List.getElem?_take_of_lt (by rw[hl.out];omega)];exact hi)⟩
   obtain⟨h1,e1⟩:=List.getElem?_eq_some_iff.1 hi
   obtain⟨h2,e2⟩:=List.getElem?_eq_some_iff.1 hqi
   have:=List.pairwise_iff_getElem.1 hR.out.apart i x' h1 h2 (by omega)
   rw[e1,e2] at this
   exact this
  have hRA:Zed V (f x'):=hrows _ (List.mem_of_getElem? (i:=m-1-pre'.length) (by rw[List.getElem?_take_of_lt (by rw[hl.out];show m-1-pre'.length<m-pre'.length;omega),← hp3];exact hqi))
  have hpl:(pre'++[x']).length=pre'.length+1:=by rw[List.length_append];rfl
  clear hp3
  generalize f x'=q at *
  obtain⟨hlv,hq5,hqpl⟩:=hq.out q hqm
  obtain⟨hql1,hql2,hql3,_⟩:=hR.out.ok q hqm
  have hrow:=hRA.use (by have:=SZ.out;have:=hIs;omega)
  obtain⟨ps,hps,hpo,hpi⟩:=Vw hrow
  have hrb:=Uc hRA
  have hrbw:∀ r,q.A.map (·.block)=some r→r<w.heap.size:=fun r e=>by have:=hrb r e;omega
  have hgb:q.A.map (·.block)≠some g:=fun e=>by
   cases hA':q.A with
   | none=>rw[hA'] at e;cases e
   | some a0 =>
    rw[hA'] at e hpo
    obtain⟨b,C,rfl,_,_,hgg,_⟩:=Z9 hpo
    obtain rfl:b=g:=Option.some.inj e
    unfold Ya at hg
    rw[hg] at hgg
    simp at hgg
  obtain⟨qs,hqs,hqo,hqi'⟩:=hFr.row
  have hfb:=hFr.at_
  have hmf:=hFr.pos
  have hm2:=hFr.few
  have hFl:=hFr.len
  obtain⟨rb,hrbe⟩:∃ rb,q.A.map (·.block)=rb:=⟨_,rfl⟩
  rw[hrbe] at hgb hrb hrbw
  have hgV:∀ W,V.grownBy W rb→∀ k,k<V.heap.size→rb≠some k→W.heap[k]? = V.heap[k]? := fun W hW k h1 h2=>hW.block k h1 (fun e=>h2 e.symm)
  have bne:∀ k,w.heap.size≤k→rb≠some k:=fun k h e=>by have:=hrbw k e;omega
  have HB3:=Za (fun W (hW:V.grownBy W rb)=>(hgV W hW _ (Array.getElem?_eq_some_iff.1 hB3).1 (bne _ (Nat.le_refl _))).trans hB3)
  have HB9:=Za (fun W (hW:V.grownBy W rb)=>(hgV W hW _ (Array.getElem?_eq_some_iff.1 hB9).1 (bne _ (by have:=SZ.out;omega))).trans hB9)
  have HG:=Za (fun W (hW:V.grownBy W rb)=>(hgV W hW _ (Array.getElem?_eq_some_iff.1 hg).1 hgb).trans hg)
  have HOut:Hid (∀ W,V.grownBy W rb→∀ p v,Out l0 w8.heap.size V p→V.cell? p=some v→Out l0 w8.heap.size W p∧W.cell? p=some v):=Za fun W hW p v hp hc=>by
   have hb:=hgV W hW p.block hp.2 (fun e=>by have h1:=hrb _ e;have h2:=hrbw _ e;rcases hp.1 with h | h <;> have:=SZ.out <;> omega)
   exact⟨⟨hp.1,by have:=hp.2;have:=hW.size;omega⟩,(World.cell?_of_block hb).trans hc⟩
  have HF:Hid (∀ W,V.grownBy W rb→Uo (Old W) W [.slice (some ⟨fb,0,none⟩) mf fc] F):=Za fun W hW=>by
   have hF2:=hFr.same (w':=W) hW.size fun k h1 h2=>hgV W hW k h1 (fun e=>by have h3:=hrb _ e;have h4:=hrbw _ e;rcases h2 with h | h | h <;> have:=SZ.out <;> omega)
   obtain⟨zs,e1,e2,e3⟩:=hF2.row
   have:=Zdr e2 (fun p hp=>⟨(e3 p hp).1,Zf _ _ _ _ _ _ (fun a v ha hc=>⟨ha.2,hc⟩) (e3 p hp).2⟩)
   rwa [e1] at this
  have HS:=Za (fun W (hW:V.grownBy W rb)=>(hSto.map fun p v hp hc=>⟨((HOut.out W hW p v hp hc).1).2,(HOut.out W hW p v hp hc).2⟩:Sto (Old W) W (.agg #[.slice pa.1 pa.2.1 pa.2.2,.slice pb.1 pb.2.1 pb.2.2,.slice pc.1 pc.2.1 pc.2.2,.slice pd.1 pd.2.1 pd.2.2]) sk))
  obtain⟨LL,hLL⟩:∃ LL,Xx q F=LL:=⟨_,rfl⟩
  have hmap:(ps.take q.pl++(qs++ps.drop (q.pl+if q.inst=true then 1 else 0))).map (·.1)=LL:=by
   rw[← hLL,List.map_append,List.map_append,List.map_take,List.map_drop,hps,hqs]
   rfl
  have hLlen:(ps.take q.pl++(qs++ps.drop (q.pl+if q.inst=true then 1 else 0))).length=LL.length:=by rw[← hmap,List.length_map]
  have HI:Hid (Calls Tryz.prog 77 #[.agg #[.int .i64 q.nd.1,.slice q.A q.nd.2.length q.c,.int .i64 (q.pl:Int),.bool q.inst],.slice (some ⟨fb,0,none⟩) mf fc] V.drew fun e W=>V.grownBy W rb∧V.heap.size<W.heap.size∧∃ A' c',e=.returned (.slice A' LL.length c')∧Uo (Old W) W [.slice A' LL.length c'] LL):=Za (by
   refine(Zj5 q.A q.lo w.heap.size q.nd.2.length q.c fb mf fc q.pl q.nd.1 q.inst ps qs V.drew hpo hqo (by rw[hrbe];exact bne _ hfb) hqpl hmf (by omega) (Zeu hpi) (Zeu hqi') (by have:=SZ.out;have:=hIs;show q.lo≤V.heap.size;omega)).mono ?_
   rintro e W ⟨⟨A',c',rfl,ho,hgW⟩,hsz⟩
   rw[hLlen] at ho ⊢
   have hgW':V.grownBy W rb:=by rw[← hrbe];exact Xj hgW
   refine⟨hgW',hsz,A',c',rfl,?_⟩
   have:=Zdr ho (fun p hp => ?_)
   ·rwa [hmap] at this
   ·have hnb:∀ a:Addr,∀ v,Xg q.lo q.A V a→V.cell? a=some v→Old W a∧W.cell? a=some v:=fun a v ha hc=>by
     have hb:=hgV W hgW' a.block ha.1.2.1 (fun e=>ha.2 (by rw[hrbe];exact e))
     exact⟨by unfold Old;have:=ha.1.2.1;have:=hgW'.size;omega,(World.cell?_of_block hb).trans hc⟩
    rcases List.mem_append.1 hp with hp | hp
    ·exact⟨(hpi p (List.mem_of_mem_take hp)).1,Zf _ _ _ _ _ _ hnb (hpi p (List.mem_of_mem_take hp)).2⟩
    ·rcases List.mem_append.1 hp with hp | hp
     ·exact⟨(hqi' p hp).1,Zf _ _ _ _ _ _ (fun a v ha hc=>⟨((HOut.out W hgW' a v ha hc).1).2,(HOut.out W hgW' a v ha hc).2⟩) (hqi' p hp).2⟩
     ·exact⟨(hpi p (List.mem_of_mem_drop hp)).1,Zf _ _ _ _ _ _ hnb (hpi p (List.mem_of_mem_drop hp)).2⟩)
  have hL0:0<LL.length:=by
   rw[← hLL]
   unfold Xx
   simp only[List.length_append]
   omega
  have HL:Hid (∀ W A' c',V.grownBy W rb→Uo (Old W) W [.slice A' LL.length c'] LL→Calls Tryz.prog 76 #[.agg #[.slice pa.1 pa.2.1 pa.2.2,.slice pb.1 pb.2.1 pb.2.2,.slice pc.1 pc.2.1 pc.2.2,.slice pd.1 pd.2.1 pd.2.2],.int .i64 q.nd.1,.slice A' LL.length c',.slice (some ⟨fb,0,none⟩) mf fc] W (Z24 sk q.nd.1 LL F W)):=Za fun W A' c' hW hI=>Zwf pa pb pc pd sk q.nd.1 hlv A' LL.length c' LL (some ⟨fb,0,none⟩) mf fc F W (HS.out W hW) hI (HF.out W hW) rfl hL0 hFl (by omega)
  rw[hLL] at hst
  have hsm:=Za (fun h:(Vr sk q.nd.1 LL F).1=0=>Zov h)
  obtain⟨er,her⟩:∃ e,(Vr sk q.nd.1 LL F).1=e:=⟨_,rfl⟩
  obtain⟨S',hS'⟩:∃ e,(Vr sk q.nd.1 LL F).2.1=e:=⟨_,rfl⟩
  obtain⟨up,hup⟩:∃ e,(Vr sk q.nd.1 LL F).2.2=e:=⟨_,rfl⟩
  unfold Z24 at HL
  rw[her,hS',hup] at hst HL
  rw[her,hup] at hsm
  obtain⟨len,hlen⟩:∃ e,LL.length=e:=⟨_,rfl⟩
  rw[hlen] at HI HL hL0
  obtain⟨nu,hnu⟩:∃ e,up.length=e:=⟨_,rfl⟩
  rw[hnu] at HL hsm
  have hqr:=Za hrows
  have hIb':=Za hIb
  have hIs':=Za hIs
  have hrb':=Za hrb
  have hrbw':=Za hrbw
  have hgV':=Za hgV
  have hb6:=Za hB6
  have hb7:=Za hB7
  have hb8:=Za hB8
  replace hst:=Za hst
  replace hgr:=Za hgr
  replace hpl:=Za hpl
  replace her:=Za her
  replace hS':=Za hS'
  replace hup:=Za hup
  replace hlen:=Za hlen
  replace hnu:=Za hnu
  replace hrbe:=Za hrbe
  replace hrv:=Za hrv
  replace hqm:=Za hqm
  replace hk:=Za hk
  replace hlv:=Za hlv
  clear hrows hIb hIs hrb hrbw hgV hB6 hB7 hB8 hB3 hB9 hg hSto hFr hqs hqo hqi' hps hpo hpi hmap hLlen hLL hRA hrow hgb bne hqpl hq5 hqi hfb hmf hm2 hFl hL0
  generalize q.nd.1=q1 at *
  generalize q.nd.2.length=q3 at *
  gi_wp2_with fail
  refine Zir ?_
  refine V0 ⟨fun W W'=>Below W.heap.size W W'∨(W=V.drew∧V.grownBy W' rb∧V.heap.size<W'.heap.size),6,fun W=>W=V.drew⟩ (ops' := ?opsLate) (by kernel_rfl) [(13,11),(13,12),(14,12)] ?he (by kernel_rfl) (by kernel_rfl) (fun _ _ _ _ _ h=>h) (fun⟨_,_,h⟩=>h) 13 (fun W=>V.grownBy W rb) (fun i=>match i with
   | 6=>some (PhI V len LL)
   | 8=>some (PhL V nu er S' up)
   | 9=>some (PhL V nu er S' up)
   | 10=>some (PhS V S')
   | 11=>some (PhM V nu up)
   | _=>none) (fun i=>match i with
   | 12=>some (.int .i64 er)
   | _=>none) ?h1 ?h2 ?h3 rfl ?hon ⟨rfl,rfl,rfl,Nat.le_refl _,fun _ _ _=>rfl⟩ ?hcb ?tst ?_
  case he =>
   simp[Z4]
   rfl
  case h1=>decide
  case h2=>kernel_rfl
  case h3=>kernel_rfl
  case hon=>kernel_rfl
  case hcb =>
   intro W W' h hr
   rcases hr with hb | ⟨_,hg,_⟩
   ·exact Ve h hb
   ·exact hg
  case tst =>
   intro j φ v W W' hp hx hr
   have hbl:V.heap.size<W.heap.size→Below W.heap.size W W':=fun h=>by
    rcases hr with hb | ⟨rfl,_⟩
    ·exact hb
    ·exact absurd h (Nat.lt_irrefl _)
   match j,hp with
   | 6,hp =>
    cases hp
    obtain⟨h0,A',c',e,h1⟩:=hx
    exact⟨Nat.lt_of_lt_of_le h0 (hbl h0).size,A',c',e,Xc.old h1 (hbl h0)⟩
   | 8,hp =>
    cases hp
    obtain⟨h0,qa,qb,qc,qd,M,mc,e,h1,h2⟩:=hx
    exact⟨Nat.lt_of_lt_of_le h0 (hbl h0).size,qa,qb,qc,qd,M,mc,e,h1.new (Nat.le_refl _) (hbl h0),h2.below Z3 (hbl h0)⟩
   | 9,hp =>
    cases hp
    obtain⟨h0,qa,qb,qc,qd,M,mc,e,h1,h2⟩:=hx
    exact⟨Nat.lt_of_lt_of_le h0 (hbl h0).size,qa,qb,qc,qd,M,mc,e,h1.new (Nat.le_refl _) (hbl h0),h2.below Z3 (hbl h0)⟩
   | 10,hp =>
    cases hp
    obtain⟨h0,qa,qb,qc,qd,e,h1⟩:=hx
    exact⟨Nat.lt_of_lt_of_le h0 (hbl h0).size,qa,qb,qc,qd,e,h1.new (Nat.le_refl _) (hbl h0)⟩
   | 11,hp =>
    cases hp
    obtain⟨h0,M,mc,e,h2⟩:=hx
    exact⟨Nat.lt_of_lt_of_le h0 (hbl h0).size,M,mc,e,h2.below Z3 (hbl h0)⟩
  simp only[List.take_succ_cons,List.take_zero,List.drop_succ_cons,List.drop_zero]
  repeat (first
   | (refine Rk.wpAs_skip rfl ?_;simp only[Act.put,Zb,Zc,Zd])
   | (refine Rk.wpAs_pure (v := ?_) rfl rfl ?_ ?_;rotate_left;(intro W hC hE;clear hE;(obtain⟨k0,k1,k2,k3,_⟩:=Ze (HB3.out W hC);obtain⟨g0,g1,g2,g3,_⟩:=Ze (HG.out W hC);obtain⟨n0,_⟩:=Zm (HB9.out W hC));clear hC;go_simp;first | done | with_reducible rfl);simp only[Act.put,Zb,Zc,Zd]))
  refine Rk.wpAs_act rfl rfl ?_ ?_
  ·intro W hC hk6 hE
   obtain rfl:=hk6 rfl
   clear hE
   refine Rb.does_enter (f:=77) (args:=#[.agg #[.int .i64 q1,.slice q.A q3 q.c,.int .i64 (q.pl:Int),.bool q.inst],.slice (some ⟨fb,0,none⟩) mf fc]) ?_ ?_
   ·go_simp
   ·refine(HI.out).mono ?_
    rintro e W' ⟨h1,h2,A',c',rfl,h3⟩
    exact⟨_,rfl,⟨h2,A',c',rfl,h3⟩,.inr ⟨rfl,h1,h2⟩⟩
  simp only[Act.put,Zb,Zc,Zd,Rb.envAdd]
  intro x25
  repeat (first
   | (refine Rk.wpAs_skip rfl ?_;simp only[Act.put,Zb,Zc,Zd])
   | (refine Rk.wpAs_pure (v := ?_) rfl rfl ?_ ?_;rotate_left;(intro W hC hE;clear hE;(obtain⟨n0,_⟩:=Zm (HB9.out W hC));clear hC;go_simp;first | done | with_reducible rfl);simp only[Act.put,Zb,Zc,Zd]))
  refine Rk.wpAs_act rfl rfl ?_ ?_
  ·intro W hC _ hE
   obtain⟨h0,A',c',rfl,hI⟩:=hE.1 _ rfl rfl
   clear hE
   refine Rb.does_enter (f:=76) (args:=#[.agg #[.slice pa.1 pa.2.1 pa.2.2,.slice pb.1 pb.2.1 pb.2.2,.slice pc.1 pc.2.1 pc.2.2,.slice pd.1 pd.2.1 pd.2.2],.int .i64 q1,.slice A' len c',.slice (some ⟨fb,0,none⟩) mf fc]) ?_ ?_
   ·clear hI
    go_simp
   ·refine(HL.out W A' c' hC hI).mono ?_
    rintro e W' ⟨qa,qb,qc,qd,M,mc,rfl,h1,h2,hb⟩
    exact⟨_,rfl,⟨Nat.lt_of_lt_of_le h0 hb.size,qa,qb,qc,qd,M,mc,rfl,h1.new (Nat.le_of_lt h0) (Below.refl _ _),h2.low Z3 (Nat.le_of_lt h0)⟩,.inl hb⟩
  simp only[Act.put,Zb,Zc,Zd,Rb.envAdd]
  intro x27
  refine Rk.wpAs_act rfl rfl ?_ ?_
  ·intro W hC _ hE
   have hx:Hid (PhL V nu er S' up x27 W):=Za (hE.1 _ rfl rfl)
   clear hE
   go_simp
   exact⟨hx.out,.inl (Below.refl _ _)⟩
  simp only[Act.put,Zb,Zc,Zd,Rb.envAdd]
  intro x18
  refine Rk.wpAs_act rfl rfl ?_ ?_
  ·intro W hC _ hE
   obtain⟨h0,qa,qb,qc,qd,M,mc,rfl,h1,h2⟩:=hE.1 _ rfl rfl
   clear hE
   have H1:=Za h1
   have H0:=Za h0
   clear h1 h2 h0
   go_simp
   exact⟨⟨H0.out,qa,qb,qc,qd,rfl,H1.out⟩,.inl (Below.refl _ _)⟩
  simp only[Act.put,Zb,Zc,Zd,Rb.envAdd]
  intro x28
  refine Rk.wpAs_act rfl rfl ?_ ?_
  ·intro W hC _ hE
   obtain⟨h0,qa,qb,qc,qd,M,mc,rfl,h1,h2⟩:=hE.2.1 _ rfl rfl
   clear hE
   have H2:=Za h2
   have H0:=Za h0
   clear h1 h2 h0
   go_simp
   exact⟨⟨H0.out,M,mc,rfl,H2.out⟩,.inl (Below.refl _ _)⟩
  simp only[Act.put,Zb,Zc,Zd,Rb.envAdd]
  intro x29
  refine Rk.wpAs_fixed rfl rfl rfl ?_ ?_
  ·intro W hC hE
   obtain⟨h0,qa,qb,qc,qd,M,mc,rfl,h1,h2⟩:=hE.2.2.1 _ rfl rfl
   clear hE h0 h1 h2
   go_simp
   exact⟨rfl,.inl (Below.refl _ _)⟩
  simp only[Act.put,Zb,Zc,Zd]
  repeat (first
   | (refine Rk.wpAs_skip rfl ?_;simp only[Act.put,Zb,Zc,Zd])
   | (refine Rk.wpAs_pure (v := ?_) rfl rfl ?_ ?_;rotate_left;(intro W hC hE;clear hE;skip;clear hC;go_simp;first | done | with_reducible rfl);simp only[Act.put,Zb,Zc,Zd]))
  refine Rk.wpAs_end fun W hC hE => ?_
  obtain⟨⟨h0,M,mc,rfl,hrow⟩,⟨_,va,vb,vc,vd,rfl,hS⟩,_⟩:=hE
  have hWs:=hC.size
  have keep:∀ k,w.heap.size≤k→k<V.heap.size→W.heap[k]? = V.heap[k]? := fun k h1 h2=>hgV'.out W hC k h2 (fun e=>by have:=hrbw'.out k e;omega)
  have c3:=HB3.out W hC
  have c9:=HB9.out W hC
  have c8:Ya w4.heap.size #[.int .i64 0] 33 W:=(keep _ (by have:=SZ.out;omega) (Array.getElem?_eq_some_iff.1 hb8.out).1).trans hb8.out
  have c6:Ya w2.heap.size #[.slice none 0 0,.slice none 0 0,.slice none 0 0,.slice none 0 0] 29 W:=(keep _ (by have:=SZ.out;omega) (Array.getElem?_eq_some_iff.1 hb6.out).1).trans hb6.out
  have c7:Ya w3.heap.size #[.int .i64 0] 3 W:=(keep _ (by have:=SZ.out;omega) (Array.getElem?_eq_some_iff.1 hb7.out).1).trans hb7.out
  obtain⟨W1,hW1,d3,gr1,gs1⟩:=Zs (a':=.slice va.1 va.2.1 va.2.2) (b':=.slice vb.1 vb.2.1 vb.2.2) (c':=.slice vc.1 vc.2.1 vc.2.2) (d':=.slice vd.1 vd.2.1 vd.2.2) c3
  have c91:Ya w6.heap.size _ 39 W1:=(gr1.block _ (Array.getElem?_eq_some_iff.1 c9).1 (fun e=>by have:=Option.some.inj e;have:=SZ.out;omega)).trans c9
  obtain⟨W2,hW2,d9,gr2,gs2⟩:=Xo (u:=.slice M nu mc) c91
  have c82:Ya w4.heap.size #[.int .i64 0] 33 W2:=(gr2.block _ (by rw[gs1];exact(Array.getElem?_eq_some_iff.1 c8).1) (fun e=>by have:=Option.some.inj e;have:=SZ.out;omega)).trans ((gr1.block _ (Array.getElem?_eq_some_iff.1 c8).1 (fun e=>by have:=Option.some.inj e;have:=SZ.out;omega)).trans c8)
  obtain⟨W3,hW3,d8,gr3,gs3⟩:=Xo (u:=.int .i64 er) c82
  obtain⟨m0,m1,m2,m3,mf,_⟩:=Ze c3
  obtain⟨n0,nf,_⟩:=Zm c91
  obtain⟨y0,yf,_⟩:=Zm c82
  obtain⟨y3,_,_⟩:=Zm d8
  have all3:∀ k,k<W.heap.size→k≠w.heap.size→k≠w6.heap.size→k≠w4.heap.size→W3.heap[k]? = W.heap[k]? := fun k h1 h2 h3 h4 =>
   (gr3.block k (by omega) (fun e=>h4 (Option.some.inj e))).trans ((gr2.block k (by omega) (fun e=>h3 (Option.some.inj e))).trans (gr1.block k h1 (fun e=>h2 (Option.some.inj e))))
  have hs3':W3.heap.size=W.heap.size:=by omega
  have kpt:Hid (Vg (fun k=>k=w.heap.size∨k=w2.heap.size∨k=w3.heap.size∨k=w4.heap.size∨k=w6.heap.size∨∃ q∈l,q.A.map (·.block)=some k) none none V W3):=Za ((((Vg.refl _ _ _).grown hC fun r e=>.inr (.inr (.inr (.inr (.inr (.inr ⟨q,hqm.out,by rw[hrbe.out,e]⟩)))))).grown gr1 fun r e=>by cases e;exact .inr (.inl rfl)).grown gr2 (fun r e=>by cases e;exact .inr (.inr (.inr (.inr (.inr (.inl rfl)))))) |>.grown gr3 fun r e=>by cases e;exact .inr (.inr (.inr (.inr (.inl rfl)))))
  have hrlo:∀ r,rb=some r→lo≤r:=fun r e=>by have:=hrb'.out r e;omega
  have hb3:Hid (Below lo w W3∧w8.heap.size≤W3.heap.size):=Za ⟨(((hIb'.out.grown hC (by have:=hIs'.out;have:=SZ.out;omega) hrlo).grown gr1 (by have:=hIs'.out;have:=SZ.out;omega) (fun k e=>by cases e;omega)).grown gr2 (by have:=hIs'.out;have:=SZ.out;omega) (fun k e=>by cases e;have:=SZ.out;omega)).grown gr3 (by have:=hIs'.out;have:=SZ.out;omega) (fun k e=>by cases e;have:=SZ.out;omega),by have:=hIs'.out;omega⟩
  have z6:Hid (Ya w2.heap.size #[.slice none 0 0,.slice none 0 0,.slice none 0 0,.slice none 0 0] 29 W3):=Za ((all3 _ (Array.getElem?_eq_some_iff.1 c6).1 (by have:=SZ.out;omega) (by have:=SZ.out;omega) (by have:=SZ.out;omega)).trans c6)
  have z7:Hid (Ya w3.heap.size #[.int .i64 0] 3 W3):=Za ((all3 _ (Array.getElem?_eq_some_iff.1 c7).1 (by have:=SZ.out;omega) (by have:=SZ.out;omega) (by have:=SZ.out;omega)).trans c7)
  have z8:Hid (Ya w4.heap.size #[.int .i64 er] 33 W3):=Za d8
  have z3:Hid (Ya w.heap.size #[.slice va.1 va.2.1 va.2.2,.slice vb.1 vb.2.1 vb.2.2,.slice vc.1 vc.2.1 vc.2.2,.slice vd.1 vd.2.1 vd.2.2] 29 W3):=Za ((gr3.block _ (by have:=SZ.out;have:=hIs'.out;omega) (fun e=>by have:=Option.some.inj e;have:=SZ.out;omega)).trans ((gr2.block _ (by have:=SZ.out;have:=hIs'.out;omega) (fun e=>by have:=Option.some.inj e;have:=SZ.out;omega)).trans d3))
  have z9:Hid (Ya w6.heap.size #[.slice M nu mc] 39 W3):=Za ((gr3.block _ (by have:=SZ.out;have:=hIs'.out;omega) (fun e=>by have:=Option.some.inj e;have:=SZ.out;omega)).trans d9)
  have big:∀ k,V.heap.size≤k→k<W.heap.size→W3.heap[k]? = W.heap[k]? := fun k h1 h2=>all3 k h2 (by have:=hIs'.out;have:=SZ.out;omega) (by have:=hIs'.out;have:=SZ.out;omega) (by have:=hIs'.out;have:=SZ.out;omega)
  have hS3:Hid (Sto (Out l0 w8.heap.size W3) W3 (.agg #[.slice va.1 va.2.1 va.2.2,.slice vb.1 vb.2.1 vb.2.2,.slice vc.1 vc.2.1 vc.2.2,.slice vd.1 vd.2.1 vd.2.2]) S'):=Za (hS.map fun p v hp hc=>⟨⟨.inr (by have:=hIs'.out;have:=hp.1;omega),by have:=hp.2.1;omega⟩,(World.cell?_of_block (big _ hp.1 hp.2.1)).trans hc⟩)
  have hF3:Hid (0<nu→nu≤2→∃ fb',M=some ⟨fb',0,none⟩∧FrB l0 w.heap.size w8.heap.size W3 fb' nu mc up):=Za fun h1 h2=>by
   obtain⟨zs,e1,e2,e3⟩:=Vw hrow
   rw[hnu.out] at e2
   obtain⟨ad',rfl⟩:∃ ad',M=some ad':=by
    obtain⟨_,_,e,_,_,_,h5⟩:=Ye e2
    cases e
    exact h5 h1
   obtain⟨b,C,rfl,hb1,hb2,hg1,hn1,hn2,hn3,hn4⟩:=Z9 e2
   refine⟨b,rfl,hnu.out,h1,h2,by have:=hIs'.out;have:=SZ.out;omega,zs,e1,Xd (by have:=hIs'.out;have:=SZ.out;omega) ((big b hb1 hb2).trans hg1) hn1 hn2 hn3 hn4,fun p hp=>⟨(e3 p hp).1,Zf _ _ _ _ _ _ (fun a v ha hc=>⟨⟨.inr (by have:=hIs'.out;have:=ha.1.1;omega),by have:=ha.1.2.1;omega⟩,(World.cell?_of_block (big _ ha.1.1 ha.1.2.1)).trans hc⟩) (e3 p hp).2⟩⟩
  have hR3:Hid (∀ q'∈l.take (l.length-(pre'++[x']).length),Zed W3 q'):=Za fun q' hq'=>by
   obtain⟨h1,h2⟩:=hidx.out q' hq'
   refine(hqr.out q' h2).same fun k h3 h4 => ?_
   have h5:=(hR.out.ok q' (List.mem_of_mem_take h2)).2.2.1
   rw[all3 k (by have:=SZ.out;have:=hIs'.out;omega) (by omega) (by have:=SZ.out;omega) (by have:=SZ.out;omega)]
   exact hgV'.out W hC k (by have:=SZ.out;have:=hIs'.out;omega) (fun e=>by have:=hrb'.out k e;omega)
  have hgA:Hid (Xh l.reverse s [x]=if er=0 then Xh (l.reverse.drop (pre'++[x']).length) S' up else (er,Zh,[])):=Za (by rw[hpl.out,hgr.out,hst.out])
  replace all3:=Za all3
  replace hs3':=Za hs3'
  replace d3:=Za d3
  replace d8:=Za d8
  replace d9:=Za d9
  replace gr1:=Za gr1
  replace gr2:=Za gr2
  replace gr3:=Za gr3
  replace hWs:=Za hWs
  replace gs1:=Za gs1
  replace gs2:=Za gs2
  replace gs3:=Za gs3
  clear keep c3 c9 c8 c6 c7 c91 c82 big hrow hS h0 hrlo hC
  go_wp2_with fail
  simp only[Ztt]
  by_cases he0:er=0
  ·have hgo:Hid (Xh l.reverse s [x]=Xh (l.reverse.drop (pre'++[x']).length) S' up):=Za (by rw[hgA.out,if_pos he0])
   obtain⟨hu1,hu2⟩:=hsm.out he0
   obtain⟨fb',rfl,hfr'⟩:=hF3.out hu1 hu2
   have hfin:Hid (GrI l0 lo w.heap.size w8.heap.size w.heap.size w2.heap.size w3.heap.size w4.heap.size w6.heap.size w s x l (pre'++[x'],none) W3):=Za ⟨rfl,hb3.out,⟨z6.out,z7.out,by have:=z8.out;rwa [he0] at this⟩,S',up,va,vb,vc,vd,fb',nu,mc,hgo.out,z3.out,hS3.out,z9.out,hfr',hR3.out⟩
   subst he0
   clear hfr'
   gi_wp2_with fail
   exact⟨none,kpt.out.wide fun k _ h=>by simpa using h,hfin.out⟩
  ·have t0:(er != 0)=true:=by simpa using he0
   have hgo:Hid (Xh l.reverse s [x]=(er,Zh,[])):=Za (by rw[hgA.out,if_neg he0])
   replace he0:=Za he0
   have e6:=z6.out
   have e7:=z7.out
   have e8:=z8.out
   obtain⟨m0,m1,m2,m3,mf,_⟩:=Ze e6
   obtain⟨n0,nf,_⟩:=Zm e7
   obtain⟨y0,yf,_⟩:=Zm e8
   have S6:=Za (show ∀ W:World,W=W3.drew→(((W.setCell ⟨w2.heap.size,0,none⟩ (.slice none 0 0)).setCell ⟨w2.heap.size,1,none⟩ (.slice none 0 0)).setCell ⟨w2.heap.size,2,none⟩ (.slice none 0 0)).setCell ⟨w2.heap.size,3,none⟩ (.slice none 0 0)=W from fun W e=>by
    subst e
    rw[Z0 (W:=W3.drew) e6 rfl,Z0 (W:=W3.drew) e6 rfl,Z0 (W:=W3.drew) e6 rfl,Z0 (W:=W3.drew) e6 rfl])
   have S7:=Za (show ∀ W:World,W=W3.drew→W.setCell ⟨w3.heap.size,0,none⟩ (.int .i64 0)=W from fun W e=>by subst e;exact Z0 (W:=W3.drew) e7 rfl)
   have S8:=Za (show ∀ W:World,W=W3.drew→W.setCell ⟨w4.heap.size,0,none⟩ (.int .i64 er)=W from fun W e=>by subst e;exact Z0 (W:=W3.drew) e8 rfl)
   have hfin:Hid (GrX lo w8.heap.size w2.heap.size w3.heap.size w4.heap.size w s x l .ret (pre'++[x'],none) W3.drew):=Za ⟨rfl,rfl,⟨hb3.out.1.drew,hb3.out.2⟩,er,e6,e7,e8,hgo.out,he0.out⟩
   have kp3:Hid (Vg (fun k=>k=w.heap.size∨k=w2.heap.size∨k=w3.heap.size∨k=w4.heap.size∨k=w6.heap.size∨∃ q∈l,q.A.map (·.block)=some k) none none V W3.drew):=Za ⟨kpt.out.size,kpt.out.same⟩
   clear e6 e7 e8
   gi_wp2_with fail
   refine Zir ?_
   clear m0 m1 m2 m3 mf n0 nf y0 yf
   refine V0 ⟨fun W W'=>W'=W,2,fun _=>True⟩ (ops' := ?opsLate6) (by kernel_rfl) [] ?he6 (by kernel_rfl) (by kernel_rfl) (fun _ _ _ _ _ h=>h) (fun⟨_,_,h⟩=>h) 5 (fun W=>W=W3.drew) (fun _=>none) (fun i=>match i with
    | 2=>some undef
    | 3=>some undef
    | 4=>some undef
    | _=>none) ?h61 ?h62 ?h63 trivial ?hon6 rfl (fun _ _ h e=>e.trans h) (fun _ _ _ _ _ hp=>by cases hp) ?_
   case he6 =>
    simp[Z4]
    rfl
   case h61=>decide
   case h62=>kernel_rfl
   case h63=>kernel_rfl
   case hon6=>kernel_rfl
   simp only[List.take_succ_cons,List.take_zero,List.drop_succ_cons,List.drop_zero]
   repeat (first
    | (refine Rk.wpAs_skip rfl ?_;simp only[Act.put,Zb,Zc,Zd])
    | (refine Rk.wpAs_pure (v := ?_) rfl rfl ?_ ?_;rotate_left;(intro W hC hE;clear hE;(have hC':=hC;subst hC';obtain⟨y0,yf,_⟩:=Zm z8.out);clear hC;go_simp;first | done | with_reducible rfl);simp only[Act.put,Zb,Zc,Zd]))
   refine Rk.wpAs_fixed rfl rfl rfl ?_ ?_
   ·intro W hC hE
    clear hE
    have hh:=Za (S6.out W hC)
    have e6:Ya w2.heap.size #[.slice none 0 0,.slice none 0 0,.slice none 0 0,.slice none 0 0] 29 W:=by rw[hC];exact z6.out
    obtain⟨m0,m1,m2,m3,mf,_⟩:=Ze e6
    clear hC e6
    go_simp
    first | exact⟨rfl,hh.out⟩ | exact hh.out
   simp only[Act.put]
   refine Rk.wpAs_fixed rfl rfl rfl ?_ ?_
   ·intro W hC hE
    clear hE
    have hh:=Za (S7.out W hC)
    have e6:Ya w3.heap.size #[.int .i64 0] 3 W:=by rw[hC];exact z7.out
    obtain⟨m0,mf,_⟩:=Zm e6
    clear hC e6
    go_simp
    first | exact⟨rfl,hh.out⟩ | exact hh.out
   simp only[Act.put]
   refine Rk.wpAs_fixed rfl rfl rfl ?_ ?_
   ·intro W hC hE
    clear hE
    have hh:=Za (S8.out W hC)
    have e6:Ya w4.heap.size #[.int .i64 er] 33 W:=by rw[hC];exact z8.out
    obtain⟨m0,mf,_⟩:=Zm e6
    clear hC e6
    go_simp
    first | exact⟨rfl,hh.out⟩ | exact hh.out
   simp only[Act.put]
   refine Rk.wpAs_end fun W hC hE => ?_
   subst hC
   go_wp2_with fail
   simp only[Ztt]
   gi_wp2_with fail
   exact⟨none,kp3.out.wide fun k _ h=>by simpa using h,hfin.out⟩
 case done =>
  rintro xs q' V hVs rfl ⟨_,⟨hIb,hIs⟩,⟨hB6,hB7,hB8⟩,sk,F,pa,pb,pc,pd,fb,mf,fc,hgr,hB3,hSto,hB9,hFr,_⟩ hDV hqV
  have hgA:Hid (Xh l.reverse s [x]=(0,sk,F)):=Za (by
   rw[hgr,Yv,List.drop_of_length_le (by rw[List.length_reverse,hl.out];exact Nat.le_refl _)]
   rfl)
  have hmf:=hFr.pos
  have hm2:=hFr.few
  have hFl:=hFr.len
  have hD1:=Za hDV
  have hIts:Uo (Old V) V [.slice (some ⟨fb,0,none⟩) mf fc] F:=by
   obtain⟨zs,e1,e2,e3⟩:=hFr.row
   have:=Zdr e2 (fun p hp=>⟨(e3 p hp).1,Zf _ _ _ _ _ _ (fun a v ha hc=>⟨ha.2,hc⟩) (e3 p hp).2⟩)
   rwa [e1] at this
  have hSV:Sto (Old V) V (.agg #[.slice pa.1 pa.2.1 pa.2.2,.slice pb.1 pb.2.1 pb.2.2,.slice pc.1 pc.2.1 pc.2.2,.slice pd.1 pd.2.1 pd.2.2]) sk:=hSto.map fun p v hp hc=>⟨hp.2,hc⟩
  obtain⟨k0,k1,k2,k3,kf,_⟩:=Ze hB3
  obtain⟨n0,nf,_⟩:=Zm hB9
  obtain⟨y0,yf,_⟩:=Zm hB8
  replace hgA:=hgA
  have hidx:∃ x0 r0,F=x0::r0:=by
   cases F with
   | nil=>simp at hFl;omega
   | cons a b=>exact⟨a,b,rfl⟩
  obtain⟨x0,r0,hF0⟩:=hidx
  obtain⟨ad0,E0,ce0,e0,_,⟨_,_,_,z3,_⟩,_⟩:=Zaj hIts (show F[0]? = some x0 by rw[hF0];rfl)
  cases e0
  have hnow:Zfk F=x0.2.1:=by rw[hF0];rfl
  have z3':V.cell? ⟨fb,3,none⟩=some (.int .i64 x0.2.1):=by simpa [Addr.add] using z3
  have hfbh:=hFr.at_
  have g6:=Za hB6
  have g7:=Za hB7
  by_cases h1:mf=1
  ·subst h1
   obtain⟨ref,href⟩:∃ r,x0.2.1=r:=⟨_,rfl⟩
   have hcell:=Za (href ▸ z3')
   obtain⟨S9,hSk⟩:∃ S,sk=S:=⟨_,rfl⟩
   have hO:Hid (Xa s l x=(0,S9,ref)):=Za (by unfold Xa;rw[hgA.out,if_pos rfl,if_neg (by rw[hFl];decide),hnow,href,hSk])
   have g3:=Za hB3
   have g9:=Za hB9
   have g8:=Za hB8
   have hD9:=hD1
   have hB9':=Za hIb
   have hS9:=Za (hSk ▸ hSto)
   have hfbn:Hid (fb≠w2.heap.size∧fb≠w3.heap.size):=Za (by
    have hne:∀ (k:Nat) (cs:Array Value) (t:TypeId),t≠54→V.heap[k]? = some (.cells cs t (0,0))→fb≠k:=fun k cs t ht hk e=>by
     subst e
     obtain⟨zs,_,e2,_⟩:=hFr.row
     obtain⟨b,C,eb,_,_,hgg,_⟩:=Z9 e2
     cases eb
     rw[hk] at hgg
     simp at hgg
     exact ht hgg.2
    exact⟨hne _ _ _ (by decide) hB6,hne _ _ _ (by decide) hB7⟩)
   replace hSk:=Za hSk
   replace href:=Za href
   replace hnow:=Za hnow
   replace hF0:=Za hF0
   replace hFl:=Za hFl
   clear hgr z3 z3' hIts hSV hSto hFr hB3 hB9 hB8 hB6 hB7 hDV hqV hIb hmf hm2
   gi_wp2_with fail
   clear k0 k1 k2 k3 kf n0 nf y0 yf
   obtain⟨o6,ho6⟩:∃ o:Obj,o=.cells #[.slice pa.1 pa.2.1 pa.2.2,.slice pb.1 pb.2.1 pb.2.2,.slice pc.1 pc.2.1 pc.2.2,.slice pd.1 pd.2.1 pd.2.2] 29 (0,0):=⟨_,rfl⟩
   obtain⟨o7,ho7⟩:∃ o:Obj,o=.cells #[.int .i64 ref] 3 (0,0):=⟨_,rfl⟩
   obtain⟨fin,hfn⟩:∃ fin,fin=Zfp w2.heap.size o6 w3.heap.size o7:=⟨_,rfl⟩
   have fn6:fin w2.heap.size=some o6:=by rw[hfn];exact Zey _ _ _ _
   have fn7:fin w3.heap.size=some o7:=by rw[hfn];exact Zer (by have:=SZ.out;omega) _ _
   have fnn:∀ k,k≠w2.heap.size→k≠w3.heap.size→fin k=none:=fun k h1 h2=>by rw[hfn];exact Zdb h1 h2 _ _
   have K3:=Za (fun W (hW:Yi fin V.drew W)=>(hW.other (fnn w.heap.size (by have:=SZ.out;omega) (by have:=SZ.out;omega)) (show V.drew.heap[w.heap.size]? = _ from g3.out):Ya w.heap.size #[.slice pa.1 pa.2.1 pa.2.2,.slice pb.1 pb.2.1 pb.2.2,.slice pc.1 pc.2.1 pc.2.2,.slice pd.1 pd.2.1 pd.2.2] 29 W))
   have K9:=Za (fun W (hW:Yi fin V.drew W)=>(hW.other (fnn w6.heap.size (by have:=SZ.out;omega) (by have:=SZ.out;omega)) (show V.drew.heap[w6.heap.size]? = _ from g9.out):Ya w6.heap.size #[.slice (some ⟨fb,0,none⟩) 1 fc] 39 W))
   have K8:=Za (fun W (hW:Yi fin V.drew W)=>(hW.other (fnn w4.heap.size (by have:=SZ.out;omega) (by have:=SZ.out;omega)) (show V.drew.heap[w4.heap.size]? = _ from g8.out):Ya w4.heap.size #[.int .i64 0] 33 W))
   have KD:=Za (fun W (hW:Yi fin V.drew W)=>(hW.other (fnn w8.heap.size (by have:=SZ.out;omega) (by have:=SZ.out;omega)) (show V.drew.heap[w8.heap.size]? = _ from hD9.out):W.heap[w8.heap.size]? = some (.deferred (some []))))
   have KF:Hid (∀ W,Yi fin V.drew W→W.cell? ⟨fb,3,none⟩=some (.int .i64 ref)):=Za fun W hW=>by
    have hc:=hcell.out
    unfold World.cell? at hc
    split at hc
    ·rename_i cs ty fz hb
     have:=hW.other (fnn fb hfbn.out.1 hfbn.out.2) (show V.drew.heap[fb]? = _ from hb)
     unfold World.cell?
     simp only[this]
     exact hc
    ·cases hc
   have K6:Hid (∀ W,Yi fin V.drew W→∃ a b c d,W.heap[w2.heap.size]? = some (.cells #[a,b,c,d] 29 (0,0))):=Za fun W hW=>by
    rcases hW.box fn6 (show V.drew.heap[w2.heap.size]? = _ from g6.out) with e | e
    ·exact⟨_,_,_,_,e⟩
    ·rw[ho6] at e;exact⟨_,_,_,_,e⟩
   have K7:Hid (∀ W,Yi fin V.drew W→∃ a,W.heap[w3.heap.size]? = some (.cells #[a] 3 (0,0))):=Za fun W hW=>by
    rcases hW.box fn7 (show V.drew.heap[w3.heap.size]? = _ from g7.out) with e | e
    ·exact⟨_,e⟩
    ·rw[ho7] at e;exact⟨_,e⟩
   have KB:=Za (fun W (hW:Yi fin V.drew W)=>(⟨hW.os.trans hB9'.out.os,hW.tape.trans hB9'.out.tape,hW.output.trans hB9'.out.output,Nat.le_trans hB9'.out.size hW.size,fun k hk=>by
    rcases hW.block k (by have:=hB9'.out.size;show k<V.heap.size;omega) with e | ⟨o,e,_⟩
    ·exact e.trans (hB9'.out.block k hk)
    ·rw[fnn k (by have:=SZ.out;omega) (by have:=SZ.out;omega)] at e
     cases e⟩:Below lo w W))
   have KS:=Za (fun W (hW:Yi fin V.drew W)=>(hS9.out.map fun p v hp hc=>(show Out l0 w8.heap.size W p∧W.cell? p=some v from by
    rcases hW.block p.block hp.2 with e | ⟨o,e,_⟩
    ·exact⟨⟨hp.1,Nat.lt_of_lt_of_le hp.2 hW.size⟩,(World.cell?_of_block (w:=V) e).trans hc⟩
    ·rw[fnn p.block (by have:=SZ.out;rcases hp.1 with h | h <;> omega) (by have:=SZ.out;rcases hp.1 with h | h <;> omega)] at e
     cases e):Sto (Out l0 w8.heap.size W) W (.agg #[.slice pa.1 pa.2.1 pa.2.2,.slice pb.1 pb.2.1 pb.2.2,.slice pc.1 pc.2.1 pc.2.2,.slice pd.1 pd.2.1 pd.2.2]) S9))
   replace fnn:=Za fnn
   replace fn6:=Za fn6
   replace fn7:=Za fn7
   replace ho6:=Za ho6
   replace ho7:=Za ho7
   replace hfn:=Za hfn
   refine wpIn_wide.2 ?_
   refine Rb.wp_region_fx (Yi fin) (by kernel_rfl) (fun W=>Yi fin V.drew W) (fun i=>match i with
    | 5=>some (fun _ W=>W.heap[w2.heap.size]? = some o6)
    | 6=>some (fun _ W=>W.heap[w3.heap.size]? = some o7)
    | _=>none) (fun i=>match i with
    | 7=>some undef
    | _=>none) (by kernel_rfl) (Yi.refl _ _) (fun w w' h hb=>h.trans hb) ?tsta ?_
   case tsta =>
    intro j φ x W W' hp hx hb
    match j,hp with
    | 5,hp=>cases hp;exact hb.done fn6.out hx
    | 6,hp=>cases hp;exact hb.done fn7.out hx
   repeat (first
    | (refine Rb.wpAs_skip rfl ?_;simp only[Act.put,Zb,Zc,Zd])
    | (refine Rb.wpAs_pure (v := ?_) rfl rfl ?_ ?_;rotate_left;(intro W hC hE;clear hE;(obtain⟨k0,k1,k2,k3,_⟩:=Ze (K3.out W hC);obtain⟨n0,_⟩:=Zm (K9.out W hC);have cf:=KF.out W hC);clear hC;go_simp;first | done | with_reducible rfl);simp only[Act.put,Zb,Zc,Zd]))
   refine Rb.wpAs_act rfl rfl ?_ ?_
   ·intro W hC hE
    clear hE
    obtain⟨a,b,c,d,G⟩:=K6.out W hC
    obtain⟨q0,q1,q2,q3,qf,_⟩:=Ze G
    obtain⟨W1,hW1,e1,gr1,_⟩:=Zs (a':=.slice pa.1 pa.2.1 pa.2.2) (b':=.slice pb.1 pb.2.1 pb.2.2) (c':=.slice pc.1 pc.2.1 pc.2.2) (d':=.slice pd.1 pd.2.1 pd.2.2) G
    rw[← ho6.out] at e1
    have hk:=Za (Yi.of_grown gr1 fn6.out e1)
    replace e1:=Za e1
    clear gr1 G hC
    go_simp
    exact⟨e1.out,hk.out⟩
   simp only[Act.put,Rb.envAdd]
   intro _
   refine Rb.wpAs_act rfl rfl ?_ ?_
   ·intro W hC hE
    clear hE
    obtain⟨a,G⟩:=K7.out W hC
    obtain⟨q0,qf,_⟩:=Zm G
    obtain⟨W1,hW1,e1,gr1,_⟩:=Xo (u:=.int .i64 ref) G
    rw[← ho7.out] at e1
    have hk:=Za (Yi.of_grown gr1 fn7.out e1)
    replace e1:=Za e1
    clear gr1 G hC
    go_simp
    exact⟨e1.out,hk.out⟩
   simp only[Act.put,Rb.envAdd]
   intro _
   refine Rb.wpAs_fixed rfl rfl rfl ?_ ?_
   ·intro W hC hE
    clear hE
    have G:=K8.out W hC
    obtain⟨q0,qf,_⟩:=Zm G
    have hs:=Za (Z0 (i:=0) (v:=.int .i64 0) G rfl)
    clear G hC
    go_simp
    rw[hs.out]
    exact⟨rfl,Yi.refl _ _⟩
   simp only[Act.put]
   refine Rb.wpAs_end fun W hC hE => ?_
   have e7:=hE.1
   have e6:=hE.2.1
   rw[ho7.out] at e7
   rw[ho6.out] at e6
   have hD5:=Za (KD.out W hC)
   have e8:=Za (K8.out W hC)
   have hBe:=Za (KB.out W hC)
   have hSe:=Za (KS.out W hC)
   replace e6:=Za e6
   replace e7:=Za e7
   have hWs:=Za (show V.heap.size≤W.heap.size from hC.size)
   clear hE hC
   simp only[Exit.then]
   gi_wp2_with fail
   refine⟨by simp,.inl ⟨_,_,rfl,run_takeDeferred hD5.out,?_⟩⟩
   have hgp:=grownBy_putObj' W w8.heap.size (.deferred none)
   have hnp:∀ r,some w8.heap.size=some r→∃ o:Obj,W.heap[r]? = some o∧o.isCells=false:=fun r e=>by cases e;exact⟨_,hD5.out,rfl⟩
   obtain⟨m0,m1,m2,m3,_⟩:=Ze (Zl e6.out hgp hnp)
   obtain⟨n0,_⟩:=Zm (Zl e7.out hgp hnp)
   obtain⟨y0,_⟩:=Zm (Zl e8.out hgp hnp)
   refine⟨.tuple #[.agg #[.slice pa.1 pa.2.1 pa.2.2,.slice pb.1 pb.2.1 pb.2.2,.slice pc.1 pc.2.1 pc.2.2,.slice pd.1 pd.2.1 pd.2.2],.int .i64 ref,.int .i64 0],by simp[results,Tryz.f44,go_sem,m0,m1,m2,m3,n0,y0],pa,pb,pc,pd,by rw[hO.out],by rw[hO.out];exact hSe.out.map fun p v hp hc=>⟨⟨by have:=SZ.out;rcases hp.1 with h | h <;> omega,Nat.lt_of_lt_of_le hp.2 hgp.size⟩,cell_kept hc hgp hnp⟩,hBe.out.grown hgp (by have:=SZ.out;have:=hBe.out.size;omega) (fun k e=>by cases e;have:=SZ.out;omega)⟩
  ·have h2:mf=2:=by omega
   subst h2
   have HL:=Za (Zwf pa pb pc pd sk ((m:Nat):Int) ⟨by omega,by omega⟩ (some ⟨fb,0,none⟩) 2 fc F (some ⟨fb,0,none⟩) 2 fc F V hSV hIts hIts hFl (by decide) hFl (by decide))
   have hsm:=Za (fun h:(Vr sk ((m:Nat):Int) F F).1=0=>Zov h)
   have hO0:Xa s l x=if (Vr sk ((m:Nat):Int) F F).1=0 then (0,(Vr sk ((m:Nat):Int) F F).2.1,Zfk (Vr sk ((m:Nat):Int) F F).2.2) else ((Vr sk ((m:Nat):Int) F F).1,Zh,0):=by
    unfold Xa
    rw[hgA.out,if_pos rfl,if_pos (by rw[hFl];decide),hl.out]
   obtain⟨er,her⟩:∃ e,(Vr sk ((m:Nat):Int) F F).1=e:=⟨_,rfl⟩
   obtain⟨S9,hS'⟩:∃ e,(Vr sk ((m:Nat):Int) F F).2.1=e:=⟨_,rfl⟩
   obtain⟨up,hup⟩:∃ e,(Vr sk ((m:Nat):Int) F F).2.2=e:=⟨_,rfl⟩
   unfold Z24 at HL
   rw[her,hS',hup] at hO0 HL
   rw[her,hup] at hsm
   obtain⟨nu,hnu⟩:∃ e,up.length=e:=⟨_,rfl⟩
   rw[hnu] at HL hsm
   have hIb':=Za hIb
   have g3:=Za hB3
   have g9:=Za hB9
   have g8:=Za hB8
   replace hO0:=Za hO0
   replace her:=Za her
   replace hS':=Za hS'
   replace hup:=Za hup
   replace hnu:=Za hnu
   replace hnow:=Za hnow
   replace hF0:=Za hF0
   replace hFl:=Za hFl
   have hw1:(1:Int)<((2:Nat):Int):=by decide
   clear hgr z3 z3' hIts hSV hSto hFr hB3 hB9 hB8 hB6 hB7 hDV hqV hIb hmf hm2 h1
   gi_wp2_with fail
   refine⟨trivial,?_⟩
   gi_at_call 76
   refine(callsIn_wide.2 HL.out).mono ?_
   rintro e W ⟨va,vb,vc,vd,M,mc,rfl,hS,hrow,hbW⟩
   have c3:=(Zr _ _ _ _ _ g3.out hbW:Ya w.heap.size _ _ W)
   have c9:=(Zr _ _ _ _ _ g9.out hbW:Ya w6.heap.size _ _ W)
   have c8:=(Zr _ _ _ _ _ g8.out hbW:Ya w4.heap.size _ _ W)
   have c6:=(Zr _ _ _ _ _ g6.out hbW:Ya w2.heap.size _ _ W)
   have c7:=(Zr _ _ _ _ _ g7.out hbW:Ya w3.heap.size _ _ W)
   have cD:=(hbW.block w8.heap.size (Array.getElem?_eq_some_iff.1 hD1.out).1).trans hD1.out
   have hWs:=hbW.size
   obtain⟨W1,hW1,d3,gr1,gs1⟩:=Zs (a':=.slice va.1 va.2.1 va.2.2) (b':=.slice vb.1 vb.2.1 vb.2.2) (c':=.slice vc.1 vc.2.1 vc.2.2) (d':=.slice vd.1 vd.2.1 vd.2.2) c3
   have c91:Ya w6.heap.size _ 39 W1:=(gr1.block _ (Array.getElem?_eq_some_iff.1 c9).1 (fun e=>by have:=Option.some.inj e;have:=SZ.out;omega)).trans c9
   obtain⟨W2,hW2,d9,gr2,gs2⟩:=Xo (u:=.slice M nu mc) c91
   have c82:Ya w4.heap.size #[.int .i64 0] 33 W2:=(gr2.block _ (by rw[gs1];exact(Array.getElem?_eq_some_iff.1 c8).1) (fun e=>by have:=Option.some.inj e;have:=SZ.out;omega)).trans ((gr1.block _ (Array.getElem?_eq_some_iff.1 c8).1 (fun e=>by have:=Option.some.inj e;have:=SZ.out;omega)).trans c8)
   obtain⟨W3,hW3,d8,gr3,gs3⟩:=Xo (u:=.int .i64 er) c82
   obtain⟨m0,m1,m2,m3,mf9,_⟩:=Ze c3
   obtain⟨n0',nf',_⟩:=Zm c91
   obtain⟨y0',yf',_⟩:=Zm c82
   obtain⟨y3,_,_⟩:=Zm d8
   have all3:∀ k,k<W.heap.size→k≠w.heap.size→k≠w6.heap.size→k≠w4.heap.size→W3.heap[k]? = W.heap[k]? := fun k h1 h2 h3 h4 =>
    (gr3.block k (by omega) (fun e=>h4 (Option.some.inj e))).trans ((gr2.block k (by omega) (fun e=>h3 (Option.some.inj e))).trans (gr1.block k h1 (fun e=>h2 (Option.some.inj e))))
   have hs3':W3.heap.size=W.heap.size:=by omega
   have big:∀ k,V.heap.size≤k→k<W.heap.size→W3.heap[k]? = W.heap[k]? := fun k h1 h2=>all3 k h2 (by have:=SZ.out;omega) (by have:=SZ.out;omega) (by have:=SZ.out;omega)
   have hB9':Hid (Below lo w W3):=Za (((((hIb'.out.trans (hbW.mono (by have:=SZ.out;omega))).grown gr1 (by have:=SZ.out;omega) (fun k e=>by cases e;omega)).grown gr2 (by have:=SZ.out;omega) (fun k e=>by cases e;have:=SZ.out;omega)).grown gr3 (by have:=SZ.out;omega) (fun k e=>by cases e;have:=SZ.out;omega)))
   have z6:Hid (Ya w2.heap.size #[.slice none 0 0,.slice none 0 0,.slice none 0 0,.slice none 0 0] 29 W3):=Za ((all3 _ (Array.getElem?_eq_some_iff.1 c6).1 (by have:=SZ.out;omega) (by have:=SZ.out;omega) (by have:=SZ.out;omega)).trans c6)
   have z7:Hid (Ya w3.heap.size #[.int .i64 0] 3 W3):=Za ((all3 _ (Array.getElem?_eq_some_iff.1 c7).1 (by have:=SZ.out;omega) (by have:=SZ.out;omega) (by have:=SZ.out;omega)).trans c7)
   have z8:Hid (Ya w4.heap.size #[.int .i64 er] 33 W3):=Za d8
   have z3:Hid (Ya w.heap.size #[.slice va.1 va.2.1 va.2.2,.slice vb.1 vb.2.1 vb.2.2,.slice vc.1 vc.2.1 vc.2.2,.slice vd.1 vd.2.1 vd.2.2] 29 W3):=Za ((gr3.block _ (by have:=SZ.out;omega) (fun e=>by have:=Option.some.inj e;have:=SZ.out;omega)).trans ((gr2.block _ (by have:=SZ.out;omega) (fun e=>by have:=Option.some.inj e;have:=SZ.out;omega)).trans d3))
   have z9:Hid (Ya w6.heap.size #[.slice M nu mc] 39 W3):=Za ((gr3.block _ (by have:=SZ.out;omega) (fun e=>by have:=Option.some.inj e;have:=SZ.out;omega)).trans d9)
   have zD:Hid (W3.heap[w8.heap.size]? = some (.deferred (some []))):=Za ((all3 _ (Array.getElem?_eq_some_iff.1 cD).1 (by have:=SZ.out;omega) (by have:=SZ.out;omega) (by have:=SZ.out;omega)).trans cD)
   have hS9:Hid (Sto (Out l0 w8.heap.size W3) W3 (.agg #[.slice va.1 va.2.1 va.2.2,.slice vb.1 vb.2.1 vb.2.2,.slice vc.1 vc.2.1 vc.2.2,.slice vd.1 vd.2.1 vd.2.2]) S9):=Za (hS.map fun p v hp hc=>⟨⟨.inr (by have:=hp.1;omega),by have:=hp.2.1;omega⟩,(World.cell?_of_block (big _ hp.1 hp.2.1)).trans hc⟩)
   have hcl:Hid (0<nu→∃ fb' x1 r1,M=some ⟨fb',0,none⟩∧V.heap.size≤fb'∧up=x1::r1∧W3.cell? ⟨fb',3,none⟩=some (.int .i64 x1.2.1)):=Za fun hn=>by
    obtain⟨zs,e1,e2,e3⟩:=Vw hrow
    rw[hnu.out] at e2
    obtain⟨ad',rfl⟩:∃ ad',M=some ad':=by
     obtain⟨_,_,e,_,_,_,h5⟩:=Ye e2
     cases e
     exact h5 hn
    obtain⟨b,C,rfl,hb1,hb2,_⟩:=Z9 e2
    obtain⟨x1,r1,hu⟩:∃ x1 r1,up=x1::r1:=by
     cases up with
     | nil=>have:=hnu.out;simp at this;omega
     | cons a b=>exact⟨a,b,rfl⟩
    refine⟨b,x1,r1,rfl,hb1,hu,?_⟩
    have hr2:=hrow.rel Z3
    obtain⟨ad2,E2,ce2,e2',_,⟨_,_,_,z3',_⟩,_⟩:=Zaj hr2 (show up[0]? = some x1 by rw[hu];rfl)
    cases e2'
    rw[World.cell?_of_block (big _ hb1 hb2)]
    simpa [Addr.add] using z3'
   replace all3:=Za all3
   replace hs3':=Za hs3'
   replace d3:=Za d3
   replace d8:=Za d8
   replace d9:=Za d9
   replace gr1:=Za gr1
   replace gr2:=Za gr2
   replace gr3:=Za gr3
   replace hWs:=Za hWs
   replace gs1:=Za gs1
   replace gs2:=Za gs2
   replace gs3:=Za gs3
   clear c3 c9 c8 c6 c7 c91 c82 cD big hrow hS hbW k0 k1 k2 k3 kf n0 nf y0 yf g3 g9 g8 g6 g7
   by_cases he0:er=0
   ·subst he0
    obtain⟨hu1,hu2⟩:=hsm.out rfl
    obtain⟨fb',x1,r1,rfl,hfb',hu,hc1⟩:=hcl.out hu1
    obtain⟨ref,href⟩:∃ r,x1.2.1=r:=⟨_,rfl⟩
    rw[href] at hc1
    have hcell:=Za hc1
    have hO:Hid (Xa s l x=(0,S9,ref)):=Za (by rw[hO0.out,if_pos rfl,hu];show (0,S9,x1.2.1)=_;rw[href])
    have g3:=z3
    have g9:=z9
    have g8:=z8
    have g6:=z6
    have g7:=z7
    have hD9:=zD
    have hfbn:Hid (fb'≠w2.heap.size∧fb'≠w3.heap.size):=Za ⟨by have:=SZ.out;omega,by have:=SZ.out;omega⟩
    have hIs9:=Za (show w8.heap.size≤W3.heap.size from by have:=hs3'.out;have:=hWs.out;omega)
    replace hu:=Za hu
    replace href:=Za href
    replace hfb':=Za hfb'
    have i0:(0:Int)<(nu:Int):=by omega
    clear hc1
    gi_wp2_with fail
    clear m0 m1 m2 m3 mf9 n0' nf' y0' yf' y3
    obtain⟨o6,ho6⟩:∃ o:Obj,o=.cells #[.slice va.1 va.2.1 va.2.2,.slice vb.1 vb.2.1 vb.2.2,.slice vc.1 vc.2.1 vc.2.2,.slice vd.1 vd.2.1 vd.2.2] 29 (0,0):=⟨_,rfl⟩
    obtain⟨o7,ho7⟩:∃ o:Obj,o=.cells #[.int .i64 ref] 3 (0,0):=⟨_,rfl⟩
    obtain⟨fin,hfn⟩:∃ fin,fin=Zfp w2.heap.size o6 w3.heap.size o7:=⟨_,rfl⟩
    have fn6:fin w2.heap.size=some o6:=by rw[hfn];exact Zey _ _ _ _
    have fn7:fin w3.heap.size=some o7:=by rw[hfn];exact Zer (by have:=SZ.out;omega) _ _
    have fnn:∀ k,k≠w2.heap.size→k≠w3.heap.size→fin k=none:=fun k h1 h2=>by rw[hfn];exact Zdb h1 h2 _ _
    have K3:=Za (fun W (hW:Yi fin W3.drew W)=>(hW.other (fnn w.heap.size (by have:=SZ.out;omega) (by have:=SZ.out;omega)) (show W3.drew.heap[w.heap.size]? = _ from g3.out):Ya w.heap.size #[.slice va.1 va.2.1 va.2.2,.slice vb.1 vb.2.1 vb.2.2,.slice vc.1 vc.2.1 vc.2.2,.slice vd.1 vd.2.1 vd.2.2] 29 W))
    have K9:=Za (fun W (hW:Yi fin W3.drew W)=>(hW.other (fnn w6.heap.size (by have:=SZ.out;omega) (by have:=SZ.out;omega)) (show W3.drew.heap[w6.heap.size]? = _ from g9.out):Ya w6.heap.size #[.slice (some ⟨fb',0,none⟩) nu mc] 39 W))
    have K8:=Za (fun W (hW:Yi fin W3.drew W)=>(hW.other (fnn w4.heap.size (by have:=SZ.out;omega) (by have:=SZ.out;omega)) (show W3.drew.heap[w4.heap.size]? = _ from g8.out):Ya w4.heap.size #[.int .i64 0] 33 W))
    have KD:=Za (fun W (hW:Yi fin W3.drew W)=>(hW.other (fnn w8.heap.size (by have:=SZ.out;omega) (by have:=SZ.out;omega)) (show W3.drew.heap[w8.heap.size]? = _ from hD9.out):W.heap[w8.heap.size]? = some (.deferred (some []))))
    have KF:Hid (∀ W,Yi fin W3.drew W→W.cell? ⟨fb',3,none⟩=some (.int .i64 ref)):=Za fun W hW=>by
     have hc:=hcell.out
     unfold World.cell? at hc
     split at hc
     ·rename_i cs ty fz hb
      have:=hW.other (fnn fb' hfbn.out.1 hfbn.out.2) (show W3.drew.heap[fb']? = _ from hb)
      unfold World.cell?
      simp only[this]
      exact hc
     ·cases hc
    have K6:Hid (∀ W,Yi fin W3.drew W→∃ a b c d,W.heap[w2.heap.size]? = some (.cells #[a,b,c,d] 29 (0,0))):=Za fun W hW=>by
     rcases hW.box fn6 (show W3.drew.heap[w2.heap.size]? = _ from g6.out) with e | e
     ·exact⟨_,_,_,_,e⟩
     ·rw[ho6] at e;exact⟨_,_,_,_,e⟩
    have K7:Hid (∀ W,Yi fin W3.drew W→∃ a,W.heap[w3.heap.size]? = some (.cells #[a] 3 (0,0))):=Za fun W hW=>by
     rcases hW.box fn7 (show W3.drew.heap[w3.heap.size]? = _ from g7.out) with e | e
     ·exact⟨_,e⟩
     ·rw[ho7] at e;exact⟨_,e⟩
    have KB:=Za (fun W (hW:Yi fin W3.drew W)=>(⟨hW.os.trans hB9'.out.os,hW.tape.trans hB9'.out.tape,hW.output.trans hB9'.out.output,Nat.le_trans hB9'.out.size hW.size,fun k hk=>by
     rcases hW.block k (by have:=hB9'.out.size;show k<W3.heap.size;omega) with e | ⟨o,e,_⟩
     ·exact e.trans (hB9'.out.block k hk)
     ·rw[fnn k (by have:=SZ.out;omega) (by have:=SZ.out;omega)] at e
      cases e⟩:Below lo w W))
    have KS:=Za (fun W (hW:Yi fin W3.drew W)=>(hS9.out.map fun p v hp hc=>(show Out l0 w8.heap.size W p∧W.cell? p=some v from by
     rcases hW.block p.block hp.2 with e | ⟨o,e,_⟩
     ·exact⟨⟨hp.1,Nat.lt_of_lt_of_le hp.2 hW.size⟩,(World.cell?_of_block (w:=W3) e).trans hc⟩
     ·rw[fnn p.block (by have:=SZ.out;rcases hp.1 with h | h <;> omega) (by have:=SZ.out;rcases hp.1 with h | h <;> omega)] at e
      cases e):Sto (Out l0 w8.heap.size W) W (.agg #[.slice va.1 va.2.1 va.2.2,.slice vb.1 vb.2.1 vb.2.2,.slice vc.1 vc.2.1 vc.2.2,.slice vd.1 vd.2.1 vd.2.2]) S9))
    replace fnn:=Za fnn
    replace fn6:=Za fn6
    replace fn7:=Za fn7
    replace ho6:=Za ho6
    replace ho7:=Za ho7
    replace hfn:=Za hfn
    refine wpIn_wide.2 ?_
    refine Rb.wp_region_fx (Yi fin) (by kernel_rfl) (fun W=>Yi fin W3.drew W) (fun i=>match i with
     | 5=>some (fun _ W=>W.heap[w2.heap.size]? = some o6)
     | 6=>some (fun _ W=>W.heap[w3.heap.size]? = some o7)
     | _=>none) (fun i=>match i with
     | 7=>some undef
     | _=>none) (by kernel_rfl) (Yi.refl _ _) (fun w w' h hb=>h.trans hb) ?tstb ?_
    case tstb =>
     intro j φ x W W' hp hx hb
     match j,hp with
     | 5,hp=>cases hp;exact hb.done fn6.out hx
     | 6,hp=>cases hp;exact hb.done fn7.out hx
    repeat (first
     | (refine Rb.wpAs_skip rfl ?_;simp only[Act.put,Zb,Zc,Zd])
     | (refine Rb.wpAs_pure (v := ?_) rfl rfl ?_ ?_;rotate_left;(intro W hC hE;clear hE;(obtain⟨k0,k1,k2,k3,_⟩:=Ze (K3.out W hC);obtain⟨n0,_⟩:=Zm (K9.out W hC);have cf:=KF.out W hC);clear hC;go_simp;first | done | with_reducible rfl);simp only[Act.put,Zb,Zc,Zd]))
    refine Rb.wpAs_act rfl rfl ?_ ?_
    ·intro W hC hE
     clear hE
     obtain⟨a,b,c,d,G⟩:=K6.out W hC
     obtain⟨q0,q1,q2,q3,qf,_⟩:=Ze G
     obtain⟨W1,hW1,e1,gr1,_⟩:=Zs (a':=.slice va.1 va.2.1 va.2.2) (b':=.slice vb.1 vb.2.1 vb.2.2) (c':=.slice vc.1 vc.2.1 vc.2.2) (d':=.slice vd.1 vd.2.1 vd.2.2) G
     rw[← ho6.out] at e1
     have hk:=Za (Yi.of_grown gr1 fn6.out e1)
     replace e1:=Za e1
     clear gr1 G hC
     go_simp
     exact⟨e1.out,hk.out⟩
    simp only[Act.put,Rb.envAdd]
    intro _
    refine Rb.wpAs_act rfl rfl ?_ ?_
    ·intro W hC hE
     clear hE
     obtain⟨a,G⟩:=K7.out W hC
     obtain⟨q0,qf,_⟩:=Zm G
     obtain⟨W1,hW1,e1,gr1,_⟩:=Xo (u:=.int .i64 ref) G
     rw[← ho7.out] at e1
     have hk:=Za (Yi.of_grown gr1 fn7.out e1)
     replace e1:=Za e1
     clear gr1 G hC
     go_simp
     exact⟨e1.out,hk.out⟩
    simp only[Act.put,Rb.envAdd]
    intro _
    refine Rb.wpAs_fixed rfl rfl rfl ?_ ?_
    ·intro W hC hE
     clear hE
     have G:=K8.out W hC
     obtain⟨q0,qf,_⟩:=Zm G
     have hs:=Za (Z0 (i:=0) (v:=.int .i64 0) G rfl)
     clear G hC
     go_simp
     rw[hs.out]
     exact⟨rfl,Yi.refl _ _⟩
    simp only[Act.put]
    refine Rb.wpAs_end fun W hC hE => ?_
    have e7:=hE.1
    have e6:=hE.2.1
    rw[ho7.out] at e7
    rw[ho6.out] at e6
    have hD5:=Za (KD.out W hC)
    have e8:=Za (K8.out W hC)
    have hBe:=Za (KB.out W hC)
    have hSe:=Za (KS.out W hC)
    replace e6:=Za e6
    replace e7:=Za e7
    have hWs:=Za (show W3.heap.size≤W.heap.size from hC.size)
    clear hE hC
    simp only[Exit.then]
    gi_wp2_with fail
    refine⟨by simp,.inl ⟨_,_,rfl,run_takeDeferred hD5.out,?_⟩⟩
    have hgp:=grownBy_putObj' W w8.heap.size (.deferred none)
    have hnp:∀ r,some w8.heap.size=some r→∃ o:Obj,W.heap[r]? = some o∧o.isCells=false:=fun r e=>by cases e;exact⟨_,hD5.out,rfl⟩
    obtain⟨m0,m1,m2,m3,_⟩:=Ze (Zl e6.out hgp hnp)
    obtain⟨n0,_⟩:=Zm (Zl e7.out hgp hnp)
    obtain⟨y0,_⟩:=Zm (Zl e8.out hgp hnp)
    refine⟨.tuple #[.agg #[.slice va.1 va.2.1 va.2.2,.slice vb.1 vb.2.1 vb.2.2,.slice vc.1 vc.2.1 vc.2.2,.slice vd.1 vd.2.1 vd.2.2],.int .i64 ref,.int .i64 0],by simp[results,Tryz.f44,go_sem,m0,m1,m2,m3,n0,y0],va,vb,vc,vd,by rw[hO.out],by rw[hO.out];exact hSe.out.map fun p v hp hc=>⟨⟨by have:=SZ.out;rcases hp.1 with h | h <;> omega,Nat.lt_of_lt_of_le hp.2 hgp.size⟩,cell_kept hc hgp hnp⟩,hBe.out.grown hgp (by have:=SZ.out;have:=hBe.out.size;omega) (fun k e=>by cases e;have:=SZ.out;omega)⟩
   ·have t0:(er != 0)=true:=by simpa using he0
    have hO:Hid (Xa s l x=(er,Zh,0)):=Za (by rw[hO0.out,if_neg he0])
    replace he0:=Za he0
    have S6:=Za (show ∀ W:World,W=W3.drew→(((W.setCell ⟨w2.heap.size,0,none⟩ (.slice none 0 0)).setCell ⟨w2.heap.size,1,none⟩ (.slice none 0 0)).setCell ⟨w2.heap.size,2,none⟩ (.slice none 0 0)).setCell ⟨w2.heap.size,3,none⟩ (.slice none 0 0)=W from fun W e=>by
     subst e
     have e6:Ya w2.heap.size #[.slice none 0 0,.slice none 0 0,.slice none 0 0,.slice none 0 0] 29 W3.drew:=z6.out
     rw[Z0 (W:=W3.drew) e6 rfl,Z0 (W:=W3.drew) e6 rfl,Z0 (W:=W3.drew) e6 rfl,Z0 (W:=W3.drew) e6 rfl])
    have S7:=Za (show ∀ W:World,W=W3.drew→W.setCell ⟨w3.heap.size,0,none⟩ (.int .i64 0)=W from fun W e=>by subst e;exact Z0 (W:=W3.drew) z7.out rfl)
    have S8:=Za (show ∀ W:World,W=W3.drew→W.setCell ⟨w4.heap.size,0,none⟩ (.int .i64 er)=W from fun W e=>by subst e;exact Z0 (W:=W3.drew) z8.out rfl)
    gi_wp2_with fail
    clear m0 m1 m2 m3 mf9 n0' nf' y0' yf' y3
    refine wpIn_wide.2 ?_
    refine Rb.wp_region_fx (fun W W'=>W'=W) (by kernel_rfl) (fun W=>W=W3.drew) (fun _=>none) (fun i=>match i with
     | 2=>some undef
     | 3=>some undef
     | 4=>some undef
     | _=>none) (by kernel_rfl) rfl (fun _ _ h e=>e.trans h) (fun _ _ _ _ _ hp=>by cases hp) ?_
    repeat (first
     | (refine Rb.wpAs_skip rfl ?_;simp only[Act.put,Zb,Zc,Zd])
     | (refine Rb.wpAs_pure (v := ?_) rfl rfl ?_ ?_;rotate_left;(intro W hC hE;clear hE;(have hC':=hC;subst hC';obtain⟨y0,yf,_⟩:=Zm z8.out);clear hC;go_simp;first | done | with_reducible rfl);simp only[Act.put,Zb,Zc,Zd]))
    refine Rb.wpAs_fixed rfl rfl rfl ?_ ?_
    ·intro W hC hE
     clear hE
     have hh:=Za (S6.out W hC)
     have e6:Ya w2.heap.size #[.slice none 0 0,.slice none 0 0,.slice none 0 0,.slice none 0 0] 29 W:=by rw[hC];exact z6.out
     obtain⟨m0,m1,m2,m3,mf,_⟩:=Ze e6
     clear hC e6
     go_simp
     first | exact⟨rfl,hh.out⟩ | exact hh.out
    simp only[Act.put]
    refine Rb.wpAs_fixed rfl rfl rfl ?_ ?_
    ·intro W hC hE
     clear hE
     have hh:=Za (S7.out W hC)
     have e6:Ya w3.heap.size #[.int .i64 0] 3 W:=by rw[hC];exact z7.out
     obtain⟨m0,mf,_⟩:=Zm e6
     clear hC e6
     go_simp
     first | exact⟨rfl,hh.out⟩ | exact hh.out
    simp only[Act.put]
    refine Rb.wpAs_fixed rfl rfl rfl ?_ ?_
    ·intro W hC hE
     clear hE
     have hh:=Za (S8.out W hC)
     have e6:Ya w4.heap.size #[.int .i64 er] 33 W:=by rw[hC];exact z8.out
     obtain⟨m0,mf,_⟩:=Zm e6
     clear hC e6
     go_simp
     first | exact⟨rfl,hh.out⟩ | exact hh.out
    simp only[Act.put]
    refine Rb.wpAs_end fun W hC hE => ?_
    subst hC
    clear hE
    simp only[Exit.then]
    have hD5:Hid (W3.drew.heap[w8.heap.size]? = some (.deferred (some []))):=zD
    gi_wp2_with fail
    refine⟨by simp,.inl ⟨_,_,rfl,run_takeDeferred hD5.out,?_⟩⟩
    have hgp:=grownBy_putObj' W3.drew w8.heap.size (.deferred none)
    have hnp:∀ r,some w8.heap.size=some r→∃ o:Obj,W3.drew.heap[r]? = some o∧o.isCells=false:=fun r e=>by cases e;exact⟨_,hD5.out,rfl⟩
    obtain⟨m0,m1,m2,m3,_⟩:=Ze (Zl (show W3.drew.heap[w2.heap.size]? = _ from z6.out) hgp hnp)
    obtain⟨n0,_⟩:=Zm (Zl (show W3.drew.heap[w3.heap.size]? = _ from z7.out) hgp hnp)
    obtain⟨y0,_⟩:=Zm (Zl (show W3.drew.heap[w4.heap.size]? = _ from z8.out) hgp hnp)
    refine⟨.tuple #[.agg #[.slice none 0 0,.slice none 0 0,.slice none 0 0,.slice none 0 0],.int .i64 0,.int .i64 er],by simp[results,Tryz.f44,go_sem,m0,m1,m2,m3,n0,y0],(none,0,0),(none,0,0),(none,0,0),(none,0,0),by rw[hO.out],by rw[hO.out];exact Yk _ _,hB9'.out.drew.grown hgp (by have:=SZ.out;have:=hB9'.out.size;show lo≤W3.heap.size;omega) (fun k e=>by cases e;have:=SZ.out;omega)⟩
 case stop =>
  rintro c pre' q' V hVs ⟨rfl,_,⟨hIb,hIs⟩,er,hB6,hB7,hB8,hgA,he0⟩ hDV hqV
  have hD1:=Za hDV
  have z6:=Za hB6
  have z7:=Za hB7
  have z8:=Za hB8
  have hb:=Za hIb
  have hO:Hid (Xa s l x=(er,Zh,0)):=Za (by unfold Xa;rw[hgA,if_neg he0])
  clear hB6 hB7 hB8 hgA he0 hDV hqV hIb
  gi_wp2_with fail
  refine⟨by simp,.inl ⟨_,_,rfl,run_takeDeferred hD1.out,?_⟩⟩
  have hgp:=grownBy_putObj' V w8.heap.size (.deferred none)
  have hnp:∀ r,some w8.heap.size=some r→∃ o:Obj,V.heap[r]? = some o∧o.isCells=false:=fun r e=>by cases e;exact⟨_,hD1.out,rfl⟩
  obtain⟨m0,m1,m2,m3,_⟩:=Ze (Zl z6.out hgp hnp)
  obtain⟨n0,_⟩:=Zm (Zl z7.out hgp hnp)
  obtain⟨y0,_⟩:=Zm (Zl z8.out hgp hnp)
  refine⟨.tuple #[.agg #[.slice none 0 0,.slice none 0 0,.slice none 0 0,.slice none 0 0],.int .i64 0,.int .i64 er],by simp[results,Tryz.f44,go_sem,m0,m1,m2,m3,n0,y0],(none,0,0),(none,0,0),(none,0,0),(none,0,0),by rw[hO.out],by rw[hO.out];exact Yk _ _,hb.out.grown hgp (by have:=SZ.out;omega) (fun k e=>by cases e;have:=SZ.out;omega)⟩
def Z01 (s:Rm) (k:Ky) (a:Int) (l:List Sv):Prop:=l.length=(rmV s a).1.toNat+1∧∀ i q,l[i]? = some q→q.nd=rmV s (atW s k a i)∧(q.pl,q.inst)=Zf0 q.nd k
noncomputable def Zlo (s:Rm) (a:Int) (x:It) (l:List Sv):Int×Rm×Int :=
 if ckE s a≠0 then (ckE s a,Zh,0)
 else if Ziq s x≠0 then (Ziq s x,Zh,0)
 else if (rmV s a).1=5∧Zcd l.reverse 1=true then (120,Zh,0)
 else if (Xa s l x).1≠0 then ((Xa s l x).1,Zh,0)
 else if lvE (Xa s l x).2.1 a≠0 then (lvE (Xa s l x).2.1 a,Zh,0)
 else (0,lvV (Xa s l x).2.1 a,(Xa s l x).2.2)
def Z4q (s:Rm) (a:Int) (x:It) (w:World) (e:Ending) (w':World):Prop:=∃ (l:List Sv) (qa qb qc qd:Option Addr×Nat×Nat),(ckE s a=0→Ziq s x=0→Z01 s x.1 a l) ∧
 e=.returned (.tuple #[.agg #[.slice qa.1 qa.2.1 qa.2.2,.slice qb.1 qb.2.1 qb.2.2,.slice qc.1 qc.2.1 qc.2.2,.slice qd.1 qd.2.1 qd.2.2],.int .i64 (Zlo s a x l).2.2,.int .i64 (Zlo s a x l).1]) ∧
 Sto (New w.heap.size w') w' (.agg #[.slice qa.1 qa.2.1 qa.2.2,.slice qb.1 qb.2.1 qb.2.2,.slice qc.1 qc.2.1 qc.2.2,.slice qd.1 qd.2.1 qd.2.2]) (Zlo s a x l).2.1∧Below w.heap.size w w'
theorem Zh3.below {lo:Nat} {s:Rm} {k:Ky} {a:Int} {W W':World} {A:Option Addr} {c:Nat} {l:List Sv} (h:Zh3 lo s k a W A c l) (hb:Below W.heap.size W W'):Zh3 lo s k a W' A c l :=
 ⟨Zw h.row hb,⟨fun q hq=>by
  obtain⟨h1,h2,h3,h4⟩:=h.rows.ok q hq
  exact⟨h1,h2,Nat.le_trans h3 hb.size,h4.same fun k k1 k2=>hb.block k (by omega)⟩,h.rows.apart⟩,h.off,h.are⟩
theorem Z3s {s:Rm} {k:Ky} {a:Int} {lv:Nat} {l:List Sv} (hT:AtT s lv a) (hl:l.length=lv+1) (_:lv<6) (are:∀ i q,l[i]? = some q→q.nd=rmV s (atW s k a i)∧(q.pl,q.inst)=Zf0 q.nd k):∀ q∈l,Zkb q.nd.1∧q.nd.2.length≤5∧q.pl+(if q.inst=true then 1 else 0)≤q.nd.2.length:=by
 intro q hq
 obtain⟨i,hi,rfl⟩:=List.getElem_of_mem hq
 obtain⟨e1,e2⟩:=are i _ (List.getElem?_eq_getElem hi)
 have hA:=Um (k:=k) hT i (by omega)
 have hlv:=hA.lvl
 have hm:=hA.may
 rw[← e1] at hlv hm
 obtain⟨⟨_,_,h5,hne⟩,_⟩:=Z2 hm
 refine⟨⟨by omega,by omega⟩,h5,?_⟩
 generalize l[i]=q at *
 unfold Zf0 at e2
 split at e2
 ·simp only[Prod.mk.injEq] at e2
  rw[e2.1,e2.2]
  split
  ·rename_i ht
   exact Zaq ht
  ·exact Za8 _ _
 ·simp only[Prod.mk.injEq] at e2
  rw[e2.1,e2.2]
  exact Zc6 k (hne (by omega))
theorem Zrh (qa qb qc qd:Option Addr×Nat×Nat) (s:Rm) (a:Int) (x:It) (E:Option Addr) (ce:Nat) (w:World) (h:Sto (Old w) w (.agg #[.slice qa.1 qa.2.1 qa.2.2,.slice qb.1 qb.2.1 qb.2.2,.slice qc.1 qc.2.1 qc.2.2,.slice qd.1 qd.2.1 qd.2.2]) s) (hx:Itm (Old w) w (itV x (.slice E x.2.2.length ce)) x) :
  Calls Tryz.prog 22 #[.agg #[.slice qa.1 qa.2.1 qa.2.2,.slice qb.1 qb.2.1 qb.2.2,.slice qc.1 qc.2.1 qc.2.2,.slice qd.1 qd.2.1 qd.2.2],.int .i64 a,itV x (.slice E x.2.2.length ce)] w (Z4q s a x w):=by
 obtain⟨w1,hw1,b1,hs1,hB1⟩:=Xt w (.slice qa.1 qa.2.1 qa.2.2) (.slice qb.1 qb.2.1 qb.2.2) (.slice qc.1 qc.2.1 qc.2.2) (.slice qd.1 qd.2.1 qd.2.2) 29
 obtain⟨w2,hw2,-,-,-,-,-,hs2,hB2,b2⟩:=Z8 w1 (.int .u8 (x.1.1.toNat:Int)) (.int .u32 x.1.2.1) (.int .u32 x.1.2.2) (.int .i64 x.2.1) (.slice E x.2.2.length ce) 54
 obtain⟨w3,hw3,b3,hs3,hB3⟩:=Xt w2 (.slice none 0 0) (.slice none 0 0) (.slice none 0 0) (.slice none 0 0) 29
 have hB12:=hB1.trans (hB2.mono hB1.size)
 have hB13:=hB12.trans (hB3.mono hB12.size)
 have B3:=Za hB13
 have SZ:=Za (show w1.heap.size=w.heap.size+1∧w2.heap.size=w.heap.size+2∧w3.heap.size=w.heap.size+3 from by omega)
 have G1:=Za ((hB3.block w.heap.size (by omega)).trans ((hB2.block w.heap.size (by omega)).trans b1))
 have G2:=Za ((hB3.block w1.heap.size (by omega)).trans b2)
 have G3:=Za b3
 have hS0:=Za h
 have hX0:=Za hx
 have HS:=Za (fun W (hW:Below w3.heap.size w3 W)=>h.below (hB13.trans (hW.mono hB13.size)))
 have HX:=Za (fun W (hW:Below w3.heap.size w3 W)=>hx.below (hB13.trans (hW.mono hB13.size)))
 have KC:=Za (fun W (hW:Below w3.heap.size w3 W)=>And.intro ((hW.block w.heap.size (by omega)).trans G1.out) (And.intro ((hW.block w1.heap.size (by omega)).trans G2.out) ((hW.block w2.heap.size (by omega)).trans G3.out)))
 have hzero:Hid (∀ (er:Int) (W:World) (v0 v1 v2 v3:Value) (l:List Sv),W.heap[w2.heap.size]? = some (.cells #[v0,v1,v2,v3] 29 (0,0))→Below w.heap.size w W→(ckE s a=0→Ziq s x=0→Z01 s x.1 a l)→Zlo s a x l=(er,Zh,0) →
   ∃ W9,(((W.setCell ⟨w2.heap.size,0,none⟩ (.slice none 0 0)).setCell ⟨w2.heap.size,1,none⟩ (.slice none 0 0)).setCell ⟨w2.heap.size,2,none⟩ (.slice none 0 0)).setCell ⟨w2.heap.size,3,none⟩ (.slice none 0 0)=W9 ∧
   W9.cell? ⟨w2.heap.size,0,none⟩=some (.slice none 0 0)∧W9.cell? ⟨w2.heap.size,1,none⟩=some (.slice none 0 0)∧W9.cell? ⟨w2.heap.size,2,none⟩=some (.slice none 0 0)∧W9.cell? ⟨w2.heap.size,3,none⟩=some (.slice none 0 0) ∧
   Z4q s a x w (.returned (.tuple #[.agg #[.slice none 0 0,.slice none 0 0,.slice none 0 0,.slice none 0 0],.int .i64 0,.int .i64 er])) W9):=Za fun er W v0 v1 v2 v3 l bW hW hl he=>by
  obtain⟨W9,e9,g9,gr9,_⟩:=Zs (a':=.slice none 0 0) (b':=.slice none 0 0) (c':=.slice none 0 0) (d':=.slice none 0 0) bW
  obtain⟨k0,k1,k2,k3,_⟩:=Ze g9
  exact⟨W9,e9,k0,k1,k2,k3,l,(none,0,0),(none,0,0),(none,0,0),(none,0,0),hl,by rw[he],by rw[he];exact Yk _ _,hW.grown gr9 hW.size (fun q e=>by cases e;omega)⟩
 have hC3:=KC.out w3 (Below.refl _ _)
 obtain⟨k0,k1,k2,k3,_⟩:=Ze hC3.1
 replace hs1:=Za hs1
 replace hs2:=Za hs2
 replace hs3:=Za hs3
 clear h hx hB1 hB2 hB3 hB12 hB13 b1 b2 b3 hC3
 unfold itV
 go_enter Tryz.func22,Tryz.ntmps22
 go_upto_region 1 with fail
 clear hw1 hw2 hw3
 go_wp2_with fail
 with_reducible refine(Uu _ s a w3 (HS.out w3 (Below.refl _ _))).mono ?_
 rintro e w4 ⟨rfl,hb4⟩
 clear k0 k1 k2 k3
 obtain⟨c4a,c4b,c4c⟩:=KC.out w4 hb4
 obtain⟨k0,k1,k2,k3,_⟩:=Ze c4a
 obtain⟨n0,n1,n2,n3,n4,_⟩:=Zt c4b
 obtain⟨u0,u1,u2,u3,uf,_⟩:=Ze c4c
 have hckh:Hid (ckE s a=0→ckH s a=(rmV s a).1+1∧X2 s a=true∧asE s a=0):=Za fun h=>by
  obtain⟨h1,h2,h3⟩:=Znj h
  exact⟨h3,h1,h2⟩
 have hpl0:Hid (ckE s a≠0→∀ l,Zlo s a x l=(ckE s a,Zh,0)):=Za fun h l=>by unfold Zlo;rw[if_pos h]
 have hc0:Hid (ckE s a≠0→∀ l,ckE s a=0→Ziq s x=0→Z01 s x.1 a l):=Za fun h l h'=>absurd h' h
 obtain⟨ck,hck⟩:∃ q,ckE s a=q:=⟨_,rfl⟩
 obtain⟨Hh,hH⟩:∃ q,ckH s a=q:=⟨_,rfl⟩
 rw[hck,hH]
 go_upto_region 2 with fail
 by_cases hk:ck=0
 case neg =>
  have t0:(ck != 0)=true:=by simpa using hk
  obtain⟨W9,e9,y0,y1,y2,y3,hfin⟩:=hzero.out ck w4 _ _ _ _ [] c4c (B3.out.trans (hb4.mono B3.out.size)) (hc0.out (by rw[hck];exact hk) []) (by rw[hpl0.out (by rw[hck];exact hk),hck])
  replace hfin:=Za hfin
  go_wp2_with fail
  exact bodyPost_ret (v:=.tuple #[.agg #[.slice none 0 0,.slice none 0 0,.slice none 0 0,.slice none 0 0],.int .i64 0,.int .i64 ck]) (by simp[results,Tryz.results22,go_sem,y0,y1,y2,y3]) rfl hfin.out
 subst hk
 obtain⟨eH,htr,has⟩:=hckh.out hck
 obtain⟨-,-,hmr,-⟩:=Xi has
 obtain⟨-,-,-,l0,l6,-⟩:=Uh htr
 have hT:=Za (Zdn htr)
 have hci:=Zke (.agg #[.slice qa.1 qa.2.1 qa.2.2,.slice qb.1 qb.2.1 qb.2.2,.slice qc.1 qc.2.1 qc.2.2,.slice qd.1 qd.2.1 qd.2.2]) (itV x (.slice E x.2.2.length ce)) s x w4 hmr (HS.out w4 hb4) (HX.out w4 hb4)
 have hci':=Za hci
 have hlv:=Za (show ∃ lv:Nat,(rmV s a).1=(lv:Int)∧(rmV s a).1.toNat=lv∧lv<6 from ⟨(rmV s a).1.toNat,by omega,rfl,by omega⟩)
 have hB4:=Za hb4
 have hck':=Za hck
 have hdone:Hid (∀ l,Zlo s a x l=if Ziq s x≠0 then (Ziq s x,Zh,0)
  else if (rmV s a).1=5∧Zcd l.reverse 1=true then (120,Zh,0)
  else if (Xa s l x).1≠0 then ((Xa s l x).1,Zh,0)
  else if lvE (Xa s l x).2.1 a≠0 then (lvE (Xa s l x).2.1 a,Zh,0)
  else (0,lvV (Xa s l x).2.1 a,(Xa s l x).2.2)):=Za fun l=>by
  unfold Zlo
  rw[if_neg (by rw[hck];decide)]
 clear hci l0 l6 hmr has htr hb4 hck c4a c4b
 unfold itV at hci'
 obtain⟨ci,hcie⟩:∃ q,Ziq s x=q:=⟨_,rfl⟩
 rw[hcie] at hci'
 go_upto_region 4 with fail
 go_wp2_with fail
 with_reducible refine hci'.out.mono ?_
 rintro e w5 ⟨rfl,hb5⟩
 clear k0 k1 k2 k3 n0 n1 n2 n3 n4 u0 u1 u2 u3 uf hci'
 have B5:=Za (hB4.out.trans (hb5.mono hB4.out.size))
 clear hb5
 obtain⟨c5a,c5b,c5c⟩:=KC.out w5 B5.out
 obtain⟨k0,k1,k2,k3,_⟩:=Ze c5a
 obtain⟨n0,n1,n2,n3,n4,_⟩:=Zt c5b
 obtain⟨u0,u1,u2,u3,uf,_⟩:=Ze c5c
 clear c5a c5b
 go_upto_region 5 with fail
 by_cases hk:ci=0
 case neg =>
  have t0:(ci != 0)=true:=by simpa using hk
  obtain⟨W9,e9,y0,y1,y2,y3,hfin⟩:=hzero.out ci w5 _ _ _ _ [] c5c (B3.out.trans (B5.out.mono B3.out.size)) (fun _ h=>absurd (hcie ▸ h) hk) (by rw[hdone.out,hcie,if_pos hk])
  replace hfin:=Za hfin
  go_wp2_with fail
  exact bodyPost_ret (v:=.tuple #[.agg #[.slice none 0 0,.slice none 0 0,.slice none 0 0,.slice none 0 0],.int .i64 0,.int .i64 ci]) (by simp[results,Tryz.results22,go_sem,y0,y1,y2,y3]) rfl hfin.out
 subst hk
 obtain⟨lv,elv,enat,lv6⟩:=hlv.out
 have hdone2:Hid (∀ l,Zlo s a x l=if (rmV s a).1=5∧Zcd l.reverse 1=true then (120,Zh,0)
  else if (Xa s l x).1≠0 then ((Xa s l x).1,Zh,0)
  else if lvE (Xa s l x).2.1 a≠0 then (lvE (Xa s l x).2.1 a,Zh,0)
  else (0,lvV (Xa s l x).2.1 a,(Xa s l x).2.2)):=Za fun l=>by
  rw[hdone.out,if_neg (by rw[hcie];decide)]
 rw[enat] at hT
 have eH':(lv:Int)+1=Hh:=by omega
 have hway:=Z1f qa qb qc qd s a lv lv6 x.1 w5 (HS.out w5 B5.out) hT.out
 rw[eH'] at hway
 unfold kyV at hway
 have hway':=Za hway
 have elv':=Za elv
 have enat':=Za enat
 have eH2:=Za eH'
 clear hway elv enat hlv hdone hcie eH eH' c5c
 replace hH:=Za hH
 go_upto_region 7 with fail
 go_wp2_with fail
 with_reducible refine hway'.out.mono ?_
 rintro e w6 ⟨A,c,l,rfl,hll,hW,hb6⟩
 clear k0 k1 k2 k3 n0 n1 n2 n3 n4 u0 u1 u2 u3 uf hway'
 have B6:=Za (B5.out.trans (hb6.mono B5.out.size))
 obtain⟨m,hm⟩:∃ q,l.length=q:=⟨_,rfl⟩
 have hW':=Za hW
 have hB56:=Za hb6
 rw[hm]
 have hwl:Hid (Z01 s x.1 a l):=Za ⟨by rw[enat'.out];exact hll,hW.are⟩
 have hm6:m≤6:=by omega
 have hq:=Za (Z3s hT.out hll lv6 hW.are)
 replace hm:=Za hm
 have hll:=Za hll
 clear hW hb6
 obtain⟨c6a,c6b,c6c⟩:=KC.out w6 B6.out
 obtain⟨k0,k1,k2,k3,_⟩:=Ze c6a
 obtain⟨n0,n1,n2,n3,n4,_⟩:=Zt c6b
 obtain⟨u0,u1,u2,u3,uf,_⟩:=Ze c6c
 clear c6a c6b
 go_upto_region 10 with fail
 have hpl2:Hid ((rmV s a).1=5↔Hh=6):=Za (by have:=eH2.out;have:=elv'.out;omega)
 by_cases h6:Hh=6
 case neg =>
  have t6:(Hh==6)=false:=by simpa using h6
  have hpart:Hid (Zlo s a x l=if (Xa s l x).1≠0 then ((Xa s l x).1,Zh,0)
   else if lvE (Xa s l x).2.1 a≠0 then (lvE (Xa s l x).2.1 a,Zh,0)
   else (0,lvV (Xa s l x).2.1 a,(Xa s l x).2.2)):=Za (by rw[hdone2.out,if_neg (fun h=>h6 (hpl2.out.1 h.1))])
  have BW:Hid (Below w6.heap.size w6 w6):=Za (Below.refl _ _)
  have hgrw:=Za (Zpd w.heap.size w5.heap.size (by have:=B3.out.size;have:=B5.out.size;omega) qa qb qc qd s A m c l E ce x w6 (by have:=hB56.out.size;have:=BW.out.size;omega)
   (hS0.out.map fun p v hp hc=>⟨hp,((B3.out.trans (B6.out.mono B3.out.size)).trans (BW.out.mono (B3.out.trans (B6.out.mono B3.out.size)).size)).cell hp |>.trans hc⟩)
   (by have:=(hW'.out.below BW.out).row;rw[hm.out] at this;exact this) hm.out hm6 (hW'.out.below BW.out).rows hW'.out.off hq.out
   (hX0.out.map fun p v hp hc=>⟨hp,((B3.out.trans (B6.out.mono B3.out.size)).trans (BW.out.mono (B3.out.trans (B6.out.mono B3.out.size)).size)).cell hp |>.trans hc⟩))
  have hgrw':=hgrw.out
  unfold itV at hgrw'
  have hgrw:=Za hgrw'
  clear hgrw'
  go_upto_region 12 with fail
  go_wp2_with fail
  with_reducible refine hgrw.out.mono ?_
  rintro e w8 ⟨pa,pb,pc,pd,rfl,hS8,hb8⟩
  clear k0 k1 k2 k3 n0 n1 n2 n3 n4 u0 u1 u2 u3 uf hgrw
  have hc8:=Za ((hb8.block w2.heap.size (by have:=SZ.out;have:=B5.out.size;omega)).trans (KC.out w6 (B6.out.trans (BW.out.mono B6.out.size))).2.2)
  have BwW:=(B3.out.trans (B6.out.mono B3.out.size)).trans (BW.out.mono (B3.out.trans (B6.out.mono B3.out.size)).size)
  have B8:=Za (BwW.trans (hb8.mono (by have:=B3.out.size;have:=B5.out.size;omega)))
  clear BwW
  obtain⟨G,hG⟩:∃ q,Xa s l x=q:=⟨_,rfl⟩
  obtain⟨ge,gs,gn⟩:=G
  rw[hG] at hS8 ⊢
  obtain⟨u0,u1,u2,u3,uf,_⟩:=Ze hc8.out
  obtain⟨w9,hw9,g9,gr9,gs9⟩:=Zs (a':=.slice pa.1 pa.2.1 pa.2.2) (b':=.slice pb.1 pb.2.1 pb.2.2) (c':=.slice pc.1 pc.2.1 pc.2.2) (d':=.slice pd.1 pd.2.1 pd.2.2) hc8.out
  have B9:=Za (B8.out.grown gr9 B8.out.size (fun q e=>by cases e;have:=SZ.out;omega))
  have S9:Hid (Sto (Old w9) w9 (.agg #[.slice pa.1 pa.2.1 pa.2.2,.slice pb.1 pb.2.1 pb.2.2,.slice pc.1 pc.2.1 pc.2.2,.slice pd.1 pd.2.1 pd.2.2]) gs):=Za (hS8.map fun p v hp hc=>by
   have hb:=gr9.block p.block hp.2 (fun e=>by have:=Option.some.inj e;have:=SZ.out;have:=B6.out.size;have:=BW.out.size;rcases hp.1 with h | h <;> omega)
   exact⟨Nat.lt_of_lt_of_le hp.2 gr9.size,(World.cell?_of_block hb).trans hc⟩)
  have hG':=Za hG
  obtain⟨k0,k1,k2,k3,kf,_⟩:=Ze g9
  have g9':=Za g9
  have hgs:=Za gs9
  clear hS8 hb8 hG gr9 gs9 g9
  replace hc8:=Za hc8
  go_upto_region 13 with fail
  clear u0 u1 u2 u3 uf hw9
  by_cases hge:ge=0
  case neg =>
   have t0:(ge != 0)=true:=by simpa using hge
   obtain⟨W9,e9,y0,y1,y2,y3,hfin⟩:=hzero.out ge w9 _ _ _ _ l g9'.out (B9.out) (fun _ _=>hwl.out) (by rw[hpart.out,hG'.out,if_pos hge])
   replace hfin:=Za hfin
   go_wp2_with fail
   exact bodyPost_ret (v:=.tuple #[.agg #[.slice none 0 0,.slice none 0 0,.slice none 0 0,.slice none 0 0],.int .i64 0,.int .i64 ge]) (by simp[results,Tryz.results22,go_sem,y0,y1,y2,y3]) rfl hfin.out
  subst hge
  have hlv:=Zbr _ gs a w9 S9.out
  obtain⟨le,hle⟩:∃ q,lvE gs a=q:=⟨_,rfl⟩
  rw[hle] at hlv
  go_upto_region 15 with fail
  go_wp2_with fail
  with_reducible refine hlv.mono ?_
  rintro e w10 ⟨ra,rb,rc,rd,rfl,hS10,hb10⟩
  clear k0 k1 k2 k3 kf hlv
  have hc10:=(hb10.block w2.heap.size (by have:=SZ.out;have:=B9.out.size;have:=hgs.out;have:=(Array.getElem?_eq_some_iff.1 g9'.out).1;omega)).trans g9'.out
  obtain⟨u0,u1,u2,u3,uf,_⟩:=Ze hc10
  obtain⟨w11,hw11,g11,gr11,gs11⟩:=Zs (a':=.slice ra.1 ra.2.1 ra.2.2) (b':=.slice rb.1 rb.2.1 rb.2.2) (c':=.slice rc.1 rc.2.1 rc.2.2) (d':=.slice rd.1 rd.2.1 rd.2.2) hc10
  have B11:=Za ((B9.out.trans (hb10.mono B9.out.size)).grown gr11 (B9.out.trans (hb10.mono B9.out.size)).size (fun q e=>by cases e;have:=SZ.out;omega))
  have hlt9:=Za (show w2.heap.size<w9.heap.size from (Array.getElem?_eq_some_iff.1 g9'.out).1)
  have S11:=Za (hS10.grown gr11 (fun q e=>by cases e;exact hlt9.out))
  obtain⟨k0,k1,k2,k3,kf,_⟩:=Ze g11
  have g11':=Za g11
  clear hS10 hb10 hc10 gr11 gs11 g11
  go_upto_region 16 with fail
  clear u0 u1 u2 u3 uf hw11
  by_cases hle0:le=0
  case neg =>
   have t0:(le != 0)=true:=by simpa using hle0
   obtain⟨W9,e9,y0,y1,y2,y3,hfin⟩:=hzero.out le w11 _ _ _ _ l g11'.out (B11.out) (fun _ _=>hwl.out) (by rw[hpart.out,hG'.out,if_neg (fun h=>h rfl),hle,if_pos hle0])
   replace hfin:=Za hfin
   go_wp2_with fail
   exact bodyPost_ret (v:=.tuple #[.agg #[.slice none 0 0,.slice none 0 0,.slice none 0 0,.slice none 0 0],.int .i64 0,.int .i64 le]) (by simp[results,Tryz.results22,go_sem,y0,y1,y2,y3]) rfl hfin.out
  subst hle0
  obtain⟨W9,hW9,g12,gr12,gs12⟩:=Zs (a':=.slice ra.1 ra.2.1 ra.2.2) (b':=.slice rb.1 rb.2.1 rb.2.2) (c':=.slice rc.1 rc.2.1 rc.2.2) (d':=.slice rd.1 rd.2.1 rd.2.2) g11'.out
  obtain⟨y0,y1,y2,y3,_,_⟩:=Ze g12
  have hfin:Hid (Z4q s a x w (.returned (.tuple #[.agg #[.slice ra.1 ra.2.1 ra.2.2,.slice rb.1 rb.2.1 rb.2.2,.slice rc.1 rc.2.1 rc.2.2,.slice rd.1 rd.2.1 rd.2.2],.int .i64 gn,.int .i64 0])) W9):=Za (by
   have hp:Zlo s a x l=(0,lvV gs a,gn):=by rw[hpart.out,hG'.out,if_neg (fun h=>h rfl),hle,if_neg (fun h=>h rfl)]
   exact⟨l,ra,rb,rc,rd,fun _ _=>hwl.out,by rw[hp],by rw[hp];exact(S11.out.grown gr12 (fun q e=>by cases e;exact hlt9.out)).new B9.out.size (Below.refl _ _),B11.out.grown gr12 B11.out.size (fun q e=>by cases e;have:=SZ.out;omega)⟩)
  replace g12:=Za g12
  clear gr12 gs12
  go_wp2_with fail
  exact bodyPost_ret (v:=.tuple #[.agg #[.slice ra.1 ra.2.1 ra.2.2,.slice rb.1 rb.2.1 rb.2.2,.slice rc.1 rc.2.1 rc.2.2,.slice rd.1 rd.2.1 rd.2.2],.int .i64 gn,.int .i64 0]) (by simp[results,Tryz.results22,go_sem,y0,y1,y2,y3]) rfl hfin.out
 subst h6
 have hpa:=Zs9 A m c l w5.heap.size w6 (by have:=hW'.out.row;rw[hm.out] at this;exact this) hm.out (by omega) (fun q hq'=>(hq.out q hq').2.1)
 obtain⟨pf,hpf⟩:∃ q,Zcd l.reverse 1=q:=⟨_,rfl⟩
 rw[hpf] at hpa
 go_wp2_with fail
 with_reducible refine hpa.mono ?_
 rintro e w7 ⟨rfl,hb7⟩
 have BW:=Za hb7
 clear hb7 hpa k0 k1 k2 k3 n0 n1 n2 n3 n4 u0 u1 u2 u3 uf c6c
 obtain⟨c7a,c7b,c7c⟩:=KC.out w7 (B6.out.trans (BW.out.mono B6.out.size))
 obtain⟨k0,k1,k2,k3,_⟩:=Ze c7a
 obtain⟨n0,n1,n2,n3,n4,_⟩:=Zt c7b
 obtain⟨u0,u1,u2,u3,uf,_⟩:=Ze c7c
 clear c7a c7b
 cases pf with
 | true =>
  obtain⟨W9,e9,y0,y1,y2,y3,hfin⟩:=hzero.out 120 w7 _ _ _ _ l c7c ((B3.out.trans (B6.out.mono B3.out.size)).trans (BW.out.mono (B3.out.trans (B6.out.mono B3.out.size)).size)) (fun _ _=>hwl.out) (by rw[hdone2.out,if_pos ⟨hpl2.out.2 (by trivial),hpf⟩])
  replace hfin:=Za hfin
  go_wp2_with fail
  exact bodyPost_ret (v:=.tuple #[.agg #[.slice none 0 0,.slice none 0 0,.slice none 0 0,.slice none 0 0],.int .i64 0,.int .i64 120]) (by simp[results,Tryz.results22,go_sem,y0,y1,y2,y3]) rfl hfin.out
 | false =>
  have hpart:Hid (Zlo s a x l=if (Xa s l x).1≠0 then ((Xa s l x).1,Zh,0)
   else if lvE (Xa s l x).2.1 a≠0 then (lvE (Xa s l x).2.1 a,Zh,0)
   else (0,lvV (Xa s l x).2.1 a,(Xa s l x).2.2)):=Za (by rw[hdone2.out,if_neg (fun h=>by rw[hpf] at h;cases h.2)])
  have hgrw:=Za (Zpd w.heap.size w5.heap.size (by have:=B3.out.size;have:=B5.out.size;omega) qa qb qc qd s A m c l E ce x w7 (by have:=hB56.out.size;have:=BW.out.size;omega)
   (hS0.out.map fun p v hp hc=>⟨hp,((B3.out.trans (B6.out.mono B3.out.size)).trans (BW.out.mono (B3.out.trans (B6.out.mono B3.out.size)).size)).cell hp |>.trans hc⟩)
   (by have:=(hW'.out.below BW.out).row;rw[hm.out] at this;exact this) hm.out hm6 (hW'.out.below BW.out).rows hW'.out.off hq.out
   (hX0.out.map fun p v hp hc=>⟨hp,((B3.out.trans (B6.out.mono B3.out.size)).trans (BW.out.mono (B3.out.trans (B6.out.mono B3.out.size)).size)).cell hp |>.trans hc⟩))
  have hgrw':=hgrw.out
  unfold itV at hgrw'
  have hgrw:=Za hgrw'
  clear hgrw'
  go_upto_region 12 with fail
  go_wp2_with fail
  with_reducible refine hgrw.out.mono ?_
  rintro e w8 ⟨pa,pb,pc,pd,rfl,hS8,hb8⟩
  clear k0 k1 k2 k3 n0 n1 n2 n3 n4 u0 u1 u2 u3 uf hgrw
  have hc8:=Za ((hb8.block w2.heap.size (by have:=SZ.out;have:=B5.out.size;omega)).trans (KC.out w7 (B6.out.trans (BW.out.mono B6.out.size))).2.2)
  have BwW:=(B3.out.trans (B6.out.mono B3.out.size)).trans (BW.out.mono (B3.out.trans (B6.out.mono B3.out.size)).size)
  have B8:=Za (BwW.trans (hb8.mono (by have:=B3.out.size;have:=B5.out.size;omega)))
  clear BwW
  obtain⟨G,hG⟩:∃ q,Xa s l x=q:=⟨_,rfl⟩
  obtain⟨ge,gs,gn⟩:=G
  rw[hG] at hS8 ⊢
  obtain⟨u0,u1,u2,u3,uf,_⟩:=Ze hc8.out
  obtain⟨w9,hw9,g9,gr9,gs9⟩:=Zs (a':=.slice pa.1 pa.2.1 pa.2.2) (b':=.slice pb.1 pb.2.1 pb.2.2) (c':=.slice pc.1 pc.2.1 pc.2.2) (d':=.slice pd.1 pd.2.1 pd.2.2) hc8.out
  have B9:=Za (B8.out.grown gr9 B8.out.size (fun q e=>by cases e;have:=SZ.out;omega))
  have S9:Hid (Sto (Old w9) w9 (.agg #[.slice pa.1 pa.2.1 pa.2.2,.slice pb.1 pb.2.1 pb.2.2,.slice pc.1 pc.2.1 pc.2.2,.slice pd.1 pd.2.1 pd.2.2]) gs):=Za (hS8.map fun p v hp hc=>by
   have hb:=gr9.block p.block hp.2 (fun e=>by have:=Option.some.inj e;have:=SZ.out;have:=B6.out.size;have:=BW.out.size;rcases hp.1 with h | h <;> omega)
   exact⟨Nat.lt_of_lt_of_le hp.2 gr9.size,(World.cell?_of_block hb).trans hc⟩)
  have hG':=Za hG
  obtain⟨k0,k1,k2,k3,kf,_⟩:=Ze g9
  have g9':=Za g9
  have hgs:=Za gs9
  clear hS8 hb8 hG gr9 gs9 g9
  replace hc8:=Za hc8
  go_upto_region 13 with fail
  clear u0 u1 u2 u3 uf hw9
  by_cases hge:ge=0
  case neg =>
   have t0:(ge != 0)=true:=by simpa using hge
   obtain⟨W9,e9,y0,y1,y2,y3,hfin⟩:=hzero.out ge w9 _ _ _ _ l g9'.out (B9.out) (fun _ _=>hwl.out) (by rw[hpart.out,hG'.out,if_pos hge])
   replace hfin:=Za hfin
   go_wp2_with fail
   exact bodyPost_ret (v:=.tuple #[.agg #[.slice none 0 0,.slice none 0 0,.slice none 0 0,.slice none 0 0],.int .i64 0,.int .i64 ge]) (by simp[results,Tryz.results22,go_sem,y0,y1,y2,y3]) rfl hfin.out
  subst hge
  have hlv:=Zbr _ gs a w9 S9.out
  obtain⟨le,hle⟩:∃ q,lvE gs a=q:=⟨_,rfl⟩
  rw[hle] at hlv
  go_upto_region 15 with fail
  go_wp2_with fail
  with_reducible refine hlv.mono ?_
  rintro e w10 ⟨ra,rb,rc,rd,rfl,hS10,hb10⟩
  clear k0 k1 k2 k3 kf hlv
  have hc10:=(hb10.block w2.heap.size (by have:=SZ.out;have:=B9.out.size;have:=hgs.out;have:=(Array.getElem?_eq_some_iff.1 g9'.out).1;omega)).trans g9'.out
  obtain⟨u0,u1,u2,u3,uf,_⟩:=Ze hc10
  obtain⟨w11,hw11,g11,gr11,gs11⟩:=Zs (a':=.slice ra.1 ra.2.1 ra.2.2) (b':=.slice rb.1 rb.2.1 rb.2.2) (c':=.slice rc.1 rc.2.1 rc.2.2) (d':=.slice rd.1 rd.2.1 rd.2.2) hc10
  have B11:=Za ((B9.out.trans (hb10.mono B9.out.size)).grown gr11 (B9.out.trans (hb10.mono B9.out.size)).size (fun q e=>by cases e;have:=SZ.out;omega))
  have hlt9:=Za (show w2.heap.size<w9.heap.size from (Array.getElem?_eq_some_iff.1 g9'.out).1)
  have S11:=Za (hS10.grown gr11 (fun q e=>by cases e;exact hlt9.out))
  obtain⟨k0,k1,k2,k3,kf,_⟩:=Ze g11
  have g11':=Za g11
  clear hS10 hb10 hc10 gr11 gs11 g11
  go_upto_region 16 with fail
  clear u0 u1 u2 u3 uf hw11
  by_cases hle0:le=0
  case neg =>
   have t0:(le != 0)=true:=by simpa using hle0
   obtain⟨W9,e9,y0,y1,y2,y3,hfin⟩:=hzero.out le w11 _ _ _ _ l g11'.out (B11.out) (fun _ _=>hwl.out) (by rw[hpart.out,hG'.out,if_neg (fun h=>h rfl),hle,if_pos hle0])
   replace hfin:=Za hfin
   go_wp2_with fail
   exact bodyPost_ret (v:=.tuple #[.agg #[.slice none 0 0,.slice none 0 0,.slice none 0 0,.slice none 0 0],.int .i64 0,.int .i64 le]) (by simp[results,Tryz.results22,go_sem,y0,y1,y2,y3]) rfl hfin.out
  subst hle0
  obtain⟨W9,hW9,g12,gr12,gs12⟩:=Zs (a':=.slice ra.1 ra.2.1 ra.2.2) (b':=.slice rb.1 rb.2.1 rb.2.2) (c':=.slice rc.1 rc.2.1 rc.2.2) (d':=.slice rd.1 rd.2.1 rd.2.2) g11'.out
  obtain⟨y0,y1,y2,y3,_,_⟩:=Ze g12
  have hfin:Hid (Z4q s a x w (.returned (.tuple #[.agg #[.slice ra.1 ra.2.1 ra.2.2,.slice rb.1 rb.2.1 rb.2.2,.slice rc.1 rc.2.1 rc.2.2,.slice rd.1 rd.2.1 rd.2.2],.int .i64 gn,.int .i64 0])) W9):=Za (by
   have hp:Zlo s a x l=(0,lvV gs a,gn):=by rw[hpart.out,hG'.out,if_neg (fun h=>h rfl),hle,if_neg (fun h=>h rfl)]
   exact⟨l,ra,rb,rc,rd,fun _ _=>hwl.out,by rw[hp],by rw[hp];exact(S11.out.grown gr12 (fun q e=>by cases e;exact hlt9.out)).new B9.out.size (Below.refl _ _),B11.out.grown gr12 B11.out.size (fun q e=>by cases e;have:=SZ.out;omega)⟩)
  replace g12:=Za g12
  clear gr12 gs12
  go_wp2_with fail
  exact bodyPost_ret (v:=.tuple #[.agg #[.slice ra.1 ra.2.1 ra.2.2,.slice rb.1 rb.2.1 rb.2.2,.slice rc.1 rc.2.1 rc.2.2,.slice rd.1 rd.2.1 rd.2.2],.int .i64 gn,.int .i64 0]) (by simp[results,Tryz.results22,go_sem,y0,y1,y2,y3]) rfl hfin.out
theorem Zt9 {z:It} {i:Nat} (h:8≤z.2.1):Xp [z] i=if i=z.2.1.toNat then 1 else 0:=by
 show (if z.2.1=(i:Int) then (if z.2.1=0 then 0 else 1) else 0)+0=_
 by_cases e:i=z.2.1.toNat
 ·rw[if_pos (show z.2.1=(i:Int) by omega),if_neg (show ¬ z.2.1=0 by omega),if_pos e]
 ·rw[if_neg (show ¬ z.2.1=(i:Int) by omega),if_neg e]
theorem Zkz:∀ (l:List It) (v:Rm),(Zkn v l).1=v.1
 | [],_=>rfl
 | q::r,v=>by rw[Zmm,Zkz r];rfl
theorem Z0s {s u1 T:Rm} {a:Int} {x:It} {up top:List It} {l:Nat} {P:Nat→Nat} {N N1:List Int} (hl:l<6) (G:Zhn s u1 P N N1 l a up x Za0 false) (h:X5 u1 (l:Int) up=(0,T,top)) :
  ∃ (L:Nat) (z:It) (N2:List Int),Zfk top=z.2.1∧X3 s T∧Yt T L z.2.1 z.1 Za0 false=true∧Za7 T L z.2.1=Vi (Za7 s l a) x∧Enf T.1 T.2.1 (fun i=>P i+if i=z.2.1.toNat then 1 else 0) N2∧(∀ m∈N,m∈N2)∧z.2.1∈N2∧8≤z.2.1∧T.1.2.length≤s.1.2.length+2*(l+1)+1∧l≤L∧L≤l+1:=by
 obtain⟨z,r,ez,_⟩:=G.first
 rcases Zuk h with ⟨h1,rfl,rfl⟩ | ⟨h1,u0,h2,rfl⟩
 ·have hr:r=[]:=by
   rw[ez] at h1
   cases r with
   | nil=>rfl
   | cons _ _=>simp at h1
  subst hr
  obtain⟨f1,f2,f3,f4⟩:=G.ups z (by rw[ez];exact List.mem_cons_self)
  have hi:=G.its
  have ha:=G.all
  rw[ez] at hi ha
  refine⟨l,z,N1,by rw[ez];rfl,G.keep,hi,?_,G.enf.same fun i=>by rw[ez,Zt9 f2],G.more,f1,f2,?_,Nat.le_refl _,by omega⟩
  ·rw[← ha,List.flatMap_cons]
   simp
  ·have:=G.writes
   omega
 ·have hne:up≠[]:=by rw[ez];simp
  have hfew:=G.few
  rcases Vf h2 with ⟨m1,em,et⟩ | ⟨m0,_⟩
  ·have m2:=(Z2 (Zq6 m1).2.1).1.2.1
   have hin:InN ((l:Int)+1,up):=⟨⟨by show (-9223372036854775808:Int)≤(l:Int)+1;omega,by show (l:Int)+1≤9223372036854775807;omega⟩,G.inI⟩
   have hrow:Zsf u1 (l+1) up Za0 false (Vi (Za7 s l a) x):=⟨G.its,G.all.symm⟩
   have ec:((l:Int)+1)=((l+1:Nat):Int):=by omega
   obtain⟨N2,e1,k2,e3,e4,e5,e6,_,_⟩:=Zbf h2 hin G.enf fun _ q hq=>by
    obtain⟨f1,f2,_,f4⟩:=G.ups q hq
    exact⟨f1,by omega,by omega⟩
   obtain⟨k3,e9⟩:=Zkd up (s:=u0) (P:=fun i=>P i+Xp top i) (N:=N2) k2.may (e1.same fun i=>by show P i+Xp top i+Xp up i=P i+Xp up i+Xp top i;omega) fun q hq=>by
    obtain⟨_,f2,_,_⟩:=G.ups q hq
    obtain⟨n,hn,hqn⟩:=e6 q hq
    exact⟨by omega,n,hn,q,hqn,rfl⟩
   rw[ec] at m1 em et hin
   obtain⟨g1,g2⟩:=Zc0 m1 hin hne hrow
   rw[← em] at g1 g2
   obtain⟨f1,f2,f3,f4⟩:=e5 (upI up (mkN u1 (((l+1:Nat):Int),up))) (by rw[et];exact List.mem_cons_self)
   obtain⟨g3,g4,_⟩:=Y0 k3 (l+1) _ _ _ _ g1
   refine⟨l+1,upI up (mkN u1 (((l+1:Nat):Int),up)),N2,by rw[et];rfl,X8 (X8 G.keep k2) k3,g3,g4.trans g2,e9.same fun i=>by rw[et,Zt9 f2],fun m hm=>e3 m (G.more m hm),f1,f2,?_,by omega,Nat.le_refl _⟩
   rw[Zkz,em]
   obtain⟨k,_,_,_,_,_,_,hV,_⟩:=X6 m1
   rw[hV]
   have:=G.writes
   simp only[wrD,List.length_append,List.length_cons,List.length_nil]
   omega
  ·omega
theorem Zz7 {s:Rm} {P:Nat→Nat} {N:List Int} (hm:Xq s=true) (hE:Enf s.1 s.2.1 P N) {i n:Int} {z:It} (h8:8≤i) (h256:i<256) (hn:n∈N) (hz:z∈(ndD s.1 n).2) (e:z.2.1=i):asE s i=0:=by
 have h1:=hE.enough i.toNat
 have h2:=Zd9 hz (k:=i.toNat) (by omega) (by omega)
 have h3:=Zjm (d:=s.1) (k:=i.toNat) hn
 have h4:=Zby (s:=s) (k:=i.toNat) hm (by omega) (by omega) (Zag.1 (by omega))
 rwa [show ((i.toNat:Nat):Int)=i by omega] at h4
theorem Zz1 {s:Rm} {i:Int} (h:asE s i=0):loV s i=Zak s i:=by
 unfold loV
 rw[if_pos h]
 rfl
theorem Zn5:∀ (l:List It) {s:Rm} {P:Nat→Nat} {N:List Int},Xq s=true→Enf s.1 s.2.1 (fun i=>P i+Xp l i) N→(∀ x∈l,(8≤x.2.1∧x.2.1<256)∧∃ n∈N,∃ z∈(ndD s.1 n).2,z.2.1=x.2.1)→Zhy l s=(0,Zkn s l)
 | [],_,_,_,_,_,_=>rfl
 | x::l,s,P,N,hm,hE,hr=>by
  obtain⟨h0,n,hn,z,hz,e⟩:=hr x List.mem_cons_self
  have ha:=Zz7 hm hE h0.1 h0.2 hn hz e
  obtain⟨k1,e1⟩:=Zoo (P:=fun i=>P i+Xp l i) hm (hE.same fun i=>by
   have ec:Xp (x::l) i=(if x.2.1=(i:Int) then (if x.2.1=0 then 0 else 1) else 0)+Xp l i:=rfl
   show P i+Xp l i+(if i=x.2.1.toNat then 1 else 0)=P i+Xp (x::l) i
   rw[ec]
   by_cases e:x.2.1=(i:Int)
   ·rw[if_pos e,if_neg (show ¬ x.2.1=0 by omega),if_pos (show i=x.2.1.toNat by omega)];omega
   ·rw[if_neg e,if_neg (show ¬ i=x.2.1.toNat by omega)];omega) (a:=x.2.1) (by omega) ⟨n,hn,z,hz,e⟩
  have e2:=Zn5 l (s:=Zak s x.2.1) (P:=P) (N:=N) k1.may e1 fun y hy=>hr y (List.mem_cons_of_mem _ hy)
  unfold Zhy
  rw[if_neg (by omega),if_pos ha,Zz1 ha,e2]
  rfl
theorem Zma:∀ (A:List Sv) (q:Sv) (s:Rm) (F:List It),Xh (A++[q]) s F=if (Xh A s F).1=0 then Xh [q] (Xh A s F).2.1 (Xh A s F).2.2 else ((Xh A s F).1,Zh,[])
 | [],q,s,F=>by
  rw[List.nil_append]
  show _=if (0:Int)=0 then Xh [q] s F else _
  rw[if_pos rfl]
 | p::A,q,s,F=>by
  have e:∀ B,Xh (p::B) s F=if (Vr s p.nd.1 (Xx p F) F).1=0 then Xh B (Vr s p.nd.1 (Xx p F) F).2.1 (Vr s p.nd.1 (Xx p F) F).2.2 else ((Vr s p.nd.1 (Xx p F) F).1,Zh,[]):=fun _=>rfl
  rw[List.cons_append,e,e]
  by_cases h:(Vr s p.nd.1 (Xx p F) F).1=0
  ·rw[if_pos h,if_pos h]
   exact Zma A q _ _
  ·rw[if_neg h,if_neg h,if_neg h]
theorem Zk2 (q:Sv) (s:Rm) (F:List It):Xh [q] s F=if (Vr s q.nd.1 (Xx q F) F).1=0 then (0,(Vr s q.nd.1 (Xx q F) F).2.1,(Vr s q.nd.1 (Xx q F) F).2.2) else ((Vr s q.nd.1 (Xx q F) F).1,Zh,[]):=rfl
theorem Zl1:∀ (A:List Sv) (q:Sv) (m:Nat),A≠[]→Zcd (A++[q]) m=(Zcd A m&&decide (5<Zqc q 2))
 | [],_,_,h=>absurd rfl h
 | [p],q,m,_=>by
  show (if Zqc p m≤5 then false else if Zqc q 2≤5 then false else true)=((if Zqc p m≤5 then false else true)&&decide (5<Zqc q 2))
  split
  ·rfl
  ·by_cases h:Zqc q 2≤5
   ·rw[if_pos h];simp;omega
   ·rw[if_neg h];simp;omega
 | p::p'::A,q,m,_=>by
  rw[List.cons_append]
  unfold Zcd
  split
  ·rfl
  ·exact Zl1 (p'::A) q 2 (List.cons_ne_nil _ _)
theorem Zpl {s:Rm} {l:Nat} {a:Int} {tb:Ky} {e:Bool} {x:It} {N:List Int} {Q:Nat→Nat} (ht:Zse s (l+1) a tb e) (hb:e=true→Zp x.1 tb=true) (ha:a∈N) (hE:Enf s.1 s.2.1 Q N) :
  ∃ tb' e',Zse s l (Zb0 (rmV s a) x.1) tb' e'∧(e'=true→Zp x.1 tb'=true)∧Zb0 (rmV s a) x.1∈N:=by
 have hm:=(Ys ht.ok).1
 have hne:0<(rmV s a).2.length:=(Z2 hm).1.2.2.2 (by rw[ht.lv];omega)
 obtain⟨y,hy⟩:∃ y,(rmV s a).2[Xb (rmV s a) x.1]? = some y:=⟨_,List.getElem?_eq_getElem (Zc6 x.1 hne)⟩
 have hw:=Zjg hy
 have hyin:y∈(rmV s a).2:=List.mem_of_getElem? hy
 rw[Zk3 hy]
 have hbe:=fun(i:Nat) (c:It) (hi:Xb (rmV s a) x.1<i) (hc:(rmV s a).2[i]? = some c)=>Zh6 hm hi hc
 have hCk:∀ c r,(rmV s a).2.drop (Xb (rmV s a) x.1+1)=c::r→Zp x.1 c.1=true:=fun c r hc=>by
  refine hbe (Xb (rmV s a) x.1+1) c (by omega) ?_
  have:=congrArg (fun l=>l[0]?) hc
  simpa [List.getElem?_drop] using this
 generalize hAe:(rmV s a).2.take (Xb (rmV s a) x.1)=A at *
 generalize hCe:(rmV s a).2.drop (Xb (rmV s a) x.1+1)=C at *
 have hinn:Zb1 (Yt s l) (rmV s a).2 tb e=true:=ht.inn
 rw[hw] at hinn
 rw[V5,Bool.and_eq_true,Zao,Bool.and_eq_true] at hinn
 obtain⟨iA,iy,iC⟩:=hinn
 obtain⟨hty,_⟩:=Zme iy
 refine⟨_,_,hty,fun he => ?_,?_⟩
 ·cases hC:C with
  | nil=>rw[hC] at he;exact hb he
  | cons c r=>exact hCk c r hC
 ·have hnd:ndD s.1 a=rmV s a:=Zmp ht.ok
  exact(hE.shut a ha (by rw[hnd,ht.lv];omega) y (by rw[hnd];exact hyin)).1
theorem Znr {s:Rm} {a:Int} {x:It} {N:List Int} {Q:Nat→Nat} {l0:Nat} (ht:Zse s l0 a Za0 false) (ha:a∈N) (hE:Enf s.1 s.2.1 Q N):∀ j,j≤l0→∃ tb e,Zse s (l0-j) (atW s x.1 a j) tb e∧(e=true→Zp x.1 tb=true)∧atW s x.1 a j∈N
 | 0,_=>⟨Za0,false,ht,(nomatch ·),ha⟩
 | j+1,hj=>by
  obtain⟨tb,e,h1,h2,h3⟩:=Znr ht ha hE j (by omega)
  rw[show l0-j=(l0-(j+1))+1 by omega] at h1
  exact Zpl h1 h2 h3 hE
theorem Zy0 {x:It} (hx:InI x) (hmx:Zap x=true) {s:Rm} {a:Int} {tb:Ky} {e:Bool} {P:Nat→Nat} {N:List Int} (ht:Zse s 0 a tb e) (hE:Enf s.1 s.2.1 (fun i=>P i+Zbh x i) N) {q:Sv} (hq:q.nd=rmV s a) (hst:(q.pl,q.inst)=Zf0 q.nd x.1) :
  Xh [q] s [x]=Zn x 0 s a:=by
 have h0:q.nd.1=0:=by rw[hq,ht.lv];rfl
 have eL:Xx q [x]=Zai (rmV s a).2 (Zz (rmV s a) x.1) (if Yg (rmV s a) x.1=true then 1 else 0) [x]:=by
  unfold Zf0 at hst
  rw[if_pos h0] at hst
  simp only[Prod.mk.injEq] at hst
  unfold Xx Zai
  rw[hst.1,hst.2,hq]
 rw[Zk2,h0,eL]
 unfold Zn Vr
 by_cases hb:(Zq s 0 (Zai (rmV s a).2 (Zz (rmV s a) x.1) (if Yg (rmV s a) x.1=true then 1 else 0) [x])).1=0
 ·rw[if_pos hb,if_pos hb]
  generalize hbb:Zq s 0 (Zai (rmV s a).2 (Zz (rmV s a) x.1) (if Yg (rmV s a) x.1=true then 1 else 0) [x])=b at hb
  obtain⟨z,u0,up⟩:=b
  obtain rfl:z=0:=hb
  have hm:=(Ys ht.ok).1
  have el:Zai (rmV s a).2 (Zz (rmV s a) x.1) (if Yg (rmV s a) x.1=true then 1 else 0) [x]=Vi (rmV s a).2 x:=Zf5 hm x
  rw[el] at hbb
  have hi:InN ((0:Int),Vi (rmV s a).2 x):=⟨⟨by simp,by simp⟩,fun y hy=>by
   rcases Zce.1 hy with rfl | ⟨hy,_⟩
   ·exact hx
   ·exact(Zh4 ht.ok).it y hy⟩
  obtain⟨N',e1,k1,e3,e4,e5,e6,e7,e8⟩:=Zbf hbb hi hE fun h0=>absurd rfl h0
  have hlo:Zhy [x] u0=(0,if x.2.1=0 then u0 else Zak u0 x.2.1):=by
   by_cases hx0:x.2.1=0
   ·rw[if_pos hx0]
    unfold Zhy
    rw[if_pos hx0]
    rfl
   ·rw[if_neg hx0]
    obtain⟨n,hn,hxn⟩:=e6 x (Zce.2 (.inl rfl))
    have hr:=(Zae hmx).1
    have ha:=Zz7 k1.may e1 (i:=x.2.1) (by omega) (by omega) hn hxn rfl
    unfold Zhy
    rw[if_neg hx0,if_pos ha,Zz1 ha]
    rfl
  rw[hlo]
  rfl
 ·rw[if_neg hb,if_neg hb,if_neg hb]
theorem Zp8 {x:It} (hx:InI x) (hmx:Zap x=true) {s:Rm} {a:Int} {P:Nat→Nat} {N:List Int} {l0:Nat} (h6:l0<6) (ht:Zse s l0 a Za0 false) (ha:a∈N) (hr:x.2.1=0∨(0<x.2.1∧s.2.1[x.2.1.toNat]?.getD 0≠0))
  (hE:Enf s.1 s.2.1 (fun i=>P i+Zbh x i) N) {l:List Sv} (hll:l.length=l0+1) (are:∀ i q,l[i]? = some q→q.nd=rmV s (atW s x.1 a i)∧(q.pl,q.inst)=Zf0 q.nd x.1) :
  ∀ (d j:Nat),j+d=l0→Xh (l.drop j).reverse s [x]=Zn x d s (atW s x.1 a j)
 | 0,j,hj=>by
  obtain⟨tb,e,h1,h2,h3⟩:=Znr (x:=x) ht ha hE j (by omega)
  have hjl:j<l.length:=by omega
  obtain⟨q,hq⟩:∃ q,l[j]? = some q:=⟨_,List.getElem?_eq_getElem hjl⟩
  have hd:l.drop j=[q]:=by
   rw[List.drop_eq_getElem_cons hjl,(List.getElem?_eq_some_iff.1 hq).2,List.drop_of_length_le (by omega)]
  rw[hd,List.reverse_singleton]
  rw[show l0-j=0 by omega] at h1
  exact Zy0 hx hmx h1 hE (are j q hq).1 (are j q hq).2
 | d+1,j,hj=>by
  obtain⟨tb,e,h1,h2,h3⟩:=Znr (x:=x) ht ha hE j (by omega)
  have hjl:j<l.length:=by omega
  obtain⟨q,hq⟩:∃ q,l[j]? = some q:=⟨_,List.getElem?_eq_getElem hjl⟩
  have hd:(l.drop j).reverse=(l.drop (j+1)).reverse++[q]:=by
   rw[List.drop_eq_getElem_cons hjl,(List.getElem?_eq_some_iff.1 hq).2,List.reverse_cons]
  obtain⟨a1,a2⟩:=are j q hq
  rw[show l0-j=d+1 by omega] at h1
  have ih:=Zp8 hx hmx h6 ht ha hr hE hll are d (j+1) (by omega)
  have hat:atW s x.1 a (j+1)=Zb0 (rmV s (atW s x.1 a j)) x.1:=rfl
  generalize atW s x.1 a j=b at *
  rw[hat] at ih
  have hq1:q.nd.1=((d+1:Nat):Int):=by rw[a1,h1.lv]
  have eL:∀ F,Xx q F=Zai (rmV s b).2 (Xb (rmV s b) x.1) 1 F:=fun F=>by
   unfold Zf0 at a2
   rw[if_neg (by omega)] at a2
   simp only[Prod.mk.injEq] at a2
   unfold Xx Zai
   rw[a2.1,a2.2,a1]
   rfl
  rw[hd,Zma,ih]
  conv=>rhs;unfold Zn
  by_cases hg:(Zn x d s (Zb0 (rmV s b) x.1)).1=0
  ·rw[if_pos hg,if_pos hg]
   obtain⟨tb',e',h1',h2',h3'⟩:=Zpl h1 h2 h3 hE
   generalize hgg:Zn x d s (Zb0 (rmV s b) x.1)=g at hg
   obtain⟨z,u1,up1⟩:=g
   obtain rfl:z=0:=hg
   obtain⟨N1,G⟩:=Zf9 hx hr hE d (by omega) h1' h2' h3' hgg
   rw[Zk2,eL,hq1]
   unfold Vr
   by_cases hb:(Zq u1 ((d+1:Nat):Int) (Zai (rmV s b).2 (Xb (rmV s b) x.1) 1 up1)).1=0
   ·rw[if_pos hb,if_pos hb]
    generalize hbb:Zq u1 ((d+1:Nat):Int) (Zai (rmV s b).2 (Xb (rmV s b) x.1) 1 up1)=bb at hb
    obtain⟨z,u2,up⟩:=bb
    obtain rfl:z=0:=hb
    have hm:=(Ys h1.ok).1
    have hin:InN (((d+1:Nat):Int),Zai (rmV s b).2 (Xb (rmV s b) x.1) 1 up1):=⟨⟨by show (-9223372036854775808:Int)≤((d+1:Nat):Int);omega,by show ((d+1:Nat):Int)≤9223372036854775807;omega⟩,fun p hp=>by
     have hN:=(Zh4 h1.ok).it
     rcases List.mem_append.1 hp with hp | hp
     ·exact hN p (List.mem_of_mem_take hp)
     ·rcases List.mem_append.1 hp with hp | hp
      ·exact G.inI p hp
      ·exact hN p (List.mem_of_mem_drop hp)⟩
    have hnd:ndD s.1 b=rmV s b:=Zmp h1.ok
    have hsh:∀ p∈(rmV s b).2,p.2.1∈N1∧p.2.1≠0∧(ndD u1.1 p.2.1).1+1=((d+1:Nat):Int):=fun p hp=>by
     have:=hE.shut b h3 (by rw[hnd,h1.lv];omega) p (by rw[hnd];exact hp)
     rw[hnd,h1.lv] at this
     exact⟨G.more _ this.1,this.2.1,by rw[Zua G.keep hE this.1];exact this.2.2⟩
    obtain⟨N2,e1,k2,e3,e4,e5,e6,e7,e8⟩:=Zbf hbb hin G.enf fun _ p hp=>by
     rcases List.mem_append.1 hp with hp | hp
     ·exact hsh p (List.mem_of_mem_take hp)
     ·rcases List.mem_append.1 hp with hp | hp
      ·obtain⟨f1,f2,f3,f4⟩:=G.ups p hp
       exact⟨f1,by omega,by rw[f4];omega⟩
      ·exact hsh p (List.mem_of_mem_drop hp)
    have hlo:=Zn5 up1 (s:=u2) (P:=fun i=>P i+Xp up i) (N:=N2) k2.may (e1.same fun i=>by show P i+Xp up i+Xp up1 i=P i+Xp up1 i+Xp up i;omega) fun p hp=>by
     obtain⟨_,f2,f3,_⟩:=G.ups p hp
     obtain⟨n,hn,hpn⟩:=e6 p (List.mem_append_right _ (List.mem_append_left _ hp))
     exact⟨⟨f2,f3⟩,n,hn,p,hpn,rfl⟩
    rw[hlo]
    rfl
   ·rw[if_neg hb,if_neg hb,if_neg hb]
  ·rw[if_neg hg,if_neg hg]
theorem Zp4 {x:It} {s:Rm} {a:Int} {l0:Nat} (hT:AtT s l0 a) {l:List Sv} (hll:l.length=l0+1) (are:∀ i q,l[i]? = some q→q.nd=rmV s (atW s x.1 a i)∧(q.pl,q.inst)=Zf0 q.nd x.1) :
  ∀ (d j:Nat),j+d=l0→Zcd (l.drop j).reverse 1=Znd s d (atW s x.1 a j) x.1
 | 0,j,hj=>by
  have h1:=Um (k:=x.1) hT j (by omega)
  have hjl:j<l.length:=by omega
  obtain⟨q,hq⟩:∃ q,l[j]? = some q:=⟨_,List.getElem?_eq_getElem hjl⟩
  have hd:l.drop j=[q]:=by
   rw[List.drop_eq_getElem_cons hjl,(List.getElem?_eq_some_iff.1 hq).2,List.drop_of_length_le (by omega)]
  obtain⟨a1,a2⟩:=are j q hq
  have h5:=(Z2 h1.may).1.2.2.1
  have h0:q.nd.1=0:=by rw[a1,h1.lvl,show l0-j=0 by omega];rfl
  unfold Zf0 at a2
  rw[if_pos h0] at a2
  simp only[Prod.mk.injEq] at a2
  rw[hd,List.reverse_singleton]
  unfold Znd
  rw[← a1] at h5 ⊢
  show (if Zqc q 1≤5 then false else true)=_
  unfold Zqc
  rw[a2.2]
  cases hth:Yg q.nd x.1 with
  | true=>simp;omega
  | false =>
   rw[Bool.eq_iff_iff]
   simp
   omega
 | d+1,j,hj=>by
  have h1:=Um (k:=x.1) hT j (by omega)
  have hjl:j<l.length:=by omega
  obtain⟨q,hq⟩:∃ q,l[j]? = some q:=⟨_,List.getElem?_eq_getElem hjl⟩
  have hd:(l.drop j).reverse=(l.drop (j+1)).reverse++[q]:=by
   rw[List.drop_eq_getElem_cons hjl,(List.getElem?_eq_some_iff.1 hq).2,List.reverse_cons]
  obtain⟨a1,a2⟩:=are j q hq
  have h0:q.nd.1≠0:=by rw[a1,h1.lvl];omega
  unfold Zf0 at a2
  rw[if_neg h0] at a2
  simp only[Prod.mk.injEq] at a2
  have ih:=Zp4 hT hll are d (j+1) (by omega)
  rw[hd,Zl1 _ _ _ (by
   intro e
   have:=congrArg List.length e
   rw[List.length_reverse,List.length_drop] at this
   simp at this
   omega),ih]
  have hat:atW s x.1 a (j+1)=Zb0 (rmV s (atW s x.1 a j)) x.1:=rfl
  rw[hat]
  conv=>rhs;unfold Znd
  rw[Bool.and_comm]
  congr 1
  unfold Zqc
  rw[a2.2,a1]
  simp
  omega
theorem Zw4 {x:It} (hx:InI x) (hmx:Zap x=true) {s:Rm} {a:Int} {P:Nat→Nat} {N:List Int} (ht:X2 s a=true) (ha:a∈N) (hr:x.2.1=0∨(0<x.2.1∧s.2.1[x.2.1.toNat]?.getD 0≠0))
  (hE:Enf s.1 s.2.1 (fun i=>P i+Zbh x i) N) {l:List Sv} (hl:Z01 s x.1 a l) :
  Xa s l x=(if (Zn x (rmV s a).1.toNat s a).1=0 then
   (if (X5 (Zn x (rmV s a).1.toNat s a).2.1 (rmV s a).1 (Zn x (rmV s a).1.toNat s a).2.2).1=0 then
    (0,(X5 (Zn x (rmV s a).1.toNat s a).2.1 (rmV s a).1 (Zn x (rmV s a).1.toNat s a).2.2).2.1,Zfk (X5 (Zn x (rmV s a).1.toNat s a).2.1 (rmV s a).1 (Zn x (rmV s a).1.toNat s a).2.2).2.2)
    else ((X5 (Zn x (rmV s a).1.toNat s a).2.1 (rmV s a).1 (Zn x (rmV s a).1.toNat s a).2.2).1,Zh,0))
   else ((Zn x (rmV s a).1.toNat s a).1,Zh,0)):=by
 obtain⟨r1,ra,_,l0,l6,_⟩:=Uh ht
 have hg:=Zp8 hx hmx (by omega) (Zjs ht) ha hr hE hl.1 hl.2 (rmV s a).1.toNat 0 (by omega)
 rw[List.drop_zero] at hg
 have ell:((l.length:Nat):Int)=(rmV s a).1+1:=by rw[hl.1];omega
 unfold Xa
 rw[hg,ell]
 show (if (Zn x (rmV s a).1.toNat s a).1=0 then _ else _)=_
 by_cases h0:(Zn x (rmV s a).1.toNat s a).1=0
 ·rw[if_pos h0,if_pos h0]
  show (if 1<(Zn x (rmV s a).1.toNat s a).2.2.length then _ else (0,(Zn x (rmV s a).1.toNat s a).2.1,Zfk (Zn x (rmV s a).1.toNat s a).2.2))=_
  show (if 1<(Zn x (rmV s a).1.toNat s a).2.2.length then (if (Vr (Zn x (rmV s a).1.toNat s a).2.1 ((rmV s a).1+1) (Zn x (rmV s a).1.toNat s a).2.2 (Zn x (rmV s a).1.toNat s a).2.2).1=0 then (0,(Vr (Zn x (rmV s a).1.toNat s a).2.1 ((rmV s a).1+1) (Zn x (rmV s a).1.toNat s a).2.2 (Zn x (rmV s a).1.toNat s a).2.2).2.1,Zfk (Vr (Zn x (rmV s a).1.toNat s a).2.1 ((rmV s a).1+1) (Zn x (rmV s a).1.toNat s a).2.2 (Zn x (rmV s a).1.toNat s a).2.2).2.2) else ((Vr (Zn x (rmV s a).1.toNat s a).2.1 ((rmV s a).1+1) (Zn x (rmV s a).1.toNat s a).2.2 (Zn x (rmV s a).1.toNat s a).2.2).1,Zh,0)) else (0,(Zn x (rmV s a).1.toNat s a).2.1,Zfk (Zn x (rmV s a).1.toNat s a).2.2))=_
  generalize hgg:Zn x (rmV s a).1.toNat s a=g at h0
  obtain⟨z,u1,up⟩:=g
  obtain rfl:z=0:=h0
  obtain⟨N1,G⟩:=Zf9 hx hr hE _ (by omega) (Zjs ht) (fun he=>by cases he) ha hgg
  unfold X5
  by_cases h1:1<up.length
  ·rw[if_pos h1,if_pos h1]
   unfold Vr
   by_cases hb:(Zq u1 ((rmV s a).1+1) up).1=0
   ·rw[if_pos hb,if_pos hb]
    generalize hbb:Zq u1 ((rmV s a).1+1) up=b at hb
    obtain⟨z,u0,top⟩:=b
    obtain rfl:z=0:=hb
    have hin:InN ((rmV s a).1+1,up):=⟨⟨by show (-9223372036854775808:Int)≤(rmV s a).1+1;omega,by show (rmV s a).1+1≤9223372036854775807;omega⟩,G.inI⟩
    obtain⟨N2,e1,k2,e3,e4,e5,e6,_,_⟩:=Zbf hbb hin G.enf fun _ q hq=>by
     obtain⟨f1,f2,_,f4⟩:=G.ups q hq
     exact⟨f1,by omega,by omega⟩
    have hlo:=Zn5 up (s:=u0) (P:=fun i=>P i+Xp top i) (N:=N2) k2.may (e1.same fun i=>by show P i+Xp top i+Xp up i=P i+Xp up i+Xp top i;omega) fun p hp=>by
     obtain⟨_,f2,f3,_⟩:=G.ups p hp
     obtain⟨n,hn,hpn⟩:=e6 p hp
     exact⟨⟨f2,f3⟩,n,hn,p,hpn,rfl⟩
    rw[hlo]
    rfl
   ·rw[if_neg hb,if_neg hb,if_neg hb]
    first | done | exact(if_neg hb).symm
  ·rw[if_neg h1,if_neg h1]
   rfl
 ·rw[if_neg h0,if_neg h0]
  rfl
theorem Zpi {x:It} (hx:InI x) {s:Rm} {a:Int} {P:Nat→Nat} {N:List Int} (ht:X2 s a=true) (ha:a∈N) (hr:x.2.1=0∨(0<x.2.1∧s.2.1[x.2.1.toNat]?.getD 0≠0)) (hE:Enf s.1 s.2.1 (fun i=>P i+Zbh x i) N):∀ {G:Int×Rm×Int},
  G=(if (Zn x (rmV s a).1.toNat s a).1=0 then
   (if (X5 (Zn x (rmV s a).1.toNat s a).2.1 (rmV s a).1 (Zn x (rmV s a).1.toNat s a).2.2).1=0 then
    (0,(X5 (Zn x (rmV s a).1.toNat s a).2.1 (rmV s a).1 (Zn x (rmV s a).1.toNat s a).2.2).2.1,Zfk (X5 (Zn x (rmV s a).1.toNat s a).2.1 (rmV s a).1 (Zn x (rmV s a).1.toNat s a).2.2).2.2)
    else ((X5 (Zn x (rmV s a).1.toNat s a).2.1 (rmV s a).1 (Zn x (rmV s a).1.toNat s a).2.2).1,Zh,0))
   else ((Zn x (rmV s a).1.toNat s a).1,Zh,0)) →
  (if G.1≠0 then (G.1,Zh,0) else if lvE G.2.1 a≠0 then (lvE G.2.1 a,Zh,0) else (0,lvV G.2.1 a,G.2.2)) =
  (if (Zn x (rmV s a).1.toNat s a).1=0 then
  if (X5 (Zn x (rmV s a).1.toNat s a).2.1 (rmV s a).1 (Zn x (rmV s a).1.toNat s a).2.2).1=0 then
   match lfO (X5 (Zn x (rmV s a).1.toNat s a).2.1 (rmV s a).1 (Zn x (rmV s a).1.toNat s a).2.2).2.1.1 (X5 (Zn x (rmV s a).1.toNat s a).2.1 (rmV s a).1 (Zn x (rmV s a).1.toNat s a).2.2).2.1.2.1 a.toNat with
   | none=>(8,Zh,0)
   | some v=>(0,((X5 (Zn x (rmV s a).1.toNat s a).2.1 (rmV s a).1 (Zn x (rmV s a).1.toNat s a).2.2).2.1.1,v,(X5 (Zn x (rmV s a).1.toNat s a).2.1 (rmV s a).1 (Zn x (rmV s a).1.toNat s a).2.2).2.1.2.2),Zfk (X5 (Zn x (rmV s a).1.toNat s a).2.1 (rmV s a).1 (Zn x (rmV s a).1.toNat s a).2.2).2.2)
  else ((X5 (Zn x (rmV s a).1.toNat s a).2.1 (rmV s a).1 (Zn x (rmV s a).1.toNat s a).2.2).1,Zh,0)
 else ((Zn x (rmV s a).1.toNat s a).1,Zh,0)):=fun {G} hG=>by
 obtain⟨r1,ra,_,l0,l6,_⟩:=Uh ht
 by_cases h0:(Zn x (rmV s a).1.toNat s a).1=0
 ·rw[if_pos h0] at hG ⊢
  generalize hgg:Zn x (rmV s a).1.toNat s a=g at h0 hG
  obtain⟨z,u1,up⟩:=g
  obtain rfl:z=0:=h0
  obtain⟨N1,W⟩:=Zf9 hx hr hE _ (by omega) (Zjs ht) (fun he=>by cases he) ha hgg
  by_cases h1:(X5 u1 (rmV s a).1 up).1=0
  ·rw[if_pos h1] at hG
   rw[if_pos h1]
   generalize hrr:X5 u1 (rmV s a).1 up=r at h1 hG
   obtain⟨z,T,top⟩:=r
   obtain rfl:z=0:=h1
   have hlv:(rmV s a).1=(((rmV s a).1.toNat:Nat):Int):=by omega
   rw[hlv] at hrr
   obtain⟨L,z,N2,en,k,_⟩:=Z0s (by omega) W hrr
   have haT:=(Vm k ra).1
   subst hG
   show (if (0:Int)≠0 then _ else if lvE T a≠0 then (lvE T a,Zh,0) else (0,lvV T a,Zfk top))=(match lfO T.1 T.2.1 a.toNat with | none=>(8,Zh,0) | some v=>(0,(T.1,v,T.2.2),Zfk top))
   rw[if_neg (fun h=>h rfl)]
   unfold lvE lvV
   rw[if_pos haT,if_pos haT]
   cases lfO T.1 T.2.1 a.toNat with
   | none=>rfl
   | some v=>rfl
  ·rw[if_neg h1] at hG
   rw[if_neg h1]
   subst hG
   exact if_pos h1
 ·rw[if_neg h0] at hG ⊢
  subst hG
  exact if_pos h0
theorem Z1u {x:It} (hx:InI x) {s:Rm} {a:Int} {P:Nat→Nat} {N:List Int} (hck:ckE s a=0) (hci:Ziq s x=0) (ha:a∈N) (hE:Enf s.1 s.2.1 (fun i=>P i+Zbh x i) N) {l:List Sv} (hl:Z01 s x.1 a l):Zlo s a x l=Zjf s a x∧Z5d s a x=Zjf s a x:=by
 obtain⟨ht,hasE,_⟩:=Znj hck
 obtain⟨r1,ra,_,l0,l6,_⟩:=Uh ht
 have hmx:Zap x=true:=by
  unfold Ziq at hci
  split at hci
  ·rename_i h;exact h
  ·cases hci
 have hnr:¬ (x.2.1≠0∧s.2.1[x.2.1.toNat]?.getD 0=0):=fun h=>by
  unfold Ziq at hci
  rw[if_pos hmx,if_pos h] at hci
  cases hci
 have hr:x.2.1=0∨(0<x.2.1∧s.2.1[x.2.1.toNat]?.getD 0≠0):=by
  by_cases h0:x.2.1=0
  ·exact .inl h0
  ·have:=(Zae hmx).1
   exact .inr ⟨by omega,fun h=>hnr ⟨h0,h⟩⟩
 refine⟨?_,by unfold Z5d;rw[if_pos hck,if_pos hmx,if_neg hnr]⟩
 have hp:=Zp4 (x:=x) (Zdn ht) hl.1 hl.2 (rmV s a).1.toNat 0 (by omega)
 rw[List.drop_zero] at hp
 have hp':Zcd l.reverse 1=Znd s (rmV s a).1.toNat a x.1:=hp
 unfold Zlo Zjf
 rw[if_neg (fun h=>h hck),if_neg (fun h=>h hci),hp',Zw4 hx hmx ht ha hr hE hl]
 unfold Znz
 by_cases h5:(rmV s a).1=5
 ·have e5:(rmV s a).1.toNat=5:=by omega
  by_cases hT:Znd s 5 a x.1=true
  ·rw[if_pos ⟨h5,by rw[e5];exact hT⟩,if_pos (by rw[h5,hT];rfl)]
  ·refine(if_neg (fun h=>hT (by rw[← e5];exact h.2))).trans (Eq.trans ?_ (if_neg (fun h=>hT (by simpa [h5] using h))).symm)
   exact Zpi hx ht ha hr hE rfl
 ·refine(if_neg (fun h=>h5 h.1)).trans (Eq.trans ?_ (if_neg (fun h=>h5 (by simp at h;exact h.1))).symm)
  exact Zpi hx ht ha hr hE rfl
def Zcb (x:Int):Ky:=(2,0,x)
theorem Zhk:∀ (l:List It) (t:List UInt8),(∀ y∈l,y.2.1=0)→ctE t l=0∧ctV t l=t
 | [],_,_=>⟨rfl,rfl⟩
 | x::l,t,h=>by
  obtain⟨h1,h2⟩:=Zhk l t fun y hy=>h y (List.mem_cons_of_mem _ hy)
  have h0:=h x List.mem_cons_self
  exact⟨by rw[ctE,if_pos h0];exact h1,by rw[ctV,if_pos h0];exact h2⟩
theorem Zav {s:Rm} {n:Nd} (hm:Xq s=true) (hn:mayN n=true) (hc:ctE s.2.1 n.2=0) {k:Nat} (hf:(Xl s)[0]? = some k) (hw:s.1.2.length<4096):mkE s n=0∧mkN s n=k∧mkV s n=(wrD s.1 k (Xs n),(ctV s.2.1 n.2).set k 1,s.2.2)∧Xq (mkV s n)=true∧k<256:=by
 have hfs:=Zxr hm hn hc
 have hms:=Z20 hm hn hc
 have hT:tkE (ctS s n) (Xs n)=0:=Z0h hms (Zda hn) (fun e=>by rw[hfs] at e;rw[e] at hf;cases hf) hw
 have hK:tkK (ctS s n)=k:=by rw[tkK,hfs,hf];rfl
 obtain⟨_,_,_,_,_,_,_,_,hN,_⟩:=Zwa hT
 rcases Zsn hm hn with ⟨hc',_⟩ | ⟨_,e,e2,_⟩
 ·exact absurd hc hc'
 have hE:=e.trans hT
 have hNk:mkN s n=k:=by rw[e2,hN,hK]
 obtain⟨k',e1,_,h256,_,_,_,hV,hmT,_⟩:=X6 hE
 have hk:k'=k:=by omega
 subst hk
 exact⟨hE,hNk,hV,hmT,h256⟩
theorem Zdd (d:Dk) (T Z:List UInt8):Xl (d,T,Z)=Xl (Zal,T,Z):=by
 unfold Xl Zax Ug
 rfl
structure Lf (s:Rm) (a:Nat) (L:List It) (m:Nat):Prop where
 may:Xq s=true
 now:s.2.1=(Zu 256).set a 1
 last:s.2.2=Zu 256
 seen:Z1 s.1 a=Xs (0,L)
 mayN:mayN (0,L)=true
 inN:InN (0,L)
 at_:a=8∨a=9
 few:s.1.2.length≤m
 refs:∀ y∈L,y.2.1=0
theorem Lf.cnt {s:Rm} {a:Nat} {L:List It} {m:Nat} (h:Lf s a L m):s.2.1[a]?.getD 0=1:=by
 rw[h.now]
 rcases h.at_ with rfl | rfl <;> decide +kernel
theorem Lf.as {s:Rm} {a:Nat} {L:List It} {m:Nat} (h:Lf s a L m):asE s (a:Int)=0 :=
 Zby h.may (by rcases h.at_ with rfl | rfl <;> decide) (by rcases h.at_ with rfl | rfl <;> decide) (by rw[h.cnt];decide)
theorem Lf.rm {s:Rm} {a:Nat} {L:List It} {m:Nat} (h:Lf s a L m):rmE s (a:Int)=0∧rmV s (a:Int)=(0,L):=Zgd h.as h.seen h.mayN h.inN
theorem Lf.tree {s:Rm} {a:Nat} {L:List It} {m:Nat} (h:Lf s a L m):X2 s (a:Int)=true∧Zpx s (a:Int)=L∧ckE s (a:Int)=0∧ckH s (a:Int)=1:=by
 obtain⟨r1,r2⟩:=h.rm
 have ht:X2 s (a:Int)=true:=by
  unfold X2
  rw[r1,r2]
  show (true&&Y2 s L)=true
  unfold Y2
  rw[Bool.true_and,List.all_eq_true]
  intro y hy
  simp[h.refs y hy]
 refine⟨ht,?_,(Zkh h.as ht).1,by rw[(Zkh h.as ht).2,r2];rfl⟩
 unfold Zpx
 rw[r2]
 show Za7 s 0 a=L
 unfold Za7
 rw[r2]
theorem Zmq:∀ (l:List It) (k:Nat),(∀ y∈l,y.2.1=0)→Xp l k=0
 | [],_,_=>rfl
 | x::l,k,h=>by
  show (if x.2.1=(k:Int) then (if x.2.1=0 then 0 else 1) else 0)+Xp l k=0
  rw[Zmq l k fun y hy=>h y (List.mem_cons_of_mem _ hy),if_pos (h x List.mem_cons_self)]
  split <;> rfl
theorem Lf.enf {s:Rm} {a:Nat} {L:List It} {m:Nat} (h:Lf s a L m):Enf s.1 s.2.1 (fun i=>if i=a then 1 else 0) [(a:Int)]:=by
 obtain⟨r1,r2⟩:=h.rm
 have hnd:ndD s.1 (a:Int)=(0,L):=(Zmp r1).trans r2
 obtain⟨q1,_⟩:=Zbe h.mayN h.inN
 have ha:a=8∨a=9:=h.at_
 refine⟨by simp,fun n hn => ?_,fun n hn h0 => ?_,fun n hn => ?_,fun k => ?_⟩
 ·rw[List.mem_singleton.1 hn]
  refine⟨by omega,by omega,?_,?_⟩
  ·rw[show ((a:Int)).toNat=a by omega,h.seen,q1]
  ·rw[show ((a:Int)).toNat=a by omega,Zag,h.cnt]
   decide
 ·rw[List.mem_singleton.1 hn,hnd] at h0
  exact absurd rfl h0
 ·rw[List.mem_singleton.1 hn,hnd]
  exact fun y hy=>.inl (h.refs y hy)
 ·show (if k=a then 1 else 0)+(Xp (ndD s.1 (a:Int)).2 k+0)≤_
  rw[hnd,Zmq L k h.refs]
  by_cases e:k=a
  ·subst e
   unfold Y9
   rw[if_pos rfl,h.cnt]
   decide
  ·rw[if_neg e]
   omega
theorem Zj2 {d:Dk} {t:List UInt8} {a:Nat} {L:List It} (hs:Z1 d a=Xs (0,L)) (hn:mayN (0,L)=true) (hi:InN (0,L)) (h1:t[a]?.getD 0=1) (hr:∀ y∈L,y.2.1=0):lfO d t a=some (t.set a 0):=by
 have he:∀ (f:List UInt8→Nat→Option (List UInt8)) (l:List It) (t:List UInt8),(∀ y∈l,y.2.1=0)→Vj f t l=some t:=fun f l=>by
  induction l with
  | nil=>intro t _;rfl
  | cons x l ih =>
   intro t h
   rw[Vj,if_pos (h x List.mem_cons_self)]
   exact ih t fun y hy=>h y (List.mem_cons_of_mem _ hy)
 obtain⟨r1,r2⟩:=Zbe hn hi
 unfold lfO
 rw[Zb3 (by rw[h1];decide),h1,hs,r1,r2]
 show (if 1<(1:UInt8).toNat then some (t.set a (1-1)) else if (0:Int)=0 then Vj (lvF d 0) (t.set a (1-1)) L else none)=_
 rw[if_neg (by decide),if_pos rfl,he _ _ _ hr]
 rfl
theorem Lf.put {s:Rm} {a:Nat} {L:List It} {m:Nat} (h:Lf s a L m) (hm:m<100) {x:It} (hx:InI x) (hx0:x.2.1=0) (hn:Go.Proofs.YtgmbjnajdfgenaaGreat.mayN (0,Vi L x)=true):∃ s',Zjf s (a:Int) x=(0,s',((17-a:Nat):Int))∧Lf s' (17-a) (Vi L x) (m+1):=by
 obtain⟨r1,r2⟩:=h.rm
 have ha:a=8∨a=9:=h.at_
 have hl5:(Vi L x).length≤5:=(Z2 hn).1.2.2.1
 have hrf:∀ y∈Vi L x,y.2.1=0:=fun y hy=>by
  rcases Zce.1 hy with rfl | ⟨hy,_⟩
  ·exact hx0
  ·exact h.refs y hy
 have hin:InN ((0:Int),Vi L x):=⟨⟨by simp,by simp⟩,fun y hy=>by
  rcases Zce.1 hy with rfl | ⟨hy,_⟩
  ·exact hx
  ·exact h.inN.it y hy⟩
 obtain⟨c1,c2⟩:=Zhk (Vi L x) s.2.1 hrf
 have hfr:(Xl s)[0]? = some (17-a):=by
  have e:s=(s.1,(Zu 256).set a 1,Zu 256):=by rw[← h.now,← h.last]
  rw[e,Zdd]
  rcases ha with rfl | rfl <;> decide +kernel
 obtain⟨m1,m2,m3,m4,_⟩:=Zav h.may hn c1 hfr (by have:=h.few;omega)
 have hb:Zq s 0 (Vi L x)=(0,mkV s (0,Vi L x),[upI (Vi L x) ((17-a:Nat):Int)]):=by
  unfold Zq
  rw[if_pos hl5,if_pos m1,m2]
 have eL:Zai (rmV s (a:Int)).2 (Zz (rmV s (a:Int)) x.1) (if Yg (rmV s (a:Int)) x.1=true then 1 else 0) [x]=Vi (rmV s (a:Int)).2 x:=Zf5 (by rw[r2];exact h.mayN) x
 have hg:Zn x 0 s (a:Int)=(0,mkV s (0,Vi L x),[upI (Vi L x) ((17-a:Nat):Int)]):=by
  unfold Zn
  rw[eL,r2,hb,if_pos rfl,if_pos hx0]
 have hne:a≠17-a:=by omega
 have hlf:lfO (mkV s (0,Vi L x)).1 (mkV s (0,Vi L x)).2.1 a=some ((mkV s (0,Vi L x)).2.1.set a 0):=by
  refine Zj2 (L:=L) ?_ h.mayN h.inN ?_ h.refs
  ·rw[m3]
   exact(Zy hne).trans h.seen
  ·rw[m3]
   show (List.set (ctV s.2.1 (Vi L x)) (17-a) 1)[a]?.getD 0=1
   rw[c2,h.now]
   rcases ha with rfl | rfl <;> decide +kernel
 have hT:(mkV s (0,Vi L x)).2.1.set a 0=(Zu 256).set (17-a) 1:=by
  rw[m3]
  show (List.set (ctV s.2.1 (Vi L x)) (17-a) 1).set a 0=_
  rw[c2,h.now]
  rcases ha with rfl | rfl <;> decide +kernel
 have hZ:(mkV s (0,Vi L x)).2.2=Zu 256:=by rw[m3];exact h.last
 refine⟨((mkV s (0,Vi L x)).1,(Zu 256).set (17-a) 1,Zu 256),?_,⟨?_,rfl,rfl,?_,hn,hin,by omega,?_,hrf⟩⟩
 ·unfold Zjf
  have ht:Znz s (a:Int) x.1=false:=by unfold Znz;rw[r2];rfl
  have e0:(rmV s (a:Int)).1.toNat=0:=by rw[r2];rfl
  have hro:X5 (mkV s (0,Vi L x)) (rmV s (a:Int)).1 [upI (Vi L x) ((17-a:Nat):Int)]=(0,mkV s (0,Vi L x),[upI (Vi L x) ((17-a:Nat):Int)]):=by
   unfold X5
   rw[if_neg (by simp)]
  rw[ht,e0,hg,if_neg (by decide),if_pos rfl]
  show (if (X5 (mkV s (0,Vi L x)) (rmV s (a:Int)).1 [upI (Vi L x) ((17-a:Nat):Int)]).1=0 then _ else _)=_
  rw[hro,if_pos rfl]
  dsimp only
  rw[show ((a:Int)).toNat=a by omega,hlf]
  dsimp only
  rw[hT,hZ]
  rfl
 ·exact Uj (Yb m4).1 (show Zam ((Zu 256).set (17-a) 1)=true by rcases ha with rfl | rfl <;> decide +kernel) Zah
 ·show Z1 (mkV s (0,Vi L x)).1 (17-a)=_
  rw[m3]
  exact Y8
 ·show (mkV s (0,Vi L x)).1.2.length≤m+1
  rw[m3]
  show (wrD s.1 (17-a) (Xs (0,Vi L x))).2.length≤m+1
  rw[Zaa]
  have:=h.few
  omega
def kx (n:Nat):It:=(Zcb n,0,[])
def Ls:Nat→List It
 | 0=>[]
 | n+1=>Ls n++[kx (n+1)]
theorem Zpq:∀ n:Nat,n≤5→Vi (Ls n) (kx (n+1))=Ls (n+1)
 | 0,_ | 1,_ | 2,_ | 3,_ | 4,_ | 5,_=>by decide +kernel
 | n+6,h=>absurd h (by omega)
theorem Zz4:∀ n:Nat,n≤5→mayN (0,Ls n)=true
 | 0,_ | 1,_ | 2,_ | 3,_ | 4,_ | 5,_=>by decide +kernel
 | n+6,h=>absurd h (by omega)
theorem Zgl (n:Nat) (hn:n≤6):∀ x∈Ls n,InI x∧x.2.1=0:=by
 induction n with
 | zero=>intro x hx;cases hx
 | succ n ih =>
  intro x hx
  rcases List.mem_append.1 hx with hx | hx
  ·exact ih (by omega) x hx
  ·rw[List.mem_singleton.1 hx]
   exact⟨⟨⟨⟨by show (0:Int)≤0;omega,by show (0:Int)<4294967296;omega⟩,by show (0:Int)≤((n+1:Nat):Int);omega,by show ((n+1:Nat):Int)<4294967296;omega⟩,by show (-9223372036854775808:Int)≤0;omega,by show (0:Int)≤9223372036854775807;omega⟩,rfl⟩
noncomputable def gS:Nat→Rm×Int
 | 0=>(mkV Zh5 Vk,8)
 | n+1=>((Zjf (gS n).1 (gS n).2 (kx (n+1))).2.1,(Zjf (gS n).1 (gS n).2 (kx (n+1))).2.2)
def gA (n:Nat):Nat:=if n % 2=0 then 8 else 9
theorem Zz3:mkE Zh5 Vk=0∧mkN Zh5 Vk=8∧Lf (mkV Zh5 Vk) 8 [] 1:=by
 have hn:mayN Vk=true:=by decide +kernel
 obtain⟨m1,m2,m3,m4,_⟩:=Zav Z2h hn (by generalize Zh5.2.1=z;rfl) (k:=8) (by rw[Zxs.2];rfl) (by rw[Zh5,Zm1];omega)
 refine⟨m1,m2,m4,?_,?_,?_,hn,⟨⟨by decide,by decide⟩,fun x hx=>by cases hx⟩,.inl rfl,?_,fun y hy=>by cases hy⟩
 ·rw[m3]
  have e:ctV Zh5.2.1 Vk.2=Zu 256:=by
   have e0:Zh5.2.1=Zu 256:=rfl
   rw[e0]
   generalize Zu 256=z
   rfl
  show (ctV Zh5.2.1 Vk.2).set 8 1=_
  rw[e]
 ·rw[m3]
  unfold Zh5
  rfl
 ·rw[m3];exact Y8
 ·rw[m3]
  show (wrD Zh5.1 8 (Xs Vk)).2.length≤1
  rw[Zaa]
  exact Nat.le_refl _
theorem Zn6:∀ n,n≤5→Lf (gS n).1 (gA n) (Ls n) (n+1)∧(gS n).2=(gA n:Int)
 | 0,_=>by
  have e0:gS 0=(mkV Zh5 Vk,8):=by rw[gS]
  have e1:gA 0=8:=rfl
  have e2:Ls 0=[]:=rfl
  rw[e0,e1,e2]
  dsimp only
  refine⟨?_,by decide⟩
  rw[Nat.zero_add]
  exact Zz3.2.2
 | n+1,h=>by
  obtain⟨h1,h2⟩:=Zn6 n (by omega)
  obtain⟨hi,hz⟩:=Zgl (n+1) (by omega) (kx (n+1)) (List.mem_append_right _ (List.mem_singleton.2 rfl))
  obtain⟨s',e,h3⟩:=h1.put (by omega) hi hz (by rw[Zpq n (by omega)];exact Zz4 (n+1) h)
  rw[Zpq n (by omega)] at h3
  have ea:17-gA n=gA (n+1):=by
   unfold gA
   by_cases he:n % 2=0
   ·rw[if_pos he,if_neg (by omega)]
   ·rw[if_neg he,if_pos (by omega)]
  rw[ea] at h3 e
  have e1:gS (n+1)=(s',(gA (n+1):Int)):=by
   show ((Zjf (gS n).1 (gS n).2 (kx (n+1))).2.1,(Zjf (gS n).1 (gS n).2 (kx (n+1))).2.2)=_
   rw[h2,e]
  rw[e1]
  exact⟨h3,rfl⟩
theorem Z33 (n:Nat) (h:n<5):Zjf (gS n).1 (gS n).2 (kx (n+1))=(0,(gS (n+1)).1,(gS (n+1)).2):=by
 obtain⟨h1,h2⟩:=Zn6 n (by omega)
 obtain⟨hi,hz⟩:=Zgl (n+1) (by omega) (kx (n+1)) (List.mem_append_right _ (List.mem_singleton.2 rfl))
 obtain⟨s',e,_⟩:=h1.put (by omega) hi hz (by rw[Zpq n (by omega)];exact Zz4 (n+1) (by omega))
 show _=(0,(Zjf (gS n).1 (gS n).2 (kx (n+1))).2.1,(Zjf (gS n).1 (gS n).2 (kx (n+1))).2.2)
 rw[h2,e]
theorem Zn1 (n:Nat):gS (n+1)=((Zjf (gS n).1 (gS n).2 (kx (n+1))).2.1,(Zjf (gS n).1 (gS n).2 (kx (n+1))).2.2):=by rw[gS]
attribute [irreducible] gS
def upS:List It:=[(Zcb 1,8,[]),(Zcb 4,10,[])]
def Zko:List UInt8:=(((((((((Zu 256).set 9 1).set 8 1).set 10 1).set 8 2).set 10 2).set 11 1).set 8 1).set 10 1).set 9 0
theorem Zj4:∃ T,Zjf (gS 5).1 (gS 5).2 (kx 6)=(0,T,11)∧Xq T=true∧rmE T 11=0∧rmV T 11=(1,upS)∧rmE T 8=0∧rmV T 8=(0,(Ls 6).take 3)∧rmE T 10=0∧rmV T 10=(0,(Ls 6).drop 3)∧T.2.1=Zko∧T.2.2=Zu 256∧T.1.2.length<100:=by
 obtain⟨h,h2⟩:=Zn6 5 (by omega)
 rw[h2]
 generalize (gS 5).1=s at h
 obtain⟨r1,r2⟩:=h.rm
 have e9:gA 5=9:=rfl
 rw[e9] at h r1 r2 ⊢
 have e9i:((9:Nat):Int)=9:=rfl
 rw[e9i] at r1 r2 ⊢
 have hrf:∀ y∈Ls 6,y.2.1=0:=fun y hy=>(Zgl 6 (by omega) y hy).2
 have hin3:InN ((0:Int),(Ls 6).take 3):=⟨⟨by simp,by simp⟩,fun y hy=>(Zgl 6 (by omega) y (List.mem_of_mem_take hy)).1⟩
 have hin4:InN ((0:Int),(Ls 6).drop 3):=⟨⟨by simp,by simp⟩,fun y hy=>(Zgl 6 (by omega) y (List.mem_of_mem_drop hy)).1⟩
 have hn3:mayN (0,(Ls 6).take 3)=true:=by decide +kernel
 have hn4:mayN (0,(Ls 6).drop 3)=true:=by decide +kernel
 have hnu:mayN (1,upS)=true:=by decide +kernel
 have hinu:InN ((1:Int),upS):=⟨⟨by simp,by simp⟩,fun y hy=>by
  simp only[upS,List.mem_cons,List.not_mem_nil,or_false] at hy
  rcases hy with rfl | rfl <;> exact⟨⟨⟨by decide,by decide⟩,by decide,by decide⟩,by decide,by decide⟩⟩
 obtain⟨a1,a2⟩:=Zhk ((Ls 6).take 3) s.2.1 fun y hy=>hrf y (List.mem_of_mem_take hy)
 have hs:s=(s.1,(Zu 256).set 9 1,Zu 256):=by rw[← h.now,← h.last]
 obtain⟨m1,m2,m3,m4,_⟩:=Zav h.may hn3 a1 (k:=8) (by rw[hs,Zdd];decide +kernel) (by have:=h.few;omega)
 obtain⟨U,hU⟩:∃ U,mkV s (0,(Ls 6).take 3)=U:=⟨_,rfl⟩
 rw[hU] at m3 m4
 have hU2:U=(wrD s.1 8 (Xs (0,(Ls 6).take 3)),((Zu 256).set 9 1).set 8 1,Zu 256):=by
  rw[m3]
  show (_,(ctV s.2.1 ((Ls 6).take 3)).set 8 1,s.2.2)=_
  rw[a2,h.now,h.last]
 obtain⟨b1,b2⟩:=Zhk ((Ls 6).drop 3) U.2.1 fun y hy=>hrf y (List.mem_of_mem_drop hy)
 obtain⟨n1,n2,n3,n4,_⟩:=Zav m4 hn4 b1 (k:=10) (by rw[hU2,Zdd];decide +kernel) (by rw[hU2];show (wrD s.1 8 _).2.length<4096;rw[Zaa];have:=h.few;omega)
 obtain⟨V,hV⟩:∃ V,mkV U (0,(Ls 6).drop 3)=V:=⟨_,rfl⟩
 rw[hV] at n3 n4
 have hV2:V=(wrD (wrD s.1 8 (Xs (0,(Ls 6).take 3))) 10 (Xs (0,(Ls 6).drop 3)),(((Zu 256).set 9 1).set 8 1).set 10 1,Zu 256):=by
  rw[n3]
  show (_,(ctV U.2.1 ((Ls 6).drop 3)).set 10 1,U.2.2)=_
  rw[b2,hU2]
 have hVn:V.2.1=(((Zu 256).set 9 1).set 8 1).set 10 1:=by rw[hV2]
 have c1:ctE V.2.1 upS=0:=by rw[hVn];decide +kernel
 obtain⟨o1,o2,o3,o4,_⟩:=Zav n4 hnu c1 (k:=11) (by rw[hV2,Zdd];decide +kernel) (by rw[hV2];show (wrD (wrD s.1 8 _) 10 _).2.length<4096;rw[Zaa,Zaa];have:=h.few;omega)
 obtain⟨W,hW⟩:∃ W,mkV V (1,upS)=W:=⟨_,rfl⟩
 rw[hW] at o3 o4
 have hW2:W=(wrD (wrD (wrD s.1 8 (Xs (0,(Ls 6).take 3))) 10 (Xs (0,(Ls 6).drop 3))) 11 (Xs (1,upS)),((((((Zu 256).set 9 1).set 8 1).set 10 1).set 8 2).set 10 2).set 11 1,Zu 256):=by
  rw[o3]
  show (_,(ctV V.2.1 upS).set 11 1,V.2.2)=_
  rw[hV2]
  have:ctV ((((Zu 256).set 9 1).set 8 1).set 10 1) upS=(((((Zu 256).set 9 1).set 8 1).set 10 1).set 8 2).set 10 2:=by decide +kernel
  show (_,(ctV ((((Zu 256).set 9 1).set 8 1).set 10 1) upS).set 11 1,_)=_
  rw[this]
 have hb:Zq s 0 (Ls 6)=(0,V,upS):=by
  unfold Zq
  rw[if_neg (by decide),if_pos m1,hU,if_pos n1,hV,m2,n2]
  rfl
 have hb2:Zq V ((0:Int)+1) upS=(0,W,[upI upS 11]):=by
  unfold Zq
  rw[if_pos (by decide)]
  show (if mkE V (1,upS)=0 then (0,mkV V (1,upS),[upI upS (mkN V (1,upS))]) else (mkE V (1,upS),Zh,[]))=_
  rw[if_pos o1,hW,o2]
  rfl
 have eL:Zai (rmV s 9).2 (Zz (rmV s 9) (kx 6).1) (if Yg (rmV s 9) (kx 6).1=true then 1 else 0) [kx 6]=Vi (rmV s 9).2 (kx 6):=Zf5 (by
  have:=h.mayN
  rw[show rmV s 9=(0,Ls 5) from r2]
  exact this) _
 have hg:Zn (kx 6) 0 s 9=(0,V,upS):=by
  unfold Zn
  rw[eL,show rmV s 9=(0,Ls 5) from r2]
  show (if (Zq s 0 (Vi (Ls 5) (kx 6))).1=0 then (0,(if (kx 6).2.1=0 then (Zq s 0 (Vi (Ls 5) (kx 6))).2.1 else Zak (Zq s 0 (Vi (Ls 5) (kx 6))).2.1 (kx 6).2.1),(Zq s 0 (Vi (Ls 5) (kx 6))).2.2) else ((Zq s 0 (Vi (Ls 5) (kx 6))).1,Zh,[]))=_
  rw[Zpq 5 (by omega),hb,if_pos rfl,if_pos (show (kx 6).2.1=0 from rfl)]
 obtain⟨F,hF⟩:∃ F,Zkn W upS=F:=⟨_,rfl⟩
 have hF2:F=(wrD (wrD (wrD s.1 8 (Xs (0,(Ls 6).take 3))) 10 (Xs (0,(Ls 6).drop 3))) 11 (Xs (1,upS)),(((((((Zu 256).set 9 1).set 8 1).set 10 1).set 8 2).set 10 2).set 11 1 |>.set 8 1).set 10 1,Zu 256):=by
  rw[← hF,hW2]
  have e:Zkn (wrD (wrD (wrD s.1 8 (Xs (0,(Ls 6).take 3))) 10 (Xs (0,(Ls 6).drop 3))) 11 (Xs (1,upS)),((((((Zu 256).set 9 1).set 8 1).set 10 1).set 8 2).set 10 2).set 11 1,Zu 256) upS=(wrD (wrD (wrD s.1 8 (Xs (0,(Ls 6).take 3))) 10 (Xs (0,(Ls 6).drop 3))) 11 (Xs (1,upS)),(Zkn (Zal,((((((Zu 256).set 9 1).set 8 1).set 10 1).set 8 2).set 10 2).set 11 1,Zu 256) upS).2.1,Zu 256):=rfl
  rw[e]
  have:(Zkn (Zal,((((((Zu 256).set 9 1).set 8 1).set 10 1).set 8 2).set 10 2).set 11 1,Zu 256) upS).2.1=(((((((Zu 256).set 9 1).set 8 1).set 10 1).set 8 2).set 10 2).set 11 1 |>.set 8 1).set 10 1:=by decide +kernel
  rw[this]
 have hFn:F.2.1=((((((((Zu 256).set 9 1).set 8 1).set 10 1).set 8 2).set 10 2).set 11 1).set 8 1).set 10 1:=by rw[hF2]
 have hFz:F.2.2=Zu 256:=by rw[hF2]
 have hro:X5 V 0 upS=(0,F,[upI upS 11]):=by
  unfold X5
  rw[if_pos (by decide),hb2,if_pos rfl]
  show (0,Zkn W upS,_)=_
  rw[hF]
 have hlf:lfO F.1 F.2.1 9=some (F.2.1.set 9 0):=by
  refine Zj2 (L:=Ls 5) ?_ h.mayN h.inN ?_ h.refs
  ·rw[hF2]
   show Z1 (wrD (wrD (wrD s.1 8 _) 10 _) 11 _) 9=_
   rw[Zy (by decide),Zy (by decide),Zy (by decide)]
   exact h.seen
  ·rw[hFn]
   decide +kernel
 have hm:Xq (F.1,F.2.1.set 9 0,F.2.2)=true:=Uj (by rw[hF2,show (wrD (wrD (wrD s.1 8 (Xs (0,(Ls 6).take 3))) 10 (Xs (0,(Ls 6).drop 3))) 11 (Xs (1,upS)))=W.1 by rw[hW2]];exact(Yb o4).1) (show Zam (F.2.1.set 9 0)=true by rw[hFn];decide +kernel) (show Zam F.2.2=true by rw[hFz];exact Zah)
 have hseen:∀ k n,Z1 F.1 k=Xs n→mayN n=true→InN n→8≤k→k<256→(F.2.1.set 9 0)[k]?.getD 0≠0→rmE (F.1,F.2.1.set 9 0,F.2.2) (k:Int)=0∧rmV (F.1,F.2.1.set 9 0,F.2.2) (k:Int)=n:=fun k n h1 h2 h3 h8 h256 h4=>Zgd (Zby hm h8 h256 h4) h1 h2 h3
 have s11:Z1 F.1 11=Xs (1,upS):=by rw[hF2];exact Y8
 have s10:Z1 F.1 10=Xs (0,(Ls 6).drop 3):=by rw[hF2];show Z1 (wrD (wrD (wrD s.1 8 _) 10 _) 11 _) 10=_;rw[Zy (by decide)];exact Y8
 have s8:Z1 F.1 8=Xs (0,(Ls 6).take 3):=by rw[hF2];show Z1 (wrD (wrD (wrD s.1 8 _) 10 _) 11 _) 8=_;rw[Zy (by decide),Zy (by decide)];exact Y8
 obtain⟨t1,t2⟩:=hseen 11 _ s11 hnu hinu (by omega) (by omega) (by rw[hFn];decide +kernel)
 obtain⟨t3,t4⟩:=hseen 10 _ s10 hn4 hin4 (by omega) (by omega) (by rw[hFn];decide +kernel)
 obtain⟨t5,t6⟩:=hseen 8 _ s8 hn3 hin3 (by omega) (by omega) (by rw[hFn];decide +kernel)
 refine⟨(F.1,F.2.1.set 9 0,F.2.2),?_,hm,t1,t2,t5,t6,t3,t4,by rw[hFn];rfl,hFz,by
  rw[hF2]
  show (wrD (wrD (wrD s.1 8 _) 10 _) 11 _).2.length<100
  rw[Zaa,Zaa,Zaa]
  have:=h.few
  omega⟩
 unfold Zjf
 have ht:Znz s 9 (kx 6).1=false:=by unfold Znz;rw[show rmV s 9=(0,Ls 5) from r2];rfl
 have e0:(rmV s 9).1=0:=by rw[show rmV s 9=(0,Ls 5) from r2]
 show (if Znz s 9 (kx 6).1=true then _ else _)=_
 rw[ht]
 show (if (Zn (kx 6) (rmV s 9).1.toNat s 9).1=0 then _ else _)=_
 rw[e0,show ((0:Int)).toNat=0 from rfl,hg,if_pos rfl]
 try dsimp only
 rw[hro,if_pos rfl]
 try dsimp only
 rw[show ((9:Int)).toNat=9 from rfl,hlf]
 rfl
theorem Zo4 {T:Rm} (r1:rmE T 11=0) (r2:rmV T 11=(1,upS)) (r3:rmE T 8=0) (r4:rmV T 8=(0,(Ls 6).take 3)) (r5:rmE T 10=0) (r6:rmV T 10=(0,(Ls 6).drop 3)):ckE T 11=0∧ckH T 11=2:=by
 have h1:Y2 T ((Ls 6).take 3)=true:=by
  unfold Y2
  rw[List.all_eq_true]
  intro y hy
  simp[(Zgl 6 (by omega) y (List.mem_of_mem_take hy)).2]
 have h2:Y2 T ((Ls 6).drop 3)=true:=by
  unfold Y2
  rw[List.all_eq_true]
  intro y hy
  simp[(Zgl 6 (by omega) y (List.mem_of_mem_drop hy)).2]
 have ht:X2 T 11=true:=by
  unfold X2
  rw[r1,r2]
  show (true&&(Yt T 0 8 (Zcb 1) (Zcb 4) true&&Yt T 0 10 (Zcb 4) Za0 false))=true
  unfold Yt
  rw[r3,r4,r5,r6,h1,h2]
  decide
 have ha:asE T 11=0:=(Ys r1).2
 exact⟨(Zkh ha ht).1,by rw[(Zkh ha ht).2,r2];rfl⟩
theorem Zqv (qa qb qc qd:Option Addr×Nat×Nat) (s:Rm) (w:World) (h:Sto (Old w) w (.agg #[.slice qa.1 qa.2.1 qa.2.2,.slice qb.1 qb.2.1 qb.2.2,.slice qc.1 qc.2.1 qc.2.2,.slice qd.1 qd.2.1 qd.2.2]) s) :
  Calls Tryz.prog 23 #[.agg #[.slice qa.1 qa.2.1 qa.2.2,.slice qb.1 qb.2.1 qb.2.2,.slice qc.1 qc.2.1 qc.2.2,.slice qd.1 qd.2.1 qd.2.2]] w fun e W'=>∃ qa qb qc qd:Option Addr×Nat×Nat,e=.returned (.tuple #[.agg #[.slice qa.1 qa.2.1 qa.2.2,.slice qb.1 qb.2.1 qb.2.2,.slice qc.1 qc.2.1 qc.2.2,.slice qd.1 qd.2.1 qd.2.2],.int .i64 (mkN s Vk),.int .i64 (mkE s Vk)]) ∧
   Sto (New w.heap.size W') W' (.agg #[.slice qa.1 qa.2.1 qa.2.2,.slice qb.1 qb.2.1 qb.2.2,.slice qc.1 qc.2.1 qc.2.2,.slice qd.1 qd.2.1 qd.2.2]) (mkV s Vk)∧Below w.heap.size w W':=by
 obtain⟨w1,hw1,b1,hs1,hB1⟩:=Xt w (.slice qa.1 qa.2.1 qa.2.2) (.slice qb.1 qb.2.1 qb.2.2) (.slice qc.1 qc.2.1 qc.2.2) (.slice qd.1 qd.2.1 qd.2.2) 29
 obtain⟨w2,hw2,b2,hs2,hB2⟩:=Xt w1 (.slice none 0 0) (.slice none 0 0) (.slice none 0 0) (.slice none 0 0) 29
 have hB12:=hB1.trans (hB2.mono hB1.size)
 have B2:=Za hB12
 have HM:=Za (Zfa (.agg #[.slice qa.1 qa.2.1 qa.2.2,.slice qb.1 qb.2.1 qb.2.2,.slice qc.1 qc.2.1 qc.2.2,.slice qd.1 qd.2.1 qd.2.2]) (.agg #[.int .i64 0,.slice none 0 0]) s Vk w2 (h.below hB12) (Zhu.zero w.heap.size w2).nod.drop)
 have SZ:=Za (show w1.heap.size=w.heap.size+1∧w2.heap.size=w.heap.size+2 from ⟨hs1,by omega⟩)
 have G2:=Za b2
 obtain⟨k0,k1,k2,k3,_⟩:=Ze ((hB2.block w.heap.size (by omega)).trans b1)
 replace hs1:=Za hs1
 replace hs2:=Za hs2
 obtain⟨mn,hmn⟩:∃ q,mkN s Vk=q:=⟨_,rfl⟩
 obtain⟨me,hme⟩:∃ q,mkE s Vk=q:=⟨_,rfl⟩
 obtain⟨mv,hmv⟩:∃ q,mkV s Vk=q:=⟨_,rfl⟩
 rw[hmn,hme,hmv] at HM ⊢
 clear h hB1 hB2 hB12 b1 b2
 go_enter Tryz.func23,Tryz.ntmps23
 go_upto_region 1 with fail
 clear hw1 hw2
 go_wp2_with fail
 with_reducible refine(HM.out).mono ?_
 rintro e w3 ⟨ra,rb,rc,rd,rfl,hS3,hb3⟩
 have hc3:=(hb3.block w1.heap.size (by have:=SZ.out;omega)).trans G2.out
 obtain⟨u0,u1,u2,u3,uf,_⟩:=Ze hc3
 obtain⟨W9,hW9,g9,gr9,gs9⟩:=Zs (a':=.slice ra.1 ra.2.1 ra.2.2) (b':=.slice rb.1 rb.2.1 rb.2.2) (c':=.slice rc.1 rc.2.1 rc.2.2) (d':=.slice rd.1 rd.2.1 rd.2.2) hc3
 obtain⟨y0,y1,y2,y3,_,_⟩:=Ze g9
 have hfin:=Za (show Sto (New w.heap.size W9) W9 (.agg #[.slice ra.1 ra.2.1 ra.2.2,.slice rb.1 rb.2.1 rb.2.2,.slice rc.1 rc.2.1 rc.2.2,.slice rd.1 rd.2.1 rd.2.2]) mv from (hS3.grown gr9 (fun q e=>by cases e;have:=SZ.out;omega)).new (by have:=SZ.out;omega) (Below.refl _ _))
 have hB9:=Za ((B2.out.trans (hb3.mono B2.out.size)).grown gr9 (B2.out.trans (hb3.mono B2.out.size)).size (fun q e=>by cases e;have:=SZ.out;omega))
 replace g9:=Za g9
 clear hS3 hb3 hc3 gr9 gs9 k0 k1 k2 k3 HM
 go_wp2_with fail
 exact bodyPost_ret (v:=.tuple #[.agg #[.slice ra.1 ra.2.1 ra.2.2,.slice rb.1 rb.2.1 rb.2.2,.slice rc.1 rc.2.1 rc.2.2,.slice rd.1 rd.2.1 rd.2.2],.int .i64 mn,.int .i64 me]) (by simp[results,Tryz.results23,go_sem,y0,y1,y2,y3]) rfl ⟨ra,rb,rc,rd,rfl,hfin.out,hB9.out⟩
theorem Zec (x:Int) (w:World):Calls Tryz.prog 12 #[.int .u32 x] w fun e w'=>e=.returned (.agg #[.int .u8 2,.int .u32 0,.int .u32 x])∧Below w.heap.size w w':=by
 obtain⟨w1,hw1,f1,f2,f3,hs1,hB1,_⟩:=Yw w (.int .u8 2) (.int .u32 0) (.int .u32 x) 37
 go_enter Tryz.func12,Tryz.ntmps12
 go_wp2_with fail
 exact bodyPost_ret (v:=.agg #[.int .u8 2,.int .u32 0,.int .u32 x]) (by simp[results,Tryz.results12,go_sem,f1,f2,f3]) rfl ⟨rfl,hB1⟩
theorem Z3v (n:Nat) (h:n≤5):Zjf (gS n).1 (gS n).2 (kx (n+1))=(0,(gS (n+1)).1,(gS (n+1)).2):=by
 rcases Nat.lt_or_ge n 5 with h5 | h5
 ·exact Z33 n h5
 ·obtain rfl:n=5:=by omega
  obtain⟨T,e,_⟩:=Zj4
  rw[Zn1 5,e]
theorem Z3m {s:Rm} {a:Nat} {L:List It} {m:Nat} (h:Lf s a L m) {x:It} (hx:InI x) (hm:Zap x=true) (h0:x.2.1=0) {l:List Sv} (hl:ckE s (a:Int)=0→Ziq s x=0→Z01 s x.1 (a:Int) l):Zlo s (a:Int) x l=Zjf s (a:Int) x:=by
 have hck:=h.tree.2.2.1
 have hci:Ziq s x=0:=by
  unfold Ziq
  rw[if_pos hm,if_neg (fun h=>h.1 h0)]
 refine(Z1u (P:=fun i=>if i=a then 1 else 0) hx hck hci (List.mem_singleton.2 rfl) (h.enf.same fun i => ?_) (hl hck hci)).1
 have hh:Zbh x i=0:=by unfold Zbh;rw[if_neg (fun h=>h.1 h0)]
 show (if i=a then 1 else 0)+Zbh x i=_
 rw[hh]
 rfl
theorem Z4c (n:Nat) (h:n≤5) (qa qb qc qd:Option Addr×Nat×Nat) (w:World) (hS:Sto (Old w) w (.agg #[.slice qa.1 qa.2.1 qa.2.2,.slice qb.1 qb.2.1 qb.2.2,.slice qc.1 qc.2.1 qc.2.2,.slice qd.1 qd.2.1 qd.2.2]) (gS n).1) :
  Calls Tryz.prog 22 #[.agg #[.slice qa.1 qa.2.1 qa.2.2,.slice qb.1 qb.2.1 qb.2.2,.slice qc.1 qc.2.1 qc.2.2,.slice qd.1 qd.2.1 qd.2.2],.int .i64 (gS n).2,.agg #[.int .u8 2,.int .u32 0,.int .u32 ((n+1:Nat):Int),.int .i64 0,.slice none 0 0]] w fun e w'=>∃ qa qb qc qd:Option Addr×Nat×Nat,
   e=.returned (.tuple #[.agg #[.slice qa.1 qa.2.1 qa.2.2,.slice qb.1 qb.2.1 qb.2.2,.slice qc.1 qc.2.1 qc.2.2,.slice qd.1 qd.2.1 qd.2.2],.int .i64 (gS (n+1)).2,.int .i64 0])∧Sto (New w.heap.size w') w' (.agg #[.slice qa.1 qa.2.1 qa.2.2,.slice qb.1 qb.2.1 qb.2.2,.slice qc.1 qc.2.1 qc.2.2,.slice qd.1 qd.2.1 qd.2.2]) (gS (n+1)).1∧Below w.heap.size w w':=by
 obtain⟨h1,h2⟩:=Zn6 n h
 obtain⟨hi,hz⟩:=Zgl (n+1) (by omega) (kx (n+1)) (List.mem_append_right _ (List.mem_singleton.2 rfl))
 refine(Zrh qa qb qc qd (gS n).1 (gS n).2 (kx (n+1)) none 0 w hS ⟨_,rfl,hi,Ua _ _ none⟩).mono ?_
 rintro e w' ⟨l,ra,rb,rc,rd,hl,rfl,hs,hb⟩
 have hm:Zap (kx (n+1))=true:=Zts ⟨.inl rfl,by show (0:Nat)≤12;omega⟩
 have hp:Zlo (gS n).1 (gS n).2 (kx (n+1)) l=(0,(gS (n+1)).1,(gS (n+1)).2):=by
  rw[← Z3v n h]
  rw[h2] at hl ⊢
  exact Z3m h1 hi hm hz hl
 rw[hp] at hs ⊢
 exact⟨ra,rb,rc,rd,rfl,hs,hb⟩
def PhT (lo:Nat) (R:Int) (s:Rm) (v:Value) (W:World):Prop:=∃ pa pb pc pd:Option Addr×Nat×Nat,v=.tuple #[.agg #[.slice pa.1 pa.2.1 pa.2.2,.slice pb.1 pb.2.1 pb.2.2,.slice pc.1 pc.2.1 pc.2.2,.slice pd.1 pd.2.1 pd.2.2],.int .i64 R,.int .i64 0]∧Sto (New lo W) W (.agg #[.slice pa.1 pa.2.1 pa.2.2,.slice pb.1 pb.2.1 pb.2.2,.slice pc.1 pc.2.1 pc.2.2,.slice pd.1 pd.2.1 pd.2.2]) s
def PhA (lo:Nat) (s:Rm) (v:Value) (W:World):Prop:=∃ pa pb pc pd:Option Addr×Nat×Nat,v=.agg #[.slice pa.1 pa.2.1 pa.2.2,.slice pb.1 pb.2.1 pb.2.2,.slice pc.1 pc.2.1 pc.2.2,.slice pd.1 pd.2.1 pd.2.2]∧Sto (New lo W) W (.agg #[.slice pa.1 pa.2.1 pa.2.2,.slice pb.1 pb.2.1 pb.2.2,.slice pc.1 pc.2.1 pc.2.2,.slice pd.1 pd.2.1 pd.2.2]) s
theorem PhT.below {lo:Nat} {R:Int} {s:Rm} {v:Value} {W W':World} (h:PhT lo R s v W) (hb:Below W.heap.size W W'):PhT lo R s v W':=by
 obtain⟨pa,pb,pc,pd,e,h⟩:=h
 exact⟨pa,pb,pc,pd,e,h.new (Nat.le_refl _) hb⟩
theorem PhA.below {lo:Nat} {s:Rm} {v:Value} {W W':World} (h:PhA lo s v W) (hb:Below W.heap.size W W'):PhA lo s v W':=by
 obtain⟨pa,pb,pc,pd,e,h⟩:=h
 exact⟨pa,pb,pc,pd,e,h.new (Nat.le_refl _) hb⟩
def Z4u (s:Rm) (R:Int) (w:World) (e:Ending) (w':World):Prop:=∃ qa qb qc qd:Option Addr×Nat×Nat,
   e=.returned (.tuple #[.agg #[.slice qa.1 qa.2.1 qa.2.2,.slice qb.1 qb.2.1 qb.2.2,.slice qc.1 qc.2.1 qc.2.2,.slice qd.1 qd.2.1 qd.2.2],.int .i64 R,.bool true])∧Sto (Old w') w' (.agg #[.slice qa.1 qa.2.1 qa.2.2,.slice qb.1 qb.2.1 qb.2.2,.slice qc.1 qc.2.1 qc.2.2,.slice qd.1 qd.2.1 qd.2.2]) s∧Below w.heap.size w w'
theorem Zmr (many:Nat) (hmany:many≤6) (w:World):Calls Tryz.prog 10 #[.int .u32 (many:Int)] w (Z4u (gS many).1 (gS many).2 w):=by
 obtain⟨w1,hw1,b1,hs1,hB1⟩:=Xt w (.slice none 0 0) (.slice none 0 0) (.slice none 0 0) (.slice none 0 0) 29
 obtain⟨e1,e2,hlf⟩:=Zz3
 have hr0:(gS 0).2=(8:Int):=by rw[(Zn6 0 (by omega)).2];rfl
 have hv0:mkV Zh5 Vk=(gS 0).1:=by unfold gS;rfl
 have hPut:=Za Z4c
 have B1:=Za hB1
 have G1:=Za b1
 have SZ:=Za hs1
 have hNew:Hid (∀ v W,Sto (Old W) W v Zh5→∃ qa qb qc qd:Option Addr×Nat×Nat,v=.agg #[.slice qa.1 qa.2.1 qa.2.2,.slice qb.1 qb.2.1 qb.2.2,.slice qc.1 qc.2.1 qc.2.2,.slice qd.1 qd.2.1 qd.2.2]):=Za fun v W h=>by
  obtain⟨A,ca,B,cb,N,cn,L,cl,rfl,_⟩:=h.open
  exact⟨(A,_,ca),(B,_,cb),(N,_,cn),(L,_,cl),rfl⟩
 replace hs1:=Za hs1
 replace hr0:=Za hr0
 replace hv0:=Za hv0
 replace e1:=Za e1
 replace e2:=Za e2
 clear hlf hB1 b1
 go_enter Tryz.func10,Tryz.ntmps10
 go_upto_region 1 with fail
 clear hw1
 go_wp2_with fail
 with_reducible refine(Zxb _).mono ?_
 rintro e w2 ⟨t,rfl,ht,hb2⟩
 obtain⟨pa,pb,pc,pd,rfl⟩:=hNew.out t w2 ht.drop
 have hN2:=Za (Zqv pa pb pc pd Zh5 w2 ht.drop)
 have B2:=Za hb2
 clear ht hb2
 go_wp2_with fail
 with_reducible refine(hN2.out).mono ?_
 rintro e w3 ⟨ra,rb,rc,rd,rfl,hS3,hb3⟩
 rw[e1.out,e2.out]
 rw[hv0.out] at hS3
 obtain⟨w4,hw4,b4,hs4,hB4⟩:=Xt w3 (.slice ra.1 ra.2.1 ra.2.2) (.slice rb.1 rb.2.1 rb.2.2) (.slice rc.1 rc.2.1 rc.2.2) (.slice rd.1 rd.2.1 rd.2.2) 29
 have B14:=Za (B2.out.trans ((hb3.trans (hB4.mono hb3.size)).mono B2.out.size))
 have S4:=Za ((hS3.new (lo':=w1.heap.size) B2.out.size (hB4.mono (Nat.le_refl _))))
 have G4:=Za b4
 have sz3:=Za (show w1.heap.size≤w3.heap.size from Nat.le_trans B2.out.size hb3.size)
 replace hs4:=Za hs4
 clear hS3 hb3 hB4 b4 hN2
 go_upto_region 2 with fail
 clear hw4
 go_wp2_with fail
 go_loopw [6,7,8] (fun rv ev nv wr=>∃ (n:Nat) (qa qb qc qd:Option Addr×Nat×Nat),n≤many∧rv=.int .i64 (gS n).2∧ev=.int .i64 0∧nv=.int .u32 ((n+1:Nat):Int)∧wr.heap[w3.heap.size]? = some (.cells #[.slice qa.1 qa.2.1 qa.2.2,.slice qb.1 qb.2.1 qb.2.2,.slice qc.1 qc.2.1 qc.2.2,.slice qd.1 qd.2.1 qd.2.2] 29 (0,0)) ∧
  Sto (New w1.heap.size wr) wr (.agg #[.slice qa.1 qa.2.1 qa.2.2,.slice qb.1 qb.2.1 qb.2.2,.slice qc.1 qc.2.1 qc.2.2,.slice qd.1 qd.2.1 qd.2.2]) (gS n).1∧Below w1.heap.size w1 wr) (fun _ _ nv _=>10-(intOf nv).toNat)
 case atStart=>exact⟨0,ra,rb,rc,rd,by omega,by rw[hr0.out],rfl,rfl,G4.out,S4.out,B14.out⟩
 case round =>
  obtain⟨n,qa,qb,qc,qd,hn,rfl,rfl,rfl,hbx,hS,hB⟩:=hrel
  obtain⟨k0,k1,k2,k3,kf,_⟩:=Ze hbx
  have hn63:((n+1:Nat):Int)<4294967296:=by omega
  by_cases hlt:n<many
  case neg =>
   obtain rfl:n=many:=by omega
   have hle:¬ (((n+1:Nat):Int)≤(n:Int)):=by omega
   obtain⟨W9,hW9,g9,gr9,gs9⟩:=Zs (a':=.slice qa.1 qa.2.1 qa.2.2) (b':=.slice qb.1 qb.2.1 qb.2.2) (c':=.slice qc.1 qc.2.1 qc.2.2) (d':=.slice qd.1 qd.2.1 qd.2.2) ((hB.block w.heap.size (by have:=SZ.out;omega)).trans G1.out)
   obtain⟨y0,y1,y2,y3,_,_⟩:=Ze g9
   obtain⟨u0,u1,u2,u3,uf,_⟩:=Ze ((hB.block w.heap.size (by have:=SZ.out;omega)).trans G1.out)
   have hfin:=Za (show Sto (Old W9) W9 (.agg #[.slice qa.1 qa.2.1 qa.2.2,.slice qb.1 qb.2.1 qb.2.2,.slice qc.1 qc.2.1 qc.2.2,.slice qd.1 qd.2.1 qd.2.2]) (gS n).1 from (hS.grown gr9 (fun q e=>by cases e;have:=SZ.out;omega)).drop)
   have hB9:=Za ((B1.out.trans (hB.mono B1.out.size)).grown gr9 (B1.out.trans (hB.mono B1.out.size)).size (fun q e=>by cases e;omega))
   obtain⟨R,hR⟩:∃ q,(gS n).2=q:=⟨_,rfl⟩
   have hfin2:Hid (Z4u (gS n).1 (gS n).2 w (.returned (.tuple #[.agg #[.slice qa.1 qa.2.1 qa.2.2,.slice qb.1 qb.2.1 qb.2.2,.slice qc.1 qc.2.1 qc.2.2,.slice qd.1 qd.2.1 qd.2.2],.int .i64 R,.bool true])) W9):=Za ⟨qa,qb,qc,qd,by rw[hR],hfin.out,hB9.out⟩
   obtain⟨X,hX⟩:∃ q:Int,((n+1:Nat):Int)=q:=⟨_,rfl⟩
   rw[hX] at hle hn63
   rw[hR,hX]
   replace hR:=Za hR
   replace hX:=Za hX
   replace g9:=Za g9
   clear gr9 gs9 hS hB hbx
   go_wp2_with fail
   exact bodyPost_ret (v:=.tuple #[.agg #[.slice qa.1 qa.2.1 qa.2.2,.slice qb.1 qb.2.1 qb.2.2,.slice qc.1 qc.2.1 qc.2.2,.slice qd.1 qd.2.1 qd.2.2],.int .i64 R,.bool true]) (by simp[results,Tryz.results10,go_sem,y0,y1,y2,y3]) rfl hfin2.out
  have hle:((n+1:Nat):Int)≤(many:Int):=by omega
  have hPn:=Za (hPut.out n (by omega))
  obtain⟨R,hR⟩:∃ q,(gS n).2=q:=⟨_,rfl⟩
  obtain⟨R',hR'⟩:∃ q,(gS (n+1)).2=q:=⟨_,rfl⟩
  obtain⟨s0,hs0⟩:∃ q,(gS n).1=q:=⟨_,rfl⟩
  obtain⟨s1,hs1'⟩:∃ q,(gS (n+1)).1=q:=⟨_,rfl⟩
  obtain⟨X,hX⟩:∃ q:Int,((n+1:Nat):Int)=q:=⟨_,rfl⟩
  rw[hR,hR',hs0,hs1',hX] at hPn
  rw[hs0] at hS
  rw[hX] at hle hn63
  rw[hR,hX]
  replace hR:=Za hR
  replace hR':=Za hR'
  replace hs0:=Za hs0
  replace hs1':=Za hs1'
  have hX1:1≤X:=by omega
  replace hX:=Za hX
  have hS':=Za hS
  have hB':=Za hB
  have hbx':=Za hbx
  have KB:=Za (fun W (hW:Below wr.heap.size wr W)=>Ze ((hW.block w3.heap.size (Array.getElem?_eq_some_iff.1 hbx'.out).1).trans hbx'.out))
  clear hS hB hbx k0 k1 k2 k3 kf hPut
  go_upto_region 5 with fail
  refine Xf (ops' := ?opsLate) (by kernel_rfl) [(10,8),(10,9),(11,9)] ?he (by kernel_rfl) (fun d _ _ _ _ h=>by cases d <;> exact h) 10 (fun W=>Below wr.heap.size wr W) (fun i=>match i with
    | 5=>some (fun v W=>PhT wr.heap.size R' s1 v W)
    | 6=>some (fun v W=>PhT wr.heap.size R' s1 v W)
    | 7=>some (fun v W=>PhA wr.heap.size s1 v W)
    | _=>none) (fun i=>match i with
    | 3=>some (.agg #[.int .u8 2,.int .u32 0,.int .u32 X])
    | 8=>some (.int .i64 R')
    | 9=>some (.int .i64 0)
    | _=>none) ?h1 ?h2 ?h3 (Below.refl _ _).drew (fun w w' h hb=>h.trans (hb.mono h.size)) ?tst ?_
  case he =>
   simp[Z4]
   rfl
  case h1=>decide
  case h2=>kernel_rfl
  case h3=>kernel_rfl
  case tst =>
   intro j φ x W W' hp hx hb
   match j,hp with
   | 5,hp=>cases hp;exact hx.below hb
   | 6,hp=>cases hp;exact hx.below hb
   | 7,hp=>cases hp;exact hx.below hb
  simp only[List.take_succ_cons,List.take_zero,List.drop_succ_cons,List.drop_zero]
  repeat (first
   | (refine wpAs_skip rfl ?_;simp only[Act.put,Zb,Zc,Zd])
   | (refine wpAs_pure (v := ?_) rfl rfl ?_ ?_;rotate_left;(intro W hC hE;clear hE;(obtain⟨k0,k1,k2,k3,_⟩:=KB.out W hC);clear hC;go_simp;first | done | with_reducible rfl);simp only[Act.put,Zb,Zc,Zd]))
  refine wpAs_fixed rfl rfl rfl ?_ ?_
  ·intro W hC hE
   refine does_enter (f:=12) (args:=#[.int .u32 X]) ?_ ?_
   ·go_simp
   ·refine(Zec X W).mono ?_
    (rintro e W' ⟨rfl,hg⟩)
    exact⟨_,rfl,rfl,hg⟩
  simp only[Act.put,Zb,Zc,Zd]
  repeat (first
   | (refine wpAs_skip rfl ?_;simp only[Act.put,Zb,Zc,Zd])
   | (refine wpAs_pure (v := ?_) rfl rfl ?_ ?_;rotate_left;(intro W hC hE;clear hE;skip;clear hC;go_simp;first | done | with_reducible rfl);simp only[Act.put,Zb,Zc,Zd]))
  refine wpAs_act rfl rfl ?_ ?_
  ·intro W hC hE
   clear hE
   refine does_enter (f:=22) (args:=#[.agg #[.slice qa.1 qa.2.1 qa.2.2,.slice qb.1 qb.2.1 qb.2.2,.slice qc.1 qc.2.1 qc.2.2,.slice qd.1 qd.2.1 qd.2.2],.int .i64 R,.agg #[.int .u8 2,.int .u32 0,.int .u32 X,.int .i64 0,.slice none 0 0]]) ?_ ?_
   ·go_simp
   ·refine(hPn.out qa qb qc qd W (hS'.out.drop.below hC)).mono ?_
    rintro e W' ⟨pa,pb,pc,pd,rfl,hz,hb⟩
    exact⟨_,rfl,⟨pa,pb,pc,pd,rfl,hz.new hC.size (Below.refl _ _)⟩,hb⟩
  simp only[Act.put,Zb,Zc,Zd,envAdd]
  intro x5
  refine wpAs_act rfl rfl ?_ ?_
  ·intro W hC hE
   have h7:=hE.1 rfl
   clear hE hC
   go_simp
   exact⟨h7,Below.refl _ _⟩
  simp only[Act.put,Zb,Zc,Zd,envAdd]
  intro x6
  refine wpAs_act rfl rfl ?_ ?_
  ·intro W hC hE
   obtain⟨pa,pb,pc,pd,rfl,hz⟩:=hE.1 rfl
   have hz':=Za hz
   clear hE hz hC
   go_simp
   exact⟨⟨pa,pb,pc,pd,rfl,hz'.out⟩,Below.refl _ _⟩
  simp only[Act.put,Zb,Zc,Zd,envAdd]
  intro x7
  refine wpAs_fixed rfl rfl rfl ?_ ?_
  ·intro W hC hE
   obtain⟨pa,pb,pc,pd,rfl,hz⟩:=hE.2.1 rfl
   clear hE hz hC
   go_simp
   exact⟨rfl,Below.refl _ _⟩
  simp only[Act.put,Zb,Zc,Zd]
  refine wpAs_fixed rfl rfl rfl ?_ ?_
  ·intro W hC hE
   obtain⟨pa,pb,pc,pd,rfl,hz⟩:=hE.2.1 rfl
   clear hE hz hC
   go_simp
   exact⟨rfl,Below.refl _ _⟩
  simp only[Act.put,Zb,Zc,Zd]
  refine wpAs_end fun W hC hE => ?_
  obtain⟨h7,_⟩:=hE
  obtain⟨pa,pb,pc,pd,rfl,hz⟩:=h7
  obtain⟨u0,u1,u2,u3,uf,_⟩:=KB.out W hC
  obtain⟨W9,hW9,g9,gr9,gs9⟩:=Zs (a':=.slice pa.1 pa.2.1 pa.2.2) (b':=.slice pb.1 pb.2.1 pb.2.2) (c':=.slice pc.1 pc.2.1 pc.2.2) (d':=.slice pd.1 pd.2.1 pd.2.2) ((hC.block w3.heap.size (Array.getElem?_eq_some_iff.1 hbx'.out).1).trans hbx'.out)
  have S9:=Za ((hz.grown gr9 (fun q e=>by cases e;exact(Array.getElem?_eq_some_iff.1 hbx'.out).1)).new (lo':=w1.heap.size) hB'.out.size (Below.refl _ _))
  have BW:=Za ((hB'.out.trans (hC.mono hB'.out.size)).grown gr9 (hB'.out.trans (hC.mono hB'.out.size)).size (fun q e=>by cases e;exact sz3.out))
  have g9':=Za g9
  clear hC hz gr9 gs9 g9
  go_wp2_with fail
  go_roundw
  case rel=>exact⟨n+1,pa,pb,pc,pd,by omega,by rw[hR'.out],rfl,by have:=hX.out;go_num,g9'.out,by rw[hs1'.out];exact S9.out,BW.out⟩
  case measure=>have:=hX.out;simp[intOf];omega
theorem Z4l:(gS 6).2=11∧Xq (gS 6).1=true∧rmE (gS 6).1 11=0∧rmV (gS 6).1 11=(1,upS)∧rmE (gS 6).1 8=0∧rmV (gS 6).1 8=(0,(Ls 6).take 3)∧ckE (gS 6).1 11=0∧ckH (gS 6).1 11=2:=by
 obtain⟨T,e,h1,h2,h3,h4,h5,h6,h7,_⟩:=Zj4
 have eg:gS 6=(T,11):=by rw[Zn1 5,e]
 rw[eg]
 exact⟨rfl,h1,h2,h3,h4,h5,Zo4 h2 h3 h4 h5 h6 h7⟩
theorem Zsl (w:World):Calls Tryz.prog 10 #[.int .u32 6] w (Z4u (gS 6).1 11 w):=by
 have:=Zmr 6 (Nat.le_refl _) w
 rw[Z4l.1] at this
 exact this
def Zqy:Ky:=(255,4294967295,4294967295)
theorem Zy5 {x:It} (h:InI x):Zz8 Za0 Zqy x=true:=by
 obtain⟨⟨⟨i0,i1⟩,o0,o1⟩,_⟩:=h
 obtain⟨⟨k,i,o⟩,r,v⟩:=x
 dsimp only at i0 i1 o0 o1
 have hk:=k.toNat_lt
 rw[Zyu]
 unfold Zp Za0 Zqy
 dsimp only
 constructor
 ·split
  ·exact decide_eq_false (by have:(0:UInt8).toNat=0:=rfl;omega)
  ·split
   ·exact decide_eq_false (by omega)
   ·exact decide_eq_false (by omega)
 ·split
  ·exact decide_eq_false (by have:(255:UInt8).toNat=255:=rfl;omega)
  ·split
   ·exact decide_eq_false (by omega)
   ·exact decide_eq_false (by omega)
theorem Zu9 {s:Rm}:∀ (l:Nat) (a:Int),AtT s l a→∀ x∈Za7 s l a,InI x
 | 0,a,h,x,hx=>(Zh4 h.ok).it x hx
 | l+1,a,h,x,hx=>by
  obtain⟨y,hy,hx⟩:=List.mem_flatMap.1 hx
  exact Zu9 l _ (h.down hy) x hx
theorem Ztj {s:Rm} {a:Int} (h:ckE s a=0):raV s a Za0 Zqy=Zpx s a:=by
 rw[Zwp h]
 unfold Zfn
 exact List.filter_eq_self.2 fun x hx=>Zy5 (Zu9 _ _ (Zdn (Znj h).1) x hx)
theorem Zqb (qa qb qc qd:Option Addr×Nat×Nat) (s:Rm) (a:Int) (w:World) (h:Sto (Old w) w (.agg #[.slice qa.1 qa.2.1 qa.2.2,.slice qb.1 qb.2.1 qb.2.2,.slice qc.1 qc.2.1 qc.2.2,.slice qd.1 qd.2.1 qd.2.2]) s) :
  Calls Tryz.prog 13 #[.agg #[.slice qa.1 qa.2.1 qa.2.2,.slice qb.1 qb.2.1 qb.2.2,.slice qc.1 qc.2.1 qc.2.2,.slice qd.1 qd.2.1 qd.2.2],.int .i64 a] w fun e w'=>∃ u c,e=.returned (.slice u (raV s a Za0 Zqy).length c)∧Uo (New w.heap.size w') w' [.slice u (raV s a Za0 Zqy).length c] (raV s a Za0 Zqy)∧Below w.heap.size w w':=by
 obtain⟨w1,hw1,b1,hs1,hB1⟩:=Xt w (.slice qa.1 qa.2.1 qa.2.2) (.slice qb.1 qb.2.1 qb.2.2) (.slice qc.1 qc.2.1 qc.2.2) (.slice qd.1 qd.2.1 qd.2.2) 29
 have HR:Hid (Calls Tryz.prog 29 #[.agg #[.slice qa.1 qa.2.1 qa.2.2,.slice qb.1 qb.2.1 qb.2.2,.slice qc.1 qc.2.1 qc.2.2,.slice qd.1 qd.2.1 qd.2.2],.int .i64 a,.agg #[.int .u8 0,.int .u32 0,.int .u32 0],.agg #[.int .u8 255,.int .u32 4294967295,.int .u32 4294967295]] w1 (Zpr s a Za0 Zqy w1)):=Za (Zju _ s a Za0 Zqy w1 (h.below hB1))
 obtain⟨k0,k1,k2,k3,_⟩:=Ze b1
 have B1:=Za hB1
 replace hs1:=Za hs1
 clear h hB1 b1
 obtain⟨M,hM⟩:∃ q,raV s a Za0 Zqy=q:=⟨_,rfl⟩
 unfold Zpr at HR
 rw[hM] at HR ⊢
 go_enter Tryz.func13,Tryz.ntmps13
 go_upto_region 1 with fail
 clear hw1
 go_wp2_with fail
 with_reducible refine(HR.out).mono ?_
 rintro e w2 ⟨u,c,rfl,hr,hb2⟩
 have R2:=Za (Xc.new (lo':=w.heap.size) hr B1.out.size (Below.refl _ _))
 have B2:=Za (B1.out.trans (hb2.mono B1.out.size))
 obtain⟨n,hn⟩:∃ q,M.length=q:=⟨_,rfl⟩
 rw[hn] at R2 ⊢
 clear hr hb2 HR k0 k1 k2 k3
 replace hn:=Za hn
 go_wp2_with fail
 exact bodyPost_ret (v:=.slice u n c) (by simp[results,Tryz.results13,go_sem]) rfl ⟨u,c,by rw[hn.out],by rw[hn.out];exact R2.out,B2.out⟩
noncomputable def fdE (s:Rm) (a:Int) (k:Ky):Int:=if ckE s a=0 then (if (Zm3 s a k).isSome=true then 0 else 6) else ckE s a
noncomputable def fdV (s:Rm) (a:Int) (k:Ky):It:=if ckE s a=0 then (Zm3 s a k).getD Zdp else Zdp
theorem Zz2 {s:Rm} {a:Int} {k:Ky} (h:ckE s a≠0):fdE s a k=ckE s a∧fdV s a k=Zdp:=⟨by rw[fdE,if_neg h],by rw[fdV,if_neg h]⟩
theorem Zuo {s:Rm} {a:Int} {k:Ky} {x:It} (h:ckE s a=0) (hx:Zm3 s a k=some x):fdE s a k=0∧fdV s a k=x:=⟨by rw[fdE,if_pos h,hx];rfl,by rw[fdV,if_pos h,hx];rfl⟩
theorem Zwb {s:Rm} {a:Int} {k:Ky} (h:ckE s a=0) (hx:Zm3 s a k=none):fdE s a k=6∧fdV s a k=Zdp:=⟨by rw[fdE,if_pos h,hx];rfl,by rw[fdV,if_pos h,hx];rfl⟩
theorem Zhx (v:Value) (n:Nd) (key:Ky) (w:World) (h:Nod (Old w) w v n) :
  Calls Tryz.prog 39 #[v,kyV key] w fun e w'=>e=.returned (.tuple #[.int .i64 (Zz n key:Nat),.bool (Yg n key)])∧Below w.heap.size w w':=Zbs v n key w h
theorem Zlc (v:Value) (s:Rm) (a:Int) (key:Ky) (w:World) (h:Sto (Old w) w v s) :
  Calls Tryz.prog 20 #[v,.int .i64 a,kyV key] w fun e w'=>∃ u,e=.returned (.tuple #[u,.int .i64 (fdE s a key)])∧Itm (New w.heap.size w') w' u (fdV s a key)∧Below w.heap.size w w':=by
 obtain⟨A,ca,B,cb,N,cn,L,cl,rfl,_⟩:=id h.open
 have hCk:=Za (fun v W hW=>Uu v s a W hW)
 have hct:=Za (fun hh=>Znj (s:=s) (a:=a) hh)
 have hta:=Za (fun ht=>Zdn (s:=s) (a:=a) ht)
 have htl:=Za (fun ht=>Uh (s:=s) (a:=a) ht)
 have hfb:=Za (fun hh=>Zz2 (s:=s) (a:=a) (k:=key) hh)
 have hfs:=Za (fun x hh hx=>Zuo (s:=s) (a:=a) (k:=key) (x:=x) hh hx)
 have hfn:=Za (fun hh hx=>Zwb (s:=s) (a:=a) (k:=key) hh hx)
 obtain⟨T,hT⟩:∃ T,Zm3 s a key=T:=⟨_,rfl⟩
 have hT':Hid (Zdl s (rmV s a).1.toNat a key=T):=Za hT
 rw[hT] at hfs hfn
 obtain⟨E0,hE0⟩:∃ q,ckE s a=q:=⟨_,rfl⟩
 obtain⟨H0,hH0⟩:∃ q,ckH s a=q:=⟨_,rfl⟩
 rw[hE0] at hCk hct hfb hfs hfn
 rw[hH0] at hCk hct
 obtain⟨E1,hE1⟩:∃ q,fdE s a key=q:=⟨_,rfl⟩
 obtain⟨V1,hV1⟩:∃ q,fdV s a key=q:=⟨_,rfl⟩
 rw[hE1,hV1] at hfb hfs hfn ⊢
 have HG0:Bag w [Zvx (.agg #[.slice A s.1.1.length ca,.slice B s.1.2.length cb,.slice N s.2.1.length cn,.slice L s.2.2.length cl]) s]:=(Bag.nil w).add (F:=Zvx _ s) h (Za6 _ _)
 obtain⟨w0,hw0,hg0,hB0,_,hs0⟩:=Zf2 HG0 (Below.refl _ _) (.slice A s.1.1.length ca) (.slice B s.1.2.length cb) (.slice N s.2.1.length cn) (.slice L s.2.2.length cl) 29
 obtain⟨w1,hw1,hg1,hB1,_,hs1⟩:=Ztw hg0 (Below.refl _ _) (.int .u8 (key.1.toNat:Int)) (.int .u32 key.2.1) (.int .u32 key.2.2)
 obtain⟨w2,hw2,_,_,_,_,_,hs2,hB2,G2⟩:=Z8 w1 (.int .u8 0) (.int .u32 0) (.int .u32 0) (.int .i64 0) (.slice none 0 0) 54
 have HG:=Za ((hg1.below hB2).add (F:=Ya w1.heap.size _ _) G2 (Zr _ _ _))
 have BB:=Za ((hB0.trans (hB1.mono hB0.size)).trans (hB2.mono (hB0.trans (hB1.mono hB0.size)).size))
 have lo1:Hid (w.heap.size≤w1.heap.size∧w1.heap.size<w2.heap.size):=Za ⟨(hB0.trans (hB1.mono hB0.size)).size,by omega⟩
 obtain⟨s0,s1,s2,s3,_⟩:=HG.out.at 2 rfl
 replace hs2:=Za hs2
 replace hs1:=Za hs1
 replace hs0:=Za hs0
 replace hE0:=Za hE0
 replace hH0:=Za hH0
 replace hE1:=Za hE1
 replace hV1:=Za hV1
 replace hT:=Za hT
 clear HG0 hg1 hg0 h hB2 hB1 hB0 G2
 unfold kyV
 go_enter Tryz.func20,Tryz.ntmps20
 go_wp2_with fail
 go_step3
 go_upto_region 1 with fail
 clear hw0 hw1 hw2
 go_wp2_with fail
 with_reducible refine(hCk.out _ _ (HG.out.at 3 rfl)).mono ?_
 rintro e w3 ⟨rfl,hb3⟩
 have HR:=Za (HG.out.below hb3)
 have BR:=Za (BB.out.trans (hb3.mono BB.out.size))
 have lo3:Hid (w1.heap.size<w3.heap.size∧w.heap.size≤w3.heap.size):=Za ⟨by have:=lo1.out;have:=hb3.size;omega,BR.out.size⟩
 clear hb3 s0 s1 s2 s3 hCk HG
 by_cases he:E0=0
 case neg =>
  have hq1:(E0 != 0)=true:=by simpa using he
  have hf:=Za (hfb.out he)
  have G5:w3.heap[w1.heap.size]? = _:=HR.out.at 0 rfl
  obtain⟨W9,hW9,g9,gr9,gs9⟩:=V6 (u0:=.int .u8 0) (u1:=.int .u32 0) (u2:=.int .u32 0) (u3:=.int .i64 0) (u4:=.slice none 0 0) G5
  obtain⟨n0,n1,n2,n3,n4,_⟩:=Zt g9
  obtain⟨f0,f1,f2,f3,f4,f5,_⟩:=Zt G5
  have hB9:=Za (BR.out.grown gr9 BR.out.size (fun q e=>by cases e;exact lo1.out.1))
  replace G5:=Za G5
  replace g9:=Za g9
  clear gr9 gs9 he
  go_wp2_with fail
  rw[Exit.noGoto_ret]
  refine bodyPost_ret (v:=.tuple #[.agg #[.int .u8 0,.int .u32 0,.int .u32 0,.int .i64 0,.slice none 0 0],.int .i64 E0]) (by simp[results,Tryz.results20,go_sem,n0,n1,n2,n3,n4]) rfl ?_
  rw[hf.out.1,hf.out.2]
  exact⟨_,rfl,Zcw _ _,hB9.out⟩
 obtain⟨ht,_,hh⟩:=hct.out he
 have hat:=Za (hta.out ht)
 obtain⟨_,_,_,l0,l6,_⟩:=htl.out ht
 have hfs':=Za (fun x hx=>hfs.out x he hx)
 have hfn':=Za (fun hx=>hfn.out he hx)
 subst he
 obtain⟨M,hM⟩:∃ M,(rmV s a).1.toNat=M:=⟨_,rfl⟩
 rw[hM] at hat hT'
 have hHM:Hid (H0=(M:Int)+1):=Za (by omega)
 have hM6:Hid (M<6):=Za (by omega)
 replace hM:=Za hM
 clear ht hh l0 l6 hct hta htl hfs hfn hfb
 go_wp2_with fail
 go_step3
 go_wp2_with fail
 go_loopw [27,10] (fun vi va wr=>∃ (i l:Nat) (b:Int),i+l=M∧vi=.int .i64 (i:Int)∧va=.int .i64 b∧AtT s l b∧Zdl s l b key=T∧Below w3.heap.size w3 wr) (fun vi _ _=>7-(intOf vi).toNat)
 case atStart=>exact⟨0,M,a,by omega,rfl,rfl,hat.out,hT'.out,Below.refl _ _⟩
 case round =>
  obtain⟨i,l,b,hil,rfl,rfl,hab,hone,hbr⟩:=hrel
  have HQ:=Za (HR.out.below hbr)
  have BQ:=Za hbr
  have hi5:i≤5:=by have:=hM6.out;omega
  have i0:(i:Int)<H0:=by have:=hHM.out;have:=hM6.out;omega
  have hNd:=Za (fun v W hW=>Zcs v s b W hW)
  have hok:=hab.ok
  have hmn:=Za hab.may
  have hlv:=Za hab.lvl
  have hdn:=Za (fun(j:Nat) (hj:l=j+1) (x:It) (hx:x∈(rmV s b).2)=>(by subst hj;exact hab.down hx:AtT s j x.2.1))
  have hz:=Za (fun(h0:l=0)=>(by subst h0;exact hone.symm.trans (Zco s b key):T=(rmV s b).2.reverse.find? fun x=>decide (x.1=key)))
  have hsu:=Za (fun(j:Nat) (hj:l=j+1)=>(by subst hj;exact hone.symm.trans (Zgc s j b key):T=((rmV s b).2.reverse.find? fun x => !Zp key x.1).bind fun x=>Zdl s j x.2.1 key))
  obtain⟨nd,hnd⟩:∃ q,rmV s b=q:=⟨_,rfl⟩
  rw[hok,hnd] at hNd
  rw[hnd] at hmn hlv hdn hz hsu
  have hPl:=Za (fun v W hW=>Zhx v nd key W hW)
  obtain⟨p,hp⟩:∃ p,Zz nd key=p:=⟨_,rfl⟩
  obtain⟨t,htt⟩:∃ t,Yg nd key=t:=⟨_,rfl⟩
  rw[hp,htt] at hPl
  obtain⟨lw,hlw⟩:∃ q,nd.1=q:=⟨_,rfl⟩
  obtain⟨ll,hl⟩:∃ q,nd.2=q:=⟨_,rfl⟩
  obtain⟨m,hlm⟩:∃ q,ll.length=q:=⟨_,rfl⟩
  rw[hlw,hl,hlm] at hNd
  rw[hl] at hdn hz hsu
  rw[hlw] at hlv
  replace hnd:=Za hnd
  replace hlw:=Za hlw
  replace hl:=Za hl
  replace hlm:=Za hlm
  replace hp:=Za hp
  replace htt:=Za htt
  replace hone:=Za hone
  replace hil:=Za hil
  have hm5:m≤5:=by
   have:=(Z2 hmn.out).1.2.2.1
   rw[hl.out,hlm.out] at this
   exact this
  clear hok hab hbr
  obtain⟨s0,s1,s2,s3,_⟩:=HQ.out.at 2 rfl
  go_wp2_with fail
  with_reducible refine(hNd.out _ _ (HQ.out.at 3 rfl)).mono ?_
  rintro e w4 ⟨Z,zc,rfl,-,h4n,hb4⟩
  have h4s:Uo (New wr.heap.size w4) w4 [.slice Z m zc] ll:=by
   obtain⟨_,e,_,h⟩:=h4n
   cases e
   rw[hl.out] at h
   exact h
  obtain⟨w5,hw5,hg5,hB5,-,hs5⟩:=Zd7 (((HQ.out.below hb4).add (F:=Zzu _ nd) h4n.drop (Za3 _ _)).add (F:=Z3t wr.heap.size _ ll) h4s (Znp _ _ _)) (Below.refl _ _) (.int .i64 lw) (.slice Z m zc)
  have H5:=Za hg5
  have B5:=Za (BQ.out.trans ((hb4.trans (hB5.mono hb4.size)).mono BQ.out.size))
  replace hs5:=Za hs5
  clear s0 s1 s2 s3 hg5 hB5 hb4 h4n h4s hNd
  go_upto_region 8 with fail
  clear hw5
  obtain⟨y0,y1,_⟩:=H5.out.at 0 rfl
  obtain⟨t0,t1,t2,_⟩:=H5.out.at 4 rfl
  go_upto_region 10 with fail
  go_wp2_with fail
  with_reducible refine(hPl.out _ _ (H5.out.at 2 rfl)).mono ?_
  rintro e w6 ⟨rfl,hb6⟩
  have H6:=Za (H5.out.below hb6)
  have B6:=Za (B5.out.trans (hb6.mono B5.out.size))
  clear hb6 y0 y1 t0 t1 t2 hPl H5 B5
  obtain⟨y0,y1,_⟩:=H6.out.at 0 rfl
  cases t with
  | true =>
   have hpm:p<m:=by
    have:=Zaq htt.out
    rw[hp.out,hl.out,hlm.out] at this
    exact this
   obtain⟨x,hx⟩:∃ x,ll[p]? = some x:=⟨_,List.getElem?_eq_getElem (by rw[hlm.out];exact hpm)⟩
   obtain⟨hxk,hf1,hf2⟩:=Vs hmn.out htt.out (x:=x) (by rw[hp.out,hl.out];exact hx)
   rw[hl.out] at hf1 hf2
   obtain⟨ad,E5,ce5,rfl,-,FX⟩:=Zvj (H6.out.at 1 rfl:Uo (New wr.heap.size w6) w6 [.slice Z m zc] ll) hx
   obtain⟨⟨z0,z1,z2,z3,z4⟩,hit⟩:=FX w6 (Below.refl _ _)
   have i4:(0:Int)≤(p:Int):=by omega
   have i5:(p:Int)<(m:Int):=by omega
   have hxm:=Za (List.mem_of_getElem? hx)
   replace hx:=Za hx
   replace hxk:=Za hxk
   cases l with
   | zero =>
    have e0:lw=0:=hlv.out
    have hf:=Za (hfs'.out x ((hz.out rfl).trans hf2))
    replace e0:=Za e0
    have c0:(lw==0)=true:=by rw[e0.out];rfl
    have G5:w6.heap[w1.heap.size]? = _:=H6.out.at 3 rfl
    obtain⟨f0,f1,f2,f3,f4,f5,_⟩:=Zt G5
    obtain⟨W9,hW9,g9,gr9,gs9⟩:=V6 (u0:=.int .u8 (x.1.1.toNat:Int)) (u1:=.int .u32 x.1.2.1) (u2:=.int .u32 x.1.2.2) (u3:=.int .i64 x.2.1) (u4:=.slice E5 x.2.2.length ce5) G5
    obtain⟨n0,n1,n2,n3,n4,_⟩:=Zt g9
    have hfin:=Za (show Itm (New w.heap.size W9) W9 (itV x (.slice E5 x.2.2.length ce5)) x from (hit.grown gr9 (fun q e=>by cases e;have:=lo3.out;have:=BQ.out.size;omega)).new (by have:=lo3.out;have:=BQ.out.size;omega) (Below.refl _ _))
    have B9:=BR.out.trans (B6.out.mono BR.out.size)
    have hB9:=Za (B9.grown gr9 B9.size (fun q e=>by cases e;exact lo1.out.1))
    replace G5:=Za G5
    replace g9:=Za g9
    clear gr9 gs9 hit FX hf1 hf2 B9
    go_wp2_with fail
    rw[Exit.noGoto_ret]
    refine bodyPost_ret (v:=.tuple #[itV x (.slice E5 x.2.2.length ce5),.int .i64 0]) (by simp[results,Tryz.results20,go_sem,n0,n1,n2,n3,n4]) rfl ?_
    rw[hf.out.1,hf.out.2]
    exact⟨_,rfl,hfin.out,hB9.out⟩
   | succ l1 =>
    have c0:(lw==0)=false:=by have:=hlv.out;simp;omega
    have hn1:=Za (hdn.out l1 rfl x hxm.out)
    have hn2:Hid (Zdl s l1 x.2.1 key=T):=Za (by rw[hsu.out l1 rfl,hf1];rfl)
    clear FX hf1 hf2 hit
    go_wp2_with fail
    go_roundw
    case rel=>exact⟨i+1,l1,x.2.1,by have:=hil.out;omega,by go_num,rfl,hn1.out,hn2.out,B6.out⟩
    case measure=>have:=hil.out;simp[intOf];omega
  | false =>
   by_cases hp0:0<p
   ·have i6:(0:Int)<(p:Int):=by omega
    cases l with
    | zero =>
     have e0:lw=0:=hlv.out
     have c0:¬ (0:Int)<lw:=by omega
     have hf:=Za (hfn'.out ((hz.out rfl).trans (by
      have:=Ze8 hmn.out htt.out
      rw[hl.out] at this
      exact this)))
     replace e0:=Za e0
     have G5:w6.heap[w1.heap.size]? = _:=H6.out.at 3 rfl
     obtain⟨f0,f1,f2,f3,f4,f5,_⟩:=Zt G5
     obtain⟨W9,hW9,g9,gr9,gs9⟩:=V6 (u0:=.int .u8 0) (u1:=.int .u32 0) (u2:=.int .u32 0) (u3:=.int .i64 0) (u4:=.slice none 0 0) G5
     obtain⟨n0,n1,n2,n3,n4,_⟩:=Zt g9
     have B9:=BR.out.trans (B6.out.mono BR.out.size)
     have hB9:=Za (B9.grown gr9 B9.size (fun q e=>by cases e;exact lo1.out.1))
     replace G5:=Za G5
     replace g9:=Za g9
     clear gr9 gs9 B9
     go_wp2_with fail
     rw[Exit.noGoto_ret]
     refine bodyPost_ret (v:=.tuple #[.agg #[.int .u8 0,.int .u32 0,.int .u32 0,.int .i64 0,.slice none 0 0],.int .i64 6]) (by simp[results,Tryz.results20,go_sem,n0,n1,n2,n3,n4]) rfl ?_
     rw[hf.out.1,hf.out.2]
     exact⟨_,rfl,Zcw _ _,hB9.out⟩
    | succ l1 =>
     have c0:(0:Int)<lw:=by have:=hlv.out;omega
     obtain⟨j,hj⟩:∃ j,p=j+1:=⟨p-1,by omega⟩
     have hpm:p≤m:=by
      have:=Za8 nd key
      rw[hp.out,hl.out,hlm.out] at this
      exact this
     obtain⟨x,hx⟩:∃ x,ll[j]? = some x:=⟨_,List.getElem?_eq_getElem (by rw[hlm.out];omega)⟩
     have hf1:=Zg7 hmn.out (x:=x) htt.out (by rw[hp.out,hj]) (by rw[hl.out];exact hx)
     rw[hl.out] at hf1
     obtain⟨ad,E5,ce5,rfl,-,FX⟩:=Zvj (H6.out.at 1 rfl:Uo (New wr.heap.size w6) w6 [.slice Z m zc] ll) hx
     obtain⟨⟨z0,z1,z2,z3,z4⟩,hit⟩:=FX w6 (Below.refl _ _)
     have i4:(0:Int)≤(j:Int):=by omega
     have i5:(j:Int)<(m:Int):=by omega
     have i7:(p:Int)-1=(j:Int):=by omega
     have i8:IntKind.i64.wrap (j:Int)=(j:Int):=IntWalk.i64_in _ (by omega)
     have hxm:=Za (List.mem_of_getElem? hx)
     have hn1:=Za (hdn.out l1 rfl x hxm.out)
     have hn2:Hid (Zdl s l1 x.2.1 key=T):=Za (by rw[hsu.out l1 rfl,hf1];rfl)
     replace hx:=Za hx
     replace hj:=Za hj
     clear FX hf1 hit
     go_wp2_with fail
     go_roundw
     case rel=>exact⟨i+1,l1,x.2.1,by have:=hil.out;omega,by go_num,rfl,hn1.out,hn2.out,B6.out⟩
     case measure=>have:=hil.out;simp[intOf];omega
   ·have i6:¬ (0:Int)<(p:Int):=by omega
    have hf:=Za (hfn'.out (by
     cases l with
     | zero =>
      refine(hz.out rfl).trans ?_
      have:=Ze8 hmn.out htt.out
      rw[hl.out] at this
      exact this
     | succ l1 =>
      have h1:=Ziz hmn.out htt.out (by rw[hp.out];omega)
      rw[hl.out] at h1
      rw[hsu.out l1 rfl,h1]
      rfl))
    have G5:w6.heap[w1.heap.size]? = _:=H6.out.at 3 rfl
    obtain⟨f0,f1,f2,f3,f4,f5,_⟩:=Zt G5
    obtain⟨W9,hW9,g9,gr9,gs9⟩:=V6 (u0:=.int .u8 0) (u1:=.int .u32 0) (u2:=.int .u32 0) (u3:=.int .i64 0) (u4:=.slice none 0 0) G5
    obtain⟨n0,n1,n2,n3,n4,_⟩:=Zt g9
    have B9:=BR.out.trans (B6.out.mono BR.out.size)
    have hB9:=Za (B9.grown gr9 B9.size (fun q e=>by cases e;exact lo1.out.1))
    replace G5:=Za G5
    replace g9:=Za g9
    clear gr9 gs9 B9
    go_wp2_with fail
    rw[Exit.noGoto_ret]
    refine bodyPost_ret (v:=.tuple #[.agg #[.int .u8 0,.int .u32 0,.int .u32 0,.int .i64 0,.slice none 0 0],.int .i64 6]) (by simp[results,Tryz.results20,go_sem,n0,n1,n2,n3,n4]) rfl ?_
    rw[hf.out.1,hf.out.2]
    exact⟨_,rfl,Zcw _ _,hB9.out⟩
def Zm4 (k:Ky) (M:List It):List It:=M.filter fun y=>decide (y.1≠k)
theorem Z1g (k:Ky) (A B:List It):Zm4 k (A++B)=Zm4 k A++Zm4 k B:=List.filter_append ..
theorem Zwo {k:Ky} {M:List It} (h:∀ y∈M,y.1≠k):Zm4 k M=M:=Ze3 fun y hy=>by simpa using h y hy
theorem Z3b {k:Ky} {M:List It} {y:It}:y∈Zm4 k M↔y∈M∧y.1≠k:=by
 unfold Zm4
 rw[List.mem_filter,decide_eq_true_eq]
noncomputable def Yf (s:Rm) (M:List It) (p:Nat) (L:List It):Nat×Nat×List It :=
 match M[p+1]? with
 | some c=>if (rmV s c.2.1).2.length+L.length≤5 then (p,2,L++(rmV s c.2.1).2) else (p,1,L)
 | none=>if p=0 then (p,1,L) else match M[p-1]? with
  | some b=>if (rmV s b.2.1).2.length+L.length≤5 then (p-1,2,(rmV s b.2.1).2++L) else (p,1,L)
  | none=>(p,1,L)
noncomputable def Yh (k:Ky):Nat→Rm→Int→Int×Rm×List It×Int
 | 0,s,a=>(0,s,Zm4 k (rmV s a).2,0)
 | l+1,s,a =>
  match Yh k l s (Zb0 (rmV s a) k) with
  | (e,t,L,held) =>
   if e=0 then
    if L=[] then (0,t,Zai (rmV s a).2 (Xb (rmV s a) k) 1 [],0)
    else match Yf s (rmV s a).2 (Xb (rmV s a) k) L with
     | (first,many,L')=>match Zq t (l:Int) L' with
      | (f,u,up)=>if f=0 then (0,(if held=0 then u else Zak u held),Zai (rmV s a).2 first many (up.take 1),Zfk up) else (f,Zh,[],0)
   else (e,Zh,[],0)
theorem Zzr {l:Nat} (h:l<6) {L:List It} (hi:∀ q∈L,InI q):InN ((l:Int),L):=⟨⟨by show (-9223372036854775808:Int)≤(l:Int);omega,by show (l:Int)≤9223372036854775807;omega⟩,hi⟩
theorem Zoe {k:Ky} {l:Nat} {s t:Rm} {a held:Int} {L:List It} (h:Yh k (l+1) s a=(0,t,L,held)):∃ t1 L1 held1,Yh k l s (Zb0 (rmV s a) k)=(0,t1,L1,held1) ∧
  ((L1=[]∧t=t1∧L=Zai (rmV s a).2 (Xb (rmV s a) k) 1 []∧held=0)∨(L1≠[]∧∃ u up,Zq t1 (l:Int) (Yf s (rmV s a).2 (Xb (rmV s a) k) L1).2.2=(0,u,up)∧t=(if held1=0 then u else Zak u held1) ∧
   L=Zai (rmV s a).2 (Yf s (rmV s a).2 (Xb (rmV s a) k) L1).1 (Yf s (rmV s a).2 (Xb (rmV s a) k) L1).2.1 (up.take 1)∧held=Zfk up)):=by
 unfold Yh at h
 generalize hg:Yh k l s (Zb0 (rmV s a) k)=g at h
 obtain⟨ge,t1,L1,held1⟩:=g
 simp only at h
 split at h
 ·rename_i h0
  subst h0
  refine⟨t1,L1,held1,rfl,?_⟩
  split at h
  ·rename_i h1
   cases h
   exact .inl ⟨h1,rfl,rfl,rfl⟩
  ·rename_i h1
   generalize hm:Yf s (rmV s a).2 (Xb (rmV s a) k) L1=m at h
   obtain⟨first,many,L'⟩:=m
   simp only at h
   generalize hb:Zq t1 (l:Int) L'=b at h
   obtain⟨f,u,up⟩:=b
   simp only at h
   split at h
   ·rename_i h2
    subst h2
    cases h
    exact .inr ⟨h1,u,up,rfl,rfl,rfl,rfl⟩
   ·rename_i h2
    simp only[Prod.mk.injEq] at h
    exact absurd h.1 h2
 ·rename_i h0
  simp only[Prod.mk.injEq] at h
  exact absurd h.1 h0
theorem Zqw (s:Rm) (M:List It) (p:Nat) (L:List It):(Yf s M p L=(p,1,L))∨(∃ c,M[p+1]? = some c∧(rmV s c.2.1).2.length+L.length≤5∧Yf s M p L=(p,2,L++(rmV s c.2.1).2))∨(∃ b j,p=j+1∧M[j]? = some b∧(rmV s b.2.1).2.length+L.length≤5∧Yf s M p L=(j,2,(rmV s b.2.1).2++L)):=by
 unfold Yf
 cases h1:M[p+1]? with
 | some c =>
  by_cases h2:(rmV s c.2.1).2.length+L.length≤5
  ·exact .inr (.inl ⟨c,rfl,h2,by simp only[if_pos h2]⟩)
  ·exact .inl (by simp only[if_neg h2])
 | none =>
  cases p with
  | zero=>exact .inl rfl
  | succ j =>
   simp only[show ¬ (j+1=0) by omega,if_false,show j+1-1=j by omega]
   cases h2:M[j]? with
   | none=>exact .inl rfl
   | some b =>
    by_cases h3:(rmV s b.2.1).2.length+L.length≤5
    ·exact .inr (.inr ⟨b,j,rfl,h2,h3,by simp only[if_pos h3]⟩)
    ·exact .inl (by simp only[if_neg h3])
def Zkl (M:List It):Int:=match M with | []=>0 | q::_=>q.2.1
def upR (s:Rm) (b:Int):Rm:=(s.1,s.2.1.set b.toNat (s.2.1[b.toNat]?.getD 0+1),s.2.2)
noncomputable def Yp:Nat→Rm→Int→Int×Rm×Int
 | 0,s,a=>(0,s,a)
 | l+1,s,a =>
  if (rmV s a).2.length=1 then
   if s.2.1[(Zkl (rmV s a).2).toNat]?.getD 0=255 then (70,Zh,0)
   else match lfO (upR s (Zkl (rmV s a).2)).1 (upR s (Zkl (rmV s a).2)).2.1 a.toNat with
    | none=>(8,Zh,0)
    | some v=>Yp l ((upR s (Zkl (rmV s a).2)).1,v,(upR s (Zkl (rmV s a).2)).2.2) (Zkl (rmV s a).2)
  else (0,s,a)
noncomputable def Zwr (s:Rm) (a:Int) (k:Ky):Int×Rm×Int :=
 match Yh k (rmV s a).1.toNat s a with
 | (e,t,L,held) =>
  if e=0 then
   match Zq t (if L=[] then 0 else (rmV s a).1) L with
   | (f,u,up) =>
    if f=0 then
     match Yp (if L=[] then 0 else (rmV s a).1.toNat) (if held=0 then u else Zak u held) (Zfk up) with
     | (g,w,now) =>
      if g=0 then
       match lfO w.1 w.2.1 a.toNat with
       | none=>(8,Zh,0)
       | some v=>(0,(w.1,v,w.2.2),now)
      else (g,Zh,0)
    else (f,Zh,0)
  else (e,Zh,0)
noncomputable def Zm5 (s:Rm) (a:Int) (k:Ky):Int×Rm×Int :=
 if ckE s a≠0 then (ckE s a,Zh,0) else if (Zm3 s a k).isSome=true then Zwr s a k else (6,Zh,0)
theorem Zg8 {s:Rm} {a:Int} {k:Ky} (h:ckE s a=0) {x:It} (hx:Zm3 s a k=some x):Zm5 s a k=Zwr s a k:=by
 unfold Zm5
 rw[if_neg (fun e=>e h),hx]
 rfl
def u9:It:=(Zcb 2,9,[])
theorem Z1h {T:Rm} (hm:Xq T=true) (r1:rmE T 11=0) (r2:rmV T 11=(1,upS)) (r3:rmE T 8=0) (r4:rmV T 8=(0,(Ls 6).take 3)) (r5:rmE T 10=0) (r6:rmV T 10=(0,(Ls 6).drop 3)) (hn:T.2.1=Zko) (hz:T.2.2=Zu 256) (hl:T.1.2.length<100) :
  ∃ W,Zwr T 11 (Zcb 1)=(0,W,9)∧ckE W 9=0∧ckH W 9=1∧Zpx W 9=(Ls 6).drop 1:=by
 have hT:T=(T.1,Zko,Zu 256):=by rw[← hn,← hz]
 have hin:InN ((0:Int),(Ls 6).drop 1):=⟨⟨by simp,by simp⟩,fun y hy=>(Zgl 6 (by omega) y (List.mem_of_mem_drop hy)).1⟩
 have hmn:mayN (0,(Ls 6).drop 1)=true:=by decide +kernel
 have hmu:mayN (1,[u9])=true:=by decide +kernel
 have hinu:InN ((1:Int),[u9]):=⟨⟨by simp,by simp⟩,fun y hy=>by
  rw[List.mem_singleton.1 hy]
  exact⟨⟨⟨by decide,by decide⟩,by decide,by decide⟩,by decide,by decide⟩⟩
 obtain⟨a1,a2⟩:=Zhk ((Ls 6).drop 1) T.2.1 fun y hy=>(Zgl 6 (by omega) y (List.mem_of_mem_drop hy)).2
 obtain⟨m1,m2,m3,m4,_⟩:=Zav hm hmn a1 (k:=9) (by rw[hT,Zdd];decide +kernel) (by omega)
 obtain⟨U,hU⟩:∃ U,mkV T (0,(Ls 6).drop 1)=U:=⟨_,rfl⟩
 rw[hU] at m3 m4
 have hU2:U=(wrD T.1 9 (Xs (0,(Ls 6).drop 1)),Zko.set 9 1,Zu 256):=by
  rw[m3]
  show (_,(ctV T.2.1 ((Ls 6).drop 1)).set 9 1,T.2.2)=_
  rw[a2,hn,hz]
 have hUn:U.2.1=Zko.set 9 1:=by rw[hU2]
 have c1:ctE U.2.1 [u9]=0:=by rw[hUn];decide +kernel
 obtain⟨o1,o2,o3,o4,_⟩:=Zav m4 hmu c1 (k:=12) (by rw[hU2,Zdd];decide +kernel) (by rw[hU2];show (wrD T.1 9 _).2.length<4096;rw[Zaa];omega)
 obtain⟨V,hV⟩:∃ V,mkV U (1,[u9])=V:=⟨_,rfl⟩
 rw[hV] at o3 o4
 have hV2:V=(wrD (wrD T.1 9 (Xs (0,(Ls 6).drop 1))) 12 (Xs (1,[u9])),((Zko.set 9 1).set 9 2).set 12 1,Zu 256):=by
  rw[o3]
  show (_,(ctV U.2.1 [u9]).set 12 1,U.2.2)=_
  rw[hU2]
  have:ctV (Zko.set 9 1) [u9]=(Zko.set 9 1).set 9 2:=by decide +kernel
  show (_,(ctV (Zko.set 9 1) [u9]).set 12 1,_)=_
  rw[this]
 obtain⟨D,hD⟩:∃ D,wrD (wrD T.1 9 (Xs (0,(Ls 6).drop 1))) 12 (Xs (1,[u9]))=D:=⟨_,rfl⟩
 rw[hD] at hV2
 have s9:Z1 D 9=Xs (0,(Ls 6).drop 1):=by rw[← hD,Zy (by decide)];exact Y8
 have s12:Z1 D 12=Xs (1,[u9]):=by rw[← hD];exact Y8
 have s11:Z1 D 11=Z1 T.1 11:=by rw[← hD,Zy (by decide),Zy (by decide)]
 have s8:Z1 D 8=Z1 T.1 8:=by rw[← hD,Zy (by decide),Zy (by decide)]
 have s10:Z1 D 10=Z1 T.1 10:=by rw[← hD,Zy (by decide),Zy (by decide)]
 have hmD:Zau D=true:=by rw[← show V.1=D by rw[hV2]];exact(Yb o4).1
 have hsee:∀ {k:Nat} {n:Nd},rmE T (k:Int)=0→rmV T (k:Int)=n→reN (Z1 T.1 k)=0∧reV (Z1 T.1 k)=n:=fun {k n} h1 h2=>by
  obtain⟨j,e,_,_,_,_,_,hE,hV,_⟩:=Xi (Ys h1).2
  obtain rfl:k=j:=by omega
  exact⟨hE ▸ h1,hV ▸ h2⟩
 have hb1:Zq T 0 ((Ls 6).drop 1)=(0,U,[u9]):=by
  unfold Zq
  rw[if_pos (by decide),if_pos m1,hU,m2]
  rfl
 have hb2:Zq U 1 [u9]=(0,V,[upI [u9] 12]):=by
  unfold Zq
  rw[if_pos (by decide),if_pos o1,hV,o2]
  rfl
 have hs0:Yh (Zcb 1) 0 T 8=(0,T,((Ls 6).take 3).drop 1,0):=by
  unfold Yh
  rw[r4]
  have:Zm4 (Zcb 1) (0,(Ls 6).take 3).2=((Ls 6).take 3).drop 1:=by decide +kernel
  rw[this]
 have hmg:Yf T upS 0 (((Ls 6).take 3).drop 1)=(0,2,(Ls 6).drop 1):=by
  have h1:upS[0+1]? = some (Zcb 4,10,[]):=rfl
  unfold Yf
  rw[h1]
  show (if (rmV T 10).2.length+(((Ls 6).take 3).drop 1).length≤5 then _ else _)=_
  rw[r6,if_pos (by decide)]
  rfl
 have hs1:Yh (Zcb 1) 1 T 11=(0,U,[u9],9):=by
  have hr:Zb0 (1,upS) (Zcb 1)=8:=by decide +kernel
  have hw:Xb (1,upS) (Zcb 1)=0:=by decide +kernel
  unfold Yh
  rw[r2,hr,hs0,hw]
  show (if (0:Int)=0 then _ else _)=_
  rw[if_pos rfl,if_neg (by decide)]
  show (match Yf T upS 0 (((Ls 6).take 3).drop 1) with | (first,many,L')=>match Zq T ((0:Nat):Int) L' with | (f,u,up)=>if f=0 then (0,(if (0:Int)=0 then u else Zak u 0),Zai upS first many (up.take 1),Zfk up) else (f,Zh,[],0))=_
  rw[hmg]
  show (match Zq T 0 ((Ls 6).drop 1) with | (f,u,up)=>if f=0 then (0,(if (0:Int)=0 then u else Zak u 0),Zai upS 0 2 (up.take 1),Zfk up) else (f,Zh,[],0))=_
  rw[hb1]
  rfl
 have hF:Zak V 9=(D,(((Zko.set 9 1).set 9 2).set 12 1).set 9 1,Zu 256):=by
  rw[hV2]
  have:((((Zko.set 9 1).set 9 2).set 12 1).set ((9:Int)).toNat (((((Zko.set 9 1).set 9 2).set 12 1))[((9:Int)).toNat]?.getD 0-1))=(((Zko.set 9 1).set 9 2).set 12 1).set 9 1:=by decide +kernel
  show (D,((((Zko.set 9 1).set 9 2).set 12 1).set ((9:Int)).toNat (((((Zko.set 9 1).set 9 2).set 12 1))[((9:Int)).toNat]?.getD 0-1)),Zu 256)=_
  rw[this]
 obtain⟨cF,hcF⟩:∃ c,(((Zko.set 9 1).set 9 2).set 12 1).set 9 1=c:=⟨_,rfl⟩
 have hmF:Xq (D,cF,Zu 256)=true:=Uj hmD (show Zam cF=true by rw[← hcF];decide +kernel) Zah
 have hm12:rmV (D,cF,Zu 256) 12=(1,[u9]):=(Zgd (Zby hmF (by omega) (by omega) (show cF[12]?.getD 0≠0 by rw[← hcF];decide +kernel)) s12 hmu hinu).2
 have r12:=Zbe hmu hinu
 have hlo:Yp 1 (D,cF,Zu 256) 12=(0,(D,((cF.set 9 2).set 12 0).set 9 1,Zu 256),9):=by
  unfold Yp
  rw[hm12]
  show (if (1:Nat)=1 then (if cF[9]?.getD 0=255 then (70,Zh,0) else match lfO D (upR (D,cF,Zu 256) 9).2.1 12 with | none=>(8,Zh,0) | some v=>Yp 0 (D,v,Zu 256) 9) else _)=_
  have h1:¬ cF[9]?.getD 0=255:=by rw[← hcF];decide +kernel
  have h2:(upR (D,cF,Zu 256) 9).2.1=cF.set 9 2:=by
   show cF.set ((9:Int)).toNat (cF[((9:Int)).toNat]?.getD 0+1)=_
   rw[← hcF]
   decide +kernel
  have h3:lfO D (cF.set 9 2) 12=some (((cF.set 9 2).set 12 0).set 9 1):=by
   unfold lfO
   rw[s12,r12.1,r12.2]
   have e1:dnO (cF.set 9 2) 12=some ((cF.set 9 2).set 12 0):=by rw[← hcF];decide +kernel
   rw[e1]
   show (if 1<((cF.set 9 2)[12]?.getD 0).toNat then _ else _)=_
   rw[if_neg (by rw[← hcF];decide +kernel),if_pos rfl]
   show Vj (lvF D 1) ((cF.set 9 2).set 12 0) [u9]=_
   show (if (9:Int)=0 then Vj (lvF D 1) ((cF.set 9 2).set 12 0) [] else (lvF D 1 ((cF.set 9 2).set 12 0) 9).bind fun t'=>Vj (lvF D 1) t' [])=_
   rw[if_neg (by decide)]
   show ((lvF D 1 ((cF.set 9 2).set 12 0) 9).bind fun t'=>Vj (lvF D 1) t' [])=_
   rw[Zf1 D 1 _ _ (by rw[← hcF];decide +kernel)]
   show some (((cF.set 9 2).set 12 0).set 9 (((cF.set 9 2).set 12 0)[9]?.getD 0-1))=_
   have:((cF.set 9 2).set 12 0).set 9 (((cF.set 9 2).set 12 0)[9]?.getD 0-1)=((cF.set 9 2).set 12 0).set 9 1:=by rw[← hcF];decide +kernel
   rw[this]
  rw[if_pos rfl,if_neg h1,h2,h3]
  rfl
 obtain⟨cG,hcG⟩:∃ c,((cF.set 9 2).set 12 0).set 9 1=c:=⟨_,rfl⟩
 rw[hcG] at hlo
 have hcG':cG=((((((Zko.set 9 1).set 9 2).set 12 1).set 9 1).set 9 2).set 12 0).set 9 1:=by rw[← hcG,← hcF]
 have hleaf:∀ {k:Nat} {t:List UInt8},t[k]?.getD 0≠0→lvF D 0 t k=some (t.set k (t[k]?.getD 0-1)):=fun h=>Zb3 h
 obtain⟨q1,q2⟩:=hsee (k:=11) r1 r2
 have hlf:lfO D cG 11=some (((cG.set 11 0).set 8 0).set 10 0):=by
  unfold lfO
  rw[s11,q1,q2]
  have e1:dnO cG 11=some (cG.set 11 0):=by rw[hcG'];decide +kernel
  rw[e1]
  show (if 1<(cG[11]?.getD 0).toNat then _ else _)=_
  rw[if_neg (by rw[hcG'];decide +kernel),if_pos rfl]
  obtain⟨p1,p2⟩:=hsee (k:=8) r3 r4
  obtain⟨p3,p4⟩:=hsee (k:=10) r5 r6
  have l8:lvF D 1 (cG.set 11 0) 8=some ((cG.set 11 0).set 8 0):=by
   show lvS D 0 (lvF D 0) (cG.set 11 0) 8=_
   unfold lvS
   have e2:dnO (cG.set 11 0) 8=some ((cG.set 11 0).set 8 0):=by rw[hcG'];decide +kernel
   rw[e2,s8,p1,p2]
   show (if 1<((cG.set 11 0)[8]?.getD 0).toNat then _ else _)=_
   rw[if_neg (by rw[hcG'];decide +kernel),if_pos ⟨rfl,rfl⟩]
   rfl
  have l10:lvF D 1 ((cG.set 11 0).set 8 0) 10=some (((cG.set 11 0).set 8 0).set 10 0):=by
   show lvS D 0 (lvF D 0) ((cG.set 11 0).set 8 0) 10=_
   unfold lvS
   have e2:dnO ((cG.set 11 0).set 8 0) 10=some (((cG.set 11 0).set 8 0).set 10 0):=by rw[hcG'];decide +kernel
   rw[e2,s10,p3,p4]
   show (if 1<(((cG.set 11 0).set 8 0)[10]?.getD 0).toNat then _ else _)=_
   rw[if_neg (by rw[hcG'];decide +kernel),if_pos ⟨rfl,rfl⟩]
   rfl
  show Vj (lvF D 1) (cG.set 11 0) upS=_
  show (if (8:Int)=0 then Vj (lvF D 1) (cG.set 11 0) [(Zcb 4,10,[])] else (lvF D 1 (cG.set 11 0) 8).bind fun t'=>Vj (lvF D 1) t' [(Zcb 4,10,[])])=_
  rw[if_neg (by decide),l8]
  show (if (10:Int)=0 then Vj (lvF D 1) ((cG.set 11 0).set 8 0) [] else (lvF D 1 ((cG.set 11 0).set 8 0) 10).bind fun t'=>Vj (lvF D 1) t' [])=_
  rw[if_neg (by decide),l10]
  rfl
 obtain⟨cW,hcW⟩:∃ c,((cG.set 11 0).set 8 0).set 10 0=c:=⟨_,rfl⟩
 rw[hcW] at hlf
 have hcW':cW=((((((((((Zko.set 9 1).set 9 2).set 12 1).set 9 1).set 9 2).set 12 0).set 9 1).set 11 0).set 8 0).set 10 0):=by rw[← hcW,hcG']
 have hmW:Xq (D,cW,Zu 256)=true:=Uj hmD (show Zam cW=true by rw[hcW'];decide +kernel) Zah
 have ha9:asE (D,cW,Zu 256) 9=0:=Zby (k:=9) hmW (by omega) (by omega) (show cW[9]?.getD 0≠0 by rw[hcW'];decide +kernel)
 obtain⟨v1,v2⟩:=Zgd (k:=9) ha9 s9 hmn hin
 have v1':rmE (D,cW,Zu 256) 9=0:=v1
 have v2':rmV (D,cW,Zu 256) 9=(0,(Ls 6).drop 1):=v2
 have hlfO:Y2 (D,cW,Zu 256) ((Ls 6).drop 1)=true:=by
  unfold Y2
  rw[List.all_eq_true]
  intro y hy
  simp[(Zgl 6 (by omega) y (List.mem_of_mem_drop hy)).2]
 have ht:X2 (D,cW,Zu 256) 9=true:=by
  unfold X2
  rw[v1',v2']
  show (true&&Y2 (D,cW,Zu 256) ((Ls 6).drop 1))=true
  rw[hlfO]
  rfl
 refine⟨(D,cW,Zu 256),?_,(Zkh ha9 ht).1,by rw[(Zkh ha9 ht).2,v2'];rfl,?_⟩
 ·unfold Zwr
  rw[r2]
  show (match Yh (Zcb 1) 1 T 11 with | (e,t,L,held)=>if e=0 then (match Zq t (if L=[] then 0 else 1) L with | (f,u,up)=>if f=0 then (match Yp (if L=[] then 0 else 1) (if held=0 then u else Zak u held) (Zfk up) with | (g,w,now)=>if g=0 then (match lfO w.1 w.2.1 11 with | none=>((8:Int),Zh,(0:Int)) | some v=>((0:Int),(w.1,v,w.2.2),now)) else (g,Zh,(0:Int))) else (f,Zh,(0:Int))) else (e,Zh,(0:Int)))=_
  rw[hs1]
  show (match Zq U 1 [u9] with | (f,u,up)=>if f=0 then (match Yp 1 (Zak u 9) (Zfk up) with | (g,w,now)=>if g=0 then (match lfO w.1 w.2.1 11 with | none=>((8:Int),Zh,(0:Int)) | some v=>((0:Int),(w.1,v,w.2.2),now)) else (g,Zh,(0:Int))) else (f,Zh,(0:Int)))=_
  rw[hb2]
  show (match Yp 1 (Zak V 9) 12 with | (g,w,now)=>if g=0 then (match lfO w.1 w.2.1 11 with | none=>((8:Int),Zh,(0:Int)) | some v=>((0:Int),(w.1,v,w.2.2),now)) else (g,Zh,(0:Int)))=_
  rw[hF,hcF,hlo]
  show (match lfO D cG 11 with | none=>((8:Int),Zh,(0:Int)) | some v=>((0:Int),(D,v,Zu 256),(9:Int)))=_
  rw[hlf]
 ·unfold Zpx
  rw[v2']
  show Za7 (D,cW,Zu 256) 0 9=_
  unfold Za7
  rw[v2']
theorem Z0n {s:Rm} {m:Nat} (h:Lf s 9 [kx 1] m) (hm:m<100):∃ W,Zwr s 9 (Zcb 1)=(0,W,8)∧Lf W 8 [] (m+1):=by
 obtain⟨_,r2⟩:=h.rm
 have r2':rmV s 9=(0,[kx 1]):=r2
 have hin:InN ((0:Int),([]:List It)):=⟨⟨by simp,by simp⟩,fun y hy=>(by cases hy)⟩
 have hmn:mayN (0,[])=true:=by decide +kernel
 have hs:s=(s.1,(Zu 256).set 9 1,Zu 256):=by rw[← h.now,← h.last]
 obtain⟨m1,m2,m3,m4,_⟩:=Zav h.may hmn (show ctE s.2.1 []=0 from rfl) (k:=8) (by rw[hs,Zdd];decide +kernel) (by have:=h.few;omega)
 obtain⟨U,hU⟩:∃ U,mkV s (0,[])=U:=⟨_,rfl⟩
 rw[hU] at m3 m4
 have hU2:U=(wrD s.1 8 (Xs (0,[])),((Zu 256).set 9 1).set 8 1,Zu 256):=by
  rw[m3]
  show (_,s.2.1.set 8 1,s.2.2)=_
  rw[h.now,h.last]
 have hb:Zq s 0 []=(0,U,[upI [] 8]):=by
  unfold Zq
  rw[if_pos (by decide),if_pos m1,hU,m2]
  rfl
 have hs0:Yh (Zcb 1) 0 s 9=(0,s,[],0):=by
  unfold Yh
  rw[r2']
  have:Zm4 (Zcb 1) (0,[kx 1]).2=[]:=by decide +kernel
  rw[this]
 have hlf:lfO U.1 U.2.1 9=some (U.2.1.set 9 0):=by
  refine Zj2 (L:=[kx 1]) ?_ h.mayN h.inN ?_ h.refs
  ·rw[hU2]
   exact(Zy (by decide)).trans h.seen
  ·rw[hU2]
   show (((Zu 256).set 9 1).set 8 1)[9]?.getD 0=1
   decide +kernel
 have hT:U.2.1.set 9 0=(Zu 256).set 8 1:=by
  rw[hU2]
  show (((Zu 256).set 9 1).set 8 1).set 9 0=_
  decide +kernel
 have hZ:U.2.2=Zu 256:=by rw[hU2]
 refine⟨(U.1,(Zu 256).set 8 1,Zu 256),?_,⟨?_,rfl,rfl,?_,hmn,hin,by omega,?_,fun y hy=>(by cases hy)⟩⟩
 ·unfold Zwr
  rw[r2']
  show (match Yh (Zcb 1) 0 s 9 with | (e,t,L,held)=>if e=0 then (match Zq t (if L=[] then 0 else 0) L with | (f,u,up)=>if f=0 then (match Yp (if L=[] then 0 else 0) (if held=0 then u else Zak u held) (Zfk up) with | (g,w,now)=>if g=0 then (match lfO w.1 w.2.1 9 with | none=>((8:Int),Zh,(0:Int)) | some v=>((0:Int),(w.1,v,w.2.2),now)) else (g,Zh,(0:Int))) else (f,Zh,(0:Int))) else (e,Zh,(0:Int)))=_
  rw[hs0]
  show (match Zq s 0 [] with | (f,u,up)=>if f=0 then (match Yp 0 u (Zfk up) with | (g,w,now)=>if g=0 then (match lfO w.1 w.2.1 9 with | none=>((8:Int),Zh,(0:Int)) | some v=>((0:Int),(w.1,v,w.2.2),now)) else (g,Zh,(0:Int))) else (f,Zh,(0:Int)))=_
  rw[hb]
  show (match lfO U.1 U.2.1 9 with | none=>((8:Int),Zh,(0:Int)) | some v=>((0:Int),(U.1,v,U.2.2),(8:Int)))=_
  rw[hlf]
  show ((0:Int),(U.1,U.2.1.set 9 0,U.2.2),(8:Int))=_
  rw[hT,hZ]
 ·refine Uj ?_ (show Zam ((Zu 256).set 8 1)=true by decide +kernel) Zah
  exact(Yb m4).1
 ·show Z1 U.1 8=_
  rw[hU2]
  exact Y8
 ·show U.1.2.length≤m+1
  rw[hU2]
  show (wrD s.1 8 _).2.length≤m+1
  rw[Zaa]
  have:=h.few
  omega
theorem Z1m:∃ W,Zm5 (gS 6).1 11 (Zcb 1)=(0,W,9)∧ckE W 9=0∧ckH W 9=1∧(raV W 9 Za0 Zqy).length=5:=by
 obtain⟨T,e,h1,h2,h3,h4,h5,h6,h7,h8,h9,h10⟩:=Zj4
 have eg:(gS 6).1=T:=by rw[Zn1 5,e]
 rw[eg]
 obtain⟨W,f1,f2,f3,f4⟩:=Z1h h1 h2 h3 h4 h5 h6 h7 h8 h9 h10
 refine⟨W,?_,f2,f3,?_⟩
 ·have hx:Zm3 T 11 (Zcb 1)=some (kx 1):=by
   unfold Zm3
   rw[h3]
   show Zdl T 1 11 (Zcb 1)=_
   rw[Zgc,h3]
   have e1:((1,upS).2.reverse.find? fun x => !Zp (Zcb 1) x.1)=some (Zcb 1,8,[]):=by decide +kernel
   have e2:((0,(Ls 6).take 3).2.reverse.find? fun x=>decide (x.1=Zcb 1))=some (kx 1):=by decide +kernel
   rw[e1]
   show Zdl T 0 8 (Zcb 1)=_
   rw[Zco,h5]
   exact e2
  rw[Zg8 (Zo4 h2 h3 h4 h5 h6 h7).1 hx,f1]
 ·rw[Ztj f2,f4]
  rfl
theorem Z1w:∃ W,Zm5 (gS 1).1 9 (Zcb 1)=(0,W,8)∧Zm5 W 8 (Zcb 1)=(6,Zh,0)∧Zm5 W 7 (Zcb 1)=(2,Zh,0)∧(raV W 8 Za0 Zqy).length=0∧Zx0 W:=by
 obtain⟨hl,_⟩:=Zn6 1 (by omega)
 have hl':Lf (gS 1).1 9 [kx 1] 2:=hl
 obtain⟨W,f1,f2⟩:=Z0n hl' (by omega)
 have t3:ckE (gS 1).1 9=0:=hl'.tree.2.2.1
 have u3:ckE W 8=0:=f2.tree.2.2.1
 have u2:Zpx W 8=[]:=f2.tree.2.1
 have hr:rmV (gS 1).1 9=(0,[kx 1]):=hl'.rm.2
 have hw:rmV W 8=(0,[]):=f2.rm.2
 refine⟨W,?_,?_,?_,?_,Ztr f2.may⟩
 ·have hx:Zm3 (gS 1).1 9 (Zcb 1)=some (kx 1):=by
   unfold Zm3
   rw[hr]
   show Zdl (gS 1).1 0 9 (Zcb 1)=_
   rw[Zco,hr]
   decide +kernel
  rw[Zg8 t3 hx,f1]
 ·have hx:Zm3 W 8 (Zcb 1)=none:=by
   unfold Zm3
   rw[hw]
   show Zdl W 0 8 (Zcb 1)=_
   rw[Zco,hw]
   rfl
  unfold Zm5
  rw[if_neg (fun h=>h u3),hx]
  rfl
 ·have h7:ckE W 7=2:=by
   have ha:asE W 7=2:=by
    rcases Ze2 W 7 with ⟨h,_⟩ | ⟨_,_,h⟩ | ⟨k,_,h1,h2,_⟩ | ⟨k,_,h1,h2,_⟩
    ·rw[f2.may] at h;cases h
    ·exact h
    ·omega
    ·omega
   unfold ckE
   rw[if_neg (by rw[ha];decide),ha]
  unfold Zm5
  rw[if_pos (by rw[h7];decide),h7]
 ·rw[Ztj u3,u2]
  rfl
theorem Zje {s:Rm} {k:Ky}:∀ {l:Nat} {a:Int} {x:It},AtT s l a→Zdl s l a k=some x→(Yg (rmV s a) k=true∨1≤Zz (rmV s a) k)∧(l=0→Yg (rmV s a) k=true)∧∀ j,l=j+1→Zdl s j (Zb0 (rmV s a) k) k=some x
 | 0,a,x,hA,h=>by
  cases ht:Yg (rmV s a) k with
  | true=>exact⟨.inl rfl,fun _=>rfl,fun j hj=>by cases hj⟩
  | false =>
   rw[Zco,Ze8 hA.may ht] at h
   cases h
 | l+1,a,x,hA,h=>by
  rw[Zgc] at h
  have key:∀ y:It,(rmV s a).2[Xb (rmV s a) k]? = some y→((rmV s a).2.reverse.find? fun x => !Zp k x.1)=some y→∀ j,l+1=j+1→Zdl s j (Zb0 (rmV s a) k) k=some x:=fun y hy hf j hj=>by
   obtain rfl:l=j:=by omega
   rw[hf] at h
   rw[Zk3 hy]
   exact h
  cases ht:Yg (rmV s a) k with
  | true =>
   obtain⟨y,hy⟩:∃ y,(rmV s a).2[Zz (rmV s a) k]? = some y:=⟨_,List.getElem?_eq_getElem (Zaq ht)⟩
   refine⟨.inl rfl,fun h=>(by cases h),key y ?_ (Vs hA.may ht hy).2.1⟩
   unfold Xb
   rw[if_pos ht]
   exact hy
  | false =>
   rcases Nat.eq_zero_or_pos (Zz (rmV s a) k) with h0 | h0
   ·rw[Ziz hA.may ht h0] at h
    cases h
   ·obtain⟨p,hp⟩:∃ p,Zz (rmV s a) k=p+1:=⟨Zz (rmV s a) k-1,by omega⟩
    have hle:=Za8 (rmV s a) k
    obtain⟨y,hy⟩:∃ y,(rmV s a).2[p]? = some y:=⟨_,List.getElem?_eq_getElem (by omega)⟩
    refine⟨.inr h0,fun h=>(by cases h),key y ?_ (Zg7 hA.may ht hp hy)⟩
    unfold Xb
    rw[if_neg (by rw[ht];decide),hp]
    exact hy
theorem Zjx {s:Rm} {k:Ky} {a:Int} {lv:Nat} {x:It} (hA:AtT s lv a) (h:Zdl s lv a k=some x):∀ j,j≤lv→Zdl s (lv-j) (atW s k a j) k=some x
 | 0,_=>h
 | j+1,hj=>by
  have ih:=Zjx hA h j (by omega)
  exact(Zje (Um hA j (by omega)) ih).2.2 (lv-(j+1)) (by omega)
theorem Z3z {n:Nd} {k:Ky} (h:mayN n=true) (ht:Yg n k=true):Zm4 k n.2=Zai n.2 (Xb n k) 1 []:=by
 have hw:Xb n k=Zz n k:=if_pos ht
 obtain⟨y,hy⟩:∃ y,n.2[Xb n k]? = some y:=⟨_,List.getElem?_eq_getElem (by rw[hw];exact Zaq ht)⟩
 have hyk:=(Vs h ht (by rw[← hw];exact hy)).1
 have hne:∀ i z,n.2[i]? = some z→i≠Zz n k→z.1≠k:=fun i z hz hi e=>by
  have:=(Zge h hz).1
  rw[e] at this
  exact hi this.symm
 conv=>lhs;rw[Zjg hy]
 rw[Z1g]
 have e1:Zm4 k (n.2.take (Xb n k))=n.2.take (Xb n k):=Zwo fun z hz=>by
  obtain⟨i,hi⟩:=List.getElem?_of_mem hz
  have hil:=(List.getElem?_eq_some_iff.1 hi).1
  rw[List.length_take] at hil
  rw[List.getElem?_take_of_lt (by omega)] at hi
  exact hne i z hi (by omega)
 have e2:Zm4 k (n.2.drop (Xb n k+1))=n.2.drop (Xb n k+1):=Zwo fun z hz=>by
  obtain⟨i,hi⟩:=List.getElem?_of_mem hz
  rw[List.getElem?_drop] at hi
  exact hne _ z hi (by omega)
 have e3:Zm4 k (y::n.2.drop (Xb n k+1))=Zm4 k (n.2.drop (Xb n k+1)):=by
  unfold Zm4
  rw[List.filter_cons,if_neg (by simpa using hyk)]
 rw[e1,e3,e2]
 rfl
def dvV (q:Sv):List Value:=[.int .i64 q.nd.1,.slice q.A q.nd.2.length q.c,.int .i64 (q.pl:Int)]
def dvs (l:List Sv):List Value:=l.flatMap dvV
def Z45:Value→Nat | .slice _ n _=>n | _=>0
theorem Znv:(Tryz.prog.info? 102).map (fun i=>(i.zero,i.size,i.bytes))=some (some (.agg #[.int .i64 0,.slice none 0 0,.int .i64 0]),3,40):=by kernel_rfl
theorem Z1y (a b:List Sv):dvs (a++b)=dvs a++dvs b:=by simp[dvs]
structure Z0d (lo:Nat) (s:Rm) (k:Ky) (a:Int) (W:World) (A:Option Addr) (c:Nat) (l:List Sv):Prop where
 row:W.ownsRow lo 102 3 (.slice A l.length c) l.length (dvs l)
 rows:Rows lo W.heap.size W l
 off:∀ g q,A.map (·.block)=some g→q∈l→g<q.lo∨q.hi≤g
 are:∀ i q,l[i]? = some q→q.nd=rmV s (atW s k a i)∧q.pl=Xb q.nd k
theorem Zne {w:World} {lo:Nat} {A:Option Addr} {c:Nat} {l:List Sv} (h:w.ownsRow lo 102 3 (.slice A l.length c) l.length (dvs l)) (q:Sv) (g m n:Nat) (hg:w.heap[g]? = some (.cells #[.int .i64 q.nd.1,.slice q.A q.nd.2.length q.c,.int .i64 (q.pl:Int)] 102 (0,0))) (hn:l.length=n) (hs:n<100) (hbase:lo≤w.heap.size) :
  ∃ A' c' w',(Builtin.append_ #[64,64] 64 #[.slice A n c,.slice (some ⟨g,0,none⟩) 1 m]).run Tryz.prog w=.ok (.slice A' (n+1) c') w'∧w'.ownsRow lo 102 3 (.slice A' (l++[q]).length c') (l++[q]).length (dvs (l++[q]))∧w.grownBy w' (A.map (·.block))∧Below lo w w'∧(A'.map (·.block)=A.map (·.block)∨A'.map (·.block)=some w.heap.size):=by
 subst hn
 obtain⟨i0,hi,hz0,hz1,hz2⟩:=info_parts Znv
 obtain⟨A1,c1,e,_,_,e4,_⟩:=Ye h
 cases e
 obtain⟨v',w',hr,o1,g1,b1,k1⟩:=Zcj (P:=Tryz.prog) (w:=w) lo 64 64 102 i0 (.agg #[.int .i64 0,.slice none 0 0,.int .i64 0]) 3 40 Tryz.underlying64 hi hz0 hz1 hz2 rfl (by decide) _ _ _ h ⟨g,0,none⟩ 1 m (dvV q) rfl (World.news_of_block (cs:=#[.int .i64 q.nd.1,.slice q.A q.nd.2.length q.c,.int .i64 (q.pl:Int)]) hg) (fun u hu=>by
  simp[dvV] at hu
  rcases hu with rfl | rfl | rfl <;> rfl) (by unfold maxLen;omega) (by omega) hbase
 obtain⟨A2,c2,rfl,_,_,e5,_⟩:=Ye o1
 rw[e4] at g1 k1
 rw[e5] at k1
 refine⟨A2,c2,w',hr,?_,g1,b1,k1⟩
 rw[Z1y,List.length_append]
 simpa [dvs] using o1
theorem Z0d.push {lo:Nat} {s:Rm} {k:Ky} {a:Int} {wr W1 w6 w7:World} {A A':Option Addr} {c c':Nat} {l:List Sv} (h:Z0d lo s k a wr A c l) (q:Sv) (hlo:q.lo=wr.heap.size) (hhi:q.hi=W1.heap.size) (hrow:Yd rIt 5 54 wr.heap.size W1 q.A q.c q.nd.2)
  (hb1:Below wr.heap.size wr W1) (h16:Below W1.heap.size W1 w6) (g67:w6.grownBy w7 (A.map (·.block))) (row:w7.ownsRow lo 102 3 (.slice A' (l++[q]).length c') (l++[q]).length (dvs (l++[q]))) (k1:A'.map (·.block)=A.map (·.block)∨A'.map (·.block)=some w6.heap.size)
  (hnd:q.nd=rmV s (atW s k a l.length)) (hst:q.pl=Xb q.nd k) (hl:lo≤wr.heap.size):Z0d lo s k a w7 A' c' (l++[q]):=by
 have hA:∀ g,A.map (·.block)=some g→g<wr.heap.size:=fun g e=>(h.row.lt g (by rw[← e];cases A <;> rfl)).2
 have s1:=hb1.size
 have s6:=h16.size
 have s7:=g67.size
 have Zbh:∀ x∈l,∀ k,x.lo≤k→k<x.hi→w7.heap[k]? = wr.heap[k]? := fun x hx k h1 h2=>by
  obtain⟨_,_,h3,_⟩:=h.rows.ok x hx
  rw[g67.block k (by omega) (fun e=>by rcases h.off _ x e.symm hx with h4 | h4 <;> omega),h16.block k (by omega),hb1.block k (by omega)]
 refine⟨row,⟨fun x hx => ?_,?_⟩,fun g x e hx => ?_,fun i x e => ?_⟩
 ·rcases List.mem_append.1 hx with hx | hx
  ·obtain⟨h1,h2,h3,h4⟩:=h.rows.ok x hx
   exact⟨h1,h2,by omega,h4.same (Zbh x hx)⟩
  ·obtain rfl:=List.mem_singleton.1 hx
   refine⟨by omega,by omega,by omega,W1,hhi.symm,by rw[hlo];exact hrow,fun k h1 h2 => ?_⟩
   rw[g67.block k (by omega) (fun e=>by have:=hA _ e.symm;omega),h16.block k (by omega)]
 ·rw[List.pairwise_append]
  refine⟨h.rows.apart,List.pairwise_singleton _ _,fun x hx y hy => ?_⟩
  obtain rfl:=List.mem_singleton.1 hy
  have:=(h.rows.ok x hx).2.2.1
  omega
 ·have hg:A.map (·.block)=some g∨g=w6.heap.size:=by
   rcases k1 with k1 | k1
   ·exact .inl (by rw[← k1,e])
   ·rw[e] at k1
    exact .inr (by simpa using k1)
  rcases List.mem_append.1 hx with hx | hx
  ·rcases hg with hg | hg
   ·exact h.off g x hg hx
   ·have:=(h.rows.ok x hx).2.2.1
    omega
  ·obtain rfl:=List.mem_singleton.1 hx
   rcases hg with hg | hg
   ·have:=hA g hg
    omega
   ·omega
 ·rcases Nat.lt_or_ge i l.length with hi | hi
  ·rw[List.getElem?_append_left hi] at e
   exact h.are i x e
  ·rw[List.getElem?_append_right hi] at e
   have hi0:i=l.length:=by
    have:=(List.getElem?_eq_some_iff.1 e).1
    simp at this
    omega
   subst hi0
   simp at e
   subst e
   exact⟨hnd,hst⟩
theorem Zqt (qa qb qc qd:Option Addr×Nat×Nat) (s:Rm) (a:Int) (lv:Nat) (hlv:lv<6) (k:Ky) (x:It) (hx:Zdl s lv a k=some x) (w:World) (h:Sto (Old w) w (.agg #[.slice qa.1 qa.2.1 qa.2.2,.slice qb.1 qb.2.1 qb.2.2,.slice qc.1 qc.2.1 qc.2.2,.slice qd.1 qd.2.1 qd.2.2]) s) (hT:AtT s lv a) :
  Calls Tryz.prog 25 #[.agg #[.slice qa.1 qa.2.1 qa.2.2,.slice qb.1 qb.2.1 qb.2.2,.slice qc.1 qc.2.1 qc.2.2,.slice qd.1 qd.2.1 qd.2.2],.int .i64 a,kyV k] w fun e w'=>∃ A c l,e=.returned (.tuple #[.slice A l.length c,.int .i64 0])∧l.length=lv+1∧Z0d w.heap.size s k a w' A c l∧Below w.heap.size w w':=by
 obtain⟨w1,hw1,b1,hs1,hB1⟩:=Xt w (.slice qa.1 qa.2.1 qa.2.2) (.slice qb.1 qb.2.1 qb.2.2) (.slice qc.1 qc.2.1 qc.2.2) (.slice qd.1 qd.2.1 qd.2.2) 29
 obtain⟨w2,hw2,-,-,-,hs2,hB2,b2⟩:=Yw w1 (.int .u8 (k.1.toNat:Int)) (.int .u32 k.2.1) (.int .u32 k.2.2) 37
 have hB12:=hB1.trans (hB2.mono hB1.size)
 have G1:=Za ((hB2.block w.heap.size (by omega)).trans b1)
 have G2:=Za b2
 have B2:=Za hB12
 have SZ:=Za (show w1.heap.size=w.heap.size+1∧w2.heap.size=w.heap.size+2 from ⟨hs1,by omega⟩)
 have HS:=Za h
 have hdn:=Za (fun j hj=>And.intro (Um (k:=k) hT j hj) (Zje (Um (k:=k) hT j hj) (Zjx hT hx j hj)))
 replace hs1:=Za hs1
 replace hs2:=Za hs2
 replace hT:=Za hT
 replace hx:=Za hx
 clear h hB1 hB2 hB12 b1 b2
 unfold kyV
 go_enter Tryz.func25,Tryz.ntmps25
 go_wp2_with fail
 clear hw1 hw2
 go_loopw [8,9] (fun sv av wr=>∃ (j:Nat) (A:Option Addr) (c:Nat) (l:List Sv),j≤lv∧l.length=j∧sv=.slice A l.length c∧av=.int .i64 (atW s k a j)∧Z0d w2.heap.size s k a wr A c l∧Below w2.heap.size w2 wr) (fun sv _ _=>lv+1-Z45 sv)
 case atStart=>exact⟨0,none,0,[],by omega,rfl,rfl,rfl,⟨World.ownsRow_nil ..,⟨fun _ h=>(List.not_mem_nil h).elim,List.Pairwise.nil⟩,fun _ _ e=>(nomatch e),fun _ _ e=>(nomatch e)⟩,Below.refl _ _⟩
 case round =>
  obtain⟨j,A,c,l,hj,hll,rfl,rfl,hW,hb⟩:=hrel
  obtain⟨hA,hpl0,hth,_⟩:=hdn.out j hj
  have hok:=hA.ok
  have hlv:=hA.lvl
  have hmay:=hA.may
  have hBr:=Za (B2.out.trans (hb.mono B2.out.size))
  have hN:=Zch _ s (atW s k a j) wr (HS.out.below hBr.out)
  have hne:=(Z2 hmay).1.2.2.2
  have hfive:=Za (Z2 hmay).1.2.2.1
  obtain⟨nd,hnd⟩:∃ q,rmV s (atW s k a j)=q:=⟨_,rfl⟩
  have hnext:Hid (nd.1≠0→∃ y,nd.2[Xb nd k]? = some y∧y.2.1=atW s k a (j+1)):=Za (fun h0=>by
   rw[hnd] at hne
   rw[hnd] at hlv
   have hlt:=Zc6 k (hne (by omega))
   refine⟨_,List.getElem?_eq_getElem hlt,?_⟩
   show _=Zb0 (rmV s (atW s k a j)) k
   rw[hnd,Zk3 (List.getElem?_eq_getElem hlt)])
  rw[hok,hnd] at hN
  rw[hnd] at hlv hfive hpl0
  have hplw:Hid (Xb nd k=if Yg nd k=true then Zz nd k else Zz nd k-1):=Za rfl
  have hple:=Za8 nd k
  clear hmay hne hok hth
  have hlv0:nd.1=0→j=lv:=fun h0=>by omega
  obtain⟨lw,hlw⟩:∃ q,nd.1=q:=⟨_,rfl⟩
  obtain⟨nl,hnl⟩:∃ q,nd.2.length=q:=⟨_,rfl⟩
  obtain⟨pn,hpn⟩:∃ q,Zz nd k=q:=⟨_,rfl⟩
  obtain⟨tn,htn⟩:∃ q,Yg nd k=q:=⟨_,rfl⟩
  obtain⟨pl,hpl⟩:∃ q,Xb nd k=q:=⟨_,rfl⟩
  rw[hpn,htn] at hpl0
  rw[hpn,htn,hpl] at hplw
  rw[hpn,hnl] at hple
  have g1:=Za ((hb.block w.heap.size (by have:=SZ.out;omega)).trans G1.out)
  have g2:=Za ((hb.block w1.heap.size (by have:=SZ.out;omega)).trans G2.out)
  obtain⟨k0,k1,k2,k3,_⟩:=Ze g1.out
  have hW':=Za hW
  have hb':=Za hb
  have hnd':=Za hnd
  replace hll:=Za hll
  clear hA hW hb hnd
  go_upto_region 3 with fail
  go_wp2_with fail
  with_reducible refine hN.mono ?_
  rintro e W1 ⟨u,rfl,⟨Z,zc,rfl,hin,hrow⟩,hb1⟩
  rw[hnl,hlw]
  clear hN k0 k1 k2 k3
  obtain⟨w3,hw3,b3,hs3,hB3⟩:=Z7 W1 (.int .i64 lw) (.slice Z nl zc) 81
  have g23:=(hB3.block w1.heap.size (by have:=hb1.size;have:=hb'.out.size;have:=SZ.out;omega)).trans ((hb1.block w1.heap.size (by have:=hb'.out.size;have:=SZ.out;omega)).trans g2.out)
  obtain⟨y0,y1,_⟩:=Zg b3
  obtain⟨z0,z1,z2,_⟩:=Zk g23
  have hst:=Zbs _ nd k w3 ((Zhu.nod ⟨Z,zc,rfl,hin,hrow⟩).drop.below hB3)
  rw[hnl,hlw,hpn,htn] at hst
  have B13:=Za hB3
  have hrow1:=Za hrow
  have B1:=Za hb1
  have b3':=Za b3
  clear hb1 hB3 hrow hin b3 g23
  replace hs3:=Za hs3
  go_upto_region 6 with fail
  clear hw3
  unfold kyV at hst
  go_wp2_with fail
  with_reducible refine hst.mono ?_
  rintro e w4 ⟨rfl,hb4⟩
  clear hst y0 y1 z0 z1 z2
  have b4:=(hb4.block W1.heap.size (by have:=hs3.out;omega)).trans b3'.out
  obtain⟨y0,y1,_⟩:=Zg b4
  obtain⟨w6,hw6,b6,hs6,hB6⟩:∃ w6,w4.alloc (.cells #[.int .i64 lw,.slice Z nl zc,.int .i64 (pl:Int)] 102)=w6∧w6.heap[w4.heap.size]? = some (.cells #[.int .i64 lw,.slice Z nl zc,.int .i64 (pl:Int)] 102 (0,0))∧w6.heap.size=w4.heap.size+1∧Below w4.heap.size w4 w6:=⟨_,rfl,heap_alloc_new _ _,by simp,(Below.refl _ _).alloc (Nat.le_refl _) _⟩
  have B16:Hid (Below W1.heap.size W1 w6):=Za (B13.out.trans ((hb4.trans (hB6.mono hb4.size)).mono B13.out.size))
  have B26:Hid (Below w2.heap.size w2 w6):=Za (hb'.out.trans ((B1.out.mono hb'.out.size).trans (B16.out.mono (Nat.le_trans hb'.out.size B1.out.size))))
  have row6:=Zw (Zw hW'.out.row B1.out) B16.out
  obtain⟨A',c',w7,hr7,row7,gr7,hb7,k7⟩:=Zne row6 ⟨nd,pl,false,Z,zc,wr.heap.size,W1.heap.size⟩ w4.heap.size 1 j (by rw[hlw,hnl];exact b6) hll.out (by omega) B26.out.size
  have hW7:=Za (Z0d.push hW'.out ⟨nd,pl,false,Z,zc,wr.heap.size,W1.heap.size⟩ rfl rfl hrow1.out B1.out B16.out gr7 row7 k7 (by rw[hll.out];exact hnd'.out.symm) hpl.symm hb'.out.size)
  have hB27:=Za (B26.out.trans hb7)
  have hAlt:∀ g,A.map (·.block)=some g→g<wr.heap.size:=fun g e=>(hW'.out.row.lt g (by rw[← e];cases A <;> rfl)).2
  have f3:=(gr7.block W1.heap.size (by have:=B16.out.size;have:=B13.out.size;have:=hs3.out;have:=hb4.size;have:=hB6.size;omega) (fun e=>by have:=hAlt _ e.symm;have:=B1.out.size;omega)).trans ((hB6.block W1.heap.size (by have:=hs3.out;have:=hb4.size;omega)).trans b4)
  have H7:=Za hr7
  have hl7:Hid (j+1=(l++[(⟨nd,pl,false,Z,zc,wr.heap.size,W1.heap.size⟩:Sv)]).length):=Za (by rw[List.length_append,hll.out];rfl)
  have hlj:Hid (l.length=j):=hll
  obtain⟨l',hl'⟩:∃ q,l++[(⟨nd,pl,false,Z,zc,wr.heap.size,W1.heap.size⟩:Sv)]=q:=⟨_,rfl⟩
  have hrow7:Hid (Yd rIt 5 54 wr.heap.size w7 Z zc nd.2):=Za (by
   obtain⟨_,_,h3,h4⟩:=hW7.out.rows.ok ⟨nd,pl,false,Z,zc,wr.heap.size,W1.heap.size⟩ (by simp)
   exact h4.use h3)
  rw[hl'] at hW7 hl7
  replace hl':=Za hl'
  obtain⟨n0,n1,_⟩:=Zg f3
  replace f3:=Za f3
  replace hs6:=Za hs6
  replace b6:=Za b6
  clear hr7 gr7 hb7 row7 row6 k7 hB6 hAlt hW' hb4 b4
  have hfin:Hid (lw=0→∃ A0 c0 l0,Ending.returned (.tuple #[.slice A' (j+1) c',.int .i64 0])=.returned (.tuple #[.slice A0 l0.length c0,.int .i64 0])∧l0.length=lv+1∧Z0d w.heap.size s k a w7 A0 c0 l0∧Below w.heap.size w w7):=Za fun h0=>by
   have hjl:=hlv0 (by rw[hlw];exact h0)
   refine⟨A',c',l',by rw[hl7.out],by rw[← hl7.out,hjl],⟨Zbx hW7.out.row (by have:=SZ.out;omega),⟨fun q hq=>by
    obtain⟨h1,h2,h3,h4⟩:=hW7.out.rows.ok q hq
    exact⟨by have:=SZ.out;omega,h2,h3,h4⟩,hW7.out.rows.apart⟩,hW7.out.off,hW7.out.are⟩,B2.out.trans (hB27.out.mono B2.out.size)⟩
  have ijl:Hid (lw≠0→j+1≤lv):=Za fun h0=>by
   have:(rmV s (atW s k a j)).1=nd.1:=by rw[hnd'.out]
   rw[hlw] at hlv
   omega
  rw[hlj.out]
  have hplT:Hid (tn=true→pl=pn):=Za fun h=>by rw[hplw.out,if_pos h]
  have hplF:Hid (tn=false→pl=pn-1∧1≤pn):=Za fun h=>by
   rw[hplw.out,if_neg (by rw[h];decide)]
   exact⟨rfl,hpl0.resolve_left (by rw[h];decide)⟩
  have hn5:nl≤5:=by rw[← hnl];exact hfive.out
  have hnextl:=hnext.out
  rw[hlw,hpl] at hnextl
  replace hnextl:=Za hnextl
  replace hlw:=Za hlw
  replace hnl:=Za hnl
  replace hpn:=Za hpn
  replace htn:=Za htn
  replace hpl:=Za hpl
  replace hplw:=Za hplw
  clear hpl0 hlv hlv0
  have hend:Hid (∀ j',j'=j→lw≠0→∃ (j:Nat) (A:Option Addr) (c:Nat) (l:List Sv),j≤lv∧l.length=j∧Value.slice A' (j'+1) c'=.slice A l.length c∧Value.int .i64 (atW s k a (j'+1))=.int .i64 (atW s k a j)∧Z0d w2.heap.size s k a w7 A c l∧Below w2.heap.size w2 w7):=Za fun j' e h0=>by
   subst e
   exact⟨j'+1,A',c',l',ijl.out h0,hl7.out.symm,by rw[← hl7.out],rfl,hW7.out,hB27.out⟩
  cases tn with
  | true =>
   obtain rfl:=hplT.out rfl
   by_cases h0:lw=0
   ·subst h0
    have hf:=Za (hfin.out rfl)
    go_wp2_with (at_builtin;refine Zo rfl _ _ _ rfl rfl rfl H7.out ?_;clear H7)
    exact bodyPost_ret (v:=.tuple #[.slice A' (j+1) c',.int .i64 0]) (by simp[results,Tryz.results25,go_sem]) rfl hf.out
   ·have t0:(lw==0)=false:=by simpa using h0
    obtain⟨y,hy,hyn⟩:=hnextl.out h0
    obtain⟨ad,E,ce,e0,_,⟨_,_,_,t3,_⟩,_⟩:=Zaj (hrow7.out.rel Z3) hy
    have hpnl:pl<nl:=by rw[← hnl.out];exact(List.getElem?_eq_some_iff.1 hy).1
    subst e0
    replace hy:=Za hy
    rw[hyn] at t3
    replace hyn:=Za hyn
    have he:=Za (hend.out j rfl h0)
    obtain⟨nx,hnx⟩:∃ q,atW s k a (j+1)=q:=⟨_,rfl⟩
    rw[hnx] at t3 he
    replace hnx:=Za hnx
    go_wp2_with (at_builtin;refine Zo rfl _ _ _ rfl rfl rfl H7.out ?_;clear H7)
    go_roundw
    case rel=>exact he.out
    case measure =>
     have h1:=hlj.out
     simp[Z45]
     omega
  | false =>
   obtain⟨e,h1⟩:=hplF.out rfl
   have i8:IntKind.i64.wrap ((pn:Int)-1)=(pl:Int):=by rw[IntKind.wrap_i64];omega
   replace e:=Za e
   replace h1:=Za h1
   by_cases h0:lw=0
   ·subst h0
    have hf:=Za (hfin.out rfl)
    go_wp2_with (at_builtin;refine Zo rfl _ _ _ rfl rfl rfl H7.out ?_;clear H7)
    exact bodyPost_ret (v:=.tuple #[.slice A' (j+1) c',.int .i64 0]) (by simp[results,Tryz.results25,go_sem]) rfl hf.out
   ·have t0:(lw==0)=false:=by simpa using h0
    obtain⟨y,hy,hyn⟩:=hnextl.out h0
    obtain⟨ad,E,ce,e0,_,⟨_,_,_,t3,_⟩,_⟩:=Zaj (hrow7.out.rel Z3) hy
    have hpnl:pl<nl:=by rw[← hnl.out];exact(List.getElem?_eq_some_iff.1 hy).1
    subst e0
    replace hy:=Za hy
    rw[hyn] at t3
    replace hyn:=Za hyn
    have he:=Za (hend.out j rfl h0)
    obtain⟨nx,hnx⟩:∃ q,atW s k a (j+1)=q:=⟨_,rfl⟩
    rw[hnx] at t3 he
    replace hnx:=Za hnx
    go_wp2_with (at_builtin;refine Zo rfl _ _ _ rfl rfl rfl H7.out ?_;clear H7)
    go_roundw
    case rel=>exact he.out
    case measure =>
     have h1:=hlj.out
     simp[Z45]
     omega
end Go.Proofs.YtgmbjnajdfgenaaGreat
namespace Go.Proofs.YtgmbjnajdfgenaaGreat
open Go.RowKit Go.Shelf
attribute [local go_sem] Oper.semAt_some
abbrev Z4w (f:Nat→Sv) (x:Nat):Array Value:=#[.int .i64 (x:Int),.agg #[.int .i64 (f x).nd.1,.slice (f x).A (f x).nd.2.length (f x).c,.int .i64 ((f x).pl:Int)]]
structure At3 (w:World) (p:Addr) (q:Sv):Prop where
 c0:w.cell? p=some (.int .i64 q.nd.1)
 c1:w.cell? ⟨p.block,p.off+1,none⟩=some (.slice q.A q.nd.2.length q.c)
 c2:w.cell? ⟨p.block,p.off+2,none⟩=some (.int .i64 (q.pl:Int))
theorem At3.same {w w':World} {p:Addr} {q:Sv} (h:At3 w p q) (e:w'.heap[p.block]? = w.heap[p.block]?):At3 w' p q :=
 ⟨(World.cell?_of_block e).trans h.c0,(World.cell?_of_block (a:=⟨p.block,p.off+1,none⟩) e).trans h.c1,(World.cell?_of_block (a:=⟨p.block,p.off+2,none⟩) e).trans h.c2⟩
theorem Zrw (Bs cap m:Nat) (A:Option Addr) (ad:Addr) (f:Nat→Sv) (w:World) (hBs:w.cell? ⟨Bs,0,none⟩=some (.slice A m cap)) (hA:0<m→A=some ad∧ad.block<w.heap.size) (hm:m≤1000) (hc:∀ j,j<m→At3 w (ad.add (j*3)) (f j)) :
  Z4r Tryz.prog 83 #[.pointer (some ⟨Bs,0,none⟩)] (Z4w f) (fun _ pre x _ _=>pre=Vh m pre.length∧pre.length<m∧x=m-1-pre.length) (fun xs=>xs=Vh m m) (fun k=>k=Bs∨(0<m∧k=ad.block)) w:=by
 intro l M J Jx o W hW hJ hJx hM hJs hZ hY h0
 have hBl:Bs<w.heap.size:=World.block_lt_of_cell? _ _ hBs
 have hzB:=Za (hZ Bs (.inl rfl))
 have hzA:=Za (fun h:0<m=>hZ ad.block (.inr ⟨h,rfl⟩))
 have hcW:=Za (fun j (hj:j<m)=>(hc j hj).same (hW.block _ (by rw[Zj];exact(hA (by omega)).2)))
 have hBW:=Za ((hW.cell (p:=⟨Bs,0,none⟩) hBl).trans hBs)
 have hlt:=Za (show Bs<W.heap.size∧(0<m→ad.block<W.heap.size) from ⟨Nat.lt_of_lt_of_le hBl hW.size,fun h=>Nat.lt_of_lt_of_le (hA h).2 hW.size⟩)
 have hAA:=Za (fun h=>(hA h).1)
 have b0:=hBW.out
 replace hY:=Za hY
 replace hM:=Za hM
 replace hJs:=Za hJs
 replace hZ:=Za hZ
 clear hc hBs hA hW
 refine callsIn_wide.1 (callsIn_of_wp (n:=5) Tryz.func83 rfl trivial ?_ rfl)
 simp only[Tryz.ntmps83,List.size_toArray,List.length_cons,List.length_nil,Nat.reduceAdd,Nat.reduceSub,Array.replicate_succ,Array.replicate_zero,List.push_toArray,List.append_toArray,List.nil_append,List.cons_append]
 gi_wp2
 clear b0
 gi_loopw [3] (fun i wr=>∃ (k:Nat) (q:Option Nat),k≤m∧i=.int .i64 ((m:Int)-1-k)∧J (Vh m k,q) wr∧Vg M o q W wr)
  (fun i _=>(intOf i+1).toNat)
 case atStart=>exact⟨0,o,Nat.zero_le _,by simp,h0,Vg.refl _ _ _⟩
 case round =>
  obtain⟨k,q,hk,rfl,hJr,hKr⟩:=hrel
  have hbr:wr.cell? ⟨Bs,0,none⟩=some (.slice A m cap):=(hKr.cell (p:=⟨Bs,0,none⟩) hlt.out.1 hzB.out.1 hzB.out.2).trans hBW.out
  by_cases hkm:k<m
  ·obtain rfl:=hAA.out (by omega)
   obtain⟨g1,g2,g3⟩:=(hcW.out (m-1-k) (by omega)).same (w':=wr) (by rw[Zj];exact(hKr.same ad.block (hlt.out.2 (by omega)) (hzA.out (by omega)).1 (hzA.out (by omega)).2).1)
   obtain⟨fn,tmps,assign,body,hy,hR⟩:=hY.out _ q (m-1-k) wr hJr ⟨by rw[Yv],by rw[Yv];exact hkm,by rw[Yv]⟩
   unfold Z4w at hy
   have e1:((m:Int)-1-k).toNat=m-1-k:=by omega
   have e2:((m-1-k:Nat):Int)=(m:Int)-1-k:=by omega
   rw[e2] at hy
   clear e2
   have hds:=Za (Zcu m k)
   replace hR:=Za hR
   replace hKr:=Za hKr
   replace hJr:=Za hJr
   generalize (f (m-1-k)).nd.1=q1 at *
   generalize (f (m-1-k)).A=q2 at *
   generalize (f (m-1-k)).nd.2.length=q3 at *
   generalize (f (m-1-k)).c=q4 at *
   generalize ((f (m-1-k)).pl:Int)=q5 at *
   gi_wp2
   refine(Zes hR.out).mono ?_
   rintro e w5 ⟨q5',hk5,⟨rfl,J5⟩ | ⟨rfl,J5⟩⟩
   ·have hK5:=Za (hKr.out.trans hk5)
    clear hk5
    gi_wp2
    go_roundw
    case rel=>exact⟨k+1,q5',by omega,by go_num,by rw[hds.out];exact J5,hK5.out⟩
    case measure=>simp[intOf];omega
   ·gi_wp2
    refine bodyPost_ret (results_none rfl _ _ _) rfl ?_
    exact⟨⟨_,rfl⟩,.inr ⟨_,_,J5⟩⟩
  ·obtain rfl:k=m:=by omega
   gi_wp2
   go_end0
   exact⟨⟨_,rfl⟩,.inl ⟨_,_,rfl,hJr⟩⟩
theorem Zkj (a:Option Addr) (len cap:Nat) (w:World) :
  Calls Tryz.prog 48 #[.slice a len cap] w fun e w'=>e=.returned (.func (.func 83) #[] #[.pointer (some ⟨w.heap.size,0,none⟩)])∧w'=w.alloc (.cells #[.slice a len cap] 64):=by
 go_enter Tryz.func48,Tryz.ntmps48
 go_wp2_with fail
 go_ret
 exact⟨rfl,rfl⟩
theorem Zzo {l:List Sv} {i:Nat} {x:Sv} (h:l[i]? = some x):∀ j u,(dvV x)[j]? = some u→(dvs l)[i*3+j]? = some u:=by
 induction l generalizing i with
 | nil=>simp at h
 | cons y l ih =>
  intro j u hj
  have hj4:j<3:=(List.getElem?_eq_some_iff.1 hj).1
  cases i with
  | zero =>
   simp at h
   subst h
   show (dvV y++dvs l)[0*3+j]? = _
   rw[List.getElem?_append_left (by show 0*3+j<3;omega),Nat.zero_mul,Nat.zero_add]
   exact hj
  | succ i =>
   show (dvV y++dvs l)[(i+1)*3+j]? = _
   rw[List.getElem?_append_right (by show 3≤_;omega),show (i+1)*3+j-(dvV y).length=i*3+j by show _-3=_;omega]
   exact ih (by simpa using h) j u hj
theorem Ztg {w:World} {lo c:Nat} {A:Option Addr} {l:List Sv} (h:w.ownsRow lo 102 3 (.slice A l.length c) l.length (dvs l)):∃ ad:Addr,(0<l.length→A=some ad∧lo≤ad.block∧ad.block<w.heap.size)∧∀ j,j<l.length→At3 w (ad.add (j*3)) (l[j]?.getD svZ):=by
 rcases Nat.eq_zero_or_pos l.length with h0 | h0
 ·exact⟨⟨0,0,none⟩,fun h=>by omega,fun j hj=>by omega⟩
 rcases h.2 with ⟨_,e⟩ | ⟨g,cap,cur,e,hb,hg,_⟩
 ·omega
 ·cases e
  refine⟨⟨g,0,none⟩,fun _=>⟨rfl,hb,(Array.getElem?_eq_some_iff.1 hg).1⟩,fun j hj => ?_⟩
  have hx:l[j]? = some l[j]:=List.getElem?_eq_getElem hj
  have hc:=fun i u hu=>h.cells (g:=g) rfl _ u (Zzo hx i u hu)
  rw[hx]
  have e0:=hc 0 _ rfl
  have e1:=hc 1 _ rfl
  have e2:=hc 2 _ rfl
  rw[Ui,Nat.zero_add] at e0 e1 e2
  rw[Ui,Nat.zero_add]
  exact⟨e0,e1,e2⟩
def Zdv (s0 s:Rm) (x:Int):Prop:=(if s0.2.1[x.toNat]?.getD 0≠0 then 2 else 1)≤Y9 s.2.1 x.toNat
def Zhs (s0 s:Rm):Nat→Int→Prop
 | 0,a=>rmE s a=0∧(rmV s a).1=0
 | l+1,a=>rmE s a=0∧(rmV s a).1=((l+1:Nat):Int)∧∀ x∈(rmV s a).2,Zhs s0 s l x.2.1∧(s0.2.1[a.toNat]?.getD 0=0→Zdv s0 s x.2.1)
theorem Zhs.ok {s0 s:Rm}:∀ {l:Nat} {a:Int},Zhs s0 s l a→rmE s a=0∧(rmV s a).1=(l:Int)
 | 0,_,h=>h
 | _+1,_,h=>⟨h.1,h.2.1⟩
theorem Zs8 {s:Rm}:∀ {l:Nat} {a:Int},AtT s l a→Zhs s s l a
 | 0,_,h=>⟨h.ok,h.lvl⟩
 | l+1,a,h=>⟨h.ok,h.lvl,fun x hx=>⟨Zs8 (h.down hx),fun h0=>by
   obtain⟨k,rfl,_,_,_,_,_,_,_,hz⟩:=Xi (Ys h.ok).2
   rw[show ((k:Int)).toNat=k by omega] at h0
   exact absurd h0 hz⟩⟩
theorem Zbp {s0 t u:Rm} (hk:X3 t u) (hm:∀ x,Zdv s0 t x→Zdv s0 u x):∀ {l:Nat} {a:Int},Zhs s0 t l a→Zhs s0 u l a
 | 0,a,h=>by
  obtain⟨_,e1,e2⟩:=Vm hk (Ys h.1).2
  exact⟨e1.trans h.1,by rw[e2];exact h.2⟩
 | l+1,a,h=>by
  obtain⟨_,e1,e2⟩:=Vm hk (Ys h.1).2
  exact⟨e1.trans h.1,by rw[e2];exact h.2.1,fun x hx=>by rw[e2] at hx;exact⟨Zbp hk hm (h.2.2 x hx).1,fun h0=>hm _ ((h.2.2 x hx).2 h0)⟩⟩
theorem Zj9 {s0 t u:Rm} {x:Int} (h:Y9 t.2.1 x.toNat≤Y9 u.2.1 x.toNat) (hm:Zdv s0 t x):Zdv s0 u x:=by unfold Zdv at hm ⊢;omega
theorem Zxh {s0 t:Rm} {l:Nat} {L:List It} (h:mkE t ((l:Int),L)=0) (hi:InN ((l:Int),L)) (hk:X3 s0 t) (hL:∀ j,l=j+1→∀ q∈L,Zhs s0 t j q.2.1) :
  X3 s0 (mkV t ((l:Int),L))∧X3 t (mkV t ((l:Int),L))∧(∀ x,Zdv s0 t x→Zdv s0 (mkV t ((l:Int),L)) x)∧8≤mkN t ((l:Int),L)∧s0.2.1[(mkN t ((l:Int),L)).toNat]?.getD 0=0∧Y9 (mkV t ((l:Int),L)).2.1 (mkN t ((l:Int),L)).toNat=1 ∧
  Zhs s0 (mkV t ((l:Int),L)) l (mkN t ((l:Int),L))∧rmV (mkV t ((l:Int),L)) (mkN t ((l:Int),L))=((l:Int),L)∧∀ q∈L,q.2.1≠0→Y9 t.2.1 q.2.1.toNat+1≤Y9 (mkV t ((l:Int),L)).2.1 q.2.1.toNat∧Zdv s0 (mkV t ((l:Int),L)) q.2.1:=by
 have hkm:=Uf h
 obtain⟨_,hn,_⟩:=Zq6 h
 obtain⟨k,e1,h8,h256,hz,_,hc,hV,hm,c1,c2,c3,_⟩:=X6 h
 have hseen:Z1 (mkV t ((l:Int),L)).1 k=Xs ((l:Int),L):=by rw[hV];exact Y8
 have ha:asE (mkV t ((l:Int),L)) (k:Int)=0:=Zby hm h8 h256 (by rw[c1];decide)
 obtain⟨r1,r2⟩:=Zgd ha hseen hn hi
 have hz8:Y9 t.2.1 k=0:=by unfold Y9;rw[hz];rfl
 have hc1:Y9 (mkV t ((l:Int),L)).2.1 k=1:=by unfold Y9;rw[c1];rfl
 have hc2:∀ i,i≠k→Y9 (mkV t ((l:Int),L)).2.1 i=Y9 t.2.1 i+Xp L i:=fun i hne=>c2 i hne
 have hle:∀ i,Y9 t.2.1 i≤Y9 (mkV t ((l:Int),L)).2.1 i:=fun i=>by
  by_cases e:i=k
  ·rw[e];omega
  ·rw[hc2 i e];omega
 have hmono:∀ x,Zdv s0 t x→Zdv s0 (mkV t ((l:Int),L)) x:=fun x hx=>Zj9 (hle _) hx
 have hup:∀ q∈L,q.2.1≠0→Y9 t.2.1 q.2.1.toNat+1≤Y9 (mkV t ((l:Int),L)).2.1 q.2.1.toNat∧Zdv s0 (mkV t ((l:Int),L)) q.2.1:=fun q hq h0=>by
  have hr:∃ i:Nat,q.2.1=(i:Int):=by
   rcases V8 hn q hq with e | ⟨e8,_⟩
   ·exact absurd e h0
   ·exact⟨q.2.1.toNat,by omega⟩
  obtain⟨i,hi'⟩:=hr
  have h1:=Zd9 hq hi' h0
  have hne:i≠k:=fun e=>by rw[e] at h1;rw[hc] at h1;omega
  have h2:=hc2 i hne
  have hti:q.2.1.toNat=i:=by omega
  rw[hti]
  refine⟨by omega,?_⟩
  unfold Zdv
  rw[hti]
  split
  ·rename_i h3
   have:=Zag.2 (hk.held i h3)
   omega
  ·omega
 rw[e1]
 rw[show ((k:Int)).toNat=k by omega]
 refine⟨X8 hk hkm,hkm,hmono,by omega,?_,hc1,?_,r2,hup⟩
 ·by_cases e:s0.2.1[k]?.getD 0=0
  ·exact e
  ·exact absurd hz (hk.held k e)
 ·cases l with
  | zero=>exact⟨r1,by rw[r2];rfl⟩
  | succ j =>
   refine⟨r1,by rw[r2],fun x hx => ?_⟩
   rw[r2] at hx
   have hx0:x.2.1≠0:=fun e=>by
    obtain⟨h5,_⟩:=Zhs.ok (hL j rfl x hx)
    obtain⟨i,hi',_,h8',_⟩:=Xi (Ys h5).2
    omega
   exact⟨Zbp hkm hmono (hL j rfl x hx),fun _=>(hup x hx hx0).2⟩
theorem Zxt {s0 u:Rm} {h:Int} (hk:X3 s0 u) (h0:s0.2.1[h.toNat]?.getD 0=0) (h2:2≤Y9 u.2.1 h.toNat):X3 s0 (Zak u h)∧X3 u (Zak u h)∧(∀ x,Zdv s0 u x→Zdv s0 (Zak u h) x)∧Y9 (Zak u h).2.1 h.toNat+1=Y9 u.2.1 h.toNat∧∀ i,i≠h.toNat→Y9 (Zak u h).2.1 i=Y9 u.2.1 i:=by
 have hf:=Zpa hk.may h2
 obtain⟨c1,c2⟩:=Zlf (Zv4 (s:=u) (a:=h) (by omega))
 refine⟨X8 hk hf,hf,fun x hx => ?_,by omega,c2⟩
 by_cases e:x.toNat=h.toNat
 ·unfold Zdv
  rw[e,if_neg (fun h=>h h0)]
  omega
 ·exact Zj9 (by rw[c2 _ e];exact Nat.le_refl _) hx
noncomputable def Zm8 (s:Rm) (n:Nd) (held:Int):Int×Rm×Int :=
 if mkE s n=0 then (if held=0 then (0,mkV s n,mkN s n) else if asE (mkV s n) held=0 then (0,loV (mkV s n) held,mkN s n) else (asE (mkV s n) held,Zh,0)) else (mkE s n,Zh,0)
theorem Zug {s:Rm} {lv:Int} {L:List It} {held:Int} (h5:L.length≤5) (ho:held=0∨∃ q∈L,q.2.1=held):Zm8 s (lv,L) held=if (Zq s lv L).1=0 then (0,(if held=0 then (Zq s lv L).2.1 else Zak (Zq s lv L).2.1 held),Zfk (Zq s lv L).2.2) else ((Zq s lv L).1,Zh,0):=by
 unfold Zm8 Zq
 rw[if_pos h5]
 by_cases h:mkE s (lv,L)=0
 ·rw[if_pos h,if_pos h]
  by_cases h0:held=0
  ·rw[if_pos h0]
   exact(if_pos h0).symm ▸ rfl
  ·have hq:∃ q∈L,q.2.1=held:=ho.resolve_left h0
   obtain⟨q,hq,hqe⟩:=hq
   obtain⟨_,hn,_⟩:=Zq6 h
   obtain⟨k,e1,h8,h256,hz,_,hc,hV,hm,c1,c2,c3,_⟩:=X6 h
   rcases V8 hn q hq with e | ⟨i8,i256⟩
   ·exact absurd (hqe.symm.trans e) h0
   ·obtain⟨i,e⟩:∃ i:Nat,q.2.1=(i:Int):=⟨q.2.1.toNat,by omega⟩
    have h1:=Zd9 hq e (by rw[hqe];exact h0)
    have hne:i≠k:=fun e=>by rw[e] at h1;rw[hc] at h1;omega
    have hnz:(mkV s (lv,L)).2.1[i]?.getD 0≠0:=by
     rw[← Zag]
     have:=c2 i hne
     unfold Y9
     have h1':1≤Xp (lv,L).2 i:=h1
     omega
    have ha:asE (mkV s (lv,L)) held=0:=by
     rw[← hqe,e]
     exact Zby hm (by omega) (by omega) hnz
    rw[if_neg h0,if_pos ha]
    have hl:loV (mkV s (lv,L)) held=Zak (mkV s (lv,L)) held:=if_pos ha
    rw[hl]
    exact(if_neg h0).symm ▸ rfl
 ·rw[if_neg h,if_neg h]
  exact(if_neg h).symm
structure Z22 (s t:Rm) (l:Nat) (L:List It) (held:Int):Prop where
 keep:X3 s t
 few:L.length≤5
 inI:∀ q∈L,InI q
 lev:∀ j,l=j+1→∀ q∈L,Zhs s t j q.2.1
 own:held=0∨(8≤held∧s.2.1[held.toNat]?.getD 0=0∧Y9 t.2.1 held.toNat≠0∧∃ q∈L,q.2.1=held)
 none:L=[]→held=0
 more:∀ x,Zdv s s x→Zdv s t x
theorem Zmx {s t:Rm} {l:Nat} {L1 L' up:List It} {h1:Int} {u:Rm} (G:Z22 s t l L1 h1) (h5:L'.length≤5) (hi:InN ((l:Int),L')) (hsub:∀ q∈L1,q∈L') (hL:∀ j,l=j+1→∀ q∈L',Zhs s t j q.2.1) (hb:Zq t (l:Int) L'=(0,u,up)) :
  ∃ k:Int,up=[upI L' k]∧8≤k∧s.2.1[k.toNat]?.getD 0=0∧X3 s (if h1=0 then u else Zak u h1)∧X3 t (if h1=0 then u else Zak u h1)∧(∀ x,Zdv s t x→Zdv s (if h1=0 then u else Zak u h1) x)∧Y9 (if h1=0 then u else Zak u h1).2.1 k.toNat=1∧Zhs s (if h1=0 then u else Zak u h1) l k∧rmV (if h1=0 then u else Zak u h1) k=((l:Int),L'):=by
 rcases Vf hb with ⟨hm,rfl,rfl⟩ | ⟨h6,_⟩
 ·obtain⟨g1,g2,g3,g4,g5,g6,g7,g8,g9⟩:=Zxh hm hi G.keep hL
  generalize mkN t ((l:Int),L')=k at *
  generalize mkV t ((l:Int),L')=u at *
  by_cases h0:h1=0
  ·simp only[if_pos h0]
   exact⟨k,rfl,g4,g5,g1,g2,g3,g6,g7,g8⟩
  ·simp only[if_neg h0]
   obtain⟨h8,hz,hc,q,hq,hqe⟩:=G.own.resolve_left h0
   obtain⟨c1,_⟩:=g9 q (hsub q hq) (by rw[hqe];exact h0)
   rw[hqe] at c1
   obtain⟨f1,f2,f3,f4,f5⟩:=Zxt g1 hz (by omega)
   have hne:k.toNat≠h1.toNat:=fun e=>by rw[e] at g6;omega
   refine⟨k,rfl,g4,g5,f1,X8 g2 f2,fun x hx=>f3 x (g3 x hx),by rw[f5 _ hne];exact g6,Zbp f2 f3 g7,?_⟩
   rw[(Vm f2 (Ys g7.ok.1).2).2.2]
   exact g8
 ·omega
theorem Zsx {M up:List It} {p m:Nat} (h:p+m≤M.length) (hm:1≤m) (hu:up.length≤1):(Zai M p m up).length≤M.length:=by
 unfold Zai
 simp only[List.length_append,List.length_take,List.length_drop]
 omega
theorem Zki {M up:List It} {p m:Nat} {q:It} (h:q∈Zai M p m up):q∈M∨q∈up:=by
 unfold Zai at h
 rcases List.mem_append.1 h with h | h
 ·exact .inl (List.mem_of_mem_take h)
 ·rcases List.mem_append.1 h with h | h
  ·exact .inr h
  ·exact .inl (List.mem_of_mem_drop h)
structure Z4h (s t:Rm) (M:List It) (p:Nat) (l:Nat) (L1:List It):Prop where
 few:(Yf s M p L1).2.2.length≤5
 inI:∀ q∈(Yf s M p L1).2.2,InI q
 sub:∀ q∈L1,q∈(Yf s M p L1).2.2
 lev:∀ j,l=j+1→∀ q∈(Yf s M p L1).2.2,Zhs s t j q.2.1
 fit:(Yf s M p L1).1+(Yf s M p L1).2.1≤M.length∧1≤(Yf s M p L1).2.1∧(Yf s M p L1).2.1≤2
theorem Zzl {s t:Rm} {M:List It} {p l:Nat} {L1:List It} {h1:Int} (G:Z22 s t l L1 h1) (hp:p<M.length) (hM:∀ q∈M,Zhs s s l q.2.1):Z4h s t M p l L1:=by
 have hb:∀ c∈M,(∀ q∈(rmV s c.2.1).2,InI q)∧∀ j,l=j+1→∀ q∈(rmV s c.2.1).2,Zhs s t j q.2.1:=fun c hc=>by
  have hl:=hM c hc
  refine⟨(Zh4 hl.ok.1).it,fun j hj q hq => ?_⟩
  subst hj
  exact Zbp G.keep G.more (hl.2.2 q hq).1
 rcases Zqw s M p L1 with e | ⟨c,hc,h5,e⟩ | ⟨b,j,rfl,hbj,h5,e⟩
 ·exact⟨by rw[e];exact G.few,by rw[e];exact G.inI,fun q hq=>by rw[e];exact hq,by rw[e];exact G.lev,by rw[e];exact⟨by show p+1≤_;omega,Nat.le_refl _,by show 1≤2;omega⟩⟩
 ·obtain⟨b1,b2⟩:=hb c (List.mem_of_getElem? hc)
  have hcl:=(List.getElem?_eq_some_iff.1 hc).1
  refine⟨by rw[e];simp only[List.length_append];omega,fun q hq => ?_,fun q hq=>by rw[e];exact List.mem_append_left _ hq,fun j hj q hq => ?_,by rw[e];exact⟨by show p+2≤_;omega,by show 1≤2;omega,Nat.le_refl _⟩⟩
  ·rw[e] at hq
   rcases List.mem_append.1 hq with hq | hq
   ·exact G.inI q hq
   ·exact b1 q hq
  ·rw[e] at hq
   rcases List.mem_append.1 hq with hq | hq
   ·exact G.lev j hj q hq
   ·exact b2 j hj q hq
 ·obtain⟨b1,b2⟩:=hb b (List.mem_of_getElem? hbj)
  refine⟨by rw[e];simp only[List.length_append];omega,fun q hq => ?_,fun q hq=>by rw[e];exact List.mem_append_right _ hq,fun j' hj q hq => ?_,by rw[e];exact⟨by show j+2≤_;omega,by show 1≤2;omega,Nat.le_refl _⟩⟩
  ·rw[e] at hq
   rcases List.mem_append.1 hq with hq | hq
   ·exact b1 q hq
   ·exact G.inI q hq
  ·rw[e] at hq
   rcases List.mem_append.1 hq with hq | hq
   ·exact b2 j' hj q hq
   ·exact G.lev j' hj q hq
theorem Zzv {L:List It} {k:Int} (hne:L≠[]) (hi:∀ q∈L,InI q) (hk:Zkb k):InI (upI L k):=by
 cases L with
 | nil=>exact absurd rfl hne
 | cons q r=>exact⟨(hi q List.mem_cons_self).key,hk⟩
theorem Zze {s:Rm} {k:Ky} {a:Int} (h:AtT s 0 a):Z22 s s 0 (Zm4 k (rmV s a).2) 0 :=
 ⟨Zj1 (by obtain⟨_,_,hm,_⟩:=Xi (Ys h.ok).2;exact hm),Nat.le_trans (List.length_filter_le _ _) (Z2 h.may).1.2.2.1,fun q hq=>(Zh4 h.ok).it q (Z3b.1 hq).1,fun j hj=>(by cases hj),.inl rfl,fun _=>rfl,fun _ h=>h⟩
theorem Ze7 {k:Ky} {s:Rm}:∀ {l:Nat},l<6→∀ {a held:Int} {t:Rm} {L:List It},AtT s l a→Yh k l s a=(0,t,L,held)→Z22 s t l L held
 | 0,_,a,held,t,L,hA,h=>by
  unfold Yh at h
  cases h
  exact Zze hA
 | l+1,h6,a,held,t,L,hA,h=>by
  obtain⟨t1,L1,h1,e1,hways⟩:=Zoe h
  have hm:=hA.may
  have h5:=(Z2 hm).1.2.2.1
  have hne:0<(rmV s a).2.length:=(Z2 hm).1.2.2.2 (by rw[hA.lvl];omega)
  obtain⟨y,hy⟩:∃ y,(rmV s a).2[Xb (rmV s a) k]? = some y:=⟨_,List.getElem?_eq_getElem (Zc6 k hne)⟩
  have hpl:=Zc6 k hne
  have hir:Zb0 (rmV s a) k=y.2.1:=by unfold Zb0;rw[hy];rfl
  rw[hir] at e1
  have G:=Ze7 (by omega) (hA.down (List.mem_of_getElem? hy)) e1
  have hMs:∀ q∈(rmV s a).2,Zhs s s l q.2.1:=fun q hq=>Zs8 (hA.down hq)
  have hMi:∀ q∈(rmV s a).2,InI q:=(Zh4 hA.ok).it
  rcases hways with ⟨_,rfl,rfl,rfl⟩ | ⟨hL1,u,up,hb,rfl,rfl,rfl⟩
  ·refine⟨G.keep,?_,fun q hq => ?_,fun j hj q hq => ?_,.inl rfl,fun _=>rfl,G.more⟩
   ·have:=Zsx (M:=(rmV s a).2) (up:=[]) (p:=Xb (rmV s a) k) (m:=1) (by omega) (Nat.le_refl _) (Nat.zero_le _)
    omega
   ·rcases Zki hq with hq | hq
    ·exact hMi q hq
    ·cases hq
   ·obtain rfl:l=j:=by omega
    rcases Zki hq with hq | hq
    ·exact Zbp G.keep G.more (hMs q hq)
    ·cases hq
  ·obtain⟨m1,m2,m3,m4,m5,m6,_⟩:=Zzl (p:=Xb (rmV s a) k) G hpl hMs
   obtain⟨z,rfl,z8,zn,k1,k2,k3,k4,k5,k6⟩:=Zmx G m1 (Zzr (by omega) m2) m3 m4 hb
   refine⟨k1,?_,fun q hq => ?_,fun j hj q hq => ?_,.inr ⟨z8,zn,by show Y9 _ z.toNat≠0;rw[k4];decide,upI (Yf s (rmV s a).2 (Xb (rmV s a) k) L1).2.2 z,?_,rfl⟩,fun e => ?_,fun x hx=>k3 x (G.more x hx)⟩
   ·have:=Zsx (M:=(rmV s a).2) (up:=[upI (Yf s (rmV s a).2 (Xb (rmV s a) k) L1).2.2 z].take 1) m5 m6 (Nat.le_refl _)
    omega
   ·rcases Zki hq with hq | hq
    ·exact hMi q hq
    ·obtain rfl:=List.mem_singleton.1 hq
     have hz:z<256:=by
      obtain⟨i,hi',_,_,h256,_⟩:=Xi (Ys k5.ok.1).2
      omega
     refine Zzv ?_ m2 ⟨by omega,by omega⟩
     intro e0
     obtain⟨q0,hq0⟩:=List.exists_mem_of_ne_nil _ hL1
     have:=m3 q0 hq0
     rw[e0] at this
     cases this
   ·obtain rfl:l=j:=by omega
    rcases Zki hq with hq | hq
    ·exact Zbp k2 k3 (Zbp G.keep G.more (hMs q hq))
    ·obtain rfl:=List.mem_singleton.1 hq
     exact k5
   ·unfold Zai
    exact List.mem_append_right _ (List.mem_append_left _ (List.mem_singleton.2 rfl))
   ·have:=congrArg List.length e
    simp[Zai] at this
noncomputable def stO (k:Ky) (s:Rm) (a:Int) (l:Nat):Nat→Int×Rm×List It×Int
 | 0=>(0,s,[],0)
 | d+1=>Yh k d s (atW s k a (l-d))
theorem Z0j {k:Ky} {s:Rm} {a:Int} {l:Nat} {e:Int} {i:Nat} (h:stO k s a l i=(e,Zh,[],0)) (he:e≠0):∀ j,i≤j→j≤l+1→stO k s a l j=(e,Zh,[],0)
 | 0,hi,_=>by
  obtain rfl:i=0:=by omega
  exact h
 | j+1,hi,hj=>by
  rcases Nat.lt_or_ge j i with h1 | h1
  ·obtain rfl:i=j+1:=by omega
   exact h
  ·have ih:=Z0j h he j h1 (by omega)
   cases j with
   | zero =>
    unfold stO at ih
    cases ih
    exact absurd rfl he
   | succ d =>
    have ih':Yh k d s (atW s k a (l-d))=(e,Zh,[],0):=ih
    have ha:Zb0 (rmV s (atW s k a (l-(d+1)))) k=atW s k a (l-d):=by
     rw[show l-d=(l-(d+1))+1 by omega]
     rfl
    show Yh k (d+1) s (atW s k a (l-(d+1)))=_
    unfold Yh
    rw[ha,ih']
    show (if e=0 then _ else _)=_
    rw[if_neg he]
theorem Ztf {k:Ky} {s:Rm} {a:Int} {l:Nat} (h6:l<6) (hA:AtT s l a) {d:Nat} (hd:d≤l) {t:Rm} {L:List It} {held:Int} (h:stO k s a l (d+1)=(0,t,L,held)):Z22 s t d L held:=by
 have h1:=Um (k:=k) hA (l-d) (by omega)
 rw[show l-(l-d)=d by omega] at h1
 exact Ze7 (by omega) h1 h
theorem Z0r {k:Ky} {s:Rm} {a:Int} {l:Nat} {x:It} (h6:l<6) (hA:AtT s l a) (hx:Zdl s l a k=some x) {i:Nat} (hi:i≤l) {t:Rm} {held:Int} (h:stO k s a l i=(0,t,[],held)) :
  held=0∧stO k s a l (i+1)=(0,t,Zai (rmV s (atW s k a (l-i))).2 (Xb (rmV s (atW s k a (l-i))) k) 1 [],0):=by
 cases i with
 | zero =>
  unfold stO at h
  cases h
  refine⟨rfl,?_⟩
  show Yh k 0 s (atW s k a (l-0))=_
  unfold Yh
  have hd:=Um (k:=k) hA l (Nat.le_refl _)
  rw[Nat.sub_self] at hd
  have ho:=Zjx hA hx l (Nat.le_refl _)
  rw[Nat.sub_self] at ho
  rw[Nat.sub_zero,Z3z hd.may ((Zje hd ho).2.1 rfl)]
 | succ d =>
  have G:=Ztf h6 hA (by omega) h
  have hh:=G.none rfl
  refine⟨hh,?_⟩
  subst hh
  have h':Yh k d s (atW s k a (l-d))=(0,t,[],0):=h
  have ha:Zb0 (rmV s (atW s k a (l-(d+1)))) k=atW s k a (l-d):=by
   rw[show l-d=(l-(d+1))+1 by omega]
   rfl
  show Yh k (d+1) s (atW s k a (l-(d+1)))=_
  unfold Yh
  rw[ha,h']
  show (if (0:Int)=0 then _ else _)=_
  rw[if_pos rfl,if_pos rfl]
theorem Zr3 {s t:Rm} {M:List It} (h:∀ q∈M,rmV t q.2.1=rmV s q.2.1) (p:Nat) (L:List It):Yf t M p L=Yf s M p L:=by
 unfold Yf
 cases h1:M[p+1]? with
 | some c=>simp only[h c (List.mem_of_getElem? h1)]
 | none =>
  cases h2:M[p-1]? with
  | some b=>simp only[h b (List.mem_of_getElem? h2)]
  | none=>rfl
theorem Z17 {k:Ky} {s:Rm} {a:Int} {l:Nat} (h6:l<6) (hA:AtT s l a) {d:Nat} (hd:d+1≤l) {t:Rm} {L:List It} {held:Int} (hL:L≠[]) (h:stO k s a l (d+1)=(0,t,L,held)) :
  (∀ q∈(rmV s (atW s k a (l-(d+1)))).2,rmE t q.2.1=0∧0<(rmV t q.2.1).2.length) ∧
  Z4h s t (rmV s (atW s k a (l-(d+1)))).2 (Xb (rmV s (atW s k a (l-(d+1)))) k) d L ∧
  Yf t (rmV s (atW s k a (l-(d+1)))).2 (Xb (rmV s (atW s k a (l-(d+1)))) k) L=Yf s (rmV s (atW s k a (l-(d+1)))).2 (Xb (rmV s (atW s k a (l-(d+1)))) k) L ∧
  (rmV s (atW s k a (l-(d+1)))).1=((d+1:Nat):Int)∧Xb (rmV s (atW s k a (l-(d+1)))) k<(rmV s (atW s k a (l-(d+1)))).2.length∧(rmV s (atW s k a (l-(d+1)))).2.length≤5 ∧
  stO k s a l (d+1+1)=(if (Zm8 t ((d:Int),(Yf s (rmV s (atW s k a (l-(d+1)))).2 (Xb (rmV s (atW s k a (l-(d+1)))) k) L).2.2) held).1=0 then
   (0,(Zm8 t ((d:Int),(Yf s (rmV s (atW s k a (l-(d+1)))).2 (Xb (rmV s (atW s k a (l-(d+1)))) k) L).2.2) held).2.1,
    Zai (rmV s (atW s k a (l-(d+1)))).2 (Yf s (rmV s (atW s k a (l-(d+1)))).2 (Xb (rmV s (atW s k a (l-(d+1)))) k) L).1 (Yf s (rmV s (atW s k a (l-(d+1)))).2 (Xb (rmV s (atW s k a (l-(d+1)))) k) L).2.1 [upI (Yf s (rmV s (atW s k a (l-(d+1)))).2 (Xb (rmV s (atW s k a (l-(d+1)))) k) L).2.2 (Zm8 t ((d:Int),(Yf s (rmV s (atW s k a (l-(d+1)))).2 (Xb (rmV s (atW s k a (l-(d+1)))) k) L).2.2) held).2.2],
    (Zm8 t ((d:Int),(Yf s (rmV s (atW s k a (l-(d+1)))).2 (Xb (rmV s (atW s k a (l-(d+1)))) k) L).2.2) held).2.2)
   else ((Zm8 t ((d:Int),(Yf s (rmV s (atW s k a (l-(d+1)))).2 (Xb (rmV s (atW s k a (l-(d+1)))) k) L).2.2) held).1,Zh,[],0)):=by
 have G:=Ztf h6 hA (by omega) h
 have h1:=Um (k:=k) hA (l-(d+1)) (by omega)
 rw[show l-(l-(d+1))=d+1 by omega] at h1
 have h':Yh k d s (atW s k a (l-d))=(0,t,L,held):=h
 have ha:Zb0 (rmV s (atW s k a (l-(d+1)))) k=atW s k a (l-d):=by
  rw[show l-d=(l-(d+1))+1 by omega]
  rfl
 have hun:stO k s a l (d+1+1)=Yh k (d+1) s (atW s k a (l-(d+1))):=rfl
 rw[hun]
 generalize atW s k a (l-(d+1))=b at *
 have hm:=h1.may
 have h5:=(Z2 hm).1.2.2.1
 have hne:0<(rmV s b).2.length:=(Z2 hm).1.2.2.2 (by rw[h1.lvl];omega)
 have hpl:=Zc6 k hne
 have hMs:∀ q∈(rmV s b).2,Zhs s s d q.2.1:=fun q hq=>Zs8 (h1.down hq)
 have hkn:∀ q∈(rmV s b).2,rmE t q.2.1=0∧rmV t q.2.1=rmV s q.2.1:=fun q hq=>by
  have hok:=(hMs q hq).ok.1
  obtain⟨_,e1,e2⟩:=Vm G.keep (Ys hok).2
  exact⟨e1.trans hok,e2⟩
 have hmrg:=Zzl (p:=Xb (rmV s b) k) G hpl hMs
 refine⟨fun q hq=>⟨(hkn q hq).1,?_⟩,hmrg,Zr3 (fun q hq=>(hkn q hq).2) _ _,h1.lvl,hpl,h5,?_⟩
 ·rw[(hkn q hq).2]
  obtain⟨tb,e,hr⟩:=h1.below d rfl q hq
  obtain⟨_,_,r3,_⟩:=Xv hr
  obtain⟨y0,q0,e0,_⟩:=Zcm r3
  rw[e0]
  exact Nat.succ_pos _
 ·have hlay:=Zug (s:=t) (lv:=(d:Int)) (held:=held) hmrg.few (by
   rcases G.own with h | ⟨_,_,_,q,hq,hqe⟩
   ·exact .inl h
   ·exact .inr ⟨q,hmrg.sub q hq,hqe⟩)
  rw[hlay]
  conv=>lhs;unfold Yh
  rw[ha,h']
  show (if (0:Int)=0 then _ else _)=_
  rw[if_pos rfl,if_neg hL]
  have hfew:=hmrg.few
  clear hmrg
  generalize Yf s (rmV s b).2 (Xb (rmV s b) k) L=mg at *
  obtain⟨first,many,L'⟩:=mg
  simp only
  by_cases hb:(Zq t (d:Int) L').1=0
  ·simp only[hb,if_true]
   obtain⟨u,up,e⟩:∃ u up,Zq t (d:Int) L'=(0,u,up):=⟨_,_,Prod.ext hb rfl⟩
   rw[e]
   have hup:∃ z,up=[upI L' z]:=by
    rcases Vf e with ⟨_,_,rfl⟩ | ⟨h6',_⟩
    ·exact⟨_,rfl⟩
    ·have:L'.length≤5:=hfew
     omega
   obtain⟨z,rfl⟩:=hup
   rfl
  ·simp only[hb,if_false]
theorem Z3f {s:Rm} {k:Ky} {l:Nat} {b:Int} {x:It} (hA:AtT s l b) (h:Zdl s l b k=some x):Xb (rmV s b) k<(rmV s b).2.length∧(rmV s b).2.length≤5∧Zkb (rmV s b).1:=by
 refine⟨?_,(Z2 hA.may).1.2.2.1,(Zh4 hA.ok).lv⟩
 cases l with
 | zero =>
  have ht:=(Zje hA h).2.1 rfl
  unfold Xb
  rw[if_pos ht]
  exact Zaq ht
 | succ l=>exact Zc6 k ((Z2 hA.may).1.2.2.2 (by rw[hA.lvl];omega))
def Kn (K:Nat→Prop) (W:World):Addr→Prop:=fun p=>K p.block∧p.block<W.heap.size
theorem Zcg {K:Nat→Prop} {W:World} {v:Value} {s:Rm} (h:Sto (Kn K W) W v s):Sto (Old W) W v s:=h.map fun _ _ hp hc=>⟨hp.2,hc⟩
theorem Y4 {K K':Nat→Prop} {W W':World} {v:Value} {s:Rm} (h:Sto (Kn K W) W v s) (hK:∀ k,K k→K' k) (hb:Below W.heap.size W W'):Sto (Kn K' W') W' v s:=h.map fun _ _ hp hc=>⟨⟨hK _ hp.1,Nat.lt_of_lt_of_le hp.2 hb.size⟩,(hb.cell hp.2).trans hc⟩
theorem Zff {K:Nat→Prop} {lo:Nat} {W:World} {v:Value} {s:Rm} (h:Sto (New lo W) W v s) (hK:∀ k,lo≤k→K k):Sto (Kn K W) W v s:=h.map fun _ _ hp hc=>⟨⟨hK _ hp.1,hp.2.1⟩,hc⟩
theorem Zxw {K:Nat→Prop} {W W':World} {v:Value} {s:Rm} {b:Nat} (h:Sto (Kn K W) W v s) (hb:¬ K b) (hg:W.grownBy W' (some b)):Sto (Kn K W') W' v s:=h.map fun p v hp hc=>by
 have hk:=hg.block p.block hp.2 (fun e=>hb (by have:=Option.some.inj e;rw[← this];exact hp.1))
 exact⟨⟨hp.1,Nat.lt_of_lt_of_le hp.2 hg.size⟩,(World.cell?_of_block hk).trans hc⟩
def Zws (K:Nat→Prop) (w:World) (g:Int×Rm×Int) (e:Ending) (w':World):Prop:=∃ qa qb qc qd:Option Addr×Nat×Nat,e=.returned (.tuple #[.agg #[.slice qa.1 qa.2.1 qa.2.2,.slice qb.1 qb.2.1 qb.2.2,.slice qc.1 qc.2.1 qc.2.2,.slice qd.1 qd.2.1 qd.2.2],.int .i64 g.2.2,.int .i64 g.1]) ∧
 Sto (Kn K w') w' (.agg #[.slice qa.1 qa.2.1 qa.2.2,.slice qb.1 qb.2.1 qb.2.2,.slice qc.1 qc.2.1 qc.2.2,.slice qd.1 qd.2.1 qd.2.2]) g.2.1∧Below w.heap.size w w'
theorem Zws.mono {K K':Nat→Prop} {w w':World} {g:Int×Rm×Int} {e:Ending} (h:Zws K w g e w') (hK:∀ k,K k→K' k):Zws K' w g e w':=by
 obtain⟨qa,qb,qc,qd,e,h1,h2⟩:=h
 exact⟨qa,qb,qc,qd,e,Y4 h1 hK (Below.refl _ _),h2⟩
theorem Ul {K:Nat→Prop} {w W:World} {b:Nat} {p0 p1 p2 p3:Value} {ra rb rc rd:Option Addr×Nat×Nat} {er nn:Int} {S:Rm} (hb:w.heap.size≤b) (hK:¬ K b) (hg:W.heap[b]? = some (.cells #[p0,p1,p2,p3] 29 (0,0))) (hB:Below w.heap.size w W)
  (hS:Sto (Kn K W) W (.agg #[.slice ra.1 ra.2.1 ra.2.2,.slice rb.1 rb.2.1 rb.2.2,.slice rc.1 rc.2.1 rc.2.2,.slice rd.1 rd.2.1 rd.2.2]) S) :
  ∃ W9,(((W.setCell ⟨b,0,none⟩ (.slice ra.1 ra.2.1 ra.2.2)).setCell ⟨b,1,none⟩ (.slice rb.1 rb.2.1 rb.2.2)).setCell ⟨b,2,none⟩ (.slice rc.1 rc.2.1 rc.2.2)).setCell ⟨b,3,none⟩ (.slice rd.1 rd.2.1 rd.2.2)=W9 ∧
   W9.cell? ⟨b,0,none⟩=some (.slice ra.1 ra.2.1 ra.2.2)∧W9.cell? ⟨b,1,none⟩=some (.slice rb.1 rb.2.1 rb.2.2)∧W9.cell? ⟨b,2,none⟩=some (.slice rc.1 rc.2.1 rc.2.2)∧W9.cell? ⟨b,3,none⟩=some (.slice rd.1 rd.2.1 rd.2.2) ∧
   (∀ o,W9.frozen? ⟨b,o,none⟩=false)∧Hid (W9.heap[b]? = some (.cells #[.slice ra.1 ra.2.1 ra.2.2,.slice rb.1 rb.2.1 rb.2.2,.slice rc.1 rc.2.1 rc.2.2,.slice rd.1 rd.2.1 rd.2.2] 29 (0,0)))∧Hid (Below w.heap.size w W9∧W.grownBy W9 (some b))∧Hid (W9.heap.size=W.heap.size) ∧
   Hid (Sto (Kn K W9) W9 (.agg #[.slice ra.1 ra.2.1 ra.2.2,.slice rb.1 rb.2.1 rb.2.2,.slice rc.1 rc.2.1 rc.2.2,.slice rd.1 rd.2.1 rd.2.2]) S) ∧
   Hid (Zws K w (er,S,nn) (.returned (.tuple #[.agg #[.slice ra.1 ra.2.1 ra.2.2,.slice rb.1 rb.2.1 rb.2.2,.slice rc.1 rc.2.1 rc.2.2,.slice rd.1 rd.2.1 rd.2.2],.int .i64 nn,.int .i64 er])) W9):=by
 obtain⟨W9,e9,g9,gr9,gs9⟩:=Zs (a':=.slice ra.1 ra.2.1 ra.2.2) (b':=.slice rb.1 rb.2.1 rb.2.2) (c':=.slice rc.1 rc.2.1 rc.2.2) (d':=.slice rd.1 rd.2.1 rd.2.2) hg
 obtain⟨k0,k1,k2,k3,kf,_⟩:=Ze g9
 have hS9:=Zxw hS hK gr9
 have hB9:=hB.grown gr9 hB.size (fun q e=>by cases e;exact hb)
 exact⟨W9,e9,k0,k1,k2,k3,kf,Za g9,Za ⟨hB9,gr9⟩,Za gs9,Za hS9,Za ⟨ra,rb,rc,rd,rfl,hS9,hB9⟩⟩
theorem Zjp (qa qb qc qd:Option Addr×Nat×Nat) (s:Rm) (I:Option Addr) (ci:Nat) (n:Nd) (held:Int) (w:World) (h:Sto (Old w) w (.agg #[.slice qa.1 qa.2.1 qa.2.2,.slice qb.1 qb.2.1 qb.2.2,.slice qc.1 qc.2.1 qc.2.2,.slice qd.1 qd.2.1 qd.2.2]) s)
  (hu:Nod (Old w) w (.agg #[.int .i64 n.1,.slice I n.2.length ci]) n) :
  Calls Tryz.prog 51 #[.agg #[.slice qa.1 qa.2.1 qa.2.2,.slice qb.1 qb.2.1 qb.2.2,.slice qc.1 qc.2.1 qc.2.2,.slice qd.1 qd.2.1 qd.2.2],.agg #[.int .i64 n.1,.slice I n.2.length ci],.int .i64 held] w (Zws (fun k=>w.heap.size≤k) w (Zm8 s n held)):=by
 obtain⟨w1,hw1,b1,hs1,hB1⟩:=Xt w (.slice qa.1 qa.2.1 qa.2.2) (.slice qb.1 qb.2.1 qb.2.2) (.slice qc.1 qc.2.1 qc.2.2) (.slice qd.1 qd.2.1 qd.2.2) 29
 obtain⟨w2,hw2,b2,hs2,hB2⟩:=Z7 w1 (.int .i64 n.1) (.slice I n.2.length ci) 81
 obtain⟨w3,hw3,b3,hs3,hB3⟩:=Xt w2 (.slice none 0 0) (.slice none 0 0) (.slice none 0 0) (.slice none 0 0) 29
 have hB23:=hB2.trans (hB3.mono hB2.size)
 have hB13:=hB1.trans (hB23.mono hB1.size)
 have B3:=Za hB13
 have SZ:=Za (show w1.heap.size=w.heap.size+1∧w2.heap.size=w.heap.size+2∧w3.heap.size=w.heap.size+3 from by omega)
 have HM:=Za (Zfa (.agg #[.slice qa.1 qa.2.1 qa.2.2,.slice qb.1 qb.2.1 qb.2.2,.slice qc.1 qc.2.1 qc.2.2,.slice qd.1 qd.2.1 qd.2.2]) (.agg #[.int .i64 n.1,.slice I n.2.length ci]) s n w3 (h.below hB13) (hu.below hB13))
 have G3:=Za b3
 obtain⟨k0,k1,k2,k3,_⟩:=Ze ((hB23.block w.heap.size (by omega)).trans b1)
 obtain⟨n0,n1,_⟩:=Zg ((hB3.block w1.heap.size (by omega)).trans b2)
 replace hs1:=Za hs1
 replace hs2:=Za hs2
 replace hs3:=Za hs3
 have hL:Hid (Zm8 s n held=if mkE s n=0 then (if held=0 then (0,mkV s n,mkN s n) else if asE (mkV s n) held=0 then (0,loV (mkV s n) held,mkN s n) else (asE (mkV s n) held,Zh,0)) else (mkE s n,Zh,0)):=Za rfl
 have hno:=Za (Zvf (s:=s) (n:=n))
 obtain⟨mn,hmn⟩:∃ q,mkN s n=q:=⟨_,rfl⟩
 obtain⟨me,hme⟩:∃ q,mkE s n=q:=⟨_,rfl⟩
 obtain⟨mv,hmv⟩:∃ q,mkV s n=q:=⟨_,rfl⟩
 rw[hmn,hme,hmv] at HM hL hno
 obtain⟨ld,hld⟩:∃ q,Zm8 s n held=q:=⟨_,rfl⟩
 rw[hld] at hL ⊢
 generalize n.1=lw at *
 generalize n.2.length=nl at *
 replace hmn:=Za hmn
 replace hme:=Za hme
 replace hmv:=Za hmv
 replace hld:=Za hld
 clear h hu hB1 hB2 hB3 hB23 hB13 b1 b2 b3
 go_enter Tryz.func51,Tryz.ntmps51
 go_upto_region 1 with fail
 clear hw1 hw2 hw3
 go_wp2_with fail
 with_reducible refine(HM.out).mono ?_
 rintro e w4 ⟨ra,rb,rc,rd,rfl,hS4,hb4⟩
 have hc4:=(hb4.block w2.heap.size (by have:=SZ.out;omega)).trans G3.out
 obtain⟨u0,u1,u2,u3,uf,_⟩:=Ze hc4
 have hnK:¬ (fun k=>w3.heap.size≤k) w2.heap.size:=by have:=SZ.out;show ¬ w3.heap.size≤w2.heap.size;omega
 have hKw:Hid (∀ k,(fun k=>w3.heap.size≤k) k→(fun k=>w.heap.size≤k) k):=Za fun k h=>Nat.le_trans B3.out.size h
 obtain⟨w5,e5,y0,y1,y2,y3,yf,g5,B5,sz5,S5,-⟩:=Ul (K:=fun k=>w3.heap.size≤k) (w:=w) (er:=0) (nn:=0) (by have:=SZ.out;omega) hnK hc4 (B3.out.trans (hb4.mono B3.out.size)) (Zff hS4 fun _ h=>h)
 obtain⟨w6,e6,z0,z1,z2,z3,-,-,-,-,-,hfin⟩:=Ul (K:=fun k=>w3.heap.size≤k) (w:=w) (er:=me) (nn:=mn) (by have:=SZ.out;omega) hnK g5.out B5.out.1 S5.out
 replace hfin:=Za (hfin.out.mono hKw.out)
 replace hnK:=Za hnK
 replace hb4:=Za hb4
 clear hS4 hc4 HM k0 k1 k2 k3 n0 n1
 go_upto_region 2 with fail
 clear u0 u1 u2 u3 uf e5
 by_cases hk:me=0
 case neg =>
  have t0:(me != 0)=true:=by simpa using hk
  obtain⟨hn0,hv0⟩:=hno.out hk
  have he:Hid (ld=(me,mv,mn)):=Za (by rw[hL.out,if_neg hk,hn0,hv0])
  clear hn0 hv0
  go_wp2_with fail
  rw[he.out]
  exact bodyPost_ret (v:=.tuple #[.agg #[.slice ra.1 ra.2.1 ra.2.2,.slice rb.1 rb.2.1 rb.2.2,.slice rc.1 rc.2.1 rc.2.2,.slice rd.1 rd.2.1 rd.2.2],.int .i64 mn,.int .i64 me]) (by simp[results,Tryz.results51,go_sem,z0,z1,z2,z3]) rfl hfin.out
 subst hk
 by_cases h0:held=0
 ·subst h0
  have he:Hid (ld=(0,mv,mn)):=Za (by rw[hL.out,if_pos rfl,if_pos rfl])
  go_wp2_with fail
  rw[he.out]
  exact bodyPost_ret (v:=.tuple #[.agg #[.slice ra.1 ra.2.1 ra.2.2,.slice rb.1 rb.2.1 rb.2.2,.slice rc.1 rc.2.1 rc.2.2,.slice rd.1 rd.2.1 rd.2.2],.int .i64 mn,.int .i64 0]) (by simp[results,Tryz.results51,go_sem,z0,z1,z2,z3]) rfl hfin.out
 clear e6 z0 z1 z2 z3 hfin
 have t1:(held==0)=false:=by simpa using h0
 have HL:=Za (Zgj (.agg #[.slice ra.1 ra.2.1 ra.2.2,.slice rb.1 rb.2.1 rb.2.2,.slice rc.1 rc.2.1 rc.2.2,.slice rd.1 rd.2.1 rd.2.2]) mv held w5 (Zcg S5.out))
 obtain⟨le,hle⟩:∃ q,asE mv held=q:=⟨_,rfl⟩
 obtain⟨lv,hlv⟩:∃ q,loV mv held=q:=⟨_,rfl⟩
 have hL2:Hid (ld=if le=0 then (0,lv,mn) else (le,Zh,0)):=Za (by rw[hL.out,if_pos rfl,if_neg h0,hle,hlv])
 rw[hle,hlv] at HL
 replace hle:=Za hle
 replace hlv:=Za hlv
 replace h0:=Za h0
 go_upto_region 4 with fail
 go_wp2_with fail
 with_reducible refine(HL.out).mono ?_
 rintro e w7 ⟨pa,pb,pc,pd,rfl,hS7,hb7⟩
 have hlt5:=Za (show w3.heap.size≤w5.heap.size from by rw[sz5.out];exact hb4.out.size)
 have hc7:=(hb7.block w2.heap.size (by have:=SZ.out;have:=hlt5.out;omega)).trans g5.out
 obtain⟨u0,u1,u2,u3,uf,_⟩:=Ze hc7
 obtain⟨w8,e8,x0,x1,x2,x3,xf,g8,B8,sz8,S8,-⟩:=Ul (K:=fun k=>w3.heap.size≤k) (w:=w) (er:=0) (nn:=0) (by have:=SZ.out;omega) hnK.out hc7 (B5.out.1.trans (hb7.mono B5.out.1.size)) (Zff hS7 fun k h=>by have:=hlt5.out;show w3.heap.size≤k;omega)
 clear hS7 hc7 hb7 HL y0 y1 y2 y3 yf
 go_upto_region 5 with fail
 clear u0 u1 u2 u3 uf e8
 by_cases hl0:le=0
 ·subst hl0
  obtain⟨w6,e6,z0,z1,z2,z3,-,-,-,-,-,hfin⟩:=Ul (K:=fun k=>w3.heap.size≤k) (w:=w) (er:=0) (nn:=mn) (by have:=SZ.out;omega) hnK.out g8.out B8.out.1 S8.out
  replace hfin:=Za (hfin.out.mono hKw.out)
  have he:Hid (ld=(0,lv,mn)):=Za (by rw[hL2.out,if_pos rfl])
  go_wp2_with fail
  rw[he.out]
  exact bodyPost_ret (v:=.tuple #[.agg #[.slice pa.1 pa.2.1 pa.2.2,.slice pb.1 pb.2.1 pb.2.2,.slice pc.1 pc.2.1 pc.2.2,.slice pd.1 pd.2.1 pd.2.2],.int .i64 mn,.int .i64 0]) (by simp[results,Tryz.results51,go_sem,z0,z1,z2,z3]) rfl hfin.out
 ·have t0:(le != 0)=true:=by simpa using hl0
  obtain⟨w6,e6,z0,z1,z2,z3,-,-,-,-,-,hfin⟩:=Ul (K:=fun k=>w3.heap.size≤k) (w:=w) (ra:=(none,0,0)) (rb:=(none,0,0)) (rc:=(none,0,0)) (rd:=(none,0,0)) (S:=Zh) (er:=le) (nn:=0) (by have:=SZ.out;omega) hnK.out g8.out B8.out.1 (Yk _ _)
  dsimp only at e6 z0 z1 z2 z3
  replace hfin:=Za (hfin.out.mono hKw.out)
  have he:Hid (ld=(le,Zh,0)):=Za (by rw[hL2.out,if_neg hl0])
  go_wp2_with fail
  rw[he.out]
  exact bodyPost_ret (v:=.tuple #[.agg #[.slice none 0 0,.slice none 0 0,.slice none 0 0,.slice none 0 0],.int .i64 0,.int .i64 le]) (by simp[results,Tryz.results51,go_sem,z0,z1,z2,z3]) rfl hfin.out
theorem Zdc {C Y:List Value} {a:Nat} (h:a≤C.length):(splice C a Y).take a=C.take a:=by
 unfold splice
 rw[List.take_append_of_le_length (by rw[List.length_take];omega),List.take_take,Nat.min_self]
def Zzs (lo:Nat) (w:World) (A:Option Addr) (c:Nat) (L:List Iv) (e:Ending) (w':World):Prop:=e=.returned (.slice A L.length c)∧w'.ownsRow lo 54 5 (.slice A L.length c) L.length (Zi L)∧w.grownBy w' (A.map (·.block))
def Zhv:List Value:=[.int .u8 0,.int .u32 0,.int .u32 0,.int .i64 0,.slice none 0 0]
theorem Zra {w:World} (ty:TypeId) (g o c:Nat) (C:List Value) (t:TypeId) (hg:w.heap[g]? = some (.cells C.toArray t (0,0))) (hfit:o+5≤C.length) :
  (Builtin.clear_ #[39] ty #[.slice (some ⟨g,o,none⟩) 1 c]).run Tryz.prog w=.ok (.tuple #[]) (w.setRow g (splice C o Zhv).toArray):=by
 have hst:=run_storeCells_at Tryz.prog g o t Zhv 0 C.toArray w hg (by simpa [Zhv] using hfit) (by intro v hv;simp[Zhv] at hv;rcases hv with rfl | rfl | rfl | rfl | rfl <;> rfl)
 have hz:(Builtin.zeroCells (Value.agg #[.int .u8 0,.int .u32 0,.int .u32 0,.int .i64 0,.slice none 0 0]).cells 1).toList=Zhv:=by kernel_rfl
 simp only[Nat.add_zero] at hst
 simp[Builtin.clear_,run_underlying Tryz.underlying39,hz,hst,splice]
theorem Us {w:World} {ops:Array Oper} {rest:List Oper} {o:Oper} {a:Act} {Q:Exit→Act→World→Prop} (hgd:o.guard=none) (x:Operand)
  (ho:o.op=.call { callee:=.builtin .clear,args:=#[x],argTypes:=#[39] }) (A:Option Addr) (m c:Nat) (hx:a.eval x=.slice A m c) (hm:m=1) (g off:Nat) (hA:A=some ⟨g,off,none⟩) (C:List Value) (t:TypeId) (hg:w.heap[g]? = some (.cells C.toArray t (0,0))) (hfit:off+5≤C.length)
  (h:∀ w',Hid (w'.heap[g]? = some (.cells (splice C off Zhv).toArray t (0,0)))→Hid (w.grownBy w' (some g))→wpList Tryz.prog ops Q rest (a.put o.dst (.tuple #[])) w'):wpList Tryz.prog ops Q (o::rest) a w:=by
 subst hm
 subst hA
 refine wpList_plain hgd fun K hK => ?_
 have hrun:=Zra (w:=w) o.type g off c C t hg hfit
 unfold Oper.wp
 simp[execOp,ho,resolve,invoke,builtin,hx,hrun,Result.andThen]
 exact hK _ _ (h _ (show _=_ by simpa using setRow_heap w g _ _ t _ hg) (Zcl _))
theorem Zml {w:World} {b i c m cc:Nat} {C:List Value} {ad:Addr} {cs:List Value} (hg:w.heap[b]? = some (.cells (List.toArray C) 54 (0,0))) (hC5:C.length=c*5) (hfit:i+m≤c) (hl:cs.length=m*5) (hcs:∀ k v,cs[k]? = some v→w.cell? (ad.add k)=some v) (h1:∀ v∈cs,v.oneCell'=true) :
  ∃ w2,(Builtin.append_ #[39,39] 39 #[.slice (some ⟨b,0,none⟩) i c,.slice (some ad) m cc]).run Tryz.prog w=.ok (.slice (some ⟨b,0,none⟩) (i+m) c) w2∧w2.heap[b]? = some (.cells (splice C (i*5) cs).toArray 54 (0,0))∧w.grownBy w2 (some b):=by
 obtain⟨i0,hi0,hz0,hz1,hz2⟩:=info_parts X1
 have hr:=run_append_room (P:=Tryz.prog) w 39 39 54 i0 Tryz.underlying39 hi0 b i c C.toArray hg ad m cc cs (by rw[hl,hz1]) hcs h1 hfit (by rw[hz1,hl,List.size_toArray,hC5];omega)
 rw[hz1] at hr
 refine⟨_,hr,?_,Zcl _⟩
 have:=setRow_heap w b C.toArray (C.toArray.toList.take (i*5)++cs++C.toArray.toList.drop (i*5+cs.length)).toArray 54 (0,0) hg
 simpa [splice] using this
theorem Zr7 (A:Option Addr) (lo n c i j:Nat) (ps:List Iv) (w:World) (h:w.ownsRow lo 54 5 (.slice A n c) n (Zi ps)) (hj:j=i+1) (hi:j≤n) (hbig:n≤1000) (hp1:∀ p∈ps,p.2.oneCell'=true) :
  Calls Tryz.prog 49 #[.slice A n c,.int .i64 i,.int .i64 j] w (Zzs lo w A c (ps.take i++ps.drop j)):=by
 have hpl:=Zaw h
 have hone:=Yz hp1
 obtain⟨ad,rfl⟩:∃ ad,A=some ad:=by
  obtain⟨_,_,e,_,_,_,h5⟩:=Ye h
  cases e
  exact h5 (by omega)
 obtain⟨b,C,rfl,hbl,hbs,hg,hnc,hcM,hC5,hC⟩:=Z9 h
 have hcm:c≤9223372036854775807:=by unfold maxLen at hcM;exact hcM
 have a1:¬ ((i:Int)=(j:Int)):=by omega
 have a2:(i:Int)≤(j:Int):=by omega
 have a3:(j:Int)≤(n:Int):=by omega
 have a4:(j:Int)≤(c:Int):=by omega
 have a5:(n:Int)≤(c:Int):=by omega
 have a6:(i:Int)≤(c:Int):=by omega
 have a7:¬ c=i:=by omega
 obtain⟨tot,htot⟩:∃ tot,tot=i+(n-j):=⟨_,rfl⟩
 have b1:(tot:Int)≤(n:Int):=by omega
 have b2:¬ c=tot:=by omega
 have b3:(tot:Int)≤(c:Int):=by omega
 have hd:(Zi (ps.drop j)).length=(n-j)*5:=by rw[Ym,List.length_drop,hpl]
 have HO:=Yz (ps:=ps.drop j) fun p hp=>hp1 p (List.mem_of_mem_drop hp)
 have el:(ps.take i++ps.drop j).length=tot:=by rw[List.length_append,List.length_take,List.length_drop,hpl];omega
 have hrun:Hid (∀ (ad:Addr) (cc:Nat),(∀ k v,(Zi (ps.drop j))[k]? = some v→w.drew.cell? (ad.add k)=some v)→∃ w2,(Builtin.append_ #[39,39] 39 #[.slice (some ⟨b,0,none⟩) i c,.slice (some ad) (n-j) cc]).run Tryz.prog w.drew=.ok (.slice (some ⟨b,0,none⟩) tot c) w2∧w2.heap[b]? = some (.cells (splice C (i*5) (Zi (ps.drop j))).toArray 54 (0,0))∧w.drew.grownBy w2 (some b)):=Za fun ad cc hcs=>by
  have:=Zml (w:=w.drew) (b:=b) (i:=i) (c:=c) (m:=n-j) (cc:=cc) (ad:=ad) (show w.drew.heap[b]? = _ from hg) hC5 (by omega) hd hcs HO
  rw[← htot] at this
  exact this
 have S1:Hid ((splice C (i*5) (Zi (ps.drop j))).length=C.length):=Za (length_splice _ _ _ (by rw[hd,hC5];omega))
 have hfin:Hid (∀ (w2 W:World),w.drew.grownBy w2 (some b)→W.heap[b]? = some (.cells (splice (splice C (i*5) (Zi (ps.drop j))) (tot*5) Zhv).toArray 54 (0,0))→w2.grownBy W (some b)→Zzs lo w (some ⟨b,0,none⟩) c (ps.take i++ps.drop j) (.returned (.slice (some ⟨b,0,none⟩) tot c)) W):=Za fun w2 W h0 h1 h2=>by
  refine⟨by rw[el],?_,Xj (Yl h0 h2)⟩
  rw[el]
  refine Xd hbl h1 (by omega) hcM (by rw[length_splice _ _ _ (by rw[S1.out,hC5];show tot*5+5≤c*5;omega),S1.out,hC5]) ?_
  rw[Zdc (by rw[S1.out,hC5];omega),show tot*5=i*5+(Zi (ps.drop j)).length by rw[hd];omega,Zan (by rw[hC5];omega),Yc,Xm,← hC,List.take_take,Nat.min_eq_left (by omega)]
 have P0:Hid (∀ k v,(Zi (ps.drop j))[k]? = some v→w.drew.cell? ((⟨b,j*5,none⟩:Addr).add k)=some v):=Za (Zaf h j)
 have hnil:Hid (j=n→∀ (ad:Addr) k v,(Zi (ps.drop j))[k]? = some v→w.drew.cell? (ad.add k)=some v):=Za fun e ad k v hv=>by
  rw[List.drop_of_length_le (by omega)] at hv
  cases hv
 have hfit:Hid (tot*5+5≤(splice C (i*5) (Zi (ps.drop j))).length):=Za (by rw[S1.out,hC5];omega)
 have h1:Hid (n-tot=1):=Za (by omega)
 have hcn:Hid (c=j→j=n):=Za (by omega)
 replace hj:=Za hj
 replace htot:=Za htot
 clear h hp1 hone HO hd el hC hC5 hg hpl S1
 go_enter Tryz.func49,Tryz.ntmps49
 by_cases hcj:c=j
 ·obtain⟨w2,hr2,hg2,hb2⟩:=hrun.out ⟨b,0,none⟩ 0 (hnil.out (hcn.out hcj) _)
  have hjn:=hcn.out hcj
  subst hcj
  subst hjn
  rw[Nat.sub_self] at hr2
  have HR:=Za hr2
  have HG:=Za hg2
  have HB:=Za hb2
  clear hr2 hg2 hb2
  go_upto_region 5 with fail
  go_still_tail 6,(by kernel_rfl)
  refine Zo rfl _ _ _ rfl rfl rfl HR.out ?_
  go_wp2_with (refine Us rfl _ rfl _ _ _ rfl h1.out b (tot*5) rfl _ _ HG.out hfit.out ?_;intro w3 hg3 hb3)
  go_ret
  exact hfin.out w2 _ HB.out hg3.out hb3.out
 ·obtain⟨w2,hr2,hg2,hb2⟩:=hrun.out ⟨b,j*5,none⟩ (c-j) P0.out
  have HR:=Za hr2
  have HG:=Za hg2
  have HB:=Za hb2
  clear hr2 hg2 hb2
  go_upto_region 5 with fail
  go_still_tail 6,(by kernel_rfl)
  refine Zo rfl _ _ _ rfl rfl rfl HR.out ?_
  go_wp2_with (refine Us rfl _ rfl _ _ _ rfl h1.out b (tot*5) rfl _ _ HG.out hfit.out ?_;intro w3 hg3 hb3)
  go_ret
  exact hfin.out w2 _ HB.out hg3.out hb3.out
theorem Zkq (A:Option Addr) (lo lf n c fb fc i j:Nat) (ps qs:List Iv) (w:World) (h:w.ownsRow lo 54 5 (.slice A n c) n (Zi ps)) (hf:w.ownsRow lf 54 5 (.slice (some ⟨fb,0,none⟩) 1 fc) 1 (Zi qs))
  (hne:A.map (·.block)≠some fb) (hj:j=i+1∨j=i+2) (hi:j≤n) (hbig:n≤1000) (hp1:∀ p∈ps,p.2.oneCell'=true) (hq1:∀ p∈qs,p.2.oneCell'=true) :
  Calls Tryz.prog 52 #[.slice A n c,.int .i64 i,.int .i64 j,.slice (some ⟨fb,0,none⟩) 1 fc] w (Zzs lo w A c (ps.take i++(qs++ps.drop j))):=by
 have hpl:=Zaw h
 have hql:=Zaw hf
 have hqc:∀ j v,(Zi qs)[j]? = some v→w.cell? ((⟨fb,0,none⟩:Addr).add j)=some v:=fun j v hj=>hf.cells (g:=fb) rfl j v hj
 have hq5:(Zi qs).length=1*5:=hf.1
 have hone:=Yz hp1
 have honq:=Yz hq1
 obtain⟨ad,rfl⟩:∃ ad,A=some ad:=by
  obtain⟨_,_,e,_,_,_,h5⟩:=Ye h
  cases e
  exact h5 (by omega)
 obtain⟨b,C,rfl,hbl,hbs,hg,hnc,hcM,hC5,hC⟩:=Z9 h
 have hcm:c≤9223372036854775807:=by unfold maxLen at hcM;exact hcM
 have hbf:b≠fb:=fun e=>hne (by rw[e];rfl)
 obtain⟨fb',Cf,e,_,hfs,hgf,_,_,hCf5,hCf⟩:=Z9 hf
 obtain rfl:fb=fb':=by cases e;rfl
 have a1:¬ ((i:Int)=(j:Int)):=by omega
 have a2:(i:Int)≤(j:Int):=by omega
 have a3:(j:Int)≤(n:Int):=by omega
 have a4:(j:Int)≤(c:Int):=by omega
 have a5:(i:Int)≤(n:Int):=by omega
 have a6:(i:Int)≤(c:Int):=by omega
 have a7:¬ c=i:=by omega
 have hzl:Zhv.length=5:=rfl
 have S1:Hid ((splice C (i*5) (Zi qs)).length=C.length):=Za (length_splice _ _ _ (by rw[hq5,hC5];omega))
 by_cases hjn:j=n
 ·have hjn':((j:Int)=(n:Int)):=by omega
  obtain⟨w2,hr2,hg2,hb2⟩:=Zml (w:=w) (b:=b) (i:=i) (c:=c) (m:=1) (cc:=fc) (ad:=⟨fb,0,none⟩) hg hC5 (by omega) hq5 hqc honq
  have eL:ps.take i++(qs++ps.drop j)=ps.take i++qs:=by rw[List.drop_of_length_le (by omega),List.append_nil]
  have el:(ps.take i++qs).length=i+1:=by rw[List.length_append,List.length_take];omega
  have e2:(splice C (i*5) (Zi qs)).take ((i+1)*5)=Zi (ps.take i++qs):=by
   rw[show (i+1)*5=i*5+(Zi qs).length by rw[hq5];omega,Zan (by rw[hC5];omega),Yc,Xm,← hC,List.take_take,Nat.min_eq_left (by omega)]
  rw[eL]
  have HR:=Za hr2
  have HG:=Za hg2
  have HB:=Za hb2
  rcases hj with hj | hj
  ·have hln:¬ (((i+1:Nat):Int)<(n:Int)):=by omega
   have hln2:¬ (i+1<n):=by omega
   have hfin:Hid (Zzs lo w (some ⟨b,0,none⟩) c (ps.take i++qs) (.returned (.slice (some ⟨b,0,none⟩) (i+1) c)) w2):=Za ⟨by rw[el],by rw[el];exact Xd hbl hg2 (by omega) hcM (by rw[S1.out,hC5]) e2,hb2⟩
   replace hj:=Za hj
   replace hjn:=Za hjn
   clear eL hr2 hg2 hb2 h hf hqc hone honq hp1 hq1 hne hg hgf hC hC5 hCf hCf5 hpl hql e2 el HG HB
   go_enter Tryz.func52,Tryz.ntmps52
   go_wp2_with (at_builtin;refine Zo rfl _ _ _ rfl rfl rfl HR.out ?_;clear HR)
   go_ret
   exact hfin.out
  ·have hln:((i:Int)+1<(n:Int)):=by omega
   have hln2:(i+1<n):=by omega
   have hln3:(((i+1:Nat):Int)<(n:Int)):=by omega
   have b1:((i:Int)+1≤(n:Int)):=by omega
   have b2:((i:Int)+1≤(c:Int)):=by omega
   have b3:¬ c=i+1:=by omega
   have h1:Hid (n-(i+1)=1):=Za (by omega)
   have hfit:Hid ((i+1)*5+5≤(splice C (i*5) (Zi qs)).length):=Za (by rw[S1.out,hC5];omega)
   have hfin:Hid (∀ W,W.heap[b]? = some (.cells (splice (splice C (i*5) (Zi qs)) ((i+1)*5) Zhv).toArray 54 (0,0))→w2.grownBy W (some b)→Zzs lo w (some ⟨b,0,none⟩) c (ps.take i++qs) (.returned (.slice (some ⟨b,0,none⟩) (i+1) c)) W):=Za fun W h1' h2'=>by
    refine⟨by rw[el],?_,Yl hb2 h2'⟩
    rw[el]
    refine Xd hbl h1' (by omega) hcM (by rw[length_splice _ _ _ (by rw[hzl];exact hfit.out),S1.out,hC5]) ?_
    rw[← e2]
    exact Zdc (by have:=hfit.out;omega)
   replace hj:=Za hj
   replace hjn:=Za hjn
   clear eL hr2 hg2 hb2 h hf hqc hone honq hp1 hq1 hne hg hgf hC hC5 hCf hCf5 hpl hql e2 el
   go_enter Tryz.func52,Tryz.ntmps52
   go_wp2_with (first | (at_builtin;refine Zo rfl _ _ _ rfl rfl rfl HR.out ?_) | (refine Us rfl _ rfl _ _ _ rfl h1.out b ((i+1)*5) rfl _ _ HG.out hfit.out ?_;intro w3 hg3 hb3))
   go_ret
   exact hfin.out _ hg3.out hb3.out
 have hjn':¬ ((j:Int)=(n:Int)):=by omega
 have a8:¬ c=j:=by omega
 have hw1:IntKind.i64.wrap ((i:Int)+1)=(i:Int)+1:=by rw[IntKind.wrap_i64];omega
 obtain⟨tot,htot⟩:∃ tot,tot=i+1+(n-j):=⟨_,rfl⟩
 have hw3:IntKind.i64.wrap ((i:Int)+1+((n-j:Nat):Int))=(tot:Int):=by rw[IntKind.wrap_i64];omega
 have hd:Hid ((Zi (ps.drop j)).length=(n-j)*5):=Za (by rw[Ym,List.length_drop,hpl])
 have HO:=Za (Yz (ps:=ps.drop j) fun p hp=>hp1 p (List.mem_of_mem_drop hp))
 have HQ:=Za honq
 have el:(ps.take i++(qs++ps.drop j)).length=tot:=by rw[List.length_append,List.length_append,List.length_take,List.length_drop,hpl,hql];omega
 have r1:(0:Int)≤(i:Int)+1:=by omega
 have r3:(i:Int)+1≤(tot:Int):=by omega
 have r4:((i:Int)+1).toNat=i+1:=by omega
 have r6:(i:Int)≤(tot:Int):=by omega
 have r7:(tot:Int)≤(c:Int):=by omega
 have r8:(tot:Int)≤(n:Int):=by omega
 have r9:(i:Int)+1≤(c:Int):=by omega
 have hgt:¬ ((c:Int)<(tot:Int)):=by omega
 have r2:¬ c=i+1:=by omega
 have hle:(i:Int)+1≤(j:Int):=by omega
 have S2:Hid ((splice (splice C (i*5) (Zi qs)) ((i+1)*5) (Zi (ps.drop j))).length=C.length):=Za (by rw[length_splice _ _ _ (by rw[S1.out,hd.out,hC5];omega),S1.out])
 have Q2:Hid (∀ w2:World,w.grownBy w2 (some b)→∀ j v,(Zi qs)[j]? = some v→w2.cell? ((⟨fb,0,none⟩:Addr).add j)=some v):=Za fun w2 hb2 j v hj=>by
  refine(World.cell?_of_block ?_).trans (hqc j v hj)
  rw[Zj]
  exact hb2.block fb hfs (fun e=>hbf (by cases e;rfl))
 have P2:Hid (∀ w2:World,w2.heap[b]? = some (.cells (splice C (i*5) (Zi qs)).toArray 54 (0,0))→∀ j' v,(Zi (ps.drop j))[j']? = some v→w2.cell? ((⟨b,j*5,none⟩:Addr).add j')=some v):=Za fun w2 h2 j' v hj'=>by
  have h0:=Zaf h j j' v hj'
  have e:((⟨b,j*5,none⟩:Addr).add j')=⟨b,j*5+j',none⟩:=Ui _ _ _
  rw[e] at h0 ⊢
  rw[Zbl hg] at h0
  rw[Zbl h2,Zhf (by rw[hq5,hC5];omega) (by rw[hq5];omega)]
  exact h0
 have e2:(splice (splice C (i*5) (Zi qs)) ((i+1)*5) (Zi (ps.drop j))).take (tot*5)=Zi (ps.take i++(qs++ps.drop j)):=by
  have:=Zc2 (C:=C) (Y:=Zi qs) (X:=Zi (ps.drop j)) (a:=i*5) (b:=(i+1)*5) (by rw[hq5];omega) (by rw[hd.out,hC5];omega)
  rw[hd.out,show (i+1)*5+(n-j)*5=tot*5 by omega] at this
  rw[this,Yc,Yc,Xm,← hC,List.take_take,Nat.min_eq_left (by omega)]
 have hC5h:=Za hC5
 have hgh:=Za hg
 have hmin:=Za (X9 (a:=1) (b:=tot-i) (k:=1) (by omega))
 have hmin2:=Za (X9 (a:=n-j) (b:=tot-(i+1)) (k:=n-j) (by omega))
 have hroom':=Za (show i+1+(n-j)≤c by omega)
 have hdone:Hid (∀ (W w2:World),w.grownBy w2 (some b)→W.heap[b]? = some (.cells (splice (splice C (i*5) (Zi qs)) ((i+1)*5) (Zi (ps.drop j))).toArray 54 (0,0))→w2.grownBy W (some b)→Zzs lo w (some ⟨b,0,none⟩) c (ps.take i++(qs++ps.drop j)) (.returned (.slice (some ⟨b,0,none⟩) tot c)) W):=Za fun W w2 h0 h1 h2=>by
  refine⟨by rw[el],?_,Yl h0 h2⟩
  rw[el]
  exact Xd hbl h1 (by omega) hcM (by rw[S2.out,hC5]) e2
 have hdone2:Hid (∀ (W w2 w3:World),tot*5+5≤C.length→w.grownBy w2 (some b)→w2.grownBy w3 (some b)→W.heap[b]? = some (.cells (splice (splice (splice C (i*5) (Zi qs)) ((i+1)*5) (Zi (ps.drop j))) (tot*5) Zhv).toArray 54 (0,0))→w3.grownBy W (some b)→Zzs lo w (some ⟨b,0,none⟩) c (ps.take i++(qs++ps.drop j)) (.returned (.slice (some ⟨b,0,none⟩) tot c)) W):=Za fun W w2 w3 hf0 h0 h1 h2 h3=>by
  refine⟨by rw[el],?_,Yl (Yl h0 h1) h3⟩
  rw[el]
  refine Xd hbl h2 (by omega) hcM (by rw[length_splice _ _ _ (by rw[hzl,S2.out];exact hf0),S2.out,hC5]) ?_
  rw[← e2]
  exact Zdc (by rw[S2.out];omega)
 have hway:(c=tot∧n=tot)∨(¬ c=tot∧n-tot=0)∨(¬ c=tot∧n-tot=1):=by omega
 have hfit:Hid (n-tot=1→tot*5+5≤C.length):=Za (by rw[hC5];omega)
 replace htot:=Za htot
 replace hj:=Za hj
 clear hqc hone honq hp1 hq1 hne h hf hC hC5 hCf hCf5 hpl hql hg hgf el e2
 go_enter Tryz.func52,Tryz.ntmps52
 go_upto_region 9 with fail
 go_quiet (fail)
 go_upto_region 18 with (refine Yq rfl _ _ 39 39 rfl 54 Tryz.underlying39 Xr _ _ _ _ _ _ rfl rfl b (i*5) _ 54 hgh.out (Zi qs) 1 hmin.out hq5 rfl ⟨fb,0,none⟩ rfl (Q2.out _ (Zox _ _ _)) (by rw[hq5,hC5h.out];have:=hroom'.out;omega) HQ.out ?_;intro w2 hg2 hb2)
 go_still_tail 9,(by kernel_rfl)
 refine Yq rfl _ _ 39 39 rfl 54 Tryz.underlying39 Xr _ _ _ _ _ _ rfl rfl b ((i+1)*5) _ 54 hg2.out (Zi (ps.drop j)) (n-j) hmin2.out hd.out rfl ⟨b,j*5,none⟩ rfl (P2.out w2 hg2.out) (by rw[S1.out,hd.out,hC5h.out];have:=hroom'.out;omega) HO.out ?_
 intro w3 hg3 hb3
 rcases hway with ⟨h1,h2⟩ | ⟨h1,h2⟩ | ⟨h1,h2⟩
 ·subst h1
  have h0:n-c=0:=by omega
  go_wp2_with (refine Ut rfl _ 39 rfl 54 Tryz.underlying39 _ _ (by rw[← h0];rfl) ?_)
  go_ret
  exact hdone.out _ _ (Za4 hb2.out) hg3.out (Xj hb3.out)
 ·go_wp2_with (refine Ut rfl _ 39 rfl 54 Tryz.underlying39 _ _ (by rw[← h2];rfl) ?_)
  go_ret
  exact hdone.out _ _ (Za4 hb2.out) hg3.out (Xj hb3.out)
 ·have h2':=Za h2
  have hf2:Hid (tot*5+5≤(splice (splice C (i*5) (Zi qs)) ((i+1)*5) (Zi (ps.drop j))).length):=Za (by rw[S2.out];exact hfit.out h2)
  clear h2
  go_wp2_with (refine Us rfl _ rfl _ _ _ rfl h2'.out b (tot*5) rfl _ _ hg3.out hf2.out ?_;intro w4 hg4 hb4)
  go_ret
  exact hdone2.out _ _ _ (hfit.out h2'.out) (Za4 hb2.out) (Xj hb3.out) hg4.out hb4.out
end Go.Proofs.YtgmbjnajdfgenaaGreat
