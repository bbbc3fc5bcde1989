/-
  Lemmas on the program and on the document's answers, gathered: Room, RmChk, RmFree, RmTake, RmShare, RmNode, FnPlain, DrPlain, FnKeep, FnSpan, Spoil05, NdBag, FnPlace, WkPlain, WkMarks, PtKeep, PtEnough, PtMake, PtLists, PtBuilt, PtGrow, PtGrown, PtPut, RmSame, CntWrite, CntRefW, StoZero, RmAlive, RmLaw, FnLeaf, RmRefN, FnInner, FnTree, FnOne, WkApp, PuStep, PuItems, DrStack, RmTwin, DrHold, RmRefT, DrMake, DrRefer, DrRefs, DrRefs2. Conditions: those that each lemma states.
-/
import Derived.Test.YtgmbjnajdfgenaaGreatBnd2
import Derived.Maps.AppendAt
import Derived.RangeFuncBox
import Derived.Sort.QuietIn
import Derived.Sort.CutIn
set_option maxRecDepth 100000
set_option maxHeartbeats 16000000
open Array renaming getElem?_eq_some_iff → Qv, replicate_succ → Q6, replicate_zero → Q7, getElem?_modify → Py
open Bool renaming and_eq_true → Qd, or_eq_true → Qag
open Go renaming World → Qax, Value → Qay, Addr → Qaz, TypeId → Qa0, bodyPost_ret → Qa1, heap_alloc_new → Qa2, undef → Qa3, Calls → Qa4
open Go.Act renaming put → Qh
open Go.RowKit renaming Below → Qa5
open Go.RowKit.Below renaming refl → Qb, heap_alloc → Pv
open Go.World renaming cell? → Qo, size_alloc → Qs, frozen? → Pw, setCell → Px, cell?_of_block → Qas
open List renaming getElem?_eq_getElem → Qc, mem_cons → Qe, mem_cons_of_mem → Qf, mem_cons_self → Qg, mem_filter → Qi, getElem?_eq_some_iff → Qj, mem_flatMap → Qk, mem_singleton → Ql, getElem?_of_mem → Qm, cons_append → Qn, length_cons → Qp, mem_append → Qq, mem_of_getElem? → Qt, pairwise_cons → Qw, flatMap_cons → Qx, all_eq_true → Qy, take_append_drop → Qz, size_toArray → Q0, length_nil → Q3, push_toArray → Q8, append_toArray → Q9, nil_append → Pa, length_set → Pb, getElem?_drop → Pc, mem_reverse → Pd, mem_map → Pe, mem_append_right → Pf, map_cons → Pg, pairwise_append → Ph, take_append_getElem → Pi, mem_of_mem_take → Pj, getElem?_eq_none → Pk, mem_of_find?_eq_some → Pm, mem_of_getLast? → Pn, length_take → Pp, filter_eq_self → Pq, mem_append_left → Pr, exists_cons_of_ne_nil → Ps, flatMap_append → Pt, length_drop → Pu, length_append → Pz, filter_congr → P1, getLast?_eq_some_getLast → P3, Pairwise → P4, mem_of_mem_drop → P5, length_map → P7, sum_cons → P8, take_succ_cons → P9, take_zero → Qaa, drop_succ_cons → Qab, drop_zero → Qac, find?_append → Qad, find?_cons → Qae, ext_getElem → Qaf, filter_append → Qah, filter_eq_nil_iff → Qai, mem_iff_getElem? → Qaj, reverse_append → Qak, take_of_length_le → Qal, eq_nil_of_length_eq_zero → Qam, nodup_cons → Qan, filter_cons_of_pos → Qao, filter_filter → Qap, drop_eq_getElem_cons → Qaq, append_nil → Qar, ext_getElem? → Qat, getElem?_map → Qau, map_append → Qav, map_nil → Qaw
open Nat renaming le_refl → Qa, lt_of_lt_of_le → Qr, le_trans → Qu, reduceAdd → Q4, reduceSub → Q5, lt_or_ge → Po
noncomputable section
namespace Go.Proofs.YtgmbjnajdfgenaaGreat
open Go.ChangeShapes Go.WideShapes Go.RowKit
def Yci:Rel Rm:=Zju Z9w (Zju rBy rBy)
def Sto (ok:Qaz->Prop) (w:Qax) (v:Qay) (s:Rm):Prop:=∃ a b n l,v=.agg #[a,b,n,l]/\Dsk ok w (.agg #[a,b]) s.1/\rBy ok w [n] s.2.1/\rBy ok w [l] s.2.2
section
variable {ok ok' : Qaz -> Prop}{w w' : Qax}{v : Qay}{s : Rm}{lo lo' : Nat}
theorem Sto.map (hk:∀ p v,ok p->w.cell? p=some v->ok' p/\w'.cell? p=some v) (h:Sto ok w v s):Sto ok' w' v s:=by
 obtain⟨a,b,n,l,e,h1,h2,h3⟩:=h;exact⟨a,b,n,l,e,h1.map hk,Zf _ _ _ _ _ _ hk h2,Zf _ _ _ _ _ _ hk h3⟩
theorem Sto.below (h:Sto (Old w) w v s) (hb:Qa5 w.heap.size w w'):Sto (Old w') w' v s :=
 h.map fun _ _ hp hc=>⟨Qr hp hb.size,(hb.cell hp).trans hc⟩
theorem Sto.drop (h:Sto (New lo w) w v s):Sto (Old w) w v s:=h.map fun _ _ hp hc=>⟨hp.2.1,hc⟩
theorem Sto.new (h:Sto (New lo w) w v s) (hl:lo'<=lo) (hb:Qa5 w.heap.size w w'):Sto (New lo' w') w' v s :=
 h.map fun _ _ hp hc=>⟨⟨Qu hl hp.1,Qr hp.2.1 hb.size,(hb.frozen hp.2.1).trans hp.2.2⟩,(hb.cell hp.2.1).trans hc⟩
theorem Sto.grown {row:Option Nat}(h:Sto (New lo w) w v s) (hg:w.grownBy w' row) (hr:∀ q,row=some q->q<lo):Sto (New lo w') w' v s:=by
 obtain⟨a,b,n,l,e,h1,h2,h3⟩:=h;exact⟨a,b,n,l,e,h1.grown hg hr,Zf.grown h2 hg hr,Zf.grown h3 hg hr⟩
theorem Sto.open (h:Sto ok w v s):∃ A ca B cb N cn L cl,v=.agg #[.slice A s.1.1.length ca,.slice B s.1.2.length cb,.slice N s.2.1.length cn,.slice L s.2.2.length cl]/\Dsk ok w (.agg #[.slice A s.1.1.length ca,.slice B s.1.2.length cb]) s.1 /\
  rBy ok w [.slice N s.2.1.length cn] s.2.1/\rBy ok w [.slice L s.2.2.length cl] s.2.2:=by
 obtain⟨a,b,n,l,rfl,h1,h2,h3⟩:=h;obtain⟨A,ca,B,cb,e,_⟩:=h1.open;cases e;obtain⟨N,cn,rfl,_⟩:=Zt h2;obtain⟨L,cl,rfl,_⟩:=Zt h3;exact⟨A,ca,B,cb,N,cn,L,cl,rfl,h1,h2,h3⟩
theorem Sto.parts {a b n l:Qay}(h:Sto ok w (.agg #[a,b,n,l]) s):Dsk ok w (.agg #[a,b]) s.1/\rBy ok w [n] s.2.1/\rBy ok w [l] s.2.2:=by
 obtain⟨_,_,_,_,e,h1,h2,h3⟩:=h;cases e;exact⟨h1,h2,h3⟩
theorem Sto.mk {a b n l:Qay}(h1:Dsk ok w (.agg #[a,b]) s.1) (h2:rBy ok w [n] s.2.1) (h3:rBy ok w [l] s.2.2):Sto ok w (.agg #[a,b,n,l]) s:=⟨a,b,n,l,rfl,h1,h2,h3⟩
end
theorem Yv (ok:Qaz->Prop) (w:Qax):Sto ok w (.agg #[.slice none 0 0,.slice none 0 0,.slice none 0 0,.slice none 0 0]) Zi :=
 ⟨_,_,_,_,rfl,⟨_,_,rfl,⟨none,0,rfl,by simp[Zi,Zc6],by omega,fun i x h=>by simp[Zi,Zc6] at h⟩,⟨none,0,rfl,by simp[Zi,Zc6],by omega,fun i x h=>by simp[Zi,Zc6] at h⟩⟩,
  ⟨none,0,rfl,by simp[Zi],by omega,fun i x h=>by simp[Zi] at h⟩,⟨none,0,rfl,by simp[Zi],by omega,fun i x h=>by simp[Zi] at h⟩⟩
theorem X3 (w:Qax) (a b c d:Qay) (t:Qa0):∃ w1,w.alloc (.cells #[a,b,c,d] t)=w1/\w1.heap[w.heap.size]? = some (.cells #[a,b,c,d] t (0,0))/\w1.heap.size=w.heap.size+1/\Qa5 w.heap.size w w1 :=
 ⟨_,rfl,Qa2 _ _,by simp,(Qb _ _).alloc (Qa _) _⟩
theorem Ze {W:Qax}{g:Nat}{a b c d:Qay}{t:Qa0}(h:W.heap[g]? = some (.cells #[a,b,c,d] t (0,0))):W.cell? ⟨g,0,none⟩=some a/\W.cell? ⟨g,1,none⟩=some b/\W.cell? ⟨g,2,none⟩=some c/\W.cell? ⟨g,3,none⟩=some d/\(∀ o,W.frozen? ⟨g,o,none⟩=false)/\g<W.heap.size :=
 ⟨by simp[Qo,h],by simp[Qo,h],by simp[Qo,h],by simp[Qo,h],fun o=>by simp[Pw,h],(Qv.1 h).1⟩
theorem Zu {W:Qax}{g:Nat}{a b c d a' b' c' d':Qay}{t:Qa0}(h:W.heap[g]? = some (.cells #[a,b,c,d] t (0,0))):∃ W1,(((W.setCell ⟨g,0,none⟩ a').setCell ⟨g,1,none⟩ b').setCell ⟨g,2,none⟩ c').setCell ⟨g,3,none⟩ d'=W1 /\
  W1.heap[g]? = some (.cells #[a',b',c',d'] t (0,0))/\W.grownBy W1 (some g)/\W1.heap.size=W.heap.size :=
 ⟨_,rfl,by simp[Px,Py,h],Yr (p:=⟨g,3,none⟩) (Yr (p:=⟨g,2,none⟩) (Yr (p:=⟨g,1,none⟩) (Yr (p:=⟨g,0,none⟩) (Xc W (some g)) rfl a') rfl b') rfl c') rfl d',by simp⟩
def Z49 (g:Nat) (a b c d:Qay):Qax->Prop:=fun w=>w.cell? ⟨g,0,none⟩=some a/\w.cell? ⟨g,1,none⟩=some b/\w.cell? ⟨g,2,none⟩=some c/\w.cell? ⟨g,3,none⟩=some d/\g<w.heap.size
theorem V5 (g:Nat) (a b c d:Qay):Zf6 (Z49 g a b c d):=fun _ _ h hb=>⟨(hb.cell (p:=⟨g,0,none⟩) h.2.2.2.2).trans h.1,(hb.cell (p:=⟨g,1,none⟩) h.2.2.2.2).trans h.2.1,(hb.cell (p:=⟨g,2,none⟩) h.2.2.2.2).trans h.2.2.1,(hb.cell (p:=⟨g,3,none⟩) h.2.2.2.2).trans h.2.2.2.1,Qr h.2.2.2.2 hb.size⟩
theorem Zd9 {w w1:Qax}{Fs:List (Qax->Prop)}(h:Bag w Fs) (hb:Qa5 w.heap.size w w1) (a b c d:Qay) (t:Qa0):∃ w',w1.alloc (.cells #[a,b,c,d] t)=w'/\Bag w' (Z49 w1.heap.size a b c d::Fs)/\Qa5 w.heap.size w w'/\Qa5 w1.heap.size w1 w'/\w1.heap.size<w'.heap.size:=by
 obtain⟨w2,e2,b2,k4,k5⟩:=X3 w1 a b c d t;obtain⟨k0,k1,k2,k3,_,k6⟩:=Ze b2;exact⟨w2,e2,((h.below hb).below k5).add ⟨k0,k1,k2,k3,k6⟩ (V5 _ _ _ _ _),hb.trans (k5.mono hb.size),k5,by omega⟩
def Zs4 (v:Qay) (s:Rm):Qax->Prop:=fun w=>Sto (Old w) w v s
theorem Ut (v:Qay) (s:Rm):Zf6 (Zs4 v s):=fun _ _ h hb=>h.below hb
theorem Zo3:Zdm Tryz.prog 27 rBy:=Zh3 Tryz.underlying27 (by kernel_rfl) (Zmi Tryz.underlying5)
theorem Zsh:Zdm Tryz.prog 29 Yci:=Zhg Tryz.underlying29 (Zc2 rfl Zvm (Zc2 (by kernel_rfl) Zo3 (Zk8 (by kernel_rfl) (by kernel_rfl) Zo3)))
theorem Z18 {ok:Qaz->Prop}{w:Qax}{cs:List Qay}{s:Rm}(h:Yci ok w cs s):∃ a b n l,cs=[a,b,n,l]/\Dsk ok w (.agg #[a,b]) s.1/\rBy ok w [n] s.2.1/\rBy ok w [l] s.2.2:=by
 obtain⟨_,_,rfl,⟨_,_,rfl,h1,h2⟩,_,_,rfl,h3,h4⟩:=h;obtain⟨A,ca,rfl,h1'⟩:=h1;obtain⟨B,cb,rfl,h2'⟩:=h2;obtain⟨N,cn,rfl,h3'⟩:=h3;obtain⟨L,cl,rfl,h4'⟩:=h4;exact⟨_,_,_,_,rfl,⟨_,_,rfl,⟨A,ca,rfl,h1'⟩,⟨B,cb,rfl,h2'⟩⟩,⟨N,cn,rfl,h3'⟩,⟨L,cl,rfl,h4'⟩⟩
theorem Zw8 {H:Type}{enc:Qa0×Qay->H}{w:Qax}{b0:Nat}{spare:Nat->Bool}{held:Bool}{r:Reach}{v:Qay}{x:DataW H}{ps:List MemPlace}(hval:Value.okWide Tryz.prog w r b0 29 v) (hd:DataW.Trod enc Tryz.prog w 0 spare held 29 v x ps) :
  ∃ s,Sto (Old w) w v s:=by
 obtain⟨cs,rfl,_⟩:=okWide_struct Tryz.underlying29 hval;obtain⟨s,hs⟩:=Zuc Zsh hd;obtain⟨a,b,n,l,h1,h2,h3,h4⟩:=Z18 hs;exact⟨s,a,b,n,l,by obtain⟨cs⟩:=cs;simp[Value.cells] at h1;rw[h1],h2,h3,h4⟩
theorem Zja (v:Qay) (t:List UInt8) (w:Qax) (h:rBy (Old w) w [v] t):Qa4 Tryz.prog 122 #[v] w fun e w'=>e=.returned (.int .i64 (Z38 t))/\w=w':=by
 obtain⟨A,c,rfl,l1,m1,hb⟩:=Vd (B:=w.heap.size) (fun _ h=>h) h;exact Za3 A t.length c t (Za rfl) l1 m1 w hb
theorem Zm4 {w:Qax}{v:Qay}{s:Rm}(h:Sto (Old w) w v s):∃ A ca B cb N cn L cl w1,v=.agg #[.slice A s.1.1.length ca,.slice B s.1.2.length cb,.slice N s.2.1.length cn,.slice L s.2.2.length cl] /\
  w.alloc (.cells #[.slice A s.1.1.length ca,.slice B s.1.2.length cb,.slice N s.2.1.length cn,.slice L s.2.2.length cl] 29)=w1/\w1.heap[w.heap.size]? = some (.cells #[.slice A s.1.1.length ca,.slice B s.1.2.length cb,.slice N s.2.1.length cn,.slice L s.2.2.length cl] 29 (0,0))/\w1.heap.size=w.heap.size+1/\Qa5 w.heap.size w w1 /\
  Hid (Dsk (Old w1) w1 (.agg #[.slice A s.1.1.length ca,.slice B s.1.2.length cb]) s.1)/\Hid (rBy (Old w1) w1 [.slice N s.2.1.length cn] s.2.1)/\Hid (rBy (Old w1) w1 [.slice L s.2.2.length cl] s.2.2):=by
 obtain⟨A,ca,B,cb,N,cn,L,cl,rfl,hd,hN,hL⟩:=h.open;obtain⟨w1,hw1,f,hs,hB⟩:=X3 w (.slice A s.1.1.length ca) (.slice B s.1.2.length cb) (.slice N s.2.1.length cn) (.slice L s.2.2.length cl) 29;exact⟨A,ca,B,cb,N,cn,L,cl,w1,rfl,hw1,f,hs,hB,Za (hd.below hB),Za (Zf.old hN hB),Za (Zf.old hL hB)⟩
theorem Xf (v:Qay) (s:Rm) (w:Qax) (h:Sto (Old w) w v s):Qa4 Tryz.prog 78 #[v] w fun e w'=>e=.returned (.int .i64 (Z4v s))/\Qa5 w.heap.size w w':=by{
 obtain⟨A,ca,B,cb,N,cn,L,cl,w1,rfl,hw1,f,hsz,hB,D,NN,LL⟩:=Zm4 h;clear h;obtain⟨k0,k1,k2,k3,_,kg⟩:=Ze f;replace hsz:=Za hsz;cases h1:Zbx s.1 with
 | false =>
  have hr:Hid (Z4v s=8):=Za (Zee (by simp[Xk,h1]));have e1:=Zey h1
  go_enter Tryz.func78,Tryz.ntmps78
  go_upto_region 1 with fail
  clear hw1
  go_wp2_with fail
  with_reducible refine(Zca _ s.1 _ D.out).mono ?_
  rintro e w2 ⟨rfl,hb2⟩;rw[e1]
  go_wp2_with fail
  go_ret;exact⟨Z0 hr.out.symm,hB.trans (hb2.mono hB.size)⟩
 | true =>
  have e1:=Z1s h1;cases h2:Zbv s.2.1 with
  | false =>
   have hr:Hid (Z4v s=8):=Za (Zee (by simp[Xk,h2]));have e2:=Zh7 h2
   go_enter Tryz.func78,Tryz.ntmps78
   go_upto_region 1 with fail
   clear hw1
   go_wp2_with fail
   with_reducible refine(Zca _ s.1 _ D.out).mono ?_
   rintro e w2 ⟨rfl,hb2⟩;rw[e1];replace k2:=(hb2.cell (p:=⟨w.heap.size,2,none⟩) kg).trans k2;have N2:=Za (Zf.old NN.out hb2);replace hb2:=Za (hB.trans (hb2.mono hB.size))
   go_wp2_with fail
   with_reducible refine(Zja _ s.2.1 _ N2.out).mono ?_
   rintro e w3 ⟨rfl,rfl⟩;rw[e2]
   go_wp2_with fail
   go_ret;exact⟨Z0 hr.out.symm,hb2.out⟩
  | true =>
   have e2:=Zj7 h2;obtain⟨q,hq,hr⟩:∃ q,Z38 s.2.2=q/\Hid (Z4v s=q):=⟨_,rfl,Za (by simp[Z4v,Z38,Xk,h1,h2])⟩
   obtain⟨p,hp1,hp2⟩:∃ p,(q != 0)=p/\(p=true->q=8)/\(p=false->q=0):=⟨_,rfl,by
    rw[<- hq];unfold Z38
    split <;> simp⟩
   go_enter Tryz.func78,Tryz.ntmps78
   go_upto_region 1 with fail
   clear hw1
   go_wp2_with fail
   with_reducible refine(Zca _ s.1 _ D.out).mono ?_
   rintro e w2 ⟨rfl,hb2⟩;rw[e1];replace k2:=(hb2.cell (p:=⟨w.heap.size,2,none⟩) kg).trans k2;replace k3:=(hb2.cell (p:=⟨w.heap.size,3,none⟩) kg).trans k3;have N2:=Za (Zf.old NN.out hb2);have L2:=Za (Zf.old LL.out hb2);replace hb2:=Za (hB.trans (hb2.mono hB.size))
   go_wp2_with fail
   with_reducible refine(Zja _ s.2.1 _ N2.out).mono ?_
   rintro e w3 ⟨rfl,rfl⟩;rw[e2]
   go_wp2_with fail
   with_reducible refine(Zja _ s.2.2 _ L2.out).mono ?_
   rintro e w3 ⟨rfl,rfl⟩;rw[hq];replace hq:=Za hq;cases p with
   | true =>
    have h8:=Za (hp2.1 rfl);clear hp2
    go_wp2_with fail
    go_ret;exact⟨Z0 (by rw[hr.out,h8.out]),hb2.out⟩
   | false =>
    have h0:=Za (hp2.2 rfl);clear hp2
    go_wp2_with fail
    go_ret;exact⟨Z0 (by rw[hr.out,h0.out]),hb2.out⟩}
def Zsy (s:Rm):Bool:=Zdx s.1||decide (10000<s.2.1.length)||decide (10000<s.2.2.length)
theorem Zvn (v:Qay) (s:Rm) (w:Qax) (h:Sto (Old w) w v s):Qa4 Tryz.prog 14 #[v] w fun e w'=>e=.returned (.bool (Zsy s))/\Qa5 w.heap.size w w':=by{
 obtain⟨A,ca,B,cb,N,cn,L,cl,w1,rfl,hw1,f,hsz,hB,D,_,_⟩:=Zm4 h;clear h;obtain⟨k0,k1,k2,k3,_,kg⟩:=Ze f;replace hsz:=Za hsz;obtain⟨n,hn⟩:∃ n,s.2.1.length=n:=⟨_,rfl⟩
 obtain⟨l,hl⟩:∃ l,s.2.2.length=l:=⟨_,rfl⟩
 have hr:Hid (Zsy s=(Zdx s.1||decide ((10000:Int)<n)||decide ((10000:Int)<l))):=Za (by
  unfold Zsy
  rw[hn,hl,show decide (10000<n)=decide ((10000:Int)<n) from decide_eq_decide.2 (by omega),show decide (10000<l)=decide ((10000:Int)<l) from decide_eq_decide.2 (by omega)])
 rw[hn] at k2;rw[hn,hl] at hw1 ⊢;rw[hl] at k3;clear hn hl;obtain⟨g,hg⟩:∃ g,Zdx s.1=g:=⟨_,rfl⟩
 rw[hg] at hr
 go_enter Tryz.func14,Tryz.ntmps14
 go_upto_region 1 with fail
 clear hw1
 go_wp2_with fail
 with_reducible refine(Zzp _ s.1 _ D.out).mono ?_
 rintro e w2 ⟨rfl,hb2⟩;rw[hg];replace k2:=(hb2.cell (p:=⟨w.heap.size,2,none⟩) kg).trans k2;replace k3:=(hb2.cell (p:=⟨w.heap.size,3,none⟩) kg).trans k3;replace hb2:=Za (hB.trans (hb2.mono hB.size));replace hg:=Za hg;cases g with
 | true =>
  go_wp2_with fail
  go_ret;exact⟨Yn (by rw[hr.out];rfl),hb2.out⟩
 | false =>
  by_cases hn:(10000:Int)<n
  ·go_wp2_with fail
   go_ret;exact⟨Yn (by rw[hr.out];simp[hn]),hb2.out⟩
  ·by_cases hl:(10000:Int)<l
   ·go_wp2_with fail
    go_ret;exact⟨Yn (by rw[hr.out];simp[hl]),hb2.out⟩
   ·go_wp2_with fail
    go_ret;exact⟨Yn (by rw[hr.out];simp),hb2.out⟩}
theorem Zhk (n:Int) (w:Qax):Qa4 Tryz.prog 110 #[.int .i64 n] w fun e w'=>e=.returned (.bool (inT n))/\w=w':=by{
 rcases Z69 n with ⟨h,hr⟩ | ⟨h,h2,hr⟩ | ⟨h,h2,hr⟩
 all_goals
  replace hr:=Za hr
  go_enter Tryz.func110,Tryz.ntmps110
  go_wp2_with fail
  go_ret;exact⟨Yn (by first | exact hr.out.symm | (rw[hr.out];simp;omega)),rfl⟩}
theorem Uc (v:Qay) (s:Rm) (n:Int) (w:Qax) (h:Sto (Old w) w v s):Qa4 Tryz.prog 66 #[v,.int .i64 n] w fun e w'=>e=.returned (.int .i64 (asE s n))/\Qa5 w.heap.size w w':=by{
 have H0:=Za h;obtain⟨A,ca,B,cb,N,cn,L,cl,w1,rfl,hw1,f,hsz,hB,_,NN,_⟩:=Zm4 h;have H:=Za (h.below hB);clear h H0;obtain⟨k0,k1,k2,k3,_,kg⟩:=Ze f;replace hsz:=Za hsz;rcases Zjj s n with ⟨hm,he⟩ | ⟨hm,hn,he⟩ | ⟨k,hm,rfl,h8,h256,hx,he⟩ | ⟨k,hm,rfl,h8,h256,hx,he⟩
 ·replace he:=Za he
  have e1:=Zee hm
  go_enter Tryz.func66,Tryz.ntmps66
  go_upto_region 1 with fail
  clear hw1
  go_wp2_with fail
  with_reducible refine(Xf _ s _ H.out).mono ?_
  rintro e w2 ⟨rfl,hb2⟩;rw[e1];replace hb2:=Za (hB.trans (hb2.mono hB.size))
  go_wp2_with fail
  go_ret;exact⟨Z0 he.out.symm,hb2.out⟩
 ·replace he:=Za he
  have e1:=Zcu hm;have hi:inT n=false:=by
   cases hi:inT n with
   | false=>rfl
   | true=>obtain⟨k,rfl,h8,h256⟩:=Zma hi;omega
  go_enter Tryz.func66,Tryz.ntmps66
  go_upto_region 1 with fail
  clear hw1
  go_wp2_with fail
  with_reducible refine(Xf _ s _ H.out).mono ?_
  rintro e w2 ⟨rfl,hb2⟩;rw[e1];replace hb2:=Za (hB.trans (hb2.mono hB.size))
  go_wp2_with fail
  with_reducible refine(Zhk n _).mono ?_
  rintro e w3 ⟨rfl,rfl⟩;rw[hi]
  go_wp2_with fail
  go_ret;exact⟨Z0 he.out.symm,hb2.out⟩
 all_goals
  replace he:=Za he;have e1:=Zcu hm;have hi:=Zqd h8 h256;have hlen:=Yx (Yf hm).2.1;obtain⟨A',c',e2,l1,m1,hby⟩:=Vd (B:=w1.heap.size) (fun _ h=>h) NN.out;cases e2;obtain⟨ad,rfl,hbk,hc⟩:=hby (by omega)
  have hcell:=hc k (by omega);replace hbk:(ad.add k).block<w1.heap.size:=by rw[Zh];exact hbk
  obtain⟨x,hx2⟩:∃ x,s.2.1[k]?.getD 0=x:=⟨_,rfl⟩
  rw[hx2] at hcell hx;have hlt:k<s.2.1.length:=by omega
  first
   | have t0:=Vh (y:=0) (q:=0) rfl hx
   | have t0:=Xv (y:=0) (q:=0) rfl hx
  replace hx2:=Za hx2;replace hx:=Za hx;replace hlen:=Za hlen;clear hc hby
  go_enter Tryz.func66,Tryz.ntmps66
  go_upto_region 1 with fail
  clear hw1
  go_wp2_with fail
  with_reducible refine(Xf _ s _ H.out).mono ?_
  rintro e w2 ⟨rfl,hb2⟩;rw[e1];replace k2:=(hb2.cell (p:=⟨w.heap.size,2,none⟩) kg).trans k2;replace hcell:=(hb2.cell hbk).trans hcell;replace hb2:=Za (hB.trans (hb2.mono hB.size))
  go_wp2_with fail
  with_reducible refine(Zhk (k:Int) _).mono ?_
  rintro e w3 ⟨rfl,rfl⟩;rw[hi]
  go_wp2_with fail
  go_ret;exact⟨Z0 he.out.symm,hb2.out⟩}
end Go.Proofs.YtgmbjnajdfgenaaGreat
namespace Go.Proofs.YtgmbjnajdfgenaaGreat
open Go.RowKit Go.Shelf
attribute [local go_sem] Oper.semAt_some
theorem Z0i (s:Rm) (k j:Nat):∃ r,Zby s (k+j)=Zby s k++r:=by{
 induction j with
 | zero=>exact⟨[],by simp⟩
 | succ j ih =>
  obtain⟨r,hr⟩:=ih;exact⟨r++(if Zab s (8+(k+j)) then [8+(k+j)] else []),by rw[<- Nat.add_assoc,Zgj,hr,List.append_assoc]⟩}
theorem Zpg {s:Rm}{k:Nat}(h:Zab s (8+k)=true):Zby s (k+1)=Zby s k++[8+k]:=by rw[Zgj,h];rfl
theorem Zu2 {s:Rm}{k:Nat}(h:Zab s (8+k)=false):Zby s (k+1)=Zby s k:=by rw[Zgj,h];simp
theorem Z3z {s:Rm}{k:Nat}(hk:k<248) (h:Zab s (8+k)=true):∃ r,Xs s=Zby s k++(8+k)::r:=by
 obtain⟨r,hr⟩:=Z0i s (k+1) (247-k);refine⟨r,?_⟩;rw[Xs,show 248=k+1+(247-k) by omega,hr,Zpg h];simp
theorem Zvg {s:Rm}{i:Nat}(h:s.2.1[i]?.getD 0≠0):Zab s i=false:=by simp[Zab,h]
theorem Zw1 {s:Rm}{i:Nat}(h:s.2.2[i]?.getD 0≠0):Zab s i=false:=by simp[Zab,h]
theorem Zw2 {s:Rm}{i:Nat}(h:s.2.1[i]?.getD 0=0) (h':s.2.2[i]?.getD 0=0):Zab s i=true:=by simp[Zab,h,h']
theorem Z3j (F:Fence) (n:Nat) (hf:F.fn 179) (hro:F.round=none) (hn:1<=n) (l Bs n₀:Nat) (s:Rm) (ad bd:Qaz) (cn cl:Nat) (_cn1:256<=cn) (_cl1:256<=cl) (hBn:Bs<n₀) (hab:ad.block<n₀) (hbb:bd.block<n₀) (J Jx:List Nat->Qax->Prop)
  (hY:∀ (pre:List Nat) (x:Nat) (W1:Qax),J pre W1->pre.length<248->YieldAt F (n-1) Tryz.prog l #[.int .i64 (x:Int)] W1 fun e W' =>
   (e=.returned (.bool true)/\J (pre++[x]) W'/\Qa5 n₀ W1 W')\/(e=.returned (.bool false)/\Jx (pre++[x]) W'))
  (W:Qax) (hb2:W.cell? ⟨Bs,2,none⟩=some (.slice (some ad) 256 cn)) (hb3:W.cell? ⟨Bs,3,none⟩=some (.slice (some bd) 256 cl))
  (hc:∀ j,j<256->W.cell? (ad.add j)=some (.int .u8 ((s.2.1[j]?.getD 0).toNat:Int))/\W.cell? (bd.add j)=some (.int .u8 ((s.2.2[j]?.getD 0).toNat:Int))) (h0:J [] W) :
  CallsIn F n Tryz.prog 179 #[.func (.yield l) #[] #[],.pointer (some ⟨Bs,0,none⟩)] W fun e W'=>(∃ v,e=.returned v) /\
   ((∃ ys,ys=Xs s/\J ys W')\/(∃ pre,(∃ k,k<248/\Zab s (8+k)=true/\pre=Zby s k++[8+k])/\Jx pre W')):=by{
 refine callsIn_of_wp Tryz.func179 rfl hf ?_ hro;simp only[Tryz.ntmps179,Q0,Qp,Q3,Q4,Q5,Q6,Q7,Q8,Q9,Pa,Qn];have HC:=Za hc;clear hc
 gi_wp2
 gi_loopw [3] (fun i wr=>∃ k:Nat,k<=248/\i=.int .i64 ((8+k:Nat):Int)/\J (Zby s k) wr/\Qa5 n₀ W wr) (fun i _=>(256-intOf i).toNat)
 case atStart=>exact⟨0,Nat.zero_le _,by simp,h0,Qb _ _⟩
 case round =>
  obtain⟨k,hk,rfl,hJs,hnx⟩:=hrel;have b2:=(hnx.cell (p:=⟨Bs,2,none⟩) hBn).trans hb2;have b3:=(hnx.cell (p:=⟨Bs,3,none⟩) hBn).trans hb3;by_cases hlt:k<248
  ·have hx:=HC.out (8+k) (by omega)
   have c1:=(hnx.cell (p:=ad.add (8+k)) (by rw[Zh];exact hab)).trans hx.1;have c2:=(hnx.cell (p:=bd.add (8+k)) (by rw[Zh];exact hbb)).trans hx.2;clear hx;have hlen:=Z1x s k;have hi:8+k<256:=by omega
   have hno1:=Za (fun h=>Zu2 (Zvg (s:=s) (i:=8+k) h));have hno2:=Za (fun h=>Zu2 (Zw1 (s:=s) (i:=8+k) h));have hyes:=Za (fun h h'=>Zw2 (s:=s) (i:=8+k) h h');obtain⟨x,hx⟩:∃ x,s.2.1[8+k]?.getD 0=x:=⟨_,rfl⟩
   obtain⟨y,hy⟩:∃ y,s.2.2[8+k]?.getD 0=y:=⟨_,rfl⟩
   rw[hx] at c1 hno1 hyes;rw[hy] at c2 hno2 hyes;replace hx:=Za hx;replace hy:=Za hy;obtain⟨i,hi2⟩:∃ i,8+k=i:=⟨_,rfl⟩
   have hi3:Hid (8+k=i):=Za hi2;rw[hi2] at c1 c2 hi hyes ⊢;clear hi2;by_cases h0:x=0
   ·by_cases h1:y=0
    ·have t0:=Vh (y:=0) (q:=0) rfl h0
     have t1:=Vh (y:=0) (q:=0) rfl h1;have hfr:=Za (hyes.out h0 h1);have hfk:=Za (Zpg (s:=s) (k:=k) (by rw[hi3.out];exact hfr.out));replace h0:=Za h0;replace h1:=Za h1;obtain⟨fn,tmps,assign,body,hyy,hR⟩:=hY _ i wr hJs (by omega)
     try dsimp only at hyy
     gi_wp2
     refine hR.mono ?_;rintro e W3 (⟨rfl,hJ3,hk3⟩ | ⟨rfl,hJx3⟩)
     ·gi_wp2
      go_roundw
      case rel=>exact⟨k+1,by omega,by have:=hi3.out;go_num,by rw[hfk.out,hi3.out];exact hJ3,hnx.trans hk3⟩
      case measure=>simp[intOf];omega
     ·gi_wp2
      refine Qa1 (results_none rfl _ _ _) rfl ?_;exact⟨⟨_,rfl⟩,.inr ⟨_,⟨k,hlt,by rw[hi3.out];exact hfr.out,rfl⟩,by rw[hi3.out];exact hJx3⟩⟩
    ·have t0:=Vh (y:=0) (q:=0) rfl h0
     have t1:=Xv (y:=0) (q:=0) rfl h1;have hfk:=Za (hno2.out h1);replace h0:=Za h0;replace h1:=Za h1
     gi_wp2
     try (refine⟨fun _ h=>(by cases h),?_⟩;gi_wp2)
     go_roundw
     case rel=>exact⟨k+1,by omega,by have:=hi3.out;go_num,by rw[hfk.out];exact hJs,hnx⟩
     case measure=>simp[intOf];omega
   ·have t0:=Xv (y:=0) (q:=0) rfl h0
    have hfk:=Za (hno1.out h0);replace h0:=Za h0
    gi_wp2
    try (refine⟨fun _ h=>(by cases h),?_⟩;gi_wp2)
    go_roundw
    case rel=>exact⟨k+1,by omega,by have:=hi3.out;go_num,by rw[hfk.out];exact hJs,hnx⟩
    case measure=>simp[intOf];omega
  ·obtain rfl:k=248:=by omega
   gi_wp2
   go_end0
   exact⟨⟨_,rfl⟩,.inl ⟨_,rfl,hJs⟩⟩}
theorem Z4g (F:Fence) (n:Nat) (hf:F.fn 158) (hro:F.round=none) (a b c d:Qay) (w:Qax) :
  CallsIn F n Tryz.prog 158 #[.agg #[a,b,c,d]] w fun e w'=>e=.returned (.func (.func 179) #[] #[.pointer (some ⟨w.heap.size,0,none⟩)])/\w'=w.alloc (.cells #[a,b,c,d] 29):=by
 refine callsIn_of_wp Tryz.func158 rfl hf ?_ hro;simp only[Tryz.ntmps158,Q0,Qp,Q3,Q4,Q5,Q6,Q7,Q8,Q9,Pa,Qn]
 gi_wp2
 go_ret;exact⟨rfl,rfl⟩
theorem Zru (F:Fence) (n:Nat) (hf:F.fn 179) (hro:F.round=none) (hn:1<=n) (Bs n₀:Nat) (s:Rm) (ad bd:Qaz) (cn cl:Nat) (cn1:256<=cn) (cl1:256<=cl) (hBn:Bs<n₀) (hab:ad.block<n₀) (hbb:bd.block<n₀)
  (w:Qax) (hn₀:n₀<=w.heap.size) (hb2:w.cell? ⟨Bs,2,none⟩=some (.slice (some ad) 256 cn)) (hb3:w.cell? ⟨Bs,3,none⟩=some (.slice (some bd) 256 cl))
  (hc:∀ j,j<256->w.cell? (ad.add j)=some (.int .u8 ((s.2.1[j]?.getD 0).toNat:Int))/\w.cell? (bd.add j)=some (.int .u8 ((s.2.2[j]?.getD 0).toNat:Int))) :
  SeqStopsK F n Tryz.prog 179 #[.pointer (some ⟨Bs,0,none⟩)] (fun x:Nat=>#[Value.int .i64 (x:Int)]) (Qa5 n₀) (fun ys=>ys=Xs s) (fun pre=>∃ k,k<248/\Zab s (8+k)=true/\pre=Zby s k++[8+k]) 248 w:=fun l J Jx W hW _ _ hY h0 =>
 Z3j F n hf hro hn l Bs n₀ s ad bd cn cl cn1 cl1 hBn hab hbb J Jx hY W ((hW.cell (p:=⟨Bs,2,none⟩) (by show Bs<_;omega)).trans hb2) ((hW.cell (p:=⟨Bs,3,none⟩) (by show Bs<_;omega)).trans hb3)
  (fun j hj=>⟨(hW.cell (p:=ad.add j) (by rw[Zh];omega)).trans (hc j hj).1,(hW.cell (p:=bd.add j) (by rw[Zh];omega)).trans (hc j hj).2⟩) h0
theorem Zpr {w:Qax}{s:Rm}{N L:Option Qaz}{cn cl:Nat}(hm:Xk s=true) (hN:rBy (Old w) w [.slice N s.2.1.length cn] s.2.1) (hL:rBy (Old w) w [.slice L s.2.2.length cl] s.2.2) :
  ∃ ad bd,N=some ad/\L=some bd/\s.2.1.length=256/\s.2.2.length=256/\256<=cn/\256<=cl/\ad.block<w.heap.size/\bd.block<w.heap.size/\(∀ j,j<256->w.cell? (ad.add j)=some (.int .u8 ((s.2.1[j]?.getD 0).toNat:Int))/\w.cell? (bd.add j)=some (.int .u8 ((s.2.2[j]?.getD 0).toNat:Int))):=by
 have hl1:=Yx (Yf hm).2.1;have hl2:=Yx (Yf hm).2.2;obtain⟨N',cn',e1,l1,_,hb1⟩:=Vd (B:=w.heap.size) (fun _ h=>h) hN;obtain⟨L',cl',e2,l2,_,hb2⟩:=Vd (B:=w.heap.size) (fun _ h=>h) hL;cases e1;cases e2;obtain⟨ad,rfl,h1,h2⟩:=hb1 (by omega);obtain⟨bd,rfl,h3,h4⟩:=hb2 (by omega);exact⟨ad,bd,rfl,rfl,hl1,hl2,by omega,by omega,h1,h3,fun j hj=>⟨h2 j (by omega),h4 j (by omega)⟩⟩
theorem Zxq (F:Fence) (n:Nat) (h3:F.fn 125) (h5:F.fn 158) (h7:F.fn 179) (hro:F.round=none) (hn:3<=n)
  (v:Qay) (s:Rm) (hm:Xk s=true) (w:Qax) (h:Sto (Old w) w v s) :
  CallsIn F n Tryz.prog 125 #[v] w fun e W'=>e=.returned (.tuple #[.int .i64 (tkK s:Int),.bool (!(Xs s).isEmpty)])/\Qa5 w.heap.size w W':=by{
 have h1:1<=n:=by omega
 obtain⟨A,ca,B,cb,N,cn,L,cl,rfl,hd,hN,hL⟩:=h.open;obtain⟨ad,bd,rfl,rfl,hl1,hl2,l1,l2,had,hbd,hc⟩:=Zpr hm hN hL;rw[hl1,hl2];clear hd hN hL h;obtain⟨n1,hn1⟩:∃ n1,s.1.1.length=n1:=⟨_,rfl⟩
 obtain⟨n2,hn2⟩:∃ n2,s.1.2.length=n2:=⟨_,rfl⟩
 rw[hn1,hn2];clear hn1 hn2;replace hl1:=Za hl1;replace hl2:=Za hl2;replace hc:=Za hc;refine callsIn_of_wp_marks Tryz.func125 rfl h3 ?_ hro;simp only[Tryz.ntmps125,Q0,Qp,Q3,Q4,Q5,Q6,Q7,Q8,Q9,Pa,Qn]
 gi_wp2_with (gi_at_call 158;refine(Z4g F (n-1) h5 hro _ _ _ _ _).mono ?_;rintro e w' ⟨rfl,rfl⟩)
 obtain⟨W0,hW0,hB0,hs0,b1,b1f,b2,b2f,k2,k3⟩:∃ W0,(((w.alloc (.cells #[.slice A n1 ca,.slice B n2 cb,.slice (some ad) 256 cn,.slice (some bd) 256 cl] 29)).alloc (.cells #[.int .i64 0] 3)).alloc (.cells #[.bool false] 4)).alloc (.cells #[.slice A n1 ca,.slice B n2 cb,.slice (some ad) 256 cn,.slice (some bd) 256 cl] 29)=W0/\Qa5 w.heap.size w W0/\W0.heap.size=w.heap.size+4 /\
   W0.cell? ⟨w.heap.size+1,0,none⟩=some (.int .i64 0)/\W0.frozen? ⟨w.heap.size+1,0,none⟩=false/\W0.cell? ⟨w.heap.size+1+1,0,none⟩=some (.bool false)/\W0.frozen? ⟨w.heap.size+1+1,0,none⟩=false/\W0.cell? ⟨w.heap.size+1+1+1,2,none⟩=some (.slice (some ad) 256 cn)/\W0.cell? ⟨w.heap.size+1+1+1,3,none⟩=some (.slice (some bd) 256 cl) :=
  ⟨_,rfl,((((Qb _ w).alloc (Qa _) _).alloc (by simp) _).alloc (by simp;omega) _).alloc (by simp;omega) _,by simp,by go_simp,by go_simp,by go_simp,by go_simp,by go_simp,by go_simp⟩
 rw[hW0];clear hW0;have hlo:w.heap.size<=W0.heap.size:=hB0.size;refine wpIn_rangeFunc_ownF hro h1 (gf:=179) (lb:=#[.pointer (some ⟨w.heap.size+1+1+1,0,none⟩)]) rfl h7 (enters_of Tryz.func179 (by kernel_rfl) rfl)
  (Zru F (n-1) h7 hro (by omega) (w.heap.size+1+1+1) W0.heap.size s ad bd cn cl l1 l2 (by omega) (by omega) (by omega) W0 (Qa _) k2 k3 (fun j hj=>⟨(hB0.cell (p:=ad.add j) (by rw[Zh];exact had)).trans (hc.out j hj).1,(hB0.cell (p:=bd.add j) (by rw[Zh];exact hbd)).trans (hc.out j hj).2⟩))
  (fun h h'=>h.trans h') (fun W l o o' hl h1 h2 h3=>belowK_b (w:=W0) (Qa _) W l o o' hl h1 h2 h3) (Qb _ _) (fun _=>rfl)
  (fun pre W=>(pre=[]/\W.cell? ⟨w.heap.size+1,0,none⟩=some (.int .i64 0)/\W.frozen? ⟨w.heap.size+1,0,none⟩=false/\W.cell? ⟨w.heap.size+1+1,0,none⟩=some (.bool false)/\W.frozen? ⟨w.heap.size+1+1,0,none⟩=false)/\Qa5 w.heap.size w W)
  (fun cd pre W=>(cd=.ret/\∃ x:Nat,pre=[x]/\W.cell? ⟨w.heap.size+1,0,none⟩=some (.int .i64 (x:Int))/\W.cell? ⟨w.heap.size+1+1,0,none⟩=some (.bool true))/\Qa5 w.heap.size w W)
  (OwnFrom.and (Own.from (fun s A B row hs hg hr=>⟨hs.1,cell_kept hs.2.1 hg hr,(frozen_kept hs.2.1 hg hr).trans hs.2.2.1,cell_kept hs.2.2.2.1 hg hr,(frozen_kept hs.2.2.2.1 hg hr).trans hs.2.2.2.2⟩) _) (ownFrom_below (Qa _) hlo))
  (fun cd=>OwnFrom.and (Own.from (fun s A B row hs hg hr=>by
   obtain⟨e,x,e2,h1,h2⟩:=hs
   exact⟨e,x,e2,cell_kept h1 hg hr,cell_kept h2 hg hr⟩) _) (ownFrom_below (Qa _) hlo))
  ⟨⟨rfl,b1,b1f,b2,b2f⟩,hB0⟩
  (fun x=>{ tmps:=#[.agg #[.slice A n1 ca,.slice B n2 cb,.slice (some ad) 256 cn,.slice (some bd) 256 cl],.pointer (some ⟨w.heap.size,0,none⟩),.pointer (some ⟨w.heap.size+1,0,none⟩),.pointer (some ⟨w.heap.size+1+1,0,none⟩),.int .i64 (x:Int),.agg #[.slice A n1 ca,.slice B n2 cb,.slice (some ad) 256 cn,.slice (some bd) 256 cl],
   .func (.func 179) #[] #[.pointer (some ⟨w.heap.size+1+1+1,0,none⟩)],.int .i64 (x:Int),Qa3],defers:=[] }) ?assign ?body ?done ?stop
 case assign =>
  intro l x W K hK
  gi_wp2
  exact hK
 case body =>
  rintro l pre x W ⟨⟨rfl,c1,f1,c2,f2⟩,hb⟩ _
  gi_wp2
  refine⟨(KeepsOthers.setCell _ _ _).trans (KeepsOthers.setCell _ _ _),⟨rfl,x,rfl,?_,?_⟩,(hb.setCell (p:=⟨w.heap.size+1,0,none⟩) (by simp) _).setCell (p:=⟨w.heap.size+1+1,0,none⟩) (by simp;omega) _⟩
  ·go_simp
  ·go_simp
 case done =>
  rintro D zs W hD rfl ⟨⟨hz,c1,f1,c2,f2⟩,hb⟩ hK;have hk0:Hid (tkK s=0):=Za (by simp[tkK,hz]);have hemp:Hid ((Xs s).isEmpty=true):=Za (by rw[hz];rfl);clear hz;obtain⟨W2,hW2,d1,d2,hb2,hK2⟩:∃ W2,(W.setCell ⟨w.heap.size+1,0,none⟩ (.int .i64 0)).setCell ⟨w.heap.size+1+1,0,none⟩ (.bool false)=W2/\W2.cell? ⟨w.heap.size+1,0,none⟩=some (.int .i64 0)/\W2.cell? ⟨w.heap.size+1+1,0,none⟩=some (.bool false)/\Qa5 w.heap.size w W2/\W2.heap[D]? = some (.deferred (some [])) :=
   ⟨_,rfl,by go_simp,by go_simp,(hb.setCell (p:=⟨w.heap.size+1,0,none⟩) (by simp) _).setCell (p:=⟨w.heap.size+1+1,0,none⟩) (by simp;omega) _,((KeepsOthers.setCell W ⟨w.heap.size+1,0,none⟩ (.int .i64 0)).trans (KeepsOthers.setCell _ ⟨w.heap.size+1+1,0,none⟩ (.bool false))).same D _ hK rfl⟩
  gi_wp2
  try rw[hW2]
  refine⟨by simp,.inl ⟨_,_,rfl,run_takeDeferred hK2,?_⟩⟩;have hro':∀ r,some D=some r->∃ o:Obj,W2.heap[r]? = some o/\o.isCells=false:=fun r e=>by cases e;exact⟨_,hK2,rfl⟩
  have c1':=cell_kept d1 (grownBy_putObj' _ D (.deferred none)) hro';have c2':=cell_kept d2 (grownBy_putObj' _ D (.deferred none)) hro';refine⟨.tuple #[.int .i64 0,.bool false],?_,by rw[hk0.out,hemp.out];rfl,hb2.trans (belowK_b hlo _ D _ _ hD hK2 rfl rfl)⟩;simp[results,Tryz.f125,go_sem,c1',c2']
 case stop =>
  rintro D cd pre W hD ⟨k,hk,hfr,hpk⟩ ⟨⟨rfl,x,rfl,c1,c2⟩,hb⟩ hK;obtain⟨r,hr⟩:=Z3z hk hfr;have e2:Zby s k=[]/\8+k=x:=by
   cases hq:Zby s k with
   | nil=>rw[hq] at hpk;simp at hpk;exact⟨rfl,hpk.symm⟩
   | cons y q=>rw[hq] at hpk;simp at hpk
  rw[e2.1,e2.2] at hr;have hk0:Hid (tkK s=x):=Za (by simp[tkK,hr]);have hemp:Hid ((Xs s).isEmpty=false):=Za (by rw[hr];rfl);clear hr e2 hpk
  gi_wp2
  refine⟨by simp,.inl ⟨_,_,rfl,run_takeDeferred hK,?_⟩⟩;have hro':∀ r,some D=some r->∃ o:Obj,W.heap[r]? = some o/\o.isCells=false:=fun r e=>by cases e;exact⟨_,hK,rfl⟩
  have c1':=cell_kept c1 (grownBy_putObj' _ D (.deferred none)) hro';have c2':=cell_kept c2 (grownBy_putObj' _ D (.deferred none)) hro';refine⟨.tuple #[.int .i64 (x:Int),.bool true],?_,by rw[hk0.out,hemp.out];rfl,hb.trans (belowK_b hlo _ D _ _ hD hK rfl rfl)⟩;simp[results,Tryz.f125,go_sem,c1',c2']}
theorem Zha (v:Qay) (s:Rm) (hm:Xk s=true) (w:Qax) (h:Sto (Old w) w v s) :
  Qa4 Tryz.prog 125 #[v] w fun e W'=>e=.returned (.tuple #[.int .i64 (tkK s:Int),.bool (!(Xs s).isEmpty)])/\Qa5 w.heap.size w W' :=
 callsIn_wide.1 (Zxq Fence.wide 3 trivial trivial trivial rfl (Qa _) v s hm w h)
theorem Zf5 {w:Qax}{v:Qay}{s:Rm}(h:Sto (Old w) w v s):∃ A ca B cb N cn L cl w1,v=.agg #[.slice A s.1.1.length ca,.slice B s.1.2.length cb,.slice N s.2.1.length cn,.slice L s.2.2.length cl] /\
  (w.alloc (.cells #[.slice A s.1.1.length ca,.slice B s.1.2.length cb,.slice N s.2.1.length cn,.slice L s.2.2.length cl] 29)).alloc (.cells #[.slice none 0 0,.slice none 0 0,.slice none 0 0,.slice none 0 0] 29)=w1 /\
  w1.heap[w.heap.size]? = some (.cells #[.slice A s.1.1.length ca,.slice B s.1.2.length cb,.slice N s.2.1.length cn,.slice L s.2.2.length cl] 29 (0,0))/\w1.heap[w.heap.size+1]? = some (.cells #[.slice none 0 0,.slice none 0 0,.slice none 0 0,.slice none 0 0] 29 (0,0))/\w1.heap.size=w.heap.size+2/\Qa5 w.heap.size w w1 /\
  Hid (Sto (Old w1) w1 (.agg #[.slice A s.1.1.length ca,.slice B s.1.2.length cb,.slice N s.2.1.length cn,.slice L s.2.2.length cl]) s):=by
 obtain⟨A,ca,B,cb,N,cn,L,cl,rfl,_,_,_⟩:=h.open;have hb:Qa5 w.heap.size w ((w.alloc (.cells #[.slice A s.1.1.length ca,.slice B s.1.2.length cb,.slice N s.2.1.length cn,.slice L s.2.2.length cl] 29)).alloc (.cells #[.slice none 0 0,.slice none 0 0,.slice none 0 0,.slice none 0 0] 29)):=((Qb _ w).alloc (Qa _) _).alloc (by simp) _;refine⟨A,ca,B,cb,N,cn,L,cl,_,rfl,rfl,Y8 (Qa2 _ _),?_,by simp,hb,Za (h.below hb)⟩;have:=Qa2 (w.alloc (.cells #[.slice A s.1.1.length ca,.slice B s.1.2.length cb,.slice N s.2.1.length cn,.slice L s.2.2.length cl] 29)) (.cells #[.slice none 0 0,.slice none 0 0,.slice none 0 0,.slice none 0 0] 29)
 rwa [Qs] at this
theorem Zvb {s:Rm}{b:List UInt8}(hm:Xk s=true) (hb:b.length=128) (hl:Xs s≠[]):(8<=tkK s/\tkK s<256/\s.2.1[tkK s]?.getD 0=0/\Znt s.1 (tkK s:Int) b=(if 4096<=s.1.2.length then 9 else 0)):=by{
 cases hf:Xs s with
 | nil=>exact absurd hf hl
 | cons k m =>
  obtain⟨h1,h2,h3,h4⟩:=Zxz (s:=s) (i:=k) (by rw[hf];exact Qg);have hk:tkK s=k:=by simp[tkK,hf]
  rw[hk];refine⟨h1,h2,h3,?_⟩;have hmd:=(Yf hm).1;have h5:=(Zfs hmd).2.1;have h6:Vg (k:Int)=true:=Zfw h2;by_cases h7:4096<=s.1.2.length
  ·have h8:s.1.2.length=4096:=by omega
   simp[Znt,hmd,h6,hb,h8]
  ·have h8:s.1.2.length≠4096:=by omega
   simp[Znt,hmd,h6,hb,h8,h7]}
theorem Z10 (v u:Qay) (s:Rm) (b:List UInt8) (w:Qax) (h:Sto (Old w) w v s) (hu:rBy (Old w) w [u] b) :
  Qa4 Tryz.prog 82 #[v,u] w fun e w'=>∃ t,e=.returned (.tuple #[t,.int .i64 (tkN s b),.int .i64 (tkE s b)])/\Sto (New w.heap.size w') w' t (tkV s b)/\Qa5 w.heap.size w w':=by{
 obtain⟨A,ca,B,cb,N,cn,L,cl,w1,rfl,hw1,f1,f2,hsz,hB,H⟩:=Zf5 h;obtain⟨E,ce,rfl,_⟩:=id (Zt hu);have U:=Za (Zf.old hu hB);clear h hu;obtain⟨k0,k1,k2,k3,_,kg⟩:=Ze f1;replace hsz:=Za hsz;rcases Z8m s b with ⟨hm,hE⟩ | ⟨hm,hlb,hE⟩ | ⟨hm,hlb,hfl,hE⟩ | ⟨hm,hlb,hfl,hfw,hE⟩ | ⟨hm,hlb,hfl,hfw,hE⟩
 ·replace hE:=Za hE
  have e1:=Zee hm;replace f2:=Za f2
  go_enter Tryz.func82,Tryz.ntmps82
  go_upto_region 1 with fail
  clear hw1
  go_wp2_with fail
  with_reducible refine(Xf _ s _ H.out).mono ?_
  rintro e w2 ⟨rfl,hb2⟩;rw[e1];have F2:=(hb2.block (w.heap.size+1) (by rw[hsz.out];omega)).trans f2.out;replace hb2:=Za (hB.trans (hb2.mono hB.size));obtain⟨k0,k1,k2,k3,k4,k5⟩:=Ze F2;obtain⟨W9,hW9,g9,gr9,gs9⟩:=Zu (a':=.slice none 0 0) (b':=.slice none 0 0) (c':=.slice none 0 0) (d':=.slice none 0 0) F2;obtain⟨n0,n1,n2,n3,_,_⟩:=Ze g9;have hB9:=Za ((hb2).out.grown gr9 (hb2).out.size (fun q e=>by cases e;omega));replace g9:=Za g9;replace F2:=Za F2;clear gr9 gs9
  go_wp2_with fail
  refine Qa1 (v:=.tuple #[.agg #[.slice none 0 0,.slice none 0 0,.slice none 0 0,.slice none 0 0],.int .i64 0,.int .i64 8]) (by simp[results,Tryz.results82,go_sem,n0,n1,n2,n3]) rfl ?_;obtain⟨hN,hV⟩:=Zvc (s:=s) (b:=b) (by rw[hE.out];decide);rw[hN,hV,hE.out];exact⟨_,rfl,Yv _ _,hB9.out⟩
 ·replace hE:=Za hE
  have e1:=Zcu hm;have e2:((b.length:Int) != 128)=true:=by simp;omega
  replace f2:=Za f2
  go_enter Tryz.func82,Tryz.ntmps82
  go_upto_region 1 with fail
  clear hw1
  go_wp2_with fail
  with_reducible refine(Xf _ s _ H.out).mono ?_
  rintro e w2 ⟨rfl,hb2⟩;rw[e1];have G2:=(hb2.block w.heap.size kg).trans f1;obtain⟨m0,m1,m2,m3,_,mg⟩:=Ze G2;have F2:=(hb2.block (w.heap.size+1) (by rw[hsz.out];omega)).trans f2.out;have H2:=Za (H.out.below hb2);have U2:=Za (Zf.old U.out hb2);have s2:Hid (w.heap.size+2<=w2.heap.size):=Za (by have:=hb2.size;have:=hsz.out;omega);replace hb2:=Za (hB.trans (hb2.mono hB.size));replace G2:=Za G2;replace F2:=Za F2;clear k0 k1 k2 k3 kg f1 hB;replace F2:=F2.out;obtain⟨k0,k1,k2,k3,k4,k5⟩:=Ze F2;obtain⟨W9,hW9,g9,gr9,gs9⟩:=Zu (a':=.slice none 0 0) (b':=.slice none 0 0) (c':=.slice none 0 0) (d':=.slice none 0 0) F2;obtain⟨n0,n1,n2,n3,_,_⟩:=Ze g9;have hB9:=Za ((hb2).out.grown gr9 (hb2).out.size (fun q e=>by cases e;omega));replace g9:=Za g9;replace F2:=Za F2;clear gr9 gs9
  go_wp2_with fail
  refine Qa1 (v:=.tuple #[.agg #[.slice none 0 0,.slice none 0 0,.slice none 0 0,.slice none 0 0],.int .i64 0,.int .i64 3]) (by simp[results,Tryz.results82,go_sem,n0,n1,n2,n3]) rfl ?_;obtain⟨hN,hV⟩:=Zvc (s:=s) (b:=b) (by rw[hE.out];decide);rw[hN,hV,hE.out];exact⟨_,rfl,Yv _ _,hB9.out⟩
 ·replace hE:=Za hE
  have e1:=Zcu hm;have e2:((b.length:Int) != 128)=false:=by rw[hlb];rfl
  have hemp:(!(Xs s).isEmpty)=false:=by rw[hfl];rfl
  replace f2:=Za f2;replace hlb:=Za hlb;replace hfl:=Za hfl
  go_enter Tryz.func82,Tryz.ntmps82
  go_upto_region 1 with fail
  clear hw1
  go_wp2_with fail
  with_reducible refine(Xf _ s _ H.out).mono ?_
  rintro e w2 ⟨rfl,hb2⟩;rw[e1];have G2:=(hb2.block w.heap.size kg).trans f1;obtain⟨m0,m1,m2,m3,_,mg⟩:=Ze G2;have F2:=(hb2.block (w.heap.size+1) (by rw[hsz.out];omega)).trans f2.out;have H2:=Za (H.out.below hb2);have U2:=Za (Zf.old U.out hb2);have s2:Hid (w.heap.size+2<=w2.heap.size):=Za (by have:=hb2.size;have:=hsz.out;omega);replace hb2:=Za (hB.trans (hb2.mono hB.size));replace G2:=Za G2;replace F2:=Za F2;clear k0 k1 k2 k3 kg f1 hB
  go_wp2_with fail
  with_reducible refine(Zha _ s hm _ H2.out).mono ?_
  rintro e w3 ⟨rfl,hb3⟩;rw[hemp];have G3:=(hb3.block w.heap.size mg).trans G2.out;obtain⟨k0,k1,k2,k3,_,kg⟩:=Ze G3;have F3:=(hb3.block (w.heap.size+1) (by have:=s2.out;omega)).trans F2.out;have H3:=Za (H2.out.below hb3);have U3:=Za (Zf.old U2.out hb3);have s3:Hid (w.heap.size+2<=w3.heap.size):=Za (by have:=hb3.size;have:=s2.out;omega);replace hb3:=Za (hb2.out.trans (hb3.mono hb2.out.size));replace G3:=Za G3;clear m0 m1 m2 m3 mg G2 F2 H2 U2 hb2;obtain⟨k0,k1,k2,k3,k4,k5⟩:=Ze F3;obtain⟨W9,hW9,g9,gr9,gs9⟩:=Zu (a':=.slice none 0 0) (b':=.slice none 0 0) (c':=.slice none 0 0) (d':=.slice none 0 0) F3;obtain⟨n0,n1,n2,n3,_,_⟩:=Ze g9;have hB9:=Za ((hb3).out.grown gr9 (hb3).out.size (fun q e=>by cases e;omega));replace g9:=Za g9;replace F3:=Za F3;clear gr9 gs9
  go_wp2_with fail
  refine Qa1 (v:=.tuple #[.agg #[.slice none 0 0,.slice none 0 0,.slice none 0 0,.slice none 0 0],.int .i64 0,.int .i64 9]) (by simp[results,Tryz.results82,go_sem,n0,n1,n2,n3]) rfl ?_;obtain⟨hN,hV⟩:=Zvc (s:=s) (b:=b) (by rw[hE.out];decide);rw[hN,hV,hE.out];exact⟨_,rfl,Yv _ _,hB9.out⟩
 ·replace hE:=Za hE
  have e1:=Zcu hm;have e2:((b.length:Int) != 128)=false:=by rw[hlb];rfl
  have hemp:(!(Xs s).isEmpty)=true:=by cases hq:Xs s with
   | nil=>exact absurd hq hfl
   | cons k m=>rfl
  obtain⟨h8,h256,h0,hwe⟩:=Zvb hm hlb hfl;rw[if_pos hfw] at hwe;obtain⟨k,hk⟩:∃ k,tkK s=k:=⟨_,rfl⟩
  obtain⟨R,hR⟩:∃ R,wrR s.1 (k:Int) b=R:=⟨_,rfl⟩
  rw[hk] at h8 h256 hwe;replace f2:=Za f2;replace hlb:=Za hlb;replace hfl:=Za hfl;replace hk:=Za hk;replace hR:=Za hR;replace hwe:=Za hwe
  go_enter Tryz.func82,Tryz.ntmps82
  go_upto_region 1 with fail
  clear hw1
  go_wp2_with fail
  with_reducible refine(Xf _ s _ H.out).mono ?_
  rintro e w2 ⟨rfl,hb2⟩;rw[e1];have G2:=(hb2.block w.heap.size kg).trans f1;obtain⟨m0,m1,m2,m3,_,mg⟩:=Ze G2;have F2:=(hb2.block (w.heap.size+1) (by rw[hsz.out];omega)).trans f2.out;have H2:=Za (H.out.below hb2);have U2:=Za (Zf.old U.out hb2);have s2:Hid (w.heap.size+2<=w2.heap.size):=Za (by have:=hb2.size;have:=hsz.out;omega);replace hb2:=Za (hB.trans (hb2.mono hB.size));replace G2:=Za G2;replace F2:=Za F2;clear k0 k1 k2 k3 kg f1 hB
  go_wp2_with fail
  with_reducible refine(Zha _ s hm _ H2.out).mono ?_
  rintro e w3 ⟨rfl,hb3⟩;rw[hemp];have G3:=(hb3.block w.heap.size mg).trans G2.out;obtain⟨k0,k1,k2,k3,_,kg⟩:=Ze G3;have F3:=(hb3.block (w.heap.size+1) (by have:=s2.out;omega)).trans F2.out;have H3:=Za (H2.out.below hb3);have U3:=Za (Zf.old U2.out hb3);have s3:Hid (w.heap.size+2<=w3.heap.size):=Za (by have:=hb3.size;have:=s2.out;omega);replace hb3:=Za (hb2.out.trans (hb3.mono hb2.out.size));replace G3:=Za G3;clear m0 m1 m2 m3 mg G2 F2 H2 U2 hb2;rw[hk.out];replace F3:=Za F3
  go_wp2_with fail
  with_reducible refine(Zo6 _ _ s.1 (k:Int) b _ H3.out.parts.1 U3.out).mono ?_
  rintro e w4 ⟨A4,c4,B4,d4,rfl,_,hb4⟩;rw[hwe.out,hR.out];have F4:=(hb4.block (w.heap.size+1) (by have:=s3.out;omega)).trans F3.out;obtain⟨w5,hw5,g5,hs5,hb5⟩:=Yd w4 (.slice A4 R.1.length c4) (.slice B4 R.2.length d4) 26;have F5:=(hb5.block (w.heap.size+1) (by have:=s3.out;have:=hb4.size;omega)).trans F4;have B5:=Za (hb3.out.trans ((hb4.trans (hb5.mono hb4.size)).mono hb3.out.size));replace F4:=Za F4;replace g5:=Za g5;replace hs5:=Za hs5;clear hb4 hb5
  go_upto_region 10 with fail
  clear hw5;obtain⟨k0,k1,k2,k3,k4,k5⟩:=Ze F5;obtain⟨W9,hW9,g9,gr9,gs9⟩:=Zu (a':=.slice none 0 0) (b':=.slice none 0 0) (c':=.slice none 0 0) (d':=.slice none 0 0) F5;obtain⟨n0,n1,n2,n3,_,_⟩:=Ze g9;have hB9:=Za ((B5).out.grown gr9 (B5).out.size (fun q e=>by cases e;omega));replace g9:=Za g9;replace F5:=Za F5;clear gr9 gs9
  go_wp2_with fail
  refine Qa1 (v:=.tuple #[.agg #[.slice none 0 0,.slice none 0 0,.slice none 0 0,.slice none 0 0],.int .i64 0,.int .i64 9]) (by simp[results,Tryz.results82,go_sem,n0,n1,n2,n3]) rfl ?_;obtain⟨hN,hV⟩:=Zvc (s:=s) (b:=b) (by rw[hE.out];decide);rw[hN,hV,hE.out];exact⟨_,rfl,Yv _ _,hB9.out⟩
 ·replace hE:=Za hE
  have e1:=Zcu hm;have e2:((b.length:Int) != 128)=false:=by rw[hlb];rfl
  have hemp:(!(Xs s).isEmpty)=true:=by cases hq:Xs s with
   | nil=>exact absurd hq hfl
   | cons k m=>rfl
  obtain⟨h8,h256,h0,hwe⟩:=Zvb hm hlb hfl;rw[if_neg (by omega)] at hwe
  have hV:Hid (tkV s b=(wrR s.1 (tkK s:Int) b,s.2.1.set (tkK s) 1,s.2.2)):=Za (by
   rw[(Zz2 hE.out).2.2.2.2.2.2.2.2.2,Z60 hwe])
  have hT:Hid (tkN s b=(tkK s:Int)):=Za (Zz2 hE.out).2.2.2.2.2.2.2.2.1;obtain⟨k,hk⟩:∃ k,tkK s=k:=⟨_,rfl⟩
  obtain⟨R,hR⟩:∃ R,wrR s.1 (k:Int) b=R:=⟨_,rfl⟩
  rw[hk] at h8 h256 hwe hV hT h0;rw[hR] at hV;obtain⟨hu0,hu1⟩:=Yb5 (Yf hm).2.1 h8 h256 (by rw[h0];decide);rw[h0,show (0:UInt8)+1=1 from rfl] at hu1;obtain⟨T,hT2⟩:∃ T,s.2.1.set k 1=T:=⟨_,rfl⟩
  rw[hT2] at hu1 hV;have hll:=Yx (Yf hm).2.2;replace f2:=Za f2;replace hlb:=Za hlb;replace hfl:=Za hfl;replace hk:=Za hk;replace hR:=Za hR;replace hwe:=Za hwe;replace hu0:=Za hu0;replace hu1:=Za hu1;replace hT2:=Za hT2;replace hll:=Za hll;replace h0:=Za h0
  go_enter Tryz.func82,Tryz.ntmps82
  go_upto_region 1 with fail
  clear hw1
  go_wp2_with fail
  with_reducible refine(Xf _ s _ H.out).mono ?_
  rintro e w2 ⟨rfl,hb2⟩;rw[e1];have G2:=(hb2.block w.heap.size kg).trans f1;obtain⟨m0,m1,m2,m3,_,mg⟩:=Ze G2;have F2:=(hb2.block (w.heap.size+1) (by rw[hsz.out];omega)).trans f2.out;have H2:=Za (H.out.below hb2);have U2:=Za (Zf.old U.out hb2);have s2:Hid (w.heap.size+2<=w2.heap.size):=Za (by have:=hb2.size;have:=hsz.out;omega);replace hb2:=Za (hB.trans (hb2.mono hB.size));replace G2:=Za G2;replace F2:=Za F2;clear k0 k1 k2 k3 kg f1 hB
  go_wp2_with fail
  with_reducible refine(Zha _ s hm _ H2.out).mono ?_
  rintro e w3 ⟨rfl,hb3⟩;rw[hemp];have G3:=(hb3.block w.heap.size mg).trans G2.out;obtain⟨k0,k1,k2,k3,_,kg⟩:=Ze G3;have F3:=(hb3.block (w.heap.size+1) (by have:=s2.out;omega)).trans F2.out;have H3:=Za (H2.out.below hb3);have U3:=Za (Zf.old U2.out hb3);have s3:Hid (w.heap.size+2<=w3.heap.size):=Za (by have:=hb3.size;have:=s2.out;omega);replace hb3:=Za (hb2.out.trans (hb3.mono hb2.out.size));replace G3:=Za G3;clear m0 m1 m2 m3 mg G2 F2 H2 U2 hb2;rw[hk.out];replace F3:=Za F3
  go_wp2_with fail
  with_reducible refine(Zo6 _ _ s.1 (k:Int) b _ H3.out.parts.1 U3.out).mono ?_
  rintro e w4 ⟨A4,c4,B4,d4,rfl,hd4,hb4⟩;rw[hwe.out,hR.out];rw[hR.out] at hd4;have F4:=(hb4.block (w.heap.size+1) (by have:=s3.out;omega)).trans F3.out;have G4:=(hb4.block w.heap.size kg).trans G3.out;obtain⟨w5,hw5,g5,hs5,hb5⟩:=Yd w4 (.slice A4 R.1.length c4) (.slice B4 R.2.length d4) 26;have F5:=Za ((hb5.block (w.heap.size+1) (by have:=s3.out;have:=hb4.size;omega)).trans F4);have G5:=(hb5.block w.heap.size (by have:=s3.out;have:=hb4.size;omega)).trans G4;have H5:=Za ((H3.out.below hb4).below hb5);have D5:=Za (hd4.new (Qa _) hb5);have s5:Hid (w4.heap.size+1=w5.heap.size/\w.heap.size+2<=w4.heap.size):=Za ⟨by omega,by have:=s3.out;have:=hb4.size;omega⟩;have B5:=Za (hb3.out.trans ((hb4.trans (hb5.mono hb4.size)).mono hb3.out.size));obtain⟨m0,m1,m2,m3,_,mg⟩:=Ze G5;replace F4:=Za F4;replace g5:=Za g5;replace hs5:=Za hs5;replace G5:=Za G5;clear hb4 hb5 G4 k0 k1 k2 k3 hd4 H3 U3 G3
  go_upto_region 10 with fail
  clear hw5
  go_wp2_with fail
  with_reducible refine(Z0x _ s.2.1 (k:Int) _ H5.out.parts.2.1).mono ?_
  rintro e w6 ⟨E6,c6,rfl,h6,hb6⟩;rw[hu0.out,hu1.out];rw[hu1.out] at h6;have F6:=Za ((hb6.block (w.heap.size+1) (by have:=s5.out;omega)).trans F5.out);have G6:=(hb6.block w.heap.size mg).trans G5.out;have P6:=(hb6.block w4.heap.size (by have:=s5.out;omega)).trans g5.out;have H6:=Za (H5.out.below hb6);have D6:=Za (D5.out.new (Qa _) hb6);have T6:=Za h6;have B6:=Za (B5.out.trans (hb6.mono B5.out.size));have s6:Hid (w.heap.size+2<=w6.heap.size):=Za (by have:=s5.out;have:=hb6.size;omega);clear hb6 h6 m0 m1 m2 m3;obtain⟨m0,m1,m2,m3,_,mg⟩:=Ze G6;obtain⟨p0,p1,_,pg⟩:=Zg P6;replace G6:=Za G6;replace P6:=Za P6;have hcl:Hid (∀ W,Qa5 w6.heap.size w6 W->Qa4 Tryz.prog 80 #[.slice L s.2.2.length cl] W fun e W'=>∃ X xc,e=.returned (.slice X s.2.2.length xc)/\rBy (New w6.heap.size W') W' [.slice X s.2.2.length xc] s.2.2/\Qa5 w6.heap.size w6 W'):=Za fun W hC=>by
   refine(Zaq _ s.2.2 W (by rw[hll.out];omega) (Zf.old H6.out.parts.2.2 hC)).mono ?_;rintro e W' ⟨u,rfl,hx,hb⟩;obtain⟨X,xc,rfl,_⟩:=id (Zt hx);exact⟨X,xc,rfl,Zf.mono hx hC.size,hC.trans (hb.mono hC.size)⟩
  go_upto_region 15 with fail
  have hdr:Qa5 w6.heap.size w6 w6.drew:=(Qb _ _).drew
  go_region_with (first
   | (go_at_call 80;refine(hcl.out _ hdr).mono ?_;rintro e' wm ⟨X,xc,rfl,hx,hw⟩;have bW:=(hw.block (w.heap.size+1) (by have:=s6.out;omega)).trans F6.out;obtain⟨y0,y1,_,_⟩:=Zg ((hw.block w4.heap.size pg).trans P6.out);obtain⟨c0,c1,c2,c3,c4',_⟩:=Ze bW))
  all_goals
   (go_wp2_with fail
    obtain⟨W9,hW9,g9,gr9,gs9⟩:=Zu (a':=.slice A4 R.1.length c4) (b':=.slice B4 R.2.length d4) (c':=.slice E6 T.length c6) (d':=.slice X s.2.2.length xc) bW;obtain⟨n0,n1,n2,n3,_,_⟩:=Ze g9;rw[hW9];have BW:=B6.out.trans (hw.mono B6.out.size);have l3:=hb3.out.size;have l5:=B5.out.size;have l6:=B6.out.size;have r3:=s3.out;have r5:=s5.out;have r6:=s6.out;refine Qa1 (v:=.tuple #[.agg #[.slice A4 R.1.length c4,.slice B4 R.2.length d4,.slice E6 T.length c6,.slice X s.2.2.length xc],.int .i64 (k:Int),.int .i64 0]) (by simp[results,Tryz.results82,go_sem,n0,n1,n2,n3]) rfl ?_;rw[hT.out,hV.out,hE.out]
    exact⟨_,rfl,Sto.mk (((D6.out.new (Qa _) hw).grown gr9 (fun q e=>by cases e;omega)).new l3 (Qb _ _)) (Zf.new (Zf.grown (Zf.new T6.out (Qa _) hw) gr9 (fun q e=>by cases e;omega)) l5 (Qb _ _)) (Zf.new (Zf.grown hx gr9 (fun q e=>by cases e;omega)) l6 (Qb _ _)),BW.grown gr9 BW.size (fun q e=>by cases e;omega)⟩)}
theorem Z1q {s:Rm}{n:Int}(h:asE s n≠0):shE s n=asE s n:=by simp[shE,h]
theorem Yby {s:Rm}{n:Int}(h:asE s n=0):Xk s=true/\upE s.2.1 n=shE s n/\(shE s n=0->shV s n=(s.1,upV s.2.1 n,s.2.2)):=by{
 rcases Zjj s n with ⟨_,e⟩ | ⟨_,_,e⟩ | ⟨k,_,_,_,_,_,e⟩ | ⟨k,hm,rfl,h8,h256,hx,e⟩
 ·rw[e] at h;cases h
 ·rw[e] at h;cases h
 ·rw[e] at h;cases h
 ·have hi:=Zqd h8 h256
  have hmt:=(Yf hm).2.1;have h1:upE s.2.1 (k:Int)=shE s (k:Int):=by simp[upE,Zds,shE,e,hmt,hi]
  exact⟨hm,h1,fun h0=>by rw[shV,if_pos h0,upV,if_pos (by rw[h1];exact h0)]⟩}
theorem Zv7 (v:Qay) (s:Rm) (n:Int) (w:Qax) (h:Sto (Old w) w v s) :
  Qa4 Tryz.prog 53 #[v,.int .i64 n] w fun e w'=>∃ t,e=.returned (.tuple #[t,.int .i64 (shE s n)])/\Sto (New w.heap.size w') w' t (shV s n)/\Qa5 w.heap.size w w':=by{
 obtain⟨A,ca,B,cb,N,cn,L,cl,w1,rfl,hw1,f1,f2,hsz,hB,H⟩:=Zf5 h;clear h;obtain⟨k0,k1,k2,k3,_,kg⟩:=Ze f1;replace hsz:=Za hsz;replace f2:=Za f2;obtain⟨q,hq⟩:∃ q,shE s n=q:=⟨_,rfl⟩
 by_cases ha:asE s n=0
 ·obtain⟨hm,hup,hsv⟩:=Yby ha
  rw[hq] at hup hsv;have hll:=Za (Yx (Yf hm).2.2);have hsm:=Za (Zdv (Yf hm).1);obtain⟨T,hT⟩:∃ T,upV s.2.1 n=T:=⟨_,rfl⟩
  rw[hT] at hsv;have hq0:q≠0->shV s n=Zi:=fun h=>Yaa (by rw[hq];exact h)
  have hq9:=hq;replace hq:=Za hq9;replace ha:=Za ha;replace hup:=Za hup;replace hT:=Za hT;replace hsv:=Za hsv;clear hq9
  go_enter Tryz.func53,Tryz.ntmps53
  go_upto_region 1 with fail
  clear hw1
  go_wp2_with fail
  with_reducible refine(Uc _ s n _ H.out).mono ?_
  rintro e w2 ⟨rfl,hb2⟩;rw[ha.out];have G2:=(hb2.block w.heap.size kg).trans f1;obtain⟨m0,m1,m2,m3,_,mg⟩:=Ze G2;have F2:=Za ((hb2.block (w.heap.size+1) (by rw[hsz.out];omega)).trans f2.out);have H2:=Za (H.out.below hb2);have s2:Hid (w.heap.size+2<=w2.heap.size):=Za (by have:=hb2.size;have:=hsz.out;omega);replace hb2:=Za (hB.trans (hb2.mono hB.size));replace G2:=Za G2;clear k0 k1 k2 k3 kg f1 hB
  go_wp2_with fail
  with_reducible refine(Z0x _ s.2.1 n _ H2.out.parts.2.1).mono ?_
  rintro e w3 ⟨E3,c3,rfl,h3,hb3⟩;rw[hup.out,hT.out];rw[hT.out] at h3;have F3:=Za ((hb3.block (w.heap.size+1) (by have:=s2.out;omega)).trans F2.out);have G3:=(hb3.block w.heap.size mg).trans G2.out;have H3:=Za (H2.out.below hb3);have T3:=Za h3;have B3:=Za (hb2.out.trans (hb3.mono hb2.out.size));have s3:Hid (w.heap.size+2<=w3.heap.size):=Za (by have:=hb3.size;have:=s2.out;omega);clear hb3 h3 m0 m1 m2 m3 mg F2;obtain⟨m0,m1,m2,m3,_,mg⟩:=Ze G3;replace G3:=Za G3;by_cases hqz:q=0
  ·subst hqz
   have hV:=Za (hsv.out rfl);clear hq0 hsv
   go_upto_region 7 with fail
   refine Ub (by kernel_rfl) 8 (fun W=>Qa5 w3.heap.size w3 W) (fun i=>match i with
     | 2=>some (fun v W=>Dsk (New w3.heap.size W) W v s.1)
     | 6=>some (fun v W=>rBy (New w3.heap.size W) W [v] s.2.2)
     | 7=>some (fun v W=>∃ P p Q r X x,v=.agg #[.slice P s.1.1.length p,.slice Q s.1.2.length r,.slice E3 T.length c3,.slice X s.2.2.length x]/\Dsk (New w3.heap.size W) W (.agg #[.slice P s.1.1.length p,.slice Q s.1.2.length r]) s.1/\rBy (New w3.heap.size W) W [.slice X s.2.2.length x] s.2.2)
     | _=>none) (fun _=>none) (by decide) (by kernel_rfl) (by kernel_rfl) (Qb _ _).drew (fun w w' h hb=>h.trans (hb.mono h.size)) ?tst ?_
   case tst =>
    intro j φ x W W' hp hx hb
    match j,hp with
    | 2,hp=>cases hp;exact hx.new (Qa _) hb
    | 6,hp=>cases hp;exact Zf.new hx (Qa _) hb
    | 7,hp =>
     cases hp;obtain⟨P,p,Q,r,X,x,e1,e2,e3⟩:=hx;exact⟨P,p,Q,r,X,x,e1,e2.new (Qa _) hb,Zf.new e3 (Qa _) hb⟩
   simp only[P9,Qaa,Qab,Qac]
   repeat (first
    | (refine wpAs_skip rfl ?_;simp only[Qh,Zb,Zc,Zd])
    | (refine wpAs_pure (v := ?_) rfl rfl ?_ ?_;rotate_left;(intro W hC hE;clear hE;(have z0:=(hC.cell (p:=⟨w.heap.size,0,none⟩) mg).trans m0;have z1:=(hC.cell (p:=⟨w.heap.size,1,none⟩) mg).trans m1);clear hC;go_simp;first | done | with_reducible rfl);simp only[Qh,Zb,Zc,Zd]))
   refine wpAs_act rfl rfl ?_ ?_
   ·intro W hC hE
    clear hE;refine does_enter (f:=90) (args:=#[.agg #[.slice A s.1.1.length ca,.slice B s.1.2.length cb]]) ?_ ?_
    ·go_simp
    ·refine(Zuh _ s.1 W hsm.out (H3.out.below hC).parts.1).mono ?_
     rintro e W' ⟨u,rfl,hu,hb⟩;exact⟨_,rfl,hu.new hC.size (Qb _ _),hb⟩
   simp only[Qh,Zb,Zc,Zd,envAdd];intro x29
   repeat (first
    | (refine wpAs_skip rfl ?_;simp only[Qh,Zb,Zc,Zd])
    | (refine wpAs_pure (v := ?_) rfl rfl ?_ ?_;rotate_left;(intro W hC hE;clear hE;(have z3:=(hC.cell (p:=⟨w.heap.size,3,none⟩) mg).trans m3);clear hC;go_simp;first | done | with_reducible rfl);simp only[Qh,Zb,Zc,Zd]))
   refine wpAs_act rfl rfl ?_ ?_
   ·intro W hC hE
    clear hE;refine does_enter (f:=80) (args:=#[.slice L s.2.2.length cl]) ?_ ?_
    ·go_simp
    ·refine(Zaq _ s.2.2 W (by rw[hll.out];omega) (H3.out.below hC).parts.2.2).mono ?_
     rintro e W' ⟨u,rfl,ho,hb⟩;exact⟨_,rfl,Zf.new ho hC.size (Qb _ _),hb⟩
   simp only[Qh,Zb,Zc,Zd,envAdd];intro x33;refine wpAs_act rfl rfl ?_ ?_
   ·intro W hC hE
    have h33:=hE.1 rfl;have h29:=hE.2.1 rfl;obtain⟨X,x,rfl,_⟩:=Zt h33;obtain⟨P,p,Q,r,rfl,_⟩:=h29.open;have h33':=Za h33;have h29':=Za h29;clear hE hC h33 h29
    go_simp
    exact⟨⟨P,p,Q,r,X,x,rfl,h29'.out,h33'.out⟩,Qb _ _⟩
   simp only[Qh,Zb,Zc,Zd,envAdd];intro x34;refine wpAs_end fun W hC hE=> ?_
   obtain⟨⟨P,p,Q,r,X,x,rfl,hd,hx⟩,_⟩:=hE;have bW:=(hC.block (w.heap.size+1) (by have:=s3.out;omega)).trans F3.out;obtain⟨c0,c1,c2,c3',c4,c5⟩:=Ze bW;obtain⟨W9,hW9,g9,gr9,gs9⟩:=Zu (a':=.slice P s.1.1.length p) (b':=.slice Q s.1.2.length r) (c':=.slice E3 T.length c3) (d':=.slice X s.2.2.length x) bW;obtain⟨n0,n1,n2,n3,_,_⟩:=Ze g9;have BW:=B3.out.trans (hC.mono B3.out.size);have r3:=s3.out;have l2:=hb2.out.size;have l3:=B3.out.size
   have hfin:=Za (show Sto (New w.heap.size W9) W9 (.agg #[.slice P s.1.1.length p,.slice Q s.1.2.length r,.slice E3 T.length c3,.slice X s.2.2.length x]) (shV s n) from by
    rw[hV.out]
    exact Sto.mk ((hd.grown gr9 (fun q e=>by cases e;omega)).new l3 (Qb _ _)) (Zf.new (Zf.grown (Zf.new T3.out (Qa _) hC) gr9 (fun q e=>by cases e;have:=s2.out;omega)) l2 (Qb _ _)) (Zf.new (Zf.grown hx gr9 (fun q e=>by cases e;omega)) l3 (Qb _ _)))
   have hB9:=Za (BW.grown gr9 BW.size (fun q e=>by cases e;omega));clear hd hx gr9 gs9 BW r3 l2 l3;replace bW:=Za bW;replace g9:=Za g9
   go_wp2_with fail
   refine Qa1 (v:=.tuple #[.agg #[.slice P s.1.1.length p,.slice Q s.1.2.length r,.slice E3 T.length c3,.slice X s.2.2.length x],.int .i64 0]) (by simp[results,Tryz.results53,go_sem,n0,n1,n2,n3]) rfl ?_;rw[hq.out];exact⟨_,rfl,hfin.out,hB9.out⟩
  ·have hV:=Za (hq0 hqz)
   have hq1:(q != 0)=true:=by simpa using hqz
   clear hq0 hqz hsv;replace F3:=F3.out;obtain⟨k0,k1,k2,k3,k4,k5⟩:=Ze F3;obtain⟨W9,hW9,g9,gr9,gs9⟩:=Zu (a':=.slice none 0 0) (b':=.slice none 0 0) (c':=.slice none 0 0) (d':=.slice none 0 0) F3;obtain⟨n0,n1,n2,n3,_,_⟩:=Ze g9;have hB9:=Za ((B3).out.grown gr9 (B3).out.size (fun q e=>by cases e;omega));replace g9:=Za g9;replace F3:=Za F3;clear gr9 gs9
   go_wp2_with fail
   refine Qa1 (v:=.tuple #[.agg #[.slice none 0 0,.slice none 0 0,.slice none 0 0,.slice none 0 0],.int .i64 q]) (by simp[results,Tryz.results53,go_sem,n0,n1,n2,n3]) rfl ?_;rw[hV.out,hq.out];exact⟨_,rfl,Yv _ _,hB9.out⟩
 ·have hV:=Za (Yaa (s:=s) (n:=n) (by rw[Z1q ha];exact ha))
  rw[Z1q ha] at hq;have hq1:(q != 0)=true:=by rw[<- hq];simpa using ha
  have hq2:Hid (asE s n=q):=Za hq;replace hq:Hid (shE s n=q):=Za (by rw[Z1q ha];exact hq);clear ha
  go_enter Tryz.func53,Tryz.ntmps53
  go_upto_region 1 with fail
  clear hw1
  go_wp2_with fail
  with_reducible refine(Uc _ s n _ H.out).mono ?_
  rintro e w2 ⟨rfl,hb2⟩;rw[hq2.out];have F2:=(hb2.block (w.heap.size+1) (by rw[hsz.out];omega)).trans f2.out;replace hb2:=Za (hB.trans (hb2.mono hB.size));obtain⟨k0,k1,k2,k3,k4,k5⟩:=Ze F2;obtain⟨W9,hW9,g9,gr9,gs9⟩:=Zu (a':=.slice none 0 0) (b':=.slice none 0 0) (c':=.slice none 0 0) (d':=.slice none 0 0) F2;obtain⟨n0,n1,n2,n3,_,_⟩:=Ze g9;have hB9:=Za ((hb2).out.grown gr9 (hb2).out.size (fun q e=>by cases e;omega));replace g9:=Za g9;replace F2:=Za F2;clear gr9 gs9
  go_wp2_with fail
  refine Qa1 (v:=.tuple #[.agg #[.slice none 0 0,.slice none 0 0,.slice none 0 0,.slice none 0 0],.int .i64 q]) (by simp[results,Tryz.results53,go_sem,n0,n1,n2,n3]) rfl ?_;rw[hV.out,hq.out];exact⟨_,rfl,Yv _ _,hB9.out⟩}
def rmE (s:Rm) (n:Int):Int:=if asE s n=0 then reN (Zz s.1 n.toNat) else asE s n
def rmV (s:Rm) (n:Int):Nd:=if asE s n=0 then reV (Zz s.1 n.toNat) else Uf
theorem Z0l {s:Rm}{n:Int}(h:asE s n≠0):rmE s n=asE s n/\rmV s n=Uf:=⟨by rw[rmE,if_neg h],by rw[rmV,if_neg h]⟩
theorem Y4 {s:Rm}{n:Int}(h:asE s n=0):∃ k:Nat,n=k/\Xk s=true/\8<=k/\k<256/\Us s.1 n=0/\rdX s.1 n=Zz s.1 k/\rmE s n=reN (Zz s.1 k)/\rmV s n=reV (Zz s.1 k)/\s.2.1[k]?.getD 0≠0:=by{
 rcases Zjj s n with ⟨_,e⟩ | ⟨_,_,e⟩ | ⟨k,_,_,_,_,_,e⟩ | ⟨k,hm,rfl,h8,h256,hx,e⟩
 ·rw[e] at h;cases h
 ·rw[e] at h;cases h
 ·rw[e] at h;cases h
 ·have hmd:=(Yf hm).1
  have ht:=Zfw h256;exact⟨k,rfl,hm,h8,h256,by simp[Us,hmd,ht],by simp[rdX,Us,hmd,ht],by rw[rmE,if_pos h];rfl,by rw[rmV,if_pos h];rfl,hx⟩}
theorem Zcf (v:Qay) (s:Rm) (n:Int) (w:Qax) (h:Sto (Old w) w v s) :
  Qa4 Tryz.prog 36 #[v,.int .i64 n] w fun e w'=>∃ u,e=.returned (.tuple #[u,.int .i64 (rmE s n)])/\Zkg w.heap.size w' u (rmV s n)/\Qa5 w.heap.size w w':=by{
 obtain⟨A,ca,B,cb,N,cn,L,cl,rfl,_,_,_⟩:=h.open;obtain⟨w1,hw1,f1,f2,hsz,hB⟩:∃ w1,(w.alloc (.cells #[.slice A s.1.1.length ca,.slice B s.1.2.length cb,.slice N s.2.1.length cn,.slice L s.2.2.length cl] 29)).alloc (.cells #[.int .i64 0,.slice none 0 0] 81)=w1 /\
   w1.heap[w.heap.size]? = some (.cells #[.slice A s.1.1.length ca,.slice B s.1.2.length cb,.slice N s.2.1.length cn,.slice L s.2.2.length cl] 29 (0,0))/\w1.heap[w.heap.size+1]? = some (.cells #[.int .i64 0,.slice none 0 0] 81 (0,0))/\w1.heap.size=w.heap.size+2/\Qa5 w.heap.size w w1:=by
  refine⟨_,rfl,Y8 (Qa2 _ _),?_,by simp,((Qb _ w).alloc (Qa _) _).alloc (by simp) _⟩;have:=Qa2 (w.alloc (.cells #[.slice A s.1.1.length ca,.slice B s.1.2.length cb,.slice N s.2.1.length cn,.slice L s.2.2.length cl] 29)) (.cells #[.int .i64 0,.slice none 0 0] 81)
  rwa [Qs] at this
 have H:=Za (h.below hB);clear h;obtain⟨k0,k1,k2,k3,_,kg⟩:=Ze f1;replace hsz:=Za hsz;replace f2:=Za f2;obtain⟨q,hq⟩:∃ q,rmE s n=q:=⟨_,rfl⟩
 by_cases ha:asE s n=0
 ·obtain⟨k,rfl,hm,h8,h256,hck,hrd,hE,hV,-⟩:=Y4 ha
  obtain⟨b,hb⟩:∃ b,Zz s.1 k=b:=⟨_,rfl⟩
  rw[hb] at hrd hE hV;rw[hE] at hq;replace hE:Hid (rmE s (k:Int)=q):=Za (by rw[hE,hq]);replace hq:=Za hq;replace ha:=Za ha;replace hck:=Za hck;replace hrd:=Za hrd;replace hV:=Za hV;replace hb:=Za hb
  go_enter Tryz.func36,Tryz.ntmps36
  go_upto_region 1 with fail
  clear hw1
  go_wp2_with fail
  with_reducible refine(Uc _ s (k:Int) _ H.out).mono ?_
  rintro e w2 ⟨rfl,hb2⟩;rw[ha.out];have G2:=(hb2.block w.heap.size kg).trans f1;obtain⟨m0,m1,m2,m3,_,mg⟩:=Ze G2;have F2:=Za ((hb2.block (w.heap.size+1) (by rw[hsz.out];omega)).trans f2.out);have H2:=Za (H.out.below hb2);have s2:Hid (w.heap.size+2<=w2.heap.size):=Za (by have:=hb2.size;have:=hsz.out;omega);replace hb2:=Za (hB.trans (hb2.mono hB.size));clear k0 k1 k2 k3 kg f1 hB G2
  go_wp2_with fail
  with_reducible refine(Z4i _ s.1 (k:Int) _ H2.out.parts.1).mono ?_
  rintro e w3 ⟨u3,rfl,h3,hb3⟩;rw[hck.out];rw[hrd.out] at h3;obtain⟨R,rc,rfl,_⟩:=id (Zt h3);have F3:=Za ((hb3.block (w.heap.size+1) (by have:=s2.out;omega)).trans F2.out);have B3:=Za (hb2.out.trans (hb3.mono hb2.out.size));have s3:Hid (w.heap.size+2<=w3.heap.size):=Za (by have:=hb3.size;have:=s2.out;omega);have H3:=Za (Zf.drop h3);clear hb3 h3 m0 m1 m2 m3 mg F2
  go_wp2_with fail
  with_reducible refine(Zp6 _ b _ H3.out).mono ?_
  rintro e w4 ⟨u4,rfl,h4,hb4⟩;rw[hq.out];obtain⟨P,pc,rfl,_⟩:=id h4;have F4:=(hb4.block (w.heap.size+1) (by have:=s3.out;omega)).trans F3.out;obtain⟨m0,m1,m2,m3⟩:=Zg F4;obtain⟨W9,hW9,g9,gr9,gs9⟩:=Xu (u:=.int .i64 (reV b).1) (v:=.slice P (reV b).2.length pc) F4;obtain⟨n0,n1,_,_⟩:=Zg g9;have r3:=s3.out;have l3:=B3.out.size
  have hfin:=Za (show Zkg w.heap.size W9 (.agg #[.int .i64 (reV b).1,.slice P (reV b).2.length pc]) (rmV s (k:Int)) from by
   rw[hV.out]
   exact(h4.grown gr9 (fun q e=>by cases e;omega)).new l3 (Qb _ _))
  have hB9:=Za ((B3.out.trans (hb4.mono B3.out.size)).grown gr9 (Qu l3 hb4.size) (fun q e=>by cases e;omega));replace F4:=Za F4;replace g9:=Za g9;clear gr9 gs9 h4 hb4 r3 l3
  go_wp2_with fail
  refine Qa1 (v:=.tuple #[.agg #[.int .i64 (reV b).1,.slice P (reV b).2.length pc],.int .i64 q]) (by simp[results,Tryz.results36,go_sem,n0,n1]) rfl ?_;rw[hE.out];exact⟨_,rfl,hfin.out,hB9.out⟩
 ·obtain⟨hE,hV⟩:=Z0l ha
  rw[hE] at hq;have hq1:(q != 0)=true:=by rw[<- hq];simpa using ha
  have hq2:Hid (asE s n=q):=Za hq;replace hq:Hid (rmE s n=q):=Za (by rw[hE];exact hq);replace hV:=Za hV;clear ha hE
  go_enter Tryz.func36,Tryz.ntmps36
  go_upto_region 1 with fail
  clear hw1
  go_wp2_with fail
  with_reducible refine(Uc _ s n _ H.out).mono ?_
  rintro e w2 ⟨rfl,hb2⟩;rw[hq2.out];have F2:=(hb2.block (w.heap.size+1) (by rw[hsz.out];omega)).trans f2.out;replace hb2:=Za (hB.trans (hb2.mono hB.size));obtain⟨m0,m1,m2,m3⟩:=Zg F2;obtain⟨W9,hW9,g9,gr9,gs9⟩:=Xu (u:=.int .i64 0) (v:=.slice none 0 0) F2;obtain⟨n0,n1,_,_⟩:=Zg g9;have hB9:=Za ((hb2).out.grown gr9 (hb2).out.size (fun q e=>by cases e;omega));replace g9:=Za g9;replace F2:=Za F2;clear gr9 gs9
  go_wp2_with fail
  refine Qa1 (v:=.tuple #[.agg #[.int .i64 0,.slice none 0 0],.int .i64 q]) (by simp[results,Tryz.results36,go_sem,n0,n1]) rfl ?_;rw[hV.out,hq.out];exact⟨_,rfl,Zkg.zero _ _,hB9.out⟩}
theorem Zqc (v:Qay) (s:Rm) (n:Int) (w:Qax) (h:Sto (Old w) w v s) :
  Qa4 Tryz.prog 36 #[v,.int .i64 n] w fun e w'=>∃ u,e=.returned (.tuple #[u,.int .i64 (rmE s n)])/\Nod (New w.heap.size w') w' u (rmV s n)/\Qa5 w.heap.size w w' :=
 (Zcf v s n w h).mono fun _ _ ⟨u,e1,h1,h2⟩=>⟨u,e1,h1.nod,h2⟩
def Zbm:Ky:=(0,0,0)
def Yt (s:Rm) (l:List It):Bool:=l.all fun x=>decide (x.2.1=0)||decide (s.2.1[x.2.1.toNat]?.getD 0≠0)
def Zae (f:Int->Ky->Ky->Bool->Bool):List It->Ky->Bool->Bool
 | [],_,_=>true
 | [x],tb,ends=>f x.2.1 x.1 tb ends
 | x::y::r,tb,ends=>f x.2.1 x.1 y.1 true&&Zae f (y::r) tb ends
def Zev (l:List It) (k tb:Ky) (ends:Bool):Bool:=(match l[0]? with | none=>false | some x=>decide (x.1=k))&&(!ends||(match l.getLast? with | none=>false | some y=>Zo y.1 tb))
def Zx (s:Rm):Nat->Int->Ky->Ky->Bool->Bool
 | 0,a,k,tb,ends=>(decide (rmE s a=0)&&decide ((rmV s a).1=0))&&(Zev (rmV s a).2 k tb ends&&Yt s (rmV s a).2)
 | l+1,a,k,tb,ends=>(decide (rmE s a=0)&&decide ((rmV s a).1=((l+1:Nat):Int)))&&(Zev (rmV s a).2 k tb ends&&Zae (Zx s l) (rmV s a).2 tb ends)
def Uj (s:Rm) (n:Nd) (tb:Ky) (ends:Bool):Bool:=match n.1.toNat with
 | 0=>Yt s n.2
 | l+1=>Zae (Zx s l) n.2 tb ends
def Ys (s:Rm) (a:Int):Bool:=decide (rmE s a=0)&&Uj s (rmV s a) Zbm false
def ckE (s:Rm) (a:Int):Int:=if asE s a=0 then (if Ys s a then 0 else 8) else asE s a
def ckH (s:Rm) (a:Int):Int:=if ckE s a=0 then (rmV s a).1+1 else 0
def X7 (s:Rm):Nat->Int->List It
 | 0,a=>(rmV s a).2
 | l+1,a=>(rmV s a).2.flatMap fun x=>X7 s l x.2.1
def Zc7 (s:Rm):Nat->Int->Ky->Option It
 | 0,a,k=>(rmV s a).2.reverse.find? fun x=>decide (x.1=k)
 | l+1,a,k=>((rmV s a).2.reverse.find? fun x => !Zo k x.1).bind fun x=>Zc7 s l x.2.1 k
def Zbk (s:Rm) (a:Int):List It:=X7 s (rmV s a).1.toNat a
def Zf9 (s:Rm) (a:Int) (k:Ky):Option It:=Zc7 s (rmV s a).1.toNat a k
def Up (l:List It):Prop:=l.Pairwise fun x y=>Zo x.1 y.1=true
theorem Ya {s:Rm}{a:Int}(h:rmE s a=0):mayN (rmV s a)=true/\asE s a=0:=by{
 by_cases ha:asE s a=0
 ·obtain⟨k,_,_,_,_,_,_,hE,hV,_⟩:=Y4 ha
  rw[hE] at h;rw[hV];exact⟨(Zfl h).1,ha⟩
 ·rw[(Z0l ha).1] at h
  exact absurd h ha}
theorem Uk {n:Nd}(h:mayN n=true):Up n.2:=by
 rw[Up,List.pairwise_iff_getElem];intro i j hi hj hij;exact Zay h hij (Qc hi) (Qc hj)
theorem Zcn {x:It}{l:List It}(h:Up (x::l)):∀ y∈x::l,y.1=x.1\/Zo x.1 y.1=true:=fun y hy=>by
 rcases Qe.1 hy with rfl | hy
 ·exact .inl rfl
 ·exact .inr ((Qw.1 h).1 y hy)
theorem Zqr {l:List It}{z:It}{tb:Ky}(h:Up l) (hl:l.getLast? = some z) (hz:Zo z.1 tb=true):∀ y∈l,Zo y.1 tb=true:=fun y hy=>by
 obtain⟨r,rfl⟩:=List.getLast?_eq_some_iff.1 hl;rcases Qq.1 hy with hy | hy
 ·exact Yo ((Ph.1 h).2.2 y hy z (by simp)) hz
 ·rw[Ql.1 hy]
  exact hz
theorem Zbd {l:List It}{k tb:Ky}{ends:Bool}(h:Zev l k tb ends=true):∃ x r,l=x::r/\x.1=k/\(ends=true->∃ z,l.getLast? = some z/\Zo z.1 tb=true):=by{
 unfold Zev at h;rw[Qd] at h;obtain⟨h1,h2⟩:=h;cases l with
 | nil=>simp at h1
 | cons x r =>
  refine⟨x,r,rfl,by simpa using h1,fun he=> ?_⟩;rw[he] at h2;cases hz:(x::r).getLast? with
  | none=>rw[hz] at h2;simp at h2
  | some z=>rw[hz] at h2;exact⟨z,rfl,by simpa using h2⟩}
structure Z8z (M:List It) (k tb:Ky) (ends:Bool) (N:Nat):Prop where
 first:∃ x r,M=x::r/\x.1=k
 up:Up M
 bound:ends=true->∀ y∈M,Zo y.1 tb=true
 few:M.length<=N
theorem Z8z.ge {M:List It}{k tb:Ky}{ends:Bool}{N:Nat}(h:Z8z M k tb ends N):∀ y∈M,y.1=k\/Zo k y.1=true:=by
 obtain⟨x,r,rfl,rfl⟩:=h.first;exact Zcn h.up
theorem Zav {f:Int->Ky->Ky->Bool->Bool}{g:Int->List It}{N:Nat}(hf:∀ a k tb ends,f a k tb ends=true->Z8z (g a) k tb ends N):∀ (L:List It) (tb:Ky) (ends:Bool),L≠[]->Zae f L tb ends=true ->
  ∃ x r,L=x::r/\Z8z (L.flatMap fun x=>g x.2.1) x.1 tb ends (N*L.length)
 | [],_,_,h,_=>absurd rfl h
 | [x],tb,ends,_,h=>by
  refine⟨x,[],rfl,?_⟩;have:=hf _ _ _ _ h
  simpa using this
 | x::y::r,tb,ends,_,h=>by
  refine⟨x,y::r,rfl,?_⟩;unfold Zae at h;rw[Qd] at h;have hx:=hf _ _ _ _ h.1;obtain⟨y',r',e,hy⟩:=Zav hf (y::r) tb ends (by simp) h.2;cases e;have e2:(x::y::r).flatMap (fun x=>g x.2.1)=g x.2.1++(y::r).flatMap fun x=>g x.2.1:=Qx
  rw[e2];have hb:=hx.bound rfl;have hlt:∀ p∈g x.2.1,∀ q∈(y::r).flatMap (fun x=>g x.2.1),Zo p.1 q.1=true:=fun p hp q hq=>by
   rcases hy.ge q hq with e | e
   ·rw[e];exact hb p hp
   ·exact Yo (hb p hp) e
  refine⟨?_,?_,fun he p hp=> ?_,?_⟩
  ·obtain⟨z,q,ez,kz⟩:=hx.first
   exact⟨z,_,by rw[ez];rfl,kz⟩
  ·exact Ph.2 ⟨hx.up,hy.up,hlt⟩
  ·rcases Qq.1 hp with hp | hp
   ·obtain⟨z,q,ez,kz⟩:=hy.first
    have hz:=hlt p hp z (by rw[ez];simp);exact Yo hz (hy.bound he z (by rw[ez];simp))
   ·exact hy.bound he p hp
  ·have h1:=hx.few
   have h2:=hy.few;rw[Pz];have e3:N*(x::y::r).length=N+N*(y::r).length:=by rw[Qp,Nat.mul_succ,Nat.add_comm]
   omega
theorem Z9 {s:Rm}{l:Nat}{a:Int}{k tb:Ky}{ends:Bool}(h:Zx s l a k tb ends=true):rmE s a=0/\(rmV s a).1=l/\Zev (rmV s a).2 k tb ends=true/\(match l with | 0=>Yt s (rmV s a).2 | l'+1=>Zae (Zx s l') (rmV s a).2 tb ends)=true:=by{
 cases l with
 | zero =>
  simp only[Zx,Qd,decide_eq_true_eq] at h;exact⟨h.1.1,h.1.2,h.2.1,h.2.2⟩
 | succ l =>
  simp only[Zx,Qd,decide_eq_true_eq] at h;exact⟨h.1.1,h.1.2,h.2.1,h.2.2⟩}
theorem Y1 (s:Rm):∀ (l:Nat) (a:Int) (k tb:Ky) (ends:Bool),Zx s l a k tb ends=true->Z8z (X7 s l a) k tb ends (5 ^ (l+1))
 | 0,a,k,tb,ends,h=>by
  obtain⟨h1,h2,h3,h4⟩:=Z9 h;obtain⟨hm,_⟩:=Ya h1;obtain⟨x,r,e,ek,hz⟩:=Zbd h3;refine⟨⟨x,r,e,ek⟩,Uk hm,fun he=> ?_,?_⟩
  ·obtain⟨z,e1,e2⟩:=hz he
   exact Zqr (Uk hm) e1 e2
  ·exact(Zw hm).1.2.2.1
 | l+1,a,k,tb,ends,h=>by
  obtain⟨h1,h2,h3,h4⟩:=Z9 h;obtain⟨hm,_⟩:=Ya h1;obtain⟨x,r,e,ek,hz⟩:=Zbd h3;obtain⟨x',r',e',hp⟩:=Zav (Y1 s l) (rmV s a).2 tb ends (by rw[e];simp) h4;rw[e] at e';cases e';rw[ek] at hp;refine⟨hp.first,hp.up,hp.bound,Qu hp.few ?_⟩;have h5:=(Zw hm).1.2.2.1;rw[Nat.pow_succ 5 (l+1)];exact Nat.mul_le_mul_left _ h5
theorem Zuk {p:It->Bool}(x:It) (l:List It):(x::l).reverse.find? p=match l.reverse.find? p with | some y=>some y | none=>if p x then some x else none:=by{
 rw[List.reverse_cons,Qad];cases l.reverse.find? p with
 | some y=>rfl
 | none =>
  simp only[Option.none_or,Qae,List.find?_nil];cases p x <;> rfl}
theorem Zdf {p:It->Bool}{l:List It}(h:∀ x∈l,p x=false):l.reverse.find? p=none:=by
 rw[List.find?_eq_none];intro x hx;rw[h x (Pd.1 hx)];simp
theorem Zmx {f:Int->Ky->Ky->Bool->Bool}{g:Int->List It}{N:Nat}(hf:∀ a k tb ends,f a k tb ends=true->Z8z (g a) k tb ends N):∀ (L:List It) (tb:Ky) (ends:Bool),Up L->Zae f L tb ends=true->∀ x∈L.flatMap (fun x=>g x.2.1),
  ∃ y∈L,x∈g y.2.1/\(L.reverse.find? fun z => !Zo x.1 z.1)=some y/\∃ t e,f y.2.1 y.1 t e=true
 | [],_,_,_,_,x,hx=>by simp at hx
 | [y],tb,ends,_,h,x,hx=>by
  have hx':x∈g y.2.1:=by simpa using hx
  refine⟨y,by simp,hx',?_,tb,ends,h⟩;have hp:=hf _ _ _ _ h;have:Zo x.1 y.1=false:=by
   rcases hp.ge x hx' with e | e
   ·rw[e];exact Xi _
   ·exact Vv e
  simp[this]
 | y::z::r,tb,ends,hu,h,x,hx=>by
  unfold Zae at h;rw[Qd] at h;have hy:=hf _ _ _ _ h.1;have e2:(y::z::r).flatMap (fun x=>g x.2.1)=g y.2.1++(z::r).flatMap fun x=>g x.2.1:=Qx
  rw[e2] at hx;rw[Zuk];rcases Qq.1 hx with hx | hx
  ·have hb:=hy.bound rfl x hx
   have hge:Zo x.1 y.1=false:=by
    rcases hy.ge x hx with e | e
    ·rw[e];exact Xi _
    ·exact Vv e
   have hno:(z::r).reverse.find? (fun w => !Zo x.1 w.1)=none:=Zdf fun w hw=>by
    rcases Zcn (Qw.1 hu).2 w hw with e | e
    ·rw[e,hb];rfl
    ·rw[Yo hb e];rfl
   refine⟨y,by simp,hx,?_,_,_,h.1⟩;rw[hno];simp[hge]
  ·obtain⟨w,hw,h1,h2,h3⟩:=Zmx hf (z::r) tb ends (Qw.1 hu).2 h.2 x hx
   exact⟨w,Qf _ hw,h1,by rw[h2],h3⟩
theorem Zlk {l:List It}(hu:Up l){x:It}(hx:x∈l):(l.reverse.find? fun y=>decide (y.1=x.1))=some x:=by{
 induction l with
 | nil=>simp at hx
 | cons y r ih =>
  rw[Zuk];rcases Qe.1 hx with rfl | hx
  ·have hno:r.reverse.find? (fun y=>decide (y.1=x.1))=none:=Zdf fun z hz=>by
    have h1:=(Qw.1 hu).1 z hz;have:z.1≠x.1:=fun e=>by rw[e,Xi] at h1;cases h1
    simpa using this
   rw[hno];simp
  ·rw[ih (Qw.1 hu).2 hx]}
theorem Zie (s:Rm):∀ (l:Nat) (a:Int) (k tb:Ky) (ends:Bool),Zx s l a k tb ends=true->∀ x∈X7 s l a,Zc7 s l a x.1=some x
 | 0,a,k,tb,ends,h,x,hx=>Zlk (Uk (Ya (Z9 h).1).1) hx
 | l+1,a,k,tb,ends,h,x,hx=>by
  obtain⟨h1,h2,h3,h4⟩:=Z9 h;obtain⟨y,hy,h5,h6,t,e,h7⟩:=Zmx (Y1 s l) (rmV s a).2 tb ends (Uk (Ya h1).1) h4 x hx;unfold Zc7;rw[h6];exact Zie s l y.2.1 y.1 t e h7 x h5
theorem Y5 {s:Rm}{a:Int}(h:Ys s a=true):rmE s a=0/\asE s a=0/\mayN (rmV s a)=true/\0<=(rmV s a).1/\(rmV s a).1<6/\Uj s (rmV s a) Zbm false=true:=by
 simp only[Ys,Qd,decide_eq_true_eq] at h;obtain⟨hm,ha⟩:=Ya h.1;exact⟨h.1,ha,hm,(Zw hm).1.1,(Zw hm).1.2.1,h.2⟩
theorem Znn {s:Rm}{a:Int}(h:Ys s a=true):Up (Zbk s a)/\(Zbk s a).length<=15625/\(∀ x∈Zbk s a,Zf9 s a x.1=some x):=by{
 obtain⟨h1,_,hm,l0,l6,hi⟩:=Y5 h;unfold Zbk Zf9;unfold Uj at hi;have hl:(rmV s a).1.toNat<=5:=by omega
 generalize hl0:(rmV s a).1.toNat=l at hi hl ⊢;cases l with
 | zero =>
  refine⟨Uk hm,Qu (Zw hm).1.2.2.1 (by decide),fun x hx=>Zlk (Uk hm) hx⟩
 | succ l =>
  have hne:(rmV s a).2≠[]:=fun e=>by
   have:=(Zw hm).1.2.2.2 (by omega);rw[e] at this;simp at this
  obtain⟨x,r,e,hp⟩:=Zav (Y1 s l) (rmV s a).2 Zbm false hne hi;refine⟨hp.up,Qu hp.few ?_,fun x hx=> ?_⟩
  ·have h5:=(Zw hm).1.2.2.1
   have hpw:5 ^ (l+1)<=5 ^ 5:=Nat.pow_le_pow_right (by decide) (by omega);have:=Nat.mul_le_mul hpw h5;omega
  ·obtain⟨y,hy,h5,h6,t,e,h7⟩:=Zmx (Y1 s l) (rmV s a).2 Zbm false (Uk hm) hi x hx
   unfold Zc7;rw[h6];exact Zie s l y.2.1 y.1 t e h7 x h5}
theorem Zo5 {s:Rm}{l:List It}{i:Nat}{x:It}(hx:l[i]? = some x):Yt s (l.take (i+1))=(Yt s (l.take i)&&(decide (x.2.1=0)||decide (s.2.1[x.2.1.toNat]?.getD 0≠0))):=by
 have hk:=(Qj.1 hx).1;have hg:l[i]=x:=(Qj.1 hx).2;rw[<- Pi hk,hg];simp[Yt]
theorem Z27 {s:Rm}{l:List It}{i:Nat}(h:Yt s (l.take i)=false):Yt s l=false:=by{
 cases e:Yt s l with
 | false=>rfl
 | true =>
  unfold Yt at e h;rw[Qy] at e;rw[<- h]
  symm
  rw[Qy];exact fun x hx=>e x (Pj hx)}
def nxO (r:List It) (tb:Ky):Ky:=match r with | []=>tb | y::_=>y.1
def bxO (r:List It) (ends:Bool):Bool:=match r with | []=>ends | _::_=>true
theorem Xx (f:Int->Ky->Ky->Bool->Bool) (x:It) (r:List It) (tb:Ky) (ends:Bool):Zae f (x::r) tb ends=(f x.2.1 x.1 (nxO r tb) (bxO r ends)&&Zae f r tb ends):=by
 cases r with
 | nil=>simp[Zae,nxO,bxO]
 | cons y r=>rfl
def Xh:List It->Nat->Nat
 | [],_=>0
 | x::l,i=>(if x.2.1=(i:Int) then (if x.2.1=0 then 0 else 1) else 0)+Xh l i
def Zbc (l:List It):Prop:=∀ x∈l,x.2.1=0\/(8<=x.2.1/\x.2.1<256)
theorem Za7 {x:It}{l:List It}(h:Zbc (x::l)):(x.2.1=0\/∃ k:Nat,x.2.1=k/\8<=k/\k<256)/\Zbc l:=by
 refine⟨?_,fun y hy=>h y (Qf _ hy)⟩;rcases h x Qg with h1 | ⟨h1,h2⟩
 ·exact .inl h1
 ·exact .inr ⟨x.2.1.toNat,by omega,by omega,by omega⟩
theorem Vx {n:Nd}(h:mayN n=true):Zbc n.2:=fun x hx=>by
 obtain⟨i,hi⟩:=Qm hx;have hk:=(Qj.1 hi).1;simp only[mayN,Qd,Qy] at h;have h1:=h.2 i (by simpa using hk);simp only[Zkh,hi,okP,Qd] at h1;exact(Zak h1.1.1).1
theorem Zba {x:It}{l:List It}(h:x.2.1=0) (i:Nat):Xh (x::l) i=Xh l i:=by
 simp only[Xh,h,if_true];split <;> simp
theorem Zbh {x:It}{l:List It}{k:Nat}(h:x.2.1=k) (h8:8<=k) (i:Nat):Xh (x::l) i=(if i=k then 1 else 0)+Xh l i:=by{
 simp only[Xh,h];by_cases e:i=k
 ·subst e
  rw[if_pos rfl,if_neg (by omega),if_pos rfl]
 ·rw[if_neg (by omega),if_neg e]}
theorem Z2j {l:List It}(h:Zbc l){i:Nat}(hi:i<8\/256<=i):Xh l i=0:=by{
 induction l with
 | nil=>rfl
 | cons x l ih =>
  obtain⟨h1,h2⟩:=Za7 h;rcases h1 with h1 | ⟨k,h1,h8,h256⟩
  ·rw[Zba h1,ih h2]
  ·rw[Zbh h1 h8,ih h2,if_neg (by omega)]}
def ctE:List UInt8->List It->Int
 | _,[]=>0
 | t,x::l=>if x.2.1=0 then ctE t l else if t[x.2.1.toNat]?.getD 0=0 then 6 else if t[x.2.1.toNat]?.getD 0=255 then 70 else ctE (t.set x.2.1.toNat (t[x.2.1.toNat]?.getD 0+1)) l
def ctV:List UInt8->List It->List UInt8
 | t,[]=>t
 | t,x::l=>if x.2.1=0 then ctV t l else ctV (t.set x.2.1.toNat (t[x.2.1.toNat]?.getD 0+1)) l
theorem Zeu:∀ (l:List It) (t:List UInt8),(ctV t l).length=t.length
 | [],_=>rfl
 | x::l,t=>by
  unfold ctV;split
  ·exact Zeu l t
  ·rw[Zeu l,Pb]
theorem Zme:∀ (a b:List It) (t:List UInt8),ctE t (a++b)=if ctE t a=0 then ctE (ctV t a) b else ctE t a
 | [],b,t=>by simp[ctE,ctV]
 | x::a,b,t=>by
  simp only[Qn,ctE,ctV];split
  ·exact Zme a b t
  ·split
   ·simp
   ·split
    ·simp
    ·exact Zme a b _
theorem Zq6:∀ (a b:List It) (t:List UInt8),ctV t (a++b)=ctV (ctV t a) b
 | [],b,t=>rfl
 | x::a,b,t=>by
  simp only[Qn,ctV];split
  ·exact Zq6 a b t
  ·exact Zq6 a b _
theorem Zs3 {x:UInt8}(h:x≠255):(x+1).toNat=x.toNat+1:=by
 have:=(Zi8 h).1;omega
theorem Zjg {x:UInt8}(h:x≠0):(x-1).toNat+1=x.toNat:=by
 have h1:=(Zi8 (x:=x-1) (Zwx h)).1;rw[Zx0.2] at h1;omega
theorem Vy {x:UInt8}:x.toNat=0↔x=0:=⟨fun h=>UInt8.toNat_inj.1 (by rw[h];rfl),fun h=>by rw[h];rfl⟩
theorem Zc8:∀ (l:List It) (t:List UInt8),Zbc l->t.length=256->ctE t l=0 ->
  (∀ i,((ctV t l)[i]?.getD 0).toNat=(t[i]?.getD 0).toNat+Xh l i)/\(∀ i,Xh l i≠0->t[i]?.getD 0≠0)
 | [],t,_,_,_=>⟨fun i=>by simp[ctV,Xh],fun i h=>absurd rfl h⟩
 | x::l,t,hr,hl,h=>by
  obtain⟨h1,h2⟩:=Za7 hr;unfold ctE at h;unfold ctV;rcases h1 with h1 | ⟨k,h1,h8,h256⟩
  ·rw[if_pos h1] at h ⊢
   obtain⟨c1,c2⟩:=Zc8 l t h2 hl h;exact⟨fun i=>by rw[c1 i,Zba h1],fun i hi=>c2 i (by rwa [Zba h1] at hi)⟩
  ·have e0:¬ x.2.1=0:=by omega
   have ek:x.2.1.toNat=k:=by omega
   rw[if_neg e0,ek] at h;rw[if_neg e0,ek];by_cases hz:t[k]?.getD 0=0
   ·rw[if_pos hz] at h;cases h
   ·by_cases hm:t[k]?.getD 0=255
    ·rw[if_neg hz,if_pos hm] at h;cases h
    ·rw[if_neg hz,if_neg hm] at h
     obtain⟨c1,c2⟩:=Zc8 l (t.set k (t[k]?.getD 0+1)) h2 (by rw[Pb,hl]) h;refine⟨fun i=> ?_,fun i hi=> ?_⟩
     ·rw[c1 i,Zbh h1 h8]
      by_cases e:i=k
      ·subst e
       rw[Zb2 (by omega),Zs3 hm,if_pos rfl];omega
      ·rw[Vq e,if_neg e]
       omega
     ·by_cases e:i=k
      ·subst e;exact hz
      ·rw[Zbh h1 h8,if_neg e,Nat.zero_add] at hi
       have:=c2 i hi
       rwa [Vq e] at this
theorem Z0d {a b:List UInt8}(hl:a.length=b.length) (h:∀ i:Nat,(a[i]?.getD 0).toNat=(b[i]?.getD 0).toNat):a=b:=by
 refine Qaf hl fun i h1 h2=> ?_
 have:=UInt8.toNat_inj.1 (h i)
 rwa [Qc h1,Qc h2] at this
theorem Ybg {t:List UInt8}{l:List It}(hm:Zbv t=true) (hr:Zbc l) (h:ctE t l=0):Zbv (ctV t l)=true:=by
 have hl:=Yx hm;obtain⟨c1,_⟩:=Zc8 l t hr hl h;refine Zhy (by rw[Zeu,hl]) fun j hj=>Vy.1 ?_
 rw[c1 j,Z2j hr (.inl hj),Zl5 hm hj];rfl
theorem Z0p {t:List UInt8}{l:List It}(hl:t.length=256) (hr:Zbc l) (h:ctE t l=0) (i:Nat):(ctV t l)[i]?.getD 0=0↔t[i]?.getD 0=0:=by
 obtain⟨c1,c2⟩:=Zc8 l t hr hl h;rw[<- Vy,c1 i,<- Vy (x:=t[i]?.getD 0)];refine⟨fun h=>by omega,fun h=> ?_⟩;by_cases e:Xh l i=0
 ·omega
 ·exact absurd (Vy.1 h) (c2 i e)
def ctS (s:Rm) (n:Nd):Rm:=(s.1,ctV s.2.1 n.2,s.2.2)
def mkE (s:Rm) (n:Nd):Int:=if Xk s&&mayN n then (if ctE s.2.1 n.2=0 then tkE (ctS s n) (Ve n) else ctE s.2.1 n.2) else 8
def mkN (s:Rm) (n:Nd):Int:=if mkE s n=0 then tkN (ctS s n) (Ve n) else 0
def mkV (s:Rm) (n:Nd):Rm:=if mkE s n=0 then tkV (ctS s n) (Ve n) else Zi
theorem Zx6 {s:Rm}{n:Nd}(h:mkE s n≠0):mkN s n=0/\mkV s n=Zi:=⟨by rw[mkN,if_neg h],by rw[mkV,if_neg h]⟩
theorem Z1v {s:Rm}{n:Nd}(hm:Xk s=true) (hn:mayN n=true) (h:ctE s.2.1 n.2=0):Xk (ctS s n)=true:=by
 obtain⟨m1,m2,m3⟩:=Yf hm;exact Zaj m1 (Ybg m2 (Vx hn) h) m3
theorem Z5e {s:Rm}{n:Nd}(hm:Xk s=true) (hn:mayN n=true) (h:ctE s.2.1 n.2=0):Xs (ctS s n)=Xs s:=by
 unfold Xs Zby
 refine P1 fun i _=> ?_
 have:=Z0p (Yx (Yf hm).2.1) (Vx hn) h i;show (decide ((ctV s.2.1 n.2)[i]?.getD 0=0)&&_)=(decide (s.2.1[i]?.getD 0=0)&&_);rw[decide_eq_decide.2 this];rfl
theorem Zvk {s:Rm}{n:Nd}(h:mkE s n=0):Xk s=true/\mayN n=true/\ctE s.2.1 n.2=0/\tkE (ctS s n) (Ve n)=0/\mkN s n=tkN (ctS s n) (Ve n)/\mkV s n=tkV (ctS s n) (Ve n):=by{
 have hN:mkN s n=tkN (ctS s n) (Ve n):=by rw[mkN,if_pos h]
 have hV:mkV s n=tkV (ctS s n) (Ve n):=by rw[mkV,if_pos h]
 unfold mkE at h;cases hm:Xk s with
 | false=>rw[hm] at h;simp at h
 | true =>
  cases hn:mayN n with
  | false=>rw[hm,hn] at h;simp at h
  | true =>
   rw[hm,hn] at h;simp only[Bool.and_self,if_true] at h;by_cases hc:ctE s.2.1 n.2=0
   ·rw[if_pos hc] at h
    exact⟨rfl,rfl,hc,h,hN,hV⟩
   ·rw[if_neg hc] at h
    exact absurd h hc}
theorem X0 {s:Rm}{n:Nd}(h:mkE s n=0):∃ k:Nat,mkN s n=k/\8<=k/\k<256/\s.2.1[k]?.getD 0=0/\s.2.2[k]?.getD 0=0/\Xh n.2 k=0/\mkV s n=(wrD s.1 k (Ve n),(ctV s.2.1 n.2).set k 1,s.2.2)/\Xk (mkV s n)=true /\
  (mkV s n).2.1[k]?.getD 0=1/\(∀ i,i≠k->((mkV s n).2.1[i]?.getD 0).toNat=(s.2.1[i]?.getD 0).toNat+Xh n.2 i)/\(∀ i,Xh n.2 i≠0->s.2.1[i]?.getD 0≠0)/\(mkV s n).2.1.length=256/\s.2.1.length=256:=by{
 obtain⟨hm,hn,hc,ht,e1,e2⟩:=Zvk h;obtain⟨_,_,_,_,h8,h256,hz,hz2,hN,hV⟩:=Zz2 ht;have hl:=Yx (Yf hm).2.1;have hr:=Vx hn;obtain⟨c1,c2⟩:=Zc8 n.2 s.2.1 hr hl hc;generalize tkK (ctS s n)=k at *;have z1:s.2.1[k]?.getD 0=0:=(Z0p hl hr hc k).1 hz;have z2:Xh n.2 k=0:=by
  by_cases e:Xh n.2 k=0
  ·exact e
  ·exact absurd z1 (c2 k e)
 have hV':mkV s n=(wrD s.1 k (Ve n),(ctV s.2.1 n.2).set k 1,s.2.2):=by rw[e2,hV];rfl
 refine⟨k,by rw[e1,hN],h8,h256,z1,hz2,z2,hV',by rw[e2];exact Z95 ht,?_,fun i hi=> ?_,c2,?_,hl⟩
 ·rw[hV'];exact Zb2 (by rw[Zeu];omega)
 ·rw[hV']
  show (((ctV s.2.1 n.2).set k 1)[i]?.getD 0).toNat=_;rw[Vq hi];exact c1 i
 ·rw[hV']
  show ((ctV s.2.1 n.2).set k 1).length=_;rw[Pb,Zeu,hl]}
def dnO (t:List UInt8) (a:Nat):Option (List UInt8):=if t[a]?.getD 0=0 then none else some (t.set a (t[a]?.getD 0-1))
def Vc (f:List UInt8->Nat->Option (List UInt8)):List UInt8->List It->Option (List UInt8)
 | t,[]=>some t
 | t,x::l=>if x.2.1=0 then Vc f t l else (f t x.2.1.toNat).bind fun t'=>Vc f t' l
def lvS (d:Dk) (l:Nat) (f:List UInt8->Nat->Option (List UInt8)) (t:List UInt8) (a:Nat):Option (List UInt8) :=
 (dnO t a).bind fun t'=>if 1<(t[a]?.getD 0).toNat then some t' else if reN (Zz d a)=0/\(reV (Zz d a)).1=(l:Int) then Vc f t' (reV (Zz d a)).2 else none
def lvF (d:Dk):Nat->List UInt8->Nat->Option (List UInt8)
 | 0=>dnO
 | l+1=>lvS d l (lvF d l)
def lfO (d:Dk) (t:List UInt8) (a:Nat):Option (List UInt8) :=
 (dnO t a).bind fun t'=>if 1<(t[a]?.getD 0).toNat then some t' else if reN (Zz d a)=0 then Vc (lvF d (reV (Zz d a)).1.toNat) t' (reV (Zz d a)).2 else none
def lvE (s:Rm) (n:Int):Int:=if asE s n=0 then (match lfO s.1 s.2.1 n.toNat with | some _=>0 | none=>8) else asE s n
def lvV (s:Rm) (n:Int):Rm:=if asE s n=0 then (match lfO s.1 s.2.1 n.toNat with | some t=>(s.1,t,s.2.2) | none=>Zi) else Zi
def loV (s:Rm) (n:Int):Rm:=if asE s n=0 then (s.1,s.2.1.set n.toNat (s.2.1[n.toNat]?.getD 0-1),s.2.2) else Zi
structure LeT (u t:List UInt8):Prop where
 len:u.length=t.length
 le:∀ i:Nat,(u[i]?.getD 0).toNat<=(t[i]?.getD 0).toNat
theorem LeT.refl (t:List UInt8):LeT t t:=⟨rfl,fun _=>Qa _⟩
theorem LeT.trans {a b c:List UInt8}(h:LeT a b) (h':LeT b c):LeT a c:=⟨h.len.trans h'.len,fun i=>Qu (h.le i) (h'.le i)⟩
theorem Zd3 {t u:List UInt8}{a:Nat}(h:dnO t a=some u):t[a]?.getD 0≠0/\u=t.set a (t[a]?.getD 0-1)/\LeT u t/\(u[a]?.getD 0).toNat+1=(t[a]?.getD 0).toNat:=by{
 unfold dnO at h;by_cases hz:t[a]?.getD 0=0
 ·rw[if_pos hz] at h;cases h
 ·rw[if_neg hz] at h
  cases h;have ha:a<t.length:=by
   by_cases e:a<t.length
   ·exact e
   ·exact absurd (by rw[Pk (by omega)];rfl) hz
  refine⟨hz,rfl,⟨Pb,fun i=> ?_⟩,?_⟩
  ·by_cases e:i=a
   ·subst e
    rw[Zb2 ha];have:=Zjg hz;omega
   ·rw[Vq e]
    exact Qa _
  ·rw[Zb2 ha]
   exact Zjg hz}
theorem Zgi {f:List UInt8->Nat->Option (List UInt8)}(hf:∀ t a u,f t a=some u->LeT u t):∀ (l:List It) (t u:List UInt8),Vc f t l=some u->LeT u t
 | [],t,u,h=>by cases h;exact LeT.refl _
 | x::l,t,u,h=>by
  unfold Vc at h;split at h
  ·exact Zgi hf l t u h
  ·cases hx:f t x.2.1.toNat with
   | none=>rw[hx] at h;cases h
   | some v =>
    rw[hx] at h;exact(Zgi hf l v u h).trans (hf _ _ _ hx)
theorem Yav {d:Dk}{l:Nat}{f:List UInt8->Nat->Option (List UInt8)}(hf:∀ t a u,f t a=some u->LeT u t) (t:List UInt8) (a:Nat) (u:List UInt8) (h:lvS d l f t a=some u):LeT u t:=by{
 unfold lvS at h;cases hd:dnO t a with
 | none=>rw[hd] at h;cases h
 | some v =>
  rw[hd] at h;have h':(if 1<(t[a]?.getD 0).toNat then some v else if reN (Zz d a)=0/\(reV (Zz d a)).1=(l:Int) then Vc f v (reV (Zz d a)).2 else none)=some u:=h;have hv:=(Zd3 hd).2.2.1;split at h'
  ·cases h';exact hv
  ·split at h'
   ·exact(Zgi hf _ _ _ h').trans hv
   ·cases h'}
theorem Zpt (d:Dk):∀ (l:Nat) (t:List UInt8) (a:Nat) (u:List UInt8),lvF d l t a=some u->LeT u t
 | 0,_,_,_,h=>(Zd3 h).2.2.1
 | l+1,t,a,u,h=>Yav (Zpt d l) t a u h
theorem Zqu {d:Dk}{t u:List UInt8}{a:Nat}(h:lfO d t a=some u):t[a]?.getD 0≠0/\LeT u t/\(u[a]?.getD 0).toNat+1<=(t[a]?.getD 0).toNat/\(1<(t[a]?.getD 0).toNat->u=t.set a (t[a]?.getD 0-1)):=by{
 unfold lfO at h;cases hd:dnO t a with
 | none=>rw[hd] at h;cases h
 | some v =>
  rw[hd] at h;have h':(if 1<(t[a]?.getD 0).toNat then some v else if reN (Zz d a)=0 then Vc (lvF d (reV (Zz d a)).1.toNat) v (reV (Zz d a)).2 else none)=some u:=h;obtain⟨h1,h2,hv,h3⟩:=Zd3 hd;split at h'
  ·cases h'
   exact⟨h1,hv,by omega,fun _=>h2⟩
  ·rename_i hn
   split at h'
   ·have:=Zgi (Zpt d _) _ _ _ h'
    have h4:=this.le a;exact⟨h1,this.trans hv,by omega,fun hc=>absurd hc hn⟩
   ·cases h'}
theorem LeT.may {u t:List UInt8}(h:LeT u t) (hm:Zbv t=true):Zbv u=true :=
 Zhy (by rw[h.len];exact Yx hm) fun j hj=>by
  have h1:=h.le j;rw[Zl5 hm hj] at h1;exact Vy.1 (by simpa using h1)
def Yce (f:List UInt8->Nat->Option (List UInt8)):Prop:=∀ t a,1<(t[a]?.getD 0).toNat->f t a=some (t.set a (t[a]?.getD 0-1))
theorem Zdq {t:List UInt8}{a:Nat}(h:t[a]?.getD 0≠0):dnO t a=some (t.set a (t[a]?.getD 0-1)):=by rw[dnO,if_neg h]
theorem Zib {x:UInt8}(h:1<x.toNat):x≠0:=fun e=>by
 rw[Vy.2 e] at h;omega
theorem Zhs (d:Dk):∀ l,Yce (lvF d l)
 | 0=>fun t a h=>Zdq (Zib h)
 | l+1=>fun t a h=>by
  show lvS d l (lvF d l) t a=_;unfold lvS;rw[Zdq (Zib h)];show (if 1<(t[a]?.getD 0).toNat then _ else _)=_;rw[if_pos h]
theorem Zjl {f:List UInt8->Nat->Option (List UInt8)}(hf:Yce f):∀ (l:List It) (u v:List UInt8),Zbc l->u.length=256->v.length=256->(∀ i,(u[i]?.getD 0).toNat=(v[i]?.getD 0).toNat+Xh l i)->(∀ i,Xh l i≠0->v[i]?.getD 0≠0)->Vc f u l=some v
 | [],u,v,_,h1,h2,h,_=>congrArg some (Z0d (by omega) h)
 | x::l,u,v,hr,h1,h2,h,h'=>by
  obtain⟨r1,r2⟩:=Za7 hr;unfold Vc;rcases r1 with r1 | ⟨k,r1,h8,h256⟩
  ·rw[if_pos r1]
   exact Zjl hf l u v r2 h1 h2 (fun i=>by rw[h i,Zba r1]) (fun i hi=>h' i (by rwa [Zba r1]))
  ·have e0:¬ x.2.1=0:=by omega
   have ek:x.2.1.toNat=k:=by omega
   have hk:=h k;rw[Zbh r1 h8,if_pos rfl] at hk;have hv:=h' k (by rw[Zbh r1 h8,if_pos rfl];omega);have hv':(v[k]?.getD 0).toNat≠0:=fun e=>hv (Vy.1 e)
   have hu:1<(u[k]?.getD 0).toNat:=by omega
   rw[if_neg e0,ek,hf u k hu];show Vc f (u.set k (u[k]?.getD 0-1)) l=some v;refine Zjl hf l _ v r2 (by rw[Pb,h1]) h2 (fun i=> ?_) (fun i hi=>h' i (by rw[Zbh r1 h8];omega));by_cases e:i=k
   ·subst e
    rw[Zb2 (by omega)];have:=Zjg (Zib hu);omega
   ·rw[Vq e,h i,Zbh r1 h8,if_neg e]
    omega
theorem Z64 {d:Dk}{u v:List UInt8}{k:Nat}{n:Nd}(hb:Zz d k=Ve n) (hn:mayN n=true) (hi:InN n) (h1:u.length=256) (h2:v.length=256) (hk:k<256) (hu:u[k]?.getD 0=1) (hv:v[k]?.getD 0=0) (hz:Xh n.2 k=0)
  (h:∀ i,i≠k->(u[i]?.getD 0).toNat=(v[i]?.getD 0).toNat+Xh n.2 i) (h':∀ i,Xh n.2 i≠0->v[i]?.getD 0≠0):lfO d u k=some v:=by{
 obtain⟨r1,r2⟩:=Zb4 hn hi;unfold lfO;rw[Zdq (by rw[hu];decide),hu,hb,r1,r2];show Vc (lvF d n.1.toNat) (u.set k (1-1)) n.2=some v;refine Zjl (Zhs d _) n.2 _ v (Vx hn) (by rw[Pb,h1]) h2 (fun i=> ?_) h';by_cases e:i=k
 ·subst e
  rw[Zb2 (by omega),hv,hz];rfl
 ·rw[Vq e,h i e]}
theorem Zb7 {s:Rm}{k:Nat}(hm:Xk s=true) (h8:8<=k) (h:k<256) (hx:s.2.1[k]?.getD 0≠0):asE s k=0:=by
 have hin:=Zqd h8 h;have h1:¬ s.2.1[((k:Int)).toNat]?.getD 0=0:=by
  rw[show ((k:Int)).toNat=k by omega];exact hx
 rw[asE,hm,if_pos rfl,hin,if_pos rfl,if_neg h1]
theorem Z98 {s:Rm}{k:Nat}{v:List UInt8}(ha:asE s k=0) (hf:lfO s.1 s.2.1 k=some v):lvE s k=0/\lvV s k=(s.1,v,s.2.2):=by
 constructor
 ·rw[lvE,if_pos ha,show ((k:Int)).toNat=k by omega,hf]
 ·rw[lvV,if_pos ha,show ((k:Int)).toNat=k by omega,hf]
theorem Zjk {s:Rm}{k:Nat}{n:Nd}(ha:asE s k=0) (hb:Zz s.1 k=Ve n) (hn:mayN n=true) (hi:InN n):rmE s k=0/\rmV s k=n:=by
 obtain⟨r1,r2⟩:=Zb4 hn hi;constructor
 ·rw[rmE,if_pos ha,show ((k:Int)).toNat=k by omega,hb,r1]
 ·rw[rmV,if_pos ha,show ((k:Int)).toNat=k by omega,hb,r2]
theorem Zxh {s:Rm}{n:Nd}(hi:InN n) (h:mkE s n=0):∃ k:Nat,mkN s n=k/\8<=k/\k<256/\s.2.1[k]?.getD 0=0/\s.2.2[k]?.getD 0=0/\rmE (mkV s n) k=0/\rmV (mkV s n) k=n/\lvE (mkV s n) k=0/\lvV (mkV s n) k=(wrD s.1 k (Ve n),s.2.1,s.2.2):=by
 obtain⟨_,hn,_⟩:=Zvk h;obtain⟨k,e1,h8,h256,hz,hz2,hc,hV,hm,c1,c2,c3,hl,hl0⟩:=X0 h;have ha:asE (mkV s n) k=0:=Zb7 hm h8 h256 (by rw[c1];decide);have hb:Zz (mkV s n).1 k=Ve n:=by rw[hV];exact Xt
 have hf:lfO (mkV s n).1 (mkV s n).2.1 k=some s.2.1:=Z64 (n:=n) hb hn hi hl hl0 h256 c1 hz hc c2 c3;obtain⟨r1,r2⟩:=Zjk ha hb hn hi;obtain⟨l1,l2⟩:=Z98 ha hf;exact⟨k,e1,h8,h256,hz,hz2,r1,r2,l1,by rw[l2,hV]⟩
structure Xw (s t:Rm):Prop where
 may:Xk t=true
 held:∀ k:Nat,s.2.1[k]?.getD 0≠0->t.2.1[k]?.getD 0≠0
 seen:∀ k:Nat,s.2.1[k]?.getD 0≠0->Zz t.1 k=Zz s.1 k
theorem Vt {s t:Rm}(h:Xw s t){a:Int}(ha:asE s a=0):asE t a=0/\rmE t a=rmE s a/\rmV t a=rmV s a:=by
 obtain⟨k,rfl,hm,h8,h256,_,_,hE,hV,hx⟩:=Y4 ha;have ht:asE t (k:Int)=0:=Zb7 h.may h8 h256 (h.held k hx);refine⟨ht,?_,?_⟩
 ·rw[hE,rmE,if_pos ht,show ((k:Int)).toNat=k by omega,h.seen k hx]
 ·rw[hV,rmV,if_pos ht,show ((k:Int)).toNat=k by omega,h.seen k hx]
theorem Zjh {s t:Rm}(h:Xw s t){l:List It}(hl:Yt s l=true):Yt t l=true:=by
 unfold Yt at hl ⊢;rw[Qy] at hl ⊢;intro x hx;have h1:=hl x hx;simp only[Qag,decide_eq_true_eq] at h1 ⊢;exact h1.imp id (h.held _)
theorem U5 {f g:Int->Ky->Ky->Bool->Bool}(h:∀ a k tb e,f a k tb e=true->g a k tb e=true):∀ (l:List It) (tb:Ky) (e:Bool),Zae f l tb e=true->Zae g l tb e=true
 | [],_,_,_=>rfl
 | x::r,tb,e,hf=>by
  rw[Xx,Qd] at hf ⊢;exact⟨h _ _ _ _ hf.1,U5 h r tb e hf.2⟩
theorem Xm {f:Int->Ky->Ky->Bool->Bool}:∀ {l:List It}{tb:Ky}{e:Bool},Zae f l tb e=true->∀ x∈l,∃ t e,f x.2.1 x.1 t e=true
 | [],_,_,_,x,hx=>by simp at hx
 | y::r,tb,e,hf,x,hx=>by
  rw[Xx,Qd] at hf;rcases Qe.1 hx with rfl | hx
  ·exact⟨_,_,hf.1⟩
  ·exact Xm hf.2 x hx
theorem X8 {g g':Int->List It}:∀ {l:List It},(∀ x∈l,g x.2.1=g' x.2.1)->l.flatMap (fun x=>g x.2.1)=l.flatMap fun x=>g' x.2.1
 | [],_=>rfl
 | x::r,h=>by
  rw[Qx,Qx,h x Qg,X8 fun y hy=>h y (Qf _ hy)]
theorem Yb {s t:Rm}(h:Xw s t):∀ (l:Nat) (a:Int) (k tb:Ky) (e:Bool),Zx s l a k tb e=true->Zx t l a k tb e=true/\X7 t l a=X7 s l a/\∀ q,Zc7 t l a q=Zc7 s l a q
 | 0,a,k,tb,e,hr=>by
  obtain⟨h1,h2,h3,h4⟩:=Z9 hr;obtain⟨_,k1,k2⟩:=Vt h (Ya h1).2;refine⟨?_,by unfold X7;rw[k2],fun q=>by unfold Zc7;rw[k2]⟩;unfold Zx;rw[k1,k2,h1,h2,h3,Zjh h h4];rfl
 | l+1,a,k,tb,e,hr=>by
  obtain⟨h1,h2,h3,h4⟩:=Z9 hr;obtain⟨_,k1,k2⟩:=Vt h (Ya h1).2;have hm:=Xm h4;refine⟨?_,?_,fun q=> ?_⟩
  ·unfold Zx
   rw[k1,k2,h1,h2,h3,U5 (fun a k tb e hf=>(Yb h l a k tb e hf).1) _ _ _ h4];simp
  ·unfold X7
   rw[k2];exact X8 fun x hx=>by
    obtain⟨t',e',hf⟩:=hm x hx;exact(Yb h l _ _ _ _ hf).2.1
  ·unfold Zc7
   rw[k2];cases hf:(rmV s a).2.reverse.find? (fun x => !Zo q x.1) with
   | none=>rfl
   | some y =>
    obtain⟨t',e',hf'⟩:=hm y (Pd.1 (Pm hf));exact(Yb h l _ _ _ _ hf').2.2 q
theorem Za5 {s t:Rm}(h:Xw s t){a:Int}(ht:Ys s a=true):Ys t a=true/\asE t a=0/\rmV t a=rmV s a/\Zbk t a=Zbk s a/\∀ q,Zf9 t a q=Zf9 s a q:=by{
 obtain⟨h1,ha,hm,l0,l6,hi⟩:=Y5 ht;obtain⟨k0,k1,k2⟩:=Vt h ha;have hi':=hi;unfold Uj at hi;have e1:(rmV s a).1.toNat=(rmV t a).1.toNat:=by rw[k2]
 refine⟨?_,k0,k2,?_,fun q=> ?_⟩
 ·unfold Ys
  rw[k1,k2,h1];unfold Uj;cases hl:(rmV s a).1.toNat with
  | zero=>rw[hl] at hi;simp only[Zjh h hi];rfl
  | succ l=>rw[hl] at hi;simp only[U5 (fun a k tb e hf=>(Yb h l a k tb e hf).1) _ _ _ hi];rfl
 ·unfold Zbk
  rw[<- e1];cases hl:(rmV s a).1.toNat with
  | zero=>unfold X7;rw[k2]
  | succ l =>
   rw[hl] at hi;unfold X7;rw[k2];exact X8 fun x hx=>by
    obtain⟨t',e',hf⟩:=Xm hi x hx;exact(Yb h l _ _ _ _ hf).2.1
 ·unfold Zf9
  rw[<- e1];cases hl:(rmV s a).1.toNat with
  | zero=>unfold Zc7;rw[k2]
  | succ l =>
   rw[hl] at hi;unfold Zc7;rw[k2];cases hf:(rmV s a).2.reverse.find? (fun x => !Zo q x.1) with
   | none=>rfl
   | some y =>
    obtain⟨t',e',hf'⟩:=Xm hi y (Pd.1 (Pm hf));exact(Yb h l _ _ _ _ hf').2.2 q}
theorem Zk2 {s:Rm}{n:Int}(h:shE s n=0):Xw s (shV s n):=by{
 have hm':=Ybi h;obtain⟨k,rfl,hm,h8,h256,h0,h255,hl,hV⟩:=Z72 h;refine⟨hm',fun i hi=> ?_,fun i hi=>by rw[hV]⟩;rw[hV];show (s.2.1.set k (s.2.1[k]?.getD 0+1))[i]?.getD 0≠0;by_cases e:i=k
 ·subst e
  rw[Zb2 (by omega)];exact Zw9 h255
 ·rw[Vq e]
  exact hi}
def Y9 (g:Int->Option (Ky×Ky)):List It->Option (Ky×Ky)
 | []=>none
 | [x]=>(g x.2.1).bind fun p=>if p.1=x.1 then some p else none
 | x::y::r=>(g x.2.1).bind fun p=>(Y9 g (y::r)).bind fun q=>if p.1=x.1/\Zo p.2 y.1=true then some (p.1,q.2) else none
def Za6 (s:Rm):Nat->Int->Option (Ky×Ky)
 | 0,a=>if rmE s a=0/\(rmV s a).1=0/\Yt s (rmV s a).2=true then ((rmV s a).2[0]?).bind fun x=>((rmV s a).2.getLast?).map fun y=>(x.1,y.1) else none
 | l+1,a=>if rmE s a=0/\(rmV s a).1=((l+1:Nat):Int) then Y9 (Za6 s l) (rmV s a).2 else none
def LeK (a b:Ky):Prop:=a=b\/Zo a b=true
theorem LeK.lt {a b c:Ky}(h:LeK a b) (h':Zo b c=true):Zo a c=true:=h.elim (fun e=>by rw[e];exact h') fun h=>Yo h h'
theorem LeK.trans {a b c:Ky}(h:LeK a b) (h':LeK b c):LeK a c:=h'.elim (fun e=>e ▸ h) fun h'=>.inr (h.lt h')
theorem Zbb {g:Int->Option (Ky×Ky)}(hg:∀ a p,g a=some p->LeK p.1 p.2):∀ {l:List It}{p:Ky×Ky},Y9 g l=some p->LeK p.1 p.2/\∃ x r,l=x::r/\p.1=x.1
 | [],_,h=>by cases h
 | [x],p,h=>by
  unfold Y9 at h;cases hx:g x.2.1 with
  | none=>rw[hx] at h;cases h
  | some q =>
   rw[hx] at h;have h':(if q.1=x.1 then some q else none)=some p:=h;split at h'
   ·rename_i e
    cases h';exact⟨hg _ _ hx,x,[],rfl,e⟩
   ·cases h'
 | x::y::r,p,h=>by
  unfold Y9 at h;cases hx:g x.2.1 with
  | none=>rw[hx] at h;cases h
  | some q =>
   rw[hx] at h;cases hc:Y9 g (y::r) with
   | none=>rw[hc] at h;cases h
   | some q' =>
    rw[hc] at h;have h':(if q.1=x.1/\Zo q.2 y.1=true then some (q.1,q'.2) else none)=some p:=h;obtain⟨i1,y',r',e',i2⟩:=Zbb hg hc;cases e';split at h'
    ·rename_i e
     cases h';refine⟨.inr ?_,x,y::r,rfl,e.1⟩;have h1:Zo q.1 y.1=true:=(hg _ _ hx).lt e.2;rw[<- i2] at h1;exact i1.elim (fun e=>e ▸ h1) fun h2=>Yo h1 h2
    ·cases h'
theorem Ze6 (s:Rm):∀ (l:Nat) (a:Int) (p:Ky×Ky),Za6 s l a=some p->LeK p.1 p.2
 | 0,a,p,h=>by
  unfold Za6 at h;split at h
  ·rename_i hc
   have hu:=Uk (Ya hc.1).1;cases hl:(rmV s a).2 with
   | nil=>rw[hl] at h;cases h
   | cons x r =>
    rw[hl] at h hu;cases hz:(x::r).getLast? with
    | none=>rw[hz] at h;cases h
    | some z =>
     rw[hz] at h;cases h;rcases Zcn hu z (Pn hz) with e | e
     ·exact .inl e.symm
     ·exact .inr e
  ·cases h
 | l+1,a,p,h=>by
  unfold Za6 at h;split at h
  ·exact(Zbb (Ze6 s l) h).1
  ·cases h
theorem Zfi {f:Int->Ky->Ky->Bool->Bool}{g:Int->Option (Ky×Ky)}(hle:∀ a p,g a=some p->LeK p.1 p.2) (hfg:∀ a k tb e,f a k tb e=true↔∃ t,g a=some (k,t)/\(e=true->Zo t tb=true)):∀ (l:List It) (tb:Ky) (e:Bool),l≠[] ->
  (Zae f l tb e=true↔∃ p,Y9 g l=some p/\(e=true->Zo p.2 tb=true))
 | [],_,_,h=>absurd rfl h
 | [x],tb,e,_=>by
  show f x.2.1 x.1 tb e=true↔_;rw[hfg];unfold Y9;constructor
  ·rintro⟨t,h1,h2⟩
   exact⟨(x.1,t),by rw[h1];simp,h2⟩
  ·rintro⟨p,h1,h2⟩
   cases hx:g x.2.1 with
   | none=>rw[hx] at h1;cases h1
   | some q =>
    rw[hx] at h1;have h':(if q.1=x.1 then some q else none)=some p:=h1;split at h'
    ·rename_i e1
     cases h';exact⟨p.2,by rw[<- e1],h2⟩
    ·cases h'
 | x::y::r,tb,e,_=>by
  have ih:=Zfi hle hfg (y::r) tb e (by simp);show (f x.2.1 x.1 y.1 true&&Zae f (y::r) tb e)=true↔_;rw[Qd,hfg,ih];constructor
  ·rintro⟨⟨t,h1,h2⟩,p,h3,h4⟩
   refine⟨(x.1,p.2),?_,h4⟩;unfold Y9;rw[h1,h3];simp[h2 rfl]
  ·rintro⟨p,h1,h2⟩
   unfold Y9 at h1;cases hx:g x.2.1 with
   | none=>rw[hx] at h1;cases h1
   | some q =>
    rw[hx] at h1;cases hc:Y9 g (y::r) with
    | none=>rw[hc] at h1;cases h1
    | some q' =>
     rw[hc] at h1;have h':(if q.1=x.1/\Zo q.2 y.1=true then some (q.1,q'.2) else none)=some p:=h1;split at h'
     ·rename_i e1
      cases h';exact⟨⟨q.2,by rw[<- e1.1],fun _=>e1.2⟩,q',rfl,h2⟩
     ·cases h'
theorem Zgl (s:Rm):∀ (l:Nat) (a:Int) (k tb:Ky) (e:Bool),Zx s l a k tb e=true↔∃ t,Za6 s l a=some (k,t)/\(e=true->Zo t tb=true)
 | 0,a,k,tb,e=>by
  constructor
  ·intro h
   obtain⟨h1,h2,h3,h4⟩:=Z9 h;obtain⟨x,r,hl,ek,hz⟩:=Zbd h3;obtain⟨z,hz1⟩:∃ z,(rmV s a).2.getLast? = some z:=by
    rw[hl];exact⟨_,P3 (by simp)⟩
   refine⟨z.1,?_,fun he=> ?_⟩
   ·unfold Za6
    rw[if_pos ⟨h1,h2,h4⟩,hz1,show (rmV s a).2[0]? = some x by rw[hl];rfl,<- ek];rfl
   ·obtain⟨z',e1,e2⟩:=hz he
    rw[hz1] at e1;cases e1;exact e2
  ·rintro⟨t,h1,h2⟩
   unfold Za6 at h1;split at h1
   ·rename_i hc
    unfold Zx;cases hx:(rmV s a).2[0]? with
    | none=>rw[hx] at h1;cases h1
    | some x =>
     cases hz:(rmV s a).2.getLast? with
     | none=>rw[hx,hz] at h1;cases h1
     | some z =>
      rw[hx,hz] at h1;have h1':(some (x.1,z.1):Option (Ky×Ky))=some (k,t):=h1;simp only[Option.some.injEq,Prod.mk.injEq] at h1';have hh:Zev (rmV s a).2 k tb e=true:=by
       unfold Zev;rw[hx,hz];cases e with
       | false=>simp[h1'.1]
       | true=>simp[h1'.1,h1'.2,h2 rfl]
      rw[hc.1,hc.2.1,hc.2.2,hh]
      decide
   ·cases h1
 | l+1,a,k,tb,e=>by
  have hc:=Zfi (Ze6 s l) (fun a k tb e=>Zgl s l a k tb e) (rmV s a).2 tb e;constructor
  ·intro h
   obtain⟨h1,h2,h3,h4⟩:=Z9 h;obtain⟨x,r,hl,ek,_⟩:=Zbd h3;obtain⟨p,hp,hb⟩:=(hc (by rw[hl];simp)).1 h4;obtain⟨_,x',r',e',hf⟩:=Zbb (Ze6 s l) hp;rw[hl] at e';cases e';refine⟨p.2,?_,hb⟩;unfold Za6;rw[if_pos ⟨h1,h2⟩,hp,<- ek,<- hf]
  ·rintro⟨t,h1,h2⟩
   unfold Za6 at h1;split at h1
   ·rename_i hcond
    obtain⟨_,x,r,hl,hf⟩:=Zbb (Ze6 s l) h1;have hi:=(hc (by rw[hl];simp)).2 ⟨(k,t),h1,h2⟩;have hh:Zev (rmV s a).2 k tb e=true:=by
     cases e with
     | false =>
      unfold Zev;rw[hl];simp[<- hf]
     | true =>
      obtain⟨x',r',e',hp⟩:=Zav (Y1 s l) (rmV s a).2 tb true (by rw[hl];simp) hi;obtain⟨z,hz1⟩:∃ z,(rmV s a).2.getLast? = some z:=by
       rw[hl];exact⟨_,P3 (by simp)⟩
      obtain⟨t',e2,hf2⟩:=Xm hi z (Pn hz1);obtain⟨y,r2,ey,ky⟩:=(Y1 s l _ _ _ _ hf2).first;have hy:=hp.bound rfl y (Qk.2 ⟨z,Pn hz1,by rw[ey];simp⟩);rw[ky] at hy;unfold Zev;rw[hz1,show (rmV s a).2[0]? = some x by rw[hl];rfl];simp[<- hf,hy]
    unfold Zx;rw[hcond.1,hcond.2,hh,hi];simp
   ·cases h1
theorem Z0v (s:Rm) (a:Int):Ys s a=true↔rmE s a=0/\(match (rmV s a).1.toNat with | 0=>Yt s (rmV s a).2=true | l+1=>∃ p,Y9 (Za6 s l) (rmV s a).2=some p):=by{
 constructor
 ·intro h
  obtain⟨h1,_,hm,l0,_,hi⟩:=Y5 h;refine⟨h1,?_⟩;unfold Uj at hi;cases hl:(rmV s a).1.toNat with
  | zero=>rw[hl] at hi;exact hi
  | succ l =>
   rw[hl] at hi;have hne:(rmV s a).2≠[]:=fun e=>by
    have:=(Zw hm).1.2.2.2 (by omega);rw[e] at this;simp at this
   obtain⟨p,hp,_⟩:=(Zfi (Ze6 s l) (fun a k tb e=>Zgl s l a k tb e) _ Zbm false hne).1 hi;exact⟨p,hp⟩
 ·rintro⟨h1,h2⟩
  unfold Ys;rw[h1];unfold Uj;cases hl:(rmV s a).1.toNat with
  | zero=>rw[hl] at h2;simp only[h2];rfl
  | succ l =>
   rw[hl] at h2;obtain⟨p,hp⟩:=h2;obtain⟨_,x,r,e,_⟩:=Zbb (Ze6 s l) hp;have:=(Zfi (Ze6 s l) (fun a k tb e=>Zgl s l a k tb e) (rmV s a).2 Zbm false (by rw[e];simp)).2 ⟨p,hp,fun h=>by cases h⟩;simp only[this];rfl}
def In (lo hi:Nat):Qaz->Prop:=fun p=>lo<=p.block/\p.block<hi
theorem Zfn {w w1:Qax}{Fs:List (Qax->Prop)}(h:Bag w Fs) (hb:Qa5 w.heap.size w w1) (a b:Qay):∃ w',w1.alloc (.cells #[a,b] 81)=w'/\Bag w' (Ych w1.heap.size a b::Fs)/\Qa5 w.heap.size w w'/\Qa5 w1.heap.size w1 w'/\w1.heap.size<w'.heap.size:=by
 obtain⟨w2,e2,b2,k4,k5⟩:=Yd w1 a b 81;obtain⟨k1,k2,_,k3⟩:=Zg b2;exact⟨w2,e2,((h.below hb).below k5).add ⟨k1,k2,k3⟩ (Zxx _ _ _),hb.trans (k5.mono hb.size),k5,by omega⟩
def Z6e (v:Qay) (n:Nd):Qax->Prop:=fun w=>Nod (Old w) w v n
theorem Zb9 (v:Qay) (n:Nd):Zf6 (Z6e v n):=fun _ _ h hb=>h.below hb
def Z1o (v:Qay) (l:List It):Qax->Prop:=fun w=>Uz (Old w) w [v] l
theorem Zjc (v:Qay) (l:List It):Zf6 (Z1o v l):=fun _ _ h hb=>Y0.old h hb
theorem Zt4 {l:List It}{k:Ky}:∀ {i:Nat},i<=l.length->(∀ j x,j<i->l[j]? = some x->Zo x.1 k=true)->Zfd (l.take i) k=i
 | 0,_,_=>rfl
 | i+1,hi,h=>by
  have hx:l[i]? = some l[i]:=Qc hi;rw[Ztw hx (h i _ (by omega) hx),Zt4 (by omega) (fun j x hj=>h j x (by omega))]
theorem Z62 (l:List It) (k:Ky) (i:Nat):Zfd (l.take i) k<=Zfd l k:=by
 unfold Zfd;exact((List.take_sublist i l).filter _).length_le
theorem Zzn {l:List It}{k:Ky}{i:Nat}(h:∀ j x,i<=j->l[j]? = some x->Zo x.1 k=false):Zfd l k=Zfd (l.take i) k:=by{
 have e:Zfd l k=Zfd (l.take i) k+Zfd (l.drop i) k:=by
  unfold Zfd;rw[<- Pz,<- Qah,Qz]
 have z:Zfd (l.drop i) k=0:=by
  unfold Zfd;rw[List.length_eq_zero_iff,Qai];intro x hx;obtain⟨j,hj⟩:=Qaj.1 hx;rw[Pc] at hj;rw[h (i+j) x (by omega) hj];simp
 omega}
theorem Uo {n:Nd}(h:mayN n=true){k:Ky}{i:Nat}{x:It}(hx:n.2[i]? = some x):Zo x.1 k=decide (i<Z2 n k):=by{
 have hi:=(Qj.1 hx).1;cases e:Zo x.1 k with
 | true =>
  have h1:Zfd (n.2.take (i+1)) k=i+1:=Zt4 (by omega) (fun j y hj hy=>by
   rcases Po j i with h2 | h2
   ·exact Yo (Zay h h2 hy hx) e
   ·obtain rfl:j=i:=by omega
    rw[hx] at hy;cases hy
    exact e)
  have h2:=Z62 n.2 k (i+1);have h3:Z2 n k=Zfd n.2 k:=rfl;have:i<Z2 n k:=by omega
  simp[this]
 | false =>
  have h1:Zfd n.2 k=Zfd (n.2.take i) k:=Zzn (fun j y hj hy=>by
   rcases Po i j with h2 | h2
   ·cases e2:Zo y.1 k with
    | false=>rfl
    | true =>
     have:=Yo (Zay h h2 hx hy) e2;rw[e] at this;cases this
   ·obtain rfl:i=j:=by omega
    rw[hx] at hy;cases hy
    exact e)
  have h2:=Zpj n.2 k i;have h3:Z2 n k=Zfd n.2 k:=rfl;have:¬ i<Z2 n k:=by omega
  simp[this]}
theorem Zb8 (n:Nd) (k:Ky):Z2 n k<=n.2.length:=Z1y _ _
theorem Zka {n:Nd}(h:mayN n=true){i:Nat}{x:It}(hx:n.2[i]? = some x):Z2 n x.1=i/\Ym n x.1=true:=by{
 have hi:=(Qj.1 hx).1;have h1:¬ i<Z2 n x.1:=fun h2=>by
  have:=Uo h (k:=x.1) hx;rw[Xi] at this;simp[h2] at this
 have h2:Z2 n x.1=i:=by
  rcases Nat.eq_zero_or_pos i with h0 | h0
  ·omega
  ·obtain⟨j,rfl⟩:∃ j,i=j+1:=⟨i-1,by omega⟩
   have hy:n.2[j]? = some n.2[j]:=Qc (by omega);have h3:=Uo h (k:=x.1) hy;rw[Zjf h hy hx] at h3;have:j<Z2 n x.1:=by simpa using h3.symm
   omega
 exact⟨h2,by rw[Zin (by rw[h2];exact hx)];simp⟩}
theorem Z4r {p:It->Bool}{l:List It}{k:Nat}{x:It}(hx:l[k]? = some x):(l.take (k+1)).reverse.find? p=if p x=true then some x else (l.take k).reverse.find? p:=by
 have hk:=(Qj.1 hx).1;have hg:l[k]=x:=(Qj.1 hx).2;rw[<- Pi hk,hg,Qak,List.reverse_singleton,List.singleton_append,Qae];cases p x <;> rfl
theorem Z0j {p:It->Bool}{l:List It}{j:Nat}{x:It}(hx:l[j]? = some x) (h1:p x=true) (h2:∀ i y,j<i->l[i]? = some y->p y=false):l.reverse.find? p=some x:=by{
 have e:l.reverse.find? p=(l.take (j+1)).reverse.find? p:=by
  conv=>lhs;rw[<- Qz (j+1) l,Qak,Qad]
  rw[Zdf (l:=l.drop (j+1)) fun y hy=>by
   obtain⟨i,hi⟩:=Qm hy;rw[Pc] at hi
   exact h2 (j+1+i) y (by omega) hi]
  rfl
 rw[e,Z4r hx,if_pos h1]}
theorem Ur {n:Nd}(h:mayN n=true){k:Ky}{x:It}(ht:Ym n k=true) (hx:n.2[Z2 n k]? = some x):x.1=k/\(n.2.reverse.find? fun x => !Zo k x.1)=some x/\(n.2.reverse.find? fun x=>decide (x.1=k))=some x:=by{
 have e:x.1=k:=by
  rw[Zin hx] at ht
  simpa using ht
 have hup:∀ i y,Z2 n k<i->n.2[i]? = some y->Zo k y.1=true:=fun i y hi hy=>by
  rw[<- e];exact Zay h hi hx hy
 refine⟨e,Z0j hx (by rw[e,Xi];rfl) fun i y hi hy=>by rw[hup i y hi hy];rfl,Z0j hx (by simpa using e) fun i y hi hy=> ?_⟩;have h1:=hup i y hi hy;have:y.1≠k:=fun e2=>by rw[e2,Xi] at h1;cases h1
 simpa using this}
theorem Zg0 {n:Nd}(h:mayN n=true){k:Ky}(ht:Ym n k=false):(n.2.reverse.find? fun x=>decide (x.1=k))=none:=Zdf fun x hx=>by
 obtain⟨i,hi⟩:=Qm hx;have:x.1≠k:=fun e=>by
  have:=(Zka h hi).2;rw[e,ht] at this;cases this
 simpa using this
theorem Zbs {n:Nd}(h:mayN n=true){k:Ky}(ht:Ym n k=false){i:Nat}{y:It}(hi:Z2 n k<=i) (hy:n.2[i]? = some y):Zo k y.1=true:=by
 have h1:=Uo h (k:=k) hy;rw[decide_eq_false (by omega)] at h1;have hne:y.1≠k:=fun e=>by
  have:=(Zka h hy).2;rw[e,ht] at this;cases this
 exact Zcc hne h1
theorem Zi9 {n:Nd}(h:mayN n=true){k:Ky}{j:Nat}{x:It}(ht:Ym n k=false) (hj:Z2 n k=j+1) (hx:n.2[j]? = some x):(n.2.reverse.find? fun x => !Zo k x.1)=some x:=by
 have h1:=Uo h (k:=k) hx;rw[decide_eq_true (by omega)] at h1;refine Z0j hx (by rw[Vv h1];rfl) fun i y hi hy=> ?_
 rw[Zbs h ht (by omega) hy];rfl
theorem Zlw {n:Nd}(h:mayN n=true){k:Ky}(ht:Ym n k=false) (hj:Z2 n k=0):(n.2.reverse.find? fun x => !Zo k x.1)=none:=Zdf fun y hy=>by
 obtain⟨i,hi⟩:=Qm hy;rw[Zbs h ht (by omega) hi];rfl
theorem Zbu {n:Nd}{k:Ky}(ht:Ym n k=true):Z2 n k<n.2.length:=by{
 rcases Po (Z2 n k) n.2.length with h | h
 ·exact h
 ·rw[Zlp h] at ht
  cases ht}
structure AtT (s:Rm) (l:Nat) (a:Int):Prop where
 ok:rmE s a=0
 lvl:(rmV s a).1=(l:Int)
 below:∀ j,l=j+1->∀ x∈(rmV s a).2,∃ t e,Zx s j x.2.1 x.1 t e=true
theorem AtT.may {s:Rm}{l:Nat}{a:Int}(h:AtT s l a):mayN (rmV s a)=true:=(Ya h.ok).1
theorem Z24 {s:Rm}{l:Nat}{a:Int}{k tb:Ky}{e:Bool}(h:Zx s l a k tb e=true):AtT s l a:=by
 obtain⟨h1,h2,_,h4⟩:=Z9 h;refine⟨h1,h2,fun j hj x hx=> ?_⟩;subst hj;exact Xm h4 x hx
theorem AtT.down {s:Rm}{j:Nat}{a:Int}(h:AtT s (j+1) a){x:It}(hx:x∈(rmV s a).2):AtT s j x.2.1:=by
 obtain⟨t,e,hr⟩:=h.below j rfl x hx;exact Z24 hr
theorem Za8 {s:Rm}{a:Int}(h:Ys s a=true):AtT s (rmV s a).1.toNat a:=by
 obtain⟨h1,_,_,l0,_,hi⟩:=Y5 h;refine⟨h1,by omega,fun j hj x hx=> ?_⟩;unfold Uj at hi;rw[hj] at hi;exact Xm hi x hx
theorem Zkc (s:Rm) (a:Int) (k:Ky):Zc7 s 0 a k=(rmV s a).2.reverse.find? fun x=>decide (x.1=k):=rfl
theorem Zj8 (s:Rm) (l:Nat) (a:Int) (k:Ky):Zc7 s (l+1) a k=((rmV s a).2.reverse.find? fun x => !Zo k x.1).bind fun x=>Zc7 s l x.2.1 k:=rfl
def Zc4 (s:Rm) (n:Nd):Option (Ky×Ky):=match n.1.toNat with
 | 0=>if Yt s n.2=true then (n.2[0]?).bind fun x=>(n.2.getLast?).map fun y=>(x.1,y.1) else none
 | l+1=>Y9 (Za6 s l) n.2
theorem Zpo (s:Rm) (l:Nat) (a:Int):Za6 s l a=if rmE s a=0/\(rmV s a).1=(l:Int) then Zc4 s (rmV s a) else none:=by{
 cases l with
 | zero =>
  unfold Za6;by_cases h1:rmE s a=0/\(rmV s a).1=((0:Nat):Int)
  ·rw[if_pos h1]
   unfold Zc4;rw[h1.2];by_cases h2:Yt s (rmV s a).2=true
   ·rw[if_pos ⟨h1.1,rfl,h2⟩]
    show _=if Yt s (rmV s a).2=true then _ else none
    rw[if_pos h2]
   ·rw[if_neg (fun h=>h2 h.2.2)]
    show _=if Yt s (rmV s a).2=true then _ else none
    rw[if_neg h2]
  ·rw[if_neg h1,if_neg (fun h=>h1 ⟨h.1,h.2.1⟩)]
 | succ l =>
  unfold Za6;by_cases h1:rmE s a=0/\(rmV s a).1=((l+1:Nat):Int)
  ·rw[if_pos h1,if_pos h1]
   unfold Zc4;rw[h1.2,show ((l+1:Nat):Int).toNat=l+1 by omega]
  ·rw[if_neg h1,if_neg h1]}
theorem Zoh {s:Rm}{n:Nd}{x y:It}{j:Nat}(h:n.1=0) (hx:n.2[0]? = some x) (hj:n.2.length=j+1) (hy:n.2[j]? = some y):Zc4 s n=if Yt s n.2=true then some (x.1,y.1) else none:=by
 have hl:n.2.getLast? = some y:=by rw[List.getLast?_eq_getElem?,hj];exact hy
 unfold Zc4;rw[h];show (if Yt s n.2=true then _ else none)=_;rw[hx,hl];rfl
theorem Zpc {s:Rm}{n:Nd}{l:Nat}(h:n.1=((l+1:Nat):Int)):Zc4 s n=Y9 (Za6 s l) n.2:=by
 unfold Zc4;rw[h,show ((l+1:Nat):Int).toNat=l+1 by omega]
theorem Zfm {g:Int->Option (Ky×Ky)}{l:List It}{x:It}(hx:l[0]? = some x):Y9 g (l.take 1)=(g x.2.1).bind fun p=>if p.1=x.1 then some p else none:=by{
 cases l with
 | nil=>cases hx
 | cons y r =>
  cases hx;rfl}
theorem Zp3 {g:Int->Option (Ky×Ky)}(x:It):∀ (l:List It),l≠[]->Y9 g (l++[x])=(Y9 g l).bind fun q=>(g x.2.1).bind fun p=>if p.1=x.1/\Zo q.2 x.1=true then some (q.1,p.2) else none
 | [],h=>absurd rfl h
 | [y],_=>by
  show (g y.2.1).bind _=_;unfold Y9;cases g y.2.1 with
  | none=>rfl
  | some p =>
   show ((Y9 g [x]).bind _)=((if p.1=y.1 then some p else none):Option (Ky×Ky)).bind _;unfold Y9;cases g x.2.1 with
   | none =>
    by_cases h1:p.1=y.1 <;> simp[h1]
   | some q =>
    by_cases h1:p.1=y.1 <;> by_cases h2:q.1=x.1 <;> by_cases h3:Zo p.2 x.1=true <;> simp[h1,h2,h3]
 | y::z::r,_=>by
  have ih:=Zp3 (g:=g) x (z::r) (by simp);show (g y.2.1).bind (fun p=>(Y9 g (z::r++[x])).bind _)=_;rw[ih]
  conv=>rhs;unfold Y9
  cases g y.2.1 with
  | none=>rfl
  | some p =>
   cases Y9 g (z::r) with
   | none=>rfl
   | some q =>
    cases g x.2.1 with
    | none =>
     by_cases h1:p.1=y.1/\Zo p.2 z.1=true <;> simp[h1]
    | some q' =>
     by_cases h1:p.1=y.1/\Zo p.2 z.1=true <;> by_cases h2:q'.1=x.1/\Zo q.2 x.1=true <;> simp[h1,h2]
theorem Za1 {g:Int->Option (Ky×Ky)}{l:List It}{k:Nat}{x:It}(hx:l[k]? = some x) (hk:0<k):Y9 g (l.take (k+1))=(Y9 g (l.take k)).bind fun q=>(g x.2.1).bind fun p=>if p.1=x.1/\Zo q.2 x.1=true then some (q.1,p.2) else none:=by
 have hl:=(Qj.1 hx).1;have hg:l[k]=x:=(Qj.1 hx).2;rw[<- Pi hl,hg];exact Zp3 x _ fun e=>by
  have h0:(l.take k).length=0:=by rw[e];rfl
  rw[Pp] at h0;omega
theorem Zjd {g:Int->Option (Ky×Ky)}{l:List It}:∀ {k:Nat},0<k->Y9 g (l.take k)=none->Y9 g l=none:=fun {k} hk h=>by
 induction hn:l.length-k generalizing k with
 | zero=>rwa [Qal (by omega)] at h
 | succ n ih =>
  obtain⟨x,hx⟩:∃ x,l[k]? = some x:=⟨_,Qc (by omega)⟩
  exact ih (k:=k+1) (by omega) (by rw[Za1 hx hk,h];rfl) (by omega)
theorem Z0k {g:Int->Option (Ky×Ky)}{l:List It}{x:It}(hx:l[0]? = some x):∀ {k:Nat}{q:Ky×Ky},0<k->k<=l.length->Y9 g (l.take k)=some q->q.1=x.1:=fun {k} {q} hk hl h=>by
 induction k generalizing q with
 | zero=>omega
 | succ k ih =>
  by_cases h0:k=0
  ·subst h0
   rw[Zfm hx] at h;cases hg:g x.2.1 with
   | none=>rw[hg] at h;cases h
   | some p =>
    rw[hg] at h;have h':(if p.1=x.1 then some p else none)=some q:=h;split at h'
    ·rename_i e;cases h';exact e
    ·cases h'
  ·obtain⟨y,hy⟩:∃ y,l[k]? = some y:=⟨_,Qc (by omega)⟩
   rw[Za1 hy (by omega)] at h;cases hc:Y9 g (l.take k) with
   | none=>rw[hc] at h;cases h
   | some q' =>
    have e:=ih (by omega) (by omega) hc;rw[hc] at h;cases hg:g y.2.1 with
    | none=>rw[hg] at h;cases h
    | some p =>
     rw[hg] at h;have h':(if p.1=y.1/\Zo q'.2 y.1=true then some (q'.1,p.2) else none)=some q:=h;split at h'
     ·cases h';exact e
     ·cases h'
def Zcr (s:Rm) (n:Nd):Bool:=decide (n.2.length=0)||(Zc4 s n).isSome
theorem Zrh {s:Rm}{a:Int}(h:rmE s a=0):Zcr s (rmV s a)=Ys s a:=by{
 have hm:=(Ya h).1;have hsh:=(Zw hm).1;have e:Ys s a=true↔Zcr s (rmV s a)=true:=by
  rw[Z0v];unfold Zcr;rw[Qag,decide_eq_true_eq];cases hl:(rmV s a).1.toNat with
  | zero =>
   have h0:(rmV s a).1=0:=by omega
   simp only;by_cases hz:(rmV s a).2.length=0
   ·have:(rmV s a).2=[]:=Qam hz
    rw[this];simp[h,Yt]
   ·obtain⟨j,hj⟩:∃ j,(rmV s a).2.length=j+1:=⟨(rmV s a).2.length-1,by omega⟩
    obtain⟨x,hx⟩:∃ x,(rmV s a).2[0]? = some x:=⟨_,Qc (by omega)⟩
    obtain⟨y,hy⟩:∃ y,(rmV s a).2[j]? = some y:=⟨_,Qc (by omega)⟩
    rw[Zoh h0 hx hj hy];by_cases h2:Yt s (rmV s a).2=true <;> simp[h,h2,hz]
  | succ l =>
   have h1:(rmV s a).1=((l+1:Nat):Int):=by omega
   have hz:¬ (rmV s a).2.length=0:=by have:=hsh.2.2.2 (by omega);omega
   rw[Zpc h1];simp only;constructor
   ·rintro⟨_,p,hp⟩
    rw[hp];exact .inr rfl
   ·rintro(h3 | h3)
    ·exact absurd h3 hz
    ·exact⟨h,Option.isSome_iff_exists.1 h3⟩
 cases h1:Ys s a with
 | true=>exact e.1 h1
 | false =>
  cases h2:Zcr s (rmV s a) with
  | false=>rfl
  | true=>rw[e.2 h2] at h1;cases h1}
def Z55 (f t:Ky) (x:It):Bool := !Zo x.1 f && !Zo t x.1
def Zhm (s:Rm) (a:Int) (f t:Ky):List It:=(Zbk s a).filter (Z55 f t)
def raV (s:Rm) (a:Int) (f t:Ky):List It:=if ckE s a=0 then Zhm s a f t else []
theorem Z4e {f t:Ky}{x:It}:Z55 f t x=true↔Zo x.1 f=false/\Zo t x.1=false:=by
 unfold Z55;simp
theorem Zsl {a b c:Ky}(h:Zo a b=true) (h':Zo c b=false):Zo a c=true:=by
 by_cases e:c=b
 ·rw[e];exact h
 ·exact Yo h (Zcc e h')
theorem Um {p:It->Bool}{L:List It}(h:∀ x∈L,p x=false):L.filter p=[]:=by
 rw[Qai];intro x hx;rw[h x hx];simp
def Y6 (s:Rm):Nat->Int->List Int
 | 0,a=>[a]
 | l+1,a=>a::(rmV s a).2.flatMap fun x=>Y6 s l x.2.1
def Vw (s:Rm):Nat->Int->List Int
 | 0,a=>((rmV s a).2.map fun x=>x.2.1).filter fun r=>decide (r≠0)
 | l+1,a=>(rmV s a).2.flatMap fun x=>Vw s l x.2.1
def Xj (s:Rm) (a:Int):List Int:=Y6 s (rmV s a).1.toNat a
def Zer (s:Rm) (a:Int):List Int:=Vw s (rmV s a).1.toNat a
def Zq9 (L:List Int):List Nat:=(List.range 256).filter fun k=>decide ((k:Int)∈L)
theorem Z6y (L:List Int):(Zq9 L).Pairwise (· < ·):=P4.filter _ List.pairwise_lt_range
theorem Zz4 {L:List Int}{k:Nat}:k∈Zq9 L↔k<256/\(k:Int)∈L:=by
 unfold Zq9;rw[Qi,List.mem_range,decide_eq_true_eq]
structure Blk (s:Rm) (l:Nat) (a:Int) (N R:List Int):Prop where
 root:a∈N
 node:∀ n∈N,rmE s n=0
 sub:∀ n∈N,∀ x∈(rmV s n).2,((rmV s n).1≠0->x.2.1∈N)/\((rmV s n).1=0->x.2.1≠0->x.2.1∈R)
 held:∀ r∈R,r≠0/\s.2.1[r.toNat]?.getD 0≠0/\8<=r/\r<256
theorem Zzs {s:Rm}{l:List It}(h:Yt s l=true){x:It}(hx:x∈l):x.2.1=0\/s.2.1[x.2.1.toNat]?.getD 0≠0:=by
 unfold Yt at h;rw[Qy] at h;have:=h x hx
 simpa using this
theorem Z8u {n:Nd}(h:mayN n=true){x:It}(hx:x∈n.2):x.2.1=0\/(8<=x.2.1/\x.2.1<256):=by
 obtain⟨i,hi⟩:=Qm hx;exact(Zak (Zq2 (Zf3 h hi))).1
theorem Zs6 {s:Rm}{a:Int}(h1:rmE s a=0) (h2:(rmV s a).1=0) (h3:Yt s (rmV s a).2=true):Blk s 0 a (Y6 s 0 a) (Vw s 0 a):=by{
 have hm:=(Ya h1).1;refine⟨by simp[Y6],fun n hn=> ?_,fun n hn x hx=> ?_,fun r hr=> ?_⟩
 ·simp only[Y6,Ql] at hn
  subst hn;exact h1
 ·simp only[Y6,Ql] at hn
  subst hn;refine⟨fun h=>absurd h2 h,fun _ h0=> ?_⟩;simp only[Vw,Qi,Pe,decide_eq_true_eq];exact⟨⟨x,hx,rfl⟩,h0⟩
 ·simp only[Vw,Qi,Pe,decide_eq_true_eq] at hr
  obtain⟨⟨x,hx,rfl⟩,h0⟩:=hr;rcases Z8u hm hx with e | e
  ·exact absurd e h0
  ·rcases Zzs h3 hx with e' | e'
   ·exact absurd e' h0
   ·exact⟨h0,e',e.1,e.2⟩}
theorem Z6j {s:Rm}{l:Nat}{a:Int}(h1:rmE s a=0) (h2:(rmV s a).1=((l+1:Nat):Int)) (h3:∀ x∈(rmV s a).2,Blk s l x.2.1 (Y6 s l x.2.1) (Vw s l x.2.1)):Blk s (l+1) a (Y6 s (l+1) a) (Vw s (l+1) a):=by{
 refine⟨by simp[Y6],fun n hn=> ?_,fun n hn x hx=> ?_,fun r hr=> ?_⟩
 ·simp only[Y6,Qe,Qk] at hn
  rcases hn with rfl | ⟨y,hy,hn⟩
  ·exact h1
  ·exact(h3 y hy).node n hn
 ·simp only[Y6,Qe,Qk] at hn ⊢
  simp only[Vw,Qk];rcases hn with rfl | ⟨y,hy,hn⟩
  ·exact⟨fun _=>.inr ⟨x,hx,(h3 x hx).root⟩,fun h=>by rw[h2] at h;omega⟩
  ·obtain⟨e1,e2⟩:=(h3 y hy).sub n hn x hx
   exact⟨fun h=>.inr ⟨y,hy,e1 h⟩,fun h h'=>⟨y,hy,e2 h h'⟩⟩
 ·simp only[Vw,Qk] at hr
  obtain⟨y,hy,hr⟩:=hr;exact(h3 y hy).held r hr}
theorem Zof (s:Rm):∀ (l:Nat) (a:Int) (k tb:Ky) (e:Bool),Zx s l a k tb e=true->Blk s l a (Y6 s l a) (Vw s l a)
 | 0,a,k,tb,e,h=>by
  obtain⟨h1,h2,_,h4⟩:=Z9 h;exact Zs6 h1 h2 h4
 | l+1,a,k,tb,e,h=>by
  obtain⟨h1,h2,_,h4⟩:=Z9 h;exact Z6j h1 h2 fun x hx=>by
   obtain⟨t',e',hf⟩:=Xm h4 x hx;exact Zof s l _ _ _ _ hf
theorem Zar {s:Rm}{a:Int}(h:Ys s a=true):Blk s (rmV s a).1.toNat a (Xj s a) (Zer s a):=by{
 obtain⟨h1,_,_,l0,_,hi⟩:=Y5 h;unfold Xj Zer;unfold Uj at hi;cases hl:(rmV s a).1.toNat with
 | zero =>
  rw[hl] at hi;exact Zs6 h1 (by omega) hi
 | succ l =>
  rw[hl] at hi;exact Z6j h1 (by omega) fun x hx=>by
   obtain⟨t',e',hf⟩:=Xm hi x hx;exact Zof s l _ _ _ _ hf}
theorem Y2 {s:Rm}{n:Int}(h:rmE s n=0):8<=n/\n<256/\s.2.1[n.toNat]?.getD 0≠0:=by
 obtain⟨k,rfl,_,h8,h256,_,_,_,_,hx⟩:=Y4 (Ya h).2;exact⟨by omega,by omega,by rw[show ((k:Int)).toNat=k by omega];exact hx⟩
theorem Zn7 (s:Rm):∀ (l:Nat) (a:Int),a∈Y6 s l a
 | 0,a=>by simp[Y6]
 | l+1,a=>by simp[Y6]
structure OnT (s t:Rm) (N R:List Int):Prop where
 may:Xk t=true
 node:∀ n∈N,t.2.1[n.toNat]?.getD 0≠0
 seen:∀ n∈N,Zz t.1 n.toNat=Zz s.1 n.toNat
 refs:∀ r∈R,t.2.1[r.toNat]?.getD 0≠0
theorem Zre {s t:Rm}{N R:List Int}(h:OnT s t N R){n:Int}(hn:n∈N) (he:rmE s n=0):rmE t n=0/\rmV t n=rmV s n:=by{
 obtain⟨_,ha⟩:=Ya he;obtain⟨k,rfl,hm,h8,h256,_,_,hE,hV,hx⟩:=Y4 ha;have h1:=h.node _ hn;have h2:=h.seen _ hn;rw[show ((k:Int)).toNat=k by omega] at h1 h2;have ht:asE t (k:Int)=0:=Zb7 h.may h8 h256 h1;refine⟨?_,?_⟩
 ·rw[rmE,if_pos ht,show ((k:Int)).toNat=k by omega,h2,<- hE]
  exact he
 ·rw[hV,rmV,if_pos ht,show ((k:Int)).toNat=k by omega,h2]}
theorem Z09 {s t:Rm}{N R:List Int}(h:OnT s t N R){l:List It}(hl:∀ x∈l,x.2.1≠0->x.2.1∈R):Yt t l=true:=by{
 unfold Yt;rw[Qy];intro x hx;by_cases h0:x.2.1=0
 ·simp[h0]
 ·have:=h.refs _ (hl x hx h0)
  simp[this]}
theorem Zff {g g':Int->List Int}:∀ {l:List It},(∀ x∈l,g x.2.1=g' x.2.1)->l.flatMap (fun x=>g x.2.1)=l.flatMap fun x=>g' x.2.1
 | [],_=>rfl
 | x::r,h=>by
  rw[Qx,Qx,h x Qg,Zff fun y hy=>h y (Qf _ hy)]
theorem Zgd {f f':Int->Ky->Ky->Bool->Bool}:∀ {l:List It}{tb:Ky}{e:Bool},(∀ x∈l,∀ k tb e,f x.2.1 k tb e=true->f' x.2.1 k tb e=true)->Zae f l tb e=true->Zae f' l tb e=true
 | [],_,_,_,_=>rfl
 | x::r,tb,e,h,hf=>by
  rw[Xx,Qd] at hf ⊢;exact⟨h x Qg _ _ _ hf.1,Zgd (fun y hy=>h y (Qf _ hy)) hf.2⟩
structure Z80 (s t:Rm) (l:Nat) (a:Int):Prop where
 its:X7 t l a=X7 s l a
 one:∀ q,Zc7 t l a q=Zc7 s l a q
 nodes:Y6 t l a=Y6 s l a
 refs:Vw t l a=Vw s l a
theorem Zia {s t:Rm}{N R:List Int}(h:OnT s t N R):∀ (l:Nat) (a:Int) (k tb:Ky) (e:Bool),Zx s l a k tb e=true->(∀ n∈Y6 s l a,n∈N)->(∀ r∈Vw s l a,r∈R)->Zx t l a k tb e=true/\Z80 s t l a
 | 0,a,k,tb,e,hr,h1,h2=>by
  obtain⟨r1,r2,r3,r4⟩:=Z9 hr;obtain⟨k1,k2⟩:=Zre h (h1 a (Zn7 s 0 a)) r1;refine⟨?_,by unfold X7;rw[k2],fun q=>by unfold Zc7;rw[k2],rfl,by unfold Vw;rw[k2]⟩
  have hl:Yt t (rmV s a).2=true:=Z09 h fun x hx h0=>h2 _ (by
   simp only[Vw,Qi,Pe,decide_eq_true_eq]
   exact⟨⟨x,hx,rfl⟩,h0⟩)
  unfold Zx;rw[k1,k2,r2,r3,hl];rfl
 | l+1,a,k,tb,e,hr,h1,h2=>by
  obtain⟨r1,r2,r3,r4⟩:=Z9 hr;obtain⟨k1,k2⟩:=Zre h (h1 a (Zn7 s (l+1) a)) r1
  have g1:∀ x∈(rmV s a).2,∀ n∈Y6 s l x.2.1,n∈N:=fun x hx n hn=>h1 n (by
   simp only[Y6,Qe,Qk]
   exact .inr ⟨x,hx,hn⟩)
  have g2:∀ x∈(rmV s a).2,∀ n∈Vw s l x.2.1,n∈R:=fun x hx n hn=>h2 n (by
   simp only[Vw,Qk]
   exact⟨x,hx,hn⟩)
  have hs:∀ x∈(rmV s a).2,Z80 s t l x.2.1:=fun x hx=>by
   obtain⟨t',e',hf⟩:=Xm r4 x hx;exact(Zia h l _ _ _ _ hf (g1 x hx) (g2 x hx)).2
  have hi:Zae (Zx t l) (rmV s a).2 tb e=true:=Zgd (fun x hx k tb e hf=>(Zia h l _ _ _ _ hf (g1 x hx) (g2 x hx)).1) r4;refine⟨?_,?_,fun q=> ?_,?_,?_⟩
  ·unfold Zx
   rw[k1,k2,r2,r3,hi];simp
  ·unfold X7
   rw[k2];exact X8 fun x hx=>(hs x hx).its
  ·unfold Zc7
   rw[k2];cases hf:(rmV s a).2.reverse.find? (fun x => !Zo q x.1) with
   | none=>rfl
   | some y=>exact(hs y (Pd.1 (Pm hf))).one q
  ·unfold Y6
   rw[k2];exact congrArg (a :: ·) (Zff fun x hx=>(hs x hx).nodes)
  ·unfold Vw
   rw[k2];exact Zff fun x hx=>(hs x hx).refs
theorem Z6u {s t:Rm}{N R:List Int}(h:OnT s t N R){a:Int}(ht:Ys s a=true) (h1:∀ n∈Xj s a,n∈N) (h2:∀ r∈Zer s a,r∈R) :
  Ys t a=true/\rmV t a=rmV s a/\Zbk t a=Zbk s a/\(∀ q,Zf9 t a q=Zf9 s a q)/\Xj t a=Xj s a/\Zer t a=Zer s a:=by{
 obtain⟨r1,_,hm,l0,l6,hi⟩:=Y5 ht;have hin:a∈N:=h1 a (Zar ht).root;obtain⟨k1,k2⟩:=Zre h hin r1;unfold Xj at h1;unfold Zer at h2;unfold Uj at hi;unfold Zbk Zf9 Xj Zer Ys Uj;rw[k1,k2];cases hl:(rmV s a).1.toNat with
 | zero =>
  rw[hl] at hi h1 h2
  have hlf:Yt t (rmV s a).2=true:=Z09 h fun x hx h0=>h2 _ (by
   simp only[Vw,Qi,Pe,decide_eq_true_eq]
   exact⟨⟨x,hx,rfl⟩,h0⟩)
  refine⟨by simp only[hlf];rfl,rfl,by unfold X7;rw[k2],fun q=>by unfold Zc7;rw[k2],rfl,by unfold Vw;rw[k2]⟩
 | succ l =>
  rw[hl] at hi h1 h2
  have g1:∀ x∈(rmV s a).2,∀ n∈Y6 s l x.2.1,n∈N:=fun x hx n hn=>h1 n (by
   simp only[Y6,Qe,Qk]
   exact .inr ⟨x,hx,hn⟩)
  have g2:∀ x∈(rmV s a).2,∀ n∈Vw s l x.2.1,n∈R:=fun x hx n hn=>h2 n (by
   simp only[Vw,Qk]
   exact⟨x,hx,hn⟩)
  have hs:∀ x∈(rmV s a).2,Z80 s t l x.2.1:=fun x hx=>by
   obtain⟨t',e',hf⟩:=Xm hi x hx;exact(Zia h l _ _ _ _ hf (g1 x hx) (g2 x hx)).2
  have hi':Zae (Zx t l) (rmV s a).2 Zbm false=true:=Zgd (fun x hx k tb e hf=>(Zia h l _ _ _ _ hf (g1 x hx) (g2 x hx)).1) hi;refine⟨by simp only[hi'];rfl,rfl,?_,fun q=> ?_,?_,?_⟩
  ·unfold X7
   rw[k2];exact X8 fun x hx=>(hs x hx).its
  ·unfold Zc7
   rw[k2];cases hf:(rmV s a).2.reverse.find? (fun x => !Zo q x.1) with
   | none=>rfl
   | some y=>exact(hs y (Pd.1 (Pm hf))).one q
  ·unfold Y6
   rw[k2];exact congrArg (a :: ·) (Zff fun x hx=>(hs x hx).nodes)
  ·unfold Vw
   rw[k2];exact Zff fun x hx=>(hs x hx).refs}
def ndD (d:Dk) (n:Int):Nd:=reV (Zz d n.toNat)
def Zcw (d:Dk):List Int->Nat->Nat
 | [],_=>0
 | n::r,k=>Xh (ndD d n).2 k+Zcw d r k
def Yy (t:List UInt8) (k:Nat):Nat:=(t[k]?.getD 0).toNat
structure Enf (d:Dk) (t:List UInt8) (P:Nat->Nat) (N:List Int):Prop where
 once:N.Nodup
 node:∀ n∈N,0<=n/\n<256/\reN (Zz d n.toNat)=0/\Yy t n.toNat≠0
 shut:∀ n∈N,(ndD d n).1≠0->∀ x∈(ndD d n).2,x.2.1∈N/\x.2.1≠0/\(ndD d x.2.1).1+1=(ndD d n).1
 refs:∀ n∈N,Zbc (ndD d n).2
 enough:∀ k,P k+Zcw d N k<=Yy t k
theorem Znz (d:Dk) (p:Int->Bool) (k:Nat):∀ N:List Int,Zcw d (N.filter p) k<=Zcw d N k
 | []=>Qa _
 | n::r=>by
  have:=Znz d p k r;rw[List.filter_cons];split
  ·unfold Zcw;omega
  ·show Zcw d (r.filter p) k<=Xh (ndD d n).2 k+Zcw d r k
   omega
theorem Znc {d:Dk}{a:Int}{k:Nat}:∀ {N:List Int},N.Nodup->a∈N->Zcw d N k=Xh (ndD d a).2 k+Zcw d (N.filter fun n=>decide (n≠a)) k
 | n::r,h,ha=>by
  obtain⟨h1,h2⟩:=Qan.1 h;by_cases e:n=a
  ·subst e
   have:(n::r).filter (fun m=>decide (m≠n))=r:=by
    rw[List.filter_cons_of_neg (by simp),Pq];intro m hm;have:m≠n:=fun e=>h1 (e ▸ hm)
    simpa using this
   rw[this];rfl
  ·have ha':a∈r:=by
    rcases Qe.1 ha with e' | h
    ·exact absurd e'.symm e
    ·exact h
   rw[Qao (by simpa using e)];show Xh (ndD d n).2 k+Zcw d r k=_+(Xh (ndD d n).2 k+Zcw d (r.filter fun m=>decide (m≠a)) k);rw[Znc h2 ha'];omega
theorem Zg2 {d:Dk}{k:Nat}{n:Int}:∀ {N:List Int},n∈N->Xh (ndD d n).2 k<=Zcw d N k
 | m::r,h=>by
  unfold Zcw;rcases Qe.1 h with rfl | h
  ·omega
  ·have:=Zg2 (k:=k) (d:=d) h
   omega
theorem Zao {l:List It}{x:It}(hx:x∈l){k:Nat}(hk:x.2.1=(k:Int)) (h0:x.2.1≠0):1<=Xh l k:=by{
 induction l with
 | nil=>cases hx
 | cons y r ih =>
  unfold Xh;rcases Qe.1 hx with rfl | hx
  ·rw[if_pos hk,if_neg h0]
   omega
  ·have:=ih hx
   omega}
theorem Zhj {t u:List UInt8}{a:Nat}(h:dnO t a=some u):Yy t a=Yy u a+1/\(∀ k,k≠a->Yy u k=Yy t k):=by
 obtain⟨h1,h2,h3,h4⟩:=Zd3 h;refine⟨h4.symm,fun k hk=> ?_⟩;unfold Yy;rw[h2,List.getElem?_set_ne (Ne.symm hk)]
def Un (u:List UInt8) (N:List Int):List Int:=N.filter fun n=>decide (Yy u n.toNat≠0)
theorem Zml {u:List UInt8}{N:List Int}{n:Int}:n∈Un u N↔n∈N/\Yy u n.toNat≠0:=by
 unfold Un;rw[Qi,decide_eq_true_eq]
theorem Enf.part {d:Dk}{t u:List UInt8}{P Q:Nat->Nat}{N:List Int}(h:Enf d t P N) (p:Int->Bool) (hn:∀ n∈N,p n=true->Yy u n.toNat≠0) (hs:∀ n∈N,p n=true->∀ x∈(ndD d n).2,x.2.1∈N->x.2.1≠0->p x.2.1=true) (he:∀ k,Q k+Zcw d (N.filter p) k<=Yy u k):Enf d u Q (N.filter p):=by{
 refine⟨h.once.filter _,fun n hm=> ?_,fun n hm h0 x hx=> ?_,fun n hm=> ?_,he⟩
 ·obtain⟨h1,h2⟩:=Qi.1 hm
  obtain⟨g1,g2,g3,_⟩:=h.node n h1;exact⟨g1,g2,g3,hn n h1 h2⟩
 ·obtain⟨h1,h2⟩:=Qi.1 hm
  obtain⟨g1,g2,g3⟩:=h.shut n h1 h0 x hx;exact⟨Qi.2 ⟨g1,hs n h1 h2 x hx g1 g2⟩,g2,g3⟩
 ·exact h.refs n (Qi.1 hm).1}
theorem Zmh {d:Dk}{t u:List UInt8}{P:Nat->Nat}{N:List Int}{a:Nat}(h:Enf d t (fun k=>P k+if k=a then 1 else 0) N) (hd:dnO t a=some u):Enf d u P (Un u N):=by{
 obtain⟨c1,c2⟩:=Zhj hd;refine h.part _ (fun n hn hp=>by simpa using hp) (fun n hn hp x hx hxN hx0=> ?_) (fun k=> ?_)
 ·simp only[decide_eq_true_eq] at hp ⊢
  intro h0;obtain⟨g1,_,_,g4⟩:=h.node _ hxN;have hxa:x.2.1.toNat=a:=by
   by_cases e:x.2.1.toNat=a
   ·exact e
   ·rw[c2 _ e] at h0
    exact absurd h0 g4
  have h1:=h.enough a;rw[hxa] at h0;have h2:=Zao hx (k:=a) (by omega) hx0;have h3:=Zg2 (d:=d) (k:=a) hn;simp only[if_true] at h1;omega
 ·have h1:=h.enough k
  have h2:=Znz d (fun n=>decide (Yy u n.toNat≠0)) k N;by_cases e:k=a
  ·subst e
   simp only[if_true] at h1;omega
  ·rw[c2 k e]
   simp only[if_neg e] at h1;omega}
theorem Ztz {d:Dk}{t u:List UInt8}{P:Nat->Nat}{N:List Int}{a:Int}(h:Enf d t (fun k=>P k+if k=a.toNat then 1 else 0) N) (ha:a∈N) (hd:dnO t a.toNat=some u) (h1:Yy t a.toNat<=1) :
  Enf d u (fun k=>P k+Xh (ndD d a).2 k) (N.filter fun n=>decide (n≠a))/\(∀ x∈(ndD d a).2,(ndD d a).1≠0->x.2.1∈N.filter fun n=>decide (n≠a)):=by{
 obtain⟨c1,c2⟩:=Zhj hd;have ha0:=(h.node a ha).1;have hz:Zcw d N a.toNat=0:=by
  have:=h.enough a.toNat;simp only[if_true] at this;omega
 have hno:∀ n∈N,∀ x∈(ndD d n).2,x.2.1∈N->x.2.1≠0->x.2.1≠a:=fun n hn x hx hxN hx0 e=>by
  have h2:=Zao hx (k:=a.toNat) (by omega) hx0;have h3:=Zg2 (d:=d) (k:=a.toNat) hn;omega
 refine⟨h.part _ (fun n hn hp=> ?_) (fun n hn _ x hx hxN hx0=>by simpa using hno n hn x hx hxN hx0) (fun k=> ?_),fun x hx h0=> ?_⟩
 ·simp only[decide_eq_true_eq] at hp
  obtain⟨g1,_,_,g4⟩:=h.node n hn;rw[c2 _ (by omega)];exact g4
 ·have h2:=h.enough k
  rw[Znc h.once ha] at h2;by_cases e:k=a.toNat
  ·subst e
   simp only[if_true] at h2;omega
  ·rw[c2 k e]
   simp only[if_neg e] at h2;omega
 ·obtain⟨g1,g2,_⟩:=h.shut a ha h0 x hx
  exact Qi.2 ⟨g1,by simpa using hno a ha x hx g1 g2⟩}
theorem Z1t {t u:List UInt8}{N:List Int}(h:LeT u t):Un u (Un t N)=Un u N:=by{
 unfold Un;rw[Qap];refine P1 fun n _=> ?_
 have:=h.le n.toNat;by_cases e:Yy u n.toNat=0
 ·simp[e]
 ·have:Yy t n.toNat≠0:=by unfold Yy at e ⊢;omega
  simp[e,this]}
theorem Z4t {u:List UInt8}{N:List Int}{a:Int}(h:Yy u a.toNat=0):Un u (N.filter fun n=>decide (n≠a))=Un u N:=by{
 unfold Un;rw[Qap];refine P1 fun n _=> ?_
 by_cases e:n=a
 ·subst e;simp[h]
 ·simp[e]}
theorem Z5f {t:List UInt8}{d:Dk}{P:Nat->Nat}{N:List Int}(h:Enf d t P N):Un t N=N:=by
 unfold Un;rw[Pq];intro n hn
 simpa using (h.node n hn).2.2.2
theorem Enf.same {d:Dk}{t:List UInt8}{P Q:Nat->Nat}{N:List Int}(h:Enf d t P N) (e:∀ k,Q k=P k):Enf d t Q N:=⟨h.once,h.node,h.shut,h.refs,fun k=>by rw[e];exact h.enough k⟩
theorem Znr {d:Dk}{f:List UInt8->Nat->Option (List UInt8)}{ok:List UInt8->List Int->Int->Prop}
  (hle:∀ t a u,f t a=some u->LeT u t)
  (hok:∀ t u N a,ok t N a->LeT u t->Yy u a.toNat≠0->ok u (Un u N) a)
  (hf:∀ t u P N a,0<a->ok t N a->Enf d t (fun k=>P k+if k=a.toNat then 1 else 0) N->f t a.toNat=some u->Enf d u P (Un u N)) :
  ∀ (l:List It) (t u:List UInt8) (P:Nat->Nat) (N:List Int),Zbc l->(∀ x∈l,x.2.1≠0->ok t N x.2.1)->Enf d t (fun k=>P k+Xh l k) N->Vc f t l=some u->Enf d u P (Un u N)
 | [],t,u,P,N,_,_,h,hu=>by
  cases hu;have h':=h.same (Q:=P) (fun k=>by simp[Xh]);rw[Z5f h'];exact h'
 | x::r,t,u,P,N,hr,hk,h,hu=>by
  obtain⟨h1,h2⟩:=Za7 hr;unfold Vc at hu;by_cases h0:x.2.1=0
  ·rw[if_pos h0] at hu
   exact Znr hle hok hf r t u P N h2 (fun y hy=>hk y (Qf _ hy)) (h.same fun k=>by rw[Zba h0]) hu
  ·rw[if_neg h0] at hu
   cases ht:f t x.2.1.toNat with
   | none=>rw[ht] at hu;cases hu
   | some t1 =>
    rw[ht] at hu;have hu':Vc f t1 r=some u:=hu;have hpos:0<x.2.1:=by rcases h1 with h1 | ⟨k,e,_⟩ <;> omega
    have s1:=hf t t1 (fun k=>P k+Xh r k) N x.2.1 hpos (hk x Qg h0) (h.same fun k=>by
     have ec:Xh (x::r) k=(if x.2.1=(k:Int) then (if x.2.1=0 then 0 else 1) else 0)+Xh r k:=rfl;show P k+Xh r k+(if k=x.2.1.toNat then 1 else 0)=P k+Xh (x::r) k;rw[ec];by_cases e:x.2.1=(k:Int)
     ·rw[if_pos e,if_neg h0,if_pos (by omega)];omega
     ·rw[if_neg e,if_neg (by omega)];omega) ht
    have hl1:=hle _ _ _ ht;have hl2:=Zgi hle r t1 u hu';have s2:=Znr hle hok hf r t1 u P (Un t1 N) h2 (fun y hy hy0=> ?_) s1 hu'
    ·rwa [Z1t hl2] at s2
    ·refine hok t t1 N y.2.1 (hk y (Qf _ hy) hy0) hl1 ?_
     have h5:=s1.enough y.2.1.toNat;have h6:0<y.2.1:=by
      rcases h2 y hy with e | e
      ·exact absurd e hy0
      ·omega
     have h7:=Zao hy (k:=y.2.1.toNat) (by omega) hy0;omega
theorem Z0n (d:Dk):∀ (L:Nat) (t u:List UInt8) (P:Nat->Nat) (N:List Int) (a:Int),0<a->(∀ l,L=l+1->a∈N/\(ndD d a).1=(l:Int))->Enf d t (fun k=>P k+if k=a.toNat then 1 else 0) N->lvF d L t a.toNat=some u->Enf d u P (Un u N)
 | 0,t,u,P,N,a,_,_,h,hu=>Zmh h hu
 | l+1,t,u,P,N,a,h0,hk,h,hu=>by
  obtain⟨ha,hl⟩:=hk l rfl;have hu0:=hu;unfold lvF lvS at hu;cases hd:dnO t a.toNat with
  | none=>rw[hd] at hu;cases hu
  | some t1 =>
   rw[hd] at hu;have hu':(if 1<(t[a.toNat]?.getD 0).toNat then some t1 else if reN (Zz d a.toNat)=0/\(reV (Zz d a.toNat)).1=(l:Int) then Vc (lvF d l) t1 (reV (Zz d a.toNat)).2 else none)=some u:=hu;obtain⟨c1,c2⟩:=Zhj hd;by_cases hm:1<(t[a.toNat]?.getD 0).toNat
   ·rw[if_pos hm] at hu'
    cases hu';exact Zmh h hd
   ·rw[if_neg hm] at hu'
    split at hu'
    ·have h1:Yy t a.toNat<=1:=by unfold Yy;omega
     obtain⟨o1,o2⟩:=Ztz h ha hd h1;have hz:Yy t1 a.toNat=0:=by omega
     have hle:=Zpt d l;have hlu:=Zgi hle _ t1 u hu';have s:=Znr (d:=d) (f:=lvF d l) (ok:=fun _ M b=>∀ l',l=l'+1->b∈M/\(ndD d b).1=(l':Int)) hle
      (fun t u M b hb _ hc l' e=>⟨Zml.2 ⟨(hb l' e).1,hc⟩,(hb l' e).2⟩)
      (fun t u P M b hb0 hb hE hu=>Z0n d l t u P M b hb0 hb hE hu)
      (ndD d a).2 t1 u P _ (h.refs a ha) (fun x hx _ l' e=> ?_) o1 hu'
     ·rw[Z4t (by have:=hlu.le a.toNat;unfold Yy at hz ⊢;omega)] at s
      exact s
     ·have hne:(ndD d a).1≠0:=by rw[hl,e];omega
      refine⟨o2 x hx hne,?_⟩;obtain⟨_,_,g3⟩:=h.shut a ha hne x hx;omega
    ·cases hu'
theorem Zil {d:Dk}{t u:List UInt8}{P:Nat->Nat}{N:List Int}{a:Int}(ha:a∈N) (h0:0<a) (hl:0<=(ndD d a).1) (h:Enf d t (fun k=>P k+if k=a.toNat then 1 else 0) N) (hu:lfO d t a.toNat=some u):Enf d u P (Un u N):=by{
 obtain⟨L,hL⟩:∃ L:Nat,(ndD d a).1=(L:Int):=⟨(ndD d a).1.toNat,by omega⟩
 refine Z0n d (L+1) t u P N a h0 (fun l e=>⟨ha,by rw[hL];omega⟩) h ?_;unfold lfO at hu;unfold lvF lvS;have e1:(reV (Zz d a.toNat)).1=(L:Int):=hL;rw[e1] at hu;rw[show ((L:Nat):Int).toNat=L by omega] at hu;rw[<- hu];cases dnO t a.toNat with
 | none=>rfl
 | some t1=>simp[e1]}
theorem Vu {t:List UInt8}{k:Nat}:Yy t k≠0↔t[k]?.getD 0≠0:=by
 unfold Yy;rw[ne_eq,Vy]
theorem V6 {s:Rm}{n:Int}(h:rmE s n=0):ndD s.1 n=rmV s n:=by
 obtain⟨k,rfl,_,_,_,_,_,_,hV,_⟩:=Y4 (Ya h).2;rw[hV,ndD,show ((k:Int)).toNat=k by omega]
theorem Ug {s:Rm}{n:Nd}(h:mkE s n=0):Xw s (mkV s n):=by{
 obtain⟨k,e1,h8,h256,hz,_,hc,hV,hm,c1,c2,_⟩:=X0 h;have hne:∀ i:Nat,s.2.1[i]?.getD 0≠0->i≠k:=fun i hi e=>hi (by rw[e];exact hz)
 refine⟨hm,fun i hi=> ?_,fun i hi=> ?_⟩
 ·rw[<- Vu]
  have h1:=c2 i (hne i hi);have h2:=Vu.2 hi;unfold Yy at h2 ⊢;omega
 ·rw[hV]
  exact Z4 (hne i hi)}
theorem Zmv {s:Rm}{n:Nd}{P:Nat->Nat}{N:List Int}(h:mkE s n=0) (hi:InN n) (hE:Enf s.1 s.2.1 P N) (hsub:n.1≠0->∀ x∈n.2,x.2.1∈N/\x.2.1≠0/\(ndD s.1 x.2.1).1+1=n.1) :
  ∃ k:Nat,mkN s n=k/\8<=k/\k<256/\Yy s.2.1 k=0/\(k:Int)∉N/\Enf (mkV s n).1 (mkV s n).2.1 (fun i=>P i+if i=k then 1 else 0) ((k:Int)::N)/\ndD (mkV s n).1 (k:Int)=n/\(∀ m∈N,ndD (mkV s n).1 m=ndD s.1 m)/\rmE (mkV s n) (k:Int)=0/\rmV (mkV s n) (k:Int)=n/\Yy (mkV s n).2.1 k=1:=by{
 obtain⟨_,hn,_⟩:=Zvk h;obtain⟨k,e1,h8,h256,hz,_,hc,hV,hm,c1,c2,_⟩:=X0 h;have hseen:Zz (mkV s n).1 k=Ve n:=by rw[hV];exact Xt
 have ha:asE (mkV s n) (k:Int)=0:=Zb7 hm h8 h256 (by rw[c1];decide);obtain⟨r1,r2⟩:=Zjk ha hseen hn hi;have hnd:ndD (mkV s n).1 (k:Int)=n:=(V6 r1).trans r2;have hz8:Yy s.2.1 k=0:=by unfold Yy;rw[hz];rfl
 have hkN:(k:Int)∉N:=fun hin=>by
  have:=(hE.node _ hin).2.2.2;rw[show ((k:Int)).toNat=k by omega] at this;exact this hz8
 have Zbl:∀ m∈N,m.toNat≠k:=fun m hmN e=>by
  have h0:=(hE.node m hmN).1;exact hkN (by rw[<- e,show ((m.toNat:Nat):Int)=m by omega];exact hmN)
 have hsm:∀ m∈N,Zz (mkV s n).1 m.toNat=Zz s.1 m.toNat:=fun m hmN=>by
  rw[hV];exact Z4 (Zbl m hmN)
 have hndm:∀ m∈N,ndD (mkV s n).1 m=ndD s.1 m:=fun m hmN=>by rw[ndD,ndD,hsm m hmN]
 have hc1:Yy (mkV s n).2.1 k=1:=by unfold Yy;rw[c1];rfl
 have hc2:∀ i,i≠k->Yy (mkV s n).2.1 i=Yy s.2.1 i+Xh n.2 i:=fun i hne=>c2 i hne
 have hsum:∀ i,Zcw (mkV s n).1 N i=Zcw s.1 N i:=fun i=>by
  have:∀ M:List Int,(∀ m∈M,m∈N)->Zcw (mkV s n).1 M i=Zcw s.1 M i:=by
   intro M
   induction M with
   | nil=>intro _;rfl
   | cons m r ih =>
    intro hM;show Xh (ndD (mkV s n).1 m).2 i+Zcw (mkV s n).1 r i=Xh (ndD s.1 m).2 i+Zcw s.1 r i;rw[hndm m (hM m Qg),ih fun x hx=>hM x (Qf _ hx)]
  exact this N fun m hm=>hm
 refine⟨k,e1,h8,h256,hz8,hkN,⟨Qan.2 ⟨hkN,hE.once⟩,fun m hmN=> ?_,fun m hmN h0 x hx=> ?_,fun m hmN=> ?_,fun i=> ?_⟩,hnd,hndm,r1,r2,hc1⟩
 ·rcases Qe.1 hmN with rfl | hmN
  ·refine⟨by omega,by omega,?_,by rw[show ((k:Int)).toNat=k by omega,hc1];decide⟩
   rw[show ((k:Int)).toNat=k by omega,hseen];exact(Zb4 hn hi).1
  ·obtain⟨g1,g2,g3,g4⟩:=hE.node m hmN
   refine⟨g1,g2,by rw[hsm m hmN];exact g3,?_⟩;rw[hc2 _ (Zbl m hmN)];omega
 ·rcases Qe.1 hmN with rfl | hmN
  ·rw[hnd] at h0 hx ⊢
   obtain⟨g1,g2,g3⟩:=hsub h0 x hx;exact⟨Qf _ g1,g2,by rw[hndm _ g1];exact g3⟩
  ·rw[hndm m hmN] at h0 hx ⊢
   obtain⟨g1,g2,g3⟩:=hE.shut m hmN h0 x hx;exact⟨Qf _ g1,g2,by rw[hndm _ g1];exact g3⟩
 ·rcases Qe.1 hmN with rfl | hmN
  ·rw[hnd]
   exact Vx hn
  ·rw[hndm m hmN]
   exact hE.refs m hmN
 ·show P i+(if i=k then 1 else 0)+(Xh (ndD (mkV s n).1 (k:Int)).2 i+Zcw (mkV s n).1 N i)<=_
  rw[hnd,hsum];have h1:=hE.enough i;by_cases e:i=k
  ·subst e
   rw[if_pos rfl,hc1];omega
  ·rw[if_neg e,hc2 i e]
   omega}
theorem Z2t {d:Dk}{t u:List UInt8}{P:Nat->Nat}{N:List Int}{a:Nat}(h:Enf d t (fun k=>P k+if k=a then 1 else 0) N) (hd:dnO t a=some u) (hc:Yy u a≠0):Enf d u P N:=by{
 have s:=Zmh h hd;obtain⟨c1,c2⟩:=Zhj hd;have:Un u N=N:=by
  unfold Un;rw[Pq];intro n hn;have h4:=(h.node n hn).2.2.2;by_cases e:n.toNat=a
  ·rw[e];simpa using hc
  ·rw[c2 _ e];simpa using h4
 rwa [this] at s}
def Ua (L:List It) (x:It):List It:=(L.filter fun y=>Zo y.1 x.1)++x::(L.filter fun y=>Zo x.1 y.1)
theorem Zg8 {p:It->Bool}{L:List It}(h:∀ x∈L,p x=true):L.filter p=L:=Pq.2 h
theorem Zto {A B C:List It}{x:It}(hA:∀ y∈A,Zo y.1 x.1=true) (hC:∀ y∈C,Zo x.1 y.1=true):Ua (A++(B++C)) x=A++(Ua B x++C):=by
 unfold Ua;simp only[Qah];rw[Zg8 hA,Um (L:=A) (fun y hy=>Vv (hA y hy)),Um (L:=C) (fun y hy=>Vv (hC y hy)),Zg8 hC];simp
theorem Zlq {A M C:List It}{x:It}(hA:∀ y∈A,Zo y.1 x.1=true) (hM:∀ y∈M,y.1=x.1) (hC:∀ y∈C,Zo x.1 y.1=true):Ua (A++(M++C)) x=A++x::C:=by
 rw[Zto hA hC];unfold Ua;rw[Um (L:=M) (fun y hy=>by rw[hM y hy];exact Xi _),Um (L:=M) (fun y hy=>by rw[hM y hy];exact Xi _)];rfl
theorem Z7v {L:List It}(h:Up L) (x:It):Up (Ua L x):=by
 unfold Ua Up;rw[Ph];refine⟨P4.filter _ h,Qw.2 ⟨fun y hy=>(Qi.1 hy).2,P4.filter _ h⟩,fun y hy z hz=> ?_⟩;have h1:=(Qi.1 hy).2;rcases Qe.1 hz with rfl | hz
 ·exact h1
 ·exact Yo h1 (Qi.1 hz).2
theorem Zdl {L:List It}{x y:It}:y∈Ua L x↔y=x\/(y∈L/\y.1≠x.1):=by{
 unfold Ua;rw[Qq,Qe,Qi,Qi];constructor
 ·rintro(⟨h1,h2⟩ | rfl | ⟨h1,h2⟩)
  ·exact .inr ⟨h1,fun e=>by rw[e,Xi] at h2;cases h2⟩
  ·exact .inl rfl
  ·exact .inr ⟨h1,fun e=>by rw[e,Xi] at h2;cases h2⟩
 ·rintro(rfl | ⟨h1,h2⟩)
  ·exact .inr (.inl rfl)
  ·cases h3:Zo y.1 x.1 with
   | true=>exact .inl ⟨h1,rfl⟩
   | false=>exact .inr (.inr ⟨h1,Zcc h2 h3⟩)}
theorem Zh2 {n:Nd}(h:mayN n=true) (x:It):n.2.take (Z2 n x.1)++x::n.2.drop (Z2 n x.1+if Ym n x.1=true then 1 else 0)=Ua n.2 x:=by{
 have hA:∀ y∈n.2.take (Z2 n x.1),Zo y.1 x.1=true:=fun y hy=>by
  obtain⟨i,hi⟩:=Qm hy;have hlt:=(Qj.1 hi).1;rw[Pp] at hlt;rw[List.getElem?_take_of_lt (by omega)] at hi;rw[Uo h hi];simp;omega
 cases ht:Ym n x.1 with
 | true =>
  have hp:=Zbu ht;obtain⟨z,hz⟩:∃ z,n.2[Z2 n x.1]? = some z:=⟨_,Qc hp⟩
  have hzk:=(Ur h ht hz).1;have hg:n.2[Z2 n x.1]=z:=(Qj.1 hz).2;have e:n.2=n.2.take (Z2 n x.1)++([z]++n.2.drop (Z2 n x.1+1)):=by
   conv=>lhs;rw[<- Qz (Z2 n x.1) n.2,Qaq hp,hg]
   rfl
  rw[if_pos rfl]
  conv=>rhs;rw[e]
  rw[Zlq hA (fun y hy=>by rw[Ql.1 hy];exact hzk) (fun y hy=>by
   obtain⟨i,hi⟩:=Qm hy;rw[Pc] at hi;rw[<- hzk]
   exact Zay h (by omega) hz hi)]
 | false =>
  rw[if_neg (by decide),Nat.add_zero];have e:n.2=n.2.take (Z2 n x.1)++([]++n.2.drop (Z2 n x.1)):=by simp
  conv=>rhs;rw[e]
  rw[Zlq hA (fun y hy=>by cases hy) (fun y hy=>by
   obtain⟨i,hi⟩:=Qm hy;rw[Pc] at hi
   exact Zbs h ht (by omega) hi)]}
def Xd (n:Nd) (k:Ky):Nat:=if Ym n k=true then Z2 n k else Z2 n k-1
theorem Zbi {n:Nd}(k:Ky) (h:0<n.2.length):Xd n k<n.2.length:=by{
 unfold Xd;split
 ·rename_i ht;exact Zbu ht
 ·have:=Zb8 n k
  omega}
theorem Zd1 {n:Nd}(h:mayN n=true){k:Ky}{i:Nat}{y:It}(hi:Xd n k<i) (hy:n.2[i]? = some y):Zo k y.1=true:=by{
 unfold Xd at hi;cases ht:Ym n k with
 | true =>
  rw[ht,if_pos rfl] at hi;have hp:=Zbu ht;obtain⟨z,hz⟩:∃ z,n.2[Z2 n k]? = some z:=⟨_,Qc hp⟩
  rw[<- (Ur h ht hz).1];exact Zay h hi hz hy
 | false =>
  rw[ht,if_neg (by decide)] at hi;exact Zbs h ht (by omega) hy}
theorem Zsi {n:Nd}(h:mayN n=true){k:Ky}{y:It}(hy:n.2[Xd n k]? = some y) (h0:Xd n k≠0):Zo k y.1=false:=by{
 unfold Xd at hy h0;cases ht:Ym n k with
 | true =>
  rw[ht,if_pos rfl] at hy;rw[(Ur h ht hy).1];exact Xi _
 | false =>
  rw[ht,if_neg (by decide)] at hy h0;have:=Uo h (k:=k) hy;rw[decide_eq_true (by omega)] at this;exact Vv this}
theorem Yu (f:Int->Ky->Ky->Bool->Bool):∀ (A B:List It) (tb:Ky) (e:Bool),Zae f (A++B) tb e=(Zae f A (nxO B tb) (bxO B e)&&Zae f B tb e)
 | [],B,tb,e=>by
  show Zae f B tb e=(true&&Zae f B tb e);simp
 | x::r,B,tb,e=>by
  rw[Qn,Xx,Yu f r B tb e,Xx];have e1:nxO (r++B) tb=nxO r (nxO B tb):=by cases r <;> rfl
  have e2:bxO (r++B) e=bxO r (bxO B e):=by cases r <;> rfl
  rw[e1,e2,Bool.and_assoc]
theorem Zrj {f f':Int->Ky->Ky->Bool->Bool}{A C up:List It}{y z:It}{r:List It}{tb:Ky}{e:Bool}(h:Zae f (A++y::C) tb e=true) (hk:A≠[]->z.1=y.1) (hup:up=z::r)
  (hf:∀ x∈A++C,∀ k tb e,f x.2.1 k tb e=true->f' x.2.1 k tb e=true) (hu:Zae f' up (nxO C tb) (bxO C e)=true):Zae f' (A++(up++C)) tb e=true:=by{
 rw[Yu,Qd] at h;obtain⟨h1,h2⟩:=h;rw[Xx,Qd] at h2;rw[Yu,Yu,Qd,Qd];refine⟨?_,hu,Zgd (fun x hx=>hf x (Pf _ hx)) h2.2⟩;have e1:A≠[]->nxO (up++C) tb=nxO (y::C) tb/\bxO (up++C) e=bxO (y::C) e:=fun hA=>by
  subst hup;exact⟨hk hA,rfl⟩
 by_cases hA:A=[]
 ·subst hA;rfl
 ·obtain⟨g1,g2⟩:=e1 hA
  rw[g1,g2];exact Zgd (fun x hx=>hf x (Pr _ hx)) h1}
def Znu (l:List It):Ky:=match l with | []=>Zbm | x::_=>x.1
def upI (l:List It) (k:Int):It:=(Znu l,k,[])
def Zq (s:Rm) (lv:Int) (l:List It):Int×Rm×List It :=
 if l.length<=5 then
  if mkE s (lv,l)=0 then (0,mkV s (lv,l),[upI l (mkN s (lv,l))]) else (mkE s (lv,l),Zi,[])
 else if mkE s (lv,l.take 3)=0 then
  if mkE (mkV s (lv,l.take 3)) (lv,l.drop 3)=0 then (0,mkV (mkV s (lv,l.take 3)) (lv,l.drop 3),[upI (l.take 3) (mkN s (lv,l.take 3)),upI (l.drop 3) (mkN (mkV s (lv,l.take 3)) (lv,l.drop 3))])
  else (mkE (mkV s (lv,l.take 3)) (lv,l.drop 3),Zi,[])
 else (mkE s (lv,l.take 3),Zi,[])
theorem X2 {s u:Rm}{lv:Int}{l up:List It}(h:Zq s lv l=(0,u,up)):(mkE s (lv,l)=0/\u=mkV s (lv,l)/\up=[upI l (mkN s (lv,l))]) \/
  (5<l.length/\mkE s (lv,l.take 3)=0/\mkE (mkV s (lv,l.take 3)) (lv,l.drop 3)=0/\u=mkV (mkV s (lv,l.take 3)) (lv,l.drop 3)/\up=[upI (l.take 3) (mkN s (lv,l.take 3)),upI (l.drop 3) (mkN (mkV s (lv,l.take 3)) (lv,l.drop 3))]):=by{
 unfold Zq at h;split at h
 ·split at h
  ·rename_i h1
   cases h;exact .inl ⟨h1,rfl,rfl⟩
  ·rename_i h1
   simp only[Prod.mk.injEq] at h;exact absurd h.1 h1
 ·rename_i h0
  split at h
  ·rename_i h1
   split at h
   ·rename_i h2
    cases h;exact .inr ⟨by omega,h1,h2,rfl,rfl⟩
   ·rename_i h2
    simp only[Prod.mk.injEq] at h;exact absurd h.1 h2
  ·rename_i h1
   simp only[Prod.mk.injEq] at h;exact absurd h.1 h1}
def Zic (s:Rm):Nat->List It->Ky->Bool->List It->Prop
 | 0,L,tb,e,M=>Up L/\Yt s L=true/\(e=true->∀ y∈L,Zo y.1 tb=true)/\M=L
 | l+1,L,tb,e,M=>Zae (Zx s l) L tb e=true/\M=L.flatMap fun x=>X7 s l x.2.1
theorem Zd5 {s t:Rm}(h:Xw s t):∀ {lv:Nat}{L M:List It}{tb:Ky}{e:Bool},Zic s lv L tb e M->Zic t lv L tb e M
 | 0,_,_,_,_,hr=>⟨hr.1,Zjh h hr.2.1,hr.2.2⟩
 | l+1,L,M,tb,e,hr=>by
  refine⟨U5 (fun a k tb e hf=>(Yb h l a k tb e hf).1) _ _ _ hr.1,hr.2.trans (X8 fun x hx=> ?_)⟩;obtain⟨t',e',hf⟩:=Xm hr.1 x hx;exact(Yb h l _ _ _ _ hf).2.1.symm
theorem Z06 {s:Rm}{l:Nat}{L:List It}{tb:Ky}(h:Zae (Zx s l) L tb true=true):∀ x∈L,Zo x.1 tb=true:=fun x hx=>by
 obtain⟨y,r,rfl⟩:∃ y r,L=y::r:=by
  cases L with
  | nil=>cases hx
  | cons y r=>exact⟨y,r,rfl⟩
 obtain⟨y',r',e',hp⟩:=Zav (Y1 s l) (y::r) tb true (by simp) h;cases e';obtain⟨t,e2,hf⟩:=Xm h x hx;obtain⟨z,q,ez,kz⟩:=(Y1 s l _ _ _ _ hf).first;have:=hp.bound rfl z (Qk.2 ⟨x,hx,by rw[ez];simp⟩)
 rwa [kz] at this
theorem Z2x {s:Rm}{lv:Nat}{L M:List It}{tb:Ky}{e:Bool}{k:Int}(h1:rmE s k=0) (h2:rmV s k=((lv:Int),L)) (hne:L≠[]) (h:Zic s lv L tb e M):Zx s lv k (Znu L) tb e=true/\X7 s lv k=M:=by{
 obtain⟨x,r,rfl⟩:=Ps hne;obtain⟨z,hz⟩:∃ z,(x::r).getLast? = some z:=⟨_,P3 (by simp)⟩
 have hin:=Pn hz;have hb:e=true->Zo z.1 tb=true:=fun he=>by
  cases lv with
  | zero=>exact h.2.2.1 he z hin
  | succ l =>
   have h0:=h.1;rw[he] at h0;exact Z06 h0 z hin
 have hh:Zev (x::r) (Znu (x::r)) tb e=true:=by
  unfold Zev;rw[hz];cases e with
  | false=>simp[Znu]
  | true=>simp[Znu,hb rfl]
 cases lv with
 | zero =>
  refine⟨?_,by unfold X7;rw[h2];exact h.2.2.2.symm⟩;unfold Zx;rw[h1,h2,hh,h.2.1];simp
 | succ l =>
  refine⟨?_,by unfold X7;rw[h2];exact h.2.symm⟩;unfold Zx;rw[h1,h2,hh,h.1];simp}
theorem Zyv {s:Rm}{lv:Nat}{A B M:List It}{tb:Ky}{e:Bool}(hB:B≠[]) (h:Zic s lv (A++B) tb e M):∃ M1 M2,M=M1++M2/\Zic s lv A (Znu B) true M1/\Zic s lv B tb e M2:=by{
 obtain⟨y,r,rfl⟩:=Ps hB;cases lv with
 | zero =>
  obtain⟨h1,h2,h3,h4⟩:=h;obtain⟨u1,u2,u3⟩:=Ph.1 h1;have hl:Yt s A=true/\Yt s (y::r)=true:=by
   unfold Yt at h2 ⊢;rw[List.all_append,Qd] at h2;exact h2
  exact⟨A,y::r,h4,⟨u1,hl.1,fun _ z hz=>u3 z hz y Qg,rfl⟩,⟨u2,hl.2,fun he z hz=>h3 he z (Pf _ hz),rfl⟩⟩
 | succ l =>
  obtain⟨h1,h2⟩:=h;rw[Yu,Qd] at h1;exact⟨_,_,by rw[h2,Pt],⟨h1.1,rfl⟩,⟨h1.2,rfl⟩⟩}
theorem Zyb {lv:Int}{l:List It}{k:Nat}(h:InN (lv,l)):InN (lv,l.take k):=⟨h.1,fun x hx=>h.2 x (Pj hx)⟩
theorem Zym {lv:Int}{l:List It}{k:Nat}(h:InN (lv,l)):InN (lv,l.drop k):=⟨h.1,fun x hx=>h.2 x (P5 hx)⟩
theorem Zaw {s:Rm}{lv:Nat}{L M:List It}{tb:Ky}{e:Bool}(h:mkE s ((lv:Int),L)=0) (hi:InN ((lv:Int),L)) (hne:L≠[]) (hr:Zic s lv L tb e M) :
  Zx (mkV s ((lv:Int),L)) lv (mkN s ((lv:Int),L)) (Znu L) tb e=true/\X7 (mkV s ((lv:Int),L)) lv (mkN s ((lv:Int),L))=M:=by
 obtain⟨k,e1,_,_,_,_,r1,r2,_⟩:=Zxh hi h;rw[e1];exact Z2x r1 r2 hne (Zd5 (Ug h) hr)
theorem Ziy {s u:Rm}{lv:Nat}{L up M:List It}{tb:Ky}{e:Bool}(h:Zq s (lv:Int) L=(0,u,up)) (hi:InN ((lv:Int),L)) (hne:L≠[]) (hr:Zic s lv L tb e M) :
  Xw s u/\Zae (Zx u lv) up tb e=true/\(up.flatMap fun x=>X7 u lv x.2.1)=M/\(∃ z r,up=z::r/\z.1=Znu L):=by{
 rcases X2 h with ⟨h1,rfl,rfl⟩ | ⟨h0,h1,h2,rfl,rfl⟩
 ·obtain⟨g1,g2⟩:=Zaw h1 hi hne hr
  exact⟨Ug h1,g1,by simpa [upI] using g2,_,_,rfl,rfl⟩
 ·have hd:L.drop 3≠[]:=fun e=>by
   have:=congrArg List.length e;rw[Pu] at this;simp at this;omega
  have ht:L.take 3≠[]:=fun e=>by
   have h5:(L.take 3).length=0:=by rw[e];rfl
   rw[Pp] at h5;omega
  obtain⟨M1,M2,rfl,r1,r2⟩:=Zyv hd (show Zic s lv (L.take 3++L.drop 3) tb e M by rw[Qz];exact hr);have k1:=Ug h1;have k2:=Ug h2;have k12:Xw s (mkV (mkV s ((lv:Int),L.take 3)) ((lv:Int),L.drop 3)):=⟨k2.may,fun i hi=>k2.held i (k1.held i hi),fun i hi=>(k2.seen i (k1.held i hi)).trans (k1.seen i hi)⟩
  obtain⟨g1,g2⟩:=Zaw h1 (Zyb hi) ht r1;obtain⟨g3,g4⟩:=Zaw h2 (Zym hi) hd (Zd5 k1 r2);obtain⟨g5,g6,_⟩:=Yb k2 lv _ _ _ _ g1;refine⟨k12,?_,?_,_,_,rfl,?_⟩
  ·exact Bool.and_eq_true_iff.2 ⟨g5,g3⟩
  ·have e1:=g6.trans g2
   have:X7 (mkV (mkV s ((lv:Int),L.take 3)) ((lv:Int),L.drop 3)) lv (mkN s ((lv:Int),L.take 3))++(X7 (mkV (mkV s ((lv:Int),L.take 3)) ((lv:Int),L.drop 3)) lv (mkN (mkV s ((lv:Int),L.take 3)) ((lv:Int),L.drop 3))++[])=M1++M2:=by rw[e1,g4,Qar]
   exact this
  ·obtain⟨x,r,ex⟩:=Ps hne
   subst ex;rfl}
def Vo (s:Rm) (a:Int):Rm:=(s.1,s.2.1.set a.toNat (s.2.1[a.toNat]?.getD 0-1),s.2.2)
theorem Xr {s t u:Rm}(h1:Xw s t) (h2:Xw t u):Xw s u:=⟨h2.may,fun i hi=>h2.held i (h1.held i hi),fun i hi=>(h2.seen i (h1.held i hi)).trans (h1.seen i hi)⟩
theorem Zdz {s:Rm}(h:Xk s=true):Xw s s:=⟨h,fun _ h=>h,fun _ _=>rfl⟩
theorem Z13 {s:Rm}{a:Int}(h:Yy s.2.1 a.toNat≠0):dnO s.2.1 a.toNat=some (Vo s a).2.1:=by
 unfold dnO;rw[if_neg (Vu.1 h)];rfl
theorem Zta {s:Rm}{a:Int}(hm:Xk s=true) (h:2<=Yy s.2.1 a.toNat):Xw s (Vo s a):=by
 have hd:=Z13 (s:=s) (a:=a) (by omega);obtain⟨_,_,hle,_⟩:=Zd3 hd;obtain⟨c1,c2⟩:=Zhj hd;obtain⟨m1,m2,m3⟩:=Yf hm;refine⟨Zaj m1 (LeT.may hle m2) m3,fun k hk=> ?_,fun _ _=>rfl⟩;rw[<- Vu] at hk ⊢;by_cases e:k=a.toNat
 ·subst e;omega
 ·rw[c2 k e];exact hk
theorem Ze9 {s t:Rm}(h:Xw s t){P:Nat->Nat}{N:List Int}(hE:Enf s.1 s.2.1 P N){m:Int}(hm:m∈N):ndD t.1 m=ndD s.1 m:=by
 unfold ndD;rw[h.seen _ (Vu.1 (hE.node m hm).2.2.2)]
theorem Zj4 {s:Rm}{P:Nat->Nat}{N:List Int}{a:Int}(hm:Xk s=true) (hE:Enf s.1 s.2.1 (fun i=>P i+if i=a.toNat then 1 else 0) N) (h0:0<a) (hr:∃ n∈N,∃ x∈(ndD s.1 n).2,x.2.1=a):Xw s (Vo s a)/\Enf (Vo s a).1 (Vo s a).2.1 P N:=by{
 obtain⟨n,hn,x,hx,hxa⟩:=hr;have h1:=hE.enough a.toNat;have h2:=Zao hx (k:=a.toNat) (by omega) (by omega);have h3:=Zg2 (d:=s.1) (k:=a.toNat) hn;simp only[if_true] at h1;have h4:2<=Yy s.2.1 a.toNat:=by omega
 have hd:=Z13 (s:=s) (a:=a) (by omega);have hc:Yy (Vo s a).2.1 a.toNat≠0:=by
  have:=(Zhj hd).1;omega
 exact⟨Zta hm h4,Z2t hE hd hc⟩}
def Znx (s:Rm) (l:List It):Rm:=l.foldl (fun u x=>Vo u x.2.1) s
theorem Zqj (s:Rm) (x:It) (l:List It):Znx s (x::l)=Znx (Vo s x.2.1) l:=rfl
theorem Znh:∀ (l:List It){s:Rm}{P:Nat->Nat}{N:List Int},Xk s=true->Enf s.1 s.2.1 (fun i=>P i+Xh l i) N->(∀ x∈l,0<x.2.1/\∃ n∈N,∃ z∈(ndD s.1 n).2,z.2.1=x.2.1)->Xw s (Znx s l)/\Enf (Znx s l).1 (Znx s l).2.1 P N
 | [],s,P,N,hm,hE,_=>⟨Zdz hm,hE.same fun _=>rfl⟩
 | x::l,s,P,N,hm,hE,hr=>by
  obtain⟨h0,h1⟩:=hr x Qg
  obtain⟨k1,e1⟩:=Zj4 (P:=fun i=>P i+Xh l i) hm (hE.same fun i=>by
   have ec:Xh (x::l) i=(if x.2.1=(i:Int) then (if x.2.1=0 then 0 else 1) else 0)+Xh l i:=rfl;show P i+Xh l i+(if i=x.2.1.toNat then 1 else 0)=P i+Xh (x::l) i;rw[ec];by_cases e:x.2.1=(i:Int)
   ·rw[if_pos e,if_neg (show ¬ x.2.1=0 by omega),if_pos (show i=x.2.1.toNat by omega)];omega
   ·rw[if_neg e,if_neg (show ¬ i=x.2.1.toNat by omega)];omega) h0 h1
  obtain⟨k2,e2⟩:=Znh l (s:=Vo s x.2.1) (P:=P) (N:=N) k1.may e1 fun y hy=>hr y (Qf _ hy)
  exact⟨Xr k1 k2,e2⟩
theorem Ze4 {s:Rm}{a:Int}(h:rmE s a=0):InN (rmV s a):=by
 obtain⟨k,rfl,_,_,_,_,_,hE,hV,_⟩:=Y4 (Ya h).2;rw[hV];rw[hE] at h;exact(Zfl h).2.2
theorem Zxi {l:List It}{k i:Nat}(h:8<=k):Xh [upI l (k:Int)] i=if i=k then 1 else 0:=by{
 show (if (k:Int)=(i:Int) then (if (k:Int)=0 then 0 else 1) else 0)+0=_;by_cases e:i=k
 ·subst e
  rw[if_pos rfl,if_neg (by omega),if_pos rfl]
 ·rw[if_neg (by omega),if_neg e]}
theorem Zad {s u:Rm}{lv:Int}{L up:List It}{P:Nat->Nat}{N:List Int}(h:Zq s lv L=(0,u,up)) (hi:InN (lv,L)) (hE:Enf s.1 s.2.1 P N) (hsub:lv≠0->∀ x∈L,x.2.1∈N/\x.2.1≠0/\(ndD s.1 x.2.1).1+1=lv) :
  ∃ N',Enf u.1 u.2.1 (fun i=>P i+Xh up i) N'/\Xw s u/\(∀ m∈N,m∈N')/\(∀ m∈N,ndD u.1 m=ndD s.1 m)/\(∀ y∈up,y.2.1∈N'/\8<=y.2.1/\y.2.1<256/\(ndD u.1 y.2.1).1=lv)/\(∀ x∈L,∃ n∈N',x∈(ndD u.1 n).2)/\up.length<=2/\u.1.2.length<=s.1.2.length+2:=by{
 have hw:∀ {s:Rm} {n:Nd},mkE s n=0->(mkV s n).1.2.length<=s.1.2.length+1:=fun {s n} h=>by
  obtain⟨k,_,_,_,_,_,_,hV,_⟩:=X0 h;rw[hV];simp[wrD]
 rcases X2 h with ⟨h1,rfl,rfl⟩ | ⟨h0,h1,h2,rfl,rfl⟩
 ·obtain⟨k,e1,k8,k256,_,_,hE1,hnd,hndm,_⟩:=Zmv h1 hi hE hsub
  refine⟨_,hE1.same fun i=>by rw[e1,Zxi k8],Ug h1,fun m hm=>Qf _ hm,hndm,fun y hy=> ?_,fun x hx=>⟨k,Qg,by rw[hnd];exact hx⟩,by simp,by have:=hw h1;omega⟩;rw[Ql.1 hy,e1];exact⟨Qg,by show (8:Int)<=k;omega,by show (k:Int)<256;omega,by show (ndD _ (k:Int)).1=_;rw[hnd]⟩
 ·have hst:lv≠0->∀ x∈L.take 3,x.2.1∈N/\x.2.1≠0/\(ndD s.1 x.2.1).1+1=lv:=fun hl x hx=>hsub hl x (Pj hx)
  obtain⟨k,e1,k8,k256,_,_,hE1,hnd,hndm,_⟩:=Zmv h1 (Zyb hi) hE hst;obtain⟨j,e2,j8,j256,_,hjN,hE2,hnd2,hndm2,_⟩:=Zmv h2 (Zym hi) hE1 fun hl x hx=>by
   obtain⟨g1,g2,g3⟩:=hsub hl x (P5 hx);exact⟨Qf _ g1,g2,by rw[hndm _ g1];exact g3⟩
  have hkk:ndD (mkV (mkV s (lv,L.take 3)) (lv,L.drop 3)).1 (k:Int)=(lv,L.take 3):=(hndm2 _ Qg).trans hnd;refine⟨_,hE2.same fun i=> ?_,Xr (Ug h1) (Ug h2),fun m hm=>Qf _ (Qf _ hm),fun m hm=>(hndm2 m (Qf _ hm)).trans (hndm m hm),fun y hy=> ?_,fun x hx=> ?_,by simp,by have:=hw h1;have:=hw h2;omega⟩
  ·have ec:Xh [upI (L.take 3) (mkN s (lv,L.take 3)),upI (L.drop 3) (mkN (mkV s (lv,L.take 3)) (lv,L.drop 3))] i=Xh [upI (L.take 3) (mkN s (lv,L.take 3))] i+Xh [upI (L.drop 3) (mkN (mkV s (lv,L.take 3)) (lv,L.drop 3))] i:=by
    show _+(_+0)=(_+0)+(_+0);omega
   rw[ec,e1,e2,Zxi k8,Zxi j8];omega
  ·rcases Qe.1 hy with rfl | hy
   ·rw[e1]
    exact⟨Qf _ Qg,by show (8:Int)<=k;omega,by show (k:Int)<256;omega,by show (ndD _ (k:Int)).1=_;rw[hkk]⟩
   ·rw[Ql.1 hy,e2]
    exact⟨Qg,by show (8:Int)<=j;omega,by show (j:Int)<256;omega,by show (ndD _ (j:Int)).1=_;rw[hnd2]⟩
  ·rw[<- Qz 3 L] at hx
   rcases Qq.1 hx with hx | hx
   ·exact⟨k,Qf _ Qg,by rw[hkk];exact hx⟩
   ·exact⟨j,Qg,by rw[hnd2];exact hx⟩}
def Zau (l:List It) (p many:Nat) (up:List It):List It:=l.take p++(up++l.drop (p+many))
def Zbj (n:Nd) (k:Ky):Int:=((n.2[Xd n k]?).map fun y=>y.2.1).getD 0
def Zn (x:It):Nat->Rm->Int->Int×Rm×List It
 | 0,s,a =>
  if (Zq s 0 (Zau (rmV s a).2 (Z2 (rmV s a) x.1) (if Ym (rmV s a) x.1=true then 1 else 0) [x])).1=0 then
   (0,(if x.2.1=0 then (Zq s 0 (Zau (rmV s a).2 (Z2 (rmV s a) x.1) (if Ym (rmV s a) x.1=true then 1 else 0) [x])).2.1 else Vo (Zq s 0 (Zau (rmV s a).2 (Z2 (rmV s a) x.1) (if Ym (rmV s a) x.1=true then 1 else 0) [x])).2.1 x.2.1),(Zq s 0 (Zau (rmV s a).2 (Z2 (rmV s a) x.1) (if Ym (rmV s a) x.1=true then 1 else 0) [x])).2.2)
  else ((Zq s 0 (Zau (rmV s a).2 (Z2 (rmV s a) x.1) (if Ym (rmV s a) x.1=true then 1 else 0) [x])).1,Zi,[])
 | l+1,s,a =>
  if (Zn x l s (Zbj (rmV s a) x.1)).1=0 then
   if (Zq (Zn x l s (Zbj (rmV s a) x.1)).2.1 ((l+1:Nat):Int) (Zau (rmV s a).2 (Xd (rmV s a) x.1) 1 (Zn x l s (Zbj (rmV s a) x.1)).2.2)).1=0 then
    (0,Znx (Zq (Zn x l s (Zbj (rmV s a) x.1)).2.1 ((l+1:Nat):Int) (Zau (rmV s a).2 (Xd (rmV s a) x.1) 1 (Zn x l s (Zbj (rmV s a) x.1)).2.2)).2.1 (Zn x l s (Zbj (rmV s a) x.1)).2.2,
     (Zq (Zn x l s (Zbj (rmV s a) x.1)).2.1 ((l+1:Nat):Int) (Zau (rmV s a).2 (Xd (rmV s a) x.1) 1 (Zn x l s (Zbj (rmV s a) x.1)).2.2)).2.2)
   else ((Zq (Zn x l s (Zbj (rmV s a) x.1)).2.1 ((l+1:Nat):Int) (Zau (rmV s a).2 (Xd (rmV s a) x.1) 1 (Zn x l s (Zbj (rmV s a) x.1)).2.2)).1,Zi,[])
  else ((Zn x l s (Zbj (rmV s a) x.1)).1,Zi,[])
theorem Zws {x:It}{s u:Rm}{a:Int}{up:List It}(h:Zn x 0 s a=(0,u,up)):∃ u0,Zq s 0 (Zau (rmV s a).2 (Z2 (rmV s a) x.1) (if Ym (rmV s a) x.1=true then 1 else 0) [x])=(0,u0,up)/\u=if x.2.1=0 then u0 else Vo u0 x.2.1:=by{
 unfold Zn at h;generalize hb:Zq s 0 _=b at h;obtain⟨e,v,q⟩:=b;split at h
 ·rename_i h0
  cases h;exact⟨v,by rw[show e=0 from h0],rfl⟩
 ·rename_i h0
  simp only[Prod.mk.injEq] at h;exact absurd h.1 h0}
theorem Zsb {x:It}{l:Nat}{s u:Rm}{a:Int}{up:List It}(h:Zn x (l+1) s a=(0,u,up)):∃ u1 up1 u2,Zn x l s (Zbj (rmV s a) x.1)=(0,u1,up1)/\Zq u1 ((l+1:Nat):Int) (Zau (rmV s a).2 (Xd (rmV s a) x.1) 1 up1)=(0,u2,up)/\u=Znx u2 up1:=by{
 unfold Zn at h;generalize hg:Zn x l s _=g at h;obtain⟨e,u1,up1⟩:=g;generalize hb:Zq _ _ _=b at h;obtain⟨f,u2,q⟩:=b;split at h
 ·rename_i h0
  split at h
  ·rename_i h1
   cases h;exact⟨u1,up1,u2,by rw[show e=0 from h0],by rw[<- show f=0 from h1];exact hb,rfl⟩
  ·rename_i h1
   simp only[Prod.mk.injEq] at h;exact absurd h.1 h1
 ·rename_i h0
  simp only[Prod.mk.injEq] at h;exact absurd h.1 h0}
theorem Zj5 {s u:Rm}{lv:Int}{L up:List It}(h:Zq s lv L=(0,u,up)) (hne:L≠[]):∀ y∈up,∃ q∈L,y.1=q.1:=by{
 have hk:∀ {M:List It},M≠[]->∃ q∈M,Znu M=q.1:=fun {M} hM=>by
  obtain⟨q,r,rfl⟩:=Ps hM;exact⟨q,Qg,rfl⟩
 rcases X2 h with ⟨_,_,rfl⟩ | ⟨h0,_,_,_,rfl⟩
 ·intro y hy
  rw[Ql.1 hy];exact hk hne
 ·have hd:L.drop 3≠[]:=fun e=>by
   have:=congrArg List.length e;rw[Pu] at this;simp at this;omega
  have ht:L.take 3≠[]:=fun e=>by
   have h5:(L.take 3).length=0:=by rw[e];rfl
   rw[Pp] at h5;omega
  intro y hy;rcases Qe.1 hy with rfl | hy
  ·obtain⟨q,hq,e⟩:=hk ht
   exact⟨q,Pj hq,e⟩
  ·rw[Ql.1 hy]
   obtain⟨q,hq,e⟩:=hk hd;exact⟨q,P5 hq,e⟩}
theorem Z2o {y:It}{r:List It}{x:It}(h:Up (y::r)) (hx:Zo x.1 y.1=false):Znu (Ua (y::r) x)=y.1:=by{
 unfold Ua;cases hy:Zo y.1 x.1 with
 | true =>
  rw[Qao (by simpa using hy)];rfl
 | false =>
  have e:y.1=x.1:=by
   by_cases e:y.1=x.1
   ·exact e
   ·rw[Zcc e hy] at hx;cases hx
  rw[Um (L:=y::r) fun z hz=> ?_]
  ·exact e.symm
  ·rcases Qe.1 hz with rfl | hz
   ·exact hy
   ·rw[<- e]
    exact Vv ((Qw.1 h).1 z hz)}
def Ycj (s:Rm):Nat->List It->Ky->Bool->Bool
 | 0,L,_,_=>Yt s L
 | j+1,L,tb,e=>Zae (Zx s j) L tb e
structure Zki (s:Rm) (l:Nat) (a:Int) (tb:Ky) (e:Bool):Prop where
 ok:rmE s a=0
 lv:(rmV s a).1=(l:Int)
 inn:Ycj s l (rmV s a).2 tb e=true
 low:e=true->∀ y∈(rmV s a).2,Zo y.1 tb=true
theorem Zdi {s:Rm}{l:Nat}{a:Int}{k tb:Ky}{e:Bool}(h:Zx s l a k tb e=true):Zki s l a tb e/\∀ y r,(rmV s a).2=y::r->y.1=k:=by{
 obtain⟨r1,r2,r3,r4⟩:=Z9 h;obtain⟨y,r,e1,e2,e3⟩:=Zbd r3;refine⟨⟨r1,r2,by cases l <;> exact r4,fun he=> ?_⟩,fun y' r' e'=> ?_⟩
 ·obtain⟨z,hz,hb⟩:=e3 he
  exact Zqr (Uk (Ya r1).1) hz hb
 ·rw[e1] at e'
  cases e';exact e2}
theorem Zef {s:Rm}{a:Int}(h:Ys s a=true):Zki s (rmV s a).1.toNat a Zbm false:=by
 obtain⟨r1,_,_,l0,_,hi⟩:=Y5 h;refine⟨r1,by omega,?_,fun he=>by cases he⟩;unfold Uj at hi;cases hl:(rmV s a).1.toNat with
 | zero=>rw[hl] at hi;exact hi
 | succ j=>rw[hl] at hi;exact hi
def Zbl (x:It) (i:Nat):Nat:=if x.2.1≠0/\i=x.2.1.toNat then 1 else 0
structure Zid (s u:Rm) (P:Nat->Nat) (N N':List Int) (l:Nat) (a:Int) (up:List It) (x:It) (tb:Ky) (e:Bool):Prop where
 keep:Xw s u
 its:Zae (Zx u l) up tb e=true
 all:(up.flatMap fun y=>X7 u l y.2.1)=Ua (X7 s l a) x
 first:∃ z r,up=z::r/\∀ y q,(rmV s a).2=y::q->Zo x.1 y.1=false->z.1=y.1
 enf:Enf u.1 u.2.1 (fun i=>P i+Xh up i) N'
 more:∀ m∈N,m∈N'
 ups:∀ y∈up,y.2.1∈N'/\8<=y.2.1/\y.2.1<256/\(ndD u.1 y.2.1).1=(l:Int)
 inI:∀ y∈up,InI y
 few:up.length<=2
 writes:u.1.2.length<=s.1.2.length+2*(l+1)
theorem Zvs {x:It}(hx:InI x){s u:Rm}{a:Int}{tb:Ky}{e:Bool}{P:Nat->Nat}{N:List Int}{up:List It}(ht:Zki s 0 a tb e) (hb:e=true->Zo x.1 tb=true) (hr:x.2.1=0\/(0<x.2.1/\s.2.1[x.2.1.toNat]?.getD 0≠0))
  (hE:Enf s.1 s.2.1 (fun i=>P i+Zbl x i) N) (h:Zn x 0 s a=(0,u,up)):∃ N',Zid s u P N N' 0 a up x tb e:=by{
 obtain⟨u0,h1,rfl⟩:=Zws h;have hm:=(Ya ht.ok).1;have el:Zau (rmV s a).2 (Z2 (rmV s a) x.1) (if Ym (rmV s a) x.1=true then 1 else 0) [x]=Ua (rmV s a).2 x:=Zh2 hm x;rw[el] at h1;have hin:x∈Ua (rmV s a).2 x:=Zdl.2 (.inl rfl);have hne:Ua (rmV s a).2 x≠[]:=fun e=>by rw[e] at hin;cases hin
 have hi:InN ((0:Int),Ua (rmV s a).2 x):=⟨⟨by simp,by simp⟩,fun y hy=>by
  rcases Zdl.1 hy with rfl | ⟨hy,_⟩
  ·exact hx
  ·exact(Ze4 ht.ok).it y hy⟩
 have hrow:Zic s 0 (Ua (rmV s a).2 x) tb e (Ua (rmV s a).2 x):=by
  refine⟨Z7v (Uk hm) x,?_,fun he y hy=> ?_,rfl⟩
  ·have h2:Yt s (rmV s a).2=true:=ht.inn
   unfold Yt at h2 ⊢;rw[Qy] at h2 ⊢;intro y hy;rcases Zdl.1 hy with rfl | ⟨hy,_⟩
   ·rcases hr with hr | hr
    ·simp[hr]
    ·simp[hr.2]
   ·exact h2 y hy
  ·rcases Zdl.1 hy with rfl | ⟨hy,_⟩
   ·exact hb he
   ·exact ht.low he y hy
 obtain⟨k1,g1,g2,z,r,ez,kz⟩:=Ziy (lv:=0) h1 hi hne hrow;obtain⟨N',e1,_,e3,e4,e5,e6,e7,e8⟩:=Zad h1 hi hE fun h0=>absurd rfl h0;have hK:Xw u0 (if x.2.1=0 then u0 else Vo u0 x.2.1)/\Enf (if x.2.1=0 then u0 else Vo u0 x.2.1).1 (if x.2.1=0 then u0 else Vo u0 x.2.1).2.1 (fun i=>P i+Xh up i) N':=by
  by_cases h0:x.2.1=0
  ·rw[if_pos h0]
   exact⟨Zdz k1.may,e1.same fun i=>by simp[Zbl,h0]⟩
  ·rw[if_neg h0]
   obtain⟨n,hn,hxn⟩:=e6 x hin;have hpos:0<x.2.1:=by rcases hr with hr | hr <;> omega
   refine Zj4 k1.may (e1.same fun i=> ?_) hpos ⟨n,hn,x,hxn,rfl⟩;show P i+Xh up i+(if i=x.2.1.toNat then 1 else 0)=P i+Zbl x i+Xh up i;unfold Zbl;by_cases ei:i=x.2.1.toNat
   ·rw[if_pos ei,if_pos ⟨h0,ei⟩];omega
   ·rw[if_neg ei,if_neg fun h=>ei h.2];omega
 obtain⟨k2,e9⟩:=hK;have hnd:∀ m∈N',ndD (if x.2.1=0 then u0 else Vo u0 x.2.1).1 m=ndD u0.1 m:=fun m hm=>by
  by_cases h0:x.2.1=0
  ·rw[if_pos h0]
  ·rw[if_neg h0];rfl
 refine⟨N',Xr k1 k2,U5 (fun a k tb e hf=>(Yb k2 0 a k tb e hf).1) _ _ _ g1,?_,⟨z,r,ez,fun y q ey hxy=> ?_⟩,e9,e3,fun y hy=> ?_,fun y hy=> ?_,e7,?_⟩
 ·rw[show X7 s 0 a=(rmV s a).2 from rfl,<- g2]
  exact X8 fun y hy=>by
   obtain⟨t',e',hf⟩:=Xm g1 y hy;exact(Yb k2 0 _ _ _ _ hf).2.1
 ·rw[kz,ey]
  exact Z2o (by rw[<- ey];exact Uk hm) hxy
 ·obtain⟨f1,f2,f3,f4⟩:=e5 y hy
  exact⟨f1,f2,f3,by rw[hnd _ f1];exact f4⟩
 ·obtain⟨q,hq,eq⟩:=Zj5 h1 hne y hy
  obtain⟨_,f2,f3,_⟩:=e5 y hy;exact⟨by rw[eq];exact(hi.it q hq).key,⟨by omega,by omega⟩⟩
 ·have:(if x.2.1=0 then u0 else Vo u0 x.2.1).1=u0.1:=by
   by_cases h0:x.2.1=0
   ·rw[if_pos h0]
   ·rw[if_neg h0];rfl
  rw[this];omega}
theorem Zft {n:Nd}{k:Ky}{y:It}(hy:n.2[Xd n k]? = some y):n.2=n.2.take (Xd n k)++y::n.2.drop (Xd n k+1):=by
 obtain⟨hp,hg⟩:=Qj.1 hy
 conv=>lhs;rw[<- Qz (Xd n k) n.2,Qaq hp,hg]
theorem Zrc {x:It}{l:Nat}(h6:l+1<6){s u:Rm}{a:Int}{tb:Ky}{e:Bool}{P:Nat->Nat}{N:List Int}{up:List It}
  (ih:∀ {u:Rm} {a:Int} {tb:Ky} {e:Bool} {up:List It},Zki s l a tb e->(e=true->Zo x.1 tb=true)->a∈N->Zn x l s a=(0,u,up)->∃ N',Zid s u P N N' l a up x tb e)
  (ht:Zki s (l+1) a tb e) (hb:e=true->Zo x.1 tb=true) (ha:a∈N) {Q:Nat->Nat} (hE:Enf s.1 s.2.1 Q N) (h:Zn x (l+1) s a=(0,u,up)):∃ N',Zid s u P N N' (l+1) a up x tb e:=by{
 obtain⟨u1,up1,u2,h1,h2,rfl⟩:=Zsb h;have hm:=(Ya ht.ok).1;have hne:0<(rmV s a).2.length:=(Zw hm).1.2.2.2 (by rw[ht.lv];omega);obtain⟨y,hy⟩:∃ y,(rmV s a).2[Xd (rmV s a) x.1]? = some y:=⟨_,Qc (Zbi x.1 hne)⟩
 have hw:=Zft hy;have hyin:y∈(rmV s a).2:=Qt hy;have hir:Zbj (rmV s a) x.1=y.2.1:=by unfold Zbj;rw[hy];rfl
 rw[hir] at h1;have hbe:=fun(i:Nat) (c:It) (hi:Xd (rmV s a) x.1<i) (hc:(rmV s a).2[i]? = some c)=>Zd1 hm hi hc
 have hown:=Zsi hm hy;have hA0:(rmV s a).2.take (Xd (rmV s a) x.1)≠[]->Zo x.1 y.1=false:=fun hA=>hown fun e=>hA (by rw[e];rfl)
 have hCk:∀ c r,(rmV s a).2.drop (Xd (rmV s a) x.1+1)=c::r->Zo x.1 c.1=true:=fun c r hc=>by
  refine hbe (Xd (rmV s a) x.1+1) c (by omega) ?_;have:=congrArg (fun l=>l[0]?) hc
  simpa [Pc] using this
 have eL:Zau (rmV s a).2 (Xd (rmV s a) x.1) 1 up1=(rmV s a).2.take (Xd (rmV s a) x.1)++(up1++(rmV s a).2.drop (Xd (rmV s a) x.1+1)):=rfl;rw[eL] at h2;generalize hAe:(rmV s a).2.take (Xd (rmV s a) x.1)=A at *;generalize hCe:(rmV s a).2.drop (Xd (rmV s a) x.1+1)=C at *;have hinn:Zae (Zx s l) (rmV s a).2 tb e=true:=ht.inn;rw[hw] at hinn;have hsp:=hinn;rw[Yu,Qd,Xx,Qd] at hsp;obtain⟨iA,iy,iC⟩:=hsp;obtain⟨hty,htk⟩:=Zdi iy;have hbC:bxO C e=true->Zo x.1 (nxO C tb)=true:=fun he=>by
  cases hC:C with
  | nil=>rw[hC] at he;exact hb he
  | cons c r=>exact hCk c r hC
 have hnd:ndD s.1 a=rmV s a:=V6 ht.ok;have hsh:∀ q∈(rmV s a).2,q.2.1∈N/\q.2.1≠0/\(ndD s.1 q.2.1).1+1=((l+1:Nat):Int):=fun q hq=>by
  have:=hE.shut a ha (by rw[hnd,ht.lv];omega) q (by rw[hnd];exact hq);rw[hnd,ht.lv] at this;exact this
 obtain⟨N1,G⟩:=ih hty hbC (hsh y hyin).1 h1;obtain⟨z1,r1,ez1,kz1⟩:=G.first;have hz1:Zo x.1 y.1=false->z1.1=y.1:=fun hxy=>by
  obtain⟨y0,q0,e0,_⟩:∃ y0 q0,(rmV s y.2.1).2=y0::q0/\True:=by
   obtain⟨_,_,r3,_⟩:=Z9 iy;obtain⟨y0,q0,e0,_⟩:=Zbd r3;exact⟨y0,q0,e0,trivial⟩
  have k0:=htk y0 q0 e0;rw[kz1 y0 q0 e0 (by rw[k0];exact hxy),k0]
 have hits:Zae (Zx u1 l) (A++(up1++C)) tb e=true:=Zrj hinn (fun hA=>hz1 (hA0 hA)) ez1 (fun q _ k tb e hf=>(Yb G.keep l _ _ _ _ hf).1) G.its;have hfA:(A.flatMap fun q=>X7 u1 l q.2.1)=A.flatMap fun q=>X7 s l q.2.1:=X8 fun q hq=>by
  obtain⟨t',e',hf⟩:=Xm iA q hq;exact(Yb G.keep l _ _ _ _ hf).2.1
 have hfC:(C.flatMap fun q=>X7 u1 l q.2.1)=C.flatMap fun q=>X7 s l q.2.1:=X8 fun q hq=>by
  obtain⟨t',e',hf⟩:=Xm iC q hq;exact(Yb G.keep l _ _ _ _ hf).2.1
 have hpA:∀ q∈A.flatMap (fun q=>X7 s l q.2.1),Zo q.1 x.1=true:=fun q hq=>by
  by_cases hA:A=[]
  ·rw[hA] at hq;cases hq
  ·have iA':Zae (Zx s l) A y.1 true=true:=iA
   obtain⟨_,_,_,hp⟩:=Zav (Y1 s l) A y.1 true hA iA';exact Zsl (hp.bound rfl q hq) (hA0 hA)
 have hpC:∀ q∈C.flatMap (fun q=>X7 s l q.2.1),Zo x.1 q.1=true:=fun q hq=>by
  by_cases hC:C=[]
  ·rw[hC] at hq;cases hq
  ·obtain⟨c,r,ec,hp⟩:=Zav (Y1 s l) C tb e hC iC
   have hc:=hCk c r ec;rcases hp.ge q hq with e1 | e1
   ·rw[e1];exact hc
   ·exact Yo hc e1
 have hall:((A++(up1++C)).flatMap fun q=>X7 u1 l q.2.1)=Ua (X7 s (l+1) a) x:=by
  have e1:X7 s (l+1) a=(rmV s a).2.flatMap fun q=>X7 s l q.2.1:=rfl
  rw[e1,hw,Pt,Pt,Pt,Qx,hfA,hfC,G.all,Zto hpA hpC]
 have hin:InN (((l+1:Nat):Int),A++(up1++C)):=⟨⟨by show (-9223372036854775808:Int)<=((l+1:Nat):Int);omega,by show ((l+1:Nat):Int)<=9223372036854775807;omega⟩,fun q hq=>by
  have hN:=(Ze4 ht.ok).it;rw[hw] at hN;rcases Qq.1 hq with hq | hq
  ·exact hN q (Pr _ hq)
  ·rcases Qq.1 hq with hq | hq
   ·exact G.inI q hq
   ·exact hN q (Pf _ (Qf _ hq))⟩
 have hnL:A++(up1++C)≠[]:=by rw[ez1];simp
 have hrow:Zic u1 (l+1) (A++(up1++C)) tb e (Ua (X7 s (l+1) a) x):=⟨hits,hall.symm⟩
 obtain⟨k2,g1,g2,z,r,ez,kz⟩:=Ziy h2 hin hnL hrow;obtain⟨N2,e1,_,e3,e4,e5,e6,e7,e8⟩:=Zad h2 hin G.enf fun _ q hq=>by
  have Zbl:∀ q∈(rmV s a).2,q.2.1∈N1/\q.2.1≠0/\(ndD u1.1 q.2.1).1+1=((l+1:Nat):Int):=fun q hq=>by
   obtain⟨f1,f2,f3⟩:=hsh q hq;exact⟨G.more _ f1,f2,by rw[Ze9 G.keep hE f1];exact f3⟩
  rw[hw] at Zbl;rcases Qq.1 hq with hq | hq
  ·exact Zbl q (Pr _ hq)
  ·rcases Qq.1 hq with hq | hq
   ·obtain⟨f1,f2,f3,f4⟩:=G.ups q hq
    exact⟨f1,by omega,by rw[f4];omega⟩
   ·exact Zbl q (Pf _ (Qf _ hq))
 obtain⟨k3,e9⟩:=Znh up1 (s:=u2) (P:=fun i=>P i+Xh up i) (N:=N2) k2.may (e1.same fun i=>by show P i+Xh up i+Xh up1 i=P i+Xh up1 i+Xh up i;omega) fun q hq=>by
  obtain⟨_,f2,_,_⟩:=G.ups q hq;obtain⟨n,hn,hqn⟩:=e6 q (Pf _ (Pr _ hq));exact⟨by omega,n,hn,q,hqn,rfl⟩
 have hd:(Znx u2 up1).1=u2.1:=by
  clear k3 e9 e1;have:∀ (l:List It) (v:Rm),(Znx v l).1=v.1:=by
   intro l
   induction l with
   | nil=>intro v;rfl
   | cons q r ih=>intro v;rw[Zqj,ih];rfl
  exact this up1 u2
 refine⟨N2,Xr (Xr G.keep k2) k3,U5 (fun a k tb e hf=>(Yb k3 (l+1) a k tb e hf).1) _ _ _ g1,?_,⟨z,r,ez,fun y0 q0 e0 hxy=> ?_⟩,e9,fun m hm=>e3 m (G.more m hm),fun q hq=> ?_,fun q hq=> ?_,e7,?_⟩
 ·rw[<- g2]
  exact X8 fun q hq=>by
   obtain⟨t',e',hf⟩:=Xm g1 q hq;exact(Yb k3 (l+1) _ _ _ _ hf).2.1
 ·rw[kz]
  rw[hw] at e0;cases hA:A with
  | nil =>
   rw[hA] at e0;cases e0;rw[ez1];exact hz1 hxy
  | cons c r0 =>
   rw[hA] at e0;cases e0;rfl
 ·rw[hd]
  exact e5 q hq
 ·obtain⟨p,hp,ep⟩:=Zj5 h2 hnL q hq
  obtain⟨_,f2,f3,_⟩:=e5 q hq;exact⟨by rw[ep];exact(hin.it p hp).key,⟨by omega,by omega⟩⟩
 ·rw[hd]
  have:=G.writes;omega}
theorem Zh6 {x:It}(hx:InI x){s:Rm}{P:Nat->Nat}{N:List Int}(hr:x.2.1=0\/(0<x.2.1/\s.2.1[x.2.1.toNat]?.getD 0≠0)) (hE:Enf s.1 s.2.1 (fun i=>P i+Zbl x i) N):∀ (l:Nat),l<6->∀ {u:Rm}{a:Int}{tb:Ky}{e:Bool}{up:List It},Zki s l a tb e->(e=true->Zo x.1 tb=true)->a∈N->Zn x l s a=(0,u,up)->∃ N',Zid s u P N N' l a up x tb e
 | 0,_,_,_,_,_,_,ht,hb,_,h=>Zvs hx ht hb hr hE h
 | l+1,h6,_,_,_,_,_,ht,hb,ha,h=>Zrc h6 (fun ht hb ha h=>Zh6 hx hr hE l (by omega) ht hb ha h) ht hb ha hE h
def Zrd (s:Rm):Nat->Int->Ky->Bool
 | 0,a,k=>decide (5<=(rmV s a).2.length) && !Ym (rmV s a) k
 | l+1,a,k=>decide (5<=(rmV s a).2.length)&&Zrd s l (Zbj (rmV s a) k) k
def Zrm (s:Rm) (a:Int) (k:Ky):Bool:=decide ((rmV s a).1=5)&&Zrd s 5 a k
def Vm (s:Rm) (lv:Int) (up:List It):Int×Rm×List It :=
 if 1<up.length then
  if (Zq s (lv+1) up).1=0 then (0,Znx (Zq s (lv+1) up).2.1 up,(Zq s (lv+1) up).2.2) else ((Zq s (lv+1) up).1,Zi,[])
 else (0,s,up)
def Zb3 (up:List It):Int:=match up with | []=>0 | z::_=>z.2.1
def Zmu (s:Rm) (a:Int) (x:It):Int×Rm×Int :=
 if Zrm s a x.1 then (120,Zi,0)
 else if (Zn x (rmV s a).1.toNat s a).1=0 then
  if (Vm (Zn x (rmV s a).1.toNat s a).2.1 (rmV s a).1 (Zn x (rmV s a).1.toNat s a).2.2).1=0 then
   match lfO (Vm (Zn x (rmV s a).1.toNat s a).2.1 (rmV s a).1 (Zn x (rmV s a).1.toNat s a).2.2).2.1.1 (Vm (Zn x (rmV s a).1.toNat s a).2.1 (rmV s a).1 (Zn x (rmV s a).1.toNat s a).2.2).2.1.2.1 a.toNat with
   | none=>(8,Zi,0)
   | some v=>(0,((Vm (Zn x (rmV s a).1.toNat s a).2.1 (rmV s a).1 (Zn x (rmV s a).1.toNat s a).2.2).2.1.1,v,(Vm (Zn x (rmV s a).1.toNat s a).2.1 (rmV s a).1 (Zn x (rmV s a).1.toNat s a).2.2).2.1.2.2),Zb3 (Vm (Zn x (rmV s a).1.toNat s a).2.1 (rmV s a).1 (Zn x (rmV s a).1.toNat s a).2.2).2.2)
  else ((Vm (Zn x (rmV s a).1.toNat s a).2.1 (rmV s a).1 (Zn x (rmV s a).1.toNat s a).2.2).1,Zi,0)
 else ((Zn x (rmV s a).1.toNat s a).1,Zi,0)
def Ycf (s:Rm) (a:Int) (x:It):Int×Rm×Int :=
 if ckE s a=0 then if Zbp x then if x.2.1≠0/\s.2.1[x.2.1.toNat]?.getD 0=0 then (6,Zi,0) else Zmu s a x else (8,Zi,0) else (ckE s a,Zi,0)
theorem Z16 {s u:Rm}{lv:Int}{up top:List It}(h:Vm s lv up=(0,u,top)):(up.length<=1/\u=s/\top=up)\/(1<up.length/\∃ u0,Zq s (lv+1) up=(0,u0,top)/\u=Znx u0 up):=by{
 unfold Vm at h;split at h
 ·rename_i h0
  generalize hb:Zq s (lv+1) up=b at h;obtain⟨e,v,q⟩:=b;split at h
  ·rename_i h1
   cases h;exact .inr ⟨h0,v,by rw[show e=0 from h1],rfl⟩
  ·rename_i h1
   simp only[Prod.mk.injEq] at h;exact absurd h.1 h1
 ·cases h
  exact .inl ⟨by omega,rfl,rfl⟩}
theorem Zg6 {s:Rm}{l:Nat}{a:Int}{k:Ky}(h:Zx s l a k Zbm false=true):Ys s a=true/\Zbk s a=X7 s l a/\(rmV s a).1=(l:Int):=by{
 obtain⟨r1,r2,r3,r4⟩:=Z9 h;have e:(rmV s a).1.toNat=l:=by omega
 refine⟨?_,by unfold Zbk;rw[e],r2⟩;unfold Ys Uj;rw[e,r1];cases l with
 | zero=>simp only[Qd];exact⟨by decide,r4⟩
 | succ j=>simp only[Qd];exact⟨by decide,r4⟩}
theorem Z8a {s:Rm}{t:List UInt8}{Q:Nat->Nat}{M:List Int}(hE:Enf s.1 t Q M){x:It}{n:Int}(hn:n∈M) (hx:x∈(ndD s.1 n).2) (h0:x.2.1≠0):Yy t x.2.1.toNat≠0:=by
 have h1:=hE.enough x.2.1.toNat;have h2:0<=x.2.1:=by rcases hE.refs n hn x hx with e | e <;> omega
 have h3:=Zao hx (k:=x.2.1.toNat) (by omega) h0;have h4:=Zg2 (d:=s.1) (k:=x.2.1.toNat) hn;omega
theorem Ztf {s:Rm}{t:List UInt8}{Q:Nat->Nat}{M:List Int}(hE:Enf s.1 t Q M){a:Int}(hr:rmE s a=0) (ha:a∈M):(∀ n∈Y6 s 0 a,n∈M)/\∀ r∈Vw s 0 a,Yy t r.toNat≠0:=by{
 refine⟨fun n hn=> ?_,fun r hr'=> ?_⟩
 ·simp only[Y6,Ql] at hn
  rw[hn];exact ha
 ·simp only[Vw,Qi,Pe,decide_eq_true_eq] at hr'
  obtain⟨⟨x,hx,rfl⟩,h0⟩:=hr';exact Z8a hE ha (by rw[V6 hr];exact hx) h0}
theorem Z6i {s:Rm}{t:List UInt8}{Q:Nat->Nat}{M:List Int}(hE:Enf s.1 t Q M){l:Nat}{a:Int}(hr:rmE s a=0) (hl:(rmV s a).1=((l+1:Nat):Int)) (ha:a∈M)
  (ih:∀ x∈(rmV s a).2,x.2.1∈M->(∀ n∈Y6 s l x.2.1,n∈M)/\∀ r∈Vw s l x.2.1,Yy t r.toNat≠0):(∀ n∈Y6 s (l+1) a,n∈M)/\∀ r∈Vw s (l+1) a,Yy t r.toNat≠0:=by{
 have hs:∀ x∈(rmV s a).2,x.2.1∈M:=fun x hx=>(hE.shut a ha (by rw[V6 hr,hl];omega) x (by rw[V6 hr];exact hx)).1
 refine⟨fun n hn=> ?_,fun r hr'=> ?_⟩
 ·simp only[Y6,Qe,Qk] at hn
  rcases hn with rfl | ⟨x,hx,hn⟩
  ·exact ha
  ·exact(ih x hx (hs x hx)).1 n hn
 ·simp only[Vw,Qk] at hr'
  obtain⟨x,hx,hr'⟩:=hr';exact(ih x hx (hs x hx)).2 r hr'}
theorem Zpi {s:Rm}{t:List UInt8}{Q:Nat->Nat}{M:List Int}(hE:Enf s.1 t Q M):∀ (l:Nat) (a:Int) (k tb:Ky) (e:Bool),Zx s l a k tb e=true->a∈M->(∀ n∈Y6 s l a,n∈M)/\∀ r∈Vw s l a,Yy t r.toNat≠0
 | 0,a,k,tb,e,hr,ha=>Ztf hE (Z9 hr).1 ha
 | l+1,a,k,tb,e,hr,ha=>by
  obtain⟨r1,r2,_,r4⟩:=Z9 hr;exact Z6i hE r1 r2 ha fun x hx hxM=>by
   obtain⟨t',e',hf⟩:=Xm r4 x hx;exact Zpi hE l _ _ _ _ hf hxM
theorem Zua {s:Rm}{t:List UInt8}{Q:Nat->Nat}{M:List Int}(hE:Enf s.1 t Q M){a:Int}(h:Ys s a=true) (ha:a∈M):(∀ n∈Xj s a,n∈M)/\∀ r∈Zer s a,Yy t r.toNat≠0:=by{
 obtain⟨r1,_,_,l0,_,hi⟩:=Y5 h;unfold Xj Zer;unfold Uj at hi;cases hl:(rmV s a).1.toNat with
 | zero=>exact Ztf hE r1 ha
 | succ l =>
  rw[hl] at hi;exact Z6i hE r1 (by omega) ha fun x hx hxM=>by
   obtain⟨t',e',hf⟩:=Xm hi x hx;exact Zpi hE l _ _ _ _ hf hxM}
theorem Zdb {T:Rm}{v:List UInt8}{Q:Nat->Nat}{N:List Int}{a:Int}(hm:Xk T=true) (hv:lfO T.1 T.2.1 a.toNat=some v) (hE:Enf T.1 v Q (Un v N)){b:Int}(hb:b∈N) (hQ:1<=Q b.toNat) (ht:Ys T b=true) :
  Xk (T.1,v,T.2.2)=true/\b∈Un v N/\Ys (T.1,v,T.2.2) b=true/\rmV (T.1,v,T.2.2) b=rmV T b/\Zbk (T.1,v,T.2.2) b=Zbk T b/\(∀ q,Zf9 (T.1,v,T.2.2) b q=Zf9 T b q)/\Xj (T.1,v,T.2.2) b=Xj T b/\Zer (T.1,v,T.2.2) b=Zer T b:=by
 obtain⟨_,hle,_⟩:=Zqu hv;obtain⟨m1,m2,m3⟩:=Yf hm;have hmu:Xk (T.1,v,T.2.2)=true:=Zaj m1 (LeT.may hle m2) m3;have hlive:b∈Un v N:=Zml.2 ⟨hb,by have:=hE.enough b.toNat;omega⟩;obtain⟨g1,g2⟩:=Zua (s:=T) hE ht hlive;have hon:OnT T (T.1,v,T.2.2) (Xj T b) (Zer T b):=⟨hmu,fun n hn=>Vu.1 (Zml.1 (g1 n hn)).2,fun _ _=>rfl,fun r hr=>Vu.1 (g2 r hr)⟩
 exact⟨hmu,hlive,Z6u hon ht (fun _ h=>h) (fun _ h=>h)⟩
def Zkj:Rm:=(Zbn,Zy 256,Zy 256)
theorem Z4z (w:Qax):Qa4 Tryz.prog 24 #[] w fun e w'=>∃ t,e=.returned t/\Sto (New w.heap.size w') w' t Zkj/\Qa5 w.heap.size w w':=by{
 obtain⟨w1,hw1,f1,hsz,hB⟩:=X3 w (.slice none 0 0) (.slice none 0 0) (.slice none 0 0) (.slice none 0 0) 29;have hz:Hid ((Zy 256).length=256):=Za (Zbw 256);replace hsz:=Za hsz
 go_enter Tryz.func24,Tryz.ntmps24
 go_upto_region 1 with fail
 clear hw1
 go_wp2_with fail
 with_reducible refine(Z8d _).mono ?_
 rintro e w2 ⟨u,rfl,h2,hb2⟩;obtain⟨P,p,Q,r,rfl,_⟩:=id h2.open;have H2:=Za h2;have F2:=(hb2.block w.heap.size (by rw[hsz.out];omega)).trans f1;have B2:=Za (hB.trans (hb2.mono hB.size));have s2:Hid (w.heap.size+1<=w1.heap.size/\w1.heap.size<=w2.heap.size):=Za ⟨by rw[hsz.out];omega,hb2.size⟩;clear h2 hb2 f1
 go_wp2_with fail
 with_reducible refine(Zoc _).mono ?_
 rintro e w3 ⟨g3,rfl,h3,hb3⟩;have H3:=Za h3;have D3:=Za (H2.out.new (Qa _) hb3);have F3:=(hb3.block w.heap.size (by have:=s2.out;omega)).trans F2;have B3:=Za (B2.out.trans (hb3.mono B2.out.size));have s3:Hid (w2.heap.size<=w3.heap.size):=Za hb3.size;clear h3 hb3 F2 H2
 go_wp2_with fail
 with_reducible refine(Zoc _).mono ?_
 rintro e w4 ⟨g4,rfl,h4,hb4⟩;have D4:=D3.out.new (Qa _) hb4;have N4:=Zf.new H3.out (Qa _) hb4;have F4:=(hb4.block w.heap.size (by have:=s2.out;have:=s3.out;omega)).trans F3;have B4:=B3.out.trans (hb4.mono B3.out.size);obtain⟨c0,c1,c2,c3,c4,c5⟩:=Ze F4;obtain⟨W9,hW9,g9,gr9,gs9⟩:=Zu (a':=.slice P Zbn.1.length p) (b':=.slice Q Zbn.2.length r) (c':=.slice (some ⟨g3,0,none⟩) 256 256) (d':=.slice (some ⟨g4,0,none⟩) 256 256) F4;obtain⟨n0,n1,n2,n3,_,_⟩:=Ze g9;have q2:=s2.out;have q3:=s3.out;have l2:=B2.out.size;have l3:=B3.out.size
 have hfin:=Za (show Sto (New w.heap.size W9) W9 (.agg #[.slice P Zbn.1.length p,.slice Q Zbn.2.length r,.slice (some ⟨g3,0,none⟩) 256 256,.slice (some ⟨g4,0,none⟩) 256 256]) Zkj from
  Sto.mk ((D4.grown gr9 (fun q e=>by cases e;omega)).new (by omega) (Qb _ _)) (Zf.new (Zf.grown N4 gr9 (fun q e=>by cases e;omega)) (by omega) (Qb _ _)) (Zf.new (Zf.grown h4 gr9 (fun q e=>by cases e;omega)) (by omega) (Qb _ _)))
 have hB9:=Za (B4.grown gr9 B4.size (fun q e=>by cases e;omega));clear D4 N4 gr9 gs9 B4 q2 q3 l2 l3 h4 hb4;replace F4:=Za F4;replace F3:=Za F3;replace g9:=Za g9
 go_wp2_with fail
 refine Qa1 (v:=.agg #[.slice P Zbn.1.length p,.slice Q Zbn.2.length r,.slice (some ⟨g3,0,none⟩) 256 256,.slice (some ⟨g4,0,none⟩) 256 256]) (by simp[results,Tryz.results24,go_sem,n0,n1,n2,n3]) rfl ?_;exact⟨_,rfl,hfin.out,hB9.out⟩}
end Go.Proofs.YtgmbjnajdfgenaaGreat
namespace Go.Proofs.YtgmbjnajdfgenaaGreat
open Go.RowKit Go.Shelf
attribute [local go_sem] Oper.semAt_some
theorem X5 {W:Qax}{g:Nat}{a u:Qay}{t:Qa0}(h:W.heap[g]? = some (.cells #[a] t (0,0))):∃ W1,W.setCell ⟨g,0,none⟩ u=W1/\W1.heap[g]? = some (.cells #[u] t (0,0))/\W.grownBy W1 (some g)/\W1.heap.size=W.heap.size :=
 ⟨_,rfl,by simp[Px,Py,h],Yr (p:=⟨g,0,none⟩) (Xc W (some g)) rfl u,by simp⟩
theorem Zm {W:Qax}{g:Nat}{a:Qay}{t:Qa0}(h:W.heap[g]? = some (.cells #[a] t (0,0))):W.cell? ⟨g,0,none⟩=some a/\W.frozen? ⟨g,0,none⟩=false/\g<W.heap.size :=
 ⟨by simp[Qo,h],by simp[Pw,h],(Qv.1 h).1⟩
theorem Zl {W W':Qax}{row:Option Nat}{g:Nat}{cs:Array Qay}{t:Qa0}(h:W.heap[g]? = some (.cells cs t (0,0))) (hg:W.grownBy W' row) (hrow:∀ r,row=some r->∃ o:Obj,W.heap[r]? = some o/\o.isCells=false):W'.heap[g]? = some (.cells cs t (0,0)) :=
 (grownBy_keeps_cells hg hrow h rfl).trans h
def NZ (ok:Qaz->Prop) (w:Qax):Qaz->Prop:=fun p=>ok p/\w.cell? p≠some (.slice none 0 0)
theorem Z4k {ok:Qaz->Prop}{w:Qax}{cs:List Qay}{x:List UInt8}(h:rBy ok w cs x):rBy (NZ ok w) w cs x:=by
 obtain⟨A,cap,h1,h2,h3,h4⟩:=h;refine⟨A,cap,h1,h2,h3,fun i y hi=> ?_⟩;obtain⟨ad,vs,e1,e2,e3,e4⟩:=h4 i y hi;refine⟨ad,vs,e1,e2,fun j u hj=>⟨⟨(e3 j u hj).1,?_⟩,(e3 j u hj).2⟩,e4⟩;unfold rU8 at e4;subst e4;have:=Qt hj;simp only[Ql] at this;rw[(e3 j u hj).2,this];simp
theorem Zu7 {ok:Qaz->Prop}{w:Qax}{u:Qay}{x:List UInt8}(h:rBy ok w [u] x) (hx:x≠[]):u≠.slice none 0 0:=by
 obtain⟨A,c,rfl,_⟩:=Zt h;intro e;simp only[Value.slice.injEq] at e;exact hx (Qam e.2.1)
theorem Z9c {ok:Qaz->Prop}{w:Qax}{cs:List Qay}{xss:List (List UInt8)}(h:rSl 1 rBy ok w cs xss) (hn:∀ x∈xss,x≠[]):rSl 1 rBy (NZ ok w) w cs xss:=by{
 obtain⟨A,cap,h1,h2,h3,h4⟩:=h;refine⟨A,cap,h1,h2,h3,fun i y hi=> ?_⟩;obtain⟨ad,vs,e1,e2,e3,e4⟩:=h4 i y hi;refine⟨ad,vs,e1,e2,fun j u hj=>⟨⟨(e3 j u hj).1,?_⟩,(e3 j u hj).2⟩,Z4k e4⟩
 match vs,e2 with
 | [v],_ =>
  have:=Qt hj;simp only[Ql] at this;rw[(e3 j u hj).2,this];exact fun e=>Zu7 e4 (hn y (Qt hi)) (by simpa using e)}
theorem Yah {ok:Qaz->Prop}{w:Qax}{cs:List Qay}{ws:List Wt}(h:rSl 2 rWt ok w cs ws) (hn:∀ x∈ws,x.2≠[]):rSl 2 rWt (NZ ok w) w cs ws:=by
 obtain⟨A,cap,h1,h2,h3,h4⟩:=h;refine⟨A,cap,h1,h2,h3,fun i y hi=> ?_⟩;obtain⟨ad,vs,e1,e2,e3,e4⟩:=h4 i y hi;obtain⟨v,rfl,b1,b2,hv⟩:=Zuz e4;refine⟨ad,_,e1,e2,fun j u hj=>⟨⟨(e3 j u hj).1,?_⟩,(e3 j u hj).2⟩,Z6d b1 b2 (Z4k hv)⟩;have:=Qt hj;simp only[Qe,List.not_mem_nil,or_false] at this;rw[(e3 j u hj).2];rcases this with rfl | rfl
 ·simp
 ·exact fun e=>Zu7 hv (hn y (Qt hi)) (by simpa using e)
theorem Ybh {ok:Qaz->Prop}{w:Qax}{v:Qay}{d:Dk}(h:Dsk ok w v d) (h1:∀ x∈d.1,x≠[]) (h2:∀ x∈d.2,x.2≠[]):Dsk (NZ ok w) w v d:=by
 obtain⟨a,b,e,r1,r2⟩:=h;exact⟨a,b,e,Z9c r1 h1,Yah r2 h2⟩
theorem Z39 {d:Dk}(h:Zbx d=true):(∀ x∈d.1,x≠[])/\(∀ x∈d.2,x.2≠[]):=by{
 obtain⟨_,_,h1,h2⟩:=Zfs h;refine⟨fun x hx e=> ?_,fun x hx e=> ?_⟩
 ·obtain⟨i,hi⟩:=Qm hx
  have:=h1 i x hi;rw[e] at this;cases this
 ·obtain⟨i,hi⟩:=Qm hx
  have:=(h2 i x hi).2.2;rw[e] at this;cases this}
theorem Z3o {W:Qax}{g:Nat}{cs:Array Qay}{t:Qa0}{p:Qaz}{u:Qay}(hz:W.heap[g]? = some (.cells cs t (0,0))) (hcs:∀ c∈cs,c=.slice none 0 0) (hc:W.cell? p=some u) (hn:W.cell? p≠some (.slice none 0 0)):p.block≠g:=fun e=>by
 refine hn ?_;rw[hc];unfold Qo at hc;rw[e,hz] at hc
 dsimp only at hc
 split at hc
 ·cases hc
 ·obtain⟨hlt,hu⟩:=Qv.1 hc
  rw[<- hu];exact congrArg some (hcs _ (Array.getElem_mem hlt))
theorem Z9s {ok:Qaz->Prop}{w:Qax}{v:Qay}{s:Rm}(h:Sto ok w v s) (hd:(∀ x∈s.1.1,x≠[])/\(∀ x∈s.1.2,x.2≠[])):Sto (NZ ok w) w v s:=by
 obtain⟨a,b,n,l,e,h1,h2,h3⟩:=h;exact⟨a,b,n,l,e,Ybh h1 hd.1 hd.2,Z4k h2,Z4k h3⟩
def Z7k (s:Rm):Prop:=(∀ x∈s.1.1,x≠[])/\(∀ x∈s.1.2,x.2≠[])
theorem Z6z {s:Rm}(h:Xk s=true):Z7k s:=Z39 (Yf h).1
theorem Zp4 {W W9:Qax}{g:Nat}{cs:Array Qay}{t:Qa0}{v:Qay}{s:Rm}(h:Sto (Old W) W v s) (hd:Z7k s) (hz:W.heap[g]? = some (.cells cs t (0,0))) (hcs:∀ c∈cs,c=.slice none 0 0) (hg:W.grownBy W9 (some g)):Sto (Old W9) W9 v s :=
 (Z9s h hd).map fun p u hp hc=>by
  have hn:=Z3o hz hcs hc hp.2;exact⟨Qr hp.1 hg.size,(Qas (hg.block _ hp.1 (by simpa using hn))).trans hc⟩
theorem Z3r:(Xs Zkj).length=248/\Xs Zkj=8::9::(Xs Zkj).drop 2:=by decide +kernel
theorem Z6v:Xk Zkj=true:=Zaj Z2r Zce Zce
theorem Zrx (v:Qay) (s:Rm) (n:Int) (w:Qax) (h:Sto (Old w) w v s) :
  Qa4 Tryz.prog 53 #[v,.int .i64 n] w fun e W'=>∃ A ca B cb N cn L cl,e=.returned (.tuple #[.agg #[.slice A (shV s n).1.1.length ca,.slice B (shV s n).1.2.length cb,.slice N (shV s n).2.1.length cn,.slice L (shV s n).2.2.length cl],.int .i64 (shE s n)]) /\
   Sto (New w.heap.size W') W' (.agg #[.slice A (shV s n).1.1.length ca,.slice B (shV s n).1.2.length cb,.slice N (shV s n).2.1.length cn,.slice L (shV s n).2.2.length cl]) (shV s n)/\Qa5 w.heap.size w W':=by
 refine(Zv7 v s n w h).mono ?_;rintro e W' ⟨t,rfl,ht,hb⟩;obtain⟨A,ca,B,cb,N,cn,L,cl,rfl,_⟩:=id ht.open;exact⟨A,ca,B,cb,N,cn,L,cl,rfl,ht,hb⟩
theorem Z3l {s:Rm}{l:List It}{i:Nat}{x:It}{r:Nat}{y:UInt8}(hx:l[i]? = some x) (hr:x.2.1=(r:Int)) (h0:r≠0) (hy:s.2.1[r]?.getD 0=y):Yt s (l.take (i+1))=(Yt s (l.take i)&&decide (y≠0)):=by
 rw[Zo5 hx,hr];have:¬ ((r:Nat):Int)=0:=by omega
 rw[decide_eq_false this,Bool.false_or,show ((r:Nat):Int).toNat=r by omega,hy]
theorem Zzf {s:Rm}{l:List It}{i:Nat}{x:It}(hx:l[i]? = some x) (hr:x.2.1=0):Yt s (l.take (i+1))=Yt s (l.take i):=by
 rw[Zo5 hx,hr];simp
theorem Zfj {w:Qax}{A:Option Qaz}{n c:Nat}{xs:List It}{s:It}(h:Uz (Old w) w [.slice A n c] xs) (hk:xs[0]? = some s) :
  ∃ ad E ce,A=some ad/\InI s/\∀ W,Qa5 w.heap.size w W->At5 W ad s (.slice E s.2.2.length ce)/\Itm (Old W) W (itV s (.slice E s.2.2.length ce)) s:=by
 obtain⟨ad,E,ce,e,_,_,h1,F⟩:=V0 h hk;have e0:ad.add (0*5)=ad:=by simp[Addr.add]
 rw[e0] at F;exact⟨ad,E,ce,e,h1,F⟩
theorem Z28 {d:Dk}{k:Nat}(hm:Zbx d=true) (hk:k<256):(Zz d k).length=128:=by
 obtain⟨h1,_,h3,h4⟩:=Zfs hm;unfold Zz;have e:d.1[k]? = some (d.1[k]'(by omega)):=Qc _;refine Zhd (h3 k _ (by rw[e];rfl)) fun x hx=> ?_
 obtain⟨i,hi⟩:=Qm hx;exact(h4 i x hi).2.2
theorem Y7 {W:Qax}{g:Nat}{a b c a' b' c':Qay}{t:Qa0}(h:W.heap[g]? = some (.cells #[a,b,c] t (0,0))):∃ W1,((W.setCell ⟨g,0,none⟩ a').setCell ⟨g,1,none⟩ b').setCell ⟨g,2,none⟩ c'=W1 /\
  W1.heap[g]? = some (.cells #[a',b',c'] t (0,0))/\W.grownBy W1 (some g)/\W1.heap.size=W.heap.size :=
 ⟨_,rfl,by simp[Px,Py,h],Yr (p:=⟨g,2,none⟩) (Yr (p:=⟨g,1,none⟩) (Yr (p:=⟨g,0,none⟩) (Xc W (some g)) rfl a') rfl b') rfl c',by simp⟩
theorem Zk {W:Qax}{g:Nat}{a b c:Qay}{t:Qa0}(h:W.heap[g]? = some (.cells #[a,b,c] t (0,0))):W.cell? ⟨g,0,none⟩=some a/\W.cell? ⟨g,1,none⟩=some b/\W.cell? ⟨g,2,none⟩=some c/\(∀ o,W.frozen? ⟨g,o,none⟩=false)/\g<W.heap.size :=
 ⟨by simp[Qo,h],by simp[Qo,h],by simp[Qo,h],fun o=>by simp[Pw,h],(Qv.1 h).1⟩
theorem Zed (v:Qay) (s:Rm) (a:Int) (w:Qax) (h:Sto (Old w) w v s) :
  Qa4 Tryz.prog 36 #[v,.int .i64 a] w fun e w'=>∃ Z zc,e=.returned (.tuple #[.agg #[.int .i64 (rmV s a).1,.slice Z (rmV s a).2.length zc],.int .i64 (rmE s a)])/\Uz (Old w') w' [.slice Z (rmV s a).2.length zc] (rmV s a).2 /\
   Nod (New w.heap.size w') w' (.agg #[.int .i64 (rmV s a).1,.slice Z (rmV s a).2.length zc]) (rmV s a)/\Qa5 w.heap.size w w':=by
 refine(Zqc v s a w h).mono ?_;rintro e w' ⟨u,rfl,hu,hb'⟩;have hu2:=hu;obtain⟨Z,zc,rfl,_,_,_,hA⟩:=hu.drop.open;exact⟨Z,zc,rfl,hA,hu2,hb'⟩
theorem Z8n {s:Rm}{a:Int}(h:rmE s a≠0):Ys s a=false:=by simp[Ys,h]
theorem Ya9 {s:Rm}{a:Int}(h:asE s a≠0):ckE s a=asE s a/\ckH s a=0:=by
 have e:ckE s a=asE s a:=by rw[ckE,if_neg h]
 exact⟨e,by rw[ckH,e,if_neg h]⟩
theorem Zu8 {s:Rm}{a:Int}(h:asE s a=0) (ht:Ys s a=false):ckE s a=8/\ckH s a=0:=by
 have e:ckE s a=8:=by rw[ckE,if_pos h,ht];rfl
 exact⟨e,by rw[ckH,e,if_neg (by decide)]⟩
theorem Zj0 {s:Rm}{a:Int}(h:asE s a=0) (ht:Ys s a=true):ckE s a=0/\ckH s a=(rmV s a).1+1:=by
 have e:ckE s a=0:=by rw[ckE,if_pos h,ht];rfl
 exact⟨e,by rw[ckH,e,if_pos rfl]⟩
theorem Zah {s:Rm}{a:Int}(h:ckE s a=0):Ys s a=true/\asE s a=0/\ckH s a=(rmV s a).1+1:=by{
 by_cases ha:asE s a=0
 ·cases ht:Ys s a with
  | false=>rw[(Zu8 ha ht).1] at h;cases h
  | true=>exact⟨rfl,ha,(Zj0 ha ht).2⟩
 ·rw[(Ya9 ha).1] at h
  exact absurd h ha}
theorem Zxj {lo:Nat}{w:Qax}{A:Option Qaz}{n c k:Nat}{xs:List It}{s:It}(h:Uz (New lo w) w [.slice A n c] xs) (hk:xs[k]? = some s) :
  ∃ ad E ce,A=some ad/\InI s/\∀ W,Qa5 w.heap.size w W->At5 W (ad.add (k*5)) s (.slice E s.2.2.length ce)/\Itm (New lo W) W (itV s (.slice E s.2.2.length ce)) s:=by
 obtain⟨ad,E,ce,rfl,_,h5,hi,_,_,hin⟩:=Zaa h hk;exact⟨ad,E,ce,rfl,hin,fun W hW=>⟨h5.below hW,hi.new (Qa _) hW⟩⟩
def Z9r (lo:Nat) (v:Qay) (l:List It):Qax->Prop:=fun w=>Uz (New lo w) w [v] l
theorem Zqm (lo:Nat) (v:Qay) (l:List It):Zf6 (Z9r lo v l):=fun _ _ h hb=>Y0.new h (Qa _) hb
def Yi (g:Nat) (cs:Array Qay) (t:Qa0):Qax->Prop:=fun w=>w.heap[g]? = some (.cells cs t (0,0))
theorem Zr (g:Nat) (cs:Array Qay) (t:Qa0):Zf6 (Yi g cs t):=fun _ _ h hb=>(hb.block g (Qv.1 h).1).trans h
theorem Z3f {ok:Qaz->Prop}{w:Qax}{ad:Qaz}{n c:Nat}{b:List It}(h:Uz ok w [.slice (some ad) n c] b) (k:Nat) (hk:k<=b.length):Uz ok w [.slice (some (ad.add (k*5))) (n-k) (c-k)] (b.drop k):=by
 obtain⟨A,cap,e,h2,h3,h4⟩:=h;cases e;refine⟨some (ad.add (k*5)),c-k,by rw[Pu],by rw[Pu];omega,by omega,fun i x hi=> ?_⟩;rw[Pc] at hi;obtain⟨ad',vs,e1,e2,e3,e4⟩:=h4 (k+i) x hi;cases e1;refine⟨ad.add (k*5),vs,rfl,e2,fun j v hj=> ?_,e4⟩;have:=e3 j v hj;rw[Zmt,show k*5+(i*5+j)=(k+i)*5+j by omega];exact this
def Zhv (n:Nd) (k:Ky):Nat×Bool:=if n.1=0 then (Z2 n k,Ym n k) else (Xd n k,true)
theorem Zw3 (A:Option Qaz) (c:Nat) (n:Nd) (k:Ky) (w:Qax) (h:Nod (Old w) w (.agg #[.int .i64 n.1,.slice A n.2.length c]) n) :
  Qa4 Tryz.prog 74 #[.agg #[.int .i64 n.1,.slice A n.2.length c],kyV k] w fun e w'=>e=.returned (.agg #[.int .i64 n.1,.slice A n.2.length c,.int .i64 ((Zhv n k).1:Nat),.bool (Zhv n k).2])/\Qa5 w.heap.size w w':=by{
 obtain⟨w1,hw1,b1,hs1,hB1⟩:=Yd w (.int .i64 n.1) (.slice A n.2.length c) 81;obtain⟨w2,hw2,-,-,-,hs2,hB2,b2⟩:=Xb w1 (.int .u8 (k.1.toNat:Int)) (.int .u32 k.2.1) (.int .u32 k.2.2) 37;obtain⟨w3,hw3,b3,hs3,hB3⟩:=X3 w2 (.int .i64 0) (.slice none 0 0) (.int .i64 0) (.bool false) 144;have B3:=Za (hB1.trans ((hB2.trans (hB3.mono hB2.size)).mono hB1.size));have hb1:=(hB3.block w.heap.size (by omega)).trans ((hB2.block w.heap.size (by omega)).trans b1);have hb2:=(hB3.block w1.heap.size (by omega)).trans b2;have hP:=Za (fun W hW=>Zck _ n k W (h.below hW));obtain⟨p,hp⟩:∃ p,Z2 n k=p:=⟨_,rfl⟩
 obtain⟨t,ht⟩:∃ t,Ym n k=t:=⟨_,rfl⟩
 obtain⟨lv,hlv⟩:∃ q,n.1=q:=⟨_,rfl⟩
 obtain⟨len,hlen⟩:∃ q,n.2.length=q:=⟨_,rfl⟩
 have hpl:=Zb8 n k;have hst:Hid (Zhv n k=if lv=0 then (p,t) else (if t=true then p else p-1,true)):=Za (by unfold Zhv Xd;rw[hlv,hp,ht]);have hcl:c<=9223372036854775807/\n.2.length<=c:=by
  obtain⟨A',c',e,_,h1,h2,_⟩:=h.open;cases e;exact⟨h2,h1⟩
 rw[hp] at hpl hP;rw[ht] at hP;rw[hlen] at hpl hcl hP b1 hb1 hw1 ⊢;rw[hlv] at hP b1 hb1 hw1 ⊢;have G3:=Za b3;have S:=Za (show w.heap.size<w3.heap.size/\w1.heap.size<w3.heap.size/\w2.heap.size<w3.heap.size/\w.heap.size<=w2.heap.size from ⟨by omega,by omega,by omega,by omega⟩);replace hp:=Za hp;replace ht:=Za ht;replace hlv:=Za hlv;replace hlen:=Za hlen;replace hs1:=Za hs1;replace hs2:=Za hs2;replace hs3:=Za hs3;obtain⟨p0,p1,_,_⟩:=Zg hb1;obtain⟨q0,q1,q2,_⟩:=Zk hb2;have G1:=Za hb1;clear h hB1 hB2 hB3 b1 b2 b3 hb1 hb2;unfold kyV
 go_enter Tryz.func74,Tryz.ntmps74
 go_upto_region 1 with fail
 clear hw1 hw2 hw3
 go_wp2_with fail
 with_reducible refine(hP.out _ B3.out).mono ?_
 rintro e w4 ⟨rfl,hb4⟩;have g3:=(hb4.block w2.heap.size S.out.2.2.1).trans G3.out;have g1:=(hb4.block w.heap.size S.out.1).trans G1.out;have B4:=Za (B3.out.trans (hb4.mono B3.out.size))
 have hfin:Hid (∀ (x:Nat) (y:Bool),Zhv n k=(x,y)->∃ W9,(((w4.setCell ⟨w2.heap.size,0,none⟩ (.int .i64 lv)).setCell ⟨w2.heap.size,1,none⟩ (.slice A len c)).setCell ⟨w2.heap.size,2,none⟩ (.int .i64 (x:Int))).setCell ⟨w2.heap.size,3,none⟩ (.bool y)=W9 /\
   W9.cell? ⟨w2.heap.size,0,none⟩=some (.int .i64 lv)/\W9.cell? ⟨w2.heap.size,1,none⟩=some (.slice A len c)/\W9.cell? ⟨w2.heap.size,2,none⟩=some (.int .i64 (x:Int))/\W9.cell? ⟨w2.heap.size,3,none⟩=some (.bool y) /\
   (Ending.returned (.agg #[.int .i64 lv,.slice A len c,.int .i64 (x:Int),.bool y])=.returned (.agg #[.int .i64 lv,.slice A len c,.int .i64 ((Zhv n k).1:Nat),.bool (Zhv n k).2])/\Qa5 w.heap.size w W9)):=Za fun x y he=>by
  obtain⟨W9,e9,g9,gr9,_⟩:=Zu (a':=.int .i64 lv) (b':=.slice A len c) (c':=.int .i64 (x:Int)) (d':=.bool y) g3;obtain⟨k0,k1,k2,k3,_⟩:=Ze g9;exact⟨W9,e9,k0,k1,k2,k3,by rw[he],B4.out.grown gr9 B4.out.size fun q e=>by cases e;exact S.out.2.2.2⟩
 obtain⟨m0,m1,_,_⟩:=Zg g1;obtain⟨r0,r1,r2,r3,rf,_⟩:=Ze g3;clear p0 p1 q0 q1 q2 hb4 g3 g1;have hcl1:=hcl.1;have hcl2:=hcl.2;clear hcl;by_cases h0:lv=0
 ·subst h0
  obtain⟨W9,e9,k0,k1,k2,k3,hf⟩:=hfin.out p t (by rw[hst.out,if_pos rfl]);replace hf:=Za hf;replace e9:=Za e9;clear hfin hst
  go_wp2_with fail
  rw[e9.out];exact Qa1 (v:=.agg #[.int .i64 0,.slice A len c,.int .i64 (p:Int),.bool t]) (by simp[results,Tryz.results74,go_sem,k0,k1,k2,k3]) rfl hf.out
 ·have h0':(lv==0)=false:=by simpa using h0
  cases t with
  | true =>
   obtain⟨W9,e9,k0,k1,k2,k3,hf⟩:=hfin.out p true (by rw[hst.out,if_neg h0,if_pos rfl]);replace hf:=Za hf;replace e9:=Za e9;clear hfin hst h0
   go_wp2_with fail
   rw[e9.out];exact Qa1 (v:=.agg #[.int .i64 lv,.slice A len c,.int .i64 (p:Int),.bool true]) (by simp[results,Tryz.results74,go_sem,k0,k1,k2,k3]) rfl hf.out
  | false =>
   have hwr:IntKind.i64.wrap ((p:Int)-1)=(p:Int)-1:=by rw[IntKind.wrap_i64];omega
   by_cases hp0:p=0
   ·obtain⟨W9,e9,k0,k1,k2,k3,hf⟩:=hfin.out 0 true (by rw[hst.out,if_neg h0,if_neg (by decide),hp0])
    subst hp0;replace hf:=Za hf;replace e9:=Za e9;clear hfin hst h0
    go_wp2_with fail
    refine Eq.mpr (congrArg _ e9.out) ?_;exact Qa1 (v:=.agg #[.int .i64 lv,.slice A len c,.int .i64 (0:Nat),.bool true]) (by simp[results,Tryz.results74,go_sem,k0,k1,k2,k3]) rfl hf.out
   ·obtain⟨W9,e9,k0,k1,k2,k3,hf⟩:=hfin.out (p-1) true (by rw[hst.out,if_neg h0,if_neg (by decide)])
    have hp1:((p-1:Nat):Int)=(p:Int)-1:=by omega
    have hp2:(0:Int)<=(p:Int)-1:=by omega
    rw[hp1] at e9 k2 hf;replace hf:=Za hf;replace e9:=Za e9;clear hfin hst h0 hp1
    go_wp2_with fail
    refine Eq.mpr (congrArg _ e9.out) ?_;exact Qa1 (v:=.agg #[.int .i64 lv,.slice A len c,.int .i64 ((p:Int)-1),.bool true]) (by simp[results,Tryz.results74,go_sem,k0,k1,k2,k3]) rfl hf.out}
def Zk7 (s:Rm) (x:It):Int:=if Zbp x then if x.2.1≠0/\s.2.1[x.2.1.toNat]?.getD 0=0 then 6 else 0 else 8
theorem Zl8 (v u:Qay) (s:Rm) (x:It) (w:Qax) (hm:Xk s=true) (h:Sto (Old w) w v s) (hu:Itm (Old w) w u x) :
  Qa4 Tryz.prog 41 #[v,u] w fun e w'=>e=.returned (.int .i64 (Zk7 s x))/\Qa5 w.heap.size w w':=by{
 obtain⟨A,ca,B,cb,N,cn,L,cl,rfl,_⟩:=id h.open;obtain⟨D,dc,rfl,_,_,_,_⟩:=id hu.open;obtain⟨w1,hw1,b1,hs1,hB1⟩:=X3 w (.slice A s.1.1.length ca) (.slice B s.1.2.length cb) (.slice N s.2.1.length cn) (.slice L s.2.2.length cl) 29;obtain⟨w2,hw2,-,-,-,-,-,hs2,hB2,b2⟩:=Z8 w1 (.int .u8 (x.1.1.toNat:Int)) (.int .u32 x.1.2.1) (.int .u32 x.1.2.2) (.int .i64 x.2.1) (.slice D x.2.2.length dc) 54;have hb1:=(hB2.block w.heap.size (by omega)).trans b1;have B2:=Za (hB1.trans (hB2.mono hB1.size));have hC:=Za (Za2 _ x w2 (hu.map fun p v hp hc=>⟨Qr hp B2.out.size,(B2.out.cell hp).trans hc⟩));have HS:=Za (h.below B2.out);have hl:=Yx (Yf hm).2.1;have hcit:Hid (Zk7 s x=if Zbp x then if x.2.1≠0/\s.2.1[x.2.1.toNat]?.getD 0=0 then 6 else 0 else 8):=Za rfl;have hmw:Zbp x=true->x.2.1=0\/∃ k:Nat,x.2.1=k/\8<=k/\k<256:=fun h=>by
  rcases(Zak h).1 with e | e
  ·exact .inl e
  ·exact .inr ⟨x.2.1.toNat,by omega,by omega,by omega⟩
 obtain⟨z,hz⟩:∃ z,x.2.1=z:=⟨_,rfl⟩
 obtain⟨ev,hev⟩:∃ q,Z3e x=q:=⟨_,rfl⟩
 rw[hl] at b1 hb1 hw1 HS ⊢;rw[hz] at hw2 b2 hcit hmw;unfold itV at hC;rw[hz] at hC;rw[hev] at hC;change Qa4 _ _ #[_,.agg #[.int .u8 (x.1.1.toNat:Int),.int .u32 x.1.2.1,.int .u32 x.1.2.2,.int .i64 x.2.1,.slice D x.2.2.length dc]] _ _;rw[hz];replace hz:=Za hz;replace hl:=Za hl;replace hs1:=Za hs1;replace hs2:=Za hs2;obtain⟨p0,p1,p2,p3,_⟩:=Ze hb1;obtain⟨q0,q1,q2,q3,q4,_⟩:=Zs b2;have G1:=Za hb1;have G2:=Za b2;have S:=Za (show w.heap.size<w2.heap.size/\w1.heap.size<w2.heap.size from ⟨by have:=hs1.out;have:=hs2.out;omega,by have:=hs2.out;omega⟩);clear h hu hB1 hB2 b1 b2 hb1
 go_enter Tryz.func41,Tryz.ntmps41
 go_upto_region 1 with fail
 clear hw1 hw2
 go_wp2_with fail
 with_reducible refine(hC.out).mono ?_
 rintro e w3 ⟨rfl,hb3⟩;have g1:=(hb3.block w.heap.size S.out.1).trans G1.out;have g2:=(hb3.block w1.heap.size S.out.2).trans G2.out;have B3:=Za (B2.out.trans (hb3.mono B2.out.size));have H3:=Za (HS.out.below hb3);obtain⟨p0,p1,p2,p3,_⟩:=Ze g1;obtain⟨q0,q1,q2,q3,q4,_⟩:=Zs g2;clear hb3 g1 g2 hC;rcases Zc3 (Zbp x) with hb | hb
 ·have he8:ev=8:=by rw[<- hev];simp[Z3e,hb]
  subst he8;have hr:=Za (show Zk7 s x=8 by rw[hcit.out,hb];rfl);replace hev:=Za hev;replace hb:=Za hb;clear hmw
  go_wp2_with fail
  go_ret;exact⟨Z0 hr.out.symm,B3.out⟩
 have he0:ev=0:=by rw[<- hev];simp[Z3e,hb]
 subst he0;have hw:=hmw hb;rw[hb,if_pos rfl] at hcit;replace hev:=Za hev;replace hb:=Za hb;clear hmw;rcases hw with h0 | ⟨k,hk,h8,h256⟩
 ·subst h0
  have hr:=Za (show Zk7 s x=0 by rw[hcit.out,if_neg (by simp)]);clear hcit
  go_wp2_with fail
  go_ret;exact⟨Z0 hr.out.symm,B3.out⟩
 ·subst hk
  have j0:((k:Int) != 0)=true:=by simp;omega
  have i1:(0:Int)<=(k:Int):=by omega
  have i2:(k:Int)<256:=by omega
  obtain⟨A2,c2,e2,n1,n2,hc2⟩:=Zt H3.out.parts.2.1;rw[hl.out] at e2 hc2;cases e2;obtain⟨ad,rfl,_,hck⟩:=hc2 k h256;obtain⟨y,hy⟩:∃ y,s.2.1[k]?.getD 0=y:=⟨_,rfl⟩
  rw[hy] at hck;rw[Int.toNat_natCast,hy] at hcit;replace hy:=Za hy;clear hc2 n1 n2;by_cases hy0:y=0
  ·have t1:=Vh (y:=0) (q:=0) rfl hy0
   have hr:=Za (show Zk7 s x=6 by rw[hcit.out,if_pos ⟨by omega,hy0⟩]);replace hy0:=Za hy0;clear hcit
   go_wp2_with fail
   go_ret;exact⟨Z0 hr.out.symm,B3.out⟩
  ·have t1:=Xv (y:=0) (q:=0) rfl hy0
   have hr:=Za (show Zk7 s x=0 by rw[hcit.out,if_neg (fun h=>hy0 h.2)]);replace hy0:=Za hy0;clear hcit
   go_wp2_with fail
   go_ret;exact⟨Z0 hr.out.symm,B3.out⟩}
def Ya0 (w:Qax) (A:Option Qaz) (n c:Nat) (e:Ending) (w':Qax):Prop:=Qa5 w.heap.size w w' /\
 ((n<=5/\e=.returned (.slice (some ⟨w.heap.size,0,none⟩) 1 1)/\w'.heap[w.heap.size]? = some (.cells #[.slice A n c] 39 (0,0))) \/
  (5<n/\∃ ad,A=some ad/\e=.returned (.slice (some ⟨w.heap.size,0,none⟩) 2 2)/\w'.heap[w.heap.size]? = some (.cells #[.slice (some ad) 3 c,.slice (some (ad.add (3*5))) (n-3) (c-3)] 39 (0,0))))
theorem Zz6 (A:Option Qaz) (n c:Nat) (w:Qax) (hn:n<=c) (hc:c<=9223372036854775807) (hA:0<n->∃ ad,A=some ad):Qa4 Tryz.prog 120 #[.slice A n c] w (Ya0 w A n c):=by{
 by_cases h5:n<=5
 ·have i5:(n:Int)<=5:=by omega
  go_enter Tryz.func120,Tryz.ntmps120
  go_wp2_with fail
  go_ret;exact⟨(Qb _ w).alloc (Qa _) _,.inl ⟨h5,rfl,Qa2 w _⟩⟩
 ·have i5:¬ ((n:Int)<=5):=by omega
  obtain⟨ad,rfl⟩:=hA (by omega);have i6:(3:Int)<=(c:Int):=by omega
  have i7:(3:Int)<=(n:Int):=by omega
  have i8:¬ c=3:=by omega
  go_enter Tryz.func120,Tryz.ntmps120
  go_wp2_with fail
  go_still_tail 4,(by kernel_rfl)
  go_wp2_with fail
  go_ret;exact⟨((Qb _ w).drew).alloc (Qa _) _,.inr ⟨by omega,ad,rfl,rfl,Qa2 w.drew _⟩⟩}
theorem Zr7.low {lo:Nat}{w w1:Qax}{A:Option Qaz}{L:List Iv}{e:Ending}{w':Qax}(h:Zr7 lo w1 A L e w') (hg:w.grownBy w1 (A.map (·.block))):Zr7 lo w A L e w':=by
 obtain⟨A',c',h1,h2,h3⟩:=h;exact⟨A',c',h1,h2,Yw hg h3⟩
theorem Zm3 (A:Option Qaz) (lo lf n c fb m fc i:Nat) (lv:Int) (b:Bool) (ps qs:List Iv) (w:Qax) (h:w.ownsRow lo 54 5 (.slice A n c) n (Zj ps)) (hf:w.ownsRow lf 54 5 (.slice (some ⟨fb,0,none⟩) m fc) m (Zj qs))
  (hne:A.map (·.block)≠some fb) (hi:i+(if b=true then 1 else 0)<=n) (hm:0<m) (hbig:n+m<=1000) (hp1:∀ p∈ps,p.2.oneCell'=true) (hq1:∀ p∈qs,p.2.oneCell'=true) (hlo:lo<=w.heap.size) :
  Qa4 Tryz.prog 77 #[.agg #[.int .i64 lv,.slice A n c,.int .i64 i,.bool b],.slice (some ⟨fb,0,none⟩) m fc] w fun e w'=>Zr7 lo w A (ps.take i++(qs++ps.drop (i+if b=true then 1 else 0))) e w'/\w.heap.size<w'.heap.size:=by{
 obtain⟨w1,hw1,b1,hs1,hB1⟩:=X3 w (.int .i64 lv) (.slice A n c) (.int .i64 i) (.bool b) 144;have h1:=Zv h hB1;have hf1:=Zv hf hB1;have hlow:=Za (fun L e w' (hh:Zr7 lo w1 A L e w')=>(⟨hh.low (w:=w) (hw1 ▸ World.grownBy_alloc w _ _),by obtain⟨_,_,_,_,hg⟩:=hh;have:=hg.size;omega⟩:Zr7 lo w A L e w'/\w.heap.size<w'.heap.size));obtain⟨p0,p1,p2,p3,_⟩:=Ze b1;have hwr:IntKind.i64.wrap ((i:Int)+1)=(i:Int)+1:=by rw[IntKind.wrap_i64];split at hi <;> omega
 cases b with
 | true =>
  have hR:=Zqx A lo lf n c fb m fc i (i+1) ps qs w1 h1 hf1 hne rfl hi hm hbig hp1 hq1 (by omega);rw[show ((i+1:Nat):Int)=(i:Int)+1 by omega] at hR;rw[if_pos rfl];obtain⟨L,hL⟩:∃ L,ps.take i++(qs++ps.drop (i+1))=L:=⟨_,rfl⟩
  rw[hL] at hR ⊢;replace hL:=Za hL;have HR:=Za hR;clear h hf h1 hf1 hR hp1 hq1 hne hB1 b1 hs1 hi
  go_enter Tryz.func77,Tryz.ntmps77
  go_upto_region 1 with fail
  clear hw1
  go_wp2_with fail
  with_reducible refine(HR.out).mono ?_
  intro e w2 hh;have H2:=Za (hlow.out _ _ _ hh);obtain⟨A',c',rfl,_⟩:=hh
  go_wp2_with fail
  go_ret;exact H2.out
 | false =>
  have hR:=Zvo A lo lf n c fb m fc i ps qs w1 h1 hf1 hne (by simpa using hi) hm hbig hp1 hq1 (by omega);rw[if_neg (by decide),Nat.add_zero];obtain⟨L,hL⟩:∃ L,ps.take i++(qs++ps.drop i)=L:=⟨_,rfl⟩
  rw[hL] at hR ⊢;replace hL:=Za hL;have HR:=Za hR;clear h hf h1 hf1 hR hp1 hq1 hne hB1 b1 hs1 hi
  go_enter Tryz.func77,Tryz.ntmps77
  go_upto_region 1 with fail
  clear hw1
  go_wp2_with fail
  with_reducible refine(HR.out).mono ?_
  intro e w2 hh;have H2:=Za (hlow.out _ _ _ hh);obtain⟨A',c',rfl,_⟩:=hh
  go_wp2_with fail
  go_ret;exact H2.out}
theorem Uu {lo:Nat}{w:Qax}{A:Option Qaz}{c:Nat}{xs:List It}(h:Yj rIt 5 54 lo w A c xs):∃ ps:List Iv,ps.map (·.1)=xs/\w.ownsRow lo 54 5 (.slice A xs.length c) xs.length (Zj ps)/\∀ p∈ps,InI p.1/\rBy (Xz lo A w) w [p.2] p.1.2.2:=by{
 obtain⟨cs,ho,hcs⟩:=h
 obtain⟨ps,hl,hps⟩:=Zio (n:=xs.length) (p:=fun i (p:Iv)=>xs[i]? = some p.1/\(∀ j u,(Zbo p)[j]? = some u->cs[i*5+j]? = some u)/\InI p.1/\rBy (Xz lo A w) w [p.2] p.1.2.2) (fun i hi=>by
  have hx:xs[i]? = some xs[i]:=Qc hi;obtain⟨vs,e5,hc,r⟩:=hcs i _ hx;obtain⟨d,rfl,hin,hd⟩:=Zt0 r
  exact⟨(xs[i],d),hx,hc,hin,hd⟩)
 have hmap:ps.map (·.1)=xs:=by
  apply Qat;intro i;rw[Qau];cases e:ps[i]? with
  | none =>
   have:xs.length<=i:=by rw[<- hl];exact List.getElem?_eq_none_iff.1 e
   rw[Pk this];rfl
  | some p=>exact(hps i p e).1.symm
 have hcell:cs=Zj ps:=by
  apply Qat;intro j;rcases Po j (xs.length*5) with hj | hj
  ·obtain⟨p,hp⟩:∃ p,ps[j / 5]? = some p:=⟨_,Qc (by omega)⟩
   obtain⟨u,hu⟩:∃ u,(Zbo p)[j % 5]? = some u:=⟨_,Qc (by show j % 5<5;omega)⟩
   have h1:=Zfe hp _ _ hu;have h2:=(hps _ p hp).2.1 _ _ hu;rw[show j / 5*5+j % 5=j by omega] at h1 h2;rw[h1,h2]
  ·rw[Pk (by rw[ho.1];exact hj),Pk (by rw[Yz,hl];exact hj)]
 exact⟨ps,hmap,hcell ▸ ho,fun p hp=>by
  obtain⟨i,hi⟩:=Qaj.1 hp
  exact(hps i p hi).2.2⟩}
theorem Ze2 {lo n c:Nat}{w:Qax}{A:Option Qaz}{ps:List Iv}(h:w.ownsRow lo 54 5 (.slice A n c) n (Zj ps)) (hp:∀ p∈ps,InI p.1/\rBy (Old w) w [p.2] p.1.2.2):Uz (Old w) w [.slice A n c] (ps.map (·.1)):=by
 have hl:=Zbz h;refine Zot (fun p _ hn=>hn.2.1) h (by rw[P7];exact hl) fun i x hi=> ?_
 rw[Qau] at hi;obtain⟨p,hp',rfl⟩:=Option.map_eq_some_iff.1 hi;obtain⟨h1,h2⟩:=hp p (Qt hp');exact⟨Zbo p,rfl,fun j u hj=>Zfe hp' j u hj,Zuv h1 h2⟩
theorem Zgr {ok:Qaz->Prop}{w:Qax}{ps:List Iv}(h:∀ p∈ps,InI p.1/\rBy ok w [p.2] p.1.2.2):∀ p∈ps,p.2.oneCell'=true:=fun p hp=>Yae (h p hp).2
abbrev Rf:=Int×Int
def Rfd (x:Rf):Prop:=8<=x.1/\x.1<256 /\ -1<=x.2/\x.2<=6
def wkF (d:Dk) (lv:Int) (t:List UInt8) (a:Nat):Option (List UInt8):=if lv=6 then lfO d t a else lvF d (lv+1).toNat t a
def runT (d:Dk):List UInt8->List Rf->Option (List UInt8)
 | t,[]=>some t
 | t,x::l=>(wkF d x.2 t x.1.toNat).bind fun u=>runT d u l
theorem Zu4 (d:Dk):∀ (a b:List Rf) (t:List UInt8),runT d t (a++b)=(runT d t a).bind fun u=>runT d u b
 | [],b,t=>rfl
 | x::a,b,t=>by
  simp only[Qn,runT];cases wkF d x.2 t x.1.toNat with
  | none=>rfl
  | some u=>exact Zu4 d a b u
def Zkd (lv:Int) (l:List It):List Rf:=(l.filter fun x=>decide (x.2.1≠0)).map fun x=>(x.2.1,lv)
def Zxa (n:Nd):List Rf:=Zkd (n.1-1) n.2
theorem Zs1 (lv:Int):Zkd lv []=[]:=rfl
theorem Zjw {lv:Int}{x:It}{l:List It}(h:x.2.1=0):Zkd lv (x::l)=Zkd lv l:=by simp[Zkd,h]
theorem Zi6 {lv:Int}{x:It}{l:List It}(h:x.2.1≠0):Zkd lv (x::l)=(x.2.1,lv)::Zkd lv l:=by simp[Zkd,h]
theorem Ztt (lv:Int) (a b:List It):Zkd lv (a++b)=Zkd lv a++Zkd lv b:=by simp[Zkd]
theorem Zuw (lv:Int) (l:List It):(Zkd lv l).length<=l.length:=by
 rw[Zkd,P7];exact List.length_filter_le _ _
theorem Zr0 {lv:Int}(h1 : -1<=lv) (h6:lv<=6):∀ {l:List It},Zbc l->∀ x∈Zkd lv l,Rfd x
 | [],_,x,hx=>by simp[Zkd] at hx
 | y::l,h,x,hx=>by
  obtain⟨r1,r2⟩:=Za7 h;rcases r1 with r1 | ⟨k,r1,r8,r256⟩
  ·rw[Zjw r1] at hx
   exact Zr0 h1 h6 r2 x hx
  ·rw[Zi6 (by omega)] at hx
   rcases Qe.1 hx with rfl | hx
   ·exact⟨by show 8<=y.2.1;omega,by show y.2.1<256;omega,h1,h6⟩
   ·exact Zr0 h1 h6 r2 x hx
theorem Zh0 (d:Dk){k:Nat}(hk:k<=6):∀ (l:List It) (t:List UInt8),Vc (lvF d k) t l=runT d t (Zkd ((k:Int)-1) l)
 | [],t=>rfl
 | x::l,t=>by
  unfold Vc;by_cases h:x.2.1=0
  ·rw[if_pos h,Zjw h]
   exact Zh0 d hk l t
  ·rw[if_neg h,Zi6 h]
   have e:wkF d ((k:Int)-1) t x.2.1.toNat=lvF d k t x.2.1.toNat:=by
    rw[wkF,if_neg (by omega),show ((k:Int)-1+1).toNat=k by omega]
   show (lvF d k t x.2.1.toNat).bind _=(wkF d ((k:Int)-1) t x.2.1.toNat).bind _;rw[e];cases lvF d k t x.2.1.toNat with
   | none=>rfl
   | some u=>exact Zh0 d hk l u
theorem Z7a {d:Dk}{lv:Int}{t:List UInt8}{a:Nat}(h:t[a]?.getD 0=0):wkF d lv t a=none:=by{
 have hd:dnO t a=none:=by rw[dnO,if_pos h]
 unfold wkF;split
 ·rw[lfO,hd];rfl
 ·cases (lv+1).toNat with
  | zero=>exact hd
  | succ l =>
   show lvS d l (lvF d l) t a=none;rw[lvS,hd];rfl}
theorem Zth {x:UInt8}(h:x≠0):x-1≠0↔1<x.toNat:=by{
 have h1:=Zjg h;refine⟨fun e=> ?_,fun e e0=> ?_⟩
 ·have:(x-1).toNat≠0:=fun e'=>e (Vy.1 e')
  omega
 ·have:=Vy.2 e0
  omega}
def Rdn (d:Dk) (lv:Int) (a:Nat):Prop:=reN (Zz d a)=0/\(lv=6\/(reV (Zz d a)).1=lv)
theorem Z9j {d:Dk}{lv:Int}{t:List UInt8}{a:Nat}(h1 : -1<=lv) (h6:lv<=6) (h:t[a]?.getD 0≠0) :
  ((t[a]?.getD 0-1≠0\/lv = -1)/\wkF d lv t a=some (t.set a (t[a]?.getD 0-1))) \/
  (t[a]?.getD 0-1=0/\lv ≠ -1/\¬ Rdn d lv a/\wkF d lv t a=none) \/
  (t[a]?.getD 0-1=0/\lv ≠ -1/\Rdn d lv a/\wkF d lv t a=runT d (t.set a (t[a]?.getD 0-1)) (Zxa (reV (Zz d a)))):=by{
 have hd:=Zdq h;have hlow:reN (Zz d a)=0->0<=(reV (Zz d a)).1/\(reV (Zz d a)).1<6:=fun hr=>by
  obtain⟨⟨s1,s2,_⟩,_⟩:=Zw (Zfl hr).1;exact⟨s1,s2⟩
 by_cases hc:t[a]?.getD 0-1=0
 case neg =>
  refine .inl ⟨.inl hc,?_⟩;have hm:=(Zth h).1 hc;unfold wkF;split
  ·rw[lfO,hd]
   show (if 1<(t[a]?.getD 0).toNat then _ else _)=_;rw[if_pos hm]
  ·exact Zhs d _ t a hm
 have hm:¬ 1<(t[a]?.getD 0).toNat:=fun e=>(Zth h).2 e hc
 by_cases hl:lv = -1
 ·refine .inl ⟨.inr hl,?_⟩
  subst hl;exact hd
 right
 by_cases h0:lv=6
 ·subst h0
  have e:wkF d 6 t a=if reN (Zz d a)=0 then Vc (lvF d (reV (Zz d a)).1.toNat) (t.set a (t[a]?.getD 0-1)) (reV (Zz d a)).2 else none:=by
   rw[wkF,if_pos rfl,lfO,hd];show (if 1<(t[a]?.getD 0).toNat then _ else _)=_;rw[if_neg hm]
  by_cases hr:reN (Zz d a)=0
  ·refine .inr ⟨hc,by decide,⟨hr,.inl rfl⟩,?_⟩
   have hq:=hlow hr;rw[e,if_pos hr,Zh0 d (by omega),Zxa,show (((reV (Zz d a)).1.toNat:Nat):Int)=(reV (Zz d a)).1 by omega]
  ·exact .inl ⟨hc,by decide,fun h=>hr h.1,by rw[e,if_neg hr]⟩
 ·obtain⟨l,rfl⟩:∃ l:Nat,lv=l:=⟨lv.toNat,by omega⟩
  have e:wkF d l t a=if reN (Zz d a)=0/\(reV (Zz d a)).1=(l:Int) then Vc (lvF d l) (t.set a (t[a]?.getD 0-1)) (reV (Zz d a)).2 else none:=by
   rw[wkF,if_neg h0,show ((l:Int)+1).toNat=l+1 by omega];show lvS d l (lvF d l) t a=_;rw[lvS,hd];show (if 1<(t[a]?.getD 0).toNat then _ else _)=_;rw[if_neg hm]
  by_cases hr:reN (Zz d a)=0/\(reV (Zz d a)).1=(l:Int)
  ·refine .inr ⟨hc,hl,⟨hr.1,.inr hr.2⟩,?_⟩
   rw[e,if_pos hr,Zh0 d (by omega),Zxa,hr.2]
  ·exact .inl ⟨hc,hl,fun h=>hr ⟨h.1,h.2.resolve_left h0⟩,by rw[e,if_neg hr]⟩}
def Zqz (t:List UInt8):Nat:=(t.map (·.toNat)).sum
theorem Z00:∀ t:List UInt8,Zqz t<=255*t.length
 | []=>by simp[Zqz]
 | x::t=>by
  have h1:=Z00 t;have h2:=x.toNat_lt;simp only[Zqz,Pg,P8,Qp] at h1 ⊢;omega
theorem Zzu:∀ {t:List UInt8}{a:Nat},t[a]?.getD 0≠0->Zqz (t.set a (t[a]?.getD 0-1))+1=Zqz t
 | [],a,h=>absurd (by simp) h
 | x::t,0,h=>by
  have h':x≠0:=by simpa using h
  have:=Zjg h';simp only[List.set_cons_zero,Zqz,Pg,P8,List.getElem?_cons_zero,Option.getD_some];omega
 | x::t,a+1,h=>by
  have h':t[a]?.getD 0≠0:=by simpa using h
  have:=Zzu h';simp only[List.set_cons_succ,Zqz,Pg,P8,List.getElem?_cons_succ] at this ⊢;omega
def Z52 (s:Rm):Prop:=Zyg s.1/\s.2.1.length<=10000/\s.2.2.length<=10000
theorem Zvy {s:Rm}(h:Xk s=true):Z52 s:=by
 obtain⟨h1,h2,h3⟩:=Yf h;exact⟨Zdv h1,by rw[Yx h2];omega,by rw[Yx h3];omega⟩
theorem Z74 {lo:Nat}{w1 W W9:Qax}{P Q N L:Qay}{s:Rm}{g:Nat}(hd:Dsk (New w1.heap.size W) W (.agg #[P,Q]) s.1) (hn:rBy (New w1.heap.size W) W [N] s.2.1) (hl:rBy (New w1.heap.size W) W [L] s.2.2) (hg:g<w1.heap.size) (hlo:lo<=w1.heap.size) (gr:W.grownBy W9 (some g)):Sto (New lo W9) W9 (.agg #[P,Q,N,L]) s :=
 Sto.mk ((hd.grown gr (fun q e=>by cases e;exact hg)).new hlo (Qb _ _)) (Zf.new (Zf.grown hn gr (fun q e=>by cases e;exact hg)) hlo (Qb _ _)) (Zf.new (Zf.grown hl gr (fun q e=>by cases e;exact hg)) hlo (Qb _ _))
theorem Z02 (v:Qay) (s:Rm) (hsm:Z52 s) (w:Qax) (h:Sto (Old w) w v s) :
  Qa4 Tryz.prog 93 #[v] w fun e w'=>∃ A ca B cb N cn L cl,e=.returned (.agg #[.slice A s.1.1.length ca,.slice B s.1.2.length cb,.slice N s.2.1.length cn,.slice L s.2.2.length cl])/\Sto (New w.heap.size w') w' (.agg #[.slice A s.1.1.length ca,.slice B s.1.2.length cb,.slice N s.2.1.length cn,.slice L s.2.2.length cl]) s/\Qa5 w.heap.size w w':=by{
 obtain⟨A,ca,B,cb,N,cn,L,cl,w1,rfl,hw1,f1,f2,hsz,hB,H⟩:=Zf5 h;clear h;obtain⟨m0,m1,m2,m3,_,mg⟩:=Ze f1;replace hsz:=Za hsz;replace f1:=Za f1;replace f2:=Za f2;replace hsm:=Za hsm
 go_enter Tryz.func93,Tryz.ntmps93
 go_upto_region 1 with fail
 clear hw1
 refine Ub (by kernel_rfl) 10 (fun W=>Qa5 w1.heap.size w1 W) (fun i=>match i with
   | 2=>some (fun v W=>Dsk (New w1.heap.size W) W v s.1)
   | 5=>some (fun v W=>rBy (New w1.heap.size W) W [v] s.2.1)
   | 8=>some (fun v W=>rBy (New w1.heap.size W) W [v] s.2.2)
   | 9=>some (fun v W=>∃ P p Q r Y y X x,v=.agg #[.slice P s.1.1.length p,.slice Q s.1.2.length r,.slice Y s.2.1.length y,.slice X s.2.2.length x]/\Dsk (New w1.heap.size W) W (.agg #[.slice P s.1.1.length p,.slice Q s.1.2.length r]) s.1/\rBy (New w1.heap.size W) W [.slice Y s.2.1.length y] s.2.1/\rBy (New w1.heap.size W) W [.slice X s.2.2.length x] s.2.2)
   | _=>none) (fun _=>none) (by decide) (by kernel_rfl) (by kernel_rfl) (Qb _ _).drew (fun w w' h hb=>h.trans (hb.mono h.size)) ?tst ?_
 case tst =>
  intro j φ x W W' hp hx hb
  match j,hp with
  | 2,hp=>cases hp;exact hx.new (Qa _) hb
  | 5,hp=>cases hp;exact Zf.new hx (Qa _) hb
  | 8,hp=>cases hp;exact Zf.new hx (Qa _) hb
  | 9,hp =>
   cases hp;obtain⟨P,p,Q,r,Y,y,X,x,e1,e2,e3,e4⟩:=hx;exact⟨P,p,Q,r,Y,y,X,x,e1,e2.new (Qa _) hb,Zf.new e3 (Qa _) hb,Zf.new e4 (Qa _) hb⟩
 simp only[P9,Qaa,Qab,Qac]
 repeat (first
  | (refine wpAs_skip rfl ?_;simp only[Qh,Zb,Zc,Zd])
  | (refine wpAs_pure (v := ?_) rfl rfl ?_ ?_;rotate_left;(intro W hC hE;clear hE;(have z0:=(hC.cell (p:=⟨w.heap.size,0,none⟩) mg).trans m0;have z1:=(hC.cell (p:=⟨w.heap.size,1,none⟩) mg).trans m1);clear hC;go_simp;first | done | with_reducible rfl);simp only[Qh,Zb,Zc,Zd]))
 refine wpAs_act rfl rfl ?_ ?_
 ·intro W hC hE
  clear hE;refine does_enter (f:=90) (args:=#[.agg #[.slice A s.1.1.length ca,.slice B s.1.2.length cb]]) ?_ ?_
  ·go_simp
  ·refine(Zuh _ s.1 W hsm.out.1 (H.out.below hC).parts.1).mono ?_
   rintro e W' ⟨u,rfl,hu,hb⟩;exact⟨_,rfl,hu.new hC.size (Qb _ _),hb⟩
 simp only[Qh,Zb,Zc,Zd,envAdd];intro x5
 repeat (first
  | (refine wpAs_skip rfl ?_;simp only[Qh,Zb,Zc,Zd])
  | (refine wpAs_pure (v := ?_) rfl rfl ?_ ?_;rotate_left;(intro W hC hE;clear hE;(have z2:=(hC.cell (p:=⟨w.heap.size,2,none⟩) mg).trans m2);clear hC;go_simp;first | done | with_reducible rfl);simp only[Qh,Zb,Zc,Zd]))
 refine wpAs_act rfl rfl ?_ ?_
 ·intro W hC hE
  clear hE;refine does_enter (f:=80) (args:=#[.slice N s.2.1.length cn]) ?_ ?_
  ·go_simp
  ·refine(Zaq _ s.2.1 W (by have:=hsm.out.2.1;omega) (H.out.below hC).parts.2.1).mono ?_
   rintro e W' ⟨u,rfl,ho,hb⟩;exact⟨_,rfl,Zf.new ho hC.size (Qb _ _),hb⟩
 simp only[Qh,Zb,Zc,Zd,envAdd];intro x8
 repeat (first
  | (refine wpAs_skip rfl ?_;simp only[Qh,Zb,Zc,Zd])
  | (refine wpAs_pure (v := ?_) rfl rfl ?_ ?_;rotate_left;(intro W hC hE;clear hE;(have z3:=(hC.cell (p:=⟨w.heap.size,3,none⟩) mg).trans m3);clear hC;go_simp;first | done | with_reducible rfl);simp only[Qh,Zb,Zc,Zd]))
 refine wpAs_act rfl rfl ?_ ?_
 ·intro W hC hE
  clear hE;refine does_enter (f:=80) (args:=#[.slice L s.2.2.length cl]) ?_ ?_
  ·go_simp
  ·refine(Zaq _ s.2.2 W (by have:=hsm.out.2.2;omega) (H.out.below hC).parts.2.2).mono ?_
   rintro e W' ⟨u,rfl,ho,hb⟩;exact⟨_,rfl,Zf.new ho hC.size (Qb _ _),hb⟩
 simp only[Qh,Zb,Zc,Zd,envAdd];intro x11;refine wpAs_act rfl rfl ?_ ?_
 ·intro W hC hE
  have h11:=hE.1 rfl;have h8:=hE.2.1 rfl;have h5:=hE.2.2.1 rfl;obtain⟨X,x,rfl,_⟩:=Zt h11;obtain⟨Y,y,rfl,_⟩:=Zt h8;obtain⟨P,p,Q,r,rfl,_⟩:=h5.open;have h11':=Za h11;have h8':=Za h8;have h5':=Za h5;clear hE hC h11 h8 h5
  go_simp
  exact⟨⟨P,p,Q,r,Y,y,X,x,rfl,h5'.out,h8'.out,h11'.out⟩,Qb _ _⟩
 simp only[Qh,Zb,Zc,Zd,envAdd];intro x12;refine wpAs_end fun W hC hE=> ?_
 obtain⟨⟨P,p,Q,r,Y,y,X,x,rfl,hd,hn,hl⟩,_⟩:=hE;have bW:=(hC.block (w.heap.size+1) (by rw[hsz.out];omega)).trans f2.out;obtain⟨c0,c1,c2,c3,c4,c5⟩:=Ze bW;obtain⟨W9,hW9,g9,gr9,gs9⟩:=Zu (a':=.slice P s.1.1.length p) (b':=.slice Q s.1.2.length r) (c':=.slice Y s.2.1.length y) (d':=.slice X s.2.2.length x) bW;obtain⟨n0,n1,n2,n3,_,_⟩:=Ze g9;have BW:=hB.trans (hC.mono hB.size);have hfin:=Za (Z74 (lo:=w.heap.size) hd hn hl (by rw[hsz.out];omega) hB.size gr9);have hB9:=Za (BW.grown gr9 BW.size (fun q e=>by cases e;omega));clear hd hn hl gr9 gs9 BW hC;replace bW:=Za bW;replace g9:=Za g9
 go_wp2_with fail
 refine Qa1 (v:=.agg #[.slice P s.1.1.length p,.slice Q s.1.2.length r,.slice Y s.2.1.length y,.slice X s.2.2.length x]) (by simp[results,Tryz.results93,go_sem,n0,n1,n2,n3]) rfl ?_;exact⟨_,_,_,_,_,_,_,_,rfl,hfin.out,hB9.out⟩}
theorem Zn1 (v:Qay) (s:Rm) (n:Int) (w:Qax) (h:Sto (Old w) w v s):Qa4 Tryz.prog 91 #[v,.int .i64 n] w fun e w'=>e=.returned (.int .i64 (asE s n))/\Qa5 w.heap.size w w':=by{
 obtain⟨A,ca,B,cb,N,cn,L,cl,w1,rfl,hw1,f,hsz,hB,_,NN,_⟩:=Zm4 h;have H:=Za (h.below hB);clear h;obtain⟨k0,k1,k2,k3,_,kg⟩:=Ze f;replace hsz:=Za hsz;rcases Zjj s n with ⟨hm,he⟩ | ⟨hm,hn,he⟩ | ⟨k,hm,rfl,h8,h256,hx,he⟩ | ⟨k,hm,rfl,h8,h256,hx,he⟩
 ·replace he:=Za he
  have e1:=Zee hm
  go_enter Tryz.func91,Tryz.ntmps91
  go_upto_region 1 with fail
  clear hw1
  go_wp2_with fail
  with_reducible refine(Xf _ s _ H.out).mono ?_
  rintro e w2 ⟨rfl,hb2⟩;rw[e1];replace hb2:=Za (hB.trans (hb2.mono hB.size))
  go_wp2_with fail
  go_ret;exact⟨Z0 he.out.symm,hb2.out⟩
 ·replace he:=Za he
  have e1:=Zcu hm;by_cases h8:n<8
  ·clear hn
   go_enter Tryz.func91,Tryz.ntmps91
   go_upto_region 1 with fail
   clear hw1
   go_wp2_with fail
   with_reducible refine(Xf _ s _ H.out).mono ?_
   rintro e w2 ⟨rfl,hb2⟩;rw[e1];replace hb2:=Za (hB.trans (hb2.mono hB.size))
   go_wp2_with fail
   go_ret;exact⟨Z0 he.out.symm,hb2.out⟩
  ·have h9:256<=n:=by omega
   clear hn
   go_enter Tryz.func91,Tryz.ntmps91
   go_upto_region 1 with fail
   clear hw1
   go_wp2_with fail
   with_reducible refine(Xf _ s _ H.out).mono ?_
   rintro e w2 ⟨rfl,hb2⟩;rw[e1];replace hb2:=Za (hB.trans (hb2.mono hB.size))
   go_wp2_with fail
   go_ret;exact⟨Z0 he.out.symm,hb2.out⟩
 all_goals
  replace he:=Za he;have e1:=Zcu hm;have hlen:=Yx (Yf hm).2.1;obtain⟨A',c',e2,l1,m1,hby⟩:=Vd (B:=w1.heap.size) (fun _ h=>h) NN.out;cases e2;obtain⟨ad,rfl,hbk,hc⟩:=hby (by omega)
  have hcell:=hc k (by omega);replace hbk:(ad.add k).block<w1.heap.size:=by rw[Zh];exact hbk
  obtain⟨x,hx2⟩:∃ x,s.2.1[k]?.getD 0=x:=⟨_,rfl⟩
  rw[hx2] at hcell hx;have hlt:k<s.2.1.length:=by omega
  first
   | have t0:=Vh (y:=0) (q:=0) rfl hx
   | have t0:=Xv (y:=0) (q:=0) rfl hx
  have i1:¬ (k:Int)<8:=by omega
  have i2:¬ 256<=(k:Int):=by omega
  replace hx2:=Za hx2;replace hx:=Za hx;replace hlen:=Za hlen;clear hc hby
  go_enter Tryz.func91,Tryz.ntmps91
  go_upto_region 1 with fail
  clear hw1
  go_wp2_with fail
  with_reducible refine(Xf _ s _ H.out).mono ?_
  rintro e w2 ⟨rfl,hb2⟩;rw[e1];replace k2:=(hb2.cell (p:=⟨w.heap.size,2,none⟩) kg).trans k2;replace hcell:=(hb2.cell hbk).trans hcell;replace hb2:=Za (hB.trans (hb2.mono hB.size))
  go_wp2_with fail
  go_ret;exact⟨Z0 he.out.symm,hb2.out⟩}
theorem Z9u (w:Qax) (a b c d e f:Qay):∃ w1,((w.alloc (.cells #[a,b,c,d] 29)).alloc (.cells #[e,f] 115)).alloc (.cells #[.int .i64 0,.slice none 0 0] 81)=w1 /\
  w1.heap[w.heap.size]? = some (.cells #[a,b,c,d] 29 (0,0))/\w1.heap[w.heap.size+1]? = some (.cells #[e,f] 115 (0,0))/\w1.heap[w.heap.size+2]? = some (.cells #[.int .i64 0,.slice none 0 0] 81 (0,0))/\w1.heap.size=w.heap.size+3/\Qa5 w.heap.size w w1:=by{
 refine⟨_,rfl,Y8 (Y8 (Qa2 _ _)),Y8 ?_,?_,by simp,(((Qb _ w).alloc (Qa _) _).alloc (by simp) _).alloc (by simp;omega) _⟩
 ·have:=Qa2 (w.alloc (.cells #[a,b,c,d] 29)) (.cells #[e,f] 115)
  rwa [Qs] at this
 ·have:=Qa2 ((w.alloc (.cells #[a,b,c,d] 29)).alloc (.cells #[e,f] 115)) (.cells #[.int .i64 0,.slice none 0 0] 81)
  rwa [Qs,Qs] at this}
def RdP (s:Rm) (k:Nat) (lv:Int) (w w':Qax) (e:Ending):Prop:=∃ (u:Qay) (q:Int) (nd:Nd),e=.returned (.tuple #[u,.int .i64 q])/\((Rdn s.1 lv k/\q=0/\nd=reV (Zz s.1 k))\/(¬ Rdn s.1 lv k/\q=8/\nd=Uf))/\Nod (New w.heap.size w') w' u nd/\Qa5 w.heap.size w w'
theorem Zoo (v:Qay) (s:Rm) (k:Nat) (lv:Int) (ha:asE s k=0) (w:Qax) (h:Sto (Old w) w v s) :
  Qa4 Tryz.prog 131 #[v,.agg #[.int .i64 k,.int .i64 lv]] w fun e w'=>RdP s k lv w w' e:=by{
 obtain⟨A,ca,B,cb,N,cn,L,cl,rfl,_,_,_⟩:=h.open;obtain⟨w1,hw1,f1,f2,f3,hsz,hB⟩:=Z9u w (.slice A s.1.1.length ca) (.slice B s.1.2.length cb) (.slice N s.2.1.length cn) (.slice L s.2.2.length cl) (.int .i64 k) (.int .i64 lv);have H:=Za (h.below hB);clear h;obtain⟨k0,k1,k2,k3,_,kg⟩:=Ze f1;obtain⟨j0,j1,_,jg⟩:=Zg f2;obtain⟨k',e',_,_,_,_,_,hE,hV,-⟩:=Y4 ha;have hkk:k'=k:=by omega
 subst hkk;clear e';obtain⟨b,hb⟩:∃ b,Zz s.1 k'=b:=⟨_,rfl⟩
 rw[hb] at hE hV;obtain⟨q,hq⟩:∃ q,reN b=q:=⟨_,rfl⟩
 obtain⟨nd,hnd⟩:∃ nd,reV b=nd:=⟨_,rfl⟩
 rw[hq] at hE;rw[hnd] at hV;obtain⟨lw,hlw⟩:∃ q,nd.1=q:=⟨_,rfl⟩
 have hR:Hid (Rdn s.1 lv k'↔(q=0/\(lv=6\/lw=lv))):=Za (by unfold Rdn;rw[hb,hq,hnd,hlw]);have hND:Hid (nd=reV (Zz s.1 k')):=Za (by rw[hb,hnd]);replace hsz:=Za hsz;replace f3:=Za f3;replace hb:=Za hb;replace hq:=Za hq;replace hnd:=Za hnd;replace hE:=Za hE;replace hV:=Za hV;clear f1 ha
 go_enter Tryz.func131,Tryz.ntmps131
 go_upto_region 1 with fail
 clear hw1
 go_wp2_with fail
 with_reducible refine(Zqc _ s (k':Int) _ H.out).mono ?_
 rintro e w2 ⟨u,rfl,hu,hb2⟩;rw[hE.out];rw[hV.out] at hu;obtain⟨P,pc,rfl,_⟩:=id hu.open;rw[hlw];obtain⟨w3,hw3,g3,hs3,hb3⟩:=Yd w2 (.int .i64 lw) (.slice P nd.2.length pc) 81;have F3:=(hb3.block (w.heap.size+2) (by have:=hb2.size;have:=hsz.out;omega)).trans ((hb2.block (w.heap.size+2) (by have:=hsz.out;omega)).trans f3.out);have G2:=(hb3.block (w.heap.size+1) (by have:=hb2.size;have:=hsz.out;omega)).trans ((hb2.block (w.heap.size+1) (by have:=hsz.out;omega)).trans f2);obtain⟨m0,m1,_,_⟩:=Zg g3;obtain⟨n0,n1,_,_⟩:=Zg G2;obtain⟨x0,x1,x2,_⟩:=Zg F3;have B3:=Za (hB.trans ((hb2.trans (hb3.mono hb2.size)).mono hB.size));have U3:=Za (hu.new (Qa _) hb3);have s3:Hid (w.heap.size+3<=w1.heap.size):=Za (by have:=hsz.out;omega);rw[hlw] at U3;clear hu hb2 hb3 hB k0 k1 k2 k3 kg j0 j1 jg f2;replace hs3:=Za hs3;replace g3:=Za g3;replace G2:=Za G2
 go_upto_region 2 with fail
 clear hw3;by_cases hok:q=0/\(lv=6\/lw=lv)
 ·obtain⟨W9,hW9,g9,gr9,gs9⟩:=Xu (u:=.int .i64 lw) (v:=.slice P nd.2.length pc) F3
  obtain⟨o0,o1,_,_⟩:=Zg g9
  have hfin:=Za (show Nod (New w.heap.size W9) W9 (.agg #[.int .i64 lw,.slice P nd.2.length pc]) nd from
   (U3.out.grown gr9 (fun q e=>by cases e;have:=s3.out;omega)).new (by have:=s3.out;omega) (Qb _ _))
  have hB9:=Za (B3.out.grown gr9 B3.out.size (fun q e=>by cases e;omega));have hq0:=hok.1;have hok':=Za hok;subst hq0;replace F3:=Za F3;replace g9:=Za g9;clear gr9 gs9;by_cases h6:lv=6
  ·have c1:(lv != 6)=false:=by simp[h6]
   clear hok h6
   go_wp2_with fail
   refine Qa1 (v:=.tuple #[.agg #[.int .i64 lw,.slice P nd.2.length pc],.int .i64 0]) (by simp[results,Tryz.results131,go_sem,o0,o1]) rfl ?_;exact⟨_,0,nd,rfl,.inl ⟨hR.out.2 hok'.out,rfl,hND.out⟩,hfin.out,hB9.out⟩
  ·have c1:(lv != 6)=true:=by simpa using h6
   have c2:(lw != lv)=false:=by
    rcases hok.2 with h | h
    ·exact absurd h h6
    ·simp[h]
   clear hok
   go_wp2_with fail
   refine Qa1 (v:=.tuple #[.agg #[.int .i64 lw,.slice P nd.2.length pc],.int .i64 0]) (by simp[results,Tryz.results131,go_sem,o0,o1]) rfl ?_;exact⟨_,0,nd,rfl,.inl ⟨hR.out.2 hok'.out,rfl,hND.out⟩,hfin.out,hB9.out⟩
 ·obtain⟨W9,hW9,g9,gr9,gs9⟩:=Xu (u:=.int .i64 0) (v:=.slice none 0 0) F3
  obtain⟨o0,o1,_,_⟩:=Zg g9;have hfin:=Za (Z29 (New w.heap.size W9) W9);have hB9:=Za (B3.out.grown gr9 B3.out.size (fun q e=>by cases e;omega));have hok':=Za hok;replace F3:=Za F3;replace g9:=Za g9;clear gr9 gs9;by_cases hq0:q=0
  ·have c1:(lv != 6)=true:=by
    have:¬ lv=6:=fun h=>hok ⟨hq0,.inl h⟩
    simpa using this
   have c2:(lw != lv)=true:=by
    have:¬ lw=lv:=fun h=>hok ⟨hq0,.inr h⟩
    simpa using this
   clear hok;subst hq0
   go_wp2_with fail
   refine Qa1 (v:=.tuple #[.agg #[.int .i64 0,.slice none 0 0],.int .i64 8]) (by simp[results,Tryz.results131,go_sem,o0,o1]) rfl ?_;exact⟨_,8,Uf,rfl,.inr ⟨fun h=>hok'.out (hR.out.1 h),rfl,rfl⟩,hfin.out,hB9.out⟩
  ·have c0:(q != 0)=true:=by simpa using hq0
   clear hok
   go_wp2_with fail
   refine Qa1 (v:=.tuple #[.agg #[.int .i64 0,.slice none 0 0],.int .i64 8]) (by simp[results,Tryz.results131,go_sem,o0,o1]) rfl ?_;exact⟨_,8,Uf,rfl,.inr ⟨fun h=>hok'.out (hR.out.1 h),rfl,rfl⟩,hfin.out,hB9.out⟩}
def Off (g:Nat) (w:Qax):Qaz->Prop:=fun p=>p.block<w.heap.size/\p.block≠g
theorem Zjb {g:Nat}{W W1:Qax}{p:Qaz}{v:Qay}(gr:W.grownBy W1 (some g)) (hp:Off g W p) (hc:W.cell? p=some v):Off g W1 p/\W1.cell? p=some v :=
 ⟨⟨Qr hp.1 gr.size,hp.2⟩,(Qas (gr.block _ hp.1 (by simpa using hp.2))).trans hc⟩
theorem Zqi {g:Nat}{W W1:Qax}{p:Qaz}{v:Qay}(hb:Qa5 W.heap.size W W1) (hp:Off g W p) (hc:W.cell? p=some v):Off g W1 p/\W1.cell? p=some v :=
 ⟨⟨Qr hp.1 hb.size,hp.2⟩,(hb.cell hp.1).trans hc⟩
theorem Zl0 {g:Nat}{w W:Qax}{p:Qaz}{v:Qay}(hb:Qa5 w.heap.size w W) (hg:w.heap.size<=g) (hp:Old w p) (hc:w.cell? p=some v):Off g W p/\W.cell? p=some v :=
 ⟨⟨Qr hp hb.size,fun e=>by have h:p.block<w.heap.size:=hp;omega⟩,(hb.cell hp).trans hc⟩
theorem Zmp {g:Nat}{W:Qax}{p:Qaz}{v:Qay}(hp:Off g W p) (hc:W.cell? p=some v):Old W p/\W.cell? p=some v:=⟨hp.1,hc⟩
theorem Z2g {l:List It}{i:Nat}{x:It}{t:List UInt8}(h:ctE t (l.take i)=0) (hx:l[i]? = some x):ctE t l=ctE (ctV t (l.take i)) (x::l.drop (i+1)):=by
 have hk:=(Qj.1 hx).1;have hg:l[i]=x:=(Qj.1 hx).2;have e:l=l.take i++x::l.drop (i+1):=by rw[<- hg,List.getElem_cons_drop,Qz]
 have:ctE t l=ctE t (l.take i++x::l.drop (i+1)):=by rw[<- e]
 rw[this,Zme,if_pos h]
theorem Z7y {l:List It}{i:Nat}{x:It}{t:List UInt8}(h:ctE t (l.take i)=0) (hx:l[i]? = some x):ctE t (l.take (i+1))=ctE (ctV t (l.take i)) [x]/\ctV t (l.take (i+1))=ctV (ctV t (l.take i)) [x]:=by
 have hk:=(Qj.1 hx).1;have hg:l[i]=x:=(Qj.1 hx).2;rw[<- Pi hk,Zme,Zq6,if_pos h,hg];exact⟨rfl,rfl⟩
theorem Zwq {w:Qax}(a b c d e f:Qay):∃ w1,((w.alloc (.cells #[a,b,c,d] 29)).alloc (.cells #[e,f] 81)).alloc (.cells #[.slice none 0 0,.slice none 0 0,.slice none 0 0,.slice none 0 0] 29)=w1 /\
  w1.heap[w.heap.size]? = some (.cells #[a,b,c,d] 29 (0,0))/\w1.heap[w.heap.size+1]? = some (.cells #[e,f] 81 (0,0))/\w1.heap[w.heap.size+2]? = some (.cells #[.slice none 0 0,.slice none 0 0,.slice none 0 0,.slice none 0 0] 29 (0,0))/\w1.heap.size=w.heap.size+3/\Qa5 w.heap.size w w1:=by{
 refine⟨_,rfl,Y8 (Y8 (Qa2 _ _)),Y8 ?_,?_,by simp,(((Qb _ w).alloc (Qa _) _).alloc (by simp) _).alloc (by simp;omega) _⟩
 ·have:=Qa2 (w.alloc (.cells #[a,b,c,d] 29)) (.cells #[e,f] 81)
  rwa [Qs] at this
 ·have:=Qa2 ((w.alloc (.cells #[a,b,c,d] 29)).alloc (.cells #[e,f] 81)) (.cells #[.slice none 0 0,.slice none 0 0,.slice none 0 0,.slice none 0 0] 29)
  rwa [Qs,Qs] at this}
theorem Z12 {s:Rm}{n:Nd}(hm:Xk s=true) (hn:mayN n=true):(ctE s.2.1 n.2≠0/\mkE s n=ctE s.2.1 n.2/\mkN s n=0/\mkV s n=Zi)\/(ctE s.2.1 n.2=0/\mkE s n=tkE (ctS s n) (Ve n)/\mkN s n=tkN (ctS s n) (Ve n)/\mkV s n=tkV (ctS s n) (Ve n)):=by{
 by_cases hc:ctE s.2.1 n.2=0
 ·have e:mkE s n=tkE (ctS s n) (Ve n):=by simp[mkE,hm,hn,hc]
  refine .inr ⟨hc,e,?_,?_⟩
  ·by_cases h:mkE s n=0
   ·rw[mkN,if_pos h]
   ·rw[mkN,if_neg h,(Zvc (by rw[<- e];exact h)).1]
  ·by_cases h:mkE s n=0
   ·rw[mkV,if_pos h]
   ·rw[mkV,if_neg h,(Zvc (by rw[<- e];exact h)).2]
 ·have e:mkE s n=ctE s.2.1 n.2:=by simp[mkE,hm,hn,hc]
  have h:mkE s n≠0:=by rw[e];exact hc
  exact .inl ⟨hc,e,(Zx6 h).1,(Zx6 h).2⟩}
theorem Zqq {a b:Qax}{row:Option Nat}(h:Qa5 a.heap.size a b):a.grownBy b row:=Uv (Xc a row) h
theorem Z1d (g c lo:Nat) (t0:List UInt8) (u:Qay) (n:Nd) (hn:mayN n=true) (hl0:t0.length=256) (w:Qax) (hown:w.ownsRow lo 5 1 (.slice (some ⟨g,0,none⟩) 256 c) 256 (u8s t0)) (hu:Nod (Off g w) w u n) :
  Qa4 Tryz.prog 81 #[.slice (some ⟨g,0,none⟩) 256 c,u] w fun e w'=>e=.returned (.int .i64 (ctE t0 n.2))/\w.grownBy w' (some g)/\(ctE t0 n.2=0->w'.ownsRow lo 5 1 (.slice (some ⟨g,0,none⟩) 256 c) 256 (u8s (ctV t0 n.2))):=by{
 obtain⟨I,ci,rfl,_,_,_,hI⟩:=hu.open;obtain⟨lw,hlw⟩:∃ q,n.1=q:=⟨_,rfl⟩
 obtain⟨l,hl⟩:∃ q,n.2=q:=⟨_,rfl⟩
 obtain⟨m,hlm⟩:∃ q,l.length=q:=⟨_,rfl⟩
 have hrf:=Za (Vx hn);obtain⟨⟨_,_,s3,_⟩,_⟩:=Zw hn;rw[hl,hlm] at s3 hI;rw[hl] at hrf ⊢;rw[hlw,hlm];have hg0:g<w.heap.size:=((hown.lt g rfl).2)
 obtain⟨w1,hw1,b1,hs1,hB1⟩:=Yd w (.int .i64 lw) (.slice I m ci) 81;have HI:=Za (Y0 _ _ _ _ _ _ (fun _ _ hp hc=>Zqi (g:=g) hB1 hp hc) hI);have HO:=Za (Zv hown hB1);have GB:=Za (Zqq (row:=some g) hB1);obtain⟨p0,p1,_,pg⟩:=Zg b1;have hgs:Hid (g≠w.heap.size):=Za (by omega);have b1h:=Za b1;replace hl0:=Za hl0;replace hl:=Za hl;replace hlw:=Za hlw;replace hlm:=Za hlm;replace hs1:=Za hs1;clear hown hu hI b1 hB1
 go_enter Tryz.func81,Tryz.ntmps81
 go_upto_region 1 with fail
 clear hw1
 go_wp2_with fail
 clear p0 p1
 go_loopw [10] (fun vi wr=>∃ i:Nat,i<=m/\vi=.int .i64 i/\ctE t0 (l.take i)=0/\wr.ownsRow lo 5 1 (.slice (some ⟨g,0,none⟩) 256 c) 256 (u8s (ctV t0 (l.take i)))/\w1.grownBy wr (some g)) (fun vi _=>m-(intOf vi).toNat)
 case atStart=>exact⟨0,by omega,rfl,rfl,HO.out,Xc _ _⟩
 case round =>
  obtain⟨i,hi,rfl,hE,hown,hgr⟩:=hrel;have GF:=Za (Yw GB.out hgr);by_cases hlt:i<m
  case neg =>
   have hlast:Hid (l.take i=l):=Za (Qal (by rw[hlm.out];omega));have hEl:Hid (ctE t0 l=0):=Za (by rw[<- hE,hlast.out]);rw[hlast.out] at hown;have HO2:=Za hown;clear hown hgr hE
   go_wp2_with fail
   go_ret;exact⟨Z0 hEl.out.symm,GF.out,fun _=>HO2.out⟩
  obtain⟨x,hx⟩:∃ x,l[i]? = some x:=⟨_,Qc (by rw[hlm.out];exact hlt)⟩
  have hsp:=Za (Z2g hE hx);have hnx:=Za (Z7y hE hx);have hxr:=hrf.out x (Qt hx);have hIr:=Y0 _ _ _ _ _ _ (fun _ _ hp hc=>Zjb (g:=g) hgr hp hc) HI.out;obtain⟨ad5,E5,ce5,rfl,_,⟨z0,z1,z2,z3,z4⟩,_⟩:=Zaa hIr hx;clear hIr;obtain⟨w5,hw5,y0,y1,y2,y3,y4,hs5,hB5,_⟩:=Z8 wr (.int .u8 (x.1.1.toNat:Int)) (.int .u32 x.1.2.1) (.int .u32 x.1.2.2) (.int .i64 x.2.1) (.slice E5 x.2.2.length ce5) 54;have hown5:=Zv hown hB5;have hgr5:=Za (Uv hgr (hB5.mono hgr.size));have GF5:=Za (Yw GB.out hgr5.out);replace hs5:=Za hs5;have i4:(0:Int)<=(i:Int):=by omega
  have i5:(i:Int)<(m:Int):=by omega
  obtain⟨z,hzz⟩:∃ z,x.2.1=z:=⟨_,rfl⟩
  have hc1:∀ T,ctE T (x::l.drop (i+1))=if z=0 then ctE T (l.drop (i+1)) else if T[z.toNat]?.getD 0=0 then 6 else if T[z.toNat]?.getD 0=255 then 70 else ctE (T.set z.toNat (T[z.toNat]?.getD 0+1)) (l.drop (i+1)):=fun T=>by rw[<- hzz];rfl
  have hc2:∀ T,ctE T [x]=if z=0 then 0 else if T[z.toNat]?.getD 0=0 then 6 else if T[z.toNat]?.getD 0=255 then 70 else 0:=fun T=>by rw[<- hzz];rfl
  have hc3:∀ T,ctV T [x]=if z=0 then T else T.set z.toNat (T[z.toNat]?.getD 0+1):=fun T=>by rw[<- hzz];rfl
  rw[hzz] at z3 hxr hw5 y3;replace hx:=Za hx;replace hzz:=Za hzz;obtain⟨T,hT⟩:∃ T,ctV t0 (l.take i)=T:=⟨_,rfl⟩
  have hTl:Hid (T.length=256):=Za (by rw[<- hT,Zeu,hl0.out]);rw[hT] at hown5 hsp hnx;replace hT:=Za hT;replace hE:=Za hE;clear hown hgr hB5
  go_upto_region 4 with fail
  clear hw5 z0 z1 z2 z3 z4;by_cases hz0:z=0
  ·have hn1:Hid (ctE t0 (l.take (i+1))=0/\ctV t0 (l.take (i+1))=T):=Za ⟨by rw[hnx.out.1,hc2,if_pos hz0],by rw[hnx.out.2,hc3,if_pos hz0]⟩
   subst hz0;have HO:=Za hown5;clear hc1 hc2 hc3 hxr hown5 hE hsp hnx
   go_wp2_with fail
   go_roundw
   case rel=>exact⟨i+1,by omega,by go_num,hn1.out.1,by rw[hn1.out.2];exact HO.out,hgr5.out⟩
   case measure=>simp[intOf];omega
  obtain⟨r,hr,r8,r256⟩:∃ r:Nat,z=r/\8<=r/\r<256:=⟨z.toNat,by omega,by omega,by omega⟩
  rw[hc1,if_neg hz0,show z.toNat=r by omega] at hsp;rw[hc2,hc3,if_neg hz0,if_neg hz0,show z.toNat=r by omega] at hnx;have j3:(z==0)=false:=by simpa using hz0
  subst hr;have hcell:=Zf8 hown5 (j:=r) r256;obtain⟨y,hy⟩:∃ y,T[r]?.getD 0=y:=⟨_,rfl⟩
  rw[hy] at hsp hnx hcell;replace hy:=Za hy;by_cases hy0:y=0
  ·have t1:=Vh (y:=0) (q:=0) rfl hy0
   have hEl:Hid (ctE t0 l=6):=Za (by rw[hsp.out,if_pos hy0]);clear hc1 hc2 hc3 hxr hown5 hE hsp hnx hz0
   go_wp2_with fail
   go_ret;exact⟨Z0 hEl.out.symm,GF5.out,fun h=>by rw[hEl.out] at h;cases h⟩
  have t1:=Xv (y:=0) (q:=0) rfl hy0;by_cases hy5:y=255
  ·have t2:=Vh (y:=255) (q:=255) rfl hy5
   have hEl:Hid (ctE t0 l=70):=Za (by rw[hsp.out,if_neg hy0,if_pos hy5]);clear hc1 hc2 hc3 hxr hown5 hE hsp hnx hz0
   go_wp2_with fail
   go_ret;exact⟨Z0 hEl.out.symm,GF5.out,fun h=>by rw[hEl.out] at h;cases h⟩
  have t2:=Xv (y:=255) (q:=255) rfl hy5;have hfr:w5.frozen? ⟨g,r,none⟩=false:=hown5.frozenAt r;obtain⟨hu1,hu2,hu3⟩:=Zi8 hy5;have hset:=Zrs hown5 r (y+1);have hn1:Hid (ctE t0 (l.take (i+1))=0/\ctV t0 (l.take (i+1))=T.set r (y+1)):=Za ⟨by rw[hnx.out.1,if_neg hy0,if_neg hy5],hnx.out.2⟩;rw[<- hu1] at hset;replace hset:=Za hset;replace hu1:=Za hu1;have hgn:=Za (Yr hgr5.out (p:=⟨g,r,none⟩) rfl (.int .u8 ((y.toNat:Int)+1)));clear hc1 hc2 hc3 hxr hown5 hE hsp hnx hz0
  go_wp2_with fail
  go_roundw
  case rel=>exact⟨i+1,by omega,by go_num,hn1.out.1,by rw[hn1.out.2];exact hset.out,hgn.out⟩
  case measure=>simp[intOf];omega}
end Go.Proofs.YtgmbjnajdfgenaaGreat
namespace Go.Proofs.YtgmbjnajdfgenaaGreat
open Go.RowKit Go.Shelf Go.Maps
attribute [local go_sem] Oper.semAt_some
theorem Zuj:(Tryz.prog.info? 115).map (fun i=>(i.zero,i.size,i.bytes))=some (some (.agg #[.int .i64 0,.int .i64 0]),2,16):=by kernel_rfl
def rfV (l:List Rf):List Qay:=l.flatMap fun x=>[.int .i64 x.1,.int .i64 x.2]
theorem Z76 (l:List Rf):(rfV l).length=l.length*2:=by{
 induction l with
 | nil=>rfl
 | cons x l ih =>
  show (rfV l).length+2=_;rw[ih,Qp];omega}
theorem Zsk (a b:List Rf):rfV (a++b)=rfV a++rfV b:=by simp[rfV]
theorem Z8j (l:List Rf):∀ v∈rfV l,v.oneCell'=true:=by
 intro v hv;simp only[rfV,Qk] at hv;obtain⟨x,_,hx⟩:=hv;simp at hx;rcases hx with rfl | rfl <;> rfl
theorem Z2i (F:Fence) (n:Nat) (hf:F.fn 180) (hro:F.round=none) (hn:1<=n) (l Bs n₀ cap m:Nat) (A:Option Qaz) (ad:Qaz) (f:Nat->It) (E:Nat->Option Qaz) (ca:Nat->Nat) (hm:m<=9223372036854775807) (hA:0<m->A=some ad/\ad.block<n₀) (J Jx:List Nat->Qax->Prop)
  (hY:∀ (pre:List Nat) (x:Nat) (W:Qax),J pre W->pre.length<m->YieldAt F (n-1) Tryz.prog l #[.int .i64 (x:Int),.agg #[.int .u8 ((f x).1.1.toNat:Int),.int .u32 (f x).1.2.1,.int .u32 (f x).1.2.2,.int .i64 (f x).2.1,.slice (E x) (f x).2.2.length (ca x)]] W fun e W' =>
   (e=.returned (.bool true)/\J (pre++[x]) W'/\Zf1 n₀ Bs W W')\/(e=.returned (.bool false)/\Jx (pre++[x]) W'))
  (W:Qax) (hBs:W.cell? ⟨Bs,0,none⟩=some (.slice A m cap)) (hc:∀ j,j<m->At5 W (ad.add (j*5)) (f j) (.slice (E j) (f j).2.2.length (ca j))) (h0:J [] W) :
  CallsIn F n Tryz.prog 180 #[.func (.yield l) #[] #[],.pointer (some ⟨Bs,0,none⟩)] W fun e W'=>(∃ v,e=.returned v) /\
   ((∃ ys,ys=V8 m m/\J ys W')\/(∃ pre,(∃ k,k<=m/\pre=V8 m k)/\Jx pre W')):=by{
 refine callsIn_of_wp Tryz.func180 rfl hf ?_ hro;simp only[Tryz.ntmps180,Q0,Qp,Q3,Q4,Q5,Q6,Q7,Q8,Q9,Pa,Qn];have HC:=Za hc;clear hc;replace hA:=Za hA
 gi_wp2
 gi_loopw [3] (fun i wr=>∃ k:Nat,k<=m/\i=.int .i64 ((m:Int)-1-k)/\J (V8 m k) wr/\Qa5 n₀ W wr/\wr.cell? ⟨Bs,0,none⟩=some (.slice A m cap))
  (fun i _=>(intOf i+1).toNat)
 case atStart=>exact⟨0,Nat.zero_le _,by simp,h0,Qb _ _,hBs⟩
 case round =>
  obtain⟨k,hk,rfl,hJs,hnx,hbs⟩:=hrel;by_cases hlt:k<m
  ·obtain⟨rfl,hb⟩:=hA.out (by omega)
   have hx:=HC.out (m-1-k) (by omega);have g1:=(hnx.cell (p:=ad.add ((m-1-k)*5)) (by rw[Zh];exact hb)).trans hx.c0;have g2:=(hnx.cell (p:=⟨(ad.add ((m-1-k)*5)).block,(ad.add ((m-1-k)*5)).off+1,none⟩) (by rw[Zh];exact hb)).trans hx.c1;have g3:=(hnx.cell (p:=⟨(ad.add ((m-1-k)*5)).block,(ad.add ((m-1-k)*5)).off+2,none⟩) (by rw[Zh];exact hb)).trans hx.c2;have g4:=(hnx.cell (p:=⟨(ad.add ((m-1-k)*5)).block,(ad.add ((m-1-k)*5)).off+3,none⟩) (by rw[Zh];exact hb)).trans hx.c3;have g5:=(hnx.cell (p:=⟨(ad.add ((m-1-k)*5)).block,(ad.add ((m-1-k)*5)).off+4,none⟩) (by rw[Zh];exact hb)).trans hx.c4;clear hx;obtain⟨fn,tmps,assign,body,hy,hR⟩:=hY _ (m-1-k) wr hJs (by rw[Xa];exact hlt)
   try dsimp only at hy
   have e1:((m:Int)-1-k).toNat=m-1-k:=by omega
   have e2:((m-1-k:Nat):Int)=(m:Int)-1-k:=by omega
   rw[e2] at hy;clear e2;have hds:=Za (Zd6 m k);generalize ((f (m-1-k)).1.1.toNat:Int)=q1 at *;generalize (f (m-1-k)).1.2.1=q2 at *;generalize (f (m-1-k)).1.2.2=q3 at *;generalize (f (m-1-k)).2.1=q4 at *;generalize (f (m-1-k)).2.2.length=q5 at *;generalize E (m-1-k)=q6 at *;generalize ca (m-1-k)=q7 at *
   gi_wp2
   refine hR.mono ?_;rintro e W3 (⟨rfl,hJ3,hk3⟩ | ⟨rfl,hJx3⟩)
   ·gi_wp2
    go_roundw
    case rel=>exact⟨k+1,by omega,by go_num,by rw[hds.out];exact hJ3,hnx.trans hk3.1,hk3.2.trans hbs⟩
    case measure=>simp[intOf];omega
   ·gi_wp2
    refine Qa1 (results_none rfl _ _ _) rfl ?_;exact⟨⟨_,rfl⟩,.inr ⟨_,⟨k+1,by omega,hds.out.symm⟩,hJx3⟩⟩
  ·obtain rfl:k=m:=by omega
   gi_wp2
   go_end0
   exact⟨⟨_,rfl⟩,.inl ⟨_,rfl,hJs⟩⟩}
theorem Zn9 (F:Fence) (n:Nat) (hf:F.fn 160) (hro:F.round=none) (a:Option Qaz) (len cap:Nat) (w:Qax) :
  CallsIn F n Tryz.prog 160 #[.slice a len cap] w fun e w'=>e=.returned (.func (.func 180) #[] #[.pointer (some ⟨w.heap.size,0,none⟩)])/\w'=w.alloc (.cells #[.slice a len cap] 39):=by
 refine callsIn_of_wp Tryz.func160 rfl hf ?_ hro;simp only[Tryz.ntmps160,Q0,Qp,Q3,Q4,Q5,Q6,Q7,Q8,Q9,Pa,Qn]
 gi_wp2
 go_ret;exact⟨rfl,rfl⟩
theorem Zj6 (F:Fence) (n:Nat) (hf:F.fn 180) (hro:F.round=none) (hn:1<=n) (Bs n₀ cap m:Nat) (A:Option Qaz) (ad:Qaz) (f:Nat->It) (E:Nat->Option Qaz) (ca:Nat->Nat) (hm:m<=9223372036854775807) (w:Qax) (hBs:Bs<w.heap.size) (_hn₀:n₀<=w.heap.size)
  (hc:w.cell? ⟨Bs,0,none⟩=some (.slice A m cap)) (hA:0<m->A=some ad/\ad.block<n₀) (hx:∀ j,j<m->At5 w (ad.add (j*5)) (f j) (.slice (E j) (f j).2.2.length (ca j))) :
  SeqStopsK F n Tryz.prog 180 #[.pointer (some ⟨Bs,0,none⟩)] (fun x:Nat=>#[Value.int .i64 (x:Int),Value.agg #[.int .u8 ((f x).1.1.toNat:Int),.int .u32 (f x).1.2.1,.int .u32 (f x).1.2.2,.int .i64 (f x).2.1,.slice (E x) (f x).2.2.length (ca x)]]) (Zf1 n₀ Bs) (fun ys=>ys=V8 m m)
   (fun pre=>∃ k,k<=m/\pre=V8 m k) m w:=fun l J Jx W hW _ _ hY h0=>by
 have hc':=(hW.cell (p:=⟨Bs,0,none⟩) hBs).trans hc;exact Z2i F n hf hro hn l Bs n₀ cap m A ad f E ca hm hA J Jx hY W hc' (fun j hj=>(hx j hj).below hW) h0
theorem Yat {w:Qax}{A:Option Qaz}{n c:Nat}{xs:List It}(h:Uz (Old w) w [.slice A n c] xs) (hn:xs.length=n) :
  ∃ (ad:Qaz) (f:Nat->It) (E:Nat->Option Qaz) (ca:Nat->Nat),(0<n->A=some ad/\ad.block<w.heap.size)/\(∀ i x,xs[i]? = some x->f i=x)/\∀ i,i<n->At5 w (ad.add (i*5)) (f i) (.slice (E i) (f i).2.2.length (ca i)):=by{
 subst hn;have h2:∀ i,∃ g:It×Option Qaz×Nat,∀ x,xs[i]? = some x->g.1=x/\∃ ad,A=some ad/\ad.block<w.heap.size/\At5 w (ad.add (i*5)) x (.slice g.2.1 x.2.2.length g.2.2):=fun i=>by
  cases hx:xs[i]? with
  | none=>exact⟨(((0,0,0),0,[]),none,0),fun x e=>by cases e⟩
  | some x =>
   obtain⟨ad,E,ce,rfl,hok,h5,_⟩:=Zaa h hx;exact⟨(x,E,ce),fun y e=>by cases e;exact⟨rfl,ad,rfl,by have:=h5.lt;rwa [Zh] at this,h5⟩⟩
 obtain⟨g,hg⟩:∃ g:Nat->It×Option Qaz×Nat,∀ i x,xs[i]? = some x->(g i).1=x/\∃ ad,A=some ad/\ad.block<w.heap.size/\At5 w (ad.add (i*5)) x (.slice (g i).2.1 x.2.2.length (g i).2.2) :=
  ⟨fun i=>Classical.choose (h2 i),fun i=>Classical.choose_spec (h2 i)⟩
 rcases A with _ | ad
 ·refine⟨⟨0,0,none⟩,fun i=>(g i).1,fun i=>(g i).2.1,fun i=>(g i).2.2,fun h0=> ?_,fun i x hi=>(hg i x hi).1,fun i hi=> ?_⟩
  ·obtain⟨_,_,e,_⟩:=hg 0 _ (Qc h0)
   cases e
  ·obtain⟨_,_,e,_⟩:=hg i _ (Qc hi)
   cases e
 ·refine⟨ad,fun i=>(g i).1,fun i=>(g i).2.1,fun i=>(g i).2.2,fun h0=> ?_,fun i x hi=>(hg i x hi).1,fun i hi=> ?_⟩
  ·obtain⟨_,_,e,hb,_⟩:=hg 0 _ (Qc h0)
   cases e;exact⟨rfl,hb⟩
  ·obtain⟨e1,_,e,_,h5⟩:=hg i _ (Qc hi)
   cases e;rw[<- e1] at h5;exact h5}
def Zlz (lv:Int) (f:Nat->It) (pre:List Nat):List Rf:=Zkd lv (pre.map f)
theorem Z1z {lv:Int}{f:Nat->It}{pre:List Nat}{x:Nat}(h:(f x).2.1=0):Zlz lv f (pre++[x])=Zlz lv f pre:=by
 rw[Zlz,Qav,Ztt,Pg,Qaw,Zjw h,Zs1,Qar];rfl
theorem Zxd {lv:Int}{f:Nat->It}{pre:List Nat}{x:Nat}(h:(f x).2.1≠0):Zlz lv f (pre++[x])=Zlz lv f pre++[((f x).2.1,lv)]:=by
 rw[Zlz,Qav,Ztt,Pg,Qaw,Zi6 h,Zs1];rfl
theorem Zz0 {f:Nat->It}{xs:List It}(h:∀ i x,xs[i]? = some x->f i=x):(V8 xs.length xs.length).map f=xs.reverse:=by
 refine Qaf (by simp[V8]) fun i h1 h2=> ?_
 have hi:i<xs.length:=by simpa using h2
 simp only[V8,List.map_map,List.getElem_map,List.getElem_range,Function.comp,List.getElem_reverse];exact h _ _ (Qc (by omega))
theorem Z48 (lv:Int) (l:List It):Zkd lv l.reverse=(Zkd lv l).reverse:=by simp[Zkd,List.filter_reverse]
theorem Z20 {lv:Int}{f:Nat->It}{xs:List It}(h:∀ i x,xs[i]? = some x->f i=x):Zlz lv f (V8 xs.length xs.length)=(Zkd lv xs).reverse:=by
 rw[Zlz,Zz0 h,Z48]
end Go.Proofs.YtgmbjnajdfgenaaGreat
namespace Go.Proofs.YtgmbjnajdfgenaaGreat
open Go.RowKit Go.Shelf Go.Maps
attribute [local go_sem] Oper.semAt_some
theorem Z0w {w:Qax}{a b:Qay}{t:Qa0}:∀ j u,([a,b]:List Qay)[j]? = some u->(w.alloc (.cells #[a,b] t)).cell? ((⟨w.heap.size,0,none⟩:Qaz).add j)=some u:=by
 intro j u hj;rw[Zaf,Nat.zero_add,cell_of_row _ _ _ #[a,b] t _ (Qa2 w _)]
 simpa using hj
theorem Zem {W w1:Qax}{g B base size k:Nat}{cs:Array Qay}{t e:Qa0}{tmp:Obj}{v v':Qay}{xs:List Qay}(h:W.heap[g]? = some (.cells cs t (0,0))) (hte:t≠e) (hr:W.ownsRow base e size v k xs) (hg:(W.alloc tmp).grownBy w1 v.ownBlock) (hB:g≠B) :
  (w1.setCell ⟨B,0,none⟩ v').heap[g]? = some (.cells cs t (0,0)):=by{
 have hlt:g<W.heap.size:=(Qv.1 h).1;have hne:some g≠v.ownBlock:=by
  rcases hr.2 with ⟨rfl,_⟩ | ⟨q,cap,cur,rfl,_,hq,_⟩
  ·simp[Value.ownBlock]
  ·intro e'
   obtain rfl:g=q:=by simpa [Value.ownBlock] using e'
   rw[h] at hq;simp at hq;exact hte hq.2
 rw[Below.heap_setCell w1 ⟨B,0,none⟩ v' g hB,hg.block g (by simp;omega) hne,Pv W tmp g hlt,h]}
theorem Z9a (F:Fence) (n:Nat) (h3:F.fn 132) (h5:F.fn 160) (h7:F.fn 180) (hro:F.round=none) (hn:3<=n)
  (v:Qay) (nd:Nd) (h0:0<=nd.1) (h6:nd.1<6) (hl5:nd.2.length<=5) (w:Qax) (h:Nod (Old w) w v nd) :
  CallsIn F n Tryz.prog 132 #[v] w fun e W'=>∃ u,e=.returned u/\W'.ownsRow w.heap.size 115 2 u (Zxa nd).length (rfV (Zxa nd).reverse)/\Qa5 w.heap.size w W':=by{
 have h1:1<=n:=by omega
 obtain⟨i0,hi,hz0,hz1,hz2⟩:=info_parts Zuj;obtain⟨A,c,rfl,_,l1,m1,hI⟩:=h.open;obtain⟨m,hm⟩:∃ m,nd.2.length=m:=⟨_,rfl⟩
 obtain⟨lv,hlv⟩:∃ lv,nd.1=lv:=⟨_,rfl⟩
 rw[hm] at l1 hI hl5 ⊢;obtain⟨ad,f,E,ca,hA,hf,hc⟩:=Yat hI hm;have hcol:Hid (Zlz (lv-1) f (V8 m m)=(Zxa nd).reverse):=Za (by rw[<- hm,Z20 hf,Zxa,hlv]);rw[hlv] at h0 h6 ⊢;replace hlv:=Za hlv;replace hm:=Za hm;replace hc:=Za hc;replace hA:=Za hA;replace hf:=Za hf;clear hI h;refine callsIn_of_wp_marks Tryz.func132 rfl h3 ?_ hro;simp only[Tryz.ntmps132,Q0,Qp,Q3,Q4,Q5,Q6,Q7,Q8,Q9,Pa,Qn]
 gi_wp2_with (gi_at_call 160;refine(Zn9 F (n-1) h5 hro _ _ _ _).mono ?_;rintro e w' ⟨rfl,rfl⟩)
 obtain⟨W0,hW0,hB0,hs0,b0,bx,b3⟩:∃ W0,((w.alloc (.cells #[.int .i64 lv,.slice A m c] 81)).alloc (.cells #[.slice none 0 0] 203)).alloc (.cells #[.slice A m c] 39)=W0/\Qa5 w.heap.size w W0/\W0.heap.size=w.heap.size+3 /\
   W0.heap[w.heap.size]? = some (.cells #[.int .i64 lv,.slice A m c] 81 (0,0))/\Boxed W0 (w.heap.size+1) 203 (.slice none 0 0)/\Boxed W0 (w.heap.size+1+1) 39 (.slice A m c) :=
  ⟨_,rfl,(((Qb _ w).alloc (Qa _) _).alloc (by simp) _).alloc (by simp;omega) _,by simp,(Pv _ _ _ (by simp;omega)).trans ((Pv _ _ _ (by simp)).trans (Qa2 w _)),((by have:=Boxed.new (w.alloc (.cells #[.int .i64 lv,.slice A m c] 81)) 203 (.slice none 0 0);simpa using this:Boxed ((w.alloc (.cells #[.int .i64 lv,.slice A m c] 81)).alloc (.cells #[.slice none 0 0] 203)) (w.heap.size+1) 203 (.slice none 0 0))).alloc _,by have:=Boxed.new ((w.alloc (.cells #[.int .i64 lv,.slice A m c] 81)).alloc (.cells #[.slice none 0 0] 203)) 39 (.slice A m c);simpa using this⟩
 rw[hW0];clear hW0;have hlo:w.heap.size<=W0.heap.size:=hB0.size;have hA0:0<m->A=some ad/\ad.block<w.heap.size:=hA.out;refine wpIn_rangeFunc_ownH hro h1 (gf:=180) (lb:=#[.pointer (some ⟨w.heap.size+1+1,0,none⟩)]) rfl h7 (enters_of Tryz.func180 (by kernel_rfl) rfl)
  (Zj6 F (n-1) h7 hro (by omega) (w.heap.size+1+1) w.heap.size c m A ad f E ca (by omega) W0 (by omega) hlo b3.cell hA0 (fun j hj=>(hc.out j hj).below hB0))
  (fun h h'=>Zf1.trans h h') (fun W l o o' hl h1 h2 h3=>Zr6 (w:=W0) (by omega) hlo l o o' hl h1 h2 h3) (Qb _ _) (fun _=>rfl)
  (fun pre W=>((∃ v,Boxed W (w.heap.size+1) 203 v/\W.ownsRow w.heap.size 115 2 v (Zlz (lv-1) f pre).length (rfV (Zlz (lv-1) f pre))/\True)/\(W.heap[w.heap.size]? = some (.cells #[.int .i64 lv,.slice A m c] 81 (0,0))/\Boxed W (w.heap.size+1+1) 39 (.slice A m c)))/\Qa5 w.heap.size w W)
  (fun _ _ _=>False)
  (OwnFrom.and (OwnFrom.and (Own.from (holdsRow_own w.heap.size (w.heap.size+1) 203 115 2 (fun pre:List Nat=>(Zlz (lv-1) f pre).length) (fun pre=>rfV (Zlz (lv-1) f pre)) (fun _ _=>True)) _) (Own.from (fun s A B row hs hg hr=>⟨Zl hs.1 hg hr,Zl hs.2 hg hr⟩) _)) (ownFrom_below (Qa _) hlo))
  (fun _ _ _ _ _ hs _ _=>hs)
  ⟨⟨⟨_,bx,World.ownsRow_nil _ _ _ _,trivial⟩,b0,b3⟩,hB0⟩
  (fun x a' W=>∃ g,a'={ tmps:=#[.agg #[.int .i64 lv,.slice A m c],.pointer (some ⟨w.heap.size,0,none⟩),.slice none 0 0,.pointer (some ⟨w.heap.size+1,0,none⟩),Qa3,.pointer (some ⟨g,0,none⟩),.pointer (some ⟨w.heap.size,1,none⟩),.slice A m c,
   .func (.func 180) #[] #[.pointer (some ⟨w.heap.size+1+1,0,none⟩)],.int .i64 (x:Int),.agg #[.int .u8 ((f x).1.1.toNat:Int),.int .u32 (f x).1.2.1,.int .u32 (f x).1.2.2,.int .i64 (f x).2.1,.slice (E x) (f x).2.2.length (ca x)],Qa3,Qa3,Qa3,Qa3,Qa3,Qa3,Qa3,Qa3,Qa3,Qa3,Qa3,Qa3,Qa3],defers:=[] } /\
   W.cell? ⟨g,3,none⟩=some (.int .i64 (f x).2.1))
  (fun x a'=>Own.from (fun s A B row hs hg hr=>by
   obtain⟨g,e,h1⟩:=hs
   exact⟨g,e,cell_kept h1 hg hr⟩) _) ?assign ?body ?done ?stop
 case assign =>
  rintro l pre x W K ⟨⟨⟨v,hv,hrow,_⟩,c0,c3⟩,hb⟩ hK;have c3':=c3.cell
  gi_wp2
  exact hK _ _ ((KeepsOthers.alloc _ _).from _) ⟨(Qb _ W).alloc hb.size _,(Lib.cell?_alloc_some _ c3').trans c3'.symm⟩
   ⟨⟨⟨v,hv.alloc _,hrow.alloc _,trivial⟩,(Pv W _ _ (Qv.1 c0).1).trans c0,c3.alloc _⟩,hb.alloc hb.size _⟩ ⟨W.heap.size,rfl,by go_simp⟩
 case body =>
  rintro l pre x a' W hl hloop ⟨⟨⟨v,hv,hrow,_⟩,c0,c3⟩,hb⟩ ⟨g,rfl,g3⟩ hlen;obtain⟨q,hq⟩:∃ q,(f x).2.1=q:=⟨_,rfl⟩
  rw[hq] at g3;have d0:W.cell? ⟨w.heap.size,0,none⟩=some (.int .i64 lv):=by rw[cell_of_row _ _ _ _ _ _ c0];rfl
  by_cases he:q=0
  ·have he':(q != 0)=false:=by simp[he]
   have hcz:Hid (Zlz (lv-1) f (pre++[x])=Zlz (lv-1) f pre):=Za (Z1z (by rw[hq,he]));replace hq:=Za hq;replace he:=Za he
   gi_wp2
   refine⟨KeepsFrom.refl _ _,⟨Qb _ _,rfl⟩,⟨⟨v,hv,?_,trivial⟩,c0,c3⟩,hb⟩;rw[hcz.out];exact hrow
  ·have he':(q != 0)=true:=by simpa using he
   have hcm:Hid (Zlz (lv-1) f (pre++[x])=Zlz (lv-1) f pre++[(q,lv-1)]):=Za (by rw[Zxd (by rw[hq];exact he),hq]);have hle:w.heap.size<=w.heap.size+1:=by omega
   have hcell:=hv.cell
   have hkl:Hid ((Zlz (lv-1) f pre).length<=1000000):=Za (by
    have:=Zuw (lv-1) (pre.map f);rw[P7] at this
    exact Qu this (by omega))
   obtain⟨k,hk⟩:∃ k,(Zlz (lv-1) f pre).length=k:=⟨_,rfl⟩
   rw[hk] at hrow hkl;replace hk:=Za hk;have hwr:IntKind.i64.wrap (lv-1)=lv-1:=by rw[IntKind.wrap_i64];omega
   replace hq:=Za hq;replace he:=Za he
   gi_wp2_with (gi_at_builtin;refine wpListIn_append_own _ rfl _ _ 203 rfl w.heap.size 115 i0 (.agg #[.int .i64 0,.int .i64 0]) 2 16 Tryz.underlying203 hi hz0 hz1 hz2 rfl (by decide) _ _ _ rfl (hrow.alloc _) ⟨W.heap.size,0,none⟩ 1 1 [.int .i64 q,.int .i64 (lv-1)] rfl rfl Z0w (by simp[Value.oneCell']) (by unfold maxLen;have:=hkl.out;omega) (by have:=hkl.out;omega) (by have:=hb.size;simp;omega) ?_;intro v' w1 hown' hgrow _;obtain⟨g',cap',rfl⟩:=ownsRow_succ hown';obtain⟨hv1,hv2,hr2,hk2,hb2⟩:=hv.appended (by decide) hrow hb.size hle hown' hgrow;have hc1:=hv1.cell;have hf1:=hv1.frozen)
   have e0:=Zem (v':=.slice (some ⟨g',0,none⟩) (k+1) cap') c0 (by decide) hrow hgrow (B:=w.heap.size+1) (by omega);have e3:Boxed _ (w.heap.size+1+1) 39 (.slice A m c):=Zem (v':=.slice (some ⟨g',0,none⟩) (k+1) cap') c3 (by decide) hrow hgrow (B:=w.heap.size+1) (by omega);refine⟨hk2.from _,⟨hb2,e3.cell.trans c3.cell.symm⟩,⟨⟨_,hv2,?_,trivial⟩,e0,e3⟩,hb.trans hb2⟩;rw[hcm.out,Pz,hk.out,Zsk];exact hr2
 case done =>
  rintro D zs W hD rfl ⟨⟨⟨v,hv,hrow,_⟩,c0,c3⟩,hb⟩ hK;have hcell:=hv.cell;rw[hcol.out,List.length_reverse] at hrow
  gi_wp2
  refine⟨by simp,.inl ⟨_,_,rfl,run_takeDeferred hK,?_⟩⟩;have hrow':=ownsRow_putObj hrow (.deferred none) hK rfl;refine⟨_,results_tmp rfl _ _ _,v,rfl,hrow',hb.trans (belowK_b hlo _ D _ _ hD hK rfl rfl)⟩
 case stop =>
  rintro D c pre W _ _ h _;exact h.elim}
theorem Z4y (v:Qay) (nd:Nd) (h0:0<=nd.1) (h6:nd.1<6) (hl5:nd.2.length<=5) (w:Qax) (h:Nod (Old w) w v nd) :
  Qa4 Tryz.prog 132 #[v] w fun e W'=>∃ u,e=.returned u/\W'.ownsRow w.heap.size 115 2 u (Zxa nd).length (rfV (Zxa nd).reverse)/\Qa5 w.heap.size w W' :=
 callsIn_wide.1 (Z9a Fence.wide 3 trivial trivial trivial rfl (Qa _) v nd h0 h6 hl5 w h)
end Go.Proofs.YtgmbjnajdfgenaaGreat
