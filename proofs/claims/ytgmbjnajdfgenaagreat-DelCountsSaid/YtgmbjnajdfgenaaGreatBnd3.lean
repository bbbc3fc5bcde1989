/-
  Lemmas on the program and on the document's answers, gathered: Room, RmChk, RmFree, RmTake, RmShare, RmNode, FnPlain, DrPlain, FnKeep, FnSpan, Spoil05, NdBag, FnPlace, FnAll, WkPlain, WkMarks, PtKeep, PtEnough, PtMake, PtLists, PtBuilt, PtGrow, PtGrown, PtPut, RmSame, CntWrite, CntRefW, StoZero, RmAlive, RmLaw, FnLeaf, RmRefN, FnInner, FnTree, FnOne, WkApp, PuStep, PuItems, DrStack, RmTwin, DrHold, RmRefT, DrMake, DrRefer, DrRefs. Conditions: those that each lemma states.
-/
import Derived.Test.YtgmbjnajdfgenaaGreatBnd2
import Derived.Maps.AppendAt
import Derived.RangeFuncBox
import Derived.Sort.QuietIn
import Derived.Sort.CutIn
set_option maxRecDepth 100000
set_option maxHeartbeats 16000000
open Array renaming getElem?_eq_some_iff → Q5, replicate_succ → Pa, replicate_zero → Pb, getElem?_modify → Px
open Bool renaming and_eq_true → Qe, or_eq_true → Qae
open Go renaming World → Qaw, Value → Qax, Addr → Qay, TypeId → Qaz, bodyPost_ret → Qa0, heap_alloc_new → Qa1, Calls → Qa2
open Go.Act renaming put → Qh
open Go.RowKit renaming Below → Qa3
open Go.RowKit.Below renaming refl → Qb
open Go.World renaming cell? → Qn, size_alloc → Qs, frozen? → Pv, setCell → Pw, cell?_of_block → Qaq
open List renaming getElem?_eq_getElem → Qc, mem_cons → Qd, mem_cons_of_mem → Qf, mem_cons_self → Qg, mem_filter → Qi, getElem?_eq_some_iff → Qj, mem_flatMap → Qk, mem_singleton → Ql, getElem?_of_mem → Qm, cons_append → Qo, mem_append → Qp, length_cons → Qr, pairwise_cons → Qt, mem_of_getElem? → Qu, flatMap_cons → Qv, mem_reverse → Qw, all_eq_true → Qx, take_append_drop → Qy, mem_of_find?_eq_some → Q0, length_set → Q3, getElem?_drop → Q4, size_toArray → Q6, length_nil → Q7, push_toArray → Pc, append_toArray → Pd, nil_append → Pe, mem_map → Pf, mem_append_right → Pg, map_cons → Ph, pairwise_append → Pi, take_append_getElem → Pj, mem_of_mem_take → Pk, getElem?_eq_none → Pm, mem_of_getLast? → Pn, length_take → Pp, filter_eq_self → Pq, mem_append_left → Pr, exists_cons_of_ne_nil → Ps, flatMap_append → Pt, length_drop → Pu, filter_congr → Py, getLast?_eq_some_getLast → Pz, Pairwise → P1, mem_of_mem_drop → P3, sum_cons → P4, take_succ_cons → P5, take_zero → P7, drop_succ_cons → P8, drop_zero → P9, length_append → Qaa, find?_append → Qab, find?_cons → Qac, ext_getElem → Qad, filter_append → Qaf, filter_eq_nil_iff → Qag, mem_iff_getElem? → Qah, reverse_append → Qai, take_of_length_le → Qaj, eq_nil_of_length_eq_zero → Qak, nodup_cons → Qal, filter_cons_of_pos → Qam, filter_filter → Qan, drop_eq_getElem_cons → Qao, append_nil → Qap, ext_getElem? → Qar, getElem?_map → Qas, length_map → Qat, map_append → Qau, map_nil → Qav
open Nat renaming le_refl → Qa, lt_of_lt_of_le → Qq, le_trans → Qz, reduceAdd → Q8, reduceSub → Q9, lt_or_ge → Po
noncomputable section
namespace Go.Proofs.YtgmbjnajdfgenaaGreat
open Go.ChangeShapes Go.WideShapes Go.RowKit
def Ybn:Rel Rm:=Zjf Z9r (Zjf rBy rBy)
def Sto (ok:Qay->Prop) (w:Qaw) (v:Qax) (s:Rm):Prop:=∃ a b n l,v=.agg #[a,b,n,l]/\Dsk ok w (.agg #[a,b]) s.1/\rBy ok w [n] s.2.1/\rBy ok w [l] s.2.2
section
variable {ok ok' : Qay -> Prop}{w w' : Qaw}{v : Qax}{s : Rm}{lo lo' : Nat}
theorem Sto.map (hk:∀ p v,ok p->w.cell? p=some v->ok' p/\w'.cell? p=some v) (h:Sto ok w v s):Sto ok' w' v s:=by
 obtain⟨a,b,n,l,e,h1,h2,h3⟩:=h;exact⟨a,b,n,l,e,h1.map hk,Zf _ _ _ _ _ _ hk h2,Zf _ _ _ _ _ _ hk h3⟩
theorem Sto.below (h:Sto (Old w) w v s) (hb:Qa3 w.heap.size w w'):Sto (Old w') w' v s :=
 h.map fun _ _ hp hc=>⟨Qq hp hb.size,(hb.cell hp).trans hc⟩
theorem Sto.drop (h:Sto (New lo w) w v s):Sto (Old w) w v s:=h.map fun _ _ hp hc=>⟨hp.2.1,hc⟩
theorem Sto.new (h:Sto (New lo w) w v s) (hl:lo'<=lo) (hb:Qa3 w.heap.size w w'):Sto (New lo' w') w' v s :=
 h.map fun _ _ hp hc=>⟨⟨Qz hl hp.1,Qq hp.2.1 hb.size,(hb.frozen hp.2.1).trans hp.2.2⟩,(hb.cell hp.2.1).trans hc⟩
theorem Sto.grown {row:Option Nat}(h:Sto (New lo w) w v s) (hg:w.grownBy w' row) (hr:∀ q,row=some q->q<lo):Sto (New lo w') w' v s:=by
 obtain⟨a,b,n,l,e,h1,h2,h3⟩:=h;exact⟨a,b,n,l,e,h1.grown hg hr,Zf.grown h2 hg hr,Zf.grown h3 hg hr⟩
theorem Sto.open (h:Sto ok w v s):∃ A ca B cb N cn L cl,v=.agg #[.slice A s.1.1.length ca,.slice B s.1.2.length cb,.slice N s.2.1.length cn,.slice L s.2.2.length cl]/\Dsk ok w (.agg #[.slice A s.1.1.length ca,.slice B s.1.2.length cb]) s.1 /\
  rBy ok w [.slice N s.2.1.length cn] s.2.1/\rBy ok w [.slice L s.2.2.length cl] s.2.2:=by
 obtain⟨a,b,n,l,rfl,h1,h2,h3⟩:=h;obtain⟨A,ca,B,cb,e,_⟩:=h1.open;cases e;obtain⟨N,cn,rfl,_⟩:=Zt h2;obtain⟨L,cl,rfl,_⟩:=Zt h3;exact⟨A,ca,B,cb,N,cn,L,cl,rfl,h1,h2,h3⟩
theorem Sto.parts {a b n l:Qax}(h:Sto ok w (.agg #[a,b,n,l]) s):Dsk ok w (.agg #[a,b]) s.1/\rBy ok w [n] s.2.1/\rBy ok w [l] s.2.2:=by
 obtain⟨_,_,_,_,e,h1,h2,h3⟩:=h;cases e;exact⟨h1,h2,h3⟩
theorem Sto.mk {a b n l:Qax}(h1:Dsk ok w (.agg #[a,b]) s.1) (h2:rBy ok w [n] s.2.1) (h3:rBy ok w [l] s.2.2):Sto ok w (.agg #[a,b,n,l]) s:=⟨a,b,n,l,rfl,h1,h2,h3⟩
end
theorem Yt (ok:Qay->Prop) (w:Qaw):Sto ok w (.agg #[.slice none 0 0,.slice none 0 0,.slice none 0 0,.slice none 0 0]) Zi :=
 ⟨_,_,_,_,rfl,⟨_,_,rfl,⟨none,0,rfl,by simp[Zi,Zcy],by omega,fun i x h=>by simp[Zi,Zcy] at h⟩,⟨none,0,rfl,by simp[Zi,Zcy],by omega,fun i x h=>by simp[Zi,Zcy] at h⟩⟩,
  ⟨none,0,rfl,by simp[Zi],by omega,fun i x h=>by simp[Zi] at h⟩,⟨none,0,rfl,by simp[Zi],by omega,fun i x h=>by simp[Zi] at h⟩⟩
theorem X4 (w:Qaw) (a b c d:Qax) (t:Qaz):∃ w1,w.alloc (.cells #[a,b,c,d] t)=w1/\w1.heap[w.heap.size]? = some (.cells #[a,b,c,d] t (0,0))/\w1.heap.size=w.heap.size+1/\Qa3 w.heap.size w w1 :=
 ⟨_,rfl,Qa1 _ _,by simp,(Qb _ _).alloc (Qa _) _⟩
theorem Ze {W:Qaw}{g:Nat}{a b c d:Qax}{t:Qaz}(h:W.heap[g]? = some (.cells #[a,b,c,d] t (0,0))):W.cell? ⟨g,0,none⟩=some a/\W.cell? ⟨g,1,none⟩=some b/\W.cell? ⟨g,2,none⟩=some c/\W.cell? ⟨g,3,none⟩=some d/\(∀ o,W.frozen? ⟨g,o,none⟩=false)/\g<W.heap.size :=
 ⟨by simp[Qn,h],by simp[Qn,h],by simp[Qn,h],by simp[Qn,h],fun o=>by simp[Pv,h],(Q5.1 h).1⟩
theorem Zu {W:Qaw}{g:Nat}{a b c d a' b' c' d':Qax}{t:Qaz}(h:W.heap[g]? = some (.cells #[a,b,c,d] t (0,0))):∃ W1,(((W.setCell ⟨g,0,none⟩ a').setCell ⟨g,1,none⟩ b').setCell ⟨g,2,none⟩ c').setCell ⟨g,3,none⟩ d'=W1 /\
  W1.heap[g]? = some (.cells #[a',b',c',d'] t (0,0))/\W.grownBy W1 (some g)/\W1.heap.size=W.heap.size :=
 ⟨_,rfl,by simp[Pw,Px,h],Yo (p:=⟨g,3,none⟩) (Yo (p:=⟨g,2,none⟩) (Yo (p:=⟨g,1,none⟩) (Yo (p:=⟨g,0,none⟩) (Y9 W (some g)) rfl a') rfl b') rfl c') rfl d',by simp⟩
def Z4b (g:Nat) (a b c d:Qax):Qaw->Prop:=fun w=>w.cell? ⟨g,0,none⟩=some a/\w.cell? ⟨g,1,none⟩=some b/\w.cell? ⟨g,2,none⟩=some c/\w.cell? ⟨g,3,none⟩=some d/\g<w.heap.size
theorem Vz (g:Nat) (a b c d:Qax):Zfb (Z4b g a b c d):=fun _ _ h hb=>⟨(hb.cell (p:=⟨g,0,none⟩) h.2.2.2.2).trans h.1,(hb.cell (p:=⟨g,1,none⟩) h.2.2.2.2).trans h.2.1,(hb.cell (p:=⟨g,2,none⟩) h.2.2.2.2).trans h.2.2.1,(hb.cell (p:=⟨g,3,none⟩) h.2.2.2.2).trans h.2.2.2.1,Qq h.2.2.2.2 hb.size⟩
theorem Zds {w w1:Qaw}{Fs:List (Qaw->Prop)}(h:Bag w Fs) (hb:Qa3 w.heap.size w w1) (a b c d:Qax) (t:Qaz):∃ w',w1.alloc (.cells #[a,b,c,d] t)=w'/\Bag w' (Z4b w1.heap.size a b c d::Fs)/\Qa3 w.heap.size w w'/\Qa3 w1.heap.size w1 w'/\w1.heap.size<w'.heap.size:=by
 obtain⟨w2,e2,b2,k4,k5⟩:=X4 w1 a b c d t;obtain⟨k0,k1,k2,k3,_,k6⟩:=Ze b2;exact⟨w2,e2,((h.below hb).below k5).add ⟨k0,k1,k2,k3,k6⟩ (Vz _ _ _ _ _),hb.trans (k5.mono hb.size),k5,by omega⟩
def Zth (v:Qax) (s:Rm):Qaw->Prop:=fun w=>Sto (Old w) w v s
theorem Us (v:Qax) (s:Rm):Zfb (Zth v s):=fun _ _ h hb=>h.below hb
theorem Zno:Zdl Tryz.prog 27 rBy:=Zhi Tryz.underlying27 (by kernel_rfl) (Zmd Tryz.underlying5)
theorem Zrk:Zdl Tryz.prog 29 Ybn:=Zgz Tryz.underlying29 (Zce rfl Zum (Zce (by kernel_rfl) Zno (Zko (by kernel_rfl) (by kernel_rfl) Zno)))
theorem Zzi {ok:Qay->Prop}{w:Qaw}{cs:List Qax}{s:Rm}(h:Ybn ok w cs s):∃ a b n l,cs=[a,b,n,l]/\Dsk ok w (.agg #[a,b]) s.1/\rBy ok w [n] s.2.1/\rBy ok w [l] s.2.2:=by
 obtain⟨_,_,rfl,⟨_,_,rfl,h1,h2⟩,_,_,rfl,h3,h4⟩:=h;obtain⟨A,ca,rfl,h1'⟩:=h1;obtain⟨B,cb,rfl,h2'⟩:=h2;obtain⟨N,cn,rfl,h3'⟩:=h3;obtain⟨L,cl,rfl,h4'⟩:=h4;exact⟨_,_,_,_,rfl,⟨_,_,rfl,⟨A,ca,rfl,h1'⟩,⟨B,cb,rfl,h2'⟩⟩,⟨N,cn,rfl,h3'⟩,⟨L,cl,rfl,h4'⟩⟩
theorem Zvw {H:Type}{enc:Qaz×Qax->H}{w:Qaw}{b0:Nat}{spare:Nat->Bool}{held:Bool}{r:Reach}{v:Qax}{x:DataW H}{ps:List MemPlace}(hval:Value.okWide Tryz.prog w r b0 29 v) (hd:DataW.Trod enc Tryz.prog w 0 spare held 29 v x ps) :
  ∃ s,Sto (Old w) w v s:=by
 obtain⟨cs,rfl,_⟩:=okWide_struct Tryz.underlying29 hval;obtain⟨s,hs⟩:=Zsz Zrk hd;obtain⟨a,b,n,l,h1,h2,h3,h4⟩:=Zzi hs;exact⟨s,a,b,n,l,by obtain⟨cs⟩:=cs;simp[Value.cells] at h1;rw[h1],h2,h3,h4⟩
theorem Zh3 (v:Qax) (t:List UInt8) (w:Qaw) (h:rBy (Old w) w [v] t):Qa2 Tryz.prog 122 #[v] w fun e w'=>e=.returned (.int .i64 (Z1u t))/\w=w':=by
 obtain⟨A,c,rfl,l1,m1,hb⟩:=Vd (B:=w.heap.size) (fun _ h=>h) h;exact Zay A t.length c t (Za rfl) l1 m1 w hb
theorem Zmi {w:Qaw}{v:Qax}{s:Rm}(h:Sto (Old w) w v s):∃ A ca B cb N cn L cl w1,v=.agg #[.slice A s.1.1.length ca,.slice B s.1.2.length cb,.slice N s.2.1.length cn,.slice L s.2.2.length cl] /\
  w.alloc (.cells #[.slice A s.1.1.length ca,.slice B s.1.2.length cb,.slice N s.2.1.length cn,.slice L s.2.2.length cl] 29)=w1/\w1.heap[w.heap.size]? = some (.cells #[.slice A s.1.1.length ca,.slice B s.1.2.length cb,.slice N s.2.1.length cn,.slice L s.2.2.length cl] 29 (0,0))/\w1.heap.size=w.heap.size+1/\Qa3 w.heap.size w w1 /\
  Hid (Dsk (Old w1) w1 (.agg #[.slice A s.1.1.length ca,.slice B s.1.2.length cb]) s.1)/\Hid (rBy (Old w1) w1 [.slice N s.2.1.length cn] s.2.1)/\Hid (rBy (Old w1) w1 [.slice L s.2.2.length cl] s.2.2):=by
 obtain⟨A,ca,B,cb,N,cn,L,cl,rfl,hd,hN,hL⟩:=h.open;obtain⟨w1,hw1,f,hs,hB⟩:=X4 w (.slice A s.1.1.length ca) (.slice B s.1.2.length cb) (.slice N s.2.1.length cn) (.slice L s.2.2.length cl) 29;exact⟨A,ca,B,cb,N,cn,L,cl,w1,rfl,hw1,f,hs,hB,Za (hd.below hB),Za (Zf.old hN hB),Za (Zf.old hL hB)⟩
theorem Xb (v:Qax) (s:Rm) (w:Qaw) (h:Sto (Old w) w v s):Qa2 Tryz.prog 78 #[v] w fun e w'=>e=.returned (.int .i64 (Z2q s))/\Qa3 w.heap.size w w':=by{
 obtain⟨A,ca,B,cb,N,cn,L,cl,w1,rfl,hw1,f,hsz,hB,D,NN,LL⟩:=Zmi h;clear h;obtain⟨k0,k1,k2,k3,_,kg⟩:=Ze f;replace hsz:=Za hsz;cases h1:Zbm s.1 with
 | false =>
  have hr:Hid (Z2q s=8):=Za (Zdt (by simp[Xl,h1]));have e1:=Zem h1
  go_enter Tryz.func78,Tryz.ntmps78
  go_upto_region 1 with fail
  clear hw1
  go_wp2_with fail
  with_reducible refine(Zbv _ s.1 _ D.out).mono ?_
  rintro e w2 ⟨rfl,hb2⟩;rw[e1]
  go_wp2_with fail
  go_ret;exact⟨Zz hr.out.symm,hB.trans (hb2.mono hB.size)⟩
 | true =>
  have e1:=Zxk h1;cases h2:Zbk s.2.1 with
  | false =>
   have hr:Hid (Z2q s=8):=Za (Zdt (by simp[Xl,h2]));have e2:=Zho h2
   go_enter Tryz.func78,Tryz.ntmps78
   go_upto_region 1 with fail
   clear hw1
   go_wp2_with fail
   with_reducible refine(Zbv _ s.1 _ D.out).mono ?_
   rintro e w2 ⟨rfl,hb2⟩;rw[e1];replace k2:=(hb2.cell (p:=⟨w.heap.size,2,none⟩) kg).trans k2;have N2:=Za (Zf.old NN.out hb2);replace hb2:=Za (hB.trans (hb2.mono hB.size))
   go_wp2_with fail
   with_reducible refine(Zh3 _ s.2.1 _ N2.out).mono ?_
   rintro e w3 ⟨rfl,rfl⟩;rw[e2]
   go_wp2_with fail
   go_ret;exact⟨Zz hr.out.symm,hb2.out⟩
  | true =>
   have e2:=Zip h2;obtain⟨q,hq,hr⟩:∃ q,Z1u s.2.2=q/\Hid (Z2q s=q):=⟨_,rfl,Za (by simp[Z2q,Z1u,Xl,h1,h2])⟩
   obtain⟨p,hp1,hp2⟩:∃ p,(q != 0)=p/\(p=true->q=8)/\(p=false->q=0):=⟨_,rfl,by
    rw[<- hq];unfold Z1u
    split <;> simp⟩
   go_enter Tryz.func78,Tryz.ntmps78
   go_upto_region 1 with fail
   clear hw1
   go_wp2_with fail
   with_reducible refine(Zbv _ s.1 _ D.out).mono ?_
   rintro e w2 ⟨rfl,hb2⟩;rw[e1];replace k2:=(hb2.cell (p:=⟨w.heap.size,2,none⟩) kg).trans k2;replace k3:=(hb2.cell (p:=⟨w.heap.size,3,none⟩) kg).trans k3;have N2:=Za (Zf.old NN.out hb2);have L2:=Za (Zf.old LL.out hb2);replace hb2:=Za (hB.trans (hb2.mono hB.size))
   go_wp2_with fail
   with_reducible refine(Zh3 _ s.2.1 _ N2.out).mono ?_
   rintro e w3 ⟨rfl,rfl⟩;rw[e2]
   go_wp2_with fail
   with_reducible refine(Zh3 _ s.2.2 _ L2.out).mono ?_
   rintro e w3 ⟨rfl,rfl⟩;rw[hq];replace hq:=Za hq;cases p with
   | true =>
    have h8:=Za (hp2.1 rfl);clear hp2
    go_wp2_with fail
    go_ret;exact⟨Zz (by rw[hr.out,h8.out]),hb2.out⟩
   | false =>
    have h0:=Za (hp2.2 rfl);clear hp2
    go_wp2_with fail
    go_ret;exact⟨Zz (by rw[hr.out,h0.out]),hb2.out⟩}
def Zuk (s:Rm):Bool:=Zc7 s.1||decide (10000<s.2.1.length)||decide (10000<s.2.2.length)
theorem Zv6 (v:Qax) (s:Rm) (w:Qaw) (h:Sto (Old w) w v s):Qa2 Tryz.prog 14 #[v] w fun e w'=>e=.returned (.bool (Zuk s))/\Qa3 w.heap.size w w':=by{
 obtain⟨A,ca,B,cb,N,cn,L,cl,w1,rfl,hw1,f,hsz,hB,D,_,_⟩:=Zmi h;clear h;obtain⟨k0,k1,k2,k3,_,kg⟩:=Ze f;replace hsz:=Za hsz;obtain⟨n,hn⟩:∃ n,s.2.1.length=n:=⟨_,rfl⟩
 obtain⟨l,hl⟩:∃ l,s.2.2.length=l:=⟨_,rfl⟩
 have hr:Hid (Zuk s=(Zc7 s.1||decide ((10000:Int)<n)||decide ((10000:Int)<l))):=Za (by
  unfold Zuk
  rw[hn,hl,show decide (10000<n)=decide ((10000:Int)<n) from decide_eq_decide.2 (by omega),show decide (10000<l)=decide ((10000:Int)<l) from decide_eq_decide.2 (by omega)])
 rw[hn] at k2;rw[hn,hl] at hw1 ⊢;rw[hl] at k3;clear hn hl;obtain⟨g,hg⟩:∃ g,Zc7 s.1=g:=⟨_,rfl⟩
 rw[hg] at hr
 go_enter Tryz.func14,Tryz.ntmps14
 go_upto_region 1 with fail
 clear hw1
 go_wp2_with fail
 with_reducible refine(Zy1 _ s.1 _ D.out).mono ?_
 rintro e w2 ⟨rfl,hb2⟩;rw[hg];replace k2:=(hb2.cell (p:=⟨w.heap.size,2,none⟩) kg).trans k2;replace k3:=(hb2.cell (p:=⟨w.heap.size,3,none⟩) kg).trans k3;replace hb2:=Za (hB.trans (hb2.mono hB.size));replace hg:=Za hg;cases g with
 | true =>
  go_wp2_with fail
  go_ret;exact⟨Xd (by rw[hr.out];rfl),hb2.out⟩
 | false =>
  by_cases hn:(10000:Int)<n
  ·go_wp2_with fail
   go_ret;exact⟨Xd (by rw[hr.out];simp[hn]),hb2.out⟩
  ·by_cases hl:(10000:Int)<l
   ·go_wp2_with fail
    go_ret;exact⟨Xd (by rw[hr.out];simp[hl]),hb2.out⟩
   ·go_wp2_with fail
    go_ret;exact⟨Xd (by rw[hr.out];simp),hb2.out⟩}
theorem Zgw (n:Int) (w:Qaw):Qa2 Tryz.prog 110 #[.int .i64 n] w fun e w'=>e=.returned (.bool (inT n))/\w=w':=by{
 rcases Z70 n with ⟨h,hr⟩ | ⟨h,h2,hr⟩ | ⟨h,h2,hr⟩
 all_goals
  replace hr:=Za hr
  go_enter Tryz.func110,Tryz.ntmps110
  go_wp2_with fail
  go_ret;exact⟨Xd (by first | exact hr.out.symm | (rw[hr.out];simp;omega)),rfl⟩}
theorem V7 (v:Qax) (s:Rm) (n:Int) (w:Qaw) (h:Sto (Old w) w v s):Qa2 Tryz.prog 66 #[v,.int .i64 n] w fun e w'=>e=.returned (.int .i64 (asE s n))/\Qa3 w.heap.size w w':=by{
 have H0:=Za h;obtain⟨A,ca,B,cb,N,cn,L,cl,w1,rfl,hw1,f,hsz,hB,_,NN,_⟩:=Zmi h;have H:=Za (h.below hB);clear h H0;obtain⟨k0,k1,k2,k3,_,kg⟩:=Ze f;replace hsz:=Za hsz;rcases Zih s n with ⟨hm,he⟩ | ⟨hm,hn,he⟩ | ⟨k,hm,rfl,h8,h256,hx,he⟩ | ⟨k,hm,rfl,h8,h256,hx,he⟩
 ·replace he:=Za he
  have e1:=Zdt hm
  go_enter Tryz.func66,Tryz.ntmps66
  go_upto_region 1 with fail
  clear hw1
  go_wp2_with fail
  with_reducible refine(Xb _ s _ H.out).mono ?_
  rintro e w2 ⟨rfl,hb2⟩;rw[e1];replace hb2:=Za (hB.trans (hb2.mono hB.size))
  go_wp2_with fail
  go_ret;exact⟨Zz he.out.symm,hb2.out⟩
 ·replace he:=Za he
  have e1:=Zct hm;have hi:inT n=false:=by
   cases hi:inT n with
   | false=>rfl
   | true=>obtain⟨k,rfl,h8,h256⟩:=Zm2 hi;omega
  go_enter Tryz.func66,Tryz.ntmps66
  go_upto_region 1 with fail
  clear hw1
  go_wp2_with fail
  with_reducible refine(Xb _ s _ H.out).mono ?_
  rintro e w2 ⟨rfl,hb2⟩;rw[e1];replace hb2:=Za (hB.trans (hb2.mono hB.size))
  go_wp2_with fail
  with_reducible refine(Zgw n _).mono ?_
  rintro e w3 ⟨rfl,rfl⟩;rw[hi]
  go_wp2_with fail
  go_ret;exact⟨Zz he.out.symm,hb2.out⟩
 all_goals
  replace he:=Za he;have e1:=Zct hm;have hi:=Znj h8 h256;have hlen:=Yv (Yf hm).2.1;obtain⟨A',c',e2,l1,m1,hby⟩:=Vd (B:=w1.heap.size) (fun _ h=>h) NN.out;cases e2;obtain⟨ad,rfl,hbk,hc⟩:=hby (by omega)
  have hcell:=hc k (by omega);replace hbk:(ad.add k).block<w1.heap.size:=by rw[Zh];exact hbk
  obtain⟨x,hx2⟩:∃ x,s.2.1[k]?.getD 0=x:=⟨_,rfl⟩
  rw[hx2] at hcell hx;have hlt:k<s.2.1.length:=by omega
  first
   | have t0:=Vc (y:=0) (q:=0) rfl hx
   | have t0:=Xs (y:=0) (q:=0) rfl hx
  replace hx2:=Za hx2;replace hx:=Za hx;replace hlen:=Za hlen;clear hc hby
  go_enter Tryz.func66,Tryz.ntmps66
  go_upto_region 1 with fail
  clear hw1
  go_wp2_with fail
  with_reducible refine(Xb _ s _ H.out).mono ?_
  rintro e w2 ⟨rfl,hb2⟩;rw[e1];replace k2:=(hb2.cell (p:=⟨w.heap.size,2,none⟩) kg).trans k2;replace hcell:=(hb2.cell hbk).trans hcell;replace hb2:=Za (hB.trans (hb2.mono hB.size))
  go_wp2_with fail
  with_reducible refine(Zgw (k:Int) _).mono ?_
  rintro e w3 ⟨rfl,rfl⟩;rw[hi]
  go_wp2_with fail
  go_ret;exact⟨Zz he.out.symm,hb2.out⟩}
end Go.Proofs.YtgmbjnajdfgenaaGreat
namespace Go.Proofs.YtgmbjnajdfgenaaGreat
open Go.RowKit Go.Shelf
attribute [local go_sem] Oper.semAt_some
theorem Zwn (s:Rm) (k j:Nat):∃ r,Zbt s (k+j)=Zbt s k++r:=by{
 induction j with
 | zero=>exact⟨[],by simp⟩
 | succ j ih =>
  obtain⟨r,hr⟩:=ih;exact⟨r++(if U7 s (8+(k+j)) then [8+(k+j)] else []),by rw[<- Nat.add_assoc,Zf3,hr,List.append_assoc]⟩}
theorem Zou {s:Rm}{k:Nat}(h:U7 s (8+k)=true):Zbt s (k+1)=Zbt s k++[8+k]:=by rw[Zf3,h];rfl
theorem Ztn {s:Rm}{k:Nat}(h:U7 s (8+k)=false):Zbt s (k+1)=Zbt s k:=by rw[Zf3,h];simp
theorem Z19 {s:Rm}{k:Nat}(hk:k<248) (h:U7 s (8+k)=true):∃ r,Xy s=Zbt s k++(8+k)::r:=by
 obtain⟨r,hr⟩:=Zwn s (k+1) (247-k);refine⟨r,?_⟩;rw[Xy,show 248=k+1+(247-k) by omega,hr,Zou h];simp
theorem Zvc {s:Rm}{i:Nat}(h:s.2.1[i]?.getD 0≠0):U7 s i=false:=by simp[U7,h]
theorem Zvj {s:Rm}{i:Nat}(h:s.2.2[i]?.getD 0≠0):U7 s i=false:=by simp[U7,h]
theorem Zwe {s:Rm}{i:Nat}(h:s.2.1[i]?.getD 0=0) (h':s.2.2[i]?.getD 0=0):U7 s i=true:=by simp[U7,h,h']
theorem Z2a (F:Fence) (n:Nat) (hf:F.fn 179) (hro:F.round=none) (hn:1<=n) (l Bs n₀:Nat) (s:Rm) (ad bd:Qay) (cn cl:Nat) (_cn1:256<=cn) (_cl1:256<=cl) (hBn:Bs<n₀) (hab:ad.block<n₀) (hbb:bd.block<n₀) (J Jx:List Nat->Qaw->Prop)
  (hY:∀ (pre:List Nat) (x:Nat) (W1:Qaw),J pre W1->pre.length<248->YieldAt F (n-1) Tryz.prog l #[.int .i64 (x:Int)] W1 fun e W' =>
   (e=.returned (.bool true)/\J (pre++[x]) W'/\Qa3 n₀ W1 W')\/(e=.returned (.bool false)/\Jx (pre++[x]) W'))
  (W:Qaw) (hb2:W.cell? ⟨Bs,2,none⟩=some (.slice (some ad) 256 cn)) (hb3:W.cell? ⟨Bs,3,none⟩=some (.slice (some bd) 256 cl))
  (hc:∀ j,j<256->W.cell? (ad.add j)=some (.int .u8 ((s.2.1[j]?.getD 0).toNat:Int))/\W.cell? (bd.add j)=some (.int .u8 ((s.2.2[j]?.getD 0).toNat:Int))) (h0:J [] W) :
  CallsIn F n Tryz.prog 179 #[.func (.yield l) #[] #[],.pointer (some ⟨Bs,0,none⟩)] W fun e W'=>(∃ v,e=.returned v) /\
   ((∃ ys,ys=Xy s/\J ys W')\/(∃ pre,(∃ k,k<248/\U7 s (8+k)=true/\pre=Zbt s k++[8+k])/\Jx pre W')):=by{
 refine callsIn_of_wp Tryz.func179 rfl hf ?_ hro;simp only[Tryz.ntmps179,Q6,Qr,Q7,Q8,Q9,Pa,Pb,Pc,Pd,Pe,Qo];have HC:=Za hc;clear hc
 gi_wp2
 gi_loopw [3] (fun i wr=>∃ k:Nat,k<=248/\i=.int .i64 ((8+k:Nat):Int)/\J (Zbt s k) wr/\Qa3 n₀ W wr) (fun i _=>(256-intOf i).toNat)
 case atStart=>exact⟨0,Nat.zero_le _,by simp,h0,Qb _ _⟩
 case round =>
  obtain⟨k,hk,rfl,hJs,hnx⟩:=hrel;have b2:=(hnx.cell (p:=⟨Bs,2,none⟩) hBn).trans hb2;have b3:=(hnx.cell (p:=⟨Bs,3,none⟩) hBn).trans hb3;by_cases hlt:k<248
  ·have hx:=HC.out (8+k) (by omega)
   have c1:=(hnx.cell (p:=ad.add (8+k)) (by rw[Zh];exact hab)).trans hx.1;have c2:=(hnx.cell (p:=bd.add (8+k)) (by rw[Zh];exact hbb)).trans hx.2;clear hx;have hlen:=Zxx s k;have hi:8+k<256:=by omega
   have hno1:=Za (fun h=>Ztn (Zvc (s:=s) (i:=8+k) h));have hno2:=Za (fun h=>Ztn (Zvj (s:=s) (i:=8+k) h));have hyes:=Za (fun h h'=>Zwe (s:=s) (i:=8+k) h h');obtain⟨x,hx⟩:∃ x,s.2.1[8+k]?.getD 0=x:=⟨_,rfl⟩
   obtain⟨y,hy⟩:∃ y,s.2.2[8+k]?.getD 0=y:=⟨_,rfl⟩
   rw[hx] at c1 hno1 hyes;rw[hy] at c2 hno2 hyes;replace hx:=Za hx;replace hy:=Za hy;obtain⟨i,hi2⟩:∃ i,8+k=i:=⟨_,rfl⟩
   have hi3:Hid (8+k=i):=Za hi2;rw[hi2] at c1 c2 hi hyes ⊢;clear hi2;by_cases h0:x=0
   ·by_cases h1:y=0
    ·have t0:=Vc (y:=0) (q:=0) rfl h0
     have t1:=Vc (y:=0) (q:=0) rfl h1;have hfr:=Za (hyes.out h0 h1);have hfk:=Za (Zou (s:=s) (k:=k) (by rw[hi3.out];exact hfr.out));replace h0:=Za h0;replace h1:=Za h1;obtain⟨fn,tmps,assign,body,hyy,hR⟩:=hY _ i wr hJs (by omega)
     try dsimp only at hyy
     gi_wp2
     refine hR.mono ?_;rintro e W3 (⟨rfl,hJ3,hk3⟩ | ⟨rfl,hJx3⟩)
     ·gi_wp2
      go_roundw
      case rel=>exact⟨k+1,by omega,by have:=hi3.out;go_num,by rw[hfk.out,hi3.out];exact hJ3,hnx.trans hk3⟩
      case measure=>simp[intOf];omega
     ·gi_wp2
      refine Qa0 (results_none rfl _ _ _) rfl ?_;exact⟨⟨_,rfl⟩,.inr ⟨_,⟨k,hlt,by rw[hi3.out];exact hfr.out,rfl⟩,by rw[hi3.out];exact hJx3⟩⟩
    ·have t0:=Vc (y:=0) (q:=0) rfl h0
     have t1:=Xs (y:=0) (q:=0) rfl h1;have hfk:=Za (hno2.out h1);replace h0:=Za h0;replace h1:=Za h1
     gi_wp2
     try (refine⟨fun _ h=>(by cases h),?_⟩;gi_wp2)
     go_roundw
     case rel=>exact⟨k+1,by omega,by have:=hi3.out;go_num,by rw[hfk.out];exact hJs,hnx⟩
     case measure=>simp[intOf];omega
   ·have t0:=Xs (y:=0) (q:=0) rfl h0
    have hfk:=Za (hno1.out h0);replace h0:=Za h0
    gi_wp2
    try (refine⟨fun _ h=>(by cases h),?_⟩;gi_wp2)
    go_roundw
    case rel=>exact⟨k+1,by omega,by have:=hi3.out;go_num,by rw[hfk.out];exact hJs,hnx⟩
    case measure=>simp[intOf];omega
  ·obtain rfl:k=248:=by omega
   gi_wp2
   go_end0
   exact⟨⟨_,rfl⟩,.inl ⟨_,rfl,hJs⟩⟩}
theorem Z13 (F:Fence) (n:Nat) (hf:F.fn 158) (hro:F.round=none) (a b c d:Qax) (w:Qaw) :
  CallsIn F n Tryz.prog 158 #[.agg #[a,b,c,d]] w fun e w'=>e=.returned (.func (.func 179) #[] #[.pointer (some ⟨w.heap.size,0,none⟩)])/\w'=w.alloc (.cells #[a,b,c,d] 29):=by
 refine callsIn_of_wp Tryz.func158 rfl hf ?_ hro;simp only[Tryz.ntmps158,Q6,Qr,Q7,Q8,Q9,Pa,Pb,Pc,Pd,Pe,Qo]
 gi_wp2
 go_ret;exact⟨rfl,rfl⟩
theorem Zqd (F:Fence) (n:Nat) (hf:F.fn 179) (hro:F.round=none) (hn:1<=n) (Bs n₀:Nat) (s:Rm) (ad bd:Qay) (cn cl:Nat) (cn1:256<=cn) (cl1:256<=cl) (hBn:Bs<n₀) (hab:ad.block<n₀) (hbb:bd.block<n₀)
  (w:Qaw) (hn₀:n₀<=w.heap.size) (hb2:w.cell? ⟨Bs,2,none⟩=some (.slice (some ad) 256 cn)) (hb3:w.cell? ⟨Bs,3,none⟩=some (.slice (some bd) 256 cl))
  (hc:∀ j,j<256->w.cell? (ad.add j)=some (.int .u8 ((s.2.1[j]?.getD 0).toNat:Int))/\w.cell? (bd.add j)=some (.int .u8 ((s.2.2[j]?.getD 0).toNat:Int))) :
  SeqStopsK F n Tryz.prog 179 #[.pointer (some ⟨Bs,0,none⟩)] (fun x:Nat=>#[Value.int .i64 (x:Int)]) (Qa3 n₀) (fun ys=>ys=Xy s) (fun pre=>∃ k,k<248/\U7 s (8+k)=true/\pre=Zbt s k++[8+k]) 248 w:=fun l J Jx W hW _ _ hY h0 =>
 Z2a F n hf hro hn l Bs n₀ s ad bd cn cl cn1 cl1 hBn hab hbb J Jx hY W ((hW.cell (p:=⟨Bs,2,none⟩) (by show Bs<_;omega)).trans hb2) ((hW.cell (p:=⟨Bs,3,none⟩) (by show Bs<_;omega)).trans hb3)
  (fun j hj=>⟨(hW.cell (p:=ad.add j) (by rw[Zh];omega)).trans (hc j hj).1,(hW.cell (p:=bd.add j) (by rw[Zh];omega)).trans (hc j hj).2⟩) h0
theorem Zox {w:Qaw}{s:Rm}{N L:Option Qay}{cn cl:Nat}(hm:Xl s=true) (hN:rBy (Old w) w [.slice N s.2.1.length cn] s.2.1) (hL:rBy (Old w) w [.slice L s.2.2.length cl] s.2.2) :
  ∃ ad bd,N=some ad/\L=some bd/\s.2.1.length=256/\s.2.2.length=256/\256<=cn/\256<=cl/\ad.block<w.heap.size/\bd.block<w.heap.size/\(∀ j,j<256->w.cell? (ad.add j)=some (.int .u8 ((s.2.1[j]?.getD 0).toNat:Int))/\w.cell? (bd.add j)=some (.int .u8 ((s.2.2[j]?.getD 0).toNat:Int))):=by
 have hl1:=Yv (Yf hm).2.1;have hl2:=Yv (Yf hm).2.2;obtain⟨N',cn',e1,l1,_,hb1⟩:=Vd (B:=w.heap.size) (fun _ h=>h) hN;obtain⟨L',cl',e2,l2,_,hb2⟩:=Vd (B:=w.heap.size) (fun _ h=>h) hL;cases e1;cases e2;obtain⟨ad,rfl,h1,h2⟩:=hb1 (by omega);obtain⟨bd,rfl,h3,h4⟩:=hb2 (by omega);exact⟨ad,bd,rfl,rfl,hl1,hl2,by omega,by omega,h1,h3,fun j hj=>⟨h2 j (by omega),h4 j (by omega)⟩⟩
theorem Zyb (F:Fence) (n:Nat) (h3:F.fn 125) (h5:F.fn 158) (h7:F.fn 179) (hro:F.round=none) (hn:3<=n)
  (v:Qax) (s:Rm) (hm:Xl s=true) (w:Qaw) (h:Sto (Old w) w v s) :
  CallsIn F n Tryz.prog 125 #[v] w fun e W'=>e=.returned (.tuple #[.int .i64 (tkK s:Int),.bool (!(Xy s).isEmpty)])/\Qa3 w.heap.size w W':=by{
 have h1:1<=n:=by omega
 obtain⟨A,ca,B,cb,N,cn,L,cl,rfl,hd,hN,hL⟩:=h.open;obtain⟨ad,bd,rfl,rfl,hl1,hl2,l1,l2,had,hbd,hc⟩:=Zox hm hN hL;rw[hl1,hl2];clear hd hN hL h;obtain⟨n1,hn1⟩:∃ n1,s.1.1.length=n1:=⟨_,rfl⟩
 obtain⟨n2,hn2⟩:∃ n2,s.1.2.length=n2:=⟨_,rfl⟩
 rw[hn1,hn2];clear hn1 hn2;replace hl1:=Za hl1;replace hl2:=Za hl2;replace hc:=Za hc;refine callsIn_of_wp_marks Tryz.func125 rfl h3 ?_ hro;simp only[Tryz.ntmps125,Q6,Qr,Q7,Q8,Q9,Pa,Pb,Pc,Pd,Pe,Qo]
 gi_wp2_with (gi_at_call 158;refine(Z13 F (n-1) h5 hro _ _ _ _ _).mono ?_;rintro e w' ⟨rfl,rfl⟩)
 obtain⟨W0,hW0,hB0,hs0,b1,b1f,b2,b2f,k2,k3⟩:∃ W0,(((w.alloc (.cells #[.slice A n1 ca,.slice B n2 cb,.slice (some ad) 256 cn,.slice (some bd) 256 cl] 29)).alloc (.cells #[.int .i64 0] 3)).alloc (.cells #[.bool false] 4)).alloc (.cells #[.slice A n1 ca,.slice B n2 cb,.slice (some ad) 256 cn,.slice (some bd) 256 cl] 29)=W0/\Qa3 w.heap.size w W0/\W0.heap.size=w.heap.size+4 /\
   W0.cell? ⟨w.heap.size+1,0,none⟩=some (.int .i64 0)/\W0.frozen? ⟨w.heap.size+1,0,none⟩=false/\W0.cell? ⟨w.heap.size+1+1,0,none⟩=some (.bool false)/\W0.frozen? ⟨w.heap.size+1+1,0,none⟩=false/\W0.cell? ⟨w.heap.size+1+1+1,2,none⟩=some (.slice (some ad) 256 cn)/\W0.cell? ⟨w.heap.size+1+1+1,3,none⟩=some (.slice (some bd) 256 cl) :=
  ⟨_,rfl,((((Qb _ w).alloc (Qa _) _).alloc (by simp) _).alloc (by simp;omega) _).alloc (by simp;omega) _,by simp,by go_simp,by go_simp,by go_simp,by go_simp,by go_simp,by go_simp⟩
 rw[hW0];clear hW0;have hlo:w.heap.size<=W0.heap.size:=hB0.size;refine wpIn_rangeFunc_ownF hro h1 (gf:=179) (lb:=#[.pointer (some ⟨w.heap.size+1+1+1,0,none⟩)]) rfl h7 (enters_of Tryz.func179 (by kernel_rfl) rfl)
  (Zqd F (n-1) h7 hro (by omega) (w.heap.size+1+1+1) W0.heap.size s ad bd cn cl l1 l2 (by omega) (by omega) (by omega) W0 (Qa _) k2 k3 (fun j hj=>⟨(hB0.cell (p:=ad.add j) (by rw[Zh];exact had)).trans (hc.out j hj).1,(hB0.cell (p:=bd.add j) (by rw[Zh];exact hbd)).trans (hc.out j hj).2⟩))
  (fun h h'=>h.trans h') (fun W l o o' hl h1 h2 h3=>belowK_b (w:=W0) (Qa _) W l o o' hl h1 h2 h3) (Qb _ _) (fun _=>rfl)
  (fun pre W=>(pre=[]/\W.cell? ⟨w.heap.size+1,0,none⟩=some (.int .i64 0)/\W.frozen? ⟨w.heap.size+1,0,none⟩=false/\W.cell? ⟨w.heap.size+1+1,0,none⟩=some (.bool false)/\W.frozen? ⟨w.heap.size+1+1,0,none⟩=false)/\Qa3 w.heap.size w W)
  (fun cd pre W=>(cd=.ret/\∃ x:Nat,pre=[x]/\W.cell? ⟨w.heap.size+1,0,none⟩=some (.int .i64 (x:Int))/\W.cell? ⟨w.heap.size+1+1,0,none⟩=some (.bool true))/\Qa3 w.heap.size w W)
  (OwnFrom.and (Own.from (fun s A B row hs hg hr=>⟨hs.1,cell_kept hs.2.1 hg hr,(frozen_kept hs.2.1 hg hr).trans hs.2.2.1,cell_kept hs.2.2.2.1 hg hr,(frozen_kept hs.2.2.2.1 hg hr).trans hs.2.2.2.2⟩) _) (ownFrom_below (Qa _) hlo))
  (fun cd=>OwnFrom.and (Own.from (fun s A B row hs hg hr=>by
   obtain⟨e,x,e2,h1,h2⟩:=hs
   exact⟨e,x,e2,cell_kept h1 hg hr,cell_kept h2 hg hr⟩) _) (ownFrom_below (Qa _) hlo))
  ⟨⟨rfl,b1,b1f,b2,b2f⟩,hB0⟩
  (fun x=>{ tmps:=#[.agg #[.slice A n1 ca,.slice B n2 cb,.slice (some ad) 256 cn,.slice (some bd) 256 cl],.pointer (some ⟨w.heap.size,0,none⟩),.pointer (some ⟨w.heap.size+1,0,none⟩),.pointer (some ⟨w.heap.size+1+1,0,none⟩),.int .i64 (x:Int),.agg #[.slice A n1 ca,.slice B n2 cb,.slice (some ad) 256 cn,.slice (some bd) 256 cl],
   .func (.func 179) #[] #[.pointer (some ⟨w.heap.size+1+1+1,0,none⟩)],.int .i64 (x:Int),undef],defers:=[] }) ?assign ?body ?done ?stop
 case assign =>
  intro l x W K hK
  gi_wp2
  exact hK
 case body =>
  rintro l pre x W ⟨⟨rfl,c1,f1,c2,f2⟩,hb⟩ _
  gi_wp2
  refine⟨(KeepsOthers.setCell _ _ _).trans (KeepsOthers.setCell _ _ _),⟨rfl,x,rfl,?_,?_⟩,(hb.setCell (p:=⟨w.heap.size+1,0,none⟩) (by simp) _).setCell (p:=⟨w.heap.size+1+1,0,none⟩) (by simp;omega) _⟩
  ·go_simp
  ·go_simp
 case done =>
  rintro D zs W hD rfl ⟨⟨hz,c1,f1,c2,f2⟩,hb⟩ hK;have hk0:Hid (tkK s=0):=Za (by simp[tkK,hz]);have hemp:Hid ((Xy s).isEmpty=true):=Za (by rw[hz];rfl);clear hz;obtain⟨W2,hW2,d1,d2,hb2,hK2⟩:∃ W2,(W.setCell ⟨w.heap.size+1,0,none⟩ (.int .i64 0)).setCell ⟨w.heap.size+1+1,0,none⟩ (.bool false)=W2/\W2.cell? ⟨w.heap.size+1,0,none⟩=some (.int .i64 0)/\W2.cell? ⟨w.heap.size+1+1,0,none⟩=some (.bool false)/\Qa3 w.heap.size w W2/\W2.heap[D]? = some (.deferred (some [])) :=
   ⟨_,rfl,by go_simp,by go_simp,(hb.setCell (p:=⟨w.heap.size+1,0,none⟩) (by simp) _).setCell (p:=⟨w.heap.size+1+1,0,none⟩) (by simp;omega) _,((KeepsOthers.setCell W ⟨w.heap.size+1,0,none⟩ (.int .i64 0)).trans (KeepsOthers.setCell _ ⟨w.heap.size+1+1,0,none⟩ (.bool false))).same D _ hK rfl⟩
  gi_wp2
  try rw[hW2]
  refine⟨by simp,.inl ⟨_,_,rfl,run_takeDeferred hK2,?_⟩⟩;have hro':∀ r,some D=some r->∃ o:Obj,W2.heap[r]? = some o/\o.isCells=false:=fun r e=>by cases e;exact⟨_,hK2,rfl⟩
  have c1':=cell_kept d1 (grownBy_putObj' _ D (.deferred none)) hro';have c2':=cell_kept d2 (grownBy_putObj' _ D (.deferred none)) hro';refine⟨.tuple #[.int .i64 0,.bool false],?_,by rw[hk0.out,hemp.out];rfl,hb2.trans (belowK_b hlo _ D _ _ hD hK2 rfl rfl)⟩;simp[results,Tryz.f125,go_sem,c1',c2']
 case stop =>
  rintro D cd pre W hD ⟨k,hk,hfr,hpk⟩ ⟨⟨rfl,x,rfl,c1,c2⟩,hb⟩ hK;obtain⟨r,hr⟩:=Z19 hk hfr;have e2:Zbt s k=[]/\8+k=x:=by
   cases hq:Zbt s k with
   | nil=>rw[hq] at hpk;simp at hpk;exact⟨rfl,hpk.symm⟩
   | cons y q=>rw[hq] at hpk;simp at hpk
  rw[e2.1,e2.2] at hr;have hk0:Hid (tkK s=x):=Za (by simp[tkK,hr]);have hemp:Hid ((Xy s).isEmpty=false):=Za (by rw[hr];rfl);clear hr e2 hpk
  gi_wp2
  refine⟨by simp,.inl ⟨_,_,rfl,run_takeDeferred hK,?_⟩⟩;have hro':∀ r,some D=some r->∃ o:Obj,W.heap[r]? = some o/\o.isCells=false:=fun r e=>by cases e;exact⟨_,hK,rfl⟩
  have c1':=cell_kept c1 (grownBy_putObj' _ D (.deferred none)) hro';have c2':=cell_kept c2 (grownBy_putObj' _ D (.deferred none)) hro';refine⟨.tuple #[.int .i64 (x:Int),.bool true],?_,by rw[hk0.out,hemp.out];rfl,hb.trans (belowK_b hlo _ D _ _ hD hK rfl rfl)⟩;simp[results,Tryz.f125,go_sem,c1',c2']}
theorem Zgs (v:Qax) (s:Rm) (hm:Xl s=true) (w:Qaw) (h:Sto (Old w) w v s) :
  Qa2 Tryz.prog 125 #[v] w fun e W'=>e=.returned (.tuple #[.int .i64 (tkK s:Int),.bool (!(Xy s).isEmpty)])/\Qa3 w.heap.size w W' :=
 callsIn_wide.1 (Zyb Fence.wide 3 trivial trivial trivial rfl (Qa _) v s hm w h)
theorem Zft {w:Qaw}{v:Qax}{s:Rm}(h:Sto (Old w) w v s):∃ A ca B cb N cn L cl w1,v=.agg #[.slice A s.1.1.length ca,.slice B s.1.2.length cb,.slice N s.2.1.length cn,.slice L s.2.2.length cl] /\
  (w.alloc (.cells #[.slice A s.1.1.length ca,.slice B s.1.2.length cb,.slice N s.2.1.length cn,.slice L s.2.2.length cl] 29)).alloc (.cells #[.slice none 0 0,.slice none 0 0,.slice none 0 0,.slice none 0 0] 29)=w1 /\
  w1.heap[w.heap.size]? = some (.cells #[.slice A s.1.1.length ca,.slice B s.1.2.length cb,.slice N s.2.1.length cn,.slice L s.2.2.length cl] 29 (0,0))/\w1.heap[w.heap.size+1]? = some (.cells #[.slice none 0 0,.slice none 0 0,.slice none 0 0,.slice none 0 0] 29 (0,0))/\w1.heap.size=w.heap.size+2/\Qa3 w.heap.size w w1 /\
  Hid (Sto (Old w1) w1 (.agg #[.slice A s.1.1.length ca,.slice B s.1.2.length cb,.slice N s.2.1.length cn,.slice L s.2.2.length cl]) s):=by
 obtain⟨A,ca,B,cb,N,cn,L,cl,rfl,_,_,_⟩:=h.open;have hb:Qa3 w.heap.size w ((w.alloc (.cells #[.slice A s.1.1.length ca,.slice B s.1.2.length cb,.slice N s.2.1.length cn,.slice L s.2.2.length cl] 29)).alloc (.cells #[.slice none 0 0,.slice none 0 0,.slice none 0 0,.slice none 0 0] 29)):=((Qb _ w).alloc (Qa _) _).alloc (by simp) _;refine⟨A,ca,B,cb,N,cn,L,cl,_,rfl,rfl,Y2 (Qa1 _ _),?_,by simp,hb,Za (h.below hb)⟩;have:=Qa1 (w.alloc (.cells #[.slice A s.1.1.length ca,.slice B s.1.2.length cb,.slice N s.2.1.length cn,.slice L s.2.2.length cl] 29)) (.cells #[.slice none 0 0,.slice none 0 0,.slice none 0 0,.slice none 0 0] 29)
 rwa [Qs] at this
theorem Ztf {s:Rm}{b:List UInt8}(hm:Xl s=true) (hb:b.length=128) (hl:Xy s≠[]):(8<=tkK s/\tkK s<256/\s.2.1[tkK s]?.getD 0=0/\Znc s.1 (tkK s:Int) b=(if 4096<=s.1.2.length then 9 else 0)):=by{
 cases hf:Xy s with
 | nil=>exact absurd hf hl
 | cons k m =>
  obtain⟨h1,h2,h3,h4⟩:=Z0l (s:=s) (i:=k) (by rw[hf];exact Qg);have hk:tkK s=k:=by simp[tkK,hf]
  rw[hk];refine⟨h1,h2,h3,?_⟩;have hmd:=(Yf hm).1;have h5:=(Zgx hmd).2.1;have h6:Vb (k:Int)=true:=Zfp h2;by_cases h7:4096<=s.1.2.length
  ·have h8:s.1.2.length=4096:=by omega
   simp[Znc,hmd,h6,hb,h8]
  ·have h8:s.1.2.length≠4096:=by omega
   simp[Znc,hmd,h6,hb,h8,h7]}
theorem Zwr (v u:Qax) (s:Rm) (b:List UInt8) (w:Qaw) (h:Sto (Old w) w v s) (hu:rBy (Old w) w [u] b) :
  Qa2 Tryz.prog 82 #[v,u] w fun e w'=>∃ t,e=.returned (.tuple #[t,.int .i64 (tkN s b),.int .i64 (tkE s b)])/\Sto (New w.heap.size w') w' t (tkV s b)/\Qa3 w.heap.size w w':=by{
 obtain⟨A,ca,B,cb,N,cn,L,cl,w1,rfl,hw1,f1,f2,hsz,hB,H⟩:=Zft h;obtain⟨E,ce,rfl,_⟩:=id (Zt hu);have U:=Za (Zf.old hu hB);clear h hu;obtain⟨k0,k1,k2,k3,_,kg⟩:=Ze f1;replace hsz:=Za hsz;rcases Z8m s b with ⟨hm,hE⟩ | ⟨hm,hlb,hE⟩ | ⟨hm,hlb,hfl,hE⟩ | ⟨hm,hlb,hfl,hfw,hE⟩ | ⟨hm,hlb,hfl,hfw,hE⟩
 ·replace hE:=Za hE
  have e1:=Zdt hm;replace f2:=Za f2
  go_enter Tryz.func82,Tryz.ntmps82
  go_upto_region 1 with fail
  clear hw1
  go_wp2_with fail
  with_reducible refine(Xb _ s _ H.out).mono ?_
  rintro e w2 ⟨rfl,hb2⟩;rw[e1];have F2:=(hb2.block (w.heap.size+1) (by rw[hsz.out];omega)).trans f2.out;replace hb2:=Za (hB.trans (hb2.mono hB.size));obtain⟨k0,k1,k2,k3,k4,k5⟩:=Ze F2;obtain⟨W9,hW9,g9,gr9,gs9⟩:=Zu (a':=.slice none 0 0) (b':=.slice none 0 0) (c':=.slice none 0 0) (d':=.slice none 0 0) F2;obtain⟨n0,n1,n2,n3,_,_⟩:=Ze g9;have hB9:=Za ((hb2).out.grown gr9 (hb2).out.size (fun q e=>by cases e;omega));replace g9:=Za g9;replace F2:=Za F2;clear gr9 gs9
  go_wp2_with fail
  refine Qa0 (v:=.tuple #[.agg #[.slice none 0 0,.slice none 0 0,.slice none 0 0,.slice none 0 0],.int .i64 0,.int .i64 8]) (by simp[results,Tryz.results82,go_sem,n0,n1,n2,n3]) rfl ?_;obtain⟨hN,hV⟩:=Zv0 (s:=s) (b:=b) (by rw[hE.out];decide);rw[hN,hV,hE.out];exact⟨_,rfl,Yt _ _,hB9.out⟩
 ·replace hE:=Za hE
  have e1:=Zct hm;have e2:((b.length:Int) != 128)=true:=by simp;omega
  replace f2:=Za f2
  go_enter Tryz.func82,Tryz.ntmps82
  go_upto_region 1 with fail
  clear hw1
  go_wp2_with fail
  with_reducible refine(Xb _ s _ H.out).mono ?_
  rintro e w2 ⟨rfl,hb2⟩;rw[e1];have G2:=(hb2.block w.heap.size kg).trans f1;obtain⟨m0,m1,m2,m3,_,mg⟩:=Ze G2;have F2:=(hb2.block (w.heap.size+1) (by rw[hsz.out];omega)).trans f2.out;have H2:=Za (H.out.below hb2);have U2:=Za (Zf.old U.out hb2);have s2:Hid (w.heap.size+2<=w2.heap.size):=Za (by have:=hb2.size;have:=hsz.out;omega);replace hb2:=Za (hB.trans (hb2.mono hB.size));replace G2:=Za G2;replace F2:=Za F2;clear k0 k1 k2 k3 kg f1 hB;replace F2:=F2.out;obtain⟨k0,k1,k2,k3,k4,k5⟩:=Ze F2;obtain⟨W9,hW9,g9,gr9,gs9⟩:=Zu (a':=.slice none 0 0) (b':=.slice none 0 0) (c':=.slice none 0 0) (d':=.slice none 0 0) F2;obtain⟨n0,n1,n2,n3,_,_⟩:=Ze g9;have hB9:=Za ((hb2).out.grown gr9 (hb2).out.size (fun q e=>by cases e;omega));replace g9:=Za g9;replace F2:=Za F2;clear gr9 gs9
  go_wp2_with fail
  refine Qa0 (v:=.tuple #[.agg #[.slice none 0 0,.slice none 0 0,.slice none 0 0,.slice none 0 0],.int .i64 0,.int .i64 3]) (by simp[results,Tryz.results82,go_sem,n0,n1,n2,n3]) rfl ?_;obtain⟨hN,hV⟩:=Zv0 (s:=s) (b:=b) (by rw[hE.out];decide);rw[hN,hV,hE.out];exact⟨_,rfl,Yt _ _,hB9.out⟩
 ·replace hE:=Za hE
  have e1:=Zct hm;have e2:((b.length:Int) != 128)=false:=by rw[hlb];rfl
  have hemp:(!(Xy s).isEmpty)=false:=by rw[hfl];rfl
  replace f2:=Za f2;replace hlb:=Za hlb;replace hfl:=Za hfl
  go_enter Tryz.func82,Tryz.ntmps82
  go_upto_region 1 with fail
  clear hw1
  go_wp2_with fail
  with_reducible refine(Xb _ s _ H.out).mono ?_
  rintro e w2 ⟨rfl,hb2⟩;rw[e1];have G2:=(hb2.block w.heap.size kg).trans f1;obtain⟨m0,m1,m2,m3,_,mg⟩:=Ze G2;have F2:=(hb2.block (w.heap.size+1) (by rw[hsz.out];omega)).trans f2.out;have H2:=Za (H.out.below hb2);have U2:=Za (Zf.old U.out hb2);have s2:Hid (w.heap.size+2<=w2.heap.size):=Za (by have:=hb2.size;have:=hsz.out;omega);replace hb2:=Za (hB.trans (hb2.mono hB.size));replace G2:=Za G2;replace F2:=Za F2;clear k0 k1 k2 k3 kg f1 hB
  go_wp2_with fail
  with_reducible refine(Zgs _ s hm _ H2.out).mono ?_
  rintro e w3 ⟨rfl,hb3⟩;rw[hemp];have G3:=(hb3.block w.heap.size mg).trans G2.out;obtain⟨k0,k1,k2,k3,_,kg⟩:=Ze G3;have F3:=(hb3.block (w.heap.size+1) (by have:=s2.out;omega)).trans F2.out;have H3:=Za (H2.out.below hb3);have U3:=Za (Zf.old U2.out hb3);have s3:Hid (w.heap.size+2<=w3.heap.size):=Za (by have:=hb3.size;have:=s2.out;omega);replace hb3:=Za (hb2.out.trans (hb3.mono hb2.out.size));replace G3:=Za G3;clear m0 m1 m2 m3 mg G2 F2 H2 U2 hb2;obtain⟨k0,k1,k2,k3,k4,k5⟩:=Ze F3;obtain⟨W9,hW9,g9,gr9,gs9⟩:=Zu (a':=.slice none 0 0) (b':=.slice none 0 0) (c':=.slice none 0 0) (d':=.slice none 0 0) F3;obtain⟨n0,n1,n2,n3,_,_⟩:=Ze g9;have hB9:=Za ((hb3).out.grown gr9 (hb3).out.size (fun q e=>by cases e;omega));replace g9:=Za g9;replace F3:=Za F3;clear gr9 gs9
  go_wp2_with fail
  refine Qa0 (v:=.tuple #[.agg #[.slice none 0 0,.slice none 0 0,.slice none 0 0,.slice none 0 0],.int .i64 0,.int .i64 9]) (by simp[results,Tryz.results82,go_sem,n0,n1,n2,n3]) rfl ?_;obtain⟨hN,hV⟩:=Zv0 (s:=s) (b:=b) (by rw[hE.out];decide);rw[hN,hV,hE.out];exact⟨_,rfl,Yt _ _,hB9.out⟩
 ·replace hE:=Za hE
  have e1:=Zct hm;have e2:((b.length:Int) != 128)=false:=by rw[hlb];rfl
  have hemp:(!(Xy s).isEmpty)=true:=by cases hq:Xy s with
   | nil=>exact absurd hq hfl
   | cons k m=>rfl
  obtain⟨h8,h256,h0,hwe⟩:=Ztf hm hlb hfl;rw[if_pos hfw] at hwe;obtain⟨k,hk⟩:∃ k,tkK s=k:=⟨_,rfl⟩
  obtain⟨R,hR⟩:∃ R,wrR s.1 (k:Int) b=R:=⟨_,rfl⟩
  rw[hk] at h8 h256 hwe;replace f2:=Za f2;replace hlb:=Za hlb;replace hfl:=Za hfl;replace hk:=Za hk;replace hR:=Za hR;replace hwe:=Za hwe
  go_enter Tryz.func82,Tryz.ntmps82
  go_upto_region 1 with fail
  clear hw1
  go_wp2_with fail
  with_reducible refine(Xb _ s _ H.out).mono ?_
  rintro e w2 ⟨rfl,hb2⟩;rw[e1];have G2:=(hb2.block w.heap.size kg).trans f1;obtain⟨m0,m1,m2,m3,_,mg⟩:=Ze G2;have F2:=(hb2.block (w.heap.size+1) (by rw[hsz.out];omega)).trans f2.out;have H2:=Za (H.out.below hb2);have U2:=Za (Zf.old U.out hb2);have s2:Hid (w.heap.size+2<=w2.heap.size):=Za (by have:=hb2.size;have:=hsz.out;omega);replace hb2:=Za (hB.trans (hb2.mono hB.size));replace G2:=Za G2;replace F2:=Za F2;clear k0 k1 k2 k3 kg f1 hB
  go_wp2_with fail
  with_reducible refine(Zgs _ s hm _ H2.out).mono ?_
  rintro e w3 ⟨rfl,hb3⟩;rw[hemp];have G3:=(hb3.block w.heap.size mg).trans G2.out;obtain⟨k0,k1,k2,k3,_,kg⟩:=Ze G3;have F3:=(hb3.block (w.heap.size+1) (by have:=s2.out;omega)).trans F2.out;have H3:=Za (H2.out.below hb3);have U3:=Za (Zf.old U2.out hb3);have s3:Hid (w.heap.size+2<=w3.heap.size):=Za (by have:=hb3.size;have:=s2.out;omega);replace hb3:=Za (hb2.out.trans (hb3.mono hb2.out.size));replace G3:=Za G3;clear m0 m1 m2 m3 mg G2 F2 H2 U2 hb2;rw[hk.out];replace F3:=Za F3
  go_wp2_with fail
  with_reducible refine(Znh _ _ s.1 (k:Int) b _ H3.out.parts.1 U3.out).mono ?_
  rintro e w4 ⟨A4,c4,B4,d4,rfl,_,hb4⟩;rw[hwe.out,hR.out];have F4:=(hb4.block (w.heap.size+1) (by have:=s3.out;omega)).trans F3.out;obtain⟨w5,hw5,g5,hs5,hb5⟩:=Yb w4 (.slice A4 R.1.length c4) (.slice B4 R.2.length d4) 26;have F5:=(hb5.block (w.heap.size+1) (by have:=s3.out;have:=hb4.size;omega)).trans F4;have B5:=Za (hb3.out.trans ((hb4.trans (hb5.mono hb4.size)).mono hb3.out.size));replace F4:=Za F4;replace g5:=Za g5;replace hs5:=Za hs5;clear hb4 hb5
  go_upto_region 10 with fail
  clear hw5;obtain⟨k0,k1,k2,k3,k4,k5⟩:=Ze F5;obtain⟨W9,hW9,g9,gr9,gs9⟩:=Zu (a':=.slice none 0 0) (b':=.slice none 0 0) (c':=.slice none 0 0) (d':=.slice none 0 0) F5;obtain⟨n0,n1,n2,n3,_,_⟩:=Ze g9;have hB9:=Za ((B5).out.grown gr9 (B5).out.size (fun q e=>by cases e;omega));replace g9:=Za g9;replace F5:=Za F5;clear gr9 gs9
  go_wp2_with fail
  refine Qa0 (v:=.tuple #[.agg #[.slice none 0 0,.slice none 0 0,.slice none 0 0,.slice none 0 0],.int .i64 0,.int .i64 9]) (by simp[results,Tryz.results82,go_sem,n0,n1,n2,n3]) rfl ?_;obtain⟨hN,hV⟩:=Zv0 (s:=s) (b:=b) (by rw[hE.out];decide);rw[hN,hV,hE.out];exact⟨_,rfl,Yt _ _,hB9.out⟩
 ·replace hE:=Za hE
  have e1:=Zct hm;have e2:((b.length:Int) != 128)=false:=by rw[hlb];rfl
  have hemp:(!(Xy s).isEmpty)=true:=by cases hq:Xy s with
   | nil=>exact absurd hq hfl
   | cons k m=>rfl
  obtain⟨h8,h256,h0,hwe⟩:=Ztf hm hlb hfl;rw[if_neg (by omega)] at hwe
  have hV:Hid (tkV s b=(wrR s.1 (tkK s:Int) b,s.2.1.set (tkK s) 1,s.2.2)):=Za (by
   rw[(Zxu hE.out).2.2.2.2.2.2.2.2.2,Z6e hwe])
  have hT:Hid (tkN s b=(tkK s:Int)):=Za (Zxu hE.out).2.2.2.2.2.2.2.2.1;obtain⟨k,hk⟩:∃ k,tkK s=k:=⟨_,rfl⟩
  obtain⟨R,hR⟩:∃ R,wrR s.1 (k:Int) b=R:=⟨_,rfl⟩
  rw[hk] at h8 h256 hwe hV hT h0;rw[hR] at hV;obtain⟨hu0,hu1⟩:=Ya7 (Yf hm).2.1 h8 h256 (by rw[h0];decide);rw[h0,show (0:UInt8)+1=1 from rfl] at hu1;obtain⟨T,hT2⟩:∃ T,s.2.1.set k 1=T:=⟨_,rfl⟩
  rw[hT2] at hu1 hV;have hll:=Yv (Yf hm).2.2;replace f2:=Za f2;replace hlb:=Za hlb;replace hfl:=Za hfl;replace hk:=Za hk;replace hR:=Za hR;replace hwe:=Za hwe;replace hu0:=Za hu0;replace hu1:=Za hu1;replace hT2:=Za hT2;replace hll:=Za hll;replace h0:=Za h0
  go_enter Tryz.func82,Tryz.ntmps82
  go_upto_region 1 with fail
  clear hw1
  go_wp2_with fail
  with_reducible refine(Xb _ s _ H.out).mono ?_
  rintro e w2 ⟨rfl,hb2⟩;rw[e1];have G2:=(hb2.block w.heap.size kg).trans f1;obtain⟨m0,m1,m2,m3,_,mg⟩:=Ze G2;have F2:=(hb2.block (w.heap.size+1) (by rw[hsz.out];omega)).trans f2.out;have H2:=Za (H.out.below hb2);have U2:=Za (Zf.old U.out hb2);have s2:Hid (w.heap.size+2<=w2.heap.size):=Za (by have:=hb2.size;have:=hsz.out;omega);replace hb2:=Za (hB.trans (hb2.mono hB.size));replace G2:=Za G2;replace F2:=Za F2;clear k0 k1 k2 k3 kg f1 hB
  go_wp2_with fail
  with_reducible refine(Zgs _ s hm _ H2.out).mono ?_
  rintro e w3 ⟨rfl,hb3⟩;rw[hemp];have G3:=(hb3.block w.heap.size mg).trans G2.out;obtain⟨k0,k1,k2,k3,_,kg⟩:=Ze G3;have F3:=(hb3.block (w.heap.size+1) (by have:=s2.out;omega)).trans F2.out;have H3:=Za (H2.out.below hb3);have U3:=Za (Zf.old U2.out hb3);have s3:Hid (w.heap.size+2<=w3.heap.size):=Za (by have:=hb3.size;have:=s2.out;omega);replace hb3:=Za (hb2.out.trans (hb3.mono hb2.out.size));replace G3:=Za G3;clear m0 m1 m2 m3 mg G2 F2 H2 U2 hb2;rw[hk.out];replace F3:=Za F3
  go_wp2_with fail
  with_reducible refine(Znh _ _ s.1 (k:Int) b _ H3.out.parts.1 U3.out).mono ?_
  rintro e w4 ⟨A4,c4,B4,d4,rfl,hd4,hb4⟩;rw[hwe.out,hR.out];rw[hR.out] at hd4;have F4:=(hb4.block (w.heap.size+1) (by have:=s3.out;omega)).trans F3.out;have G4:=(hb4.block w.heap.size kg).trans G3.out;obtain⟨w5,hw5,g5,hs5,hb5⟩:=Yb w4 (.slice A4 R.1.length c4) (.slice B4 R.2.length d4) 26;have F5:=Za ((hb5.block (w.heap.size+1) (by have:=s3.out;have:=hb4.size;omega)).trans F4);have G5:=(hb5.block w.heap.size (by have:=s3.out;have:=hb4.size;omega)).trans G4;have H5:=Za ((H3.out.below hb4).below hb5);have D5:=Za (hd4.new (Qa _) hb5);have s5:Hid (w4.heap.size+1=w5.heap.size/\w.heap.size+2<=w4.heap.size):=Za ⟨by omega,by have:=s3.out;have:=hb4.size;omega⟩;have B5:=Za (hb3.out.trans ((hb4.trans (hb5.mono hb4.size)).mono hb3.out.size));obtain⟨m0,m1,m2,m3,_,mg⟩:=Ze G5;replace F4:=Za F4;replace g5:=Za g5;replace hs5:=Za hs5;replace G5:=Za G5;clear hb4 hb5 G4 k0 k1 k2 k3 hd4 H3 U3 G3
  go_upto_region 10 with fail
  clear hw5
  go_wp2_with fail
  with_reducible refine(Zz6 _ s.2.1 (k:Int) _ H5.out.parts.2.1).mono ?_
  rintro e w6 ⟨E6,c6,rfl,h6,hb6⟩;rw[hu0.out,hu1.out];rw[hu1.out] at h6;have F6:=Za ((hb6.block (w.heap.size+1) (by have:=s5.out;omega)).trans F5.out);have G6:=(hb6.block w.heap.size mg).trans G5.out;have P6:=(hb6.block w4.heap.size (by have:=s5.out;omega)).trans g5.out;have H6:=Za (H5.out.below hb6);have D6:=Za (D5.out.new (Qa _) hb6);have T6:=Za h6;have B6:=Za (B5.out.trans (hb6.mono B5.out.size));have s6:Hid (w.heap.size+2<=w6.heap.size):=Za (by have:=s5.out;have:=hb6.size;omega);clear hb6 h6 m0 m1 m2 m3;obtain⟨m0,m1,m2,m3,_,mg⟩:=Ze G6;obtain⟨p0,p1,_,pg⟩:=Zg P6;replace G6:=Za G6;replace P6:=Za P6;have hcl:Hid (∀ W,Qa3 w6.heap.size w6 W->Qa2 Tryz.prog 80 #[.slice L s.2.2.length cl] W fun e W'=>∃ X xc,e=.returned (.slice X s.2.2.length xc)/\rBy (New w6.heap.size W') W' [.slice X s.2.2.length xc] s.2.2/\Qa3 w6.heap.size w6 W'):=Za fun W hC=>by
   refine(Zaj _ s.2.2 W (by rw[hll.out];omega) (Zf.old H6.out.parts.2.2 hC)).mono ?_;rintro e W' ⟨u,rfl,hx,hb⟩;obtain⟨X,xc,rfl,_⟩:=id (Zt hx);exact⟨X,xc,rfl,Zf.mono hx hC.size,hC.trans (hb.mono hC.size)⟩
  go_upto_region 15 with fail
  have hdr:Qa3 w6.heap.size w6 w6.drew:=(Qb _ _).drew
  go_region_with (first
   | (go_at_call 80;refine(hcl.out _ hdr).mono ?_;rintro e' wm ⟨X,xc,rfl,hx,hw⟩;have bW:=(hw.block (w.heap.size+1) (by have:=s6.out;omega)).trans F6.out;obtain⟨y0,y1,_,_⟩:=Zg ((hw.block w4.heap.size pg).trans P6.out);obtain⟨c0,c1,c2,c3,c4',_⟩:=Ze bW))
  all_goals
   (go_wp2_with fail
    obtain⟨W9,hW9,g9,gr9,gs9⟩:=Zu (a':=.slice A4 R.1.length c4) (b':=.slice B4 R.2.length d4) (c':=.slice E6 T.length c6) (d':=.slice X s.2.2.length xc) bW;obtain⟨n0,n1,n2,n3,_,_⟩:=Ze g9;rw[hW9];have BW:=B6.out.trans (hw.mono B6.out.size);have l3:=hb3.out.size;have l5:=B5.out.size;have l6:=B6.out.size;have r3:=s3.out;have r5:=s5.out;have r6:=s6.out;refine Qa0 (v:=.tuple #[.agg #[.slice A4 R.1.length c4,.slice B4 R.2.length d4,.slice E6 T.length c6,.slice X s.2.2.length xc],.int .i64 (k:Int),.int .i64 0]) (by simp[results,Tryz.results82,go_sem,n0,n1,n2,n3]) rfl ?_;rw[hT.out,hV.out,hE.out]
    exact⟨_,rfl,Sto.mk (((D6.out.new (Qa _) hw).grown gr9 (fun q e=>by cases e;omega)).new l3 (Qb _ _)) (Zf.new (Zf.grown (Zf.new T6.out (Qa _) hw) gr9 (fun q e=>by cases e;omega)) l5 (Qb _ _)) (Zf.new (Zf.grown hx gr9 (fun q e=>by cases e;omega)) l6 (Qb _ _)),BW.grown gr9 BW.size (fun q e=>by cases e;omega)⟩)}
theorem Zzd {s:Rm}{n:Int}(h:asE s n≠0):shE s n=asE s n:=by simp[shE,h]
theorem Ya1 {s:Rm}{n:Int}(h:asE s n=0):Xl s=true/\upE s.2.1 n=shE s n/\(shE s n=0->shV s n=(s.1,upV s.2.1 n,s.2.2)):=by{
 rcases Zih s n with ⟨_,e⟩ | ⟨_,_,e⟩ | ⟨k,_,_,_,_,_,e⟩ | ⟨k,hm,rfl,h8,h256,hx,e⟩
 ·rw[e] at h;cases h
 ·rw[e] at h;cases h
 ·rw[e] at h;cases h
 ·have hi:=Znj h8 h256
  have hmt:=(Yf hm).2.1;have h1:upE s.2.1 (k:Int)=shE s (k:Int):=by simp[upE,Zdd,shE,e,hmt,hi]
  exact⟨hm,h1,fun h0=>by rw[shV,if_pos h0,upV,if_pos (by rw[h1];exact h0)]⟩}
theorem Zuw (v:Qax) (s:Rm) (n:Int) (w:Qaw) (h:Sto (Old w) w v s) :
  Qa2 Tryz.prog 53 #[v,.int .i64 n] w fun e w'=>∃ t,e=.returned (.tuple #[t,.int .i64 (shE s n)])/\Sto (New w.heap.size w') w' t (shV s n)/\Qa3 w.heap.size w w':=by{
 obtain⟨A,ca,B,cb,N,cn,L,cl,w1,rfl,hw1,f1,f2,hsz,hB,H⟩:=Zft h;clear h;obtain⟨k0,k1,k2,k3,_,kg⟩:=Ze f1;replace hsz:=Za hsz;replace f2:=Za f2;obtain⟨q,hq⟩:∃ q,shE s n=q:=⟨_,rfl⟩
 by_cases ha:asE s n=0
 ·obtain⟨hm,hup,hsv⟩:=Ya1 ha
  rw[hq] at hup hsv;have hll:=Za (Yv (Yf hm).2.2);have hsm:=Za (Zc6 (Yf hm).1);obtain⟨T,hT⟩:∃ T,upV s.2.1 n=T:=⟨_,rfl⟩
  rw[hT] at hsv;have hq0:q≠0->shV s n=Zi:=fun h=>Z9w (by rw[hq];exact h)
  have hq9:=hq;replace hq:=Za hq9;replace ha:=Za ha;replace hup:=Za hup;replace hT:=Za hT;replace hsv:=Za hsv;clear hq9
  go_enter Tryz.func53,Tryz.ntmps53
  go_upto_region 1 with fail
  clear hw1
  go_wp2_with fail
  with_reducible refine(V7 _ s n _ H.out).mono ?_
  rintro e w2 ⟨rfl,hb2⟩;rw[ha.out];have G2:=(hb2.block w.heap.size kg).trans f1;obtain⟨m0,m1,m2,m3,_,mg⟩:=Ze G2;have F2:=Za ((hb2.block (w.heap.size+1) (by rw[hsz.out];omega)).trans f2.out);have H2:=Za (H.out.below hb2);have s2:Hid (w.heap.size+2<=w2.heap.size):=Za (by have:=hb2.size;have:=hsz.out;omega);replace hb2:=Za (hB.trans (hb2.mono hB.size));replace G2:=Za G2;clear k0 k1 k2 k3 kg f1 hB
  go_wp2_with fail
  with_reducible refine(Zz6 _ s.2.1 n _ H2.out.parts.2.1).mono ?_
  rintro e w3 ⟨E3,c3,rfl,h3,hb3⟩;rw[hup.out,hT.out];rw[hT.out] at h3;have F3:=Za ((hb3.block (w.heap.size+1) (by have:=s2.out;omega)).trans F2.out);have G3:=(hb3.block w.heap.size mg).trans G2.out;have H3:=Za (H2.out.below hb3);have T3:=Za h3;have B3:=Za (hb2.out.trans (hb3.mono hb2.out.size));have s3:Hid (w.heap.size+2<=w3.heap.size):=Za (by have:=hb3.size;have:=s2.out;omega);clear hb3 h3 m0 m1 m2 m3 mg F2;obtain⟨m0,m1,m2,m3,_,mg⟩:=Ze G3;replace G3:=Za G3;by_cases hqz:q=0
  ·subst hqz
   have hV:=Za (hsv.out rfl);clear hq0 hsv
   go_upto_region 7 with fail
   refine Ua (by kernel_rfl) 8 (fun W=>Qa3 w3.heap.size w3 W) (fun i=>match i with
     | 2=>some (fun v W=>Dsk (New w3.heap.size W) W v s.1)
     | 6=>some (fun v W=>rBy (New w3.heap.size W) W [v] s.2.2)
     | 7=>some (fun v W=>∃ P p Q r X x,v=.agg #[.slice P s.1.1.length p,.slice Q s.1.2.length r,.slice E3 T.length c3,.slice X s.2.2.length x]/\Dsk (New w3.heap.size W) W (.agg #[.slice P s.1.1.length p,.slice Q s.1.2.length r]) s.1/\rBy (New w3.heap.size W) W [.slice X s.2.2.length x] s.2.2)
     | _=>none) (fun _=>none) (by decide) (by kernel_rfl) (by kernel_rfl) (Qb _ _).drew (fun w w' h hb=>h.trans (hb.mono h.size)) ?tst ?_
   case tst =>
    intro j φ x W W' hp hx hb
    match j,hp with
    | 2,hp=>cases hp;exact hx.new (Qa _) hb
    | 6,hp=>cases hp;exact Zf.new hx (Qa _) hb
    | 7,hp =>
     cases hp;obtain⟨P,p,Q,r,X,x,e1,e2,e3⟩:=hx;exact⟨P,p,Q,r,X,x,e1,e2.new (Qa _) hb,Zf.new e3 (Qa _) hb⟩
   simp only[P5,P7,P8,P9]
   repeat (first
    | (refine wpAs_skip rfl ?_;simp only[Qh,Zb,Zc,Zd])
    | (refine wpAs_pure (v := ?_) rfl rfl ?_ ?_;rotate_left;(intro W hC hE;clear hE;(have z0:=(hC.cell (p:=⟨w.heap.size,0,none⟩) mg).trans m0;have z1:=(hC.cell (p:=⟨w.heap.size,1,none⟩) mg).trans m1);clear hC;go_simp;first | done | with_reducible rfl);simp only[Qh,Zb,Zc,Zd]))
   refine wpAs_act rfl rfl ?_ ?_
   ·intro W hC hE
    clear hE;refine does_enter (f:=90) (args:=#[.agg #[.slice A s.1.1.length ca,.slice B s.1.2.length cb]]) ?_ ?_
    ·go_simp
    ·refine(Zs2 _ s.1 W hsm.out (H3.out.below hC).parts.1).mono ?_
     rintro e W' ⟨u,rfl,hu,hb⟩;exact⟨_,rfl,hu.new hC.size (Qb _ _),hb⟩
   simp only[Qh,Zb,Zc,Zd,envAdd];intro x29
   repeat (first
    | (refine wpAs_skip rfl ?_;simp only[Qh,Zb,Zc,Zd])
    | (refine wpAs_pure (v := ?_) rfl rfl ?_ ?_;rotate_left;(intro W hC hE;clear hE;(have z3:=(hC.cell (p:=⟨w.heap.size,3,none⟩) mg).trans m3);clear hC;go_simp;first | done | with_reducible rfl);simp only[Qh,Zb,Zc,Zd]))
   refine wpAs_act rfl rfl ?_ ?_
   ·intro W hC hE
    clear hE;refine does_enter (f:=80) (args:=#[.slice L s.2.2.length cl]) ?_ ?_
    ·go_simp
    ·refine(Zaj _ s.2.2 W (by rw[hll.out];omega) (H3.out.below hC).parts.2.2).mono ?_
     rintro e W' ⟨u,rfl,ho,hb⟩;exact⟨_,rfl,Zf.new ho hC.size (Qb _ _),hb⟩
   simp only[Qh,Zb,Zc,Zd,envAdd];intro x33;refine wpAs_act rfl rfl ?_ ?_
   ·intro W hC hE
    have h33:=hE.1 rfl;have h29:=hE.2.1 rfl;obtain⟨X,x,rfl,_⟩:=Zt h33;obtain⟨P,p,Q,r,rfl,_⟩:=h29.open;have h33':=Za h33;have h29':=Za h29;clear hE hC h33 h29
    go_simp
    exact⟨⟨P,p,Q,r,X,x,rfl,h29'.out,h33'.out⟩,Qb _ _⟩
   simp only[Qh,Zb,Zc,Zd,envAdd];intro x34;refine wpAs_end fun W hC hE=> ?_
   obtain⟨⟨P,p,Q,r,X,x,rfl,hd,hx⟩,_⟩:=hE;have bW:=(hC.block (w.heap.size+1) (by have:=s3.out;omega)).trans F3.out;obtain⟨c0,c1,c2,c3',c4,c5⟩:=Ze bW;obtain⟨W9,hW9,g9,gr9,gs9⟩:=Zu (a':=.slice P s.1.1.length p) (b':=.slice Q s.1.2.length r) (c':=.slice E3 T.length c3) (d':=.slice X s.2.2.length x) bW;obtain⟨n0,n1,n2,n3,_,_⟩:=Ze g9;have BW:=B3.out.trans (hC.mono B3.out.size);have r3:=s3.out;have l2:=hb2.out.size;have l3:=B3.out.size
   have hfin:=Za (show Sto (New w.heap.size W9) W9 (.agg #[.slice P s.1.1.length p,.slice Q s.1.2.length r,.slice E3 T.length c3,.slice X s.2.2.length x]) (shV s n) from by
    rw[hV.out]
    exact Sto.mk ((hd.grown gr9 (fun q e=>by cases e;omega)).new l3 (Qb _ _)) (Zf.new (Zf.grown (Zf.new T3.out (Qa _) hC) gr9 (fun q e=>by cases e;have:=s2.out;omega)) l2 (Qb _ _)) (Zf.new (Zf.grown hx gr9 (fun q e=>by cases e;omega)) l3 (Qb _ _)))
   have hB9:=Za (BW.grown gr9 BW.size (fun q e=>by cases e;omega));clear hd hx gr9 gs9 BW r3 l2 l3;replace bW:=Za bW;replace g9:=Za g9
   go_wp2_with fail
   refine Qa0 (v:=.tuple #[.agg #[.slice P s.1.1.length p,.slice Q s.1.2.length r,.slice E3 T.length c3,.slice X s.2.2.length x],.int .i64 0]) (by simp[results,Tryz.results53,go_sem,n0,n1,n2,n3]) rfl ?_;rw[hq.out];exact⟨_,rfl,hfin.out,hB9.out⟩
  ·have hV:=Za (hq0 hqz)
   have hq1:(q != 0)=true:=by simpa using hqz
   clear hq0 hqz hsv;replace F3:=F3.out;obtain⟨k0,k1,k2,k3,k4,k5⟩:=Ze F3;obtain⟨W9,hW9,g9,gr9,gs9⟩:=Zu (a':=.slice none 0 0) (b':=.slice none 0 0) (c':=.slice none 0 0) (d':=.slice none 0 0) F3;obtain⟨n0,n1,n2,n3,_,_⟩:=Ze g9;have hB9:=Za ((B3).out.grown gr9 (B3).out.size (fun q e=>by cases e;omega));replace g9:=Za g9;replace F3:=Za F3;clear gr9 gs9
   go_wp2_with fail
   refine Qa0 (v:=.tuple #[.agg #[.slice none 0 0,.slice none 0 0,.slice none 0 0,.slice none 0 0],.int .i64 q]) (by simp[results,Tryz.results53,go_sem,n0,n1,n2,n3]) rfl ?_;rw[hV.out,hq.out];exact⟨_,rfl,Yt _ _,hB9.out⟩
 ·have hV:=Za (Z9w (s:=s) (n:=n) (by rw[Zzd ha];exact ha))
  rw[Zzd ha] at hq;have hq1:(q != 0)=true:=by rw[<- hq];simpa using ha
  have hq2:Hid (asE s n=q):=Za hq;replace hq:Hid (shE s n=q):=Za (by rw[Zzd ha];exact hq);clear ha
  go_enter Tryz.func53,Tryz.ntmps53
  go_upto_region 1 with fail
  clear hw1
  go_wp2_with fail
  with_reducible refine(V7 _ s n _ H.out).mono ?_
  rintro e w2 ⟨rfl,hb2⟩;rw[hq2.out];have F2:=(hb2.block (w.heap.size+1) (by rw[hsz.out];omega)).trans f2.out;replace hb2:=Za (hB.trans (hb2.mono hB.size));obtain⟨k0,k1,k2,k3,k4,k5⟩:=Ze F2;obtain⟨W9,hW9,g9,gr9,gs9⟩:=Zu (a':=.slice none 0 0) (b':=.slice none 0 0) (c':=.slice none 0 0) (d':=.slice none 0 0) F2;obtain⟨n0,n1,n2,n3,_,_⟩:=Ze g9;have hB9:=Za ((hb2).out.grown gr9 (hb2).out.size (fun q e=>by cases e;omega));replace g9:=Za g9;replace F2:=Za F2;clear gr9 gs9
  go_wp2_with fail
  refine Qa0 (v:=.tuple #[.agg #[.slice none 0 0,.slice none 0 0,.slice none 0 0,.slice none 0 0],.int .i64 q]) (by simp[results,Tryz.results53,go_sem,n0,n1,n2,n3]) rfl ?_;rw[hV.out,hq.out];exact⟨_,rfl,Yt _ _,hB9.out⟩}
def rmE (s:Rm) (n:Int):Int:=if asE s n=0 then reN (Z1 s.1 n.toNat) else asE s n
def rmV (s:Rm) (n:Int):Nd:=if asE s n=0 then reV (Z1 s.1 n.toNat) else Ud
theorem Zwu {s:Rm}{n:Int}(h:asE s n≠0):rmE s n=asE s n/\rmV s n=Ud:=⟨by rw[rmE,if_neg h],by rw[rmV,if_neg h]⟩
theorem Y3 {s:Rm}{n:Int}(h:asE s n=0):∃ k:Nat,n=k/\Xl s=true/\8<=k/\k<256/\Un s.1 n=0/\rdX s.1 n=Z1 s.1 k/\rmE s n=reN (Z1 s.1 k)/\rmV s n=reV (Z1 s.1 k)/\s.2.1[k]?.getD 0≠0:=by{
 rcases Zih s n with ⟨_,e⟩ | ⟨_,_,e⟩ | ⟨k,_,_,_,_,_,e⟩ | ⟨k,hm,rfl,h8,h256,hx,e⟩
 ·rw[e] at h;cases h
 ·rw[e] at h;cases h
 ·rw[e] at h;cases h
 ·have hmd:=(Yf hm).1
  have ht:=Zfp h256;exact⟨k,rfl,hm,h8,h256,by simp[Un,hmd,ht],by simp[rdX,Un,hmd,ht],by rw[rmE,if_pos h];rfl,by rw[rmV,if_pos h];rfl,hx⟩}
theorem Zb9 (v:Qax) (s:Rm) (n:Int) (w:Qaw) (h:Sto (Old w) w v s) :
  Qa2 Tryz.prog 36 #[v,.int .i64 n] w fun e w'=>∃ u,e=.returned (.tuple #[u,.int .i64 (rmE s n)])/\Zj0 w.heap.size w' u (rmV s n)/\Qa3 w.heap.size w w':=by{
 obtain⟨A,ca,B,cb,N,cn,L,cl,rfl,_,_,_⟩:=h.open;obtain⟨w1,hw1,f1,f2,hsz,hB⟩:∃ w1,(w.alloc (.cells #[.slice A s.1.1.length ca,.slice B s.1.2.length cb,.slice N s.2.1.length cn,.slice L s.2.2.length cl] 29)).alloc (.cells #[.int .i64 0,.slice none 0 0] 81)=w1 /\
   w1.heap[w.heap.size]? = some (.cells #[.slice A s.1.1.length ca,.slice B s.1.2.length cb,.slice N s.2.1.length cn,.slice L s.2.2.length cl] 29 (0,0))/\w1.heap[w.heap.size+1]? = some (.cells #[.int .i64 0,.slice none 0 0] 81 (0,0))/\w1.heap.size=w.heap.size+2/\Qa3 w.heap.size w w1:=by
  refine⟨_,rfl,Y2 (Qa1 _ _),?_,by simp,((Qb _ w).alloc (Qa _) _).alloc (by simp) _⟩;have:=Qa1 (w.alloc (.cells #[.slice A s.1.1.length ca,.slice B s.1.2.length cb,.slice N s.2.1.length cn,.slice L s.2.2.length cl] 29)) (.cells #[.int .i64 0,.slice none 0 0] 81)
  rwa [Qs] at this
 have H:=Za (h.below hB);clear h;obtain⟨k0,k1,k2,k3,_,kg⟩:=Ze f1;replace hsz:=Za hsz;replace f2:=Za f2;obtain⟨q,hq⟩:∃ q,rmE s n=q:=⟨_,rfl⟩
 by_cases ha:asE s n=0
 ·obtain⟨k,rfl,hm,h8,h256,hck,hrd,hE,hV,-⟩:=Y3 ha
  obtain⟨b,hb⟩:∃ b,Z1 s.1 k=b:=⟨_,rfl⟩
  rw[hb] at hrd hE hV;rw[hE] at hq;replace hE:Hid (rmE s (k:Int)=q):=Za (by rw[hE,hq]);replace hq:=Za hq;replace ha:=Za ha;replace hck:=Za hck;replace hrd:=Za hrd;replace hV:=Za hV;replace hb:=Za hb
  go_enter Tryz.func36,Tryz.ntmps36
  go_upto_region 1 with fail
  clear hw1
  go_wp2_with fail
  with_reducible refine(V7 _ s (k:Int) _ H.out).mono ?_
  rintro e w2 ⟨rfl,hb2⟩;rw[ha.out];have G2:=(hb2.block w.heap.size kg).trans f1;obtain⟨m0,m1,m2,m3,_,mg⟩:=Ze G2;have F2:=Za ((hb2.block (w.heap.size+1) (by rw[hsz.out];omega)).trans f2.out);have H2:=Za (H.out.below hb2);have s2:Hid (w.heap.size+2<=w2.heap.size):=Za (by have:=hb2.size;have:=hsz.out;omega);replace hb2:=Za (hB.trans (hb2.mono hB.size));clear k0 k1 k2 k3 kg f1 hB G2
  go_wp2_with fail
  with_reducible refine(Z3g _ s.1 (k:Int) _ H2.out.parts.1).mono ?_
  rintro e w3 ⟨u3,rfl,h3,hb3⟩;rw[hck.out];rw[hrd.out] at h3;obtain⟨R,rc,rfl,_⟩:=id (Zt h3);have F3:=Za ((hb3.block (w.heap.size+1) (by have:=s2.out;omega)).trans F2.out);have B3:=Za (hb2.out.trans (hb3.mono hb2.out.size));have s3:Hid (w.heap.size+2<=w3.heap.size):=Za (by have:=hb3.size;have:=s2.out;omega);have H3:=Za (Zf.drop h3);clear hb3 h3 m0 m1 m2 m3 mg F2
  go_wp2_with fail
  with_reducible refine(Zoi _ b _ H3.out).mono ?_
  rintro e w4 ⟨u4,rfl,h4,hb4⟩;rw[hq.out];obtain⟨P,pc,rfl,_⟩:=id h4;have F4:=(hb4.block (w.heap.size+1) (by have:=s3.out;omega)).trans F3.out;obtain⟨m0,m1,m2,m3⟩:=Zg F4;obtain⟨W9,hW9,g9,gr9,gs9⟩:=Xq (u:=.int .i64 (reV b).1) (v:=.slice P (reV b).2.length pc) F4;obtain⟨n0,n1,_,_⟩:=Zg g9;have r3:=s3.out;have l3:=B3.out.size
  have hfin:=Za (show Zj0 w.heap.size W9 (.agg #[.int .i64 (reV b).1,.slice P (reV b).2.length pc]) (rmV s (k:Int)) from by
   rw[hV.out]
   exact(h4.grown gr9 (fun q e=>by cases e;omega)).new l3 (Qb _ _))
  have hB9:=Za ((B3.out.trans (hb4.mono B3.out.size)).grown gr9 (Qz l3 hb4.size) (fun q e=>by cases e;omega));replace F4:=Za F4;replace g9:=Za g9;clear gr9 gs9 h4 hb4 r3 l3
  go_wp2_with fail
  refine Qa0 (v:=.tuple #[.agg #[.int .i64 (reV b).1,.slice P (reV b).2.length pc],.int .i64 q]) (by simp[results,Tryz.results36,go_sem,n0,n1]) rfl ?_;rw[hE.out];exact⟨_,rfl,hfin.out,hB9.out⟩
 ·obtain⟨hE,hV⟩:=Zwu ha
  rw[hE] at hq;have hq1:(q != 0)=true:=by rw[<- hq];simpa using ha
  have hq2:Hid (asE s n=q):=Za hq;replace hq:Hid (rmE s n=q):=Za (by rw[hE];exact hq);replace hV:=Za hV;clear ha hE
  go_enter Tryz.func36,Tryz.ntmps36
  go_upto_region 1 with fail
  clear hw1
  go_wp2_with fail
  with_reducible refine(V7 _ s n _ H.out).mono ?_
  rintro e w2 ⟨rfl,hb2⟩;rw[hq2.out];have F2:=(hb2.block (w.heap.size+1) (by rw[hsz.out];omega)).trans f2.out;replace hb2:=Za (hB.trans (hb2.mono hB.size));obtain⟨m0,m1,m2,m3⟩:=Zg F2;obtain⟨W9,hW9,g9,gr9,gs9⟩:=Xq (u:=.int .i64 0) (v:=.slice none 0 0) F2;obtain⟨n0,n1,_,_⟩:=Zg g9;have hB9:=Za ((hb2).out.grown gr9 (hb2).out.size (fun q e=>by cases e;omega));replace g9:=Za g9;replace F2:=Za F2;clear gr9 gs9
  go_wp2_with fail
  refine Qa0 (v:=.tuple #[.agg #[.int .i64 0,.slice none 0 0],.int .i64 q]) (by simp[results,Tryz.results36,go_sem,n0,n1]) rfl ?_;rw[hV.out,hq.out];exact⟨_,rfl,Zj0.zero _ _,hB9.out⟩}
theorem Zov (v:Qax) (s:Rm) (n:Int) (w:Qaw) (h:Sto (Old w) w v s) :
  Qa2 Tryz.prog 36 #[v,.int .i64 n] w fun e w'=>∃ u,e=.returned (.tuple #[u,.int .i64 (rmE s n)])/\Nod (New w.heap.size w') w' u (rmV s n)/\Qa3 w.heap.size w w' :=
 (Zb9 v s n w h).mono fun _ _ ⟨u,e1,h1,h2⟩=>⟨u,e1,h1.nod,h2⟩
def Zbl:Ky:=(0,0,0)
def Yr (s:Rm) (l:List It):Bool:=l.all fun x=>decide (x.2.1=0)||decide (s.2.1[x.2.1.toNat]?.getD 0≠0)
def Zap (f:Int->Ky->Ky->Bool->Bool):List It->Ky->Bool->Bool
 | [],_,_=>true
 | [x],tb,ends=>f x.2.1 x.1 tb ends
 | x::y::r,tb,ends=>f x.2.1 x.1 y.1 true&&Zap f (y::r) tb ends
def Zen (l:List It) (k tb:Ky) (ends:Bool):Bool:=(match l[0]? with | none=>false | some x=>decide (x.1=k))&&(!ends||(match l.getLast? with | none=>false | some y=>Zo y.1 tb))
def Zy (s:Rm):Nat->Int->Ky->Ky->Bool->Bool
 | 0,a,k,tb,ends=>(decide (rmE s a=0)&&decide ((rmV s a).1=0))&&(Zen (rmV s a).2 k tb ends&&Yr s (rmV s a).2)
 | l+1,a,k,tb,ends=>(decide (rmE s a=0)&&decide ((rmV s a).1=((l+1:Nat):Int)))&&(Zen (rmV s a).2 k tb ends&&Zap (Zy s l) (rmV s a).2 tb ends)
def Uz (s:Rm) (n:Nd) (tb:Ky) (ends:Bool):Bool:=match n.1.toNat with
 | 0=>Yr s n.2
 | l+1=>Zap (Zy s l) n.2 tb ends
def Yq (s:Rm) (a:Int):Bool:=decide (rmE s a=0)&&Uz s (rmV s a) Zbl false
def ckE (s:Rm) (a:Int):Int:=if asE s a=0 then (if Yq s a then 0 else 8) else asE s a
def ckH (s:Rm) (a:Int):Int:=if ckE s a=0 then (rmV s a).1+1 else 0
def X3 (s:Rm):Nat->Int->List It
 | 0,a=>(rmV s a).2
 | l+1,a=>(rmV s a).2.flatMap fun x=>X3 s l x.2.1
def Zcg (s:Rm):Nat->Int->Ky->Option It
 | 0,a,k=>(rmV s a).2.reverse.find? fun x=>decide (x.1=k)
 | l+1,a,k=>((rmV s a).2.reverse.find? fun x => !Zo k x.1).bind fun x=>Zcg s l x.2.1 k
def Zad (s:Rm) (a:Int):List It:=X3 s (rmV s a).1.toNat a
def Zd8 (s:Rm) (a:Int) (k:Ky):Option It:=Zcg s (rmV s a).1.toNat a k
def Up (l:List It):Prop:=l.Pairwise fun x y=>Zo x.1 y.1=true
theorem Z9 {s:Rm}{a:Int}(h:rmE s a=0):mayN (rmV s a)=true/\asE s a=0:=by{
 by_cases ha:asE s a=0
 ·obtain⟨k,_,_,_,_,_,_,hE,hV,_⟩:=Y3 ha
  rw[hE] at h;rw[hV];exact⟨(Zfl h).1,ha⟩
 ·rw[(Zwu ha).1] at h
  exact absurd h ha}
theorem Ug {n:Nd}(h:mayN n=true):Up n.2:=by
 rw[Up,List.pairwise_iff_getElem];intro i j hi hj hij;exact Zav h hij (Qc hi) (Qc hj)
theorem Zdr {x:It}{l:List It}(h:Up (x::l)):∀ y∈x::l,y.1=x.1\/Zo x.1 y.1=true:=fun y hy=>by
 rcases Qd.1 hy with rfl | hy
 ·exact .inl rfl
 ·exact .inr ((Qt.1 h).1 y hy)
theorem Zrc {l:List It}{z:It}{tb:Ky}(h:Up l) (hl:l.getLast? = some z) (hz:Zo z.1 tb=true):∀ y∈l,Zo y.1 tb=true:=fun y hy=>by
 obtain⟨r,rfl⟩:=List.getLast?_eq_some_iff.1 hl;rcases Qp.1 hy with hy | hy
 ·exact Yu ((Pi.1 h).2.2 y hy z (by simp)) hz
 ·rw[Ql.1 hy]
  exact hz
theorem Zbr {l:List It}{k tb:Ky}{ends:Bool}(h:Zen l k tb ends=true):∃ x r,l=x::r/\x.1=k/\(ends=true->∃ z,l.getLast? = some z/\Zo z.1 tb=true):=by{
 unfold Zen at h;rw[Qe] at h;obtain⟨h1,h2⟩:=h;cases l with
 | nil=>simp at h1
 | cons x r =>
  refine⟨x,r,rfl,by simpa using h1,fun he=> ?_⟩;rw[he] at h2;cases hz:(x::r).getLast? with
  | none=>rw[hz] at h2;simp at h2
  | some z=>rw[hz] at h2;exact⟨z,rfl,by simpa using h2⟩}
structure Z8s (M:List It) (k tb:Ky) (ends:Bool) (N:Nat):Prop where
 first:∃ x r,M=x::r/\x.1=k
 up:Up M
 bound:ends=true->∀ y∈M,Zo y.1 tb=true
 few:M.length<=N
theorem Z8s.ge {M:List It}{k tb:Ky}{ends:Bool}{N:Nat}(h:Z8s M k tb ends N):∀ y∈M,y.1=k\/Zo k y.1=true:=by
 obtain⟨x,r,rfl,rfl⟩:=h.first;exact Zdr h.up
theorem Zat {f:Int->Ky->Ky->Bool->Bool}{g:Int->List It}{N:Nat}(hf:∀ a k tb ends,f a k tb ends=true->Z8s (g a) k tb ends N):∀ (L:List It) (tb:Ky) (ends:Bool),L≠[]->Zap f L tb ends=true ->
  ∃ x r,L=x::r/\Z8s (L.flatMap fun x=>g x.2.1) x.1 tb ends (N*L.length)
 | [],_,_,h,_=>absurd rfl h
 | [x],tb,ends,_,h=>by
  refine⟨x,[],rfl,?_⟩;have:=hf _ _ _ _ h
  simpa using this
 | x::y::r,tb,ends,_,h=>by
  refine⟨x,y::r,rfl,?_⟩;unfold Zap at h;rw[Qe] at h;have hx:=hf _ _ _ _ h.1;obtain⟨y',r',e,hy⟩:=Zat hf (y::r) tb ends (by simp) h.2;cases e;have e2:(x::y::r).flatMap (fun x=>g x.2.1)=g x.2.1++(y::r).flatMap fun x=>g x.2.1:=Qv
  rw[e2];have hb:=hx.bound rfl;have hlt:∀ p∈g x.2.1,∀ q∈(y::r).flatMap (fun x=>g x.2.1),Zo p.1 q.1=true:=fun p hp q hq=>by
   rcases hy.ge q hq with e | e
   ·rw[e];exact hb p hp
   ·exact Yu (hb p hp) e
  refine⟨?_,?_,fun he p hp=> ?_,?_⟩
  ·obtain⟨z,q,ez,kz⟩:=hx.first
   exact⟨z,_,by rw[ez];rfl,kz⟩
  ·exact Pi.2 ⟨hx.up,hy.up,hlt⟩
  ·rcases Qp.1 hp with hp | hp
   ·obtain⟨z,q,ez,kz⟩:=hy.first
    have hz:=hlt p hp z (by rw[ez];simp);exact Yu hz (hy.bound he z (by rw[ez];simp))
   ·exact hy.bound he p hp
  ·have h1:=hx.few
   have h2:=hy.few;rw[Qaa];have e3:N*(x::y::r).length=N+N*(y::r).length:=by rw[Qr,Nat.mul_succ,Nat.add_comm]
   omega
theorem Ya {s:Rm}{l:Nat}{a:Int}{k tb:Ky}{ends:Bool}(h:Zy s l a k tb ends=true):rmE s a=0/\(rmV s a).1=l/\Zen (rmV s a).2 k tb ends=true/\(match l with | 0=>Yr s (rmV s a).2 | l'+1=>Zap (Zy s l') (rmV s a).2 tb ends)=true:=by{
 cases l with
 | zero =>
  simp only[Zy,Qe,decide_eq_true_eq] at h;exact⟨h.1.1,h.1.2,h.2.1,h.2.2⟩
 | succ l =>
  simp only[Zy,Qe,decide_eq_true_eq] at h;exact⟨h.1.1,h.1.2,h.2.1,h.2.2⟩}
theorem Y4 (s:Rm):∀ (l:Nat) (a:Int) (k tb:Ky) (ends:Bool),Zy s l a k tb ends=true->Z8s (X3 s l a) k tb ends (5 ^ (l+1))
 | 0,a,k,tb,ends,h=>by
  obtain⟨h1,h2,h3,h4⟩:=Ya h;obtain⟨hm,_⟩:=Z9 h1;obtain⟨x,r,e,ek,hz⟩:=Zbr h3;refine⟨⟨x,r,e,ek⟩,Ug hm,fun he=> ?_,?_⟩
  ·obtain⟨z,e1,e2⟩:=hz he
   exact Zrc (Ug hm) e1 e2
  ·exact(Zx hm).1.2.2.1
 | l+1,a,k,tb,ends,h=>by
  obtain⟨h1,h2,h3,h4⟩:=Ya h;obtain⟨hm,_⟩:=Z9 h1;obtain⟨x,r,e,ek,hz⟩:=Zbr h3;obtain⟨x',r',e',hp⟩:=Zat (Y4 s l) (rmV s a).2 tb ends (by rw[e];simp) h4;rw[e] at e';cases e';rw[ek] at hp;refine⟨hp.first,hp.up,hp.bound,Qz hp.few ?_⟩;have h5:=(Zx hm).1.2.2.1;rw[Nat.pow_succ 5 (l+1)];exact Nat.mul_le_mul_left _ h5
theorem Z45 (s:Rm):∀ (l:Nat) (a:Int) (k:Ky) (x:It),Zcg s l a k=some x->x∈X3 s l a/\x.1=k
 | 0,a,k,x,h=>by
  have h':(rmV s a).2.reverse.find? (fun x=>decide (x.1=k))=some x:=h;exact⟨Qw.1 (Q0 h'),by simpa using List.find?_some h'⟩
 | l+1,a,k,x,h=>by
  unfold Zcg at h;cases hf:(rmV s a).2.reverse.find? (fun x => !Zo k x.1) with
  | none=>rw[hf] at h;cases h
  | some y =>
   rw[hf] at h;obtain⟨h1,h2⟩:=Z45 s l y.2.1 k x h;exact⟨Qk.2 ⟨y,Qw.1 (Q0 hf),h1⟩,h2⟩
theorem Zsh {p:It->Bool}(x:It) (l:List It):(x::l).reverse.find? p=match l.reverse.find? p with | some y=>some y | none=>if p x then some x else none:=by{
 rw[List.reverse_cons,Qab];cases l.reverse.find? p with
 | some y=>rfl
 | none =>
  simp only[Option.none_or,Qac,List.find?_nil];cases p x <;> rfl}
theorem Zdm {p:It->Bool}{l:List It}(h:∀ x∈l,p x=false):l.reverse.find? p=none:=by
 rw[List.find?_eq_none];intro x hx;rw[h x (Qw.1 hx)];simp
theorem Zlf {f:Int->Ky->Ky->Bool->Bool}{g:Int->List It}{N:Nat}(hf:∀ a k tb ends,f a k tb ends=true->Z8s (g a) k tb ends N):∀ (L:List It) (tb:Ky) (ends:Bool),Up L->Zap f L tb ends=true->∀ x∈L.flatMap (fun x=>g x.2.1),
  ∃ y∈L,x∈g y.2.1/\(L.reverse.find? fun z => !Zo x.1 z.1)=some y/\∃ t e,f y.2.1 y.1 t e=true
 | [],_,_,_,_,x,hx=>by simp at hx
 | [y],tb,ends,_,h,x,hx=>by
  have hx':x∈g y.2.1:=by simpa using hx
  refine⟨y,by simp,hx',?_,tb,ends,h⟩;have hp:=hf _ _ _ _ h;have:Zo x.1 y.1=false:=by
   rcases hp.ge x hx' with e | e
   ·rw[e];exact Y6 _
   ·exact Vo e
  simp[this]
 | y::z::r,tb,ends,hu,h,x,hx=>by
  unfold Zap at h;rw[Qe] at h;have hy:=hf _ _ _ _ h.1;have e2:(y::z::r).flatMap (fun x=>g x.2.1)=g y.2.1++(z::r).flatMap fun x=>g x.2.1:=Qv
  rw[e2] at hx;rw[Zsh];rcases Qp.1 hx with hx | hx
  ·have hb:=hy.bound rfl x hx
   have hge:Zo x.1 y.1=false:=by
    rcases hy.ge x hx with e | e
    ·rw[e];exact Y6 _
    ·exact Vo e
   have hno:(z::r).reverse.find? (fun w => !Zo x.1 w.1)=none:=Zdm fun w hw=>by
    rcases Zdr (Qt.1 hu).2 w hw with e | e
    ·rw[e,hb];rfl
    ·rw[Yu hb e];rfl
   refine⟨y,by simp,hx,?_,_,_,h.1⟩;rw[hno];simp[hge]
  ·obtain⟨w,hw,h1,h2,h3⟩:=Zlf hf (z::r) tb ends (Qt.1 hu).2 h.2 x hx
   exact⟨w,Qf _ hw,h1,by rw[h2],h3⟩
theorem Zki {l:List It}(hu:Up l){x:It}(hx:x∈l):(l.reverse.find? fun y=>decide (y.1=x.1))=some x:=by{
 induction l with
 | nil=>simp at hx
 | cons y r ih =>
  rw[Zsh];rcases Qd.1 hx with rfl | hx
  ·have hno:r.reverse.find? (fun y=>decide (y.1=x.1))=none:=Zdm fun z hz=>by
    have h1:=(Qt.1 hu).1 z hz;have:z.1≠x.1:=fun e=>by rw[e,Y6] at h1;cases h1
    simpa using this
   rw[hno];simp
  ·rw[ih (Qt.1 hu).2 hx]}
theorem Zjv (s:Rm):∀ (l:Nat) (a:Int) (k tb:Ky) (ends:Bool),Zy s l a k tb ends=true->∀ x∈X3 s l a,Zcg s l a x.1=some x
 | 0,a,k,tb,ends,h,x,hx=>Zki (Ug (Z9 (Ya h).1).1) hx
 | l+1,a,k,tb,ends,h,x,hx=>by
  obtain⟨h1,h2,h3,h4⟩:=Ya h;obtain⟨y,hy,h5,h6,t,e,h7⟩:=Zlf (Y4 s l) (rmV s a).2 tb ends (Ug (Z9 h1).1) h4 x hx;unfold Zcg;rw[h6];exact Zjv s l y.2.1 y.1 t e h7 x h5
theorem Xe {s:Rm}{a:Int}(h:Yq s a=true):rmE s a=0/\asE s a=0/\mayN (rmV s a)=true/\0<=(rmV s a).1/\(rmV s a).1<6/\Uz s (rmV s a) Zbl false=true:=by
 simp only[Yq,Qe,decide_eq_true_eq] at h;obtain⟨hm,ha⟩:=Z9 h.1;exact⟨h.1,ha,hm,(Zx hm).1.1,(Zx hm).1.2.1,h.2⟩
theorem Zhb {s:Rm}{a:Int}(h:Yq s a=true):Up (Zad s a)/\(Zad s a).length<=15625/\(∀ x∈Zad s a,Zd8 s a x.1=some x):=by{
 obtain⟨h1,_,hm,l0,l6,hi⟩:=Xe h;unfold Zad Zd8;unfold Uz at hi;have hl:(rmV s a).1.toNat<=5:=by omega
 generalize hl0:(rmV s a).1.toNat=l at hi hl ⊢;cases l with
 | zero =>
  refine⟨Ug hm,Qz (Zx hm).1.2.2.1 (by decide),fun x hx=>Zki (Ug hm) hx⟩
 | succ l =>
  have hne:(rmV s a).2≠[]:=fun e=>by
   have:=(Zx hm).1.2.2.2 (by omega);rw[e] at this;simp at this
  obtain⟨x,r,e,hp⟩:=Zat (Y4 s l) (rmV s a).2 Zbl false hne hi;refine⟨hp.up,Qz hp.few ?_,fun x hx=> ?_⟩
  ·have h5:=(Zx hm).1.2.2.1
   have hpw:5 ^ (l+1)<=5 ^ 5:=Nat.pow_le_pow_right (by decide) (by omega);have:=Nat.mul_le_mul hpw h5;omega
  ·obtain⟨y,hy,h5,h6,t,e,h7⟩:=Zlf (Y4 s l) (rmV s a).2 Zbl false (Ug hm) hi x hx
   unfold Zcg;rw[h6];exact Zjv s l y.2.1 y.1 t e h7 x h5}
theorem Z4y {s:Rm}{a:Int}{k:Ky}{x:It}(h:Zd8 s a k=some x):x∈Zad s a/\x.1=k:=Z45 s _ a k x h
theorem Z3u {s:Rm}{a:Int}{k:Ky}(h:Yq s a=true):Zd8 s a k=none↔∀ x∈Zad s a,x.1≠k:=by{
 refine⟨fun hn x hx e=> ?_,fun hn=> ?_⟩
 ·rw[<- e,(Zhb h).2.2 x hx] at hn
  cases hn
 ·cases ht:Zd8 s a k with
  | none=>rfl
  | some x =>
   obtain⟨h1,h2⟩:=Z4y ht;exact absurd h2 (hn x h1)}
theorem Zpm {s:Rm}{l:List It}{i:Nat}{x:It}(hx:l[i]? = some x):Yr s (l.take (i+1))=(Yr s (l.take i)&&(decide (x.2.1=0)||decide (s.2.1[x.2.1.toNat]?.getD 0≠0))):=by
 have hk:=(Qj.1 hx).1;have hg:l[i]=x:=(Qj.1 hx).2;rw[<- Pj hk,hg];simp[Yr]
theorem Z4k {s:Rm}{l:List It}{i:Nat}(h:Yr s (l.take i)=false):Yr s l=false:=by{
 cases e:Yr s l with
 | false=>rfl
 | true =>
  unfold Yr at e h;rw[Qx] at e;rw[<- h]
  symm
  rw[Qx];exact fun x hx=>e x (Pk hx)}
def nxO (r:List It) (tb:Ky):Ky:=match r with | []=>tb | y::_=>y.1
def bxO (r:List It) (ends:Bool):Bool:=match r with | []=>ends | _::_=>true
theorem Vj (f:Int->Ky->Ky->Bool->Bool) (x:It) (r:List It) (tb:Ky) (ends:Bool):Zap f (x::r) tb ends=(f x.2.1 x.1 (nxO r tb) (bxO r ends)&&Zap f r tb ends):=by
 cases r with
 | nil=>simp[Zap,nxO,bxO]
 | cons y r=>rfl
def Xi:List It->Nat->Nat
 | [],_=>0
 | x::l,i=>(if x.2.1=(i:Int) then (if x.2.1=0 then 0 else 1) else 0)+Xi l i
def Zbj (l:List It):Prop:=∀ x∈l,x.2.1=0\/(8<=x.2.1/\x.2.1<256)
theorem Zcb {x:It}{l:List It}(h:Zbj (x::l)):(x.2.1=0\/∃ k:Nat,x.2.1=k/\8<=k/\k<256)/\Zbj l:=by
 refine⟨?_,fun y hy=>h y (Qf _ hy)⟩;rcases h x Qg with h1 | ⟨h1,h2⟩
 ·exact .inl h1
 ·exact .inr ⟨x.2.1.toNat,by omega,by omega,by omega⟩
theorem Vv {n:Nd}(h:mayN n=true):Zbj n.2:=fun x hx=>by
 obtain⟨i,hi⟩:=Qm hx;have hk:=(Qj.1 hi).1;simp only[mayN,Qe,Qx] at h;have h1:=h.2 i (by simpa using hk);simp only[Zjz,hi,okP,Qe] at h1;exact(Zae h1.1.1).1
theorem Zca {x:It}{l:List It}(h:x.2.1=0) (i:Nat):Xi (x::l) i=Xi l i:=by
 simp only[Xi,h,if_true];split <;> simp
theorem Zba {x:It}{l:List It}{k:Nat}(h:x.2.1=k) (h8:8<=k) (i:Nat):Xi (x::l) i=(if i=k then 1 else 0)+Xi l i:=by{
 simp only[Xi,h];by_cases e:i=k
 ·subst e
  rw[if_pos rfl,if_neg (by omega),if_pos rfl]
 ·rw[if_neg (by omega),if_neg e]}
theorem Z2m {l:List It}(h:Zbj l){i:Nat}(hi:i<8\/256<=i):Xi l i=0:=by{
 induction l with
 | nil=>rfl
 | cons x l ih =>
  obtain⟨h1,h2⟩:=Zcb h;rcases h1 with h1 | ⟨k,h1,h8,h256⟩
  ·rw[Zca h1,ih h2]
  ·rw[Zba h1 h8,ih h2,if_neg (by omega)]}
def ctE:List UInt8->List It->Int
 | _,[]=>0
 | t,x::l=>if x.2.1=0 then ctE t l else if t[x.2.1.toNat]?.getD 0=0 then 6 else if t[x.2.1.toNat]?.getD 0=255 then 70 else ctE (t.set x.2.1.toNat (t[x.2.1.toNat]?.getD 0+1)) l
def ctV:List UInt8->List It->List UInt8
 | t,[]=>t
 | t,x::l=>if x.2.1=0 then ctV t l else ctV (t.set x.2.1.toNat (t[x.2.1.toNat]?.getD 0+1)) l
theorem Zef:∀ (l:List It) (t:List UInt8),(ctV t l).length=t.length
 | [],_=>rfl
 | x::l,t=>by
  unfold ctV;split
  ·exact Zef l t
  ·rw[Zef l,Q3]
theorem Zmf:∀ (a b:List It) (t:List UInt8),ctE t (a++b)=if ctE t a=0 then ctE (ctV t a) b else ctE t a
 | [],b,t=>by simp[ctE,ctV]
 | x::a,b,t=>by
  simp only[Qo,ctE,ctV];split
  ·exact Zmf a b t
  ·split
   ·simp
   ·split
    ·simp
    ·exact Zmf a b _
theorem Zq1:∀ (a b:List It) (t:List UInt8),ctV t (a++b)=ctV (ctV t a) b
 | [],b,t=>rfl
 | x::a,b,t=>by
  simp only[Qo,ctV];split
  ·exact Zq1 a b t
  ·exact Zq1 a b _
theorem Zyv {x:UInt8}(h:x≠255):(x+1).toNat=x.toNat+1:=by
 have:=(Zir h).1;omega
theorem Zh6 {x:UInt8}(h:x≠0):(x-1).toNat+1=x.toNat:=by
 have h1:=(Zir (x:=x-1) (Zu3 h)).1;rw[Z08.2] at h1;omega
theorem Vw {x:UInt8}:x.toNat=0↔x=0:=⟨fun h=>UInt8.toNat_inj.1 (by rw[h];rfl),fun h=>by rw[h];rfl⟩
theorem Zc8:∀ (l:List It) (t:List UInt8),Zbj l->t.length=256->ctE t l=0 ->
  (∀ i,((ctV t l)[i]?.getD 0).toNat=(t[i]?.getD 0).toNat+Xi l i)/\(∀ i,Xi l i≠0->t[i]?.getD 0≠0)
 | [],t,_,_,_=>⟨fun i=>by simp[ctV,Xi],fun i h=>absurd rfl h⟩
 | x::l,t,hr,hl,h=>by
  obtain⟨h1,h2⟩:=Zcb hr;unfold ctE at h;unfold ctV;rcases h1 with h1 | ⟨k,h1,h8,h256⟩
  ·rw[if_pos h1] at h ⊢
   obtain⟨c1,c2⟩:=Zc8 l t h2 hl h;exact⟨fun i=>by rw[c1 i,Zca h1],fun i hi=>c2 i (by rwa [Zca h1] at hi)⟩
  ·have e0:¬ x.2.1=0:=by omega
   have ek:x.2.1.toNat=k:=by omega
   rw[if_neg e0,ek] at h;rw[if_neg e0,ek];by_cases hz:t[k]?.getD 0=0
   ·rw[if_pos hz] at h;cases h
   ·by_cases hm:t[k]?.getD 0=255
    ·rw[if_neg hz,if_pos hm] at h;cases h
    ·rw[if_neg hz,if_neg hm] at h
     obtain⟨c1,c2⟩:=Zc8 l (t.set k (t[k]?.getD 0+1)) h2 (by rw[Q3,hl]) h;refine⟨fun i=> ?_,fun i hi=> ?_⟩
     ·rw[c1 i,Zba h1 h8]
      by_cases e:i=k
      ·subst e
       rw[Zcr (by omega),Zyv hm,if_pos rfl];omega
      ·rw[V8 e,if_neg e]
       omega
     ·by_cases e:i=k
      ·subst e;exact hz
      ·rw[Zba h1 h8,if_neg e,Nat.zero_add] at hi
       have:=c2 i hi
       rwa [V8 e] at this
theorem Zxe {a b:List UInt8}(hl:a.length=b.length) (h:∀ i:Nat,(a[i]?.getD 0).toNat=(b[i]?.getD 0).toNat):a=b:=by
 refine Qad hl fun i h1 h2=> ?_
 have:=UInt8.toNat_inj.1 (h i)
 rwa [Qc h1,Qc h2] at this
theorem Z9h {t:List UInt8}{l:List It}(hm:Zbk t=true) (hr:Zbj l) (h:ctE t l=0):Zbk (ctV t l)=true:=by
 have hl:=Yv hm;obtain⟨c1,_⟩:=Zc8 l t hr hl h;refine Zhh (by rw[Zef,hl]) fun j hj=>Vw.1 ?_
 rw[c1 j,Z2m hr (.inl hj),Zlo hm hj];rfl
theorem Z1a {t:List UInt8}{l:List It}(hl:t.length=256) (hr:Zbj l) (h:ctE t l=0) (i:Nat):(ctV t l)[i]?.getD 0=0↔t[i]?.getD 0=0:=by
 obtain⟨c1,c2⟩:=Zc8 l t hr hl h;rw[<- Vw,c1 i,<- Vw (x:=t[i]?.getD 0)];refine⟨fun h=>by omega,fun h=> ?_⟩;by_cases e:Xi l i=0
 ·omega
 ·exact absurd (Vw.1 h) (c2 i e)
def ctS (s:Rm) (n:Nd):Rm:=(s.1,ctV s.2.1 n.2,s.2.2)
def mkE (s:Rm) (n:Nd):Int:=if Xl s&&mayN n then (if ctE s.2.1 n.2=0 then tkE (ctS s n) (Va n) else ctE s.2.1 n.2) else 8
def mkN (s:Rm) (n:Nd):Int:=if mkE s n=0 then tkN (ctS s n) (Va n) else 0
def mkV (s:Rm) (n:Nd):Rm:=if mkE s n=0 then tkV (ctS s n) (Va n) else Zi
theorem Z0v {s:Rm}{n:Nd}(h:mkE s n≠0):mkN s n=0/\mkV s n=Zi:=⟨by rw[mkN,if_neg h],by rw[mkV,if_neg h]⟩
theorem Z7o {s:Rm}{n:Nd}(hm:Xl s=true) (hn:mayN n=true) (h:ctE s.2.1 n.2=0):Xl (ctS s n)=true:=by
 obtain⟨m1,m2,m3⟩:=Yf hm;exact Zaa m1 (Z9h m2 (Vv hn) h) m3
theorem Z4e {s:Rm}{n:Nd}(hm:Xl s=true) (hn:mayN n=true) (h:ctE s.2.1 n.2=0):Xy (ctS s n)=Xy s:=by
 unfold Xy Zbt;refine Py fun i _=> ?_
 have:=Z1a (Yv (Yf hm).2.1) (Vv hn) h i;show (decide ((ctV s.2.1 n.2)[i]?.getD 0=0)&&_)=(decide (s.2.1[i]?.getD 0=0)&&_);rw[decide_eq_decide.2 this];rfl
theorem Zvx {s:Rm}{n:Nd}(h:mkE s n=0):Xl s=true/\mayN n=true/\ctE s.2.1 n.2=0/\tkE (ctS s n) (Va n)=0/\mkN s n=tkN (ctS s n) (Va n)/\mkV s n=tkV (ctS s n) (Va n):=by{
 have hN:mkN s n=tkN (ctS s n) (Va n):=by rw[mkN,if_pos h]
 have hV:mkV s n=tkV (ctS s n) (Va n):=by rw[mkV,if_pos h]
 unfold mkE at h;cases hm:Xl s with
 | false=>rw[hm] at h;simp at h
 | true =>
  cases hn:mayN n with
  | false=>rw[hm,hn] at h;simp at h
  | true =>
   rw[hm,hn] at h;simp only[Bool.and_self,if_true] at h;by_cases hc:ctE s.2.1 n.2=0
   ·rw[if_pos hc] at h
    exact⟨rfl,rfl,hc,h,hN,hV⟩
   ·rw[if_neg hc] at h
    exact absurd h hc}
theorem X7 {s:Rm}{n:Nd}(h:mkE s n=0):∃ k:Nat,mkN s n=k/\8<=k/\k<256/\s.2.1[k]?.getD 0=0/\s.2.2[k]?.getD 0=0/\Xi n.2 k=0/\mkV s n=(wrD s.1 k (Va n),(ctV s.2.1 n.2).set k 1,s.2.2)/\Xl (mkV s n)=true /\
  (mkV s n).2.1[k]?.getD 0=1/\(∀ i,i≠k->((mkV s n).2.1[i]?.getD 0).toNat=(s.2.1[i]?.getD 0).toNat+Xi n.2 i)/\(∀ i,Xi n.2 i≠0->s.2.1[i]?.getD 0≠0)/\(mkV s n).2.1.length=256/\s.2.1.length=256:=by{
 obtain⟨hm,hn,hc,ht,e1,e2⟩:=Zvx h;obtain⟨_,_,_,_,h8,h256,hz,hz2,hN,hV⟩:=Zxu ht;have hl:=Yv (Yf hm).2.1;have hr:=Vv hn;obtain⟨c1,c2⟩:=Zc8 n.2 s.2.1 hr hl hc;generalize tkK (ctS s n)=k at *;have z1:s.2.1[k]?.getD 0=0:=(Z1a hl hr hc k).1 hz;have z2:Xi n.2 k=0:=by
  by_cases e:Xi n.2 k=0
  ·exact e
  ·exact absurd z1 (c2 k e)
 have hV':mkV s n=(wrD s.1 k (Va n),(ctV s.2.1 n.2).set k 1,s.2.2):=by rw[e2,hV];rfl
 refine⟨k,by rw[e1,hN],h8,h256,z1,hz2,z2,hV',by rw[e2];exact Yac ht,?_,fun i hi=> ?_,c2,?_,hl⟩
 ·rw[hV'];exact Zcr (by rw[Zef];omega)
 ·rw[hV']
  show (((ctV s.2.1 n.2).set k 1)[i]?.getD 0).toNat=_;rw[V8 hi];exact c1 i
 ·rw[hV']
  show ((ctV s.2.1 n.2).set k 1).length=_;rw[Q3,Zef,hl]}
def dnO (t:List UInt8) (a:Nat):Option (List UInt8):=if t[a]?.getD 0=0 then none else some (t.set a (t[a]?.getD 0-1))
def Vi (f:List UInt8->Nat->Option (List UInt8)):List UInt8->List It->Option (List UInt8)
 | t,[]=>some t
 | t,x::l=>if x.2.1=0 then Vi f t l else (f t x.2.1.toNat).bind fun t'=>Vi f t' l
def lvS (d:Dk) (l:Nat) (f:List UInt8->Nat->Option (List UInt8)) (t:List UInt8) (a:Nat):Option (List UInt8) :=
 (dnO t a).bind fun t'=>if 1<(t[a]?.getD 0).toNat then some t' else if reN (Z1 d a)=0/\(reV (Z1 d a)).1=(l:Int) then Vi f t' (reV (Z1 d a)).2 else none
def lvF (d:Dk):Nat->List UInt8->Nat->Option (List UInt8)
 | 0=>dnO
 | l+1=>lvS d l (lvF d l)
def lfO (d:Dk) (t:List UInt8) (a:Nat):Option (List UInt8) :=
 (dnO t a).bind fun t'=>if 1<(t[a]?.getD 0).toNat then some t' else if reN (Z1 d a)=0 then Vi (lvF d (reV (Z1 d a)).1.toNat) t' (reV (Z1 d a)).2 else none
def lvE (s:Rm) (n:Int):Int:=if asE s n=0 then (match lfO s.1 s.2.1 n.toNat with | some _=>0 | none=>8) else asE s n
def lvV (s:Rm) (n:Int):Rm:=if asE s n=0 then (match lfO s.1 s.2.1 n.toNat with | some t=>(s.1,t,s.2.2) | none=>Zi) else Zi
def loV (s:Rm) (n:Int):Rm:=if asE s n=0 then (s.1,s.2.1.set n.toNat (s.2.1[n.toNat]?.getD 0-1),s.2.2) else Zi
structure LeT (u t:List UInt8):Prop where
 len:u.length=t.length
 le:∀ i:Nat,(u[i]?.getD 0).toNat<=(t[i]?.getD 0).toNat
theorem LeT.refl (t:List UInt8):LeT t t:=⟨rfl,fun _=>Qa _⟩
theorem LeT.trans {a b c:List UInt8}(h:LeT a b) (h':LeT b c):LeT a c:=⟨h.len.trans h'.len,fun i=>Qz (h.le i) (h'.le i)⟩
theorem Zdu {t u:List UInt8}{a:Nat}(h:dnO t a=some u):t[a]?.getD 0≠0/\u=t.set a (t[a]?.getD 0-1)/\LeT u t/\(u[a]?.getD 0).toNat+1=(t[a]?.getD 0).toNat:=by{
 unfold dnO at h;by_cases hz:t[a]?.getD 0=0
 ·rw[if_pos hz] at h;cases h
 ·rw[if_neg hz] at h
  cases h;have ha:a<t.length:=by
   by_cases e:a<t.length
   ·exact e
   ·exact absurd (by rw[Pm (by omega)];rfl) hz
  refine⟨hz,rfl,⟨Q3,fun i=> ?_⟩,?_⟩
  ·by_cases e:i=a
   ·subst e
    rw[Zcr ha];have:=Zh6 hz;omega
   ·rw[V8 e]
    exact Qa _
  ·rw[Zcr ha]
   exact Zh6 hz}
theorem Zf5 {f:List UInt8->Nat->Option (List UInt8)}(hf:∀ t a u,f t a=some u->LeT u t):∀ (l:List It) (t u:List UInt8),Vi f t l=some u->LeT u t
 | [],t,u,h=>by cases h;exact LeT.refl _
 | x::l,t,u,h=>by
  unfold Vi at h;split at h
  ·exact Zf5 hf l t u h
  ·cases hx:f t x.2.1.toNat with
   | none=>rw[hx] at h;cases h
   | some v =>
    rw[hx] at h;exact(Zf5 hf l v u h).trans (hf _ _ _ hx)
theorem Yam {d:Dk}{l:Nat}{f:List UInt8->Nat->Option (List UInt8)}(hf:∀ t a u,f t a=some u->LeT u t) (t:List UInt8) (a:Nat) (u:List UInt8) (h:lvS d l f t a=some u):LeT u t:=by{
 unfold lvS at h;cases hd:dnO t a with
 | none=>rw[hd] at h;cases h
 | some v =>
  rw[hd] at h;have h':(if 1<(t[a]?.getD 0).toNat then some v else if reN (Z1 d a)=0/\(reV (Z1 d a)).1=(l:Int) then Vi f v (reV (Z1 d a)).2 else none)=some u:=h;have hv:=(Zdu hd).2.2.1;split at h'
  ·cases h';exact hv
  ·split at h'
   ·exact(Zf5 hf _ _ _ h').trans hv
   ·cases h'}
theorem Zug (d:Dk):∀ (l:Nat) (t:List UInt8) (a:Nat) (u:List UInt8),lvF d l t a=some u->LeT u t
 | 0,_,_,_,h=>(Zdu h).2.2.1
 | l+1,t,a,u,h=>Yam (Zug d l) t a u h
theorem Zqc {d:Dk}{t u:List UInt8}{a:Nat}(h:lfO d t a=some u):t[a]?.getD 0≠0/\LeT u t/\(u[a]?.getD 0).toNat+1<=(t[a]?.getD 0).toNat/\(1<(t[a]?.getD 0).toNat->u=t.set a (t[a]?.getD 0-1)):=by{
 unfold lfO at h;cases hd:dnO t a with
 | none=>rw[hd] at h;cases h
 | some v =>
  rw[hd] at h;have h':(if 1<(t[a]?.getD 0).toNat then some v else if reN (Z1 d a)=0 then Vi (lvF d (reV (Z1 d a)).1.toNat) v (reV (Z1 d a)).2 else none)=some u:=h;obtain⟨h1,h2,hv,h3⟩:=Zdu hd;split at h'
  ·cases h'
   exact⟨h1,hv,by omega,fun _=>h2⟩
  ·rename_i hn
   split at h'
   ·have:=Zf5 (Zug d _) _ _ _ h'
    have h4:=this.le a;exact⟨h1,this.trans hv,by omega,fun hc=>absurd hc hn⟩
   ·cases h'}
theorem LeT.may {u t:List UInt8}(h:LeT u t) (hm:Zbk t=true):Zbk u=true :=
 Zhh (by rw[h.len];exact Yv hm) fun j hj=>by
  have h1:=h.le j;rw[Zlo hm hj] at h1;exact Vw.1 (by simpa using h1)
def Ybl (f:List UInt8->Nat->Option (List UInt8)):Prop:=∀ t a,1<(t[a]?.getD 0).toNat->f t a=some (t.set a (t[a]?.getD 0-1))
theorem Zdj {t:List UInt8}{a:Nat}(h:t[a]?.getD 0≠0):dnO t a=some (t.set a (t[a]?.getD 0-1)):=by rw[dnO,if_neg h]
theorem Zha {x:UInt8}(h:1<x.toNat):x≠0:=fun e=>by
 rw[Vw.2 e] at h;omega
theorem Zhu (d:Dk):∀ l,Ybl (lvF d l)
 | 0=>fun t a h=>Zdj (Zha h)
 | l+1=>fun t a h=>by
  show lvS d l (lvF d l) t a=_;unfold lvS;rw[Zdj (Zha h)];show (if 1<(t[a]?.getD 0).toNat then _ else _)=_;rw[if_pos h]
theorem Zjo {f:List UInt8->Nat->Option (List UInt8)}(hf:Ybl f):∀ (l:List It) (u v:List UInt8),Zbj l->u.length=256->v.length=256->(∀ i,(u[i]?.getD 0).toNat=(v[i]?.getD 0).toNat+Xi l i)->(∀ i,Xi l i≠0->v[i]?.getD 0≠0)->Vi f u l=some v
 | [],u,v,_,h1,h2,h,_=>congrArg some (Zxe (by omega) h)
 | x::l,u,v,hr,h1,h2,h,h'=>by
  obtain⟨r1,r2⟩:=Zcb hr;unfold Vi;rcases r1 with r1 | ⟨k,r1,h8,h256⟩
  ·rw[if_pos r1]
   exact Zjo hf l u v r2 h1 h2 (fun i=>by rw[h i,Zca r1]) (fun i hi=>h' i (by rwa [Zca r1]))
  ·have e0:¬ x.2.1=0:=by omega
   have ek:x.2.1.toNat=k:=by omega
   have hk:=h k;rw[Zba r1 h8,if_pos rfl] at hk;have hv:=h' k (by rw[Zba r1 h8,if_pos rfl];omega);have hv':(v[k]?.getD 0).toNat≠0:=fun e=>hv (Vw.1 e)
   have hu:1<(u[k]?.getD 0).toNat:=by omega
   rw[if_neg e0,ek,hf u k hu];show Vi f (u.set k (u[k]?.getD 0-1)) l=some v;refine Zjo hf l _ v r2 (by rw[Q3,h1]) h2 (fun i=> ?_) (fun i hi=>h' i (by rw[Zba r1 h8];omega));by_cases e:i=k
   ·subst e
    rw[Zcr (by omega)];have:=Zh6 (Zha hu);omega
   ·rw[V8 e,h i,Zba r1 h8,if_neg e]
    omega
theorem Z56 {d:Dk}{u v:List UInt8}{k:Nat}{n:Nd}(hb:Z1 d k=Va n) (hn:mayN n=true) (hi:InN n) (h1:u.length=256) (h2:v.length=256) (hk:k<256) (hu:u[k]?.getD 0=1) (hv:v[k]?.getD 0=0) (hz:Xi n.2 k=0)
  (h:∀ i,i≠k->(u[i]?.getD 0).toNat=(v[i]?.getD 0).toNat+Xi n.2 i) (h':∀ i,Xi n.2 i≠0->v[i]?.getD 0≠0):lfO d u k=some v:=by{
 obtain⟨r1,r2⟩:=Zb7 hn hi;unfold lfO;rw[Zdj (by rw[hu];decide),hu,hb,r1,r2];show Vi (lvF d n.1.toNat) (u.set k (1-1)) n.2=some v;refine Zjo (Zhu d _) n.2 _ v (Vv hn) (by rw[Q3,h1]) h2 (fun i=> ?_) h';by_cases e:i=k
 ·subst e
  rw[Zcr (by omega),hv,hz];rfl
 ·rw[V8 e,h i e]}
theorem Zb5 {s:Rm}{k:Nat}(hm:Xl s=true) (h8:8<=k) (h:k<256) (hx:s.2.1[k]?.getD 0≠0):asE s k=0:=by
 have hin:=Znj h8 h;have h1:¬ s.2.1[((k:Int)).toNat]?.getD 0=0:=by
  rw[show ((k:Int)).toNat=k by omega];exact hx
 rw[asE,hm,if_pos rfl,hin,if_pos rfl,if_neg h1]
theorem Z9l {s:Rm}{k:Nat}{v:List UInt8}(ha:asE s k=0) (hf:lfO s.1 s.2.1 k=some v):lvE s k=0/\lvV s k=(s.1,v,s.2.2):=by
 constructor
 ·rw[lvE,if_pos ha,show ((k:Int)).toNat=k by omega,hf]
 ·rw[lvV,if_pos ha,show ((k:Int)).toNat=k by omega,hf]
theorem Zjt {s:Rm}{k:Nat}{n:Nd}(ha:asE s k=0) (hb:Z1 s.1 k=Va n) (hn:mayN n=true) (hi:InN n):rmE s k=0/\rmV s k=n:=by
 obtain⟨r1,r2⟩:=Zb7 hn hi;constructor
 ·rw[rmE,if_pos ha,show ((k:Int)).toNat=k by omega,hb,r1]
 ·rw[rmV,if_pos ha,show ((k:Int)).toNat=k by omega,hb,r2]
theorem Z0f {s:Rm}{n:Nd}(hi:InN n) (h:mkE s n=0):∃ k:Nat,mkN s n=k/\8<=k/\k<256/\s.2.1[k]?.getD 0=0/\s.2.2[k]?.getD 0=0/\rmE (mkV s n) k=0/\rmV (mkV s n) k=n/\lvE (mkV s n) k=0/\lvV (mkV s n) k=(wrD s.1 k (Va n),s.2.1,s.2.2):=by
 obtain⟨_,hn,_⟩:=Zvx h;obtain⟨k,e1,h8,h256,hz,hz2,hc,hV,hm,c1,c2,c3,hl,hl0⟩:=X7 h;have ha:asE (mkV s n) k=0:=Zb5 hm h8 h256 (by rw[c1];decide);have hb:Z1 (mkV s n).1 k=Va n:=by rw[hV];exact Xt
 have hf:lfO (mkV s n).1 (mkV s n).2.1 k=some s.2.1:=Z56 (n:=n) hb hn hi hl hl0 h256 c1 hz hc c2 c3;obtain⟨r1,r2⟩:=Zjt ha hb hn hi;obtain⟨l1,l2⟩:=Z9l ha hf;exact⟨k,e1,h8,h256,hz,hz2,r1,r2,l1,by rw[l2,hV]⟩
structure Xu (s t:Rm):Prop where
 may:Xl t=true
 held:∀ k:Nat,s.2.1[k]?.getD 0≠0->t.2.1[k]?.getD 0≠0
 seen:∀ k:Nat,s.2.1[k]?.getD 0≠0->Z1 t.1 k=Z1 s.1 k
theorem Vp {s t:Rm}(h:Xu s t){a:Int}(ha:asE s a=0):asE t a=0/\rmE t a=rmE s a/\rmV t a=rmV s a:=by
 obtain⟨k,rfl,hm,h8,h256,_,_,hE,hV,hx⟩:=Y3 ha;have ht:asE t (k:Int)=0:=Zb5 h.may h8 h256 (h.held k hx);refine⟨ht,?_,?_⟩
 ·rw[hE,rmE,if_pos ht,show ((k:Int)).toNat=k by omega,h.seen k hx]
 ·rw[hV,rmV,if_pos ht,show ((k:Int)).toNat=k by omega,h.seen k hx]
theorem Zh8 {s t:Rm}(h:Xu s t){l:List It}(hl:Yr s l=true):Yr t l=true:=by
 unfold Yr at hl ⊢;rw[Qx] at hl ⊢;intro x hx;have h1:=hl x hx;simp only[Qae,decide_eq_true_eq] at h1 ⊢;exact h1.imp id (h.held _)
theorem Ux {f g:Int->Ky->Ky->Bool->Bool}(h:∀ a k tb e,f a k tb e=true->g a k tb e=true):∀ (l:List It) (tb:Ky) (e:Bool),Zap f l tb e=true->Zap g l tb e=true
 | [],_,_,_=>rfl
 | x::r,tb,e,hf=>by
  rw[Vj,Qe] at hf ⊢;exact⟨h _ _ _ _ hf.1,Ux h r tb e hf.2⟩
theorem Xr {f:Int->Ky->Ky->Bool->Bool}:∀ {l:List It}{tb:Ky}{e:Bool},Zap f l tb e=true->∀ x∈l,∃ t e,f x.2.1 x.1 t e=true
 | [],_,_,_,x,hx=>by simp at hx
 | y::r,tb,e,hf,x,hx=>by
  rw[Vj,Qe] at hf;rcases Qd.1 hx with rfl | hx
  ·exact⟨_,_,hf.1⟩
  ·exact Xr hf.2 x hx
theorem X5 {g g':Int->List It}:∀ {l:List It},(∀ x∈l,g x.2.1=g' x.2.1)->l.flatMap (fun x=>g x.2.1)=l.flatMap fun x=>g' x.2.1
 | [],_=>rfl
 | x::r,h=>by
  rw[Qv,Qv,h x Qg,X5 fun y hy=>h y (Qf _ hy)]
theorem Z7 {s t:Rm}(h:Xu s t):∀ (l:Nat) (a:Int) (k tb:Ky) (e:Bool),Zy s l a k tb e=true->Zy t l a k tb e=true/\X3 t l a=X3 s l a/\∀ q,Zcg t l a q=Zcg s l a q
 | 0,a,k,tb,e,hr=>by
  obtain⟨h1,h2,h3,h4⟩:=Ya hr;obtain⟨_,k1,k2⟩:=Vp h (Z9 h1).2;refine⟨?_,by unfold X3;rw[k2],fun q=>by unfold Zcg;rw[k2]⟩;unfold Zy;rw[k1,k2,h1,h2,h3,Zh8 h h4];rfl
 | l+1,a,k,tb,e,hr=>by
  obtain⟨h1,h2,h3,h4⟩:=Ya hr;obtain⟨_,k1,k2⟩:=Vp h (Z9 h1).2;have hm:=Xr h4;refine⟨?_,?_,fun q=> ?_⟩
  ·unfold Zy
   rw[k1,k2,h1,h2,h3,Ux (fun a k tb e hf=>(Z7 h l a k tb e hf).1) _ _ _ h4];simp
  ·unfold X3
   rw[k2];exact X5 fun x hx=>by
    obtain⟨t',e',hf⟩:=hm x hx;exact(Z7 h l _ _ _ _ hf).2.1
  ·unfold Zcg
   rw[k2];cases hf:(rmV s a).2.reverse.find? (fun x => !Zo q x.1) with
   | none=>rfl
   | some y =>
    obtain⟨t',e',hf'⟩:=hm y (Qw.1 (Q0 hf));exact(Z7 h l _ _ _ _ hf').2.2 q
theorem Zdf {s t:Rm}(h:Xu s t){a:Int}(ht:Yq s a=true):Yq t a=true/\asE t a=0/\rmV t a=rmV s a/\Zad t a=Zad s a/\∀ q,Zd8 t a q=Zd8 s a q:=by{
 obtain⟨h1,ha,hm,l0,l6,hi⟩:=Xe ht;obtain⟨k0,k1,k2⟩:=Vp h ha;have hi':=hi;unfold Uz at hi;have e1:(rmV s a).1.toNat=(rmV t a).1.toNat:=by rw[k2]
 refine⟨?_,k0,k2,?_,fun q=> ?_⟩
 ·unfold Yq
  rw[k1,k2,h1];unfold Uz;cases hl:(rmV s a).1.toNat with
  | zero=>rw[hl] at hi;simp only[Zh8 h hi];rfl
  | succ l=>rw[hl] at hi;simp only[Ux (fun a k tb e hf=>(Z7 h l a k tb e hf).1) _ _ _ hi];rfl
 ·unfold Zad
  rw[<- e1];cases hl:(rmV s a).1.toNat with
  | zero=>unfold X3;rw[k2]
  | succ l =>
   rw[hl] at hi;unfold X3;rw[k2];exact X5 fun x hx=>by
    obtain⟨t',e',hf⟩:=Xr hi x hx;exact(Z7 h l _ _ _ _ hf).2.1
 ·unfold Zd8
  rw[<- e1];cases hl:(rmV s a).1.toNat with
  | zero=>unfold Zcg;rw[k2]
  | succ l =>
   rw[hl] at hi;unfold Zcg;rw[k2];cases hf:(rmV s a).2.reverse.find? (fun x => !Zo q x.1) with
   | none=>rfl
   | some y =>
    obtain⟨t',e',hf'⟩:=Xr hi y (Qw.1 (Q0 hf));exact(Z7 h l _ _ _ _ hf').2.2 q}
theorem Zk4 {s:Rm}{n:Int}(h:shE s n=0):Xu s (shV s n):=by{
 have hm':=Z9v h;obtain⟨k,rfl,hm,h8,h256,h0,h255,hl,hV⟩:=Z66 h;refine⟨hm',fun i hi=> ?_,fun i hi=>by rw[hV]⟩;rw[hV];show (s.2.1.set k (s.2.1[k]?.getD 0+1))[i]?.getD 0≠0;by_cases e:i=k
 ·subst e
  rw[Zcr (by omega)];exact Zv9 h255
 ·rw[V8 e]
  exact hi}
def Y5 (g:Int->Option (Ky×Ky)):List It->Option (Ky×Ky)
 | []=>none
 | [x]=>(g x.2.1).bind fun p=>if p.1=x.1 then some p else none
 | x::y::r=>(g x.2.1).bind fun p=>(Y5 g (y::r)).bind fun q=>if p.1=x.1/\Zo p.2 y.1=true then some (p.1,q.2) else none
def Za8 (s:Rm):Nat->Int->Option (Ky×Ky)
 | 0,a=>if rmE s a=0/\(rmV s a).1=0/\Yr s (rmV s a).2=true then ((rmV s a).2[0]?).bind fun x=>((rmV s a).2.getLast?).map fun y=>(x.1,y.1) else none
 | l+1,a=>if rmE s a=0/\(rmV s a).1=((l+1:Nat):Int) then Y5 (Za8 s l) (rmV s a).2 else none
def LeK (a b:Ky):Prop:=a=b\/Zo a b=true
theorem LeK.lt {a b c:Ky}(h:LeK a b) (h':Zo b c=true):Zo a c=true:=h.elim (fun e=>by rw[e];exact h') fun h=>Yu h h'
theorem LeK.trans {a b c:Ky}(h:LeK a b) (h':LeK b c):LeK a c:=h'.elim (fun e=>e ▸ h) fun h'=>.inr (h.lt h')
theorem Za9 {g:Int->Option (Ky×Ky)}(hg:∀ a p,g a=some p->LeK p.1 p.2):∀ {l:List It}{p:Ky×Ky},Y5 g l=some p->LeK p.1 p.2/\∃ x r,l=x::r/\p.1=x.1
 | [],_,h=>by cases h
 | [x],p,h=>by
  unfold Y5 at h;cases hx:g x.2.1 with
  | none=>rw[hx] at h;cases h
  | some q =>
   rw[hx] at h;have h':(if q.1=x.1 then some q else none)=some p:=h;split at h'
   ·rename_i e
    cases h';exact⟨hg _ _ hx,x,[],rfl,e⟩
   ·cases h'
 | x::y::r,p,h=>by
  unfold Y5 at h;cases hx:g x.2.1 with
  | none=>rw[hx] at h;cases h
  | some q =>
   rw[hx] at h;cases hc:Y5 g (y::r) with
   | none=>rw[hc] at h;cases h
   | some q' =>
    rw[hc] at h;have h':(if q.1=x.1/\Zo q.2 y.1=true then some (q.1,q'.2) else none)=some p:=h;obtain⟨i1,y',r',e',i2⟩:=Za9 hg hc;cases e';split at h'
    ·rename_i e
     cases h';refine⟨.inr ?_,x,y::r,rfl,e.1⟩;have h1:Zo q.1 y.1=true:=(hg _ _ hx).lt e.2;rw[<- i2] at h1;exact i1.elim (fun e=>e ▸ h1) fun h2=>Yu h1 h2
    ·cases h'
theorem Zeo (s:Rm):∀ (l:Nat) (a:Int) (p:Ky×Ky),Za8 s l a=some p->LeK p.1 p.2
 | 0,a,p,h=>by
  unfold Za8 at h;split at h
  ·rename_i hc
   have hu:=Ug (Z9 hc.1).1;cases hl:(rmV s a).2 with
   | nil=>rw[hl] at h;cases h
   | cons x r =>
    rw[hl] at h hu;cases hz:(x::r).getLast? with
    | none=>rw[hz] at h;cases h
    | some z =>
     rw[hz] at h;cases h;rcases Zdr hu z (Pn hz) with e | e
     ·exact .inl e.symm
     ·exact .inr e
  ·cases h
 | l+1,a,p,h=>by
  unfold Za8 at h;split at h
  ·exact(Za9 (Zeo s l) h).1
  ·cases h
theorem Zfq {f:Int->Ky->Ky->Bool->Bool}{g:Int->Option (Ky×Ky)}(hle:∀ a p,g a=some p->LeK p.1 p.2) (hfg:∀ a k tb e,f a k tb e=true↔∃ t,g a=some (k,t)/\(e=true->Zo t tb=true)):∀ (l:List It) (tb:Ky) (e:Bool),l≠[] ->
  (Zap f l tb e=true↔∃ p,Y5 g l=some p/\(e=true->Zo p.2 tb=true))
 | [],_,_,h=>absurd rfl h
 | [x],tb,e,_=>by
  show f x.2.1 x.1 tb e=true↔_;rw[hfg];unfold Y5;constructor
  ·rintro⟨t,h1,h2⟩
   exact⟨(x.1,t),by rw[h1];simp,h2⟩
  ·rintro⟨p,h1,h2⟩
   cases hx:g x.2.1 with
   | none=>rw[hx] at h1;cases h1
   | some q =>
    rw[hx] at h1;have h':(if q.1=x.1 then some q else none)=some p:=h1;split at h'
    ·rename_i e1
     cases h';exact⟨p.2,by rw[<- e1],h2⟩
    ·cases h'
 | x::y::r,tb,e,_=>by
  have ih:=Zfq hle hfg (y::r) tb e (by simp);show (f x.2.1 x.1 y.1 true&&Zap f (y::r) tb e)=true↔_;rw[Qe,hfg,ih];constructor
  ·rintro⟨⟨t,h1,h2⟩,p,h3,h4⟩
   refine⟨(x.1,p.2),?_,h4⟩;unfold Y5;rw[h1,h3];simp[h2 rfl]
  ·rintro⟨p,h1,h2⟩
   unfold Y5 at h1;cases hx:g x.2.1 with
   | none=>rw[hx] at h1;cases h1
   | some q =>
    rw[hx] at h1;cases hc:Y5 g (y::r) with
    | none=>rw[hc] at h1;cases h1
    | some q' =>
     rw[hc] at h1;have h':(if q.1=x.1/\Zo q.2 y.1=true then some (q.1,q'.2) else none)=some p:=h1;split at h'
     ·rename_i e1
      cases h';exact⟨⟨q.2,by rw[<- e1.1],fun _=>e1.2⟩,q',rfl,h2⟩
     ·cases h'
theorem Zgc (s:Rm):∀ (l:Nat) (a:Int) (k tb:Ky) (e:Bool),Zy s l a k tb e=true↔∃ t,Za8 s l a=some (k,t)/\(e=true->Zo t tb=true)
 | 0,a,k,tb,e=>by
  constructor
  ·intro h
   obtain⟨h1,h2,h3,h4⟩:=Ya h;obtain⟨x,r,hl,ek,hz⟩:=Zbr h3;obtain⟨z,hz1⟩:∃ z,(rmV s a).2.getLast? = some z:=by
    rw[hl];exact⟨_,Pz (by simp)⟩
   refine⟨z.1,?_,fun he=> ?_⟩
   ·unfold Za8
    rw[if_pos ⟨h1,h2,h4⟩,hz1,show (rmV s a).2[0]? = some x by rw[hl];rfl,<- ek];rfl
   ·obtain⟨z',e1,e2⟩:=hz he
    rw[hz1] at e1;cases e1;exact e2
  ·rintro⟨t,h1,h2⟩
   unfold Za8 at h1;split at h1
   ·rename_i hc
    unfold Zy;cases hx:(rmV s a).2[0]? with
    | none=>rw[hx] at h1;cases h1
    | some x =>
     cases hz:(rmV s a).2.getLast? with
     | none=>rw[hx,hz] at h1;cases h1
     | some z =>
      rw[hx,hz] at h1;have h1':(some (x.1,z.1):Option (Ky×Ky))=some (k,t):=h1;simp only[Option.some.injEq,Prod.mk.injEq] at h1';have hh:Zen (rmV s a).2 k tb e=true:=by
       unfold Zen;rw[hx,hz];cases e with
       | false=>simp[h1'.1]
       | true=>simp[h1'.1,h1'.2,h2 rfl]
      rw[hc.1,hc.2.1,hc.2.2,hh]
      decide
   ·cases h1
 | l+1,a,k,tb,e=>by
  have hc:=Zfq (Zeo s l) (fun a k tb e=>Zgc s l a k tb e) (rmV s a).2 tb e;constructor
  ·intro h
   obtain⟨h1,h2,h3,h4⟩:=Ya h;obtain⟨x,r,hl,ek,_⟩:=Zbr h3;obtain⟨p,hp,hb⟩:=(hc (by rw[hl];simp)).1 h4;obtain⟨_,x',r',e',hf⟩:=Za9 (Zeo s l) hp;rw[hl] at e';cases e';refine⟨p.2,?_,hb⟩;unfold Za8;rw[if_pos ⟨h1,h2⟩,hp,<- ek,<- hf]
  ·rintro⟨t,h1,h2⟩
   unfold Za8 at h1;split at h1
   ·rename_i hcond
    obtain⟨_,x,r,hl,hf⟩:=Za9 (Zeo s l) h1;have hi:=(hc (by rw[hl];simp)).2 ⟨(k,t),h1,h2⟩;have hh:Zen (rmV s a).2 k tb e=true:=by
     cases e with
     | false =>
      unfold Zen;rw[hl];simp[<- hf]
     | true =>
      obtain⟨x',r',e',hp⟩:=Zat (Y4 s l) (rmV s a).2 tb true (by rw[hl];simp) hi;obtain⟨z,hz1⟩:∃ z,(rmV s a).2.getLast? = some z:=by
       rw[hl];exact⟨_,Pz (by simp)⟩
      obtain⟨t',e2,hf2⟩:=Xr hi z (Pn hz1);obtain⟨y,r2,ey,ky⟩:=(Y4 s l _ _ _ _ hf2).first;have hy:=hp.bound rfl y (Qk.2 ⟨z,Pn hz1,by rw[ey];simp⟩);rw[ky] at hy;unfold Zen;rw[hz1,show (rmV s a).2[0]? = some x by rw[hl];rfl];simp[<- hf,hy]
    unfold Zy;rw[hcond.1,hcond.2,hh,hi];simp
   ·cases h1
theorem Z1b (s:Rm) (a:Int):Yq s a=true↔rmE s a=0/\(match (rmV s a).1.toNat with | 0=>Yr s (rmV s a).2=true | l+1=>∃ p,Y5 (Za8 s l) (rmV s a).2=some p):=by{
 constructor
 ·intro h
  obtain⟨h1,_,hm,l0,_,hi⟩:=Xe h;refine⟨h1,?_⟩;unfold Uz at hi;cases hl:(rmV s a).1.toNat with
  | zero=>rw[hl] at hi;exact hi
  | succ l =>
   rw[hl] at hi;have hne:(rmV s a).2≠[]:=fun e=>by
    have:=(Zx hm).1.2.2.2 (by omega);rw[e] at this;simp at this
   obtain⟨p,hp,_⟩:=(Zfq (Zeo s l) (fun a k tb e=>Zgc s l a k tb e) _ Zbl false hne).1 hi;exact⟨p,hp⟩
 ·rintro⟨h1,h2⟩
  unfold Yq;rw[h1];unfold Uz;cases hl:(rmV s a).1.toNat with
  | zero=>rw[hl] at h2;simp only[h2];rfl
  | succ l =>
   rw[hl] at h2;obtain⟨p,hp⟩:=h2;obtain⟨_,x,r,e,_⟩:=Za9 (Zeo s l) hp;have:=(Zfq (Zeo s l) (fun a k tb e=>Zgc s l a k tb e) (rmV s a).2 Zbl false (by rw[e];simp)).2 ⟨p,hp,fun h=>by cases h⟩;simp only[this];rfl}
def In (lo hi:Nat):Qay->Prop:=fun p=>lo<=p.block/\p.block<hi
theorem Ze6 {w w1:Qaw}{Fs:List (Qaw->Prop)}(h:Bag w Fs) (hb:Qa3 w.heap.size w w1) (a b:Qax):∃ w',w1.alloc (.cells #[a,b] 81)=w'/\Bag w' (Ybp w1.heap.size a b::Fs)/\Qa3 w.heap.size w w'/\Qa3 w1.heap.size w1 w'/\w1.heap.size<w'.heap.size:=by
 obtain⟨w2,e2,b2,k4,k5⟩:=Yb w1 a b 81;obtain⟨k1,k2,_,k3⟩:=Zg b2;exact⟨w2,e2,((h.below hb).below k5).add ⟨k1,k2,k3⟩ (Zzx _ _ _),hb.trans (k5.mono hb.size),k5,by omega⟩
def Z4x (v:Qax) (n:Nd):Qaw->Prop:=fun w=>Nod (Old w) w v n
theorem Zb2 (v:Qax) (n:Nd):Zfb (Z4x v n):=fun _ _ h hb=>h.below hb
def Zxt (v:Qax) (l:List It):Qaw->Prop:=fun w=>Zan (Old w) w [v] l
theorem Zic (v:Qax) (l:List It):Zfb (Zxt v l):=fun _ _ h hb=>Xn.old h hb
theorem Zso {l:List It}{k:Ky}:∀ {i:Nat},i<=l.length->(∀ j x,j<i->l[j]? = some x->Zo x.1 k=true)->Zfr (l.take i) k=i
 | 0,_,_=>rfl
 | i+1,hi,h=>by
  have hx:l[i]? = some l[i]:=Qc hi;rw[Zt6 hx (h i _ (by omega) hx),Zso (by omega) (fun j x hj=>h j x (by omega))]
theorem Z52 (l:List It) (k:Ky) (i:Nat):Zfr (l.take i) k<=Zfr l k:=by
 unfold Zfr;exact((List.take_sublist i l).filter _).length_le
theorem Z0o {l:List It}{k:Ky}{i:Nat}(h:∀ j x,i<=j->l[j]? = some x->Zo x.1 k=false):Zfr l k=Zfr (l.take i) k:=by{
 have e:Zfr l k=Zfr (l.take i) k+Zfr (l.drop i) k:=by
  unfold Zfr;rw[<- Qaa,<- Qaf,Qy]
 have z:Zfr (l.drop i) k=0:=by
  unfold Zfr;rw[List.length_eq_zero_iff,Qag];intro x hx;obtain⟨j,hj⟩:=Qah.1 hx;rw[Q4] at hj;rw[h (i+j) x (by omega) hj];simp
 omega}
theorem Um {n:Nd}(h:mayN n=true){k:Ky}{i:Nat}{x:It}(hx:n.2[i]? = some x):Zo x.1 k=decide (i<Z2 n k):=by{
 have hi:=(Qj.1 hx).1;cases e:Zo x.1 k with
 | true =>
  have h1:Zfr (n.2.take (i+1)) k=i+1:=Zso (by omega) (fun j y hj hy=>by
   rcases Po j i with h2 | h2
   ·exact Yu (Zav h h2 hy hx) e
   ·obtain rfl:j=i:=by omega
    rw[hx] at hy;cases hy
    exact e)
  have h2:=Z52 n.2 k (i+1);have h3:Z2 n k=Zfr n.2 k:=rfl;have:i<Z2 n k:=by omega
  simp[this]
 | false =>
  have h1:Zfr n.2 k=Zfr (n.2.take i) k:=Z0o (fun j y hj hy=>by
   rcases Po i j with h2 | h2
   ·cases e2:Zo y.1 k with
    | false=>rfl
    | true =>
     have:=Yu (Zav h h2 hx hy) e2;rw[e] at this;cases this
   ·obtain rfl:i=j:=by omega
    rw[hx] at hy;cases hy
    exact e)
  have h2:=Zn8 n.2 k i;have h3:Z2 n k=Zfr n.2 k:=rfl;have:¬ i<Z2 n k:=by omega
  simp[this]}
theorem Zbw (n:Nd) (k:Ky):Z2 n k<=n.2.length:=Zxy _ _
theorem Zh1 {n:Nd}(h:mayN n=true){i:Nat}{x:It}(hx:n.2[i]? = some x):Z2 n x.1=i/\Yk n x.1=true:=by{
 have hi:=(Qj.1 hx).1;have h1:¬ i<Z2 n x.1:=fun h2=>by
  have:=Um h (k:=x.1) hx;rw[Y6] at this;simp[h2] at this
 have h2:Z2 n x.1=i:=by
  rcases Nat.eq_zero_or_pos i with h0 | h0
  ·omega
  ·obtain⟨j,rfl⟩:∃ j,i=j+1:=⟨i-1,by omega⟩
   have hy:n.2[j]? = some n.2[j]:=Qc (by omega);have h3:=Um h (k:=x.1) hy;rw[Zib h hy hx] at h3;have:j<Z2 n x.1:=by simpa using h3.symm
   omega
 exact⟨h2,by rw[Zix (by rw[h2];exact hx)];simp⟩}
theorem Z1i {p:It->Bool}{l:List It}{k:Nat}{x:It}(hx:l[k]? = some x):(l.take (k+1)).reverse.find? p=if p x=true then some x else (l.take k).reverse.find? p:=by
 have hk:=(Qj.1 hx).1;have hg:l[k]=x:=(Qj.1 hx).2;rw[<- Pj hk,hg,Qai,List.reverse_singleton,List.singleton_append,Qac];cases p x <;> rfl
theorem Zwz {p:It->Bool}{l:List It}{j:Nat}{x:It}(hx:l[j]? = some x) (h1:p x=true) (h2:∀ i y,j<i->l[i]? = some y->p y=false):l.reverse.find? p=some x:=by{
 have e:l.reverse.find? p=(l.take (j+1)).reverse.find? p:=by
  conv=>lhs;rw[<- Qy (j+1) l,Qai,Qab]
  rw[Zdm (l:=l.drop (j+1)) fun y hy=>by
   obtain⟨i,hi⟩:=Qm hy;rw[Q4] at hi
   exact h2 (j+1+i) y (by omega) hi]
  rfl
 rw[e,Z1i hx,if_pos h1]}
theorem Uq {n:Nd}(h:mayN n=true){k:Ky}{x:It}(ht:Yk n k=true) (hx:n.2[Z2 n k]? = some x):x.1=k/\(n.2.reverse.find? fun x => !Zo k x.1)=some x/\(n.2.reverse.find? fun x=>decide (x.1=k))=some x:=by{
 have e:x.1=k:=by
  rw[Zix hx] at ht
  simpa using ht
 have hup:∀ i y,Z2 n k<i->n.2[i]? = some y->Zo k y.1=true:=fun i y hi hy=>by
  rw[<- e];exact Zav h hi hx hy
 refine⟨e,Zwz hx (by rw[e,Y6];rfl) fun i y hi hy=>by rw[hup i y hi hy];rfl,Zwz hx (by simpa using e) fun i y hi hy=> ?_⟩;have h1:=hup i y hi hy;have:y.1≠k:=fun e2=>by rw[e2,Y6] at h1;cases h1
 simpa using this}
theorem Zgf {n:Nd}(h:mayN n=true){k:Ky}(ht:Yk n k=false):(n.2.reverse.find? fun x=>decide (x.1=k))=none:=Zdm fun x hx=>by
 obtain⟨i,hi⟩:=Qm hx;have:x.1≠k:=fun e=>by
  have:=(Zh1 h hi).2;rw[e,ht] at this;cases this
 simpa using this
theorem Zbo {n:Nd}(h:mayN n=true){k:Ky}(ht:Yk n k=false){i:Nat}{y:It}(hi:Z2 n k<=i) (hy:n.2[i]? = some y):Zo k y.1=true:=by
 have h1:=Um h (k:=k) hy;rw[decide_eq_false (by omega)] at h1;have hne:y.1≠k:=fun e=>by
  have:=(Zh1 h hy).2;rw[e,ht] at this;cases this
 exact Zbx hne h1
theorem Zi2 {n:Nd}(h:mayN n=true){k:Ky}{j:Nat}{x:It}(ht:Yk n k=false) (hj:Z2 n k=j+1) (hx:n.2[j]? = some x):(n.2.reverse.find? fun x => !Zo k x.1)=some x:=by
 have h1:=Um h (k:=k) hx;rw[decide_eq_true (by omega)] at h1;refine Zwz hx (by rw[Vo h1];rfl) fun i y hi hy=> ?_
 rw[Zbo h ht (by omega) hy];rfl
theorem Zkq {n:Nd}(h:mayN n=true){k:Ky}(ht:Yk n k=false) (hj:Z2 n k=0):(n.2.reverse.find? fun x => !Zo k x.1)=none:=Zdm fun y hy=>by
 obtain⟨i,hi⟩:=Qm hy;rw[Zbo h ht (by omega) hi];rfl
theorem Zbe {n:Nd}{k:Ky}(ht:Yk n k=true):Z2 n k<n.2.length:=by{
 rcases Po (Z2 n k) n.2.length with h | h
 ·exact h
 ·rw[Zku h] at ht
  cases ht}
structure AtT (s:Rm) (l:Nat) (a:Int):Prop where
 ok:rmE s a=0
 lvl:(rmV s a).1=(l:Int)
 below:∀ j,l=j+1->∀ x∈(rmV s a).2,∃ t e,Zy s j x.2.1 x.1 t e=true
theorem AtT.may {s:Rm}{l:Nat}{a:Int}(h:AtT s l a):mayN (rmV s a)=true:=(Z9 h.ok).1
theorem Z3r {s:Rm}{l:Nat}{a:Int}{k tb:Ky}{e:Bool}(h:Zy s l a k tb e=true):AtT s l a:=by
 obtain⟨h1,h2,_,h4⟩:=Ya h;refine⟨h1,h2,fun j hj x hx=> ?_⟩;subst hj;exact Xr h4 x hx
theorem AtT.down {s:Rm}{j:Nat}{a:Int}(h:AtT s (j+1) a){x:It}(hx:x∈(rmV s a).2):AtT s j x.2.1:=by
 obtain⟨t,e,hr⟩:=h.below j rfl x hx;exact Z3r hr
theorem Zbs {s:Rm}{a:Int}(h:Yq s a=true):AtT s (rmV s a).1.toNat a:=by
 obtain⟨h1,_,_,l0,_,hi⟩:=Xe h;refine⟨h1,by omega,fun j hj x hx=> ?_⟩;unfold Uz at hi;rw[hj] at hi;exact Xr hi x hx
theorem Zjs (s:Rm) (a:Int) (k:Ky):Zcg s 0 a k=(rmV s a).2.reverse.find? fun x=>decide (x.1=k):=rfl
theorem Zjg (s:Rm) (l:Nat) (a:Int) (k:Ky):Zcg s (l+1) a k=((rmV s a).2.reverse.find? fun x => !Zo k x.1).bind fun x=>Zcg s l x.2.1 k:=rfl
def Zch (s:Rm) (n:Nd):Option (Ky×Ky):=match n.1.toNat with
 | 0=>if Yr s n.2=true then (n.2[0]?).bind fun x=>(n.2.getLast?).map fun y=>(x.1,y.1) else none
 | l+1=>Y5 (Za8 s l) n.2
theorem Zny (s:Rm) (l:Nat) (a:Int):Za8 s l a=if rmE s a=0/\(rmV s a).1=(l:Int) then Zch s (rmV s a) else none:=by{
 cases l with
 | zero =>
  unfold Za8;by_cases h1:rmE s a=0/\(rmV s a).1=((0:Nat):Int)
  ·rw[if_pos h1]
   unfold Zch;rw[h1.2];by_cases h2:Yr s (rmV s a).2=true
   ·rw[if_pos ⟨h1.1,rfl,h2⟩]
    show _=if Yr s (rmV s a).2=true then _ else none
    rw[if_pos h2]
   ·rw[if_neg (fun h=>h2 h.2.2)]
    show _=if Yr s (rmV s a).2=true then _ else none
    rw[if_neg h2]
  ·rw[if_neg h1,if_neg (fun h=>h1 ⟨h.1,h.2.1⟩)]
 | succ l =>
  unfold Za8;by_cases h1:rmE s a=0/\(rmV s a).1=((l+1:Nat):Int)
  ·rw[if_pos h1,if_pos h1]
   unfold Zch;rw[h1.2,show ((l+1:Nat):Int).toNat=l+1 by omega]
  ·rw[if_neg h1,if_neg h1]}
theorem Zom {s:Rm}{n:Nd}{x y:It}{j:Nat}(h:n.1=0) (hx:n.2[0]? = some x) (hj:n.2.length=j+1) (hy:n.2[j]? = some y):Zch s n=if Yr s n.2=true then some (x.1,y.1) else none:=by
 have hl:n.2.getLast? = some y:=by rw[List.getLast?_eq_getElem?,hj];exact hy
 unfold Zch;rw[h];show (if Yr s n.2=true then _ else none)=_;rw[hx,hl];rfl
theorem Zpa {s:Rm}{n:Nd}{l:Nat}(h:n.1=((l+1:Nat):Int)):Zch s n=Y5 (Za8 s l) n.2:=by
 unfold Zch;rw[h,show ((l+1:Nat):Int).toNat=l+1 by omega]
theorem Zfh {g:Int->Option (Ky×Ky)}{l:List It}{x:It}(hx:l[0]? = some x):Y5 g (l.take 1)=(g x.2.1).bind fun p=>if p.1=x.1 then some p else none:=by{
 cases l with
 | nil=>cases hx
 | cons y r =>
  cases hx;rfl}
theorem Zoe {g:Int->Option (Ky×Ky)}(x:It):∀ (l:List It),l≠[]->Y5 g (l++[x])=(Y5 g l).bind fun q=>(g x.2.1).bind fun p=>if p.1=x.1/\Zo q.2 x.1=true then some (q.1,p.2) else none
 | [],h=>absurd rfl h
 | [y],_=>by
  show (g y.2.1).bind _=_;unfold Y5;cases g y.2.1 with
  | none=>rfl
  | some p =>
   show ((Y5 g [x]).bind _)=((if p.1=y.1 then some p else none):Option (Ky×Ky)).bind _;unfold Y5;cases g x.2.1 with
   | none =>
    by_cases h1:p.1=y.1 <;> simp[h1]
   | some q =>
    by_cases h1:p.1=y.1 <;> by_cases h2:q.1=x.1 <;> by_cases h3:Zo p.2 x.1=true <;> simp[h1,h2,h3]
 | y::z::r,_=>by
  have ih:=Zoe (g:=g) x (z::r) (by simp);show (g y.2.1).bind (fun p=>(Y5 g (z::r++[x])).bind _)=_;rw[ih]
  conv=>rhs;unfold Y5
  cases g y.2.1 with
  | none=>rfl
  | some p =>
   cases Y5 g (z::r) with
   | none=>rfl
   | some q =>
    cases g x.2.1 with
    | none =>
     by_cases h1:p.1=y.1/\Zo p.2 z.1=true <;> simp[h1]
    | some q' =>
     by_cases h1:p.1=y.1/\Zo p.2 z.1=true <;> by_cases h2:q'.1=x.1/\Zo q.2 x.1=true <;> simp[h1,h2]
theorem Zaw {g:Int->Option (Ky×Ky)}{l:List It}{k:Nat}{x:It}(hx:l[k]? = some x) (hk:0<k):Y5 g (l.take (k+1))=(Y5 g (l.take k)).bind fun q=>(g x.2.1).bind fun p=>if p.1=x.1/\Zo q.2 x.1=true then some (q.1,p.2) else none:=by
 have hl:=(Qj.1 hx).1;have hg:l[k]=x:=(Qj.1 hx).2;rw[<- Pj hl,hg];exact Zoe x _ fun e=>by
  have h0:(l.take k).length=0:=by rw[e];rfl
  rw[Pp] at h0;omega
theorem Zi1 {g:Int->Option (Ky×Ky)}{l:List It}:∀ {k:Nat},0<k->Y5 g (l.take k)=none->Y5 g l=none:=fun {k} hk h=>by
 induction hn:l.length-k generalizing k with
 | zero=>rwa [Qaj (by omega)] at h
 | succ n ih =>
  obtain⟨x,hx⟩:∃ x,l[k]? = some x:=⟨_,Qc (by omega)⟩
  exact ih (k:=k+1) (by omega) (by rw[Zaw hx hk,h];rfl) (by omega)
theorem Zx1 {g:Int->Option (Ky×Ky)}{l:List It}{x:It}(hx:l[0]? = some x):∀ {k:Nat}{q:Ky×Ky},0<k->k<=l.length->Y5 g (l.take k)=some q->q.1=x.1:=fun {k} {q} hk hl h=>by
 induction k generalizing q with
 | zero=>omega
 | succ k ih =>
  by_cases h0:k=0
  ·subst h0
   rw[Zfh hx] at h;cases hg:g x.2.1 with
   | none=>rw[hg] at h;cases h
   | some p =>
    rw[hg] at h;have h':(if p.1=x.1 then some p else none)=some q:=h;split at h'
    ·rename_i e;cases h';exact e
    ·cases h'
  ·obtain⟨y,hy⟩:∃ y,l[k]? = some y:=⟨_,Qc (by omega)⟩
   rw[Zaw hy (by omega)] at h;cases hc:Y5 g (l.take k) with
   | none=>rw[hc] at h;cases h
   | some q' =>
    have e:=ih (by omega) (by omega) hc;rw[hc] at h;cases hg:g y.2.1 with
    | none=>rw[hg] at h;cases h
    | some p =>
     rw[hg] at h;have h':(if p.1=y.1/\Zo q'.2 y.1=true then some (q'.1,p.2) else none)=some q:=h;split at h'
     ·cases h';exact e
     ·cases h'
def Zcv (s:Rm) (n:Nd):Bool:=decide (n.2.length=0)||(Zch s n).isSome
theorem Zrz {s:Rm}{a:Int}(h:rmE s a=0):Zcv s (rmV s a)=Yq s a:=by{
 have hm:=(Z9 h).1;have hsh:=(Zx hm).1;have e:Yq s a=true↔Zcv s (rmV s a)=true:=by
  rw[Z1b];unfold Zcv;rw[Qae,decide_eq_true_eq];cases hl:(rmV s a).1.toNat with
  | zero =>
   have h0:(rmV s a).1=0:=by omega
   simp only;by_cases hz:(rmV s a).2.length=0
   ·have:(rmV s a).2=[]:=Qak hz
    rw[this];simp[h,Yr]
   ·obtain⟨j,hj⟩:∃ j,(rmV s a).2.length=j+1:=⟨(rmV s a).2.length-1,by omega⟩
    obtain⟨x,hx⟩:∃ x,(rmV s a).2[0]? = some x:=⟨_,Qc (by omega)⟩
    obtain⟨y,hy⟩:∃ y,(rmV s a).2[j]? = some y:=⟨_,Qc (by omega)⟩
    rw[Zom h0 hx hj hy];by_cases h2:Yr s (rmV s a).2=true <;> simp[h,h2,hz]
  | succ l =>
   have h1:(rmV s a).1=((l+1:Nat):Int):=by omega
   have hz:¬ (rmV s a).2.length=0:=by have:=hsh.2.2.2 (by omega);omega
   rw[Zpa h1];simp only;constructor
   ·rintro⟨_,p,hp⟩
    rw[hp];exact .inr rfl
   ·rintro(h3 | h3)
    ·exact absurd h3 hz
    ·exact⟨h,Option.isSome_iff_exists.1 h3⟩
 cases h1:Yq s a with
 | true=>exact e.1 h1
 | false =>
  cases h2:Zcv s (rmV s a) with
  | false=>rfl
  | true=>rw[e.2 h2] at h1;cases h1}
def Zpf (k:Ky) (l:List It):Nat:=(l.filter fun x=>decide (x.1=k)).length
theorem Zw1 {k:Ky}:∀ {l:List It},Up l->Zpf k l=if ∃ x∈l,x.1=k then 1 else 0
 | [],_=>by simp[Zpf]
 | x::r,h=>by
  obtain⟨h1,h2⟩:=Qt.1 h;have ih:=Zw1 (k:=k) h2;have e:Zpf k (x::r)=(if x.1=k then 1 else 0)+Zpf k r:=by
   unfold Zpf;by_cases hx:x.1=k
   ·simp[hx];omega
   ·simp[hx]
  rw[e,ih];by_cases hx:x.1=k
  ·have hn:¬ ∃ y∈r,y.1=k:=fun⟨y,hy,ey⟩=>by
    have:=h1 y hy;rw[hx,ey,Y6] at this;cases this
   rw[if_pos hx,if_neg hn,if_pos ⟨x,Qg,hx⟩]
  ·rw[if_neg hx,Nat.zero_add]
   by_cases hr:∃ y∈r,y.1=k
   ·obtain⟨y,hy,ey⟩:=hr
    rw[if_pos ⟨y,hy,ey⟩,if_pos ⟨y,Qf _ hy,ey⟩]
   ·rw[if_neg hr,if_neg]
    rintro⟨y,hy,ey⟩;rcases Qd.1 hy with rfl | hy
    ·exact hx ey
    ·exact hr ⟨y,hy,ey⟩
theorem Zzc {s:Rm}{a:Int}(h:Yq s a=true) (k:Ky):Zpf k (Zad s a)=if (Zd8 s a k).isSome then 1 else 0:=by{
 rw[Zw1 (Zhb h).1];cases ht:Zd8 s a k with
 | none =>
  have:=(Z3u h).1 ht;rw[if_neg (fun⟨x,hx,e⟩=>this x hx e)];rfl
 | some x =>
  obtain⟨h1,h2⟩:=Z4y ht;rw[if_pos ⟨x,h1,h2⟩];rfl}
def Z5b (f t:Ky) (x:It):Bool := !Zo x.1 f && !Zo t x.1
def Zg3 (s:Rm) (a:Int) (f t:Ky):List It:=(Zad s a).filter (Z5b f t)
def raV (s:Rm) (a:Int) (f t:Ky):List It:=if ckE s a=0 then Zg3 s a f t else []
theorem Z12 {f t:Ky}{x:It}:Z5b f t x=true↔Zo x.1 f=false/\Zo t x.1=false:=by
 unfold Z5b;simp
theorem Zre {a b c:Ky}(h:Zo a b=true) (h':Zo c b=false):Zo a c=true:=by
 by_cases e:c=b
 ·rw[e];exact h
 ·exact Yu h (Zbx e h')
theorem Ut {p:It->Bool}{L:List It}(h:∀ x∈L,p x=false):L.filter p=[]:=by
 rw[Qag];intro x hx;rw[h x hx];simp
def Y0 (s:Rm):Nat->Int->List Int
 | 0,a=>[a]
 | l+1,a=>a::(rmV s a).2.flatMap fun x=>Y0 s l x.2.1
def Vq (s:Rm):Nat->Int->List Int
 | 0,a=>((rmV s a).2.map fun x=>x.2.1).filter fun r=>decide (r≠0)
 | l+1,a=>(rmV s a).2.flatMap fun x=>Vq s l x.2.1
def Xo (s:Rm) (a:Int):List Int:=Y0 s (rmV s a).1.toNat a
def Zez (s:Rm) (a:Int):List Int:=Vq s (rmV s a).1.toNat a
def Zrt (L:List Int):List Nat:=(List.range 256).filter fun k=>decide ((k:Int)∈L)
theorem Z7b (L:List Int):(Zrt L).Pairwise (· < ·):=P1.filter _ List.pairwise_lt_range
theorem Zys {L:List Int}{k:Nat}:k∈Zrt L↔k<256/\(k:Int)∈L:=by
 unfold Zrt;rw[Qi,List.mem_range,decide_eq_true_eq]
structure Blk (s:Rm) (l:Nat) (a:Int) (N R:List Int):Prop where
 root:a∈N
 node:∀ n∈N,rmE s n=0
 sub:∀ n∈N,∀ x∈(rmV s n).2,((rmV s n).1≠0->x.2.1∈N)/\((rmV s n).1=0->x.2.1≠0->x.2.1∈R)
 held:∀ r∈R,r≠0/\s.2.1[r.toNat]?.getD 0≠0/\8<=r/\r<256
theorem Z8g {s:Rm}{l:List It}(h:Yr s l=true){x:It}(hx:x∈l):x.2.1=0\/s.2.1[x.2.1.toNat]?.getD 0≠0:=by
 unfold Yr at h;rw[Qx] at h;have:=h x hx
 simpa using this
theorem Z7d {n:Nd}(h:mayN n=true){x:It}(hx:x∈n.2):x.2.1=0\/(8<=x.2.1/\x.2.1<256):=by
 obtain⟨i,hi⟩:=Qm hx;exact(Zae (Zri (Zif h hi))).1
theorem Zs5 {s:Rm}{a:Int}(h1:rmE s a=0) (h2:(rmV s a).1=0) (h3:Yr s (rmV s a).2=true):Blk s 0 a (Y0 s 0 a) (Vq s 0 a):=by{
 have hm:=(Z9 h1).1;refine⟨by simp[Y0],fun n hn=> ?_,fun n hn x hx=> ?_,fun r hr=> ?_⟩
 ·simp only[Y0,Ql] at hn
  subst hn;exact h1
 ·simp only[Y0,Ql] at hn
  subst hn;refine⟨fun h=>absurd h2 h,fun _ h0=> ?_⟩;simp only[Vq,Qi,Pf,decide_eq_true_eq];exact⟨⟨x,hx,rfl⟩,h0⟩
 ·simp only[Vq,Qi,Pf,decide_eq_true_eq] at hr
  obtain⟨⟨x,hx,rfl⟩,h0⟩:=hr;rcases Z7d hm hx with e | e
  ·exact absurd e h0
  ·rcases Z8g h3 hx with e' | e'
   ·exact absurd e' h0
   ·exact⟨h0,e',e.1,e.2⟩}
theorem Z5m {s:Rm}{l:Nat}{a:Int}(h1:rmE s a=0) (h2:(rmV s a).1=((l+1:Nat):Int)) (h3:∀ x∈(rmV s a).2,Blk s l x.2.1 (Y0 s l x.2.1) (Vq s l x.2.1)):Blk s (l+1) a (Y0 s (l+1) a) (Vq s (l+1) a):=by{
 refine⟨by simp[Y0],fun n hn=> ?_,fun n hn x hx=> ?_,fun r hr=> ?_⟩
 ·simp only[Y0,Qd,Qk] at hn
  rcases hn with rfl | ⟨y,hy,hn⟩
  ·exact h1
  ·exact(h3 y hy).node n hn
 ·simp only[Y0,Qd,Qk] at hn ⊢
  simp only[Vq,Qk];rcases hn with rfl | ⟨y,hy,hn⟩
  ·exact⟨fun _=>.inr ⟨x,hx,(h3 x hx).root⟩,fun h=>by rw[h2] at h;omega⟩
  ·obtain⟨e1,e2⟩:=(h3 y hy).sub n hn x hx
   exact⟨fun h=>.inr ⟨y,hy,e1 h⟩,fun h h'=>⟨y,hy,e2 h h'⟩⟩
 ·simp only[Vq,Qk] at hr
  obtain⟨y,hy,hr⟩:=hr;exact(h3 y hy).held r hr}
theorem Zn0 (s:Rm):∀ (l:Nat) (a:Int) (k tb:Ky) (e:Bool),Zy s l a k tb e=true->Blk s l a (Y0 s l a) (Vq s l a)
 | 0,a,k,tb,e,h=>by
  obtain⟨h1,h2,_,h4⟩:=Ya h;exact Zs5 h1 h2 h4
 | l+1,a,k,tb,e,h=>by
  obtain⟨h1,h2,_,h4⟩:=Ya h;exact Z5m h1 h2 fun x hx=>by
   obtain⟨t',e',hf⟩:=Xr h4 x hx;exact Zn0 s l _ _ _ _ hf
theorem Zar {s:Rm}{a:Int}(h:Yq s a=true):Blk s (rmV s a).1.toNat a (Xo s a) (Zez s a):=by{
 obtain⟨h1,_,_,l0,_,hi⟩:=Xe h;unfold Xo Zez;unfold Uz at hi;cases hl:(rmV s a).1.toNat with
 | zero =>
  rw[hl] at hi;exact Zs5 h1 (by omega) hi
 | succ l =>
  rw[hl] at hi;exact Z5m h1 (by omega) fun x hx=>by
   obtain⟨t',e',hf⟩:=Xr hi x hx;exact Zn0 s l _ _ _ _ hf}
theorem Xk {s:Rm}{n:Int}(h:rmE s n=0):8<=n/\n<256/\s.2.1[n.toNat]?.getD 0≠0:=by
 obtain⟨k,rfl,_,h8,h256,_,_,_,_,hx⟩:=Y3 (Z9 h).2;exact⟨by omega,by omega,by rw[show ((k:Int)).toNat=k by omega];exact hx⟩
theorem Zn4 (s:Rm):∀ (l:Nat) (a:Int),a∈Y0 s l a
 | 0,a=>by simp[Y0]
 | l+1,a=>by simp[Y0]
structure OnT (s t:Rm) (N R:List Int):Prop where
 may:Xl t=true
 node:∀ n∈N,t.2.1[n.toNat]?.getD 0≠0
 seen:∀ n∈N,Z1 t.1 n.toNat=Z1 s.1 n.toNat
 refs:∀ r∈R,t.2.1[r.toNat]?.getD 0≠0
theorem Zrb {s t:Rm}{N R:List Int}(h:OnT s t N R){n:Int}(hn:n∈N) (he:rmE s n=0):rmE t n=0/\rmV t n=rmV s n:=by{
 obtain⟨_,ha⟩:=Z9 he;obtain⟨k,rfl,hm,h8,h256,_,_,hE,hV,hx⟩:=Y3 ha;have h1:=h.node _ hn;have h2:=h.seen _ hn;rw[show ((k:Int)).toNat=k by omega] at h1 h2;have ht:asE t (k:Int)=0:=Zb5 h.may h8 h256 h1;refine⟨?_,?_⟩
 ·rw[rmE,if_pos ht,show ((k:Int)).toNat=k by omega,h2,<- hE]
  exact he
 ·rw[hV,rmV,if_pos ht,show ((k:Int)).toNat=k by omega,h2]}
theorem Zyo {s t:Rm}{N R:List Int}(h:OnT s t N R){l:List It}(hl:∀ x∈l,x.2.1≠0->x.2.1∈R):Yr t l=true:=by{
 unfold Yr;rw[Qx];intro x hx;by_cases h0:x.2.1=0
 ·simp[h0]
 ·have:=h.refs _ (hl x hx h0)
  simp[this]}
theorem Zff {g g':Int->List Int}:∀ {l:List It},(∀ x∈l,g x.2.1=g' x.2.1)->l.flatMap (fun x=>g x.2.1)=l.flatMap fun x=>g' x.2.1
 | [],_=>rfl
 | x::r,h=>by
  rw[Qv,Qv,h x Qg,Zff fun y hy=>h y (Qf _ hy)]
theorem Zfw {f f':Int->Ky->Ky->Bool->Bool}:∀ {l:List It}{tb:Ky}{e:Bool},(∀ x∈l,∀ k tb e,f x.2.1 k tb e=true->f' x.2.1 k tb e=true)->Zap f l tb e=true->Zap f' l tb e=true
 | [],_,_,_,_=>rfl
 | x::r,tb,e,h,hf=>by
  rw[Vj,Qe] at hf ⊢;exact⟨h x Qg _ _ _ hf.1,Zfw (fun y hy=>h y (Qf _ hy)) hf.2⟩
structure Z7p (s t:Rm) (l:Nat) (a:Int):Prop where
 its:X3 t l a=X3 s l a
 one:∀ q,Zcg t l a q=Zcg s l a q
 nodes:Y0 t l a=Y0 s l a
 refs:Vq t l a=Vq s l a
theorem Zhl {s t:Rm}{N R:List Int}(h:OnT s t N R):∀ (l:Nat) (a:Int) (k tb:Ky) (e:Bool),Zy s l a k tb e=true->(∀ n∈Y0 s l a,n∈N)->(∀ r∈Vq s l a,r∈R)->Zy t l a k tb e=true/\Z7p s t l a
 | 0,a,k,tb,e,hr,h1,h2=>by
  obtain⟨r1,r2,r3,r4⟩:=Ya hr;obtain⟨k1,k2⟩:=Zrb h (h1 a (Zn4 s 0 a)) r1;refine⟨?_,by unfold X3;rw[k2],fun q=>by unfold Zcg;rw[k2],rfl,by unfold Vq;rw[k2]⟩
  have hl:Yr t (rmV s a).2=true:=Zyo h fun x hx h0=>h2 _ (by
   simp only[Vq,Qi,Pf,decide_eq_true_eq]
   exact⟨⟨x,hx,rfl⟩,h0⟩)
  unfold Zy;rw[k1,k2,r2,r3,hl];rfl
 | l+1,a,k,tb,e,hr,h1,h2=>by
  obtain⟨r1,r2,r3,r4⟩:=Ya hr;obtain⟨k1,k2⟩:=Zrb h (h1 a (Zn4 s (l+1) a)) r1
  have g1:∀ x∈(rmV s a).2,∀ n∈Y0 s l x.2.1,n∈N:=fun x hx n hn=>h1 n (by
   simp only[Y0,Qd,Qk]
   exact .inr ⟨x,hx,hn⟩)
  have g2:∀ x∈(rmV s a).2,∀ n∈Vq s l x.2.1,n∈R:=fun x hx n hn=>h2 n (by
   simp only[Vq,Qk]
   exact⟨x,hx,hn⟩)
  have hs:∀ x∈(rmV s a).2,Z7p s t l x.2.1:=fun x hx=>by
   obtain⟨t',e',hf⟩:=Xr r4 x hx;exact(Zhl h l _ _ _ _ hf (g1 x hx) (g2 x hx)).2
  have hi:Zap (Zy t l) (rmV s a).2 tb e=true:=Zfw (fun x hx k tb e hf=>(Zhl h l _ _ _ _ hf (g1 x hx) (g2 x hx)).1) r4;refine⟨?_,?_,fun q=> ?_,?_,?_⟩
  ·unfold Zy
   rw[k1,k2,r2,r3,hi];simp
  ·unfold X3
   rw[k2];exact X5 fun x hx=>(hs x hx).its
  ·unfold Zcg
   rw[k2];cases hf:(rmV s a).2.reverse.find? (fun x => !Zo q x.1) with
   | none=>rfl
   | some y=>exact(hs y (Qw.1 (Q0 hf))).one q
  ·unfold Y0
   rw[k2];exact congrArg (a :: ·) (Zff fun x hx=>(hs x hx).nodes)
  ·unfold Vq
   rw[k2];exact Zff fun x hx=>(hs x hx).refs
theorem Z57 {s t:Rm}{N R:List Int}(h:OnT s t N R){a:Int}(ht:Yq s a=true) (h1:∀ n∈Xo s a,n∈N) (h2:∀ r∈Zez s a,r∈R) :
  Yq t a=true/\rmV t a=rmV s a/\Zad t a=Zad s a/\(∀ q,Zd8 t a q=Zd8 s a q)/\Xo t a=Xo s a/\Zez t a=Zez s a:=by{
 obtain⟨r1,_,hm,l0,l6,hi⟩:=Xe ht;have hin:a∈N:=h1 a (Zar ht).root;obtain⟨k1,k2⟩:=Zrb h hin r1;unfold Xo at h1;unfold Zez at h2;unfold Uz at hi;unfold Zad Zd8 Xo Zez Yq Uz;rw[k1,k2];cases hl:(rmV s a).1.toNat with
 | zero =>
  rw[hl] at hi h1 h2
  have hlf:Yr t (rmV s a).2=true:=Zyo h fun x hx h0=>h2 _ (by
   simp only[Vq,Qi,Pf,decide_eq_true_eq]
   exact⟨⟨x,hx,rfl⟩,h0⟩)
  refine⟨by simp only[hlf];rfl,rfl,by unfold X3;rw[k2],fun q=>by unfold Zcg;rw[k2],rfl,by unfold Vq;rw[k2]⟩
 | succ l =>
  rw[hl] at hi h1 h2
  have g1:∀ x∈(rmV s a).2,∀ n∈Y0 s l x.2.1,n∈N:=fun x hx n hn=>h1 n (by
   simp only[Y0,Qd,Qk]
   exact .inr ⟨x,hx,hn⟩)
  have g2:∀ x∈(rmV s a).2,∀ n∈Vq s l x.2.1,n∈R:=fun x hx n hn=>h2 n (by
   simp only[Vq,Qk]
   exact⟨x,hx,hn⟩)
  have hs:∀ x∈(rmV s a).2,Z7p s t l x.2.1:=fun x hx=>by
   obtain⟨t',e',hf⟩:=Xr hi x hx;exact(Zhl h l _ _ _ _ hf (g1 x hx) (g2 x hx)).2
  have hi':Zap (Zy t l) (rmV s a).2 Zbl false=true:=Zfw (fun x hx k tb e hf=>(Zhl h l _ _ _ _ hf (g1 x hx) (g2 x hx)).1) hi;refine⟨by simp only[hi'];rfl,rfl,?_,fun q=> ?_,?_,?_⟩
  ·unfold X3
   rw[k2];exact X5 fun x hx=>(hs x hx).its
  ·unfold Zcg
   rw[k2];cases hf:(rmV s a).2.reverse.find? (fun x => !Zo q x.1) with
   | none=>rfl
   | some y=>exact(hs y (Qw.1 (Q0 hf))).one q
  ·unfold Y0
   rw[k2];exact congrArg (a :: ·) (Zff fun x hx=>(hs x hx).nodes)
  ·unfold Vq
   rw[k2];exact Zff fun x hx=>(hs x hx).refs}
def ndD (d:Dk) (n:Int):Nd:=reV (Z1 d n.toNat)
def Zeu (d:Dk):List Int->Nat->Nat
 | [],_=>0
 | n::r,k=>Xi (ndD d n).2 k+Zeu d r k
def Yx (t:List UInt8) (k:Nat):Nat:=(t[k]?.getD 0).toNat
structure Enf (d:Dk) (t:List UInt8) (P:Nat->Nat) (N:List Int):Prop where
 once:N.Nodup
 node:∀ n∈N,0<=n/\n<256/\reN (Z1 d n.toNat)=0/\Yx t n.toNat≠0
 shut:∀ n∈N,(ndD d n).1≠0->∀ x∈(ndD d n).2,x.2.1∈N/\x.2.1≠0/\(ndD d x.2.1).1+1=(ndD d n).1
 refs:∀ n∈N,Zbj (ndD d n).2
 enough:∀ k,P k+Zeu d N k<=Yx t k
theorem Zn3 (d:Dk) (p:Int->Bool) (k:Nat):∀ N:List Int,Zeu d (N.filter p) k<=Zeu d N k
 | []=>Qa _
 | n::r=>by
  have:=Zn3 d p k r;rw[List.filter_cons];split
  ·unfold Zeu;omega
  ·show Zeu d (r.filter p) k<=Xi (ndD d n).2 k+Zeu d r k
   omega
theorem Zst {d:Dk}{a:Int}{k:Nat}:∀ {N:List Int},N.Nodup->a∈N->Zeu d N k=Xi (ndD d a).2 k+Zeu d (N.filter fun n=>decide (n≠a)) k
 | n::r,h,ha=>by
  obtain⟨h1,h2⟩:=Qal.1 h;by_cases e:n=a
  ·subst e
   have:(n::r).filter (fun m=>decide (m≠n))=r:=by
    rw[List.filter_cons_of_neg (by simp),Pq];intro m hm;have:m≠n:=fun e=>h1 (e ▸ hm)
    simpa using this
   rw[this];rfl
  ·have ha':a∈r:=by
    rcases Qd.1 ha with e' | h
    ·exact absurd e'.symm e
    ·exact h
   rw[Qam (by simpa using e)];show Xi (ndD d n).2 k+Zeu d r k=_+(Xi (ndD d n).2 k+Zeu d (r.filter fun m=>decide (m≠a)) k);rw[Zst h2 ha'];omega
theorem Zf7 {d:Dk}{k:Nat}{n:Int}:∀ {N:List Int},n∈N->Xi (ndD d n).2 k<=Zeu d N k
 | m::r,h=>by
  unfold Zeu;rcases Qd.1 h with rfl | h
  ·omega
  ·have:=Zf7 (k:=k) (d:=d) h
   omega
theorem Zbn {l:List It}{x:It}(hx:x∈l){k:Nat}(hk:x.2.1=(k:Int)) (h0:x.2.1≠0):1<=Xi l k:=by{
 induction l with
 | nil=>cases hx
 | cons y r ih =>
  unfold Xi;rcases Qd.1 hx with rfl | hx
  ·rw[if_pos hk,if_neg h0]
   omega
  ·have:=ih hx
   omega}
theorem Ziy {t u:List UInt8}{a:Nat}(h:dnO t a=some u):Yx t a=Yx u a+1/\(∀ k,k≠a->Yx u k=Yx t k):=by
 obtain⟨h1,h2,h3,h4⟩:=Zdu h;refine⟨h4.symm,fun k hk=> ?_⟩;unfold Yx;rw[h2,List.getElem?_set_ne (Ne.symm hk)]
def Zal (u:List UInt8) (N:List Int):List Int:=N.filter fun n=>decide (Yx u n.toNat≠0)
theorem Zrg {u:List UInt8}{N:List Int}{n:Int}:n∈Zal u N↔n∈N/\Yx u n.toNat≠0:=by
 unfold Zal;rw[Qi,decide_eq_true_eq]
theorem Enf.part {d:Dk}{t u:List UInt8}{P Q:Nat->Nat}{N:List Int}(h:Enf d t P N) (p:Int->Bool) (hn:∀ n∈N,p n=true->Yx u n.toNat≠0) (hs:∀ n∈N,p n=true->∀ x∈(ndD d n).2,x.2.1∈N->x.2.1≠0->p x.2.1=true) (he:∀ k,Q k+Zeu d (N.filter p) k<=Yx u k):Enf d u Q (N.filter p):=by{
 refine⟨h.once.filter _,fun n hm=> ?_,fun n hm h0 x hx=> ?_,fun n hm=> ?_,he⟩
 ·obtain⟨h1,h2⟩:=Qi.1 hm
  obtain⟨g1,g2,g3,_⟩:=h.node n h1;exact⟨g1,g2,g3,hn n h1 h2⟩
 ·obtain⟨h1,h2⟩:=Qi.1 hm
  obtain⟨g1,g2,g3⟩:=h.shut n h1 h0 x hx;exact⟨Qi.2 ⟨g1,hs n h1 h2 x hx g1 g2⟩,g2,g3⟩
 ·exact h.refs n (Qi.1 hm).1}
theorem Zmv {d:Dk}{t u:List UInt8}{P:Nat->Nat}{N:List Int}{a:Nat}(h:Enf d t (fun k=>P k+if k=a then 1 else 0) N) (hd:dnO t a=some u):Enf d u P (Zal u N):=by{
 obtain⟨c1,c2⟩:=Ziy hd;refine h.part _ (fun n hn hp=>by simpa using hp) (fun n hn hp x hx hxN hx0=> ?_) (fun k=> ?_)
 ·simp only[decide_eq_true_eq] at hp ⊢
  intro h0;obtain⟨g1,_,_,g4⟩:=h.node _ hxN;have hxa:x.2.1.toNat=a:=by
   by_cases e:x.2.1.toNat=a
   ·exact e
   ·rw[c2 _ e] at h0
    exact absurd h0 g4
  have h1:=h.enough a;rw[hxa] at h0;have h2:=Zbn hx (k:=a) (by omega) hx0;have h3:=Zf7 (d:=d) (k:=a) hn;simp only[if_true] at h1;omega
 ·have h1:=h.enough k
  have h2:=Zn3 d (fun n=>decide (Yx u n.toNat≠0)) k N;by_cases e:k=a
  ·subst e
   simp only[if_true] at h1;omega
  ·rw[c2 k e]
   simp only[if_neg e] at h1;omega}
theorem Z1z {d:Dk}{t u:List UInt8}{P:Nat->Nat}{N:List Int}{a:Int}(h:Enf d t (fun k=>P k+if k=a.toNat then 1 else 0) N) (ha:a∈N) (hd:dnO t a.toNat=some u) (h1:Yx t a.toNat<=1) :
  Enf d u (fun k=>P k+Xi (ndD d a).2 k) (N.filter fun n=>decide (n≠a))/\(∀ x∈(ndD d a).2,(ndD d a).1≠0->x.2.1∈N.filter fun n=>decide (n≠a)):=by{
 obtain⟨c1,c2⟩:=Ziy hd;have ha0:=(h.node a ha).1;have hz:Zeu d N a.toNat=0:=by
  have:=h.enough a.toNat;simp only[if_true] at this;omega
 have hno:∀ n∈N,∀ x∈(ndD d n).2,x.2.1∈N->x.2.1≠0->x.2.1≠a:=fun n hn x hx hxN hx0 e=>by
  have h2:=Zbn hx (k:=a.toNat) (by omega) hx0;have h3:=Zf7 (d:=d) (k:=a.toNat) hn;omega
 refine⟨h.part _ (fun n hn hp=> ?_) (fun n hn _ x hx hxN hx0=>by simpa using hno n hn x hx hxN hx0) (fun k=> ?_),fun x hx h0=> ?_⟩
 ·simp only[decide_eq_true_eq] at hp
  obtain⟨g1,_,_,g4⟩:=h.node n hn;rw[c2 _ (by omega)];exact g4
 ·have h2:=h.enough k
  rw[Zst h.once ha] at h2;by_cases e:k=a.toNat
  ·subst e
   simp only[if_true] at h2;omega
  ·rw[c2 k e]
   simp only[if_neg e] at h2;omega
 ·obtain⟨g1,g2,_⟩:=h.shut a ha h0 x hx
  exact Qi.2 ⟨g1,by simpa using hno a ha x hx g1 g2⟩}
theorem Zyc {t u:List UInt8}{N:List Int}(h:LeT u t):Zal u (Zal t N)=Zal u N:=by{
 unfold Zal;rw[Qan];refine Py fun n _=> ?_
 have:=h.le n.toNat;by_cases e:Yx u n.toNat=0
 ·simp[e]
 ·have:Yx t n.toNat≠0:=by unfold Yx at e ⊢;omega
  simp[e,this]}
theorem Z29 {u:List UInt8}{N:List Int}{a:Int}(h:Yx u a.toNat=0):Zal u (N.filter fun n=>decide (n≠a))=Zal u N:=by{
 unfold Zal;rw[Qan];refine Py fun n _=> ?_
 by_cases e:n=a
 ·subst e;simp[h]
 ·simp[e]}
theorem Z2y {t:List UInt8}{d:Dk}{P:Nat->Nat}{N:List Int}(h:Enf d t P N):Zal t N=N:=by
 unfold Zal;rw[Pq];intro n hn
 simpa using (h.node n hn).2.2.2
theorem Enf.same {d:Dk}{t:List UInt8}{P Q:Nat->Nat}{N:List Int}(h:Enf d t P N) (e:∀ k,Q k=P k):Enf d t Q N:=⟨h.once,h.node,h.shut,h.refs,fun k=>by rw[e];exact h.enough k⟩
theorem Zlm {d:Dk}{f:List UInt8->Nat->Option (List UInt8)}{ok:List UInt8->List Int->Int->Prop}
  (hle:∀ t a u,f t a=some u->LeT u t)
  (hok:∀ t u N a,ok t N a->LeT u t->Yx u a.toNat≠0->ok u (Zal u N) a)
  (hf:∀ t u P N a,0<a->ok t N a->Enf d t (fun k=>P k+if k=a.toNat then 1 else 0) N->f t a.toNat=some u->Enf d u P (Zal u N)) :
  ∀ (l:List It) (t u:List UInt8) (P:Nat->Nat) (N:List Int),Zbj l->(∀ x∈l,x.2.1≠0->ok t N x.2.1)->Enf d t (fun k=>P k+Xi l k) N->Vi f t l=some u->Enf d u P (Zal u N)
 | [],t,u,P,N,_,_,h,hu=>by
  cases hu;have h':=h.same (Q:=P) (fun k=>by simp[Xi]);rw[Z2y h'];exact h'
 | x::r,t,u,P,N,hr,hk,h,hu=>by
  obtain⟨h1,h2⟩:=Zcb hr;unfold Vi at hu;by_cases h0:x.2.1=0
  ·rw[if_pos h0] at hu
   exact Zlm hle hok hf r t u P N h2 (fun y hy=>hk y (Qf _ hy)) (h.same fun k=>by rw[Zca h0]) hu
  ·rw[if_neg h0] at hu
   cases ht:f t x.2.1.toNat with
   | none=>rw[ht] at hu;cases hu
   | some t1 =>
    rw[ht] at hu;have hu':Vi f t1 r=some u:=hu;have hpos:0<x.2.1:=by rcases h1 with h1 | ⟨k,e,_⟩ <;> omega
    have s1:=hf t t1 (fun k=>P k+Xi r k) N x.2.1 hpos (hk x Qg h0) (h.same fun k=>by
     have ec:Xi (x::r) k=(if x.2.1=(k:Int) then (if x.2.1=0 then 0 else 1) else 0)+Xi r k:=rfl;show P k+Xi r k+(if k=x.2.1.toNat then 1 else 0)=P k+Xi (x::r) k;rw[ec];by_cases e:x.2.1=(k:Int)
     ·rw[if_pos e,if_neg h0,if_pos (by omega)];omega
     ·rw[if_neg e,if_neg (by omega)];omega) ht
    have hl1:=hle _ _ _ ht;have hl2:=Zf5 hle r t1 u hu';have s2:=Zlm hle hok hf r t1 u P (Zal t1 N) h2 (fun y hy hy0=> ?_) s1 hu'
    ·rwa [Zyc hl2] at s2
    ·refine hok t t1 N y.2.1 (hk y (Qf _ hy) hy0) hl1 ?_
     have h5:=s1.enough y.2.1.toNat;have h6:0<y.2.1:=by
      rcases h2 y hy with e | e
      ·exact absurd e hy0
      ·omega
     have h7:=Zbn hy (k:=y.2.1.toNat) (by omega) hy0;omega
theorem Z5q (d:Dk):∀ (L:Nat) (t u:List UInt8) (P:Nat->Nat) (N:List Int) (a:Int),0<a->(∀ l,L=l+1->a∈N/\(ndD d a).1=(l:Int))->Enf d t (fun k=>P k+if k=a.toNat then 1 else 0) N->lvF d L t a.toNat=some u->Enf d u P (Zal u N)
 | 0,t,u,P,N,a,_,_,h,hu=>Zmv h hu
 | l+1,t,u,P,N,a,h0,hk,h,hu=>by
  obtain⟨ha,hl⟩:=hk l rfl;have hu0:=hu;unfold lvF lvS at hu;cases hd:dnO t a.toNat with
  | none=>rw[hd] at hu;cases hu
  | some t1 =>
   rw[hd] at hu;have hu':(if 1<(t[a.toNat]?.getD 0).toNat then some t1 else if reN (Z1 d a.toNat)=0/\(reV (Z1 d a.toNat)).1=(l:Int) then Vi (lvF d l) t1 (reV (Z1 d a.toNat)).2 else none)=some u:=hu;obtain⟨c1,c2⟩:=Ziy hd;by_cases hm:1<(t[a.toNat]?.getD 0).toNat
   ·rw[if_pos hm] at hu'
    cases hu';exact Zmv h hd
   ·rw[if_neg hm] at hu'
    split at hu'
    ·have h1:Yx t a.toNat<=1:=by unfold Yx;omega
     obtain⟨o1,o2⟩:=Z1z h ha hd h1;have hz:Yx t1 a.toNat=0:=by omega
     have hle:=Zug d l;have hlu:=Zf5 hle _ t1 u hu';have s:=Zlm (d:=d) (f:=lvF d l) (ok:=fun _ M b=>∀ l',l=l'+1->b∈M/\(ndD d b).1=(l':Int)) hle
      (fun t u M b hb _ hc l' e=>⟨Zrg.2 ⟨(hb l' e).1,hc⟩,(hb l' e).2⟩)
      (fun t u P M b hb0 hb hE hu=>Z5q d l t u P M b hb0 hb hE hu)
      (ndD d a).2 t1 u P _ (h.refs a ha) (fun x hx _ l' e=> ?_) o1 hu'
     ·rw[Z29 (by have:=hlu.le a.toNat;unfold Yx at hz ⊢;omega)] at s
      exact s
     ·have hne:(ndD d a).1≠0:=by rw[hl,e];omega
      refine⟨o2 x hx hne,?_⟩;obtain⟨_,_,g3⟩:=h.shut a ha hne x hx;omega
    ·cases hu'
theorem Znn {d:Dk}{t u:List UInt8}{P:Nat->Nat}{N:List Int}{a:Int}(ha:a∈N) (h0:0<a) (hl:0<=(ndD d a).1) (h:Enf d t (fun k=>P k+if k=a.toNat then 1 else 0) N) (hu:lfO d t a.toNat=some u):Enf d u P (Zal u N):=by{
 obtain⟨L,hL⟩:∃ L:Nat,(ndD d a).1=(L:Int):=⟨(ndD d a).1.toNat,by omega⟩
 refine Z5q d (L+1) t u P N a h0 (fun l e=>⟨ha,by rw[hL];omega⟩) h ?_;unfold lfO at hu;unfold lvF lvS;have e1:(reV (Z1 d a.toNat)).1=(L:Int):=hL;rw[e1] at hu;rw[show ((L:Nat):Int).toNat=L by omega] at hu;rw[<- hu];cases dnO t a.toNat with
 | none=>rfl
 | some t1=>simp[e1]}
theorem Vy {t:List UInt8}{k:Nat}:Yx t k≠0↔t[k]?.getD 0≠0:=by
 unfold Yx;rw[ne_eq,Vw]
theorem Zai {s:Rm}{n:Int}(h:rmE s n=0):ndD s.1 n=rmV s n:=by
 obtain⟨k,rfl,_,_,_,_,_,_,hV,_⟩:=Y3 (Z9 h).2;rw[hV,ndD,show ((k:Int)).toNat=k by omega]
theorem Uy {s:Rm}{n:Nd}(h:mkE s n=0):Xu s (mkV s n):=by{
 obtain⟨k,e1,h8,h256,hz,_,hc,hV,hm,c1,c2,_⟩:=X7 h;have hne:∀ i:Nat,s.2.1[i]?.getD 0≠0->i≠k:=fun i hi e=>hi (by rw[e];exact hz)
 refine⟨hm,fun i hi=> ?_,fun i hi=> ?_⟩
 ·rw[<- Vy]
  have h1:=c2 i (hne i hi);have h2:=Vy.2 hi;unfold Yx at h2 ⊢;omega
 ·rw[hV]
  exact Z4 (hne i hi)}
theorem Zlp {s:Rm}{n:Nd}{P:Nat->Nat}{N:List Int}(h:mkE s n=0) (hi:InN n) (hE:Enf s.1 s.2.1 P N) (hsub:n.1≠0->∀ x∈n.2,x.2.1∈N/\x.2.1≠0/\(ndD s.1 x.2.1).1+1=n.1) :
  ∃ k:Nat,mkN s n=k/\8<=k/\k<256/\Yx s.2.1 k=0/\(k:Int)∉N/\Enf (mkV s n).1 (mkV s n).2.1 (fun i=>P i+if i=k then 1 else 0) ((k:Int)::N)/\ndD (mkV s n).1 (k:Int)=n/\(∀ m∈N,ndD (mkV s n).1 m=ndD s.1 m)/\rmE (mkV s n) (k:Int)=0/\rmV (mkV s n) (k:Int)=n/\Yx (mkV s n).2.1 k=1:=by{
 obtain⟨_,hn,_⟩:=Zvx h;obtain⟨k,e1,h8,h256,hz,_,hc,hV,hm,c1,c2,_⟩:=X7 h;have hseen:Z1 (mkV s n).1 k=Va n:=by rw[hV];exact Xt
 have ha:asE (mkV s n) (k:Int)=0:=Zb5 hm h8 h256 (by rw[c1];decide);obtain⟨r1,r2⟩:=Zjt ha hseen hn hi;have hnd:ndD (mkV s n).1 (k:Int)=n:=(Zai r1).trans r2;have hz8:Yx s.2.1 k=0:=by unfold Yx;rw[hz];rfl
 have hkN:(k:Int)∉N:=fun hin=>by
  have:=(hE.node _ hin).2.2.2;rw[show ((k:Int)).toNat=k by omega] at this;exact this hz8
 have Zbb:∀ m∈N,m.toNat≠k:=fun m hmN e=>by
  have h0:=(hE.node m hmN).1;exact hkN (by rw[<- e,show ((m.toNat:Nat):Int)=m by omega];exact hmN)
 have hsm:∀ m∈N,Z1 (mkV s n).1 m.toNat=Z1 s.1 m.toNat:=fun m hmN=>by
  rw[hV];exact Z4 (Zbb m hmN)
 have hndm:∀ m∈N,ndD (mkV s n).1 m=ndD s.1 m:=fun m hmN=>by rw[ndD,ndD,hsm m hmN]
 have hc1:Yx (mkV s n).2.1 k=1:=by unfold Yx;rw[c1];rfl
 have hc2:∀ i,i≠k->Yx (mkV s n).2.1 i=Yx s.2.1 i+Xi n.2 i:=fun i hne=>c2 i hne
 have hsum:∀ i,Zeu (mkV s n).1 N i=Zeu s.1 N i:=fun i=>by
  have:∀ M:List Int,(∀ m∈M,m∈N)->Zeu (mkV s n).1 M i=Zeu s.1 M i:=by
   intro M
   induction M with
   | nil=>intro _;rfl
   | cons m r ih =>
    intro hM;show Xi (ndD (mkV s n).1 m).2 i+Zeu (mkV s n).1 r i=Xi (ndD s.1 m).2 i+Zeu s.1 r i;rw[hndm m (hM m Qg),ih fun x hx=>hM x (Qf _ hx)]
  exact this N fun m hm=>hm
 refine⟨k,e1,h8,h256,hz8,hkN,⟨Qal.2 ⟨hkN,hE.once⟩,fun m hmN=> ?_,fun m hmN h0 x hx=> ?_,fun m hmN=> ?_,fun i=> ?_⟩,hnd,hndm,r1,r2,hc1⟩
 ·rcases Qd.1 hmN with rfl | hmN
  ·refine⟨by omega,by omega,?_,by rw[show ((k:Int)).toNat=k by omega,hc1];decide⟩
   rw[show ((k:Int)).toNat=k by omega,hseen];exact(Zb7 hn hi).1
  ·obtain⟨g1,g2,g3,g4⟩:=hE.node m hmN
   refine⟨g1,g2,by rw[hsm m hmN];exact g3,?_⟩;rw[hc2 _ (Zbb m hmN)];omega
 ·rcases Qd.1 hmN with rfl | hmN
  ·rw[hnd] at h0 hx ⊢
   obtain⟨g1,g2,g3⟩:=hsub h0 x hx;exact⟨Qf _ g1,g2,by rw[hndm _ g1];exact g3⟩
  ·rw[hndm m hmN] at h0 hx ⊢
   obtain⟨g1,g2,g3⟩:=hE.shut m hmN h0 x hx;exact⟨Qf _ g1,g2,by rw[hndm _ g1];exact g3⟩
 ·rcases Qd.1 hmN with rfl | hmN
  ·rw[hnd]
   exact Vv hn
  ·rw[hndm m hmN]
   exact hE.refs m hmN
 ·show P i+(if i=k then 1 else 0)+(Xi (ndD (mkV s n).1 (k:Int)).2 i+Zeu (mkV s n).1 N i)<=_
  rw[hnd,hsum];have h1:=hE.enough i;by_cases e:i=k
  ·subst e
   rw[if_pos rfl,hc1];omega
  ·rw[if_neg e,hc2 i e]
   omega}
theorem Z30 {d:Dk}{t u:List UInt8}{P:Nat->Nat}{N:List Int}{a:Nat}(h:Enf d t (fun k=>P k+if k=a then 1 else 0) N) (hd:dnO t a=some u) (hc:Yx u a≠0):Enf d u P N:=by{
 have s:=Zmv h hd;obtain⟨c1,c2⟩:=Ziy hd;have:Zal u N=N:=by
  unfold Zal;rw[Pq];intro n hn;have h4:=(h.node n hn).2.2.2;by_cases e:n.toNat=a
  ·rw[e];simpa using hc
  ·rw[c2 _ e];simpa using h4
 rwa [this] at s}
def V4 (L:List It) (x:It):List It:=(L.filter fun y=>Zo y.1 x.1)++x::(L.filter fun y=>Zo x.1 y.1)
theorem Zf9 {p:It->Bool}{L:List It}(h:∀ x∈L,p x=true):L.filter p=L:=Pq.2 h
theorem Zua {A B C:List It}{x:It}(hA:∀ y∈A,Zo y.1 x.1=true) (hC:∀ y∈C,Zo x.1 y.1=true):V4 (A++(B++C)) x=A++(V4 B x++C):=by
 unfold V4;simp only[Qaf];rw[Zf9 hA,Ut (L:=A) (fun y hy=>Vo (hA y hy)),Ut (L:=C) (fun y hy=>Vo (hC y hy)),Zf9 hC];simp
theorem Zkk {A M C:List It}{x:It}(hA:∀ y∈A,Zo y.1 x.1=true) (hM:∀ y∈M,y.1=x.1) (hC:∀ y∈C,Zo x.1 y.1=true):V4 (A++(M++C)) x=A++x::C:=by
 rw[Zua hA hC];unfold V4;rw[Ut (L:=M) (fun y hy=>by rw[hM y hy];exact Y6 _),Ut (L:=M) (fun y hy=>by rw[hM y hy];exact Y6 _)];rfl
theorem Z50 {L:List It}(h:Up L) (x:It):Up (V4 L x):=by
 unfold V4 Up;rw[Pi];refine⟨P1.filter _ h,Qt.2 ⟨fun y hy=>(Qi.1 hy).2,P1.filter _ h⟩,fun y hy z hz=> ?_⟩;have h1:=(Qi.1 hy).2;rcases Qd.1 hz with rfl | hz
 ·exact h1
 ·exact Yu h1 (Qi.1 hz).2
theorem Zdq {L:List It}{x y:It}:y∈V4 L x↔y=x\/(y∈L/\y.1≠x.1):=by{
 unfold V4;rw[Qp,Qd,Qi,Qi];constructor
 ·rintro(⟨h1,h2⟩ | rfl | ⟨h1,h2⟩)
  ·exact .inr ⟨h1,fun e=>by rw[e,Y6] at h2;cases h2⟩
  ·exact .inl rfl
  ·exact .inr ⟨h1,fun e=>by rw[e,Y6] at h2;cases h2⟩
 ·rintro(rfl | ⟨h1,h2⟩)
  ·exact .inr (.inl rfl)
  ·cases h3:Zo y.1 x.1 with
   | true=>exact .inl ⟨h1,rfl⟩
   | false=>exact .inr (.inr ⟨h1,Zbx h2 h3⟩)}
theorem Zhq {n:Nd}(h:mayN n=true) (x:It):n.2.take (Z2 n x.1)++x::n.2.drop (Z2 n x.1+if Yk n x.1=true then 1 else 0)=V4 n.2 x:=by{
 have hA:∀ y∈n.2.take (Z2 n x.1),Zo y.1 x.1=true:=fun y hy=>by
  obtain⟨i,hi⟩:=Qm hy;have hlt:=(Qj.1 hi).1;rw[Pp] at hlt;rw[List.getElem?_take_of_lt (by omega)] at hi;rw[Um h hi];simp;omega
 cases ht:Yk n x.1 with
 | true =>
  have hp:=Zbe ht;obtain⟨z,hz⟩:∃ z,n.2[Z2 n x.1]? = some z:=⟨_,Qc hp⟩
  have hzk:=(Uq h ht hz).1;have hg:n.2[Z2 n x.1]=z:=(Qj.1 hz).2;have e:n.2=n.2.take (Z2 n x.1)++([z]++n.2.drop (Z2 n x.1+1)):=by
   conv=>lhs;rw[<- Qy (Z2 n x.1) n.2,Qao hp,hg]
   rfl
  rw[if_pos rfl]
  conv=>rhs;rw[e]
  rw[Zkk hA (fun y hy=>by rw[Ql.1 hy];exact hzk) (fun y hy=>by
   obtain⟨i,hi⟩:=Qm hy;rw[Q4] at hi;rw[<- hzk]
   exact Zav h (by omega) hz hi)]
 | false =>
  rw[if_neg (by decide),Nat.add_zero];have e:n.2=n.2.take (Z2 n x.1)++([]++n.2.drop (Z2 n x.1)):=by simp
  conv=>rhs;rw[e]
  rw[Zkk hA (fun y hy=>by cases hy) (fun y hy=>by
   obtain⟨i,hi⟩:=Qm hy;rw[Q4] at hi
   exact Zbo h ht (by omega) hi)]}
def Xg (n:Nd) (k:Ky):Nat:=if Yk n k=true then Z2 n k else Z2 n k-1
theorem Zcz {n:Nd}(k:Ky) (h:0<n.2.length):Xg n k<n.2.length:=by{
 unfold Xg;split
 ·rename_i ht;exact Zbe ht
 ·have:=Zbw n k
  omega}
theorem Zgh {n:Nd}(h:mayN n=true){k:Ky}{i:Nat}{y:It}(hi:Xg n k<i) (hy:n.2[i]? = some y):Zo k y.1=true:=by{
 unfold Xg at hi;cases ht:Yk n k with
 | true =>
  rw[ht,if_pos rfl] at hi;have hp:=Zbe ht;obtain⟨z,hz⟩:∃ z,n.2[Z2 n k]? = some z:=⟨_,Qc hp⟩
  rw[<- (Uq h ht hz).1];exact Zav h hi hz hy
 | false =>
  rw[ht,if_neg (by decide)] at hi;exact Zbo h ht (by omega) hy}
theorem Zx3 {n:Nd}(h:mayN n=true){k:Ky}{y:It}(hy:n.2[Xg n k]? = some y) (h0:Xg n k≠0):Zo k y.1=false:=by{
 unfold Xg at hy h0;cases ht:Yk n k with
 | true =>
  rw[ht,if_pos rfl] at hy;rw[(Uq h ht hy).1];exact Y6 _
 | false =>
  rw[ht,if_neg (by decide)] at hy h0;have:=Um h (k:=k) hy;rw[decide_eq_true (by omega)] at this;exact Vo this}
theorem Y1 (f:Int->Ky->Ky->Bool->Bool):∀ (A B:List It) (tb:Ky) (e:Bool),Zap f (A++B) tb e=(Zap f A (nxO B tb) (bxO B e)&&Zap f B tb e)
 | [],B,tb,e=>by
  show Zap f B tb e=(true&&Zap f B tb e);simp
 | x::r,B,tb,e=>by
  rw[Qo,Vj,Y1 f r B tb e,Vj];have e1:nxO (r++B) tb=nxO r (nxO B tb):=by cases r <;> rfl
  have e2:bxO (r++B) e=bxO r (bxO B e):=by cases r <;> rfl
  rw[e1,e2,Bool.and_assoc]
theorem Zrj {f f':Int->Ky->Ky->Bool->Bool}{A C up:List It}{y z:It}{r:List It}{tb:Ky}{e:Bool}(h:Zap f (A++y::C) tb e=true) (hk:A≠[]->z.1=y.1) (hup:up=z::r)
  (hf:∀ x∈A++C,∀ k tb e,f x.2.1 k tb e=true->f' x.2.1 k tb e=true) (hu:Zap f' up (nxO C tb) (bxO C e)=true):Zap f' (A++(up++C)) tb e=true:=by{
 rw[Y1,Qe] at h;obtain⟨h1,h2⟩:=h;rw[Vj,Qe] at h2;rw[Y1,Y1,Qe,Qe];refine⟨?_,hu,Zfw (fun x hx=>hf x (Pg _ hx)) h2.2⟩;have e1:A≠[]->nxO (up++C) tb=nxO (y::C) tb/\bxO (up++C) e=bxO (y::C) e:=fun hA=>by
  subst hup;exact⟨hk hA,rfl⟩
 by_cases hA:A=[]
 ·subst hA;rfl
 ·obtain⟨g1,g2⟩:=e1 hA
  rw[g1,g2];exact Zfw (fun x hx=>hf x (Pr _ hx)) h1}
def Znz (l:List It):Ky:=match l with | []=>Zbl | x::_=>x.1
def upI (l:List It) (k:Int):It:=(Znz l,k,[])
def Zq (s:Rm) (lv:Int) (l:List It):Int×Rm×List It :=
 if l.length<=5 then
  if mkE s (lv,l)=0 then (0,mkV s (lv,l),[upI l (mkN s (lv,l))]) else (mkE s (lv,l),Zi,[])
 else if mkE s (lv,l.take 3)=0 then
  if mkE (mkV s (lv,l.take 3)) (lv,l.drop 3)=0 then (0,mkV (mkV s (lv,l.take 3)) (lv,l.drop 3),[upI (l.take 3) (mkN s (lv,l.take 3)),upI (l.drop 3) (mkN (mkV s (lv,l.take 3)) (lv,l.drop 3))])
  else (mkE (mkV s (lv,l.take 3)) (lv,l.drop 3),Zi,[])
 else (mkE s (lv,l.take 3),Zi,[])
theorem X8 {s u:Rm}{lv:Int}{l up:List It}(h:Zq s lv l=(0,u,up)):(mkE s (lv,l)=0/\u=mkV s (lv,l)/\up=[upI l (mkN s (lv,l))]) \/
  (5<l.length/\mkE s (lv,l.take 3)=0/\mkE (mkV s (lv,l.take 3)) (lv,l.drop 3)=0/\u=mkV (mkV s (lv,l.take 3)) (lv,l.drop 3)/\up=[upI (l.take 3) (mkN s (lv,l.take 3)),upI (l.drop 3) (mkN (mkV s (lv,l.take 3)) (lv,l.drop 3))]):=by{
 unfold Zq at h;split at h
 ·split at h
  ·rename_i h1
   cases h;exact .inl ⟨h1,rfl,rfl⟩
  ·rename_i h1
   simp only[Prod.mk.injEq] at h;exact absurd h.1 h1
 ·rename_i h0
  split at h
  ·rename_i h1
   split at h
   ·rename_i h2
    cases h;exact .inr ⟨by omega,h1,h2,rfl,rfl⟩
   ·rename_i h2
    simp only[Prod.mk.injEq] at h;exact absurd h.1 h2
  ·rename_i h1
   simp only[Prod.mk.injEq] at h;exact absurd h.1 h1}
def Zj3 (s:Rm):Nat->List It->Ky->Bool->List It->Prop
 | 0,L,tb,e,M=>Up L/\Yr s L=true/\(e=true->∀ y∈L,Zo y.1 tb=true)/\M=L
 | l+1,L,tb,e,M=>Zap (Zy s l) L tb e=true/\M=L.flatMap fun x=>X3 s l x.2.1
theorem Zhr {s t:Rm}(h:Xu s t):∀ {lv:Nat}{L M:List It}{tb:Ky}{e:Bool},Zj3 s lv L tb e M->Zj3 t lv L tb e M
 | 0,_,_,_,_,hr=>⟨hr.1,Zh8 h hr.2.1,hr.2.2⟩
 | l+1,L,M,tb,e,hr=>by
  refine⟨Ux (fun a k tb e hf=>(Z7 h l a k tb e hf).1) _ _ _ hr.1,hr.2.trans (X5 fun x hx=> ?_)⟩;obtain⟨t',e',hf⟩:=Xr hr.1 x hx;exact(Z7 h l _ _ _ _ hf).2.1.symm
theorem Zxj {s:Rm}{l:Nat}{L:List It}{tb:Ky}(h:Zap (Zy s l) L tb true=true):∀ x∈L,Zo x.1 tb=true:=fun x hx=>by
 obtain⟨y,r,rfl⟩:∃ y r,L=y::r:=by
  cases L with
  | nil=>cases hx
  | cons y r=>exact⟨y,r,rfl⟩
 obtain⟨y',r',e',hp⟩:=Zat (Y4 s l) (y::r) tb true (by simp) h;cases e';obtain⟨t,e2,hf⟩:=Xr h x hx;obtain⟨z,q,ez,kz⟩:=(Y4 s l _ _ _ _ hf).first;have:=hp.bound rfl z (Qk.2 ⟨x,hx,by rw[ez];simp⟩)
 rwa [kz] at this
theorem Z2k {s:Rm}{lv:Nat}{L M:List It}{tb:Ky}{e:Bool}{k:Int}(h1:rmE s k=0) (h2:rmV s k=((lv:Int),L)) (hne:L≠[]) (h:Zj3 s lv L tb e M):Zy s lv k (Znz L) tb e=true/\X3 s lv k=M:=by{
 obtain⟨x,r,rfl⟩:=Ps hne;obtain⟨z,hz⟩:∃ z,(x::r).getLast? = some z:=⟨_,Pz (by simp)⟩
 have hin:=Pn hz;have hb:e=true->Zo z.1 tb=true:=fun he=>by
  cases lv with
  | zero=>exact h.2.2.1 he z hin
  | succ l =>
   have h0:=h.1;rw[he] at h0;exact Zxj h0 z hin
 have hh:Zen (x::r) (Znz (x::r)) tb e=true:=by
  unfold Zen;rw[hz];cases e with
  | false=>simp[Znz]
  | true=>simp[Znz,hb rfl]
 cases lv with
 | zero =>
  refine⟨?_,by unfold X3;rw[h2];exact h.2.2.2.symm⟩;unfold Zy;rw[h1,h2,hh,h.2.1];simp
 | succ l =>
  refine⟨?_,by unfold X3;rw[h2];exact h.2.symm⟩;unfold Zy;rw[h1,h2,hh,h.1];simp}
theorem Zx2 {s:Rm}{lv:Nat}{A B M:List It}{tb:Ky}{e:Bool}(hB:B≠[]) (h:Zj3 s lv (A++B) tb e M):∃ M1 M2,M=M1++M2/\Zj3 s lv A (Znz B) true M1/\Zj3 s lv B tb e M2:=by{
 obtain⟨y,r,rfl⟩:=Ps hB;cases lv with
 | zero =>
  obtain⟨h1,h2,h3,h4⟩:=h;obtain⟨u1,u2,u3⟩:=Pi.1 h1;have hl:Yr s A=true/\Yr s (y::r)=true:=by
   unfold Yr at h2 ⊢;rw[List.all_append,Qe] at h2;exact h2
  exact⟨A,y::r,h4,⟨u1,hl.1,fun _ z hz=>u3 z hz y Qg,rfl⟩,⟨u2,hl.2,fun he z hz=>h3 he z (Pg _ hz),rfl⟩⟩
 | succ l =>
  obtain⟨h1,h2⟩:=h;rw[Y1,Qe] at h1;exact⟨_,_,by rw[h2,Pt],⟨h1.1,rfl⟩,⟨h1.2,rfl⟩⟩}
theorem Zzv {lv:Int}{l:List It}{k:Nat}(h:InN (lv,l)):InN (lv,l.take k):=⟨h.1,fun x hx=>h.2 x (Pk hx)⟩
theorem Z00 {lv:Int}{l:List It}{k:Nat}(h:InN (lv,l)):InN (lv,l.drop k):=⟨h.1,fun x hx=>h.2 x (P3 hx)⟩
theorem Za1 {s:Rm}{lv:Nat}{L M:List It}{tb:Ky}{e:Bool}(h:mkE s ((lv:Int),L)=0) (hi:InN ((lv:Int),L)) (hne:L≠[]) (hr:Zj3 s lv L tb e M) :
  Zy (mkV s ((lv:Int),L)) lv (mkN s ((lv:Int),L)) (Znz L) tb e=true/\X3 (mkV s ((lv:Int),L)) lv (mkN s ((lv:Int),L))=M:=by
 obtain⟨k,e1,_,_,_,_,r1,r2,_⟩:=Z0f hi h;rw[e1];exact Z2k r1 r2 hne (Zhr (Uy h) hr)
theorem Zit {s u:Rm}{lv:Nat}{L up M:List It}{tb:Ky}{e:Bool}(h:Zq s (lv:Int) L=(0,u,up)) (hi:InN ((lv:Int),L)) (hne:L≠[]) (hr:Zj3 s lv L tb e M) :
  Xu s u/\Zap (Zy u lv) up tb e=true/\(up.flatMap fun x=>X3 u lv x.2.1)=M/\(∃ z r,up=z::r/\z.1=Znz L):=by{
 rcases X8 h with ⟨h1,rfl,rfl⟩ | ⟨h0,h1,h2,rfl,rfl⟩
 ·obtain⟨g1,g2⟩:=Za1 h1 hi hne hr
  exact⟨Uy h1,g1,by simpa [upI] using g2,_,_,rfl,rfl⟩
 ·have hd:L.drop 3≠[]:=fun e=>by
   have:=congrArg List.length e;rw[Pu] at this;simp at this;omega
  have ht:L.take 3≠[]:=fun e=>by
   have h5:(L.take 3).length=0:=by rw[e];rfl
   rw[Pp] at h5;omega
  obtain⟨M1,M2,rfl,r1,r2⟩:=Zx2 hd (show Zj3 s lv (L.take 3++L.drop 3) tb e M by rw[Qy];exact hr);have k1:=Uy h1;have k2:=Uy h2;have k12:Xu s (mkV (mkV s ((lv:Int),L.take 3)) ((lv:Int),L.drop 3)):=⟨k2.may,fun i hi=>k2.held i (k1.held i hi),fun i hi=>(k2.seen i (k1.held i hi)).trans (k1.seen i hi)⟩
  obtain⟨g1,g2⟩:=Za1 h1 (Zzv hi) ht r1;obtain⟨g3,g4⟩:=Za1 h2 (Z00 hi) hd (Zhr k1 r2);obtain⟨g5,g6,_⟩:=Z7 k2 lv _ _ _ _ g1;refine⟨k12,?_,?_,_,_,rfl,?_⟩
  ·exact Bool.and_eq_true_iff.2 ⟨g5,g3⟩
  ·have e1:=g6.trans g2
   have:X3 (mkV (mkV s ((lv:Int),L.take 3)) ((lv:Int),L.drop 3)) lv (mkN s ((lv:Int),L.take 3))++(X3 (mkV (mkV s ((lv:Int),L.take 3)) ((lv:Int),L.drop 3)) lv (mkN (mkV s ((lv:Int),L.take 3)) ((lv:Int),L.drop 3))++[])=M1++M2:=by rw[e1,g4,Qap]
   exact this
  ·obtain⟨x,r,ex⟩:=Ps hne
   subst ex;rfl}
def Vs (s:Rm) (a:Int):Rm:=(s.1,s.2.1.set a.toNat (s.2.1[a.toNat]?.getD 0-1),s.2.2)
theorem Xp {s t u:Rm}(h1:Xu s t) (h2:Xu t u):Xu s u:=⟨h2.may,fun i hi=>h2.held i (h1.held i hi),fun i hi=>(h2.seen i (h1.held i hi)).trans (h1.seen i hi)⟩
theorem Zd4 {s:Rm}(h:Xl s=true):Xu s s:=⟨h,fun _ h=>h,fun _ _=>rfl⟩
theorem Zz0 {s:Rm}{a:Int}(h:Yx s.2.1 a.toNat≠0):dnO s.2.1 a.toNat=some (Vs s a).2.1:=by
 unfold dnO;rw[if_neg (Vy.1 h)];rfl
theorem Zss {s:Rm}{a:Int}(hm:Xl s=true) (h:2<=Yx s.2.1 a.toNat):Xu s (Vs s a):=by
 have hd:=Zz0 (s:=s) (a:=a) (by omega);obtain⟨_,_,hle,_⟩:=Zdu hd;obtain⟨c1,c2⟩:=Ziy hd;obtain⟨m1,m2,m3⟩:=Yf hm;refine⟨Zaa m1 (LeT.may hle m2) m3,fun k hk=> ?_,fun _ _=>rfl⟩;rw[<- Vy] at hk ⊢;by_cases e:k=a.toNat
 ·subst e;omega
 ·rw[c2 k e];exact hk
theorem Zgp {s t:Rm}(h:Xu s t){P:Nat->Nat}{N:List Int}(hE:Enf s.1 s.2.1 P N){m:Int}(hm:m∈N):ndD t.1 m=ndD s.1 m:=by
 unfold ndD;rw[h.seen _ (Vy.1 (hE.node m hm).2.2.2)]
theorem Zjm {s:Rm}{P:Nat->Nat}{N:List Int}{a:Int}(hm:Xl s=true) (hE:Enf s.1 s.2.1 (fun i=>P i+if i=a.toNat then 1 else 0) N) (h0:0<a) (hr:∃ n∈N,∃ x∈(ndD s.1 n).2,x.2.1=a):Xu s (Vs s a)/\Enf (Vs s a).1 (Vs s a).2.1 P N:=by{
 obtain⟨n,hn,x,hx,hxa⟩:=hr;have h1:=hE.enough a.toNat;have h2:=Zbn hx (k:=a.toNat) (by omega) (by omega);have h3:=Zf7 (d:=s.1) (k:=a.toNat) hn;simp only[if_true] at h1;have h4:2<=Yx s.2.1 a.toNat:=by omega
 have hd:=Zz0 (s:=s) (a:=a) (by omega);have hc:Yx (Vs s a).2.1 a.toNat≠0:=by
  have:=(Ziy hd).1;omega
 exact⟨Zss hm h4,Z30 hE hd hc⟩}
def Zm7 (s:Rm) (l:List It):Rm:=l.foldl (fun u x=>Vs u x.2.1) s
theorem Znk (s:Rm) (x:It) (l:List It):Zm7 s (x::l)=Zm7 (Vs s x.2.1) l:=rfl
theorem Zly:∀ (l:List It){s:Rm}{P:Nat->Nat}{N:List Int},Xl s=true->Enf s.1 s.2.1 (fun i=>P i+Xi l i) N->(∀ x∈l,0<x.2.1/\∃ n∈N,∃ z∈(ndD s.1 n).2,z.2.1=x.2.1)->Xu s (Zm7 s l)/\Enf (Zm7 s l).1 (Zm7 s l).2.1 P N
 | [],s,P,N,hm,hE,_=>⟨Zd4 hm,hE.same fun _=>rfl⟩
 | x::l,s,P,N,hm,hE,hr=>by
  obtain⟨h0,h1⟩:=hr x Qg
  obtain⟨k1,e1⟩:=Zjm (P:=fun i=>P i+Xi l i) hm (hE.same fun i=>by
   have ec:Xi (x::l) i=(if x.2.1=(i:Int) then (if x.2.1=0 then 0 else 1) else 0)+Xi l i:=rfl;show P i+Xi l i+(if i=x.2.1.toNat then 1 else 0)=P i+Xi (x::l) i;rw[ec];by_cases e:x.2.1=(i:Int)
   ·rw[if_pos e,if_neg (show ¬ x.2.1=0 by omega),if_pos (show i=x.2.1.toNat by omega)];omega
   ·rw[if_neg e,if_neg (show ¬ i=x.2.1.toNat by omega)];omega) h0 h1
  obtain⟨k2,e2⟩:=Zly l (s:=Vs s x.2.1) (P:=P) (N:=N) k1.may e1 fun y hy=>hr y (Qf _ hy)
  exact⟨Xp k1 k2,e2⟩
theorem Zev {s:Rm}{a:Int}(h:rmE s a=0):InN (rmV s a):=by
 obtain⟨k,rfl,_,_,_,_,_,hE,hV,_⟩:=Y3 (Z9 h).2;rw[hV];rw[hE] at h;exact(Zfl h).2.2
theorem Zze {l:List It}{k i:Nat}(h:8<=k):Xi [upI l (k:Int)] i=if i=k then 1 else 0:=by{
 show (if (k:Int)=(i:Int) then (if (k:Int)=0 then 0 else 1) else 0)+0=_;by_cases e:i=k
 ·subst e
  rw[if_pos rfl,if_neg (by omega),if_pos rfl]
 ·rw[if_neg (by omega),if_neg e]}
theorem U9 {s u:Rm}{lv:Int}{L up:List It}{P:Nat->Nat}{N:List Int}(h:Zq s lv L=(0,u,up)) (hi:InN (lv,L)) (hE:Enf s.1 s.2.1 P N) (hsub:lv≠0->∀ x∈L,x.2.1∈N/\x.2.1≠0/\(ndD s.1 x.2.1).1+1=lv) :
  ∃ N',Enf u.1 u.2.1 (fun i=>P i+Xi up i) N'/\Xu s u/\(∀ m∈N,m∈N')/\(∀ m∈N,ndD u.1 m=ndD s.1 m)/\(∀ y∈up,y.2.1∈N'/\8<=y.2.1/\y.2.1<256/\(ndD u.1 y.2.1).1=lv)/\(∀ x∈L,∃ n∈N',x∈(ndD u.1 n).2)/\up.length<=2/\u.1.2.length<=s.1.2.length+2:=by{
 have hw:∀ {s:Rm} {n:Nd},mkE s n=0->(mkV s n).1.2.length<=s.1.2.length+1:=fun {s n} h=>by
  obtain⟨k,_,_,_,_,_,_,hV,_⟩:=X7 h;rw[hV];simp[wrD]
 rcases X8 h with ⟨h1,rfl,rfl⟩ | ⟨h0,h1,h2,rfl,rfl⟩
 ·obtain⟨k,e1,k8,k256,_,_,hE1,hnd,hndm,_⟩:=Zlp h1 hi hE hsub
  refine⟨_,hE1.same fun i=>by rw[e1,Zze k8],Uy h1,fun m hm=>Qf _ hm,hndm,fun y hy=> ?_,fun x hx=>⟨k,Qg,by rw[hnd];exact hx⟩,by simp,by have:=hw h1;omega⟩;rw[Ql.1 hy,e1];exact⟨Qg,by show (8:Int)<=k;omega,by show (k:Int)<256;omega,by show (ndD _ (k:Int)).1=_;rw[hnd]⟩
 ·have hst:lv≠0->∀ x∈L.take 3,x.2.1∈N/\x.2.1≠0/\(ndD s.1 x.2.1).1+1=lv:=fun hl x hx=>hsub hl x (Pk hx)
  obtain⟨k,e1,k8,k256,_,_,hE1,hnd,hndm,_⟩:=Zlp h1 (Zzv hi) hE hst;obtain⟨j,e2,j8,j256,_,hjN,hE2,hnd2,hndm2,_⟩:=Zlp h2 (Z00 hi) hE1 fun hl x hx=>by
   obtain⟨g1,g2,g3⟩:=hsub hl x (P3 hx);exact⟨Qf _ g1,g2,by rw[hndm _ g1];exact g3⟩
  have hkk:ndD (mkV (mkV s (lv,L.take 3)) (lv,L.drop 3)).1 (k:Int)=(lv,L.take 3):=(hndm2 _ Qg).trans hnd;refine⟨_,hE2.same fun i=> ?_,Xp (Uy h1) (Uy h2),fun m hm=>Qf _ (Qf _ hm),fun m hm=>(hndm2 m (Qf _ hm)).trans (hndm m hm),fun y hy=> ?_,fun x hx=> ?_,by simp,by have:=hw h1;have:=hw h2;omega⟩
  ·have ec:Xi [upI (L.take 3) (mkN s (lv,L.take 3)),upI (L.drop 3) (mkN (mkV s (lv,L.take 3)) (lv,L.drop 3))] i=Xi [upI (L.take 3) (mkN s (lv,L.take 3))] i+Xi [upI (L.drop 3) (mkN (mkV s (lv,L.take 3)) (lv,L.drop 3))] i:=by
    show _+(_+0)=(_+0)+(_+0);omega
   rw[ec,e1,e2,Zze k8,Zze j8];omega
  ·rcases Qd.1 hy with rfl | hy
   ·rw[e1]
    exact⟨Qf _ Qg,by show (8:Int)<=k;omega,by show (k:Int)<256;omega,by show (ndD _ (k:Int)).1=_;rw[hkk]⟩
   ·rw[Ql.1 hy,e2]
    exact⟨Qg,by show (8:Int)<=j;omega,by show (j:Int)<256;omega,by show (ndD _ (j:Int)).1=_;rw[hnd2]⟩
  ·rw[<- Qy 3 L] at hx
   rcases Qp.1 hx with hx | hx
   ·exact⟨k,Qf _ Qg,by rw[hkk];exact hx⟩
   ·exact⟨j,Qg,by rw[hnd2];exact hx⟩}
def Za7 (l:List It) (p many:Nat) (up:List It):List It:=l.take p++(up++l.drop (p+many))
def Zcd (n:Nd) (k:Ky):Int:=((n.2[Xg n k]?).map fun y=>y.2.1).getD 0
def Zn (x:It):Nat->Rm->Int->Int×Rm×List It
 | 0,s,a =>
  if (Zq s 0 (Za7 (rmV s a).2 (Z2 (rmV s a) x.1) (if Yk (rmV s a) x.1=true then 1 else 0) [x])).1=0 then
   (0,(if x.2.1=0 then (Zq s 0 (Za7 (rmV s a).2 (Z2 (rmV s a) x.1) (if Yk (rmV s a) x.1=true then 1 else 0) [x])).2.1 else Vs (Zq s 0 (Za7 (rmV s a).2 (Z2 (rmV s a) x.1) (if Yk (rmV s a) x.1=true then 1 else 0) [x])).2.1 x.2.1),(Zq s 0 (Za7 (rmV s a).2 (Z2 (rmV s a) x.1) (if Yk (rmV s a) x.1=true then 1 else 0) [x])).2.2)
  else ((Zq s 0 (Za7 (rmV s a).2 (Z2 (rmV s a) x.1) (if Yk (rmV s a) x.1=true then 1 else 0) [x])).1,Zi,[])
 | l+1,s,a =>
  if (Zn x l s (Zcd (rmV s a) x.1)).1=0 then
   if (Zq (Zn x l s (Zcd (rmV s a) x.1)).2.1 ((l+1:Nat):Int) (Za7 (rmV s a).2 (Xg (rmV s a) x.1) 1 (Zn x l s (Zcd (rmV s a) x.1)).2.2)).1=0 then
    (0,Zm7 (Zq (Zn x l s (Zcd (rmV s a) x.1)).2.1 ((l+1:Nat):Int) (Za7 (rmV s a).2 (Xg (rmV s a) x.1) 1 (Zn x l s (Zcd (rmV s a) x.1)).2.2)).2.1 (Zn x l s (Zcd (rmV s a) x.1)).2.2,
     (Zq (Zn x l s (Zcd (rmV s a) x.1)).2.1 ((l+1:Nat):Int) (Za7 (rmV s a).2 (Xg (rmV s a) x.1) 1 (Zn x l s (Zcd (rmV s a) x.1)).2.2)).2.2)
   else ((Zq (Zn x l s (Zcd (rmV s a) x.1)).2.1 ((l+1:Nat):Int) (Za7 (rmV s a).2 (Xg (rmV s a) x.1) 1 (Zn x l s (Zcd (rmV s a) x.1)).2.2)).1,Zi,[])
  else ((Zn x l s (Zcd (rmV s a) x.1)).1,Zi,[])
theorem Zuv {x:It}{s u:Rm}{a:Int}{up:List It}(h:Zn x 0 s a=(0,u,up)):∃ u0,Zq s 0 (Za7 (rmV s a).2 (Z2 (rmV s a) x.1) (if Yk (rmV s a) x.1=true then 1 else 0) [x])=(0,u0,up)/\u=if x.2.1=0 then u0 else Vs u0 x.2.1:=by{
 unfold Zn at h;generalize hb:Zq s 0 _=b at h;obtain⟨e,v,q⟩:=b;split at h
 ·rename_i h0
  cases h;exact⟨v,by rw[show e=0 from h0],rfl⟩
 ·rename_i h0
  simp only[Prod.mk.injEq] at h;exact absurd h.1 h0}
theorem Zr2 {x:It}{l:Nat}{s u:Rm}{a:Int}{up:List It}(h:Zn x (l+1) s a=(0,u,up)):∃ u1 up1 u2,Zn x l s (Zcd (rmV s a) x.1)=(0,u1,up1)/\Zq u1 ((l+1:Nat):Int) (Za7 (rmV s a).2 (Xg (rmV s a) x.1) 1 up1)=(0,u2,up)/\u=Zm7 u2 up1:=by{
 unfold Zn at h;generalize hg:Zn x l s _=g at h;obtain⟨e,u1,up1⟩:=g;generalize hb:Zq _ _ _=b at h;obtain⟨f,u2,q⟩:=b;split at h
 ·rename_i h0
  split at h
  ·rename_i h1
   cases h;exact⟨u1,up1,u2,by rw[show e=0 from h0],by rw[<- show f=0 from h1];exact hb,rfl⟩
  ·rename_i h1
   simp only[Prod.mk.injEq] at h;exact absurd h.1 h1
 ·rename_i h0
  simp only[Prod.mk.injEq] at h;exact absurd h.1 h0}
theorem Zjr {s u:Rm}{lv:Int}{L up:List It}(h:Zq s lv L=(0,u,up)) (hne:L≠[]):∀ y∈up,∃ q∈L,y.1=q.1:=by{
 have hk:∀ {M:List It},M≠[]->∃ q∈M,Znz M=q.1:=fun {M} hM=>by
  obtain⟨q,r,rfl⟩:=Ps hM;exact⟨q,Qg,rfl⟩
 rcases X8 h with ⟨_,_,rfl⟩ | ⟨h0,_,_,_,rfl⟩
 ·intro y hy
  rw[Ql.1 hy];exact hk hne
 ·have hd:L.drop 3≠[]:=fun e=>by
   have:=congrArg List.length e;rw[Pu] at this;simp at this;omega
  have ht:L.take 3≠[]:=fun e=>by
   have h5:(L.take 3).length=0:=by rw[e];rfl
   rw[Pp] at h5;omega
  intro y hy;rcases Qd.1 hy with rfl | hy
  ·obtain⟨q,hq,e⟩:=hk ht
   exact⟨q,Pk hq,e⟩
  ·rw[Ql.1 hy]
   obtain⟨q,hq,e⟩:=hk hd;exact⟨q,P3 hq,e⟩}
theorem Z3b {y:It}{r:List It}{x:It}(h:Up (y::r)) (hx:Zo x.1 y.1=false):Znz (V4 (y::r) x)=y.1:=by{
 unfold V4;cases hy:Zo y.1 x.1 with
 | true =>
  rw[Qam (by simpa using hy)];rfl
 | false =>
  have e:y.1=x.1:=by
   by_cases e:y.1=x.1
   ·exact e
   ·rw[Zbx e hy] at hx;cases hx
  rw[Ut (L:=y::r) fun z hz=> ?_]
  ·exact e.symm
  ·rcases Qd.1 hz with rfl | hz
   ·exact hy
   ·rw[<- e]
    exact Vo ((Qt.1 h).1 z hz)}
def Ybq (s:Rm):Nat->List It->Ky->Bool->Bool
 | 0,L,_,_=>Yr s L
 | j+1,L,tb,e=>Zap (Zy s j) L tb e
structure Zna (s:Rm) (l:Nat) (a:Int) (tb:Ky) (e:Bool):Prop where
 ok:rmE s a=0
 lv:(rmV s a).1=(l:Int)
 inn:Ybq s l (rmV s a).2 tb e=true
 low:e=true->∀ y∈(rmV s a).2,Zo y.1 tb=true
theorem Ziv {s:Rm}{l:Nat}{a:Int}{k tb:Ky}{e:Bool}(h:Zy s l a k tb e=true):Zna s l a tb e/\∀ y r,(rmV s a).2=y::r->y.1=k:=by{
 obtain⟨r1,r2,r3,r4⟩:=Ya h;obtain⟨y,r,e1,e2,e3⟩:=Zbr r3;refine⟨⟨r1,r2,by cases l <;> exact r4,fun he=> ?_⟩,fun y' r' e'=> ?_⟩
 ·obtain⟨z,hz,hb⟩:=e3 he
  exact Zrc (Ug (Z9 r1).1) hz hb
 ·rw[e1] at e'
  cases e';exact e2}
theorem Zhm {s:Rm}{a:Int}(h:Yq s a=true):Zna s (rmV s a).1.toNat a Zbl false:=by
 obtain⟨r1,_,_,l0,_,hi⟩:=Xe h;refine⟨r1,by omega,?_,fun he=>by cases he⟩;unfold Uz at hi;cases hl:(rmV s a).1.toNat with
 | zero=>rw[hl] at hi;exact hi
 | succ j=>rw[hl] at hi;exact hi
def Zbb (x:It) (i:Nat):Nat:=if x.2.1≠0/\i=x.2.1.toNat then 1 else 0
structure Zjk (s u:Rm) (P:Nat->Nat) (N N':List Int) (l:Nat) (a:Int) (up:List It) (x:It) (tb:Ky) (e:Bool):Prop where
 keep:Xu s u
 its:Zap (Zy u l) up tb e=true
 all:(up.flatMap fun y=>X3 u l y.2.1)=V4 (X3 s l a) x
 first:∃ z r,up=z::r/\∀ y q,(rmV s a).2=y::q->Zo x.1 y.1=false->z.1=y.1
 enf:Enf u.1 u.2.1 (fun i=>P i+Xi up i) N'
 more:∀ m∈N,m∈N'
 ups:∀ y∈up,y.2.1∈N'/\8<=y.2.1/\y.2.1<256/\(ndD u.1 y.2.1).1=(l:Int)
 inI:∀ y∈up,InI y
 few:up.length<=2
 writes:u.1.2.length<=s.1.2.length+2*(l+1)
theorem Zux {x:It}(hx:InI x){s u:Rm}{a:Int}{tb:Ky}{e:Bool}{P:Nat->Nat}{N:List Int}{up:List It}(ht:Zna s 0 a tb e) (hb:e=true->Zo x.1 tb=true) (hr:x.2.1=0\/(0<x.2.1/\s.2.1[x.2.1.toNat]?.getD 0≠0))
  (hE:Enf s.1 s.2.1 (fun i=>P i+Zbb x i) N) (h:Zn x 0 s a=(0,u,up)):∃ N',Zjk s u P N N' 0 a up x tb e:=by{
 obtain⟨u0,h1,rfl⟩:=Zuv h;have hm:=(Z9 ht.ok).1;have el:Za7 (rmV s a).2 (Z2 (rmV s a) x.1) (if Yk (rmV s a) x.1=true then 1 else 0) [x]=V4 (rmV s a).2 x:=Zhq hm x;rw[el] at h1;have hin:x∈V4 (rmV s a).2 x:=Zdq.2 (.inl rfl);have hne:V4 (rmV s a).2 x≠[]:=fun e=>by rw[e] at hin;cases hin
 have hi:InN ((0:Int),V4 (rmV s a).2 x):=⟨⟨by simp,by simp⟩,fun y hy=>by
  rcases Zdq.1 hy with rfl | ⟨hy,_⟩
  ·exact hx
  ·exact(Zev ht.ok).it y hy⟩
 have hrow:Zj3 s 0 (V4 (rmV s a).2 x) tb e (V4 (rmV s a).2 x):=by
  refine⟨Z50 (Ug hm) x,?_,fun he y hy=> ?_,rfl⟩
  ·have h2:Yr s (rmV s a).2=true:=ht.inn
   unfold Yr at h2 ⊢;rw[Qx] at h2 ⊢;intro y hy;rcases Zdq.1 hy with rfl | ⟨hy,_⟩
   ·rcases hr with hr | hr
    ·simp[hr]
    ·simp[hr.2]
   ·exact h2 y hy
  ·rcases Zdq.1 hy with rfl | ⟨hy,_⟩
   ·exact hb he
   ·exact ht.low he y hy
 obtain⟨k1,g1,g2,z,r,ez,kz⟩:=Zit (lv:=0) h1 hi hne hrow;obtain⟨N',e1,_,e3,e4,e5,e6,e7,e8⟩:=U9 h1 hi hE fun h0=>absurd rfl h0;have hK:Xu u0 (if x.2.1=0 then u0 else Vs u0 x.2.1)/\Enf (if x.2.1=0 then u0 else Vs u0 x.2.1).1 (if x.2.1=0 then u0 else Vs u0 x.2.1).2.1 (fun i=>P i+Xi up i) N':=by
  by_cases h0:x.2.1=0
  ·rw[if_pos h0]
   exact⟨Zd4 k1.may,e1.same fun i=>by simp[Zbb,h0]⟩
  ·rw[if_neg h0]
   obtain⟨n,hn,hxn⟩:=e6 x hin;have hpos:0<x.2.1:=by rcases hr with hr | hr <;> omega
   refine Zjm k1.may (e1.same fun i=> ?_) hpos ⟨n,hn,x,hxn,rfl⟩;show P i+Xi up i+(if i=x.2.1.toNat then 1 else 0)=P i+Zbb x i+Xi up i;unfold Zbb;by_cases ei:i=x.2.1.toNat
   ·rw[if_pos ei,if_pos ⟨h0,ei⟩];omega
   ·rw[if_neg ei,if_neg fun h=>ei h.2];omega
 obtain⟨k2,e9⟩:=hK;have hnd:∀ m∈N',ndD (if x.2.1=0 then u0 else Vs u0 x.2.1).1 m=ndD u0.1 m:=fun m hm=>by
  by_cases h0:x.2.1=0
  ·rw[if_pos h0]
  ·rw[if_neg h0];rfl
 refine⟨N',Xp k1 k2,Ux (fun a k tb e hf=>(Z7 k2 0 a k tb e hf).1) _ _ _ g1,?_,⟨z,r,ez,fun y q ey hxy=> ?_⟩,e9,e3,fun y hy=> ?_,fun y hy=> ?_,e7,?_⟩
 ·rw[show X3 s 0 a=(rmV s a).2 from rfl,<- g2]
  exact X5 fun y hy=>by
   obtain⟨t',e',hf⟩:=Xr g1 y hy;exact(Z7 k2 0 _ _ _ _ hf).2.1
 ·rw[kz,ey]
  exact Z3b (by rw[<- ey];exact Ug hm) hxy
 ·obtain⟨f1,f2,f3,f4⟩:=e5 y hy
  exact⟨f1,f2,f3,by rw[hnd _ f1];exact f4⟩
 ·obtain⟨q,hq,eq⟩:=Zjr h1 hne y hy
  obtain⟨_,f2,f3,_⟩:=e5 y hy;exact⟨by rw[eq];exact(hi.it q hq).key,⟨by omega,by omega⟩⟩
 ·have:(if x.2.1=0 then u0 else Vs u0 x.2.1).1=u0.1:=by
   by_cases h0:x.2.1=0
   ·rw[if_pos h0]
   ·rw[if_neg h0];rfl
  rw[this];omega}
theorem Zhn {n:Nd}{k:Ky}{y:It}(hy:n.2[Xg n k]? = some y):n.2=n.2.take (Xg n k)++y::n.2.drop (Xg n k+1):=by
 obtain⟨hp,hg⟩:=Qj.1 hy
 conv=>lhs;rw[<- Qy (Xg n k) n.2,Qao hp,hg]
theorem Zp4 {x:It}{l:Nat}(h6:l+1<6){s u:Rm}{a:Int}{tb:Ky}{e:Bool}{P:Nat->Nat}{N:List Int}{up:List It}
  (ih:∀ {u:Rm} {a:Int} {tb:Ky} {e:Bool} {up:List It},Zna s l a tb e->(e=true->Zo x.1 tb=true)->a∈N->Zn x l s a=(0,u,up)->∃ N',Zjk s u P N N' l a up x tb e)
  (ht:Zna s (l+1) a tb e) (hb:e=true->Zo x.1 tb=true) (ha:a∈N) {Q:Nat->Nat} (hE:Enf s.1 s.2.1 Q N) (h:Zn x (l+1) s a=(0,u,up)):∃ N',Zjk s u P N N' (l+1) a up x tb e:=by{
 obtain⟨u1,up1,u2,h1,h2,rfl⟩:=Zr2 h;have hm:=(Z9 ht.ok).1;have hne:0<(rmV s a).2.length:=(Zx hm).1.2.2.2 (by rw[ht.lv];omega);obtain⟨y,hy⟩:∃ y,(rmV s a).2[Xg (rmV s a) x.1]? = some y:=⟨_,Qc (Zcz x.1 hne)⟩
 have hw:=Zhn hy;have hyin:y∈(rmV s a).2:=Qu hy;have hir:Zcd (rmV s a) x.1=y.2.1:=by unfold Zcd;rw[hy];rfl
 rw[hir] at h1;have hbe:=fun(i:Nat) (c:It) (hi:Xg (rmV s a) x.1<i) (hc:(rmV s a).2[i]? = some c)=>Zgh hm hi hc
 have hown:=Zx3 hm hy;have hA0:(rmV s a).2.take (Xg (rmV s a) x.1)≠[]->Zo x.1 y.1=false:=fun hA=>hown fun e=>hA (by rw[e];rfl)
 have hCk:∀ c r,(rmV s a).2.drop (Xg (rmV s a) x.1+1)=c::r->Zo x.1 c.1=true:=fun c r hc=>by
  refine hbe (Xg (rmV s a) x.1+1) c (by omega) ?_;have:=congrArg (fun l=>l[0]?) hc
  simpa [Q4] using this
 have eL:Za7 (rmV s a).2 (Xg (rmV s a) x.1) 1 up1=(rmV s a).2.take (Xg (rmV s a) x.1)++(up1++(rmV s a).2.drop (Xg (rmV s a) x.1+1)):=rfl;rw[eL] at h2;generalize hAe:(rmV s a).2.take (Xg (rmV s a) x.1)=A at *;generalize hCe:(rmV s a).2.drop (Xg (rmV s a) x.1+1)=C at *;have hinn:Zap (Zy s l) (rmV s a).2 tb e=true:=ht.inn;rw[hw] at hinn;have hsp:=hinn;rw[Y1,Qe,Vj,Qe] at hsp;obtain⟨iA,iy,iC⟩:=hsp;obtain⟨hty,htk⟩:=Ziv iy;have hbC:bxO C e=true->Zo x.1 (nxO C tb)=true:=fun he=>by
  cases hC:C with
  | nil=>rw[hC] at he;exact hb he
  | cons c r=>exact hCk c r hC
 have hnd:ndD s.1 a=rmV s a:=Zai ht.ok;have hsh:∀ q∈(rmV s a).2,q.2.1∈N/\q.2.1≠0/\(ndD s.1 q.2.1).1+1=((l+1:Nat):Int):=fun q hq=>by
  have:=hE.shut a ha (by rw[hnd,ht.lv];omega) q (by rw[hnd];exact hq);rw[hnd,ht.lv] at this;exact this
 obtain⟨N1,G⟩:=ih hty hbC (hsh y hyin).1 h1;obtain⟨z1,r1,ez1,kz1⟩:=G.first;have hz1:Zo x.1 y.1=false->z1.1=y.1:=fun hxy=>by
  obtain⟨y0,q0,e0,_⟩:∃ y0 q0,(rmV s y.2.1).2=y0::q0/\True:=by
   obtain⟨_,_,r3,_⟩:=Ya iy;obtain⟨y0,q0,e0,_⟩:=Zbr r3;exact⟨y0,q0,e0,trivial⟩
  have k0:=htk y0 q0 e0;rw[kz1 y0 q0 e0 (by rw[k0];exact hxy),k0]
 have hits:Zap (Zy u1 l) (A++(up1++C)) tb e=true:=Zrj hinn (fun hA=>hz1 (hA0 hA)) ez1 (fun q _ k tb e hf=>(Z7 G.keep l _ _ _ _ hf).1) G.its;have hfA:(A.flatMap fun q=>X3 u1 l q.2.1)=A.flatMap fun q=>X3 s l q.2.1:=X5 fun q hq=>by
  obtain⟨t',e',hf⟩:=Xr iA q hq;exact(Z7 G.keep l _ _ _ _ hf).2.1
 have hfC:(C.flatMap fun q=>X3 u1 l q.2.1)=C.flatMap fun q=>X3 s l q.2.1:=X5 fun q hq=>by
  obtain⟨t',e',hf⟩:=Xr iC q hq;exact(Z7 G.keep l _ _ _ _ hf).2.1
 have hpA:∀ q∈A.flatMap (fun q=>X3 s l q.2.1),Zo q.1 x.1=true:=fun q hq=>by
  by_cases hA:A=[]
  ·rw[hA] at hq;cases hq
  ·have iA':Zap (Zy s l) A y.1 true=true:=iA
   obtain⟨_,_,_,hp⟩:=Zat (Y4 s l) A y.1 true hA iA';exact Zre (hp.bound rfl q hq) (hA0 hA)
 have hpC:∀ q∈C.flatMap (fun q=>X3 s l q.2.1),Zo x.1 q.1=true:=fun q hq=>by
  by_cases hC:C=[]
  ·rw[hC] at hq;cases hq
  ·obtain⟨c,r,ec,hp⟩:=Zat (Y4 s l) C tb e hC iC
   have hc:=hCk c r ec;rcases hp.ge q hq with e1 | e1
   ·rw[e1];exact hc
   ·exact Yu hc e1
 have hall:((A++(up1++C)).flatMap fun q=>X3 u1 l q.2.1)=V4 (X3 s (l+1) a) x:=by
  have e1:X3 s (l+1) a=(rmV s a).2.flatMap fun q=>X3 s l q.2.1:=rfl
  rw[e1,hw,Pt,Pt,Pt,Qv,hfA,hfC,G.all,Zua hpA hpC]
 have hin:InN (((l+1:Nat):Int),A++(up1++C)):=⟨⟨by show (-9223372036854775808:Int)<=((l+1:Nat):Int);omega,by show ((l+1:Nat):Int)<=9223372036854775807;omega⟩,fun q hq=>by
  have hN:=(Zev ht.ok).it;rw[hw] at hN;rcases Qp.1 hq with hq | hq
  ·exact hN q (Pr _ hq)
  ·rcases Qp.1 hq with hq | hq
   ·exact G.inI q hq
   ·exact hN q (Pg _ (Qf _ hq))⟩
 have hnL:A++(up1++C)≠[]:=by rw[ez1];simp
 have hrow:Zj3 u1 (l+1) (A++(up1++C)) tb e (V4 (X3 s (l+1) a) x):=⟨hits,hall.symm⟩
 obtain⟨k2,g1,g2,z,r,ez,kz⟩:=Zit h2 hin hnL hrow;obtain⟨N2,e1,_,e3,e4,e5,e6,e7,e8⟩:=U9 h2 hin G.enf fun _ q hq=>by
  have Zbb:∀ q∈(rmV s a).2,q.2.1∈N1/\q.2.1≠0/\(ndD u1.1 q.2.1).1+1=((l+1:Nat):Int):=fun q hq=>by
   obtain⟨f1,f2,f3⟩:=hsh q hq;exact⟨G.more _ f1,f2,by rw[Zgp G.keep hE f1];exact f3⟩
  rw[hw] at Zbb;rcases Qp.1 hq with hq | hq
  ·exact Zbb q (Pr _ hq)
  ·rcases Qp.1 hq with hq | hq
   ·obtain⟨f1,f2,f3,f4⟩:=G.ups q hq
    exact⟨f1,by omega,by rw[f4];omega⟩
   ·exact Zbb q (Pg _ (Qf _ hq))
 obtain⟨k3,e9⟩:=Zly up1 (s:=u2) (P:=fun i=>P i+Xi up i) (N:=N2) k2.may (e1.same fun i=>by show P i+Xi up i+Xi up1 i=P i+Xi up1 i+Xi up i;omega) fun q hq=>by
  obtain⟨_,f2,_,_⟩:=G.ups q hq;obtain⟨n,hn,hqn⟩:=e6 q (Pg _ (Pr _ hq));exact⟨by omega,n,hn,q,hqn,rfl⟩
 have hd:(Zm7 u2 up1).1=u2.1:=by
  clear k3 e9 e1;have:∀ (l:List It) (v:Rm),(Zm7 v l).1=v.1:=by
   intro l
   induction l with
   | nil=>intro v;rfl
   | cons q r ih=>intro v;rw[Znk,ih];rfl
  exact this up1 u2
 refine⟨N2,Xp (Xp G.keep k2) k3,Ux (fun a k tb e hf=>(Z7 k3 (l+1) a k tb e hf).1) _ _ _ g1,?_,⟨z,r,ez,fun y0 q0 e0 hxy=> ?_⟩,e9,fun m hm=>e3 m (G.more m hm),fun q hq=> ?_,fun q hq=> ?_,e7,?_⟩
 ·rw[<- g2]
  exact X5 fun q hq=>by
   obtain⟨t',e',hf⟩:=Xr g1 q hq;exact(Z7 k3 (l+1) _ _ _ _ hf).2.1
 ·rw[kz]
  rw[hw] at e0;cases hA:A with
  | nil =>
   rw[hA] at e0;cases e0;rw[ez1];exact hz1 hxy
  | cons c r0 =>
   rw[hA] at e0;cases e0;rfl
 ·rw[hd]
  exact e5 q hq
 ·obtain⟨p,hp,ep⟩:=Zjr h2 hnL q hq
  obtain⟨_,f2,f3,_⟩:=e5 q hq;exact⟨by rw[ep];exact(hin.it p hp).key,⟨by omega,by omega⟩⟩
 ·rw[hd]
  have:=G.writes;omega}
theorem Zhp {x:It}(hx:InI x){s:Rm}{P:Nat->Nat}{N:List Int}(hr:x.2.1=0\/(0<x.2.1/\s.2.1[x.2.1.toNat]?.getD 0≠0)) (hE:Enf s.1 s.2.1 (fun i=>P i+Zbb x i) N):∀ (l:Nat),l<6->∀ {u:Rm}{a:Int}{tb:Ky}{e:Bool}{up:List It},Zna s l a tb e->(e=true->Zo x.1 tb=true)->a∈N->Zn x l s a=(0,u,up)->∃ N',Zjk s u P N N' l a up x tb e
 | 0,_,_,_,_,_,_,ht,hb,_,h=>Zux hx ht hb hr hE h
 | l+1,h6,_,_,_,_,_,ht,hb,ha,h=>Zp4 h6 (fun ht hb ha h=>Zhp hx hr hE l (by omega) ht hb ha h) ht hb ha hE h
def Zqv (s:Rm):Nat->Int->Ky->Bool
 | 0,a,k=>decide (5<=(rmV s a).2.length) && !Yk (rmV s a) k
 | l+1,a,k=>decide (5<=(rmV s a).2.length)&&Zqv s l (Zcd (rmV s a) k) k
def Zql (s:Rm) (a:Int) (k:Ky):Bool:=decide ((rmV s a).1=5)&&Zqv s 5 a k
def Vl (s:Rm) (lv:Int) (up:List It):Int×Rm×List It :=
 if 1<up.length then
  if (Zq s (lv+1) up).1=0 then (0,Zm7 (Zq s (lv+1) up).2.1 up,(Zq s (lv+1) up).2.2) else ((Zq s (lv+1) up).1,Zi,[])
 else (0,s,up)
def Zcc (up:List It):Int:=match up with | []=>0 | z::_=>z.2.1
def Zmr (s:Rm) (a:Int) (x:It):Int×Rm×Int :=
 if Zql s a x.1 then (120,Zi,0)
 else if (Zn x (rmV s a).1.toNat s a).1=0 then
  if (Vl (Zn x (rmV s a).1.toNat s a).2.1 (rmV s a).1 (Zn x (rmV s a).1.toNat s a).2.2).1=0 then
   match lfO (Vl (Zn x (rmV s a).1.toNat s a).2.1 (rmV s a).1 (Zn x (rmV s a).1.toNat s a).2.2).2.1.1 (Vl (Zn x (rmV s a).1.toNat s a).2.1 (rmV s a).1 (Zn x (rmV s a).1.toNat s a).2.2).2.1.2.1 a.toNat with
   | none=>(8,Zi,0)
   | some v=>(0,((Vl (Zn x (rmV s a).1.toNat s a).2.1 (rmV s a).1 (Zn x (rmV s a).1.toNat s a).2.2).2.1.1,v,(Vl (Zn x (rmV s a).1.toNat s a).2.1 (rmV s a).1 (Zn x (rmV s a).1.toNat s a).2.2).2.1.2.2),Zcc (Vl (Zn x (rmV s a).1.toNat s a).2.1 (rmV s a).1 (Zn x (rmV s a).1.toNat s a).2.2).2.2)
  else ((Vl (Zn x (rmV s a).1.toNat s a).2.1 (rmV s a).1 (Zn x (rmV s a).1.toNat s a).2.2).1,Zi,0)
 else ((Zn x (rmV s a).1.toNat s a).1,Zi,0)
def Ybm (s:Rm) (a:Int) (x:It):Int×Rm×Int :=
 if ckE s a=0 then if Zbg x then if x.2.1≠0/\s.2.1[x.2.1.toNat]?.getD 0=0 then (6,Zi,0) else Zmr s a x else (8,Zi,0) else (ckE s a,Zi,0)
theorem Zyu {s u:Rm}{lv:Int}{up top:List It}(h:Vl s lv up=(0,u,top)):(up.length<=1/\u=s/\top=up)\/(1<up.length/\∃ u0,Zq s (lv+1) up=(0,u0,top)/\u=Zm7 u0 up):=by{
 unfold Vl at h;split at h
 ·rename_i h0
  generalize hb:Zq s (lv+1) up=b at h;obtain⟨e,v,q⟩:=b;split at h
  ·rename_i h1
   cases h;exact .inr ⟨h0,v,by rw[show e=0 from h1],rfl⟩
  ·rename_i h1
   simp only[Prod.mk.injEq] at h;exact absurd h.1 h1
 ·cases h
  exact .inl ⟨by omega,rfl,rfl⟩}
theorem Zk5 {s:Rm}{l:Nat}{a:Int}{k:Ky}(h:Zy s l a k Zbl false=true):Yq s a=true/\Zad s a=X3 s l a/\(rmV s a).1=(l:Int):=by{
 obtain⟨r1,r2,r3,r4⟩:=Ya h;have e:(rmV s a).1.toNat=l:=by omega
 refine⟨?_,by unfold Zad;rw[e],r2⟩;unfold Yq Uz;rw[e,r1];cases l with
 | zero=>simp only[Qe];exact⟨by decide,r4⟩
 | succ j=>simp only[Qe];exact⟨by decide,r4⟩}
theorem Z8a {s:Rm}{t:List UInt8}{Q:Nat->Nat}{M:List Int}(hE:Enf s.1 t Q M){x:It}{n:Int}(hn:n∈M) (hx:x∈(ndD s.1 n).2) (h0:x.2.1≠0):Yx t x.2.1.toNat≠0:=by
 have h1:=hE.enough x.2.1.toNat;have h2:0<=x.2.1:=by rcases hE.refs n hn x hx with e | e <;> omega
 have h3:=Zbn hx (k:=x.2.1.toNat) (by omega) h0;have h4:=Zf7 (d:=s.1) (k:=x.2.1.toNat) hn;omega
theorem Zui {s:Rm}{t:List UInt8}{Q:Nat->Nat}{M:List Int}(hE:Enf s.1 t Q M){a:Int}(hr:rmE s a=0) (ha:a∈M):(∀ n∈Y0 s 0 a,n∈M)/\∀ r∈Vq s 0 a,Yx t r.toNat≠0:=by{
 refine⟨fun n hn=> ?_,fun r hr'=> ?_⟩
 ·simp only[Y0,Ql] at hn
  rw[hn];exact ha
 ·simp only[Vq,Qi,Pf,decide_eq_true_eq] at hr'
  obtain⟨⟨x,hx,rfl⟩,h0⟩:=hr';exact Z8a hE ha (by rw[Zai hr];exact hx) h0}
theorem Z5p {s:Rm}{t:List UInt8}{Q:Nat->Nat}{M:List Int}(hE:Enf s.1 t Q M){l:Nat}{a:Int}(hr:rmE s a=0) (hl:(rmV s a).1=((l+1:Nat):Int)) (ha:a∈M)
  (ih:∀ x∈(rmV s a).2,x.2.1∈M->(∀ n∈Y0 s l x.2.1,n∈M)/\∀ r∈Vq s l x.2.1,Yx t r.toNat≠0):(∀ n∈Y0 s (l+1) a,n∈M)/\∀ r∈Vq s (l+1) a,Yx t r.toNat≠0:=by{
 have hs:∀ x∈(rmV s a).2,x.2.1∈M:=fun x hx=>(hE.shut a ha (by rw[Zai hr,hl];omega) x (by rw[Zai hr];exact hx)).1
 refine⟨fun n hn=> ?_,fun r hr'=> ?_⟩
 ·simp only[Y0,Qd,Qk] at hn
  rcases hn with rfl | ⟨x,hx,hn⟩
  ·exact ha
  ·exact(ih x hx (hs x hx)).1 n hn
 ·simp only[Vq,Qk] at hr'
  obtain⟨x,hx,hr'⟩:=hr';exact(ih x hx (hs x hx)).2 r hr'}
theorem Zok {s:Rm}{t:List UInt8}{Q:Nat->Nat}{M:List Int}(hE:Enf s.1 t Q M):∀ (l:Nat) (a:Int) (k tb:Ky) (e:Bool),Zy s l a k tb e=true->a∈M->(∀ n∈Y0 s l a,n∈M)/\∀ r∈Vq s l a,Yx t r.toNat≠0
 | 0,a,k,tb,e,hr,ha=>Zui hE (Ya hr).1 ha
 | l+1,a,k,tb,e,hr,ha=>by
  obtain⟨r1,r2,_,r4⟩:=Ya hr;exact Z5p hE r1 r2 ha fun x hx hxM=>by
   obtain⟨t',e',hf⟩:=Xr r4 x hx;exact Zok hE l _ _ _ _ hf hxM
theorem Z3t {s:Rm}{t:List UInt8}{Q:Nat->Nat}{M:List Int}(hE:Enf s.1 t Q M){a:Int}(h:Yq s a=true) (ha:a∈M):(∀ n∈Xo s a,n∈M)/\∀ r∈Zez s a,Yx t r.toNat≠0:=by{
 obtain⟨r1,_,_,l0,_,hi⟩:=Xe h;unfold Xo Zez;unfold Uz at hi;cases hl:(rmV s a).1.toNat with
 | zero=>exact Zui hE r1 ha
 | succ l =>
  rw[hl] at hi;exact Z5p hE r1 (by omega) ha fun x hx hxM=>by
   obtain⟨t',e',hf⟩:=Xr hi x hx;exact Zok hE l _ _ _ _ hf hxM}
theorem Zfo {T:Rm}{v:List UInt8}{Q:Nat->Nat}{N:List Int}{a:Int}(hm:Xl T=true) (hv:lfO T.1 T.2.1 a.toNat=some v) (hE:Enf T.1 v Q (Zal v N)){b:Int}(hb:b∈N) (hQ:1<=Q b.toNat) (ht:Yq T b=true) :
  Xl (T.1,v,T.2.2)=true/\b∈Zal v N/\Yq (T.1,v,T.2.2) b=true/\rmV (T.1,v,T.2.2) b=rmV T b/\Zad (T.1,v,T.2.2) b=Zad T b/\(∀ q,Zd8 (T.1,v,T.2.2) b q=Zd8 T b q)/\Xo (T.1,v,T.2.2) b=Xo T b/\Zez (T.1,v,T.2.2) b=Zez T b:=by
 obtain⟨_,hle,_⟩:=Zqc hv;obtain⟨m1,m2,m3⟩:=Yf hm;have hmu:Xl (T.1,v,T.2.2)=true:=Zaa m1 (LeT.may hle m2) m3;have hlive:b∈Zal v N:=Zrg.2 ⟨hb,by have:=hE.enough b.toNat;omega⟩;obtain⟨g1,g2⟩:=Z3t (s:=T) hE ht hlive;have hon:OnT T (T.1,v,T.2.2) (Xo T b) (Zez T b):=⟨hmu,fun n hn=>Vy.1 (Zrg.1 (g1 n hn)).2,fun _ _=>rfl,fun r hr=>Vy.1 (g2 r hr)⟩
 exact⟨hmu,hlive,Z57 hon ht (fun _ h=>h) (fun _ h=>h)⟩
def Zke:Rm:=(Zbc,Zw 256,Zw 256)
theorem Z3j (w:Qaw):Qa2 Tryz.prog 24 #[] w fun e w'=>∃ t,e=.returned t/\Sto (New w.heap.size w') w' t Zke/\Qa3 w.heap.size w w':=by{
 obtain⟨w1,hw1,f1,hsz,hB⟩:=X4 w (.slice none 0 0) (.slice none 0 0) (.slice none 0 0) (.slice none 0 0) 29;have hz:Hid ((Zw 256).length=256):=Za (Zbf 256);replace hsz:=Za hsz
 go_enter Tryz.func24,Tryz.ntmps24
 go_upto_region 1 with fail
 clear hw1
 go_wp2_with fail
 with_reducible refine(Z6c _).mono ?_
 rintro e w2 ⟨u,rfl,h2,hb2⟩;obtain⟨P,p,Q,r,rfl,_⟩:=id h2.open;have H2:=Za h2;have F2:=(hb2.block w.heap.size (by rw[hsz.out];omega)).trans f1;have B2:=Za (hB.trans (hb2.mono hB.size));have s2:Hid (w.heap.size+1<=w1.heap.size/\w1.heap.size<=w2.heap.size):=Za ⟨by rw[hsz.out];omega,hb2.size⟩;clear h2 hb2 f1
 go_wp2_with fail
 with_reducible refine(Zoj _).mono ?_
 rintro e w3 ⟨g3,rfl,h3,hb3⟩;have H3:=Za h3;have D3:=Za (H2.out.new (Qa _) hb3);have F3:=(hb3.block w.heap.size (by have:=s2.out;omega)).trans F2;have B3:=Za (B2.out.trans (hb3.mono B2.out.size));have s3:Hid (w2.heap.size<=w3.heap.size):=Za hb3.size;clear h3 hb3 F2 H2
 go_wp2_with fail
 with_reducible refine(Zoj _).mono ?_
 rintro e w4 ⟨g4,rfl,h4,hb4⟩;have D4:=D3.out.new (Qa _) hb4;have N4:=Zf.new H3.out (Qa _) hb4;have F4:=(hb4.block w.heap.size (by have:=s2.out;have:=s3.out;omega)).trans F3;have B4:=B3.out.trans (hb4.mono B3.out.size);obtain⟨c0,c1,c2,c3,c4,c5⟩:=Ze F4;obtain⟨W9,hW9,g9,gr9,gs9⟩:=Zu (a':=.slice P Zbc.1.length p) (b':=.slice Q Zbc.2.length r) (c':=.slice (some ⟨g3,0,none⟩) 256 256) (d':=.slice (some ⟨g4,0,none⟩) 256 256) F4;obtain⟨n0,n1,n2,n3,_,_⟩:=Ze g9;have q2:=s2.out;have q3:=s3.out;have l2:=B2.out.size;have l3:=B3.out.size
 have hfin:=Za (show Sto (New w.heap.size W9) W9 (.agg #[.slice P Zbc.1.length p,.slice Q Zbc.2.length r,.slice (some ⟨g3,0,none⟩) 256 256,.slice (some ⟨g4,0,none⟩) 256 256]) Zke from
  Sto.mk ((D4.grown gr9 (fun q e=>by cases e;omega)).new (by omega) (Qb _ _)) (Zf.new (Zf.grown N4 gr9 (fun q e=>by cases e;omega)) (by omega) (Qb _ _)) (Zf.new (Zf.grown h4 gr9 (fun q e=>by cases e;omega)) (by omega) (Qb _ _)))
 have hB9:=Za (B4.grown gr9 B4.size (fun q e=>by cases e;omega));clear D4 N4 gr9 gs9 B4 q2 q3 l2 l3 h4 hb4;replace F4:=Za F4;replace F3:=Za F3;replace g9:=Za g9
 go_wp2_with fail
 refine Qa0 (v:=.agg #[.slice P Zbc.1.length p,.slice Q Zbc.2.length r,.slice (some ⟨g3,0,none⟩) 256 256,.slice (some ⟨g4,0,none⟩) 256 256]) (by simp[results,Tryz.results24,go_sem,n0,n1,n2,n3]) rfl ?_;exact⟨_,rfl,hfin.out,hB9.out⟩}
end Go.Proofs.YtgmbjnajdfgenaaGreat
namespace Go.Proofs.YtgmbjnajdfgenaaGreat
open Go.RowKit Go.Shelf
attribute [local go_sem] Oper.semAt_some
theorem X2 {W:Qaw}{g:Nat}{a u:Qax}{t:Qaz}(h:W.heap[g]? = some (.cells #[a] t (0,0))):∃ W1,W.setCell ⟨g,0,none⟩ u=W1/\W1.heap[g]? = some (.cells #[u] t (0,0))/\W.grownBy W1 (some g)/\W1.heap.size=W.heap.size :=
 ⟨_,rfl,by simp[Pw,Px,h],Yo (p:=⟨g,0,none⟩) (Y9 W (some g)) rfl u,by simp⟩
theorem Zm {W:Qaw}{g:Nat}{a:Qax}{t:Qaz}(h:W.heap[g]? = some (.cells #[a] t (0,0))):W.cell? ⟨g,0,none⟩=some a/\W.frozen? ⟨g,0,none⟩=false/\g<W.heap.size :=
 ⟨by simp[Qn,h],by simp[Pv,h],(Q5.1 h).1⟩
theorem Zl {W W':Qaw}{row:Option Nat}{g:Nat}{cs:Array Qax}{t:Qaz}(h:W.heap[g]? = some (.cells cs t (0,0))) (hg:W.grownBy W' row) (hrow:∀ r,row=some r->∃ o:Obj,W.heap[r]? = some o/\o.isCells=false):W'.heap[g]? = some (.cells cs t (0,0)) :=
 (grownBy_keeps_cells hg hrow h rfl).trans h
def NZ (ok:Qay->Prop) (w:Qaw):Qay->Prop:=fun p=>ok p/\w.cell? p≠some (.slice none 0 0)
theorem Z2d {ok:Qay->Prop}{w:Qaw}{cs:List Qax}{x:List UInt8}(h:rBy ok w cs x):rBy (NZ ok w) w cs x:=by
 obtain⟨A,cap,h1,h2,h3,h4⟩:=h;refine⟨A,cap,h1,h2,h3,fun i y hi=> ?_⟩;obtain⟨ad,vs,e1,e2,e3,e4⟩:=h4 i y hi;refine⟨ad,vs,e1,e2,fun j u hj=>⟨⟨(e3 j u hj).1,?_⟩,(e3 j u hj).2⟩,e4⟩;unfold rU8 at e4;subst e4;have:=Qu hj;simp only[Ql] at this;rw[(e3 j u hj).2,this];simp
theorem Zr9 {ok:Qay->Prop}{w:Qaw}{u:Qax}{x:List UInt8}(h:rBy ok w [u] x) (hx:x≠[]):u≠.slice none 0 0:=by
 obtain⟨A,c,rfl,_⟩:=Zt h;intro e;simp only[Value.slice.injEq] at e;exact hx (Qak e.2.1)
theorem Z6r {ok:Qay->Prop}{w:Qaw}{cs:List Qax}{xss:List (List UInt8)}(h:rSl 1 rBy ok w cs xss) (hn:∀ x∈xss,x≠[]):rSl 1 rBy (NZ ok w) w cs xss:=by{
 obtain⟨A,cap,h1,h2,h3,h4⟩:=h;refine⟨A,cap,h1,h2,h3,fun i y hi=> ?_⟩;obtain⟨ad,vs,e1,e2,e3,e4⟩:=h4 i y hi;refine⟨ad,vs,e1,e2,fun j u hj=>⟨⟨(e3 j u hj).1,?_⟩,(e3 j u hj).2⟩,Z2d e4⟩
 match vs,e2 with
 | [v],_ =>
  have:=Qu hj;simp only[Ql] at this;rw[(e3 j u hj).2,this];exact fun e=>Zr9 e4 (hn y (Qu hi)) (by simpa using e)}
theorem Yaq {ok:Qay->Prop}{w:Qaw}{cs:List Qax}{ws:List Wt}(h:rSl 2 rWt ok w cs ws) (hn:∀ x∈ws,x.2≠[]):rSl 2 rWt (NZ ok w) w cs ws:=by
 obtain⟨A,cap,h1,h2,h3,h4⟩:=h;refine⟨A,cap,h1,h2,h3,fun i y hi=> ?_⟩;obtain⟨ad,vs,e1,e2,e3,e4⟩:=h4 i y hi;obtain⟨v,rfl,b1,b2,hv⟩:=Ztw e4;refine⟨ad,_,e1,e2,fun j u hj=>⟨⟨(e3 j u hj).1,?_⟩,(e3 j u hj).2⟩,Z47 b1 b2 (Z2d hv)⟩;have:=Qu hj;simp only[Qd,List.not_mem_nil,or_false] at this;rw[(e3 j u hj).2];rcases this with rfl | rfl
 ·simp
 ·exact fun e=>Zr9 hv (hn y (Qu hi)) (by simpa using e)
theorem Z8w {ok:Qay->Prop}{w:Qaw}{v:Qax}{d:Dk}(h:Dsk ok w v d) (h1:∀ x∈d.1,x≠[]) (h2:∀ x∈d.2,x.2≠[]):Dsk (NZ ok w) w v d:=by
 obtain⟨a,b,e,r1,r2⟩:=h;exact⟨a,b,e,Z6r r1 h1,Yaq r2 h2⟩
theorem Z3h {d:Dk}(h:Zbm d=true):(∀ x∈d.1,x≠[])/\(∀ x∈d.2,x.2≠[]):=by{
 obtain⟨_,_,h1,h2⟩:=Zgx h;refine⟨fun x hx e=> ?_,fun x hx e=> ?_⟩
 ·obtain⟨i,hi⟩:=Qm hx
  have:=h1 i x hi;rw[e] at this;cases this
 ·obtain⟨i,hi⟩:=Qm hx
  have:=(h2 i x hi).2.2;rw[e] at this;cases this}
theorem Z2i {W:Qaw}{g:Nat}{cs:Array Qax}{t:Qaz}{p:Qay}{u:Qax}(hz:W.heap[g]? = some (.cells cs t (0,0))) (hcs:∀ c∈cs,c=.slice none 0 0) (hc:W.cell? p=some u) (hn:W.cell? p≠some (.slice none 0 0)):p.block≠g:=fun e=>by
 refine hn ?_;rw[hc];unfold Qn at hc;rw[e,hz] at hc
 dsimp only at hc
 split at hc
 ·cases hc
 ·obtain⟨hlt,hu⟩:=Q5.1 hc
  rw[<- hu];exact congrArg some (hcs _ (Array.getElem_mem hlt))
theorem Z95 {ok:Qay->Prop}{w:Qaw}{v:Qax}{s:Rm}(h:Sto ok w v s) (hd:(∀ x∈s.1.1,x≠[])/\(∀ x∈s.1.2,x.2≠[])):Sto (NZ ok w) w v s:=by
 obtain⟨a,b,n,l,e,h1,h2,h3⟩:=h;exact⟨a,b,n,l,e,Z8w h1 hd.1 hd.2,Z2d h2,Z2d h3⟩
def Z64 (s:Rm):Prop:=(∀ x∈s.1.1,x≠[])/\(∀ x∈s.1.2,x.2≠[])
theorem Z8l {s:Rm}(h:Xl s=true):Z64 s:=Z3h (Yf h).1
theorem Znt {W W9:Qaw}{g:Nat}{cs:Array Qax}{t:Qaz}{v:Qax}{s:Rm}(h:Sto (Old W) W v s) (hd:Z64 s) (hz:W.heap[g]? = some (.cells cs t (0,0))) (hcs:∀ c∈cs,c=.slice none 0 0) (hg:W.grownBy W9 (some g)):Sto (Old W9) W9 v s :=
 (Z95 h hd).map fun p u hp hc=>by
  have hn:=Z2i hz hcs hc hp.2;exact⟨Qq hp.1 hg.size,(Qaq (hg.block _ hp.1 (by simpa using hn))).trans hc⟩
theorem Z37:(Xy Zke).length=248/\Xy Zke=8::9::(Xy Zke).drop 2:=by decide +kernel
theorem Z7z:Xl Zke=true:=Zaa Z15 Zb1 Zb1
theorem Zr3 (v:Qax) (s:Rm) (n:Int) (w:Qaw) (h:Sto (Old w) w v s) :
  Qa2 Tryz.prog 53 #[v,.int .i64 n] w fun e W'=>∃ A ca B cb N cn L cl,e=.returned (.tuple #[.agg #[.slice A (shV s n).1.1.length ca,.slice B (shV s n).1.2.length cb,.slice N (shV s n).2.1.length cn,.slice L (shV s n).2.2.length cl],.int .i64 (shE s n)]) /\
   Sto (New w.heap.size W') W' (.agg #[.slice A (shV s n).1.1.length ca,.slice B (shV s n).1.2.length cb,.slice N (shV s n).2.1.length cn,.slice L (shV s n).2.2.length cl]) (shV s n)/\Qa3 w.heap.size w W':=by
 refine(Zuw v s n w h).mono ?_;rintro e W' ⟨t,rfl,ht,hb⟩;obtain⟨A,ca,B,cb,N,cn,L,cl,rfl,_⟩:=id ht.open;exact⟨A,ca,B,cb,N,cn,L,cl,rfl,ht,hb⟩
theorem Z3f {s:Rm}{l:List It}{i:Nat}{x:It}{r:Nat}{y:UInt8}(hx:l[i]? = some x) (hr:x.2.1=(r:Int)) (h0:r≠0) (hy:s.2.1[r]?.getD 0=y):Yr s (l.take (i+1))=(Yr s (l.take i)&&decide (y≠0)):=by
 rw[Zpm hx,hr];have:¬ ((r:Nat):Int)=0:=by omega
 rw[decide_eq_false this,Bool.false_or,show ((r:Nat):Int).toNat=r by omega,hy]
theorem Zxm {s:Rm}{l:List It}{i:Nat}{x:It}(hx:l[i]? = some x) (hr:x.2.1=0):Yr s (l.take (i+1))=Yr s (l.take i):=by
 rw[Zpm hx,hr];simp
theorem Zfy {w:Qaw}{A:Option Qay}{n c:Nat}{xs:List It}{s:It}(h:Zan (Old w) w [.slice A n c] xs) (hk:xs[0]? = some s) :
  ∃ ad E ce,A=some ad/\InI s/\∀ W,Qa3 w.heap.size w W->At5 W ad s (.slice E s.2.2.length ce)/\Itm (Old W) W (itV s (.slice E s.2.2.length ce)) s:=by
 obtain⟨ad,E,ce,e,_,_,h1,F⟩:=Uk h hk;have e0:ad.add (0*5)=ad:=by simp[Addr.add]
 rw[e0] at F;exact⟨ad,E,ce,e,h1,F⟩
theorem Z24 {d:Dk}{k:Nat}(hm:Zbm d=true) (hk:k<256):(Z1 d k).length=128:=by
 obtain⟨h1,_,h3,h4⟩:=Zgx hm;unfold Z1;have e:d.1[k]? = some (d.1[k]'(by omega)):=Qc _;refine Zgt (h3 k _ (by rw[e];rfl)) fun x hx=> ?_
 obtain⟨i,hi⟩:=Qm hx;exact(h4 i x hi).2.2
theorem Yz {W:Qaw}{g:Nat}{a b c a' b' c':Qax}{t:Qaz}(h:W.heap[g]? = some (.cells #[a,b,c] t (0,0))):∃ W1,((W.setCell ⟨g,0,none⟩ a').setCell ⟨g,1,none⟩ b').setCell ⟨g,2,none⟩ c'=W1 /\
  W1.heap[g]? = some (.cells #[a',b',c'] t (0,0))/\W.grownBy W1 (some g)/\W1.heap.size=W.heap.size :=
 ⟨_,rfl,by simp[Pw,Px,h],Yo (p:=⟨g,2,none⟩) (Yo (p:=⟨g,1,none⟩) (Yo (p:=⟨g,0,none⟩) (Y9 W (some g)) rfl a') rfl b') rfl c',by simp⟩
theorem Zk {W:Qaw}{g:Nat}{a b c:Qax}{t:Qaz}(h:W.heap[g]? = some (.cells #[a,b,c] t (0,0))):W.cell? ⟨g,0,none⟩=some a/\W.cell? ⟨g,1,none⟩=some b/\W.cell? ⟨g,2,none⟩=some c/\(∀ o,W.frozen? ⟨g,o,none⟩=false)/\g<W.heap.size :=
 ⟨by simp[Qn,h],by simp[Qn,h],by simp[Qn,h],fun o=>by simp[Pv,h],(Q5.1 h).1⟩
theorem Zdw (v:Qax) (s:Rm) (a:Int) (w:Qaw) (h:Sto (Old w) w v s) :
  Qa2 Tryz.prog 36 #[v,.int .i64 a] w fun e w'=>∃ Z zc,e=.returned (.tuple #[.agg #[.int .i64 (rmV s a).1,.slice Z (rmV s a).2.length zc],.int .i64 (rmE s a)])/\Zan (Old w') w' [.slice Z (rmV s a).2.length zc] (rmV s a).2 /\
   Nod (New w.heap.size w') w' (.agg #[.int .i64 (rmV s a).1,.slice Z (rmV s a).2.length zc]) (rmV s a)/\Qa3 w.heap.size w w':=by
 refine(Zov v s a w h).mono ?_;rintro e w' ⟨u,rfl,hu,hb'⟩;have hu2:=hu;obtain⟨Z,zc,rfl,_,_,_,hA⟩:=hu.drop.open;exact⟨Z,zc,rfl,hA,hu2,hb'⟩
theorem Z6f {s:Rm}{a:Int}(h:rmE s a≠0):Yq s a=false:=by simp[Yq,h]
theorem Z80 {s:Rm}{a:Int}(h:asE s a≠0):ckE s a=asE s a/\ckH s a=0:=by
 have e:ckE s a=asE s a:=by rw[ckE,if_neg h]
 exact⟨e,by rw[ckH,e,if_neg h]⟩
theorem Zsq {s:Rm}{a:Int}(h:asE s a=0) (ht:Yq s a=false):ckE s a=8/\ckH s a=0:=by
 have e:ckE s a=8:=by rw[ckE,if_pos h,ht];rfl
 exact⟨e,by rw[ckH,e,if_neg (by decide)]⟩
theorem Zj8 {s:Rm}{a:Int}(h:asE s a=0) (ht:Yq s a=true):ckE s a=0/\ckH s a=(rmV s a).1+1:=by
 have e:ckE s a=0:=by rw[ckE,if_pos h,ht];rfl
 exact⟨e,by rw[ckH,e,if_pos rfl]⟩
theorem Zbd {s:Rm}{a:Int}(h:ckE s a=0):Yq s a=true/\asE s a=0/\ckH s a=(rmV s a).1+1:=by{
 by_cases ha:asE s a=0
 ·cases ht:Yq s a with
  | false=>rw[(Zsq ha ht).1] at h;cases h
  | true=>exact⟨rfl,ha,(Zj8 ha ht).2⟩
 ·rw[(Z80 ha).1] at h
  exact absurd h ha}
theorem Zwt {lo:Nat}{w:Qaw}{A:Option Qay}{n c k:Nat}{xs:List It}{s:It}(h:Zan (New lo w) w [.slice A n c] xs) (hk:xs[k]? = some s) :
  ∃ ad E ce,A=some ad/\InI s/\∀ W,Qa3 w.heap.size w W->At5 W (ad.add (k*5)) s (.slice E s.2.2.length ce)/\Itm (New lo W) W (itV s (.slice E s.2.2.length ce)) s:=by
 obtain⟨ad,E,ce,rfl,_,h5,hi,_,_,hin⟩:=Zah h hk;exact⟨ad,E,ce,rfl,hin,fun W hW=>⟨h5.below hW,hi.new (Qa _) hW⟩⟩
def Z92 (lo:Nat) (v:Qax) (l:List It):Qaw->Prop:=fun w=>Zan (New lo w) w [v] l
theorem Zq4 (lo:Nat) (v:Qax) (l:List It):Zfb (Z92 lo v l):=fun _ _ h hb=>Xn.new h (Qa _) hb
def Yg (g:Nat) (cs:Array Qax) (t:Qaz):Qaw->Prop:=fun w=>w.heap[g]? = some (.cells cs t (0,0))
theorem Zr (g:Nat) (cs:Array Qax) (t:Qaz):Zfb (Yg g cs t):=fun _ _ h hb=>(hb.block g (Q5.1 h).1).trans h
theorem Z1o {ok:Qay->Prop}{w:Qaw}{ad:Qay}{n c:Nat}{b:List It}(h:Zan ok w [.slice (some ad) n c] b) (k:Nat) (hk:k<=b.length):Zan ok w [.slice (some (ad.add (k*5))) (n-k) (c-k)] (b.drop k):=by
 obtain⟨A,cap,e,h2,h3,h4⟩:=h;cases e;refine⟨some (ad.add (k*5)),c-k,by rw[Pu],by rw[Pu];omega,by omega,fun i x hi=> ?_⟩;rw[Q4] at hi;obtain⟨ad',vs,e1,e2,e3,e4⟩:=h4 (k+i) x hi;cases e1;refine⟨ad.add (k*5),vs,rfl,e2,fun j v hj=> ?_,e4⟩;have:=e3 j v hj;rw[Zmc,show k*5+(i*5+j)=(k+i)*5+j by omega];exact this
def Zhe (n:Nd) (k:Ky):Nat×Bool:=if n.1=0 then (Z2 n k,Yk n k) else (Xg n k,true)
theorem Zul (A:Option Qay) (c:Nat) (n:Nd) (k:Ky) (w:Qaw) (h:Nod (Old w) w (.agg #[.int .i64 n.1,.slice A n.2.length c]) n) :
  Qa2 Tryz.prog 74 #[.agg #[.int .i64 n.1,.slice A n.2.length c],kyV k] w fun e w'=>e=.returned (.agg #[.int .i64 n.1,.slice A n.2.length c,.int .i64 ((Zhe n k).1:Nat),.bool (Zhe n k).2])/\Qa3 w.heap.size w w':=by{
 obtain⟨w1,hw1,b1,hs1,hB1⟩:=Yb w (.int .i64 n.1) (.slice A n.2.length c) 81;obtain⟨w2,hw2,-,-,-,hs2,hB2,b2⟩:=Y7 w1 (.int .u8 (k.1.toNat:Int)) (.int .u32 k.2.1) (.int .u32 k.2.2) 37;obtain⟨w3,hw3,b3,hs3,hB3⟩:=X4 w2 (.int .i64 0) (.slice none 0 0) (.int .i64 0) (.bool false) 144;have B3:=Za (hB1.trans ((hB2.trans (hB3.mono hB2.size)).mono hB1.size));have hb1:=(hB3.block w.heap.size (by omega)).trans ((hB2.block w.heap.size (by omega)).trans b1);have hb2:=(hB3.block w1.heap.size (by omega)).trans b2;have hP:=Za (fun W hW=>Zcq _ n k W (h.below hW));obtain⟨p,hp⟩:∃ p,Z2 n k=p:=⟨_,rfl⟩
 obtain⟨t,ht⟩:∃ t,Yk n k=t:=⟨_,rfl⟩
 obtain⟨lv,hlv⟩:∃ q,n.1=q:=⟨_,rfl⟩
 obtain⟨len,hlen⟩:∃ q,n.2.length=q:=⟨_,rfl⟩
 have hpl:=Zbw n k;have hst:Hid (Zhe n k=if lv=0 then (p,t) else (if t=true then p else p-1,true)):=Za (by unfold Zhe Xg;rw[hlv,hp,ht]);have hcl:c<=9223372036854775807/\n.2.length<=c:=by
  obtain⟨A',c',e,_,h1,h2,_⟩:=h.open;cases e;exact⟨h2,h1⟩
 rw[hp] at hpl hP;rw[ht] at hP;rw[hlen] at hpl hcl hP b1 hb1 hw1 ⊢;rw[hlv] at hP b1 hb1 hw1 ⊢;have G3:=Za b3;have S:=Za (show w.heap.size<w3.heap.size/\w1.heap.size<w3.heap.size/\w2.heap.size<w3.heap.size/\w.heap.size<=w2.heap.size from ⟨by omega,by omega,by omega,by omega⟩);replace hp:=Za hp;replace ht:=Za ht;replace hlv:=Za hlv;replace hlen:=Za hlen;replace hs1:=Za hs1;replace hs2:=Za hs2;replace hs3:=Za hs3;obtain⟨p0,p1,_,_⟩:=Zg hb1;obtain⟨q0,q1,q2,_⟩:=Zk hb2;have G1:=Za hb1;clear h hB1 hB2 hB3 b1 b2 b3 hb1 hb2;unfold kyV
 go_enter Tryz.func74,Tryz.ntmps74
 go_upto_region 1 with fail
 clear hw1 hw2 hw3
 go_wp2_with fail
 with_reducible refine(hP.out _ B3.out).mono ?_
 rintro e w4 ⟨rfl,hb4⟩;have g3:=(hb4.block w2.heap.size S.out.2.2.1).trans G3.out;have g1:=(hb4.block w.heap.size S.out.1).trans G1.out;have B4:=Za (B3.out.trans (hb4.mono B3.out.size))
 have hfin:Hid (∀ (x:Nat) (y:Bool),Zhe n k=(x,y)->∃ W9,(((w4.setCell ⟨w2.heap.size,0,none⟩ (.int .i64 lv)).setCell ⟨w2.heap.size,1,none⟩ (.slice A len c)).setCell ⟨w2.heap.size,2,none⟩ (.int .i64 (x:Int))).setCell ⟨w2.heap.size,3,none⟩ (.bool y)=W9 /\
   W9.cell? ⟨w2.heap.size,0,none⟩=some (.int .i64 lv)/\W9.cell? ⟨w2.heap.size,1,none⟩=some (.slice A len c)/\W9.cell? ⟨w2.heap.size,2,none⟩=some (.int .i64 (x:Int))/\W9.cell? ⟨w2.heap.size,3,none⟩=some (.bool y) /\
   (Ending.returned (.agg #[.int .i64 lv,.slice A len c,.int .i64 (x:Int),.bool y])=.returned (.agg #[.int .i64 lv,.slice A len c,.int .i64 ((Zhe n k).1:Nat),.bool (Zhe n k).2])/\Qa3 w.heap.size w W9)):=Za fun x y he=>by
  obtain⟨W9,e9,g9,gr9,_⟩:=Zu (a':=.int .i64 lv) (b':=.slice A len c) (c':=.int .i64 (x:Int)) (d':=.bool y) g3;obtain⟨k0,k1,k2,k3,_⟩:=Ze g9;exact⟨W9,e9,k0,k1,k2,k3,by rw[he],B4.out.grown gr9 B4.out.size fun q e=>by cases e;exact S.out.2.2.2⟩
 obtain⟨m0,m1,_,_⟩:=Zg g1;obtain⟨r0,r1,r2,r3,rf,_⟩:=Ze g3;clear p0 p1 q0 q1 q2 hb4 g3 g1;have hcl1:=hcl.1;have hcl2:=hcl.2;clear hcl;by_cases h0:lv=0
 ·subst h0
  obtain⟨W9,e9,k0,k1,k2,k3,hf⟩:=hfin.out p t (by rw[hst.out,if_pos rfl]);replace hf:=Za hf;replace e9:=Za e9;clear hfin hst
  go_wp2_with fail
  rw[e9.out];exact Qa0 (v:=.agg #[.int .i64 0,.slice A len c,.int .i64 (p:Int),.bool t]) (by simp[results,Tryz.results74,go_sem,k0,k1,k2,k3]) rfl hf.out
 ·have h0':(lv==0)=false:=by simpa using h0
  cases t with
  | true =>
   obtain⟨W9,e9,k0,k1,k2,k3,hf⟩:=hfin.out p true (by rw[hst.out,if_neg h0,if_pos rfl]);replace hf:=Za hf;replace e9:=Za e9;clear hfin hst h0
   go_wp2_with fail
   rw[e9.out];exact Qa0 (v:=.agg #[.int .i64 lv,.slice A len c,.int .i64 (p:Int),.bool true]) (by simp[results,Tryz.results74,go_sem,k0,k1,k2,k3]) rfl hf.out
  | false =>
   have hwr:IntKind.i64.wrap ((p:Int)-1)=(p:Int)-1:=by rw[IntKind.wrap_i64];omega
   by_cases hp0:p=0
   ·obtain⟨W9,e9,k0,k1,k2,k3,hf⟩:=hfin.out 0 true (by rw[hst.out,if_neg h0,if_neg (by decide),hp0])
    subst hp0;replace hf:=Za hf;replace e9:=Za e9;clear hfin hst h0
    go_wp2_with fail
    refine Eq.mpr (congrArg _ e9.out) ?_;exact Qa0 (v:=.agg #[.int .i64 lv,.slice A len c,.int .i64 (0:Nat),.bool true]) (by simp[results,Tryz.results74,go_sem,k0,k1,k2,k3]) rfl hf.out
   ·obtain⟨W9,e9,k0,k1,k2,k3,hf⟩:=hfin.out (p-1) true (by rw[hst.out,if_neg h0,if_neg (by decide)])
    have hp1:((p-1:Nat):Int)=(p:Int)-1:=by omega
    have hp2:(0:Int)<=(p:Int)-1:=by omega
    rw[hp1] at e9 k2 hf;replace hf:=Za hf;replace e9:=Za e9;clear hfin hst h0 hp1
    go_wp2_with fail
    refine Eq.mpr (congrArg _ e9.out) ?_;exact Qa0 (v:=.agg #[.int .i64 lv,.slice A len c,.int .i64 ((p:Int)-1),.bool true]) (by simp[results,Tryz.results74,go_sem,k0,k1,k2,k3]) rfl hf.out}
def Zky (s:Rm) (x:It):Int:=if Zbg x then if x.2.1≠0/\s.2.1[x.2.1.toNat]?.getD 0=0 then 6 else 0 else 8
theorem Zlr (v u:Qax) (s:Rm) (x:It) (w:Qaw) (hm:Xl s=true) (h:Sto (Old w) w v s) (hu:Itm (Old w) w u x) :
  Qa2 Tryz.prog 41 #[v,u] w fun e w'=>e=.returned (.int .i64 (Zky s x))/\Qa3 w.heap.size w w':=by{
 obtain⟨A,ca,B,cb,N,cn,L,cl,rfl,_⟩:=id h.open;obtain⟨D,dc,rfl,_,_,_,_⟩:=id hu.open;obtain⟨w1,hw1,b1,hs1,hB1⟩:=X4 w (.slice A s.1.1.length ca) (.slice B s.1.2.length cb) (.slice N s.2.1.length cn) (.slice L s.2.2.length cl) 29;obtain⟨w2,hw2,-,-,-,-,-,hs2,hB2,b2⟩:=Z8 w1 (.int .u8 (x.1.1.toNat:Int)) (.int .u32 x.1.2.1) (.int .u32 x.1.2.2) (.int .i64 x.2.1) (.slice D x.2.2.length dc) 54;have hb1:=(hB2.block w.heap.size (by omega)).trans b1;have B2:=Za (hB1.trans (hB2.mono hB1.size));have hC:=Za (Za0 _ x w2 (hu.map fun p v hp hc=>⟨Qq hp B2.out.size,(B2.out.cell hp).trans hc⟩));have HS:=Za (h.below B2.out);have hl:=Yv (Yf hm).2.1;have hcit:Hid (Zky s x=if Zbg x then if x.2.1≠0/\s.2.1[x.2.1.toNat]?.getD 0=0 then 6 else 0 else 8):=Za rfl;have hmw:Zbg x=true->x.2.1=0\/∃ k:Nat,x.2.1=k/\8<=k/\k<256:=fun h=>by
  rcases(Zae h).1 with e | e
  ·exact .inl e
  ·exact .inr ⟨x.2.1.toNat,by omega,by omega,by omega⟩
 obtain⟨z,hz⟩:∃ z,x.2.1=z:=⟨_,rfl⟩
 obtain⟨ev,hev⟩:∃ q,Z2p x=q:=⟨_,rfl⟩
 rw[hl] at b1 hb1 hw1 HS ⊢;rw[hz] at hw2 b2 hcit hmw;unfold itV at hC;rw[hz] at hC;rw[hev] at hC;change Qa2 _ _ #[_,.agg #[.int .u8 (x.1.1.toNat:Int),.int .u32 x.1.2.1,.int .u32 x.1.2.2,.int .i64 x.2.1,.slice D x.2.2.length dc]] _ _;rw[hz];replace hz:=Za hz;replace hl:=Za hl;replace hs1:=Za hs1;replace hs2:=Za hs2;obtain⟨p0,p1,p2,p3,_⟩:=Ze hb1;obtain⟨q0,q1,q2,q3,q4,_⟩:=Zs b2;have G1:=Za hb1;have G2:=Za b2;have S:=Za (show w.heap.size<w2.heap.size/\w1.heap.size<w2.heap.size from ⟨by have:=hs1.out;have:=hs2.out;omega,by have:=hs2.out;omega⟩);clear h hu hB1 hB2 b1 b2 hb1
 go_enter Tryz.func41,Tryz.ntmps41
 go_upto_region 1 with fail
 clear hw1 hw2
 go_wp2_with fail
 with_reducible refine(hC.out).mono ?_
 rintro e w3 ⟨rfl,hb3⟩;have g1:=(hb3.block w.heap.size S.out.1).trans G1.out;have g2:=(hb3.block w1.heap.size S.out.2).trans G2.out;have B3:=Za (B2.out.trans (hb3.mono B2.out.size));have H3:=Za (HS.out.below hb3);obtain⟨p0,p1,p2,p3,_⟩:=Ze g1;obtain⟨q0,q1,q2,q3,q4,_⟩:=Zs g2;clear hb3 g1 g2 hC;rcases Zcx (Zbg x) with hb | hb
 ·have he8:ev=8:=by rw[<- hev];simp[Z2p,hb]
  subst he8;have hr:=Za (show Zky s x=8 by rw[hcit.out,hb];rfl);replace hev:=Za hev;replace hb:=Za hb;clear hmw
  go_wp2_with fail
  go_ret;exact⟨Zz hr.out.symm,B3.out⟩
 have he0:ev=0:=by rw[<- hev];simp[Z2p,hb]
 subst he0;have hw:=hmw hb;rw[hb,if_pos rfl] at hcit;replace hev:=Za hev;replace hb:=Za hb;clear hmw;rcases hw with h0 | ⟨k,hk,h8,h256⟩
 ·subst h0
  have hr:=Za (show Zky s x=0 by rw[hcit.out,if_neg (by simp)]);clear hcit
  go_wp2_with fail
  go_ret;exact⟨Zz hr.out.symm,B3.out⟩
 ·subst hk
  have j0:((k:Int) != 0)=true:=by simp;omega
  have i1:(0:Int)<=(k:Int):=by omega
  have i2:(k:Int)<256:=by omega
  obtain⟨A2,c2,e2,n1,n2,hc2⟩:=Zt H3.out.parts.2.1;rw[hl.out] at e2 hc2;cases e2;obtain⟨ad,rfl,_,hck⟩:=hc2 k h256;obtain⟨y,hy⟩:∃ y,s.2.1[k]?.getD 0=y:=⟨_,rfl⟩
  rw[hy] at hck;rw[Int.toNat_natCast,hy] at hcit;replace hy:=Za hy;clear hc2 n1 n2;by_cases hy0:y=0
  ·have t1:=Vc (y:=0) (q:=0) rfl hy0
   have hr:=Za (show Zky s x=6 by rw[hcit.out,if_pos ⟨by omega,hy0⟩]);replace hy0:=Za hy0;clear hcit
   go_wp2_with fail
   go_ret;exact⟨Zz hr.out.symm,B3.out⟩
  ·have t1:=Xs (y:=0) (q:=0) rfl hy0
   have hr:=Za (show Zky s x=0 by rw[hcit.out,if_neg (fun h=>hy0 h.2)]);replace hy0:=Za hy0;clear hcit
   go_wp2_with fail
   go_ret;exact⟨Zz hr.out.symm,B3.out⟩}
def Z9q (w:Qaw) (A:Option Qay) (n c:Nat) (e:Ending) (w':Qaw):Prop:=Qa3 w.heap.size w w' /\
 ((n<=5/\e=.returned (.slice (some ⟨w.heap.size,0,none⟩) 1 1)/\w'.heap[w.heap.size]? = some (.cells #[.slice A n c] 39 (0,0))) \/
  (5<n/\∃ ad,A=some ad/\e=.returned (.slice (some ⟨w.heap.size,0,none⟩) 2 2)/\w'.heap[w.heap.size]? = some (.cells #[.slice (some ad) 3 c,.slice (some (ad.add (3*5))) (n-3) (c-3)] 39 (0,0))))
theorem Zzr (A:Option Qay) (n c:Nat) (w:Qaw) (hn:n<=c) (hc:c<=9223372036854775807) (hA:0<n->∃ ad,A=some ad):Qa2 Tryz.prog 120 #[.slice A n c] w (Z9q w A n c):=by{
 by_cases h5:n<=5
 ·have i5:(n:Int)<=5:=by omega
  go_enter Tryz.func120,Tryz.ntmps120
  go_wp2_with fail
  go_ret;exact⟨(Qb _ w).alloc (Qa _) _,.inl ⟨h5,rfl,Qa1 w _⟩⟩
 ·have i5:¬ ((n:Int)<=5):=by omega
  obtain⟨ad,rfl⟩:=hA (by omega);have i6:(3:Int)<=(c:Int):=by omega
  have i7:(3:Int)<=(n:Int):=by omega
  have i8:¬ c=3:=by omega
  go_enter Tryz.func120,Tryz.ntmps120
  go_wp2_with fail
  go_still_tail 4,(by kernel_rfl)
  go_wp2_with fail
  go_ret;exact⟨((Qb _ w).drew).alloc (Qa _) _,.inr ⟨by omega,ad,rfl,rfl,Qa1 w.drew _⟩⟩}
theorem Zru.low {lo:Nat}{w w1:Qaw}{A:Option Qay}{L:List Iv}{e:Ending}{w':Qaw}(h:Zru lo w1 A L e w') (hg:w.grownBy w1 (A.map (·.block))):Zru lo w A L e w':=by
 obtain⟨A',c',h1,h2,h3⟩:=h;exact⟨A',c',h1,h2,Ys hg h3⟩
theorem Zmg (A:Option Qay) (lo lf n c fb m fc i:Nat) (lv:Int) (b:Bool) (ps qs:List Iv) (w:Qaw) (h:w.ownsRow lo 54 5 (.slice A n c) n (Zj ps)) (hf:w.ownsRow lf 54 5 (.slice (some ⟨fb,0,none⟩) m fc) m (Zj qs))
  (hne:A.map (·.block)≠some fb) (hi:i+(if b=true then 1 else 0)<=n) (hm:0<m) (hbig:n+m<=1000) (hp1:∀ p∈ps,p.2.oneCell'=true) (hq1:∀ p∈qs,p.2.oneCell'=true) (hlo:lo<=w.heap.size) :
  Qa2 Tryz.prog 77 #[.agg #[.int .i64 lv,.slice A n c,.int .i64 i,.bool b],.slice (some ⟨fb,0,none⟩) m fc] w fun e w'=>Zru lo w A (ps.take i++(qs++ps.drop (i+if b=true then 1 else 0))) e w'/\w.heap.size<w'.heap.size:=by{
 obtain⟨w1,hw1,b1,hs1,hB1⟩:=X4 w (.int .i64 lv) (.slice A n c) (.int .i64 i) (.bool b) 144;have h1:=Zv h hB1;have hf1:=Zv hf hB1;have hlow:=Za (fun L e w' (hh:Zru lo w1 A L e w')=>(⟨hh.low (w:=w) (hw1 ▸ World.grownBy_alloc w _ _),by obtain⟨_,_,_,_,hg⟩:=hh;have:=hg.size;omega⟩:Zru lo w A L e w'/\w.heap.size<w'.heap.size));obtain⟨p0,p1,p2,p3,_⟩:=Ze b1;have hwr:IntKind.i64.wrap ((i:Int)+1)=(i:Int)+1:=by rw[IntKind.wrap_i64];split at hi <;> omega
 cases b with
 | true =>
  have hR:=Zrv A lo lf n c fb m fc i (i+1) ps qs w1 h1 hf1 hne rfl hi hm hbig hp1 hq1 (by omega);rw[show ((i+1:Nat):Int)=(i:Int)+1 by omega] at hR;rw[if_pos rfl];obtain⟨L,hL⟩:∃ L,ps.take i++(qs++ps.drop (i+1))=L:=⟨_,rfl⟩
  rw[hL] at hR ⊢;replace hL:=Za hL;have HR:=Za hR;clear h hf h1 hf1 hR hp1 hq1 hne hB1 b1 hs1 hi
  go_enter Tryz.func77,Tryz.ntmps77
  go_upto_region 1 with fail
  clear hw1
  go_wp2_with fail
  with_reducible refine(HR.out).mono ?_
  intro e w2 hh;have H2:=Za (hlow.out _ _ _ hh);obtain⟨A',c',rfl,_⟩:=hh
  go_wp2_with fail
  go_ret;exact H2.out
 | false =>
  have hR:=Zu9 A lo lf n c fb m fc i ps qs w1 h1 hf1 hne (by simpa using hi) hm hbig hp1 hq1 (by omega);rw[if_neg (by decide),Nat.add_zero];obtain⟨L,hL⟩:∃ L,ps.take i++(qs++ps.drop i)=L:=⟨_,rfl⟩
  rw[hL] at hR ⊢;replace hL:=Za hL;have HR:=Za hR;clear h hf h1 hf1 hR hp1 hq1 hne hB1 b1 hs1 hi
  go_enter Tryz.func77,Tryz.ntmps77
  go_upto_region 1 with fail
  clear hw1
  go_wp2_with fail
  with_reducible refine(HR.out).mono ?_
  intro e w2 hh;have H2:=Za (hlow.out _ _ _ hh);obtain⟨A',c',rfl,_⟩:=hh
  go_wp2_with fail
  go_ret;exact H2.out}
theorem Uo {lo:Nat}{w:Qaw}{A:Option Qay}{c:Nat}{xs:List It}(h:Yh rIt 5 54 lo w A c xs):∃ ps:List Iv,ps.map (·.1)=xs/\w.ownsRow lo 54 5 (.slice A xs.length c) xs.length (Zj ps)/\∀ p∈ps,InI p.1/\rBy (Xw lo A w) w [p.2] p.1.2.2:=by{
 obtain⟨cs,ho,hcs⟩:=h
 obtain⟨ps,hl,hps⟩:=Zig (n:=xs.length) (p:=fun i (p:Iv)=>xs[i]? = some p.1/\(∀ j u,(Zc0 p)[j]? = some u->cs[i*5+j]? = some u)/\InI p.1/\rBy (Xw lo A w) w [p.2] p.1.2.2) (fun i hi=>by
  have hx:xs[i]? = some xs[i]:=Qc hi;obtain⟨vs,e5,hc,r⟩:=hcs i _ hx;obtain⟨d,rfl,hin,hd⟩:=Zsa r
  exact⟨(xs[i],d),hx,hc,hin,hd⟩)
 have hmap:ps.map (·.1)=xs:=by
  apply Qar;intro i;rw[Qas];cases e:ps[i]? with
  | none =>
   have:xs.length<=i:=by rw[<- hl];exact List.getElem?_eq_none_iff.1 e
   rw[Pm this];rfl
  | some p=>exact(hps i p e).1.symm
 have hcell:cs=Zj ps:=by
  apply Qar;intro j;rcases Po j (xs.length*5) with hj | hj
  ·obtain⟨p,hp⟩:∃ p,ps[j / 5]? = some p:=⟨_,Qc (by omega)⟩
   obtain⟨u,hu⟩:∃ u,(Zc0 p)[j % 5]? = some u:=⟨_,Qc (by show j % 5<5;omega)⟩
   have h1:=Zju hp _ _ hu;have h2:=(hps _ p hp).2.1 _ _ hu;rw[show j / 5*5+j % 5=j by omega] at h1 h2;rw[h1,h2]
  ·rw[Pm (by rw[ho.1];exact hj),Pm (by rw[Yw,hl];exact hj)]
 exact⟨ps,hmap,hcell ▸ ho,fun p hp=>by
  obtain⟨i,hi⟩:=Qah.1 hp
  exact(hps i p hi).2.2⟩}
theorem Zeq {lo n c:Nat}{w:Qaw}{A:Option Qay}{ps:List Iv}(h:w.ownsRow lo 54 5 (.slice A n c) n (Zj ps)) (hp:∀ p∈ps,InI p.1/\rBy (Old w) w [p.2] p.1.2.2):Zan (Old w) w [.slice A n c] (ps.map (·.1)):=by
 have hl:=Zbu h;refine Zoc (fun p _ hn=>hn.2.1) h (by rw[Qat];exact hl) fun i x hi=> ?_
 rw[Qas] at hi;obtain⟨p,hp',rfl⟩:=Option.map_eq_some_iff.1 hi;obtain⟨h1,h2⟩:=hp p (Qu hp');exact⟨Zc0 p,rfl,fun j u hj=>Zju hp' j u hj,Zyl h1 h2⟩
theorem Zgl {ok:Qay->Prop}{w:Qaw}{ps:List Iv}(h:∀ p∈ps,InI p.1/\rBy ok w [p.2] p.1.2.2):∀ p∈ps,p.2.oneCell'=true:=fun p hp=>Z9u (h p hp).2
abbrev Rf:=Int×Int
def Rfd (x:Rf):Prop:=8<=x.1/\x.1<256 /\ -1<=x.2/\x.2<=6
def wkF (d:Dk) (lv:Int) (t:List UInt8) (a:Nat):Option (List UInt8):=if lv=6 then lfO d t a else lvF d (lv+1).toNat t a
def runT (d:Dk):List UInt8->List Rf->Option (List UInt8)
 | t,[]=>some t
 | t,x::l=>(wkF d x.2 t x.1.toNat).bind fun u=>runT d u l
theorem Zsr (d:Dk):∀ (a b:List Rf) (t:List UInt8),runT d t (a++b)=(runT d t a).bind fun u=>runT d u b
 | [],b,t=>rfl
 | x::a,b,t=>by
  simp only[Qo,runT];cases wkF d x.2 t x.1.toNat with
  | none=>rfl
  | some u=>exact Zsr d a b u
def Zj1 (lv:Int) (l:List It):List Rf:=(l.filter fun x=>decide (x.2.1≠0)).map fun x=>(x.2.1,lv)
def Zwh (n:Nd):List Rf:=Zj1 (n.1-1) n.2
theorem Ztt (lv:Int):Zj1 lv []=[]:=rfl
theorem Zjl {lv:Int}{x:It}{l:List It}(h:x.2.1=0):Zj1 lv (x::l)=Zj1 lv l:=by simp[Zj1,h]
theorem Zi7 {lv:Int}{x:It}{l:List It}(h:x.2.1≠0):Zj1 lv (x::l)=(x.2.1,lv)::Zj1 lv l:=by simp[Zj1,h]
theorem Zuc (lv:Int) (a b:List It):Zj1 lv (a++b)=Zj1 lv a++Zj1 lv b:=by simp[Zj1]
theorem Zsi (lv:Int) (l:List It):(Zj1 lv l).length<=l.length:=by
 rw[Zj1,Qat];exact List.length_filter_le _ _
theorem Zr1 {lv:Int}(h1 : -1<=lv) (h6:lv<=6):∀ {l:List It},Zbj l->∀ x∈Zj1 lv l,Rfd x
 | [],_,x,hx=>by simp[Zj1] at hx
 | y::l,h,x,hx=>by
  obtain⟨r1,r2⟩:=Zcb h;rcases r1 with r1 | ⟨k,r1,r8,r256⟩
  ·rw[Zjl r1] at hx
   exact Zr1 h1 h6 r2 x hx
  ·rw[Zi7 (by omega)] at hx
   rcases Qd.1 hx with rfl | hx
   ·exact⟨by show 8<=y.2.1;omega,by show y.2.1<256;omega,h1,h6⟩
   ·exact Zr1 h1 h6 r2 x hx
theorem Zhv (d:Dk){k:Nat}(hk:k<=6):∀ (l:List It) (t:List UInt8),Vi (lvF d k) t l=runT d t (Zj1 ((k:Int)-1) l)
 | [],t=>rfl
 | x::l,t=>by
  unfold Vi;by_cases h:x.2.1=0
  ·rw[if_pos h,Zjl h]
   exact Zhv d hk l t
  ·rw[if_neg h,Zi7 h]
   have e:wkF d ((k:Int)-1) t x.2.1.toNat=lvF d k t x.2.1.toNat:=by
    rw[wkF,if_neg (by omega),show ((k:Int)-1+1).toNat=k by omega]
   show (lvF d k t x.2.1.toNat).bind _=(wkF d ((k:Int)-1) t x.2.1.toNat).bind _;rw[e];cases lvF d k t x.2.1.toNat with
   | none=>rfl
   | some u=>exact Zhv d hk l u
theorem Z6n {d:Dk}{lv:Int}{t:List UInt8}{a:Nat}(h:t[a]?.getD 0=0):wkF d lv t a=none:=by{
 have hd:dnO t a=none:=by rw[dnO,if_pos h]
 unfold wkF;split
 ·rw[lfO,hd];rfl
 ·cases (lv+1).toNat with
  | zero=>exact hd
  | succ l =>
   show lvS d l (lvF d l) t a=none;rw[lvS,hd];rfl}
theorem Zub {x:UInt8}(h:x≠0):x-1≠0↔1<x.toNat:=by{
 have h1:=Zh6 h;refine⟨fun e=> ?_,fun e e0=> ?_⟩
 ·have:(x-1).toNat≠0:=fun e'=>e (Vw.1 e')
  omega
 ·have:=Vw.2 e0
  omega}
def Rdn (d:Dk) (lv:Int) (a:Nat):Prop:=reN (Z1 d a)=0/\(lv=6\/(reV (Z1 d a)).1=lv)
theorem Z7e {d:Dk}{lv:Int}{t:List UInt8}{a:Nat}(h1 : -1<=lv) (h6:lv<=6) (h:t[a]?.getD 0≠0) :
  ((t[a]?.getD 0-1≠0\/lv = -1)/\wkF d lv t a=some (t.set a (t[a]?.getD 0-1))) \/
  (t[a]?.getD 0-1=0/\lv ≠ -1/\¬ Rdn d lv a/\wkF d lv t a=none) \/
  (t[a]?.getD 0-1=0/\lv ≠ -1/\Rdn d lv a/\wkF d lv t a=runT d (t.set a (t[a]?.getD 0-1)) (Zwh (reV (Z1 d a)))):=by{
 have hd:=Zdj h;have hlow:reN (Z1 d a)=0->0<=(reV (Z1 d a)).1/\(reV (Z1 d a)).1<6:=fun hr=>by
  obtain⟨⟨s1,s2,_⟩,_⟩:=Zx (Zfl hr).1;exact⟨s1,s2⟩
 by_cases hc:t[a]?.getD 0-1=0
 case neg =>
  refine .inl ⟨.inl hc,?_⟩;have hm:=(Zub h).1 hc;unfold wkF;split
  ·rw[lfO,hd]
   show (if 1<(t[a]?.getD 0).toNat then _ else _)=_;rw[if_pos hm]
  ·exact Zhu d _ t a hm
 have hm:¬ 1<(t[a]?.getD 0).toNat:=fun e=>(Zub h).2 e hc
 by_cases hl:lv = -1
 ·refine .inl ⟨.inr hl,?_⟩
  subst hl;exact hd
 right
 by_cases h0:lv=6
 ·subst h0
  have e:wkF d 6 t a=if reN (Z1 d a)=0 then Vi (lvF d (reV (Z1 d a)).1.toNat) (t.set a (t[a]?.getD 0-1)) (reV (Z1 d a)).2 else none:=by
   rw[wkF,if_pos rfl,lfO,hd];show (if 1<(t[a]?.getD 0).toNat then _ else _)=_;rw[if_neg hm]
  by_cases hr:reN (Z1 d a)=0
  ·refine .inr ⟨hc,by decide,⟨hr,.inl rfl⟩,?_⟩
   have hq:=hlow hr;rw[e,if_pos hr,Zhv d (by omega),Zwh,show (((reV (Z1 d a)).1.toNat:Nat):Int)=(reV (Z1 d a)).1 by omega]
  ·exact .inl ⟨hc,by decide,fun h=>hr h.1,by rw[e,if_neg hr]⟩
 ·obtain⟨l,rfl⟩:∃ l:Nat,lv=l:=⟨lv.toNat,by omega⟩
  have e:wkF d l t a=if reN (Z1 d a)=0/\(reV (Z1 d a)).1=(l:Int) then Vi (lvF d l) (t.set a (t[a]?.getD 0-1)) (reV (Z1 d a)).2 else none:=by
   rw[wkF,if_neg h0,show ((l:Int)+1).toNat=l+1 by omega];show lvS d l (lvF d l) t a=_;rw[lvS,hd];show (if 1<(t[a]?.getD 0).toNat then _ else _)=_;rw[if_neg hm]
  by_cases hr:reN (Z1 d a)=0/\(reV (Z1 d a)).1=(l:Int)
  ·refine .inr ⟨hc,hl,⟨hr.1,.inr hr.2⟩,?_⟩
   rw[e,if_pos hr,Zhv d (by omega),Zwh,hr.2]
  ·exact .inl ⟨hc,hl,fun h=>hr ⟨h.1,h.2.resolve_left h0⟩,by rw[e,if_neg hr]⟩}
def Zqg (t:List UInt8):Nat:=(t.map (·.toNat)).sum
theorem Zzz:∀ t:List UInt8,Zqg t<=255*t.length
 | []=>by simp[Zqg]
 | x::t=>by
  have h1:=Zzz t;have h2:=x.toNat_lt;simp only[Zqg,Ph,P4,Qr] at h1 ⊢;omega
theorem Zx0:∀ {t:List UInt8}{a:Nat},t[a]?.getD 0≠0->Zqg (t.set a (t[a]?.getD 0-1))+1=Zqg t
 | [],a,h=>absurd (by simp) h
 | x::t,0,h=>by
  have h':x≠0:=by simpa using h
  have:=Zh6 h';simp only[List.set_cons_zero,Zqg,Ph,P4,List.getElem?_cons_zero,Option.getD_some];omega
 | x::t,a+1,h=>by
  have h':t[a]?.getD 0≠0:=by simpa using h
  have:=Zx0 h';simp only[List.set_cons_succ,Zqg,Ph,P4,List.getElem?_cons_succ] at this ⊢;omega
def Z5f (s:Rm):Prop:=Zws s.1/\s.2.1.length<=10000/\s.2.2.length<=10000
theorem Zvp {s:Rm}(h:Xl s=true):Z5f s:=by
 obtain⟨h1,h2,h3⟩:=Yf h;exact⟨Zc6 h1,by rw[Yv h2];omega,by rw[Yv h3];omega⟩
theorem Z73 {lo:Nat}{w1 W W9:Qaw}{P Q N L:Qax}{s:Rm}{g:Nat}(hd:Dsk (New w1.heap.size W) W (.agg #[P,Q]) s.1) (hn:rBy (New w1.heap.size W) W [N] s.2.1) (hl:rBy (New w1.heap.size W) W [L] s.2.2) (hg:g<w1.heap.size) (hlo:lo<=w1.heap.size) (gr:W.grownBy W9 (some g)):Sto (New lo W9) W9 (.agg #[P,Q,N,L]) s :=
 Sto.mk ((hd.grown gr (fun q e=>by cases e;exact hg)).new hlo (Qb _ _)) (Zf.new (Zf.grown hn gr (fun q e=>by cases e;exact hg)) hlo (Qb _ _)) (Zf.new (Zf.grown hl gr (fun q e=>by cases e;exact hg)) hlo (Qb _ _))
theorem Zx4 (v:Qax) (s:Rm) (hsm:Z5f s) (w:Qaw) (h:Sto (Old w) w v s) :
  Qa2 Tryz.prog 93 #[v] w fun e w'=>∃ A ca B cb N cn L cl,e=.returned (.agg #[.slice A s.1.1.length ca,.slice B s.1.2.length cb,.slice N s.2.1.length cn,.slice L s.2.2.length cl])/\Sto (New w.heap.size w') w' (.agg #[.slice A s.1.1.length ca,.slice B s.1.2.length cb,.slice N s.2.1.length cn,.slice L s.2.2.length cl]) s/\Qa3 w.heap.size w w':=by{
 obtain⟨A,ca,B,cb,N,cn,L,cl,w1,rfl,hw1,f1,f2,hsz,hB,H⟩:=Zft h;clear h;obtain⟨m0,m1,m2,m3,_,mg⟩:=Ze f1;replace hsz:=Za hsz;replace f1:=Za f1;replace f2:=Za f2;replace hsm:=Za hsm
 go_enter Tryz.func93,Tryz.ntmps93
 go_upto_region 1 with fail
 clear hw1
 refine Ua (by kernel_rfl) 10 (fun W=>Qa3 w1.heap.size w1 W) (fun i=>match i with
   | 2=>some (fun v W=>Dsk (New w1.heap.size W) W v s.1)
   | 5=>some (fun v W=>rBy (New w1.heap.size W) W [v] s.2.1)
   | 8=>some (fun v W=>rBy (New w1.heap.size W) W [v] s.2.2)
   | 9=>some (fun v W=>∃ P p Q r Y y X x,v=.agg #[.slice P s.1.1.length p,.slice Q s.1.2.length r,.slice Y s.2.1.length y,.slice X s.2.2.length x]/\Dsk (New w1.heap.size W) W (.agg #[.slice P s.1.1.length p,.slice Q s.1.2.length r]) s.1/\rBy (New w1.heap.size W) W [.slice Y s.2.1.length y] s.2.1/\rBy (New w1.heap.size W) W [.slice X s.2.2.length x] s.2.2)
   | _=>none) (fun _=>none) (by decide) (by kernel_rfl) (by kernel_rfl) (Qb _ _).drew (fun w w' h hb=>h.trans (hb.mono h.size)) ?tst ?_
 case tst =>
  intro j φ x W W' hp hx hb
  match j,hp with
  | 2,hp=>cases hp;exact hx.new (Qa _) hb
  | 5,hp=>cases hp;exact Zf.new hx (Qa _) hb
  | 8,hp=>cases hp;exact Zf.new hx (Qa _) hb
  | 9,hp =>
   cases hp;obtain⟨P,p,Q,r,Y,y,X,x,e1,e2,e3,e4⟩:=hx;exact⟨P,p,Q,r,Y,y,X,x,e1,e2.new (Qa _) hb,Zf.new e3 (Qa _) hb,Zf.new e4 (Qa _) hb⟩
 simp only[P5,P7,P8,P9]
 repeat (first
  | (refine wpAs_skip rfl ?_;simp only[Qh,Zb,Zc,Zd])
  | (refine wpAs_pure (v := ?_) rfl rfl ?_ ?_;rotate_left;(intro W hC hE;clear hE;(have z0:=(hC.cell (p:=⟨w.heap.size,0,none⟩) mg).trans m0;have z1:=(hC.cell (p:=⟨w.heap.size,1,none⟩) mg).trans m1);clear hC;go_simp;first | done | with_reducible rfl);simp only[Qh,Zb,Zc,Zd]))
 refine wpAs_act rfl rfl ?_ ?_
 ·intro W hC hE
  clear hE;refine does_enter (f:=90) (args:=#[.agg #[.slice A s.1.1.length ca,.slice B s.1.2.length cb]]) ?_ ?_
  ·go_simp
  ·refine(Zs2 _ s.1 W hsm.out.1 (H.out.below hC).parts.1).mono ?_
   rintro e W' ⟨u,rfl,hu,hb⟩;exact⟨_,rfl,hu.new hC.size (Qb _ _),hb⟩
 simp only[Qh,Zb,Zc,Zd,envAdd];intro x5
 repeat (first
  | (refine wpAs_skip rfl ?_;simp only[Qh,Zb,Zc,Zd])
  | (refine wpAs_pure (v := ?_) rfl rfl ?_ ?_;rotate_left;(intro W hC hE;clear hE;(have z2:=(hC.cell (p:=⟨w.heap.size,2,none⟩) mg).trans m2);clear hC;go_simp;first | done | with_reducible rfl);simp only[Qh,Zb,Zc,Zd]))
 refine wpAs_act rfl rfl ?_ ?_
 ·intro W hC hE
  clear hE;refine does_enter (f:=80) (args:=#[.slice N s.2.1.length cn]) ?_ ?_
  ·go_simp
  ·refine(Zaj _ s.2.1 W (by have:=hsm.out.2.1;omega) (H.out.below hC).parts.2.1).mono ?_
   rintro e W' ⟨u,rfl,ho,hb⟩;exact⟨_,rfl,Zf.new ho hC.size (Qb _ _),hb⟩
 simp only[Qh,Zb,Zc,Zd,envAdd];intro x8
 repeat (first
  | (refine wpAs_skip rfl ?_;simp only[Qh,Zb,Zc,Zd])
  | (refine wpAs_pure (v := ?_) rfl rfl ?_ ?_;rotate_left;(intro W hC hE;clear hE;(have z3:=(hC.cell (p:=⟨w.heap.size,3,none⟩) mg).trans m3);clear hC;go_simp;first | done | with_reducible rfl);simp only[Qh,Zb,Zc,Zd]))
 refine wpAs_act rfl rfl ?_ ?_
 ·intro W hC hE
  clear hE;refine does_enter (f:=80) (args:=#[.slice L s.2.2.length cl]) ?_ ?_
  ·go_simp
  ·refine(Zaj _ s.2.2 W (by have:=hsm.out.2.2;omega) (H.out.below hC).parts.2.2).mono ?_
   rintro e W' ⟨u,rfl,ho,hb⟩;exact⟨_,rfl,Zf.new ho hC.size (Qb _ _),hb⟩
 simp only[Qh,Zb,Zc,Zd,envAdd];intro x11;refine wpAs_act rfl rfl ?_ ?_
 ·intro W hC hE
  have h11:=hE.1 rfl;have h8:=hE.2.1 rfl;have h5:=hE.2.2.1 rfl;obtain⟨X,x,rfl,_⟩:=Zt h11;obtain⟨Y,y,rfl,_⟩:=Zt h8;obtain⟨P,p,Q,r,rfl,_⟩:=h5.open;have h11':=Za h11;have h8':=Za h8;have h5':=Za h5;clear hE hC h11 h8 h5
  go_simp
  exact⟨⟨P,p,Q,r,Y,y,X,x,rfl,h5'.out,h8'.out,h11'.out⟩,Qb _ _⟩
 simp only[Qh,Zb,Zc,Zd,envAdd];intro x12;refine wpAs_end fun W hC hE=> ?_
 obtain⟨⟨P,p,Q,r,Y,y,X,x,rfl,hd,hn,hl⟩,_⟩:=hE;have bW:=(hC.block (w.heap.size+1) (by rw[hsz.out];omega)).trans f2.out;obtain⟨c0,c1,c2,c3,c4,c5⟩:=Ze bW;obtain⟨W9,hW9,g9,gr9,gs9⟩:=Zu (a':=.slice P s.1.1.length p) (b':=.slice Q s.1.2.length r) (c':=.slice Y s.2.1.length y) (d':=.slice X s.2.2.length x) bW;obtain⟨n0,n1,n2,n3,_,_⟩:=Ze g9;have BW:=hB.trans (hC.mono hB.size);have hfin:=Za (Z73 (lo:=w.heap.size) hd hn hl (by rw[hsz.out];omega) hB.size gr9);have hB9:=Za (BW.grown gr9 BW.size (fun q e=>by cases e;omega));clear hd hn hl gr9 gs9 BW hC;replace bW:=Za bW;replace g9:=Za g9
 go_wp2_with fail
 refine Qa0 (v:=.agg #[.slice P s.1.1.length p,.slice Q s.1.2.length r,.slice Y s.2.1.length y,.slice X s.2.2.length x]) (by simp[results,Tryz.results93,go_sem,n0,n1,n2,n3]) rfl ?_;exact⟨_,_,_,_,_,_,_,_,rfl,hfin.out,hB9.out⟩}
theorem Zoh (v:Qax) (s:Rm) (n:Int) (w:Qaw) (h:Sto (Old w) w v s):Qa2 Tryz.prog 91 #[v,.int .i64 n] w fun e w'=>e=.returned (.int .i64 (asE s n))/\Qa3 w.heap.size w w':=by{
 obtain⟨A,ca,B,cb,N,cn,L,cl,w1,rfl,hw1,f,hsz,hB,_,NN,_⟩:=Zmi h;have H:=Za (h.below hB);clear h;obtain⟨k0,k1,k2,k3,_,kg⟩:=Ze f;replace hsz:=Za hsz;rcases Zih s n with ⟨hm,he⟩ | ⟨hm,hn,he⟩ | ⟨k,hm,rfl,h8,h256,hx,he⟩ | ⟨k,hm,rfl,h8,h256,hx,he⟩
 ·replace he:=Za he
  have e1:=Zdt hm
  go_enter Tryz.func91,Tryz.ntmps91
  go_upto_region 1 with fail
  clear hw1
  go_wp2_with fail
  with_reducible refine(Xb _ s _ H.out).mono ?_
  rintro e w2 ⟨rfl,hb2⟩;rw[e1];replace hb2:=Za (hB.trans (hb2.mono hB.size))
  go_wp2_with fail
  go_ret;exact⟨Zz he.out.symm,hb2.out⟩
 ·replace he:=Za he
  have e1:=Zct hm;by_cases h8:n<8
  ·clear hn
   go_enter Tryz.func91,Tryz.ntmps91
   go_upto_region 1 with fail
   clear hw1
   go_wp2_with fail
   with_reducible refine(Xb _ s _ H.out).mono ?_
   rintro e w2 ⟨rfl,hb2⟩;rw[e1];replace hb2:=Za (hB.trans (hb2.mono hB.size))
   go_wp2_with fail
   go_ret;exact⟨Zz he.out.symm,hb2.out⟩
  ·have h9:256<=n:=by omega
   clear hn
   go_enter Tryz.func91,Tryz.ntmps91
   go_upto_region 1 with fail
   clear hw1
   go_wp2_with fail
   with_reducible refine(Xb _ s _ H.out).mono ?_
   rintro e w2 ⟨rfl,hb2⟩;rw[e1];replace hb2:=Za (hB.trans (hb2.mono hB.size))
   go_wp2_with fail
   go_ret;exact⟨Zz he.out.symm,hb2.out⟩
 all_goals
  replace he:=Za he;have e1:=Zct hm;have hlen:=Yv (Yf hm).2.1;obtain⟨A',c',e2,l1,m1,hby⟩:=Vd (B:=w1.heap.size) (fun _ h=>h) NN.out;cases e2;obtain⟨ad,rfl,hbk,hc⟩:=hby (by omega)
  have hcell:=hc k (by omega);replace hbk:(ad.add k).block<w1.heap.size:=by rw[Zh];exact hbk
  obtain⟨x,hx2⟩:∃ x,s.2.1[k]?.getD 0=x:=⟨_,rfl⟩
  rw[hx2] at hcell hx;have hlt:k<s.2.1.length:=by omega
  first
   | have t0:=Vc (y:=0) (q:=0) rfl hx
   | have t0:=Xs (y:=0) (q:=0) rfl hx
  have i1:¬ (k:Int)<8:=by omega
  have i2:¬ 256<=(k:Int):=by omega
  replace hx2:=Za hx2;replace hx:=Za hx;replace hlen:=Za hlen;clear hc hby
  go_enter Tryz.func91,Tryz.ntmps91
  go_upto_region 1 with fail
  clear hw1
  go_wp2_with fail
  with_reducible refine(Xb _ s _ H.out).mono ?_
  rintro e w2 ⟨rfl,hb2⟩;rw[e1];replace k2:=(hb2.cell (p:=⟨w.heap.size,2,none⟩) kg).trans k2;replace hcell:=(hb2.cell hbk).trans hcell;replace hb2:=Za (hB.trans (hb2.mono hB.size))
  go_wp2_with fail
  go_ret;exact⟨Zz he.out.symm,hb2.out⟩}
theorem Yad (w:Qaw) (a b c d e f:Qax):∃ w1,((w.alloc (.cells #[a,b,c,d] 29)).alloc (.cells #[e,f] 115)).alloc (.cells #[.int .i64 0,.slice none 0 0] 81)=w1 /\
  w1.heap[w.heap.size]? = some (.cells #[a,b,c,d] 29 (0,0))/\w1.heap[w.heap.size+1]? = some (.cells #[e,f] 115 (0,0))/\w1.heap[w.heap.size+2]? = some (.cells #[.int .i64 0,.slice none 0 0] 81 (0,0))/\w1.heap.size=w.heap.size+3/\Qa3 w.heap.size w w1:=by{
 refine⟨_,rfl,Y2 (Y2 (Qa1 _ _)),Y2 ?_,?_,by simp,(((Qb _ w).alloc (Qa _) _).alloc (by simp) _).alloc (by simp;omega) _⟩
 ·have:=Qa1 (w.alloc (.cells #[a,b,c,d] 29)) (.cells #[e,f] 115)
  rwa [Qs] at this
 ·have:=Qa1 ((w.alloc (.cells #[a,b,c,d] 29)).alloc (.cells #[e,f] 115)) (.cells #[.int .i64 0,.slice none 0 0] 81)
  rwa [Qs,Qs] at this}
def RdP (s:Rm) (k:Nat) (lv:Int) (w w':Qaw) (e:Ending):Prop:=∃ (u:Qax) (q:Int) (nd:Nd),e=.returned (.tuple #[u,.int .i64 q])/\((Rdn s.1 lv k/\q=0/\nd=reV (Z1 s.1 k))\/(¬ Rdn s.1 lv k/\q=8/\nd=Ud))/\Nod (New w.heap.size w') w' u nd/\Qa3 w.heap.size w w'
theorem Zo4 (v:Qax) (s:Rm) (k:Nat) (lv:Int) (ha:asE s k=0) (w:Qaw) (h:Sto (Old w) w v s) :
  Qa2 Tryz.prog 131 #[v,.agg #[.int .i64 k,.int .i64 lv]] w fun e w'=>RdP s k lv w w' e:=by{
 obtain⟨A,ca,B,cb,N,cn,L,cl,rfl,_,_,_⟩:=h.open;obtain⟨w1,hw1,f1,f2,f3,hsz,hB⟩:=Yad w (.slice A s.1.1.length ca) (.slice B s.1.2.length cb) (.slice N s.2.1.length cn) (.slice L s.2.2.length cl) (.int .i64 k) (.int .i64 lv);have H:=Za (h.below hB);clear h;obtain⟨k0,k1,k2,k3,_,kg⟩:=Ze f1;obtain⟨j0,j1,_,jg⟩:=Zg f2;obtain⟨k',e',_,_,_,_,_,hE,hV,-⟩:=Y3 ha;have hkk:k'=k:=by omega
 subst hkk;clear e';obtain⟨b,hb⟩:∃ b,Z1 s.1 k'=b:=⟨_,rfl⟩
 rw[hb] at hE hV;obtain⟨q,hq⟩:∃ q,reN b=q:=⟨_,rfl⟩
 obtain⟨nd,hnd⟩:∃ nd,reV b=nd:=⟨_,rfl⟩
 rw[hq] at hE;rw[hnd] at hV;obtain⟨lw,hlw⟩:∃ q,nd.1=q:=⟨_,rfl⟩
 have hR:Hid (Rdn s.1 lv k'↔(q=0/\(lv=6\/lw=lv))):=Za (by unfold Rdn;rw[hb,hq,hnd,hlw]);have hND:Hid (nd=reV (Z1 s.1 k')):=Za (by rw[hb,hnd]);replace hsz:=Za hsz;replace f3:=Za f3;replace hb:=Za hb;replace hq:=Za hq;replace hnd:=Za hnd;replace hE:=Za hE;replace hV:=Za hV;clear f1 ha
 go_enter Tryz.func131,Tryz.ntmps131
 go_upto_region 1 with fail
 clear hw1
 go_wp2_with fail
 with_reducible refine(Zov _ s (k':Int) _ H.out).mono ?_
 rintro e w2 ⟨u,rfl,hu,hb2⟩;rw[hE.out];rw[hV.out] at hu;obtain⟨P,pc,rfl,_⟩:=id hu.open;rw[hlw];obtain⟨w3,hw3,g3,hs3,hb3⟩:=Yb w2 (.int .i64 lw) (.slice P nd.2.length pc) 81;have F3:=(hb3.block (w.heap.size+2) (by have:=hb2.size;have:=hsz.out;omega)).trans ((hb2.block (w.heap.size+2) (by have:=hsz.out;omega)).trans f3.out);have G2:=(hb3.block (w.heap.size+1) (by have:=hb2.size;have:=hsz.out;omega)).trans ((hb2.block (w.heap.size+1) (by have:=hsz.out;omega)).trans f2);obtain⟨m0,m1,_,_⟩:=Zg g3;obtain⟨n0,n1,_,_⟩:=Zg G2;obtain⟨x0,x1,x2,_⟩:=Zg F3;have B3:=Za (hB.trans ((hb2.trans (hb3.mono hb2.size)).mono hB.size));have U3:=Za (hu.new (Qa _) hb3);have s3:Hid (w.heap.size+3<=w1.heap.size):=Za (by have:=hsz.out;omega);rw[hlw] at U3;clear hu hb2 hb3 hB k0 k1 k2 k3 kg j0 j1 jg f2;replace hs3:=Za hs3;replace g3:=Za g3;replace G2:=Za G2
 go_upto_region 2 with fail
 clear hw3;by_cases hok:q=0/\(lv=6\/lw=lv)
 ·obtain⟨W9,hW9,g9,gr9,gs9⟩:=Xq (u:=.int .i64 lw) (v:=.slice P nd.2.length pc) F3
  obtain⟨o0,o1,_,_⟩:=Zg g9
  have hfin:=Za (show Nod (New w.heap.size W9) W9 (.agg #[.int .i64 lw,.slice P nd.2.length pc]) nd from
   (U3.out.grown gr9 (fun q e=>by cases e;have:=s3.out;omega)).new (by have:=s3.out;omega) (Qb _ _))
  have hB9:=Za (B3.out.grown gr9 B3.out.size (fun q e=>by cases e;omega));have hq0:=hok.1;have hok':=Za hok;subst hq0;replace F3:=Za F3;replace g9:=Za g9;clear gr9 gs9;by_cases h6:lv=6
  ·have c1:(lv != 6)=false:=by simp[h6]
   clear hok h6
   go_wp2_with fail
   refine Qa0 (v:=.tuple #[.agg #[.int .i64 lw,.slice P nd.2.length pc],.int .i64 0]) (by simp[results,Tryz.results131,go_sem,o0,o1]) rfl ?_;exact⟨_,0,nd,rfl,.inl ⟨hR.out.2 hok'.out,rfl,hND.out⟩,hfin.out,hB9.out⟩
  ·have c1:(lv != 6)=true:=by simpa using h6
   have c2:(lw != lv)=false:=by
    rcases hok.2 with h | h
    ·exact absurd h h6
    ·simp[h]
   clear hok
   go_wp2_with fail
   refine Qa0 (v:=.tuple #[.agg #[.int .i64 lw,.slice P nd.2.length pc],.int .i64 0]) (by simp[results,Tryz.results131,go_sem,o0,o1]) rfl ?_;exact⟨_,0,nd,rfl,.inl ⟨hR.out.2 hok'.out,rfl,hND.out⟩,hfin.out,hB9.out⟩
 ·obtain⟨W9,hW9,g9,gr9,gs9⟩:=Xq (u:=.int .i64 0) (v:=.slice none 0 0) F3
  obtain⟨o0,o1,_,_⟩:=Zg g9;have hfin:=Za (Z2t (New w.heap.size W9) W9);have hB9:=Za (B3.out.grown gr9 B3.out.size (fun q e=>by cases e;omega));have hok':=Za hok;replace F3:=Za F3;replace g9:=Za g9;clear gr9 gs9;by_cases hq0:q=0
  ·have c1:(lv != 6)=true:=by
    have:¬ lv=6:=fun h=>hok ⟨hq0,.inl h⟩
    simpa using this
   have c2:(lw != lv)=true:=by
    have:¬ lw=lv:=fun h=>hok ⟨hq0,.inr h⟩
    simpa using this
   clear hok;subst hq0
   go_wp2_with fail
   refine Qa0 (v:=.tuple #[.agg #[.int .i64 0,.slice none 0 0],.int .i64 8]) (by simp[results,Tryz.results131,go_sem,o0,o1]) rfl ?_;exact⟨_,8,Ud,rfl,.inr ⟨fun h=>hok'.out (hR.out.1 h),rfl,rfl⟩,hfin.out,hB9.out⟩
  ·have c0:(q != 0)=true:=by simpa using hq0
   clear hok
   go_wp2_with fail
   refine Qa0 (v:=.tuple #[.agg #[.int .i64 0,.slice none 0 0],.int .i64 8]) (by simp[results,Tryz.results131,go_sem,o0,o1]) rfl ?_;exact⟨_,8,Ud,rfl,.inr ⟨fun h=>hok'.out (hR.out.1 h),rfl,rfl⟩,hfin.out,hB9.out⟩}
def Off (g:Nat) (w:Qaw):Qay->Prop:=fun p=>p.block<w.heap.size/\p.block≠g
theorem Zh7 {g:Nat}{W W1:Qaw}{p:Qay}{v:Qax}(gr:W.grownBy W1 (some g)) (hp:Off g W p) (hc:W.cell? p=some v):Off g W1 p/\W1.cell? p=some v :=
 ⟨⟨Qq hp.1 gr.size,hp.2⟩,(Qaq (gr.block _ hp.1 (by simpa using hp.2))).trans hc⟩
theorem Zn2 {g:Nat}{W W1:Qaw}{p:Qay}{v:Qax}(hb:Qa3 W.heap.size W W1) (hp:Off g W p) (hc:W.cell? p=some v):Off g W1 p/\W1.cell? p=some v :=
 ⟨⟨Qq hp.1 hb.size,hp.2⟩,(hb.cell hp.1).trans hc⟩
theorem Zml {g:Nat}{w W:Qaw}{p:Qay}{v:Qax}(hb:Qa3 w.heap.size w W) (hg:w.heap.size<=g) (hp:Old w p) (hc:w.cell? p=some v):Off g W p/\W.cell? p=some v :=
 ⟨⟨Qq hp hb.size,fun e=>by have h:p.block<w.heap.size:=hp;omega⟩,(hb.cell hp).trans hc⟩
theorem Zmz {g:Nat}{W:Qaw}{p:Qay}{v:Qax}(hp:Off g W p) (hc:W.cell? p=some v):Old W p/\W.cell? p=some v:=⟨hp.1,hc⟩
theorem Z1m {l:List It}{i:Nat}{x:It}{t:List UInt8}(h:ctE t (l.take i)=0) (hx:l[i]? = some x):ctE t l=ctE (ctV t (l.take i)) (x::l.drop (i+1)):=by
 have hk:=(Qj.1 hx).1;have hg:l[i]=x:=(Qj.1 hx).2;have e:l=l.take i++x::l.drop (i+1):=by rw[<- hg,List.getElem_cons_drop,Qy]
 have:ctE t l=ctE t (l.take i++x::l.drop (i+1)):=by rw[<- e]
 rw[this,Zmf,if_pos h]
theorem Z6x {l:List It}{i:Nat}{x:It}{t:List UInt8}(h:ctE t (l.take i)=0) (hx:l[i]? = some x):ctE t (l.take (i+1))=ctE (ctV t (l.take i)) [x]/\ctV t (l.take (i+1))=ctV (ctV t (l.take i)) [x]:=by
 have hk:=(Qj.1 hx).1;have hg:l[i]=x:=(Qj.1 hx).2;rw[<- Pj hk,Zmf,Zq1,if_pos h,hg];exact⟨rfl,rfl⟩
theorem Zu1 {w:Qaw}(a b c d e f:Qax):∃ w1,((w.alloc (.cells #[a,b,c,d] 29)).alloc (.cells #[e,f] 81)).alloc (.cells #[.slice none 0 0,.slice none 0 0,.slice none 0 0,.slice none 0 0] 29)=w1 /\
  w1.heap[w.heap.size]? = some (.cells #[a,b,c,d] 29 (0,0))/\w1.heap[w.heap.size+1]? = some (.cells #[e,f] 81 (0,0))/\w1.heap[w.heap.size+2]? = some (.cells #[.slice none 0 0,.slice none 0 0,.slice none 0 0,.slice none 0 0] 29 (0,0))/\w1.heap.size=w.heap.size+3/\Qa3 w.heap.size w w1:=by{
 refine⟨_,rfl,Y2 (Y2 (Qa1 _ _)),Y2 ?_,?_,by simp,(((Qb _ w).alloc (Qa _) _).alloc (by simp) _).alloc (by simp;omega) _⟩
 ·have:=Qa1 (w.alloc (.cells #[a,b,c,d] 29)) (.cells #[e,f] 81)
  rwa [Qs] at this
 ·have:=Qa1 ((w.alloc (.cells #[a,b,c,d] 29)).alloc (.cells #[e,f] 81)) (.cells #[.slice none 0 0,.slice none 0 0,.slice none 0 0,.slice none 0 0] 29)
  rwa [Qs,Qs] at this}
theorem Zzf {s:Rm}{n:Nd}(hm:Xl s=true) (hn:mayN n=true):(ctE s.2.1 n.2≠0/\mkE s n=ctE s.2.1 n.2/\mkN s n=0/\mkV s n=Zi)\/(ctE s.2.1 n.2=0/\mkE s n=tkE (ctS s n) (Va n)/\mkN s n=tkN (ctS s n) (Va n)/\mkV s n=tkV (ctS s n) (Va n)):=by{
 by_cases hc:ctE s.2.1 n.2=0
 ·have e:mkE s n=tkE (ctS s n) (Va n):=by simp[mkE,hm,hn,hc]
  refine .inr ⟨hc,e,?_,?_⟩
  ·by_cases h:mkE s n=0
   ·rw[mkN,if_pos h]
   ·rw[mkN,if_neg h,(Zv0 (by rw[<- e];exact h)).1]
  ·by_cases h:mkE s n=0
   ·rw[mkV,if_pos h]
   ·rw[mkV,if_neg h,(Zv0 (by rw[<- e];exact h)).2]
 ·have e:mkE s n=ctE s.2.1 n.2:=by simp[mkE,hm,hn,hc]
  have h:mkE s n≠0:=by rw[e];exact hc
  exact .inl ⟨hc,e,(Z0v h).1,(Z0v h).2⟩}
theorem Zqf {a b:Qaw}{row:Option Nat}(h:Qa3 a.heap.size a b):a.grownBy b row:=Uj (Y9 a row) h
theorem Zxf (g c lo:Nat) (t0:List UInt8) (u:Qax) (n:Nd) (hn:mayN n=true) (hl0:t0.length=256) (w:Qaw) (hown:w.ownsRow lo 5 1 (.slice (some ⟨g,0,none⟩) 256 c) 256 (u8s t0)) (hu:Nod (Off g w) w u n) :
  Qa2 Tryz.prog 81 #[.slice (some ⟨g,0,none⟩) 256 c,u] w fun e w'=>e=.returned (.int .i64 (ctE t0 n.2))/\w.grownBy w' (some g)/\(ctE t0 n.2=0->w'.ownsRow lo 5 1 (.slice (some ⟨g,0,none⟩) 256 c) 256 (u8s (ctV t0 n.2))):=by{
 obtain⟨I,ci,rfl,_,_,_,hI⟩:=hu.open;obtain⟨lw,hlw⟩:∃ q,n.1=q:=⟨_,rfl⟩
 obtain⟨l,hl⟩:∃ q,n.2=q:=⟨_,rfl⟩
 obtain⟨m,hlm⟩:∃ q,l.length=q:=⟨_,rfl⟩
 have hrf:=Za (Vv hn);obtain⟨⟨_,_,s3,_⟩,_⟩:=Zx hn;rw[hl,hlm] at s3 hI;rw[hl] at hrf ⊢;rw[hlw,hlm];have hg0:g<w.heap.size:=((hown.lt g rfl).2)
 obtain⟨w1,hw1,b1,hs1,hB1⟩:=Yb w (.int .i64 lw) (.slice I m ci) 81;have HI:=Za (Xn _ _ _ _ _ _ (fun _ _ hp hc=>Zn2 (g:=g) hB1 hp hc) hI);have HO:=Za (Zv hown hB1);have GB:=Za (Zqf (row:=some g) hB1);obtain⟨p0,p1,_,pg⟩:=Zg b1;have hgs:Hid (g≠w.heap.size):=Za (by omega);have b1h:=Za b1;replace hl0:=Za hl0;replace hl:=Za hl;replace hlw:=Za hlw;replace hlm:=Za hlm;replace hs1:=Za hs1;clear hown hu hI b1 hB1
 go_enter Tryz.func81,Tryz.ntmps81
 go_upto_region 1 with fail
 clear hw1
 go_wp2_with fail
 clear p0 p1
 go_loopw [10] (fun vi wr=>∃ i:Nat,i<=m/\vi=.int .i64 i/\ctE t0 (l.take i)=0/\wr.ownsRow lo 5 1 (.slice (some ⟨g,0,none⟩) 256 c) 256 (u8s (ctV t0 (l.take i)))/\w1.grownBy wr (some g)) (fun vi _=>m-(intOf vi).toNat)
 case atStart=>exact⟨0,by omega,rfl,rfl,HO.out,Y9 _ _⟩
 case round =>
  obtain⟨i,hi,rfl,hE,hown,hgr⟩:=hrel;have GF:=Za (Ys GB.out hgr);by_cases hlt:i<m
  case neg =>
   have hlast:Hid (l.take i=l):=Za (Qaj (by rw[hlm.out];omega));have hEl:Hid (ctE t0 l=0):=Za (by rw[<- hE,hlast.out]);rw[hlast.out] at hown;have HO2:=Za hown;clear hown hgr hE
   go_wp2_with fail
   go_ret;exact⟨Zz hEl.out.symm,GF.out,fun _=>HO2.out⟩
  obtain⟨x,hx⟩:∃ x,l[i]? = some x:=⟨_,Qc (by rw[hlm.out];exact hlt)⟩
  have hsp:=Za (Z1m hE hx);have hnx:=Za (Z6x hE hx);have hxr:=hrf.out x (Qu hx);have hIr:=Xn _ _ _ _ _ _ (fun _ _ hp hc=>Zh7 (g:=g) hgr hp hc) HI.out;obtain⟨ad5,E5,ce5,rfl,_,⟨z0,z1,z2,z3,z4⟩,_⟩:=Zah hIr hx;clear hIr;obtain⟨w5,hw5,y0,y1,y2,y3,y4,hs5,hB5,_⟩:=Z8 wr (.int .u8 (x.1.1.toNat:Int)) (.int .u32 x.1.2.1) (.int .u32 x.1.2.2) (.int .i64 x.2.1) (.slice E5 x.2.2.length ce5) 54;have hown5:=Zv hown hB5;have hgr5:=Za (Uj hgr (hB5.mono hgr.size));have GF5:=Za (Ys GB.out hgr5.out);replace hs5:=Za hs5;have i4:(0:Int)<=(i:Int):=by omega
  have i5:(i:Int)<(m:Int):=by omega
  obtain⟨z,hzz⟩:∃ z,x.2.1=z:=⟨_,rfl⟩
  have hc1:∀ T,ctE T (x::l.drop (i+1))=if z=0 then ctE T (l.drop (i+1)) else if T[z.toNat]?.getD 0=0 then 6 else if T[z.toNat]?.getD 0=255 then 70 else ctE (T.set z.toNat (T[z.toNat]?.getD 0+1)) (l.drop (i+1)):=fun T=>by rw[<- hzz];rfl
  have hc2:∀ T,ctE T [x]=if z=0 then 0 else if T[z.toNat]?.getD 0=0 then 6 else if T[z.toNat]?.getD 0=255 then 70 else 0:=fun T=>by rw[<- hzz];rfl
  have hc3:∀ T,ctV T [x]=if z=0 then T else T.set z.toNat (T[z.toNat]?.getD 0+1):=fun T=>by rw[<- hzz];rfl
  rw[hzz] at z3 hxr hw5 y3;replace hx:=Za hx;replace hzz:=Za hzz;obtain⟨T,hT⟩:∃ T,ctV t0 (l.take i)=T:=⟨_,rfl⟩
  have hTl:Hid (T.length=256):=Za (by rw[<- hT,Zef,hl0.out]);rw[hT] at hown5 hsp hnx;replace hT:=Za hT;replace hE:=Za hE;clear hown hgr hB5
  go_upto_region 4 with fail
  clear hw5 z0 z1 z2 z3 z4;by_cases hz0:z=0
  ·have hn1:Hid (ctE t0 (l.take (i+1))=0/\ctV t0 (l.take (i+1))=T):=Za ⟨by rw[hnx.out.1,hc2,if_pos hz0],by rw[hnx.out.2,hc3,if_pos hz0]⟩
   subst hz0;have HO:=Za hown5;clear hc1 hc2 hc3 hxr hown5 hE hsp hnx
   go_wp2_with fail
   go_roundw
   case rel=>exact⟨i+1,by omega,by go_num,hn1.out.1,by rw[hn1.out.2];exact HO.out,hgr5.out⟩
   case measure=>simp[intOf];omega
  obtain⟨r,hr,r8,r256⟩:∃ r:Nat,z=r/\8<=r/\r<256:=⟨z.toNat,by omega,by omega,by omega⟩
  rw[hc1,if_neg hz0,show z.toNat=r by omega] at hsp;rw[hc2,hc3,if_neg hz0,if_neg hz0,show z.toNat=r by omega] at hnx;have j3:(z==0)=false:=by simpa using hz0
  subst hr;have hcell:=Zfn hown5 (j:=r) r256;obtain⟨y,hy⟩:∃ y,T[r]?.getD 0=y:=⟨_,rfl⟩
  rw[hy] at hsp hnx hcell;replace hy:=Za hy;by_cases hy0:y=0
  ·have t1:=Vc (y:=0) (q:=0) rfl hy0
   have hEl:Hid (ctE t0 l=6):=Za (by rw[hsp.out,if_pos hy0]);clear hc1 hc2 hc3 hxr hown5 hE hsp hnx hz0
   go_wp2_with fail
   go_ret;exact⟨Zz hEl.out.symm,GF5.out,fun h=>by rw[hEl.out] at h;cases h⟩
  have t1:=Xs (y:=0) (q:=0) rfl hy0;by_cases hy5:y=255
  ·have t2:=Vc (y:=255) (q:=255) rfl hy5
   have hEl:Hid (ctE t0 l=70):=Za (by rw[hsp.out,if_neg hy0,if_pos hy5]);clear hc1 hc2 hc3 hxr hown5 hE hsp hnx hz0
   go_wp2_with fail
   go_ret;exact⟨Zz hEl.out.symm,GF5.out,fun h=>by rw[hEl.out] at h;cases h⟩
  have t2:=Xs (y:=255) (q:=255) rfl hy5;have hfr:w5.frozen? ⟨g,r,none⟩=false:=hown5.frozenAt r;obtain⟨hu1,hu2,hu3⟩:=Zir hy5;have hset:=Zqw hown5 r (y+1);have hn1:Hid (ctE t0 (l.take (i+1))=0/\ctV t0 (l.take (i+1))=T.set r (y+1)):=Za ⟨by rw[hnx.out.1,if_neg hy0,if_neg hy5],hnx.out.2⟩;rw[<- hu1] at hset;replace hset:=Za hset;replace hu1:=Za hu1;have hgn:=Za (Yo hgr5.out (p:=⟨g,r,none⟩) rfl (.int .u8 ((y.toNat:Int)+1)));clear hc1 hc2 hc3 hxr hown5 hE hsp hnx hz0
  go_wp2_with fail
  go_roundw
  case rel=>exact⟨i+1,by omega,by go_num,hn1.out.1,by rw[hn1.out.2];exact hset.out,hgn.out⟩
  case measure=>simp[intOf];omega}
end Go.Proofs.YtgmbjnajdfgenaaGreat
namespace Go.Proofs.YtgmbjnajdfgenaaGreat
open Go.RowKit Go.Shelf Go.Maps
attribute [local go_sem] Oper.semAt_some
theorem Zsj:(Tryz.prog.info? 115).map (fun i=>(i.zero,i.size,i.bytes))=some (some (.agg #[.int .i64 0,.int .i64 0]),2,16):=by kernel_rfl
def rfV (l:List Rf):List Qax:=l.flatMap fun x=>[.int .i64 x.1,.int .i64 x.2]
theorem Z7i (l:List Rf):(rfV l).length=l.length*2:=by{
 induction l with
 | nil=>rfl
 | cons x l ih =>
  show (rfV l).length+2=_;rw[ih,Qr];omega}
theorem Zro (a b:List Rf):rfV (a++b)=rfV a++rfV b:=by simp[rfV]
theorem Z6y (l:List Rf):∀ v∈rfV l,v.oneCell'=true:=by
 intro v hv;simp only[rfV,Qk] at hv;obtain⟨x,_,hx⟩:=hv;simp at hx;rcases hx with rfl | rfl <;> rfl
theorem Z16 (F:Fence) (n:Nat) (hf:F.fn 180) (hro:F.round=none) (hn:1<=n) (l Bs n₀ cap m:Nat) (A:Option Qay) (ad:Qay) (f:Nat->It) (E:Nat->Option Qay) (ca:Nat->Nat) (hm:m<=9223372036854775807) (hA:0<m->A=some ad/\ad.block<n₀) (J Jx:List Nat->Qaw->Prop)
  (hY:∀ (pre:List Nat) (x:Nat) (W:Qaw),J pre W->pre.length<m->YieldAt F (n-1) Tryz.prog l #[.int .i64 (x:Int),.agg #[.int .u8 ((f x).1.1.toNat:Int),.int .u32 (f x).1.2.1,.int .u32 (f x).1.2.2,.int .i64 (f x).2.1,.slice (E x) (f x).2.2.length (ca x)]] W fun e W' =>
   (e=.returned (.bool true)/\J (pre++[x]) W'/\Ze3 n₀ Bs W W')\/(e=.returned (.bool false)/\Jx (pre++[x]) W'))
  (W:Qaw) (hBs:W.cell? ⟨Bs,0,none⟩=some (.slice A m cap)) (hc:∀ j,j<m->At5 W (ad.add (j*5)) (f j) (.slice (E j) (f j).2.2.length (ca j))) (h0:J [] W) :
  CallsIn F n Tryz.prog 180 #[.func (.yield l) #[] #[],.pointer (some ⟨Bs,0,none⟩)] W fun e W'=>(∃ v,e=.returned v) /\
   ((∃ ys,ys=V5 m m/\J ys W')\/(∃ pre,(∃ k,k<=m/\pre=V5 m k)/\Jx pre W')):=by{
 refine callsIn_of_wp Tryz.func180 rfl hf ?_ hro;simp only[Tryz.ntmps180,Q6,Qr,Q7,Q8,Q9,Pa,Pb,Pc,Pd,Pe,Qo];have HC:=Za hc;clear hc;replace hA:=Za hA
 gi_wp2
 gi_loopw [3] (fun i wr=>∃ k:Nat,k<=m/\i=.int .i64 ((m:Int)-1-k)/\J (V5 m k) wr/\Qa3 n₀ W wr/\wr.cell? ⟨Bs,0,none⟩=some (.slice A m cap))
  (fun i _=>(intOf i+1).toNat)
 case atStart=>exact⟨0,Nat.zero_le _,by simp,h0,Qb _ _,hBs⟩
 case round =>
  obtain⟨k,hk,rfl,hJs,hnx,hbs⟩:=hrel;by_cases hlt:k<m
  ·obtain⟨rfl,hb⟩:=hA.out (by omega)
   have hx:=HC.out (m-1-k) (by omega);have g1:=(hnx.cell (p:=ad.add ((m-1-k)*5)) (by rw[Zh];exact hb)).trans hx.c0;have g2:=(hnx.cell (p:=⟨(ad.add ((m-1-k)*5)).block,(ad.add ((m-1-k)*5)).off+1,none⟩) (by rw[Zh];exact hb)).trans hx.c1;have g3:=(hnx.cell (p:=⟨(ad.add ((m-1-k)*5)).block,(ad.add ((m-1-k)*5)).off+2,none⟩) (by rw[Zh];exact hb)).trans hx.c2;have g4:=(hnx.cell (p:=⟨(ad.add ((m-1-k)*5)).block,(ad.add ((m-1-k)*5)).off+3,none⟩) (by rw[Zh];exact hb)).trans hx.c3;have g5:=(hnx.cell (p:=⟨(ad.add ((m-1-k)*5)).block,(ad.add ((m-1-k)*5)).off+4,none⟩) (by rw[Zh];exact hb)).trans hx.c4;clear hx;obtain⟨fn,tmps,assign,body,hy,hR⟩:=hY _ (m-1-k) wr hJs (by rw[Y8];exact hlt)
   try dsimp only at hy
   have e1:((m:Int)-1-k).toNat=m-1-k:=by omega
   have e2:((m-1-k:Nat):Int)=(m:Int)-1-k:=by omega
   rw[e2] at hy;clear e2;have hds:=Za (Zd0 m k);generalize ((f (m-1-k)).1.1.toNat:Int)=q1 at *;generalize (f (m-1-k)).1.2.1=q2 at *;generalize (f (m-1-k)).1.2.2=q3 at *;generalize (f (m-1-k)).2.1=q4 at *;generalize (f (m-1-k)).2.2.length=q5 at *;generalize E (m-1-k)=q6 at *;generalize ca (m-1-k)=q7 at *
   gi_wp2
   refine hR.mono ?_;rintro e W3 (⟨rfl,hJ3,hk3⟩ | ⟨rfl,hJx3⟩)
   ·gi_wp2
    go_roundw
    case rel=>exact⟨k+1,by omega,by go_num,by rw[hds.out];exact hJ3,hnx.trans hk3.1,hk3.2.trans hbs⟩
    case measure=>simp[intOf];omega
   ·gi_wp2
    refine Qa0 (results_none rfl _ _ _) rfl ?_;exact⟨⟨_,rfl⟩,.inr ⟨_,⟨k+1,by omega,hds.out.symm⟩,hJx3⟩⟩
  ·obtain rfl:k=m:=by omega
   gi_wp2
   go_end0
   exact⟨⟨_,rfl⟩,.inl ⟨_,rfl,hJs⟩⟩}
theorem Zog (F:Fence) (n:Nat) (hf:F.fn 160) (hro:F.round=none) (a:Option Qay) (len cap:Nat) (w:Qaw) :
  CallsIn F n Tryz.prog 160 #[.slice a len cap] w fun e w'=>e=.returned (.func (.func 180) #[] #[.pointer (some ⟨w.heap.size,0,none⟩)])/\w'=w.alloc (.cells #[.slice a len cap] 39):=by
 refine callsIn_of_wp Tryz.func160 rfl hf ?_ hro;simp only[Tryz.ntmps160,Q6,Qr,Q7,Q8,Q9,Pa,Pb,Pc,Pd,Pe,Qo]
 gi_wp2
 go_ret;exact⟨rfl,rfl⟩
theorem Zi4 (F:Fence) (n:Nat) (hf:F.fn 180) (hro:F.round=none) (hn:1<=n) (Bs n₀ cap m:Nat) (A:Option Qay) (ad:Qay) (f:Nat->It) (E:Nat->Option Qay) (ca:Nat->Nat) (hm:m<=9223372036854775807) (w:Qaw) (hBs:Bs<w.heap.size) (_hn₀:n₀<=w.heap.size)
  (hc:w.cell? ⟨Bs,0,none⟩=some (.slice A m cap)) (hA:0<m->A=some ad/\ad.block<n₀) (hx:∀ j,j<m->At5 w (ad.add (j*5)) (f j) (.slice (E j) (f j).2.2.length (ca j))) :
  SeqStopsK F n Tryz.prog 180 #[.pointer (some ⟨Bs,0,none⟩)] (fun x:Nat=>#[Value.int .i64 (x:Int),Value.agg #[.int .u8 ((f x).1.1.toNat:Int),.int .u32 (f x).1.2.1,.int .u32 (f x).1.2.2,.int .i64 (f x).2.1,.slice (E x) (f x).2.2.length (ca x)]]) (Ze3 n₀ Bs) (fun ys=>ys=V5 m m)
   (fun pre=>∃ k,k<=m/\pre=V5 m k) m w:=fun l J Jx W hW _ _ hY h0=>by
 have hc':=(hW.cell (p:=⟨Bs,0,none⟩) hBs).trans hc;exact Z16 F n hf hro hn l Bs n₀ cap m A ad f E ca hm hA J Jx hY W hc' (fun j hj=>(hx j hj).below hW) h0
theorem Z87 {w:Qaw}{A:Option Qay}{n c:Nat}{xs:List It}(h:Zan (Old w) w [.slice A n c] xs) (hn:xs.length=n) :
  ∃ (ad:Qay) (f:Nat->It) (E:Nat->Option Qay) (ca:Nat->Nat),(0<n->A=some ad/\ad.block<w.heap.size)/\(∀ i x,xs[i]? = some x->f i=x)/\∀ i,i<n->At5 w (ad.add (i*5)) (f i) (.slice (E i) (f i).2.2.length (ca i)):=by{
 subst hn;have h2:∀ i,∃ g:It×Option Qay×Nat,∀ x,xs[i]? = some x->g.1=x/\∃ ad,A=some ad/\ad.block<w.heap.size/\At5 w (ad.add (i*5)) x (.slice g.2.1 x.2.2.length g.2.2):=fun i=>by
  cases hx:xs[i]? with
  | none=>exact⟨(((0,0,0),0,[]),none,0),fun x e=>by cases e⟩
  | some x =>
   obtain⟨ad,E,ce,rfl,hok,h5,_⟩:=Zah h hx;exact⟨(x,E,ce),fun y e=>by cases e;exact⟨rfl,ad,rfl,by have:=h5.lt;rwa [Zh] at this,h5⟩⟩
 obtain⟨g,hg⟩:∃ g:Nat->It×Option Qay×Nat,∀ i x,xs[i]? = some x->(g i).1=x/\∃ ad,A=some ad/\ad.block<w.heap.size/\At5 w (ad.add (i*5)) x (.slice (g i).2.1 x.2.2.length (g i).2.2) :=
  ⟨fun i=>Classical.choose (h2 i),fun i=>Classical.choose_spec (h2 i)⟩
 rcases A with _ | ad
 ·refine⟨⟨0,0,none⟩,fun i=>(g i).1,fun i=>(g i).2.1,fun i=>(g i).2.2,fun h0=> ?_,fun i x hi=>(hg i x hi).1,fun i hi=> ?_⟩
  ·obtain⟨_,_,e,_⟩:=hg 0 _ (Qc h0)
   cases e
  ·obtain⟨_,_,e,_⟩:=hg i _ (Qc hi)
   cases e
 ·refine⟨ad,fun i=>(g i).1,fun i=>(g i).2.1,fun i=>(g i).2.2,fun h0=> ?_,fun i x hi=>(hg i x hi).1,fun i hi=> ?_⟩
  ·obtain⟨_,_,e,hb,_⟩:=hg 0 _ (Qc h0)
   cases e;exact⟨rfl,hb⟩
  ·obtain⟨e1,_,e,_,h5⟩:=hg i _ (Qc hi)
   cases e;rw[<- e1] at h5;exact h5}
def Zmw (lv:Int) (f:Nat->It) (pre:List Nat):List Rf:=Zj1 lv (pre.map f)
theorem Zzq {lv:Int}{f:Nat->It}{pre:List Nat}{x:Nat}(h:(f x).2.1=0):Zmw lv f (pre++[x])=Zmw lv f pre:=by
 rw[Zmw,Qau,Zuc,Ph,Qav,Zjl h,Ztt,Qap];rfl
theorem Zw3 {lv:Int}{f:Nat->It}{pre:List Nat}{x:Nat}(h:(f x).2.1≠0):Zmw lv f (pre++[x])=Zmw lv f pre++[((f x).2.1,lv)]:=by
 rw[Zmw,Qau,Zuc,Ph,Qav,Zi7 h,Ztt];rfl
theorem Zyt {f:Nat->It}{xs:List It}(h:∀ i x,xs[i]? = some x->f i=x):(V5 xs.length xs.length).map f=xs.reverse:=by
 refine Qad (by simp[V5]) fun i h1 h2=> ?_
 have hi:i<xs.length:=by simpa using h2
 simp only[V5,List.map_map,List.getElem_map,List.getElem_range,Function.comp,List.getElem_reverse];exact h _ _ (Qc (by omega))
theorem Z1k (lv:Int) (l:List It):Zj1 lv l.reverse=(Zj1 lv l).reverse:=by simp[Zj1,List.filter_reverse]
theorem Z4g {lv:Int}{f:Nat->It}{xs:List It}(h:∀ i x,xs[i]? = some x->f i=x):Zmw lv f (V5 xs.length xs.length)=(Zj1 lv xs).reverse:=by
 rw[Zmw,Zyt h,Z1k]
end Go.Proofs.YtgmbjnajdfgenaaGreat
