/-
  Lemmas on the program and on the document's answers, gathered: Room, RmChk, RmFree, RmTake, RmShare, RmNode, FnPlain, DrPlain, FnKeep, FnSpan, Spoil05, NdBag, FnPlace, WkPlain, WkMarks, PtKeep, PtEnough, PtMake, PtLists, PtBuilt, PtGrow, PtGrown, PtPut, RmSame, CntWrite, CntRefW, StoZero, RmAlive, RmLaw, FnLeaf, RmRefN, FnInner, FnTree, FnOne, WkApp, PuStep, PuItems, DrStack, RmTwin, DrHold, RmRefT, DrMake, DrRefer, DrRefs. Conditions: those that each lemma states.
-/
import Derived.Test.YtgmbjnajdfgenaaGreatBnd2
import Derived.Maps.AppendAt
import Derived.RangeFuncBox
import Derived.Sort.QuietIn
import Derived.Sort.CutIn
set_option maxRecDepth 100000
set_option maxHeartbeats 16000000
open Array renaming getElem?_eq_some_iff → Q5, replicate_succ → Pa, replicate_zero → Pb, getElem?_modify → Px
open Bool renaming and_eq_true → Qd, or_eq_true → Qae
open Go renaming World → Qaw, Value → Qax, Addr → Qay, TypeId → Qaz, bodyPost_ret → Qa0, heap_alloc_new → Qa1, Calls → Qa2
open Go.Act renaming put → Qh
open Go.RowKit renaming Below → Qa3
open Go.RowKit.Below renaming refl → Qb
open Go.World renaming cell? → Qn, size_alloc → Qs, frozen? → Pv, setCell → Pw, cell?_of_block → Qaq
open List renaming getElem?_eq_getElem → Qc, mem_cons → Qe, mem_cons_of_mem → Qf, mem_cons_self → Qg, mem_filter → Qi, getElem?_eq_some_iff → Qj, mem_flatMap → Qk, mem_singleton → Ql, getElem?_of_mem → Qm, cons_append → Qo, mem_append → Qp, length_cons → Qr, mem_of_getElem? → Qt, pairwise_cons → Qu, flatMap_cons → Qv, mem_reverse → Qw, all_eq_true → Qx, take_append_drop → Qy, mem_of_find?_eq_some → Q0, length_set → Q3, getElem?_drop → Q4, size_toArray → Q6, length_nil → Q7, push_toArray → Pc, append_toArray → Pd, nil_append → Pe, mem_map → Pf, mem_append_right → Pg, map_cons → Ph, pairwise_append → Pi, take_append_getElem → Pj, mem_of_mem_take → Pk, getElem?_eq_none → Pm, mem_of_getLast? → Pn, length_take → Pp, filter_eq_self → Pq, mem_append_left → Pr, exists_cons_of_ne_nil → Ps, flatMap_append → Pt, length_drop → Pu, filter_congr → Py, getLast?_eq_some_getLast → Pz, Pairwise → P1, mem_of_mem_drop → P3, sum_cons → P4, take_succ_cons → P5, take_zero → P7, drop_succ_cons → P8, drop_zero → P9, length_append → Qaa, find?_append → Qab, find?_cons → Qac, ext_getElem → Qad, filter_append → Qaf, filter_eq_nil_iff → Qag, mem_iff_getElem? → Qah, reverse_append → Qai, take_of_length_le → Qaj, eq_nil_of_length_eq_zero → Qak, nodup_cons → Qal, filter_cons_of_pos → Qam, filter_filter → Qan, drop_eq_getElem_cons → Qao, append_nil → Qap, ext_getElem? → Qar, getElem?_map → Qas, length_map → Qat, map_append → Qau, map_nil → Qav
open Nat renaming le_refl → Qa, lt_of_lt_of_le → Qq, le_trans → Qz, reduceAdd → Q8, reduceSub → Q9, lt_or_ge → Po
noncomputable section
namespace Go.Proofs.YtgmbjnajdfgenaaGreat
open Go.ChangeShapes Go.WideShapes Go.RowKit
def Yb9:Rel Rm:=Zjw Yaf (Zjw rBy rBy)
def Sto (ok:Qay->Prop) (w:Qaw) (v:Qax) (s:Rm):Prop:=∃ a b n l,v=.agg #[a,b,n,l]/\Dsk ok w (.agg #[a,b]) s.1/\rBy ok w [n] s.2.1/\rBy ok w [l] s.2.2
section
variable {ok ok' : Qay -> Prop}{w w' : Qaw}{v : Qax}{s : Rm}{lo lo' : Nat}
theorem Sto.map (hk:∀ p v,ok p->w.cell? p=some v->ok' p/\w'.cell? p=some v) (h:Sto ok w v s):Sto ok' w' v s:=by
 obtain⟨a,b,n,l,e,h1,h2,h3⟩:=h;exact⟨a,b,n,l,e,h1.map hk,Zf _ _ _ _ _ _ hk h2,Zf _ _ _ _ _ _ hk h3⟩
theorem Sto.below (h:Sto (Old w) w v s) (hb:Qa3 w.heap.size w w'):Sto (Old w') w' v s :=
 h.map fun _ _ hp hc=>⟨Qq hp hb.size,(hb.cell hp).trans hc⟩
theorem Sto.drop (h:Sto (New lo w) w v s):Sto (Old w) w v s:=h.map fun _ _ hp hc=>⟨hp.2.1,hc⟩
theorem Sto.new (h:Sto (New lo w) w v s) (hl:lo'<=lo) (hb:Qa3 w.heap.size w w'):Sto (New lo' w') w' v s :=
 h.map fun _ _ hp hc=>⟨⟨Qz hl hp.1,Qq hp.2.1 hb.size,(hb.frozen hp.2.1).trans hp.2.2⟩,(hb.cell hp.2.1).trans hc⟩
theorem Sto.grown {row:Option Nat}(h:Sto (New lo w) w v s) (hg:w.grownBy w' row) (hr:∀ q,row=some q->q<lo):Sto (New lo w') w' v s:=by
 obtain⟨a,b,n,l,e,h1,h2,h3⟩:=h;exact⟨a,b,n,l,e,h1.grown hg hr,Zf.grown h2 hg hr,Zf.grown h3 hg hr⟩
theorem Sto.open (h:Sto ok w v s):∃ A ca B cb N cn L cl,v=.agg #[.slice A s.1.1.length ca,.slice B s.1.2.length cb,.slice N s.2.1.length cn,.slice L s.2.2.length cl]/\Dsk ok w (.agg #[.slice A s.1.1.length ca,.slice B s.1.2.length cb]) s.1 /\
  rBy ok w [.slice N s.2.1.length cn] s.2.1/\rBy ok w [.slice L s.2.2.length cl] s.2.2:=by
 obtain⟨a,b,n,l,rfl,h1,h2,h3⟩:=h;obtain⟨A,ca,B,cb,e,_⟩:=h1.open;cases e;obtain⟨N,cn,rfl,_⟩:=Zt h2;obtain⟨L,cl,rfl,_⟩:=Zt h3;exact⟨A,ca,B,cb,N,cn,L,cl,rfl,h1,h2,h3⟩
theorem Sto.parts {a b n l:Qax}(h:Sto ok w (.agg #[a,b,n,l]) s):Dsk ok w (.agg #[a,b]) s.1/\rBy ok w [n] s.2.1/\rBy ok w [l] s.2.2:=by
 obtain⟨_,_,_,_,e,h1,h2,h3⟩:=h;cases e;exact⟨h1,h2,h3⟩
theorem Sto.mk {a b n l:Qax}(h1:Dsk ok w (.agg #[a,b]) s.1) (h2:rBy ok w [n] s.2.1) (h3:rBy ok w [l] s.2.2):Sto ok w (.agg #[a,b,n,l]) s:=⟨a,b,n,l,rfl,h1,h2,h3⟩
end
theorem Yv (ok:Qay->Prop) (w:Qaw):Sto ok w (.agg #[.slice none 0 0,.slice none 0 0,.slice none 0 0,.slice none 0 0]) Zj :=
 ⟨_,_,_,_,rfl,⟨_,_,rfl,⟨none,0,rfl,by simp[Zj,Zc5],by omega,fun i x h=>by simp[Zj,Zc5] at h⟩,⟨none,0,rfl,by simp[Zj,Zc5],by omega,fun i x h=>by simp[Zj,Zc5] at h⟩⟩,
  ⟨none,0,rfl,by simp[Zj],by omega,fun i x h=>by simp[Zj] at h⟩,⟨none,0,rfl,by simp[Zj],by omega,fun i x h=>by simp[Zj] at h⟩⟩
theorem X4 (w:Qaw) (a b c d:Qax) (t:Qaz):∃ w1,w.alloc (.cells #[a,b,c,d] t)=w1/\w1.heap[w.heap.size]? = some (.cells #[a,b,c,d] t (0,0))/\w1.heap.size=w.heap.size+1/\Qa3 w.heap.size w w1 :=
 ⟨_,rfl,Qa1 _ _,by simp,(Qb _ _).alloc (Qa _) _⟩
theorem Ze {W:Qaw}{g:Nat}{a b c d:Qax}{t:Qaz}(h:W.heap[g]? = some (.cells #[a,b,c,d] t (0,0))):W.cell? ⟨g,0,none⟩=some a/\W.cell? ⟨g,1,none⟩=some b/\W.cell? ⟨g,2,none⟩=some c/\W.cell? ⟨g,3,none⟩=some d/\(∀ o,W.frozen? ⟨g,o,none⟩=false)/\g<W.heap.size :=
 ⟨by simp[Qn,h],by simp[Qn,h],by simp[Qn,h],by simp[Qn,h],fun o=>by simp[Pv,h],(Q5.1 h).1⟩
theorem Zu {W:Qaw}{g:Nat}{a b c d a' b' c' d':Qax}{t:Qaz}(h:W.heap[g]? = some (.cells #[a,b,c,d] t (0,0))):∃ W1,(((W.setCell ⟨g,0,none⟩ a').setCell ⟨g,1,none⟩ b').setCell ⟨g,2,none⟩ c').setCell ⟨g,3,none⟩ d'=W1 /\
  W1.heap[g]? = some (.cells #[a',b',c',d'] t (0,0))/\W.grownBy W1 (some g)/\W1.heap.size=W.heap.size :=
 ⟨_,rfl,by simp[Pw,Px,h],Yq (p:=⟨g,3,none⟩) (Yq (p:=⟨g,2,none⟩) (Yq (p:=⟨g,1,none⟩) (Yq (p:=⟨g,0,none⟩) (Xa W (some g)) rfl a') rfl b') rfl c') rfl d',by simp⟩
def Z4w (g:Nat) (a b c d:Qax):Qaw->Prop:=fun w=>w.cell? ⟨g,0,none⟩=some a/\w.cell? ⟨g,1,none⟩=some b/\w.cell? ⟨g,2,none⟩=some c/\w.cell? ⟨g,3,none⟩=some d/\g<w.heap.size
theorem V6 (g:Nat) (a b c d:Qax):Ze0 (Z4w g a b c d):=fun _ _ h hb=>⟨(hb.cell (p:=⟨g,0,none⟩) h.2.2.2.2).trans h.1,(hb.cell (p:=⟨g,1,none⟩) h.2.2.2.2).trans h.2.1,(hb.cell (p:=⟨g,2,none⟩) h.2.2.2.2).trans h.2.2.1,(hb.cell (p:=⟨g,3,none⟩) h.2.2.2.2).trans h.2.2.2.1,Qq h.2.2.2.2 hb.size⟩
theorem Uc {w w1:Qaw}{Fs:List (Qaw->Prop)}(h:Bag w Fs) (hb:Qa3 w.heap.size w w1) (a b c d:Qax) (t:Qaz):∃ w',w1.alloc (.cells #[a,b,c,d] t)=w'/\Bag w' (Z4w w1.heap.size a b c d::Fs)/\Qa3 w.heap.size w w'/\Qa3 w1.heap.size w1 w'/\w1.heap.size<w'.heap.size:=by
 obtain⟨w2,e2,b2,k4,k5⟩:=X4 w1 a b c d t;obtain⟨k0,k1,k2,k3,_,k6⟩:=Ze b2;exact⟨w2,e2,((h.below hb).below k5).add ⟨k0,k1,k2,k3,k6⟩ (V6 _ _ _ _ _),hb.trans (k5.mono hb.size),k5,by omega⟩
def Zl2 (v:Qax) (s:Rm):Qaw->Prop:=fun w=>Sto (Old w) w v s
theorem Xn (v:Qax) (s:Rm):Ze0 (Zl2 v s):=fun _ _ h hb=>h.below hb
theorem Zn8:Zc8 Tryz.prog 27 rBy:=Zht Tryz.underlying27 (by kernel_rfl) (Zm1 Tryz.underlying5)
theorem Zrv:Zc8 Tryz.prog 29 Yb9:=Zg6 Tryz.underlying29 (Zcm rfl Zwg (Zcm (by kernel_rfl) Zn8 (Zlk (by kernel_rfl) (by kernel_rfl) Zn8)))
theorem Zyb {ok:Qay->Prop}{w:Qaw}{cs:List Qax}{s:Rm}(h:Yb9 ok w cs s):∃ a b n l,cs=[a,b,n,l]/\Dsk ok w (.agg #[a,b]) s.1/\rBy ok w [n] s.2.1/\rBy ok w [l] s.2.2:=by
 obtain⟨_,_,rfl,⟨_,_,rfl,h1,h2⟩,_,_,rfl,h3,h4⟩:=h;obtain⟨A,ca,rfl,h1'⟩:=h1;obtain⟨B,cb,rfl,h2'⟩:=h2;obtain⟨N,cn,rfl,h3'⟩:=h3;obtain⟨L,cl,rfl,h4'⟩:=h4;exact⟨_,_,_,_,rfl,⟨_,_,rfl,⟨A,ca,rfl,h1'⟩,⟨B,cb,rfl,h2'⟩⟩,⟨N,cn,rfl,h3'⟩,⟨L,cl,rfl,h4'⟩⟩
theorem Zu4 {H:Type}{enc:Qaz×Qax->H}{w:Qaw}{b0:Nat}{spare:Nat->Bool}{held:Bool}{r:Reach}{v:Qax}{x:DataW H}{ps:List MemPlace}(hval:Value.okWide Tryz.prog w r b0 29 v) (hd:DataW.Trod enc Tryz.prog w 0 spare held 29 v x ps) :
  ∃ s,Sto (Old w) w v s:=by
 obtain⟨cs,rfl,_⟩:=okWide_struct Tryz.underlying29 hval;obtain⟨s,hs⟩:=Zsz Zrv hd;obtain⟨a,b,n,l,h1,h2,h3,h4⟩:=Zyb hs;exact⟨s,a,b,n,l,by obtain⟨cs⟩:=cs;simp[Value.cells] at h1;rw[h1],h2,h3,h4⟩
theorem Ziq (v:Qax) (t:List UInt8) (w:Qaw) (h:rBy (Old w) w [v] t):Qa2 Tryz.prog 122 #[v] w fun e w'=>e=.returned (.int .i64 (Z4s t))/\w=w':=by
 obtain⟨A,c,rfl,l1,m1,hb⟩:=Vf (B:=w.heap.size) (fun _ h=>h) h;exact Zay A t.length c t (Za rfl) l1 m1 w hb
theorem Zlv {w:Qaw}{v:Qax}{s:Rm}(h:Sto (Old w) w v s):∃ A ca B cb N cn L cl w1,v=.agg #[.slice A s.1.1.length ca,.slice B s.1.2.length cb,.slice N s.2.1.length cn,.slice L s.2.2.length cl] /\
  w.alloc (.cells #[.slice A s.1.1.length ca,.slice B s.1.2.length cb,.slice N s.2.1.length cn,.slice L s.2.2.length cl] 29)=w1/\w1.heap[w.heap.size]? = some (.cells #[.slice A s.1.1.length ca,.slice B s.1.2.length cb,.slice N s.2.1.length cn,.slice L s.2.2.length cl] 29 (0,0))/\w1.heap.size=w.heap.size+1/\Qa3 w.heap.size w w1 /\
  Hid (Dsk (Old w1) w1 (.agg #[.slice A s.1.1.length ca,.slice B s.1.2.length cb]) s.1)/\Hid (rBy (Old w1) w1 [.slice N s.2.1.length cn] s.2.1)/\Hid (rBy (Old w1) w1 [.slice L s.2.2.length cl] s.2.2):=by
 obtain⟨A,ca,B,cb,N,cn,L,cl,rfl,hd,hN,hL⟩:=h.open;obtain⟨w1,hw1,f,hs,hB⟩:=X4 w (.slice A s.1.1.length ca) (.slice B s.1.2.length cb) (.slice N s.2.1.length cn) (.slice L s.2.2.length cl) 29;exact⟨A,ca,B,cb,N,cn,L,cl,w1,rfl,hw1,f,hs,hB,Za (hd.below hB),Za (Zf.old hN hB),Za (Zf.old hL hB)⟩
theorem Xe (v:Qax) (s:Rm) (w:Qaw) (h:Sto (Old w) w v s):Qa2 Tryz.prog 78 #[v] w fun e w'=>e=.returned (.int .i64 (Z2i s))/\Qa3 w.heap.size w w':=by{
 obtain⟨A,ca,B,cb,N,cn,L,cl,w1,rfl,hw1,f,hsz,hB,D,NN,LL⟩:=Zlv h;clear h;obtain⟨k0,k1,k2,k3,_,kg⟩:=Ze f;replace hsz:=Za hsz;cases h1:Zbm s.1 with
 | false =>
  have hr:Hid (Z2i s=8):=Za (Zd3 (by simp[Xm,h1]));have e1:=Ze2 h1
  go_enter Tryz.func78,Tryz.ntmps78
  go_upto_region 1 with fail
  clear hw1
  go_wp2_with fail
  with_reducible refine(Zb5 _ s.1 _ D.out).mono ?_
  rintro e w2 ⟨rfl,hb2⟩;rw[e1]
  go_wp2_with fail
  go_ret;exact⟨Zz hr.out.symm,hB.trans (hb2.mono hB.size)⟩
 | true =>
  have e1:=Zy4 h1;cases h2:Zbj s.2.1 with
  | false =>
   have hr:Hid (Z2i s=8):=Za (Zd3 (by simp[Xm,h2]));have e2:=Zhk h2
   go_enter Tryz.func78,Tryz.ntmps78
   go_upto_region 1 with fail
   clear hw1
   go_wp2_with fail
   with_reducible refine(Zb5 _ s.1 _ D.out).mono ?_
   rintro e w2 ⟨rfl,hb2⟩;rw[e1];replace k2:=(hb2.cell (p:=⟨w.heap.size,2,none⟩) kg).trans k2;have N2:=Za (Zf.old NN.out hb2);replace hb2:=Za (hB.trans (hb2.mono hB.size))
   go_wp2_with fail
   with_reducible refine(Ziq _ s.2.1 _ N2.out).mono ?_
   rintro e w3 ⟨rfl,rfl⟩;rw[e2]
   go_wp2_with fail
   go_ret;exact⟨Zz hr.out.symm,hb2.out⟩
  | true =>
   have e2:=Zh9 h2;obtain⟨q,hq,hr⟩:∃ q,Z4s s.2.2=q/\Hid (Z2i s=q):=⟨_,rfl,Za (by simp[Z2i,Z4s,Xm,h1,h2])⟩
   obtain⟨p,hp1,hp2⟩:∃ p,(q != 0)=p/\(p=true->q=8)/\(p=false->q=0):=⟨_,rfl,by
    rw[<- hq];unfold Z4s
    split <;> simp⟩
   go_enter Tryz.func78,Tryz.ntmps78
   go_upto_region 1 with fail
   clear hw1
   go_wp2_with fail
   with_reducible refine(Zb5 _ s.1 _ D.out).mono ?_
   rintro e w2 ⟨rfl,hb2⟩;rw[e1];replace k2:=(hb2.cell (p:=⟨w.heap.size,2,none⟩) kg).trans k2;replace k3:=(hb2.cell (p:=⟨w.heap.size,3,none⟩) kg).trans k3;have N2:=Za (Zf.old NN.out hb2);have L2:=Za (Zf.old LL.out hb2);replace hb2:=Za (hB.trans (hb2.mono hB.size))
   go_wp2_with fail
   with_reducible refine(Ziq _ s.2.1 _ N2.out).mono ?_
   rintro e w3 ⟨rfl,rfl⟩;rw[e2]
   go_wp2_with fail
   with_reducible refine(Ziq _ s.2.2 _ L2.out).mono ?_
   rintro e w3 ⟨rfl,rfl⟩;rw[hq];replace hq:=Za hq;cases p with
   | true =>
    have h8:=Za (hp2.1 rfl);clear hp2
    go_wp2_with fail
    go_ret;exact⟨Zz (by rw[hr.out,h8.out]),hb2.out⟩
   | false =>
    have h0:=Za (hp2.2 rfl);clear hp2
    go_wp2_with fail
    go_ret;exact⟨Zz (by rw[hr.out,h0.out]),hb2.out⟩}
def Zuc (s:Rm):Bool:=Zdp s.1||decide (10000<s.2.1.length)||decide (10000<s.2.2.length)
theorem Zwm (v:Qax) (s:Rm) (w:Qaw) (h:Sto (Old w) w v s):Qa2 Tryz.prog 14 #[v] w fun e w'=>e=.returned (.bool (Zuc s))/\Qa3 w.heap.size w w':=by{
 obtain⟨A,ca,B,cb,N,cn,L,cl,w1,rfl,hw1,f,hsz,hB,D,_,_⟩:=Zlv h;clear h;obtain⟨k0,k1,k2,k3,_,kg⟩:=Ze f;replace hsz:=Za hsz;obtain⟨n,hn⟩:∃ n,s.2.1.length=n:=⟨_,rfl⟩
 obtain⟨l,hl⟩:∃ l,s.2.2.length=l:=⟨_,rfl⟩
 have hr:Hid (Zuc s=(Zdp s.1||decide ((10000:Int)<n)||decide ((10000:Int)<l))):=Za (by
  unfold Zuc
  rw[hn,hl,show decide (10000<n)=decide ((10000:Int)<n) from decide_eq_decide.2 (by omega),show decide (10000<l)=decide ((10000:Int)<l) from decide_eq_decide.2 (by omega)])
 rw[hn] at k2;rw[hn,hl] at hw1 ⊢;rw[hl] at k3;clear hn hl;obtain⟨g,hg⟩:∃ g,Zdp s.1=g:=⟨_,rfl⟩
 rw[hg] at hr
 go_enter Tryz.func14,Tryz.ntmps14
 go_upto_region 1 with fail
 clear hw1
 go_wp2_with fail
 with_reducible refine(Zxc _ s.1 _ D.out).mono ?_
 rintro e w2 ⟨rfl,hb2⟩;rw[hg];replace k2:=(hb2.cell (p:=⟨w.heap.size,2,none⟩) kg).trans k2;replace k3:=(hb2.cell (p:=⟨w.heap.size,3,none⟩) kg).trans k3;replace hb2:=Za (hB.trans (hb2.mono hB.size));replace hg:=Za hg;cases g with
 | true =>
  go_wp2_with fail
  go_ret;exact⟨Ym (by rw[hr.out];rfl),hb2.out⟩
 | false =>
  by_cases hn:(10000:Int)<n
  ·go_wp2_with fail
   go_ret;exact⟨Ym (by rw[hr.out];simp[hn]),hb2.out⟩
  ·by_cases hl:(10000:Int)<l
   ·go_wp2_with fail
    go_ret;exact⟨Ym (by rw[hr.out];simp[hl]),hb2.out⟩
   ·go_wp2_with fail
    go_ret;exact⟨Ym (by rw[hr.out];simp),hb2.out⟩}
theorem Zg8 (n:Int) (w:Qaw):Qa2 Tryz.prog 110 #[.int .i64 n] w fun e w'=>e=.returned (.bool (inT n))/\w=w':=by{
 rcases Z6j n with ⟨h,hr⟩ | ⟨h,h2,hr⟩ | ⟨h,h2,hr⟩
 all_goals
  replace hr:=Za hr
  go_enter Tryz.func110,Tryz.ntmps110
  go_wp2_with fail
  go_ret;exact⟨Ym (by first | exact hr.out.symm | (rw[hr.out];simp;omega)),rfl⟩}
theorem Ue (v:Qax) (s:Rm) (n:Int) (w:Qaw) (h:Sto (Old w) w v s):Qa2 Tryz.prog 66 #[v,.int .i64 n] w fun e w'=>e=.returned (.int .i64 (asE s n))/\Qa3 w.heap.size w w':=by{
 have H0:=Za h;obtain⟨A,ca,B,cb,N,cn,L,cl,w1,rfl,hw1,f,hsz,hB,_,NN,_⟩:=Zlv h;have H:=Za (h.below hB);clear h H0;obtain⟨k0,k1,k2,k3,_,kg⟩:=Ze f;replace hsz:=Za hsz;rcases Zit s n with ⟨hm,he⟩ | ⟨hm,hn,he⟩ | ⟨k,hm,rfl,h8,h256,hx,he⟩ | ⟨k,hm,rfl,h8,h256,hx,he⟩
 ·replace he:=Za he
  have e1:=Zd3 hm
  go_enter Tryz.func66,Tryz.ntmps66
  go_upto_region 1 with fail
  clear hw1
  go_wp2_with fail
  with_reducible refine(Xe _ s _ H.out).mono ?_
  rintro e w2 ⟨rfl,hb2⟩;rw[e1];replace hb2:=Za (hB.trans (hb2.mono hB.size))
  go_wp2_with fail
  go_ret;exact⟨Zz he.out.symm,hb2.out⟩
 ·replace he:=Za he
  have e1:=Zcv hm;have hi:inT n=false:=by
   cases hi:inT n with
   | false=>rfl
   | true=>obtain⟨k,rfl,h8,h256⟩:=Zm8 hi;omega
  go_enter Tryz.func66,Tryz.ntmps66
  go_upto_region 1 with fail
  clear hw1
  go_wp2_with fail
  with_reducible refine(Xe _ s _ H.out).mono ?_
  rintro e w2 ⟨rfl,hb2⟩;rw[e1];replace hb2:=Za (hB.trans (hb2.mono hB.size))
  go_wp2_with fail
  with_reducible refine(Zg8 n _).mono ?_
  rintro e w3 ⟨rfl,rfl⟩;rw[hi]
  go_wp2_with fail
  go_ret;exact⟨Zz he.out.symm,hb2.out⟩
 all_goals
  replace he:=Za he;have e1:=Zcv hm;have hi:=Zpi h8 h256;have hlen:=Yw (Ye hm).2.1;obtain⟨A',c',e2,l1,m1,hby⟩:=Vf (B:=w1.heap.size) (fun _ h=>h) NN.out;cases e2;obtain⟨ad,rfl,hbk,hc⟩:=hby (by omega)
  have hcell:=hc k (by omega);replace hbk:(ad.add k).block<w1.heap.size:=by rw[Zh];exact hbk
  obtain⟨x,hx2⟩:∃ x,s.2.1[k]?.getD 0=x:=⟨_,rfl⟩
  rw[hx2] at hcell hx;have hlt:k<s.2.1.length:=by omega
  first
   | have t0:=Vh (y:=0) (q:=0) rfl hx
   | have t0:=Xs (y:=0) (q:=0) rfl hx
  replace hx2:=Za hx2;replace hx:=Za hx;replace hlen:=Za hlen;clear hc hby
  go_enter Tryz.func66,Tryz.ntmps66
  go_upto_region 1 with fail
  clear hw1
  go_wp2_with fail
  with_reducible refine(Xe _ s _ H.out).mono ?_
  rintro e w2 ⟨rfl,hb2⟩;rw[e1];replace k2:=(hb2.cell (p:=⟨w.heap.size,2,none⟩) kg).trans k2;replace hcell:=(hb2.cell hbk).trans hcell;replace hb2:=Za (hB.trans (hb2.mono hB.size))
  go_wp2_with fail
  with_reducible refine(Zg8 (k:Int) _).mono ?_
  rintro e w3 ⟨rfl,rfl⟩;rw[hi]
  go_wp2_with fail
  go_ret;exact⟨Zz he.out.symm,hb2.out⟩}
end Go.Proofs.YtgmbjnajdfgenaaGreat
namespace Go.Proofs.YtgmbjnajdfgenaaGreat
open Go.RowKit Go.Shelf
attribute [local go_sem] Oper.semAt_some
theorem Zzr (s:Rm) (k j:Nat):∃ r,Zbw s (k+j)=Zbw s k++r:=by{
 induction j with
 | zero=>exact⟨[],by simp⟩
 | succ j ih =>
  obtain⟨r,hr⟩:=ih;exact⟨r++(if U5 s (8+(k+j)) then [8+(k+j)] else []),by rw[<- Nat.add_assoc,Zgg,hr,List.append_assoc]⟩}
theorem Zoi {s:Rm}{k:Nat}(h:U5 s (8+k)=true):Zbw s (k+1)=Zbw s k++[8+k]:=by rw[Zgg,h];rfl
theorem Zuf {s:Rm}{k:Nat}(h:U5 s (8+k)=false):Zbw s (k+1)=Zbw s k:=by rw[Zgg,h];simp
theorem Z3h {s:Rm}{k:Nat}(hk:k<248) (h:U5 s (8+k)=true):∃ r,Xz s=Zbw s k++(8+k)::r:=by
 obtain⟨r,hr⟩:=Zzr s (k+1) (247-k);refine⟨r,?_⟩;rw[Xz,show 248=k+1+(247-k) by omega,hr,Zoi h];simp
theorem Zvk {s:Rm}{i:Nat}(h:s.2.1[i]?.getD 0≠0):U5 s i=false:=by simp[U5,h]
theorem Zv5 {s:Rm}{i:Nat}(h:s.2.2[i]?.getD 0≠0):U5 s i=false:=by simp[U5,h]
theorem Zwr {s:Rm}{i:Nat}(h:s.2.1[i]?.getD 0=0) (h':s.2.2[i]?.getD 0=0):U5 s i=true:=by simp[U5,h,h']
theorem Z4j (F:Fence) (n:Nat) (hf:F.fn 179) (hro:F.round=none) (hn:1<=n) (l Bs n₀:Nat) (s:Rm) (ad bd:Qay) (cn cl:Nat) (_cn1:256<=cn) (_cl1:256<=cl) (hBn:Bs<n₀) (hab:ad.block<n₀) (hbb:bd.block<n₀) (J Jx:List Nat->Qaw->Prop)
  (hY:∀ (pre:List Nat) (x:Nat) (W1:Qaw),J pre W1->pre.length<248->YieldAt F (n-1) Tryz.prog l #[.int .i64 (x:Int)] W1 fun e W' =>
   (e=.returned (.bool true)/\J (pre++[x]) W'/\Qa3 n₀ W1 W')\/(e=.returned (.bool false)/\Jx (pre++[x]) W'))
  (W:Qaw) (hb2:W.cell? ⟨Bs,2,none⟩=some (.slice (some ad) 256 cn)) (hb3:W.cell? ⟨Bs,3,none⟩=some (.slice (some bd) 256 cl))
  (hc:∀ j,j<256->W.cell? (ad.add j)=some (.int .u8 ((s.2.1[j]?.getD 0).toNat:Int))/\W.cell? (bd.add j)=some (.int .u8 ((s.2.2[j]?.getD 0).toNat:Int))) (h0:J [] W) :
  CallsIn F n Tryz.prog 179 #[.func (.yield l) #[] #[],.pointer (some ⟨Bs,0,none⟩)] W fun e W'=>(∃ v,e=.returned v) /\
   ((∃ ys,ys=Xz s/\J ys W')\/(∃ pre,(∃ k,k<248/\U5 s (8+k)=true/\pre=Zbw s k++[8+k])/\Jx pre W')):=by{
 refine callsIn_of_wp Tryz.func179 rfl hf ?_ hro;simp only[Tryz.ntmps179,Q6,Qr,Q7,Q8,Q9,Pa,Pb,Pc,Pd,Pe,Qo];have HC:=Za hc;clear hc
 gi_wp2
 gi_loopw [3] (fun i wr=>∃ k:Nat,k<=248/\i=.int .i64 ((8+k:Nat):Int)/\J (Zbw s k) wr/\Qa3 n₀ W wr) (fun i _=>(256-intOf i).toNat)
 case atStart=>exact⟨0,Nat.zero_le _,by simp,h0,Qb _ _⟩
 case round =>
  obtain⟨k,hk,rfl,hJs,hnx⟩:=hrel;have b2:=(hnx.cell (p:=⟨Bs,2,none⟩) hBn).trans hb2;have b3:=(hnx.cell (p:=⟨Bs,3,none⟩) hBn).trans hb3;by_cases hlt:k<248
  ·have hx:=HC.out (8+k) (by omega)
   have c1:=(hnx.cell (p:=ad.add (8+k)) (by rw[Zh];exact hab)).trans hx.1;have c2:=(hnx.cell (p:=bd.add (8+k)) (by rw[Zh];exact hbb)).trans hx.2;clear hx;have hlen:=Z0m s k;have hi:8+k<256:=by omega
   have hno1:=Za (fun h=>Zuf (Zvk (s:=s) (i:=8+k) h));have hno2:=Za (fun h=>Zuf (Zv5 (s:=s) (i:=8+k) h));have hyes:=Za (fun h h'=>Zwr (s:=s) (i:=8+k) h h');obtain⟨x,hx⟩:∃ x,s.2.1[8+k]?.getD 0=x:=⟨_,rfl⟩
   obtain⟨y,hy⟩:∃ y,s.2.2[8+k]?.getD 0=y:=⟨_,rfl⟩
   rw[hx] at c1 hno1 hyes;rw[hy] at c2 hno2 hyes;replace hx:=Za hx;replace hy:=Za hy;obtain⟨i,hi2⟩:∃ i,8+k=i:=⟨_,rfl⟩
   have hi3:Hid (8+k=i):=Za hi2;rw[hi2] at c1 c2 hi hyes ⊢;clear hi2;by_cases h0:x=0
   ·by_cases h1:y=0
    ·have t0:=Vh (y:=0) (q:=0) rfl h0
     have t1:=Vh (y:=0) (q:=0) rfl h1;have hfr:=Za (hyes.out h0 h1);have hfk:=Za (Zoi (s:=s) (k:=k) (by rw[hi3.out];exact hfr.out));replace h0:=Za h0;replace h1:=Za h1;obtain⟨fn,tmps,assign,body,hyy,hR⟩:=hY _ i wr hJs (by omega)
     try dsimp only at hyy
     gi_wp2
     refine hR.mono ?_;rintro e W3 (⟨rfl,hJ3,hk3⟩ | ⟨rfl,hJx3⟩)
     ·gi_wp2
      go_roundw
      case rel=>exact⟨k+1,by omega,by have:=hi3.out;go_num,by rw[hfk.out,hi3.out];exact hJ3,hnx.trans hk3⟩
      case measure=>simp[intOf];omega
     ·gi_wp2
      refine Qa0 (results_none rfl _ _ _) rfl ?_;exact⟨⟨_,rfl⟩,.inr ⟨_,⟨k,hlt,by rw[hi3.out];exact hfr.out,rfl⟩,by rw[hi3.out];exact hJx3⟩⟩
    ·have t0:=Vh (y:=0) (q:=0) rfl h0
     have t1:=Xs (y:=0) (q:=0) rfl h1;have hfk:=Za (hno2.out h1);replace h0:=Za h0;replace h1:=Za h1
     gi_wp2
     try (refine⟨fun _ h=>(by cases h),?_⟩;gi_wp2)
     go_roundw
     case rel=>exact⟨k+1,by omega,by have:=hi3.out;go_num,by rw[hfk.out];exact hJs,hnx⟩
     case measure=>simp[intOf];omega
   ·have t0:=Xs (y:=0) (q:=0) rfl h0
    have hfk:=Za (hno1.out h0);replace h0:=Za h0
    gi_wp2
    try (refine⟨fun _ h=>(by cases h),?_⟩;gi_wp2)
    go_roundw
    case rel=>exact⟨k+1,by omega,by have:=hi3.out;go_num,by rw[hfk.out];exact hJs,hnx⟩
    case measure=>simp[intOf];omega
  ·obtain rfl:k=248:=by omega
   gi_wp2
   go_end0
   exact⟨⟨_,rfl⟩,.inl ⟨_,rfl,hJs⟩⟩}
theorem Z2r (F:Fence) (n:Nat) (hf:F.fn 158) (hro:F.round=none) (a b c d:Qax) (w:Qaw) :
  CallsIn F n Tryz.prog 158 #[.agg #[a,b,c,d]] w fun e w'=>e=.returned (.func (.func 179) #[] #[.pointer (some ⟨w.heap.size,0,none⟩)])/\w'=w.alloc (.cells #[a,b,c,d] 29):=by
 refine callsIn_of_wp Tryz.func158 rfl hf ?_ hro;simp only[Tryz.ntmps158,Q6,Qr,Q7,Q8,Q9,Pa,Pb,Pc,Pd,Pe,Qo]
 gi_wp2
 go_ret;exact⟨rfl,rfl⟩
theorem Zqi (F:Fence) (n:Nat) (hf:F.fn 179) (hro:F.round=none) (hn:1<=n) (Bs n₀:Nat) (s:Rm) (ad bd:Qay) (cn cl:Nat) (cn1:256<=cn) (cl1:256<=cl) (hBn:Bs<n₀) (hab:ad.block<n₀) (hbb:bd.block<n₀)
  (w:Qaw) (hn₀:n₀<=w.heap.size) (hb2:w.cell? ⟨Bs,2,none⟩=some (.slice (some ad) 256 cn)) (hb3:w.cell? ⟨Bs,3,none⟩=some (.slice (some bd) 256 cl))
  (hc:∀ j,j<256->w.cell? (ad.add j)=some (.int .u8 ((s.2.1[j]?.getD 0).toNat:Int))/\w.cell? (bd.add j)=some (.int .u8 ((s.2.2[j]?.getD 0).toNat:Int))) :
  SeqStopsK F n Tryz.prog 179 #[.pointer (some ⟨Bs,0,none⟩)] (fun x:Nat=>#[Value.int .i64 (x:Int)]) (Qa3 n₀) (fun ys=>ys=Xz s) (fun pre=>∃ k,k<248/\U5 s (8+k)=true/\pre=Zbw s k++[8+k]) 248 w:=fun l J Jx W hW _ _ hY h0 =>
 Z4j F n hf hro hn l Bs n₀ s ad bd cn cl cn1 cl1 hBn hab hbb J Jx hY W ((hW.cell (p:=⟨Bs,2,none⟩) (by show Bs<_;omega)).trans hb2) ((hW.cell (p:=⟨Bs,3,none⟩) (by show Bs<_;omega)).trans hb3)
  (fun j hj=>⟨(hW.cell (p:=ad.add j) (by rw[Zh];omega)).trans (hc j hj).1,(hW.cell (p:=bd.add j) (by rw[Zh];omega)).trans (hc j hj).2⟩) h0
theorem Zpg {w:Qaw}{s:Rm}{N L:Option Qay}{cn cl:Nat}(hm:Xm s=true) (hN:rBy (Old w) w [.slice N s.2.1.length cn] s.2.1) (hL:rBy (Old w) w [.slice L s.2.2.length cl] s.2.2) :
  ∃ ad bd,N=some ad/\L=some bd/\s.2.1.length=256/\s.2.2.length=256/\256<=cn/\256<=cl/\ad.block<w.heap.size/\bd.block<w.heap.size/\(∀ j,j<256->w.cell? (ad.add j)=some (.int .u8 ((s.2.1[j]?.getD 0).toNat:Int))/\w.cell? (bd.add j)=some (.int .u8 ((s.2.2[j]?.getD 0).toNat:Int))):=by
 have hl1:=Yw (Ye hm).2.1;have hl2:=Yw (Ye hm).2.2;obtain⟨N',cn',e1,l1,_,hb1⟩:=Vf (B:=w.heap.size) (fun _ h=>h) hN;obtain⟨L',cl',e2,l2,_,hb2⟩:=Vf (B:=w.heap.size) (fun _ h=>h) hL;cases e1;cases e2;obtain⟨ad,rfl,h1,h2⟩:=hb1 (by omega);obtain⟨bd,rfl,h3,h4⟩:=hb2 (by omega);exact⟨ad,bd,rfl,rfl,hl1,hl2,by omega,by omega,h1,h3,fun j hj=>⟨h2 j (by omega),h4 j (by omega)⟩⟩
theorem Zze (F:Fence) (n:Nat) (h3:F.fn 125) (h5:F.fn 158) (h7:F.fn 179) (hro:F.round=none) (hn:3<=n)
  (v:Qax) (s:Rm) (hm:Xm s=true) (w:Qaw) (h:Sto (Old w) w v s) :
  CallsIn F n Tryz.prog 125 #[v] w fun e W'=>e=.returned (.tuple #[.int .i64 (tkK s:Int),.bool (!(Xz s).isEmpty)])/\Qa3 w.heap.size w W':=by{
 have h1:1<=n:=by omega
 obtain⟨A,ca,B,cb,N,cn,L,cl,rfl,hd,hN,hL⟩:=h.open;obtain⟨ad,bd,rfl,rfl,hl1,hl2,l1,l2,had,hbd,hc⟩:=Zpg hm hN hL;rw[hl1,hl2];clear hd hN hL h;obtain⟨n1,hn1⟩:∃ n1,s.1.1.length=n1:=⟨_,rfl⟩
 obtain⟨n2,hn2⟩:∃ n2,s.1.2.length=n2:=⟨_,rfl⟩
 rw[hn1,hn2];clear hn1 hn2;replace hl1:=Za hl1;replace hl2:=Za hl2;replace hc:=Za hc;refine callsIn_of_wp_marks Tryz.func125 rfl h3 ?_ hro;simp only[Tryz.ntmps125,Q6,Qr,Q7,Q8,Q9,Pa,Pb,Pc,Pd,Pe,Qo]
 gi_wp2_with (gi_at_call 158;refine(Z2r F (n-1) h5 hro _ _ _ _ _).mono ?_;rintro e w' ⟨rfl,rfl⟩)
 obtain⟨W0,hW0,hB0,hs0,b1,b1f,b2,b2f,k2,k3⟩:∃ W0,(((w.alloc (.cells #[.slice A n1 ca,.slice B n2 cb,.slice (some ad) 256 cn,.slice (some bd) 256 cl] 29)).alloc (.cells #[.int .i64 0] 3)).alloc (.cells #[.bool false] 4)).alloc (.cells #[.slice A n1 ca,.slice B n2 cb,.slice (some ad) 256 cn,.slice (some bd) 256 cl] 29)=W0/\Qa3 w.heap.size w W0/\W0.heap.size=w.heap.size+4 /\
   W0.cell? ⟨w.heap.size+1,0,none⟩=some (.int .i64 0)/\W0.frozen? ⟨w.heap.size+1,0,none⟩=false/\W0.cell? ⟨w.heap.size+1+1,0,none⟩=some (.bool false)/\W0.frozen? ⟨w.heap.size+1+1,0,none⟩=false/\W0.cell? ⟨w.heap.size+1+1+1,2,none⟩=some (.slice (some ad) 256 cn)/\W0.cell? ⟨w.heap.size+1+1+1,3,none⟩=some (.slice (some bd) 256 cl) :=
  ⟨_,rfl,((((Qb _ w).alloc (Qa _) _).alloc (by simp) _).alloc (by simp;omega) _).alloc (by simp;omega) _,by simp,by go_simp,by go_simp,by go_simp,by go_simp,by go_simp,by go_simp⟩
 rw[hW0];clear hW0;have hlo:w.heap.size<=W0.heap.size:=hB0.size;refine wpIn_rangeFunc_ownF hro h1 (gf:=179) (lb:=#[.pointer (some ⟨w.heap.size+1+1+1,0,none⟩)]) rfl h7 (enters_of Tryz.func179 (by kernel_rfl) rfl)
  (Zqi F (n-1) h7 hro (by omega) (w.heap.size+1+1+1) W0.heap.size s ad bd cn cl l1 l2 (by omega) (by omega) (by omega) W0 (Qa _) k2 k3 (fun j hj=>⟨(hB0.cell (p:=ad.add j) (by rw[Zh];exact had)).trans (hc.out j hj).1,(hB0.cell (p:=bd.add j) (by rw[Zh];exact hbd)).trans (hc.out j hj).2⟩))
  (fun h h'=>h.trans h') (fun W l o o' hl h1 h2 h3=>belowK_b (w:=W0) (Qa _) W l o o' hl h1 h2 h3) (Qb _ _) (fun _=>rfl)
  (fun pre W=>(pre=[]/\W.cell? ⟨w.heap.size+1,0,none⟩=some (.int .i64 0)/\W.frozen? ⟨w.heap.size+1,0,none⟩=false/\W.cell? ⟨w.heap.size+1+1,0,none⟩=some (.bool false)/\W.frozen? ⟨w.heap.size+1+1,0,none⟩=false)/\Qa3 w.heap.size w W)
  (fun cd pre W=>(cd=.ret/\∃ x:Nat,pre=[x]/\W.cell? ⟨w.heap.size+1,0,none⟩=some (.int .i64 (x:Int))/\W.cell? ⟨w.heap.size+1+1,0,none⟩=some (.bool true))/\Qa3 w.heap.size w W)
  (OwnFrom.and (Own.from (fun s A B row hs hg hr=>⟨hs.1,cell_kept hs.2.1 hg hr,(frozen_kept hs.2.1 hg hr).trans hs.2.2.1,cell_kept hs.2.2.2.1 hg hr,(frozen_kept hs.2.2.2.1 hg hr).trans hs.2.2.2.2⟩) _) (ownFrom_below (Qa _) hlo))
  (fun cd=>OwnFrom.and (Own.from (fun s A B row hs hg hr=>by
   obtain⟨e,x,e2,h1,h2⟩:=hs
   exact⟨e,x,e2,cell_kept h1 hg hr,cell_kept h2 hg hr⟩) _) (ownFrom_below (Qa _) hlo))
  ⟨⟨rfl,b1,b1f,b2,b2f⟩,hB0⟩
  (fun x=>{ tmps:=#[.agg #[.slice A n1 ca,.slice B n2 cb,.slice (some ad) 256 cn,.slice (some bd) 256 cl],.pointer (some ⟨w.heap.size,0,none⟩),.pointer (some ⟨w.heap.size+1,0,none⟩),.pointer (some ⟨w.heap.size+1+1,0,none⟩),.int .i64 (x:Int),.agg #[.slice A n1 ca,.slice B n2 cb,.slice (some ad) 256 cn,.slice (some bd) 256 cl],
   .func (.func 179) #[] #[.pointer (some ⟨w.heap.size+1+1+1,0,none⟩)],.int .i64 (x:Int),undef],defers:=[] }) ?assign ?body ?done ?stop
 case assign =>
  intro l x W K hK
  gi_wp2
  exact hK
 case body =>
  rintro l pre x W ⟨⟨rfl,c1,f1,c2,f2⟩,hb⟩ _
  gi_wp2
  refine⟨(KeepsOthers.setCell _ _ _).trans (KeepsOthers.setCell _ _ _),⟨rfl,x,rfl,?_,?_⟩,(hb.setCell (p:=⟨w.heap.size+1,0,none⟩) (by simp) _).setCell (p:=⟨w.heap.size+1+1,0,none⟩) (by simp;omega) _⟩
  ·go_simp
  ·go_simp
 case done =>
  rintro D zs W hD rfl ⟨⟨hz,c1,f1,c2,f2⟩,hb⟩ hK;have hk0:Hid (tkK s=0):=Za (by simp[tkK,hz]);have hemp:Hid ((Xz s).isEmpty=true):=Za (by rw[hz];rfl);clear hz;obtain⟨W2,hW2,d1,d2,hb2,hK2⟩:∃ W2,(W.setCell ⟨w.heap.size+1,0,none⟩ (.int .i64 0)).setCell ⟨w.heap.size+1+1,0,none⟩ (.bool false)=W2/\W2.cell? ⟨w.heap.size+1,0,none⟩=some (.int .i64 0)/\W2.cell? ⟨w.heap.size+1+1,0,none⟩=some (.bool false)/\Qa3 w.heap.size w W2/\W2.heap[D]? = some (.deferred (some [])) :=
   ⟨_,rfl,by go_simp,by go_simp,(hb.setCell (p:=⟨w.heap.size+1,0,none⟩) (by simp) _).setCell (p:=⟨w.heap.size+1+1,0,none⟩) (by simp;omega) _,((KeepsOthers.setCell W ⟨w.heap.size+1,0,none⟩ (.int .i64 0)).trans (KeepsOthers.setCell _ ⟨w.heap.size+1+1,0,none⟩ (.bool false))).same D _ hK rfl⟩
  gi_wp2
  try rw[hW2]
  refine⟨by simp,.inl ⟨_,_,rfl,run_takeDeferred hK2,?_⟩⟩;have hro':∀ r,some D=some r->∃ o:Obj,W2.heap[r]? = some o/\o.isCells=false:=fun r e=>by cases e;exact⟨_,hK2,rfl⟩
  have c1':=cell_kept d1 (grownBy_putObj' _ D (.deferred none)) hro';have c2':=cell_kept d2 (grownBy_putObj' _ D (.deferred none)) hro';refine⟨.tuple #[.int .i64 0,.bool false],?_,by rw[hk0.out,hemp.out];rfl,hb2.trans (belowK_b hlo _ D _ _ hD hK2 rfl rfl)⟩;simp[results,Tryz.f125,go_sem,c1',c2']
 case stop =>
  rintro D cd pre W hD ⟨k,hk,hfr,hpk⟩ ⟨⟨rfl,x,rfl,c1,c2⟩,hb⟩ hK;obtain⟨r,hr⟩:=Z3h hk hfr;have e2:Zbw s k=[]/\8+k=x:=by
   cases hq:Zbw s k with
   | nil=>rw[hq] at hpk;simp at hpk;exact⟨rfl,hpk.symm⟩
   | cons y q=>rw[hq] at hpk;simp at hpk
  rw[e2.1,e2.2] at hr;have hk0:Hid (tkK s=x):=Za (by simp[tkK,hr]);have hemp:Hid ((Xz s).isEmpty=false):=Za (by rw[hr];rfl);clear hr e2 hpk
  gi_wp2
  refine⟨by simp,.inl ⟨_,_,rfl,run_takeDeferred hK,?_⟩⟩;have hro':∀ r,some D=some r->∃ o:Obj,W.heap[r]? = some o/\o.isCells=false:=fun r e=>by cases e;exact⟨_,hK,rfl⟩
  have c1':=cell_kept c1 (grownBy_putObj' _ D (.deferred none)) hro';have c2':=cell_kept c2 (grownBy_putObj' _ D (.deferred none)) hro';refine⟨.tuple #[.int .i64 (x:Int),.bool true],?_,by rw[hk0.out,hemp.out];rfl,hb.trans (belowK_b hlo _ D _ _ hD hK rfl rfl)⟩;simp[results,Tryz.f125,go_sem,c1',c2']}
theorem Zgw (v:Qax) (s:Rm) (hm:Xm s=true) (w:Qaw) (h:Sto (Old w) w v s) :
  Qa2 Tryz.prog 125 #[v] w fun e W'=>e=.returned (.tuple #[.int .i64 (tkK s:Int),.bool (!(Xz s).isEmpty)])/\Qa3 w.heap.size w W' :=
 callsIn_wide.1 (Zze Fence.wide 3 trivial trivial trivial rfl (Qa _) v s hm w h)
theorem Zf1 {w:Qaw}{v:Qax}{s:Rm}(h:Sto (Old w) w v s):∃ A ca B cb N cn L cl w1,v=.agg #[.slice A s.1.1.length ca,.slice B s.1.2.length cb,.slice N s.2.1.length cn,.slice L s.2.2.length cl] /\
  (w.alloc (.cells #[.slice A s.1.1.length ca,.slice B s.1.2.length cb,.slice N s.2.1.length cn,.slice L s.2.2.length cl] 29)).alloc (.cells #[.slice none 0 0,.slice none 0 0,.slice none 0 0,.slice none 0 0] 29)=w1 /\
  w1.heap[w.heap.size]? = some (.cells #[.slice A s.1.1.length ca,.slice B s.1.2.length cb,.slice N s.2.1.length cn,.slice L s.2.2.length cl] 29 (0,0))/\w1.heap[w.heap.size+1]? = some (.cells #[.slice none 0 0,.slice none 0 0,.slice none 0 0,.slice none 0 0] 29 (0,0))/\w1.heap.size=w.heap.size+2/\Qa3 w.heap.size w w1 /\
  Hid (Sto (Old w1) w1 (.agg #[.slice A s.1.1.length ca,.slice B s.1.2.length cb,.slice N s.2.1.length cn,.slice L s.2.2.length cl]) s):=by
 obtain⟨A,ca,B,cb,N,cn,L,cl,rfl,_,_,_⟩:=h.open;have hb:Qa3 w.heap.size w ((w.alloc (.cells #[.slice A s.1.1.length ca,.slice B s.1.2.length cb,.slice N s.2.1.length cn,.slice L s.2.2.length cl] 29)).alloc (.cells #[.slice none 0 0,.slice none 0 0,.slice none 0 0,.slice none 0 0] 29)):=((Qb _ w).alloc (Qa _) _).alloc (by simp) _;refine⟨A,ca,B,cb,N,cn,L,cl,_,rfl,rfl,Y5 (Qa1 _ _),?_,by simp,hb,Za (h.below hb)⟩;have:=Qa1 (w.alloc (.cells #[.slice A s.1.1.length ca,.slice B s.1.2.length cb,.slice N s.2.1.length cn,.slice L s.2.2.length cl] 29)) (.cells #[.slice none 0 0,.slice none 0 0,.slice none 0 0,.slice none 0 0] 29)
 rwa [Qs] at this
theorem Zs6 {s:Rm}{b:List UInt8}(hm:Xm s=true) (hb:b.length=128) (hl:Xz s≠[]):(8<=tkK s/\tkK s<256/\s.2.1[tkK s]?.getD 0=0/\Znm s.1 (tkK s:Int) b=(if 4096<=s.1.2.length then 9 else 0)):=by{
 cases hf:Xz s with
 | nil=>exact absurd hf hl
 | cons k m =>
  obtain⟨h1,h2,h3,h4⟩:=Z02 (s:=s) (i:=k) (by rw[hf];exact Qg);have hk:tkK s=k:=by simp[tkK,hf]
  rw[hk];refine⟨h1,h2,h3,?_⟩;have hmd:=(Ye hm).1;have h5:=(Zg7 hmd).2.1;have h6:Vb (k:Int)=true:=Zfh h2;by_cases h7:4096<=s.1.2.length
  ·have h8:s.1.2.length=4096:=by omega
   simp[Znm,hmd,h6,hb,h8]
  ·have h8:s.1.2.length≠4096:=by omega
   simp[Znm,hmd,h6,hb,h8,h7]}
theorem Z0d (v u:Qax) (s:Rm) (b:List UInt8) (w:Qaw) (h:Sto (Old w) w v s) (hu:rBy (Old w) w [u] b) :
  Qa2 Tryz.prog 82 #[v,u] w fun e w'=>∃ t,e=.returned (.tuple #[t,.int .i64 (tkN s b),.int .i64 (tkE s b)])/\Sto (New w.heap.size w') w' t (tkV s b)/\Qa3 w.heap.size w w':=by{
 obtain⟨A,ca,B,cb,N,cn,L,cl,w1,rfl,hw1,f1,f2,hsz,hB,H⟩:=Zf1 h;obtain⟨E,ce,rfl,_⟩:=id (Zt hu);have U:=Za (Zf.old hu hB);clear h hu;obtain⟨k0,k1,k2,k3,_,kg⟩:=Ze f1;replace hsz:=Za hsz;rcases Z86 s b with ⟨hm,hE⟩ | ⟨hm,hlb,hE⟩ | ⟨hm,hlb,hfl,hE⟩ | ⟨hm,hlb,hfl,hfw,hE⟩ | ⟨hm,hlb,hfl,hfw,hE⟩
 ·replace hE:=Za hE
  have e1:=Zd3 hm;replace f2:=Za f2
  go_enter Tryz.func82,Tryz.ntmps82
  go_upto_region 1 with fail
  clear hw1
  go_wp2_with fail
  with_reducible refine(Xe _ s _ H.out).mono ?_
  rintro e w2 ⟨rfl,hb2⟩;rw[e1];have F2:=(hb2.block (w.heap.size+1) (by rw[hsz.out];omega)).trans f2.out;replace hb2:=Za (hB.trans (hb2.mono hB.size));obtain⟨k0,k1,k2,k3,k4,k5⟩:=Ze F2;obtain⟨W9,hW9,g9,gr9,gs9⟩:=Zu (a':=.slice none 0 0) (b':=.slice none 0 0) (c':=.slice none 0 0) (d':=.slice none 0 0) F2;obtain⟨n0,n1,n2,n3,_,_⟩:=Ze g9;have hB9:=Za ((hb2).out.grown gr9 (hb2).out.size (fun q e=>by cases e;omega));replace g9:=Za g9;replace F2:=Za F2;clear gr9 gs9
  go_wp2_with fail
  refine Qa0 (v:=.tuple #[.agg #[.slice none 0 0,.slice none 0 0,.slice none 0 0,.slice none 0 0],.int .i64 0,.int .i64 8]) (by simp[results,Tryz.results82,go_sem,n0,n1,n2,n3]) rfl ?_;obtain⟨hN,hV⟩:=Zvr (s:=s) (b:=b) (by rw[hE.out];decide);rw[hN,hV,hE.out];exact⟨_,rfl,Yv _ _,hB9.out⟩
 ·replace hE:=Za hE
  have e1:=Zcv hm;have e2:((b.length:Int) != 128)=true:=by simp;omega
  replace f2:=Za f2
  go_enter Tryz.func82,Tryz.ntmps82
  go_upto_region 1 with fail
  clear hw1
  go_wp2_with fail
  with_reducible refine(Xe _ s _ H.out).mono ?_
  rintro e w2 ⟨rfl,hb2⟩;rw[e1];have G2:=(hb2.block w.heap.size kg).trans f1;obtain⟨m0,m1,m2,m3,_,mg⟩:=Ze G2;have F2:=(hb2.block (w.heap.size+1) (by rw[hsz.out];omega)).trans f2.out;have H2:=Za (H.out.below hb2);have U2:=Za (Zf.old U.out hb2);have s2:Hid (w.heap.size+2<=w2.heap.size):=Za (by have:=hb2.size;have:=hsz.out;omega);replace hb2:=Za (hB.trans (hb2.mono hB.size));replace G2:=Za G2;replace F2:=Za F2;clear k0 k1 k2 k3 kg f1 hB;replace F2:=F2.out;obtain⟨k0,k1,k2,k3,k4,k5⟩:=Ze F2;obtain⟨W9,hW9,g9,gr9,gs9⟩:=Zu (a':=.slice none 0 0) (b':=.slice none 0 0) (c':=.slice none 0 0) (d':=.slice none 0 0) F2;obtain⟨n0,n1,n2,n3,_,_⟩:=Ze g9;have hB9:=Za ((hb2).out.grown gr9 (hb2).out.size (fun q e=>by cases e;omega));replace g9:=Za g9;replace F2:=Za F2;clear gr9 gs9
  go_wp2_with fail
  refine Qa0 (v:=.tuple #[.agg #[.slice none 0 0,.slice none 0 0,.slice none 0 0,.slice none 0 0],.int .i64 0,.int .i64 3]) (by simp[results,Tryz.results82,go_sem,n0,n1,n2,n3]) rfl ?_;obtain⟨hN,hV⟩:=Zvr (s:=s) (b:=b) (by rw[hE.out];decide);rw[hN,hV,hE.out];exact⟨_,rfl,Yv _ _,hB9.out⟩
 ·replace hE:=Za hE
  have e1:=Zcv hm;have e2:((b.length:Int) != 128)=false:=by rw[hlb];rfl
  have hemp:(!(Xz s).isEmpty)=false:=by rw[hfl];rfl
  replace f2:=Za f2;replace hlb:=Za hlb;replace hfl:=Za hfl
  go_enter Tryz.func82,Tryz.ntmps82
  go_upto_region 1 with fail
  clear hw1
  go_wp2_with fail
  with_reducible refine(Xe _ s _ H.out).mono ?_
  rintro e w2 ⟨rfl,hb2⟩;rw[e1];have G2:=(hb2.block w.heap.size kg).trans f1;obtain⟨m0,m1,m2,m3,_,mg⟩:=Ze G2;have F2:=(hb2.block (w.heap.size+1) (by rw[hsz.out];omega)).trans f2.out;have H2:=Za (H.out.below hb2);have U2:=Za (Zf.old U.out hb2);have s2:Hid (w.heap.size+2<=w2.heap.size):=Za (by have:=hb2.size;have:=hsz.out;omega);replace hb2:=Za (hB.trans (hb2.mono hB.size));replace G2:=Za G2;replace F2:=Za F2;clear k0 k1 k2 k3 kg f1 hB
  go_wp2_with fail
  with_reducible refine(Zgw _ s hm _ H2.out).mono ?_
  rintro e w3 ⟨rfl,hb3⟩;rw[hemp];have G3:=(hb3.block w.heap.size mg).trans G2.out;obtain⟨k0,k1,k2,k3,_,kg⟩:=Ze G3;have F3:=(hb3.block (w.heap.size+1) (by have:=s2.out;omega)).trans F2.out;have H3:=Za (H2.out.below hb3);have U3:=Za (Zf.old U2.out hb3);have s3:Hid (w.heap.size+2<=w3.heap.size):=Za (by have:=hb3.size;have:=s2.out;omega);replace hb3:=Za (hb2.out.trans (hb3.mono hb2.out.size));replace G3:=Za G3;clear m0 m1 m2 m3 mg G2 F2 H2 U2 hb2;obtain⟨k0,k1,k2,k3,k4,k5⟩:=Ze F3;obtain⟨W9,hW9,g9,gr9,gs9⟩:=Zu (a':=.slice none 0 0) (b':=.slice none 0 0) (c':=.slice none 0 0) (d':=.slice none 0 0) F3;obtain⟨n0,n1,n2,n3,_,_⟩:=Ze g9;have hB9:=Za ((hb3).out.grown gr9 (hb3).out.size (fun q e=>by cases e;omega));replace g9:=Za g9;replace F3:=Za F3;clear gr9 gs9
  go_wp2_with fail
  refine Qa0 (v:=.tuple #[.agg #[.slice none 0 0,.slice none 0 0,.slice none 0 0,.slice none 0 0],.int .i64 0,.int .i64 9]) (by simp[results,Tryz.results82,go_sem,n0,n1,n2,n3]) rfl ?_;obtain⟨hN,hV⟩:=Zvr (s:=s) (b:=b) (by rw[hE.out];decide);rw[hN,hV,hE.out];exact⟨_,rfl,Yv _ _,hB9.out⟩
 ·replace hE:=Za hE
  have e1:=Zcv hm;have e2:((b.length:Int) != 128)=false:=by rw[hlb];rfl
  have hemp:(!(Xz s).isEmpty)=true:=by cases hq:Xz s with
   | nil=>exact absurd hq hfl
   | cons k m=>rfl
  obtain⟨h8,h256,h0,hwe⟩:=Zs6 hm hlb hfl;rw[if_pos hfw] at hwe;obtain⟨k,hk⟩:∃ k,tkK s=k:=⟨_,rfl⟩
  obtain⟨R,hR⟩:∃ R,wrR s.1 (k:Int) b=R:=⟨_,rfl⟩
  rw[hk] at h8 h256 hwe;replace f2:=Za f2;replace hlb:=Za hlb;replace hfl:=Za hfl;replace hk:=Za hk;replace hR:=Za hR;replace hwe:=Za hwe
  go_enter Tryz.func82,Tryz.ntmps82
  go_upto_region 1 with fail
  clear hw1
  go_wp2_with fail
  with_reducible refine(Xe _ s _ H.out).mono ?_
  rintro e w2 ⟨rfl,hb2⟩;rw[e1];have G2:=(hb2.block w.heap.size kg).trans f1;obtain⟨m0,m1,m2,m3,_,mg⟩:=Ze G2;have F2:=(hb2.block (w.heap.size+1) (by rw[hsz.out];omega)).trans f2.out;have H2:=Za (H.out.below hb2);have U2:=Za (Zf.old U.out hb2);have s2:Hid (w.heap.size+2<=w2.heap.size):=Za (by have:=hb2.size;have:=hsz.out;omega);replace hb2:=Za (hB.trans (hb2.mono hB.size));replace G2:=Za G2;replace F2:=Za F2;clear k0 k1 k2 k3 kg f1 hB
  go_wp2_with fail
  with_reducible refine(Zgw _ s hm _ H2.out).mono ?_
  rintro e w3 ⟨rfl,hb3⟩;rw[hemp];have G3:=(hb3.block w.heap.size mg).trans G2.out;obtain⟨k0,k1,k2,k3,_,kg⟩:=Ze G3;have F3:=(hb3.block (w.heap.size+1) (by have:=s2.out;omega)).trans F2.out;have H3:=Za (H2.out.below hb3);have U3:=Za (Zf.old U2.out hb3);have s3:Hid (w.heap.size+2<=w3.heap.size):=Za (by have:=hb3.size;have:=s2.out;omega);replace hb3:=Za (hb2.out.trans (hb3.mono hb2.out.size));replace G3:=Za G3;clear m0 m1 m2 m3 mg G2 F2 H2 U2 hb2;rw[hk.out];replace F3:=Za F3
  go_wp2_with fail
  with_reducible refine(Zoy _ _ s.1 (k:Int) b _ H3.out.parts.1 U3.out).mono ?_
  rintro e w4 ⟨A4,c4,B4,d4,rfl,_,hb4⟩;rw[hwe.out,hR.out];have F4:=(hb4.block (w.heap.size+1) (by have:=s3.out;omega)).trans F3.out;obtain⟨w5,hw5,g5,hs5,hb5⟩:=Yc w4 (.slice A4 R.1.length c4) (.slice B4 R.2.length d4) 26;have F5:=(hb5.block (w.heap.size+1) (by have:=s3.out;have:=hb4.size;omega)).trans F4;have B5:=Za (hb3.out.trans ((hb4.trans (hb5.mono hb4.size)).mono hb3.out.size));replace F4:=Za F4;replace g5:=Za g5;replace hs5:=Za hs5;clear hb4 hb5
  go_upto_region 10 with fail
  clear hw5;obtain⟨k0,k1,k2,k3,k4,k5⟩:=Ze F5;obtain⟨W9,hW9,g9,gr9,gs9⟩:=Zu (a':=.slice none 0 0) (b':=.slice none 0 0) (c':=.slice none 0 0) (d':=.slice none 0 0) F5;obtain⟨n0,n1,n2,n3,_,_⟩:=Ze g9;have hB9:=Za ((B5).out.grown gr9 (B5).out.size (fun q e=>by cases e;omega));replace g9:=Za g9;replace F5:=Za F5;clear gr9 gs9
  go_wp2_with fail
  refine Qa0 (v:=.tuple #[.agg #[.slice none 0 0,.slice none 0 0,.slice none 0 0,.slice none 0 0],.int .i64 0,.int .i64 9]) (by simp[results,Tryz.results82,go_sem,n0,n1,n2,n3]) rfl ?_;obtain⟨hN,hV⟩:=Zvr (s:=s) (b:=b) (by rw[hE.out];decide);rw[hN,hV,hE.out];exact⟨_,rfl,Yv _ _,hB9.out⟩
 ·replace hE:=Za hE
  have e1:=Zcv hm;have e2:((b.length:Int) != 128)=false:=by rw[hlb];rfl
  have hemp:(!(Xz s).isEmpty)=true:=by cases hq:Xz s with
   | nil=>exact absurd hq hfl
   | cons k m=>rfl
  obtain⟨h8,h256,h0,hwe⟩:=Zs6 hm hlb hfl;rw[if_neg (by omega)] at hwe
  have hV:Hid (tkV s b=(wrR s.1 (tkK s:Int) b,s.2.1.set (tkK s) 1,s.2.2)):=Za (by
   rw[(Z0c hE.out).2.2.2.2.2.2.2.2.2,Z8f hwe])
  have hT:Hid (tkN s b=(tkK s:Int)):=Za (Z0c hE.out).2.2.2.2.2.2.2.2.1;obtain⟨k,hk⟩:∃ k,tkK s=k:=⟨_,rfl⟩
  obtain⟨R,hR⟩:∃ R,wrR s.1 (k:Int) b=R:=⟨_,rfl⟩
  rw[hk] at h8 h256 hwe hV hT h0;rw[hR] at hV;obtain⟨hu0,hu1⟩:=Ybs (Ye hm).2.1 h8 h256 (by rw[h0];decide);rw[h0,show (0:UInt8)+1=1 from rfl] at hu1;obtain⟨T,hT2⟩:∃ T,s.2.1.set k 1=T:=⟨_,rfl⟩
  rw[hT2] at hu1 hV;have hll:=Yw (Ye hm).2.2;replace f2:=Za f2;replace hlb:=Za hlb;replace hfl:=Za hfl;replace hk:=Za hk;replace hR:=Za hR;replace hwe:=Za hwe;replace hu0:=Za hu0;replace hu1:=Za hu1;replace hT2:=Za hT2;replace hll:=Za hll;replace h0:=Za h0
  go_enter Tryz.func82,Tryz.ntmps82
  go_upto_region 1 with fail
  clear hw1
  go_wp2_with fail
  with_reducible refine(Xe _ s _ H.out).mono ?_
  rintro e w2 ⟨rfl,hb2⟩;rw[e1];have G2:=(hb2.block w.heap.size kg).trans f1;obtain⟨m0,m1,m2,m3,_,mg⟩:=Ze G2;have F2:=(hb2.block (w.heap.size+1) (by rw[hsz.out];omega)).trans f2.out;have H2:=Za (H.out.below hb2);have U2:=Za (Zf.old U.out hb2);have s2:Hid (w.heap.size+2<=w2.heap.size):=Za (by have:=hb2.size;have:=hsz.out;omega);replace hb2:=Za (hB.trans (hb2.mono hB.size));replace G2:=Za G2;replace F2:=Za F2;clear k0 k1 k2 k3 kg f1 hB
  go_wp2_with fail
  with_reducible refine(Zgw _ s hm _ H2.out).mono ?_
  rintro e w3 ⟨rfl,hb3⟩;rw[hemp];have G3:=(hb3.block w.heap.size mg).trans G2.out;obtain⟨k0,k1,k2,k3,_,kg⟩:=Ze G3;have F3:=(hb3.block (w.heap.size+1) (by have:=s2.out;omega)).trans F2.out;have H3:=Za (H2.out.below hb3);have U3:=Za (Zf.old U2.out hb3);have s3:Hid (w.heap.size+2<=w3.heap.size):=Za (by have:=hb3.size;have:=s2.out;omega);replace hb3:=Za (hb2.out.trans (hb3.mono hb2.out.size));replace G3:=Za G3;clear m0 m1 m2 m3 mg G2 F2 H2 U2 hb2;rw[hk.out];replace F3:=Za F3
  go_wp2_with fail
  with_reducible refine(Zoy _ _ s.1 (k:Int) b _ H3.out.parts.1 U3.out).mono ?_
  rintro e w4 ⟨A4,c4,B4,d4,rfl,hd4,hb4⟩;rw[hwe.out,hR.out];rw[hR.out] at hd4;have F4:=(hb4.block (w.heap.size+1) (by have:=s3.out;omega)).trans F3.out;have G4:=(hb4.block w.heap.size kg).trans G3.out;obtain⟨w5,hw5,g5,hs5,hb5⟩:=Yc w4 (.slice A4 R.1.length c4) (.slice B4 R.2.length d4) 26;have F5:=Za ((hb5.block (w.heap.size+1) (by have:=s3.out;have:=hb4.size;omega)).trans F4);have G5:=(hb5.block w.heap.size (by have:=s3.out;have:=hb4.size;omega)).trans G4;have H5:=Za ((H3.out.below hb4).below hb5);have D5:=Za (hd4.new (Qa _) hb5);have s5:Hid (w4.heap.size+1=w5.heap.size/\w.heap.size+2<=w4.heap.size):=Za ⟨by omega,by have:=s3.out;have:=hb4.size;omega⟩;have B5:=Za (hb3.out.trans ((hb4.trans (hb5.mono hb4.size)).mono hb3.out.size));obtain⟨m0,m1,m2,m3,_,mg⟩:=Ze G5;replace F4:=Za F4;replace g5:=Za g5;replace hs5:=Za hs5;replace G5:=Za G5;clear hb4 hb5 G4 k0 k1 k2 k3 hd4 H3 U3 G3
  go_upto_region 10 with fail
  clear hw5
  go_wp2_with fail
  with_reducible refine(Zza _ s.2.1 (k:Int) _ H5.out.parts.2.1).mono ?_
  rintro e w6 ⟨E6,c6,rfl,h6,hb6⟩;rw[hu0.out,hu1.out];rw[hu1.out] at h6;have F6:=Za ((hb6.block (w.heap.size+1) (by have:=s5.out;omega)).trans F5.out);have G6:=(hb6.block w.heap.size mg).trans G5.out;have P6:=(hb6.block w4.heap.size (by have:=s5.out;omega)).trans g5.out;have H6:=Za (H5.out.below hb6);have D6:=Za (D5.out.new (Qa _) hb6);have T6:=Za h6;have B6:=Za (B5.out.trans (hb6.mono B5.out.size));have s6:Hid (w.heap.size+2<=w6.heap.size):=Za (by have:=s5.out;have:=hb6.size;omega);clear hb6 h6 m0 m1 m2 m3;obtain⟨m0,m1,m2,m3,_,mg⟩:=Ze G6;obtain⟨p0,p1,_,pg⟩:=Zg P6;replace G6:=Za G6;replace P6:=Za P6;have hcl:Hid (∀ W,Qa3 w6.heap.size w6 W->Qa2 Tryz.prog 80 #[.slice L s.2.2.length cl] W fun e W'=>∃ X xc,e=.returned (.slice X s.2.2.length xc)/\rBy (New w6.heap.size W') W' [.slice X s.2.2.length xc] s.2.2/\Qa3 w6.heap.size w6 W'):=Za fun W hC=>by
   refine(Zar _ s.2.2 W (by rw[hll.out];omega) (Zf.old H6.out.parts.2.2 hC)).mono ?_;rintro e W' ⟨u,rfl,hx,hb⟩;obtain⟨X,xc,rfl,_⟩:=id (Zt hx);exact⟨X,xc,rfl,Zf.mono hx hC.size,hC.trans (hb.mono hC.size)⟩
  go_upto_region 15 with fail
  have hdr:Qa3 w6.heap.size w6 w6.drew:=(Qb _ _).drew
  go_region_with (first
   | (go_at_call 80;refine(hcl.out _ hdr).mono ?_;rintro e' wm ⟨X,xc,rfl,hx,hw⟩;have bW:=(hw.block (w.heap.size+1) (by have:=s6.out;omega)).trans F6.out;obtain⟨y0,y1,_,_⟩:=Zg ((hw.block w4.heap.size pg).trans P6.out);obtain⟨c0,c1,c2,c3,c4',_⟩:=Ze bW))
  all_goals
   (go_wp2_with fail
    obtain⟨W9,hW9,g9,gr9,gs9⟩:=Zu (a':=.slice A4 R.1.length c4) (b':=.slice B4 R.2.length d4) (c':=.slice E6 T.length c6) (d':=.slice X s.2.2.length xc) bW;obtain⟨n0,n1,n2,n3,_,_⟩:=Ze g9;rw[hW9];have BW:=B6.out.trans (hw.mono B6.out.size);have l3:=hb3.out.size;have l5:=B5.out.size;have l6:=B6.out.size;have r3:=s3.out;have r5:=s5.out;have r6:=s6.out;refine Qa0 (v:=.tuple #[.agg #[.slice A4 R.1.length c4,.slice B4 R.2.length d4,.slice E6 T.length c6,.slice X s.2.2.length xc],.int .i64 (k:Int),.int .i64 0]) (by simp[results,Tryz.results82,go_sem,n0,n1,n2,n3]) rfl ?_;rw[hT.out,hV.out,hE.out]
    exact⟨_,rfl,Sto.mk (((D6.out.new (Qa _) hw).grown gr9 (fun q e=>by cases e;omega)).new l3 (Qb _ _)) (Zf.new (Zf.grown (Zf.new T6.out (Qa _) hw) gr9 (fun q e=>by cases e;omega)) l5 (Qb _ _)) (Zf.new (Zf.grown hx gr9 (fun q e=>by cases e;omega)) l6 (Qb _ _)),BW.grown gr9 BW.size (fun q e=>by cases e;omega)⟩)}
theorem Zzw {s:Rm}{n:Int}(h:asE s n≠0):shE s n=asE s n:=by simp[shE,h]
theorem Yb2 {s:Rm}{n:Int}(h:asE s n=0):Xm s=true/\upE s.2.1 n=shE s n/\(shE s n=0->shV s n=(s.1,upV s.2.1 n,s.2.2)):=by{
 rcases Zit s n with ⟨_,e⟩ | ⟨_,_,e⟩ | ⟨k,_,_,_,_,_,e⟩ | ⟨k,hm,rfl,h8,h256,hx,e⟩
 ·rw[e] at h;cases h
 ·rw[e] at h;cases h
 ·rw[e] at h;cases h
 ·have hi:=Zpi h8 h256
  have hmt:=(Ye hm).2.1;have h1:upE s.2.1 (k:Int)=shE s (k:Int):=by simp[upE,Zdr,shE,e,hmt,hi]
  exact⟨hm,h1,fun h0=>by rw[shV,if_pos h0,upV,if_pos (by rw[h1];exact h0)]⟩}
theorem Zvo (v:Qax) (s:Rm) (n:Int) (w:Qaw) (h:Sto (Old w) w v s) :
  Qa2 Tryz.prog 53 #[v,.int .i64 n] w fun e w'=>∃ t,e=.returned (.tuple #[t,.int .i64 (shE s n)])/\Sto (New w.heap.size w') w' t (shV s n)/\Qa3 w.heap.size w w':=by{
 obtain⟨A,ca,B,cb,N,cn,L,cl,w1,rfl,hw1,f1,f2,hsz,hB,H⟩:=Zf1 h;clear h;obtain⟨k0,k1,k2,k3,_,kg⟩:=Ze f1;replace hsz:=Za hsz;replace f2:=Za f2;obtain⟨q,hq⟩:∃ q,shE s n=q:=⟨_,rfl⟩
 by_cases ha:asE s n=0
 ·obtain⟨hm,hup,hsv⟩:=Yb2 ha
  rw[hq] at hup hsv;have hll:=Za (Yw (Ye hm).2.2);have hsm:=Za (Zc9 (Ye hm).1);obtain⟨T,hT⟩:∃ T,upV s.2.1 n=T:=⟨_,rfl⟩
  rw[hT] at hsv;have hq0:q≠0->shV s n=Zj:=fun h=>Ybc (by rw[hq];exact h)
  have hq9:=hq;replace hq:=Za hq9;replace ha:=Za ha;replace hup:=Za hup;replace hT:=Za hT;replace hsv:=Za hsv;clear hq9
  go_enter Tryz.func53,Tryz.ntmps53
  go_upto_region 1 with fail
  clear hw1
  go_wp2_with fail
  with_reducible refine(Ue _ s n _ H.out).mono ?_
  rintro e w2 ⟨rfl,hb2⟩;rw[ha.out];have G2:=(hb2.block w.heap.size kg).trans f1;obtain⟨m0,m1,m2,m3,_,mg⟩:=Ze G2;have F2:=Za ((hb2.block (w.heap.size+1) (by rw[hsz.out];omega)).trans f2.out);have H2:=Za (H.out.below hb2);have s2:Hid (w.heap.size+2<=w2.heap.size):=Za (by have:=hb2.size;have:=hsz.out;omega);replace hb2:=Za (hB.trans (hb2.mono hB.size));replace G2:=Za G2;clear k0 k1 k2 k3 kg f1 hB
  go_wp2_with fail
  with_reducible refine(Zza _ s.2.1 n _ H2.out.parts.2.1).mono ?_
  rintro e w3 ⟨E3,c3,rfl,h3,hb3⟩;rw[hup.out,hT.out];rw[hT.out] at h3;have F3:=Za ((hb3.block (w.heap.size+1) (by have:=s2.out;omega)).trans F2.out);have G3:=(hb3.block w.heap.size mg).trans G2.out;have H3:=Za (H2.out.below hb3);have T3:=Za h3;have B3:=Za (hb2.out.trans (hb3.mono hb2.out.size));have s3:Hid (w.heap.size+2<=w3.heap.size):=Za (by have:=hb3.size;have:=s2.out;omega);clear hb3 h3 m0 m1 m2 m3 mg F2;obtain⟨m0,m1,m2,m3,_,mg⟩:=Ze G3;replace G3:=Za G3;by_cases hqz:q=0
  ·subst hqz
   have hV:=Za (hsv.out rfl);clear hq0 hsv
   go_upto_region 7 with fail
   refine Uf (by kernel_rfl) 8 (fun W=>Qa3 w3.heap.size w3 W) (fun i=>match i with
     | 2=>some (fun v W=>Dsk (New w3.heap.size W) W v s.1)
     | 6=>some (fun v W=>rBy (New w3.heap.size W) W [v] s.2.2)
     | 7=>some (fun v W=>∃ P p Q r X x,v=.agg #[.slice P s.1.1.length p,.slice Q s.1.2.length r,.slice E3 T.length c3,.slice X s.2.2.length x]/\Dsk (New w3.heap.size W) W (.agg #[.slice P s.1.1.length p,.slice Q s.1.2.length r]) s.1/\rBy (New w3.heap.size W) W [.slice X s.2.2.length x] s.2.2)
     | _=>none) (fun _=>none) (by decide) (by kernel_rfl) (by kernel_rfl) (Qb _ _).drew (fun w w' h hb=>h.trans (hb.mono h.size)) ?tst ?_
   case tst =>
    intro j φ x W W' hp hx hb
    match j,hp with
    | 2,hp=>cases hp;exact hx.new (Qa _) hb
    | 6,hp=>cases hp;exact Zf.new hx (Qa _) hb
    | 7,hp =>
     cases hp;obtain⟨P,p,Q,r,X,x,e1,e2,e3⟩:=hx;exact⟨P,p,Q,r,X,x,e1,e2.new (Qa _) hb,Zf.new e3 (Qa _) hb⟩
   simp only[P5,P7,P8,P9]
   repeat (first
    | (refine wpAs_skip rfl ?_;simp only[Qh,Zb,Zc,Zd])
    | (refine wpAs_pure (v := ?_) rfl rfl ?_ ?_;rotate_left;(intro W hC hE;clear hE;(have z0:=(hC.cell (p:=⟨w.heap.size,0,none⟩) mg).trans m0;have z1:=(hC.cell (p:=⟨w.heap.size,1,none⟩) mg).trans m1);clear hC;go_simp;first | done | with_reducible rfl);simp only[Qh,Zb,Zc,Zd]))
   refine wpAs_act rfl rfl ?_ ?_
   ·intro W hC hE
    clear hE;refine does_enter (f:=90) (args:=#[.agg #[.slice A s.1.1.length ca,.slice B s.1.2.length cb]]) ?_ ?_
    ·go_simp
    ·refine(Zux _ s.1 W hsm.out (H3.out.below hC).parts.1).mono ?_
     rintro e W' ⟨u,rfl,hu,hb⟩;exact⟨_,rfl,hu.new hC.size (Qb _ _),hb⟩
   simp only[Qh,Zb,Zc,Zd,envAdd];intro x29
   repeat (first
    | (refine wpAs_skip rfl ?_;simp only[Qh,Zb,Zc,Zd])
    | (refine wpAs_pure (v := ?_) rfl rfl ?_ ?_;rotate_left;(intro W hC hE;clear hE;(have z3:=(hC.cell (p:=⟨w.heap.size,3,none⟩) mg).trans m3);clear hC;go_simp;first | done | with_reducible rfl);simp only[Qh,Zb,Zc,Zd]))
   refine wpAs_act rfl rfl ?_ ?_
   ·intro W hC hE
    clear hE;refine does_enter (f:=80) (args:=#[.slice L s.2.2.length cl]) ?_ ?_
    ·go_simp
    ·refine(Zar _ s.2.2 W (by rw[hll.out];omega) (H3.out.below hC).parts.2.2).mono ?_
     rintro e W' ⟨u,rfl,ho,hb⟩;exact⟨_,rfl,Zf.new ho hC.size (Qb _ _),hb⟩
   simp only[Qh,Zb,Zc,Zd,envAdd];intro x33;refine wpAs_act rfl rfl ?_ ?_
   ·intro W hC hE
    have h33:=hE.1 rfl;have h29:=hE.2.1 rfl;obtain⟨X,x,rfl,_⟩:=Zt h33;obtain⟨P,p,Q,r,rfl,_⟩:=h29.open;have h33':=Za h33;have h29':=Za h29;clear hE hC h33 h29
    go_simp
    exact⟨⟨P,p,Q,r,X,x,rfl,h29'.out,h33'.out⟩,Qb _ _⟩
   simp only[Qh,Zb,Zc,Zd,envAdd];intro x34;refine wpAs_end fun W hC hE=> ?_
   obtain⟨⟨P,p,Q,r,X,x,rfl,hd,hx⟩,_⟩:=hE;have bW:=(hC.block (w.heap.size+1) (by have:=s3.out;omega)).trans F3.out;obtain⟨c0,c1,c2,c3',c4,c5⟩:=Ze bW;obtain⟨W9,hW9,g9,gr9,gs9⟩:=Zu (a':=.slice P s.1.1.length p) (b':=.slice Q s.1.2.length r) (c':=.slice E3 T.length c3) (d':=.slice X s.2.2.length x) bW;obtain⟨n0,n1,n2,n3,_,_⟩:=Ze g9;have BW:=B3.out.trans (hC.mono B3.out.size);have r3:=s3.out;have l2:=hb2.out.size;have l3:=B3.out.size
   have hfin:=Za (show Sto (New w.heap.size W9) W9 (.agg #[.slice P s.1.1.length p,.slice Q s.1.2.length r,.slice E3 T.length c3,.slice X s.2.2.length x]) (shV s n) from by
    rw[hV.out]
    exact Sto.mk ((hd.grown gr9 (fun q e=>by cases e;omega)).new l3 (Qb _ _)) (Zf.new (Zf.grown (Zf.new T3.out (Qa _) hC) gr9 (fun q e=>by cases e;have:=s2.out;omega)) l2 (Qb _ _)) (Zf.new (Zf.grown hx gr9 (fun q e=>by cases e;omega)) l3 (Qb _ _)))
   have hB9:=Za (BW.grown gr9 BW.size (fun q e=>by cases e;omega));clear hd hx gr9 gs9 BW r3 l2 l3;replace bW:=Za bW;replace g9:=Za g9
   go_wp2_with fail
   refine Qa0 (v:=.tuple #[.agg #[.slice P s.1.1.length p,.slice Q s.1.2.length r,.slice E3 T.length c3,.slice X s.2.2.length x],.int .i64 0]) (by simp[results,Tryz.results53,go_sem,n0,n1,n2,n3]) rfl ?_;rw[hq.out];exact⟨_,rfl,hfin.out,hB9.out⟩
  ·have hV:=Za (hq0 hqz)
   have hq1:(q != 0)=true:=by simpa using hqz
   clear hq0 hqz hsv;replace F3:=F3.out;obtain⟨k0,k1,k2,k3,k4,k5⟩:=Ze F3;obtain⟨W9,hW9,g9,gr9,gs9⟩:=Zu (a':=.slice none 0 0) (b':=.slice none 0 0) (c':=.slice none 0 0) (d':=.slice none 0 0) F3;obtain⟨n0,n1,n2,n3,_,_⟩:=Ze g9;have hB9:=Za ((B3).out.grown gr9 (B3).out.size (fun q e=>by cases e;omega));replace g9:=Za g9;replace F3:=Za F3;clear gr9 gs9
   go_wp2_with fail
   refine Qa0 (v:=.tuple #[.agg #[.slice none 0 0,.slice none 0 0,.slice none 0 0,.slice none 0 0],.int .i64 q]) (by simp[results,Tryz.results53,go_sem,n0,n1,n2,n3]) rfl ?_;rw[hV.out,hq.out];exact⟨_,rfl,Yv _ _,hB9.out⟩
 ·have hV:=Za (Ybc (s:=s) (n:=n) (by rw[Zzw ha];exact ha))
  rw[Zzw ha] at hq;have hq1:(q != 0)=true:=by rw[<- hq];simpa using ha
  have hq2:Hid (asE s n=q):=Za hq;replace hq:Hid (shE s n=q):=Za (by rw[Zzw ha];exact hq);clear ha
  go_enter Tryz.func53,Tryz.ntmps53
  go_upto_region 1 with fail
  clear hw1
  go_wp2_with fail
  with_reducible refine(Ue _ s n _ H.out).mono ?_
  rintro e w2 ⟨rfl,hb2⟩;rw[hq2.out];have F2:=(hb2.block (w.heap.size+1) (by rw[hsz.out];omega)).trans f2.out;replace hb2:=Za (hB.trans (hb2.mono hB.size));obtain⟨k0,k1,k2,k3,k4,k5⟩:=Ze F2;obtain⟨W9,hW9,g9,gr9,gs9⟩:=Zu (a':=.slice none 0 0) (b':=.slice none 0 0) (c':=.slice none 0 0) (d':=.slice none 0 0) F2;obtain⟨n0,n1,n2,n3,_,_⟩:=Ze g9;have hB9:=Za ((hb2).out.grown gr9 (hb2).out.size (fun q e=>by cases e;omega));replace g9:=Za g9;replace F2:=Za F2;clear gr9 gs9
  go_wp2_with fail
  refine Qa0 (v:=.tuple #[.agg #[.slice none 0 0,.slice none 0 0,.slice none 0 0,.slice none 0 0],.int .i64 q]) (by simp[results,Tryz.results53,go_sem,n0,n1,n2,n3]) rfl ?_;rw[hV.out,hq.out];exact⟨_,rfl,Yv _ _,hB9.out⟩}
def rmE (s:Rm) (n:Int):Int:=if asE s n=0 then reN (Z1 s.1 n.toNat) else asE s n
def rmV (s:Rm) (n:Int):Nd:=if asE s n=0 then reV (Z1 s.1 n.toNat) else V8
theorem Zxq {s:Rm}{n:Int}(h:asE s n≠0):rmE s n=asE s n/\rmV s n=V8:=⟨by rw[rmE,if_neg h],by rw[rmV,if_neg h]⟩
theorem Y6 {s:Rm}{n:Int}(h:asE s n=0):∃ k:Nat,n=k/\Xm s=true/\8<=k/\k<256/\Un s.1 n=0/\rdX s.1 n=Z1 s.1 k/\rmE s n=reN (Z1 s.1 k)/\rmV s n=reV (Z1 s.1 k)/\s.2.1[k]?.getD 0≠0:=by{
 rcases Zit s n with ⟨_,e⟩ | ⟨_,_,e⟩ | ⟨k,_,_,_,_,_,e⟩ | ⟨k,hm,rfl,h8,h256,hx,e⟩
 ·rw[e] at h;cases h
 ·rw[e] at h;cases h
 ·rw[e] at h;cases h
 ·have hmd:=(Ye hm).1
  have ht:=Zfh h256;exact⟨k,rfl,hm,h8,h256,by simp[Un,hmd,ht],by simp[rdX,Un,hmd,ht],by rw[rmE,if_pos h];rfl,by rw[rmV,if_pos h];rfl,hx⟩}
theorem Zb0 (v:Qax) (s:Rm) (n:Int) (w:Qaw) (h:Sto (Old w) w v s) :
  Qa2 Tryz.prog 36 #[v,.int .i64 n] w fun e w'=>∃ u,e=.returned (.tuple #[u,.int .i64 (rmE s n)])/\Zj8 w.heap.size w' u (rmV s n)/\Qa3 w.heap.size w w':=by{
 obtain⟨A,ca,B,cb,N,cn,L,cl,rfl,_,_,_⟩:=h.open;obtain⟨w1,hw1,f1,f2,hsz,hB⟩:∃ w1,(w.alloc (.cells #[.slice A s.1.1.length ca,.slice B s.1.2.length cb,.slice N s.2.1.length cn,.slice L s.2.2.length cl] 29)).alloc (.cells #[.int .i64 0,.slice none 0 0] 81)=w1 /\
   w1.heap[w.heap.size]? = some (.cells #[.slice A s.1.1.length ca,.slice B s.1.2.length cb,.slice N s.2.1.length cn,.slice L s.2.2.length cl] 29 (0,0))/\w1.heap[w.heap.size+1]? = some (.cells #[.int .i64 0,.slice none 0 0] 81 (0,0))/\w1.heap.size=w.heap.size+2/\Qa3 w.heap.size w w1:=by
  refine⟨_,rfl,Y5 (Qa1 _ _),?_,by simp,((Qb _ w).alloc (Qa _) _).alloc (by simp) _⟩;have:=Qa1 (w.alloc (.cells #[.slice A s.1.1.length ca,.slice B s.1.2.length cb,.slice N s.2.1.length cn,.slice L s.2.2.length cl] 29)) (.cells #[.int .i64 0,.slice none 0 0] 81)
  rwa [Qs] at this
 have H:=Za (h.below hB);clear h;obtain⟨k0,k1,k2,k3,_,kg⟩:=Ze f1;replace hsz:=Za hsz;replace f2:=Za f2;obtain⟨q,hq⟩:∃ q,rmE s n=q:=⟨_,rfl⟩
 by_cases ha:asE s n=0
 ·obtain⟨k,rfl,hm,h8,h256,hck,hrd,hE,hV,-⟩:=Y6 ha
  obtain⟨b,hb⟩:∃ b,Z1 s.1 k=b:=⟨_,rfl⟩
  rw[hb] at hrd hE hV;rw[hE] at hq;replace hE:Hid (rmE s (k:Int)=q):=Za (by rw[hE,hq]);replace hq:=Za hq;replace ha:=Za ha;replace hck:=Za hck;replace hrd:=Za hrd;replace hV:=Za hV;replace hb:=Za hb
  go_enter Tryz.func36,Tryz.ntmps36
  go_upto_region 1 with fail
  clear hw1
  go_wp2_with fail
  with_reducible refine(Ue _ s (k:Int) _ H.out).mono ?_
  rintro e w2 ⟨rfl,hb2⟩;rw[ha.out];have G2:=(hb2.block w.heap.size kg).trans f1;obtain⟨m0,m1,m2,m3,_,mg⟩:=Ze G2;have F2:=Za ((hb2.block (w.heap.size+1) (by rw[hsz.out];omega)).trans f2.out);have H2:=Za (H.out.below hb2);have s2:Hid (w.heap.size+2<=w2.heap.size):=Za (by have:=hb2.size;have:=hsz.out;omega);replace hb2:=Za (hB.trans (hb2.mono hB.size));clear k0 k1 k2 k3 kg f1 hB G2
  go_wp2_with fail
  with_reducible refine(Z45 _ s.1 (k:Int) _ H2.out.parts.1).mono ?_
  rintro e w3 ⟨u3,rfl,h3,hb3⟩;rw[hck.out];rw[hrd.out] at h3;obtain⟨R,rc,rfl,_⟩:=id (Zt h3);have F3:=Za ((hb3.block (w.heap.size+1) (by have:=s2.out;omega)).trans F2.out);have B3:=Za (hb2.out.trans (hb3.mono hb2.out.size));have s3:Hid (w.heap.size+2<=w3.heap.size):=Za (by have:=hb3.size;have:=s2.out;omega);have H3:=Za (Zf.drop h3);clear hb3 h3 m0 m1 m2 m3 mg F2
  go_wp2_with fail
  with_reducible refine(Zn9 _ b _ H3.out).mono ?_
  rintro e w4 ⟨u4,rfl,h4,hb4⟩;rw[hq.out];obtain⟨P,pc,rfl,_⟩:=id h4;have F4:=(hb4.block (w.heap.size+1) (by have:=s3.out;omega)).trans F3.out;obtain⟨m0,m1,m2,m3⟩:=Zg F4;obtain⟨W9,hW9,g9,gr9,gs9⟩:=Xt (u:=.int .i64 (reV b).1) (v:=.slice P (reV b).2.length pc) F4;obtain⟨n0,n1,_,_⟩:=Zg g9;have r3:=s3.out;have l3:=B3.out.size
  have hfin:=Za (show Zj8 w.heap.size W9 (.agg #[.int .i64 (reV b).1,.slice P (reV b).2.length pc]) (rmV s (k:Int)) from by
   rw[hV.out]
   exact(h4.grown gr9 (fun q e=>by cases e;omega)).new l3 (Qb _ _))
  have hB9:=Za ((B3.out.trans (hb4.mono B3.out.size)).grown gr9 (Qz l3 hb4.size) (fun q e=>by cases e;omega));replace F4:=Za F4;replace g9:=Za g9;clear gr9 gs9 h4 hb4 r3 l3
  go_wp2_with fail
  refine Qa0 (v:=.tuple #[.agg #[.int .i64 (reV b).1,.slice P (reV b).2.length pc],.int .i64 q]) (by simp[results,Tryz.results36,go_sem,n0,n1]) rfl ?_;rw[hE.out];exact⟨_,rfl,hfin.out,hB9.out⟩
 ·obtain⟨hE,hV⟩:=Zxq ha
  rw[hE] at hq;have hq1:(q != 0)=true:=by rw[<- hq];simpa using ha
  have hq2:Hid (asE s n=q):=Za hq;replace hq:Hid (rmE s n=q):=Za (by rw[hE];exact hq);replace hV:=Za hV;clear ha hE
  go_enter Tryz.func36,Tryz.ntmps36
  go_upto_region 1 with fail
  clear hw1
  go_wp2_with fail
  with_reducible refine(Ue _ s n _ H.out).mono ?_
  rintro e w2 ⟨rfl,hb2⟩;rw[hq2.out];have F2:=(hb2.block (w.heap.size+1) (by rw[hsz.out];omega)).trans f2.out;replace hb2:=Za (hB.trans (hb2.mono hB.size));obtain⟨m0,m1,m2,m3⟩:=Zg F2;obtain⟨W9,hW9,g9,gr9,gs9⟩:=Xt (u:=.int .i64 0) (v:=.slice none 0 0) F2;obtain⟨n0,n1,_,_⟩:=Zg g9;have hB9:=Za ((hb2).out.grown gr9 (hb2).out.size (fun q e=>by cases e;omega));replace g9:=Za g9;replace F2:=Za F2;clear gr9 gs9
  go_wp2_with fail
  refine Qa0 (v:=.tuple #[.agg #[.int .i64 0,.slice none 0 0],.int .i64 q]) (by simp[results,Tryz.results36,go_sem,n0,n1]) rfl ?_;rw[hV.out,hq.out];exact⟨_,rfl,Zj8.zero _ _,hB9.out⟩}
theorem Zpw (v:Qax) (s:Rm) (n:Int) (w:Qaw) (h:Sto (Old w) w v s) :
  Qa2 Tryz.prog 36 #[v,.int .i64 n] w fun e w'=>∃ u,e=.returned (.tuple #[u,.int .i64 (rmE s n)])/\Nod (New w.heap.size w') w' u (rmV s n)/\Qa3 w.heap.size w w' :=
 (Zb0 v s n w h).mono fun _ _ ⟨u,e1,h1,h2⟩=>⟨u,e1,h1.nod,h2⟩
def Zbh:Ky:=(0,0,0)
def Yr (s:Rm) (l:List It):Bool:=l.all fun x=>decide (x.2.1=0)||decide (s.2.1[x.2.1.toNat]?.getD 0≠0)
def Zax (f:Int->Ky->Ky->Bool->Bool):List It->Ky->Bool->Bool
 | [],_,_=>true
 | [x],tb,ends=>f x.2.1 x.1 tb ends
 | x::y::r,tb,ends=>f x.2.1 x.1 y.1 true&&Zax f (y::r) tb ends
def Zel (l:List It) (k tb:Ky) (ends:Bool):Bool:=(match l[0]? with | none=>false | some x=>decide (x.1=k))&&(!ends||(match l.getLast? with | none=>false | some y=>Zo y.1 tb))
def Zy (s:Rm):Nat->Int->Ky->Ky->Bool->Bool
 | 0,a,k,tb,ends=>(decide (rmE s a=0)&&decide ((rmV s a).1=0))&&(Zel (rmV s a).2 k tb ends&&Yr s (rmV s a).2)
 | l+1,a,k,tb,ends=>(decide (rmE s a=0)&&decide ((rmV s a).1=((l+1:Nat):Int)))&&(Zel (rmV s a).2 k tb ends&&Zax (Zy s l) (rmV s a).2 tb ends)
def U6 (s:Rm) (n:Nd) (tb:Ky) (ends:Bool):Bool:=match n.1.toNat with
 | 0=>Yr s n.2
 | l+1=>Zax (Zy s l) n.2 tb ends
def Yo (s:Rm) (a:Int):Bool:=decide (rmE s a=0)&&U6 s (rmV s a) Zbh false
def ckE (s:Rm) (a:Int):Int:=if asE s a=0 then (if Yo s a then 0 else 8) else asE s a
def ckH (s:Rm) (a:Int):Int:=if ckE s a=0 then (rmV s a).1+1 else 0
def X2 (s:Rm):Nat->Int->List It
 | 0,a=>(rmV s a).2
 | l+1,a=>(rmV s a).2.flatMap fun x=>X2 s l x.2.1
def Zcl (s:Rm):Nat->Int->Ky->Option It
 | 0,a,k=>(rmV s a).2.reverse.find? fun x=>decide (x.1=k)
 | l+1,a,k=>((rmV s a).2.reverse.find? fun x => !Zo k x.1).bind fun x=>Zcl s l x.2.1 k
def Vo (s:Rm) (a:Int):List It:=X2 s (rmV s a).1.toNat a
def Zdv (s:Rm) (a:Int) (k:Ky):Option It:=Zcl s (rmV s a).1.toNat a k
def Up (l:List It):Prop:=l.Pairwise fun x y=>Zo x.1 y.1=true
theorem Z9 {s:Rm}{a:Int}(h:rmE s a=0):mayN (rmV s a)=true/\asE s a=0:=by{
 by_cases ha:asE s a=0
 ·obtain⟨k,_,_,_,_,_,_,hE,hV,_⟩:=Y6 ha
  rw[hE] at h;rw[hV];exact⟨(Zfb h).1,ha⟩
 ·rw[(Zxq ha).1] at h
  exact absurd h ha}
theorem Uk {n:Nd}(h:mayN n=true):Up n.2:=by
 rw[Up,List.pairwise_iff_getElem];intro i j hi hj hij;exact Zaz h hij (Qc hi) (Qc hj)
theorem Zdw {x:It}{l:List It}(h:Up (x::l)):∀ y∈x::l,y.1=x.1\/Zo x.1 y.1=true:=fun y hy=>by
 rcases Qe.1 hy with rfl | hy
 ·exact .inl rfl
 ·exact .inr ((Qu.1 h).1 y hy)
theorem Zq8 {l:List It}{z:It}{tb:Ky}(h:Up l) (hl:l.getLast? = some z) (hz:Zo z.1 tb=true):∀ y∈l,Zo y.1 tb=true:=fun y hy=>by
 obtain⟨r,rfl⟩:=List.getLast?_eq_some_iff.1 hl;rcases Qp.1 hy with hy | hy
 ·exact Yt ((Pi.1 h).2.2 y hy z (by simp)) hz
 ·rw[Ql.1 hy]
  exact hz
theorem Zbs {l:List It}{k tb:Ky}{ends:Bool}(h:Zel l k tb ends=true):∃ x r,l=x::r/\x.1=k/\(ends=true->∃ z,l.getLast? = some z/\Zo z.1 tb=true):=by{
 unfold Zel at h;rw[Qd] at h;obtain⟨h1,h2⟩:=h;cases l with
 | nil=>simp at h1
 | cons x r =>
  refine⟨x,r,rfl,by simpa using h1,fun he=> ?_⟩;rw[he] at h2;cases hz:(x::r).getLast? with
  | none=>rw[hz] at h2;simp at h2
  | some z=>rw[hz] at h2;exact⟨z,rfl,by simpa using h2⟩}
structure Z9f (M:List It) (k tb:Ky) (ends:Bool) (N:Nat):Prop where
 first:∃ x r,M=x::r/\x.1=k
 up:Up M
 bound:ends=true->∀ y∈M,Zo y.1 tb=true
 few:M.length<=N
theorem Z9f.ge {M:List It}{k tb:Ky}{ends:Bool}{N:Nat}(h:Z9f M k tb ends N):∀ y∈M,y.1=k\/Zo k y.1=true:=by
 obtain⟨x,r,rfl,rfl⟩:=h.first;exact Zdw h.up
theorem Zaw {f:Int->Ky->Ky->Bool->Bool}{g:Int->List It}{N:Nat}(hf:∀ a k tb ends,f a k tb ends=true->Z9f (g a) k tb ends N):∀ (L:List It) (tb:Ky) (ends:Bool),L≠[]->Zax f L tb ends=true ->
  ∃ x r,L=x::r/\Z9f (L.flatMap fun x=>g x.2.1) x.1 tb ends (N*L.length)
 | [],_,_,h,_=>absurd rfl h
 | [x],tb,ends,_,h=>by
  refine⟨x,[],rfl,?_⟩;have:=hf _ _ _ _ h
  simpa using this
 | x::y::r,tb,ends,_,h=>by
  refine⟨x,y::r,rfl,?_⟩;unfold Zax at h;rw[Qd] at h;have hx:=hf _ _ _ _ h.1;obtain⟨y',r',e,hy⟩:=Zaw hf (y::r) tb ends (by simp) h.2;cases e;have e2:(x::y::r).flatMap (fun x=>g x.2.1)=g x.2.1++(y::r).flatMap fun x=>g x.2.1:=Qv
  rw[e2];have hb:=hx.bound rfl;have hlt:∀ p∈g x.2.1,∀ q∈(y::r).flatMap (fun x=>g x.2.1),Zo p.1 q.1=true:=fun p hp q hq=>by
   rcases hy.ge q hq with e | e
   ·rw[e];exact hb p hp
   ·exact Yt (hb p hp) e
  refine⟨?_,?_,fun he p hp=> ?_,?_⟩
  ·obtain⟨z,q,ez,kz⟩:=hx.first
   exact⟨z,_,by rw[ez];rfl,kz⟩
  ·exact Pi.2 ⟨hx.up,hy.up,hlt⟩
  ·rcases Qp.1 hp with hp | hp
   ·obtain⟨z,q,ez,kz⟩:=hy.first
    have hz:=hlt p hp z (by rw[ez];simp);exact Yt hz (hy.bound he z (by rw[ez];simp))
   ·exact hy.bound he p hp
  ·have h1:=hx.few
   have h2:=hy.few;rw[Qaa];have e3:N*(x::y::r).length=N+N*(y::r).length:=by rw[Qr,Nat.mul_succ,Nat.add_comm]
   omega
theorem Ya {s:Rm}{l:Nat}{a:Int}{k tb:Ky}{ends:Bool}(h:Zy s l a k tb ends=true):rmE s a=0/\(rmV s a).1=l/\Zel (rmV s a).2 k tb ends=true/\(match l with | 0=>Yr s (rmV s a).2 | l'+1=>Zax (Zy s l') (rmV s a).2 tb ends)=true:=by{
 cases l with
 | zero =>
  simp only[Zy,Qd,decide_eq_true_eq] at h;exact⟨h.1.1,h.1.2,h.2.1,h.2.2⟩
 | succ l =>
  simp only[Zy,Qd,decide_eq_true_eq] at h;exact⟨h.1.1,h.1.2,h.2.1,h.2.2⟩}
theorem Y4 (s:Rm):∀ (l:Nat) (a:Int) (k tb:Ky) (ends:Bool),Zy s l a k tb ends=true->Z9f (X2 s l a) k tb ends (5 ^ (l+1))
 | 0,a,k,tb,ends,h=>by
  obtain⟨h1,h2,h3,h4⟩:=Ya h;obtain⟨hm,_⟩:=Z9 h1;obtain⟨x,r,e,ek,hz⟩:=Zbs h3;refine⟨⟨x,r,e,ek⟩,Uk hm,fun he=> ?_,?_⟩
  ·obtain⟨z,e1,e2⟩:=hz he
   exact Zq8 (Uk hm) e1 e2
  ·exact(Zx hm).1.2.2.1
 | l+1,a,k,tb,ends,h=>by
  obtain⟨h1,h2,h3,h4⟩:=Ya h;obtain⟨hm,_⟩:=Z9 h1;obtain⟨x,r,e,ek,hz⟩:=Zbs h3;obtain⟨x',r',e',hp⟩:=Zaw (Y4 s l) (rmV s a).2 tb ends (by rw[e];simp) h4;rw[e] at e';cases e';rw[ek] at hp;refine⟨hp.first,hp.up,hp.bound,Qz hp.few ?_⟩;have h5:=(Zx hm).1.2.2.1;rw[Nat.pow_succ 5 (l+1)];exact Nat.mul_le_mul_left _ h5
theorem Z6a (s:Rm):∀ (l:Nat) (a:Int) (k:Ky) (x:It),Zcl s l a k=some x->x∈X2 s l a/\x.1=k
 | 0,a,k,x,h=>by
  have h':(rmV s a).2.reverse.find? (fun x=>decide (x.1=k))=some x:=h;exact⟨Qw.1 (Q0 h'),by simpa using List.find?_some h'⟩
 | l+1,a,k,x,h=>by
  unfold Zcl at h;cases hf:(rmV s a).2.reverse.find? (fun x => !Zo k x.1) with
  | none=>rw[hf] at h;cases h
  | some y =>
   rw[hf] at h;obtain⟨h1,h2⟩:=Z6a s l y.2.1 k x h;exact⟨Qk.2 ⟨y,Qw.1 (Q0 hf),h1⟩,h2⟩
theorem Ztt {p:It->Bool}(x:It) (l:List It):(x::l).reverse.find? p=match l.reverse.find? p with | some y=>some y | none=>if p x then some x else none:=by{
 rw[List.reverse_cons,Qab];cases l.reverse.find? p with
 | some y=>rfl
 | none =>
  simp only[Option.none_or,Qac,List.find?_nil];cases p x <;> rfl}
theorem Zde {p:It->Bool}{l:List It}(h:∀ x∈l,p x=false):l.reverse.find? p=none:=by
 rw[List.find?_eq_none];intro x hx;rw[h x (Qw.1 hx)];simp
theorem Zng {f:Int->Ky->Ky->Bool->Bool}{g:Int->List It}{N:Nat}(hf:∀ a k tb ends,f a k tb ends=true->Z9f (g a) k tb ends N):∀ (L:List It) (tb:Ky) (ends:Bool),Up L->Zax f L tb ends=true->∀ x∈L.flatMap (fun x=>g x.2.1),
  ∃ y∈L,x∈g y.2.1/\(L.reverse.find? fun z => !Zo x.1 z.1)=some y/\∃ t e,f y.2.1 y.1 t e=true
 | [],_,_,_,_,x,hx=>by simp at hx
 | [y],tb,ends,_,h,x,hx=>by
  have hx':x∈g y.2.1:=by simpa using hx
  refine⟨y,by simp,hx',?_,tb,ends,h⟩;have hp:=hf _ _ _ _ h;have:Zo x.1 y.1=false:=by
   rcases hp.ge x hx' with e | e
   ·rw[e];exact Y2 _
   ·exact Ve e
  simp[this]
 | y::z::r,tb,ends,hu,h,x,hx=>by
  unfold Zax at h;rw[Qd] at h;have hy:=hf _ _ _ _ h.1;have e2:(y::z::r).flatMap (fun x=>g x.2.1)=g y.2.1++(z::r).flatMap fun x=>g x.2.1:=Qv
  rw[e2] at hx;rw[Ztt];rcases Qp.1 hx with hx | hx
  ·have hb:=hy.bound rfl x hx
   have hge:Zo x.1 y.1=false:=by
    rcases hy.ge x hx with e | e
    ·rw[e];exact Y2 _
    ·exact Ve e
   have hno:(z::r).reverse.find? (fun w => !Zo x.1 w.1)=none:=Zde fun w hw=>by
    rcases Zdw (Qu.1 hu).2 w hw with e | e
    ·rw[e,hb];rfl
    ·rw[Yt hb e];rfl
   refine⟨y,by simp,hx,?_,_,_,h.1⟩;rw[hno];simp[hge]
  ·obtain⟨w,hw,h1,h2,h3⟩:=Zng hf (z::r) tb ends (Qu.1 hu).2 h.2 x hx
   exact⟨w,Qf _ hw,h1,by rw[h2],h3⟩
theorem Zld {l:List It}(hu:Up l){x:It}(hx:x∈l):(l.reverse.find? fun y=>decide (y.1=x.1))=some x:=by{
 induction l with
 | nil=>simp at hx
 | cons y r ih =>
  rw[Ztt];rcases Qe.1 hx with rfl | hx
  ·have hno:r.reverse.find? (fun y=>decide (y.1=x.1))=none:=Zde fun z hz=>by
    have h1:=(Qu.1 hu).1 z hz;have:z.1≠x.1:=fun e=>by rw[e,Y2] at h1;cases h1
    simpa using this
   rw[hno];simp
  ·rw[ih (Qu.1 hu).2 hx]}
theorem Zio (s:Rm):∀ (l:Nat) (a:Int) (k tb:Ky) (ends:Bool),Zy s l a k tb ends=true->∀ x∈X2 s l a,Zcl s l a x.1=some x
 | 0,a,k,tb,ends,h,x,hx=>Zld (Uk (Z9 (Ya h).1).1) hx
 | l+1,a,k,tb,ends,h,x,hx=>by
  obtain⟨h1,h2,h3,h4⟩:=Ya h;obtain⟨y,hy,h5,h6,t,e,h7⟩:=Zng (Y4 s l) (rmV s a).2 tb ends (Uk (Z9 h1).1) h4 x hx;unfold Zcl;rw[h6];exact Zio s l y.2.1 y.1 t e h7 x h5
theorem Xf {s:Rm}{a:Int}(h:Yo s a=true):rmE s a=0/\asE s a=0/\mayN (rmV s a)=true/\0<=(rmV s a).1/\(rmV s a).1<6/\U6 s (rmV s a) Zbh false=true:=by
 simp only[Yo,Qd,decide_eq_true_eq] at h;obtain⟨hm,ha⟩:=Z9 h.1;exact⟨h.1,ha,hm,(Zx hm).1.1,(Zx hm).1.2.1,h.2⟩
theorem Zhf {s:Rm}{a:Int}(h:Yo s a=true):Up (Vo s a)/\(Vo s a).length<=15625/\(∀ x∈Vo s a,Zdv s a x.1=some x):=by{
 obtain⟨h1,_,hm,l0,l6,hi⟩:=Xf h;unfold Vo Zdv;unfold U6 at hi;have hl:(rmV s a).1.toNat<=5:=by omega
 generalize hl0:(rmV s a).1.toNat=l at hi hl ⊢;cases l with
 | zero =>
  refine⟨Uk hm,Qz (Zx hm).1.2.2.1 (by decide),fun x hx=>Zld (Uk hm) hx⟩
 | succ l =>
  have hne:(rmV s a).2≠[]:=fun e=>by
   have:=(Zx hm).1.2.2.2 (by omega);rw[e] at this;simp at this
  obtain⟨x,r,e,hp⟩:=Zaw (Y4 s l) (rmV s a).2 Zbh false hne hi;refine⟨hp.up,Qz hp.few ?_,fun x hx=> ?_⟩
  ·have h5:=(Zx hm).1.2.2.1
   have hpw:5 ^ (l+1)<=5 ^ 5:=Nat.pow_le_pow_right (by decide) (by omega);have:=Nat.mul_le_mul hpw h5;omega
  ·obtain⟨y,hy,h5,h6,t,e,h7⟩:=Zng (Y4 s l) (rmV s a).2 Zbh false (Uk hm) hi x hx
   unfold Zcl;rw[h6];exact Zio s l y.2.1 y.1 t e h7 x h5}
theorem Ya8 {s:Rm}{a:Int}{k:Ky}{x:It}(h:Zdv s a k=some x):x∈Vo s a/\x.1=k:=Z6a s _ a k x h
theorem Zou {s:Rm}{l:List It}{i:Nat}{x:It}(hx:l[i]? = some x):Yr s (l.take (i+1))=(Yr s (l.take i)&&(decide (x.2.1=0)||decide (s.2.1[x.2.1.toNat]?.getD 0≠0))):=by
 have hk:=(Qj.1 hx).1;have hg:l[i]=x:=(Qj.1 hx).2;rw[<- Pj hk,hg];simp[Yr]
theorem Z48 {s:Rm}{l:List It}{i:Nat}(h:Yr s (l.take i)=false):Yr s l=false:=by{
 cases e:Yr s l with
 | false=>rfl
 | true =>
  unfold Yr at e h;rw[Qx] at e;rw[<- h]
  symm
  rw[Qx];exact fun x hx=>e x (Pk hx)}
def nxO (r:List It) (tb:Ky):Ky:=match r with | []=>tb | y::_=>y.1
def bxO (r:List It) (ends:Bool):Bool:=match r with | []=>ends | _::_=>true
theorem Vl (f:Int->Ky->Ky->Bool->Bool) (x:It) (r:List It) (tb:Ky) (ends:Bool):Zax f (x::r) tb ends=(f x.2.1 x.1 (nxO r tb) (bxO r ends)&&Zax f r tb ends):=by
 cases r with
 | nil=>simp[Zax,nxO,bxO]
 | cons y r=>rfl
def Xj:List It->Nat->Nat
 | [],_=>0
 | x::l,i=>(if x.2.1=(i:Int) then (if x.2.1=0 then 0 else 1) else 0)+Xj l i
def Zbo (l:List It):Prop:=∀ x∈l,x.2.1=0\/(8<=x.2.1/\x.2.1<256)
theorem Zbz {x:It}{l:List It}(h:Zbo (x::l)):(x.2.1=0\/∃ k:Nat,x.2.1=k/\8<=k/\k<256)/\Zbo l:=by
 refine⟨?_,fun y hy=>h y (Qf _ hy)⟩;rcases h x Qg with h1 | ⟨h1,h2⟩
 ·exact .inl h1
 ·exact .inr ⟨x.2.1.toNat,by omega,by omega,by omega⟩
theorem Vx {n:Nd}(h:mayN n=true):Zbo n.2:=fun x hx=>by
 obtain⟨i,hi⟩:=Qm hx;have hk:=(Qj.1 hi).1;simp only[mayN,Qd,Qx] at h;have h1:=h.2 i (by simpa using hk);simp only[Zkc,hi,okP,Qd] at h1;exact(Zaj h1.1.1).1
theorem Zby {x:It}{l:List It}(h:x.2.1=0) (i:Nat):Xj (x::l) i=Xj l i:=by
 simp only[Xj,h,if_true];split <;> simp
theorem Za7 {x:It}{l:List It}{k:Nat}(h:x.2.1=k) (h8:8<=k) (i:Nat):Xj (x::l) i=(if i=k then 1 else 0)+Xj l i:=by{
 simp only[Xj,h];by_cases e:i=k
 ·subst e
  rw[if_pos rfl,if_neg (by omega),if_pos rfl]
 ·rw[if_neg (by omega),if_neg e]}
theorem Z11 {l:List It}(h:Zbo l){i:Nat}(hi:i<8\/256<=i):Xj l i=0:=by{
 induction l with
 | nil=>rfl
 | cons x l ih =>
  obtain⟨h1,h2⟩:=Zbz h;rcases h1 with h1 | ⟨k,h1,h8,h256⟩
  ·rw[Zby h1,ih h2]
  ·rw[Za7 h1 h8,ih h2,if_neg (by omega)]}
def ctE:List UInt8->List It->Int
 | _,[]=>0
 | t,x::l=>if x.2.1=0 then ctE t l else if t[x.2.1.toNat]?.getD 0=0 then 6 else if t[x.2.1.toNat]?.getD 0=255 then 70 else ctE (t.set x.2.1.toNat (t[x.2.1.toNat]?.getD 0+1)) l
def ctV:List UInt8->List It->List UInt8
 | t,[]=>t
 | t,x::l=>if x.2.1=0 then ctV t l else ctV (t.set x.2.1.toNat (t[x.2.1.toNat]?.getD 0+1)) l
theorem Zew:∀ (l:List It) (t:List UInt8),(ctV t l).length=t.length
 | [],_=>rfl
 | x::l,t=>by
  unfold ctV;split
  ·exact Zew l t
  ·rw[Zew l,Q3]
theorem Zmu:∀ (a b:List It) (t:List UInt8),ctE t (a++b)=if ctE t a=0 then ctE (ctV t a) b else ctE t a
 | [],b,t=>by simp[ctE,ctV]
 | x::a,b,t=>by
  simp only[Qo,ctE,ctV];split
  ·exact Zmu a b t
  ·split
   ·simp
   ·split
    ·simp
    ·exact Zmu a b _
theorem Zqr:∀ (a b:List It) (t:List UInt8),ctV t (a++b)=ctV (ctV t a) b
 | [],b,t=>rfl
 | x::a,b,t=>by
  simp only[Qo,ctV];split
  ·exact Zqr a b t
  ·exact Zqr a b _
theorem Zxt {x:UInt8}(h:x≠255):(x+1).toNat=x.toNat+1:=by
 have:=(Zjo h).1;omega
theorem Zi5 {x:UInt8}(h:x≠0):(x-1).toNat+1=x.toNat:=by
 have h1:=(Zjo (x:=x-1) (Zwd h)).1;rw[Z0p.2] at h1;omega
theorem Vy {x:UInt8}:x.toNat=0↔x=0:=⟨fun h=>UInt8.toNat_inj.1 (by rw[h];rfl),fun h=>by rw[h];rfl⟩
theorem Zdc:∀ (l:List It) (t:List UInt8),Zbo l->t.length=256->ctE t l=0 ->
  (∀ i,((ctV t l)[i]?.getD 0).toNat=(t[i]?.getD 0).toNat+Xj l i)/\(∀ i,Xj l i≠0->t[i]?.getD 0≠0)
 | [],t,_,_,_=>⟨fun i=>by simp[ctV,Xj],fun i h=>absurd rfl h⟩
 | x::l,t,hr,hl,h=>by
  obtain⟨h1,h2⟩:=Zbz hr;unfold ctE at h;unfold ctV;rcases h1 with h1 | ⟨k,h1,h8,h256⟩
  ·rw[if_pos h1] at h ⊢
   obtain⟨c1,c2⟩:=Zdc l t h2 hl h;exact⟨fun i=>by rw[c1 i,Zby h1],fun i hi=>c2 i (by rwa [Zby h1] at hi)⟩
  ·have e0:¬ x.2.1=0:=by omega
   have ek:x.2.1.toNat=k:=by omega
   rw[if_neg e0,ek] at h;rw[if_neg e0,ek];by_cases hz:t[k]?.getD 0=0
   ·rw[if_pos hz] at h;cases h
   ·by_cases hm:t[k]?.getD 0=255
    ·rw[if_neg hz,if_pos hm] at h;cases h
    ·rw[if_neg hz,if_neg hm] at h
     obtain⟨c1,c2⟩:=Zdc l (t.set k (t[k]?.getD 0+1)) h2 (by rw[Q3,hl]) h;refine⟨fun i=> ?_,fun i hi=> ?_⟩
     ·rw[c1 i,Za7 h1 h8]
      by_cases e:i=k
      ·subst e
       rw[Zcu (by omega),Zxt hm,if_pos rfl];omega
      ·rw[Ub e,if_neg e]
       omega
     ·by_cases e:i=k
      ·subst e;exact hz
      ·rw[Za7 h1 h8,if_neg e,Nat.zero_add] at hi
       have:=c2 i hi
       rwa [Ub e] at this
theorem Zz9 {a b:List UInt8}(hl:a.length=b.length) (h:∀ i:Nat,(a[i]?.getD 0).toNat=(b[i]?.getD 0).toNat):a=b:=by
 refine Qad hl fun i h1 h2=> ?_
 have:=UInt8.toNat_inj.1 (h i)
 rwa [Qc h1,Qc h2] at this
theorem Z98 {t:List UInt8}{l:List It}(hm:Zbj t=true) (hr:Zbo l) (h:ctE t l=0):Zbj (ctV t l)=true:=by
 have hl:=Yw hm;obtain⟨c1,_⟩:=Zdc l t hr hl h;refine Zhr (by rw[Zew,hl]) fun j hj=>Vy.1 ?_
 rw[c1 j,Z11 hr (.inl hj),Zmt hm hj];rfl
theorem Zx2 {t:List UInt8}{l:List It}(hl:t.length=256) (hr:Zbo l) (h:ctE t l=0) (i:Nat):(ctV t l)[i]?.getD 0=0↔t[i]?.getD 0=0:=by
 obtain⟨c1,c2⟩:=Zdc l t hr hl h;rw[<- Vy,c1 i,<- Vy (x:=t[i]?.getD 0)];refine⟨fun h=>by omega,fun h=> ?_⟩;by_cases e:Xj l i=0
 ·omega
 ·exact absurd (Vy.1 h) (c2 i e)
def ctS (s:Rm) (n:Nd):Rm:=(s.1,ctV s.2.1 n.2,s.2.2)
def mkE (s:Rm) (n:Nd):Int:=if Xm s&&mayN n then (if ctE s.2.1 n.2=0 then tkE (ctS s n) (Va n) else ctE s.2.1 n.2) else 8
def mkN (s:Rm) (n:Nd):Int:=if mkE s n=0 then tkN (ctS s n) (Va n) else 0
def mkV (s:Rm) (n:Nd):Rm:=if mkE s n=0 then tkV (ctS s n) (Va n) else Zj
theorem Zw8 {s:Rm}{n:Nd}(h:mkE s n≠0):mkN s n=0/\mkV s n=Zj:=⟨by rw[mkN,if_neg h],by rw[mkV,if_neg h]⟩
theorem Z8c {s:Rm}{n:Nd}(hm:Xm s=true) (hn:mayN n=true) (h:ctE s.2.1 n.2=0):Xm (ctS s n)=true:=by
 obtain⟨m1,m2,m3⟩:=Ye hm;exact Zag m1 (Z98 m2 (Vx hn) h) m3
theorem Z29 {s:Rm}{n:Nd}(hm:Xm s=true) (hn:mayN n=true) (h:ctE s.2.1 n.2=0):Xz (ctS s n)=Xz s:=by
 unfold Xz Zbw;refine Py fun i _=> ?_
 have:=Zx2 (Yw (Ye hm).2.1) (Vx hn) h i;show (decide ((ctV s.2.1 n.2)[i]?.getD 0=0)&&_)=(decide (s.2.1[i]?.getD 0=0)&&_);rw[decide_eq_decide.2 this];rfl
theorem Zvy {s:Rm}{n:Nd}(h:mkE s n=0):Xm s=true/\mayN n=true/\ctE s.2.1 n.2=0/\tkE (ctS s n) (Va n)=0/\mkN s n=tkN (ctS s n) (Va n)/\mkV s n=tkV (ctS s n) (Va n):=by{
 have hN:mkN s n=tkN (ctS s n) (Va n):=by rw[mkN,if_pos h]
 have hV:mkV s n=tkV (ctS s n) (Va n):=by rw[mkV,if_pos h]
 unfold mkE at h;cases hm:Xm s with
 | false=>rw[hm] at h;simp at h
 | true =>
  cases hn:mayN n with
  | false=>rw[hm,hn] at h;simp at h
  | true =>
   rw[hm,hn] at h;simp only[Bool.and_self,if_true] at h;by_cases hc:ctE s.2.1 n.2=0
   ·rw[if_pos hc] at h
    exact⟨rfl,rfl,hc,h,hN,hV⟩
   ·rw[if_neg hc] at h
    exact absurd h hc}
theorem X5 {s:Rm}{n:Nd}(h:mkE s n=0):∃ k:Nat,mkN s n=k/\8<=k/\k<256/\s.2.1[k]?.getD 0=0/\s.2.2[k]?.getD 0=0/\Xj n.2 k=0/\mkV s n=(wrD s.1 k (Va n),(ctV s.2.1 n.2).set k 1,s.2.2)/\Xm (mkV s n)=true /\
  (mkV s n).2.1[k]?.getD 0=1/\(∀ i,i≠k->((mkV s n).2.1[i]?.getD 0).toNat=(s.2.1[i]?.getD 0).toNat+Xj n.2 i)/\(∀ i,Xj n.2 i≠0->s.2.1[i]?.getD 0≠0)/\(mkV s n).2.1.length=256/\s.2.1.length=256:=by{
 obtain⟨hm,hn,hc,ht,e1,e2⟩:=Zvy h;obtain⟨_,_,_,_,h8,h256,hz,hz2,hN,hV⟩:=Z0c ht;have hl:=Yw (Ye hm).2.1;have hr:=Vx hn;obtain⟨c1,c2⟩:=Zdc n.2 s.2.1 hr hl hc;generalize tkK (ctS s n)=k at *;have z1:s.2.1[k]?.getD 0=0:=(Zx2 hl hr hc k).1 hz;have z2:Xj n.2 k=0:=by
  by_cases e:Xj n.2 k=0
  ·exact e
  ·exact absurd z1 (c2 k e)
 have hV':mkV s n=(wrD s.1 k (Va n),(ctV s.2.1 n.2).set k 1,s.2.2):=by rw[e2,hV];rfl
 refine⟨k,by rw[e1,hN],h8,h256,z1,hz2,z2,hV',by rw[e2];exact Ya1 ht,?_,fun i hi=> ?_,c2,?_,hl⟩
 ·rw[hV'];exact Zcu (by rw[Zew];omega)
 ·rw[hV']
  show (((ctV s.2.1 n.2).set k 1)[i]?.getD 0).toNat=_;rw[Ub hi];exact c1 i
 ·rw[hV']
  show ((ctV s.2.1 n.2).set k 1).length=_;rw[Q3,Zew,hl]}
def dnO (t:List UInt8) (a:Nat):Option (List UInt8):=if t[a]?.getD 0=0 then none else some (t.set a (t[a]?.getD 0-1))
def Vm (f:List UInt8->Nat->Option (List UInt8)):List UInt8->List It->Option (List UInt8)
 | t,[]=>some t
 | t,x::l=>if x.2.1=0 then Vm f t l else (f t x.2.1.toNat).bind fun t'=>Vm f t' l
def lvS (d:Dk) (l:Nat) (f:List UInt8->Nat->Option (List UInt8)) (t:List UInt8) (a:Nat):Option (List UInt8) :=
 (dnO t a).bind fun t'=>if 1<(t[a]?.getD 0).toNat then some t' else if reN (Z1 d a)=0/\(reV (Z1 d a)).1=(l:Int) then Vm f t' (reV (Z1 d a)).2 else none
def lvF (d:Dk):Nat->List UInt8->Nat->Option (List UInt8)
 | 0=>dnO
 | l+1=>lvS d l (lvF d l)
def lfO (d:Dk) (t:List UInt8) (a:Nat):Option (List UInt8) :=
 (dnO t a).bind fun t'=>if 1<(t[a]?.getD 0).toNat then some t' else if reN (Z1 d a)=0 then Vm (lvF d (reV (Z1 d a)).1.toNat) t' (reV (Z1 d a)).2 else none
def lvE (s:Rm) (n:Int):Int:=if asE s n=0 then (match lfO s.1 s.2.1 n.toNat with | some _=>0 | none=>8) else asE s n
def lvV (s:Rm) (n:Int):Rm:=if asE s n=0 then (match lfO s.1 s.2.1 n.toNat with | some t=>(s.1,t,s.2.2) | none=>Zj) else Zj
def loV (s:Rm) (n:Int):Rm:=if asE s n=0 then (s.1,s.2.1.set n.toNat (s.2.1[n.toNat]?.getD 0-1),s.2.2) else Zj
structure LeT (u t:List UInt8):Prop where
 len:u.length=t.length
 le:∀ i:Nat,(u[i]?.getD 0).toNat<=(t[i]?.getD 0).toNat
theorem LeT.refl (t:List UInt8):LeT t t:=⟨rfl,fun _=>Qa _⟩
theorem LeT.trans {a b c:List UInt8}(h:LeT a b) (h':LeT b c):LeT a c:=⟨h.len.trans h'.len,fun i=>Qz (h.le i) (h'.le i)⟩
theorem Zd1 {t u:List UInt8}{a:Nat}(h:dnO t a=some u):t[a]?.getD 0≠0/\u=t.set a (t[a]?.getD 0-1)/\LeT u t/\(u[a]?.getD 0).toNat+1=(t[a]?.getD 0).toNat:=by{
 unfold dnO at h;by_cases hz:t[a]?.getD 0=0
 ·rw[if_pos hz] at h;cases h
 ·rw[if_neg hz] at h
  cases h;have ha:a<t.length:=by
   by_cases e:a<t.length
   ·exact e
   ·exact absurd (by rw[Pm (by omega)];rfl) hz
  refine⟨hz,rfl,⟨Q3,fun i=> ?_⟩,?_⟩
  ·by_cases e:i=a
   ·subst e
    rw[Zcu ha];have:=Zi5 hz;omega
   ·rw[Ub e]
    exact Qa _
  ·rw[Zcu ha]
   exact Zi5 hz}
theorem Zgm {f:List UInt8->Nat->Option (List UInt8)}(hf:∀ t a u,f t a=some u->LeT u t):∀ (l:List It) (t u:List UInt8),Vm f t l=some u->LeT u t
 | [],t,u,h=>by cases h;exact LeT.refl _
 | x::l,t,u,h=>by
  unfold Vm at h;split at h
  ·exact Zgm hf l t u h
  ·cases hx:f t x.2.1.toNat with
   | none=>rw[hx] at h;cases h
   | some v =>
    rw[hx] at h;exact(Zgm hf l v u h).trans (hf _ _ _ hx)
theorem Z96 {d:Dk}{l:Nat}{f:List UInt8->Nat->Option (List UInt8)}(hf:∀ t a u,f t a=some u->LeT u t) (t:List UInt8) (a:Nat) (u:List UInt8) (h:lvS d l f t a=some u):LeT u t:=by{
 unfold lvS at h;cases hd:dnO t a with
 | none=>rw[hd] at h;cases h
 | some v =>
  rw[hd] at h;have h':(if 1<(t[a]?.getD 0).toNat then some v else if reN (Z1 d a)=0/\(reV (Z1 d a)).1=(l:Int) then Vm f v (reV (Z1 d a)).2 else none)=some u:=h;have hv:=(Zd1 hd).2.2.1;split at h'
  ·cases h';exact hv
  ·split at h'
   ·exact(Zgm hf _ _ _ h').trans hv
   ·cases h'}
theorem Zuu (d:Dk):∀ (l:Nat) (t:List UInt8) (a:Nat) (u:List UInt8),lvF d l t a=some u->LeT u t
 | 0,_,_,_,h=>(Zd1 h).2.2.1
 | l+1,t,a,u,h=>Z96 (Zuu d l) t a u h
theorem Zre {d:Dk}{t u:List UInt8}{a:Nat}(h:lfO d t a=some u):t[a]?.getD 0≠0/\LeT u t/\(u[a]?.getD 0).toNat+1<=(t[a]?.getD 0).toNat/\(1<(t[a]?.getD 0).toNat->u=t.set a (t[a]?.getD 0-1)):=by{
 unfold lfO at h;cases hd:dnO t a with
 | none=>rw[hd] at h;cases h
 | some v =>
  rw[hd] at h;have h':(if 1<(t[a]?.getD 0).toNat then some v else if reN (Z1 d a)=0 then Vm (lvF d (reV (Z1 d a)).1.toNat) v (reV (Z1 d a)).2 else none)=some u:=h;obtain⟨h1,h2,hv,h3⟩:=Zd1 hd;split at h'
  ·cases h'
   exact⟨h1,hv,by omega,fun _=>h2⟩
  ·rename_i hn
   split at h'
   ·have:=Zgm (Zuu d _) _ _ _ h'
    have h4:=this.le a;exact⟨h1,this.trans hv,by omega,fun hc=>absurd hc hn⟩
   ·cases h'}
theorem LeT.may {u t:List UInt8}(h:LeT u t) (hm:Zbj t=true):Zbj u=true :=
 Zhr (by rw[h.len];exact Yw hm) fun j hj=>by
  have h1:=h.le j;rw[Zmt hm hj] at h1;exact Vy.1 (by simpa using h1)
def Yb5 (f:List UInt8->Nat->Option (List UInt8)):Prop:=∀ t a,1<(t[a]?.getD 0).toNat->f t a=some (t.set a (t[a]?.getD 0-1))
theorem Zdl {t:List UInt8}{a:Nat}(h:t[a]?.getD 0≠0):dnO t a=some (t.set a (t[a]?.getD 0-1)):=by rw[dnO,if_neg h]
theorem Zhm {x:UInt8}(h:1<x.toNat):x≠0:=fun e=>by
 rw[Vy.2 e] at h;omega
theorem Zhh (d:Dk):∀ l,Yb5 (lvF d l)
 | 0=>fun t a h=>Zdl (Zhm h)
 | l+1=>fun t a h=>by
  show lvS d l (lvF d l) t a=_;unfold lvS;rw[Zdl (Zhm h)];show (if 1<(t[a]?.getD 0).toNat then _ else _)=_;rw[if_pos h]
theorem Zig {f:List UInt8->Nat->Option (List UInt8)}(hf:Yb5 f):∀ (l:List It) (u v:List UInt8),Zbo l->u.length=256->v.length=256->(∀ i,(u[i]?.getD 0).toNat=(v[i]?.getD 0).toNat+Xj l i)->(∀ i,Xj l i≠0->v[i]?.getD 0≠0)->Vm f u l=some v
 | [],u,v,_,h1,h2,h,_=>congrArg some (Zz9 (by omega) h)
 | x::l,u,v,hr,h1,h2,h,h'=>by
  obtain⟨r1,r2⟩:=Zbz hr;unfold Vm;rcases r1 with r1 | ⟨k,r1,h8,h256⟩
  ·rw[if_pos r1]
   exact Zig hf l u v r2 h1 h2 (fun i=>by rw[h i,Zby r1]) (fun i hi=>h' i (by rwa [Zby r1]))
  ·have e0:¬ x.2.1=0:=by omega
   have ek:x.2.1.toNat=k:=by omega
   have hk:=h k;rw[Za7 r1 h8,if_pos rfl] at hk;have hv:=h' k (by rw[Za7 r1 h8,if_pos rfl];omega);have hv':(v[k]?.getD 0).toNat≠0:=fun e=>hv (Vy.1 e)
   have hu:1<(u[k]?.getD 0).toNat:=by omega
   rw[if_neg e0,ek,hf u k hu];show Vm f (u.set k (u[k]?.getD 0-1)) l=some v;refine Zig hf l _ v r2 (by rw[Q3,h1]) h2 (fun i=> ?_) (fun i hi=>h' i (by rw[Za7 r1 h8];omega));by_cases e:i=k
   ·subst e
    rw[Zcu (by omega)];have:=Zi5 (Zhm hu);omega
   ·rw[Ub e,h i,Za7 r1 h8,if_neg e]
    omega
theorem Z6v {d:Dk}{u v:List UInt8}{k:Nat}{n:Nd}(hb:Z1 d k=Va n) (hn:mayN n=true) (hi:InN n) (h1:u.length=256) (h2:v.length=256) (hk:k<256) (hu:u[k]?.getD 0=1) (hv:v[k]?.getD 0=0) (hz:Xj n.2 k=0)
  (h:∀ i,i≠k->(u[i]?.getD 0).toNat=(v[i]?.getD 0).toNat+Xj n.2 i) (h':∀ i,Xj n.2 i≠0->v[i]?.getD 0≠0):lfO d u k=some v:=by{
 obtain⟨r1,r2⟩:=Zb6 hn hi;unfold lfO;rw[Zdl (by rw[hu];decide),hu,hb,r1,r2];show Vm (lvF d n.1.toNat) (u.set k (1-1)) n.2=some v;refine Zig (Zhh d _) n.2 _ v (Vx hn) (by rw[Q3,h1]) h2 (fun i=> ?_) h';by_cases e:i=k
 ·subst e
  rw[Zcu (by omega),hv,hz];rfl
 ·rw[Ub e,h i e]}
theorem Zcf {s:Rm}{k:Nat}(hm:Xm s=true) (h8:8<=k) (h:k<256) (hx:s.2.1[k]?.getD 0≠0):asE s k=0:=by
 have hin:=Zpi h8 h;have h1:¬ s.2.1[((k:Int)).toNat]?.getD 0=0:=by
  rw[show ((k:Int)).toNat=k by omega];exact hx
 rw[asE,hm,if_pos rfl,hin,if_pos rfl,if_neg h1]
theorem Z90 {s:Rm}{k:Nat}{v:List UInt8}(ha:asE s k=0) (hf:lfO s.1 s.2.1 k=some v):lvE s k=0/\lvV s k=(s.1,v,s.2.2):=by
 constructor
 ·rw[lvE,if_pos ha,show ((k:Int)).toNat=k by omega,hf]
 ·rw[lvV,if_pos ha,show ((k:Int)).toNat=k by omega,hf]
theorem Zj5 {s:Rm}{k:Nat}{n:Nd}(ha:asE s k=0) (hb:Z1 s.1 k=Va n) (hn:mayN n=true) (hi:InN n):rmE s k=0/\rmV s k=n:=by
 obtain⟨r1,r2⟩:=Zb6 hn hi;constructor
 ·rw[rmE,if_pos ha,show ((k:Int)).toNat=k by omega,hb,r1]
 ·rw[rmV,if_pos ha,show ((k:Int)).toNat=k by omega,hb,r2]
theorem Zzk {s:Rm}{n:Nd}(hi:InN n) (h:mkE s n=0):∃ k:Nat,mkN s n=k/\8<=k/\k<256/\s.2.1[k]?.getD 0=0/\s.2.2[k]?.getD 0=0/\rmE (mkV s n) k=0/\rmV (mkV s n) k=n/\lvE (mkV s n) k=0/\lvV (mkV s n) k=(wrD s.1 k (Va n),s.2.1,s.2.2):=by
 obtain⟨_,hn,_⟩:=Zvy h;obtain⟨k,e1,h8,h256,hz,hz2,hc,hV,hm,c1,c2,c3,hl,hl0⟩:=X5 h;have ha:asE (mkV s n) k=0:=Zcf hm h8 h256 (by rw[c1];decide);have hb:Z1 (mkV s n).1 k=Va n:=by rw[hV];exact Xr
 have hf:lfO (mkV s n).1 (mkV s n).2.1 k=some s.2.1:=Z6v (n:=n) hb hn hi hl hl0 h256 c1 hz hc c2 c3;obtain⟨r1,r2⟩:=Zj5 ha hb hn hi;obtain⟨l1,l2⟩:=Z90 ha hf;exact⟨k,e1,h8,h256,hz,hz2,r1,r2,l1,by rw[l2,hV]⟩
structure Xv (s t:Rm):Prop where
 may:Xm t=true
 held:∀ k:Nat,s.2.1[k]?.getD 0≠0->t.2.1[k]?.getD 0≠0
 seen:∀ k:Nat,s.2.1[k]?.getD 0≠0->Z1 t.1 k=Z1 s.1 k
theorem Vr {s t:Rm}(h:Xv s t){a:Int}(ha:asE s a=0):asE t a=0/\rmE t a=rmE s a/\rmV t a=rmV s a:=by
 obtain⟨k,rfl,hm,h8,h256,_,_,hE,hV,hx⟩:=Y6 ha;have ht:asE t (k:Int)=0:=Zcf h.may h8 h256 (h.held k hx);refine⟨ht,?_,?_⟩
 ·rw[hE,rmE,if_pos ht,show ((k:Int)).toNat=k by omega,h.seen k hx]
 ·rw[hV,rmV,if_pos ht,show ((k:Int)).toNat=k by omega,h.seen k hx]
theorem Zj4 {s t:Rm}(h:Xv s t){l:List It}(hl:Yr s l=true):Yr t l=true:=by
 unfold Yr at hl ⊢;rw[Qx] at hl ⊢;intro x hx;have h1:=hl x hx;simp only[Qae,decide_eq_true_eq] at h1 ⊢;exact h1.imp id (h.held _)
theorem Ux {f g:Int->Ky->Ky->Bool->Bool}(h:∀ a k tb e,f a k tb e=true->g a k tb e=true):∀ (l:List It) (tb:Ky) (e:Bool),Zax f l tb e=true->Zax g l tb e=true
 | [],_,_,_=>rfl
 | x::r,tb,e,hf=>by
  rw[Vl,Qd] at hf ⊢;exact⟨h _ _ _ _ hf.1,Ux h r tb e hf.2⟩
theorem Xu {f:Int->Ky->Ky->Bool->Bool}:∀ {l:List It}{tb:Ky}{e:Bool},Zax f l tb e=true->∀ x∈l,∃ t e,f x.2.1 x.1 t e=true
 | [],_,_,_,x,hx=>by simp at hx
 | y::r,tb,e,hf,x,hx=>by
  rw[Vl,Qd] at hf;rcases Qe.1 hx with rfl | hx
  ·exact⟨_,_,hf.1⟩
  ·exact Xu hf.2 x hx
theorem X7 {g g':Int->List It}:∀ {l:List It},(∀ x∈l,g x.2.1=g' x.2.1)->l.flatMap (fun x=>g x.2.1)=l.flatMap fun x=>g' x.2.1
 | [],_=>rfl
 | x::r,h=>by
  rw[Qv,Qv,h x Qg,X7 fun y hy=>h y (Qf _ hy)]
theorem Z8 {s t:Rm}(h:Xv s t):∀ (l:Nat) (a:Int) (k tb:Ky) (e:Bool),Zy s l a k tb e=true->Zy t l a k tb e=true/\X2 t l a=X2 s l a/\∀ q,Zcl t l a q=Zcl s l a q
 | 0,a,k,tb,e,hr=>by
  obtain⟨h1,h2,h3,h4⟩:=Ya hr;obtain⟨_,k1,k2⟩:=Vr h (Z9 h1).2;refine⟨?_,by unfold X2;rw[k2],fun q=>by unfold Zcl;rw[k2]⟩;unfold Zy;rw[k1,k2,h1,h2,h3,Zj4 h h4];rfl
 | l+1,a,k,tb,e,hr=>by
  obtain⟨h1,h2,h3,h4⟩:=Ya hr;obtain⟨_,k1,k2⟩:=Vr h (Z9 h1).2;have hm:=Xu h4;refine⟨?_,?_,fun q=> ?_⟩
  ·unfold Zy
   rw[k1,k2,h1,h2,h3,Ux (fun a k tb e hf=>(Z8 h l a k tb e hf).1) _ _ _ h4];simp
  ·unfold X2
   rw[k2];exact X7 fun x hx=>by
    obtain⟨t',e',hf⟩:=hm x hx;exact(Z8 h l _ _ _ _ hf).2.1
  ·unfold Zcl
   rw[k2];cases hf:(rmV s a).2.reverse.find? (fun x => !Zo q x.1) with
   | none=>rfl
   | some y =>
    obtain⟨t',e',hf'⟩:=hm y (Qw.1 (Q0 hf));exact(Z8 h l _ _ _ _ hf').2.2 q
theorem Zb4 {s t:Rm}(h:Xv s t){a:Int}(ht:Yo s a=true):Yo t a=true/\asE t a=0/\rmV t a=rmV s a/\Vo t a=Vo s a/\∀ q,Zdv t a q=Zdv s a q:=by{
 obtain⟨h1,ha,hm,l0,l6,hi⟩:=Xf ht;obtain⟨k0,k1,k2⟩:=Vr h ha;have hi':=hi;unfold U6 at hi;have e1:(rmV s a).1.toNat=(rmV t a).1.toNat:=by rw[k2]
 refine⟨?_,k0,k2,?_,fun q=> ?_⟩
 ·unfold Yo
  rw[k1,k2,h1];unfold U6;cases hl:(rmV s a).1.toNat with
  | zero=>rw[hl] at hi;simp only[Zj4 h hi];rfl
  | succ l=>rw[hl] at hi;simp only[Ux (fun a k tb e hf=>(Z8 h l a k tb e hf).1) _ _ _ hi];rfl
 ·unfold Vo
  rw[<- e1];cases hl:(rmV s a).1.toNat with
  | zero=>unfold X2;rw[k2]
  | succ l =>
   rw[hl] at hi;unfold X2;rw[k2];exact X7 fun x hx=>by
    obtain⟨t',e',hf⟩:=Xu hi x hx;exact(Z8 h l _ _ _ _ hf).2.1
 ·unfold Zdv
  rw[<- e1];cases hl:(rmV s a).1.toNat with
  | zero=>unfold Zcl;rw[k2]
  | succ l =>
   rw[hl] at hi;unfold Zcl;rw[k2];cases hf:(rmV s a).2.reverse.find? (fun x => !Zo q x.1) with
   | none=>rfl
   | some y =>
    obtain⟨t',e',hf'⟩:=Xu hi y (Qw.1 (Q0 hf));exact(Z8 h l _ _ _ _ hf').2.2 q}
theorem Zky {s:Rm}{n:Int}(h:shE s n=0):Xv s (shV s n):=by{
 have hm':=Z9w h;obtain⟨k,rfl,hm,h8,h256,h0,h255,hl,hV⟩:=Z74 h;refine⟨hm',fun i hi=> ?_,fun i hi=>by rw[hV]⟩;rw[hV];show (s.2.1.set k (s.2.1[k]?.getD 0+1))[i]?.getD 0≠0;by_cases e:i=k
 ·subst e
  rw[Zcu (by omega)];exact Zwe h255
 ·rw[Ub e]
  exact hi}
def Y7 (g:Int->Option (Ky×Ky)):List It->Option (Ky×Ky)
 | []=>none
 | [x]=>(g x.2.1).bind fun p=>if p.1=x.1 then some p else none
 | x::y::r=>(g x.2.1).bind fun p=>(Y7 g (y::r)).bind fun q=>if p.1=x.1/\Zo p.2 y.1=true then some (p.1,q.2) else none
def Za9 (s:Rm):Nat->Int->Option (Ky×Ky)
 | 0,a=>if rmE s a=0/\(rmV s a).1=0/\Yr s (rmV s a).2=true then ((rmV s a).2[0]?).bind fun x=>((rmV s a).2.getLast?).map fun y=>(x.1,y.1) else none
 | l+1,a=>if rmE s a=0/\(rmV s a).1=((l+1:Nat):Int) then Y7 (Za9 s l) (rmV s a).2 else none
def LeK (a b:Ky):Prop:=a=b\/Zo a b=true
theorem LeK.lt {a b c:Ky}(h:LeK a b) (h':Zo b c=true):Zo a c=true:=h.elim (fun e=>by rw[e];exact h') fun h=>Yt h h'
theorem LeK.trans {a b c:Ky}(h:LeK a b) (h':LeK b c):LeK a c:=h'.elim (fun e=>e ▸ h) fun h'=>.inr (h.lt h')
theorem Zbd {g:Int->Option (Ky×Ky)}(hg:∀ a p,g a=some p->LeK p.1 p.2):∀ {l:List It}{p:Ky×Ky},Y7 g l=some p->LeK p.1 p.2/\∃ x r,l=x::r/\p.1=x.1
 | [],_,h=>by cases h
 | [x],p,h=>by
  unfold Y7 at h;cases hx:g x.2.1 with
  | none=>rw[hx] at h;cases h
  | some q =>
   rw[hx] at h;have h':(if q.1=x.1 then some q else none)=some p:=h;split at h'
   ·rename_i e
    cases h';exact⟨hg _ _ hx,x,[],rfl,e⟩
   ·cases h'
 | x::y::r,p,h=>by
  unfold Y7 at h;cases hx:g x.2.1 with
  | none=>rw[hx] at h;cases h
  | some q =>
   rw[hx] at h;cases hc:Y7 g (y::r) with
   | none=>rw[hc] at h;cases h
   | some q' =>
    rw[hc] at h;have h':(if q.1=x.1/\Zo q.2 y.1=true then some (q.1,q'.2) else none)=some p:=h;obtain⟨i1,y',r',e',i2⟩:=Zbd hg hc;cases e';split at h'
    ·rename_i e
     cases h';refine⟨.inr ?_,x,y::r,rfl,e.1⟩;have h1:Zo q.1 y.1=true:=(hg _ _ hx).lt e.2;rw[<- i2] at h1;exact i1.elim (fun e=>e ▸ h1) fun h2=>Yt h1 h2
    ·cases h'
theorem Zen (s:Rm):∀ (l:Nat) (a:Int) (p:Ky×Ky),Za9 s l a=some p->LeK p.1 p.2
 | 0,a,p,h=>by
  unfold Za9 at h;split at h
  ·rename_i hc
   have hu:=Uk (Z9 hc.1).1;cases hl:(rmV s a).2 with
   | nil=>rw[hl] at h;cases h
   | cons x r =>
    rw[hl] at h hu;cases hz:(x::r).getLast? with
    | none=>rw[hz] at h;cases h
    | some z =>
     rw[hz] at h;cases h;rcases Zdw hu z (Pn hz) with e | e
     ·exact .inl e.symm
     ·exact .inr e
  ·cases h
 | l+1,a,p,h=>by
  unfold Za9 at h;split at h
  ·exact(Zbd (Zen s l) h).1
  ·cases h
theorem Zfo {f:Int->Ky->Ky->Bool->Bool}{g:Int->Option (Ky×Ky)}(hle:∀ a p,g a=some p->LeK p.1 p.2) (hfg:∀ a k tb e,f a k tb e=true↔∃ t,g a=some (k,t)/\(e=true->Zo t tb=true)):∀ (l:List It) (tb:Ky) (e:Bool),l≠[] ->
  (Zax f l tb e=true↔∃ p,Y7 g l=some p/\(e=true->Zo p.2 tb=true))
 | [],_,_,h=>absurd rfl h
 | [x],tb,e,_=>by
  show f x.2.1 x.1 tb e=true↔_;rw[hfg];unfold Y7;constructor
  ·rintro⟨t,h1,h2⟩
   exact⟨(x.1,t),by rw[h1];simp,h2⟩
  ·rintro⟨p,h1,h2⟩
   cases hx:g x.2.1 with
   | none=>rw[hx] at h1;cases h1
   | some q =>
    rw[hx] at h1;have h':(if q.1=x.1 then some q else none)=some p:=h1;split at h'
    ·rename_i e1
     cases h';exact⟨p.2,by rw[<- e1],h2⟩
    ·cases h'
 | x::y::r,tb,e,_=>by
  have ih:=Zfo hle hfg (y::r) tb e (by simp);show (f x.2.1 x.1 y.1 true&&Zax f (y::r) tb e)=true↔_;rw[Qd,hfg,ih];constructor
  ·rintro⟨⟨t,h1,h2⟩,p,h3,h4⟩
   refine⟨(x.1,p.2),?_,h4⟩;unfold Y7;rw[h1,h3];simp[h2 rfl]
  ·rintro⟨p,h1,h2⟩
   unfold Y7 at h1;cases hx:g x.2.1 with
   | none=>rw[hx] at h1;cases h1
   | some q =>
    rw[hx] at h1;cases hc:Y7 g (y::r) with
    | none=>rw[hc] at h1;cases h1
    | some q' =>
     rw[hc] at h1;have h':(if q.1=x.1/\Zo q.2 y.1=true then some (q.1,q'.2) else none)=some p:=h1;split at h'
     ·rename_i e1
      cases h';exact⟨⟨q.2,by rw[<- e1.1],fun _=>e1.2⟩,q',rfl,h2⟩
     ·cases h'
theorem Zgs (s:Rm):∀ (l:Nat) (a:Int) (k tb:Ky) (e:Bool),Zy s l a k tb e=true↔∃ t,Za9 s l a=some (k,t)/\(e=true->Zo t tb=true)
 | 0,a,k,tb,e=>by
  constructor
  ·intro h
   obtain⟨h1,h2,h3,h4⟩:=Ya h;obtain⟨x,r,hl,ek,hz⟩:=Zbs h3;obtain⟨z,hz1⟩:∃ z,(rmV s a).2.getLast? = some z:=by
    rw[hl];exact⟨_,Pz (by simp)⟩
   refine⟨z.1,?_,fun he=> ?_⟩
   ·unfold Za9
    rw[if_pos ⟨h1,h2,h4⟩,hz1,show (rmV s a).2[0]? = some x by rw[hl];rfl,<- ek];rfl
   ·obtain⟨z',e1,e2⟩:=hz he
    rw[hz1] at e1;cases e1;exact e2
  ·rintro⟨t,h1,h2⟩
   unfold Za9 at h1;split at h1
   ·rename_i hc
    unfold Zy;cases hx:(rmV s a).2[0]? with
    | none=>rw[hx] at h1;cases h1
    | some x =>
     cases hz:(rmV s a).2.getLast? with
     | none=>rw[hx,hz] at h1;cases h1
     | some z =>
      rw[hx,hz] at h1;have h1':(some (x.1,z.1):Option (Ky×Ky))=some (k,t):=h1;simp only[Option.some.injEq,Prod.mk.injEq] at h1';have hh:Zel (rmV s a).2 k tb e=true:=by
       unfold Zel;rw[hx,hz];cases e with
       | false=>simp[h1'.1]
       | true=>simp[h1'.1,h1'.2,h2 rfl]
      rw[hc.1,hc.2.1,hc.2.2,hh]
      decide
   ·cases h1
 | l+1,a,k,tb,e=>by
  have hc:=Zfo (Zen s l) (fun a k tb e=>Zgs s l a k tb e) (rmV s a).2 tb e;constructor
  ·intro h
   obtain⟨h1,h2,h3,h4⟩:=Ya h;obtain⟨x,r,hl,ek,_⟩:=Zbs h3;obtain⟨p,hp,hb⟩:=(hc (by rw[hl];simp)).1 h4;obtain⟨_,x',r',e',hf⟩:=Zbd (Zen s l) hp;rw[hl] at e';cases e';refine⟨p.2,?_,hb⟩;unfold Za9;rw[if_pos ⟨h1,h2⟩,hp,<- ek,<- hf]
  ·rintro⟨t,h1,h2⟩
   unfold Za9 at h1;split at h1
   ·rename_i hcond
    obtain⟨_,x,r,hl,hf⟩:=Zbd (Zen s l) h1;have hi:=(hc (by rw[hl];simp)).2 ⟨(k,t),h1,h2⟩;have hh:Zel (rmV s a).2 k tb e=true:=by
     cases e with
     | false =>
      unfold Zel;rw[hl];simp[<- hf]
     | true =>
      obtain⟨x',r',e',hp⟩:=Zaw (Y4 s l) (rmV s a).2 tb true (by rw[hl];simp) hi;obtain⟨z,hz1⟩:∃ z,(rmV s a).2.getLast? = some z:=by
       rw[hl];exact⟨_,Pz (by simp)⟩
      obtain⟨t',e2,hf2⟩:=Xu hi z (Pn hz1);obtain⟨y,r2,ey,ky⟩:=(Y4 s l _ _ _ _ hf2).first;have hy:=hp.bound rfl y (Qk.2 ⟨z,Pn hz1,by rw[ey];simp⟩);rw[ky] at hy;unfold Zel;rw[hz1,show (rmV s a).2[0]? = some x by rw[hl];rfl];simp[<- hf,hy]
    unfold Zy;rw[hcond.1,hcond.2,hh,hi];simp
   ·cases h1
theorem Zyr (s:Rm) (a:Int):Yo s a=true↔rmE s a=0/\(match (rmV s a).1.toNat with | 0=>Yr s (rmV s a).2=true | l+1=>∃ p,Y7 (Za9 s l) (rmV s a).2=some p):=by{
 constructor
 ·intro h
  obtain⟨h1,_,hm,l0,_,hi⟩:=Xf h;refine⟨h1,?_⟩;unfold U6 at hi;cases hl:(rmV s a).1.toNat with
  | zero=>rw[hl] at hi;exact hi
  | succ l =>
   rw[hl] at hi;have hne:(rmV s a).2≠[]:=fun e=>by
    have:=(Zx hm).1.2.2.2 (by omega);rw[e] at this;simp at this
   obtain⟨p,hp,_⟩:=(Zfo (Zen s l) (fun a k tb e=>Zgs s l a k tb e) _ Zbh false hne).1 hi;exact⟨p,hp⟩
 ·rintro⟨h1,h2⟩
  unfold Yo;rw[h1];unfold U6;cases hl:(rmV s a).1.toNat with
  | zero=>rw[hl] at h2;simp only[h2];rfl
  | succ l =>
   rw[hl] at h2;obtain⟨p,hp⟩:=h2;obtain⟨_,x,r,e,_⟩:=Zbd (Zen s l) hp;have:=(Zfo (Zen s l) (fun a k tb e=>Zgs s l a k tb e) (rmV s a).2 Zbh false (by rw[e];simp)).2 ⟨p,hp,fun h=>by cases h⟩;simp only[this];rfl}
def In (lo hi:Nat):Qay->Prop:=fun p=>lo<=p.block/\p.block<hi
theorem Zfa {w w1:Qaw}{Fs:List (Qaw->Prop)}(h:Bag w Fs) (hb:Qa3 w.heap.size w w1) (a b:Qax):∃ w',w1.alloc (.cells #[a,b] 81)=w'/\Bag w' (Yb4 w1.heap.size a b::Fs)/\Qa3 w.heap.size w w'/\Qa3 w1.heap.size w1 w'/\w1.heap.size<w'.heap.size:=by
 obtain⟨w2,e2,b2,k4,k5⟩:=Yc w1 a b 81;obtain⟨k1,k2,_,k3⟩:=Zg b2;exact⟨w2,e2,((h.below hb).below k5).add ⟨k1,k2,k3⟩ (Zxr _ _ _),hb.trans (k5.mono hb.size),k5,by omega⟩
def Z59 (v:Qax) (n:Nd):Qaw->Prop:=fun w=>Nod (Old w) w v n
theorem Zb3 (v:Qax) (n:Nd):Ze0 (Z59 v n):=fun _ _ h hb=>h.below hb
def Z1i (v:Qax) (l:List It):Qaw->Prop:=fun w=>Zae (Old w) w [v] l
theorem Zjg (v:Qax) (l:List It):Ze0 (Z1i v l):=fun _ _ h hb=>Y8.old h hb
theorem Zun {l:List It}{k:Ky}:∀ {i:Nat},i<=l.length->(∀ j x,j<i->l[j]? = some x->Zo x.1 k=true)->Zfq (l.take i) k=i
 | 0,_,_=>rfl
 | i+1,hi,h=>by
  have hx:l[i]? = some l[i]:=Qc hi;rw[Zuy hx (h i _ (by omega) hx),Zun (by omega) (fun j x hj=>h j x (by omega))]
theorem Z68 (l:List It) (k:Ky) (i:Nat):Zfq (l.take i) k<=Zfq l k:=by
 unfold Zfq;exact((List.take_sublist i l).filter _).length_le
theorem Z1o {l:List It}{k:Ky}{i:Nat}(h:∀ j x,i<=j->l[j]? = some x->Zo x.1 k=false):Zfq l k=Zfq (l.take i) k:=by{
 have e:Zfq l k=Zfq (l.take i) k+Zfq (l.drop i) k:=by
  unfold Zfq;rw[<- Qaa,<- Qaf,Qy]
 have z:Zfq (l.drop i) k=0:=by
  unfold Zfq;rw[List.length_eq_zero_iff,Qag];intro x hx;obtain⟨j,hj⟩:=Qah.1 hx;rw[Q4] at hj;rw[h (i+j) x (by omega) hj];simp
 omega}
theorem Ur {n:Nd}(h:mayN n=true){k:Ky}{i:Nat}{x:It}(hx:n.2[i]? = some x):Zo x.1 k=decide (i<Z2 n k):=by{
 have hi:=(Qj.1 hx).1;cases e:Zo x.1 k with
 | true =>
  have h1:Zfq (n.2.take (i+1)) k=i+1:=Zun (by omega) (fun j y hj hy=>by
   rcases Po j i with h2 | h2
   ·exact Yt (Zaz h h2 hy hx) e
   ·obtain rfl:j=i:=by omega
    rw[hx] at hy;cases hy
    exact e)
  have h2:=Z68 n.2 k (i+1);have h3:Z2 n k=Zfq n.2 k:=rfl;have:i<Z2 n k:=by omega
  simp[this]
 | false =>
  have h1:Zfq n.2 k=Zfq (n.2.take i) k:=Z1o (fun j y hj hy=>by
   rcases Po i j with h2 | h2
   ·cases e2:Zo y.1 k with
    | false=>rfl
    | true =>
     have:=Yt (Zaz h h2 hx hy) e2;rw[e] at this;cases this
   ·obtain rfl:i=j:=by omega
    rw[hx] at hy;cases hy
    exact e)
  have h2:=Zp6 n.2 k i;have h3:Z2 n k=Zfq n.2 k:=rfl;have:¬ i<Z2 n k:=by omega
  simp[this]}
theorem Zcb (n:Nd) (k:Ky):Z2 n k<=n.2.length:=Zyv _ _
theorem Zir {n:Nd}(h:mayN n=true){i:Nat}{x:It}(hx:n.2[i]? = some x):Z2 n x.1=i/\Yl n x.1=true:=by{
 have hi:=(Qj.1 hx).1;have h1:¬ i<Z2 n x.1:=fun h2=>by
  have:=Ur h (k:=x.1) hx;rw[Y2] at this;simp[h2] at this
 have h2:Z2 n x.1=i:=by
  rcases Nat.eq_zero_or_pos i with h0 | h0
  ·omega
  ·obtain⟨j,rfl⟩:∃ j,i=j+1:=⟨i-1,by omega⟩
   have hy:n.2[j]? = some n.2[j]:=Qc (by omega);have h3:=Ur h (k:=x.1) hy;rw[Zi3 h hy hx] at h3;have:j<Z2 n x.1:=by simpa using h3.symm
   omega
 exact⟨h2,by rw[Zj1 (by rw[h2];exact hx)];simp⟩}
theorem Z2t {p:It->Bool}{l:List It}{k:Nat}{x:It}(hx:l[k]? = some x):(l.take (k+1)).reverse.find? p=if p x=true then some x else (l.take k).reverse.find? p:=by
 have hk:=(Qj.1 hx).1;have hg:l[k]=x:=(Qj.1 hx).2;rw[<- Pj hk,hg,Qai,List.reverse_singleton,List.singleton_append,Qac];cases p x <;> rfl
theorem Z0k {p:It->Bool}{l:List It}{j:Nat}{x:It}(hx:l[j]? = some x) (h1:p x=true) (h2:∀ i y,j<i->l[i]? = some y->p y=false):l.reverse.find? p=some x:=by{
 have e:l.reverse.find? p=(l.take (j+1)).reverse.find? p:=by
  conv=>lhs;rw[<- Qy (j+1) l,Qai,Qab]
  rw[Zde (l:=l.drop (j+1)) fun y hy=>by
   obtain⟨i,hi⟩:=Qm hy;rw[Q4] at hi
   exact h2 (j+1+i) y (by omega) hi]
  rfl
 rw[e,Z2t hx,if_pos h1]}
theorem Ut {n:Nd}(h:mayN n=true){k:Ky}{x:It}(ht:Yl n k=true) (hx:n.2[Z2 n k]? = some x):x.1=k/\(n.2.reverse.find? fun x => !Zo k x.1)=some x/\(n.2.reverse.find? fun x=>decide (x.1=k))=some x:=by{
 have e:x.1=k:=by
  rw[Zj1 hx] at ht
  simpa using ht
 have hup:∀ i y,Z2 n k<i->n.2[i]? = some y->Zo k y.1=true:=fun i y hi hy=>by
  rw[<- e];exact Zaz h hi hx hy
 refine⟨e,Z0k hx (by rw[e,Y2];rfl) fun i y hi hy=>by rw[hup i y hi hy];rfl,Z0k hx (by simpa using e) fun i y hi hy=> ?_⟩;have h1:=hup i y hi hy;have:y.1≠k:=fun e2=>by rw[e2,Y2] at h1;cases h1
 simpa using this}
theorem Zgl {n:Nd}(h:mayN n=true){k:Ky}(ht:Yl n k=false):(n.2.reverse.find? fun x=>decide (x.1=k))=none:=Zde fun x hx=>by
 obtain⟨i,hi⟩:=Qm hx;have:x.1≠k:=fun e=>by
  have:=(Zir h hi).2;rw[e,ht] at this;cases this
 simpa using this
theorem Zbq {n:Nd}(h:mayN n=true){k:Ky}(ht:Yl n k=false){i:Nat}{y:It}(hi:Z2 n k<=i) (hy:n.2[i]? = some y):Zo k y.1=true:=by
 have h1:=Ur h (k:=k) hy;rw[decide_eq_false (by omega)] at h1;have hne:y.1≠k:=fun e=>by
  have:=(Zir h hy).2;rw[e,ht] at this;cases this
 exact Zb2 hne h1
theorem Zjb {n:Nd}(h:mayN n=true){k:Ky}{j:Nat}{x:It}(ht:Yl n k=false) (hj:Z2 n k=j+1) (hx:n.2[j]? = some x):(n.2.reverse.find? fun x => !Zo k x.1)=some x:=by
 have h1:=Ur h (k:=k) hx;rw[decide_eq_true (by omega)] at h1;refine Z0k hx (by rw[Ve h1];rfl) fun i y hi hy=> ?_
 rw[Zbq h ht (by omega) hy];rfl
theorem Zk6 {n:Nd}(h:mayN n=true){k:Ky}(ht:Yl n k=false) (hj:Z2 n k=0):(n.2.reverse.find? fun x => !Zo k x.1)=none:=Zde fun y hy=>by
 obtain⟨i,hi⟩:=Qm hy;rw[Zbq h ht (by omega) hi];rfl
theorem Zbi {n:Nd}{k:Ky}(ht:Yl n k=true):Z2 n k<n.2.length:=by{
 rcases Po (Z2 n k) n.2.length with h | h
 ·exact h
 ·rw[Zle h] at ht
  cases ht}
structure AtT (s:Rm) (l:Nat) (a:Int):Prop where
 ok:rmE s a=0
 lvl:(rmV s a).1=(l:Int)
 below:∀ j,l=j+1->∀ x∈(rmV s a).2,∃ t e,Zy s j x.2.1 x.1 t e=true
theorem AtT.may {s:Rm}{l:Nat}{a:Int}(h:AtT s l a):mayN (rmV s a)=true:=(Z9 h.ok).1
theorem Z3t {s:Rm}{l:Nat}{a:Int}{k tb:Ky}{e:Bool}(h:Zy s l a k tb e=true):AtT s l a:=by
 obtain⟨h1,h2,_,h4⟩:=Ya h;refine⟨h1,h2,fun j hj x hx=> ?_⟩;subst hj;exact Xu h4 x hx
theorem AtT.down {s:Rm}{j:Nat}{a:Int}(h:AtT s (j+1) a){x:It}(hx:x∈(rmV s a).2):AtT s j x.2.1:=by
 obtain⟨t,e,hr⟩:=h.below j rfl x hx;exact Z3t hr
theorem Zbt {s:Rm}{a:Int}(h:Yo s a=true):AtT s (rmV s a).1.toNat a:=by
 obtain⟨h1,_,_,l0,_,hi⟩:=Xf h;refine⟨h1,by omega,fun j hj x hx=> ?_⟩;unfold U6 at hi;rw[hj] at hi;exact Xu hi x hx
theorem Zi0 (s:Rm) (a:Int) (k:Ky):Zcl s 0 a k=(rmV s a).2.reverse.find? fun x=>decide (x.1=k):=rfl
theorem Zjx (s:Rm) (l:Nat) (a:Int) (k:Ky):Zcl s (l+1) a k=((rmV s a).2.reverse.find? fun x => !Zo k x.1).bind fun x=>Zcl s l x.2.1 k:=rfl
def Zc0 (s:Rm) (n:Nd):Option (Ky×Ky):=match n.1.toNat with
 | 0=>if Yr s n.2=true then (n.2[0]?).bind fun x=>(n.2.getLast?).map fun y=>(x.1,y.1) else none
 | l+1=>Y7 (Za9 s l) n.2
theorem Zpy (s:Rm) (l:Nat) (a:Int):Za9 s l a=if rmE s a=0/\(rmV s a).1=(l:Int) then Zc0 s (rmV s a) else none:=by{
 cases l with
 | zero =>
  unfold Za9;by_cases h1:rmE s a=0/\(rmV s a).1=((0:Nat):Int)
  ·rw[if_pos h1]
   unfold Zc0;rw[h1.2];by_cases h2:Yr s (rmV s a).2=true
   ·rw[if_pos ⟨h1.1,rfl,h2⟩]
    show _=if Yr s (rmV s a).2=true then _ else none
    rw[if_pos h2]
   ·rw[if_neg (fun h=>h2 h.2.2)]
    show _=if Yr s (rmV s a).2=true then _ else none
    rw[if_neg h2]
  ·rw[if_neg h1,if_neg (fun h=>h1 ⟨h.1,h.2.1⟩)]
 | succ l =>
  unfold Za9;by_cases h1:rmE s a=0/\(rmV s a).1=((l+1:Nat):Int)
  ·rw[if_pos h1,if_pos h1]
   unfold Zc0;rw[h1.2,show ((l+1:Nat):Int).toNat=l+1 by omega]
  ·rw[if_neg h1,if_neg h1]}
theorem Znq {s:Rm}{n:Nd}{x y:It}{j:Nat}(h:n.1=0) (hx:n.2[0]? = some x) (hj:n.2.length=j+1) (hy:n.2[j]? = some y):Zc0 s n=if Yr s n.2=true then some (x.1,y.1) else none:=by
 have hl:n.2.getLast? = some y:=by rw[List.getLast?_eq_getElem?,hj];exact hy
 unfold Zc0;rw[h];show (if Yr s n.2=true then _ else none)=_;rw[hx,hl];rfl
theorem Zph {s:Rm}{n:Nd}{l:Nat}(h:n.1=((l+1:Nat):Int)):Zc0 s n=Y7 (Za9 s l) n.2:=by
 unfold Zc0;rw[h,show ((l+1:Nat):Int).toNat=l+1 by omega]
theorem Ze9 {g:Int->Option (Ky×Ky)}{l:List It}{x:It}(hx:l[0]? = some x):Y7 g (l.take 1)=(g x.2.1).bind fun p=>if p.1=x.1 then some p else none:=by{
 cases l with
 | nil=>cases hx
 | cons y r =>
  cases hx;rfl}
theorem Zp3 {g:Int->Option (Ky×Ky)}(x:It):∀ (l:List It),l≠[]->Y7 g (l++[x])=(Y7 g l).bind fun q=>(g x.2.1).bind fun p=>if p.1=x.1/\Zo q.2 x.1=true then some (q.1,p.2) else none
 | [],h=>absurd rfl h
 | [y],_=>by
  show (g y.2.1).bind _=_;unfold Y7;cases g y.2.1 with
  | none=>rfl
  | some p =>
   show ((Y7 g [x]).bind _)=((if p.1=y.1 then some p else none):Option (Ky×Ky)).bind _;unfold Y7;cases g x.2.1 with
   | none =>
    by_cases h1:p.1=y.1 <;> simp[h1]
   | some q =>
    by_cases h1:p.1=y.1 <;> by_cases h2:q.1=x.1 <;> by_cases h3:Zo p.2 x.1=true <;> simp[h1,h2,h3]
 | y::z::r,_=>by
  have ih:=Zp3 (g:=g) x (z::r) (by simp);show (g y.2.1).bind (fun p=>(Y7 g (z::r++[x])).bind _)=_;rw[ih]
  conv=>rhs;unfold Y7
  cases g y.2.1 with
  | none=>rfl
  | some p =>
   cases Y7 g (z::r) with
   | none=>rfl
   | some q =>
    cases g x.2.1 with
    | none =>
     by_cases h1:p.1=y.1/\Zo p.2 z.1=true <;> simp[h1]
    | some q' =>
     by_cases h1:p.1=y.1/\Zo p.2 z.1=true <;> by_cases h2:q'.1=x.1/\Zo q.2 x.1=true <;> simp[h1,h2]
theorem Za3 {g:Int->Option (Ky×Ky)}{l:List It}{k:Nat}{x:It}(hx:l[k]? = some x) (hk:0<k):Y7 g (l.take (k+1))=(Y7 g (l.take k)).bind fun q=>(g x.2.1).bind fun p=>if p.1=x.1/\Zo q.2 x.1=true then some (q.1,p.2) else none:=by
 have hl:=(Qj.1 hx).1;have hg:l[k]=x:=(Qj.1 hx).2;rw[<- Pj hl,hg];exact Zp3 x _ fun e=>by
  have h0:(l.take k).length=0:=by rw[e];rfl
  rw[Pp] at h0;omega
theorem Zjk {g:Int->Option (Ky×Ky)}{l:List It}:∀ {k:Nat},0<k->Y7 g (l.take k)=none->Y7 g l=none:=fun {k} hk h=>by
 induction hn:l.length-k generalizing k with
 | zero=>rwa [Qaj (by omega)] at h
 | succ n ih =>
  obtain⟨x,hx⟩:∃ x,l[k]? = some x:=⟨_,Qc (by omega)⟩
  exact ih (k:=k+1) (by omega) (by rw[Za3 hx hk,h];rfl) (by omega)
theorem Zzj {g:Int->Option (Ky×Ky)}{l:List It}{x:It}(hx:l[0]? = some x):∀ {k:Nat}{q:Ky×Ky},0<k->k<=l.length->Y7 g (l.take k)=some q->q.1=x.1:=fun {k} {q} hk hl h=>by
 induction k generalizing q with
 | zero=>omega
 | succ k ih =>
  by_cases h0:k=0
  ·subst h0
   rw[Ze9 hx] at h;cases hg:g x.2.1 with
   | none=>rw[hg] at h;cases h
   | some p =>
    rw[hg] at h;have h':(if p.1=x.1 then some p else none)=some q:=h;split at h'
    ·rename_i e;cases h';exact e
    ·cases h'
  ·obtain⟨y,hy⟩:∃ y,l[k]? = some y:=⟨_,Qc (by omega)⟩
   rw[Za3 hy (by omega)] at h;cases hc:Y7 g (l.take k) with
   | none=>rw[hc] at h;cases h
   | some q' =>
    have e:=ih (by omega) (by omega) hc;rw[hc] at h;cases hg:g y.2.1 with
    | none=>rw[hg] at h;cases h
    | some p =>
     rw[hg] at h;have h':(if p.1=y.1/\Zo q'.2 y.1=true then some (q'.1,p.2) else none)=some q:=h;split at h'
     ·cases h';exact e
     ·cases h'
def Zcq (s:Rm) (n:Nd):Bool:=decide (n.2.length=0)||(Zc0 s n).isSome
theorem Zr8 {s:Rm}{a:Int}(h:rmE s a=0):Zcq s (rmV s a)=Yo s a:=by{
 have hm:=(Z9 h).1;have hsh:=(Zx hm).1;have e:Yo s a=true↔Zcq s (rmV s a)=true:=by
  rw[Zyr];unfold Zcq;rw[Qae,decide_eq_true_eq];cases hl:(rmV s a).1.toNat with
  | zero =>
   have h0:(rmV s a).1=0:=by omega
   simp only;by_cases hz:(rmV s a).2.length=0
   ·have:(rmV s a).2=[]:=Qak hz
    rw[this];simp[h,Yr]
   ·obtain⟨j,hj⟩:∃ j,(rmV s a).2.length=j+1:=⟨(rmV s a).2.length-1,by omega⟩
    obtain⟨x,hx⟩:∃ x,(rmV s a).2[0]? = some x:=⟨_,Qc (by omega)⟩
    obtain⟨y,hy⟩:∃ y,(rmV s a).2[j]? = some y:=⟨_,Qc (by omega)⟩
    rw[Znq h0 hx hj hy];by_cases h2:Yr s (rmV s a).2=true <;> simp[h,h2,hz]
  | succ l =>
   have h1:(rmV s a).1=((l+1:Nat):Int):=by omega
   have hz:¬ (rmV s a).2.length=0:=by have:=hsh.2.2.2 (by omega);omega
   rw[Zph h1];simp only;constructor
   ·rintro⟨_,p,hp⟩
    rw[hp];exact .inr rfl
   ·rintro(h3 | h3)
    ·exact absurd h3 hz
    ·exact⟨h,Option.isSome_iff_exists.1 h3⟩
 cases h1:Yo s a with
 | true=>exact e.1 h1
 | false =>
  cases h2:Zcq s (rmV s a) with
  | false=>rfl
  | true=>rw[e.2 h2] at h1;cases h1}
def Z6e (f t:Ky) (x:It):Bool := !Zo x.1 f && !Zo t x.1
def Zg9 (s:Rm) (a:Int) (f t:Ky):List It:=(Vo s a).filter (Z6e f t)
def raV (s:Rm) (a:Int) (f t:Ky):List It:=if ckE s a=0 then Zg9 s a f t else []
theorem Z2j {f t:Ky}{x:It}:Z6e f t x=true↔Zo x.1 f=false/\Zo t x.1=false:=by
 unfold Z6e;simp
theorem Zq5 {a b c:Ky}(h:Zo a b=true) (h':Zo c b=false):Zo a c=true:=by
 by_cases e:c=b
 ·rw[e];exact h
 ·exact Yt h (Zb2 e h')
theorem Uo {p:It->Bool}{L:List It}(h:∀ x∈L,p x=false):L.filter p=[]:=by
 rw[Qag];intro x hx;rw[h x hx];simp
def Y1 (s:Rm):Nat->Int->List Int
 | 0,a=>[a]
 | l+1,a=>a::(rmV s a).2.flatMap fun x=>Y1 s l x.2.1
def Vt (s:Rm):Nat->Int->List Int
 | 0,a=>((rmV s a).2.map fun x=>x.2.1).filter fun r=>decide (r≠0)
 | l+1,a=>(rmV s a).2.flatMap fun x=>Vt s l x.2.1
def Xo (s:Rm) (a:Int):List Int:=Y1 s (rmV s a).1.toNat a
def Zev (s:Rm) (a:Int):List Int:=Vt s (rmV s a).1.toNat a
def Zrr (L:List Int):List Nat:=(List.range 256).filter fun k=>decide ((k:Int)∈L)
theorem Z89 (L:List Int):(Zrr L).Pairwise (· < ·):=P1.filter _ List.pairwise_lt_range
theorem Zzc {L:List Int}{k:Nat}:k∈Zrr L↔k<256/\(k:Int)∈L:=by
 unfold Zrr;rw[Qi,List.mem_range,decide_eq_true_eq]
structure Blk (s:Rm) (l:Nat) (a:Int) (N R:List Int):Prop where
 root:a∈N
 node:∀ n∈N,rmE s n=0
 sub:∀ n∈N,∀ x∈(rmV s n).2,((rmV s n).1≠0->x.2.1∈N)/\((rmV s n).1=0->x.2.1≠0->x.2.1∈R)
 held:∀ r∈R,r≠0/\s.2.1[r.toNat]?.getD 0≠0/\8<=r/\r<256
theorem Z9a {s:Rm}{l:List It}(h:Yr s l=true){x:It}(hx:x∈l):x.2.1=0\/s.2.1[x.2.1.toNat]?.getD 0≠0:=by
 unfold Yr at h;rw[Qx] at h;have:=h x hx
 simpa using this
theorem Z7v {n:Nd}(h:mayN n=true){x:It}(hx:x∈n.2):x.2.1=0\/(8<=x.2.1/\x.2.1<256):=by
 obtain⟨i,hi⟩:=Qm hx;exact(Zaj (Zr7 (Zjn h hi))).1
theorem Zt3 {s:Rm}{a:Int}(h1:rmE s a=0) (h2:(rmV s a).1=0) (h3:Yr s (rmV s a).2=true):Blk s 0 a (Y1 s 0 a) (Vt s 0 a):=by{
 have hm:=(Z9 h1).1;refine⟨by simp[Y1],fun n hn=> ?_,fun n hn x hx=> ?_,fun r hr=> ?_⟩
 ·simp only[Y1,Ql] at hn
  subst hn;exact h1
 ·simp only[Y1,Ql] at hn
  subst hn;refine⟨fun h=>absurd h2 h,fun _ h0=> ?_⟩;simp only[Vt,Qi,Pf,decide_eq_true_eq];exact⟨⟨x,hx,rfl⟩,h0⟩
 ·simp only[Vt,Qi,Pf,decide_eq_true_eq] at hr
  obtain⟨⟨x,hx,rfl⟩,h0⟩:=hr;rcases Z7v hm hx with e | e
  ·exact absurd e h0
  ·rcases Z9a h3 hx with e' | e'
   ·exact absurd e' h0
   ·exact⟨h0,e',e.1,e.2⟩}
theorem Z57 {s:Rm}{l:Nat}{a:Int}(h1:rmE s a=0) (h2:(rmV s a).1=((l+1:Nat):Int)) (h3:∀ x∈(rmV s a).2,Blk s l x.2.1 (Y1 s l x.2.1) (Vt s l x.2.1)):Blk s (l+1) a (Y1 s (l+1) a) (Vt s (l+1) a):=by{
 refine⟨by simp[Y1],fun n hn=> ?_,fun n hn x hx=> ?_,fun r hr=> ?_⟩
 ·simp only[Y1,Qe,Qk] at hn
  rcases hn with rfl | ⟨y,hy,hn⟩
  ·exact h1
  ·exact(h3 y hy).node n hn
 ·simp only[Y1,Qe,Qk] at hn ⊢
  simp only[Vt,Qk];rcases hn with rfl | ⟨y,hy,hn⟩
  ·exact⟨fun _=>.inr ⟨x,hx,(h3 x hx).root⟩,fun h=>by rw[h2] at h;omega⟩
  ·obtain⟨e1,e2⟩:=(h3 y hy).sub n hn x hx
   exact⟨fun h=>.inr ⟨y,hy,e1 h⟩,fun h h'=>⟨y,hy,e2 h h'⟩⟩
 ·simp only[Vt,Qk] at hr
  obtain⟨y,hy,hr⟩:=hr;exact(h3 y hy).held r hr}
theorem Zol (s:Rm):∀ (l:Nat) (a:Int) (k tb:Ky) (e:Bool),Zy s l a k tb e=true->Blk s l a (Y1 s l a) (Vt s l a)
 | 0,a,k,tb,e,h=>by
  obtain⟨h1,h2,_,h4⟩:=Ya h;exact Zt3 h1 h2 h4
 | l+1,a,k,tb,e,h=>by
  obtain⟨h1,h2,_,h4⟩:=Ya h;exact Z57 h1 h2 fun x hx=>by
   obtain⟨t',e',hf⟩:=Xu h4 x hx;exact Zol s l _ _ _ _ hf
theorem Zau {s:Rm}{a:Int}(h:Yo s a=true):Blk s (rmV s a).1.toNat a (Xo s a) (Zev s a):=by{
 obtain⟨h1,_,_,l0,_,hi⟩:=Xf h;unfold Xo Zev;unfold U6 at hi;cases hl:(rmV s a).1.toNat with
 | zero =>
  rw[hl] at hi;exact Zt3 h1 (by omega) hi
 | succ l =>
  rw[hl] at hi;exact Z57 h1 (by omega) fun x hx=>by
   obtain⟨t',e',hf⟩:=Xu hi x hx;exact Zol s l _ _ _ _ hf}
theorem Xh {s:Rm}{n:Int}(h:rmE s n=0):8<=n/\n<256/\s.2.1[n.toNat]?.getD 0≠0:=by
 obtain⟨k,rfl,_,h8,h256,_,_,_,_,hx⟩:=Y6 (Z9 h).2;exact⟨by omega,by omega,by rw[show ((k:Int)).toNat=k by omega];exact hx⟩
theorem Zn5 (s:Rm):∀ (l:Nat) (a:Int),a∈Y1 s l a
 | 0,a=>by simp[Y1]
 | l+1,a=>by simp[Y1]
structure OnT (s t:Rm) (N R:List Int):Prop where
 may:Xm t=true
 node:∀ n∈N,t.2.1[n.toNat]?.getD 0≠0
 seen:∀ n∈N,Z1 t.1 n.toNat=Z1 s.1 n.toNat
 refs:∀ r∈R,t.2.1[r.toNat]?.getD 0≠0
theorem Zr4 {s t:Rm}{N R:List Int}(h:OnT s t N R){n:Int}(hn:n∈N) (he:rmE s n=0):rmE t n=0/\rmV t n=rmV s n:=by{
 obtain⟨_,ha⟩:=Z9 he;obtain⟨k,rfl,hm,h8,h256,_,_,hE,hV,hx⟩:=Y6 ha;have h1:=h.node _ hn;have h2:=h.seen _ hn;rw[show ((k:Int)).toNat=k by omega] at h1 h2;have ht:asE t (k:Int)=0:=Zcf h.may h8 h256 h1;refine⟨?_,?_⟩
 ·rw[rmE,if_pos ht,show ((k:Int)).toNat=k by omega,h2,<- hE]
  exact he
 ·rw[hV,rmV,if_pos ht,show ((k:Int)).toNat=k by omega,h2]}
theorem Z0i {s t:Rm}{N R:List Int}(h:OnT s t N R){l:List It}(hl:∀ x∈l,x.2.1≠0->x.2.1∈R):Yr t l=true:=by{
 unfold Yr;rw[Qx];intro x hx;by_cases h0:x.2.1=0
 ·simp[h0]
 ·have:=h.refs _ (hl x hx h0)
  simp[this]}
theorem Zfg {g g':Int->List Int}:∀ {l:List It},(∀ x∈l,g x.2.1=g' x.2.1)->l.flatMap (fun x=>g x.2.1)=l.flatMap fun x=>g' x.2.1
 | [],_=>rfl
 | x::r,h=>by
  rw[Qv,Qv,h x Qg,Zfg fun y hy=>h y (Qf _ hy)]
theorem Zff {f f':Int->Ky->Ky->Bool->Bool}:∀ {l:List It}{tb:Ky}{e:Bool},(∀ x∈l,∀ k tb e,f x.2.1 k tb e=true->f' x.2.1 k tb e=true)->Zax f l tb e=true->Zax f' l tb e=true
 | [],_,_,_,_=>rfl
 | x::r,tb,e,h,hf=>by
  rw[Vl,Qd] at hf ⊢;exact⟨h x Qg _ _ _ hf.1,Zff (fun y hy=>h y (Qf _ hy)) hf.2⟩
structure Z8v (s t:Rm) (l:Nat) (a:Int):Prop where
 its:X2 t l a=X2 s l a
 one:∀ q,Zcl t l a q=Zcl s l a q
 nodes:Y1 t l a=Y1 s l a
 refs:Vt t l a=Vt s l a
theorem Zhq {s t:Rm}{N R:List Int}(h:OnT s t N R):∀ (l:Nat) (a:Int) (k tb:Ky) (e:Bool),Zy s l a k tb e=true->(∀ n∈Y1 s l a,n∈N)->(∀ r∈Vt s l a,r∈R)->Zy t l a k tb e=true/\Z8v s t l a
 | 0,a,k,tb,e,hr,h1,h2=>by
  obtain⟨r1,r2,r3,r4⟩:=Ya hr;obtain⟨k1,k2⟩:=Zr4 h (h1 a (Zn5 s 0 a)) r1;refine⟨?_,by unfold X2;rw[k2],fun q=>by unfold Zcl;rw[k2],rfl,by unfold Vt;rw[k2]⟩
  have hl:Yr t (rmV s a).2=true:=Z0i h fun x hx h0=>h2 _ (by
   simp only[Vt,Qi,Pf,decide_eq_true_eq]
   exact⟨⟨x,hx,rfl⟩,h0⟩)
  unfold Zy;rw[k1,k2,r2,r3,hl];rfl
 | l+1,a,k,tb,e,hr,h1,h2=>by
  obtain⟨r1,r2,r3,r4⟩:=Ya hr;obtain⟨k1,k2⟩:=Zr4 h (h1 a (Zn5 s (l+1) a)) r1
  have g1:∀ x∈(rmV s a).2,∀ n∈Y1 s l x.2.1,n∈N:=fun x hx n hn=>h1 n (by
   simp only[Y1,Qe,Qk]
   exact .inr ⟨x,hx,hn⟩)
  have g2:∀ x∈(rmV s a).2,∀ n∈Vt s l x.2.1,n∈R:=fun x hx n hn=>h2 n (by
   simp only[Vt,Qk]
   exact⟨x,hx,hn⟩)
  have hs:∀ x∈(rmV s a).2,Z8v s t l x.2.1:=fun x hx=>by
   obtain⟨t',e',hf⟩:=Xu r4 x hx;exact(Zhq h l _ _ _ _ hf (g1 x hx) (g2 x hx)).2
  have hi:Zax (Zy t l) (rmV s a).2 tb e=true:=Zff (fun x hx k tb e hf=>(Zhq h l _ _ _ _ hf (g1 x hx) (g2 x hx)).1) r4;refine⟨?_,?_,fun q=> ?_,?_,?_⟩
  ·unfold Zy
   rw[k1,k2,r2,r3,hi];simp
  ·unfold X2
   rw[k2];exact X7 fun x hx=>(hs x hx).its
  ·unfold Zcl
   rw[k2];cases hf:(rmV s a).2.reverse.find? (fun x => !Zo q x.1) with
   | none=>rfl
   | some y=>exact(hs y (Qw.1 (Q0 hf))).one q
  ·unfold Y1
   rw[k2];exact congrArg (a :: ·) (Zfg fun x hx=>(hs x hx).nodes)
  ·unfold Vt
   rw[k2];exact Zfg fun x hx=>(hs x hx).refs
theorem Z76 {s t:Rm}{N R:List Int}(h:OnT s t N R){a:Int}(ht:Yo s a=true) (h1:∀ n∈Xo s a,n∈N) (h2:∀ r∈Zev s a,r∈R) :
  Yo t a=true/\rmV t a=rmV s a/\Vo t a=Vo s a/\(∀ q,Zdv t a q=Zdv s a q)/\Xo t a=Xo s a/\Zev t a=Zev s a:=by{
 obtain⟨r1,_,hm,l0,l6,hi⟩:=Xf ht;have hin:a∈N:=h1 a (Zau ht).root;obtain⟨k1,k2⟩:=Zr4 h hin r1;unfold Xo at h1;unfold Zev at h2;unfold U6 at hi;unfold Vo Zdv Xo Zev Yo U6;rw[k1,k2];cases hl:(rmV s a).1.toNat with
 | zero =>
  rw[hl] at hi h1 h2
  have hlf:Yr t (rmV s a).2=true:=Z0i h fun x hx h0=>h2 _ (by
   simp only[Vt,Qi,Pf,decide_eq_true_eq]
   exact⟨⟨x,hx,rfl⟩,h0⟩)
  refine⟨by simp only[hlf];rfl,rfl,by unfold X2;rw[k2],fun q=>by unfold Zcl;rw[k2],rfl,by unfold Vt;rw[k2]⟩
 | succ l =>
  rw[hl] at hi h1 h2
  have g1:∀ x∈(rmV s a).2,∀ n∈Y1 s l x.2.1,n∈N:=fun x hx n hn=>h1 n (by
   simp only[Y1,Qe,Qk]
   exact .inr ⟨x,hx,hn⟩)
  have g2:∀ x∈(rmV s a).2,∀ n∈Vt s l x.2.1,n∈R:=fun x hx n hn=>h2 n (by
   simp only[Vt,Qk]
   exact⟨x,hx,hn⟩)
  have hs:∀ x∈(rmV s a).2,Z8v s t l x.2.1:=fun x hx=>by
   obtain⟨t',e',hf⟩:=Xu hi x hx;exact(Zhq h l _ _ _ _ hf (g1 x hx) (g2 x hx)).2
  have hi':Zax (Zy t l) (rmV s a).2 Zbh false=true:=Zff (fun x hx k tb e hf=>(Zhq h l _ _ _ _ hf (g1 x hx) (g2 x hx)).1) hi;refine⟨by simp only[hi'];rfl,rfl,?_,fun q=> ?_,?_,?_⟩
  ·unfold X2
   rw[k2];exact X7 fun x hx=>(hs x hx).its
  ·unfold Zcl
   rw[k2];cases hf:(rmV s a).2.reverse.find? (fun x => !Zo q x.1) with
   | none=>rfl
   | some y=>exact(hs y (Qw.1 (Q0 hf))).one q
  ·unfold Y1
   rw[k2];exact congrArg (a :: ·) (Zfg fun x hx=>(hs x hx).nodes)
  ·unfold Vt
   rw[k2];exact Zfg fun x hx=>(hs x hx).refs}
def ndD (d:Dk) (n:Int):Nd:=reV (Z1 d n.toNat)
def Ze6 (d:Dk):List Int->Nat->Nat
 | [],_=>0
 | n::r,k=>Xj (ndD d n).2 k+Ze6 d r k
def Yy (t:List UInt8) (k:Nat):Nat:=(t[k]?.getD 0).toNat
structure Enf (d:Dk) (t:List UInt8) (P:Nat->Nat) (N:List Int):Prop where
 once:N.Nodup
 node:∀ n∈N,0<=n/\n<256/\reN (Z1 d n.toNat)=0/\Yy t n.toNat≠0
 shut:∀ n∈N,(ndD d n).1≠0->∀ x∈(ndD d n).2,x.2.1∈N/\x.2.1≠0/\(ndD d x.2.1).1+1=(ndD d n).1
 refs:∀ n∈N,Zbo (ndD d n).2
 enough:∀ k,P k+Ze6 d N k<=Yy t k
theorem Zn0 (d:Dk) (p:Int->Bool) (k:Nat):∀ N:List Int,Ze6 d (N.filter p) k<=Ze6 d N k
 | []=>Qa _
 | n::r=>by
  have:=Zn0 d p k r;rw[List.filter_cons];split
  ·unfold Ze6;omega
  ·show Ze6 d (r.filter p) k<=Xj (ndD d n).2 k+Ze6 d r k
   omega
theorem Zuw {d:Dk}{a:Int}{k:Nat}:∀ {N:List Int},N.Nodup->a∈N->Ze6 d N k=Xj (ndD d a).2 k+Ze6 d (N.filter fun n=>decide (n≠a)) k
 | n::r,h,ha=>by
  obtain⟨h1,h2⟩:=Qal.1 h;by_cases e:n=a
  ·subst e
   have:(n::r).filter (fun m=>decide (m≠n))=r:=by
    rw[List.filter_cons_of_neg (by simp),Pq];intro m hm;have:m≠n:=fun e=>h1 (e ▸ hm)
    simpa using this
   rw[this];rfl
  ·have ha':a∈r:=by
    rcases Qe.1 ha with e' | h
    ·exact absurd e'.symm e
    ·exact h
   rw[Qam (by simpa using e)];show Xj (ndD d n).2 k+Ze6 d r k=_+(Xj (ndD d n).2 k+Ze6 d (r.filter fun m=>decide (m≠a)) k);rw[Zuw h2 ha'];omega
theorem Zgv {d:Dk}{k:Nat}{n:Int}:∀ {N:List Int},n∈N->Xj (ndD d n).2 k<=Ze6 d N k
 | m::r,h=>by
  unfold Ze6;rcases Qe.1 h with rfl | h
  ·omega
  ·have:=Zgv (k:=k) (d:=d) h
   omega
theorem Zbr {l:List It}{x:It}(hx:x∈l){k:Nat}(hk:x.2.1=(k:Int)) (h0:x.2.1≠0):1<=Xj l k:=by{
 induction l with
 | nil=>cases hx
 | cons y r ih =>
  unfold Xj;rcases Qe.1 hx with rfl | hx
  ·rw[if_pos hk,if_neg h0]
   omega
  ·have:=ih hx
   omega}
theorem Zjy {t u:List UInt8}{a:Nat}(h:dnO t a=some u):Yy t a=Yy u a+1/\(∀ k,k≠a->Yy u k=Yy t k):=by
 obtain⟨h1,h2,h3,h4⟩:=Zd1 h;refine⟨h4.symm,fun k hk=> ?_⟩;unfold Yy;rw[h2,List.getElem?_set_ne (Ne.symm hk)]
def Zah (u:List UInt8) (N:List Int):List Int:=N.filter fun n=>decide (Yy u n.toNat≠0)
theorem Zry {u:List UInt8}{N:List Int}{n:Int}:n∈Zah u N↔n∈N/\Yy u n.toNat≠0:=by
 unfold Zah;rw[Qi,decide_eq_true_eq]
theorem Enf.part {d:Dk}{t u:List UInt8}{P Q:Nat->Nat}{N:List Int}(h:Enf d t P N) (p:Int->Bool) (hn:∀ n∈N,p n=true->Yy u n.toNat≠0) (hs:∀ n∈N,p n=true->∀ x∈(ndD d n).2,x.2.1∈N->x.2.1≠0->p x.2.1=true) (he:∀ k,Q k+Ze6 d (N.filter p) k<=Yy u k):Enf d u Q (N.filter p):=by{
 refine⟨h.once.filter _,fun n hm=> ?_,fun n hm h0 x hx=> ?_,fun n hm=> ?_,he⟩
 ·obtain⟨h1,h2⟩:=Qi.1 hm
  obtain⟨g1,g2,g3,_⟩:=h.node n h1;exact⟨g1,g2,g3,hn n h1 h2⟩
 ·obtain⟨h1,h2⟩:=Qi.1 hm
  obtain⟨g1,g2,g3⟩:=h.shut n h1 h0 x hx;exact⟨Qi.2 ⟨g1,hs n h1 h2 x hx g1 g2⟩,g2,g3⟩
 ·exact h.refs n (Qi.1 hm).1}
theorem Zlw {d:Dk}{t u:List UInt8}{P:Nat->Nat}{N:List Int}{a:Nat}(h:Enf d t (fun k=>P k+if k=a then 1 else 0) N) (hd:dnO t a=some u):Enf d u P (Zah u N):=by{
 obtain⟨c1,c2⟩:=Zjy hd;refine h.part _ (fun n hn hp=>by simpa using hp) (fun n hn hp x hx hxN hx0=> ?_) (fun k=> ?_)
 ·simp only[decide_eq_true_eq] at hp ⊢
  intro h0;obtain⟨g1,_,_,g4⟩:=h.node _ hxN;have hxa:x.2.1.toNat=a:=by
   by_cases e:x.2.1.toNat=a
   ·exact e
   ·rw[c2 _ e] at h0
    exact absurd h0 g4
  have h1:=h.enough a;rw[hxa] at h0;have h2:=Zbr hx (k:=a) (by omega) hx0;have h3:=Zgv (d:=d) (k:=a) hn;simp only[if_true] at h1;omega
 ·have h1:=h.enough k
  have h2:=Zn0 d (fun n=>decide (Yy u n.toNat≠0)) k N;by_cases e:k=a
  ·subst e
   simp only[if_true] at h1;omega
  ·rw[c2 k e]
   simp only[if_neg e] at h1;omega}
theorem Z4f {d:Dk}{t u:List UInt8}{P:Nat->Nat}{N:List Int}{a:Int}(h:Enf d t (fun k=>P k+if k=a.toNat then 1 else 0) N) (ha:a∈N) (hd:dnO t a.toNat=some u) (h1:Yy t a.toNat<=1) :
  Enf d u (fun k=>P k+Xj (ndD d a).2 k) (N.filter fun n=>decide (n≠a))/\(∀ x∈(ndD d a).2,(ndD d a).1≠0->x.2.1∈N.filter fun n=>decide (n≠a)):=by{
 obtain⟨c1,c2⟩:=Zjy hd;have ha0:=(h.node a ha).1;have hz:Ze6 d N a.toNat=0:=by
  have:=h.enough a.toNat;simp only[if_true] at this;omega
 have hno:∀ n∈N,∀ x∈(ndD d n).2,x.2.1∈N->x.2.1≠0->x.2.1≠a:=fun n hn x hx hxN hx0 e=>by
  have h2:=Zbr hx (k:=a.toNat) (by omega) hx0;have h3:=Zgv (d:=d) (k:=a.toNat) hn;omega
 refine⟨h.part _ (fun n hn hp=> ?_) (fun n hn _ x hx hxN hx0=>by simpa using hno n hn x hx hxN hx0) (fun k=> ?_),fun x hx h0=> ?_⟩
 ·simp only[decide_eq_true_eq] at hp
  obtain⟨g1,_,_,g4⟩:=h.node n hn;rw[c2 _ (by omega)];exact g4
 ·have h2:=h.enough k
  rw[Zuw h.once ha] at h2;by_cases e:k=a.toNat
  ·subst e
   simp only[if_true] at h2;omega
  ·rw[c2 k e]
   simp only[if_neg e] at h2;omega
 ·obtain⟨g1,g2,_⟩:=h.shut a ha h0 x hx
  exact Qi.2 ⟨g1,by simpa using hno a ha x hx g1 g2⟩}
theorem Zy6 {t u:List UInt8}{N:List Int}(h:LeT u t):Zah u (Zah t N)=Zah u N:=by{
 unfold Zah;rw[Qan];refine Py fun n _=> ?_
 have:=h.le n.toNat;by_cases e:Yy u n.toNat=0
 ·simp[e]
 ·have:Yy t n.toNat≠0:=by unfold Yy at e ⊢;omega
  simp[e,this]}
theorem Z4p {u:List UInt8}{N:List Int}{a:Int}(h:Yy u a.toNat=0):Zah u (N.filter fun n=>decide (n≠a))=Zah u N:=by{
 unfold Zah;rw[Qan];refine Py fun n _=> ?_
 by_cases e:n=a
 ·subst e;simp[h]
 ·simp[e]}
theorem Z2e {t:List UInt8}{d:Dk}{P:Nat->Nat}{N:List Int}(h:Enf d t P N):Zah t N=N:=by
 unfold Zah;rw[Pq];intro n hn
 simpa using (h.node n hn).2.2.2
theorem Enf.same {d:Dk}{t:List UInt8}{P Q:Nat->Nat}{N:List Int}(h:Enf d t P N) (e:∀ k,Q k=P k):Enf d t Q N:=⟨h.once,h.node,h.shut,h.refs,fun k=>by rw[e];exact h.enough k⟩
theorem Zmr {d:Dk}{f:List UInt8->Nat->Option (List UInt8)}{ok:List UInt8->List Int->Int->Prop}
  (hle:∀ t a u,f t a=some u->LeT u t)
  (hok:∀ t u N a,ok t N a->LeT u t->Yy u a.toNat≠0->ok u (Zah u N) a)
  (hf:∀ t u P N a,0<a->ok t N a->Enf d t (fun k=>P k+if k=a.toNat then 1 else 0) N->f t a.toNat=some u->Enf d u P (Zah u N)) :
  ∀ (l:List It) (t u:List UInt8) (P:Nat->Nat) (N:List Int),Zbo l->(∀ x∈l,x.2.1≠0->ok t N x.2.1)->Enf d t (fun k=>P k+Xj l k) N->Vm f t l=some u->Enf d u P (Zah u N)
 | [],t,u,P,N,_,_,h,hu=>by
  cases hu;have h':=h.same (Q:=P) (fun k=>by simp[Xj]);rw[Z2e h'];exact h'
 | x::r,t,u,P,N,hr,hk,h,hu=>by
  obtain⟨h1,h2⟩:=Zbz hr;unfold Vm at hu;by_cases h0:x.2.1=0
  ·rw[if_pos h0] at hu
   exact Zmr hle hok hf r t u P N h2 (fun y hy=>hk y (Qf _ hy)) (h.same fun k=>by rw[Zby h0]) hu
  ·rw[if_neg h0] at hu
   cases ht:f t x.2.1.toNat with
   | none=>rw[ht] at hu;cases hu
   | some t1 =>
    rw[ht] at hu;have hu':Vm f t1 r=some u:=hu;have hpos:0<x.2.1:=by rcases h1 with h1 | ⟨k,e,_⟩ <;> omega
    have s1:=hf t t1 (fun k=>P k+Xj r k) N x.2.1 hpos (hk x Qg h0) (h.same fun k=>by
     have ec:Xj (x::r) k=(if x.2.1=(k:Int) then (if x.2.1=0 then 0 else 1) else 0)+Xj r k:=rfl;show P k+Xj r k+(if k=x.2.1.toNat then 1 else 0)=P k+Xj (x::r) k;rw[ec];by_cases e:x.2.1=(k:Int)
     ·rw[if_pos e,if_neg h0,if_pos (by omega)];omega
     ·rw[if_neg e,if_neg (by omega)];omega) ht
    have hl1:=hle _ _ _ ht;have hl2:=Zgm hle r t1 u hu';have s2:=Zmr hle hok hf r t1 u P (Zah t1 N) h2 (fun y hy hy0=> ?_) s1 hu'
    ·rwa [Zy6 hl2] at s2
    ·refine hok t t1 N y.2.1 (hk y (Qf _ hy) hy0) hl1 ?_
     have h5:=s1.enough y.2.1.toNat;have h6:0<y.2.1:=by
      rcases h2 y hy with e | e
      ·exact absurd e hy0
      ·omega
     have h7:=Zbr hy (k:=y.2.1.toNat) (by omega) hy0;omega
theorem Z5y (d:Dk):∀ (L:Nat) (t u:List UInt8) (P:Nat->Nat) (N:List Int) (a:Int),0<a->(∀ l,L=l+1->a∈N/\(ndD d a).1=(l:Int))->Enf d t (fun k=>P k+if k=a.toNat then 1 else 0) N->lvF d L t a.toNat=some u->Enf d u P (Zah u N)
 | 0,t,u,P,N,a,_,_,h,hu=>Zlw h hu
 | l+1,t,u,P,N,a,h0,hk,h,hu=>by
  obtain⟨ha,hl⟩:=hk l rfl;have hu0:=hu;unfold lvF lvS at hu;cases hd:dnO t a.toNat with
  | none=>rw[hd] at hu;cases hu
  | some t1 =>
   rw[hd] at hu;have hu':(if 1<(t[a.toNat]?.getD 0).toNat then some t1 else if reN (Z1 d a.toNat)=0/\(reV (Z1 d a.toNat)).1=(l:Int) then Vm (lvF d l) t1 (reV (Z1 d a.toNat)).2 else none)=some u:=hu;obtain⟨c1,c2⟩:=Zjy hd;by_cases hm:1<(t[a.toNat]?.getD 0).toNat
   ·rw[if_pos hm] at hu'
    cases hu';exact Zlw h hd
   ·rw[if_neg hm] at hu'
    split at hu'
    ·have h1:Yy t a.toNat<=1:=by unfold Yy;omega
     obtain⟨o1,o2⟩:=Z4f h ha hd h1;have hz:Yy t1 a.toNat=0:=by omega
     have hle:=Zuu d l;have hlu:=Zgm hle _ t1 u hu';have s:=Zmr (d:=d) (f:=lvF d l) (ok:=fun _ M b=>∀ l',l=l'+1->b∈M/\(ndD d b).1=(l':Int)) hle
      (fun t u M b hb _ hc l' e=>⟨Zry.2 ⟨(hb l' e).1,hc⟩,(hb l' e).2⟩)
      (fun t u P M b hb0 hb hE hu=>Z5y d l t u P M b hb0 hb hE hu)
      (ndD d a).2 t1 u P _ (h.refs a ha) (fun x hx _ l' e=> ?_) o1 hu'
     ·rw[Z4p (by have:=hlu.le a.toNat;unfold Yy at hz ⊢;omega)] at s
      exact s
     ·have hne:(ndD d a).1≠0:=by rw[hl,e];omega
      refine⟨o2 x hx hne,?_⟩;obtain⟨_,_,g3⟩:=h.shut a ha hne x hx;omega
    ·cases hu'
theorem Zia {d:Dk}{t u:List UInt8}{P:Nat->Nat}{N:List Int}{a:Int}(ha:a∈N) (h0:0<a) (hl:0<=(ndD d a).1) (h:Enf d t (fun k=>P k+if k=a.toNat then 1 else 0) N) (hu:lfO d t a.toNat=some u):Enf d u P (Zah u N):=by{
 obtain⟨L,hL⟩:∃ L:Nat,(ndD d a).1=(L:Int):=⟨(ndD d a).1.toNat,by omega⟩
 refine Z5y d (L+1) t u P N a h0 (fun l e=>⟨ha,by rw[hL];omega⟩) h ?_;unfold lfO at hu;unfold lvF lvS;have e1:(reV (Z1 d a.toNat)).1=(L:Int):=hL;rw[e1] at hu;rw[show ((L:Nat):Int).toNat=L by omega] at hu;rw[<- hu];cases dnO t a.toNat with
 | none=>rfl
 | some t1=>simp[e1]}
theorem V4 {t:List UInt8}{k:Nat}:Yy t k≠0↔t[k]?.getD 0≠0:=by
 unfold Yy;rw[ne_eq,Vy]
theorem Zab {s:Rm}{n:Int}(h:rmE s n=0):ndD s.1 n=rmV s n:=by
 obtain⟨k,rfl,_,_,_,_,_,_,hV,_⟩:=Y6 (Z9 h).2;rw[hV,ndD,show ((k:Int)).toNat=k by omega]
theorem U7 {s:Rm}{n:Nd}(h:mkE s n=0):Xv s (mkV s n):=by{
 obtain⟨k,e1,h8,h256,hz,_,hc,hV,hm,c1,c2,_⟩:=X5 h;have hne:∀ i:Nat,s.2.1[i]?.getD 0≠0->i≠k:=fun i hi e=>hi (by rw[e];exact hz)
 refine⟨hm,fun i hi=> ?_,fun i hi=> ?_⟩
 ·rw[<- V4]
  have h1:=c2 i (hne i hi);have h2:=V4.2 hi;unfold Yy at h2 ⊢;omega
 ·rw[hV]
  exact Z4 (hne i hi)}
theorem Zmc {s:Rm}{n:Nd}{P:Nat->Nat}{N:List Int}(h:mkE s n=0) (hi:InN n) (hE:Enf s.1 s.2.1 P N) (hsub:n.1≠0->∀ x∈n.2,x.2.1∈N/\x.2.1≠0/\(ndD s.1 x.2.1).1+1=n.1) :
  ∃ k:Nat,mkN s n=k/\8<=k/\k<256/\Yy s.2.1 k=0/\(k:Int)∉N/\Enf (mkV s n).1 (mkV s n).2.1 (fun i=>P i+if i=k then 1 else 0) ((k:Int)::N)/\ndD (mkV s n).1 (k:Int)=n/\(∀ m∈N,ndD (mkV s n).1 m=ndD s.1 m)/\rmE (mkV s n) (k:Int)=0/\rmV (mkV s n) (k:Int)=n/\Yy (mkV s n).2.1 k=1:=by{
 obtain⟨_,hn,_⟩:=Zvy h;obtain⟨k,e1,h8,h256,hz,_,hc,hV,hm,c1,c2,_⟩:=X5 h;have hseen:Z1 (mkV s n).1 k=Va n:=by rw[hV];exact Xr
 have ha:asE (mkV s n) (k:Int)=0:=Zcf hm h8 h256 (by rw[c1];decide);obtain⟨r1,r2⟩:=Zj5 ha hseen hn hi;have hnd:ndD (mkV s n).1 (k:Int)=n:=(Zab r1).trans r2;have hz8:Yy s.2.1 k=0:=by unfold Yy;rw[hz];rfl
 have hkN:(k:Int)∉N:=fun hin=>by
  have:=(hE.node _ hin).2.2.2;rw[show ((k:Int)).toNat=k by omega] at this;exact this hz8
 have Zaf:∀ m∈N,m.toNat≠k:=fun m hmN e=>by
  have h0:=(hE.node m hmN).1;exact hkN (by rw[<- e,show ((m.toNat:Nat):Int)=m by omega];exact hmN)
 have hsm:∀ m∈N,Z1 (mkV s n).1 m.toNat=Z1 s.1 m.toNat:=fun m hmN=>by
  rw[hV];exact Z4 (Zaf m hmN)
 have hndm:∀ m∈N,ndD (mkV s n).1 m=ndD s.1 m:=fun m hmN=>by rw[ndD,ndD,hsm m hmN]
 have hc1:Yy (mkV s n).2.1 k=1:=by unfold Yy;rw[c1];rfl
 have hc2:∀ i,i≠k->Yy (mkV s n).2.1 i=Yy s.2.1 i+Xj n.2 i:=fun i hne=>c2 i hne
 have hsum:∀ i,Ze6 (mkV s n).1 N i=Ze6 s.1 N i:=fun i=>by
  have:∀ M:List Int,(∀ m∈M,m∈N)->Ze6 (mkV s n).1 M i=Ze6 s.1 M i:=by
   intro M
   induction M with
   | nil=>intro _;rfl
   | cons m r ih =>
    intro hM;show Xj (ndD (mkV s n).1 m).2 i+Ze6 (mkV s n).1 r i=Xj (ndD s.1 m).2 i+Ze6 s.1 r i;rw[hndm m (hM m Qg),ih fun x hx=>hM x (Qf _ hx)]
  exact this N fun m hm=>hm
 refine⟨k,e1,h8,h256,hz8,hkN,⟨Qal.2 ⟨hkN,hE.once⟩,fun m hmN=> ?_,fun m hmN h0 x hx=> ?_,fun m hmN=> ?_,fun i=> ?_⟩,hnd,hndm,r1,r2,hc1⟩
 ·rcases Qe.1 hmN with rfl | hmN
  ·refine⟨by omega,by omega,?_,by rw[show ((k:Int)).toNat=k by omega,hc1];decide⟩
   rw[show ((k:Int)).toNat=k by omega,hseen];exact(Zb6 hn hi).1
  ·obtain⟨g1,g2,g3,g4⟩:=hE.node m hmN
   refine⟨g1,g2,by rw[hsm m hmN];exact g3,?_⟩;rw[hc2 _ (Zaf m hmN)];omega
 ·rcases Qe.1 hmN with rfl | hmN
  ·rw[hnd] at h0 hx ⊢
   obtain⟨g1,g2,g3⟩:=hsub h0 x hx;exact⟨Qf _ g1,g2,by rw[hndm _ g1];exact g3⟩
  ·rw[hndm m hmN] at h0 hx ⊢
   obtain⟨g1,g2,g3⟩:=hE.shut m hmN h0 x hx;exact⟨Qf _ g1,g2,by rw[hndm _ g1];exact g3⟩
 ·rcases Qe.1 hmN with rfl | hmN
  ·rw[hnd]
   exact Vx hn
  ·rw[hndm m hmN]
   exact hE.refs m hmN
 ·show P i+(if i=k then 1 else 0)+(Xj (ndD (mkV s n).1 (k:Int)).2 i+Ze6 (mkV s n).1 N i)<=_
  rw[hnd,hsum];have h1:=hE.enough i;by_cases e:i=k
  ·subst e
   rw[if_pos rfl,hc1];omega
  ·rw[if_neg e,hc2 i e]
   omega}
theorem Z2w {d:Dk}{t u:List UInt8}{P:Nat->Nat}{N:List Int}{a:Nat}(h:Enf d t (fun k=>P k+if k=a then 1 else 0) N) (hd:dnO t a=some u) (hc:Yy u a≠0):Enf d u P N:=by{
 have s:=Zlw h hd;obtain⟨c1,c2⟩:=Zjy hd;have:Zah u N=N:=by
  unfold Zah;rw[Pq];intro n hn;have h4:=(h.node n hn).2.2.2;by_cases e:n.toNat=a
  ·rw[e];simpa using hc
  ·rw[c2 _ e];simpa using h4
 rwa [this] at s}
def Vu (L:List It) (x:It):List It:=(L.filter fun y=>Zo y.1 x.1)++x::(L.filter fun y=>Zo x.1 y.1)
theorem Zgc {p:It->Bool}{L:List It}(h:∀ x∈L,p x=true):L.filter p=L:=Pq.2 h
theorem Zue {A B C:List It}{x:It}(hA:∀ y∈A,Zo y.1 x.1=true) (hC:∀ y∈C,Zo x.1 y.1=true):Vu (A++(B++C)) x=A++(Vu B x++C):=by
 unfold Vu;simp only[Qaf];rw[Zgc hA,Uo (L:=A) (fun y hy=>Ve (hA y hy)),Uo (L:=C) (fun y hy=>Ve (hC y hy)),Zgc hC];simp
theorem Zk4 {A M C:List It}{x:It}(hA:∀ y∈A,Zo y.1 x.1=true) (hM:∀ y∈M,y.1=x.1) (hC:∀ y∈C,Zo x.1 y.1=true):Vu (A++(M++C)) x=A++x::C:=by
 rw[Zue hA hC];unfold Vu;rw[Uo (L:=M) (fun y hy=>by rw[hM y hy];exact Y2 _),Uo (L:=M) (fun y hy=>by rw[hM y hy];exact Y2 _)];rfl
theorem Zzs {L:List It}(h:Up L) (x:It):Up (Vu L x):=by
 unfold Vu Up;rw[Pi];refine⟨P1.filter _ h,Qu.2 ⟨fun y hy=>(Qi.1 hy).2,P1.filter _ h⟩,fun y hy z hz=> ?_⟩;have h1:=(Qi.1 hy).2;rcases Qe.1 hz with rfl | hz
 ·exact h1
 ·exact Yt h1 (Qi.1 hz).2
theorem Zct {L:List It}{x y:It}:y∈Vu L x↔y=x\/(y∈L/\y.1≠x.1):=by{
 unfold Vu;rw[Qp,Qe,Qi,Qi];constructor
 ·rintro(⟨h1,h2⟩ | rfl | ⟨h1,h2⟩)
  ·exact .inr ⟨h1,fun e=>by rw[e,Y2] at h2;cases h2⟩
  ·exact .inl rfl
  ·exact .inr ⟨h1,fun e=>by rw[e,Y2] at h2;cases h2⟩
 ·rintro(rfl | ⟨h1,h2⟩)
  ·exact .inr (.inl rfl)
  ·cases h3:Zo y.1 x.1 with
   | true=>exact .inl ⟨h1,rfl⟩
   | false=>exact .inr (.inr ⟨h1,Zb2 h2 h3⟩)}
theorem Zhx {n:Nd}(h:mayN n=true) (x:It):n.2.take (Z2 n x.1)++x::n.2.drop (Z2 n x.1+if Yl n x.1=true then 1 else 0)=Vu n.2 x:=by{
 have hA:∀ y∈n.2.take (Z2 n x.1),Zo y.1 x.1=true:=fun y hy=>by
  obtain⟨i,hi⟩:=Qm hy;have hlt:=(Qj.1 hi).1;rw[Pp] at hlt;rw[List.getElem?_take_of_lt (by omega)] at hi;rw[Ur h hi];simp;omega
 cases ht:Yl n x.1 with
 | true =>
  have hp:=Zbi ht;obtain⟨z,hz⟩:∃ z,n.2[Z2 n x.1]? = some z:=⟨_,Qc hp⟩
  have hzk:=(Ut h ht hz).1;have hg:n.2[Z2 n x.1]=z:=(Qj.1 hz).2;have e:n.2=n.2.take (Z2 n x.1)++([z]++n.2.drop (Z2 n x.1+1)):=by
   conv=>lhs;rw[<- Qy (Z2 n x.1) n.2,Qao hp,hg]
   rfl
  rw[if_pos rfl]
  conv=>rhs;rw[e]
  rw[Zk4 hA (fun y hy=>by rw[Ql.1 hy];exact hzk) (fun y hy=>by
   obtain⟨i,hi⟩:=Qm hy;rw[Q4] at hi;rw[<- hzk]
   exact Zaz h (by omega) hz hi)]
 | false =>
  rw[if_neg (by decide),Nat.add_zero];have e:n.2=n.2.take (Z2 n x.1)++([]++n.2.drop (Z2 n x.1)):=by simp
  conv=>rhs;rw[e]
  rw[Zk4 hA (fun y hy=>by cases hy) (fun y hy=>by
   obtain⟨i,hi⟩:=Qm hy;rw[Q4] at hi
   exact Zbq h ht (by omega) hi)]}
def Xk (n:Nd) (k:Ky):Nat:=if Yl n k=true then Z2 n k else Z2 n k-1
theorem Zc4 {n:Nd}(k:Ky) (h:0<n.2.length):Xk n k<n.2.length:=by{
 unfold Xk;split
 ·rename_i ht;exact Zbi ht
 ·have:=Zcb n k
  omega}
theorem Zgn {n:Nd}(h:mayN n=true){k:Ky}{i:Nat}{y:It}(hi:Xk n k<i) (hy:n.2[i]? = some y):Zo k y.1=true:=by{
 unfold Xk at hi;cases ht:Yl n k with
 | true =>
  rw[ht,if_pos rfl] at hi;have hp:=Zbi ht;obtain⟨z,hz⟩:∃ z,n.2[Z2 n k]? = some z:=⟨_,Qc hp⟩
  rw[<- (Ut h ht hz).1];exact Zaz h hi hz hy
 | false =>
  rw[ht,if_neg (by decide)] at hi;exact Zbq h ht (by omega) hy}
theorem Zyt {n:Nd}(h:mayN n=true){k:Ky}{y:It}(hy:n.2[Xk n k]? = some y) (h0:Xk n k≠0):Zo k y.1=false:=by{
 unfold Xk at hy h0;cases ht:Yl n k with
 | true =>
  rw[ht,if_pos rfl] at hy;rw[(Ut h ht hy).1];exact Y2 _
 | false =>
  rw[ht,if_neg (by decide)] at hy h0;have:=Ur h (k:=k) hy;rw[decide_eq_true (by omega)] at this;exact Ve this}
theorem Y3 (f:Int->Ky->Ky->Bool->Bool):∀ (A B:List It) (tb:Ky) (e:Bool),Zax f (A++B) tb e=(Zax f A (nxO B tb) (bxO B e)&&Zax f B tb e)
 | [],B,tb,e=>by
  show Zax f B tb e=(true&&Zax f B tb e);simp
 | x::r,B,tb,e=>by
  rw[Qo,Vl,Y3 f r B tb e,Vl];have e1:nxO (r++B) tb=nxO r (nxO B tb):=by cases r <;> rfl
  have e2:bxO (r++B) e=bxO r (bxO B e):=by cases r <;> rfl
  rw[e1,e2,Bool.and_assoc]
theorem Zra {f f':Int->Ky->Ky->Bool->Bool}{A C up:List It}{y z:It}{r:List It}{tb:Ky}{e:Bool}(h:Zax f (A++y::C) tb e=true) (hk:A≠[]->z.1=y.1) (hup:up=z::r)
  (hf:∀ x∈A++C,∀ k tb e,f x.2.1 k tb e=true->f' x.2.1 k tb e=true) (hu:Zax f' up (nxO C tb) (bxO C e)=true):Zax f' (A++(up++C)) tb e=true:=by{
 rw[Y3,Qd] at h;obtain⟨h1,h2⟩:=h;rw[Vl,Qd] at h2;rw[Y3,Y3,Qd,Qd];refine⟨?_,hu,Zff (fun x hx=>hf x (Pg _ hx)) h2.2⟩;have e1:A≠[]->nxO (up++C) tb=nxO (y::C) tb/\bxO (up++C) e=bxO (y::C) e:=fun hA=>by
  subst hup;exact⟨hk hA,rfl⟩
 by_cases hA:A=[]
 ·subst hA;rfl
 ·obtain⟨g1,g2⟩:=e1 hA
  rw[g1,g2];exact Zff (fun x hx=>hf x (Pr _ hx)) h1}
def Zns (l:List It):Ky:=match l with | []=>Zbh | x::_=>x.1
def upI (l:List It) (k:Int):It:=(Zns l,k,[])
def Zq (s:Rm) (lv:Int) (l:List It):Int×Rm×List It :=
 if l.length<=5 then
  if mkE s (lv,l)=0 then (0,mkV s (lv,l),[upI l (mkN s (lv,l))]) else (mkE s (lv,l),Zj,[])
 else if mkE s (lv,l.take 3)=0 then
  if mkE (mkV s (lv,l.take 3)) (lv,l.drop 3)=0 then (0,mkV (mkV s (lv,l.take 3)) (lv,l.drop 3),[upI (l.take 3) (mkN s (lv,l.take 3)),upI (l.drop 3) (mkN (mkV s (lv,l.take 3)) (lv,l.drop 3))])
  else (mkE (mkV s (lv,l.take 3)) (lv,l.drop 3),Zj,[])
 else (mkE s (lv,l.take 3),Zj,[])
theorem X9 {s u:Rm}{lv:Int}{l up:List It}(h:Zq s lv l=(0,u,up)):(mkE s (lv,l)=0/\u=mkV s (lv,l)/\up=[upI l (mkN s (lv,l))]) \/
  (5<l.length/\mkE s (lv,l.take 3)=0/\mkE (mkV s (lv,l.take 3)) (lv,l.drop 3)=0/\u=mkV (mkV s (lv,l.take 3)) (lv,l.drop 3)/\up=[upI (l.take 3) (mkN s (lv,l.take 3)),upI (l.drop 3) (mkN (mkV s (lv,l.take 3)) (lv,l.drop 3))]):=by{
 unfold Zq at h;split at h
 ·split at h
  ·rename_i h1
   cases h;exact .inl ⟨h1,rfl,rfl⟩
  ·rename_i h1
   simp only[Prod.mk.injEq] at h;exact absurd h.1 h1
 ·rename_i h0
  split at h
  ·rename_i h1
   split at h
   ·rename_i h2
    cases h;exact .inr ⟨by omega,h1,h2,rfl,rfl⟩
   ·rename_i h2
    simp only[Prod.mk.injEq] at h;exact absurd h.1 h2
  ·rename_i h1
   simp only[Prod.mk.injEq] at h;exact absurd h.1 h1}
def Zkq (s:Rm):Nat->List It->Ky->Bool->List It->Prop
 | 0,L,tb,e,M=>Up L/\Yr s L=true/\(e=true->∀ y∈L,Zo y.1 tb=true)/\M=L
 | l+1,L,tb,e,M=>Zax (Zy s l) L tb e=true/\M=L.flatMap fun x=>X2 s l x.2.1
theorem Zhu {s t:Rm}(h:Xv s t):∀ {lv:Nat}{L M:List It}{tb:Ky}{e:Bool},Zkq s lv L tb e M->Zkq t lv L tb e M
 | 0,_,_,_,_,hr=>⟨hr.1,Zj4 h hr.2.1,hr.2.2⟩
 | l+1,L,M,tb,e,hr=>by
  refine⟨Ux (fun a k tb e hf=>(Z8 h l a k tb e hf).1) _ _ _ hr.1,hr.2.trans (X7 fun x hx=> ?_)⟩;obtain⟨t',e',hf⟩:=Xu hr.1 x hx;exact(Z8 h l _ _ _ _ hf).2.1.symm
theorem Z0v {s:Rm}{l:Nat}{L:List It}{tb:Ky}(h:Zax (Zy s l) L tb true=true):∀ x∈L,Zo x.1 tb=true:=fun x hx=>by
 obtain⟨y,r,rfl⟩:∃ y r,L=y::r:=by
  cases L with
  | nil=>cases hx
  | cons y r=>exact⟨y,r,rfl⟩
 obtain⟨y',r',e',hp⟩:=Zaw (Y4 s l) (y::r) tb true (by simp) h;cases e';obtain⟨t,e2,hf⟩:=Xu h x hx;obtain⟨z,q,ez,kz⟩:=(Y4 s l _ _ _ _ hf).first;have:=hp.bound rfl z (Qk.2 ⟨x,hx,by rw[ez];simp⟩)
 rwa [kz] at this
theorem Z2v {s:Rm}{lv:Nat}{L M:List It}{tb:Ky}{e:Bool}{k:Int}(h1:rmE s k=0) (h2:rmV s k=((lv:Int),L)) (hne:L≠[]) (h:Zkq s lv L tb e M):Zy s lv k (Zns L) tb e=true/\X2 s lv k=M:=by{
 obtain⟨x,r,rfl⟩:=Ps hne;obtain⟨z,hz⟩:∃ z,(x::r).getLast? = some z:=⟨_,Pz (by simp)⟩
 have hin:=Pn hz;have hb:e=true->Zo z.1 tb=true:=fun he=>by
  cases lv with
  | zero=>exact h.2.2.1 he z hin
  | succ l =>
   have h0:=h.1;rw[he] at h0;exact Z0v h0 z hin
 have hh:Zel (x::r) (Zns (x::r)) tb e=true:=by
  unfold Zel;rw[hz];cases e with
  | false=>simp[Zns]
  | true=>simp[Zns,hb rfl]
 cases lv with
 | zero =>
  refine⟨?_,by unfold X2;rw[h2];exact h.2.2.2.symm⟩;unfold Zy;rw[h1,h2,hh,h.2.1];simp
 | succ l =>
  refine⟨?_,by unfold X2;rw[h2];exact h.2.symm⟩;unfold Zy;rw[h1,h2,hh,h.1];simp}
theorem Z0j {s:Rm}{lv:Nat}{A B M:List It}{tb:Ky}{e:Bool}(hB:B≠[]) (h:Zkq s lv (A++B) tb e M):∃ M1 M2,M=M1++M2/\Zkq s lv A (Zns B) true M1/\Zkq s lv B tb e M2:=by{
 obtain⟨y,r,rfl⟩:=Ps hB;cases lv with
 | zero =>
  obtain⟨h1,h2,h3,h4⟩:=h;obtain⟨u1,u2,u3⟩:=Pi.1 h1;have hl:Yr s A=true/\Yr s (y::r)=true:=by
   unfold Yr at h2 ⊢;rw[List.all_append,Qd] at h2;exact h2
  exact⟨A,y::r,h4,⟨u1,hl.1,fun _ z hz=>u3 z hz y Qg,rfl⟩,⟨u2,hl.2,fun he z hz=>h3 he z (Pg _ hz),rfl⟩⟩
 | succ l =>
  obtain⟨h1,h2⟩:=h;rw[Y3,Qd] at h1;exact⟨_,_,by rw[h2,Pt],⟨h1.1,rfl⟩,⟨h1.2,rfl⟩⟩}
theorem Zw9 {lv:Int}{l:List It}{k:Nat}(h:InN (lv,l)):InN (lv,l.take k):=⟨h.1,fun x hx=>h.2 x (Pk hx)⟩
theorem Z1t {lv:Int}{l:List It}{k:Nat}(h:InN (lv,l)):InN (lv,l.drop k):=⟨h.1,fun x hx=>h.2 x (P3 hx)⟩
theorem Za5 {s:Rm}{lv:Nat}{L M:List It}{tb:Ky}{e:Bool}(h:mkE s ((lv:Int),L)=0) (hi:InN ((lv:Int),L)) (hne:L≠[]) (hr:Zkq s lv L tb e M) :
  Zy (mkV s ((lv:Int),L)) lv (mkN s ((lv:Int),L)) (Zns L) tb e=true/\X2 (mkV s ((lv:Int),L)) lv (mkN s ((lv:Int),L))=M:=by
 obtain⟨k,e1,_,_,_,_,r1,r2,_⟩:=Zzk hi h;rw[e1];exact Z2v r1 r2 hne (Zhu (U7 h) hr)
theorem Zjv {s u:Rm}{lv:Nat}{L up M:List It}{tb:Ky}{e:Bool}(h:Zq s (lv:Int) L=(0,u,up)) (hi:InN ((lv:Int),L)) (hne:L≠[]) (hr:Zkq s lv L tb e M) :
  Xv s u/\Zax (Zy u lv) up tb e=true/\(up.flatMap fun x=>X2 u lv x.2.1)=M/\(∃ z r,up=z::r/\z.1=Zns L):=by{
 rcases X9 h with ⟨h1,rfl,rfl⟩ | ⟨h0,h1,h2,rfl,rfl⟩
 ·obtain⟨g1,g2⟩:=Za5 h1 hi hne hr
  exact⟨U7 h1,g1,by simpa [upI] using g2,_,_,rfl,rfl⟩
 ·have hd:L.drop 3≠[]:=fun e=>by
   have:=congrArg List.length e;rw[Pu] at this;simp at this;omega
  have ht:L.take 3≠[]:=fun e=>by
   have h5:(L.take 3).length=0:=by rw[e];rfl
   rw[Pp] at h5;omega
  obtain⟨M1,M2,rfl,r1,r2⟩:=Z0j hd (show Zkq s lv (L.take 3++L.drop 3) tb e M by rw[Qy];exact hr);have k1:=U7 h1;have k2:=U7 h2;have k12:Xv s (mkV (mkV s ((lv:Int),L.take 3)) ((lv:Int),L.drop 3)):=⟨k2.may,fun i hi=>k2.held i (k1.held i hi),fun i hi=>(k2.seen i (k1.held i hi)).trans (k1.seen i hi)⟩
  obtain⟨g1,g2⟩:=Za5 h1 (Zw9 hi) ht r1;obtain⟨g3,g4⟩:=Za5 h2 (Z1t hi) hd (Zhu k1 r2);obtain⟨g5,g6,_⟩:=Z8 k2 lv _ _ _ _ g1;refine⟨k12,?_,?_,_,_,rfl,?_⟩
  ·exact Bool.and_eq_true_iff.2 ⟨g5,g3⟩
  ·have e1:=g6.trans g2
   have:X2 (mkV (mkV s ((lv:Int),L.take 3)) ((lv:Int),L.drop 3)) lv (mkN s ((lv:Int),L.take 3))++(X2 (mkV (mkV s ((lv:Int),L.take 3)) ((lv:Int),L.drop 3)) lv (mkN (mkV s ((lv:Int),L.take 3)) ((lv:Int),L.drop 3))++[])=M1++M2:=by rw[e1,g4,Qap]
   exact this
  ·obtain⟨x,r,ex⟩:=Ps hne
   subst ex;rfl}
def Vw (s:Rm) (a:Int):Rm:=(s.1,s.2.1.set a.toNat (s.2.1[a.toNat]?.getD 0-1),s.2.2)
theorem Xp {s t u:Rm}(h1:Xv s t) (h2:Xv t u):Xv s u:=⟨h2.may,fun i hi=>h2.held i (h1.held i hi),fun i hi=>(h2.seen i (h1.held i hi)).trans (h1.seen i hi)⟩
theorem Zeb {s:Rm}(h:Xm s=true):Xv s s:=⟨h,fun _ h=>h,fun _ _=>rfl⟩
theorem Zx3 {s:Rm}{a:Int}(h:Yy s.2.1 a.toNat≠0):dnO s.2.1 a.toNat=some (Vw s a).2.1:=by
 unfold dnO;rw[if_neg (V4.1 h)];rfl
theorem Zsp {s:Rm}{a:Int}(hm:Xm s=true) (h:2<=Yy s.2.1 a.toNat):Xv s (Vw s a):=by
 have hd:=Zx3 (s:=s) (a:=a) (by omega);obtain⟨_,_,hle,_⟩:=Zd1 hd;obtain⟨c1,c2⟩:=Zjy hd;obtain⟨m1,m2,m3⟩:=Ye hm;refine⟨Zag m1 (LeT.may hle m2) m3,fun k hk=> ?_,fun _ _=>rfl⟩;rw[<- V4] at hk ⊢;by_cases e:k=a.toNat
 ·subst e;omega
 ·rw[c2 k e];exact hk
theorem Zet {s t:Rm}(h:Xv s t){P:Nat->Nat}{N:List Int}(hE:Enf s.1 s.2.1 P N){m:Int}(hm:m∈N):ndD t.1 m=ndD s.1 m:=by
 unfold ndD;rw[h.seen _ (V4.1 (hE.node m hm).2.2.2)]
theorem Zjl {s:Rm}{P:Nat->Nat}{N:List Int}{a:Int}(hm:Xm s=true) (hE:Enf s.1 s.2.1 (fun i=>P i+if i=a.toNat then 1 else 0) N) (h0:0<a) (hr:∃ n∈N,∃ x∈(ndD s.1 n).2,x.2.1=a):Xv s (Vw s a)/\Enf (Vw s a).1 (Vw s a).2.1 P N:=by{
 obtain⟨n,hn,x,hx,hxa⟩:=hr;have h1:=hE.enough a.toNat;have h2:=Zbr hx (k:=a.toNat) (by omega) (by omega);have h3:=Zgv (d:=s.1) (k:=a.toNat) hn;simp only[if_true] at h1;have h4:2<=Yy s.2.1 a.toNat:=by omega
 have hd:=Zx3 (s:=s) (a:=a) (by omega);have hc:Yy (Vw s a).2.1 a.toNat≠0:=by
  have:=(Zjy hd).1;omega
 exact⟨Zsp hm h4,Z2w hE hd hc⟩}
def Znk (s:Rm) (l:List It):Rm:=l.foldl (fun u x=>Vw u x.2.1) s
theorem Zo0 (s:Rm) (x:It) (l:List It):Znk s (x::l)=Znk (Vw s x.2.1) l:=rfl
theorem Zlu:∀ (l:List It){s:Rm}{P:Nat->Nat}{N:List Int},Xm s=true->Enf s.1 s.2.1 (fun i=>P i+Xj l i) N->(∀ x∈l,0<x.2.1/\∃ n∈N,∃ z∈(ndD s.1 n).2,z.2.1=x.2.1)->Xv s (Znk s l)/\Enf (Znk s l).1 (Znk s l).2.1 P N
 | [],s,P,N,hm,hE,_=>⟨Zeb hm,hE.same fun _=>rfl⟩
 | x::l,s,P,N,hm,hE,hr=>by
  obtain⟨h0,h1⟩:=hr x Qg
  obtain⟨k1,e1⟩:=Zjl (P:=fun i=>P i+Xj l i) hm (hE.same fun i=>by
   have ec:Xj (x::l) i=(if x.2.1=(i:Int) then (if x.2.1=0 then 0 else 1) else 0)+Xj l i:=rfl;show P i+Xj l i+(if i=x.2.1.toNat then 1 else 0)=P i+Xj (x::l) i;rw[ec];by_cases e:x.2.1=(i:Int)
   ·rw[if_pos e,if_neg (show ¬ x.2.1=0 by omega),if_pos (show i=x.2.1.toNat by omega)];omega
   ·rw[if_neg e,if_neg (show ¬ i=x.2.1.toNat by omega)];omega) h0 h1
  obtain⟨k2,e2⟩:=Zlu l (s:=Vw s x.2.1) (P:=P) (N:=N) k1.may e1 fun y hy=>hr y (Qf _ hy)
  exact⟨Xp k1 k2,e2⟩
theorem Ze5 {s:Rm}{a:Int}(h:rmE s a=0):InN (rmV s a):=by
 obtain⟨k,rfl,_,_,_,_,_,hE,hV,_⟩:=Y6 (Z9 h).2;rw[hV];rw[hE] at h;exact(Zfb h).2.2
theorem Z1g {l:List It}{k i:Nat}(h:8<=k):Xj [upI l (k:Int)] i=if i=k then 1 else 0:=by{
 show (if (k:Int)=(i:Int) then (if (k:Int)=0 then 0 else 1) else 0)+0=_;by_cases e:i=k
 ·subst e
  rw[if_pos rfl,if_neg (by omega),if_pos rfl]
 ·rw[if_neg (by omega),if_neg e]}
theorem Zac {s u:Rm}{lv:Int}{L up:List It}{P:Nat->Nat}{N:List Int}(h:Zq s lv L=(0,u,up)) (hi:InN (lv,L)) (hE:Enf s.1 s.2.1 P N) (hsub:lv≠0->∀ x∈L,x.2.1∈N/\x.2.1≠0/\(ndD s.1 x.2.1).1+1=lv) :
  ∃ N',Enf u.1 u.2.1 (fun i=>P i+Xj up i) N'/\Xv s u/\(∀ m∈N,m∈N')/\(∀ m∈N,ndD u.1 m=ndD s.1 m)/\(∀ y∈up,y.2.1∈N'/\8<=y.2.1/\y.2.1<256/\(ndD u.1 y.2.1).1=lv)/\(∀ x∈L,∃ n∈N',x∈(ndD u.1 n).2)/\up.length<=2/\u.1.2.length<=s.1.2.length+2:=by{
 have hw:∀ {s:Rm} {n:Nd},mkE s n=0->(mkV s n).1.2.length<=s.1.2.length+1:=fun {s n} h=>by
  obtain⟨k,_,_,_,_,_,_,hV,_⟩:=X5 h;rw[hV];simp[wrD]
 rcases X9 h with ⟨h1,rfl,rfl⟩ | ⟨h0,h1,h2,rfl,rfl⟩
 ·obtain⟨k,e1,k8,k256,_,_,hE1,hnd,hndm,_⟩:=Zmc h1 hi hE hsub
  refine⟨_,hE1.same fun i=>by rw[e1,Z1g k8],U7 h1,fun m hm=>Qf _ hm,hndm,fun y hy=> ?_,fun x hx=>⟨k,Qg,by rw[hnd];exact hx⟩,by simp,by have:=hw h1;omega⟩;rw[Ql.1 hy,e1];exact⟨Qg,by show (8:Int)<=k;omega,by show (k:Int)<256;omega,by show (ndD _ (k:Int)).1=_;rw[hnd]⟩
 ·have hst:lv≠0->∀ x∈L.take 3,x.2.1∈N/\x.2.1≠0/\(ndD s.1 x.2.1).1+1=lv:=fun hl x hx=>hsub hl x (Pk hx)
  obtain⟨k,e1,k8,k256,_,_,hE1,hnd,hndm,_⟩:=Zmc h1 (Zw9 hi) hE hst;obtain⟨j,e2,j8,j256,_,hjN,hE2,hnd2,hndm2,_⟩:=Zmc h2 (Z1t hi) hE1 fun hl x hx=>by
   obtain⟨g1,g2,g3⟩:=hsub hl x (P3 hx);exact⟨Qf _ g1,g2,by rw[hndm _ g1];exact g3⟩
  have hkk:ndD (mkV (mkV s (lv,L.take 3)) (lv,L.drop 3)).1 (k:Int)=(lv,L.take 3):=(hndm2 _ Qg).trans hnd;refine⟨_,hE2.same fun i=> ?_,Xp (U7 h1) (U7 h2),fun m hm=>Qf _ (Qf _ hm),fun m hm=>(hndm2 m (Qf _ hm)).trans (hndm m hm),fun y hy=> ?_,fun x hx=> ?_,by simp,by have:=hw h1;have:=hw h2;omega⟩
  ·have ec:Xj [upI (L.take 3) (mkN s (lv,L.take 3)),upI (L.drop 3) (mkN (mkV s (lv,L.take 3)) (lv,L.drop 3))] i=Xj [upI (L.take 3) (mkN s (lv,L.take 3))] i+Xj [upI (L.drop 3) (mkN (mkV s (lv,L.take 3)) (lv,L.drop 3))] i:=by
    show _+(_+0)=(_+0)+(_+0);omega
   rw[ec,e1,e2,Z1g k8,Z1g j8];omega
  ·rcases Qe.1 hy with rfl | hy
   ·rw[e1]
    exact⟨Qf _ Qg,by show (8:Int)<=k;omega,by show (k:Int)<256;omega,by show (ndD _ (k:Int)).1=_;rw[hkk]⟩
   ·rw[Ql.1 hy,e2]
    exact⟨Qg,by show (8:Int)<=j;omega,by show (j:Int)<256;omega,by show (ndD _ (j:Int)).1=_;rw[hnd2]⟩
  ·rw[<- Qy 3 L] at hx
   rcases Qp.1 hx with hx | hx
   ·exact⟨k,Qf _ Qg,by rw[hkk];exact hx⟩
   ·exact⟨j,Qg,by rw[hnd2];exact hx⟩}
def Zbb (l:List It) (p many:Nat) (up:List It):List It:=l.take p++(up++l.drop (p+many))
def Zci (n:Nd) (k:Ky):Int:=((n.2[Xk n k]?).map fun y=>y.2.1).getD 0
def Zm (x:It):Nat->Rm->Int->Int×Rm×List It
 | 0,s,a =>
  if (Zq s 0 (Zbb (rmV s a).2 (Z2 (rmV s a) x.1) (if Yl (rmV s a) x.1=true then 1 else 0) [x])).1=0 then
   (0,(if x.2.1=0 then (Zq s 0 (Zbb (rmV s a).2 (Z2 (rmV s a) x.1) (if Yl (rmV s a) x.1=true then 1 else 0) [x])).2.1 else Vw (Zq s 0 (Zbb (rmV s a).2 (Z2 (rmV s a) x.1) (if Yl (rmV s a) x.1=true then 1 else 0) [x])).2.1 x.2.1),(Zq s 0 (Zbb (rmV s a).2 (Z2 (rmV s a) x.1) (if Yl (rmV s a) x.1=true then 1 else 0) [x])).2.2)
  else ((Zq s 0 (Zbb (rmV s a).2 (Z2 (rmV s a) x.1) (if Yl (rmV s a) x.1=true then 1 else 0) [x])).1,Zj,[])
 | l+1,s,a =>
  if (Zm x l s (Zci (rmV s a) x.1)).1=0 then
   if (Zq (Zm x l s (Zci (rmV s a) x.1)).2.1 ((l+1:Nat):Int) (Zbb (rmV s a).2 (Xk (rmV s a) x.1) 1 (Zm x l s (Zci (rmV s a) x.1)).2.2)).1=0 then
    (0,Znk (Zq (Zm x l s (Zci (rmV s a) x.1)).2.1 ((l+1:Nat):Int) (Zbb (rmV s a).2 (Xk (rmV s a) x.1) 1 (Zm x l s (Zci (rmV s a) x.1)).2.2)).2.1 (Zm x l s (Zci (rmV s a) x.1)).2.2,
     (Zq (Zm x l s (Zci (rmV s a) x.1)).2.1 ((l+1:Nat):Int) (Zbb (rmV s a).2 (Xk (rmV s a) x.1) 1 (Zm x l s (Zci (rmV s a) x.1)).2.2)).2.2)
   else ((Zq (Zm x l s (Zci (rmV s a) x.1)).2.1 ((l+1:Nat):Int) (Zbb (rmV s a).2 (Xk (rmV s a) x.1) 1 (Zm x l s (Zci (rmV s a) x.1)).2.2)).1,Zj,[])
  else ((Zm x l s (Zci (rmV s a) x.1)).1,Zj,[])
theorem Zu9 {x:It}{s u:Rm}{a:Int}{up:List It}(h:Zm x 0 s a=(0,u,up)):∃ u0,Zq s 0 (Zbb (rmV s a).2 (Z2 (rmV s a) x.1) (if Yl (rmV s a) x.1=true then 1 else 0) [x])=(0,u0,up)/\u=if x.2.1=0 then u0 else Vw u0 x.2.1:=by{
 unfold Zm at h;generalize hb:Zq s 0 _=b at h;obtain⟨e,v,q⟩:=b;split at h
 ·rename_i h0
  cases h;exact⟨v,by rw[show e=0 from h0],rfl⟩
 ·rename_i h0
  simp only[Prod.mk.injEq] at h;exact absurd h.1 h0}
theorem Zqk {x:It}{l:Nat}{s u:Rm}{a:Int}{up:List It}(h:Zm x (l+1) s a=(0,u,up)):∃ u1 up1 u2,Zm x l s (Zci (rmV s a) x.1)=(0,u1,up1)/\Zq u1 ((l+1:Nat):Int) (Zbb (rmV s a).2 (Xk (rmV s a) x.1) 1 up1)=(0,u2,up)/\u=Znk u2 up1:=by{
 unfold Zm at h;generalize hg:Zm x l s _=g at h;obtain⟨e,u1,up1⟩:=g;generalize hb:Zq _ _ _=b at h;obtain⟨f,u2,q⟩:=b;split at h
 ·rename_i h0
  split at h
  ·rename_i h1
   cases h;exact⟨u1,up1,u2,by rw[show e=0 from h0],by rw[<- show f=0 from h1];exact hb,rfl⟩
  ·rename_i h1
   simp only[Prod.mk.injEq] at h;exact absurd h.1 h1
 ·rename_i h0
  simp only[Prod.mk.injEq] at h;exact absurd h.1 h0}
theorem Zj0 {s u:Rm}{lv:Int}{L up:List It}(h:Zq s lv L=(0,u,up)) (hne:L≠[]):∀ y∈up,∃ q∈L,y.1=q.1:=by{
 have hk:∀ {M:List It},M≠[]->∃ q∈M,Zns M=q.1:=fun {M} hM=>by
  obtain⟨q,r,rfl⟩:=Ps hM;exact⟨q,Qg,rfl⟩
 rcases X9 h with ⟨_,_,rfl⟩ | ⟨h0,_,_,_,rfl⟩
 ·intro y hy
  rw[Ql.1 hy];exact hk hne
 ·have hd:L.drop 3≠[]:=fun e=>by
   have:=congrArg List.length e;rw[Pu] at this;simp at this;omega
  have ht:L.take 3≠[]:=fun e=>by
   have h5:(L.take 3).length=0:=by rw[e];rfl
   rw[Pp] at h5;omega
  intro y hy;rcases Qe.1 hy with rfl | hy
  ·obtain⟨q,hq,e⟩:=hk ht
   exact⟨q,Pk hq,e⟩
  ·rw[Ql.1 hy]
   obtain⟨q,hq,e⟩:=hk hd;exact⟨q,P3 hq,e⟩}
theorem Z39 {y:It}{r:List It}{x:It}(h:Up (y::r)) (hx:Zo x.1 y.1=false):Zns (Vu (y::r) x)=y.1:=by{
 unfold Vu;cases hy:Zo y.1 x.1 with
 | true =>
  rw[Qam (by simpa using hy)];rfl
 | false =>
  have e:y.1=x.1:=by
   by_cases e:y.1=x.1
   ·exact e
   ·rw[Zb2 e hy] at hx;cases hx
  rw[Uo (L:=y::r) fun z hz=> ?_]
  ·exact e.symm
  ·rcases Qe.1 hz with rfl | hz
   ·exact hy
   ·rw[<- e]
    exact Ve ((Qu.1 h).1 z hz)}
def Ycc (s:Rm):Nat->List It->Ky->Bool->Bool
 | 0,L,_,_=>Yr s L
 | j+1,L,tb,e=>Zax (Zy s j) L tb e
structure Znj (s:Rm) (l:Nat) (a:Int) (tb:Ky) (e:Bool):Prop where
 ok:rmE s a=0
 lv:(rmV s a).1=(l:Int)
 inn:Ycc s l (rmV s a).2 tb e=true
 low:e=true->∀ y∈(rmV s a).2,Zo y.1 tb=true
theorem Ziy {s:Rm}{l:Nat}{a:Int}{k tb:Ky}{e:Bool}(h:Zy s l a k tb e=true):Znj s l a tb e/\∀ y r,(rmV s a).2=y::r->y.1=k:=by{
 obtain⟨r1,r2,r3,r4⟩:=Ya h;obtain⟨y,r,e1,e2,e3⟩:=Zbs r3;refine⟨⟨r1,r2,by cases l <;> exact r4,fun he=> ?_⟩,fun y' r' e'=> ?_⟩
 ·obtain⟨z,hz,hb⟩:=e3 he
  exact Zq8 (Uk (Z9 r1).1) hz hb
 ·rw[e1] at e'
  cases e';exact e2}
theorem Zfe {s:Rm}{a:Int}(h:Yo s a=true):Znj s (rmV s a).1.toNat a Zbh false:=by
 obtain⟨r1,_,_,l0,_,hi⟩:=Xf h;refine⟨r1,by omega,?_,fun he=>by cases he⟩;unfold U6 at hi;cases hl:(rmV s a).1.toNat with
 | zero=>rw[hl] at hi;exact hi
 | succ j=>rw[hl] at hi;exact hi
def Zaf (x:It) (i:Nat):Nat:=if x.2.1≠0/\i=x.2.1.toNat then 1 else 0
structure Zjd (s u:Rm) (P:Nat->Nat) (N N':List Int) (l:Nat) (a:Int) (up:List It) (x:It) (tb:Ky) (e:Bool):Prop where
 keep:Xv s u
 its:Zax (Zy u l) up tb e=true
 all:(up.flatMap fun y=>X2 u l y.2.1)=Vu (X2 s l a) x
 first:∃ z r,up=z::r/\∀ y q,(rmV s a).2=y::q->Zo x.1 y.1=false->z.1=y.1
 enf:Enf u.1 u.2.1 (fun i=>P i+Xj up i) N'
 more:∀ m∈N,m∈N'
 ups:∀ y∈up,y.2.1∈N'/\8<=y.2.1/\y.2.1<256/\(ndD u.1 y.2.1).1=(l:Int)
 inI:∀ y∈up,InI y
 few:up.length<=2
 writes:u.1.2.length<=s.1.2.length+2*(l+1)
theorem Zvu {x:It}(hx:InI x){s u:Rm}{a:Int}{tb:Ky}{e:Bool}{P:Nat->Nat}{N:List Int}{up:List It}(ht:Znj s 0 a tb e) (hb:e=true->Zo x.1 tb=true) (hr:x.2.1=0\/(0<x.2.1/\s.2.1[x.2.1.toNat]?.getD 0≠0))
  (hE:Enf s.1 s.2.1 (fun i=>P i+Zaf x i) N) (h:Zm x 0 s a=(0,u,up)):∃ N',Zjd s u P N N' 0 a up x tb e:=by{
 obtain⟨u0,h1,rfl⟩:=Zu9 h;have hm:=(Z9 ht.ok).1;have el:Zbb (rmV s a).2 (Z2 (rmV s a) x.1) (if Yl (rmV s a) x.1=true then 1 else 0) [x]=Vu (rmV s a).2 x:=Zhx hm x;rw[el] at h1;have hin:x∈Vu (rmV s a).2 x:=Zct.2 (.inl rfl);have hne:Vu (rmV s a).2 x≠[]:=fun e=>by rw[e] at hin;cases hin
 have hi:InN ((0:Int),Vu (rmV s a).2 x):=⟨⟨by simp,by simp⟩,fun y hy=>by
  rcases Zct.1 hy with rfl | ⟨hy,_⟩
  ·exact hx
  ·exact(Ze5 ht.ok).it y hy⟩
 have hrow:Zkq s 0 (Vu (rmV s a).2 x) tb e (Vu (rmV s a).2 x):=by
  refine⟨Zzs (Uk hm) x,?_,fun he y hy=> ?_,rfl⟩
  ·have h2:Yr s (rmV s a).2=true:=ht.inn
   unfold Yr at h2 ⊢;rw[Qx] at h2 ⊢;intro y hy;rcases Zct.1 hy with rfl | ⟨hy,_⟩
   ·rcases hr with hr | hr
    ·simp[hr]
    ·simp[hr.2]
   ·exact h2 y hy
  ·rcases Zct.1 hy with rfl | ⟨hy,_⟩
   ·exact hb he
   ·exact ht.low he y hy
 obtain⟨k1,g1,g2,z,r,ez,kz⟩:=Zjv (lv:=0) h1 hi hne hrow;obtain⟨N',e1,_,e3,e4,e5,e6,e7,e8⟩:=Zac h1 hi hE fun h0=>absurd rfl h0;have hK:Xv u0 (if x.2.1=0 then u0 else Vw u0 x.2.1)/\Enf (if x.2.1=0 then u0 else Vw u0 x.2.1).1 (if x.2.1=0 then u0 else Vw u0 x.2.1).2.1 (fun i=>P i+Xj up i) N':=by
  by_cases h0:x.2.1=0
  ·rw[if_pos h0]
   exact⟨Zeb k1.may,e1.same fun i=>by simp[Zaf,h0]⟩
  ·rw[if_neg h0]
   obtain⟨n,hn,hxn⟩:=e6 x hin;have hpos:0<x.2.1:=by rcases hr with hr | hr <;> omega
   refine Zjl k1.may (e1.same fun i=> ?_) hpos ⟨n,hn,x,hxn,rfl⟩;show P i+Xj up i+(if i=x.2.1.toNat then 1 else 0)=P i+Zaf x i+Xj up i;unfold Zaf;by_cases ei:i=x.2.1.toNat
   ·rw[if_pos ei,if_pos ⟨h0,ei⟩];omega
   ·rw[if_neg ei,if_neg fun h=>ei h.2];omega
 obtain⟨k2,e9⟩:=hK;have hnd:∀ m∈N',ndD (if x.2.1=0 then u0 else Vw u0 x.2.1).1 m=ndD u0.1 m:=fun m hm=>by
  by_cases h0:x.2.1=0
  ·rw[if_pos h0]
  ·rw[if_neg h0];rfl
 refine⟨N',Xp k1 k2,Ux (fun a k tb e hf=>(Z8 k2 0 a k tb e hf).1) _ _ _ g1,?_,⟨z,r,ez,fun y q ey hxy=> ?_⟩,e9,e3,fun y hy=> ?_,fun y hy=> ?_,e7,?_⟩
 ·rw[show X2 s 0 a=(rmV s a).2 from rfl,<- g2]
  exact X7 fun y hy=>by
   obtain⟨t',e',hf⟩:=Xu g1 y hy;exact(Z8 k2 0 _ _ _ _ hf).2.1
 ·rw[kz,ey]
  exact Z39 (by rw[<- ey];exact Uk hm) hxy
 ·obtain⟨f1,f2,f3,f4⟩:=e5 y hy
  exact⟨f1,f2,f3,by rw[hnd _ f1];exact f4⟩
 ·obtain⟨q,hq,eq⟩:=Zj0 h1 hne y hy
  obtain⟨_,f2,f3,_⟩:=e5 y hy;exact⟨by rw[eq];exact(hi.it q hq).key,⟨by omega,by omega⟩⟩
 ·have:(if x.2.1=0 then u0 else Vw u0 x.2.1).1=u0.1:=by
   by_cases h0:x.2.1=0
   ·rw[if_pos h0]
   ·rw[if_neg h0];rfl
  rw[this];omega}
theorem Zhl {n:Nd}{k:Ky}{y:It}(hy:n.2[Xk n k]? = some y):n.2=n.2.take (Xk n k)++y::n.2.drop (Xk n k+1):=by
 obtain⟨hp,hg⟩:=Qj.1 hy
 conv=>lhs;rw[<- Qy (Xk n k) n.2,Qao hp,hg]
theorem Zq2 {x:It}{l:Nat}(h6:l+1<6){s u:Rm}{a:Int}{tb:Ky}{e:Bool}{P:Nat->Nat}{N:List Int}{up:List It}
  (ih:∀ {u:Rm} {a:Int} {tb:Ky} {e:Bool} {up:List It},Znj s l a tb e->(e=true->Zo x.1 tb=true)->a∈N->Zm x l s a=(0,u,up)->∃ N',Zjd s u P N N' l a up x tb e)
  (ht:Znj s (l+1) a tb e) (hb:e=true->Zo x.1 tb=true) (ha:a∈N) {Q:Nat->Nat} (hE:Enf s.1 s.2.1 Q N) (h:Zm x (l+1) s a=(0,u,up)):∃ N',Zjd s u P N N' (l+1) a up x tb e:=by{
 obtain⟨u1,up1,u2,h1,h2,rfl⟩:=Zqk h;have hm:=(Z9 ht.ok).1;have hne:0<(rmV s a).2.length:=(Zx hm).1.2.2.2 (by rw[ht.lv];omega);obtain⟨y,hy⟩:∃ y,(rmV s a).2[Xk (rmV s a) x.1]? = some y:=⟨_,Qc (Zc4 x.1 hne)⟩
 have hw:=Zhl hy;have hyin:y∈(rmV s a).2:=Qt hy;have hir:Zci (rmV s a) x.1=y.2.1:=by unfold Zci;rw[hy];rfl
 rw[hir] at h1;have hbe:=fun(i:Nat) (c:It) (hi:Xk (rmV s a) x.1<i) (hc:(rmV s a).2[i]? = some c)=>Zgn hm hi hc
 have hown:=Zyt hm hy;have hA0:(rmV s a).2.take (Xk (rmV s a) x.1)≠[]->Zo x.1 y.1=false:=fun hA=>hown fun e=>hA (by rw[e];rfl)
 have hCk:∀ c r,(rmV s a).2.drop (Xk (rmV s a) x.1+1)=c::r->Zo x.1 c.1=true:=fun c r hc=>by
  refine hbe (Xk (rmV s a) x.1+1) c (by omega) ?_;have:=congrArg (fun l=>l[0]?) hc
  simpa [Q4] using this
 have eL:Zbb (rmV s a).2 (Xk (rmV s a) x.1) 1 up1=(rmV s a).2.take (Xk (rmV s a) x.1)++(up1++(rmV s a).2.drop (Xk (rmV s a) x.1+1)):=rfl;rw[eL] at h2;generalize hAe:(rmV s a).2.take (Xk (rmV s a) x.1)=A at *;generalize hCe:(rmV s a).2.drop (Xk (rmV s a) x.1+1)=C at *;have hinn:Zax (Zy s l) (rmV s a).2 tb e=true:=ht.inn;rw[hw] at hinn;have hsp:=hinn;rw[Y3,Qd,Vl,Qd] at hsp;obtain⟨iA,iy,iC⟩:=hsp;obtain⟨hty,htk⟩:=Ziy iy;have hbC:bxO C e=true->Zo x.1 (nxO C tb)=true:=fun he=>by
  cases hC:C with
  | nil=>rw[hC] at he;exact hb he
  | cons c r=>exact hCk c r hC
 have hnd:ndD s.1 a=rmV s a:=Zab ht.ok;have hsh:∀ q∈(rmV s a).2,q.2.1∈N/\q.2.1≠0/\(ndD s.1 q.2.1).1+1=((l+1:Nat):Int):=fun q hq=>by
  have:=hE.shut a ha (by rw[hnd,ht.lv];omega) q (by rw[hnd];exact hq);rw[hnd,ht.lv] at this;exact this
 obtain⟨N1,G⟩:=ih hty hbC (hsh y hyin).1 h1;obtain⟨z1,r1,ez1,kz1⟩:=G.first;have hz1:Zo x.1 y.1=false->z1.1=y.1:=fun hxy=>by
  obtain⟨y0,q0,e0,_⟩:∃ y0 q0,(rmV s y.2.1).2=y0::q0/\True:=by
   obtain⟨_,_,r3,_⟩:=Ya iy;obtain⟨y0,q0,e0,_⟩:=Zbs r3;exact⟨y0,q0,e0,trivial⟩
  have k0:=htk y0 q0 e0;rw[kz1 y0 q0 e0 (by rw[k0];exact hxy),k0]
 have hits:Zax (Zy u1 l) (A++(up1++C)) tb e=true:=Zra hinn (fun hA=>hz1 (hA0 hA)) ez1 (fun q _ k tb e hf=>(Z8 G.keep l _ _ _ _ hf).1) G.its;have hfA:(A.flatMap fun q=>X2 u1 l q.2.1)=A.flatMap fun q=>X2 s l q.2.1:=X7 fun q hq=>by
  obtain⟨t',e',hf⟩:=Xu iA q hq;exact(Z8 G.keep l _ _ _ _ hf).2.1
 have hfC:(C.flatMap fun q=>X2 u1 l q.2.1)=C.flatMap fun q=>X2 s l q.2.1:=X7 fun q hq=>by
  obtain⟨t',e',hf⟩:=Xu iC q hq;exact(Z8 G.keep l _ _ _ _ hf).2.1
 have hpA:∀ q∈A.flatMap (fun q=>X2 s l q.2.1),Zo q.1 x.1=true:=fun q hq=>by
  by_cases hA:A=[]
  ·rw[hA] at hq;cases hq
  ·have iA':Zax (Zy s l) A y.1 true=true:=iA
   obtain⟨_,_,_,hp⟩:=Zaw (Y4 s l) A y.1 true hA iA';exact Zq5 (hp.bound rfl q hq) (hA0 hA)
 have hpC:∀ q∈C.flatMap (fun q=>X2 s l q.2.1),Zo x.1 q.1=true:=fun q hq=>by
  by_cases hC:C=[]
  ·rw[hC] at hq;cases hq
  ·obtain⟨c,r,ec,hp⟩:=Zaw (Y4 s l) C tb e hC iC
   have hc:=hCk c r ec;rcases hp.ge q hq with e1 | e1
   ·rw[e1];exact hc
   ·exact Yt hc e1
 have hall:((A++(up1++C)).flatMap fun q=>X2 u1 l q.2.1)=Vu (X2 s (l+1) a) x:=by
  have e1:X2 s (l+1) a=(rmV s a).2.flatMap fun q=>X2 s l q.2.1:=rfl
  rw[e1,hw,Pt,Pt,Pt,Qv,hfA,hfC,G.all,Zue hpA hpC]
 have hin:InN (((l+1:Nat):Int),A++(up1++C)):=⟨⟨by show (-9223372036854775808:Int)<=((l+1:Nat):Int);omega,by show ((l+1:Nat):Int)<=9223372036854775807;omega⟩,fun q hq=>by
  have hN:=(Ze5 ht.ok).it;rw[hw] at hN;rcases Qp.1 hq with hq | hq
  ·exact hN q (Pr _ hq)
  ·rcases Qp.1 hq with hq | hq
   ·exact G.inI q hq
   ·exact hN q (Pg _ (Qf _ hq))⟩
 have hnL:A++(up1++C)≠[]:=by rw[ez1];simp
 have hrow:Zkq u1 (l+1) (A++(up1++C)) tb e (Vu (X2 s (l+1) a) x):=⟨hits,hall.symm⟩
 obtain⟨k2,g1,g2,z,r,ez,kz⟩:=Zjv h2 hin hnL hrow;obtain⟨N2,e1,_,e3,e4,e5,e6,e7,e8⟩:=Zac h2 hin G.enf fun _ q hq=>by
  have Zaf:∀ q∈(rmV s a).2,q.2.1∈N1/\q.2.1≠0/\(ndD u1.1 q.2.1).1+1=((l+1:Nat):Int):=fun q hq=>by
   obtain⟨f1,f2,f3⟩:=hsh q hq;exact⟨G.more _ f1,f2,by rw[Zet G.keep hE f1];exact f3⟩
  rw[hw] at Zaf;rcases Qp.1 hq with hq | hq
  ·exact Zaf q (Pr _ hq)
  ·rcases Qp.1 hq with hq | hq
   ·obtain⟨f1,f2,f3,f4⟩:=G.ups q hq
    exact⟨f1,by omega,by rw[f4];omega⟩
   ·exact Zaf q (Pg _ (Qf _ hq))
 obtain⟨k3,e9⟩:=Zlu up1 (s:=u2) (P:=fun i=>P i+Xj up i) (N:=N2) k2.may (e1.same fun i=>by show P i+Xj up i+Xj up1 i=P i+Xj up1 i+Xj up i;omega) fun q hq=>by
  obtain⟨_,f2,_,_⟩:=G.ups q hq;obtain⟨n,hn,hqn⟩:=e6 q (Pg _ (Pr _ hq));exact⟨by omega,n,hn,q,hqn,rfl⟩
 have hd:(Znk u2 up1).1=u2.1:=by
  clear k3 e9 e1;have:∀ (l:List It) (v:Rm),(Znk v l).1=v.1:=by
   intro l
   induction l with
   | nil=>intro v;rfl
   | cons q r ih=>intro v;rw[Zo0,ih];rfl
  exact this up1 u2
 refine⟨N2,Xp (Xp G.keep k2) k3,Ux (fun a k tb e hf=>(Z8 k3 (l+1) a k tb e hf).1) _ _ _ g1,?_,⟨z,r,ez,fun y0 q0 e0 hxy=> ?_⟩,e9,fun m hm=>e3 m (G.more m hm),fun q hq=> ?_,fun q hq=> ?_,e7,?_⟩
 ·rw[<- g2]
  exact X7 fun q hq=>by
   obtain⟨t',e',hf⟩:=Xu g1 q hq;exact(Z8 k3 (l+1) _ _ _ _ hf).2.1
 ·rw[kz]
  rw[hw] at e0;cases hA:A with
  | nil =>
   rw[hA] at e0;cases e0;rw[ez1];exact hz1 hxy
  | cons c r0 =>
   rw[hA] at e0;cases e0;rfl
 ·rw[hd]
  exact e5 q hq
 ·obtain⟨p,hp,ep⟩:=Zj0 h2 hnL q hq
  obtain⟨_,f2,f3,_⟩:=e5 q hq;exact⟨by rw[ep];exact(hin.it p hp).key,⟨by omega,by omega⟩⟩
 ·rw[hd]
  have:=G.writes;omega}
theorem Zf4 {x:It}(hx:InI x){s:Rm}{P:Nat->Nat}{N:List Int}(hr:x.2.1=0\/(0<x.2.1/\s.2.1[x.2.1.toNat]?.getD 0≠0)) (hE:Enf s.1 s.2.1 (fun i=>P i+Zaf x i) N):∀ (l:Nat),l<6->∀ {u:Rm}{a:Int}{tb:Ky}{e:Bool}{up:List It},Znj s l a tb e->(e=true->Zo x.1 tb=true)->a∈N->Zm x l s a=(0,u,up)->∃ N',Zjd s u P N N' l a up x tb e
 | 0,_,_,_,_,_,_,ht,hb,_,h=>Zvu hx ht hb hr hE h
 | l+1,h6,_,_,_,_,_,ht,hb,ha,h=>Zq2 h6 (fun ht hb ha h=>Zf4 hx hr hE l (by omega) ht hb ha h) ht hb ha hE h
def Zrk (s:Rm):Nat->Int->Ky->Bool
 | 0,a,k=>decide (5<=(rmV s a).2.length) && !Yl (rmV s a) k
 | l+1,a,k=>decide (5<=(rmV s a).2.length)&&Zrk s l (Zci (rmV s a) k) k
def Zqv (s:Rm) (a:Int) (k:Ky):Bool:=decide ((rmV s a).1=5)&&Zrk s 5 a k
def Vg (s:Rm) (lv:Int) (up:List It):Int×Rm×List It :=
 if 1<up.length then
  if (Zq s (lv+1) up).1=0 then (0,Znk (Zq s (lv+1) up).2.1 up,(Zq s (lv+1) up).2.2) else ((Zq s (lv+1) up).1,Zj,[])
 else (0,s,up)
def Zch (up:List It):Int:=match up with | []=>0 | z::_=>z.2.1
def Zhb (s:Rm) (a:Int) (x:It):Int×Rm×Int :=
 if Zqv s a x.1 then (120,Zj,0)
 else if (Zm x (rmV s a).1.toNat s a).1=0 then
  if (Vg (Zm x (rmV s a).1.toNat s a).2.1 (rmV s a).1 (Zm x (rmV s a).1.toNat s a).2.2).1=0 then
   match lfO (Vg (Zm x (rmV s a).1.toNat s a).2.1 (rmV s a).1 (Zm x (rmV s a).1.toNat s a).2.2).2.1.1 (Vg (Zm x (rmV s a).1.toNat s a).2.1 (rmV s a).1 (Zm x (rmV s a).1.toNat s a).2.2).2.1.2.1 a.toNat with
   | none=>(8,Zj,0)
   | some v=>(0,((Vg (Zm x (rmV s a).1.toNat s a).2.1 (rmV s a).1 (Zm x (rmV s a).1.toNat s a).2.2).2.1.1,v,(Vg (Zm x (rmV s a).1.toNat s a).2.1 (rmV s a).1 (Zm x (rmV s a).1.toNat s a).2.2).2.1.2.2),Zch (Vg (Zm x (rmV s a).1.toNat s a).2.1 (rmV s a).1 (Zm x (rmV s a).1.toNat s a).2.2).2.2)
  else ((Vg (Zm x (rmV s a).1.toNat s a).2.1 (rmV s a).1 (Zm x (rmV s a).1.toNat s a).2.2).1,Zj,0)
 else ((Zm x (rmV s a).1.toNat s a).1,Zj,0)
def Yb6 (s:Rm) (a:Int) (x:It):Int×Rm×Int :=
 if ckE s a=0 then if Zbp x then if x.2.1≠0/\s.2.1[x.2.1.toNat]?.getD 0=0 then (6,Zj,0) else Zhb s a x else (8,Zj,0) else (ckE s a,Zj,0)
theorem Z1m {s u:Rm}{lv:Int}{up top:List It}(h:Vg s lv up=(0,u,top)):(up.length<=1/\u=s/\top=up)\/(1<up.length/\∃ u0,Zq s (lv+1) up=(0,u0,top)/\u=Znk u0 up):=by{
 unfold Vg at h;split at h
 ·rename_i h0
  generalize hb:Zq s (lv+1) up=b at h;obtain⟨e,v,q⟩:=b;split at h
  ·rename_i h1
   cases h;exact .inr ⟨h0,v,by rw[show e=0 from h1],rfl⟩
  ·rename_i h1
   simp only[Prod.mk.injEq] at h;exact absurd h.1 h1
 ·cases h
  exact .inl ⟨by omega,rfl,rfl⟩}
theorem Z4u {s u:Rm}{a now:Int}{x:It}(h:Zhb s a x=(0,u,now)):∃ u1 up T top v,Zm x (rmV s a).1.toNat s a=(0,u1,up)/\Vg u1 (rmV s a).1 up=(0,T,top)/\lfO T.1 T.2.1 a.toNat=some v/\u=(T.1,v,T.2.2)/\now=Zch top:=by{
 unfold Zhb at h;generalize hg:Zm x (rmV s a).1.toNat s a=g at h;obtain⟨e,u1,up⟩:=g;generalize hb:Vg _ _ _=b at h;obtain⟨f,T,top⟩:=b;split at h
 ·simp only[Prod.mk.injEq] at h
  exact absurd h.1 (by decide)
 ·split at h
  ·rename_i h0
   split at h
   ·rename_i h1
    split at h
    ·simp only[Prod.mk.injEq] at h
     exact absurd h.1 (by decide)
    ·rename_i v hv
     cases h;exact⟨u1,up,T,top,v,by rw[show e=0 from h0],by rw[<- show f=0 from h1];exact hb,hv,rfl,rfl⟩
   ·rename_i h1
    simp only[Prod.mk.injEq] at h;exact absurd h.1 h1
  ·rename_i h0
   simp only[Prod.mk.injEq] at h;exact absurd h.1 h0}
theorem Zf6 {s:Rm}{l:Nat}{a:Int}{k:Ky}(h:Zy s l a k Zbh false=true):Yo s a=true/\Vo s a=X2 s l a/\(rmV s a).1=(l:Int):=by{
 obtain⟨r1,r2,r3,r4⟩:=Ya h;have e:(rmV s a).1.toNat=l:=by omega
 refine⟨?_,by unfold Vo;rw[e],r2⟩;unfold Yo U6;rw[e,r1];cases l with
 | zero=>simp only[Qd];exact⟨by decide,r4⟩
 | succ j=>simp only[Qd];exact⟨by decide,r4⟩}
theorem Z7k {s:Rm}{t:List UInt8}{Q:Nat->Nat}{M:List Int}(hE:Enf s.1 t Q M){x:It}{n:Int}(hn:n∈M) (hx:x∈(ndD s.1 n).2) (h0:x.2.1≠0):Yy t x.2.1.toNat≠0:=by
 have h1:=hE.enough x.2.1.toNat;have h2:0<=x.2.1:=by rcases hE.refs n hn x hx with e | e <;> omega
 have h3:=Zbr hx (k:=x.2.1.toNat) (by omega) h0;have h4:=Zgv (d:=s.1) (k:=x.2.1.toNat) hn;omega
theorem Ztw {s:Rm}{t:List UInt8}{Q:Nat->Nat}{M:List Int}(hE:Enf s.1 t Q M){a:Int}(hr:rmE s a=0) (ha:a∈M):(∀ n∈Y1 s 0 a,n∈M)/\∀ r∈Vt s 0 a,Yy t r.toNat≠0:=by{
 refine⟨fun n hn=> ?_,fun r hr'=> ?_⟩
 ·simp only[Y1,Ql] at hn
  rw[hn];exact ha
 ·simp only[Vt,Qi,Pf,decide_eq_true_eq] at hr'
  obtain⟨⟨x,hx,rfl⟩,h0⟩:=hr';exact Z7k hE ha (by rw[Zab hr];exact hx) h0}
theorem Z5b {s:Rm}{t:List UInt8}{Q:Nat->Nat}{M:List Int}(hE:Enf s.1 t Q M){l:Nat}{a:Int}(hr:rmE s a=0) (hl:(rmV s a).1=((l+1:Nat):Int)) (ha:a∈M)
  (ih:∀ x∈(rmV s a).2,x.2.1∈M->(∀ n∈Y1 s l x.2.1,n∈M)/\∀ r∈Vt s l x.2.1,Yy t r.toNat≠0):(∀ n∈Y1 s (l+1) a,n∈M)/\∀ r∈Vt s (l+1) a,Yy t r.toNat≠0:=by{
 have hs:∀ x∈(rmV s a).2,x.2.1∈M:=fun x hx=>(hE.shut a ha (by rw[Zab hr,hl];omega) x (by rw[Zab hr];exact hx)).1
 refine⟨fun n hn=> ?_,fun r hr'=> ?_⟩
 ·simp only[Y1,Qe,Qk] at hn
  rcases hn with rfl | ⟨x,hx,hn⟩
  ·exact ha
  ·exact(ih x hx (hs x hx)).1 n hn
 ·simp only[Vt,Qk] at hr'
  obtain⟨x,hx,hr'⟩:=hr';exact(ih x hx (hs x hx)).2 r hr'}
theorem Zno {s:Rm}{t:List UInt8}{Q:Nat->Nat}{M:List Int}(hE:Enf s.1 t Q M):∀ (l:Nat) (a:Int) (k tb:Ky) (e:Bool),Zy s l a k tb e=true->a∈M->(∀ n∈Y1 s l a,n∈M)/\∀ r∈Vt s l a,Yy t r.toNat≠0
 | 0,a,k,tb,e,hr,ha=>Ztw hE (Ya hr).1 ha
 | l+1,a,k,tb,e,hr,ha=>by
  obtain⟨r1,r2,_,r4⟩:=Ya hr;exact Z5b hE r1 r2 ha fun x hx hxM=>by
   obtain⟨t',e',hf⟩:=Xu r4 x hx;exact Zno hE l _ _ _ _ hf hxM
theorem Z3g {s:Rm}{t:List UInt8}{Q:Nat->Nat}{M:List Int}(hE:Enf s.1 t Q M){a:Int}(h:Yo s a=true) (ha:a∈M):(∀ n∈Xo s a,n∈M)/\∀ r∈Zev s a,Yy t r.toNat≠0:=by{
 obtain⟨r1,_,_,l0,_,hi⟩:=Xf h;unfold Xo Zev;unfold U6 at hi;cases hl:(rmV s a).1.toNat with
 | zero=>exact Ztw hE r1 ha
 | succ l =>
  rw[hl] at hi;exact Z5b hE r1 (by omega) ha fun x hx hxM=>by
   obtain⟨t',e',hf⟩:=Xu hi x hx;exact Zno hE l _ _ _ _ hf hxM}
theorem Zb1 {T:Rm}{v:List UInt8}{Q:Nat->Nat}{N:List Int}{a:Int}(hm:Xm T=true) (hv:lfO T.1 T.2.1 a.toNat=some v) (hE:Enf T.1 v Q (Zah v N)){b:Int}(hb:b∈N) (hQ:1<=Q b.toNat) (ht:Yo T b=true) :
  Xm (T.1,v,T.2.2)=true/\b∈Zah v N/\Yo (T.1,v,T.2.2) b=true/\rmV (T.1,v,T.2.2) b=rmV T b/\Vo (T.1,v,T.2.2) b=Vo T b/\(∀ q,Zdv (T.1,v,T.2.2) b q=Zdv T b q)/\Xo (T.1,v,T.2.2) b=Xo T b/\Zev (T.1,v,T.2.2) b=Zev T b:=by
 obtain⟨_,hle,_⟩:=Zre hv;obtain⟨m1,m2,m3⟩:=Ye hm;have hmu:Xm (T.1,v,T.2.2)=true:=Zag m1 (LeT.may hle m2) m3;have hlive:b∈Zah v N:=Zry.2 ⟨hb,by have:=hE.enough b.toNat;omega⟩;obtain⟨g1,g2⟩:=Z3g (s:=T) hE ht hlive;have hon:OnT T (T.1,v,T.2.2) (Xo T b) (Zev T b):=⟨hmu,fun n hn=>V4.1 (Zry.1 (g1 n hn)).2,fun _ _=>rfl,fun r hr=>V4.1 (g2 r hr)⟩
 exact⟨hmu,hlive,Z76 hon ht (fun _ h=>h) (fun _ h=>h)⟩
def Zkf:Rm:=(Zbg,Zv 256,Zv 256)
theorem Z2p (w:Qaw):Qa2 Tryz.prog 24 #[] w fun e w'=>∃ t,e=.returned t/\Sto (New w.heap.size w') w' t Zkf/\Qa3 w.heap.size w w':=by{
 obtain⟨w1,hw1,f1,hsz,hB⟩:=X4 w (.slice none 0 0) (.slice none 0 0) (.slice none 0 0) (.slice none 0 0) 29;have hz:Hid ((Zv 256).length=256):=Za (Zbl 256);replace hsz:=Za hsz
 go_enter Tryz.func24,Tryz.ntmps24
 go_upto_region 1 with fail
 clear hw1
 go_wp2_with fail
 with_reducible refine(Z8o _).mono ?_
 rintro e w2 ⟨u,rfl,h2,hb2⟩;obtain⟨P,p,Q,r,rfl,_⟩:=id h2.open;have H2:=Za h2;have F2:=(hb2.block w.heap.size (by rw[hsz.out];omega)).trans f1;have B2:=Za (hB.trans (hb2.mono hB.size));have s2:Hid (w.heap.size+1<=w1.heap.size/\w1.heap.size<=w2.heap.size):=Za ⟨by rw[hsz.out];omega,hb2.size⟩;clear h2 hb2 f1
 go_wp2_with fail
 with_reducible refine(Znx _).mono ?_
 rintro e w3 ⟨g3,rfl,h3,hb3⟩;have H3:=Za h3;have D3:=Za (H2.out.new (Qa _) hb3);have F3:=(hb3.block w.heap.size (by have:=s2.out;omega)).trans F2;have B3:=Za (B2.out.trans (hb3.mono B2.out.size));have s3:Hid (w2.heap.size<=w3.heap.size):=Za hb3.size;clear h3 hb3 F2 H2
 go_wp2_with fail
 with_reducible refine(Znx _).mono ?_
 rintro e w4 ⟨g4,rfl,h4,hb4⟩;have D4:=D3.out.new (Qa _) hb4;have N4:=Zf.new H3.out (Qa _) hb4;have F4:=(hb4.block w.heap.size (by have:=s2.out;have:=s3.out;omega)).trans F3;have B4:=B3.out.trans (hb4.mono B3.out.size);obtain⟨c0,c1,c2,c3,c4,c5⟩:=Ze F4;obtain⟨W9,hW9,g9,gr9,gs9⟩:=Zu (a':=.slice P Zbg.1.length p) (b':=.slice Q Zbg.2.length r) (c':=.slice (some ⟨g3,0,none⟩) 256 256) (d':=.slice (some ⟨g4,0,none⟩) 256 256) F4;obtain⟨n0,n1,n2,n3,_,_⟩:=Ze g9;have q2:=s2.out;have q3:=s3.out;have l2:=B2.out.size;have l3:=B3.out.size
 have hfin:=Za (show Sto (New w.heap.size W9) W9 (.agg #[.slice P Zbg.1.length p,.slice Q Zbg.2.length r,.slice (some ⟨g3,0,none⟩) 256 256,.slice (some ⟨g4,0,none⟩) 256 256]) Zkf from
  Sto.mk ((D4.grown gr9 (fun q e=>by cases e;omega)).new (by omega) (Qb _ _)) (Zf.new (Zf.grown N4 gr9 (fun q e=>by cases e;omega)) (by omega) (Qb _ _)) (Zf.new (Zf.grown h4 gr9 (fun q e=>by cases e;omega)) (by omega) (Qb _ _)))
 have hB9:=Za (B4.grown gr9 B4.size (fun q e=>by cases e;omega));clear D4 N4 gr9 gs9 B4 q2 q3 l2 l3 h4 hb4;replace F4:=Za F4;replace F3:=Za F3;replace g9:=Za g9
 go_wp2_with fail
 refine Qa0 (v:=.agg #[.slice P Zbg.1.length p,.slice Q Zbg.2.length r,.slice (some ⟨g3,0,none⟩) 256 256,.slice (some ⟨g4,0,none⟩) 256 256]) (by simp[results,Tryz.results24,go_sem,n0,n1,n2,n3]) rfl ?_;exact⟨_,rfl,hfin.out,hB9.out⟩}
end Go.Proofs.YtgmbjnajdfgenaaGreat
namespace Go.Proofs.YtgmbjnajdfgenaaGreat
open Go.RowKit Go.Shelf
attribute [local go_sem] Oper.semAt_some
theorem X1 {W:Qaw}{g:Nat}{a u:Qax}{t:Qaz}(h:W.heap[g]? = some (.cells #[a] t (0,0))):∃ W1,W.setCell ⟨g,0,none⟩ u=W1/\W1.heap[g]? = some (.cells #[u] t (0,0))/\W.grownBy W1 (some g)/\W1.heap.size=W.heap.size :=
 ⟨_,rfl,by simp[Pw,Px,h],Yq (p:=⟨g,0,none⟩) (Xa W (some g)) rfl u,by simp⟩
theorem Zn {W:Qaw}{g:Nat}{a:Qax}{t:Qaz}(h:W.heap[g]? = some (.cells #[a] t (0,0))):W.cell? ⟨g,0,none⟩=some a/\W.frozen? ⟨g,0,none⟩=false/\g<W.heap.size :=
 ⟨by simp[Qn,h],by simp[Pv,h],(Q5.1 h).1⟩
theorem Zl {W W':Qaw}{row:Option Nat}{g:Nat}{cs:Array Qax}{t:Qaz}(h:W.heap[g]? = some (.cells cs t (0,0))) (hg:W.grownBy W' row) (hrow:∀ r,row=some r->∃ o:Obj,W.heap[r]? = some o/\o.isCells=false):W'.heap[g]? = some (.cells cs t (0,0)) :=
 (grownBy_keeps_cells hg hrow h rfl).trans h
def NZ (ok:Qay->Prop) (w:Qaw):Qay->Prop:=fun p=>ok p/\w.cell? p≠some (.slice none 0 0)
theorem Z3v {ok:Qay->Prop}{w:Qaw}{cs:List Qax}{x:List UInt8}(h:rBy ok w cs x):rBy (NZ ok w) w cs x:=by
 obtain⟨A,cap,h1,h2,h3,h4⟩:=h;refine⟨A,cap,h1,h2,h3,fun i y hi=> ?_⟩;obtain⟨ad,vs,e1,e2,e3,e4⟩:=h4 i y hi;refine⟨ad,vs,e1,e2,fun j u hj=>⟨⟨(e3 j u hj).1,?_⟩,(e3 j u hj).2⟩,e4⟩;unfold rU8 at e4;subst e4;have:=Qt hj;simp only[Ql] at this;rw[(e3 j u hj).2,this];simp
theorem Zt9 {ok:Qay->Prop}{w:Qaw}{u:Qax}{x:List UInt8}(h:rBy ok w [u] x) (hx:x≠[]):u≠.slice none 0 0:=by
 obtain⟨A,c,rfl,_⟩:=Zt h;intro e;simp only[Value.slice.injEq] at e;exact hx (Qak e.2.1)
theorem Z8j {ok:Qay->Prop}{w:Qaw}{cs:List Qax}{xss:List (List UInt8)}(h:rSl 1 rBy ok w cs xss) (hn:∀ x∈xss,x≠[]):rSl 1 rBy (NZ ok w) w cs xss:=by{
 obtain⟨A,cap,h1,h2,h3,h4⟩:=h;refine⟨A,cap,h1,h2,h3,fun i y hi=> ?_⟩;obtain⟨ad,vs,e1,e2,e3,e4⟩:=h4 i y hi;refine⟨ad,vs,e1,e2,fun j u hj=>⟨⟨(e3 j u hj).1,?_⟩,(e3 j u hj).2⟩,Z3v e4⟩
 match vs,e2 with
 | [v],_ =>
  have:=Qt hj;simp only[Ql] at this;rw[(e3 j u hj).2,this];exact fun e=>Zt9 e4 (hn y (Qt hi)) (by simpa using e)}
theorem Ya9 {ok:Qay->Prop}{w:Qaw}{cs:List Qax}{ws:List Wt}(h:rSl 2 rWt ok w cs ws) (hn:∀ x∈ws,x.2≠[]):rSl 2 rWt (NZ ok w) w cs ws:=by
 obtain⟨A,cap,h1,h2,h3,h4⟩:=h;refine⟨A,cap,h1,h2,h3,fun i y hi=> ?_⟩;obtain⟨ad,vs,e1,e2,e3,e4⟩:=h4 i y hi;obtain⟨v,rfl,b1,b2,hv⟩:=Zt1 e4;refine⟨ad,_,e1,e2,fun j u hj=>⟨⟨(e3 j u hj).1,?_⟩,(e3 j u hj).2⟩,Z5h b1 b2 (Z3v hv)⟩;have:=Qt hj;simp only[Qe,List.not_mem_nil,or_false] at this;rw[(e3 j u hj).2];rcases this with rfl | rfl
 ·simp
 ·exact fun e=>Zt9 hv (hn y (Qt hi)) (by simpa using e)
theorem Z9r {ok:Qay->Prop}{w:Qaw}{v:Qax}{d:Dk}(h:Dsk ok w v d) (h1:∀ x∈d.1,x≠[]) (h2:∀ x∈d.2,x.2≠[]):Dsk (NZ ok w) w v d:=by
 obtain⟨a,b,e,r1,r2⟩:=h;exact⟨a,b,e,Z8j r1 h1,Ya9 r2 h2⟩
theorem Z3j {d:Dk}(h:Zbm d=true):(∀ x∈d.1,x≠[])/\(∀ x∈d.2,x.2≠[]):=by{
 obtain⟨_,_,h1,h2⟩:=Zg7 h;refine⟨fun x hx e=> ?_,fun x hx e=> ?_⟩
 ·obtain⟨i,hi⟩:=Qm hx
  have:=h1 i x hi;rw[e] at this;cases this
 ·obtain⟨i,hi⟩:=Qm hx
  have:=(h2 i x hi).2.2;rw[e] at this;cases this}
theorem Z21 {W:Qaw}{g:Nat}{cs:Array Qax}{t:Qaz}{p:Qay}{u:Qax}(hz:W.heap[g]? = some (.cells cs t (0,0))) (hcs:∀ c∈cs,c=.slice none 0 0) (hc:W.cell? p=some u) (hn:W.cell? p≠some (.slice none 0 0)):p.block≠g:=fun e=>by
 refine hn ?_;rw[hc];unfold Qn at hc;rw[e,hz] at hc
 dsimp only at hc
 split at hc
 ·cases hc
 ·obtain⟨hlt,hu⟩:=Q5.1 hc
  rw[<- hu];exact congrArg some (hcs _ (Array.getElem_mem hlt))
theorem Yah {ok:Qay->Prop}{w:Qaw}{v:Qax}{s:Rm}(h:Sto ok w v s) (hd:(∀ x∈s.1.1,x≠[])/\(∀ x∈s.1.2,x.2≠[])):Sto (NZ ok w) w v s:=by
 obtain⟨a,b,n,l,e,h1,h2,h3⟩:=h;exact⟨a,b,n,l,e,Z9r h1 hd.1 hd.2,Z3v h2,Z3v h3⟩
def Z8x (s:Rm):Prop:=(∀ x∈s.1.1,x≠[])/\(∀ x∈s.1.2,x.2≠[])
theorem Z6k {s:Rm}(h:Xm s=true):Z8x s:=Z3j (Ye h).1
theorem Zpn {W W9:Qaw}{g:Nat}{cs:Array Qax}{t:Qaz}{v:Qax}{s:Rm}(h:Sto (Old W) W v s) (hd:Z8x s) (hz:W.heap[g]? = some (.cells cs t (0,0))) (hcs:∀ c∈cs,c=.slice none 0 0) (hg:W.grownBy W9 (some g)):Sto (Old W9) W9 v s :=
 (Yah h hd).map fun p u hp hc=>by
  have hn:=Z21 hz hcs hc hp.2;exact⟨Qq hp.1 hg.size,(Qaq (hg.block _ hp.1 (by simpa using hn))).trans hc⟩
theorem Z15:(Xz Zkf).length=248/\Xz Zkf=8::9::(Xz Zkf).drop 2:=by decide +kernel
theorem Z70:Xm Zkf=true:=Zag Z4k Zca Zca
theorem Zrt (v:Qax) (s:Rm) (n:Int) (w:Qaw) (h:Sto (Old w) w v s) :
  Qa2 Tryz.prog 53 #[v,.int .i64 n] w fun e W'=>∃ A ca B cb N cn L cl,e=.returned (.tuple #[.agg #[.slice A (shV s n).1.1.length ca,.slice B (shV s n).1.2.length cb,.slice N (shV s n).2.1.length cn,.slice L (shV s n).2.2.length cl],.int .i64 (shE s n)]) /\
   Sto (New w.heap.size W') W' (.agg #[.slice A (shV s n).1.1.length ca,.slice B (shV s n).1.2.length cb,.slice N (shV s n).2.1.length cn,.slice L (shV s n).2.2.length cl]) (shV s n)/\Qa3 w.heap.size w W':=by
 refine(Zvo v s n w h).mono ?_;rintro e W' ⟨t,rfl,ht,hb⟩;obtain⟨A,ca,B,cb,N,cn,L,cl,rfl,_⟩:=id ht.open;exact⟨A,ca,B,cb,N,cn,L,cl,rfl,ht,hb⟩
theorem Z47 {s:Rm}{l:List It}{i:Nat}{x:It}{r:Nat}{y:UInt8}(hx:l[i]? = some x) (hr:x.2.1=(r:Int)) (h0:r≠0) (hy:s.2.1[r]?.getD 0=y):Yr s (l.take (i+1))=(Yr s (l.take i)&&decide (y≠0)):=by
 rw[Zou hx,hr];have:¬ ((r:Nat):Int)=0:=by omega
 rw[decide_eq_false this,Bool.false_or,show ((r:Nat):Int).toNat=r by omega,hy]
theorem Z08 {s:Rm}{l:List It}{i:Nat}{x:It}(hx:l[i]? = some x) (hr:x.2.1=0):Yr s (l.take (i+1))=Yr s (l.take i):=by
 rw[Zou hx,hr];simp
theorem Zfy {w:Qaw}{A:Option Qay}{n c:Nat}{xs:List It}{s:It}(h:Zae (Old w) w [.slice A n c] xs) (hk:xs[0]? = some s) :
  ∃ ad E ce,A=some ad/\InI s/\∀ W,Qa3 w.heap.size w W->At5 W ad s (.slice E s.2.2.length ce)/\Itm (Old W) W (itV s (.slice E s.2.2.length ce)) s:=by
 obtain⟨ad,E,ce,e,_,_,h1,F⟩:=Vz h hk;have e0:ad.add (0*5)=ad:=by simp[Addr.add]
 rw[e0] at F;exact⟨ad,E,ce,e,h1,F⟩
theorem Z4y {d:Dk}{k:Nat}(hm:Zbm d=true) (hk:k<256):(Z1 d k).length=128:=by
 obtain⟨h1,_,h3,h4⟩:=Zg7 hm;unfold Z1;have e:d.1[k]? = some (d.1[k]'(by omega)):=Qc _;refine Zha (h3 k _ (by rw[e];rfl)) fun x hx=> ?_
 obtain⟨i,hi⟩:=Qm hx;exact(h4 i x hi).2.2
theorem Y0 {W:Qaw}{g:Nat}{a b c a' b' c':Qax}{t:Qaz}(h:W.heap[g]? = some (.cells #[a,b,c] t (0,0))):∃ W1,((W.setCell ⟨g,0,none⟩ a').setCell ⟨g,1,none⟩ b').setCell ⟨g,2,none⟩ c'=W1 /\
  W1.heap[g]? = some (.cells #[a',b',c'] t (0,0))/\W.grownBy W1 (some g)/\W1.heap.size=W.heap.size :=
 ⟨_,rfl,by simp[Pw,Px,h],Yq (p:=⟨g,2,none⟩) (Yq (p:=⟨g,1,none⟩) (Yq (p:=⟨g,0,none⟩) (Xa W (some g)) rfl a') rfl b') rfl c',by simp⟩
theorem Zk {W:Qaw}{g:Nat}{a b c:Qax}{t:Qaz}(h:W.heap[g]? = some (.cells #[a,b,c] t (0,0))):W.cell? ⟨g,0,none⟩=some a/\W.cell? ⟨g,1,none⟩=some b/\W.cell? ⟨g,2,none⟩=some c/\(∀ o,W.frozen? ⟨g,o,none⟩=false)/\g<W.heap.size :=
 ⟨by simp[Qn,h],by simp[Qn,h],by simp[Qn,h],fun o=>by simp[Pv,h],(Q5.1 h).1⟩
theorem Zd5 (v:Qax) (s:Rm) (a:Int) (w:Qaw) (h:Sto (Old w) w v s) :
  Qa2 Tryz.prog 36 #[v,.int .i64 a] w fun e w'=>∃ Z zc,e=.returned (.tuple #[.agg #[.int .i64 (rmV s a).1,.slice Z (rmV s a).2.length zc],.int .i64 (rmE s a)])/\Zae (Old w') w' [.slice Z (rmV s a).2.length zc] (rmV s a).2 /\
   Nod (New w.heap.size w') w' (.agg #[.int .i64 (rmV s a).1,.slice Z (rmV s a).2.length zc]) (rmV s a)/\Qa3 w.heap.size w w':=by
 refine(Zpw v s a w h).mono ?_;rintro e w' ⟨u,rfl,hu,hb'⟩;have hu2:=hu;obtain⟨Z,zc,rfl,_,_,_,hA⟩:=hu.drop.open;exact⟨Z,zc,rfl,hA,hu2,hb'⟩
theorem Z8e {s:Rm}{a:Int}(h:rmE s a≠0):Yo s a=false:=by simp[Yo,h]
theorem Z95 {s:Rm}{a:Int}(h:asE s a≠0):ckE s a=asE s a/\ckH s a=0:=by
 have e:ckE s a=asE s a:=by rw[ckE,if_neg h]
 exact⟨e,by rw[ckH,e,if_neg h]⟩
theorem Ztd {s:Rm}{a:Int}(h:asE s a=0) (ht:Yo s a=false):ckE s a=8/\ckH s a=0:=by
 have e:ckE s a=8:=by rw[ckE,if_pos h,ht];rfl
 exact⟨e,by rw[ckH,e,if_neg (by decide)]⟩
theorem Zjc {s:Rm}{a:Int}(h:asE s a=0) (ht:Yo s a=true):ckE s a=0/\ckH s a=(rmV s a).1+1:=by
 have e:ckE s a=0:=by rw[ckE,if_pos h,ht];rfl
 exact⟨e,by rw[ckH,e,if_pos rfl]⟩
theorem Zam {s:Rm}{a:Int}(h:ckE s a=0):Yo s a=true/\asE s a=0/\ckH s a=(rmV s a).1+1:=by{
 by_cases ha:asE s a=0
 ·cases ht:Yo s a with
  | false=>rw[(Ztd ha ht).1] at h;cases h
  | true=>exact⟨rfl,ha,(Zjc ha ht).2⟩
 ·rw[(Z95 ha).1] at h
  exact absurd h ha}
theorem Zyh {lo:Nat}{w:Qaw}{A:Option Qay}{n c k:Nat}{xs:List It}{s:It}(h:Zae (New lo w) w [.slice A n c] xs) (hk:xs[k]? = some s) :
  ∃ ad E ce,A=some ad/\InI s/\∀ W,Qa3 w.heap.size w W->At5 W (ad.add (k*5)) s (.slice E s.2.2.length ce)/\Itm (New lo W) W (itV s (.slice E s.2.2.length ce)) s:=by
 obtain⟨ad,E,ce,rfl,_,h5,hi,_,_,hin⟩:=Zao h hk;exact⟨ad,E,ce,rfl,hin,fun W hW=>⟨h5.below hW,hi.new (Qa _) hW⟩⟩
def Yas (lo:Nat) (v:Qax) (l:List It):Qaw->Prop:=fun w=>Zae (New lo w) w [v] l
theorem Zqg (lo:Nat) (v:Qax) (l:List It):Ze0 (Yas lo v l):=fun _ _ h hb=>Y8.new h (Qa _) hb
def Yg (g:Nat) (cs:Array Qax) (t:Qaz):Qaw->Prop:=fun w=>w.heap[g]? = some (.cells cs t (0,0))
theorem Zr (g:Nat) (cs:Array Qax) (t:Qaz):Ze0 (Yg g cs t):=fun _ _ h hb=>(hb.block g (Q5.1 h).1).trans h
theorem Z3w {ok:Qay->Prop}{w:Qaw}{ad:Qay}{n c:Nat}{b:List It}(h:Zae ok w [.slice (some ad) n c] b) (k:Nat) (hk:k<=b.length):Zae ok w [.slice (some (ad.add (k*5))) (n-k) (c-k)] (b.drop k):=by
 obtain⟨A,cap,e,h2,h3,h4⟩:=h;cases e;refine⟨some (ad.add (k*5)),c-k,by rw[Pu],by rw[Pu];omega,by omega,fun i x hi=> ?_⟩;rw[Q4] at hi;obtain⟨ad',vs,e1,e2,e3,e4⟩:=h4 (k+i) x hi;cases e1;refine⟨ad.add (k*5),vs,rfl,e2,fun j v hj=> ?_,e4⟩;have:=e3 j v hj;rw[Zms,show k*5+(i*5+j)=(k+i)*5+j by omega];exact this
def Zho (n:Nd) (k:Ky):Nat×Bool:=if n.1=0 then (Z2 n k,Yl n k) else (Xk n k,true)
theorem Zvi (A:Option Qay) (c:Nat) (n:Nd) (k:Ky) (w:Qaw) (h:Nod (Old w) w (.agg #[.int .i64 n.1,.slice A n.2.length c]) n) :
  Qa2 Tryz.prog 74 #[.agg #[.int .i64 n.1,.slice A n.2.length c],kyV k] w fun e w'=>e=.returned (.agg #[.int .i64 n.1,.slice A n.2.length c,.int .i64 ((Zho n k).1:Nat),.bool (Zho n k).2])/\Qa3 w.heap.size w w':=by{
 obtain⟨w1,hw1,b1,hs1,hB1⟩:=Yc w (.int .i64 n.1) (.slice A n.2.length c) 81;obtain⟨w2,hw2,-,-,-,hs2,hB2,b2⟩:=Y9 w1 (.int .u8 (k.1.toNat:Int)) (.int .u32 k.2.1) (.int .u32 k.2.2) 37;obtain⟨w3,hw3,b3,hs3,hB3⟩:=X4 w2 (.int .i64 0) (.slice none 0 0) (.int .i64 0) (.bool false) 144;have B3:=Za (hB1.trans ((hB2.trans (hB3.mono hB2.size)).mono hB1.size));have hb1:=(hB3.block w.heap.size (by omega)).trans ((hB2.block w.heap.size (by omega)).trans b1);have hb2:=(hB3.block w1.heap.size (by omega)).trans b2;have hP:=Za (fun W hW=>Zcp _ n k W (h.below hW));obtain⟨p,hp⟩:∃ p,Z2 n k=p:=⟨_,rfl⟩
 obtain⟨t,ht⟩:∃ t,Yl n k=t:=⟨_,rfl⟩
 obtain⟨lv,hlv⟩:∃ q,n.1=q:=⟨_,rfl⟩
 obtain⟨len,hlen⟩:∃ q,n.2.length=q:=⟨_,rfl⟩
 have hpl:=Zcb n k;have hst:Hid (Zho n k=if lv=0 then (p,t) else (if t=true then p else p-1,true)):=Za (by unfold Zho Xk;rw[hlv,hp,ht]);have hcl:c<=9223372036854775807/\n.2.length<=c:=by
  obtain⟨A',c',e,_,h1,h2,_⟩:=h.open;cases e;exact⟨h2,h1⟩
 rw[hp] at hpl hP;rw[ht] at hP;rw[hlen] at hpl hcl hP b1 hb1 hw1 ⊢;rw[hlv] at hP b1 hb1 hw1 ⊢;have G3:=Za b3;have S:=Za (show w.heap.size<w3.heap.size/\w1.heap.size<w3.heap.size/\w2.heap.size<w3.heap.size/\w.heap.size<=w2.heap.size from ⟨by omega,by omega,by omega,by omega⟩);replace hp:=Za hp;replace ht:=Za ht;replace hlv:=Za hlv;replace hlen:=Za hlen;replace hs1:=Za hs1;replace hs2:=Za hs2;replace hs3:=Za hs3;obtain⟨p0,p1,_,_⟩:=Zg hb1;obtain⟨q0,q1,q2,_⟩:=Zk hb2;have G1:=Za hb1;clear h hB1 hB2 hB3 b1 b2 b3 hb1 hb2;unfold kyV
 go_enter Tryz.func74,Tryz.ntmps74
 go_upto_region 1 with fail
 clear hw1 hw2 hw3
 go_wp2_with fail
 with_reducible refine(hP.out _ B3.out).mono ?_
 rintro e w4 ⟨rfl,hb4⟩;have g3:=(hb4.block w2.heap.size S.out.2.2.1).trans G3.out;have g1:=(hb4.block w.heap.size S.out.1).trans G1.out;have B4:=Za (B3.out.trans (hb4.mono B3.out.size))
 have hfin:Hid (∀ (x:Nat) (y:Bool),Zho n k=(x,y)->∃ W9,(((w4.setCell ⟨w2.heap.size,0,none⟩ (.int .i64 lv)).setCell ⟨w2.heap.size,1,none⟩ (.slice A len c)).setCell ⟨w2.heap.size,2,none⟩ (.int .i64 (x:Int))).setCell ⟨w2.heap.size,3,none⟩ (.bool y)=W9 /\
   W9.cell? ⟨w2.heap.size,0,none⟩=some (.int .i64 lv)/\W9.cell? ⟨w2.heap.size,1,none⟩=some (.slice A len c)/\W9.cell? ⟨w2.heap.size,2,none⟩=some (.int .i64 (x:Int))/\W9.cell? ⟨w2.heap.size,3,none⟩=some (.bool y) /\
   (Ending.returned (.agg #[.int .i64 lv,.slice A len c,.int .i64 (x:Int),.bool y])=.returned (.agg #[.int .i64 lv,.slice A len c,.int .i64 ((Zho n k).1:Nat),.bool (Zho n k).2])/\Qa3 w.heap.size w W9)):=Za fun x y he=>by
  obtain⟨W9,e9,g9,gr9,_⟩:=Zu (a':=.int .i64 lv) (b':=.slice A len c) (c':=.int .i64 (x:Int)) (d':=.bool y) g3;obtain⟨k0,k1,k2,k3,_⟩:=Ze g9;exact⟨W9,e9,k0,k1,k2,k3,by rw[he],B4.out.grown gr9 B4.out.size fun q e=>by cases e;exact S.out.2.2.2⟩
 obtain⟨m0,m1,_,_⟩:=Zg g1;obtain⟨r0,r1,r2,r3,rf,_⟩:=Ze g3;clear p0 p1 q0 q1 q2 hb4 g3 g1;have hcl1:=hcl.1;have hcl2:=hcl.2;clear hcl;by_cases h0:lv=0
 ·subst h0
  obtain⟨W9,e9,k0,k1,k2,k3,hf⟩:=hfin.out p t (by rw[hst.out,if_pos rfl]);replace hf:=Za hf;replace e9:=Za e9;clear hfin hst
  go_wp2_with fail
  rw[e9.out];exact Qa0 (v:=.agg #[.int .i64 0,.slice A len c,.int .i64 (p:Int),.bool t]) (by simp[results,Tryz.results74,go_sem,k0,k1,k2,k3]) rfl hf.out
 ·have h0':(lv==0)=false:=by simpa using h0
  cases t with
  | true =>
   obtain⟨W9,e9,k0,k1,k2,k3,hf⟩:=hfin.out p true (by rw[hst.out,if_neg h0,if_pos rfl]);replace hf:=Za hf;replace e9:=Za e9;clear hfin hst h0
   go_wp2_with fail
   rw[e9.out];exact Qa0 (v:=.agg #[.int .i64 lv,.slice A len c,.int .i64 (p:Int),.bool true]) (by simp[results,Tryz.results74,go_sem,k0,k1,k2,k3]) rfl hf.out
  | false =>
   have hwr:IntKind.i64.wrap ((p:Int)-1)=(p:Int)-1:=by rw[IntKind.wrap_i64];omega
   by_cases hp0:p=0
   ·obtain⟨W9,e9,k0,k1,k2,k3,hf⟩:=hfin.out 0 true (by rw[hst.out,if_neg h0,if_neg (by decide),hp0])
    subst hp0;replace hf:=Za hf;replace e9:=Za e9;clear hfin hst h0
    go_wp2_with fail
    refine Eq.mpr (congrArg _ e9.out) ?_;exact Qa0 (v:=.agg #[.int .i64 lv,.slice A len c,.int .i64 (0:Nat),.bool true]) (by simp[results,Tryz.results74,go_sem,k0,k1,k2,k3]) rfl hf.out
   ·obtain⟨W9,e9,k0,k1,k2,k3,hf⟩:=hfin.out (p-1) true (by rw[hst.out,if_neg h0,if_neg (by decide)])
    have hp1:((p-1:Nat):Int)=(p:Int)-1:=by omega
    have hp2:(0:Int)<=(p:Int)-1:=by omega
    rw[hp1] at e9 k2 hf;replace hf:=Za hf;replace e9:=Za e9;clear hfin hst h0 hp1
    go_wp2_with fail
    refine Eq.mpr (congrArg _ e9.out) ?_;exact Qa0 (v:=.agg #[.int .i64 lv,.slice A len c,.int .i64 ((p:Int)-1),.bool true]) (by simp[results,Tryz.results74,go_sem,k0,k1,k2,k3]) rfl hf.out}
def Zil (s:Rm) (x:It):Int:=if Zbp x then if x.2.1≠0/\s.2.1[x.2.1.toNat]?.getD 0=0 then 6 else 0 else 8
theorem Zmy (v u:Qax) (s:Rm) (x:It) (w:Qaw) (hm:Xm s=true) (h:Sto (Old w) w v s) (hu:Itm (Old w) w u x) :
  Qa2 Tryz.prog 41 #[v,u] w fun e w'=>e=.returned (.int .i64 (Zil s x))/\Qa3 w.heap.size w w':=by{
 obtain⟨A,ca,B,cb,N,cn,L,cl,rfl,_⟩:=id h.open;obtain⟨D,dc,rfl,_,_,_,_⟩:=id hu.open;obtain⟨w1,hw1,b1,hs1,hB1⟩:=X4 w (.slice A s.1.1.length ca) (.slice B s.1.2.length cb) (.slice N s.2.1.length cn) (.slice L s.2.2.length cl) 29;obtain⟨w2,hw2,-,-,-,-,-,hs2,hB2,b2⟩:=Z7 w1 (.int .u8 (x.1.1.toNat:Int)) (.int .u32 x.1.2.1) (.int .u32 x.1.2.2) (.int .i64 x.2.1) (.slice D x.2.2.length dc) 54;have hb1:=(hB2.block w.heap.size (by omega)).trans b1;have B2:=Za (hB1.trans (hB2.mono hB1.size));have hC:=Za (Za6 _ x w2 (hu.map fun p v hp hc=>⟨Qq hp B2.out.size,(B2.out.cell hp).trans hc⟩));have HS:=Za (h.below B2.out);have hl:=Yw (Ye hm).2.1;have hcit:Hid (Zil s x=if Zbp x then if x.2.1≠0/\s.2.1[x.2.1.toNat]?.getD 0=0 then 6 else 0 else 8):=Za rfl;have hmw:Zbp x=true->x.2.1=0\/∃ k:Nat,x.2.1=k/\8<=k/\k<256:=fun h=>by
  rcases(Zaj h).1 with e | e
  ·exact .inl e
  ·exact .inr ⟨x.2.1.toNat,by omega,by omega,by omega⟩
 obtain⟨z,hz⟩:∃ z,x.2.1=z:=⟨_,rfl⟩
 obtain⟨ev,hev⟩:∃ q,Z16 x=q:=⟨_,rfl⟩
 rw[hl] at b1 hb1 hw1 HS ⊢;rw[hz] at hw2 b2 hcit hmw;unfold itV at hC;rw[hz] at hC;rw[hev] at hC;change Qa2 _ _ #[_,.agg #[.int .u8 (x.1.1.toNat:Int),.int .u32 x.1.2.1,.int .u32 x.1.2.2,.int .i64 x.2.1,.slice D x.2.2.length dc]] _ _;rw[hz];replace hz:=Za hz;replace hl:=Za hl;replace hs1:=Za hs1;replace hs2:=Za hs2;obtain⟨p0,p1,p2,p3,_⟩:=Ze hb1;obtain⟨q0,q1,q2,q3,q4,_⟩:=Zs b2;have G1:=Za hb1;have G2:=Za b2;have S:=Za (show w.heap.size<w2.heap.size/\w1.heap.size<w2.heap.size from ⟨by have:=hs1.out;have:=hs2.out;omega,by have:=hs2.out;omega⟩);clear h hu hB1 hB2 b1 b2 hb1
 go_enter Tryz.func41,Tryz.ntmps41
 go_upto_region 1 with fail
 clear hw1 hw2
 go_wp2_with fail
 with_reducible refine(hC.out).mono ?_
 rintro e w3 ⟨rfl,hb3⟩;have g1:=(hb3.block w.heap.size S.out.1).trans G1.out;have g2:=(hb3.block w1.heap.size S.out.2).trans G2.out;have B3:=Za (B2.out.trans (hb3.mono B2.out.size));have H3:=Za (HS.out.below hb3);obtain⟨p0,p1,p2,p3,_⟩:=Ze g1;obtain⟨q0,q1,q2,q3,q4,_⟩:=Zs g2;clear hb3 g1 g2 hC;rcases Zcj (Zbp x) with hb | hb
 ·have he8:ev=8:=by rw[<- hev];simp[Z16,hb]
  subst he8;have hr:=Za (show Zil s x=8 by rw[hcit.out,hb];rfl);replace hev:=Za hev;replace hb:=Za hb;clear hmw
  go_wp2_with fail
  go_ret;exact⟨Zz hr.out.symm,B3.out⟩
 have he0:ev=0:=by rw[<- hev];simp[Z16,hb]
 subst he0;have hw:=hmw hb;rw[hb,if_pos rfl] at hcit;replace hev:=Za hev;replace hb:=Za hb;clear hmw;rcases hw with h0 | ⟨k,hk,h8,h256⟩
 ·subst h0
  have hr:=Za (show Zil s x=0 by rw[hcit.out,if_neg (by simp)]);clear hcit
  go_wp2_with fail
  go_ret;exact⟨Zz hr.out.symm,B3.out⟩
 ·subst hk
  have j0:((k:Int) != 0)=true:=by simp;omega
  have i1:(0:Int)<=(k:Int):=by omega
  have i2:(k:Int)<256:=by omega
  obtain⟨A2,c2,e2,n1,n2,hc2⟩:=Zt H3.out.parts.2.1;rw[hl.out] at e2 hc2;cases e2;obtain⟨ad,rfl,_,hck⟩:=hc2 k h256;obtain⟨y,hy⟩:∃ y,s.2.1[k]?.getD 0=y:=⟨_,rfl⟩
  rw[hy] at hck;rw[Int.toNat_natCast,hy] at hcit;replace hy:=Za hy;clear hc2 n1 n2;by_cases hy0:y=0
  ·have t1:=Vh (y:=0) (q:=0) rfl hy0
   have hr:=Za (show Zil s x=6 by rw[hcit.out,if_pos ⟨by omega,hy0⟩]);replace hy0:=Za hy0;clear hcit
   go_wp2_with fail
   go_ret;exact⟨Zz hr.out.symm,B3.out⟩
  ·have t1:=Xs (y:=0) (q:=0) rfl hy0
   have hr:=Za (show Zil s x=0 by rw[hcit.out,if_neg (fun h=>hy0 h.2)]);replace hy0:=Za hy0;clear hcit
   go_wp2_with fail
   go_ret;exact⟨Zz hr.out.symm,B3.out⟩}
def Z97 (w:Qaw) (A:Option Qay) (n c:Nat) (e:Ending) (w':Qaw):Prop:=Qa3 w.heap.size w w' /\
 ((n<=5/\e=.returned (.slice (some ⟨w.heap.size,0,none⟩) 1 1)/\w'.heap[w.heap.size]? = some (.cells #[.slice A n c] 39 (0,0))) \/
  (5<n/\∃ ad,A=some ad/\e=.returned (.slice (some ⟨w.heap.size,0,none⟩) 2 2)/\w'.heap[w.heap.size]? = some (.cells #[.slice (some ad) 3 c,.slice (some (ad.add (3*5))) (n-3) (c-3)] 39 (0,0))))
theorem Zzh (A:Option Qay) (n c:Nat) (w:Qaw) (hn:n<=c) (hc:c<=9223372036854775807) (hA:0<n->∃ ad,A=some ad):Qa2 Tryz.prog 120 #[.slice A n c] w (Z97 w A n c):=by{
 by_cases h5:n<=5
 ·have i5:(n:Int)<=5:=by omega
  go_enter Tryz.func120,Tryz.ntmps120
  go_wp2_with fail
  go_ret;exact⟨(Qb _ w).alloc (Qa _) _,.inl ⟨h5,rfl,Qa1 w _⟩⟩
 ·have i5:¬ ((n:Int)<=5):=by omega
  obtain⟨ad,rfl⟩:=hA (by omega);have i6:(3:Int)<=(c:Int):=by omega
  have i7:(3:Int)<=(n:Int):=by omega
  have i8:¬ c=3:=by omega
  go_enter Tryz.func120,Tryz.ntmps120
  go_wp2_with fail
  go_still_tail 4,(by kernel_rfl)
  go_wp2_with fail
  go_ret;exact⟨((Qb _ w).drew).alloc (Qa _) _,.inr ⟨by omega,ad,rfl,rfl,Qa1 w.drew _⟩⟩}
theorem Zqq.low {lo:Nat}{w w1:Qaw}{A:Option Qay}{L:List Iv}{e:Ending}{w':Qaw}(h:Zqq lo w1 A L e w') (hg:w.grownBy w1 (A.map (·.block))):Zqq lo w A L e w':=by
 obtain⟨A',c',h1,h2,h3⟩:=h;exact⟨A',c',h1,h2,Ys hg h3⟩
theorem Zm2 (A:Option Qay) (lo lf n c fb m fc i:Nat) (lv:Int) (b:Bool) (ps qs:List Iv) (w:Qaw) (h:w.ownsRow lo 54 5 (.slice A n c) n (Zi ps)) (hf:w.ownsRow lf 54 5 (.slice (some ⟨fb,0,none⟩) m fc) m (Zi qs))
  (hne:A.map (·.block)≠some fb) (hi:i+(if b=true then 1 else 0)<=n) (hm:0<m) (hbig:n+m<=1000) (hp1:∀ p∈ps,p.2.oneCell'=true) (hq1:∀ p∈qs,p.2.oneCell'=true) (hlo:lo<=w.heap.size) :
  Qa2 Tryz.prog 77 #[.agg #[.int .i64 lv,.slice A n c,.int .i64 i,.bool b],.slice (some ⟨fb,0,none⟩) m fc] w fun e w'=>Zqq lo w A (ps.take i++(qs++ps.drop (i+if b=true then 1 else 0))) e w'/\w.heap.size<w'.heap.size:=by{
 obtain⟨w1,hw1,b1,hs1,hB1⟩:=X4 w (.int .i64 lv) (.slice A n c) (.int .i64 i) (.bool b) 144;have h1:=Zw h hB1;have hf1:=Zw hf hB1;have hlow:=Za (fun L e w' (hh:Zqq lo w1 A L e w')=>(⟨hh.low (w:=w) (hw1 ▸ World.grownBy_alloc w _ _),by obtain⟨_,_,_,_,hg⟩:=hh;have:=hg.size;omega⟩:Zqq lo w A L e w'/\w.heap.size<w'.heap.size));obtain⟨p0,p1,p2,p3,_⟩:=Ze b1;have hwr:IntKind.i64.wrap ((i:Int)+1)=(i:Int)+1:=by rw[IntKind.wrap_i64];split at hi <;> omega
 cases b with
 | true =>
  have hR:=Zr1 A lo lf n c fb m fc i (i+1) ps qs w1 h1 hf1 hne rfl hi hm hbig hp1 hq1 (by omega);rw[show ((i+1:Nat):Int)=(i:Int)+1 by omega] at hR;rw[if_pos rfl];obtain⟨L,hL⟩:∃ L,ps.take i++(qs++ps.drop (i+1))=L:=⟨_,rfl⟩
  rw[hL] at hR ⊢;replace hL:=Za hL;have HR:=Za hR;clear h hf h1 hf1 hR hp1 hq1 hne hB1 b1 hs1 hi
  go_enter Tryz.func77,Tryz.ntmps77
  go_upto_region 1 with fail
  clear hw1
  go_wp2_with fail
  with_reducible refine(HR.out).mono ?_
  intro e w2 hh;have H2:=Za (hlow.out _ _ _ hh);obtain⟨A',c',rfl,_⟩:=hh
  go_wp2_with fail
  go_ret;exact H2.out
 | false =>
  have hR:=Zvd A lo lf n c fb m fc i ps qs w1 h1 hf1 hne (by simpa using hi) hm hbig hp1 hq1 (by omega);rw[if_neg (by decide),Nat.add_zero];obtain⟨L,hL⟩:∃ L,ps.take i++(qs++ps.drop i)=L:=⟨_,rfl⟩
  rw[hL] at hR ⊢;replace hL:=Za hL;have HR:=Za hR;clear h hf h1 hf1 hR hp1 hq1 hne hB1 b1 hs1 hi
  go_enter Tryz.func77,Tryz.ntmps77
  go_upto_region 1 with fail
  clear hw1
  go_wp2_with fail
  with_reducible refine(HR.out).mono ?_
  intro e w2 hh;have H2:=Za (hlow.out _ _ _ hh);obtain⟨A',c',rfl,_⟩:=hh
  go_wp2_with fail
  go_ret;exact H2.out}
theorem Uu {lo:Nat}{w:Qaw}{A:Option Qay}{c:Nat}{xs:List It}(h:Yh rIt 5 54 lo w A c xs):∃ ps:List Iv,ps.map (·.1)=xs/\w.ownsRow lo 54 5 (.slice A xs.length c) xs.length (Zi ps)/\∀ p∈ps,InI p.1/\rBy (Xw lo A w) w [p.2] p.1.2.2:=by{
 obtain⟨cs,ho,hcs⟩:=h
 obtain⟨ps,hl,hps⟩:=Zjz (n:=xs.length) (p:=fun i (p:Iv)=>xs[i]? = some p.1/\(∀ j u,(Zc6 p)[j]? = some u->cs[i*5+j]? = some u)/\InI p.1/\rBy (Xw lo A w) w [p.2] p.1.2.2) (fun i hi=>by
  have hx:xs[i]? = some xs[i]:=Qc hi;obtain⟨vs,e5,hc,r⟩:=hcs i _ hx;obtain⟨d,rfl,hin,hd⟩:=Zsy r
  exact⟨(xs[i],d),hx,hc,hin,hd⟩)
 have hmap:ps.map (·.1)=xs:=by
  apply Qar;intro i;rw[Qas];cases e:ps[i]? with
  | none =>
   have:xs.length<=i:=by rw[<- hl];exact List.getElem?_eq_none_iff.1 e
   rw[Pm this];rfl
  | some p=>exact(hps i p e).1.symm
 have hcell:cs=Zi ps:=by
  apply Qar;intro j;rcases Po j (xs.length*5) with hj | hj
  ·obtain⟨p,hp⟩:∃ p,ps[j / 5]? = some p:=⟨_,Qc (by omega)⟩
   obtain⟨u,hu⟩:∃ u,(Zc6 p)[j % 5]? = some u:=⟨_,Qc (by show j % 5<5;omega)⟩
   have h1:=Zi2 hp _ _ hu;have h2:=(hps _ p hp).2.1 _ _ hu;rw[show j / 5*5+j % 5=j by omega] at h1 h2;rw[h1,h2]
  ·rw[Pm (by rw[ho.1];exact hj),Pm (by rw[Yx,hl];exact hj)]
 exact⟨ps,hmap,hcell ▸ ho,fun p hp=>by
  obtain⟨i,hi⟩:=Qah.1 hp
  exact(hps i p hi).2.2⟩}
theorem Zem {lo n c:Nat}{w:Qaw}{A:Option Qay}{ps:List Iv}(h:w.ownsRow lo 54 5 (.slice A n c) n (Zi ps)) (hp:∀ p∈ps,InI p.1/\rBy (Old w) w [p.2] p.1.2.2):Zae (Old w) w [.slice A n c] (ps.map (·.1)):=by
 have hl:=Zbu h;refine Zoh (fun p _ hn=>hn.2.1) h (by rw[Qat];exact hl) fun i x hi=> ?_
 rw[Qas] at hi;obtain⟨p,hp',rfl⟩:=Option.map_eq_some_iff.1 hi;obtain⟨h1,h2⟩:=hp p (Qt hp');exact⟨Zc6 p,rfl,fun j u hj=>Zi2 hp' j u hj,Z09 h1 h2⟩
theorem Zf8 {ok:Qay->Prop}{w:Qaw}{ps:List Iv}(h:∀ p∈ps,InI p.1/\rBy ok w [p.2] p.1.2.2):∀ p∈ps,p.2.oneCell'=true:=fun p hp=>Yaj (h p hp).2
abbrev Rf:=Int×Int
def Rfd (x:Rf):Prop:=8<=x.1/\x.1<256 /\ -1<=x.2/\x.2<=6
def wkF (d:Dk) (lv:Int) (t:List UInt8) (a:Nat):Option (List UInt8):=if lv=6 then lfO d t a else lvF d (lv+1).toNat t a
def runT (d:Dk):List UInt8->List Rf->Option (List UInt8)
 | t,[]=>some t
 | t,x::l=>(wkF d x.2 t x.1.toNat).bind fun u=>runT d u l
theorem Zs7 (d:Dk):∀ (a b:List Rf) (t:List UInt8),runT d t (a++b)=(runT d t a).bind fun u=>runT d u b
 | [],b,t=>rfl
 | x::a,b,t=>by
  simp only[Qo,runT];cases wkF d x.2 t x.1.toNat with
  | none=>rfl
  | some u=>exact Zs7 d a b u
def Zkb (lv:Int) (l:List It):List Rf:=(l.filter fun x=>decide (x.2.1≠0)).map fun x=>(x.2.1,lv)
def Zwy (n:Nd):List Rf:=Zkb (n.1-1) n.2
theorem Zty (lv:Int):Zkb lv []=[]:=rfl
theorem Zj7 {lv:Int}{x:It}{l:List It}(h:x.2.1=0):Zkb lv (x::l)=Zkb lv l:=by simp[Zkb,h]
theorem Zid {lv:Int}{x:It}{l:List It}(h:x.2.1≠0):Zkb lv (x::l)=(x.2.1,lv)::Zkb lv l:=by simp[Zkb,h]
theorem Zuk (lv:Int) (a b:List It):Zkb lv (a++b)=Zkb lv a++Zkb lv b:=by simp[Zkb]
theorem Zut (lv:Int) (l:List It):(Zkb lv l).length<=l.length:=by
 rw[Zkb,Qat];exact List.length_filter_le _ _
theorem Zrp {lv:Int}(h1 : -1<=lv) (h6:lv<=6):∀ {l:List It},Zbo l->∀ x∈Zkb lv l,Rfd x
 | [],_,x,hx=>by simp[Zkb] at hx
 | y::l,h,x,hx=>by
  obtain⟨r1,r2⟩:=Zbz h;rcases r1 with r1 | ⟨k,r1,r8,r256⟩
  ·rw[Zj7 r1] at hx
   exact Zrp h1 h6 r2 x hx
  ·rw[Zid (by omega)] at hx
   rcases Qe.1 hx with rfl | hx
   ·exact⟨by show 8<=y.2.1;omega,by show y.2.1<256;omega,h1,h6⟩
   ·exact Zrp h1 h6 r2 x hx
theorem Zhj (d:Dk){k:Nat}(hk:k<=6):∀ (l:List It) (t:List UInt8),Vm (lvF d k) t l=runT d t (Zkb ((k:Int)-1) l)
 | [],t=>rfl
 | x::l,t=>by
  unfold Vm;by_cases h:x.2.1=0
  ·rw[if_pos h,Zj7 h]
   exact Zhj d hk l t
  ·rw[if_neg h,Zid h]
   have e:wkF d ((k:Int)-1) t x.2.1.toNat=lvF d k t x.2.1.toNat:=by
    rw[wkF,if_neg (by omega),show ((k:Int)-1+1).toNat=k by omega]
   show (lvF d k t x.2.1.toNat).bind _=(wkF d ((k:Int)-1) t x.2.1.toNat).bind _;rw[e];cases lvF d k t x.2.1.toNat with
   | none=>rfl
   | some u=>exact Zhj d hk l u
theorem Z7z {d:Dk}{lv:Int}{t:List UInt8}{a:Nat}(h:t[a]?.getD 0=0):wkF d lv t a=none:=by{
 have hd:dnO t a=none:=by rw[dnO,if_pos h]
 unfold wkF;split
 ·rw[lfO,hd];rfl
 ·cases (lv+1).toNat with
  | zero=>exact hd
  | succ l =>
   show lvS d l (lvF d l) t a=none;rw[lvS,hd];rfl}
theorem Zs0 {x:UInt8}(h:x≠0):x-1≠0↔1<x.toNat:=by{
 have h1:=Zi5 h;refine⟨fun e=> ?_,fun e e0=> ?_⟩
 ·have:(x-1).toNat≠0:=fun e'=>e (Vy.1 e')
  omega
 ·have:=Vy.2 e0
  omega}
def Rdn (d:Dk) (lv:Int) (a:Nat):Prop:=reN (Z1 d a)=0/\(lv=6\/(reV (Z1 d a)).1=lv)
theorem Z6t {d:Dk}{lv:Int}{t:List UInt8}{a:Nat}(h1 : -1<=lv) (h6:lv<=6) (h:t[a]?.getD 0≠0) :
  ((t[a]?.getD 0-1≠0\/lv = -1)/\wkF d lv t a=some (t.set a (t[a]?.getD 0-1))) \/
  (t[a]?.getD 0-1=0/\lv ≠ -1/\¬ Rdn d lv a/\wkF d lv t a=none) \/
  (t[a]?.getD 0-1=0/\lv ≠ -1/\Rdn d lv a/\wkF d lv t a=runT d (t.set a (t[a]?.getD 0-1)) (Zwy (reV (Z1 d a)))):=by{
 have hd:=Zdl h;have hlow:reN (Z1 d a)=0->0<=(reV (Z1 d a)).1/\(reV (Z1 d a)).1<6:=fun hr=>by
  obtain⟨⟨s1,s2,_⟩,_⟩:=Zx (Zfb hr).1;exact⟨s1,s2⟩
 by_cases hc:t[a]?.getD 0-1=0
 case neg =>
  refine .inl ⟨.inl hc,?_⟩;have hm:=(Zs0 h).1 hc;unfold wkF;split
  ·rw[lfO,hd]
   show (if 1<(t[a]?.getD 0).toNat then _ else _)=_;rw[if_pos hm]
  ·exact Zhh d _ t a hm
 have hm:¬ 1<(t[a]?.getD 0).toNat:=fun e=>(Zs0 h).2 e hc
 by_cases hl:lv = -1
 ·refine .inl ⟨.inr hl,?_⟩
  subst hl;exact hd
 right
 by_cases h0:lv=6
 ·subst h0
  have e:wkF d 6 t a=if reN (Z1 d a)=0 then Vm (lvF d (reV (Z1 d a)).1.toNat) (t.set a (t[a]?.getD 0-1)) (reV (Z1 d a)).2 else none:=by
   rw[wkF,if_pos rfl,lfO,hd];show (if 1<(t[a]?.getD 0).toNat then _ else _)=_;rw[if_neg hm]
  by_cases hr:reN (Z1 d a)=0
  ·refine .inr ⟨hc,by decide,⟨hr,.inl rfl⟩,?_⟩
   have hq:=hlow hr;rw[e,if_pos hr,Zhj d (by omega),Zwy,show (((reV (Z1 d a)).1.toNat:Nat):Int)=(reV (Z1 d a)).1 by omega]
  ·exact .inl ⟨hc,by decide,fun h=>hr h.1,by rw[e,if_neg hr]⟩
 ·obtain⟨l,rfl⟩:∃ l:Nat,lv=l:=⟨lv.toNat,by omega⟩
  have e:wkF d l t a=if reN (Z1 d a)=0/\(reV (Z1 d a)).1=(l:Int) then Vm (lvF d l) (t.set a (t[a]?.getD 0-1)) (reV (Z1 d a)).2 else none:=by
   rw[wkF,if_neg h0,show ((l:Int)+1).toNat=l+1 by omega];show lvS d l (lvF d l) t a=_;rw[lvS,hd];show (if 1<(t[a]?.getD 0).toNat then _ else _)=_;rw[if_neg hm]
  by_cases hr:reN (Z1 d a)=0/\(reV (Z1 d a)).1=(l:Int)
  ·refine .inr ⟨hc,hl,⟨hr.1,.inr hr.2⟩,?_⟩
   rw[e,if_pos hr,Zhj d (by omega),Zwy,hr.2]
  ·exact .inl ⟨hc,hl,fun h=>hr ⟨h.1,h.2.resolve_left h0⟩,by rw[e,if_neg hr]⟩}
def Zq3 (t:List UInt8):Nat:=(t.map (·.toNat)).sum
theorem Z01:∀ t:List UInt8,Zq3 t<=255*t.length
 | []=>by simp[Zq3]
 | x::t=>by
  have h1:=Z01 t;have h2:=x.toNat_lt;simp only[Zq3,Ph,P4,Qr] at h1 ⊢;omega
theorem Z05:∀ {t:List UInt8}{a:Nat},t[a]?.getD 0≠0->Zq3 (t.set a (t[a]?.getD 0-1))+1=Zq3 t
 | [],a,h=>absurd (by simp) h
 | x::t,0,h=>by
  have h':x≠0:=by simpa using h
  have:=Zi5 h';simp only[List.set_cons_zero,Zq3,Ph,P4,List.getElem?_cons_zero,Option.getD_some];omega
 | x::t,a+1,h=>by
  have h':t[a]?.getD 0≠0:=by simpa using h
  have:=Z05 h';simp only[List.set_cons_succ,Zq3,Ph,P4,List.getElem?_cons_succ] at this ⊢;omega
def Z5m (s:Rm):Prop:=Zyk s.1/\s.2.1.length<=10000/\s.2.2.length<=10000
theorem Zv6 {s:Rm}(h:Xm s=true):Z5m s:=by
 obtain⟨h1,h2,h3⟩:=Ye h;exact⟨Zc9 h1,by rw[Yw h2];omega,by rw[Yw h3];omega⟩
theorem Z7m {lo:Nat}{w1 W W9:Qaw}{P Q N L:Qax}{s:Rm}{g:Nat}(hd:Dsk (New w1.heap.size W) W (.agg #[P,Q]) s.1) (hn:rBy (New w1.heap.size W) W [N] s.2.1) (hl:rBy (New w1.heap.size W) W [L] s.2.2) (hg:g<w1.heap.size) (hlo:lo<=w1.heap.size) (gr:W.grownBy W9 (some g)):Sto (New lo W9) W9 (.agg #[P,Q,N,L]) s :=
 Sto.mk ((hd.grown gr (fun q e=>by cases e;exact hg)).new hlo (Qb _ _)) (Zf.new (Zf.grown hn gr (fun q e=>by cases e;exact hg)) hlo (Qb _ _)) (Zf.new (Zf.grown hl gr (fun q e=>by cases e;exact hg)) hlo (Qb _ _))
theorem Z1r (v:Qax) (s:Rm) (hsm:Z5m s) (w:Qaw) (h:Sto (Old w) w v s) :
  Qa2 Tryz.prog 93 #[v] w fun e w'=>∃ A ca B cb N cn L cl,e=.returned (.agg #[.slice A s.1.1.length ca,.slice B s.1.2.length cb,.slice N s.2.1.length cn,.slice L s.2.2.length cl])/\Sto (New w.heap.size w') w' (.agg #[.slice A s.1.1.length ca,.slice B s.1.2.length cb,.slice N s.2.1.length cn,.slice L s.2.2.length cl]) s/\Qa3 w.heap.size w w':=by{
 obtain⟨A,ca,B,cb,N,cn,L,cl,w1,rfl,hw1,f1,f2,hsz,hB,H⟩:=Zf1 h;clear h;obtain⟨m0,m1,m2,m3,_,mg⟩:=Ze f1;replace hsz:=Za hsz;replace f1:=Za f1;replace f2:=Za f2;replace hsm:=Za hsm
 go_enter Tryz.func93,Tryz.ntmps93
 go_upto_region 1 with fail
 clear hw1
 refine Uf (by kernel_rfl) 10 (fun W=>Qa3 w1.heap.size w1 W) (fun i=>match i with
   | 2=>some (fun v W=>Dsk (New w1.heap.size W) W v s.1)
   | 5=>some (fun v W=>rBy (New w1.heap.size W) W [v] s.2.1)
   | 8=>some (fun v W=>rBy (New w1.heap.size W) W [v] s.2.2)
   | 9=>some (fun v W=>∃ P p Q r Y y X x,v=.agg #[.slice P s.1.1.length p,.slice Q s.1.2.length r,.slice Y s.2.1.length y,.slice X s.2.2.length x]/\Dsk (New w1.heap.size W) W (.agg #[.slice P s.1.1.length p,.slice Q s.1.2.length r]) s.1/\rBy (New w1.heap.size W) W [.slice Y s.2.1.length y] s.2.1/\rBy (New w1.heap.size W) W [.slice X s.2.2.length x] s.2.2)
   | _=>none) (fun _=>none) (by decide) (by kernel_rfl) (by kernel_rfl) (Qb _ _).drew (fun w w' h hb=>h.trans (hb.mono h.size)) ?tst ?_
 case tst =>
  intro j φ x W W' hp hx hb
  match j,hp with
  | 2,hp=>cases hp;exact hx.new (Qa _) hb
  | 5,hp=>cases hp;exact Zf.new hx (Qa _) hb
  | 8,hp=>cases hp;exact Zf.new hx (Qa _) hb
  | 9,hp =>
   cases hp;obtain⟨P,p,Q,r,Y,y,X,x,e1,e2,e3,e4⟩:=hx;exact⟨P,p,Q,r,Y,y,X,x,e1,e2.new (Qa _) hb,Zf.new e3 (Qa _) hb,Zf.new e4 (Qa _) hb⟩
 simp only[P5,P7,P8,P9]
 repeat (first
  | (refine wpAs_skip rfl ?_;simp only[Qh,Zb,Zc,Zd])
  | (refine wpAs_pure (v := ?_) rfl rfl ?_ ?_;rotate_left;(intro W hC hE;clear hE;(have z0:=(hC.cell (p:=⟨w.heap.size,0,none⟩) mg).trans m0;have z1:=(hC.cell (p:=⟨w.heap.size,1,none⟩) mg).trans m1);clear hC;go_simp;first | done | with_reducible rfl);simp only[Qh,Zb,Zc,Zd]))
 refine wpAs_act rfl rfl ?_ ?_
 ·intro W hC hE
  clear hE;refine does_enter (f:=90) (args:=#[.agg #[.slice A s.1.1.length ca,.slice B s.1.2.length cb]]) ?_ ?_
  ·go_simp
  ·refine(Zux _ s.1 W hsm.out.1 (H.out.below hC).parts.1).mono ?_
   rintro e W' ⟨u,rfl,hu,hb⟩;exact⟨_,rfl,hu.new hC.size (Qb _ _),hb⟩
 simp only[Qh,Zb,Zc,Zd,envAdd];intro x5
 repeat (first
  | (refine wpAs_skip rfl ?_;simp only[Qh,Zb,Zc,Zd])
  | (refine wpAs_pure (v := ?_) rfl rfl ?_ ?_;rotate_left;(intro W hC hE;clear hE;(have z2:=(hC.cell (p:=⟨w.heap.size,2,none⟩) mg).trans m2);clear hC;go_simp;first | done | with_reducible rfl);simp only[Qh,Zb,Zc,Zd]))
 refine wpAs_act rfl rfl ?_ ?_
 ·intro W hC hE
  clear hE;refine does_enter (f:=80) (args:=#[.slice N s.2.1.length cn]) ?_ ?_
  ·go_simp
  ·refine(Zar _ s.2.1 W (by have:=hsm.out.2.1;omega) (H.out.below hC).parts.2.1).mono ?_
   rintro e W' ⟨u,rfl,ho,hb⟩;exact⟨_,rfl,Zf.new ho hC.size (Qb _ _),hb⟩
 simp only[Qh,Zb,Zc,Zd,envAdd];intro x8
 repeat (first
  | (refine wpAs_skip rfl ?_;simp only[Qh,Zb,Zc,Zd])
  | (refine wpAs_pure (v := ?_) rfl rfl ?_ ?_;rotate_left;(intro W hC hE;clear hE;(have z3:=(hC.cell (p:=⟨w.heap.size,3,none⟩) mg).trans m3);clear hC;go_simp;first | done | with_reducible rfl);simp only[Qh,Zb,Zc,Zd]))
 refine wpAs_act rfl rfl ?_ ?_
 ·intro W hC hE
  clear hE;refine does_enter (f:=80) (args:=#[.slice L s.2.2.length cl]) ?_ ?_
  ·go_simp
  ·refine(Zar _ s.2.2 W (by have:=hsm.out.2.2;omega) (H.out.below hC).parts.2.2).mono ?_
   rintro e W' ⟨u,rfl,ho,hb⟩;exact⟨_,rfl,Zf.new ho hC.size (Qb _ _),hb⟩
 simp only[Qh,Zb,Zc,Zd,envAdd];intro x11;refine wpAs_act rfl rfl ?_ ?_
 ·intro W hC hE
  have h11:=hE.1 rfl;have h8:=hE.2.1 rfl;have h5:=hE.2.2.1 rfl;obtain⟨X,x,rfl,_⟩:=Zt h11;obtain⟨Y,y,rfl,_⟩:=Zt h8;obtain⟨P,p,Q,r,rfl,_⟩:=h5.open;have h11':=Za h11;have h8':=Za h8;have h5':=Za h5;clear hE hC h11 h8 h5
  go_simp
  exact⟨⟨P,p,Q,r,Y,y,X,x,rfl,h5'.out,h8'.out,h11'.out⟩,Qb _ _⟩
 simp only[Qh,Zb,Zc,Zd,envAdd];intro x12;refine wpAs_end fun W hC hE=> ?_
 obtain⟨⟨P,p,Q,r,Y,y,X,x,rfl,hd,hn,hl⟩,_⟩:=hE;have bW:=(hC.block (w.heap.size+1) (by rw[hsz.out];omega)).trans f2.out;obtain⟨c0,c1,c2,c3,c4,c5⟩:=Ze bW;obtain⟨W9,hW9,g9,gr9,gs9⟩:=Zu (a':=.slice P s.1.1.length p) (b':=.slice Q s.1.2.length r) (c':=.slice Y s.2.1.length y) (d':=.slice X s.2.2.length x) bW;obtain⟨n0,n1,n2,n3,_,_⟩:=Ze g9;have BW:=hB.trans (hC.mono hB.size);have hfin:=Za (Z7m (lo:=w.heap.size) hd hn hl (by rw[hsz.out];omega) hB.size gr9);have hB9:=Za (BW.grown gr9 BW.size (fun q e=>by cases e;omega));clear hd hn hl gr9 gs9 BW hC;replace bW:=Za bW;replace g9:=Za g9
 go_wp2_with fail
 refine Qa0 (v:=.agg #[.slice P s.1.1.length p,.slice Q s.1.2.length r,.slice Y s.2.1.length y,.slice X s.2.2.length x]) (by simp[results,Tryz.results93,go_sem,n0,n1,n2,n3]) rfl ?_;exact⟨_,_,_,_,_,_,_,_,rfl,hfin.out,hB9.out⟩}
theorem Zo4 (v:Qax) (s:Rm) (n:Int) (w:Qaw) (h:Sto (Old w) w v s):Qa2 Tryz.prog 91 #[v,.int .i64 n] w fun e w'=>e=.returned (.int .i64 (asE s n))/\Qa3 w.heap.size w w':=by{
 obtain⟨A,ca,B,cb,N,cn,L,cl,w1,rfl,hw1,f,hsz,hB,_,NN,_⟩:=Zlv h;have H:=Za (h.below hB);clear h;obtain⟨k0,k1,k2,k3,_,kg⟩:=Ze f;replace hsz:=Za hsz;rcases Zit s n with ⟨hm,he⟩ | ⟨hm,hn,he⟩ | ⟨k,hm,rfl,h8,h256,hx,he⟩ | ⟨k,hm,rfl,h8,h256,hx,he⟩
 ·replace he:=Za he
  have e1:=Zd3 hm
  go_enter Tryz.func91,Tryz.ntmps91
  go_upto_region 1 with fail
  clear hw1
  go_wp2_with fail
  with_reducible refine(Xe _ s _ H.out).mono ?_
  rintro e w2 ⟨rfl,hb2⟩;rw[e1];replace hb2:=Za (hB.trans (hb2.mono hB.size))
  go_wp2_with fail
  go_ret;exact⟨Zz he.out.symm,hb2.out⟩
 ·replace he:=Za he
  have e1:=Zcv hm;by_cases h8:n<8
  ·clear hn
   go_enter Tryz.func91,Tryz.ntmps91
   go_upto_region 1 with fail
   clear hw1
   go_wp2_with fail
   with_reducible refine(Xe _ s _ H.out).mono ?_
   rintro e w2 ⟨rfl,hb2⟩;rw[e1];replace hb2:=Za (hB.trans (hb2.mono hB.size))
   go_wp2_with fail
   go_ret;exact⟨Zz he.out.symm,hb2.out⟩
  ·have h9:256<=n:=by omega
   clear hn
   go_enter Tryz.func91,Tryz.ntmps91
   go_upto_region 1 with fail
   clear hw1
   go_wp2_with fail
   with_reducible refine(Xe _ s _ H.out).mono ?_
   rintro e w2 ⟨rfl,hb2⟩;rw[e1];replace hb2:=Za (hB.trans (hb2.mono hB.size))
   go_wp2_with fail
   go_ret;exact⟨Zz he.out.symm,hb2.out⟩
 all_goals
  replace he:=Za he;have e1:=Zcv hm;have hlen:=Yw (Ye hm).2.1;obtain⟨A',c',e2,l1,m1,hby⟩:=Vf (B:=w1.heap.size) (fun _ h=>h) NN.out;cases e2;obtain⟨ad,rfl,hbk,hc⟩:=hby (by omega)
  have hcell:=hc k (by omega);replace hbk:(ad.add k).block<w1.heap.size:=by rw[Zh];exact hbk
  obtain⟨x,hx2⟩:∃ x,s.2.1[k]?.getD 0=x:=⟨_,rfl⟩
  rw[hx2] at hcell hx;have hlt:k<s.2.1.length:=by omega
  first
   | have t0:=Vh (y:=0) (q:=0) rfl hx
   | have t0:=Xs (y:=0) (q:=0) rfl hx
  have i1:¬ (k:Int)<8:=by omega
  have i2:¬ 256<=(k:Int):=by omega
  replace hx2:=Za hx2;replace hx:=Za hx;replace hlen:=Za hlen;clear hc hby
  go_enter Tryz.func91,Tryz.ntmps91
  go_upto_region 1 with fail
  clear hw1
  go_wp2_with fail
  with_reducible refine(Xe _ s _ H.out).mono ?_
  rintro e w2 ⟨rfl,hb2⟩;rw[e1];replace k2:=(hb2.cell (p:=⟨w.heap.size,2,none⟩) kg).trans k2;replace hcell:=(hb2.cell hbk).trans hcell;replace hb2:=Za (hB.trans (hb2.mono hB.size))
  go_wp2_with fail
  go_ret;exact⟨Zz he.out.symm,hb2.out⟩}
theorem Yad (w:Qaw) (a b c d e f:Qax):∃ w1,((w.alloc (.cells #[a,b,c,d] 29)).alloc (.cells #[e,f] 115)).alloc (.cells #[.int .i64 0,.slice none 0 0] 81)=w1 /\
  w1.heap[w.heap.size]? = some (.cells #[a,b,c,d] 29 (0,0))/\w1.heap[w.heap.size+1]? = some (.cells #[e,f] 115 (0,0))/\w1.heap[w.heap.size+2]? = some (.cells #[.int .i64 0,.slice none 0 0] 81 (0,0))/\w1.heap.size=w.heap.size+3/\Qa3 w.heap.size w w1:=by{
 refine⟨_,rfl,Y5 (Y5 (Qa1 _ _)),Y5 ?_,?_,by simp,(((Qb _ w).alloc (Qa _) _).alloc (by simp) _).alloc (by simp;omega) _⟩
 ·have:=Qa1 (w.alloc (.cells #[a,b,c,d] 29)) (.cells #[e,f] 115)
  rwa [Qs] at this
 ·have:=Qa1 ((w.alloc (.cells #[a,b,c,d] 29)).alloc (.cells #[e,f] 115)) (.cells #[.int .i64 0,.slice none 0 0] 81)
  rwa [Qs,Qs] at this}
def RdP (s:Rm) (k:Nat) (lv:Int) (w w':Qaw) (e:Ending):Prop:=∃ (u:Qax) (q:Int) (nd:Nd),e=.returned (.tuple #[u,.int .i64 q])/\((Rdn s.1 lv k/\q=0/\nd=reV (Z1 s.1 k))\/(¬ Rdn s.1 lv k/\q=8/\nd=V8))/\Nod (New w.heap.size w') w' u nd/\Qa3 w.heap.size w w'
theorem Zpj (v:Qax) (s:Rm) (k:Nat) (lv:Int) (ha:asE s k=0) (w:Qaw) (h:Sto (Old w) w v s) :
  Qa2 Tryz.prog 131 #[v,.agg #[.int .i64 k,.int .i64 lv]] w fun e w'=>RdP s k lv w w' e:=by{
 obtain⟨A,ca,B,cb,N,cn,L,cl,rfl,_,_,_⟩:=h.open;obtain⟨w1,hw1,f1,f2,f3,hsz,hB⟩:=Yad w (.slice A s.1.1.length ca) (.slice B s.1.2.length cb) (.slice N s.2.1.length cn) (.slice L s.2.2.length cl) (.int .i64 k) (.int .i64 lv);have H:=Za (h.below hB);clear h;obtain⟨k0,k1,k2,k3,_,kg⟩:=Ze f1;obtain⟨j0,j1,_,jg⟩:=Zg f2;obtain⟨k',e',_,_,_,_,_,hE,hV,-⟩:=Y6 ha;have hkk:k'=k:=by omega
 subst hkk;clear e';obtain⟨b,hb⟩:∃ b,Z1 s.1 k'=b:=⟨_,rfl⟩
 rw[hb] at hE hV;obtain⟨q,hq⟩:∃ q,reN b=q:=⟨_,rfl⟩
 obtain⟨nd,hnd⟩:∃ nd,reV b=nd:=⟨_,rfl⟩
 rw[hq] at hE;rw[hnd] at hV;obtain⟨lw,hlw⟩:∃ q,nd.1=q:=⟨_,rfl⟩
 have hR:Hid (Rdn s.1 lv k'↔(q=0/\(lv=6\/lw=lv))):=Za (by unfold Rdn;rw[hb,hq,hnd,hlw]);have hND:Hid (nd=reV (Z1 s.1 k')):=Za (by rw[hb,hnd]);replace hsz:=Za hsz;replace f3:=Za f3;replace hb:=Za hb;replace hq:=Za hq;replace hnd:=Za hnd;replace hE:=Za hE;replace hV:=Za hV;clear f1 ha
 go_enter Tryz.func131,Tryz.ntmps131
 go_upto_region 1 with fail
 clear hw1
 go_wp2_with fail
 with_reducible refine(Zpw _ s (k':Int) _ H.out).mono ?_
 rintro e w2 ⟨u,rfl,hu,hb2⟩;rw[hE.out];rw[hV.out] at hu;obtain⟨P,pc,rfl,_⟩:=id hu.open;rw[hlw];obtain⟨w3,hw3,g3,hs3,hb3⟩:=Yc w2 (.int .i64 lw) (.slice P nd.2.length pc) 81;have F3:=(hb3.block (w.heap.size+2) (by have:=hb2.size;have:=hsz.out;omega)).trans ((hb2.block (w.heap.size+2) (by have:=hsz.out;omega)).trans f3.out);have G2:=(hb3.block (w.heap.size+1) (by have:=hb2.size;have:=hsz.out;omega)).trans ((hb2.block (w.heap.size+1) (by have:=hsz.out;omega)).trans f2);obtain⟨m0,m1,_,_⟩:=Zg g3;obtain⟨n0,n1,_,_⟩:=Zg G2;obtain⟨x0,x1,x2,_⟩:=Zg F3;have B3:=Za (hB.trans ((hb2.trans (hb3.mono hb2.size)).mono hB.size));have U3:=Za (hu.new (Qa _) hb3);have s3:Hid (w.heap.size+3<=w1.heap.size):=Za (by have:=hsz.out;omega);rw[hlw] at U3;clear hu hb2 hb3 hB k0 k1 k2 k3 kg j0 j1 jg f2;replace hs3:=Za hs3;replace g3:=Za g3;replace G2:=Za G2
 go_upto_region 2 with fail
 clear hw3;by_cases hok:q=0/\(lv=6\/lw=lv)
 ·obtain⟨W9,hW9,g9,gr9,gs9⟩:=Xt (u:=.int .i64 lw) (v:=.slice P nd.2.length pc) F3
  obtain⟨o0,o1,_,_⟩:=Zg g9
  have hfin:=Za (show Nod (New w.heap.size W9) W9 (.agg #[.int .i64 lw,.slice P nd.2.length pc]) nd from
   (U3.out.grown gr9 (fun q e=>by cases e;have:=s3.out;omega)).new (by have:=s3.out;omega) (Qb _ _))
  have hB9:=Za (B3.out.grown gr9 B3.out.size (fun q e=>by cases e;omega));have hq0:=hok.1;have hok':=Za hok;subst hq0;replace F3:=Za F3;replace g9:=Za g9;clear gr9 gs9;by_cases h6:lv=6
  ·have c1:(lv != 6)=false:=by simp[h6]
   clear hok h6
   go_wp2_with fail
   refine Qa0 (v:=.tuple #[.agg #[.int .i64 lw,.slice P nd.2.length pc],.int .i64 0]) (by simp[results,Tryz.results131,go_sem,o0,o1]) rfl ?_;exact⟨_,0,nd,rfl,.inl ⟨hR.out.2 hok'.out,rfl,hND.out⟩,hfin.out,hB9.out⟩
  ·have c1:(lv != 6)=true:=by simpa using h6
   have c2:(lw != lv)=false:=by
    rcases hok.2 with h | h
    ·exact absurd h h6
    ·simp[h]
   clear hok
   go_wp2_with fail
   refine Qa0 (v:=.tuple #[.agg #[.int .i64 lw,.slice P nd.2.length pc],.int .i64 0]) (by simp[results,Tryz.results131,go_sem,o0,o1]) rfl ?_;exact⟨_,0,nd,rfl,.inl ⟨hR.out.2 hok'.out,rfl,hND.out⟩,hfin.out,hB9.out⟩
 ·obtain⟨W9,hW9,g9,gr9,gs9⟩:=Xt (u:=.int .i64 0) (v:=.slice none 0 0) F3
  obtain⟨o0,o1,_,_⟩:=Zg g9;have hfin:=Za (Z3m (New w.heap.size W9) W9);have hB9:=Za (B3.out.grown gr9 B3.out.size (fun q e=>by cases e;omega));have hok':=Za hok;replace F3:=Za F3;replace g9:=Za g9;clear gr9 gs9;by_cases hq0:q=0
  ·have c1:(lv != 6)=true:=by
    have:¬ lv=6:=fun h=>hok ⟨hq0,.inl h⟩
    simpa using this
   have c2:(lw != lv)=true:=by
    have:¬ lw=lv:=fun h=>hok ⟨hq0,.inr h⟩
    simpa using this
   clear hok;subst hq0
   go_wp2_with fail
   refine Qa0 (v:=.tuple #[.agg #[.int .i64 0,.slice none 0 0],.int .i64 8]) (by simp[results,Tryz.results131,go_sem,o0,o1]) rfl ?_;exact⟨_,8,V8,rfl,.inr ⟨fun h=>hok'.out (hR.out.1 h),rfl,rfl⟩,hfin.out,hB9.out⟩
  ·have c0:(q != 0)=true:=by simpa using hq0
   clear hok
   go_wp2_with fail
   refine Qa0 (v:=.tuple #[.agg #[.int .i64 0,.slice none 0 0],.int .i64 8]) (by simp[results,Tryz.results131,go_sem,o0,o1]) rfl ?_;exact⟨_,8,V8,rfl,.inr ⟨fun h=>hok'.out (hR.out.1 h),rfl,rfl⟩,hfin.out,hB9.out⟩}
def Off (g:Nat) (w:Qaw):Qay->Prop:=fun p=>p.block<w.heap.size/\p.block≠g
theorem Zju {g:Nat}{W W1:Qaw}{p:Qay}{v:Qax}(gr:W.grownBy W1 (some g)) (hp:Off g W p) (hc:W.cell? p=some v):Off g W1 p/\W1.cell? p=some v :=
 ⟨⟨Qq hp.1 gr.size,hp.2⟩,(Qaq (gr.block _ hp.1 (by simpa using hp.2))).trans hc⟩
theorem Zn3 {g:Nat}{W W1:Qaw}{p:Qay}{v:Qax}(hb:Qa3 W.heap.size W W1) (hp:Off g W p) (hc:W.cell? p=some v):Off g W1 p/\W1.cell? p=some v :=
 ⟨⟨Qq hp.1 hb.size,hp.2⟩,(hb.cell hp.1).trans hc⟩
theorem Zmo {g:Nat}{w W:Qaw}{p:Qay}{v:Qax}(hb:Qa3 w.heap.size w W) (hg:w.heap.size<=g) (hp:Old w p) (hc:w.cell? p=some v):Off g W p/\W.cell? p=some v :=
 ⟨⟨Qq hp hb.size,fun e=>by have h:p.block<w.heap.size:=hp;omega⟩,(hb.cell hp).trans hc⟩
theorem Zl3 {g:Nat}{W:Qaw}{p:Qay}{v:Qax}(hp:Off g W p) (hc:W.cell? p=some v):Old W p/\W.cell? p=some v:=⟨hp.1,hc⟩
theorem Z4q {l:List It}{i:Nat}{x:It}{t:List UInt8}(h:ctE t (l.take i)=0) (hx:l[i]? = some x):ctE t l=ctE (ctV t (l.take i)) (x::l.drop (i+1)):=by
 have hk:=(Qj.1 hx).1;have hg:l[i]=x:=(Qj.1 hx).2;have e:l=l.take i++x::l.drop (i+1):=by rw[<- hg,List.getElem_cons_drop,Qy]
 have:ctE t l=ctE t (l.take i++x::l.drop (i+1)):=by rw[<- e]
 rw[this,Zmu,if_pos h]
theorem Z83 {l:List It}{i:Nat}{x:It}{t:List UInt8}(h:ctE t (l.take i)=0) (hx:l[i]? = some x):ctE t (l.take (i+1))=ctE (ctV t (l.take i)) [x]/\ctV t (l.take (i+1))=ctV (ctV t (l.take i)) [x]:=by
 have hk:=(Qj.1 hx).1;have hg:l[i]=x:=(Qj.1 hx).2;rw[<- Pj hk,Zmu,Zqr,if_pos h,hg];exact⟨rfl,rfl⟩
theorem Zwa {w:Qaw}(a b c d e f:Qax):∃ w1,((w.alloc (.cells #[a,b,c,d] 29)).alloc (.cells #[e,f] 81)).alloc (.cells #[.slice none 0 0,.slice none 0 0,.slice none 0 0,.slice none 0 0] 29)=w1 /\
  w1.heap[w.heap.size]? = some (.cells #[a,b,c,d] 29 (0,0))/\w1.heap[w.heap.size+1]? = some (.cells #[e,f] 81 (0,0))/\w1.heap[w.heap.size+2]? = some (.cells #[.slice none 0 0,.slice none 0 0,.slice none 0 0,.slice none 0 0] 29 (0,0))/\w1.heap.size=w.heap.size+3/\Qa3 w.heap.size w w1:=by{
 refine⟨_,rfl,Y5 (Y5 (Qa1 _ _)),Y5 ?_,?_,by simp,(((Qb _ w).alloc (Qa _) _).alloc (by simp) _).alloc (by simp;omega) _⟩
 ·have:=Qa1 (w.alloc (.cells #[a,b,c,d] 29)) (.cells #[e,f] 81)
  rwa [Qs] at this
 ·have:=Qa1 ((w.alloc (.cells #[a,b,c,d] 29)).alloc (.cells #[e,f] 81)) (.cells #[.slice none 0 0,.slice none 0 0,.slice none 0 0,.slice none 0 0] 29)
  rwa [Qs,Qs] at this}
theorem Z0q {s:Rm}{n:Nd}(hm:Xm s=true) (hn:mayN n=true):(ctE s.2.1 n.2≠0/\mkE s n=ctE s.2.1 n.2/\mkN s n=0/\mkV s n=Zj)\/(ctE s.2.1 n.2=0/\mkE s n=tkE (ctS s n) (Va n)/\mkN s n=tkN (ctS s n) (Va n)/\mkV s n=tkV (ctS s n) (Va n)):=by{
 by_cases hc:ctE s.2.1 n.2=0
 ·have e:mkE s n=tkE (ctS s n) (Va n):=by simp[mkE,hm,hn,hc]
  refine .inr ⟨hc,e,?_,?_⟩
  ·by_cases h:mkE s n=0
   ·rw[mkN,if_pos h]
   ·rw[mkN,if_neg h,(Zvr (by rw[<- e];exact h)).1]
  ·by_cases h:mkE s n=0
   ·rw[mkV,if_pos h]
   ·rw[mkV,if_neg h,(Zvr (by rw[<- e];exact h)).2]
 ·have e:mkE s n=ctE s.2.1 n.2:=by simp[mkE,hm,hn,hc]
  have h:mkE s n≠0:=by rw[e];exact hc
  exact .inl ⟨hc,e,(Zw8 h).1,(Zw8 h).2⟩}
theorem Zru {a b:Qaw}{row:Option Nat}(h:Qa3 a.heap.size a b):a.grownBy b row:=Ul (Xa a row) h
theorem Z0l (g c lo:Nat) (t0:List UInt8) (u:Qax) (n:Nd) (hn:mayN n=true) (hl0:t0.length=256) (w:Qaw) (hown:w.ownsRow lo 5 1 (.slice (some ⟨g,0,none⟩) 256 c) 256 (u8s t0)) (hu:Nod (Off g w) w u n) :
  Qa2 Tryz.prog 81 #[.slice (some ⟨g,0,none⟩) 256 c,u] w fun e w'=>e=.returned (.int .i64 (ctE t0 n.2))/\w.grownBy w' (some g)/\(ctE t0 n.2=0->w'.ownsRow lo 5 1 (.slice (some ⟨g,0,none⟩) 256 c) 256 (u8s (ctV t0 n.2))):=by{
 obtain⟨I,ci,rfl,_,_,_,hI⟩:=hu.open;obtain⟨lw,hlw⟩:∃ q,n.1=q:=⟨_,rfl⟩
 obtain⟨l,hl⟩:∃ q,n.2=q:=⟨_,rfl⟩
 obtain⟨m,hlm⟩:∃ q,l.length=q:=⟨_,rfl⟩
 have hrf:=Za (Vx hn);obtain⟨⟨_,_,s3,_⟩,_⟩:=Zx hn;rw[hl,hlm] at s3 hI;rw[hl] at hrf ⊢;rw[hlw,hlm];have hg0:g<w.heap.size:=((hown.lt g rfl).2)
 obtain⟨w1,hw1,b1,hs1,hB1⟩:=Yc w (.int .i64 lw) (.slice I m ci) 81;have HI:=Za (Y8 _ _ _ _ _ _ (fun _ _ hp hc=>Zn3 (g:=g) hB1 hp hc) hI);have HO:=Za (Zw hown hB1);have GB:=Za (Zru (row:=some g) hB1);obtain⟨p0,p1,_,pg⟩:=Zg b1;have hgs:Hid (g≠w.heap.size):=Za (by omega);have b1h:=Za b1;replace hl0:=Za hl0;replace hl:=Za hl;replace hlw:=Za hlw;replace hlm:=Za hlm;replace hs1:=Za hs1;clear hown hu hI b1 hB1
 go_enter Tryz.func81,Tryz.ntmps81
 go_upto_region 1 with fail
 clear hw1
 go_wp2_with fail
 clear p0 p1
 go_loopw [10] (fun vi wr=>∃ i:Nat,i<=m/\vi=.int .i64 i/\ctE t0 (l.take i)=0/\wr.ownsRow lo 5 1 (.slice (some ⟨g,0,none⟩) 256 c) 256 (u8s (ctV t0 (l.take i)))/\w1.grownBy wr (some g)) (fun vi _=>m-(intOf vi).toNat)
 case atStart=>exact⟨0,by omega,rfl,rfl,HO.out,Xa _ _⟩
 case round =>
  obtain⟨i,hi,rfl,hE,hown,hgr⟩:=hrel;have GF:=Za (Ys GB.out hgr);by_cases hlt:i<m
  case neg =>
   have hlast:Hid (l.take i=l):=Za (Qaj (by rw[hlm.out];omega));have hEl:Hid (ctE t0 l=0):=Za (by rw[<- hE,hlast.out]);rw[hlast.out] at hown;have HO2:=Za hown;clear hown hgr hE
   go_wp2_with fail
   go_ret;exact⟨Zz hEl.out.symm,GF.out,fun _=>HO2.out⟩
  obtain⟨x,hx⟩:∃ x,l[i]? = some x:=⟨_,Qc (by rw[hlm.out];exact hlt)⟩
  have hsp:=Za (Z4q hE hx);have hnx:=Za (Z83 hE hx);have hxr:=hrf.out x (Qt hx);have hIr:=Y8 _ _ _ _ _ _ (fun _ _ hp hc=>Zju (g:=g) hgr hp hc) HI.out;obtain⟨ad5,E5,ce5,rfl,_,⟨z0,z1,z2,z3,z4⟩,_⟩:=Zao hIr hx;clear hIr;obtain⟨w5,hw5,y0,y1,y2,y3,y4,hs5,hB5,_⟩:=Z7 wr (.int .u8 (x.1.1.toNat:Int)) (.int .u32 x.1.2.1) (.int .u32 x.1.2.2) (.int .i64 x.2.1) (.slice E5 x.2.2.length ce5) 54;have hown5:=Zw hown hB5;have hgr5:=Za (Ul hgr (hB5.mono hgr.size));have GF5:=Za (Ys GB.out hgr5.out);replace hs5:=Za hs5;have i4:(0:Int)<=(i:Int):=by omega
  have i5:(i:Int)<(m:Int):=by omega
  obtain⟨z,hzz⟩:∃ z,x.2.1=z:=⟨_,rfl⟩
  have hc1:∀ T,ctE T (x::l.drop (i+1))=if z=0 then ctE T (l.drop (i+1)) else if T[z.toNat]?.getD 0=0 then 6 else if T[z.toNat]?.getD 0=255 then 70 else ctE (T.set z.toNat (T[z.toNat]?.getD 0+1)) (l.drop (i+1)):=fun T=>by rw[<- hzz];rfl
  have hc2:∀ T,ctE T [x]=if z=0 then 0 else if T[z.toNat]?.getD 0=0 then 6 else if T[z.toNat]?.getD 0=255 then 70 else 0:=fun T=>by rw[<- hzz];rfl
  have hc3:∀ T,ctV T [x]=if z=0 then T else T.set z.toNat (T[z.toNat]?.getD 0+1):=fun T=>by rw[<- hzz];rfl
  rw[hzz] at z3 hxr hw5 y3;replace hx:=Za hx;replace hzz:=Za hzz;obtain⟨T,hT⟩:∃ T,ctV t0 (l.take i)=T:=⟨_,rfl⟩
  have hTl:Hid (T.length=256):=Za (by rw[<- hT,Zew,hl0.out]);rw[hT] at hown5 hsp hnx;replace hT:=Za hT;replace hE:=Za hE;clear hown hgr hB5
  go_upto_region 4 with fail
  clear hw5 z0 z1 z2 z3 z4;by_cases hz0:z=0
  ·have hn1:Hid (ctE t0 (l.take (i+1))=0/\ctV t0 (l.take (i+1))=T):=Za ⟨by rw[hnx.out.1,hc2,if_pos hz0],by rw[hnx.out.2,hc3,if_pos hz0]⟩
   subst hz0;have HO:=Za hown5;clear hc1 hc2 hc3 hxr hown5 hE hsp hnx
   go_wp2_with fail
   go_roundw
   case rel=>exact⟨i+1,by omega,by go_num,hn1.out.1,by rw[hn1.out.2];exact HO.out,hgr5.out⟩
   case measure=>simp[intOf];omega
  obtain⟨r,hr,r8,r256⟩:∃ r:Nat,z=r/\8<=r/\r<256:=⟨z.toNat,by omega,by omega,by omega⟩
  rw[hc1,if_neg hz0,show z.toNat=r by omega] at hsp;rw[hc2,hc3,if_neg hz0,if_neg hz0,show z.toNat=r by omega] at hnx;have j3:(z==0)=false:=by simpa using hz0
  subst hr;have hcell:=Zf3 hown5 (j:=r) r256;obtain⟨y,hy⟩:∃ y,T[r]?.getD 0=y:=⟨_,rfl⟩
  rw[hy] at hsp hnx hcell;replace hy:=Za hy;by_cases hy0:y=0
  ·have t1:=Vh (y:=0) (q:=0) rfl hy0
   have hEl:Hid (ctE t0 l=6):=Za (by rw[hsp.out,if_pos hy0]);clear hc1 hc2 hc3 hxr hown5 hE hsp hnx hz0
   go_wp2_with fail
   go_ret;exact⟨Zz hEl.out.symm,GF5.out,fun h=>by rw[hEl.out] at h;cases h⟩
  have t1:=Xs (y:=0) (q:=0) rfl hy0;by_cases hy5:y=255
  ·have t2:=Vh (y:=255) (q:=255) rfl hy5
   have hEl:Hid (ctE t0 l=70):=Za (by rw[hsp.out,if_neg hy0,if_pos hy5]);clear hc1 hc2 hc3 hxr hown5 hE hsp hnx hz0
   go_wp2_with fail
   go_ret;exact⟨Zz hEl.out.symm,GF5.out,fun h=>by rw[hEl.out] at h;cases h⟩
  have t2:=Xs (y:=255) (q:=255) rfl hy5;have hfr:w5.frozen? ⟨g,r,none⟩=false:=hown5.frozenAt r;obtain⟨hu1,hu2,hu3⟩:=Zjo hy5;have hset:=Zrn hown5 r (y+1);have hn1:Hid (ctE t0 (l.take (i+1))=0/\ctV t0 (l.take (i+1))=T.set r (y+1)):=Za ⟨by rw[hnx.out.1,if_neg hy0,if_neg hy5],hnx.out.2⟩;rw[<- hu1] at hset;replace hset:=Za hset;replace hu1:=Za hu1;have hgn:=Za (Yq hgr5.out (p:=⟨g,r,none⟩) rfl (.int .u8 ((y.toNat:Int)+1)));clear hc1 hc2 hc3 hxr hown5 hE hsp hnx hz0
  go_wp2_with fail
  go_roundw
  case rel=>exact⟨i+1,by omega,by go_num,hn1.out.1,by rw[hn1.out.2];exact hset.out,hgn.out⟩
  case measure=>simp[intOf];omega}
end Go.Proofs.YtgmbjnajdfgenaaGreat
namespace Go.Proofs.YtgmbjnajdfgenaaGreat
open Go.RowKit Go.Shelf Go.Maps
attribute [local go_sem] Oper.semAt_some
theorem Zuh:(Tryz.prog.info? 115).map (fun i=>(i.zero,i.size,i.bytes))=some (some (.agg #[.int .i64 0,.int .i64 0]),2,16):=by kernel_rfl
def rfV (l:List Rf):List Qax:=l.flatMap fun x=>[.int .i64 x.1,.int .i64 x.2]
theorem Z6s (l:List Rf):(rfV l).length=l.length*2:=by{
 induction l with
 | nil=>rfl
 | cons x l ih =>
  show (rfV l).length+2=_;rw[ih,Qr];omega}
theorem Zqz (a b:List Rf):rfV (a++b)=rfV a++rfV b:=by simp[rfV]
theorem Z9d (l:List Rf):∀ v∈rfV l,v.oneCell'=true:=by
 intro v hv;simp only[rfV,Qk] at hv;obtain⟨x,_,hx⟩:=hv;simp at hx;rcases hx with rfl | rfl <;> rfl
theorem Z41 (F:Fence) (n:Nat) (hf:F.fn 180) (hro:F.round=none) (hn:1<=n) (l Bs n₀ cap m:Nat) (A:Option Qay) (ad:Qay) (f:Nat->It) (E:Nat->Option Qay) (ca:Nat->Nat) (hm:m<=9223372036854775807) (hA:0<m->A=some ad/\ad.block<n₀) (J Jx:List Nat->Qaw->Prop)
  (hY:∀ (pre:List Nat) (x:Nat) (W:Qaw),J pre W->pre.length<m->YieldAt F (n-1) Tryz.prog l #[.int .i64 (x:Int),.agg #[.int .u8 ((f x).1.1.toNat:Int),.int .u32 (f x).1.2.1,.int .u32 (f x).1.2.2,.int .i64 (f x).2.1,.slice (E x) (f x).2.2.length (ca x)]] W fun e W' =>
   (e=.returned (.bool true)/\J (pre++[x]) W'/\Zfz n₀ Bs W W')\/(e=.returned (.bool false)/\Jx (pre++[x]) W'))
  (W:Qaw) (hBs:W.cell? ⟨Bs,0,none⟩=some (.slice A m cap)) (hc:∀ j,j<m->At5 W (ad.add (j*5)) (f j) (.slice (E j) (f j).2.2.length (ca j))) (h0:J [] W) :
  CallsIn F n Tryz.prog 180 #[.func (.yield l) #[] #[],.pointer (some ⟨Bs,0,none⟩)] W fun e W'=>(∃ v,e=.returned v) /\
   ((∃ ys,ys=V7 m m/\J ys W')\/(∃ pre,(∃ k,k<=m/\pre=V7 m k)/\Jx pre W')):=by{
 refine callsIn_of_wp Tryz.func180 rfl hf ?_ hro;simp only[Tryz.ntmps180,Q6,Qr,Q7,Q8,Q9,Pa,Pb,Pc,Pd,Pe,Qo];have HC:=Za hc;clear hc;replace hA:=Za hA
 gi_wp2
 gi_loopw [3] (fun i wr=>∃ k:Nat,k<=m/\i=.int .i64 ((m:Int)-1-k)/\J (V7 m k) wr/\Qa3 n₀ W wr/\wr.cell? ⟨Bs,0,none⟩=some (.slice A m cap))
  (fun i _=>(intOf i+1).toNat)
 case atStart=>exact⟨0,Nat.zero_le _,by simp,h0,Qb _ _,hBs⟩
 case round =>
  obtain⟨k,hk,rfl,hJs,hnx,hbs⟩:=hrel;by_cases hlt:k<m
  ·obtain⟨rfl,hb⟩:=hA.out (by omega)
   have hx:=HC.out (m-1-k) (by omega);have g1:=(hnx.cell (p:=ad.add ((m-1-k)*5)) (by rw[Zh];exact hb)).trans hx.c0;have g2:=(hnx.cell (p:=⟨(ad.add ((m-1-k)*5)).block,(ad.add ((m-1-k)*5)).off+1,none⟩) (by rw[Zh];exact hb)).trans hx.c1;have g3:=(hnx.cell (p:=⟨(ad.add ((m-1-k)*5)).block,(ad.add ((m-1-k)*5)).off+2,none⟩) (by rw[Zh];exact hb)).trans hx.c2;have g4:=(hnx.cell (p:=⟨(ad.add ((m-1-k)*5)).block,(ad.add ((m-1-k)*5)).off+3,none⟩) (by rw[Zh];exact hb)).trans hx.c3;have g5:=(hnx.cell (p:=⟨(ad.add ((m-1-k)*5)).block,(ad.add ((m-1-k)*5)).off+4,none⟩) (by rw[Zh];exact hb)).trans hx.c4;clear hx;obtain⟨fn,tmps,assign,body,hy,hR⟩:=hY _ (m-1-k) wr hJs (by rw[Xb];exact hlt)
   try dsimp only at hy
   have e1:((m:Int)-1-k).toNat=m-1-k:=by omega
   have e2:((m-1-k:Nat):Int)=(m:Int)-1-k:=by omega
   rw[e2] at hy;clear e2;have hds:=Za (Zea m k);generalize ((f (m-1-k)).1.1.toNat:Int)=q1 at *;generalize (f (m-1-k)).1.2.1=q2 at *;generalize (f (m-1-k)).1.2.2=q3 at *;generalize (f (m-1-k)).2.1=q4 at *;generalize (f (m-1-k)).2.2.length=q5 at *;generalize E (m-1-k)=q6 at *;generalize ca (m-1-k)=q7 at *
   gi_wp2
   refine hR.mono ?_;rintro e W3 (⟨rfl,hJ3,hk3⟩ | ⟨rfl,hJx3⟩)
   ·gi_wp2
    go_roundw
    case rel=>exact⟨k+1,by omega,by go_num,by rw[hds.out];exact hJ3,hnx.trans hk3.1,hk3.2.trans hbs⟩
    case measure=>simp[intOf];omega
   ·gi_wp2
    refine Qa0 (results_none rfl _ _ _) rfl ?_;exact⟨⟨_,rfl⟩,.inr ⟨_,⟨k+1,by omega,hds.out.symm⟩,hJx3⟩⟩
  ·obtain rfl:k=m:=by omega
   gi_wp2
   go_end0
   exact⟨⟨_,rfl⟩,.inl ⟨_,rfl,hJs⟩⟩}
theorem Zom (F:Fence) (n:Nat) (hf:F.fn 160) (hro:F.round=none) (a:Option Qay) (len cap:Nat) (w:Qaw) :
  CallsIn F n Tryz.prog 160 #[.slice a len cap] w fun e w'=>e=.returned (.func (.func 180) #[] #[.pointer (some ⟨w.heap.size,0,none⟩)])/\w'=w.alloc (.cells #[.slice a len cap] 39):=by
 refine callsIn_of_wp Tryz.func160 rfl hf ?_ hro;simp only[Tryz.ntmps160,Q6,Qr,Q7,Q8,Q9,Pa,Pb,Pc,Pd,Pe,Qo]
 gi_wp2
 go_ret;exact⟨rfl,rfl⟩
theorem Zh8 (F:Fence) (n:Nat) (hf:F.fn 180) (hro:F.round=none) (hn:1<=n) (Bs n₀ cap m:Nat) (A:Option Qay) (ad:Qay) (f:Nat->It) (E:Nat->Option Qay) (ca:Nat->Nat) (hm:m<=9223372036854775807) (w:Qaw) (hBs:Bs<w.heap.size) (_hn₀:n₀<=w.heap.size)
  (hc:w.cell? ⟨Bs,0,none⟩=some (.slice A m cap)) (hA:0<m->A=some ad/\ad.block<n₀) (hx:∀ j,j<m->At5 w (ad.add (j*5)) (f j) (.slice (E j) (f j).2.2.length (ca j))) :
  SeqStopsK F n Tryz.prog 180 #[.pointer (some ⟨Bs,0,none⟩)] (fun x:Nat=>#[Value.int .i64 (x:Int),Value.agg #[.int .u8 ((f x).1.1.toNat:Int),.int .u32 (f x).1.2.1,.int .u32 (f x).1.2.2,.int .i64 (f x).2.1,.slice (E x) (f x).2.2.length (ca x)]]) (Zfz n₀ Bs) (fun ys=>ys=V7 m m)
   (fun pre=>∃ k,k<=m/\pre=V7 m k) m w:=fun l J Jx W hW _ _ hY h0=>by
 have hc':=(hW.cell (p:=⟨Bs,0,none⟩) hBs).trans hc;exact Z41 F n hf hro hn l Bs n₀ cap m A ad f E ca hm hA J Jx hY W hc' (fun j hj=>(hx j hj).below hW) h0
theorem Yan {w:Qaw}{A:Option Qay}{n c:Nat}{xs:List It}(h:Zae (Old w) w [.slice A n c] xs) (hn:xs.length=n) :
  ∃ (ad:Qay) (f:Nat->It) (E:Nat->Option Qay) (ca:Nat->Nat),(0<n->A=some ad/\ad.block<w.heap.size)/\(∀ i x,xs[i]? = some x->f i=x)/\∀ i,i<n->At5 w (ad.add (i*5)) (f i) (.slice (E i) (f i).2.2.length (ca i)):=by{
 subst hn;have h2:∀ i,∃ g:It×Option Qay×Nat,∀ x,xs[i]? = some x->g.1=x/\∃ ad,A=some ad/\ad.block<w.heap.size/\At5 w (ad.add (i*5)) x (.slice g.2.1 x.2.2.length g.2.2):=fun i=>by
  cases hx:xs[i]? with
  | none=>exact⟨(((0,0,0),0,[]),none,0),fun x e=>by cases e⟩
  | some x =>
   obtain⟨ad,E,ce,rfl,hok,h5,_⟩:=Zao h hx;exact⟨(x,E,ce),fun y e=>by cases e;exact⟨rfl,ad,rfl,by have:=h5.lt;rwa [Zh] at this,h5⟩⟩
 obtain⟨g,hg⟩:∃ g:Nat->It×Option Qay×Nat,∀ i x,xs[i]? = some x->(g i).1=x/\∃ ad,A=some ad/\ad.block<w.heap.size/\At5 w (ad.add (i*5)) x (.slice (g i).2.1 x.2.2.length (g i).2.2) :=
  ⟨fun i=>Classical.choose (h2 i),fun i=>Classical.choose_spec (h2 i)⟩
 rcases A with _ | ad
 ·refine⟨⟨0,0,none⟩,fun i=>(g i).1,fun i=>(g i).2.1,fun i=>(g i).2.2,fun h0=> ?_,fun i x hi=>(hg i x hi).1,fun i hi=> ?_⟩
  ·obtain⟨_,_,e,_⟩:=hg 0 _ (Qc h0)
   cases e
  ·obtain⟨_,_,e,_⟩:=hg i _ (Qc hi)
   cases e
 ·refine⟨ad,fun i=>(g i).1,fun i=>(g i).2.1,fun i=>(g i).2.2,fun h0=> ?_,fun i x hi=>(hg i x hi).1,fun i hi=> ?_⟩
  ·obtain⟨_,_,e,hb,_⟩:=hg 0 _ (Qc h0)
   cases e;exact⟨rfl,hb⟩
  ·obtain⟨e1,_,e,_,h5⟩:=hg i _ (Qc hi)
   cases e;rw[<- e1] at h5;exact h5}
def Zm3 (lv:Int) (f:Nat->It) (pre:List Nat):List Rf:=Zkb lv (pre.map f)
theorem Z1c {lv:Int}{f:Nat->It}{pre:List Nat}{x:Nat}(h:(f x).2.1=0):Zm3 lv f (pre++[x])=Zm3 lv f pre:=by
 rw[Zm3,Qau,Zuk,Ph,Qav,Zj7 h,Zty,Qap];rfl
theorem Zz5 {lv:Int}{f:Nat->It}{pre:List Nat}{x:Nat}(h:(f x).2.1≠0):Zm3 lv f (pre++[x])=Zm3 lv f pre++[((f x).2.1,lv)]:=by
 rw[Zm3,Qau,Zuk,Ph,Qav,Zid h,Zty];rfl
theorem Z0w {f:Nat->It}{xs:List It}(h:∀ i x,xs[i]? = some x->f i=x):(V7 xs.length xs.length).map f=xs.reverse:=by
 refine Qad (by simp[V7]) fun i h1 h2=> ?_
 have hi:i<xs.length:=by simpa using h2
 simp only[V7,List.map_map,List.getElem_map,List.getElem_range,Function.comp,List.getElem_reverse];exact h _ _ (Qc (by omega))
theorem Z4e (lv:Int) (l:List It):Zkb lv l.reverse=(Zkb lv l).reverse:=by simp[Zkb,List.filter_reverse]
theorem Z26 {lv:Int}{f:Nat->It}{xs:List It}(h:∀ i x,xs[i]? = some x->f i=x):Zm3 lv f (V7 xs.length xs.length)=(Zkb lv xs).reverse:=by
 rw[Zm3,Z0w h,Z4e]
end Go.Proofs.YtgmbjnajdfgenaaGreat
