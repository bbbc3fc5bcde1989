/-
  Lemmas on the program and on the document's answers, gathered: Bnd3, Bnd4, Bnd5, Bnd6. Conditions: those that each lemma states.
-/
import Derived.Test.YtgmbjnajdfgenaaGreatBnd1
import Derived.Test.YtgmbjnajdfgenaaGreatProg
import Derived.Maps.AppendAt
import Derived.RangeFuncBox
import Derived.Sort.QuietIn
import Derived.Sort.CutIn
import Derived.RangeFuncNested
import Derived.Shelf.SlIterI.Keys
import Derived.Shelf.SlIterI.Stops
import Derived.Shelf.SlIterI.Sorted
import Derived.Shelf.SortM.Plain
import Derived.Shelf.SortM.SortNone
import Derived.Maps.OwnSet
import Derived.Maps.OwnIn
import Derived.Stop.RegionWithIn
import Derived.WalkMore
set_option maxRecDepth 100000
set_option maxHeartbeats 16000000
set_option maxRecDepth 100000
set_option maxHeartbeats 16000000
set_option maxRecDepth 100000
set_option maxHeartbeats 16000000
open Array renaming getElem?_eq_some_iff → Qt, replicate_succ → Q5, replicate_zero → Q6, getElem?_modify → Py
open Bool renaming and_eq_true → Qd, or_eq_true → Qag
open Go renaming World → Qax, Value → Qay, Addr → Qaz, TypeId → Qa0, Pl → Qa1, P0 → Qa2, undef → Qa3, Calls → Qa4
open Go.Act renaming put → Qh
open Go.RowKit renaming Below → Qa5
open Go.RowKit.Below renaming refl → Qb, heap_alloc → Pv
open Go.World renaming cell? → Qo, size_alloc → Qr, frozen? → Pw, setCell → Px, cell?_of_block → Qas
open List renaming getElem?_eq_getElem → Qc, mem_cons → Qe, mem_cons_of_mem → Qf, mem_cons_self → Qg, getElem?_eq_some_iff → Qi, mem_flatMap → Qj, mem_filter → Qk, mem_singleton → Ql, getElem?_of_mem → Qm, cons_append → Qn, length_cons → Qp, mem_append → Qq, mem_of_getElem? → Qs, pairwise_cons → Qu, flatMap_cons → Qv, all_eq_true → Qw, take_append_drop → Qx, size_toArray → Qz, length_nil → Q0, push_toArray → Q7, append_toArray → Q8, nil_append → Q9, length_set → Pa, getElem?_drop → Pb, mem_reverse → Pd, mem_map → Pe, mem_append_right → Pf, map_cons → Pg, pairwise_append → Ph, take_append_getElem → Pi, mem_of_mem_take → Pj, getElem?_eq_none → Pk, mem_of_find?_eq_some → Pm, mem_of_getLast? → Pn, length_take → Pp, filter_eq_self → Pq, mem_append_left → Pr, exists_cons_of_ne_nil → Ps, flatMap_append → Pt, length_drop → Pu, length_append → Pz, filter_congr → P1, getLast?_eq_some_getLast → P3, Pairwise → P4, mem_of_mem_drop → P5, length_map → P7, sum_cons → P8, take_succ_cons → P9, take_zero → Qaa, drop_succ_cons → Qab, drop_zero → Qac, find?_append → Qad, find?_cons → Qae, ext_getElem → Qaf, filter_append → Qah, filter_eq_nil_iff → Qai, mem_iff_getElem? → Qaj, reverse_append → Qak, take_of_length_le → Qal, eq_nil_of_length_eq_zero → Qam, nodup_cons → Qan, filter_cons_of_pos → Qao, filter_filter → Qap, drop_eq_getElem_cons → Qaq, append_nil → Qar, ext_getElem? → Qat, getElem?_map → Qau, map_append → Qav, map_nil → Qaw
open Nat renaming le_refl → Qa, lt_of_lt_of_le → Qy, reduceAdd → Q3, reduceSub → Q4, le_trans → Pc, lt_or_ge → Po
noncomputable section
open Go renaming bodyPost_ret → Pl, heap_alloc_new → P0
noncomputable section
namespace Go.Proofs.YtgmbjnajdfgenaaGreat
open Go.ChangeShapes Go.WideShapes Go.RowKit
def Sto (ok:Qaz->Prop) (w:Qax) (v:Qay) (s:Rm):Prop:=∃ a b n l,v=.agg #[a,b,n,l]/\Dsk ok w (.agg #[a,b]) s.1/\rBy ok w [n] s.2.1/\rBy ok w [l] s.2.2
section
variable {ok ok' : Qaz -> Prop} {w w' : Qax} {v : Qay} {s : Rm} {lo lo' : Nat}
theorem Sto.map (hk:∀ p v,ok p->w.cell? p=some v->ok' p/\w'.cell? p=some v) (h:Sto ok w v s):Sto ok' w' v s:=by
 obtain⟨a,b,n,l,e,h1,h2,h3⟩:=h;exact⟨a,b,n,l,e,h1.map hk,Zf _ _ _ _ _ _ hk h2,Zf _ _ _ _ _ _ hk h3⟩
theorem Sto.drop (h:Sto (New lo w) w v s):Sto (Old w) w v s:=h.map fun _ _ hp hc=>⟨hp.2.1,hc⟩
theorem Sto.open (h:Sto ok w v s):∃ A ca B cb N cn L cl,v=.agg #[.slice A s.1.1.length ca,.slice B s.1.2.length cb,.slice N s.2.1.length cn,.slice L s.2.2.length cl]/\Dsk ok w (.agg #[.slice A s.1.1.length ca,.slice B s.1.2.length cb]) s.1 /\
 rBy ok w [.slice N s.2.1.length cn] s.2.1/\rBy ok w [.slice L s.2.2.length cl] s.2.2:=by
 obtain⟨a,b,n,l,rfl,h1,h2,h3⟩:=h;obtain⟨A,ca,B,cb,e,_⟩:=h1.open;cases e;obtain⟨N,cn,rfl,_⟩:=Zt h2;obtain⟨L,cl,rfl,_⟩:=Zt h3;exact⟨A,ca,B,cb,N,cn,L,cl,rfl,h1,h2,h3⟩
theorem Sto.mk {a b n l:Qay} (h1:Dsk ok w (.agg #[a,b]) s.1) (h2:rBy ok w [n] s.2.1) (h3:rBy ok w [l] s.2.2):Sto ok w (.agg #[a,b,n,l]) s:=⟨a,b,n,l,rfl,h1,h2,h3⟩
end
theorem X5 (w:Qax) (a b c d:Qay) (t:Qa0):∃ w1,w.alloc (.cells #[a,b,c,d] t)=w1/\w1.heap[w.heap.size]? = some (.cells #[a,b,c,d] t (0,0))/\w1.heap.size=w.heap.size+1/\Qa5 w.heap.size w w1 :=
 ⟨_,rfl,Qa2 _ _,by simp,(Qb _ _).alloc (Qa _) _⟩
theorem Ze {W:Qax} {g:Nat} {a b c d:Qay} {t:Qa0} (h:W.heap[g]? = some (.cells #[a,b,c,d] t (0,0))):W.cell? ⟨g,0,none⟩=some a/\W.cell? ⟨g,1,none⟩=some b/\W.cell? ⟨g,2,none⟩=some c/\W.cell? ⟨g,3,none⟩=some d/\(∀ o,W.frozen? ⟨g,o,none⟩=false)/\g<W.heap.size :=
 ⟨by simp[Qo,h],by simp[Qo,h],by simp[Qo,h],by simp[Qo,h],fun o=>by simp[Pw,h],(Qt.1 h).1⟩
theorem Zu {W:Qax} {g:Nat} {a b c d a' b' c' d':Qay} {t:Qa0} (h:W.heap[g]? = some (.cells #[a,b,c,d] t (0,0))):∃ W1,(((W.setCell ⟨g,0,none⟩ a').setCell ⟨g,1,none⟩ b').setCell ⟨g,2,none⟩ c').setCell ⟨g,3,none⟩ d'=W1 /\
 W1.heap[g]? = some (.cells #[a',b',c',d'] t (0,0))/\W.grownBy W1 (some g)/\W1.heap.size=W.heap.size :=
 ⟨_,rfl,by simp[Px,Py,h],Yr (p:=⟨g,3,none⟩) (Yr (p:=⟨g,2,none⟩) (Yr (p:=⟨g,1,none⟩) (Yr (p:=⟨g,0,none⟩) (Xc W (some g)) rfl a') rfl b') rfl c') rfl d',by simp⟩
def Z24 (g:Nat) (a b c d:Qay):Qax->Prop:=fun w=>w.cell? ⟨g,0,none⟩=some a/\w.cell? ⟨g,1,none⟩=some b/\w.cell? ⟨g,2,none⟩=some c/\w.cell? ⟨g,3,none⟩=some d/\g<w.heap.size
theorem V5 (g:Nat) (a b c d:Qay):Zf3 (Z24 g a b c d):=fun _ _ h hb=>⟨(hb.cell (p:=⟨g,0,none⟩) h.2.2.2.2).trans h.1,(hb.cell (p:=⟨g,1,none⟩) h.2.2.2.2).trans h.2.1,(hb.cell (p:=⟨g,2,none⟩) h.2.2.2.2).trans h.2.2.1,(hb.cell (p:=⟨g,3,none⟩) h.2.2.2.2).trans h.2.2.2.1,Qy h.2.2.2.2 hb.size⟩
theorem Zd6 {w w1:Qax} {Fs:List (Qax->Prop)} (h:Bag w Fs) (hb:Qa5 w.heap.size w w1) (a b c d:Qay) (t:Qa0):∃ w',w1.alloc (.cells #[a,b,c,d] t)=w'/\Bag w' (Z24 w1.heap.size a b c d::Fs)/\Qa5 w.heap.size w w'/\Qa5 w1.heap.size w1 w'/\w1.heap.size<w'.heap.size:=by
 obtain⟨w2,e2,b2,k4,k5⟩:=X5 w1 a b c d t;obtain⟨k0,k1,k2,k3,_,k6⟩:=Ze b2;exact⟨w2,e2,((h.below hb).below k5).add ⟨k0,k1,k2,k3,k6⟩ (V5 _ _ _ _ _),hb.trans (k5.mono hb.size),k5,by omega⟩
def Zui (v:Qay) (s:Rm):Qax->Prop:=fun w=>Sto (Old w) w v s
theorem Uo (v:Qay) (s:Rm):Zf3 (Zui v s):=fun _ _ h hb=>h.below hb
theorem Zjl (v:Qay) (t:List UInt8) (w:Qax) (h:rBy (Old w) w [v] t):Qa4 Tryz.prog 122 #[v] w fun e w'=>e=.returned (.int .i64 (Z3x t))/\w=w':=by
 obtain⟨A,c,rfl,l1,m1,hb⟩:=Ve (B:=w.heap.size) (fun _ h=>h) h;exact Zay A t.length c t (Za rfl) l1 m1 w hb
theorem Zl5 {w:Qax} {v:Qay} {s:Rm} (h:Sto (Old w) w v s):∃ A ca B cb N cn L cl w1,v=.agg #[.slice A s.1.1.length ca,.slice B s.1.2.length cb,.slice N s.2.1.length cn,.slice L s.2.2.length cl] /\
 w.alloc (.cells #[.slice A s.1.1.length ca,.slice B s.1.2.length cb,.slice N s.2.1.length cn,.slice L s.2.2.length cl] 29)=w1/\w1.heap[w.heap.size]? = some (.cells #[.slice A s.1.1.length ca,.slice B s.1.2.length cb,.slice N s.2.1.length cn,.slice L s.2.2.length cl] 29 (0,0))/\w1.heap.size=w.heap.size+1/\Qa5 w.heap.size w w1 /\
 Hid (Dsk (Old w1) w1 (.agg #[.slice A s.1.1.length ca,.slice B s.1.2.length cb]) s.1)/\Hid (rBy (Old w1) w1 [.slice N s.2.1.length cn] s.2.1)/\Hid (rBy (Old w1) w1 [.slice L s.2.2.length cl] s.2.2):=by
 obtain⟨A,ca,B,cb,N,cn,L,cl,rfl,hd,hN,hL⟩:=h.open;obtain⟨w1,hw1,f,hs,hB⟩:=X5 w (.slice A s.1.1.length ca) (.slice B s.1.2.length cb) (.slice N s.2.1.length cn) (.slice L s.2.2.length cl) 29;exact⟨A,ca,B,cb,N,cn,L,cl,w1,rfl,hw1,f,hs,hB,Za (hd.below hB),Za (Zf.old hN hB),Za (Zf.old hL hB)⟩
theorem Xg (v:Qay) (s:Rm) (w:Qax) (h:Sto (Old w) w v s):Qa4 Tryz.prog 78 #[v] w fun e w'=>e=.returned (.int .i64 (Z44 s))/\Qa5 w.heap.size w w':=by{
obtain⟨A,ca,B,cb,N,cn,L,cl,w1,rfl,hw1,f,hsz,hB,D,NN,LL⟩:=Zl5 h;clear h;obtain⟨k0,k1,k2,k3,_,kg⟩:=Ze f;replace hsz:=Za hsz;cases h1:Zbw s.1 with
| false =>
have hr:Hid (Z44 s=8):=Za (Zec (by simp[Xl,h1]));have e1:=Zew h1
go_enter Tryz.func78,Tryz.ntmps78
go_upto_region 1 with fail
clear hw1
go_wp2_with fail
with_reducible refine(Zcb _ s.1 _ D.out).mono ?_;rintro e w2 ⟨rfl,hb2⟩;rw[e1]
go_wp2_with fail
go_ret;exact⟨Z1 hr.out.symm,hB.trans (hb2.mono hB.size)⟩
| true =>
have e1:=Zzi h1;cases h2:Zbs s.2.1 with
| false =>
 have hr:Hid (Z44 s=8):=Za (Zec (by simp[Xl,h2]));have e2:=Zh4 h2
 go_enter Tryz.func78,Tryz.ntmps78
 go_upto_region 1 with fail
 clear hw1
 go_wp2_with fail
 with_reducible refine(Zcb _ s.1 _ D.out).mono ?_;rintro e w2 ⟨rfl,hb2⟩;rw[e1];replace k2:=(hb2.cell (p:=⟨w.heap.size,2,none⟩) kg).trans k2;have N2:=Za (Zf.old NN.out hb2);replace hb2:=Za (hB.trans (hb2.mono hB.size))
 go_wp2_with fail
 with_reducible refine(Zjl _ s.2.1 _ N2.out).mono ?_;rintro e w3 ⟨rfl,rfl⟩;rw[e2]
 go_wp2_with fail
 go_ret;exact⟨Z1 hr.out.symm,hb2.out⟩
| true =>
 have e2:=Zje h2;obtain⟨q,hq,hr⟩:∃ q,Z3x s.2.2=q/\Hid (Z44 s=q):=⟨_,rfl,Za (by simp[Z44,Z3x,Xl,h1,h2])⟩
 obtain⟨p,hp1,hp2⟩:∃ p,(q != 0)=p/\(p=true->q=8)/\(p=false->q=0):=⟨_,rfl,by
 rw[<- hq];unfold Z3x
 split <;> simp⟩
 go_enter Tryz.func78,Tryz.ntmps78
 go_upto_region 1 with fail
 clear hw1
 go_wp2_with fail
 with_reducible refine(Zcb _ s.1 _ D.out).mono ?_;rintro e w2 ⟨rfl,hb2⟩;rw[e1];replace k2:=(hb2.cell (p:=⟨w.heap.size,2,none⟩) kg).trans k2;replace k3:=(hb2.cell (p:=⟨w.heap.size,3,none⟩) kg).trans k3;have N2:=Za (Zf.old NN.out hb2);have L2:=Za (Zf.old LL.out hb2);replace hb2:=Za (hB.trans (hb2.mono hB.size))
 go_wp2_with fail
 with_reducible refine(Zjl _ s.2.1 _ N2.out).mono ?_;rintro e w3 ⟨rfl,rfl⟩;rw[e2]
 go_wp2_with fail
 with_reducible refine(Zjl _ s.2.2 _ L2.out).mono ?_;rintro e w3 ⟨rfl,rfl⟩;rw[hq];replace hq:=Za hq;cases p with
 | true =>
 have h8:=Za (hp2.1 rfl);clear hp2
 go_wp2_with fail
 go_ret;exact⟨Z1 (by rw[hr.out,h8.out]),hb2.out⟩
 | false =>
 have h0:=Za (hp2.2 rfl);clear hp2
 go_wp2_with fail
 go_ret;exact⟨Z1 (by rw[hr.out,h0.out]),hb2.out⟩}
theorem Zhj (n:Int) (w:Qax):Qa4 Tryz.prog 110 #[.int .i64 n] w fun e w'=>e=.returned (.bool (inT n))/\w=w':=by{
rcases Z8q n with ⟨h,hr⟩ | ⟨h,h2,hr⟩ | ⟨h,h2,hr⟩
all_goals
replace hr:=Za hr
go_enter Tryz.func110,Tryz.ntmps110
go_wp2_with fail
go_ret;exact⟨Ym (by first | exact hr.out.symm | (rw[hr.out];simp;omega)),rfl⟩}
theorem Uh (v:Qay) (s:Rm) (n:Int) (w:Qax) (h:Sto (Old w) w v s):Qa4 Tryz.prog 66 #[v,.int .i64 n] w fun e w'=>e=.returned (.int .i64 (asE s n))/\Qa5 w.heap.size w w':=by{
have H0:=Za h;obtain⟨A,ca,B,cb,N,cn,L,cl,w1,rfl,hw1,f,hsz,hB,_,NN,_⟩:=Zl5 h;have H:=Za (h.below hB);clear h H0;obtain⟨k0,k1,k2,k3,_,kg⟩:=Ze f;replace hsz:=Za hsz;rcases Ziu s n with ⟨hm,he⟩ | ⟨hm,hn,he⟩ | ⟨k,hm,rfl,h8,h256,hx,he⟩ | ⟨k,hm,rfl,h8,h256,hx,he⟩
·replace he:=Za he
have e1:=Zec hm
go_enter Tryz.func66,Tryz.ntmps66
go_upto_region 1 with fail
clear hw1
go_wp2_with fail
with_reducible refine(Xg _ s _ H.out).mono ?_;rintro e w2 ⟨rfl,hb2⟩;rw[e1];replace hb2:=Za (hB.trans (hb2.mono hB.size))
go_wp2_with fail
go_ret;exact⟨Z1 he.out.symm,hb2.out⟩
·replace he:=Za he
have e1:=Zc0 hm;have hi:inT n=false:=by
 cases hi:inT n with
 | false=>rfl
 | true=>obtain⟨k,rfl,h8,h256⟩:=Znj hi;omega
go_enter Tryz.func66,Tryz.ntmps66
go_upto_region 1 with fail
clear hw1
go_wp2_with fail
with_reducible refine(Xg _ s _ H.out).mono ?_;rintro e w2 ⟨rfl,hb2⟩;rw[e1];replace hb2:=Za (hB.trans (hb2.mono hB.size))
go_wp2_with fail
with_reducible refine(Zhj n _).mono ?_;rintro e w3 ⟨rfl,rfl⟩;rw[hi]
go_wp2_with fail
go_ret;exact⟨Z1 he.out.symm,hb2.out⟩
all_goals
replace he:=Za he;have e1:=Zc0 hm;have hi:=Zol h8 h256;have hlen:=Yx (Yf hm).2.1;obtain⟨A',c',e2,l1,m1,hby⟩:=Ve (B:=w1.heap.size) (fun _ h=>h) NN.out;cases e2;obtain⟨ad,rfl,hbk,hc⟩:=hby (by omega)
have hcell:=hc k (by omega);replace hbk:(ad.add k).block<w1.heap.size:=by rw[Zh];exact hbk
obtain⟨x,hx2⟩:∃ x,s.2.1[k]?.getD 0=x:=⟨_,rfl⟩
rw[hx2] at hcell hx;have hlt:k<s.2.1.length:=by omega
first
 | have t0:=Vl (y:=0) (q:=0) rfl hx
 | have t0:=Xt (y:=0) (q:=0) rfl hx
replace hx2:=Za hx2;replace hx:=Za hx;replace hlen:=Za hlen;clear hc hby
go_enter Tryz.func66,Tryz.ntmps66
go_upto_region 1 with fail
clear hw1
go_wp2_with fail
with_reducible refine(Xg _ s _ H.out).mono ?_;rintro e w2 ⟨rfl,hb2⟩;rw[e1];replace k2:=(hb2.cell (p:=⟨w.heap.size,2,none⟩) kg).trans k2;replace hcell:=(hb2.cell hbk).trans hcell;replace hb2:=Za (hB.trans (hb2.mono hB.size))
go_wp2_with fail
with_reducible refine(Zhj (k:Int) _).mono ?_;rintro e w3 ⟨rfl,rfl⟩;rw[hi]
go_wp2_with fail
go_ret;exact⟨Z1 he.out.symm,hb2.out⟩}
end Go.Proofs.YtgmbjnajdfgenaaGreat
namespace Go.Proofs.YtgmbjnajdfgenaaGreat
open Go.RowKit Go.Shelf
attribute [local go_sem] Oper.semAt_some
theorem Zn6 {w:Qax} {s:Rm} {N L:Option Qaz} {cn cl:Nat} (hm:Xl s=true) (hN:rBy (Old w) w [.slice N s.2.1.length cn] s.2.1) (hL:rBy (Old w) w [.slice L s.2.2.length cl] s.2.2) :
 ∃ ad bd,N=some ad/\L=some bd/\s.2.1.length=256/\s.2.2.length=256/\256<=cn/\256<=cl/\ad.block<w.heap.size/\bd.block<w.heap.size/\(∀ j,j<256->w.cell? (ad.add j)=some (.int .u8 ((s.2.1[j]?.getD 0).toNat:Int))/\w.cell? (bd.add j)=some (.int .u8 ((s.2.2[j]?.getD 0).toNat:Int))):=by
 have hl1:=Yx (Yf hm).2.1;have hl2:=Yx (Yf hm).2.2;obtain⟨N',cn',e1,l1,_,hb1⟩:=Ve (B:=w.heap.size) (fun _ h=>h) hN;obtain⟨L',cl',e2,l2,_,hb2⟩:=Ve (B:=w.heap.size) (fun _ h=>h) hL;cases e1;cases e2;obtain⟨ad,rfl,h1,h2⟩:=hb1 (by omega);obtain⟨bd,rfl,h3,h4⟩:=hb2 (by omega);exact⟨ad,bd,rfl,rfl,hl1,hl2,by omega,by omega,h1,h3,fun j hj=>⟨h2 j (by omega),h4 j (by omega)⟩⟩
def rmE (s:Rm) (n:Int):Int:=if asE s n=0 then reN (Zz s.1 n.toNat) else asE s n
def rmV (s:Rm) (n:Int):Nd:=if asE s n=0 then reV (Zz s.1 n.toNat) else Ug
theorem Z1s {s:Rm} {n:Int} (h:asE s n≠0):rmE s n=asE s n/\rmV s n=Ug:=⟨by rw[rmE,if_neg h],by rw[rmV,if_neg h]⟩
theorem Y5 {s:Rm} {n:Int} (h:asE s n=0):∃ k:Nat,n=k/\Xl s=true/\8<=k/\k<256/\Uu s.1 n=0/\rdX s.1 n=Zz s.1 k/\rmE s n=reN (Zz s.1 k)/\rmV s n=reV (Zz s.1 k)/\s.2.1[k]?.getD 0≠0:=by{
rcases Ziu s n with ⟨_,e⟩ | ⟨_,_,e⟩ | ⟨k,_,_,_,_,_,e⟩ | ⟨k,hm,rfl,h8,h256,hx,e⟩
·rw[e] at h;cases h
·rw[e] at h;cases h
·rw[e] at h;cases h
·have hmd:=(Yf hm).1
have ht:=Zfg h256;exact⟨k,rfl,hm,h8,h256,by simp[Uu,hmd,ht],by simp[rdX,Uu,hmd,ht],by rw[rmE,if_pos h];rfl,by rw[rmV,if_pos h];rfl,hx⟩}
theorem Zcg (v:Qay) (s:Rm) (n:Int) (w:Qax) (h:Sto (Old w) w v s) :
 Qa4 Tryz.prog 36 #[v,.int .i64 n] w fun e w'=>∃ u,e=.returned (.tuple #[u,.int .i64 (rmE s n)])/\Zke w.heap.size w' u (rmV s n)/\Qa5 w.heap.size w w':=by
 obtain⟨A,ca,B,cb,N,cn,L,cl,rfl,_,_,_⟩:=h.open;obtain⟨w1,hw1,f1,f2,hsz,hB⟩:∃ w1,(w.alloc (.cells #[.slice A s.1.1.length ca,.slice B s.1.2.length cb,.slice N s.2.1.length cn,.slice L s.2.2.length cl] 29)).alloc (.cells #[.int .i64 0,.slice none 0 0] 81)=w1 /\
 w1.heap[w.heap.size]? = some (.cells #[.slice A s.1.1.length ca,.slice B s.1.2.length cb,.slice N s.2.1.length cn,.slice L s.2.2.length cl] 29 (0,0))/\w1.heap[w.heap.size+1]? = some (.cells #[.int .i64 0,.slice none 0 0] 81 (0,0))/\w1.heap.size=w.heap.size+2/\Qa5 w.heap.size w w1:=by
 refine⟨_,rfl,Y8 (Qa2 _ _),?_,by simp,((Qb _ w).alloc (Qa _) _).alloc (by simp) _⟩;have:=Qa2 (w.alloc (.cells #[.slice A s.1.1.length ca,.slice B s.1.2.length cb,.slice N s.2.1.length cn,.slice L s.2.2.length cl] 29)) (.cells #[.int .i64 0,.slice none 0 0] 81)
 rwa [Qr] at this
 have H:=Za (h.below hB);clear h;obtain⟨k0,k1,k2,k3,_,kg⟩:=Ze f1;replace hsz:=Za hsz;replace f2:=Za f2;obtain⟨q,hq⟩:∃ q,rmE s n=q:=⟨_,rfl⟩
 by_cases ha:asE s n=0
 ·obtain⟨k,rfl,hm,h8,h256,hck,hrd,hE,hV,-⟩:=Y5 ha
 obtain⟨b,hb⟩:∃ b,Zz s.1 k=b:=⟨_,rfl⟩
 rw[hb] at hrd hE hV;rw[hE] at hq;replace hE:Hid (rmE s (k:Int)=q):=Za (by rw[hE,hq]);replace hq:=Za hq;replace ha:=Za ha;replace hck:=Za hck;replace hrd:=Za hrd;replace hV:=Za hV;replace hb:=Za hb
 go_enter Tryz.func36,Tryz.ntmps36
 go_upto_region 1 with fail
 clear hw1
 go_wp2_with fail
 with_reducible refine(Uh _ s (k:Int) _ H.out).mono ?_;rintro e w2 ⟨rfl,hb2⟩;rw[ha.out];have G2:=(hb2.block w.heap.size kg).trans f1;obtain⟨m0,m1,m2,m3,_,mg⟩:=Ze G2;have F2:=Za ((hb2.block (w.heap.size+1) (by rw[hsz.out];omega)).trans f2.out);have H2:=Za (H.out.below hb2);have s2:Hid (w.heap.size+2<=w2.heap.size):=Za (by have:=hb2.size;have:=hsz.out;omega);replace hb2:=Za (hB.trans (hb2.mono hB.size));clear k0 k1 k2 k3 kg f1 hB G2
 go_wp2_with fail
 with_reducible refine(Z5a _ s.1 (k:Int) _ H2.out.parts.1).mono ?_;rintro e w3 ⟨u3,rfl,h3,hb3⟩;rw[hck.out];rw[hrd.out] at h3;obtain⟨R,rc,rfl,_⟩:=id (Zt h3);have F3:=Za ((hb3.block (w.heap.size+1) (by have:=s2.out;omega)).trans F2.out);have B3:=Za (hb2.out.trans (hb3.mono hb2.out.size));have s3:Hid (w.heap.size+2<=w3.heap.size):=Za (by have:=hb3.size;have:=s2.out;omega);have H3:=Za (Zf.drop h3);clear hb3 h3 m0 m1 m2 m3 mg F2
 go_wp2_with fail
 with_reducible refine(Zon _ b _ H3.out).mono ?_;rintro e w4 ⟨u4,rfl,h4,hb4⟩;rw[hq.out];obtain⟨P,pc,rfl,_⟩:=id h4;have F4:=(hb4.block (w.heap.size+1) (by have:=s3.out;omega)).trans F3.out;obtain⟨m0,m1,m2,m3⟩:=Zg F4;obtain⟨W9,hW9,g9,gr9,gs9⟩:=Xs (u:=.int .i64 (reV b).1) (v:=.slice P (reV b).2.length pc) F4;obtain⟨n0,n1,_,_⟩:=Zg g9;have r3:=s3.out;have l3:=B3.out.size
 have hfin:=Za (show Zke w.heap.size W9 (.agg #[.int .i64 (reV b).1,.slice P (reV b).2.length pc]) (rmV s (k:Int)) from by
 rw[hV.out]
 exact(h4.grown gr9 (fun q e=>by cases e;omega)).new l3 (Qb _ _))
 have hB9:=Za ((B3.out.trans (hb4.mono B3.out.size)).grown gr9 (Pc l3 hb4.size) (fun q e=>by cases e;omega));replace F4:=Za F4;replace g9:=Za g9;clear gr9 gs9 h4 hb4 r3 l3
 go_wp2_with fail
 refine Qa1 (v:=.tuple #[.agg #[.int .i64 (reV b).1,.slice P (reV b).2.length pc],.int .i64 q]) (by simp[results,Tryz.results36,go_sem,n0,n1]) rfl ?_;rw[hE.out];exact⟨_,rfl,hfin.out,hB9.out⟩
 ·obtain⟨hE,hV⟩:=Z1s ha
 rw[hE] at hq;have hq1:(q != 0)=true:=by rw[<- hq];simpa using ha
 have hq2:Hid (asE s n=q):=Za hq;replace hq:Hid (rmE s n=q):=Za (by rw[hE];exact hq);replace hV:=Za hV;clear ha hE
 go_enter Tryz.func36,Tryz.ntmps36
 go_upto_region 1 with fail
 clear hw1
 go_wp2_with fail
 with_reducible refine(Uh _ s n _ H.out).mono ?_;rintro e w2 ⟨rfl,hb2⟩;rw[hq2.out];have F2:=(hb2.block (w.heap.size+1) (by rw[hsz.out];omega)).trans f2.out;replace hb2:=Za (hB.trans (hb2.mono hB.size));obtain⟨m0,m1,m2,m3⟩:=Zg F2;obtain⟨W9,hW9,g9,gr9,gs9⟩:=Xs (u:=.int .i64 0) (v:=.slice none 0 0) F2;obtain⟨n0,n1,_,_⟩:=Zg g9;have hB9:=Za ((hb2).out.grown gr9 (hb2).out.size (fun q e=>by cases e;omega));replace g9:=Za g9;replace F2:=Za F2;clear gr9 gs9
 go_wp2_with fail
 refine Qa1 (v:=.tuple #[.agg #[.int .i64 0,.slice none 0 0],.int .i64 q]) (by simp[results,Tryz.results36,go_sem,n0,n1]) rfl ?_;rw[hV.out,hq.out];exact⟨_,rfl,Zke.zero _ _,hB9.out⟩
theorem Zof (v:Qay) (s:Rm) (n:Int) (w:Qax) (h:Sto (Old w) w v s) :
 Qa4 Tryz.prog 36 #[v,.int .i64 n] w fun e w'=>∃ u,e=.returned (.tuple #[u,.int .i64 (rmE s n)])/\Nod (New w.heap.size w') w' u (rmV s n)/\Qa5 w.heap.size w w' :=
 (Zcg v s n w h).mono fun _ _ ⟨u,e1,h1,h2⟩=>⟨u,e1,h1.nod,h2⟩
def Zbm:Ky:=(0,0,0)
def Yw (s:Rm) (l:List It):Bool:=l.all fun x=>decide (x.2.1=0)||decide (s.2.1[x.2.1.toNat]?.getD 0≠0)
def Zae (f:Int->Ky->Ky->Bool->Bool):List It->Ky->Bool->Bool
 | [],_,_=>true
 | [x],tb,ends=>f x.2.1 x.1 tb ends
 | x::y::r,tb,ends=>f x.2.1 x.1 y.1 true&&Zae f (y::r) tb ends
def Zex (l:List It) (k tb:Ky) (ends:Bool):Bool:=(match l[0]? with | none=>false | some x=>decide (x.1=k))&&(!ends||(match l.getLast? with | none=>false | some y=>Zo y.1 tb))
def Zx (s:Rm):Nat->Int->Ky->Ky->Bool->Bool
 | 0,a,k,tb,ends=>(decide (rmE s a=0)&&decide ((rmV s a).1=0))&&(Zex (rmV s a).2 k tb ends&&Yw s (rmV s a).2)
 | l+1,a,k,tb,ends=>(decide (rmE s a=0)&&decide ((rmV s a).1=((l+1:Nat):Int)))&&(Zex (rmV s a).2 k tb ends&&Zae (Zx s l) (rmV s a).2 tb ends)
def Uk (s:Rm) (n:Nd) (tb:Ky) (ends:Bool):Bool:=match n.1.toNat with
 | 0=>Yw s n.2
 | l+1=>Zae (Zx s l) n.2 tb ends
def Ys (s:Rm) (a:Int):Bool:=decide (rmE s a=0)&&Uk s (rmV s a) Zbm false
def ckE (s:Rm) (a:Int):Int:=if asE s a=0 then (if Ys s a then 0 else 8) else asE s a
def ckH (s:Rm) (a:Int):Int:=if ckE s a=0 then (rmV s a).1+1 else 0
def X7 (s:Rm):Nat->Int->List It
 | 0,a=>(rmV s a).2
 | l+1,a=>(rmV s a).2.flatMap fun x=>X7 s l x.2.1
def Zc7 (s:Rm):Nat->Int->Ky->Option It
 | 0,a,k=>(rmV s a).2.reverse.find? fun x=>decide (x.1=k)
 | l+1,a,k=>((rmV s a).2.reverse.find? fun x => !Zo k x.1).bind fun x=>Zc7 s l x.2.1 k
def Zbl (s:Rm) (a:Int):List It:=X7 s (rmV s a).1.toNat a
def Zga (s:Rm) (a:Int) (k:Ky):Option It:=Zc7 s (rmV s a).1.toNat a k
def Up (l:List It):Prop:=l.Pairwise fun x y=>Zo x.1 y.1=true
theorem Ya {s:Rm} {a:Int} (h:rmE s a=0):Yd (rmV s a)=true/\asE s a=0:=by{
by_cases ha:asE s a=0
·obtain⟨k,_,_,_,_,_,_,hE,hV,_⟩:=Y5 ha
rw[hE] at h;rw[hV];exact⟨(Zfx h).1,ha⟩
·rw[(Z1s ha).1] at h
exact absurd h ha}
theorem Uj {n:Nd} (h:Yd n=true):Up n.2:=by
 rw[Up,List.pairwise_iff_getElem];intro i j hi hj hij;exact Zaz h hij (Qc hi) (Qc hj)
theorem Zc2 {x:It} {l:List It} (h:Up (x::l)):∀ y∈x::l,y.1=x.1\/Zo x.1 y.1=true:=fun y hy=>by
 rcases Qe.1 hy with rfl | hy
 ·exact .inl rfl
 ·exact .inr ((Qu.1 h).1 y hy)
theorem Zro {l:List It} {z:It} {tb:Ky} (h:Up l) (hl:l.getLast? = some z) (hz:Zo z.1 tb=true):∀ y∈l,Zo y.1 tb=true:=fun y hy=>by
 obtain⟨r,rfl⟩:=List.getLast?_eq_some_iff.1 hl;rcases Qq.1 hy with hy | hy
 ·exact Yo ((Ph.1 h).2.2 y hy z (by simp)) hz
 ·rw[Ql.1 hy]
 exact hz
theorem Za5 {l:List It} {k tb:Ky} {ends:Bool} (h:Zex l k tb ends=true):∃ x r,l=x::r/\x.1=k/\(ends=true->∃ z,l.getLast? = some z/\Zo z.1 tb=true):=by{
unfold Zex at h;rw[Qd] at h;obtain⟨h1,h2⟩:=h;cases l with
| nil=>simp at h1
| cons x r =>
refine⟨x,r,rfl,by simpa using h1,fun he => ?_⟩;rw[he] at h2;cases hz:(x::r).getLast? with
| none=>rw[hz] at h2;simp at h2
| some z=>rw[hz] at h2;exact⟨z,rfl,by simpa using h2⟩}
structure Z78 (M:List It) (k tb:Ky) (ends:Bool) (N:Nat):Prop where
 first:∃ x r,M=x::r/\x.1=k
 up:Up M
 bound:ends=true->∀ y∈M,Zo y.1 tb=true
 few:M.length<=N
theorem Zao {f:Int->Ky->Ky->Bool->Bool} {g:Int->List It} {N:Nat} (hf:∀ a k tb ends,f a k tb ends=true->Z78 (g a) k tb ends N):∀ (L:List It) (tb:Ky) (ends:Bool),L≠[]->Zae f L tb ends=true ->
 ∃ x r,L=x::r/\Z78 (L.flatMap fun x=>g x.2.1) x.1 tb ends (N*L.length)
 | [],_,_,h,_=>absurd rfl h
 | [x],tb,ends,_,h=>by
 refine⟨x,[],rfl,?_⟩;have:=hf _ _ _ _ h
 simpa using this
 | x::y::r,tb,ends,_,h=>by
 refine⟨x,y::r,rfl,?_⟩;unfold Zae at h;rw[Qd] at h;have hx:=hf _ _ _ _ h.1;obtain⟨y',r',e,hy⟩:=Zao hf (y::r) tb ends (by simp) h.2;cases e;have e2:(x::y::r).flatMap (fun x=>g x.2.1)=g x.2.1++(y::r).flatMap fun x=>g x.2.1:=Qv
 rw[e2];have hb:=hx.bound rfl;have hlt:∀ p∈g x.2.1,∀ q∈(y::r).flatMap (fun x=>g x.2.1),Zo p.1 q.1=true:=fun p hp q hq=>by
 rcases hy.ge q hq with e | e
 ·rw[e];exact hb p hp
 ·exact Yo (hb p hp) e
 refine⟨?_,?_,fun he p hp => ?_,?_⟩
 ·obtain⟨z,q,ez,kz⟩:=hx.first
 exact⟨z,_,by rw[ez];rfl,kz⟩
 ·exact Ph.2 ⟨hx.up,hy.up,hlt⟩
 ·rcases Qq.1 hp with hp | hp
 ·obtain⟨z,q,ez,kz⟩:=hy.first
 have hz:=hlt p hp z (by rw[ez];simp);exact Yo hz (hy.bound he z (by rw[ez];simp))
 ·exact hy.bound he p hp
 ·have h1:=hx.few
 have h2:=hy.few;rw[Pz];have e3:N*(x::y::r).length=N+N*(y::r).length:=by rw[Qp,Nat.mul_succ,Nat.add_comm]
 omega
theorem Z9 {s:Rm} {l:Nat} {a:Int} {k tb:Ky} {ends:Bool} (h:Zx s l a k tb ends=true):rmE s a=0/\(rmV s a).1=l/\Zex (rmV s a).2 k tb ends=true/\(match l with | 0=>Yw s (rmV s a).2 | l'+1=>Zae (Zx s l') (rmV s a).2 tb ends)=true:=by{
cases l with
| zero =>
simp only[Zx,Qd,decide_eq_true_eq] at h;exact⟨h.1.1,h.1.2,h.2.1,h.2.2⟩
| succ l =>
simp only[Zx,Qd,decide_eq_true_eq] at h;exact⟨h.1.1,h.1.2,h.2.1,h.2.2⟩}
theorem Y2 (s:Rm):∀ (l:Nat) (a:Int) (k tb:Ky) (ends:Bool),Zx s l a k tb ends=true->Z78 (X7 s l a) k tb ends (5 ^ (l+1))
 | 0,a,k,tb,ends,h=>by
 obtain⟨h1,h2,h3,h4⟩:=Z9 h;obtain⟨hm,_⟩:=Ya h1;obtain⟨x,r,e,ek,hz⟩:=Za5 h3;refine⟨⟨x,r,e,ek⟩,Uj hm,fun he => ?_,?_⟩
 ·obtain⟨z,e1,e2⟩:=hz he
 exact Zro (Uj hm) e1 e2
 ·exact(Zw hm).1.2.2.1
 | l+1,a,k,tb,ends,h=>by
 obtain⟨h1,h2,h3,h4⟩:=Z9 h;obtain⟨hm,_⟩:=Ya h1;obtain⟨x,r,e,ek,hz⟩:=Za5 h3;obtain⟨x',r',e',hp⟩:=Zao (Y2 s l) (rmV s a).2 tb ends (by rw[e];simp) h4;rw[e] at e';cases e';rw[ek] at hp;refine⟨hp.first,hp.up,hp.bound,Pc hp.few ?_⟩;have h5:=(Zw hm).1.2.2.1;rw[Nat.pow_succ 5 (l+1)];exact Nat.mul_le_mul_left _ h5
theorem Ztz {p:It->Bool} (x:It) (l:List It):(x::l).reverse.find? p=match l.reverse.find? p with | some y=>some y | none=>if p x then some x else none:=by{
rw[List.reverse_cons,Qad];cases l.reverse.find? p with
| some y=>rfl
| none =>
simp only[Option.none_or,Qae,List.find?_nil];cases p x <;> rfl}
theorem Zdu {p:It->Bool} {l:List It} (h:∀ x∈l,p x=false):l.reverse.find? p=none:=by
 rw[List.find?_eq_none];intro x hx;rw[h x (Pd.1 hx)];simp
theorem Zms {f:Int->Ky->Ky->Bool->Bool} {g:Int->List It} {N:Nat} (hf:∀ a k tb ends,f a k tb ends=true->Z78 (g a) k tb ends N):∀ (L:List It) (tb:Ky) (ends:Bool),Up L->Zae f L tb ends=true->∀ x∈L.flatMap (fun x=>g x.2.1),
 ∃ y∈L,x∈g y.2.1/\(L.reverse.find? fun z => !Zo x.1 z.1)=some y/\∃ t e,f y.2.1 y.1 t e=true
 | [],_,_,_,_,x,hx=>by simp at hx
 | [y],tb,ends,_,h,x,hx=>by
 have hx':x∈g y.2.1:=by simpa using hx
 refine⟨y,by simp,hx',?_,tb,ends,h⟩;have hp:=hf _ _ _ _ h;have:Zo x.1 y.1=false:=by
 rcases hp.ge x hx' with e | e
 ·rw[e];exact Xi _
 ·exact Vt e
 simp[this]
 | y::z::r,tb,ends,hu,h,x,hx=>by
 unfold Zae at h;rw[Qd] at h;have hy:=hf _ _ _ _ h.1;have e2:(y::z::r).flatMap (fun x=>g x.2.1)=g y.2.1++(z::r).flatMap fun x=>g x.2.1:=Qv
 rw[e2] at hx;rw[Ztz];rcases Qq.1 hx with hx | hx
 ·have hb:=hy.bound rfl x hx
 have hge:Zo x.1 y.1=false:=by
 rcases hy.ge x hx with e | e
 ·rw[e];exact Xi _
 ·exact Vt e
 have hno:(z::r).reverse.find? (fun w => !Zo x.1 w.1)=none:=Zdu fun w hw=>by
 rcases Zc2 (Qu.1 hu).2 w hw with e | e
 ·rw[e,hb];rfl
 ·rw[Yo hb e];rfl
 refine⟨y,by simp,hx,?_,_,_,h.1⟩;rw[hno];simp[hge]
 ·obtain⟨w,hw,h1,h2,h3⟩:=Zms hf (z::r) tb ends (Qu.1 hu).2 h.2 x hx
 exact⟨w,Qf _ hw,h1,by rw[h2],h3⟩
theorem Zk3 {l:List It} (hu:Up l) {x:It} (hx:x∈l):(l.reverse.find? fun y=>decide (y.1=x.1))=some x:=by{
induction l with
| nil=>simp at hx
| cons y r ih =>
rw[Ztz];rcases Qe.1 hx with rfl | hx
·have hno:r.reverse.find? (fun y=>decide (y.1=x.1))=none:=Zdu fun z hz=>by
 have h1:=(Qu.1 hu).1 z hz;have:z.1≠x.1:=fun e=>by rw[e,Xi] at h1;cases h1
 simpa using this
 rw[hno];simp
·rw[ih (Qu.1 hu).2 hx]}
theorem Zjf (s:Rm):∀ (l:Nat) (a:Int) (k tb:Ky) (ends:Bool),Zx s l a k tb ends=true->∀ x∈X7 s l a,Zc7 s l a x.1=some x
 | 0,a,k,tb,ends,h,x,hx=>Zk3 (Uj (Ya (Z9 h).1).1) hx
 | l+1,a,k,tb,ends,h,x,hx=>by
 obtain⟨h1,h2,h3,h4⟩:=Z9 h;obtain⟨y,hy,h5,h6,t,e,h7⟩:=Zms (Y2 s l) (rmV s a).2 tb ends (Uj (Ya h1).1) h4 x hx;unfold Zc7;rw[h6];exact Zjf s l y.2.1 y.1 t e h7 x h5
theorem Y4 {s:Rm} {a:Int} (h:Ys s a=true):rmE s a=0/\asE s a=0/\Yd (rmV s a)=true/\0<=(rmV s a).1/\(rmV s a).1<6/\Uk s (rmV s a) Zbm false=true:=by
 simp only[Ys,Qd,decide_eq_true_eq] at h;obtain⟨hm,ha⟩:=Ya h.1;exact⟨h.1,ha,hm,(Zw hm).1.1,(Zw hm).1.2.1,h.2⟩
theorem Zl2 {s:Rm} {a:Int} (h:Ys s a=true):Up (Zbl s a)/\(Zbl s a).length<=15625/\(∀ x∈Zbl s a,Zga s a x.1=some x):=by{
obtain⟨h1,_,hm,l0,l6,hi⟩:=Y4 h;unfold Zbl Zga;unfold Uk at hi;have hl:(rmV s a).1.toNat<=5:=by omega
generalize hl0:(rmV s a).1.toNat=l at hi hl ⊢;cases l with
| zero =>
refine⟨Uj hm,Pc (Zw hm).1.2.2.1 (by decide),fun x hx=>Zk3 (Uj hm) hx⟩
| succ l =>
have hne:(rmV s a).2≠[]:=fun e=>by
 have:=(Zw hm).1.2.2.2 (by omega);rw[e] at this;simp at this
obtain⟨x,r,e,hp⟩:=Zao (Y2 s l) (rmV s a).2 Zbm false hne hi;refine⟨hp.up,Pc hp.few ?_,fun x hx => ?_⟩
·have h5:=(Zw hm).1.2.2.1
 have hpw:5 ^ (l+1)<=5 ^ 5:=Nat.pow_le_pow_right (by decide) (by omega);have:=Nat.mul_le_mul hpw h5;omega
·obtain⟨y,hy,h5,h6,t,e,h7⟩:=Zms (Y2 s l) (rmV s a).2 Zbm false (Uj hm) hi x hx
 unfold Zc7;rw[h6];exact Zjf s l y.2.1 y.1 t e h7 x h5}
theorem Zn7 {s:Rm} {l:List It} {i:Nat} {x:It} (hx:l[i]? = some x):Yw s (l.take (i+1))=(Yw s (l.take i)&&(decide (x.2.1=0)||decide (s.2.1[x.2.1.toNat]?.getD 0≠0))):=by
 have hk:=(Qi.1 hx).1;have hg:l[i]=x:=(Qi.1 hx).2;rw[<- Pi hk,hg];simp[Yw]
theorem Z3l {s:Rm} {l:List It} {i:Nat} (h:Yw s (l.take i)=false):Yw s l=false:=by{
cases e:Yw s l with
| false=>rfl
| true =>
unfold Yw at e h;rw[Qw] at e;rw[<- h]
symm
rw[Qw];exact fun x hx=>e x (Pj hx)}
def nxO (r:List It) (tb:Ky):Ky:=match r with | []=>tb | y::_=>y.1
def bxO (r:List It) (ends:Bool):Bool:=match r with | []=>ends | _::_=>true
theorem Xx (f:Int->Ky->Ky->Bool->Bool) (x:It) (r:List It) (tb:Ky) (ends:Bool):Zae f (x::r) tb ends=(f x.2.1 x.1 (nxO r tb) (bxO r ends)&&Zae f r tb ends):=by
 cases r with
 | nil=>simp[Zae,nxO,bxO]
 | cons y r=>rfl
def Xf:List It->Nat->Nat
 | [],_=>0
 | x::l,i=>(if x.2.1=(i:Int) then (if x.2.1=0 then 0 else 1) else 0)+Xf l i
def Zba (l:List It):Prop:=∀ x∈l,x.2.1=0\/(8<=x.2.1/\x.2.1<256)
theorem Vz {n:Nd} (h:Yd n=true):Zba n.2:=fun x hx=>by
 obtain⟨i,hi⟩:=Qm hx;have hk:=(Qi.1 hi).1;simp only[Yd,Qd,Qw] at h;have h1:=h.2 i (by simpa using hk);simp only[Zkh,hi,okP,Qd] at h1;exact(Zaj h1.1.1).1
def ctE:List UInt8->List It->Int
 | _,[]=>0
 | t,x::l=>if x.2.1=0 then ctE t l else if t[x.2.1.toNat]?.getD 0=0 then 6 else if t[x.2.1.toNat]?.getD 0=255 then 70 else ctE (t.set x.2.1.toNat (t[x.2.1.toNat]?.getD 0+1)) l
def ctV:List UInt8->List It->List UInt8
 | t,[]=>t
 | t,x::l=>if x.2.1=0 then ctV t l else ctV (t.set x.2.1.toNat (t[x.2.1.toNat]?.getD 0+1)) l
def ctS (s:Rm) (n:Nd):Rm:=(s.1,ctV s.2.1 n.2,s.2.2)
def mkE (s:Rm) (n:Nd):Int:=if Xl s&&Yd n then (if ctE s.2.1 n.2=0 then tkE (ctS s n) (Vd n) else ctE s.2.1 n.2) else 8
def mkN (s:Rm) (n:Nd):Int:=if mkE s n=0 then tkN (ctS s n) (Vd n) else 0
def mkV (s:Rm) (n:Nd):Rm:=if mkE s n=0 then tkV (ctS s n) (Vd n) else Zi
theorem Z0n {s:Rm} {n:Nd} (h:mkE s n≠0):mkN s n=0/\mkV s n=Zi:=⟨by rw[mkN,if_neg h],by rw[mkV,if_neg h]⟩
def dnO (t:List UInt8) (a:Nat):Option (List UInt8):=if t[a]?.getD 0=0 then none else some (t.set a (t[a]?.getD 0-1))
def Vc (f:List UInt8->Nat->Option (List UInt8)):List UInt8->List It->Option (List UInt8)
 | t,[]=>some t
 | t,x::l=>if x.2.1=0 then Vc f t l else (f t x.2.1.toNat).bind fun t'=>Vc f t' l
def lvS (d:Dk) (l:Nat) (f:List UInt8->Nat->Option (List UInt8)) (t:List UInt8) (a:Nat):Option (List UInt8) :=
 (dnO t a).bind fun t'=>if 1<(t[a]?.getD 0).toNat then some t' else if reN (Zz d a)=0/\(reV (Zz d a)).1=(l:Int) then Vc f t' (reV (Zz d a)).2 else none
def lvF (d:Dk):Nat->List UInt8->Nat->Option (List UInt8)
 | 0=>dnO
 | l+1=>lvS d l (lvF d l)
def lfO (d:Dk) (t:List UInt8) (a:Nat):Option (List UInt8) :=
 (dnO t a).bind fun t'=>if 1<(t[a]?.getD 0).toNat then some t' else if reN (Zz d a)=0 then Vc (lvF d (reV (Zz d a)).1.toNat) t' (reV (Zz d a)).2 else none
def lvE (s:Rm) (n:Int):Int:=if asE s n=0 then (match lfO s.1 s.2.1 n.toNat with | some _=>0 | none=>8) else asE s n
def lvV (s:Rm) (n:Int):Rm:=if asE s n=0 then (match lfO s.1 s.2.1 n.toNat with | some t=>(s.1,t,s.2.2) | none=>Zi) else Zi
def loV (s:Rm) (n:Int):Rm:=if asE s n=0 then (s.1,s.2.1.set n.toNat (s.2.1[n.toNat]?.getD 0-1),s.2.2) else Zi
theorem Zcc {s:Rm} {k:Nat} (hm:Xl s=true) (h8:8<=k) (h:k<256) (hx:s.2.1[k]?.getD 0≠0):asE s k=0:=by
 have hin:=Zol h8 h;have h1:¬ s.2.1[((k:Int)).toNat]?.getD 0=0:=by
 rw[show ((k:Int)).toNat=k by omega];exact hx;rw[asE,hm,if_pos rfl,hin,if_pos rfl,if_neg h1]
structure Xw (s t:Rm):Prop where
 may:Xl t=true
 held:∀ k:Nat,s.2.1[k]?.getD 0≠0->t.2.1[k]?.getD 0≠0
 seen:∀ k:Nat,s.2.1[k]?.getD 0≠0->Zz t.1 k=Zz s.1 k
theorem Vw {s t:Rm} (h:Xw s t) {a:Int} (ha:asE s a=0):asE t a=0/\rmE t a=rmE s a/\rmV t a=rmV s a:=by
 obtain⟨k,rfl,hm,h8,h256,_,_,hE,hV,hx⟩:=Y5 ha;have ht:asE t (k:Int)=0:=Zcc h.may h8 h256 (h.held k hx);refine⟨ht,?_,?_⟩
 ·rw[hE,rmE,if_pos ht,show ((k:Int)).toNat=k by omega,h.seen k hx]
 ·rw[hV,rmV,if_pos ht,show ((k:Int)).toNat=k by omega,h.seen k hx]
theorem Xm {f:Int->Ky->Ky->Bool->Bool}:∀ {l:List It} {tb:Ky} {e:Bool},Zae f l tb e=true->∀ x∈l,∃ t e,f x.2.1 x.1 t e=true
 | [],_,_,_,x,hx=>by simp at hx
 | y::r,tb,e,hf,x,hx=>by
 rw[Xx,Qd] at hf;rcases Qe.1 hx with rfl | hx
 ·exact⟨_,_,hf.1⟩
 ·exact Xm hf.2 x hx
def Y9 (g:Int->Option (Ky×Ky)):List It->Option (Ky×Ky)
 | []=>none
 | [x]=>(g x.2.1).bind fun p=>if p.1=x.1 then some p else none
 | x::y::r=>(g x.2.1).bind fun p=>(Y9 g (y::r)).bind fun q=>if p.1=x.1/\Zo p.2 y.1=true then some (p.1,q.2) else none
def Zbi (s:Rm):Nat->Int->Option (Ky×Ky)
 | 0,a=>if rmE s a=0/\(rmV s a).1=0/\Yw s (rmV s a).2=true then ((rmV s a).2[0]?).bind fun x=>((rmV s a).2.getLast?).map fun y=>(x.1,y.1) else none
 | l+1,a=>if rmE s a=0/\(rmV s a).1=((l+1:Nat):Int) then Y9 (Zbi s l) (rmV s a).2 else none
def LeK (a b:Ky):Prop:=a=b\/Zo a b=true
theorem LeK.lt {a b c:Ky} (h:LeK a b) (h':Zo b c=true):Zo a c=true:=h.elim (fun e=>by rw[e];exact h') fun h=>Yo h h'
theorem LeK.trans {a b c:Ky} (h:LeK a b) (h':LeK b c):LeK a c:=h'.elim (fun e=>e ▸ h) fun h'=>.inr (h.lt h')
theorem Za4 {g:Int->Option (Ky×Ky)} (hg:∀ a p,g a=some p->LeK p.1 p.2):∀ {l:List It} {p:Ky×Ky},Y9 g l=some p->LeK p.1 p.2/\∃ x r,l=x::r/\p.1=x.1
 | [],_,h=>by cases h
 | [x],p,h=>by
 unfold Y9 at h;cases hx:g x.2.1 with
 | none=>rw[hx] at h;cases h
 | some q =>
 rw[hx] at h;have h':(if q.1=x.1 then some q else none)=some p:=h;split at h'
 ·rename_i e
 cases h';exact⟨hg _ _ hx,x,[],rfl,e⟩
 ·cases h'
 | x::y::r,p,h=>by
 unfold Y9 at h;cases hx:g x.2.1 with
 | none=>rw[hx] at h;cases h
 | some q =>
 rw[hx] at h;cases hc:Y9 g (y::r) with
 | none=>rw[hc] at h;cases h
 | some q' =>
 rw[hc] at h;have h':(if q.1=x.1/\Zo q.2 y.1=true then some (q.1,q'.2) else none)=some p:=h;obtain⟨i1,y',r',e',i2⟩:=Za4 hg hc;cases e';split at h'
 ·rename_i e
  cases h';refine⟨.inr ?_,x,y::r,rfl,e.1⟩;have h1:Zo q.1 y.1=true:=(hg _ _ hx).lt e.2;rw[<- i2] at h1;exact i1.elim (fun e=>e ▸ h1) fun h2=>Yo h1 h2
 ·cases h'
theorem Zen (s:Rm):∀ (l:Nat) (a:Int) (p:Ky×Ky),Zbi s l a=some p->LeK p.1 p.2
 | 0,a,p,h=>by
 unfold Zbi at h;split at h
 ·rename_i hc
 have hu:=Uj (Ya hc.1).1;cases hl:(rmV s a).2 with
 | nil=>rw[hl] at h;cases h
 | cons x r =>
 rw[hl] at h hu;cases hz:(x::r).getLast? with
 | none=>rw[hz] at h;cases h
 | some z =>
  rw[hz] at h;cases h;rcases Zc2 hu z (Pn hz) with e | e
  ·exact .inl e.symm
  ·exact .inr e
 ·cases h
 | l+1,a,p,h=>by
 unfold Zbi at h;split at h
 ·exact(Za4 (Zen s l) h).1
 ·cases h
theorem Zgc {f:Int->Ky->Ky->Bool->Bool} {g:Int->Option (Ky×Ky)} (hle:∀ a p,g a=some p->LeK p.1 p.2) (hfg:∀ a k tb e,f a k tb e=true↔∃ t,g a=some (k,t)/\(e=true->Zo t tb=true)):∀ (l:List It) (tb:Ky) (e:Bool),l≠[] ->
 (Zae f l tb e=true↔∃ p,Y9 g l=some p/\(e=true->Zo p.2 tb=true))
 | [],_,_,h=>absurd rfl h
 | [x],tb,e,_=>by
 show f x.2.1 x.1 tb e=true↔_;rw[hfg];unfold Y9;constructor
 ·rintro⟨t,h1,h2⟩
 exact⟨(x.1,t),by rw[h1];simp,h2⟩
 ·rintro⟨p,h1,h2⟩
 cases hx:g x.2.1 with
 | none=>rw[hx] at h1;cases h1
 | some q =>
 rw[hx] at h1;have h':(if q.1=x.1 then some q else none)=some p:=h1;split at h'
 ·rename_i e1
  cases h';exact⟨p.2,by rw[<- e1],h2⟩
 ·cases h'
 | x::y::r,tb,e,_=>by
 have ih:=Zgc hle hfg (y::r) tb e (by simp);show (f x.2.1 x.1 y.1 true&&Zae f (y::r) tb e)=true↔_;rw[Qd,hfg,ih];constructor
 ·rintro⟨⟨t,h1,h2⟩,p,h3,h4⟩
 refine⟨(x.1,p.2),?_,h4⟩;unfold Y9;rw[h1,h3];simp[h2 rfl]
 ·rintro⟨p,h1,h2⟩
 unfold Y9 at h1;cases hx:g x.2.1 with
 | none=>rw[hx] at h1;cases h1
 | some q =>
 rw[hx] at h1;cases hc:Y9 g (y::r) with
 | none=>rw[hc] at h1;cases h1
 | some q' =>
  rw[hc] at h1;have h':(if q.1=x.1/\Zo q.2 y.1=true then some (q.1,q'.2) else none)=some p:=h1;split at h'
  ·rename_i e1
  cases h';exact⟨⟨q.2,by rw[<- e1.1],fun _=>e1.2⟩,q',rfl,h2⟩
  ·cases h'
theorem Zgu (s:Rm):∀ (l:Nat) (a:Int) (k tb:Ky) (e:Bool),Zx s l a k tb e=true↔∃ t,Zbi s l a=some (k,t)/\(e=true->Zo t tb=true)
 | 0,a,k,tb,e=>by
 constructor
 ·intro h
 obtain⟨h1,h2,h3,h4⟩:=Z9 h;obtain⟨x,r,hl,ek,hz⟩:=Za5 h3;obtain⟨z,hz1⟩:∃ z,(rmV s a).2.getLast? = some z:=by
 rw[hl];exact⟨_,P3 (by simp)⟩;refine⟨z.1,?_,fun he => ?_⟩
 ·unfold Zbi
 rw[if_pos ⟨h1,h2,h4⟩,hz1,show (rmV s a).2[0]? = some x by rw[hl];rfl,<- ek];rfl
 ·obtain⟨z',e1,e2⟩:=hz he
 rw[hz1] at e1;cases e1;exact e2
 ·rintro⟨t,h1,h2⟩
 unfold Zbi at h1;split at h1
 ·rename_i hc
 unfold Zx;cases hx:(rmV s a).2[0]? with
 | none=>rw[hx] at h1;cases h1
 | some x =>
  cases hz:(rmV s a).2.getLast? with
  | none=>rw[hx,hz] at h1;cases h1
  | some z =>
  rw[hx,hz] at h1;have h1':(some (x.1,z.1):Option (Ky×Ky))=some (k,t):=h1;simp only[Option.some.injEq,Prod.mk.injEq] at h1';have hh:Zex (rmV s a).2 k tb e=true:=by
  unfold Zex;rw[hx,hz];cases e with
  | false=>simp[h1'.1]
  | true=>simp[h1'.1,h1'.2,h2 rfl]
  rw[hc.1,hc.2.1,hc.2.2,hh]
  decide
 ·cases h1
 | l+1,a,k,tb,e=>by
 have hc:=Zgc (Zen s l) (fun a k tb e=>Zgu s l a k tb e) (rmV s a).2 tb e;constructor
 ·intro h
 obtain⟨h1,h2,h3,h4⟩:=Z9 h;obtain⟨x,r,hl,ek,_⟩:=Za5 h3;obtain⟨p,hp,hb⟩:=(hc (by rw[hl];simp)).1 h4;obtain⟨_,x',r',e',hf⟩:=Za4 (Zen s l) hp;rw[hl] at e';cases e';refine⟨p.2,?_,hb⟩;unfold Zbi;rw[if_pos ⟨h1,h2⟩,hp,<- ek,<- hf]
 ·rintro⟨t,h1,h2⟩
 unfold Zbi at h1;split at h1
 ·rename_i hcond
 obtain⟨_,x,r,hl,hf⟩:=Za4 (Zen s l) h1;have hi:=(hc (by rw[hl];simp)).2 ⟨(k,t),h1,h2⟩;have hh:Zex (rmV s a).2 k tb e=true:=by
  cases e with
  | false =>
  unfold Zex;rw[hl];simp[<- hf]
  | true =>
  obtain⟨x',r',e',hp⟩:=Zao (Y2 s l) (rmV s a).2 tb true (by rw[hl];simp) hi;obtain⟨z,hz1⟩:∃ z,(rmV s a).2.getLast? = some z:=by
  rw[hl];exact⟨_,P3 (by simp)⟩;obtain⟨t',e2,hf2⟩:=Xm hi z (Pn hz1);obtain⟨y,r2,ey,ky⟩:=(Y2 s l _ _ _ _ hf2).first;have hy:=hp.bound rfl y (Qj.2 ⟨z,Pn hz1,by rw[ey];simp⟩);rw[ky] at hy;unfold Zex;rw[hz1,show (rmV s a).2[0]? = some x by rw[hl];rfl];simp[<- hf,hy]
 unfold Zx;rw[hcond.1,hcond.2,hh,hi];simp
 ·cases h1
theorem Z00 (s:Rm) (a:Int):Ys s a=true↔rmE s a=0/\(match (rmV s a).1.toNat with | 0=>Yw s (rmV s a).2=true | l+1=>∃ p,Y9 (Zbi s l) (rmV s a).2=some p):=by{
constructor
·intro h
obtain⟨h1,_,hm,l0,_,hi⟩:=Y4 h;refine⟨h1,?_⟩;unfold Uk at hi;cases hl:(rmV s a).1.toNat with
| zero=>rw[hl] at hi;exact hi
| succ l =>
 rw[hl] at hi;have hne:(rmV s a).2≠[]:=fun e=>by
 have:=(Zw hm).1.2.2.2 (by omega);rw[e] at this;simp at this;obtain⟨p,hp,_⟩:=(Zgc (Zen s l) (fun a k tb e=>Zgu s l a k tb e) _ Zbm false hne).1 hi;exact⟨p,hp⟩
·rintro⟨h1,h2⟩
unfold Ys;rw[h1];unfold Uk;cases hl:(rmV s a).1.toNat with
| zero=>rw[hl] at h2;simp only[h2];rfl
| succ l =>
 rw[hl] at h2;obtain⟨p,hp⟩:=h2;obtain⟨_,x,r,e,_⟩:=Za4 (Zen s l) hp;have:=(Zgc (Zen s l) (fun a k tb e=>Zgu s l a k tb e) (rmV s a).2 Zbm false (by rw[e];simp)).2 ⟨p,hp,fun h=>by cases h⟩;simp only[this];rfl}
theorem Zfy {w w1:Qax} {Fs:List (Qax->Prop)} (h:Bag w Fs) (hb:Qa5 w.heap.size w w1) (a b:Qay):∃ w',w1.alloc (.cells #[a,b] 81)=w'/\Bag w' (Yce w1.heap.size a b::Fs)/\Qa5 w.heap.size w w'/\Qa5 w1.heap.size w1 w'/\w1.heap.size<w'.heap.size:=by
 obtain⟨w2,e2,b2,k4,k5⟩:=Yc w1 a b 81;obtain⟨k1,k2,_,k3⟩:=Zg b2;exact⟨w2,e2,((h.below hb).below k5).add ⟨k1,k2,k3⟩ (Z1b _ _ _),hb.trans (k5.mono hb.size),k5,by omega⟩
def Z6d (v:Qay) (n:Nd):Qax->Prop:=fun w=>Nod (Old w) w v n
theorem Zb6 (v:Qay) (n:Nd):Zf3 (Z6d v n):=fun _ _ h hb=>h.below hb
def Zzo (v:Qay) (l:List It):Qax->Prop:=fun w=>U5 (Old w) w [v] l
theorem Zi6 (v:Qay) (l:List It):Zf3 (Zzo v l):=fun _ _ h hb=>Yz.old h hb
structure AtT (s:Rm) (l:Nat) (a:Int):Prop where
 ok:rmE s a=0
 lvl:(rmV s a).1=(l:Int)
 below:∀ j,l=j+1->∀ x∈(rmV s a).2,∃ t e,Zx s j x.2.1 x.1 t e=true
theorem Zbe {s:Rm} {a:Int} (h:Ys s a=true):AtT s (rmV s a).1.toNat a:=by
 obtain⟨h1,_,_,l0,_,hi⟩:=Y4 h;refine⟨h1,by omega,fun j hj x hx => ?_⟩;unfold Uk at hi;rw[hj] at hi;exact Xm hi x hx
def Zcs (s:Rm) (n:Nd):Option (Ky×Ky):=match n.1.toNat with
 | 0=>if Yw s n.2=true then (n.2[0]?).bind fun x=>(n.2.getLast?).map fun y=>(x.1,y.1) else none
 | l+1=>Y9 (Zbi s l) n.2
theorem Zpe (s:Rm) (l:Nat) (a:Int):Zbi s l a=if rmE s a=0/\(rmV s a).1=(l:Int) then Zcs s (rmV s a) else none:=by{
cases l with
| zero =>
unfold Zbi;by_cases h1:rmE s a=0/\(rmV s a).1=((0:Nat):Int)
·rw[if_pos h1]
 unfold Zcs;rw[h1.2];by_cases h2:Yw s (rmV s a).2=true
 ·rw[if_pos ⟨h1.1,rfl,h2⟩]
 show _=if Yw s (rmV s a).2=true then _ else none
 rw[if_pos h2]
 ·rw[if_neg (fun h=>h2 h.2.2)]
 show _=if Yw s (rmV s a).2=true then _ else none
 rw[if_neg h2]
·rw[if_neg h1,if_neg (fun h=>h1 ⟨h.1,h.2.1⟩)]
| succ l =>
unfold Zbi;by_cases h1:rmE s a=0/\(rmV s a).1=((l+1:Nat):Int)
·rw[if_pos h1,if_pos h1]
 unfold Zcs;rw[h1.2,show ((l+1:Nat):Int).toNat=l+1 by omega]
·rw[if_neg h1,if_neg h1]}
theorem Zom {s:Rm} {n:Nd} {x y:It} {j:Nat} (h:n.1=0) (hx:n.2[0]? = some x) (hj:n.2.length=j+1) (hy:n.2[j]? = some y):Zcs s n=if Yw s n.2=true then some (x.1,y.1) else none:=by
 have hl:n.2.getLast? = some y:=by rw[List.getLast?_eq_getElem?,hj];exact hy
 unfold Zcs;rw[h];show (if Yw s n.2=true then _ else none)=_;rw[hx,hl];rfl
theorem Zqj {s:Rm} {n:Nd} {l:Nat} (h:n.1=((l+1:Nat):Int)):Zcs s n=Y9 (Zbi s l) n.2:=by
 unfold Zcs;rw[h,show ((l+1:Nat):Int).toNat=l+1 by omega]
theorem Zf4 {g:Int->Option (Ky×Ky)} {l:List It} {x:It} (hx:l[0]? = some x):Y9 g (l.take 1)=(g x.2.1).bind fun p=>if p.1=x.1 then some p else none:=by{
cases l with
| nil=>cases hx
| cons y r =>
cases hx;rfl}
theorem Zog {g:Int->Option (Ky×Ky)} (x:It):∀ (l:List It),l≠[]->Y9 g (l++[x])=(Y9 g l).bind fun q=>(g x.2.1).bind fun p=>if p.1=x.1/\Zo q.2 x.1=true then some (q.1,p.2) else none
 | [],h=>absurd rfl h
 | [y],_=>by
 show (g y.2.1).bind _=_;unfold Y9;cases g y.2.1 with
 | none=>rfl
 | some p =>
 show ((Y9 g [x]).bind _)=((if p.1=y.1 then some p else none):Option (Ky×Ky)).bind _;unfold Y9;cases g x.2.1 with
 | none =>
 by_cases h1:p.1=y.1 <;> simp[h1]
 | some q =>
 by_cases h1:p.1=y.1 <;> by_cases h2:q.1=x.1 <;> by_cases h3:Zo p.2 x.1=true <;> simp[h1,h2,h3]
 | y::z::r,_=>by
 have ih:=Zog (g:=g) x (z::r) (by simp);show (g y.2.1).bind (fun p=>(Y9 g (z::r++[x])).bind _)=_;rw[ih]
 conv=>rhs;unfold Y9
 cases g y.2.1 with
 | none=>rfl
 | some p =>
 cases Y9 g (z::r) with
 | none=>rfl
 | some q =>
 cases g x.2.1 with
 | none =>
  by_cases h1:p.1=y.1/\Zo p.2 z.1=true <;> simp[h1]
 | some q' =>
  by_cases h1:p.1=y.1/\Zo p.2 z.1=true <;> by_cases h2:q'.1=x.1/\Zo q.2 x.1=true <;> simp[h1,h2]
theorem Zax {g:Int->Option (Ky×Ky)} {l:List It} {k:Nat} {x:It} (hx:l[k]? = some x) (hk:0<k):Y9 g (l.take (k+1))=(Y9 g (l.take k)).bind fun q=>(g x.2.1).bind fun p=>if p.1=x.1/\Zo q.2 x.1=true then some (q.1,p.2) else none:=by
 have hl:=(Qi.1 hx).1;have hg:l[k]=x:=(Qi.1 hx).2;rw[<- Pi hl,hg];exact Zog x _ fun e=>by
 have h0:(l.take k).length=0:=by rw[e];rfl
 rw[Pp] at h0;omega
theorem Ziv {g:Int->Option (Ky×Ky)} {l:List It}:∀ {k:Nat},0<k->Y9 g (l.take k)=none->Y9 g l=none:=fun {k} hk h=>by
 induction hn:l.length-k generalizing k with
 | zero=>rwa [Qal (by omega)] at h
 | succ n ih =>
 obtain⟨x,hx⟩:∃ x,l[k]? = some x:=⟨_,Qc (by omega)⟩
 exact ih (k:=k+1) (by omega) (by rw[Zax hx hk,h];rfl) (by omega)
theorem Z1f {g:Int->Option (Ky×Ky)} {l:List It} {x:It} (hx:l[0]? = some x):∀ {k:Nat} {q:Ky×Ky},0<k->k<=l.length->Y9 g (l.take k)=some q->q.1=x.1:=fun {k} {q} hk hl h=>by
 induction k generalizing q with
 | zero=>omega
 | succ k ih =>
 by_cases h0:k=0
 ·subst h0
 rw[Zf4 hx] at h;cases hg:g x.2.1 with
 | none=>rw[hg] at h;cases h
 | some p =>
 rw[hg] at h;have h':(if p.1=x.1 then some p else none)=some q:=h;split at h'
 ·rename_i e;cases h';exact e
 ·cases h'
 ·obtain⟨y,hy⟩:∃ y,l[k]? = some y:=⟨_,Qc (by omega)⟩
 rw[Zax hy (by omega)] at h;cases hc:Y9 g (l.take k) with
 | none=>rw[hc] at h;cases h
 | some q' =>
 have e:=ih (by omega) (by omega) hc;rw[hc] at h;cases hg:g y.2.1 with
 | none=>rw[hg] at h;cases h
 | some p =>
  rw[hg] at h;have h':(if p.1=y.1/\Zo q'.2 y.1=true then some (q'.1,p.2) else none)=some q:=h;split at h'
  ·cases h';exact e
  ·cases h'
def Zcy (s:Rm) (n:Nd):Bool:=decide (n.2.length=0)||(Zcs s n).isSome
theorem Zsl {s:Rm} {a:Int} (h:rmE s a=0):Zcy s (rmV s a)=Ys s a:=by{
have hm:=(Ya h).1;have hsh:=(Zw hm).1;have e:Ys s a=true↔Zcy s (rmV s a)=true:=by
rw[Z00];unfold Zcy;rw[Qag,decide_eq_true_eq];cases hl:(rmV s a).1.toNat with
| zero =>
 have h0:(rmV s a).1=0:=by omega
 simp only;by_cases hz:(rmV s a).2.length=0
 ·have:(rmV s a).2=[]:=Qam hz
 rw[this];simp[h,Yw]
 ·obtain⟨j,hj⟩:∃ j,(rmV s a).2.length=j+1:=⟨(rmV s a).2.length-1,by omega⟩
 obtain⟨x,hx⟩:∃ x,(rmV s a).2[0]? = some x:=⟨_,Qc (by omega)⟩
 obtain⟨y,hy⟩:∃ y,(rmV s a).2[j]? = some y:=⟨_,Qc (by omega)⟩
 rw[Zom h0 hx hj hy];by_cases h2:Yw s (rmV s a).2=true <;> simp[h,h2,hz]
| succ l =>
 have h1:(rmV s a).1=((l+1:Nat):Int):=by omega
 have hz:¬ (rmV s a).2.length=0:=by have:=hsh.2.2.2 (by omega);omega
 rw[Zqj h1];simp only;constructor
 ·rintro⟨_,p,hp⟩
 rw[hp];exact .inr rfl
 ·rintro(h3 | h3)
 ·exact absurd h3 hz
 ·exact⟨h,Option.isSome_iff_exists.1 h3⟩
cases h1:Ys s a with
| true=>exact e.1 h1
| false =>
cases h2:Zcy s (rmV s a) with
| false=>rfl
| true=>rw[e.2 h2] at h1;cases h1}
def Z56 (f t:Ky) (x:It):Bool := !Zo x.1 f && !Zo t x.1
def Zhi (s:Rm) (a:Int) (f t:Ky):List It:=(Zbl s a).filter (Z56 f t)
def raV (s:Rm) (a:Int) (f t:Ky):List It:=if ckE s a=0 then Zhi s a f t else []
theorem Z4e {f t:Ky} {x:It}:Z56 f t x=true↔Zo x.1 f=false/\Zo t x.1=false:=by
 unfold Z56;simp
theorem Uv {p:It->Bool} {L:List It} (h:∀ x∈L,p x=false):L.filter p=[]:=by
 rw[Qai];intro x hx;rw[h x hx];simp
def ndD (d:Dk) (n:Int):Nd:=reV (Zz d n.toNat)
def Zcl (d:Dk):List Int->Nat->Nat
 | [],_=>0
 | n::r,k=>Xf (ndD d n).2 k+Zcl d r k
def Yy (t:List UInt8) (k:Nat):Nat:=(t[k]?.getD 0).toNat
theorem Zgg {d:Dk} {k:Nat} {n:Int}:∀ {N:List Int},n∈N->Xf (ndD d n).2 k<=Zcl d N k
 | m::r,h=>by
 unfold Zcl;rcases Qe.1 h with rfl | h
 ·omega
 ·have:=Zgg (k:=k) (d:=d) h
 omega
def Xd (n:Nd) (k:Ky):Nat:=if Yn n k=true then Z2 n k else Z2 n k-1
def Znt (l:List It):Ky:=match l with | []=>Zbm | x::_=>x.1
def upI (l:List It) (k:Int):It:=(Znt l,k,[])
def Zq (s:Rm) (lv:Int) (l:List It):Int×Rm×List It :=
 if l.length<=5 then
 if mkE s (lv,l)=0 then (0,mkV s (lv,l),[upI l (mkN s (lv,l))]) else (mkE s (lv,l),Zi,[])
 else if mkE s (lv,l.take 3)=0 then
 if mkE (mkV s (lv,l.take 3)) (lv,l.drop 3)=0 then (0,mkV (mkV s (lv,l.take 3)) (lv,l.drop 3),[upI (l.take 3) (mkN s (lv,l.take 3)),upI (l.drop 3) (mkN (mkV s (lv,l.take 3)) (lv,l.drop 3))])
 else (mkE (mkV s (lv,l.take 3)) (lv,l.drop 3),Zi,[])
 else (mkE s (lv,l.take 3),Zi,[])
def Zh8 (s:Rm):Nat->List It->Ky->Bool->List It->Prop
 | 0,L,tb,e,M=>Up L/\Yw s L=true/\(e=true->∀ y∈L,Zo y.1 tb=true)/\M=L
 | l+1,L,tb,e,M=>Zae (Zx s l) L tb e=true/\M=L.flatMap fun x=>X7 s l x.2.1
def Vm (s:Rm) (a:Int):Rm:=(s.1,s.2.1.set a.toNat (s.2.1[a.toNat]?.getD 0-1),s.2.2)
def Zns (s:Rm) (l:List It):Rm:=l.foldl (fun u x=>Vm u x.2.1) s
def Zav (l:List It) (p many:Nat) (up:List It):List It:=l.take p++(up++l.drop (p+many))
def Zbk (n:Nd) (k:Ky):Int:=((n.2[Xd n k]?).map fun y=>y.2.1).getD 0
def Zn (x:It):Nat->Rm->Int->Int×Rm×List It
 | 0,s,a =>
 if (Zq s 0 (Zav (rmV s a).2 (Z2 (rmV s a) x.1) (if Yn (rmV s a) x.1=true then 1 else 0) [x])).1=0 then
 (0,(if x.2.1=0 then (Zq s 0 (Zav (rmV s a).2 (Z2 (rmV s a) x.1) (if Yn (rmV s a) x.1=true then 1 else 0) [x])).2.1 else Vm (Zq s 0 (Zav (rmV s a).2 (Z2 (rmV s a) x.1) (if Yn (rmV s a) x.1=true then 1 else 0) [x])).2.1 x.2.1),(Zq s 0 (Zav (rmV s a).2 (Z2 (rmV s a) x.1) (if Yn (rmV s a) x.1=true then 1 else 0) [x])).2.2)
 else ((Zq s 0 (Zav (rmV s a).2 (Z2 (rmV s a) x.1) (if Yn (rmV s a) x.1=true then 1 else 0) [x])).1,Zi,[])
 | l+1,s,a =>
 if (Zn x l s (Zbk (rmV s a) x.1)).1=0 then
 if (Zq (Zn x l s (Zbk (rmV s a) x.1)).2.1 ((l+1:Nat):Int) (Zav (rmV s a).2 (Xd (rmV s a) x.1) 1 (Zn x l s (Zbk (rmV s a) x.1)).2.2)).1=0 then
 (0,Zns (Zq (Zn x l s (Zbk (rmV s a) x.1)).2.1 ((l+1:Nat):Int) (Zav (rmV s a).2 (Xd (rmV s a) x.1) 1 (Zn x l s (Zbk (rmV s a) x.1)).2.2)).2.1 (Zn x l s (Zbk (rmV s a) x.1)).2.2,
  (Zq (Zn x l s (Zbk (rmV s a) x.1)).2.1 ((l+1:Nat):Int) (Zav (rmV s a).2 (Xd (rmV s a) x.1) 1 (Zn x l s (Zbk (rmV s a) x.1)).2.2)).2.2)
 else ((Zq (Zn x l s (Zbk (rmV s a) x.1)).2.1 ((l+1:Nat):Int) (Zav (rmV s a).2 (Xd (rmV s a) x.1) 1 (Zn x l s (Zbk (rmV s a) x.1)).2.2)).1,Zi,[])
 else ((Zn x l s (Zbk (rmV s a) x.1)).1,Zi,[])
def Zbj (x:It) (i:Nat):Nat:=if x.2.1≠0/\i=x.2.1.toNat then 1 else 0
def Zq9 (s:Rm):Nat->Int->Ky->Bool
 | 0,a,k=>decide (5<=(rmV s a).2.length) && !Yn (rmV s a) k
 | l+1,a,k=>decide (5<=(rmV s a).2.length)&&Zq9 s l (Zbk (rmV s a) k) k
def Zqy (s:Rm) (a:Int) (k:Ky):Bool:=decide ((rmV s a).1=5)&&Zq9 s 5 a k
def Vp (s:Rm) (lv:Int) (up:List It):Int×Rm×List It :=
 if 1<up.length then
 if (Zq s (lv+1) up).1=0 then (0,Zns (Zq s (lv+1) up).2.1 up,(Zq s (lv+1) up).2.2) else ((Zq s (lv+1) up).1,Zi,[])
 else (0,s,up)
def Zb3 (up:List It):Int:=match up with | []=>0 | z::_=>z.2.1
def Zl0 (s:Rm) (a:Int) (x:It):Int×Rm×Int :=
 if Zqy s a x.1 then (120,Zi,0)
 else if (Zn x (rmV s a).1.toNat s a).1=0 then
 if (Vp (Zn x (rmV s a).1.toNat s a).2.1 (rmV s a).1 (Zn x (rmV s a).1.toNat s a).2.2).1=0 then
 match lfO (Vp (Zn x (rmV s a).1.toNat s a).2.1 (rmV s a).1 (Zn x (rmV s a).1.toNat s a).2.2).2.1.1 (Vp (Zn x (rmV s a).1.toNat s a).2.1 (rmV s a).1 (Zn x (rmV s a).1.toNat s a).2.2).2.1.2.1 a.toNat with
 | none=>(8,Zi,0)
 | some v=>(0,((Vp (Zn x (rmV s a).1.toNat s a).2.1 (rmV s a).1 (Zn x (rmV s a).1.toNat s a).2.2).2.1.1,v,(Vp (Zn x (rmV s a).1.toNat s a).2.1 (rmV s a).1 (Zn x (rmV s a).1.toNat s a).2.2).2.1.2.2),Zb3 (Vp (Zn x (rmV s a).1.toNat s a).2.1 (rmV s a).1 (Zn x (rmV s a).1.toNat s a).2.2).2.2)
 else ((Vp (Zn x (rmV s a).1.toNat s a).2.1 (rmV s a).1 (Zn x (rmV s a).1.toNat s a).2.2).1,Zi,0)
 else ((Zn x (rmV s a).1.toNat s a).1,Zi,0)
def Zkl:Rm:=(Zbo,Zy 256,Zy 256)
theorem Z3o (w:Qax):Qa4 Tryz.prog 24 #[] w fun e w'=>∃ t,e=.returned t/\Sto (New w.heap.size w') w' t Zkl/\Qa5 w.heap.size w w':=by{
obtain⟨w1,hw1,f1,hsz,hB⟩:=X5 w (.slice none 0 0) (.slice none 0 0) (.slice none 0 0) (.slice none 0 0) 29;have hz:Hid ((Zy 256).length=256):=Za (Zbt 256);replace hsz:=Za hsz
go_enter Tryz.func24,Tryz.ntmps24
go_upto_region 1 with fail
clear hw1
go_wp2_with fail
with_reducible refine(Z60 _).mono ?_;rintro e w2 ⟨u,rfl,h2,hb2⟩;obtain⟨P,p,Q,r,rfl,_⟩:=id h2.open;have H2:=Za h2;have F2:=(hb2.block w.heap.size (by rw[hsz.out];omega)).trans f1;have B2:=Za (hB.trans (hb2.mono hB.size));have s2:Hid (w.heap.size+1<=w1.heap.size/\w1.heap.size<=w2.heap.size):=Za ⟨by rw[hsz.out];omega,hb2.size⟩;clear h2 hb2 f1
go_wp2_with fail
with_reducible refine(Zp0 _).mono ?_;rintro e w3 ⟨g3,rfl,h3,hb3⟩;have H3:=Za h3;have D3:=Za (H2.out.new (Qa _) hb3);have F3:=(hb3.block w.heap.size (by have:=s2.out;omega)).trans F2;have B3:=Za (B2.out.trans (hb3.mono B2.out.size));have s3:Hid (w2.heap.size<=w3.heap.size):=Za hb3.size;clear h3 hb3 F2 H2
go_wp2_with fail
with_reducible refine(Zp0 _).mono ?_;rintro e w4 ⟨g4,rfl,h4,hb4⟩;have D4:=D3.out.new (Qa _) hb4;have N4:=Zf.new H3.out (Qa _) hb4;have F4:=(hb4.block w.heap.size (by have:=s2.out;have:=s3.out;omega)).trans F3;have B4:=B3.out.trans (hb4.mono B3.out.size);obtain⟨c0,c1,c2,c3,c4,c5⟩:=Ze F4;obtain⟨W9,hW9,g9,gr9,gs9⟩:=Zu (a':=.slice P Zbo.1.length p) (b':=.slice Q Zbo.2.length r) (c':=.slice (some ⟨g3,0,none⟩) 256 256) (d':=.slice (some ⟨g4,0,none⟩) 256 256) F4;obtain⟨n0,n1,n2,n3,_,_⟩:=Ze g9;have q2:=s2.out;have q3:=s3.out;have l2:=B2.out.size;have l3:=B3.out.size
have hfin:=Za (show Sto (New w.heap.size W9) W9 (.agg #[.slice P Zbo.1.length p,.slice Q Zbo.2.length r,.slice (some ⟨g3,0,none⟩) 256 256,.slice (some ⟨g4,0,none⟩) 256 256]) Zkl from
Sto.mk ((D4.grown gr9 (fun q e=>by cases e;omega)).new (by omega) (Qb _ _)) (Zf.new (Zf.grown N4 gr9 (fun q e=>by cases e;omega)) (by omega) (Qb _ _)) (Zf.new (Zf.grown h4 gr9 (fun q e=>by cases e;omega)) (by omega) (Qb _ _)))
have hB9:=Za (B4.grown gr9 B4.size (fun q e=>by cases e;omega));clear D4 N4 gr9 gs9 B4 q2 q3 l2 l3 h4 hb4;replace F4:=Za F4;replace F3:=Za F3;replace g9:=Za g9
go_wp2_with fail
refine Qa1 (v:=.agg #[.slice P Zbo.1.length p,.slice Q Zbo.2.length r,.slice (some ⟨g3,0,none⟩) 256 256,.slice (some ⟨g4,0,none⟩) 256 256]) (by simp[results,Tryz.results24,go_sem,n0,n1,n2,n3]) rfl ?_;exact⟨_,rfl,hfin.out,hB9.out⟩}
end Go.Proofs.YtgmbjnajdfgenaaGreat
namespace Go.Proofs.YtgmbjnajdfgenaaGreat
open Go.RowKit Go.Shelf
attribute [local go_sem] Oper.semAt_some
theorem Zl {W W':Qax} {row:Option Nat} {g:Nat} {cs:Array Qay} {t:Qa0} (h:W.heap[g]? = some (.cells cs t (0,0))) (hg:W.grownBy W' row) (hrow:∀ r,row=some r->∃ o:Obj,W.heap[r]? = some o/\o.isCells=false):W'.heap[g]? = some (.cells cs t (0,0)) :=
 (grownBy_keeps_cells hg hrow h rfl).trans h
theorem Z2w {s:Rm} {l:List It} {i:Nat} {x:It} {r:Nat} {y:UInt8} (hx:l[i]? = some x) (hr:x.2.1=(r:Int)) (h0:r≠0) (hy:s.2.1[r]?.getD 0=y):Yw s (l.take (i+1))=(Yw s (l.take i)&&decide (y≠0)):=by
 rw[Zn7 hx,hr];have:¬ ((r:Nat):Int)=0:=by omega
 rw[decide_eq_false this,Bool.false_or,show ((r:Nat):Int).toNat=r by omega,hy]
theorem Zyq {s:Rm} {l:List It} {i:Nat} {x:It} (hx:l[i]? = some x) (hr:x.2.1=0):Yw s (l.take (i+1))=Yw s (l.take i):=by
 rw[Zn7 hx,hr];simp
theorem Zfu {w:Qax} {A:Option Qaz} {n c:Nat} {xs:List It} {s:It} (h:U5 (Old w) w [.slice A n c] xs) (hk:xs[0]? = some s) :
 ∃ ad E ce,A=some ad/\InI s/\∀ W,Qa5 w.heap.size w W->At5 W ad s (.slice E s.2.2.length ce)/\Itm (Old W) W (itV s (.slice E s.2.2.length ce)) s:=by
 obtain⟨ad,E,ce,e,_,_,h1,F⟩:=V4 h hk;have e0:ad.add (0*5)=ad:=by simp[Addr.add]
 rw[e0] at F;exact⟨ad,E,ce,e,h1,F⟩
theorem Z3d {d:Dk} {k:Nat} (hm:Zbw d=true) (hk:k<256):(Zz d k).length=128:=by
 obtain⟨h1,_,h3,h4⟩:=Zff hm;unfold Zz;have e:d.1[k]? = some (d.1[k]'(by omega)):=Qc _;refine Zhh (h3 k _ (by rw[e];rfl)) fun x hx => ?_
 obtain⟨i,hi⟩:=Qm hx;exact(h4 i x hi).2.2
theorem Y6 {W:Qax} {g:Nat} {a b c a' b' c':Qay} {t:Qa0} (h:W.heap[g]? = some (.cells #[a,b,c] t (0,0))):∃ W1,((W.setCell ⟨g,0,none⟩ a').setCell ⟨g,1,none⟩ b').setCell ⟨g,2,none⟩ c'=W1 /\
 W1.heap[g]? = some (.cells #[a',b',c'] t (0,0))/\W.grownBy W1 (some g)/\W1.heap.size=W.heap.size :=
 ⟨_,rfl,by simp[Px,Py,h],Yr (p:=⟨g,2,none⟩) (Yr (p:=⟨g,1,none⟩) (Yr (p:=⟨g,0,none⟩) (Xc W (some g)) rfl a') rfl b') rfl c',by simp⟩
theorem Zk {W:Qax} {g:Nat} {a b c:Qay} {t:Qa0} (h:W.heap[g]? = some (.cells #[a,b,c] t (0,0))):W.cell? ⟨g,0,none⟩=some a/\W.cell? ⟨g,1,none⟩=some b/\W.cell? ⟨g,2,none⟩=some c/\(∀ o,W.frozen? ⟨g,o,none⟩=false)/\g<W.heap.size :=
 ⟨by simp[Qo,h],by simp[Qo,h],by simp[Qo,h],fun o=>by simp[Pw,h],(Qt.1 h).1⟩
theorem Zed (v:Qay) (s:Rm) (a:Int) (w:Qax) (h:Sto (Old w) w v s) :
 Qa4 Tryz.prog 36 #[v,.int .i64 a] w fun e w'=>∃ Z zc,e=.returned (.tuple #[.agg #[.int .i64 (rmV s a).1,.slice Z (rmV s a).2.length zc],.int .i64 (rmE s a)])/\U5 (Old w') w' [.slice Z (rmV s a).2.length zc] (rmV s a).2 /\
 Nod (New w.heap.size w') w' (.agg #[.int .i64 (rmV s a).1,.slice Z (rmV s a).2.length zc]) (rmV s a)/\Qa5 w.heap.size w w':=by
 refine(Zof v s a w h).mono ?_;rintro e w' ⟨u,rfl,hu,hb'⟩;have hu2:=hu;obtain⟨Z,zc,rfl,_,_,_,hA⟩:=hu.drop.open;exact⟨Z,zc,rfl,hA,hu2,hb'⟩
theorem Z6s {s:Rm} {a:Int} (h:rmE s a≠0):Ys s a=false:=by simp[Ys,h]
theorem Z9r {s:Rm} {a:Int} (h:asE s a≠0):ckE s a=asE s a/\ckH s a=0:=by
 have e:ckE s a=asE s a:=by rw[ckE,if_neg h]
 exact⟨e,by rw[ckH,e,if_neg h]⟩
theorem Zss {s:Rm} {a:Int} (h:asE s a=0) (ht:Ys s a=false):ckE s a=8/\ckH s a=0:=by
 have e:ckE s a=8:=by rw[ckE,if_pos h,ht];rfl
 exact⟨e,by rw[ckH,e,if_neg (by decide)]⟩
theorem Zjq {s:Rm} {a:Int} (h:asE s a=0) (ht:Ys s a=true):ckE s a=0/\ckH s a=(rmV s a).1+1:=by
 have e:ckE s a=0:=by rw[ckE,if_pos h,ht];rfl
 exact⟨e,by rw[ckH,e,if_pos rfl]⟩
theorem Zak {s:Rm} {a:Int} (h:ckE s a=0):Ys s a=true/\asE s a=0/\ckH s a=(rmV s a).1+1:=by{
by_cases ha:asE s a=0
·cases ht:Ys s a with
| false=>rw[(Zss ha ht).1] at h;cases h
| true=>exact⟨rfl,ha,(Zjq ha ht).2⟩
·rw[(Z9r ha).1] at h
exact absurd h ha}
def Yh (g:Nat) (cs:Array Qay) (t:Qa0):Qax->Prop:=fun w=>w.heap[g]? = some (.cells cs t (0,0))
theorem Zr (g:Nat) (cs:Array Qay) (t:Qa0):Zf3 (Yh g cs t):=fun _ _ h hb=>(hb.block g (Qt.1 h).1).trans h
def wkF (d:Dk) (lv:Int) (t:List UInt8) (a:Nat):Option (List UInt8):=if lv=6 then lfO d t a else lvF d (lv+1).toNat t a
def Zrz (t:List UInt8):Nat:=(t.map (·.toNat)).sum
def Off (g:Nat) (w:Qax):Qaz->Prop:=fun p=>p.block<w.heap.size/\p.block≠g
theorem Zxd {s:Rm} {n:Nd} (hm:Xl s=true) (hn:Yd n=true):(ctE s.2.1 n.2≠0/\mkE s n=ctE s.2.1 n.2/\mkN s n=0/\mkV s n=Zi)\/(ctE s.2.1 n.2=0/\mkE s n=tkE (ctS s n) (Vd n)/\mkN s n=tkN (ctS s n) (Vd n)/\mkV s n=tkV (ctS s n) (Vd n)):=by{
by_cases hc:ctE s.2.1 n.2=0
·have e:mkE s n=tkE (ctS s n) (Vd n):=by simp[mkE,hm,hn,hc]
refine .inr ⟨hc,e,?_,?_⟩
·by_cases h:mkE s n=0
 ·rw[mkN,if_pos h]
 ·rw[mkN,if_neg h,(Zv2 (by rw[<- e];exact h)).1]
·by_cases h:mkE s n=0
 ·rw[mkV,if_pos h]
 ·rw[mkV,if_neg h,(Zv2 (by rw[<- e];exact h)).2]
·have e:mkE s n=ctE s.2.1 n.2:=by simp[mkE,hm,hn,hc]
have h:mkE s n≠0:=by rw[e];exact hc
exact .inl ⟨hc,e,(Z0n h).1,(Z0n h).2⟩}
end Go.Proofs.YtgmbjnajdfgenaaGreat
namespace Go.Proofs.YtgmbjnajdfgenaaGreat
open Go.RowKit Go.Shelf Go.Maps
attribute [local go_sem] Oper.semAt_some
end Go.Proofs.YtgmbjnajdfgenaaGreat
namespace Go.Proofs.YtgmbjnajdfgenaaGreat
open Go.RowKit Go.Shelf Go.Maps
attribute [local go_sem] Oper.semAt_some
end Go.Proofs.YtgmbjnajdfgenaaGreat
set_option maxRecDepth 100000
set_option maxHeartbeats 16000000
set_option maxRecDepth 100000
set_option maxHeartbeats 16000000
open Array renaming getElem?_eq_some_iff → Qd, replicate_succ → Q4, replicate_zero → Q5
open Bool renaming and_eq_true → Pp
open Go renaming World → Qah, Value → Qai, Addr → Qaj, TypeId → Qak, Pl → Qal, P0 → Qam, undef → Qan, Calls → Qao, Ending → Qap
open Go.Act renaming put → Qs
open Go.Builtin renaming append_ → Qv
open Go.IntWalk renaming i64_in → Ps
open Go.RowKit renaming Below → Qaq
open Go.RowKit.Below renaming refl → Qc
open Go.World renaming cell?_of_block → Qg, size_alloc → Qw, putObj_heap_other → Qx, putObj_size → Pm, block_lt_of_cell? → P1, putObj_heap_same → P3, alloc_heap_new → P4, frozen?_of_block → P7, news_of_block → Qab
open List renaming map_append → Qe, getElem?_eq_getElem → Qf, length_append → Qh, filter_append → Qj, mem_singleton → Qk, getElem?_eq_some_iff → Ql, mem_cons → Qm, mem_append → Qn, length_cons → Qo, mem_flatMap → Qp, append_assoc → Qq, mem_map → Qr, getElem?_append_right → Qt, filter_cons_of_neg → Qu, size_toArray → Qy, length_nil → Qz, push_toArray → Q6, append_toArray → Q7, nil_append → Q8, cons_append → Q9, flatMap_cons → Pa, drop_eq_getElem_cons → Pb, length_take → Pc, pairwise_cons → Pd, mem_filter → Pe, length_map → Pf, getElem?_append_left → Pg, mem_of_getElem? → Ph, length_drop → Pj, drop_of_length_le → Pk, nodup_cons → Pn, Pairwise → Po, pairwise_append → Pq, filter_cons_of_pos → Pr, eq_nil_of_length_eq_zero → Pw, getElem_map → Px, reverse_append → Py, length_reverse → Pz, flatMap_append → P5, filter_congr → P8, append_nil → P9, countP_eq_length_filter → Qaa, take_of_length_le → Qac, IsPrefix → Qad, prefix_append_right_inj → Qae, length_filter_le → Qaf
open Nat renaming le_trans → Qa, le_refl → Qb, lt_of_lt_of_le → Qi, reduceAdd → Q0, reduceSub → Q3, lt_or_ge → Pi, le_of_lt → Pt, zero_add → Pu, min_eq_left → Pv, pow_le_pow_right → Qag
noncomputable section
namespace Go.Proofs.YtgmbjnajdfgenaaGreat
open Go.RowKit
def gdE (s:Rm) (lv a:Int):Int:=if asE s a=0 then (match wkF s.1 lv s.2.1 a.toNat with | some _=>0 | none=>8) else asE s a
def gdV (s:Rm) (lv a:Int):Rm:=if asE s a=0 then (match wkF s.1 lv s.2.1 a.toNat with | some t=>(s.1,t,s.2.2) | none=>Zi) else Zi
theorem Yaj (d:Dk) (t:List UInt8) (a:Nat):wkF d 6 t a=lfO d t a:=by rw[wkF,if_pos rfl]
theorem Z6k {s:Rm} {n:Int} (h:asE s n=0):∃ k:Nat,n=k/\Xl s=true/\8<=k/\k<256/\s.2.1[k]?.getD 0≠0:=by
 obtain⟨k,e,hm,h8,h256,_,_,_,_,hx⟩:=Y5 h;exact⟨k,e,hm,h8,h256,hx⟩
theorem Zhq (s:Rm) (a:Int):gdE s 6 a=lvE s a/\gdV s 6 a=lvV s a:=by
 unfold gdE gdV lvE lvV;rw[Yaj];exact⟨rfl,rfl⟩
structure Vs (M:Nat->Prop) (o o':Option Nat) (W W':Qah):Prop where
 size:W.heap.size<=W'.heap.size
 same:∀ k,k<W.heap.size->¬ M k->o≠some k->W'.heap[k]? = W.heap[k]? /\ o'≠some k
theorem Vs.refl (M:Nat->Prop) (o:Option Nat) (W:Qah):Vs M o o W W:=⟨Qb _,fun _ _ _ h=>⟨rfl,h⟩⟩
theorem Vs.row {M:Nat->Prop} {o q:Option Nat} {A B:Qah} {row:Option Nat} (hg:A.grownBy B row) (hr:∀ r,row=some r->o=some r\/M r) (hq:∀ r,q=some r->o=some r\/M r\/A.heap.size<=r):Vs M o q A B :=
 ⟨hg.size,fun k hk hm ho=>⟨hg.block k hk (fun e=>by
 rcases hr k e.symm with h | h
 ·exact ho h
 ·exact hm h),fun e=>by
 rcases hq k e with h | h | h
 ·exact ho h
 ·exact hm h
 ·omega⟩⟩
theorem Zhn {M:Nat->Prop} {o:Option Nat} {A:Qah} {B:Nat} {α:Type} (hB:A.heap.size<=B):OwnFrom B (fun(s:α×Option Nat) W=>Vs M o s.2 A W) :=
 fun _ _ _ _ hs hg hr=>hs.grown hg fun r e=>.inl (Qa hB (hr r e).1)
theorem Z5 {W W':Qah} (h:Qaq W.heap.size W W'):W.grownBy W' none:=⟨h.os,h.tape,h.output,h.size,fun k hk _=>h.block k hk⟩
theorem Vs.below {M:Nat->Prop} {o:Option Nat} {W W':Qah} (h:Qaq W.heap.size W W'):Vs M o o W W':=⟨h.size,fun k hk _ ho=>⟨h.block k hk,ho⟩⟩
def Z5w {α:Type} (M:Nat->Prop) (J Jx:List α×Option Nat->Qah->Prop) (xs:List α) (o:Option Nat) (W:Qah):Qap->Qah->Prop:=fun e W' =>
 ∃ o',Vs M o o' W W'/\((e=.returned (.bool true)/\J (xs,o') W')\/(e=.returned (.bool false)/\Jx (xs,o') W'))
def Ybr {α:Type} (P:Program) (g:Nat) (lb:Array Qai) (encs:α->Array Qai) (T:Nat->List α->α->Option Nat->Qah->Prop) (End:List α->Prop) (Z:Nat->Prop) (w:Qah):Prop :=
 ∀ (l:Nat) (M:Nat->Prop) (J Jx:List α×Option Nat->Qah->Prop) (o:Option Nat) (W:Qah),Qaq w.heap.size w W->OwnFrom W.heap.size J->OwnFrom W.heap.size Jx ->
 (∀ k,M k->k<W.heap.size)->(∀ s W1,J s W1->W.heap.size<=W1.heap.size/\∀ k,s.2=some k->k<W1.heap.size)->(∀ k,Z k->¬ M k/\o≠some k) ->
 (∀ pre q x W1,J (pre,q) W1->T W.heap.size pre x q W1->YieldAt Fence.wide 0 P l (encs x) W1 (Z5w M J Jx (pre++[x]) q W1)) ->
 J ([],o) W->Qao P g (#[.func (.yield l) #[] #[]]++lb) W fun e W'=>(∃ v,e=.returned v)/\((∃ xs q,End xs/\J (xs,q) W')\/(∃ pre q,Jx (pre,q) W'))
theorem Z18 {P:Program} {l f l' m:Nat} {tmps:Array Qai} {assign body:Code} {w:Qah} {R:Qap->Qah->Prop} (h:RoundIn Fence.wide 0 P l f tmps assign body w R):RoundIn (Fence.wide.inRound l') m P l f tmps assign body w R :=
 ⟨h.1,fun c cs _=>h.2 c cs (room_wide _)⟩
theorem Zgi {P:Program} {l f m:Nat} {tmps:Array Qai} {assign body:Code} {w:Qah} {R:Qap->Qah->Prop} (h:RoundIn Fence.wide 0 P l f tmps assign body w R):RoundIn Fence.wide m P l f tmps assign body w R :=
 ⟨h.1,fun c cs _=>h.2 c cs (room_wide _)⟩
def Z49 {α:Type} (M:Nat->Prop) (I:List α×Option Nat->Qah->Prop) (Ix:Code->List α×Option Nat->Qah->Prop) (xs:List α) (o:Option Nat) (W:Qah):Exit->Act->Qah->Prop
 | .normal,_,W'=>∃ q,Vs M o q W W'/\I (xs,q) W'
 | .ret,_,W'=>∃ q,Vs M o q W W'/\Ix .ret (xs,q) W'
 | .exit id,_,W'=>∃ q,Vs M o q W W'/\Ix (.exit id) (xs,q) W'
 | .goto t,_,W'=>∃ q,Vs M o q W W'/\Ix (.goto t) (xs,q) W'
 | .panic _,_,_=>False
 | .outgrown,_,_=>False
theorem Zxz {α:Type} {P:Program} {M:Nat->Prop} {I J Jx:List α×Option Nat->Qah->Prop} {B D L:Nat} {rec:LoopState->Option Code->Loop} (hrec:∀ s c,{ rec s c with state:=.ready,pending:=none }=rec .ready none/\∀ s' c',{ rec s c with state:=s',pending:=c' }=rec s' c')
 {W W':Qah} {xs:List α} {o q:Option Nat} (jump:Option Code) (hL:W.heap[L]? = some (.loop (rec .busy none))) (hD:W.heap[D]? = some (.deferred (some []))) (hDL:D≠L) (hBL:B<=L) (hML:¬ M L) (hMD:¬ M D) (hoL:o≠some L) (hoD:o≠some D)
 (hk:Vs M o q W W') (hI:OwnFrom B I) (hi:I (xs,q) W')
 (hfin:∀ W2,I (xs,q) W2->W2.heap[L]? = some (.loop (rec (if jump.isNone then .ready else .done) jump))->W2.heap[D]? = some (.deferred (some []))->q≠some L->q≠some D->if jump.isNone then J (xs,q) W2 else Jx (xs,q) W2) :
 ∃ v W2,(Instr.endRound L jump).run P W'=.ok v W2/\Vs (fun k=>M k\/k=L) o q W W2/\((v=.bool true/\J (xs,q) W2)\/(v=.bool false/\Jx (xs,q) W2)):=by
 obtain⟨e1,n1⟩:=hk.same L (Qd.1 hL).1 hML hoL;obtain⟨e2,n2⟩:=hk.same D (Qd.1 hD).1 hMD hoD;have hL3:=e1.trans hL;have hD3:=e2.trans hD;have hrun:=run_endRound (P:=P) jump hL3;rw[(hrec .busy none).2] at hrun;have hf:=hfin _ (hI.putObj (.loop (rec (if jump.isNone then .ready else .done) jump)) hi hBL hL3 rfl) (P3 (Qd.1 hL3).1) ((Qx hDL).trans hD3) n1 n2;refine⟨_,_,hrun,?_,?_⟩
 ·exact(hk.wide fun _ _ h=>.inl h).grown (grownBy_putObj' _ _ _) fun r e=>by cases e;exact .inr (.inr rfl)
 ·cases jump with
 | none=>exact .inl ⟨rfl,by simpa using hf⟩
 | some c=>exact .inr ⟨rfl,by simpa using hf⟩
theorem Za0 {α:Type} {P:Program} {g:Operand} {ps:Array Tmp} {assign body:Code} {Q:Exit->Act->Qah->Prop} {a:Act} {w:Qah} {m:Nat} {gf:Nat} {lb:Array Qai}
 (hg:a.eval g=.func (.func gf) #[] lb) (eg:∀ args w,(callFunc gf args).run P w=.ok (.enter gf args) w)
 {encs:α->Array Qai} {T:Nat->List α->α->Option Nat->Qah->Prop} {End:List α->Prop} {Z:Nat->Prop} (hseq:Ybr P gf lb encs T End Z w) (hps:∀ x,(encs x).size=ps.size)
 (M:Nat->Prop) (hM:∀ k,M k->k<w.heap.size) (o:Option Nat) (hZ:∀ k,Z k->k<w.heap.size/\¬ M k/\o≠some k)
 (I:List α×Option Nat->Qah->Prop) (Ix:Code->List α×Option Nat->Qah->Prop) (hI:OwnFrom w.heap.size I) (hIx:∀ c,OwnFrom w.heap.size (Ix c)) (hIo:∀ s W,I s W->∀ k,s.2=some k->k<W.heap.size) (h0:I ([],o) w)
 (Ax:α->Act->Qah->Prop) (hAx:∀ x a',OwnFrom w.heap.size (fun(_:Unit) W=>Ax x a' W)) (hT:∀ pre x q,OwnFrom w.heap.size (fun(_:Unit) W=>T (w.heap.size+2) pre x q W))
 (hassign:∀ (l:Nat) (pre:List α) (q:Option Nat) (x:α) (W:Qah) (K:Act->Qah->Prop),I (pre,q) W->T (w.heap.size+2) pre x q W->(∀ a' W',W.grownBy W' none->Ax x a' W'->K a' W') ->
 assign.wpIn (Fence.wide.inRound l) 0 P (Exit.then K (fun _ _ _=>False)) { tmps:=(ps.zip (encs x)).foldl (fun t (p,v)=>t.setIfInBounds p v) a.tmps,defers:=[] } W)
 (hbody:∀ (l:Nat) (pre:List α) (q:Option Nat) (x:α) (a':Act) (W:Qah),w.heap.size+2<=W.heap.size->I (pre,q) W->Ax x a' W->T (w.heap.size+2) pre x q W->body.wpIn (Fence.wide.inRound l) 0 P (Z49 M I Ix (pre++[x]) q W) a' W)
 (hdone:∀ (xs:List α) (q:Option Nat) (W:Qah),w.heap.size<W.heap.size->End xs->I (xs,q) W->W.heap[w.heap.size]? = some (.deferred (some []))->q≠some w.heap.size->Q .normal { a with defers:={ target:=.collected w.heap.size,args:=#[] }::a.defers } W)
 (hstop:∀ (c:Code) (pre:List α) (q:Option Nat) (W:Qah),w.heap.size<W.heap.size->Ix c (pre,q) W->W.heap[w.heap.size]? = some (.deferred (some []))->q≠some w.heap.size->c.wpIn Fence.wide m P Q { a with defers:={ target:=.collected w.heap.size,args:=#[] }::a.defers } W) :
 (Code.rangeFunc g ps assign body).wpIn Fence.wide m P Q a w:=by
 refine wpIn_rangeFunc fun fn hfn => ?_
 obtain⟨rec,hrec⟩:∃ rec:LoopState->Option Code->Loop,rec=fun st pe=>{ state:=st,pending:=pe,fn,tmps:=a.tmps,params:=ps,assign,body,defers:=w.heap.size }:=⟨_,rfl⟩
 have hrec':∀ s c,{ rec s c with state:=.ready,pending:=none }=rec .ready none/\∀ s' c',{ rec s c with state:=s',pending:=c' }=rec s' c':=fun s c=>by rw[hrec];exact⟨rfl,fun _ _=>rfl⟩
 obtain⟨D,hDe⟩:∃ D,w.heap.size=D:=⟨_,rfl⟩
 obtain⟨V,hV⟩:∃ V,(w.alloc (.deferred (some []))).alloc (.loop (rec .ready none))=V:=⟨_,rfl⟩
 have hVs:V.heap.size=D+2:=by rw[<- hV,<- hDe];simp
 have hVL:V.heap[D+1]? = some (.loop (rec .ready none)):=by
 rw[<- hV,<- hDe];have:=P4 (w.alloc (.deferred (some []))) (.loop (rec .ready none))
 rwa [Qw] at this
 have hVD:V.heap[D]? = some (.deferred (some [])):=by
 rw[<- hV,<- hDe];exact(Below.heap_alloc _ _ _ (by simp)).trans (P4 w _);have hVb:Qaq w.heap.size w V:=by rw[<- hV];exact((Qc _ w).alloc (Qb _) _).alloc (by simp) _
 have hVI:I ([],o) V:=by rw[<- hV];exact hI.alloc _ (hI.alloc _ h0)
 have hoD:o≠some D/\o≠some (D+1):=⟨fun e=>by have:=hIo _ _ h0 D e;omega,fun e=>by have:=hIo _ _ h0 (D+1) e;omega⟩
 have hMD:¬ M D/\¬ M (D+1):=⟨fun e=>by have:=hM _ e;omega,fun e=>by have:=hM _ e;omega⟩
 have hnw:∀ {A:Qah} {row:Option Nat},(∀ r,row=some r->V.heap.size<=r/\∃ o:Obj,A.heap[r]? = some o/\o.isCells=false)->∀ r,row=some r->w.heap.size<=r/\∃ o:Obj,A.heap[r]? = some o/\o.isCells=false :=
 fun hr r e=>⟨by have:=(hr r e).1;omega,(hr r e).2⟩
 have hkeep:∀ {A B:Qah} {row:Option Nat} {k:Nat} {x:Obj},A.grownBy B row->(∀ r,row=some r->V.heap.size<=r/\∃ o:Obj,A.heap[r]? = some o/\o.isCells=false)->k<D+2->A.heap[k]? = some x->B.heap[k]? = some x:=fun {A B row k x} hg' hr hk hx =>
 (hg'.block k (Qd.1 hx).1 (fun e=>by have:=(hr k e.symm).1;omega)).trans hx
 refine⟨D+1,[{ target:=.collected D,args:=#[] }],V,{ target:=.fn (.func gf) lb,args:=#[.func (.yield (D+1)) #[] #[]] },V,gf,#[.func (.yield (D+1)) #[] #[]]++lb,V,?_,?_,fun _ _=>trivial,?_,fun h=>(by cases h),?_⟩
 ·rw[<- hV,hrec,<- hDe]
 exact run_enterLoop_outer _ _ _ _ _
 ·simp only[resolve,hg]
 simp[go_sem]
 ·simp[invoke,go_sem,eg]
 refine callsIn_wide.2 ((hseq (D+1) (fun k=>M k\/k=D+1)
 (fun s W=>(I s W/\V.heap.size<=W.heap.size)/\(W.heap[D+1]? = some (.loop (rec .ready none))/\W.heap[D]? = some (.deferred (some [])))/\s.2≠some (D+1)/\s.2≠some D)
 (fun s W=>∃ c,(Ix c s W/\V.heap.size<=W.heap.size)/\(W.heap[D+1]? = some (.loop (rec .done (some c)))/\W.heap[D]? = some (.deferred (some [])))/\s.2≠some (D+1)/\s.2≠some D) o V hVb ?_ ?_ ?_ ?_ ?_ ?_ ⟨⟨hVI,Qb _⟩,⟨hVL,hVD⟩,hoD.2,hoD.1⟩).mono ?_)
 ·intro s A B row hs hg' hr
 exact⟨⟨hI s A B row hs.1.1 hg' (hnw hr),Qa hs.1.2 hg'.size⟩,⟨hkeep hg' hr (by omega) hs.2.1.1,hkeep hg' hr (by omega) hs.2.1.2⟩,hs.2.2⟩
 ·rintro s A B row ⟨c,hs⟩ hg' hr
 exact⟨c,⟨hIx c s A B row hs.1.1 hg' (hnw hr),Qa hs.1.2 hg'.size⟩,⟨hkeep hg' hr (by omega) hs.2.1.1,hkeep hg' hr (by omega) hs.2.1.2⟩,hs.2.2⟩
 ·rintro k (h | h)
 ·have:=hM k h
 omega
 ·omega
 ·intro s W1 hs
 exact⟨hs.1.2,hIo s W1 hs.1.1⟩
 ·intro k hk
 obtain⟨h1,h2,h3⟩:=hZ k hk;exact⟨fun h=>h.elim h2 fun e=>by omega,h3⟩
 ·
 rintro pre q x W ⟨⟨hi,hsz⟩,⟨hl,hd⟩,nL,nD⟩ htold;rw[hVs] at htold hsz;rw[<- hDe] at htold;have hy:=run_yield (P:=P) (args:=encs x) hl (by rw[hrec];exact hps x);rw[hrec] at hy;refine⟨fn,_,assign,body,hy,roundIn_of_wpIn hfn (hassign _ pre q x W _ hi htold fun a' Wa hga hax => ?_)⟩;clear hy;have hla:Wa.heap[D+1]? = some (.loop (rec .ready none)):=(hga.block _ (Qd.1 hl).1 (by simp)).trans hl;have hda:Wa.heap[D]? = some (.deferred (some [])):=(hga.block _ (Qd.1 hd).1 (by simp)).trans hd;have hia:=hI _ _ _ none hi hga (by simp);have hta:=hT pre x q () _ _ none htold hga (by simp);have hbeg:=run_beginRound (P:=P) hla (by rw[hrec]);rw[show ({ rec .ready none with state:=.busy }:Loop)=rec .busy none by rw[hrec]] at hbeg;refine⟨_,hbeg,?_⟩;have hlb:=(P3 (w:=Wa) (o:=.loop (rec .busy none)) (Qd.1 hla).1)
 have hdb:=(Qx (w:=Wa) (r:=D+1) (k:=D) (o:=.loop (rec .busy none)) (by omega)).trans hda;have hib:=hI.putObj (.loop (rec .busy none)) hia (by omega:w.heap.size<=D+1) hla rfl;have haxb:=(hAx x a').putObj (s:=()) (.loop (rec .busy none)) hax (by omega:w.heap.size<=D+1) hla rfl;have htb:=(hT pre x q).putObj (s:=()) (.loop (rec .busy none)) hta (by omega:w.heap.size<=D+1) hla rfl;have hkb:Vs (fun k=>M k\/k=D+1) q q W (Wa.putObj (D+1) (.loop (rec .busy none))):=((Vs.refl _ _ _).grown hga (by simp)).grown (grownBy_putObj' _ _ _) fun r e=>by cases e;exact .inr (.inr rfl)
 have hszb:w.heap.size+2<=(Wa.putObj (D+1) (.loop (rec .busy none))).heap.size:=by rw[Pm];have:=hga.size;omega
 refine wpIn_mono (hbody _ pre q x a' _ hszb hib haxb htb) ?_;have fin:∀ (jump:Option Code) (Y:List α×Option Nat->Qah->Prop) (q':Option Nat) (W3:Qah),OwnFrom w.heap.size Y->Y (pre++[x],q') W3->Vs M q q' (Wa.putObj (D+1) (.loop (rec .busy none))) W3->(match jump with | none=>Y=I | some c=>Y=Ix c) ->
 ∃ v W4,(Instr.endRound (D+1) jump).run P W3=.ok v W4/\Z5w (fun k=>M k\/k=D+1) (fun s W=>(I s W/\V.heap.size<=W.heap.size)/\(W.heap[D+1]? = some (.loop (rec .ready none))/\W.heap[D]? = some (.deferred (some [])))/\s.2≠some (D+1)/\s.2≠some D)
  (fun s W=>∃ c,(Ix c s W/\V.heap.size<=W.heap.size)/\(W.heap[D+1]? = some (.loop (rec .done (some c)))/\W.heap[D]? = some (.deferred (some [])))/\s.2≠some (D+1)/\s.2≠some D) (pre++[x]) q W (.returned v) W4:=by
 intro jump Y q' W3 hY hy3 hk3 hJ;obtain⟨v,W4,hr,hk4,hv⟩:=Zxz (P:=P) (J:=fun s W=>(I s W/\V.heap.size<=W.heap.size)/\(W.heap[D+1]? = some (.loop (rec .ready none))/\W.heap[D]? = some (.deferred (some [])))/\s.2≠some (D+1)/\s.2≠some D)
 (Jx:=fun s W=>∃ c,(Ix c s W/\V.heap.size<=W.heap.size)/\(W.heap[D+1]? = some (.loop (rec .done (some c)))/\W.heap[D]? = some (.deferred (some [])))/\s.2≠some (D+1)/\s.2≠some D) hrec' jump hlb hdb (by omega) (by omega:w.heap.size<=D+1) hMD.2 hMD.1 nL nD hk3 (hY.and (I':=fun _ W=>V.heap.size<=W.heap.size) fun _ _ _ _ hs hg _=>Qa hs hg.size)
 ⟨hy3,by have:=hk3.size;omega⟩ (fun W2 hy2 hl2 hd2 n1 n2=>by
  cases jump with
  | none =>
  cases hJ;exact⟨hy2,⟨hl2,hd2⟩,n1,n2⟩
  | some c =>
  cases hJ
  exact⟨c,hy2,⟨hl2,hd2⟩,n1,n2⟩)
 exact⟨v,W4,hr,q',hkb.trans hk4,hv.imp (fun h=>⟨by rw[h.1],h.2⟩) fun h=>⟨by rw[h.1],h.2⟩⟩;rintro e a3 W3 hp;cases e with
 | normal =>
 obtain⟨q',hk3,hi3⟩:=hp;exact fin none I q' W3 hI hi3 hk3 rfl
 | ret =>
 obtain⟨q',hk3,hi3⟩:=hp;exact fin (some .ret) _ q' W3 (hIx _) hi3 hk3 rfl
 | exit id =>
 obtain⟨q',hk3,hi3⟩:=hp;exact fin (some (.exit id)) _ q' W3 (hIx _) hi3 hk3 rfl
 | goto t =>
 obtain⟨q',hk3,hi3⟩:=hp;exact fin (some (.goto t)) _ q' W3 (hIx _) hi3 hk3 rfl
 | panic ch=>exact hp.elim
 | outgrown=>exact hp.elim
 ·
 rintro e W2 ⟨⟨v,rfl⟩,⟨xs,q,hE,⟨hi,hsz⟩,⟨hl,hd⟩,nL,nD⟩ | ⟨pre,q,c,⟨hi,hsz⟩,⟨hl,hd⟩,nL,nD⟩⟩
 ·have:=run_endLoop (P:=P) hl (by rw[hrec];simp)
 rw[hrec] at this;refine⟨none,_,this,?_⟩;have h1:=hdone xs q (W2.putObj (D+1) (.loop { rec .ready none with state:=.exhausted })) (by rw[Pm];omega) hE (hI.putObj _ hi (by omega) hl rfl) (by rw[hDe];exact(Qx (by omega)).trans hd) (by rw[hDe];exact nD);rw[hDe,hrec] at h1;exact h1
 ·have:=run_endLoop (P:=P) hl (by rw[hrec];simp)
 rw[hrec] at this;refine⟨some c,_,this,?_⟩;have h1:=hstop c pre q (W2.putObj (D+1) (.loop { rec .done (some c) with state:=.exhausted })) (by rw[Pm];omega) ((hIx c).putObj _ hi (by omega) hl rfl) (by rw[hDe];exact(Qx (by omega)).trans hd) (by rw[hDe];exact nD);rw[hDe,hrec] at h1;exact h1
end Go.Proofs.YtgmbjnajdfgenaaGreat
namespace Go.Proofs.YtgmbjnajdfgenaaGreat
open Go.RowKit Go.Shelf
attribute [local go_sem] Oper.semAt_some
structure Sv where
 nd:Nd
 pl:Nat
 inst:Bool
 A:Option Qaj
 c:Nat
 lo:Nat
 hi:Nat
def svV (q:Sv):List Qai:=[.int .i64 q.nd.1,.slice q.A q.nd.2.length q.c,.int .i64 (q.pl:Int),.bool q.inst]
def svs (l:List Sv):List Qai:=l.flatMap svV
def Vj (s:Rm):Nat->Int->List (Int×It)
 | 0,a=>(rmV s a).2.flatMap fun x=>[((0:Int),x)]
 | l+1,a=>(rmV s a).2.flatMap fun x=>(((l+1:Nat):Int),x)::Vj s l x.2.1
def Zjn (s:Rm):Nat->It->List (Int×It)
 | 0,x=>[((0:Int),x)]
 | l+1,x=>(((l+1:Nat):Int),x)::Vj s l x.2.1
theorem Zx0 (s:Rm) (l:Nat) (a:Int):Vj s l a=(rmV s a).2.flatMap (Zjn s l):=by
 cases l <;> rfl
theorem Zxs (s:Rm) (x:It):Zjn s 0 x=[((0:Int),x)]:=rfl
theorem Zn5 (s:Rm) (l:Nat) (x:It):Zjn s (l+1) x=(((l+1:Nat):Int),x)::Vj s l x.2.1:=rfl
theorem Z2a (s:Rm) (l:Nat) (x:It):∃ r,Zjn s l x=((l:Int),x)::r:=by
 cases l with
 | zero=>exact⟨[],rfl⟩
 | succ l=>exact⟨_,rfl⟩
def Zho (s:Rm) (l:Nat) (L:List It) (k:Nat):List (Int×It):=(L.take k).flatMap (Zjn s l)
theorem Z07 (s:Rm) (l:Nat) (L:List It):Zho s l L 0=[]:=by simp[Zho]
theorem Z37 (s:Rm) (l:Nat) (L:List It):Zho s l L L.length=L.flatMap (Zjn s l):=by simp[Zho]
theorem Zip (s:Rm) (l:Nat) {L:List It} {k:Nat} {x:It} (hx:L[k]? = some x):Zho s l L (k+1)=Zho s l L k++Zjn s l x:=by
 unfold Zho;rw[List.take_add_one,hx,Option.toList_some,P5];simp
theorem Zsu (s:Rm) (l:Nat) {L:List It} {k:Nat} {x:It} (hx:L[k]? = some x):Zho s l L k++Zjn s l x <+: L.flatMap (Zjn s l):=by
 rw[<- Zip s l hx];refine⟨(L.drop (k+1)).flatMap (Zjn s l),?_⟩;unfold Zho;rw[<- P5,List.take_append_drop]
abbrev Wk:=Int×It×Qai
def Zaw (x:Wk):Int×It:=(x.1,x.2.1)
def Ybn (x:Wk):Array Qai:=#[.int .i64 x.1,x.2.2]
def Fre (B:Nat) (q:Option Nat) (W:Qah):Qaj->Prop:=fun p=>New B W p/\q≠some p.block
def Ybh (L:List (Int×It)) (B:Nat) (pre:List Wk) (x:Wk) (q:Option Nat) (W:Qah):Prop:=(pre++[x]).map Zaw <+: L/\Itm (Fre B q W) W x.2.2 x.2.1
def Ych (L:List (Int×It)) (xs:List Wk):Prop:=xs.map Zaw=L
def Z9y (n0 Bs Br:Nat) (k:Nat):Prop:=k<n0\/k=Bs\/k=Br
theorem Zuu {M:Nat->Prop} {B:Nat} {q q':Option Nat} {W W':Qah} {p:Qaj} {v:Qai} (hM:∀ k,M k->k<B) (hk:Vs M q q' W W') (hp:Fre B q W p) (hc:W.cell? p=some v):Fre B q' W' p/\W'.cell? p=some v:=by
 obtain⟨⟨h1,h2,h3⟩,h4⟩:=hp;have hm:¬ M p.block:=fun e=>by have:=hM _ e;omega
 obtain⟨e,n⟩:=hk.same p.block h2 hm h4;exact⟨⟨⟨h1,Qi h2 hk.size,(P7 e).trans h3⟩,n⟩,(Qg e).trans hc⟩
theorem Zl3 {B B':Nat} {q:Option Nat} {W W':Qah} {row:Option Nat} {p:Qaj} {v:Qai} (hg:W.grownBy W' row) (hr:∀ r,row=some r->B'<=r/\∃ o:Obj,W.heap[r]? = some o/\o.isCells=false) (hp:Fre B q W p) (hc:W.cell? p=some v):Fre B q W' p/\W'.cell? p=some v:=by
 obtain⟨⟨h1,h2,h3⟩,h4⟩:=hp;have hk:=cell_kept hc hg (fun r e=>(hr r e).2);exact⟨⟨⟨h1,Qi h2 hg.size,(frozen_kept hc hg (fun r e=>(hr r e).2)).trans h3⟩,h4⟩,hk⟩
theorem Zl1 (L:List (Int×It)) (B B':Nat) (pre:List Wk) (x:Wk) (q:Option Nat):OwnFrom B' (fun(_:Unit) W=>Ybh L B pre x q W):=fun _ _ _ _ hs hg hr =>
 ⟨hs.1,hs.2.map fun _ _ hp hc=>Zl3 hg hr hp hc⟩
theorem Ziq {P:Program} {fn:Func} {m:Nat} {tmps:Array Qai} {R:Qap->Qah->Prop} {R':Qah->Prop} {B:Nat} (hst:∀ W D,B<=D->W.heap[D]? = some (.deferred (some []))->R' W->R' (W.putObj D (.deferred none)))
 (hf:∀ W,R' W->LeavesIn Fence.wide m P fn tmps R [] .returning W):∀ (Ds:List Nat) (W:Qah),Ds.Nodup->(∀ D∈Ds,B<=D/\W.heap[D]? = some (.deferred (some [])))->R' W->LeavesInM Fence.wide m P fn tmps R (Ds.map fun D=>{ target:=.collected D,args:=#[] }) .returning W
 | [],W,_,_,h=>hf W h
 | D::r,W,hn,hd,h=>by
 obtain⟨h1,h2⟩:=Pn.1 hn;obtain⟨hB,hD⟩:=hd D (by simp);refine⟨by simp,.inl ⟨_,_,rfl,run_takeDeferred hD,?_⟩⟩;refine Ziq hst hf r _ h2 (fun E hE=>⟨(hd E (by simp[hE])).1,?_⟩) (hst W D hB hD h);exact(Qx (fun e=>h1 (by rw[<- e];exact hE))).trans (hd E (by simp[hE])).2
theorem Zgv {P:Program} {fn:Func} {m:Nat} {tmps:Array Qai} {X:Qah->Prop} {B:Nat} (hfn:fn.results=#[]) (hX:∀ W D,B<=D->W.heap[D]? = some (.deferred (some []))->X W->X (W.putObj D (.deferred none))) {Ds:List Nat} {W:Qah} (hn:Ds.Nodup) (hd:∀ D∈Ds,B<=D/\W.heap[D]? = some (.deferred (some []))) (hx:X W) :
 LeavesInM Fence.wide m P fn tmps (fun e W'=>(∃ v,e=.returned v)/\X W') (Ds.map fun D=>{ target:=.collected D,args:=#[] }) .returning W :=
 Ziq (R':=X) hX (fun _ h=>⟨_,results_none hfn _ _ _,⟨_,rfl⟩,h⟩) Ds W hn hd hx
structure Wup (L:List (Int×It)) (k tb:Ky) (e:Bool):Prop where
 up:L.Pairwise fun p q=>LeK p.2.1 q.2.1
 ge:∀ p∈L,LeK k p.2.1
 bound:e=true->∀ p∈L,Zo p.2.1 tb=true
theorem Z55 {l:List It} {lv:Int} (h:Up l):(l.flatMap fun x=>[(lv,x)]).Pairwise fun p q=>LeK p.2.1 q.2.1:=by
 rw[show (l.flatMap fun x=>[(lv,x)])=l.map fun x=>(lv,x) by induction l with | nil=>rfl | cons y r ih=>rw[Pa,ih (Pd.1 h).2];rfl];exact Po.map _ (fun a b hab=>.inr hab) h
theorem Zrg {f:Int->Ky->Ky->Bool->Bool} {g:Int->List (Int×It)} {lv:Int} (hf:∀ a k tb e,f a k tb e=true->Wup (g a) k tb e) (hk:∀ a k tb,f a k tb true=true->Zo k tb=true):∀ (L:List It) (x:It) (r:List It) (tb:Ky) (e:Bool),L=x::r->Zae f L tb e=true ->
 Wup (L.flatMap fun x=>(lv,x)::g x.2.1) x.1 tb e
 | [x],_,_,tb,e,rfl,h=>by
 have h1:=hf _ _ _ _ h;have e2:([x]:List It).flatMap (fun x=>(lv,x)::g x.2.1)=(lv,x)::g x.2.1:=by simp
 rw[e2];refine⟨Pd.2 ⟨h1.ge,h1.up⟩,fun p hp => ?_,fun he p hp => ?_⟩
 ·rcases Qm.1 hp with rfl | hp
 ·exact .inl rfl
 ·exact h1.ge p hp
 ·rcases Qm.1 hp with rfl | hp
 ·subst he
 exact hk _ _ _ h
 ·exact h1.bound he p hp
 | x::y::r,_,_,tb,e,rfl,h=>by
 unfold Zae at h;rw[Pp] at h;have h1:=hf _ _ _ _ h.1;have hxy:=hk _ _ _ h.1;have h2:=Zrg (lv:=lv) hf hk (y::r) y r tb e rfl h.2;have e2:(x::y::r).flatMap (fun x=>(lv,x)::g x.2.1)=((lv,x)::g x.2.1)++(y::r).flatMap fun x=>(lv,x)::g x.2.1:=Pa
 rw[e2];have hlt:∀ p∈(lv,x)::g x.2.1,Zo p.2.1 y.1=true:=fun p hp=>by
 rcases Qm.1 hp with rfl | hp
 ·exact hxy
 ·exact h1.bound rfl p hp
 have hge:∀ p∈(lv,x)::g x.2.1,LeK x.1 p.2.1:=fun p hp=>by
 rcases Qm.1 hp with rfl | hp
 ·exact .inl rfl
 ·exact h1.ge p hp
 refine⟨Pq.2 ⟨Pd.2 ⟨h1.ge,h1.up⟩,h2.up,fun p hp q hq=>LeK.trans (.inr (hlt p hp)) (h2.ge q hq)⟩,fun p hp => ?_,fun he p hp => ?_⟩
 ·rcases Qn.1 hp with hp | hp
 ·exact hge p hp
 ·exact LeK.trans (.inr hxy) (h2.ge p hp)
 ·rcases Qn.1 hp with hp | hp
 ·have hy:(lv,y)∈(y::r).flatMap fun x=>(lv,x)::g x.2.1:=Qp.2 ⟨y,by simp,by simp⟩
 exact Yo (hlt p hp) (h2.bound he _ hy)
 ·exact h2.bound he p hp
theorem Zos (s:Rm):∀ (l:Nat) (a:Int) (k tb:Ky) (e:Bool),Zx s l a k tb e=true->Wup (Vj s l a) k tb e
 | 0,a,k,tb,e,h=>by
 obtain⟨h1,_,h3,_⟩:=Z9 h;have hp:=Y2 s 0 a k tb e h;have hu:=Uj (Ya h1).1;refine⟨Z55 hu,fun p hp' => ?_,fun he p hp' => ?_⟩
 ·obtain⟨x,hx,hm⟩:=Qp.1 hp'
 rw[Qk] at hm;subst hm;rcases hp.ge x hx with e | e
 ·exact .inl e.symm
 ·exact .inr e
 ·obtain⟨x,hx,hm⟩:=Qp.1 hp'
 rw[Qk] at hm;subst hm;exact hp.bound he x hx
 | l+1,a,k,tb,e,h=>by
 obtain⟨_,_,h3,h4⟩:=Z9 h;obtain⟨x,r,ex,ek,_⟩:=Za5 h3
 have:=Zrg (lv:=((l+1:Nat):Int)) (Zos s l) (fun a k tb h=>by
 have hp:=Y2 s l a k tb true h;obtain⟨z,q,ez,kz⟩:=hp.first;rw[<- kz]
 exact hp.bound rfl z (by rw[ez];simp)) (rmV s a).2 x r tb e ex h4
 rw[ek] at this;exact this
theorem Z3b {s:Rm} {a:Int} (h:Ys s a=true):(Vj s (rmV s a).1.toNat a).Pairwise fun p q=>LeK p.2.1 q.2.1:=by{
obtain⟨h1,_,hm,l0,_,hi⟩:=Y4 h;unfold Uk at hi;cases hl:(rmV s a).1.toNat with
| zero=>exact Z55 (Uj hm)
| succ l =>
rw[hl] at hi;cases hL:(rmV s a).2 with
| nil=>simp[Vj,hL]
| cons x r =>
 have:=Zrg (lv:=((l+1:Nat):Int)) (Zos s l) (fun a k tb h=>by
 have hp:=Y2 s l a k tb true h;obtain⟨z,q,ez,kz⟩:=hp.first;rw[<- kz]
 exact hp.bound rfl z (by rw[ez];simp)) (rmV s a).2 x r Zbm false hL hi
 exact this.up}
theorem Zhs (s:Rm):∀ (l:Nat) (a:Int),((Vj s l a).filter fun p=>decide (p.1=0)).map (·.2)=X7 s l a
 | 0,a=>by
 unfold Vj X7
 induction (rmV s a).2 with
 | nil=>rfl
 | cons x r ih=>simp[ih]
 | l+1,a=>by
 unfold Vj X7
 induction (rmV s a).2 with
 | nil=>rfl
 | cons x r ih =>
 rw[Pa,Pa,Qj,Qe,ih,<- Zhs s l x.2.1,Qu (by simp;omega)]
def Zal (f:Ky) (M:List (Int×It)):List It:=(M.filter fun p=>decide (p.1=0) && !Zo p.2.1 f).map (·.2)
theorem Z4j {f:Ky} {M:List (Int×It)} {p:Int×It} (h0:p.1=0) (h:Zo p.2.1 f=false):Zal f (M++[p])=Zal f M++[p.2]:=by
 unfold Zal;rw[Qj,Qe,Pr (by simp[h0,h])];rfl
theorem Zx2 {f:Ky} {M:List (Int×It)} {p:Int×It} (h:p.1≠0\/Zo p.2.1 f=true):Zal f (M++[p])=Zal f M:=by
 unfold Zal;rw[Qj,Qe,Qu (by rcases h with h | h <;> simp[h])];simp
theorem Zqh {f t:Ky} {M:List (Int×It)} (h:∀ p∈M,Zo t p.2.1=false):Zal f M=((M.filter fun p=>decide (p.1=0)).map (·.2)).filter (Z56 f t):=by{
unfold Zal;rw[List.filter_map,List.filter_filter]
congr 1
refine P8 fun p hp => ?_
show _=(Z56 f t p.2&&decide (p.1=0));unfold Z56;rw[h p hp];cases decide (p.1=0) <;> cases Zo p.2.1 f <;> rfl}
theorem Z2p {s:Rm} {a:Int} {f t:Ky} {M:List (Int×It)} (hM:M=Vj s (rmV s a).1.toNat a) (h:∀ p∈M,Zo t p.2.1=false):Zal f M=Zhi s a f t:=by
 rw[Zqh h,hM,Zhs];rfl
theorem Z19 {s:Rm} {a:Int} (ht:Ys s a=true) {f t:Ky} {M:List (Int×It)} {p:Int×It} (hM:M++[p] <+: Vj s (rmV s a).1.toNat a) (h:∀ p∈M,Zo t p.2.1=false) (hp:Zo t p.2.1=true):Zal f M=Zhi s a f t:=by{
obtain⟨r,hr⟩:=hM;have hu:=Z3b ht;rw[<- hr,Qq] at hu;have hlt:∀ q∈[p]++r,Zo t q.2.1=true:=fun q hq=>by
rcases Qm.1 hq with rfl | hq
·exact hp
·have:=(Pd.1 (Pq.1 hu).2.1).1 q hq
 rcases this with e | e
 ·rw[<- e];exact hp
 ·exact Yo hp e
rw[Zqh h];unfold Zhi Zbl;rw[<- Zhs,<- hr,Qq,Qj,Qe,Qj]
rw[Uv (L:=(([p]++r).filter fun p=>decide (p.1=0)).map (·.2)) fun x hx=>by
obtain⟨q,hq,rfl⟩:=Qr.1 hx;have:=hlt q (Pe.1 hq).1;unfold Z56;rw[this]
simp]
rw[P9]}
theorem Z2k {s:Rm} {a:Int} (ht:Ys s a=true) {f:Ky} {M:List (Int×It)} (hM:M <+: Vj s (rmV s a).1.toNat a):(Zal f M).length<=15625:=by{
obtain⟨r,hr⟩:=hM;have h1:=(Zl2 ht).2.1;have h2:(Zbl s a).length=((Vj s (rmV s a).1.toNat a).filter fun p=>decide (p.1=0)).length:=by
unfold Zbl;rw[<- Zhs,Pf];rw[h2,<- hr,Qj,Qh] at h1;have h3:(Zal f M).length<=(M.filter fun p=>decide (p.1=0)).length:=by
unfold Zal;rw[Pf];rw[<- Qaa,<- Qaa];exact List.countP_mono_left fun p _ hp=>by
 rw[Pp] at hp;exact hp.1
omega}
section
variable {α : Type} {R : Rel α} {size : Nat} {t : Qak} {lo : Nat} {w w' : Qah} {A : Option Qaj} {c : Nat} {xs : List α}
theorem Yj.push_at {P:Program} (hR:Ze2 R) (h:Yj R size t lo w A c xs) (st ty:Qak) (i:TypeInfo) (z:Qai) (bytes:Nat) (ht:P.underlying st=some (.slice t)) (hi:P.info? t=some i) (hz:i.zero=some z)
 (hsize:i.size=size) (hby:i.bytes=bytes) (hzs:z.cells.size=size) (hsz:0<size) (ad:Qaj) (m:Nat) (news:List Qai) (x:α) (hl:news.length=size) (hnews:∀ j u,news[j]? = some u->w.cell? (ad.add j)=some u) (h1:∀ u∈news,u.oneCell'=true)
 (h63:xs.length+1<=maxLen) (hbytes:(xs.length+1)*bytes<=140737488355328) (hbase:lo<=w.heap.size) (hx:R (Xy lo A w) w news x) :
 ∃ A' c' w',(Qv #[st,st] ty #[.slice A xs.length c,.slice (some ad) 1 m]).run P w=.ok (.slice A' (xs.length+1) c') w'/\Yj R size t lo w' A' c' (xs++[x])/\w.grownBy w' (A.map (·.block))/\Qaq lo w w'/\(A'.map (·.block)=A.map (·.block)\/A'.map (·.block)=some w.heap.size):=by
 obtain⟨cs,ho,hcs⟩:=h;obtain⟨A1,c1,e,_,_,e4,_⟩:=Yi ho;cases e;obtain⟨v',w',hr,o1,g1,b1,k1⟩:=Zco (P:=P) (w:=w) lo st ty t i z size bytes ht hi hz hsize hby hzs hsz _ _ cs ho ad 1 m news (by omega) hnews h1 h63 hbytes hbase;obtain⟨A2,c2,rfl,_,_,e5,_⟩:=Yi o1;rw[e4] at g1 k1;rw[e5] at k1;have mp:∀ p v,Xy lo A w p->w.cell? p=some v->Xy lo A2 w' p/\w'.cell? p=some v:=fun p v hp hc=>by
 have hb:=g1.block p.block hp.1.2.1 (fun e=>hp.2 e.symm);refine⟨⟨⟨hp.1.1,Qi hp.1.2.1 g1.size,(P7 hb).trans hp.1.2.2⟩,fun e => ?_⟩,(Qg hb).trans hc⟩;rcases k1 with k | k
 ·exact hp.2 (k ▸ e)
 ·rw[k] at e
 simp only[Option.some.injEq] at e;have:=hp.1.2.1;omega;refine⟨A2,c2,w',hr,⟨cs++news,by rw[Qh];exact o1,fun j y hj => ?_⟩,g1,b1,k1⟩;have hcl:cs.length=xs.length*size:=ho.1;rcases Pi j xs.length with hjl | hjl
 ·rw[Pg hjl] at hj
 obtain⟨vs,e1,e2,e3⟩:=hcs j y hj;refine⟨vs,e1,fun k u hk => ?_,hR _ _ _ _ _ _ mp e3⟩;have hcu:=e2 k u hk;rw[Pg (Ql.1 hcu).1];exact hcu
 ·rw[Qt hjl] at hj
 have hj0:j=xs.length:=by
 have:=(Ql.1 hj).1;simp at this;omega;subst hj0;simp at hj;subst hj;refine⟨news,hl,fun k u hk => ?_,hR _ _ _ _ _ _ mp hx⟩;rw[Qt (by omega),hcl,Nat.add_sub_cancel_left];exact hk
end
theorem Zri {w:Qah} {lo:Nat} {A:Option Qaj} {c:Nat} {xs:List It} (h:Yj rIt 5 54 lo w A c xs) (g:Nat) (s:It) (d:Qai) (m n:Nat) (hn:xs.length=n) (hg:w.heap[g]? = some (.cells #[.int .u8 (s.1.1.toNat:Int),.int .u32 s.1.2.1,.int .u32 s.1.2.2,.int .i64 s.2.1,d] 54 (0,0))) (hs:n<100000) (hbase:lo<=w.heap.size) (hin:InI s) (hx:rBy (Xy lo A w) w [d] s.2.2) :
 ∃ A' c' w',(Qv #[39,39] 39 #[.slice A n c,.slice (some ⟨g,0,none⟩) 1 m]).run Tryz.prog w=.ok (.slice A' (n+1) c') w'/\Yj rIt 5 54 lo w' A' c' (xs++[s])/\w.grownBy w' (A.map (·.block))/\Qaq lo w w'/\(A'.map (·.block)=A.map (·.block)\/A'.map (·.block)=some w.heap.size):=by
 subst hn;obtain⟨i0,hi,hz0,hz1,hz2⟩:=info_parts Va;obtain⟨E,ce,rfl,_⟩:=id (Zt hx)
 exact Yj.push_at Z0 h 39 39 i0 (.agg #[.int .u8 0,.int .u32 0,.int .u32 0,.int .i64 0,.slice none 0 0]) 48 Tryz.underlying39 hi hz0 hz1 hz2 rfl (by decide) ⟨g,0,none⟩ m _ s rfl (Qab (cs:=#[.int .u8 (s.1.1.toNat:Int),.int .u32 s.1.2.1,.int .u32 s.1.2.2,.int .i64 s.2.1,.slice E s.2.2.length ce]) hg) (fun u hu=>by
 simp at hu
 rcases hu with rfl | rfl | rfl | rfl | rfl <;> rfl) (by unfold maxLen;omega) (by omega) hbase (Zs8 hin hx)
theorem Z22 (v u:Qai) (s:Rm) (hm:Xl s=true) (n:Nd) (hn:Yd n=true) (w:Qah) (h:Sto (Old w) w v s) (hu:Nod (Old w) w u n) :
 Qao Tryz.prog 70 #[v,u] w fun e w'=>e=.returned (.bool (Yw s n.2))/\Qaq w.heap.size w w':=by
 have hrf:=Za (Vz hn);have hls:=Za (Yx (Yf hm).2.1);obtain⟨A,ca,B,cb,N,cn,L,cl,rfl,_⟩:=id h.open;obtain⟨I,ci,rfl,-,-,-,hI⟩:=id hu.open;obtain⟨lw,hlw⟩:∃ q,n.1=q:=⟨_,rfl⟩
 obtain⟨l,hl⟩:∃ q,n.2=q:=⟨_,rfl⟩
 obtain⟨m,hlm⟩:∃ q,l.length=q:=⟨_,rfl⟩
 rw[hl] at hrf;rw[hl,hlm] at hI;rw[hl,hlw,hlm];have hm5:m<=5:=by
 have:=(Zw hn).1.2.2.1;rw[hl,hlm] at this;exact this;obtain⟨ad,ld,rfl,rfl,-,-,-,-,had,-,hc⟩:=Zn6 hm h.parts.2.1 h.parts.2.2;have HG0:Bag w [Zzo (.slice I m ci) l,Zui (.agg #[.slice A s.1.1.length ca,.slice B s.1.2.length cb,.slice (some ad) s.2.1.length cn,.slice (some ld) s.2.2.length cl]) s]:=((Bag.nil w).add (F:=Zui _ s) h (Uo _ _)).add (F:=Zzo _ l) hI (Zi6 _ _);obtain⟨w0,hw0,hg0,hB0,_,hs0⟩:=Zd6 HG0 (Qc _ _) (.slice A s.1.1.length ca) (.slice B s.1.2.length cb) (.slice (some ad) s.2.1.length cn) (.slice (some ld) s.2.2.length cl) 29;obtain⟨w1,hw1,hg1,hB1,_,hs1⟩:=Zfy hg0 (Qc _ _) (.int .i64 lw) (.slice I m ci);have HG:=Za hg1;have BB:=Za (hB0.trans (hB1.mono hB0.size));have cS:Hid (∀ j,j<256->∀ W,Qaq w1.heap.size w1 W->W.cell? (ad.add j)=some (.int .u8 ((s.2.1[j]?.getD 0).toNat:Int))):=Za fun j hj W hW =>
 ((BB.out.trans (hW.mono BB.out.size)).cell (by rw[Zh];exact had)).trans (hc j hj).1
 obtain⟨y0,y1,_⟩:=hg1.at 0 rfl;replace hs1:=Za hs1;replace hs0:=Za hs0;replace hlw:=Za hlw;replace hl:=Za hl;replace hlm:=Za hlm;clear HG0 hg1 hg0 h hu hB1 hB0 hc hI
 go_enter Tryz.func70,Tryz.ntmps70
 go_upto_region 1 with fail
 clear hw1 hw0
 go_wp2_with fail
 clear y0 y1
 go_loopw [10] (fun vi wr=>∃ k:Nat,k<=m/\vi=.int .i64 k/\Yw s (l.take k)=true/\Qaq w1.heap.size w1 wr) (fun vi _=>m-(intOf vi).toNat)
 case atStart=>exact⟨0,by omega,rfl,rfl,Qc _ _⟩
 case round =>
 obtain⟨k,hk,rfl,hE,hbr⟩:=hrel;have HR:=Za (HG.out.below hbr);have BR:=Za (BB.out.trans (hbr.mono BB.out.size));by_cases hlt:k<m
 case neg =>
 have hf:Hid (Yw s l=true):=Za (by rw[<- hE,Qac (by rw[hlm.out];omega)]);clear hE hbr
 go_wp2_with fail
 go_ret;exact⟨Ym hf.out.symm,BR.out⟩;obtain⟨x,hx⟩:∃ x,l[k]? = some x:=⟨_,Qf (by rw[hlm.out];exact hlt)⟩
 have hxr:=hrf.out x (Ph hx);have hIt:U5 (Old wr) wr [.slice I m ci] l:=HR.out.at 2 rfl;obtain⟨a5,E5,ce5,rfl,_,_,_,FX⟩:=V4 hIt hx;obtain⟨⟨z0,z1,z2,z3,z4⟩,_⟩:=FX wr (Qc _ _);obtain⟨w2,hw2,r0,r1,r2,r3,r4,hs2,hB2,_⟩:=Z8 wr (.int .u8 (x.1.1.toNat:Int)) (.int .u32 x.1.2.1) (.int .u32 x.1.2.2) (.int .i64 x.2.1) (.slice E5 x.2.2.length ce5) 54;have B2:=Za (hbr.trans (hB2.mono hbr.size));have H2:=Za (HR.out.below hB2);have BF:=Za (BB.out.trans (B2.out.mono BB.out.size));replace hs2:=Za hs2;clear FX hIt hB2
 go_upto_region 4 with fail
 clear hw2 z0 z1 z2 z3 z4;obtain⟨k0,k1,k2,k3,_⟩:=H2.out.at 1 rfl;rw[hls.out] at k2;have i4:(0:Int)<=(k:Int):=by omega
 have i5:(k:Int)<(m:Int):=by omega
 obtain⟨z,hzz⟩:∃ z,x.2.1=z:=⟨_,rfl⟩
 rw[hzz] at r3 hxr;by_cases hz0:z=0
 ·subst hz0
 have hst:Hid (Yw s (l.take (k+1))=true):=Za (by rw[Zyq hx hzz,hE]);replace hx:=Za hx;replace hzz:=Za hzz;clear hE hxr;replace hbr:=Za hbr
 go_wp2_with fail
 go_roundw
 case rel=>exact⟨k+1,by omega,by go_num,hst.out,B2.out⟩
 case measure=>simp[intOf];omega
 ·obtain⟨r,hr,r8,r256⟩:∃ r:Nat,z=r/\8<=r/\r<256:=⟨z.toNat,by omega,by omega,by omega⟩
 subst hr;have hcell:=cS.out r r256 w2 B2.out;obtain⟨y,hy⟩:∃ y,s.2.1[r]?.getD 0=y:=⟨_,rfl⟩
 have hst:=Z2w hx hzz (by omega) hy;rw[hE,Bool.true_and] at hst;rw[hy] at hcell;have j0:(0:Int)<=(r:Int):=by omega
 have j1:r<256:=r256;have j2:¬ r=0:=by omega
 replace hbr:=Za hbr;replace hzz:=Za hzz;replace hy:=Za hy;clear hE hxr hz0;by_cases hy0:y=0
 ·have t0:=Vl (y:=0) (q:=0) rfl hy0
 have hf:Hid (Yw s l=false):=Za (Z3l (i:=k+1) (by rw[hst];simp[hy0]));replace hx:=Za hx;clear hst hy0
 go_wp2_with fail
 go_ret;exact⟨Ym hf.out.symm,BF.out⟩
 ·have t0:=Xt (y:=0) (q:=0) rfl hy0
 replace hst:Hid (Yw s (l.take (k+1))=true):=Za (by rw[hst];simpa using hy0);replace hx:=Za hx;clear hy0
 go_wp2_with fail
 go_roundw
 case rel=>exact⟨k+1,by omega,by go_num,hst.out,B2.out⟩
 case measure=>simp[intOf];omega
def StC (g:Int->Option (Ky×Ky)) (l:List It) (k:Nat) (t:Ky):Prop:=k=0\/∃ f,Y9 g (l.take k)=some (f,t)
section
variable {g : Int -> Option (Ky × Ky)} {l : List It} {k : Nat} {x : It} {p : Ky × Ky} {t : Ky}
theorem Zxi (hx:l[k]? = some x) (h:g x.2.1=none):Y9 g l=none:=by{
refine Ziv (k:=k+1) (by omega) ?_;by_cases h0:k=0
·subst h0
rw[Zf4 hx,h];rfl
·rw[Zax hx (by omega),h]
cases Y9 g (l.take k) <;> rfl}
theorem Zxc (hx:l[k]? = some x) (h:g x.2.1=some p) (hp:p.1≠x.1):Y9 g l=none:=by{
refine Ziv (k:=k+1) (by omega) ?_;by_cases h0:k=0
·subst h0
rw[Zf4 hx,h];simp[hp]
·rw[Zax hx (by omega),h]
cases Y9 g (l.take k) <;> simp[hp]}
theorem Zxt (hx:l[k]? = some x) (h0:k≠0) (hs:StC g l k t) (hl:Zo t x.1=false):Y9 g l=none:=by
 rcases hs with hs | ⟨f,hs⟩
 ·exact absurd hs h0
 refine Ziv (k:=k+1) (by omega) ?_;rw[Zax hx (by omega),hs];cases g x.2.1 <;> simp[hl]
theorem Zy5 (hx:l[k]? = some x) (hs:StC g l k t) (hl:k≠0->Zo t x.1=true) (h:g x.2.1=some p) (hp:p.1=x.1):StC g l (k+1) p.2:=by{
refine .inr ?_;by_cases h0:k=0
·subst h0
rw[Zf4 hx,h]
exact⟨p.1,by
 show (if p.1=x.1 then some p else none)=some (p.1,p.2)
 rw[if_pos hp]⟩
·rcases hs with hs | ⟨f,hs⟩
·exact absurd hs h0
rw[Zax hx (by omega),hs,h];exact⟨f,by simp[hp,hl h0]⟩}
end
theorem Zvg {s:Rm} {n:Nd} (h:n.2.length=0):Zcs s n=none:=by
 have e:n.2=[]:=Pw h;unfold Zcs;rw[e];cases n.1.toNat with
 | zero=>simp[Yw]
 | succ l=>rfl
theorem Z61 {s:Rm} {l:Nat} {a:Int} (h:¬ (rmE s a=0/\(rmV s a).1=(l:Int)/\(rmV s a).2.length≠0)):Zbi s l a=none:=by{
rw[Zpe];by_cases h1:rmE s a=0/\(rmV s a).1=(l:Int)
·rw[if_pos h1]
by_cases h2:(rmV s a).2.length=0
·exact Zvg h2
·exact absurd ⟨h1.1,h1.2,h2⟩ h
·rw[if_neg h1]}
theorem Z3m {s:Rm} {l:Nat} {a:Int} (h1:rmE s a=0) (h2:(rmV s a).1=(l:Int)):Zbi s l a=Zcs s (rmV s a):=by
 rw[Zpe,if_pos ⟨h1,h2⟩]
abbrev Z91 (Bs Be:Nat):Qai:=.func (.func 69) #[] #[.pointer (some ⟨Bs,0,none⟩),.pointer (some ⟨Be,0,none⟩)]
def Z2c (g:Nat) (v:Qai):Qah->Prop:=fun w=>w.cell? ⟨g,0,none⟩=some v/\g<w.heap.size
theorem Zeb (g:Nat) (v:Qai):Zf3 (Z2c g v):=fun _ _ h hb=>⟨(hb.cell (p:=⟨g,0,none⟩) h.2).trans h.1,Qi h.2 hb.size⟩
def Ya3 (s:Rm) (n:Nd) (w:Qah):Qap->Qah->Prop:=fun e w'=>∃ f t ok,e=.returned (.tuple #[kyV f,kyV t,.bool ok])/\Zcs s n=(if ok=true then some (f,t) else none)/\Qaq w.heap.size w w'
theorem Zbv {s:Rm} {n:Nd} {w w':Qah} (f t:Ky) (ok:Bool) (h:Zcs s n=if ok=true then some (f,t) else none) (hb:Qaq w.heap.size w w'):Ya3 s n w (.returned (.tuple #[kyV f,kyV t,.bool ok])) w':=⟨f,t,ok,rfl,h,hb⟩
def Zzb (s:Rm) (l:Nat):Prop:=∀ (u v0 v1 v2 v3:Qai) (n:Nd) (Bs Be:Nat) (w:Qah),Yd n=true->n.1=(l:Int)->n.2.length≠0->Nod (Old w) w u n->Sto (Old w) w (.agg #[v0,v1,v2,v3]) s->Z24 Bs v0 v1 v2 v3 w->Z2c Be (Z91 Bs Be) w ->
 Qao Tryz.prog 69 #[u,.pointer (some ⟨Bs,0,none⟩),.pointer (some ⟨Be,0,none⟩)] w (Ya3 s n w)
theorem Zys (s:Rm) (hm:Xl s=true) (l0:Nat) (hr0:∀ j,l0=j+1->Zzb s j):Zzb s l0:=by{
intro u v0 v1 v2 v3 n Bs Be w hmn0 hlv hne hu h hBs hBe;have hmn:=Za hmn0;obtain⟨I,ci,rfl,-,-,-,hI⟩:=id hu.open;obtain⟨lw,hlw⟩:∃ q,n.1=q:=⟨_,rfl⟩
obtain⟨l,hl⟩:∃ q,n.2=q:=⟨_,rfl⟩
obtain⟨m,hlm⟩:∃ q,l.length=q:=⟨_,rfl⟩
obtain⟨R,hR⟩:∃ R,Zcs s n=R:=⟨_,rfl⟩
have hR0:=Za (fun(x y:It) (j:Nat) (h1:n.1=0) (h2:n.2[0]? = some x) (h3:n.2.length=j+1) (h4:n.2[j]? = some y)=>Zom (s:=s) h1 h2 h3 h4);have hR1:=Za (fun(j:Nat) (hj:n.1=((j+1:Nat):Int))=>Zqj (s:=s) hj);rw[hR] at hR0 hR1;have hu':=hu;rw[hl,hlm] at hI;rw[hlw,hl,hlm] at hu';rw[hlw,hl,hlm] at hR0;rw[hlw,hl] at hR1;rw[hl,hlw,hlm];rw[hlw] at hlv;rw[hl,hlm] at hne;have hm5:m<=5:=by
have:=(Zw hmn.out).1.2.2.1;rw[hl,hlm] at this;exact this;have HG0:Bag w [Z2c Be (Z91 Bs Be),Z24 Bs v0 v1 v2 v3,Z6d (.agg #[.int .i64 lw,.slice I m ci]) n,Zzo (.slice I m ci) l,Zui (.agg #[v0,v1,v2,v3]) s] :=
(((((Bag.nil w).add (F:=Zui _ s) h (Uo _ _)).add (F:=Zzo _ l) hI (Zi6 _ _)).add (F:=Z6d _ n) hu' (Zb6 _ _)).add (F:=Z24 _ _ _ _ _) hBs (V5 _ _ _ _ _)).add (F:=Z2c _ _) hBe (Zeb _ _)
obtain⟨w0,hw0,b0,hs0,hB0⟩:=Yc w (.int .i64 lw) (.slice I m ci) 81;obtain⟨w1,hw1,_,_,_,hs1,hB1,b1⟩:=Xa w0 (.int .u8 0) (.int .u32 0) (.int .u32 0) 37;obtain⟨w2,hw2,_,_,_,hs2,hB2,b2⟩:=Xa w1 (.int .u8 0) (.int .u32 0) (.int .u32 0) 37;have HG:=Za HG0;have BB:=Za ((hB0.trans (hB1.mono hB0.size)).trans (hB2.mono (hB0.trans (hB1.mono hB0.size)).size));have G0:Yh w.heap.size #[.int .i64 lw,.slice I m ci] 81 w2:=Zr _ _ _ _ _ (Zr _ _ _ _ _ b0 hB1) hB2;have G1:Yh w0.heap.size #[.int .u8 0,.int .u32 0,.int .u32 0] 37 w2:=Zr _ _ _ _ _ b1 hB2;have G2:Yh w1.heap.size #[.int .u8 0,.int .u32 0,.int .u32 0] 37 w2:=b2;have lo:Hid (w.heap.size<w0.heap.size/\w0.heap.size<w1.heap.size/\w1.heap.size<w2.heap.size):=Za ⟨by omega,by omega,by omega⟩;obtain⟨y0,y1,_⟩:=Zg G0;replace hs2:=Za hs2;replace hs1:=Za hs1;replace hs0:=Za hs0;replace hlw:=Za hlw;replace hl:=Za hl;replace hlm:=Za hlm;replace hlv:=Za hlv;replace hR:=Za hR;replace G0:=Za G0;replace G1:=Za G1;replace G2:=Za G2;clear HG0 h hu hu' hB2 hB1 hB0 hI hBs hBe b0 b1 b2 hmn0;obtain⟨m1,hm1⟩:∃ j,m=j+1:=⟨m-1,by omega⟩
obtain⟨x0,hx0⟩:∃ x,l[0]? = some x:=⟨_,Qf (by rw[hlm.out];omega)⟩
obtain⟨yl,hyl⟩:∃ x,l[m1]? = some x:=⟨_,Qf (by rw[hlm.out];omega)⟩
have hx0':=Za hx0;have hyl':=Za hyl;have HW2:=Za (HG.out.below BB.out);obtain⟨ad,E0,ce0,rfl,_,FX0⟩:=Zfu (HW2.out.at 3 rfl:U5 (Old w2) w2 [.slice I m ci] l) hx0;have FX:=Za (fun W (hW:Qaq w2.heap.size w2 W)=>(FX0 W hW).1);have iz:0<m:=by omega
cases l0 with
| zero =>
obtain⟨ad',E6,ce6,e6,_,_,_,FY0⟩:=V4 (HW2.out.at 3 rfl:U5 (Old w2) w2 [.slice (some ad) m ci] l) hyl;cases e6;have FY:=Za (fun W (hW:Qaq w2.heap.size w2 W)=>(FY0 W hW).1);have e0:lw=0:=hlv.out;subst e0;obtain⟨b,hb⟩:∃ b,Yw s l=b:=⟨_,rfl⟩
have hfin:=Za (hR0.out x0 yl m1 rfl hx0 hm1 hyl);rw[hb] at hfin;replace hb:=Za hb;have i6:(m:Int)-1=(m1:Int):=by omega
have i7:(m1:Int)<(m:Int):=by omega
have i8:(0:Int)<=(m1:Int):=by omega
have i9:IntKind.i64.wrap (m1:Int)=(m1:Int):=Ps _ (by omega);have i0:(0:Int)<(m:Int):=by omega
replace hm1:=Za hm1;clear hR0 hR1 hx0 hyl FX0 FY0
go_enter Tryz.func69,Tryz.ntmps69
go_upto_region 1 with fail
clear hw0 hw1 hw2
go_wp2_with fail
clear y0 y1;obtain⟨o4,ho4⟩:∃ o,(Obj.cells #[.int .u8 (x0.1.1.toNat:Int),.int .u32 x0.1.2.1,.int .u32 x0.1.2.2] 37 (0,0))=o:=⟨_,rfl⟩
obtain⟨o5,ho5⟩:∃ o,(Obj.cells #[.int .u8 (yl.1.1.toNat:Int),.int .u32 yl.1.2.1,.int .u32 yl.1.2.2] 37 (0,0))=o:=⟨_,rfl⟩
obtain⟨fin,hfn⟩:∃ f,Zhe w0.heap.size o4 w1.heap.size o5=f:=⟨_,rfl⟩
have fn4:Hid (fin w0.heap.size=some o4):=Za (by rw[<- hfn];exact Zhb _ _ _ _);have fn5:Hid (fin w1.heap.size=some o5):=Za (by rw[<- hfn];exact Zgz (by have:=lo.out;omega) _ _);have fnl:Hid (∀ k,k<w0.heap.size->fin k=none):=Za fun k hk=>by rw[<- hfn];exact Zev (by omega) (by have:=lo.out;omega) _ _
replace ho4:=Za ho4;replace ho5:=Za ho5;replace hfn:=Za hfn;have HW0:=Za (fun W (hK:Yq fin w2 W)=>BB.out.trans (hK.below BB.out.size (fun k hk=>fnl.out k (by have:=lo.out;omega))));have hcl:Hid (∀ W,Yq fin w2 W->Qao Tryz.prog 70 #[.agg #[v0,v1,v2,v3],.agg #[.int .i64 0,.slice (some ad) m ci]] W fun e W'=>e=.returned (.bool b)/\Qaq W.heap.size W W'):=Za fun W hK=>by
 have HW:=HG.out.below (HW0.out W hK);have:=Z22 _ _ s hm n hmn.out W (HW.at 4 rfl) (HW.at 2 rfl);rw[hl.out,hb.out] at this;exact this
have FXK:Hid (∀ W,Yq fin w2 W->∃ d,At5 W ad x0 d):=Za fun W hK=>by
 obtain⟨_,_,_,e,_,F⟩:=Zfu ((HG.out.below (HW0.out W hK)).at 3 rfl:U5 (Old W) W [.slice (some ad) m ci] l) hx0'.out;cases e;exact⟨_,(F W (Qc _ _)).1⟩
have FYK:Hid (∀ W,Yq fin w2 W->∃ d,At5 W (ad.add (m1*5)) yl d):=Za fun W hK=>by
 obtain⟨_,_,_,e,_,_,_,F⟩:=V4 ((HG.out.below (HW0.out W hK)).at 3 rfl:U5 (Old W) W [.slice (some ad) m ci] l) hyl'.out;cases e;exact⟨_,(F W (Qc _ _)).1⟩
have KS:Hid (∀ W,Yq fin w2 W->W.heap[w.heap.size]? = some (.cells #[.int .i64 0,.slice (some ad) m ci] 81 (0,0))):=Za fun W hK=>hK.other (fnl.out _ lo.out.1) G0.out
have K4:Hid (∀ W,Yq fin w2 W->∃ a b c,W.heap[w0.heap.size]? = some (.cells #[a,b,c] 37 (0,0))):=Za fun W hK=>by
 rcases hK.box fn4.out G1.out with e | e
 ·exact⟨_,_,_,e⟩
 ·rw[<- ho4.out] at e;exact⟨_,_,_,e⟩
have K5:Hid (∀ W,Yq fin w2 W->∃ a b c,W.heap[w1.heap.size]? = some (.cells #[a,b,c] 37 (0,0))):=Za fun W hK=>by
 rcases hK.box fn5.out G2.out with e | e
 ·exact⟨_,_,_,e⟩
 ·rw[<- ho5.out] at e;exact⟨_,_,_,e⟩
refine Rb.wp_region_fx (Yq fin) (by kernel_rfl) (fun W=>Yq fin w2 W) (fun i=>match i with
 | 17=>some (fun _ W=>W.heap[w0.heap.size]? = some o4)
 | 18=>some (fun _ W=>W.heap[w1.heap.size]? = some o5)
 | _=>none) (fun i=>match i with
 | 16=>some (.bool b)
 | _=>none) (by kernel_rfl) (Yq.refl _ _).drew (fun w w' h hb=>h.trans hb) ?tst ?_
case tst =>
 intro j φ x W W' hp hx hb
 match j,hp with
 | 17,hp=>cases hp;exact hb.done fn4.out hx
 | 18,hp=>cases hp;exact hb.done fn5.out hx
repeat (first
 | (refine Rb.wpAs_skip rfl ?_;simp only[Qs,Zb,Zc,Zd])
 | (refine Rb.wpAs_pure (v := ?_) rfl rfl ?_ ?_;rotate_left;(intro W hC hE;clear hE;(obtain⟨y0,y1,_⟩:=Zg (KS.out W hC);obtain⟨_,z0,z1,z2,_,_⟩:=FXK.out W hC;obtain⟨_,u0,u1,u2,_,_⟩:=FYK.out W hC;obtain⟨k0,k1,k2,k3,_⟩:=(HG.out.below (HW0.out W hC)).at 1 rfl);clear hC;go_simp;first | done | with_reducible rfl);simp only[Qs,Zb,Zc,Zd]))
refine Rb.wpAs_fixed rfl rfl rfl ?_ ?_
·intro W hC hE
 clear hE;refine Rb.does_enter (f:=70) (args:=#[.agg #[v0,v1,v2,v3],.agg #[.int .i64 0,.slice (some ad) m ci]]) ?_ ?_
 ·go_simp
 ·refine(hcl.out W hC).mono ?_
 rintro e W' ⟨rfl,hg⟩;exact⟨_,rfl,rfl,Yq.of_below hg⟩
simp only[Qs,Zb,Zc,Zd];refine Rb.wpAs_act rfl rfl ?_ ?_
·intro W hC hE
 clear hE;obtain⟨a,b,c,G⟩:=K4.out W hC;obtain⟨q0,q1,q2,q3,_⟩:=Zk G;obtain⟨W1,hW1,g1,gr1,_⟩:=Y6 (a':=.int .u8 (x0.1.1.toNat:Int)) (b':=.int .u32 x0.1.2.1) (c':=.int .u32 x0.1.2.2) G;rw[ho4.out] at g1;have hk:=Za (Yq.of_grown gr1 fn4.out g1);replace g1:=Za g1;clear gr1 G hC
 go_simp
 exact⟨g1.out,hk.out⟩
simp only[Qs,Rb.envAdd];intro _;refine Rb.wpAs_act rfl rfl ?_ ?_
·intro W hC hE
 clear hE;obtain⟨a,b,c,G⟩:=K5.out W hC;obtain⟨q0,q1,q2,q3,_⟩:=Zk G;obtain⟨W1,hW1,g1,gr1,_⟩:=Y6 (a':=.int .u8 (yl.1.1.toNat:Int)) (b':=.int .u32 yl.1.2.1) (c':=.int .u32 yl.1.2.2) G;rw[ho5.out] at g1;have hk:=Za (Yq.of_grown gr1 fn5.out g1);replace g1:=Za g1;clear gr1 G hC
 go_simp
 exact⟨g1.out,hk.out⟩
simp only[Qs,Rb.envAdd];intro _
repeat (first
 | (refine Rb.wpAs_skip rfl ?_;simp only[Qs,Zb,Zc,Zd])
 | (refine Rb.wpAs_pure (v := ?_) rfl rfl ?_ ?_;rotate_left;(intro W hC hE;clear hE;skip;clear hC;go_simp;first | done | with_reducible rfl);simp only[Qs,Zb,Zc,Zd]))
refine Rb.wpAs_end fun W hC hE => ?_
have e5:=hE.1;have e4:=hE.2.1;have hB9:=Za (HW0.out W hC);rw[<- ho4.out] at e4;rw[<- ho5.out] at e5;obtain⟨n0,n1,n2,_⟩:=Zk e4;obtain⟨q0,q1,q2,_⟩:=Zk e5;replace e4:=Za e4;replace e5:=Za e5;clear hE hC
go_wp2_with fail
refine Qal (v:=.tuple #[kyV x0.1,kyV yl.1,.bool b]) (by simp[results,go_sem,n0,n1,n2,q0,q1,q2]) rfl ?_;exact Zbv (x0.1) (yl.1) b (hR.out.trans hfin.out) hB9.out
| succ l1 =>
have hrec:=Za (hr0 l1 rfl);have c0:(lw==0)=false:=by have:=hlv.out;simp;omega
have c1:lw-1=(l1:Int):=by have:=hlv.out;omega
have c2:IntKind.i64.wrap (l1:Int)=(l1:Int):=by
 have:=(Zw hmn.out).1.2.1;rw[hlw.out,hlv.out] at this;exact Ps _ (by omega)
have hRC:Hid (R=Y9 (Zbi s l1) l):=Za (hR1.out l1 hlv.out);replace hm1:=Za hm1;clear hR0 hR1 hx0 hyl FX0
go_enter Tryz.func69,Tryz.ntmps69
go_upto_region 1 with fail
clear hw0 hw1 hw2
go_wp2_with fail
clear y0 y1
go_loopw [37] (fun vi wr=>∃ (k:Nat) (t:Ky),k<=m/\vi=.int .i64 k/\StC (Zbi s l1) l k t/\Qaq w.heap.size w wr/\w2.heap.size<=wr.heap.size/\Yh w.heap.size #[.int .i64 lw,.slice (some ad) m ci] 81 wr/\Yh w0.heap.size #[.int .u8 0,.int .u32 0,.int .u32 0] 37 wr/\Yh w1.heap.size #[.int .u8 (t.1.toNat:Int),.int .u32 t.2.1,.int .u32 t.2.2] 37 wr) (fun vi _=>m-(intOf vi).toNat)
case atStart=>exact⟨0,Zbm,by omega,rfl,.inl rfl,BB.out,Qb _,G0.out,G1.out,G2.out⟩
case round =>
 obtain⟨k,t,hk,rfl,hst,hbr,hsz,g0,g1,g2⟩:=hrel;have HR:=Za (HG.out.below hbr);have BR:=Za hbr;have SZ:=Za hsz;clear hbr hsz;by_cases hlt:k<m
 case neg =>
 have hkm:k=m:=by omega
 have hf:Hid (R=some (x0.1,t)):=Za (by
 subst hkm;rcases hst with e | ⟨f,e⟩
 ·omega
 ·have e1:=Z1f hx0'.out (by omega) (by rw[hlm.out];omega) e
 rw[Qac (by rw[hlm.out];omega)] at e
 rw[hRC.out,e,<- e1])
 have i0:(0:Int)<(m:Int):=by omega
 have FXr:=Za (fun W (hW:Qaq wr.heap.size wr W)=>(Zfu (HR.out.at 3 rfl:U5 (Old wr) wr [.slice (some ad) m ci] l) hx0'.out));obtain⟨ad',E6,ce6,e6,_,FZ⟩:=Zfu (HR.out.at 3 rfl:U5 (Old wr) wr [.slice (some ad) m ci] l) hx0'.out;cases e6;have FZ':=Za (fun W (hW:Qaq wr.heap.size wr W)=>(FZ W hW).1);replace hst:=Za hst;replace g0:=Za g0;replace g1:=Za g1;replace g2:=Za g2;clear FXr FZ hkm
 go_upto_region 14 with fail
 obtain⟨y0,y1,_⟩:=Zg g0.out;obtain⟨z0,z1,z2,_,_⟩:=FZ'.out wr (Qc _ _);have G4:wr.heap[w0.heap.size]? = _:=g1.out;have G5:wr.heap[w1.heap.size]? = _:=g2.out;obtain⟨q0,q1,q2,q3,_⟩:=Zk G5;have BW:=Za BR.out;obtain⟨W8,hW8,g8,gr8,gs8⟩:=Y6 (a':=.int .u8 ((x0.1).1.toNat:Int)) (b':=.int .u32 (x0.1).2.1) (c':=.int .u32 (x0.1).2.2) G4;have G8:W8.heap[w1.heap.size]? = _:=(gr8.block w1.heap.size (Qd.1 G5).1 (by simp;have:=lo.out;omega)).trans G5;obtain⟨W9,hW9,g9,gr9,gs9⟩:=Y6 (a':=.int .u8 ((t).1.toNat:Int)) (b':=.int .u32 (t).2.1) (c':=.int .u32 (t).2.2) G8;have g8':W9.heap[w0.heap.size]? = _:=(gr9.block w0.heap.size (Qd.1 g8).1 (by simp;have:=lo.out;omega)).trans g8;obtain⟨f4,f5,f6,f7,_⟩:=Zk G4;obtain⟨j4,j5,j6,j7,_⟩:=Zk G8;obtain⟨n0,n1,n2,_,_⟩:=Zk g8';obtain⟨o0,o1,o2,_,_⟩:=Zk g9;have hB9:=Za ((BW.out.grown gr8 BW.out.size (fun q e=>by cases e;have:=lo.out;omega)).grown gr9 (Qa BW.out.size gr8.size) (fun q e=>by cases e;have:=lo.out;omega));replace G4:=Za G4;replace G5:=Za G5;replace G8:=Za G8;replace g8:=Za g8;replace g8':=Za g8';replace g9:=Za g9;clear gr8 gr9 gs8 gs9
 go_region
 all_goals
 go_wp2_with fail
 refine Qal (v:=.tuple #[kyV x0.1,kyV t,.bool true]) (by simp[results,go_sem,n0,n1,n2,o0,o1,o2]) rfl ?_;exact Zbv (x0.1) (t) true (hR.out.trans hf.out) (Zbh hB9.out _);obtain⟨x,hx⟩:∃ x,l[k]? = some x:=⟨_,Qf (by rw[hlm.out];exact hlt)⟩
 obtain⟨ad',E5,ce5,e5,_,_,_,FZ⟩:=V4 (HR.out.at 3 rfl:U5 (Old wr) wr [.slice (some ad) m ci] l) hx;cases e5;obtain⟨⟨z0,z1,z2,z3,z4⟩,_⟩:=FZ wr (Qc _ _);have hno1:=Za (fun h1=>hRC.out.trans (Zxi (g:=Zbi s l1) hx h1));have hno2:=Za (fun p h1 h2=>hRC.out.trans (Zxc (g:=Zbi s l1) (p:=p) hx h1 h2));have hno3:=Za (fun h1 h2=>hRC.out.trans (Zxt (g:=Zbi s l1) hx h1 hst h2));have hyes:=Za (fun p h1 h2 h3=>Zy5 (g:=Zbi s l1) (p:=p) hx hst h1 h2 h3);have i4:(0:Int)<=(k:Int):=by omega
 have i5:(k:Int)<(m:Int):=by omega
 replace hst:=Za hst;replace hx:=Za hx;obtain⟨w3,hw3,hg3,hB3,-,hs3⟩:=Z5f (((HR.out.add (F:=Yh _ _ _) g2 (Zr _ _ _)).add (F:=Yh _ _ _) g1 (Zr _ _ _)).add (F:=Yh _ _ _) g0 (Zr _ _ _)) (Qc _ _) (.int .u8 (x.1.1.toNat:Int)) (.int .u32 x.1.2.1) (.int .u32 x.1.2.2) (.int .i64 x.2.1) (.slice E5 x.2.2.length ce5);have H3:=Za hg3;have B3:=Za (BR.out.trans (hB3.mono BR.out.size));have S3:=Za (Qa SZ.out hB3.size);replace hs3:=Za hs3;clear FZ hg3 hB3 g0 g1 g2 HR BR SZ
 go_upto_region 6 with fail
 clear hw3 z0 z1 z2 z3 z4;obtain⟨k0,k1,k2,k3,_⟩:=H3.out.at 5 rfl;obtain⟨r0,r1,r2,r3,r4,_⟩:=H3.out.at 0 rfl;have hNd:=Za (fun v W hW=>Zed v s x.2.1 W hW);have hmy:=Za (fun hh=>(Ya (s:=s) (a:=x.2.1) hh).1);have hsn:=Za (fun hh=>hno1.out (Z61 (s:=s) (l:=l1) (a:=x.2.1) hh));have hsy:=Za (fun h1 h2=>Z3m (s:=s) (l:=l1) (a:=x.2.1) h1 h2);obtain⟨nb,hnb⟩:∃ q,rmV s x.2.1=q:=⟨_,rfl⟩
 obtain⟨eb,heb⟩:∃ q,rmE s x.2.1=q:=⟨_,rfl⟩
 rw[hnb,heb] at hNd hsn hsy;rw[hnb,heb] at hmy;obtain⟨lb,hlb⟩:∃ q,nb.1=q:=⟨_,rfl⟩
 obtain⟨mb,hmb⟩:∃ q,nb.2.length=q:=⟨_,rfl⟩
 rw[hlb,hmb] at hNd hsn;rw[hlb] at hsy;replace hnb:=Za hnb;replace heb:=Za heb;replace hlb:=Za hlb;replace hmb:=Za hmb
 go_wp2_with fail
 with_reducible refine(hNd.out _ _ (H3.out.at 8 rfl)).mono ?_;rintro e w4 ⟨Z,zc,rfl,-,h4n,hb4⟩;obtain⟨w5,hw5,hg5,hB5,-,hs5⟩:=Zfy ((H3.out.below hb4).add (F:=Z6d _ nb) h4n.drop (Zb6 _ _)) (Qc _ _) (.int .i64 lb) (.slice Z mb zc);have H5:=Za hg5;have B5:=Za (B3.out.trans ((hb4.trans (hB5.mono hb4.size)).mono B3.out.size));have S5:=Za (Qa S3.out (hb4.trans (hB5.mono hb4.size)).size);replace hs5:=Za hs5;clear k0 k1 k2 k3 r0 r1 r2 r3 r4 hg5 hB5 hb4 h4n H3 B3 S3 hNd
 go_upto_region 7 with fail
 clear hw5;obtain⟨y0,y1,_⟩:=H5.out.at 0 rfl;obtain⟨f0,f1,_⟩:=Zg (H5.out.at 3 rfl);by_cases he:eb=0
 case neg =>
 have e1:(eb != 0)=true:=by simpa using he
 have hf:=Za (hsn.out (fun hh=>he hh.1));clear he;have G4:w5.heap[w0.heap.size]? = _:=H5.out.at 4 rfl;have G5:w5.heap[w1.heap.size]? = _:=H5.out.at 5 rfl;have BW:=Za B5.out;obtain⟨W8,hW8,g8,gr8,gs8⟩:=Y6 (a':=.int .u8 0) (b':=.int .u32 0) (c':=.int .u32 0) G4;have G8:W8.heap[w1.heap.size]? = _:=(gr8.block w1.heap.size (Qd.1 G5).1 (by simp;have:=lo.out;omega)).trans G5;obtain⟨W9,hW9,g9,gr9,gs9⟩:=Y6 (a':=.int .u8 0) (b':=.int .u32 0) (c':=.int .u32 0) G8;have g8':W9.heap[w0.heap.size]? = _:=(gr9.block w0.heap.size (Qd.1 g8).1 (by simp;have:=lo.out;omega)).trans g8;obtain⟨f4,f5,f6,f7,_⟩:=Zk G4;obtain⟨j4,j5,j6,j7,_⟩:=Zk G8;obtain⟨n0,n1,n2,_,_⟩:=Zk g8';obtain⟨o0,o1,o2,_,_⟩:=Zk g9;have hB9:=Za ((BW.out.grown gr8 BW.out.size (fun q e=>by cases e;have:=lo.out;omega)).grown gr9 (Qa BW.out.size gr8.size) (fun q e=>by cases e;have:=lo.out;omega));replace G4:=Za G4;replace G5:=Za G5;replace G8:=Za G8;replace g8:=Za g8;replace g8':=Za g8';replace g9:=Za g9;clear gr8 gr9 gs8 gs9
 go_wp2_with fail
 refine Qal (v:=.tuple #[.agg #[.int .u8 0,.int .u32 0,.int .u32 0],.agg #[.int .u8 0,.int .u32 0,.int .u32 0],.bool false]) (by simp[results,go_sem,n0,n1,n2,o0,o1,o2]) rfl ?_;exact Zbv (Zbm) (Zbm) false (hR.out.trans hf.out) hB9.out;subst he;by_cases hv:lb=(l1:Int)
 case neg =>
 have e1:(lb != (l1:Int))=true:=by simpa using hv
 have hf:=Za (hsn.out (fun hh=>hv hh.2.1));clear hv;have G4:w5.heap[w0.heap.size]? = _:=H5.out.at 4 rfl;have G5:w5.heap[w1.heap.size]? = _:=H5.out.at 5 rfl;have BW:=Za B5.out;obtain⟨W8,hW8,g8,gr8,gs8⟩:=Y6 (a':=.int .u8 0) (b':=.int .u32 0) (c':=.int .u32 0) G4;have G8:W8.heap[w1.heap.size]? = _:=(gr8.block w1.heap.size (Qd.1 G5).1 (by simp;have:=lo.out;omega)).trans G5;obtain⟨W9,hW9,g9,gr9,gs9⟩:=Y6 (a':=.int .u8 0) (b':=.int .u32 0) (c':=.int .u32 0) G8;have g8':W9.heap[w0.heap.size]? = _:=(gr9.block w0.heap.size (Qd.1 g8).1 (by simp;have:=lo.out;omega)).trans g8;obtain⟨f4,f5,f6,f7,_⟩:=Zk G4;obtain⟨j4,j5,j6,j7,_⟩:=Zk G8;obtain⟨n0,n1,n2,_,_⟩:=Zk g8';obtain⟨o0,o1,o2,_,_⟩:=Zk g9;have hB9:=Za ((BW.out.grown gr8 BW.out.size (fun q e=>by cases e;have:=lo.out;omega)).grown gr9 (Qa BW.out.size gr8.size) (fun q e=>by cases e;have:=lo.out;omega));replace G4:=Za G4;replace G5:=Za G5;replace G8:=Za G8;replace g8:=Za g8;replace g8':=Za g8';replace g9:=Za g9;clear gr8 gr9 gs8 gs9
 go_wp2_with fail
 refine Qal (v:=.tuple #[.agg #[.int .u8 0,.int .u32 0,.int .u32 0],.agg #[.int .u8 0,.int .u32 0,.int .u32 0],.bool false]) (by simp[results,go_sem,n0,n1,n2,o0,o1,o2]) rfl ?_;exact Zbv (Zbm) (Zbm) false (hR.out.trans hf.out) hB9.out;have e1:(lb != (l1:Int))=false:=by simp[hv]
 replace hv:=Za hv;by_cases hz:mb=0
 ·have e2:((mb:Int)==0)=true:=by simp[hz]
 have hf:=Za (hsn.out (fun hh=>hh.2.2 hz));replace hz:=Za hz;have G4:w5.heap[w0.heap.size]? = _:=H5.out.at 4 rfl;have G5:w5.heap[w1.heap.size]? = _:=H5.out.at 5 rfl;have BW:=Za B5.out;obtain⟨W8,hW8,g8,gr8,gs8⟩:=Y6 (a':=.int .u8 0) (b':=.int .u32 0) (c':=.int .u32 0) G4;have G8:W8.heap[w1.heap.size]? = _:=(gr8.block w1.heap.size (Qd.1 G5).1 (by simp;have:=lo.out;omega)).trans G5;obtain⟨W9,hW9,g9,gr9,gs9⟩:=Y6 (a':=.int .u8 0) (b':=.int .u32 0) (c':=.int .u32 0) G8;have g8':W9.heap[w0.heap.size]? = _:=(gr9.block w0.heap.size (Qd.1 g8).1 (by simp;have:=lo.out;omega)).trans g8;obtain⟨f4,f5,f6,f7,_⟩:=Zk G4;obtain⟨j4,j5,j6,j7,_⟩:=Zk G8;obtain⟨n0,n1,n2,_,_⟩:=Zk g8';obtain⟨o0,o1,o2,_,_⟩:=Zk g9;have hB9:=Za ((BW.out.grown gr8 BW.out.size (fun q e=>by cases e;have:=lo.out;omega)).grown gr9 (Qa BW.out.size gr8.size) (fun q e=>by cases e;have:=lo.out;omega));replace G4:=Za G4;replace G5:=Za G5;replace G8:=Za G8;replace g8:=Za g8;replace g8':=Za g8';replace g9:=Za g9;clear gr8 gr9 gs8 gs9
 go_wp2_with fail
 refine Qal (v:=.tuple #[.agg #[.int .u8 0,.int .u32 0,.int .u32 0],.agg #[.int .u8 0,.int .u32 0,.int .u32 0],.bool false]) (by simp[results,go_sem,n0,n1,n2,o0,o1,o2]) rfl ?_;exact Zbv (Zbm) (Zbm) false (hR.out.trans hf.out) hB9.out;have e2:((mb:Int)==0)=false:=by simpa using hz
 replace hz:=Za hz;have hspan:=Za (hsy.out rfl hv.out);have hmb':=Za (hmy.out rfl);obtain⟨c3,c4⟩:=(H5.out.at 6 rfl:Z2c Be (Z91 Bs Be) w5)
 have hcall:=Za (hrec.out (.agg #[.int .i64 lb,.slice Z mb zc]) v0 v1 v2 v3 nb Bs Be w5 hmb'.out (by rw[hlb.out,hv.out]) (by rw[hmb.out];exact hz.out) (H5.out.at 1 rfl) (H5.out.at 10 rfl) (H5.out.at 7 rfl) (H5.out.at 6 rfl));clear hsn hsy hmy
 go_upto_region 9 with fail
 clear e1 e2 f0 f1
 go_wp2_with fail
 with_reducible refine hcall.out.mono ?_;rintro e w6 ⟨f',t',ok,rfl,hsp,hb6⟩;obtain⟨w7,hw7,p0,p1,p2,hs7,hB7,_⟩:=Xa w6 (.int .u8 (f'.1.toNat:Int)) (.int .u32 f'.2.1) (.int .u32 f'.2.2) 37;have hg7:=((H5.out.below hb6).below hB7).add (F:=Ybz w6.heap.size _ _ _) ⟨p0,p1,p2,by omega⟩ (Zlg _ _ _ _);obtain⟨w8,hw8,hg8,hB8,hB8',hs8⟩:=Zr3 hg7 (Qc _ _) (.int .u8 (t'.1.toNat:Int)) (.int .u32 t'.2.1) (.int .u32 t'.2.2);have H8:=Za hg8;have hb8:=hb6.trans ((hB7.trans (hB8.mono hB7.size)).mono hb6.size);have B8:=Za (B5.out.trans (hb8.mono B5.out.size));have S8:=Za (Qa S5.out hb8.size);replace hs8:=Za hs8;clear p0 p1 p2 hg7 hg8 hB7 hB8 hB8' hb6 hb8 y0 y1 c3 c4 hcall H5 B5 S5
 go_upto_region 10 with fail
 clear hw7 hw8;obtain⟨p0,p1,p2,_⟩:=H8.out.at 1 rfl;obtain⟨q0,q1,q2,_⟩:=H8.out.at 0 rfl;rw[hs7] at q0 q1 q2;replace hs7:=Za hs7;obtain⟨r0,r1,r2,r3,r4,_⟩:=H8.out.at 4 rfl;have hg2:w8.heap[w1.heap.size]? = _:=H8.out.at 7 rfl;obtain⟨d0,d1,d2,d3,_⟩:=Zk hg2;have G4:w8.heap[w0.heap.size]? = _:=H8.out.at 6 rfl;have G5:w8.heap[w1.heap.size]? = _:=H8.out.at 7 rfl;have BW:=Za B8.out;replace hg2:=Za hg2;cases ok with
 | false =>
 have hf:=Za (hno1.out (hspan.out.trans hsp));clear d3 hno2 hno3 hyes;obtain⟨W8,hW8,g8,gr8,gs8⟩:=Y6 (a':=.int .u8 0) (b':=.int .u32 0) (c':=.int .u32 0) G4;have G8:W8.heap[w1.heap.size]? = _:=(gr8.block w1.heap.size (Qd.1 G5).1 (by simp;have:=lo.out;omega)).trans G5;obtain⟨W9,hW9,g9,gr9,gs9⟩:=Y6 (a':=.int .u8 0) (b':=.int .u32 0) (c':=.int .u32 0) G8;have g8':W9.heap[w0.heap.size]? = _:=(gr9.block w0.heap.size (Qd.1 g8).1 (by simp;have:=lo.out;omega)).trans g8;obtain⟨f4,f5,f6,f7,_⟩:=Zk G4;obtain⟨j4,j5,j6,j7,_⟩:=Zk G8;obtain⟨n0,n1,n2,_,_⟩:=Zk g8';obtain⟨o0,o1,o2,_,_⟩:=Zk g9;have hB9:=Za ((BW.out.grown gr8 BW.out.size (fun q e=>by cases e;have:=lo.out;omega)).grown gr9 (Qa BW.out.size gr8.size) (fun q e=>by cases e;have:=lo.out;omega));replace G4:=Za G4;replace G5:=Za G5;replace G8:=Za G8;replace g8:=Za g8;replace g8':=Za g8';replace g9:=Za g9;clear gr8 gr9 gs8 gs9
 go_wp2_with fail
 refine Qal (v:=.tuple #[.agg #[.int .u8 0,.int .u32 0,.int .u32 0],.agg #[.int .u8 0,.int .u32 0,.int .u32 0],.bool false]) (by simp[results,go_sem,n0,n1,n2,o0,o1,o2]) rfl ?_;exact Zbv (Zbm) (Zbm) false (hR.out.trans hf.out) hB9.out
 | true =>
 have hsp':=Za (hspan.out.trans (hsp.trans (if_pos rfl)));have hke:=Z1c f' x.1;have hkg:=Zji;unfold kyV at hke;by_cases hkk:f'=x.1
 case neg =>
 have g3:decide (f'=x.1)=false:=by simpa using hkk
 rw[g3] at hke;have hf:=Za (hno2.out _ hsp'.out hkk);clear d3 hkk hno1 hno2 hno3 hyes;obtain⟨W8,hW8,g8,gr8,gs8⟩:=Y6 (a':=.int .u8 0) (b':=.int .u32 0) (c':=.int .u32 0) G4;have G8:W8.heap[w1.heap.size]? = _:=(gr8.block w1.heap.size (Qd.1 G5).1 (by simp;have:=lo.out;omega)).trans G5;obtain⟨W9,hW9,g9,gr9,gs9⟩:=Y6 (a':=.int .u8 0) (b':=.int .u32 0) (c':=.int .u32 0) G8;have g8':W9.heap[w0.heap.size]? = _:=(gr9.block w0.heap.size (Qd.1 g8).1 (by simp;have:=lo.out;omega)).trans g8;obtain⟨f4,f5,f6,f7,_⟩:=Zk G4;obtain⟨j4,j5,j6,j7,_⟩:=Zk G8;obtain⟨n0,n1,n2,_,_⟩:=Zk g8';obtain⟨o0,o1,o2,_,_⟩:=Zk g9;have hB9:=Za ((BW.out.grown gr8 BW.out.size (fun q e=>by cases e;have:=lo.out;omega)).grown gr9 (Qa BW.out.size gr8.size) (fun q e=>by cases e;have:=lo.out;omega));replace G4:=Za G4;replace G5:=Za G5;replace G8:=Za G8;replace g8:=Za g8;replace g8':=Za g8';replace g9:=Za g9;clear gr8 gr9 gs8 gs9
 go_wp2_with fail
 refine Qal (v:=.tuple #[.agg #[.int .u8 0,.int .u32 0,.int .u32 0],.agg #[.int .u8 0,.int .u32 0,.int .u32 0],.bool false]) (by simp[results,go_sem,n0,n1,n2,o0,o1,o2]) rfl ?_;exact Zbv (Zbm) (Zbm) false (hR.out.trans hf.out) hB9.out;have g3:decide (f'=x.1)=true:=by simpa using hkk
 rw[g3] at hke;have hkk':=Za hkk;clear hkk hno1 hno2 hsp;by_cases hk0:k=0
 ·have i0:¬ (0:Int)<(k:Int):=by omega
 have hn:=Za (hyes.out (f',t') (fun hh=>absurd hk0 hh) hsp'.out hkk'.out);have hk0':=Za hk0;clear hk0;obtain⟨W9,hW9,g9,gr9,gs9⟩:=Y6 (a':=.int .u8 (t'.1.toNat:Int)) (b':=.int .u32 t'.2.1) (c':=.int .u32 t'.2.2) hg2.out;have hB9:=Za (BW.out.grown gr9 BW.out.size (fun q e=>by cases e;have:=lo.out;omega));have S9:=Za (Qa S8.out gr9.size);have b9:=Za ((gr9.block w.heap.size (by have:=lo.out;have:=S8.out;omega) (by simp;have:=lo.out;omega)).trans (H8.out.at 5 rfl));have c9:=Za ((gr9.block w0.heap.size (by have:=lo.out;have:=S8.out;omega) (by simp;have:=lo.out;omega)).trans (H8.out.at 6 rfl));replace g9:=Za g9;clear gr9 gs9
 go_wp2_with fail
 go_roundw
 case rel=>exact⟨k+1,t',by omega,by go_num,hn.out,hB9.out,S9.out,b9.out,c9.out,g9.out⟩
 case measure=>simp[intOf];omega
 ·have i0:(0:Int)<(k:Int):=by omega
 obtain⟨q,hq⟩:∃ q,Zo t x.1=q:=⟨_,rfl⟩
 have hls:=Za (Zdz t x.1 w8);rw[hq] at hls
 go_wp2_with fail
 with_reducible refine hls.out.mono ?_;rintro e w9 ⟨rfl,hb9⟩;cases q with
 | false =>
 have hf:=Za (hno3.out hk0 hq);replace G4:=(hb9.block w0.heap.size (by have:=lo.out;have:=S8.out;omega)).trans G4;replace G5:=(hb9.block w1.heap.size (by have:=lo.out;have:=S8.out;omega)).trans G5;replace BW:=Za (B8.out.trans (hb9.mono B8.out.size));replace hq:=Za hq;clear d0 d1 d2 d3 hb9 hno3 hyes hk0;obtain⟨W8,hW8,g8,gr8,gs8⟩:=Y6 (a':=.int .u8 0) (b':=.int .u32 0) (c':=.int .u32 0) G4;have G8:W8.heap[w1.heap.size]? = _:=(gr8.block w1.heap.size (Qd.1 G5).1 (by simp;have:=lo.out;omega)).trans G5;obtain⟨W9,hW9,g9,gr9,gs9⟩:=Y6 (a':=.int .u8 0) (b':=.int .u32 0) (c':=.int .u32 0) G8;have g8':W9.heap[w0.heap.size]? = _:=(gr9.block w0.heap.size (Qd.1 g8).1 (by simp;have:=lo.out;omega)).trans g8;obtain⟨f4,f5,f6,f7,_⟩:=Zk G4;obtain⟨j4,j5,j6,j7,_⟩:=Zk G8;obtain⟨n0,n1,n2,_,_⟩:=Zk g8';obtain⟨o0,o1,o2,_,_⟩:=Zk g9;have hB9:=Za ((BW.out.grown gr8 BW.out.size (fun q e=>by cases e;have:=lo.out;omega)).grown gr9 (Qa BW.out.size gr8.size) (fun q e=>by cases e;have:=lo.out;omega));replace G4:=Za G4;replace G5:=Za G5;replace G8:=Za G8;replace g8:=Za g8;replace g8':=Za g8';replace g9:=Za g9;clear gr8 gr9 gs8 gs9
 go_wp2_with fail
 refine Qal (v:=.tuple #[.agg #[.int .u8 0,.int .u32 0,.int .u32 0],.agg #[.int .u8 0,.int .u32 0,.int .u32 0],.bool false]) (by simp[results,go_sem,n0,n1,n2,o0,o1,o2]) rfl ?_;exact Zbv (Zbm) (Zbm) false (hR.out.trans hf.out) hB9.out
 | true =>
 have hn:=Za (hyes.out (f',t') (fun _=>hq) hsp'.out hkk'.out);replace H8:=Za (H8.out.below hb9);replace B8:=Za (B8.out.trans (hb9.mono B8.out.size));replace S8:=Za (Qa S8.out hb9.size);replace BW:=Za B8.out;replace hq:=Za hq;replace hg2:Hid (w9.heap[w1.heap.size]? = _):=Za (H8.out.at 7 rfl);clear hb9 p0 p1 p2 q0 q1 q2 r0 r1 r2 r3 r4 d0 d1 d2 d3 G4 G5 hno3 hyes hk0;obtain⟨q0,q1,q2,_⟩:=H8.out.at 0 rfl;rw[hs7.out] at q0 q1 q2;obtain⟨d0,d1,d2,d3,_⟩:=Zk hg2.out;obtain⟨W9,hW9,g9,gr9,gs9⟩:=Y6 (a':=.int .u8 (t'.1.toNat:Int)) (b':=.int .u32 t'.2.1) (c':=.int .u32 t'.2.2) hg2.out;have hB9:=Za (BW.out.grown gr9 BW.out.size (fun q e=>by cases e;have:=lo.out;omega));have S9:=Za (Qa S8.out gr9.size);have b9:=Za ((gr9.block w.heap.size (by have:=lo.out;have:=S8.out;omega) (by simp;have:=lo.out;omega)).trans (H8.out.at 5 rfl));have c9:=Za ((gr9.block w0.heap.size (by have:=lo.out;have:=S8.out;omega) (by simp;have:=lo.out;omega)).trans (H8.out.at 6 rfl));replace g9:=Za g9;clear gr9 gs9
 go_wp2_with fail
 go_roundw
 case rel=>exact⟨k+1,t',by omega,by go_num,hn.out,hB9.out,S9.out,b9.out,c9.out,g9.out⟩
 case measure=>simp[intOf];omega}
theorem Z4m (s:Rm) (hm:Xl s=true):∀ l:Nat,Zzb s l:=by
 intro l
 induction l using Nat.strongRecOn with
 | ind l ih=>exact Zys s hm l fun j hj=>ih j (by omega)
theorem Zx8 {b:List UInt8} (h:b.length=128) (hr:reN b≠0):reN b=8:=by{
by_cases ho:oe b=0
·cases h1:rdN (ob b) with
| false=>exact(Zzm ho h1).1
| true=>exact absurd (Zh0 ho h1).1 hr
·have h8:oe b=8:=by
 unfold oe at ho ⊢;rw[if_pos h] at ho ⊢;split at ho
 ·exact absurd rfl ho
 ·rename_i hf
 rw[if_neg hf]
rw[(Zut ho).1,h8]}
theorem Zdw (w:Qah) (v:Qai) (t:Qak):∃ w1,w.alloc (.cells #[v] t)=w1/\w1.cell? ⟨w.heap.size,0,none⟩=some v/\w1.heap.size=w.heap.size+1/\Qaq w.heap.size w w1 :=
 ⟨_,rfl,by simp,by simp,(Qc _ _).alloc (Qb _) _⟩
theorem Zlc (v u:Qai) (s:Rm) (hm:Xl s=true) (n:Nd) (hn:Yd n=true) (w:Qah) (h:Sto (Old w) w v s) (hu:Nod (Old w) w u n) :
 Qao Tryz.prog 37 #[v,u] w fun e w'=>e=.returned (.bool (Zcy s n))/\Qaq w.heap.size w w':=by
 have hmf:∀ (fn:Fn) (first cap:Array Qai) (w:Qah),(Instr.makeFunc fn first cap).run Tryz.prog w=.ok (.func fn first cap) w:=fun _ _ _ _=>rfl
 have hsf:∀ (a:Qaj) (fn:Fn) (x y:Array Qai) (w:Qah),(store a (.func fn x y)).run Tryz.prog w=stored Tryz.prog w a (.func fn x y) .plain:=fun _ _ _ _ _=>run_store _ _ _ _ _ rfl
 obtain⟨A,ca,B,cb,N,cn,L,cl,rfl,_⟩:=id h.open;obtain⟨I,ci,rfl,-,-,-,hI⟩:=id hu.open;obtain⟨lw,hlw⟩:∃ q,n.1=q:=⟨_,rfl⟩
 obtain⟨m,hlm⟩:∃ q,n.2.length=q:=⟨_,rfl⟩
 have hlv:0<=lw:=by rw[<- hlw];exact(Zw hn).1.1
 have hst:Zcy s n=(decide (m=0)||(Zcs s n).isSome):=by rw[Zcy,hlm]
 have hu':=hu;rw[hlw,hlm] at hu';rw[hlw,hlm,hst];clear hI hst;have HG0:Bag w [Z6d (.agg #[.int .i64 lw,.slice I m ci]) n,Zui (.agg #[.slice A s.1.1.length ca,.slice B s.1.2.length cb,.slice N s.2.1.length cn,.slice L s.2.2.length cl]) s]:=((Bag.nil w).add (F:=Zui _ s) h (Uo _ _)).add (F:=Z6d _ n) hu' (Zb6 _ _);obtain⟨w0,hw0,hg0,hB0,_,hs0⟩:=Zd6 HG0 (Qc _ _) (.slice A s.1.1.length ca) (.slice B s.1.2.length cb) (.slice N s.2.1.length cn) (.slice L s.2.2.length cl) 29;obtain⟨w1,hw1,hg1,hB1,_,hs1⟩:=Zfy hg0 (Qc _ _) (.int .i64 lw) (.slice I m ci);obtain⟨w2,hw2,q0,hs2,hB2⟩:=Zdw w1 (Z91 w.heap.size w1.heap.size) 135;have HG:=Za ((hg1.below hB2).add (F:=Z2c w1.heap.size (Z91 w.heap.size w1.heap.size)) ⟨q0,by omega⟩ (Zeb _ _));have BB:=Za ((hB0.trans (hB1.mono hB0.size)).trans (hB2.mono (hB0.trans (hB1.mono hB0.size)).size));replace hs2:=Za hs2;replace hs1:=Za hs1;replace hs0:=Za hs0;replace hlw:=Za hlw;replace hlm:=Za hlm;clear HG0 hg1 hg0 h hu hu' hB2 hB1 hB0 q0
 go_enter Tryz.func37,Tryz.ntmps37
 go_upto_region 3 with fail
 clear hw0 hw1 hw2;obtain⟨q0,_⟩:=HG.out.at 0 rfl;obtain⟨y0,y1,_⟩:=HG.out.at 1 rfl;by_cases hm0:m=0
 ·have c0:((m:Int)==0)=true:=by simp[hm0]
 have hf:Hid ((decide (m=0)||(Zcs s n).isSome)=true):=Za (by simp[hm0]);replace hm0:=Za hm0
 go_wp2_with fail
 go_ret;exact⟨Ym hf.out.symm,BB.out⟩;have c0:((m:Int)==0)=false:=by simpa using hm0
 have hf:Hid ((decide (m=0)||(Zcs s n).isSome)=(Zcs s n).isSome):=Za (by simp[hm0]);have hcall:=Za (Z4m s hm lw.toNat (.agg #[.int .i64 lw,.slice I m ci]) _ _ _ _ n w.heap.size w1.heap.size w2 hn (by rw[hlw.out];omega) (by rw[hlm.out];exact hm0) (HG.out.at 3 rfl) (HG.out.at 4 rfl) (HG.out.at 2 rfl) (HG.out.at 0 rfl));replace hm0:=Za hm0
 go_wp2_with fail
 with_reducible refine hcall.out.mono ?_;rintro e w3 ⟨f,t,ok,rfl,hsp,hb3⟩;have B3:=Za (BB.out.trans (hb3.mono BB.out.size));obtain⟨w4,hw4,p0,p1,p2,hs4,hB4,_⟩:=Xa w3 (.int .u8 (f.1.toNat:Int)) (.int .u32 f.2.1) (.int .u32 f.2.2) 37;obtain⟨w5,hw5,r0,r1,r2,hs5,hB5,_⟩:=Xa w4 (.int .u8 (t.1.toNat:Int)) (.int .u32 t.2.1) (.int .u32 t.2.2) 37;have B5:=Za (B3.out.trans ((hB4.trans (hB5.mono hB4.size)).mono B3.out.size));have hfin:Hid ((Zcs s n).isSome=ok):=Za (by rw[hsp];cases ok <;> rfl);replace hsp:=Za hsp;replace hs5:=Za hs5;clear hB4 hB5 hb3 p0 p1 p2 r0 r1 r2
 go_upto_region 6 with fail
 clear hw4 hw5
 go_wp2_with fail
 go_ret;exact⟨Ym (by rw[hf.out,hfin.out]),B5.out⟩
theorem Xp (v:Qai) (s:Rm) (a:Int) (w:Qah) (h:Sto (Old w) w v s) :
 Qao Tryz.prog 18 #[v,.int .i64 a] w fun e w'=>e=.returned (.tuple #[.int .i64 (ckH s a),.int .i64 (ckE s a)])/\Qaq w.heap.size w w':=by
 obtain⟨A,ca,B,cb,N,cn,L,cl,rfl,_⟩:=id h.open;have hNd:=Za (fun v W hW=>Zed v s a W hW)
 have hway:Hid ((rmE s a≠0/\ckE s a=rmE s a/\ckH s a=0)\/(rmE s a=0/\Xl s=true/\Yd (rmV s a)=true/\0<=(rmV s a).1/\(rmV s a).1<6/\Zcy s (rmV s a)=false/\ckE s a=8/\ckH s a=0) \/
 (rmE s a=0/\Xl s=true/\Yd (rmV s a)=true/\0<=(rmV s a).1/\(rmV s a).1<6/\Zcy s (rmV s a)=true/\ckE s a=0/\ckH s a=(rmV s a).1+1)):=Za (by
 by_cases ha:asE s a=0
 ·by_cases hr:rmE s a=0
 ·obtain⟨hmn,_⟩:=Ya hr
 have hst:=Zsl hr;obtain⟨k,_,hm,_⟩:=Y5 ha;have hsh:=(Zw hmn).1;cases ht:Ys s a with
 | false=>exact .inr (.inl ⟨hr,hm,hmn,hsh.1,hsh.2.1,hst.trans ht,(Zss ha ht).1,(Zss ha ht).2⟩)
 | true=>exact .inr (.inr ⟨hr,hm,hmn,hsh.1,hsh.2.1,hst.trans ht,(Zjq ha ht).1,(Zjq ha ht).2⟩)
 ·obtain⟨k,_,hm,_,h256,_,_,hE,_,_⟩:=Y5 ha
 have h8:rmE s a=8:=by
  rw[hE] at hr ⊢;exact Zx8 (Z3d (Yf hm).1 h256) hr
 obtain⟨h1,h2⟩:=Zss ha (Z6s hr);exact .inl ⟨hr,h1.trans h8.symm,h2⟩
 ·obtain⟨hE,_⟩:=Z1s ha
 obtain⟨h1,h2⟩:=Z9r ha
 exact .inl ⟨by rw[hE];exact ha,h1.trans hE.symm,h2⟩)
 obtain⟨nd,hnd⟩:∃ q,rmV s a=q:=⟨_,rfl⟩
 obtain⟨E0,hE0⟩:∃ q,rmE s a=q:=⟨_,rfl⟩
 obtain⟨cE,hcE⟩:∃ q,ckE s a=q:=⟨_,rfl⟩
 obtain⟨cH,hcH⟩:∃ q,ckH s a=q:=⟨_,rfl⟩
 rw[hnd,hE0] at hNd hway;rw[hcE,hcH] at hway ⊢;obtain⟨lw,hlw⟩:∃ q,nd.1=q:=⟨_,rfl⟩
 obtain⟨m,hlm⟩:∃ q,nd.2.length=q:=⟨_,rfl⟩
 rw[hlw,hlm] at hNd;rw[hlw] at hway;have HG0:Bag w [Zui (.agg #[.slice A s.1.1.length ca,.slice B s.1.2.length cb,.slice N s.2.1.length cn,.slice L s.2.2.length cl]) s]:=(Bag.nil w).add (F:=Zui _ s) h (Uo _ _);obtain⟨w0,hw0,hg0,hB0,_,hs0⟩:=Zd6 HG0 (Qc _ _) (.slice A s.1.1.length ca) (.slice B s.1.2.length cb) (.slice N s.2.1.length cn) (.slice L s.2.2.length cl) 29;have HG:=Za hg0;have BB:=Za hB0;obtain⟨s0,s1,s2,s3,_⟩:=HG.out.at 0 rfl;replace hs0:=Za hs0;replace hnd:=Za hnd;replace hE0:=Za hE0;replace hcE:=Za hcE;replace hcH:=Za hcH;replace hlw:=Za hlw;replace hlm:=Za hlm;clear HG0 hg0 h hB0
 go_enter Tryz.func18,Tryz.ntmps18
 go_upto_region 1 with fail
 clear hw0
 go_wp2_with fail
 with_reducible refine(hNd.out _ _ (HG.out.at 1 rfl)).mono ?_;rintro e w3 ⟨Z,zc,rfl,-,h3n,hb3⟩;obtain⟨w4,hw4,hg4,hb4,-,hs4⟩:=Zfy ((HG.out.below hb3).add (F:=Z6d _ nd) h3n.drop (Zb6 _ _)) (Qc _ _) (.int .i64 lw) (.slice Z m zc);replace HG:=Za hg4;replace BB:=Za (BB.out.trans ((hb3.trans (hb4.mono hb3.size)).mono BB.out.size));replace hs4:=Za hs4;clear hg4 hb4 hb3 h3n s0 s1 s2 s3 hNd
 go_upto_region 2 with fail
 clear hw4;rcases hway.out with ⟨he,h1,h2⟩ | ⟨he,hm,hmn,l0,l6,hst,h1,h2⟩ | ⟨he,hm,hmn,l0,l6,hst,h1,h2⟩
 ·have e1:(E0 != 0)=true:=by simpa using he
 replace h1:=Za h1;replace h2:=Za h2;clear he hway
 go_wp2_with fail
 go_ret2
 exact⟨by rw[h1.out,h2.out];rfl,BB.out⟩
 ·have hcall:=Za (Zlc _ _ s hm nd hmn w4 (HG.out.at 3 rfl) (HG.out.at 1 rfl))
 rw[hst] at hcall;subst he;obtain⟨y0,y1,_⟩:=HG.out.at 0 rfl;obtain⟨s0,s1,s2,s3,_⟩:=HG.out.at 2 rfl;replace h1:=Za h1;replace h2:=Za h2;clear hway hst hm hmn l0 l6
 go_wp2_with fail
 with_reducible refine hcall.out.mono ?_;rintro e w5 ⟨rfl,hb5⟩;have B5:=Za (BB.out.trans (hb5.mono BB.out.size));clear hb5
 go_wp2_with fail
 go_ret2
 exact⟨by rw[h1.out,h2.out];rfl,B5.out⟩
 ·have hcall:=Za (Zlc _ _ s hm nd hmn w4 (HG.out.at 3 rfl) (HG.out.at 1 rfl))
 rw[hst] at hcall;subst he;obtain⟨y0,y1,_⟩:=HG.out.at 0 rfl;obtain⟨s0,s1,s2,s3,_⟩:=HG.out.at 2 rfl;have i9:IntKind.i64.wrap (lw+1)=lw+1:=Ps _ (by omega);replace h1:=Za h1;replace h2:=Za h2;clear hway hst hm hmn l0 l6
 go_wp2_with fail
 with_reducible refine hcall.out.mono ?_;rintro e w5 ⟨rfl,hb5⟩;have B5:=Za (BB.out.trans (hb5.mono BB.out.size));have HG5:=HG.out.below hb5;clear hb5 y0 y1;obtain⟨y0,y1,_⟩:=HG5.at 0 rfl;clear HG5
 go_wp2_with fail
 go_ret2
 exact⟨by rw[h1.out,h2.out];rfl,B5.out⟩
end Go.Proofs.YtgmbjnajdfgenaaGreat
namespace Go.Proofs.YtgmbjnajdfgenaaGreat
open Go.RowKit Go.Shelf
attribute [local go_sem] Oper.semAt_some
def Zjr (s:Rm) (l:Nat):Prop:=∀ (a:Int),AtT s l a->∀ (n0 Bs Br:Nat) (v0 v1 v2 v3:Qai) (w:Qah),n0<=w.heap.size->Z24 Bs v0 v1 v2 v3 w->Z2c Br (.int .i64 a) w->Sto (fun p=>p.block<n0) w (.agg #[v0,v1,v2,v3]) s ->
 Ybr Tryz.prog 94 #[.pointer (some ⟨Bs,0,none⟩),.pointer (some ⟨Br,0,none⟩)] Ybn (Ybh (Vj s l a)) (Ych (Vj s l a)) (Z9y n0 Bs Br) w
theorem Zd8 {n0:Nat} {A B:Qah} (h:∀ k,k<n0->B.heap[k]? = A.heap[k]?) {p:Qaj} {v:Qai} (hp:p.block<n0) (hc:A.cell? p=some v):p.block<n0/\B.cell? p=some v:=⟨hp,(Qg (h _ hp)).trans hc⟩
theorem Z8y {n0:Nat} {A:Qah} (hn:n0<=A.heap.size) {p:Qaj} {v:Qai} (hp:p.block<n0) (hc:A.cell? p=some v):Old A p/\A.cell? p=some v:=⟨Qi hp hn,hc⟩
theorem Zjb (v0 v1 v2 v3:Qai) (a:Int) (w:Qah):Qao Tryz.prog 55 #[.agg #[v0,v1,v2,v3],.int .i64 a] w fun e w'=>e=.returned (.func (.func 94) #[] #[.pointer (some ⟨w.heap.size,0,none⟩),.pointer (some ⟨w.heap.size+1,0,none⟩)]) /\
 w'=(w.alloc (.cells #[v0,v1,v2,v3] 29)).alloc (.cells #[.int .i64 a] 3):=by
 have hmf:∀ (fn:Fn) (first cap:Array Qai) (w:Qah),(Instr.makeFunc fn first cap).run Tryz.prog w=.ok (.func fn first cap) w:=fun _ _ _ _=>rfl
 go_enter Tryz.func55,Tryz.ntmps55
 go_wp2_with fail
 go_ret;exact⟨rfl,rfl⟩
theorem Zk9 (s:Rm) (l0:Nat) (hr0:∀ j,l0=j+1->Zjr s j):Zjr s l0:=by{
intro a hat n0 Bs Br v0 v1 v2 v3 w hn0 hBs hBr hS l M J Jx o W hW hJ hJx hM hJs hZ hY h0;have hnW:n0<=W.heap.size:=Qa hn0 hW.size;have hBsW:=V5 _ _ _ _ _ _ _ hBs hW;have hBrW:=Zeb _ _ _ _ hBr hW;have hSW:Sto (fun p=>p.block<n0) W (.agg #[v0,v1,v2,v3]) s:=hS.map fun p v hp hc=>Zd8 (fun k hk=>hW.block k (by omega)) hp hc
have hNd:=Za (fun v W hW=>Zed v s a W hW);have hok:=hat.ok;have hmn:=Za hat.may;have hlv:=hat.lvl;have hdn:=Za (fun(j:Nat) (hj:l0=j+1) (x:It) (hx:x∈(rmV s a).2)=>(by subst hj;exact hat.down hx:AtT s j x.2.1));have hL:=Zx0 s l0 a;obtain⟨nd,hnd⟩:∃ q,rmV s a=q:=⟨_,rfl⟩
rw[hok,hnd] at hNd;rw[hnd] at hmn hlv hdn hL;obtain⟨lw,hlw⟩:∃ q,nd.1=q:=⟨_,rfl⟩
obtain⟨ll,hl⟩:∃ q,nd.2=q:=⟨_,rfl⟩
obtain⟨m,hlm⟩:∃ q,ll.length=q:=⟨_,rfl⟩
rw[hlw,hl,hlm] at hNd;rw[hl] at hdn hL;rw[hlw] at hlv;have hm5:m<=5:=by
have:=(Zw hmn.out).1.2.2.1;rw[hl,hlm] at this;exact this;rw[hL] at hY ⊢;obtain⟨w1,hw1,b1,hs1,hB1⟩:=Zdw W (.func (.yield l) #[] #[]) 163;have BS1:=V5 _ _ _ _ _ _ _ hBsW hB1;have BR1:=Zeb _ _ _ _ hBrW hB1;have S1:Hid (Sto (Old w1) w1 (.agg #[v0,v1,v2,v3]) s):=Za (hSW.map fun p v hp hc=>Z8y (by omega) (Zd8 (fun k hk=>hB1.block k (by omega)) hp hc).1 (Zd8 (fun k hk=>hB1.block k (by omega)) hp hc).2);obtain⟨s0,s1,s2,s3,_⟩:=BS1;obtain⟨r0,_⟩:=BR1;replace hs1:=Za hs1;replace hB1:=Za hB1;replace hlw:=Za hlw;replace hl:=Za hl;replace hlm:=Za hlm;replace hnd:=Za hnd;replace hlv:=Za hlv;replace hY:=Za hY;replace hL:=Za hL;replace hZ:=Za hZ;replace hM:=Za hM;replace hJs:=Za hJs;clear hS hBs hBr hat;refine callsIn_wide.1 (callsIn_of_wp_marks (n:=5) Tryz.func94 rfl trivial ?_ rfl);simp only[Tryz.ntmps94,Qy,Qo,Qz,Q0,Q3,Q4,Q5,Q6,Q7,Q8,Q9]
gi_wp2_with fail
refine⟨trivial,?_⟩
gi_at_call 36
refine(callsIn_wide.2 (hNd.out (.agg #[v0,v1,v2,v3]) w1 S1.out)).mono ?_;rintro e w2 ⟨Z,zc,rfl,-,hN2,hB2⟩;obtain⟨w3,hw3,b3,hs3,hB3⟩:=Yc w2 (.int .i64 lw) (.slice Z m zc) 81;obtain⟨y0,y1,_⟩:=Zg b3;replace hs3:=Za hs3;replace b3:=Za b3
gi_wp2_with fail
have B3:=Za ((hB1.out.trans (hB2.mono hB1.out.size)).trans (hB3.mono (hB1.out.trans (hB2.mono hB1.out.size)).size));have sz:=Za (show W.heap.size<w1.heap.size/\w1.heap.size<=w2.heap.size/\w2.heap.size<w3.heap.size from ⟨by have:=hs1.out;omega,hB2.size,by have:=hs3.out;omega⟩);have ho:=Za (fun k (e:o=some k)=>(hJs.out _ _ h0).2 k e)
have N3:Hid (U5 (Fre W.heap.size o w3) w3 [.slice Z m zc] ll):=Za (by
obtain⟨_,e,_,h⟩:=hN2;cases e;rw[hl.out] at h;refine Yz _ _ _ _ _ _ (fun p v hp hc => ?_) (Yz.new h (Qb _) (hB3.mono (Qb _)))
exact⟨⟨⟨Qa (Pt sz.out.1) hp.1,hp.2⟩,fun e=>by have:=ho.out _ e;have:=hp.1;have:=sz.out.1;omega⟩,hc⟩)
have J3:=Za (hJ _ _ _ none h0 (Z5 B3.out) (by simp));have b3':Hid (w3.cell? ⟨W.heap.size,0,none⟩=some (.func (.yield l) #[] #[])):=Za (((hB2.trans (hB3.mono hB2.size)).cell (p:=⟨W.heap.size,0,none⟩) sz.out.1).trans b1);obtain⟨Inv,hInv⟩:∃ Inv:Act->Qah->Prop,Inv=fun a' wr=>∃ (k:Nat) (pre:List Wk) (q:Option Nat) (Ds:List Nat) (x7 x8 x9 x21 x22 x23 x24 x25 x26 x27 x28 x29 x30 x31 x32 x33 x34 x35 x36 x37 x38 x39 x40 x41 x42 x43 x44 x45:Qai),
 (k<=m/\x21=.int .i64 (k:Int)/\pre.map Zaw=Zho s l0 ll k/\J (pre,q) wr/\Vs M o q w3 wr/\Ds.Nodup/\∀ D∈Ds,w3.heap.size<=D/\D<wr.heap.size/\wr.heap[D]? = some (.deferred (some []))/\q≠some D) /\
 a'={ tmps:=#[.func (.yield l) #[] #[],.pointer (some ⟨Bs,0,none⟩),.pointer (some ⟨Br,0,none⟩),.pointer (some ⟨W.heap.size,0,none⟩),.pointer (some ⟨w2.heap.size,0,none⟩),.int .i64 0,Qan,x7,x8,x9,
 .tuple #[.agg #[.int .i64 lw,.slice Z m zc],.int .i64 0],.agg #[v0,v1,v2,v3],.int .i64 a,.tuple #[.agg #[.int .i64 lw,.slice Z m zc],.int .i64 0],.agg #[.int .i64 lw,.slice Z m zc],.int .i64 0,.int .i64 0,.bool false,.pointer (some ⟨w2.heap.size,1,none⟩),.slice Z m zc,
 .int .i64 m,x21,x22,x23,x24,x25,x26,x27,x28,x29,x30,x31,x32,x33,x34,x35,x36,x37,x38,x39,x40,x41,x42,x43,x44,x45],defers:=Ds.map fun D=>{ target:=.collected D,args:=#[] } }:=⟨_,rfl⟩
clear h0 hN2 hB2 hB3 b1 y0 y1 hw1 hw3 s0 s1 s2 s3 r0 hNd S1 hs3 hs1;refine wpIn_loop Inv (fun a' _=>6-(intOf (a'.tmps.getD 21 Qan)).toNat) ?_ ?_
·rw[hInv]
exact⟨0,[],o,[],Qan,Qan,Qan,_,Qan,Qan,Qan,Qan,Qan,Qan,Qan,Qan,Qan,Qan,Qan,Qan,Qan,Qan,Qan,Qan,Qan,Qan,Qan,Qan,Qan,Qan,Qan,Qan,⟨Nat.zero_le _,rfl,(Z07 _ _ _).symm,J3.out,Vs.refl _ _ _,List.nodup_nil,by simp⟩,rfl⟩;intro a' wr hrel;rw[hInv] at hrel;obtain⟨k,pre,q,Ds,x7,x8,x9,x21,x22,x23,x24,x25,x26,x27,x28,x29,x30,x31,x32,x33,x34,x35,x36,x37,x38,x39,x40,x41,x42,x43,x44,x45,⟨hk,rfl,hpre,hJr,hKr,hDn,hDs⟩,rfl⟩:=hrel;replace hInv:=Za hInv;replace hpre:=Za hpre;replace hJr:=Za hJr;replace hKr:=Za hKr;replace hDn:=Za hDn;replace hDs:=Za hDs;by_cases hlt:k<m
case neg =>
have hc0:¬ ((k:Int)<(m:Int)):=by omega
gi_wp2_with fail
refine Zgv (B:=W.heap.size) rfl (fun W4 D hD hd hx => ?_) hDn.out (fun D hD=>⟨Qa (Qa B3.out.size (Qb _)) (hDs.out D hD).1,(hDs.out D hD).2.2.1⟩) ?_
·rcases hx with ⟨xs,he,q',hj⟩ | ⟨xs,q',hj⟩
 ·exact .inl ⟨xs,he,q',hJ.putObj _ hj hD hd rfl⟩
 ·exact .inr ⟨xs,q',hJx.putObj _ hj hD hd rfl⟩
·refine .inl ⟨pre,?_,q,hJr.out⟩
 unfold Ych;rw[hpre.out,show k=ll.length from (by have:=hlm.out;omega),Z37]
have hc0:((k:Int)<(m:Int)):=by omega
obtain⟨x,hx⟩:∃ x,ll[k]? = some x:=⟨_,Qf (by rw[hlm.out];exact hlt)⟩
have NR:Hid (U5 (Fre W.heap.size q wr) wr [.slice Z m zc] ll):=Za (Yz _ _ _ _ _ _ (fun p v hp hc=>Zuu hM.out hKr.out hp hc) N3.out);obtain⟨ad,E,ce,rfl,_,⟨z0,z1,z2,z3,z4⟩,hit,_⟩:=U7 NR.out hx;have bq:=Za (hJs.out _ _ hJr.out);have hq3:Hid (∀ k,W.heap.size<=k->k<w3.heap.size->wr.heap[k]? = w3.heap[k]? /\ q≠some k):=Za fun k h1 h2=>hKr.out.same k h2 (fun e=>by have:=hM.out _ e;omega) (fun e=>by have:=ho.out _ e;omega)
obtain⟨y0,y1,_⟩:=Zg ((hq3.out w2.heap.size (Pt (Qi sz.out.1 sz.out.2.1)) sz.out.2.2).1.trans b3.out);have c1:wr.cell? ⟨W.heap.size,0,none⟩=some (.func (.yield l) #[] #[]):=(Qg (hq3.out W.heap.size (Qb _) (by have:=sz.out;omega)).1).trans b3'.out;obtain⟨w4,hw4,u0,u1,u2,u3,u4,hs4,hB4,g4⟩:=Z8 wr (.int .u8 (x.1.1.toNat:Int)) (.int .u32 x.1.2.1) (.int .u32 x.1.2.2) (.int .i64 x.2.1) (.slice E x.2.2.length ce) 54;have J4:=hJ _ _ _ none hJr.out (Z5 hB4) (by simp);have hit4:Itm (Fre W.heap.size q w4) w4 (itV x (.slice E x.2.2.length ce)) x:=hit.map fun p v hp hc=>Zuu hM.out (Vs.below hB4) hp hc
have hY4:=hY.out pre q (lw,x,itV x (.slice E x.2.2.length ce)) w4 J4 ⟨by
rw[Qe,hpre.out];obtain⟨r,hr⟩:=Z2a s l0 x;refine(Qad.trans ⟨r,?_⟩ (Zsu s l0 hx));rw[hr]
simp[Zaw,hlv.out],hit4⟩
obtain⟨fn,tmps,assign,body,hy,hR⟩:=hY4;replace hR:=Za hR;replace J4:=Za J4;replace hit4:=Za hit4;replace hs4:=Za hs4;replace g4:=Za g4;replace hx:=Za hx;have i4:(0:Int)<=(k:Int):=by omega
replace hB4':=Za hB4;have y0':=(hB4.cell (p:=⟨w2.heap.size,0,none⟩) (by show w2.heap.size<wr.heap.size;have:=hKr.out.size;have:=sz.out;omega)).trans y0;have c1':=(hB4.cell (p:=⟨W.heap.size,0,none⟩) (by show W.heap.size<wr.heap.size;have:=hKr.out.size;have:=sz.out;omega)).trans c1;clear hit c1 y0 y1 hB4;replace hy:Sem.run Tryz.prog (Instr.yield l #[.int .i64 lw,.agg #[.int .u8 (x.1.1.toNat:Int),.int .u32 x.1.2.1,.int .u32 x.1.2.2,.int .i64 x.2.1,.slice E x.2.2.length ce]]) w4=.ok (.round l fn tmps assign body) w4:=hy
gi_wp2_with fail
refine(Zgi hR.out).mono ?_;clear hR hy y0' c1' u0 u1 u2 u3 u4 z0 z1 z2 z3 z4;rintro e w5 ⟨q5,hk5,⟨rfl,J5⟩ | ⟨rfl,J5⟩⟩
case inr =>
have D5:Hid (∀ D∈Ds,W.heap.size<=D/\w5.heap[D]? = some (.deferred (some []))):=Za fun D hD=>by
 obtain⟨h1,h2,h3,h4⟩:=hDs.out D hD;have h5:=hB4'.out.block D h2;have h6:W.heap.size<D:=by have:=sz.out;omega
 exact⟨by omega,(hk5.same D (by have:=hs4.out;omega) (fun e=>by have:=hM.out _ e;omega) h4).1.trans (h5.trans h3)⟩
replace J5:=Za J5;clear hk5 hw4
gi_wp2_with fail
refine Zgv (B:=W.heap.size) rfl (fun W4 D hD hd hx => ?_) hDn.out D5.out (.inr ⟨_,_,J5.out⟩);rcases hx with ⟨xs,he,q',hj⟩ | ⟨xs,q',hj⟩
·exact .inl ⟨xs,he,q',hJ.putObj _ hj hD hd rfl⟩
·exact .inr ⟨xs,q',hJx.putObj _ hj hD hd rfl⟩
have hk5':=Za ((hKr.out.grown (Z5 hB4'.out) (by simp)).trans hk5);have h54:Hid (∀ k,W.heap.size<=k->k<w4.heap.size->q≠some k->w5.heap[k]? = w4.heap[k]? /\ q5≠some k):=Za fun k h1 h2 h3=>hk5.same k h2 (fun e=>by have:=hM.out _ e;omega) h3
have D5:Hid (∀ D∈Ds,w3.heap.size<=D/\D<w5.heap.size/\w5.heap[D]? = some (.deferred (some []))/\q5≠some D):=Za fun D hD=>by
obtain⟨h1,h2,h3,h4⟩:=hDs.out D hD;have h5:=hB4'.out.block D h2;have h6:W.heap.size<D:=by have:=sz.out;omega
have h7:=h54.out D (by omega) (by have:=hs4.out;omega) h4;exact⟨h1,Qi h2 (Qa hB4'.out.size hk5.size),h7.1.trans (h5.trans h3),h7.2⟩;have g5:=Za ((h54.out wr.heap.size (by have:=bq.out.1;omega) (by have:=hs4.out;omega) (fun e=>by have:=bq.out.2 _ e;omega)).1.trans g4.out);have hq5:Hid (∀ k,W.heap.size<=k->k<w3.heap.size->w5.heap[k]? = w3.heap[k]? /\ q5≠some k):=Za fun k h1 h2=>hk5'.out.same k h2 (fun e=>by have:=hM.out _ e;omega) (fun e=>by have:=ho.out _ e;omega)
obtain⟨y0,y1,_⟩:=Zg ((hq5.out w2.heap.size (by have:=sz.out;omega) sz.out.2.2).1.trans b3.out);have bq5:=Za (hJs.out _ _ J5)
have hp5:Hid ((pre++[(lw,x,itV x (.slice E x.2.2.length ce))]).map Zaw=Zho s l0 ll k++[((l0:Int),x)]):=Za (by
rw[Qe,hpre.out]
simp[Zaw,hlv.out])
obtain⟨pre1,hpre1⟩:∃ p,pre++[(lw,x,itV x (.slice E x.2.2.length ce))]=p:=⟨_,rfl⟩
rw[hpre1] at J5 hp5;replace J5:=Za J5;replace hpre1:=Za hpre1;clear hk5 h54 g4 hw4 J4 hit4 hB4' hs4 hDs hJr hKr bq hpre NR;cases l0 with
| zero =>
have c0:(lw==0)=true:=by rw[hlv.out];rfl
have i9:IntKind.i64.wrap ((k:Int)+1)=((k+1:Nat):Int):=by rw[IntKind.wrap_i64];omega
gi_wp2_with fail
rw[hInv.out];refine⟨⟨k+1,pre1,q5,Ds,_,_,_,_,_,_,_,_,_,_,_,_,_,_,_,_,_,_,_,_,_,_,_,_,_,_,_,_,⟨by omega,by go_num,?_,J5.out,hk5'.out,hDn.out,D5.out⟩,rfl⟩,?_⟩
·rw[hp5.out,Zip s 0 hx.out,Zxs]
 rfl
·simp[intOf]
 omega
| succ l1 =>
have c0:(lw==0)=false:=by have:=hlv.out;simp;omega
have BS3:=V5 _ _ _ _ _ _ _ hBsW B3.out;have hkB:w5.heap[Bs]? = w3.heap[Bs]? := (hk5'.out.same Bs BS3.2.2.2.2 (hZ.out Bs (.inr (.inl rfl))).1 (hZ.out Bs (.inr (.inl rfl))).2).1;obtain⟨s0,s1,s2,s3,_⟩:=BS3;have s0':=(Qg (a:=⟨Bs,0,none⟩) hkB).trans s0;have s1':=(Qg (a:=⟨Bs,1,none⟩) hkB).trans s1;have s2':=(Qg (a:=⟨Bs,2,none⟩) hkB).trans s2;have s3':=(Qg (a:=⟨Bs,3,none⟩) hkB).trans s3;obtain⟨f0,f1,f2,f3,f4,_⟩:=Zs g5.out;have hAT:=Za (hdn.out l1 rfl x (Ph hx.out));obtain⟨w6,hw6,g6,b6,hs6,hB6⟩:∃ w6,(w5.alloc (.cells #[v0,v1,v2,v3] 29)).alloc (.cells #[.int .i64 x.2.1] 3)=w6/\Z24 w5.heap.size v0 v1 v2 v3 w6/\Z2c (w5.heap.size+1) (.int .i64 x.2.1) w6/\w6.heap.size=w5.heap.size+2/\Qaq w5.heap.size w5 w6:=by
 obtain⟨wa,ha,ga,sa,ba⟩:=X5 w5 v0 v1 v2 v3 29;obtain⟨wb,hb,gb,sb,bb⟩:=Zdw wa (.int .i64 x.2.1) 3;obtain⟨k0,k1,k2,k3,_⟩:=Ze ga;exact⟨wb,by rw[ha,hb],V5 _ _ _ _ _ _ _ ⟨k0,k1,k2,k3,by omega⟩ bb,⟨by rw[<- sa];exact gb,by omega⟩,by omega,ba.trans (bb.mono ba.size)⟩
have hIt:=Za (Zjb v0 v1 v2 v3 x.2.1 w5);rw[hw6] at hIt;clear s0 s1 s2 s3 hkB hw6
gi_wp2_with fail
refine⟨trivial,?_⟩
gi_at_call 55
refine(callsIn_wide.2 hIt.out).mono ?_;rintro e w6 ⟨rfl,rfl⟩
gi_wp2_with fail
have Z6:Hid (∀ k,Z9y n0 w5.heap.size (w5.heap.size+1) k->k<w6.heap.size/\¬ M k/\q5≠some k):=Za fun k hk=>by
 rcases hk with h | rfl | rfl
 ·have h1:=hZ.out k (.inl h)
 have h2:k<w3.heap.size:=by have:=sz.out;omega
 exact⟨by have:=hk5'.out.size;omega,h1.1,(hk5'.out.same k h2 h1.1 h1.2).2⟩
 ·exact⟨by omega,fun e=>by have:=hM.out _ e;have:=bq5.out.1;omega,fun e=>by have:=bq5.out.2 _ e;omega⟩
 ·exact⟨by omega,fun e=>by have:=hM.out _ e;have:=bq5.out.1;omega,fun e=>by have:=bq5.out.2 _ e;omega⟩
have S6:Sto (fun p=>p.block<n0) w6 (.agg #[v0,v1,v2,v3]) s:=hSW.map fun p v hp hc=>Zd8 (fun k hk=>by
 have h1:=hZ.out k (.inl hk);rw[hB6.block k (by have:=bq5.out.1;omega),(hk5'.out.same k (by have:=sz.out;omega) h1.1 h1.2).1]
 exact B3.out.block k (by omega)) hp hc
have c6:Hid (w6.cell? ⟨W.heap.size,0,none⟩=some (.func (.yield l) #[] #[])/\W.heap.size<w6.heap.size/\¬ M W.heap.size/\q5≠some W.heap.size):=Za (by
 obtain⟨h1,h2⟩:=hq5.out W.heap.size (Qb _) (by have:=sz.out;omega);have h3:W.heap.size<w5.heap.size:=by have:=hk5'.out.size;have:=sz.out;omega
 exact⟨(Qg (a:=⟨W.heap.size,0,none⟩) ((hB6.block _ h3).trans h1)).trans b3'.out,by omega,fun e=>by have:=hM.out _ e;omega,h2⟩)
have J6:=hJ _ _ _ none J5.out (Z5 hB6) (by simp);have k6:Hid (Vs M o q5 w3 w6):=Za (hk5'.out.grown (Z5 hB6) (by simp));have D6:Hid (∀ D∈Ds,w3.heap.size<=D/\D<w6.heap.size/\w6.heap[D]? = some (.deferred (some []))/\¬ M D/\q5≠some D):=Za fun D hD=>by
 obtain⟨h1,h2,h3,h4⟩:=D5.out D hD;exact⟨h1,by omega,(hB6.block D h2).trans h3,fun e=>by have:=hM.out _ e;have:=sz.out;omega,h4⟩
have hW6:W.heap.size<=w6.heap.size:=by have:=bq5.out.1;omega
have hpre6:Hid (∀ (r:List Wk) (y:Wk),(r++[y]).map Zaw <+: Vj s l1 x.2.1->((pre1++r)++[y]).map Zaw <+: ll.flatMap (Zjn s (l1+1))):=Za fun r y hr=>by
 refine Qad.trans ?_ (Zsu s (l1+1) hx.out);rw[Qq,Qe,hp5.out,Qq,Zn5];exact(Qae _).2 ((Qae [(((l1+1:Nat):Int),x)]).2 hr)
have hfin6:Hid (∀ xs:List Wk,xs.map Zaw=Vj s l1 x.2.1->(pre1++xs).map Zaw=Zho s (l1+1) ll (k+1)):=Za fun xs hxs=>by
 rw[Qe,hp5.out,hxs,Zip s (l1+1) hx.out,Zn5,Qq];rfl
have hr1:=hr0 l1 rfl x.2.1 hAT.out n0 w5.heap.size (w5.heap.size+1) v0 v1 v2 v3 w6 (by omega) g6 b6 S6;clear y0 y1 s0' s1' s2' s3' f0 f1 f2 f3 f4 g5 g6 b6 S6 hIt hr0 D5 hq5 hSW;refine Za0 (m:=5) (gf:=94) (lb:=#[.pointer (some ⟨w5.heap.size,0,none⟩),.pointer (some ⟨w5.heap.size+1,0,none⟩)]) rfl (enters_of Tryz.func94 (by kernel_rfl) rfl) hr1 (fun _=>rfl) M (fun k e=>by have:=hM.out k e;omega) q5 Z6.out
 (fun r V=>J (pre1++r.1,r.2) V/\Vs M q5 r.2 w6 V) (fun c r V=>(c=.ret/\Jx (pre1++r.1,r.2) V)/\Vs M q5 r.2 w6 V)
 (OwnFrom.and (fun r A B row hs hg hr=>hJ _ A B row hs hg fun r e=>⟨by have:=(hr r e).1;omega,(hr r e).2⟩) (Zhn (Qb _)))
 (fun c=>OwnFrom.and (fun r A B row hs hg hr=>⟨hs.1,hJx _ A B row hs.2 hg fun r e=>⟨by have:=(hr r e).1;omega,(hr r e).2⟩⟩) (Zhn (Qb _)))
 (fun r V hr=>(hJs.out _ _ hr.1).2) ⟨by rw[P9];exact J6,Vs.refl _ _ _⟩
 (fun y a' V=>∃ (g:Nat) (d:Qai),a'={ tmps:=#[.func (.yield l) #[] #[],.pointer (some ⟨Bs,0,none⟩),.pointer (some ⟨Br,0,none⟩),.pointer (some ⟨W.heap.size,0,none⟩),.pointer (some ⟨w2.heap.size,0,none⟩),.int .i64 0,Qan,.pointer (some ⟨wr.heap.size,0,none⟩),.int .i64 y.1,.pointer (some ⟨g,0,none⟩),
 .tuple #[.agg #[.int .i64 lw,.slice (some ad) m zc],.int .i64 0],.agg #[v0,v1,v2,v3],.int .i64 a,.tuple #[.agg #[.int .i64 lw,.slice (some ad) m zc],.int .i64 0],.agg #[.int .i64 lw,.slice (some ad) m zc],.int .i64 0,.int .i64 0,.bool false,.pointer (some ⟨w2.heap.size,1,none⟩),.slice (some ad) m zc,
 .int .i64 m,.int .i64 k,.bool true,.pointer (some (ad.add (k*5))),.agg #[.int .u8 (x.1.1.toNat:Int),.int .u32 x.1.2.1,.int .u32 x.1.2.2,.int .i64 x.2.1,.slice E x.2.2.length ce],.func (.yield l) #[] #[],.pointer (some ⟨w2.heap.size,0,none⟩),.int .i64 lw,
 .agg #[.int .u8 (x.1.1.toNat:Int),.int .u32 x.1.2.1,.int .u32 x.1.2.2,.int .i64 x.2.1,.slice E x.2.2.length ce],.bool true,.bool false,.pointer (some ⟨w2.heap.size,0,none⟩),.int .i64 lw,.bool false,.agg #[v0,v1,v2,v3],.pointer (some ⟨wr.heap.size,3,none⟩),.int .i64 x.2.1,
 .func (.func 94) #[] #[.pointer (some ⟨w5.heap.size,0,none⟩),.pointer (some ⟨w5.heap.size+1,0,none⟩)],.int .i64 y.1,.agg #[.int .u8 (y.2.1.1.1.toNat:Int),.int .u32 y.2.1.1.2.1,.int .u32 y.2.1.1.2.2,.int .i64 y.2.1.2.1,d],x40,x41,x42,x43,x44,x45],defers:=[] }/\y.2.2=itV y.2.1 d /\
 V.cell? ⟨g,0,none⟩=some (.int .u8 (y.2.1.1.1.toNat:Int))/\V.cell? ⟨g,1,none⟩=some (.int .u32 y.2.1.1.2.1)/\V.cell? ⟨g,2,none⟩=some (.int .u32 y.2.1.1.2.2)/\V.cell? ⟨g,3,none⟩=some (.int .i64 y.2.1.2.1)/\V.cell? ⟨g,4,none⟩=some d)
 (fun y a' _ A B row hs hg hr=>by
 obtain⟨g,d,e1,e2,h0,h1,h2,h3,h4⟩:=hs;have hn:=fun r e=>(hr r e).2
 exact⟨g,d,e1,e2,cell_kept h0 hg hn,cell_kept h1 hg hn,cell_kept h2 hg hn,cell_kept h3 hg hn,cell_kept h4 hg hn⟩)
 (fun pre x q=>Zl1 _ _ _ _ _ _) ?assign ?body ?done ?stop
case assign =>
 rintro l' pre' q' ⟨lv',it',val'⟩ V K hi ⟨_,hit⟩ hK;obtain⟨A',c',hd,-⟩:=hit.open
 dsimp only at hd
 subst hd;obtain⟨V1,hV1,v0',v1',v2',v3',v4',hVs,hVB,_⟩:=Z8 V (.int .u8 (it'.1.1.toNat:Int)) (.int .u32 it'.1.2.1) (.int .u32 it'.1.2.2) (.int .i64 it'.2.1) (.slice A' it'.2.2.length c') 54;replace hVs:=Za hVs;clear hit hi;simp only[Ybn,itV]
 gi_wp2_with fail
 exact hK _ _ (Z5 hVB) ⟨V.heap.size,_,rfl,rfl,v0',v1',v2',v3',v4'⟩
case body =>
 rintro l' pre' q' ⟨lv',it',val'⟩ a' V hVs ⟨hj,hkV⟩ ⟨g,d,rfl,hd,v0',v1',v2',v3',v4'⟩ ⟨hpf,hit⟩
 dsimp only at hd hit v0' v1' v2' v3' v4'
 subst hd;have c7:V.cell? ⟨W.heap.size,0,none⟩=some (.func (.yield l) #[] #[]):=(Qg (a:=⟨W.heap.size,0,none⟩) (hkV.same _ c6.out.2.1 c6.out.2.2.1 c6.out.2.2.2).1).trans c6.out.1;obtain⟨fn,tmps,assign,body,hy,hR⟩:=hY.out (pre1++pre') q' (lv',it',itV it' d) V hj ⟨hpre6.out _ _ hpf,hit.map fun p v hp hc=>⟨⟨⟨Qa (by omega) hp.1.1,hp.1.2⟩,hp.2⟩,hc⟩⟩;replace hy:Sem.run Tryz.prog (Instr.yield l #[.int .i64 lv',.agg #[.int .u8 (it'.1.1.toNat:Int),.int .u32 it'.1.2.1,.int .u32 it'.1.2.2,.int .i64 it'.2.1,d]]) V=.ok (.round l fn tmps assign body) V:=hy;replace hR:=Za hR;replace hkV:=Za hkV;clear hpf hit hj
 gi_wp2_with fail
 refine⟨rfl,(Z18 hR.out).mono ?_⟩;clear hR hy c7 v0' v1' v2' v3' v4';rintro e V1 ⟨q1,hk1,⟨rfl,J1⟩ | ⟨rfl,J1⟩⟩
 ·rw[Qq] at J1
 have hk2:=Za (hkV.out.trans hk1);replace hk1:=Za hk1;replace J1:=Za J1
 gi_wp2_with fail
 exact⟨q1,hk1.out,J1.out,hk2.out⟩
 ·rw[Qq] at J1
 have hk2:=Za (hkV.out.trans hk1);replace hk1:=Za hk1;replace J1:=Za J1
 gi_wp2_with fail
 exact⟨q1,hk1.out,⟨rfl,J1.out⟩,hk2.out⟩
case done =>
 rintro xs q' V hVs hE ⟨hj,hkV⟩ hDV hqV;have D7:Hid (∀ D∈w6.heap.size::Ds,w3.heap.size<=D/\D<V.heap.size/\V.heap[D]? = some (.deferred (some []))/\q'≠some D):=Za fun D hD=>by
 rcases Qm.1 hD with rfl | hD
 ·exact⟨k6.out.size,hVs,hDV,hqV⟩
 ·obtain⟨h1,h2,h3,h4,h5⟩:=D6.out D hD
 obtain⟨h6,h7⟩:=hkV.same D h2 h4 h5;exact⟨h1,by omega,h6.trans h3,h7⟩;have hN7:Hid ((w6.heap.size::Ds).Nodup):=Za (Pn.2 ⟨fun h=>by have:=(D6.out _ h).2.1;omega,hDn.out⟩);have hk7:=Za (k6.out.trans hkV);have hp7:=Za (hfin6.out xs hE);replace hj:=Za hj;replace hs6:=Za hs6;clear hVs hDV hqV hkV
 gi_wp2_with fail
 rw[hInv.out]
 refine⟨⟨k+1,pre1++xs,q',w6.heap.size::Ds,.pointer (some ⟨wr.heap.size,0,none⟩),x8,x9,.int .i64 ((k:Int)+1),.bool true,.pointer (some (ad.add (k*5))),.agg #[.int .u8 (x.1.1.toNat:Int),.int .u32 x.1.2.1,.int .u32 x.1.2.2,.int .i64 x.2.1,.slice E x.2.2.length ce],.func (.yield l) #[] #[],
 .pointer (some ⟨w2.heap.size,0,none⟩),.int .i64 lw,.agg #[.int .u8 (x.1.1.toNat:Int),.int .u32 x.1.2.1,.int .u32 x.1.2.2,.int .i64 x.2.1,.slice E x.2.2.length ce],.bool true,.bool false,.pointer (some ⟨w2.heap.size,0,none⟩),.int .i64 lw,.bool false,.agg #[v0,v1,v2,v3],.pointer (some ⟨wr.heap.size,3,none⟩),.int .i64 x.2.1,
 .func (.func 94) #[] #[.pointer (some ⟨w5.heap.size,0,none⟩),.pointer (some ⟨w5.heap.size+1,0,none⟩)],x38,x39,x40,x41,x42,x43,x44,.int .i64 ((k:Int)+1),⟨by omega,by go_num,hp7.out,hj.out,hk7.out,hN7.out,D7.out⟩,?_⟩,?_⟩
 ·rfl
 simp[intOf];omega
case stop =>
 rintro c pre' q' V hVs ⟨⟨rfl,hj⟩,hkV⟩ hDV hqV;have D7:Hid (∀ D∈w6.heap.size::Ds,W.heap.size<=D/\V.heap[D]? = some (.deferred (some []))):=Za fun D hD=>by
 rcases Qm.1 hD with rfl | hD
 ·exact⟨hW6,hDV⟩
 ·obtain⟨h1,h2,h3,h4,h5⟩:=D6.out D hD
 obtain⟨h6,h7⟩:=hkV.same D h2 h4 h5;exact⟨by have:=sz.out;omega,h6.trans h3⟩;have hN7:Hid ((w6.heap.size::Ds).Nodup):=Za (Pn.2 ⟨fun h=>by have:=(D6.out _ h).2.1;omega,hDn.out⟩);replace hj:=Za hj;replace hs6:=Za hs6;clear hVs hDV hqV hkV
 gi_wp2_with fail
 refine Zgv (Ds:=w6.heap.size::Ds) (B:=W.heap.size) rfl (fun W4 D hD hd hx => ?_) hN7.out D7.out (.inr ⟨_,_,hj.out⟩);rcases hx with ⟨xs,he,q',hj⟩ | ⟨xs,q',hj⟩
 ·exact .inl ⟨xs,he,q',hJ.putObj _ hj hD hd rfl⟩
 ·exact .inr ⟨xs,q',hJx.putObj _ hj hD hd rfl⟩}
theorem Zgq (s:Rm):∀ l:Nat,Zjr s l
 | 0=>Zk9 s 0 fun j h=>by omega
 | l+1=>Zk9 s (l+1) fun j h=>by cases h;exact Zgq s l
end Go.Proofs.YtgmbjnajdfgenaaGreat
namespace Go.Proofs.YtgmbjnajdfgenaaGreat
open Go.RowKit Go.Shelf
attribute [local go_sem] Oper.semAt_some
def Zsq (s:Rm) (a:Int) (f t:Ky) (w:Qah):Qap->Qah->Prop:=fun e w'=>∃ u c,e=.returned (.tuple #[.slice u (raV s a f t).length c,.int .i64 (ckE s a)])/\U5 (New w.heap.size w') w' [.slice u (raV s a f t).length c] (raV s a f t)/\Qaq w.heap.size w w'
theorem Z0l {s:Rm} {a:Int} {f t:Ky} (h:ckE s a≠0):raV s a f t=[]:=if_neg h
theorem Zyw {s:Rm} {a:Int} {f t:Ky} (h:ckE s a=0):raV s a f t=Zhi s a f t:=if_pos h
theorem Z1r {F:Fence} {n:Nat} {P:Program} {w:Qah} {ops:Array Oper} {rest:List Oper} {o:Oper} {a:Act} {Q:Exit->Act->Qah->Prop} (hg:o.guard=none) (s x:Operand) (t:Qak)
 (hop:o.op=Op.call { callee:=Callee.builtin Builtin.append,args:=#[s,x],argTypes:=#[t,t] }) {v u v':Qai} {w':Qah} (hs:a.eval s=v) (hx:a.eval x=u)
 (hrun:(Qv #[t,t] o.type #[v,u]).run P w=.ok v' w') (h:wpListIn F n P ops Q rest (a.put o.dst v') w'):wpListIn F n P ops Q (o::rest) a w:=by
 refine wpListIn_plain hg fun K hK' => ?_
 unfold Oper.wpIn;refine⟨?_,?_⟩
 ·simp[Oper.about,hop,resolve,Target.leads,Sem.run_pure]
 ·rw[Oper.semAt_plain F _ _ (by rw[hop];intro c hc';cases hc')]
 simp[execOp,hop,resolve,invoke,builtin,hs,hx,hrun,Result.andThen];exact hK' _ _ h
def Zpg (bb lo:Nat) (L:List It) (q:Option Nat) (V:Qah):Prop:=∃ A c,Boxed V bb 39 (.slice A L.length c)/\Yj rIt 5 54 lo V A c L/\q=A.map (·.block)
def RgI (n0:Qah) (b1 b2 bb lo lo':Nat) (f t:Ky) (r:List Wk×Option Nat) (V:Qah):Prop :=
 (Qaq n0.heap.size n0 V/\lo'<=V.heap.size)/\(∀ p∈r.1,Zo t p.2.1.1=false)/\(Yh b1 #[.int .u8 (f.1.toNat:Int),.int .u32 f.2.1,.int .u32 f.2.2] 37 V/\Yh b2 #[.int .u8 (t.1.toNat:Int),.int .u32 t.2.1,.int .u32 t.2.2] 37 V)/\Zpg bb lo (Zal f (r.1.map Zaw)) r.2 V
def RgX (n0:Qah) (bb lo lo':Nat) (L:List It) (c:Code) (r:List Wk×Option Nat) (V:Qah):Prop:=c=.exit 0/\(Qaq n0.heap.size n0 V/\lo'<=V.heap.size)/\Zpg bb lo L r.2 V
theorem Zb7 {bb lo:Nat} {L:List It} {q:Option Nat} {V V':Qah} {row:Option Nat} (h:Zpg bb lo L q V) (hg:V.grownBy V' row) (hr:∀ r,row=some r->∃ o:Obj,V.heap[r]? = some o/\o.isCells=false):Zpg bb lo L q V':=by
 obtain⟨A,c,h1,h2,h3⟩:=h;exact⟨A,c,Zl h1 hg hr,h2.own Z0 hg hr,h3⟩
theorem Zt7 {bb lo:Nat} {L:List It} {q:Option Nat} {V:Qah} (h:Zpg bb lo L q V):∀ k,q=some k->lo<=k/\k<V.heap.size:=fun k e=>by
 obtain⟨A,c,_,h2,h3⟩:=h;obtain⟨_,_,e4,_⟩:=h2.form;obtain⟨cs,h5,_⟩:=h2;have:=h5.lt k (by rw[e4,<- h3,e]);exact⟨this.1,this.2⟩
theorem Z9c {n0:Qah} {b1 b2 bb lo lo':Nat} {f t:Ky} {B:Nat} (hB:n0.heap.size<=B):OwnFrom B (RgI n0 b1 b2 bb lo lo' f t):=fun r V V' row hs hg hr=>by
 obtain⟨⟨h1,h2⟩,h3,⟨h4,h5⟩,h6⟩:=hs;have hn:=fun r e=>(hr r e).2;exact⟨⟨ownFrom_below (Qb _) hB () V V' row h1 hg hr,Qa h2 hg.size⟩,h3,⟨Zl h4 hg hn,Zl h5 hg hn⟩,Zb7 h6 hg hn⟩
theorem Z9d {n0:Qah} {bb lo lo':Nat} {L:List It} {c:Code} {B:Nat} (hB:n0.heap.size<=B):OwnFrom B (RgX n0 bb lo lo' L c):=fun r V V' row hs hg hr=>by
 obtain⟨h0,⟨h1,h2⟩,h6⟩:=hs;exact⟨h0,⟨ownFrom_below (Qb _) hB () V V' row h1 hg hr,Qa h2 hg.size⟩,Zb7 h6 hg fun r e=>(hr r e).2⟩
theorem Z79 {B lo:Nat} {A:Option Qaj} {V:Qah} {p:Qaj} {v:Qai} (hB:lo<=B) (hp:Fre B (A.map (·.block)) V p) (hc:V.cell? p=some v):Xy lo A V p/\V.cell? p=some v:=⟨⟨⟨Qa hB hp.1.1,hp.1.2⟩,hp.2⟩,hc⟩
theorem Zn0 {s:Rm} {a:Int} {f t:Ky} {w V:Qah} {bb lo:Nat} {q:Option Nat} (he:ckE s a=0) (hlo:w.heap.size<=lo) (hb:Qaq w.heap.size w V) (hr:Zpg bb lo (Zhi s a f t) q V) {A:Option Qaj} {n c:Nat} (hbx:Boxed V bb 39 (.slice A n c)):Zsq s a f t w (.returned (.tuple #[.slice A n c,.int .i64 0])) V:=by
 obtain⟨A',c',h1,h2,_⟩:=hr;unfold Boxed at hbx h1;rw[hbx] at h1;cases h1;refine⟨A,c,by rw[Zyw he,he],?_,hb⟩;rw[Zyw he];exact Yz.mono (Yj.rel Z0 h2) hlo
theorem Zmo (v:Qai) (s:Rm) (a:Int) (f t:Ky) (w:Qah) (h:Sto (Old w) w v s) :
 Qao Tryz.prog 29 #[v,.int .i64 a,kyV f,kyV t] w (Zsq s a f t w):=by
 obtain⟨A,ca,B,cb,N,cn,L,cl,rfl,_⟩:=id h.open;obtain⟨v0,hv0⟩:∃ q,(Value.slice A s.1.1.length ca)=q:=⟨_,rfl⟩
 obtain⟨v1,hv1⟩:∃ q,(Value.slice B s.1.2.length cb)=q:=⟨_,rfl⟩
 obtain⟨v2,hv2⟩:∃ q,(Value.slice N s.2.1.length cn)=q:=⟨_,rfl⟩
 obtain⟨v3,hv3⟩:∃ q,(Value.slice L s.2.2.length cl)=q:=⟨_,rfl⟩
 rw[hv0,hv1,hv2,hv3] at h ⊢;replace hv0:=Za hv0;replace hv1:=Za hv1;replace hv2:=Za hv2;replace hv3:=Za hv3;obtain⟨w1,hw1,k1,hs1,hB1⟩:=X5 w v0 v1 v2 v3 29;obtain⟨w2,hw2,_,_,_,hs2,hB2,k2⟩:=Xa w1 (.int .u8 (f.1.toNat:Int)) (.int .u32 f.2.1) (.int .u32 f.2.2) 37;obtain⟨w3,hw3,_,_,_,hs3,hB3,k3⟩:=Xa w2 (.int .u8 (t.1.toNat:Int)) (.int .u32 t.2.1) (.int .u32 t.2.2) 37;have hB23:=hB2.trans (hB3.mono hB2.size);have K1:Hid (Yh w.heap.size #[v0,v1,v2,v3] 29 w3):=Za (Zr _ _ _ _ _ k1 hB23);have K2:Hid (Yh w1.heap.size #[.int .u8 (f.1.toNat:Int),.int .u32 f.2.1,.int .u32 f.2.2] 37 w3):=Za (Zr _ _ _ _ _ k2 hB3);have K3:Hid (Yh w2.heap.size #[.int .u8 (t.1.toNat:Int),.int .u32 t.2.1,.int .u32 t.2.2] 37 w3):=Za k3;have B3:Hid (Qaq w.heap.size w w3):=Za (hB1.trans (hB23.mono hB1.size));have sz:Hid (w1.heap.size=w.heap.size+1/\w2.heap.size=w.heap.size+2/\w3.heap.size=w.heap.size+3):=Za ⟨hs1,by omega,by omega⟩;have hck:=Za (Xp (.agg #[v0,v1,v2,v3]) s a w3 (h.below B3.out));obtain⟨E0,hE0⟩:∃ q,ckE s a=q:=⟨_,rfl⟩
 obtain⟨H0,hH0⟩:∃ q,ckH s a=q:=⟨_,rfl⟩
 rw[hE0,hH0] at hck;obtain⟨s0,s1,s2,s3,_⟩:=Ze K1.out;replace h:=Za h;replace hE0:=Za hE0;replace hs1:=Za hs1;replace hs2:=Za hs2;replace hs3:=Za hs3;clear k1 k2 k3 hB1 hB2 hB3 hB23;unfold kyV;refine callsIn_wide.1 (callsIn_of_wp_marks (n:=5) Tryz.func29 rfl trivial ?_ rfl);simp only[Tryz.ntmps29,Qy,Qo,Qz,Q0,Q3,Q4,Q5,Q6,Q7,Q8,Q9]
 gi_wp2_with fail
 refine⟨trivial,?_⟩
 gi_at_call 18
 refine(callsIn_wide.2 hck.out).mono ?_;rintro e w4 ⟨rfl,hB4⟩;have B4:=Za (B3.out.trans (hB4.mono B3.out.size));replace K1:Hid (Yh w.heap.size #[v0,v1,v2,v3] 29 w4):=Za (Zr _ _ _ _ _ K1.out hB4);replace K2:Hid (Yh w1.heap.size #[.int .u8 (f.1.toNat:Int),.int .u32 f.2.1,.int .u32 f.2.2] 37 w4):=Za (Zr _ _ _ _ _ K2.out hB4);replace K3:Hid (Yh w2.heap.size #[.int .u8 (t.1.toNat:Int),.int .u32 t.2.1,.int .u32 t.2.2] 37 w4):=Za (Zr _ _ _ _ _ K3.out hB4);have l34:=Za hB4.size;clear hw1 hw2 hw3 s0 s1 s2 s3 hck hB4;by_cases he:E0=0
 case neg =>
 have e1:(E0 != 0)=true:=by simpa using he
 have hne:Hid (ckE s a≠0):=Za (by rw[hE0.out];exact he);clear he
 gi_wp2_with fail
 refine⟨_,results_tmp2 rfl _ _ _,none,0,?_,?_,B4.out⟩
 ·rw[Z0l hne.out,hE0.out]
 rfl
 ·rw[Z0l hne.out]
 exact Z1o _ _;subst he;obtain⟨s0,s1,s2,s3,_⟩:=Ze K1.out;obtain⟨w5,hw5,K5,hs5,hB5⟩:∃ w5,w4.alloc (.cells #[.slice none 0 0] 39)=w5/\Boxed w5 w4.heap.size 39 (.slice none 0 0)/\w5.heap.size=w4.heap.size+1/\Qaq w4.heap.size w4 w5:=⟨_,rfl,Boxed.new _ _ _,by simp,(Qc _ _).alloc (Qb _) _⟩
 have hIt:=Za (Zjb v0 v1 v2 v3 a w5);have s0':=(hB5.cell (p:=⟨w.heap.size,0,none⟩) (by show w.heap.size<w4.heap.size;have:=sz.out;have:=l34.out;omega)).trans s0;have s1':=(hB5.cell (p:=⟨w.heap.size,1,none⟩) (by show w.heap.size<w4.heap.size;have:=sz.out;have:=l34.out;omega)).trans s1;have s2':=(hB5.cell (p:=⟨w.heap.size,2,none⟩) (by show w.heap.size<w4.heap.size;have:=sz.out;have:=l34.out;omega)).trans s2;have s3':=(hB5.cell (p:=⟨w.heap.size,3,none⟩) (by show w.heap.size<w4.heap.size;have:=sz.out;have:=l34.out;omega)).trans s3;obtain⟨w6,hw6,g6,b6,hs6,hB6⟩:∃ w6,(w5.alloc (.cells #[v0,v1,v2,v3] 29)).alloc (.cells #[.int .i64 a] 3)=w6/\Z24 w5.heap.size v0 v1 v2 v3 w6/\Z2c (w5.heap.size+1) (.int .i64 a) w6/\w6.heap.size=w5.heap.size+2/\Qaq w5.heap.size w5 w6:=by
 obtain⟨wa,ha,ga,sa,ba⟩:=X5 w5 v0 v1 v2 v3 29;obtain⟨wb,hb,gb,sb,bb⟩:=Zdw wa (.int .i64 a) 3;obtain⟨k0,k1,k2,k3,_⟩:=Ze ga;exact⟨wb,by rw[ha,hb],V5 _ _ _ _ _ _ _ ⟨k0,k1,k2,k3,by omega⟩ bb,⟨by rw[<- sa];exact gb,by omega⟩,by omega,ba.trans (bb.mono ba.size)⟩;rw[hw6] at hIt;replace hs5:=Za hs5;replace K5:=Za K5;clear s0 s1 s2 s3 hw6
 gi_wp2_with fail
 refine⟨trivial,?_⟩
 gi_at_call 55
 refine(callsIn_wide.2 hIt.out).mono ?_;rintro e w6 ⟨rfl,rfl⟩
 gi_wp2_with fail
 obtain⟨htree,_,_⟩:=Zak hE0.out;have l46:Hid (w.heap.size<w4.heap.size/\w2.heap.size<w4.heap.size/\w4.heap.size<w5.heap.size/\w6.heap.size=w5.heap.size+2):=Za ⟨by have:=sz.out;have:=l34.out;omega,by have:=sz.out;have:=l34.out;omega,by have:=hs5.out;omega,hs6⟩;have hB46:=Za (hB5.trans (hB6.mono hB5.size));have B6:Hid (Qaq w.heap.size w w6):=Za (B4.out.trans (hB46.out.mono (Pt l46.out.1)));have K26:Yh w1.heap.size _ _ w6:=Zr _ _ _ _ _ K2.out hB46.out;have K36:Yh w2.heap.size _ _ w6:=Zr _ _ _ _ _ K3.out hB46.out;have K56:Boxed w6 w4.heap.size 39 (.slice none 0 0):=(hB6.block _ (by have:=l46.out;omega)).trans K5.out;have hI0:RgI w w1.heap.size w2.heap.size w4.heap.size w5.heap.size w6.heap.size f t ([],none) w6:=⟨⟨B6.out,Qb _⟩,by simp,⟨K26,K36⟩,none,0,K56,Yj.nil _ _ _ _ _,rfl⟩
 have S6:Sto (fun p=>p.block<w.heap.size) w6 (.agg #[v0,v1,v2,v3]) s:=h.out.map fun p v hp hc=>Zd8 (fun k hk=>B6.out.block k hk) hp hc
 have hit6:=Zgq s (rmV s a).1.toNat a (Zbe htree) w.heap.size w5.heap.size (w5.heap.size+1) v0 v1 v2 v3 w6 (by have:=l46.out;omega) g6 b6 S6;have hstop6:=Za (fun(M:List (Int×It)) (p:Int×It) hM h1 h2=>Z19 (f:=f) (t:=t) (M:=M) (p:=p) htree hM h1 h2);have hall6:=Za (fun(M:List (Int×It)) hM h1=>Z2p (s:=s) (a:=a) (f:=f) (t:=t) (M:=M) hM h1);have hlen6:=Za (fun(M:List (Int×It)) hM=>Z2k (f:=f) (M:=M) htree hM);obtain⟨LL,hLL⟩:∃ q,Vj s (rmV s a).1.toNat a=q:=⟨_,rfl⟩
 rw[hLL] at hit6 hstop6 hall6 hlen6;obtain⟨RR,hRR⟩:∃ q,Zhi s a f t=q:=⟨_,rfl⟩
 rw[hRR] at hstop6 hall6;replace hs6:=Za hs6;replace hLL:=Za hLL;replace hRR:=Za hRR;replace htree:=Za htree;clear s0' s1' s2' s3' g6 b6 S6 hIt hB5 hB6 K26 K36 K56
 refine Za0 (m:=5) (gf:=94) (lb:=#[.pointer (some ⟨w5.heap.size,0,none⟩),.pointer (some ⟨w5.heap.size+1,0,none⟩)]) rfl (enters_of Tryz.func94 (by kernel_rfl) rfl) hit6 (fun _=>rfl) (fun k=>k=w4.heap.size) (fun k e=>by have:=l46.out;omega) none (fun k hk=>by
 rcases hk with h | rfl | rfl
 ·exact⟨by have:=l46.out;omega,by have:=l46.out;omega,by simp⟩
 ·exact⟨by have:=l46.out;omega,by have:=l46.out;omega,by simp⟩
 ·exact⟨by have:=l46.out;omega,by have:=l46.out;omega,by simp⟩)
 (RgI w w1.heap.size w2.heap.size w4.heap.size w5.heap.size w6.heap.size f t) (RgX w w4.heap.size w5.heap.size w6.heap.size RR)
 (Z9c (by have:=l46.out;omega)) (fun c=>Z9d (by have:=l46.out;omega))
 (fun r V hr k e=>(Zt7 hr.2.2.2 k e).2) hI0
 (fun y a' V=>∃ (g:Nat) (d:Qai),a'={ tmps:=#[.agg #[v0,v1,v2,v3],.int .i64 a,.agg #[.int .u8 (f.1.toNat:Int),.int .u32 f.2.1,.int .u32 f.2.2],.agg #[.int .u8 (t.1.toNat:Int),.int .u32 t.2.1,.int .u32 t.2.2],.pointer (some ⟨w.heap.size,0,none⟩),Qan,.pointer (some ⟨w1.heap.size,0,none⟩),.pointer (some ⟨w2.heap.size,0,none⟩),.slice none 0 0,.int .i64 0,.int .i64 H0,.int .i64 0,.pointer (some ⟨w4.heap.size,0,none⟩),
 .int .i64 y.1,.pointer (some ⟨g,0,none⟩),.tuple #[.int .i64 H0,.int .i64 0],.agg #[v0,v1,v2,v3],.int .i64 a,.tuple #[.int .i64 H0,.int .i64 0],.int .i64 H0,.int .i64 0,.int .i64 0,.bool false,Qan,.agg #[v0,v1,v2,v3],.int .i64 a,
 .func (.func 94) #[] #[.pointer (some ⟨w5.heap.size,0,none⟩),.pointer (some ⟨w5.heap.size+1,0,none⟩)],.int .i64 y.1,.agg #[.int .u8 (y.2.1.1.1.toNat:Int),.int .u32 y.2.1.1.2.1,.int .u32 y.2.1.1.2.2,.int .i64 y.2.1.2.1,d],Qan,Qan,Qan,Qan,Qan,Qan,Qan,Qan,Qan,Qan,Qan,Qan,Qan,Qan,Qan,Qan,Qan,Qan],defers:=[] }/\y.2.2=itV y.2.1 d /\
 Yh g #[.int .u8 (y.2.1.1.1.toNat:Int),.int .u32 y.2.1.1.2.1,.int .u32 y.2.1.1.2.2,.int .i64 y.2.1.2.1,d] 54 V)
 (fun y a' _ A B row hs hg hr=>by
 obtain⟨g,d,e1,e2,h0⟩:=hs
 exact⟨g,d,e1,e2,Zl h0 hg fun r e=>(hr r e).2⟩)
 (fun pre x q=>Zl1 _ _ _ _ _ _) ?assign ?body ?done ?stop
 case assign =>
 rintro l' pre' q' ⟨lv',it',val'⟩ V K hi ⟨_,hit⟩ hK;obtain⟨A',c',hd,-⟩:=hit.open
 dsimp only at hd
 subst hd;obtain⟨V1,hV1,v0',v1',v2',v3',v4',hVs,hVB,hVg⟩:=Z8 V (.int .u8 (it'.1.1.toNat:Int)) (.int .u32 it'.1.2.1) (.int .u32 it'.1.2.2) (.int .i64 it'.2.1) (.slice A' it'.2.2.length c') 54;replace hVs:=Za hVs;clear hit hi hI0;simp only[Ybn,itV]
 gi_wp2_with fail
 exact hK _ _ (Z5 hVB) ⟨V.heap.size,_,rfl,rfl,hVg⟩
 case body =>
 rintro l' pre' q' ⟨lv',it',val'⟩ a' V hVs hI ⟨g,d,rfl,hd,hg⟩ ⟨hpf,hit⟩
 dsimp only at hd hit hg
 subst hd;obtain⟨v0',v1',v2',v3',v4',_⟩:=Zs hg;obtain⟨⟨hIb,hIs⟩,hIp,⟨hI1,hI2⟩,hIr⟩:=id hI;obtain⟨u0,u1,u2,_⟩:=Zk hI2;have hless:=Za (Zdz t it'.1 V);unfold kyV at hless;obtain⟨b1,hb1⟩:∃ b,Zo t it'.1=b:=⟨_,rfl⟩
 rw[hb1] at hless;replace hb1:=Za hb1;replace hI:=Za hI;replace hIb:=Za hIb;replace hIs:=Za hIs;replace hIp:=Za hIp;replace hI1:=Za hI1;replace hI2:=Za hI2;replace hIr:=Za hIr;replace hg:=Za hg;replace hpf:=Za hpf;replace hit:=Za hit;clear hI0
 gi_wp2_with fail
 refine⟨trivial,rfl,?_⟩
 gi_at_call 56
 refine(CallsIn.inRound l' (callsIn_wide.2 hless.out)).mono ?_;rintro e V1 ⟨rfl,hB1⟩;have hg1:=Zr _ _ _ _ _ hg.out hB1;have hI1':=Zr _ _ _ _ _ hI1.out hB1;have hI2':=Zr _ _ _ _ _ hI2.out hB1;have hIr1:=Za (Zb7 hIr.out (Z5 hB1) (by simp));have hIb1:=Za (hIb.out.trans (hB1.mono hIb.out.size));have hIs1:=Za (Qa hIs.out hB1.size);have hit1:=Za (hit.out.map fun p v hp hc=>Zl3 (B':=0) (Z5 hB1) (by simp) hp hc:Itm (Fre (w6.heap.size+2) q' V1) V1 (itV it' d) it');have hk1:Hid (Vs (fun k=>k=w4.heap.size) q' q' V V1):=Za (Vs.below hB1);clear v0' v1' v2' v3' v4' u0 u1 u2 hless hB1;cases b1 with
 | true =>
 have hfin:=Za (hstop6.out (pre'.map Zaw) (lv',it') (by have:=hpf.out;rw[Qe] at this;exact this) (fun p hp=>by
 obtain⟨y,hy,rfl⟩:=Qr.1 hp
 exact hIp.out y hy) hb1.out)
 replace hg1:=Za hg1;replace hI1':=Za hI1';replace hI2':=Za hI2'
 gi_wp2_with fail
 have:=hIr1.out;rw[hfin.out] at this;exact⟨q',hk1.out,rfl,⟨hIb1.out,hIs1.out⟩,this⟩
 | false =>
 have hIp1:Hid (∀ p∈pre'++[((lv',it',itV it' d):Wk)],Zo t p.2.1.1=false):=Za fun p hp=>by
 rcases Qn.1 hp with hp | hp
 ·exact hIp.out p hp
 ·rw[Qk] at hp
  subst hp;exact hb1.out
 have hm1:Hid ((pre'++[((lv',it',itV it' d):Wk)]).map Zaw=pre'.map Zaw++[(lv',it')]):=Za (by rw[Qe];rfl);by_cases hlv:lv'=0
 case neg =>
 have c0:(lv'==0)=false:=by simpa using hlv
 have hpk:Hid (Zal f ((pre'++[((lv',it',itV it' d):Wk)]).map Zaw)=Zal f (pre'.map Zaw)):=Za (by rw[hm1.out];exact Zx2 (.inl hlv))
 have hI9:Hid (RgI w w1.heap.size w2.heap.size w4.heap.size w5.heap.size w6.heap.size f t (pre'++[((lv',it',itV it' d):Wk)],q') V1):=Za ⟨⟨hIb1.out,hIs1.out⟩,hIp1.out,⟨hI1',hI2'⟩,by
  show Zpg _ _ (Zal f ((pre'++[((lv',it',itV it' d):Wk)]).map Zaw)) _ _;rw[hpk.out]
  exact hIr1.out⟩
 clear hlv hg1 hI1' hI2'
 gi_wp2_with fail
 refine⟨trivial,?_⟩
 gi_wp2_with fail
 exact⟨q',hk1.out,hI9.out⟩;subst hlv;obtain⟨v0',v1',v2',v3',v4',_⟩:=Zs hg1;obtain⟨u0,u1,u2,_⟩:=Zk hI1';have hless2:=Za (Zdz it'.1 f V1);unfold kyV at hless2;obtain⟨b2,hb2⟩:∃ b,Zo it'.1 f=b:=⟨_,rfl⟩
 rw[hb2] at hless2;replace hb2:=Za hb2;replace hg1:=Za hg1;replace hI1':=Za hI1';replace hI2':=Za hI2'
 gi_wp2_with fail
 refine⟨trivial,rfl,?_⟩
 gi_at_call 56
 refine(CallsIn.inRound l' (callsIn_wide.2 hless2.out)).mono ?_;rintro e V2 ⟨rfl,hB2⟩;have hg2:=Zr _ _ _ _ _ hg1.out hB2;have hI1'':=Za (Zr _ _ _ _ _ hI1'.out hB2);have hI2'':=Za (Zr _ _ _ _ _ hI2'.out hB2);have hIr2:=Za (Zb7 hIr1.out (Z5 hB2) (by simp));have hIb2:=Za (hIb1.out.trans (hB2.mono hIb1.out.size));have hIs2:=Za (Qa hIs1.out hB2.size);have hit2:=Za (hit1.out.map fun p v hp hc=>Zl3 (B':=0) (Z5 hB2) (by simp) hp hc:Itm (Fre (w6.heap.size+2) q' V2) V2 (itV it' d) it');have hk2:Hid (Vs (fun k=>k=w4.heap.size) q' q' V V2):=Za (hk1.out.trans (Vs.below hB2));clear v0' v1' v2' v3' v4' u0 u1 u2 hless2 hB2 hg1 hI1' hI2' hIr1 hIb1 hIs1 hit1 hk1;cases b2 with
 | true =>
 have hpk:Hid (Zal f ((pre'++[(((0:Int),it',itV it' d):Wk)]).map Zaw)=Zal f (pre'.map Zaw)):=Za (by rw[hm1.out];exact Zx2 (.inr hb2.out))
 have hI9:Hid (RgI w w1.heap.size w2.heap.size w4.heap.size w5.heap.size w6.heap.size f t (pre'++[(((0:Int),it',itV it' d):Wk)],q') V2):=Za ⟨⟨hIb2.out,hIs2.out⟩,hIp1.out,⟨hI1''.out,hI2''.out⟩,by
  show Zpg _ _ (Zal f ((pre'++[(((0:Int),it',itV it' d):Wk)]).map Zaw)) _ _;rw[hpk.out]
  exact hIr2.out⟩
 clear hg2
 gi_wp2_with fail
 exact⟨q',hk2.out,hI9.out⟩
 | false =>
 have hpk:Hid (Zal f ((pre'++[(((0:Int),it',itV it' d):Wk)]).map Zaw)=Zal f (pre'.map Zaw)++[it']):=Za (by rw[hm1.out];exact Z4j rfl hb2.out);have hln:=Za (hlen6.out (pre'.map Zaw) (by have:=hpf.out;rw[Qe] at this;exact(List.prefix_append _ _).trans this));obtain⟨PP,hPP⟩:∃ q,Zal f (pre'.map Zaw)=q:=⟨_,rfl⟩
 rw[hPP] at hpk hIr2 hln;obtain⟨n,hn⟩:∃ q,PP.length=q:=⟨_,rfl⟩
 have hlt2:=Za (Zt7 hIr2.out);obtain⟨A,c,hbx,hrow,hq⟩:=hIr2.out;rw[hn] at hbx hln;have hbc:=hbx.cell;obtain⟨v0',v1',v2',v3',v4',_⟩:=Zs hg2;obtain⟨V3,hV3,_,_,_,_,_,hVs3,hB3,hg3⟩:=Z8 V2 (.int .u8 (it'.1.1.toNat:Int)) (.int .u32 it'.1.2.1) (.int .u32 it'.1.2.2) (.int .i64 it'.2.1) d 54;have hrow3:=hrow.below Z0 hB3;have hit3:Itm (Xy w5.heap.size A V3) V3 (itV it' d) it':=hit2.out.map fun p v hp hc=>by
  have h1:=Zl3 (Z5 hB3) (B':=0) (by simp) hp hc;rw[hq] at h1;exact Z79 (by have:=l46.out;omega) h1.1 h1.2
 obtain⟨d',hd',hin,hby⟩:=hit3;obtain rfl:d=d':=by
  unfold itV at hd';simp at hd';exact hd'
 obtain⟨A9,c9,V9,hrun,hrow9,hgr9,hB9,hk9⟩:=Zri hrow3 V2.heap.size it' d 1 n hn hg3 (by have:=hln.out;omega) (by have:=l46.out;have:=hIs2.out;omega) hin hby
 have hbx3:Boxed V3 w4.heap.size 39 (.slice A n c):=(hB3.block _ hbx.lt).trans hbx;have hne9:∀ k,k<w5.heap.size->V9.heap[k]? = V3.heap[k]? := fun k hk=>hB9.block k hk
 have hbx9:Boxed V9 w4.heap.size 39 (.slice A n c):=(hne9 _ (by have:=l46.out;omega)).trans hbx3;have hbc9:=hbx9.cell;have hbf9:=hbx9.frozen;have hbx10:=hbx9.set (.slice A9 (n+1) c9);have hgs:=grownBy_setCell' V9 w4.heap.size (.slice A9 (n+1) c9);have hrow10:=hrow9.grown Z0 hgs (fun r e=>by cases e;have:=l46.out;omega)
 have hk10:Hid (Vs (fun k=>k=w4.heap.size) q' (A9.map (·.block)) V (V9.setCell ⟨w4.heap.size,0,none⟩ (.slice A9 (n+1) c9))):=Za (((hk2.out.trans (Vs.below hB3)).trans (Vs.row hgr9 (fun r e=>.inl (by rw[hq,e])) (fun r e=>by
  rcases hk9 with h9 | h9
  ·exact .inl (by rw[hq,<- h9,e])
  ·rw[e] at h9
  simp only[Option.some.injEq] at h9
  exact .inr (.inr (by omega))))).grown hgs (fun r e=>by cases e;exact .inr rfl))
 have hI9:Hid (RgI w w1.heap.size w2.heap.size w4.heap.size w5.heap.size w6.heap.size f t (pre'++[(((0:Int),it',itV it' d):Wk)],A9.map (·.block)) (V9.setCell ⟨w4.heap.size,0,none⟩ (.slice A9 (n+1) c9))):=Za (by
  have h29:∀ k,k<w4.heap.size->(V9.setCell ⟨w4.heap.size,0,none⟩ (.slice A9 (n+1) c9)).heap[k]? = V2.heap[k]? := fun k hk=>by
  rw[Below.heap_setCell V9 ⟨w4.heap.size,0,none⟩ _ k (by show k≠w4.heap.size;omega),hne9 k (by have:=l46.out;omega),hB3.block k (by have:=l46.out;have:=hIs2.out;omega)];refine⟨⟨?_,?_⟩,hIp1.out,⟨(h29 _ (by have:=l46.out;have:=sz.out;omega)).trans hI1''.out,(h29 _ (by have:=l46.out;omega)).trans hI2''.out⟩,?_⟩
  ·have h5:w.heap.size<=w5.heap.size:=by have:=l46.out;omega
  exact(((hIb2.out.trans (hB3.mono hIb2.out.size)).trans (hB9.mono h5)).grown hgs (by have:=hIs2.out;have:=l46.out;have:=hB3.size;have:=hB9.size;omega) (fun k e=>by cases e;have:=l46.out;omega))
  ·have:=hgs.size
  have:=hB9.size;have:=hB3.size;have:=hIs2.out;omega
  ·refine⟨A9,c9,?_,?_,rfl⟩
  ·show Boxed _ _ _ (.slice A9 (Zal f ((pre'++[(((0:Int),it',itV it' d):Wk)]).map Zaw)).length c9)
  rw[hpk.out,Qh,hn];exact hbx10
  ·show Yj _ _ _ _ _ _ _ (Zal f ((pre'++[(((0:Int),it',itV it' d):Wk)]).map Zaw))
  rw[hpk.out]
  exact hrow10)
 replace hn:=Za hn;replace hVs3:=Za hVs3;have H9:=Za hrun;clear hq hbx hrow hrow3 hbx3 hne9 hbx9 hbx10 hgs hrow10 hgr9 hB9 hk9 hin hby hd' hit2 hg2 hB3 hrun hrow9 hg3
 gi_wp2_with (gi_at_builtin;refine Z1r rfl _ _ _ rfl rfl rfl H9.out ?_;clear H9)
 exact⟨_,hk10.out,hI9.out⟩
 case done =>
 rintro xs q' V hVs hE ⟨⟨hb,_⟩,hp,_,hr⟩ hDV hqV
 have hfin:=hall6.out (xs.map Zaw) hE (fun p hp'=>by
 obtain⟨y,hy,rfl⟩:=Qr.1 hp'
 exact hp y hy)
 rw[hfin] at hr;obtain⟨A,c,hbx,hrow,hq⟩:=id hr;obtain⟨n,hn⟩:∃ q,RR.length=q:=⟨_,rfl⟩
 rw[hn] at hbx;have hbc:=hbx.cell;rw[<- hRR.out] at hr;have hD1:=Za hDV;replace hr:=Za hr;replace hb:=Za hb;replace hbx:=Za hbx;replace hs6:=hs6;clear hp hq hrow hn hDV hqV hVs hfin hI0
 gi_wp2_with fail
 refine⟨by simp,.inl ⟨_,_,rfl,run_takeDeferred hD1.out,_,results_tmp2 rfl _ _ _,?_⟩⟩;have hgp:=grownBy_putObj' V w6.heap.size (.deferred none);have hnp:∀ r,some w6.heap.size=some r->∃ o:Obj,V.heap[r]? = some o/\o.isCells=false:=fun r e=>by cases e;exact⟨_,hD1.out,rfl⟩
 exact Zn0 hE0.out (by have:=l46.out;omega:w.heap.size<=w5.heap.size) (hb.out.grown hgp hb.out.size (fun k e=>by cases e;have:=l46.out;omega)) (Zb7 hr.out hgp hnp) (Zl hbx.out hgp hnp)
 case stop =>
 rintro c pre' q' V hVs ⟨rfl,⟨hb,_⟩,hr⟩ hDV hqV;obtain⟨A,c,hbx,hrow,hq⟩:=id hr;obtain⟨n,hn⟩:∃ q,RR.length=q:=⟨_,rfl⟩
 rw[hn] at hbx;have hbc:=hbx.cell;rw[<- hRR.out] at hr;have hD1:=Za hDV;replace hr:=Za hr;replace hb:=Za hb;replace hbx:=Za hbx;clear hq hrow hn hDV hqV hVs hI0
 gi_wp2_with fail
 refine⟨by simp,.inl ⟨_,_,rfl,run_takeDeferred hD1.out,_,results_tmp2 rfl _ _ _,?_⟩⟩;have hgp:=grownBy_putObj' V w6.heap.size (.deferred none);have hnp:∀ r,some w6.heap.size=some r->∃ o:Obj,V.heap[r]? = some o/\o.isCells=false:=fun r e=>by cases e;exact⟨_,hD1.out,rfl⟩
 exact Zn0 hE0.out (by have:=l46.out;omega:w.heap.size<=w5.heap.size) (hb.out.grown hgp hb.out.size (fun k e=>by cases e;have:=l46.out;omega)) (Zb7 hr.out hgp hnp) (Zl hbx.out hgp hnp)
end Go.Proofs.YtgmbjnajdfgenaaGreat
namespace Go.Proofs.YtgmbjnajdfgenaaGreat
open Go.RowKit Go.Shelf
attribute [local go_sem] Oper.semAt_some
end Go.Proofs.YtgmbjnajdfgenaaGreat
namespace Go.Proofs.YtgmbjnajdfgenaaGreat
open Go.RowKit Go.Shelf
attribute [local go_sem] Oper.semAt_some
def Zfz (w:Qah) (q:Sv):Prop:=∃ w0:Qah,w0.heap.size=q.hi/\Yj rIt 5 54 q.lo w0 q.A q.c q.nd.2/\∀ k,q.lo<=k->k<q.hi->w.heap[k]? = w0.heap[k]?
structure Rows (lo hi:Nat) (w:Qah) (l:List Sv):Prop where
 ok:∀ q∈l,lo<=q.lo/\q.lo<=q.hi/\q.hi<=hi/\Zfz w q
 apart:l.Pairwise fun p q=>p.hi<=q.lo
theorem Zwy:(Tryz.prog.info? 144).map (fun i=>(i.zero,i.size,i.bytes))=some (some (.agg #[.int .i64 0,.slice none 0 0,.int .i64 0,.bool false]),4,48):=by kernel_rfl
theorem Z8u (a b:List Sv):svs (a++b)=svs a++svs b:=by simp[svs]
end Go.Proofs.YtgmbjnajdfgenaaGreat
namespace Go.Proofs.YtgmbjnajdfgenaaGreat
open Go.Shelf Go.RowKit Go.Lib Go.Sort
def Zoj:Go.Shelf.Ren:=⟨fun | 7=>118 | 10=>154 | n=>n,fun | 23=>139 | 26=>3 | 3=>137 | 28=>188 | 0=>0 | 27=>187 | 33=>180 | 4=>4 | n=>n,fun | n=>n⟩
theorem Yao:Go.Proofs.SlLaysZI.n7 Tryz.prog Zoj:={
 mixed:=by kernel_rfl,
 f7:=⟨Tryz.f118.name,by decide,Tryz.func118.trans (congrArg some (by kernel_rfl))⟩,
 f10:=⟨Tryz.f154.name,by decide,Tryz.func154.trans (congrArg some (by kernel_rfl))⟩,
 t0:=Tryz.underlying0,
 a0:=Tryz.isAgg0,
 z0:=Tryz.sizeOf0,
 v0:=Tryz.zeroValue0,
 t4:=Tryz.underlying4,
 a4:=Tryz.isAgg4,
 z4:=Tryz.sizeOf4,
 v4:=Tryz.zeroValue4,
 t23:=Tryz.underlying139,
 a23:=Tryz.isAgg139,
 z23:=Tryz.sizeOf139,
 v23:=Tryz.zeroValue139,
 t26:=Tryz.underlying3,
 a26:=Tryz.isAgg3,
 z26:=Tryz.sizeOf3,
 v26:=Tryz.zeroValue3,
 t27:=Tryz.underlying187,
 a27:=Tryz.isAgg187,
 z27:=Tryz.sizeOf187,
 v27:=Tryz.zeroValue187,
 t28:=Tryz.underlying188,
 a28:=Tryz.isAgg188,
 z28:=Tryz.sizeOf188,
 v28:=Tryz.zeroValue188,
 t33:=Tryz.underlying180,
 a33:=Tryz.isAgg180,
 z33:=Tryz.sizeOf180,
 v33:=Tryz.zeroValue180 }
end Go.Proofs.YtgmbjnajdfgenaaGreat
namespace Go.Proofs.YtgmbjnajdfgenaaGreat
open Go.RowKit Go.Maps Go.Sort Go.Shelf
end Go.Proofs.YtgmbjnajdfgenaaGreat
set_option maxRecDepth 100000
set_option maxHeartbeats 16000000
set_option maxRecDepth 100000
set_option maxHeartbeats 16000000
open Array renaming getElem?_eq_some_iff → Qc, replicate_succ → Ps, replicate_zero → Pt, ext_getElem? → Pw
open Bool renaming and_eq_true → Qg, eq_iff_iff → P4
open Go renaming World → Qaf, Value → Qag, Addr → Qah, Pl → Qai, P0 → Qaj, undef → Qak, Calls → Qal
open Go.Act renaming put → Qa
open Go.RowKit renaming Below → Qam
open Go.RowKit.Below renaming refl → Qb
open Go.World renaming cell?_of_block → Qp, cell? → Qz, grownBy_alloc → Q8, size_alloc → Q9, frozen? → Qab
open List renaming mem_cons_self → Qd, mem_append → Qf, getElem?_eq_getElem → Qh, length_cons → Qi, mem_of_mem_take → Qk, mem_append_right → Ql, length_append → Qm, mem_cons_of_mem → Qn, mem_singleton → Qo, getElem?_eq_some_iff → Qr, mem_of_mem_drop → Qs, flatMap_cons → Qt, flatMap_append → Qu, length_nil → Qv, mem_of_getElem? → Qw, mem_append_left → Qx, cons_append → Qy, drop_zero → Q0, drop_eq_getElem_cons → Q3, exists_cons_of_ne_nil → Q4, length_take → Q5, nil_append → Q7, map_append → Pb, getElem_mem → Pc, getElem?_take_of_lt → Pd, take_succ_cons → Pe, take_zero → Pf, drop_succ_cons → Pg, drop_of_length_le → Ph, length_drop → Pi, all_eq_true → Pj, take_add_one → Pk, mem_filter → Pm, flatMap_nil → Pn, append_nil → Po, size_toArray → Pp, push_toArray → Pu, append_toArray → Pv, pairwise_iff_getElem → Px, length_reverse → Py, getElem?_drop → Pz, reverse_singleton → P1, reverse_cons → P3, mem_cons → P5, mem_flatMap → P7, filter_eq_self → P8, take_of_length_le → P9, nodup_cons → Qaa, Pairwise → Qac, pairwise_cons → Qad, pairwise_append → Qae
open Nat renaming le_refl → Qe, lt_of_lt_of_le → Qj, le_trans → Qq, lt_or_ge → Q6, le_of_lt → Pa, reduceAdd → Pq, reduceSub → Pr
noncomputable section
namespace Go.Proofs.YtgmbjnajdfgenaaGreat
open Go.RowKit Go.Shelf Go.Maps
attribute [local go_sem] Oper.semAt_some
def Zwj (X:Act->Qaf->Prop):Exit->Act->Qaf->Prop
 | .normal,a,w=>X a w
 | _,_,_=>False
end Go.Proofs.YtgmbjnajdfgenaaGreat
namespace Go.Proofs.YtgmbjnajdfgenaaGreat
open Go.RowKit Go.Shelf
attribute [local go_sem] Oper.semAt_some
def Zh3 (x:Int):Ky:=(2,0,x)
def kx (n:Nat):It:=(Zh3 n,0,[])
def Ls:Nat->List It
 | 0=>[]
 | n+1=>Ls n++[kx (n+1)]
def gS:Nat->Rm×Int
 | 0=>(mkV Zkl Ug,8)
 | n+1=>((Zl0 (gS n).1 (gS n).2 (kx (n+1))).2.1,(Zl0 (gS n).1 (gS n).2 (kx (n+1))).2.2)
def gA (n:Nat):Nat:=if n % 2=0 then 8 else 9
attribute [irreducible] gS
def Zxb:Ky:=(255,4294967295,4294967295)
theorem Zuk (qa qb qc qd:Option Qah×Nat×Nat) (s:Rm) (a:Int) (w:Qaf) (h:Sto (Old w) w (.agg #[.slice qa.1 qa.2.1 qa.2.2,.slice qb.1 qb.2.1 qb.2.2,.slice qc.1 qc.2.1 qc.2.2,.slice qd.1 qd.2.1 qd.2.2]) s) :
 Qal Tryz.prog 13 #[.agg #[.slice qa.1 qa.2.1 qa.2.2,.slice qb.1 qb.2.1 qb.2.2,.slice qc.1 qc.2.1 qc.2.2,.slice qd.1 qd.2.1 qd.2.2],.int .i64 a] w fun e w'=>∃ u c,e=.returned (.slice u (raV s a Zbm Zxb).length c)/\U5 (New w.heap.size w') w' [.slice u (raV s a Zbm Zxb).length c] (raV s a Zbm Zxb)/\Qam w.heap.size w w':=by
 obtain⟨w1,hw1,b1,hs1,hB1⟩:=X5 w (.slice qa.1 qa.2.1 qa.2.2) (.slice qb.1 qb.2.1 qb.2.2) (.slice qc.1 qc.2.1 qc.2.2) (.slice qd.1 qd.2.1 qd.2.2) 29;have HR:Hid (Qal Tryz.prog 29 #[.agg #[.slice qa.1 qa.2.1 qa.2.2,.slice qb.1 qb.2.1 qb.2.2,.slice qc.1 qc.2.1 qc.2.2,.slice qd.1 qd.2.1 qd.2.2],.int .i64 a,.agg #[.int .u8 0,.int .u32 0,.int .u32 0],.agg #[.int .u8 255,.int .u32 4294967295,.int .u32 4294967295]] w1 (Zsq s a Zbm Zxb w1)):=Za (Zmo _ s a Zbm Zxb w1 (h.below hB1));obtain⟨k0,k1,k2,k3,_⟩:=Ze b1;have B1:=Za hB1;replace hs1:=Za hs1;clear h hB1 b1;obtain⟨M,hM⟩:∃ q,raV s a Zbm Zxb=q:=⟨_,rfl⟩
 unfold Zsq at HR;rw[hM] at HR ⊢
 go_enter Tryz.func13,Tryz.ntmps13
 go_upto_region 1 with fail
 clear hw1
 go_wp2_with fail
 with_reducible refine(HR.out).mono ?_;rintro e w2 ⟨u,c,rfl,hr,hb2⟩;have R2:=Za (Yz.new (lo':=w.heap.size) hr B1.out.size (Qb _ _));have B2:=Za (B1.out.trans (hb2.mono B1.out.size));obtain⟨n,hn⟩:∃ q,M.length=q:=⟨_,rfl⟩
 rw[hn] at R2 ⊢;clear hr hb2 HR k0 k1 k2 k3;replace hn:=Za hn
 go_wp2_with fail
 exact Qai (v:=.slice u n c) (by simp[results,Tryz.results13,go_sem]) rfl ⟨u,c,by rw[hn.out],by rw[hn.out];exact R2.out,B2.out⟩
def fdE (s:Rm) (a:Int) (k:Ky):Int:=if ckE s a=0 then (if (Zga s a k).isSome=true then 0 else 6) else ckE s a
def fdV (s:Rm) (a:Int) (k:Ky):It:=if ckE s a=0 then (Zga s a k).getD Zer else Zer
def Ybg (lo:Nat):Qah->Prop:=fun p=>p.block<lo
theorem Z7q {w:Qaf} {A:Option Qah} {n c k:Nat} {xs:List It} {x:It} (h:U5 (Old w) w [.slice A n c] xs) (hk:xs[k]? = some x) :
 ∃ ad E ce,A=some ad/\InI x/\∀ W,Qam w.heap.size w W->At5 W (ad.add (k*5)) x (.slice E x.2.2.length ce)/\rBy (Ybg w.heap.size) W [.slice E x.2.2.length ce] x.2.2:=by
 obtain⟨ad,E,ce,rfl,_,h5,hi,_,_,hin⟩:=U7 h hk;obtain⟨_,e,_,hb⟩:=hi;unfold itV at e;simp only[Value.agg.injEq,Array.mk.injEq,List.cons.injEq,and_true,true_and] at e;subst e;exact⟨ad,E,ce,rfl,hin,fun W hW=>⟨h5.below hW,Zf _ _ _ _ _ _ (fun p v hp hc=>⟨hp,(hW.cell hp).trans hc⟩) hb⟩⟩
def Zkt (lo n:Nat) (L:List It) (v:Qag) (W:Qaf):Prop:=∃ (u:Option Qah) (c:Nat),v=.slice u n c/\U5 (New lo W) W [.slice u n c] L
theorem Zto (qa qb qc qd:Option Qah×Nat×Nat) {s:Rm} {a:Int} {L:List It} {n:Nat} (hL:raV s a Zbm Zxb=L) (hn:L.length=n) (lo:Nat) (w:Qaf) (hlo:lo<=w.heap.size) (h:Sto (Old w) w (.agg #[.slice qa.1 qa.2.1 qa.2.2,.slice qb.1 qb.2.1 qb.2.2,.slice qc.1 qc.2.1 qc.2.2,.slice qd.1 qd.2.1 qd.2.2]) s) :
 Qal Tryz.prog 13 #[.agg #[.slice qa.1 qa.2.1 qa.2.2,.slice qb.1 qb.2.1 qb.2.2,.slice qc.1 qc.2.1 qc.2.2,.slice qd.1 qd.2.1 qd.2.2],.int .i64 a] w fun e w'=>∃ v,e=.returned v/\Zkt lo n L v w'/\Qam w.heap.size w w':=by
 refine(Zuk qa qb qc qd s a w h).mono ?_;rintro e w' ⟨u,c,rfl,h1,hb⟩;rw[hL,hn] at h1 ⊢;exact⟨_,rfl,⟨u,c,rfl,Yz.new (lo':=lo) h1 hlo (Qb _ _)⟩,hb⟩
theorem Zf2 {s:Rm} {l:Nat} {a:Int} {k tb:Ky} {e:Bool} (h:Zx s l a k tb e=true):Zh8 s l (rmV s a).2 tb e (X7 s l a)/\(rmV s a).2≠[]/\Znt (rmV s a).2=k:=by{
obtain⟨h1,h2,h3,h4⟩:=Z9 h;obtain⟨x,r,e1,e2,e3⟩:=Za5 h3;refine⟨?_,by rw[e1];simp,by rw[e1];exact e2⟩;cases l with
| zero =>
refine⟨Uj (Ya h1).1,h4,fun he y hy => ?_,rfl⟩;obtain⟨z,hz,hb⟩:=e3 he;exact Zro (Uj (Ya h1).1) hz hb y hy
| succ l=>exact⟨h4,rfl⟩}
def Zdl (k:Ky) (M:List It):List It:=M.filter fun y=>decide (y.1≠k)
def Ye (s:Rm) (M:List It) (p:Nat) (L:List It):Nat×Nat×List It :=
 match M[p+1]? with
 | some c=>if (rmV s c.2.1).2.length+L.length<=5 then (p,2,L++(rmV s c.2.1).2) else (p,1,L)
 | none=>if p=0 then (p,1,L) else match M[p-1]? with
 | some b=>if (rmV s b.2.1).2.length+L.length<=5 then (p-1,2,(rmV s b.2.1).2++L) else (p,1,L)
 | none=>(p,1,L)
def Z7 (k:Ky):Nat->Rm->Int->Int×Rm×List It×Int
 | 0,s,a=>(0,s,Zdl k (rmV s a).2,0)
 | l+1,s,a =>
 match Z7 k l s (Zbk (rmV s a) k) with
 | (e,t,L,held) =>
 if e=0 then
 if L=[] then (0,t,Zav (rmV s a).2 (Xd (rmV s a) k) 1 [],0)
 else match Ye s (rmV s a).2 (Xd (rmV s a) k) L with
  | (first,many,L')=>match Zq t (l:Int) L' with
  | (f,u,up)=>if f=0 then (0,(if held=0 then u else Vm u held),Zav (rmV s a).2 first many (up.take 1),Zb3 up) else (f,Zi,[],0)
 else (e,Zi,[],0)
def Zle (M:List It):Int:=match M with | []=>0 | q::_=>q.2.1
def upR (s:Rm) (b:Int):Rm:=(s.1,s.2.1.set b.toNat (s.2.1[b.toNat]?.getD 0+1),s.2.2)
def Yk:Nat->Rm->Int->Int×Rm×Int
 | 0,s,a=>(0,s,a)
 | l+1,s,a =>
 if (rmV s a).2.length=1 then
 if s.2.1[(Zle (rmV s a).2).toNat]?.getD 0=255 then (70,Zi,0)
 else match lfO (upR s (Zle (rmV s a).2)).1 (upR s (Zle (rmV s a).2)).2.1 a.toNat with
 | none=>(8,Zi,0)
 | some v=>Yk l ((upR s (Zle (rmV s a).2)).1,v,(upR s (Zle (rmV s a).2)).2.2) (Zle (rmV s a).2)
 else (0,s,a)
def Zge (s:Rm) (a:Int) (k:Ky):Int×Rm×Int :=
 match Z7 k (rmV s a).1.toNat s a with
 | (e,t,L,held) =>
 if e=0 then
 match Zq t (if L=[] then 0 else (rmV s a).1) L with
 | (f,u,up) =>
 if f=0 then
  match Yk (if L=[] then 0 else (rmV s a).1.toNat) (if held=0 then u else Vm u held) (Zb3 up) with
  | (g,w,now) =>
  if g=0 then
  match lfO w.1 w.2.1 a.toNat with
  | none=>(8,Zi,0)
  | some v=>(0,(w.1,v,w.2.2),now)
  else (g,Zi,0)
 else (f,Zi,0)
 else (e,Zi,0)
end Go.Proofs.YtgmbjnajdfgenaaGreat
set_option maxRecDepth 100000
set_option maxHeartbeats 16000000
set_option maxRecDepth 100000
set_option maxHeartbeats 16000000
open Array renaming getElem?_eq_some_iff → Qd, replicate_succ → Ps, replicate_zero → Pt, getElem?_replicate → Qab
open Bool renaming and_eq_true → Q3
open Go renaming World → Qac, Value → Qad, Addr → Qae, TypeId → Qaf, Pl → Qag, P0 → Qah, undef → Qai, Calls → Qaj, Ending → Qak
open Go.Act renaming put → Qa
open Go.Builtin renaming append_ → Q6, clear_ → P3
open Go.RowKit renaming Below → Qal
open Go.RowKit.Below renaming refl → Qb
open Go.World renaming cell?_of_block → Qg, block_lt_of_cell? → Pc, ownsRow_nil → Pp, cell? → P5, setCell → Qaa
open List renaming mem_append → Qf, getElem?_eq_getElem → Qh, mem_of_getElem? → Qi, length_append → Qj, mem_singleton → Qk, getElem?_eq_some_iff → Qm, mem_of_mem_take → Qn, length_take → Qo, mem_of_mem_drop → Qp, take_zero → Qq, take_succ_cons → Qr, drop_succ_cons → Qs, drop_zero → Qt, take_add_one → Qu, getElem?_set_ne → Qv, not_mem_nil → Qw, length_drop → Qx, map_append → Qy, mem_cons → Qz, getElem?_of_mem → Q0, length_pos_iff → Q4, getElem?_take_of_lt → Q5, length_cons → Q7, length_nil → Q8, take_take → Pa, length_map → Pb, size_toArray → Pd, getElem?_set_self → Pg, length_set → Ph, take_of_length_le → Pi, getElem?_drop → Pj, mem_cons_self → Pk, getElem?_append_left → Pn, getElem?_append_right → Po, push_toArray → Pu, append_toArray → Pv, nil_append → Pw, cons_append → Px, mem_append_left → Py, mem_append_right → Pz, exists_mem_of_ne_nil → P1, drop_of_length_le → P4, map_take → P8, map_drop → P9
open Nat renaming le_refl → Qc, le_trans → Qe, lt_of_lt_of_le → Ql, sub_self → Q9, zero_add → Pe, min_eq_left → Pf, eq_zero_or_pos → Pm, reduceAdd → Pq, reduceSub → Pr, lt_succ_self → P7
noncomputable section
namespace Go.Proofs.YtgmbjnajdfgenaaGreat
open Go.RowKit
def Zc6 (s:Rm) (a:Int) (k:Ky):Int×Rm×Int :=
 if ckE s a≠0 then (ckE s a,Zi,0) else if (Zga s a k).isSome=true then Zge s a k else (6,Zi,0)
theorem Z3e {s:Rm} {a:Int} {k:Ky} (h:ckE s a=0) (hf:Zga s a k=none):(Zc6 s a k).1=6:=by
 unfold Zc6;rw[if_neg (fun e=>e h),hf];rfl
end Go.Proofs.YtgmbjnajdfgenaaGreat
namespace Go.Proofs.YtgmbjnajdfgenaaGreat
open Go.RowKit Go.Shelf
attribute [local go_sem] Oper.semAt_some
def Zfa (s0 s:Rm) (x:Int):Prop:=(if s0.2.1[x.toNat]?.getD 0≠0 then 2 else 1)<=Yy s.2.1 x.toNat
def Zkf (s0 s:Rm):Nat->Int->Prop
 | 0,a=>rmE s a=0/\(rmV s a).1=0
 | l+1,a=>rmE s a=0/\(rmV s a).1=((l+1:Nat):Int)/\∀ x∈(rmV s a).2,Zkf s0 s l x.2.1/\(s0.2.1[a.toNat]?.getD 0=0->Zfa s0 s x.2.1)
theorem Zct {s0 t u:Rm} (hk:Xw t u) (hm:∀ x,Zfa s0 t x->Zfa s0 u x):∀ {l:Nat} {a:Int},Zkf s0 t l a->Zkf s0 u l a
 | 0,a,h=>by
 obtain⟨_,e1,e2⟩:=Vw hk (Ya h.1).2;exact⟨e1.trans h.1,by rw[e2];exact h.2⟩
 | l+1,a,h=>by
 obtain⟨_,e1,e2⟩:=Vw hk (Ya h.1).2;exact⟨e1.trans h.1,by rw[e2];exact h.2.1,fun x hx=>by rw[e2] at hx;exact⟨Zct hk hm (h.2.2 x hx).1,fun h0=>hm _ ((h.2.2 x hx).2 h0)⟩⟩
def Zr8 (s:Rm) (n:Nd) (held:Int):Int×Rm×Int :=
 if mkE s n=0 then (if held=0 then (0,mkV s n,mkN s n) else if asE (mkV s n) held=0 then (0,loV (mkV s n) held,mkN s n) else (asE (mkV s n) held,Zi,0)) else (mkE s n,Zi,0)
def Kn (K:Nat->Prop) (W:Qac):Qae->Prop:=fun p=>K p.block/\p.block<W.heap.size
end Go.Proofs.YtgmbjnajdfgenaaGreat
namespace Go.Proofs.YtgmbjnajdfgenaaGreat
open Go.RowKit Go.Shelf
end Go.Proofs.YtgmbjnajdfgenaaGreat
namespace Go.Proofs.YtgmbjnajdfgenaaGreat
open Go.RowKit Go.Shelf
attribute [local go_sem] Oper.semAt_some
def Ycf (K:Nat->Prop) (S:Rm) (v:Qad) (W:Qac):Prop:=∃ va vb vc vd:Option Qae×Nat×Nat,v=.agg #[.slice va.1 va.2.1 va.2.2,.slice vb.1 vb.2.1 vb.2.2,.slice vc.1 vc.2.1 vc.2.2,.slice vd.1 vd.2.1 vd.2.2]/\Sto (Kn K W) W (.agg #[.slice va.1 va.2.1 va.2.2,.slice vb.1 vb.2.1 vb.2.2,.slice vc.1 vc.2.1 vc.2.2,.slice vd.1 vd.2.1 vd.2.2]) S
end Go.Proofs.YtgmbjnajdfgenaaGreat
set_option maxRecDepth 100000
set_option maxHeartbeats 16000000
namespace Go.Proofs.YtgmbjnajdfgenaaGreat
open Go.RowKit
end Go.Proofs.YtgmbjnajdfgenaaGreat
