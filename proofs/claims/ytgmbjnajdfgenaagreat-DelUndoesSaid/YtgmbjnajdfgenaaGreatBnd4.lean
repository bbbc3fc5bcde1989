/-
  Lemmas on the program and on the document's answers, gathered: DrRefs2, DrLower, DrGo, DrGo2, DrMk, DrLaw, PuLay, WkTold, PuBack, WkWalk, WkOrd, WkPush, FnHeld, FnChain, FnEnds, FnStands, WkIter, WkRange, PuParts, PuGrow, PuWay, WkSets, WkLay, WkRise. Conditions: those that each lemma states.
-/
import Derived.Test.YtgmbjnajdfgenaaGreatBnd3
import Derived.Test.YtgmbjnajdfgenaaGreatProg
import Derived.RangeFuncNested
import Derived.Shelf.SlIterI.Keys
import Derived.Shelf.SlIterI.Stops
import Derived.Shelf.SlIterI.Sorted
import Derived.Shelf.SortM.Plain
import Derived.Shelf.SortM.SortNone
import Derived.Maps.OwnSet
set_option maxRecDepth 100000
set_option maxHeartbeats 16000000
open Array renaming getElem?_eq_some_iff → Qd, replicate_succ → Qx, replicate_zero → Qy
open Bool renaming and_eq_true → Pt
open Go renaming World → Qak, Value → Qal, Addr → Qam, TypeId → Qan, bodyPost_ret → Qao, heap_alloc_new → Qap, undef → Qaq, Calls → Qar, Ending → Qas
open Go.Act renaming put → Qs
open Go.Builtin renaming append_ → Q9
open Go.IntWalk renaming i64_in → Pw
open Go.RowKit renaming Below → Qat
open Go.RowKit.Below renaming refl → Qc, heap_alloc → Q7, heap_setCell → Py
open Go.World renaming cell?_of_block → Qe, size_alloc → Pa, putObj_heap_other → Pb, putObj_size → Pp, frozen?_of_block → Pq, ownsRow_nil → Pz, block_lt_of_cell? → P7, putObj_heap_same → P8, alloc_heap_new → P9, news_of_block → Qae
open List renaming map_append → Qg, getElem?_eq_getElem → Qh, length_append → Qi, filter_append → Qj, mem_singleton → Qk, getElem?_eq_some_iff → Ql, mem_cons → Qm, length_cons → Qn, mem_append → Qo, mem_flatMap → Qp, append_assoc → Qq, mem_map → Qr, size_toArray → Qt, length_nil → Qu, push_toArray → Qz, append_toArray → Q0, nil_append → Q3, cons_append → Q4, getElem?_append_right → Q5, filter_cons_of_neg → Q6, length_map → Q8, flatMap_cons → Pc, drop_eq_getElem_cons → Pe, length_take → Pf, pairwise_cons → Pg, mem_filter → Ph, getElem?_append_left → Pi, mem_of_getElem? → Pj, length_reverse → Pk, length_drop → Pn, drop_of_length_le → Po, nodup_cons → Pr, Pairwise → Ps, pairwise_append → Pu, filter_cons_of_pos → Pv, eq_nil_of_length_eq_zero → P3, getElem_map → P4, reverse_append → P5, flatMap_append → Qaa, filter_congr → Qab, append_nil → Qac, countP_eq_length_filter → Qad, take_of_length_le → Qaf, IsPrefix → Qag, prefix_append_right_inj → Qah, length_filter_le → Qai
open Nat renaming le_trans → Qa, le_refl → Qb, lt_of_lt_of_le → Qf, reduceAdd → Qv, reduceSub → Qw, zero_add → Pd, lt_or_ge → Pm, le_of_lt → Px, min_eq_left → P1, pow_le_pow_right → Qaj
noncomputable section
namespace Go.Proofs.YtgmbjnajdfgenaaGreat
open Go.RowKit Go.Shelf Go.Maps
attribute [local go_sem] Oper.semAt_some
theorem Zyq {w:Qak}{a b:Qal}{t:Qan}:∀ j u,([a,b]:List Qal)[j]? = some u->(w.alloc (.cells #[a,b] t)).cell? ((⟨w.heap.size,0,none⟩:Qam).add j)=some u:=by
 intro j u hj;rw[Zah,Pd,cell_of_row _ _ _ #[a,b] t _ (Qap w _)]
 simpa using hj
theorem Zel {W w1:Qak}{g B base size k:Nat}{cs:Array Qal}{t e:Qan}{tmp:Obj}{v v':Qal}{xs:List Qal}(h:W.heap[g]? = some (.cells cs t (0,0))) (hte:t≠e) (hr:W.ownsRow base e size v k xs) (hg:(W.alloc tmp).grownBy w1 v.ownBlock) (hB:g≠B) :
  (w1.setCell ⟨B,0,none⟩ v').heap[g]? = some (.cells cs t (0,0)):=by{
 have hlt:g<W.heap.size:=(Qd.1 h).1;have hne:some g≠v.ownBlock:=by
  rcases hr.2 with ⟨rfl,_⟩ | ⟨q,cap,cur,rfl,_,hq,_⟩
  ·simp[Value.ownBlock]
  ·intro e'
   obtain rfl:g=q:=by simpa [Value.ownBlock] using e'
   rw[h] at hq;simp at hq;exact hte hq.2
 rw[Py w1 ⟨B,0,none⟩ v' g hB,hg.block g (by simp;omega) hne,Q7 W tmp g hlt,h]}
theorem Z9p (F:Fence) (n:Nat) (h3:F.fn 132) (h5:F.fn 160) (h7:F.fn 180) (hro:F.round=none) (hn:3<=n)
  (v:Qal) (nd:Nd) (h0:0<=nd.1) (h6:nd.1<6) (hl5:nd.2.length<=5) (w:Qak) (h:Nod (Old w) w v nd) :
  CallsIn F n Tryz.prog 132 #[v] w fun e W'=>∃ u,e=.returned u/\W'.ownsRow w.heap.size 115 2 u (Zw7 nd).length (rfV (Zw7 nd).reverse)/\Qat w.heap.size w W':=by{
 have h1:1<=n:=by omega
 obtain⟨i0,hi,hz0,hz1,hz2⟩:=info_parts Zun;obtain⟨A,c,rfl,_,l1,m1,hI⟩:=h.open;obtain⟨m,hm⟩:∃ m,nd.2.length=m:=⟨_,rfl⟩
 obtain⟨lv,hlv⟩:∃ lv,nd.1=lv:=⟨_,rfl⟩
 rw[hm] at l1 hI hl5 ⊢;obtain⟨ad,f,E,ca,hA,hf,hc⟩:=Yab hI hm;have hcol:Hid (Zm5 (lv-1) f (Ua m m)=(Zw7 nd).reverse):=Za (by rw[<- hm,Z2m hf,Zw7,hlv]);rw[hlv] at h0 h6 ⊢;replace hlv:=Za hlv;replace hm:=Za hm;replace hc:=Za hc;replace hA:=Za hA;replace hf:=Za hf;clear hI h;refine callsIn_of_wp_marks Tryz.func132 rfl h3 ?_ hro;simp only[Tryz.ntmps132,Qt,Qn,Qu,Qv,Qw,Qx,Qy,Qz,Q0,Q3,Q4]
 gi_wp2_with (gi_at_call 160;refine(Zn0 F (n-1) h5 hro _ _ _ _).mono ?_;rintro e w' ⟨rfl,rfl⟩)
 obtain⟨W0,hW0,hB0,hs0,b0,bx,b3⟩:∃ W0,((w.alloc (.cells #[.int .i64 lv,.slice A m c] 81)).alloc (.cells #[.slice none 0 0] 203)).alloc (.cells #[.slice A m c] 39)=W0/\Qat w.heap.size w W0/\W0.heap.size=w.heap.size+3 /\
   W0.heap[w.heap.size]? = some (.cells #[.int .i64 lv,.slice A m c] 81 (0,0))/\Boxed W0 (w.heap.size+1) 203 (.slice none 0 0)/\Boxed W0 (w.heap.size+1+1) 39 (.slice A m c) :=
  ⟨_,rfl,(((Qc _ w).alloc (Qb _) _).alloc (by simp) _).alloc (by simp;omega) _,by simp,(Q7 _ _ _ (by simp;omega)).trans ((Q7 _ _ _ (by simp)).trans (Qap w _)),((by have:=Boxed.new (w.alloc (.cells #[.int .i64 lv,.slice A m c] 81)) 203 (.slice none 0 0);simpa using this:Boxed ((w.alloc (.cells #[.int .i64 lv,.slice A m c] 81)).alloc (.cells #[.slice none 0 0] 203)) (w.heap.size+1) 203 (.slice none 0 0))).alloc _,by have:=Boxed.new ((w.alloc (.cells #[.int .i64 lv,.slice A m c] 81)).alloc (.cells #[.slice none 0 0] 203)) 39 (.slice A m c);simpa using this⟩
 rw[hW0];clear hW0;have hlo:w.heap.size<=W0.heap.size:=hB0.size;have hA0:0<m->A=some ad/\ad.block<w.heap.size:=hA.out;refine wpIn_rangeFunc_ownH hro h1 (gf:=180) (lb:=#[.pointer (some ⟨w.heap.size+1+1,0,none⟩)]) rfl h7 (enters_of Tryz.func180 (by kernel_rfl) rfl)
  (Zjv F (n-1) h7 hro (by omega) (w.heap.size+1+1) w.heap.size c m A ad f E ca (by omega) W0 (by omega) hlo b3.cell hA0 (fun j hj=>(hc.out j hj).below hB0))
  (fun h h'=>Zfg.trans h h') (fun W l o o' hl h1 h2 h3=>Zq6 (w:=W0) (by omega) hlo l o o' hl h1 h2 h3) (Qc _ _) (fun _=>rfl)
  (fun pre W=>((∃ v,Boxed W (w.heap.size+1) 203 v/\W.ownsRow w.heap.size 115 2 v (Zm5 (lv-1) f pre).length (rfV (Zm5 (lv-1) f pre))/\True)/\(W.heap[w.heap.size]? = some (.cells #[.int .i64 lv,.slice A m c] 81 (0,0))/\Boxed W (w.heap.size+1+1) 39 (.slice A m c)))/\Qat w.heap.size w W)
  (fun _ _ _=>False)
  (OwnFrom.and (OwnFrom.and (Own.from (holdsRow_own w.heap.size (w.heap.size+1) 203 115 2 (fun pre:List Nat=>(Zm5 (lv-1) f pre).length) (fun pre=>rfV (Zm5 (lv-1) f pre)) (fun _ _=>True)) _) (Own.from (fun s A B row hs hg hr=>⟨Zl hs.1 hg hr,Zl hs.2 hg hr⟩) _)) (ownFrom_below (Qb _) hlo))
  (fun _ _ _ _ _ hs _ _=>hs)
  ⟨⟨⟨_,bx,Pz _ _ _ _,trivial⟩,b0,b3⟩,hB0⟩
  (fun x a' W=>∃ g,a'={ tmps:=#[.agg #[.int .i64 lv,.slice A m c],.pointer (some ⟨w.heap.size,0,none⟩),.slice none 0 0,.pointer (some ⟨w.heap.size+1,0,none⟩),Qaq,.pointer (some ⟨g,0,none⟩),.pointer (some ⟨w.heap.size,1,none⟩),.slice A m c,
   .func (.func 180) #[] #[.pointer (some ⟨w.heap.size+1+1,0,none⟩)],.int .i64 (x:Int),.agg #[.int .u8 ((f x).1.1.toNat:Int),.int .u32 (f x).1.2.1,.int .u32 (f x).1.2.2,.int .i64 (f x).2.1,.slice (E x) (f x).2.2.length (ca x)],Qaq,Qaq,Qaq,Qaq,Qaq,Qaq,Qaq,Qaq,Qaq,Qaq,Qaq,Qaq,Qaq],defers:=[] } /\
   W.cell? ⟨g,3,none⟩=some (.int .i64 (f x).2.1))
  (fun x a'=>Own.from (fun s A B row hs hg hr=>by
   obtain⟨g,e,h1⟩:=hs
   exact⟨g,e,cell_kept h1 hg hr⟩) _) ?assign ?body ?done ?stop
 case assign =>
  rintro l pre x W K ⟨⟨⟨v,hv,hrow,_⟩,c0,c3⟩,hb⟩ hK;have c3':=c3.cell
  gi_wp2
  exact hK _ _ ((KeepsOthers.alloc _ _).from _) ⟨(Qc _ W).alloc hb.size _,(Lib.cell?_alloc_some _ c3').trans c3'.symm⟩
   ⟨⟨⟨v,hv.alloc _,hrow.alloc _,trivial⟩,(Q7 W _ _ (Qd.1 c0).1).trans c0,c3.alloc _⟩,hb.alloc hb.size _⟩ ⟨W.heap.size,rfl,by go_simp⟩
 case body =>
  rintro l pre x a' W hl hloop ⟨⟨⟨v,hv,hrow,_⟩,c0,c3⟩,hb⟩ ⟨g,rfl,g3⟩ hlen;obtain⟨q,hq⟩:∃ q,(f x).2.1=q:=⟨_,rfl⟩
  rw[hq] at g3;have d0:W.cell? ⟨w.heap.size,0,none⟩=some (.int .i64 lv):=by rw[cell_of_row _ _ _ _ _ _ c0];rfl
  by_cases he:q=0
  ·have he':(q != 0)=false:=by simp[he]
   have hcz:Hid (Zm5 (lv-1) f (pre++[x])=Zm5 (lv-1) f pre):=Za (Zx1 (by rw[hq,he]));replace hq:=Za hq;replace he:=Za he
   gi_wp2
   refine⟨KeepsFrom.refl _ _,⟨Qc _ _,rfl⟩,⟨⟨v,hv,?_,trivial⟩,c0,c3⟩,hb⟩;rw[hcz.out];exact hrow
  ·have he':(q != 0)=true:=by simpa using he
   have hcm:Hid (Zm5 (lv-1) f (pre++[x])=Zm5 (lv-1) f pre++[(q,lv-1)]):=Za (by rw[Zy8 (by rw[hq];exact he),hq]);have hle:w.heap.size<=w.heap.size+1:=by omega
   have hcell:=hv.cell
   have hkl:Hid ((Zm5 (lv-1) f pre).length<=1000000):=Za (by
    have:=Zs7 (lv-1) (pre.map f);rw[Q8] at this
    exact Qa this (by omega))
   obtain⟨k,hk⟩:∃ k,(Zm5 (lv-1) f pre).length=k:=⟨_,rfl⟩
   rw[hk] at hrow hkl;replace hk:=Za hk;have hwr:IntKind.i64.wrap (lv-1)=lv-1:=by rw[IntKind.wrap_i64];omega
   replace hq:=Za hq;replace he:=Za he
   gi_wp2_with (gi_at_builtin;refine wpListIn_append_own _ rfl _ _ 203 rfl w.heap.size 115 i0 (.agg #[.int .i64 0,.int .i64 0]) 2 16 Tryz.underlying203 hi hz0 hz1 hz2 rfl (by decide) _ _ _ rfl (hrow.alloc _) ⟨W.heap.size,0,none⟩ 1 1 [.int .i64 q,.int .i64 (lv-1)] rfl rfl Zyq (by simp[Value.oneCell']) (by unfold maxLen;have:=hkl.out;omega) (by have:=hkl.out;omega) (by have:=hb.size;simp;omega) ?_;intro v' w1 hown' hgrow _;obtain⟨g',cap',rfl⟩:=ownsRow_succ hown';obtain⟨hv1,hv2,hr2,hk2,hb2⟩:=hv.appended (by decide) hrow hb.size hle hown' hgrow;have hc1:=hv1.cell;have hf1:=hv1.frozen)
   have e0:=Zel (v':=.slice (some ⟨g',0,none⟩) (k+1) cap') c0 (by decide) hrow hgrow (B:=w.heap.size+1) (by omega);have e3:Boxed _ (w.heap.size+1+1) 39 (.slice A m c):=Zel (v':=.slice (some ⟨g',0,none⟩) (k+1) cap') c3 (by decide) hrow hgrow (B:=w.heap.size+1) (by omega);refine⟨hk2.from _,⟨hb2,e3.cell.trans c3.cell.symm⟩,⟨⟨_,hv2,?_,trivial⟩,e0,e3⟩,hb.trans hb2⟩;rw[hcm.out,Qi,hk.out,Zsm];exact hr2
 case done =>
  rintro D zs W hD rfl ⟨⟨⟨v,hv,hrow,_⟩,c0,c3⟩,hb⟩ hK;have hcell:=hv.cell;rw[hcol.out,Pk] at hrow
  gi_wp2
  refine⟨by simp,.inl ⟨_,_,rfl,run_takeDeferred hK,?_⟩⟩;have hrow':=ownsRow_putObj hrow (.deferred none) hK rfl;refine⟨_,results_tmp rfl _ _ _,v,rfl,hrow',hb.trans (belowK_b hlo _ D _ _ hD hK rfl rfl)⟩
 case stop =>
  rintro D c pre W _ _ h _;exact h.elim}
theorem Z21 (v:Qal) (nd:Nd) (h0:0<=nd.1) (h6:nd.1<6) (hl5:nd.2.length<=5) (w:Qak) (h:Nod (Old w) w v nd) :
  Qar Tryz.prog 132 #[v] w fun e W'=>∃ u,e=.returned u/\W'.ownsRow w.heap.size 115 2 u (Zw7 nd).length (rfV (Zw7 nd).reverse)/\Qat w.heap.size w W' :=
 callsIn_wide.1 (Z9p Fence.wide 3 trivial trivial trivial rfl (Qb _) v nd h0 h6 hl5 w h)
theorem Z0a {w w':Qak}{B base g n c:Nat}{e:Qan}{size:Nat}{xs:List Qal}(h:w.ownsRow base e size (.slice (some ⟨g,0,none⟩) n c) n xs) (hb:Qat B w w') (hg:g<B):w'.ownsRow base e size (.slice (some ⟨g,0,none⟩) n c) n xs:=by
 refine⟨h.1,h.2.imp id ?_⟩;rintro⟨q,cap,cur,e1,h1,h2,h3⟩;have hq:g=q:=by
  simp only[Value.slice.injEq,Option.some.injEq,Addr.mk.injEq,and_true,true_and] at e1;exact e1.1
 exact⟨q,cap,cur,e1,h1,(hb.block q (by omega)).trans h2,h3⟩
theorem Z8w {w:Qak}{base g n c:Nat}{e:Qan}{size:Nat}{xs ys:List Qal}(h:w.ownsRow base e size (.slice (some ⟨g,0,none⟩) (n+1) c) (n+1) (xs++ys)) (hx:xs.length=n*size):w.ownsRow base e size (.slice (some ⟨g,0,none⟩) n c) n xs:=by{
 refine⟨hx,.inr ?_⟩;rcases h.2 with ⟨e1,_⟩ | ⟨q,cap,cur,e1,h1,h2,h3,h4,h5,h6⟩
 ·simp at e1
 ·simp only[Value.slice.injEq,Option.some.injEq,Addr.mk.injEq,and_true,true_and] at e1
  obtain⟨rfl,rfl⟩:=e1;refine⟨g,c,cur,rfl,h1,h2,by omega,h4,h5,?_⟩;have:(cur.toList.take ((n+1)*size)).take (n*size)=(xs++ys).take (n*size):=by rw[h6]
  rw[List.take_take,P1 (Nat.mul_le_mul_right _ (by omega))] at this;rw[this,<- hx];exact List.take_left}
theorem Ybe {w:Qak}{base base' n m:Nat}{ty:Qan}{v u:Qal}{a b:List Rf}(hown:w.ownsRow base 115 2 v n (rfV a)) (hu:w.ownsRow base' 115 2 u m (rfV b)) (h:n+m<=1000000) (hbase:base<=w.heap.size) :
  ∃ v' w',(Q9 #[203,203] ty #[v,u]).run Tryz.prog w=.ok v' w'/\w'.ownsRow base 115 2 v' (n+m) (rfV (a++b))/\w.grownBy w' v.ownBlock/\Qat base w w':=by{
 obtain⟨i0,hi,hz0,hz1,hz2⟩:=info_parts Zun;obtain⟨A,c,rfl,_,_,ho,_⟩:=Ym hu;have hcs:=fun g=>hu.cells (g:=g)
 rw[Zsm];refine Zzb base _ ty 115 i0 (.agg #[.int .i64 0,.int .i64 0]) 2 16 Tryz.underlying203 hi hz0 hz1 hz2 rfl (by decide) v n (rfV a) hown A m c (rfV b) hu.1 (fun j x hj=> ?_) (Z9i b) (by unfold maxLen;omega) (by omega) hbase;rcases hu.2 with ⟨e,rfl⟩ | ⟨g,cap,cur,e,_⟩
 ·have:=hu.1
  rw[Nat.zero_mul] at this;rw[P3 this] at hj;simp at hj
 ·cases e
  exact⟨_,rfl,hcs _ rfl j x hj⟩}
theorem Z84 (l:List Rf):l=[]\/∃ a x,l=a++[x]:=by
 rcases List.eq_nil_or_concat l with h | ⟨a,x,h⟩
 ·exact .inl h
 ·exact .inr ⟨a,x,by rw[h,List.concat_eq_append]⟩
def msr (w:Qak) (g:Nat):Nat:=((List.range 256).map fun j=>match w.cell? ⟨g,j,none⟩ with
 | some (.int _ n)=>n.toNat
 | _=>0).sum
theorem Zmx {w:Qak}{base g c:Nat}{T:List UInt8}(h:w.ownsRow base 5 1 (.slice (some ⟨g,0,none⟩) 256 c) 256 (u8s T)):msr w g=Zrm T:=by{
 have hl:T.length=256:=Zgo h;unfold msr Zrm
 congr 1
 refine List.ext_getElem (by simp[hl]) fun i h1 h2=> ?_
 have hi:i<256:=by simpa using h1
 rw[P4,P4,List.getElem_range];rw[Zfx h hi];show ((T[i]?.getD 0).toNat:Int).toNat=_;rw[Qh (by omega)];rfl}
def LwP (s:Rm) (x:Rf) (t0:List UInt8) (g c lo:Nat) (w w':Qak) (e:Qas):Prop:=∃ q:Int,e=.returned (.int .i64 q)/\w.grownBy w' (some g) /\
 ((wkF s.1 x.2 t0 x.1.toNat=none/\q=8)\/(∃ t,wkF s.1 x.2 t0 x.1.toNat=some t/\q=0/\w'.ownsRow lo 5 1 (.slice (some ⟨g,0,none⟩) 256 c) 256 (u8s t)))
theorem Yar (w:Qak) (a b c d e f:Qal):∃ w1,(w.alloc (.cells #[a,b,c,d] 29)).alloc (.cells #[e,f] 115)=w1 /\
  w1.heap[w.heap.size]? = some (.cells #[a,b,c,d] 29 (0,0))/\w1.heap[w.heap.size+1]? = some (.cells #[e,f] 115 (0,0))/\w1.heap.size=w.heap.size+2/\Qat w.heap.size w w1:=by
 refine⟨_,rfl,Y8 (Qap _ _),?_,by simp,((Qc _ w).alloc (Qb _) _).alloc (by simp) _⟩;have:=Qap (w.alloc (.cells #[a,b,c,d] 29)) (.cells #[e,f] 115)
 rwa [Pa] at this
def LwR (s:Rm) (t0:List UInt8) (R:Option (List UInt8)) (g c lo:Nat) (w1:Qak) (v:Qal) (wr:Qak):Prop:=∃ (st:List Rf) (T:List UInt8) (A:Option Qam) (sc:Nat),v=.slice A st.length sc /\
 wr.ownsRow w1.heap.size 115 2 (.slice A st.length sc) st.length (rfV st)/\wr.ownsRow lo 5 1 (.slice (some ⟨g,0,none⟩) 256 c) 256 (u8s T)/\w1.grownBy wr (some g) /\
 runT s.1 T st.reverse=R/\LeT T t0/\(∀ x∈st,Rfd x)/\st.length+5*Zrm T<=400000
theorem Zxj (g c lo:Nat) (t0:List UInt8) (v:Qal) (s:Rm) (hm:Xj s=true) (a0 lv0:Int) (hx0:Rfd (a0,lv0)) (hle0:LeT t0 s.2.1) (w:Qak) (hown:w.ownsRow lo 5 1 (.slice (some ⟨g,0,none⟩) 256 c) 256 (u8s t0)) (h:Sto (Off g w) w v s) :
  Qar Tryz.prog 92 #[.slice (some ⟨g,0,none⟩) 256 c,v,.agg #[.int .i64 a0,.int .i64 lv0]] w fun e w'=>LwP s (a0,lv0) t0 g c lo w w' e:=by{
 obtain⟨A,ca,B,cb,N,cn,L,cl,rfl,_⟩:=id h.open;have hl0:t0.length=256:=Zgo hown;have hg0:g<w.heap.size:=((hown.lt g rfl).2)
 obtain⟨w1,hw1,f1,f2,hsz,hB⟩:=Yar w (.slice A s.1.1.length ca) (.slice B s.1.2.length cb) (.slice N s.2.1.length cn) (.slice L s.2.2.length cl) (.int .i64 a0) (.int .i64 lv0);have H:=Za (show Sto (Off g w1) w1 _ s from h.map fun _ _ hp hc=>Zn8 hB hp hc);have HO:=Za (Zx hown hB);have GB:=Za (Zrf (row:=some g) hB);obtain⟨k0,k1,k2,k3,_,kg⟩:=Ze f1;obtain⟨j0,j1,_,jg⟩:=Zg f2;have f1h:=Za f1;obtain⟨R,hR⟩:∃ R,wkF s.1 lv0 t0 a0.toNat=R:=⟨_,rfl⟩
 have hgs:Hid (g<w.heap.size):=Za hg0;have hsz':=Za hsz;replace hl0:=Za hl0;replace hle0:=Za hle0
 have hL1:Hid (LwR s t0 R g c lo w1 (.slice (some ⟨w1.heap.size,0,none⟩) 1 1) (w1.alloc (.cells #[.int .i64 a0,.int .i64 lv0] 115))):=Za (by
  refine⟨[(a0,lv0)],t0,some ⟨w1.heap.size,0,none⟩,1,rfl,?_,Zx HO.out ((Qc _ _).alloc (Qb _) _),Zrf ((Qc _ _).alloc (Qb _) _),?_,LeT.refl _,?_,?_⟩
  ·exact World.ownsRow_lit w1 #[.int .i64 a0,.int .i64 lv0] 1 (Qb _) (by unfold maxLen;omega) rfl
  ·show (wkF s.1 lv0 t0 a0.toNat).bind _=R
   rw[hR];cases R <;> rfl
  ·intro x hx
   rw[Qk] at hx;rw[hx];exact hx0
  ·have:=Zz4 t0
   rw[hl0.out] at this;show 1+5*Zrm t0<=400000
   omega)
 replace hR:=Za hR;clear hown h f1 f2 hB hg0 hsz hx0
 go_enter Tryz.func92,Tryz.ntmps92
 go_upto_region 1 with fail
 clear hw1
 go_upto_region 2 with fail
 obtain⟨W2,hW2⟩:∃ W2,w1.alloc (.cells #[.int .i64 a0,.int .i64 lv0] 115)=W2:=⟨_,rfl⟩
 rw[hW2] at hL1 ⊢;clear hW2 k0 k1 k2 k3 j0 j1 jg
 go_loopw [7] (fun vs wr=>LwR s t0 R g c lo w1 vs wr) (fun _ wr=>msr wr g)
 case atStart=>exact hL1.out
 case round =>
  obtain⟨st,T,E,sc,rfl,hst,hown,hgr,hrun,hle,hrf,hbd⟩:=hrel;have GF:=Za (Yx GB.out hgr);rcases Z84 st with rfl | ⟨st',x,rfl⟩
  ·have hfin:Hid (R=some T):=Za hrun.symm
   have HO2:=Za hown;clear hst hown hgr hrun hle hrf hbd
   go_wp2_with fail
   go_ret;exact⟨0,rfl,GF.out,.inr ⟨T,hR.out.trans hfin.out,rfl,HO2.out⟩⟩
  obtain⟨a,lv⟩:=x;have hxd:=hrf (a,lv) (by simp);obtain⟨k,rfl⟩:∃ k:Nat,a=k:=⟨a.toNat,by have:=hxd.1;dsimp only at this;omega⟩
  obtain⟨h8,h256,hm1,h6⟩:=hxd
  dsimp only at h8 h256 hm1 h6
  have hrf':Hid (∀ x∈st',Rfd x):=Za fun x hx=>hrf x (by simp[hx])
  rw[P5] at hrun;replace hrun:(wkF s.1 lv T ((k:Int)).toNat).bind (fun u=>runT s.1 u st'.reverse)=R:=hrun;rw[show ((k:Int)).toNat=k by omega] at hrun;rw[Zsm,Qi] at hst;rw[Qi] at hbd;obtain⟨n,hn⟩:∃ n,st'.length=n:=⟨_,rfl⟩
  have e1:(st'++[((k:Int),lv)]).length=n+1:=by rw[Qi,hn];rfl
  rw[e1];replace hst:wr.ownsRow w1.heap.size 115 2 (.slice E (n+1) sc) (n+1) (rfV st'++[.int .i64 (k:Int),.int .i64 lv]):=by
   rw[hn] at hst;exact hst
  rw[hn] at hbd;replace hbd:n+1+5*Zrm T<=400000:=hbd;obtain⟨gs,cap,e2⟩:=ownsRow_succ hst;cases e2;have hrl:(rfV st').length=n*2:=by rw[Z9n,hn]
  have hc0:wr.cell? ⟨gs,n*2,none⟩=some (.int .i64 (k:Int)):=by
   rw[hst.cellAt (n*2) (by omega),Q5 (by omega),hrl,Nat.sub_self];rfl
  have hc1:wr.cell? ⟨gs,n*2+1,none⟩=some (.int .i64 lv):=by
   rw[hst.cellAt (n*2+1) (by omega),Q5 (by omega),hrl,show n*2+1-n*2=1 by omega];rfl
  have hpop:=Z8w hst hrl
  have hsc0:Hid (n+1<=sc):=Za (by
   obtain⟨_,_,e,hs,_⟩:=Ym hst;cases e
   exact hs)
  clear hst e1 hrf;obtain⟨w5,hw5,b5,hs5,hB5⟩:=Yd wr (.int .i64 (k:Int)) (.int .i64 lv) 115;have hown5:=Zx hown hB5;have hpop5:=Zx hpop hB5;have hgr5:=Ux hgr (hB5.mono hgr.size);have hms:Hid (msr wr g=Zrm T):=Za (Zmx hown);obtain⟨q0,q1,_,qg⟩:=Zg b5;have hrs:Hid (w1.heap.size<=wr.heap.size):=Za hgr.size;clear hown hpop hgr hB5;have n1:IntKind.i64.wrap ((n:Int)+1-1)=n:=by rw[IntKind.wrap_i64];omega
  go_upto_region 4 with fail
  clear hw5 hc0 hc1;replace hs5:=Za hs5;have hsc:n+1<=sc:=by
   have:=hsc0.out;exact this
  have hs0:(0:Int)<=(n:Int):=by omega
  have hs2:¬ sc=0:=by omega
  have hs3:¬ 0=sc:=by omega
  have hs4:0<sc:=by omega
  have hs5':n<=sc:=by omega
  clear hsc;have hs1:(n:Int)<=(sc:Int):=by omega
  clear hrl
  go_upto_region 5 with fail
  clear hs0 hs1 hs2 hs3 hs4 hs5' n1
  have hle0':Hid (T[k]?.getD 0≠0->asE s (k:Int)=0):=Za fun hz=>Zcb hm (by omega) (by omega) (fun e=>hz (V0.1 (by
   have h1:=(hle.trans hle0.out).le k;rw[e] at h1
   exact Nat.le_zero.1 h1)))
  have hways:=Za (fun hz=>Z7r (d:=s.1) (lv:=lv) (t:=T) (a:=k) hm1 h6 hz);have hnone:=Za (fun hz=>Z7f (d:=s.1) (lv:=lv) (t:=T) (a:=k) hz);have hdn:=Za (fun hz=>Zys (t:=T) (a:=k) hz);have hTl:Hid (T.length=256):=Za (Zgo hown5);have hcell:=Zfx hown5 (j:=k) (by omega);have hfr:w5.frozen? ⟨g,k,none⟩=false:=hown5.frozenAt k;have k256:k<256:=by omega
  obtain⟨y,hy⟩:∃ y,T[k]?.getD 0=y:=⟨_,rfl⟩
  rw[hy] at hcell hle0' hways hnone hdn;replace hy:=Za hy;have hgr5':=Za hgr5;replace hrun:=Za hrun;replace hle:=Za hle;replace hbd:=Za hbd;replace hn:=Za hn;clear hgr5;by_cases hy0:y=0
  ·have t1:=Vi (y:=0) (q:=0) rfl hy0
   have hN:Hid (R=none):=Za (by rw[<- hrun.out,hnone.out hy0];rfl);have GF5:=Za (Yx GB.out hgr5'.out);clear hown5 hpop5 b5 hy0
   go_wp2_with fail
   go_ret;exact⟨8,rfl,GF5.out,.inl ⟨hR.out.trans hN.out,rfl⟩⟩
  have t1:=Xr (y:=0) (q:=0) rfl hy0;obtain⟨hu1,hu2,hu3⟩:=Zyr hy0;have hset:=Zsd hown5 k (y-1);rw[<- hu1] at hset;have hg6:=Ys (Xb w5 (some g)) (p:=⟨g,k,none⟩) rfl (.int .u8 ((y.toNat:Int)-1))
  have hpop6:=hpop5.kept hg6 (.inr (fun e=>by
   have:=(hpop5.lt gs rfl).1;have h0:=hgs.out;have h1:=hsz'.out;have e':gs=g:=by simpa [Value.ownBlock] using e
   omega))
  have hgr6:=Ys hgr5'.out (p:=⟨g,k,none⟩) rfl (.int .u8 ((y.toNat:Int)-1))
  have b6:=(hg6.block wr.heap.size qg (fun e=>by
   have:=hgr5'.out.size;have h0:=hgs.out;have h1:=hsz'.out;have h2:=hgr5'.out.size;have h4:wr.heap.size=g:=by simpa using e
   have h5:=hrs.out
   omega)).trans b5
  obtain⟨w6,hw6⟩:∃ w6,w5.setCell ⟨g,k,none⟩ (.int .u8 ((y.toNat:Int)-1))=w6:=⟨_,rfl⟩
  rw[hw6] at hset hg6 hpop6 hgr6 b6;clear hown5 hpop5 b5;replace hset:=Za hset;replace hpop6:=Za hpop6;replace hgr6:=Za hgr6;replace b6:=Za b6;replace hu1:=Za hu1;clear hg6
  go_upto_region 8 with fail
  clear hw6 hcell hfr q0 q1;have c6:=Zfx hset.out (j:=k) k256;rw[Zb1 (by rw[hTl.out];exact k256)] at c6;obtain⟨q0,q1,_,_⟩:=Zg b6.out
  have hF1:=(hgr6.out.block w.heap.size kg (by
   have h0:=hgs.out;simp
   omega)).trans f1h.out
  obtain⟨k0,k1,k2,k3,_,_⟩:=Ze hF1;clear hF1;have hS6:Hid (Sto (Old w6) w6 (.agg #[.slice A s.1.1.length ca,.slice B s.1.2.length cb,.slice N s.2.1.length cn,.slice L s.2.2.length cl]) s):=Za ((H.out.map fun _ _ hp hc=>Zi6 hgr6.out hp hc).map fun _ _ hp hc=>Zmo hp hc)
  have hms6:Hid (msr w6 g<msr wr g):=Za (by
   rw[Zmx hset.out,hms.out];have:=hdn.out hy0
   omega)
  have hle6:Hid (LeT (T.set k (y-1)) t0):=Za ((Zd8 (by rw[dnO,hy.out,if_neg hy0])).2.2.1.trans hle.out);have hal6:Hid (Zrm (T.set k (y-1))+1=Zrm T):=Za (hdn.out hy0);have hT6:Hid (∀ t,wkF s.1 lv T k=t->t.bind (fun u=>runT s.1 u st'.reverse)=R):=Za fun t ht=>by rw[<- ht];exact hrun.out
  obtain⟨T',hT'⟩:∃ T',T.set k (y-1)=T':=⟨_,rfl⟩
  obtain⟨z,hz⟩:∃ z,y-1=z:=⟨_,rfl⟩
  have hw2:=hways.out hy0;rw[hT',hz] at hw2;rw[hz] at c6;rw[hT'] at hset hle6 hal6;clear hT' hways hnone hdn;rcases hw2 with ⟨hc,hF⟩ | ⟨hz0,hl,hnr,hF⟩ | ⟨hz0,hl,hr,hF⟩
  ·have hrel6:Hid (LwR s t0 R g c lo w1 (.slice (some ⟨gs,0,none⟩) n sc) w6):=Za ⟨st',T',some ⟨gs,0,none⟩,sc,by rw[hn.out],by rw[hn.out];exact hpop6.out,hset.out,hgr6.out,hT6.out _ hF,hle6.out,hrf'.out,by have:=hal6.out;have:=hbd.out;have:=hn.out;omega⟩
   replace hz:=Za hz;replace hF:=Za hF;clear hy0 t1;by_cases hz0:z=0
   ·have hlv:=hc.resolve_left (fun h=>h hz0)
    subst hz0;subst hlv;replace c6:w6.cell? ⟨g,k,none⟩=some (.int .u8 0):=c6;clear hc
    go_wp2_with fail
    go_roundw
    case rel=>exact hrel6.out
    case measure=>exact hms6.out
   ·have hz1:0<z.toNat:=by
     have:z.toNat≠0:=fun e=>hz0 (V0.1 e);omega
    clear hc hz0
    go_wp2_with fail
    go_roundw
    case rel=>exact hrel6.out
    case measure=>exact hms6.out
  ·have hN:Hid (R=none):=Za (hT6.out _ hF).symm
   have has:=Za (hle0'.out hy0);have c7:(lv == -1)=false:=by simpa using hl
   subst hz0;replace c6:w6.cell? ⟨g,k,none⟩=some (.int .u8 0):=c6;replace hz:=Za hz;replace hF:=Za hF;replace hnr:=Za hnr;clear hy0 t1 hl
   go_wp2_with fail
   with_reducible refine(Zn7 _ s k lv has.out _ hS6.out).mono ?_
   rintro e w7 ⟨u,q,nd,rfl,hq,hu,hb7⟩;rcases hq with ⟨hr,_⟩ | ⟨_,rfl,_⟩
   ·exact absurd hr hnr.out
   obtain⟨P,pc,rfl,_⟩:=id hu.open;obtain⟨pl,hpl⟩:∃ pl,nd.2.length=pl:=⟨_,rfl⟩
   obtain⟨pv,hpv⟩:∃ pv,nd.1=pv:=⟨_,rfl⟩
   rw[hpl,hpv];obtain⟨w8,hw8,b8,hs8,hB8⟩:=Yd w7 (.int .i64 pv) (.slice P pl pc) 81;have G8:=Za (Yx GB.out (Ux hgr6.out ((hb7.trans (hB8.mono hb7.size)).mono hgr6.out.size)));replace hs8:=Za hs8;clear hu hpl hpv hb7 hB8 b8 q0 q1 c6 k0 k1 k2 k3
   go_upto_region 10 with fail
   clear hw8
   go_wp2_with fail
   go_ret;exact⟨8,rfl,G8.out,.inl ⟨hR.out.trans hN.out,rfl⟩⟩
  ·have has:=Za (hle0'.out hy0)
   have c7:(lv == -1)=false:=by simpa using hl
   subst hz0;replace c6:w6.cell? ⟨g,k,none⟩=some (.int .u8 0):=c6;replace hz:=Za hz;replace hF:=Za hF;replace hr:=Za hr;clear hy0 t1 hl
   go_wp2_with fail
   with_reducible refine(Zn7 _ s k lv has.out _ hS6.out).mono ?_
   rintro e w7 ⟨u,q,nd,rfl,hq,hu,hb7⟩;rcases hq with ⟨_,rfl,hnd⟩ | ⟨hnr,_⟩
   case inr=>exact absurd hr.out hnr
   obtain⟨P,pc,rfl,_⟩:=id hu.open;obtain⟨pl,hpl⟩:∃ pl,nd.2.length=pl:=⟨_,rfl⟩
   obtain⟨pv,hpv⟩:∃ pv,nd.1=pv:=⟨_,rfl⟩
   rw[hpl,hpv] at hu ⊢;obtain⟨w8,hw8,b8,hs8,hB8⟩:=Yd w7 (.int .i64 pv) (.slice P pl pc) 81;have G8:=Za (Ux hgr6.out ((hb7.trans (hB8.mono hb7.size)).mono hgr6.out.size));have N8:=Za (hu.drop.below hB8);have own8:=Za (Zx (Zx hset.out hb7) hB8);have pop8:=Za (Zx (Zx hpop6.out hb7) hB8);have hmn:=(Zfc hr.out.1).1;rw[<- hnd] at hF hmn;obtain⟨⟨s1,s2,s3,_⟩,_⟩:=Zv hmn;have hrfs:=Za (Vy hmn);replace hs8:=Za hs8;obtain⟨q0,q1,_,_⟩:=Zg b8;have b8h:=Za b8;clear hu hb7 hB8 b8 c6 k0 k1 k2 k3
   go_upto_region 10 with fail
   clear hw8
   go_wp2_with fail
   with_reducible refine(Z21 (.agg #[.int .i64 pv,.slice P pl pc]) nd s1 s2 s3 _ N8.out).mono ?_
   rintro e w9 ⟨u9,rfl,hu9,hb9⟩;obtain⟨m,hm9⟩:∃ m,(Zw7 nd).length=m:=⟨_,rfl⟩
   have hm5:m<=5:=by
    rw[<- hm9];exact Qa (Zs7 _ _) s3
   rw[hm9] at hu9;have own9:=Zx own8.out hb9;have pop9:=Zx pop8.out hb9;have G9:=Ux G8.out (hb9.mono G8.out.size);obtain⟨v',w10,hr10,ho10,_,hb10⟩:=Ybe (ty:=203) pop9 hu9 (by have:=hbd.out;omega) G9.size;obtain⟨A10,c10,rfl,_⟩:=Ym ho10;have H10:=Za hr10;have hl10:(st'++(Zw7 nd).reverse).length=n+m:=by rw[Qi,Pk,hn.out,hm9]
   have own10:=Z0a own9 hb10 (by have h0:=hgs.out;have h1:=hsz'.out;omega)
   have hrel10:Hid (LwR s t0 R g c lo w1 (.slice A10 (n+m) c10) w10):=Za ⟨st'++(Zw7 nd).reverse,T',A10,c10,by rw[hl10],by rw[hl10];exact ho10,own10,Ux G9 hb10,(by
    rw[P5,List.reverse_reverse,Zsq]
    exact hT6.out _ hF.out),hle6.out,fun x hx=>(Qo.1 hx).elim (hrf'.out x) (fun h=>Zsa (by omega) (by omega) hrfs.out x (List.mem_reverse.1 h)),(by rw[hl10];have:=hal6.out;have:=hbd.out;omega)⟩
   have hms10:Hid (msr w10 g<msr wr g):=Za (by
    have:=hms6.out
    rwa [Zmx hset.out,<- Zmx own10] at this)
   clear hr10 ho10 hb10 own9 pop9 G9 hu9 hb9 own10 hl10 hm9 hm5
   go_wp2_with (at_builtin;refine Zp rfl _ _ _ rfl rfl rfl H10.out ?_;clear H10)
   go_roundw
   case rel=>exact hrel10.out
   case measure=>exact hms10.out}
def gdE (s:Rm) (lv a:Int):Int:=if asE s a=0 then (match wkF s.1 lv s.2.1 a.toNat with | some _=>0 | none=>8) else asE s a
def gdV (s:Rm) (lv a:Int):Rm:=if asE s a=0 then (match wkF s.1 lv s.2.1 a.toNat with | some t=>(s.1,t,s.2.2) | none=>Zi) else Zi
theorem Ycc {s:Rm}{lv a:Int}(h:asE s a≠0):gdE s lv a=asE s a/\gdV s lv a=Zi:=⟨by rw[gdE,if_neg h],by rw[gdV,if_neg h]⟩
theorem Ybd {s:Rm}{lv a:Int}(h:asE s a=0) (h':wkF s.1 lv s.2.1 a.toNat=none):gdE s lv a=8/\gdV s lv a=Zi:=⟨by rw[gdE,if_pos h,h'],by rw[gdV,if_pos h,h']⟩
theorem Yce {s:Rm}{lv a:Int}{t:List UInt8}(h:asE s a=0) (h':wkF s.1 lv s.2.1 a.toNat=some t):gdE s lv a=0/\gdV s lv a=(s.1,t,s.2.2):=⟨by rw[gdE,if_pos h,h'],by rw[gdV,if_pos h,h']⟩
theorem Yaq (d:Dk) (t:List UInt8) (a:Nat):wkF d 6 t a=lfO d t a:=by rw[wkF,if_pos rfl]
theorem Z97 (d:Dk) (t:List UInt8) (a:Nat):wkF d (-1) t a=dnO t a:=by
 rw[wkF,if_neg (by decide)];rfl
theorem Z52 {s:Rm}{n:Int}(h:asE s n=0):∃ k:Nat,n=k/\Xj s=true/\8<=k/\k<256/\s.2.1[k]?.getD 0≠0:=by
 obtain⟨k,e,hm,h8,h256,_,_,_,_,hx⟩:=Y3 h;exact⟨k,e,hm,h8,h256,hx⟩
theorem Zh8 (s:Rm) (a:Int):gdE s 6 a=lvE s a/\gdV s 6 a=lvV s a:=by
 unfold gdE gdV lvE lvV;rw[Yaq];exact⟨rfl,rfl⟩
theorem Zh4 (s:Rm) (a:Int):gdE s (-1) a=asE s a/\gdV s (-1) a=loV s a:=by{
 unfold gdE gdV loV;rw[Z97];by_cases h:asE s a=0
 ·obtain⟨k,rfl,_,_,_,hx⟩:=Z52 h
  rw[show ((k:Int)).toNat=k by omega,Zdf hx];exact⟨by rw[if_pos h,h],rfl⟩
 ·exact⟨by rw[if_neg h],by rw[if_neg h,if_neg h]⟩}
theorem Yca {d:Dk}{lv:Int}{t u:List UInt8}{a:Nat}(h:wkF d lv t a=some u):LeT u t:=by
 unfold wkF at h;split at h
 ·exact(Zr6 h).2.1
 ·exact Zqe d _ t a u h
theorem Ybc (w:Qak) (a b c d e f:Qal):∃ w1,((w.alloc (.cells #[a,b,c,d] 29)).alloc (.cells #[e,f] 115)).alloc (.cells #[.slice none 0 0,.slice none 0 0,.slice none 0 0,.slice none 0 0] 29)=w1 /\
  w1.heap[w.heap.size]? = some (.cells #[a,b,c,d] 29 (0,0))/\w1.heap[w.heap.size+1]? = some (.cells #[e,f] 115 (0,0))/\w1.heap[w.heap.size+2]? = some (.cells #[.slice none 0 0,.slice none 0 0,.slice none 0 0,.slice none 0 0] 29 (0,0))/\w1.heap.size=w.heap.size+3/\Qat w.heap.size w w1:=by{
 refine⟨_,rfl,Y8 (Y8 (Qap _ _)),Y8 ?_,?_,by simp,(((Qc _ w).alloc (Qb _) _).alloc (by simp) _).alloc (by simp;omega) _⟩
 ·have:=Qap (w.alloc (.cells #[a,b,c,d] 29)) (.cells #[e,f] 115)
  rwa [Pa] at this
 ·have:=Qap ((w.alloc (.cells #[a,b,c,d] 29)).alloc (.cells #[e,f] 115)) (.cells #[.slice none 0 0,.slice none 0 0,.slice none 0 0,.slice none 0 0] 29)
  rwa [Pa,Pa] at this}
theorem Zk6 (v:Qal) (s:Rm) (a lv:Int) (hlv : -1<=lv/\lv<=6) (w:Qak) (h:Sto (Old w) w v s) :
  Qar Tryz.prog 54 #[v,.agg #[.int .i64 a,.int .i64 lv]] w fun e w'=>∃ u,e=.returned (.tuple #[u,.int .i64 (gdE s lv a)])/\Sto (New w.heap.size w') w' u (gdV s lv a)/\Qat w.heap.size w w':=by{
 obtain⟨A,ca,B,cb,N,cn,L,cl,rfl,_⟩:=id h.open;obtain⟨w1,hw1,f1,f2,f3,hsz,hB⟩:=Ybc w (.slice A s.1.1.length ca) (.slice B s.1.2.length cb) (.slice N s.2.1.length cn) (.slice L s.2.2.length cl) (.int .i64 a) (.int .i64 lv);have H:=Za (h.below hB);clear h;obtain⟨k0,k1,k2,k3,_,kg⟩:=Ze f1;obtain⟨j0,j1,_,jg⟩:=Zg f2;replace hsz:=Za hsz;replace f3:=Za f3;by_cases ha:asE s a=0
 case neg =>
  obtain⟨hE,hV⟩:=Ycc (lv:=lv) ha;obtain⟨q,hq⟩:∃ q,asE s a=q:=⟨_,rfl⟩
  rw[hq] at ha hE;have hq1:(q != 0)=true:=by simpa using ha
  replace hq:=Za hq;replace hE:=Za hE;replace hV:=Za hV;clear ha
  go_enter Tryz.func54,Tryz.ntmps54
  go_upto_region 1 with fail
  clear hw1
  go_wp2_with fail
  with_reducible refine(Zow _ s a _ H.out).mono ?_
  rintro e w2 ⟨rfl,hb2⟩;rw[hq.out];have F2:=(hb2.block (w.heap.size+2) (by rw[hsz.out];omega)).trans f3.out;replace hb2:=Za (hB.trans (hb2.mono hB.size));clear k0 k1 k2 k3 kg j0 j1 jg f1 f2 hB;obtain⟨k0,k1,k2,k3,k4,k5⟩:=Ze F2;obtain⟨W9,hW9,g9,gr9,gs9⟩:=Zu (a':=.slice none 0 0) (b':=.slice none 0 0) (c':=.slice none 0 0) (d':=.slice none 0 0) F2;obtain⟨n0,n1,n2,n3,_,_⟩:=Ze g9;have hB9:=Za ((hb2).out.grown gr9 (hb2).out.size (fun q e=>by cases e;omega));replace g9:=Za g9;replace F2:=Za F2;clear gr9 gs9
  go_wp2_with fail
  refine Qao (v:=.tuple #[.agg #[.slice none 0 0,.slice none 0 0,.slice none 0 0,.slice none 0 0],.int .i64 q]) (by simp[results,Tryz.results54,go_sem,n0,n1,n2,n3]) rfl ?_;rw[hE.out,hV.out];exact⟨_,rfl,Yw _ _,hB9.out⟩
 obtain⟨k,hk,hm,h8,h256,hx⟩:=Z52 ha;subst hk;have hax:=Za ha;have hlen:=Za (Yy (Yf hm).2.1);obtain⟨R,hR⟩:∃ R,wkF s.1 lv s.2.1 ((k:Int)).toNat=R:=⟨_,rfl⟩
 have hrd:Hid (Rfd ((k:Int),lv)):=Za ⟨by show (8:Int)<=k;omega,by show (k:Int)<256;omega,hlv.1,hlv.2⟩;replace hR:=Za hR;replace hx:=Za hx;clear ha hlv h8 h256
 go_enter Tryz.func54,Tryz.ntmps54
 go_upto_region 1 with fail
 clear hw1
 go_wp2_with fail
 with_reducible refine(Zow _ s (k:Int) _ H.out).mono ?_
 rintro e w2 ⟨rfl,hb2⟩;rw[hax.out];have F1:=(hb2.block w.heap.size kg).trans f1;have F2:=(hb2.block (w.heap.size+1) jg).trans f2;have F3:=Za ((hb2.block (w.heap.size+2) (by rw[hsz.out];omega)).trans f3.out);have H2:=Za (H.out.below hb2);have s2:Hid (w.heap.size+3<=w2.heap.size):=Za (by have:=hb2.size;have:=hsz.out;omega);have B2:=Za (hB.trans (hb2.mono hB.size));clear k0 k1 k2 k3 kg j0 j1 jg f1 f2 hb2 hB;obtain⟨k0,k1,k2,k3,_,kg⟩:=Ze F1;obtain⟨j0,j1,_,jg⟩:=Zg F2
 go_wp2_with fail
 obtain⟨_,_,e9,l1,m1,hby⟩:=Vg (B:=w2.heap.size) (fun _ h=>h) H2.out.parts.2.1;cases e9;with_reducible refine(Zfm N s.2.1.length cn s.2.1 (Za rfl) (by rw[hlen.out];omega) _ hby).mono ?_
 rintro e w3 ⟨u,rfl,hu3,hb3⟩;obtain⟨g,c2,rfl,hg1,hg2,hg3,hg4⟩:=Zmk hu3 (by rw[hlen.out];omega);rw[hlen.out] at hu3 ⊢;have G1:=(hb3.block w.heap.size kg).trans F1;have G2:=(hb3.block (w.heap.size+1) jg).trans F2;have G3:=Za ((hb3.block (w.heap.size+2) (by have:=s2.out;omega)).trans F3.out);have H3:=Za (show Sto (Off g w3) w3 _ s from H2.out.map fun _ _ hp hc=>Zmy hb3 hg1 hp hc);have O3:=Za hu3;have B3:=Za (B2.out.trans (hb3.mono B2.out.size));have hgw:Hid (w.heap.size+3<=g):=Za (by have:=s2.out;omega);clear k0 k1 k2 k3 kg j0 j1 jg F1 F2 F3 hb3 B2 H2 hby l1 m1 hu3 hg1;obtain⟨k0,k1,k2,k3,_,kg⟩:=Ze G1;obtain⟨j0,j1,_,jg⟩:=Zg G2
 go_wp2_with fail
 with_reducible refine(Zxj g c2 w2.heap.size s.2.1 _ s hm (k:Int) lv hrd.out (LeT.refl _) _ O3.out H3.out).mono ?_
 rintro e w4 ⟨q,rfl,hgr,hq⟩;have E1:=(hgr.block w.heap.size kg (by have:=hgw.out;simp;omega)).trans G1;have E3:=(hgr.block (w.heap.size+2) (by have:=G3.out;exact(Qd.1 this).1) (by have:=hgw.out;simp;omega)).trans G3.out;have B4:=Za (B3.out.grown hgr B3.out.size (fun q e=>by cases e;have:=hgw.out;omega));have H4:=Za (show Sto (Old w4) w4 _ s from (H3.out.map fun _ _ hp hc=>Zi6 hgr hp hc).map fun _ _ hp hc=>Zmo hp hc);clear k0 k1 k2 k3 kg j0 j1 jg G1 G2 G3 B3 H3 O3 hgr;rcases hq with ⟨hN,rfl⟩ | ⟨t,hS,rfl,hown⟩
 ·obtain⟨hE,hV⟩:=Ybd hax.out hN
  replace hE:=Za hE;replace hV:=Za hV;replace hN:=Za hN;clear E1;obtain⟨k0,k1,k2,k3,k4,k5⟩:=Ze E3;obtain⟨W9,hW9,g9,gr9,gs9⟩:=Zu (a':=.slice none 0 0) (b':=.slice none 0 0) (c':=.slice none 0 0) (d':=.slice none 0 0) E3;obtain⟨n0,n1,n2,n3,_,_⟩:=Ze g9;have hB9:=Za ((B4).out.grown gr9 (B4).out.size (fun q e=>by cases e;omega));replace g9:=Za g9;replace E3:=Za E3;clear gr9 gs9
  go_wp2_with fail
  refine Qao (v:=.tuple #[.agg #[.slice none 0 0,.slice none 0 0,.slice none 0 0,.slice none 0 0],.int .i64 8]) (by simp[results,Tryz.results54,go_sem,n0,n1,n2,n3]) rfl ?_;rw[hE.out,hV.out];exact⟨_,rfl,Yw _ _,hB9.out⟩
 ·obtain⟨hE,hV⟩:=Yce hax.out hS
  have hle:=Yca hS;have htl:t.length=256:=hle.len.trans hlen.out;have hmS:Xj (s.1,t,s.2.2)=true:=Zak (Yf hm).1 (hle.may (Yf hm).2.1) (Yf hm).2.2;have hsm:=Za (Zvn hmS);have T4:Hid (Sto (Old w4) w4 (.agg #[.slice A s.1.1.length ca,.slice B s.1.2.length cb,.slice (some ⟨g,0,none⟩) 256 c2,.slice L s.2.2.length cl]) (s.1,t,s.2.2)):=Za (Sto.mk H4.out.parts.1 (Zf.drop (Zhi hown)) H4.out.parts.2.2);replace hE:=Za hE;replace hV:=Za hV;replace hS:=Za hS;obtain⟨k0,k1,k2,k3,_,kg⟩:=Ze E1;replace E3:=Za E3;clear hown hle
  go_wp2_with fail
  with_reducible refine(Zw9 _ (s.1,t,s.2.2) hsm.out _ T4.out).mono ?_
  rintro e w5 ⟨A5,a5,B5,b5,N5,n5,L5,l5,rfl,h5,hb5⟩;have F5:=(hb5.block (w.heap.size+2) (by have:=B4.out.size;have:=(Qd.1 E3.out).1;omega)).trans E3.out;have s5:Hid (w.heap.size+2<w4.heap.size):=Za (Qd.1 E3.out).1;obtain⟨o0,o1,o2,o3,_,_⟩:=Ze F5;obtain⟨W9,hW9,g9,gr9,gs9⟩:=Zu (a':=.slice A5 s.1.1.length a5) (b':=.slice B5 s.1.2.length b5) (c':=.slice N5 t.length n5) (d':=.slice L5 s.2.2.length l5) F5;obtain⟨n0,n1,n2,n3,_,_⟩:=Ze g9
  have hfin:=Za (show Sto (New w.heap.size W9) W9 (.agg #[.slice A5 s.1.1.length a5,.slice B5 s.1.2.length b5,.slice N5 t.length n5,.slice L5 s.2.2.length l5]) (s.1,t,s.2.2) from
   (h5.grown gr9 (fun q e=>by cases e;exact s5.out)).new B4.out.size (Qc _ _))
  have hB9:=Za ((B4.out.trans (hb5.mono B4.out.size)).grown gr9 (Qa B4.out.size hb5.size) (fun q e=>by cases e;omega));replace F5:=Za F5;replace g9:=Za g9;replace htl:=Za htl;clear gr9 gs9 h5 hb5 k0 k1 k2 k3 kg E1
  go_wp2_with fail
  refine Qao (v:=.tuple #[.agg #[.slice A5 s.1.1.length a5,.slice B5 s.1.2.length b5,.slice N5 t.length n5,.slice L5 s.2.2.length l5],.int .i64 0]) (by simp[results,Tryz.results54,go_sem,n0,n1,n2,n3]) rfl ?_;rw[hE.out,hV.out];exact⟨_,rfl,hfin.out,hB9.out⟩}
theorem Zvi (v:Qal) (s:Rm) (n:Int) (w:Qak) (h:Sto (Old w) w v s) :
  Qar Tryz.prog 28 #[v,.int .i64 n] w fun e w'=>∃ u,e=.returned (.tuple #[u,.int .i64 (lvE s n)])/\Sto (New w.heap.size w') w' u (lvV s n)/\Qat w.heap.size w w':=by{
 obtain⟨A,ca,B,cb,N,cn,L,cl,w1,rfl,hw1,f1,f2,hsz,hB,H⟩:=Zfu h;clear h;obtain⟨k0,k1,k2,k3,_,kg⟩:=Ze f1;replace hsz:=Za hsz;replace f2:=Za f2
 go_enter Tryz.func28,Tryz.ntmps28
 go_upto_region 1 with fail
 clear hw1
 go_wp2_with fail
 with_reducible refine(Zk6 _ s n 6 (by decide) _ H.out).mono ?_
 rintro e w2 ⟨u,rfl,hu,hb2⟩;rw[(Zh8 s n).1];rw[(Zh8 s n).2] at hu;obtain⟨q,hq⟩:∃ q,gdE s 6 n=q:=⟨_,rfl⟩
 have hq':=Za ((Zh8 s n).1.symm.trans hq);clear hq;rw[hq'.out];obtain⟨V,hV⟩:∃ V,gdV s 6 n=V:=⟨_,rfl⟩
 have hV':=Za ((Zh8 s n).2.symm.trans hV);clear hV;rw[hV'.out] at hu;obtain⟨P,p,Q,r,Y,y,X,x,rfl,_⟩:=id hu.open;have F2:=(hb2.block (w.heap.size+1) (by rw[hsz.out];omega)).trans f2.out;obtain⟨o0,o1,o2,o3,_,_⟩:=Ze F2;obtain⟨W9,hW9,g9,gr9,gs9⟩:=Zu (a':=.slice P V.1.1.length p) (b':=.slice Q V.1.2.length r) (c':=.slice Y V.2.1.length y) (d':=.slice X V.2.2.length x) F2;obtain⟨n0,n1,n2,n3,_,_⟩:=Ze g9;have hfin:=Za (show Sto (New w.heap.size W9) W9 _ V from (hu.grown gr9 (fun q e=>by cases e;rw[hsz.out];omega)).new hB.size (Qc _ _));have hB9:=Za ((hB.trans (hb2.mono hB.size)).grown gr9 (Qa hB.size hb2.size) (fun q e=>by cases e;omega));replace F2:=Za F2;replace g9:=Za g9;clear gr9 gs9 hu hb2 k0 k1 k2 k3 kg f1
 go_wp2_with fail
 refine Qao (v:=.tuple #[.agg #[.slice P V.1.1.length p,.slice Q V.1.2.length r,.slice Y V.2.1.length y,.slice X V.2.2.length x],.int .i64 q]) (by simp[results,Tryz.results28,go_sem,n0,n1,n2,n3]) rfl ?_;rw[hq'.out,hV'.out];exact⟨_,rfl,hfin.out,hB9.out⟩}
theorem Zvg (v:Qal) (s:Rm) (n:Int) (w:Qak) (h:Sto (Old w) w v s) :
  Qar Tryz.prog 84 #[v,.int .i64 n] w fun e w'=>∃ u,e=.returned (.tuple #[u,.int .i64 (asE s n)])/\Sto (New w.heap.size w') w' u (loV s n)/\Qat w.heap.size w w':=by{
 obtain⟨A,ca,B,cb,N,cn,L,cl,w1,rfl,hw1,f1,f2,hsz,hB,H⟩:=Zfu h;clear h;obtain⟨k0,k1,k2,k3,_,kg⟩:=Ze f1;replace hsz:=Za hsz;replace f2:=Za f2
 go_enter Tryz.func84,Tryz.ntmps84
 go_upto_region 1 with fail
 clear hw1
 go_wp2_with fail
 with_reducible refine(Zk6 _ s n (-1) (by decide) _ H.out).mono ?_
 rintro e w2 ⟨u,rfl,hu,hb2⟩;rw[(Zh4 s n).1];rw[(Zh4 s n).2] at hu;obtain⟨q,hq⟩:∃ q,gdE s (-1) n=q:=⟨_,rfl⟩
 have hq':=Za ((Zh4 s n).1.symm.trans hq);clear hq;rw[hq'.out];obtain⟨V,hV⟩:∃ V,gdV s (-1) n=V:=⟨_,rfl⟩
 have hV':=Za ((Zh4 s n).2.symm.trans hV);clear hV;rw[hV'.out] at hu;obtain⟨P,p,Q,r,Y,y,X,x,rfl,_⟩:=id hu.open;have F2:=(hb2.block (w.heap.size+1) (by rw[hsz.out];omega)).trans f2.out;obtain⟨o0,o1,o2,o3,_,_⟩:=Ze F2;obtain⟨W9,hW9,g9,gr9,gs9⟩:=Zu (a':=.slice P V.1.1.length p) (b':=.slice Q V.1.2.length r) (c':=.slice Y V.2.1.length y) (d':=.slice X V.2.2.length x) F2;obtain⟨n0,n1,n2,n3,_,_⟩:=Ze g9;have hfin:=Za (show Sto (New w.heap.size W9) W9 _ V from (hu.grown gr9 (fun q e=>by cases e;rw[hsz.out];omega)).new hB.size (Qc _ _));have hB9:=Za ((hB.trans (hb2.mono hB.size)).grown gr9 (Qa hB.size hb2.size) (fun q e=>by cases e;omega));replace F2:=Za F2;replace g9:=Za g9;clear gr9 gs9 hu hb2 k0 k1 k2 k3 kg f1
 go_wp2_with fail
 refine Qao (v:=.tuple #[.agg #[.slice P V.1.1.length p,.slice Q V.1.2.length r,.slice Y V.2.1.length y,.slice X V.2.2.length x],.int .i64 q]) (by simp[results,Tryz.results84,go_sem,n0,n1,n2,n3]) rfl ?_;rw[hq'.out,hV'.out];exact⟨_,rfl,hfin.out,hB9.out⟩}
theorem Z2e {s:Rm}{n:Nd}(h:Xj s=false):mkE s n=8:=by rw[mkE,h];rfl
theorem Z37 {s:Rm}{n:Nd}(h:mayN n=false):mkE s n=8:=by rw[mkE,h];simp
theorem Zzs (v u:Qal) (s:Rm) (n:Nd) (w:Qak) (h:Sto (Old w) w v s) (hu:Nod (Old w) w u n) :
  Qar Tryz.prog 45 #[v,u] w fun e w'=>∃ t,e=.returned (.tuple #[t,.int .i64 (mkN s n),.int .i64 (mkE s n)])/\Sto (New w.heap.size w') w' t (mkV s n)/\Qat w.heap.size w w':=by{
 obtain⟨A,ca,B,cb,N,cn,L,cl,rfl,_⟩:=id h.open;obtain⟨I,ci,rfl,_⟩:=id hu.open;obtain⟨w1,hw1,f1,fn,f2,hsz,hB⟩:=Zw1 (w:=w) (.slice A s.1.1.length ca) (.slice B s.1.2.length cb) (.slice N s.2.1.length cn) (.slice L s.2.2.length cl) (.int .i64 n.1) (.slice I n.2.length ci);have H:=Za (h.below hB);have U:=Za (hu.below hB);clear h hu;obtain⟨k0,k1,k2,k3,_,kg⟩:=Ze f1;obtain⟨p0,p1,_,pg⟩:=Zg fn;replace hsz:=Za hsz;replace f2:=Za f2;cases hm:Xj s with
 | false =>
  have hE:=Z2e (n:=n) hm;obtain⟨hN,hV⟩:=Z1y (s:=s) (n:=n) (by rw[hE];decide);have e1:=Zec hm;replace hE:=Za hE;replace hN:=Za hN;replace hV:=Za hV
  go_enter Tryz.func45,Tryz.ntmps45
  go_upto_region 1 with fail
  clear hw1
  go_wp2_with fail
  with_reducible refine(Xh _ s _ H.out).mono ?_
  rintro e w2 ⟨rfl,hb2⟩;rw[e1];have F2:=(hb2.block (w.heap.size+2) (by rw[hsz.out];omega)).trans f2.out;replace hb2:=Za (hB.trans (hb2.mono hB.size));clear k0 k1 k2 k3 kg p0 p1 pg f1 fn hB e1 hm;obtain⟨k0,k1,k2,k3,k4,k5⟩:=Ze F2;obtain⟨W9,hW9,g9,gr9,gs9⟩:=Zu (a':=.slice none 0 0) (b':=.slice none 0 0) (c':=.slice none 0 0) (d':=.slice none 0 0) F2;obtain⟨n0,n1,n2,n3,_,_⟩:=Ze g9;have hB9:=Za ((hb2).out.grown gr9 (hb2).out.size (fun q e=>by cases e;omega));replace g9:=Za g9;replace F2:=Za F2;clear gr9 gs9
  go_wp2_with fail
  refine Qao (v:=.tuple #[.agg #[.slice none 0 0,.slice none 0 0,.slice none 0 0,.slice none 0 0],.int .i64 0,.int .i64 8]) (by simp[results,Tryz.results45,go_sem,n0,n1,n2,n3]) rfl ?_;rw[hE.out,hN.out,hV.out];exact⟨_,rfl,Yw _ _,hB9.out⟩
 | true =>
 have e1:=Zc4 hm;obtain⟨b,hb⟩:∃ b,wrN n=b:=⟨_,rfl⟩
 obtain⟨q,hq⟩:∃ q,Z2j n=q:=⟨_,rfl⟩
 replace hb:=Za hb;replace hq:=Za hq;have hlen:=Za (Yy (Yf hm).2.1)
 go_enter Tryz.func45,Tryz.ntmps45
 go_upto_region 1 with fail
 clear hw1
 go_wp2_with fail
 with_reducible refine(Xh _ s _ H.out).mono ?_
 rintro e w2 ⟨rfl,hb2⟩;rw[e1];have F1:=(hb2.block w.heap.size kg).trans f1;have Fn:=(hb2.block (w.heap.size+1) pg).trans fn;have F2:=(hb2.block (w.heap.size+2) (by rw[hsz.out];omega)).trans f2.out;have H2:=H.out.below hb2;have U2:=U.out.below hb2;have s2:Hid (w.heap.size+3<=w2.heap.size):=Za (by have:=hb2.size;have:=hsz.out;omega);have B2:=Za (hB.trans (hb2.mono hB.size));clear k0 k1 k2 k3 kg p0 p1 pg f1 fn hb2 hB f2 e1 H U;obtain⟨k0,k1,k2,k3,_,kg⟩:=Ze F1;obtain⟨p0,p1,_,pg⟩:=Zg Fn;replace F2:=Za F2;replace H2:=Za H2;replace U2:=Za U2
 go_wp2_with fail
 with_reducible refine(Zm2 _ n _ U2.out).mono ?_
 rintro e w3 ⟨u3,rfl,h3,hb3⟩;rw[hq.out];rw[hb.out] at h3;obtain⟨E,ce,rfl,_⟩:=id (Zt h3);have G1:=(hb3.block w.heap.size kg).trans F1;have Gn:=(hb3.block (w.heap.size+1) pg).trans Fn;have G2:=(hb3.block (w.heap.size+2) (by have:=s2.out;omega)).trans F2.out;have H3:=H2.out.below hb3;have U3:=U2.out.below hb3;have s3:Hid (w.heap.size+3<=w3.heap.size):=Za (by have:=hb3.size;have:=s2.out;omega);have B3:=Za (B2.out.trans (hb3.mono B2.out.size));have R3:=Za (Zf.drop h3);clear k0 k1 k2 k3 kg p0 p1 pg F1 Fn hb3 F2 H2 U2 B2 h3 s2;cases hn:mayN n with
 | false =>
  have hE:=Z37 (s:=s) hn;obtain⟨hN,hV⟩:=Z1y (s:=s) (n:=n) (by rw[hE];decide);have hq8:q=8:=by rw[<- hq.out,Z2j,hn];rfl
  subst hq8;replace hE:=Za hE;replace hN:=Za hN;replace hV:=Za hV;clear H3 U3 G1 Gn hn hm;obtain⟨k0,k1,k2,k3,k4,k5⟩:=Ze G2;obtain⟨W9,hW9,g9,gr9,gs9⟩:=Zu (a':=.slice none 0 0) (b':=.slice none 0 0) (c':=.slice none 0 0) (d':=.slice none 0 0) G2;obtain⟨n0,n1,n2,n3,_,_⟩:=Ze g9;have hB9:=Za ((B3).out.grown gr9 (B3).out.size (fun q e=>by cases e;omega));replace g9:=Za g9;replace G2:=Za G2;clear gr9 gs9
  go_wp2_with fail
  refine Qao (v:=.tuple #[.agg #[.slice none 0 0,.slice none 0 0,.slice none 0 0,.slice none 0 0],.int .i64 0,.int .i64 8]) (by simp[results,Tryz.results45,go_sem,n0,n1,n2,n3]) rfl ?_;rw[hE.out,hN.out,hV.out];exact⟨_,rfl,Yw _ _,hB9.out⟩
 | true =>
 have hq0:q=0:=by rw[<- hq.out,Z2j,hn];rfl
 subst hq0;have hbk:Hid (Va n=b):=Za (by rw[<- hb.out,wrN,hn];rfl);have hways:=Za (Z2b hm hn);obtain⟨k0,k1,k2,k3,_,kg⟩:=Ze G1;obtain⟨p0,p1,_,pg⟩:=Zg Gn;replace G2:=Za G2;replace H3:=Za H3;replace U3:=Za U3
 go_wp2_with fail
 obtain⟨_,_,e9,l1,m1,hby⟩:=Vg (B:=w3.heap.size) (fun _ h=>h) H3.out.parts.2.1;cases e9;with_reducible refine(Zfm N s.2.1.length cn s.2.1 (Za rfl) (by rw[hlen.out];omega) _ hby).mono ?_
 rintro e w4 ⟨u4,rfl,hu4,hb4⟩;obtain⟨g,c2,rfl,hg1,hg2,hg3,hg4⟩:=Zmk hu4 (by rw[hlen.out];omega);rw[hlen.out] at hu4 ⊢;have F1:=(hb4.block w.heap.size kg).trans G1;have Fn:=(hb4.block (w.heap.size+1) pg).trans Gn;have F2:=Za ((hb4.block (w.heap.size+2) (by have:=s3.out;omega)).trans G2.out);have H4:=Za (show Sto (Off g w4) w4 _ s from H3.out.map fun _ _ hp hc=>Zmy hb4 hg1 hp hc);have U4:=Za (show Nod (Off g w4) w4 _ n from U3.out.map fun _ _ hp hc=>Zmy hb4 hg1 hp hc);have R4:=Za (show rBy (Off g w4) w4 _ b from Zf _ _ _ _ _ _ (fun _ _ hp hc=>Zmy hb4 hg1 hp hc) R3.out);have O4:=Za hu4;have B4:=Za (B3.out.trans (hb4.mono B3.out.size));have hgw:Hid (w.heap.size+3<=g):=Za (by have:=s3.out;omega);clear k0 k1 k2 k3 kg p0 p1 pg G1 Gn G2 hb4 H3 U3 R3 B3 hby l1 m1 hu4 hg1 s3;obtain⟨k0,k1,k2,k3,_,kg⟩:=Ze F1;obtain⟨p0,p1,_,pg⟩:=Zg Fn;obtain⟨r,hr⟩:∃ r,ctE s.2.1 n.2=r:=⟨_,rfl⟩
 go_wp2_with fail
 with_reducible refine(Z08 g c2 w3.heap.size s.2.1 _ n hn hlen.out _ O4.out U4.out).mono ?_
 rintro e w5 ⟨rfl,hgr,hown⟩;rw[hr] at hown ⊢;have E1:=(hgr.block w.heap.size kg (by have:=hgw.out;simp;omega)).trans F1;have E3:=(hgr.block (w.heap.size+2) (by have:=F2.out;exact(Qd.1 this).1) (by have:=hgw.out;simp;omega)).trans F2.out;have B5:=Za (B4.out.grown hgr B4.out.size (fun q e=>by cases e;have:=hgw.out;omega));have H5:=Za (show Sto (Old w5) w5 _ s from (H4.out.map fun _ _ hp hc=>Zi6 hgr hp hc).map fun _ _ hp hc=>Zmo hp hc);have R5:=Za (show rBy (Old w5) w5 _ b from Zf _ _ _ _ _ _ (fun _ _ hp hc=>Zmo hp hc) (Zf _ _ _ _ _ _ (fun _ _ hp hc=>Zi6 hgr hp hc) R4.out));clear k0 k1 k2 k3 kg p0 p1 pg F1 Fn F2 B4 H4 U4 R4 O4 hgr;rcases hways.out with ⟨hc,hE,hN,hV⟩ | ⟨hc,hE,hN,hV⟩
 ·rw[hr] at hc hE
  have hr1:(r != 0)=true:=by simpa using hc
  replace hE:=Za hE;replace hN:=Za hN;replace hV:=Za hV;replace hr:=Za hr;clear E1 hown hc hm hn hways;obtain⟨k0,k1,k2,k3,k4,k5⟩:=Ze E3;obtain⟨W9,hW9,g9,gr9,gs9⟩:=Zu (a':=.slice none 0 0) (b':=.slice none 0 0) (c':=.slice none 0 0) (d':=.slice none 0 0) E3;obtain⟨n0,n1,n2,n3,_,_⟩:=Ze g9;have hB9:=Za ((B5).out.grown gr9 (B5).out.size (fun q e=>by cases e;omega));replace g9:=Za g9;replace E3:=Za E3;clear gr9 gs9
  go_wp2_with fail
  refine Qao (v:=.tuple #[.agg #[.slice none 0 0,.slice none 0 0,.slice none 0 0,.slice none 0 0],.int .i64 0,.int .i64 r]) (by simp[results,Tryz.results45,go_sem,n0,n1,n2,n3]) rfl ?_;rw[hE.out,hN.out,hV.out];exact⟨_,rfl,Yw _ _,hB9.out⟩
 ·rw[hr] at hc
  subst hc;rw[hbk.out] at hE hN hV;have hctl:(ctV s.2.1 n.2).length=256:=by rw[Zev,hlen.out]
  have T5:Hid (Sto (Old w5) w5 (.agg #[.slice A s.1.1.length ca,.slice B s.1.2.length cb,.slice (some ⟨g,0,none⟩) 256 c2,.slice L s.2.2.length cl]) (ctS s n)):=Za (Sto.mk H5.out.parts.1 (Zf.drop (Zhi (hown rfl))) H5.out.parts.2.2);obtain⟨S,hS⟩:∃ S,ctS s n=S:=⟨_,rfl⟩
  rw[hS] at T5 hE hN hV;obtain⟨V,hVV⟩:∃ V,tkV S b=V:=⟨_,rfl⟩
  obtain⟨x,hx⟩:∃ x,tkN S b=x:=⟨_,rfl⟩
  obtain⟨y,hy⟩:∃ y,tkE S b=y:=⟨_,rfl⟩
  rw[hVV] at hV;rw[hx] at hN;rw[hy] at hE;replace hE:=Za hE;replace hN:=Za hN;replace hV:=Za hV;replace hr:=Za hr;replace hS:=Za hS;replace hVV:=Za hVV;replace hx:=Za hx;replace hy:=Za hy;obtain⟨k0,k1,k2,k3,_,kg⟩:=Ze E1;replace E3:=Za E3;clear hown hm hn hways hctl
  go_wp2_with fail
  with_reducible refine(Zyn _ _ S b _ T5.out R5.out).mono ?_
  rintro e w6 ⟨t6,rfl,h6,hb6⟩;rw[hx.out,hy.out];rw[hVV.out] at h6;obtain⟨A6,a6,B6,b6,N6,n6,L6,l6,rfl,_⟩:=id h6.open;have F6:=(hb6.block (w.heap.size+2) (by exact(Qd.1 E3.out).1)).trans E3.out;have s6:Hid (w.heap.size+2<w5.heap.size):=Za (Qd.1 E3.out).1;obtain⟨o0,o1,o2,o3,_,_⟩:=Ze F6;obtain⟨W9,hW9,g9,gr9,gs9⟩:=Zu (a':=.slice A6 V.1.1.length a6) (b':=.slice B6 V.1.2.length b6) (c':=.slice N6 V.2.1.length n6) (d':=.slice L6 V.2.2.length l6) F6;obtain⟨n0,n1,n2,n3,_,_⟩:=Ze g9;have hfin:=Za (show Sto (New w.heap.size W9) W9 _ V from (h6.grown gr9 (fun q e=>by cases e;exact s6.out)).new B5.out.size (Qc _ _));have hB9:=Za ((B5.out.trans (hb6.mono B5.out.size)).grown gr9 (Qa B5.out.size hb6.size) (fun q e=>by cases e;omega));replace F6:=Za F6;replace g9:=Za g9;clear gr9 gs9 h6 hb6 k0 k1 k2 k3 kg E1
  go_wp2_with fail
  refine Qao (v:=.tuple #[.agg #[.slice A6 V.1.1.length a6,.slice B6 V.1.2.length b6,.slice N6 V.2.1.length n6,.slice L6 V.2.2.length l6],.int .i64 x,.int .i64 y]) (by simp[results,Tryz.results45,go_sem,n0,n1,n2,n3]) rfl ?_;rw[hE.out,hN.out,hV.out];exact⟨_,rfl,hfin.out,hB9.out⟩}
theorem Zv5 (v u:Qal) (s:Rm) (n:Nd) (w:Qak) (h:Sto (Old w) w v s) (hu:Nod (Old w) w u n) :
  Qar Tryz.prog 45 #[v,u] w fun e W'=>∃ A ca B cb N cn L cl,e=.returned (.tuple #[.agg #[.slice A (mkV s n).1.1.length ca,.slice B (mkV s n).1.2.length cb,.slice N (mkV s n).2.1.length cn,.slice L (mkV s n).2.2.length cl],.int .i64 (mkN s n),.int .i64 (mkE s n)]) /\
   Sto (New w.heap.size W') W' (.agg #[.slice A (mkV s n).1.1.length ca,.slice B (mkV s n).1.2.length cb,.slice N (mkV s n).2.1.length cn,.slice L (mkV s n).2.2.length cl]) (mkV s n)/\Qat w.heap.size w W':=by
 refine(Zzs v u s n w h hu).mono ?_;rintro e W' ⟨t,rfl,ht,hb⟩;obtain⟨A,ca,B,cb,N,cn,L,cl,rfl,_⟩:=id ht.open;exact⟨A,ca,B,cb,N,cn,L,cl,rfl,ht,hb⟩
theorem Zrw (v:Qal) (s:Rm) (n:Int) (w:Qak) (h:Sto (Old w) w v s) :
  Qar Tryz.prog 28 #[v,.int .i64 n] w fun e W'=>∃ A ca B cb N cn L cl,e=.returned (.tuple #[.agg #[.slice A (lvV s n).1.1.length ca,.slice B (lvV s n).1.2.length cb,.slice N (lvV s n).2.1.length cn,.slice L (lvV s n).2.2.length cl],.int .i64 (lvE s n)]) /\
   Sto (New w.heap.size W') W' (.agg #[.slice A (lvV s n).1.1.length ca,.slice B (lvV s n).1.2.length cb,.slice N (lvV s n).2.1.length cn,.slice L (lvV s n).2.2.length cl]) (lvV s n)/\Qat w.heap.size w W':=by
 refine(Zvi v s n w h).mono ?_;rintro e W' ⟨t,rfl,ht,hb⟩;obtain⟨A,ca,B,cb,N,cn,L,cl,rfl,_⟩:=id ht.open;exact⟨A,ca,B,cb,N,cn,L,cl,rfl,ht,hb⟩
theorem Zrc (v:Qal) (s:Rm) (n:Int) (w:Qak) (h:Sto (Old w) w v s) :
  Qar Tryz.prog 84 #[v,.int .i64 n] w fun e W'=>∃ A ca B cb N cn L cl,e=.returned (.tuple #[.agg #[.slice A (loV s n).1.1.length ca,.slice B (loV s n).1.2.length cb,.slice N (loV s n).2.1.length cn,.slice L (loV s n).2.2.length cl],.int .i64 (asE s n)]) /\
   Sto (New w.heap.size W') W' (.agg #[.slice A (loV s n).1.1.length ca,.slice B (loV s n).1.2.length cb,.slice N (loV s n).2.1.length cn,.slice L (loV s n).2.2.length cl]) (loV s n)/\Qat w.heap.size w W':=by
 refine(Zvg v s n w h).mono ?_;rintro e W' ⟨t,rfl,ht,hb⟩;obtain⟨A,ca,B,cb,N,cn,L,cl,rfl,_⟩:=id ht.open;exact⟨A,ca,B,cb,N,cn,L,cl,rfl,ht,hb⟩
def Zft (L:List It):List (List It):=if L.length<=5 then [L] else [L.take 3,L.drop 3]
def mkA (lv:Int):Rm->List It->List (List It)->Int×Rm×List It
 | s,M,[]=>(0,s,M)
 | s,M,l::r=>if mkE s (lv,l)=0 then mkA lv (mkV s (lv,l)) (M++[upI l (mkN s (lv,l))]) r else (mkE s (lv,l),Zi,[])
theorem Z4q {lv:Int}{s:Rm}{M l:List It}{P:List (List It)}{k:Nat}(h:P[k]? = some l):mkA lv s M (P.drop k)=if mkE s (lv,l)=0 then mkA lv (mkV s (lv,l)) (M++[upI l (mkN s (lv,l))]) (P.drop (k+1)) else (mkE s (lv,l),Zi,[]):=by
 obtain⟨hl,e⟩:=Ql.1 h;rw[Pe hl,e];rfl
theorem Z1a (lv:Int) (s:Rm) (L:List It):mkA lv s [] (Zft L)=Zq s lv L:=by{
 unfold Zft Zq;split
 ·simp only[mkA]
  split <;> rfl
 ·simp only[mkA]
  split
  ·split <;> rfl
  ·rfl}
def Zkl:List It->Rm->Int×Rm
 | [],s=>(0,s)
 | x::r,s=>if x.2.1=0 then Zkl r s else if asE s x.2.1=0 then Zkl r (loV s x.2.1) else (asE s x.2.1,Zi)
theorem Zy0 {s:Rm}{F:List It}{k:Nat}{x:It}(h:F[k]? = some x):Zkl (F.drop k) s=if x.2.1=0 then Zkl (F.drop (k+1)) s else if asE s x.2.1=0 then Zkl (F.drop (k+1)) (loV s x.2.1) else (asE s x.2.1,Zi):=by
 obtain⟨hl,e⟩:=Ql.1 h;rw[Pe hl,e];rfl
def Uj (s:Rm) (lv:Int) (L F:List It):Int×Rm×List It :=
 if (Zq s lv L).1=0 then (if (Zkl F (Zq s lv L).2.1).1=0 then (0,(Zkl F (Zq s lv L).2.1).2,(Zq s lv L).2.2) else ((Zkl F (Zq s lv L).2.1).1,Zi,[])) else ((Zq s lv L).1,Zi,[])
theorem Z2r {ok:Qam->Prop}{w:Qak}{A:Option Qam}{n c:Nat}{L:List It}(h:Zag ok w [.slice A n c] L) (k:Nat) (hk:k<=L.length):Zag ok w [.slice A k c] (L.take k):=by{
 obtain⟨A',c',e,h1,h2,h3⟩:=h;cases e;refine⟨A,c,by rw[Pf,P1 hk],by rw[Pf];omega,h2,fun i x hi=> ?_⟩;rcases Pm i k with hik | hik
 ·rw[List.getElem?_take_of_lt hik] at hi
  exact h3 i x hi
 ·rw[List.getElem?_eq_none (by rw[Pf];omega)] at hi
  cases hi}
theorem Zrn (A:Option Qam) (n c:Nat) (L:List It) (w0 w:Qak) (h:Zag (Old w0) w0 [.slice A n c] L) (hn:L.length=n) (h0:0<n) :
  Qar Tryz.prog 120 #[.slice A n c] w fun e w'=>∃ PV:List Qal,e=.returned (.slice (some ⟨w.heap.size,0,none⟩) PV.length PV.length)/\PV.length=(Zft L).length/\PV.length<=2/\0<PV.length/\w'.heap[w.heap.size]? = some (.cells PV.toArray 39 (0,0)) /\
   (∀ (k:Nat) (l:List It),(Zft L)[k]? = some l->∃ (ad:Qam) (d:Nat),PV[k]? = some (Value.slice (some ad) l.length d)/\Zag (Old w0) w0 [.slice (some ad) l.length d] l/\0<l.length)/\Qat w.heap.size w w':=by{
 subst hn;obtain⟨A',c',e,h1,h2⟩:=Zsp h;cases e;have hA:0<L.length->∃ ad,A=some ad:=fun hp=>by
  obtain⟨_,_,e,_,_,h4⟩:=id h;cases e;obtain⟨ad,_,e,_⟩:=h4 0 _ (Qh hp);exact⟨ad,e⟩
 refine(Z1v A L.length c w h1 h2 hA).mono ?_;rintro e w' ⟨hb,⟨h5,rfl,hg⟩ | ⟨h5,ad,rfl,rfl,hg⟩⟩
 ·obtain⟨ad,rfl⟩:=hA h0
  refine⟨[.slice (some ad) L.length c],rfl,by unfold Zft;rw[if_pos h5];rfl,by simp,by simp,hg,fun k l hl=> ?_,hb⟩;unfold Zft at hl;rw[if_pos h5] at hl
  match k,hl with
  | 0,hl =>
   cases hl;exact⟨ad,c,rfl,h,h0⟩
  | k+1,hl=>simp at hl
 ·refine⟨[.slice (some ad) 3 c,.slice (some (ad.add (3*5))) (L.length-3) (c-3)],rfl,by unfold Zft;rw[if_neg (by omega)];rfl,by simp,by simp,hg,fun k l hl=> ?_,hb⟩
  unfold Zft at hl;rw[if_neg (by omega)] at hl;have ht:(L.take 3).length=3:=by rw[Pf];omega
  match k,hl with
  | 0,hl =>
   cases hl;exact⟨ad,c,by rw[ht];rfl,by rw[ht];exact Z2r h 3 (by omega),by omega⟩
  | 1,hl =>
   cases hl;exact⟨ad.add (3*5),c-3,by rw[Pn];rfl,by rw[Pn];exact Z5f h 3 (by omega),by rw[Pn];omega⟩
  | k+2,hl=>simp at hl}
theorem Zg0 (v u:Qal) (s:Rm) (n:Nd) (w:Qak) (h:Sto (Old w) w v s) (hu:Nod (Old w) w u n) :
  Qar Tryz.prog 45 #[v,u] w fun e W'=>∃ qa qb qc qd:Option Qam×Nat×Nat,e=.returned (.tuple #[.agg #[.slice qa.1 qa.2.1 qa.2.2,.slice qb.1 qb.2.1 qb.2.2,.slice qc.1 qc.2.1 qc.2.2,.slice qd.1 qd.2.1 qd.2.2],.int .i64 (mkN s n),.int .i64 (mkE s n)])/\Sto (New w.heap.size W') W' (.agg #[.slice qa.1 qa.2.1 qa.2.2,.slice qb.1 qb.2.1 qb.2.2,.slice qc.1 qc.2.1 qc.2.2,.slice qd.1 qd.2.1 qd.2.2]) (mkV s n)/\Qat w.heap.size w W' :=
 (Zv5 v u s n w h hu).mono fun _ _ ⟨A,ca,B,cb,N,cn,L,cl,h1,h2,h3⟩=>⟨(A,_,ca),(B,_,cb),(N,_,cn),(L,_,cl),h1,h2,h3⟩
theorem Zi5 (v:Qal) (s:Rm) (n:Int) (w:Qak) (h:Sto (Old w) w v s) :
  Qar Tryz.prog 84 #[v,.int .i64 n] w fun e W'=>∃ qa qb qc qd:Option Qam×Nat×Nat,e=.returned (.tuple #[.agg #[.slice qa.1 qa.2.1 qa.2.2,.slice qb.1 qb.2.1 qb.2.2,.slice qc.1 qc.2.1 qc.2.2,.slice qd.1 qd.2.1 qd.2.2],.int .i64 (asE s n)])/\Sto (New w.heap.size W') W' (.agg #[.slice qa.1 qa.2.1 qa.2.2,.slice qb.1 qb.2.1 qb.2.2,.slice qc.1 qc.2.1 qc.2.2,.slice qd.1 qd.2.1 qd.2.2]) (loV s n)/\Qat w.heap.size w W' :=
 (Zrc v s n w h).mono fun _ _ ⟨A,ca,B,cb,N,cn,L,cl,h1,h2,h3⟩=>⟨(A,_,ca),(B,_,cb),(N,_,cn),(L,_,cl),h1,h2,h3⟩
theorem Zc2 (v:Qal) (s:Rm) (n:Int) (w:Qak) (h:Sto (Old w) w v s) :
  Qar Tryz.prog 28 #[v,.int .i64 n] w fun e W'=>∃ qa qb qc qd:Option Qam×Nat×Nat,e=.returned (.tuple #[.agg #[.slice qa.1 qa.2.1 qa.2.2,.slice qb.1 qb.2.1 qb.2.2,.slice qc.1 qc.2.1 qc.2.2,.slice qd.1 qd.2.1 qd.2.2],.int .i64 (lvE s n)])/\Sto (New w.heap.size W') W' (.agg #[.slice qa.1 qa.2.1 qa.2.2,.slice qb.1 qb.2.1 qb.2.2,.slice qc.1 qc.2.1 qc.2.2,.slice qd.1 qd.2.1 qd.2.2]) (lvV s n)/\Qat w.heap.size w W' :=
 (Zrw v s n w h).mono fun _ _ ⟨A,ca,B,cb,N,cn,L,cl,h1,h2,h3⟩=>⟨(A,_,ca),(B,_,cb),(N,_,cn),(L,_,cl),h1,h2,h3⟩
def Z92 (s:Rm) (lv:Int) (L F:List It) (w:Qak) (e:Qas) (w':Qak):Prop:=∃ (qa qb qc qd:Option Qam×Nat×Nat) (M:Option Qam) (mc:Nat),e=.returned (.tuple #[.agg #[.slice qa.1 qa.2.1 qa.2.2,.slice qb.1 qb.2.1 qb.2.2,.slice qc.1 qc.2.1 qc.2.2,.slice qd.1 qd.2.1 qd.2.2],.slice M (Uj s lv L F).2.2.length mc,.int .i64 (Uj s lv L F).1]) /\
 Sto (New w.heap.size w') w' (.agg #[.slice qa.1 qa.2.1 qa.2.2,.slice qb.1 qb.2.1 qb.2.2,.slice qc.1 qc.2.1 qc.2.2,.slice qd.1 qd.2.1 qd.2.2]) (Uj s lv L F).2.1/\Yi rIt 5 54 w.heap.size w' M mc (Uj s lv L F).2.2/\Qat w.heap.size w w'
theorem Yci {s:Rm}{lv:Int}{L F:List It}{er:Int}(h:Zq s lv L=(er,Zi,[])) (h0:er≠0):Uj s lv L F=(er,Zi,[]):=by
 unfold Uj;rw[h,if_neg h0]
theorem Ycq {s u:Rm}{lv:Int}{L F up:List It}{er:Int}(h:Zq s lv L=(0,u,up)) (h1:Zkl F u=(er,Zi)) (h0:er≠0):Uj s lv L F=(er,Zi,[]):=by
 unfold Uj;rw[h,if_pos rfl,h1,if_neg h0]
theorem Z94 {s u v:Rm}{lv:Int}{L F up:List It}(h:Zq s lv L=(0,u,up)) (h1:Zkl F u=(0,v)):Uj s lv L F=(0,v,up):=by
 unfold Uj;rw[h,if_pos rfl,h1,if_pos rfl]
theorem Z0o (qa qb qc qd:Option Qam×Nat×Nat) (s:Rm) (lv:Int) (hlv:Zkh lv) (A:Option Qam) (n cA:Nat) (L:List It) (B:Option Qam) (m cB:Nat) (F:List It) (w:Qak) (h:Sto (Old w) w (.agg #[.slice qa.1 qa.2.1 qa.2.2,.slice qb.1 qb.2.1 qb.2.2,.slice qc.1 qc.2.1 qc.2.2,.slice qd.1 qd.2.1 qd.2.2]) s)
  (hL:Zag (Old w) w [.slice A n cA] L) (hF:Zag (Old w) w [.slice B m cB] F) (hn:L.length=n) (h0:0<n) (hm:F.length=m) (hm1:m<=1000) :
  Qar Tryz.prog 76 #[.agg #[.slice qa.1 qa.2.1 qa.2.2,.slice qb.1 qb.2.1 qb.2.2,.slice qc.1 qc.2.1 qc.2.2,.slice qd.1 qd.2.1 qd.2.2],.int .i64 lv,.slice A n cA,.slice B m cB] w (Z92 s lv L F w):=by{
 obtain⟨w1,hw1,b1,hs1,hB1⟩:=X4 w (.slice qa.1 qa.2.1 qa.2.2) (.slice qb.1 qb.2.1 qb.2.2) (.slice qc.1 qc.2.1 qc.2.2) (.slice qd.1 qd.2.1 qd.2.2) 29;obtain⟨w2,hw2,b2,hs2,hB2⟩:=X4 w1 (.slice none 0 0) (.slice none 0 0) (.slice none 0 0) (.slice none 0 0) 29;have hB12:=hB1.trans (hB2.mono hB1.size);have hb1:=(hB2.block w.heap.size (by omega)).trans b1;have HP:=Za (Zrn A n cA L w w2 hL hn h0);have HS:=Za (h.below hB12);have HF:=Za hF;have B2:=Za hB12;have G1:=Za hb1;have G2:=Za b2;have hbu:=Za (Z1a lv s L);have SZ:=Za (show w1.heap.size=w.heap.size+1/\w2.heap.size=w.heap.size+2 from ⟨hs1,by omega⟩);replace hn:=Za hn;replace hm:=Za hm;replace hlv:=Za hlv;replace hs1:=Za hs1;replace hs2:=Za hs2;clear h hL hF hB1 hB2 hB12 b1 b2 hb1
 go_enter Tryz.func76,Tryz.ntmps76
 go_upto_region 1 with fail
 clear hw1 hw2
 go_wp2_with fail
 with_reducible refine(HP.out).mono ?_
 rintro e w3 ⟨PV,rfl,hPl,hP2,hP0,hg3,hpv,hb3⟩;have B3:=Za (B2.out.trans (hb3.mono B2.out.size));have H3:=Za (HS.out.below hb3);have g1:=Za ((hb3.block w.heap.size (by have:=SZ.out;omega)).trans G1.out);have g2:=Za ((hb3.block w1.heap.size (by have:=SZ.out;omega)).trans G2.out);have s3:=Za (show w2.heap.size<w3.heap.size from (Qd.1 hg3).1);obtain⟨K,hK⟩:∃ K,PV.length=K:=⟨_,rfl⟩
 obtain⟨P,hP⟩:∃ P,Zft L=P:=⟨_,rfl⟩
 rw[hK] at hPl hP2 hP0 ⊢;rw[hP] at hPl hpv hbu;have hg3:=Za hg3;have hpv:=Za hpv;replace hPl:=Za hPl;replace hK:=Za hK;replace hP:=Za hP
 have hzero:Hid (∀ (er:Int) (W:Qak),Uj s lv L F=(er,Zi,[])->w3.grownBy W (some w.heap.size)->∃ W9,(((W.setCell ⟨w1.heap.size,0,none⟩ (.slice none 0 0)).setCell ⟨w1.heap.size,1,none⟩ (.slice none 0 0)).setCell ⟨w1.heap.size,2,none⟩ (.slice none 0 0)).setCell ⟨w1.heap.size,3,none⟩ (.slice none 0 0)=W9 /\
   W9.cell? ⟨w1.heap.size,0,none⟩=some (.slice none 0 0)/\W9.cell? ⟨w1.heap.size,1,none⟩=some (.slice none 0 0)/\W9.cell? ⟨w1.heap.size,2,none⟩=some (.slice none 0 0)/\W9.cell? ⟨w1.heap.size,3,none⟩=some (.slice none 0 0) /\
   W.cell? ⟨w1.heap.size,0,none⟩=some (.slice none 0 0)/\W.cell? ⟨w1.heap.size,1,none⟩=some (.slice none 0 0)/\W.cell? ⟨w1.heap.size,2,none⟩=some (.slice none 0 0)/\W.cell? ⟨w1.heap.size,3,none⟩=some (.slice none 0 0)/\(∀ o,W.frozen? ⟨w1.heap.size,o,none⟩=false) /\
   Z92 s lv L F w (.returned (.tuple #[.agg #[.slice none 0 0,.slice none 0 0,.slice none 0 0,.slice none 0 0],.slice none 0 0,.int .i64 er])) W9):=Za fun er W he hW=>by
  have bW:=(hW.block w1.heap.size (by have:=s3.out;have:=SZ.out;omega) (by have:=SZ.out;intro e;have:=Option.some.inj e;omega)).trans g2.out;obtain⟨W9,e9,g9,gr9,_⟩:=Zu (a':=.slice none 0 0) (b':=.slice none 0 0) (c':=.slice none 0 0) (d':=.slice none 0 0) bW;obtain⟨k0,k1,k2,k3,_⟩:=Ze g9;obtain⟨y0,y1,y2,y3,yf,_⟩:=Ze bW;have hBW:=(B3.out.grown hW B3.out.size (fun q e=>by cases e;exact Qb _)).grown gr9 (by have:=hW.size;have:=B3.out.size;omega) (fun q e=>by cases e;have:=SZ.out;omega);refine⟨W9,e9,k0,k1,k2,k3,y0,y1,y2,y3,yf,(none,0,0),(none,0,0),(none,0,0),(none,0,0),none,0,by rw[he];rfl,by rw[he];exact Yw _ _,by rw[he];exact Yi.nil _ _ _ _ _,hBW⟩
 clear hb3
 go_wp2_with fail
 go_loopw [9,19] (fun mv iv wr=>∃ (k:Nat) (M:Option Qam) (mc:Nat) (made:List It) (sk:Rm) (qa qb qc qd:Option Qam×Nat×Nat),k<=K/\iv=.int .i64 (k:Int)/\mv=.slice M made.length mc/\made.length=k/\mkA lv s [] P=mkA lv sk made (P.drop k)/\wr.heap[w.heap.size]? = some (.cells #[.slice qa.1 qa.2.1 qa.2.2,.slice qb.1 qb.2.1 qb.2.2,.slice qc.1 qc.2.1 qc.2.2,.slice qd.1 qd.2.1 qd.2.2] 29 (0,0)) /\
   Sto (Old wr) wr (.agg #[.slice qa.1 qa.2.1 qa.2.2,.slice qb.1 qb.2.1 qb.2.2,.slice qc.1 qc.2.1 qc.2.2,.slice qd.1 qd.2.1 qd.2.2]) sk/\(0<k->Sto (New w3.heap.size wr) wr (.agg #[.slice qa.1 qa.2.1 qa.2.2,.slice qb.1 qb.2.1 qb.2.2,.slice qc.1 qc.2.1 qc.2.2,.slice qd.1 qd.2.1 qd.2.2]) sk)/\Yi rIt 5 54 w3.heap.size wr M mc made/\w3.grownBy wr (some w.heap.size)) (fun _ iv _=>K-(intOf iv).toNat)
 case atStart=>exact⟨0,none,0,[],s,qa,qb,qc,qd,by omega,rfl,rfl,rfl,rfl,g1.out,H3.out,fun h=>by omega,Yi.nil _ _ _ _ _,Xb _ _⟩
 case round =>
  obtain⟨k,M,mc,made,sk,pa,pb,pc,pd,hk,rfl,rfl,hml,hmk,hbx,hsto,hnew,hrow,hgr⟩:=hrel;replace hmk:=Za hmk;replace hnew:=Za hnew;replace hgr:=Za hgr;by_cases hlt:k<K
  case neg =>
   have hkK:k=K:=by omega
   subst hkK;have hst4:=hnew.out hP0;have hbe:Hid (Zq s lv L=(0,sk,made)):=Za (by rw[<- hbu.out,hmk.out,Po (by have:=hPl.out;omega)];rfl);have hBr:=Za (B3.out.grown hgr.out B3.out.size (fun q e=>by cases e;exact Qb _));obtain⟨mm,hmm⟩:∃ q,made.length=q:=⟨_,rfl⟩
   rw[hmm] at hml;have g4:=Za hbx;have h4:=Za hst4;have row4:=Za hrow;have hlt34:=Za (show w3.heap.size<=wr.heap.size from hgr.out.size);rw[hmm];have hm1':=hm1;replace hmm:=Za hmm;replace hml:=Za hml;clear hsto hnew hst4 hbx hrow hmk hlt
   go_wp2_with fail
   go_loopw [9,48] (fun mv iv wz=>∃ (j:Nat) (sz:Rm) (ra rb rc rd:Option Qam×Nat×Nat),j<=m/\mv=.slice M mm mc/\iv=.int .i64 (j:Int)/\Zkl F sk=Zkl (F.drop j) sz/\wz.heap[w.heap.size]? = some (.cells #[.slice ra.1 ra.2.1 ra.2.2,.slice rb.1 rb.2.1 rb.2.2,.slice rc.1 rc.2.1 rc.2.2,.slice rd.1 rd.2.1 rd.2.2] 29 (0,0)) /\
    Sto (New w3.heap.size wz) wz (.agg #[.slice ra.1 ra.2.1 ra.2.2,.slice rb.1 rb.2.1 rb.2.2,.slice rc.1 rc.2.1 rc.2.2,.slice rd.1 rd.2.1 rd.2.2]) sz/\Yi rIt 5 54 w3.heap.size wz M mc made/\w3.grownBy wz (some w.heap.size)) (fun _ iv _=>m-(intOf iv).toNat)
   case atStart=>exact⟨0,sk,pa,pb,pc,pd,by omega,rfl,rfl,rfl,g4.out,h4.out,row4.out,hgr.out⟩
   case round =>
    obtain⟨j,sz,ra,rb,rc,rd,hj,rfl,rfl,hlo,hbz,hsz,hrz,hgz⟩:=hrel;replace hlo:=Za hlo;replace hgz:=Za hgz;replace hrz:=Za hrz;have hBz:=Za (B3.out.grown hgz.out B3.out.size (fun q e=>by cases e;exact Qb _));have hlt3z:=Za (show w3.heap.size<=wr.heap.size from hgz.out.size);obtain⟨k0,k1,k2,k3,kf,kg⟩:=Ze hbz;by_cases hjm:j<m
    case neg =>
     have hjm':j=m:=by omega
     subst hjm';have hlay:Hid (Uj s lv L F=(0,sz,made)):=Za (Z94 hbe.out (by rw[hlo.out,Po (by rw[hm.out];exact Qb _)];rfl));have bW:=(hgz.out.block w1.heap.size (by have:=s3.out;have:=SZ.out;omega) (by have:=SZ.out;intro e;have:=Option.some.inj e;omega)).trans g2.out;obtain⟨W9,e9,g9,gr9,_⟩:=Zu (a':=.slice ra.1 ra.2.1 ra.2.2) (b':=.slice rb.1 rb.2.1 rb.2.2) (c':=.slice rc.1 rc.2.1 rc.2.2) (d':=.slice rd.1 rd.2.1 rd.2.2) bW;obtain⟨n0,n1,n2,n3,_⟩:=Ze g9;obtain⟨y0,y1,y2,y3,yf,_⟩:=Ze bW;have hq1:∀ q,(some w1.heap.size:Option Nat)=some q->q<w3.heap.size:=fun q e=>by cases e;have:=s3.out;have:=SZ.out;omega
     have hfin:Hid (Z92 s lv L F w (.returned (.tuple #[.agg #[.slice ra.1 ra.2.1 ra.2.2,.slice rb.1 rb.2.1 rb.2.2,.slice rc.1 rc.2.1 rc.2.2,.slice rd.1 rd.2.1 rd.2.2],.slice M mm mc,.int .i64 0])) W9):=Za ⟨ra,rb,rc,rd,M,mc,by rw[hlay.out,hmm.out],by rw[hlay.out];exact(hsz.grown gr9 hq1).new B3.out.size (Qc _ _),by rw[hlay.out];exact(hrz.out.grown Z0 gr9 hq1).low Z0 B3.out.size,hBz.out.grown gr9 (by have:=hlt3z.out;have:=B3.out.size;omega) (fun q e=>by cases e;have:=SZ.out;omega)⟩;replace g9:=Za g9;replace bW:=Za bW;replace hbz:=Za hbz;replace hsz:=Za hsz;clear gr9 hzero
     go_wp2_with fail
     exact Qao (v:=.tuple #[.agg #[.slice ra.1 ra.2.1 ra.2.2,.slice rb.1 rb.2.1 rb.2.2,.slice rc.1 rc.2.1 rc.2.2,.slice rd.1 rd.2.1 rd.2.2],.slice M mm mc,.int .i64 0]) (by simp[results,Tryz.results76,go_sem,n0,n1,n2,n3]) rfl hfin.out
    obtain⟨x,hx⟩:∃ x,F[j]? = some x:=⟨_,Qh (by rw[hm.out];exact hjm)⟩
    have hst:=Zy0 (s:=sz) hx;obtain⟨ad5,E5,ce5,rfl,_,⟨z0,z1,z2,z3,z4⟩,_⟩:=Zao (Xa.old HF.out hBz.out) hx;have hLo:=Za (fun v W hW=>Zi5 v sz x.2.1 W hW);obtain⟨z,hzz⟩:∃ z,x.2.1=z:=⟨_,rfl⟩
    obtain⟨w5,hw5,-,-,-,y3,-,hs5,hB5,g5⟩:=Z9 wr (.int .u8 (x.1.1.toNat:Int)) (.int .u32 x.1.2.1) (.int .u32 x.1.2.2) (.int .i64 x.2.1) (.slice E5 x.2.2.length ce5) 54;rw[hzz] at z3 hst hLo hw5 y3 g5;have i4:(0:Int)<=(j:Int):=by omega
    have i5:(j:Int)<(m:Int):=by omega
    have i9:IntKind.i64.wrap ((j:Int)+1)=((j+1:Nat):Int):=by rw[IntKind.wrap_i64];omega
    have S5:=Za (hsz.new (Qb _) hB5);have R5:=Za (hrz.out.below Z0 hB5);have G5:=Za (V6 hgz.out hB5);have hbz5:=(hB5.block w.heap.size kg).trans hbz;have lt5:=Za (show wr.heap.size<w5.heap.size by omega);replace hs5:=Za hs5;replace hx:=Za hx;replace hzz:=Za hzz;replace hsz:=Za hsz;have hbzh:=Za hbz;clear hbz hB5
    go_upto_region 13 with fail
    clear hw5 z0 z1 z2 z3 z4 k0 k1 k2 k3 kf;obtain⟨k0,k1,k2,k3,kf,kg5⟩:=Ze hbz5;by_cases hz0:z=0
    ·have hn:Hid (Zkl F sk=Zkl (F.drop (j+1)) sz):=Za (by rw[hlo.out,hst,if_pos hz0])
     subst hz0;have hbz5h:=Za hbz5;clear hst hbz5 hLo hzero
     go_wp2_with fail
     go_roundw
     case rel=>exact⟨j+1,sz,ra,rb,rc,rd,by omega,rfl,by go_num,hn.out,hbz5h.out,S5.out,R5.out,G5.out⟩
     case measure=>simp[intOf];omega
    have hz1:(z==0)=false:=by simpa using hz0
    rw[if_neg hz0] at hst;obtain⟨er,her⟩:∃ q,asE sz z=q:=⟨_,rfl⟩
    obtain⟨V,hV⟩:∃ q,loV sz z=q:=⟨_,rfl⟩
    rw[her,hV] at hst hLo;replace her:=Za her;replace hV:=Za hV;replace hz0:=Za hz0;have hbz5h:=Za hbz5;clear hbz5
    go_wp2_with fail
    with_reducible refine(hLo.out _ _ S5.out.drop).mono ?_
    rintro e w6 ⟨va,vb,vc,vd,rfl,h6,hb6⟩;obtain⟨w7,hw7,g7,gr7,gs7⟩:=Zu (a':=.slice va.1 va.2.1 va.2.2) (b':=.slice vb.1 vb.2.1 vb.2.2) (c':=.slice vc.1 vc.2.1 vc.2.2) (d':=.slice vd.1 vd.2.1 vd.2.2) ((hb6.block w.heap.size kg5).trans hbz5h.out);obtain⟨m0,m1,m2,m3,mf,mg⟩:=Ze ((hb6.block w.heap.size kg5).trans hbz5h.out);have gr7':Hid (w3.grownBy w7 (some w.heap.size)):=Za (Yx (V6 G5.out hb6) gr7);have hq:∀ q,(some w.heap.size:Option Nat)=some q->q<w3.heap.size:=fun q e=>by cases e;have:=s3.out;have:=SZ.out;omega
    have h7:Hid (Sto (New w3.heap.size w7) w7 (.agg #[.slice va.1 va.2.1 va.2.2,.slice vb.1 vb.2.1 vb.2.2,.slice vc.1 vc.2.1 vc.2.2,.slice vd.1 vd.2.1 vd.2.2]) V):=Za ((h6.grown gr7 (fun q e=>Qf (hq q e) (by have:=lt5.out;have:=hlt3z.out;omega))).new (by have:=lt5.out;have:=hlt3z.out;omega) (Qc _ _));have R7:=Za ((R5.out.below Z0 hb6).grown Z0 gr7 hq);have g7h:=Za g7;replace gs7:=Za gs7;clear h6 hb6 gr7 g7 hLo k0 k1 k2 k3 kf y3 g5
    go_upto_region 15 with fail
    by_cases he0:er=0
    ·have hn:Hid (Zkl F sk=Zkl (F.drop (j+1)) V):=Za (by rw[hlo.out,hst,if_pos he0])
     subst he0;clear hst hzero
     go_wp2_with fail
     go_roundw
     case rel=>exact⟨j+1,V,va,vb,vc,vd,by omega,rfl,by go_num,hn.out,g7h.out,h7.out,R7.out,gr7'.out⟩
     case measure=>simp[intOf];omega
    ·have t0:(er != 0)=true:=by simpa using he0
     have hE:Uj s lv L F=(er,Zi,[]):=Ycq hbe.out (by rw[hlo.out,hst,if_neg he0]) he0;obtain⟨W9,e9,n0,n1,n2,n3,u0,u1,u2,u3,uf,hfin⟩:=hzero.out er w7 hE gr7'.out;replace hfin:=Za hfin;replace he0:=Za he0;clear hst hzero hE
     go_wp2_with fail
     exact Qao (v:=.tuple #[.agg #[.slice none 0 0,.slice none 0 0,.slice none 0 0,.slice none 0 0],.slice none 0 0,.int .i64 er]) (by simp[results,Tryz.results76,go_sem,n0,n1,n2,n3]) rfl hfin.out
  obtain⟨l,hl⟩:∃ l,P[k]? = some l:=⟨_,Qh (by have:=hPl.out;omega)⟩
  obtain⟨ad,dl,hpk,hits,hl0⟩:=hpv.out k l hl;have hst:=Z4q (lv:=lv) (s:=sk) (M:=made) hl;have i1:(0:Int)<=(k:Int):=by omega
  have i2:(k:Int)<(K:Int):=by omega
  have hBr:=Za (B3.out.grown hgr.out B3.out.size (fun q e=>by cases e;exact Qb _));have cPk:wr.cell? ⟨w2.heap.size,k,none⟩=some (.slice (some ad) l.length dl):=by
   rw[Qe (hgr.out.block w2.heap.size s3.out (by have:=SZ.out;intro e;have:=Option.some.inj e;omega)),cell_of_row w3 _ k _ _ _ hg3.out]
   simpa using hpk
  have hitr:=Xa.old hits hBr.out;obtain⟨x0,r0,hx0⟩:∃ x0 r0,l=x0::r0:=by
   cases l with
   | nil=>simp at hl0
   | cons y r=>exact⟨y,r,rfl⟩
  have hx:l[0]? = some x0:=by rw[hx0];rfl
  obtain⟨ad0,E0,ce0,e0,_,⟨z0,z1,z2,_,_⟩,hit0,_⟩:=Zao hitr hx;cases e0;have hkey:Znt l=x0.1:=by rw[hx0];rfl
  have hNod:Nod (Old wr) wr (.agg #[.int .i64 lv,.slice (some ad) l.length dl]) (lv,l):=⟨_,rfl,hlv.out,hitr⟩
  have HM:=Za (Zg0 (.agg #[.slice pa.1 pa.2.1 pa.2.2,.slice pb.1 pb.2.1 pb.2.2,.slice pc.1 pc.2.1 pc.2.2,.slice pd.1 pd.2.1 pd.2.2]) _ sk (lv,l) wr hsto hNod);obtain⟨k0,k1,k2,k3,kf,kg⟩:=Ze hbx;obtain⟨ln,hln⟩:∃ q,l.length=q:=⟨_,rfl⟩
  obtain⟨mkn,hmkn⟩:∃ q,mkN sk (lv,l)=q:=⟨_,rfl⟩
  obtain⟨mke,hmke⟩:∃ q,mkE sk (lv,l)=q:=⟨_,rfl⟩
  obtain⟨V,hV⟩:∃ q,mkV sk (lv,l)=q:=⟨_,rfl⟩
  rw[hln] at cPk hl0 HM;rw[hmkn,hmke,hV] at HM hst;have hitr':=Za hitr;have hbx':=Za hbx;have i3:(0:Int)<(ln:Int):=by omega
  have z0':wr.cell? ad=some (.int .u8 (x0.1.1.toNat:Int)):=by simpa [Addr.add] using z0
  have z1':wr.cell? ⟨ad.block,ad.off+1,none⟩=some (.int .u32 x0.1.2.1):=by simpa [Addr.add] using z1
  have z2':wr.cell? ⟨ad.block,ad.off+2,none⟩=some (.int .u32 x0.1.2.2):=by simpa [Addr.add] using z2
  have zlt:ad.block<wr.heap.size:=P7 _ _ z0'
  have zold:Hid (ad.block≠w.heap.size):=Za (by
   obtain⟨_,_,e,_,_,h4⟩:=hits;cases e;obtain⟨_,vs,e,hv5,hh,_⟩:=h4 0 _ hx;cases e;obtain⟨v,hv⟩:∃ v,vs[0]? = some v:=⟨_,Qh (by omega)⟩
   have:=(hh 0 v hv).1;unfold Old at this;rw[Zh] at this
   omega)
  have hin0:=Za (show InK x0.1 from by
   obtain⟨_,_,hi,_⟩:=hit0
   exact hi.key)
  replace hsto:=Za hsto;replace hl:=Za hl;replace hpk:=Za hpk;replace hln:=Za hln;replace hmkn:=Za hmkn;replace hmke:=Za hmke;replace hV:=Za hV;replace hrow:=Za hrow;replace hml:=Za hml;replace hx0:=Za hx0;replace hkey:=Za hkey;clear hits hitr hNod hit0 z0 z1 z2 hx hbx
  go_wp2_with fail
  with_reducible refine(HM.out).mono ?_
  rintro e w4 ⟨va,vb,vc,vd,rfl,h4,hb4⟩;obtain⟨w5,hw5,g5,gr5,gs5⟩:=Zu (a':=.slice va.1 va.2.1 va.2.2) (b':=.slice vb.1 vb.2.1 vb.2.2) (c':=.slice vc.1 vc.2.1 vc.2.2) (d':=.slice vd.1 vd.2.1 vd.2.2) ((hb4.block w.heap.size kg).trans hbx'.out);obtain⟨m0,m1,m2,m3,mf,mg⟩:=Ze ((hb4.block w.heap.size kg).trans hbx'.out);obtain⟨n0,n1,n2,n3,nf,ng⟩:=Ze g5;have hlt34:=Za (show w3.heap.size<=wr.heap.size from hgr.out.size);have gr45:Hid (w3.grownBy w5 (some w.heap.size)):=Za (Yx (V6 hgr.out hb4) gr5);have h5r:Hid (Sto (New wr.heap.size w5) w5 (.agg #[.slice va.1 va.2.1 va.2.2,.slice vb.1 vb.2.1 vb.2.2,.slice vc.1 vc.2.1 vc.2.2,.slice vd.1 vd.2.1 vd.2.2]) V):=Za (h4.grown gr5 (fun q e=>by cases e;exact kg));have hMlt:Hid (∀ q,M.map (·.block)=some q->q<wr.heap.size):=Za fun q e=>by
   obtain⟨cs,ho,_⟩:=hrow.out;exact(ho.lt q (by rw[<- e];cases M <;> rfl)).2
  have h5:Hid (Sto (New w3.heap.size w5) w5 (.agg #[.slice va.1 va.2.1 va.2.2,.slice vb.1 vb.2.1 vb.2.2,.slice vc.1 vc.2.1 vc.2.2,.slice vd.1 vd.2.1 vd.2.2]) V):=Za (by
   have h4':=h4.grown gr5 (fun q e=>by cases e;have:=hlt34.out;have:=s3.out;have:=SZ.out;omega)
   exact h4'.new hlt34.out (Qc _ _))
  have row5:=Za ((hrow.out.below Z0 hb4).grown Z0 gr5 (fun q e=>by cases e;have:=s3.out;have:=SZ.out;omega));have y0:w5.cell? ad=some (.int .u8 (x0.1.1.toNat:Int)):=(Qe (gr5.block ad.block (Qf zlt hb4.size) (fun e=>zold.out (Option.some.inj e)))).trans ((hb4.cell zlt).trans z0');have y1:w5.cell? ⟨ad.block,ad.off+1,none⟩=some (.int .u32 x0.1.2.1):=(Qe (a:=⟨ad.block,ad.off+1,none⟩) (gr5.block ad.block (Qf zlt hb4.size) (fun e=>zold.out (Option.some.inj e)))).trans ((hb4.cell (p:=⟨ad.block,ad.off+1,none⟩) zlt).trans z1');have y2:w5.cell? ⟨ad.block,ad.off+2,none⟩=some (.int .u32 x0.1.2.2):=(Qe (a:=⟨ad.block,ad.off+2,none⟩) (gr5.block ad.block (Qf zlt hb4.size) (fun e=>zold.out (Option.some.inj e)))).trans ((hb4.cell (p:=⟨ad.block,ad.off+2,none⟩) zlt).trans z2');replace gr5:=Za gr5;replace g5:=Za g5;replace gs5:=Za gs5;replace mf:=mf;clear z0' z1' z2' hb4 h4 HM k0 k1 k2 k3 kf hitr'
  go_upto_region 6 with fail
  by_cases hme:mke=0
  case neg =>
   have t0:(mke != 0)=true:=by simpa using hme
   have hE:Uj s lv L F=(mke,Zi,[]):=by
    rw[if_neg hme] at hst;exact Yci (by rw[<- hbu.out,hmk.out,hst]) hme
   obtain⟨W9,e9,k0,k1,k2,k3,u0,u1,u2,u3,uf,hfin⟩:=hzero.out mke w5 hE gr45.out;replace hfin:=Za hfin;replace hme:=Za hme;clear hst hzero hE
   go_wp2_with fail
   exact Qao (v:=.tuple #[.agg #[.slice none 0 0,.slice none 0 0,.slice none 0 0,.slice none 0 0],.slice none 0 0,.int .i64 mke]) (by simp[results,Tryz.results76,go_sem,k0,k1,k2,k3]) rfl hfin.out
  subst hme;rw[if_pos rfl] at hst;obtain⟨kk,ek,e8,e256,_⟩:=X0 hmke.out;rw[hmkn.out] at ek;have hin:InI (x0.1,mkn,[]):=⟨hin0.out,show Zkh mkn from ⟨by omega,by omega⟩⟩
  obtain⟨w6,hw6,-,-,-,-,-,hs6,hb6,b6⟩:=Z9 w5 (.int .u8 (x0.1.1.toNat:Int)) (.int .u32 x0.1.2.1) (.int .u32 x0.1.2.2) (.int .i64 mkn) (.slice none 0 0) 54;have row6:=row5.out.below Z0 hb6;obtain⟨A7,c7,w7,hr7,row7,gr7,hb7⟩:=Ztp row6 w5.heap.size (x0.1,mkn,[]) (.slice none 0 0) 1 made.length rfl b6 (by have:=hml.out;omega) (by have:=hlt34.out;have:=gr45.out.size;omega) hin (Zab _ _ none);have g7:Hid (w7.heap[w.heap.size]? = some (.cells #[.slice va.1 va.2.1 va.2.2,.slice vb.1 vb.2.1 vb.2.2,.slice vc.1 vc.2.1 vc.2.2,.slice vd.1 vd.2.1 vd.2.2] 29 (0,0))):=Za ((hb7.block w.heap.size (by have:=s3.out;have:=SZ.out;omega)).trans ((hb6.block w.heap.size ng).trans g5.out))
  have gr47:Hid (w3.grownBy w7 (some w.heap.size)):=Za (by
   have h46:=V6 gr45.out hb6
   refine⟨gr7.os.trans h46.os,gr7.tape.trans h46.tape,gr7.output.trans h46.output,Qa h46.size gr7.size,fun q hq hne=>(hb7.block q hq).trans (h46.block q hq hne)⟩)
  have h7:Hid (Sto (New w3.heap.size w7) w7 (.agg #[.slice va.1 va.2.1 va.2.2,.slice vb.1 vb.2.1 vb.2.2,.slice vc.1 vc.2.1 vc.2.2,.slice vd.1 vd.2.1 vd.2.2]) V):=Za (by
   have h6:=h5r.out.new (Qb _) hb6
   exact(h6.grown gr7 (fun q e=>hMlt.out q e)).new hlt34.out (Qc _ _))
  have hmk7:Hid (mkA lv s [] P=mkA lv V (made++[(x0.1,mkn,[])]) (P.drop (k+1))):=Za (by
   rw[hmk.out,hst]
   congr 3
   unfold upI
   rw[hkey.out])
  have H7:=Za hr7;have hl7:Hid ((made++[((x0.1,mkn,[]):It)]).length=k+1):=Za (by rw[Qi,hml.out];rfl);have hl8:Hid ((made++[((x0.1,mkn,[]):It)]).length=made.length+1):=Za (by rw[Qi];rfl);obtain⟨mm,hmm⟩:∃ q,made.length=q:=⟨_,rfl⟩
  rw[hmm] at H7 hl8;obtain⟨MM,hMM⟩:∃ q,made++[((x0.1,mkn,[]):It)]=q:=⟨_,rfl⟩
  rw[hMM] at row7 hmk7 hl7 hl8;replace hMM:=Za hMM;replace row7:=Za row7;replace hs6:=Za hs6;replace b6:=Za b6;replace ek:=Za ek;clear hin hr7 gr7 hb7 hb6 row6 hst hzero;rw[hmm];replace hmm:=Za hmm;have i9:IntKind.i64.wrap ((k:Int)+1)=((k+1:Nat):Int):=by rw[IntKind.wrap_i64];have:=hPl.out;omega
  go_wp2_with (at_builtin;refine Zp rfl _ _ _ rfl rfl rfl H7.out ?_;clear H7)
  go_roundw
  case rel=>exact⟨k+1,A7,c7,MM,V,va,vb,vc,vd,by omega,by go_num,by rw[hl8.out],hl7.out,hmk7.out,g7.out,h7.out.drop,fun _=>h7.out,row7.out,gr47.out⟩
  case measure=>simp[intOf];omega}
structure Vs (M:Nat->Prop) (o o':Option Nat) (W W':Qak):Prop where
 size:W.heap.size<=W'.heap.size
 same:∀ k,k<W.heap.size->¬ M k->o≠some k->W'.heap[k]? = W.heap[k]? /\ o'≠some k
theorem Vs.refl (M:Nat->Prop) (o:Option Nat) (W:Qak):Vs M o o W W:=⟨Qb _,fun _ _ _ h=>⟨rfl,h⟩⟩
theorem Vs.trans {M:Nat->Prop}{o o' q:Option Nat}{A B C:Qak}(h:Vs M o o' A B) (h':Vs M o' q B C):Vs M o q A C :=
 ⟨Qa h.size h'.size,fun k hk hm ho=>by
  obtain⟨e,n⟩:=h.same k hk hm ho;obtain⟨e',n'⟩:=h'.same k (Qf hk h.size) hm n
  exact⟨e'.trans e,n'⟩⟩
theorem Vs.grown {M:Nat->Prop}{o q:Option Nat}{A B C:Qak}{row:Option Nat}(h:Vs M o q A B) (hg:B.grownBy C row) (hr:∀ r,row=some r->A.heap.size<=r\/M r):Vs M o q A C :=
 ⟨Qa h.size hg.size,fun k hk hm ho=>by
  obtain⟨e,n⟩:=h.same k hk hm ho;refine⟨(hg.block k (Qf hk h.size) (fun e'=> ?_)).trans e,n⟩;rcases hr k e'.symm with h1 | h1
  ·omega
  ·exact hm h1⟩
theorem Vs.wide {M M':Nat->Prop}{o q:Option Nat}{A B:Qak}(h:Vs M o q A B) (hM:∀ k,k<A.heap.size->M k->M' k):Vs M' o q A B :=
 ⟨h.size,fun k hk hm ho=>h.same k hk (fun h1=>hm (hM k hk h1)) ho⟩
theorem Vs.row {M:Nat->Prop}{o q:Option Nat}{A B:Qak}{row:Option Nat}(hg:A.grownBy B row) (hr:∀ r,row=some r->o=some r\/M r) (hq:∀ r,q=some r->o=some r\/M r\/A.heap.size<=r):Vs M o q A B :=
 ⟨hg.size,fun k hk hm ho=>⟨hg.block k hk (fun e=>by
  rcases hr k e.symm with h | h
  ·exact ho h
  ·exact hm h),fun e=>by
  rcases hq k e with h | h | h
  ·exact ho h
  ·exact hm h
  ·omega⟩⟩
theorem Vs.cell {M:Nat->Prop}{o q:Option Nat}{A B:Qak}(h:Vs M o q A B){p:Qam}(hp:p.block<A.heap.size) (hm:¬ M p.block) (ho:o≠some p.block):B.cell? p=A.cell? p:=Qe (h.same _ hp hm ho).1
theorem Zhh {M:Nat->Prop}{o:Option Nat}{A:Qak}{B:Nat}{α:Type}(hB:A.heap.size<=B):OwnFrom B (fun(s:α×Option Nat) W=>Vs M o s.2 A W) :=
 fun _ _ _ _ hs hg hr=>hs.grown hg fun r e=>.inl (Qa hB (hr r e).1)
theorem Z5 {W W':Qak}(h:Qat W.heap.size W W'):W.grownBy W' none:=⟨h.os,h.tape,h.output,h.size,fun k hk _=>h.block k hk⟩
theorem Vs.below {M:Nat->Prop}{o:Option Nat}{W W':Qak}(h:Qat W.heap.size W W'):Vs M o o W W':=⟨h.size,fun k hk _ ho=>⟨h.block k hk,ho⟩⟩
def Z6l {α:Type}(M:Nat->Prop) (J Jx:List α×Option Nat->Qak->Prop) (xs:List α) (o:Option Nat) (W:Qak):Qas->Qak->Prop:=fun e W' =>
 ∃ o',Vs M o o' W W'/\((e=.returned (.bool true)/\J (xs,o') W')\/(e=.returned (.bool false)/\Jx (xs,o') W'))
def Yb1 {α:Type}(P:Program) (g:Nat) (lb:Array Qal) (encs:α->Array Qal) (T:Nat->List α->α->Option Nat->Qak->Prop) (End:List α->Prop) (Z:Nat->Prop) (w:Qak):Prop :=
 ∀ (l:Nat) (M:Nat->Prop) (J Jx:List α×Option Nat->Qak->Prop) (o:Option Nat) (W:Qak),Qat w.heap.size w W->OwnFrom W.heap.size J->OwnFrom W.heap.size Jx ->
  (∀ k,M k->k<W.heap.size)->(∀ s W1,J s W1->W.heap.size<=W1.heap.size/\∀ k,s.2=some k->k<W1.heap.size)->(∀ k,Z k->¬ M k/\o≠some k) ->
  (∀ pre q x W1,J (pre,q) W1->T W.heap.size pre x q W1->YieldAt Fence.wide 0 P l (encs x) W1 (Z6l M J Jx (pre++[x]) q W1)) ->
  J ([],o) W->Qar P g (#[.func (.yield l) #[] #[]]++lb) W fun e W'=>(∃ v,e=.returned v)/\((∃ xs q,End xs/\J (xs,q) W')\/(∃ pre q,Jx (pre,q) W'))
theorem Zxg {P:Program}{l f l' m:Nat}{tmps:Array Qal}{assign body:Code}{w:Qak}{R:Qas->Qak->Prop}(h:RoundIn Fence.wide 0 P l f tmps assign body w R):RoundIn (Fence.wide.inRound l') m P l f tmps assign body w R :=
 ⟨h.1,fun c cs _=>h.2 c cs (room_wide _)⟩
theorem Zha {P:Program}{l f m:Nat}{tmps:Array Qal}{assign body:Code}{w:Qak}{R:Qas->Qak->Prop}(h:RoundIn Fence.wide 0 P l f tmps assign body w R):RoundIn Fence.wide m P l f tmps assign body w R :=
 ⟨h.1,fun c cs _=>h.2 c cs (room_wide _)⟩
def Z4m {α:Type}(M:Nat->Prop) (I:List α×Option Nat->Qak->Prop) (Ix:Code->List α×Option Nat->Qak->Prop) (xs:List α) (o:Option Nat) (W:Qak):Exit->Act->Qak->Prop
 | .normal,_,W'=>∃ q,Vs M o q W W'/\I (xs,q) W'
 | .ret,_,W'=>∃ q,Vs M o q W W'/\Ix .ret (xs,q) W'
 | .exit id,_,W'=>∃ q,Vs M o q W W'/\Ix (.exit id) (xs,q) W'
 | .goto t,_,W'=>∃ q,Vs M o q W W'/\Ix (.goto t) (xs,q) W'
 | .panic _,_,_=>False
 | .outgrown,_,_=>False
theorem Zxh {α:Type}{P:Program}{M:Nat->Prop}{I J Jx:List α×Option Nat->Qak->Prop}{B D L:Nat}{rec:LoopState->Option Code->Loop}(hrec:∀ s c,{ rec s c with state:=.ready,pending:=none }=rec .ready none/\∀ s' c',{ rec s c with state:=s',pending:=c' }=rec s' c')
  {W W':Qak} {xs:List α} {o q:Option Nat} (jump:Option Code) (hL:W.heap[L]? = some (.loop (rec .busy none))) (hD:W.heap[D]? = some (.deferred (some []))) (hDL:D≠L) (hBL:B<=L) (hML:¬ M L) (hMD:¬ M D) (hoL:o≠some L) (hoD:o≠some D)
  (hk:Vs M o q W W') (hI:OwnFrom B I) (hi:I (xs,q) W')
  (hfin:∀ W2,I (xs,q) W2->W2.heap[L]? = some (.loop (rec (if jump.isNone then .ready else .done) jump))->W2.heap[D]? = some (.deferred (some []))->q≠some L->q≠some D->if jump.isNone then J (xs,q) W2 else Jx (xs,q) W2) :
  ∃ v W2,(Instr.endRound L jump).run P W'=.ok v W2/\Vs (fun k=>M k\/k=L) o q W W2/\((v=.bool true/\J (xs,q) W2)\/(v=.bool false/\Jx (xs,q) W2)):=by{
 obtain⟨e1,n1⟩:=hk.same L (Qd.1 hL).1 hML hoL;obtain⟨e2,n2⟩:=hk.same D (Qd.1 hD).1 hMD hoD;have hL3:=e1.trans hL;have hD3:=e2.trans hD;have hrun:=run_endRound (P:=P) jump hL3;rw[(hrec .busy none).2] at hrun;have hf:=hfin _ (hI.putObj (.loop (rec (if jump.isNone then .ready else .done) jump)) hi hBL hL3 rfl) (P8 (Qd.1 hL3).1) ((Pb hDL).trans hD3) n1 n2;refine⟨_,_,hrun,?_,?_⟩
 ·exact(hk.wide fun _ _ h=>.inl h).grown (grownBy_putObj' _ _ _) fun r e=>by cases e;exact .inr (.inr rfl)
 ·cases jump with
  | none=>exact .inl ⟨rfl,by simpa using hf⟩
  | some c=>exact .inr ⟨rfl,by simpa using hf⟩}
theorem Za1 {α:Type}{P:Program}{g:Operand}{ps:Array Tmp}{assign body:Code}{Q:Exit->Act->Qak->Prop}{a:Act}{w:Qak}{m:Nat}{gf:Nat}{lb:Array Qal}
  (hg:a.eval g=.func (.func gf) #[] lb) (eg:∀ args w,(callFunc gf args).run P w=.ok (.enter gf args) w)
  {encs:α->Array Qal} {T:Nat->List α->α->Option Nat->Qak->Prop} {End:List α->Prop} {Z:Nat->Prop} (hseq:Yb1 P gf lb encs T End Z w) (hps:∀ x,(encs x).size=ps.size)
  (M:Nat->Prop) (hM:∀ k,M k->k<w.heap.size) (o:Option Nat) (hZ:∀ k,Z k->k<w.heap.size/\¬ M k/\o≠some k)
  (I:List α×Option Nat->Qak->Prop) (Ix:Code->List α×Option Nat->Qak->Prop) (hI:OwnFrom w.heap.size I) (hIx:∀ c,OwnFrom w.heap.size (Ix c)) (hIo:∀ s W,I s W->∀ k,s.2=some k->k<W.heap.size) (h0:I ([],o) w)
  (Ax:α->Act->Qak->Prop) (hAx:∀ x a',OwnFrom w.heap.size (fun(_:Unit) W=>Ax x a' W)) (hT:∀ pre x q,OwnFrom w.heap.size (fun(_:Unit) W=>T (w.heap.size+2) pre x q W))
  (hassign:∀ (l:Nat) (pre:List α) (q:Option Nat) (x:α) (W:Qak) (K:Act->Qak->Prop),I (pre,q) W->T (w.heap.size+2) pre x q W->(∀ a' W',W.grownBy W' none->Ax x a' W'->K a' W') ->
   assign.wpIn (Fence.wide.inRound l) 0 P (Exit.then K (fun _ _ _=>False)) { tmps:=(ps.zip (encs x)).foldl (fun t (p,v)=>t.setIfInBounds p v) a.tmps,defers:=[] } W)
  (hbody:∀ (l:Nat) (pre:List α) (q:Option Nat) (x:α) (a':Act) (W:Qak),w.heap.size+2<=W.heap.size->I (pre,q) W->Ax x a' W->T (w.heap.size+2) pre x q W->body.wpIn (Fence.wide.inRound l) 0 P (Z4m M I Ix (pre++[x]) q W) a' W)
  (hdone:∀ (xs:List α) (q:Option Nat) (W:Qak),w.heap.size<W.heap.size->End xs->I (xs,q) W->W.heap[w.heap.size]? = some (.deferred (some []))->q≠some w.heap.size->Q .normal { a with defers:={ target:=.collected w.heap.size,args:=#[] }::a.defers } W)
  (hstop:∀ (c:Code) (pre:List α) (q:Option Nat) (W:Qak),w.heap.size<W.heap.size->Ix c (pre,q) W->W.heap[w.heap.size]? = some (.deferred (some []))->q≠some w.heap.size->c.wpIn Fence.wide m P Q { a with defers:={ target:=.collected w.heap.size,args:=#[] }::a.defers } W) :
  (Code.rangeFunc g ps assign body).wpIn Fence.wide m P Q a w:=by{
 refine wpIn_rangeFunc fun fn hfn=> ?_
 obtain⟨rec,hrec⟩:∃ rec:LoopState->Option Code->Loop,rec=fun st pe=>{ state:=st,pending:=pe,fn,tmps:=a.tmps,params:=ps,assign,body,defers:=w.heap.size }:=⟨_,rfl⟩
 have hrec':∀ s c,{ rec s c with state:=.ready,pending:=none }=rec .ready none/\∀ s' c',{ rec s c with state:=s',pending:=c' }=rec s' c':=fun s c=>by rw[hrec];exact⟨rfl,fun _ _=>rfl⟩
 obtain⟨D,hDe⟩:∃ D,w.heap.size=D:=⟨_,rfl⟩
 obtain⟨V,hV⟩:∃ V,(w.alloc (.deferred (some []))).alloc (.loop (rec .ready none))=V:=⟨_,rfl⟩
 have hVs:V.heap.size=D+2:=by rw[<- hV,<- hDe];simp
 have hVL:V.heap[D+1]? = some (.loop (rec .ready none)):=by
  rw[<- hV,<- hDe];have:=P9 (w.alloc (.deferred (some []))) (.loop (rec .ready none))
  rwa [Pa] at this
 have hVD:V.heap[D]? = some (.deferred (some [])):=by
  rw[<- hV,<- hDe];exact(Q7 _ _ _ (by simp)).trans (P9 w _)
 have hVb:Qat w.heap.size w V:=by rw[<- hV];exact((Qc _ w).alloc (Qb _) _).alloc (by simp) _
 have hVI:I ([],o) V:=by rw[<- hV];exact hI.alloc _ (hI.alloc _ h0)
 have hoD:o≠some D/\o≠some (D+1):=⟨fun e=>by have:=hIo _ _ h0 D e;omega,fun e=>by have:=hIo _ _ h0 (D+1) e;omega⟩
 have hMD:¬ M D/\¬ M (D+1):=⟨fun e=>by have:=hM _ e;omega,fun e=>by have:=hM _ e;omega⟩
 have hnw:∀ {A:Qak} {row:Option Nat},(∀ r,row=some r->V.heap.size<=r/\∃ o:Obj,A.heap[r]? = some o/\o.isCells=false)->∀ r,row=some r->w.heap.size<=r/\∃ o:Obj,A.heap[r]? = some o/\o.isCells=false :=
  fun hr r e=>⟨by have:=(hr r e).1;omega,(hr r e).2⟩
 have hkeep:∀ {A B:Qak} {row:Option Nat} {k:Nat} {x:Obj},A.grownBy B row->(∀ r,row=some r->V.heap.size<=r/\∃ o:Obj,A.heap[r]? = some o/\o.isCells=false)->k<D+2->A.heap[k]? = some x->B.heap[k]? = some x:=fun {A B row k x} hg' hr hk hx =>
  (hg'.block k (Qd.1 hx).1 (fun e=>by have:=(hr k e.symm).1;omega)).trans hx
 refine⟨D+1,[{ target:=.collected D,args:=#[] }],V,{ target:=.fn (.func gf) lb,args:=#[.func (.yield (D+1)) #[] #[]] },V,gf,#[.func (.yield (D+1)) #[] #[]]++lb,V,?_,?_,fun _ _=>trivial,?_,fun h=>(by cases h),?_⟩
 ·rw[<- hV,hrec,<- hDe]
  exact run_enterLoop_outer _ _ _ _ _
 ·simp only[resolve,hg]
  simp[go_sem]
 ·simp[invoke,go_sem,eg]
 refine callsIn_wide.2 ((hseq (D+1) (fun k=>M k\/k=D+1)
  (fun s W=>(I s W/\V.heap.size<=W.heap.size)/\(W.heap[D+1]? = some (.loop (rec .ready none))/\W.heap[D]? = some (.deferred (some [])))/\s.2≠some (D+1)/\s.2≠some D)
  (fun s W=>∃ c,(Ix c s W/\V.heap.size<=W.heap.size)/\(W.heap[D+1]? = some (.loop (rec .done (some c)))/\W.heap[D]? = some (.deferred (some [])))/\s.2≠some (D+1)/\s.2≠some D) o V hVb ?_ ?_ ?_ ?_ ?_ ?_ ⟨⟨hVI,Qb _⟩,⟨hVL,hVD⟩,hoD.2,hoD.1⟩).mono ?_)
 ·intro s A B row hs hg' hr
  exact⟨⟨hI s A B row hs.1.1 hg' (hnw hr),Qa hs.1.2 hg'.size⟩,⟨hkeep hg' hr (by omega) hs.2.1.1,hkeep hg' hr (by omega) hs.2.1.2⟩,hs.2.2⟩
 ·rintro s A B row ⟨c,hs⟩ hg' hr
  exact⟨c,⟨hIx c s A B row hs.1.1 hg' (hnw hr),Qa hs.1.2 hg'.size⟩,⟨hkeep hg' hr (by omega) hs.2.1.1,hkeep hg' hr (by omega) hs.2.1.2⟩,hs.2.2⟩
 ·rintro k (h | h)
  ·have:=hM k h
   omega
  ·omega
 ·intro s W1 hs
  exact⟨hs.1.2,hIo s W1 hs.1.1⟩
 ·intro k hk
  obtain⟨h1,h2,h3⟩:=hZ k hk;exact⟨fun h=>h.elim h2 fun e=>by omega,h3⟩
 ·
  rintro pre q x W ⟨⟨hi,hsz⟩,⟨hl,hd⟩,nL,nD⟩ htold;rw[hVs] at htold hsz;rw[<- hDe] at htold;have hy:=run_yield (P:=P) (args:=encs x) hl (by rw[hrec];exact hps x);rw[hrec] at hy;refine⟨fn,_,assign,body,hy,roundIn_of_wpIn hfn (hassign _ pre q x W _ hi htold fun a' Wa hga hax=> ?_)⟩;clear hy;have hla:Wa.heap[D+1]? = some (.loop (rec .ready none)):=(hga.block _ (Qd.1 hl).1 (by simp)).trans hl;have hda:Wa.heap[D]? = some (.deferred (some [])):=(hga.block _ (Qd.1 hd).1 (by simp)).trans hd;have hia:=hI _ _ _ none hi hga (by simp);have hta:=hT pre x q () _ _ none htold hga (by simp);have hbeg:=run_beginRound (P:=P) hla (by rw[hrec]);rw[show ({ rec .ready none with state:=.busy }:Loop)=rec .busy none by rw[hrec]] at hbeg;refine⟨_,hbeg,?_⟩;have hlb:=(P8 (w:=Wa) (o:=.loop (rec .busy none)) (Qd.1 hla).1)
  have hdb:=(Pb (w:=Wa) (r:=D+1) (k:=D) (o:=.loop (rec .busy none)) (by omega)).trans hda;have hib:=hI.putObj (.loop (rec .busy none)) hia (by omega:w.heap.size<=D+1) hla rfl;have haxb:=(hAx x a').putObj (s:=()) (.loop (rec .busy none)) hax (by omega:w.heap.size<=D+1) hla rfl;have htb:=(hT pre x q).putObj (s:=()) (.loop (rec .busy none)) hta (by omega:w.heap.size<=D+1) hla rfl;have hkb:Vs (fun k=>M k\/k=D+1) q q W (Wa.putObj (D+1) (.loop (rec .busy none))):=((Vs.refl _ _ _).grown hga (by simp)).grown (grownBy_putObj' _ _ _) fun r e=>by cases e;exact .inr (.inr rfl)
  have hszb:w.heap.size+2<=(Wa.putObj (D+1) (.loop (rec .busy none))).heap.size:=by rw[Pp];have:=hga.size;omega
  refine wpIn_mono (hbody _ pre q x a' _ hszb hib haxb htb) ?_;have fin:∀ (jump:Option Code) (Y:List α×Option Nat->Qak->Prop) (q':Option Nat) (W3:Qak),OwnFrom w.heap.size Y->Y (pre++[x],q') W3->Vs M q q' (Wa.putObj (D+1) (.loop (rec .busy none))) W3->(match jump with | none=>Y=I | some c=>Y=Ix c) ->
    ∃ v W4,(Instr.endRound (D+1) jump).run P W3=.ok v W4/\Z6l (fun k=>M k\/k=D+1) (fun s W=>(I s W/\V.heap.size<=W.heap.size)/\(W.heap[D+1]? = some (.loop (rec .ready none))/\W.heap[D]? = some (.deferred (some [])))/\s.2≠some (D+1)/\s.2≠some D)
     (fun s W=>∃ c,(Ix c s W/\V.heap.size<=W.heap.size)/\(W.heap[D+1]? = some (.loop (rec .done (some c)))/\W.heap[D]? = some (.deferred (some [])))/\s.2≠some (D+1)/\s.2≠some D) (pre++[x]) q W (.returned v) W4:=by
   intro jump Y q' W3 hY hy3 hk3 hJ;obtain⟨v,W4,hr,hk4,hv⟩:=Zxh (P:=P) (J:=fun s W=>(I s W/\V.heap.size<=W.heap.size)/\(W.heap[D+1]? = some (.loop (rec .ready none))/\W.heap[D]? = some (.deferred (some [])))/\s.2≠some (D+1)/\s.2≠some D)
    (Jx:=fun s W=>∃ c,(Ix c s W/\V.heap.size<=W.heap.size)/\(W.heap[D+1]? = some (.loop (rec .done (some c)))/\W.heap[D]? = some (.deferred (some [])))/\s.2≠some (D+1)/\s.2≠some D) hrec' jump hlb hdb (by omega) (by omega:w.heap.size<=D+1) hMD.2 hMD.1 nL nD hk3 (hY.and (I':=fun _ W=>V.heap.size<=W.heap.size) fun _ _ _ _ hs hg _=>Qa hs hg.size)
    ⟨hy3,by have:=hk3.size;omega⟩ (fun W2 hy2 hl2 hd2 n1 n2=>by
     cases jump with
     | none =>
      cases hJ;exact⟨hy2,⟨hl2,hd2⟩,n1,n2⟩
     | some c =>
      cases hJ
      exact⟨c,hy2,⟨hl2,hd2⟩,n1,n2⟩)
   exact⟨v,W4,hr,q',hkb.trans hk4,hv.imp (fun h=>⟨by rw[h.1],h.2⟩) fun h=>⟨by rw[h.1],h.2⟩⟩
  rintro e a3 W3 hp;cases e with
  | normal =>
   obtain⟨q',hk3,hi3⟩:=hp;exact fin none I q' W3 hI hi3 hk3 rfl
  | ret =>
   obtain⟨q',hk3,hi3⟩:=hp;exact fin (some .ret) _ q' W3 (hIx _) hi3 hk3 rfl
  | exit id =>
   obtain⟨q',hk3,hi3⟩:=hp;exact fin (some (.exit id)) _ q' W3 (hIx _) hi3 hk3 rfl
  | goto t =>
   obtain⟨q',hk3,hi3⟩:=hp;exact fin (some (.goto t)) _ q' W3 (hIx _) hi3 hk3 rfl
  | panic ch=>exact hp.elim
  | outgrown=>exact hp.elim
 ·
  rintro e W2 ⟨⟨v,rfl⟩,⟨xs,q,hE,⟨hi,hsz⟩,⟨hl,hd⟩,nL,nD⟩ | ⟨pre,q,c,⟨hi,hsz⟩,⟨hl,hd⟩,nL,nD⟩⟩
  ·have:=run_endLoop (P:=P) hl (by rw[hrec];simp)
   rw[hrec] at this;refine⟨none,_,this,?_⟩;have h1:=hdone xs q (W2.putObj (D+1) (.loop { rec .ready none with state:=.exhausted })) (by rw[Pp];omega) hE (hI.putObj _ hi (by omega) hl rfl) (by rw[hDe];exact(Pb (by omega)).trans hd) (by rw[hDe];exact nD);rw[hDe,hrec] at h1;exact h1
  ·have:=run_endLoop (P:=P) hl (by rw[hrec];simp)
   rw[hrec] at this;refine⟨some c,_,this,?_⟩;have h1:=hstop c pre q (W2.putObj (D+1) (.loop { rec .done (some c) with state:=.exhausted })) (by rw[Pp];omega) ((hIx c).putObj _ hi (by omega) hl rfl) (by rw[hDe];exact(Pb (by omega)).trans hd) (by rw[hDe];exact nD);rw[hDe,hrec] at h1;exact h1}
end Go.Proofs.YtgmbjnajdfgenaaGreat
namespace Go.Proofs.YtgmbjnajdfgenaaGreat
open Go.RowKit Go.Shelf
attribute [local go_sem] Oper.semAt_some
structure Sv where
 nd:Nd
 pl:Nat
 inst:Bool
 A:Option Qam
 c:Nat
 lo:Nat
 hi:Nat
def svV (q:Sv):List Qal:=[.int .i64 q.nd.1,.slice q.A q.nd.2.length q.c,.int .i64 (q.pl:Int),.bool q.inst]
def svs (l:List Sv):List Qal:=l.flatMap svV
abbrev Yb0 (f:Nat->Sv) (x:Nat):Array Qal:=#[.int .i64 (x:Int),.agg #[.int .i64 (f x).nd.1,.slice (f x).A (f x).nd.2.length (f x).c,.int .i64 ((f x).pl:Int),.bool (f x).inst]]
structure At4 (w:Qak) (p:Qam) (q:Sv):Prop where
 c0:w.cell? p=some (.int .i64 q.nd.1)
 c1:w.cell? ⟨p.block,p.off+1,none⟩=some (.slice q.A q.nd.2.length q.c)
 c2:w.cell? ⟨p.block,p.off+2,none⟩=some (.int .i64 (q.pl:Int))
 c3:w.cell? ⟨p.block,p.off+3,none⟩=some (.bool q.inst)
theorem At4.same {w w':Qak}{p:Qam}{q:Sv}(h:At4 w p q) (e:w'.heap[p.block]? = w.heap[p.block]?):At4 w' p q :=
 ⟨(Qe e).trans h.c0,(Qe (a:=⟨p.block,p.off+1,none⟩) e).trans h.c1,(Qe (a:=⟨p.block,p.off+2,none⟩) e).trans h.c2,(Qe (a:=⟨p.block,p.off+3,none⟩) e).trans h.c3⟩
theorem Zkx (Bs cap m:Nat) (A:Option Qam) (ad:Qam) (f:Nat->Sv) (w:Qak) (hBs:w.cell? ⟨Bs,0,none⟩=some (.slice A m cap)) (hA:0<m->A=some ad/\ad.block<w.heap.size) (hm:m<=1000) (hc:∀ j,j<m->At4 w (ad.add (j*4)) (f j)) :
  Yb1 Tryz.prog 119 #[.pointer (some ⟨Bs,0,none⟩)] (Yb0 f) (fun _ pre x _ _=>pre=Ua m pre.length/\pre.length<m/\x=m-1-pre.length) (fun xs=>xs=Ua m m) (fun k=>k=Bs\/(0<m/\k=ad.block)) w:=by{
 intro l M J Jx o W hW hJ hJx hM hJs hZ hY h0;have hBl:Bs<w.heap.size:=P7 _ _ hBs;have hzB:=Za (hZ Bs (.inl rfl));have hzA:=Za (fun h:0<m=>hZ ad.block (.inr ⟨h,rfl⟩));have hcW:=Za (fun j (hj:j<m)=>(hc j hj).same (hW.block _ (by rw[Zh];exact(hA (by omega)).2)));have hBW:=Za ((hW.cell (p:=⟨Bs,0,none⟩) hBl).trans hBs);have hlt:=Za (show Bs<W.heap.size/\(0<m->ad.block<W.heap.size) from ⟨Qf hBl hW.size,fun h=>Qf (hA h).2 hW.size⟩);have hAA:=Za (fun h=>(hA h).1);have b0:=hBW.out;replace hY:=Za hY;replace hM:=Za hM;replace hJs:=Za hJs;replace hZ:=Za hZ;clear hc hBs hA hW;refine callsIn_wide.1 (callsIn_of_wp (n:=5) Tryz.func119 rfl trivial ?_ rfl);simp only[Tryz.ntmps119,Qt,Qn,Qu,Qv,Qw,Qx,Qy,Qz,Q0,Q3,Q4]
 gi_wp2
 clear b0
 gi_loopw [3] (fun i wr=>∃ (k:Nat) (q:Option Nat),k<=m/\i=.int .i64 ((m:Int)-1-k)/\J (Ua m k,q) wr/\Vs M o q W wr)
  (fun i _=>(intOf i+1).toNat)
 case atStart=>exact⟨0,o,Nat.zero_le _,by simp,h0,Vs.refl _ _ _⟩
 case round =>
  obtain⟨k,q,hk,rfl,hJr,hKr⟩:=hrel;have hbr:wr.cell? ⟨Bs,0,none⟩=some (.slice A m cap):=(hKr.cell (p:=⟨Bs,0,none⟩) hlt.out.1 hzB.out.1 hzB.out.2).trans hBW.out;by_cases hkm:k<m
  ·obtain rfl:=hAA.out (by omega)
   obtain⟨g1,g2,g3,g4⟩:=(hcW.out (m-1-k) (by omega)).same (w':=wr) (by rw[Zh];exact(hKr.same ad.block (hlt.out.2 (by omega)) (hzA.out (by omega)).1 (hzA.out (by omega)).2).1);obtain⟨fn,tmps,assign,body,hy,hR⟩:=hY.out _ q (m-1-k) wr hJr ⟨by rw[Xc],by rw[Xc];exact hkm,by rw[Xc]⟩;unfold Yb0 at hy;have e1:((m:Int)-1-k).toNat=m-1-k:=by omega
   have e2:((m-1-k:Nat):Int)=(m:Int)-1-k:=by omega
   rw[e2] at hy;clear e2;have hds:=Za (Zd4 m k);replace hR:=Za hR;replace hKr:=Za hKr;replace hJr:=Za hJr;generalize (f (m-1-k)).nd.1=q1 at *;generalize (f (m-1-k)).A=q2 at *;generalize (f (m-1-k)).nd.2.length=q3 at *;generalize (f (m-1-k)).c=q4 at *;generalize ((f (m-1-k)).pl:Int)=q5 at *;generalize (f (m-1-k)).inst=q6 at *
   gi_wp2
   refine(Zha hR.out).mono ?_;rintro e w5 ⟨q5',hk5,⟨rfl,J5⟩ | ⟨rfl,J5⟩⟩
   ·have hK5:=Za (hKr.out.trans hk5)
    clear hk5
    gi_wp2
    go_roundw
    case rel=>exact⟨k+1,q5',by omega,by go_num,by rw[hds.out];exact J5,hK5.out⟩
    case measure=>simp[intOf];omega
   ·gi_wp2
    refine Qao (results_none rfl _ _ _) rfl ?_;exact⟨⟨_,rfl⟩,.inr ⟨_,_,J5⟩⟩
  ·obtain rfl:k=m:=by omega
   gi_wp2
   go_end0
   exact⟨⟨_,rfl⟩,.inl ⟨_,_,rfl,hJr⟩⟩}
theorem Zfs (a:Option Qam) (len cap:Nat) (w:Qak) :
  Qar Tryz.prog 75 #[.slice a len cap] w fun e w'=>e=.returned (.func (.func 119) #[] #[.pointer (some ⟨w.heap.size,0,none⟩)])/\w'=w.alloc (.cells #[.slice a len cap] 93):=by
 go_enter Tryz.func75,Tryz.ntmps75
 go_wp2_with fail
 go_ret;exact⟨rfl,rfl⟩
def Ve (s:Rm):Nat->Int->List (Int×It)
 | 0,a=>(rmV s a).2.flatMap fun x=>[((0:Int),x)]
 | l+1,a=>(rmV s a).2.flatMap fun x=>(((l+1:Nat):Int),x)::Ve s l x.2.1
def Ziy (s:Rm):Nat->It->List (Int×It)
 | 0,x=>[((0:Int),x)]
 | l+1,x=>(((l+1:Nat):Int),x)::Ve s l x.2.1
theorem Z0b (s:Rm) (l:Nat) (a:Int):Ve s l a=(rmV s a).2.flatMap (Ziy s l):=by
 cases l <;> rfl
theorem Zzc (s:Rm) (x:It):Ziy s 0 x=[((0:Int),x)]:=rfl
theorem Zoe (s:Rm) (l:Nat) (x:It):Ziy s (l+1) x=(((l+1:Nat):Int),x)::Ve s l x.2.1:=rfl
theorem Z1w (s:Rm) (l:Nat) (x:It):∃ r,Ziy s l x=((l:Int),x)::r:=by
 cases l with
 | zero=>exact⟨[],rfl⟩
 | succ l=>exact⟨_,rfl⟩
def Zhq (s:Rm) (l:Nat) (L:List It) (k:Nat):List (Int×It):=(L.take k).flatMap (Ziy s l)
theorem Zxq (s:Rm) (l:Nat) (L:List It):Zhq s l L 0=[]:=by simp[Zhq]
theorem Z3h (s:Rm) (l:Nat) (L:List It):Zhq s l L L.length=L.flatMap (Ziy s l):=by simp[Zhq]
theorem Zjp (s:Rm) (l:Nat){L:List It}{k:Nat}{x:It}(hx:L[k]? = some x):Zhq s l L (k+1)=Zhq s l L k++Ziy s l x:=by
 unfold Zhq;rw[List.take_add_one,hx,Option.toList_some,Qaa];simp
theorem Ztg (s:Rm) (l:Nat){L:List It}{k:Nat}{x:It}(hx:L[k]? = some x):Zhq s l L k++Ziy s l x <+: L.flatMap (Ziy s l):=by
 rw[<- Zjp s l hx];refine⟨(L.drop (k+1)).flatMap (Ziy s l),?_⟩;unfold Zhq;rw[<- Qaa,List.take_append_drop]
abbrev Wk:=Int×It×Qal
def Za3 (x:Wk):Int×It:=(x.1,x.2.1)
def Yb6 (x:Wk):Array Qal:=#[.int .i64 x.1,x.2.2]
def Fre (B:Nat) (q:Option Nat) (W:Qak):Qam->Prop:=fun p=>New B W p/\q≠some p.block
def Yan (L:List (Int×It)) (B:Nat) (pre:List Wk) (x:Wk) (q:Option Nat) (W:Qak):Prop:=(pre++[x]).map Za3 <+: L/\Itm (Fre B q W) W x.2.2 x.2.1
def Ycw (L:List (Int×It)) (xs:List Wk):Prop:=xs.map Za3=L
def Ybi (n0 Bs Br:Nat) (k:Nat):Prop:=k<n0\/k=Bs\/k=Br
theorem Zsn {M:Nat->Prop}{B:Nat}{q q':Option Nat}{W W':Qak}{p:Qam}{v:Qal}(hM:∀ k,M k->k<B) (hk:Vs M q q' W W') (hp:Fre B q W p) (hc:W.cell? p=some v):Fre B q' W' p/\W'.cell? p=some v:=by
 obtain⟨⟨h1,h2,h3⟩,h4⟩:=hp;have hm:¬ M p.block:=fun e=>by have:=hM _ e;omega
 obtain⟨e,n⟩:=hk.same p.block h2 hm h4;exact⟨⟨⟨h1,Qf h2 hk.size,(Pq e).trans h3⟩,n⟩,(Qe e).trans hc⟩
theorem Zmh {B B':Nat}{q:Option Nat}{W W':Qak}{row:Option Nat}{p:Qam}{v:Qal}(hg:W.grownBy W' row) (hr:∀ r,row=some r->B'<=r/\∃ o:Obj,W.heap[r]? = some o/\o.isCells=false) (hp:Fre B q W p) (hc:W.cell? p=some v):Fre B q W' p/\W'.cell? p=some v:=by
 obtain⟨⟨h1,h2,h3⟩,h4⟩:=hp;have hk:=cell_kept hc hg (fun r e=>(hr r e).2);exact⟨⟨⟨h1,Qf h2 hg.size,(frozen_kept hc hg (fun r e=>(hr r e).2)).trans h3⟩,h4⟩,hk⟩
theorem Zmd (L:List (Int×It)) (B B':Nat) (pre:List Wk) (x:Wk) (q:Option Nat):OwnFrom B' (fun(_:Unit) W=>Yan L B pre x q W):=fun _ _ _ _ hs hg hr =>
 ⟨hs.1,hs.2.map fun _ _ hp hc=>Zmh hg hr hp hc⟩
theorem Zig {P:Program}{fn:Func}{m:Nat}{tmps:Array Qal}{R:Qas->Qak->Prop}{R':Qak->Prop}{B:Nat}(hst:∀ W D,B<=D->W.heap[D]? = some (.deferred (some []))->R' W->R' (W.putObj D (.deferred none)))
  (hf:∀ W,R' W->LeavesIn Fence.wide m P fn tmps R [] .returning W):∀ (Ds:List Nat) (W:Qak),Ds.Nodup->(∀ D∈Ds,B<=D/\W.heap[D]? = some (.deferred (some [])))->R' W->LeavesInM Fence.wide m P fn tmps R (Ds.map fun D=>{ target:=.collected D,args:=#[] }) .returning W
 | [],W,_,_,h=>hf W h
 | D::r,W,hn,hd,h=>by
  obtain⟨h1,h2⟩:=Pr.1 hn;obtain⟨hB,hD⟩:=hd D (by simp);refine⟨by simp,.inl ⟨_,_,rfl,run_takeDeferred hD,?_⟩⟩;refine Zig hst hf r _ h2 (fun E hE=>⟨(hd E (by simp[hE])).1,?_⟩) (hst W D hB hD h);exact(Pb (fun e=>h1 (by rw[<- e];exact hE))).trans (hd E (by simp[hE])).2
theorem Zg8 {P:Program}{fn:Func}{m:Nat}{tmps:Array Qal}{X:Qak->Prop}{B:Nat}(hfn:fn.results=#[]) (hX:∀ W D,B<=D->W.heap[D]? = some (.deferred (some []))->X W->X (W.putObj D (.deferred none))){Ds:List Nat}{W:Qak}(hn:Ds.Nodup) (hd:∀ D∈Ds,B<=D/\W.heap[D]? = some (.deferred (some []))) (hx:X W) :
  LeavesInM Fence.wide m P fn tmps (fun e W'=>(∃ v,e=.returned v)/\X W') (Ds.map fun D=>{ target:=.collected D,args:=#[] }) .returning W :=
 Zig (R':=X) hX (fun _ h=>⟨_,results_none hfn _ _ _,⟨_,rfl⟩,h⟩) Ds W hn hd hx
structure Wup (L:List (Int×It)) (k tb:Ky) (e:Bool):Prop where
 up:L.Pairwise fun p q=>LeK p.2.1 q.2.1
 ge:∀ p∈L,LeK k p.2.1
 bound:e=true->∀ p∈L,Zn p.2.1 tb=true
theorem Z50 {l:List It}{lv:Int}(h:Up l):(l.flatMap fun x=>[(lv,x)]).Pairwise fun p q=>LeK p.2.1 q.2.1:=by
 rw[show (l.flatMap fun x=>[(lv,x)])=l.map fun x=>(lv,x) by induction l with | nil=>rfl | cons y r ih=>rw[Pc,ih (Pg.1 h).2];rfl];exact Ps.map _ (fun a b hab=>.inr hab) h
theorem Zrb {f:Int->Ky->Ky->Bool->Bool}{g:Int->List (Int×It)}{lv:Int}(hf:∀ a k tb e,f a k tb e=true->Wup (g a) k tb e) (hk:∀ a k tb,f a k tb true=true->Zn k tb=true):∀ (L:List It) (x:It) (r:List It) (tb:Ky) (e:Bool),L=x::r->Zaf f L tb e=true ->
  Wup (L.flatMap fun x=>(lv,x)::g x.2.1) x.1 tb e
 | [x],_,_,tb,e,rfl,h=>by
  have h1:=hf _ _ _ _ h;have e2:([x]:List It).flatMap (fun x=>(lv,x)::g x.2.1)=(lv,x)::g x.2.1:=by simp
  rw[e2];refine⟨Pg.2 ⟨h1.ge,h1.up⟩,fun p hp=> ?_,fun he p hp=> ?_⟩
  ·rcases Qm.1 hp with rfl | hp
   ·exact .inl rfl
   ·exact h1.ge p hp
  ·rcases Qm.1 hp with rfl | hp
   ·subst he
    exact hk _ _ _ h
   ·exact h1.bound he p hp
 | x::y::r,_,_,tb,e,rfl,h=>by
  unfold Zaf at h;rw[Pt] at h;have h1:=hf _ _ _ _ h.1;have hxy:=hk _ _ _ h.1;have h2:=Zrb (lv:=lv) hf hk (y::r) y r tb e rfl h.2;have e2:(x::y::r).flatMap (fun x=>(lv,x)::g x.2.1)=((lv,x)::g x.2.1)++(y::r).flatMap fun x=>(lv,x)::g x.2.1:=Pc
  rw[e2];have hlt:∀ p∈(lv,x)::g x.2.1,Zn p.2.1 y.1=true:=fun p hp=>by
   rcases Qm.1 hp with rfl | hp
   ·exact hxy
   ·exact h1.bound rfl p hp
  have hge:∀ p∈(lv,x)::g x.2.1,LeK x.1 p.2.1:=fun p hp=>by
   rcases Qm.1 hp with rfl | hp
   ·exact .inl rfl
   ·exact h1.ge p hp
  refine⟨Pu.2 ⟨Pg.2 ⟨h1.ge,h1.up⟩,h2.up,fun p hp q hq=>LeK.trans (.inr (hlt p hp)) (h2.ge q hq)⟩,fun p hp=> ?_,fun he p hp=> ?_⟩
  ·rcases Qo.1 hp with hp | hp
   ·exact hge p hp
   ·exact LeK.trans (.inr hxy) (h2.ge p hp)
  ·rcases Qo.1 hp with hp | hp
   ·have hy:(lv,y)∈(y::r).flatMap fun x=>(lv,x)::g x.2.1:=Qp.2 ⟨y,by simp,by simp⟩
    exact Yp (hlt p hp) (h2.bound he _ hy)
   ·exact h2.bound he p hp
theorem Zpf (s:Rm):∀ (l:Nat) (a:Int) (k tb:Ky) (e:Bool),Zy s l a k tb e=true->Wup (Ve s l a) k tb e
 | 0,a,k,tb,e,h=>by
  obtain⟨h1,_,h3,_⟩:=Z8 h;have hp:=Y1 s 0 a k tb e h;have hu:=Un (Ya h1).1;refine⟨Z50 hu,fun p hp'=> ?_,fun he p hp'=> ?_⟩
  ·obtain⟨x,hx,hm⟩:=Qp.1 hp'
   rw[Qk] at hm;subst hm;rcases hp.ge x hx with e | e
   ·exact .inl e.symm
   ·exact .inr e
  ·obtain⟨x,hx,hm⟩:=Qp.1 hp'
   rw[Qk] at hm;subst hm;exact hp.bound he x hx
 | l+1,a,k,tb,e,h=>by
  obtain⟨_,_,h3,h4⟩:=Z8 h;obtain⟨x,r,ex,ek,_⟩:=Zbc h3
  have:=Zrb (lv:=((l+1:Nat):Int)) (Zpf s l) (fun a k tb h=>by
   have hp:=Y1 s l a k tb true h;obtain⟨z,q,ez,kz⟩:=hp.first;rw[<- kz]
   exact hp.bound rfl z (by rw[ez];simp)) (rmV s a).2 x r tb e ex h4
  rw[ek] at this;exact this
theorem Z3m {s:Rm}{a:Int}(h:Yj s a=true):(Ve s (rmV s a).1.toNat a).Pairwise fun p q=>LeK p.2.1 q.2.1:=by{
 obtain⟨h1,_,hm,l0,_,hi⟩:=Y4 h;unfold Um at hi;cases hl:(rmV s a).1.toNat with
 | zero=>exact Z50 (Un hm)
 | succ l =>
  rw[hl] at hi;cases hL:(rmV s a).2 with
  | nil=>simp[Ve,hL]
  | cons x r =>
   have:=Zrb (lv:=((l+1:Nat):Int)) (Zpf s l) (fun a k tb h=>by
    have hp:=Y1 s l a k tb true h;obtain⟨z,q,ez,kz⟩:=hp.first;rw[<- kz]
    exact hp.bound rfl z (by rw[ez];simp)) (rmV s a).2 x r Zbo false hL hi
   exact this.up}
theorem Zhv (s:Rm):∀ (l:Nat) (a:Int),((Ve s l a).filter fun p=>decide (p.1=0)).map (·.2)=X3 s l a
 | 0,a=>by
  unfold Ve X3
  induction (rmV s a).2 with
  | nil=>rfl
  | cons x r ih=>simp[ih]
 | l+1,a=>by
  unfold Ve X3
  induction (rmV s a).2 with
  | nil=>rfl
  | cons x r ih =>
   rw[Pc,Pc,Qj,Qg,ih,<- Zhv s l x.2.1,Q6 (by simp;omega)]
def Zal (f:Ky) (M:List (Int×It)):List It:=(M.filter fun p=>decide (p.1=0) && !Zn p.2.1 f).map (·.2)
theorem Z3r {f:Ky}{M:List (Int×It)}{p:Int×It}(h0:p.1=0) (h:Zn p.2.1 f=false):Zal f (M++[p])=Zal f M++[p.2]:=by
 unfold Zal;rw[Qj,Qg,Pv (by simp[h0,h])];rfl
theorem Zzz {f:Ky}{M:List (Int×It)}{p:Int×It}(h:p.1≠0\/Zn p.2.1 f=true):Zal f (M++[p])=Zal f M:=by
 unfold Zal;rw[Qj,Qg,Q6 (by rcases h with h | h <;> simp[h])];simp
theorem Zoa {f t:Ky}{M:List (Int×It)}(h:∀ p∈M,Zn t p.2.1=false):Zal f M=((M.filter fun p=>decide (p.1=0)).map (·.2)).filter (Z5x f t):=by{
 unfold Zal;rw[List.filter_map,List.filter_filter]
 congr 1
 refine Qab fun p hp=> ?_
 show _=(Z5x f t p.2&&decide (p.1=0));unfold Z5x;rw[h p hp];cases decide (p.1=0) <;> cases Zn p.2.1 f <;> rfl}
theorem Z3d {s:Rm}{a:Int}{f t:Ky}{M:List (Int×It)}(hM:M=Ve s (rmV s a).1.toNat a) (h:∀ p∈M,Zn t p.2.1=false):Zal f M=Zhe s a f t:=by
 rw[Zoa h,hM,Zhv];rfl
theorem Z1g {s:Rm}{a:Int}(ht:Yj s a=true){f t:Ky}{M:List (Int×It)}{p:Int×It}(hM:M++[p] <+: Ve s (rmV s a).1.toNat a) (h:∀ p∈M,Zn t p.2.1=false) (hp:Zn t p.2.1=true):Zal f M=Zhe s a f t:=by{
 obtain⟨r,hr⟩:=hM;have hu:=Z3m ht;rw[<- hr,Qq] at hu;have hlt:∀ q∈[p]++r,Zn t q.2.1=true:=fun q hq=>by
  rcases Qm.1 hq with rfl | hq
  ·exact hp
  ·have:=(Pg.1 (Pu.1 hu).2.1).1 q hq
   rcases this with e | e
   ·rw[<- e];exact hp
   ·exact Yp hp e
 rw[Zoa h];unfold Zhe U7;rw[<- Zhv,<- hr,Qq,Qj,Qg,Qj]
 rw[Uv (L:=(([p]++r).filter fun p=>decide (p.1=0)).map (·.2)) fun x hx=>by
  obtain⟨q,hq,rfl⟩:=Qr.1 hx;have:=hlt q (Ph.1 hq).1;unfold Z5x;rw[this]
  simp]
 rw[Qac]}
theorem Z5a {s:Rm}{a:Int}(ht:Yj s a=true){f:Ky}{M:List (Int×It)}(hM:M <+: Ve s (rmV s a).1.toNat a):(Zal f M).length<=15625:=by{
 obtain⟨r,hr⟩:=hM;have h1:=(Zfp ht).2.1;have h2:(U7 s a).length=((Ve s (rmV s a).1.toNat a).filter fun p=>decide (p.1=0)).length:=by
  unfold U7;rw[<- Zhv,Q8]
 rw[h2,<- hr,Qj,Qi] at h1;have h3:(Zal f M).length<=(M.filter fun p=>decide (p.1=0)).length:=by
  unfold Zal;rw[Q8];rw[<- Qad,<- Qad];exact List.countP_mono_left fun p _ hp=>by
   rw[Pt] at hp;exact hp.1
 omega}
section
variable {α : Type}{R : Rel α}{size : Nat}{t : Qan}{lo : Nat}{w w' : Qak}{A : Option Qam}{c : Nat}{xs : List α}
theorem Yi.push_at {P:Program}(hR:Zew R) (h:Yi R size t lo w A c xs) (st ty:Qan) (i:TypeInfo) (z:Qal) (bytes:Nat) (ht:P.underlying st=some (.slice t)) (hi:P.info? t=some i) (hz:i.zero=some z)
  (hsize:i.size=size) (hby:i.bytes=bytes) (hzs:z.cells.size=size) (hsz:0<size) (ad:Qam) (m:Nat) (news:List Qal) (x:α) (hl:news.length=size) (hnews:∀ j u,news[j]? = some u->w.cell? (ad.add j)=some u) (h1:∀ u∈news,u.oneCell'=true)
  (h63:xs.length+1<=maxLen) (hbytes:(xs.length+1)*bytes<=140737488355328) (hbase:lo<=w.heap.size) (hx:R (Xx lo A w) w news x) :
  ∃ A' c' w',(Q9 #[st,st] ty #[.slice A xs.length c,.slice (some ad) 1 m]).run P w=.ok (.slice A' (xs.length+1) c') w'/\Yi R size t lo w' A' c' (xs++[x])/\w.grownBy w' (A.map (·.block))/\Qat lo w w'/\(A'.map (·.block)=A.map (·.block)\/A'.map (·.block)=some w.heap.size):=by{
 obtain⟨cs,ho,hcs⟩:=h;obtain⟨A1,c1,e,_,_,e4,_⟩:=Ym ho;cases e;obtain⟨v',w',hr,o1,g1,b1,k1⟩:=Zdl (P:=P) (w:=w) lo st ty t i z size bytes ht hi hz hsize hby hzs hsz _ _ cs ho ad 1 m news (by omega) hnews h1 h63 hbytes hbase;obtain⟨A2,c2,rfl,_,_,e5,_⟩:=Ym o1;rw[e4] at g1 k1;rw[e5] at k1;have mp:∀ p v,Xx lo A w p->w.cell? p=some v->Xx lo A2 w' p/\w'.cell? p=some v:=fun p v hp hc=>by
  have hb:=g1.block p.block hp.1.2.1 (fun e=>hp.2 e.symm);refine⟨⟨⟨hp.1.1,Qf hp.1.2.1 g1.size,(Pq hb).trans hp.1.2.2⟩,fun e=> ?_⟩,(Qe hb).trans hc⟩;rcases k1 with k | k
  ·exact hp.2 (k ▸ e)
  ·rw[k] at e
   simp only[Option.some.injEq] at e;have:=hp.1.2.1;omega
 refine⟨A2,c2,w',hr,⟨cs++news,by rw[Qi];exact o1,fun j y hj=> ?_⟩,g1,b1,k1⟩;have hcl:cs.length=xs.length*size:=ho.1;rcases Pm j xs.length with hjl | hjl
 ·rw[Pi hjl] at hj
  obtain⟨vs,e1,e2,e3⟩:=hcs j y hj;refine⟨vs,e1,fun k u hk=> ?_,hR _ _ _ _ _ _ mp e3⟩;have hcu:=e2 k u hk;rw[Pi (Ql.1 hcu).1];exact hcu
 ·rw[Q5 hjl] at hj
  have hj0:j=xs.length:=by
   have:=(Ql.1 hj).1;simp at this;omega
  subst hj0;simp at hj;subst hj;refine⟨news,hl,fun k u hk=> ?_,hR _ _ _ _ _ _ mp hx⟩;rw[Q5 (by omega),hcl,Nat.add_sub_cancel_left];exact hk}
theorem Yi.own (hR:Zew R) (h:Yi R size t lo w A c xs){row:Option Nat}(hg:w.grownBy w' row) (hr:∀ r,row=some r->∃ o:Obj,w.heap[r]? = some o/\o.isCells=false):Yi R size t lo w' A c xs:=by{
 obtain⟨cs,h1,h2⟩:=h;refine⟨cs,h1.kept hg ?_,fun i x hi=> ?_⟩
 ·rcases h1.2 with ⟨e,_⟩ | ⟨g,cap',cur,e,hb,hgb,_⟩
  ·exact .inl (by rw[e];rfl)
  ·refine .inr fun e'=> ?_
   rw[e] at e';obtain⟨o,ho,hc⟩:=hr g e'.symm;rw[hgb] at ho;cases ho;cases hc
 ·obtain⟨vs,e1,e2,e3⟩:=h2 i x hi
  exact⟨vs,e1,e2,hR _ _ _ _ _ _ (fun p v hp hc=>⟨⟨⟨hp.1.1,Qf hp.1.2.1 hg.size,(frozen_kept hc hg hr).trans hp.1.2.2⟩,hp.2⟩,cell_kept hc hg hr⟩) e3⟩}
end
theorem Zrd {w:Qak}{lo:Nat}{A:Option Qam}{c:Nat}{xs:List It}(h:Yi rIt 5 54 lo w A c xs) (g:Nat) (s:It) (d:Qal) (m n:Nat) (hn:xs.length=n) (hg:w.heap[g]? = some (.cells #[.int .u8 (s.1.1.toNat:Int),.int .u32 s.1.2.1,.int .u32 s.1.2.2,.int .i64 s.2.1,d] 54 (0,0))) (hs:n<100000) (hbase:lo<=w.heap.size) (hin:InI s) (hx:rBy (Xx lo A w) w [d] s.2.2) :
  ∃ A' c' w',(Q9 #[39,39] 39 #[.slice A n c,.slice (some ⟨g,0,none⟩) 1 m]).run Tryz.prog w=.ok (.slice A' (n+1) c') w'/\Yi rIt 5 54 lo w' A' c' (xs++[s])/\w.grownBy w' (A.map (·.block))/\Qat lo w w'/\(A'.map (·.block)=A.map (·.block)\/A'.map (·.block)=some w.heap.size):=by{
 subst hn;obtain⟨i0,hi,hz0,hz1,hz2⟩:=info_parts Vl;obtain⟨E,ce,rfl,_⟩:=id (Zt hx)
 exact Yi.push_at Z0 h 39 39 i0 (.agg #[.int .u8 0,.int .u32 0,.int .u32 0,.int .i64 0,.slice none 0 0]) 48 Tryz.underlying39 hi hz0 hz1 hz2 rfl (by decide) ⟨g,0,none⟩ m _ s rfl (Qae (cs:=#[.int .u8 (s.1.1.toNat:Int),.int .u32 s.1.2.1,.int .u32 s.1.2.2,.int .i64 s.2.1,.slice E s.2.2.length ce]) hg) (fun u hu=>by
  simp at hu
  rcases hu with rfl | rfl | rfl | rfl | rfl <;> rfl) (by unfold maxLen;omega) (by omega) hbase (Zza hin hx)}
theorem Z5o (v u:Qal) (s:Rm) (hm:Xj s=true) (n:Nd) (hn:mayN n=true) (w:Qak) (h:Sto (Old w) w v s) (hu:Nod (Old w) w u n) :
  Qar Tryz.prog 70 #[v,u] w fun e w'=>e=.returned (.bool (Yt s n.2))/\Qat w.heap.size w w':=by{
 have hrf:=Za (Vy hn);have hls:=Za (Yy (Yf hm).2.1);obtain⟨A,ca,B,cb,N,cn,L,cl,rfl,_⟩:=id h.open;obtain⟨I,ci,rfl,-,-,-,hI⟩:=id hu.open;obtain⟨lw,hlw⟩:∃ q,n.1=q:=⟨_,rfl⟩
 obtain⟨l,hl⟩:∃ q,n.2=q:=⟨_,rfl⟩
 obtain⟨m,hlm⟩:∃ q,l.length=q:=⟨_,rfl⟩
 rw[hl] at hrf;rw[hl,hlm] at hI;rw[hl,hlw,hlm];have hm5:m<=5:=by
  have:=(Zv hn).1.2.2.1;rw[hl,hlm] at this;exact this
 obtain⟨ad,ld,rfl,rfl,-,-,-,-,had,-,hc⟩:=Zo6 hm h.parts.2.1 h.parts.2.2;have HG0:Bag w [Zyf (.slice I m ci) l,Zrs (.agg #[.slice A s.1.1.length ca,.slice B s.1.2.length cb,.slice (some ad) s.2.1.length cn,.slice (some ld) s.2.2.length cl]) s]:=((Bag.nil w).add (F:=Zrs _ s) h (V7 _ _)).add (F:=Zyf _ l) hI (Zj4 _ _);obtain⟨w0,hw0,hg0,hB0,_,hs0⟩:=Zco HG0 (Qc _ _) (.slice A s.1.1.length ca) (.slice B s.1.2.length cb) (.slice (some ad) s.2.1.length cn) (.slice (some ld) s.2.2.length cl) 29;obtain⟨w1,hw1,hg1,hB1,_,hs1⟩:=Zf8 hg0 (Qc _ _) (.int .i64 lw) (.slice I m ci);have HG:=Za hg1;have BB:=Za (hB0.trans (hB1.mono hB0.size));have cS:Hid (∀ j,j<256->∀ W,Qat w1.heap.size w1 W->W.cell? (ad.add j)=some (.int .u8 ((s.2.1[j]?.getD 0).toNat:Int))):=Za fun j hj W hW =>
  ((BB.out.trans (hW.mono BB.out.size)).cell (by rw[Zh];exact had)).trans (hc j hj).1
 obtain⟨y0,y1,_⟩:=hg1.at 0 rfl;replace hs1:=Za hs1;replace hs0:=Za hs0;replace hlw:=Za hlw;replace hl:=Za hl;replace hlm:=Za hlm;clear HG0 hg1 hg0 h hu hB1 hB0 hc hI
 go_enter Tryz.func70,Tryz.ntmps70
 go_upto_region 1 with fail
 clear hw1 hw0
 go_wp2_with fail
 clear y0 y1
 go_loopw [10] (fun vi wr=>∃ k:Nat,k<=m/\vi=.int .i64 k/\Yt s (l.take k)=true/\Qat w1.heap.size w1 wr) (fun vi _=>m-(intOf vi).toNat)
 case atStart=>exact⟨0,by omega,rfl,rfl,Qc _ _⟩
 case round =>
  obtain⟨k,hk,rfl,hE,hbr⟩:=hrel;have HR:=Za (HG.out.below hbr);have BR:=Za (BB.out.trans (hbr.mono BB.out.size));by_cases hlt:k<m
  case neg =>
   have hf:Hid (Yt s l=true):=Za (by rw[<- hE,Qaf (by rw[hlm.out];omega)]);clear hE hbr
   go_wp2_with fail
   go_ret;exact⟨Yn hf.out.symm,BR.out⟩
  obtain⟨x,hx⟩:∃ x,l[k]? = some x:=⟨_,Qh (by rw[hlm.out];exact hlt)⟩
  have hxr:=hrf.out x (Pj hx);have hIt:Zag (Old wr) wr [.slice I m ci] l:=HR.out.at 2 rfl;obtain⟨a5,E5,ce5,rfl,_,_,_,FX⟩:=V5 hIt hx;obtain⟨⟨z0,z1,z2,z3,z4⟩,_⟩:=FX wr (Qc _ _);obtain⟨w2,hw2,r0,r1,r2,r3,r4,hs2,hB2,_⟩:=Z9 wr (.int .u8 (x.1.1.toNat:Int)) (.int .u32 x.1.2.1) (.int .u32 x.1.2.2) (.int .i64 x.2.1) (.slice E5 x.2.2.length ce5) 54;have B2:=Za (hbr.trans (hB2.mono hbr.size));have H2:=Za (HR.out.below hB2);have BF:=Za (BB.out.trans (B2.out.mono BB.out.size));replace hs2:=Za hs2;clear FX hIt hB2
  go_upto_region 4 with fail
  clear hw2 z0 z1 z2 z3 z4;obtain⟨k0,k1,k2,k3,_⟩:=H2.out.at 1 rfl;rw[hls.out] at k2;have i4:(0:Int)<=(k:Int):=by omega
  have i5:(k:Int)<(m:Int):=by omega
  obtain⟨z,hzz⟩:∃ z,x.2.1=z:=⟨_,rfl⟩
  rw[hzz] at r3 hxr;by_cases hz0:z=0
  ·subst hz0
   have hst:Hid (Yt s (l.take (k+1))=true):=Za (by rw[Z03 hx hzz,hE]);replace hx:=Za hx;replace hzz:=Za hzz;clear hE hxr;replace hbr:=Za hbr
   go_wp2_with fail
   go_roundw
   case rel=>exact⟨k+1,by omega,by go_num,hst.out,B2.out⟩
   case measure=>simp[intOf];omega
  ·obtain⟨r,hr,r8,r256⟩:∃ r:Nat,z=r/\8<=r/\r<256:=⟨z.toNat,by omega,by omega,by omega⟩
   subst hr;have hcell:=cS.out r r256 w2 B2.out;obtain⟨y,hy⟩:∃ y,s.2.1[r]?.getD 0=y:=⟨_,rfl⟩
   have hst:=Z4y hx hzz (by omega) hy;rw[hE,Bool.true_and] at hst;rw[hy] at hcell;have j0:(0:Int)<=(r:Int):=by omega
   have j1:r<256:=r256;have j2:¬ r=0:=by omega
   replace hbr:=Za hbr;replace hzz:=Za hzz;replace hy:=Za hy;clear hE hxr hz0;by_cases hy0:y=0
   ·have t0:=Vi (y:=0) (q:=0) rfl hy0
    have hf:Hid (Yt s l=false):=Za (Z2l (i:=k+1) (by rw[hst];simp[hy0]));replace hx:=Za hx;clear hst hy0
    go_wp2_with fail
    go_ret;exact⟨Yn hf.out.symm,BF.out⟩
   ·have t0:=Xr (y:=0) (q:=0) rfl hy0
    replace hst:Hid (Yt s (l.take (k+1))=true):=Za (by rw[hst];simpa using hy0);replace hx:=Za hx;clear hy0
    go_wp2_with fail
    go_roundw
    case rel=>exact⟨k+1,by omega,by go_num,hst.out,B2.out⟩
    case measure=>simp[intOf];omega}
def StC (g:Int->Option (Ky×Ky)) (l:List It) (k:Nat) (t:Ky):Prop:=k=0\/∃ f,Y9 g (l.take k)=some (f,t)
section
variable {g : Int -> Option (Ky × Ky)}{l : List It}{k : Nat}{x : It}{p : Ky × Ky}{t : Ky}
theorem Zyz (hx:l[k]? = some x) (h:g x.2.1=none):Y9 g l=none:=by{
 refine Zj3 (k:=k+1) (by omega) ?_;by_cases h0:k=0
 ·subst h0
  rw[Zf6 hx,h];rfl
 ·rw[Zaz hx (by omega),h]
  cases Y9 g (l.take k) <;> rfl}
theorem Zyh (hx:l[k]? = some x) (h:g x.2.1=some p) (hp:p.1≠x.1):Y9 g l=none:=by{
 refine Zj3 (k:=k+1) (by omega) ?_;by_cases h0:k=0
 ·subst h0
  rw[Zf6 hx,h];simp[hp]
 ·rw[Zaz hx (by omega),h]
  cases Y9 g (l.take k) <;> simp[hp]}
theorem Z17 (hx:l[k]? = some x) (h0:k≠0) (hs:StC g l k t) (hl:Zn t x.1=false):Y9 g l=none:=by
 rcases hs with hs | ⟨f,hs⟩
 ·exact absurd hs h0
 refine Zj3 (k:=k+1) (by omega) ?_;rw[Zaz hx (by omega),hs];cases g x.2.1 <;> simp[hl]
theorem Zyy (hx:l[k]? = some x) (hs:StC g l k t) (hl:k≠0->Zn t x.1=true) (h:g x.2.1=some p) (hp:p.1=x.1):StC g l (k+1) p.2:=by{
 refine .inr ?_;by_cases h0:k=0
 ·subst h0
  rw[Zf6 hx,h]
  exact⟨p.1,by
   show (if p.1=x.1 then some p else none)=some (p.1,p.2)
   rw[if_pos hp]⟩
 ·rcases hs with hs | ⟨f,hs⟩
  ·exact absurd hs h0
  rw[Zaz hx (by omega),hs,h];exact⟨f,by simp[hp,hl h0]⟩}
end
theorem Zv9 {s:Rm}{n:Nd}(h:n.2.length=0):Zc1 s n=none:=by
 have e:n.2=[]:=P3 h;unfold Zc1;rw[e];cases n.1.toNat with
 | zero=>simp[Yt]
 | succ l=>rfl
theorem Z7q {s:Rm}{l:Nat}{a:Int}(h:¬ (rmE s a=0/\(rmV s a).1=(l:Int)/\(rmV s a).2.length≠0)):Za9 s l a=none:=by{
 rw[Zoj];by_cases h1:rmE s a=0/\(rmV s a).1=(l:Int)
 ·rw[if_pos h1]
  by_cases h2:(rmV s a).2.length=0
  ·exact Zv9 h2
  ·exact absurd ⟨h1.1,h1.2,h2⟩ h
 ·rw[if_neg h1]}
theorem Z3b {s:Rm}{l:Nat}{a:Int}(h1:rmE s a=0) (h2:(rmV s a).1=(l:Int)):Za9 s l a=Zc1 s (rmV s a):=by
 rw[Zoj,if_pos ⟨h1,h2⟩]
abbrev Ybl (Bs Be:Nat):Qal:=.func (.func 69) #[] #[.pointer (some ⟨Bs,0,none⟩),.pointer (some ⟨Be,0,none⟩)]
def Z2f (g:Nat) (v:Qal):Qak->Prop:=fun w=>w.cell? ⟨g,0,none⟩=some v/\g<w.heap.size
theorem Zd0 (g:Nat) (v:Qal):Zep (Z2f g v):=fun _ _ h hb=>⟨(hb.cell (p:=⟨g,0,none⟩) h.2).trans h.1,Qf h.2 hb.size⟩
def Yay (s:Rm) (n:Nd) (w:Qak):Qas->Qak->Prop:=fun e w'=>∃ f t ok,e=.returned (.tuple #[kyV f,kyV t,.bool ok])/\Zc1 s n=(if ok=true then some (f,t) else none)/\Qat w.heap.size w w'
theorem Zby {s:Rm}{n:Nd}{w w':Qak}(f t:Ky) (ok:Bool) (h:Zc1 s n=if ok=true then some (f,t) else none) (hb:Qat w.heap.size w w'):Yay s n w (.returned (.tuple #[kyV f,kyV t,.bool ok])) w':=⟨f,t,ok,rfl,h,hb⟩
def Z13 (s:Rm) (l:Nat):Prop:=∀ (u v0 v1 v2 v3:Qal) (n:Nd) (Bs Be:Nat) (w:Qak),mayN n=true->n.1=(l:Int)->n.2.length≠0->Nod (Old w) w u n->Sto (Old w) w (.agg #[v0,v1,v2,v3]) s->Z3f Bs v0 v1 v2 v3 w->Z2f Be (Ybl Bs Be) w ->
  Qar Tryz.prog 69 #[u,.pointer (some ⟨Bs,0,none⟩),.pointer (some ⟨Be,0,none⟩)] w (Yay s n w)
theorem Zzg (s:Rm) (hm:Xj s=true) (l0:Nat) (hr0:∀ j,l0=j+1->Z13 s j):Z13 s l0:=by{
 intro u v0 v1 v2 v3 n Bs Be w hmn0 hlv hne hu h hBs hBe;have hmn:=Za hmn0;obtain⟨I,ci,rfl,-,-,-,hI⟩:=id hu.open;obtain⟨lw,hlw⟩:∃ q,n.1=q:=⟨_,rfl⟩
 obtain⟨l,hl⟩:∃ q,n.2=q:=⟨_,rfl⟩
 obtain⟨m,hlm⟩:∃ q,l.length=q:=⟨_,rfl⟩
 obtain⟨R,hR⟩:∃ R,Zc1 s n=R:=⟨_,rfl⟩
 have hR0:=Za (fun(x y:It) (j:Nat) (h1:n.1=0) (h2:n.2[0]? = some x) (h3:n.2.length=j+1) (h4:n.2[j]? = some y)=>Zn4 (s:=s) h1 h2 h3 h4);have hR1:=Za (fun(j:Nat) (hj:n.1=((j+1:Nat):Int))=>Zo3 (s:=s) hj);rw[hR] at hR0 hR1;have hu':=hu;rw[hl,hlm] at hI;rw[hlw,hl,hlm] at hu';rw[hlw,hl,hlm] at hR0;rw[hlw,hl] at hR1;rw[hl,hlw,hlm];rw[hlw] at hlv;rw[hl,hlm] at hne;have hm5:m<=5:=by
  have:=(Zv hmn.out).1.2.2.1;rw[hl,hlm] at this;exact this
 have HG0:Bag w [Z2f Be (Ybl Bs Be),Z3f Bs v0 v1 v2 v3,Z53 (.agg #[.int .i64 lw,.slice I m ci]) n,Zyf (.slice I m ci) l,Zrs (.agg #[v0,v1,v2,v3]) s] :=
  (((((Bag.nil w).add (F:=Zrs _ s) h (V7 _ _)).add (F:=Zyf _ l) hI (Zj4 _ _)).add (F:=Z53 _ n) hu' (Zch _ _)).add (F:=Z3f _ _ _ _ _) hBs (V8 _ _ _ _ _)).add (F:=Z2f _ _) hBe (Zd0 _ _)
 obtain⟨w0,hw0,b0,hs0,hB0⟩:=Yd w (.int .i64 lw) (.slice I m ci) 81;obtain⟨w1,hw1,_,_,_,hs1,hB1,b1⟩:=Xd w0 (.int .u8 0) (.int .u32 0) (.int .u32 0) 37;obtain⟨w2,hw2,_,_,_,hs2,hB2,b2⟩:=Xd w1 (.int .u8 0) (.int .u32 0) (.int .u32 0) 37;have HG:=Za HG0;have BB:=Za ((hB0.trans (hB1.mono hB0.size)).trans (hB2.mono (hB0.trans (hB1.mono hB0.size)).size));have G0:Yh w.heap.size #[.int .i64 lw,.slice I m ci] 81 w2:=Zr _ _ _ _ _ (Zr _ _ _ _ _ b0 hB1) hB2;have G1:Yh w0.heap.size #[.int .u8 0,.int .u32 0,.int .u32 0] 37 w2:=Zr _ _ _ _ _ b1 hB2;have G2:Yh w1.heap.size #[.int .u8 0,.int .u32 0,.int .u32 0] 37 w2:=b2;have lo:Hid (w.heap.size<w0.heap.size/\w0.heap.size<w1.heap.size/\w1.heap.size<w2.heap.size):=Za ⟨by omega,by omega,by omega⟩;obtain⟨y0,y1,_⟩:=Zg G0;replace hs2:=Za hs2;replace hs1:=Za hs1;replace hs0:=Za hs0;replace hlw:=Za hlw;replace hl:=Za hl;replace hlm:=Za hlm;replace hlv:=Za hlv;replace hR:=Za hR;replace G0:=Za G0;replace G1:=Za G1;replace G2:=Za G2;clear HG0 h hu hu' hB2 hB1 hB0 hI hBs hBe b0 b1 b2 hmn0;obtain⟨m1,hm1⟩:∃ j,m=j+1:=⟨m-1,by omega⟩
 obtain⟨x0,hx0⟩:∃ x,l[0]? = some x:=⟨_,Qh (by rw[hlm.out];omega)⟩
 obtain⟨yl,hyl⟩:∃ x,l[m1]? = some x:=⟨_,Qh (by rw[hlm.out];omega)⟩
 have hx0':=Za hx0;have hyl':=Za hyl;have HW2:=Za (HG.out.below BB.out);obtain⟨ad,E0,ce0,rfl,_,FX0⟩:=Zf2 (HW2.out.at 3 rfl:Zag (Old w2) w2 [.slice I m ci] l) hx0;have FX:=Za (fun W (hW:Qat w2.heap.size w2 W)=>(FX0 W hW).1);have iz:0<m:=by omega
 cases l0 with
 | zero =>
  obtain⟨ad',E6,ce6,e6,_,_,_,FY0⟩:=V5 (HW2.out.at 3 rfl:Zag (Old w2) w2 [.slice (some ad) m ci] l) hyl;cases e6;have FY:=Za (fun W (hW:Qat w2.heap.size w2 W)=>(FY0 W hW).1);have e0:lw=0:=hlv.out;subst e0;obtain⟨b,hb⟩:∃ b,Yt s l=b:=⟨_,rfl⟩
  have hfin:=Za (hR0.out x0 yl m1 rfl hx0 hm1 hyl);rw[hb] at hfin;replace hb:=Za hb;have i6:(m:Int)-1=(m1:Int):=by omega
  have i7:(m1:Int)<(m:Int):=by omega
  have i8:(0:Int)<=(m1:Int):=by omega
  have i9:IntKind.i64.wrap (m1:Int)=(m1:Int):=Pw _ (by omega);have i0:(0:Int)<(m:Int):=by omega
  replace hm1:=Za hm1;clear hR0 hR1 hx0 hyl FX0 FY0
  go_enter Tryz.func69,Tryz.ntmps69
  go_upto_region 1 with fail
  clear hw0 hw1 hw2
  go_wp2_with fail
  clear y0 y1;obtain⟨o4,ho4⟩:∃ o,(Obj.cells #[.int .u8 (x0.1.1.toNat:Int),.int .u32 x0.1.2.1,.int .u32 x0.1.2.2] 37 (0,0))=o:=⟨_,rfl⟩
  obtain⟨o5,ho5⟩:∃ o,(Obj.cells #[.int .u8 (yl.1.1.toNat:Int),.int .u32 yl.1.2.1,.int .u32 yl.1.2.2] 37 (0,0))=o:=⟨_,rfl⟩
  obtain⟨fin,hfn⟩:∃ f,Zhc w0.heap.size o4 w1.heap.size o5=f:=⟨_,rfl⟩
  have fn4:Hid (fin w0.heap.size=some o4):=Za (by rw[<- hfn];exact Zg7 _ _ _ _);have fn5:Hid (fin w1.heap.size=some o5):=Za (by rw[<- hfn];exact Zgu (by have:=lo.out;omega) _ _);have fnl:Hid (∀ k,k<w0.heap.size->fin k=none):=Za fun k hk=>by rw[<- hfn];exact Ze9 (by omega) (by have:=lo.out;omega) _ _
  replace ho4:=Za ho4;replace ho5:=Za ho5;replace hfn:=Za hfn;have HW0:=Za (fun W (hK:Yr fin w2 W)=>BB.out.trans (hK.below BB.out.size (fun k hk=>fnl.out k (by have:=lo.out;omega))));have hcl:Hid (∀ W,Yr fin w2 W->Qar Tryz.prog 70 #[.agg #[v0,v1,v2,v3],.agg #[.int .i64 0,.slice (some ad) m ci]] W fun e W'=>e=.returned (.bool b)/\Qat W.heap.size W W'):=Za fun W hK=>by
   have HW:=HG.out.below (HW0.out W hK);have:=Z5o _ _ s hm n hmn.out W (HW.at 4 rfl) (HW.at 2 rfl);rw[hl.out,hb.out] at this;exact this
  have FXK:Hid (∀ W,Yr fin w2 W->∃ d,At5 W ad x0 d):=Za fun W hK=>by
   obtain⟨_,_,_,e,_,F⟩:=Zf2 ((HG.out.below (HW0.out W hK)).at 3 rfl:Zag (Old W) W [.slice (some ad) m ci] l) hx0'.out;cases e;exact⟨_,(F W (Qc _ _)).1⟩
  have FYK:Hid (∀ W,Yr fin w2 W->∃ d,At5 W (ad.add (m1*5)) yl d):=Za fun W hK=>by
   obtain⟨_,_,_,e,_,_,_,F⟩:=V5 ((HG.out.below (HW0.out W hK)).at 3 rfl:Zag (Old W) W [.slice (some ad) m ci] l) hyl'.out;cases e;exact⟨_,(F W (Qc _ _)).1⟩
  have KS:Hid (∀ W,Yr fin w2 W->W.heap[w.heap.size]? = some (.cells #[.int .i64 0,.slice (some ad) m ci] 81 (0,0))):=Za fun W hK=>hK.other (fnl.out _ lo.out.1) G0.out
  have K4:Hid (∀ W,Yr fin w2 W->∃ a b c,W.heap[w0.heap.size]? = some (.cells #[a,b,c] 37 (0,0))):=Za fun W hK=>by
   rcases hK.box fn4.out G1.out with e | e
   ·exact⟨_,_,_,e⟩
   ·rw[<- ho4.out] at e;exact⟨_,_,_,e⟩
  have K5:Hid (∀ W,Yr fin w2 W->∃ a b c,W.heap[w1.heap.size]? = some (.cells #[a,b,c] 37 (0,0))):=Za fun W hK=>by
   rcases hK.box fn5.out G2.out with e | e
   ·exact⟨_,_,_,e⟩
   ·rw[<- ho5.out] at e;exact⟨_,_,_,e⟩
  refine Rb.wp_region_fx (Yr fin) (by kernel_rfl) (fun W=>Yr fin w2 W) (fun i=>match i with
   | 17=>some (fun _ W=>W.heap[w0.heap.size]? = some o4)
   | 18=>some (fun _ W=>W.heap[w1.heap.size]? = some o5)
   | _=>none) (fun i=>match i with
   | 16=>some (.bool b)
   | _=>none) (by kernel_rfl) (Yr.refl _ _).drew (fun w w' h hb=>h.trans hb) ?tst ?_
  case tst =>
   intro j φ x W W' hp hx hb
   match j,hp with
   | 17,hp=>cases hp;exact hb.done fn4.out hx
   | 18,hp=>cases hp;exact hb.done fn5.out hx
  repeat (first
   | (refine Rb.wpAs_skip rfl ?_;simp only[Qs,Zb,Zc,Zd])
   | (refine Rb.wpAs_pure (v := ?_) rfl rfl ?_ ?_;rotate_left;(intro W hC hE;clear hE;(obtain⟨y0,y1,_⟩:=Zg (KS.out W hC);obtain⟨_,z0,z1,z2,_,_⟩:=FXK.out W hC;obtain⟨_,u0,u1,u2,_,_⟩:=FYK.out W hC;obtain⟨k0,k1,k2,k3,_⟩:=(HG.out.below (HW0.out W hC)).at 1 rfl);clear hC;go_simp;first | done | with_reducible rfl);simp only[Qs,Zb,Zc,Zd]))
  refine Rb.wpAs_fixed rfl rfl rfl ?_ ?_
  ·intro W hC hE
   clear hE;refine Rb.does_enter (f:=70) (args:=#[.agg #[v0,v1,v2,v3],.agg #[.int .i64 0,.slice (some ad) m ci]]) ?_ ?_
   ·go_simp
   ·refine(hcl.out W hC).mono ?_
    rintro e W' ⟨rfl,hg⟩;exact⟨_,rfl,rfl,Yr.of_below hg⟩
  simp only[Qs,Zb,Zc,Zd];refine Rb.wpAs_act rfl rfl ?_ ?_
  ·intro W hC hE
   clear hE;obtain⟨a,b,c,G⟩:=K4.out W hC;obtain⟨q0,q1,q2,q3,_⟩:=Zk G;obtain⟨W1,hW1,g1,gr1,_⟩:=Y5 (a':=.int .u8 (x0.1.1.toNat:Int)) (b':=.int .u32 x0.1.2.1) (c':=.int .u32 x0.1.2.2) G;rw[ho4.out] at g1;have hk:=Za (Yr.of_grown gr1 fn4.out g1);replace g1:=Za g1;clear gr1 G hC
   go_simp
   exact⟨g1.out,hk.out⟩
  simp only[Qs,Rb.envAdd];intro _;refine Rb.wpAs_act rfl rfl ?_ ?_
  ·intro W hC hE
   clear hE;obtain⟨a,b,c,G⟩:=K5.out W hC;obtain⟨q0,q1,q2,q3,_⟩:=Zk G;obtain⟨W1,hW1,g1,gr1,_⟩:=Y5 (a':=.int .u8 (yl.1.1.toNat:Int)) (b':=.int .u32 yl.1.2.1) (c':=.int .u32 yl.1.2.2) G;rw[ho5.out] at g1;have hk:=Za (Yr.of_grown gr1 fn5.out g1);replace g1:=Za g1;clear gr1 G hC
   go_simp
   exact⟨g1.out,hk.out⟩
  simp only[Qs,Rb.envAdd];intro _
  repeat (first
   | (refine Rb.wpAs_skip rfl ?_;simp only[Qs,Zb,Zc,Zd])
   | (refine Rb.wpAs_pure (v := ?_) rfl rfl ?_ ?_;rotate_left;(intro W hC hE;clear hE;skip;clear hC;go_simp;first | done | with_reducible rfl);simp only[Qs,Zb,Zc,Zd]))
  refine Rb.wpAs_end fun W hC hE=> ?_
  have e5:=hE.1;have e4:=hE.2.1;have hB9:=Za (HW0.out W hC);rw[<- ho4.out] at e4;rw[<- ho5.out] at e5;obtain⟨n0,n1,n2,_⟩:=Zk e4;obtain⟨q0,q1,q2,_⟩:=Zk e5;replace e4:=Za e4;replace e5:=Za e5;clear hE hC
  go_wp2_with fail
  refine Qao (v:=.tuple #[kyV x0.1,kyV yl.1,.bool b]) (by simp[results,go_sem,n0,n1,n2,q0,q1,q2]) rfl ?_;exact Zby (x0.1) (yl.1) b (hR.out.trans hfin.out) hB9.out
 | succ l1 =>
  have hrec:=Za (hr0 l1 rfl);have c0:(lw==0)=false:=by have:=hlv.out;simp;omega
  have c1:lw-1=(l1:Int):=by have:=hlv.out;omega
  have c2:IntKind.i64.wrap (l1:Int)=(l1:Int):=by
   have:=(Zv hmn.out).1.2.1;rw[hlw.out,hlv.out] at this;exact Pw _ (by omega)
  have hRC:Hid (R=Y9 (Za9 s l1) l):=Za (hR1.out l1 hlv.out);replace hm1:=Za hm1;clear hR0 hR1 hx0 hyl FX0
  go_enter Tryz.func69,Tryz.ntmps69
  go_upto_region 1 with fail
  clear hw0 hw1 hw2
  go_wp2_with fail
  clear y0 y1
  go_loopw [37] (fun vi wr=>∃ (k:Nat) (t:Ky),k<=m/\vi=.int .i64 k/\StC (Za9 s l1) l k t/\Qat w.heap.size w wr/\w2.heap.size<=wr.heap.size/\Yh w.heap.size #[.int .i64 lw,.slice (some ad) m ci] 81 wr/\Yh w0.heap.size #[.int .u8 0,.int .u32 0,.int .u32 0] 37 wr/\Yh w1.heap.size #[.int .u8 (t.1.toNat:Int),.int .u32 t.2.1,.int .u32 t.2.2] 37 wr) (fun vi _=>m-(intOf vi).toNat)
  case atStart=>exact⟨0,Zbo,by omega,rfl,.inl rfl,BB.out,Qb _,G0.out,G1.out,G2.out⟩
  case round =>
   obtain⟨k,t,hk,rfl,hst,hbr,hsz,g0,g1,g2⟩:=hrel;have HR:=Za (HG.out.below hbr);have BR:=Za hbr;have SZ:=Za hsz;clear hbr hsz;by_cases hlt:k<m
   case neg =>
    have hkm:k=m:=by omega
    have hf:Hid (R=some (x0.1,t)):=Za (by
     subst hkm;rcases hst with e | ⟨f,e⟩
     ·omega
     ·have e1:=Zy2 hx0'.out (by omega) (by rw[hlm.out];omega) e
      rw[Qaf (by rw[hlm.out];omega)] at e
      rw[hRC.out,e,<- e1])
    have i0:(0:Int)<(m:Int):=by omega
    have FXr:=Za (fun W (hW:Qat wr.heap.size wr W)=>(Zf2 (HR.out.at 3 rfl:Zag (Old wr) wr [.slice (some ad) m ci] l) hx0'.out));obtain⟨ad',E6,ce6,e6,_,FZ⟩:=Zf2 (HR.out.at 3 rfl:Zag (Old wr) wr [.slice (some ad) m ci] l) hx0'.out;cases e6;have FZ':=Za (fun W (hW:Qat wr.heap.size wr W)=>(FZ W hW).1);replace hst:=Za hst;replace g0:=Za g0;replace g1:=Za g1;replace g2:=Za g2;clear FXr FZ hkm
    go_upto_region 14 with fail
    obtain⟨y0,y1,_⟩:=Zg g0.out;obtain⟨z0,z1,z2,_,_⟩:=FZ'.out wr (Qc _ _);have G4:wr.heap[w0.heap.size]? = _:=g1.out;have G5:wr.heap[w1.heap.size]? = _:=g2.out;obtain⟨q0,q1,q2,q3,_⟩:=Zk G5;have BW:=Za BR.out;obtain⟨W8,hW8,g8,gr8,gs8⟩:=Y5 (a':=.int .u8 ((x0.1).1.toNat:Int)) (b':=.int .u32 (x0.1).2.1) (c':=.int .u32 (x0.1).2.2) G4;have G8:W8.heap[w1.heap.size]? = _:=(gr8.block w1.heap.size (Qd.1 G5).1 (by simp;have:=lo.out;omega)).trans G5;obtain⟨W9,hW9,g9,gr9,gs9⟩:=Y5 (a':=.int .u8 ((t).1.toNat:Int)) (b':=.int .u32 (t).2.1) (c':=.int .u32 (t).2.2) G8;have g8':W9.heap[w0.heap.size]? = _:=(gr9.block w0.heap.size (Qd.1 g8).1 (by simp;have:=lo.out;omega)).trans g8;obtain⟨f4,f5,f6,f7,_⟩:=Zk G4;obtain⟨j4,j5,j6,j7,_⟩:=Zk G8;obtain⟨n0,n1,n2,_,_⟩:=Zk g8';obtain⟨o0,o1,o2,_,_⟩:=Zk g9;have hB9:=Za ((BW.out.grown gr8 BW.out.size (fun q e=>by cases e;have:=lo.out;omega)).grown gr9 (Qa BW.out.size gr8.size) (fun q e=>by cases e;have:=lo.out;omega));replace G4:=Za G4;replace G5:=Za G5;replace G8:=Za G8;replace g8:=Za g8;replace g8':=Za g8';replace g9:=Za g9;clear gr8 gr9 gs8 gs9
    go_region
    all_goals
     go_wp2_with fail
     refine Qao (v:=.tuple #[kyV x0.1,kyV t,.bool true]) (by simp[results,go_sem,n0,n1,n2,o0,o1,o2]) rfl ?_;exact Zby (x0.1) (t) true (hR.out.trans hf.out) (Zbg hB9.out _)
   obtain⟨x,hx⟩:∃ x,l[k]? = some x:=⟨_,Qh (by rw[hlm.out];exact hlt)⟩
   obtain⟨ad',E5,ce5,e5,_,_,_,FZ⟩:=V5 (HR.out.at 3 rfl:Zag (Old wr) wr [.slice (some ad) m ci] l) hx;cases e5;obtain⟨⟨z0,z1,z2,z3,z4⟩,_⟩:=FZ wr (Qc _ _);have hno1:=Za (fun h1=>hRC.out.trans (Zyz (g:=Za9 s l1) hx h1));have hno2:=Za (fun p h1 h2=>hRC.out.trans (Zyh (g:=Za9 s l1) (p:=p) hx h1 h2));have hno3:=Za (fun h1 h2=>hRC.out.trans (Z17 (g:=Za9 s l1) hx h1 hst h2));have hyes:=Za (fun p h1 h2 h3=>Zyy (g:=Za9 s l1) (p:=p) hx hst h1 h2 h3);have i4:(0:Int)<=(k:Int):=by omega
   have i5:(k:Int)<(m:Int):=by omega
   replace hst:=Za hst;replace hx:=Za hx;obtain⟨w3,hw3,hg3,hB3,-,hs3⟩:=Z3x (((HR.out.add (F:=Yh _ _ _) g2 (Zr _ _ _)).add (F:=Yh _ _ _) g1 (Zr _ _ _)).add (F:=Yh _ _ _) g0 (Zr _ _ _)) (Qc _ _) (.int .u8 (x.1.1.toNat:Int)) (.int .u32 x.1.2.1) (.int .u32 x.1.2.2) (.int .i64 x.2.1) (.slice E5 x.2.2.length ce5);have H3:=Za hg3;have B3:=Za (BR.out.trans (hB3.mono BR.out.size));have S3:=Za (Qa SZ.out hB3.size);replace hs3:=Za hs3;clear FZ hg3 hB3 g0 g1 g2 HR BR SZ
   go_upto_region 6 with fail
   clear hw3 z0 z1 z2 z3 z4;obtain⟨k0,k1,k2,k3,_⟩:=H3.out.at 5 rfl;obtain⟨r0,r1,r2,r3,r4,_⟩:=H3.out.at 0 rfl;have hNd:=Za (fun v W hW=>Zd9 v s x.2.1 W hW);have hmy:=Za (fun hh=>(Ya (s:=s) (a:=x.2.1) hh).1);have hsn:=Za (fun hh=>hno1.out (Z7q (s:=s) (l:=l1) (a:=x.2.1) hh));have hsy:=Za (fun h1 h2=>Z3b (s:=s) (l:=l1) (a:=x.2.1) h1 h2);obtain⟨nb,hnb⟩:∃ q,rmV s x.2.1=q:=⟨_,rfl⟩
   obtain⟨eb,heb⟩:∃ q,rmE s x.2.1=q:=⟨_,rfl⟩
   rw[hnb,heb] at hNd hsn hsy;rw[hnb,heb] at hmy;obtain⟨lb,hlb⟩:∃ q,nb.1=q:=⟨_,rfl⟩
   obtain⟨mb,hmb⟩:∃ q,nb.2.length=q:=⟨_,rfl⟩
   rw[hlb,hmb] at hNd hsn;rw[hlb] at hsy;replace hnb:=Za hnb;replace heb:=Za heb;replace hlb:=Za hlb;replace hmb:=Za hmb
   go_wp2_with fail
   with_reducible refine(hNd.out _ _ (H3.out.at 8 rfl)).mono ?_
   rintro e w4 ⟨Z,zc,rfl,-,h4n,hb4⟩;obtain⟨w5,hw5,hg5,hB5,-,hs5⟩:=Zf8 ((H3.out.below hb4).add (F:=Z53 _ nb) h4n.drop (Zch _ _)) (Qc _ _) (.int .i64 lb) (.slice Z mb zc);have H5:=Za hg5;have B5:=Za (B3.out.trans ((hb4.trans (hB5.mono hb4.size)).mono B3.out.size));have S5:=Za (Qa S3.out (hb4.trans (hB5.mono hb4.size)).size);replace hs5:=Za hs5;clear k0 k1 k2 k3 r0 r1 r2 r3 r4 hg5 hB5 hb4 h4n H3 B3 S3 hNd
   go_upto_region 7 with fail
   clear hw5;obtain⟨y0,y1,_⟩:=H5.out.at 0 rfl;obtain⟨f0,f1,_⟩:=Zg (H5.out.at 3 rfl);by_cases he:eb=0
   case neg =>
    have e1:(eb != 0)=true:=by simpa using he
    have hf:=Za (hsn.out (fun hh=>he hh.1));clear he;have G4:w5.heap[w0.heap.size]? = _:=H5.out.at 4 rfl;have G5:w5.heap[w1.heap.size]? = _:=H5.out.at 5 rfl;have BW:=Za B5.out;obtain⟨W8,hW8,g8,gr8,gs8⟩:=Y5 (a':=.int .u8 0) (b':=.int .u32 0) (c':=.int .u32 0) G4;have G8:W8.heap[w1.heap.size]? = _:=(gr8.block w1.heap.size (Qd.1 G5).1 (by simp;have:=lo.out;omega)).trans G5;obtain⟨W9,hW9,g9,gr9,gs9⟩:=Y5 (a':=.int .u8 0) (b':=.int .u32 0) (c':=.int .u32 0) G8;have g8':W9.heap[w0.heap.size]? = _:=(gr9.block w0.heap.size (Qd.1 g8).1 (by simp;have:=lo.out;omega)).trans g8;obtain⟨f4,f5,f6,f7,_⟩:=Zk G4;obtain⟨j4,j5,j6,j7,_⟩:=Zk G8;obtain⟨n0,n1,n2,_,_⟩:=Zk g8';obtain⟨o0,o1,o2,_,_⟩:=Zk g9;have hB9:=Za ((BW.out.grown gr8 BW.out.size (fun q e=>by cases e;have:=lo.out;omega)).grown gr9 (Qa BW.out.size gr8.size) (fun q e=>by cases e;have:=lo.out;omega));replace G4:=Za G4;replace G5:=Za G5;replace G8:=Za G8;replace g8:=Za g8;replace g8':=Za g8';replace g9:=Za g9;clear gr8 gr9 gs8 gs9
    go_wp2_with fail
    refine Qao (v:=.tuple #[.agg #[.int .u8 0,.int .u32 0,.int .u32 0],.agg #[.int .u8 0,.int .u32 0,.int .u32 0],.bool false]) (by simp[results,go_sem,n0,n1,n2,o0,o1,o2]) rfl ?_;exact Zby (Zbo) (Zbo) false (hR.out.trans hf.out) hB9.out
   subst he;by_cases hv:lb=(l1:Int)
   case neg =>
    have e1:(lb != (l1:Int))=true:=by simpa using hv
    have hf:=Za (hsn.out (fun hh=>hv hh.2.1));clear hv;have G4:w5.heap[w0.heap.size]? = _:=H5.out.at 4 rfl;have G5:w5.heap[w1.heap.size]? = _:=H5.out.at 5 rfl;have BW:=Za B5.out;obtain⟨W8,hW8,g8,gr8,gs8⟩:=Y5 (a':=.int .u8 0) (b':=.int .u32 0) (c':=.int .u32 0) G4;have G8:W8.heap[w1.heap.size]? = _:=(gr8.block w1.heap.size (Qd.1 G5).1 (by simp;have:=lo.out;omega)).trans G5;obtain⟨W9,hW9,g9,gr9,gs9⟩:=Y5 (a':=.int .u8 0) (b':=.int .u32 0) (c':=.int .u32 0) G8;have g8':W9.heap[w0.heap.size]? = _:=(gr9.block w0.heap.size (Qd.1 g8).1 (by simp;have:=lo.out;omega)).trans g8;obtain⟨f4,f5,f6,f7,_⟩:=Zk G4;obtain⟨j4,j5,j6,j7,_⟩:=Zk G8;obtain⟨n0,n1,n2,_,_⟩:=Zk g8';obtain⟨o0,o1,o2,_,_⟩:=Zk g9;have hB9:=Za ((BW.out.grown gr8 BW.out.size (fun q e=>by cases e;have:=lo.out;omega)).grown gr9 (Qa BW.out.size gr8.size) (fun q e=>by cases e;have:=lo.out;omega));replace G4:=Za G4;replace G5:=Za G5;replace G8:=Za G8;replace g8:=Za g8;replace g8':=Za g8';replace g9:=Za g9;clear gr8 gr9 gs8 gs9
    go_wp2_with fail
    refine Qao (v:=.tuple #[.agg #[.int .u8 0,.int .u32 0,.int .u32 0],.agg #[.int .u8 0,.int .u32 0,.int .u32 0],.bool false]) (by simp[results,go_sem,n0,n1,n2,o0,o1,o2]) rfl ?_;exact Zby (Zbo) (Zbo) false (hR.out.trans hf.out) hB9.out
   have e1:(lb != (l1:Int))=false:=by simp[hv]
   replace hv:=Za hv;by_cases hz:mb=0
   ·have e2:((mb:Int)==0)=true:=by simp[hz]
    have hf:=Za (hsn.out (fun hh=>hh.2.2 hz));replace hz:=Za hz;have G4:w5.heap[w0.heap.size]? = _:=H5.out.at 4 rfl;have G5:w5.heap[w1.heap.size]? = _:=H5.out.at 5 rfl;have BW:=Za B5.out;obtain⟨W8,hW8,g8,gr8,gs8⟩:=Y5 (a':=.int .u8 0) (b':=.int .u32 0) (c':=.int .u32 0) G4;have G8:W8.heap[w1.heap.size]? = _:=(gr8.block w1.heap.size (Qd.1 G5).1 (by simp;have:=lo.out;omega)).trans G5;obtain⟨W9,hW9,g9,gr9,gs9⟩:=Y5 (a':=.int .u8 0) (b':=.int .u32 0) (c':=.int .u32 0) G8;have g8':W9.heap[w0.heap.size]? = _:=(gr9.block w0.heap.size (Qd.1 g8).1 (by simp;have:=lo.out;omega)).trans g8;obtain⟨f4,f5,f6,f7,_⟩:=Zk G4;obtain⟨j4,j5,j6,j7,_⟩:=Zk G8;obtain⟨n0,n1,n2,_,_⟩:=Zk g8';obtain⟨o0,o1,o2,_,_⟩:=Zk g9;have hB9:=Za ((BW.out.grown gr8 BW.out.size (fun q e=>by cases e;have:=lo.out;omega)).grown gr9 (Qa BW.out.size gr8.size) (fun q e=>by cases e;have:=lo.out;omega));replace G4:=Za G4;replace G5:=Za G5;replace G8:=Za G8;replace g8:=Za g8;replace g8':=Za g8';replace g9:=Za g9;clear gr8 gr9 gs8 gs9
    go_wp2_with fail
    refine Qao (v:=.tuple #[.agg #[.int .u8 0,.int .u32 0,.int .u32 0],.agg #[.int .u8 0,.int .u32 0,.int .u32 0],.bool false]) (by simp[results,go_sem,n0,n1,n2,o0,o1,o2]) rfl ?_;exact Zby (Zbo) (Zbo) false (hR.out.trans hf.out) hB9.out
   have e2:((mb:Int)==0)=false:=by simpa using hz
   replace hz:=Za hz;have hspan:=Za (hsy.out rfl hv.out);have hmb':=Za (hmy.out rfl);obtain⟨c3,c4⟩:=(H5.out.at 6 rfl:Z2f Be (Ybl Bs Be) w5)
   have hcall:=Za (hrec.out (.agg #[.int .i64 lb,.slice Z mb zc]) v0 v1 v2 v3 nb Bs Be w5 hmb'.out (by rw[hlb.out,hv.out]) (by rw[hmb.out];exact hz.out) (H5.out.at 1 rfl) (H5.out.at 10 rfl) (H5.out.at 7 rfl) (H5.out.at 6 rfl));clear hsn hsy hmy
   go_upto_region 9 with fail
   clear e1 e2 f0 f1
   go_wp2_with fail
   with_reducible refine hcall.out.mono ?_
   rintro e w6 ⟨f',t',ok,rfl,hsp,hb6⟩;obtain⟨w7,hw7,p0,p1,p2,hs7,hB7,_⟩:=Xd w6 (.int .u8 (f'.1.toNat:Int)) (.int .u32 f'.2.1) (.int .u32 f'.2.2) 37;have hg7:=((H5.out.below hb6).below hB7).add (F:=Ych w6.heap.size _ _ _) ⟨p0,p1,p2,by omega⟩ (Zk9 _ _ _ _);obtain⟨w8,hw8,hg8,hB8,hB8',hs8⟩:=Zr4 hg7 (Qc _ _) (.int .u8 (t'.1.toNat:Int)) (.int .u32 t'.2.1) (.int .u32 t'.2.2);have H8:=Za hg8;have hb8:=hb6.trans ((hB7.trans (hB8.mono hB7.size)).mono hb6.size);have B8:=Za (B5.out.trans (hb8.mono B5.out.size));have S8:=Za (Qa S5.out hb8.size);replace hs8:=Za hs8;clear p0 p1 p2 hg7 hg8 hB7 hB8 hB8' hb6 hb8 y0 y1 c3 c4 hcall H5 B5 S5
   go_upto_region 10 with fail
   clear hw7 hw8;obtain⟨p0,p1,p2,_⟩:=H8.out.at 1 rfl;obtain⟨q0,q1,q2,_⟩:=H8.out.at 0 rfl;rw[hs7] at q0 q1 q2;replace hs7:=Za hs7;obtain⟨r0,r1,r2,r3,r4,_⟩:=H8.out.at 4 rfl;have hg2:w8.heap[w1.heap.size]? = _:=H8.out.at 7 rfl;obtain⟨d0,d1,d2,d3,_⟩:=Zk hg2;have G4:w8.heap[w0.heap.size]? = _:=H8.out.at 6 rfl;have G5:w8.heap[w1.heap.size]? = _:=H8.out.at 7 rfl;have BW:=Za B8.out;replace hg2:=Za hg2;cases ok with
   | false =>
    have hf:=Za (hno1.out (hspan.out.trans hsp));clear d3 hno2 hno3 hyes;obtain⟨W8,hW8,g8,gr8,gs8⟩:=Y5 (a':=.int .u8 0) (b':=.int .u32 0) (c':=.int .u32 0) G4;have G8:W8.heap[w1.heap.size]? = _:=(gr8.block w1.heap.size (Qd.1 G5).1 (by simp;have:=lo.out;omega)).trans G5;obtain⟨W9,hW9,g9,gr9,gs9⟩:=Y5 (a':=.int .u8 0) (b':=.int .u32 0) (c':=.int .u32 0) G8;have g8':W9.heap[w0.heap.size]? = _:=(gr9.block w0.heap.size (Qd.1 g8).1 (by simp;have:=lo.out;omega)).trans g8;obtain⟨f4,f5,f6,f7,_⟩:=Zk G4;obtain⟨j4,j5,j6,j7,_⟩:=Zk G8;obtain⟨n0,n1,n2,_,_⟩:=Zk g8';obtain⟨o0,o1,o2,_,_⟩:=Zk g9;have hB9:=Za ((BW.out.grown gr8 BW.out.size (fun q e=>by cases e;have:=lo.out;omega)).grown gr9 (Qa BW.out.size gr8.size) (fun q e=>by cases e;have:=lo.out;omega));replace G4:=Za G4;replace G5:=Za G5;replace G8:=Za G8;replace g8:=Za g8;replace g8':=Za g8';replace g9:=Za g9;clear gr8 gr9 gs8 gs9
    go_wp2_with fail
    refine Qao (v:=.tuple #[.agg #[.int .u8 0,.int .u32 0,.int .u32 0],.agg #[.int .u8 0,.int .u32 0,.int .u32 0],.bool false]) (by simp[results,go_sem,n0,n1,n2,o0,o1,o2]) rfl ?_;exact Zby (Zbo) (Zbo) false (hR.out.trans hf.out) hB9.out
   | true =>
   have hsp':=Za (hspan.out.trans (hsp.trans (if_pos rfl)));have hke:=Z5u f' x.1;have hkg:=Zok;unfold kyV at hke;by_cases hkk:f'=x.1
   case neg =>
    have g3:decide (f'=x.1)=false:=by simpa using hkk
    rw[g3] at hke;have hf:=Za (hno2.out _ hsp'.out hkk);clear d3 hkk hno1 hno2 hno3 hyes;obtain⟨W8,hW8,g8,gr8,gs8⟩:=Y5 (a':=.int .u8 0) (b':=.int .u32 0) (c':=.int .u32 0) G4;have G8:W8.heap[w1.heap.size]? = _:=(gr8.block w1.heap.size (Qd.1 G5).1 (by simp;have:=lo.out;omega)).trans G5;obtain⟨W9,hW9,g9,gr9,gs9⟩:=Y5 (a':=.int .u8 0) (b':=.int .u32 0) (c':=.int .u32 0) G8;have g8':W9.heap[w0.heap.size]? = _:=(gr9.block w0.heap.size (Qd.1 g8).1 (by simp;have:=lo.out;omega)).trans g8;obtain⟨f4,f5,f6,f7,_⟩:=Zk G4;obtain⟨j4,j5,j6,j7,_⟩:=Zk G8;obtain⟨n0,n1,n2,_,_⟩:=Zk g8';obtain⟨o0,o1,o2,_,_⟩:=Zk g9;have hB9:=Za ((BW.out.grown gr8 BW.out.size (fun q e=>by cases e;have:=lo.out;omega)).grown gr9 (Qa BW.out.size gr8.size) (fun q e=>by cases e;have:=lo.out;omega));replace G4:=Za G4;replace G5:=Za G5;replace G8:=Za G8;replace g8:=Za g8;replace g8':=Za g8';replace g9:=Za g9;clear gr8 gr9 gs8 gs9
    go_wp2_with fail
    refine Qao (v:=.tuple #[.agg #[.int .u8 0,.int .u32 0,.int .u32 0],.agg #[.int .u8 0,.int .u32 0,.int .u32 0],.bool false]) (by simp[results,go_sem,n0,n1,n2,o0,o1,o2]) rfl ?_;exact Zby (Zbo) (Zbo) false (hR.out.trans hf.out) hB9.out
   have g3:decide (f'=x.1)=true:=by simpa using hkk
   rw[g3] at hke;have hkk':=Za hkk;clear hkk hno1 hno2 hsp;by_cases hk0:k=0
   ·have i0:¬ (0:Int)<(k:Int):=by omega
    have hn:=Za (hyes.out (f',t') (fun hh=>absurd hk0 hh) hsp'.out hkk'.out);have hk0':=Za hk0;clear hk0;obtain⟨W9,hW9,g9,gr9,gs9⟩:=Y5 (a':=.int .u8 (t'.1.toNat:Int)) (b':=.int .u32 t'.2.1) (c':=.int .u32 t'.2.2) hg2.out;have hB9:=Za (BW.out.grown gr9 BW.out.size (fun q e=>by cases e;have:=lo.out;omega));have S9:=Za (Qa S8.out gr9.size);have b9:=Za ((gr9.block w.heap.size (by have:=lo.out;have:=S8.out;omega) (by simp;have:=lo.out;omega)).trans (H8.out.at 5 rfl));have c9:=Za ((gr9.block w0.heap.size (by have:=lo.out;have:=S8.out;omega) (by simp;have:=lo.out;omega)).trans (H8.out.at 6 rfl));replace g9:=Za g9;clear gr9 gs9
    go_wp2_with fail
    go_roundw
    case rel=>exact⟨k+1,t',by omega,by go_num,hn.out,hB9.out,S9.out,b9.out,c9.out,g9.out⟩
    case measure=>simp[intOf];omega
   ·have i0:(0:Int)<(k:Int):=by omega
    obtain⟨q,hq⟩:∃ q,Zn t x.1=q:=⟨_,rfl⟩
    have hls:=Za (Zee t x.1 w8);rw[hq] at hls
    go_wp2_with fail
    with_reducible refine hls.out.mono ?_
    rintro e w9 ⟨rfl,hb9⟩;cases q with
    | false =>
     have hf:=Za (hno3.out hk0 hq);replace G4:=(hb9.block w0.heap.size (by have:=lo.out;have:=S8.out;omega)).trans G4;replace G5:=(hb9.block w1.heap.size (by have:=lo.out;have:=S8.out;omega)).trans G5;replace BW:=Za (B8.out.trans (hb9.mono B8.out.size));replace hq:=Za hq;clear d0 d1 d2 d3 hb9 hno3 hyes hk0;obtain⟨W8,hW8,g8,gr8,gs8⟩:=Y5 (a':=.int .u8 0) (b':=.int .u32 0) (c':=.int .u32 0) G4;have G8:W8.heap[w1.heap.size]? = _:=(gr8.block w1.heap.size (Qd.1 G5).1 (by simp;have:=lo.out;omega)).trans G5;obtain⟨W9,hW9,g9,gr9,gs9⟩:=Y5 (a':=.int .u8 0) (b':=.int .u32 0) (c':=.int .u32 0) G8;have g8':W9.heap[w0.heap.size]? = _:=(gr9.block w0.heap.size (Qd.1 g8).1 (by simp;have:=lo.out;omega)).trans g8;obtain⟨f4,f5,f6,f7,_⟩:=Zk G4;obtain⟨j4,j5,j6,j7,_⟩:=Zk G8;obtain⟨n0,n1,n2,_,_⟩:=Zk g8';obtain⟨o0,o1,o2,_,_⟩:=Zk g9;have hB9:=Za ((BW.out.grown gr8 BW.out.size (fun q e=>by cases e;have:=lo.out;omega)).grown gr9 (Qa BW.out.size gr8.size) (fun q e=>by cases e;have:=lo.out;omega));replace G4:=Za G4;replace G5:=Za G5;replace G8:=Za G8;replace g8:=Za g8;replace g8':=Za g8';replace g9:=Za g9;clear gr8 gr9 gs8 gs9
     go_wp2_with fail
     refine Qao (v:=.tuple #[.agg #[.int .u8 0,.int .u32 0,.int .u32 0],.agg #[.int .u8 0,.int .u32 0,.int .u32 0],.bool false]) (by simp[results,go_sem,n0,n1,n2,o0,o1,o2]) rfl ?_;exact Zby (Zbo) (Zbo) false (hR.out.trans hf.out) hB9.out
    | true =>
     have hn:=Za (hyes.out (f',t') (fun _=>hq) hsp'.out hkk'.out);replace H8:=Za (H8.out.below hb9);replace B8:=Za (B8.out.trans (hb9.mono B8.out.size));replace S8:=Za (Qa S8.out hb9.size);replace BW:=Za B8.out;replace hq:=Za hq;replace hg2:Hid (w9.heap[w1.heap.size]? = _):=Za (H8.out.at 7 rfl);clear hb9 p0 p1 p2 q0 q1 q2 r0 r1 r2 r3 r4 d0 d1 d2 d3 G4 G5 hno3 hyes hk0;obtain⟨q0,q1,q2,_⟩:=H8.out.at 0 rfl;rw[hs7.out] at q0 q1 q2;obtain⟨d0,d1,d2,d3,_⟩:=Zk hg2.out;obtain⟨W9,hW9,g9,gr9,gs9⟩:=Y5 (a':=.int .u8 (t'.1.toNat:Int)) (b':=.int .u32 t'.2.1) (c':=.int .u32 t'.2.2) hg2.out;have hB9:=Za (BW.out.grown gr9 BW.out.size (fun q e=>by cases e;have:=lo.out;omega));have S9:=Za (Qa S8.out gr9.size);have b9:=Za ((gr9.block w.heap.size (by have:=lo.out;have:=S8.out;omega) (by simp;have:=lo.out;omega)).trans (H8.out.at 5 rfl));have c9:=Za ((gr9.block w0.heap.size (by have:=lo.out;have:=S8.out;omega) (by simp;have:=lo.out;omega)).trans (H8.out.at 6 rfl));replace g9:=Za g9;clear gr9 gs9
     go_wp2_with fail
     go_roundw
     case rel=>exact⟨k+1,t',by omega,by go_num,hn.out,hB9.out,S9.out,b9.out,c9.out,g9.out⟩
     case measure=>simp[intOf];omega}
theorem Z4v (s:Rm) (hm:Xj s=true):∀ l:Nat,Z13 s l:=by
 intro l
 induction l using Nat.strongRecOn with
 | ind l ih=>exact Zzg s hm l fun j hj=>ih j (by omega)
theorem Z04 {b:List UInt8}(h:b.length=128) (hr:reN b≠0):reN b=8:=by{
 by_cases ho:oe b=0
 ·cases h1:rdN (ob b) with
  | false=>exact(Zxx ho h1).1
  | true=>exact absurd (Zhs ho h1).1 hr
 ·have h8:oe b=8:=by
   unfold oe at ho ⊢;rw[if_pos h] at ho ⊢;split at ho
   ·exact absurd rfl ho
   ·rename_i hf
    rw[if_neg hf]
  rw[(Zs6 ho).1,h8]}
theorem Zdk (w:Qak) (v:Qal) (t:Qan):∃ w1,w.alloc (.cells #[v] t)=w1/\w1.cell? ⟨w.heap.size,0,none⟩=some v/\w1.heap.size=w.heap.size+1/\Qat w.heap.size w w1 :=
 ⟨_,rfl,by simp,by simp,(Qc _ _).alloc (Qb _) _⟩
theorem Zk1 (v u:Qal) (s:Rm) (hm:Xj s=true) (n:Nd) (hn:mayN n=true) (w:Qak) (h:Sto (Old w) w v s) (hu:Nod (Old w) w u n) :
  Qar Tryz.prog 37 #[v,u] w fun e w'=>e=.returned (.bool (Zcs s n))/\Qat w.heap.size w w':=by{
 have hmf:∀ (fn:Fn) (first cap:Array Qal) (w:Qak),(Instr.makeFunc fn first cap).run Tryz.prog w=.ok (.func fn first cap) w:=fun _ _ _ _=>rfl
 have hsf:∀ (a:Qam) (fn:Fn) (x y:Array Qal) (w:Qak),(store a (.func fn x y)).run Tryz.prog w=stored Tryz.prog w a (.func fn x y) .plain:=fun _ _ _ _ _=>run_store _ _ _ _ _ rfl
 obtain⟨A,ca,B,cb,N,cn,L,cl,rfl,_⟩:=id h.open;obtain⟨I,ci,rfl,-,-,-,hI⟩:=id hu.open;obtain⟨lw,hlw⟩:∃ q,n.1=q:=⟨_,rfl⟩
 obtain⟨m,hlm⟩:∃ q,n.2.length=q:=⟨_,rfl⟩
 have hlv:0<=lw:=by rw[<- hlw];exact(Zv hn).1.1
 have hst:Zcs s n=(decide (m=0)||(Zc1 s n).isSome):=by rw[Zcs,hlm]
 have hu':=hu;rw[hlw,hlm] at hu';rw[hlw,hlm,hst];clear hI hst;have HG0:Bag w [Z53 (.agg #[.int .i64 lw,.slice I m ci]) n,Zrs (.agg #[.slice A s.1.1.length ca,.slice B s.1.2.length cb,.slice N s.2.1.length cn,.slice L s.2.2.length cl]) s]:=((Bag.nil w).add (F:=Zrs _ s) h (V7 _ _)).add (F:=Z53 _ n) hu' (Zch _ _);obtain⟨w0,hw0,hg0,hB0,_,hs0⟩:=Zco HG0 (Qc _ _) (.slice A s.1.1.length ca) (.slice B s.1.2.length cb) (.slice N s.2.1.length cn) (.slice L s.2.2.length cl) 29;obtain⟨w1,hw1,hg1,hB1,_,hs1⟩:=Zf8 hg0 (Qc _ _) (.int .i64 lw) (.slice I m ci);obtain⟨w2,hw2,q0,hs2,hB2⟩:=Zdk w1 (Ybl w.heap.size w1.heap.size) 135;have HG:=Za ((hg1.below hB2).add (F:=Z2f w1.heap.size (Ybl w.heap.size w1.heap.size)) ⟨q0,by omega⟩ (Zd0 _ _));have BB:=Za ((hB0.trans (hB1.mono hB0.size)).trans (hB2.mono (hB0.trans (hB1.mono hB0.size)).size));replace hs2:=Za hs2;replace hs1:=Za hs1;replace hs0:=Za hs0;replace hlw:=Za hlw;replace hlm:=Za hlm;clear HG0 hg1 hg0 h hu hu' hB2 hB1 hB0 q0
 go_enter Tryz.func37,Tryz.ntmps37
 go_upto_region 3 with fail
 clear hw0 hw1 hw2;obtain⟨q0,_⟩:=HG.out.at 0 rfl;obtain⟨y0,y1,_⟩:=HG.out.at 1 rfl;by_cases hm0:m=0
 ·have c0:((m:Int)==0)=true:=by simp[hm0]
  have hf:Hid ((decide (m=0)||(Zc1 s n).isSome)=true):=Za (by simp[hm0]);replace hm0:=Za hm0
  go_wp2_with fail
  go_ret;exact⟨Yn hf.out.symm,BB.out⟩
 have c0:((m:Int)==0)=false:=by simpa using hm0
 have hf:Hid ((decide (m=0)||(Zc1 s n).isSome)=(Zc1 s n).isSome):=Za (by simp[hm0]);have hcall:=Za (Z4v s hm lw.toNat (.agg #[.int .i64 lw,.slice I m ci]) _ _ _ _ n w.heap.size w1.heap.size w2 hn (by rw[hlw.out];omega) (by rw[hlm.out];exact hm0) (HG.out.at 3 rfl) (HG.out.at 4 rfl) (HG.out.at 2 rfl) (HG.out.at 0 rfl));replace hm0:=Za hm0
 go_wp2_with fail
 with_reducible refine hcall.out.mono ?_
 rintro e w3 ⟨f,t,ok,rfl,hsp,hb3⟩;have B3:=Za (BB.out.trans (hb3.mono BB.out.size));obtain⟨w4,hw4,p0,p1,p2,hs4,hB4,_⟩:=Xd w3 (.int .u8 (f.1.toNat:Int)) (.int .u32 f.2.1) (.int .u32 f.2.2) 37;obtain⟨w5,hw5,r0,r1,r2,hs5,hB5,_⟩:=Xd w4 (.int .u8 (t.1.toNat:Int)) (.int .u32 t.2.1) (.int .u32 t.2.2) 37;have B5:=Za (B3.out.trans ((hB4.trans (hB5.mono hB4.size)).mono B3.out.size));have hfin:Hid ((Zc1 s n).isSome=ok):=Za (by rw[hsp];cases ok <;> rfl);replace hsp:=Za hsp;replace hs5:=Za hs5;clear hB4 hB5 hb3 p0 p1 p2 r0 r1 r2
 go_upto_region 6 with fail
 clear hw4 hw5
 go_wp2_with fail
 go_ret;exact⟨Yn (by rw[hf.out,hfin.out]),B5.out⟩}
theorem Vm (v:Qal) (s:Rm) (a:Int) (w:Qak) (h:Sto (Old w) w v s) :
  Qar Tryz.prog 18 #[v,.int .i64 a] w fun e w'=>e=.returned (.tuple #[.int .i64 (ckH s a),.int .i64 (ckE s a)])/\Qat w.heap.size w w':=by{
 obtain⟨A,ca,B,cb,N,cn,L,cl,rfl,_⟩:=id h.open;have hNd:=Za (fun v W hW=>Zd9 v s a W hW)
 have hway:Hid ((rmE s a≠0/\ckE s a=rmE s a/\ckH s a=0)\/(rmE s a=0/\Xj s=true/\mayN (rmV s a)=true/\0<=(rmV s a).1/\(rmV s a).1<6/\Zcs s (rmV s a)=false/\ckE s a=8/\ckH s a=0) \/
   (rmE s a=0/\Xj s=true/\mayN (rmV s a)=true/\0<=(rmV s a).1/\(rmV s a).1<6/\Zcs s (rmV s a)=true/\ckE s a=0/\ckH s a=(rmV s a).1+1)):=Za (by
  by_cases ha:asE s a=0
  ·by_cases hr:rmE s a=0
   ·obtain⟨hmn,_⟩:=Ya hr
    have hst:=Zri hr;obtain⟨k,_,hm,_⟩:=Y3 ha;have hsh:=(Zv hmn).1;cases ht:Yj s a with
    | false=>exact .inr (.inl ⟨hr,hm,hmn,hsh.1,hsh.2.1,hst.trans ht,(Zui ha ht).1,(Zui ha ht).2⟩)
    | true=>exact .inr (.inr ⟨hr,hm,hmn,hsh.1,hsh.2.1,hst.trans ht,(Zjq ha ht).1,(Zjq ha ht).2⟩)
   ·obtain⟨k,_,hm,_,h256,_,_,hE,_,_⟩:=Y3 ha
    have h8:rmE s a=8:=by
     rw[hE] at hr ⊢;exact Z04 (Z4h (Yf hm).1 h256) hr
    obtain⟨h1,h2⟩:=Zui ha (Z9q hr);exact .inl ⟨hr,h1.trans h8.symm,h2⟩
  ·obtain⟨hE,_⟩:=Zxu ha
   obtain⟨h1,h2⟩:=Ybw ha
   exact .inl ⟨by rw[hE];exact ha,h1.trans hE.symm,h2⟩)
 obtain⟨nd,hnd⟩:∃ q,rmV s a=q:=⟨_,rfl⟩
 obtain⟨E0,hE0⟩:∃ q,rmE s a=q:=⟨_,rfl⟩
 obtain⟨cE,hcE⟩:∃ q,ckE s a=q:=⟨_,rfl⟩
 obtain⟨cH,hcH⟩:∃ q,ckH s a=q:=⟨_,rfl⟩
 rw[hnd,hE0] at hNd hway;rw[hcE,hcH] at hway ⊢;obtain⟨lw,hlw⟩:∃ q,nd.1=q:=⟨_,rfl⟩
 obtain⟨m,hlm⟩:∃ q,nd.2.length=q:=⟨_,rfl⟩
 rw[hlw,hlm] at hNd;rw[hlw] at hway;have HG0:Bag w [Zrs (.agg #[.slice A s.1.1.length ca,.slice B s.1.2.length cb,.slice N s.2.1.length cn,.slice L s.2.2.length cl]) s]:=(Bag.nil w).add (F:=Zrs _ s) h (V7 _ _);obtain⟨w0,hw0,hg0,hB0,_,hs0⟩:=Zco HG0 (Qc _ _) (.slice A s.1.1.length ca) (.slice B s.1.2.length cb) (.slice N s.2.1.length cn) (.slice L s.2.2.length cl) 29;have HG:=Za hg0;have BB:=Za hB0;obtain⟨s0,s1,s2,s3,_⟩:=HG.out.at 0 rfl;replace hs0:=Za hs0;replace hnd:=Za hnd;replace hE0:=Za hE0;replace hcE:=Za hcE;replace hcH:=Za hcH;replace hlw:=Za hlw;replace hlm:=Za hlm;clear HG0 hg0 h hB0
 go_enter Tryz.func18,Tryz.ntmps18
 go_upto_region 1 with fail
 clear hw0
 go_wp2_with fail
 with_reducible refine(hNd.out _ _ (HG.out.at 1 rfl)).mono ?_
 rintro e w3 ⟨Z,zc,rfl,-,h3n,hb3⟩;obtain⟨w4,hw4,hg4,hb4,-,hs4⟩:=Zf8 ((HG.out.below hb3).add (F:=Z53 _ nd) h3n.drop (Zch _ _)) (Qc _ _) (.int .i64 lw) (.slice Z m zc);replace HG:=Za hg4;replace BB:=Za (BB.out.trans ((hb3.trans (hb4.mono hb3.size)).mono BB.out.size));replace hs4:=Za hs4;clear hg4 hb4 hb3 h3n s0 s1 s2 s3 hNd
 go_upto_region 2 with fail
 clear hw4;rcases hway.out with ⟨he,h1,h2⟩ | ⟨he,hm,hmn,l0,l6,hst,h1,h2⟩ | ⟨he,hm,hmn,l0,l6,hst,h1,h2⟩
 ·have e1:(E0 != 0)=true:=by simpa using he
  replace h1:=Za h1;replace h2:=Za h2;clear he hway
  go_wp2_with fail
  go_ret2
  exact⟨by rw[h1.out,h2.out];rfl,BB.out⟩
 ·have hcall:=Za (Zk1 _ _ s hm nd hmn w4 (HG.out.at 3 rfl) (HG.out.at 1 rfl))
  rw[hst] at hcall;subst he;obtain⟨y0,y1,_⟩:=HG.out.at 0 rfl;obtain⟨s0,s1,s2,s3,_⟩:=HG.out.at 2 rfl;replace h1:=Za h1;replace h2:=Za h2;clear hway hst hm hmn l0 l6
  go_wp2_with fail
  with_reducible refine hcall.out.mono ?_
  rintro e w5 ⟨rfl,hb5⟩;have B5:=Za (BB.out.trans (hb5.mono BB.out.size));clear hb5
  go_wp2_with fail
  go_ret2
  exact⟨by rw[h1.out,h2.out];rfl,B5.out⟩
 ·have hcall:=Za (Zk1 _ _ s hm nd hmn w4 (HG.out.at 3 rfl) (HG.out.at 1 rfl))
  rw[hst] at hcall;subst he;obtain⟨y0,y1,_⟩:=HG.out.at 0 rfl;obtain⟨s0,s1,s2,s3,_⟩:=HG.out.at 2 rfl;have i9:IntKind.i64.wrap (lw+1)=lw+1:=Pw _ (by omega);replace h1:=Za h1;replace h2:=Za h2;clear hway hst hm hmn l0 l6
  go_wp2_with fail
  with_reducible refine hcall.out.mono ?_
  rintro e w5 ⟨rfl,hb5⟩;have B5:=Za (BB.out.trans (hb5.mono BB.out.size));have HG5:=HG.out.below hb5;clear hb5 y0 y1;obtain⟨y0,y1,_⟩:=HG5.at 0 rfl;clear HG5
  go_wp2_with fail
  go_ret2
  exact⟨by rw[h1.out,h2.out];rfl,B5.out⟩}
end Go.Proofs.YtgmbjnajdfgenaaGreat
namespace Go.Proofs.YtgmbjnajdfgenaaGreat
open Go.RowKit Go.Shelf
attribute [local go_sem] Oper.semAt_some
def Zi7 (s:Rm) (l:Nat):Prop:=∀ (a:Int),AtT s l a->∀ (n0 Bs Br:Nat) (v0 v1 v2 v3:Qal) (w:Qak),n0<=w.heap.size->Z3f Bs v0 v1 v2 v3 w->Z2f Br (.int .i64 a) w->Sto (fun p=>p.block<n0) w (.agg #[v0,v1,v2,v3]) s ->
  Yb1 Tryz.prog 94 #[.pointer (some ⟨Bs,0,none⟩),.pointer (some ⟨Br,0,none⟩)] Yb6 (Yan (Ve s l a)) (Ycw (Ve s l a)) (Ybi n0 Bs Br) w
theorem Zeh {n0:Nat}{A B:Qak}(h:∀ k,k<n0->B.heap[k]? = A.heap[k]?){p:Qam}{v:Qal}(hp:p.block<n0) (hc:A.cell? p=some v):p.block<n0/\B.cell? p=some v:=⟨hp,(Qe (h _ hp)).trans hc⟩
theorem Z9f {n0:Nat}{A:Qak}(hn:n0<=A.heap.size){p:Qam}{v:Qal}(hp:p.block<n0) (hc:A.cell? p=some v):Old A p/\A.cell? p=some v:=⟨Qf hp hn,hc⟩
theorem Zjl (v0 v1 v2 v3:Qal) (a:Int) (w:Qak):Qar Tryz.prog 55 #[.agg #[v0,v1,v2,v3],.int .i64 a] w fun e w'=>e=.returned (.func (.func 94) #[] #[.pointer (some ⟨w.heap.size,0,none⟩),.pointer (some ⟨w.heap.size+1,0,none⟩)]) /\
  w'=(w.alloc (.cells #[v0,v1,v2,v3] 29)).alloc (.cells #[.int .i64 a] 3):=by{
 have hmf:∀ (fn:Fn) (first cap:Array Qal) (w:Qak),(Instr.makeFunc fn first cap).run Tryz.prog w=.ok (.func fn first cap) w:=fun _ _ _ _=>rfl
 go_enter Tryz.func55,Tryz.ntmps55
 go_wp2_with fail
 go_ret;exact⟨rfl,rfl⟩}
theorem Zlo (s:Rm) (l0:Nat) (hr0:∀ j,l0=j+1->Zi7 s j):Zi7 s l0:=by{
 intro a hat n0 Bs Br v0 v1 v2 v3 w hn0 hBs hBr hS l M J Jx o W hW hJ hJx hM hJs hZ hY h0;have hnW:n0<=W.heap.size:=Qa hn0 hW.size;have hBsW:=V8 _ _ _ _ _ _ _ hBs hW;have hBrW:=Zd0 _ _ _ _ hBr hW;have hSW:Sto (fun p=>p.block<n0) W (.agg #[v0,v1,v2,v3]) s:=hS.map fun p v hp hc=>Zeh (fun k hk=>hW.block k (by omega)) hp hc
 have hNd:=Za (fun v W hW=>Zd9 v s a W hW);have hok:=hat.ok;have hmn:=Za hat.may;have hlv:=hat.lvl;have hdn:=Za (fun(j:Nat) (hj:l0=j+1) (x:It) (hx:x∈(rmV s a).2)=>(by subst hj;exact hat.down hx:AtT s j x.2.1));have hL:=Z0b s l0 a;obtain⟨nd,hnd⟩:∃ q,rmV s a=q:=⟨_,rfl⟩
 rw[hok,hnd] at hNd;rw[hnd] at hmn hlv hdn hL;obtain⟨lw,hlw⟩:∃ q,nd.1=q:=⟨_,rfl⟩
 obtain⟨ll,hl⟩:∃ q,nd.2=q:=⟨_,rfl⟩
 obtain⟨m,hlm⟩:∃ q,ll.length=q:=⟨_,rfl⟩
 rw[hlw,hl,hlm] at hNd;rw[hl] at hdn hL;rw[hlw] at hlv;have hm5:m<=5:=by
  have:=(Zv hmn.out).1.2.2.1;rw[hl,hlm] at this;exact this
 rw[hL] at hY ⊢;obtain⟨w1,hw1,b1,hs1,hB1⟩:=Zdk W (.func (.yield l) #[] #[]) 163;have BS1:=V8 _ _ _ _ _ _ _ hBsW hB1;have BR1:=Zd0 _ _ _ _ hBrW hB1;have S1:Hid (Sto (Old w1) w1 (.agg #[v0,v1,v2,v3]) s):=Za (hSW.map fun p v hp hc=>Z9f (by omega) (Zeh (fun k hk=>hB1.block k (by omega)) hp hc).1 (Zeh (fun k hk=>hB1.block k (by omega)) hp hc).2);obtain⟨s0,s1,s2,s3,_⟩:=BS1;obtain⟨r0,_⟩:=BR1;replace hs1:=Za hs1;replace hB1:=Za hB1;replace hlw:=Za hlw;replace hl:=Za hl;replace hlm:=Za hlm;replace hnd:=Za hnd;replace hlv:=Za hlv;replace hY:=Za hY;replace hL:=Za hL;replace hZ:=Za hZ;replace hM:=Za hM;replace hJs:=Za hJs;clear hS hBs hBr hat;refine callsIn_wide.1 (callsIn_of_wp_marks (n:=5) Tryz.func94 rfl trivial ?_ rfl);simp only[Tryz.ntmps94,Qt,Qn,Qu,Qv,Qw,Qx,Qy,Qz,Q0,Q3,Q4]
 gi_wp2_with fail
 refine⟨trivial,?_⟩
 gi_at_call 36
 refine(callsIn_wide.2 (hNd.out (.agg #[v0,v1,v2,v3]) w1 S1.out)).mono ?_;rintro e w2 ⟨Z,zc,rfl,-,hN2,hB2⟩;obtain⟨w3,hw3,b3,hs3,hB3⟩:=Yd w2 (.int .i64 lw) (.slice Z m zc) 81;obtain⟨y0,y1,_⟩:=Zg b3;replace hs3:=Za hs3;replace b3:=Za b3
 gi_wp2_with fail
 have B3:=Za ((hB1.out.trans (hB2.mono hB1.out.size)).trans (hB3.mono (hB1.out.trans (hB2.mono hB1.out.size)).size));have sz:=Za (show W.heap.size<w1.heap.size/\w1.heap.size<=w2.heap.size/\w2.heap.size<w3.heap.size from ⟨by have:=hs1.out;omega,hB2.size,by have:=hs3.out;omega⟩);have ho:=Za (fun k (e:o=some k)=>(hJs.out _ _ h0).2 k e)
 have N3:Hid (Zag (Fre W.heap.size o w3) w3 [.slice Z m zc] ll):=Za (by
  obtain⟨_,e,_,h⟩:=hN2;cases e;rw[hl.out] at h;refine Xa _ _ _ _ _ _ (fun p v hp hc=> ?_) (Xa.new h (Qb _) (hB3.mono (Qb _)))
  exact⟨⟨⟨Qa (Px sz.out.1) hp.1,hp.2⟩,fun e=>by have:=ho.out _ e;have:=hp.1;have:=sz.out.1;omega⟩,hc⟩)
 have J3:=Za (hJ _ _ _ none h0 (Z5 B3.out) (by simp));have b3':Hid (w3.cell? ⟨W.heap.size,0,none⟩=some (.func (.yield l) #[] #[])):=Za (((hB2.trans (hB3.mono hB2.size)).cell (p:=⟨W.heap.size,0,none⟩) sz.out.1).trans b1);obtain⟨Inv,hInv⟩:∃ Inv:Act->Qak->Prop,Inv=fun a' wr=>∃ (k:Nat) (pre:List Wk) (q:Option Nat) (Ds:List Nat) (x7 x8 x9 x21 x22 x23 x24 x25 x26 x27 x28 x29 x30 x31 x32 x33 x34 x35 x36 x37 x38 x39 x40 x41 x42 x43 x44 x45:Qal),
   (k<=m/\x21=.int .i64 (k:Int)/\pre.map Za3=Zhq s l0 ll k/\J (pre,q) wr/\Vs M o q w3 wr/\Ds.Nodup/\∀ D∈Ds,w3.heap.size<=D/\D<wr.heap.size/\wr.heap[D]? = some (.deferred (some []))/\q≠some D) /\
   a'={ tmps:=#[.func (.yield l) #[] #[],.pointer (some ⟨Bs,0,none⟩),.pointer (some ⟨Br,0,none⟩),.pointer (some ⟨W.heap.size,0,none⟩),.pointer (some ⟨w2.heap.size,0,none⟩),.int .i64 0,Qaq,x7,x8,x9,
    .tuple #[.agg #[.int .i64 lw,.slice Z m zc],.int .i64 0],.agg #[v0,v1,v2,v3],.int .i64 a,.tuple #[.agg #[.int .i64 lw,.slice Z m zc],.int .i64 0],.agg #[.int .i64 lw,.slice Z m zc],.int .i64 0,.int .i64 0,.bool false,.pointer (some ⟨w2.heap.size,1,none⟩),.slice Z m zc,
    .int .i64 m,x21,x22,x23,x24,x25,x26,x27,x28,x29,x30,x31,x32,x33,x34,x35,x36,x37,x38,x39,x40,x41,x42,x43,x44,x45],defers:=Ds.map fun D=>{ target:=.collected D,args:=#[] } }:=⟨_,rfl⟩
 clear h0 hN2 hB2 hB3 b1 y0 y1 hw1 hw3 s0 s1 s2 s3 r0 hNd S1 hs3 hs1;refine wpIn_loop Inv (fun a' _=>6-(intOf (a'.tmps.getD 21 Qaq)).toNat) ?_ ?_
 ·rw[hInv]
  exact⟨0,[],o,[],Qaq,Qaq,Qaq,_,Qaq,Qaq,Qaq,Qaq,Qaq,Qaq,Qaq,Qaq,Qaq,Qaq,Qaq,Qaq,Qaq,Qaq,Qaq,Qaq,Qaq,Qaq,Qaq,Qaq,Qaq,Qaq,Qaq,Qaq,⟨Nat.zero_le _,rfl,(Zxq _ _ _).symm,J3.out,Vs.refl _ _ _,List.nodup_nil,by simp⟩,rfl⟩
 intro a' wr hrel;rw[hInv] at hrel;obtain⟨k,pre,q,Ds,x7,x8,x9,x21,x22,x23,x24,x25,x26,x27,x28,x29,x30,x31,x32,x33,x34,x35,x36,x37,x38,x39,x40,x41,x42,x43,x44,x45,⟨hk,rfl,hpre,hJr,hKr,hDn,hDs⟩,rfl⟩:=hrel;replace hInv:=Za hInv;replace hpre:=Za hpre;replace hJr:=Za hJr;replace hKr:=Za hKr;replace hDn:=Za hDn;replace hDs:=Za hDs;by_cases hlt:k<m
 case neg =>
  have hc0:¬ ((k:Int)<(m:Int)):=by omega
  gi_wp2_with fail
  refine Zg8 (B:=W.heap.size) rfl (fun W4 D hD hd hx=> ?_) hDn.out (fun D hD=>⟨Qa (Qa B3.out.size (Qb _)) (hDs.out D hD).1,(hDs.out D hD).2.2.1⟩) ?_
  ·rcases hx with ⟨xs,he,q',hj⟩ | ⟨xs,q',hj⟩
   ·exact .inl ⟨xs,he,q',hJ.putObj _ hj hD hd rfl⟩
   ·exact .inr ⟨xs,q',hJx.putObj _ hj hD hd rfl⟩
  ·refine .inl ⟨pre,?_,q,hJr.out⟩
   unfold Ycw;rw[hpre.out,show k=ll.length from (by have:=hlm.out;omega),Z3h]
 have hc0:((k:Int)<(m:Int)):=by omega
 obtain⟨x,hx⟩:∃ x,ll[k]? = some x:=⟨_,Qh (by rw[hlm.out];exact hlt)⟩
 have NR:Hid (Zag (Fre W.heap.size q wr) wr [.slice Z m zc] ll):=Za (Xa _ _ _ _ _ _ (fun p v hp hc=>Zsn hM.out hKr.out hp hc) N3.out);obtain⟨ad,E,ce,rfl,_,⟨z0,z1,z2,z3,z4⟩,hit,_⟩:=Zao NR.out hx;have bq:=Za (hJs.out _ _ hJr.out);have hq3:Hid (∀ k,W.heap.size<=k->k<w3.heap.size->wr.heap[k]? = w3.heap[k]? /\ q≠some k):=Za fun k h1 h2=>hKr.out.same k h2 (fun e=>by have:=hM.out _ e;omega) (fun e=>by have:=ho.out _ e;omega)
 obtain⟨y0,y1,_⟩:=Zg ((hq3.out w2.heap.size (Px (Qf sz.out.1 sz.out.2.1)) sz.out.2.2).1.trans b3.out);have c1:wr.cell? ⟨W.heap.size,0,none⟩=some (.func (.yield l) #[] #[]):=(Qe (hq3.out W.heap.size (Qb _) (by have:=sz.out;omega)).1).trans b3'.out;obtain⟨w4,hw4,u0,u1,u2,u3,u4,hs4,hB4,g4⟩:=Z9 wr (.int .u8 (x.1.1.toNat:Int)) (.int .u32 x.1.2.1) (.int .u32 x.1.2.2) (.int .i64 x.2.1) (.slice E x.2.2.length ce) 54;have J4:=hJ _ _ _ none hJr.out (Z5 hB4) (by simp);have hit4:Itm (Fre W.heap.size q w4) w4 (itV x (.slice E x.2.2.length ce)) x:=hit.map fun p v hp hc=>Zsn hM.out (Vs.below hB4) hp hc
 have hY4:=hY.out pre q (lw,x,itV x (.slice E x.2.2.length ce)) w4 J4 ⟨by
  rw[Qg,hpre.out];obtain⟨r,hr⟩:=Z1w s l0 x;refine(Qag.trans ⟨r,?_⟩ (Ztg s l0 hx));rw[hr]
  simp[Za3,hlv.out],hit4⟩
 obtain⟨fn,tmps,assign,body,hy,hR⟩:=hY4;replace hR:=Za hR;replace J4:=Za J4;replace hit4:=Za hit4;replace hs4:=Za hs4;replace g4:=Za g4;replace hx:=Za hx;have i4:(0:Int)<=(k:Int):=by omega
 replace hB4':=Za hB4;have y0':=(hB4.cell (p:=⟨w2.heap.size,0,none⟩) (by show w2.heap.size<wr.heap.size;have:=hKr.out.size;have:=sz.out;omega)).trans y0;have c1':=(hB4.cell (p:=⟨W.heap.size,0,none⟩) (by show W.heap.size<wr.heap.size;have:=hKr.out.size;have:=sz.out;omega)).trans c1;clear hit c1 y0 y1 hB4;replace hy:Sem.run Tryz.prog (Instr.yield l #[.int .i64 lw,.agg #[.int .u8 (x.1.1.toNat:Int),.int .u32 x.1.2.1,.int .u32 x.1.2.2,.int .i64 x.2.1,.slice E x.2.2.length ce]]) w4=.ok (.round l fn tmps assign body) w4:=hy
 gi_wp2_with fail
 refine(Zha hR.out).mono ?_;clear hR hy y0' c1' u0 u1 u2 u3 u4 z0 z1 z2 z3 z4;rintro e w5 ⟨q5,hk5,⟨rfl,J5⟩ | ⟨rfl,J5⟩⟩
 case inr =>
  have D5:Hid (∀ D∈Ds,W.heap.size<=D/\w5.heap[D]? = some (.deferred (some []))):=Za fun D hD=>by
   obtain⟨h1,h2,h3,h4⟩:=hDs.out D hD;have h5:=hB4'.out.block D h2;have h6:W.heap.size<D:=by have:=sz.out;omega
   exact⟨by omega,(hk5.same D (by have:=hs4.out;omega) (fun e=>by have:=hM.out _ e;omega) h4).1.trans (h5.trans h3)⟩
  replace J5:=Za J5;clear hk5 hw4
  gi_wp2_with fail
  refine Zg8 (B:=W.heap.size) rfl (fun W4 D hD hd hx=> ?_) hDn.out D5.out (.inr ⟨_,_,J5.out⟩);rcases hx with ⟨xs,he,q',hj⟩ | ⟨xs,q',hj⟩
  ·exact .inl ⟨xs,he,q',hJ.putObj _ hj hD hd rfl⟩
  ·exact .inr ⟨xs,q',hJx.putObj _ hj hD hd rfl⟩
 have hk5':=Za ((hKr.out.grown (Z5 hB4'.out) (by simp)).trans hk5);have h54:Hid (∀ k,W.heap.size<=k->k<w4.heap.size->q≠some k->w5.heap[k]? = w4.heap[k]? /\ q5≠some k):=Za fun k h1 h2 h3=>hk5.same k h2 (fun e=>by have:=hM.out _ e;omega) h3
 have D5:Hid (∀ D∈Ds,w3.heap.size<=D/\D<w5.heap.size/\w5.heap[D]? = some (.deferred (some []))/\q5≠some D):=Za fun D hD=>by
  obtain⟨h1,h2,h3,h4⟩:=hDs.out D hD;have h5:=hB4'.out.block D h2;have h6:W.heap.size<D:=by have:=sz.out;omega
  have h7:=h54.out D (by omega) (by have:=hs4.out;omega) h4;exact⟨h1,Qf h2 (Qa hB4'.out.size hk5.size),h7.1.trans (h5.trans h3),h7.2⟩
 have g5:=Za ((h54.out wr.heap.size (by have:=bq.out.1;omega) (by have:=hs4.out;omega) (fun e=>by have:=bq.out.2 _ e;omega)).1.trans g4.out);have hq5:Hid (∀ k,W.heap.size<=k->k<w3.heap.size->w5.heap[k]? = w3.heap[k]? /\ q5≠some k):=Za fun k h1 h2=>hk5'.out.same k h2 (fun e=>by have:=hM.out _ e;omega) (fun e=>by have:=ho.out _ e;omega)
 obtain⟨y0,y1,_⟩:=Zg ((hq5.out w2.heap.size (by have:=sz.out;omega) sz.out.2.2).1.trans b3.out);have bq5:=Za (hJs.out _ _ J5)
 have hp5:Hid ((pre++[(lw,x,itV x (.slice E x.2.2.length ce))]).map Za3=Zhq s l0 ll k++[((l0:Int),x)]):=Za (by
  rw[Qg,hpre.out]
  simp[Za3,hlv.out])
 obtain⟨pre1,hpre1⟩:∃ p,pre++[(lw,x,itV x (.slice E x.2.2.length ce))]=p:=⟨_,rfl⟩
 rw[hpre1] at J5 hp5;replace J5:=Za J5;replace hpre1:=Za hpre1;clear hk5 h54 g4 hw4 J4 hit4 hB4' hs4 hDs hJr hKr bq hpre NR;cases l0 with
 | zero =>
  have c0:(lw==0)=true:=by rw[hlv.out];rfl
  have i9:IntKind.i64.wrap ((k:Int)+1)=((k+1:Nat):Int):=by rw[IntKind.wrap_i64];omega
  gi_wp2_with fail
  rw[hInv.out];refine⟨⟨k+1,pre1,q5,Ds,_,_,_,_,_,_,_,_,_,_,_,_,_,_,_,_,_,_,_,_,_,_,_,_,_,_,_,_,⟨by omega,by go_num,?_,J5.out,hk5'.out,hDn.out,D5.out⟩,rfl⟩,?_⟩
  ·rw[hp5.out,Zjp s 0 hx.out,Zzc]
   rfl
  ·simp[intOf]
   omega
 | succ l1 =>
  have c0:(lw==0)=false:=by have:=hlv.out;simp;omega
  have BS3:=V8 _ _ _ _ _ _ _ hBsW B3.out;have hkB:w5.heap[Bs]? = w3.heap[Bs]? := (hk5'.out.same Bs BS3.2.2.2.2 (hZ.out Bs (.inr (.inl rfl))).1 (hZ.out Bs (.inr (.inl rfl))).2).1;obtain⟨s0,s1,s2,s3,_⟩:=BS3;have s0':=(Qe (a:=⟨Bs,0,none⟩) hkB).trans s0;have s1':=(Qe (a:=⟨Bs,1,none⟩) hkB).trans s1;have s2':=(Qe (a:=⟨Bs,2,none⟩) hkB).trans s2;have s3':=(Qe (a:=⟨Bs,3,none⟩) hkB).trans s3;obtain⟨f0,f1,f2,f3,f4,_⟩:=Zs g5.out;have hAT:=Za (hdn.out l1 rfl x (Pj hx.out));obtain⟨w6,hw6,g6,b6,hs6,hB6⟩:∃ w6,(w5.alloc (.cells #[v0,v1,v2,v3] 29)).alloc (.cells #[.int .i64 x.2.1] 3)=w6/\Z3f w5.heap.size v0 v1 v2 v3 w6/\Z2f (w5.heap.size+1) (.int .i64 x.2.1) w6/\w6.heap.size=w5.heap.size+2/\Qat w5.heap.size w5 w6:=by
   obtain⟨wa,ha,ga,sa,ba⟩:=X4 w5 v0 v1 v2 v3 29;obtain⟨wb,hb,gb,sb,bb⟩:=Zdk wa (.int .i64 x.2.1) 3;obtain⟨k0,k1,k2,k3,_⟩:=Ze ga;exact⟨wb,by rw[ha,hb],V8 _ _ _ _ _ _ _ ⟨k0,k1,k2,k3,by omega⟩ bb,⟨by rw[<- sa];exact gb,by omega⟩,by omega,ba.trans (bb.mono ba.size)⟩
  have hIt:=Za (Zjl v0 v1 v2 v3 x.2.1 w5);rw[hw6] at hIt;clear s0 s1 s2 s3 hkB hw6
  gi_wp2_with fail
  refine⟨trivial,?_⟩
  gi_at_call 55
  refine(callsIn_wide.2 hIt.out).mono ?_;rintro e w6 ⟨rfl,rfl⟩
  gi_wp2_with fail
  have Z6:Hid (∀ k,Ybi n0 w5.heap.size (w5.heap.size+1) k->k<w6.heap.size/\¬ M k/\q5≠some k):=Za fun k hk=>by
   rcases hk with h | rfl | rfl
   ·have h1:=hZ.out k (.inl h)
    have h2:k<w3.heap.size:=by have:=sz.out;omega
    exact⟨by have:=hk5'.out.size;omega,h1.1,(hk5'.out.same k h2 h1.1 h1.2).2⟩
   ·exact⟨by omega,fun e=>by have:=hM.out _ e;have:=bq5.out.1;omega,fun e=>by have:=bq5.out.2 _ e;omega⟩
   ·exact⟨by omega,fun e=>by have:=hM.out _ e;have:=bq5.out.1;omega,fun e=>by have:=bq5.out.2 _ e;omega⟩
  have S6:Sto (fun p=>p.block<n0) w6 (.agg #[v0,v1,v2,v3]) s:=hSW.map fun p v hp hc=>Zeh (fun k hk=>by
   have h1:=hZ.out k (.inl hk);rw[hB6.block k (by have:=bq5.out.1;omega),(hk5'.out.same k (by have:=sz.out;omega) h1.1 h1.2).1]
   exact B3.out.block k (by omega)) hp hc
  have c6:Hid (w6.cell? ⟨W.heap.size,0,none⟩=some (.func (.yield l) #[] #[])/\W.heap.size<w6.heap.size/\¬ M W.heap.size/\q5≠some W.heap.size):=Za (by
   obtain⟨h1,h2⟩:=hq5.out W.heap.size (Qb _) (by have:=sz.out;omega);have h3:W.heap.size<w5.heap.size:=by have:=hk5'.out.size;have:=sz.out;omega
   exact⟨(Qe (a:=⟨W.heap.size,0,none⟩) ((hB6.block _ h3).trans h1)).trans b3'.out,by omega,fun e=>by have:=hM.out _ e;omega,h2⟩)
  have J6:=hJ _ _ _ none J5.out (Z5 hB6) (by simp);have k6:Hid (Vs M o q5 w3 w6):=Za (hk5'.out.grown (Z5 hB6) (by simp));have D6:Hid (∀ D∈Ds,w3.heap.size<=D/\D<w6.heap.size/\w6.heap[D]? = some (.deferred (some []))/\¬ M D/\q5≠some D):=Za fun D hD=>by
   obtain⟨h1,h2,h3,h4⟩:=D5.out D hD;exact⟨h1,by omega,(hB6.block D h2).trans h3,fun e=>by have:=hM.out _ e;have:=sz.out;omega,h4⟩
  have hW6:W.heap.size<=w6.heap.size:=by have:=bq5.out.1;omega
  have hpre6:Hid (∀ (r:List Wk) (y:Wk),(r++[y]).map Za3 <+: Ve s l1 x.2.1->((pre1++r)++[y]).map Za3 <+: ll.flatMap (Ziy s (l1+1))):=Za fun r y hr=>by
   refine Qag.trans ?_ (Ztg s (l1+1) hx.out);rw[Qq,Qg,hp5.out,Qq,Zoe];exact(Qah _).2 ((Qah [(((l1+1:Nat):Int),x)]).2 hr)
  have hfin6:Hid (∀ xs:List Wk,xs.map Za3=Ve s l1 x.2.1->(pre1++xs).map Za3=Zhq s (l1+1) ll (k+1)):=Za fun xs hxs=>by
   rw[Qg,hp5.out,hxs,Zjp s (l1+1) hx.out,Zoe,Qq];rfl
  have hr1:=hr0 l1 rfl x.2.1 hAT.out n0 w5.heap.size (w5.heap.size+1) v0 v1 v2 v3 w6 (by omega) g6 b6 S6;clear y0 y1 s0' s1' s2' s3' f0 f1 f2 f3 f4 g5 g6 b6 S6 hIt hr0 D5 hq5 hSW;refine Za1 (m:=5) (gf:=94) (lb:=#[.pointer (some ⟨w5.heap.size,0,none⟩),.pointer (some ⟨w5.heap.size+1,0,none⟩)]) rfl (enters_of Tryz.func94 (by kernel_rfl) rfl) hr1 (fun _=>rfl) M (fun k e=>by have:=hM.out k e;omega) q5 Z6.out
   (fun r V=>J (pre1++r.1,r.2) V/\Vs M q5 r.2 w6 V) (fun c r V=>(c=.ret/\Jx (pre1++r.1,r.2) V)/\Vs M q5 r.2 w6 V)
   (OwnFrom.and (fun r A B row hs hg hr=>hJ _ A B row hs hg fun r e=>⟨by have:=(hr r e).1;omega,(hr r e).2⟩) (Zhh (Qb _)))
   (fun c=>OwnFrom.and (fun r A B row hs hg hr=>⟨hs.1,hJx _ A B row hs.2 hg fun r e=>⟨by have:=(hr r e).1;omega,(hr r e).2⟩⟩) (Zhh (Qb _)))
   (fun r V hr=>(hJs.out _ _ hr.1).2) ⟨by rw[Qac];exact J6,Vs.refl _ _ _⟩
   (fun y a' V=>∃ (g:Nat) (d:Qal),a'={ tmps:=#[.func (.yield l) #[] #[],.pointer (some ⟨Bs,0,none⟩),.pointer (some ⟨Br,0,none⟩),.pointer (some ⟨W.heap.size,0,none⟩),.pointer (some ⟨w2.heap.size,0,none⟩),.int .i64 0,Qaq,.pointer (some ⟨wr.heap.size,0,none⟩),.int .i64 y.1,.pointer (some ⟨g,0,none⟩),
    .tuple #[.agg #[.int .i64 lw,.slice (some ad) m zc],.int .i64 0],.agg #[v0,v1,v2,v3],.int .i64 a,.tuple #[.agg #[.int .i64 lw,.slice (some ad) m zc],.int .i64 0],.agg #[.int .i64 lw,.slice (some ad) m zc],.int .i64 0,.int .i64 0,.bool false,.pointer (some ⟨w2.heap.size,1,none⟩),.slice (some ad) m zc,
    .int .i64 m,.int .i64 k,.bool true,.pointer (some (ad.add (k*5))),.agg #[.int .u8 (x.1.1.toNat:Int),.int .u32 x.1.2.1,.int .u32 x.1.2.2,.int .i64 x.2.1,.slice E x.2.2.length ce],.func (.yield l) #[] #[],.pointer (some ⟨w2.heap.size,0,none⟩),.int .i64 lw,
    .agg #[.int .u8 (x.1.1.toNat:Int),.int .u32 x.1.2.1,.int .u32 x.1.2.2,.int .i64 x.2.1,.slice E x.2.2.length ce],.bool true,.bool false,.pointer (some ⟨w2.heap.size,0,none⟩),.int .i64 lw,.bool false,.agg #[v0,v1,v2,v3],.pointer (some ⟨wr.heap.size,3,none⟩),.int .i64 x.2.1,
    .func (.func 94) #[] #[.pointer (some ⟨w5.heap.size,0,none⟩),.pointer (some ⟨w5.heap.size+1,0,none⟩)],.int .i64 y.1,.agg #[.int .u8 (y.2.1.1.1.toNat:Int),.int .u32 y.2.1.1.2.1,.int .u32 y.2.1.1.2.2,.int .i64 y.2.1.2.1,d],x40,x41,x42,x43,x44,x45],defers:=[] }/\y.2.2=itV y.2.1 d /\
    V.cell? ⟨g,0,none⟩=some (.int .u8 (y.2.1.1.1.toNat:Int))/\V.cell? ⟨g,1,none⟩=some (.int .u32 y.2.1.1.2.1)/\V.cell? ⟨g,2,none⟩=some (.int .u32 y.2.1.1.2.2)/\V.cell? ⟨g,3,none⟩=some (.int .i64 y.2.1.2.1)/\V.cell? ⟨g,4,none⟩=some d)
   (fun y a' _ A B row hs hg hr=>by
    obtain⟨g,d,e1,e2,h0,h1,h2,h3,h4⟩:=hs;have hn:=fun r e=>(hr r e).2
    exact⟨g,d,e1,e2,cell_kept h0 hg hn,cell_kept h1 hg hn,cell_kept h2 hg hn,cell_kept h3 hg hn,cell_kept h4 hg hn⟩)
   (fun pre x q=>Zmd _ _ _ _ _ _) ?assign ?body ?done ?stop
  case assign =>
   rintro l' pre' q' ⟨lv',it',val'⟩ V K hi ⟨_,hit⟩ hK;obtain⟨A',c',hd,-⟩:=hit.open
   dsimp only at hd
   subst hd;obtain⟨V1,hV1,v0',v1',v2',v3',v4',hVs,hVB,_⟩:=Z9 V (.int .u8 (it'.1.1.toNat:Int)) (.int .u32 it'.1.2.1) (.int .u32 it'.1.2.2) (.int .i64 it'.2.1) (.slice A' it'.2.2.length c') 54;replace hVs:=Za hVs;clear hit hi;simp only[Yb6,itV]
   gi_wp2_with fail
   exact hK _ _ (Z5 hVB) ⟨V.heap.size,_,rfl,rfl,v0',v1',v2',v3',v4'⟩
  case body =>
   rintro l' pre' q' ⟨lv',it',val'⟩ a' V hVs ⟨hj,hkV⟩ ⟨g,d,rfl,hd,v0',v1',v2',v3',v4'⟩ ⟨hpf,hit⟩
   dsimp only at hd hit v0' v1' v2' v3' v4'
   subst hd;have c7:V.cell? ⟨W.heap.size,0,none⟩=some (.func (.yield l) #[] #[]):=(Qe (a:=⟨W.heap.size,0,none⟩) (hkV.same _ c6.out.2.1 c6.out.2.2.1 c6.out.2.2.2).1).trans c6.out.1;obtain⟨fn,tmps,assign,body,hy,hR⟩:=hY.out (pre1++pre') q' (lv',it',itV it' d) V hj ⟨hpre6.out _ _ hpf,hit.map fun p v hp hc=>⟨⟨⟨Qa (by omega) hp.1.1,hp.1.2⟩,hp.2⟩,hc⟩⟩;replace hy:Sem.run Tryz.prog (Instr.yield l #[.int .i64 lv',.agg #[.int .u8 (it'.1.1.toNat:Int),.int .u32 it'.1.2.1,.int .u32 it'.1.2.2,.int .i64 it'.2.1,d]]) V=.ok (.round l fn tmps assign body) V:=hy;replace hR:=Za hR;replace hkV:=Za hkV;clear hpf hit hj
   gi_wp2_with fail
   refine⟨rfl,(Zxg hR.out).mono ?_⟩;clear hR hy c7 v0' v1' v2' v3' v4';rintro e V1 ⟨q1,hk1,⟨rfl,J1⟩ | ⟨rfl,J1⟩⟩
   ·rw[Qq] at J1
    have hk2:=Za (hkV.out.trans hk1);replace hk1:=Za hk1;replace J1:=Za J1
    gi_wp2_with fail
    exact⟨q1,hk1.out,J1.out,hk2.out⟩
   ·rw[Qq] at J1
    have hk2:=Za (hkV.out.trans hk1);replace hk1:=Za hk1;replace J1:=Za J1
    gi_wp2_with fail
    exact⟨q1,hk1.out,⟨rfl,J1.out⟩,hk2.out⟩
  case done =>
   rintro xs q' V hVs hE ⟨hj,hkV⟩ hDV hqV;have D7:Hid (∀ D∈w6.heap.size::Ds,w3.heap.size<=D/\D<V.heap.size/\V.heap[D]? = some (.deferred (some []))/\q'≠some D):=Za fun D hD=>by
    rcases Qm.1 hD with rfl | hD
    ·exact⟨k6.out.size,hVs,hDV,hqV⟩
    ·obtain⟨h1,h2,h3,h4,h5⟩:=D6.out D hD
     obtain⟨h6,h7⟩:=hkV.same D h2 h4 h5;exact⟨h1,by omega,h6.trans h3,h7⟩
   have hN7:Hid ((w6.heap.size::Ds).Nodup):=Za (Pr.2 ⟨fun h=>by have:=(D6.out _ h).2.1;omega,hDn.out⟩);have hk7:=Za (k6.out.trans hkV);have hp7:=Za (hfin6.out xs hE);replace hj:=Za hj;replace hs6:=Za hs6;clear hVs hDV hqV hkV
   gi_wp2_with fail
   rw[hInv.out]
   refine⟨⟨k+1,pre1++xs,q',w6.heap.size::Ds,.pointer (some ⟨wr.heap.size,0,none⟩),x8,x9,.int .i64 ((k:Int)+1),.bool true,.pointer (some (ad.add (k*5))),.agg #[.int .u8 (x.1.1.toNat:Int),.int .u32 x.1.2.1,.int .u32 x.1.2.2,.int .i64 x.2.1,.slice E x.2.2.length ce],.func (.yield l) #[] #[],
    .pointer (some ⟨w2.heap.size,0,none⟩),.int .i64 lw,.agg #[.int .u8 (x.1.1.toNat:Int),.int .u32 x.1.2.1,.int .u32 x.1.2.2,.int .i64 x.2.1,.slice E x.2.2.length ce],.bool true,.bool false,.pointer (some ⟨w2.heap.size,0,none⟩),.int .i64 lw,.bool false,.agg #[v0,v1,v2,v3],.pointer (some ⟨wr.heap.size,3,none⟩),.int .i64 x.2.1,
    .func (.func 94) #[] #[.pointer (some ⟨w5.heap.size,0,none⟩),.pointer (some ⟨w5.heap.size+1,0,none⟩)],x38,x39,x40,x41,x42,x43,x44,.int .i64 ((k:Int)+1),⟨by omega,by go_num,hp7.out,hj.out,hk7.out,hN7.out,D7.out⟩,?_⟩,?_⟩
   ·rfl
   simp[intOf];omega
  case stop =>
   rintro c pre' q' V hVs ⟨⟨rfl,hj⟩,hkV⟩ hDV hqV;have D7:Hid (∀ D∈w6.heap.size::Ds,W.heap.size<=D/\V.heap[D]? = some (.deferred (some []))):=Za fun D hD=>by
    rcases Qm.1 hD with rfl | hD
    ·exact⟨hW6,hDV⟩
    ·obtain⟨h1,h2,h3,h4,h5⟩:=D6.out D hD
     obtain⟨h6,h7⟩:=hkV.same D h2 h4 h5;exact⟨by have:=sz.out;omega,h6.trans h3⟩
   have hN7:Hid ((w6.heap.size::Ds).Nodup):=Za (Pr.2 ⟨fun h=>by have:=(D6.out _ h).2.1;omega,hDn.out⟩);replace hj:=Za hj;replace hs6:=Za hs6;clear hVs hDV hqV hkV
   gi_wp2_with fail
   refine Zg8 (Ds:=w6.heap.size::Ds) (B:=W.heap.size) rfl (fun W4 D hD hd hx=> ?_) hN7.out D7.out (.inr ⟨_,_,hj.out⟩);rcases hx with ⟨xs,he,q',hj⟩ | ⟨xs,q',hj⟩
   ·exact .inl ⟨xs,he,q',hJ.putObj _ hj hD hd rfl⟩
   ·exact .inr ⟨xs,q',hJx.putObj _ hj hD hd rfl⟩}
theorem Zgr (s:Rm):∀ l:Nat,Zi7 s l
 | 0=>Zlo s 0 fun j h=>by omega
 | l+1=>Zlo s (l+1) fun j h=>by cases h;exact Zgr s l
end Go.Proofs.YtgmbjnajdfgenaaGreat
namespace Go.Proofs.YtgmbjnajdfgenaaGreat
open Go.RowKit Go.Shelf
attribute [local go_sem] Oper.semAt_some
def Zt8 (s:Rm) (a:Int) (f t:Ky) (w:Qak):Qas->Qak->Prop:=fun e w'=>∃ u c,e=.returned (.tuple #[.slice u (raV s a f t).length c,.int .i64 (ckE s a)])/\Zag (New w.heap.size w') w' [.slice u (raV s a f t).length c] (raV s a f t)/\Qat w.heap.size w w'
theorem Zz8 {s:Rm}{a:Int}{f t:Ky}(h:ckE s a≠0):raV s a f t=[]:=if_neg h
theorem Zzd {s:Rm}{a:Int}{f t:Ky}(h:ckE s a=0):raV s a f t=Zhe s a f t:=if_pos h
theorem Zzq {F:Fence}{n:Nat}{P:Program}{w:Qak}{ops:Array Oper}{rest:List Oper}{o:Oper}{a:Act}{Q:Exit->Act->Qak->Prop}(hg:o.guard=none) (s x:Operand) (t:Qan)
  (hop:o.op=Op.call { callee:=Callee.builtin Builtin.append,args:=#[s,x],argTypes:=#[t,t] }) {v u v':Qal} {w':Qak} (hs:a.eval s=v) (hx:a.eval x=u)
  (hrun:(Q9 #[t,t] o.type #[v,u]).run P w=.ok v' w') (h:wpListIn F n P ops Q rest (a.put o.dst v') w'):wpListIn F n P ops Q (o::rest) a w:=by{
 refine wpListIn_plain hg fun K hK'=> ?_
 unfold Oper.wpIn;refine⟨?_,?_⟩
 ·simp[Oper.about,hop,resolve,Target.leads,Sem.run_pure]
 ·rw[Oper.semAt_plain F _ _ (by rw[hop];intro c hc';cases hc')]
  simp[execOp,hop,resolve,invoke,builtin,hs,hx,hrun,Result.andThen];exact hK' _ _ h}
def Zp1 (bb lo:Nat) (L:List It) (q:Option Nat) (V:Qak):Prop:=∃ A c,Boxed V bb 39 (.slice A L.length c)/\Yi rIt 5 54 lo V A c L/\q=A.map (·.block)
def RgI (n0:Qak) (b1 b2 bb lo lo':Nat) (f t:Ky) (r:List Wk×Option Nat) (V:Qak):Prop :=
 (Qat n0.heap.size n0 V/\lo'<=V.heap.size)/\(∀ p∈r.1,Zn t p.2.1.1=false)/\(Yh b1 #[.int .u8 (f.1.toNat:Int),.int .u32 f.2.1,.int .u32 f.2.2] 37 V/\Yh b2 #[.int .u8 (t.1.toNat:Int),.int .u32 t.2.1,.int .u32 t.2.2] 37 V)/\Zp1 bb lo (Zal f (r.1.map Za3)) r.2 V
def RgX (n0:Qak) (bb lo lo':Nat) (L:List It) (c:Code) (r:List Wk×Option Nat) (V:Qak):Prop:=c=.exit 0/\(Qat n0.heap.size n0 V/\lo'<=V.heap.size)/\Zp1 bb lo L r.2 V
theorem Zcj {bb lo:Nat}{L:List It}{q:Option Nat}{V V':Qak}{row:Option Nat}(h:Zp1 bb lo L q V) (hg:V.grownBy V' row) (hr:∀ r,row=some r->∃ o:Obj,V.heap[r]? = some o/\o.isCells=false):Zp1 bb lo L q V':=by
 obtain⟨A,c,h1,h2,h3⟩:=h;exact⟨A,c,Zl h1 hg hr,h2.own Z0 hg hr,h3⟩
theorem Zuf {bb lo:Nat}{L:List It}{q:Option Nat}{V:Qak}(h:Zp1 bb lo L q V):∀ k,q=some k->lo<=k/\k<V.heap.size:=fun k e=>by
 obtain⟨A,c,_,h2,h3⟩:=h;obtain⟨_,_,e4,_⟩:=h2.form;obtain⟨cs,h5,_⟩:=h2;have:=h5.lt k (by rw[e4,<- h3,e]);exact⟨this.1,this.2⟩
theorem Z8m {n0:Qak}{b1 b2 bb lo lo':Nat}{f t:Ky}{B:Nat}(hB:n0.heap.size<=B):OwnFrom B (RgI n0 b1 b2 bb lo lo' f t):=fun r V V' row hs hg hr=>by
 obtain⟨⟨h1,h2⟩,h3,⟨h4,h5⟩,h6⟩:=hs;have hn:=fun r e=>(hr r e).2
 exact⟨⟨ownFrom_below (Qb _) hB () V V' row h1 hg hr,Qa h2 hg.size⟩,h3,⟨Zl h4 hg hn,Zl h5 hg hn⟩,Zcj h6 hg hn⟩
theorem Z7x {n0:Qak}{bb lo lo':Nat}{L:List It}{c:Code}{B:Nat}(hB:n0.heap.size<=B):OwnFrom B (RgX n0 bb lo lo' L c):=fun r V V' row hs hg hr=>by
 obtain⟨h0,⟨h1,h2⟩,h6⟩:=hs;exact⟨h0,⟨ownFrom_below (Qb _) hB () V V' row h1 hg hr,Qa h2 hg.size⟩,Zcj h6 hg fun r e=>(hr r e).2⟩
theorem Z81 {B lo:Nat}{A:Option Qam}{V:Qak}{p:Qam}{v:Qal}(hB:lo<=B) (hp:Fre B (A.map (·.block)) V p) (hc:V.cell? p=some v):Xx lo A V p/\V.cell? p=some v:=⟨⟨⟨Qa hB hp.1.1,hp.1.2⟩,hp.2⟩,hc⟩
theorem Zps {s:Rm}{a:Int}{f t:Ky}{w V:Qak}{bb lo:Nat}{q:Option Nat}(he:ckE s a=0) (hlo:w.heap.size<=lo) (hb:Qat w.heap.size w V) (hr:Zp1 bb lo (Zhe s a f t) q V){A:Option Qam}{n c:Nat}(hbx:Boxed V bb 39 (.slice A n c)):Zt8 s a f t w (.returned (.tuple #[.slice A n c,.int .i64 0])) V:=by
 obtain⟨A',c',h1,h2,_⟩:=hr;unfold Boxed at hbx h1;rw[hbx] at h1;cases h1;refine⟨A,c,by rw[Zzd he,he],?_,hb⟩;rw[Zzd he];exact Xa.mono (Yi.rel Z0 h2) hlo
theorem Zmq (v:Qal) (s:Rm) (a:Int) (f t:Ky) (w:Qak) (h:Sto (Old w) w v s) :
  Qar Tryz.prog 29 #[v,.int .i64 a,kyV f,kyV t] w (Zt8 s a f t w):=by{
 obtain⟨A,ca,B,cb,N,cn,L,cl,rfl,_⟩:=id h.open;obtain⟨v0,hv0⟩:∃ q,(Value.slice A s.1.1.length ca)=q:=⟨_,rfl⟩
 obtain⟨v1,hv1⟩:∃ q,(Value.slice B s.1.2.length cb)=q:=⟨_,rfl⟩
 obtain⟨v2,hv2⟩:∃ q,(Value.slice N s.2.1.length cn)=q:=⟨_,rfl⟩
 obtain⟨v3,hv3⟩:∃ q,(Value.slice L s.2.2.length cl)=q:=⟨_,rfl⟩
 rw[hv0,hv1,hv2,hv3] at h ⊢;replace hv0:=Za hv0;replace hv1:=Za hv1;replace hv2:=Za hv2;replace hv3:=Za hv3;obtain⟨w1,hw1,k1,hs1,hB1⟩:=X4 w v0 v1 v2 v3 29;obtain⟨w2,hw2,_,_,_,hs2,hB2,k2⟩:=Xd w1 (.int .u8 (f.1.toNat:Int)) (.int .u32 f.2.1) (.int .u32 f.2.2) 37;obtain⟨w3,hw3,_,_,_,hs3,hB3,k3⟩:=Xd w2 (.int .u8 (t.1.toNat:Int)) (.int .u32 t.2.1) (.int .u32 t.2.2) 37;have hB23:=hB2.trans (hB3.mono hB2.size);have K1:Hid (Yh w.heap.size #[v0,v1,v2,v3] 29 w3):=Za (Zr _ _ _ _ _ k1 hB23);have K2:Hid (Yh w1.heap.size #[.int .u8 (f.1.toNat:Int),.int .u32 f.2.1,.int .u32 f.2.2] 37 w3):=Za (Zr _ _ _ _ _ k2 hB3);have K3:Hid (Yh w2.heap.size #[.int .u8 (t.1.toNat:Int),.int .u32 t.2.1,.int .u32 t.2.2] 37 w3):=Za k3;have B3:Hid (Qat w.heap.size w w3):=Za (hB1.trans (hB23.mono hB1.size));have sz:Hid (w1.heap.size=w.heap.size+1/\w2.heap.size=w.heap.size+2/\w3.heap.size=w.heap.size+3):=Za ⟨hs1,by omega,by omega⟩;have hck:=Za (Vm (.agg #[v0,v1,v2,v3]) s a w3 (h.below B3.out));obtain⟨E0,hE0⟩:∃ q,ckE s a=q:=⟨_,rfl⟩
 obtain⟨H0,hH0⟩:∃ q,ckH s a=q:=⟨_,rfl⟩
 rw[hE0,hH0] at hck;obtain⟨s0,s1,s2,s3,_⟩:=Ze K1.out;replace h:=Za h;replace hE0:=Za hE0;replace hs1:=Za hs1;replace hs2:=Za hs2;replace hs3:=Za hs3;clear k1 k2 k3 hB1 hB2 hB3 hB23;unfold kyV;refine callsIn_wide.1 (callsIn_of_wp_marks (n:=5) Tryz.func29 rfl trivial ?_ rfl);simp only[Tryz.ntmps29,Qt,Qn,Qu,Qv,Qw,Qx,Qy,Qz,Q0,Q3,Q4]
 gi_wp2_with fail
 refine⟨trivial,?_⟩
 gi_at_call 18
 refine(callsIn_wide.2 hck.out).mono ?_;rintro e w4 ⟨rfl,hB4⟩;have B4:=Za (B3.out.trans (hB4.mono B3.out.size));replace K1:Hid (Yh w.heap.size #[v0,v1,v2,v3] 29 w4):=Za (Zr _ _ _ _ _ K1.out hB4);replace K2:Hid (Yh w1.heap.size #[.int .u8 (f.1.toNat:Int),.int .u32 f.2.1,.int .u32 f.2.2] 37 w4):=Za (Zr _ _ _ _ _ K2.out hB4);replace K3:Hid (Yh w2.heap.size #[.int .u8 (t.1.toNat:Int),.int .u32 t.2.1,.int .u32 t.2.2] 37 w4):=Za (Zr _ _ _ _ _ K3.out hB4);have l34:=Za hB4.size;clear hw1 hw2 hw3 s0 s1 s2 s3 hck hB4;by_cases he:E0=0
 case neg =>
  have e1:(E0 != 0)=true:=by simpa using he
  have hne:Hid (ckE s a≠0):=Za (by rw[hE0.out];exact he);clear he
  gi_wp2_with fail
  refine⟨_,results_tmp2 rfl _ _ _,none,0,?_,?_,B4.out⟩
  ·rw[Zz8 hne.out,hE0.out]
   rfl
  ·rw[Zz8 hne.out]
   exact Z09 _ _
 subst he;obtain⟨s0,s1,s2,s3,_⟩:=Ze K1.out;obtain⟨w5,hw5,K5,hs5,hB5⟩:∃ w5,w4.alloc (.cells #[.slice none 0 0] 39)=w5/\Boxed w5 w4.heap.size 39 (.slice none 0 0)/\w5.heap.size=w4.heap.size+1/\Qat w4.heap.size w4 w5:=⟨_,rfl,Boxed.new _ _ _,by simp,(Qc _ _).alloc (Qb _) _⟩
 have hIt:=Za (Zjl v0 v1 v2 v3 a w5);have s0':=(hB5.cell (p:=⟨w.heap.size,0,none⟩) (by show w.heap.size<w4.heap.size;have:=sz.out;have:=l34.out;omega)).trans s0;have s1':=(hB5.cell (p:=⟨w.heap.size,1,none⟩) (by show w.heap.size<w4.heap.size;have:=sz.out;have:=l34.out;omega)).trans s1;have s2':=(hB5.cell (p:=⟨w.heap.size,2,none⟩) (by show w.heap.size<w4.heap.size;have:=sz.out;have:=l34.out;omega)).trans s2;have s3':=(hB5.cell (p:=⟨w.heap.size,3,none⟩) (by show w.heap.size<w4.heap.size;have:=sz.out;have:=l34.out;omega)).trans s3;obtain⟨w6,hw6,g6,b6,hs6,hB6⟩:∃ w6,(w5.alloc (.cells #[v0,v1,v2,v3] 29)).alloc (.cells #[.int .i64 a] 3)=w6/\Z3f w5.heap.size v0 v1 v2 v3 w6/\Z2f (w5.heap.size+1) (.int .i64 a) w6/\w6.heap.size=w5.heap.size+2/\Qat w5.heap.size w5 w6:=by
  obtain⟨wa,ha,ga,sa,ba⟩:=X4 w5 v0 v1 v2 v3 29;obtain⟨wb,hb,gb,sb,bb⟩:=Zdk wa (.int .i64 a) 3;obtain⟨k0,k1,k2,k3,_⟩:=Ze ga;exact⟨wb,by rw[ha,hb],V8 _ _ _ _ _ _ _ ⟨k0,k1,k2,k3,by omega⟩ bb,⟨by rw[<- sa];exact gb,by omega⟩,by omega,ba.trans (bb.mono ba.size)⟩
 rw[hw6] at hIt;replace hs5:=Za hs5;replace K5:=Za K5;clear s0 s1 s2 s3 hw6
 gi_wp2_with fail
 refine⟨trivial,?_⟩
 gi_at_call 55
 refine(callsIn_wide.2 hIt.out).mono ?_;rintro e w6 ⟨rfl,rfl⟩
 gi_wp2_with fail
 obtain⟨htree,_,_⟩:=Ul hE0.out;have l46:Hid (w.heap.size<w4.heap.size/\w2.heap.size<w4.heap.size/\w4.heap.size<w5.heap.size/\w6.heap.size=w5.heap.size+2):=Za ⟨by have:=sz.out;have:=l34.out;omega,by have:=sz.out;have:=l34.out;omega,by have:=hs5.out;omega,hs6⟩;have hB46:=Za (hB5.trans (hB6.mono hB5.size));have B6:Hid (Qat w.heap.size w w6):=Za (B4.out.trans (hB46.out.mono (Px l46.out.1)));have K26:Yh w1.heap.size _ _ w6:=Zr _ _ _ _ _ K2.out hB46.out;have K36:Yh w2.heap.size _ _ w6:=Zr _ _ _ _ _ K3.out hB46.out;have K56:Boxed w6 w4.heap.size 39 (.slice none 0 0):=(hB6.block _ (by have:=l46.out;omega)).trans K5.out;have hI0:RgI w w1.heap.size w2.heap.size w4.heap.size w5.heap.size w6.heap.size f t ([],none) w6:=⟨⟨B6.out,Qb _⟩,by simp,⟨K26,K36⟩,none,0,K56,Yi.nil _ _ _ _ _,rfl⟩
 have S6:Sto (fun p=>p.block<w.heap.size) w6 (.agg #[v0,v1,v2,v3]) s:=h.out.map fun p v hp hc=>Zeh (fun k hk=>B6.out.block k hk) hp hc
 have hit6:=Zgr s (rmV s a).1.toNat a (Za8 htree) w.heap.size w5.heap.size (w5.heap.size+1) v0 v1 v2 v3 w6 (by have:=l46.out;omega) g6 b6 S6;have hstop6:=Za (fun(M:List (Int×It)) (p:Int×It) hM h1 h2=>Z1g (f:=f) (t:=t) (M:=M) (p:=p) htree hM h1 h2);have hall6:=Za (fun(M:List (Int×It)) hM h1=>Z3d (s:=s) (a:=a) (f:=f) (t:=t) (M:=M) hM h1);have hlen6:=Za (fun(M:List (Int×It)) hM=>Z5a (f:=f) (M:=M) htree hM);obtain⟨LL,hLL⟩:∃ q,Ve s (rmV s a).1.toNat a=q:=⟨_,rfl⟩
 rw[hLL] at hit6 hstop6 hall6 hlen6;obtain⟨RR,hRR⟩:∃ q,Zhe s a f t=q:=⟨_,rfl⟩
 rw[hRR] at hstop6 hall6;replace hs6:=Za hs6;replace hLL:=Za hLL;replace hRR:=Za hRR;replace htree:=Za htree;clear s0' s1' s2' s3' g6 b6 S6 hIt hB5 hB6 K26 K36 K56
 refine Za1 (m:=5) (gf:=94) (lb:=#[.pointer (some ⟨w5.heap.size,0,none⟩),.pointer (some ⟨w5.heap.size+1,0,none⟩)]) rfl (enters_of Tryz.func94 (by kernel_rfl) rfl) hit6 (fun _=>rfl) (fun k=>k=w4.heap.size) (fun k e=>by have:=l46.out;omega) none (fun k hk=>by
   rcases hk with h | rfl | rfl
   ·exact⟨by have:=l46.out;omega,by have:=l46.out;omega,by simp⟩
   ·exact⟨by have:=l46.out;omega,by have:=l46.out;omega,by simp⟩
   ·exact⟨by have:=l46.out;omega,by have:=l46.out;omega,by simp⟩)
  (RgI w w1.heap.size w2.heap.size w4.heap.size w5.heap.size w6.heap.size f t) (RgX w w4.heap.size w5.heap.size w6.heap.size RR)
  (Z8m (by have:=l46.out;omega)) (fun c=>Z7x (by have:=l46.out;omega))
  (fun r V hr k e=>(Zuf hr.2.2.2 k e).2) hI0
  (fun y a' V=>∃ (g:Nat) (d:Qal),a'={ tmps:=#[.agg #[v0,v1,v2,v3],.int .i64 a,.agg #[.int .u8 (f.1.toNat:Int),.int .u32 f.2.1,.int .u32 f.2.2],.agg #[.int .u8 (t.1.toNat:Int),.int .u32 t.2.1,.int .u32 t.2.2],.pointer (some ⟨w.heap.size,0,none⟩),Qaq,.pointer (some ⟨w1.heap.size,0,none⟩),.pointer (some ⟨w2.heap.size,0,none⟩),.slice none 0 0,.int .i64 0,.int .i64 H0,.int .i64 0,.pointer (some ⟨w4.heap.size,0,none⟩),
    .int .i64 y.1,.pointer (some ⟨g,0,none⟩),.tuple #[.int .i64 H0,.int .i64 0],.agg #[v0,v1,v2,v3],.int .i64 a,.tuple #[.int .i64 H0,.int .i64 0],.int .i64 H0,.int .i64 0,.int .i64 0,.bool false,Qaq,.agg #[v0,v1,v2,v3],.int .i64 a,
    .func (.func 94) #[] #[.pointer (some ⟨w5.heap.size,0,none⟩),.pointer (some ⟨w5.heap.size+1,0,none⟩)],.int .i64 y.1,.agg #[.int .u8 (y.2.1.1.1.toNat:Int),.int .u32 y.2.1.1.2.1,.int .u32 y.2.1.1.2.2,.int .i64 y.2.1.2.1,d],Qaq,Qaq,Qaq,Qaq,Qaq,Qaq,Qaq,Qaq,Qaq,Qaq,Qaq,Qaq,Qaq,Qaq,Qaq,Qaq,Qaq,Qaq],defers:=[] }/\y.2.2=itV y.2.1 d /\
   Yh g #[.int .u8 (y.2.1.1.1.toNat:Int),.int .u32 y.2.1.1.2.1,.int .u32 y.2.1.1.2.2,.int .i64 y.2.1.2.1,d] 54 V)
  (fun y a' _ A B row hs hg hr=>by
   obtain⟨g,d,e1,e2,h0⟩:=hs
   exact⟨g,d,e1,e2,Zl h0 hg fun r e=>(hr r e).2⟩)
  (fun pre x q=>Zmd _ _ _ _ _ _) ?assign ?body ?done ?stop
 case assign =>
  rintro l' pre' q' ⟨lv',it',val'⟩ V K hi ⟨_,hit⟩ hK;obtain⟨A',c',hd,-⟩:=hit.open
  dsimp only at hd
  subst hd;obtain⟨V1,hV1,v0',v1',v2',v3',v4',hVs,hVB,hVg⟩:=Z9 V (.int .u8 (it'.1.1.toNat:Int)) (.int .u32 it'.1.2.1) (.int .u32 it'.1.2.2) (.int .i64 it'.2.1) (.slice A' it'.2.2.length c') 54;replace hVs:=Za hVs;clear hit hi hI0;simp only[Yb6,itV]
  gi_wp2_with fail
  exact hK _ _ (Z5 hVB) ⟨V.heap.size,_,rfl,rfl,hVg⟩
 case body =>
  rintro l' pre' q' ⟨lv',it',val'⟩ a' V hVs hI ⟨g,d,rfl,hd,hg⟩ ⟨hpf,hit⟩
  dsimp only at hd hit hg
  subst hd;obtain⟨v0',v1',v2',v3',v4',_⟩:=Zs hg;obtain⟨⟨hIb,hIs⟩,hIp,⟨hI1,hI2⟩,hIr⟩:=id hI;obtain⟨u0,u1,u2,_⟩:=Zk hI2;have hless:=Za (Zee t it'.1 V);unfold kyV at hless;obtain⟨b1,hb1⟩:∃ b,Zn t it'.1=b:=⟨_,rfl⟩
  rw[hb1] at hless;replace hb1:=Za hb1;replace hI:=Za hI;replace hIb:=Za hIb;replace hIs:=Za hIs;replace hIp:=Za hIp;replace hI1:=Za hI1;replace hI2:=Za hI2;replace hIr:=Za hIr;replace hg:=Za hg;replace hpf:=Za hpf;replace hit:=Za hit;clear hI0
  gi_wp2_with fail
  refine⟨trivial,rfl,?_⟩
  gi_at_call 56
  refine(CallsIn.inRound l' (callsIn_wide.2 hless.out)).mono ?_;rintro e V1 ⟨rfl,hB1⟩;have hg1:=Zr _ _ _ _ _ hg.out hB1;have hI1':=Zr _ _ _ _ _ hI1.out hB1;have hI2':=Zr _ _ _ _ _ hI2.out hB1;have hIr1:=Za (Zcj hIr.out (Z5 hB1) (by simp));have hIb1:=Za (hIb.out.trans (hB1.mono hIb.out.size));have hIs1:=Za (Qa hIs.out hB1.size);have hit1:=Za (hit.out.map fun p v hp hc=>Zmh (B':=0) (Z5 hB1) (by simp) hp hc:Itm (Fre (w6.heap.size+2) q' V1) V1 (itV it' d) it');have hk1:Hid (Vs (fun k=>k=w4.heap.size) q' q' V V1):=Za (Vs.below hB1);clear v0' v1' v2' v3' v4' u0 u1 u2 hless hB1;cases b1 with
  | true =>
   have hfin:=Za (hstop6.out (pre'.map Za3) (lv',it') (by have:=hpf.out;rw[Qg] at this;exact this) (fun p hp=>by
    obtain⟨y,hy,rfl⟩:=Qr.1 hp
    exact hIp.out y hy) hb1.out)
   replace hg1:=Za hg1;replace hI1':=Za hI1';replace hI2':=Za hI2'
   gi_wp2_with fail
   have:=hIr1.out;rw[hfin.out] at this;exact⟨q',hk1.out,rfl,⟨hIb1.out,hIs1.out⟩,this⟩
  | false =>
   have hIp1:Hid (∀ p∈pre'++[((lv',it',itV it' d):Wk)],Zn t p.2.1.1=false):=Za fun p hp=>by
    rcases Qo.1 hp with hp | hp
    ·exact hIp.out p hp
    ·rw[Qk] at hp
     subst hp;exact hb1.out
   have hm1:Hid ((pre'++[((lv',it',itV it' d):Wk)]).map Za3=pre'.map Za3++[(lv',it')]):=Za (by rw[Qg];rfl);by_cases hlv:lv'=0
   case neg =>
    have c0:(lv'==0)=false:=by simpa using hlv
    have hpk:Hid (Zal f ((pre'++[((lv',it',itV it' d):Wk)]).map Za3)=Zal f (pre'.map Za3)):=Za (by rw[hm1.out];exact Zzz (.inl hlv))
    have hI9:Hid (RgI w w1.heap.size w2.heap.size w4.heap.size w5.heap.size w6.heap.size f t (pre'++[((lv',it',itV it' d):Wk)],q') V1):=Za ⟨⟨hIb1.out,hIs1.out⟩,hIp1.out,⟨hI1',hI2'⟩,by
     show Zp1 _ _ (Zal f ((pre'++[((lv',it',itV it' d):Wk)]).map Za3)) _ _;rw[hpk.out]
     exact hIr1.out⟩
    clear hlv hg1 hI1' hI2'
    gi_wp2_with fail
    refine⟨trivial,?_⟩
    gi_wp2_with fail
    exact⟨q',hk1.out,hI9.out⟩
   subst hlv;obtain⟨v0',v1',v2',v3',v4',_⟩:=Zs hg1;obtain⟨u0,u1,u2,_⟩:=Zk hI1';have hless2:=Za (Zee it'.1 f V1);unfold kyV at hless2;obtain⟨b2,hb2⟩:∃ b,Zn it'.1 f=b:=⟨_,rfl⟩
   rw[hb2] at hless2;replace hb2:=Za hb2;replace hg1:=Za hg1;replace hI1':=Za hI1';replace hI2':=Za hI2'
   gi_wp2_with fail
   refine⟨trivial,rfl,?_⟩
   gi_at_call 56
   refine(CallsIn.inRound l' (callsIn_wide.2 hless2.out)).mono ?_;rintro e V2 ⟨rfl,hB2⟩;have hg2:=Zr _ _ _ _ _ hg1.out hB2;have hI1'':=Za (Zr _ _ _ _ _ hI1'.out hB2);have hI2'':=Za (Zr _ _ _ _ _ hI2'.out hB2);have hIr2:=Za (Zcj hIr1.out (Z5 hB2) (by simp));have hIb2:=Za (hIb1.out.trans (hB2.mono hIb1.out.size));have hIs2:=Za (Qa hIs1.out hB2.size);have hit2:=Za (hit1.out.map fun p v hp hc=>Zmh (B':=0) (Z5 hB2) (by simp) hp hc:Itm (Fre (w6.heap.size+2) q' V2) V2 (itV it' d) it');have hk2:Hid (Vs (fun k=>k=w4.heap.size) q' q' V V2):=Za (hk1.out.trans (Vs.below hB2));clear v0' v1' v2' v3' v4' u0 u1 u2 hless2 hB2 hg1 hI1' hI2' hIr1 hIb1 hIs1 hit1 hk1;cases b2 with
   | true =>
    have hpk:Hid (Zal f ((pre'++[(((0:Int),it',itV it' d):Wk)]).map Za3)=Zal f (pre'.map Za3)):=Za (by rw[hm1.out];exact Zzz (.inr hb2.out))
    have hI9:Hid (RgI w w1.heap.size w2.heap.size w4.heap.size w5.heap.size w6.heap.size f t (pre'++[(((0:Int),it',itV it' d):Wk)],q') V2):=Za ⟨⟨hIb2.out,hIs2.out⟩,hIp1.out,⟨hI1''.out,hI2''.out⟩,by
     show Zp1 _ _ (Zal f ((pre'++[(((0:Int),it',itV it' d):Wk)]).map Za3)) _ _;rw[hpk.out]
     exact hIr2.out⟩
    clear hg2
    gi_wp2_with fail
    exact⟨q',hk2.out,hI9.out⟩
   | false =>
    have hpk:Hid (Zal f ((pre'++[(((0:Int),it',itV it' d):Wk)]).map Za3)=Zal f (pre'.map Za3)++[it']):=Za (by rw[hm1.out];exact Z3r rfl hb2.out);have hln:=Za (hlen6.out (pre'.map Za3) (by have:=hpf.out;rw[Qg] at this;exact(List.prefix_append _ _).trans this));obtain⟨PP,hPP⟩:∃ q,Zal f (pre'.map Za3)=q:=⟨_,rfl⟩
    rw[hPP] at hpk hIr2 hln;obtain⟨n,hn⟩:∃ q,PP.length=q:=⟨_,rfl⟩
    have hlt2:=Za (Zuf hIr2.out);obtain⟨A,c,hbx,hrow,hq⟩:=hIr2.out;rw[hn] at hbx hln;have hbc:=hbx.cell;obtain⟨v0',v1',v2',v3',v4',_⟩:=Zs hg2;obtain⟨V3,hV3,_,_,_,_,_,hVs3,hB3,hg3⟩:=Z9 V2 (.int .u8 (it'.1.1.toNat:Int)) (.int .u32 it'.1.2.1) (.int .u32 it'.1.2.2) (.int .i64 it'.2.1) d 54;have hrow3:=hrow.below Z0 hB3;have hit3:Itm (Xx w5.heap.size A V3) V3 (itV it' d) it':=hit2.out.map fun p v hp hc=>by
     have h1:=Zmh (Z5 hB3) (B':=0) (by simp) hp hc;rw[hq] at h1;exact Z81 (by have:=l46.out;omega) h1.1 h1.2
    obtain⟨d',hd',hin,hby⟩:=hit3;obtain rfl:d=d':=by
     unfold itV at hd';simp at hd';exact hd'
    obtain⟨A9,c9,V9,hrun,hrow9,hgr9,hB9,hk9⟩:=Zrd hrow3 V2.heap.size it' d 1 n hn hg3 (by have:=hln.out;omega) (by have:=l46.out;have:=hIs2.out;omega) hin hby
    have hbx3:Boxed V3 w4.heap.size 39 (.slice A n c):=(hB3.block _ hbx.lt).trans hbx;have hne9:∀ k,k<w5.heap.size->V9.heap[k]? = V3.heap[k]? := fun k hk=>hB9.block k hk
    have hbx9:Boxed V9 w4.heap.size 39 (.slice A n c):=(hne9 _ (by have:=l46.out;omega)).trans hbx3;have hbc9:=hbx9.cell;have hbf9:=hbx9.frozen;have hbx10:=hbx9.set (.slice A9 (n+1) c9);have hgs:=grownBy_setCell' V9 w4.heap.size (.slice A9 (n+1) c9);have hrow10:=hrow9.grown Z0 hgs (fun r e=>by cases e;have:=l46.out;omega)
    have hk10:Hid (Vs (fun k=>k=w4.heap.size) q' (A9.map (·.block)) V (V9.setCell ⟨w4.heap.size,0,none⟩ (.slice A9 (n+1) c9))):=Za (((hk2.out.trans (Vs.below hB3)).trans (Vs.row hgr9 (fun r e=>.inl (by rw[hq,e])) (fun r e=>by
     rcases hk9 with h9 | h9
     ·exact .inl (by rw[hq,<- h9,e])
     ·rw[e] at h9
      simp only[Option.some.injEq] at h9
      exact .inr (.inr (by omega))))).grown hgs (fun r e=>by cases e;exact .inr rfl))
    have hI9:Hid (RgI w w1.heap.size w2.heap.size w4.heap.size w5.heap.size w6.heap.size f t (pre'++[(((0:Int),it',itV it' d):Wk)],A9.map (·.block)) (V9.setCell ⟨w4.heap.size,0,none⟩ (.slice A9 (n+1) c9))):=Za (by
     have h29:∀ k,k<w4.heap.size->(V9.setCell ⟨w4.heap.size,0,none⟩ (.slice A9 (n+1) c9)).heap[k]? = V2.heap[k]? := fun k hk=>by
      rw[Py V9 ⟨w4.heap.size,0,none⟩ _ k (by show k≠w4.heap.size;omega),hne9 k (by have:=l46.out;omega),hB3.block k (by have:=l46.out;have:=hIs2.out;omega)]
     refine⟨⟨?_,?_⟩,hIp1.out,⟨(h29 _ (by have:=l46.out;have:=sz.out;omega)).trans hI1''.out,(h29 _ (by have:=l46.out;omega)).trans hI2''.out⟩,?_⟩
     ·have h5:w.heap.size<=w5.heap.size:=by have:=l46.out;omega
      exact(((hIb2.out.trans (hB3.mono hIb2.out.size)).trans (hB9.mono h5)).grown hgs (by have:=hIs2.out;have:=l46.out;have:=hB3.size;have:=hB9.size;omega) (fun k e=>by cases e;have:=l46.out;omega))
     ·have:=hgs.size
      have:=hB9.size;have:=hB3.size;have:=hIs2.out;omega
     ·refine⟨A9,c9,?_,?_,rfl⟩
      ·show Boxed _ _ _ (.slice A9 (Zal f ((pre'++[(((0:Int),it',itV it' d):Wk)]).map Za3)).length c9)
       rw[hpk.out,Qi,hn];exact hbx10
      ·show Yi _ _ _ _ _ _ _ (Zal f ((pre'++[(((0:Int),it',itV it' d):Wk)]).map Za3))
       rw[hpk.out]
       exact hrow10)
    replace hn:=Za hn;replace hVs3:=Za hVs3;have H9:=Za hrun;clear hq hbx hrow hrow3 hbx3 hne9 hbx9 hbx10 hgs hrow10 hgr9 hB9 hk9 hin hby hd' hit2 hg2 hB3 hrun hrow9 hg3
    gi_wp2_with (gi_at_builtin;refine Zzq rfl _ _ _ rfl rfl rfl H9.out ?_;clear H9)
    exact⟨_,hk10.out,hI9.out⟩
 case done =>
  rintro xs q' V hVs hE ⟨⟨hb,_⟩,hp,_,hr⟩ hDV hqV
  have hfin:=hall6.out (xs.map Za3) hE (fun p hp'=>by
   obtain⟨y,hy,rfl⟩:=Qr.1 hp'
   exact hp y hy)
  rw[hfin] at hr;obtain⟨A,c,hbx,hrow,hq⟩:=id hr;obtain⟨n,hn⟩:∃ q,RR.length=q:=⟨_,rfl⟩
  rw[hn] at hbx;have hbc:=hbx.cell;rw[<- hRR.out] at hr;have hD1:=Za hDV;replace hr:=Za hr;replace hb:=Za hb;replace hbx:=Za hbx;replace hs6:=hs6;clear hp hq hrow hn hDV hqV hVs hfin hI0
  gi_wp2_with fail
  refine⟨by simp,.inl ⟨_,_,rfl,run_takeDeferred hD1.out,_,results_tmp2 rfl _ _ _,?_⟩⟩;have hgp:=grownBy_putObj' V w6.heap.size (.deferred none);have hnp:∀ r,some w6.heap.size=some r->∃ o:Obj,V.heap[r]? = some o/\o.isCells=false:=fun r e=>by cases e;exact⟨_,hD1.out,rfl⟩
  exact Zps hE0.out (by have:=l46.out;omega:w.heap.size<=w5.heap.size) (hb.out.grown hgp hb.out.size (fun k e=>by cases e;have:=l46.out;omega)) (Zcj hr.out hgp hnp) (Zl hbx.out hgp hnp)
 case stop =>
  rintro c pre' q' V hVs ⟨rfl,⟨hb,_⟩,hr⟩ hDV hqV;obtain⟨A,c,hbx,hrow,hq⟩:=id hr;obtain⟨n,hn⟩:∃ q,RR.length=q:=⟨_,rfl⟩
  rw[hn] at hbx;have hbc:=hbx.cell;rw[<- hRR.out] at hr;have hD1:=Za hDV;replace hr:=Za hr;replace hb:=Za hb;replace hbx:=Za hbx;clear hq hrow hn hDV hqV hVs hI0
  gi_wp2_with fail
  refine⟨by simp,.inl ⟨_,_,rfl,run_takeDeferred hD1.out,_,results_tmp2 rfl _ _ _,?_⟩⟩;have hgp:=grownBy_putObj' V w6.heap.size (.deferred none);have hnp:∀ r,some w6.heap.size=some r->∃ o:Obj,V.heap[r]? = some o/\o.isCells=false:=fun r e=>by cases e;exact⟨_,hD1.out,rfl⟩
  exact Zps hE0.out (by have:=l46.out;omega:w.heap.size<=w5.heap.size) (hb.out.grown hgp hb.out.size (fun k e=>by cases e;have:=l46.out;omega)) (Zcj hr.out hgp hnp) (Zl hbx.out hgp hnp)}
end Go.Proofs.YtgmbjnajdfgenaaGreat
namespace Go.Proofs.YtgmbjnajdfgenaaGreat
open Go.RowKit Go.Shelf
attribute [local go_sem] Oper.semAt_some
def Zu0 (q:Sv) (many:Nat):Nat:=many+q.nd.2.length-(if q.inst=true then 1 else 0)
def Zdn:List Sv->Nat->Bool
 | [],_=>true
 | q::r,many=>if Zu0 q many<=5 then false else Zdn r 2
theorem Zvp {l:List Sv}{k many:Nat}{q:Sv}(h:l[k]? = some q):Zdn (l.drop k) many=if Zu0 q many<=5 then false else Zdn (l.drop (k+1)) 2:=by
 obtain⟨hl,e⟩:=Ql.1 h;rw[Pe hl,e];rfl
def svZ:Sv:=⟨(0,[]),0,false,none,0,0,0⟩
theorem Yac {l:List Sv}{i:Nat}{x:Sv}(h:l[i]? = some x):∀ j u,(svV x)[j]? = some u->(svs l)[i*4+j]? = some u:=by{
 induction l generalizing i with
 | nil=>simp at h
 | cons y l ih =>
  intro j u hj;have hj4:j<4:=(Ql.1 hj).1;cases i with
  | zero =>
   simp at h;subst h;show (svV y++svs l)[0*4+j]? = _;rw[Pi (by show 0*4+j<4;omega),Nat.zero_mul,Pd];exact hj
  | succ i =>
   show (svV y++svs l)[(i+1)*4+j]? = _;rw[Q5 (by show 4<=_;omega),show (i+1)*4+j-(svV y).length=i*4+j by show _-4=_;omega];exact ih (by simpa using h) j u hj}
theorem Zt9 {w:Qak}{lo c:Nat}{A:Option Qam}{l:List Sv}(h:w.ownsRow lo 144 4 (.slice A l.length c) l.length (svs l)):∃ ad:Qam,(0<l.length->A=some ad/\lo<=ad.block/\ad.block<w.heap.size)/\∀ j,j<l.length->At4 w (ad.add (j*4)) (l[j]?.getD svZ):=by{
 rcases Nat.eq_zero_or_pos l.length with h0 | h0
 ·exact⟨⟨0,0,none⟩,fun h=>by omega,fun j hj=>by omega⟩
 rcases h.2 with ⟨_,e⟩ | ⟨g,cap,cur,e,hb,hg,_⟩
 ·omega
 ·cases e
  refine⟨⟨g,0,none⟩,fun _=>⟨rfl,hb,(Qd.1 hg).1⟩,fun j hj=> ?_⟩;have hx:l[j]? = some l[j]:=Qh hj;have hc:=fun i u hu=>h.cells (g:=g) rfl _ u (Yac hx i u hu)
  rw[hx];have e0:=hc 0 _ rfl;have e1:=hc 1 _ rfl;have e2:=hc 2 _ rfl;have e3:=hc 3 _ rfl;rw[Zah,Pd] at e0 e1 e2 e3;rw[Zah,Pd];exact⟨e0,e1,e2,e3⟩}
def PaI (n0:Qak) (b1 b2 lo':Nat) (l:List Sv) (r:List Nat×Option Nat) (V:Qak):Prop :=
 r.2=none/\(Qat n0.heap.size n0 V/\lo'<=V.heap.size)/\Yh b1 #[.bool false] 4 V/\∃ many:Nat,1<=many/\many<=2/\Yh b2 #[.int .i64 (many:Int)] 3 V/\Zdn l.reverse 1=Zdn (l.reverse.drop r.1.length) many
def PaX (n0:Qak) (b1 lo':Nat) (l:List Sv) (c:Code) (r:List Nat×Option Nat) (V:Qak):Prop :=
 c=.ret/\r.2=none/\(Qat n0.heap.size n0 V/\lo'<=V.heap.size)/\Yh b1 #[.bool false] 4 V/\Zdn l.reverse 1=false
theorem Z9m {n0:Qak}{b1 b2 lo':Nat}{l:List Sv}{B:Nat}(hB:n0.heap.size<=B):OwnFrom B (PaI n0 b1 b2 lo' l):=fun r V V' row hs hg hr=>by
 obtain⟨h0,⟨h1,h2⟩,h3,many,m1,m2,h4,h5⟩:=hs;have hn:=fun r e=>(hr r e).2
 exact⟨h0,⟨ownFrom_below (Qb _) hB () V V' row h1 hg hr,Qa h2 hg.size⟩,Zl h3 hg hn,many,m1,m2,Zl h4 hg hn,h5⟩
theorem Z61 {n0:Qak}{b1 lo':Nat}{l:List Sv}{c:Code}{B:Nat}(hB:n0.heap.size<=B):OwnFrom B (PaX n0 b1 lo' l c):=fun r V V' row hs hg hr=>by
 obtain⟨hc,h0,⟨h1,h2⟩,h3,h5⟩:=hs;have hn:=fun r e=>(hr r e).2
 exact⟨hc,h0,⟨ownFrom_below (Qb _) hB () V V' row h1 hg hr,Qa h2 hg.size⟩,Zl h3 hg hn,h5⟩
theorem Zzk (A:Option Qam) (m c:Nat) (l:List Sv) (lo:Nat) (w:Qak) (h:w.ownsRow lo 144 4 (.slice A m c) m (svs l)) (hl:l.length=m) (hm:m<=100) (h5:∀ q∈l,q.nd.2.length<=5) :
  Qar Tryz.prog 43 #[.slice A m c] w fun e w'=>e=.returned (.bool (Zdn l.reverse 1))/\Qat w.heap.size w w':=by{
 obtain⟨ad,had,hat⟩:=Zt9 (by rw[hl];exact h);rw[hl] at had hat;obtain⟨f,hf⟩:∃ f:Nat->Sv,f=fun j=>l[j]?.getD svZ:=⟨_,rfl⟩
 have hff:Hid (∀ k,k<m->l.reverse[k]? = some (f (m-1-k))/\(f (m-1-k)).nd.2.length<=5):=Za fun k hk=>by
  have e:l.reverse[k]? = some l[m-1-k]:=by
   rw[List.getElem?_reverse (by omega),show l.length-1-k=m-1-k by omega];exact Qh _
  have e2:f (m-1-k)=l[m-1-k]:=by
   rw[hf];simp[Qh (show m-1-k<l.length by omega)]
  rw[e2];exact⟨e,h5 _ (List.getElem_mem _)⟩
 obtain⟨w1,hw1,b1,hs1,hB1⟩:∃ w1,w.alloc (.cells #[.bool false] 4)=w1/\Yh w.heap.size #[.bool false] 4 w1/\w1.heap.size=w.heap.size+1/\Qat w.heap.size w w1:=⟨_,rfl,Qap w _,by simp,(Qc _ _).alloc (Qb _) _⟩
 obtain⟨w2,hw2,b2,hs2,hB2⟩:∃ w2,w1.alloc (.cells #[.int .i64 1] 3)=w2/\Yh w1.heap.size #[.int .i64 1] 3 w2/\w2.heap.size=w1.heap.size+1/\Qat w1.heap.size w1 w2:=⟨_,rfl,Qap w1 _,by simp,(Qc _ _).alloc (Qb _) _⟩
 obtain⟨w3,hw3,b3,hs3,hB3⟩:=Zdk w2 (.slice A m c) 93;have hbw:=Za (Zfs A m c w2);rw[hw3] at hbw;have hB23:=hB2.trans (hB3.mono hB2.size);have B3:=Za (hB1.trans (hB23.mono hB1.size));have B31:=Za (show Yh w.heap.size #[.bool false] 4 w3 from Zr _ _ _ _ _ b1 hB23);have B32:=Za (show Yh w1.heap.size #[.int .i64 1] 3 w3 from Zr _ _ _ _ _ b2 hB3);have SZ:=Za (show w1.heap.size=w.heap.size+1/\w2.heap.size=w.heap.size+2/\w3.heap.size=w.heap.size+3 from ⟨hs1,by omega,by omega⟩);have htold:=Zkx w2.heap.size c m A ad f w3 b3 (fun h=>⟨(had h).1,Qf (had h).2.2 B3.out.size⟩) (by omega) (fun j hj=>by rw[hf];exact(hat j hj).same (B3.out.block _ (by rw[Zh];exact(had (by omega)).2.2)));have hlt:=Za (fun h:0<m=>(had h).2.2);have hI0:PaI w w.heap.size w1.heap.size w3.heap.size l ([],none) w3:=⟨rfl,⟨B3.out,Qb _⟩,B31.out,1,by omega,by omega,B32.out,rfl⟩
 replace hf:=Za hf;replace hl:=Za hl;replace hs1:=Za hs1;replace hs2:=Za hs2;replace hs3:=Za hs3;clear h had hat b1 b2 b3 hB1 hB2 hB3 hB23 h5 hw3;refine callsIn_wide.1 (callsIn_of_wp_marks (n:=5) Tryz.func43 rfl trivial ?_ rfl);simp only[Tryz.ntmps43,Qt,Qn,Qu,Qv,Qw,Qx,Qy,Qz,Q0,Q3,Q4]
 gi_wp2_with fail
 refine⟨trivial,?_⟩
 gi_at_call 75
 refine(callsIn_wide.2 hbw.out).mono ?_;rintro e w3 ⟨rfl,rfl⟩
 gi_wp2_with fail
 refine Za1 (m:=5) (gf:=119) (lb:=#[.pointer (some ⟨w2.heap.size,0,none⟩)]) rfl (enters_of Tryz.func119 (by kernel_rfl) rfl) htold (fun _=>rfl) (fun k=>k=w.heap.size\/k=w1.heap.size) (fun k e=>by have:=SZ.out;omega) none (fun k hk=>by
   rcases hk with rfl | ⟨h0,rfl⟩
   ·exact⟨by have:=SZ.out;omega,by have:=SZ.out;omega,by simp⟩
   ·have:=hlt.out h0
    exact⟨by have:=SZ.out;omega,by have:=SZ.out;omega,by simp⟩)
  (PaI w w.heap.size w1.heap.size w3.heap.size l) (PaX w w.heap.size w3.heap.size l)
  (Z9m (by have:=SZ.out;omega)) (fun c=>Z61 (by have:=SZ.out;omega))
  (fun r V hr k e=>by rw[hr.1] at e;cases e) hI0
  (fun x a' V=>∃ g:Nat,a'={ tmps:=#[.slice A m c,Qaq,.pointer (some ⟨w.heap.size,0,none⟩),.pointer (some ⟨w1.heap.size,0,none⟩),Qaq,.pointer (some ⟨g,0,none⟩),.slice A m c,.func (.func 119) #[] #[.pointer (some ⟨w2.heap.size,0,none⟩)],.int .i64 (x:Int),.agg #[.int .i64 (f x).nd.1,.slice (f x).A (f x).nd.2.length (f x).c,.int .i64 ((f x).pl:Int),.bool (f x).inst],
    Qaq,Qaq,Qaq,Qaq,Qaq,Qaq,Qaq,Qaq,Qaq,Qaq,Qaq,Qaq],defers:=[] }/\Yh g #[.int .i64 (f x).nd.1,.slice (f x).A (f x).nd.2.length (f x).c,.int .i64 ((f x).pl:Int),.bool (f x).inst] 144 V)
  (fun y a' _ A B row hs hg hr=>by
   obtain⟨g,e1,h0⟩:=hs
   exact⟨g,e1,Zl h0 hg fun r e=>(hr r e).2⟩)
  (fun pre x q=>fun _ _ _ _ hs _ _=>hs) ?assign ?body ?done ?stop
 case assign =>
  rintro l' pre' q' x V K hi hT hK;obtain⟨V1,hV1,bV,hVs,hVB⟩:=X4 V (.int .i64 (f x).nd.1) (.slice (f x).A (f x).nd.2.length (f x).c) (.int .i64 ((f x).pl:Int)) (.bool (f x).inst) 144;replace hVs:=Za hVs;clear hi hI0 hT;simp only[Yb0]
  gi_wp2_with fail
  exact hK _ _ (Z5 hVB) ⟨V.heap.size,rfl,bV⟩
 case body =>
  rintro l' pre' q' x a' V hVs hI ⟨g,rfl,hg⟩ ⟨hp1,hp2,hp3⟩;obtain⟨hq,⟨hIb,hIs⟩,hB1,many,hm1,hm2,hB2,hpf⟩:=hI
  dsimp only at hq
  subst hq;have hk:pre'.length<m:=hp2;clear hp1;obtain⟨hrv,hl5⟩:=hff.out _ hk;rw[<- hp3] at hrv hl5;clear hp3;have hst:=Zvp (many:=many) hrv;have hpl:(pre'++[x]).length=pre'.length+1:=by rw[Qi];rfl
  obtain⟨g0,g1,g2,g3,gf,gl⟩:=Ze hg;obtain⟨m0,mf,ml⟩:=Zo hB2;generalize f x=q at *;obtain⟨n,hn⟩:∃ n,q.nd.2.length=n:=⟨_,rfl⟩
  have hls:Zu0 q many=many+n-(if q.inst=true then 1 else 0):=by unfold Zu0;rw[hn]
  rw[hn] at g1 hl5 ⊢;generalize q.nd.1=q1 at *;generalize q.A=q2 at *;generalize q.c=q4 at *;generalize (q.pl:Int)=q5 at *;have hw1':IntKind.i64.wrap ((many:Int)+(n:Int))=(many:Int)+(n:Int):=by rw[IntKind.wrap_i64];omega
  have hw2':IntKind.i64.wrap ((many:Int)+(n:Int)-1)=(many:Int)+(n:Int)-1:=by rw[IntKind.wrap_i64];omega
  obtain⟨V1,hV1,h1,gr1,hs1'⟩:=X5 (u:=.int .i64 ((many:Int)+(n:Int))) hB2;have hne:g≠w1.heap.size:=fun e=>by
   subst e;unfold Yh at hg hB2;rw[hg] at hB2;simp at hB2
  have g3':V1.cell? ⟨g,3,none⟩=some (.bool q.inst):=(Qe (a:=⟨g,3,none⟩) (gr1.block g gl (by simpa using hne))).trans g3;obtain⟨u0,uf,ul⟩:=Zo h1;have hB11:Yh w.heap.size #[.bool false] 4 V1:=(gr1.block _ (Qd.1 hB1).1 (by have:=SZ.out;intro e;have:=Option.some.inj e;omega)).trans hB1;have hb1:=hIb.grown gr1 (by have:=hIs;have:=SZ.out;omega) (fun k e=>by cases e;have:=SZ.out;omega);have hs1:w3.heap.size<=V1.heap.size:=by omega
  have kp1:Vs (fun k=>k=w.heap.size\/k=w1.heap.size) none none V V1:=(Vs.refl _ _ _).grown gr1 fun r e=>by cases e;exact .inr (.inr rfl)
  have hfin:∀ (t:Int) (V2:Qak),V2.heap[w1.heap.size]? = some (.cells #[.int .i64 t] 3 (0,0))->Yh w.heap.size #[.bool false] 4 V2->Qat w.heap.size w V2->w3.heap.size<=V2.heap.size->Vs (fun k=>k=w.heap.size\/k=w1.heap.size) none none V V2->t=(Zu0 q many:Nat) ->
    (t<=5->∃ V3,V2.setCell ⟨w.heap.size,0,none⟩ (.bool false)=V3/\V2.cell? ⟨w.heap.size,0,none⟩=some (.bool false)/\V2.frozen? ⟨w.heap.size,0,none⟩=false/\(∃ q',Vs (fun k=>k=w.heap.size\/k=w1.heap.size) none q' V V3/\PaX w w.heap.size w3.heap.size l .ret (pre'++[x],q') V3)) /\
    (¬ t<=5->∃ V3,V2.setCell ⟨w1.heap.size,0,none⟩ (.int .i64 2)=V3/\(∃ q',Vs (fun k=>k=w.heap.size\/k=w1.heap.size) none q' V V3/\PaI w w.heap.size w1.heap.size w3.heap.size l (pre'++[x],q') V3)):=fun t V2 c1 c2 c3 c4 c5 c6=>by
   refine⟨fun h5=> ?_,fun h5=> ?_⟩
   ·obtain⟨V3,e3,d1,d2,d3⟩:=X5 (u:=.bool false) c2
    obtain⟨y0,yf,_⟩:=Zo c2;exact⟨V3,e3,y0,yf,none,c5.grown d2 (fun r e=>by cases e;exact .inr (.inl rfl)),rfl,rfl,⟨c3.grown d2 (by have:=SZ.out;omega) (fun k e=>by cases e;exact Qb _),by omega⟩,d1,by rw[hpf,hst,if_pos (by omega)]⟩
   ·obtain⟨V3,e3,d1,d2,d3⟩:=X5 (u:=.int .i64 2) c1
    exact⟨V3,e3,none,c5.grown d2 (fun r e=>by cases e;exact .inr (.inr rfl)),rfl,⟨c3.grown d2 (by have:=SZ.out;omega) (fun k e=>by cases e;have:=SZ.out;omega),by omega⟩,(d2.block _ (Qd.1 c2).1 (by have:=SZ.out;intro e;have:=Option.some.inj e;omega)).trans c2,2,by omega,by omega,d1,by rw[hpf,hst,if_neg (by omega),hpl]⟩
  cases hins:q.inst with
  | true =>
   rw[hins] at g3' hls;rw[if_pos rfl] at hls;obtain⟨V2,hV2,h2,gr2,hs2'⟩:=X5 (u:=.int .i64 ((many:Int)+(n:Int)-1)) h1;obtain⟨x0,xf,_⟩:=Zo h2;have hB12:Yh w.heap.size #[.bool false] 4 V2:=(gr2.block _ (Qd.1 hB11).1 (by have:=SZ.out;intro e;have:=Option.some.inj e;omega)).trans hB11;obtain⟨f1,f2⟩:=hfin ((many:Int)+(n:Int)-1) V2 h2 hB12 (hb1.grown gr2 (by have:=SZ.out;omega) (fun k e=>by cases e;have:=SZ.out;omega)) (by omega) (kp1.grown gr2 fun r e=>by cases e;exact .inr (.inr rfl)) (by rw[hls];omega);clear hfin hst hI0 hpf;by_cases h5:(many:Int)+(n:Int)-1<=5
   ·obtain⟨V3,e3,y0,yf,q',hq1,hq2⟩:=f1 h5
    replace hq1:=Za hq1;replace hq2:=Za hq2;clear f1 f2
    gi_wp2_with fail
    exact⟨q',hq1.out,hq2.out⟩
   ·obtain⟨V3,e3,q',hq1,hq2⟩:=f2 h5
    replace hq1:=Za hq1;replace hq2:=Za hq2;clear f1 f2
    gi_wp2_with fail
    exact⟨q',hq1.out,hq2.out⟩
  | false =>
   rw[hins] at g3' hls;rw[if_neg (by decide),Nat.sub_zero] at hls;obtain⟨f1,f2⟩:=hfin ((many:Int)+(n:Int)) V1 h1 hB11 hb1 hs1 kp1 (by rw[hls];omega);clear hfin hst hI0 hpf;by_cases h5:(many:Int)+(n:Int)<=5
   ·obtain⟨V3,e3,y0,yf,q',hq1,hq2⟩:=f1 h5
    replace hq1:=Za hq1;replace hq2:=Za hq2;clear f1 f2
    gi_wp2_with fail
    exact⟨q',hq1.out,hq2.out⟩
   ·obtain⟨V3,e3,q',hq1,hq2⟩:=f2 h5
    replace hq1:=Za hq1;replace hq2:=Za hq2;clear f1 f2
    gi_wp2_with fail
    exact⟨q',hq1.out,hq2.out⟩
 case done =>
  rintro xs q' V hVs rfl ⟨_,⟨hb,hs⟩,hB1,many,_,_,_,hpf⟩ hDV hqV
  have hpt:Hid (Zdn l.reverse 1=true):=Za (by
   rw[hpf,Xc,Po (by rw[Pk,hl.out];exact Qb _)]
   rfl)
  obtain⟨V3,hV3,h3,gr3,hs3'⟩:=X5 (u:=.bool true) hB1;obtain⟨m0,mf,ml⟩:=Zo hB1;have hD1:=Za ((gr3.block _ (Qd.1 hDV).1 (by have:=SZ.out;intro e;have:=Option.some.inj e;omega)).trans hDV);have hb3:=Za (hb.grown gr3 (by have:=SZ.out;omega) (fun k e=>by cases e;exact Qb _));have h3h:=Za h3;clear hpf hI0 hDV hB1 h3 gr3 hqV hb
  gi_wp2_with fail
  refine⟨by simp,.inl ⟨_,_,rfl,run_takeDeferred hD1.out,?_⟩⟩;have hgp:=grownBy_putObj' V3 w3.heap.size (.deferred none);have hnp:∀ r,some w3.heap.size=some r->∃ o:Obj,V3.heap[r]? = some o/\o.isCells=false:=fun r e=>by cases e;exact⟨_,hD1.out,rfl⟩
  have h9:=Zl h3h.out hgp hnp;obtain⟨n0,_,_⟩:=Zo h9;exact⟨.bool true,by simp[results,Tryz.f43,go_sem,n0],by rw[hpt.out],hb3.out.grown hgp (by have:=hb3.out.size;omega) (fun k e=>by cases e;have:=SZ.out;omega)⟩
 case stop =>
  rintro c pre' q' V hVs ⟨rfl,_,⟨hb,hs⟩,hB1,hpf⟩ hDV hqV;have hD1:=Za hDV;have hb3:=Za hb;have h3h:=Za hB1;have hpt:=Za hpf;clear hpf hI0 hDV hB1 hqV hb
  gi_wp2_with fail
  refine⟨by simp,.inl ⟨_,_,rfl,run_takeDeferred hD1.out,?_⟩⟩;have hgp:=grownBy_putObj' V w3.heap.size (.deferred none);have hnp:∀ r,some w3.heap.size=some r->∃ o:Obj,V.heap[r]? = some o/\o.isCells=false:=fun r e=>by cases e;exact⟨_,hD1.out,rfl⟩
  have h9:=Zl h3h.out hgp hnp;obtain⟨n0,_,_⟩:=Zo h9;exact⟨.bool false,by simp[results,Tryz.f43,go_sem,n0],by rw[hpt.out],hb3.out.grown hgp (by have:=hb3.out.size;omega) (fun k e=>by cases e;have:=SZ.out;omega)⟩}
end Go.Proofs.YtgmbjnajdfgenaaGreat
namespace Go.Proofs.YtgmbjnajdfgenaaGreat
open Go.RowKit Go.Shelf
attribute [local go_sem] Oper.semAt_some
def Vh (q:Sv) (F:List It):List It:=q.nd.2.take q.pl++(F++q.nd.2.drop (q.pl+if q.inst=true then 1 else 0))
def Xy:List Sv->Rm->List It->Int×Rm×List It
 | [],s,F=>(0,s,F)
 | q::r,s,F=>if (Uj s q.nd.1 (Vh q F) F).1=0 then Xy r (Uj s q.nd.1 (Vh q F) F).2.1 (Uj s q.nd.1 (Vh q F) F).2.2 else ((Uj s q.nd.1 (Vh q F) F).1,Zi,[])
theorem Zwy {l:List Sv}{k:Nat}{q:Sv}{s:Rm}{F:List It}(h:l[k]? = some q):Xy (l.drop k) s F=if (Uj s q.nd.1 (Vh q F) F).1=0 then Xy (l.drop (k+1)) (Uj s q.nd.1 (Vh q F) F).2.1 (Uj s q.nd.1 (Vh q F) F).2.2 else ((Uj s q.nd.1 (Vh q F) F).1,Zi,[]):=by
 obtain⟨hl,e⟩:=Ql.1 h;rw[Pe hl,e];rfl
def Xo (s:Rm) (l:List Sv) (x:It):Int×Rm×Int :=
 if (Xy l.reverse s [x]).1=0 then
  (if 1<(Xy l.reverse s [x]).2.2.length then
   (if (Uj (Xy l.reverse s [x]).2.1 (l.length:Nat) (Xy l.reverse s [x]).2.2 (Xy l.reverse s [x]).2.2).1=0 then
    (0,(Uj (Xy l.reverse s [x]).2.1 (l.length:Nat) (Xy l.reverse s [x]).2.2 (Xy l.reverse s [x]).2.2).2.1,Zb4 (Uj (Xy l.reverse s [x]).2.1 (l.length:Nat) (Xy l.reverse s [x]).2.2 (Xy l.reverse s [x]).2.2).2.2)
    else ((Uj (Xy l.reverse s [x]).2.1 (l.length:Nat) (Xy l.reverse s [x]).2.2 (Xy l.reverse s [x]).2.2).1,Zi,0))
   else (0,(Xy l.reverse s [x]).2.1,Zb4 (Xy l.reverse s [x]).2.2))
 else ((Xy l.reverse s [x]).1,Zi,0)
theorem Zwi {s:Rm}{lv:Int}{L:List It}(h:(Zq s lv L).1=0):0<(Zq s lv L).2.2.length/\(Zq s lv L).2.2.length<=2:=by
 obtain⟨u,up,e⟩:∃ u up,Zq s lv L=(0,u,up):=⟨_,_,Prod.ext h rfl⟩
 rw[e];rcases X1 e with ⟨_,_,rfl⟩ | ⟨_,_,_,_,rfl⟩ <;> simp
theorem Ztx {s:Rm}{lv:Int}{L F:List It}(h:(Uj s lv L F).1=0):0<(Uj s lv L F).2.2.length/\(Uj s lv L F).2.2.length<=2:=by{
 unfold Uj at h ⊢;split
 ·rename_i h1
  rw[if_pos h1] at h;split
  ·exact Zwi h1
  ·rename_i h2
   rw[if_neg h2] at h;exact absurd h h2
 ·rename_i h1
  rw[if_neg h1] at h;exact absurd h h1}
def Out (lo hi:Nat) (w:Qak):Qam->Prop:=fun p=>(p.block<lo\/hi<=p.block)/\p.block<w.heap.size
def Zgf (w:Qak) (q:Sv):Prop:=∃ w0:Qak,w0.heap.size=q.hi/\Yi rIt 5 54 q.lo w0 q.A q.c q.nd.2/\∀ k,q.lo<=k->k<q.hi->w.heap[k]? = w0.heap[k]?
theorem Zgf.use {w:Qak}{q:Sv}(h:Zgf w q) (hh:q.hi<=w.heap.size):Yi rIt 5 54 q.lo w q.A q.c q.nd.2:=by{
 obtain⟨w0,h0,⟨cs,h1,h2⟩,h3⟩:=h;refine⟨cs,⟨h1.1,?_⟩,fun i x hi=> ?_⟩
 ·rcases h1.2 with e | ⟨g,cap,cur,e,hb,hg,r⟩
  ·exact .inl e
  ·have hlt:=(Qd.1 hg).1
   exact .inr ⟨g,cap,cur,e,hb,(h3 g hb (by omega)).trans hg,r⟩
 ·obtain⟨vs,e1,e2,e3⟩:=h2 i x hi
  refine⟨vs,e1,e2,Z0 _ _ _ _ _ _ (fun p v hp hc=> ?_) e3⟩;have hb:=h3 p.block hp.1.1 (by have:=hp.1.2.1;omega);exact⟨⟨⟨hp.1.1,by have:=hp.1.2.1;omega,(Pq hb).trans hp.1.2.2⟩,hp.2⟩,(Qe hb).trans hc⟩}
theorem Zgf.same {w w':Qak}{q:Sv}(h:Zgf w q) (e:∀ k,q.lo<=k->k<q.hi->w'.heap[k]? = w.heap[k]?):Zgf w' q:=by
 obtain⟨w0,h0,h1,h3⟩:=h;exact⟨w0,h0,h1,fun k h4 h5=>(e k h4 h5).trans (h3 k h4 h5)⟩
structure Rows (lo hi:Nat) (w:Qak) (l:List Sv):Prop where
 ok:∀ q∈l,lo<=q.lo/\q.lo<=q.hi/\q.hi<=hi/\Zgf w q
 apart:l.Pairwise fun p q=>p.hi<=q.lo
theorem Zad {w:Qak}{q:Sv}(h:Zgf w q):∀ g,q.A.map (·.block)=some g->q.lo<=g/\g<q.hi:=fun g e=>by
 obtain⟨w0,h0,⟨cs,ho,_⟩,_⟩:=h;have:=ho.lt g (by rw[<- e];cases q.A <;> rfl);exact⟨this.1,by omega⟩
structure FrB (lo hr hi:Nat) (w:Qak) (fb m fc:Nat) (F:List It):Prop where
 len:F.length=m
 pos:0<m
 few:m<=2
 at_:hr<=fb
 row:∃ ps:List Iv,ps.map (·.1)=F/\w.ownsRow hr 54 5 (.slice (some ⟨fb,0,none⟩) m fc) m (Zj ps)/\∀ p∈ps,InI p.1/\rBy (Out lo hi w) w [p.2] p.1.2.2
theorem FrB.same {lo hr hi fb m fc:Nat}{w w':Qak}{F:List It}(h:FrB lo hr hi w fb m fc F) (hs:w.heap.size<=w'.heap.size) (e:∀ k,k<w.heap.size->(k<lo\/hi<=k\/k=fb)->w'.heap[k]? = w.heap[k]?):FrB lo hr hi w' fb m fc F:=by{
 obtain⟨h1,h2,h3,h4,ps,h5,h6,h7⟩:=h;refine⟨h1,h2,h3,h4,ps,h5,⟨h6.1,?_⟩,fun p hp=>⟨(h7 p hp).1,Zf _ _ _ _ _ _ (fun a v ha hc=> ?_) (h7 p hp).2⟩⟩
 ·rcases h6.2 with e' | ⟨g,cap,cur,e',hb,hg,r⟩
  ·exact .inl e'
  ·cases e'
   exact .inr ⟨_,_,cur,rfl,hb,(e _ (Qd.1 hg).1 (.inr (.inr rfl))).trans hg,r⟩
 ·have hb:=e a.block ha.2 (by rcases ha.1 with h | h <;> omega)
  exact⟨⟨ha.1,by have:=ha.2;omega⟩,(Qe hb).trans hc⟩}
def atW (s:Rm) (k:Ky) (a:Int):Nat->Int
 | 0=>a
 | j+1=>Zbn (rmV s (atW s k a j)) k
theorem Zon {n:Nd}{k:Ky}{y:It}(h:n.2[Xe n k]? = some y):Zbn n k=y.2.1:=by
 unfold Zbn;rw[h];rfl
theorem Zam {s:Rm}{k:Ky}{a:Int}{l:Nat}(h:AtT s l a):∀ j,j<=l->AtT s (l-j) (atW s k a j)
 | 0,_=>h
 | j+1,hj=>by
  have h1:=Zam (k:=k) h j (by omega);obtain⟨d,hd⟩:∃ d,l-j=d+1:=⟨l-j-1,by omega⟩
  rw[hd] at h1;have hne:0<(rmV s (atW s k a j)).2.length:=(Zv h1.may).1.2.2.2 (by rw[h1.lvl];omega);obtain⟨y,hy⟩:∃ y,(rmV s (atW s k a j)).2[Xe (rmV s (atW s k a j)) k]? = some y:=⟨_,Qh (Zbe k hne)⟩
  have h2:=h1.down (Pj hy);show AtT s (l-(j+1)) (Zbn (rmV s (atW s k a j)) k);rw[Zon hy,show l-(j+1)=d by omega];exact h2
theorem Zvo:(Tryz.prog.info? 144).map (fun i=>(i.zero,i.size,i.bytes))=some (some (.agg #[.int .i64 0,.slice none 0 0,.int .i64 0,.bool false]),4,48):=by kernel_rfl
theorem Z77 (a b:List Sv):svs (a++b)=svs a++svs b:=by simp[svs]
structure Zkp (lo:Nat) (s:Rm) (k:Ky) (a:Int) (W:Qak) (A:Option Qam) (c:Nat) (l:List Sv):Prop where
 row:W.ownsRow lo 144 4 (.slice A l.length c) l.length (svs l)
 rows:Rows lo W.heap.size W l
 off:∀ g q,A.map (·.block)=some g->q∈l->g<q.lo\/q.hi<=g
 are:∀ i q,l[i]? = some q->q.nd=rmV s (atW s k a i)/\(q.pl,q.inst)=Zhz q.nd k
theorem Zv7 {w:Qak}{lo:Nat}{A:Option Qam}{c:Nat}{l:List Sv}(h:w.ownsRow lo 144 4 (.slice A l.length c) l.length (svs l)) (q:Sv) (g m n:Nat) (hg:w.heap[g]? = some (.cells #[.int .i64 q.nd.1,.slice q.A q.nd.2.length q.c,.int .i64 (q.pl:Int),.bool q.inst] 144 (0,0))) (hn:l.length=n) (hs:n<100) (hbase:lo<=w.heap.size) :
  ∃ A' c' w',(Q9 #[93,93] 93 #[.slice A n c,.slice (some ⟨g,0,none⟩) 1 m]).run Tryz.prog w=.ok (.slice A' (n+1) c') w'/\w'.ownsRow lo 144 4 (.slice A' (l++[q]).length c') (l++[q]).length (svs (l++[q]))/\w.grownBy w' (A.map (·.block))/\Qat lo w w'/\(A'.map (·.block)=A.map (·.block)\/A'.map (·.block)=some w.heap.size):=by{
 subst hn;obtain⟨i0,hi,hz0,hz1,hz2⟩:=info_parts Zvo;obtain⟨A1,c1,e,_,_,e4,_⟩:=Ym h;cases e
 obtain⟨v',w',hr,o1,g1,b1,k1⟩:=Zdl (P:=Tryz.prog) (w:=w) lo 93 93 144 i0 (.agg #[.int .i64 0,.slice none 0 0,.int .i64 0,.bool false]) 4 48 Tryz.underlying93 hi hz0 hz1 hz2 rfl (by decide) _ _ _ h ⟨g,0,none⟩ 1 m (svV q) rfl (Qae (cs:=#[.int .i64 q.nd.1,.slice q.A q.nd.2.length q.c,.int .i64 (q.pl:Int),.bool q.inst]) hg) (fun u hu=>by
  simp[svV] at hu
  rcases hu with rfl | rfl | rfl | rfl <;> rfl) (by unfold maxLen;omega) (by omega) hbase
 obtain⟨A2,c2,rfl,_,_,e5,_⟩:=Ym o1;rw[e4] at g1 k1;rw[e5] at k1;refine⟨A2,c2,w',hr,?_,g1,b1,k1⟩;rw[Z77,Qi]
 simpa [svs] using o1}
theorem Zkp.push {lo:Nat}{s:Rm}{k:Ky}{a:Int}{wr W1 w6 w7:Qak}{A A':Option Qam}{c c':Nat}{l:List Sv}(h:Zkp lo s k a wr A c l) (q:Sv) (hlo:q.lo=wr.heap.size) (hhi:q.hi=W1.heap.size) (hrow:Yi rIt 5 54 wr.heap.size W1 q.A q.c q.nd.2)
  (hb1:Qat wr.heap.size wr W1) (h16:Qat W1.heap.size W1 w6) (g67:w6.grownBy w7 (A.map (·.block))) (row:w7.ownsRow lo 144 4 (.slice A' (l++[q]).length c') (l++[q]).length (svs (l++[q]))) (k1:A'.map (·.block)=A.map (·.block)\/A'.map (·.block)=some w6.heap.size)
  (hnd:q.nd=rmV s (atW s k a l.length)) (hst:(q.pl,q.inst)=Zhz q.nd k) (hl:lo<=wr.heap.size):Zkp lo s k a w7 A' c' (l++[q]):=by{
 have hA:∀ g,A.map (·.block)=some g->g<wr.heap.size:=fun g e=>(h.row.lt g (by rw[<- e];cases A <;> rfl)).2
 have s1:=hb1.size;have s6:=h16.size;have s7:=g67.size;have Zai:∀ x∈l,∀ k,x.lo<=k->k<x.hi->w7.heap[k]? = wr.heap[k]? := fun x hx k h1 h2=>by
  obtain⟨_,_,h3,_⟩:=h.rows.ok x hx;rw[g67.block k (by omega) (fun e=>by rcases h.off _ x e.symm hx with h4 | h4 <;> omega),h16.block k (by omega),hb1.block k (by omega)]
 refine⟨row,⟨fun x hx=> ?_,?_⟩,fun g x e hx=> ?_,fun i x e=> ?_⟩
 ·rcases Qo.1 hx with hx | hx
  ·obtain⟨h1,h2,h3,h4⟩:=h.rows.ok x hx
   exact⟨h1,h2,by omega,h4.same (Zai x hx)⟩
  ·obtain rfl:=Qk.1 hx
   refine⟨by omega,by omega,by omega,W1,hhi.symm,by rw[hlo];exact hrow,fun k h1 h2=> ?_⟩;rw[g67.block k (by omega) (fun e=>by have:=hA _ e.symm;omega),h16.block k (by omega)]
 ·rw[Pu]
  refine⟨h.rows.apart,List.pairwise_singleton _ _,fun x hx y hy=> ?_⟩;obtain rfl:=Qk.1 hy;have:=(h.rows.ok x hx).2.2.1;omega
 ·have hg:A.map (·.block)=some g\/g=w6.heap.size:=by
   rcases k1 with k1 | k1
   ·exact .inl (by rw[<- k1,e])
   ·rw[e] at k1
    exact .inr (by simpa using k1)
  rcases Qo.1 hx with hx | hx
  ·rcases hg with hg | hg
   ·exact h.off g x hg hx
   ·have:=(h.rows.ok x hx).2.2.1
    omega
  ·obtain rfl:=Qk.1 hx
   rcases hg with hg | hg
   ·have:=hA g hg
    omega
   ·omega
 ·rcases Pm i l.length with hi | hi
  ·rw[Pi hi] at e
   exact h.are i x e
  ·rw[Q5 hi] at e
   have hi0:i=l.length:=by
    have:=(Ql.1 e).1;simp at this;omega
   subst hi0;simp at e;subst e;exact⟨hnd,hst⟩}
theorem Z9u (qa qb qc qd:Option Qam×Nat×Nat) (s:Rm) (a:Int) (lv:Nat) (hlv:lv<6) (k:Ky) (w:Qak) (h:Sto (Old w) w (.agg #[.slice qa.1 qa.2.1 qa.2.2,.slice qb.1 qb.2.1 qb.2.2,.slice qc.1 qc.2.1 qc.2.2,.slice qd.1 qd.2.1 qd.2.2]) s) (hT:AtT s lv a) :
  Qar Tryz.prog 42 #[.agg #[.slice qa.1 qa.2.1 qa.2.2,.slice qb.1 qb.2.1 qb.2.2,.slice qc.1 qc.2.1 qc.2.2,.slice qd.1 qd.2.1 qd.2.2],.int .i64 a,.int .i64 ((lv:Int)+1),kyV k] w fun e w'=>∃ A c l,e=.returned (.tuple #[.slice A l.length c,.int .i64 0])/\l.length=lv+1/\Zkp w.heap.size s k a w' A c l/\Qat w.heap.size w w':=by{
 obtain⟨w1,hw1,b1,hs1,hB1⟩:=X4 w (.slice qa.1 qa.2.1 qa.2.2) (.slice qb.1 qb.2.1 qb.2.2) (.slice qc.1 qc.2.1 qc.2.2) (.slice qd.1 qd.2.1 qd.2.2) 29;obtain⟨w2,hw2,-,-,-,hs2,hB2,b2⟩:=Xd w1 (.int .u8 (k.1.toNat:Int)) (.int .u32 k.2.1) (.int .u32 k.2.2) 37;have hB12:=hB1.trans (hB2.mono hB1.size);have G1:=Za ((hB2.block w.heap.size (by omega)).trans b1);have G2:=Za b2;have B2:=Za hB12;have SZ:=Za (show w1.heap.size=w.heap.size+1/\w2.heap.size=w.heap.size+2 from ⟨hs1,by omega⟩);have HS:=Za h;have hdn:=Za (fun j hj=>Zam (k:=k) hT j hj);have i0:(0:Int)<=(lv:Int)+1:=by omega
 replace hs1:=Za hs1;replace hs2:=Za hs2;replace hT:=Za hT;clear h hB1 hB2 hB12 b1 b2;unfold kyV
 go_enter Tryz.func42,Tryz.ntmps42
 go_upto_region 1 with fail
 clear hw1 hw2
 go_wp2_with fail
 go_loopw [10,11,17] (fun sv av iv wr=>∃ (j:Nat) (A:Option Qam) (c:Nat) (l:List Sv),j<=lv+1/\iv=.int .i64 (j:Int)/\l.length=j/\sv=.slice A l.length c/\(j<=lv->av=.int .i64 (atW s k a j))/\(∃ z:Int,av=.int .i64 z)/\Zkp w2.heap.size s k a wr A c l/\Qat w2.heap.size w2 wr) (fun _ _ iv _=>lv+1-(intOf iv).toNat)
 case atStart=>exact⟨0,none,0,[],by omega,rfl,rfl,rfl,fun _=>rfl,⟨_,rfl⟩,⟨Pz ..,⟨fun _ h=>(List.not_mem_nil h).elim,Ps.nil⟩,fun _ _ e=>(nomatch e),fun _ _ e=>(nomatch e)⟩,Qc _ _⟩
 case round =>
  obtain⟨j,A,c,l,hj,rfl,hll,rfl,hav,⟨zv,rfl⟩,hW,hb⟩:=hrel;obtain⟨ml,hml⟩:∃ q,l.length=q:=⟨_,rfl⟩
  by_cases hlt:j<lv+1
  case neg =>
   have hc0:¬ ((j:Int)<(lv:Int)+1):=by omega
   have hfin:Hid (∃ A' c' l',Ending.returned (.tuple #[.slice A ml c,.int .i64 0])=.returned (.tuple #[.slice A' l'.length c',.int .i64 0])/\l'.length=lv+1/\Zkp w.heap.size s k a wr A' c' l'/\Qat w.heap.size w wr):=Za
    ⟨A,c,l,by rw[hml],by omega,⟨Zc0 hW.row (by have:=SZ.out;omega),⟨fun q hq=>by
     obtain⟨h1,h2,h3,h4⟩:=hW.rows.ok q hq
     exact⟨by have:=SZ.out;omega,h2,h3,h4⟩,hW.rows.apart⟩,hW.off,hW.are⟩,B2.out.trans (hb.mono B2.out.size)⟩
   rw[hml];replace hml:=Za hml;replace hll:=Za hll;replace hW:=Za hW;clear hav
   go_wp2_with fail
   exact Qao (v:=.tuple #[.slice A ml c,.int .i64 0]) (by simp[results,Tryz.results42,go_sem]) rfl hfin.out
  have hc0:((j:Int)<(lv:Int)+1):=by omega
  obtain rfl:zv=atW s k a j:=by
   have:=hav (by omega)
   simpa using this
  have hA:=hdn.out j (by omega);have hok:=hA.ok;have hlv:=hA.lvl;have hmay:=hA.may;have hBr:=Za (B2.out.trans (hb.mono B2.out.size));have hN:=Zb7 _ s (atW s k a j) wr (HS.out.below hBr.out);have hne:=(Zv hmay).1.2.2.2;have hfive:=Za (Zv hmay).1.2.2.1;obtain⟨nd,hnd⟩:∃ q,rmV s (atW s k a j)=q:=⟨_,rfl⟩
  have hnext:Hid (nd.1≠0->∃ y,nd.2[(Zhz nd k).1]? = some y/\y.2.1=atW s k a (j+1)):=Za (fun h0=>by
   have hw:(Zhz nd k).1=Xe nd k:=by unfold Zhz;rw[if_neg h0]
   rw[hnd] at hne;rw[hnd] at hlv;have hlt:=Zbe k (hne (by omega));refine⟨_,by rw[hw];exact Qh hlt,?_⟩;show _=Zbn (rmV s (atW s k a j)) k
   rw[hnd,Zon (Qh hlt)])
  rw[hok,hnd] at hN;rw[hnd] at hlv hfive;clear hmay hne hok;have hlv0:nd.1=0->j=lv:=fun h0=>by omega
  obtain⟨lw,hlw⟩:∃ q,nd.1=q:=⟨_,rfl⟩
  obtain⟨nl,hnl⟩:∃ q,nd.2.length=q:=⟨_,rfl⟩
  obtain⟨pl,hpl⟩:∃ q,(Zhz nd k).1=q:=⟨_,rfl⟩
  obtain⟨ins,hins⟩:∃ q,(Zhz nd k).2=q:=⟨_,rfl⟩
  have g1:=Za ((hb.block w.heap.size (by have:=SZ.out;omega)).trans G1.out);have g2:=Za ((hb.block w1.heap.size (by have:=SZ.out;omega)).trans G2.out);obtain⟨k0,k1,k2,k3,_⟩:=Ze g1.out;have hW':=Za hW;have hb':=Za hb;have hnd':=Za hnd;clear hA hW hb hnd hav
  go_upto_region 5 with fail
  go_wp2_with fail
  with_reducible refine hN.mono ?_
  rintro e W1 ⟨u,rfl,⟨Z,zc,rfl,hin,hrow⟩,hb1⟩;rw[hnl,hlw];clear hN k0 k1 k2 k3;obtain⟨w3,hw3,b3,hs3,hB3⟩:=Yd W1 (.int .i64 lw) (.slice Z nl zc) 81;have g23:=(hB3.block w1.heap.size (by have:=hb1.size;have:=hb'.out.size;have:=SZ.out;omega)).trans ((hb1.block w1.heap.size (by have:=hb'.out.size;have:=SZ.out;omega)).trans g2.out);obtain⟨y0,y1,_⟩:=Zg b3;obtain⟨z0,z1,z2,_⟩:=Zk g23;have hst:=Zvk Z zc nd k w3 ((Zke.nod ⟨Z,zc,rfl,hin,hrow⟩).drop.below hB3);rw[hnl,hlw,hpl,hins] at hst;have B13:=Za hB3;have hrow1:=Za hrow;have B1:=Za hb1;have b3':=Za b3;clear hb1 hB3 hrow hin b3 g23;replace hs3:=Za hs3
  go_upto_region 8 with fail
  clear hw3;unfold kyV at hst
  go_wp2_with fail
  with_reducible refine hst.mono ?_
  rintro e w4 ⟨rfl,hb4⟩;clear hst y0 y1 z0 z1 z2;obtain⟨w5,hw5,b5,hs5,hB5⟩:=X4 w4 (.int .i64 lw) (.slice Z nl zc) (.int .i64 (pl:Int)) (.bool ins) 144;obtain⟨y0,y1,y2,y3,_⟩:=Ze b5;have hsz4:=Za hb4.size;have B35:=Za (hb4.trans (hB5.mono hb4.size));have b5':=Za b5;clear hb4 hB5 b5;replace hs5:=Za hs5
  go_upto_region 9 with fail
  clear hw5;obtain⟨w6,hw6,b6,hs6,hB6⟩:=X4 w5 (.int .i64 lw) (.slice Z nl zc) (.int .i64 (pl:Int)) (.bool ins) 144;have B16:Hid (Qat W1.heap.size W1 w6):=Za (B13.out.trans ((B35.out.mono B13.out.size).trans (hB6.mono (Qa B13.out.size B35.out.size))));have B26:Hid (Qat w2.heap.size w2 w6):=Za (hb'.out.trans ((B1.out.mono hb'.out.size).trans (B16.out.mono (Qa hb'.out.size B1.out.size))));have row6:=Zx (Zx hW'.out.row B1.out) B16.out;obtain⟨A',c',w7,hr7,row7,gr7,hb7,k7⟩:=Zv7 row6 ⟨nd,pl,ins,Z,zc,wr.heap.size,W1.heap.size⟩ w5.heap.size 1 j (by rw[hlw,hnl];exact b6) hll (by omega) B26.out.size;have hW7:=Za (Zkp.push hW'.out ⟨nd,pl,ins,Z,zc,wr.heap.size,W1.heap.size⟩ rfl rfl hrow1.out B1.out B16.out gr7 row7 k7 (by rw[hll];exact hnd'.out.symm) (by rw[<- hpl,<- hins]) hb'.out.size);have hB27:=Za (B26.out.trans hb7);have hAlt:∀ g,A.map (·.block)=some g->g<wr.heap.size:=fun g e=>(hW'.out.row.lt g (by rw[<- e];cases A <;> rfl)).2
  have f3:=(gr7.block W1.heap.size (by have:=B16.out.size;have:=B13.out.size;have:=hs3.out;have:=hs5.out;have:=B35.out.size;have:=hB6.size;omega) (fun e=>by have:=hAlt _ e.symm;have:=B1.out.size;omega)).trans ((hB6.block W1.heap.size (by have:=hs3.out;have:=B35.out.size;omega)).trans ((B35.out.block W1.heap.size (by have:=hs3.out;omega)).trans b3'.out));have f5:=(gr7.block w4.heap.size (by have:=hs5.out;have:=hB6.size;omega) (fun e=>by have:=hAlt _ e.symm;have:=B1.out.size;have:=hs3.out;have:=hsz4.out;omega)).trans ((hB6.block w4.heap.size (by have:=hs5.out;omega)).trans b5'.out);have H7:=Za hr7;have hl7:Hid (j+1=(l++[(⟨nd,pl,ins,Z,zc,wr.heap.size,W1.heap.size⟩:Sv)]).length):=Za (by rw[Qi,hll];rfl);obtain⟨l',hl'⟩:∃ q,l++[(⟨nd,pl,ins,Z,zc,wr.heap.size,W1.heap.size⟩:Sv)]=q:=⟨_,rfl⟩
  have hrow7:Hid (Yi rIt 5 54 wr.heap.size w7 Z zc nd.2):=Za (by
   obtain⟨_,_,h3,h4⟩:=hW7.out.rows.ok ⟨nd,pl,ins,Z,zc,wr.heap.size,W1.heap.size⟩ (by simp)
   exact h4.use h3)
  rw[hl'] at hW7 hl7;replace hl':=Za hl';obtain⟨n0,n1,_⟩:=Zg f3;obtain⟨s0,s1,s2,s3,_⟩:=Ze f5;replace f3:=Za f3;replace f5:=Za f5;replace hs6:=Za hs6;replace b6:=Za b6;clear hr7 gr7 hb7 row7 row6 k7 hB6 hAlt hW';have i7:IntKind.i64.wrap ((j:Int)+1)=((j+1:Nat):Int):=by rw[IntKind.wrap_i64];omega
  by_cases h0:lw=0
  ·subst h0
   have hjl:=Za (hlv0 hlw);replace hlw:=Za hlw;replace hnl:=Za hnl;replace hpl:=Za hpl;replace hins:=Za hins;clear hlv hlv0
   go_wp2_with (at_builtin;refine Zp rfl _ _ _ rfl rfl rfl H7.out ?_;clear H7)
   go_roundw
   case rel=>exact⟨j+1,A',c',l',by omega,by go_num,hl7.out.symm,by rw[<- hl7.out],fun h=>by have:=hjl.out;omega,⟨_,rfl⟩,hW7.out,hB27.out⟩
   case measure=>simp[intOf];omega
  ·have hgt:decide (lw>0)=true:=by simp;omega
   obtain⟨y,hy,hyn⟩:=hnext.out (by omega);rw[hpl] at hy;obtain⟨ad,E,ce,e0,_,⟨_,_,_,t3,_⟩,_⟩:=Zao (hrow7.out.rel Z0) hy;have hpn:pl<nl:=by rw[<- hnl];exact(Ql.1 hy).1
   subst e0;have hn5:nl<=5:=by rw[<- hnl];exact hfive.out
   replace hy:=Za hy;replace hyn:=Za hyn;replace hlw:=Za hlw;replace hnl:=Za hnl;replace hpl:=Za hpl;replace hins:=Za hins;clear hlv hlv0
   go_wp2_with (at_builtin;refine Zp rfl _ _ _ rfl rfl rfl H7.out ?_;clear H7)
   go_roundw
   case rel=>exact⟨j+1,A',c',l',by omega,by go_num,hl7.out.symm,by rw[<- hl7.out],fun _=>by rw[hyn.out],⟨_,rfl⟩,hW7.out,hB27.out⟩
   case measure=>simp[intOf];omega}
def Zhy (M:List (Int×It)):List Int:=(M.filter fun p=>decide (0<p.1)).map (·.2.2.1)
def Zhw (M:List (Int×It)):List Int:=(M.filter fun p => !decide (0<p.1)&&decide (p.2.2.1≠0)).map (·.2.2.1)
theorem Z8b {M:List (Int×It)}{p:Int×It}(h:0<p.1):Zhy (M++[p])=Zhy M++[p.2.2.1]/\Zhw (M++[p])=Zhw M:=by
 unfold Zhy Zhw;rw[Qj,Qg,Qj,Qg,Pv (by simpa using h),Q6 (by simp[h])];exact⟨rfl,by simp⟩
theorem Z9b {M:List (Int×It)}{p:Int×It}(h:¬ 0<p.1) (h0:p.2.2.1≠0):Zhy (M++[p])=Zhy M/\Zhw (M++[p])=Zhw M++[p.2.2.1]:=by
 unfold Zhy Zhw;rw[Qj,Qg,Qj,Qg,Q6 (by simpa using h),Pv (by simp[h0];omega)];exact⟨by simp,rfl⟩
theorem Z98 {M:List (Int×It)}{p:Int×It}(h:¬ 0<p.1) (h0:p.2.2.1=0):Zhy (M++[p])=Zhy M/\Zhw (M++[p])=Zhw M:=by
 unfold Zhy Zhw;rw[Qj,Qg,Qj,Qg,Q6 (by simpa using h),Q6 (by simp[h0])];exact⟨by simp,by simp⟩
theorem Z78 (M:List (Int×It)):(Zhy M).length<=M.length/\(Zhw M).length<=M.length:=by
 unfold Zhy Zhw;rw[Q8,Q8];exact⟨Qai _ _,Qai _ _⟩
theorem Zgx {M:List (Int×It)}{x:Int}:x∈Zhy M↔∃ p∈M,0<p.1/\p.2.2.1=x:=by{
 unfold Zhy;simp only[Qr,Ph,decide_eq_true_eq];constructor
 ·rintro⟨p,⟨h1,h2⟩,h3⟩
  exact⟨p,h1,h2,h3⟩
 ·rintro⟨p,h1,h2,h3⟩
  exact⟨p,⟨h1,h2⟩,h3⟩}
theorem Zi2 {M:List (Int×It)}{x:Int}:x∈Zhw M↔∃ p∈M,¬ 0<p.1/\p.2.2.1≠0/\p.2.2.1=x:=by{
 unfold Zhw;simp only[Qr,Ph,Pt,Bool.not_eq_true',decide_eq_false_iff_not,decide_eq_true_eq];constructor
 ·rintro⟨p,⟨h1,h2,h3⟩,h4⟩
  exact⟨p,h1,h2,h3,h4⟩
 ·rintro⟨p,h1,h2,h3,h4⟩
  exact⟨p,⟨h1,h2,h3⟩,h4⟩}
theorem Ziu (s:Rm) (a:Int){p:Int×It}:p∈Ve s 0 a↔∃ x∈(rmV s a).2,p=(0,x):=by
 unfold Ve;simp only[Qp,Qk]
theorem Zdh (s:Rm) (l:Nat) (a:Int){p:Int×It}:p∈Ve s (l+1) a↔∃ x∈(rmV s a).2,p=(((l+1:Nat):Int),x)\/p∈Ve s l x.2.1:=by
 show p∈(rmV s a).2.flatMap (fun x=>(((l+1:Nat):Int),x)::Ve s l x.2.1)↔_;simp only[Qp,Qm]
theorem Znf (s:Rm):∀ (l:Nat) (a x:Int),x=a\/x∈Zhy (Ve s l a)↔x∈Y6 s l a
 | 0,a,x=>by
  unfold Y6;rw[Zgx,Qk];constructor
  ·rintro(h | ⟨p,hp,h1,_⟩)
   ·exact h
   ·obtain⟨y,_,rfl⟩:=(Ziu s a).1 hp
    exact absurd h1 (by simp)
  ·exact .inl
 | l+1,a,x=>by
  unfold Y6;rw[Qm,Qp];refine or_congr Iff.rfl ?_;constructor
  ·intro h
   obtain⟨p,hp,h1,h2⟩:=Zgx.1 h;obtain⟨y,hy,e⟩:=(Zdh s l a).1 hp;refine⟨y,hy,(Znf s l y.2.1 x).1 ?_⟩;rcases e with rfl | e
   ·exact .inl h2.symm
   ·exact .inr (Zgx.2 ⟨p,e,h1,h2⟩)
  ·rintro⟨y,hy,h⟩
   rcases(Znf s l y.2.1 x).2 h with e | e
   ·exact Zgx.2 ⟨_,(Zdh s l a).2 ⟨y,hy,.inl rfl⟩,by show (0:Int)<((l+1:Nat):Int);omega,e.symm⟩
   ·obtain⟨p,hp,h1,h2⟩:=Zgx.1 e
    exact Zgx.2 ⟨p,(Zdh s l a).2 ⟨y,hy,.inr hp⟩,h1,h2⟩
theorem Znl (s:Rm):∀ (l:Nat) (a x:Int),x∈Zhw (Ve s l a)↔x∈Vt s l a
 | 0,a,x=>by
  unfold Vt;rw[Zi2,Ph,Qr,decide_eq_true_eq];constructor
  ·rintro⟨p,hp,_,h2,h3⟩
   obtain⟨y,hy,rfl⟩:=(Ziu s a).1 hp;exact⟨⟨y,hy,h3⟩,by rw[<- h3];exact h2⟩
  ·rintro⟨⟨y,hy,h3⟩,h2⟩
   exact⟨_,(Ziu s a).2 ⟨y,hy,rfl⟩,by simp,by show y.2.1≠0;rw[h3];exact h2,h3⟩
 | l+1,a,x=>by
  unfold Vt;rw[Qp];constructor
  ·intro h
   obtain⟨p,hp,h1,h2,h3⟩:=Zi2.1 h;obtain⟨y,hy,e⟩:=(Zdh s l a).1 hp;refine⟨y,hy,(Znl s l y.2.1 x).1 ?_⟩;rcases e with rfl | e
   ·exact absurd (show (0:Int)<((l+1:Nat):Int) by omega) h1
   ·exact Zi2.2 ⟨p,e,h1,h2,h3⟩
  ·rintro⟨y,hy,h⟩
   obtain⟨p,hp,h1,h2,h3⟩:=Zi2.1 ((Znl s l y.2.1 x).2 h);exact Zi2.2 ⟨p,(Zdh s l a).2 ⟨y,hy,.inr hp⟩,h1,h2,h3⟩
theorem Zou {K K':List Int}(h:∀ x,x∈K↔x∈K'):Zqy K=Zqy K':=by
 unfold Zqy;refine Qab fun k _=> ?_
 rw[decide_eq_decide];exact h _
theorem Zg5 {β:Type}{g:It->List β}{N:Nat}:∀ (L:List It),(∀ x∈L,(g x).length<=N)->(L.flatMap g).length<=N*L.length
 | [],_=>by simp
 | x::r,h=>by
  have h1:=h x (by simp);have h2:=Zg5 r fun y hy=>h y (by simp[hy])
  rw[Pc,Qi,Qn,Nat.mul_succ];omega
theorem Zs2 (s:Rm):∀ (l:Nat) (a:Int),AtT s l a->(Ve s l a).length<=6 ^ (l+2)
 | 0,a,h=>by
  have h5:=(Zv h.may).1.2.2.1;have:=Zg5 (g:=fun x=>[((0:Int),x)]) (N:=1) (rmV s a).2 (fun x _=>by simp);unfold Ve;have e:6 ^ (0+2)=36:=rfl;omega
 | l+1,a,h=>by
  have h5:=(Zv h.may).1.2.2.1
  have:=Zg5 (g:=fun x=>(((l+1:Nat):Int),x)::Ve s l x.2.1) (N:=6 ^ (l+2)+1) (rmV s a).2 (fun x hx=>by
   have:=Zs2 s l x.2.1 (h.down hx);rw[Qn]
   omega)
  show ((rmV s a).2.flatMap (fun x=>(((l+1:Nat):Int),x)::Ve s l x.2.1)).length<=_;have e:6 ^ (l+1+2)=6 ^ (l+2)*6:=Nat.pow_succ 6 (l+2);have e2:=Nat.mul_le_mul_left (6 ^ (l+2)+1) h5;have e3:6<=6 ^ (l+2):=by
   have:=Qaj (show 0<6 by decide) (show 1<=l+2 by omega)
   simpa using this
  omega
theorem Zxz {s:Rm}{a:Int}(h:Yj s a=true):(Ve s (rmV s a).1.toNat a).length<=279936:=by
 obtain⟨_,_,_,_,l6,_⟩:=Y4 h;refine Qa (Zs2 s _ a (Za8 h)) ?_;have:=Qaj (show 0<6 by decide) (show (rmV s a).1.toNat+2<=7 by omega);have e:6 ^ 7=279936:=by decide
 omega
end Go.Proofs.YtgmbjnajdfgenaaGreat
namespace Go.Proofs.YtgmbjnajdfgenaaGreat
open Go.Shelf Go.RowKit Go.Lib Go.Sort
def Zpc:Go.Shelf.Ren:=⟨fun | 7=>118 | 10=>154 | n=>n,fun | 23=>139 | 26=>3 | 3=>137 | 28=>188 | 0=>0 | 27=>187 | 33=>180 | 4=>4 | n=>n,fun | n=>n⟩
theorem Ya0:Go.Proofs.SlLaysZI.n7 Tryz.prog Zpc:={
 mixed:=by kernel_rfl,
 f7:=⟨Tryz.f118.name,by decide,Tryz.func118.trans (congrArg some (by kernel_rfl))⟩,
 f10:=⟨Tryz.f154.name,by decide,Tryz.func154.trans (congrArg some (by kernel_rfl))⟩,
 t0:=Tryz.underlying0,
 a0:=Tryz.isAgg0,
 z0:=Tryz.sizeOf0,
 v0:=Tryz.zeroValue0,
 t4:=Tryz.underlying4,
 a4:=Tryz.isAgg4,
 z4:=Tryz.sizeOf4,
 v4:=Tryz.zeroValue4,
 t23:=Tryz.underlying139,
 a23:=Tryz.isAgg139,
 z23:=Tryz.sizeOf139,
 v23:=Tryz.zeroValue139,
 t26:=Tryz.underlying3,
 a26:=Tryz.isAgg3,
 z26:=Tryz.sizeOf3,
 v26:=Tryz.zeroValue3,
 t27:=Tryz.underlying187,
 a27:=Tryz.isAgg187,
 z27:=Tryz.sizeOf187,
 v27:=Tryz.zeroValue187,
 t28:=Tryz.underlying188,
 a28:=Tryz.isAgg188,
 z28:=Tryz.sizeOf188,
 v28:=Tryz.zeroValue188,
 t33:=Tryz.underlying180,
 a33:=Tryz.isAgg180,
 z33:=Tryz.sizeOf180,
 v33:=Tryz.zeroValue180 }
def Zil:Go.Shelf.Ren:=⟨fun | 6=>117 | 8=>152 | 9=>153 | 11=>175 | 13=>177 | 12=>176 | 23=>203 | 24=>204 | 14=>194 | 15=>195 | 16=>196 | 17=>197 | 18=>198 | 19=>199 | 20=>200 | 21=>201 | 22=>202 | 25=>206 | 26=>207 | 27=>208 | 28=>209 | 29=>210 | 30=>211 | 31=>212 | n=>n,fun | 26=>3 | 28=>188 | 24=>52 | 0=>0 | 3=>3 | 37=>245 | 48=>32 | 50=>275 | 4=>4 | 40=>267 | 39=>266 | 45=>89 | 5=>5 | 9=>9 | 51=>278 | 55=>282 | 57=>284 | 58=>75 | 33=>180 | n=>n,fun | n=>n⟩
theorem Z9e:Go.Proofs.SlLaysZI.n6 Tryz.prog Zil:={
 mixed:=by kernel_rfl,
 f6:=⟨Tryz.f117.name,by decide,Tryz.func117.trans (congrArg some (by kernel_rfl))⟩,
 f8:=⟨Tryz.f152.name,by decide,Tryz.func152.trans (congrArg some (by kernel_rfl))⟩,
 f11:=⟨Tryz.f175.name,by decide,Tryz.func175.trans (congrArg some (by kernel_rfl))⟩,
 t0:=Tryz.underlying0,
 a0:=Tryz.isAgg0,
 z0:=Tryz.sizeOf0,
 v0:=Tryz.zeroValue0,
 t24:=Tryz.underlying52,
 a24:=Tryz.isAgg52,
 z24:=Tryz.sizeOf52,
 v24:=Tryz.zeroValue52,
 t26:=Tryz.underlying3,
 a26:=Tryz.isAgg3,
 z26:=Tryz.sizeOf3,
 v26:=Tryz.zeroValue3,
 t28:=Tryz.underlying188,
 a28:=Tryz.isAgg188,
 z28:=Tryz.sizeOf188,
 v28:=Tryz.zeroValue188,
 i26:=by kernel_rfl }
def Z1i:Go.Shelf.Ren:=⟨fun | 5=>153 | 8=>177 | 7=>176 | 19=>203 | 20=>204 | 10=>194 | 11=>195 | 12=>196 | 13=>197 | 14=>198 | 15=>199 | 16=>200 | 17=>201 | 18=>202 | 30=>206 | 31=>207 | 32=>208 | 33=>209 | 34=>210 | 35=>211 | 40=>212 | n=>n,fun | 23=>52 | 25=>3 | 3=>3 | 32=>245 | 22=>52 | 0=>0 | 44=>32 | 46=>275 | 4=>4 | 36=>267 | 35=>266 | 41=>89 | 5=>5 | 9=>9 | 53=>278 | 57=>282 | 63=>284 | 64=>75 | n=>n,fun | n=>n⟩
theorem Ybn:Go.Proofs.SlLaysM.n5 Tryz.prog Z1i:={
 mixed:=by kernel_rfl,
 f5:=⟨Tryz.f153.name,by decide,Tryz.func153.trans (congrArg some (by kernel_rfl))⟩,
 f7:=⟨Tryz.f176.name,by decide,Tryz.func176.trans (congrArg some (by kernel_rfl))⟩,
 f8:=Tryz.func177.trans (congrArg some (by kernel_rfl)),
 f10:=⟨Tryz.f194.name,by decide,Tryz.func194.trans (congrArg some (by kernel_rfl))⟩,
 f11:=⟨Tryz.f195.name,by decide,Tryz.func195.trans (congrArg some (by kernel_rfl))⟩,
 f12:=⟨Tryz.f196.name,by decide,Tryz.func196.trans (congrArg some (by kernel_rfl))⟩,
 f13:=⟨Tryz.f197.name,by decide,Tryz.func197.trans (congrArg some (by kernel_rfl))⟩,
 f14:=⟨Tryz.f198.name,by decide,Tryz.func198.trans (congrArg some (by kernel_rfl))⟩,
 f15:=⟨Tryz.f199.name,by decide,Tryz.func199.trans (congrArg some (by kernel_rfl))⟩,
 f16:=⟨Tryz.f200.name,by decide,Tryz.func200.trans (congrArg some (by kernel_rfl))⟩,
 f17:=⟨Tryz.f201.name,by decide,Tryz.func201.trans (congrArg some (by kernel_rfl))⟩,
 f18:=⟨Tryz.f202.name,by decide,Tryz.func202.trans (congrArg some (by kernel_rfl))⟩,
 f19:=Tryz.func203.trans (congrArg some (by kernel_rfl)),
 f20:=Tryz.func204.trans (congrArg some (by kernel_rfl)),
 f30:=⟨Tryz.f206.name,by decide,Tryz.func206.trans (congrArg some (by kernel_rfl))⟩,
 f31:=Tryz.func207.trans (congrArg some (by kernel_rfl)),
 f32:=Tryz.func208.trans (congrArg some (by kernel_rfl)),
 f33:=⟨Tryz.f209.name,by decide,Tryz.func209.trans (congrArg some (by kernel_rfl))⟩,
 f34:=⟨Tryz.f210.name,by decide,Tryz.func210.trans (congrArg some (by kernel_rfl))⟩,
 f35:=⟨Tryz.f211.name,by decide,Tryz.func211.trans (congrArg some (by kernel_rfl))⟩,
 f40:=⟨Tryz.f212.name,by decide,Tryz.func212.trans (congrArg some (by kernel_rfl))⟩,
 t0:=Tryz.underlying0,
 a0:=Tryz.isAgg0,
 z0:=Tryz.sizeOf0,
 v0:=Tryz.zeroValue0,
 t3:=Tryz.underlying3,
 a3:=Tryz.isAgg3,
 z3:=Tryz.sizeOf3,
 v3:=Tryz.zeroValue3,
 t4:=Tryz.underlying4,
 a4:=Tryz.isAgg4,
 z4:=Tryz.sizeOf4,
 v4:=Tryz.zeroValue4,
 t5:=Tryz.underlying5,
 a5:=Tryz.isAgg5,
 z5:=Tryz.sizeOf5,
 v5:=Tryz.zeroValue5,
 t9:=Tryz.underlying9,
 a9:=Tryz.isAgg9,
 z9:=Tryz.sizeOf9,
 v9:=Tryz.zeroValue9,
 t22:=Tryz.underlying52,
 a22:=Tryz.isAgg52,
 z22:=Tryz.sizeOf52,
 v22:=Tryz.zeroValue52,
 t23:=Tryz.underlying52,
 a23:=Tryz.isAgg52,
 z23:=Tryz.sizeOf52,
 v23:=Tryz.zeroValue52,
 t25:=Tryz.underlying3,
 a25:=Tryz.isAgg3,
 z25:=Tryz.sizeOf3,
 v25:=Tryz.zeroValue3,
 t32:=Tryz.underlying245,
 a32:=Tryz.isAgg245,
 z32:=Tryz.sizeOf245,
 v32:=Tryz.zeroValue245,
 t35:=Tryz.underlying266,
 a35:=Tryz.isAgg266,
 z35:=Tryz.sizeOf266,
 v35:=Tryz.zeroValue266,
 t36:=Tryz.underlying267,
 a36:=Tryz.isAgg267,
 z36:=Tryz.sizeOf267,
 v36:=Tryz.zeroValue267,
 t41:=Tryz.underlying89,
 a41:=Tryz.isAgg89,
 z41:=Tryz.sizeOf89,
 v41:=Tryz.zeroValue89,
 t44:=Tryz.underlying32,
 a44:=Tryz.isAgg32,
 z44:=Tryz.sizeOf32,
 v44:=Tryz.zeroValue32,
 t46:=Tryz.underlying275,
 a46:=Tryz.isAgg275,
 z46:=Tryz.sizeOf275,
 v46:=Tryz.zeroValue275,
 t53:=Tryz.underlying278,
 a53:=Tryz.isAgg278,
 z53:=Tryz.sizeOf278,
 v53:=Tryz.zeroValue278,
 t57:=Tryz.underlying282,
 a57:=Tryz.isAgg282,
 z57:=Tryz.sizeOf282,
 v57:=Tryz.zeroValue282,
 t63:=Tryz.underlying284,
 a63:=Tryz.isAgg284,
 z63:=Tryz.sizeOf284,
 v63:=Tryz.zeroValue284,
 t64:=Tryz.underlying75,
 a64:=Tryz.isAgg75,
 z64:=Tryz.sizeOf75,
 v64:=Tryz.zeroValue75 }
end Go.Proofs.YtgmbjnajdfgenaaGreat
namespace Go.Proofs.YtgmbjnajdfgenaaGreat
open Go.RowKit Go.Maps Go.Sort Go.Shelf
def Zc3 (W:Qak) (b:Nat) (K:List Int):Prop:=∃ (n:Nat) (D:DataW Unit),W.ownsMap Tryz.prog 3 unitElem b n D/\n<=K.length/\∀ x,has D (.int .i64 x)=true↔x∈K
def Zap (K:List Int):List Int:=(Zqy K).map fun k:Nat=>(k:Int)
theorem Zmn (K:List Int):(Zap K).Pairwise (· < ·):=by
 unfold Zap;exact Ps.map _ (fun a b h=>by omega) (Z7a K)
theorem Zfe {K:List Int}(hK:∀ x∈K,0<=x/\x<256){x:Int}:x∈Zap K↔x∈K:=by{
 unfold Zap;rw[Qr];constructor
 ·rintro⟨k,hk,rfl⟩
  exact(Z06.1 hk).2
 ·intro h
  obtain⟨h0,h1⟩:=hK x h;have e:((x.toNat:Nat):Int)=x:=by omega
  exact⟨x.toNat,Z06.2 ⟨by omega,by rw[e];exact h⟩,e⟩}
theorem Xk {W W':Qak}{b:Nat}{K:List Int}{row:Option Nat}(h:Zc3 W b K) (hg:W.grownBy W' row) (hne:some b≠row):Zc3 W' b K:=by
 obtain⟨n,D,h1,h2,h3⟩:=h;exact⟨n,D,h1.kept hg hne,h2,h3⟩
theorem Ztf {W:Qak}{b:Nat}{K:List Int}(h:Zc3 W b K):b<W.heap.size:=by
 obtain⟨n,D,h1,_⟩:=h;exact h1.lt
theorem Zp7 (W:Qak):Zc3 (W.alloc (.map #[] 0)) W.heap.size []:=⟨0,.map [],World.ownsMap_made W Tryz.prog 3 unitElem,by simp,fun x=>by simp[has]⟩
theorem Z63 (x:Int):WideAt.IsKeyLit (.int .i64 x):=trivial
theorem Zid {W:Qak}{b:Nat}{K:List Int}(h:Zc3 W b K){x:Int}(hx:(Lit.int .i64 x).wf=true) (hl:K.length<1000000) :
  ∃ W',Sem.run Tryz.prog (Instr.mapUpdate 139 (.map (some b)) (.int .i64 x) (.agg #[])) W=.ok () W'/\Zc3 W' b (K++[x])/\W.grownBy W' (some b):=by{
 obtain⟨n,D,h1,h2,h3⟩:=h;obtain⟨W',hr,ho,hg⟩:=h1.update (int_keyed Tryz.underlying3) Tryz.underlying139 (by unfold maxLen;omega) (keyOf_int_mk Tryz.underlying3 hx) (unitElem_mk (H:=Unit));refine⟨W',hr,⟨n+1,_,ho,by rw[Qi,List.length_singleton];omega,fun y=> ?_⟩,hg⟩;rw[Qo,Qk];by_cases e:y=x
 ·subst e
  simp[has_put_same h1.isMap (Z63 y)]
 ·rw[has_put_other (fun e'=>e (by simpa using e')),h3 y]
  simp[e]}
theorem Z96 (m:Nat):AnyZI.SortsIn Tryz.prog Zil Fence.wide m :=
 ⟨fun blk off cap ss W hH hblk hsz=>callsIn_wide.2 (AnyM.slices_Sort_int Ybn blk off cap ss W hH hblk hsz),fun p cap W=>callsIn_wide.2 (AnyM.slices_Sort_int_none Ybn p cap W)⟩
theorem Zq0 (b nn:Nat) (D0:DataW Unit) (w:Qak) (hown:w.ownsMap Tryz.prog 3 unitElem b nn D0) (hmax:Maps.size D0<=1000000) :
  Qar Tryz.prog 71 #[.map (some b)] w fun e w'=>∃ (v:Qal) (ss:List Int),e=.returned v/\ss.Perm (intKeys D0)/\w'.ownsRow w.heap.size 3 1 v ss.length ((ss.mergeSort (fun x y=>decide (x<=y))).map encZ)/\Qat w.heap.size w w':=by{
 refine(callsIn_wide (n:=6)).1 ?_;have hbl:=hown.lt;have hseq:SeqGives Fence.wide 2 Tryz.prog 154 #[.pointer (some ⟨w.heap.size,0,none⟩)] encZ (fun ss=>ss.Perm (intKeys D0)) (Maps.size D0) (w.alloc (.cells #[.map (some b)] 139)) :=
  AnyZI.keys_gives (ρ:=Zpc) { Ya0 with } Fence.wide _ trivial rfl (by omega) w.heap.size b nn D0 _ (by simp) (by simp) (hown.alloc _)
 have cK:∀ mb W,CallsIn Fence.wide 5 Tryz.prog 118 #[.map mb] W fun e w'=>e=.returned (.func (.func 154) #[] #[.pointer (some ⟨W.heap.size,0,none⟩)])/\w'=W.alloc (.cells #[.map mb] 139):=fun mb W=>AnyZI.keys_in Ya0 Fence.wide 5 trivial rfl mb W
 have cS:=AnyZI.sorted_in Z9e Fence.wide 5 trivial trivial trivial trivial rfl (by omega) (Z96 _) (enters_of Tryz.func153 (by kernel_rfl) rfl) 154 #[.pointer (some ⟨w.heap.size,0,none⟩)] trivial (enters_of Tryz.func154 (by kernel_rfl) rfl) _ _ (by unfold maxLen;omega) (by omega) _ hseq;change CallsIn _ _ Tryz.prog 117 _ _ _ at cS;replace cS:=Za cS;replace cK:=Za cK;clear hseq hown;refine callsIn_of_wp Tryz.func71 rfl trivial ?_ rfl;simp only[Tryz.ntmps71,Qt,Qn,Qu,Qv,Qw,Qx,Qy,Qz,Q0,Q3,Q4]
 gi_wp2_with fail
 refine⟨trivial,?_⟩
 gi_at_call 118
 refine(cK.out _ _).mono ?_;rintro e w1 ⟨rfl,rfl⟩
 gi_wp2_with fail
 refine⟨trivial,?_⟩
 gi_at_call 117
 refine cS.out.mono ?_;rintro e w2 ⟨v,ss,rfl,hS,hrow,_,hb⟩;replace hrow:=Za hrow;replace hb:=Za hb
 gi_wp2_with fail
 go_ret;exact⟨v,ss,rfl,hS,ownsRow_base_a hrow.out (by simp),((Qc _ w).alloc (Qb _) _).trans (hb.out.mono (by simp))⟩}
theorem Zlm (b:Nat) (K:List Int) (hK:∀ x∈K,0<=x/\x<256) (hlen:K.length<=1000000) (w:Qak) (h:Zc3 w b K) :
  Qar Tryz.prog 71 #[.map (some b)] w fun e w'=>∃ A c,e=.returned (.slice A (Zap K).length c)/\rSl 1 (rK .i64) (New w.heap.size w') w' [.slice A (Zap K).length c] (Zap K)/\Qat w.heap.size w w':=by{
 obtain⟨n,D,hown,hn,hD⟩:=h;have hsz:=hown.size_le;refine(Zq0 b n D w hown (by omega)).mono ?_;rintro e w' ⟨v,ss,rfl,hp,hrow,hb⟩;have hnd:(Zap K).Nodup:=(Zmn K).imp fun h=>by omega
 have hpm:(Zap K).Perm (intKeys D):=CollectedI.perm (left:=fun _=>false) ⟨hnd,fun x=>by rw[Zfe hK,hD x];simp⟩ hown (int_keyed Tryz.underlying3) Tryz.underlying3 (fun _=>rfl);have hss:ss.mergeSort (fun x y=>decide (x<=y))=Zap K:=by
  rw[show (fun x y:Int=>decide (x<=y))=leI from rfl,mergeSort_of_perm_i (hp.trans hpm.symm)];exact List.mergeSort_of_pairwise ((Zmn K).imp fun h=>by simp only[leI,decide_eq_true_eq];omega)
 have hlen:ss.length=(Zap K).length:=(hp.trans hpm.symm).length_eq;rw[hss,hlen] at hrow;have hr:rSl 1 (rK .i64) (New w.heap.size w') w' [v] (Zap K):=Zte hrow rfl fun i x hi=>by
  have hx:=hK x ((Zfe hK).1 (Pj hi));refine⟨[.int .i64 x],rfl,fun j u hj=> ?_,rfl,?_,?_⟩
  ·have hj0:j=0:=by
    have:=(Ql.1 hj).1;simp at this;omega
   subst hj0;cases hj;rw[Nat.mul_one,Nat.add_zero,List.getElem?_map,hi];rfl
  ·simp[IntKind.min,IntKind.signed,IntKind.bits]
   omega
  ·simp[IntKind.max,IntKind.signed,IntKind.bits]
   omega
 obtain⟨A,c,e,_⟩:=id hr;simp only[List.cons.injEq,and_true] at e;subst e;exact⟨A,c,rfl,hr,hb⟩}
end Go.Proofs.YtgmbjnajdfgenaaGreat
