/-
  Lemmas on the program and on the document's answers, gathered: Seen, DevRead, DevWrite, Alive03, Gen03, Cnt, RefWith, RefRead, Push, RefNew, RefTwin, Spoil, All03, CntUp, CntAlive, CntPlain, RmPlain, Room, RmChk, RmFree, RmColl, RmTake, RmShare, Get, SumSeal, Ref01, Ref02, RefBlk, Concat, Total02, RingWrite, RingRead, RefRead4, Bag04, Item, ItLess, ItCheck, ItSame, RefIt. Conditions: those that each lemma states.
-/
import Derived.Test.YtgmbjnajdfgenaaGreatBnd1
import Derived.Deep.RegionHeld3
import Derived.Deep.AppendLies
import Derived.Maps.AppendAt
import Derived.StillTailTactics
import Derived.RangeFuncBox
import Derived.Lib.Hide
import Derived.Lib.AppendZerosOnto
import Derived.Deep.QuietTactic
import Derived.BigQuiet
set_option maxRecDepth 100000
set_option maxHeartbeats 16000000
open Array renaming getElem?_modify → Qo, replicate_succ → Qw, replicate_zero → Qx, getElem?_eq_some_iff → Pa
open Bool renaming and_eq_true → Ql
open Go renaming World → Qac, Value → Qad, Addr → Qae, TypeId → Qaf, bodyPost_ret → Qag, heap_alloc_new → Qah, undef → Qai, Calls → Qaj
open Go.Act renaming put → Qc
open Go.Builtin renaming append_ → Qi, zeroCells → Pn, lenOf → Pv, firstCells → Pw
open Go.RowKit renaming Below → Qak
open Go.RowKit.Below renaming refl → Qa
open Go.World renaming ownsRow_nil → Qj, cell? → Qm, setCell → Qn, block_lt_of_cell? → Q4, news_of_block → Pc, frozen?_of_block → Pf, cell?_of_block → Pp, cell?_setCell_same' → Pt, cell?_setCell_other → P3, frozen? → P7
open List renaming getElem?_eq_getElem → Qe, take_of_length_le → Qg, getElem?_eq_some_iff → Qh, nil_append → Qk, take_add_one → Qq, size_toArray → Qr, length_cons → Qs, length_nil → Qt, push_toArray → Qy, append_toArray → Qz, cons_append → Q3, drop_zero → Q5, getElem?_append_left → Q6, getElem?_append_right → Q7, mem_cons → Q8, getElem?_of_mem → Q9, take_zero → Pb, take_append_drop → Pd, take_succ_cons → Pg, drop_succ_cons → Ph, all_eq_true → Pj, drop_left' → Pm, mem_append → Po, map_cons → Pq, map_nil → Pr, drop_eq_getElem_cons → Ps, mem_iff_getElem → Pu, length_append → Px, map_toArray → Py, length_take → Pz, mem_of_getElem? → P4, mem_cons_self → P5, append_assoc → P8, eq_nil_of_length_eq_zero → Qaa, find?_eq_none → Qab
open Nat renaming le_refl → Qb, le_trans → Qd, lt_of_lt_of_le → Qf, zero_add → Qp, reduceAdd → Qu, reduceSub → Qv, zero_le → Pe, lt_or_ge → Pi, eq_zero_or_pos → Pk, min_eq_left → P9
namespace Go.Proofs.YtgmbjnajdfgenaaGreat
open Go.RowKit Go.Shelf
attribute [local go_sem] Oper.semAt_some
def Zah (ws:List Wt) (b:List UInt8) (n:Int):List UInt8:=ws.foldl (fun acc x=>if x.1=n then x.2 else acc) b
def Z4 (d:Dk) (n:Nat):List UInt8:=Zah d.2 (d.1[n]?.getD []) n
theorem Zkh {ws:List Wt}{b:List UInt8}{n:Int}(h:∀ x∈ws,x.1≠n):Zah ws b n=b:=by{
 induction ws generalizing b with
 | nil=>rfl
 | cons x r ih =>
  show Zah r (if x.1=n then x.2 else b) n=b;rw[if_neg (h x (Q8.2 (.inl rfl)))];exact ih fun y hy=>h y (Q8.2 (.inr hy))}
theorem Zc0 (ws vs:List Wt) (b:List UInt8) (n:Int):Zah (ws++vs) b n=Zah vs (Zah ws b n) n:=by simp[Zah]
theorem Zz7 {ws:List Wt}{b:List UInt8}{n:Int}{i:Nat}{x:Wt}(hi:ws[i]? = some x) (hx:x.1=n) (h:∀ j y,i<j->ws[j]? = some y->y.1≠n):Zah ws b n=x.2:=by{
 have hil:=(Qh.1 hi).1;have e:ws=ws.take i++(x::ws.drop (i+1)):=by
  have h1:=(Pd i ws).symm;rw[Ps hil] at h1;have h2:=(Qh.1 hi).2
  rwa [h2] at h1
 rw[e,Zc0];show Zah (ws.drop (i+1)) (if x.1=n then x.2 else Zah (ws.take i) b n) n=x.2;rw[if_pos hx];refine Zkh fun y hy=> ?_
 obtain⟨j,hj⟩:=Q9 hy;rw[List.getElem?_drop] at hj;exact h _ y (by omega) hj}
theorem Zge {ws:List Wt}{b:List UInt8}{n:Int}{k:Nat}(hb:b.length=k) (h:∀ x∈ws,x.2.length=k):(Zah ws b n).length=k:=by{
 induction ws generalizing b with
 | nil=>exact hb
 | cons x r ih =>
  refine ih (b:=if x.1=n then x.2 else b) ?_ fun y hy=>h y (Q8.2 (.inr hy))
  split
  ·exact h x (Q8.2 (.inl rfl))
  ·exact hb}
def Vu (m k:Nat):List Nat:=(List.range k).map fun j=>m-1-j
theorem Zfv (m k:Nat):Vu m (k+1)=Vu m k++[m-1-k]:=by simp[Vu,List.range_succ]
theorem Vi (m k:Nat):(Vu m k).length=k:=by simp[Vu]
theorem Zhj {m k i:Nat}(hk:k<=m):i∈Vu m k↔m-k<=i/\i<m:=by
 simp only[Vu,List.mem_map,List.mem_range];constructor
 ·rintro⟨j,hj,rfl⟩;omega
 ·intro h;exact⟨m-1-i,by omega,by omega⟩
theorem Zzd (F:Fence) (n:Nat) (hf:F.fn 169) (hro:F.round=none) (hn:1<=n) (l Bs n₀ cap m:Nat) (A:Option Qae) (ad:Qae) (at_:Nat->Int) (E:Nat->Option Qae) (ln ca:Nat->Nat) (hm:m<=9223372036854775807) (hA:0<m->A=some ad/\ad.block<n₀) (J Jx:List Nat->Qac->Prop)
  (hY:∀ (pre:List Nat) (x:Nat) (W:Qac),J pre W->pre.length<m->YieldAt F (n-1) Tryz.prog l #[.int .i64 (x:Int),.agg #[.int .i64 (at_ x),.slice (E x) (ln x) (ca x)]] W fun e W' =>
   (e=.returned (.bool true)/\J (pre++[x]) W'/\Ze4 n₀ Bs W W')\/(e=.returned (.bool false)/\Jx (pre++[x]) W'))
  (W:Qac) (hBs:W.cell? ⟨Bs,0,none⟩=some (.slice A m cap)) (hc:∀ j,j<m->W.cell? (ad.add (j*2))=some (.int .i64 (at_ j))/\W.cell? ⟨(ad.add (j*2)).block,(ad.add (j*2)).off+1,none⟩=some (.slice (E j) (ln j) (ca j))) (h0:J [] W) :
  CallsIn F n Tryz.prog 169 #[.func (.yield l) #[] #[],.pointer (some ⟨Bs,0,none⟩)] W fun e W'=>(∃ v,e=.returned v) /\
   ((∃ ys,ys=Vu m m/\J ys W')\/(∃ pre,(∃ k,k<=m/\pre=Vu m k)/\Jx pre W')):=by{
 refine callsIn_of_wp Tryz.func169 rfl hf ?_ hro;simp only[Tryz.ntmps169,Qr,Qs,Qt,Qu,Qv,Qw,Qx,Qy,Qz,Qk,Q3];have HC:=Za hc;clear hc;replace hA:=Za hA
 gi_wp2
 gi_loopw [3] (fun i wr=>∃ k:Nat,k<=m/\i=.int .i64 ((m:Int)-1-k)/\J (Vu m k) wr/\Qak n₀ W wr/\wr.cell? ⟨Bs,0,none⟩=some (.slice A m cap))
  (fun i _=>(intOf i+1).toNat)
 case atStart=>exact⟨0,Pe _,by simp,h0,Qa _ _,hBs⟩
 case round =>
  obtain⟨k,hk,rfl,hJs,hnx,hbs⟩:=hrel;by_cases hlt:k<m
  ·obtain⟨rfl,hb⟩:=hA.out (by omega)
   have hx:=HC.out (m-1-k) (by omega);have hc1:wr.cell? (ad.add ((m-1-k)*2))=some (.int .i64 (at_ (m-1-k))):=(hnx.cell (p:=ad.add ((m-1-k)*2)) (by rw[Zh];exact hb)).trans hx.1;have hc2:wr.cell? ⟨(ad.add ((m-1-k)*2)).block,(ad.add ((m-1-k)*2)).off+1,none⟩=some (.slice (E (m-1-k)) (ln (m-1-k)) (ca (m-1-k))):=(hnx.cell (p:=⟨(ad.add ((m-1-k)*2)).block,(ad.add ((m-1-k)*2)).off+1,none⟩) (by rw[Zh];exact hb)).trans hx.2;clear hx;obtain⟨fn,tmps,assign,body,hy,hR⟩:=hY _ (m-1-k) wr hJs (by rw[Vi];exact hlt)
   try dsimp only at hy
   have e1:((m:Int)-1-k).toNat=m-1-k:=by omega
   have e2:((m-1-k:Nat):Int)=(m:Int)-1-k:=by omega
   rw[e2] at hy;clear e2;have hds:=Za (Zfv m k);generalize at_ (m-1-k)=q1 at *;generalize E (m-1-k)=q2 at *;generalize ln (m-1-k)=q3 at *;generalize ca (m-1-k)=q4 at *
   gi_wp2
   refine hR.mono ?_;rintro e W3 (⟨rfl,hJ3,hk3⟩ | ⟨rfl,hJx3⟩)
   ·gi_wp2
    go_roundw
    case rel=>exact⟨k+1,by omega,by go_num,by rw[hds.out];exact hJ3,hnx.trans hk3.1,hk3.2.trans hbs⟩
    case measure=>simp[intOf];omega
   ·gi_wp2
    refine Qag (results_none rfl _ _ _) rfl ?_;exact⟨⟨_,rfl⟩,.inr ⟨_,⟨k+1,by omega,hds.out.symm⟩,hJx3⟩⟩
  ·obtain rfl:k=m:=by omega
   gi_wp2
   go_end0
   exact⟨⟨_,rfl⟩,.inl ⟨_,rfl,hJs⟩⟩}
theorem Znn (F:Fence) (n:Nat) (hf:F.fn 145) (hro:F.round=none) (a:Option Qae) (len cap:Nat) (w:Qac) :
  CallsIn F n Tryz.prog 145 #[.slice a len cap] w fun e w'=>e=.returned (.func (.func 169) #[] #[.pointer (some ⟨w.heap.size,0,none⟩)])/\w'=w.alloc (.cells #[.slice a len cap] 24):=by
 refine callsIn_of_wp Tryz.func145 rfl hf ?_ hro;simp only[Tryz.ntmps145,Qr,Qs,Qt,Qu,Qv,Qw,Qx,Qy,Qz,Qk,Q3]
 gi_wp2
 go_ret;exact⟨rfl,rfl⟩
theorem Zir (F:Fence) (n:Nat) (hf:F.fn 169) (hro:F.round=none) (hn:1<=n) (Bs n₀ cap m:Nat) (A:Option Qae) (ad:Qae) (at_:Nat->Int) (E:Nat->Option Qae) (ln ca:Nat->Nat) (hm:m<=9223372036854775807) (w:Qac) (hBs:Bs<w.heap.size) (hn₀:n₀<=w.heap.size)
  (hc:w.cell? ⟨Bs,0,none⟩=some (.slice A m cap)) (hA:0<m->A=some ad/\ad.block<n₀) (hx:∀ j,j<m->w.cell? (ad.add (j*2))=some (.int .i64 (at_ j))/\w.cell? ⟨(ad.add (j*2)).block,(ad.add (j*2)).off+1,none⟩=some (.slice (E j) (ln j) (ca j))) :
  SeqStopsK F n Tryz.prog 169 #[.pointer (some ⟨Bs,0,none⟩)] (fun x:Nat=>#[Value.int .i64 (x:Int),Value.agg #[.int .i64 (at_ x),.slice (E x) (ln x) (ca x)]]) (Ze4 n₀ Bs) (fun ys=>ys=Vu m m)
   (fun pre=>∃ k,k<=m/\pre=Vu m k) m w:=fun l J Jx W hW _ _ hY h0=>by
 have hc':=(hW.cell (p:=⟨Bs,0,none⟩) hBs).trans hc;exact Zzd F n hf hro hn l Bs n₀ cap m A ad at_ E ln ca hm hA J Jx hY W hc' (fun j hj=>⟨(hW.cell (p:=ad.add (j*2)) (by rw[Zh];have:=(hA (by omega)).2;omega)).trans (hx j hj).1,(hW.cell (p:=⟨(ad.add (j*2)).block,(ad.add (j*2)).off+1,none⟩) (by rw[Zh];have:=(hA (by omega)).2;omega)).trans (hx j hj).2⟩) h0
theorem Z5j {w:Qac}{B:Option Qae}{ws:List Wt}(h:∀ i x,ws[i]? = some x->∃ ad v,B=some ad/\Old w (ad.add (i*2))/\Old w (ad.add (i*2+1))/\w.cell? (ad.add (i*2))=some (.int .i64 x.1)/\w.cell? (ad.add (i*2+1))=some v/\rBy (Old w) w [v] x.2 /\ -9223372036854775808<=x.1/\x.1<=9223372036854775807) :
  ∃ (ad:Qae) (E:Nat->Option Qae) (ca:Nat->Nat),(0<ws.length->B=some ad/\ad.block<w.heap.size)/\∀ i x,ws[i]? = some x->w.cell? (ad.add (i*2))=some (.int .i64 x.1)/\w.cell? ⟨(ad.add (i*2)).block,(ad.add (i*2)).off+1,none⟩=some (.slice (E i) x.2.length (ca i))/\rBy (Old w) w [.slice (E i) x.2.length (ca i)] x.2:=by{
 have h2:∀ i,∃ f:Option Qae×Nat,∀ x,ws[i]? = some x->∃ ad,B=some ad/\ad.block<w.heap.size/\w.cell? (ad.add (i*2))=some (.int .i64 x.1)/\w.cell? ⟨(ad.add (i*2)).block,(ad.add (i*2)).off+1,none⟩=some (.slice f.1 x.2.length f.2)/\rBy (Old w) w [.slice f.1 x.2.length f.2] x.2:=fun i=>by
  cases hx:ws[i]? with
  | none=>exact⟨(none,0),fun x e=>by cases e⟩
  | some x =>
   obtain⟨ad,v,rfl,o1,_,c1,c2,hv,_⟩:=h i x hx;obtain⟨E,c,rfl,_⟩:=Zm hv;rw[Vn] at c2;exact⟨(E,c),fun y e=>by cases e;exact⟨ad,rfl,by unfold Old at o1;rwa [Zh] at o1,c1,c2,hv⟩⟩
 obtain⟨f,hf⟩:∃ f:Nat->Option Qae×Nat,∀ i x,ws[i]? = some x->∃ ad,B=some ad/\ad.block<w.heap.size/\w.cell? (ad.add (i*2))=some (.int .i64 x.1)/\w.cell? ⟨(ad.add (i*2)).block,(ad.add (i*2)).off+1,none⟩=some (.slice (f i).1 x.2.length (f i).2)/\rBy (Old w) w [.slice (f i).1 x.2.length (f i).2] x.2 :=
  ⟨fun i=>Classical.choose (h2 i),fun i=>Classical.choose_spec (h2 i)⟩
 rcases B with _ | ad
 ·refine⟨⟨0,0,none⟩,fun i=>(f i).1,fun i=>(f i).2,fun h0=> ?_,fun i x hi=> ?_⟩
  ·obtain⟨_,e,_⟩:=hf 0 _ (Qe h0)
   cases e
  ·obtain⟨_,e,_⟩:=hf i x hi
   cases e
 ·refine⟨ad,fun i=>(f i).1,fun i=>(f i).2,fun h0=> ?_,fun i x hi=> ?_⟩
  ·obtain⟨_,e,hb,_⟩:=hf 0 _ (Qe h0)
   cases e;exact⟨rfl,hb⟩
  ·obtain⟨_,e,_,hr⟩:=hf i x hi
   cases e;exact hr}
theorem Z4h (F:Fence) (n:Nat) (h3:F.fn 112) (h5:F.fn 145) (h7:F.fn 169) (hro:F.round=none) (hn:3<=n)
  (v:Qad) (d:Dk) (k:Nat) (hk:k<d.1.length) (w:Qac) (h:Dsk (Old w) w v d) :
  CallsIn F n Tryz.prog 112 #[v,.int .i64 k] w fun e W'=>∃ u,e=.returned u/\rBy (Old w) w [u] (Z4 d k)/\Qak w.heap.size w W':=by{
 have h1:1<=n:=by omega
 obtain⟨A,c,B,c',rfl,l1,m1,l2,m2,hA,hB⟩:=h.open;obtain⟨ad,E,ca,had,hfn⟩:=Z5j hB;obtain⟨x,hx⟩:∃ x,d.1[k]? = some x:=⟨_,Qe hk⟩
 obtain⟨a1,v1,rfl,ho1,hc1,hby1⟩:=hA k x hx;have HF:=Za hfn;clear hA hB h hfn;have hsd:Hid (Z4 d k=Zah d.2 x k):=Za (by unfold Z4;rw[hx];rfl);replace hx:=Za hx;obtain⟨N,hN⟩:∃ N,d.1.length=N:=⟨_,rfl⟩
 obtain⟨m,hm⟩:∃ m,d.2.length=m:=⟨_,rfl⟩
 rw[hN] at l1 hk ⊢;rw[hm] at l2 had ⊢;replace hN:=Za hN;replace hm:=Za hm;have hfa:Hid (∀ j,j<m->w.cell? (ad.add (j*2))=some (.int .i64 ((d.2[j]?.getD (0,[])).1))/\w.cell? ⟨(ad.add (j*2)).block,(ad.add (j*2)).off+1,none⟩=some (.slice (E j) (d.2[j]?.getD (0,[])).2.length (ca j))):=Za fun j hj=>by
  have hj':d.2[j]? = some (d.2[j]'(by rw[hm.out];exact hj)):=Qe _;rw[hj'];exact⟨(HF.out j _ hj').1,(HF.out j _ hj').2.1⟩
 obtain⟨E1,ce1,rfl,_⟩:=Zm hby1;replace had:=Za had;refine callsIn_of_wp_marks Tryz.func112 rfl h3 ?_ hro;simp only[Tryz.ntmps112,Qr,Qs,Qt,Qu,Qv,Qw,Qx,Qy,Qz,Qk,Q3]
 gi_wp2_with (gi_at_call 145;refine(Znn F (n-1) h5 hro _ _ _ _).mono ?_;rintro e w' ⟨rfl,rfl⟩)
 obtain⟨W0,hW0,hB0,hs0,b0,b1,b2,b2f,b3⟩:∃ W0,(((w.alloc (.cells #[.slice (some a1) N c,.slice B m c'] 26)).alloc (.cells #[.int .i64 (k:Int)] 3)).alloc (.cells #[.slice none 0 0] 27)).alloc (.cells #[.slice B m c'] 24)=W0/\Qak w.heap.size w W0/\W0.heap.size=w.heap.size+4 /\
   W0.cell? ⟨w.heap.size,0,none⟩=some (.slice (some a1) N c)/\W0.cell? ⟨w.heap.size+1,0,none⟩=some (.int .i64 (k:Int))/\W0.cell? ⟨w.heap.size+1+1,0,none⟩=some (.slice none 0 0)/\W0.frozen? ⟨w.heap.size+1+1,0,none⟩=false/\W0.cell? ⟨w.heap.size+1+1+1,0,none⟩=some (.slice B m c') :=
  ⟨_,rfl,((((Qa _ w).alloc (Qb _) _).alloc (by simp) _).alloc (by simp;omega) _).alloc (by simp;omega) _,by simp,by go_simp,by go_simp,by go_simp,by go_simp,by go_simp⟩
 rw[hW0];clear hW0;obtain⟨atf,hat⟩:∃ f:Nat->Int,f=fun j=>(d.2[j]?.getD (0,[])).1:=⟨_,rfl⟩
 obtain⟨lnf,hln⟩:∃ f:Nat->Nat,f=fun j=>(d.2[j]?.getD (0,[])).2.length:=⟨_,rfl⟩
 have hfb:∀ j,j<m->W0.cell? (ad.add (j*2))=some (.int .i64 (atf j))/\W0.cell? ⟨(ad.add (j*2)).block,(ad.add (j*2)).off+1,none⟩=some (.slice (E j) (lnf j) (ca j)):=fun j hj=>by
  have hb:=(had.out (by omega)).2;rw[hat,hln];exact⟨(hB0.cell (p:=ad.add (j*2)) (by rw[Zh];exact hb)).trans (hfa.out j hj).1,(hB0.cell (p:=⟨(ad.add (j*2)).block,(ad.add (j*2)).off+1,none⟩) (by rw[Zh];exact hb)).trans (hfa.out j hj).2⟩
 have hlo:w.heap.size<=W0.heap.size:=hB0.size;replace hat:=Za hat;replace hln:=Za hln;refine wpIn_rangeFunc_ownH hro h1 (gf:=169) (lb:=#[.pointer (some ⟨w.heap.size+1+1+1,0,none⟩)]) rfl h7 (enters_of Tryz.func169 (by kernel_rfl) rfl)
  (Zir F (n-1) h7 hro (by omega) (w.heap.size+1+1+1) w.heap.size c' m B ad atf E lnf ca (by omega) W0 (by omega) hlo b3 had.out hfb)
  (fun h h'=>Ze4.trans h h') (fun W l o o' hl h1 h2 h3=>Zp3 (w:=W0) (by omega) hlo l o o' hl h1 h2 h3) (Qa _ _) (fun _=>rfl)
  (fun pre W=>((∀ j∈pre,atf j≠k)/\W.cell? ⟨w.heap.size,0,none⟩=some (.slice (some a1) N c)/\W.cell? ⟨w.heap.size+1,0,none⟩=some (.int .i64 (k:Int))/\W.cell? ⟨w.heap.size+1+1,0,none⟩=some (.slice none 0 0)/\W.frozen? ⟨w.heap.size+1+1,0,none⟩=false/\W.cell? ⟨w.heap.size+1+1+1,0,none⟩=some (.slice B m c'))/\Qak w.heap.size w W)
  (fun cd pre W=>(cd=.ret/\∃ p i,pre=p++[i]/\(∀ j∈p,atf j≠k)/\atf i=k/\W.cell? ⟨w.heap.size+1+1,0,none⟩=some (.slice (E i) (lnf i) (ca i)))/\Qak w.heap.size w W)
  (OwnFrom.and (Own.from (fun s A B row hs hg hr=>⟨hs.1,cell_kept hs.2.1 hg hr,cell_kept hs.2.2.1 hg hr,cell_kept hs.2.2.2.1 hg hr,(frozen_kept hs.2.2.2.1 hg hr).trans hs.2.2.2.2.1,cell_kept hs.2.2.2.2.2 hg hr⟩) _) (ownFrom_below (Qb _) hlo))
  (fun cd=>OwnFrom.and (Own.from (fun s A B row hs hg hr=>by
   obtain⟨e,p,i,e2,h1,h2,hc⟩:=hs
   exact⟨e,p,i,e2,h1,h2,cell_kept hc hg hr⟩) _) (ownFrom_below (Qb _) hlo))
  ⟨⟨by simp,b0,b1,b2,b2f,b3⟩,hB0⟩
  (fun x a' W=>∃ g,a'={ tmps:=#[.agg #[.slice (some a1) N c,.slice B m c'],.int .i64 (k:Int),.pointer (some ⟨w.heap.size,0,none⟩),.pointer (some ⟨w.heap.size+1,0,none⟩),.pointer (some ⟨w.heap.size+1+1,0,none⟩),Qai,.pointer (some ⟨g,0,none⟩),.pointer (some ⟨w.heap.size,1,none⟩),.slice B m c',
   .func (.func 169) #[] #[.pointer (some ⟨w.heap.size+1+1+1,0,none⟩)],.int .i64 (x:Int),.agg #[.int .i64 (atf x),.slice (E x) (lnf x) (ca x)],Qai,Qai,Qai,Qai,Qai,Qai,Qai,Qai,Qai,Qai,Qai],defers:=[] } /\
   W.cell? ⟨g,0,none⟩=some (.int .i64 (atf x))/\W.cell? ⟨g,1,none⟩=some (.slice (E x) (lnf x) (ca x)))
  (fun x a'=>Own.from (fun s A B row hs hg hr=>by
   obtain⟨g,e,h1,h2⟩:=hs
   exact⟨g,e,cell_kept h1 hg hr,cell_kept h2 hg hr⟩) _) ?assign ?body ?done ?stop
 case assign =>
  rintro l pre x W K ⟨⟨hp,c0,c1,c2,c2f,c3⟩,hb⟩ hK;have hlW:w.heap.size+1+1<W.heap.size:=Q4 _ _ c2
  gi_wp2
  exact hK _ _ ((KeepsOthers.alloc _ _).from _) ⟨(Qa _ W).alloc hb.size _,(Lib.cell?_alloc_some _ c3).trans c3.symm⟩
   ⟨⟨hp,Lib.cell?_alloc_some _ c0,Lib.cell?_alloc_some _ c1,Lib.cell?_alloc_some _ c2,(Pf (Below.heap_alloc W _ _ hlW)).trans c2f,Lib.cell?_alloc_some _ c3⟩,hb.alloc hb.size _⟩ ⟨W.heap.size,rfl,by go_simp,by go_simp⟩
 case body =>
  rintro l pre x a' W hl hloop ⟨⟨hp,c0,c1,c2,c2f,c3⟩,hb⟩ ⟨g,rfl,g0,g1⟩ hlen;by_cases he:atf x=k
  ·have he':(atf x==(k:Int))=true:=by simpa using he
   replace he:=Za he
   gi_wp2
   refine⟨(KeepsOthers.setCell _ _ _).from _,⟨rfl,pre,x,rfl,hp,he.out,Pt _ _ _ (by rw[c2];rfl)⟩,hb.setCell (by simp;omega) _⟩
  ·have he':(atf x==(k:Int))=false:=by simpa using he
   replace he:=Za he
   gi_wp2
   refine⟨KeepsFrom.refl _ _,⟨Qa _ _,rfl⟩,⟨fun j hj=>(Po.1 hj).elim (hp j) (fun e=>by simp at e;rw[e];exact he.out),c0,c1,c2,c2f,c3⟩,hb⟩
 case done =>
  rintro D zs W hD rfl ⟨⟨hp,c0,c1,c2,c2f,c3⟩,hb⟩ hK;have hcx:=(hb.cell ho1).trans hc1
  have hval:Hid (rBy (Old w) w [.slice E1 x.length ce1] (Z4 d k)):=Za (by
   rw[hsd.out,Zkh]
   ·exact hby1
   ·intro y hy
    obtain⟨j,hj⟩:=Q9 hy;have:=hp j ((Zhj (Qb _)).2 ⟨by omega,by rw[<- hm.out];exact(Qh.1 hj).1⟩);rw[hat.out] at this
    simpa [hj] using this)
  gi_wp2
  have hK':=(KeepsOthers.setCell W ⟨w.heap.size+1+1,0,none⟩ (.slice E1 x.length ce1)).same D _ hK rfl;refine⟨by simp,.inl ⟨_,_,rfl,run_takeDeferred hK',?_⟩⟩;have hc5:=cell_kept (Pt W ⟨w.heap.size+1+1,0,none⟩ (.slice E1 x.length ce1) (by rw[c2];rfl)) (grownBy_putObj' _ D (.deferred none)) (fun r e=>by cases e;exact⟨_,hK',rfl⟩);refine⟨.slice E1 x.length ce1,?_,_,rfl,hval.out,(hb.setCell (p:=⟨w.heap.size+1+1,0,none⟩) (by simp;omega) _).trans (belowK_b hlo _ D _ _ hD hK' rfl rfl)⟩;simp[results,Tryz.f112,go_sem,hc5]
 case stop =>
  rintro D cd pre W hD ⟨q,hq,rfl⟩ ⟨⟨rfl,p,i,hpi,h1,h2,hc⟩,hb⟩ hK;have hi:i∈Vu m q:=by rw[hpi];simp
  obtain⟨hi1,hi2⟩:=(Zhj hq).1 hi
  have hval:Hid (rBy (Old w) w [.slice (E i) (lnf i) (ca i)] (Z4 d k)):=Za (by
   have hx2:d.2[i]? = some (d.2[i]'(by rw[hm.out];exact hi2)):=Qe _;have e1:atf i=(d.2[i]'(by rw[hm.out];exact hi2)).1:=by rw[hat.out];simp[hx2]
   have e2:lnf i=(d.2[i]'(by rw[hm.out];exact hi2)).2.length:=by rw[hln.out];simp[hx2]
   rw[hsd.out,e2,Zz7 hx2 (by rw[<- e1];exact h2)]
   ·exact(HF.out i _ hx2).2.2
   ·intro j y hij hj
    have hjm:j<m:=by rw[<- hm.out];exact(Qh.1 hj).1
    have hjd:j∈Vu m q:=(Zhj hq).2 ⟨by omega,hjm⟩;rw[hpi] at hjd;have:=h1 j ((Po.1 hjd).elim id (fun e=>by simp at e;omega));rw[hat.out] at this
    simpa [hj] using this)
  gi_wp2
  refine⟨by simp,.inl ⟨_,_,rfl,run_takeDeferred hK,?_⟩⟩;have hc5:=cell_kept hc (grownBy_putObj' _ D (.deferred none)) (fun r e=>by cases e;exact⟨_,hK,rfl⟩);refine⟨.slice (E i) (lnf i) (ca i),?_,_,rfl,hval.out,hb.trans (belowK_b hlo _ D _ _ hD hK rfl rfl)⟩;simp[results,Tryz.f112,go_sem,hc5]}
theorem Zzl (v:Qad) (d:Dk) (k:Nat) (hk:k<d.1.length) (w:Qac) (h:Dsk (Old w) w v d) :
  Qaj Tryz.prog 112 #[v,.int .i64 k] w fun e W'=>∃ u,e=.returned u/\rBy (Old w) w [u] (Z4 d k)/\Qak w.heap.size w W' :=
 callsIn_wide.1 (Z4h Fence.wide 3 trivial trivial trivial rfl (Qb _) v d k hk w h)
def V0 (d:Dk) (n:Int):Int:=if Zai d then (if Xt n then 0 else 2) else 8
theorem Znm {d:Dk}{n:Int}(h:Zai d=false):V0 d n=8:=by simp[V0,h]
theorem Zmv {d:Dk}{n:Int}(h:Zai d=true) (h':Xt n=false):V0 d n=2:=by simp[V0,h,h']
theorem Zlk {d:Dk}{n:Int}(h:Zai d=true) (h':Xt n=true):V0 d n=0:=by simp[V0,h,h']
theorem Zkm {n:Int}(h:Xt n=true):∃ k:Nat,n=k/\k<256:=by
 simp only[Xt,Ql,decide_eq_true_eq] at h;exact⟨n.toNat,by omega,by omega⟩
theorem Zex {k:Nat}(h:k<256):Xt (k:Int)=true:=by
 simp only[Xt,Ql,decide_eq_true_eq];omega
theorem Vv (v:Qad) (d:Dk) (n:Int) (w:Qac) (h:Dsk (Old w) w v d):Qaj Tryz.prog 111 #[v,.int .i64 n] w fun e w'=>e=.returned (.int .i64 (V0 d n))/\Qak w.heap.size w w':=by{
 obtain⟨a,b,rfl,_⟩:=id h;have hB:=Uv (Qa w.heap.size w) (.cells #[a,b] 26);have H:=Za (h.below hB);cases hm:Zai d with
 | true =>
  have hc:=Za (Zyn hm);cases ht:Xt n with
  | true =>
   have hr:=Za (Zlk hm ht);replace hm:=Za hm;replace ht:=Za ht
   go_enter Tryz.func111,Tryz.ntmps111
   go_wp2_with fail
   refine(Za2 _ d _ H.out).mono ?_;rintro e w1 ⟨rfl,hb1⟩;rw[hc.out]
   go_wp2_with fail
   refine(Zcj _ _).mono ?_;rintro e w2 ⟨rfl,rfl⟩;rw[ht.out]
   go_wp2_with fail
   go_ret;exact⟨Zv hr.out.symm,hB.trans (hb1.mono hB.size)⟩
  | false =>
   have hr:=Za (Zmv hm ht);replace hm:=Za hm;replace ht:=Za ht
   go_enter Tryz.func111,Tryz.ntmps111
   go_wp2_with fail
   refine(Za2 _ d _ H.out).mono ?_;rintro e w1 ⟨rfl,hb1⟩;rw[hc.out]
   go_wp2_with fail
   refine(Zcj _ _).mono ?_;rintro e w2 ⟨rfl,rfl⟩;rw[ht.out]
   go_wp2_with fail
   go_ret;exact⟨Zv hr.out.symm,hB.trans (hb1.mono hB.size)⟩
 | false =>
  have hc:=Za (Zdy hm);have hr:=Za (Znm (n:=n) hm);replace hm:=Za hm
  go_enter Tryz.func111,Tryz.ntmps111
  go_wp2_with fail
  refine(Za2 _ d _ H.out).mono ?_;rintro e w1 ⟨rfl,hb1⟩;rw[hc.out]
  go_wp2_with fail
  go_ret;exact⟨Zv hr.out.symm,hB.trans (hb1.mono hB.size)⟩}
theorem Z0l (v:Qad) (d:Dk) (n:Int) (w:Qac) (h:Dsk (Old w) w v d) (hn:¬ (Zai d=true/\Xt n=true)) :
  Qaj Tryz.prog 67 #[v,.int .i64 n] w fun e w'=>e=.returned (.tuple #[.slice none 0 0,.int .i64 (V0 d n)])/\Qak w.heap.size w w':=by{
 obtain⟨a,b,rfl,_⟩:=id h;have hB:=Uv (Qa w.heap.size w) (.cells #[a,b] 26);have H:=Za (h.below hB);have hc:V0 d n=8\/V0 d n=2:=by
  cases hm:Zai d with
  | false=>exact .inl (Znm hm)
  | true =>
   cases ht:Xt n with
   | false=>exact .inr (Zmv hm ht)
   | true=>exact absurd ⟨hm,ht⟩ hn
 clear hn;rcases hc with hc | hc
 all_goals
  rw[hc];replace hc:=Za hc
  go_enter Tryz.func67,Tryz.ntmps67
  go_wp2_with fail
  refine(Vv _ d n _ H.out).mono ?_;rintro e w1 ⟨rfl,hb1⟩;rw[hc.out]
  go_wp2_with fail
  go_ret2
  exact⟨rfl,hB.trans (hb1.mono hB.size)⟩}
theorem Z2q (v:Qad) (d:Dk) (k:Nat) (w:Qac) (h:Dsk (Old w) w v d) (hm:Zai d=true) (hk:k<256) :
  Qaj Tryz.prog 67 #[v,.int .i64 k] w fun e w'=>∃ u,e=.returned (.tuple #[u,.int .i64 0])/\rBy (New w.heap.size w') w' [u] (Z4 d k)/\Qak w.heap.size w w':=by{
 obtain⟨a,b,rfl,ha,hb⟩:=id h;obtain⟨w0,hw0,f1,f2,f3,hB⟩:=Zr8 w a b 26;have H:=Za (h.below hB);have hc:=Za (Zlk hm (Zex hk));have hl:k<d.1.length:=by rw[(Zdl hm).1];exact hk
 have hbig:Hid ((Z4 d k).length=128):=Za (by
  obtain⟨h1,h2,h3,h4⟩:=Zdl hm;refine Zge ?_ fun x hx=> ?_
  ·rw[Qe hl]
   exact h3 k _ (Qe hl)
  ·obtain⟨j,hj⟩:=Q9 hx
   exact(h4 j x hj).2.2)
 obtain⟨A,c,e1,_⟩:=Zcx ha;obtain⟨B,e,e2,_⟩:=Zrz hb;cases e1;cases e2;replace f3:=Za f3;replace hm:=Za hm
 go_enter Tryz.func67,Tryz.ntmps67
 go_upto_region 1 with fail
 clear hw0
 go_wp2_with fail
 refine(Vv _ d k _ H.out).mono ?_;rintro e w1 ⟨rfl,hb1⟩;rw[hc.out];have H1:=Za (H.out.below hb1);have g1:=(hb1.cell (p:=⟨w.heap.size,0,none⟩) (by rw[f3.out];simp)).trans f1;have g2:=(hb1.cell (p:=⟨w.heap.size,1,none⟩) (by rw[f3.out];simp)).trans f2;have hB1:=hB.trans (hb1.mono hB.size);clear f1 f2 hB hb1
 go_wp2_with fail
 refine(Zzl _ d k hl _ H1.out).mono ?_;rintro e w2 ⟨u,rfl,hu,hb2⟩;have hu2:=Zf.old hu hb2;have hB2:=hB1.trans (hb2.mono hB1.size)
 go_wp2_with fail
 refine(Ui u _ _ (by rw[hbig.out];omega) hu2).mono ?_;rintro e w3 ⟨x,rfl,hx,hb3⟩;have hfin:=Za (Zf.mono hx hB2.size);have hB3:=hB2.trans (hb3.mono hB2.size);clear hx hu hu2
 go_wp2_with fail
 go_ret2
 exact⟨x,rfl,hfin.out,hB3⟩}
def Zmm (d:Dk) (n:Int) (xs:List UInt8):Int:=if Zai d then (if Xt n then (if xs.length=128 then (if d.2.length=4096 then 9 else 0) else 3) else 2) else 8
theorem Z2w {d:Dk}{n:Int}{xs:List UInt8}(h:V0 d n≠0):Zmm d n xs=V0 d n:=by{
 unfold Zmm V0 at *;split
 ·split
  ·simp_all
  ·rfl
 ·rfl}
theorem Zvh (v u:Qad) (d:Dk) (n:Int) (xs:List UInt8) (w:Qac) (h:Dsk (Old w) w v d) (hu:rBy (Old w) w [u] xs) (he:Zmm d n xs≠0) :
  Qaj Tryz.prog 126 #[v,.int .i64 n,u] w fun e w'=>e=.returned (.tuple #[.agg #[.slice none 0 0,.slice none 0 0],.int .i64 (Zmm d n xs)])/\Qak w.heap.size w w':=by{
 obtain⟨a,b,rfl,_⟩:=id h;obtain⟨w2,hw2,f1,f2,f3,hsz,hB⟩:=Zii w a b #[.slice none 0 0,.slice none 0 0] 26;have H:=Za (h.below hB);obtain⟨A,c,B,e,e1,_⟩:=h.open;cases e1;obtain⟨E,ce,rfl,_⟩:=Zm hu;clear h hu;replace hsz:=Za hsz;cases hc:V0 d n==0 with
 | false =>
  have hc':V0 d n≠0:=by simpa using hc
  have hw:=Za (Z2w (xs:=xs) hc');obtain⟨q,hq⟩:∃ q,V0 d n=q:=⟨_,rfl⟩
  rw[hw.out,hq];rw[hq] at hc;replace hq:=Za hq;have hc2:(q != 0)=true:=by simpa using hc
  clear he hc'
  go_enter Tryz.func126,Tryz.ntmps126
  go_upto_region 1 with fail
  clear hw2
  go_wp2_with fail
  refine(Vv _ d n _ H.out).mono ?_;rintro e w3 ⟨rfl,hb3⟩;rw[hq.out];have f4:=(hb3.block (w.heap.size+1) (by rw[hsz.out];omega)).trans f3;obtain⟨k1,k2,k3,k4⟩:=Zg f4;obtain⟨W9,hW9,g9,gr9,gs9⟩:=Ys (u:=.slice none 0 0) (v:=.slice none 0 0) f4;obtain⟨k5,k6,_,_⟩:=Zg g9;have hB9:=(hB.trans (hb3.mono hB.size)).grown gr9 (Qd hB.size hb3.size) (fun q e=>by cases e;omega);replace f4:=Za f4;replace f3:=Za f3;replace g9:=Za g9;clear f1 f2
  go_wp2_with fail
  exact Qag (v:=.tuple #[.agg #[.slice none 0 0,.slice none 0 0],.int .i64 q]) (by simp[results,Tryz.results126,go_sem,k5,k6]) rfl ⟨rfl,hB9⟩
 | true =>
  have hc':V0 d n=0:=by simpa using hc
  clear hc;have hmt:Zai d=true/\Xt n=true:=by
   unfold V0 at hc';cases h1:Zai d <;> cases h2:Xt n <;> simp[h1,h2] at hc' ⊢
  replace hc':=Za hc';by_cases h8:xs.length=128
  ·have h9:d.2.length=4096:=by
    unfold Zmm at he;simp[hmt,h8] at he;exact he
   have hw:=Za (show Zmm d n xs=9 by simp[Zmm,hmt,h8,h9]);rw[hw.out];have e8:((xs.length:Int) != 128)=false:=by rw[h8];rfl
   have e9:((d.2.length:Int)==4096)=true:=by rw[h9];rfl
   replace h8:=Za h8;replace h9:=Za h9;clear he hmt
   go_enter Tryz.func126,Tryz.ntmps126
   go_upto_region 1 with fail
   clear hw2
   go_wp2_with fail
   refine(Vv _ d n _ H.out).mono ?_;rintro e w3 ⟨rfl,hb3⟩;rw[hc'.out];have f4:=(hb3.block (w.heap.size+1) (by rw[hsz.out];omega)).trans f3;have g2:=(hb3.cell (p:=⟨w.heap.size,1,none⟩) (by rw[hsz.out];simp)).trans f2;obtain⟨k1,k2,k3,k4⟩:=Zg f4;obtain⟨W9,hW9,g9,gr9,gs9⟩:=Ys (u:=.slice none 0 0) (v:=.slice none 0 0) f4;obtain⟨k5,k6,_,_⟩:=Zg g9;have hB9:=(hB.trans (hb3.mono hB.size)).grown gr9 (Qd hB.size hb3.size) (fun q e=>by cases e;omega);replace f4:=Za f4;replace f3:=Za f3;replace g9:=Za g9;clear f1 f2
   go_wp2_with fail
   exact Qag (v:=.tuple #[.agg #[.slice none 0 0,.slice none 0 0],.int .i64 9]) (by simp[results,Tryz.results126,go_sem,k5,k6]) rfl ⟨rfl,hB9⟩
  ·have hw:=Za (show Zmm d n xs=3 by simp[Zmm,hmt,h8])
   rw[hw.out];have e8:((xs.length:Int) != 128)=true:=by simp;omega
   clear he hmt h8
   go_enter Tryz.func126,Tryz.ntmps126
   go_upto_region 1 with fail
   clear hw2
   go_wp2_with fail
   refine(Vv _ d n _ H.out).mono ?_;rintro e w3 ⟨rfl,hb3⟩;rw[hc'.out];have f4:=(hb3.block (w.heap.size+1) (by rw[hsz.out];omega)).trans f3;obtain⟨k1,k2,k3,k4⟩:=Zg f4;obtain⟨W9,hW9,g9,gr9,gs9⟩:=Ys (u:=.slice none 0 0) (v:=.slice none 0 0) f4;obtain⟨k5,k6,_,_⟩:=Zg g9;have hB9:=(hB.trans (hb3.mono hB.size)).grown gr9 (Qd hB.size hb3.size) (fun q e=>by cases e;omega);replace f4:=Za f4;replace f3:=Za f3;replace g9:=Za g9;clear f1 f2
   go_wp2_with fail
   exact Qag (v:=.tuple #[.agg #[.slice none 0 0,.slice none 0 0],.int .i64 3]) (by simp[results,Tryz.results126,go_sem,k5,k6]) rfl ⟨rfl,hB9⟩}
theorem Zy4 (v u:Qad) (d:Dk) (k:Nat) (xs:List UInt8) (w:Qac) (h:Dsk (Old w) w v d) (hu:rBy (Old w) w [u] xs) (hm:Zai d=true) (hk:k<256) (hl:xs.length=128) (hf:d.2.length<4096) :
  Qaj Tryz.prog 126 #[v,.int .i64 k,u] w fun e w'=>∃ x,e=.returned (.tuple #[x,.int .i64 0])/\Dsk (New w.heap.size w') w' x (d.1,d.2++[((k:Int),xs)])/\Qak w.heap.size w w':=by{
 obtain⟨i0,hi,hz0,hz1,hz2⟩:=info_parts Zed;obtain⟨a,b,rfl,_⟩:=id h;obtain⟨w2,hw2,f1,f2,f3,hsz,hB⟩:=Zii w a b #[.slice none 0 0,.slice none 0 0] 26;have H:=Za (h.below hB);obtain⟨A,c,B,e,e1,_⟩:=h.open;cases e1;have hu2:=Zf.old hu hB;obtain⟨E,ce,rfl,_⟩:=Zm hu;clear h hu;replace hsz:=Za hsz;have hc:=Za (Zlk hm (Zex hk));have hsm:=Za (Zcp hm);have e8:((xs.length:Int) != 128)=false:=by rw[hl];rfl
 have e9:((d.2.length:Int)==4096)=false:=by simp;omega
 replace hm:=Za hm;replace hl:=Za hl
 go_enter Tryz.func126,Tryz.ntmps126
 go_upto_region 1 with fail
 clear hw2
 go_wp2_with fail
 refine(Vv _ d k _ H.out).mono ?_;rintro e w3 ⟨rfl,hb3⟩;rw[hc.out];have f4:=(hb3.block (w.heap.size+1) (by rw[hsz.out];omega)).trans f3;have g1:=(hb3.cell (p:=⟨w.heap.size,0,none⟩) (by rw[hsz.out];simp)).trans f1;have g2:=(hb3.cell (p:=⟨w.heap.size,1,none⟩) (by rw[hsz.out];simp)).trans f2;have H3:=Za (H.out.below hb3);have hu3:=Zf.old hu2 hb3;have hB3:=hB.trans (hb3.mono hB.size);have hl3:w.heap.size+2<=w3.heap.size:=by have:=hsz.out;have:=hb3.size;omega
 replace f4:=Za f4;clear f1 f2 f3 hu2 H hB hb3
 go_wp2_with fail
 refine(Zse _ d _ hsm.out H3.out).mono ?_;rintro e w4 ⟨x,rfl,⟨a4,A4,c4,ps,rfl,hx1,hx2,hx3,hx4⟩,hb4⟩;obtain⟨R4,r4,er,_⟩:=Zcx hx1;cases er;have hu4:=Zf.old hu3 hb4;have f5:=(hb4.block (w.heap.size+1) (by omega)).trans f4.out;have hB4:=hB3.trans (hb4.mono hB3.size);have hl4:w.heap.size+2<=w4.heap.size:=Qd hl3 hb4.size;obtain⟨wb,hwb,b1,b3,hbb⟩:=Zy w4 (.slice R4 d.1.length r4) (.slice A4 d.2.length c4) 26;have hu5:=Zf.old hu4 hbb;have hA4:Hid (∀ q,A4.map (·.block)=some q->q<w4.heap.size/\w3.heap.size<=q):=Za fun q e=>by
  have:=hx2.lt q (by rw[hx3];exact e);exact⟨this.2,this.1⟩
 have hownb:wb.drew.ownsRow w3.heap.size 47 2 (.slice A4 d.2.length c4) d.2.length (Xj ps):=Zr hx2 hbb.drew;have f6:=(hbb.block (w.heap.size+1) (by omega)).trans f5;obtain⟨_,s1,s2,s3⟩:=Zg b1;have hB5:=hB4.trans (hbb.mono hB4.size);replace b1:=Za b1;replace hownb:=Za hownb;replace f5:=Za f5;replace f6:=Za f6;replace hx1:=Za hx1;replace hx2:=Za hx2;replace hx4:=Za hx4;replace hx3:=Za hx3;replace b3:=Za b3;have hub:Hid (rBy (Old wb) wb [.slice E xs.length ce] xs):=Za hu5;clear hu3 hu4 hu5;have hd2:d.2.length<4096:=hf
 go_upto_region 9 with fail
 clear hwb;have p1:xs.length<=140737488355328:=by rw[hl.out];omega
 refine Z1 (by kernel_rfl) 7 (fun W=>Qak wb.heap.size wb W) (fun i=>match i with
   | 4=>some (fun v W=>rBy (New wb.heap.size W) W [v] xs)
   | 5=>some (fun v W=>∃ Y cy,v=.agg #[.int .i64 (k:Int),.slice Y xs.length cy]/\rBy (New wb.heap.size W) W [.slice Y xs.length cy] xs)
   | 6=>some (fun v W=>∃ g Y cy,v=.slice (some ⟨g,0,none⟩) 1 1/\wb.heap.size<=g/\W.heap[g]? = some (.cells #[.int .i64 (k:Int),.slice Y xs.length cy] 47 (0,0))/\rBy (New wb.heap.size W) W [.slice Y xs.length cy] xs)
   | _=>none) (fun _=>none) (by decide) (by kernel_rfl) (by kernel_rfl) (Qa _ _).drew (fun w w' h hb=>h.trans (hb.mono h.size)) ?tst ?_
 case tst =>
  intro j φ x W W' hp hx hb
  match j,hp with
  | 4,hp=>cases hp;exact Zf.new hx (Qb _) hb
  | 5,hp =>
   cases hp;obtain⟨Y,cy,e1,e2⟩:=hx;exact⟨Y,cy,e1,Zf.new e2 (Qb _) hb⟩
  | 6,hp =>
   cases hp;obtain⟨g,Y,cy,e1,e2,e3,e4⟩:=hx;exact⟨g,Y,cy,e1,e2,(hb.block g (Pa.1 e3).1).trans e3,Zf.new e4 (Qb _) hb⟩
 simp only[Pg,Pb,Ph,Q5]
 repeat (first
  | (refine wpAs_skip rfl ?_;simp only[Qc,Zb,Zc,Zd])
  | (refine wpAs_pure (v := ?_) rfl rfl ?_ ?_;rotate_left;(intro W hC hE;clear hE;(have z1:=(hC.cell (p:=⟨w4.heap.size,1,none⟩) s3).trans s1);clear hC;go_simp;first | done | with_reducible rfl);simp only[Qc,Zb,Zc,Zd]))
 refine wpAs_act rfl rfl ?_ ?_
 ·intro W hC hE
  clear hE;refine does_enter (f:=80) (args:=#[.slice E xs.length ce]) ?_ ?_
  ·go_simp
  ·refine(Ui _ xs W p1 (Zf.old hub.out hC)).mono ?_
   rintro e W' ⟨u,rfl,ho,hb⟩;exact⟨_,rfl,Zf.mono ho hC.size,hb⟩
 simp only[Qc,Zb,Zc,Zd,envAdd];intro x32;refine wpAs_act rfl rfl ?_ ?_
 ·intro W hC hE
  have h32:=hE.1 rfl;obtain⟨Y,cy,rfl,_⟩:=Zm h32;clear hE hC;have h32':=Za h32;clear h32
  go_simp
  exact⟨⟨Y,cy,rfl,h32'.out⟩,Qa _ _⟩
 simp only[Qc,Zb,Zc,Zd,envAdd];intro x33;refine wpAs_act rfl rfl ?_ ?_
 ·intro W hC hE
  obtain⟨Y,cy,rfl,h33⟩:=hE.1 rfl;have hsz':=hC.size;have h33':=Za (Zf.new h33 (Qb _) ((Qa W.heap.size W).alloc (Qb _) (.cells #[.int .i64 (k:Int),.slice Y xs.length cy] 47)));clear hE hC h33
  go_simp
  exact⟨⟨W.heap.size,rfl,hsz',Y,cy,Qah _ _,h33'.out⟩,(Qa _ _).alloc (Qb _) _⟩
 simp only[Qc,Zb,Zc,Zd,envAdd];intro x34;refine wpAs_end fun W hC hE=> ?_
 obtain⟨⟨g,Y,cy,rfl,hg,hg3,hy⟩,_⟩:=hE;have hownW:=Zr hx2.out (hbb.trans (hC.mono hbb.size));have hbkW:=(hC.block w4.heap.size s3).trans b1.out;obtain⟨_,z1,z2,z3⟩:=Zg hbkW;obtain⟨y1,y2,_,y4⟩:=Zg hg3;have hBW:=hB5.trans (hC.mono hB5.size);have hlW:w3.heap.size<=W.heap.size:=Qd hb4.size (by have:=b3.out;omega);have p2:d.2.length+1<=maxLen:=by unfold maxLen;omega
 have p3:(d.2.length+1)*32<=140737488355328:=by omega
 have hlc:=hy;replace hbkW:=Za hbkW;replace hg3:=Za hg3;replace hlc:=Za hlc;clear hy
 go_wp2_with (at_builtin;refine wpList_append_own _ rfl _ _ 24 rfl w3.heap.size 47 i0 (.agg #[.int .i64 0,.slice none 0 0]) 2 32 Tryz.underlying24 hi hz0 hz1 hz2 rfl (by decide) _ _ _ rfl hownW ⟨g,0,none⟩ 1 1 [.int .i64 (k:Int),.slice Y xs.length cy] rfl rfl ?d1 ?d2 p2 p3 hlW ?_)
 case d1=>exact Pc (cs:=#[.int .i64 (k:Int),.slice Y xs.length cy]) hg3.out
 case d2 =>
  intro u hu;simp at hu;rcases hu with rfl | rfl <;> rfl
 intro v' w1 hown' hgrow _;obtain⟨A5,c5,rfl,q1,q2,q3,q4⟩:=Yr hown';have p8:some w4.heap.size≠(Value.slice A4 d.2.length c4).ownBlock:=by rw[hx3.out];exact fun e=>absurd (hA4.out _ e.symm).1 (Nat.lt_irrefl _)
 have zz:=(hgrow.block w4.heap.size z3 p8).trans hbkW.out;obtain⟨y5,y6,y7,y8⟩:=Zg zz;obtain⟨W6,hW6,g6,gr6,gs6⟩:=Zf3 (u:=.slice A5 (d.2.length+1) c5) zz;obtain⟨y9,y10,_,_⟩:=Zg g6;have hrow:∀ q,(Value.slice A4 d.2.length c4).ownBlock=some q->w3.heap.size<=q:=fun q e=>(hA4.out q (by rw[<- hx3.out];exact e)).2
 have hl3':w.heap.size+2<=w3.heap.size:=hl3;have fz:=((gr6.block (w.heap.size+1) (by have:=hgrow.size;omega) (fun e=>by simp only[Option.some.injEq] at e;omega)).trans ((hgrow.block (w.heap.size+1) (by omega) (fun e=>by have:=hrow _ e.symm;omega)).trans ((hC.block (w.heap.size+1) (by have:=b3.out;omega)).trans f6.out)))
 obtain⟨y11,y12,y13,_⟩:=Zg fz;obtain⟨W9,hW9,g9,gr9,gs9⟩:=Ys (u:=.slice R4 d.1.length r4) (v:=.slice A5 (d.2.length+1) c5) fz;obtain⟨k5,k6,_,_⟩:=Zg g9;have hB1:=hBW.grown hgrow hBW.size (fun q e=>by have:=hrow q e;omega);have hB6:=hB1.grown gr6 hB1.size (fun q e=>by cases e;omega);have hB9:=hB6.grown gr9 hB6.size (fun q e=>by cases e;omega)
 have hfin:=Za (show Dsk (New w.heap.size W9) W9 (.agg #[.slice R4 d.1.length r4,.slice A5 (d.2.length+1) c5]) (d.1,d.2++[((k:Int),xs)]) from by
  have hne1:=Zbf hown' zz (by decide);have hown6:=hown'.kept gr6 (.inr (Ne.symm hne1));have hne2:=Zbf hown6 fz (by decide);have hown9:=Zdq (hown6.kept gr9 (.inr (Ne.symm hne2))) (show w.heap.size<=w3.heap.size by omega);have hsame:∀ b,w3.heap.size<=b->b<w4.heap.size->A4.map (·.block)≠some b->W9.heap[b]? = w4.heap[b]? := fun b h1 h2 h3=>by
   have hbW:b<W.heap.size:=by have:=b3.out;have:=hC.size;omega
   rw[gr9.block b (by have:=gs6;have:=hgrow.size;omega) (fun e=>by simp only[Option.some.injEq] at e;omega),gr6.block b (Qf hbW hgrow.size) (fun e=>by simp only[Option.some.injEq] at e;omega),
    hgrow.block b hbW (fun e=>h3 (by rw[<- hx3.out];exact e.symm)),hC.block b (by have:=b3.out;omega),hbb.block b h2]
  have hst9:∀ p v,Xx w3.heap.size A4 w4 p->w4.cell? p=some v->New w.heap.size W9 p/\W9.cell? p=some v:=fun p v hp hc=>by
   have hs:=hsame p.block hp.1.1 hp.1.2.1 hp.2;refine⟨⟨by have:=hp.1.1;omega,?_,(Pf hs).trans hp.1.2.2⟩,(Pp hs).trans hc⟩;have:=hp.1.2.1;have:=gs9;have:=gs6;have:=hgrow.size;have:=hC.size;have:=b3.out;omega
  refine⟨_,_,rfl,Uw Zf _ _ _ _ _ _ hst9 hx1.out,?_⟩;have e1:Xj ps++[.int .i64 (k:Int),.slice Y xs.length cy]=Xj (ps++[((k:Int),.slice Y xs.length cy)]):=by rw[Zea];rfl
  rw[e1] at hown9;have hpl:ps.length=d.2.length:=by have:=hx2.out.1;rw[Xq] at this;omega
  have hlen9:(d.2++[((k:Int),xs)]).length=d.2.length+1:=by simp
  have h9:=Zwu hown9 hlen9 fun i p x hp hx=> ?_
  ·exact h9
  rcases Pi i ps.length with hi | hi
  ·rw[Q6 hi] at hp
   rw[Q6 (by omega)] at hx;obtain⟨c1,c2,c3⟩:=hx4.out i p x hp hx;exact⟨c1,Zf _ _ _ _ _ _ hst9 c2,c3⟩
  ·rw[Q7 hi] at hp
   rw[Q7 (by omega)] at hx;have hj0:i-ps.length=0:=by
    have:=(Qh.1 hp).1;simp at this;omega
   rw[hj0] at hp;rw[<- hpl,hj0] at hx;simp at hp hx;subst hp;subst hx;refine⟨rfl,Zf.mono (Zf.grown (Zf.grown (Zf.grown hlc.out hgrow (fun q e=> ?_)) gr6 (fun q e=> ?_)) gr9 (fun q e=> ?_)) (by have:=b3.out;omega),(show (-9223372036854775808:Int)<=(k:Int) by omega),(show (k:Int)<=9223372036854775807 by omega)⟩
   ·have:=(hA4.out q (by rw[<- hx3.out];exact e)).1
    have:=b3.out;omega
   ·simp only[Option.some.injEq] at e
    have:=b3.out;omega
   ·simp only[Option.some.injEq] at e
    have:=b3.out
    omega)
 clear hx1 hx2 hx4
 go_wp2_with fail
 exact Qag (v:=.tuple #[.agg #[.slice R4 d.1.length r4,.slice A5 (d.2.length+1) c5],.int .i64 0]) (by simp[results,Tryz.results126,go_sem,k5,k6]) rfl ⟨_,rfl,hfin.out,hB9⟩}
def wrD (d:Dk) (k:Nat) (xs:List UInt8):Dk:=(d.1,d.2++[((k:Int),xs)])
theorem Z24 (d:Dk) (k:Nat) (xs:List UInt8):(wrD d k xs).2.length=d.2.length+1:=by simp[wrD]
theorem Zu9 {d:Dk}{k:Nat}{xs:List UInt8}(h:Zai d=true) (hk:k<256) (hl:xs.length=128) (hf:d.2.length<4096):Zai (wrD d k xs)=true:=by{
 obtain⟨h1,h2,h3,h4⟩:=Zdl h;refine Zw3 h1 (by rw[Z24];omega) ?_ ?_
 ·rw[Pj]
  intro x hx;obtain⟨j,hj⟩:=Q9 hx;exact decide_eq_true (h3 j x hj)
 ·rw[Pj]
  intro x hx;rcases Po.1 hx with hx | hx
  ·obtain⟨j,hj⟩:=Q9 hx
   obtain⟨a,b,c⟩:=h4 j x hj;exact Zwh a b c
  ·obtain rfl:=List.mem_singleton.1 hx
   exact Zwh (show (0:Int)<=(k:Int) by omega) (show (k:Int)<256 by omega) hl}
theorem Zqt {d:Dk}{k:Nat}{xs:List UInt8}:Z4 (wrD d k xs) k=xs:=by
 simp[wrD,Z4,Zah]
theorem Zjg {d:Dk}{k j:Nat}{xs:List UInt8}(h:j≠k):Z4 (wrD d k xs) j=Z4 d j:=by
 have:¬ (k:Int)=j:=by omega
 simp[wrD,Z4,Zah,this]
theorem Z0v (v u:Qad) (d:Dk) (k:Nat) (xs:List UInt8) (w:Qac) (h:Dsk (Old w) w v d) (hu:rBy (Old w) w [u] xs) (hm:Zai d=true) (hk:k<256) (hl:xs.length=128) (hf:d.2.length<4096) :
  Qaj Tryz.prog 126 #[v,.int .i64 k,u] w fun e w'=>∃ x,e=.returned (.tuple #[x,.int .i64 0])/\Dsk (New w.heap.size w') w' x (wrD d k xs)/\Qak w.heap.size w w':=Zy4 v u d k xs w h hu hm hk hl hf
def Zas:Dk:=([],[])
theorem Z6j (w:Qac):rBy (Old w) w [.slice none 0 0] []:=⟨none,0,rfl,by simp,by omega,fun i x h=>by simp at h⟩
def wrR (d:Dk) (n:Int) (xs:List UInt8):Dk:=if Zmm d n xs=0 then wrD d n.toNat xs else Zas
theorem Zs6 {d:Dk}{n:Int}{xs:List UInt8}(h:Zmm d n xs=0) (_:Zai d=true\/True):Zai d=true/\Xt n=true/\xs.length=128/\d.2.length<4096:=by{
 unfold Zmm at h;cases h1:Zai d with
 | false=>rw[h1] at h;simp at h
 | true =>
  obtain⟨_,h2,_⟩:=Zdl h1;rw[h1] at h;cases ht:Xt n with
  | false=>rw[ht] at h;simp at h
  | true =>
   rw[ht] at h;by_cases h8:xs.length=128
   ·by_cases h9:d.2.length=4096
    ·simp[h8,h9] at h
    ·exact⟨rfl,rfl,h8,by omega⟩
   ·simp[h8] at h}
theorem Dsk.grown {w w':Qac}{lo:Nat}{v:Qad}{d:Dk}{row:Option Nat}(h:Dsk (New lo w) w v d) (hg:w.grownBy w' row) (hr:∀ q,row=some q->q<lo):Dsk (New lo w') w' v d:=by
 obtain⟨a,b,e,h1,h2⟩:=h;exact⟨a,b,e,(Uw Zf).grown h1 hg hr,(Uw Zcq).grown h2 hg hr⟩
theorem Zky (lo:Nat) (w:Qac):Dsk (New lo w) w (.agg #[.slice none 0 0,.slice none 0 0]) Zas :=
 ⟨_,_,rfl,⟨none,0,rfl,by simp[Zas],by omega,fun i x h=>by simp[Zas] at h⟩,⟨none,0,rfl,by simp[Zas],by omega,fun i x h=>by simp[Zas] at h⟩⟩
theorem Zoo (v u:Qad) (d:Dk) (n:Int) (xs:List UInt8) (w:Qac) (h:Dsk (Old w) w v d) (hu:rBy (Old w) w [u] xs) :
  Qaj Tryz.prog 126 #[v,.int .i64 n,u] w fun e w'=>∃ A c B f,e=.returned (.tuple #[.agg #[.slice A (wrR d n xs).1.length c,.slice B (wrR d n xs).2.length f],.int .i64 (Zmm d n xs)])/\Dsk (New w.heap.size w') w' (.agg #[.slice A (wrR d n xs).1.length c,.slice B (wrR d n xs).2.length f]) (wrR d n xs)/\Qak w.heap.size w w':=by{
 by_cases he:Zmm d n xs=0
 ·obtain⟨hm,ht,h8,h9⟩:=Zs6 he (.inr trivial)
  obtain⟨k,rfl,hk⟩:=Zkm ht;refine(Z0v v u d k xs w h hu hm hk h8 h9).mono ?_;rintro e w' ⟨x,rfl,hx,hb⟩;have e1:wrR d (k:Int) xs=wrD d k xs:=by simp[wrR,he]
  obtain⟨A,c,B,f,rfl,_⟩:=id hx.open;rw[e1,he];exact⟨A,c,B,f,rfl,hx,hb⟩
 ·refine(Zvh v u d n xs w h hu he).mono ?_
  rintro e w' ⟨rfl,hb⟩;have e1:wrR d n xs=Zas:=by simp[wrR,he]
  rw[e1];exact⟨none,0,none,0,rfl,Zky _ _,hb⟩}
theorem Z4b {d:Dk}{k:Nat}{xs:List UInt8}(h:Zmm d (k:Int) xs=0):wrR d (k:Int) xs=wrD d k xs:=by simp[wrR,h]
def Zaz (t:List UInt8):Bool:=decide (t.length=256)&&(t.take 8).all (· == 0)
def Zy7 (t:List UInt8):Int:=if Zaz t then 0 else 8
theorem Zic {t:List UInt8}(h:Zaz t=true):Zy7 t=0:=by simp[Zy7,h]
theorem Zhd {t:List UInt8}(h:Zaz t=false):Zy7 t=8:=by simp[Zy7,h]
theorem Z0 {t:List UInt8}(h:Zaz t=true):t.length=256:=by
 simp only[Zaz,Ql,decide_eq_true_eq] at h;exact h.1
theorem Zjz {t:List UInt8}(h:t.length≠256):Zaz t=false:=by simp[Zaz,h]
theorem Zd8 {t:List UInt8}(h:t.length=256) (ha:∀ j,j<8->t[j]?.getD 0=0):Zaz t=true:=by
 simp only[Zaz,Ql,decide_eq_true_eq,Pj];refine⟨h,fun x hx=> ?_⟩;obtain⟨j,hj,rfl⟩:=Pu.1 hx;have hj8:j<8:=by simp at hj;omega
 have:=ha j hj8;rw[Qe (by omega)] at this
 simpa using this
theorem Zkt {t:List UInt8}(h:Zaz t=true){j:Nat}(hj:j<8):t[j]?.getD 0=0:=by
 have hl:=Z0 h;simp only[Zaz,Ql,Pj] at h;have:=h.2 (t[j]'(by omega)) (Pu.2 ⟨j,by simp;omega,by simp⟩);rw[Qe (by omega)]
 simpa using this
theorem Zvf {t:List UInt8}{k:Nat}(hk:k<8) (h:t[k]?.getD 0≠0):Zaz t=false:=by
 cases hm:Zaz t with
 | false=>rfl
 | true=>exact absurd (Zkt hm hk) h
theorem Zx5 {x:UInt8}(h:¬ (x.toNat:Int)=0):x≠0:=fun e=>h (by rw[e];rfl)
theorem Zw1 {x:UInt8}(h:(x.toNat:Int)=0):x=0:=UInt8.toNat.inj (by simpa using h)
theorem Zit {b:List UInt8}{k:Nat}(ha:∀ j,j<k->b[j]?.getD 0=0) (h:b[k]?.getD 0=0):∀ j,j<k+1->b[j]?.getD 0=0:=fun j hj=>by
 rcases Pi j k with h1 | h1
 ·exact ha j h1
 ·obtain rfl:j=k:=by omega
  exact h
theorem Un (A:Option Qae) (n c:Nat) (t:List UInt8) (hn:Hid (t.length=n)) (l1:n<=c) (m1:c<=9223372036854775807) (w:Qac) (h:Byt w w.heap.size A t) :
  Qaj Tryz.prog 122 #[.slice A n c] w fun e w'=>e=.returned (.int .i64 (Zy7 t))/\w=w':=by{
 have HY:=Za h;clear h;by_cases h256:n=256
 ·obtain⟨ad,rfl,_,hc⟩:=HY.out (by rw[hn.out];omega)
  subst h256;replace hc:=Za hc
  go_enter Tryz.func122,Tryz.ntmps122
  go_wp2_with fail
  go_loop [11] (fun i=>∃ k:Nat,k<=8/\i=.int .i64 k/\∀ j,j<k->t[j]?.getD 0=0) (fun i=>8-(intOf i).toNat)
  case atStart=>exact⟨0,by omega,rfl,fun j hj=>by omega⟩
  case round =>
   obtain⟨k,hk,rfl,ha⟩:=hrel;replace ha:=Za ha;by_cases hlt:k<8
   ·have hcell:=hc.out k (by rw[hn.out];omega)
    have hyes:=Za (fun h=>Zvf (t:=t) hlt h);have hno:=Za (fun h=>Zit (b:=t) (k:=k) ha.out h);obtain⟨x,hx⟩:∃ x,t[k]?.getD 0=x:=⟨_,rfl⟩
    rw[hx] at hcell hyes hno;replace hx:=Za hx;by_cases h0:(x.toNat:Int)=0
    ·have t0:((x.toNat:Int) != 0)=false:=by simpa using h0
     have hall:=Za (hno.out (Zw1 h0));replace h0:=Za h0
     go_wp2_with fail
     go_round
     case rel=>exact⟨k+1,by omega,by go_num,hall.out⟩
     case measure=>simp[intOf];omega
    ·have t0:((x.toNat:Int) != 0)=true:=by simpa using h0
     have hr:=Za (Zhd (hyes.out (Zx5 h0)));replace h0:=Za h0
     go_wp2_with fail
     go_ret;exact⟨Zv hr.out.symm,rfl⟩
   ·have hr:=Za (Zic (Zd8 (t:=t) hn.out fun j hj=>ha.out j (by omega)))
    go_wp2_with fail
    go_ret;exact⟨Zv hr.out.symm,rfl⟩
 ·have hr:=Za (Zhd (Zjz (t:=t) (by rw[hn.out];exact h256)))
  have i1:((n:Int) != 256)=true:=by simp;omega
  go_enter Tryz.func122,Tryz.ntmps122
  go_wp2_with fail
  go_ret;exact⟨Zv hr.out.symm,rfl⟩}
theorem Zqg (A:Option Qae) (n c:Nat) (t:List UInt8) (hn:Hid (t.length=n)) (l1:n<=c) (_:c<=9223372036854775807) (w:Qac) (h:Byt w w.heap.size A t) :
  Qaj Tryz.prog 99 #[.slice A n c] w fun e w'=>e=.returned (.bool (Zaz t))/\w=w':=by{
 have HY:=Za h;clear h;by_cases h256:n=256
 ·obtain⟨ad,rfl,_,hc⟩:=HY.out (by rw[hn.out];omega)
  subst h256;replace hc:=Za hc
  go_enter Tryz.func99,Tryz.ntmps99
  go_wp2_with fail
  go_loop [3] (fun i=>∃ k:Nat,k<=8/\i=.int .i64 k/\∀ j,j<k->t[j]?.getD 0=0) (fun i=>8-(intOf i).toNat)
  case atStart=>exact⟨0,by omega,rfl,fun j hj=>by omega⟩
  case round =>
   obtain⟨k,hk,rfl,ha⟩:=hrel;replace ha:=Za ha;by_cases hlt:k<8
   ·have hcell:=hc.out k (by rw[hn.out];omega)
    have hyes:=Za (fun h=>Zvf (t:=t) hlt h);have hno:=Za (fun h=>Zit (b:=t) (k:=k) ha.out h);obtain⟨x,hx⟩:∃ x,t[k]?.getD 0=x:=⟨_,rfl⟩
    rw[hx] at hcell hyes hno;replace hx:=Za hx;by_cases h0:(x.toNat:Int)=0
    ·have t0:((x.toNat:Int) != 0)=false:=by simpa using h0
     have hall:=Za (hno.out (Zw1 h0));replace h0:=Za h0
     go_wp2_with fail
     go_round
     case rel=>exact⟨k+1,by omega,by go_num,hall.out⟩
     case measure=>simp[intOf];omega
    ·have t0:((x.toNat:Int) != 0)=true:=by simpa using h0
     have hr:=Za (hyes.out (Zx5 h0));replace h0:=Za h0
     go_wp2_with fail
     go_ret;exact⟨Zk hr.out.symm,rfl⟩
   ·have hr:=Za (Zd8 (t:=t) hn.out fun j hj=>ha.out j (by omega))
    go_wp2_with fail
    go_ret;exact⟨Zk hr.out.symm,rfl⟩
 ·have hr:=Za (Zjz (t:=t) (by rw[hn.out];exact h256))
  have i1:((n:Int) != 256)=true:=by simp;omega
  go_enter Tryz.func99,Tryz.ntmps99
  go_wp2_with fail
  go_ret;exact⟨Zk hr.out.symm,rfl⟩}
theorem Zma {P:Program}{w:Qac}(base:Nat) (t ty e:Qaf) (i:TypeInfo) (z:Qad) (size bytes:Nat) (ht:P.underlying t=some (.slice e)) (hi:P.info? e=some i) (hz:i.zero=some z)
  (hsize:i.size=size) (hby:i.bytes=bytes) (hzs:z.cells.size=size) (hsz:0<size)
  (v:Qad) (n:Nat) (xs:List Qad) (hown:w.ownsRow base e size v n xs)
  (A:Option Qae) (m c:Nat) (news:List Qad) (hl:news.length=m*size) (hnews:∀ j u,news[j]? = some u->∃ ad,A=some ad/\w.cell? (ad.add j)=some u) (h1:∀ u∈news,u.oneCell'=true)
  (h63:n+m<=maxLen) (hbytes:(n+m)*bytes<=140737488355328) (hbase:base<=w.heap.size) :
  ∃ v' w',(Qi #[t,t] ty #[v,.slice A m c]).run P w=.ok v' w'/\w'.ownsRow base e size v' (n+m) (xs++news)/\w.grownBy w' v.ownBlock/\Qak base w w':=by{
 rcases A with _ | ad
 ·have hx:news=[]:=by
   cases news with
   | nil=>rfl
   | cons a r =>
    obtain⟨_,e,_⟩:=hnews 0 a rfl;cases e
  subst hx;obtain rfl:m=0:=by
   rcases Pk m with h | h
   ·exact h
   ·have:=Nat.mul_pos h hsz
    simp at hl;omega
  refine⟨v,w,?_,by simpa using hown,Yh _ _,Qa _ _⟩;rcases hown.2 with ⟨rfl,rfl⟩ | ⟨g,cap,cur,rfl,_,_,hnc,_⟩
  ·simp[Qi,run_underlying ht,sizeOf,typeInfo,hi,Pv,Pw]
  ·simp[Qi,run_underlying ht,sizeOf,typeInfo,hi,Pv,Pw,hnc,storeCells]
 ·obtain⟨v',w',hr,h2,h3,_,_⟩:=run_append_own_at (P:=P) w base t ty e i z size bytes ht hi hz hsize hby hzs hsz v n xs hown ad m c news hl (fun j u hj=>by
   obtain⟨_,e,h⟩:=hnews j u hj;cases e
   exact h) h1 h63 hbytes hbase
  exact⟨v',w',hr,h2,h3,(Qa base w).grown h3 hbase (fun k hk=>(hown.lt k hk).1)⟩}
def Zzi (w0 w w':Qac) (p:Qae):Prop:=p.block<w0.heap.size\/(w.heap.size<=p.block/\p.block<w'.heap.size)
theorem Ztu (v u:Qad) (d:Dk) (k:Nat) (xs:List UInt8) (w0 w:Qac) (hW:Qak w0.heap.size w0 w) (h:Dsk (Old w0) w0 v d) (hu:rBy (Old w0) w0 [u] xs) (hf:d.2.length<4096) (hk:k<256) :
  Qaj Tryz.prog 187 #[v,.int .i64 k,u] w fun e w'=>∃ x,e=.returned x/\Dsk (Zzi w0 w w') w' x (wrD d k xs)/\Qak w.heap.size w w':=by{
 obtain⟨i0,hi,hz0,hz1,hz2⟩:=info_parts Zed;obtain⟨A,c,B,c',rfl,l1,m1,l2,m2,_,hB⟩:=h.open;obtain⟨E,ce,rfl,lE,mE,_⟩:=id (Zm hu);obtain⟨ps,hps,hpc,hp1,hpx⟩:=Zm5 hB;have hrows:=h.parts.1;have hub:=Za hu;have hpx':=Za hpx;clear hB h hu hpx;obtain⟨n,hn⟩:∃ n,d.1.length=n:=⟨_,rfl⟩
 obtain⟨m,hm⟩:∃ m,d.2.length=m:=⟨_,rfl⟩
 rw[hn] at l1 hrows ⊢;replace hrows:=Za hrows;rw[hm] at l2 hps hf ⊢;replace hn:=Za hn;replace hm:=Za hm;obtain⟨w2,hw2,f1,f2,f3,hsz,hB2⟩:=Zii w (.slice A n c) (.slice B m c') #[.slice none 0 0,.slice none 0 0] 26;obtain⟨w3,hw3,g3,hs3,hB3⟩:=Zy w2 (.slice A n c) (.slice none 0 0) 26;have hB23:=hB2.trans (hB3.mono hB2.size);have hW3:=hW.trans (hB23.mono hW.size);obtain⟨v1,w4,hr1,own1,gr1,ba1⟩:=Zma (P:=Tryz.prog) (w:=w3) w3.heap.size 24 24 47 i0 (.agg #[.int .i64 0,.slice none 0 0]) 2 32 Tryz.underlying24 hi hz0 hz1 hz2 rfl (by decide) (.slice none 0 0) 0 [] (Qj _ _ _ _) B m c' (Xj ps) (by rw[Xq,hps])
  (fun j u hj=>by
   obtain⟨ad,e,ho,hc⟩:=hpc j u hj
   exact⟨ad,e,(hW3.cell (p:=ad.add j) (by rw[Zh];exact ho)).trans hc⟩) hp1 (by unfold maxLen;omega) (by omega) (Qb _)
 rw[Qp,Qk] at own1;obtain⟨A1,c1,rfl,o1,o2,_,_⟩:=Yr own1;have g4:=(ba1.block w2.heap.size (by omega)).trans g3;obtain⟨w5,hw5,g5,gr5,gs5⟩:=Zf3 (u:=.slice A1 m c1) g4;have own5:=own1.kept gr5 (.inr (fun e=>by have:=(own1.lt _ e).1;omega));obtain⟨w6,hw6,g6,hs6,hB6⟩:=Zy w5 (.int .i64 k) (.slice E xs.length ce) 47;have own6:=Zr own5 hB6;have s4:=ba1.size;obtain⟨v2,w7,hr2,own7,gr7,ba2⟩:=Zma (P:=Tryz.prog) (w:=w6) w3.heap.size 24 24 47 i0 (.agg #[.int .i64 0,.slice none 0 0]) 2 32 Tryz.underlying24 hi hz0 hz1 hz2 rfl (by decide) (.slice A1 m c1) m (Xj ps) own6 (some ⟨w5.heap.size,0,none⟩) 1 1 [.int .i64 (k:Int),.slice E xs.length ce] rfl
  (fun j u hj=>⟨_,rfl,Pc (cs:=#[.int .i64 (k:Int),.slice E xs.length ce]) g6 j u hj⟩) (fun u hu=>by
   simp at hu
   rcases hu with rfl | rfl <;> rfl) (by unfold maxLen;omega) (by omega) (by omega)
 obtain⟨A2,c2,rfl,q1,q2,_,_⟩:=Yr own7;have g7:=(ba2.block w2.heap.size (by omega)).trans ((hB6.block w2.heap.size (by omega)).trans g5);obtain⟨w8,hw8,g8,gr8,gs8⟩:=Zf3 (u:=.slice A2 (m+1) c2) g7;have s7:=ba2.size;have b8:w8.heap[w.heap.size+1]? = some (.cells #[.slice none 0 0,.slice none 0 0] 26 (0,0)) :=
  (gr8.block _ (by omega) (fun e=>by simp only[Option.some.injEq] at e;omega)).trans ((ba2.block _ (by omega)).trans ((hB6.block _ (by omega)).trans ((gr5.block _ (by omega) (fun e=>by simp only[Option.some.injEq] at e;omega)).trans ((ba1.block _ (by omega)).trans ((hB3.block _ (by omega)).trans f3)))))
 obtain⟨w9,hw9,g9,gr9,gs9⟩:=Ys (u:=.slice A n c) (v:=.slice A2 (m+1) c2) b8;obtain⟨k5,k6,_,_⟩:=Zg g9;have own9:=(own7.kept gr8 (.inr (fun e=>by have:=(own7.lt _ e).1;omega))).kept gr9 (.inr (fun e=>by have:=(own7.lt _ e).1;omega));have B4:Qak w.heap.size w w4:=hB23.trans (ba1.mono hB23.size);have B5:=B4.grown gr5 B4.size (fun q e=>by cases e;omega);have B6:=B5.trans (hB6.mono B5.size);have B7:Qak w.heap.size w w7:=B6.trans (ba2.mono hB23.size);have B8:=B7.grown gr8 B7.size (fun q e=>by cases e;omega);have B9:=B8.grown gr9 B8.size (fun q e=>by cases e;omega);have W9:=hW.trans (B9.mono hW.size);have mp:∀ p v,Old w0 p->w0.cell? p=some v->Zzi w0 w w9 p/\w9.cell? p=some v:=fun p v hp hc=>⟨.inl hp,(W9.cell hp).trans hc⟩
 have hfin:=Za (show Dsk (Zzi w0 w w9) w9 (.agg #[.slice A n c,.slice A2 (m+1) c2]) (wrD d k xs) from by
  refine⟨_,_,rfl,Uw Zf _ _ _ _ _ _ mp hrows.out,?_⟩;have e1:Xj ps++[.int .i64 (k:Int),.slice E xs.length ce]=Xj (ps++[((k:Int),.slice E xs.length ce)]):=by rw[Zea];rfl
  rw[e1] at own9;refine Zsw (fun p _ hp=>.inr ⟨Qd (by omega) hp.1,hp.2.1⟩) own9 (by simp[wrD,hm.out]) (fun i p x hp hx=> ?_);rcases Pi i m with hi | hi
  ·rw[Q6 (by omega)] at hp
   rw[show (wrD d k xs).2=d.2++[((k:Int),xs)] from rfl,Q6 (by rw[hm.out];exact hi)] at hx;obtain⟨e,h1,h2,h3⟩:=hpx'.out i p x hp hx;exact⟨e,Zf _ _ _ _ _ _ mp h1,h2,h3⟩
  ·rw[Q7 (by omega)] at hp
   rw[show (wrD d k xs).2=d.2++[((k:Int),xs)] from rfl,Q7 (by rw[hm.out];exact hi)] at hx;have hi0:i-ps.length=0:=by
    have:=(Qh.1 hp).1;simp at this;omega
   rw[hi0] at hp;rw[show i-d.2.length=0 by have:=hm.out;omega] at hx;cases hp;cases hx
   exact⟨rfl,Zf _ _ _ _ _ _ mp hub.out,by omega,by omega⟩)
 have H1:=Za hr1;have H2:=Za hr2;obtain⟨z1,z2,z3,_⟩:=Zg g4;obtain⟨z4,z5,z6,_⟩:=Zg g5;obtain⟨y1,y2,y3,_⟩:=Zg g7;obtain⟨y4,y5,_,_⟩:=Zg g8;obtain⟨x1,x2,x3,_⟩:=Zg b8;obtain⟨x4,x5,_,_⟩:=Zg g3;have f4:=(hB3.cell (p:=⟨w.heap.size,1,none⟩) (show w.heap.size<w2.heap.size by omega)).trans f2;replace B9:=Za B9;replace W9:=Za W9;replace mp:=Za mp;clear hW hW3 hr1 hr2 own1 own5 own6 own7 own9 gr1 gr5 gr7 gr8 gr9 B4 B5 B6 B7 B8 hpc hp1 hps g3 g4 g5 g6 g7 g8 b8 ba1 ba2 hB6 hB23 hB2 hB3 f3;replace hsz:=Za hsz;replace hs3:=Za hs3;replace hs6:=Za hs6;replace gs5:=Za gs5;replace gs8:=Za gs8;replace gs9:=Za gs9;clear s4 s7;replace hw3:=Za hw3
 go_enter Tryz.func187,Tryz.ntmps187
 go_upto_region 2 with fail
 rw[hw3.out];clear hw3 hw2 x4
 go_wp2_with (first
  | (at_builtin;refine Zi rfl _ _ _ rfl rfl rfl H1.out ?_;clear H1)
  | (at_builtin;refine Zi rfl _ _ _ rfl rfl rfl H2.out ?_;clear H2))
 trace_state
 exact Qag (v:=.agg #[.slice A n c,.slice A2 (m+1) c2]) (by simp[results,Tryz.results187,go_sem,k5,k6]) rfl ⟨_,rfl,hfin.out,B9.out⟩}
theorem Znh {α:Type}{xs:List α}{j:Nat}{x:α}(h:xs[j]? = some x):xs.take (j+1)=xs.take j++[x]:=by
 rw[Qq,h];rfl
theorem Zy9 {ws:List Wt}{b:List UInt8}{n:Int}{j:Nat}{x:Wt}(h:ws[j]? = some x) (e:x.1=n):Zah (ws.take (j+1)) b n=x.2:=by
 rw[Znh h,Zc0];simp[Zah,e]
theorem Zv0 {ws:List Wt}{b:List UInt8}{n:Int}{j:Nat}{x:Wt}(h:ws[j]? = some x) (e:x.1≠n):Zah (ws.take (j+1)) b n=Zah (ws.take j) b n:=by
 rw[Znh h,Zc0];simp[Zah,e]
theorem Zov (v:Qad) (d:Dk) (k:Nat) (hk:k<d.1.length) (w:Qac) (h:Dsk (Old w) w v d) :
  Qaj Tryz.prog 102 #[v,.int .i64 k] w fun e W'=>∃ u,e=.returned u/\rBy (Old w) w [u] (Z4 d k)/\Qak w.heap.size w W':=by{
 obtain⟨A,c,B,c',rfl,l1,m1,l2,m2,hA,hB⟩:=h.open;obtain⟨b,hb⟩:∃ b,d.1[k]? = some b:=⟨_,Qe hk⟩
 obtain⟨ad,bv,rfl,ho1,hc1,hby1⟩:=hA k b hb;have HB:=Za hB;have hsd:Hid (Z4 d k=Zah d.2 b k):=Za (by unfold Z4;rw[hb];rfl);replace hby1:=Za hby1;clear hA hB h hb;obtain⟨n,hn⟩:∃ n,d.1.length=n:=⟨_,rfl⟩
 obtain⟨m,hm⟩:∃ m,d.2.length=m:=⟨_,rfl⟩
 rw[hn] at l1 hk ⊢;rw[hm] at l2 ⊢;replace hn:=Za hn;replace hm:=Za hm;obtain⟨w0,hw0,f1,f2,f3,hB1,_⟩:=Zld w (.slice (some ad) n c) (.slice B m c');have g1:=(hB1.cell ho1).trans hc1;have lt0:w.heap.size<w0.heap.size:=by omega
 clear hc1;replace f3:=Za f3
 go_enter Tryz.func102,Tryz.ntmps102
 go_upto_region 1 with fail
 rw[<- hw0];clear hw0
 go_wp2_with fail
 go_loopw [5] (fun i wr=>∃ j:Nat,j<=m/\i=.int .i64 ((j:Int)-1)/\Zah d.2 b k=Zah (d.2.take j) b k/\wr=w0) (fun i _=>(intOf i+1).toNat)
 case atStart=>exact⟨m,by omega,by go_num,by rw[Qg (by rw[hm.out];omega)],rfl⟩
 case round =>
  obtain⟨j,hj,rfl,hs,rfl⟩:=hrel;replace hs:=Za hs
  match j with
  | 0 =>
   have hfin:Hid (Z4 d k=b):=Za (by rw[hsd.out,hs.out];rfl);have t1:¬ (0:Int)<=((0:Nat):Int)-1:=by omega
   have i1:(0:Int)<=(k:Int):=by omega
   have i2:(k:Int)<(n:Int):=by omega
   go_wp2_with fail
   go_ret;exact⟨_,rfl,by rw[hfin.out];exact hby1.out,hB1⟩
  | j+1 =>
   obtain⟨x,hx⟩:∃ x,d.2[j]? = some x:=⟨_,Qe (by rw[hm.out];omega)⟩
   obtain⟨bd,u,rfl,hok,hok',hc,hc',hby,_,_⟩:=HB.out j x hx;replace hx:=Za hx;replace hc:=(hB1.cell hok).trans hc;replace hc':=(hB1.cell hok').trans hc';rw[Vn] at hc';replace hby:=Za hby
   have ej:(((j+1:Nat):Int)-1)=(j:Int):=by omega
   rw[ej];have i1:(0:Int)<=(j:Int):=by omega
   have i2:(j:Int)<(m:Int):=by omega
   have i3:j<m:=by omega
   by_cases e:x.1=k
   ·have he:(x.1==(k:Int))=true:=by simpa using e
    have hfin:Hid (Z4 d k=x.2):=Za (by rw[hsd.out,hs.out];exact Zy9 hx.out e);clear e
    go_wp2_with fail
    go_ret;exact⟨_,rfl,by rw[hfin.out];exact hby.out,hB1⟩
   ·have he:(x.1==(k:Int))=false:=by simpa using e
    replace e:=Za e
    go_wp2_with fail
    go_roundw
    case rel=>exact⟨j,by omega,by go_num,by rw[hs.out];exact Zv0 hx.out e.out,by first | rfl | trivial⟩
    case measure=>simp[intOf]}
def rdX (d:Dk) (n:Int):List UInt8:=if V0 d n=0 then Z4 d n.toNat else []
theorem Zfi {P:Program}{w:Qac}(base:Nat) (t ty e:Qaf) (i:TypeInfo) (z:Qad) (size bytes:Nat) (ht:P.underlying t=some (.slice e)) (hi:P.info? e=some i) (hz:i.zero=some z)
  (hsize:i.size=size) (hby:i.bytes=bytes) (hzs:z.cells.size=size) (hsz:0<size)
  (v:Qad) (n:Nat) (xs:List Qad) (hown:w.ownsRow base e size v n xs)
  (ad:Qae) (m c:Nat) (news:List Qad) (hl:news.length=m*size) (hnews:∀ j u,news[j]? = some u->w.cell? (ad.add j)=some u) (h1:∀ u∈news,u.oneCell'=true)
  (h63:n+m<=maxLen) (hbytes:(n+m)*bytes<=140737488355328) (hbase:base<=w.heap.size) :
  ∃ v' w',(Qi #[t,t] ty #[v,.slice (some ad) m c]).run P w=.ok v' w'/\w'.ownsRow base e size v' (n+m) (xs++news)/\w.grownBy w' v.ownBlock/\Qak base w w'/\(v'.ownBlock=v.ownBlock\/v'.ownBlock=some w.heap.size):=by
 obtain⟨v',w',hr,h2,h3,_,h5⟩:=run_append_own_at (P:=P) w base t ty e i z size bytes ht hi hz hsize hby hzs hsz v n xs hown ad m c news hl hnews h1 h63 hbytes hbase;exact⟨v',w',hr,h2,h3,(Qa base w).grown h3 hbase (fun k hk=>(hown.lt k hk).1),h5⟩
theorem Xx.below {lo:Nat}{A:Option Qae}{w w':Qac}{p:Qae}{v:Qad}(hb:Qak w.heap.size w w') (hp:Xx lo A w p) (hc:w.cell? p=some v):Xx lo A w' p/\w'.cell? p=some v :=
 ⟨⟨⟨hp.1.1,Qf hp.1.2.1 hb.size,(hb.frozen hp.1.2.1).trans hp.1.2.2⟩,hp.2⟩,(hb.cell hp.1.2.1).trans hc⟩
theorem Xx.grown {lo:Nat}{A:Option Qae}{w w':Qac}{p:Qae}{v:Qad}{row:Option Nat}(hg:w.grownBy w' row) (hr:∀ q,row=some q->q<lo) (hp:Xx lo A w p) (hc:w.cell? p=some v):Xx lo A w' p/\w'.cell? p=some v:=by
 have hb:=hg.block p.block hp.1.2.1 (fun e=>by have:=hr _ e.symm;have:=hp.1.1;omega);exact⟨⟨⟨hp.1.1,Qf hp.1.2.1 hg.size,(Pf hb).trans hp.1.2.2⟩,hp.2⟩,(Pp hb).trans hc⟩
def Ya {α:Type}(R:Rel α) (size:Nat) (t:Qaf) (lo:Nat) (w:Qac) (A:Option Qae) (c:Nat) (xs:List α):Prop :=
 ∃ cs,w.ownsRow lo t size (.slice A xs.length c) xs.length cs/\∀ i x,xs[i]? = some x->∃ vs,vs.length=size/\(∀ j u,vs[j]? = some u->cs[i*size+j]? = some u)/\R (Xx lo A w) w vs x
section
variable {α : Type}{R : Rel α}{size : Nat}{t : Qaf}{lo : Nat}{w w' : Qac}{A : Option Qae}{c : Nat}{xs : List α}
theorem Ya.nil (R:Rel α) (size:Nat) (t:Qaf) (lo:Nat) (w:Qac):Ya R size t lo w none 0 []:=⟨[],Qj _ _ _ _,fun i x h=>by simp at h⟩
theorem Ya.below (hR:Zfc R) (h:Ya R size t lo w A c xs) (hb:Qak w.heap.size w w'):Ya R size t lo w' A c xs:=by
 obtain⟨cs,h1,h2⟩:=h;refine⟨cs,Zr h1 hb,fun i x hi=> ?_⟩;obtain⟨vs,e1,e2,e3⟩:=h2 i x hi;exact⟨vs,e1,e2,hR _ _ _ _ _ _ (fun p v hp hc=>Xx.below hb hp hc) e3⟩
theorem Ya.grown (hR:Zfc R) (h:Ya R size t lo w A c xs){row:Option Nat}(hg:w.grownBy w' row) (hr:∀ q,row=some q->q<lo):Ya R size t lo w' A c xs:=by{
 obtain⟨cs,h1,h2⟩:=h;have hk:(Value.slice A xs.length c).ownBlock=none\/(Value.slice A xs.length c).ownBlock≠row:=by
  rcases row with _ | q
  ·by_cases e:(Value.slice A xs.length c).ownBlock=none
   ·exact .inl e
   ·exact .inr e
  ·refine .inr fun e=> ?_
   have:=(h1.lt q e).1;have:=hr q rfl;omega
 have h1':w'.ownsRow lo t size (.slice A xs.length c) xs.length cs:=h1.kept hg hk;refine⟨cs,h1',fun i x hi=> ?_⟩;obtain⟨vs,e1,e2,e3⟩:=h2 i x hi;exact⟨vs,e1,e2,hR _ _ _ _ _ _ (fun p v hp hc=>Xx.grown hg hr hp hc) e3⟩}
theorem Ya.low (hR:Zfc R) (h:Ya R size t lo w A c xs){lo':Nat}(hl:lo'<=lo):Ya R size t lo' w A c xs:=by
 obtain⟨cs,h1,h2⟩:=h;refine⟨cs,Zdq h1 hl,fun i x hi=> ?_⟩;obtain⟨vs,e1,e2,e3⟩:=h2 i x hi;exact⟨vs,e1,e2,hR _ _ _ _ _ _ (fun p v hp hc=>⟨⟨⟨Qd hl hp.1.1,hp.1.2⟩,hp.2⟩,hc⟩) e3⟩
theorem Ya.rel (hR:Zfc R) (h:Ya R size t lo w A c xs):rSl size R (New lo w) w [.slice A xs.length c] xs:=by
 obtain⟨cs,h1,h2⟩:=h;refine Z11 h1 rfl fun i x hi=> ?_
 obtain⟨vs,e1,e2,e3⟩:=h2 i x hi;exact⟨vs,e1,e2,hR _ _ _ _ _ _ (fun p v hp hc=>⟨hp.1,hc⟩) e3⟩
theorem Ya.form (h:Ya R size t lo w A c xs):xs.length<=c/\c<=9223372036854775807/\(Value.slice A xs.length c).ownBlock=A.map (·.block)/\(0<xs.length->∃ ad,A=some ad):=by
 obtain⟨cs,h1,_⟩:=h;obtain⟨A',c',e,h2,h3,h4,h5⟩:=Yr h1;cases e;exact⟨h2,h3,h4,h5⟩
theorem Ya.push {P:Program}(hR:Zfc R) (h:Ya R size t lo w A c xs) (st ty:Qaf) (i:TypeInfo) (z:Qad) (bytes:Nat) (ht:P.underlying st=some (.slice t)) (hi:P.info? t=some i) (hz:i.zero=some z)
  (hsize:i.size=size) (hby:i.bytes=bytes) (hzs:z.cells.size=size) (hsz:0<size) (ad:Qae) (m:Nat) (news:List Qad) (x:α) (hl:news.length=size) (hnews:∀ j u,news[j]? = some u->w.cell? (ad.add j)=some u) (h1:∀ u∈news,u.oneCell'=true)
  (h63:xs.length+1<=maxLen) (hbytes:(xs.length+1)*bytes<=140737488355328) (hbase:lo<=w.heap.size) (hx:R (Xx lo A w) w news x) :
  ∃ A' c' w',(Qi #[st,st] ty #[.slice A xs.length c,.slice (some ad) 1 m]).run P w=.ok (.slice A' (xs.length+1) c') w'/\Ya R size t lo w' A' c' (xs++[x])/\w.grownBy w' (A.map (·.block))/\Qak lo w w':=by{
 obtain⟨cs,ho,hcs⟩:=h;obtain⟨A1,c1,e,_,_,e4,_⟩:=Yr ho;cases e;obtain⟨v',w',hr,o1,g1,b1,k1⟩:=Zfi (P:=P) (w:=w) lo st ty t i z size bytes ht hi hz hsize hby hzs hsz _ _ cs ho ad 1 m news (by omega) hnews h1 h63 hbytes hbase;obtain⟨A2,c2,rfl,_,_,e5,_⟩:=Yr o1;rw[e4] at g1 k1;rw[e5] at k1;have mp:∀ p v,Xx lo A w p->w.cell? p=some v->Xx lo A2 w' p/\w'.cell? p=some v:=fun p v hp hc=>by
  have hb:=g1.block p.block hp.1.2.1 (fun e=>hp.2 e.symm);refine⟨⟨⟨hp.1.1,Qf hp.1.2.1 g1.size,(Pf hb).trans hp.1.2.2⟩,fun e=> ?_⟩,(Pp hb).trans hc⟩;rcases k1 with k | k
  ·exact hp.2 (k ▸ e)
  ·rw[k] at e
   simp only[Option.some.injEq] at e;have:=hp.1.2.1;omega
 refine⟨A2,c2,w',hr,⟨cs++news,by rw[Px];exact o1,fun j y hj=> ?_⟩,g1,b1⟩;have hcl:cs.length=xs.length*size:=ho.1;rcases Pi j xs.length with hjl | hjl
 ·rw[Q6 hjl] at hj
  obtain⟨vs,e1,e2,e3⟩:=hcs j y hj;refine⟨vs,e1,fun k u hk=> ?_,hR _ _ _ _ _ _ mp e3⟩;have hcu:=e2 k u hk;rw[Q6 (Qh.1 hcu).1];exact hcu
 ·rw[Q7 hjl] at hj
  have hj0:j=xs.length:=by
   have:=(Qh.1 hj).1;simp at this;omega
  subst hj0;simp at hj;subst hj;refine⟨news,hl,fun k u hk=> ?_,hR _ _ _ _ _ _ mp hx⟩;rw[Q7 (by omega),hcl,Nat.add_sub_cancel_left];exact hk}
end
theorem Zet (v:Qad) (xs:List UInt8) (w:Qac) (hbig:xs.length<=1000000000) (h:rBy (Old w) w [v] xs) :
  ∃ v' w',(Qi #[27,27] 27 #[.slice none 0 0,v]).run Tryz.prog w=.ok v' w'/\rBy (New w.heap.size w') w' [v'] xs/\Qak w.heap.size w w':=by
 obtain⟨i0,hi,hz0,hz1,hz2⟩:=info_parts Zda;obtain⟨A,cap,rfl,_,_,hb⟩:=Yq (B:=w.heap.size) (fun p hp=>hp) h;obtain⟨v',w',hr,ho,hB⟩:=Zf6 (P:=Tryz.prog) (w:=w) w.heap.size 27 27 5 i0 Tryz.underlying27 hi hz0 hz1 hz2 (.slice none 0 0) 0 [] (Qj _ _ _ _) w.heap.size A xs.length cap xs hb rfl (by omega) (Qb _);rw[Qp,Qk] at ho;exact⟨v',w',hr,Zal ho,hB⟩
theorem U9 {P:Program}{w w':Qac}{o:Oper}{a:Act}{R:Qad->Qac->Prop}(s x:Operand) (t:Qaf)
  (ho:o.op=.call { callee:=.builtin .append,args:=#[s,x],argTypes:=#[t,t] }) {v u v':Qad} (hs:a.eval s=v) (hx:a.eval x=u)
  (hrun:(Qi #[t,t] o.type #[v,u]).run P w=.ok v' w') (h:R v' w'):doesUpon P R ((execOp a.eval o).run P w):=by
 unfold execOp;simp only[ho,resolve,invoke,builtin,Sem.run_bind,Sem.run_pure,Result.andThen_ok,Py,Pq,Pr,hs,hx,hrun];exact h
theorem X6 {a b c:Qac}{row:Option Nat}(h:a.grownBy b row) (h':Qak a.heap.size b c):a.grownBy c row :=
 ⟨h'.os.trans h.os,h'.tape.trans h.tape,h'.output.trans h.output,Qd h.size h'.size,fun k hk hn=>(h'.block k hk).trans (h.block k hk hn)⟩
theorem Zyg {w:Qac}{lo:Nat}{A:Option Qae}{c:Nat}{xss:List (List UInt8)}(h:Ya rBy 1 27 lo w A c xss) (g:Nat) (u:Qad) (m:Nat) (x:List UInt8) (hg:w.heap[g]? = some (.cells #[u] 27 (0,0))) (hs:xss.length<100000) (hbase:lo<=w.heap.size) (hx:rBy (Xx lo A w) w [u] x) :
  ∃ A' c' w',(Qi #[23,23] 23 #[.slice A xss.length c,.slice (some ⟨g,0,none⟩) 1 m]).run Tryz.prog w=.ok (.slice A' (xss.length+1) c') w'/\Ya rBy 1 27 lo w' A' c' (xss++[x])/\w.grownBy w' (A.map (·.block))/\Qak lo w w':=by{
 obtain⟨i0,hi,hz0,hz1,hz2⟩:=info_parts Zjv;obtain⟨E,ce,rfl,_⟩:=id (Zm hx)
 exact Ya.push Zf h 23 23 i0 (.slice none 0 0) 24 Tryz.underlying23 hi hz0 hz1 hz2 rfl (by decide) ⟨g,0,none⟩ m _ x rfl (Pc (cs:=#[.slice E x.length ce]) hg) (fun u hu=>by
  simp at hu;subst hu
  rfl) (by unfold maxLen;omega) (by omega) hbase hx}
theorem Z01 {w:Qac}{lo:Nat}{A:Option Qae}{c:Nat}{ws:List Wt}(h:Ya rWt 2 47 lo w A c ws) (g:Nat) (n:Int) (u:Qad) (m:Nat) (x:List UInt8) (hg:w.heap[g]? = some (.cells #[.int .i64 n,u] 47 (0,0))) (hs:ws.length<100000) (hbase:lo<=w.heap.size) (h1 : -9223372036854775808<=n) (h2:n<=9223372036854775807) (hx:rBy (Xx lo A w) w [u] x) :
  ∃ A' c' w',(Qi #[24,24] 24 #[.slice A ws.length c,.slice (some ⟨g,0,none⟩) 1 m]).run Tryz.prog w=.ok (.slice A' (ws.length+1) c') w'/\Ya rWt 2 47 lo w' A' c' (ws++[(n,x)])/\w.grownBy w' (A.map (·.block))/\Qak lo w w':=by{
 obtain⟨i0,hi,hz0,hz1,hz2⟩:=info_parts Zed;obtain⟨E,ce,rfl,_⟩:=id (Zm hx)
 exact Ya.push Zcq h 24 24 i0 (.agg #[.int .i64 0,.slice none 0 0]) 32 Tryz.underlying24 hi hz0 hz1 hz2 rfl (by decide) ⟨g,0,none⟩ m _ (n,x) rfl (Pc (cs:=#[.int .i64 n,.slice E x.length ce]) hg) (fun u hu=>by
  simp at hu
  rcases hu with rfl | rfl <;> rfl) (by unfold maxLen;omega) (by omega) hbase (Zio h1 h2 hx)}
theorem Ya.but {α:Type}{R:Rel α}{size:Nat}{t:Qaf}{lo lo':Nat}{w w':Qac}{A:Option Qae}{c:Nat}{xs:List α}(h:Ya R size t lo w A c xs){p:Qae}(hl:w.heap.size<=lo') (h2:lo<=lo') (hp:New lo' w' p):Xx lo A w' p :=
 ⟨⟨Qd h2 hp.1,hp.2⟩,fun e=>by
  obtain⟨cs,hcs,_⟩:=h;obtain⟨_,_,e0,_,_,e4,_⟩:=Yr hcs;cases e0;have:=(hcs.lt _ (by rw[e4];exact e)).2;have:=hp.1
  omega⟩
def Z4x (w:Qac) (A:Option Qae):Prop:=∀ b,A.map (·.block)=some b->b<w.heap.size/\∀ cs fr,w.heap[b]? ≠ some (.cells cs 26 fr)
theorem Ya.far {α:Type}{R:Rel α}{size:Nat}{t:Qaf}{lo:Nat}{w:Qac}{A:Option Qae}{c:Nat}{xs:List α}(h:Ya R size t lo w A c xs) (ht:t≠26):Z4x w A:=fun b hb=>by
 obtain⟨cs,h1,_⟩:=h;cases A with
 | none=>simp at hb
 | some ad =>
  simp only[Option.map_some,Option.some.injEq] at hb;subst hb;exact⟨(Vc h1).2.1,fun cs fr e=>Zbf h1 e ht rfl⟩
theorem Zpa (v:Qad) (d:Dk) (w:Qac) (hs:Zpu d) (h:Dsk (Old w) w v d):Qaj Tryz.prog 31 #[v] w fun e w'=>∃ X xc Y yc,e=.returned (.agg #[.slice X d.1.length xc,.slice Y d.2.length yc])/\Dsk (New w.heap.size w') w' (.agg #[.slice X d.1.length xc,.slice Y d.2.length yc]) d/\Z4x w' X/\Z4x w' Y/\Qak w.heap.size w w':=by{
 obtain⟨A,c,B,c',rfl,l1,m1,l2,m2,hA,hB⟩:=h.open;have p1:=hs.rows;have p2:=hs.waits;have HS:=Za hs;have HA:=Za hA;have HB:=Za hB;clear hA hB h hs;obtain⟨n,hn⟩:∃ n,d.1.length=n:=⟨_,rfl⟩
 obtain⟨m,hm⟩:∃ m,d.2.length=m:=⟨_,rfl⟩
 rw[hn] at l1 p1 ⊢;rw[hm] at l2 p2 ⊢;replace hn:=Za hn;replace hm:=Za hm;obtain⟨w2,hw2,f1,f2,f3,hsz,hB2⟩:=Zii w (.slice A n c) (.slice B m c') #[.slice none 0 0,.slice none 0 0] 26;obtain⟨w3,hw3,g3,hs3,hB3⟩:=Zy w2 (.slice none 0 0) (.slice none 0 0) 26;have S5:Hid (w.heap.size+2=w2.heap.size/\w2.heap.size+1=w3.heap.size):=Za ⟨by omega,by omega⟩;replace hsz:=Za hsz;replace hs3:=Za hs3;replace g3:=Za g3;replace f3:=Za f3;replace hw3:=Za hw3;have hB2':=Za hB2;have lt0:w.heap.size<w2.heap.size:=by have:=S5.out;omega
 clear hB2
 go_enter Tryz.func31,Tryz.ntmps31
 go_upto_region 2 with fail
 rw[hw3.out];clear hw3 hw2
 go_wp2_with fail
 go_loopw [4] (fun i wr=>∃ k:Nat,k<=n/\i=.int .i64 k/\Qak w2.heap.size w2 wr/\∃ (A1:Option Qae) (c1:Nat),wr.heap[w2.heap.size]? = some (.cells #[.slice A1 k c1,.slice none 0 0] 26 (0,0)) /\
   Ya rBy 1 27 w3.heap.size wr A1 c1 (d.1.take k)) (fun i _=>n-(intOf i).toNat)
 case atStart=>exact⟨0,by omega,rfl,hB3,none,0,g3.out,Ya.nil _ _ _ _ _⟩
 case round =>
  obtain⟨k,hk,rfl,hb,A1,c1,hz,hrow⟩:=hrel;obtain⟨r2,r3,r4,r5⟩:=Zg hz;have r1:=(hb.cell (p:=⟨w.heap.size,0,none⟩) lt0).trans f1;have htl:=Za (show (d.1.take k).length=k by rw[Pz,hn.out];omega);replace hrow:=Za hrow;by_cases hlt:k<n
  ·obtain⟨x,hx⟩:∃ x,d.1[k]? = some x:=⟨_,Qe (by rw[hn.out];exact hlt)⟩
   obtain⟨ad,u,rfl,hok,hc,hby⟩:=HA.out k x hx;have hWr:Qak w.heap.size w wr:=hB2'.out.trans (hb.mono hB2'.out.size);have hcr:=(hWr.cell hok).trans hc;have hbr:=Zf.old hby hWr;have hbig:=HS.out.block k x hx;have htk:=Za (show d.1.take (k+1)=d.1.take k++[x] by rw[Qq,hx];rfl);obtain⟨E,ce,rfl,_⟩:=id (Zm hby);have t1:=Q4 _ _ r1;have t3:=Q4 _ _ hcr;have i1:(0:Int)<=(k:Int):=by omega
   have i2:(k:Int)<(n:Int):=by omega
   replace hx:=Za hx;replace hbr:=Za hbr;have hz':=Za hz;have hb':=Za hb;clear hz hb hc hby hok
   go_wp2_with fail
   refine Z1 (by kernel_rfl) 9 (fun W=>Qak wr.heap.size wr W) (fun i=>match i with
     | 7=>some (fun v W=>rBy (New wr.heap.size W) W [v] x)
     | 8=>some (fun v W=>∃ g,v=.slice (some ⟨g,0,none⟩) 1 1/\wr.heap.size<=g/\∃ u,W.heap[g]? = some (.cells #[u] 27 (0,0))/\rBy (New wr.heap.size W) W [u] x)
     | _=>none) (fun _=>none) (by decide) (by kernel_rfl) (by kernel_rfl) (Qa _ _).drew (fun w w' h hb=>h.trans (hb.mono h.size)) ?tst ?_
   case tst =>
    intro j φ x W W' hp hx hb
    match j,hp with
    | 7,hp=>cases hp;exact Zf.new hx (Qb _) hb
    | 8,hp =>
     cases hp;obtain⟨g,e1,e2,u,e3,e4⟩:=hx;exact⟨g,e1,e2,u,(hb.block g (Pa.1 e3).1).trans e3,Zf.new e4 (Qb _) hb⟩
   simp only[Pg,Pb,Ph,Q5]
   repeat (first
    | (refine wpAs_skip rfl ?_;simp only[Qc,Zb,Zc,Zd])
    | (refine wpAs_pure (v := ?_) rfl rfl ?_ ?_;rotate_left;(intro W hC hE;clear hE;(have z1:=(hC.cell t1).trans r1;have z2:=(hC.cell (p:=⟨w2.heap.size,0,none⟩) r5).trans r2;have z3:=(hC.cell t3).trans hcr);clear hC;go_simp;first | done | with_reducible rfl);simp only[Qc,Zb,Zc,Zd]))
   refine wpAs_act rfl rfl ?_ ?_
   ·intro W hC hE
    clear hE;obtain⟨v',W',hr,h1,h2⟩:=Zet (.slice E x.length ce) x W (by omega) (Zf.old hbr.out hC);exact U9 _ _ _ rfl rfl rfl hr ⟨Zf.mono h1 hC.size,h2⟩
   simp only[Qc,Zb,Zc,Zd,envAdd];intro x20;refine wpAs_act rfl rfl ?_ ?_
   ·intro W hC hE
    have h9:=hE.1 rfl;obtain⟨E,ce,rfl,_⟩:=Zm h9;have hsw:=hC.size;have h9':=Za (Zf.new h9 (Qb _) ((Qa W.heap.size W).alloc (Qb _) (.cells #[.slice E x.length ce] 27)));clear hE hC h9
    go_simp
    exact⟨⟨W.heap.size,rfl,hsw,_,Qah _ _,h9'.out⟩,(Qa _ _).alloc (Qb _) _⟩
   simp only[Qc,Zb,Zc,Zd,envAdd];intro x21;refine wpAs_end fun W hC hE=> ?_
   obtain⟨⟨g,rfl,hg,u,hg3,hu⟩,_⟩:=hE;have s5:=S5.out;have hwr:=hb'.out.size;have hrowW:=Ya.below Zf hrow.out hC;have hlo:w3.heap.size<=wr.heap.size:=by omega
   obtain⟨A2,c2,w7,hr2,row7,gr7,ba7⟩:=Zyg hrowW g u 1 x hg3 (by rw[htl.out];omega) (Qd hlo hC.size) (Zf _ _ _ _ _ _ (fun p v hp hc=>⟨hrow.out.but (Qb _) hlo hp,hc⟩) hu);rw[htl.out] at hr2;have g7:=(ba7.block w2.heap.size (by omega)).trans ((hC.block w2.heap.size r5).trans hz'.out);obtain⟨w8,hw8,g8,gr8,gs8⟩:=Z2d (u:=.slice A2 (k+1) c2) g7;have row8:=Za (Ya.grown Zf row7 gr8 (fun q e=>by cases e;omega));have hb7:Qak w2.heap.size w2 w7:=(hb'.out.trans (hC.mono hb'.out.size)).trans (ba7.mono (by omega));have hb8:=Za (hb7.grown gr8 hb7.size (fun q e=>by cases e;omega));have z2:=(hC.cell (p:=⟨w2.heap.size,0,none⟩) r5).trans r2;obtain⟨y1,y2,y3,y4⟩:=Zg g7;have H2:=Za hr2;replace g8:=Za g8;replace g7:=Za g7;replace hg3:=Za hg3;clear hr2 row7 gr7 gr8 ba7 hb7 hrowW hC gs8 hu s5
   go_wp2_with (at_builtin;refine Zi rfl _ _ _ rfl rfl rfl H2.out ?_;clear H2)
   go_roundw
   case rel=>exact⟨k+1,by omega,by go_num,hb8.out,A2,c2,g8.out,by rw[htk.out];exact row8.out⟩
   case measure=>simp[intOf];omega
  ·have hge:n<=k:=by omega
   have hkn:=Za (show k=n by omega);have hd1:=Za (show d.1.take k=d.1 from Qg (by rw[hn.out];omega));replace hrow:=Za (show Ya rBy 1 27 w3.heap.size wr A1 c1 d.1 by rw[<- hd1.out];exact hrow.out);have r1':=(hb.cell (p:=⟨w.heap.size,1,none⟩) lt0).trans f2;have hz':=Za hz;have hb':=Za hb;obtain⟨wo,rfl⟩:∃ wo:Qac,wo=wr:=⟨_,rfl⟩
   have hws:w3.heap.size<=wo.heap.size:=by have:=S5.out;omega
   clear hz hb
   go_wp2_with fail
   go_loopw [5] (fun i wr=>∃ j:Nat,j<=m/\i=.int .i64 j/\wo.grownBy wr (some w2.heap.size)/\∃ (A2:Option Qae) (c2:Nat),wr.heap[w2.heap.size]? = some (.cells #[.slice A1 k c1,.slice A2 j c2] 26 (0,0)) /\
     Ya rWt 2 47 wo.heap.size wr A2 c2 (d.2.take j)) (fun i _=>m-(intOf i).toNat)
   case atStart=>exact⟨0,by omega,rfl,Yh _ _,none,0,hz'.out,Ya.nil _ _ _ _ _⟩
   case round =>
    obtain⟨j,hj,rfl,hgr,A2,c2,hz,hrw⟩:=hrel;obtain⟨q2,q3,q4,q5⟩:=Zg hz;have q1:=(Uz hgr (p:=⟨w.heap.size,1,none⟩) (by have:=S5.out;show w.heap.size<_;omega) (fun e=>by simp only[Option.some.injEq] at e;omega)).trans r1';have htl:=Za (show (d.2.take j).length=j by rw[Pz,hm.out];omega);replace hrw:=Za hrw;have hb2:Qak w2.heap.size w2 wr:=hb'.out.grown hgr hb'.out.size (fun q e=>by cases e;omega);by_cases hlt2:j<m
    ·obtain⟨x,hx⟩:∃ x,d.2[j]? = some x:=⟨_,Qe (by rw[hm.out];exact hlt2)⟩
     obtain⟨ad,u,rfl,hok,hok',hc,hc',hby,b1,b2⟩:=HB.out j x hx;have hWr:Qak w.heap.size w wr:=hB2'.out.trans (hb2.mono hB2'.out.size);have hcr:=(hWr.cell hok).trans hc;have hcr':=(hWr.cell hok').trans hc';rw[Vn] at hcr';have hbr:=Zf.old hby hWr;have hbig:=HS.out.wait j x hx;have htk:=Za (show d.2.take (j+1)=d.2.take j++[x] by rw[Qq,hx];rfl);obtain⟨E,ce,rfl,_⟩:=id (Zm hby);obtain⟨xi,xb⟩:=x;obtain⟨q,hq'⟩:∃ q,xb.length=q:=⟨_,rfl⟩
     replace hbr:rBy (Old wr) wr [.slice E xb.length ce] xb:=hbr;replace hcr':wr.cell? _=some (.slice E xb.length ce):=hcr';rw[hq'] at hcr' hbr;replace hq':=Za hq';have t1:=Q4 _ _ q1;have t3:=Q4 _ _ hcr;have t4:=Q4 _ _ hcr';have i1:(0:Int)<=(j:Int):=by omega
     have i2:(j:Int)<(m:Int):=by omega
     replace hx:=Za hx;replace hbr:=Za hbr;have hz2:=Za hz;have hgr':=Za hgr;have hb2':=Za hb2;clear hz hgr hb2 hc hc' hby hok hok' hWr
     go_wp2_with fail
     refine Z1 (by kernel_rfl) 17 (fun W=>Qak wr.heap.size wr W) (fun i=>match i with
       | 14=>some (fun v W=>rBy (New wr.heap.size W) W [v] xb)
       | 15=>some (fun v W=>∃ E ce,v=.agg #[.int .i64 xi,.slice E q ce]/\rBy (New wr.heap.size W) W [.slice E q ce] xb)
       | 16=>some (fun v W=>∃ g,v=.slice (some ⟨g,0,none⟩) 1 1/\wr.heap.size<=g/\∃ u,W.heap[g]? = some (.cells #[.int .i64 xi,u] 47 (0,0))/\rBy (New wr.heap.size W) W [u] xb)
       | _=>none) (fun _=>none) (by decide) (by kernel_rfl) (by kernel_rfl) (Qa _ _).drew (fun w w' h hb=>h.trans (hb.mono h.size)) ?tst2 ?_
     case tst2 =>
      intro j φ x W W' hp hx hb
      match j,hp with
      | 14,hp=>cases hp;exact Zf.new hx (Qb _) hb
      | 15,hp =>
       cases hp;obtain⟨E,ce,e1,e2⟩:=hx;exact⟨E,ce,e1,Zf.new e2 (Qb _) hb⟩
      | 16,hp =>
       cases hp;obtain⟨g,e1,e2,u,e3,e4⟩:=hx;exact⟨g,e1,e2,u,(hb.block g (Pa.1 e3).1).trans e3,Zf.new e4 (Qb _) hb⟩
     simp only[Pg,Pb,Ph,Q5]
     repeat (first
      | (refine wpAs_skip rfl ?_;simp only[Qc,Zb,Zc,Zd])
      | (refine wpAs_pure (v := ?_) rfl rfl ?_ ?_;rotate_left;(intro W hC hE;clear hE;(have z1:=(hC.cell t1).trans q1;have z2:=(hC.cell (p:=⟨w2.heap.size,1,none⟩) q5).trans q3;have z3:=(hC.cell t3).trans hcr;have z4:=(hC.cell (p:=⟨(ad.add (j*2)).block,(ad.add (j*2)).off+1,none⟩) t4).trans hcr');clear hC;go_simp;first | done | with_reducible rfl);simp only[Qc,Zb,Zc,Zd]))
     refine wpAs_act rfl rfl ?_ ?_
     ·intro W hC hE
      clear hE;obtain⟨v',W',hr,h1,h2⟩:=Zet (.slice E q ce) xb W (by have:=hq'.out;omega) (Zf.old hbr.out hC);exact U9 _ _ _ rfl rfl rfl hr ⟨Zf.mono h1 hC.size,h2⟩
     simp only[Qc,Zb,Zc,Zd,envAdd];intro x45;refine wpAs_act rfl rfl ?_ ?_
     ·intro W hC hE
      have h9:=hE.1 rfl;obtain⟨E,ce,rfl,_⟩:=Zm h9;rw[hq'.out] at h9;clear hE hC;have h9':=Za h9;clear h9
      go_simp
      have:=hq'.out;exact⟨⟨E,ce,by rw[this],h9'.out⟩,Qa _ _⟩
     simp only[Qc,Zb,Zc,Zd,envAdd];intro x46;refine wpAs_act rfl rfl ?_ ?_
     ·intro W hC hE
      obtain⟨E,ce,rfl,h9⟩:=hE.1 rfl;have hsw:=hC.size;have h9':=Za (Zf.new h9 (Qb _) ((Qa W.heap.size W).alloc (Qb _) (.cells #[.int .i64 xi,.slice E q ce] 47)));clear hE hC h9
      go_simp
      exact⟨⟨W.heap.size,rfl,hsw,_,Qah _ _,h9'.out⟩,(Qa _ _).alloc (Qb _) _⟩
     simp only[Qc,Zb,Zc,Zd,envAdd];intro x47;refine wpAs_end fun W hC hE=> ?_
     obtain⟨⟨g,rfl,hg,u,hg3,hu⟩,_⟩:=hE;have hwr:=hgr'.out.size;have hrowW:=Ya.below Zcq hrw.out hC;obtain⟨A3,c3,w7,hr2,row7,gr7,ba7⟩:=Z01 hrowW g xi u 1 xb hg3 (by rw[htl.out];omega) (Qd hwr hC.size) b1 b2 (Zf _ _ _ _ _ _ (fun p v hp hc=>⟨hrw.out.but (Qb _) hwr hp,hc⟩) hu);rw[htl.out] at hr2;have g7:=(ba7.block w2.heap.size (by have:=S5.out;omega)).trans ((hC.block w2.heap.size q5).trans hz2.out);obtain⟨w8,hw8,g8,gr8,gs8⟩:=Zf3 (u:=.slice A3 (j+1) c3) g7;have s5:=S5.out;have row8:=Za (Ya.grown Zcq row7 gr8 (fun q e=>by cases e;omega));have hg8:=Za (Xc (X6 (X6 hgr'.out (hC.mono hwr)) ba7) gr8);have z2:=(hC.cell (p:=⟨w2.heap.size,1,none⟩) q5).trans q3;obtain⟨y1,y2,y3,y4⟩:=Zg g7;have H2:=Za hr2;replace g8:=Za g8;replace g7:=Za g7;replace hg3:=Za hg3;clear hr2 row7 gr7 gr8 ba7 hrowW hC gs8 hu s5
     go_wp2_with (at_builtin;refine Zi rfl _ _ _ rfl rfl rfl H2.out ?_;clear H2)
     go_roundw
     case rel=>exact⟨j+1,by omega,by go_num,hg8.out,A3,c3,g8.out,by rw[htk.out];exact row8.out⟩
     case measure=>simp[intOf];omega
    ·have hge2:m<=j:=by omega
     have hjm:=Za (show j=m by omega);have hd2:=Za (show d.2.take j=d.2 from Qg (by rw[hm.out];omega));have s5:=S5.out;have gz:=(hb2.block (w.heap.size+1) (by omega)).trans f3.out;obtain⟨k1,k2,k3,k4⟩:=Zg gz;obtain⟨W9,hW9,g9,gr9,gs9⟩:=Ys (u:=.slice A1 k c1) (v:=.slice A2 j c2) gz;obtain⟨k5,k6,_,_⟩:=Zg g9;have hBr:Qak w.heap.size w wr:=hB2'.out.trans (hb2.mono hB2'.out.size);have hB9:Qak w.heap.size w W9:=hBr.grown gr9 hBr.size (fun q e=>by cases e;omega);have row1:=Ya.low Zf (Ya.grown Zf (Ya.grown Zf hrow.out hgr (fun q e=>by cases e;omega)) gr9 (fun q e=>by cases e;omega)) (show w.heap.size<=w3.heap.size by omega);have row2:=Ya.low Zcq (Ya.grown Zcq hrw.out gr9 (fun q e=>by cases e;omega)) (show w.heap.size<=wo.heap.size by omega)
     have hfin:Hid (Dsk (New w.heap.size W9) W9 (.agg #[.slice A1 k c1,.slice A2 j c2]) d):=Za (by
      have h1:=row1.rel Zf;have h2:=row2.rel Zcq;rw[htl.out,hd2.out] at h2;rw[hn.out,<- hkn.out] at h1
      exact⟨_,_,rfl,h1,h2⟩)
     have hfar:Hid (Z4x W9 A1/\Z4x W9 A2):=Za ⟨row1.far (by decide),row2.far (by decide)⟩;clear row1 row2 hrow hrw hz g9 gr9 s5 hgr
     go_wp2_with fail
     exact Qag (v:=.agg #[.slice A1 k c1,.slice A2 j c2]) (by simp[results,Tryz.results31,go_sem,k5,k6]) rfl ⟨A1,c1,A2,c2,by rw[hkn.out,hjm.out],by have h:=hfin.out;rwa [hkn.out,hjm.out] at h,hfar.out.1,hfar.out.2,hB9⟩}
theorem Zpn (v:Qad) (d:Dk) (w:Qac) (hs:Zpu d) (h:Dsk (Old w) w v d):Qaj Tryz.prog 31 #[v] w fun e w'=>∃ u,e=.returned u/\Dsk (New w.heap.size w') w' u d/\Qak w.heap.size w w' :=
 (Zpa v d w hs h).mono fun _ _ ⟨_,_,_,_,e,h1,_,_,h4⟩=>⟨_,e,h1,h4⟩
structure Za8 (lo:Nat) (w wr:Qac):Prop where
 low:Qak lo w wr
 fro:∀ p:Qae,p.block<w.heap.size->wr.frozen? p=w.frozen? p
 rest:∀ (p:Qae) (v:Qad),p.block<w.heap.size->w.cell? p=some v->(∀ x,v≠.int .u8 x)->wr.cell? p=some v
 byte:∀ (p:Qae) (x:UInt8),p.block<w.heap.size->w.cell? p=some (.int .u8 (x.toNat:Int))->∃ y:UInt8,wr.cell? p=some (.int .u8 (y.toNat:Int))
theorem Za8.refl (lo:Nat) (w:Qac):Za8 lo w w:=⟨Qa _ _,fun _ _=>rfl,fun _ _ _ h _=>h,fun _ x _ h=>⟨x,h⟩⟩
theorem Za8.step {lo:Nat}{w wr:Qac}(h:Za8 lo w wr){p:Qae}(hp:lo<=p.block){x:UInt8}(hx:wr.cell? p=some (.int .u8 (x.toNat:Int))) (y:UInt8):Za8 lo w (wr.setCell p (.int .u8 (y.toNat:Int))):=by{
 refine⟨h.low.setCell hp _,fun q hq=>by rw[World.frozen?_setCell];exact h.fro q hq,fun q v hq hc hv=> ?_,fun q z hq hc=> ?_⟩
 ·have h1:=h.rest q v hq hc hv
  rw[P3 _ _ _ _ (fun e=>by
   subst e;rw[h1] at hx
   exact hv _ (Option.some.inj hx))]
  exact h1
 ·by_cases e:p=q
  ·subst e
   exact⟨y,World.cell?_setCell_same _ _ _ hx⟩
  ·rw[P3 _ _ _ _ e]
   exact h.byte q z hq hc}
theorem Za8.drew {lo:Nat}{w wr:Qac}(h:Za8 lo w wr):Za8 lo w wr.drew :=
 ⟨h.low.drew,fun p hp=>by simpa using h.fro p hp,fun p v hp hc hv=>by simpa using h.rest p v hp hc hv,fun p x hp hc=>by simpa using h.byte p x hp hc⟩
theorem Zz9 (p:UInt8):IntKind.u8.wrap ((p.toNat:Int)+1)=((p+1).toNat:Int):=by
 rw[IntKind.wrap_u8',UInt8.toNat_add];simp
theorem Zgo (lo:Nat) (w:Qac):rBy (New lo w) w [.slice none 0 0] []:=⟨none,0,rfl,by simp,by omega,fun i x h=>by simp at h⟩
theorem Z0c (v:Qad) (d:Dk) (n:Int) (w:Qac) (h:Dsk (Old w) w v d) :
  Qaj Tryz.prog 67 #[v,.int .i64 n] w fun e w'=>∃ u,e=.returned (.tuple #[u,.int .i64 (V0 d n)])/\rBy (New w.heap.size w') w' [u] (rdX d n)/\Qak w.heap.size w w':=by{
 by_cases hn:Zai d=true/\Xt n=true
 ·obtain⟨hm,ht⟩:=hn
  have e0:V0 d n=0:=by simp[V0,hm,ht]
  obtain⟨k,rfl,hk⟩:=Zkm ht;refine(Z2q v d k w h hm hk).mono ?_;rintro e w' ⟨u,rfl,hu,hb⟩;have e1:rdX d (k:Int)=Z4 d k:=by simp[rdX,e0]
  rw[e0,e1];exact⟨u,rfl,hu,hb⟩
 ·refine(Z0l v d n w h hn).mono ?_
  rintro e w' ⟨rfl,hb⟩;have e0:V0 d n≠0:=by
   unfold V0;cases h1:Zai d <;> cases h2:Xt n <;> simp_all
  have e1:rdX d n=[]:=by simp[rdX,e0]
  rw[e1];exact⟨_,rfl,Zgo _ _,hb⟩}
def Zd3 (F:Qac->Prop):Prop:=∀ w w',F w->Qak w.heap.size w w'->F w'
def Bag (w:Qac) (Fs:List (Qac->Prop)):Prop:=∀ F∈Fs,F w/\Zd3 F
section
variable {w w' : Qac}{Fs : List (Qac -> Prop)}{F : Qac -> Prop}
theorem Bag.nil (w:Qac):Bag w []:=fun F h=>by cases h
theorem Bag.below (h:Bag w Fs) (hb:Qak w.heap.size w w'):Bag w' Fs:=fun F hF=>⟨(h F hF).2 w w' (h F hF).1 hb,(h F hF).2⟩
theorem Bag.add (h:Bag w Fs) (hF:F w) (hk:Zd3 F):Bag w (F::Fs):=fun G hG=>by
 rcases Q8.1 hG with h1 | h1
 ·rw[h1]
  exact⟨hF,hk⟩
 ·exact h G h1
theorem Bag.at (h:Bag w Fs) (i:Nat) (hi:Fs[i]? = some F):F w:=(h F (P4 hi)).1
end
def Z6v (g:Nat) (a b:Qad):Qac->Prop:=fun w=>w.cell? ⟨g,0,none⟩=some a/\w.cell? ⟨g,1,none⟩=some b/\g<w.heap.size
theorem Zvl (g:Nat) (a b:Qad):Zd3 (Z6v g a b):=fun _ _ h hb=>⟨(hb.cell (p:=⟨g,0,none⟩) h.2.2).trans h.1,(hb.cell (p:=⟨g,1,none⟩) h.2.2).trans h.2.1,Qf h.2.2 hb.size⟩
def Z6x (v:Qad) (xs:List UInt8):Qac->Prop:=fun w=>rBy (Old w) w [v] xs
def Z4q (lo:Nat) (v:Qad) (xs:List UInt8):Qac->Prop:=fun w=>rBy (New lo w) w [v] xs
theorem Zuh (v:Qad) (xs:List UInt8):Zd3 (Z6x v xs):=fun _ _ h hb=>Zf.old h hb
theorem Zc5 (lo:Nat) (v:Qad) (xs:List UInt8):Zd3 (Z4q lo v xs):=fun _ _ h hb=>Zf.new h (Qb _) hb
def inT (n:Int):Bool:=decide (8<=n)&&decide (n<256)
def Zci (t:List UInt8) (n:Int) (x:UInt8):Int:=if Zaz t then (if inT n then (if t[n.toNat]?.getD 0=x then 70 else 0) else 2) else 8
def upE (t:List UInt8) (n:Int):Int:=Zci t n 255
def upV (t:List UInt8) (n:Int):List UInt8:=if upE t n=0 then t.set n.toNat (t[n.toNat]?.getD 0+1) else []
theorem Zyc {t:List UInt8}{n:Int}{x:UInt8}(h:Zaz t=false):Zci t n x=8:=by simp[Zci,h]
theorem Zwv {t:List UInt8}{n:Int}{x:UInt8}(h:Zaz t=true) (h':inT n=false):Zci t n x=2:=by simp[Zci,h,h']
theorem Zv6 {t:List UInt8}{n:Int}{x:UInt8}(h:Zaz t=true) (h':inT n=true) (h2:t[n.toNat]?.getD 0=x):Zci t n x=70:=by simp[Zci,h,h',h2]
theorem Zrj {t:List UInt8}{n:Int}{x:UInt8}(h:Zaz t=true) (h':inT n=true) (h2:t[n.toNat]?.getD 0≠x):Zci t n x=0:=by simp[Zci,h,h',h2]
theorem Zmh {n:Int}(h:inT n=true):∃ k:Nat,n=k/\8<=k/\k<256:=by
 simp only[inT,Ql,decide_eq_true_eq] at h;exact⟨n.toNat,by omega,by omega,by omega⟩
theorem Zrd {k:Nat}(h:8<=k) (h':k<256):inT (k:Int)=true:=by
 simp only[inT,Ql,decide_eq_true_eq];omega
theorem Zvv {n:Int}(h:inT n=false):n<8\/256<=n:=by
 simp only[inT,Bool.and_eq_false_iff,decide_eq_false_iff_not] at h;omega
theorem Znf (t:List UInt8) (n:Int) (x:UInt8):(Zaz t=false/\Zci t n x=8)\/(Zaz t=true/\(n<8\/256<=n)/\Zci t n x=2)\/(∃ k:Nat,Zaz t=true/\n=k/\8<=k/\k<256/\t[k]?.getD 0=x/\Zci t n x=70) \/
  (∃ k:Nat,Zaz t=true/\n=k/\8<=k/\k<256/\t[k]?.getD 0≠x/\Zci t n x=0):=by{
 cases hm:Zaz t with
 | false=>exact .inl ⟨rfl,Zyc hm⟩
 | true =>
  cases hi:inT n with
  | false=>exact .inr (.inl ⟨rfl,Zvv hi,Zwv hm hi⟩)
  | true =>
   obtain⟨k,rfl,h1,h2⟩:=Zmh hi;by_cases hx:t[k]?.getD 0=x
   ·exact .inr (.inr (.inl ⟨k,rfl,rfl,h1,h2,hx,Zv6 hm hi hx⟩))
   ·exact .inr (.inr (.inr ⟨k,rfl,rfl,h1,h2,hx,Zrj hm hi hx⟩))}
theorem Y0 {x y:UInt8}{q:Int}(hy:(y.toNat:Int)=q) (h:x=y):((x.toNat:Int)==q)=true:=by subst h;simpa using hy
theorem Yf {x y:UInt8}{q:Int}(hy:(y.toNat:Int)=q) (h:x≠y):((x.toNat:Int)==q)=false:=by
 cases he:(x.toNat:Int)==q with
 | false=>rfl
 | true=>exact absurd (UInt8.toNat.inj (by have:=beq_iff_eq.1 he;omega)) h
theorem Zd9 (v:Qad) (t:List UInt8) (n:Int) (x:UInt8) (q:Int) (hx:(x.toNat:Int)=q) (w:Qac) (h:rBy (Old w) w [v] t) :
  Qaj Tryz.prog 128 #[v,.int .i64 n,.int .u8 q] w fun e w'=>e=.returned (.int .i64 (Zci t n x))/\w=w':=by{
 obtain⟨A,c,rfl,l1,m1,hb⟩:=Yq (B:=w.heap.size) (fun _ h=>h) h;replace hb:=Za hb;clear h;rcases Znf t n x with ⟨hm,he⟩ | ⟨hm,hn,he⟩ | ⟨k,hm,rfl,h8,h256,hk,he⟩ | ⟨k,hm,rfl,h8,h256,hk,he⟩
 ·replace he:=Za he
  have hc:=Za (Zhd hm);replace hm:=Za hm;clear hx
  go_enter Tryz.func128,Tryz.ntmps128
  go_wp2_with fail
  with_reducible refine(Un A t.length c t (Za rfl) l1 m1 _ hb.out).mono ?_
  rintro e w1 ⟨rfl,rfl⟩;rw[hc.out]
  go_wp2_with fail
  go_ret;exact⟨Zv he.out.symm,rfl⟩
 ·replace he:=Za he
  have hc:=Za (Zic hm);replace hm:=Za hm;clear hx;by_cases h8:n<8
  ·go_enter Tryz.func128,Tryz.ntmps128
   go_wp2_with fail
   with_reducible refine(Un A t.length c t (Za rfl) l1 m1 _ hb.out).mono ?_
   rintro e w1 ⟨rfl,rfl⟩;rw[hc.out]
   go_wp2_with fail
   go_ret;exact⟨Zv he.out.symm,rfl⟩
  ·have h9:256<=n:=by omega
   clear hn
   go_enter Tryz.func128,Tryz.ntmps128
   go_wp2_with fail
   with_reducible refine(Un A t.length c t (Za rfl) l1 m1 _ hb.out).mono ?_
   rintro e w1 ⟨rfl,rfl⟩;rw[hc.out]
   go_wp2_with fail
   go_ret;exact⟨Zv he.out.symm,rfl⟩
 ·replace he:=Za he
  have hl:=Za (Z0 hm);have hc:=Za (Zic hm);replace hm:=Za hm;obtain⟨ad,rfl,_,hcc⟩:=hb.out (by rw[hl.out];omega);have hcell:=hcc k (by rw[hl.out];omega);obtain⟨y,hy⟩:∃ y,t[k]?.getD 0=y:=⟨_,rfl⟩
  rw[hy] at hcell hk;have t0:=Y0 hx hk;replace hy:=Za hy;have i1:¬ (k:Int)<8:=by omega
  have i2:¬ 256<=(k:Int):=by omega
  have i3:k<t.length:=by rw[hl.out];exact h256
  clear hcc hk hx
  go_enter Tryz.func128,Tryz.ntmps128
  go_wp2_with fail
  with_reducible refine(Un (some ad) t.length c t (Za rfl) l1 m1 _ hb.out).mono ?_
  rintro e w1 ⟨rfl,rfl⟩;rw[hc.out]
  go_wp2_with fail
  go_ret;exact⟨Zv he.out.symm,rfl⟩
 ·replace he:=Za he
  have hl:=Za (Z0 hm);have hc:=Za (Zic hm);replace hm:=Za hm;obtain⟨ad,rfl,_,hcc⟩:=hb.out (by rw[hl.out];omega);have hcell:=hcc k (by rw[hl.out];omega);obtain⟨y,hy⟩:∃ y,t[k]?.getD 0=y:=⟨_,rfl⟩
  rw[hy] at hcell hk;have t0:=Yf hx hk;replace hy:=Za hy;have i1:¬ (k:Int)<8:=by omega
  have i2:¬ 256<=(k:Int):=by omega
  have i3:k<t.length:=by rw[hl.out];exact h256
  clear hcc hk hx
  go_enter Tryz.func128,Tryz.ntmps128
  go_wp2_with fail
  with_reducible refine(Un (some ad) t.length c t (Za rfl) l1 m1 _ hb.out).mono ?_
  rintro e w1 ⟨rfl,rfl⟩;rw[hc.out]
  go_wp2_with fail
  go_ret;exact⟨Zv he.out.symm,rfl⟩}
theorem Zd1 {x:UInt8}(h:x≠255):((x.toNat:Int)+1=((x+1).toNat:Int))/\(x.toNat:Int)+1<=255/\0<=(x.toNat:Int):=by
 have h2:x.toNat≠255:=fun e=>h (UInt8.toNat.inj e)
 have h3:=x.toNat_lt;have:(x+1).toNat=x.toNat+1:=by rw[UInt8.toNat_add];simp;omega
 omega
theorem Zl0 {x:UInt8}(h:x≠0):((x.toNat:Int)-1=((x-1).toNat:Int))/\(x.toNat:Int)<=255/\0<=(x.toNat:Int)-1:=by
 have h2:x.toNat≠0:=fun e=>h (UInt8.toNat.inj e)
 have h3:=x.toNat_lt;have:(x-1).toNat=x.toNat-1:=by rw[UInt8.toNat_sub_of_le];rfl;exact UInt8.le_iff_toNat_le.2 (by show 1<=x.toNat;omega)
 omega
theorem Z41 (v:Qad) (t:List UInt8) (n:Int) (w:Qac) (h:rBy (Old w) w [v] t) :
  Qaj Tryz.prog 89 #[v,.int .i64 n] w fun e w'=>∃ u,e=.returned (.tuple #[u,.int .i64 (upE t n)])/\rBy (New w.heap.size w') w' [u] (upV t n)/\Qak w.heap.size w w':=by{
 have h':=Za h;by_cases he:upE t n=0
 ·obtain⟨k,hm,rfl,h8,h256,hk⟩:∃ k:Nat,Zaz t=true/\n=k/\8<=k/\k<256/\t[k]?.getD 0≠255:=by
   rcases Znf t n 255 with ⟨_,h2⟩ | ⟨_,_,h2⟩ | ⟨k,_,_,_,_,_,h2⟩ | ⟨k,hm,hn,h8,h256,hk,h2⟩
   ·rw[upE,h2] at he;cases he
   ·rw[upE,h2] at he;cases he
   ·rw[upE,h2] at he;cases he
   ·exact⟨k,hm,hn,h8,h256,hk⟩
  have hl:=Z0 hm;have hr:Hid (upV t (k:Int)=t.set k (t[k]?.getD 0+1)):=Za (by simp[upV,he]);obtain⟨A,c,rfl,l1,m1,hb⟩:=Yq (B:=w.heap.size) (fun _ h=>h) h;obtain⟨hu,hu1,hu2⟩:=Zd1 hk;replace hb:=Za hb;replace hl:=Za hl;replace he:=Za he;replace hu:=Za hu;clear hk h
  go_enter Tryz.func89,Tryz.ntmps89
  go_wp2_with fail
  with_reducible refine(Zd9 _ t (k:Int) 255 255 rfl _ h'.out).mono ?_
  rintro e w1 ⟨rfl,rfl⟩;rw[show Zci t (k:Int) 255=0 from he.out]
  go_wp2_with fail
  with_reducible refine(Ze8 A t.length c t (Za rfl) (by rw[hl.out];omega) _ hb.out).mono ?_
  rintro e w2 ⟨u,rfl,hu3,hb2⟩;obtain⟨g,c2,rfl,hg1,hg2,hg3,hg4⟩:=Ze1 hu3 (by rw[hl.out];omega);have hcell:=Zbr hu3 (j:=k) (by rw[hl.out];exact h256);have hfr:w2.frozen? ⟨g,k,none⟩=false:=by
   have:=Zeq hu3 k
   rwa [show (⟨g,0,none⟩:Qae).add k=⟨g,k,none⟩ by simp[Uq]] at this
  have hset:=Za (Zhf hu3 k (t[k]?.getD 0+1));have i3:k<t.length:=by rw[hl.out];exact h256
  generalize t[k]?.getD 0=x at *;replace hu3:=Za hu3
  go_wp2_with fail
  go_ret2
  rw[hr.out,he.out];rw[hu.out];exact⟨_,rfl,Zal hset.out,hb2.setCell hg1 _⟩
 ·have hr:Hid (upV t n=[]):=Za (by simp[upV,he])
  obtain⟨q,hq⟩:∃ q,upE t n=q:=⟨_,rfl⟩
  have hq0:(q != 0)=true:=by rw[<- hq];simpa using he
  replace hq:=Za hq;clear h he
  go_enter Tryz.func89,Tryz.ntmps89
  go_wp2_with fail
  with_reducible refine(Zd9 _ t n 255 255 rfl _ h'.out).mono ?_
  rintro e w1 ⟨rfl,rfl⟩;rw[show Zci t n 255=q from hq.out]
  go_wp2_with fail
  go_ret2
  rw[hr.out,hq.out];exact⟨_,rfl,Zgo _ _,Qa _ _⟩}
theorem Zv8 (v:Qad) (t:List UInt8) (n:Int) (w:Qac) (h:rBy (Old w) w [v] t) :
  Qaj Tryz.prog 89 #[v,.int .i64 n] w fun e w'=>∃ E c,e=.returned (.tuple #[.slice E (upV t n).length c,.int .i64 (upE t n)])/\rBy (New w.heap.size w') w' [.slice E (upV t n).length c] (upV t n)/\Qak w.heap.size w w':=by
 refine(Z41 v t n w h).mono ?_;rintro e w' ⟨u,rfl,hu,hb⟩;obtain⟨E,c,rfl,_⟩:=id (Zm hu);exact⟨E,c,rfl,hu,hb⟩
theorem Zf8 {t:List UInt8}{k:Nat}{x:UInt8}(h:k<t.length):(t.set k x)[k]?.getD 0=x:=by simp[h]
theorem Zbc {t:List UInt8}{k j:Nat}{x:UInt8}(h:j≠k):(t.set k x)[j]?.getD 0=t[j]?.getD 0:=by simp[List.getElem?_set_ne (Ne.symm h)]
theorem Zri {t:List UInt8}{k:Nat}{x:UInt8}(h:Zaz t=true) (hk:8<=k):Zaz (t.set k x)=true :=
 Zd8 (by rw[List.length_set];exact Z0 h) fun j hj=>by rw[Zbc (by omega)];exact Zkt h hj
theorem Z6i {t:List UInt8}{k:Nat}(hm:Zaz t=true) (h8:8<=k) (h:k<256) (hx:t[k]?.getD 0≠255):upE t k=0/\upV t k=t.set k (t[k]?.getD 0+1):=by
 have h1:upE t k=0:=Zrj hm (Zrd h8 h) (by simpa using hx);exact⟨h1,by simp[upV,h1]⟩
theorem Zuu {x:UInt8}:x+1-1=x/\x-1+1=x:=⟨UInt8.add_sub_cancel x 1,UInt8.sub_add_cancel x 1⟩
theorem Zty {x:UInt8}(h:x≠255):x+1≠0:=fun e=>by
 have:=(Zd1 h).1;rw[e] at this;have h0:((0:UInt8).toNat:Int)=0:=rfl;omega
theorem Zuj {x:UInt8}(h:x≠0):x-1≠255:=fun e=>by
 have:=Zl0 h;rw[e] at this;have h0:((255:UInt8).toNat:Int)=255:=rfl;omega
theorem Z2f (a:Int):(a<8/\inT a=false)\/(8<=a/\a<256/\inT a=true)\/(8<=a/\256<=a/\inT a=false):=by{
 cases h:inT a with
 | true =>
  obtain⟨k,rfl,h1,h2⟩:=Zmh h;exact .inr (.inl ⟨by omega,by omega,rfl⟩)
 | false =>
  rcases Zvv h with h1 | h1
  ·exact .inl ⟨h1,rfl⟩
  ·exact .inr (.inr ⟨by omega,h1,rfl⟩)}
abbrev Rm:=Dk×List UInt8×List UInt8
def Zn:Rm:=(Zas,[],[])
def Yp (s:Rm):Bool:=Zai s.1&&Zaz s.2.1&&Zaz s.2.2
def Z0j (s:Rm):Int:=if Yp s then 0 else 8
theorem Zw {s:Rm}(h:Yp s=true):Zai s.1=true/\Zaz s.2.1=true/\Zaz s.2.2=true:=by
 unfold Yp at h;simp only[Ql] at h;exact⟨h.1.1,h.1.2,h.2⟩
theorem Zdp {s:Rm}(h1:Zai s.1=true) (h2:Zaz s.2.1=true) (h3:Zaz s.2.2=true):Yp s=true:=by simp[Yp,h1,h2,h3]
theorem Zbl {s:Rm}(h:Yp s=true):Z0j s=0:=by simp[Z0j,h]
theorem Zc1 {s:Rm}(h:Yp s=false):Z0j s=8:=by simp[Z0j,h]
def Uc (s:Rm) (i:Nat):Bool:=decide (s.2.1[i]?.getD 0=0)&&decide (s.2.2[i]?.getD 0=0)
def Zag (s:Rm) (k:Nat):List Nat:=(List.range' 8 k).filter (Uc s)
def X5 (s:Rm):List Nat:=Zag s 248
theorem Zf7 (s:Rm) (k:Nat):Zag s (k+1)=Zag s k++(if Uc s (8+k) then [8+k] else []):=by
 unfold Zag;rw[List.range'_concat,List.filter_append];simp[List.filter_cons]
theorem Zmw (s:Rm) (k:Nat):(Zag s k).length<=k:=by
 have:=List.length_filter_le (Uc s) (List.range' 8 k)
 simpa [Zag] using this
theorem Zu5 {s:Rm}{i:Nat}(h:i∈X5 s):8<=i/\i<256/\s.2.1[i]?.getD 0=0/\s.2.2[i]?.getD 0=0:=by
 unfold X5 Zag at h;rw[List.mem_filter,List.mem_range'_1] at h;obtain⟨⟨h1,h2⟩,h3⟩:=h;simp only[Uc,Ql,decide_eq_true_eq] at h3;exact⟨h1,h2,h3.1,h3.2⟩
def tkE (s:Rm) (b:List UInt8):Int:=if Yp s then (if b.length=128 then (if (X5 s).isEmpty||decide (4096<=s.1.2.length) then 9 else 0) else 3) else 8
def tkK (s:Rm):Nat:=(X5 s)[0]?.getD 0
def tkN (s:Rm) (b:List UInt8):Int:=if tkE s b=0 then (tkK s:Int) else 0
def tkV (s:Rm) (b:List UInt8):Rm:=if tkE s b=0 then (wrD s.1 (tkK s) b,s.2.1.set (tkK s) 1,s.2.2) else Zn
theorem Zqd {s:Rm}{b:List UInt8}(h:tkE s b=0):Yp s=true/\b.length=128/\s.1.2.length<4096/\X5 s=tkK s::(X5 s).tail/\8<=tkK s/\tkK s<256/\s.2.1[tkK s]?.getD 0=0/\s.2.2[tkK s]?.getD 0=0 /\
  tkN s b=(tkK s:Int)/\tkV s b=(wrD s.1 (tkK s) b,s.2.1.set (tkK s) 1,s.2.2):=by{
 have hN:tkN s b=(tkK s:Int):=by rw[tkN,if_pos h]
 have hV:tkV s b=(wrD s.1 (tkK s) b,s.2.1.set (tkK s) 1,s.2.2):=by rw[tkV,if_pos h]
 unfold tkE at h;cases hm:Yp s with
 | false=>rw[hm] at h;simp at h
 | true =>
  rw[hm,if_pos rfl] at h;by_cases hb:b.length=128
  ·rw[if_pos hb] at h
   cases hl:X5 s with
   | nil=>rw[hl] at h;simp at h
   | cons k m =>
    have hk:tkK s=k:=by simp[tkK,hl]
    obtain⟨h1,h2,h3,h4⟩:=Zu5 (s:=s) (i:=k) (by rw[hl];exact P5);have hw:s.1.2.length<4096:=by
     rw[hl] at h;by_cases hw:4096<=s.1.2.length
     ·simp[hw] at h
     ·omega
    rw[hk] at hN hV ⊢;exact⟨rfl,hb,hw,rfl,h1,h2,h3,h4,hN,hV⟩
  ·rw[if_neg hb] at h
   simp at h}
theorem Z19 {s:Rm}{b:List UInt8}(hm:Yp s=true) (hb:b.length=128) (hl:X5 s≠[]) (hw:s.1.2.length<4096):tkE s b=0:=by{
 have h1:(X5 s).isEmpty=false:=by cases h:X5 s with
  | nil=>exact absurd h hl
  | cons k m=>rfl
 have h2:decide (4096<=s.1.2.length)=false:=by simp;omega
 simp[tkE,hm,hb,h1,h2]}
theorem Zyl (s:Rm) (b:List UInt8):(Yp s=false/\tkE s b=8)\/(Yp s=true/\b.length≠128/\tkE s b=3)\/(Yp s=true/\b.length=128/\X5 s=[]/\tkE s b=9)\/(Yp s=true/\b.length=128/\X5 s≠[]/\4096<=s.1.2.length/\tkE s b=9) \/
  (Yp s=true/\b.length=128/\X5 s≠[]/\s.1.2.length<4096/\tkE s b=0):=by{
 cases hm:Yp s with
 | false=>exact .inl ⟨rfl,by simp[tkE,hm]⟩
 | true =>
  by_cases hb:b.length=128
  ·cases hl:X5 s with
   | nil=>exact .inr (.inr (.inl ⟨rfl,hb,rfl,by simp[tkE,hm,hb,hl]⟩))
   | cons k m =>
    by_cases hw:s.1.2.length<4096
    ·exact .inr (.inr (.inr (.inr ⟨rfl,hb,by simp,hw,Z19 hm hb (by rw[hl];simp) hw⟩)))
    ·exact .inr (.inr (.inr (.inl ⟨rfl,hb,by simp,by omega,by simp[tkE,hm,hb,hl];omega⟩)))
  ·exact .inr (.inl ⟨rfl,hb,by simp[tkE,hm,hb]⟩)}
theorem Zm9 {s:Rm}{b:List UInt8}(h:tkE s b≠0):tkN s b=0/\tkV s b=Zn:=⟨by rw[tkN,if_neg h],by rw[tkV,if_neg h]⟩
theorem Z1v {s:Rm}{b:List UInt8}(h:tkE s b=0):Yp (tkV s b)=true:=by
 obtain⟨hm,hb,hw,_,h8,h256,_,_,_,hV⟩:=Zqd h;obtain⟨m1,m2,m3⟩:=Zw hm;rw[hV];exact Zdp (Zu9 m1 h256 hb hw) (Zri m2 h8) m3
def asE (s:Rm) (n:Int):Int:=if Yp s then (if inT n then (if s.2.1[n.toNat]?.getD 0=0 then 6 else 0) else 2) else 8
def shE (s:Rm) (n:Int):Int:=if asE s n=0 then (if s.2.1[n.toNat]?.getD 0=255 then 70 else 0) else asE s n
def shV (s:Rm) (n:Int):Rm:=if shE s n=0 then (s.1,s.2.1.set n.toNat (s.2.1[n.toNat]?.getD 0+1),s.2.2) else Zn
theorem Zcu (s:Rm) (n:Int):(Yp s=false/\asE s n=8)\/(Yp s=true/\(n<8\/256<=n)/\asE s n=2)\/(∃ k:Nat,Yp s=true/\n=k/\8<=k/\k<256/\s.2.1[k]?.getD 0=0/\asE s n=6) \/
  (∃ k:Nat,Yp s=true/\n=k/\8<=k/\k<256/\s.2.1[k]?.getD 0≠0/\asE s n=0):=by{
 cases hm:Yp s with
 | false=>exact .inl ⟨rfl,by simp[asE,hm]⟩
 | true =>
  cases hi:inT n with
  | false=>exact .inr (.inl ⟨rfl,Zvv hi,by simp[asE,hm,hi]⟩)
  | true =>
   obtain⟨k,rfl,h8,h256⟩:=Zmh hi;by_cases hx:s.2.1[k]?.getD 0=0
   ·exact .inr (.inr (.inl ⟨k,rfl,rfl,h8,h256,hx,by simp[asE,hm,hi,hx]⟩))
   ·exact .inr (.inr (.inr ⟨k,rfl,rfl,h8,h256,hx,by simp[asE,hm,hi,hx]⟩))}
theorem Z56 {s:Rm}{n:Int}(h:shE s n=0):∃ k:Nat,n=k/\Yp s=true/\8<=k/\k<256/\s.2.1[k]?.getD 0≠0/\s.2.1[k]?.getD 0≠255/\s.2.1.length=256/\shV s n=(s.1,s.2.1.set k (s.2.1[k]?.getD 0+1),s.2.2):=by{
 have hV:=h;rcases Zcu s n with ⟨_,e⟩ | ⟨_,_,e⟩ | ⟨k,_,_,_,_,_,e⟩ | ⟨k,hm,rfl,h8,h256,hx,e⟩
 ·simp[shE,e] at h
 ·simp[shE,e] at h
 ·simp[shE,e] at h
 ·by_cases h255:s.2.1[k]?.getD 0=255
  ·simp[shE,e,h255] at h
  ·exact⟨k,rfl,hm,h8,h256,hx,h255,Z0 (Zw hm).2.1,by rw[shV,if_pos hV];rfl⟩}
theorem Z5r {s:Rm}{n:Int}(h:shE s n≠0):shV s n=Zn:=by rw[shV,if_neg h]
theorem Z4y {s:Rm}{n:Int}(h:shE s n=0):Yp (shV s n)=true:=by
 obtain⟨k,rfl,hm,h8,h256,_,_,_,hV⟩:=Z56 h;obtain⟨m1,m2,m3⟩:=Zw hm;rw[hV];exact Zdp m1 (Zri m2 h8) m3
end Go.Proofs.YtgmbjnajdfgenaaGreat
namespace Go.Proofs.YtgmbjnajdfgenaaGreat
open Go.ChangeShapes Go.WideShapes Go.RowKit
def Z6s:Rel Rm:=Ziu Z5g (Ziu rBy rBy)
def Sto (ok:Qae->Prop) (w:Qac) (v:Qad) (s:Rm):Prop:=∃ a b n l,v=.agg #[a,b,n,l]/\Dsk ok w (.agg #[a,b]) s.1/\rBy ok w [n] s.2.1/\rBy ok w [l] s.2.2
section
variable {ok ok' : Qae -> Prop}{w w' : Qac}{v : Qad}{s : Rm}{lo lo' : Nat}
theorem Sto.map (hk:∀ p v,ok p->w.cell? p=some v->ok' p/\w'.cell? p=some v) (h:Sto ok w v s):Sto ok' w' v s:=by
 obtain⟨a,b,n,l,e,h1,h2,h3⟩:=h;exact⟨a,b,n,l,e,h1.map hk,Zf _ _ _ _ _ _ hk h2,Zf _ _ _ _ _ _ hk h3⟩
theorem Sto.below (h:Sto (Old w) w v s) (hb:Qak w.heap.size w w'):Sto (Old w') w' v s :=
 h.map fun _ _ hp hc=>⟨Qf hp hb.size,(hb.cell hp).trans hc⟩
theorem Sto.drop (h:Sto (New lo w) w v s):Sto (Old w) w v s:=h.map fun _ _ hp hc=>⟨hp.2.1,hc⟩
theorem Sto.new (h:Sto (New lo w) w v s) (hl:lo'<=lo) (hb:Qak w.heap.size w w'):Sto (New lo' w') w' v s :=
 h.map fun _ _ hp hc=>⟨⟨Qd hl hp.1,Qf hp.2.1 hb.size,(hb.frozen hp.2.1).trans hp.2.2⟩,(hb.cell hp.2.1).trans hc⟩
theorem Sto.grown {row:Option Nat}(h:Sto (New lo w) w v s) (hg:w.grownBy w' row) (hr:∀ q,row=some q->q<lo):Sto (New lo w') w' v s:=by
 obtain⟨a,b,n,l,e,h1,h2,h3⟩:=h;exact⟨a,b,n,l,e,h1.grown hg hr,Zf.grown h2 hg hr,Zf.grown h3 hg hr⟩
theorem Sto.open (h:Sto ok w v s):∃ A ca B cb N cn L cl,v=.agg #[.slice A s.1.1.length ca,.slice B s.1.2.length cb,.slice N s.2.1.length cn,.slice L s.2.2.length cl]/\Dsk ok w (.agg #[.slice A s.1.1.length ca,.slice B s.1.2.length cb]) s.1 /\
  rBy ok w [.slice N s.2.1.length cn] s.2.1/\rBy ok w [.slice L s.2.2.length cl] s.2.2:=by
 obtain⟨a,b,n,l,rfl,h1,h2,h3⟩:=h;obtain⟨A,ca,B,cb,e,_⟩:=h1.open;cases e;obtain⟨N,cn,rfl,_⟩:=Zm h2;obtain⟨L,cl,rfl,_⟩:=Zm h3;exact⟨A,ca,B,cb,N,cn,L,cl,rfl,h1,h2,h3⟩
theorem Sto.parts {a b n l:Qad}(h:Sto ok w (.agg #[a,b,n,l]) s):Dsk ok w (.agg #[a,b]) s.1/\rBy ok w [n] s.2.1/\rBy ok w [l] s.2.2:=by
 obtain⟨_,_,_,_,e,h1,h2,h3⟩:=h;cases e;exact⟨h1,h2,h3⟩
theorem Sto.mk {a b n l:Qad}(h1:Dsk ok w (.agg #[a,b]) s.1) (h2:rBy ok w [n] s.2.1) (h3:rBy ok w [l] s.2.2):Sto ok w (.agg #[a,b,n,l]) s:=⟨a,b,n,l,rfl,h1,h2,h3⟩
end
theorem Zu (ok:Qae->Prop) (w:Qac):Sto ok w (.agg #[.slice none 0 0,.slice none 0 0,.slice none 0 0,.slice none 0 0]) Zn :=
 ⟨_,_,_,_,rfl,⟨_,_,rfl,⟨none,0,rfl,by simp[Zn,Zas],by omega,fun i x h=>by simp[Zn,Zas] at h⟩,⟨none,0,rfl,by simp[Zn,Zas],by omega,fun i x h=>by simp[Zn,Zas] at h⟩⟩,
  ⟨none,0,rfl,by simp[Zn],by omega,fun i x h=>by simp[Zn] at h⟩,⟨none,0,rfl,by simp[Zn],by omega,fun i x h=>by simp[Zn] at h⟩⟩
theorem Vm (w:Qac) (a b c d:Qad) (t:Qaf):∃ w1,w.alloc (.cells #[a,b,c,d] t)=w1/\w1.heap[w.heap.size]? = some (.cells #[a,b,c,d] t (0,0))/\w1.heap.size=w.heap.size+1/\Qak w.heap.size w w1 :=
 ⟨_,rfl,Qah _ _,by simp,(Qa _ _).alloc (Qb _) _⟩
theorem Ze {W:Qac}{g:Nat}{a b c d:Qad}{t:Qaf}(h:W.heap[g]? = some (.cells #[a,b,c,d] t (0,0))):W.cell? ⟨g,0,none⟩=some a/\W.cell? ⟨g,1,none⟩=some b/\W.cell? ⟨g,2,none⟩=some c/\W.cell? ⟨g,3,none⟩=some d/\(∀ o,W.frozen? ⟨g,o,none⟩=false)/\g<W.heap.size :=
 ⟨by simp[Qm,h],by simp[Qm,h],by simp[Qm,h],by simp[Qm,h],fun o=>by simp[P7,h],(Pa.1 h).1⟩
theorem Zo {W:Qac}{g:Nat}{a b c d a' b' c' d':Qad}{t:Qaf}(h:W.heap[g]? = some (.cells #[a,b,c,d] t (0,0))):∃ W1,(((W.setCell ⟨g,0,none⟩ a').setCell ⟨g,1,none⟩ b').setCell ⟨g,2,none⟩ c').setCell ⟨g,3,none⟩ d'=W1 /\
  W1.heap[g]? = some (.cells #[a',b',c',d'] t (0,0))/\W.grownBy W1 (some g)/\W1.heap.size=W.heap.size :=
 ⟨_,rfl,by simp[Qn,Qo,h],Z7 (p:=⟨g,3,none⟩) (Z7 (p:=⟨g,2,none⟩) (Z7 (p:=⟨g,1,none⟩) (Z7 (p:=⟨g,0,none⟩) (Yh W (some g)) rfl a') rfl b') rfl c') rfl d',by simp⟩
theorem Z20 {W:Qac}{g:Nat}{a b c d a' b':Qad}{t:Qaf}(h:W.heap[g]? = some (.cells #[a,b,c,d] t (0,0))):∃ W1,(W.setCell ⟨g,0,none⟩ a').setCell ⟨g,1,none⟩ b'=W1/\W1.heap[g]? = some (.cells #[a',b',c,d] t (0,0))/\W.grownBy W1 (some g)/\W1.heap.size=W.heap.size :=
 ⟨_,rfl,by simp[Qn,Qo,h],Z7 (p:=⟨g,1,none⟩) (Z7 (p:=⟨g,0,none⟩) (Yh W (some g)) rfl a') rfl b',by simp⟩
theorem Zcg {W:Qac}{g:Nat}{a b c d c':Qad}{t:Qaf}(h:W.heap[g]? = some (.cells #[a,b,c,d] t (0,0))):∃ W1,W.setCell ⟨g,2,none⟩ c'=W1/\W1.heap[g]? = some (.cells #[a,b,c',d] t (0,0))/\W.grownBy W1 (some g)/\W1.heap.size=W.heap.size :=
 ⟨_,rfl,by simp[Qn,Qo,h],Z7 (p:=⟨g,2,none⟩) (Yh W (some g)) rfl c',by simp⟩
def Z4l (g:Nat) (a b c d:Qad):Qac->Prop:=fun w=>w.cell? ⟨g,0,none⟩=some a/\w.cell? ⟨g,1,none⟩=some b/\w.cell? ⟨g,2,none⟩=some c/\w.cell? ⟨g,3,none⟩=some d/\g<w.heap.size
theorem Zf5 (g:Nat) (a b c d:Qad):Zd3 (Z4l g a b c d):=fun _ _ h hb=>⟨(hb.cell (p:=⟨g,0,none⟩) h.2.2.2.2).trans h.1,(hb.cell (p:=⟨g,1,none⟩) h.2.2.2.2).trans h.2.1,(hb.cell (p:=⟨g,2,none⟩) h.2.2.2.2).trans h.2.2.1,(hb.cell (p:=⟨g,3,none⟩) h.2.2.2.2).trans h.2.2.2.1,Qf h.2.2.2.2 hb.size⟩
theorem Xd {w w1:Qac}{Fs:List (Qac->Prop)}(h:Bag w Fs) (hb:Qak w.heap.size w w1) (a b c d:Qad) (t:Qaf):∃ w',w1.alloc (.cells #[a,b,c,d] t)=w'/\Bag w' (Z4l w1.heap.size a b c d::Fs)/\Qak w.heap.size w w'/\Qak w1.heap.size w1 w'/\w1.heap.size<w'.heap.size:=by
 obtain⟨w2,e2,b2,k4,k5⟩:=Vm w1 a b c d t;obtain⟨k0,k1,k2,k3,_,k6⟩:=Ze b2;exact⟨w2,e2,((h.below hb).below k5).add ⟨k0,k1,k2,k3,k6⟩ (Zf5 _ _ _ _ _),hb.trans (k5.mono hb.size),k5,by omega⟩
def Zbu (v:Qad) (s:Rm):Qac->Prop:=fun w=>Sto (Old w) w v s
theorem Yj (v:Qad) (s:Rm):Zd3 (Zbu v s):=fun _ _ h hb=>h.below hb
def Z6b (lo:Nat) (v:Qad) (s:Rm):Qac->Prop:=fun w=>Sto (New lo w) w v s
theorem Ztq (lo:Nat) (v:Qad) (s:Rm):Zd3 (Z6b lo v s):=fun _ _ h hb=>h.new (Qb _) hb
theorem Zof:Zcy Tryz.prog 27 rBy:=Zgu Tryz.underlying27 (by kernel_rfl) (Zll Tryz.underlying5)
theorem Zpe:Zcy Tryz.prog 29 Z6s:=Zgf Tryz.underlying29 (Zbw rfl Ztc (Zbw (by kernel_rfl) Zof (Zka (by kernel_rfl) (by kernel_rfl) Zof)))
theorem Zxw {ok:Qae->Prop}{w:Qac}{cs:List Qad}{s:Rm}(h:Z6s ok w cs s):∃ a b n l,cs=[a,b,n,l]/\Dsk ok w (.agg #[a,b]) s.1/\rBy ok w [n] s.2.1/\rBy ok w [l] s.2.2:=by
 obtain⟨_,_,rfl,⟨_,_,rfl,h1,h2⟩,_,_,rfl,h3,h4⟩:=h;obtain⟨A,ca,rfl,h1'⟩:=h1;obtain⟨B,cb,rfl,h2'⟩:=h2;obtain⟨N,cn,rfl,h3'⟩:=h3;obtain⟨L,cl,rfl,h4'⟩:=h4;exact⟨_,_,_,_,rfl,⟨_,_,rfl,⟨A,ca,rfl,h1'⟩,⟨B,cb,rfl,h2'⟩⟩,⟨N,cn,rfl,h3'⟩,⟨L,cl,rfl,h4'⟩⟩
theorem Zsz {H:Type}{enc:Qaf×Qad->H}{w:Qac}{b0:Nat}{spare:Nat->Bool}{held:Bool}{r:Reach}{v:Qad}{x:DataW H}{ps:List MemPlace}(hval:Value.okWide Tryz.prog w r b0 29 v) (hd:DataW.Trod enc Tryz.prog w 0 spare held 29 v x ps) :
  ∃ s,Sto (Old w) w v s:=by
 obtain⟨cs,rfl,_⟩:=okWide_struct Tryz.underlying29 hval;obtain⟨s,hs⟩:=Zrp Zpe hd;obtain⟨a,b,n,l,h1,h2,h3,h4⟩:=Zxw hs;exact⟨s,a,b,n,l,by obtain⟨cs⟩:=cs;simp[Value.cells] at h1;rw[h1],h2,h3,h4⟩
theorem Zhy (v:Qad) (t:List UInt8) (w:Qac) (h:rBy (Old w) w [v] t):Qaj Tryz.prog 122 #[v] w fun e w'=>e=.returned (.int .i64 (Zy7 t))/\w=w':=by
 obtain⟨A,c,rfl,l1,m1,hb⟩:=Yq (B:=w.heap.size) (fun _ h=>h) h;exact Un A t.length c t (Za rfl) l1 m1 w hb
theorem Zfm {w:Qac}{v:Qad}{s:Rm}(h:Sto (Old w) w v s):∃ A ca B cb N cn L cl w1,v=.agg #[.slice A s.1.1.length ca,.slice B s.1.2.length cb,.slice N s.2.1.length cn,.slice L s.2.2.length cl] /\
  w.alloc (.cells #[.slice A s.1.1.length ca,.slice B s.1.2.length cb,.slice N s.2.1.length cn,.slice L s.2.2.length cl] 29)=w1/\w1.heap[w.heap.size]? = some (.cells #[.slice A s.1.1.length ca,.slice B s.1.2.length cb,.slice N s.2.1.length cn,.slice L s.2.2.length cl] 29 (0,0))/\w1.heap.size=w.heap.size+1/\Qak w.heap.size w w1 /\
  Hid (Dsk (Old w1) w1 (.agg #[.slice A s.1.1.length ca,.slice B s.1.2.length cb]) s.1)/\Hid (rBy (Old w1) w1 [.slice N s.2.1.length cn] s.2.1)/\Hid (rBy (Old w1) w1 [.slice L s.2.2.length cl] s.2.2):=by
 obtain⟨A,ca,B,cb,N,cn,L,cl,rfl,hd,hN,hL⟩:=h.open;obtain⟨w1,hw1,f,hs,hB⟩:=Vm w (.slice A s.1.1.length ca) (.slice B s.1.2.length cb) (.slice N s.2.1.length cn) (.slice L s.2.2.length cl) 29;exact⟨A,ca,B,cb,N,cn,L,cl,w1,rfl,hw1,f,hs,hB,Za (hd.below hB),Za (Zf.old hN hB),Za (Zf.old hL hB)⟩
theorem Yy (v:Qad) (s:Rm) (w:Qac) (h:Sto (Old w) w v s):Qaj Tryz.prog 78 #[v] w fun e w'=>e=.returned (.int .i64 (Z0j s))/\Qak w.heap.size w w':=by{
 obtain⟨A,ca,B,cb,N,cn,L,cl,w1,rfl,hw1,f,hsz,hB,D,NN,LL⟩:=Zfm h;clear h;obtain⟨k0,k1,k2,k3,_,kg⟩:=Ze f;replace hsz:=Za hsz;cases h1:Zai s.1 with
 | false =>
  have hr:Hid (Z0j s=8):=Za (Zc1 (by simp[Yp,h1]));have e1:=Zdy h1
  go_enter Tryz.func78,Tryz.ntmps78
  go_upto_region 1 with fail
  clear hw1
  go_wp2_with fail
  with_reducible refine(Za2 _ s.1 _ D.out).mono ?_
  rintro e w2 ⟨rfl,hb2⟩;rw[e1]
  go_wp2_with fail
  go_ret;exact⟨Zv hr.out.symm,hB.trans (hb2.mono hB.size)⟩
 | true =>
  have e1:=Zyn h1;cases h2:Zaz s.2.1 with
  | false =>
   have hr:Hid (Z0j s=8):=Za (Zc1 (by simp[Yp,h2]));have e2:=Zhd h2
   go_enter Tryz.func78,Tryz.ntmps78
   go_upto_region 1 with fail
   clear hw1
   go_wp2_with fail
   with_reducible refine(Za2 _ s.1 _ D.out).mono ?_
   rintro e w2 ⟨rfl,hb2⟩;rw[e1];replace k2:=(hb2.cell (p:=⟨w.heap.size,2,none⟩) kg).trans k2;have N2:=Za (Zf.old NN.out hb2);replace hb2:=Za (hB.trans (hb2.mono hB.size))
   go_wp2_with fail
   with_reducible refine(Zhy _ s.2.1 _ N2.out).mono ?_
   rintro e w3 ⟨rfl,rfl⟩;rw[e2]
   go_wp2_with fail
   go_ret;exact⟨Zv hr.out.symm,hb2.out⟩
  | true =>
   have e2:=Zic h2;obtain⟨q,hq,hr⟩:∃ q,Zy7 s.2.2=q/\Hid (Z0j s=q):=⟨_,rfl,Za (by simp[Z0j,Zy7,Yp,h1,h2])⟩
   obtain⟨p,hp1,hp2⟩:∃ p,(q != 0)=p/\(p=true->q=8)/\(p=false->q=0):=⟨_,rfl,by
    rw[<- hq];unfold Zy7
    split <;> simp⟩
   go_enter Tryz.func78,Tryz.ntmps78
   go_upto_region 1 with fail
   clear hw1
   go_wp2_with fail
   with_reducible refine(Za2 _ s.1 _ D.out).mono ?_
   rintro e w2 ⟨rfl,hb2⟩;rw[e1];replace k2:=(hb2.cell (p:=⟨w.heap.size,2,none⟩) kg).trans k2;replace k3:=(hb2.cell (p:=⟨w.heap.size,3,none⟩) kg).trans k3;have N2:=Za (Zf.old NN.out hb2);have L2:=Za (Zf.old LL.out hb2);replace hb2:=Za (hB.trans (hb2.mono hB.size))
   go_wp2_with fail
   with_reducible refine(Zhy _ s.2.1 _ N2.out).mono ?_
   rintro e w3 ⟨rfl,rfl⟩;rw[e2]
   go_wp2_with fail
   with_reducible refine(Zhy _ s.2.2 _ L2.out).mono ?_
   rintro e w3 ⟨rfl,rfl⟩;rw[hq];replace hq:=Za hq;cases p with
   | true =>
    have h8:=Za (hp2.1 rfl);clear hp2
    go_wp2_with fail
    go_ret;exact⟨Zv (by rw[hr.out,h8.out]),hb2.out⟩
   | false =>
    have h0:=Za (hp2.2 rfl);clear hp2
    go_wp2_with fail
    go_ret;exact⟨Zv (by rw[hr.out,h0.out]),hb2.out⟩}
def Zi0 (s:Rm):Bool:=Zb4 s.1||decide (10000<s.2.1.length)||decide (10000<s.2.2.length)
theorem Zvd {s:Rm}(h:Zi0 s=false):Zb4 s.1=false/\s.2.1.length<=10000/\s.2.2.length<=10000:=by
 unfold Zi0 at h;simp only[Bool.or_eq_false_iff,decide_eq_false_iff_not] at h;exact⟨h.1.1,by omega,by omega⟩
theorem Zth (v:Qad) (s:Rm) (w:Qac) (h:Sto (Old w) w v s):Qaj Tryz.prog 14 #[v] w fun e w'=>e=.returned (.bool (Zi0 s))/\Qak w.heap.size w w':=by{
 obtain⟨A,ca,B,cb,N,cn,L,cl,w1,rfl,hw1,f,hsz,hB,D,_,_⟩:=Zfm h;clear h;obtain⟨k0,k1,k2,k3,_,kg⟩:=Ze f;replace hsz:=Za hsz;obtain⟨n,hn⟩:∃ n,s.2.1.length=n:=⟨_,rfl⟩
 obtain⟨l,hl⟩:∃ l,s.2.2.length=l:=⟨_,rfl⟩
 have hr:Hid (Zi0 s=(Zb4 s.1||decide ((10000:Int)<n)||decide ((10000:Int)<l))):=Za (by
  unfold Zi0
  rw[hn,hl,show decide (10000<n)=decide ((10000:Int)<n) from decide_eq_decide.2 (by omega),show decide (10000<l)=decide ((10000:Int)<l) from decide_eq_decide.2 (by omega)])
 rw[hn] at k2;rw[hn,hl] at hw1 ⊢;rw[hl] at k3;clear hn hl;obtain⟨g,hg⟩:∃ g,Zb4 s.1=g:=⟨_,rfl⟩
 rw[hg] at hr
 go_enter Tryz.func14,Tryz.ntmps14
 go_upto_region 1 with fail
 clear hw1
 go_wp2_with fail
 with_reducible refine(Zv9 _ s.1 _ D.out).mono ?_
 rintro e w2 ⟨rfl,hb2⟩;rw[hg];replace k2:=(hb2.cell (p:=⟨w.heap.size,2,none⟩) kg).trans k2;replace k3:=(hb2.cell (p:=⟨w.heap.size,3,none⟩) kg).trans k3;replace hb2:=Za (hB.trans (hb2.mono hB.size));replace hg:=Za hg;cases g with
 | true =>
  go_wp2_with fail
  go_ret;exact⟨Zk (by rw[hr.out];rfl),hb2.out⟩
 | false =>
  by_cases hn:(10000:Int)<n
  ·go_wp2_with fail
   go_ret;exact⟨Zk (by rw[hr.out];simp[hn]),hb2.out⟩
  ·by_cases hl:(10000:Int)<l
   ·go_wp2_with fail
    go_ret;exact⟨Zk (by rw[hr.out];simp[hl]),hb2.out⟩
   ·go_wp2_with fail
    go_ret;exact⟨Zk (by rw[hr.out];simp),hb2.out⟩}
theorem Zgg (n:Int) (w:Qac):Qaj Tryz.prog 110 #[.int .i64 n] w fun e w'=>e=.returned (.bool (inT n))/\w=w':=by{
 rcases Z2f n with ⟨h,hr⟩ | ⟨h,h2,hr⟩ | ⟨h,h2,hr⟩
 all_goals
  replace hr:=Za hr
  go_enter Tryz.func110,Tryz.ntmps110
  go_wp2_with fail
  go_ret;exact⟨Zk (by first | exact hr.out.symm | (rw[hr.out];simp;omega)),rfl⟩}
theorem Vp (v:Qad) (s:Rm) (n:Int) (w:Qac) (h:Sto (Old w) w v s):Qaj Tryz.prog 66 #[v,.int .i64 n] w fun e w'=>e=.returned (.int .i64 (asE s n))/\Qak w.heap.size w w':=by{
 have H0:=Za h;obtain⟨A,ca,B,cb,N,cn,L,cl,w1,rfl,hw1,f,hsz,hB,_,NN,_⟩:=Zfm h;have H:=Za (h.below hB);clear h H0;obtain⟨k0,k1,k2,k3,_,kg⟩:=Ze f;replace hsz:=Za hsz;rcases Zcu s n with ⟨hm,he⟩ | ⟨hm,hn,he⟩ | ⟨k,hm,rfl,h8,h256,hx,he⟩ | ⟨k,hm,rfl,h8,h256,hx,he⟩
 ·replace he:=Za he
  have e1:=Zc1 hm
  go_enter Tryz.func66,Tryz.ntmps66
  go_upto_region 1 with fail
  clear hw1
  go_wp2_with fail
  with_reducible refine(Yy _ s _ H.out).mono ?_
  rintro e w2 ⟨rfl,hb2⟩;rw[e1];replace hb2:=Za (hB.trans (hb2.mono hB.size))
  go_wp2_with fail
  go_ret;exact⟨Zv he.out.symm,hb2.out⟩
 ·replace he:=Za he
  have e1:=Zbl hm;have hi:inT n=false:=by
   cases hi:inT n with
   | false=>rfl
   | true=>obtain⟨k,rfl,h8,h256⟩:=Zmh hi;omega
  go_enter Tryz.func66,Tryz.ntmps66
  go_upto_region 1 with fail
  clear hw1
  go_wp2_with fail
  with_reducible refine(Yy _ s _ H.out).mono ?_
  rintro e w2 ⟨rfl,hb2⟩;rw[e1];replace hb2:=Za (hB.trans (hb2.mono hB.size))
  go_wp2_with fail
  with_reducible refine(Zgg n _).mono ?_
  rintro e w3 ⟨rfl,rfl⟩;rw[hi]
  go_wp2_with fail
  go_ret;exact⟨Zv he.out.symm,hb2.out⟩
 all_goals
  replace he:=Za he;have e1:=Zbl hm;have hi:=Zrd h8 h256;have hlen:=Z0 (Zw hm).2.1;obtain⟨A',c',e2,l1,m1,hby⟩:=Yq (B:=w1.heap.size) (fun _ h=>h) NN.out;cases e2;obtain⟨ad,rfl,hbk,hc⟩:=hby (by omega)
  have hcell:=hc k (by omega);replace hbk:(ad.add k).block<w1.heap.size:=by rw[Zh];exact hbk
  obtain⟨x,hx2⟩:∃ x,s.2.1[k]?.getD 0=x:=⟨_,rfl⟩
  rw[hx2] at hcell hx;have hlt:k<s.2.1.length:=by omega
  first
   | have t0:=Y0 (y:=0) (q:=0) rfl hx
   | have t0:=Yf (y:=0) (q:=0) rfl hx
  replace hx2:=Za hx2;replace hx:=Za hx;replace hlen:=Za hlen;clear hc hby
  go_enter Tryz.func66,Tryz.ntmps66
  go_upto_region 1 with fail
  clear hw1
  go_wp2_with fail
  with_reducible refine(Yy _ s _ H.out).mono ?_
  rintro e w2 ⟨rfl,hb2⟩;rw[e1];replace k2:=(hb2.cell (p:=⟨w.heap.size,2,none⟩) kg).trans k2;replace hcell:=(hb2.cell hbk).trans hcell;replace hb2:=Za (hB.trans (hb2.mono hB.size))
  go_wp2_with fail
  with_reducible refine(Zgg (k:Int) _).mono ?_
  rintro e w3 ⟨rfl,rfl⟩;rw[hi]
  go_wp2_with fail
  go_ret;exact⟨Zv he.out.symm,hb2.out⟩}
end Go.Proofs.YtgmbjnajdfgenaaGreat
namespace Go.Proofs.YtgmbjnajdfgenaaGreat
open Go.RowKit Go.Shelf
attribute [local go_sem] Oper.semAt_some
theorem Zx6 (s:Rm) (k j:Nat):∃ r,Zag s (k+j)=Zag s k++r:=by{
 induction j with
 | zero=>exact⟨[],by simp⟩
 | succ j ih =>
  obtain⟨r,hr⟩:=ih;exact⟨r++(if Uc s (8+(k+j)) then [8+(k+j)] else []),by rw[<- Nat.add_assoc,Zf7,hr,P8]⟩}
theorem Ziw {s:Rm}{k:Nat}(h:Uc s (8+k)=true):Zag s (k+1)=Zag s k++[8+k]:=by rw[Zf7,h];rfl
theorem Zg4 {s:Rm}{k:Nat}(h:Uc s (8+k)=false):Zag s (k+1)=Zag s k:=by rw[Zf7,h];simp
theorem Z0g {s:Rm}{k:Nat}(hk:k<248) (h:Uc s (8+k)=true):∃ r,X5 s=Zag s k++(8+k)::r:=by
 obtain⟨r,hr⟩:=Zx6 s (k+1) (247-k);refine⟨r,?_⟩;rw[X5,show 248=k+1+(247-k) by omega,hr,Ziw h];simp
theorem Zj7 {s:Rm}{i:Nat}(h:s.2.1[i]?.getD 0≠0):Uc s i=false:=by simp[Uc,h]
theorem Zj2 {s:Rm}{i:Nat}(h:s.2.2[i]?.getD 0≠0):Uc s i=false:=by simp[Uc,h]
theorem Zjs {s:Rm}{i:Nat}(h:s.2.1[i]?.getD 0=0) (h':s.2.2[i]?.getD 0=0):Uc s i=true:=by simp[Uc,h,h']
theorem Z0k (F:Fence) (n:Nat) (hf:F.fn 179) (hro:F.round=none) (hn:1<=n) (l Bs n₀:Nat) (s:Rm) (ad bd:Qae) (cn cl:Nat) (_cn1:256<=cn) (_cl1:256<=cl) (hBn:Bs<n₀) (hab:ad.block<n₀) (hbb:bd.block<n₀) (J Jx:List Nat->Qac->Prop)
  (hY:∀ (pre:List Nat) (x:Nat) (W1:Qac),J pre W1->pre.length<248->YieldAt F (n-1) Tryz.prog l #[.int .i64 (x:Int)] W1 fun e W' =>
   (e=.returned (.bool true)/\J (pre++[x]) W'/\Qak n₀ W1 W')\/(e=.returned (.bool false)/\Jx (pre++[x]) W'))
  (W:Qac) (hb2:W.cell? ⟨Bs,2,none⟩=some (.slice (some ad) 256 cn)) (hb3:W.cell? ⟨Bs,3,none⟩=some (.slice (some bd) 256 cl))
  (hc:∀ j,j<256->W.cell? (ad.add j)=some (.int .u8 ((s.2.1[j]?.getD 0).toNat:Int))/\W.cell? (bd.add j)=some (.int .u8 ((s.2.2[j]?.getD 0).toNat:Int))) (h0:J [] W) :
  CallsIn F n Tryz.prog 179 #[.func (.yield l) #[] #[],.pointer (some ⟨Bs,0,none⟩)] W fun e W'=>(∃ v,e=.returned v) /\
   ((∃ ys,ys=X5 s/\J ys W')\/(∃ pre,(∃ k,k<248/\Uc s (8+k)=true/\pre=Zag s k++[8+k])/\Jx pre W')):=by{
 refine callsIn_of_wp Tryz.func179 rfl hf ?_ hro;simp only[Tryz.ntmps179,Qr,Qs,Qt,Qu,Qv,Qw,Qx,Qy,Qz,Qk,Q3];have HC:=Za hc;clear hc
 gi_wp2
 gi_loopw [3] (fun i wr=>∃ k:Nat,k<=248/\i=.int .i64 ((8+k:Nat):Int)/\J (Zag s k) wr/\Qak n₀ W wr) (fun i _=>(256-intOf i).toNat)
 case atStart=>exact⟨0,Pe _,by simp,h0,Qa _ _⟩
 case round =>
  obtain⟨k,hk,rfl,hJs,hnx⟩:=hrel;have b2:=(hnx.cell (p:=⟨Bs,2,none⟩) hBn).trans hb2;have b3:=(hnx.cell (p:=⟨Bs,3,none⟩) hBn).trans hb3;by_cases hlt:k<248
  ·have hx:=HC.out (8+k) (by omega)
   have c1:=(hnx.cell (p:=ad.add (8+k)) (by rw[Zh];exact hab)).trans hx.1;have c2:=(hnx.cell (p:=bd.add (8+k)) (by rw[Zh];exact hbb)).trans hx.2;clear hx;have hlen:=Zmw s k;have hi:8+k<256:=by omega
   have hno1:=Za (fun h=>Zg4 (Zj7 (s:=s) (i:=8+k) h));have hno2:=Za (fun h=>Zg4 (Zj2 (s:=s) (i:=8+k) h));have hyes:=Za (fun h h'=>Zjs (s:=s) (i:=8+k) h h');obtain⟨x,hx⟩:∃ x,s.2.1[8+k]?.getD 0=x:=⟨_,rfl⟩
   obtain⟨y,hy⟩:∃ y,s.2.2[8+k]?.getD 0=y:=⟨_,rfl⟩
   rw[hx] at c1 hno1 hyes;rw[hy] at c2 hno2 hyes;replace hx:=Za hx;replace hy:=Za hy;obtain⟨i,hi2⟩:∃ i,8+k=i:=⟨_,rfl⟩
   have hi3:Hid (8+k=i):=Za hi2;rw[hi2] at c1 c2 hi hyes ⊢;clear hi2;by_cases h0:x=0
   ·by_cases h1:y=0
    ·have t0:=Y0 (y:=0) (q:=0) rfl h0
     have t1:=Y0 (y:=0) (q:=0) rfl h1;have hfr:=Za (hyes.out h0 h1);have hfk:=Za (Ziw (s:=s) (k:=k) (by rw[hi3.out];exact hfr.out));replace h0:=Za h0;replace h1:=Za h1;obtain⟨fn,tmps,assign,body,hyy,hR⟩:=hY _ i wr hJs (by omega)
     try dsimp only at hyy
     gi_wp2
     refine hR.mono ?_;rintro e W3 (⟨rfl,hJ3,hk3⟩ | ⟨rfl,hJx3⟩)
     ·gi_wp2
      go_roundw
      case rel=>exact⟨k+1,by omega,by have:=hi3.out;go_num,by rw[hfk.out,hi3.out];exact hJ3,hnx.trans hk3⟩
      case measure=>simp[intOf];omega
     ·gi_wp2
      refine Qag (results_none rfl _ _ _) rfl ?_;exact⟨⟨_,rfl⟩,.inr ⟨_,⟨k,hlt,by rw[hi3.out];exact hfr.out,rfl⟩,by rw[hi3.out];exact hJx3⟩⟩
    ·have t0:=Y0 (y:=0) (q:=0) rfl h0
     have t1:=Yf (y:=0) (q:=0) rfl h1;have hfk:=Za (hno2.out h1);replace h0:=Za h0;replace h1:=Za h1
     gi_wp2
     try (refine⟨fun _ h=>(by cases h),?_⟩;gi_wp2)
     go_roundw
     case rel=>exact⟨k+1,by omega,by have:=hi3.out;go_num,by rw[hfk.out];exact hJs,hnx⟩
     case measure=>simp[intOf];omega
   ·have t0:=Yf (y:=0) (q:=0) rfl h0
    have hfk:=Za (hno1.out h0);replace h0:=Za h0
    gi_wp2
    try (refine⟨fun _ h=>(by cases h),?_⟩;gi_wp2)
    go_roundw
    case rel=>exact⟨k+1,by omega,by have:=hi3.out;go_num,by rw[hfk.out];exact hJs,hnx⟩
    case measure=>simp[intOf];omega
  ·obtain rfl:k=248:=by omega
   gi_wp2
   go_end0
   exact⟨⟨_,rfl⟩,.inl ⟨_,rfl,hJs⟩⟩}
theorem Zzs (F:Fence) (n:Nat) (hf:F.fn 158) (hro:F.round=none) (a b c d:Qad) (w:Qac) :
  CallsIn F n Tryz.prog 158 #[.agg #[a,b,c,d]] w fun e w'=>e=.returned (.func (.func 179) #[] #[.pointer (some ⟨w.heap.size,0,none⟩)])/\w'=w.alloc (.cells #[a,b,c,d] 29):=by
 refine callsIn_of_wp Tryz.func158 rfl hf ?_ hro;simp only[Tryz.ntmps158,Qr,Qs,Qt,Qu,Qv,Qw,Qx,Qy,Qz,Qk,Q3]
 gi_wp2
 go_ret;exact⟨rfl,rfl⟩
theorem Zqp (F:Fence) (n:Nat) (hf:F.fn 179) (hro:F.round=none) (hn:1<=n) (Bs n₀:Nat) (s:Rm) (ad bd:Qae) (cn cl:Nat) (cn1:256<=cn) (cl1:256<=cl) (hBn:Bs<n₀) (hab:ad.block<n₀) (hbb:bd.block<n₀)
  (w:Qac) (hn₀:n₀<=w.heap.size) (hb2:w.cell? ⟨Bs,2,none⟩=some (.slice (some ad) 256 cn)) (hb3:w.cell? ⟨Bs,3,none⟩=some (.slice (some bd) 256 cl))
  (hc:∀ j,j<256->w.cell? (ad.add j)=some (.int .u8 ((s.2.1[j]?.getD 0).toNat:Int))/\w.cell? (bd.add j)=some (.int .u8 ((s.2.2[j]?.getD 0).toNat:Int))) :
  SeqStopsK F n Tryz.prog 179 #[.pointer (some ⟨Bs,0,none⟩)] (fun x:Nat=>#[Value.int .i64 (x:Int)]) (Qak n₀) (fun ys=>ys=X5 s) (fun pre=>∃ k,k<248/\Uc s (8+k)=true/\pre=Zag s k++[8+k]) 248 w:=fun l J Jx W hW _ _ hY h0 =>
 Z0k F n hf hro hn l Bs n₀ s ad bd cn cl cn1 cl1 hBn hab hbb J Jx hY W ((hW.cell (p:=⟨Bs,2,none⟩) (by show Bs<_;omega)).trans hb2) ((hW.cell (p:=⟨Bs,3,none⟩) (by show Bs<_;omega)).trans hb3)
  (fun j hj=>⟨(hW.cell (p:=ad.add j) (by rw[Zh];omega)).trans (hc j hj).1,(hW.cell (p:=bd.add j) (by rw[Zh];omega)).trans (hc j hj).2⟩) h0
theorem Vr {w:Qac}{s:Rm}{N L:Option Qae}{cn cl:Nat}(hm:Yp s=true) (hN:rBy (Old w) w [.slice N s.2.1.length cn] s.2.1) (hL:rBy (Old w) w [.slice L s.2.2.length cl] s.2.2) :
  ∃ ad bd,N=some ad/\L=some bd/\s.2.1.length=256/\s.2.2.length=256/\256<=cn/\256<=cl/\ad.block<w.heap.size/\bd.block<w.heap.size/\(∀ j,j<256->w.cell? (ad.add j)=some (.int .u8 ((s.2.1[j]?.getD 0).toNat:Int))/\w.cell? (bd.add j)=some (.int .u8 ((s.2.2[j]?.getD 0).toNat:Int))):=by
 have hl1:=Z0 (Zw hm).2.1;have hl2:=Z0 (Zw hm).2.2;obtain⟨N',cn',e1,l1,_,hb1⟩:=Yq (B:=w.heap.size) (fun _ h=>h) hN;obtain⟨L',cl',e2,l2,_,hb2⟩:=Yq (B:=w.heap.size) (fun _ h=>h) hL;cases e1;cases e2;obtain⟨ad,rfl,h1,h2⟩:=hb1 (by omega);obtain⟨bd,rfl,h3,h4⟩:=hb2 (by omega);exact⟨ad,bd,rfl,rfl,hl1,hl2,by omega,by omega,h1,h3,fun j hj=>⟨h2 j (by omega),h4 j (by omega)⟩⟩
theorem Zuw (F:Fence) (n:Nat) (h3:F.fn 125) (h5:F.fn 158) (h7:F.fn 179) (hro:F.round=none) (hn:3<=n)
  (v:Qad) (s:Rm) (hm:Yp s=true) (w:Qac) (h:Sto (Old w) w v s) :
  CallsIn F n Tryz.prog 125 #[v] w fun e W'=>e=.returned (.tuple #[.int .i64 (tkK s:Int),.bool (!(X5 s).isEmpty)])/\Qak w.heap.size w W':=by{
 have h1:1<=n:=by omega
 obtain⟨A,ca,B,cb,N,cn,L,cl,rfl,hd,hN,hL⟩:=h.open;obtain⟨ad,bd,rfl,rfl,hl1,hl2,l1,l2,had,hbd,hc⟩:=Vr hm hN hL;rw[hl1,hl2];clear hd hN hL h;obtain⟨n1,hn1⟩:∃ n1,s.1.1.length=n1:=⟨_,rfl⟩
 obtain⟨n2,hn2⟩:∃ n2,s.1.2.length=n2:=⟨_,rfl⟩
 rw[hn1,hn2];clear hn1 hn2;replace hl1:=Za hl1;replace hl2:=Za hl2;replace hc:=Za hc;refine callsIn_of_wp_marks Tryz.func125 rfl h3 ?_ hro;simp only[Tryz.ntmps125,Qr,Qs,Qt,Qu,Qv,Qw,Qx,Qy,Qz,Qk,Q3]
 gi_wp2_with (gi_at_call 158;refine(Zzs F (n-1) h5 hro _ _ _ _ _).mono ?_;rintro e w' ⟨rfl,rfl⟩)
 obtain⟨W0,hW0,hB0,hs0,b1,b1f,b2,b2f,k2,k3⟩:∃ W0,(((w.alloc (.cells #[.slice A n1 ca,.slice B n2 cb,.slice (some ad) 256 cn,.slice (some bd) 256 cl] 29)).alloc (.cells #[.int .i64 0] 3)).alloc (.cells #[.bool false] 4)).alloc (.cells #[.slice A n1 ca,.slice B n2 cb,.slice (some ad) 256 cn,.slice (some bd) 256 cl] 29)=W0/\Qak w.heap.size w W0/\W0.heap.size=w.heap.size+4 /\
   W0.cell? ⟨w.heap.size+1,0,none⟩=some (.int .i64 0)/\W0.frozen? ⟨w.heap.size+1,0,none⟩=false/\W0.cell? ⟨w.heap.size+1+1,0,none⟩=some (.bool false)/\W0.frozen? ⟨w.heap.size+1+1,0,none⟩=false/\W0.cell? ⟨w.heap.size+1+1+1,2,none⟩=some (.slice (some ad) 256 cn)/\W0.cell? ⟨w.heap.size+1+1+1,3,none⟩=some (.slice (some bd) 256 cl) :=
  ⟨_,rfl,((((Qa _ w).alloc (Qb _) _).alloc (by simp) _).alloc (by simp;omega) _).alloc (by simp;omega) _,by simp,by go_simp,by go_simp,by go_simp,by go_simp,by go_simp,by go_simp⟩
 rw[hW0];clear hW0;have hlo:w.heap.size<=W0.heap.size:=hB0.size;refine wpIn_rangeFunc_ownF hro h1 (gf:=179) (lb:=#[.pointer (some ⟨w.heap.size+1+1+1,0,none⟩)]) rfl h7 (enters_of Tryz.func179 (by kernel_rfl) rfl)
  (Zqp F (n-1) h7 hro (by omega) (w.heap.size+1+1+1) W0.heap.size s ad bd cn cl l1 l2 (by omega) (by omega) (by omega) W0 (Qb _) k2 k3 (fun j hj=>⟨(hB0.cell (p:=ad.add j) (by rw[Zh];exact had)).trans (hc.out j hj).1,(hB0.cell (p:=bd.add j) (by rw[Zh];exact hbd)).trans (hc.out j hj).2⟩))
  (fun h h'=>h.trans h') (fun W l o o' hl h1 h2 h3=>belowK_b (w:=W0) (Qb _) W l o o' hl h1 h2 h3) (Qa _ _) (fun _=>rfl)
  (fun pre W=>(pre=[]/\W.cell? ⟨w.heap.size+1,0,none⟩=some (.int .i64 0)/\W.frozen? ⟨w.heap.size+1,0,none⟩=false/\W.cell? ⟨w.heap.size+1+1,0,none⟩=some (.bool false)/\W.frozen? ⟨w.heap.size+1+1,0,none⟩=false)/\Qak w.heap.size w W)
  (fun cd pre W=>(cd=.ret/\∃ x:Nat,pre=[x]/\W.cell? ⟨w.heap.size+1,0,none⟩=some (.int .i64 (x:Int))/\W.cell? ⟨w.heap.size+1+1,0,none⟩=some (.bool true))/\Qak w.heap.size w W)
  (OwnFrom.and (Own.from (fun s A B row hs hg hr=>⟨hs.1,cell_kept hs.2.1 hg hr,(frozen_kept hs.2.1 hg hr).trans hs.2.2.1,cell_kept hs.2.2.2.1 hg hr,(frozen_kept hs.2.2.2.1 hg hr).trans hs.2.2.2.2⟩) _) (ownFrom_below (Qb _) hlo))
  (fun cd=>OwnFrom.and (Own.from (fun s A B row hs hg hr=>by
   obtain⟨e,x,e2,h1,h2⟩:=hs
   exact⟨e,x,e2,cell_kept h1 hg hr,cell_kept h2 hg hr⟩) _) (ownFrom_below (Qb _) hlo))
  ⟨⟨rfl,b1,b1f,b2,b2f⟩,hB0⟩
  (fun x=>{ tmps:=#[.agg #[.slice A n1 ca,.slice B n2 cb,.slice (some ad) 256 cn,.slice (some bd) 256 cl],.pointer (some ⟨w.heap.size,0,none⟩),.pointer (some ⟨w.heap.size+1,0,none⟩),.pointer (some ⟨w.heap.size+1+1,0,none⟩),.int .i64 (x:Int),.agg #[.slice A n1 ca,.slice B n2 cb,.slice (some ad) 256 cn,.slice (some bd) 256 cl],
   .func (.func 179) #[] #[.pointer (some ⟨w.heap.size+1+1+1,0,none⟩)],.int .i64 (x:Int),Qai],defers:=[] }) ?assign ?body ?done ?stop
 case assign =>
  intro l x W K hK
  gi_wp2
  exact hK
 case body =>
  rintro l pre x W ⟨⟨rfl,c1,f1,c2,f2⟩,hb⟩ _
  gi_wp2
  refine⟨(KeepsOthers.setCell _ _ _).trans (KeepsOthers.setCell _ _ _),⟨rfl,x,rfl,?_,?_⟩,(hb.setCell (p:=⟨w.heap.size+1,0,none⟩) (by simp) _).setCell (p:=⟨w.heap.size+1+1,0,none⟩) (by simp;omega) _⟩
  ·go_simp
  ·go_simp
 case done =>
  rintro D zs W hD rfl ⟨⟨hz,c1,f1,c2,f2⟩,hb⟩ hK;have hk0:Hid (tkK s=0):=Za (by simp[tkK,hz]);have hemp:Hid ((X5 s).isEmpty=true):=Za (by rw[hz];rfl);clear hz;obtain⟨W2,hW2,d1,d2,hb2,hK2⟩:∃ W2,(W.setCell ⟨w.heap.size+1,0,none⟩ (.int .i64 0)).setCell ⟨w.heap.size+1+1,0,none⟩ (.bool false)=W2/\W2.cell? ⟨w.heap.size+1,0,none⟩=some (.int .i64 0)/\W2.cell? ⟨w.heap.size+1+1,0,none⟩=some (.bool false)/\Qak w.heap.size w W2/\W2.heap[D]? = some (.deferred (some [])) :=
   ⟨_,rfl,by go_simp,by go_simp,(hb.setCell (p:=⟨w.heap.size+1,0,none⟩) (by simp) _).setCell (p:=⟨w.heap.size+1+1,0,none⟩) (by simp;omega) _,((KeepsOthers.setCell W ⟨w.heap.size+1,0,none⟩ (.int .i64 0)).trans (KeepsOthers.setCell _ ⟨w.heap.size+1+1,0,none⟩ (.bool false))).same D _ hK rfl⟩
  gi_wp2
  try rw[hW2]
  refine⟨by simp,.inl ⟨_,_,rfl,run_takeDeferred hK2,?_⟩⟩;have hro':∀ r,some D=some r->∃ o:Obj,W2.heap[r]? = some o/\o.isCells=false:=fun r e=>by cases e;exact⟨_,hK2,rfl⟩
  have c1':=cell_kept d1 (grownBy_putObj' _ D (.deferred none)) hro';have c2':=cell_kept d2 (grownBy_putObj' _ D (.deferred none)) hro';refine⟨.tuple #[.int .i64 0,.bool false],?_,by rw[hk0.out,hemp.out];rfl,hb2.trans (belowK_b hlo _ D _ _ hD hK2 rfl rfl)⟩;simp[results,Tryz.f125,go_sem,c1',c2']
 case stop =>
  rintro D cd pre W hD ⟨k,hk,hfr,hpk⟩ ⟨⟨rfl,x,rfl,c1,c2⟩,hb⟩ hK;obtain⟨r,hr⟩:=Z0g hk hfr;have e2:Zag s k=[]/\8+k=x:=by
   cases hq:Zag s k with
   | nil=>rw[hq] at hpk;simp at hpk;exact⟨rfl,hpk.symm⟩
   | cons y q=>rw[hq] at hpk;simp at hpk
  rw[e2.1,e2.2] at hr;have hk0:Hid (tkK s=x):=Za (by simp[tkK,hr]);have hemp:Hid ((X5 s).isEmpty=false):=Za (by rw[hr];rfl);clear hr e2 hpk
  gi_wp2
  refine⟨by simp,.inl ⟨_,_,rfl,run_takeDeferred hK,?_⟩⟩;have hro':∀ r,some D=some r->∃ o:Obj,W.heap[r]? = some o/\o.isCells=false:=fun r e=>by cases e;exact⟨_,hK,rfl⟩
  have c1':=cell_kept c1 (grownBy_putObj' _ D (.deferred none)) hro';have c2':=cell_kept c2 (grownBy_putObj' _ D (.deferred none)) hro';refine⟨.tuple #[.int .i64 (x:Int),.bool true],?_,by rw[hk0.out,hemp.out];rfl,hb.trans (belowK_b hlo _ D _ _ hD hK rfl rfl)⟩;simp[results,Tryz.f125,go_sem,c1',c2']}
theorem Zfd (v:Qad) (s:Rm) (hm:Yp s=true) (w:Qac) (h:Sto (Old w) w v s) :
  Qaj Tryz.prog 125 #[v] w fun e W'=>e=.returned (.tuple #[.int .i64 (tkK s:Int),.bool (!(X5 s).isEmpty)])/\Qak w.heap.size w W' :=
 callsIn_wide.1 (Zuw Fence.wide 3 trivial trivial trivial rfl (Qb _) v s hm w h)
end Go.Proofs.YtgmbjnajdfgenaaGreat
namespace Go.Proofs.YtgmbjnajdfgenaaGreat
open Go.RowKit Go.Shelf Go.Maps
attribute [local go_sem] Oper.semAt_some
def Zna (l:List Nat):List Int:=List.map (fun n:Nat=>(n:Int)) l
theorem Zar (l:List Nat):(Zna l).length=l.length:=by simp[Zna]
theorem Zt0 (l:List Nat) (x:Nat):Zna (l++[x])=Zna l++[(x:Int)]:=by simp[Zna]
theorem Zub {l r:List Nat}{x:Nat}(h:l=x::r):(Zna l)[0]? = some (x:Int):=by rw[h];rfl
theorem V3 {w:Qac}{v:Qad}{s:Rm}(h:Sto (Old w) w v s):∃ A ca B cb N cn L cl w1,v=.agg #[.slice A s.1.1.length ca,.slice B s.1.2.length cb,.slice N s.2.1.length cn,.slice L s.2.2.length cl] /\
  (w.alloc (.cells #[.slice A s.1.1.length ca,.slice B s.1.2.length cb,.slice N s.2.1.length cn,.slice L s.2.2.length cl] 29)).alloc (.cells #[.slice none 0 0,.slice none 0 0,.slice none 0 0,.slice none 0 0] 29)=w1 /\
  w1.heap[w.heap.size]? = some (.cells #[.slice A s.1.1.length ca,.slice B s.1.2.length cb,.slice N s.2.1.length cn,.slice L s.2.2.length cl] 29 (0,0))/\w1.heap[w.heap.size+1]? = some (.cells #[.slice none 0 0,.slice none 0 0,.slice none 0 0,.slice none 0 0] 29 (0,0))/\w1.heap.size=w.heap.size+2/\Qak w.heap.size w w1 /\
  Hid (Sto (Old w1) w1 (.agg #[.slice A s.1.1.length ca,.slice B s.1.2.length cb,.slice N s.2.1.length cn,.slice L s.2.2.length cl]) s):=by
 obtain⟨A,ca,B,cb,N,cn,L,cl,rfl,_,_,_⟩:=h.open;have hb:Qak w.heap.size w ((w.alloc (.cells #[.slice A s.1.1.length ca,.slice B s.1.2.length cb,.slice N s.2.1.length cn,.slice L s.2.2.length cl] 29)).alloc (.cells #[.slice none 0 0,.slice none 0 0,.slice none 0 0,.slice none 0 0] 29)):=((Qa _ w).alloc (Qb _) _).alloc (by simp) _;refine⟨A,ca,B,cb,N,cn,L,cl,_,rfl,rfl,Yk (Qah _ _),?_,by simp,hb,Za (h.below hb)⟩;have:=Qah (w.alloc (.cells #[.slice A s.1.1.length ca,.slice B s.1.2.length cb,.slice N s.2.1.length cn,.slice L s.2.2.length cl] 29)) (.cells #[.slice none 0 0,.slice none 0 0,.slice none 0 0,.slice none 0 0] 29)
 rwa [World.size_alloc] at this
theorem Zsh {s:Rm}{b:List UInt8}(hm:Yp s=true) (hb:b.length=128) (hl:X5 s≠[]):(8<=tkK s/\tkK s<256/\s.2.1[tkK s]?.getD 0=0/\Zmm s.1 (tkK s:Int) b=(if 4096<=s.1.2.length then 9 else 0)):=by{
 cases hf:X5 s with
 | nil=>exact absurd hf hl
 | cons k m =>
  obtain⟨h1,h2,h3,h4⟩:=Zu5 (s:=s) (i:=k) (by rw[hf];exact P5);have hk:tkK s=k:=by simp[tkK,hf]
  rw[hk];refine⟨h1,h2,h3,?_⟩;have hmd:=(Zw hm).1;have h5:=(Zdl hmd).2.1;have h6:Xt (k:Int)=true:=Zex h2;by_cases h7:4096<=s.1.2.length
  ·have h8:s.1.2.length=4096:=by omega
   simp[Zmm,hmd,h6,hb,h8]
  ·have h8:s.1.2.length≠4096:=by omega
   simp[Zmm,hmd,h6,hb,h8,h7]}
theorem Zwe (v u:Qad) (s:Rm) (b:List UInt8) (w:Qac) (h:Sto (Old w) w v s) (hu:rBy (Old w) w [u] b) :
  Qaj Tryz.prog 82 #[v,u] w fun e w'=>∃ t,e=.returned (.tuple #[t,.int .i64 (tkN s b),.int .i64 (tkE s b)])/\Sto (New w.heap.size w') w' t (tkV s b)/\Qak w.heap.size w w':=by{
 obtain⟨A,ca,B,cb,N,cn,L,cl,w1,rfl,hw1,f1,f2,hsz,hB,H⟩:=V3 h;obtain⟨E,ce,rfl,_⟩:=id (Zm hu);have U:=Za (Zf.old hu hB);clear h hu;obtain⟨k0,k1,k2,k3,_,kg⟩:=Ze f1;replace hsz:=Za hsz;rcases Zyl s b with ⟨hm,hE⟩ | ⟨hm,hlb,hE⟩ | ⟨hm,hlb,hfl,hE⟩ | ⟨hm,hlb,hfl,hfw,hE⟩ | ⟨hm,hlb,hfl,hfw,hE⟩
 ·replace hE:=Za hE
  have e1:=Zc1 hm;replace f2:=Za f2
  go_enter Tryz.func82,Tryz.ntmps82
  go_upto_region 1 with fail
  clear hw1
  go_wp2_with fail
  with_reducible refine(Yy _ s _ H.out).mono ?_
  rintro e w2 ⟨rfl,hb2⟩;rw[e1];have F2:=(hb2.block (w.heap.size+1) (by rw[hsz.out];omega)).trans f2.out;replace hb2:=Za (hB.trans (hb2.mono hB.size));obtain⟨k0,k1,k2,k3,k4,k5⟩:=Ze F2;obtain⟨W9,hW9,g9,gr9,gs9⟩:=Zo (a':=.slice none 0 0) (b':=.slice none 0 0) (c':=.slice none 0 0) (d':=.slice none 0 0) F2;obtain⟨n0,n1,n2,n3,_,_⟩:=Ze g9;have hB9:=Za ((hb2).out.grown gr9 (hb2).out.size (fun q e=>by cases e;omega));replace g9:=Za g9;replace F2:=Za F2;clear gr9 gs9
  go_wp2_with fail
  refine Qag (v:=.tuple #[.agg #[.slice none 0 0,.slice none 0 0,.slice none 0 0,.slice none 0 0],.int .i64 0,.int .i64 8]) (by simp[results,Tryz.results82,go_sem,n0,n1,n2,n3]) rfl ?_;obtain⟨hN,hV⟩:=Zm9 (s:=s) (b:=b) (by rw[hE.out];decide);rw[hN,hV,hE.out];exact⟨_,rfl,Zu _ _,hB9.out⟩
 ·replace hE:=Za hE
  have e1:=Zbl hm;have e2:((b.length:Int) != 128)=true:=by simp;omega
  replace f2:=Za f2
  go_enter Tryz.func82,Tryz.ntmps82
  go_upto_region 1 with fail
  clear hw1
  go_wp2_with fail
  with_reducible refine(Yy _ s _ H.out).mono ?_
  rintro e w2 ⟨rfl,hb2⟩;rw[e1];have G2:=(hb2.block w.heap.size kg).trans f1;obtain⟨m0,m1,m2,m3,_,mg⟩:=Ze G2;have F2:=(hb2.block (w.heap.size+1) (by rw[hsz.out];omega)).trans f2.out;have H2:=Za (H.out.below hb2);have U2:=Za (Zf.old U.out hb2);have s2:Hid (w.heap.size+2<=w2.heap.size):=Za (by have:=hb2.size;have:=hsz.out;omega);replace hb2:=Za (hB.trans (hb2.mono hB.size));replace G2:=Za G2;replace F2:=Za F2;clear k0 k1 k2 k3 kg f1 hB;replace F2:=F2.out;obtain⟨k0,k1,k2,k3,k4,k5⟩:=Ze F2;obtain⟨W9,hW9,g9,gr9,gs9⟩:=Zo (a':=.slice none 0 0) (b':=.slice none 0 0) (c':=.slice none 0 0) (d':=.slice none 0 0) F2;obtain⟨n0,n1,n2,n3,_,_⟩:=Ze g9;have hB9:=Za ((hb2).out.grown gr9 (hb2).out.size (fun q e=>by cases e;omega));replace g9:=Za g9;replace F2:=Za F2;clear gr9 gs9
  go_wp2_with fail
  refine Qag (v:=.tuple #[.agg #[.slice none 0 0,.slice none 0 0,.slice none 0 0,.slice none 0 0],.int .i64 0,.int .i64 3]) (by simp[results,Tryz.results82,go_sem,n0,n1,n2,n3]) rfl ?_;obtain⟨hN,hV⟩:=Zm9 (s:=s) (b:=b) (by rw[hE.out];decide);rw[hN,hV,hE.out];exact⟨_,rfl,Zu _ _,hB9.out⟩
 ·replace hE:=Za hE
  have e1:=Zbl hm;have e2:((b.length:Int) != 128)=false:=by rw[hlb];rfl
  have hemp:(!(X5 s).isEmpty)=false:=by rw[hfl];rfl
  replace f2:=Za f2;replace hlb:=Za hlb;replace hfl:=Za hfl
  go_enter Tryz.func82,Tryz.ntmps82
  go_upto_region 1 with fail
  clear hw1
  go_wp2_with fail
  with_reducible refine(Yy _ s _ H.out).mono ?_
  rintro e w2 ⟨rfl,hb2⟩;rw[e1];have G2:=(hb2.block w.heap.size kg).trans f1;obtain⟨m0,m1,m2,m3,_,mg⟩:=Ze G2;have F2:=(hb2.block (w.heap.size+1) (by rw[hsz.out];omega)).trans f2.out;have H2:=Za (H.out.below hb2);have U2:=Za (Zf.old U.out hb2);have s2:Hid (w.heap.size+2<=w2.heap.size):=Za (by have:=hb2.size;have:=hsz.out;omega);replace hb2:=Za (hB.trans (hb2.mono hB.size));replace G2:=Za G2;replace F2:=Za F2;clear k0 k1 k2 k3 kg f1 hB
  go_wp2_with fail
  with_reducible refine(Zfd _ s hm _ H2.out).mono ?_
  rintro e w3 ⟨rfl,hb3⟩;rw[hemp];have G3:=(hb3.block w.heap.size mg).trans G2.out;obtain⟨k0,k1,k2,k3,_,kg⟩:=Ze G3;have F3:=(hb3.block (w.heap.size+1) (by have:=s2.out;omega)).trans F2.out;have H3:=Za (H2.out.below hb3);have U3:=Za (Zf.old U2.out hb3);have s3:Hid (w.heap.size+2<=w3.heap.size):=Za (by have:=hb3.size;have:=s2.out;omega);replace hb3:=Za (hb2.out.trans (hb3.mono hb2.out.size));replace G3:=Za G3;clear m0 m1 m2 m3 mg G2 F2 H2 U2 hb2;obtain⟨k0,k1,k2,k3,k4,k5⟩:=Ze F3;obtain⟨W9,hW9,g9,gr9,gs9⟩:=Zo (a':=.slice none 0 0) (b':=.slice none 0 0) (c':=.slice none 0 0) (d':=.slice none 0 0) F3;obtain⟨n0,n1,n2,n3,_,_⟩:=Ze g9;have hB9:=Za ((hb3).out.grown gr9 (hb3).out.size (fun q e=>by cases e;omega));replace g9:=Za g9;replace F3:=Za F3;clear gr9 gs9
  go_wp2_with fail
  refine Qag (v:=.tuple #[.agg #[.slice none 0 0,.slice none 0 0,.slice none 0 0,.slice none 0 0],.int .i64 0,.int .i64 9]) (by simp[results,Tryz.results82,go_sem,n0,n1,n2,n3]) rfl ?_;obtain⟨hN,hV⟩:=Zm9 (s:=s) (b:=b) (by rw[hE.out];decide);rw[hN,hV,hE.out];exact⟨_,rfl,Zu _ _,hB9.out⟩
 ·replace hE:=Za hE
  have e1:=Zbl hm;have e2:((b.length:Int) != 128)=false:=by rw[hlb];rfl
  have hemp:(!(X5 s).isEmpty)=true:=by cases hq:X5 s with
   | nil=>exact absurd hq hfl
   | cons k m=>rfl
  obtain⟨h8,h256,h0,hwe⟩:=Zsh hm hlb hfl;rw[if_pos hfw] at hwe;obtain⟨k,hk⟩:∃ k,tkK s=k:=⟨_,rfl⟩
  obtain⟨R,hR⟩:∃ R,wrR s.1 (k:Int) b=R:=⟨_,rfl⟩
  rw[hk] at h8 h256 hwe;replace f2:=Za f2;replace hlb:=Za hlb;replace hfl:=Za hfl;replace hk:=Za hk;replace hR:=Za hR;replace hwe:=Za hwe
  go_enter Tryz.func82,Tryz.ntmps82
  go_upto_region 1 with fail
  clear hw1
  go_wp2_with fail
  with_reducible refine(Yy _ s _ H.out).mono ?_
  rintro e w2 ⟨rfl,hb2⟩;rw[e1];have G2:=(hb2.block w.heap.size kg).trans f1;obtain⟨m0,m1,m2,m3,_,mg⟩:=Ze G2;have F2:=(hb2.block (w.heap.size+1) (by rw[hsz.out];omega)).trans f2.out;have H2:=Za (H.out.below hb2);have U2:=Za (Zf.old U.out hb2);have s2:Hid (w.heap.size+2<=w2.heap.size):=Za (by have:=hb2.size;have:=hsz.out;omega);replace hb2:=Za (hB.trans (hb2.mono hB.size));replace G2:=Za G2;replace F2:=Za F2;clear k0 k1 k2 k3 kg f1 hB
  go_wp2_with fail
  with_reducible refine(Zfd _ s hm _ H2.out).mono ?_
  rintro e w3 ⟨rfl,hb3⟩;rw[hemp];have G3:=(hb3.block w.heap.size mg).trans G2.out;obtain⟨k0,k1,k2,k3,_,kg⟩:=Ze G3;have F3:=(hb3.block (w.heap.size+1) (by have:=s2.out;omega)).trans F2.out;have H3:=Za (H2.out.below hb3);have U3:=Za (Zf.old U2.out hb3);have s3:Hid (w.heap.size+2<=w3.heap.size):=Za (by have:=hb3.size;have:=s2.out;omega);replace hb3:=Za (hb2.out.trans (hb3.mono hb2.out.size));replace G3:=Za G3;clear m0 m1 m2 m3 mg G2 F2 H2 U2 hb2;rw[hk.out];replace F3:=Za F3
  go_wp2_with fail
  with_reducible refine(Zoo _ _ s.1 (k:Int) b _ H3.out.parts.1 U3.out).mono ?_
  rintro e w4 ⟨A4,c4,B4,d4,rfl,_,hb4⟩;rw[hwe.out,hR.out];have F4:=(hb4.block (w.heap.size+1) (by have:=s3.out;omega)).trans F3.out;obtain⟨w5,hw5,g5,hs5,hb5⟩:=Zy w4 (.slice A4 R.1.length c4) (.slice B4 R.2.length d4) 26;have F5:=(hb5.block (w.heap.size+1) (by have:=s3.out;have:=hb4.size;omega)).trans F4;have B5:=Za (hb3.out.trans ((hb4.trans (hb5.mono hb4.size)).mono hb3.out.size));replace F4:=Za F4;replace g5:=Za g5;replace hs5:=Za hs5;clear hb4 hb5
  go_upto_region 10 with fail
  clear hw5;obtain⟨k0,k1,k2,k3,k4,k5⟩:=Ze F5;obtain⟨W9,hW9,g9,gr9,gs9⟩:=Zo (a':=.slice none 0 0) (b':=.slice none 0 0) (c':=.slice none 0 0) (d':=.slice none 0 0) F5;obtain⟨n0,n1,n2,n3,_,_⟩:=Ze g9;have hB9:=Za ((B5).out.grown gr9 (B5).out.size (fun q e=>by cases e;omega));replace g9:=Za g9;replace F5:=Za F5;clear gr9 gs9
  go_wp2_with fail
  refine Qag (v:=.tuple #[.agg #[.slice none 0 0,.slice none 0 0,.slice none 0 0,.slice none 0 0],.int .i64 0,.int .i64 9]) (by simp[results,Tryz.results82,go_sem,n0,n1,n2,n3]) rfl ?_;obtain⟨hN,hV⟩:=Zm9 (s:=s) (b:=b) (by rw[hE.out];decide);rw[hN,hV,hE.out];exact⟨_,rfl,Zu _ _,hB9.out⟩
 ·replace hE:=Za hE
  have e1:=Zbl hm;have e2:((b.length:Int) != 128)=false:=by rw[hlb];rfl
  have hemp:(!(X5 s).isEmpty)=true:=by cases hq:X5 s with
   | nil=>exact absurd hq hfl
   | cons k m=>rfl
  obtain⟨h8,h256,h0,hwe⟩:=Zsh hm hlb hfl;rw[if_neg (by omega)] at hwe
  have hV:Hid (tkV s b=(wrR s.1 (tkK s:Int) b,s.2.1.set (tkK s) 1,s.2.2)):=Za (by
   rw[(Zqd hE.out).2.2.2.2.2.2.2.2.2,Z4b hwe])
  have hT:Hid (tkN s b=(tkK s:Int)):=Za (Zqd hE.out).2.2.2.2.2.2.2.2.1;obtain⟨k,hk⟩:∃ k,tkK s=k:=⟨_,rfl⟩
  obtain⟨R,hR⟩:∃ R,wrR s.1 (k:Int) b=R:=⟨_,rfl⟩
  rw[hk] at h8 h256 hwe hV hT h0;rw[hR] at hV;obtain⟨hu0,hu1⟩:=Z6i (Zw hm).2.1 h8 h256 (by rw[h0];decide);rw[h0,show (0:UInt8)+1=1 from rfl] at hu1;obtain⟨T,hT2⟩:∃ T,s.2.1.set k 1=T:=⟨_,rfl⟩
  rw[hT2] at hu1 hV;have hll:=Z0 (Zw hm).2.2;replace f2:=Za f2;replace hlb:=Za hlb;replace hfl:=Za hfl;replace hk:=Za hk;replace hR:=Za hR;replace hwe:=Za hwe;replace hu0:=Za hu0;replace hu1:=Za hu1;replace hT2:=Za hT2;replace hll:=Za hll;replace h0:=Za h0
  go_enter Tryz.func82,Tryz.ntmps82
  go_upto_region 1 with fail
  clear hw1
  go_wp2_with fail
  with_reducible refine(Yy _ s _ H.out).mono ?_
  rintro e w2 ⟨rfl,hb2⟩;rw[e1];have G2:=(hb2.block w.heap.size kg).trans f1;obtain⟨m0,m1,m2,m3,_,mg⟩:=Ze G2;have F2:=(hb2.block (w.heap.size+1) (by rw[hsz.out];omega)).trans f2.out;have H2:=Za (H.out.below hb2);have U2:=Za (Zf.old U.out hb2);have s2:Hid (w.heap.size+2<=w2.heap.size):=Za (by have:=hb2.size;have:=hsz.out;omega);replace hb2:=Za (hB.trans (hb2.mono hB.size));replace G2:=Za G2;replace F2:=Za F2;clear k0 k1 k2 k3 kg f1 hB
  go_wp2_with fail
  with_reducible refine(Zfd _ s hm _ H2.out).mono ?_
  rintro e w3 ⟨rfl,hb3⟩;rw[hemp];have G3:=(hb3.block w.heap.size mg).trans G2.out;obtain⟨k0,k1,k2,k3,_,kg⟩:=Ze G3;have F3:=(hb3.block (w.heap.size+1) (by have:=s2.out;omega)).trans F2.out;have H3:=Za (H2.out.below hb3);have U3:=Za (Zf.old U2.out hb3);have s3:Hid (w.heap.size+2<=w3.heap.size):=Za (by have:=hb3.size;have:=s2.out;omega);replace hb3:=Za (hb2.out.trans (hb3.mono hb2.out.size));replace G3:=Za G3;clear m0 m1 m2 m3 mg G2 F2 H2 U2 hb2;rw[hk.out];replace F3:=Za F3
  go_wp2_with fail
  with_reducible refine(Zoo _ _ s.1 (k:Int) b _ H3.out.parts.1 U3.out).mono ?_
  rintro e w4 ⟨A4,c4,B4,d4,rfl,hd4,hb4⟩;rw[hwe.out,hR.out];rw[hR.out] at hd4;have F4:=(hb4.block (w.heap.size+1) (by have:=s3.out;omega)).trans F3.out;have G4:=(hb4.block w.heap.size kg).trans G3.out;obtain⟨w5,hw5,g5,hs5,hb5⟩:=Zy w4 (.slice A4 R.1.length c4) (.slice B4 R.2.length d4) 26;have F5:=Za ((hb5.block (w.heap.size+1) (by have:=s3.out;have:=hb4.size;omega)).trans F4);have G5:=(hb5.block w.heap.size (by have:=s3.out;have:=hb4.size;omega)).trans G4;have H5:=Za ((H3.out.below hb4).below hb5);have D5:=Za (hd4.new (Qb _) hb5);have s5:Hid (w4.heap.size+1=w5.heap.size/\w.heap.size+2<=w4.heap.size):=Za ⟨by omega,by have:=s3.out;have:=hb4.size;omega⟩;have B5:=Za (hb3.out.trans ((hb4.trans (hb5.mono hb4.size)).mono hb3.out.size));obtain⟨m0,m1,m2,m3,_,mg⟩:=Ze G5;replace F4:=Za F4;replace g5:=Za g5;replace hs5:=Za hs5;replace G5:=Za G5;clear hb4 hb5 G4 k0 k1 k2 k3 hd4 H3 U3 G3
  go_upto_region 10 with fail
  clear hw5
  go_wp2_with fail
  with_reducible refine(Zv8 _ s.2.1 (k:Int) _ H5.out.parts.2.1).mono ?_
  rintro e w6 ⟨E6,c6,rfl,h6,hb6⟩;rw[hu0.out,hu1.out];rw[hu1.out] at h6;have F6:=Za ((hb6.block (w.heap.size+1) (by have:=s5.out;omega)).trans F5.out);have G6:=(hb6.block w.heap.size mg).trans G5.out;have P6:=(hb6.block w4.heap.size (by have:=s5.out;omega)).trans g5.out;have H6:=Za (H5.out.below hb6);have D6:=Za (D5.out.new (Qb _) hb6);have T6:=Za h6;have B6:=Za (B5.out.trans (hb6.mono B5.out.size));have s6:Hid (w.heap.size+2<=w6.heap.size):=Za (by have:=s5.out;have:=hb6.size;omega);clear hb6 h6 m0 m1 m2 m3;obtain⟨m0,m1,m2,m3,_,mg⟩:=Ze G6;obtain⟨p0,p1,_,pg⟩:=Zg P6;replace G6:=Za G6;replace P6:=Za P6;have hcl:Hid (∀ W,Qak w6.heap.size w6 W->Qaj Tryz.prog 80 #[.slice L s.2.2.length cl] W fun e W'=>∃ X xc,e=.returned (.slice X s.2.2.length xc)/\rBy (New w6.heap.size W') W' [.slice X s.2.2.length xc] s.2.2/\Qak w6.heap.size w6 W'):=Za fun W hC=>by
   refine(Ui _ s.2.2 W (by rw[hll.out];omega) (Zf.old H6.out.parts.2.2 hC)).mono ?_;rintro e W' ⟨u,rfl,hx,hb⟩;obtain⟨X,xc,rfl,_⟩:=id (Zm hx);exact⟨X,xc,rfl,Zf.mono hx hC.size,hC.trans (hb.mono hC.size)⟩
  go_upto_region 15 with fail
  have hdr:Qak w6.heap.size w6 w6.drew:=(Qa _ _).drew
  go_region_with (first
   | (go_at_call 80;refine(hcl.out _ hdr).mono ?_;rintro e' wm ⟨X,xc,rfl,hx,hw⟩;have bW:=(hw.block (w.heap.size+1) (by have:=s6.out;omega)).trans F6.out;obtain⟨y0,y1,_,_⟩:=Zg ((hw.block w4.heap.size pg).trans P6.out);obtain⟨c0,c1,c2,c3,c4',_⟩:=Ze bW))
  all_goals
   (go_wp2_with fail
    obtain⟨W9,hW9,g9,gr9,gs9⟩:=Zo (a':=.slice A4 R.1.length c4) (b':=.slice B4 R.2.length d4) (c':=.slice E6 T.length c6) (d':=.slice X s.2.2.length xc) bW;obtain⟨n0,n1,n2,n3,_,_⟩:=Ze g9;rw[hW9];have BW:=B6.out.trans (hw.mono B6.out.size);have l3:=hb3.out.size;have l5:=B5.out.size;have l6:=B6.out.size;have r3:=s3.out;have r5:=s5.out;have r6:=s6.out;refine Qag (v:=.tuple #[.agg #[.slice A4 R.1.length c4,.slice B4 R.2.length d4,.slice E6 T.length c6,.slice X s.2.2.length xc],.int .i64 (k:Int),.int .i64 0]) (by simp[results,Tryz.results82,go_sem,n0,n1,n2,n3]) rfl ?_;rw[hT.out,hV.out,hE.out]
    exact⟨_,rfl,Sto.mk (((D6.out.new (Qb _) hw).grown gr9 (fun q e=>by cases e;omega)).new l3 (Qa _ _)) (Zf.new (Zf.grown (Zf.new T6.out (Qb _) hw) gr9 (fun q e=>by cases e;omega)) l5 (Qa _ _)) (Zf.new (Zf.grown hx gr9 (fun q e=>by cases e;omega)) l6 (Qa _ _)),BW.grown gr9 BW.size (fun q e=>by cases e;omega)⟩)}
theorem Zw7 {s:Rm}{n:Int}(h:asE s n≠0):shE s n=asE s n:=by simp[shE,h]
theorem Z6f {s:Rm}{n:Int}(h:asE s n=0):Yp s=true/\upE s.2.1 n=shE s n/\(shE s n=0->shV s n=(s.1,upV s.2.1 n,s.2.2)):=by{
 rcases Zcu s n with ⟨_,e⟩ | ⟨_,_,e⟩ | ⟨k,_,_,_,_,_,e⟩ | ⟨k,hm,rfl,h8,h256,hx,e⟩
 ·rw[e] at h;cases h
 ·rw[e] at h;cases h
 ·rw[e] at h;cases h
 ·have hi:=Zrd h8 h256
  have hmt:=(Zw hm).2.1;have h1:upE s.2.1 (k:Int)=shE s (k:Int):=by simp[upE,Zci,shE,e,hmt,hi]
  exact⟨hm,h1,fun h0=>by rw[shV,if_pos h0,upV,if_pos (by rw[h1];exact h0)]⟩}
theorem Zt5 (v:Qad) (s:Rm) (n:Int) (w:Qac) (h:Sto (Old w) w v s) :
  Qaj Tryz.prog 53 #[v,.int .i64 n] w fun e w'=>∃ t,e=.returned (.tuple #[t,.int .i64 (shE s n)])/\Sto (New w.heap.size w') w' t (shV s n)/\Qak w.heap.size w w':=by{
 obtain⟨A,ca,B,cb,N,cn,L,cl,w1,rfl,hw1,f1,f2,hsz,hB,H⟩:=V3 h;clear h;obtain⟨k0,k1,k2,k3,_,kg⟩:=Ze f1;replace hsz:=Za hsz;replace f2:=Za f2;obtain⟨q,hq⟩:∃ q,shE s n=q:=⟨_,rfl⟩
 by_cases ha:asE s n=0
 ·obtain⟨hm,hup,hsv⟩:=Z6f ha
  rw[hq] at hup hsv;have hll:=Za (Z0 (Zw hm).2.2);have hsm:=Za (Zcp (Zw hm).1);obtain⟨T,hT⟩:∃ T,upV s.2.1 n=T:=⟨_,rfl⟩
  rw[hT] at hsv;have hq0:q≠0->shV s n=Zn:=fun h=>Z5r (by rw[hq];exact h)
  have hq9:=hq;replace hq:=Za hq9;replace ha:=Za ha;replace hup:=Za hup;replace hT:=Za hT;replace hsv:=Za hsv;clear hq9
  go_enter Tryz.func53,Tryz.ntmps53
  go_upto_region 1 with fail
  clear hw1
  go_wp2_with fail
  with_reducible refine(Vp _ s n _ H.out).mono ?_
  rintro e w2 ⟨rfl,hb2⟩;rw[ha.out];have G2:=(hb2.block w.heap.size kg).trans f1;obtain⟨m0,m1,m2,m3,_,mg⟩:=Ze G2;have F2:=Za ((hb2.block (w.heap.size+1) (by rw[hsz.out];omega)).trans f2.out);have H2:=Za (H.out.below hb2);have s2:Hid (w.heap.size+2<=w2.heap.size):=Za (by have:=hb2.size;have:=hsz.out;omega);replace hb2:=Za (hB.trans (hb2.mono hB.size));replace G2:=Za G2;clear k0 k1 k2 k3 kg f1 hB
  go_wp2_with fail
  with_reducible refine(Zv8 _ s.2.1 n _ H2.out.parts.2.1).mono ?_
  rintro e w3 ⟨E3,c3,rfl,h3,hb3⟩;rw[hup.out,hT.out];rw[hT.out] at h3;have F3:=Za ((hb3.block (w.heap.size+1) (by have:=s2.out;omega)).trans F2.out);have G3:=(hb3.block w.heap.size mg).trans G2.out;have H3:=Za (H2.out.below hb3);have T3:=Za h3;have B3:=Za (hb2.out.trans (hb3.mono hb2.out.size));have s3:Hid (w.heap.size+2<=w3.heap.size):=Za (by have:=hb3.size;have:=s2.out;omega);clear hb3 h3 m0 m1 m2 m3 mg F2;obtain⟨m0,m1,m2,m3,_,mg⟩:=Ze G3;replace G3:=Za G3;by_cases hqz:q=0
  ·subst hqz
   have hV:=Za (hsv.out rfl);clear hq0 hsv
   go_upto_region 7 with fail
   refine Z1 (by kernel_rfl) 8 (fun W=>Qak w3.heap.size w3 W) (fun i=>match i with
     | 2=>some (fun v W=>Dsk (New w3.heap.size W) W v s.1)
     | 6=>some (fun v W=>rBy (New w3.heap.size W) W [v] s.2.2)
     | 7=>some (fun v W=>∃ P p Q r X x,v=.agg #[.slice P s.1.1.length p,.slice Q s.1.2.length r,.slice E3 T.length c3,.slice X s.2.2.length x]/\Dsk (New w3.heap.size W) W (.agg #[.slice P s.1.1.length p,.slice Q s.1.2.length r]) s.1/\rBy (New w3.heap.size W) W [.slice X s.2.2.length x] s.2.2)
     | _=>none) (fun _=>none) (by decide) (by kernel_rfl) (by kernel_rfl) (Qa _ _).drew (fun w w' h hb=>h.trans (hb.mono h.size)) ?tst ?_
   case tst =>
    intro j φ x W W' hp hx hb
    match j,hp with
    | 2,hp=>cases hp;exact hx.new (Qb _) hb
    | 6,hp=>cases hp;exact Zf.new hx (Qb _) hb
    | 7,hp =>
     cases hp;obtain⟨P,p,Q,r,X,x,e1,e2,e3⟩:=hx;exact⟨P,p,Q,r,X,x,e1,e2.new (Qb _) hb,Zf.new e3 (Qb _) hb⟩
   simp only[Pg,Pb,Ph,Q5]
   repeat (first
    | (refine wpAs_skip rfl ?_;simp only[Qc,Zb,Zc,Zd])
    | (refine wpAs_pure (v := ?_) rfl rfl ?_ ?_;rotate_left;(intro W hC hE;clear hE;(have z0:=(hC.cell (p:=⟨w.heap.size,0,none⟩) mg).trans m0;have z1:=(hC.cell (p:=⟨w.heap.size,1,none⟩) mg).trans m1);clear hC;go_simp;first | done | with_reducible rfl);simp only[Qc,Zb,Zc,Zd]))
   refine wpAs_act rfl rfl ?_ ?_
   ·intro W hC hE
    clear hE;refine does_enter (f:=90) (args:=#[.agg #[.slice A s.1.1.length ca,.slice B s.1.2.length cb]]) ?_ ?_
    ·go_simp
    ·refine(Zq0 _ s.1 W hsm.out (H3.out.below hC).parts.1).mono ?_
     rintro e W' ⟨u,rfl,hu,hb⟩;exact⟨_,rfl,hu.new hC.size (Qa _ _),hb⟩
   simp only[Qc,Zb,Zc,Zd,envAdd];intro x29
   repeat (first
    | (refine wpAs_skip rfl ?_;simp only[Qc,Zb,Zc,Zd])
    | (refine wpAs_pure (v := ?_) rfl rfl ?_ ?_;rotate_left;(intro W hC hE;clear hE;(have z3:=(hC.cell (p:=⟨w.heap.size,3,none⟩) mg).trans m3);clear hC;go_simp;first | done | with_reducible rfl);simp only[Qc,Zb,Zc,Zd]))
   refine wpAs_act rfl rfl ?_ ?_
   ·intro W hC hE
    clear hE;refine does_enter (f:=80) (args:=#[.slice L s.2.2.length cl]) ?_ ?_
    ·go_simp
    ·refine(Ui _ s.2.2 W (by rw[hll.out];omega) (H3.out.below hC).parts.2.2).mono ?_
     rintro e W' ⟨u,rfl,ho,hb⟩;exact⟨_,rfl,Zf.new ho hC.size (Qa _ _),hb⟩
   simp only[Qc,Zb,Zc,Zd,envAdd];intro x33;refine wpAs_act rfl rfl ?_ ?_
   ·intro W hC hE
    have h33:=hE.1 rfl;have h29:=hE.2.1 rfl;obtain⟨X,x,rfl,_⟩:=Zm h33;obtain⟨P,p,Q,r,rfl,_⟩:=h29.open;have h33':=Za h33;have h29':=Za h29;clear hE hC h33 h29
    go_simp
    exact⟨⟨P,p,Q,r,X,x,rfl,h29'.out,h33'.out⟩,Qa _ _⟩
   simp only[Qc,Zb,Zc,Zd,envAdd];intro x34;refine wpAs_end fun W hC hE=> ?_
   obtain⟨⟨P,p,Q,r,X,x,rfl,hd,hx⟩,_⟩:=hE;have bW:=(hC.block (w.heap.size+1) (by have:=s3.out;omega)).trans F3.out;obtain⟨c0,c1,c2,c3',c4,c5⟩:=Ze bW;obtain⟨W9,hW9,g9,gr9,gs9⟩:=Zo (a':=.slice P s.1.1.length p) (b':=.slice Q s.1.2.length r) (c':=.slice E3 T.length c3) (d':=.slice X s.2.2.length x) bW;obtain⟨n0,n1,n2,n3,_,_⟩:=Ze g9;have BW:=B3.out.trans (hC.mono B3.out.size);have r3:=s3.out;have l2:=hb2.out.size;have l3:=B3.out.size
   have hfin:=Za (show Sto (New w.heap.size W9) W9 (.agg #[.slice P s.1.1.length p,.slice Q s.1.2.length r,.slice E3 T.length c3,.slice X s.2.2.length x]) (shV s n) from by
    rw[hV.out]
    exact Sto.mk ((hd.grown gr9 (fun q e=>by cases e;omega)).new l3 (Qa _ _)) (Zf.new (Zf.grown (Zf.new T3.out (Qb _) hC) gr9 (fun q e=>by cases e;have:=s2.out;omega)) l2 (Qa _ _)) (Zf.new (Zf.grown hx gr9 (fun q e=>by cases e;omega)) l3 (Qa _ _)))
   have hB9:=Za (BW.grown gr9 BW.size (fun q e=>by cases e;omega));clear hd hx gr9 gs9 BW r3 l2 l3;replace bW:=Za bW;replace g9:=Za g9
   go_wp2_with fail
   refine Qag (v:=.tuple #[.agg #[.slice P s.1.1.length p,.slice Q s.1.2.length r,.slice E3 T.length c3,.slice X s.2.2.length x],.int .i64 0]) (by simp[results,Tryz.results53,go_sem,n0,n1,n2,n3]) rfl ?_;rw[hq.out];exact⟨_,rfl,hfin.out,hB9.out⟩
  ·have hV:=Za (hq0 hqz)
   have hq1:(q != 0)=true:=by simpa using hqz
   clear hq0 hqz hsv;replace F3:=F3.out;obtain⟨k0,k1,k2,k3,k4,k5⟩:=Ze F3;obtain⟨W9,hW9,g9,gr9,gs9⟩:=Zo (a':=.slice none 0 0) (b':=.slice none 0 0) (c':=.slice none 0 0) (d':=.slice none 0 0) F3;obtain⟨n0,n1,n2,n3,_,_⟩:=Ze g9;have hB9:=Za ((B3).out.grown gr9 (B3).out.size (fun q e=>by cases e;omega));replace g9:=Za g9;replace F3:=Za F3;clear gr9 gs9
   go_wp2_with fail
   refine Qag (v:=.tuple #[.agg #[.slice none 0 0,.slice none 0 0,.slice none 0 0,.slice none 0 0],.int .i64 q]) (by simp[results,Tryz.results53,go_sem,n0,n1,n2,n3]) rfl ?_;rw[hV.out,hq.out];exact⟨_,rfl,Zu _ _,hB9.out⟩
 ·have hV:=Za (Z5r (s:=s) (n:=n) (by rw[Zw7 ha];exact ha))
  rw[Zw7 ha] at hq;have hq1:(q != 0)=true:=by rw[<- hq];simpa using ha
  have hq2:Hid (asE s n=q):=Za hq;replace hq:Hid (shE s n=q):=Za (by rw[Zw7 ha];exact hq);clear ha
  go_enter Tryz.func53,Tryz.ntmps53
  go_upto_region 1 with fail
  clear hw1
  go_wp2_with fail
  with_reducible refine(Vp _ s n _ H.out).mono ?_
  rintro e w2 ⟨rfl,hb2⟩;rw[hq2.out];have F2:=(hb2.block (w.heap.size+1) (by rw[hsz.out];omega)).trans f2.out;replace hb2:=Za (hB.trans (hb2.mono hB.size));obtain⟨k0,k1,k2,k3,k4,k5⟩:=Ze F2;obtain⟨W9,hW9,g9,gr9,gs9⟩:=Zo (a':=.slice none 0 0) (b':=.slice none 0 0) (c':=.slice none 0 0) (d':=.slice none 0 0) F2;obtain⟨n0,n1,n2,n3,_,_⟩:=Ze g9;have hB9:=Za ((hb2).out.grown gr9 (hb2).out.size (fun q e=>by cases e;omega));replace g9:=Za g9;replace F2:=Za F2;clear gr9 gs9
  go_wp2_with fail
  refine Qag (v:=.tuple #[.agg #[.slice none 0 0,.slice none 0 0,.slice none 0 0,.slice none 0 0],.int .i64 q]) (by simp[results,Tryz.results53,go_sem,n0,n1,n2,n3]) rfl ?_;rw[hV.out,hq.out];exact⟨_,rfl,Zu _ _,hB9.out⟩}
theorem Zni (A:Option Qae) (len cap m k:Nat) (xs:List UInt8) (hlen:xs.length=len) (hm0:0<m) (hm:m<=4) (hle:k+m<=len) (hlc:len<=cap) (hcap:cap<=9223372036854775807) (w:Qac) (hx:Byt w w.heap.size A xs) :
  Qaj Tryz.prog 170 #[.slice A len cap,.int .i64 k,.int .i64 m] w fun e W'=>e=.returned (.tuple #[.int .u32 (num ((xs.drop k).take m)),.int .i64 0])/\Qak w.heap.size w W':=by
 subst hlen;obtain⟨ad,rfl,hp⟩:=hx.part hle hm0;have hl:((xs.drop k).take m).length=m:=by simp;omega
 obtain⟨ad',e,hb,hc⟩:=hp (by omega);cases e;exact callsIn_wide.1 (Zu3 Fence.wide 3 trivial trivial trivial rfl (Qb _) ad xs.length cap m k _ hl hm0 hm hle hlc hcap w (by rw[Zh] at hb;exact hb) hc)
theorem Zog (A:Option Qae) (len cap:Nat) (k:Int) (m:Nat) (hm:m<=4) (hl:len<=9223372036854775807) (h:k<0\/(len:Int)-m<k) (w:Qac) :
  Qaj Tryz.prog 170 #[.slice A len cap,.int .i64 k,.int .i64 m] w fun e W'=>e=.returned (.tuple #[.int .u32 0,.int .i64 8])/\w=W':=by{
 by_cases h':k<0
 ·go_enter Tryz.func170,Tryz.ntmps170
  go_wp2
  go_ret2
  exact⟨rfl,rfl⟩
 ·have h2:(len:Int)-m<k:=by omega
  go_enter Tryz.func170,Tryz.ntmps170
  go_wp2
  go_ret2
  exact⟨rfl,rfl⟩}
theorem Zwr (A:Option Qae) (len cap k:Nat) (xs:List UInt8) (hlen:Hid (xs.length=len)) (hle:k+2<=len) (hlc:len<=cap) (hcap:cap<=9223372036854775807) (w:Qac) (hx:Byt w w.heap.size A xs) :
  Qaj Tryz.prog 191 #[.slice A len cap,.int .i64 k] w fun e W'=>e=.returned (.tuple #[.int .i64 (num ((xs.drop k).take 2)),.int .i64 0])/\Qak w.heap.size w W':=by{
 have h0:=Zc7 ((xs.drop k).take 2);have h1:=Zr0 ((xs.drop k).take 2);have hl:((xs.drop k).take 2).length=2:=by have:=hlen.out;simp;omega
 rw[hl] at h1;simp at h1;clear hl
 go_enter Tryz.func191,Tryz.ntmps191
 go_wp2_with fail
 refine(Zni A len cap 2 k xs hlen.out (by omega) (by omega) hle hlc hcap _ hx).mono ?_;rintro e w1 ⟨rfl,hb⟩
 go_wp2
 go_ret2
 exact⟨rfl,hb⟩}
theorem Zxz (A:Option Qae) (len cap:Nat) (k:Int) (hl:len<=9223372036854775807) (h:k<0\/(len:Int)-2<k) (w:Qac) :
  Qaj Tryz.prog 191 #[.slice A len cap,.int .i64 k] w fun e W'=>e=.returned (.tuple #[.int .i64 0,.int .i64 8])/\w=W':=by{
 go_enter Tryz.func191,Tryz.ntmps191
 go_wp2_with fail
 refine(Zog A len cap k 2 (by omega) hl h _).mono ?_;rintro e w1 ⟨rfl,rfl⟩
 go_wp2
 go_ret2
 exact⟨rfl,rfl⟩}
theorem Zfl (A:Option Qae) (len cap k:Nat) (xs:List UInt8) (hlen:Hid (xs.length=len)) (hle:k+4<=len) (hlc:len<=cap) (hcap:cap<=9223372036854775807) (w:Qac) (hx:Byt w w.heap.size A xs) :
  Qaj Tryz.prog 146 #[.slice A len cap,.int .i64 k] w fun e W'=>e=.returned (.tuple #[.int .u32 (num ((xs.drop k).take 4)),.int .i64 0])/\Qak w.heap.size w W':=by{
 go_enter Tryz.func146,Tryz.ntmps146
 go_wp2_with fail
 refine(Zni A len cap 4 k xs hlen.out (by omega) (by omega) hle hlc hcap _ hx).mono ?_;rintro e w1 ⟨rfl,hb⟩
 go_wp2
 go_ret2
 exact⟨rfl,hb⟩}
theorem Zt7 (A:Option Qae) (len cap:Nat) (k:Int) (hl:len<=9223372036854775807) (h:k<0\/(len:Int)-4<k) (w:Qac) :
  Qaj Tryz.prog 146 #[.slice A len cap,.int .i64 k] w fun e W'=>e=.returned (.tuple #[.int .u32 0,.int .i64 8])/\w=W':=by{
 go_enter Tryz.func146,Tryz.ntmps146
 go_wp2_with fail
 refine(Zog A len cap k 4 (by omega) hl h _).mono ?_;rintro e w1 ⟨rfl,rfl⟩
 go_wp2
 go_ret2
 exact⟨rfl,rfl⟩}
def te (n:Int):Int:=if 0<=n/\n<65536 then 0 else 2
def tb (n:Int):List UInt8:=if 0<=n/\n<65536 then le 2 n else []
def ge (m:Nat) (len:Nat) (k:Int):Int:=if 0<=k/\k+m<=len then 0 else 8
def gv (m:Nat) (xs:List UInt8) (k:Int):Int:=if 0<=k/\k+m<=xs.length then num ((xs.drop k.toNat).take m) else 0
theorem Zdm {m len:Nat}{k:Int}(h:0<=k/\k+m<=len):ge m len k=0:=if_pos h
theorem Zzk {m len:Nat}{k:Int}(h:¬ (0<=k/\k+m<=len)):ge m len k=8:=if_neg h
theorem Ze7 {m:Nat}{xs:List UInt8}{k:Int}(h:0<=k/\k+m<=xs.length):gv m xs k=num ((xs.drop k.toNat).take m):=if_pos h
theorem Zu8 {m:Nat}{xs:List UInt8}{k:Int}(h:¬ (0<=k/\k+m<=xs.length)):gv m xs k=0:=if_neg h
theorem Zhk (m:Nat) (xs:List UInt8) (k:Int):0<=gv m xs k/\gv m xs k<(256:Int) ^ m:=by{
 by_cases h:0<=k/\k+m<=xs.length
 ·rw[Ze7 h]
  have hl:((xs.drop k.toNat).take m).length=m:=by simp;omega
  have h1:=Zr0 ((xs.drop k.toNat).take m);rw[hl] at h1;exact⟨Zc7 _,h1⟩
 ·rw[Zu8 h]
  exact⟨by omega,Int.pow_pos (by omega)⟩}
theorem Zt9 (A:Option Qae) (len cap:Nat) (k:Int) (xs:List UInt8) (hlen:Hid (xs.length=len)) (hlc:len<=cap) (hcap:cap<=9223372036854775807) (w:Qac) (hx:Byt w w.heap.size A xs) :
  Qaj Tryz.prog 191 #[.slice A len cap,.int .i64 k] w fun e W'=>e=.returned (.tuple #[.int .i64 (gv 2 xs k),.int .i64 (ge 2 len k)])/\Qak w.heap.size w W':=by{
 obtain rfl:=hlen.out;by_cases h:0<=k/\k+(2:Nat)<=xs.length
 ·rw[Zdm h,Ze7 h]
  obtain⟨n,rfl⟩:=Int.eq_ofNat_of_zero_le h.1;rw[Int.toNat_natCast];exact Zwr A _ cap n xs hlen (by omega) hlc hcap w hx
 ·rw[Zzk h,Zu8 h]
  exact(Zxz A xs.length cap k (by omega) (by omega) w).mono fun e w' ⟨he,hw⟩=>⟨he,hw ▸ Qa _ _⟩}
theorem Zhi (A:Option Qae) (len cap:Nat) (k:Int) (xs:List UInt8) (hlen:Hid (xs.length=len)) (hlc:len<=cap) (hcap:cap<=9223372036854775807) (w:Qac) (hx:Byt w w.heap.size A xs) :
  Qaj Tryz.prog 146 #[.slice A len cap,.int .i64 k] w fun e W'=>e=.returned (.tuple #[.int .u32 (gv 4 xs k),.int .i64 (ge 4 len k)])/\Qak w.heap.size w W':=by{
 obtain rfl:=hlen.out;by_cases h:0<=k/\k+(4:Nat)<=xs.length
 ·rw[Zdm h,Ze7 h]
  obtain⟨n,rfl⟩:=Int.eq_ofNat_of_zero_le h.1;rw[Int.toNat_natCast];exact Zfl A _ cap n xs hlen (by omega) hlc hcap w hx
 ·rw[Zzk h,Zu8 h]
  exact(Zt7 A xs.length cap k (by omega) (by omega) w).mono fun e w' ⟨he,hw⟩=>⟨he,hw ▸ Qa _ _⟩}
def Zi4 (xs:List UInt8):List UInt8:=xs++Xz (124-xs.length)
def Zb7 (xs:List UInt8):List UInt8:=le 4 (crc (Zi4 xs):Nat)++Zi4 xs
theorem Zdx {xs:List UInt8}(h:xs.length<=124):(Zi4 xs).length=124:=by simp[Zi4,Xz];omega
theorem Zgj {xs:List UInt8}(h:xs.length<=124):(Zb7 xs).length=128:=by simp[Zb7,Yd,Zdx h]
theorem Zsy {xs:List UInt8}(h:xs.length<=124):splice (Xz 128) 4 xs=Xz 4++Zi4 xs:=by
 simp only[splice,Xz,Zi4,List.take_replicate,List.drop_replicate];rw[show min 4 128=4 from rfl,show 128-(4+xs.length)=124-xs.length by omega]
theorem Zp7 (ys zs:List UInt8) (h:ys.length=4):splice (Xz 4++zs) 0 ys=ys++zs:=by
 simp only[splice,Pb,Qk,Qp,h];rw[Pm (by simp[Xz])]
theorem Z3j (A:Option Qae) (len cap:Nat) (hl:124<len) (w:Qac) :
  Qaj Tryz.prog 124 #[.slice A len cap] w fun e w'=>e=.returned (.tuple #[.slice none 0 0,.int .i64 3])/\w=w':=by{
 go_enter Tryz.func124,Tryz.ntmps124
 go_wp2
 go_ret2
 exact⟨rfl,rfl⟩}
theorem Z39 (A:Option Qae) (len cap:Nat) (xs:List UInt8) (hlen:Hid (xs.length=len)) (hl:len<=124) (_:len<=cap) (_:cap<=9223372036854775807) (w:Qac) (hx:Byt w w.heap.size A xs) :
  Qaj Tryz.prog 124 #[.slice A len cap] w fun e w'=>e=.returned (.tuple #[.slice (some ⟨w.heap.size,0,none⟩) 128 128,.int .i64 0])/\Row w' w.heap.size (Zb7 xs)/\Qak w.heap.size w w':=by{
 have hmk:(Instr.makeSlice 27 (.int .i64 128) (.int .i64 128)).run Tryz.prog w=.ok (.slice (some ⟨w.heap.size,0,none⟩) 128 128) (w.alloc (.cells (Z34 (Xz 128)) 5)):=Zs5 128 (by omega) w;have hB1:=Uv (Qa w.heap.size w) (.cells (Z34 (Xz 128)) 5);obtain⟨w2,hc2,hR2,hB2⟩:=Zr5 3 (off:=4) (dLen:=124) (dCap:=124) (sLen:=len) (sCap:=cap) (Row.new w (Xz 128)) (hx.below hB1) hlen.out (by simp[Xz];omega);rw[P9 hl,Qg (by rw[hlen.out];omega),Zsy (by rw[hlen.out];omega)] at hR2;rw[P9 hl] at hc2;have hp:=hR2.tail 4 (by simp[Xz]);rw[Pm (by simp[Xz])] at hp;have hB:=hB1.trans hB2;have hpl:Hid ((Zi4 xs).length=124):=Za (Zdx (by rw[hlen.out];omega));have HR2:=Za hR2;clear hR2 hx hB1 hB2
 go_enter Tryz.func124,Tryz.ntmps124
 go_wp2_with fail
 refine(Zvw _ _ 124 _ hpl (by omega) (by omega) _ hp).mono ?_;rintro e w3 ⟨rfl,hb3⟩
 go_wp2_with fail
 refine(Zsg _ (by omega) (by have:=Zhs (Zi4 xs);omega) _).mono ?_;rintro e w4 ⟨F,rfl,hf,hb4⟩;have hb24:=Zsr hb3 hb4;obtain⟨w5,hc5,hR5,hB5⟩:=Zr5 3 (off:=0) (dLen:=128) (dCap:=128) (sLen:=4) (sCap:=4) (HR2.out.after hb24) hf (Yd 4 _) (by simp[Xz]);rw[show min 4 128=4 from rfl] at hc5 hR5;rw[Qg (by rw[Yd];omega),Zp7 _ _ (Yd 4 _)] at hR5;have hBe:=(hB.trans (hb24.mono hB.size)).trans hB5;have HR5:Hid (Row w5 w.heap.size (Zb7 xs)):=Za hR5;clear hR5 HR2 hp hb3 hb4 hb24 hB hB5 hf hmk hc2
 go_wp2_with fail
 go_ret2
 exact⟨rfl,HR5.out,hBe⟩}
theorem Z2z (A:Option Qae) (len cap:Nat) (hl:len≠128) (w:Qac) :
  Qaj Tryz.prog 113 #[.slice A len cap] w fun e w'=>e=.returned (.tuple #[.slice none 0 0,.int .i64 3])/\w=w':=by{
 go_enter Tryz.func113,Tryz.ntmps113
 go_wp2
 go_ret2
 exact⟨rfl,rfl⟩}
def Zmo (xs:List UInt8):Prop:=num (xs.take 4)=(crc (xs.drop 4):Nat)
theorem Zy3 (ad:Qae) (cap:Nat) (xs:List UInt8) (hlen:Hid (xs.length=128)) (hlc:128<=cap) (hcap:cap<=9223372036854775807) (w:Qac) (hx:Byt w w.heap.size (some ad) xs) (hn:¬ Zmo xs) :
  Qaj Tryz.prog 113 #[.slice (some ad) 128 cap] w fun e w'=>e=.returned (.tuple #[.slice none 0 0,.int .i64 8])/\Qak w.heap.size w w':=by{
 have hp:Byt w w.heap.size (some (ad.add 4)) (xs.drop 4):=by
  obtain⟨ad',e,hp⟩:=hx.part (k:=4) (n:=124) (by rw[hlen.out];omega) (by omega);cases e
  rwa [Qg (by simp[hlen.out])] at hp
 have hpl:Hid ((xs.drop 4).length=124):=Za (by simp[hlen.out]);have hb:=Zhs (xs.drop 4);have hd:((num (xs.take 4):Int)==(crc (xs.drop 4):Nat))=false:=by simpa [Zmo] using hn
 have hd':((num (xs.take 4):Int) != (crc (xs.drop 4):Nat))=true:=by simpa [Zmo] using hn
 have HD:=Za hd;have HD':=Za hd';clear hn hd hd'
 go_enter Tryz.func113,Tryz.ntmps113
 go_wp2_with fail
 refine(Zfl _ _ cap 0 xs hlen (by omega) (by omega) (by omega) _ hx).mono ?_;rintro e w1 ⟨rfl,hb1⟩;rw[Q5];have hp1:=(hp.below hb1).more hb1.size
 go_wp2_with fail
 refine(Zvw _ _ _ _ hpl (by omega) (by omega) _ hp1).mono ?_;rintro e w2 ⟨rfl,hb2⟩;generalize num (xs.take 4)=q at *;generalize crc (xs.drop 4)=r at *;have hd:=HD.out;have hd':=HD'.out
 go_wp2_with fail
 go_ret2
 exact⟨rfl,Zsr hb1 hb2⟩}
theorem Zk4 {w:Qac}{B B':Nat}{e:Qaf}{v:Qad}{n:Nat}{xs:List Qad}(h:w.ownsRow B e 1 v n xs) (hb:B'<=B):w.ownsRow B' e 1 v n xs:=by
 refine⟨h.1,h.2.imp id ?_⟩;rintro⟨g,cap,cur,h1,h2,h3⟩;exact⟨g,cap,cur,h1,Qd hb h2,h3⟩
theorem Z2o (ad:Qae) (cap:Nat) (xs:List UInt8) (hlen:Hid (xs.length=128)) (hlc:128<=cap) (hcap:cap<=9223372036854775807) (w:Qac) (hx:Byt w w.heap.size (some ad) xs) (hn:Zmo xs) :
  Qaj Tryz.prog 113 #[.slice (some ad) 128 cap] w fun e w'=>∃ v,e=.returned (.tuple #[v,.int .i64 0])/\w'.ownsRow w.heap.size 5 1 v 124 (u8s (xs.drop 4))/\Qak w.heap.size w w':=by{
 have hp:Byt w w.heap.size (some (ad.add 4)) (xs.drop 4):=by
  obtain⟨ad',e,hp⟩:=hx.part (k:=4) (n:=124) (by rw[hlen.out];omega) (by omega);cases e
  rwa [Qg (by simp[hlen.out])] at hp
 have hpl:Hid ((xs.drop 4).length=124):=Za (by simp[hlen.out]);have hb:=Zhs (xs.drop 4);have HN:Hid (num (xs.take 4)=(crc (xs.drop 4):Nat)):=Za hn;clear hn
 go_enter Tryz.func113,Tryz.ntmps113
 go_wp2_with fail
 refine(Zfl _ _ cap 0 xs hlen (by omega) (by omega) (by omega) _ hx).mono ?_;rintro e w1 ⟨rfl,hb1⟩;rw[Q5,HN.out];have hp1:=(hp.below hb1).more hb1.size
 go_wp2_with fail
 refine(Zvw _ _ _ _ hpl (by omega) (by omega) _ hp1).mono ?_;rintro e w2 ⟨rfl,hb2⟩;generalize crc (xs.drop 4)=r at *;have hp2:=(hp1.below hb2).more hb2.size
 go_wp2_with fail
 refine(Zjr _ _ _ _ hpl (by omega) _ hp2).mono ?_;rintro e w3 ⟨v,rfl,hown,_,hb3⟩;have hB:=Zsr (Zsr hb1 hb2) hb3;have hsz:=Qd hb1.size hb2.size;have HO:=Za (Zk4 hown hsz);clear hown hp hp1 hp2 hx hb1 hb2 hb3 hsz
 go_wp2_with fail
 go_ret2
 exact⟨v,rfl,HO.out,hB⟩}
theorem Zn7 (xs:List UInt8):Zmo (Zb7 xs):=by
 unfold Zmo Zb7;rw[List.take_left' (Yd 4 _),Pm (Yd 4 _)];exact Z1r 4 _ (by omega) (by have:=Zhs (Zi4 xs);simp;omega)
theorem Zwf (xs:List UInt8):(Zb7 xs).drop 4=Zi4 xs:=by
 unfold Zb7;rw[Pm (Yd 4 _)]
theorem Zoe {xs:List UInt8}(h:xs.length=124):Zi4 xs=xs:=by simp[Zi4,Xz,h]
theorem Zwj {xs:List UInt8}(h:xs.length=128) (hf:Zmo xs):Zb7 (xs.drop 4)=xs:=by
 unfold Zmo at hf;unfold Zb7;have e:=Zvn (xs.take 4);rw[show (xs.take 4).length=4 by simp[h]] at e;rw[Zoe (by simp[h]),<- hf,e];exact Pd 4 xs
theorem Zpj:(Tryz.prog.info? 5).map (fun i=>(i.zero,i.size,i.bytes))=some (some (.int .u8 0),1,1):=by kernel_rfl
theorem Zm6 (n:Int) (m:Nat) (h0:0<=n) (h1:n<=9223372036854775807) (hm:m<=1000) (w:Qac) :
  Qaj Tryz.prog 185 #[.int .i64 n,.int .i64 m] w fun e w'=>∃ v,e=.returned v/\w'.ownsRow w.heap.size 5 1 v m (u8s (le m n))/\Qak w.heap.size w w':=by{
 obtain⟨i0,hi,hz0,hz1,hz2⟩:=info_parts Zpj
 go_enter Tryz.func185,Tryz.ntmps185
 go_wp2
 go_loopw [0,5,6] (fun t v i wr=>∃ k:Nat,k<=m/\i=.int .i64 k/\t=.int .i64 (n / 256 ^ k)/\wr.ownsRow w.heap.size 5 1 v k ((le k n).map fun x=>Value.int .u8 (x.toNat:Int))/\Qak w.heap.size w wr)
  (fun _ _ i _=>m-(intOf i).toNat)
 case atStart=>exact⟨0,Pe _,rfl,by simp,Qj _ _ _ _,Qa _ _⟩
 case round =>
  obtain⟨k,hk,rfl,rfl,hown,hB⟩:=hrel;have d0:=Zjh n k h0;have d1:=Zua n k h0;have hd:=Za (Zoj n k);have hs:=Za (Z2x k n);have hb:=Za (Zfp (n / 256 ^ k));generalize n / 256 ^ k=q at *;by_cases hlt:k<m
  ·go_wp2_with (at_builtin;refine wpList_append_own _ rfl _ _ 27 rfl w.heap.size 5 i0 (.int .u8 0) 1 1 Tryz.underlying27 hi hz0 hz1 hz2 rfl (by decide) _ _ _ rfl (hown.alloc _) ⟨wr.heap.size,0,none⟩ 1 1 [.int .u8 (q % 256)] rfl rfl ?c1 ?c2 ?c3 ?c4 ?c5 ?_)
   case c1 =>
    intro j u hj
    match j,hj with
    | 0,hj=>simp at hj;subst hj;simp[Addr.add]
   case c2=>intro u hu;simp at hu;subst hu;rfl
   case c3=>unfold maxLen;omega
   case c4=>omega
   case c5=>have:=hB.size;simp;omega
   intro v' w1 hown' hgrow _;have hB1:Qak w.heap.size w w1:=(Uv hB _).grown hgrow (Uv hB _).size (fun r e=>by have:=hown.lt r e;omega);rw[show (le k n).map (fun x=>Value.int .u8 (x.toNat:Int))++[.int .u8 (q % 256)]=(le (k+1) n).map (fun x=>Value.int .u8 (x.toNat:Int)) by rw[hs.out,List.map_append,Pq,Pr,hb.out]] at hown';clear hgrow hown
   go_wp2
   go_roundw
   case rel=>exact⟨k+1,by omega,by go_num,by rw[hd.out],hown',hB1⟩
   case measure=>simp[intOf];omega
  ·obtain rfl:k=m:=by omega
   go_wp2
   go_ret;exact⟨_,rfl,hown,hB⟩}
theorem Zne (n:Int) (m:Nat) (h0:0<=n) (h1:n<=9223372036854775807) (hm:m<=1000) (w:Qac) :
  Qaj Tryz.prog 185 #[.int .i64 n,.int .i64 m] w fun e w'=>∃ A cap,e=.returned (.slice A m cap)/\Byt w' w'.heap.size A (le m n)/\Qak w.heap.size w w':=by
 refine(Zm6 n m h0 h1 hm w).mono ?_;rintro e w' ⟨v,rfl,hown,hB⟩;obtain⟨A,cap,rfl,_,_,hy⟩:=Zfe hown;exact⟨A,cap,rfl,hy,hB⟩
theorem Zo9 (A:Option Qae) (cap:Nat) (w:Qac) :
  Qaj Tryz.prog 182 #[.slice A 0 cap] w fun e w'=>e=.returned (.int .i64 0)/\w=w':=by{
 go_enter Tryz.func182,Tryz.ntmps182
 go_wp2
 refine wp_loop_rounds 1 ?_;rw[rounds_succ]
 go_wp2
 go_ret;exact⟨rfl,rfl⟩}
theorem Zzv (xs:List UInt8) (k:Nat) (h:k<xs.length):num (xs.drop (xs.length-(k+1)))=num (xs.drop (xs.length-k))*256+((xs[xs.length-1-k]?.getD 0).toNat:Int):=by
 have:=Zlx xs (k+1) (by omega);rw[Ze2,Zlg,Zlx xs k (by omega)] at this;exact this.symm
theorem Zus (xs:List UInt8) (h:xs.length<=6):0<=num xs/\num xs<281474976710656:=by
 have hp:∀ n:Nat,n<=6->(256:Int) ^ n<=281474976710656:=by decide
 exact⟨Zc7 _,Int.lt_of_lt_of_le (Zr0 xs) (hp _ h)⟩
theorem Zkj (A:Option Qae) (len cap:Nat) (xs:List UInt8) (hlen:Hid (xs.length=len)) (hm:len<=7) (w:Qac) (hx:Byt w w.heap.size A xs) :
  Qaj Tryz.prog 182 #[.slice A len cap] w fun e w'=>e=.returned (.int .i64 (num xs))/\w=w':=by{
 obtain rfl:=hlen.out;rcases Pk xs.length with h0 | h0
 ·have hx0:xs=[]:=Qaa h0
  subst hx0;exact Zo9 A cap w
 ·obtain⟨ad,rfl,_,hc⟩:=hx h0
  go_enter Tryz.func182,Tryz.ntmps182
  go_wp2
  go_loop [3,4] (fun t i=>∃ k:Nat,k<=xs.length/\i=.int .i64 ((xs.length:Int)-1-k)/\t=.int .i64 (num (xs.drop (xs.length-k)))) (fun _ i=>(intOf i+1).toNat)
  case atStart=>exact⟨0,Pe _,by simp,by simp[num]⟩
  case round =>
   obtain⟨k,hk,rfl,rfl⟩:=hrel;by_cases hlt:k<xs.length
   ·obtain⟨b0,b1⟩:=Zus (xs.drop (xs.length-k)) (by simp;omega)
    have hd:=Za (Zzv xs k hlt);have hcx:=hc (xs.length-1-k) (by omega);have hxb:=(xs[xs.length-1-k]?.getD 0).toNat_lt;have e1:((xs.length:Int)-1-k).toNat=xs.length-1-k:=by omega
    generalize xs[xs.length-1-k]?.getD 0=c at *;generalize num (xs.drop (xs.length-k))=q at *
    go_wp2
    go_round
    case rel=>exact⟨k+1,by omega,by go_num,by rw[hd.out]⟩
    case measure=>simp[intOf];omega
   ·obtain rfl:k=xs.length:=by omega
    go_wp2
    go_ret;simp}
theorem Zsi (n:Int) (h0:0<=n) (h1:n<4294967296) (w:Qac) :
  Qaj Tryz.prog 184 #[.int .u32 n] w fun e w'=>∃ A cap,e=.returned (.slice A 4 cap)/\Byt w' w'.heap.size A (le 4 n)/\Qak w.heap.size w w':=by{
 go_enter Tryz.func184,Tryz.ntmps184
 go_wp2_with fail
 refine(Zne n 4 h0 (by omega) (by omega) _).mono ?_;rintro e w1 ⟨A,cap,rfl,hx,hb⟩
 go_wp2
 go_ret;exact⟨A,cap,rfl,hx,hb⟩}
theorem Zzu (n:Int) (h0:0<=n) (h1:n<4294967296) (w:Qac) :
  Qaj Tryz.prog 184 #[.int .u32 n] w fun e w'=>∃ v,e=.returned v/\w'.ownsRow w.heap.size 5 1 v 4 (u8s (le 4 n))/\Qak w.heap.size w w':=by{
 go_enter Tryz.func184,Tryz.ntmps184
 go_wp2_with fail
 refine(Zm6 n 4 h0 (by omega) (by omega) _).mono ?_;rintro e w1 ⟨v,rfl,hx,hb⟩
 go_wp2
 go_ret;exact⟨v,rfl,hx,hb⟩}
theorem Zez (A:Option Qae) (len cap:Nat) (k:Int) (m:Nat) (hm:m<=4) (hl:len<=9223372036854775807) (w:Qac) :
  Qaj Tryz.prog 181 #[.slice A len cap,.int .i64 k,.int .i64 m] w fun e w'=>e=.returned (.bool (decide (0<=k/\k+m<=len)))/\w=w':=by{
 rcases(by omega:k<0\/0<=k) with h | h
 ·go_enter Tryz.func181,Tryz.ntmps181
  go_wp2
  go_ret;exact⟨by simp;omega,rfl⟩
 ·rcases(by omega:k<=len\/(len:Int)<k) with h2 | h2
  ·go_enter Tryz.func181,Tryz.ntmps181
   go_wp2
   go_ret;exact⟨Zk (by rw[decide_eq_decide];omega),rfl⟩
  ·go_enter Tryz.func181,Tryz.ntmps181
   go_wp2
   go_ret;exact⟨by simp;omega,rfl⟩}
theorem Zs8 (A:Option Qae) (len cap:Nat) (k:Int) (xs:List UInt8) (hlen:Hid (xs.length=len)) (hlc:len<=cap) (hcap:cap<=9223372036854775807) (w:Qac) (hx:Byt w w.heap.size A xs) :
  Qaj Tryz.prog 163 #[.slice A len cap,.int .i64 k] w fun e w'=>e=.returned (.tuple #[.int .i64 (gv 2 xs k),.int .i64 (ge 2 len k)])/\w=w':=by{
 obtain rfl:=hlen.out;by_cases h:0<=k/\k+(2:Nat)<=xs.length
 ·have hd:decide (0<=k/\k+(2:Nat)<=xs.length)=true:=by simpa using h
  rw[Zdm h,Ze7 h];obtain⟨n,rfl⟩:=Int.eq_ofNat_of_zero_le h.1;rw[Int.toNat_natCast];have hn:n+2<=xs.length:=by omega
  obtain⟨ad,rfl,hp⟩:=hx.part hn (by omega);have hHd:=Za hd;clear hd h
  go_enter Tryz.func163,Tryz.ntmps163
  go_wp2_with fail
  refine(Zez _ _ cap n 2 (by omega) (by omega) _).mono ?_;rintro e w1 ⟨rfl,rfl⟩;rw[hHd.out]
  go_wp2_with fail
  refine(Zkj _ 2 _ _ (Za (by simp;omega)) (by omega) _ hp).mono ?_;rintro e w1 ⟨rfl,rfl⟩
  go_wp2
  go_ret2
  exact⟨rfl,rfl⟩
 ·have hd:decide (0<=k/\k+(2:Nat)<=xs.length)=false:=by simpa using h
  rw[Zzk h,Zu8 h];have hHd:=Za hd;clear hd h
  go_enter Tryz.func163,Tryz.ntmps163
  go_wp2_with fail
  refine(Zez _ _ cap k 2 (by omega) (by omega) _).mono ?_;rintro e w1 ⟨rfl,rfl⟩;rw[hHd.out]
  go_wp2
  go_ret2
  exact⟨rfl,rfl⟩}
theorem Zd0 (A:Option Qae) (len cap:Nat) (k:Int) (xs:List UInt8) (hlen:Hid (xs.length=len)) (hlc:len<=cap) (hcap:cap<=9223372036854775807) (w:Qac) (hx:Byt w w.heap.size A xs) :
  Qaj Tryz.prog 161 #[.slice A len cap,.int .i64 k] w fun e w'=>e=.returned (.tuple #[.int .u32 (gv 4 xs k),.int .i64 (ge 4 len k)])/\w=w':=by{
 obtain rfl:=hlen.out;by_cases h:0<=k/\k+(4:Nat)<=xs.length
 ·have hd:decide (0<=k/\k+(4:Nat)<=xs.length)=true:=by simpa using h
  have hv:=Zhk 4 xs k;rw[Ze7 h] at hv;rw[Zdm h,Ze7 h];obtain⟨n,rfl⟩:=Int.eq_ofNat_of_zero_le h.1;rw[Int.toNat_natCast] at hv ⊢;have hn:n+4<=xs.length:=by omega
  obtain⟨v0,v1⟩:=hv;simp only[Int.reducePow] at v1;obtain⟨ad,rfl,hp⟩:=hx.part hn (by omega);have hHd:=Za hd;clear hd h
  go_enter Tryz.func161,Tryz.ntmps161
  go_wp2_with fail
  refine(Zez _ _ cap n 4 (by omega) (by omega) _).mono ?_;rintro e w1 ⟨rfl,rfl⟩;rw[hHd.out]
  go_wp2_with fail
  refine(Zkj _ 4 _ _ (Za (by simp;omega)) (by omega) _ hp).mono ?_;rintro e w1 ⟨rfl,rfl⟩
  go_wp2
  go_ret2
  exact⟨rfl,rfl⟩
 ·have hd:decide (0<=k/\k+(4:Nat)<=xs.length)=false:=by simpa using h
  rw[Zzk h,Zu8 h];have hHd:=Za hd;clear hd h
  go_enter Tryz.func161,Tryz.ntmps161
  go_wp2_with fail
  refine(Zez _ _ cap k 4 (by omega) (by omega) _).mono ?_;rintro e w1 ⟨rfl,rfl⟩;rw[hHd.out]
  go_wp2
  go_ret2
  exact⟨rfl,rfl⟩}
theorem Zkk (s m:Nat) (h:s<4294967296) (hm:m<=1000) (w:Qac) :
  Qaj Tryz.prog 183 #[.int .u32 s,.int .i64 m] w fun e w'=>e=.returned (.int .u32 (Zay m s))/\w=w':=by{
 go_enter Tryz.func183,Tryz.ntmps183
 go_wp2
 go_loop [0,5] (fun t i=>∃ k:Nat,k<=m/\i=.int .i64 k/\t=.int .u32 (Zay k s)) (fun _ i=>m-(intOf i).toNat)
 case atStart=>exact⟨0,by omega,rfl,rfl⟩
 case round =>
  obtain⟨k,hk,rfl,rfl⟩:=hrel;have hq:=Zfh k h;by_cases hlt:k<m
  ·have hh:=Za (Zgr k s)
   generalize Zay k s=q at *;rcases(by omega:q % 2=1\/q % 2=0) with h1 | h1
   ·have e:Hid (Zl9 q=q / 2 ^^^ 3988292384):=Za (if_pos h1)
    have h1':(q:Int) % 2=1:=by omega
    have hx:=Zyq (q / 2) 3988292384 ((q:Int) / 2) 3988292384 (by omega) (by omega) (by omega) (by omega);clear h1
    go_wp2
    go_round
    case rel=>exact⟨k+1,by omega,by go_num,by rw[hh.out,e.out]⟩
    case measure=>simp[intOf];omega
   ·have e:Hid (Zl9 q=q / 2):=Za (if_neg (by omega))
    have h1':(q:Int) % 2=0:=by omega
    clear h1
    go_wp2
    go_round
    case rel=>exact⟨k+1,by omega,by go_num,by rw[hh.out,e.out];go_num⟩
    case measure=>simp[intOf];omega
  ·obtain rfl:k=m:=by omega
   go_wp2
   go_ret;exact⟨rfl,rfl⟩}
theorem Z09 (ad:Qae) (len cap:Nat) (xs:List UInt8) (hlen:Hid (xs.length=len)) (hlc:len<=cap) (hcap:cap<=9223372036854775807) (w:Qac) (hbl:ad.block<w.heap.size) (hc:Hid (∀ j,j<len->w.cell? (ad.add j)=some (.int .u8 ((xs[j]?.getD 0).toNat:Int)))) :
  Qaj Tryz.prog 162 #[.slice (some ad) len cap] w fun e w'=>e=.returned (.int .u32 (crc xs:Nat))/\Qak w.heap.size w w':=by{
 have h0:#[Value.int .u32 0,.int .u32 0,.int .u32 0,.int .u32 0,.int .u32 0,.int .u32 0,.int .u32 0,.int .u32 0,.int .u32 0,.int .u32 0,.int .u32 0,.int .u32 0,.int .u32 0,.int .u32 0,.int .u32 0,.int .u32 0]=Zcl 0:=by kernel_rfl
 have H0:=Za h0;clear h0
 go_enter Tryz.func162,Tryz.ntmps162
 go_wp2
 rw[H0.out]
 go_loopw [4] (fun i wr=>∃ k:Nat,k<=16/\i=.int .i64 k/\wr.heap.size=w.heap.size+1/\wr.heap[w.heap.size]? = some (.cells (Zcl k) 243 (0,0))/\Qak w.heap.size w wr)
  (fun i _=>16-(intOf i).toNat)
 case atStart=>exact⟨0,by omega,rfl,by simp,Qah w _,Uv (Qa _ _) _⟩
 case round =>
  obtain⟨k,hk,rfl,hs,hT,hB⟩:=hrel;by_cases hlt:k<16
  ·have hc:wr.cell? ⟨w.heap.size,k,none⟩=some (.int .u32 0):=by rw[cell_of_row _ _ _ _ _ _ hT];simp[Zcl,hlt]
   have hf:wr.frozen? ⟨w.heap.size,k,none⟩=false:=frozen_of_row _ _ _ _ _ hT
   go_wp2_with (go_at_call 183;refine(Zkk k 4 (by omega) (by omega) _).mono ?_;rintro e w' ⟨rfl,rfl⟩)
   exact⟨⟨k+1,by omega,by go_num,by simpa using hs,(heap_setCell_same _ _ _ _ _ _ hT).trans (by rw[<- Zkz k hlt];rfl),hB.setCell (by simp) _⟩,by simp[intOf];omega⟩
  ·obtain rfl:k=16:=by omega
   have HT:=Za hT;clear hT hs
   go_wp2
   go_loop [5,6] (fun s i=>∃ k:Nat,k<=len/\i=.int .i64 k/\s=.int .u32 (Zfq 4294967295 (xs.take k):Nat)) (fun _ i=>len-(intOf i).toNat)
   case atStart=>exact⟨0,by omega,rfl,rfl⟩
   case round =>
    obtain⟨k,hk,rfl,rfl⟩:=hrel;have hq:=Zg1 (s:=4294967295) (xs.take k) (by omega);by_cases hlt:k<len
    ·have hs:=Za (Zdh 4294967295 xs k (by rw[hlen.out];exact hlt))
     have hcx:=(hB.cell (p:=ad.add k) (by rw[Zh];exact hbl)).trans (hc.out k hlt);have hxb:=(xs[k]?.getD 0).toNat_lt;have hx1:=Zyq (Zfq 4294967295 (xs.take k)) (xs[k]?.getD 0).toNat _ _ rfl rfl hq (by omega);have hr1:=Zdc hq (by omega:(xs[k]?.getD 0).toNat<4294967296);generalize xs[k]?.getD 0=c at *;generalize Zfq 4294967295 (xs.take k)=q at *;generalize q ^^^ c.toNat=r1 at *;have hc1:wr.cell? ⟨w.heap.size,r1 % 16,none⟩=some (.int .u32 (Vz (r1 % 16))):=by rw[cell_of_row _ _ _ _ _ _ HT.out];exact Zg6 16 _ (by omega) (by omega)
     have hx2:=Zyq (r1 / 16) (Vz (r1 % 16)) ((r1:Int) / 16) (Vz (r1 % 16)) (by omega) rfl (by omega) (Zbt (by omega));have hr2:=Zfn hr1;have he2:(r1 / 16) ^^^ Vz (r1 % 16)=Ztl r1:=Nat.xor_comm _ _;rw[he2] at hx2;clear he2;generalize Ztl r1=r2 at *;have hc2:wr.cell? ⟨w.heap.size,r2 % 16,none⟩=some (.int .u32 (Vz (r2 % 16))):=by rw[cell_of_row _ _ _ _ _ _ HT.out];exact Zg6 16 _ (by omega) (by omega)
     have hx3:=Zyq (r2 / 16) (Vz (r2 % 16)) ((r2:Int) / 16) (Vz (r2 % 16)) (by omega) rfl (by omega) (Zbt (by omega));have hr3:=Zfn hr2;have he3:(r2 / 16) ^^^ Vz (r2 % 16)=Ztl r2:=Nat.xor_comm _ _;rw[he3] at hx3;clear he3;generalize Ztl r2=r3 at *;have hf1:Vz (r1 % 16)<4294967296:=Zbt (by omega);have hf2:Vz (r2 % 16)<4294967296:=Zbt (by omega);generalize Vz (r1 % 16)=f1 at *;generalize Vz (r2 % 16)=f2 at *;have hm1:((r1:Int) % 16).toNat=r1 % 16:=by omega
     have hm2:((r2:Int) % 16).toNat=r2 % 16:=by omega
     have hm3:r1 % 16<16:=by omega
     have hm4:r2 % 16<16:=by omega
     clear hB
     go_wp2
     go_round
     case rel=>exact⟨k+1,by omega,by go_num,by rw[hs.out]⟩
     case measure=>simp[intOf];omega
    ·obtain rfl:k=len:=by omega
     have he:=Za (Zyq _ 4294967295 _ 4294967295 rfl rfl hq (by omega));have ht:=Za (Qg (l:=xs) (Nat.le_of_eq hlen.out))
     go_wp2
     go_ret;exact⟨Zv (he.out.trans (by rw[ht.out];rfl)),hB⟩}
theorem Zwa (A:Option Qae) (cap:Nat) (w:Qac) :
  Qaj Tryz.prog 162 #[.slice A 0 cap] w fun e w'=>e=.returned (.int .u32 0)/\Qak w.heap.size w w':=by{
 have h0:#[Value.int .u32 0,.int .u32 0,.int .u32 0,.int .u32 0,.int .u32 0,.int .u32 0,.int .u32 0,.int .u32 0,.int .u32 0,.int .u32 0,.int .u32 0,.int .u32 0,.int .u32 0,.int .u32 0,.int .u32 0,.int .u32 0]=Zcl 0:=by kernel_rfl
 have H0:=Za h0;clear h0
 go_enter Tryz.func162,Tryz.ntmps162
 go_wp2
 rw[H0.out]
 go_loopw [4] (fun i wr=>∃ k:Nat,k<=16/\i=.int .i64 k/\wr.heap.size=w.heap.size+1/\wr.heap[w.heap.size]? = some (.cells (Zcl k) 243 (0,0))/\Qak w.heap.size w wr)
  (fun i _=>16-(intOf i).toNat)
 case atStart=>exact⟨0,by omega,rfl,by simp,Qah w _,Uv (Qa _ _) _⟩
 case round =>
  obtain⟨k,hk,rfl,hs,hT,hB⟩:=hrel;by_cases hlt:k<16
  ·have hc:wr.cell? ⟨w.heap.size,k,none⟩=some (.int .u32 0):=by rw[cell_of_row _ _ _ _ _ _ hT];simp[Zcl,hlt]
   have hf:wr.frozen? ⟨w.heap.size,k,none⟩=false:=frozen_of_row _ _ _ _ _ hT
   go_wp2_with (go_at_call 183;refine(Zkk k 4 (by omega) (by omega) _).mono ?_;rintro e w' ⟨rfl,rfl⟩)
   exact⟨⟨k+1,by omega,by go_num,by simpa using hs,(heap_setCell_same _ _ _ _ _ _ hT).trans (by rw[<- Zkz k hlt];rfl),hB.setCell (by simp) _⟩,by simp[intOf];omega⟩
  ·obtain rfl:k=16:=by omega
   clear hT hs
   go_wp2
   refine wp_loop_rounds 1 ?_;rw[rounds_succ]
   go_wp2
   go_ret;exact⟨rfl,hB⟩}
theorem Zik (A:Option Qae) (len cap:Nat) (xs:List UInt8) (hlen:Hid (xs.length=len)) (hlc:len<=cap) (hcap:cap<=9223372036854775807) (w:Qac) (hx:Byt w w.heap.size A xs) :
  Qaj Tryz.prog 162 #[.slice A len cap] w fun e w'=>e=.returned (.int .u32 (crc xs:Nat))/\Qak w.heap.size w w':=by{
 rcases Pk xs.length with h0 | h0
 ·have hx0:xs=[]:=Qaa h0
  subst hx0;obtain rfl:=hlen.out;exact Zwa A cap w
 ·obtain⟨ad,rfl,hbl,hc⟩:=hx h0
  exact Z09 ad len cap xs hlen hlc hcap w hbl (Za fun j hj=>hc j (by rw[hlen.out];exact hj))}
def Z2a:Qad->Nat
 | .slice _ n _=>n
 | _=>0
theorem Ztz (k:Nat):Xz k++[0]=Xz (k+1):=by simp[Xz,List.replicate_succ']
theorem Zzf:u8s [0]=[.int .u8 0]:=rfl
theorem Zug (A:Option Qae) (len cap:Nat) (xs:List UInt8) (hlen:Hid (xs.length=len)) (hl:len<=124) (_:len<=cap) (_:cap<=9223372036854775807) (w:Qac) (hx:Byt w w.heap.size A xs) :
  Qaj Tryz.prog 188 #[.slice A len cap] w fun e w'=>∃ v,e=.returned v/\w'.ownsRow w.heap.size 5 1 v 128 (u8s (Zb7 xs))/\Qak w.heap.size w w':=by{
 obtain⟨i0,hi,hz0,hz1,hz2⟩:=info_parts Zpj;obtain⟨v1,w1,hrun1,own1,ba1⟩:=Zf6 (P:=Tryz.prog) (w:=w) w.heap.size 27 27 5 i0 Tryz.underlying27 hi hz0 hz1 hz2 (.slice none 0 0) 0 [] (Qj _ _ _ _) w.heap.size A len cap xs hx hlen.out (by omega) (Qb _);rw[Qp,Qk] at own1;have H1:=Za hrun1;clear hrun1
 go_enter Tryz.func188,Tryz.ntmps188
 go_wp2_with (at_builtin;refine Zi rfl _ _ _ rfl rfl rfl H1.out ?_;clear H1)
 go_loopw [3] (fun v wr=>∃ k:Nat,len+k<=124/\wr.ownsRow w.heap.size 5 1 v (len+k) (u8s (xs++Xz k))/\Qak w.heap.size w wr) (fun v _=>124-Z2a v)
 case atStart=>exact⟨0,by omega,by simpa [Xz] using own1,ba1⟩
 case round =>
  obtain⟨k,hk,hown,hB⟩:=hrel;obtain⟨G,c,rfl,hlc2,hc2,hy⟩:=Zfe hown;by_cases hlt:len+k<124
  ·go_wp2_with (at_builtin;refine wpList_append_own _ rfl _ _ 27 rfl w.heap.size 5 i0 (.int .u8 0) 1 1 Tryz.underlying27 hi hz0 hz1 hz2 rfl (by decide) _ _ _ rfl (hown.alloc _) ⟨wr.heap.size,0,none⟩ 1 1 [.int .u8 0] rfl rfl ?c1 ?c2 ?c3 ?c4 ?c5 ?_)
   case c1 =>
    intro j u hj
    match j,hj with
    | 0,hj=>simp at hj;subst hj;simp[Addr.add]
   case c2=>intro u hu;simp at hu;subst hu;rfl
   case c3=>unfold maxLen;omega
   case c4=>omega
   case c5=>have:=hB.size;simp;omega
   intro v' w2 hown' hgrow _;have hB1:Qak w.heap.size w w2:=(Uv hB _).grown hgrow (Uv hB _).size (fun r e=>by have:=hown.lt r e;omega);rw[<- Zzf,<- Zfy,P8,Ztz] at hown';clear hgrow hown hy
   go_wp2
   obtain⟨G',c',rfl,_,_,_⟩:=Zfe hown'
   go_roundw
   case rel=>exact⟨k+1,by omega,hown',hB1⟩
   case measure=>simp[Z2a];omega
  ·have e:len+k=124:=by omega
   have hpad:xs++Xz k=Zi4 xs:=by
    unfold Zi4;rw[hlen.out,show 124-len=k by omega]
   rw[hpad] at hown hy;rw[e] at hown hlc2;have hpl:Hid ((Zi4 xs).length=124):=Za (Zdx (by rw[hlen.out];omega));clear hown hpad;rw[e]
   go_wp2_with fail
   refine(Zik _ _ c _ hpl (by omega) (by omega) _ hy).mono ?_;rintro e w3 ⟨rfl,hb3⟩
   go_wp2_with fail
   refine(Zzu _ (by omega) (by have:=Zhs (Zi4 xs);omega) _).mono ?_;rintro e w4 ⟨v4,rfl,own4,hb4⟩;obtain⟨v5,w5,hrun5,own5,ba5⟩:=Zf6 (P:=Tryz.prog) (w:=w4) w3.heap.size 27 27 5 i0 Tryz.underlying27 hi hz0 hz1 hz2 v4 4 _ own4 wr.heap.size G 124 c (Zi4 xs) ((hy.below hb3).below (hb4.mono hb3.size)) hpl.out (by omega) hb4.size;have hs13:=Qd hB.size hb3.size;have hB5:=hB.trans ((Zsr hb3 (hb4.trans ba5)).mono hB.size);have HO:=Za (Zk4 own5 hs13);have H5:=Za hrun5;clear hrun5 own5 own4 hy hb3 hb4 ba5 hs13 hB
   go_wp2_with (at_builtin;refine Zi rfl _ _ _ rfl rfl rfl H5.out ?_;clear H5)
   go_ret;exact⟨_,rfl,HO.out,hB5⟩}
theorem Zs2 (A:Option Qae) (len cap:Nat) (hl:len≠128) (w:Qac) :
  Qaj Tryz.prog 137 #[.slice A len cap] w fun e w'=>e=.returned (.tuple #[.slice none 0 0,.int .i64 3])/\w=w':=by{
 go_enter Tryz.func137,Tryz.ntmps137
 go_wp2
 go_ret2
 exact⟨rfl,rfl⟩}
theorem Z5u {xs:List UInt8}(h:xs.length=128):gv 4 xs 0=num (xs.take 4):=by
 rw[Ze7 (by omega)];rfl
theorem Zp9 (ad:Qae) (cap:Nat) (xs:List UInt8) (hlen:Hid (xs.length=128)) (hlc:128<=cap) (hcap:cap<=9223372036854775807) (w:Qac) (hx:Byt w w.heap.size (some ad) xs) (hn:¬ Zmo xs) :
  Qaj Tryz.prog 137 #[.slice (some ad) 128 cap] w fun e w'=>e=.returned (.tuple #[.slice none 0 0,.int .i64 8])/\Qak w.heap.size w w':=by{
 have hp:Byt w w.heap.size (some (ad.add 4)) (xs.drop 4):=by
  obtain⟨ad',e,hp⟩:=hx.part (k:=4) (n:=124) (by rw[hlen.out];omega) (by omega);cases e
  rwa [Qg (by simp[hlen.out])] at hp
 have hpl:Hid ((xs.drop 4).length=124):=Za (by simp[hlen.out]);have hb:=Zhs (xs.drop 4);have hd':((num (xs.take 4):Int) != (crc (xs.drop 4):Nat))=true:=by simpa [Zmo] using hn
 have HD':=Za hd';have hgv:=Za (Z5u hlen.out);clear hn hd'
 go_enter Tryz.func137,Tryz.ntmps137
 go_wp2_with fail
 refine(Zd0 _ _ cap 0 xs hlen (by omega) (by omega) _ hx).mono ?_;rintro e w1 ⟨rfl,rfl⟩;rw[hgv.out]
 go_wp2_with fail
 refine(Zik _ _ _ _ hpl (by omega) (by omega) _ hp).mono ?_;rintro e w2 ⟨rfl,hb2⟩;generalize num (xs.take 4)=q at *;generalize crc (xs.drop 4)=r at *;have hd':=HD'.out
 go_wp2_with fail
 go_ret2
 exact⟨rfl,hb2⟩}
theorem Zt4 (ad:Qae) (cap:Nat) (xs:List UInt8) (hlen:Hid (xs.length=128)) (hlc:128<=cap) (hcap:cap<=9223372036854775807) (w:Qac) (hx:Byt w w.heap.size (some ad) xs) (hn:Zmo xs) :
  Qaj Tryz.prog 137 #[.slice (some ad) 128 cap] w fun e w'=>∃ v,e=.returned (.tuple #[v,.int .i64 0])/\w'.ownsRow w.heap.size 5 1 v 124 (u8s (xs.drop 4))/\Qak w.heap.size w w':=by{
 have hp:Byt w w.heap.size (some (ad.add 4)) (xs.drop 4):=by
  obtain⟨ad',e,hp⟩:=hx.part (k:=4) (n:=124) (by rw[hlen.out];omega) (by omega);cases e
  rwa [Qg (by simp[hlen.out])] at hp
 have hpl:Hid ((xs.drop 4).length=124):=Za (by simp[hlen.out]);have hb:=Zhs (xs.drop 4);have HN:Hid (num (xs.take 4)=(crc (xs.drop 4):Nat)):=Za hn;have hgv:=Za (Z5u hlen.out);obtain⟨i0,hi,hz0,hz1,hz2⟩:=info_parts Zpj;clear hn
 go_enter Tryz.func137,Tryz.ntmps137
 go_wp2_with fail
 refine(Zd0 _ _ cap 0 xs hlen (by omega) (by omega) _ hx).mono ?_;rintro e w1 ⟨rfl,rfl⟩;rw[hgv.out,HN.out]
 go_wp2_with fail
 refine(Zik _ _ _ _ hpl (by omega) (by omega) _ hp).mono ?_;rintro e w2 ⟨rfl,hb2⟩;have hp2:=(hp.below hb2).more hb2.size;obtain⟨v3,w3,hrun3,own3,ba3⟩:=Zf6 (P:=Tryz.prog) (w:=w2) w2.heap.size 27 27 5 i0 Tryz.underlying27 hi hz0 hz1 hz2 (.slice none 0 0) 0 [] (Qj _ _ _ _) w2.heap.size _ 124 (cap-4) _ hp2 hpl.out (by omega) (Qb _);rw[Qp,Qk] at own3;have HO:=Za (Zk4 own3 hb2.size);have H3:=Za hrun3;have hB:=Zsr hb2 ba3;clear hrun3 own3 hp2 hp hx hb2 ba3;generalize crc (xs.drop 4)=r at *
 go_wp2_with (at_builtin;refine Zi rfl _ _ _ rfl rfl rfl H3.out ?_;clear H3)
 go_ret2
 exact⟨_,rfl,HO.out,hB⟩}
theorem Zaa (lo:Nat) (w:Qac):rBy (New lo w) w [.slice none 0 0] []:=⟨none,0,rfl,by simp,by omega,fun i x h=>by simp at h⟩
theorem Zli {a:Qad}{k:IntKind}{x y:Int}(h:x=y):Ending.returned (.tuple #[a,.int k x])=.returned (.tuple #[a,.int k y]):=by rw[h]
theorem X4 (v:Qad) (n m c:Nat) (xs ys:List UInt8) (A:Option Qae) (lo:Nat) (w:Qac) (hown:w.ownsRow lo 5 1 v n (u8s xs)) (hy:Byt w w.heap.size A ys) (hl:ys.length=m) (hs:n+m<=1000000000) (hlo:lo<=w.heap.size) :
  ∃ v' w',(Qi #[27,27] 27 #[v,.slice A m c]).run Tryz.prog w=.ok v' w'/\w'.ownsRow lo 5 1 v' (n+m) (u8s (xs++ys))/\Qak lo w w':=by
 obtain⟨i0,hi,hz0,hz1,hz2⟩:=info_parts Zda;exact Zf6 (P:=Tryz.prog) (w:=w) lo 27 27 5 i0 Tryz.underlying27 hi hz0 hz1 hz2 v n xs hown w.heap.size A m c ys hy hl hs hlo
theorem Yw {P:Program}{w:Qac}{ops:Array Oper}{rest:List Oper}{o:Oper}{a:Act}{Q:Exit->Act->Qac->Prop}(hgd:o.guard=none) (s x:Operand) (t tn:Qaf)
  (ho:o.op=.call { callee:=.builtin .append,args:=#[s,x],argTypes:=#[t,tn] }) {v u v':Qad} {w':Qac} (hs:a.eval s=v) (hx:a.eval x=u)
  (hrun:(Qi #[t,tn] o.type #[v,u]).run P w=.ok v' w') (h:wpList P ops Q rest (a.put o.dst v') w'):wpList P ops Q (o::rest) a w :=
 wpList_plain hgd fun _ hK=>by
  unfold Oper.wp execOp;simp only[ho,resolve,invoke,builtin,Sem.run_bind,Sem.run_pure,Result.andThen_ok,Py,Pq,Pr,hs,hx,hrun];exact hK _ _ h
theorem Zyv (n:Nat) (hn:n<=1000000) (w:Qac) :
  Qaj Tryz.prog 178 #[.slice none 0 0,.int .i64 n] w fun e w'=>∃ u,e=.returned u/\w'.ownsRow w.heap.size 5 1 u 0 []/\Qak w.heap.size w w':=by{
 rcases Pk n with h0 | h0
 ·subst h0
  go_enter Tryz.func178,Tryz.ntmps178
  go_wp2
  go_ret;exact⟨_,rfl,Qj _ _ _ _,Qa _ _⟩
 ·obtain⟨i0,hi,hz0,hz1,hz2⟩:=info_parts Zda
  have hr:=Go.Lib.run_append_grow_zeros (P:=Tryz.prog) w 27 3 27 5 i0 (.int .u8 0) .i64 .i64 Tryz.underlying27 Tryz.underlying3 hi hz0 none 0 0 [] (run_firstCells_none w.drew i0.size 0 0 0) n h0 (by omega) (by omega) (by omega) (by rw[hz2];omega) (by rw[hz2,Qp,nextslicecap_zero (by omega)];omega);rw[Qp] at hr;have hge:=grownCap_ge w n 0 5;have hle:=grownCap_le_maxLen w n 0 5 (by unfold maxLen;omega);generalize grownCap w n 0 5=gc at hr hge hle;have hsz:(([]:List Qad).toArray++Pn (Value.int .u8 0).cells n++Pn (Value.int .u8 0).cells (gc-n)).size=gc*1:=by
   simp only[Array.size_append,size_zeroCells];simp[Value.cells];omega
  generalize ([]:List Qad).toArray++Pn (Value.int .u8 0).cells n++Pn (Value.int .u8 0).cells (gc-n)=cur at hr hsz;have hown:(w.drew.alloc (.cells cur 5)).ownsRow w.heap.size 5 1 (.slice (some ⟨w.heap.size,0,none⟩) 0 gc) 0 [] :=
   ⟨rfl,.inr ⟨w.heap.size,gc,cur,rfl,Qb _,Qah w.drew _,by omega,hle,hsz,by simp⟩⟩
  have hB:Qak w.heap.size w (w.drew.alloc (.cells cur 5)):=(Qa w.heap.size w).drew.alloc (Qb _) _;unfold maxLen at hle;generalize w.drew.alloc (.cells cur 5)=w9 at hr hown hB;have H:=Za hr;replace hown:=Za hown;have h1:¬ ((n:Int)<0):=by omega
  have h2:(n:Int)>0:=by omega
  clear hsz hr
  go_enter Tryz.func178,Tryz.ntmps178
  go_wp2_with (at_builtin;refine Yw rfl _ _ _ _ rfl rfl rfl H.out ?_;clear H)
  go_ret;exact⟨_,rfl,hown.out,hB⟩}
def Zj1 (xss:List (List UInt8)):Nat:=xss.flatten.length
theorem Znv {xss:List (List UInt8)}{k:Nat}{x:List UInt8}(h:xss[k]? = some x):Zj1 (xss.take (k+1))=Zj1 (xss.take k)+x.length:=by
 simp[Zj1,Qq,h]
theorem Zxu {xss:List (List UInt8)}{k:Nat}{x:List UInt8}(h:xss[k]? = some x):(xss.take (k+1)).flatten=(xss.take k).flatten++x:=by
 simp[Qq,h]
theorem Z3e {xss:List (List UInt8)}(k:Nat):Zj1 (xss.take k)<=Zj1 xss:=by
 have h:Zj1 xss=Zj1 (xss.take k)+Zj1 (xss.drop k):=by
  unfold Zj1;rw[<- Px,<- List.flatten_append,Pd]
 omega
theorem Zsq (v:Qad) (xss:List (List UInt8)) (w:Qac) (hbig:Zj1 xss<=1000000) (h:rSl 1 rBy (Old w) w [v] xss) :
  Qaj Tryz.prog 156 #[v] w fun e w'=>∃ u,e=.returned u/\w'.ownsRow w.heap.size 5 1 u (Zj1 xss) (u8s xss.flatten)/\Qak w.heap.size w w':=by{
 obtain⟨A,c,e1,l1,m1,hA⟩:=Zcx h;cases e1;have HA:=Za hA;clear hA h;obtain⟨n,hn⟩:∃ n,xss.length=n:=⟨_,rfl⟩
 rw[hn] at l1 ⊢;replace hn:=Za hn;obtain⟨m,hm⟩:∃ m,Zj1 xss=m:=⟨_,rfl⟩
 rw[hm] at hbig ⊢;have hle:=Za (fun k=>(hm ▸ Z3e k:Zj1 (xss.take k)<=m));replace hm:=Za hm
 go_enter Tryz.func156,Tryz.ntmps156
 go_wp2_with fail
 go_loop [3,11] (fun s i=>∃ k:Nat,k<=n/\i=.int .i64 k/\s=.int .i64 (Zj1 (xss.take k))) (fun _ i=>n-(intOf i).toNat)
 case atStart=>exact⟨0,by omega,rfl,rfl⟩
 case round =>
  obtain⟨k,hk,rfl,rfl⟩:=hrel;have hlk:=hle.out k;by_cases hlt:k<n
  ·obtain⟨x,hx⟩:∃ x,xss[k]? = some x:=⟨_,Qe (by rw[hn.out];exact hlt)⟩
   obtain⟨ad,u,rfl,hok,hc,hby⟩:=HA.out k x hx;have hs:=Za (Znv hx);have hlk2:=hle.out (k+1);rw[hs.out] at hlk2;obtain⟨E,ce,rfl,_⟩:=id (Zm hby);generalize Zj1 (xss.take k)=q at *;replace hx:=Za hx;have h3:¬ ((q:Int)+(x.length:Int)<0):=by omega
   clear hby
   go_wp2_with fail
   go_round
   case rel=>exact⟨k+1,by omega,by go_num,by rw[hs.out];go_num⟩
   case measure=>simp[intOf];omega
  ·have hge:n<=k:=by omega
   have htk:=Za (show Zj1 (xss.take k)=m by rw[Qg (by rw[hn.out];exact hge)];exact hm.out);rw[htk.out] at hlk ⊢
   go_wp2_with fail
   with_reducible refine(Zyv m hbig _).mono ?_
   rintro e2 w2 ⟨u,rfl,ho,hb2⟩;replace ho:=Za ho;replace hb2:=Za hb2;clear hlk htk
   go_wp2_with fail
   go_loopw [6,27] (fun u i wr=>∃ k:Nat,k<=n/\i=.int .i64 k/\wr.ownsRow w.heap.size 5 1 u (Zj1 (xss.take k)) (u8s (xss.take k).flatten)/\Qak w.heap.size w wr) (fun _ i _=>n-(intOf i).toNat)
   case atStart=>exact⟨0,by omega,rfl,ho.out,hb2.out⟩
   case round =>
    clear hge hk hlt ho hb2;obtain⟨j,hk,rfl,hown,hB⟩:=hrel;have hlk:=hle.out j;by_cases hlt:j<n
    ·obtain⟨x,hx⟩:∃ x,xss[j]? = some x:=⟨_,Qe (by rw[hn.out];exact hlt)⟩
     obtain⟨ad,u,rfl,hok,hc,hby⟩:=HA.out j x hx;have hc':=(hB.cell hok).trans hc;have hs:=Za (Znv hx);have hf:=Za (Zxu hx);have hlk2:=hle.out (j+1);rw[hs.out] at hlk2;obtain⟨E,ce,rfl,_,_,hy⟩:=Yq (B:=wr.heap.size) (fun p hp=>hp) (Zf.old hby hB);obtain⟨v3,w3,hr3,o3,ba3⟩:=X4 _ (Zj1 (xss.take j)) x.length ce _ _ E w.heap.size wr hown hy rfl (by omega) hB.size;have B3:=Za (hB.trans ba3);have H3:=Za hr3;replace o3:=Za o3;clear hr3 ba3 hy hby hc hown hB;replace hx:=Za hx
     go_wp2_with (at_builtin;refine Zi rfl _ _ _ rfl rfl rfl H3.out ?_;clear H3)
     go_roundw
     case rel=>exact⟨j+1,by omega,by go_num,by rw[hs.out,hf.out];exact o3.out,B3.out⟩
     case measure=>simp[intOf];omega
    ·have hge:n<=j:=by omega
     have htk:xss.take j=xss:=Qg (by rw[hn.out];exact hge);rw[htk,hm.out] at hown;replace hown:=Za hown;have B:=Za hB;clear hB htk
     go_wp2_with fail
     go_ret;exact⟨_,rfl,hown.out,B.out⟩}
def sb (xs:List UInt8):List UInt8:=if xs.length<=124 then Zb7 xs else []
def se (n:Nat):Int:=if n<=124 then 0 else 3
open Classical in
noncomputable def ob (xs:List UInt8):List UInt8:=if xs.length=128/\Zmo xs then xs.drop 4 else []
open Classical in
noncomputable def oe (xs:List UInt8):Int:=if xs.length=128 then (if Zmo xs then 0 else 8) else 3
theorem Zzx (A:Option Qae) (len cap:Nat) (xs:List UInt8) (hlen:Hid (xs.length=len)) (hlc:len<=cap) (hcap:cap<=9223372036854775807) (w:Qac) (hx:Byt w w.heap.size A xs) :
  Qaj Tryz.prog 124 #[.slice A len cap] w fun e w'=>∃ v,e=.returned (.tuple #[v,.int .i64 (se len)])/\w'.ownsRow w.heap.size 5 1 v (sb xs).length (u8s (sb xs))/\Qak w.heap.size w w':=by{
 by_cases h:len<=124
 ·have h1:se len=0:=if_pos h
  have h2:sb xs=Zb7 xs:=if_pos (by rw[hlen.out];exact h);rw[h1,h2];refine(Z39 A len cap xs hlen h hlc hcap w hx).mono ?_;rintro e w' ⟨rfl,hR,hb⟩;have hl:=Zgj (xs:=xs) (by rw[hlen.out];exact h);have:=hR.own (Qb _) (by omega);exact⟨_,rfl,by rwa [hl] at this ⊢,hb⟩
 ·have h1:se len=3:=if_neg h
  have h2:sb xs=[]:=if_neg (by rw[hlen.out];exact h);rw[h1,h2];refine(Z3j A len cap (by omega) w).mono ?_;rintro e w' ⟨rfl,rfl⟩;exact⟨_,rfl,Qj _ _ _ _,Qa _ _⟩}
theorem Z1a (A:Option Qae) (len cap:Nat) (xs:List UInt8) (hlen:Hid (xs.length=len)) (hlc:len<=cap) (hcap:cap<=9223372036854775807) (w:Qac) (hx:Byt w w.heap.size A xs) :
  Qaj Tryz.prog 113 #[.slice A len cap] w fun e w'=>∃ v,e=.returned (.tuple #[v,.int .i64 (oe xs)])/\w'.ownsRow w.heap.size 5 1 v (ob xs).length (u8s (ob xs))/\Qak w.heap.size w w':=by{
 by_cases h:len=128
 ·subst h
  obtain⟨ad,rfl,_,_⟩:=hx (by rw[hlen.out];omega);by_cases hf:Zmo xs
  ·have h1:oe xs=0:=by unfold oe;rw[if_pos hlen.out,if_pos hf]
   have h2:ob xs=xs.drop 4:=by unfold ob;rw[if_pos ⟨hlen.out,hf⟩]
   rw[h1,h2,show (xs.drop 4).length=124 by simp[hlen.out]];exact Z2o ad cap xs hlen hlc hcap w hx hf
  ·have h1:oe xs=8:=by unfold oe;rw[if_pos hlen.out,if_neg hf]
   have h2:ob xs=[]:=by unfold ob;rw[if_neg (fun h=>hf h.2)]
   rw[h1,h2];refine(Zy3 ad cap xs hlen hlc hcap w hx hf).mono ?_;rintro e w' ⟨rfl,hb⟩;exact⟨_,rfl,Qj _ _ _ _,hb⟩
 ·have h1:oe xs=3:=by unfold oe;rw[if_neg (by rw[hlen.out];exact h)]
  have h2:ob xs=[]:=by unfold ob;rw[if_neg (fun h'=>h (by rw[<- hlen.out];exact h'.1))]
  rw[h1,h2];refine(Z2z A len cap h w).mono ?_;rintro e w' ⟨rfl,rfl⟩;exact⟨_,rfl,Qj _ _ _ _,Qa _ _⟩}
theorem Zp0 (A:Option Qae) (len cap:Nat) (xs:List UInt8) (hlen:Hid (xs.length=len)) (hlc:len<=cap) (hcap:cap<=9223372036854775807) (w:Qac) (hx:Byt w w.heap.size A xs) :
  Qaj Tryz.prog 137 #[.slice A len cap] w fun e w'=>∃ v,e=.returned (.tuple #[v,.int .i64 (oe xs)])/\w'.ownsRow w.heap.size 5 1 v (ob xs).length (u8s (ob xs))/\Qak w.heap.size w w':=by{
 by_cases h:len=128
 ·subst h
  obtain⟨ad,rfl,_,_⟩:=hx (by rw[hlen.out];omega);by_cases hf:Zmo xs
  ·have h1:oe xs=0:=by unfold oe;rw[if_pos hlen.out,if_pos hf]
   have h2:ob xs=xs.drop 4:=by unfold ob;rw[if_pos ⟨hlen.out,hf⟩]
   rw[h1,h2,show (xs.drop 4).length=124 by simp[hlen.out]];exact Zt4 ad cap xs hlen hlc hcap w hx hf
  ·have h1:oe xs=8:=by unfold oe;rw[if_pos hlen.out,if_neg hf]
   have h2:ob xs=[]:=by unfold ob;rw[if_neg (fun h=>hf h.2)]
   rw[h1,h2];refine(Zp9 ad cap xs hlen hlc hcap w hx hf).mono ?_;rintro e w' ⟨rfl,hb⟩;exact⟨_,rfl,Qj _ _ _ _,hb⟩
 ·have h1:oe xs=3:=by unfold oe;rw[if_neg (by rw[hlen.out];exact h)]
  have h2:ob xs=[]:=by unfold ob;rw[if_neg (fun h'=>h (by rw[<- hlen.out];exact h'.1))]
  rw[h1,h2];refine(Zs2 A len cap h w).mono ?_;rintro e w' ⟨rfl,rfl⟩;exact⟨_,rfl,Qj _ _ _ _,Qa _ _⟩}
theorem Zv7 (n:Int) (h0:0<=n) (h1:n<4294967296) (w:Qac) :
  Qaj Tryz.prog 157 #[.int .u32 n] w fun e w'=>∃ A c,e=.returned (.slice A 4 c)/\rBy (Old w') w' [.slice A 4 c] (le 4 n)/\Qak w.heap.size w w' :=
 (Zsg n h0 h1 w).mono fun _ _ ⟨A,e,hy,hb⟩=>⟨A,4,e,by have:=Zpt (cap:=4) hy (by rw[Yd];omega) (by omega);rwa [Yd] at this,hb⟩
theorem Z5o (n:Int) (h0:0<=n) (h1:n<65536) (w:Qac) :
  Qaj Tryz.prog 155 #[.int .i64 n] w fun e w'=>∃ A,e=.returned (.tuple #[.slice A 2 2,.int .i64 0])/\rBy (Old w') w' [.slice A 2 2] (le 2 n)/\Qak w.heap.size w w' :=
 (Z4p n h0 h1 w).mono fun _ _ ⟨A,e,hy,hb⟩=>⟨A,e,by have:=Zpt (cap:=2) hy (by rw[Yd];omega) (by omega);rwa [Yd] at this,hb⟩
theorem Zrn (w:Qac) (t:Qaf) (x:UInt8) (n:Int) (h:(x.toNat:Int)=n):rBy (Old (w.alloc (.cells #[.int .u8 n] t))) (w.alloc (.cells #[.int .u8 n] t)) [.slice (some ⟨w.heap.size,0,none⟩) 1 1] [x]:=by
 subst h;have hy:=Z3i w t [x] #[.int .u8 (x.toNat:Int)] rfl;have e:(w.alloc (.cells #[.int .u8 (x.toNat:Int)] t)).heap.size=w.heap.size+1:=by simp
 rw[<- e] at hy;exact Zpt (xs:=[x]) (cap:=1) hy (Qb _) (by omega)
theorem Zyx (w:Qac) (t:Qaf) (vs:List Qad) (xss:List (List UInt8)) (hl:vs.length=xss.length) (hb:xss.length<=1000) (h:∀ (i:Nat) (v:Qad) (x:List UInt8),vs[i]? = some v->xss[i]? = some x->rBy (Old w) w [v] x) :
  rSl 1 rBy (Old (w.alloc (.cells vs.toArray t))) (w.alloc (.cells vs.toArray t)) [.slice (some ⟨w.heap.size,0,none⟩) xss.length xss.length] xss:=by{
 have hB:Qak w.heap.size w (w.alloc (.cells vs.toArray t)):=(Qa _ _).alloc (Qb _) _;refine⟨_,_,rfl,Qb _,by omega,fun i x hi=> ?_⟩;have hil:i<vs.length:=by rw[hl];exact(Qh.1 hi).1
 have hv:vs[i]? = some vs[i]:=Qe hil;refine⟨_,[vs[i]],rfl,rfl,fun j v hj=> ?_,Zf.old (h i _ x hv hi) hB⟩;have hj0:j=0:=by
  have:=(Qh.1 hj).1;simp at this;omega
 subst hj0;cases hj;have e:(⟨w.heap.size,0,none⟩:Qae).add (i*1+0)=⟨w.heap.size,i,none⟩:=by rw[Uq];simp
 rw[e];refine⟨by simp[Old],?_⟩;simp}
theorem Y5 {W:Qac}{g:Nat}{a b c d e u0 u1 u2 u3 u4:Qad}{t:Qaf}(h:W.heap[g]? = some (.cells #[a,b,c,d,e] t (0,0))):∃ W1,((((W.setCell ⟨g,0,none⟩ u0).setCell ⟨g,1,none⟩ u1).setCell ⟨g,2,none⟩ u2).setCell ⟨g,3,none⟩ u3).setCell ⟨g,4,none⟩ u4=W1 /\
  W1.heap[g]? = some (.cells #[u0,u1,u2,u3,u4] t (0,0))/\W.grownBy W1 (some g)/\W1.heap.size=W.heap.size :=
 ⟨_,rfl,by simp[Qn,Qo,h],Z7 (p:=⟨g,4,none⟩) (Z7 (p:=⟨g,3,none⟩) (Z7 (p:=⟨g,2,none⟩) (Z7 (p:=⟨g,1,none⟩) (Z7 (p:=⟨g,0,none⟩) (Yh W (some g)) rfl u0) rfl u1) rfl u2) rfl u3) rfl u4,by simp⟩
theorem Zl {W:Qac}{g:Nat}{a b c d e:Qad}{t:Qaf}(h:W.heap[g]? = some (.cells #[a,b,c,d,e] t (0,0))):W.cell? ⟨g,0,none⟩=some a/\W.cell? ⟨g,1,none⟩=some b/\W.cell? ⟨g,2,none⟩=some c/\W.cell? ⟨g,3,none⟩=some d/\W.cell? ⟨g,4,none⟩=some e/\(∀ o,W.frozen? ⟨g,o,none⟩=false)/\g<W.heap.size :=
 ⟨by simp[Qm,h],by simp[Qm,h],by simp[Qm,h],by simp[Qm,h],by simp[Qm,h],fun o=>by simp[P7,h],(Pa.1 h).1⟩
theorem Zyb:(Tryz.prog.info? 3).map (fun i=>(i.zero,i.size,i.bytes))=some (some (.int .i64 0),1,8):=by kernel_rfl
theorem Zvq {ok:Qae->Prop}{w:Qac}{n:Int}(h:Zmp n):rK .i64 ok w [.int .i64 n] n:=⟨rfl,by simpa [IntKind.min,IntKind.signed,IntKind.bits] using h.1,by simpa [IntKind.max,IntKind.signed,IntKind.bits] using h.2⟩
theorem Zxh {w:Qac}{lo:Nat}{A:Option Qae}{c:Nat}{xs:List Int}(h:Ya (rK .i64) 1 3 lo w A c xs) (g:Nat) (n:Int) (m:Nat) (hg:w.heap[g]? = some (.cells #[.int .i64 n] 3 (0,0))) (hs:xs.length<100000) (hbase:lo<=w.heap.size) (hn:Zmp n) :
  ∃ A' c' w',(Qi #[52,52] 52 #[.slice A xs.length c,.slice (some ⟨g,0,none⟩) 1 m]).run Tryz.prog w=.ok (.slice A' (xs.length+1) c') w'/\Ya (rK .i64) 1 3 lo w' A' c' (xs++[n])/\w.grownBy w' (A.map (·.block))/\Qak lo w w':=by{
 obtain⟨i0,hi,hz0,hz1,hz2⟩:=info_parts Zyb
 exact Ya.push (Ze3 _) h 52 52 i0 (.int .i64 0) 8 Tryz.underlying52 hi hz0 hz1 hz2 rfl (by decide) ⟨g,0,none⟩ m _ n rfl (Pc (cs:=#[.int .i64 n]) hg) (fun u hu=>by
  simp at hu;subst hu
  rfl) (by unfold maxLen;omega) (by omega) hbase (Zvq hn)}
theorem Z57 (body:List UInt8) (k:Int):Zmp (gv 2 body k):=by
 have:=Zhk 2 body k;exact⟨by omega,by omega⟩
theorem Z1u (body:List UInt8) (k:Int):InU (gv 4 body k):=by
 have:=Zhk 4 body k;exact⟨by omega,by omega⟩
def orN (xs:List Int):Int:=(xs.find? fun x=>x != 0).getD 0
theorem Zre {xs:List Int}{k:Nat}{x:Int}(h:∀ y∈xs.take k,y=0) (hx:xs[k]? = some x) (h0:x≠0):orN xs=x:=by{
 have e:xs=xs.take k++x::xs.drop (k+1):=by
  have hk:=(Qh.1 hx)
  obtain⟨hk1,hk2⟩:=hk;rw[<- hk2,<- Ps hk1,Pd]
 unfold orN;rw[e,List.find?_append,Qab.2 (by intro y hy;simp[h y hy])];simp[h0]}
theorem Zrx {xs:List Int}(h:∀ y∈xs,y=0):orN xs=0:=by
 unfold orN;rw[Qab.2 (by intro y hy;simp[h y hy])];rfl
theorem Z1m (v:Qad) (xs:List Int) (w:Qac) (h:Zlu (Old w) w [v] xs) :
  Qaj Tryz.prog 193 #[v] w fun e w'=>e=.returned (.int .i64 (orN xs))/\w=w':=by{
 obtain⟨A,c,rfl,l1,m1,hA⟩:=Za1 h;have HA:=Za hA;clear hA h;obtain⟨n,hn⟩:∃ n,xs.length=n:=⟨_,rfl⟩
 rw[hn] at l1 ⊢;replace hn:=Za hn
 go_enter Tryz.func193,Tryz.ntmps193
 go_wp2_with fail
 go_loop [8] (fun i=>∃ k:Nat,k<=n/\i=.int .i64 k/\∀ y∈xs.take k,y=0) (fun i=>n-(intOf i).toNat)
 case atStart=>exact⟨0,by omega,rfl,fun y hy=>by simp at hy⟩
 case round =>
  obtain⟨k,hk,rfl,ha⟩:=hrel;replace ha:=Za ha;by_cases hlt:k<n
  ·obtain⟨x,hx⟩:∃ x,xs[k]? = some x:=⟨_,Qe (by rw[hn.out];exact hlt)⟩
   obtain⟨ad,rfl,hok,hc,_⟩:=HA.out k x hx;replace hx:=Za hx;by_cases e:x=0
   ·have he:(x != 0)=false:=by simpa using e
    replace e:=Za e
    go_wp2_with fail
    go_round
    case rel=>exact⟨k+1,by omega,by go_num,fun y hy=>by
     rw[Qq,hx.out] at hy;simp at hy;rcases hy with hy | hy
     ·exact ha.out y hy
     ·rw[hy];exact e.out⟩
    case measure=>simp[intOf];omega
   ·have he:(x != 0)=true:=by simpa using e
    have hor:=Za (Zre ha.out hx.out e);clear e
    go_wp2_with fail
    go_ret;exact⟨Zv hor.out.symm,rfl⟩
  ·have hge:n<=k:=by omega
   have hor:Hid (orN xs=0):=Za (Zrx (by
    have:=ha.out
    rwa [Qg (by rw[hn.out];exact hge)] at this))
   go_wp2_with fail
   go_ret;exact⟨Zv hor.out.symm,rfl⟩}
theorem Zmi (w:Qac) (t:Qaf) (xs:List Int) (cs:Array Qad) (hc:cs.toList=xs.map fun x=>Value.int .i64 x) (hb:xs.length<=1000) (h:∀ x∈xs,Zmp x) :
  Zlu (Old (w.alloc (.cells cs t))) (w.alloc (.cells cs t)) [.slice (some ⟨w.heap.size,0,none⟩) xs.length xs.length] xs:=by{
 refine⟨_,_,rfl,Qb _,by omega,fun i x hi=> ?_⟩;refine⟨_,[.int .i64 x],rfl,rfl,fun j v hj=> ?_,Zvq (h x (P4 hi))⟩;have hj0:j=0:=by
  have:=(Qh.1 hj).1;simp at this;omega
 subst hj0;cases hj;have e:(⟨w.heap.size,0,none⟩:Qae).add (i*1+0)=⟨w.heap.size,i,none⟩:=by rw[Uq];simp
 rw[e];have hci:cs[i]? = some (.int .i64 x):=by rw[<- Array.getElem?_toList,hc,List.getElem?_map,hi];rfl
 refine⟨by simp[Old],?_⟩;rw[<- hci];simp}
section
variable {W : Qac}{g : Nat}{a b c d e u : Qad}{t : Qaf}
theorem Z4w (h:W.heap[g]? = some (.cells #[a,b,c,d,e] t (0,0))) (u:Qad):∃ W1,W.setCell ⟨g,1,none⟩ u=W1/\W1.heap[g]? = some (.cells #[a,u,c,d,e] t (0,0))/\W.grownBy W1 (some g)/\W1.heap.size=W.heap.size :=
 ⟨_,rfl,by simp[Qn,Qo,h],Z7 (p:=⟨g,1,none⟩) (Yh W (some g)) rfl u,by simp⟩
theorem Z4s (h:W.heap[g]? = some (.cells #[a,b,c,d,e] t (0,0))) (u:Qad):∃ W1,W.setCell ⟨g,2,none⟩ u=W1/\W1.heap[g]? = some (.cells #[a,b,u,d,e] t (0,0))/\W.grownBy W1 (some g)/\W1.heap.size=W.heap.size :=
 ⟨_,rfl,by simp[Qn,Qo,h],Z7 (p:=⟨g,2,none⟩) (Yh W (some g)) rfl u,by simp⟩
theorem Z5h (h:W.heap[g]? = some (.cells #[a,b,c,d,e] t (0,0))) (u:Qad):∃ W1,W.setCell ⟨g,3,none⟩ u=W1/\W1.heap[g]? = some (.cells #[a,b,c,u,e] t (0,0))/\W.grownBy W1 (some g)/\W1.heap.size=W.heap.size :=
 ⟨_,rfl,by simp[Qn,Qo,h],Z7 (p:=⟨g,3,none⟩) (Yh W (some g)) rfl u,by simp⟩
theorem Z5m (h:W.heap[g]? = some (.cells #[a,b,c,d,e] t (0,0))) (u:Qad):∃ W1,W.setCell ⟨g,4,none⟩ u=W1/\W1.heap[g]? = some (.cells #[a,b,c,d,u] t (0,0))/\W.grownBy W1 (some g)/\W1.heap.size=W.heap.size :=
 ⟨_,rfl,by simp[Qn,Qo,h],Z7 (p:=⟨g,4,none⟩) (Yh W (some g)) rfl u,by simp⟩
end
theorem Zo8 (A:Option Qae) (len cap:Nat) (k:Int) (xs:List UInt8) (hlen:Hid (xs.length=len)) (hlc:len<=cap) (hcap:cap<=9223372036854775807) (w:Qac) (hx:Byt w w.heap.size A xs) :
  Qaj Tryz.prog 163 #[.slice A len cap,.int .i64 k] w fun e w'=>e=.returned (.tuple #[.int .i64 (gv 2 xs k),.int .i64 (ge 2 len k)])/\Qak w.heap.size w w' :=
 (Zs8 A len cap k xs hlen hlc hcap w hx).mono fun _ _ ⟨e,hw⟩=>⟨e,hw ▸ Qa _ _⟩
theorem Zgn (A:Option Qae) (len cap:Nat) (k:Int) (xs:List UInt8) (hlen:Hid (xs.length=len)) (hlc:len<=cap) (hcap:cap<=9223372036854775807) (w:Qac) (hx:Byt w w.heap.size A xs) :
  Qaj Tryz.prog 161 #[.slice A len cap,.int .i64 k] w fun e w'=>e=.returned (.tuple #[.int .u32 (gv 4 xs k),.int .i64 (ge 4 len k)])/\Qak w.heap.size w w' :=
 (Zd0 A len cap k xs hlen hlc hcap w hx).mono fun _ _ ⟨e,hw⟩=>⟨e,hw ▸ Qa _ _⟩
def Z6r (g:Nat) (a b c d e:Qad):Qac->Prop:=fun w=>w.cell? ⟨g,0,none⟩=some a/\w.cell? ⟨g,1,none⟩=some b/\w.cell? ⟨g,2,none⟩=some c/\w.cell? ⟨g,3,none⟩=some d/\w.cell? ⟨g,4,none⟩=some e/\g<w.heap.size
theorem Ztn (g:Nat) (a b c d e:Qad):Zd3 (Z6r g a b c d e):=fun _ _ h hb=>⟨(hb.cell (p:=⟨g,0,none⟩) h.2.2.2.2.2).trans h.1,(hb.cell (p:=⟨g,1,none⟩) h.2.2.2.2.2).trans h.2.1,(hb.cell (p:=⟨g,2,none⟩) h.2.2.2.2.2).trans h.2.2.1,(hb.cell (p:=⟨g,3,none⟩) h.2.2.2.2.2).trans h.2.2.2.1,(hb.cell (p:=⟨g,4,none⟩) h.2.2.2.2.2).trans h.2.2.2.2.1,Qf h.2.2.2.2.2 hb.size⟩
end Go.Proofs.YtgmbjnajdfgenaaGreat
namespace Go.Proofs.YtgmbjnajdfgenaaGreat
open Go.ChangeShapes Go.WideShapes Go.RowKit
abbrev Ky:=UInt8×Int×Int
def rKy:Rel Ky:=Ziu rU8 (Ziu (rK .u32) (rK .u32))
theorem Z3q:Zfc rKy:=Zco Zwm (Zco (Ze3 _) (Ze3 _))
structure InK (k:Ky):Prop where
 id:InU k.2.1
 off:InU k.2.2
abbrev kyV (k:Ky):Qad:=.agg #[.int .u8 (k.1.toNat:Int),.int .u32 k.2.1,.int .u32 k.2.2]
theorem Zlt {ok:Qae->Prop}{w:Qac}{cs:List Qad}{k:Ky}(h:rKy ok w cs k):cs=[.int .u8 (k.1.toNat:Int),.int .u32 k.2.1,.int .u32 k.2.2]/\InK k:=by
 obtain⟨_,_,rfl,rfl,_,_,rfl,⟨rfl,a1,a2⟩,⟨rfl,b1,b2⟩⟩:=h;simp[IntKind.min,IntKind.max,IntKind.signed,IntKind.bits] at a1 a2 b1 b2;exact⟨rfl,⟨⟨a1,by omega⟩,⟨b1,by omega⟩⟩⟩
theorem Zup {ok:Qae->Prop}{w:Qac}{k:Ky}(h:InK k):rKy ok w [.int .u8 (k.1.toNat:Int),.int .u32 k.2.1,.int .u32 k.2.2] k:=by
 obtain⟨⟨a1,a2⟩,⟨b1,b2⟩⟩:=h;refine⟨[_],_,rfl,rfl,[_],_,rfl,⟨rfl,?_,?_⟩,rfl,?_,?_⟩ <;> simp[IntKind.min,IntKind.max,IntKind.signed,IntKind.bits] <;> omega
abbrev It:=Ky×Int×List UInt8
def rIt:Rel It:=Ziu rKy (Ziu (rK .i64) rBy)
theorem Yl:Zfc rIt:=Zco Z3q (Zco (Ze3 _) Zf)
structure InI (s:It):Prop where
 key:InK s.1
 ref:Zmp s.2.1
abbrev itV (s:It) (d:Qad):Qad:=.agg #[.int .u8 (s.1.1.toNat:Int),.int .u32 s.1.2.1,.int .u32 s.1.2.2,.int .i64 s.2.1,d]
def Itm (ok:Qae->Prop) (w:Qac) (v:Qad) (s:It):Prop:=∃ d,v=itV s d/\InI s/\rBy ok w [d] s.2.2
theorem Zmd {ok:Qae->Prop}{w:Qac}{cs:List Qad}{s:It}(h:rIt ok w cs s):∃ d,cs=[.int .u8 (s.1.1.toNat:Int),.int .u32 s.1.2.1,.int .u32 s.1.2.2,.int .i64 s.2.1,d]/\InI s/\rBy ok w [d] s.2.2:=by
 obtain⟨_,_,rfl,hk,_,_,rfl,⟨rfl,a1,a2⟩,hd⟩:=h;obtain⟨rfl,hi⟩:=Zlt hk;obtain⟨A,cap,rfl,hd'⟩:=hd;simp[IntKind.min,IntKind.max,IntKind.signed,IntKind.bits] at a1 a2;exact⟨_,rfl,⟨hi,⟨a1,a2⟩⟩,A,cap,rfl,hd'⟩
theorem Zxe {ok:Qae->Prop}{w:Qac}{d:Qad}{s:It}(h:InI s) (hd:rBy ok w [d] s.2.2):rIt ok w [.int .u8 (s.1.1.toNat:Int),.int .u32 s.1.2.1,.int .u32 s.1.2.2,.int .i64 s.2.1,d] s:=by
 obtain⟨hk,⟨a1,a2⟩⟩:=h;refine⟨[_,_,_],_,rfl,Zup hk,[_],_,rfl,⟨rfl,?_,?_⟩,hd⟩ <;> simp[IntKind.min,IntKind.max,IntKind.signed,IntKind.bits] <;> omega
theorem Itm.map {ok ok':Qae->Prop}{w w':Qac}{v:Qad}{s:It}(hk:∀ p v,ok p->w.cell? p=some v->ok' p/\w'.cell? p=some v) (h:Itm ok w v s):Itm ok' w' v s:=by
 obtain⟨d,e,h1,h2⟩:=h;exact⟨d,e,h1,Zf _ _ _ _ _ _ hk h2⟩
theorem Itm.below {w w':Qac}{v:Qad}{s:It}(h:Itm (Old w) w v s) (hb:Qak w.heap.size w w'):Itm (Old w') w' v s :=
 h.map fun _ _ hp hc=>⟨Qf hp hb.size,(hb.cell hp).trans hc⟩
theorem Itm.drop {lo:Nat}{w:Qac}{v:Qad}{s:It}(h:Itm (New lo w) w v s):Itm (Old w) w v s :=
 h.map fun _ _ hp hc=>⟨hp.2.1,hc⟩
theorem Itm.new {lo lo':Nat}{w w':Qac}{v:Qad}{s:It}(h:Itm (New lo w) w v s) (hl:lo'<=lo) (hb:Qak w.heap.size w w'):Itm (New lo' w') w' v s :=
 h.map fun _ _ hp hc=>⟨⟨Qd hl hp.1,Qf hp.2.1 hb.size,(hb.frozen hp.2.1).trans hp.2.2⟩,(hb.cell hp.2.1).trans hc⟩
theorem Itm.grown {w w':Qac}{lo:Nat}{v:Qad}{s:It}{row:Option Nat}(h:Itm (New lo w) w v s) (hg:w.grownBy w' row) (hr:∀ q,row=some q->q<lo):Itm (New lo w') w' v s:=by
 obtain⟨d,e,h1,h2⟩:=h;exact⟨d,e,h1,Zf.grown h2 hg hr⟩
theorem Itm.open {ok:Qae->Prop}{w:Qac}{v:Qad}{s:It}(h:Itm ok w v s):∃ A c,v=itV s (.slice A s.2.2.length c)/\InI s/\s.2.2.length<=c/\c<=9223372036854775807/\rBy ok w [.slice A s.2.2.length c] s.2.2:=by
 obtain⟨d,rfl,h1,h2⟩:=h;obtain⟨A,c,rfl,h3,h4,h5⟩:=Zm h2;exact⟨A,c,rfl,h1,h3,h4,h2⟩
theorem Xf (w:Qac) (a b c:Qad) (t:Qaf):∃ w1,w.alloc (.cells #[a,b,c] t)=w1/\w1.cell? ⟨w.heap.size,0,none⟩=some a/\w1.cell? ⟨w.heap.size,1,none⟩=some b/\w1.cell? ⟨w.heap.size,2,none⟩=some c/\w1.heap.size=w.heap.size+1/\Qak w.heap.size w w1/\w1.heap[w.heap.size]? = some (.cells #[a,b,c] t (0,0)) :=
 ⟨_,rfl,by simp,by simp,by simp,by simp,(Qa _ _).alloc (Qb _) _,Qah _ _⟩
def Zb0 (s:It):Bool:=(decide (s.2.1=0)||(decide (8<=s.2.1)&&decide (s.2.1<256)))&&decide (s.2.2.length<=12)
def Z4m (s:It):Int:=if Zb0 s then 0 else 8
theorem Zax {s:It}(h:Zb0 s=true):(s.2.1=0\/(8<=s.2.1/\s.2.1<256))/\s.2.2.length<=12:=by
 simpa [Zb0] using h
theorem Zxk {s:It}(h:(s.2.1=0\/(8<=s.2.1/\s.2.1<256))/\s.2.2.length<=12):Zb0 s=true:=by simpa [Zb0] using h
theorem Zcc {s:It}(h:Zb0 s=true):Z4m s=0:=by simp[Z4m,h]
theorem Ue {s:It}(h:Zb0 s=false):Z4m s=8:=by simp[Z4m,h]
def itB (s:It):List UInt8:=[s.1.1]++(le 4 s.1.2.1++(le 4 s.1.2.2++(le 2 s.2.1++([UInt8.ofNat s.2.2.length]++s.2.2))))
theorem Um (s:It):(itB s).length=12+s.2.2.length:=by simp[itB,Yd];omega
def wrI (s:It):List UInt8:=if Zb0 s then itB s else []
def Zaw:It:=((0,0,0),0,[])
theorem Zr9:InI Zaw:=⟨⟨⟨by decide,by decide⟩,⟨by decide,by decide⟩⟩,⟨by decide,by decide⟩⟩
theorem Ug (ok:Qae->Prop) (w:Qac):Itm ok w (.agg #[.int .u8 0,.int .u32 0,.int .u32 0,.int .i64 0,.slice none 0 0]) Zaw:=⟨_,rfl,Zr9,none,0,rfl,by simp[Zaw],by omega,fun i x h=>by simp[Zaw] at h⟩
theorem Zxf:Zcy Tryz.prog 37 rKy:=Zgf Tryz.underlying37 (Zbw rfl (Zll Tryz.underlying5) (Zbw (by kernel_rfl) (Zpy Tryz.underlying32) (Zka (by kernel_rfl) (by kernel_rfl) (Zpy Tryz.underlying32))))
theorem Zyw {H:Type}{enc:Qaf×Qad->H}{w:Qac}{b0:Nat}{spare:Nat->Bool}{held:Bool}{r:Reach}{v:Qad}{x:DataW H}{ps:List MemPlace}(hval:Value.okWide Tryz.prog w r b0 37 v) (hd:DataW.Trod enc Tryz.prog w 0 spare held 37 v x ps) :
  ∃ k,v=kyV k/\InK k:=by
 obtain⟨cs,rfl,_⟩:=okWide_struct Tryz.underlying37 hval;obtain⟨s,hs⟩:=Zrp Zxf hd;obtain⟨h1,h2⟩:=Zlt hs;exact⟨s,by obtain⟨cs⟩:=cs;simp[Value.cells] at h1;rw[h1],h2⟩
def Zpi (a b:Int):Int:=if a<b then -1 else if b<a then 1 else 0
theorem Zho {a b:Int}(h:a<b):Zpi a b = -1:=if_pos h
theorem Zij {a b:Int}(h:b<a):Zpi a b=1:=by unfold Zpi;rw[if_neg (by omega),if_pos h]
theorem Zhl {a b:Int}(h:a=b):Zpi a b=0:=by subst h;simp[Zpi]
theorem Zoy (a b:Int):Zmp (Zpi a b):=by
 unfold Zpi;split
 ·exact⟨by decide,by decide⟩
 ·split <;> exact⟨by decide,by decide⟩
def Zq (a b:Ky):Bool:=if a.1.toNat≠b.1.toNat then decide (a.1.toNat<b.1.toNat) else if a.2.1≠b.2.1 then decide (a.2.1<b.2.1) else decide (a.2.2<b.2.2)
theorem Zx0 (a b c:Int):orN [a,b,c]=if a≠0 then a else if b≠0 then b else c:=by{
 unfold orN;by_cases h:a=0
 ·subst h
  by_cases h:b=0
  ·subst h
   by_cases h:c=0
   ·subst h;rfl
   ·simp[h]
  ·simp[h]
 ·simp[h]}
theorem Z2v (a b:Ky):decide (orN [Zpi a.1.toNat b.1.toNat,Zpi a.2.1 b.2.1,Zpi a.2.2 b.2.2]<0)=Zq a b:=by{
 rw[Zx0];unfold Zq;have z:¬ (0:Int)≠0:=by omega
 have m1:(-1:Int)≠0:=by omega
 have p1:(1:Int)≠0:=by omega
 rcases Nat.lt_trichotomy a.1.toNat b.1.toNat with h | h | h
 ·rw[Zho (by omega),if_pos m1,if_pos (show a.1.toNat≠b.1.toNat by omega)];simp[h]
 ·rw[Zhl (show (a.1.toNat:Int)=b.1.toNat by omega),if_neg z,if_neg (show ¬ a.1.toNat≠b.1.toNat by omega)]
  rcases Int.lt_trichotomy a.2.1 b.2.1 with h1 | h1 | h1
  ·rw[Zho h1,if_pos m1,if_pos (show a.2.1≠b.2.1 by omega)];simp[h1]
  ·rw[Zhl h1,if_neg z,if_neg (show ¬ a.2.1≠b.2.1 by omega)]
   rcases Int.lt_trichotomy a.2.2 b.2.2 with h2 | h2 | h2
   ·rw[Zho h2];simp[h2]
   ·rw[Zhl h2];simp[h2]
   ·rw[Zij h2,decide_eq_false (show ¬ (1:Int)<0 by omega),decide_eq_false (show ¬ a.2.2<b.2.2 by omega)]
  ·rw[Zij h1,if_pos p1,if_pos (show a.2.1≠b.2.1 by omega),decide_eq_false (show ¬ (1:Int)<0 by omega),decide_eq_false (show ¬ a.2.1<b.2.1 by omega)]
 ·rw[Zij (show (b.1.toNat:Int)<a.1.toNat by omega),if_pos p1,if_pos (show a.1.toNat≠b.1.toNat by omega),decide_eq_false (show ¬ (1:Int)<0 by omega),decide_eq_false (show ¬ a.1.toNat<b.1.toNat by omega)]}
theorem Zkl (a:Int) (w:Qac):Qaj Tryz.prog 133 #[.int .u8 a] w fun e w'=>e=.returned (.bool false)/\w=w':=by
 go_enter Tryz.func133,Tryz.ntmps133
 go_wp2_with fail
 go_ret;exact⟨Zk (by simp),rfl⟩
theorem Zft (a:Int) (w:Qac):Qaj Tryz.prog 134 #[.int .u32 a] w fun e w'=>e=.returned (.bool false)/\w=w':=by
 go_enter Tryz.func134,Tryz.ntmps134
 go_wp2_with fail
 go_ret;exact⟨Zk (by simp),rfl⟩
theorem Zzy (a b:Int) (w:Qac):Qaj Tryz.prog 96 #[.int .u8 a,.int .u8 b] w fun e w'=>e=.returned (.int .i64 (Zpi a b))/\w=w':=by{
 rcases Int.lt_trichotomy a b with h | h | h
 ·rw[Zho h]
  go_enter Tryz.func96,Tryz.ntmps96
  go_wp2_with fail
  with_reducible refine(Zkl a _).mono ?_
  rintro e w1 ⟨rfl,rfl⟩
  go_wp2_with fail
  with_reducible refine(Zkl b _).mono ?_
  rintro e w1 ⟨rfl,rfl⟩
  go_wp2_with fail
  go_ret;exact⟨rfl,rfl⟩
 ·rw[Zhl h]
  subst h
  go_enter Tryz.func96,Tryz.ntmps96
  go_wp2_with fail
  with_reducible refine(Zkl a _).mono ?_
  rintro e w1 ⟨rfl,rfl⟩
  go_wp2_with fail
  with_reducible refine(Zkl a _).mono ?_
  rintro e w1 ⟨rfl,rfl⟩
  go_wp2_with fail
  go_ret;exact⟨rfl,rfl⟩
 ·rw[Zij h]
  have h2:¬ a<b:=by omega
  go_enter Tryz.func96,Tryz.ntmps96
  go_wp2_with fail
  with_reducible refine(Zkl a _).mono ?_
  rintro e w1 ⟨rfl,rfl⟩
  go_wp2_with fail
  with_reducible refine(Zkl b _).mono ?_
  rintro e w1 ⟨rfl,rfl⟩
  go_wp2_with fail
  go_ret;exact⟨rfl,rfl⟩}
theorem Zm0 (a b:Int) (w:Qac):Qaj Tryz.prog 97 #[.int .u32 a,.int .u32 b] w fun e w'=>e=.returned (.int .i64 (Zpi a b))/\w=w':=by{
 rcases Int.lt_trichotomy a b with h | h | h
 ·rw[Zho h]
  go_enter Tryz.func97,Tryz.ntmps97
  go_wp2_with fail
  with_reducible refine(Zft a _).mono ?_
  rintro e w1 ⟨rfl,rfl⟩
  go_wp2_with fail
  with_reducible refine(Zft b _).mono ?_
  rintro e w1 ⟨rfl,rfl⟩
  go_wp2_with fail
  go_ret;exact⟨rfl,rfl⟩
 ·rw[Zhl h]
  subst h
  go_enter Tryz.func97,Tryz.ntmps97
  go_wp2_with fail
  with_reducible refine(Zft a _).mono ?_
  rintro e w1 ⟨rfl,rfl⟩
  go_wp2_with fail
  with_reducible refine(Zft a _).mono ?_
  rintro e w1 ⟨rfl,rfl⟩
  go_wp2_with fail
  go_ret;exact⟨rfl,rfl⟩
 ·rw[Zij h]
  have h2:¬ a<b:=by omega
  go_enter Tryz.func97,Tryz.ntmps97
  go_wp2_with fail
  with_reducible refine(Zft a _).mono ?_
  rintro e w1 ⟨rfl,rfl⟩
  go_wp2_with fail
  with_reducible refine(Zft b _).mono ?_
  rintro e w1 ⟨rfl,rfl⟩
  go_wp2_with fail
  go_ret;exact⟨rfl,rfl⟩}
theorem Zx8 (v:Qad) (xs:List Int) (w:Qac) (h:Zlu (Old w) w [v] xs) :
  Qaj Tryz.prog 95 #[v] w fun e w'=>e=.returned (.int .i64 (orN xs))/\w=w':=by{
 obtain⟨A,c,rfl,l1,m1,hA⟩:=Za1 h;have HA:=Za hA;clear hA h;obtain⟨n,hn⟩:∃ n,xs.length=n:=⟨_,rfl⟩
 rw[hn] at l1 ⊢;replace hn:=Za hn
 go_enter Tryz.func95,Tryz.ntmps95
 go_wp2_with fail
 go_loop [8] (fun i=>∃ k:Nat,k<=n/\i=.int .i64 k/\∀ y∈xs.take k,y=0) (fun i=>n-(intOf i).toNat)
 case atStart=>exact⟨0,by omega,rfl,fun y hy=>by simp at hy⟩
 case round =>
  obtain⟨k,hk,rfl,ha⟩:=hrel;replace ha:=Za ha;by_cases hlt:k<n
  ·obtain⟨x,hx⟩:∃ x,xs[k]? = some x:=⟨_,Qe (by rw[hn.out];exact hlt)⟩
   obtain⟨ad,rfl,hok,hc,_⟩:=HA.out k x hx;replace hx:=Za hx;by_cases e:x=0
   ·have he:(x != 0)=false:=by simpa using e
    replace e:=Za e
    go_wp2_with fail
    go_round
    case rel=>exact⟨k+1,by omega,by go_num,fun y hy=>by
     rw[Qq,hx.out] at hy;simp at hy;rcases hy with hy | hy
     ·exact ha.out y hy
     ·rw[hy];exact e.out⟩
    case measure=>simp[intOf];omega
   ·have he:(x != 0)=true:=by simpa using e
    have hor:=Za (Zre ha.out hx.out e);clear e
    go_wp2_with fail
    go_ret;exact⟨Zv hor.out.symm,rfl⟩
  ·have hge:n<=k:=by omega
   have hor:Hid (orN xs=0):=Za (Zrx (by
    have:=ha.out
    rwa [Qg (by rw[hn.out];exact hge)] at this))
   go_wp2_with fail
   go_ret;exact⟨Zv hor.out.symm,rfl⟩}
theorem Zg8 (a b:Ky) (w:Qac) :
  Qaj Tryz.prog 56 #[kyV a,kyV b] w fun e w'=>e=.returned (.bool (Zq a b))/\Qak w.heap.size w w':=by{
 have hfin:=Za (Z2v a b);obtain⟨ak,ai,ao⟩:=a;obtain⟨bk,bi,bo⟩:=b;unfold kyV
 dsimp only at hfin ⊢
 generalize Zq (ak,ai,ao) (bk,bi,bo)=res at hfin ⊢;obtain⟨p,hp⟩:∃ p:Int,(ak.toNat:Int)=p:=⟨_,rfl⟩
 obtain⟨q,hq⟩:∃ q:Int,(bk.toNat:Int)=q:=⟨_,rfl⟩
 rw[hp,hq] at hfin ⊢;clear hp hq;obtain⟨w1,hw1,f1,f2,f3,hs1,hB1,_⟩:=Xf w (.int .u8 p) (.int .u32 ai) (.int .u32 ao) 37;obtain⟨w2,hw2,g1,g2,g3,hs2,hB2,_⟩:=Xf w1 (.int .u8 q) (.int .u32 bi) (.int .u32 bo) 37;have hB:=Za (hB1.trans (hB2.mono hB1.size));have k1:=(hB2.cell (p:=⟨w.heap.size,0,none⟩) (show w.heap.size<_ by omega)).trans f1;have k2:=(hB2.cell (p:=⟨w.heap.size,1,none⟩) (show w.heap.size<_ by omega)).trans f2;have k3:=(hB2.cell (p:=⟨w.heap.size,2,none⟩) (show w.heap.size<_ by omega)).trans f3;have lt1:w.heap.size<w2.heap.size:=by omega
 have lt2:w1.heap.size<w2.heap.size:=by omega
 have i1:=Za (Zoy p q);have i2:=Za (Zoy ai bi);have i3:=Za (Zoy ao bo);obtain⟨c1,h1⟩:∃ c,Zpi p q=c:=⟨_,rfl⟩
 obtain⟨c2,h2⟩:∃ c,Zpi ai bi=c:=⟨_,rfl⟩
 obtain⟨c3,h3⟩:∃ c,Zpi ao bo=c:=⟨_,rfl⟩
 rw[h1] at i1 hfin;rw[h2] at i2 hfin;rw[h3] at i3 hfin;replace h1:=Za h1;replace h2:=Za h2;replace h3:=Za h3;obtain⟨c,hc⟩:∃ c,orN [c1,c2,c3]=c:=⟨_,rfl⟩
 rw[hc] at hfin;replace hc:=Za hc;clear f1 f2 f3 hB1 hB2;replace hs1:=Za hs1;replace hs2:=Za hs2
 go_enter Tryz.func56,Tryz.ntmps56
 go_upto_region 1 with fail
 clear hw1 hw2
 refine wp_region_fx (by kernel_rfl) (fun W=>Qak w2.heap.size w2 W) (fun i=>match i with
   | 15=>some (fun v W=>Zlu (Old W) W [v] [c1,c2,c3])
   | _=>none) (fun i=>match i with
   | 4=>some (.int .i64 c1)
   | 9=>some (.int .i64 c2)
   | 14=>some (.int .i64 c3)
   | 16=>some (.int .i64 c)
   | _=>none) (by kernel_rfl) (Qa _ _).drew (fun w w' h hb=>h.trans (hb.mono h.size)) ?tst ?_
 case tst =>
  intro j φ x W W' hp hx hb
  match j,hp with
  | 15,hp=>cases hp;exact Zve.old hx hb
 repeat (first
  | (refine wpAs_skip rfl ?_;simp only[Qc,Zb,Zc,Zd])
  | (refine wpAs_pure (v := ?_) rfl rfl ?_ ?_;rotate_left;(intro W hC hE;clear hE;(have z1:=(hC.cell (p:=⟨w.heap.size,0,none⟩) lt1).trans k1;have z2:=(hC.cell (p:=⟨w1.heap.size,0,none⟩) lt2).trans g1);clear hC;go_simp;first | done | with_reducible rfl);simp only[Qc,Zb,Zc,Zd]))
 refine wpAs_fixed rfl rfl rfl ?_ ?_
 ·intro W hC hE
  refine does_enter (f:=96) (args:=#[.int .u8 p,.int .u8 q]) ?_ ?_
  ·go_simp
  ·refine(Zzy p q W).mono ?_
   rintro e w' ⟨rfl,rfl⟩;rw[h1.out];have hg:=Qa W.heap.size W;exact⟨_,rfl,rfl,hg⟩
 simp only[Qc,Zb,Zc,Zd]
 repeat (first
  | (refine wpAs_skip rfl ?_;simp only[Qc,Zb,Zc,Zd])
  | (refine wpAs_pure (v := ?_) rfl rfl ?_ ?_;rotate_left;(intro W hC hE;clear hE;(have z1:=(hC.cell (p:=⟨w.heap.size,1,none⟩) lt1).trans k2;have z2:=(hC.cell (p:=⟨w1.heap.size,1,none⟩) lt2).trans g2);clear hC;go_simp;first | done | with_reducible rfl);simp only[Qc,Zb,Zc,Zd]))
 refine wpAs_fixed rfl rfl rfl ?_ ?_
 ·intro W hC hE
  refine does_enter (f:=97) (args:=#[.int .u32 ai,.int .u32 bi]) ?_ ?_
  ·go_simp
  ·refine(Zm0 ai bi W).mono ?_
   rintro e w' ⟨rfl,rfl⟩;rw[h2.out];have hg:=Qa W.heap.size W;exact⟨_,rfl,rfl,hg⟩
 simp only[Qc,Zb,Zc,Zd]
 repeat (first
  | (refine wpAs_skip rfl ?_;simp only[Qc,Zb,Zc,Zd])
  | (refine wpAs_pure (v := ?_) rfl rfl ?_ ?_;rotate_left;(intro W hC hE;clear hE;(have z1:=(hC.cell (p:=⟨w.heap.size,2,none⟩) lt1).trans k3;have z2:=(hC.cell (p:=⟨w1.heap.size,2,none⟩) lt2).trans g3);clear hC;go_simp;first | done | with_reducible rfl);simp only[Qc,Zb,Zc,Zd]))
 refine wpAs_fixed rfl rfl rfl ?_ ?_
 ·intro W hC hE
  refine does_enter (f:=97) (args:=#[.int .u32 ao,.int .u32 bo]) ?_ ?_
  ·go_simp
  ·refine(Zm0 ao bo W).mono ?_
   rintro e w' ⟨rfl,rfl⟩;rw[h3.out];have hg:=Qa W.heap.size W;exact⟨_,rfl,rfl,hg⟩
 simp only[Qc,Zb,Zc,Zd];refine wpAs_act rfl rfl ?_ ?_
 ·intro W hC hE
  clear hE
  have hl:=Za (Zmi W 3 [c1,c2,c3] #[.int .i64 c1,.int .i64 c2,.int .i64 c3] rfl (by simp) (fun x hx=>by
   simp at hx;rcases hx with rfl | rfl | rfl
   ·exact i1.out
   ·exact i2.out
   ·exact i3.out))
  clear hC
  go_simp
  exact⟨hl.out,(Qa _ _).alloc (Qb _) _⟩
 simp only[Qc,Zb,Zc,Zd,envAdd];intro x20;refine wpAs_fixed rfl rfl rfl ?_ ?_
 ·intro W hC hE
  have y20:=hE.1 rfl;refine does_enter (f:=95) (args:=#[x20]) ?_ ?_
  ·clear hE hC
   obtain⟨_,_,e,_⟩:=Za1 y20;cases e;clear y20
   go_simp
  ·refine(Zx8 x20 _ W y20).mono ?_
   rintro e w' ⟨rfl,rfl⟩;rw[hc.out];exact⟨_,rfl,rfl,Qa _ _⟩
 simp only[Qc,Zb,Zc,Zd]
 repeat (first
  | (refine wpAs_skip rfl ?_;simp only[Qc,Zb,Zc,Zd])
  | (refine wpAs_pure (v := ?_) rfl rfl ?_ ?_;rotate_left;(intro W hC hE;clear hE;skip;clear hC;go_simp;first | done | with_reducible rfl);simp only[Qc,Zb,Zc,Zd]))
 refine wpAs_end fun W hC hE=> ?_
 clear hE
 go_wp2
 go_ret;exact⟨Zk (by rw[<- hfin.out]),hB.out.trans (hC.mono hB.out.size)⟩}
theorem Zq2 (s:It) (n:Nat) (hn:s.2.2.length=n):(s.2.1=0/\n<=12/\Zb0 s=true)\/(s.2.1=0/\12<n/\Zb0 s=false)\/(s.2.1≠0/\s.2.1<8/\Zb0 s=false)\/(s.2.1≠0/\¬ s.2.1<8/\256<=s.2.1/\Zb0 s=false)\/(s.2.1≠0/\¬ s.2.1<8/\¬ 256<=s.2.1/\n<=12/\Zb0 s=true)\/(s.2.1≠0/\¬ s.2.1<8/\¬ 256<=s.2.1/\12<n/\Zb0 s=false):=by{
 subst hn;cases e:Zb0 s with
 | true =>
  have:=Zax e;simp only[and_true,reduceCtorEq,and_false,or_false,false_or];omega
 | false =>
  have:¬ ((s.2.1=0\/(8<=s.2.1/\s.2.1<256))/\s.2.2.length<=12):=fun h=>by rw[Zxk h] at e;cases e
  simp only[and_true,reduceCtorEq,and_false,false_or];omega}
theorem Za7 (v:Qad) (s:It) (w:Qac) (h:Itm (Old w) w v s):Qaj Tryz.prog 73 #[v] w fun e w'=>e=.returned (.int .i64 (Z4m s))/\Qak w.heap.size w w':=by{
 obtain⟨A,c,rfl,_,l1,m1,_⟩:=h.open;obtain⟨n,hn⟩:∃ n,s.2.2.length=n:=⟨_,rfl⟩
 have hw:=Zq2 s n hn;unfold itV;rw[hn] at l1 ⊢;obtain⟨w0,hw0,f1,f2,f3,f4,f5,hs0,hB0,_⟩:=Z6 w (.int .u8 (s.1.1.toNat:Int)) (.int .u32 s.1.2.1) (.int .u32 s.1.2.2) (.int .i64 s.2.1) (.slice A n c) 54;clear f1 f2 f3 hs0 hn h;have HB0:=Za hB0;clear hB0;obtain⟨r,hr⟩:∃ r,s.2.1=r:=⟨_,rfl⟩
 rw[hr] at hw f4 ⊢;rw[hr] at hw0;clear hr;rcases hw with ⟨rfl,h1,hm⟩ | ⟨rfl,h1,hm⟩ | ⟨h0,h1,hm⟩ | ⟨h0,h1,h2,hm⟩ | ⟨h0,h1,h2,h3,hm⟩ | ⟨h0,h1,h2,h3,hm⟩
 ·have hc:=Za (Zcc hm)
  have i1:¬ (12:Int)<n:=by omega
  clear hm;rw[hc.out]
  go_enter Tryz.func73,Tryz.ntmps73
  go_upto_region 1 with fail
  clear hw0
  go_wp2_with fail
  go_ret;exact⟨rfl,HB0.out⟩
 ·have hc:=Za (Ue hm)
  have i1:(12:Int)<n:=by omega
  clear hm;rw[hc.out]
  go_enter Tryz.func73,Tryz.ntmps73
  go_upto_region 1 with fail
  clear hw0
  go_wp2_with fail
  go_ret;exact⟨rfl,HB0.out⟩
 ·have hc:=Za (Ue hm)
  have t0:(r != 0)=true:=by simpa using h0
  have t1:(r==0)=false:=by simpa using h0
  clear h0;clear hm;rw[hc.out]
  go_enter Tryz.func73,Tryz.ntmps73
  go_upto_region 1 with fail
  clear hw0
  go_wp2_with fail
  go_ret;exact⟨rfl,HB0.out⟩
 ·have hc:=Za (Ue hm)
  have t0:(r != 0)=true:=by simpa using h0
  have t1:(r==0)=false:=by simpa using h0
  clear h0;clear hm;rw[hc.out]
  go_enter Tryz.func73,Tryz.ntmps73
  go_upto_region 1 with fail
  clear hw0
  go_wp2_with fail
  go_ret;exact⟨rfl,HB0.out⟩
 ·have hc:=Za (Zcc hm)
  have t0:(r != 0)=true:=by simpa using h0
  have t1:(r==0)=false:=by simpa using h0
  have i4:¬ (12:Int)<n:=by omega
  clear h0;clear hm;rw[hc.out]
  go_enter Tryz.func73,Tryz.ntmps73
  go_upto_region 1 with fail
  clear hw0
  go_wp2_with fail
  go_ret;exact⟨rfl,HB0.out⟩
 ·have hc:=Za (Ue hm)
  have t0:(r != 0)=true:=by simpa using h0
  have t1:(r==0)=false:=by simpa using h0
  have i4:(12:Int)<n:=by omega
  clear h0;clear hm;rw[hc.out]
  go_enter Tryz.func73,Tryz.ntmps73
  go_upto_region 1 with fail
  clear hw0
  go_wp2_with fail
  go_ret;exact⟨rfl,HB0.out⟩}
theorem Ur (v:Qad) (s:It) (w:Qac) (h:Itm (Old w) w v s):Qaj Tryz.prog 164 #[v] w fun e w'=>e=.returned (.bool (Zb0 s))/\Qak w.heap.size w w':=by{
 obtain⟨A,c,rfl,_,l1,m1,_⟩:=h.open;obtain⟨n,hn⟩:∃ n,s.2.2.length=n:=⟨_,rfl⟩
 have hw:=Zq2 s n hn;unfold itV;rw[hn] at l1 ⊢;obtain⟨w0,hw0,f1,f2,f3,f4,f5,hs0,hB0,_⟩:=Z6 w (.int .u8 (s.1.1.toNat:Int)) (.int .u32 s.1.2.1) (.int .u32 s.1.2.2) (.int .i64 s.2.1) (.slice A n c) 54;clear f1 f2 f3 hs0 hn h;have HB0:=Za hB0;clear hB0;obtain⟨r,hr⟩:∃ r,s.2.1=r:=⟨_,rfl⟩
 rw[hr] at hw f4 ⊢;rw[hr] at hw0;clear hr;rcases hw with ⟨rfl,h1,hm⟩ | ⟨rfl,h1,hm⟩ | ⟨h0,h1,hm⟩ | ⟨h0,h1,h2,hm⟩ | ⟨h0,h1,h2,h3,hm⟩ | ⟨h0,h1,h2,h3,hm⟩
 ·have hc:=Za hm
  have i1:(n:Int)<=12:=by omega
  clear hm;rw[hc.out]
  go_enter Tryz.func164,Tryz.ntmps164
  go_upto_region 1 with fail
  clear hw0
  go_wp2_with fail
  go_ret;exact⟨Zk (by simp <;> omega),HB0.out⟩
 ·have hc:=Za hm
  have i1:¬ (n:Int)<=12:=by omega
  clear hm;rw[hc.out]
  go_enter Tryz.func164,Tryz.ntmps164
  go_upto_region 1 with fail
  clear hw0
  go_wp2_with fail
  go_ret;exact⟨Zk (by simp <;> omega),HB0.out⟩
 ·have hc:=Za hm
  have t0:(r != 0)=true:=by simpa using h0
  have t1:(r==0)=false:=by simpa using h0
  have i2:¬ 8<=r:=by omega
  clear h0;clear hm;rw[hc.out]
  go_enter Tryz.func164,Tryz.ntmps164
  go_upto_region 1 with fail
  clear hw0
  go_wp2_with fail
  go_ret;exact⟨Zk (by simp <;> omega),HB0.out⟩
 ·have hc:=Za hm
  have t0:(r != 0)=true:=by simpa using h0
  have t1:(r==0)=false:=by simpa using h0
  have i2:8<=r:=by omega
  have i3:¬ r<=255:=by omega
  clear h0;clear hm;rw[hc.out]
  go_enter Tryz.func164,Tryz.ntmps164
  go_upto_region 1 with fail
  clear hw0
  go_wp2_with fail
  go_ret;exact⟨Zk (by simp <;> omega),HB0.out⟩
 ·have hc:=Za hm
  have t0:(r != 0)=true:=by simpa using h0
  have t1:(r==0)=false:=by simpa using h0
  have i2:8<=r:=by omega
  have i3:r<=255:=by omega
  have i4:(n:Int)<=12:=by omega
  clear h0;clear hm;rw[hc.out]
  go_enter Tryz.func164,Tryz.ntmps164
  go_upto_region 1 with fail
  clear hw0
  go_wp2_with fail
  go_ret;exact⟨Zk (by simp <;> omega),HB0.out⟩
 ·have hc:=Za hm
  have t0:(r != 0)=true:=by simpa using h0
  have t1:(r==0)=false:=by simpa using h0
  have i2:8<=r:=by omega
  have i3:r<=255:=by omega
  have i4:¬ (n:Int)<=12:=by omega
  clear h0;clear hm;rw[hc.out]
  go_enter Tryz.func164,Tryz.ntmps164
  go_upto_region 1 with fail
  clear hw0
  go_wp2_with fail
  go_ret;exact⟨Zk (by simp <;> omega),HB0.out⟩}
theorem Z0i {W:Qac}{g:Nat}{a b c d e u:Qad}{t:Qaf}(h:W.heap[g]? = some (.cells #[a,b,c,d,e] t (0,0))):∃ W1,W.setCell ⟨g,4,none⟩ u=W1/\W1.heap[g]? = some (.cells #[a,b,c,d,u] t (0,0))/\W.grownBy W1 (some g)/\W1.heap.size=W.heap.size :=
 ⟨_,rfl,by simp[Qn,Qo,h],Z7 (p:=⟨g,4,none⟩) (Yh W (some g)) rfl u,by simp⟩
theorem Zxp (v:Qad) (s:It) (w:Qac) (hbig:s.2.2.length<=1000000000) (h:Itm (Old w) w v s) :
  Qaj Tryz.prog 173 #[v] w fun e w'=>∃ u,e=.returned u/\Itm (New w.heap.size w') w' u s/\Qak w.heap.size w w':=by{
 obtain⟨A,c,rfl,hin,_,_,rv⟩:=h.open;obtain⟨⟨a1,a2,a3⟩,a4,a5⟩:=s;unfold itV
 dsimp only at *
 obtain⟨w1,hw1,f1,f2,f3,f4,f5,hs1,hB1,b1⟩:=Z6 w (.int .u8 (a1.toNat:Int)) (.int .u32 a2) (.int .u32 a3) (.int .i64 a4) (.slice A a5.length c) 54;obtain⟨w2,hw2,_,_,_,_,_,hs2,hB2,b2⟩:=Z6 w1 (.int .u8 0) (.int .u32 0) (.int .u32 0) (.int .i64 0) (.slice none 0 0) 54;have hB:=hB1.trans (hB2.mono hB1.size);have lt1:w.heap.size<w1.heap.size:=by omega
 have lt2:w1.heap.size<w2.heap.size:=by omega
 have b1':=Za ((hB2.block w.heap.size lt1).trans b1);have k5:=(hB2.cell (p:=⟨w.heap.size,4,none⟩) lt1).trans f5;have xv:=Za (Zf.old rv hB);clear f1 f2 f3 f4 f5 h rv hB1 hB2 b1;replace hB:=Za hB;replace hs1:=Za hs1;replace hs2:=Za hs2;replace b2:=Za b2;replace hw2:=Za hw2;replace hbig:=Za hbig
 go_enter Tryz.func173,Tryz.ntmps173
 go_upto_region 1 with fail
 rw[hw2.out];clear hw1 hw2
 go_wp2_with fail
 with_reducible refine(Ui _ a5 _ (by have:=hbig.out;omega) xv.out).mono ?_
 rintro e w3 ⟨u,rfl,hu,hb3⟩;have lt3:w2.heap.size<=w3.heap.size:=hb3.size;have c1:=(hb3.block w.heap.size (by omega)).trans b1'.out;have c2:=(hb3.block w1.heap.size (by omega)).trans b2.out;obtain⟨k0,k1,k2,k3,_,kf,_⟩:=Zl c1;obtain⟨w4,hw4,d1,gr4,gs4⟩:=Z0i (u:=u) c1;obtain⟨l0,l1,l2,l3,l4,_,_⟩:=Zl d1;have d2:=(gr4.block w1.heap.size (by omega) (by simp;omega)).trans c2;obtain⟨W9,hW9,g9,gr9,gs9⟩:=Y5 (u0:=.int .u8 (a1.toNat:Int)) (u1:=.int .u32 a2) (u2:=.int .u32 a3) (u3:=.int .i64 a4) (u4:=u) d2;obtain⟨m0,m1,m2,m3,m4,_,_⟩:=Zl g9;obtain⟨n0,n1,n2,n3,n4,nf,_⟩:=Zl d2;have B3:=hB.out.trans (hb3.mono hB.out.size);have B4:=B3.grown gr4 B3.size (fun q e=>by cases e;omega);have B9:=Za (B4.grown gr9 B4.size (fun q e=>by cases e;omega))
 have hfin:Hid (Itm (New w.heap.size W9) W9 (.agg #[.int .u8 (a1.toNat:Int),.int .u32 a2,.int .u32 a3,.int .i64 a4,u]) ((a1,a2,a3),a4,a5)):=Za ⟨u,rfl,hin,by
  have h1:=Zf.grown hu gr4 (fun q e=>by cases e;omega);have h2:=Zf.grown h1 gr9 (fun q e=>by cases e;omega)
  exact Zf.mono h2 (by omega)⟩
 obtain⟨_,_,rfl,_⟩:=id (Zm hu);clear c1 c2 d1 d2 g9 gr4 gr9 hu B3 B4 hb3 lt3;replace hs1:=Za lt1;replace hs2:=Za lt2;clear lt1 lt2
 go_wp2_with fail
 exact Qag (v:=.agg #[.int .u8 (a1.toNat:Int),.int .u32 a2,.int .u32 a3,.int .i64 a4,.slice _ _ _]) (by simp[results,Tryz.results173,go_sem,m0,m1,m2,m3,m4]) rfl ⟨_,rfl,hfin.out,B9.out⟩}
theorem Zw5 (a b:Ky):Zq a b=(if (a.1.toNat:Int)≠b.1.toNat then decide ((a.1.toNat:Int)<b.1.toNat) else if a.2.1≠b.2.1 then decide (a.2.1<b.2.1) else decide (a.2.2<b.2.2)):=by{
 unfold Zq;by_cases h:a.1.toNat=b.1.toNat
 ·rw[if_neg (show ¬ a.1.toNat≠b.1.toNat by omega),if_neg (show ¬ (a.1.toNat:Int)≠b.1.toNat by omega)]
 ·rw[if_pos h,if_pos (show (a.1.toNat:Int)≠b.1.toNat by omega)]
  rw[Bool.eq_iff_iff];simp}
theorem Uo (a b:Ky) (w:Qac) :
  Qaj Tryz.prog 60 #[kyV a,kyV b] w fun e w'=>e=.returned (.bool (Zq a b))/\Qak w.heap.size w w':=by{
 have hfin:=Za (Zw5 a b);obtain⟨ak,ai,ao⟩:=a;obtain⟨bk,bi,bo⟩:=b;unfold kyV
 dsimp only at hfin ⊢
 generalize Zq (ak,ai,ao) (bk,bi,bo)=res at hfin ⊢;obtain⟨p,hp⟩:∃ p:Int,(ak.toNat:Int)=p:=⟨_,rfl⟩
 obtain⟨q,hq⟩:∃ q:Int,(bk.toNat:Int)=q:=⟨_,rfl⟩
 rw[hp,hq] at hfin ⊢;clear hp hq;obtain⟨w1,hw1,f1,f2,f3,hs1,hB1,_⟩:=Xf w (.int .u8 p) (.int .u32 ai) (.int .u32 ao) 37;obtain⟨w2,hw2,g1,g2,g3,hs2,hB2,_⟩:=Xf w1 (.int .u8 q) (.int .u32 bi) (.int .u32 bo) 37;have hB:=Za (hB1.trans (hB2.mono hB1.size));have k1:=(hB2.cell (p:=⟨w.heap.size,0,none⟩) (show w.heap.size<_ by omega)).trans f1;have k2:=(hB2.cell (p:=⟨w.heap.size,1,none⟩) (show w.heap.size<_ by omega)).trans f2;have k3:=(hB2.cell (p:=⟨w.heap.size,2,none⟩) (show w.heap.size<_ by omega)).trans f3;clear f1 f2 f3 hB1 hB2;replace hs1:=Za hs1;replace hs2:=Za hs2;by_cases e1:p=q
 case neg =>
  have t1:(p != q)=true:=by simpa using e1
  have hr:=Za (show res=decide (p<q) by rw[hfin.out,if_pos e1]);clear e1
  go_enter Tryz.func60,Tryz.ntmps60
  go_upto_region 1 with fail
  clear hw1 hw2
  go_wp2_with fail
  go_ret;exact⟨Zk (by rw[hr.out]),hB.out⟩
 subst e1;by_cases e2:ai=bi
 case neg =>
  have t2:(ai != bi)=true:=by simpa using e2
  have hr:=Za (show res=decide (ai<bi) by rw[hfin.out,if_neg (fun h=>h rfl),if_pos e2]);clear e2
  go_enter Tryz.func60,Tryz.ntmps60
  go_upto_region 1 with fail
  clear hw1 hw2
  go_wp2_with fail
  go_ret;exact⟨Zk (by rw[hr.out]),hB.out⟩
 subst e2;have hr:=Za (show res=decide (ao<bo) by rw[hfin.out,if_neg (fun h=>h rfl),if_neg (fun h=>h rfl)])
 go_enter Tryz.func60,Tryz.ntmps60
 go_upto_region 1 with fail
 clear hw1 hw2
 go_wp2_with fail
 go_ret;exact⟨Zk (by rw[hr.out]),hB.out⟩}
theorem Zya (w:Qac) (x:UInt8) (n:Int) (h:(x.toNat:Int)=n):∃ w1,w.alloc (.cells #[.int .u8 n] 5)=w1/\w1.ownsRow w.heap.size 5 1 (.slice (some ⟨w.heap.size,0,none⟩) 1 1) 1 (u8s [x])/\Qak w.heap.size w w1/\w1.heap.size=w.heap.size+1:=by
 subst h;refine⟨_,rfl,?_,(Qa _ _).alloc (Qb _) _,by simp⟩;have h1:Row (w.alloc (.cells #[.int .u8 (x.toNat:Int)] 5)) w.heap.size [x]:=Row.new w [x];exact h1.own (Qb _) (by simp)
theorem Zpq (v:Qad) (s:It) (w:Qac) (h:Itm (Old w) w v s) (hm:Zb0 s=true) :
  Qaj Tryz.prog 165 #[v] w fun e w'=>∃ u,e=.returned u/\rBy (New w.heap.size w') w' [u] (itB s)/\Qak w.heap.size w w':=by{
 have hmay:=Zax hm;obtain⟨A,c,rfl,hin,l1,m1,rv⟩:=h.open;obtain⟨⟨⟨g0,g1⟩,⟨n0,n1⟩⟩,_⟩:=hin;obtain⟨w0,hw0,f1,f2,f3,f4,f5,hs0,hB0,_⟩:=Z6 w (.int .u8 (s.1.1.toNat:Int)) (.int .u32 s.1.2.1) (.int .u32 s.1.2.2) (.int .i64 s.2.1) (.slice A s.2.2.length c) 54
 have RV:Hid (Byt w0 w0.heap.size A s.2.2):=Za (by
  obtain⟨_,_,e,_,_,hy⟩:=Yq (B:=w.heap.size) (fun p hp=>hp) rv;cases e
  exact(hy.below hB0).more hB0.size)
 clear rv;obtain⟨n,hn⟩:∃ n,s.2.2.length=n:=⟨_,rfl⟩
 have hfin:=Za (show itB s=[s.1.1]++le 4 s.1.2.1++le 4 s.1.2.2++le 2 s.2.1++[UInt8.ofNat n]++s.2.2 by rw[<- hn];simp[itB]);unfold itV;rw[hn] at l1 f5 hw0 hmay ⊢;have h12:n<=12:=hmay.2;have hr0:0<=s.2.1/\s.2.1<65536:=by have:=hmay.1;omega
 have hu8:((UInt8.ofNat n).toNat:Int)=(n:Int):=by
  rw[UInt8.toNat_ofNat'];omega
 have HU:=Za hu8;obtain⟨p,hp⟩:∃ p:Int,(s.1.1.toNat:Int)=p:=⟨_,rfl⟩
 have HP:=Za hp;rw[hp] at f1 hw0 ⊢;have lt0:w.heap.size<w0.heap.size:=by omega
 have HB0:=Za hB0;replace hn:=Za hn;clear hp hmay hB0 hs0 h hu8 hm
 go_enter Tryz.func165,Tryz.ntmps165
 go_upto_region 1 with fail
 clear hw0;obtain⟨w1,hw1,o1,B1,hs1⟩:=Zya w0 s.1.1 p HP.out;have k2:=(B1.cell (p:=⟨w.heap.size,1,none⟩) lt0).trans f2;have k3:=(B1.cell (p:=⟨w.heap.size,2,none⟩) lt0).trans f3;have k4:=(B1.cell (p:=⟨w.heap.size,3,none⟩) lt0).trans f4;have k5:=(B1.cell (p:=⟨w.heap.size,4,none⟩) lt0).trans f5;replace B1:=Za B1;replace o1:=Za o1;replace hs1:=Za hs1
 go_upto_region 2 with fail
 clear hw1 f1 f2 f3 f4 f5
 go_wp2_with fail
 with_reducible refine(Zsi s.1.2.1 g0 g1 _).mono ?_
 rintro e4 w4 ⟨A4,c4,rfl,y4,hb4⟩;obtain⟨v5,w5,hr5,o5,ba5⟩:=X4 _ 1 4 c4 _ _ A4 w0.heap.size w4 (Zr o1.out hb4) y4 (Yd _ _) (by omega) (Qd B1.out.size hb4.size);have B5:=Za ((B1.out.trans (hb4.mono B1.out.size)).trans ba5);have q3:=(ba5.cell (p:=⟨w.heap.size,2,none⟩) lt0).trans ((hb4.cell (p:=⟨w.heap.size,2,none⟩) (Qf lt0 B1.out.size)).trans k3);have q4:=(ba5.cell (p:=⟨w.heap.size,3,none⟩) lt0).trans ((hb4.cell (p:=⟨w.heap.size,3,none⟩) (Qf lt0 B1.out.size)).trans k4);have q5:=(ba5.cell (p:=⟨w.heap.size,4,none⟩) lt0).trans ((hb4.cell (p:=⟨w.heap.size,4,none⟩) (Qf lt0 B1.out.size)).trans k5);have H5:=Za hr5;replace o5:=Za o5;clear k2 k3 k4 k5 hb4 y4 ba5 o1 B1 hr5
 go_wp2_with (at_builtin;refine Zi rfl _ _ _ rfl rfl rfl H5.out ?_;clear H5)
 with_reducible refine(Zsi s.1.2.2 n0 n1 _).mono ?_
 rintro e4 w6 ⟨A6,c6,rfl,y6,hb6⟩;obtain⟨v7,w7,hr7,o7,ba7⟩:=X4 v5 5 4 c6 _ _ A6 w0.heap.size w6 (Zr o5.out hb6) y6 (Yd _ _) (by omega) (Qd B5.out.size hb6.size);have B7:=Za ((B5.out.trans (hb6.mono B5.out.size)).trans ba7);have k4:=(ba7.cell (p:=⟨w.heap.size,3,none⟩) lt0).trans ((hb6.cell (p:=⟨w.heap.size,3,none⟩) (Qf lt0 B5.out.size)).trans q4);have k5:=(ba7.cell (p:=⟨w.heap.size,4,none⟩) lt0).trans ((hb6.cell (p:=⟨w.heap.size,4,none⟩) (Qf lt0 B5.out.size)).trans q5);have H7:=Za hr7;replace o7:=Za o7;clear q3 q4 q5 hb6 y6 ba7 o5 B5 hr7
 go_wp2_with (at_builtin;refine Zi rfl _ _ _ rfl rfl rfl H7.out ?_;clear H7)
 refine(Zne s.2.1 2 (by omega) (by omega) (by omega) _).mono ?_;rintro e2 w8 ⟨A8,c8,rfl,y8,hb8⟩;obtain⟨v9,w9,hr9,o9,ba9⟩:=X4 v7 9 2 c8 _ _ A8 w0.heap.size w8 (Zr o7.out hb8) y8 (Yd _ _) (by omega) (Qd B7.out.size hb8.size);have B9:=Za ((B7.out.trans (hb8.mono B7.out.size)).trans ba9);have q5:=(ba9.cell (p:=⟨w.heap.size,4,none⟩) lt0).trans ((hb8.cell (p:=⟨w.heap.size,4,none⟩) (Qf lt0 B7.out.size)).trans k5);have H9:=Za hr9;obtain⟨wa,hwa,oa,Ba,hsa⟩:=Zya w9 (UInt8.ofNat n) n HU.out;obtain⟨_,_,e,_,_,ya⟩:=Zfe oa;cases e;obtain⟨vb,wb,hrb,ob,bab⟩:=X4 v9 11 1 1 _ _ _ w0.heap.size wa (Zr o9 Ba) ya rfl (by omega) (Qd B9.out.size Ba.size);have Bb:=Za ((B9.out.trans (Ba.mono B9.out.size)).trans bab);have z5:=(Bb.out.cell (p:=⟨w.heap.size,4,none⟩) lt0)
 have q5b:=(bab.cell (p:=⟨w.heap.size,4,none⟩) lt0).trans ((Ba.cell (p:=⟨w.heap.size,4,none⟩) (Qf lt0 B9.out.size)).trans q5);have yv:=(RV.out.below Bb.out).more Bb.out.size;obtain⟨vc,wc,hrc,oc,bac⟩:=X4 vb 12 n c _ _ A w0.heap.size wb ob yv hn.out (by omega) Bb.out.size;have BF:=Za (HB0.out.trans ((Bb.out.trans bac).mono HB0.out.size))
 have hown:Hid (rBy (New w.heap.size wc) wc [vc] (itB s)):=Za (by
  rw[hfin.out]
  exact Zf.mono (Zal oc) (Nat.le_of_lt lt0))
 have HB:=Za hrb;have HC:=Za hrc;clear k4 k5 hb8 y8 ba9 o7 B7 hr9 o9 oa Ba ya hrb ob bab z5 yv hrc oc bac;replace hsa:=Za hsa
 go_wp2_with (first
  | (at_builtin;refine Zi rfl _ _ _ rfl rfl rfl H9.out ?_;clear H9)
  | (at_builtin;refine Zi rfl _ _ _ rfl rfl rfl HB.out ?_;clear HB)
  | (at_builtin;refine Zi rfl _ _ _ rfl rfl rfl HC.out ?_;clear HC))
 go_ret;exact⟨_,rfl,hown.out,BF.out⟩}
end Go.Proofs.YtgmbjnajdfgenaaGreat
