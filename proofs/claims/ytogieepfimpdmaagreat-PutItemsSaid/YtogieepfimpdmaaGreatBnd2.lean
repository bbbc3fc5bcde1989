/-
  Lemmas on the program and on the document's answers, gathered: PuLate, Gather, Seen, DevRead, DevWrite, Alive03, Gen03, RefWith, RefRead, Push, RefTwin, All03, Get, SumSeal, RefBlk, Concat, Total02, RingWrite, RingRead, Bag04, Item, ItLess, ItCheck, ItSame, ItWrite, ItRead, Alive05, Bag05, Node, NdCut, NdCut2, NdTwin, NdCheck, NdWrite, NdRead, NdPlace, NdBack, NdTwin2, PuCopy, PuIns. Conditions: those that each lemma states.
-/
import Derived.Test.YtogieepfimpdmaaGreatBnd1
import Derived.RangeFuncCalls
import Derived.OrdersIn
import Derived.AtR
import Derived.RangeFuncNested
import Derived.RangeFuncBox
import Derived.RangeFuncBound
import Derived.RangeFuncLeaves
import Derived.Shelf.Abstract
import Derived.Shelf.RegionOpen
import Derived.OwnWalkIn
import Derived.TacticsInMore
import Derived.LoopNIn
import Derived.LoopIn
import Derived.Deep.RegionHeld3
import Derived.Deep.AppendLies
import Derived.Maps.AppendAt
import Derived.StillTailTactics
import Derived.Lib.Hide
import Derived.Lib.AppendZerosOnto
import Derived.Deep.QuietTactic
import Derived.BigQuiet
import Derived.WalkLawsBesides
import Derived.Deep.CutBlock
import Derived.Deep.CutRange
import Derived.Laws.StructEq
import Derived.Laws.CopyOwn
import Derived.Deep.RegionLaw
import Derived.Lib.Overlaps
/-
 A region that draws its order,within a round of a range over a function;whatever relation its operations keep,stores at its tail. No program,no condition of its own.
-/
namespace Go.Proofs.YtogieepfimpdmaaGreat
open Go.RowKit
theorem rowsIn_wide {n:Nat} {P:Program} {row:String} {args:Array Value} {w:World} {R:Value→World→Prop} (h:Rows P row args w R):RowsIn Fence.wide n P row args w R :=
 fun c cs _=>let ⟨v,w',r,s⟩:=h c cs;⟨v,w',r,stepsIn_wide.2 s⟩
def noDefer (ops:Array Oper):Bool:=ops.all fun o=>match o.op with | .defer _=>false | _=>true
section
variable {P : Program} {Q : Exit → Act → World → Prop}
theorem wpIn_of_wp {l n:Nat} {o:Oper} (hd:∀ c,o.op≠.defer c) {a:Act} {w:World} {K:Act→World→Prop} (h:o.wp P a w K Q):o.wpIn (Fence.wide.inRound l) n P a w K Q:=by
 refine⟨fun _ _=>trivial,?_⟩
 unfold Oper.wp at h
 rw[Oper.semAt_eq _ _ _ hd]
 generalize (execOp a.eval o).run P w=r at *
 unfold Oper.upon at h
 unfold Oper.uponIn
 split at h <;> first
  | exact h
  | exact⟨fun e=>(by cases e),CallsIn.inRound l (callsIn_wide.2 h)⟩
  | exact⟨fun e=>(by cases e),rowsIn_wide h⟩
  | exact h.elim
theorem anyIn_of {md:Region.Mode} {ops:Array Oper} {l n:Nat} (hd:∀ (i:Nat) (o:Oper),ops[i]? = some o→∀ c,o.op≠.defer c) (hQ:¬ LetsOut Q):∀ (fuel:Nat) (listed:Array Bool) (a:Act) (w:World),wpAny P md ops Q fuel listed a w→wpAnyIn (Fence.wide.inRound l) n P md ops Q fuel listed a w
 | 0,_,_,_,h=>h
 | fuel+1,listed,a,w,h=>by
  refine⟨h.1,fun i hi => ?_⟩
  have h2:=h.2 i hi
  unfold wpOp at h2
  unfold wpOpIn
  cases ho:ops[i]? with
  | none =>
   rw[ho] at h2
   exact anyIn_of hd hQ fuel _ _ _ h2
  | some o =>
   rw[ho] at h2
   simp only at h2 ⊢
   split at h2
   ·rename_i hw
    rw[if_pos hw]
    rcases h2 with h2 | ⟨_,h2⟩
    ·exact Oper.wpIn_mono (fun a w hk=>anyIn_of hd hQ fuel _ a w hk) (wpIn_of_wp (hd i o ho) h2)
    ·exact absurd h2 hQ
   ·rename_i hw
    rw[if_neg hw]
    exact⟨fun _ _=>trivial,anyIn_of hd hQ fuel _ _ _ h2⟩
theorem wpAny_tailsB {Kr:Rk.KrT} {ops:Array Oper} {a:Act} {w:World} (m:Nat) (C:World→Prop) (phi:Nat→Option (Value→World→Prop)) (fx:Nat→Option Value) (hms:m≤ops.size) (hok:Rk.okAs (ops.toList.take m).toArray a.tmps.size=true) (hlast:okTails ops m=true)
  (h1:Kr.C0 w.drew) (hon:((List.range m).all fun i=>i==Kr.k || !((phi i).isSome||(fx i).isSome)||Rk.leansOn (ops.toList.take m).toArray Kr.k m i)=true) (hC:C w.drew) (hCb:∀ w w',C w→Kr.rel w w'→C w') (hst:∀ (j:Nat) (φ:Value→World→Prop) (x:Value) (w w':World),phi j=some φ→φ x w→Kr.rel w w'→φ x w')
  (h:Rk.wpAs Kr P (ops.toList.take m).toArray C phi fx (fun a w=>wpList P ops Q (ops.toList.drop m) a w) 0 (ops.toList.take m) a []):wpAny P .any ops Q ops.size (Array.replicate ops.size false) a w.drew:=by
 have e:(ops.toList.take m++ops.toList.drop m).toArray=ops:=by rw[List.take_append_drop]
 have hl1:(ops.toList.take m).length=m:=by simp;omega
 have hl2:(ops.toList.take m).length+(ops.toList.drop m).length=ops.size:=by simp;omega
 unfold okTails at hlast
 rw[Bool.and_eq_true,List.all_eq_true,List.all_eq_true] at hlast
 have key:=wpAny_tail (P:=P) (Q:=Q) ops (ops.toList.drop m) (ops.toList.take m) (fun j h0 hj=>by
  have hj':j≤ops.size-m:=by simpa using hj
  have:=hlast.1 (j-1) (List.mem_range.2 (by omega))
  rw[show m+(j-1+1)=m+j by omega,List.take_add] at this
  exact okLast_of this) (fun o ho=>by simpa using hlast.2 o ho) a w.drew
 rw[hl2,e] at key
 refine key ?_
 rw[hl1]
 have hg:∀ i,(Array.replicate m false).getD i false=false:=fun i=>by
  by_cases hi:i<m
  ·simp[Array.getD]
  ·simp[Array.getD]
 have hsz:(ops.toList.take m).toArray.size=m:=by simpa using hl1
 have h':Rk.wpAs Kr P (ops.toList.take m).toArray C phi fx (fun a w=>wpList P ops Q (ops.toList.drop m) a w) 0 (ops.toList.take m).toArray.toList a []:=h
 have hlean:∀ i,i<(ops.toList.take m).toArray.size→i≠Kr.k→((phi i).isSome=true∨(fx i).isSome=true)→Rk.leansOn (ops.toList.take m).toArray Kr.k (ops.toList.take m).toArray.size i=true:=fun i hi hne ha=>by
  rw[hsz] at hi ⊢
  have:=List.all_eq_true.1 hon i (List.mem_range.2 hi)
  rw[Bool.or_eq_true,Bool.or_eq_true] at this
  rcases this with (h | h) | h
  ·exact absurd (by simpa using h) hne
  ·exfalso
   rcases ha with ha | ha <;> simp[ha] at h
  ·exact h
 refine Rk.wpAny_of_as (Q:=fun a w=>wpList P ops Q (ops.toList.drop m) a w) (a0:=a) (Rk.ok_of hok) hlean h' hCb hst (fun a w hq=>hq) _ _ (fun _=>undef) a w.drew ?_ ⟨by rw[hsz];simp,rfl,rfl,?_,?_,fun _ _=>rfl,hC,fun _=>h1,?_,?_⟩
 ·unfold Rk.left
  exact Nat.le_trans (List.length_filter_le _ _) (by simp;omega)
 ·intro i o _ hl
  rw[hg i] at hl
  cases hl
 ·intro i o d _ hl
  rw[hg i] at hl
  cases hl
 ·intro c _ i hl
  rw[hg i] at hl
  cases hl
 ·intro c _ i o φ _ hl
  rw[hg i] at hl
  cases hl
theorem wpIn_region_lateB (Kr:Rk.KrT) {l n:Nat} {id:Nat} {ops ops':Array Oper} {a:Act} {w:World} (hm:P.follows .mixedOrders=true) (x:List (Nat×Nat)) (he:withEdges ops x=ops') (hx:okLate ops x=true) (hd:noDefer ops=true) (hQ:∀ d v c a w,Q (.panic c) (Act.put a d v) w→Q (.panic c) a w) (hQ2:¬ LetsOut Q)
  (m:Nat) (C:World→Prop) (phi:Nat→Option (Value→World→Prop)) (fx:Nat→Option Value) (hms:m≤ops'.size) (hok:Rk.okAs (ops'.toList.take m).toArray a.tmps.size=true) (hlast:okTails ops' m=true)
  (h1:Kr.C0 w.drew) (hon:((List.range m).all fun i=>i==Kr.k || !((phi i).isSome||(fx i).isSome)||Rk.leansOn (ops'.toList.take m).toArray Kr.k m i)=true) (hC:C w.drew) (hCb:∀ w w',C w→Kr.rel w w'→C w') (hst:∀ (j:Nat) (φ:Value→World→Prop) (x:Value) (w w':World),phi j=some φ→φ x w→Kr.rel w w'→φ x w')
  (h:Rk.wpAs Kr P (ops'.toList.take m).toArray C phi fx (fun a w=>wpList P ops' Q (ops'.toList.drop m) a w) 0 (ops'.toList.take m) a []):(Code.region id ops true).wpIn (Fence.wide.inRound l) n P Q a w:=by
 refine wpIn_region_any hm (anyIn_of (fun i o ho c hc => ?_) hQ2 _ _ _ _ ?_)
 ·unfold noDefer at hd
  rw[Array.all_eq_true'] at hd
  have:=hd o (Array.mem_of_getElem? ho)
  rw[hc] at this
  cases this
 refine wpAny_with (late_of hx) hQ _ _ _ _ (by simp) ?_
 have e2:ops'.size=ops.size:=by rw[← he];exact withEdges_size _ _
 have key:=wpAny_tailsB m C phi fx hms hok hlast h1 hon hC hCb hst h
 rw[e2] at key
 rw[he]
 exact key
end
end Go.Proofs.YtogieepfimpdmaaGreat
/-
 Package code: slices.Backward over bytes,and gather,which ranges over it. Conditions: those that each lemma states.
-/
namespace Go.Proofs.YtogieepfimpdmaaGreat
open Go.RowKit Go.Shelf
attribute [local go_sem] Oper.semAt_some
def Keeps (n₀ Bs:Nat) (A B:World):Prop:=Below n₀ A B∧B.cell? ⟨Bs,0,none⟩=A.cell? ⟨Bs,0,none⟩
theorem Keeps.trans {n₀ Bs:Nat} {A B C:World} (h:Keeps n₀ Bs A B) (h':Keeps n₀ Bs B C):Keeps n₀ Bs A C:=⟨h.1.trans h'.1,h'.2.trans h.2⟩
set_option maxRecDepth 100000 in
set_option maxHeartbeats 2000000 in
theorem back_in (F:Fence) (n:Nat) (hf:F.fn 129) (hro:F.round=none) (hn:1≤n) (l Bs n₀ cap:Nat) (ad:Addr) (xs:List UInt8) (hm:xs.length≤9223372036854775807) (hb:ad.block<n₀) (J Jx:List (Nat×UInt8)→World→Prop)
  (hY:∀ pre x W,J pre W→pre.length<xs.length→YieldAt F (n-1) Tryz.prog l #[.int .i64 (x.1:Int),.int .u8 (x.2.toNat:Int)] W fun e W' =>
   (e=.returned (.bool true)∧J (pre++[x]) W'∧Keeps n₀ Bs W W')∨(e=.returned (.bool false)∧Jx (pre++[x]) W'))
  (W:World) (hBs:W.cell? ⟨Bs,0,none⟩=some (.slice (some ad) xs.length cap)) (hc:∀ j,j<xs.length→W.cell? (ad.add j)=some (.int .u8 ((xs[j]?.getD 0).toNat:Int))) (h0:J [] W) :
  CallsIn F n Tryz.prog 129 #[.func (.yield l) #[] #[],.pointer (some ⟨Bs,0,none⟩)] W fun e W'=>(∃ v,e=.returned v) ∧
   ((∃ ys,ys=back xs xs.length∧J ys W')∨(∃ pre,(∃ k,k≤xs.length∧pre=back xs k)∧Jx pre W')):=by
 refine callsIn_of_wp Tryz.func129 rfl hf ?_ hro
 simp only[Tryz.ntmps129,List.size_toArray,List.length_cons,List.length_nil,Nat.reduceAdd,Nat.reduceSub,Array.replicate_succ,Array.replicate_zero,List.push_toArray,List.append_toArray,List.nil_append,List.cons_append]
 gi_wp2
 gi_loopw [3] (fun i wr=>∃ k:Nat,k≤xs.length∧i=.int .i64 ((xs.length:Int)-1-k)∧J (back xs k) wr∧Below n₀ W wr∧wr.cell? ⟨Bs,0,none⟩=some (.slice (some ad) xs.length cap))
  (fun i _=>(intOf i+1).toNat)
 case atStart=>exact⟨0,Nat.zero_le _,by simp,h0,Below.refl _ _,hBs⟩
 case round =>
  obtain⟨k,hk,rfl,hJs,hnx,hbs⟩:=hrel
  by_cases hlt:k<xs.length
  ·have hcx:wr.cell? (ad.add (xs.length-1-k))=some (.int .u8 ((xs[xs.length-1-k]?.getD 0).toNat:Int)):=(hnx.cell (p:=ad.add (xs.length-1-k)) (by rw[add_block];exact hb)).trans (hc _ (by omega))
   obtain⟨fn,tmps,assign,body,hy,hR⟩:=hY _ (xs.length-1-k,xs[xs.length-1-k]?.getD 0) wr hJs (by rw[back_length];exact hlt)
   dsimp only at hy
   have e1:((xs.length:Int)-1-k).toNat=xs.length-1-k:=by omega
   have e2:((xs.length-1-k:Nat):Int)=(xs.length:Int)-1-k:=by omega
   rw[e2] at hy
   gi_wp2
   refine hR.mono ?_
   rintro e W3 (⟨rfl,hJ3,hk3⟩ | ⟨rfl,hJx3⟩)
   ·gi_wp2
    go_roundw
    case rel=>exact⟨k+1,by omega,by go_num,by rw[back_succ];exact hJ3,hnx.trans hk3.1,hk3.2.trans hbs⟩
    case measure=>simp[intOf];omega
   ·gi_wp2
    refine bodyPost_ret (results_none rfl _ _ _) rfl ?_
    exact⟨⟨_,rfl⟩,.inr ⟨_,⟨k+1,by omega,(back_succ _ _).symm⟩,hJx3⟩⟩
  ·obtain rfl:k=xs.length:=by omega
   gi_wp2
   go_end0
   exact⟨⟨_,rfl⟩,.inl ⟨_,rfl,hJs⟩⟩
set_option maxHeartbeats 1000000 in
theorem backward_in (F:Fence) (n:Nat) (hf:F.fn 117) (hro:F.round=none) (a:Option Addr) (len cap:Nat) (w:World) :
  CallsIn F n Tryz.prog 117 #[.slice a len cap] w fun e w'=>e=.returned (.func (.func 129) #[] #[.pointer (some ⟨w.heap.size,0,none⟩)])∧w'=w.alloc (.cells #[.slice a len cap] 27):=by
 refine callsIn_of_wp Tryz.func117 rfl hf ?_ hro
 simp only[Tryz.ntmps117,List.size_toArray,List.length_cons,List.length_nil,Nat.reduceAdd,Nat.reduceSub,Array.replicate_succ,Array.replicate_zero,List.push_toArray,List.append_toArray,List.nil_append,List.cons_append]
 gi_wp2
 go_ret
 exact⟨rfl,rfl⟩
theorem backward_stops (F:Fence) (n:Nat) (hf:F.fn 129) (hro:F.round=none) (hn:1≤n) (Bs n₀ cap:Nat) (ad:Addr) (xs:List UInt8) (hm:xs.length≤9223372036854775807) (w:World) (hBs:Bs<w.heap.size) (hn₀:n₀≤w.heap.size)
  (hc:w.cell? ⟨Bs,0,none⟩=some (.slice (some ad) xs.length cap)) (hb:ad.block<n₀) (hx:∀ j,j<xs.length→w.cell? (ad.add j)=some (.int .u8 ((xs[j]?.getD 0).toNat:Int))) :
  SeqStopsK F n Tryz.prog 129 #[.pointer (some ⟨Bs,0,none⟩)] (fun x:Nat×UInt8=>#[Value.int .i64 (x.1:Int),Value.int .u8 (x.2.toNat:Int)]) (Keeps n₀ Bs) (fun ys=>ys=back xs xs.length)
   (fun pre=>∃ k,k≤xs.length∧pre=back xs k) xs.length w:=fun l J Jx W hW _ _ hY h0=>by
 have hc':=(hW.cell (p:=⟨Bs,0,none⟩) hBs).trans hc
 exact back_in F n hf hro hn l Bs n₀ cap ad xs hm hb J Jx hY W hc' (fun j hj=>(hW.cell (p:=ad.add j) (by rw[add_block];omega)).trans (hx j hj)) h0
theorem keeps_b {W w:World} {Bs n₀:Nat} (hBs:Bs<w.heap.size) (hn₀:n₀≤w.heap.size) (l:Nat) (o o':Obj) (hl:w.heap.size≤l) (h1:W.heap[l]? = some o) (h2:o.isCells=false) (h3:o.isWalk=false):Keeps n₀ Bs W (W.putObj l o') :=
 ⟨belowK_b hn₀ W l o o' hl h1 h2 h3,World.cell?_of_block (World.putObj_heap_other (k:=Bs) (by omega))⟩
set_option maxRecDepth 100000 in
set_option maxHeartbeats 2000000 in
theorem gather_in (F:Fence) (n:Nat) (h3:F.fn 100) (h5:F.fn 117) (h7:F.fn 129) (hro:F.round=none) (hn:3≤n)
  (ad:Addr) (len cap m k:Nat) (ys:List UInt8) (hk:ys.length=m) (hm0:0<m) (hm:m≤4) (hle:k+m≤len) (hlc:len≤cap) (hcap:cap≤9223372036854775807) (w:World)
  (hb:ad.block<w.heap.size) (hx:∀ j,j<ys.length→w.cell? ((ad.add k).add j)=some (.int .u8 ((ys[j]?.getD 0).toNat:Int))) :
  CallsIn F n Tryz.prog 100 #[.slice (some ad) len cap,.int .i64 k,.int .i64 m] w fun e W'=>e=.returned (.tuple #[.int .u32 (num ys),.int .i64 0])∧Below w.heap.size w W':=by
 have h1:1≤n:=by omega
 refine callsIn_of_wp_marks Tryz.func100 rfl h3 ?_ hro
 simp only[Tryz.ntmps100,List.size_toArray,List.length_cons,List.length_nil,Nat.reduceAdd,Nat.reduceSub,Array.replicate_succ,Array.replicate_zero,List.push_toArray,List.append_toArray,List.nil_append,List.cons_append]
 gi_wp2_with (gi_at_call 117;refine(backward_in F (n-1) h5 hro _ _ _ _).mono ?_;rintro e w' ⟨rfl,rfl⟩)
 obtain rfl:=hk
 have bN:=Boxed.new w 32 (.int .u32 0)
 have bS:=Boxed.new (w.alloc (.cells #[.int .u32 0] 32)) 27 (.slice (some (ad.add k)) ys.length (cap-k))
 rw[World.size_alloc] at bS
 have hB0:Below w.heap.size w ((w.alloc (.cells #[.int .u32 0] 32)).alloc (.cells #[.slice (some (ad.add k)) ys.length (cap-k)] 27)):=((Below.refl _ w).alloc (Nat.le_refl _) _).alloc (by simp) _
 refine wpIn_rangeFunc_ownG hro h1 (gf:=129) (lb:=#[.pointer (some ⟨w.heap.size+1,0,none⟩)]) rfl h7 (enters_of Tryz.func129 (by kernel_rfl) rfl)
  (backward_stops F (n-1) h7 hro (by omega) (w.heap.size+1) w.heap.size (cap-k) (ad.add k) ys (by omega) _ (by simp) (by simp;omega) bS.cell (by rw[add_block];exact hb) (fun j hj=>(hB0.cell (p:=(ad.add k).add j) (by rw[add_block,add_block];exact hb)).trans (hx j hj)))
  (fun h h'=>Keeps.trans h h') (fun W l o o' hl h1 h2 h3=>keeps_b (by simp) (by simp;omega) l o o' hl h1 h2 h3) (Below.refl _ _) (fun _=>rfl)
  (fun pre W=>(W.cell? ⟨w.heap.size,0,none⟩=some (.int .u32 (val pre))∧W.frozen? ⟨w.heap.size,0,none⟩=false)∧Below w.heap.size w W)
  (fun _ _ _=>False)
  (OwnFrom.and (Own.from (fun s A B row hs hg hr=>⟨cell_kept hs.1 hg hr,(frozen_kept hs.1 hg hr).trans hs.2⟩) _) (ownFrom_below (Nat.le_refl _) (by simp;omega)))
  (fun _ _ _ _ _ hs _ _=>hs)
  ⟨⟨(bN.alloc _).cell,(bN.alloc _).frozen⟩,hB0⟩
  (fun x=>{ tmps:=#[.slice (some ad) len cap,.int .i64 k,.int .i64 ys.length,undef,undef,undef,.int .u32 0,.int .i64 0,.pointer (some ⟨w.heap.size,0,none⟩),undef,.int .u8 (x.2.toNat:Int),.int .i64 k,.bool (decide ((k:Int)<0)),.bool (decide ((k:Int)<0)),
   .int .i64 k,.slice (some ad) len cap,.int .i64 len,.int .i64 ys.length,.int .i64 ((len:Int)-ys.length),.bool (decide ((len:Int)-ys.length<k)),.bool (decide ((k:Int)<0)||decide ((len:Int)-ys.length<k)),.slice (some ad) len cap,.int .i64 k,.int .i64 k,.int .i64 ys.length,.int .i64 ((k:Int)+ys.length),
   .slice (some (ad.add k)) ys.length (cap-k),.func (.func 129) #[] #[.pointer (some ⟨w.heap.size+1,0,none⟩)],.int .i64 (x.1:Int),.int .u8 (x.2.toNat:Int),undef,undef,undef,undef,undef,undef],defers:=[] }) ?assign ?body ?done ?stop
 case assign =>
  intro l x W K hK
  gi_wp2
  exact hK
 case body =>
  rintro l pre x W ⟨⟨hc,hf⟩,hB⟩ hlen
  obtain⟨v0,v1⟩:=val_small pre (by omega)
  have hx2:=x.2.toNat_lt
  have hor:=or_low (val pre) x.2 v0 v1
  gi_wp2
  exact⟨(KeepsOthers.setCell _ _ _).from _,⟨(Below.refl w.heap.size W).setCell (p:=⟨w.heap.size,0,none⟩) (Nat.le_refl _) _,World.cell?_setCell_other _ _ _ _ (by simp)⟩,
   ⟨by rw[val_snoc];exact World.cell?_setCell_same' _ _ _ (by rw[hc];rfl),by rw[World.frozen?_setCell];exact hf⟩,hB.setCell (p:=⟨w.heap.size,0,none⟩) (Nat.le_refl _) _⟩
 case done =>
  rintro D zs W hD rfl ⟨⟨hc,_⟩,hB⟩ hK
  rw[val_all] at hc
  gi_wp2
  refine⟨by simp,.inl ⟨_,_,rfl,run_takeDeferred hK,?_⟩⟩
  exact⟨_,results_tmp2 rfl _ _ _,rfl,hB.trans (belowK_b (w:=w) (Nat.le_refl _) W D _ _ (by simp at hD;omega) hK rfl rfl)⟩
 case stop =>
  rintro D c pre W _ _ h _
  exact h.elim
end Go.Proofs.YtogieepfimpdmaaGreat
/-
 Package dev: seen,which ranges over slices.Backward of writes. Conditions: those that each lemma states.
-/
namespace Go.Proofs.YtogieepfimpdmaaGreat
open Go.RowKit Go.Shelf
attribute [local go_sem] Oper.semAt_some
def seenW (ws:List Wt) (b:List UInt8) (n:Int):List UInt8:=ws.foldl (fun acc x=>if x.1=n then x.2 else acc) b
def seenD (d:Dk) (n:Nat):List UInt8:=seenW d.2 (d.1[n]?.getD []) n
theorem seenW_none {ws:List Wt} {b:List UInt8} {n:Int} (h:∀ x∈ws,x.1≠n):seenW ws b n=b:=by
 induction ws generalizing b with
 | nil=>rfl
 | cons x r ih =>
  show seenW r (if x.1=n then x.2 else b) n=b
  rw[if_neg (h x (List.mem_cons.2 (.inl rfl)))]
  exact ih fun y hy=>h y (List.mem_cons.2 (.inr hy))
theorem seenW_append (ws vs:List Wt) (b:List UInt8) (n:Int):seenW (ws++vs) b n=seenW vs (seenW ws b n) n:=by simp[seenW]
theorem seenW_at {ws:List Wt} {b:List UInt8} {n:Int} {i:Nat} {x:Wt} (hi:ws[i]? = some x) (hx:x.1=n) (h:∀ j y,i<j→ws[j]? = some y→y.1≠n):seenW ws b n=x.2:=by
 have hil:=(List.getElem?_eq_some_iff.1 hi).1
 have e:ws=ws.take i++(x::ws.drop (i+1)):=by
  have h1:=(List.take_append_drop i ws).symm
  rw[List.drop_eq_getElem_cons hil] at h1
  have h2:=(List.getElem?_eq_some_iff.1 hi).2
  rwa [h2] at h1
 rw[e,seenW_append]
 show seenW (ws.drop (i+1)) (if x.1=n then x.2 else seenW (ws.take i) b n) n=x.2
 rw[if_pos hx]
 refine seenW_none fun y hy => ?_
 obtain⟨j,hj⟩:=List.getElem?_of_mem hy
 rw[List.getElem?_drop] at hj
 exact h _ y (by omega) hj
theorem seenW_length {ws:List Wt} {b:List UInt8} {n:Int} {k:Nat} (hb:b.length=k) (h:∀ x∈ws,x.2.length=k):(seenW ws b n).length=k:=by
 induction ws generalizing b with
 | nil=>exact hb
 | cons x r ih =>
  refine ih (b:=if x.1=n then x.2 else b) ?_ fun y hy=>h y (List.mem_cons.2 (.inr hy))
  split
  ·exact h x (List.mem_cons.2 (.inl rfl))
  ·exact hb
def downs (m k:Nat):List Nat:=(List.range k).map fun j=>m-1-j
theorem downs_succ (m k:Nat):downs m (k+1)=downs m k++[m-1-k]:=by simp[downs,List.range_succ]
theorem downs_length (m k:Nat):(downs m k).length=k:=by simp[downs]
theorem mem_downs {m k i:Nat} (hk:k≤m):i∈downs m k↔m-k≤i∧i<m:=by
 simp only[downs,List.mem_map,List.mem_range]
 constructor
 ·rintro⟨j,hj,rfl⟩;omega
 ·intro h;exact⟨m-1-i,by omega,by omega⟩
set_option maxRecDepth 100000 in
set_option maxHeartbeats 2000000 in
theorem backW_in (F:Fence) (n:Nat) (hf:F.fn 99) (hro:F.round=none) (hn:1≤n) (l Bs n₀ cap m:Nat) (A:Option Addr) (ad:Addr) (at_:Nat→Int) (E:Nat→Option Addr) (ln ca:Nat→Nat) (hm:m≤9223372036854775807) (hA:0<m→A=some ad∧ad.block<n₀) (J Jx:List Nat→World→Prop)
  (hY:∀ (pre:List Nat) (x:Nat) (W:World),J pre W→pre.length<m→YieldAt F (n-1) Tryz.prog l #[.int .i64 (x:Int),.agg #[.int .i64 (at_ x),.slice (E x) (ln x) (ca x)]] W fun e W' =>
   (e=.returned (.bool true)∧J (pre++[x]) W'∧Keeps n₀ Bs W W')∨(e=.returned (.bool false)∧Jx (pre++[x]) W'))
  (W:World) (hBs:W.cell? ⟨Bs,0,none⟩=some (.slice A m cap)) (hc:∀ j,j<m→W.cell? (ad.add (j*2))=some (.int .i64 (at_ j))∧W.cell? ⟨(ad.add (j*2)).block,(ad.add (j*2)).off+1,none⟩=some (.slice (E j) (ln j) (ca j))) (h0:J [] W) :
  CallsIn F n Tryz.prog 99 #[.func (.yield l) #[] #[],.pointer (some ⟨Bs,0,none⟩)] W fun e W'=>(∃ v,e=.returned v) ∧
   ((∃ ys,ys=downs m m∧J ys W')∨(∃ pre,(∃ k,k≤m∧pre=downs m k)∧Jx pre W')):=by
 refine callsIn_of_wp Tryz.func99 rfl hf ?_ hro
 simp only[Tryz.ntmps99,List.size_toArray,List.length_cons,List.length_nil,Nat.reduceAdd,Nat.reduceSub,Array.replicate_succ,Array.replicate_zero,List.push_toArray,List.append_toArray,List.nil_append,List.cons_append]
 have HC:=Lib.hid hc
 clear hc
 replace hA:=Lib.hid hA
 gi_wp2
 gi_loopw [3] (fun i wr=>∃ k:Nat,k≤m∧i=.int .i64 ((m:Int)-1-k)∧J (downs m k) wr∧Below n₀ W wr∧wr.cell? ⟨Bs,0,none⟩=some (.slice A m cap))
  (fun i _=>(intOf i+1).toNat)
 case atStart=>exact⟨0,Nat.zero_le _,by simp,h0,Below.refl _ _,hBs⟩
 case round =>
  obtain⟨k,hk,rfl,hJs,hnx,hbs⟩:=hrel
  by_cases hlt:k<m
  ·obtain⟨rfl,hb⟩:=hA.out (by omega)
   have hx:=HC.out (m-1-k) (by omega)
   have hc1:wr.cell? (ad.add ((m-1-k)*2))=some (.int .i64 (at_ (m-1-k))):=(hnx.cell (p:=ad.add ((m-1-k)*2)) (by rw[add_block];exact hb)).trans hx.1
   have hc2:wr.cell? ⟨(ad.add ((m-1-k)*2)).block,(ad.add ((m-1-k)*2)).off+1,none⟩=some (.slice (E (m-1-k)) (ln (m-1-k)) (ca (m-1-k))):=(hnx.cell (p:=⟨(ad.add ((m-1-k)*2)).block,(ad.add ((m-1-k)*2)).off+1,none⟩) (by rw[add_block];exact hb)).trans hx.2
   clear hx
   obtain⟨fn,tmps,assign,body,hy,hR⟩:=hY _ (m-1-k) wr hJs (by rw[downs_length];exact hlt)
   try dsimp only at hy
   have e1:((m:Int)-1-k).toNat=m-1-k:=by omega
   have e2:((m-1-k:Nat):Int)=(m:Int)-1-k:=by omega
   rw[e2] at hy
   clear e2
   have hds:=Lib.hid (downs_succ m k)
   generalize at_ (m-1-k)=q1 at *
   generalize E (m-1-k)=q2 at *
   generalize ln (m-1-k)=q3 at *
   generalize ca (m-1-k)=q4 at *
   gi_wp2
   refine hR.mono ?_
   rintro e W3 (⟨rfl,hJ3,hk3⟩ | ⟨rfl,hJx3⟩)
   ·gi_wp2
    go_roundw
    case rel=>exact⟨k+1,by omega,by go_num,by rw[hds.out];exact hJ3,hnx.trans hk3.1,hk3.2.trans hbs⟩
    case measure=>simp[intOf];omega
   ·gi_wp2
    refine bodyPost_ret (results_none rfl _ _ _) rfl ?_
    exact⟨⟨_,rfl⟩,.inr ⟨_,⟨k+1,by omega,hds.out.symm⟩,hJx3⟩⟩
  ·obtain rfl:k=m:=by omega
   gi_wp2
   go_end0
   exact⟨⟨_,rfl⟩,.inl ⟨_,rfl,hJs⟩⟩
set_option maxHeartbeats 1000000 in
theorem backwardW_in (F:Fence) (n:Nat) (hf:F.fn 78) (hro:F.round=none) (a:Option Addr) (len cap:Nat) (w:World) :
  CallsIn F n Tryz.prog 78 #[.slice a len cap] w fun e w'=>e=.returned (.func (.func 99) #[] #[.pointer (some ⟨w.heap.size,0,none⟩)])∧w'=w.alloc (.cells #[.slice a len cap] 24):=by
 refine callsIn_of_wp Tryz.func78 rfl hf ?_ hro
 simp only[Tryz.ntmps78,List.size_toArray,List.length_cons,List.length_nil,Nat.reduceAdd,Nat.reduceSub,Array.replicate_succ,Array.replicate_zero,List.push_toArray,List.append_toArray,List.nil_append,List.cons_append]
 gi_wp2
 go_ret
 exact⟨rfl,rfl⟩
theorem backwardW_stops (F:Fence) (n:Nat) (hf:F.fn 99) (hro:F.round=none) (hn:1≤n) (Bs n₀ cap m:Nat) (A:Option Addr) (ad:Addr) (at_:Nat→Int) (E:Nat→Option Addr) (ln ca:Nat→Nat) (hm:m≤9223372036854775807) (w:World) (hBs:Bs<w.heap.size) (hn₀:n₀≤w.heap.size)
  (hc:w.cell? ⟨Bs,0,none⟩=some (.slice A m cap)) (hA:0<m→A=some ad∧ad.block<n₀) (hx:∀ j,j<m→w.cell? (ad.add (j*2))=some (.int .i64 (at_ j))∧w.cell? ⟨(ad.add (j*2)).block,(ad.add (j*2)).off+1,none⟩=some (.slice (E j) (ln j) (ca j))) :
  SeqStopsK F n Tryz.prog 99 #[.pointer (some ⟨Bs,0,none⟩)] (fun x:Nat=>#[Value.int .i64 (x:Int),Value.agg #[.int .i64 (at_ x),.slice (E x) (ln x) (ca x)]]) (Keeps n₀ Bs) (fun ys=>ys=downs m m)
   (fun pre=>∃ k,k≤m∧pre=downs m k) m w:=fun l J Jx W hW _ _ hY h0=>by
 have hc':=(hW.cell (p:=⟨Bs,0,none⟩) hBs).trans hc
 exact backW_in F n hf hro hn l Bs n₀ cap m A ad at_ E ln ca hm hA J Jx hY W hc' (fun j hj=>⟨(hW.cell (p:=ad.add (j*2)) (by rw[add_block];have:=(hA (by omega)).2;omega)).trans (hx j hj).1,(hW.cell (p:=⟨(ad.add (j*2)).block,(ad.add (j*2)).off+1,none⟩) (by rw[add_block];have:=(hA (by omega)).2;omega)).trans (hx j hj).2⟩) h0
theorem wts_fn {w:World} {B:Option Addr} {ws:List Wt} (h:∀ i x,ws[i]? = some x→∃ ad v,B=some ad∧Old w (ad.add (i*2))∧Old w (ad.add (i*2+1))∧w.cell? (ad.add (i*2))=some (.int .i64 x.1)∧w.cell? (ad.add (i*2+1))=some v∧rBy (Old w) w [v] x.2 ∧ -9223372036854775808≤x.1∧x.1≤9223372036854775807) :
  ∃ (ad:Addr) (E:Nat→Option Addr) (ca:Nat→Nat),(0<ws.length→B=some ad∧ad.block<w.heap.size)∧∀ i x,ws[i]? = some x→w.cell? (ad.add (i*2))=some (.int .i64 x.1)∧w.cell? ⟨(ad.add (i*2)).block,(ad.add (i*2)).off+1,none⟩=some (.slice (E i) x.2.length (ca i))∧rBy (Old w) w [.slice (E i) x.2.length (ca i)] x.2:=by
 have h2:∀ i,∃ f:Option Addr×Nat,∀ x,ws[i]? = some x→∃ ad,B=some ad∧ad.block<w.heap.size∧w.cell? (ad.add (i*2))=some (.int .i64 x.1)∧w.cell? ⟨(ad.add (i*2)).block,(ad.add (i*2)).off+1,none⟩=some (.slice f.1 x.2.length f.2)∧rBy (Old w) w [.slice f.1 x.2.length f.2] x.2:=fun i=>by
  cases hx:ws[i]? with
  | none=>exact⟨(none,0),fun x e=>by cases e⟩
  | some x =>
   obtain⟨ad,v,rfl,o1,_,c1,c2,hv,_⟩:=h i x hx
   obtain⟨E,c,rfl,_⟩:=rBy_open hv
   rw[add_next] at c2
   exact⟨(E,c),fun y e=>by cases e;exact⟨ad,rfl,by unfold Old at o1;rwa [add_block] at o1,c1,c2,hv⟩⟩
 obtain⟨f,hf⟩:∃ f:Nat→Option Addr×Nat,∀ i x,ws[i]? = some x→∃ ad,B=some ad∧ad.block<w.heap.size∧w.cell? (ad.add (i*2))=some (.int .i64 x.1)∧w.cell? ⟨(ad.add (i*2)).block,(ad.add (i*2)).off+1,none⟩=some (.slice (f i).1 x.2.length (f i).2)∧rBy (Old w) w [.slice (f i).1 x.2.length (f i).2] x.2 :=
  ⟨fun i=>Classical.choose (h2 i),fun i=>Classical.choose_spec (h2 i)⟩
 rcases B with _ | ad
 ·refine⟨⟨0,0,none⟩,fun i=>(f i).1,fun i=>(f i).2,fun h0 => ?_,fun i x hi => ?_⟩
  ·obtain⟨_,e,_⟩:=hf 0 _ (List.getElem?_eq_getElem h0)
   cases e
  ·obtain⟨_,e,_⟩:=hf i x hi
   cases e
 ·refine⟨ad,fun i=>(f i).1,fun i=>(f i).2,fun h0 => ?_,fun i x hi => ?_⟩
  ·obtain⟨_,e,hb,_⟩:=hf 0 _ (List.getElem?_eq_getElem h0)
   cases e
   exact⟨rfl,hb⟩
  ·obtain⟨_,e,_,hr⟩:=hf i x hi
   cases e
   exact hr
set_option maxRecDepth 100000 in
set_option maxHeartbeats 4000000 in
theorem seen_in (F:Fence) (n:Nat) (h3:F.fn 53) (h5:F.fn 78) (h7:F.fn 99) (hro:F.round=none) (hn:3≤n)
  (v:Value) (d:Dk) (k:Nat) (hk:k<d.1.length) (w:World) (h:Dsk (Old w) w v d) :
  CallsIn F n Tryz.prog 53 #[v,.int .i64 k] w fun e W'=>∃ u,e=.returned u∧rBy (Old w) w [u] (seenD d k)∧Below w.heap.size w W':=by
 have h1:1≤n:=by omega
 obtain⟨A,c,B,c',rfl,l1,m1,l2,m2,hA,hB⟩:=h.open
 obtain⟨ad,E,ca,had,hfn⟩:=wts_fn hB
 obtain⟨x,hx⟩:∃ x,d.1[k]? = some x:=⟨_,List.getElem?_eq_getElem hk⟩
 obtain⟨a1,v1,rfl,ho1,hc1,hby1⟩:=hA k x hx
 have HF:=Lib.hid hfn
 clear hA hB h hfn
 have hsd:Hid (seenD d k=seenW d.2 x k):=Lib.hid (by unfold seenD;rw[hx];rfl)
 replace hx:=Lib.hid hx
 obtain⟨N,hN⟩:∃ N,d.1.length=N:=⟨_,rfl⟩
 obtain⟨m,hm⟩:∃ m,d.2.length=m:=⟨_,rfl⟩
 rw[hN] at l1 hk ⊢
 rw[hm] at l2 had ⊢
 replace hN:=Lib.hid hN
 replace hm:=Lib.hid hm
 have hfa:Hid (∀ j,j<m→w.cell? (ad.add (j*2))=some (.int .i64 ((d.2[j]?.getD (0,[])).1))∧w.cell? ⟨(ad.add (j*2)).block,(ad.add (j*2)).off+1,none⟩=some (.slice (E j) (d.2[j]?.getD (0,[])).2.length (ca j))):=Lib.hid fun j hj=>by
  have hj':d.2[j]? = some (d.2[j]'(by rw[hm.out];exact hj)):=List.getElem?_eq_getElem _
  rw[hj']
  exact⟨(HF.out j _ hj').1,(HF.out j _ hj').2.1⟩
 obtain⟨E1,ce1,rfl,_⟩:=rBy_open hby1
 replace had:=Lib.hid had
 refine callsIn_of_wp_marks Tryz.func53 rfl h3 ?_ hro
 simp only[Tryz.ntmps53,List.size_toArray,List.length_cons,List.length_nil,Nat.reduceAdd,Nat.reduceSub,Array.replicate_succ,Array.replicate_zero,List.push_toArray,List.append_toArray,List.nil_append,List.cons_append]
 gi_wp2_with (gi_at_call 78;refine(backwardW_in F (n-1) h5 hro _ _ _ _).mono ?_;rintro e w' ⟨rfl,rfl⟩)
 obtain⟨W0,hW0,hB0,hs0,b0,b1,b2,b2f,b3⟩:∃ W0,(((w.alloc (.cells #[.slice (some a1) N c,.slice B m c'] 26)).alloc (.cells #[.int .i64 (k:Int)] 3)).alloc (.cells #[.slice none 0 0] 27)).alloc (.cells #[.slice B m c'] 24)=W0∧Below w.heap.size w W0∧W0.heap.size=w.heap.size+4 ∧
   W0.cell? ⟨w.heap.size,0,none⟩=some (.slice (some a1) N c)∧W0.cell? ⟨w.heap.size+1,0,none⟩=some (.int .i64 (k:Int))∧W0.cell? ⟨w.heap.size+1+1,0,none⟩=some (.slice none 0 0)∧W0.frozen? ⟨w.heap.size+1+1,0,none⟩=false∧W0.cell? ⟨w.heap.size+1+1+1,0,none⟩=some (.slice B m c') :=
  ⟨_,rfl,((((Below.refl _ w).alloc (Nat.le_refl _) _).alloc (by simp) _).alloc (by simp;omega) _).alloc (by simp;omega) _,by simp,by go_simp,by go_simp,by go_simp,by go_simp,by go_simp⟩
 rw[hW0]
 clear hW0
 obtain⟨atf,hat⟩:∃ f:Nat→Int,f=fun j=>(d.2[j]?.getD (0,[])).1:=⟨_,rfl⟩
 obtain⟨lnf,hln⟩:∃ f:Nat→Nat,f=fun j=>(d.2[j]?.getD (0,[])).2.length:=⟨_,rfl⟩
 have hfb:∀ j,j<m→W0.cell? (ad.add (j*2))=some (.int .i64 (atf j))∧W0.cell? ⟨(ad.add (j*2)).block,(ad.add (j*2)).off+1,none⟩=some (.slice (E j) (lnf j) (ca j)):=fun j hj=>by
  have hb:=(had.out (by omega)).2
  rw[hat,hln]
  exact⟨(hB0.cell (p:=ad.add (j*2)) (by rw[add_block];exact hb)).trans (hfa.out j hj).1,(hB0.cell (p:=⟨(ad.add (j*2)).block,(ad.add (j*2)).off+1,none⟩) (by rw[add_block];exact hb)).trans (hfa.out j hj).2⟩
 have hlo:w.heap.size≤W0.heap.size:=hB0.size
 replace hat:=Lib.hid hat
 replace hln:=Lib.hid hln
 refine wpIn_rangeFunc_ownH hro h1 (gf:=99) (lb:=#[.pointer (some ⟨w.heap.size+1+1+1,0,none⟩)]) rfl h7 (enters_of Tryz.func99 (by kernel_rfl) rfl)
  (backwardW_stops F (n-1) h7 hro (by omega) (w.heap.size+1+1+1) w.heap.size c' m B ad atf E lnf ca (by omega) W0 (by omega) hlo b3 had.out hfb)
  (fun h h'=>Keeps.trans h h') (fun W l o o' hl h1 h2 h3=>keeps_b (w:=W0) (by omega) hlo l o o' hl h1 h2 h3) (Below.refl _ _) (fun _=>rfl)
  (fun pre W=>((∀ j∈pre,atf j≠k)∧W.cell? ⟨w.heap.size,0,none⟩=some (.slice (some a1) N c)∧W.cell? ⟨w.heap.size+1,0,none⟩=some (.int .i64 (k:Int))∧W.cell? ⟨w.heap.size+1+1,0,none⟩=some (.slice none 0 0)∧W.frozen? ⟨w.heap.size+1+1,0,none⟩=false∧W.cell? ⟨w.heap.size+1+1+1,0,none⟩=some (.slice B m c'))∧Below w.heap.size w W)
  (fun cd pre W=>(cd=.ret∧∃ p i,pre=p++[i]∧(∀ j∈p,atf j≠k)∧atf i=k∧W.cell? ⟨w.heap.size+1+1,0,none⟩=some (.slice (E i) (lnf i) (ca i)))∧Below w.heap.size w W)
  (OwnFrom.and (Own.from (fun s A B row hs hg hr=>⟨hs.1,cell_kept hs.2.1 hg hr,cell_kept hs.2.2.1 hg hr,cell_kept hs.2.2.2.1 hg hr,(frozen_kept hs.2.2.2.1 hg hr).trans hs.2.2.2.2.1,cell_kept hs.2.2.2.2.2 hg hr⟩) _) (ownFrom_below (Nat.le_refl _) hlo))
  (fun cd=>OwnFrom.and (Own.from (fun s A B row hs hg hr=>by
   obtain⟨e,p,i,e2,h1,h2,hc⟩:=hs
   exact⟨e,p,i,e2,h1,h2,cell_kept hc hg hr⟩) _) (ownFrom_below (Nat.le_refl _) hlo))
  ⟨⟨by simp,b0,b1,b2,b2f,b3⟩,hB0⟩
  (fun x a' W=>∃ g,a'={ tmps:=#[.agg #[.slice (some a1) N c,.slice B m c'],.int .i64 (k:Int),.pointer (some ⟨w.heap.size,0,none⟩),.pointer (some ⟨w.heap.size+1,0,none⟩),.pointer (some ⟨w.heap.size+1+1,0,none⟩),undef,.pointer (some ⟨g,0,none⟩),.pointer (some ⟨w.heap.size,1,none⟩),.slice B m c',
   .func (.func 99) #[] #[.pointer (some ⟨w.heap.size+1+1+1,0,none⟩)],.int .i64 (x:Int),.agg #[.int .i64 (atf x),.slice (E x) (lnf x) (ca x)],undef,undef,undef,undef,undef,undef,undef,undef,undef,undef,undef],defers:=[] } ∧
   W.cell? ⟨g,0,none⟩=some (.int .i64 (atf x))∧W.cell? ⟨g,1,none⟩=some (.slice (E x) (lnf x) (ca x)))
  (fun x a'=>Own.from (fun s A B row hs hg hr=>by
   obtain⟨g,e,h1,h2⟩:=hs
   exact⟨g,e,cell_kept h1 hg hr,cell_kept h2 hg hr⟩) _) ?assign ?body ?done ?stop
 case assign =>
  rintro l pre x W K ⟨⟨hp,c0,c1,c2,c2f,c3⟩,hb⟩ hK
  have hlW:w.heap.size+1+1<W.heap.size:=World.block_lt_of_cell? _ _ c2
  gi_wp2
  exact hK _ _ ((KeepsOthers.alloc _ _).from _) ⟨(Below.refl _ W).alloc hb.size _,(Lib.cell?_alloc_some _ c3).trans c3.symm⟩
   ⟨⟨hp,Lib.cell?_alloc_some _ c0,Lib.cell?_alloc_some _ c1,Lib.cell?_alloc_some _ c2,(World.frozen?_of_block (Below.heap_alloc W _ _ hlW)).trans c2f,Lib.cell?_alloc_some _ c3⟩,hb.alloc hb.size _⟩ ⟨W.heap.size,rfl,by go_simp,by go_simp⟩
 case body =>
  rintro l pre x a' W hl hloop ⟨⟨hp,c0,c1,c2,c2f,c3⟩,hb⟩ ⟨g,rfl,g0,g1⟩ hlen
  by_cases he:atf x=k
  ·have he':(atf x==(k:Int))=true:=by simpa using he
   replace he:=Lib.hid he
   gi_wp2
   refine⟨(KeepsOthers.setCell _ _ _).from _,⟨rfl,pre,x,rfl,hp,he.out,World.cell?_setCell_same' _ _ _ (by rw[c2];rfl)⟩,hb.setCell (by simp;omega) _⟩
  ·have he':(atf x==(k:Int))=false:=by simpa using he
   replace he:=Lib.hid he
   gi_wp2
   refine⟨KeepsFrom.refl _ _,⟨Below.refl _ _,rfl⟩,⟨fun j hj=>(List.mem_append.1 hj).elim (hp j) (fun e=>by simp at e;rw[e];exact he.out),c0,c1,c2,c2f,c3⟩,hb⟩
 case done =>
  rintro D zs W hD rfl ⟨⟨hp,c0,c1,c2,c2f,c3⟩,hb⟩ hK
  have hcx:=(hb.cell ho1).trans hc1
  have hval:Hid (rBy (Old w) w [.slice E1 x.length ce1] (seenD d k)):=Lib.hid (by
   rw[hsd.out,seenW_none]
   ·exact hby1
   ·intro y hy
    obtain⟨j,hj⟩:=List.getElem?_of_mem hy
    have:=hp j ((mem_downs (Nat.le_refl _)).2 ⟨by omega,by rw[← hm.out];exact(List.getElem?_eq_some_iff.1 hj).1⟩)
    rw[hat.out] at this
    simpa [hj] using this)
  gi_wp2
  have hK':=(KeepsOthers.setCell W ⟨w.heap.size+1+1,0,none⟩ (.slice E1 x.length ce1)).same D _ hK rfl
  refine⟨by simp,.inl ⟨_,_,rfl,run_takeDeferred hK',?_⟩⟩
  have hc5:=cell_kept (World.cell?_setCell_same' W ⟨w.heap.size+1+1,0,none⟩ (.slice E1 x.length ce1) (by rw[c2];rfl)) (grownBy_putObj' _ D (.deferred none)) (fun r e=>by cases e;exact⟨_,hK',rfl⟩)
  refine⟨.slice E1 x.length ce1,?_,_,rfl,hval.out,(hb.setCell (p:=⟨w.heap.size+1+1,0,none⟩) (by simp;omega) _).trans (belowK_b hlo _ D _ _ hD hK' rfl rfl)⟩
  simp[results,Tryz.f53,go_sem,hc5]
 case stop =>
  rintro D cd pre W hD ⟨q,hq,rfl⟩ ⟨⟨rfl,p,i,hpi,h1,h2,hc⟩,hb⟩ hK
  have hi:i∈downs m q:=by rw[hpi];simp
  obtain⟨hi1,hi2⟩:=(mem_downs hq).1 hi
  have hval:Hid (rBy (Old w) w [.slice (E i) (lnf i) (ca i)] (seenD d k)):=Lib.hid (by
   have hx2:d.2[i]? = some (d.2[i]'(by rw[hm.out];exact hi2)):=List.getElem?_eq_getElem _
   have e1:atf i=(d.2[i]'(by rw[hm.out];exact hi2)).1:=by rw[hat.out];simp[hx2]
   have e2:lnf i=(d.2[i]'(by rw[hm.out];exact hi2)).2.length:=by rw[hln.out];simp[hx2]
   rw[hsd.out,e2,seenW_at hx2 (by rw[← e1];exact h2)]
   ·exact(HF.out i _ hx2).2.2
   ·intro j y hij hj
    have hjm:j<m:=by rw[← hm.out];exact(List.getElem?_eq_some_iff.1 hj).1
    have hjd:j∈downs m q:=(mem_downs hq).2 ⟨by omega,hjm⟩
    rw[hpi] at hjd
    have:=h1 j ((List.mem_append.1 hjd).elim id (fun e=>by simp at e;omega))
    rw[hat.out] at this
    simpa [hj] using this)
  gi_wp2
  refine⟨by simp,.inl ⟨_,_,rfl,run_takeDeferred hK,?_⟩⟩
  have hc5:=cell_kept hc (grownBy_putObj' _ D (.deferred none)) (fun r e=>by cases e;exact⟨_,hK,rfl⟩)
  refine⟨.slice (E i) (lnf i) (ca i),?_,_,rfl,hval.out,hb.trans (belowK_b hlo _ D _ _ hD hK rfl rfl)⟩
  simp[results,Tryz.f53,go_sem,hc5]
theorem seen_any (v:Value) (d:Dk) (k:Nat) (hk:k<d.1.length) (w:World) (h:Dsk (Old w) w v d) :
  Calls Tryz.prog 53 #[v,.int .i64 k] w fun e W'=>∃ u,e=.returned u∧rBy (Old w) w [u] (seenD d k)∧Below w.heap.size w W' :=
 callsIn_wide.1 (seen_in Fence.wide 3 trivial trivial trivial rfl (Nat.le_refl _) v d k hk w h)
end Go.Proofs.YtogieepfimpdmaaGreat
/-
 Package dev: checkAt,Read. Conditions: those that each lemma states.
-/
namespace Go.Proofs.YtogieepfimpdmaaGreat
open Go.RowKit
def chkAt (d:Dk) (n:Int):Int:=if mayB d then (if thereB n then 0 else 2) else 8
theorem chkAt_bad {d:Dk} {n:Int} (h:mayB d=false):chkAt d n=8:=by simp[chkAt,h]
theorem chkAt_out {d:Dk} {n:Int} (h:mayB d=true) (h':thereB n=false):chkAt d n=2:=by simp[chkAt,h,h']
theorem chkAt_ok {d:Dk} {n:Int} (h:mayB d=true) (h':thereB n=true):chkAt d n=0:=by simp[chkAt,h,h']
theorem thereB_nat {n:Int} (h:thereB n=true):∃ k:Nat,n=k∧k<256:=by
 simp only[thereB,Bool.and_eq_true,decide_eq_true_eq] at h
 exact⟨n.toNat,by omega,by omega⟩
theorem thereB_of {k:Nat} (h:k<256):thereB (k:Int)=true:=by
 simp only[thereB,Bool.and_eq_true,decide_eq_true_eq]
 omega
set_option maxHeartbeats 1000000 in
theorem checkAt_any (v:Value) (d:Dk) (n:Int) (w:World) (h:Dsk (Old w) w v d):Calls Tryz.prog 51 #[v,.int .i64 n] w fun e w'=>e=.returned (.int .i64 (chkAt d n))∧Below w.heap.size w w':=by
 obtain⟨a,b,rfl,_⟩:=id h
 have hB:=balloc (Below.refl w.heap.size w) (.cells #[a,b] 26)
 have H:=Lib.hid (h.below hB)
 cases hm:mayB d with
 | true =>
  have hc:=Lib.hid (chk_ok hm)
  cases ht:thereB n with
  | true =>
   have hr:=Lib.hid (chkAt_ok hm ht)
   replace hm:=Lib.hid hm
   replace ht:=Lib.hid ht
   go_enter Tryz.func51,Tryz.ntmps51
   go_wp2_with fail
   refine(check_any _ d _ H.out).mono ?_
   rintro e w1 ⟨rfl,hb1⟩
   rw[hc.out]
   go_wp2_with fail
   refine(there_any _ _).mono ?_
   rintro e w2 ⟨rfl,rfl⟩
   rw[ht.out]
   go_wp2_with fail
   go_ret
   exact⟨ret_int hr.out.symm,hB.trans (hb1.mono hB.size)⟩
  | false =>
   have hr:=Lib.hid (chkAt_out hm ht)
   replace hm:=Lib.hid hm
   replace ht:=Lib.hid ht
   go_enter Tryz.func51,Tryz.ntmps51
   go_wp2_with fail
   refine(check_any _ d _ H.out).mono ?_
   rintro e w1 ⟨rfl,hb1⟩
   rw[hc.out]
   go_wp2_with fail
   refine(there_any _ _).mono ?_
   rintro e w2 ⟨rfl,rfl⟩
   rw[ht.out]
   go_wp2_with fail
   go_ret
   exact⟨ret_int hr.out.symm,hB.trans (hb1.mono hB.size)⟩
 | false =>
  have hc:=Lib.hid (chk_bad hm)
  have hr:=Lib.hid (chkAt_bad (n:=n) hm)
  replace hm:=Lib.hid hm
  go_enter Tryz.func51,Tryz.ntmps51
  go_wp2_with fail
  refine(check_any _ d _ H.out).mono ?_
  rintro e w1 ⟨rfl,hb1⟩
  rw[hc.out]
  go_wp2_with fail
  go_ret
  exact⟨ret_int hr.out.symm,hB.trans (hb1.mono hB.size)⟩
set_option maxHeartbeats 1000000 in
theorem read_bad (v:Value) (d:Dk) (n:Int) (w:World) (h:Dsk (Old w) w v d) (hn:¬ (mayB d=true∧thereB n=true)) :
  Calls Tryz.prog 31 #[v,.int .i64 n] w fun e w'=>e=.returned (.tuple #[.slice none 0 0,.int .i64 (chkAt d n)])∧Below w.heap.size w w':=by
 obtain⟨a,b,rfl,_⟩:=id h
 have hB:=balloc (Below.refl w.heap.size w) (.cells #[a,b] 26)
 have H:=Lib.hid (h.below hB)
 have hc:chkAt d n=8∨chkAt d n=2:=by
  cases hm:mayB d with
  | false=>exact .inl (chkAt_bad hm)
  | true =>
   cases ht:thereB n with
   | false=>exact .inr (chkAt_out hm ht)
   | true=>exact absurd ⟨hm,ht⟩ hn
 clear hn
 rcases hc with hc | hc
 all_goals
  rw[hc]
  replace hc:=Lib.hid hc
  go_enter Tryz.func31,Tryz.ntmps31
  go_wp2_with fail
  refine(checkAt_any _ d n _ H.out).mono ?_
  rintro e w1 ⟨rfl,hb1⟩
  rw[hc.out]
  go_wp2_with fail
  go_ret2
  exact⟨rfl,hB.trans (hb1.mono hB.size)⟩
set_option maxHeartbeats 1000000 in
theorem read_ok (v:Value) (d:Dk) (k:Nat) (w:World) (h:Dsk (Old w) w v d) (hm:mayB d=true) (hk:k<256) :
  Calls Tryz.prog 31 #[v,.int .i64 k] w fun e w'=>∃ u,e=.returned (.tuple #[u,.int .i64 0])∧rBy (New w.heap.size w') w' [u] (seenD d k)∧Below w.heap.size w w':=by
 obtain⟨a,b,rfl,ha,hb⟩:=id h
 obtain⟨w0,hw0,f1,f2,f3,hB⟩:=box_pair w a b 26
 have H:=Lib.hid (h.below hB)
 have hc:=Lib.hid (chkAt_ok hm (thereB_of hk))
 have hl:k<d.1.length:=by rw[(may_of hm).1];exact hk
 have hbig:Hid ((seenD d k).length=128):=Lib.hid (by
  obtain⟨h1,h2,h3,h4⟩:=may_of hm
  refine seenW_length ?_ fun x hx => ?_
  ·rw[List.getElem?_eq_getElem hl]
   exact h3 k _ (List.getElem?_eq_getElem hl)
  ·obtain⟨j,hj⟩:=List.getElem?_of_mem hx
   exact(h4 j x hj).2.2)
 obtain⟨A,c,e1,_⟩:=rows_open ha
 obtain⟨B,e,e2,_⟩:=wts_open hb
 cases e1
 cases e2
 replace f3:=Lib.hid f3
 replace hm:=Lib.hid hm
 go_enter Tryz.func31,Tryz.ntmps31
 go_upto_region 1 with fail
 clear hw0
 go_wp2_with fail
 refine(checkAt_any _ d k _ H.out).mono ?_
 rintro e w1 ⟨rfl,hb1⟩
 rw[hc.out]
 have H1:=Lib.hid (H.out.below hb1)
 have g1:=(hb1.cell (p:=⟨w.heap.size,0,none⟩) (by rw[f3.out];simp)).trans f1
 have g2:=(hb1.cell (p:=⟨w.heap.size,1,none⟩) (by rw[f3.out];simp)).trans f2
 have hB1:=hB.trans (hb1.mono hB.size)
 clear f1 f2 hB hb1
 go_wp2_with fail
 refine(seen_any _ d k hl _ H1.out).mono ?_
 rintro e w2 ⟨u,rfl,hu,hb2⟩
 have hu2:=stab_by.old hu hb2
 have hB2:=hB1.trans (hb2.mono hB1.size)
 go_wp2_with fail
 refine(clone_by u _ _ (by rw[hbig.out];omega) hu2).mono ?_
 rintro e w3 ⟨x,rfl,hx,hb3⟩
 have hfin:=Lib.hid (stab_by.mono hx hB2.size)
 have hB3:=hB2.trans (hb3.mono hB2.size)
 clear hx hu hu2
 go_wp2_with fail
 go_ret2
 exact⟨x,rfl,hfin.out,hB3⟩
end Go.Proofs.YtogieepfimpdmaaGreat
/-
 Package dev: Write. Conditions: those that each lemma states.
-/
namespace Go.Proofs.YtogieepfimpdmaaGreat
open Go.RowKit
def wErr (d:Dk) (n:Int) (xs:List UInt8):Int:=if mayB d then (if thereB n then (if xs.length=128 then (if d.2.length=4096 then 9 else 0) else 3) else 2) else 8
theorem wErr_at {d:Dk} {n:Int} {xs:List UInt8} (h:chkAt d n≠0):wErr d n xs=chkAt d n:=by
 unfold wErr chkAt at *
 split
 ·split
  ·simp_all
  ·rfl
 ·rfl
set_option maxHeartbeats 2000000 in
theorem write_bad (v u:Value) (d:Dk) (n:Int) (xs:List UInt8) (w:World) (h:Dsk (Old w) w v d) (hu:rBy (Old w) w [u] xs) (he:wErr d n xs≠0) :
  Calls Tryz.prog 91 #[v,.int .i64 n,u] w fun e w'=>e=.returned (.tuple #[.agg #[.slice none 0 0,.slice none 0 0],.int .i64 (wErr d n xs)])∧Below w.heap.size w w':=by
 obtain⟨a,b,rfl,_⟩:=id h
 obtain⟨w2,hw2,f1,f2,f3,hsz,hB⟩:=box_two w a b #[.slice none 0 0,.slice none 0 0] 26
 have H:=Lib.hid (h.below hB)
 obtain⟨A,c,B,e,e1,_⟩:=h.open
 cases e1
 obtain⟨E,ce,rfl,_⟩:=rBy_open hu
 clear h hu
 replace hsz:=Lib.hid hsz
 cases hc:chkAt d n==0 with
 | false =>
  have hc':chkAt d n≠0:=by simpa using hc
  have hw:=Lib.hid (wErr_at (xs:=xs) hc')
  obtain⟨q,hq⟩:∃ q,chkAt d n=q:=⟨_,rfl⟩
  rw[hw.out,hq]
  rw[hq] at hc
  replace hq:=Lib.hid hq
  have hc2:(q != 0)=true:=by simpa using hc
  clear he hc'
  go_enter Tryz.func91,Tryz.ntmps91
  go_upto_region 1 with fail
  clear hw2
  go_wp2_with fail
  refine(checkAt_any _ d n _ H.out).mono ?_
  rintro e w3 ⟨rfl,hb3⟩
  rw[hq.out]
  have f4:=(hb3.block (w.heap.size+1) (by rw[hsz.out];omega)).trans f3
  obtain⟨k1,k2,k3,k4⟩:=two_cells f4
  obtain⟨W9,hW9,g9,gr9,gs9⟩:=put_two (u:=.slice none 0 0) (v:=.slice none 0 0) f4
  obtain⟨k5,k6,_,_⟩:=two_cells g9
  have hB9:=(hB.trans (hb3.mono hB.size)).grown gr9 (Nat.le_trans hB.size hb3.size) (fun q e=>by cases e;omega)
  replace f4:=Lib.hid f4
  replace f3:=Lib.hid f3
  replace g9:=Lib.hid g9
  clear f1 f2
  go_wp2_with fail
  exact bodyPost_ret (v:=.tuple #[.agg #[.slice none 0 0,.slice none 0 0],.int .i64 q]) (by simp[results,Tryz.results91,go_sem,k5,k6]) rfl ⟨rfl,hB9⟩
 | true =>
  have hc':chkAt d n=0:=by simpa using hc
  clear hc
  have hmt:mayB d=true∧thereB n=true:=by
   unfold chkAt at hc'
   cases h1:mayB d <;> cases h2:thereB n <;> simp[h1,h2] at hc' ⊢
  replace hc':=Lib.hid hc'
  by_cases h8:xs.length=128
  ·have h9:d.2.length=4096:=by
    unfold wErr at he
    simp[hmt,h8] at he
    exact he
   have hw:=Lib.hid (show wErr d n xs=9 by simp[wErr,hmt,h8,h9])
   rw[hw.out]
   have e8:((xs.length:Int) != 128)=false:=by rw[h8];rfl
   have e9:((d.2.length:Int)==4096)=true:=by rw[h9];rfl
   replace h8:=Lib.hid h8
   replace h9:=Lib.hid h9
   clear he hmt
   go_enter Tryz.func91,Tryz.ntmps91
   go_upto_region 1 with fail
   clear hw2
   go_wp2_with fail
   refine(checkAt_any _ d n _ H.out).mono ?_
   rintro e w3 ⟨rfl,hb3⟩
   rw[hc'.out]
   have f4:=(hb3.block (w.heap.size+1) (by rw[hsz.out];omega)).trans f3
   have g2:=(hb3.cell (p:=⟨w.heap.size,1,none⟩) (by rw[hsz.out];simp)).trans f2
   obtain⟨k1,k2,k3,k4⟩:=two_cells f4
   obtain⟨W9,hW9,g9,gr9,gs9⟩:=put_two (u:=.slice none 0 0) (v:=.slice none 0 0) f4
   obtain⟨k5,k6,_,_⟩:=two_cells g9
   have hB9:=(hB.trans (hb3.mono hB.size)).grown gr9 (Nat.le_trans hB.size hb3.size) (fun q e=>by cases e;omega)
   replace f4:=Lib.hid f4
   replace f3:=Lib.hid f3
   replace g9:=Lib.hid g9
   clear f1 f2
   go_wp2_with fail
   exact bodyPost_ret (v:=.tuple #[.agg #[.slice none 0 0,.slice none 0 0],.int .i64 9]) (by simp[results,Tryz.results91,go_sem,k5,k6]) rfl ⟨rfl,hB9⟩
  ·have hw:=Lib.hid (show wErr d n xs=3 by simp[wErr,hmt,h8])
   rw[hw.out]
   have e8:((xs.length:Int) != 128)=true:=by simp;omega
   clear he hmt h8
   go_enter Tryz.func91,Tryz.ntmps91
   go_upto_region 1 with fail
   clear hw2
   go_wp2_with fail
   refine(checkAt_any _ d n _ H.out).mono ?_
   rintro e w3 ⟨rfl,hb3⟩
   rw[hc'.out]
   have f4:=(hb3.block (w.heap.size+1) (by rw[hsz.out];omega)).trans f3
   obtain⟨k1,k2,k3,k4⟩:=two_cells f4
   obtain⟨W9,hW9,g9,gr9,gs9⟩:=put_two (u:=.slice none 0 0) (v:=.slice none 0 0) f4
   obtain⟨k5,k6,_,_⟩:=two_cells g9
   have hB9:=(hB.trans (hb3.mono hB.size)).grown gr9 (Nat.le_trans hB.size hb3.size) (fun q e=>by cases e;omega)
   replace f4:=Lib.hid f4
   replace f3:=Lib.hid f3
   replace g9:=Lib.hid g9
   clear f1 f2
   go_wp2_with fail
   exact bodyPost_ret (v:=.tuple #[.agg #[.slice none 0 0,.slice none 0 0],.int .i64 3]) (by simp[results,Tryz.results91,go_sem,k5,k6]) rfl ⟨rfl,hB9⟩
set_option maxRecDepth 100000 in
set_option maxHeartbeats 4000000 in
theorem write_ok (v u:Value) (d:Dk) (k:Nat) (xs:List UInt8) (w:World) (h:Dsk (Old w) w v d) (hu:rBy (Old w) w [u] xs) (hm:mayB d=true) (hk:k<256) (hl:xs.length=128) (hf:d.2.length<4096) :
  Calls Tryz.prog 91 #[v,.int .i64 k,u] w fun e w'=>∃ x,e=.returned (.tuple #[x,.int .i64 0])∧Dsk (New w.heap.size w') w' x (d.1,d.2++[((k:Int),xs)])∧Below w.heap.size w w':=by
 obtain⟨i0,hi,hz0,hz1,hz2⟩:=info_parts wts_info0
 obtain⟨a,b,rfl,_⟩:=id h
 obtain⟨w2,hw2,f1,f2,f3,hsz,hB⟩:=box_two w a b #[.slice none 0 0,.slice none 0 0] 26
 have H:=Lib.hid (h.below hB)
 obtain⟨A,c,B,e,e1,_⟩:=h.open
 cases e1
 have hu2:=stab_by.old hu hB
 obtain⟨E,ce,rfl,_⟩:=rBy_open hu
 clear h hu
 replace hsz:=Lib.hid hsz
 have hc:=Lib.hid (chkAt_ok hm (thereB_of hk))
 have hsm:=Lib.hid (small_of_may hm)
 have e8:((xs.length:Int) != 128)=false:=by rw[hl];rfl
 have e9:((d.2.length:Int)==4096)=false:=by simp;omega
 replace hm:=Lib.hid hm
 replace hl:=Lib.hid hl
 go_enter Tryz.func91,Tryz.ntmps91
 go_upto_region 1 with fail
 clear hw2
 go_wp2_with fail
 refine(checkAt_any _ d k _ H.out).mono ?_
 rintro e w3 ⟨rfl,hb3⟩
 rw[hc.out]
 have f4:=(hb3.block (w.heap.size+1) (by rw[hsz.out];omega)).trans f3
 have g1:=(hb3.cell (p:=⟨w.heap.size,0,none⟩) (by rw[hsz.out];simp)).trans f1
 have g2:=(hb3.cell (p:=⟨w.heap.size,1,none⟩) (by rw[hsz.out];simp)).trans f2
 have H3:=Lib.hid (H.out.below hb3)
 have hu3:=stab_by.old hu2 hb3
 have hB3:=hB.trans (hb3.mono hB.size)
 have hl3:w.heap.size+2≤w3.heap.size:=by have:=hsz.out;have:=hb3.size;omega
 replace f4:=Lib.hid f4
 clear f1 f2 f3 hu2 H hB hb3
 go_wp2_with fail
 refine(twin_own _ d _ hsm.out H3.out).mono ?_
 rintro e w4 ⟨x,rfl,⟨a4,A4,c4,ps,rfl,hx1,hx2,hx3,hx4⟩,hb4⟩
 obtain⟨R4,r4,er,_⟩:=rows_open hx1
 cases er
 have hu4:=stab_by.old hu3 hb4
 have f5:=(hb4.block (w.heap.size+1) (by omega)).trans f4.out
 have hB4:=hB3.trans (hb4.mono hB3.size)
 have hl4:w.heap.size+2≤w4.heap.size:=Nat.le_trans hl3 hb4.size
 obtain⟨wb,hwb,b1,b3,hbb⟩:=box_pair' w4 (.slice R4 d.1.length r4) (.slice A4 d.2.length c4) 26
 have hu5:=stab_by.old hu4 hbb
 have hA4:Hid (∀ q,A4.map (·.block)=some q→q<w4.heap.size∧w3.heap.size≤q):=Lib.hid fun q e=>by
  have:=hx2.lt q (by rw[hx3];exact e)
  exact⟨this.2,this.1⟩
 have hownb:wb.drew.ownsRow w3.heap.size 118 2 (.slice A4 d.2.length c4) d.2.length (wcells ps):=own_below hx2 hbb.drew
 have f6:=(hbb.block (w.heap.size+1) (by omega)).trans f5
 obtain⟨_,s1,s2,s3⟩:=two_cells b1
 have hB5:=hB4.trans (hbb.mono hB4.size)
 replace b1:=Lib.hid b1
 replace hownb:=Lib.hid hownb
 replace f5:=Lib.hid f5
 replace f6:=Lib.hid f6
 replace hx1:=Lib.hid hx1
 replace hx2:=Lib.hid hx2
 replace hx4:=Lib.hid hx4
 replace hx3:=Lib.hid hx3
 replace b3:=Lib.hid b3
 have hub:Hid (rBy (Old wb) wb [.slice E xs.length ce] xs):=Lib.hid hu5
 clear hu3 hu4 hu5
 have hd2:d.2.length<4096:=hf
 go_upto_region 9 with fail
 clear hwb
 have p1:xs.length≤140737488355328:=by rw[hl.out];omega
 refine wp_region_tails (by kernel_rfl) 7 (fun W=>Below wb.heap.size wb W) (fun i=>match i with
   | 4=>some (fun v W=>rBy (New wb.heap.size W) W [v] xs)
   | 5=>some (fun v W=>∃ Y cy,v=.agg #[.int .i64 (k:Int),.slice Y xs.length cy]∧rBy (New wb.heap.size W) W [.slice Y xs.length cy] xs)
   | 6=>some (fun v W=>∃ g Y cy,v=.slice (some ⟨g,0,none⟩) 1 1∧wb.heap.size≤g∧W.heap[g]? = some (.cells #[.int .i64 (k:Int),.slice Y xs.length cy] 118 (0,0))∧rBy (New wb.heap.size W) W [.slice Y xs.length cy] xs)
   | _=>none) (fun _=>none) (by decide) (by kernel_rfl) (by kernel_rfl) (Below.refl _ _).drew (fun w w' h hb=>h.trans (hb.mono h.size)) ?tst ?_
 case tst =>
  intro j φ x W W' hp hx hb
  match j,hp with
  | 4,hp=>cases hp;exact stab_by.new hx (Nat.le_refl _) hb
  | 5,hp =>
   cases hp
   obtain⟨Y,cy,e1,e2⟩:=hx
   exact⟨Y,cy,e1,stab_by.new e2 (Nat.le_refl _) hb⟩
  | 6,hp =>
   cases hp
   obtain⟨g,Y,cy,e1,e2,e3,e4⟩:=hx
   exact⟨g,Y,cy,e1,e2,(hb.block g (Array.getElem?_eq_some_iff.1 e3).1).trans e3,stab_by.new e4 (Nat.le_refl _) hb⟩
 simp only[List.take_succ_cons,List.take_zero,List.drop_succ_cons,List.drop_zero]
 repeat (first
  | (refine wpAs_skip rfl ?_;simp only[Act.put,List.setIfInBounds_toArray,List.set_cons_zero,List.set_cons_succ])
  | (refine wpAs_pure (v := ?_) rfl rfl ?_ ?_;rotate_left;(intro W hC hE;clear hE;(have z1:=(hC.cell (p:=⟨w4.heap.size,1,none⟩) s3).trans s1);clear hC;go_simp;done);simp only[Act.put,List.setIfInBounds_toArray,List.set_cons_zero,List.set_cons_succ])
  | (refine wpAs_pure (v := ?_) rfl rfl ?_ ?_;rotate_left;(intro W hC hE;clear hE;(have z1:=(hC.cell (p:=⟨w4.heap.size,1,none⟩) s3).trans s1);clear hC;go_simp;with_reducible rfl);simp only[Act.put,List.setIfInBounds_toArray,List.set_cons_zero,List.set_cons_succ]))
 refine wpAs_act rfl rfl ?_ ?_
 ·intro W hC hE
  clear hE
  refine does_enter (f:=52) (args:=#[.slice E xs.length ce]) ?_ ?_
  ·go_simp
  ·refine(clone_by _ xs W p1 (stab_by.old hub.out hC)).mono ?_
   rintro e W' ⟨u,rfl,ho,hb⟩
   exact⟨_,rfl,stab_by.mono ho hC.size,hb⟩
 simp only[Act.put,List.setIfInBounds_toArray,List.set_cons_zero,List.set_cons_succ,envAdd]
 intro x32
 refine wpAs_act rfl rfl ?_ ?_
 ·intro W hC hE
  have h32:=hE.1 rfl
  obtain⟨Y,cy,rfl,_⟩:=rBy_open h32
  clear hE hC
  have h32':=Lib.hid h32
  clear h32
  go_simp
  exact⟨⟨Y,cy,rfl,h32'.out⟩,Below.refl _ _⟩
 simp only[Act.put,List.setIfInBounds_toArray,List.set_cons_zero,List.set_cons_succ,envAdd]
 intro x33
 refine wpAs_act rfl rfl ?_ ?_
 ·intro W hC hE
  obtain⟨Y,cy,rfl,h33⟩:=hE.1 rfl
  have hsz':=hC.size
  have h33':=Lib.hid (stab_by.new h33 (Nat.le_refl _) ((Below.refl W.heap.size W).alloc (Nat.le_refl _) (.cells #[.int .i64 (k:Int),.slice Y xs.length cy] 118)))
  clear hE hC h33
  go_simp
  exact⟨⟨W.heap.size,rfl,hsz',Y,cy,heap_alloc_new _ _,h33'.out⟩,(Below.refl _ _).alloc (Nat.le_refl _) _⟩
 simp only[Act.put,List.setIfInBounds_toArray,List.set_cons_zero,List.set_cons_succ,envAdd]
 intro x34
 refine wpAs_end fun W hC hE => ?_
 obtain⟨⟨g,Y,cy,rfl,hg,hg3,hy⟩,_⟩:=hE
 have hownW:=own_below hx2.out (hbb.trans (hC.mono hbb.size))
 have hbkW:=(hC.block w4.heap.size s3).trans b1.out
 obtain⟨_,z1,z2,z3⟩:=two_cells hbkW
 obtain⟨y1,y2,_,y4⟩:=two_cells hg3
 have hBW:=hB5.trans (hC.mono hB5.size)
 have hlW:w3.heap.size≤W.heap.size:=Nat.le_trans hb4.size (by have:=b3.out;omega)
 have p2:d.2.length+1≤maxLen:=by unfold maxLen;omega
 have p3:(d.2.length+1)*32≤140737488355328:=by omega
 have hlc:=hy
 replace hbkW:=Lib.hid hbkW
 replace hg3:=Lib.hid hg3
 replace hlc:=Lib.hid hlc
 clear hy
 go_wp2_with (at_builtin;refine wpList_append_own _ rfl _ _ 24 rfl w3.heap.size 118 i0 (.agg #[.int .i64 0,.slice none 0 0]) 2 32 Tryz.underlying24 hi hz0 hz1 hz2 rfl (by decide) _ _ _ rfl hownW ⟨g,0,none⟩ 1 1 [.int .i64 (k:Int),.slice Y xs.length cy] rfl rfl ?d1 ?d2 p2 p3 hlW ?_)
 case d1=>exact World.news_of_block (cs:=#[.int .i64 (k:Int),.slice Y xs.length cy]) hg3.out
 case d2 =>
  intro u hu
  simp at hu
  rcases hu with rfl | rfl <;> rfl
 intro v' w1 hown' hgrow _
 obtain⟨A5,c5,rfl,q1,q2,q3,q4⟩:=own_any hown'
 have p8:some w4.heap.size≠(Value.slice A4 d.2.length c4).ownBlock:=by rw[hx3.out];exact fun e=>absurd (hA4.out _ e.symm).1 (Nat.lt_irrefl _)
 have zz:=(hgrow.block w4.heap.size z3 p8).trans hbkW.out
 obtain⟨y5,y6,y7,y8⟩:=two_cells zz
 obtain⟨W6,hW6,g6,gr6,gs6⟩:=put_snd (u:=.slice A5 (d.2.length+1) c5) zz
 obtain⟨y9,y10,_,_⟩:=two_cells g6
 have hrow:∀ q,(Value.slice A4 d.2.length c4).ownBlock=some q→w3.heap.size≤q:=fun q e=>(hA4.out q (by rw[← hx3.out];exact e)).2
 have hl3':w.heap.size+2≤w3.heap.size:=hl3
 have fz:=((gr6.block (w.heap.size+1) (by have:=hgrow.size;omega) (fun e=>by simp only[Option.some.injEq] at e;omega)).trans ((hgrow.block (w.heap.size+1) (by omega) (fun e=>by have:=hrow _ e.symm;omega)).trans ((hC.block (w.heap.size+1) (by have:=b3.out;omega)).trans f6.out)))
 obtain⟨y11,y12,y13,_⟩:=two_cells fz
 obtain⟨W9,hW9,g9,gr9,gs9⟩:=put_two (u:=.slice R4 d.1.length r4) (v:=.slice A5 (d.2.length+1) c5) fz
 obtain⟨k5,k6,_,_⟩:=two_cells g9
 have hB1:=hBW.grown hgrow hBW.size (fun q e=>by have:=hrow q e;omega)
 have hB6:=hB1.grown gr6 hB1.size (fun q e=>by cases e;omega)
 have hB9:=hB6.grown gr9 hB6.size (fun q e=>by cases e;omega)
 have hfin:=Lib.hid (show Dsk (New w.heap.size W9) W9 (.agg #[.slice R4 d.1.length r4,.slice A5 (d.2.length+1) c5]) (d.1,d.2++[((k:Int),xs)]) from by
  have hne1:=own_not hown' zz (by decide)
  have hown6:=hown'.kept gr6 (.inr (Ne.symm hne1))
  have hne2:=own_not hown6 fz (by decide)
  have hown9:=own_low (hown6.kept gr9 (.inr (Ne.symm hne2))) (show w.heap.size≤w3.heap.size by omega)
  have hsame:∀ b,w3.heap.size≤b→b<w4.heap.size→A4.map (·.block)≠some b→W9.heap[b]? = w4.heap[b]? := fun b h1 h2 h3=>by
   have hbW:b<W.heap.size:=by have:=b3.out;have:=hC.size;omega
   rw[gr9.block b (by have:=gs6;have:=hgrow.size;omega) (fun e=>by simp only[Option.some.injEq] at e;omega),gr6.block b (Nat.lt_of_lt_of_le hbW hgrow.size) (fun e=>by simp only[Option.some.injEq] at e;omega),
    hgrow.block b hbW (fun e=>h3 (by rw[← hx3.out];exact e.symm)),hC.block b (by have:=b3.out;omega),hbb.block b h2]
  have hst9:∀ p v,NewBut w3.heap.size A4 w4 p→w4.cell? p=some v→New w.heap.size W9 p∧W9.cell? p=some v:=fun p v hp hc=>by
   have hs:=hsame p.block hp.1.1 hp.1.2.1 hp.2
   refine⟨⟨by have:=hp.1.1;omega,?_,(World.frozen?_of_block hs).trans hp.1.2.2⟩,(World.cell?_of_block hs).trans hc⟩
   have:=hp.1.2.1
   have:=gs9
   have:=gs6
   have:=hgrow.size
   have:=hC.size
   have:=b3.out
   omega
  refine⟨_,_,rfl,stab_sl stab_by _ _ _ _ _ _ hst9 hx1.out,?_⟩
  have e1:wcells ps++[.int .i64 (k:Int),.slice Y xs.length cy]=wcells (ps++[((k:Int),.slice Y xs.length cy)]):=by rw[wcells_append];rfl
  rw[e1] at hown9
  have hpl:ps.length=d.2.length:=by have:=hx2.out.1;rw[wcells_length] at this;omega
  have hlen9:(d.2++[((k:Int),xs)]).length=d.2.length+1:=by simp
  have h9:=own_wts hown9 hlen9 fun i p x hp hx => ?_
  ·exact h9
  rcases Nat.lt_or_ge i ps.length with hi | hi
  ·rw[List.getElem?_append_left hi] at hp
   rw[List.getElem?_append_left (by omega)] at hx
   obtain⟨c1,c2,c3⟩:=hx4.out i p x hp hx
   exact⟨c1,stab_by _ _ _ _ _ _ hst9 c2,c3⟩
  ·rw[List.getElem?_append_right hi] at hp
   rw[List.getElem?_append_right (by omega)] at hx
   have hj0:i-ps.length=0:=by
    have:=(List.getElem?_eq_some_iff.1 hp).1
    simp at this
    omega
   rw[hj0] at hp
   rw[← hpl,hj0] at hx
   simp at hp hx
   subst hp
   subst hx
   refine⟨rfl,stab_by.mono (stab_by.grown (stab_by.grown (stab_by.grown hlc.out hgrow (fun q e => ?_)) gr6 (fun q e => ?_)) gr9 (fun q e => ?_)) (by have:=b3.out;omega),(show (-9223372036854775808:Int)≤(k:Int) by omega),(show (k:Int)≤9223372036854775807 by omega)⟩
   ·have:=(hA4.out q (by rw[← hx3.out];exact e)).1
    have:=b3.out
    omega
   ·simp only[Option.some.injEq] at e
    have:=b3.out
    omega
   ·simp only[Option.some.injEq] at e
    have:=b3.out
    omega)
 clear hx1 hx2 hx4
 go_wp2_with fail
 exact bodyPost_ret (v:=.tuple #[.agg #[.slice R4 d.1.length r4,.slice A5 (d.2.length+1) c5],.int .i64 0]) (by simp[results,Tryz.results91,go_sem,k5,k6]) rfl ⟨_,rfl,hfin.out,hB9⟩
end Go.Proofs.YtogieepfimpdmaaGreat
/-
 The laws' own functions of layer 3: full,alive. Conditions: those that each lemma states.
-/
namespace Go.Proofs.YtogieepfimpdmaaGreat
open Go.RowKit
theorem zero_len1:zeroD.1.length=256:=List.length_replicate
theorem zero_len2:zeroD.2.length=0:=rfl
theorem zero_at {k:Nat} (hk:k<256):zeroD.1[k]? = some (List.replicate 128 0):=by
 rw[show zeroD.1=List.replicate 256 (List.replicate 128 0) from rfl,List.getElem?_replicate,if_pos hk]
theorem may_zero:mayB zeroD=true:=by
 refine may_mk zero_len1 (by rw[zero_len2];omega) ?_ rfl
 rw[List.all_eq_true]
 intro x hx
 obtain⟨j,hj⟩:=List.getElem?_of_mem hx
 have hjl:=(List.getElem?_eq_some_iff.1 hj).1
 rw[zero_len1] at hjl
 rw[zero_at hjl] at hj
 cases hj
 exact decide_eq_true List.length_replicate
def wrD (d:Dk) (k:Nat) (xs:List UInt8):Dk:=(d.1,d.2++[((k:Int),xs)])
theorem wrD_len (d:Dk) (k:Nat) (xs:List UInt8):(wrD d k xs).2.length=d.2.length+1:=by simp[wrD]
theorem may_write {d:Dk} {k:Nat} {xs:List UInt8} (h:mayB d=true) (hk:k<256) (hl:xs.length=128) (hf:d.2.length<4096):mayB (wrD d k xs)=true:=by
 obtain⟨h1,h2,h3,h4⟩:=may_of h
 refine may_mk h1 (by rw[wrD_len];omega) ?_ ?_
 ·rw[List.all_eq_true]
  intro x hx
  obtain⟨j,hj⟩:=List.getElem?_of_mem hx
  exact decide_eq_true (h3 j x hj)
 ·rw[List.all_eq_true]
  intro x hx
  rcases List.mem_append.1 hx with hx | hx
  ·obtain⟨j,hj⟩:=List.getElem?_of_mem hx
   obtain⟨a,b,c⟩:=h4 j x hj
   exact wtB_yes a b c
  ·obtain rfl:=List.mem_singleton.1 hx
   exact wtB_yes (show (0:Int)≤(k:Int) by omega) (show (k:Int)<256 by omega) hl
theorem seenD_write {d:Dk} {k:Nat} {xs:List UInt8}:seenD (wrD d k xs) k=xs:=by
 simp[wrD,seenD,seenW]
theorem seenD_write_ne {d:Dk} {k j:Nat} {xs:List UInt8} (h:j≠k):seenD (wrD d k xs) j=seenD d j:=by
 have:¬ (k:Int)=j:=by omega
 simp[wrD,seenD,seenW,this]
theorem write_wr (v u:Value) (d:Dk) (k:Nat) (xs:List UInt8) (w:World) (h:Dsk (Old w) w v d) (hu:rBy (Old w) w [u] xs) (hm:mayB d=true) (hk:k<256) (hl:xs.length=128) (hf:d.2.length<4096) :
  Calls Tryz.prog 91 #[v,.int .i64 k,u] w fun e w'=>∃ x,e=.returned (.tuple #[x,.int .i64 0])∧Dsk (New w.heap.size w') w' x (wrD d k xs)∧Below w.heap.size w w':=write_ok v u d k xs w h hu hm hk hl hf
end Go.Proofs.YtogieepfimpdmaaGreat
/-
 Package dev: Read,Write,Barrier,Crash at whatever arguments;a disk in its box. Conditions: those that each lemma states.
-/
namespace Go.Proofs.YtogieepfimpdmaaGreat
open Go.RowKit
def emptyD:Dk:=([],[])
theorem rBy_nil (w:World):rBy (Old w) w [.slice none 0 0] []:=⟨none,0,rfl,by simp,by omega,fun i x h=>by simp at h⟩
def wrR (d:Dk) (n:Int) (xs:List UInt8):Dk:=if wErr d n xs=0 then wrD d n.toNat xs else emptyD
theorem write_fine {d:Dk} {n:Int} {xs:List UInt8} (h:wErr d n xs=0) (_:mayB d=true∨True):mayB d=true∧thereB n=true∧xs.length=128∧d.2.length<4096:=by
 unfold wErr at h
 cases h1:mayB d with
 | false=>rw[h1] at h;simp at h
 | true =>
  obtain⟨_,h2,_⟩:=may_of h1
  rw[h1] at h
  cases ht:thereB n with
  | false=>rw[ht] at h;simp at h
  | true =>
   rw[ht] at h
   by_cases h8:xs.length=128
   ·by_cases h9:d.2.length=4096
    ·simp[h8,h9] at h
    ·exact⟨rfl,rfl,h8,by omega⟩
   ·simp[h8] at h
theorem Dsk.grown {w w':World} {lo:Nat} {v:Value} {d:Dk} {row:Option Nat} (h:Dsk (New lo w) w v d) (hg:w.grownBy w' row) (hr:∀ q,row=some q→q<lo):Dsk (New lo w') w' v d:=by
 obtain⟨a,b,e,h1,h2⟩:=h
 exact⟨a,b,e,(stab_sl stab_by).grown h1 hg hr,(stab_sl stab_wt).grown h2 hg hr⟩
theorem dsk_empty_new (lo:Nat) (w:World):Dsk (New lo w) w (.agg #[.slice none 0 0,.slice none 0 0]) emptyD :=
 ⟨_,_,rfl,⟨none,0,rfl,by simp[emptyD],by omega,fun i x h=>by simp[emptyD] at h⟩,⟨none,0,rfl,by simp[emptyD],by omega,fun i x h=>by simp[emptyD] at h⟩⟩
theorem write_new (v u:Value) (d:Dk) (n:Int) (xs:List UInt8) (w:World) (h:Dsk (Old w) w v d) (hu:rBy (Old w) w [u] xs) :
  Calls Tryz.prog 91 #[v,.int .i64 n,u] w fun e w'=>∃ A c B f,e=.returned (.tuple #[.agg #[.slice A (wrR d n xs).1.length c,.slice B (wrR d n xs).2.length f],.int .i64 (wErr d n xs)])∧Dsk (New w.heap.size w') w' (.agg #[.slice A (wrR d n xs).1.length c,.slice B (wrR d n xs).2.length f]) (wrR d n xs)∧Below w.heap.size w w':=by
 by_cases he:wErr d n xs=0
 ·obtain⟨hm,ht,h8,h9⟩:=write_fine he (.inr trivial)
  obtain⟨k,rfl,hk⟩:=thereB_nat ht
  refine(write_wr v u d k xs w h hu hm hk h8 h9).mono ?_
  rintro e w' ⟨x,rfl,hx,hb⟩
  have e1:wrR d (k:Int) xs=wrD d k xs:=by simp[wrR,he]
  obtain⟨A,c,B,f,rfl,_⟩:=id hx.open
  rw[e1,he]
  exact⟨A,c,B,f,rfl,hx,hb⟩
 ·refine(write_bad v u d n xs w h hu he).mono ?_
  rintro e w' ⟨rfl,hb⟩
  have e1:wrR d n xs=emptyD:=by simp[wrR,he]
  rw[e1]
  exact⟨none,0,none,0,rfl,dsk_empty_new _ _,hb⟩
theorem wrR_nat {d:Dk} {k:Nat} {xs:List UInt8} (h:wErr d (k:Int) xs=0):wrR d (k:Int) xs=wrD d k xs:=by simp[wrR,h]
end Go.Proofs.YtogieepfimpdmaaGreat
/-
 append of whatever lies there,as an equation (app_any);the document's answers of layer 3: With. Conditions: those that each lemma states.
-/
namespace Go.Proofs.YtogieepfimpdmaaGreat
open Go.RowKit
theorem app_any {P:Program} {w:World} (base:Nat) (t ty e:TypeId) (i:TypeInfo) (z:Value) (size bytes:Nat) (ht:P.underlying t=some (.slice e)) (hi:P.info? e=some i) (hz:i.zero=some z)
  (hsize:i.size=size) (hby:i.bytes=bytes) (hzs:z.cells.size=size) (hsz:0<size)
  (v:Value) (n:Nat) (xs:List Value) (hown:w.ownsRow base e size v n xs)
  (A:Option Addr) (m c:Nat) (news:List Value) (hl:news.length=m*size) (hnews:∀ j u,news[j]? = some u→∃ ad,A=some ad∧w.cell? (ad.add j)=some u) (h1:∀ u∈news,u.oneCell'=true)
  (h63:n+m≤maxLen) (hbytes:(n+m)*bytes≤140737488355328) (hbase:base≤w.heap.size) :
  ∃ v' w',(Builtin.append_ #[t,t] ty #[v,.slice A m c]).run P w=.ok v' w'∧w'.ownsRow base e size v' (n+m) (xs++news)∧w.grownBy w' v.ownBlock∧Below base w w':=by
 rcases A with _ | ad
 ·have hx:news=[]:=by
   cases news with
   | nil=>rfl
   | cons a r =>
    obtain⟨_,e,_⟩:=hnews 0 a rfl
    cases e
  subst hx
  obtain rfl:m=0:=by
   rcases Nat.eq_zero_or_pos m with h | h
   ·exact h
   ·have:=Nat.mul_pos h hsz
    simp at hl
    omega
  refine⟨v,w,?_,by simpa using hown,grow_refl _ _,Below.refl _ _⟩
  rcases hown.2 with ⟨rfl,rfl⟩ | ⟨g,cap,cur,rfl,_,_,hnc,_⟩
  ·simp[Builtin.append_,run_underlying ht,sizeOf,typeInfo,hi,Builtin.lenOf,Builtin.firstCells]
  ·simp[Builtin.append_,run_underlying ht,sizeOf,typeInfo,hi,Builtin.lenOf,Builtin.firstCells,hnc,storeCells]
 ·obtain⟨v',w',hr,h2,h3,_,_⟩:=run_append_own_at (P:=P) w base t ty e i z size bytes ht hi hz hsize hby hzs hsz v n xs hown ad m c news hl (fun j u hj=>by
   obtain⟨_,e,h⟩:=hnews j u hj
   cases e
   exact h) h1 h63 hbytes hbase
  exact⟨v',w',hr,h2,h3,(Below.refl base w).grown h3 hbase (fun k hk=>(hown.lt k hk).1)⟩
end Go.Proofs.YtogieepfimpdmaaGreat
/-
 The document's answers of layer 3: Seen,Read. Conditions: those that each lemma states.
-/
namespace Go.Proofs.YtogieepfimpdmaaGreat
open Go.RowKit
def rdX (d:Dk) (n:Int):List UInt8:=if chkAt d n=0 then seenD d n.toNat else []
end Go.Proofs.YtogieepfimpdmaaGreat
/-
 Rows of the call's own to which elements are pushed,one by one: elements may hold memory that the call made,none of it in the row. Conditions: those that each lemma states.
-/
namespace Go.Proofs.YtogieepfimpdmaaGreat
open Go.RowKit
theorem app_own {P:Program} {w:World} (base:Nat) (t ty e:TypeId) (i:TypeInfo) (z:Value) (size bytes:Nat) (ht:P.underlying t=some (.slice e)) (hi:P.info? e=some i) (hz:i.zero=some z)
  (hsize:i.size=size) (hby:i.bytes=bytes) (hzs:z.cells.size=size) (hsz:0<size)
  (v:Value) (n:Nat) (xs:List Value) (hown:w.ownsRow base e size v n xs)
  (ad:Addr) (m c:Nat) (news:List Value) (hl:news.length=m*size) (hnews:∀ j u,news[j]? = some u→w.cell? (ad.add j)=some u) (h1:∀ u∈news,u.oneCell'=true)
  (h63:n+m≤maxLen) (hbytes:(n+m)*bytes≤140737488355328) (hbase:base≤w.heap.size) :
  ∃ v' w',(Builtin.append_ #[t,t] ty #[v,.slice (some ad) m c]).run P w=.ok v' w'∧w'.ownsRow base e size v' (n+m) (xs++news)∧w.grownBy w' v.ownBlock∧Below base w w'∧(v'.ownBlock=v.ownBlock∨v'.ownBlock=some w.heap.size):=by
 obtain⟨v',w',hr,h2,h3,_,h5⟩:=run_append_own_at (P:=P) w base t ty e i z size bytes ht hi hz hsize hby hzs hsz v n xs hown ad m c news hl hnews h1 h63 hbytes hbase
 exact⟨v',w',hr,h2,h3,(Below.refl base w).grown h3 hbase (fun k hk=>(hown.lt k hk).1),h5⟩
theorem NewBut.below {lo:Nat} {A:Option Addr} {w w':World} {p:Addr} {v:Value} (hb:Below w.heap.size w w') (hp:NewBut lo A w p) (hc:w.cell? p=some v):NewBut lo A w' p∧w'.cell? p=some v :=
 ⟨⟨⟨hp.1.1,Nat.lt_of_lt_of_le hp.1.2.1 hb.size,(hb.frozen hp.1.2.1).trans hp.1.2.2⟩,hp.2⟩,(hb.cell hp.1.2.1).trans hc⟩
theorem NewBut.grown {lo:Nat} {A:Option Addr} {w w':World} {p:Addr} {v:Value} {row:Option Nat} (hg:w.grownBy w' row) (hr:∀ q,row=some q→q<lo) (hp:NewBut lo A w p) (hc:w.cell? p=some v):NewBut lo A w' p∧w'.cell? p=some v:=by
 have hb:=hg.block p.block hp.1.2.1 (fun e=>by have:=hr _ e.symm;have:=hp.1.1;omega)
 exact⟨⟨⟨hp.1.1,Nat.lt_of_lt_of_le hp.1.2.1 hg.size,(World.frozen?_of_block hb).trans hp.1.2.2⟩,hp.2⟩,(World.cell?_of_block hb).trans hc⟩
def RowOf {α:Type} (R:Rel α) (size:Nat) (t:TypeId) (lo:Nat) (w:World) (A:Option Addr) (c:Nat) (xs:List α):Prop :=
 ∃ cs,w.ownsRow lo t size (.slice A xs.length c) xs.length cs∧∀ i x,xs[i]? = some x→∃ vs,vs.length=size∧(∀ j u,vs[j]? = some u→cs[i*size+j]? = some u)∧R (NewBut lo A w) w vs x
section
variable {α : Type} {R : Rel α} {size : Nat} {t : TypeId} {lo : Nat} {w w' : World} {A : Option Addr} {c : Nat} {xs : List α}
theorem RowOf.nil (R:Rel α) (size:Nat) (t:TypeId) (lo:Nat) (w:World):RowOf R size t lo w none 0 []:=⟨[],World.ownsRow_nil _ _ _ _,fun i x h=>by simp at h⟩
theorem RowOf.below (hR:Stab R) (h:RowOf R size t lo w A c xs) (hb:Below w.heap.size w w'):RowOf R size t lo w' A c xs:=by
 obtain⟨cs,h1,h2⟩:=h
 refine⟨cs,own_below h1 hb,fun i x hi => ?_⟩
 obtain⟨vs,e1,e2,e3⟩:=h2 i x hi
 exact⟨vs,e1,e2,hR _ _ _ _ _ _ (fun p v hp hc=>NewBut.below hb hp hc) e3⟩
theorem RowOf.grown (hR:Stab R) (h:RowOf R size t lo w A c xs) {row:Option Nat} (hg:w.grownBy w' row) (hr:∀ q,row=some q→q<lo):RowOf R size t lo w' A c xs:=by
 obtain⟨cs,h1,h2⟩:=h
 have hk:(Value.slice A xs.length c).ownBlock=none∨(Value.slice A xs.length c).ownBlock≠row:=by
  rcases row with _ | q
  ·by_cases e:(Value.slice A xs.length c).ownBlock=none
   ·exact .inl e
   ·exact .inr e
  ·refine .inr fun e => ?_
   have:=(h1.lt q e).1
   have:=hr q rfl
   omega
 have h1':w'.ownsRow lo t size (.slice A xs.length c) xs.length cs:=h1.kept hg hk
 refine⟨cs,h1',fun i x hi => ?_⟩
 obtain⟨vs,e1,e2,e3⟩:=h2 i x hi
 exact⟨vs,e1,e2,hR _ _ _ _ _ _ (fun p v hp hc=>NewBut.grown hg hr hp hc) e3⟩
theorem RowOf.low (hR:Stab R) (h:RowOf R size t lo w A c xs) {lo':Nat} (hl:lo'≤lo):RowOf R size t lo' w A c xs:=by
 obtain⟨cs,h1,h2⟩:=h
 refine⟨cs,own_low h1 hl,fun i x hi => ?_⟩
 obtain⟨vs,e1,e2,e3⟩:=h2 i x hi
 exact⟨vs,e1,e2,hR _ _ _ _ _ _ (fun p v hp hc=>⟨⟨⟨Nat.le_trans hl hp.1.1,hp.1.2⟩,hp.2⟩,hc⟩) e3⟩
theorem RowOf.rel (hR:Stab R) (h:RowOf R size t lo w A c xs):rSl size R (New lo w) w [.slice A xs.length c] xs:=by
 obtain⟨cs,h1,h2⟩:=h
 refine own_sl h1 rfl fun i x hi => ?_
 obtain⟨vs,e1,e2,e3⟩:=h2 i x hi
 exact⟨vs,e1,e2,hR _ _ _ _ _ _ (fun p v hp hc=>⟨hp.1,hc⟩) e3⟩
theorem RowOf.form (h:RowOf R size t lo w A c xs):xs.length≤c∧c≤9223372036854775807∧(Value.slice A xs.length c).ownBlock=A.map (·.block)∧(0<xs.length→∃ ad,A=some ad):=by
 obtain⟨cs,h1,_⟩:=h
 obtain⟨A',c',e,h2,h3,h4,h5⟩:=own_any h1
 cases e
 exact⟨h2,h3,h4,h5⟩
theorem RowOf.push {P:Program} (hR:Stab R) (h:RowOf R size t lo w A c xs) (st ty:TypeId) (i:TypeInfo) (z:Value) (bytes:Nat) (ht:P.underlying st=some (.slice t)) (hi:P.info? t=some i) (hz:i.zero=some z)
  (hsize:i.size=size) (hby:i.bytes=bytes) (hzs:z.cells.size=size) (hsz:0<size) (ad:Addr) (m:Nat) (news:List Value) (x:α) (hl:news.length=size) (hnews:∀ j u,news[j]? = some u→w.cell? (ad.add j)=some u) (h1:∀ u∈news,u.oneCell'=true)
  (h63:xs.length+1≤maxLen) (hbytes:(xs.length+1)*bytes≤140737488355328) (hbase:lo≤w.heap.size) (hx:R (NewBut lo A w) w news x) :
  ∃ A' c' w',(Builtin.append_ #[st,st] ty #[.slice A xs.length c,.slice (some ad) 1 m]).run P w=.ok (.slice A' (xs.length+1) c') w'∧RowOf R size t lo w' A' c' (xs++[x])∧w.grownBy w' (A.map (·.block))∧Below lo w w':=by
 obtain⟨cs,ho,hcs⟩:=h
 obtain⟨A1,c1,e,_,_,e4,_⟩:=own_any ho
 cases e
 obtain⟨v',w',hr,o1,g1,b1,k1⟩:=app_own (P:=P) (w:=w) lo st ty t i z size bytes ht hi hz hsize hby hzs hsz _ _ cs ho ad 1 m news (by omega) hnews h1 h63 hbytes hbase
 obtain⟨A2,c2,rfl,_,_,e5,_⟩:=own_any o1
 rw[e4] at g1 k1
 rw[e5] at k1
 have mp:∀ p v,NewBut lo A w p→w.cell? p=some v→NewBut lo A2 w' p∧w'.cell? p=some v:=fun p v hp hc=>by
  have hb:=g1.block p.block hp.1.2.1 (fun e=>hp.2 e.symm)
  refine⟨⟨⟨hp.1.1,Nat.lt_of_lt_of_le hp.1.2.1 g1.size,(World.frozen?_of_block hb).trans hp.1.2.2⟩,fun e => ?_⟩,(World.cell?_of_block hb).trans hc⟩
  rcases k1 with k | k
  ·exact hp.2 (k ▸ e)
  ·rw[k] at e
   simp only[Option.some.injEq] at e
   have:=hp.1.2.1
   omega
 refine⟨A2,c2,w',hr,⟨cs++news,by rw[List.length_append];exact o1,fun j y hj => ?_⟩,g1,b1⟩
 have hcl:cs.length=xs.length*size:=ho.1
 rcases Nat.lt_or_ge j xs.length with hjl | hjl
 ·rw[List.getElem?_append_left hjl] at hj
  obtain⟨vs,e1,e2,e3⟩:=hcs j y hj
  refine⟨vs,e1,fun k u hk => ?_,hR _ _ _ _ _ _ mp e3⟩
  have hcu:=e2 k u hk
  rw[List.getElem?_append_left (List.getElem?_eq_some_iff.1 hcu).1]
  exact hcu
 ·rw[List.getElem?_append_right hjl] at hj
  have hj0:j=xs.length:=by
   have:=(List.getElem?_eq_some_iff.1 hj).1
   simp at this
   omega
  subst hj0
  simp at hj
  subst hj
  refine⟨news,hl,fun k u hk => ?_,hR _ _ _ _ _ _ mp hx⟩
  rw[List.getElem?_append_right (by omega),hcl,Nat.add_sub_cancel_left]
  exact hk
end
theorem grow_later {a b c:World} {row:Option Nat} (h:a.grownBy b row) (h':Below a.heap.size b c):a.grownBy c row :=
 ⟨h'.os.trans h.os,h'.tape.trans h.tape,h'.output.trans h.output,Nat.le_trans h.size h'.size,fun k hk hn=>(h'.block k hk).trans (h.block k hk hn)⟩
end Go.Proofs.YtogieepfimpdmaaGreat
/-
 The document's answers of layer 3: Twin. Conditions: those that each lemma states.
-/
namespace Go.Proofs.YtogieepfimpdmaaGreat
open Go.RowKit
theorem RowOf.but {α:Type} {R:Rel α} {size:Nat} {t:TypeId} {lo lo':Nat} {w w':World} {A:Option Addr} {c:Nat} {xs:List α} (h:RowOf R size t lo w A c xs) {p:Addr} (hl:w.heap.size≤lo') (h2:lo≤lo') (hp:New lo' w' p):NewBut lo A w' p :=
 ⟨⟨Nat.le_trans h2 hp.1,hp.2⟩,fun e=>by
  obtain⟨cs,hcs,_⟩:=h
  obtain⟨_,_,e0,_,_,e4,_⟩:=own_any hcs
  cases e0
  have:=(hcs.lt _ (by rw[e4];exact e)).2
  have:=hp.1
  omega⟩
end Go.Proofs.YtogieepfimpdmaaGreat
/-
 Package dev at whatever arguments,its answers in new memory;a bag of facts that stay where memory grows. Conditions: those that each lemma states.
-/
namespace Go.Proofs.YtogieepfimpdmaaGreat
open Go.RowKit
theorem rBy_none_new (lo:Nat) (w:World):rBy (New lo w) w [.slice none 0 0] []:=⟨none,0,rfl,by simp,by omega,fun i x h=>by simp at h⟩
theorem read_all (v:Value) (d:Dk) (n:Int) (w:World) (h:Dsk (Old w) w v d) :
  Calls Tryz.prog 31 #[v,.int .i64 n] w fun e w'=>∃ u,e=.returned (.tuple #[u,.int .i64 (chkAt d n)])∧rBy (New w.heap.size w') w' [u] (rdX d n)∧Below w.heap.size w w':=by
 by_cases hn:mayB d=true∧thereB n=true
 ·obtain⟨hm,ht⟩:=hn
  have e0:chkAt d n=0:=by simp[chkAt,hm,ht]
  obtain⟨k,rfl,hk⟩:=thereB_nat ht
  refine(read_ok v d k w h hm hk).mono ?_
  rintro e w' ⟨u,rfl,hu,hb⟩
  have e1:rdX d (k:Int)=seenD d k:=by simp[rdX,e0]
  rw[e0,e1]
  exact⟨u,rfl,hu,hb⟩
 ·refine(read_bad v d n w h hn).mono ?_
  rintro e w' ⟨rfl,hb⟩
  have e0:chkAt d n≠0:=by
   unfold chkAt
   cases h1:mayB d <;> cases h2:thereB n <;> simp_all
  have e1:rdX d n=[]:=by simp[rdX,e0]
  rw[e1]
  exact⟨_,rfl,rBy_none_new _ _,hb⟩
def Lasts (F:World→Prop):Prop:=∀ w w',F w→Below w.heap.size w w'→F w'
def Bag (w:World) (Fs:List (World→Prop)):Prop:=∀ F∈Fs,F w∧Lasts F
section
variable {w w' : World} {Fs : List (World → Prop)} {F : World → Prop}
theorem Bag.nil (w:World):Bag w []:=fun F h=>by cases h
theorem Bag.below (h:Bag w Fs) (hb:Below w.heap.size w w'):Bag w' Fs:=fun F hF=>⟨(h F hF).2 w w' (h F hF).1 hb,(h F hF).2⟩
theorem Bag.add (h:Bag w Fs) (hF:F w) (hk:Lasts F):Bag w (F::Fs):=fun G hG=>by
 rcases List.mem_cons.1 hG with h1 | h1
 ·rw[h1]
  exact⟨hF,hk⟩
 ·exact h G h1
theorem Bag.at (h:Bag w Fs) (i:Nat) (hi:Fs[i]? = some F):F w:=(h F (List.mem_of_getElem? hi)).1
end
def Box2 (g:Nat) (a b:Value):World→Prop:=fun w=>w.cell? ⟨g,0,none⟩=some a∧w.cell? ⟨g,1,none⟩=some b∧g<w.heap.size
theorem lasts_box (g:Nat) (a b:Value):Lasts (Box2 g a b):=fun _ _ h hb=>⟨(hb.cell (p:=⟨g,0,none⟩) h.2.2).trans h.1,(hb.cell (p:=⟨g,1,none⟩) h.2.2).trans h.2.1,Nat.lt_of_lt_of_le h.2.2 hb.size⟩
end Go.Proofs.YtogieepfimpdmaaGreat
/-
 Package code: GetTwo and GetFour. Conditions: those that each lemma states.
-/
namespace Go.Proofs.YtogieepfimpdmaaGreat
open Go.RowKit
theorem gather_ok (A:Option Addr) (len cap m k:Nat) (xs:List UInt8) (hlen:xs.length=len) (hm0:0<m) (hm:m≤4) (hle:k+m≤len) (hlc:len≤cap) (hcap:cap≤9223372036854775807) (w:World) (hx:Byt w w.heap.size A xs) :
  Calls Tryz.prog 100 #[.slice A len cap,.int .i64 k,.int .i64 m] w fun e W'=>e=.returned (.tuple #[.int .u32 (num ((xs.drop k).take m)),.int .i64 0])∧Below w.heap.size w W':=by
 subst hlen
 obtain⟨ad,rfl,hp⟩:=hx.part hle hm0
 have hl:((xs.drop k).take m).length=m:=by simp;omega
 obtain⟨ad',e,hb,hc⟩:=hp (by omega)
 cases e
 exact callsIn_wide.1 (gather_in Fence.wide 3 trivial trivial trivial rfl (Nat.le_refl _) ad xs.length cap m k _ hl hm0 hm hle hlc hcap w (by rw[add_block] at hb;exact hb) hc)
theorem gather_no (A:Option Addr) (len cap:Nat) (k:Int) (m:Nat) (hm:m≤4) (hl:len≤9223372036854775807) (h:k<0∨(len:Int)-m<k) (w:World) :
  Calls Tryz.prog 100 #[.slice A len cap,.int .i64 k,.int .i64 m] w fun e W'=>e=.returned (.tuple #[.int .u32 0,.int .i64 8])∧w=W':=by
 by_cases h':k<0
 ·go_enter Tryz.func100,Tryz.ntmps100
  go_wp2
  go_ret2
  exact⟨rfl,rfl⟩
 ·have h2:(len:Int)-m<k:=by omega
  go_enter Tryz.func100,Tryz.ntmps100
  go_wp2
  go_ret2
  exact⟨rfl,rfl⟩
theorem getTwo_ok (A:Option Addr) (len cap k:Nat) (xs:List UInt8) (hlen:Hid (xs.length=len)) (hle:k+2≤len) (hlc:len≤cap) (hcap:cap≤9223372036854775807) (w:World) (hx:Byt w w.heap.size A xs) :
  Calls Tryz.prog 119 #[.slice A len cap,.int .i64 k] w fun e W'=>e=.returned (.tuple #[.int .i64 (num ((xs.drop k).take 2)),.int .i64 0])∧Below w.heap.size w W':=by
 have h0:=num_nonneg ((xs.drop k).take 2)
 have h1:=num_lt ((xs.drop k).take 2)
 have hl:((xs.drop k).take 2).length=2:=by have:=hlen.out;simp;omega
 rw[hl] at h1
 simp at h1
 clear hl
 go_enter Tryz.func119,Tryz.ntmps119
 go_wp2_with fail
 refine(gather_ok A len cap 2 k xs hlen.out (by omega) (by omega) hle hlc hcap _ hx).mono ?_
 rintro e w1 ⟨rfl,hb⟩
 go_wp2
 go_ret2
 exact⟨rfl,hb⟩
theorem getTwo_no (A:Option Addr) (len cap:Nat) (k:Int) (hl:len≤9223372036854775807) (h:k<0∨(len:Int)-2<k) (w:World) :
  Calls Tryz.prog 119 #[.slice A len cap,.int .i64 k] w fun e W'=>e=.returned (.tuple #[.int .i64 0,.int .i64 8])∧w=W':=by
 go_enter Tryz.func119,Tryz.ntmps119
 go_wp2_with fail
 refine(gather_no A len cap k 2 (by omega) hl h _).mono ?_
 rintro e w1 ⟨rfl,rfl⟩
 go_wp2
 go_ret2
 exact⟨rfl,rfl⟩
theorem getFour_ok (A:Option Addr) (len cap k:Nat) (xs:List UInt8) (hlen:Hid (xs.length=len)) (hle:k+4≤len) (hlc:len≤cap) (hcap:cap≤9223372036854775807) (w:World) (hx:Byt w w.heap.size A xs) :
  Calls Tryz.prog 79 #[.slice A len cap,.int .i64 k] w fun e W'=>e=.returned (.tuple #[.int .u32 (num ((xs.drop k).take 4)),.int .i64 0])∧Below w.heap.size w W':=by
 go_enter Tryz.func79,Tryz.ntmps79
 go_wp2_with fail
 refine(gather_ok A len cap 4 k xs hlen.out (by omega) (by omega) hle hlc hcap _ hx).mono ?_
 rintro e w1 ⟨rfl,hb⟩
 go_wp2
 go_ret2
 exact⟨rfl,hb⟩
theorem getFour_no (A:Option Addr) (len cap:Nat) (k:Int) (hl:len≤9223372036854775807) (h:k<0∨(len:Int)-4<k) (w:World) :
  Calls Tryz.prog 79 #[.slice A len cap,.int .i64 k] w fun e W'=>e=.returned (.tuple #[.int .u32 0,.int .i64 8])∧w=W':=by
 go_enter Tryz.func79,Tryz.ntmps79
 go_wp2_with fail
 refine(gather_no A len cap k 4 (by omega) hl h _).mono ?_
 rintro e w1 ⟨rfl,rfl⟩
 go_wp2
 go_ret2
 exact⟨rfl,rfl⟩
def tb (n:Int):List UInt8:=if 0≤n∧n<65536 then le 2 n else []
def ge (m:Nat) (len:Nat) (k:Int):Int:=if 0≤k∧k+m≤len then 0 else 8
def gv (m:Nat) (xs:List UInt8) (k:Int):Int:=if 0≤k∧k+m≤xs.length then num ((xs.drop k.toNat).take m) else 0
theorem ge_yes {m len:Nat} {k:Int} (h:0≤k∧k+m≤len):ge m len k=0:=if_pos h
theorem ge_no {m len:Nat} {k:Int} (h:¬ (0≤k∧k+m≤len)):ge m len k=8:=if_neg h
theorem gv_yes {m:Nat} {xs:List UInt8} {k:Int} (h:0≤k∧k+m≤xs.length):gv m xs k=num ((xs.drop k.toNat).take m):=if_pos h
theorem gv_no {m:Nat} {xs:List UInt8} {k:Int} (h:¬ (0≤k∧k+m≤xs.length)):gv m xs k=0:=if_neg h
theorem gv_bounds (m:Nat) (xs:List UInt8) (k:Int):0≤gv m xs k∧gv m xs k<(256:Int) ^ m:=by
 by_cases h:0≤k∧k+m≤xs.length
 ·rw[gv_yes h]
  have hl:((xs.drop k.toNat).take m).length=m:=by simp;omega
  have h1:=num_lt ((xs.drop k.toNat).take m)
  rw[hl] at h1
  exact⟨num_nonneg _,h1⟩
 ·rw[gv_no h]
  exact⟨by omega,Int.pow_pos (by omega)⟩
theorem getTwo_any (A:Option Addr) (len cap:Nat) (k:Int) (xs:List UInt8) (hlen:Hid (xs.length=len)) (hlc:len≤cap) (hcap:cap≤9223372036854775807) (w:World) (hx:Byt w w.heap.size A xs) :
  Calls Tryz.prog 119 #[.slice A len cap,.int .i64 k] w fun e W'=>e=.returned (.tuple #[.int .i64 (gv 2 xs k),.int .i64 (ge 2 len k)])∧Below w.heap.size w W':=by
 obtain rfl:=hlen.out
 by_cases h:0≤k∧k+(2:Nat)≤xs.length
 ·rw[ge_yes h,gv_yes h]
  obtain⟨n,rfl⟩:=Int.eq_ofNat_of_zero_le h.1
  rw[Int.toNat_natCast]
  exact getTwo_ok A _ cap n xs hlen (by omega) hlc hcap w hx
 ·rw[ge_no h,gv_no h]
  exact(getTwo_no A xs.length cap k (by omega) (by omega) w).mono fun e w' ⟨he,hw⟩=>⟨he,hw ▸ Below.refl _ _⟩
theorem getFour_any (A:Option Addr) (len cap:Nat) (k:Int) (xs:List UInt8) (hlen:Hid (xs.length=len)) (hlc:len≤cap) (hcap:cap≤9223372036854775807) (w:World) (hx:Byt w w.heap.size A xs) :
  Calls Tryz.prog 79 #[.slice A len cap,.int .i64 k] w fun e W'=>e=.returned (.tuple #[.int .u32 (gv 4 xs k),.int .i64 (ge 4 len k)])∧Below w.heap.size w W':=by
 obtain rfl:=hlen.out
 by_cases h:0≤k∧k+(4:Nat)≤xs.length
 ·rw[ge_yes h,gv_yes h]
  obtain⟨n,rfl⟩:=Int.eq_ofNat_of_zero_le h.1
  rw[Int.toNat_natCast]
  exact getFour_ok A _ cap n xs hlen (by omega) hlc hcap w hx
 ·rw[ge_no h,gv_no h]
  exact(getFour_no A xs.length cap k (by omega) (by omega) w).mono fun e w' ⟨he,hw⟩=>⟨he,hw ▸ Below.refl _ _⟩
end Go.Proofs.YtogieepfimpdmaaGreat
/-
 Package sum: Seal,Open. Conditions: those that each lemma states.
-/
namespace Go.Proofs.YtogieepfimpdmaaGreat
open Go.RowKit
def padN (xs:List UInt8):List UInt8:=xs++zeros (124-xs.length)
def sealN (xs:List UInt8):List UInt8:=le 4 (crc (padN xs):Nat)++padN xs
theorem padN_length {xs:List UInt8} (h:xs.length≤124):(padN xs).length=124:=by simp[padN,zeros];omega
theorem sealN_length {xs:List UInt8} (h:xs.length≤124):(sealN xs).length=128:=by simp[sealN,le_length,padN_length h]
theorem splice_pad {xs:List UInt8} (h:xs.length≤124):splice (zeros 128) 4 xs=zeros 4++padN xs:=by
 simp only[splice,zeros,padN,List.take_replicate,List.drop_replicate]
 rw[show min 4 128=4 from rfl,show 128-(4+xs.length)=124-xs.length by omega]
theorem splice_seal (ys zs:List UInt8) (h:ys.length=4):splice (zeros 4++zs) 0 ys=ys++zs:=by
 simp only[splice,List.take_zero,List.nil_append,Nat.zero_add,h]
 rw[List.drop_left' (by simp[zeros])]
set_option maxRecDepth 100000 in
theorem seal_no (A:Option Addr) (len cap:Nat) (hl:124<len) (w:World) :
  Calls Tryz.prog 89 #[.slice A len cap] w fun e w'=>e=.returned (.tuple #[.slice none 0 0,.int .i64 3])∧w=w':=by
 go_enter Tryz.func89,Tryz.ntmps89
 go_wp2
 go_ret2
 exact⟨rfl,rfl⟩
set_option maxRecDepth 100000 in
theorem seal_ok (A:Option Addr) (len cap:Nat) (xs:List UInt8) (hlen:Hid (xs.length=len)) (hl:len≤124) (_:len≤cap) (_:cap≤9223372036854775807) (w:World) (hx:Byt w w.heap.size A xs) :
  Calls Tryz.prog 89 #[.slice A len cap] w fun e w'=>e=.returned (.tuple #[.slice (some ⟨w.heap.size,0,none⟩) 128 128,.int .i64 0])∧Row w' w.heap.size (sealN xs)∧Below w.heap.size w w':=by
 have hmk:(Instr.makeSlice 27 (.int .i64 128) (.int .i64 128)).run Tryz.prog w=.ok (.slice (some ⟨w.heap.size,0,none⟩) 128 128) (w.alloc (.cells (rowA (zeros 128)) 5)):=make_bytes 128 (by omega) w
 have hB1:=balloc (Below.refl w.heap.size w) (.cells (rowA (zeros 128)) 5)
 obtain⟨w2,hc2,hR2,hB2⟩:=copy_byt 3 (off:=4) (dLen:=124) (dCap:=124) (sLen:=len) (sCap:=cap) (Row.new w (zeros 128)) (hx.below hB1) hlen.out (by simp[zeros];omega)
 rw[Nat.min_eq_left hl,List.take_of_length_le (by rw[hlen.out];omega),splice_pad (by rw[hlen.out];omega)] at hR2
 rw[Nat.min_eq_left hl] at hc2
 have hp:=hR2.tail 4 (by simp[zeros])
 rw[List.drop_left' (by simp[zeros])] at hp
 have hB:=hB1.trans hB2
 have hpl:Hid ((padN xs).length=124):=Lib.hid (padN_length (by rw[hlen.out];omega))
 have HR2:=Lib.hid hR2
 clear hR2 hx hB1 hB2
 go_enter Tryz.func89,Tryz.ntmps89
 go_wp2_with fail
 refine(of_any _ _ 124 _ hpl (by omega) (by omega) _ hp).mono ?_
 rintro e w3 ⟨rfl,hb3⟩
 go_wp2_with fail
 refine(four_any _ (by omega) (by have:=crc_lt (padN xs);omega) _).mono ?_
 rintro e w4 ⟨F,rfl,hf,hb4⟩
 have hb24:=bstep hb3 hb4
 obtain⟨w5,hc5,hR5,hB5⟩:=copy_byt 3 (off:=0) (dLen:=128) (dCap:=128) (sLen:=4) (sCap:=4) (HR2.out.after hb24) hf (le_length 4 _) (by simp[zeros])
 rw[show min 4 128=4 from rfl] at hc5 hR5
 rw[List.take_of_length_le (by rw[le_length];omega),splice_seal _ _ (le_length 4 _)] at hR5
 have hBe:=(hB.trans (hb24.mono hB.size)).trans hB5
 have HR5:Hid (Row w5 w.heap.size (sealN xs)):=Lib.hid hR5
 clear hR5 HR2 hp hb3 hb4 hb24 hB hB5 hf hmk hc2
 go_wp2_with fail
 go_ret2
 exact⟨rfl,HR5.out,hBe⟩
set_option maxRecDepth 100000 in
theorem open_no (A:Option Addr) (len cap:Nat) (hl:len≠128) (w:World) :
  Calls Tryz.prog 54 #[.slice A len cap] w fun e w'=>e=.returned (.tuple #[.slice none 0 0,.int .i64 3])∧w=w':=by
 go_enter Tryz.func54,Tryz.ntmps54
 go_wp2
 go_ret2
 exact⟨rfl,rfl⟩
def fits (xs:List UInt8):Prop:=num (xs.take 4)=(crc (xs.drop 4):Nat)
set_option maxRecDepth 100000 in
theorem open_bad (ad:Addr) (cap:Nat) (xs:List UInt8) (hlen:Hid (xs.length=128)) (hlc:128≤cap) (hcap:cap≤9223372036854775807) (w:World) (hx:Byt w w.heap.size (some ad) xs) (hn:¬ fits xs) :
  Calls Tryz.prog 54 #[.slice (some ad) 128 cap] w fun e w'=>e=.returned (.tuple #[.slice none 0 0,.int .i64 8])∧Below w.heap.size w w':=by
 have hp:Byt w w.heap.size (some (ad.add 4)) (xs.drop 4):=by
  obtain⟨ad',e,hp⟩:=hx.part (k:=4) (n:=124) (by rw[hlen.out];omega) (by omega)
  cases e
  rwa [List.take_of_length_le (by simp[hlen.out])] at hp
 have hpl:Hid ((xs.drop 4).length=124):=Lib.hid (by simp[hlen.out])
 have hb:=crc_lt (xs.drop 4)
 have hd:((num (xs.take 4):Int)==(crc (xs.drop 4):Nat))=false:=by simpa [fits] using hn
 have hd':((num (xs.take 4):Int) != (crc (xs.drop 4):Nat))=true:=by simpa [fits] using hn
 have HD:=Lib.hid hd
 have HD':=Lib.hid hd'
 clear hn hd hd'
 go_enter Tryz.func54,Tryz.ntmps54
 go_wp2_with fail
 refine(getFour_ok _ _ cap 0 xs hlen (by omega) (by omega) (by omega) _ hx).mono ?_
 rintro e w1 ⟨rfl,hb1⟩
 rw[List.drop_zero]
 have hp1:=(hp.below hb1).more hb1.size
 go_wp2_with fail
 refine(of_any _ _ _ _ hpl (by omega) (by omega) _ hp1).mono ?_
 rintro e w2 ⟨rfl,hb2⟩
 generalize num (xs.take 4)=q at *
 generalize crc (xs.drop 4)=r at *
 have hd:=HD.out
 have hd':=HD'.out
 go_wp2_with fail
 go_ret2
 exact⟨rfl,bstep hb1 hb2⟩
theorem own_base {w:World} {B B':Nat} {e:TypeId} {v:Value} {n:Nat} {xs:List Value} (h:w.ownsRow B e 1 v n xs) (hb:B'≤B):w.ownsRow B' e 1 v n xs:=by
 refine⟨h.1,h.2.imp id ?_⟩
 rintro⟨g,cap,cur,h1,h2,h3⟩
 exact⟨g,cap,cur,h1,Nat.le_trans hb h2,h3⟩
set_option maxRecDepth 100000 in
theorem open_ok (ad:Addr) (cap:Nat) (xs:List UInt8) (hlen:Hid (xs.length=128)) (hlc:128≤cap) (hcap:cap≤9223372036854775807) (w:World) (hx:Byt w w.heap.size (some ad) xs) (hn:fits xs) :
  Calls Tryz.prog 54 #[.slice (some ad) 128 cap] w fun e w'=>∃ v,e=.returned (.tuple #[v,.int .i64 0])∧w'.ownsRow w.heap.size 5 1 v 124 (u8s (xs.drop 4))∧Below w.heap.size w w':=by
 have hp:Byt w w.heap.size (some (ad.add 4)) (xs.drop 4):=by
  obtain⟨ad',e,hp⟩:=hx.part (k:=4) (n:=124) (by rw[hlen.out];omega) (by omega)
  cases e
  rwa [List.take_of_length_le (by simp[hlen.out])] at hp
 have hpl:Hid ((xs.drop 4).length=124):=Lib.hid (by simp[hlen.out])
 have hb:=crc_lt (xs.drop 4)
 have HN:Hid (num (xs.take 4)=(crc (xs.drop 4):Nat)):=Lib.hid hn
 clear hn
 go_enter Tryz.func54,Tryz.ntmps54
 go_wp2_with fail
 refine(getFour_ok _ _ cap 0 xs hlen (by omega) (by omega) (by omega) _ hx).mono ?_
 rintro e w1 ⟨rfl,hb1⟩
 rw[List.drop_zero,HN.out]
 have hp1:=(hp.below hb1).more hb1.size
 go_wp2_with fail
 refine(of_any _ _ _ _ hpl (by omega) (by omega) _ hp1).mono ?_
 rintro e w2 ⟨rfl,hb2⟩
 generalize crc (xs.drop 4)=r at *
 have hp2:=(hp1.below hb2).more hb2.size
 go_wp2_with fail
 refine(clone_some _ _ _ _ hpl (by omega) _ hp2).mono ?_
 rintro e w3 ⟨v,rfl,hown,_,hb3⟩
 have hB:=bstep (bstep hb1 hb2) hb3
 have hsz:=Nat.le_trans hb1.size hb2.size
 have HO:=Lib.hid (own_base hown hsz)
 clear hown hp hp1 hp2 hx hb1 hb2 hb3 hsz
 go_wp2_with fail
 go_ret2
 exact⟨v,rfl,HO.out,hB⟩
theorem fits_seal (xs:List UInt8):fits (sealN xs):=by
 unfold fits sealN
 rw[List.take_left' (le_length 4 _),List.drop_left' (le_length 4 _)]
 exact num_le 4 _ (by omega) (by have:=crc_lt (padN xs);simp;omega)
theorem seal_drop (xs:List UInt8):(sealN xs).drop 4=padN xs:=by
 unfold sealN
 rw[List.drop_left' (le_length 4 _)]
theorem padN_full {xs:List UInt8} (h:xs.length=124):padN xs=xs:=by simp[padN,zeros,h]
theorem seal_back {xs:List UInt8} (h:xs.length=128) (hf:fits xs):sealN (xs.drop 4)=xs:=by
 unfold fits at hf
 unfold sealN
 have e:=le_num (xs.take 4)
 rw[show (xs.take 4).length=4 by simp[h]] at e
 rw[padN_full (by simp[h]),← hf,e]
 exact List.take_append_drop 4 xs
end Go.Proofs.YtogieepfimpdmaaGreat
/-
 The document's answers of layer 4: a superblock's block,Write. Conditions: those that each lemma states.
-/
namespace Go.Proofs.YtogieepfimpdmaaGreat
open Go.RowKit
theorem rBy_nil_new (lo:Nat) (w:World):rBy (New lo w) w [.slice none 0 0] []:=⟨none,0,rfl,by simp,by omega,fun i x h=>by simp at h⟩
theorem ret_two {a:Value} {k:IntKind} {x y:Int} (h:x=y):Ending.returned (.tuple #[a,.int k x])=.returned (.tuple #[a,.int k y]):=by rw[h]
theorem app_own_byt (v:Value) (n m c:Nat) (xs ys:List UInt8) (A:Option Addr) (lo:Nat) (w:World) (hown:w.ownsRow lo 5 1 v n (u8s xs)) (hy:Byt w w.heap.size A ys) (hl:ys.length=m) (hs:n+m≤1000000000) (hlo:lo≤w.heap.size) :
  ∃ v' w',(Builtin.append_ #[27,27] 27 #[v,.slice A m c]).run Tryz.prog w=.ok v' w'∧w'.ownsRow lo 5 1 v' (n+m) (u8s (xs++ys))∧Below lo w w':=by
 obtain⟨i0,hi,hz0,hz1,hz2⟩:=info_parts u8_info0
 exact app_byt (P:=Tryz.prog) (w:=w) lo 27 27 5 i0 Tryz.underlying27 hi hz0 hz1 hz2 v n xs hown w.heap.size A m c ys hy hl hs hlo
end Go.Proofs.YtogieepfimpdmaaGreat
/-
 slices.Grow of nil,slices.Concat,at bytes. Conditions: those that each lemma states.
-/
namespace Go.Proofs.YtogieepfimpdmaaGreat
open Go.RowKit
theorem wpList_append_run2 {P:Program} {w:World} {ops:Array Oper} {rest:List Oper} {o:Oper} {a:Act} {Q:Exit→Act→World→Prop} (hgd:o.guard=none) (s x:Operand) (t tn:TypeId)
  (ho:o.op=.call { callee:=.builtin .append,args:=#[s,x],argTypes:=#[t,tn] }) {v u v':Value} {w':World} (hs:a.eval s=v) (hx:a.eval x=u)
  (hrun:(Builtin.append_ #[t,tn] o.type #[v,u]).run P w=.ok v' w') (h:wpList P ops Q rest (a.put o.dst v') w'):wpList P ops Q (o::rest) a w :=
 wpList_plain hgd fun _ hK=>by
  unfold Oper.wp execOp
  simp only[ho,resolve,invoke,builtin,Sem.run_bind,Sem.run_pure,Result.andThen_ok,List.map_toArray,List.map_cons,List.map_nil,hs,hx,hrun]
  exact hK _ _ h
set_option maxRecDepth 100000 in
theorem grow_nil (n:Nat) (hn:n≤1000000) (w:World) :
  Calls Tryz.prog 125 #[.slice none 0 0,.int .i64 n] w fun e w'=>∃ u,e=.returned u∧w'.ownsRow w.heap.size 5 1 u 0 []∧Below w.heap.size w w':=by
 rcases Nat.eq_zero_or_pos n with h0 | h0
 ·subst h0
  go_enter Tryz.func125,Tryz.ntmps125
  go_wp2
  go_ret
  exact⟨_,rfl,World.ownsRow_nil _ _ _ _,Below.refl _ _⟩
 ·obtain⟨i0,hi,hz0,hz1,hz2⟩:=info_parts u8_info0
  have hr:=Go.Lib.run_append_grow_zeros (P:=Tryz.prog) w 27 3 27 5 i0 (.int .u8 0) .i64 .i64 Tryz.underlying27 Tryz.underlying3 hi hz0 none 0 0 [] (run_firstCells_none w.drew i0.size 0 0 0) n h0 (by omega) (by omega) (by omega) (by rw[hz2];omega) (by rw[hz2,Nat.zero_add,nextslicecap_zero (by omega)];omega)
  rw[Nat.zero_add] at hr
  have hge:=grownCap_ge w n 0 5
  have hle:=grownCap_le_maxLen w n 0 5 (by unfold maxLen;omega)
  generalize grownCap w n 0 5=gc at hr hge hle
  have hsz:(([]:List Value).toArray++Builtin.zeroCells (Value.int .u8 0).cells n++Builtin.zeroCells (Value.int .u8 0).cells (gc-n)).size=gc*1:=by
   simp only[Array.size_append,size_zeroCells]
   simp[Value.cells]
   omega
  generalize ([]:List Value).toArray++Builtin.zeroCells (Value.int .u8 0).cells n++Builtin.zeroCells (Value.int .u8 0).cells (gc-n)=cur at hr hsz
  have hown:(w.drew.alloc (.cells cur 5)).ownsRow w.heap.size 5 1 (.slice (some ⟨w.heap.size,0,none⟩) 0 gc) 0 [] :=
   ⟨rfl,.inr ⟨w.heap.size,gc,cur,rfl,Nat.le_refl _,heap_alloc_new w.drew _,by omega,hle,hsz,by simp⟩⟩
  have hB:Below w.heap.size w (w.drew.alloc (.cells cur 5)):=(Below.refl w.heap.size w).drew.alloc (Nat.le_refl _) _
  unfold maxLen at hle
  generalize w.drew.alloc (.cells cur 5)=w9 at hr hown hB
  have H:=Lib.hid hr
  replace hown:=Lib.hid hown
  have h1:¬ ((n:Int)<0):=by omega
  have h2:(n:Int)>0:=by omega
  clear hsz hr
  go_enter Tryz.func125,Tryz.ntmps125
  go_wp2_with (at_builtin;refine wpList_append_run2 rfl _ _ _ _ rfl rfl rfl H.out ?_;clear H)
  go_ret
  exact⟨_,rfl,hown.out,hB⟩
def lens (xss:List (List UInt8)):Nat:=xss.flatten.length
theorem lens_snoc {xss:List (List UInt8)} {k:Nat} {x:List UInt8} (h:xss[k]? = some x):lens (xss.take (k+1))=lens (xss.take k)+x.length:=by
 simp[lens,List.take_add_one,h]
theorem flat_snoc {xss:List (List UInt8)} {k:Nat} {x:List UInt8} (h:xss[k]? = some x):(xss.take (k+1)).flatten=(xss.take k).flatten++x:=by
 simp[List.take_add_one,h]
theorem lens_le {xss:List (List UInt8)} (k:Nat):lens (xss.take k)≤lens xss:=by
 have h:lens xss=lens (xss.take k)+lens (xss.drop k):=by
  unfold lens
  rw[← List.length_append,← List.flatten_append,List.take_append_drop]
 omega
set_option maxRecDepth 100000 in
set_option maxHeartbeats 2000000 in
theorem concat_any (v:Value) (xss:List (List UInt8)) (w:World) (hbig:lens xss≤1000000) (h:rSl 1 rBy (Old w) w [v] xss) :
  Calls Tryz.prog 109 #[v] w fun e w'=>∃ u,e=.returned u∧w'.ownsRow w.heap.size 5 1 u (lens xss) (u8s xss.flatten)∧Below w.heap.size w w':=by
 obtain⟨A,c,e1,l1,m1,hA⟩:=rows_open h
 cases e1
 have HA:=Lib.hid hA
 clear hA h
 obtain⟨n,hn⟩:∃ n,xss.length=n:=⟨_,rfl⟩
 rw[hn] at l1 ⊢
 replace hn:=Lib.hid hn
 obtain⟨m,hm⟩:∃ m,lens xss=m:=⟨_,rfl⟩
 rw[hm] at hbig ⊢
 have hle:=Lib.hid (fun k=>(hm ▸ lens_le k:lens (xss.take k)≤m))
 replace hm:=Lib.hid hm
 go_enter Tryz.func109,Tryz.ntmps109
 go_wp2_with fail
 go_loop [3,11] (fun s i=>∃ k:Nat,k≤n∧i=.int .i64 k∧s=.int .i64 (lens (xss.take k))) (fun _ i=>n-(intOf i).toNat)
 case atStart=>exact⟨0,by omega,rfl,rfl⟩
 case round =>
  obtain⟨k,hk,rfl,rfl⟩:=hrel
  have hlk:=hle.out k
  by_cases hlt:k<n
  ·obtain⟨x,hx⟩:∃ x,xss[k]? = some x:=⟨_,List.getElem?_eq_getElem (by rw[hn.out];exact hlt)⟩
   obtain⟨ad,u,rfl,hok,hc,hby⟩:=HA.out k x hx
   have hs:=Lib.hid (lens_snoc hx)
   have hlk2:=hle.out (k+1)
   rw[hs.out] at hlk2
   obtain⟨E,ce,rfl,_⟩:=id (rBy_open hby)
   generalize lens (xss.take k)=q at *
   replace hx:=Lib.hid hx
   have h3:¬ ((q:Int)+(x.length:Int)<0):=by omega
   clear hby
   go_wp2_with fail
   go_round
   case rel=>exact⟨k+1,by omega,by go_num,by rw[hs.out];go_num⟩
   case measure=>simp[intOf];omega
  ·have hge:n≤k:=by omega
   have htk:=Lib.hid (show lens (xss.take k)=m by rw[List.take_of_length_le (by rw[hn.out];exact hge)];exact hm.out)
   rw[htk.out] at hlk ⊢
   go_wp2_with fail
   with_reducible refine(grow_nil m hbig _).mono ?_
   rintro e2 w2 ⟨u,rfl,ho,hb2⟩
   replace ho:=Lib.hid ho
   replace hb2:=Lib.hid hb2
   clear hlk htk
   go_wp2_with fail
   go_loopw [6,27] (fun u i wr=>∃ k:Nat,k≤n∧i=.int .i64 k∧wr.ownsRow w.heap.size 5 1 u (lens (xss.take k)) (u8s (xss.take k).flatten)∧Below w.heap.size w wr) (fun _ i _=>n-(intOf i).toNat)
   case atStart=>exact⟨0,by omega,rfl,ho.out,hb2.out⟩
   case round =>
    clear hge hk hlt ho hb2
    obtain⟨j,hk,rfl,hown,hB⟩:=hrel
    have hlk:=hle.out j
    by_cases hlt:j<n
    ·obtain⟨x,hx⟩:∃ x,xss[j]? = some x:=⟨_,List.getElem?_eq_getElem (by rw[hn.out];exact hlt)⟩
     obtain⟨ad,u,rfl,hok,hc,hby⟩:=HA.out j x hx
     have hc':=(hB.cell hok).trans hc
     have hs:=Lib.hid (lens_snoc hx)
     have hf:=Lib.hid (flat_snoc hx)
     have hlk2:=hle.out (j+1)
     rw[hs.out] at hlk2
     obtain⟨E,ce,rfl,_,_,hy⟩:=rBy_byt (B:=wr.heap.size) (fun p hp=>hp) (stab_by.old hby hB)
     obtain⟨v3,w3,hr3,o3,ba3⟩:=app_own_byt _ (lens (xss.take j)) x.length ce _ _ E w.heap.size wr hown hy rfl (by omega) hB.size
     have B3:=Lib.hid (hB.trans ba3)
     have H3:=Lib.hid hr3
     replace o3:=Lib.hid o3
     clear hr3 ba3 hy hby hc hown hB
     replace hx:=Lib.hid hx
     go_wp2_with (at_builtin;refine wpList_append_run rfl _ _ _ rfl rfl rfl H3.out ?_;clear H3)
     go_roundw
     case rel=>exact⟨j+1,by omega,by go_num,by rw[hs.out,hf.out];exact o3.out,B3.out⟩
     case measure=>simp[intOf];omega
    ·have hge:n≤j:=by omega
     have htk:xss.take j=xss:=List.take_of_length_le (by rw[hn.out];exact hge)
     rw[htk,hm.out] at hown
     replace hown:=Lib.hid hown
     have B:=Lib.hid hB
     clear hB htk
     go_wp2_with fail
     go_ret
     exact⟨_,rfl,hown.out,B.out⟩
end Go.Proofs.YtogieepfimpdmaaGreat
/-
 Layer 2: the contracts for every argument. Conditions: those that each lemma states.
-/
namespace Go.Proofs.YtogieepfimpdmaaGreat
open Go.RowKit
def sb (xs:List UInt8):List UInt8:=if xs.length≤124 then sealN xs else []
def se (n:Nat):Int:=if n≤124 then 0 else 3
open Classical in
noncomputable def ob (xs:List UInt8):List UInt8:=if xs.length=128∧fits xs then xs.drop 4 else []
open Classical in
noncomputable def oe (xs:List UInt8):Int:=if xs.length=128 then (if fits xs then 0 else 8) else 3
theorem seal_any (A:Option Addr) (len cap:Nat) (xs:List UInt8) (hlen:Hid (xs.length=len)) (hlc:len≤cap) (hcap:cap≤9223372036854775807) (w:World) (hx:Byt w w.heap.size A xs) :
  Calls Tryz.prog 89 #[.slice A len cap] w fun e w'=>∃ v,e=.returned (.tuple #[v,.int .i64 (se len)])∧w'.ownsRow w.heap.size 5 1 v (sb xs).length (u8s (sb xs))∧Below w.heap.size w w':=by
 by_cases h:len≤124
 ·have h1:se len=0:=if_pos h
  have h2:sb xs=sealN xs:=if_pos (by rw[hlen.out];exact h)
  rw[h1,h2]
  refine(seal_ok A len cap xs hlen h hlc hcap w hx).mono ?_
  rintro e w' ⟨rfl,hR,hb⟩
  have hl:=sealN_length (xs:=xs) (by rw[hlen.out];exact h)
  have:=hR.own (Nat.le_refl _) (by omega)
  exact⟨_,rfl,by rwa [hl] at this ⊢,hb⟩
 ·have h1:se len=3:=if_neg h
  have h2:sb xs=[]:=if_neg (by rw[hlen.out];exact h)
  rw[h1,h2]
  refine(seal_no A len cap (by omega) w).mono ?_
  rintro e w' ⟨rfl,rfl⟩
  exact⟨_,rfl,World.ownsRow_nil _ _ _ _,Below.refl _ _⟩
theorem open_any (A:Option Addr) (len cap:Nat) (xs:List UInt8) (hlen:Hid (xs.length=len)) (hlc:len≤cap) (hcap:cap≤9223372036854775807) (w:World) (hx:Byt w w.heap.size A xs) :
  Calls Tryz.prog 54 #[.slice A len cap] w fun e w'=>∃ v,e=.returned (.tuple #[v,.int .i64 (oe xs)])∧w'.ownsRow w.heap.size 5 1 v (ob xs).length (u8s (ob xs))∧Below w.heap.size w w':=by
 by_cases h:len=128
 ·subst h
  obtain⟨ad,rfl,_,_⟩:=hx (by rw[hlen.out];omega)
  by_cases hf:fits xs
  ·have h1:oe xs=0:=by unfold oe;rw[if_pos hlen.out,if_pos hf]
   have h2:ob xs=xs.drop 4:=by unfold ob;rw[if_pos ⟨hlen.out,hf⟩]
   rw[h1,h2,show (xs.drop 4).length=124 by simp[hlen.out]]
   exact open_ok ad cap xs hlen hlc hcap w hx hf
  ·have h1:oe xs=8:=by unfold oe;rw[if_pos hlen.out,if_neg hf]
   have h2:ob xs=[]:=by unfold ob;rw[if_neg (fun h=>hf h.2)]
   rw[h1,h2]
   refine(open_bad ad cap xs hlen hlc hcap w hx hf).mono ?_
   rintro e w' ⟨rfl,hb⟩
   exact⟨_,rfl,World.ownsRow_nil _ _ _ _,hb⟩
 ·have h1:oe xs=3:=by unfold oe;rw[if_neg (by rw[hlen.out];exact h)]
  have h2:ob xs=[]:=by unfold ob;rw[if_neg (fun h'=>h (by rw[← hlen.out];exact h'.1))]
  rw[h1,h2]
  refine(open_no A len cap h w).mono ?_
  rintro e w' ⟨rfl,rfl⟩
  exact⟨_,rfl,World.ownsRow_nil _ _ _ _,Below.refl _ _⟩
end Go.Proofs.YtogieepfimpdmaaGreat
/-
 Package ring: Write. Conditions: those that each lemma states.
-/
namespace Go.Proofs.YtogieepfimpdmaaGreat
open Go.RowKit
theorem four_by (n:Int) (h0:0≤n) (h1:n<4294967296) (w:World) :
  Calls Tryz.prog 110 #[.int .u32 n] w fun e w'=>∃ A c,e=.returned (.slice A 4 c)∧rBy (Old w') w' [.slice A 4 c] (le 4 n)∧Below w.heap.size w w' :=
 (four_any n h0 h1 w).mono fun _ _ ⟨A,e,hy,hb⟩=>⟨A,4,e,by have:=byt_rBy (cap:=4) hy (by rw[le_length];omega) (by omega);rwa [le_length] at this,hb⟩
theorem two_by (n:Int) (h0:0≤n) (h1:n<65536) (w:World) :
  Calls Tryz.prog 108 #[.int .i64 n] w fun e w'=>∃ A,e=.returned (.tuple #[.slice A 2 2,.int .i64 0])∧rBy (Old w') w' [.slice A 2 2] (le 2 n)∧Below w.heap.size w w' :=
 (two_ok n h0 h1 w).mono fun _ _ ⟨A,e,hy,hb⟩=>⟨A,e,by have:=byt_rBy (cap:=2) hy (by rw[le_length];omega) (by omega);rwa [le_length] at this,hb⟩
theorem byte_lit (w:World) (t:TypeId) (x:UInt8) (n:Int) (h:(x.toNat:Int)=n):rBy (Old (w.alloc (.cells #[.int .u8 n] t))) (w.alloc (.cells #[.int .u8 n] t)) [.slice (some ⟨w.heap.size,0,none⟩) 1 1] [x]:=by
 subst h
 have hy:=byt_new w t [x] #[.int .u8 (x.toNat:Int)] rfl
 have e:(w.alloc (.cells #[.int .u8 (x.toNat:Int)] t)).heap.size=w.heap.size+1:=by simp
 rw[← e] at hy
 exact byt_rBy (xs:=[x]) (cap:=1) hy (Nat.le_refl _) (by omega)
theorem rows_lit (w:World) (t:TypeId) (vs:List Value) (xss:List (List UInt8)) (hl:vs.length=xss.length) (hb:xss.length≤1000) (h:∀ (i:Nat) (v:Value) (x:List UInt8),vs[i]? = some v→xss[i]? = some x→rBy (Old w) w [v] x) :
  rSl 1 rBy (Old (w.alloc (.cells vs.toArray t))) (w.alloc (.cells vs.toArray t)) [.slice (some ⟨w.heap.size,0,none⟩) xss.length xss.length] xss:=by
 have hB:Below w.heap.size w (w.alloc (.cells vs.toArray t)):=(Below.refl _ _).alloc (Nat.le_refl _) _
 refine⟨_,_,rfl,Nat.le_refl _,by omega,fun i x hi => ?_⟩
 have hil:i<vs.length:=by rw[hl];exact(List.getElem?_eq_some_iff.1 hi).1
 have hv:vs[i]? = some vs[i]:=List.getElem?_eq_getElem hil
 refine⟨_,[vs[i]],rfl,rfl,fun j v hj => ?_,stab_by.old (h i _ x hv hi) hB⟩
 have hj0:j=0:=by
  have:=(List.getElem?_eq_some_iff.1 hj).1
  simp at this
  omega
 subst hj0
 cases hj
 have e:(⟨w.heap.size,0,none⟩:Addr).add (i*1+0)=⟨w.heap.size,i,none⟩:=by rw[add_off];simp
 rw[e]
 refine⟨by simp[Old],?_⟩
 simp
end Go.Proofs.YtogieepfimpdmaaGreat
/-
 Package ring: Write of any superblock,deadOf,fields,Read;cmp.Or. Conditions: those that each lemma states.
-/
namespace Go.Proofs.YtogieepfimpdmaaGreat
open Go.RowKit
theorem put_five {W:World} {g:Nat} {a b c d e u0 u1 u2 u3 u4:Value} {t:TypeId} (h:W.heap[g]? = some (.cells #[a,b,c,d,e] t (0,0))):∃ W1,((((W.setCell ⟨g,0,none⟩ u0).setCell ⟨g,1,none⟩ u1).setCell ⟨g,2,none⟩ u2).setCell ⟨g,3,none⟩ u3).setCell ⟨g,4,none⟩ u4=W1 ∧
  W1.heap[g]? = some (.cells #[u0,u1,u2,u3,u4] t (0,0))∧W.grownBy W1 (some g)∧W1.heap.size=W.heap.size :=
 ⟨_,rfl,by simp[World.setCell,Array.getElem?_modify,h],grow_put (p:=⟨g,4,none⟩) (grow_put (p:=⟨g,3,none⟩) (grow_put (p:=⟨g,2,none⟩) (grow_put (p:=⟨g,1,none⟩) (grow_put (p:=⟨g,0,none⟩) (grow_refl W (some g)) rfl u0) rfl u1) rfl u2) rfl u3) rfl u4,by simp⟩
theorem five_cells {W:World} {g:Nat} {a b c d e:Value} {t:TypeId} (h:W.heap[g]? = some (.cells #[a,b,c,d,e] t (0,0))):W.cell? ⟨g,0,none⟩=some a∧W.cell? ⟨g,1,none⟩=some b∧W.cell? ⟨g,2,none⟩=some c∧W.cell? ⟨g,3,none⟩=some d∧W.cell? ⟨g,4,none⟩=some e∧(∀ o,W.frozen? ⟨g,o,none⟩=false)∧g<W.heap.size :=
 ⟨by simp[World.cell?,h],by simp[World.cell?,h],by simp[World.cell?,h],by simp[World.cell?,h],by simp[World.cell?,h],fun o=>by simp[World.frozen?,h],(Array.getElem?_eq_some_iff.1 h).1⟩
theorem int_info0:(Tryz.prog.info? 3).map (fun i=>(i.zero,i.size,i.bytes))=some (some (.int .i64 0),1,8):=by kernel_rfl
theorem rI64_mk {ok:Addr→Prop} {w:World} {n:Int} (h:In64 n):rK .i64 ok w [.int .i64 n] n:=⟨rfl,by simpa [IntKind.min,IntKind.signed,IntKind.bits] using h.1,by simpa [IntKind.max,IntKind.signed,IntKind.bits] using h.2⟩
theorem ints_push {w:World} {lo:Nat} {A:Option Addr} {c:Nat} {xs:List Int} (h:RowOf (rK .i64) 1 3 lo w A c xs) (g:Nat) (n:Int) (m:Nat) (hg:w.heap[g]? = some (.cells #[.int .i64 n] 3 (0,0))) (hs:xs.length<100000) (hbase:lo≤w.heap.size) (hn:In64 n) :
  ∃ A' c' w',(Builtin.append_ #[52,52] 52 #[.slice A xs.length c,.slice (some ⟨g,0,none⟩) 1 m]).run Tryz.prog w=.ok (.slice A' (xs.length+1) c') w'∧RowOf (rK .i64) 1 3 lo w' A' c' (xs++[n])∧w.grownBy w' (A.map (·.block))∧Below lo w w':=by
 obtain⟨i0,hi,hz0,hz1,hz2⟩:=info_parts int_info0
 exact RowOf.push (stab_k _) h 52 52 i0 (.int .i64 0) 8 Tryz.underlying52 hi hz0 hz1 hz2 rfl (by decide) ⟨g,0,none⟩ m _ n rfl (World.news_of_block (cs:=#[.int .i64 n]) hg) (fun u hu=>by
  simp at hu
  subst hu
  rfl) (by unfold maxLen;omega) (by omega) hbase (rI64_mk hn)
theorem gv2_in (body:List UInt8) (k:Int):In64 (gv 2 body k):=by
 have:=gv_bounds 2 body k
 exact⟨by omega,by omega⟩
theorem gv4_in (body:List UInt8) (k:Int):InU (gv 4 body k):=by
 have:=gv_bounds 4 body k
 exact⟨by omega,by omega⟩
def orN (xs:List Int):Int:=(xs.find? fun x=>x != 0).getD 0
theorem orN_take {xs:List Int} {k:Nat} {x:Int} (h:∀ y∈xs.take k,y=0) (hx:xs[k]? = some x) (h0:x≠0):orN xs=x:=by
 have e:xs=xs.take k++x::xs.drop (k+1):=by
  have hk:=(List.getElem?_eq_some_iff.1 hx)
  obtain⟨hk1,hk2⟩:=hk
  rw[← hk2,← List.drop_eq_getElem_cons hk1,List.take_append_drop]
 unfold orN
 rw[e,List.find?_append,List.find?_eq_none.2 (by intro y hy;simp[h y hy])]
 simp[h0]
theorem orN_zero {xs:List Int} (h:∀ y∈xs,y=0):orN xs=0:=by
 unfold orN
 rw[List.find?_eq_none.2 (by intro y hy;simp[h y hy])]
 rfl
set_option maxRecDepth 100000 in
set_option maxHeartbeats 2000000 in
theorem or_any (v:Value) (xs:List Int) (w:World) (h:rInts (Old w) w [v] xs) :
  Calls Tryz.prog 121 #[v] w fun e w'=>e=.returned (.int .i64 (orN xs))∧w=w':=by
 obtain⟨A,c,rfl,l1,m1,hA⟩:=rInts_open h
 have HA:=Lib.hid hA
 clear hA h
 obtain⟨n,hn⟩:∃ n,xs.length=n:=⟨_,rfl⟩
 rw[hn] at l1 ⊢
 replace hn:=Lib.hid hn
 go_enter Tryz.func121,Tryz.ntmps121
 go_wp2_with fail
 go_loop [8] (fun i=>∃ k:Nat,k≤n∧i=.int .i64 k∧∀ y∈xs.take k,y=0) (fun i=>n-(intOf i).toNat)
 case atStart=>exact⟨0,by omega,rfl,fun y hy=>by simp at hy⟩
 case round =>
  obtain⟨k,hk,rfl,ha⟩:=hrel
  replace ha:=Lib.hid ha
  by_cases hlt:k<n
  ·obtain⟨x,hx⟩:∃ x,xs[k]? = some x:=⟨_,List.getElem?_eq_getElem (by rw[hn.out];exact hlt)⟩
   obtain⟨ad,rfl,hok,hc,_⟩:=HA.out k x hx
   replace hx:=Lib.hid hx
   by_cases e:x=0
   ·have he:(x != 0)=false:=by simpa using e
    replace e:=Lib.hid e
    go_wp2_with fail
    go_round
    case rel=>exact⟨k+1,by omega,by go_num,fun y hy=>by
     rw[List.take_add_one,hx.out] at hy
     simp at hy
     rcases hy with hy | hy
     ·exact ha.out y hy
     ·rw[hy];exact e.out⟩
    case measure=>simp[intOf];omega
   ·have he:(x != 0)=true:=by simpa using e
    have hor:=Lib.hid (orN_take ha.out hx.out e)
    clear e
    go_wp2_with fail
    go_ret
    exact⟨ret_int hor.out.symm,rfl⟩
  ·have hge:n≤k:=by omega
   have hor:Hid (orN xs=0):=Lib.hid (orN_zero (by
    have:=ha.out
    rwa [List.take_of_length_le (by rw[hn.out];exact hge)] at this))
   go_wp2_with fail
   go_ret
   exact⟨ret_int hor.out.symm,rfl⟩
theorem ints_lit (w:World) (t:TypeId) (xs:List Int) (cs:Array Value) (hc:cs.toList=xs.map fun x=>Value.int .i64 x) (hb:xs.length≤1000) (h:∀ x∈xs,In64 x) :
  rInts (Old (w.alloc (.cells cs t))) (w.alloc (.cells cs t)) [.slice (some ⟨w.heap.size,0,none⟩) xs.length xs.length] xs:=by
 refine⟨_,_,rfl,Nat.le_refl _,by omega,fun i x hi => ?_⟩
 refine⟨_,[.int .i64 x],rfl,rfl,fun j v hj => ?_,rI64_mk (h x (List.mem_of_getElem? hi))⟩
 have hj0:j=0:=by
  have:=(List.getElem?_eq_some_iff.1 hj).1
  simp at this
  omega
 subst hj0
 cases hj
 have e:(⟨w.heap.size,0,none⟩:Addr).add (i*1+0)=⟨w.heap.size,i,none⟩:=by rw[add_off];simp
 rw[e]
 have hci:cs[i]? = some (.int .i64 x):=by rw[← Array.getElem?_toList,hc,List.getElem?_map,hi];rfl
 refine⟨by simp[Old],?_⟩
 rw[← hci]
 simp
end Go.Proofs.YtogieepfimpdmaaGreat
/-
 A bag's facts on superblocks. Conditions: those that each lemma states.
-/
namespace Go.Proofs.YtogieepfimpdmaaGreat
open Go.RowKit
def Box5 (g:Nat) (a b c d e:Value):World→Prop:=fun w=>w.cell? ⟨g,0,none⟩=some a∧w.cell? ⟨g,1,none⟩=some b∧w.cell? ⟨g,2,none⟩=some c∧w.cell? ⟨g,3,none⟩=some d∧w.cell? ⟨g,4,none⟩=some e∧g<w.heap.size
theorem lasts_box5 (g:Nat) (a b c d e:Value):Lasts (Box5 g a b c d e):=fun _ _ h hb=>⟨(hb.cell (p:=⟨g,0,none⟩) h.2.2.2.2.2).trans h.1,(hb.cell (p:=⟨g,1,none⟩) h.2.2.2.2.2).trans h.2.1,(hb.cell (p:=⟨g,2,none⟩) h.2.2.2.2.2).trans h.2.2.1,(hb.cell (p:=⟨g,3,none⟩) h.2.2.2.2.2).trans h.2.2.2.1,(hb.cell (p:=⟨g,4,none⟩) h.2.2.2.2.2).trans h.2.2.2.2.1,Nat.lt_of_lt_of_le h.2.2.2.2.2 hb.size⟩
end Go.Proofs.YtogieepfimpdmaaGreat
/-
 Items and keys (api.Item,api.Key): how they read;which may be;their bytes;items as arguments. Conditions: those that each lemma states.
-/
namespace Go.Proofs.YtogieepfimpdmaaGreat
open Go.ChangeShapes Go.WideShapes Go.RowKit
abbrev Ky:=UInt8×Int×Int
def rKy:Rel Ky:=rPair rU8 (rPair (rK .u32) (rK .u32))
theorem stab_ky:Stab rKy:=stab_pair stab_u8 (stab_pair (stab_k _) (stab_k _))
structure InK (k:Ky):Prop where
 id:InU k.2.1
 off:InU k.2.2
abbrev kyV (k:Ky):Value:=.agg #[.int .u8 (k.1.toNat:Int),.int .u32 k.2.1,.int .u32 k.2.2]
theorem rKy_open {ok:Addr→Prop} {w:World} {cs:List Value} {k:Ky} (h:rKy ok w cs k):cs=[.int .u8 (k.1.toNat:Int),.int .u32 k.2.1,.int .u32 k.2.2]∧InK k:=by
 obtain⟨_,_,rfl,rfl,_,_,rfl,⟨rfl,a1,a2⟩,⟨rfl,b1,b2⟩⟩:=h
 simp[IntKind.min,IntKind.max,IntKind.signed,IntKind.bits] at a1 a2 b1 b2
 exact⟨rfl,⟨⟨a1,by omega⟩,⟨b1,by omega⟩⟩⟩
theorem rKy_mk {ok:Addr→Prop} {w:World} {k:Ky} (h:InK k):rKy ok w [.int .u8 (k.1.toNat:Int),.int .u32 k.2.1,.int .u32 k.2.2] k:=by
 obtain⟨⟨a1,a2⟩,⟨b1,b2⟩⟩:=h
 refine⟨[_],_,rfl,rfl,[_],_,rfl,⟨rfl,?_,?_⟩,rfl,?_,?_⟩ <;> simp[IntKind.min,IntKind.max,IntKind.signed,IntKind.bits] <;> omega
abbrev It:=Ky×Int×List UInt8
def rIt:Rel It:=rPair rKy (rPair (rK .i64) rBy)
theorem stab_it:Stab rIt:=stab_pair stab_ky (stab_pair (stab_k _) stab_by)
structure InI (s:It):Prop where
 key:InK s.1
 ref:In64 s.2.1
abbrev itV (s:It) (d:Value):Value:=.agg #[.int .u8 (s.1.1.toNat:Int),.int .u32 s.1.2.1,.int .u32 s.1.2.2,.int .i64 s.2.1,d]
def Itm (ok:Addr→Prop) (w:World) (v:Value) (s:It):Prop:=∃ d,v=itV s d∧InI s∧rBy ok w [d] s.2.2
theorem rIt_open {ok:Addr→Prop} {w:World} {cs:List Value} {s:It} (h:rIt ok w cs s):∃ d,cs=[.int .u8 (s.1.1.toNat:Int),.int .u32 s.1.2.1,.int .u32 s.1.2.2,.int .i64 s.2.1,d]∧InI s∧rBy ok w [d] s.2.2:=by
 obtain⟨_,_,rfl,hk,_,_,rfl,⟨rfl,a1,a2⟩,hd⟩:=h
 obtain⟨rfl,hi⟩:=rKy_open hk
 obtain⟨A,cap,rfl,hd'⟩:=hd
 simp[IntKind.min,IntKind.max,IntKind.signed,IntKind.bits] at a1 a2
 exact⟨_,rfl,⟨hi,⟨a1,a2⟩⟩,A,cap,rfl,hd'⟩
theorem rIt_mk {ok:Addr→Prop} {w:World} {d:Value} {s:It} (h:InI s) (hd:rBy ok w [d] s.2.2):rIt ok w [.int .u8 (s.1.1.toNat:Int),.int .u32 s.1.2.1,.int .u32 s.1.2.2,.int .i64 s.2.1,d] s:=by
 obtain⟨hk,⟨a1,a2⟩⟩:=h
 refine⟨[_,_,_],_,rfl,rKy_mk hk,[_],_,rfl,⟨rfl,?_,?_⟩,hd⟩ <;> simp[IntKind.min,IntKind.max,IntKind.signed,IntKind.bits] <;> omega
theorem Itm.map {ok ok':Addr→Prop} {w w':World} {v:Value} {s:It} (hk:∀ p v,ok p→w.cell? p=some v→ok' p∧w'.cell? p=some v) (h:Itm ok w v s):Itm ok' w' v s:=by
 obtain⟨d,e,h1,h2⟩:=h
 exact⟨d,e,h1,stab_by _ _ _ _ _ _ hk h2⟩
theorem Itm.below {w w':World} {v:Value} {s:It} (h:Itm (Old w) w v s) (hb:Below w.heap.size w w'):Itm (Old w') w' v s :=
 h.map fun _ _ hp hc=>⟨Nat.lt_of_lt_of_le hp hb.size,(hb.cell hp).trans hc⟩
theorem Itm.new {lo lo':Nat} {w w':World} {v:Value} {s:It} (h:Itm (New lo w) w v s) (hl:lo'≤lo) (hb:Below w.heap.size w w'):Itm (New lo' w') w' v s :=
 h.map fun _ _ hp hc=>⟨⟨Nat.le_trans hl hp.1,Nat.lt_of_lt_of_le hp.2.1 hb.size,(hb.frozen hp.2.1).trans hp.2.2⟩,(hb.cell hp.2.1).trans hc⟩
theorem Itm.grown {w w':World} {lo:Nat} {v:Value} {s:It} {row:Option Nat} (h:Itm (New lo w) w v s) (hg:w.grownBy w' row) (hr:∀ q,row=some q→q<lo):Itm (New lo w') w' v s:=by
 obtain⟨d,e,h1,h2⟩:=h
 exact⟨d,e,h1,stab_by.grown h2 hg hr⟩
theorem Itm.open {ok:Addr→Prop} {w:World} {v:Value} {s:It} (h:Itm ok w v s):∃ A c,v=itV s (.slice A s.2.2.length c)∧InI s∧s.2.2.length≤c∧c≤9223372036854775807∧rBy ok w [.slice A s.2.2.length c] s.2.2:=by
 obtain⟨d,rfl,h1,h2⟩:=h
 obtain⟨A,c,rfl,h3,h4,h5⟩:=rBy_open h2
 exact⟨A,c,rfl,h1,h3,h4,h2⟩
theorem box_three (w:World) (a b c:Value) (t:TypeId):∃ w1,w.alloc (.cells #[a,b,c] t)=w1∧w1.cell? ⟨w.heap.size,0,none⟩=some a∧w1.cell? ⟨w.heap.size,1,none⟩=some b∧w1.cell? ⟨w.heap.size,2,none⟩=some c∧w1.heap.size=w.heap.size+1∧Below w.heap.size w w1∧w1.heap[w.heap.size]? = some (.cells #[a,b,c] t (0,0)) :=
 ⟨_,rfl,by simp,by simp,by simp,by simp,(Below.refl _ _).alloc (Nat.le_refl _) _,heap_alloc_new _ _⟩
def mayI (s:It):Bool:=(decide (s.2.1=0)||(decide (8≤s.2.1)&&decide (s.2.1<256)))&&decide (s.2.2.length≤12)
def chkI (s:It):Int:=if mayI s then 0 else 8
theorem mayI_of {s:It} (h:mayI s=true):(s.2.1=0∨(8≤s.2.1∧s.2.1<256))∧s.2.2.length≤12:=by
 simpa [mayI] using h
theorem mayI_mk {s:It} (h:(s.2.1=0∨(8≤s.2.1∧s.2.1<256))∧s.2.2.length≤12):mayI s=true:=by simpa [mayI] using h
theorem chkI_ok {s:It} (h:mayI s=true):chkI s=0:=by simp[chkI,h]
theorem chkI_bad {s:It} (h:mayI s=false):chkI s=8:=by simp[chkI,h]
def itB (s:It):List UInt8:=[s.1.1]++(le 4 s.1.2.1++(le 4 s.1.2.2++(le 2 s.2.1++([UInt8.ofNat s.2.2.length]++s.2.2))))
theorem itB_length (s:It):(itB s).length=12+s.2.2.length:=by simp[itB,le_length];omega
def wrI (s:It):List UInt8:=if mayI s then itB s else []
def zeroI:It:=((0,0,0),0,[])
theorem inI_zero:InI zeroI:=⟨⟨⟨by decide,by decide⟩,⟨by decide,by decide⟩⟩,⟨by decide,by decide⟩⟩
theorem itm_zero (ok:Addr→Prop) (w:World):Itm ok w (.agg #[.int .u8 0,.int .u32 0,.int .u32 0,.int .i64 0,.slice none 0 0]) zeroI:=⟨_,rfl,inI_zero,none,0,rfl,by simp[zeroI],by omega,fun i x h=>by simp[zeroI] at h⟩
set_option maxRecDepth 100000 in
theorem opens_key:Opens Tryz.prog 37 rKy:=opens_struct Tryz.underlying37 (opensF_cons rfl (opens_u8 Tryz.underlying5) (opensF_cons (by kernel_rfl) (opens_k Tryz.underlying32) (opensF_one (by kernel_rfl) (by kernel_rfl) (opens_k Tryz.underlying32))))
set_option maxRecDepth 100000 in
theorem opens_by8:Opens Tryz.prog 27 rBy:=opens_sl Tryz.underlying27 (by kernel_rfl) (opens_u8 Tryz.underlying5)
set_option maxRecDepth 100000 in
theorem opens_item:Opens Tryz.prog 40 rIt:=opens_struct Tryz.underlying40 (opensF_cons rfl opens_key (opensF_cons (by kernel_rfl) (opens_k Tryz.underlying3) (opensF_one (by kernel_rfl) (by kernel_rfl) opens_by8)))
set_option maxRecDepth 100000 in
theorem open_item {H:Type} {enc:TypeId×Value→H} {w:World} {b0:Nat} {spare:Nat→Bool} {held:Bool} {r:Reach} {v:Value} {x:DataW H} {ps:List MemPlace} (hval:Value.okWide Tryz.prog w r b0 40 v) (hd:DataW.Trod enc Tryz.prog w 0 spare held 40 v x ps) :
  ∃ s,Itm (Old w) w v s:=by
 obtain⟨cs,rfl,_⟩:=okWide_struct Tryz.underlying40 hval
 obtain⟨s,hs⟩:=open_rel opens_item hd
 obtain⟨d,h1,h2,h3⟩:=rIt_open hs
 exact⟨s,d,by obtain⟨cs⟩:=cs;simp[Value.cells] at h1;rw[h1],h2,h3⟩
end Go.Proofs.YtogieepfimpdmaaGreat
/-
 Package item and the document's answers of layer 5: Less;cmp.Compare,cmp.Or at numbers. Conditions: those that each lemma states.
-/
namespace Go.Proofs.YtogieepfimpdmaaGreat
open Go.RowKit
def cmpN (a b:Int):Int:=if a<b then -1 else if b<a then 1 else 0
theorem cmpN_lt {a b:Int} (h:a<b):cmpN a b = -1:=if_pos h
theorem cmpN_gt {a b:Int} (h:b<a):cmpN a b=1:=by unfold cmpN;rw[if_neg (by omega),if_pos h]
theorem cmpN_eq {a b:Int} (h:a=b):cmpN a b=0:=by subst h;simp[cmpN]
theorem cmpN_in (a b:Int):In64 (cmpN a b):=by
 unfold cmpN
 split
 ·exact⟨by decide,by decide⟩
 ·split <;> exact⟨by decide,by decide⟩
def lessK (a b:Ky):Bool:=if a.1.toNat≠b.1.toNat then decide (a.1.toNat<b.1.toNat) else if a.2.1≠b.2.1 then decide (a.2.1<b.2.1) else decide (a.2.2<b.2.2)
theorem orN_three (a b c:Int):orN [a,b,c]=if a≠0 then a else if b≠0 then b else c:=by
 unfold orN
 by_cases h:a=0
 ·subst h
  by_cases h:b=0
  ·subst h
   by_cases h:c=0
   ·subst h;rfl
   ·simp[h]
  ·simp[h]
 ·simp[h]
theorem less_or (a b:Ky):decide (orN [cmpN a.1.toNat b.1.toNat,cmpN a.2.1 b.2.1,cmpN a.2.2 b.2.2]<0)=lessK a b:=by
 rw[orN_three]
 unfold lessK
 have z:¬ (0:Int)≠0:=by omega
 have m1:(-1:Int)≠0:=by omega
 have p1:(1:Int)≠0:=by omega
 rcases Nat.lt_trichotomy a.1.toNat b.1.toNat with h | h | h
 ·rw[cmpN_lt (by omega),if_pos m1,if_pos (show a.1.toNat≠b.1.toNat by omega)];simp[h]
 ·rw[cmpN_eq (show (a.1.toNat:Int)=b.1.toNat by omega),if_neg z,if_neg (show ¬ a.1.toNat≠b.1.toNat by omega)]
  rcases Int.lt_trichotomy a.2.1 b.2.1 with h1 | h1 | h1
  ·rw[cmpN_lt h1,if_pos m1,if_pos (show a.2.1≠b.2.1 by omega)];simp[h1]
  ·rw[cmpN_eq h1,if_neg z,if_neg (show ¬ a.2.1≠b.2.1 by omega)]
   rcases Int.lt_trichotomy a.2.2 b.2.2 with h2 | h2 | h2
   ·rw[cmpN_lt h2];simp[h2]
   ·rw[cmpN_eq h2];simp[h2]
   ·rw[cmpN_gt h2,decide_eq_false (show ¬ (1:Int)<0 by omega),decide_eq_false (show ¬ a.2.2<b.2.2 by omega)]
  ·rw[cmpN_gt h1,if_pos p1,if_pos (show a.2.1≠b.2.1 by omega),decide_eq_false (show ¬ (1:Int)<0 by omega),decide_eq_false (show ¬ a.2.1<b.2.1 by omega)]
 ·rw[cmpN_gt (show (b.1.toNat:Int)<a.1.toNat by omega),if_pos p1,if_pos (show a.1.toNat≠b.1.toNat by omega),decide_eq_false (show ¬ (1:Int)<0 by omega),decide_eq_false (show ¬ a.1.toNat<b.1.toNat by omega)]
set_option maxRecDepth 100000 in
theorem isNaN8 (a:Int) (w:World):Calls Tryz.prog 62 #[.int .u8 a] w fun e w'=>e=.returned (.bool false)∧w=w':=by
 go_enter Tryz.func62,Tryz.ntmps62
 go_wp2_with fail
 go_ret
 exact⟨ret_bool (by simp),rfl⟩
set_option maxRecDepth 100000 in
theorem isNaN32 (a:Int) (w:World):Calls Tryz.prog 63 #[.int .u32 a] w fun e w'=>e=.returned (.bool false)∧w=w':=by
 go_enter Tryz.func63,Tryz.ntmps63
 go_wp2_with fail
 go_ret
 exact⟨ret_bool (by simp),rfl⟩
set_option maxRecDepth 100000 in
theorem compare8 (a b:Int) (w:World):Calls Tryz.prog 38 #[.int .u8 a,.int .u8 b] w fun e w'=>e=.returned (.int .i64 (cmpN a b))∧w=w':=by
 rcases Int.lt_trichotomy a b with h | h | h
 ·rw[cmpN_lt h]
  go_enter Tryz.func38,Tryz.ntmps38
  go_wp2_with fail
  with_reducible refine(isNaN8 a _).mono ?_
  rintro e w1 ⟨rfl,rfl⟩
  go_wp2_with fail
  with_reducible refine(isNaN8 b _).mono ?_
  rintro e w1 ⟨rfl,rfl⟩
  go_wp2_with fail
  go_ret
  exact⟨rfl,rfl⟩
 ·rw[cmpN_eq h]
  subst h
  go_enter Tryz.func38,Tryz.ntmps38
  go_wp2_with fail
  with_reducible refine(isNaN8 a _).mono ?_
  rintro e w1 ⟨rfl,rfl⟩
  go_wp2_with fail
  with_reducible refine(isNaN8 a _).mono ?_
  rintro e w1 ⟨rfl,rfl⟩
  go_wp2_with fail
  go_ret
  exact⟨rfl,rfl⟩
 ·rw[cmpN_gt h]
  have h2:¬ a<b:=by omega
  go_enter Tryz.func38,Tryz.ntmps38
  go_wp2_with fail
  with_reducible refine(isNaN8 a _).mono ?_
  rintro e w1 ⟨rfl,rfl⟩
  go_wp2_with fail
  with_reducible refine(isNaN8 b _).mono ?_
  rintro e w1 ⟨rfl,rfl⟩
  go_wp2_with fail
  go_ret
  exact⟨rfl,rfl⟩
set_option maxRecDepth 100000 in
theorem compare32 (a b:Int) (w:World):Calls Tryz.prog 39 #[.int .u32 a,.int .u32 b] w fun e w'=>e=.returned (.int .i64 (cmpN a b))∧w=w':=by
 rcases Int.lt_trichotomy a b with h | h | h
 ·rw[cmpN_lt h]
  go_enter Tryz.func39,Tryz.ntmps39
  go_wp2_with fail
  with_reducible refine(isNaN32 a _).mono ?_
  rintro e w1 ⟨rfl,rfl⟩
  go_wp2_with fail
  with_reducible refine(isNaN32 b _).mono ?_
  rintro e w1 ⟨rfl,rfl⟩
  go_wp2_with fail
  go_ret
  exact⟨rfl,rfl⟩
 ·rw[cmpN_eq h]
  subst h
  go_enter Tryz.func39,Tryz.ntmps39
  go_wp2_with fail
  with_reducible refine(isNaN32 a _).mono ?_
  rintro e w1 ⟨rfl,rfl⟩
  go_wp2_with fail
  with_reducible refine(isNaN32 a _).mono ?_
  rintro e w1 ⟨rfl,rfl⟩
  go_wp2_with fail
  go_ret
  exact⟨rfl,rfl⟩
 ·rw[cmpN_gt h]
  have h2:¬ a<b:=by omega
  go_enter Tryz.func39,Tryz.ntmps39
  go_wp2_with fail
  with_reducible refine(isNaN32 a _).mono ?_
  rintro e w1 ⟨rfl,rfl⟩
  go_wp2_with fail
  with_reducible refine(isNaN32 b _).mono ?_
  rintro e w1 ⟨rfl,rfl⟩
  go_wp2_with fail
  go_ret
  exact⟨rfl,rfl⟩
set_option maxRecDepth 100000 in
set_option maxHeartbeats 2000000 in
theorem orInt_any (v:Value) (xs:List Int) (w:World) (h:rInts (Old w) w [v] xs) :
  Calls Tryz.prog 37 #[v] w fun e w'=>e=.returned (.int .i64 (orN xs))∧w=w':=by
 obtain⟨A,c,rfl,l1,m1,hA⟩:=rInts_open h
 have HA:=Lib.hid hA
 clear hA h
 obtain⟨n,hn⟩:∃ n,xs.length=n:=⟨_,rfl⟩
 rw[hn] at l1 ⊢
 replace hn:=Lib.hid hn
 go_enter Tryz.func37,Tryz.ntmps37
 go_wp2_with fail
 go_loop [8] (fun i=>∃ k:Nat,k≤n∧i=.int .i64 k∧∀ y∈xs.take k,y=0) (fun i=>n-(intOf i).toNat)
 case atStart=>exact⟨0,by omega,rfl,fun y hy=>by simp at hy⟩
 case round =>
  obtain⟨k,hk,rfl,ha⟩:=hrel
  replace ha:=Lib.hid ha
  by_cases hlt:k<n
  ·obtain⟨x,hx⟩:∃ x,xs[k]? = some x:=⟨_,List.getElem?_eq_getElem (by rw[hn.out];exact hlt)⟩
   obtain⟨ad,rfl,hok,hc,_⟩:=HA.out k x hx
   replace hx:=Lib.hid hx
   by_cases e:x=0
   ·have he:(x != 0)=false:=by simpa using e
    replace e:=Lib.hid e
    go_wp2_with fail
    go_round
    case rel=>exact⟨k+1,by omega,by go_num,fun y hy=>by
     rw[List.take_add_one,hx.out] at hy
     simp at hy
     rcases hy with hy | hy
     ·exact ha.out y hy
     ·rw[hy];exact e.out⟩
    case measure=>simp[intOf];omega
   ·have he:(x != 0)=true:=by simpa using e
    have hor:=Lib.hid (orN_take ha.out hx.out e)
    clear e
    go_wp2_with fail
    go_ret
    exact⟨ret_int hor.out.symm,rfl⟩
  ·have hge:n≤k:=by omega
   have hor:Hid (orN xs=0):=Lib.hid (orN_zero (by
    have:=ha.out
    rwa [List.take_of_length_le (by rw[hn.out];exact hge)] at this))
   go_wp2_with fail
   go_ret
   exact⟨ret_int hor.out.symm,rfl⟩
set_option maxRecDepth 100000 in
set_option maxHeartbeats 4000000 in
theorem less_any (a b:Ky) (w:World) :
  Calls Tryz.prog 19 #[kyV a,kyV b] w fun e w'=>e=.returned (.bool (lessK a b))∧Below w.heap.size w w':=by
 have hfin:=Lib.hid (less_or a b)
 obtain⟨ak,ai,ao⟩:=a
 obtain⟨bk,bi,bo⟩:=b
 unfold kyV
 dsimp only at hfin ⊢
 generalize lessK (ak,ai,ao) (bk,bi,bo)=res at hfin ⊢
 obtain⟨p,hp⟩:∃ p:Int,(ak.toNat:Int)=p:=⟨_,rfl⟩
 obtain⟨q,hq⟩:∃ q:Int,(bk.toNat:Int)=q:=⟨_,rfl⟩
 rw[hp,hq] at hfin ⊢
 clear hp hq
 obtain⟨w1,hw1,f1,f2,f3,hs1,hB1,_⟩:=box_three w (.int .u8 p) (.int .u32 ai) (.int .u32 ao) 37
 obtain⟨w2,hw2,g1,g2,g3,hs2,hB2,_⟩:=box_three w1 (.int .u8 q) (.int .u32 bi) (.int .u32 bo) 37
 have hB:=Lib.hid (hB1.trans (hB2.mono hB1.size))
 have k1:=(hB2.cell (p:=⟨w.heap.size,0,none⟩) (show w.heap.size<_ by omega)).trans f1
 have k2:=(hB2.cell (p:=⟨w.heap.size,1,none⟩) (show w.heap.size<_ by omega)).trans f2
 have k3:=(hB2.cell (p:=⟨w.heap.size,2,none⟩) (show w.heap.size<_ by omega)).trans f3
 have lt1:w.heap.size<w2.heap.size:=by omega
 have lt2:w1.heap.size<w2.heap.size:=by omega
 have i1:=Lib.hid (cmpN_in p q)
 have i2:=Lib.hid (cmpN_in ai bi)
 have i3:=Lib.hid (cmpN_in ao bo)
 obtain⟨c1,h1⟩:∃ c,cmpN p q=c:=⟨_,rfl⟩
 obtain⟨c2,h2⟩:∃ c,cmpN ai bi=c:=⟨_,rfl⟩
 obtain⟨c3,h3⟩:∃ c,cmpN ao bo=c:=⟨_,rfl⟩
 rw[h1] at i1 hfin
 rw[h2] at i2 hfin
 rw[h3] at i3 hfin
 replace h1:=Lib.hid h1
 replace h2:=Lib.hid h2
 replace h3:=Lib.hid h3
 obtain⟨c,hc⟩:∃ c,orN [c1,c2,c3]=c:=⟨_,rfl⟩
 rw[hc] at hfin
 replace hc:=Lib.hid hc
 clear f1 f2 f3 hB1 hB2
 replace hs1:=Lib.hid hs1
 replace hs2:=Lib.hid hs2
 go_enter Tryz.func19,Tryz.ntmps19
 go_upto_region 1 with fail
 clear hw1 hw2
 refine wp_region_fx (by kernel_rfl) (fun W=>Below w2.heap.size w2 W) (fun i=>match i with
   | 15=>some (fun v W=>rInts (Old W) W [v] [c1,c2,c3])
   | _=>none) (fun i=>match i with
   | 4=>some (.int .i64 c1)
   | 9=>some (.int .i64 c2)
   | 14=>some (.int .i64 c3)
   | 16=>some (.int .i64 c)
   | _=>none) (by kernel_rfl) (Below.refl _ _).drew (fun w w' h hb=>h.trans (hb.mono h.size)) ?tst ?_
 case tst =>
  intro j φ x W W' hp hx hb
  match j,hp with
  | 15,hp=>cases hp;exact stab_ints.old hx hb
 repeat (first
  | (refine wpAs_skip rfl ?_;simp only[Act.put,List.setIfInBounds_toArray,List.set_cons_zero,List.set_cons_succ])
  | (refine wpAs_pure (v := ?_) rfl rfl ?_ ?_;rotate_left;(intro W hC hE;clear hE;(have z1:=(hC.cell (p:=⟨w.heap.size,0,none⟩) lt1).trans k1;have z2:=(hC.cell (p:=⟨w1.heap.size,0,none⟩) lt2).trans g1);clear hC;go_simp;done);simp only[Act.put,List.setIfInBounds_toArray,List.set_cons_zero,List.set_cons_succ])
  | (refine wpAs_pure (v := ?_) rfl rfl ?_ ?_;rotate_left;(intro W hC hE;clear hE;(have z1:=(hC.cell (p:=⟨w.heap.size,0,none⟩) lt1).trans k1;have z2:=(hC.cell (p:=⟨w1.heap.size,0,none⟩) lt2).trans g1);clear hC;go_simp;with_reducible rfl);simp only[Act.put,List.setIfInBounds_toArray,List.set_cons_zero,List.set_cons_succ]))
 refine wpAs_fixed rfl rfl rfl ?_ ?_
 ·intro W hC hE
  refine does_enter (f:=38) (args:=#[.int .u8 p,.int .u8 q]) ?_ ?_
  ·go_simp
  ·refine(compare8 p q W).mono ?_
   rintro e w' ⟨rfl,rfl⟩;rw[h1.out];have hg:=Below.refl W.heap.size W
   exact⟨_,rfl,rfl,hg⟩
 simp only[Act.put,List.setIfInBounds_toArray,List.set_cons_zero,List.set_cons_succ]
 repeat (first
  | (refine wpAs_skip rfl ?_;simp only[Act.put,List.setIfInBounds_toArray,List.set_cons_zero,List.set_cons_succ])
  | (refine wpAs_pure (v := ?_) rfl rfl ?_ ?_;rotate_left;(intro W hC hE;clear hE;(have z1:=(hC.cell (p:=⟨w.heap.size,1,none⟩) lt1).trans k2;have z2:=(hC.cell (p:=⟨w1.heap.size,1,none⟩) lt2).trans g2);clear hC;go_simp;done);simp only[Act.put,List.setIfInBounds_toArray,List.set_cons_zero,List.set_cons_succ])
  | (refine wpAs_pure (v := ?_) rfl rfl ?_ ?_;rotate_left;(intro W hC hE;clear hE;(have z1:=(hC.cell (p:=⟨w.heap.size,1,none⟩) lt1).trans k2;have z2:=(hC.cell (p:=⟨w1.heap.size,1,none⟩) lt2).trans g2);clear hC;go_simp;with_reducible rfl);simp only[Act.put,List.setIfInBounds_toArray,List.set_cons_zero,List.set_cons_succ]))
 refine wpAs_fixed rfl rfl rfl ?_ ?_
 ·intro W hC hE
  refine does_enter (f:=39) (args:=#[.int .u32 ai,.int .u32 bi]) ?_ ?_
  ·go_simp
  ·refine(compare32 ai bi W).mono ?_
   rintro e w' ⟨rfl,rfl⟩;rw[h2.out];have hg:=Below.refl W.heap.size W
   exact⟨_,rfl,rfl,hg⟩
 simp only[Act.put,List.setIfInBounds_toArray,List.set_cons_zero,List.set_cons_succ]
 repeat (first
  | (refine wpAs_skip rfl ?_;simp only[Act.put,List.setIfInBounds_toArray,List.set_cons_zero,List.set_cons_succ])
  | (refine wpAs_pure (v := ?_) rfl rfl ?_ ?_;rotate_left;(intro W hC hE;clear hE;(have z1:=(hC.cell (p:=⟨w.heap.size,2,none⟩) lt1).trans k3;have z2:=(hC.cell (p:=⟨w1.heap.size,2,none⟩) lt2).trans g3);clear hC;go_simp;done);simp only[Act.put,List.setIfInBounds_toArray,List.set_cons_zero,List.set_cons_succ])
  | (refine wpAs_pure (v := ?_) rfl rfl ?_ ?_;rotate_left;(intro W hC hE;clear hE;(have z1:=(hC.cell (p:=⟨w.heap.size,2,none⟩) lt1).trans k3;have z2:=(hC.cell (p:=⟨w1.heap.size,2,none⟩) lt2).trans g3);clear hC;go_simp;with_reducible rfl);simp only[Act.put,List.setIfInBounds_toArray,List.set_cons_zero,List.set_cons_succ]))
 refine wpAs_fixed rfl rfl rfl ?_ ?_
 ·intro W hC hE
  refine does_enter (f:=39) (args:=#[.int .u32 ao,.int .u32 bo]) ?_ ?_
  ·go_simp
  ·refine(compare32 ao bo W).mono ?_
   rintro e w' ⟨rfl,rfl⟩;rw[h3.out];have hg:=Below.refl W.heap.size W
   exact⟨_,rfl,rfl,hg⟩
 simp only[Act.put,List.setIfInBounds_toArray,List.set_cons_zero,List.set_cons_succ]
 refine wpAs_act rfl rfl ?_ ?_
 ·intro W hC hE
  clear hE
  have hl:=Lib.hid (ints_lit W 3 [c1,c2,c3] #[.int .i64 c1,.int .i64 c2,.int .i64 c3] rfl (by simp) (fun x hx=>by
   simp at hx
   rcases hx with rfl | rfl | rfl
   ·exact i1.out
   ·exact i2.out
   ·exact i3.out))
  clear hC
  go_simp
  exact⟨hl.out,(Below.refl _ _).alloc (Nat.le_refl _) _⟩
 simp only[Act.put,List.setIfInBounds_toArray,List.set_cons_zero,List.set_cons_succ,envAdd]
 intro x20
 refine wpAs_fixed rfl rfl rfl ?_ ?_
 ·intro W hC hE
  have y20:=hE.1 rfl
  refine does_enter (f:=37) (args:=#[x20]) ?_ ?_
  ·clear hE hC
   obtain⟨_,_,e,_⟩:=rInts_open y20
   cases e
   clear y20
   go_simp
  ·refine(orInt_any x20 _ W y20).mono ?_
   rintro e w' ⟨rfl,rfl⟩
   rw[hc.out]
   exact⟨_,rfl,rfl,Below.refl _ _⟩
 simp only[Act.put,List.setIfInBounds_toArray,List.set_cons_zero,List.set_cons_succ]
 repeat (first
  | (refine wpAs_skip rfl ?_;simp only[Act.put,List.setIfInBounds_toArray,List.set_cons_zero,List.set_cons_succ])
  | (refine wpAs_pure (v := ?_) rfl rfl ?_ ?_;rotate_left;(intro W hC hE;clear hE;skip;clear hC;go_simp;done);simp only[Act.put,List.setIfInBounds_toArray,List.set_cons_zero,List.set_cons_succ])
  | (refine wpAs_pure (v := ?_) rfl rfl ?_ ?_;rotate_left;(intro W hC hE;clear hE;skip;clear hC;go_simp;with_reducible rfl);simp only[Act.put,List.setIfInBounds_toArray,List.set_cons_zero,List.set_cons_succ]))
 refine wpAs_end fun W hC hE => ?_
 clear hE
 go_wp2
 go_ret
 exact⟨ret_bool (by rw[← hfin.out]),hB.out.trans (hC.mono hB.out.size)⟩
end Go.Proofs.YtogieepfimpdmaaGreat
/-
 Package item and the document's answers of layer 5: Check. Conditions: those that each lemma states.
-/
namespace Go.Proofs.YtogieepfimpdmaaGreat
open Go.RowKit
theorem may_ways (s:It) (n:Nat) (hn:s.2.2.length=n):(s.2.1=0∧n≤12∧mayI s=true)∨(s.2.1=0∧12<n∧mayI s=false)∨(s.2.1≠0∧s.2.1<8∧mayI s=false)∨(s.2.1≠0∧¬ s.2.1<8∧256≤s.2.1∧mayI s=false)∨(s.2.1≠0∧¬ s.2.1<8∧¬ 256≤s.2.1∧n≤12∧mayI s=true)∨(s.2.1≠0∧¬ s.2.1<8∧¬ 256≤s.2.1∧12<n∧mayI s=false):=by
 subst hn
 cases e:mayI s with
 | true =>
  have:=mayI_of e
  simp only[and_true,reduceCtorEq,and_false,or_false,false_or]
  omega
 | false =>
  have:¬ ((s.2.1=0∨(8≤s.2.1∧s.2.1<256))∧s.2.2.length≤12):=fun h=>by rw[mayI_mk h] at e;cases e
  simp only[and_true,reduceCtorEq,and_false,false_or]
  omega
set_option maxRecDepth 100000 in
set_option maxHeartbeats 2000000 in
theorem checkI_any (v:Value) (s:It) (w:World) (h:Itm (Old w) w v s):Calls Tryz.prog 16 #[v] w fun e w'=>e=.returned (.int .i64 (chkI s))∧Below w.heap.size w w':=by
 obtain⟨A,c,rfl,_,l1,m1,_⟩:=h.open
 obtain⟨n,hn⟩:∃ n,s.2.2.length=n:=⟨_,rfl⟩
 have hw:=may_ways s n hn
 unfold itV
 rw[hn] at l1 ⊢
 obtain⟨w0,hw0,f1,f2,f3,f4,f5,hs0,hB0,_⟩:=box_five w (.int .u8 (s.1.1.toNat:Int)) (.int .u32 s.1.2.1) (.int .u32 s.1.2.2) (.int .i64 s.2.1) (.slice A n c) 40
 clear f1 f2 f3 hs0 hn h
 have HB0:=Lib.hid hB0
 clear hB0
 obtain⟨r,hr⟩:∃ r,s.2.1=r:=⟨_,rfl⟩
 rw[hr] at hw f4 ⊢
 rw[hr] at hw0
 clear hr
 rcases hw with ⟨rfl,h1,hm⟩ | ⟨rfl,h1,hm⟩ | ⟨h0,h1,hm⟩ | ⟨h0,h1,h2,hm⟩ | ⟨h0,h1,h2,h3,hm⟩ | ⟨h0,h1,h2,h3,hm⟩
 ·have hc:=Lib.hid (chkI_ok hm)
  have i1:¬ (12:Int)<n:=by omega
  clear hm
  rw[hc.out]
  go_enter Tryz.func16,Tryz.ntmps16
  go_upto_region 1 with fail
  clear hw0
  go_wp2_with fail
  go_ret
  exact⟨rfl,HB0.out⟩
 ·have hc:=Lib.hid (chkI_bad hm)
  have i1:(12:Int)<n:=by omega
  clear hm
  rw[hc.out]
  go_enter Tryz.func16,Tryz.ntmps16
  go_upto_region 1 with fail
  clear hw0
  go_wp2_with fail
  go_ret
  exact⟨rfl,HB0.out⟩
 ·have hc:=Lib.hid (chkI_bad hm)
  have t0:(r != 0)=true:=by simpa using h0
  have t1:(r==0)=false:=by simpa using h0
  clear h0
  clear hm
  rw[hc.out]
  go_enter Tryz.func16,Tryz.ntmps16
  go_upto_region 1 with fail
  clear hw0
  go_wp2_with fail
  go_ret
  exact⟨rfl,HB0.out⟩
 ·have hc:=Lib.hid (chkI_bad hm)
  have t0:(r != 0)=true:=by simpa using h0
  have t1:(r==0)=false:=by simpa using h0
  clear h0
  clear hm
  rw[hc.out]
  go_enter Tryz.func16,Tryz.ntmps16
  go_upto_region 1 with fail
  clear hw0
  go_wp2_with fail
  go_ret
  exact⟨rfl,HB0.out⟩
 ·have hc:=Lib.hid (chkI_ok hm)
  have t0:(r != 0)=true:=by simpa using h0
  have t1:(r==0)=false:=by simpa using h0
  have i4:¬ (12:Int)<n:=by omega
  clear h0
  clear hm
  rw[hc.out]
  go_enter Tryz.func16,Tryz.ntmps16
  go_upto_region 1 with fail
  clear hw0
  go_wp2_with fail
  go_ret
  exact⟨rfl,HB0.out⟩
 ·have hc:=Lib.hid (chkI_bad hm)
  have t0:(r != 0)=true:=by simpa using h0
  have t1:(r==0)=false:=by simpa using h0
  have i4:(12:Int)<n:=by omega
  clear h0
  clear hm
  rw[hc.out]
  go_enter Tryz.func16,Tryz.ntmps16
  go_upto_region 1 with fail
  clear hw0
  go_wp2_with fail
  go_ret
  exact⟨rfl,HB0.out⟩
end Go.Proofs.YtogieepfimpdmaaGreat
/-
 Package item and the document's answers of layer 5: Same,Twin. Conditions: those that each lemma states.
-/
namespace Go.Proofs.YtogieepfimpdmaaGreat
open Go.RowKit
def sameI (s o:It):Bool:=decide (s=o)
theorem sameI_self (s:It):sameI s s=true:=by simp[sameI]
theorem sameI_eq {s o:It} (h:sameI s o=true):s=o:=by simpa [sameI] using h
theorem same_parts (a1 b1:UInt8) (a2 b2 a3 b3 a4 b4:Int) (a5 b5:List UInt8):sameI ((a1,a2,a3),a4,a5) ((b1,b2,b3),b4,b5)=decide ((a1.toNat:Int)=b1.toNat∧a2=b2∧a3=b3∧a4=b4∧a5=b5):=by
 unfold sameI
 rw[Bool.eq_iff_iff]
 simp only[Prod.mk.injEq,decide_eq_true_eq]
 have h:a1=b1↔(a1.toNat:Int)=b1.toNat:=⟨fun h=>by rw[h],fun h=>UInt8.toNat.inj (by omega)⟩
 rw[h]
 constructor
 ·rintro⟨⟨h1,h2,h3⟩,h4,h5⟩;exact⟨h1,h2,h3,h4,h5⟩
 ·rintro⟨h1,h2,h3,h4,h5⟩;exact⟨⟨h1,h2,h3⟩,h4,h5⟩
set_option maxRecDepth 100000 in
set_option maxHeartbeats 4000000 in
theorem sameI_any (v u:Value) (s o:It) (w:World) (hv:Itm (Old w) w v s) (hu:Itm (Old w) w u o) :
  Calls Tryz.prog 22 #[v,u] w fun e w'=>e=.returned (.bool (sameI s o))∧Below w.heap.size w w':=by
 obtain⟨A,c,rfl,_,_,_,rv⟩:=hv.open
 obtain⟨B,c',rfl,_,_,_,ru⟩:=hu.open
 obtain⟨⟨a1,a2,a3⟩,a4,a5⟩:=s
 obtain⟨⟨b1,b2,b3⟩,b4,b5⟩:=o
 unfold itV
 dsimp only at *
 have hfin:=Lib.hid (same_parts a1 b1 a2 b2 a3 b3 a4 b4 a5 b5)
 generalize sameI ((a1,a2,a3),a4,a5) ((b1,b2,b3),b4,b5)=res at hfin ⊢
 obtain⟨w1,hw1,f1,f2,f3,f4,f5,hs1,hB1,_⟩:=box_five w (.int .u8 (a1.toNat:Int)) (.int .u32 a2) (.int .u32 a3) (.int .i64 a4) (.slice A a5.length c) 40
 obtain⟨w2,hw2,g1,g2,g3,g4,g5,hs2,hB2,_⟩:=box_five w1 (.int .u8 (b1.toNat:Int)) (.int .u32 b2) (.int .u32 b3) (.int .i64 b4) (.slice B b5.length c') 40
 have hB:=hB1.trans (hB2.mono hB1.size)
 have k1:=(hB2.cell (p:=⟨w.heap.size,0,none⟩) (show w.heap.size<_ by omega)).trans f1
 have k2:=(hB2.cell (p:=⟨w.heap.size,1,none⟩) (show w.heap.size<_ by omega)).trans f2
 have k3:=(hB2.cell (p:=⟨w.heap.size,2,none⟩) (show w.heap.size<_ by omega)).trans f3
 have k4:=(hB2.cell (p:=⟨w.heap.size,3,none⟩) (show w.heap.size<_ by omega)).trans f4
 have k5:=(hB2.cell (p:=⟨w.heap.size,4,none⟩) (show w.heap.size<_ by omega)).trans f5
 have xv:=Lib.hid (stab_by.old rv hB)
 have xu:=Lib.hid (stab_by.old ru hB)
 clear f1 f2 f3 f4 f5 hv hu rv ru hB1 hB2
 replace hB:=Lib.hid hB
 replace hs1:=Lib.hid hs1
 replace hs2:=Lib.hid hs2
 replace hw2:=Lib.hid hw2
 go_enter Tryz.func22,Tryz.ntmps22
 go_upto_region 1 with fail
 rw[hw2.out]
 clear hw1 hw2
 generalize (a1.toNat:Int)=p at *
 generalize (b1.toNat:Int)=q at *
 by_cases e1:p=q
 case neg =>
  have t1:(p==q)=false:=by simpa using e1
  have hne:=Lib.hid (show res=false by rw[hfin.out];simp[e1])
  go_wp2_with fail
  go_ret
  exact⟨ret_bool hne.out.symm,hB.out⟩
 by_cases e2:a2=b2
 case neg =>
  have t1:(p==q)=true:=by simpa using e1
  have t2:(a2==b2)=false:=by simpa using e2
  have hne:=Lib.hid (show res=false by rw[hfin.out];simp[e2])
  go_wp2_with fail
  go_ret
  exact⟨ret_bool hne.out.symm,hB.out⟩
 by_cases e3:a3=b3
 case neg =>
  have t1:(p==q)=true:=by simpa using e1
  have t2:(a2==b2)=true:=by simpa using e2
  have t3:(a3==b3)=false:=by simpa using e3
  have hne:=Lib.hid (show res=false by rw[hfin.out];simp[e3])
  go_wp2_with fail
  go_ret
  exact⟨ret_bool hne.out.symm,hB.out⟩
 by_cases e4:a4=b4
 case neg =>
  have t1:(p==q)=true:=by simpa using e1
  have t2:(a2==b2)=true:=by simpa using e2
  have t3:(a3==b3)=true:=by simpa using e3
  have t4:(a4==b4)=false:=by simpa using e4
  have hne:=Lib.hid (show res=false by rw[hfin.out];simp[e4])
  clear e4
  go_wp2_with fail
  go_ret
  exact⟨ret_bool hne.out.symm,hB.out⟩
 have t4:(a4==b4)=true:=by simpa using e4
 have hne:=Lib.hid (show res=decide (a5=b5) by rw[hfin.out];simp[e1,e2,e3,e4])
 clear e4
 go_wp2_with fail
 with_reducible refine(equal_any _ _ a5 b5 _ xv.out xu.out).mono ?_
 rintro e w3 ⟨rfl,rfl⟩
 go_wp2_with fail
 go_ret
 exact⟨ret_bool hne.out.symm,hB.out⟩
theorem put_last {W:World} {g:Nat} {a b c d e u:Value} {t:TypeId} (h:W.heap[g]? = some (.cells #[a,b,c,d,e] t (0,0))):∃ W1,W.setCell ⟨g,4,none⟩ u=W1∧W1.heap[g]? = some (.cells #[a,b,c,d,u] t (0,0))∧W.grownBy W1 (some g)∧W1.heap.size=W.heap.size :=
 ⟨_,rfl,by simp[World.setCell,Array.getElem?_modify,h],grow_put (p:=⟨g,4,none⟩) (grow_refl W (some g)) rfl u,by simp⟩
set_option maxRecDepth 100000 in
set_option maxHeartbeats 4000000 in
theorem twinI_any (v:Value) (s:It) (w:World) (hbig:s.2.2.length≤1000000000) (h:Itm (Old w) w v s) :
  Calls Tryz.prog 103 #[v] w fun e w'=>∃ u,e=.returned u∧Itm (New w.heap.size w') w' u s∧Below w.heap.size w w':=by
 obtain⟨A,c,rfl,hin,_,_,rv⟩:=h.open
 obtain⟨⟨a1,a2,a3⟩,a4,a5⟩:=s
 unfold itV
 dsimp only at *
 obtain⟨w1,hw1,f1,f2,f3,f4,f5,hs1,hB1,b1⟩:=box_five w (.int .u8 (a1.toNat:Int)) (.int .u32 a2) (.int .u32 a3) (.int .i64 a4) (.slice A a5.length c) 40
 obtain⟨w2,hw2,_,_,_,_,_,hs2,hB2,b2⟩:=box_five w1 (.int .u8 0) (.int .u32 0) (.int .u32 0) (.int .i64 0) (.slice none 0 0) 40
 have hB:=hB1.trans (hB2.mono hB1.size)
 have lt1:w.heap.size<w1.heap.size:=by omega
 have lt2:w1.heap.size<w2.heap.size:=by omega
 have b1':=Lib.hid ((hB2.block w.heap.size lt1).trans b1)
 have k5:=(hB2.cell (p:=⟨w.heap.size,4,none⟩) lt1).trans f5
 have xv:=Lib.hid (stab_by.old rv hB)
 clear f1 f2 f3 f4 f5 h rv hB1 hB2 b1
 replace hB:=Lib.hid hB
 replace hs1:=Lib.hid hs1
 replace hs2:=Lib.hid hs2
 replace b2:=Lib.hid b2
 replace hw2:=Lib.hid hw2
 replace hbig:=Lib.hid hbig
 go_enter Tryz.func103,Tryz.ntmps103
 go_upto_region 1 with fail
 rw[hw2.out]
 clear hw1 hw2
 go_wp2_with fail
 with_reducible refine(clone_by _ a5 _ (by have:=hbig.out;omega) xv.out).mono ?_
 rintro e w3 ⟨u,rfl,hu,hb3⟩
 have lt3:w2.heap.size≤w3.heap.size:=hb3.size
 have c1:=(hb3.block w.heap.size (by omega)).trans b1'.out
 have c2:=(hb3.block w1.heap.size (by omega)).trans b2.out
 obtain⟨k0,k1,k2,k3,_,kf,_⟩:=five_cells c1
 obtain⟨w4,hw4,d1,gr4,gs4⟩:=put_last (u:=u) c1
 obtain⟨l0,l1,l2,l3,l4,_,_⟩:=five_cells d1
 have d2:=(gr4.block w1.heap.size (by omega) (by simp;omega)).trans c2
 obtain⟨W9,hW9,g9,gr9,gs9⟩:=put_five (u0:=.int .u8 (a1.toNat:Int)) (u1:=.int .u32 a2) (u2:=.int .u32 a3) (u3:=.int .i64 a4) (u4:=u) d2
 obtain⟨m0,m1,m2,m3,m4,_,_⟩:=five_cells g9
 obtain⟨n0,n1,n2,n3,n4,nf,_⟩:=five_cells d2
 have B3:=hB.out.trans (hb3.mono hB.out.size)
 have B4:=B3.grown gr4 B3.size (fun q e=>by cases e;omega)
 have B9:=Lib.hid (B4.grown gr9 B4.size (fun q e=>by cases e;omega))
 have hfin:Hid (Itm (New w.heap.size W9) W9 (.agg #[.int .u8 (a1.toNat:Int),.int .u32 a2,.int .u32 a3,.int .i64 a4,u]) ((a1,a2,a3),a4,a5)):=Lib.hid ⟨u,rfl,hin,by
  have h1:=stab_by.grown hu gr4 (fun q e=>by cases e;omega)
  have h2:=stab_by.grown h1 gr9 (fun q e=>by cases e;omega)
  exact stab_by.mono h2 (by omega)⟩
 obtain⟨_,_,rfl,_⟩:=id (rBy_open hu)
 clear c1 c2 d1 d2 g9 gr4 gr9 hu B3 B4 hb3 lt3
 replace hs1:=Lib.hid lt1
 replace hs2:=Lib.hid lt2
 clear lt1 lt2
 go_wp2_with fail
 exact bodyPost_ret (v:=.agg #[.int .u8 (a1.toNat:Int),.int .u32 a2,.int .u32 a3,.int .i64 a4,.slice _ _ _]) (by simp[results,Tryz.results103,go_sem,m0,m1,m2,m3,m4]) rfl ⟨_,rfl,hfin.out,B9.out⟩
end Go.Proofs.YtogieepfimpdmaaGreat
/-
 Package item: Write. Conditions: those that each lemma states.
-/
namespace Go.Proofs.YtogieepfimpdmaaGreat
open Go.RowKit
theorem itB_flat (s:It):[[s.1.1],le 4 s.1.2.1,le 4 s.1.2.2,le 2 s.2.1,[UInt8.ofNat s.2.2.length],s.2.2].flatten=itB s:=by simp[itB]
set_option maxRecDepth 100000 in
set_option maxHeartbeats 8000000 in
theorem itWrite_ok (v:Value) (s:It) (w:World) (h:Itm (Old w) w v s) (hm:mayI s=true) :
  Calls Tryz.prog 88 #[v] w fun e w'=>∃ u,e=.returned (.tuple #[u,.int .i64 0])∧rBy (New w.heap.size w') w' [u] (itB s)∧Below w.heap.size w w':=by
 have hmay:=mayI_of hm
 have hchk:=Lib.hid (chkI_ok hm)
 have hlen:=Lib.hid (itB_length s)
 obtain⟨A,c,rfl,hin,l1,m1,rv⟩:=h.open
 obtain⟨⟨⟨g0,g1⟩,⟨n0,n1⟩⟩,_⟩:=hin
 have hhead:=Lib.hid (itB_flat s)
 obtain⟨w0,hw0,f1,f2,f3,f4,f5,hs0,hB0,_⟩:=box_five w (.int .u8 (s.1.1.toNat:Int)) (.int .u32 s.1.2.1) (.int .u32 s.1.2.2) (.int .i64 s.2.1) (.slice A s.2.2.length c) 40
 have H0:=Lib.hid (h.below hB0)
 have RV:=Lib.hid (stab_by.old rv hB0)
 clear rv
 obtain⟨n,hn⟩:∃ n,s.2.2.length=n:=⟨_,rfl⟩
 unfold itV at H0 ⊢
 rw[hn] at l1 f5 H0 hw0 RV hmay hlen hhead ⊢
 have h12:n≤12:=hmay.2
 have hr0:0≤s.2.1∧s.2.1<65536:=by have:=hmay.1;omega
 have hu8:((UInt8.ofNat n).toNat:Int)=(n:Int):=by
  rw[UInt8.toNat_ofNat']
  omega
 have HU:=Lib.hid hu8
 have HWR:=Lib.hid (show IntKind.u8.wrap (n:Int)=n by rw[IntKind.wrap_u8'];omega)
 obtain⟨p,hp⟩:∃ p:Int,(s.1.1.toNat:Int)=p:=⟨_,rfl⟩
 have HP:=Lib.hid hp
 rw[hp] at f1 hw0 H0 ⊢
 clear hp hmay
 replace hn:=Lib.hid hn
 have lt0:w.heap.size<w0.heap.size:=by omega
 have HB0:=Lib.hid hB0
 clear hB0 hs0 h hu8
 go_enter Tryz.func88,Tryz.ntmps88
 go_upto_region 1 with fail
 clear hw0
 go_wp2_with fail
 with_reducible refine(checkI_any _ s _ H0.out).mono ?_
 rintro e1 w1 ⟨rfl,hb1⟩
 rw[hchk.out]
 have B1:=Lib.hid hb1
 replace f1:=(hb1.cell (p:=⟨w.heap.size,0,none⟩) lt0).trans f1
 replace f2:=(hb1.cell (p:=⟨w.heap.size,1,none⟩) lt0).trans f2
 replace f3:=(hb1.cell (p:=⟨w.heap.size,2,none⟩) lt0).trans f3
 replace f4:=(hb1.cell (p:=⟨w.heap.size,3,none⟩) lt0).trans f4
 replace f5:=(hb1.cell (p:=⟨w.heap.size,4,none⟩) lt0).trans f5
 clear hb1 H0
 go_wp2_with fail
 with_reducible refine(two_by s.2.1 hr0.1 hr0.2 _).mono ?_
 rintro e2 w2 ⟨A2,rfl,y2,hb2⟩
 have lt1:w.heap.size<w1.heap.size:=Nat.lt_of_lt_of_le lt0 B1.out.size
 replace f1:=(hb2.cell (p:=⟨w.heap.size,0,none⟩) lt1).trans f1
 replace f2:=(hb2.cell (p:=⟨w.heap.size,1,none⟩) lt1).trans f2
 replace f3:=(hb2.cell (p:=⟨w.heap.size,2,none⟩) lt1).trans f3
 replace f5:=(hb2.cell (p:=⟨w.heap.size,4,none⟩) lt1).trans f5
 have B2:=Lib.hid (B1.out.trans (hb2.mono B1.out.size))
 replace y2:=Lib.hid y2
 replace RV:=Lib.hid (stab_by.old RV.out B2.out)
 have lt2:w.heap.size<w2.heap.size:=Nat.lt_of_lt_of_le lt1 hb2.size
 clear f4 hb2
 go_wp2_with fail
 refine wp_region_as (by kernel_rfl) (fun W=>Below w2.heap.size w2 W) (fun i=>match i with
   | 3=>some (fun v W=>rBy (Old W) W [v] [s.1.1])
   | 7=>some (fun v W=>rBy (Old W) W [v] (le 4 s.1.2.1))
   | 11=>some (fun v W=>rBy (Old W) W [v] (le 4 s.1.2.2))
   | 17=>some (fun v W=>rBy (Old W) W [v] [UInt8.ofNat n])
   | 20=>some (fun v W=>rSl 1 rBy (Old W) W [v] [[s.1.1],le 4 s.1.2.1,le 4 s.1.2.2,le 2 s.2.1,[UInt8.ofNat n],s.2.2])
   | 21=>some (fun v W=>rBy (New w2.heap.size W) W [v] (itB s))
   | _=>none) (by kernel_rfl) (Below.refl _ _).drew (fun w w' h hb=>h.trans (hb.mono h.size)) ?tst ?_
 case tst =>
  intro j φ x W W' hp hx hb
  match j,hp with
  | 3,hp=>cases hp;exact stab_by.old hx hb
  | 7,hp=>cases hp;exact stab_by.old hx hb
  | 11,hp=>cases hp;exact stab_by.old hx hb
  | 17,hp=>cases hp;exact stab_by.old hx hb
  | 20,hp=>cases hp;exact(stab_sl stab_by).old hx hb
  | 21,hp=>cases hp;exact stab_by.new hx (Nat.le_refl _) hb
 repeat (first
  | (refine wpAs_skip rfl ?_;simp only[Act.put,List.setIfInBounds_toArray,List.set_cons_zero,List.set_cons_succ])
  | (refine wpAs_pure (v := ?_) rfl rfl ?_ ?_;rotate_left;(intro W hC hE;clear hE;(have z1:=(hC.cell (p:=⟨w.heap.size,0,none⟩) lt2).trans f1);clear hC;go_simp;done);simp only[Act.put,List.setIfInBounds_toArray,List.set_cons_zero,List.set_cons_succ])
  | (refine wpAs_pure (v := ?_) rfl rfl ?_ ?_;rotate_left;(intro W hC hE;clear hE;(have z1:=(hC.cell (p:=⟨w.heap.size,0,none⟩) lt2).trans f1);clear hC;go_simp;with_reducible rfl);simp only[Act.put,List.setIfInBounds_toArray,List.set_cons_zero,List.set_cons_succ]))
 refine wpAs_act rfl rfl ?_ ?_
 ·intro W hC hE
  clear hE hC
  have hy2:=Lib.hid (byte_lit W 5 s.1.1 p HP.out)
  go_simp
  exact⟨hy2.out,(Below.refl _ _).alloc (Nat.le_refl _) _⟩
 simp only[Act.put,List.setIfInBounds_toArray,List.set_cons_zero,List.set_cons_succ,envAdd]
 intro x24
 repeat (first
  | (refine wpAs_skip rfl ?_;simp only[Act.put,List.setIfInBounds_toArray,List.set_cons_zero,List.set_cons_succ])
  | (refine wpAs_pure (v := ?_) rfl rfl ?_ ?_;rotate_left;(intro W hC hE;clear hE;(have z2:=(hC.cell (p:=⟨w.heap.size,1,none⟩) lt2).trans f2);clear hC;go_simp;done);simp only[Act.put,List.setIfInBounds_toArray,List.set_cons_zero,List.set_cons_succ])
  | (refine wpAs_pure (v := ?_) rfl rfl ?_ ?_;rotate_left;(intro W hC hE;clear hE;(have z2:=(hC.cell (p:=⟨w.heap.size,1,none⟩) lt2).trans f2);clear hC;go_simp;with_reducible rfl);simp only[Act.put,List.setIfInBounds_toArray,List.set_cons_zero,List.set_cons_succ]))
 refine wpAs_act rfl rfl ?_ ?_
 ·intro W hC hE
  clear hE
  refine does_enter (f:=110) (args:=#[.int .u32 s.1.2.1]) ?_ ?_
  ·go_simp
  ·refine(four_by s.1.2.1 g0 g1 W).mono ?_
   rintro e W' ⟨_,_,rfl,hy,hb⟩
   exact⟨_,rfl,hy,hb⟩
 simp only[Act.put,List.setIfInBounds_toArray,List.set_cons_zero,List.set_cons_succ,envAdd]
 intro x28
 repeat (first
  | (refine wpAs_skip rfl ?_;simp only[Act.put,List.setIfInBounds_toArray,List.set_cons_zero,List.set_cons_succ])
  | (refine wpAs_pure (v := ?_) rfl rfl ?_ ?_;rotate_left;(intro W hC hE;clear hE;(have z3:=(hC.cell (p:=⟨w.heap.size,2,none⟩) lt2).trans f3);clear hC;go_simp;done);simp only[Act.put,List.setIfInBounds_toArray,List.set_cons_zero,List.set_cons_succ])
  | (refine wpAs_pure (v := ?_) rfl rfl ?_ ?_;rotate_left;(intro W hC hE;clear hE;(have z3:=(hC.cell (p:=⟨w.heap.size,2,none⟩) lt2).trans f3);clear hC;go_simp;with_reducible rfl);simp only[Act.put,List.setIfInBounds_toArray,List.set_cons_zero,List.set_cons_succ]))
 refine wpAs_act rfl rfl ?_ ?_
 ·intro W hC hE
  clear hE
  refine does_enter (f:=110) (args:=#[.int .u32 s.1.2.2]) ?_ ?_
  ·go_simp
  ·refine(four_by s.1.2.2 n0 n1 W).mono ?_
   rintro e W' ⟨_,_,rfl,hy,hb⟩
   exact⟨_,rfl,hy,hb⟩
 simp only[Act.put,List.setIfInBounds_toArray,List.set_cons_zero,List.set_cons_succ,envAdd]
 intro x32
 repeat (first
  | (refine wpAs_skip rfl ?_;simp only[Act.put,List.setIfInBounds_toArray,List.set_cons_zero,List.set_cons_succ])
  | (refine wpAs_pure (v := ?_) rfl rfl ?_ ?_;rotate_left;(intro W hC hE;clear hE;(have hwz:=HWR.out;have z5:=(hC.cell (p:=⟨w.heap.size,4,none⟩) lt2).trans f5);clear hC;go_simp;done);simp only[Act.put,List.setIfInBounds_toArray,List.set_cons_zero,List.set_cons_succ])
  | (refine wpAs_pure (v := ?_) rfl rfl ?_ ?_;rotate_left;(intro W hC hE;clear hE;(have hwz:=HWR.out;have z5:=(hC.cell (p:=⟨w.heap.size,4,none⟩) lt2).trans f5);clear hC;go_simp;with_reducible rfl);simp only[Act.put,List.setIfInBounds_toArray,List.set_cons_zero,List.set_cons_succ]))
 refine wpAs_act rfl rfl ?_ ?_
 ·intro W hC hE
  clear hE hC
  have hy2:=Lib.hid (byte_lit W 5 (UInt8.ofNat n) (n:Int) HU.out)
  go_simp
  exact⟨hy2.out,(Below.refl _ _).alloc (Nat.le_refl _) _⟩
 simp only[Act.put,List.setIfInBounds_toArray,List.set_cons_zero,List.set_cons_succ,envAdd]
 intro x38
 repeat (first
  | (refine wpAs_skip rfl ?_;simp only[Act.put,List.setIfInBounds_toArray,List.set_cons_zero,List.set_cons_succ])
  | (refine wpAs_pure (v := ?_) rfl rfl ?_ ?_;rotate_left;(intro W hC hE;clear hE;(have z5:=(hC.cell (p:=⟨w.heap.size,4,none⟩) lt2).trans f5);clear hC;go_simp;done);simp only[Act.put,List.setIfInBounds_toArray,List.set_cons_zero,List.set_cons_succ])
  | (refine wpAs_pure (v := ?_) rfl rfl ?_ ?_;rotate_left;(intro W hC hE;clear hE;(have z5:=(hC.cell (p:=⟨w.heap.size,4,none⟩) lt2).trans f5);clear hC;go_simp;with_reducible rfl);simp only[Act.put,List.setIfInBounds_toArray,List.set_cons_zero,List.set_cons_succ]))
 refine wpAs_act rfl rfl ?_ ?_
 ·intro W hC hE
  have y38:=hE.1 rfl
  have y32:=hE.2.1 rfl
  have y28:=hE.2.2.1 rfl
  have y24:=hE.2.2.2.1 rfl
  have hl6:=Lib.hid (rows_lit W 27 [x24,x28,x32,.slice A2 2 2,x38,.slice A n c] [[s.1.1],le 4 s.1.2.1,le 4 s.1.2.2,le 2 s.2.1,[UInt8.ofNat n],s.2.2] rfl (by simp) (fun i v x h1 h2=>by
   match i,h1,h2 with
   | 0,h1,h2=>cases h1;cases h2;exact y24
   | 1,h1,h2=>cases h1;cases h2;exact y28
   | 2,h1,h2=>cases h1;cases h2;exact y32
   | 3,h1,h2=>cases h1;cases h2;exact stab_by.old y2.out hC
   | 4,h1,h2=>cases h1;cases h2;exact y38
   | 5,h1,h2=>cases h1;cases h2;exact stab_by.old RV.out hC))
  obtain⟨_,_,rfl,_⟩:=rBy_open y24
  obtain⟨_,_,rfl,_⟩:=rBy_open y28
  obtain⟨_,_,rfl,_⟩:=rBy_open y32
  obtain⟨_,_,rfl,_⟩:=rBy_open y38
  clear hE hC y24 y28 y32 y38
  go_simp
  exact⟨hl6.out,(Below.refl _ _).alloc (Nat.le_refl _) _⟩
 simp only[Act.put,List.setIfInBounds_toArray,List.set_cons_zero,List.set_cons_succ,envAdd]
 intro x41
 refine wpAs_act rfl rfl ?_ ?_
 ·intro W hC hE
  have y41:=hE.1 rfl
  have hlen2:lens [[s.1.1],le 4 s.1.2.1,le 4 s.1.2.2,le 2 s.2.1,[UInt8.ofNat n],s.2.2]=12+n:=by
   unfold lens
   rw[hhead.out,hlen.out]
  refine does_enter (f:=109) (args:=#[x41]) ?_ ?_
  ·clear hE hC hlen2
   obtain⟨_,_,e,_⟩:=rows_open y41
   cases e
   clear y41
   go_simp
  ·refine(concat_any x41 _ W (by rw[hlen2];omega) y41).mono ?_
   rintro e W' ⟨u,rfl,ho,hb⟩
   rw[hlen2,hhead.out] at ho
   exact⟨_,rfl,stab_by.mono (own_by ho) hC.size,hb⟩
 simp only[Act.put,List.setIfInBounds_toArray,List.set_cons_zero,List.set_cons_succ,envAdd]
 intro x42
 refine wpAs_pure (v:=x42) rfl rfl ?_ ?_
 ·intro W hC hE
  clear hE hC
  go_simp
 simp only[Act.put,List.setIfInBounds_toArray,List.set_cons_zero,List.set_cons_succ]
 repeat (first
  | (refine wpAs_skip rfl ?_;simp only[Act.put,List.setIfInBounds_toArray,List.set_cons_zero,List.set_cons_succ])
  | (refine wpAs_pure (v := ?_) rfl rfl ?_ ?_;rotate_left;(intro W hC hE;clear hE;skip;clear hC;go_simp;done);simp only[Act.put,List.setIfInBounds_toArray,List.set_cons_zero,List.set_cons_succ])
  | (refine wpAs_pure (v := ?_) rfl rfl ?_ ?_;rotate_left;(intro W hC hE;clear hE;skip;clear hC;go_simp;with_reducible rfl);simp only[Act.put,List.setIfInBounds_toArray,List.set_cons_zero,List.set_cons_succ]))
 refine wpAs_end fun W hC hE => ?_
 have o42:=Lib.hid hE.1
 clear hE
 have BW:=Lib.hid (HB0.out.trans ((B2.out.trans (hC.mono B2.out.size)).mono HB0.out.size))
 clear hC
 go_wp2_with fail
 go_ret2
 exact⟨_,rfl,stab_by.mono o42.out (Nat.le_of_lt lt2),BW.out⟩
theorem itWrite_any (v:Value) (s:It) (w:World) (h:Itm (Old w) w v s) :
  Calls Tryz.prog 88 #[v] w fun e w'=>∃ u,e=.returned (.tuple #[u,.int .i64 (chkI s)])∧rBy (New w.heap.size w') w' [u] (wrI s)∧Below w.heap.size w w':=by
 cases hm:mayI s with
 | true =>
  rw[chkI_ok hm,show wrI s=itB s by simp[wrI,hm]]
  exact itWrite_ok v s w h hm
 | false =>
  rw[chkI_bad hm,show wrI s=[] by simp[wrI,hm]]
  have hchk:=Lib.hid (chkI_bad hm)
  replace hm:=Lib.hid hm
  obtain⟨A,c,rfl,_⟩:=h.open
  obtain⟨w0,hw0,f1,f2,f3,f4,f5,hs0,hB0,_⟩:=box_five w (.int .u8 (s.1.1.toNat:Int)) (.int .u32 s.1.2.1) (.int .u32 s.1.2.2) (.int .i64 s.2.1) (.slice A s.2.2.length c) 40
  have H0:=Lib.hid (h.below hB0)
  have HB0:=Lib.hid hB0
  clear hB0 hs0 h
  go_enter Tryz.func88,Tryz.ntmps88
  go_upto_region 1 with fail
  clear hw0
  go_wp2_with fail
  with_reducible refine(checkI_any _ s _ H0.out).mono ?_
  rintro e1 w1 ⟨rfl,hb1⟩
  rw[hchk.out]
  have BF:=Lib.hid (HB0.out.trans (hb1.mono HB0.out.size))
  clear hb1
  go_wp2_with fail
  go_ret2
  exact⟨_,rfl,rBy_nil_new _ _,BF.out⟩
end Go.Proofs.YtogieepfimpdmaaGreat
/-
 Package item: cut,fields,Read. Conditions: those that each lemma states.
-/
namespace Go.Proofs.YtogieepfimpdmaaGreat
open Go.RowKit
def cutN (b:List UInt8):Nat:=(b[11]?.getD 0).toNat
theorem cutN_lt (b:List UInt8):cutN b<256:=(b[11]?.getD 0).toNat_lt
def okC (b:List UInt8):Bool:=decide (12+cutN b≤b.length)
def cutV (b:List UInt8):List UInt8:=if okC b then (b.drop 12).take (cutN b) else []
def cutE (b:List UInt8):Int:=if okC b then 0 else 8
def fieldsI (b:List UInt8):It:=((b[0]?.getD 0,gv 4 b 1,gv 4 b 5),gv 2 b 9,(b.drop 12).take (cutN b))
def fldI (b:List UInt8):It:=if okC b then fieldsI b else zeroI
theorem okC_yes {b:List UInt8} (h:okC b=true):12+cutN b≤b.length:=by simpa [okC] using h
theorem okC_no {b:List UInt8} (h:okC b=false):¬ 12+cutN b≤b.length:=by simpa [okC] using h
theorem inI_fields (b:List UInt8):InI (fieldsI b):=⟨⟨gv4_in _ _,gv4_in _ _⟩,gv2_in _ _⟩
theorem fieldsI_length {b:List UInt8} (h:okC b=true):(fieldsI b).2.2.length=cutN b:=by
 have:=okC_yes h
 simp[fieldsI]
 omega
def okR (b:List UInt8):Bool:=okC b&&mayI (fldI b)
def itR (b:List UInt8):It:=if okR b then fieldsI b else zeroI
def itN (b:List UInt8):Int:=if okR b then (12+cutN b:Int) else 0
def itE (b:List UInt8):Int:=if okR b then 0 else 8
theorem rBy_part {ok:Addr→Prop} {w:World} {ad:Addr} {n c:Nat} {b:List UInt8} (h:rBy ok w [.slice (some ad) n c] b) (k m cap:Nat) (hk:k+m≤b.length) (hm:m≤cap) (hc:cap≤9223372036854775807):rBy ok w [.slice (some (ad.add k)) m cap] ((b.drop k).take m):=by
 obtain⟨A,c',e,_,_,h4⟩:=h
 cases e
 have hl:((b.drop k).take m).length=m:=by simp;omega
 refine⟨some (ad.add k),cap,by rw[hl],by rw[hl];exact hm,hc,fun i x hi => ?_⟩
 have him:i<m:=by rw[← hl];exact(List.getElem?_eq_some_iff.1 hi).1
 have hi':b[k+i]? = some x:=by
  rw[List.getElem?_take_of_lt him,List.getElem?_drop] at hi
  exact hi
 obtain⟨ad',vs,e1,e2,e3,e4⟩:=h4 (k+i) x hi'
 cases e1
 refine⟨ad.add k,vs,rfl,e2,fun j v hj => ?_,e4⟩
 have:=e3 j v hj
 rw[add_add',show k+(i*1+j)=(k+i)*1+j by omega]
 exact this
theorem rBy_part0 (ok:Addr→Prop) (w:World) (A:Option Addr):rBy ok w [.slice A 0 0] []:=⟨A,0,rfl,by simp,by omega,fun i x h=>by simp at h⟩
set_option maxRecDepth 100000 in
set_option maxHeartbeats 2000000 in
theorem cut_any (ok:Addr→Prop) (v:Value) (b:List UInt8) (w:World) (h:rBy ok w [v] b) :
  Calls Tryz.prog 120 #[v] w fun e w'=>∃ u,e=.returned (.tuple #[u,.int .i64 (cutE b)])∧rBy ok w' [u] (cutV b)∧w=w':=by
 obtain⟨A,c,rfl,l1,m1,hy⟩:=rBy_open h
 obtain⟨n,hn⟩:∃ n,b.length=n:=⟨_,rfl⟩
 have hcn:=cutN_lt b
 cases hok:okC b with
 | false =>
  have hno:=okC_no hok
  have hE:=Lib.hid (show cutE b=8 by simp[cutE,hok])
  have hV:=Lib.hid (show cutV b=[] by simp[cutV,hok])
  rw[hE.out,hV.out]
  by_cases h12:n<12
  ·have i1:(n:Int)<12:=by omega
   rw[hn] at l1 ⊢
   clear hok hno hn hy h
   go_enter Tryz.func120,Tryz.ntmps120
   go_wp2_with fail
   go_ret2
   exact⟨_,rfl,rBy_part0 _ _ _,rfl⟩
  ·obtain⟨ad,rfl,_,hc⟩:=hy 11 (by omega)
   have h11:w.cell? ⟨ad.block,ad.off+11,none⟩=some (.int .u8 (cutN b:Int)):=by simpa [Addr.add,cutN] using hc
   obtain⟨k,hk⟩:∃ k,cutN b=k:=⟨_,rfl⟩
   rw[hk] at h11 hno hcn
   rw[hn] at l1 hno ⊢
   have i1:¬ (n:Int)<12:=by omega
   have i2:(n:Int)<12+k:=by omega
   clear hok hno hn hy h hc hk
   go_enter Tryz.func120,Tryz.ntmps120
   go_wp2_with fail
   go_ret2
   exact⟨_,rfl,rBy_part0 _ _ _,rfl⟩
 | true =>
  have hyes:=okC_yes hok
  have hE:=Lib.hid (show cutE b=0 by simp[cutE,hok])
  have hV:=Lib.hid (show cutV b=(b.drop 12).take (cutN b) by simp[cutV,hok])
  rw[hE.out,hV.out]
  obtain⟨ad,rfl,_,hc⟩:=hy 11 (by omega)
  have h11:w.cell? ⟨ad.block,ad.off+11,none⟩=some (.int .u8 (cutN b:Int)):=by simpa [Addr.add,cutN] using hc
  obtain⟨k,hk⟩:∃ k,cutN b=k:=⟨_,rfl⟩
  rw[hk] at h11 hyes hcn ⊢
  rw[hn] at l1 hyes ⊢
  have i1:¬ (n:Int)<12:=by omega
  have i2:¬ (n:Int)<12+k:=by omega
  clear hok hE hV hc
  rcases Nat.eq_zero_or_pos k with h0 | h0
  ·subst h0
   rw[List.take_zero]
   go_enter Tryz.func120,Tryz.ntmps120
   go_wp2_with fail
   go_ret2
   exact⟨_,rfl,rBy_part0 _ _ _,rfl⟩
  ·have hfin:Hid (rBy ok w [.slice (some ⟨ad.block,ad.off+12,none⟩) k k] ((b.drop 12).take k)):=Lib.hid (by
    have h1:ad.add 12=⟨ad.block,ad.off+12,none⟩:=by simp[Addr.add]
    have h2:=rBy_part h 12 k k (by omega) (Nat.le_refl _) (by omega)
    rwa [h1] at h2)
   have h0':¬ k=0:=by omega
   clear hy h hn hk
   go_enter Tryz.func120,Tryz.ntmps120
   go_wp2_with fail
   go_ret2
   exact⟨_,rfl,hfin.out,rfl⟩
theorem orN_no {a b c:Int} (ha:a=0∨a=8) (hb:b=0∨b=8) (hc:c=0∨c=8):orN [a,b,c,8]=8:=by
 rcases ha with rfl | rfl <;> rcases hb with rfl | rfl <;> rcases hc with rfl | rfl <;> rfl
theorem ge_ways (m n:Nat) (k:Int):ge m n k=0∨ge m n k=8:=by
 unfold ge
 split
 ·exact Or.inl rfl
 ·exact Or.inr rfl
theorem errs_in {e:Int} (h:e=0∨e=8):In64 e:=by
 rcases h with rfl | rfl <;> exact⟨by decide,by decide⟩
set_option maxRecDepth 100000 in
set_option maxHeartbeats 8000000 in
theorem fieldsI_any (ok:Addr→Prop) (v:Value) (b:List UInt8) (w:World) (hok0:∀ p,ok p→p.block<w.heap.size) (h:rBy ok w [v] b) :
  Calls Tryz.prog 102 #[v] w fun e w'=>∃ u,e=.returned (.tuple #[u,.int .i64 (cutE b)])∧Itm ok w' u (fldI b)∧Below w.heap.size w w':=by
 obtain⟨A,c,rfl,l1,m1,hy⟩:=rBy_byt (B:=w.heap.size) hok0 h
 obtain⟨n,hn⟩:∃ n,b.length=n:=⟨_,rfl⟩
 have hin:=Lib.hid (inI_fields b)
 have HO:=Lib.hid hok0
 have hhead:okC b=true→∃ ad,A=some ad∧Old w ad∧w.cell? ad=some (.int .u8 ((b[0]?.getD 0).toNat:Int)):=fun hk=>by
  have:=okC_yes hk
  obtain⟨ad,rfl,hb,hc⟩:=hy (by omega)
  exact⟨ad,rfl,hb,by have:=hc 0 (by omega);simpa [Addr.add] using this⟩
 replace hhead:=Lib.hid hhead
 have hF:Hid (fldI b=if okC b then fieldsI b else zeroI):=Lib.hid rfl
 have hE:Hid (cutE b=if okC b then 0 else 8):=Lib.hid rfl
 have hV:Hid (cutV b=if okC b then (b.drop 12).take (cutN b) else []):=Lib.hid rfl
 have hg1:=ge_ways 4 n 1
 have hg2:=ge_ways 4 n 5
 have hg3:=ge_ways 2 n 9
 have hgy:Hid (okC b=true→ge 4 n 1=0∧ge 4 n 5=0∧ge 2 n 9=0):=Lib.hid (fun hk=>by
  have:=okC_yes hk
  exact⟨ge_yes (by omega),ge_yes (by omega),ge_yes (by omega)⟩)
 rw[hn] at l1 h ⊢
 have HL:=Lib.hid hn
 have HY:=Lib.hid hy
 have HV:=Lib.hid h
 obtain⟨w0,hw0,_,_,_,_,_,hs0,hB0,b0⟩:=box_five w (.int .u8 0) (.int .u32 0) (.int .u32 0) (.int .i64 0) (.slice none 0 0) 40
 have lt0:w.heap.size<w0.heap.size:=by omega
 have HB0:=Lib.hid hB0
 replace b0:=Lib.hid b0
 replace hw0:=Lib.hid hw0
 obtain⟨x0,hx0⟩:∃ x,b[0]?.getD 0=x:=⟨_,rfl⟩
 obtain⟨x1,hx1⟩:∃ x,gv 4 b 1=x:=⟨_,rfl⟩
 obtain⟨x2,hx2⟩:∃ x,gv 4 b 5=x:=⟨_,rfl⟩
 obtain⟨x3,hx3⟩:∃ x,gv 2 b 9=x:=⟨_,rfl⟩
 obtain⟨e1,he1⟩:∃ x,ge 4 n 1=x:=⟨_,rfl⟩
 obtain⟨e2,he2⟩:∃ x,ge 4 n 5=x:=⟨_,rfl⟩
 obtain⟨e3,he3⟩:∃ x,ge 2 n 9=x:=⟨_,rfl⟩
 rw[hx0] at hhead
 rw[he1] at hg1 hgy
 rw[he2] at hg2 hgy
 rw[he3] at hg3 hgy
 have hFE:=Lib.hid (show fieldsI b=((x0,x1,x2),x3,(b.drop 12).take (cutN b)) by rw[← hx0,← hx1,← hx2,← hx3];rfl)
 replace hx0:=Lib.hid hx0
 replace hx1:=Lib.hid hx1
 replace hx2:=Lib.hid hx2
 replace hx3:=Lib.hid hx3
 replace he1:=Lib.hid he1
 replace he2:=Lib.hid he2
 replace he3:=Lib.hid he3
 replace hg1:=Lib.hid hg1
 replace hg2:=Lib.hid hg2
 replace hg3:=Lib.hid hg3
 clear hB0 hs0 h hy hn hok0
 go_enter Tryz.func102,Tryz.ntmps102
 go_upto_region 1 with fail
 rw[hw0.out]
 clear hw0
 go_wp2_with fail
 with_reducible refine(getFour_any _ n c 1 b HL l1 m1 _ ((HY.out.below HB0.out).more HB0.out.size)).mono ?_
 rintro f1 w1 ⟨rfl,hb1⟩
 rw[he1.out,hx1.out]
 have B1:=Lib.hid (HB0.out.trans (hb1.mono HB0.out.size))
 have C1:=Lib.hid hb1
 clear hb1
 go_wp2_with fail
 with_reducible refine(getFour_any _ n c 5 b HL l1 m1 _ ((HY.out.below B1.out).more B1.out.size)).mono ?_
 rintro f2 w2 ⟨rfl,hb2⟩
 rw[he2.out,hx2.out]
 have B2:=Lib.hid (B1.out.trans (hb2.mono B1.out.size))
 have C2:=Lib.hid (C1.out.trans (hb2.mono C1.out.size))
 clear hb2
 go_wp2_with fail
 with_reducible refine(getTwo_any _ n c 9 b HL l1 m1 _ ((HY.out.below B2.out).more B2.out.size)).mono ?_
 rintro f3 w3 ⟨rfl,hb3⟩
 rw[he3.out,hx3.out]
 have B3:=Lib.hid (B2.out.trans (hb3.mono B2.out.size))
 have C3:=Lib.hid (C2.out.trans (hb3.mono C2.out.size))
 clear hb3
 go_wp2_with fail
 have hv3:Hid (rBy ok w3 [.slice A n c] b):=Lib.hid (stab_by _ _ _ _ _ _ (fun p v hp hc=>⟨hp,(B3.out.cell (HO.out p hp)).trans hc⟩) HV.out)
 with_reducible refine(cut_any ok _ b _ hv3.out).mono ?_
 rintro f4 w4 ⟨u,rfl,hu,rfl⟩
 cases hok:okC b with
 | false =>
  have hq:=Lib.hid (show cutE b=8 by rw[hE.out,hok];rfl)
  have hz:=Lib.hid (show fldI b=zeroI by rw[hF.out,hok];rfl)
  rw[hq.out]
  obtain⟨w6,hw6,h6⟩:∃ w6,w3.alloc (.cells #[.int .i64 e1,.int .i64 e2,.int .i64 e3,.int .i64 8] 33)=w6∧rInts (Old w6) w6 [.slice (some ⟨w3.heap.size,0,none⟩) 4 4] [e1,e2,e3,8] :=
   ⟨_,rfl,ints_lit w3 33 [e1,e2,e3,8] _ rfl (by simp) (fun x hx=>by
    simp at hx
    rcases hx with rfl | rfl | rfl | rfl
    ·exact errs_in hg1.out
    ·exact errs_in hg2.out
    ·exact errs_in hg3.out
    ·exact⟨by decide,by decide⟩)⟩
  have b6:Below w3.heap.size w3 w6:=by rw[← hw6];exact(Below.refl _ _).alloc (Nat.le_refl _) _
  have B6:=Lib.hid (B3.out.trans (b6.mono B3.out.size))
  have C6:=Lib.hid (C3.out.trans (b6.mono C3.out.size))
  have hor:=Lib.hid (orN_no hg1.out hg2.out hg3.out)
  replace h6:=Lib.hid h6
  replace hok:=Lib.hid hok
  obtain⟨_,_,rfl,_⟩:=id (rBy_open hu)
  clear b6 hu
  go_wp2_with fail
  with_reducible refine(or_any _ [e1,e2,e3,8] _ h6.out).mono ?_
  rintro f7 w7 ⟨rfl,rfl⟩
  rw[hor.out]
  clear hw6
  have b9:=(C6.out.block w.heap.size lt0).trans b0.out
  obtain⟨W9,hW9,g9,gr9,gs9⟩:=put_five (u0:=.int .u8 0) (u1:=.int .u32 0) (u2:=.int .u32 0) (u3:=.int .i64 0) (u4:=.slice none 0 0) b9
  obtain⟨k0,k1,k2,k3,k4,_,_⟩:=five_cells g9
  obtain⟨a0,a1,a2,a3,a4,af,_⟩:=five_cells b9
  have B9:=Lib.hid (B6.out.grown gr9 B6.out.size (fun q e=>by cases e;omega))
  replace b9:=Lib.hid b9
  clear g9 gr9
  go_wp2_with fail
  exact bodyPost_ret (v:=.tuple #[.agg #[.int .u8 0,.int .u32 0,.int .u32 0,.int .i64 0,.slice none 0 0],.int .i64 8]) (by simp[results,Tryz.results102,go_sem,k0,k1,k2,k3,k4]) rfl ⟨_,ret_two hq.out.symm,by rw[hz.out];exact itm_zero _ _,B9.out⟩
 | true =>
  have hq:=Lib.hid (show cutE b=0 by rw[hE.out,hok];rfl)
  have hz:=Lib.hid (show fldI b=fieldsI b by rw[hF.out,hok];rfl)
  have hv:=Lib.hid (show cutV b=(b.drop 12).take (cutN b) by rw[hV.out,hok];rfl)
  obtain⟨rfl,rfl,rfl⟩:=hgy.out hok
  obtain⟨ad,rfl,hold,hcell⟩:=hhead.out hok
  rw[hq.out]
  rw[hv.out] at hu
  obtain⟨L,hL⟩:∃ L,(b.drop 12).take (cutN b)=L:=⟨_,rfl⟩
  rw[hL] at hu
  have hFL:=hFE.out
  rw[hL] at hFL
  replace hFL:=Lib.hid hFL
  replace hL:=Lib.hid hL
  obtain⟨w6,hw6,h6⟩:∃ w6,w3.alloc (.cells #[.int .i64 0,.int .i64 0,.int .i64 0,.int .i64 0] 33)=w6∧rInts (Old w6) w6 [.slice (some ⟨w3.heap.size,0,none⟩) 4 4] [0,0,0,0] :=
   ⟨_,rfl,ints_lit w3 33 [0,0,0,0] _ rfl (by simp) (fun x hx=>by
    simp at hx
    subst hx
    exact⟨by decide,by decide⟩)⟩
  have b6:Below w3.heap.size w3 w6:=by rw[← hw6];exact(Below.refl _ _).alloc (Nat.le_refl _) _
  have B6:=Lib.hid (B3.out.trans (b6.mono B3.out.size))
  have C6:=Lib.hid (C3.out.trans (b6.mono C3.out.size))
  have hor:Hid (orN [0,0,0,0]=0):=Lib.hid rfl
  have hu6:Hid (rBy ok w6 _ L):=Lib.hid (stab_by _ _ _ _ _ _ (fun p v hp hc=>⟨hp,(b6.cell (Nat.lt_of_lt_of_le (HO.out p hp) B3.out.size)).trans hc⟩) hu)
  have hn0:=okC_yes hok
  have hnn:0<n:=by have:=HL.out;omega
  replace h6:=Lib.hid h6
  replace hok:=Lib.hid hok
  obtain⟨D,dc,rfl,_⟩:=id (rBy_open hu)
  clear b6 hu hn0
  go_wp2_with fail
  with_reducible refine(or_any _ [0,0,0,0] _ h6.out).mono ?_
  rintro f7 w7 ⟨rfl,rfl⟩
  rw[hor.out]
  clear hw6
  have c0:=(B6.out.cell hold).trans hcell
  have b9:=(C6.out.block w.heap.size lt0).trans b0.out
  obtain⟨W9,hW9,g9,gr9,gs9⟩:=put_five (u0:=.int .u8 (x0.toNat:Int)) (u1:=.int .u32 x1) (u2:=.int .u32 x2) (u3:=.int .i64 x3) (u4:=.slice D L.length dc) b9
  obtain⟨k0,k1,k2,k3,k4,_,_⟩:=five_cells g9
  obtain⟨a0,a1,a2,a3,a4,af,_⟩:=five_cells b9
  have B9:=Lib.hid (B6.out.grown gr9 B6.out.size (fun q e=>by cases e;omega))
  have hfin:Hid (Itm ok W9 (.agg #[.int .u8 (x0.toNat:Int),.int .u32 x1,.int .u32 x2,.int .i64 x3,.slice D L.length dc]) (fldI b)):=Lib.hid (by
   have h2:=hin.out
   rw[hFL.out] at h2
   rw[hz.out,hFL.out]
   refine⟨_,rfl,h2,stab_by _ _ _ _ _ _ (fun p v hp hc=>⟨hp,?_⟩) hu6.out⟩
   have hb:=gr9.block p.block (Nat.lt_of_lt_of_le (HO.out p hp) B6.out.size) (fun e=>by have h1:=Option.some.inj e;have h2:p.block<w.heap.size:=HO.out p hp;omega)
   exact(World.cell?_of_block hb).trans hc)
  replace b9:=Lib.hid b9
  replace hold:=Lib.hid hold
  clear g9 gr9 hcell
  go_wp2_with fail
  exact bodyPost_ret (v:=.tuple #[.agg #[.int .u8 (x0.toNat:Int),.int .u32 x1,.int .u32 x2,.int .i64 x3,.slice D L.length dc],.int .i64 0]) (by simp[results,Tryz.results102,go_sem,k0,k1,k2,k3,k4]) rfl ⟨_,ret_two hq.out.symm,hfin.out,B9.out⟩
theorem bool_ways (b:Bool):b=false∨b=true:=by cases b <;> simp
theorem okR_fields {b:List UInt8} (h:okR b=true):okC b=true∧mayI (fldI b)=true:=by simpa [okR] using h
set_option maxRecDepth 100000 in
set_option maxHeartbeats 8000000 in
theorem itRead_any (v:Value) (b:List UInt8) (w:World) (h:rBy (Old w) w [v] b) :
  Calls Tryz.prog 81 #[v] w fun e w'=>∃ u,e=.returned (.tuple #[u,.int .i64 (itN b),.int .i64 (itE b)])∧Itm (New w.heap.size w') w' u (itR b)∧Below w.heap.size w w':=by
 obtain⟨A,c,rfl,_⟩:=id (rBy_open h)
 obtain⟨n,hn⟩:∃ n,b.length=n:=⟨_,rfl⟩
 have hE:Hid (itE b=if okR b then 0 else 8):=Lib.hid rfl
 have hN:Hid (itN b=if okR b then (12+cutN b:Int) else 0):=Lib.hid rfl
 have hR:Hid (itR b=if okR b then fieldsI b else zeroI):=Lib.hid rfl
 have hO:Hid (okR b=(okC b&&mayI (fldI b))):=Lib.hid rfl
 obtain⟨w0,hw0,_,_,_,_,_,hs0,hB0,b0⟩:=box_five w (.int .u8 0) (.int .u32 0) (.int .u32 0) (.int .i64 0) (.slice none 0 0) 40
 have lt0:w.heap.size<w0.heap.size:=by omega
 have HV:Hid (rBy (Old w) w0 [.slice A b.length c] b):=Lib.hid (stab_by _ _ _ _ _ _ (fun p v hp hc=>⟨hp,(hB0.cell hp).trans hc⟩) h)
 have HB0:=Lib.hid hB0
 replace b0:=Lib.hid b0
 replace hw0:=Lib.hid hw0
 rw[hn] at HV ⊢
 replace hn:=Lib.hid hn
 clear hB0 hs0 h
 go_enter Tryz.func81,Tryz.ntmps81
 go_upto_region 1 with fail
 rw[hw0.out]
 clear hw0
 go_wp2_with fail
 with_reducible refine(fieldsI_any (Old w) _ b _ (fun p hp=>Nat.lt_trans hp lt0) HV.out).mono ?_
 rintro f1 w1 ⟨u,rfl,hu,hb1⟩
 have B1:=Lib.hid (HB0.out.trans (hb1.mono HB0.out.size))
 have C1:=Lib.hid hb1
 have b1:=(hb1.block w.heap.size lt0).trans b0.out
 have lt1:w.heap.size<w1.heap.size:=Nat.lt_of_lt_of_le lt0 hb1.size
 have hF:Hid (fldI b=if okC b then fieldsI b else zeroI):=Lib.hid rfl
 obtain⟨s,hs⟩:∃ s,fldI b=s:=⟨_,rfl⟩
 rw[hs] at hu hO hF
 replace hs:=Lib.hid hs
 have hin:=hu.open
 obtain⟨D,dc,rfl,hin,d1,d2,hu2⟩:=hin
 obtain⟨W2,hW2,g2,gr2,gs2⟩:=put_five (u0:=.int .u8 (s.1.1.toNat:Int)) (u1:=.int .u32 s.1.2.1) (u2:=.int .u32 s.1.2.2) (u3:=.int .i64 s.2.1) (u4:=.slice D s.2.2.length dc) b1
 obtain⟨a0,a1,a2,a3,a4,af,_⟩:=five_cells b1
 obtain⟨k0,k1,k2,k3,k4,kf,_⟩:=five_cells g2
 have B2:=Lib.hid (B1.out.grown gr2 B1.out.size (fun q e=>by cases e;omega))
 have hu3:Hid (Itm (Old w) W2 (itV s (.slice D s.2.2.length dc)) s):=Lib.hid (by
  refine⟨_,rfl,hin,stab_by _ _ _ _ _ _ (fun p v hp hc=>⟨hp,?_⟩) hu2⟩
  exact(World.cell?_of_block (gr2.block p.block (Nat.lt_trans hp lt1) (fun e=>by have h1:=Option.some.inj e;have h2:p.block<w.heap.size:=hp;omega))).trans hc)
 have hfinB:∀ (W:World),Below W2.heap.size W2 W→okR b=false→∃ W9:World,(((((W.setCell ⟨w.heap.size,0,none⟩ (.int .u8 0)).setCell ⟨w.heap.size,1,none⟩ (.int .u32 0)).setCell ⟨w.heap.size,2,none⟩ (.int .u32 0)).setCell ⟨w.heap.size,3,none⟩ (.int .i64 0)).setCell ⟨w.heap.size,4,none⟩ (.slice none 0 0))=W9 ∧
   W9.heap[w.heap.size]? = some (.cells #[.int .u8 0,.int .u32 0,.int .u32 0,.int .i64 0,.slice none 0 0] 40 (0,0))∧Hid (itE b=8∧itN b=0∧itR b=zeroI∧Below w.heap.size w W9):=fun W hW hno=>by
  obtain⟨W9,hW9,g9,gr9,gs9⟩:=put_five (u0:=.int .u8 0) (u1:=.int .u32 0) (u2:=.int .u32 0) (u3:=.int .i64 0) (u4:=.slice none 0 0) ((hW.block w.heap.size (by omega)).trans g2)
  have B:=B2.out.trans (hW.mono B2.out.size)
  exact⟨W9,hW9,g9,Lib.hid ⟨by rw[hE.out,hno];rfl,by rw[hN.out,hno];rfl,by rw[hR.out,hno];rfl,B.grown gr9 B.size (fun q e=>by cases e;omega)⟩⟩
 replace hfinB:=Lib.hid hfinB
 replace b1:=Lib.hid b1
 replace g2:=Lib.hid g2
 replace gs2:=Lib.hid gs2
 replace gr2:=Lib.hid gr2
 clear hu hu2 hb1
 rcases bool_ways (okC b) with hok | hok
 ·skip
  have hq:=Lib.hid (show cutE b=8 by simp[cutE,hok])
  have hno:okR b=false:=by simp[okR,hok]
  obtain⟨W9,hW9,g9,hz⟩:=hfinB.out W2 (Below.refl _ _) hno
  obtain⟨m0,m1,m2,m3,m4,_,_⟩:=five_cells g9
  rw[hq.out]
  replace hok:=Lib.hid hok
  replace hno:=Lib.hid hno
  replace g9:=Lib.hid g9
  go_wp2_with fail
  exact bodyPost_ret (v:=.tuple #[.agg #[.int .u8 0,.int .u32 0,.int .u32 0,.int .i64 0,.slice none 0 0],.int .i64 0,.int .i64 8]) (by simp[results,Tryz.results81,go_sem,m0,m1,m2,m3,m4]) rfl ⟨_,by rw[hz.out.1,hz.out.2.1],by rw[hz.out.2.2.1];exact itm_zero _ _,hz.out.2.2.2⟩
 ·skip
  have hq:=Lib.hid (show cutE b=0 by simp[cutE,hok])
  have hsf:=Lib.hid (show s=fieldsI b by rw[hF.out,hok];rfl)
  have hcl:s.2.2.length=cutN b:=by rw[hsf.out];exact fieldsI_length hok
  have hcn:=cutN_lt b
  rw[hq.out]
  have hO2:=Lib.hid (show okR b=mayI s by rw[hO.out,hok];rfl)
  replace hok:=Lib.hid hok
  replace hcl:=Lib.hid hcl
  go_wp2_with fail
  with_reducible refine(checkI_any _ s _ (hu3.out.map fun p v hp hc=>⟨Nat.lt_trans hp (by have:=gs2.out;have:=C1.out.size;omega),hc⟩)).mono ?_
  rintro f2 w3 ⟨rfl,hb3⟩
  have C3:=Lib.hid hb3
  have lt2:w.heap.size<W2.heap.size:=by have:=gs2.out;omega
  have b3:=(hb3.block w.heap.size lt2).trans g2.out
  obtain⟨q0,q1,q2,q3,q4,qf,_⟩:=five_cells b3
  clear k0 k1 k2 k3 k4 kf
  have B3:=Lib.hid (B2.out.trans (hb3.mono B2.out.size))
  rcases bool_ways (mayI s) with hm | hm
  ·skip
   obtain⟨W9,hW9,g9,hz⟩:=hfinB.out w3 C3.out (by rw[hO2.out,hm])
   obtain⟨m0,m1,m2,m3,m4,_,_⟩:=five_cells g9
   have hck:=Lib.hid (chkI_bad hm)
   rw[hck.out]
   replace hm:=Lib.hid hm
   replace g9:=Lib.hid g9
   replace b3:=Lib.hid b3
   clear hb3
   go_wp2_with fail
   exact bodyPost_ret (v:=.tuple #[.agg #[.int .u8 0,.int .u32 0,.int .u32 0,.int .i64 0,.slice none 0 0],.int .i64 0,.int .i64 8]) (by simp[results,Tryz.results81,go_sem,m0,m1,m2,m3,m4]) rfl ⟨_,by rw[hz.out.1,hz.out.2.1],by rw[hz.out.2.2.1];exact itm_zero _ _,hz.out.2.2.2⟩
  ·skip
   have hck:=Lib.hid (chkI_ok hm)
   have hyes:okR b=true:=by rw[hO2.out,hm]
   have hE9:=Lib.hid (show itE b=0 by rw[hE.out,hyes];rfl)
   have hN9:=Lib.hid (show itN b=12+s.2.2.length by rw[hN.out,hyes,hcl.out];rfl)
   have hR9:=Lib.hid (show itR b=s by rw[hR.out,hyes,hsf.out];rfl)
   have h12:s.2.2.length≤12:=(mayI_of hm).2
   have hu4:Hid (Itm (Old w3) w3 (itV s (.slice D s.2.2.length dc)) s):=Lib.hid (hu3.out.map fun p v hp hc=>by
    have h1:p.block<W2.heap.size:=Nat.lt_trans hp (by have:=gs2.out;have:=C1.out.size;omega)
    exact⟨Nat.lt_of_lt_of_le h1 hb3.size,(hb3.cell h1).trans hc⟩)
   have lt3:w.heap.size<w3.heap.size:=Nat.lt_of_lt_of_le lt2 hb3.size
   rw[hck.out]
   replace hm:=Lib.hid hm
   replace hyes:=Lib.hid hyes
   replace b3:=Lib.hid b3
   clear hb3 a0 a1 a2 a3 a4 af
   go_wp2_with fail
   have HT:Hid (∀ W,Below w3.heap.size w3 W→Calls Tryz.prog 103 #[itV s (.slice D s.2.2.length dc)] W fun e w'=>∃ X xc,e=.returned (itV s (.slice X s.2.2.length xc))∧Itm (New w3.heap.size w') w' (itV s (.slice X s.2.2.length xc)) s∧Below w3.heap.size w3 w'):=Lib.hid fun W hC=>by
    refine(twinI_any _ s W (by omega) (hu4.out.below hC)).mono ?_
    rintro e W' ⟨x,rfl,hx,hb⟩
    obtain⟨X,xc,rfl,_⟩:=id hx.open
    exact⟨X,xc,rfl,hx.map fun p v hp hc=>⟨⟨Nat.le_trans hC.size hp.1,hp.2⟩,hc⟩,hC.trans (hb.mono hC.size)⟩
   have hdr:Below w3.heap.size w3 w3.drew:=(Below.refl _ _).drew
   have hwr:IntKind.i64.wrap (12+(s.2.2.length:Int))=12+s.2.2.length:=by rw[IntKind.wrap_i64];omega
   go_region_with (first
    | (go_at_call 103;refine(HT.out _ hdr).mono ?_;rintro e' wm ⟨X,xc,rfl,hx,hw⟩;have bW:=(hw.block w.heap.size lt3).trans b3.out;obtain⟨c0,c1,c2,c3,c4,cf,_⟩:=five_cells bW))
   all_goals
    (go_wp2_with fail
     obtain⟨W9,hW9,g9,gr9,gs9⟩:=put_five (u0:=.int .u8 (s.1.1.toNat:Int)) (u1:=.int .u32 s.1.2.1) (u2:=.int .u32 s.1.2.2) (u3:=.int .i64 s.2.1) (u4:=.slice X s.2.2.length xc) bW
     obtain⟨m0,m1,m2,m3,m4,_,_⟩:=five_cells g9
     rw[hW9]
     have BW:=B3.out.trans (hw.mono B3.out.size)
     exact bodyPost_ret (v:=.tuple #[.agg #[.int .u8 (s.1.1.toNat:Int),.int .u32 s.1.2.1,.int .u32 s.1.2.2,.int .i64 s.2.1,.slice X s.2.2.length xc],.int .i64 (12+s.2.2.length),.int .i64 0]) (by simp[results,Tryz.results81,go_sem,m0,m1,m2,m3,m4]) rfl ⟨_,by rw[hE9.out,hN9.out],by
      rw[hR9.out]
      exact(hx.grown gr9 (fun q e=>by cases e;omega)).map fun p v hp hc=>⟨⟨Nat.le_trans B3.out.size hp.1,hp.2⟩,hc⟩,BW.grown gr9 BW.size (fun q e=>by cases e;omega)⟩)
end Go.Proofs.YtogieepfimpdmaaGreat
/-
 Layer 5's law helpers: key,alive. What bytes and items tell of one another,plain. Conditions: those that each lemma states.
-/
namespace Go.Proofs.YtogieepfimpdmaaGreat
open Go.RowKit
theorem gv_le (m:Nat) (n:Int) (xs ys:List UInt8) (k:Nat) (hk:xs.length=k) (h0:0≤n) (h1:n<256 ^ m):gv m (xs++(le m n++ys)) k=n:=by
 have h:=gv_yes (m:=m) (xs:=xs++(le m n++ys)) (k:=(k:Int)) ⟨by omega,by simp[le_length,hk];omega⟩
 rw[h]
 have e:(k:Int).toNat=xs.length:=by omega
 rw[e,List.drop_left,List.take_left' (le_length m n)]
 exact num_le m n h0 h1
theorem itB_cut (s:It) (xs:List UInt8) (h:s.2.2.length≤12):cutN (itB s++xs)=s.2.2.length:=by
 have e:(itB s++xs)[11]? = some (UInt8.ofNat s.2.2.length):=by
  have:itB s++xs=([s.1.1]++(le 4 s.1.2.1++(le 4 s.1.2.2++le 2 s.2.1)))++(UInt8.ofNat s.2.2.length::(s.2.2++xs)):=by simp[itB]
  rw[this,List.getElem?_append_right (by simp[le_length])]
  simp[le_length]
 unfold cutN
 rw[e]
 simp only[Option.getD_some,UInt8.toNat_ofNat']
 omega
theorem itB_okC (s:It) (xs:List UInt8) (h:s.2.2.length≤12):okC (itB s++xs)=true:=by
 unfold okC
 rw[itB_cut s xs h]
 simp[itB_length]
theorem itB_fields (s:It) (xs:List UInt8) (hi:InI s) (h:mayI s=true):fieldsI (itB s++xs)=s:=by
 obtain⟨hr,hl⟩:=mayI_of h
 obtain⟨⟨⟨i0,i1⟩,⟨o0,o1⟩⟩,_⟩:=hi
 obtain⟨⟨k,i,o⟩,r,v⟩:=s
 dsimp only at *
 have e0:(itB ((k,i,o),r,v)++xs)[0]?.getD 0=k:=by simp[itB]
 have e1:gv 4 (itB ((k,i,o),r,v)++xs) 1=i:=by
  have:itB ((k,i,o),r,v)++xs=[k]++(le 4 i++(le 4 o++(le 2 r++([UInt8.ofNat v.length]++(v++xs))))):=by simp[itB]
  rw[this]
  exact gv_le 4 i [k] _ 1 rfl i0 (by simpa using i1)
 have e2:gv 4 (itB ((k,i,o),r,v)++xs) 5=o:=by
  have:itB ((k,i,o),r,v)++xs=([k]++le 4 i)++(le 4 o++(le 2 r++([UInt8.ofNat v.length]++(v++xs)))):=by simp[itB]
  rw[this]
  exact gv_le 4 o ([k]++le 4 i) _ 5 (by simp[le_length]) o0 (by simpa using o1)
 have e3:gv 2 (itB ((k,i,o),r,v)++xs) 9=r:=by
  have:itB ((k,i,o),r,v)++xs=([k]++(le 4 i++le 4 o))++(le 2 r++([UInt8.ofNat v.length]++(v++xs))):=by simp[itB]
  rw[this]
  exact gv_le 2 r ([k]++(le 4 i++le 4 o)) _ 9 (by simp[le_length]) (by omega) (by simp;omega)
 have e4:((itB ((k,i,o),r,v)++xs).drop 12).take (cutN (itB ((k,i,o),r,v)++xs))=v:=by
  rw[itB_cut ((k,i,o),r,v) xs hl]
  have:itB ((k,i,o),r,v)++xs=([k]++(le 4 i++(le 4 o++(le 2 r++[UInt8.ofNat v.length]))))++(v++xs):=by simp[itB]
  rw[this,show (12:Nat)=([k]++(le 4 i++(le 4 o++(le 2 r++[UInt8.ofNat v.length])))).length by simp[le_length],List.drop_left]
  exact List.take_left' rfl
 unfold fieldsI
 rw[e0,e1,e2,e3,e4]
theorem itB_read (s:It) (xs:List UInt8) (hi:InI s) (h:mayI s=true):okR (itB s++xs)=true∧itR (itB s++xs)=s∧itN (itB s++xs)=(itB s).length∧itE (itB s++xs)=0:=by
 obtain⟨hr,hl⟩:=mayI_of h
 have h1:=itB_okC s xs hl
 have h2:=itB_fields s xs hi h
 have h3:okR (itB s++xs)=true:=by unfold okR fldI;rw[h1,if_pos rfl,h2,h];rfl
 refine⟨h3,by rw[itR,h3,if_pos rfl,h2],?_,by rw[itE,h3];rfl⟩
 rw[itN,h3,if_pos rfl,itB_cut s xs hl,itB_length]
 omega
theorem le_gv (m:Nat) (b:List UInt8) (k:Nat) (h:k+m≤b.length):le m (gv m b k)=(b.drop k).take m:=by
 rw[gv_yes (k:=(k:Int)) ⟨by omega,by omega⟩,show (k:Int).toNat=k by omega]
 have hl:((b.drop k).take m).length=m:=by simp;omega
 have:=le_num ((b.drop k).take m)
 rwa [hl] at this
theorem one_at (b:List UInt8) (k:Nat) (h:k<b.length):(b.drop k).take 1=[b[k]?.getD 0]:=by
 rw[List.drop_eq_getElem_cons h,List.getElem?_eq_getElem h]
 rfl
theorem read_itB {b:List UInt8} (h:okR b=true):∃ n:Nat,itN b=n∧n≤b.length∧mayI (itR b)=true∧itB (itR b)=b.take n:=by
 obtain⟨h1,h2⟩:=okR_fields h
 have h3:=okC_yes h1
 have hR:itR b=fieldsI b:=by rw[itR,h,if_pos rfl]
 have hf:fldI b=fieldsI b:=by rw[fldI,h1,if_pos rfl]
 rw[hf] at h2
 refine⟨12+cutN b,by rw[itN,h,if_pos rfl];simp,h3,by rw[hR];exact h2,?_⟩
 rw[hR]
 have l0:=one_at b 0 (by omega)
 rw[List.drop_zero] at l0
 have l1:=one_at b 11 (by omega)
 have hlen:((b.drop 12).take (cutN b)).length=cutN b:=by simp;omega
 have hc:UInt8.ofNat (cutN b)=b[11]?.getD 0:=by unfold cutN;simp
 have g1:=le_gv 4 b 1 (by omega)
 have g2:=le_gv 4 b 5 (by omega)
 have g3:=le_gv 2 b 9 (by omega)
 have ht:b.take (12+cutN b)=b.take 1++((b.drop 1).take 4++((b.drop 5).take 4++((b.drop 9).take 2++((b.drop 11).take 1++(b.drop 12).take (cutN b))))):=by
  have q:∀ (j m n:Nat),(b.drop j).take m++(b.drop (j+m)).take n=(b.drop j).take (m+n):=fun j m n=>by
   rw[← List.drop_drop,List.take_add]
  rw[q 11 1,q 9 2,q 5 4,q 1 4]
  have:=q 0 1 (4+(4+(2+(1+cutN b))))
  rw[List.drop_zero,Nat.zero_add] at this
  rw[this]
  congr 1
  omega
 rw[ht,l0,l1]
 unfold itB fieldsI
 dsimp only
 rw[hlen,hc]
 have c1:((1:Nat):Int)=1:=rfl
 have c5:((5:Nat):Int)=5:=rfl
 have c9:((9:Nat):Int)=9:=rfl
 rw[c1] at g1
 rw[c5] at g2
 rw[c9] at g3
 rw[g1,g2,g3]
end Go.Proofs.YtogieepfimpdmaaGreat
/-
 A bag's facts on items and keys. Conditions: those that each lemma states.
-/
namespace Go.Proofs.YtogieepfimpdmaaGreat
open Go.RowKit
def Box3 (g:Nat) (a b c:Value):World→Prop:=fun w=>w.cell? ⟨g,0,none⟩=some a∧w.cell? ⟨g,1,none⟩=some b∧w.cell? ⟨g,2,none⟩=some c∧g<w.heap.size
theorem lasts_box3 (g:Nat) (a b c:Value):Lasts (Box3 g a b c):=fun _ _ h hb=>⟨(hb.cell (p:=⟨g,0,none⟩) h.2.2.2).trans h.1,(hb.cell (p:=⟨g,1,none⟩) h.2.2.2).trans h.2.1,(hb.cell (p:=⟨g,2,none⟩) h.2.2.2).trans h.2.2.1,Nat.lt_of_lt_of_le h.2.2.2 hb.size⟩
theorem bag_key {w w1:World} {Fs:List (World→Prop)} (h:Bag w Fs) (hb:Below w.heap.size w w1) (a b c:Value):∃ w',w1.alloc (.cells #[a,b,c] 37)=w'∧Bag w' (Box3 w1.heap.size a b c::Fs)∧Below w.heap.size w w'∧Below w1.heap.size w1 w'∧w1.heap.size<w'.heap.size:=by
 obtain⟨w2,e2,k1,k2,k3,k4,k5,_⟩:=box_three w1 a b c 37
 exact⟨w2,e2,((h.below hb).below k5).add ⟨k1,k2,k3,by omega⟩ (lasts_box3 _ _ _ _),hb.trans (k5.mono hb.size),k5,by omega⟩
theorem bag_item {w w1:World} {Fs:List (World→Prop)} (h:Bag w Fs) (hb:Below w.heap.size w w1) (a b c d e:Value):∃ w',w1.alloc (.cells #[a,b,c,d,e] 40)=w'∧Bag w' (Box5 w1.heap.size a b c d e::Fs)∧Below w.heap.size w w'∧Below w1.heap.size w1 w'∧w1.heap.size<w'.heap.size:=by
 obtain⟨w2,e2,k1,k2,k3,k4,k5,k6,k7,_⟩:=box_five w1 a b c d e 40
 exact⟨w2,e2,((h.below hb).below k7).add ⟨k1,k2,k3,k4,k5,by omega⟩ (lasts_box5 _ _ _ _ _ _),hb.trans (k7.mono hb.size),k7,by omega⟩
def OldI (v:Value) (s:It):World→Prop:=fun w=>Itm (Old w) w v s
theorem lasts_oldI (v:Value) (s:It):Lasts (OldI v s):=fun _ _ h hb=>h.below hb
theorem less_self (a:Ky):lessK a a=false:=by simp[lessK]
theorem less_anti {a b:Ky} (h:lessK a b=true):lessK b a=false:=by
 unfold lessK at *
 by_cases h1:a.1.toNat=b.1.toNat
 ·rw[if_neg (by simpa using h1)] at h
  rw[if_neg (by simpa using h1.symm)]
  by_cases h2:a.2.1=b.2.1
  ·rw[if_neg (by simpa using h2)] at h
   rw[if_neg (by simpa using h2.symm)]
   simp at h ⊢
   omega
  ·rw[if_pos h2] at h
   rw[if_pos (fun e=>h2 e.symm)]
   simp at h ⊢
   omega
 ·rw[if_pos h1] at h
  rw[if_pos (fun e=>h1 e.symm)]
  simp at h ⊢
  omega
theorem less_total {a b:Ky} (h:a≠b) (h':lessK a b=false):lessK b a=true:=by
 unfold lessK at *
 by_cases h1:a.1.toNat=b.1.toNat
 ·rw[if_neg (by simpa using h1)] at h'
  rw[if_neg (by simpa using h1.symm)]
  by_cases h2:a.2.1=b.2.1
  ·rw[if_neg (by simpa using h2)] at h'
   rw[if_neg (by simpa using h2.symm)]
   have h3:a.2.2≠b.2.2:=fun e=>h (Prod.ext (UInt8.toNat.inj h1) (Prod.ext h2 e))
   simp at h' ⊢
   omega
  ·rw[if_pos h2] at h'
   rw[if_pos (fun e=>h2 e.symm)]
   simp at h' ⊢
   omega
 ·rw[if_pos h1] at h'
  rw[if_pos (fun e=>h1 e.symm)]
  simp at h' ⊢
  omega
theorem less_cases {a b:Ky} (h:lessK a b=true):a.1.toNat<b.1.toNat∨(a.1.toNat=b.1.toNat∧(a.2.1<b.2.1∨(a.2.1=b.2.1∧a.2.2<b.2.2))):=by
 unfold lessK at h
 by_cases h1:a.1.toNat=b.1.toNat
 ·rw[if_neg (by simpa using h1)] at h
  by_cases h2:a.2.1=b.2.1
  ·rw[if_neg (by simpa using h2)] at h
   exact Or.inr ⟨h1,Or.inr ⟨h2,by simpa using h⟩⟩
  ·rw[if_pos h2] at h
   exact Or.inr ⟨h1,Or.inl (by simpa using h)⟩
 ·rw[if_pos h1] at h
  exact Or.inl (by simpa using h)
theorem less_of {a b:Ky} (h:a.1.toNat<b.1.toNat∨(a.1.toNat=b.1.toNat∧(a.2.1<b.2.1∨(a.2.1=b.2.1∧a.2.2<b.2.2)))):lessK a b=true:=by
 cases e:lessK a b with
 | true=>rfl
 | false =>
  by_cases hab:a=b
  ·subst hab;omega
  ·have:=less_cases (less_total hab e)
   omega
theorem less_trans {a b c:Ky} (h:lessK a b=true) (h':lessK b c=true):lessK a c=true:=by
 have h1:=less_cases h
 have h2:=less_cases h'
 exact less_of (by omega)
end Go.Proofs.YtogieepfimpdmaaGreat
/-
 Nodes (api.Node): how they read;which may be;their bytes;nodes as arguments. Conditions: those that each lemma states.
-/
namespace Go.Proofs.YtogieepfimpdmaaGreat
open Go.ChangeShapes Go.WideShapes Go.RowKit
abbrev Nd:=Int×List It
def rIts:Rel (List It):=rSl 5 rIt
theorem stab_its:Stab rIts:=stab_sl stab_it
def Nod (ok:Addr→Prop) (w:World) (v:Value) (n:Nd):Prop:=∃ d,v=.agg #[.int .i64 n.1,d]∧In64 n.1∧rIts ok w [d] n.2
section
variable {ok ok' : Addr → Prop} {w w' : World} {v : Value} {n : Nd} {lo lo' : Nat}
theorem Nod.map (hk:∀ p v,ok p→w.cell? p=some v→ok' p∧w'.cell? p=some v) (h:Nod ok w v n):Nod ok' w' v n:=by
 obtain⟨d,e,h1,h2⟩:=h
 exact⟨d,e,h1,stab_its _ _ _ _ _ _ hk h2⟩
theorem Nod.below (h:Nod (Old w) w v n) (hb:Below w.heap.size w w'):Nod (Old w') w' v n :=
 h.map fun _ _ hp hc=>⟨Nat.lt_of_lt_of_le hp hb.size,(hb.cell hp).trans hc⟩
theorem Nod.drop (h:Nod (New lo w) w v n):Nod (Old w) w v n:=h.map fun _ _ hp hc=>⟨hp.2.1,hc⟩
theorem Nod.new (h:Nod (New lo w) w v n) (hl:lo'≤lo) (hb:Below w.heap.size w w'):Nod (New lo' w') w' v n :=
 h.map fun _ _ hp hc=>⟨⟨Nat.le_trans hl hp.1,Nat.lt_of_lt_of_le hp.2.1 hb.size,(hb.frozen hp.2.1).trans hp.2.2⟩,(hb.cell hp.2.1).trans hc⟩
theorem Nod.grown {row:Option Nat} (h:Nod (New lo w) w v n) (hg:w.grownBy w' row) (hr:∀ q,row=some q→q<lo):Nod (New lo w') w' v n:=by
 obtain⟨d,e,h1,h2⟩:=h
 exact⟨d,e,h1,stab_its.grown h2 hg hr⟩
theorem its_open {d:Value} {xs:List It} (h:rIts ok w [d] xs):∃ A c,d=.slice A xs.length c∧xs.length≤c∧c≤9223372036854775807:=by
 obtain⟨A,c,e,h1,h2,_⟩:=h
 exact⟨A,c,by simpa using e,h1,h2⟩
theorem Nod.open (h:Nod ok w v n):∃ A c,v=.agg #[.int .i64 n.1,.slice A n.2.length c]∧In64 n.1∧n.2.length≤c∧c≤9223372036854775807∧rIts ok w [.slice A n.2.length c] n.2:=by
 obtain⟨d,rfl,h1,h2⟩:=h
 obtain⟨A,c,rfl,h3,h4⟩:=its_open h2
 exact⟨A,c,rfl,h1,h3,h4,h2⟩
end
theorem its_nil (ok:Addr→Prop) (w:World):rIts ok w [.slice none 0 0] []:=⟨none,0,rfl,by simp,by omega,fun i x h=>by simp at h⟩
def zeroN:Nd:=(0,[])
theorem nod_zero (ok:Addr→Prop) (w:World):Nod ok w (.agg #[.int .i64 0,.slice none 0 0]) zeroN:=⟨_,rfl,⟨by decide,by decide⟩,its_nil _ _⟩
theorem add_at5 (ad:Addr) (n j:Nat):ad.add (n+(j+1))=⟨(ad.add n).block,(ad.add n).off+(j+1),none⟩:=by
 unfold Addr.add
 rw[if_neg (by omega)]
 by_cases h:n=0
 ·subst h
  simp
 ·rw[if_neg h]
  simp[Nat.add_assoc]
structure At5 (w:World) (p:Addr) (s:It) (d:Value):Prop where
 c0:w.cell? p=some (.int .u8 (s.1.1.toNat:Int))
 c1:w.cell? ⟨p.block,p.off+1,none⟩=some (.int .u32 s.1.2.1)
 c2:w.cell? ⟨p.block,p.off+2,none⟩=some (.int .u32 s.1.2.2)
 c3:w.cell? ⟨p.block,p.off+3,none⟩=some (.int .i64 s.2.1)
 c4:w.cell? ⟨p.block,p.off+4,none⟩=some d
theorem At5.lt {w:World} {p:Addr} {s:It} {d:Value} (h:At5 w p s d):p.block<w.heap.size:=World.block_lt_of_cell? w p h.c0
theorem At5.below {w w':World} {p:Addr} {s:It} {d:Value} (h:At5 w p s d) (hb:Below w.heap.size w w'):At5 w' p s d :=
 ⟨(hb.cell h.lt).trans h.c0,(hb.cell (p:=⟨p.block,p.off+1,none⟩) h.lt).trans h.c1,(hb.cell (p:=⟨p.block,p.off+2,none⟩) h.lt).trans h.c2,(hb.cell (p:=⟨p.block,p.off+3,none⟩) h.lt).trans h.c3,(hb.cell (p:=⟨p.block,p.off+4,none⟩) h.lt).trans h.c4⟩
theorem its_at {ok:Addr→Prop} {w:World} {A:Option Addr} {n c k:Nat} {xs:List It} {s:It} (h:rIts ok w [.slice A n c] xs) (hk:xs[k]? = some s) :
  ∃ ad E ce,A=some ad∧(∀ j,j<5→ok (ad.add (k*5+j)))∧At5 w (ad.add (k*5)) s (.slice E s.2.2.length ce)∧Itm ok w (itV s (.slice E s.2.2.length ce)) s∧s.2.2.length≤ce∧ce≤9223372036854775807∧InI s:=by
 obtain⟨_,_,e,_,_,h4⟩:=h
 cases e
 obtain⟨ad,vs,rfl,e5,q,r⟩:=h4 k s hk
 obtain⟨d,rfl,hin,hd⟩:=rIt_open r
 obtain⟨E,ce,rfl,l1,l2,_⟩:=id (rBy_open hd)
 have q0:=q 0 _ rfl
 have t1:=q 1 _ rfl
 have t2:=q 2 _ rfl
 have t3:=q 3 _ rfl
 have t4:=q 4 _ rfl
 refine⟨ad,E,ce,rfl,fun j hj => ?_,?_,⟨_,rfl,hin,hd⟩,l1,l2,hin⟩
 ·rcases(by omega:j=0∨j=1∨j=2∨j=3∨j=4) with rfl | rfl | rfl | rfl | rfl
  ·exact q0.1
  ·exact t1.1
  ·exact t2.1
  ·exact t3.1
  ·exact t4.1
 ·have u1:=t1.2
  have u2:=t2.2
  have u3:=t3.2
  have u4:=t4.2
  rw[add_at5] at u1 u2 u3 u4
  exact⟨q0.2,u1,u2,u3,u4⟩
theorem its_old {w:World} {A:Option Addr} {n c k:Nat} {xs:List It} {s:It} (h:rIts (Old w) w [.slice A n c] xs) (hk:xs[k]? = some s) :
  ∃ ad E ce,A=some ad∧s.2.2.length≤ce∧ce≤9223372036854775807∧InI s∧∀ W,Below w.heap.size w W→At5 W (ad.add (k*5)) s (.slice E s.2.2.length ce)∧Itm (Old W) W (itV s (.slice E s.2.2.length ce)) s:=by
 obtain⟨ad,E,ce,rfl,_,h5,hi,l1,l2,hin⟩:=its_at h hk
 exact⟨ad,E,ce,rfl,l1,l2,hin,fun W hW=>⟨h5.below hW,hi.below hW⟩⟩
def refersI (s:It):Bool:=decide (s.2.1≠0)&&decide (s.2.2.length=0)
def okP (l:Int) (x:It):Bool:=mayI x&&(decide (l≤0)||refersI x)
def okAt (n:Nd) (i:Nat):Bool:=match n.2[i]? with
 | none=>true
 | some x=>okP n.1 x&&(match i with
  | 0=>true
  | j+1=>match n.2[j]? with
   | none=>true
   | some p=>lessK p.1 x.1)
def shapeN (n:Nd):Bool:=(decide (0≤n.1)&&decide (n.1<6))&&decide (n.2.length≤5)&&(decide (n.1≤0)||decide (0<n.2.length))
def mayN (n:Nd):Bool:=shapeN n&&(List.range n.2.length).all (okAt n)
def chkN (n:Nd):Int:=if mayN n then 0 else 8
theorem shapeN_of {n:Nd} (h:shapeN n=true):0≤n.1∧n.1<6∧n.2.length≤5∧(0<n.1→0<n.2.length):=by
 simp only[shapeN,Bool.and_eq_true,Bool.or_eq_true,decide_eq_true_eq] at h
 omega
theorem shapeN_mk {n:Nd} (h:0≤n.1∧n.1<6∧n.2.length≤5∧(0<n.1→0<n.2.length)):shapeN n=true:=by
 simp only[shapeN,Bool.and_eq_true,Bool.or_eq_true,decide_eq_true_eq]
 omega
theorem mayN_shape {n:Nd} (h:¬ (0≤n.1∧n.1<6∧n.2.length≤5∧(0<n.1→0<n.2.length))):mayN n=false:=by
 cases e:mayN n with
 | false=>rfl
 | true =>
  simp only[mayN,Bool.and_eq_true] at e
  exact absurd (shapeN_of e.1) h
theorem mayN_at {n:Nd} {k:Nat} (hk:k<n.2.length) (h:okAt n k=false):mayN n=false:=by
 cases e:mayN n with
 | false=>rfl
 | true =>
  simp only[mayN,Bool.and_eq_true,List.all_eq_true] at e
  have:=e.2 k (by simpa using hk)
  rw[h] at this
  cases this
theorem mayN_mk {n:Nd} (h:0≤n.1∧n.1<6∧n.2.length≤5∧(0<n.1→0<n.2.length)) (h2:∀ i,i<n.2.length→okAt n i=true):mayN n=true:=by
 simp only[mayN,Bool.and_eq_true,List.all_eq_true]
 exact⟨shapeN_mk h,fun x hx=>h2 x (by simpa using hx)⟩
theorem mayN_of {n:Nd} (h:mayN n=true):(0≤n.1∧n.1<6∧n.2.length≤5∧(0<n.1→0<n.2.length))∧∀ i,i<n.2.length→okAt n i=true:=by
 simp only[mayN,Bool.and_eq_true,List.all_eq_true] at h
 exact⟨shapeN_of h.1,fun i hi=>h.2 i (by simpa using hi)⟩
theorem okAt_zero {n:Nd} {x:It} (hx:n.2[0]? = some x):okAt n 0=okP n.1 x:=by unfold okAt;rw[hx];simp
theorem okAt_succ {n:Nd} {k:Nat} {x p:It} (hx:n.2[k+1]? = some x) (hp:n.2[k]? = some p):okAt n (k+1)=(okP n.1 x&&lessK p.1 x.1):=by
 unfold okAt
 simp only[hx,hp]
theorem okAt_P {n:Nd} {k:Nat} {x:It} (hx:n.2[k]? = some x) (h:okAt n k=true):okP n.1 x=true:=by
 unfold okAt at h
 rw[hx] at h
 simp only[Bool.and_eq_true] at h
 exact h.1
theorem okAt_noP {n:Nd} {k:Nat} {x:It} (hx:n.2[k]? = some x) (h:okP n.1 x=false):okAt n k=false:=by
 unfold okAt
 simp only[hx,h,Bool.false_and]
theorem mayN_item {n:Nd} (h:mayN n=true) {k:Nat} {x:It} (hx:n.2[k]? = some x):okP n.1 x=true :=
 okAt_P hx ((mayN_of h).2 k (List.getElem?_eq_some_iff.1 hx).1)
theorem okP_may {l:Int} {x:It} (h:okP l x=true):mayI x=true:=by
 simp only[okP,Bool.and_eq_true] at h
 exact h.1
theorem mayN_rise {n:Nd} (h:mayN n=true) {k:Nat} {x y:It} (hx:n.2[k]? = some x) (hy:n.2[k+1]? = some y):lessK x.1 y.1=true:=by
 have:=(mayN_of h).2 (k+1) (List.getElem?_eq_some_iff.1 hy).1
 rw[okAt_succ hy hx,Bool.and_eq_true] at this
 exact this.2
theorem mayN_rises {n:Nd} (h:mayN n=true):∀ {k j:Nat} {x y:It},k<j→n.2[k]? = some x→n.2[j]? = some y→lessK x.1 y.1=true:=by
 intro k j x y hkj
 induction j generalizing y with
 | zero=>omega
 | succ j ih =>
  intro hx hy
  rcases Nat.lt_or_ge k j with h1 | h1
  ·have hjl:j<n.2.length:=by have:=(List.getElem?_eq_some_iff.1 hy).1;omega
   exact less_trans (ih h1 hx (List.getElem?_eq_getElem hjl)) (mayN_rise h (List.getElem?_eq_getElem hjl) hy)
  ·have:k=j:=by omega
   subst this
   exact mayN_rise h hx hy
theorem chkN_ok {n:Nd} (h:mayN n=true):chkN n=0:=by simp[chkN,h]
theorem chkN_bad {n:Nd} (h:mayN n=false):chkN n=8:=by simp[chkN,h]
def itsB (l:List It):List UInt8:=(l.map itB).flatten
theorem itsB_snoc (l:List It) (x:It):itsB (l++[x])=itsB l++itB x:=by simp[itsB]
theorem itsB_take {l:List It} {k:Nat} {x:It} (h:l[k]? = some x):itsB (l.take (k+1))=itsB (l.take k)++itB x:=by
 rw[List.take_add_one,h]
 exact itsB_snoc _ _
def headN (n:Nd):List UInt8:=[78,UInt8.ofNat n.1.toNat,UInt8.ofNat n.2.length]
def toldN (n:Nd):List UInt8:=headN n++itsB n.2
def blkN (n:Nd):List UInt8:=sealN (toldN n)
def wrN (n:Nd):List UInt8:=if mayN n then blkN n else []
theorem itsB_len:∀ {l:List It},(∀ x∈l,mayI x=true)→(itsB l).length≤24*l.length
 | [],_=>by simp[itsB]
 | x::r,h=>by
  have h1:=itsB_len (l:=r) (fun y hy=>h y (List.mem_cons.2 (Or.inr hy)))
  have h2:=(mayI_of (h x (List.mem_cons.2 (Or.inl rfl)))).2
  have h3:=itB_length x
  have:itsB (x::r)=itB x++itsB r:=by simp[itsB]
  rw[this,List.length_append,List.length_cons]
  omega
theorem mayN_all {n:Nd} (h:mayN n=true):∀ x∈n.2,mayI x=true:=fun x hx=>by
 obtain⟨k,hk⟩:=List.mem_iff_getElem?.1 hx
 exact okP_may (mayN_item h hk)
theorem toldN_len {n:Nd} (h:mayN n=true):(toldN n).length≤124:=by
 have h1:=itsB_len (mayN_all h)
 have h2:=(mayN_of h).1.2.2.1
 have h3:(toldN n).length=3+(itsB n.2).length:=by simp[toldN,headN];omega
 omega
theorem blkN_length {n:Nd} (h:mayN n=true):(blkN n).length=128:=sealN_length (toldN_len h)
end Go.Proofs.YtogieepfimpdmaaGreat
/-
 Package node: noughts,cut. Conditions: those that each lemma states.
-/
namespace Go.Proofs.YtogieepfimpdmaaGreat
open Go.RowKit
theorem nought_any (a:Int) (w:World):Calls Tryz.prog 84 #[.int .u8 a] w fun e w'=>e=.returned (.bool (a != 0))∧w=w':=by
 go_enter Tryz.func84,Tryz.ntmps84
 go_wp2_with fail
 go_ret
 exact⟨rfl,rfl⟩
def idxN (b:List UInt8):Int:=match b.findIdx? (· ≠ 0) with
 | none => -1
 | some k=>k
theorem idxN_at {b:List UInt8} {k:Nat} (hk:k<b.length) (ha:∀ j,j<k→b[j]?.getD 0=0) (h:b[k]?.getD 0≠0):idxN b=k:=by
 have e:b.findIdx? (· ≠ 0)=some k:=by
  rw[List.findIdx?_eq_some_iff_getElem]
  refine⟨hk,by simpa [List.getElem?_eq_getElem hk] using h,fun j hj => ?_⟩
  have:=ha j hj
  simpa [List.getElem?_eq_getElem (show j<b.length by omega)] using this
 unfold idxN
 rw[e]
theorem idxN_none {b:List UInt8} (ha:∀ j,j<b.length→b[j]?.getD 0=0):idxN b = -1:=by
 have e:b.findIdx? (· ≠ 0)=none:=by
  rw[List.findIdx?_eq_none_iff]
  intro x hx
  obtain⟨j,hj,rfl⟩:=List.mem_iff_getElem.1 hx
  have:=ha j hj
  simpa [List.getElem?_eq_getElem hj] using this
 unfold idxN
 rw[e]
def noughtsB (b:List UInt8):Bool:=b.all (· == 0)
theorem noughts_idx (b:List UInt8):(!decide (0≤idxN b))=noughtsB b:=by
 unfold idxN noughtsB
 cases e:b.findIdx? (· ≠ 0) with
 | none =>
  rw[List.findIdx?_eq_none_iff] at e
  have:(b.all fun x=>x==0)=true:=by
   rw[List.all_eq_true]
   intro x hx
   simpa using e x hx
  rw[this]
  simp
 | some k =>
  rw[List.findIdx?_eq_some_iff_getElem] at e
  obtain⟨hk,h1,_⟩:=e
  have:(b.all fun x=>x==0)=false:=by
   rw[List.all_eq_false]
   exact⟨b[k],List.getElem_mem hk,by simpa using h1⟩
  rw[this]
  simp
set_option maxRecDepth 100000 in
theorem index_any (A:Option Addr) (n c:Nat) (b:List UInt8) (hn:Hid (b.length=n)) (l1:n≤c) (m1:c≤9223372036854775807) (w:World) (h:Byt w w.heap.size A b) :
  Calls Tryz.prog 104 #[.slice A n c,.func (.func 84) #[] #[]] w fun e w'=>e=.returned (.int .i64 (idxN b))∧w=w':=by
 have HY:=Lib.hid h
 clear h
 go_enter Tryz.func104,Tryz.ntmps104
 go_wp2_with fail
 go_loop [8] (fun i=>∃ k:Nat,k≤n∧i=.int .i64 k∧∀ j,j<k→b[j]?.getD 0=0) (fun i=>n-(intOf i).toNat)
 case atStart=>exact⟨0,by omega,rfl,fun j hj=>by omega⟩
 case round =>
  obtain⟨k,hk,rfl,ha⟩:=hrel
  replace ha:=Lib.hid ha
  by_cases hlt:k<n
  ·obtain⟨ad,rfl,_,hc⟩:=HY.out (by rw[hn.out];omega)
   replace hc:=hc k (by rw[hn.out];exact hlt)
   have hyes:=Lib.hid (fun h=>idxN_at (b:=b) (k:=k) (by rw[hn.out];exact hlt) ha.out h)
   have hno:Hid (b[k]?.getD 0=0→∀ j,j<k+1→b[j]?.getD 0=0):=Lib.hid fun h j hj=>by
    rcases Nat.lt_or_ge j k with h1 | h1
    ·exact ha.out j h1
    ·obtain rfl:j=k:=by omega
     exact h
   obtain⟨x,hx⟩:∃ x,b[k]?.getD 0=x:=⟨_,rfl⟩
   rw[hx] at hc hyes hno
   replace hx:=Lib.hid hx
   by_cases h0:(x.toNat:Int)=0
   ·have t0:((x.toNat:Int) != 0)=false:=by simpa using h0
    have hall:=Lib.hid (hno.out (UInt8.toNat.inj (by simpa using h0)))
    replace h0:=Lib.hid h0
    go_wp2_with fail
    with_reducible refine(nought_any _ _).mono ?_
    rintro e3 w3 ⟨rfl,rfl⟩
    rw[t0]
    go_wp2_with fail
    go_round
    case rel=>exact⟨k+1,by omega,by go_num,hall.out⟩
    case measure=>simp[intOf];omega
   ·have t0:((x.toNat:Int) != 0)=true:=by simpa using h0
    have hr:=Lib.hid (hyes.out (fun e=>h0 (by rw[e];rfl)))
    replace h0:=Lib.hid h0
    go_wp2_with fail
    with_reducible refine(nought_any _ _).mono ?_
    rintro e3 w3 ⟨rfl,rfl⟩
    rw[t0]
    go_wp2_with fail
    go_ret
    exact⟨ret_int hr.out.symm,rfl⟩
  ·have hr:=Lib.hid (idxN_none (b:=b) fun j hj=>ha.out j (by have:=hn.out;omega))
   go_wp2_with fail
   go_ret
   exact⟨ret_int hr.out.symm,rfl⟩
set_option maxRecDepth 100000 in
theorem noughts_any (A:Option Addr) (n c:Nat) (b:List UInt8) (hn:Hid (b.length=n)) (l1:n≤c) (m1:c≤9223372036854775807) (w:World) (h:Byt w w.heap.size A b) :
  Calls Tryz.prog 57 #[.slice A n c] w fun e w'=>e=.returned (.bool (noughtsB b))∧w=w':=by
 have HY:=Lib.hid h
 have hi:=Lib.hid (noughts_idx b)
 have hx:Hid (∀ W,Byt W W.heap.size A b→Calls Tryz.prog 83 #[.slice A n c,.func (.func 84) #[] #[]] W fun e w'=>e=.returned (.bool (decide (0≤idxN b)))∧W=w'):=Lib.hid fun W hW=>by
  have HW:=Lib.hid hW
  clear hW
  go_enter Tryz.func83,Tryz.ntmps83
  go_wp2_with fail
  with_reducible refine(index_any A n c b hn l1 m1 _ HW.out).mono ?_
  rintro e3 w3 ⟨rfl,rfl⟩
  go_wp2_with fail
  go_ret
  exact⟨rfl,rfl⟩
 clear h
 go_enter Tryz.func57,Tryz.ntmps57
 go_wp2_with fail
 with_reducible refine(hx.out _ HY.out).mono ?_
 rintro e3 w3 ⟨rfl,rfl⟩
 go_wp2_with fail
 go_ret
 exact⟨ret_bool hi.out,rfl⟩
end Go.Proofs.YtogieepfimpdmaaGreat
/-
 Package node: cut. Conditions: those that each lemma states.
-/
namespace Go.Proofs.YtogieepfimpdmaaGreat
open Go.RowKit
theorem item_info0:(Tryz.prog.info? 40).map (fun i=>(i.zero,i.size,i.bytes))=some (some (.agg #[.int .u8 0,.int .u32 0,.int .u32 0,.int .i64 0,.slice none 0 0]),5,48):=by kernel_rfl
theorem its_push {w:World} {lo:Nat} {A:Option Addr} {c:Nat} {xs:List It} (h:RowOf rIt 5 40 lo w A c xs) (g:Nat) (s:It) (d:Value) (m n:Nat) (hn:xs.length=n) (hg:w.heap[g]? = some (.cells #[.int .u8 (s.1.1.toNat:Int),.int .u32 s.1.2.1,.int .u32 s.1.2.2,.int .i64 s.2.1,d] 40 (0,0))) (hs:n<100000) (hbase:lo≤w.heap.size) (hin:InI s) (hx:rBy (NewBut lo A w) w [d] s.2.2) :
  ∃ A' c' w',(Builtin.append_ #[43,43] 43 #[.slice A n c,.slice (some ⟨g,0,none⟩) 1 m]).run Tryz.prog w=.ok (.slice A' (n+1) c') w'∧RowOf rIt 5 40 lo w' A' c' (xs++[s])∧w.grownBy w' (A.map (·.block))∧Below lo w w':=by
 subst hn
 obtain⟨i0,hi,hz0,hz1,hz2⟩:=info_parts item_info0
 obtain⟨E,ce,rfl,_⟩:=id (rBy_open hx)
 exact RowOf.push stab_it h 43 43 i0 (.agg #[.int .u8 0,.int .u32 0,.int .u32 0,.int .i64 0,.slice none 0 0]) 48 Tryz.underlying43 hi hz0 hz1 hz2 rfl (by decide) ⟨g,0,none⟩ m _ s rfl (World.news_of_block (cs:=#[.int .u8 (s.1.1.toNat:Int),.int .u32 s.1.2.1,.int .u32 s.1.2.2,.int .i64 s.2.1,.slice E s.2.2.length ce]) hg) (fun u hu=>by
  simp at hu
  rcases hu with rfl | rfl | rfl | rfl | rfl <;> rfl) (by unfold maxLen;omega) (by omega) hbase (rIt_mk hin hx)
def cutTo (b:List UInt8):Nat→Option (List It×List UInt8)
 | 0=>some ([],b)
 | k+1=>match cutTo b k with
  | none=>none
  | some (l,r)=>if okR r then some (l++[itR r],r.drop (itN r).toNat) else none
theorem cutTo_yes {b:List UInt8} {k:Nat} {l:List It} {r:List UInt8} (h:cutTo b k=some (l,r)) (h':okR r=true):cutTo b (k+1)=some (l++[itR r],r.drop (itN r).toNat):=by
 simp only[cutTo,h,h',if_true]
theorem cutTo_no {b:List UInt8} {k:Nat} {l:List It} {r:List UInt8} (h:cutTo b k=some (l,r)) (h':okR r=false):cutTo b (k+1)=none:=by
 simp only[cutTo,h,h']
 rfl
theorem cutTo_none {b:List UInt8} {k j:Nat} (h:cutTo b k=none) (hj:k≤j):cutTo b j=none:=by
 induction j with
 | zero =>
  have:k=0:=by omega
  rw[this] at h
  exact h
 | succ j ih =>
  rcases Nat.lt_or_ge k (j+1) with h1 | h1
  ·simp only[cutTo,ih (by omega)]
  ·have:k=j+1:=by omega
   rw[this] at h
   exact h
theorem cutTo_bytes {b:List UInt8}:∀ {k:Nat} {l:List It} {r:List UInt8},cutTo b k=some (l,r)→b=itsB l++r∧l.length=k∧(∀ x∈l,mayI x=true∧InI x)
 | 0,l,r,h=>by
  simp only[cutTo,Option.some.injEq,Prod.mk.injEq] at h
  obtain⟨rfl,rfl⟩:=h
  exact⟨by simp[itsB],rfl,fun x hx=>by simp at hx⟩
 | k+1,l,r,h=>by
  cases e:cutTo b k with
  | none=>simp[cutTo,e] at h
  | some p =>
   obtain⟨l',r'⟩:=p
   obtain⟨h1,h2,h3⟩:=cutTo_bytes e
   rcases bool_ways (okR r') with ho | ho
   ·rw[cutTo_no e ho] at h
    cases h
   ·rw[cutTo_yes e ho] at h
    simp only[Option.some.injEq,Prod.mk.injEq] at h
    obtain⟨rfl,rfl⟩:=h
    obtain⟨n,e1,e2,e3,e4⟩:=read_itB ho
    have hn:(itN r').toNat=n:=by rw[e1];omega
    refine⟨?_,by simp[h2],fun x hx => ?_⟩
    ·rw[itsB_snoc,e4,hn,List.append_assoc,List.take_append_drop]
     exact h1
    ·rcases List.mem_append.1 hx with hx | hx
     ·exact h3 x hx
     ·simp at hx
      subst hx
      exact⟨e3,by rw[itR,ho,if_pos rfl];exact inI_fields _⟩
def cutL (b:List UInt8) (k:Nat):List It:=((cutTo b k).map (·.1)).getD []
def cutR (b:List UInt8) (k:Nat):List UInt8:=((cutTo b k).map (·.2)).getD []
def cutF (b:List UInt8) (k:Nat):Int:=if (cutTo b k).isSome then 0 else 8
theorem rBy_rest {ok:Addr→Prop} {w:World} {ad:Addr} {n c:Nat} {b:List UInt8} (h:rBy ok w [.slice (some ad) n c] b) (k:Nat) (hk:k≤b.length):rBy ok w [.slice (some (ad.add k)) (n-k) (c-k)] (b.drop k):=by
 obtain⟨A,c',e,l1,l2,_⟩:=id h
 cases e
 have:=rBy_part h k (b.length-k) (c-k) (by omega) (by omega) (by omega)
 rwa [List.take_of_length_le (by simp)] at this
set_option maxRecDepth 100000 in
set_option maxHeartbeats 4000000 in
theorem nodeCut_own (v:Value) (b:List UInt8) (many:Nat) (hm:many<256) (w:World) (h:rBy (Old w) w [v] b) :
  Calls Tryz.prog 55 #[v,.int .i64 many] w fun e w'=>∃ A c u,e=.returned (.tuple #[.slice A (cutL b many).length c,u,.int .i64 (cutF b many)])∧RowOf rIt 5 40 w.heap.size w' A c (cutL b many)∧rBy (Old w') w' [u] (cutR b many)∧Below w.heap.size w w':=by
 have HV:=Lib.hid h
 clear h
 go_enter Tryz.func55,Tryz.ntmps55
 go_wp2_with fail
 go_loopw [0,7,12] (fun q it i wr=>∃ (k:Nat) (l:List It) (r:List UInt8) (A:Option Addr) (c:Nat),k≤many∧i=.int .i64 k∧it=.slice A k c∧l.length=k∧cutTo b k=some (l,r)∧rBy (Old w) w [q] r∧RowOf rIt 5 40 w.heap.size wr A c l∧Below w.heap.size w wr) (fun _ _ i _=>many-(intOf i).toNat)
 case atStart=>exact⟨0,[],b,none,0,by omega,rfl,rfl,rfl,rfl,HV.out,RowOf.nil _ _ _ _ _,Below.refl _ _⟩
 case round =>
  obtain⟨k,l,r,A,c,hk,rfl,rfl,hl,hcut,hq,hrow,hb⟩:=hrel
  replace hrow:=Lib.hid hrow
  replace hcut:=Lib.hid hcut
  replace hl:=Lib.hid hl
  replace hb:=Lib.hid hb
  obtain⟨Q,cq,rfl,n1,n2,_⟩:=id (rBy_open hq)
  obtain⟨nq,hnq⟩:∃ n,r.length=n:=⟨_,rfl⟩
  rw[hnq] at n1 hq ⊢
  replace hnq:=Lib.hid hnq
  replace hq:=Lib.hid hq
  have hqr:=Lib.hid (stab_by.old hq.out hb.out)
  by_cases hlt:k<many
  case neg =>
   have hkm:k=many:=by omega
   have hL:=Lib.hid (show cutL b many=l by rw[← hkm];simp[cutL,hcut.out])
   have hR:=Lib.hid (show cutR b many=r by rw[← hkm];simp[cutR,hcut.out])
   have hF:=Lib.hid (show cutF b many=0 by rw[← hkm];simp[cutF,hcut.out])
   replace hkm:=Lib.hid hkm
   go_wp2_with fail
   exact bodyPost_ret (v:=.tuple #[.slice A k c,.slice Q nq cq,.int .i64 0]) (by simp[results,Tryz.results55,go_sem]) rfl ⟨A,c,_,by rw[hL.out,hF.out,hl.out],by rw[hL.out];exact hrow.out,by rw[hR.out];exact hqr.out,hb.out⟩
  go_wp2_with fail
  with_reducible refine(itRead_any _ r _ hqr.out).mono ?_
  rintro e3 w3 ⟨u3,rfl,hu3,hb3⟩
  obtain⟨D,dc,rfl,hin,_,_,hby⟩:=id hu3.open
  obtain⟨w4,hw4,s0,s1,s2,s3,s4,hs4,hb4,b4⟩:=box_five w3 (.int .u8 ((itR r).1.1.toNat:Int)) (.int .u32 (itR r).1.2.1) (.int .u32 (itR r).1.2.2) (.int .i64 (itR r).2.1) (.slice D (itR r).2.2.length dc) 40
  have C4:=Lib.hid (hb3.trans (hb4.mono hb3.size))
  have B4:=Lib.hid (hb.out.trans (C4.out.mono hb.out.size))
  have hI4:=Lib.hid (hu3.new (Nat.le_refl _) hb4)
  obtain⟨x,hx⟩:∃ x,itR r=x:=⟨_,rfl⟩
  rw[hx] at hin s0 s1 s2 s3 s4 b4 hI4 hw4 ⊢
  replace hs4:=Lib.hid hs4
  replace hx:=Lib.hid hx
  clear hb3 hb4 hu3 hby
  unfold itV at *
  go_upto_region 5 with fail
  clear hw4
  rcases bool_ways (okR r) with hok | hok
  ·have hE:=Lib.hid (show itE r=8 by simp[itE,hok])
   have hno:=Lib.hid (cutTo_none (cutTo_no hcut.out hok) (show k+1≤many by omega))
   have hL:=Lib.hid (show cutL b many=[] by simp[cutL,hno.out])
   have hR:=Lib.hid (show cutR b many=[] by simp[cutR,hno.out])
   have hF:=Lib.hid (show cutF b many=8 by simp[cutF,hno.out])
   rw[hE.out]
   replace hok:=Lib.hid hok
   go_wp2_with fail
   exact bodyPost_ret (v:=.tuple #[.slice none 0 0,.slice none 0 0,.int .i64 8]) (by simp[results,Tryz.results55,go_sem]) rfl ⟨none,0,_,by rw[hL.out,hF.out];rfl,by rw[hL.out];exact RowOf.nil _ _ _ _ _,by rw[hR.out];exact rBy_part0 _ _ none,B4.out⟩
  have hE:=Lib.hid (show itE r=0 by simp[itE,hok])
  obtain⟨m,hm1,hm2,hm3,hm4⟩:=read_itB hok
  have hyes:=cutTo_yes hcut.out hok
  rw[hm1,show ((m:Int)).toNat=m by omega,hx.out] at hyes
  have hrl:12≤nq:=by have:=okC_yes (okR_fields hok).1;have:=hnq.out;omega
  rw[hnq.out] at hm2
  rw[hE.out,hm1]
  replace hyes:=Lib.hid hyes
  replace hok:=Lib.hid hok
  clear hm1 hm3 hm4
  obtain⟨w5,hw5,_,_,_,_,_,hs5,hb5,b5⟩:=box_five w4 (.int .u8 (x.1.1.toNat:Int)) (.int .u32 x.1.2.1) (.int .u32 x.1.2.2) (.int .i64 x.2.1) (.slice D x.2.2.length dc) 40
  have C5:=C4.out.trans (hb5.mono C4.out.size)
  have hI5:=hI4.out.new (Nat.le_refl _) hb5
  have hx5:rBy (NewBut w.heap.size A w5) w5 [.slice D x.2.2.length dc] x.2.2:=by
   obtain⟨d,e,_,hd⟩:=hI5
   have ed:d=.slice D x.2.2.length dc:=by injection e with e;simpa using e.symm
   subst ed
   exact stab_by _ _ _ _ _ _ (fun p v hp hc=>⟨hrow.out.but (Nat.le_refl _) hb.out.size hp,hc⟩) hd
  have row5:=RowOf.below stab_it hrow.out C5
  have hb5':=hb.out.trans (C5.mono hb.out.size)
  have hk5:l.length<100000:=by have:=hl.out;omega
  obtain⟨A6,c6,w6,hr6,row6,_,hb6⟩:=its_push row5 w4.heap.size x _ 1 k hl.out b5 (by omega) hb5'.size hin hx5
  have B6:=Lib.hid (hb5'.trans hb6)
  have H6:=Lib.hid hr6
  replace row6:=Lib.hid row6
  have hll:=Lib.hid (show (l++[x]).length=k+1 by simp[hl.out])
  obtain⟨qa,rfl⟩:∃ qa,Q=some qa:=by
   obtain⟨_,_,e,_,_,h4⟩:=rBy_open hq.out
   cases e
   obtain⟨qa,e,_⟩:=h4 0 (by have:=hnq.out;omega)
   exact⟨qa,e⟩
  have hrest:=Lib.hid (rBy_rest hq.out m (by rw[hnq.out];exact hm2))
  have hnil:Hid (m=nq→∀ W,rBy (Old W) W [.slice (some qa) 0 0] (r.drop m)):=Lib.hid fun e W=>by
   rw[List.drop_of_length_le (by rw[hnq.out];omega)]
   exact rBy_part0 _ _ _
  replace hs5:=Lib.hid hs5
  replace b5:=Lib.hid b5
  replace hI5:=Lib.hid hI5
  clear hr6 hb6 hx5 row5 C5 hb5 hb5' hin
  by_cases hmc:m=cq
  ·have c1:(0:Int)≤(m:Int):=by omega
   have c2:(m:Int)≤cq:=by omega
   have c3:(m:Int)≤nq:=by omega
   go_wp2_with (at_builtin;refine wpList_append_run rfl _ _ _ rfl rfl rfl H6.out ?_;clear H6)
   go_roundw
   case rel=>exact⟨k+1,l++[x],r.drop m,A6,c6,by omega,by go_num,rfl,hll.out,hyes.out,hnil.out (by omega) w,row6.out,B6.out⟩
   case measure=>simp[intOf];omega
  ·have c1:(0:Int)≤(m:Int):=by omega
   have c2:(m:Int)≤cq:=by omega
   have c3:(m:Int)≤nq:=by omega
   go_wp2_with (at_builtin;refine wpList_append_run rfl _ _ _ rfl rfl rfl H6.out ?_;clear H6)
   go_roundw
   case rel=>exact⟨k+1,l++[x],r.drop m,A6,c6,by omega,by go_num,rfl,hll.out,hyes.out,hrest.out,row6.out,B6.out⟩
   case measure=>simp[intOf];omega
end Go.Proofs.YtogieepfimpdmaaGreat
/-
 Package node: slices.Clone at items,Twin. Conditions: those that each lemma states.
-/
namespace Go.Proofs.YtogieepfimpdmaaGreat
open Go.RowKit
abbrev Iv:=It×Value
def cell5 (p:Iv):List Value:=[.int .u8 (p.1.1.1.toNat:Int),.int .u32 p.1.1.2.1,.int .u32 p.1.1.2.2,.int .i64 p.1.2.1,p.2]
def cells5 (ps:List Iv):List Value:=(ps.map cell5).flatten
theorem cells5_length:∀ ps:List Iv,(cells5 ps).length=ps.length*5
 | []=>rfl
 | p::r=>by
  have:=cells5_length r
  simp[cells5,cell5] at this ⊢
  omega
theorem cells5_at:∀ {ps:List Iv} {k:Nat} {p:Iv},ps[k]? = some p→∀ j v,(cell5 p)[j]? = some v→(cells5 ps)[k*5+j]? = some v
 | q::r,0,p,h,j,v,hv=>by
  simp at h
  subst h
  have hj:j<(cell5 q).length:=(List.getElem?_eq_some_iff.1 hv).1
  show ((cell5 q)++cells5 r)[0*5+j]? = some v
  rw[Nat.zero_mul,Nat.zero_add,List.getElem?_append_left hj,hv]
 | q::r,k+1,p,h,j,v,hv=>by
  have h':r[k]? = some p:=by simpa using h
  have:=cells5_at h' j v hv
  show ((cell5 q)++cells5 r)[(k+1)*5+j]? = some v
  have hl:(cell5 q).length=5:=rfl
  rw[List.getElem?_append_right (by omega),hl,show (k+1)*5+j-5=k*5+j by omega]
  exact this
theorem cells5_one {ps:List Iv} (h:∀ p∈ps,p.2.oneCell'=true):∀ u∈cells5 ps,u.oneCell'=true:=fun u hu=>by
 unfold cells5 at hu
 rw[List.mem_flatten] at hu
 obtain⟨l,hl,hul⟩:=hu
 obtain⟨p,hp,rfl⟩:=List.mem_map.1 hl
 simp[cell5] at hul
 rcases hul with rfl | rfl | rfl | rfl | rfl
 ·rfl
 ·rfl
 ·rfl
 ·rfl
 ·exact h p hp
end Go.Proofs.YtogieepfimpdmaaGreat
/-
 Package node: refers,Check. Conditions: those that each lemma states.
-/
namespace Go.Proofs.YtogieepfimpdmaaGreat
open Go.RowKit
set_option maxRecDepth 100000 in
set_option maxHeartbeats 2000000 in
theorem refers_any (v:Value) (s:It) (w:World) (h:Itm (Old w) w v s):Calls Tryz.prog 82 #[v] w fun e w'=>e=.returned (.bool (refersI s))∧Below w.heap.size w w':=by
 obtain⟨A,c,rfl,_,l1,m1,_⟩:=h.open
 have hw:refersI s=(decide (s.2.1≠0)&&decide (s.2.2.length=0)):=rfl
 obtain⟨n,hn⟩:∃ n,s.2.2.length=n:=⟨_,rfl⟩
 unfold itV
 rw[hn] at l1 hw ⊢
 obtain⟨w0,hw0,f1,f2,f3,f4,f5,hs0,hB0,_⟩:=box_five w (.int .u8 (s.1.1.toNat:Int)) (.int .u32 s.1.2.1) (.int .u32 s.1.2.2) (.int .i64 s.2.1) (.slice A n c) 40
 clear f1 f2 f3 hs0 hn h
 replace hB0:=Lib.hid hB0
 obtain⟨r,hr⟩:∃ r,s.2.1=r:=⟨_,rfl⟩
 rw[hr] at hw f4 hw0 ⊢
 clear hr
 generalize refersI s=res at hw ⊢
 replace hw:=Lib.hid hw
 by_cases h0:r=0
 ·have t0:(r != 0)=false:=by simpa using h0
  have hr:=Lib.hid (show res=false by rw[hw.out];simp[h0])
  replace h0:=Lib.hid h0
  go_enter Tryz.func82,Tryz.ntmps82
  go_upto_region 1 with fail
  clear hw0
  go_wp2_with fail
  go_ret
  exact⟨ret_bool hr.out.symm,hB0.out⟩
 ·have t0:(r != 0)=true:=by simpa using h0
  by_cases h1:n=0
  ·have t1:((n:Int)==0)=true:=by simp;omega
   have hr:=Lib.hid (show res=true by rw[hw.out];simp[h0,h1])
   replace h0:=Lib.hid h0
   replace h1:=Lib.hid h1
   go_enter Tryz.func82,Tryz.ntmps82
   go_upto_region 1 with fail
   clear hw0
   go_wp2_with fail
   go_ret
   exact⟨ret_bool hr.out.symm,hB0.out⟩
  ·have t1:((n:Int)==0)=false:=by simp;omega
   have hr:=Lib.hid (show res=false by rw[hw.out];simp[h1])
   replace h0:=Lib.hid h0
   replace h1:=Lib.hid h1
   go_enter Tryz.func82,Tryz.ntmps82
   go_upto_region 1 with fail
   clear hw0
   go_wp2_with fail
   go_ret
   exact⟨ret_bool hr.out.symm,hB0.out⟩
theorem bool_two (b:Bool):b=false∨b=true:=by cases b <;> simp
set_option maxRecDepth 100000 in
set_option maxHeartbeats 8000000 in
theorem checkN_any (v:Value) (n:Nd) (w:World) (h:Nod (Old w) w v n):Calls Tryz.prog 56 #[v] w fun e w'=>e=.returned (.int .i64 (chkN n))∧Below w.heap.size w w':=by
 obtain⟨A,c,rfl,hin,l1,m1,hA⟩:=h.open
 have hbad0:=Lib.hid (fun hh=>chkN_bad (mayN_shape (n:=n) hh))
 have hbad1:Hid (∀ k,k<n.2.length→okAt n k=false→chkN n=8):=Lib.hid fun k hk hh=>chkN_bad (mayN_at hk hh)
 have hgood:=Lib.hid (fun hh h2=>chkN_ok (mayN_mk (n:=n) hh h2))
 have HA:=Lib.hid hA
 clear h hA
 obtain⟨m,hm⟩:∃ m,n.2.length=m:=⟨_,rfl⟩
 obtain⟨l,hl⟩:∃ l,n.1=l:=⟨_,rfl⟩
 rw[hm] at l1 hbad0 hbad1 hgood HA ⊢
 rw[hl] at hbad0 hgood hin ⊢
 obtain⟨i1,i2⟩:=hin
 replace hm:=Lib.hid hm
 replace hl:=Lib.hid hl
 obtain⟨w0,hw0,b0,hs0,hB0⟩:=box_pair' w (.int .i64 l) (.slice A m c) 45
 obtain⟨f1,f2,_,lt0⟩:=two_cells b0
 replace hB0:=Lib.hid hB0
 replace b0:=Lib.hid b0
 replace hs0:=Lib.hid hs0
 by_cases h1:l<0
 ·have hr:=Lib.hid (hbad0.out (by omega))
  rw[hr.out]
  go_enter Tryz.func56,Tryz.ntmps56
  go_upto_region 1 with fail
  clear hw0
  go_wp2_with fail
  go_ret
  exact⟨rfl,hB0.out⟩
 by_cases h2:6≤l
 ·have hr:=Lib.hid (hbad0.out (by omega))
  rw[hr.out]
  go_enter Tryz.func56,Tryz.ntmps56
  go_upto_region 1 with fail
  clear hw0
  go_wp2_with fail
  go_ret
  exact⟨rfl,hB0.out⟩
 by_cases h3:5<m
 ·have hr:=Lib.hid (hbad0.out (by omega))
  have h3':(5:Int)<m:=by omega
  rw[hr.out]
  go_enter Tryz.func56,Tryz.ntmps56
  go_upto_region 1 with fail
  clear hw0
  go_wp2_with fail
  go_ret
  exact⟨rfl,hB0.out⟩
 have h3':¬ (5:Int)<m:=by omega
 by_cases h4:0<l∧m=0
 ·have hr:=Lib.hid (hbad0.out (by omega))
  obtain⟨h4a,h4b⟩:=h4
  have h4c:((m:Int)==0)=true:=by simp;omega
  replace h4b:=Lib.hid h4b
  rw[hr.out]
  go_enter Tryz.func56,Tryz.ntmps56
  go_upto_region 1 with fail
  clear hw0
  go_wp2_with fail
  go_ret
  exact⟨rfl,hB0.out⟩
 have hgood2:=Lib.hid (hgood.out (by omega))
 have hB:=Lib.hid (fun wr (hb:Below w0.heap.size w0 wr)=>hB0.out.trans (hb.mono hB0.out.size))
 clear hgood hbad0
 rcases(by omega:l≤0∨(0<l∧m≠0)) with h5 | ⟨h5,h6⟩
 rotate_left
 ·have h6':((m:Int)==0)=false:=by simp;omega
  replace h6:=Lib.hid h6
  replace h4:=Lib.hid h4
  go_enter Tryz.func56,Tryz.ntmps56
  go_upto_region 1 with fail
  clear hw0
  go_wp2_with fail
  go_loopw [31] (fun i wr=>∃ k:Nat,k≤m∧i=.int .i64 k∧(∀ j,j<k→okAt n j=true)∧Below w0.heap.size w0 wr) (fun i _=>m-(intOf i).toNat)
  case atStart=>exact⟨0,by omega,rfl,fun j hj=>by omega,Below.refl _ _⟩
  case round =>
   obtain⟨k,hk,rfl,ha,hb⟩:=hrel
   replace ha:=Lib.hid ha
   replace hb:=Lib.hid hb
   have p1:=(hb.out.cell (p:=⟨w.heap.size,0,none⟩) lt0).trans f1
   have p2:=(hb.out.cell (p:=⟨w.heap.size,1,none⟩) lt0).trans f2
   by_cases hlt:k<m
   case neg =>
    have hfin:=Lib.hid (hgood2.out fun i hi=>ha.out i (by omega))
    have BF:=Lib.hid (hB.out _ hb.out)
    go_wp2_with fail
    go_ret
    exact⟨ret_int hfin.out.symm,BF.out⟩
   obtain⟨x,hx⟩:∃ x,n.2[k]? = some x:=⟨_,List.getElem?_eq_getElem (by rw[hm.out];exact hlt)⟩
   obtain⟨ad,E,ce,rfl,q1,q2,hinx,FX⟩:=its_old HA.out hx
   have FX':=Lib.hid (fun W (hW:Below wr.heap.size wr W)=>FX W ((hB.out _ hb.out).trans (hW.mono (hB.out _ hb.out).size)))
   obtain⟨⟨z0,z1,z2,z3,z4⟩,hIx⟩:=FX'.out wr (Below.refl _ _)
   obtain⟨w2,hw2,g0,g1,g2,g3,g4,hs2,hB2,_⟩:=box_five wr (.int .u8 (x.1.1.toNat:Int)) (.int .u32 x.1.2.1) (.int .u32 x.1.2.2) (.int .i64 x.2.1) (.slice E x.2.2.length ce) 40
   have HI:=Lib.hid (hIx.below hB2)
   have lt2:wr.heap.size<w2.heap.size:=by omega
   have B2:=Lib.hid (hb.out.trans (hB2.mono hb.out.size))
   have C2:=Lib.hid hB2
   replace hx:=Lib.hid hx
   replace hs2:=Lib.hid hs2
   have hbk:=Lib.hid (hbad1.out k hlt)
   clear FX hIx hB2 hinx
   unfold itV at *
   go_upto_region 8 with fail
   clear hw2
   go_wp2_with fail
   with_reducible refine(checkI_any _ x _ HI.out).mono ?_
   rintro e3 w3 ⟨rfl,hb3⟩
   have B3:=Lib.hid (B2.out.trans (hb3.mono B2.out.size))
   have C3:=Lib.hid (C2.out.trans (hb3.mono C2.out.size))
   have r0:=(hb3.cell (p:=⟨wr.heap.size,0,none⟩) lt2).trans g0
   have r1:=(hb3.cell (p:=⟨wr.heap.size,1,none⟩) lt2).trans g1
   have r2:=(hb3.cell (p:=⟨wr.heap.size,2,none⟩) lt2).trans g2
   have r3:=(hb3.cell (p:=⟨wr.heap.size,3,none⟩) lt2).trans g3
   have r4:=(hb3.cell (p:=⟨wr.heap.size,4,none⟩) lt2).trans g4
   have p3:=(hb3.cell (p:=⟨w.heap.size,0,none⟩) (Nat.lt_of_lt_of_le lt0 B2.out.size)).trans ((C2.out.cell (p:=⟨w.heap.size,0,none⟩) (Nat.lt_of_lt_of_le lt0 hb.out.size)).trans p1)
   have p4:=(hb3.cell (p:=⟨w.heap.size,1,none⟩) (Nat.lt_of_lt_of_le lt0 B2.out.size)).trans ((C2.out.cell (p:=⟨w.heap.size,1,none⟩) (Nat.lt_of_lt_of_le lt0 hb.out.size)).trans p2)
   replace HI:=Lib.hid (HI.out.below hb3)
   have lt3:wr.heap.size<w3.heap.size:=Nat.lt_of_lt_of_le lt2 hb3.size
   clear hb3 g0 g1 g2 g3 g4 z0 z1 z2 z3 z4 p1 p2
   rcases bool_two (mayI x) with hmx | hmx
   ·have hr:=Lib.hid (hbk.out (okAt_noP hx.out (by rw[okP,hmx];rfl)))
    have hc:=Lib.hid (chkI_bad hmx)
    have BF:=Lib.hid (hB.out _ B3.out)
    replace hmx:=Lib.hid hmx
    rw[hc.out]
    go_wp2_with fail
    go_ret
    exact⟨ret_int hr.out.symm,BF.out⟩
   have hc:=Lib.hid (chkI_ok hmx)
   replace hmx:=Lib.hid hmx
   rw[hc.out]
   go_wp2_with fail
   with_reducible refine(refers_any _ x _ HI.out).mono ?_
   rintro e4 w4 ⟨rfl,hb4⟩
   have B4:=Lib.hid (B3.out.trans (hb4.mono B3.out.size))
   have C4:=Lib.hid (C3.out.trans (hb4.mono C3.out.size))
   have t0:=(hb4.cell (p:=⟨wr.heap.size,0,none⟩) lt3).trans r0
   have t1:=(hb4.cell (p:=⟨wr.heap.size,1,none⟩) lt3).trans r1
   have t2:=(hb4.cell (p:=⟨wr.heap.size,2,none⟩) lt3).trans r2
   have p5:=(hb4.cell (p:=⟨w.heap.size,1,none⟩) (Nat.lt_of_lt_of_le lt0 B3.out.size)).trans p4
   have lt4:wr.heap.size<w4.heap.size:=Nat.lt_of_lt_of_le lt3 hb4.size
   have lt0':w.heap.size<w4.heap.size:=Nat.lt_of_lt_of_le lt0 B4.out.size
   clear hb4 r0 r1 r2 r3 r4 p3 p4
   rcases bool_two (refersI x) with hrx | hrx
   ·have hr:=Lib.hid (hbk.out (okAt_noP hx.out (by rw[okP,hmx.out,hrx,hl.out];simp;omega)))
    have BF:=Lib.hid (hB.out _ B4.out)
    rw[hrx]
    replace hrx:=Lib.hid hrx
    go_wp2_with fail
    go_ret
    exact⟨ret_int hr.out.symm,BF.out⟩
   have hP:=Lib.hid (show okP n.1 x=true by rw[okP,hmx.out,hrx];simp)
   rw[hrx]
   replace hrx:=Lib.hid hrx
   rcases(by rcases k with _ | j;exact Or.inl rfl;exact Or.inr ⟨j,rfl⟩:k=0∨∃ j,k=j+1) with hk0 | ⟨j,hkj⟩
   ·have hall:=Lib.hid (show ∀ j,j<k+1→okAt n j=true from fun j hj=>by
     obtain rfl:j=0:=by omega
     subst hk0
     rw[okAt_zero hx.out,hP.out])
    subst hk0
    go_wp2_with fail
    go_quiet (fail)
    go_wp2_with fail
    go_roundw
    case rel=>exact⟨0+1,by omega,by go_num,hall.out,below_drewN B4.out _⟩
    case measure=>simp[intOf];omega
   ·obtain⟨y,hy⟩:∃ y,n.2[j]? = some y:=⟨_,List.getElem?_eq_getElem (by rw[hm.out];omega)⟩
    obtain⟨ad',E',ce',e',_,_,_,FY⟩:=its_old HA.out hy
    have e'':=Option.some.inj e'
    subst e''
    clear e'
    have BW4:=Lib.hid (hB.out _ B4.out)
    have FYY:=Lib.hid fun W (hW:Below _ _ W)=>(FY W (BW4.out.trans (hW.mono BW4.out.size))).1
    have hsucc:=Lib.hid (show okAt n k=lessK y.1 x.1 by subst hkj;rw[okAt_succ hx.out hy,hP.out];simp)
    have hj1:(k:Int)-1=(j:Int):=by omega
    replace hy:=Lib.hid hy
    obtain⟨s,hs⟩:∃ s,lessK y.1 x.1=s:=⟨_,rfl⟩
    rw[hs] at hsucc
    replace hs:=Lib.hid hs
    have hwj:IntKind.i64.wrap (j:Int)=(j:Int):=IntWalk.i64_in _ (by omega)
    have hj0:(0:Int)≤(j:Int):=by omega
    have kpos:(0:Int)<(k:Int):=by omega
    have hjm:(j:Int)<(m:Int):=by omega
    clear FY
    go_wp2_with fail
    refine wp_region_fx (by kernel_rfl) (fun W=>Below _ _ W) (fun _=>none) (fun i=>match i with
     | 12=>some (.bool s)
     | _=>none) (by kernel_rfl) (Below.refl _ _).drew (fun w w' h hb=>h.trans (hb.mono h.size)) (fun j φ x W W' hp=>by cases hp) ?_
    repeat (first
     | (refine wpAs_skip rfl ?_;simp only[Act.put,List.setIfInBounds_toArray,List.set_cons_zero,List.set_cons_succ])
     | (refine wpAs_pure (v := ?_) rfl rfl ?_ ?_;rotate_left;(intro W hC hE;clear hE;(obtain⟨y0,y1,y2,y3,y4⟩:=FYY.out W hC;have x0:=(hC.cell (p:=⟨wr.heap.size,0,none⟩) lt4).trans t0;have x1:=(hC.cell (p:=⟨wr.heap.size,1,none⟩) lt4).trans t1;have x2:=(hC.cell (p:=⟨wr.heap.size,2,none⟩) lt4).trans t2;have p6:=(hC.cell (p:=⟨w.heap.size,1,none⟩) lt0').trans p5);clear hC;go_simp;done);simp only[Act.put,List.setIfInBounds_toArray,List.set_cons_zero,List.set_cons_succ])
     | (refine wpAs_pure (v := ?_) rfl rfl ?_ ?_;rotate_left;(intro W hC hE;clear hE;(obtain⟨y0,y1,y2,y3,y4⟩:=FYY.out W hC;have x0:=(hC.cell (p:=⟨wr.heap.size,0,none⟩) lt4).trans t0;have x1:=(hC.cell (p:=⟨wr.heap.size,1,none⟩) lt4).trans t1;have x2:=(hC.cell (p:=⟨wr.heap.size,2,none⟩) lt4).trans t2;have p6:=(hC.cell (p:=⟨w.heap.size,1,none⟩) lt0').trans p5);clear hC;go_simp;with_reducible rfl);simp only[Act.put,List.setIfInBounds_toArray,List.set_cons_zero,List.set_cons_succ]))
    refine wpAs_fixed rfl rfl rfl ?_ ?_
    ·intro W hC hE
     refine does_enter (f:=19) (args:=#[kyV y.1,kyV x.1]) ?_ ?_
     ·go_simp
     ·refine(less_any y.1 x.1 W).mono ?_
      rintro e W' ⟨rfl,hg⟩
      rw[hs.out]
      exact⟨_,rfl,rfl,hg⟩
    simp only[Act.put,List.setIfInBounds_toArray,List.set_cons_zero,List.set_cons_succ]
    repeat (first
     | (refine wpAs_skip rfl ?_;simp only[Act.put,List.setIfInBounds_toArray,List.set_cons_zero,List.set_cons_succ])
     | (refine wpAs_pure (v := ?_) rfl rfl ?_ ?_;rotate_left;(intro W hC hE;clear hE;skip;clear hC;go_simp;done);simp only[Act.put,List.setIfInBounds_toArray,List.set_cons_zero,List.set_cons_succ])
     | (refine wpAs_pure (v := ?_) rfl rfl ?_ ?_;rotate_left;(intro W hC hE;clear hE;skip;clear hC;go_simp;with_reducible rfl);simp only[Act.put,List.setIfInBounds_toArray,List.set_cons_zero,List.set_cons_succ]))
    refine wpAs_end fun W hC hE => ?_
    have BW:=Lib.hid (B4.out.trans (hC.mono B4.out.size))
    clear hE hC
    cases s with
    | true =>
     have hall:=Lib.hid (show ∀ j,j<k+1→okAt n j=true from fun j hj=>by
      rcases Nat.lt_or_ge j k with h | h
      ·exact ha.out j h
      ·obtain rfl:j=k:=by omega
       exact hsucc.out)
     go_wp2_with fail
     go_roundw
     case rel=>exact⟨k+1,by omega,by go_num,hall.out,BW.out⟩
     case measure=>simp[intOf];omega
    | false =>
     have hr:=Lib.hid (hbk.out hsucc.out)
     have BF:=Lib.hid (hB.out _ BW.out)
     go_wp2_with fail
     go_ret
     exact⟨ret_int hr.out.symm,BF.out⟩
 ·replace h4:=Lib.hid h4
  go_enter Tryz.func56,Tryz.ntmps56
  go_upto_region 1 with fail
  clear hw0
  go_wp2_with fail
  go_loopw [31] (fun i wr=>∃ k:Nat,k≤m∧i=.int .i64 k∧(∀ j,j<k→okAt n j=true)∧Below w0.heap.size w0 wr) (fun i _=>m-(intOf i).toNat)
  case atStart=>exact⟨0,by omega,rfl,fun j hj=>by omega,Below.refl _ _⟩
  case round =>
   obtain⟨k,hk,rfl,ha,hb⟩:=hrel
   replace ha:=Lib.hid ha
   replace hb:=Lib.hid hb
   have p1:=(hb.out.cell (p:=⟨w.heap.size,0,none⟩) lt0).trans f1
   have p2:=(hb.out.cell (p:=⟨w.heap.size,1,none⟩) lt0).trans f2
   by_cases hlt:k<m
   case neg =>
    have hfin:=Lib.hid (hgood2.out fun i hi=>ha.out i (by omega))
    have BF:=Lib.hid (hB.out _ hb.out)
    go_wp2_with fail
    go_ret
    exact⟨ret_int hfin.out.symm,BF.out⟩
   obtain⟨x,hx⟩:∃ x,n.2[k]? = some x:=⟨_,List.getElem?_eq_getElem (by rw[hm.out];exact hlt)⟩
   obtain⟨ad,E,ce,rfl,q1,q2,hinx,FX⟩:=its_old HA.out hx
   have FX':=Lib.hid (fun W (hW:Below wr.heap.size wr W)=>FX W ((hB.out _ hb.out).trans (hW.mono (hB.out _ hb.out).size)))
   obtain⟨⟨z0,z1,z2,z3,z4⟩,hIx⟩:=FX'.out wr (Below.refl _ _)
   obtain⟨w2,hw2,g0,g1,g2,g3,g4,hs2,hB2,_⟩:=box_five wr (.int .u8 (x.1.1.toNat:Int)) (.int .u32 x.1.2.1) (.int .u32 x.1.2.2) (.int .i64 x.2.1) (.slice E x.2.2.length ce) 40
   have HI:=Lib.hid (hIx.below hB2)
   have lt2:wr.heap.size<w2.heap.size:=by omega
   have B2:=Lib.hid (hb.out.trans (hB2.mono hb.out.size))
   have C2:=Lib.hid hB2
   replace hx:=Lib.hid hx
   replace hs2:=Lib.hid hs2
   have hbk:=Lib.hid (hbad1.out k hlt)
   clear FX hIx hB2 hinx
   unfold itV at *
   go_upto_region 8 with fail
   clear hw2
   go_wp2_with fail
   with_reducible refine(checkI_any _ x _ HI.out).mono ?_
   rintro e3 w3 ⟨rfl,hb3⟩
   have B3:=Lib.hid (B2.out.trans (hb3.mono B2.out.size))
   have C3:=Lib.hid (C2.out.trans (hb3.mono C2.out.size))
   have r0:=(hb3.cell (p:=⟨wr.heap.size,0,none⟩) lt2).trans g0
   have r1:=(hb3.cell (p:=⟨wr.heap.size,1,none⟩) lt2).trans g1
   have r2:=(hb3.cell (p:=⟨wr.heap.size,2,none⟩) lt2).trans g2
   have r3:=(hb3.cell (p:=⟨wr.heap.size,3,none⟩) lt2).trans g3
   have r4:=(hb3.cell (p:=⟨wr.heap.size,4,none⟩) lt2).trans g4
   have p3:=(hb3.cell (p:=⟨w.heap.size,0,none⟩) (Nat.lt_of_lt_of_le lt0 B2.out.size)).trans ((C2.out.cell (p:=⟨w.heap.size,0,none⟩) (Nat.lt_of_lt_of_le lt0 hb.out.size)).trans p1)
   have p4:=(hb3.cell (p:=⟨w.heap.size,1,none⟩) (Nat.lt_of_lt_of_le lt0 B2.out.size)).trans ((C2.out.cell (p:=⟨w.heap.size,1,none⟩) (Nat.lt_of_lt_of_le lt0 hb.out.size)).trans p2)
   replace HI:=Lib.hid (HI.out.below hb3)
   have lt3:wr.heap.size<w3.heap.size:=Nat.lt_of_lt_of_le lt2 hb3.size
   clear hb3 g0 g1 g2 g3 g4 z0 z1 z2 z3 z4 p1 p2
   rcases bool_two (mayI x) with hmx | hmx
   ·have hr:=Lib.hid (hbk.out (okAt_noP hx.out (by rw[okP,hmx];rfl)))
    have hc:=Lib.hid (chkI_bad hmx)
    have BF:=Lib.hid (hB.out _ B3.out)
    replace hmx:=Lib.hid hmx
    rw[hc.out]
    go_wp2_with fail
    go_ret
    exact⟨ret_int hr.out.symm,BF.out⟩
   have hc:=Lib.hid (chkI_ok hmx)
   replace hmx:=Lib.hid hmx
   rw[hc.out]
   have h5q:¬ (0:Int)<l:=by omega
   have hP:=Lib.hid (show okP n.1 x=true by rw[okP,hmx.out,hl.out];simp;omega)
   obtain⟨w4,hw4⟩:∃ w4,w3=w4:=⟨_,rfl⟩
   subst hw4
   have B4:=B3
   have C4:=C3
   have t0:=r0
   have t1:=r1
   have t2:=r2
   have p5:=p4
   have lt4:=lt3
   have lt0':w.heap.size<w3.heap.size:=Nat.lt_of_lt_of_le lt0 B4.out.size
   clear r0 r1 r2 r3 r4 lt3
   rcases(by rcases k with _ | j;exact Or.inl rfl;exact Or.inr ⟨j,rfl⟩:k=0∨∃ j,k=j+1) with hk0 | ⟨j,hkj⟩
   ·have hall:=Lib.hid (show ∀ j,j<k+1→okAt n j=true from fun j hj=>by
     obtain rfl:j=0:=by omega
     subst hk0
     rw[okAt_zero hx.out,hP.out])
    subst hk0
    go_wp2_with fail
    go_quiet (fail)
    go_wp2_with fail
    go_roundw
    case rel=>exact⟨0+1,by omega,by go_num,hall.out,below_drewN B4.out _⟩
    case measure=>simp[intOf];omega
   ·obtain⟨y,hy⟩:∃ y,n.2[j]? = some y:=⟨_,List.getElem?_eq_getElem (by rw[hm.out];omega)⟩
    obtain⟨ad',E',ce',e',_,_,_,FY⟩:=its_old HA.out hy
    have e'':=Option.some.inj e'
    subst e''
    clear e'
    have BW4:=Lib.hid (hB.out _ B4.out)
    have FYY:=Lib.hid fun W (hW:Below _ _ W)=>(FY W (BW4.out.trans (hW.mono BW4.out.size))).1
    have hsucc:=Lib.hid (show okAt n k=lessK y.1 x.1 by subst hkj;rw[okAt_succ hx.out hy,hP.out];simp)
    have hj1:(k:Int)-1=(j:Int):=by omega
    replace hy:=Lib.hid hy
    obtain⟨s,hs⟩:∃ s,lessK y.1 x.1=s:=⟨_,rfl⟩
    rw[hs] at hsucc
    replace hs:=Lib.hid hs
    have hwj:IntKind.i64.wrap (j:Int)=(j:Int):=IntWalk.i64_in _ (by omega)
    have hj0:(0:Int)≤(j:Int):=by omega
    have kpos:(0:Int)<(k:Int):=by omega
    have hjm:(j:Int)<(m:Int):=by omega
    clear FY
    go_wp2_with fail
    refine wp_region_fx (by kernel_rfl) (fun W=>Below _ _ W) (fun _=>none) (fun i=>match i with
     | 12=>some (.bool s)
     | _=>none) (by kernel_rfl) (Below.refl _ _).drew (fun w w' h hb=>h.trans (hb.mono h.size)) (fun j φ x W W' hp=>by cases hp) ?_
    repeat (first
     | (refine wpAs_skip rfl ?_;simp only[Act.put,List.setIfInBounds_toArray,List.set_cons_zero,List.set_cons_succ])
     | (refine wpAs_pure (v := ?_) rfl rfl ?_ ?_;rotate_left;(intro W hC hE;clear hE;(obtain⟨y0,y1,y2,y3,y4⟩:=FYY.out W hC;have x0:=(hC.cell (p:=⟨wr.heap.size,0,none⟩) lt4).trans t0;have x1:=(hC.cell (p:=⟨wr.heap.size,1,none⟩) lt4).trans t1;have x2:=(hC.cell (p:=⟨wr.heap.size,2,none⟩) lt4).trans t2;have p6:=(hC.cell (p:=⟨w.heap.size,1,none⟩) lt0').trans p5);clear hC;go_simp;done);simp only[Act.put,List.setIfInBounds_toArray,List.set_cons_zero,List.set_cons_succ])
     | (refine wpAs_pure (v := ?_) rfl rfl ?_ ?_;rotate_left;(intro W hC hE;clear hE;(obtain⟨y0,y1,y2,y3,y4⟩:=FYY.out W hC;have x0:=(hC.cell (p:=⟨wr.heap.size,0,none⟩) lt4).trans t0;have x1:=(hC.cell (p:=⟨wr.heap.size,1,none⟩) lt4).trans t1;have x2:=(hC.cell (p:=⟨wr.heap.size,2,none⟩) lt4).trans t2;have p6:=(hC.cell (p:=⟨w.heap.size,1,none⟩) lt0').trans p5);clear hC;go_simp;with_reducible rfl);simp only[Act.put,List.setIfInBounds_toArray,List.set_cons_zero,List.set_cons_succ]))
    refine wpAs_fixed rfl rfl rfl ?_ ?_
    ·intro W hC hE
     refine does_enter (f:=19) (args:=#[kyV y.1,kyV x.1]) ?_ ?_
     ·go_simp
     ·refine(less_any y.1 x.1 W).mono ?_
      rintro e W' ⟨rfl,hg⟩
      rw[hs.out]
      exact⟨_,rfl,rfl,hg⟩
    simp only[Act.put,List.setIfInBounds_toArray,List.set_cons_zero,List.set_cons_succ]
    repeat (first
     | (refine wpAs_skip rfl ?_;simp only[Act.put,List.setIfInBounds_toArray,List.set_cons_zero,List.set_cons_succ])
     | (refine wpAs_pure (v := ?_) rfl rfl ?_ ?_;rotate_left;(intro W hC hE;clear hE;skip;clear hC;go_simp;done);simp only[Act.put,List.setIfInBounds_toArray,List.set_cons_zero,List.set_cons_succ])
     | (refine wpAs_pure (v := ?_) rfl rfl ?_ ?_;rotate_left;(intro W hC hE;clear hE;skip;clear hC;go_simp;with_reducible rfl);simp only[Act.put,List.setIfInBounds_toArray,List.set_cons_zero,List.set_cons_succ]))
    refine wpAs_end fun W hC hE => ?_
    have BW:=Lib.hid (B4.out.trans (hC.mono B4.out.size))
    clear hE hC
    cases s with
    | true =>
     have hall:=Lib.hid (show ∀ j,j<k+1→okAt n j=true from fun j hj=>by
      rcases Nat.lt_or_ge j k with h | h
      ·exact ha.out j h
      ·obtain rfl:j=k:=by omega
       exact hsucc.out)
     go_wp2_with fail
     go_roundw
     case rel=>exact⟨k+1,by omega,by go_num,hall.out,BW.out⟩
     case measure=>simp[intOf];omega
    | false =>
     have hr:=Lib.hid (hbk.out hsucc.out)
     have BF:=Lib.hid (hB.out _ BW.out)
     go_wp2_with fail
     go_ret
     exact⟨ret_int hr.out.symm,BF.out⟩
end Go.Proofs.YtogieepfimpdmaaGreat
/-
 Package node: Write. Conditions: those that each lemma states.
-/
namespace Go.Proofs.YtogieepfimpdmaaGreat
open Go.RowKit
theorem lit_own3 (w:World) (x y z:UInt8) (a b c:Int) (h1:(x.toNat:Int)=a) (h2:(y.toNat:Int)=b) (h3:(z.toNat:Int)=c):∃ w1,w.alloc (.cells #[.int .u8 a,.int .u8 b,.int .u8 c] 5)=w1∧w1.ownsRow w.heap.size 5 1 (.slice (some ⟨w.heap.size,0,none⟩) 3 3) 3 (u8s [x,y,z])∧Below w.heap.size w w1∧w1.heap.size=w.heap.size+1:=by
 subst h1 h2 h3
 refine⟨_,rfl,?_,(Below.refl _ _).alloc (Nat.le_refl _) _,by simp⟩
 have h1:Row (w.alloc (.cells #[.int .u8 (x.toNat:Int),.int .u8 (y.toNat:Int),.int .u8 (z.toNat:Int)] 5)) w.heap.size [x,y,z]:=Row.new w [x,y,z]
 exact h1.own (Nat.le_refl _) (by simp)
theorem u8_small {l:Int} (h0:0≤l) (h1:l<256):((UInt8.ofNat l.toNat).toNat:Int)=l∧IntKind.u8.wrap l=l:=by
 refine⟨?_,?_⟩
 ·rw[UInt8.toNat_ofNat']
  omega
 ·simp[IntKind.wrap,IntKind.signed,IntKind.bits]
  omega
theorem itsB_take_len {n:Nd} (h:mayN n=true) (k:Nat):(itsB (n.2.take k)).length≤120:=by
 have h1:=itsB_len (l:=n.2.take k) (fun x hx=>mayN_all h x (List.mem_of_mem_take hx))
 have h2:=(mayN_of h).1.2.2.1
 have h3:(n.2.take k).length≤n.2.length:=by rw[List.length_take];omega
 omega
set_option maxRecDepth 100000 in
set_option maxHeartbeats 4000000 in
theorem nodeWrite_any (v:Value) (n:Nd) (w:World) (h:Nod (Old w) w v n) :
  Calls Tryz.prog 64 #[v] w fun e w'=>∃ u,e=.returned (.tuple #[u,.int .i64 (chkN n)])∧rBy (New w.heap.size w') w' [u] (wrN n)∧Below w.heap.size w w':=by
 obtain⟨A,c,rfl,hin,l1,m1,hA⟩:=h.open
 obtain⟨w0,hw0,b0,hs0,hB0⟩:=box_pair' w (.int .i64 n.1) (.slice A n.2.length c) 45
 obtain⟨f1,f2,_,lt0⟩:=two_cells b0
 have HN:=Lib.hid (h.below hB0)
 have HA:=Lib.hid hA
 have HB0:=Lib.hid hB0
 replace hs0:=Lib.hid hs0
 clear h hA hB0 b0 hin
 rcases bool_two (mayN n) with hm | hm
 ·have hc:=Lib.hid (chkN_bad hm)
  have hw:=Lib.hid (show wrN n=[] by simp[wrN,hm])
  rw[hw.out]
  go_enter Tryz.func64,Tryz.ntmps64
  go_upto_region 1 with fail
  clear hw0
  go_wp2_with fail
  with_reducible refine(checkN_any _ n _ HN.out).mono ?_
  rintro e1 w1 ⟨rfl,hb1⟩
  rw[hc.out]
  have BF:=Lib.hid (HB0.out.trans (hb1.mono HB0.out.size))
  clear hb1
  go_wp2_with fail
  go_ret2
  exact⟨_,ret_two hc.out.symm,rBy_nil_new _ _,BF.out⟩
 have hmay:=Lib.hid hm
 have hc:=Lib.hid (chkN_ok hm)
 have hwr:=Lib.hid (show wrN n=blkN n by simp[wrN,hm])
 rw[hwr.out]
 obtain⟨⟨s1,s2,s3,_⟩,_⟩:=mayN_of hm
 obtain⟨m,hmm⟩:∃ m,n.2.length=m:=⟨_,rfl⟩
 have hu1:=u8_small s1 (by omega)
 have hu2:=u8_small (l:=(n.2.length:Int)) (by omega) (by omega)
 have hhead:=Lib.hid (show headN n=[78,UInt8.ofNat n.1.toNat,UInt8.ofNat n.2.length] from rfl)
 rw[Int.toNat_natCast] at hu2
 rw[hmm] at l1 f2 hw0 HN HA s3 hu2 hhead ⊢
 obtain⟨l,hl⟩:∃ l,n.1=l:=⟨_,rfl⟩
 rw[hl] at f1 hw0 HN s1 s2 hu1 hhead ⊢
 replace hl:=Lib.hid hl
 replace hmm:=Lib.hid hmm
 clear hm
 go_enter Tryz.func64,Tryz.ntmps64
 go_upto_region 1 with fail
 clear hw0
 go_wp2_with fail
 with_reducible refine(checkN_any _ n _ HN.out).mono ?_
 rintro e1 w1 ⟨rfl,hb1⟩
 rw[hc.out]
 have B1:=Lib.hid (HB0.out.trans (hb1.mono HB0.out.size))
 have p1:=(hb1.cell (p:=⟨w.heap.size,0,none⟩) lt0).trans f1
 have p2:=(hb1.cell (p:=⟨w.heap.size,1,none⟩) lt0).trans f2
 have lt1:w.heap.size<w1.heap.size:=Nat.lt_of_lt_of_le lt0 hb1.size
 clear hb1 f1 f2
 obtain⟨w2,hw2,own2,hb2,hs2⟩:=lit_own3 w1 78 (UInt8.ofNat l.toNat) (UInt8.ofNat m) 78 l m rfl hu1.1 hu2.1
 rw[← hhead.out] at own2
 have q1:=hu1.2
 have q2:=hu2.2
 have B2:=Lib.hid (B1.out.trans (hb2.mono B1.out.size))
 have p3:=(hb2.cell (p:=⟨w.heap.size,1,none⟩) lt1).trans p2
 have lt2:w.heap.size<w2.heap.size:=Nat.lt_of_lt_of_le lt1 hb2.size
 have h12:=Lib.hid hb2.size
 replace own2:=Lib.hid own2
 replace hu1:=Lib.hid hu1
 replace hu2:=Lib.hid hu2
 replace hs2:=Lib.hid hs2
 have hb2':=Lib.hid hb2
 have p2':=Lib.hid p2
 clear hb2
 go_upto_region 5 with fail
 clear hw2 p1 p2
 go_wp2_with fail
 go_loopw [5,26] (fun b i wr=>∃ k:Nat,k≤m∧i=.int .i64 k∧wr.ownsRow w1.heap.size 5 1 b (3+(itsB (n.2.take k)).length) (u8s (headN n++itsB (n.2.take k)))∧Below w1.heap.size w1 wr) (fun _ i _=>m-(intOf i).toNat)
 case atStart=>exact⟨0,by omega,rfl,by simpa [itsB] using own2.out,hb2'.out⟩
 case round =>
  obtain⟨k,hk,rfl,hown,hb⟩:=hrel
  replace hb:=Lib.hid hb
  have h63:=itsB_take_len hmay.out k
  obtain⟨B,cb,rfl,c1,c2,hby⟩:=own_byt hown
  have BF:=Lib.hid (B1.out.trans (hb.out.mono B1.out.size))
  by_cases hlt:k<m
  case neg =>
   have hkm:Hid (n.2.take k=n.2):=Lib.hid (List.take_of_length_le (by rw[hmm.out];omega))
   rw[hkm.out] at hby c1 h63 ⊢
   obtain⟨q,hq⟩:∃ q,3+(itsB n.2).length=q:=⟨_,rfl⟩
   have hlen:=Lib.hid (show (toldN n).length=q by rw[← hq];simp[toldN,headN];omega)
   have hse:=Lib.hid (show se q=0 from if_pos (by omega))
   have hsb:=Lib.hid (show sb (toldN n)=blkN n from if_pos (by rw[hlen.out];omega))
   have HY:Hid (Byt wr wr.heap.size B (toldN n)):=Lib.hid hby
   rw[hq] at c1 ⊢
   clear hown hq
   go_wp2_with fail
   with_reducible refine(seal_any B q cb (toldN n) hlen c1 c2 _ HY.out).mono ?_
   rintro e9 w9 ⟨u,rfl,ho,hb9⟩
   rw[hse.out]
   rw[hsb.out] at ho
   have hfin:=Lib.hid (stab_by.mono (own_by ho) BF.out.size)
   have B9:=Lib.hid (BF.out.trans (hb9.mono BF.out.size))
   clear hb9 ho
   go_wp2_with fail
   go_ret2
   exact⟨_,ret_two hc.out.symm,hfin.out,B9.out⟩
  have p4:=(hb.out.cell (p:=⟨w.heap.size,1,none⟩) lt1).trans p2'.out
  obtain⟨x,hx⟩:∃ x,n.2[k]? = some x:=⟨_,List.getElem?_eq_getElem (by rw[hmm.out];exact hlt)⟩
  obtain⟨ad,E,ce,rfl,q1,q2,hinx,FX⟩:=its_old HA.out hx
  obtain⟨⟨z0,z1,z2,z3,z4⟩,hIx⟩:=FX wr BF.out
  obtain⟨w3,hw3,r0,r1,r2,r3,r4,hs3,hB3,_⟩:=box_five wr (.int .u8 (x.1.1.toNat:Int)) (.int .u32 x.1.2.1) (.int .u32 x.1.2.2) (.int .i64 x.2.1) (.slice E x.2.2.length ce) 40
  have HI:=Lib.hid (hIx.below hB3)
  have B3:=Lib.hid (hb.out.trans (hB3.mono hb.out.size))
  have O3:=Lib.hid (own_below hown hB3)
  have hmx:=okP_may (mayN_item hmay.out hx)
  have hcx:=Lib.hid (chkI_ok hmx)
  have hwx:=Lib.hid (show wrI x=itB x by simp[wrI,hmx])
  have htk:=Lib.hid (itsB_take hx)
  have hlx:=Lib.hid (show (itB x).length≤24 by have:=(mayI_of hmx).2;rw[itB_length];omega)
  replace hx:=Lib.hid hx
  replace hs3:=Lib.hid hs3
  clear FX hB3 hinx hIx hown hby hmx
  unfold itV at *
  go_upto_region 8 with fail
  clear hw3 z0 z1 z2 z3 z4
  go_wp2_with fail
  with_reducible refine(itWrite_any _ x _ HI.out).mono ?_
  rintro e4 w4 ⟨u,rfl,hu,hb4⟩
  rw[hcx.out]
  rw[hwx.out] at hu
  obtain⟨U,cu,rfl,_,_,hyu⟩:=rBy_byt (B:=w4.heap.size) (fun p hp=>hp.2.1) hu
  have B4:=B3.out.trans (hb4.mono B3.out.size)
  obtain⟨v5,w5,hr5,o5,ba5⟩:=app_own_byt _ (3+(itsB (n.2.take k)).length) (itB x).length cu _ (itB x) U w1.heap.size w4 (own_below O3.out hb4) hyu rfl (by have:=hlx.out;omega) B4.size
  have B5:=Lib.hid (B4.trans ba5)
  have H5:=Lib.hid hr5
  have o5':=Lib.hid (show w5.ownsRow w1.heap.size 5 1 v5 (3+(itsB (n.2.take (k+1))).length) (u8s (headN n++itsB (n.2.take (k+1)))) by
   rw[htk.out,List.length_append,← List.append_assoc,← Nat.add_assoc]
   exact o5)
  clear hu hb4 hyu hr5 o5 ba5 B4
  go_wp2_with (at_builtin;refine wpList_append_run rfl _ _ _ rfl rfl rfl H5.out ?_;clear H5)
  go_roundw
  case rel=>exact⟨k+1,by omega,by go_num,o5'.out,B5.out⟩
  case measure=>simp[intOf];omega
end Go.Proofs.YtogieepfimpdmaaGreat
/-
 Package node: Read. Conditions: those that each lemma states.
-/
namespace Go.Proofs.YtogieepfimpdmaaGreat
open Go.RowKit
def lvlN (body:List UInt8):Int:=((body[1]?.getD 0).toNat:Int)
def manyN (body:List UInt8):Nat:=(body[2]?.getD 0).toNat
theorem manyN_lt (body:List UInt8):manyN body<256:=(body[2]?.getD 0).toNat_lt
theorem lvlN_in (body:List UInt8):In64 (lvlN body):=by
 have:=(body[1]?.getD 0).toNat_lt
 unfold lvlN
 exact⟨by omega,by omega⟩
def ndN (body:List UInt8):Nd:=(lvlN body,cutL (body.drop 3) (manyN body))
def rdN (body:List UInt8):Bool:=decide (body[0]?.getD 0=78)&&((cutTo (body.drop 3) (manyN body)).isSome&&(mayN (ndN body)&&noughtsB (cutR (body.drop 3) (manyN body))))
noncomputable def reN (b:List UInt8):Int:=if oe b=0 then (if rdN (ob b) then 0 else 8) else oe b
noncomputable def reV (b:List UInt8):Nd:=if oe b=0 then (if rdN (ob b) then ndN (ob b) else zeroN) else zeroN
theorem oe_zeroN {b:List UInt8} (h:oe b=0):b.length=128∧fits b∧ob b=b.drop 4∧(ob b).length=124:=by
 unfold oe at h
 by_cases h1:b.length=128
 ·rw[if_pos h1] at h
  by_cases h2:fits b
  ·have:ob b=b.drop 4:=by unfold ob;rw[if_pos ⟨h1,h2⟩]
   exact⟨h1,h2,this,by rw[this];simp[h1]⟩
  ·rw[if_neg h2] at h;cases h
 ·rw[if_neg h1] at h;cases h
theorem reN_open {b:List UInt8} (h:oe b≠0):reN b=oe b∧reV b=zeroN:=by
 unfold reN reV
 rw[if_neg h,if_neg h]
 exact⟨rfl,rfl⟩
theorem reN_bad {b:List UInt8} (h:oe b=0) (h':rdN (ob b)=false):reN b=8∧reV b=zeroN:=by
 unfold reN reV
 rw[if_pos h,if_pos h,h']
 exact⟨rfl,rfl⟩
theorem reN_good {b:List UInt8} (h:oe b=0) (h':rdN (ob b)=true):reN b=0∧reV b=ndN (ob b):=by
 unfold reN reV
 rw[if_pos h,if_pos h,h']
 exact⟨rfl,rfl⟩
theorem mayN_items {n:Nd} (h:mayN n=true):n.2.length≤5:=(mayN_of h).1.2.2.1
def NodR (lo:Nat) (w:World) (u:Value) (n:Nd):Prop:=∃ A c,u=.agg #[.int .i64 n.1,.slice A n.2.length c]∧In64 n.1∧RowOf rIt 5 40 lo w A c n.2
theorem NodR.nod {lo:Nat} {w:World} {u:Value} {n:Nd} (h:NodR lo w u n):Nod (New lo w) w u n:=by
 obtain⟨A,c,rfl,h1,h2⟩:=h
 exact⟨_,rfl,h1,h2.rel stab_it⟩
theorem NodR.zero (lo:Nat) (w:World):NodR lo w (.agg #[.int .i64 0,.slice none 0 0]) zeroN:=⟨none,0,rfl,⟨by decide,by decide⟩,RowOf.nil _ _ _ _ _⟩
theorem NodR.new {lo lo':Nat} {w w':World} {u:Value} {n:Nd} (h:NodR lo w u n) (hl:lo'≤lo) (hb:Below w.heap.size w w'):NodR lo' w' u n:=by
 obtain⟨A,c,rfl,h1,h2⟩:=h
 exact⟨A,c,rfl,h1,(h2.below stab_it hb).low stab_it hl⟩
theorem NodR.grown {lo:Nat} {w w':World} {u:Value} {n:Nd} {row:Option Nat} (h:NodR lo w u n) (hg:w.grownBy w' row) (hr:∀ q,row=some q→q<lo):NodR lo w' u n:=by
 obtain⟨A,c,rfl,h1,h2⟩:=h
 exact⟨A,c,rfl,h1,h2.grown stab_it hg hr⟩
set_option maxRecDepth 100000 in
set_option maxHeartbeats 4000000 in
theorem nodeRead_own (v:Value) (b:List UInt8) (w:World) (h:rBy (Old w) w [v] b) :
  Calls Tryz.prog 32 #[v] w fun e w'=>∃ u,e=.returned (.tuple #[u,.int .i64 (reN b)])∧NodR w.heap.size w' u (reV b)∧Below w.heap.size w w':=by
 obtain⟨A,c,rfl,l1,m1,hy⟩:=rBy_byt (B:=w.heap.size) (fun p hp=>hp) h
 obtain⟨n,hn⟩:∃ n,b.length=n:=⟨_,rfl⟩
 rw[hn] at l1 ⊢
 replace hn:=Lib.hid hn
 obtain⟨w0,hw0,b0,hs0,hB0⟩:=box_pair' w (.int .i64 0) (.slice none 0 0) 45
 have lt0:w.heap.size<w0.heap.size:=by omega
 have HB0:=Lib.hid hB0
 have HY:=Lib.hid ((hy.below hB0).more hB0.size)
 have hzero:Hid (∀ (er:Int) (W:World),reN b=er∧reV b=zeroN→Below w0.heap.size w0 W→∃ W9,(W.setCell ⟨w.heap.size,0,none⟩ (.int .i64 0)).setCell ⟨w.heap.size,1,none⟩ (.slice none 0 0)=W9∧W9.cell? ⟨w.heap.size,0,none⟩=some (.int .i64 0)∧W9.cell? ⟨w.heap.size,1,none⟩=some (.slice none 0 0)∧(∀ o,W.frozen? ⟨w.heap.size,o,none⟩=false)∧W.cell? ⟨w.heap.size,0,none⟩=some (.int .i64 0)∧W.cell? ⟨w.heap.size,1,none⟩=some (.slice none 0 0) ∧
   (∃ u,Ending.returned (.tuple #[.agg #[.int .i64 0,.slice none 0 0],.int .i64 er])=.returned (.tuple #[u,.int .i64 (reN b)])∧NodR w.heap.size W9 u (reV b)∧Below w.heap.size w W9)):=Lib.hid fun er W hre hW=>by
  have bW:=(hW.block w.heap.size lt0).trans b0
  obtain⟨W9,e9,g9,gr9,gs9⟩:=put_two (u:=.int .i64 0) (v:=.slice none 0 0) bW
  obtain⟨k0,k1,kf,_⟩:=two_cells g9
  obtain⟨y0,y1,yf,_⟩:=two_cells bW
  have hBW:=HB0.out.trans (hW.mono HB0.out.size)
  exact⟨W9,e9,k0,k1,yf,y0,y1,_,by rw[hre.1],by rw[hre.2];exact NodR.zero _ _,hBW.grown gr9 hBW.size (fun q e=>by cases e;omega)⟩
 replace b0:=Lib.hid b0
 replace hw0:=Lib.hid hw0
 clear hB0 hs0 h hy
 go_enter Tryz.func32,Tryz.ntmps32
 go_upto_region 1 with fail
 rw[hw0.out]
 clear hw0
 go_wp2_with fail
 with_reducible refine(open_any A n c b hn l1 m1 _ HY.out).mono ?_
 rintro e1 w1 ⟨v1,rfl,ho1,hb1⟩
 have B1:=Lib.hid hb1
 have hBW1:=Lib.hid (show w.heap.size≤w1.heap.size from Nat.le_trans (Nat.le_of_lt lt0) hb1.size)
 obtain⟨er,hoe⟩:∃ er,oe b=er:=⟨_,rfl⟩
 rw[hoe]
 by_cases h0:er=0
 case neg =>
  have t0:(er != 0)=true:=by simpa using h0
  obtain⟨W9,e9,k0,k1,yf,y0,y1,hfin⟩:=hzero.out er w1 (by rw[← hoe];exact reN_open (by rw[hoe];exact h0)) B1.out
  replace hfin:=Lib.hid hfin
  replace h0:=Lib.hid h0
  replace hoe:=Lib.hid hoe
  clear ho1 hb1
  go_wp2_with fail
  exact bodyPost_ret (v:=.tuple #[.agg #[.int .i64 0,.slice none 0 0],.int .i64 er]) (by simp[results,Tryz.results32,go_sem,k0,k1]) rfl hfin.out
 subst h0
 obtain⟨hlen,hfits,hob,hl124⟩:=oe_zeroN hoe
 have HZ:=Lib.hid (fun W h hW=>hzero.out 8 W (reN_bad hoe h) hW)
 have HG:=Lib.hid (fun h=>reN_good hoe h)
 have hr1:=own_by ho1
 obtain⟨bd,hbd⟩:∃ bd,ob b=bd:=⟨_,rfl⟩
 rw[hbd] at hr1 HZ HG hl124
 replace hbd:=Lib.hid hbd
 obtain⟨Q,cq,rfl,n1,n2,hcell⟩:=rBy_open hr1
 rw[hl124] at n1 hcell hr1 ⊢
 obtain⟨ad,rfl,hn0,hc0⟩:=hcell 0 (by omega)
 obtain⟨_,e,hn1',hc1⟩:=hcell 1 (by omega)
 cases e
 obtain⟨_,e,hn2',hc2⟩:=hcell 2 (by omega)
 cases e
 have z0:w1.cell? ad=some (.int .u8 ((bd[0]?.getD 0).toNat:Int)):=by simpa [Addr.add] using hc0
 have z1:w1.cell? ⟨ad.block,ad.off+1,none⟩=some (.int .u8 ((bd[1]?.getD 0).toNat:Int)):=by simpa [Addr.add] using hc1
 have z2:w1.cell? ⟨ad.block,ad.off+2,none⟩=some (.int .u8 ((bd[2]?.getD 0).toNat:Int)):=by simpa [Addr.add] using hc2
 have ltb:ad.block<w1.heap.size:=World.block_lt_of_cell? _ _ z0
 have hrest:=Lib.hid (rBy_rest (stab_by.drop hr1) 3 (by omega))
 have hl:=Lib.hid hl124
 replace hoe:=Lib.hid hoe
 clear hfits hob hlen hc0 hc1 hc2 hn0 hn1' hn2' ho1 hb1 hcell hl124 hzero
 have hrd:Hid (rdN bd=(decide (bd[0]?.getD 0=78)&&((cutTo (bd.drop 3) (manyN bd)).isSome&&(mayN (ndN bd)&&noughtsB (cutR (bd.drop 3) (manyN bd)))))):=Lib.hid rfl
 obtain⟨x0,hx0⟩:∃ x,bd[0]?.getD 0=x:=⟨_,rfl⟩
 rw[hx0] at z0 hrd
 replace hx0:=Lib.hid hx0
 by_cases h78:(x0.toNat:Int)=78
 case neg =>
  have t0:((x0.toNat:Int) != 78)=true:=by simpa using h78
  obtain⟨W9,e9,k0,k1,yf,y0,y1,hfin⟩:=HZ.out w1 (by rw[hrd.out];simp;intro e;exact absurd (by rw[e];rfl) h78) B1.out
  replace hfin:=Lib.hid hfin
  replace h78:=Lib.hid h78
  clear hr1
  go_wp2_with fail
  exact bodyPost_ret (v:=.tuple #[.agg #[.int .i64 0,.slice none 0 0],.int .i64 8]) (by simp[results,Tryz.results32,go_sem,k0,k1]) rfl hfin.out
 have t0:((x0.toNat:Int) != 78)=false:=by simpa using h78
 have h78':=Lib.hid (show x0=78 from UInt8.toNat.inj (by show x0.toNat=78;omega))
 replace h78:=Lib.hid h78
 obtain⟨mn,hmn⟩:∃ m,manyN bd=m:=⟨_,rfl⟩
 have hmlt:=manyN_lt bd
 rw[hmn] at hmlt hrd
 have z2':w1.cell? ⟨ad.block,ad.off+2,none⟩=some (.int .u8 (mn:Int)):=by rw[← hmn];exact z2
 have hmn':=Lib.hid hmn
 clear z2 hr1 hmn
 have had3:ad.add 3=⟨ad.block,ad.off+3,none⟩:=by simp[Addr.add]
 rw[had3] at hrest
 have hres:=Lib.hid (fun W (hW:Below w1.heap.size w1 W)=>nodeCut_own _ (bd.drop 3) mn hmlt W (stab_by.old hrest.out hW))
 go_upto_region 6 with fail
 obtain⟨L,hL⟩:∃ L,cutL (bd.drop 3) mn=L:=⟨_,rfl⟩
 obtain⟨R,hR⟩:∃ R,cutR (bd.drop 3) mn=R:=⟨_,rfl⟩
 obtain⟨F,hF⟩:∃ F,cutF (bd.drop 3) mn=F:=⟨_,rfl⟩
 rw[hL,hR,hF] at hres
 have c3:¬ cq=3:=by omega
 have c4:(3:Int)≤cq:=by omega
 have hwm:IntKind.i64.wrap (mn:Int)=(mn:Int):=IntWalk.i64_in _ (by omega)
 refine wp_region_fx (by kernel_rfl) (fun W=>Below w1.heap.size w1 W) (fun i=>match i with
   | 6=>some (fun v W=>∃ A c u,v=.tuple #[.slice A L.length c,u,.int .i64 F]∧RowOf rIt 5 40 w1.heap.size W A c L∧rBy (Old W) W [u] R)
   | 7=>some (fun v W=>∃ A c u,v=.tuple #[.slice A L.length c,u,.int .i64 F]∧RowOf rIt 5 40 w1.heap.size W A c L∧rBy (Old W) W [u] R)
   | 8=>some (fun v W=>∃ A c,v=.slice A L.length c∧RowOf rIt 5 40 w1.heap.size W A c L)
   | 9=>some (fun v W=>rBy (Old W) W [v] R)
   | _=>none) (fun i=>match i with
   | 10=>some (.int .i64 F)
   | _=>none) (by kernel_rfl) (Below.refl _ _).drew (fun w w' h hb=>h.trans (hb.mono h.size)) ?tst ?_
 case tst =>
  intro j φ x W W' hp hx hb
  match j,hp with
  | 6,hp =>
   cases hp
   obtain⟨A,c,u,e,h1,h2⟩:=hx
   exact⟨A,c,u,e,h1.below stab_it hb,stab_by.old h2 hb⟩
  | 7,hp =>
   cases hp
   obtain⟨A,c,u,e,h1,h2⟩:=hx
   exact⟨A,c,u,e,h1.below stab_it hb,stab_by.old h2 hb⟩
  | 8,hp =>
   cases hp
   obtain⟨A,c,e,h1⟩:=hx
   exact⟨A,c,e,h1.below stab_it hb⟩
  | 9,hp=>cases hp;exact stab_by.old hx hb
 repeat (first
  | (refine wpAs_skip rfl ?_;simp only[Act.put,List.setIfInBounds_toArray,List.set_cons_zero,List.set_cons_succ])
  | (refine wpAs_pure (v := ?_) rfl rfl ?_ ?_;rotate_left;(intro W hC hE;clear hE;(have y2:=(hC.cell (p:=⟨ad.block,ad.off+2,none⟩) ltb).trans z2');clear hC;go_simp;done);simp only[Act.put,List.setIfInBounds_toArray,List.set_cons_zero,List.set_cons_succ])
  | (refine wpAs_pure (v := ?_) rfl rfl ?_ ?_;rotate_left;(intro W hC hE;clear hE;(have y2:=(hC.cell (p:=⟨ad.block,ad.off+2,none⟩) ltb).trans z2');clear hC;go_simp;with_reducible rfl);simp only[Act.put,List.setIfInBounds_toArray,List.set_cons_zero,List.set_cons_succ]))
 refine wpAs_act rfl rfl ?_ ?_
 ·intro W hC hE
  refine does_enter (f:=55) (args:=#[.slice (some ⟨ad.block,ad.off+3,none⟩) 121 (cq-3),.int .i64 mn]) ?_ ?_
  ·go_simp
  ·refine(hres.out W hC).mono ?_
   rintro e W' ⟨A,c,u,rfl,h1,h2,hw⟩
   exact⟨_,rfl,⟨A,c,u,rfl,h1.low stab_it hC.size,h2⟩,hw⟩
 simp only[Act.put,List.setIfInBounds_toArray,List.set_cons_zero,List.set_cons_succ,envAdd]
 intro x30
 refine wpAs_act rfl rfl ?_ ?_
 ·intro W hC hE
  have hx:=hE.1 rfl
  clear hE
  go_simp
  exact⟨hx,Below.refl _ _⟩
 simp only[Act.put,List.setIfInBounds_toArray,List.set_cons_zero,List.set_cons_succ,envAdd]
 intro x23
 refine wpAs_act rfl rfl ?_ ?_
 ·intro W hC hE
  obtain⟨A,c,u,rfl,h1,h2⟩:=hE.1 rfl
  clear hE
  have H1:=Lib.hid h1
  clear h1 h2
  go_simp
  exact⟨⟨_,_,rfl,H1.out⟩,Below.refl _ _⟩
 simp only[Act.put,List.setIfInBounds_toArray,List.set_cons_zero,List.set_cons_succ,envAdd]
 intro x31
 refine wpAs_act rfl rfl ?_ ?_
 ·intro W hC hE
  obtain⟨A,c,u,rfl,h1,h2⟩:=hE.2.1 rfl
  clear hE
  have H2:=Lib.hid h2
  clear h1 h2
  go_simp
  exact⟨H2.out,Below.refl _ _⟩
 simp only[Act.put,List.setIfInBounds_toArray,List.set_cons_zero,List.set_cons_succ,envAdd]
 intro x32
 refine wpAs_fixed rfl rfl rfl ?_ ?_
 ·intro W hC hE
  obtain⟨A,c,u,rfl,h1,h2⟩:=hE.2.2.1 rfl
  clear hE h1 h2
  go_simp
  exact⟨rfl,Below.refl _ _⟩
 simp only[Act.put,List.setIfInBounds_toArray,List.set_cons_zero,List.set_cons_succ]
 repeat (first
  | (refine wpAs_skip rfl ?_;simp only[Act.put,List.setIfInBounds_toArray,List.set_cons_zero,List.set_cons_succ])
  | (refine wpAs_pure (v := ?_) rfl rfl ?_ ?_;rotate_left;(intro W hC hE;clear hE;skip;clear hC;go_simp;done);simp only[Act.put,List.setIfInBounds_toArray,List.set_cons_zero,List.set_cons_succ])
  | (refine wpAs_pure (v := ?_) rfl rfl ?_ ?_;rotate_left;(intro W hC hE;clear hE;skip;clear hC;go_simp;with_reducible rfl);simp only[Act.put,List.setIfInBounds_toArray,List.set_cons_zero,List.set_cons_succ]))
 refine wpAs_end fun wc hC hE => ?_
 have H31:=hE.2.1
 have H32:=hE.1
 clear hE
 have BC:=Lib.hid (B1.out.trans (hC.mono B1.out.size))
 have y1:=(hC.cell (p:=⟨ad.block,ad.off+1,none⟩) ltb).trans z1
 clear hC
 obtain⟨X,cx,rfl,R31⟩:=H31
 have H31:=R31.rel stab_it
 obtain⟨n3,n4,_,_⟩:=R31.form
 replace R31:=Lib.hid R31
 obtain⟨Y,cy,rfl,n5,n6,hy32⟩:=rBy_byt (B:=wc.heap.size) (fun p hp=>hp) H32
 cases hct:cutTo (bd.drop 3) mn with
 | none =>
  have hF8:F=8:=by rw[← hF];simp[cutF,hct]
  subst hF8
  obtain⟨W9,e9,k0,k1,yf,u0,u1,hfin⟩:=HZ.out wc (by rw[hrd.out,hct];simp) BC.out
  replace hfin:=Lib.hid hfin
  replace hct:=Lib.hid hct
  replace hF:=Lib.hid hF
  clear H31 H32 hy32
  go_wp2_with fail
  exact bodyPost_ret (v:=.tuple #[.agg #[.int .i64 0,.slice none 0 0],.int .i64 8]) (by simp[results,Tryz.results32,go_sem,k0,k1]) rfl hfin.out
 | some p =>
  obtain⟨l',r'⟩:=p
  have hF0:F=0:=by rw[← hF];simp[cutF,hct]
  subst hF0
  have hsome:=Lib.hid (show (cutTo (bd.drop 3) mn).isSome=true by rw[hct];rfl)
  replace hct:=Lib.hid hct
  replace hF:=Lib.hid hF
  replace hL:=Lib.hid hL
  replace hR:=Lib.hid hR
  obtain⟨lv,hlv⟩:∃ lv,lvlN bd=lv:=⟨_,rfl⟩
  have hlin:=Lib.hid (lvlN_in bd)
  have hnd:=Lib.hid (show ndN bd=(lv,L) by rw[ndN,hlv,hmn'.out,hL.out])
  rw[hlv] at hlin
  have y1':wc.cell? ⟨ad.block,ad.off+1,none⟩=some (.int .u8 lv):=by rw[← hlv];exact y1
  have hlw:IntKind.i64.wrap lv=lv:=IntWalk.i64_in _ (by have:=hlin.out;exact⟨this.1,this.2⟩)
  replace hlv:=Lib.hid hlv
  clear y1
  obtain⟨w2,hw2,b2,hs2,hB2⟩:=box_pair' wc (.int .i64 lv) (.slice X L.length cx) 45
  obtain⟨f1,f2,_,lt2⟩:=two_cells b2
  have N2:Nod (New w1.heap.size w2) w2 (.agg #[.int .i64 lv,.slice X L.length cx]) (lv,L):=⟨_,rfl,hlin.out,stab_its.new H31 (Nat.le_refl _) hB2⟩
  have HN2:=Lib.hid N2
  have HR2:=Lib.hid (show NodR w1.heap.size w2 (.agg #[.int .i64 lv,.slice X L.length cx]) (lv,L) from ⟨X,cx,rfl,hlin.out,R31.out.below stab_it hB2⟩)
  have B2:=Lib.hid (BC.out.trans (hB2.mono BC.out.size))
  have HY2:=Lib.hid ((hy32.below hB2).more hB2.size)
  replace hs2:=Lib.hid hs2
  replace b2:=Lib.hid b2
  clear H31 H32 hy32 N2 hB2
  go_upto_region 10 with fail
  clear hw2 y1'
  go_wp2_with fail
  with_reducible refine(checkN_any _ (lv,L) _ HN2.out.drop).mono ?_
  rintro e3 w3 ⟨rfl,hb3⟩
  have B3:=Lib.hid (B2.out.trans (hb3.mono B2.out.size))
  have HN3:=Lib.hid (HR2.out.new (Nat.le_refl _) hb3)
  have g1:=(hb3.cell (p:=⟨wc.heap.size,0,none⟩) lt2).trans f1
  have g2:=(hb3.cell (p:=⟨wc.heap.size,1,none⟩) lt2).trans f2
  have HY3:=Lib.hid ((HY2.out.below hb3).more hb3.size)
  have lt3:wc.heap.size<w3.heap.size:=Nat.lt_of_lt_of_le lt2 hb3.size
  clear hb3 f1 f2
  rcases bool_two (mayN (lv,L)) with hm | hm
  ·have hc:=Lib.hid (chkN_bad hm)
   obtain⟨W9,e9,k0,k1,yf,u0,u1,hfin⟩:=HZ.out w3 (by rw[hrd.out,hnd.out,hm];simp) B3.out
   replace hfin:=Lib.hid hfin
   replace hm:=Lib.hid hm
   rw[hc.out]
   go_wp2_with fail
   exact bodyPost_ret (v:=.tuple #[.agg #[.int .i64 0,.slice none 0 0],.int .i64 8]) (by simp[results,Tryz.results32,go_sem,k0,k1]) rfl hfin.out
  have hc:=Lib.hid (chkN_ok hm)
  rw[hc.out]
  obtain⟨rl,hrl⟩:∃ n,R.length=n:=⟨_,rfl⟩
  rw[hrl] at n5 ⊢
  replace hrl:=Lib.hid hrl
  go_wp2_with fail
  with_reducible refine(noughts_any Y rl cy R hrl n5 n6 _ HY3.out).mono ?_
  rintro e4 w4 ⟨rfl,rfl⟩
  rcases bool_two (noughtsB R) with hz | hz
  ·obtain⟨W9,e9,k0,k1,yf,u0,u1,hfin⟩:=HZ.out w3 (by rw[hrd.out,hnd.out,hR.out,hz];simp) B3.out
   replace hfin:=Lib.hid hfin
   rw[hz]
   replace hz:=Lib.hid hz
   replace hm:=Lib.hid hm
   go_wp2_with fail
   exact bodyPost_ret (v:=.tuple #[.agg #[.int .i64 0,.slice none 0 0],.int .i64 8]) (by simp[results,Tryz.results32,go_sem,k0,k1]) rfl hfin.out
  ·have hgood:=Lib.hid (HG.out (by rw[hrd.out,hnd.out,hR.out,hz,hm,hsome.out,h78'.out];rfl))
   have bW:=(B3.out.block w.heap.size lt0).trans b0.out
   obtain⟨W9,e9,g9,gr9,gs9⟩:=put_two (u:=.int .i64 lv) (v:=.slice X L.length cx) bW
   obtain⟨k0,k1,kf,_⟩:=two_cells g9
   obtain⟨u0,u1,yf,_⟩:=two_cells bW
   have hBW:=HB0.out.trans (B3.out.mono HB0.out.size)
   have hfin:Hid (NodR w.heap.size W9 (.agg #[.int .i64 lv,.slice X L.length cx]) (reV b)∧Below w.heap.size w W9):=Lib.hid ⟨by
    rw[hgood.out.2,hnd.out]
    exact(HN3.out.grown gr9 (fun q e=>by cases e;exact Nat.lt_of_lt_of_le lt0 B1.out.size)).new hBW1.out (Below.refl _ _),hBW.grown gr9 hBW.size (fun q e=>by cases e;omega)⟩
   rw[hz]
   replace hz:=Lib.hid hz
   replace hm:=Lib.hid hm
   replace bW:=Lib.hid bW
   replace g9:=Lib.hid g9
   clear gr9
   go_wp2_with fail
   exact bodyPost_ret (v:=.tuple #[.agg #[.int .i64 lv,.slice X L.length cx],.int .i64 0]) (by simp[results,Tryz.results32,go_sem,k0,k1]) rfl ⟨_,by rw[hgood.out.1],hfin.out.1,hfin.out.2⟩
end Go.Proofs.YtogieepfimpdmaaGreat
/-
 Package node: Place. Conditions: those that each lemma states.
-/
namespace Go.Proofs.YtogieepfimpdmaaGreat
open Go.RowKit
def cntK (l:List It) (k:Ky):Nat:=(l.filter fun x=>lessK x.1 k).length
theorem cntK_le (l:List It) (k:Ky):cntK l k≤l.length:=List.length_filter_le _ _
theorem cntK_take (l:List It) (k:Ky) (i:Nat):cntK (l.take i) k≤i:=Nat.le_trans (cntK_le _ _) (List.length_take_le _ _)
theorem cntK_yes {l:List It} {k:Ky} {i:Nat} {x:It} (hx:l[i]? = some x) (h:lessK x.1 k=true):cntK (l.take (i+1)) k=cntK (l.take i) k+1:=by
 unfold cntK
 rw[List.take_add_one,hx,Option.toList_some,List.filter_append]
 simp[h]
theorem cntK_no {l:List It} {k:Ky} {i:Nat} {x:It} (hx:l[i]? = some x) (h:lessK x.1 k=false):cntK (l.take (i+1)) k=cntK (l.take i) k:=by
 unfold cntK
 rw[List.take_add_one,hx,Option.toList_some,List.filter_append]
 simp[h]
def placeN (n:Nd) (k:Ky):Nat:=cntK n.2 k
def thereN (n:Nd) (k:Ky):Bool:=match n.2[placeN n k]? with
 | none=>false
 | some x=>decide (x.1=k)
theorem thereN_out {n:Nd} {k:Ky} (h:n.2.length≤placeN n k):thereN n k=false:=by
 unfold thereN
 rw[List.getElem?_eq_none h]
theorem thereN_at {n:Nd} {k:Ky} {x:It} (h:n.2[placeN n k]? = some x):thereN n k=decide (x.1=k):=by
 unfold thereN
 rw[h]
set_option maxRecDepth 100000 in
theorem key_guard:Tryz.prog.eqGuardType Tryz.prog.depth 37=false:=by kernel_rfl
set_option maxRecDepth 100000 in
theorem key_eq (a b:Ky) (w:World):(Op.equalIn 10000 37 (kyV a) (kyV b)).run Tryz.prog w=.ok (decide (a=b)) w:=by
 have hS:Tryz.prog.underlying 37=some (.struct (Tryz.prog.fieldsOf 37)):=by kernel_rfl
 have hp:Tryz.prog.stoodInHeld 37=false:=by kernel_rfl
 have u3:=Tryz.underlying5
 have u4:=Tryz.underlying32
 have a3:=Tryz.isAgg5
 have z3:=Tryz.sizeOf5
 have a4:=Tryz.isAgg32
 have z4:=Tryz.sizeOf32
 obtain⟨a1,a2,a3⟩:=a
 obtain⟨b1,b2,b3⟩:=b
 have h:a1=b1↔(a1.toNat:Int)=b1.toNat:=⟨fun h=>by rw[h],fun h=>UInt8.toNat.inj (by omega)⟩
 simp only[Prod.mk.injEq,h]
 unfold kyV
 rw[show (10000:Nat)=9999+1 from rfl,run_equalIn_agg w 9999 37 _ _ hS hp]
 simp only[Program.fieldsOf,Tryz.underlying37]
 go_simp
 by_cases h1:(a1.toNat:Int)=b1.toNat <;> by_cases h2:a2=b2 <;> by_cases h3:a3=b3 <;> simp[h1,h2,h3]
set_option maxRecDepth 100000 in
set_option maxHeartbeats 4000000 in
theorem nodePlace_any (v:Value) (n:Nd) (key:Ky) (w:World) (h:Nod (Old w) w v n) :
  Calls Tryz.prog 29 #[v,kyV key] w fun e w'=>e=.returned (.tuple #[.int .i64 (placeN n key:Nat),.bool (thereN n key)])∧Below w.heap.size w w':=by
 obtain⟨A,c,rfl,_,l1,m1,hA⟩:=h.open
 have HA:=Lib.hid hA
 clear h hA
 have hout:=Lib.hid (fun hh=>thereN_out (n:=n) (k:=key) hh)
 obtain⟨m,hm⟩:∃ m,n.2.length=m:=⟨_,rfl⟩
 obtain⟨l,hl⟩:∃ l,n.1=l:=⟨_,rfl⟩
 rw[hm] at l1 HA hout ⊢
 rw[hl]
 clear hl
 replace hm:=Lib.hid hm
 obtain⟨w1,hw1,b1,hs1,hB1⟩:=box_pair' w (.int .i64 l) (.slice A m c) 45
 obtain⟨w0,hw0,g0,g1,g2,hs0,hB2,_⟩:=box_three w1 (.int .u8 (key.1.toNat:Int)) (.int .u32 key.2.1) (.int .u32 key.2.2) 37
 obtain⟨_,f2',_,lt1⟩:=two_cells b1
 have f2:=(hB2.cell (p:=⟨w.heap.size,1,none⟩) lt1).trans f2'
 have hB0:=Lib.hid (hB1.trans (hB2.mono hB1.size))
 have lt0:w.heap.size<w0.heap.size:=Nat.lt_of_lt_of_le lt1 hB2.size
 have ltk:w1.heap.size<w0.heap.size:=by omega
 have hB:=Lib.hid (fun wr (hb:Below w0.heap.size w0 wr)=>hB0.out.trans (hb.mono hB0.out.size))
 clear hB1 hB2 b1 f2'
 replace hs1:=Lib.hid hs1
 replace hs0:=Lib.hid hs0
 unfold kyV
 go_enter Tryz.func29,Tryz.ntmps29
 go_upto_region 1 with fail
 clear hw0 hw1
 go_wp2_with fail
 go_loopw [4,11] (fun a i wr=>∃ k:Nat,k≤m∧i=.int .i64 k∧a=.int .i64 (cntK (n.2.take k) key:Nat)∧Below w0.heap.size w0 wr) (fun _ i _=>m-(intOf i).toNat)
 case atStart=>exact⟨0,by omega,rfl,rfl,Below.refl _ _⟩
 case round =>
  obtain⟨k,hk,rfl,rfl,hb⟩:=hrel
  have hcle:=cntK_take n.2 key k
  replace hb:=Lib.hid hb
  have p2:=(hb.out.cell (p:=⟨w.heap.size,1,none⟩) lt0).trans f2
  have y0:=(hb.out.cell (p:=⟨w1.heap.size,0,none⟩) ltk).trans g0
  have y1:=(hb.out.cell (p:=⟨w1.heap.size,1,none⟩) ltk).trans g1
  have y2:=(hb.out.cell (p:=⟨w1.heap.size,2,none⟩) ltk).trans g2
  have BF:=Lib.hid (hB.out _ hb.out)
  by_cases hlt:k<m
  case neg =>
   have hkm:Hid (n.2.take k=n.2):=Lib.hid (List.take_of_length_le (by rw[hm.out];omega))
   have hat:=Lib.hid (show cntK (n.2.take k) key=placeN n key by rw[hkm.out];rfl)
   rw[hat.out] at hcle ⊢
   obtain⟨p,hp⟩:∃ p,placeN n key=p:=⟨_,rfl⟩
   rw[hp] at hcle hout ⊢
   by_cases hpm:p<m
   ·obtain⟨x,hx⟩:∃ x,n.2[p]? = some x:=⟨_,List.getElem?_eq_getElem (by rw[hm.out];exact hpm)⟩
    obtain⟨ad,E,ce,rfl,_,_,_,FX⟩:=its_old HA.out hx
    obtain⟨⟨z0,z1,z2,z3,z4⟩,_⟩:=FX wr BF.out
    have hth:=Lib.hid (show decide (x.1=key)=thereN n key from (thereN_at (by rw[hp];exact hx)).symm)
    have he:=key_eq x.1 key
    have hg:=key_guard
    unfold kyV at he
    replace hp:=Lib.hid hp
    replace hx:=Lib.hid hx
    have i1:(p:Int)<(m:Int):=by omega
    have i0:(0:Int)≤(p:Int):=by omega
    clear FX
    go_wp2_with fail
    go_quiet (fail)
    go_wp2_with fail
    go_ret2
    exact⟨by rw[hp.out,hth.out];rfl,below_drewN BF.out _⟩
   ·have hth:=Lib.hid (hout.out (by omega))
    have i1:¬ (p:Int)<(m:Int):=by omega
    replace hp:=Lib.hid hp
    go_wp2_with fail
    go_quiet (fail)
    go_wp2_with fail
    go_ret2
    exact⟨by rw[hp.out,hth.out];rfl,below_drewN BF.out _⟩
  obtain⟨x,hx⟩:∃ x,n.2[k]? = some x:=⟨_,List.getElem?_eq_getElem (by rw[hm.out];exact hlt)⟩
  obtain⟨ad,E,ce,rfl,q1,q2,hinx,FX⟩:=its_old HA.out hx
  obtain⟨⟨z0,z1,z2,z3,z4⟩,_⟩:=FX wr BF.out
  obtain⟨w2,hw2,r0,r1,r2,_,_,hs2,hB2,_⟩:=box_five wr (.int .u8 (x.1.1.toNat:Int)) (.int .u32 x.1.2.1) (.int .u32 x.1.2.2) (.int .i64 x.2.1) (.slice E x.2.2.length ce) 40
  have B2:=Lib.hid (hb.out.trans (hB2.mono hb.out.size))
  have v0:=(B2.out.cell (p:=⟨w1.heap.size,0,none⟩) ltk).trans g0
  have v1:=(B2.out.cell (p:=⟨w1.heap.size,1,none⟩) ltk).trans g1
  have v2:=(B2.out.cell (p:=⟨w1.heap.size,2,none⟩) ltk).trans g2
  have hyes:=Lib.hid (fun hh=>cntK_yes (k:=key) hx hh)
  have hno:=Lib.hid (fun hh=>cntK_no (k:=key) hx hh)
  replace hx:=Lib.hid hx
  replace hs2:=Lib.hid hs2
  clear FX hB2 hinx
  go_upto_region 4 with fail
  clear hw2 z0 z1 z2 z3 z4 y0 y1 y2
  go_wp2_with fail
  with_reducible refine(less_any x.1 key _).mono ?_
  rintro e3 w3 ⟨rfl,hb3⟩
  have B3:=Lib.hid (B2.out.trans (hb3.mono B2.out.size))
  clear hb3
  obtain⟨s,hs⟩:∃ s,lessK x.1 key=s:=⟨_,rfl⟩
  rw[hs] at hyes hno ⊢
  replace hs:=Lib.hid hs
  obtain⟨q,hq⟩:∃ q,cntK (n.2.take k) key=q:=⟨_,rfl⟩
  rw[hq] at hyes hno hcle ⊢
  replace hq:=Lib.hid hq
  cases s with
  | true =>
   have hn:=Lib.hid (hyes.out rfl)
   go_wp2_with fail
   go_roundw
   case rel=>exact⟨k+1,by omega,by go_num,by rw[hn.out];go_num,B3.out⟩
   case measure=>simp[intOf];omega
  | false =>
   have hn:=Lib.hid (hno.out rfl)
   go_wp2_with fail
   go_roundw
   case rel=>exact⟨k+1,by omega,by go_num,by rw[hn.out],B3.out⟩
   case measure=>simp[intOf];omega
end Go.Proofs.YtogieepfimpdmaaGreat
/-
 What nodes and their blocks tell of one another,plain. Layer 6's law helper alive. Conditions: those that each lemma states.
-/
namespace Go.Proofs.YtogieepfimpdmaaGreat
open Go.RowKit
structure InN (n:Nd):Prop where
 lv:In64 n.1
 it:∀ x∈n.2,InI x
theorem cutTo_its (l:List It) (xs:List UInt8) (h:∀ x∈l,mayI x=true∧InI x):∀ k,k≤l.length→cutTo (itsB l++xs) k=some (l.take k,itsB (l.drop k)++xs)
 | 0,_=>by simp[cutTo]
 | k+1,hk=>by
  have hx:l[k]? = some l[k]:=List.getElem?_eq_getElem hk
  obtain⟨h1,h2⟩:=h l[k] (List.getElem_mem hk)
  have hd:itsB (l.drop k)++xs=itB l[k]++(itsB (l.drop (k+1))++xs):=by
   rw[List.drop_eq_getElem_cons hk,show itsB (l[k]::l.drop (k+1))=itB l[k]++itsB (l.drop (k+1)) from rfl,List.append_assoc]
  have ih:=cutTo_its l xs h k (by omega)
  rw[hd] at ih
  obtain⟨q0,q1,q2,_⟩:=itB_read l[k] (itsB (l.drop (k+1))++xs) h2 h1
  rw[cutTo_yes ih q0,q1,q2,List.take_add_one,hx]
  simp
theorem zeros_noughts (k:Nat):noughtsB (zeros k)=true:=by simp[noughtsB,zeros]
theorem noughts_zeros {b:List UInt8} (h:noughtsB b=true):b=zeros b.length:=by
 simp only[noughtsB,List.all_eq_true,beq_iff_eq] at h
 exact List.eq_replicate_iff.2 ⟨rfl,h⟩
theorem told_parts (n:Nd):toldN n=[78,UInt8.ofNat n.1.toNat,UInt8.ofNat n.2.length]++itsB n.2:=rfl
theorem read_blkN {n:Nd} (h:mayN n=true) (hi:InN n):reN (blkN n)=0∧reV (blkN n)=n:=by
 have hl:=toldN_len h
 obtain⟨⟨s1,s2,s3,_⟩,_⟩:=mayN_of h
 have hob:ob (blkN n)=padN (toldN n):=by
  unfold ob
  rw[if_pos ⟨blkN_length h,fits_seal _⟩]
  exact seal_drop _
 have hoe:oe (blkN n)=0:=by
  unfold oe
  rw[if_pos (blkN_length h),if_pos (show fits (blkN n) from fits_seal _)]
 obtain⟨z,hz⟩:∃ z,124-(toldN n).length=z:=⟨_,rfl⟩
 have hp:padN (toldN n)=78::UInt8.ofNat n.1.toNat::UInt8.ofNat n.2.length::(itsB n.2++zeros z):=by
  rw[padN,hz,told_parts]
  simp
 have h0:(ob (blkN n))[0]?.getD 0=78:=by rw[hob,hp];rfl
 have h1:lvlN (ob (blkN n))=n.1:=by
  rw[hob,hp]
  show ((UInt8.ofNat n.1.toNat).toNat:Int)=n.1
  rw[UInt8.toNat_ofNat']
  omega
 have h2:manyN (ob (blkN n))=n.2.length:=by
  rw[hob,hp]
  show (UInt8.ofNat n.2.length).toNat=n.2.length
  rw[UInt8.toNat_ofNat']
  omega
 have h3:(ob (blkN n)).drop 3=itsB n.2++zeros z:=by rw[hob,hp];rfl
 have hc:cutTo ((ob (blkN n)).drop 3) (manyN (ob (blkN n)))=some (n.2,zeros z):=by
  rw[h2,h3,cutTo_its n.2 (zeros z) (fun x hx=>⟨mayN_all h x hx,hi.it x hx⟩) n.2.length (Nat.le_refl _)]
  simp[itsB]
 have hnd:ndN (ob (blkN n))=n:=by
  unfold ndN cutL
  rw[hc,h1]
  rfl
 have hr:rdN (ob (blkN n))=true:=by
  unfold rdN cutR
  rw[h0,hc,hnd,h]
  simp[zeros_noughts]
 obtain⟨e1,e2⟩:=reN_good hoe hr
 exact⟨e1,by rw[e2,hnd]⟩
theorem blkN_read {b:List UInt8} (h:reN b=0):mayN (reV b)=true∧blkN (reV b)=b∧InN (reV b):=by
 have hoe:oe b=0:=by
  unfold reN at h
  by_cases e:oe b=0
  ·exact e
  ·rw[if_neg e] at h;exact absurd h e
 have hrd:rdN (ob b)=true:=by
  unfold reN at h
  rw[if_pos hoe] at h
  cases e:rdN (ob b) with
  | true=>rfl
  | false=>rw[e] at h;cases h
 obtain⟨e1,e2⟩:=reN_good hoe hrd
 obtain⟨hlen,hfits,hob,h124⟩:=oe_zeroN hoe
 rw[e2]
 obtain⟨bd,hbd⟩:∃ bd,ob b=bd:=⟨_,rfl⟩
 rw[hbd] at hrd h124 ⊢
 unfold rdN at hrd
 simp only[Bool.and_eq_true,decide_eq_true_eq] at hrd
 obtain⟨h78,hs,hm,hn⟩:=hrd
 cases hc:cutTo (bd.drop 3) (manyN bd) with
 | none=>rw[hc] at hs;cases hs
 | some p =>
  obtain⟨l,r⟩:=p
  have hL:cutL (bd.drop 3) (manyN bd)=l:=by simp[cutL,hc]
  have hR:cutR (bd.drop 3) (manyN bd)=r:=by simp[cutR,hc]
  obtain⟨c1,c2,c3⟩:=cutTo_bytes hc
  rw[hR] at hn
  have hnd:ndN bd=(lvlN bd,l):=by rw[ndN,hL]
  have hin:InN (ndN bd):=by
   rw[hnd]
   exact⟨lvlN_in bd,fun x hx=>(c3 x hx).2⟩
  refine⟨hm,?_,hin⟩
  have hsplit:bd=[78,bd[1]?.getD 0,bd[2]?.getD 0]++bd.drop 3:=by
   match bd,h124,h78 with
   | x::y::z::q,_,h78 =>
    simp at h78
    simp[h78]
  have hT:toldN (ndN bd)=[78,bd[1]?.getD 0,bd[2]?.getD 0]++itsB l:=by
   rw[hnd,told_parts,c2]
   have e1:UInt8.ofNat (lvlN bd).toNat=bd[1]?.getD 0:=by simp[lvlN]
   have e2:UInt8.ofNat (manyN bd)=bd[2]?.getD 0:=by simp[manyN]
   show [78,UInt8.ofNat (lvlN bd).toNat,UInt8.ofNat (manyN bd)]++itsB l=_
   rw[e1,e2]
  have hbody:bd=toldN (ndN bd)++r:=by
   rw[hT,List.append_assoc,← c1]
   exact hsplit
  have hpad:padN (toldN (ndN bd))=bd:=by
   have hl2:(toldN (ndN bd)).length+r.length=124:=by
    have:=congrArg List.length hbody
    rw[List.length_append,h124] at this
    omega
   rw[padN,show 124-(toldN (ndN bd)).length=r.length by omega,← noughts_zeros hn]
   exact hbody.symm
  show sealN (toldN (ndN bd))=b
  have hs:sealN (toldN (ndN bd))=sealN bd:=by
   unfold sealN
   rw[hpad,padN_full h124]
  rw[hs,← hbd,hob]
  exact seal_back hlen hfits
end Go.Proofs.YtogieepfimpdmaaGreat
/-
 Package node: Twin. Conditions: those that each lemma states.
-/
namespace Go.Proofs.YtogieepfimpdmaaGreat
open Go.RowKit
theorem iv_one {ok:Addr→Prop} {w:World} {d:Value} {xs:List UInt8} (h:rBy ok w [d] xs):d.oneCell'=true:=by
 obtain⟨_,_,rfl,_⟩:=rBy_open h
 rfl
end Go.Proofs.YtogieepfimpdmaaGreat
/-
 'copy' and 'append' at rows of items whose block is known whole. Conditions: those that each lemma states.
-/
namespace Go.Proofs.YtogieepfimpdmaaGreat
open Go.RowKit
theorem run_copy5 {P:Program} {w:World} (dT sT ty elem:TypeId) (g o dLen dCap:Nat) (a:Addr) (sLen sCap:Nat) (C:List Value) (t:TypeId) (cs:List Value) (k:Nat)
  (hu:P.underlying dT=some (.slice elem)) (hs:(P.info? elem).map (·.size)=some 5)
  (hg:w.heap[g]? = some (.cells C.toArray t (0,0))) (hk:Nat.min sLen dLen=k) (hn:cs.length=k*5)
  (hsrc:∀ j v,cs[j]? = some v→w.cell? (a.add j)=some v) (hfit:o+cs.length≤C.length) (h1:∀ v∈cs,v.oneCell'=true) :
  (Builtin.copy_ #[dT,sT] ty #[.slice (some ⟨g,o,none⟩) dLen dCap,.slice (some a) sLen sCap]).run P w=.ok (goInt k) (w.setRow g (splice C o cs).toArray):=by
 have hl:=run_loadCells_list (P:=P) w a cs hsrc
 have hst:=run_storeCells_at P g o t cs 0 C.toArray w hg (by simpa using hfit) h1
 have hf:(Builtin.firstCells 5 k (.slice (some a) sLen sCap)).run P w=.ok cs.toArray w:=by
  have:=run_firstCells_some (P:=P) w 5 k a sLen sCap cs (by omega) hsrc
  exact this
 cases hq:P.info? elem with
 | none=>simp[hq] at hs
 | some i =>
  have hi:i.size=5:=by simpa [hq] using hs
  simp only[Nat.add_zero] at hst
  simp[Builtin.copy_,run_underlying hu,Builtin.lenOf,sizeOf,typeInfo,hq,hi,hk,hf,hst,splice]
theorem setRow_grown {w:World} {g:Nat} (cs:Array Value):w.grownBy (w.setRow g cs) (some g) :=
 ⟨rfl,rfl,rfl,by simp[World.setRow],fun k _ hne=>setRow_other w g k cs (fun e=>hne (by rw[e]))⟩
theorem grown_dN (w:World) (n:Nat) (row:Option Nat):w.grownBy (w.drewN n) row:=⟨rfl,rfl,rfl,Nat.le_refl _,fun _ _ _=>rfl⟩
theorem grown_undN {w w2:World} {n:Nat} {r:Option Nat} (h:(w.drewN n).grownBy w2 r):w.grownBy w2 r:=⟨h.os,h.tape,h.output,h.size,h.block⟩
theorem grown_drew {w w2:World} {r:Option Nat} (h:w.drew.grownBy w2 r):w.grownBy w2 r:=⟨h.os,h.tape,h.output,h.size,h.block⟩
theorem wpList_copy5 {P:Program} {w:World} {ops:Array Oper} {rest:List Oper} {o:Oper} {a:Act} {Q:Exit→Act→World→Prop} (hgd:o.guard=none) (d s:Operand) (dT sT:TypeId)
  (ho:o.op=.call { callee:=.builtin .copy,args:=#[d,s],argTypes:=#[dT,sT] }) (elem:TypeId) (hu:P.underlying dT=some (.slice elem)) (hsz:(P.info? elem).map (·.size)=some 5)
  (dp sp:Option Addr) (dLen dCap sLen sCap:Nat) (hd:a.eval d=.slice dp dLen dCap) (hs:a.eval s=.slice sp sLen sCap)
  (g off:Nat) (C:List Value) (t:TypeId) (hg:w.heap[g]? = some (.cells C.toArray t (0,0))) (cs:List Value) (k:Nat) (hk:Nat.min sLen dLen=k) (hn:cs.length=k*5)
  (hdp:dp=some ⟨g,off,none⟩) (ad:Addr) (hsp:sp=some ad) (hsrc:∀ j v,cs[j]? = some v→w.cell? (ad.add j)=some v)
  (hfit:off+cs.length≤C.length) (h1:∀ v∈cs,v.oneCell'=true)
  (h:∀ w',Hid (w'.heap[g]? = some (.cells (splice C off cs).toArray t (0,0)))→Hid (w.grownBy w' (some g))→wpList P ops Q rest (a.put o.dst (goInt k)) w') :
  wpList P ops Q (o::rest) a w:=by
 subst hdp
 subst hsp
 refine wpList_plain hgd fun K hK => ?_
 have hrun:=run_copy5 (P:=P) dT sT o.type elem g off dLen dCap ad sLen sCap C t cs k hu hsz hg hk hn hsrc hfit h1
 unfold Oper.wp
 simp[execOp,ho,resolve,invoke,builtin,hd,hs,hrun,Result.andThen]
 exact hK _ _ (h _ (show _=_ by simpa using setRow_heap w g _ _ t _ hg) (setRow_grown _))
theorem wpList_clear0 {P:Program} {w:World} {ops:Array Oper} {rest:List Oper} {o:Oper} {a:Act} {Q:Exit→Act→World→Prop} (hgd:o.guard=none) (x:Operand) (t:TypeId)
  (ho:o.op=.call { callee:=.builtin .clear,args:=#[x],argTypes:=#[t] }) (elem:TypeId) (hu:P.underlying t=some (.slice elem)) (A:Option Addr) (c:Nat) (hx:a.eval x=.slice A 0 c)
  (h:wpList P ops Q rest (a.put o.dst (.tuple #[])) w):wpList P ops Q (o::rest) a w:=by
 refine wpList_plain hgd fun K hK => ?_
 have hrun:(Builtin.clear_ #[t] o.type #[.slice A 0 c]).run P w=.ok (.tuple #[]) w:=by
  cases A <;> simp[Builtin.clear_,run_underlying hu]
 unfold Oper.wp
 simp[execOp,ho,resolve,invoke,builtin,hx,hrun,Result.andThen]
 exact hK _ _ h
theorem splice_ahead {C Y:List Value} {a:Nat} (h:a≤C.length):(splice C a Y).take (a+Y.length)=C.take a++Y:=by
 unfold splice
 rw[← List.append_assoc,List.take_append_of_le_length (by simp;omega)]
 exact List.take_of_length_le (by simp;omega)
theorem splice_past {C Y:List Value} {a k:Nat} (h:a+Y.length≤C.length) (hk:a+Y.length≤k):(splice C a Y)[k]? = C[k]? := by
 unfold splice
 rw[List.getElem?_append_right (by rw[List.length_take];omega),List.length_take,Nat.min_eq_left (by omega),List.getElem?_append_right (by omega),List.getElem?_drop]
 congr 1
 omega
theorem cell_block5 {w:World} {b k:Nat} {C:List Value} {t:TypeId} (h:w.heap[b]? = some (.cells C.toArray t (0,0))):w.cell? ⟨b,k,none⟩=C[k]? := by
 rw[cell_of_row w b k _ _ _ h]
 simp
theorem splice_two {C Y X:List Value} {a b:Nat} (hb:b=a+Y.length) (h:b+X.length≤C.length):(splice (splice C a Y) b X).take (b+X.length)=C.take a++(Y++X):=by
 subst hb
 have hl:(splice C a Y).length=C.length:=length_splice C a Y (by omega)
 rw[splice_ahead (by rw[hl];omega),splice_ahead (by omega),List.append_assoc]
theorem splice_back {C Y X:List Value} {a b:Nat} (hb:b=a+Y.length) (h:b+X.length≤C.length):(splice (splice C b X) a Y).take (b+X.length)=C.take a++(Y++X):=by
 subst hb
 have hl:(splice C (a+Y.length) X).length=C.length:=length_splice C _ X (by omega)
 have e1:(splice C (a+Y.length) X).take a=C.take a:=by
  unfold splice
  rw[List.take_append_of_le_length (by simp;omega),List.take_take,Nat.min_eq_left (by omega)]
 have e2:((splice C (a+Y.length) X).drop (a+Y.length)).take X.length=X:=by
  unfold splice
  rw[List.drop_append,List.drop_of_length_le (by rw[List.length_take];exact Nat.min_le_left _ _),List.length_take,Nat.min_eq_left (by omega),Nat.sub_self,List.drop_zero,List.nil_append,List.take_append_of_le_length (by simp),List.take_of_length_le (by simp)]
 generalize splice C (a+Y.length) X=S at *
 unfold splice
 rw[e1,← List.append_assoc,List.take_append,List.take_of_length_le (by simp;omega),List.append_assoc]
 congr 2
 rw[show a+Y.length+X.length-(C.take a++Y).length=X.length by simp;omega]
 exact e2
theorem cells5_app:∀ (a b:List Iv),cells5 (a++b)=cells5 a++cells5 b
 | [],_=>rfl
 | x::r,b=>by
  show cell5 x++cells5 (r++b)=(cell5 x++cells5 r)++cells5 b
  rw[cells5_app r b,List.append_assoc]
theorem cells5_cons (x:Iv) (r:List Iv):cells5 (x::r)=cell5 x++cells5 r:=rfl
theorem cells5_take:∀ (ps:List Iv) (k:Nat),cells5 (ps.take k)=(cells5 ps).take (k*5)
 | [],k=>by
  rw[List.take_nil]
  exact List.take_nil.symm
 | x::r,0=>by
  rw[Nat.zero_mul,List.take_zero,List.take_zero]
  rfl
 | x::r,k+1=>by
  rw[List.take_succ_cons,cells5_cons,cells5_cons,cells5_take r k,List.take_append,show (cell5 x).length=5 from rfl,show (k+1)*5-5=k*5 by omega,List.take_of_length_le (show (cell5 x).length≤(k+1)*5 by show 5≤_;omega)]
theorem cells5_drop:∀ (ps:List Iv) (k:Nat),cells5 (ps.drop k)=(cells5 ps).drop (k*5)
 | [],k=>by
  rw[List.drop_nil]
  exact List.drop_nil.symm
 | x::r,0=>by
  rw[Nat.zero_mul,List.drop_zero,List.drop_zero]
 | x::r,k+1=>by
  rw[List.drop_succ_cons,cells5_cons,cells5_drop r k,List.drop_append,show (cell5 x).length=5 from rfl,show (k+1)*5-5=k*5 by omega,List.drop_of_length_le (show (cell5 x).length≤(k+1)*5 by show 5≤_;omega),List.nil_append]
theorem own_block5 {w:World} {lo n c:Nat} {ad:Addr} {t:TypeId} {xs:List Value} (h:w.ownsRow lo t 5 (.slice (some ad) n c) n xs) :
  ∃ b C,ad=⟨b,0,none⟩∧lo≤b∧b<w.heap.size∧w.heap[b]? = some (.cells (List.toArray C) t (0,0))∧n≤c∧c≤maxLen∧C.length=c*5∧C.take (n*5)=xs:=by
 rcases h.2 with ⟨e,_⟩ | ⟨g,cap,cur,e,hb,hg,h1,h2,h3,h4⟩
 ·cases e
 ·cases e
  exact⟨g,cur.toList,rfl,hb,(Array.getElem?_eq_some_iff.1 hg).1,by simpa using hg,h1,h2,by simpa using h3,h4⟩
theorem own_from5 {w:World} {lo b n c:Nat} {t:TypeId} {C xs:List Value} (hb:lo≤b) (hg:w.heap[b]? = some (.cells C.toArray t (0,0))) (h1:n≤c) (h2:c≤maxLen) (h3:C.length=c*5) (h4:C.take (n*5)=xs):w.ownsRow lo t 5 (.slice (some ⟨b,0,none⟩) n c) n xs :=
 ⟨by rw[← h4,List.length_take,h3];omega,.inr ⟨b,c,C.toArray,rfl,hb,hg,h1,h2,by simpa using h3,by simpa using h4⟩⟩
theorem own_less5 {w:World} {lo n c k:Nat} {ad:Addr} {t:TypeId} {xs:List Value} (h:w.ownsRow lo t 5 (.slice (some ad) n c) n xs) (hk:k≤n):w.ownsRow lo t 5 (.slice (some ad) k c) k (xs.take (k*5)):=by
 obtain⟨b,C,rfl,hb,_,hg,h1,h2,h3,h4⟩:=own_block5 h
 refine own_from5 hb hg (by omega) h2 h3 ?_
 rw[← h4,List.take_take,Nat.min_eq_left (by omega)]
theorem own_part5 {w:World} {lo n c:Nat} {b:Nat} {t:TypeId} {ps:List Iv} (h:w.ownsRow lo t 5 (.slice (some ⟨b,0,none⟩) n c) n (cells5 ps)) (k:Nat):∀ j v,(cells5 (ps.drop k))[j]? = some v→w.cell? ((⟨b,k*5,none⟩:Addr).add j)=some v:=fun j v hj=>by
 rw[cells5_drop,List.getElem?_drop] at hj
 have:=h.cells (g:=b) rfl _ _ hj
 rw[add_off] at this ⊢
 rwa [Nat.zero_add] at this
theorem iv_len5 {ps:List Iv} {n:Nat} {w:World} {lo:Nat} {t:TypeId} {v:Value} (h:w.ownsRow lo t 5 v n (cells5 ps)):ps.length=n:=by
 have:=h.1
 rw[cells5_length] at this
 omega
end Go.Proofs.YtogieepfimpdmaaGreat
/-
 slices.Insert at rows of items of the call's own. Conditions: those that each lemma states.
-/
namespace Go.Proofs.YtogieepfimpdmaaGreat
open Go.RowKit
theorem item_size:(Tryz.prog.info? 40).map (·.size)=some 5:=by kernel_rfl
theorem copy_min {a b k:Nat} (h:(a≤b∧k=a)∨(b≤a∧k=b)):Nat.min a b=k:=by
 rcases h with ⟨h1,rfl⟩ | ⟨h1,rfl⟩
 ·exact Nat.min_eq_left h1
 ·exact Nat.min_eq_right h1
theorem overlaps_no {w:World} {a b oa ob la ca lb cb:Nat} {Ca Cb:List Value} {ta tb:TypeId} (ha:w.heap[a]? = some (.cells Ca.toArray ta (0,0))) (hb:w.heap[b]? = some (.cells Cb.toArray tb (0,0))) (hne:a≠b) (h0:Cb.length≠0) :
  (callFunc 93 #[.slice (some ⟨a,oa,none⟩) la ca,.slice (some ⟨b,ob,none⟩) lb cb]).run Tryz.prog w=.ok (.value (.bool false)) w:=by
 obtain⟨i0,hi,hz0,hz1,hz2⟩:=info_parts item_info0
 rw[run_callFunc_extern Tryz.func93 (by kernel_rfl) (by kernel_rfl) (by kernel_rfl) (e:=Extern.SlicesOverlaps.overlaps #[43,43] #[4]) (by kernel_rfl),
  Lib.run_overlaps_apart w 43 4 40 Tryz.underlying43 5 (fun w=>by simp[sizeOf,typeInfo,hi,hz1]) ⟨a,oa,none⟩ ⟨b,ob,none⟩ la ca lb cb hne ta tb Ca.length Cb.length (by simp[World.shape?,ha]) (by simp[World.shape?,hb]) h0 (by simp[World.frozen?,ha]) (by simp[World.frozen?,ha])]
 rfl
theorem app_zeros {w:World} {lo n c i k:Nat} {ad:Addr} {ps:List Iv} (h:w.ownsRow lo 40 5 (.slice (some ad) n c) n (cells5 ps)) (hi:i≤n) (hk:0<k) (hc:c<i+k) (hb:i+k≤1000) :
  ∃ c' w1 Z,(Builtin.append_ #[43,3] 43 #[.slice (some ad) i c,.int .i64 (k:Int)]).run Tryz.prog w=.ok (.slice (some ⟨w.heap.size,0,none⟩) (i+k) c') w1 ∧
   w1.heap[w.heap.size]? = some (.cells (List.toArray Z) 40 (0,0))∧Z.length=c'*5∧i+k≤c'∧c'≤maxLen∧Z.take (i*5)=cells5 (ps.take i)∧Below w.heap.size w w1∧w1.heap.size=w.heap.size+1:=by
 obtain⟨i0,hi0,hz0,hz1,hz2⟩:=info_parts item_info0
 have hl:=own_less5 h hi
 obtain⟨b,C,rfl,_,hbs,hg,_,_,h3,h4⟩:=own_block5 hl
 have hc1:∀ j v,((cells5 ps).take (i*5))[j]? = some v→w.drew.cell? ((⟨b,0,none⟩:Addr).add j)=some v:=fun j v hj=>hl.cells (g:=b) rfl j v hj
 have hlen:((cells5 ps).take (i*5)).length=i*i0.size:=by rw[hz1];exact hl.1
 have hold:=run_firstCells_some (P:=Tryz.prog) w.drew i0.size i ⟨b,0,none⟩ i c _ hlen hc1
 have hn:=nextslicecap_le (need:=i+k) (old:=c) hc
 have hr:=Lib.run_append_grow_zeros (P:=Tryz.prog) w 43 3 43 40 i0 (.agg #[.int .u8 0,.int .u32 0,.int .u32 0,.int .i64 0,.slice none 0 0]) .i64 .i64 Tryz.underlying43 Tryz.underlying3 hi0 hz0
  (some ⟨b,0,none⟩) i c _ hold k hk (by omega) hc (by omega) (by rw[hz2];omega) (by rw[hz2];omega)
 have hge:=grownCap_ge w (i+k) c 40
 have s1:=size_zeroCells (Value.agg #[.int .u8 0,.int .u32 0,.int .u32 0,.int .i64 0,.slice none 0 0]).cells k
 have s2:=size_zeroCells (Value.agg #[.int .u8 0,.int .u32 0,.int .u32 0,.int .i64 0,.slice none 0 0]).cells (grownCap w (i+k) c 40-(i+k))
 rw[show (Value.agg #[Value.int .u8 0,Value.int .u32 0,Value.int .u32 0,Value.int .i64 0,Value.slice none 0 0]).cells.size=5 from rfl] at s1 s2
 generalize Builtin.zeroCells (Value.agg #[.int .u8 0,.int .u32 0,.int .u32 0,.int .i64 0,.slice none 0 0]).cells k=z1 at *
 generalize Builtin.zeroCells (Value.agg #[.int .u8 0,.int .u32 0,.int .u32 0,.int .i64 0,.slice none 0 0]).cells (grownCap w (i+k) c 40-(i+k))=z2 at *
 have hcm:=grownCap_le_maxLen w (i+k) c 40 (by unfold maxLen;omega)
 have h5:((cells5 ps).take (i*5)).length=i*5:=by rw[hlen,hz1]
 generalize hX:(cells5 ps).take (i*5)=X at *
 refine⟨_,_,X++z1.toList++z2.toList,hr,?_,?_,hge,hcm,?_,((Below.refl _ w).drew).alloc (Nat.le_refl _) _,by simp⟩
 ·have:=heap_alloc_new w.drew (.cells (X.toArray++z1++z2) 40)
  refine this.trans ?_
  rw[show (X++z1.toList++z2.toList).toArray=X.toArray++z1++z2 from Array.ext' (by simp)]
 ·rw[List.length_append,List.length_append,h5,Array.length_toList,Array.length_toList,s1,s2]
  omega
 ·rw[List.append_assoc,List.take_append_of_le_length (by omega),List.take_of_length_le (by omega),cells5_take,hX]
end Go.Proofs.YtogieepfimpdmaaGreat
