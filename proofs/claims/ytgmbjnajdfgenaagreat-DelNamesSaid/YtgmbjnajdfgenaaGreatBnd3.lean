/-
  Lemmas on the program and on the document's answers, gathered: RmFree, RmTake, RmShare, RmNode, FnPlain, DrPlain, FnKeep, FnSpan, Spoil05, NdBag, FnPlace, WkPlain, PtKeep, PtEnough, PtMake, PtLists, PtBuilt, PtGrow, PtGrown, PtPut, RmSame, CntWrite, CntRefW, StoZero, RmAlive, RmLaw, FnLeaf, RmRefN, FnInner, FnTree, FnOne, WkApp, PuStep, PuItems, DrStack, RmTwin, DrHold, RmRefT, DrMake, DrRefer, DrRefs, DrRefs2, DrLower, DrGo, DrGo2. Conditions: those that each lemma states.
-/
import Derived.Test.YtgmbjnajdfgenaaGreatBnd2
import Derived.Maps.AppendAt
import Derived.RangeFuncBox
import Derived.Sort.QuietIn
import Derived.Sort.CutIn
set_option maxRecDepth 100000
set_option maxHeartbeats 16000000
namespace Go.Proofs.YtgmbjnajdfgenaaGreat
open Go.RowKit Go.Shelf
attribute [local go_sem] Oper.semAt_some
theorem Zuj (s:Rm) (k j:Nat):∃ r,Zax s (k+j)=Zax s k++r:=by
 induction j with
 | zero=>exact⟨[],by simp⟩
 | succ j ih =>
  obtain⟨r,hr⟩:=ih
  exact⟨r++(if Ug s (8+(k+j)) then [8+(k+j)] else []),by rw[← Nat.add_assoc,Zfb,hr,List.append_assoc]⟩
theorem Zlw {s:Rm} {k:Nat} (h:Ug s (8+k)=true):Zax s (k+1)=Zax s k++[8+k]:=by rw[Zfb,h];rfl
theorem Zo3 {s:Rm} {k:Nat} (h:Ug s (8+k)=false):Zax s (k+1)=Zax s k:=by rw[Zfb,h];simp
theorem Zzb {s:Rm} {k:Nat} (hk:k<248) (h:Ug s (8+k)=true):∃ r,Xl s=Zax s k++(8+k)::r:=by
 obtain⟨r,hr⟩:=Zuj s (k+1) (247-k)
 refine⟨r,?_⟩
 rw[Xl,show 248=k+1+(247-k) by omega,hr,Zlw h]
 simp
theorem Zro {s:Rm} {i:Nat} (h:s.2.1[i]?.getD 0≠0):Ug s i=false:=by simp[Ug,h]
theorem Zrf {s:Rm} {i:Nat} (h:s.2.2[i]?.getD 0≠0):Ug s i=false:=by simp[Ug,h]
theorem Zrc {s:Rm} {i:Nat} (h:s.2.1[i]?.getD 0=0) (h':s.2.2[i]?.getD 0=0):Ug s i=true:=by simp[Ug,h,h']
theorem Zyp (F:Fence) (n:Nat) (hf:F.fn 179) (hro:F.round=none) (hn:1≤n) (l Bs n₀:Nat) (s:Rm) (ad bd:Addr) (cn cl:Nat) (_cn1:256≤cn) (_cl1:256≤cl) (hBn:Bs<n₀) (hab:ad.block<n₀) (hbb:bd.block<n₀) (J Jx:List Nat→World→Prop)
  (hY:∀ (pre:List Nat) (x:Nat) (W1:World),J pre W1→pre.length<248→YieldAt F (n-1) Tryz.prog l #[.int .i64 (x:Int)] W1 fun e W' =>
   (e=.returned (.bool true)∧J (pre++[x]) W'∧Below n₀ W1 W')∨(e=.returned (.bool false)∧Jx (pre++[x]) W'))
  (W:World) (hb2:W.cell? ⟨Bs,2,none⟩=some (.slice (some ad) 256 cn)) (hb3:W.cell? ⟨Bs,3,none⟩=some (.slice (some bd) 256 cl))
  (hc:∀ j,j<256→W.cell? (ad.add j)=some (.int .u8 ((s.2.1[j]?.getD 0).toNat:Int))∧W.cell? (bd.add j)=some (.int .u8 ((s.2.2[j]?.getD 0).toNat:Int))) (h0:J [] W) :
  CallsIn F n Tryz.prog 179 #[.func (.yield l) #[] #[],.pointer (some ⟨Bs,0,none⟩)] W fun e W'=>(∃ v,e=.returned v) ∧
   ((∃ ys,ys=Xl s∧J ys W')∨(∃ pre,(∃ k,k<248∧Ug s (8+k)=true∧pre=Zax s k++[8+k])∧Jx pre W')):=by
 refine callsIn_of_wp Tryz.func179 rfl hf ?_ hro
 simp only[Tryz.ntmps179,List.size_toArray,List.length_cons,List.length_nil,Nat.reduceAdd,Nat.reduceSub,Array.replicate_succ,Array.replicate_zero,List.push_toArray,List.append_toArray,List.nil_append,List.cons_append]
 have HC:=Za hc
 clear hc
 gi_wp2
 gi_loopw [3] (fun i wr=>∃ k:Nat,k≤248∧i=.int .i64 ((8+k:Nat):Int)∧J (Zax s k) wr∧Below n₀ W wr) (fun i _=>(256-intOf i).toNat)
 case atStart=>exact⟨0,Nat.zero_le _,by simp,h0,Below.refl _ _⟩
 case round =>
  obtain⟨k,hk,rfl,hJs,hnx⟩:=hrel
  have b2:=(hnx.cell (p:=⟨Bs,2,none⟩) hBn).trans hb2
  have b3:=(hnx.cell (p:=⟨Bs,3,none⟩) hBn).trans hb3
  by_cases hlt:k<248
  ·have hx:=HC.out (8+k) (by omega)
   have c1:=(hnx.cell (p:=ad.add (8+k)) (by rw[Zj];exact hab)).trans hx.1
   have c2:=(hnx.cell (p:=bd.add (8+k)) (by rw[Zj];exact hbb)).trans hx.2
   clear hx
   have hlen:=Zsv s k
   have hi:8+k<256:=by omega
   have hno1:=Za (fun h=>Zo3 (Zro (s:=s) (i:=8+k) h))
   have hno2:=Za (fun h=>Zo3 (Zrf (s:=s) (i:=8+k) h))
   have hyes:=Za (fun h h'=>Zrc (s:=s) (i:=8+k) h h')
   obtain⟨x,hx⟩:∃ x,s.2.1[8+k]?.getD 0=x:=⟨_,rfl⟩
   obtain⟨y,hy⟩:∃ y,s.2.2[8+k]?.getD 0=y:=⟨_,rfl⟩
   rw[hx] at c1 hno1 hyes
   rw[hy] at c2 hno2 hyes
   replace hx:=Za hx
   replace hy:=Za hy
   obtain⟨i,hi2⟩:∃ i,8+k=i:=⟨_,rfl⟩
   have hi3:Hid (8+k=i):=Za hi2
   rw[hi2] at c1 c2 hi hyes ⊢
   clear hi2
   by_cases h0:x=0
   ·by_cases h1:y=0
    ·have t0:=Xy (y:=0) (q:=0) rfl h0
     have t1:=Xy (y:=0) (q:=0) rfl h1
     have hfr:=Za (hyes.out h0 h1)
     have hfk:=Za (Zlw (s:=s) (k:=k) (by rw[hi3.out];exact hfr.out))
     replace h0:=Za h0
     replace h1:=Za h1
     obtain⟨fn,tmps,assign,body,hyy,hR⟩:=hY _ i wr hJs (by omega)
     try dsimp only at hyy
     gi_wp2
     refine hR.mono ?_
     rintro e W3 (⟨rfl,hJ3,hk3⟩ | ⟨rfl,hJx3⟩)
     ·gi_wp2
      go_roundw
      case rel=>exact⟨k+1,by omega,by have:=hi3.out;go_num,by rw[hfk.out,hi3.out];exact hJ3,hnx.trans hk3⟩
      case measure=>simp[intOf];omega
     ·gi_wp2
      refine bodyPost_ret (results_none rfl _ _ _) rfl ?_
      exact⟨⟨_,rfl⟩,.inr ⟨_,⟨k,hlt,by rw[hi3.out];exact hfr.out,rfl⟩,by rw[hi3.out];exact hJx3⟩⟩
    ·have t0:=Xy (y:=0) (q:=0) rfl h0
     have t1:=Xe (y:=0) (q:=0) rfl h1
     have hfk:=Za (hno2.out h1)
     replace h0:=Za h0
     replace h1:=Za h1
     gi_wp2
     try (refine⟨fun _ h=>(by cases h),?_⟩;gi_wp2)
     go_roundw
     case rel=>exact⟨k+1,by omega,by have:=hi3.out;go_num,by rw[hfk.out];exact hJs,hnx⟩
     case measure=>simp[intOf];omega
   ·have t0:=Xe (y:=0) (q:=0) rfl h0
    have hfk:=Za (hno1.out h0)
    replace h0:=Za h0
    gi_wp2
    try (refine⟨fun _ h=>(by cases h),?_⟩;gi_wp2)
    go_roundw
    case rel=>exact⟨k+1,by omega,by have:=hi3.out;go_num,by rw[hfk.out];exact hJs,hnx⟩
    case measure=>simp[intOf];omega
  ·obtain rfl:k=248:=by omega
   gi_wp2
   go_end0
   exact⟨⟨_,rfl⟩,.inl ⟨_,rfl,hJs⟩⟩
theorem Zx3 (F:Fence) (n:Nat) (hf:F.fn 158) (hro:F.round=none) (a b c d:Value) (w:World) :
  CallsIn F n Tryz.prog 158 #[.agg #[a,b,c,d]] w fun e w'=>e=.returned (.func (.func 179) #[] #[.pointer (some ⟨w.heap.size,0,none⟩)])∧w'=w.alloc (.cells #[a,b,c,d] 29):=by
 refine callsIn_of_wp Tryz.func158 rfl hf ?_ hro
 simp only[Tryz.ntmps158,List.size_toArray,List.length_cons,List.length_nil,Nat.reduceAdd,Nat.reduceSub,Array.replicate_succ,Array.replicate_zero,List.push_toArray,List.append_toArray,List.nil_append,List.cons_append]
 gi_wp2
 go_ret
 exact⟨rfl,rfl⟩
theorem Zoa (F:Fence) (n:Nat) (hf:F.fn 179) (hro:F.round=none) (hn:1≤n) (Bs n₀:Nat) (s:Rm) (ad bd:Addr) (cn cl:Nat) (cn1:256≤cn) (cl1:256≤cl) (hBn:Bs<n₀) (hab:ad.block<n₀) (hbb:bd.block<n₀)
  (w:World) (hn₀:n₀≤w.heap.size) (hb2:w.cell? ⟨Bs,2,none⟩=some (.slice (some ad) 256 cn)) (hb3:w.cell? ⟨Bs,3,none⟩=some (.slice (some bd) 256 cl))
  (hc:∀ j,j<256→w.cell? (ad.add j)=some (.int .u8 ((s.2.1[j]?.getD 0).toNat:Int))∧w.cell? (bd.add j)=some (.int .u8 ((s.2.2[j]?.getD 0).toNat:Int))) :
  SeqStopsK F n Tryz.prog 179 #[.pointer (some ⟨Bs,0,none⟩)] (fun x:Nat=>#[Value.int .i64 (x:Int)]) (Below n₀) (fun ys=>ys=Xl s) (fun pre=>∃ k,k<248∧Ug s (8+k)=true∧pre=Zax s k++[8+k]) 248 w:=fun l J Jx W hW _ _ hY h0 =>
 Zyp F n hf hro hn l Bs n₀ s ad bd cn cl cn1 cl1 hBn hab hbb J Jx hY W ((hW.cell (p:=⟨Bs,2,none⟩) (by show Bs<_;omega)).trans hb2) ((hW.cell (p:=⟨Bs,3,none⟩) (by show Bs<_;omega)).trans hb3)
  (fun j hj=>⟨(hW.cell (p:=ad.add j) (by rw[Zj];omega)).trans (hc j hj).1,(hW.cell (p:=bd.add j) (by rw[Zj];omega)).trans (hc j hj).2⟩) h0
theorem Zlk {w:World} {s:Rm} {N L:Option Addr} {cn cl:Nat} (hm:Xq s=true) (hN:rBy (Old w) w [.slice N s.2.1.length cn] s.2.1) (hL:rBy (Old w) w [.slice L s.2.2.length cl] s.2.2) :
  ∃ ad bd,N=some ad∧L=some bd∧s.2.1.length=256∧s.2.2.length=256∧256≤cn∧256≤cl∧ad.block<w.heap.size∧bd.block<w.heap.size∧(∀ j,j<256→w.cell? (ad.add j)=some (.int .u8 ((s.2.1[j]?.getD 0).toNat:Int))∧w.cell? (bd.add j)=some (.int .u8 ((s.2.2[j]?.getD 0).toNat:Int))):=by
 have hl1:=Yn (Yb hm).2.1
 have hl2:=Yn (Yb hm).2.2
 obtain⟨N',cn',e1,l1,_,hb1⟩:=Vc (B:=w.heap.size) (fun _ h=>h) hN
 obtain⟨L',cl',e2,l2,_,hb2⟩:=Vc (B:=w.heap.size) (fun _ h=>h) hL
 cases e1
 cases e2
 obtain⟨ad,rfl,h1,h2⟩:=hb1 (by omega)
 obtain⟨bd,rfl,h3,h4⟩:=hb2 (by omega)
 exact⟨ad,bd,rfl,rfl,hl1,hl2,by omega,by omega,h1,h3,fun j hj=>⟨h2 j (by omega),h4 j (by omega)⟩⟩
theorem Zuh (F:Fence) (n:Nat) (h3:F.fn 125) (h5:F.fn 158) (h7:F.fn 179) (hro:F.round=none) (hn:3≤n)
  (v:Value) (s:Rm) (hm:Xq s=true) (w:World) (h:Sto (Old w) w v s) :
  CallsIn F n Tryz.prog 125 #[v] w fun e W'=>e=.returned (.tuple #[.int .i64 (tkK s:Int),.bool (!(Xl s).isEmpty)])∧Below w.heap.size w W':=by
 have h1:1≤n:=by omega
 obtain⟨A,ca,B,cb,N,cn,L,cl,rfl,hd,hN,hL⟩:=h.open
 obtain⟨ad,bd,rfl,rfl,hl1,hl2,l1,l2,had,hbd,hc⟩:=Zlk hm hN hL
 rw[hl1,hl2]
 clear hd hN hL h
 obtain⟨n1,hn1⟩:∃ n1,s.1.1.length=n1:=⟨_,rfl⟩
 obtain⟨n2,hn2⟩:∃ n2,s.1.2.length=n2:=⟨_,rfl⟩
 rw[hn1,hn2]
 clear hn1 hn2
 replace hl1:=Za hl1
 replace hl2:=Za hl2
 replace hc:=Za hc
 refine callsIn_of_wp_marks Tryz.func125 rfl h3 ?_ hro
 simp only[Tryz.ntmps125,List.size_toArray,List.length_cons,List.length_nil,Nat.reduceAdd,Nat.reduceSub,Array.replicate_succ,Array.replicate_zero,List.push_toArray,List.append_toArray,List.nil_append,List.cons_append]
 gi_wp2_with (gi_at_call 158;refine(Zx3 F (n-1) h5 hro _ _ _ _ _).mono ?_;rintro e w' ⟨rfl,rfl⟩)
 obtain⟨W0,hW0,hB0,hs0,b1,b1f,b2,b2f,k2,k3⟩:∃ W0,(((w.alloc (.cells #[.slice A n1 ca,.slice B n2 cb,.slice (some ad) 256 cn,.slice (some bd) 256 cl] 29)).alloc (.cells #[.int .i64 0] 3)).alloc (.cells #[.bool false] 4)).alloc (.cells #[.slice A n1 ca,.slice B n2 cb,.slice (some ad) 256 cn,.slice (some bd) 256 cl] 29)=W0∧Below w.heap.size w W0∧W0.heap.size=w.heap.size+4 ∧
   W0.cell? ⟨w.heap.size+1,0,none⟩=some (.int .i64 0)∧W0.frozen? ⟨w.heap.size+1,0,none⟩=false∧W0.cell? ⟨w.heap.size+1+1,0,none⟩=some (.bool false)∧W0.frozen? ⟨w.heap.size+1+1,0,none⟩=false∧W0.cell? ⟨w.heap.size+1+1+1,2,none⟩=some (.slice (some ad) 256 cn)∧W0.cell? ⟨w.heap.size+1+1+1,3,none⟩=some (.slice (some bd) 256 cl) :=
  ⟨_,rfl,((((Below.refl _ w).alloc (Nat.le_refl _) _).alloc (by simp) _).alloc (by simp;omega) _).alloc (by simp;omega) _,by simp,by go_simp,by go_simp,by go_simp,by go_simp,by go_simp,by go_simp⟩
 rw[hW0]
 clear hW0
 have hlo:w.heap.size≤W0.heap.size:=hB0.size
 refine wpIn_rangeFunc_ownF hro h1 (gf:=179) (lb:=#[.pointer (some ⟨w.heap.size+1+1+1,0,none⟩)]) rfl h7 (enters_of Tryz.func179 (by kernel_rfl) rfl)
  (Zoa F (n-1) h7 hro (by omega) (w.heap.size+1+1+1) W0.heap.size s ad bd cn cl l1 l2 (by omega) (by omega) (by omega) W0 (Nat.le_refl _) k2 k3 (fun j hj=>⟨(hB0.cell (p:=ad.add j) (by rw[Zj];exact had)).trans (hc.out j hj).1,(hB0.cell (p:=bd.add j) (by rw[Zj];exact hbd)).trans (hc.out j hj).2⟩))
  (fun h h'=>h.trans h') (fun W l o o' hl h1 h2 h3=>belowK_b (w:=W0) (Nat.le_refl _) W l o o' hl h1 h2 h3) (Below.refl _ _) (fun _=>rfl)
  (fun pre W=>(pre=[]∧W.cell? ⟨w.heap.size+1,0,none⟩=some (.int .i64 0)∧W.frozen? ⟨w.heap.size+1,0,none⟩=false∧W.cell? ⟨w.heap.size+1+1,0,none⟩=some (.bool false)∧W.frozen? ⟨w.heap.size+1+1,0,none⟩=false)∧Below w.heap.size w W)
  (fun cd pre W=>(cd=.ret∧∃ x:Nat,pre=[x]∧W.cell? ⟨w.heap.size+1,0,none⟩=some (.int .i64 (x:Int))∧W.cell? ⟨w.heap.size+1+1,0,none⟩=some (.bool true))∧Below w.heap.size w W)
  (OwnFrom.and (Own.from (fun s A B row hs hg hr=>⟨hs.1,cell_kept hs.2.1 hg hr,(frozen_kept hs.2.1 hg hr).trans hs.2.2.1,cell_kept hs.2.2.2.1 hg hr,(frozen_kept hs.2.2.2.1 hg hr).trans hs.2.2.2.2⟩) _) (ownFrom_below (Nat.le_refl _) hlo))
  (fun cd=>OwnFrom.and (Own.from (fun s A B row hs hg hr=>by
   obtain⟨e,x,e2,h1,h2⟩:=hs
   exact⟨e,x,e2,cell_kept h1 hg hr,cell_kept h2 hg hr⟩) _) (ownFrom_below (Nat.le_refl _) hlo))
  ⟨⟨rfl,b1,b1f,b2,b2f⟩,hB0⟩
  (fun x=>{ tmps:=#[.agg #[.slice A n1 ca,.slice B n2 cb,.slice (some ad) 256 cn,.slice (some bd) 256 cl],.pointer (some ⟨w.heap.size,0,none⟩),.pointer (some ⟨w.heap.size+1,0,none⟩),.pointer (some ⟨w.heap.size+1+1,0,none⟩),.int .i64 (x:Int),.agg #[.slice A n1 ca,.slice B n2 cb,.slice (some ad) 256 cn,.slice (some bd) 256 cl],
   .func (.func 179) #[] #[.pointer (some ⟨w.heap.size+1+1+1,0,none⟩)],.int .i64 (x:Int),undef],defers:=[] }) ?assign ?body ?done ?stop
 case assign =>
  intro l x W K hK
  gi_wp2
  exact hK
 case body =>
  rintro l pre x W ⟨⟨rfl,c1,f1,c2,f2⟩,hb⟩ _
  gi_wp2
  refine⟨(KeepsOthers.setCell _ _ _).trans (KeepsOthers.setCell _ _ _),⟨rfl,x,rfl,?_,?_⟩,(hb.setCell (p:=⟨w.heap.size+1,0,none⟩) (by simp) _).setCell (p:=⟨w.heap.size+1+1,0,none⟩) (by simp;omega) _⟩
  ·go_simp
  ·go_simp
 case done =>
  rintro D zs W hD rfl ⟨⟨hz,c1,f1,c2,f2⟩,hb⟩ hK
  have hk0:Hid (tkK s=0):=Za (by simp[tkK,hz])
  have hemp:Hid ((Xl s).isEmpty=true):=Za (by rw[hz];rfl)
  clear hz
  obtain⟨W2,hW2,d1,d2,hb2,hK2⟩:∃ W2,(W.setCell ⟨w.heap.size+1,0,none⟩ (.int .i64 0)).setCell ⟨w.heap.size+1+1,0,none⟩ (.bool false)=W2∧W2.cell? ⟨w.heap.size+1,0,none⟩=some (.int .i64 0)∧W2.cell? ⟨w.heap.size+1+1,0,none⟩=some (.bool false)∧Below w.heap.size w W2∧W2.heap[D]? = some (.deferred (some [])) :=
   ⟨_,rfl,by go_simp,by go_simp,(hb.setCell (p:=⟨w.heap.size+1,0,none⟩) (by simp) _).setCell (p:=⟨w.heap.size+1+1,0,none⟩) (by simp;omega) _,((KeepsOthers.setCell W ⟨w.heap.size+1,0,none⟩ (.int .i64 0)).trans (KeepsOthers.setCell _ ⟨w.heap.size+1+1,0,none⟩ (.bool false))).same D _ hK rfl⟩
  gi_wp2
  try rw[hW2]
  refine⟨by simp,.inl ⟨_,_,rfl,run_takeDeferred hK2,?_⟩⟩
  have hro':∀ r,some D=some r→∃ o:Obj,W2.heap[r]? = some o∧o.isCells=false:=fun r e=>by cases e;exact⟨_,hK2,rfl⟩
  have c1':=cell_kept d1 (grownBy_putObj' _ D (.deferred none)) hro'
  have c2':=cell_kept d2 (grownBy_putObj' _ D (.deferred none)) hro'
  refine⟨.tuple #[.int .i64 0,.bool false],?_,by rw[hk0.out,hemp.out];rfl,hb2.trans (belowK_b hlo _ D _ _ hD hK2 rfl rfl)⟩
  simp[results,Tryz.f125,go_sem,c1',c2']
 case stop =>
  rintro D cd pre W hD ⟨k,hk,hfr,hpk⟩ ⟨⟨rfl,x,rfl,c1,c2⟩,hb⟩ hK
  obtain⟨r,hr⟩:=Zzb hk hfr
  have e2:Zax s k=[]∧8+k=x:=by
   cases hq:Zax s k with
   | nil=>rw[hq] at hpk;simp at hpk;exact⟨rfl,hpk.symm⟩
   | cons y q=>rw[hq] at hpk;simp at hpk
  rw[e2.1,e2.2] at hr
  have hk0:Hid (tkK s=x):=Za (by simp[tkK,hr])
  have hemp:Hid ((Xl s).isEmpty=false):=Za (by rw[hr];rfl)
  clear hr e2 hpk
  gi_wp2
  refine⟨by simp,.inl ⟨_,_,rfl,run_takeDeferred hK,?_⟩⟩
  have hro':∀ r,some D=some r→∃ o:Obj,W.heap[r]? = some o∧o.isCells=false:=fun r e=>by cases e;exact⟨_,hK,rfl⟩
  have c1':=cell_kept c1 (grownBy_putObj' _ D (.deferred none)) hro'
  have c2':=cell_kept c2 (grownBy_putObj' _ D (.deferred none)) hro'
  refine⟨.tuple #[.int .i64 (x:Int),.bool true],?_,by rw[hk0.out,hemp.out];rfl,hb.trans (belowK_b hlo _ D _ _ hD hK rfl rfl)⟩
  simp[results,Tryz.f125,go_sem,c1',c2']
theorem Ze0 (v:Value) (s:Rm) (hm:Xq s=true) (w:World) (h:Sto (Old w) w v s) :
  Calls Tryz.prog 125 #[v] w fun e W'=>e=.returned (.tuple #[.int .i64 (tkK s:Int),.bool (!(Xl s).isEmpty)])∧Below w.heap.size w W' :=
 callsIn_wide.1 (Zuh Fence.wide 3 trivial trivial trivial rfl (Nat.le_refl _) v s hm w h)
theorem Zd8 {w:World} {v:Value} {s:Rm} (h:Sto (Old w) w v s):∃ A ca B cb N cn L cl w1,v=.agg #[.slice A s.1.1.length ca,.slice B s.1.2.length cb,.slice N s.2.1.length cn,.slice L s.2.2.length cl] ∧
  (w.alloc (.cells #[.slice A s.1.1.length ca,.slice B s.1.2.length cb,.slice N s.2.1.length cn,.slice L s.2.2.length cl] 29)).alloc (.cells #[.slice none 0 0,.slice none 0 0,.slice none 0 0,.slice none 0 0] 29)=w1 ∧
  w1.heap[w.heap.size]? = some (.cells #[.slice A s.1.1.length ca,.slice B s.1.2.length cb,.slice N s.2.1.length cn,.slice L s.2.2.length cl] 29 (0,0))∧w1.heap[w.heap.size+1]? = some (.cells #[.slice none 0 0,.slice none 0 0,.slice none 0 0,.slice none 0 0] 29 (0,0))∧w1.heap.size=w.heap.size+2∧Below w.heap.size w w1 ∧
  Hid (Sto (Old w1) w1 (.agg #[.slice A s.1.1.length ca,.slice B s.1.2.length cb,.slice N s.2.1.length cn,.slice L s.2.2.length cl]) s):=by
 obtain⟨A,ca,B,cb,N,cn,L,cl,rfl,_,_,_⟩:=h.open
 have hb:Below w.heap.size w ((w.alloc (.cells #[.slice A s.1.1.length ca,.slice B s.1.2.length cb,.slice N s.2.1.length cn,.slice L s.2.2.length cl] 29)).alloc (.cells #[.slice none 0 0,.slice none 0 0,.slice none 0 0,.slice none 0 0] 29)):=((Below.refl _ w).alloc (Nat.le_refl _) _).alloc (by simp) _
 refine⟨A,ca,B,cb,N,cn,L,cl,_,rfl,rfl,Y3 (heap_alloc_new _ _),?_,by simp,hb,Za (h.below hb)⟩
 have:=heap_alloc_new (w.alloc (.cells #[.slice A s.1.1.length ca,.slice B s.1.2.length cb,.slice N s.2.1.length cn,.slice L s.2.2.length cl] 29)) (.cells #[.slice none 0 0,.slice none 0 0,.slice none 0 0,.slice none 0 0] 29)
 rwa [World.size_alloc] at this
theorem Zp3 {s:Rm} {b:List UInt8} (hm:Xq s=true) (hb:b.length=128) (hl:Xl s≠[]):(8≤tkK s∧tkK s<256∧s.2.1[tkK s]?.getD 0=0∧Zkm s.1 (tkK s:Int) b=(if 4096≤s.1.2.length then 9 else 0)):=by
 cases hf:Xl s with
 | nil=>exact absurd hf hl
 | cons k m =>
  obtain⟨h1,h2,h3,h4⟩:=Zu0 (s:=s) (i:=k) (by rw[hf];exact List.mem_cons_self)
  have hk:tkK s=k:=by simp[tkK,hf]
  rw[hk]
  refine⟨h1,h2,h3,?_⟩
  have hmd:=(Yb hm).1
  have h5:=(Zfl hmd).2.1
  have h6:Xu (k:Int)=true:=Zdw h2
  by_cases h7:4096≤s.1.2.length
  ·have h8:s.1.2.length=4096:=by omega
   simp[Zkm,hmd,h6,hb,h8]
  ·have h8:s.1.2.length≠4096:=by omega
   simp[Zkm,hmd,h6,hb,h8,h7]
theorem Zvw (v u:Value) (s:Rm) (b:List UInt8) (w:World) (h:Sto (Old w) w v s) (hu:rBy (Old w) w [u] b) :
  Calls Tryz.prog 82 #[v,u] w fun e w'=>∃ t,e=.returned (.tuple #[t,.int .i64 (tkN s b),.int .i64 (tkE s b)])∧Sto (New w.heap.size w') w' t (tkV s b)∧Below w.heap.size w w':=by
 obtain⟨A,ca,B,cb,N,cn,L,cl,w1,rfl,hw1,f1,f2,hsz,hB,H⟩:=Zd8 h
 obtain⟨E,ce,rfl,_⟩:=id (Zv hu)
 have U:=Za (Zf.old hu hB)
 clear h hu
 obtain⟨k0,k1,k2,k3,_,kg⟩:=Ze f1
 replace hsz:=Za hsz
 rcases Z0p s b with ⟨hm,hE⟩ | ⟨hm,hlb,hE⟩ | ⟨hm,hlb,hfl,hE⟩ | ⟨hm,hlb,hfl,hfw,hE⟩ | ⟨hm,hlb,hfl,hfw,hE⟩
 ·replace hE:=Za hE
  have e1:=Zcz hm
  replace f2:=Za f2
  go_enter Tryz.func82,Tryz.ntmps82
  go_upto_region 1 with fail
  clear hw1
  go_wp2_with fail
  with_reducible refine(Yy _ s _ H.out).mono ?_
  rintro e w2 ⟨rfl,hb2⟩
  rw[e1]
  have F2:=(hb2.block (w.heap.size+1) (by rw[hsz.out];omega)).trans f2.out
  replace hb2:=Za (hB.trans (hb2.mono hB.size))
  obtain⟨k0,k1,k2,k3,k4,k5⟩:=Ze F2
  obtain⟨W9,hW9,g9,gr9,gs9⟩:=Zs (a':=.slice none 0 0) (b':=.slice none 0 0) (c':=.slice none 0 0) (d':=.slice none 0 0) F2
  obtain⟨n0,n1,n2,n3,_,_⟩:=Ze g9
  have hB9:=Za ((hb2).out.grown gr9 (hb2).out.size (fun q e=>by cases e;omega))
  replace g9:=Za g9
  replace F2:=Za F2
  clear gr9 gs9
  go_wp2_with fail
  refine bodyPost_ret (v:=.tuple #[.agg #[.slice none 0 0,.slice none 0 0,.slice none 0 0,.slice none 0 0],.int .i64 0,.int .i64 8]) (by simp[results,Tryz.results82,go_sem,n0,n1,n2,n3]) rfl ?_
  obtain⟨hN,hV⟩:=Zqq (s:=s) (b:=b) (by rw[hE.out];decide)
  rw[hN,hV,hE.out]
  exact⟨_,rfl,Yk _ _,hB9.out⟩
 ·replace hE:=Za hE
  have e1:=Zbj hm
  have e2:((b.length:Int) != 128)=true:=by simp;omega
  replace f2:=Za f2
  go_enter Tryz.func82,Tryz.ntmps82
  go_upto_region 1 with fail
  clear hw1
  go_wp2_with fail
  with_reducible refine(Yy _ s _ H.out).mono ?_
  rintro e w2 ⟨rfl,hb2⟩
  rw[e1]
  have G2:=(hb2.block w.heap.size kg).trans f1
  obtain⟨m0,m1,m2,m3,_,mg⟩:=Ze G2
  have F2:=(hb2.block (w.heap.size+1) (by rw[hsz.out];omega)).trans f2.out
  have H2:=Za (H.out.below hb2)
  have U2:=Za (Zf.old U.out hb2)
  have s2:Hid (w.heap.size+2≤w2.heap.size):=Za (by have:=hb2.size;have:=hsz.out;omega)
  replace hb2:=Za (hB.trans (hb2.mono hB.size))
  replace G2:=Za G2
  replace F2:=Za F2
  clear k0 k1 k2 k3 kg f1 hB
  replace F2:=F2.out
  obtain⟨k0,k1,k2,k3,k4,k5⟩:=Ze F2
  obtain⟨W9,hW9,g9,gr9,gs9⟩:=Zs (a':=.slice none 0 0) (b':=.slice none 0 0) (c':=.slice none 0 0) (d':=.slice none 0 0) F2
  obtain⟨n0,n1,n2,n3,_,_⟩:=Ze g9
  have hB9:=Za ((hb2).out.grown gr9 (hb2).out.size (fun q e=>by cases e;omega))
  replace g9:=Za g9
  replace F2:=Za F2
  clear gr9 gs9
  go_wp2_with fail
  refine bodyPost_ret (v:=.tuple #[.agg #[.slice none 0 0,.slice none 0 0,.slice none 0 0,.slice none 0 0],.int .i64 0,.int .i64 3]) (by simp[results,Tryz.results82,go_sem,n0,n1,n2,n3]) rfl ?_
  obtain⟨hN,hV⟩:=Zqq (s:=s) (b:=b) (by rw[hE.out];decide)
  rw[hN,hV,hE.out]
  exact⟨_,rfl,Yk _ _,hB9.out⟩
 ·replace hE:=Za hE
  have e1:=Zbj hm
  have e2:((b.length:Int) != 128)=false:=by rw[hlb];rfl
  have hemp:(!(Xl s).isEmpty)=false:=by rw[hfl];rfl
  replace f2:=Za f2
  replace hlb:=Za hlb
  replace hfl:=Za hfl
  go_enter Tryz.func82,Tryz.ntmps82
  go_upto_region 1 with fail
  clear hw1
  go_wp2_with fail
  with_reducible refine(Yy _ s _ H.out).mono ?_
  rintro e w2 ⟨rfl,hb2⟩
  rw[e1]
  have G2:=(hb2.block w.heap.size kg).trans f1
  obtain⟨m0,m1,m2,m3,_,mg⟩:=Ze G2
  have F2:=(hb2.block (w.heap.size+1) (by rw[hsz.out];omega)).trans f2.out
  have H2:=Za (H.out.below hb2)
  have U2:=Za (Zf.old U.out hb2)
  have s2:Hid (w.heap.size+2≤w2.heap.size):=Za (by have:=hb2.size;have:=hsz.out;omega)
  replace hb2:=Za (hB.trans (hb2.mono hB.size))
  replace G2:=Za G2
  replace F2:=Za F2
  clear k0 k1 k2 k3 kg f1 hB
  go_wp2_with fail
  with_reducible refine(Ze0 _ s hm _ H2.out).mono ?_
  rintro e w3 ⟨rfl,hb3⟩
  rw[hemp]
  have G3:=(hb3.block w.heap.size mg).trans G2.out
  obtain⟨k0,k1,k2,k3,_,kg⟩:=Ze G3
  have F3:=(hb3.block (w.heap.size+1) (by have:=s2.out;omega)).trans F2.out
  have H3:=Za (H2.out.below hb3)
  have U3:=Za (Zf.old U2.out hb3)
  have s3:Hid (w.heap.size+2≤w3.heap.size):=Za (by have:=hb3.size;have:=s2.out;omega)
  replace hb3:=Za (hb2.out.trans (hb3.mono hb2.out.size))
  replace G3:=Za G3
  clear m0 m1 m2 m3 mg G2 F2 H2 U2 hb2
  obtain⟨k0,k1,k2,k3,k4,k5⟩:=Ze F3
  obtain⟨W9,hW9,g9,gr9,gs9⟩:=Zs (a':=.slice none 0 0) (b':=.slice none 0 0) (c':=.slice none 0 0) (d':=.slice none 0 0) F3
  obtain⟨n0,n1,n2,n3,_,_⟩:=Ze g9
  have hB9:=Za ((hb3).out.grown gr9 (hb3).out.size (fun q e=>by cases e;omega))
  replace g9:=Za g9
  replace F3:=Za F3
  clear gr9 gs9
  go_wp2_with fail
  refine bodyPost_ret (v:=.tuple #[.agg #[.slice none 0 0,.slice none 0 0,.slice none 0 0,.slice none 0 0],.int .i64 0,.int .i64 9]) (by simp[results,Tryz.results82,go_sem,n0,n1,n2,n3]) rfl ?_
  obtain⟨hN,hV⟩:=Zqq (s:=s) (b:=b) (by rw[hE.out];decide)
  rw[hN,hV,hE.out]
  exact⟨_,rfl,Yk _ _,hB9.out⟩
 ·replace hE:=Za hE
  have e1:=Zbj hm
  have e2:((b.length:Int) != 128)=false:=by rw[hlb];rfl
  have hemp:(!(Xl s).isEmpty)=true:=by cases hq:Xl s with
   | nil=>exact absurd hq hfl
   | cons k m=>rfl
  obtain⟨h8,h256,h0,hwe⟩:=Zp3 hm hlb hfl
  rw[if_pos hfw] at hwe
  obtain⟨k,hk⟩:∃ k,tkK s=k:=⟨_,rfl⟩
  obtain⟨R,hR⟩:∃ R,wrR s.1 (k:Int) b=R:=⟨_,rfl⟩
  rw[hk] at h8 h256 hwe
  replace f2:=Za f2
  replace hlb:=Za hlb
  replace hfl:=Za hfl
  replace hk:=Za hk
  replace hR:=Za hR
  replace hwe:=Za hwe
  go_enter Tryz.func82,Tryz.ntmps82
  go_upto_region 1 with fail
  clear hw1
  go_wp2_with fail
  with_reducible refine(Yy _ s _ H.out).mono ?_
  rintro e w2 ⟨rfl,hb2⟩
  rw[e1]
  have G2:=(hb2.block w.heap.size kg).trans f1
  obtain⟨m0,m1,m2,m3,_,mg⟩:=Ze G2
  have F2:=(hb2.block (w.heap.size+1) (by rw[hsz.out];omega)).trans f2.out
  have H2:=Za (H.out.below hb2)
  have U2:=Za (Zf.old U.out hb2)
  have s2:Hid (w.heap.size+2≤w2.heap.size):=Za (by have:=hb2.size;have:=hsz.out;omega)
  replace hb2:=Za (hB.trans (hb2.mono hB.size))
  replace G2:=Za G2
  replace F2:=Za F2
  clear k0 k1 k2 k3 kg f1 hB
  go_wp2_with fail
  with_reducible refine(Ze0 _ s hm _ H2.out).mono ?_
  rintro e w3 ⟨rfl,hb3⟩
  rw[hemp]
  have G3:=(hb3.block w.heap.size mg).trans G2.out
  obtain⟨k0,k1,k2,k3,_,kg⟩:=Ze G3
  have F3:=(hb3.block (w.heap.size+1) (by have:=s2.out;omega)).trans F2.out
  have H3:=Za (H2.out.below hb3)
  have U3:=Za (Zf.old U2.out hb3)
  have s3:Hid (w.heap.size+2≤w3.heap.size):=Za (by have:=hb3.size;have:=s2.out;omega)
  replace hb3:=Za (hb2.out.trans (hb3.mono hb2.out.size))
  replace G3:=Za G3
  clear m0 m1 m2 m3 mg G2 F2 H2 U2 hb2
  rw[hk.out]
  replace F3:=Za F3
  go_wp2_with fail
  with_reducible refine(Zmz _ _ s.1 (k:Int) b _ H3.out.parts.1 U3.out).mono ?_
  rintro e w4 ⟨A4,c4,B4,d4,rfl,_,hb4⟩
  rw[hwe.out,hR.out]
  have F4:=(hb4.block (w.heap.size+1) (by have:=s3.out;omega)).trans F3.out
  obtain⟨w5,hw5,g5,hs5,hb5⟩:=Z7 w4 (.slice A4 R.1.length c4) (.slice B4 R.2.length d4) 26
  have F5:=(hb5.block (w.heap.size+1) (by have:=s3.out;have:=hb4.size;omega)).trans F4
  have B5:=Za (hb3.out.trans ((hb4.trans (hb5.mono hb4.size)).mono hb3.out.size))
  replace F4:=Za F4
  replace g5:=Za g5
  replace hs5:=Za hs5
  clear hb4 hb5
  go_upto_region 10 with fail
  clear hw5
  obtain⟨k0,k1,k2,k3,k4,k5⟩:=Ze F5
  obtain⟨W9,hW9,g9,gr9,gs9⟩:=Zs (a':=.slice none 0 0) (b':=.slice none 0 0) (c':=.slice none 0 0) (d':=.slice none 0 0) F5
  obtain⟨n0,n1,n2,n3,_,_⟩:=Ze g9
  have hB9:=Za ((B5).out.grown gr9 (B5).out.size (fun q e=>by cases e;omega))
  replace g9:=Za g9
  replace F5:=Za F5
  clear gr9 gs9
  go_wp2_with fail
  refine bodyPost_ret (v:=.tuple #[.agg #[.slice none 0 0,.slice none 0 0,.slice none 0 0,.slice none 0 0],.int .i64 0,.int .i64 9]) (by simp[results,Tryz.results82,go_sem,n0,n1,n2,n3]) rfl ?_
  obtain⟨hN,hV⟩:=Zqq (s:=s) (b:=b) (by rw[hE.out];decide)
  rw[hN,hV,hE.out]
  exact⟨_,rfl,Yk _ _,hB9.out⟩
 ·replace hE:=Za hE
  have e1:=Zbj hm
  have e2:((b.length:Int) != 128)=false:=by rw[hlb];rfl
  have hemp:(!(Xl s).isEmpty)=true:=by cases hq:Xl s with
   | nil=>exact absurd hq hfl
   | cons k m=>rfl
  obtain⟨h8,h256,h0,hwe⟩:=Zp3 hm hlb hfl
  rw[if_neg (by omega)] at hwe
  have hV:Hid (tkV s b=(wrR s.1 (tkK s:Int) b,s.2.1.set (tkK s) 1,s.2.2)):=Za (by
   rw[(Zwa hE.out).2.2.2.2.2.2.2.2.2,Z18 hwe])
  have hT:Hid (tkN s b=(tkK s:Int)):=Za (Zwa hE.out).2.2.2.2.2.2.2.2.1
  obtain⟨k,hk⟩:∃ k,tkK s=k:=⟨_,rfl⟩
  obtain⟨R,hR⟩:∃ R,wrR s.1 (k:Int) b=R:=⟨_,rfl⟩
  rw[hk] at h8 h256 hwe hV hT h0
  rw[hR] at hV
  obtain⟨hu0,hu1⟩:=Z44 (Yb hm).2.1 h8 h256 (by rw[h0];decide)
  rw[h0,show (0:UInt8)+1=1 from rfl] at hu1
  obtain⟨T,hT2⟩:∃ T,s.2.1.set k 1=T:=⟨_,rfl⟩
  rw[hT2] at hu1 hV
  have hll:=Yn (Yb hm).2.2
  replace f2:=Za f2
  replace hlb:=Za hlb
  replace hfl:=Za hfl
  replace hk:=Za hk
  replace hR:=Za hR
  replace hwe:=Za hwe
  replace hu0:=Za hu0
  replace hu1:=Za hu1
  replace hT2:=Za hT2
  replace hll:=Za hll
  replace h0:=Za h0
  go_enter Tryz.func82,Tryz.ntmps82
  go_upto_region 1 with fail
  clear hw1
  go_wp2_with fail
  with_reducible refine(Yy _ s _ H.out).mono ?_
  rintro e w2 ⟨rfl,hb2⟩
  rw[e1]
  have G2:=(hb2.block w.heap.size kg).trans f1
  obtain⟨m0,m1,m2,m3,_,mg⟩:=Ze G2
  have F2:=(hb2.block (w.heap.size+1) (by rw[hsz.out];omega)).trans f2.out
  have H2:=Za (H.out.below hb2)
  have U2:=Za (Zf.old U.out hb2)
  have s2:Hid (w.heap.size+2≤w2.heap.size):=Za (by have:=hb2.size;have:=hsz.out;omega)
  replace hb2:=Za (hB.trans (hb2.mono hB.size))
  replace G2:=Za G2
  replace F2:=Za F2
  clear k0 k1 k2 k3 kg f1 hB
  go_wp2_with fail
  with_reducible refine(Ze0 _ s hm _ H2.out).mono ?_
  rintro e w3 ⟨rfl,hb3⟩
  rw[hemp]
  have G3:=(hb3.block w.heap.size mg).trans G2.out
  obtain⟨k0,k1,k2,k3,_,kg⟩:=Ze G3
  have F3:=(hb3.block (w.heap.size+1) (by have:=s2.out;omega)).trans F2.out
  have H3:=Za (H2.out.below hb3)
  have U3:=Za (Zf.old U2.out hb3)
  have s3:Hid (w.heap.size+2≤w3.heap.size):=Za (by have:=hb3.size;have:=s2.out;omega)
  replace hb3:=Za (hb2.out.trans (hb3.mono hb2.out.size))
  replace G3:=Za G3
  clear m0 m1 m2 m3 mg G2 F2 H2 U2 hb2
  rw[hk.out]
  replace F3:=Za F3
  go_wp2_with fail
  with_reducible refine(Zmz _ _ s.1 (k:Int) b _ H3.out.parts.1 U3.out).mono ?_
  rintro e w4 ⟨A4,c4,B4,d4,rfl,hd4,hb4⟩
  rw[hwe.out,hR.out]
  rw[hR.out] at hd4
  have F4:=(hb4.block (w.heap.size+1) (by have:=s3.out;omega)).trans F3.out
  have G4:=(hb4.block w.heap.size kg).trans G3.out
  obtain⟨w5,hw5,g5,hs5,hb5⟩:=Z7 w4 (.slice A4 R.1.length c4) (.slice B4 R.2.length d4) 26
  have F5:=Za ((hb5.block (w.heap.size+1) (by have:=s3.out;have:=hb4.size;omega)).trans F4)
  have G5:=(hb5.block w.heap.size (by have:=s3.out;have:=hb4.size;omega)).trans G4
  have H5:=Za ((H3.out.below hb4).below hb5)
  have D5:=Za (hd4.new (Nat.le_refl _) hb5)
  have s5:Hid (w4.heap.size+1=w5.heap.size∧w.heap.size+2≤w4.heap.size):=Za ⟨by omega,by have:=s3.out;have:=hb4.size;omega⟩
  have B5:=Za (hb3.out.trans ((hb4.trans (hb5.mono hb4.size)).mono hb3.out.size))
  obtain⟨m0,m1,m2,m3,_,mg⟩:=Ze G5
  replace F4:=Za F4
  replace g5:=Za g5
  replace hs5:=Za hs5
  replace G5:=Za G5
  clear hb4 hb5 G4 k0 k1 k2 k3 hd4 H3 U3 G3
  go_upto_region 10 with fail
  clear hw5
  go_wp2_with fail
  with_reducible refine(Zt3 _ s.2.1 (k:Int) _ H5.out.parts.2.1).mono ?_
  rintro e w6 ⟨E6,c6,rfl,h6,hb6⟩
  rw[hu0.out,hu1.out]
  rw[hu1.out] at h6
  have F6:=Za ((hb6.block (w.heap.size+1) (by have:=s5.out;omega)).trans F5.out)
  have G6:=(hb6.block w.heap.size mg).trans G5.out
  have P6:=(hb6.block w4.heap.size (by have:=s5.out;omega)).trans g5.out
  have H6:=Za (H5.out.below hb6)
  have D6:=Za (D5.out.new (Nat.le_refl _) hb6)
  have T6:=Za h6
  have B6:=Za (B5.out.trans (hb6.mono B5.out.size))
  have s6:Hid (w.heap.size+2≤w6.heap.size):=Za (by have:=s5.out;have:=hb6.size;omega)
  clear hb6 h6 m0 m1 m2 m3
  obtain⟨m0,m1,m2,m3,_,mg⟩:=Ze G6
  obtain⟨p0,p1,_,pg⟩:=Zg P6
  replace G6:=Za G6
  replace P6:=Za P6
  have hcl:Hid (∀ W,Below w6.heap.size w6 W→Calls Tryz.prog 80 #[.slice L s.2.2.length cl] W fun e W'=>∃ X xc,e=.returned (.slice X s.2.2.length xc)∧rBy (New w6.heap.size W') W' [.slice X s.2.2.length xc] s.2.2∧Below w6.heap.size w6 W'):=Za fun W hC=>by
   refine(Ur _ s.2.2 W (by rw[hll.out];omega) (Zf.old H6.out.parts.2.2 hC)).mono ?_
   rintro e W' ⟨u,rfl,hx,hb⟩
   obtain⟨X,xc,rfl,_⟩:=id (Zv hx)
   exact⟨X,xc,rfl,Zf.mono hx hC.size,hC.trans (hb.mono hC.size)⟩
  go_upto_region 15 with fail
  have hdr:Below w6.heap.size w6 w6.drew:=(Below.refl _ _).drew
  go_region_with (first
   | (go_at_call 80;refine(hcl.out _ hdr).mono ?_;rintro e' wm ⟨X,xc,rfl,hx,hw⟩;have bW:=(hw.block (w.heap.size+1) (by have:=s6.out;omega)).trans F6.out;obtain⟨y0,y1,_,_⟩:=Zg ((hw.block w4.heap.size pg).trans P6.out);obtain⟨c0,c1,c2,c3,c4',_⟩:=Ze bW))
  all_goals
   (go_wp2_with fail
    obtain⟨W9,hW9,g9,gr9,gs9⟩:=Zs (a':=.slice A4 R.1.length c4) (b':=.slice B4 R.2.length d4) (c':=.slice E6 T.length c6) (d':=.slice X s.2.2.length xc) bW
    obtain⟨n0,n1,n2,n3,_,_⟩:=Ze g9
    rw[hW9]
    have BW:=B6.out.trans (hw.mono B6.out.size)
    have l3:=hb3.out.size
    have l5:=B5.out.size
    have l6:=B6.out.size
    have r3:=s3.out
    have r5:=s5.out
    have r6:=s6.out
    refine bodyPost_ret (v:=.tuple #[.agg #[.slice A4 R.1.length c4,.slice B4 R.2.length d4,.slice E6 T.length c6,.slice X s.2.2.length xc],.int .i64 (k:Int),.int .i64 0]) (by simp[results,Tryz.results82,go_sem,n0,n1,n2,n3]) rfl ?_
    rw[hT.out,hV.out,hE.out]
    exact⟨_,rfl,Sto.mk (((D6.out.new (Nat.le_refl _) hw).grown gr9 (fun q e=>by cases e;omega)).new l3 (Below.refl _ _)) (Zf.new (Zf.grown (Zf.new T6.out (Nat.le_refl _) hw) gr9 (fun q e=>by cases e;omega)) l5 (Below.refl _ _)) (Zf.new (Zf.grown hx gr9 (fun q e=>by cases e;omega)) l6 (Below.refl _ _)),BW.grown gr9 BW.size (fun q e=>by cases e;omega)⟩)
theorem Zu8 {s:Rm} {n:Int} (h:asE s n≠0):shE s n=asE s n:=by simp[shE,h]
theorem Z4v {s:Rm} {n:Int} (h:asE s n=0):Xq s=true∧upE s.2.1 n=shE s n∧(shE s n=0→shV s n=(s.1,upV s.2.1 n,s.2.2)):=by
 rcases Ze2 s n with ⟨_,e⟩ | ⟨_,_,e⟩ | ⟨k,_,_,_,_,_,e⟩ | ⟨k,hm,rfl,h8,h256,hx,e⟩
 ·rw[e] at h;cases h
 ·rw[e] at h;cases h
 ·rw[e] at h;cases h
 ·have hi:=Zp5 h8 h256
  have hmt:=(Yb hm).2.1
  have h1:upE s.2.1 (k:Int)=shE s (k:Int):=by simp[upE,Zcc,shE,e,hmt,hi]
  exact⟨hm,h1,fun h0=>by rw[shV,if_pos h0,upV,if_pos (by rw[h1];exact h0)]⟩
theorem Zsb (v:Value) (s:Rm) (n:Int) (w:World) (h:Sto (Old w) w v s) :
  Calls Tryz.prog 53 #[v,.int .i64 n] w fun e w'=>∃ t,e=.returned (.tuple #[t,.int .i64 (shE s n)])∧Sto (New w.heap.size w') w' t (shV s n)∧Below w.heap.size w w':=by
 obtain⟨A,ca,B,cb,N,cn,L,cl,w1,rfl,hw1,f1,f2,hsz,hB,H⟩:=Zd8 h
 clear h
 obtain⟨k0,k1,k2,k3,_,kg⟩:=Ze f1
 replace hsz:=Za hsz
 replace f2:=Za f2
 obtain⟨q,hq⟩:∃ q,shE s n=q:=⟨_,rfl⟩
 by_cases ha:asE s n=0
 ·obtain⟨hm,hup,hsv⟩:=Z4v ha
  rw[hq] at hup hsv
  have hll:=Za (Yn (Yb hm).2.2)
  have hsm:=Za (Zb7 (Yb hm).1)
  obtain⟨T,hT⟩:∃ T,upV s.2.1 n=T:=⟨_,rfl⟩
  rw[hT] at hsv
  have hq0:q≠0→shV s n=Zh:=fun h=>Z4e (by rw[hq];exact h)
  have hq9:=hq
  replace hq:=Za hq9
  replace ha:=Za ha
  replace hup:=Za hup
  replace hT:=Za hT
  replace hsv:=Za hsv
  clear hq9
  go_enter Tryz.func53,Tryz.ntmps53
  go_upto_region 1 with fail
  clear hw1
  go_wp2_with fail
  with_reducible refine(Vn _ s n _ H.out).mono ?_
  rintro e w2 ⟨rfl,hb2⟩
  rw[ha.out]
  have G2:=(hb2.block w.heap.size kg).trans f1
  obtain⟨m0,m1,m2,m3,_,mg⟩:=Ze G2
  have F2:=Za ((hb2.block (w.heap.size+1) (by rw[hsz.out];omega)).trans f2.out)
  have H2:=Za (H.out.below hb2)
  have s2:Hid (w.heap.size+2≤w2.heap.size):=Za (by have:=hb2.size;have:=hsz.out;omega)
  replace hb2:=Za (hB.trans (hb2.mono hB.size))
  replace G2:=Za G2
  clear k0 k1 k2 k3 kg f1 hB
  go_wp2_with fail
  with_reducible refine(Zt3 _ s.2.1 n _ H2.out.parts.2.1).mono ?_
  rintro e w3 ⟨E3,c3,rfl,h3,hb3⟩
  rw[hup.out,hT.out]
  rw[hT.out] at h3
  have F3:=Za ((hb3.block (w.heap.size+1) (by have:=s2.out;omega)).trans F2.out)
  have G3:=(hb3.block w.heap.size mg).trans G2.out
  have H3:=Za (H2.out.below hb3)
  have T3:=Za h3
  have B3:=Za (hb2.out.trans (hb3.mono hb2.out.size))
  have s3:Hid (w.heap.size+2≤w3.heap.size):=Za (by have:=hb3.size;have:=s2.out;omega)
  clear hb3 h3 m0 m1 m2 m3 mg F2
  obtain⟨m0,m1,m2,m3,_,mg⟩:=Ze G3
  replace G3:=Za G3
  by_cases hqz:q=0
  ·subst hqz
   have hV:=Za (hsv.out rfl)
   clear hq0 hsv
   go_upto_region 7 with fail
   refine Vo (by kernel_rfl) 8 (fun W=>Below w3.heap.size w3 W) (fun i=>match i with
     | 2=>some (fun v W=>Dsk (New w3.heap.size W) W v s.1)
     | 6=>some (fun v W=>rBy (New w3.heap.size W) W [v] s.2.2)
     | 7=>some (fun v W=>∃ P p Q r X x,v=.agg #[.slice P s.1.1.length p,.slice Q s.1.2.length r,.slice E3 T.length c3,.slice X s.2.2.length x]∧Dsk (New w3.heap.size W) W (.agg #[.slice P s.1.1.length p,.slice Q s.1.2.length r]) s.1∧rBy (New w3.heap.size W) W [.slice X s.2.2.length x] s.2.2)
     | _=>none) (fun _=>none) (by decide) (by kernel_rfl) (by kernel_rfl) (Below.refl _ _).drew (fun w w' h hb=>h.trans (hb.mono h.size)) ?tst ?_
   case tst =>
    intro j φ x W W' hp hx hb
    match j,hp with
    | 2,hp=>cases hp;exact hx.new (Nat.le_refl _) hb
    | 6,hp=>cases hp;exact Zf.new hx (Nat.le_refl _) hb
    | 7,hp =>
     cases hp
     obtain⟨P,p,Q,r,X,x,e1,e2,e3⟩:=hx
     exact⟨P,p,Q,r,X,x,e1,e2.new (Nat.le_refl _) hb,Zf.new e3 (Nat.le_refl _) hb⟩
   simp only[List.take_succ_cons,List.take_zero,List.drop_succ_cons,List.drop_zero]
   repeat (first
    | (refine wpAs_skip rfl ?_;simp only[Act.put,Zb,Zc,Zd])
    | (refine wpAs_pure (v := ?_) rfl rfl ?_ ?_;rotate_left;(intro W hC hE;clear hE;(have z0:=(hC.cell (p:=⟨w.heap.size,0,none⟩) mg).trans m0;have z1:=(hC.cell (p:=⟨w.heap.size,1,none⟩) mg).trans m1);clear hC;go_simp;first | done | with_reducible rfl);simp only[Act.put,Zb,Zc,Zd]))
   refine wpAs_act rfl rfl ?_ ?_
   ·intro W hC hE
    clear hE
    refine does_enter (f:=90) (args:=#[.agg #[.slice A s.1.1.length ca,.slice B s.1.2.length cb]]) ?_ ?_
    ·go_simp
    ·refine(Zoy _ s.1 W hsm.out (H3.out.below hC).parts.1).mono ?_
     rintro e W' ⟨u,rfl,hu,hb⟩
     exact⟨_,rfl,hu.new hC.size (Below.refl _ _),hb⟩
   simp only[Act.put,Zb,Zc,Zd,envAdd]
   intro x29
   repeat (first
    | (refine wpAs_skip rfl ?_;simp only[Act.put,Zb,Zc,Zd])
    | (refine wpAs_pure (v := ?_) rfl rfl ?_ ?_;rotate_left;(intro W hC hE;clear hE;(have z3:=(hC.cell (p:=⟨w.heap.size,3,none⟩) mg).trans m3);clear hC;go_simp;first | done | with_reducible rfl);simp only[Act.put,Zb,Zc,Zd]))
   refine wpAs_act rfl rfl ?_ ?_
   ·intro W hC hE
    clear hE
    refine does_enter (f:=80) (args:=#[.slice L s.2.2.length cl]) ?_ ?_
    ·go_simp
    ·refine(Ur _ s.2.2 W (by rw[hll.out];omega) (H3.out.below hC).parts.2.2).mono ?_
     rintro e W' ⟨u,rfl,ho,hb⟩
     exact⟨_,rfl,Zf.new ho hC.size (Below.refl _ _),hb⟩
   simp only[Act.put,Zb,Zc,Zd,envAdd]
   intro x33
   refine wpAs_act rfl rfl ?_ ?_
   ·intro W hC hE
    have h33:=hE.1 rfl
    have h29:=hE.2.1 rfl
    obtain⟨X,x,rfl,_⟩:=Zv h33
    obtain⟨P,p,Q,r,rfl,_⟩:=h29.open
    have h33':=Za h33
    have h29':=Za h29
    clear hE hC h33 h29
    go_simp
    exact⟨⟨P,p,Q,r,X,x,rfl,h29'.out,h33'.out⟩,Below.refl _ _⟩
   simp only[Act.put,Zb,Zc,Zd,envAdd]
   intro x34
   refine wpAs_end fun W hC hE => ?_
   obtain⟨⟨P,p,Q,r,X,x,rfl,hd,hx⟩,_⟩:=hE
   have bW:=(hC.block (w.heap.size+1) (by have:=s3.out;omega)).trans F3.out
   obtain⟨c0,c1,c2,c3',c4,c5⟩:=Ze bW
   obtain⟨W9,hW9,g9,gr9,gs9⟩:=Zs (a':=.slice P s.1.1.length p) (b':=.slice Q s.1.2.length r) (c':=.slice E3 T.length c3) (d':=.slice X s.2.2.length x) bW
   obtain⟨n0,n1,n2,n3,_,_⟩:=Ze g9
   have BW:=B3.out.trans (hC.mono B3.out.size)
   have r3:=s3.out
   have l2:=hb2.out.size
   have l3:=B3.out.size
   have hfin:=Za (show Sto (New w.heap.size W9) W9 (.agg #[.slice P s.1.1.length p,.slice Q s.1.2.length r,.slice E3 T.length c3,.slice X s.2.2.length x]) (shV s n) from by
    rw[hV.out]
    exact Sto.mk ((hd.grown gr9 (fun q e=>by cases e;omega)).new l3 (Below.refl _ _)) (Zf.new (Zf.grown (Zf.new T3.out (Nat.le_refl _) hC) gr9 (fun q e=>by cases e;have:=s2.out;omega)) l2 (Below.refl _ _)) (Zf.new (Zf.grown hx gr9 (fun q e=>by cases e;omega)) l3 (Below.refl _ _)))
   have hB9:=Za (BW.grown gr9 BW.size (fun q e=>by cases e;omega))
   clear hd hx gr9 gs9 BW r3 l2 l3
   replace bW:=Za bW
   replace g9:=Za g9
   go_wp2_with fail
   refine bodyPost_ret (v:=.tuple #[.agg #[.slice P s.1.1.length p,.slice Q s.1.2.length r,.slice E3 T.length c3,.slice X s.2.2.length x],.int .i64 0]) (by simp[results,Tryz.results53,go_sem,n0,n1,n2,n3]) rfl ?_
   rw[hq.out]
   exact⟨_,rfl,hfin.out,hB9.out⟩
  ·have hV:=Za (hq0 hqz)
   have hq1:(q != 0)=true:=by simpa using hqz
   clear hq0 hqz hsv
   replace F3:=F3.out
   obtain⟨k0,k1,k2,k3,k4,k5⟩:=Ze F3
   obtain⟨W9,hW9,g9,gr9,gs9⟩:=Zs (a':=.slice none 0 0) (b':=.slice none 0 0) (c':=.slice none 0 0) (d':=.slice none 0 0) F3
   obtain⟨n0,n1,n2,n3,_,_⟩:=Ze g9
   have hB9:=Za ((B3).out.grown gr9 (B3).out.size (fun q e=>by cases e;omega))
   replace g9:=Za g9
   replace F3:=Za F3
   clear gr9 gs9
   go_wp2_with fail
   refine bodyPost_ret (v:=.tuple #[.agg #[.slice none 0 0,.slice none 0 0,.slice none 0 0,.slice none 0 0],.int .i64 q]) (by simp[results,Tryz.results53,go_sem,n0,n1,n2,n3]) rfl ?_
   rw[hV.out,hq.out]
   exact⟨_,rfl,Yk _ _,hB9.out⟩
 ·have hV:=Za (Z4e (s:=s) (n:=n) (by rw[Zu8 ha];exact ha))
  rw[Zu8 ha] at hq
  have hq1:(q != 0)=true:=by rw[← hq];simpa using ha
  have hq2:Hid (asE s n=q):=Za hq
  replace hq:Hid (shE s n=q):=Za (by rw[Zu8 ha];exact hq)
  clear ha
  go_enter Tryz.func53,Tryz.ntmps53
  go_upto_region 1 with fail
  clear hw1
  go_wp2_with fail
  with_reducible refine(Vn _ s n _ H.out).mono ?_
  rintro e w2 ⟨rfl,hb2⟩
  rw[hq2.out]
  have F2:=(hb2.block (w.heap.size+1) (by rw[hsz.out];omega)).trans f2.out
  replace hb2:=Za (hB.trans (hb2.mono hB.size))
  obtain⟨k0,k1,k2,k3,k4,k5⟩:=Ze F2
  obtain⟨W9,hW9,g9,gr9,gs9⟩:=Zs (a':=.slice none 0 0) (b':=.slice none 0 0) (c':=.slice none 0 0) (d':=.slice none 0 0) F2
  obtain⟨n0,n1,n2,n3,_,_⟩:=Ze g9
  have hB9:=Za ((hb2).out.grown gr9 (hb2).out.size (fun q e=>by cases e;omega))
  replace g9:=Za g9
  replace F2:=Za F2
  clear gr9 gs9
  go_wp2_with fail
  refine bodyPost_ret (v:=.tuple #[.agg #[.slice none 0 0,.slice none 0 0,.slice none 0 0,.slice none 0 0],.int .i64 q]) (by simp[results,Tryz.results53,go_sem,n0,n1,n2,n3]) rfl ?_
  rw[hV.out,hq.out]
  exact⟨_,rfl,Yk _ _,hB9.out⟩
noncomputable def rmE (s:Rm) (n:Int):Int:=if asE s n=0 then reN (Z1 s.1 n.toNat) else asE s n
noncomputable def rmV (s:Rm) (n:Int):Nd:=if asE s n=0 then reV (Z1 s.1 n.toNat) else Vk
theorem Zun {s:Rm} {n:Int} (h:asE s n≠0):rmE s n=asE s n∧rmV s n=Vk:=⟨by rw[rmE,if_neg h],by rw[rmV,if_neg h]⟩
theorem Xi {s:Rm} {n:Int} (h:asE s n=0):∃ k:Nat,n=k∧Xq s=true∧8≤k∧k<256∧Vt s.1 n=0∧rdX s.1 n=Z1 s.1 k∧rmE s n=reN (Z1 s.1 k)∧rmV s n=reV (Z1 s.1 k)∧s.2.1[k]?.getD 0≠0:=by
 rcases Ze2 s n with ⟨_,e⟩ | ⟨_,_,e⟩ | ⟨k,_,_,_,_,_,e⟩ | ⟨k,hm,rfl,h8,h256,hx,e⟩
 ·rw[e] at h;cases h
 ·rw[e] at h;cases h
 ·rw[e] at h;cases h
 ·have hmd:=(Yb hm).1
  have ht:=Zdw h256
  exact⟨k,rfl,hm,h8,h256,by simp[Vt,hmd,ht],by simp[rdX,Vt,hmd,ht],by rw[rmE,if_pos h];rfl,by rw[rmV,if_pos h];rfl,hx⟩
theorem Zch (v:Value) (s:Rm) (n:Int) (w:World) (h:Sto (Old w) w v s) :
  Calls Tryz.prog 36 #[v,.int .i64 n] w fun e w'=>∃ u,e=.returned (.tuple #[u,.int .i64 (rmE s n)])∧Zhu w.heap.size w' u (rmV s n)∧Below w.heap.size w w':=by
 obtain⟨A,ca,B,cb,N,cn,L,cl,rfl,_,_,_⟩:=h.open
 obtain⟨w1,hw1,f1,f2,hsz,hB⟩:∃ w1,(w.alloc (.cells #[.slice A s.1.1.length ca,.slice B s.1.2.length cb,.slice N s.2.1.length cn,.slice L s.2.2.length cl] 29)).alloc (.cells #[.int .i64 0,.slice none 0 0] 81)=w1 ∧
   w1.heap[w.heap.size]? = some (.cells #[.slice A s.1.1.length ca,.slice B s.1.2.length cb,.slice N s.2.1.length cn,.slice L s.2.2.length cl] 29 (0,0))∧w1.heap[w.heap.size+1]? = some (.cells #[.int .i64 0,.slice none 0 0] 81 (0,0))∧w1.heap.size=w.heap.size+2∧Below w.heap.size w w1:=by
  refine⟨_,rfl,Y3 (heap_alloc_new _ _),?_,by simp,((Below.refl _ w).alloc (Nat.le_refl _) _).alloc (by simp) _⟩
  have:=heap_alloc_new (w.alloc (.cells #[.slice A s.1.1.length ca,.slice B s.1.2.length cb,.slice N s.2.1.length cn,.slice L s.2.2.length cl] 29)) (.cells #[.int .i64 0,.slice none 0 0] 81)
  rwa [World.size_alloc] at this
 have H:=Za (h.below hB)
 clear h
 obtain⟨k0,k1,k2,k3,_,kg⟩:=Ze f1
 replace hsz:=Za hsz
 replace f2:=Za f2
 obtain⟨q,hq⟩:∃ q,rmE s n=q:=⟨_,rfl⟩
 by_cases ha:asE s n=0
 ·obtain⟨k,rfl,hm,h8,h256,hck,hrd,hE,hV,-⟩:=Xi ha
  obtain⟨b,hb⟩:∃ b,Z1 s.1 k=b:=⟨_,rfl⟩
  rw[hb] at hrd hE hV
  rw[hE] at hq
  replace hE:Hid (rmE s (k:Int)=q):=Za (by rw[hE,hq])
  replace hq:=Za hq
  replace ha:=Za ha
  replace hck:=Za hck
  replace hrd:=Za hrd
  replace hV:=Za hV
  replace hb:=Za hb
  go_enter Tryz.func36,Tryz.ntmps36
  go_upto_region 1 with fail
  clear hw1
  go_wp2_with fail
  with_reducible refine(Vn _ s (k:Int) _ H.out).mono ?_
  rintro e w2 ⟨rfl,hb2⟩
  rw[ha.out]
  have G2:=(hb2.block w.heap.size kg).trans f1
  obtain⟨m0,m1,m2,m3,_,mg⟩:=Ze G2
  have F2:=Za ((hb2.block (w.heap.size+1) (by rw[hsz.out];omega)).trans f2.out)
  have H2:=Za (H.out.below hb2)
  have s2:Hid (w.heap.size+2≤w2.heap.size):=Za (by have:=hb2.size;have:=hsz.out;omega)
  replace hb2:=Za (hB.trans (hb2.mono hB.size))
  clear k0 k1 k2 k3 kg f1 hB G2
  go_wp2_with fail
  with_reducible refine(Zwx _ s.1 (k:Int) _ H2.out.parts.1).mono ?_
  rintro e w3 ⟨u3,rfl,h3,hb3⟩
  rw[hck.out]
  rw[hrd.out] at h3
  obtain⟨R,rc,rfl,_⟩:=id (Zv h3)
  have F3:=Za ((hb3.block (w.heap.size+1) (by have:=s2.out;omega)).trans F2.out)
  have B3:=Za (hb2.out.trans (hb3.mono hb2.out.size))
  have s3:Hid (w.heap.size+2≤w3.heap.size):=Za (by have:=hb3.size;have:=s2.out;omega)
  have H3:=Za (Zf.drop h3)
  clear hb3 h3 m0 m1 m2 m3 mg F2
  go_wp2_with fail
  with_reducible refine(Zmg _ b _ H3.out).mono ?_
  rintro e w4 ⟨u4,rfl,h4,hb4⟩
  rw[hq.out]
  obtain⟨P,pc,rfl,_⟩:=id h4
  have F4:=(hb4.block (w.heap.size+1) (by have:=s3.out;omega)).trans F3.out
  obtain⟨m0,m1,m2,m3⟩:=Zg F4
  obtain⟨W9,hW9,g9,gr9,gs9⟩:=Xk (u:=.int .i64 (reV b).1) (v:=.slice P (reV b).2.length pc) F4
  obtain⟨n0,n1,_,_⟩:=Zg g9
  have r3:=s3.out
  have l3:=B3.out.size
  have hfin:=Za (show Zhu w.heap.size W9 (.agg #[.int .i64 (reV b).1,.slice P (reV b).2.length pc]) (rmV s (k:Int)) from by
   rw[hV.out]
   exact(h4.grown gr9 (fun q e=>by cases e;omega)).new l3 (Below.refl _ _))
  have hB9:=Za ((B3.out.trans (hb4.mono B3.out.size)).grown gr9 (Nat.le_trans l3 hb4.size) (fun q e=>by cases e;omega))
  replace F4:=Za F4
  replace g9:=Za g9
  clear gr9 gs9 h4 hb4 r3 l3
  go_wp2_with fail
  refine bodyPost_ret (v:=.tuple #[.agg #[.int .i64 (reV b).1,.slice P (reV b).2.length pc],.int .i64 q]) (by simp[results,Tryz.results36,go_sem,n0,n1]) rfl ?_
  rw[hE.out]
  exact⟨_,rfl,hfin.out,hB9.out⟩
 ·obtain⟨hE,hV⟩:=Zun ha
  rw[hE] at hq
  have hq1:(q != 0)=true:=by rw[← hq];simpa using ha
  have hq2:Hid (asE s n=q):=Za hq
  replace hq:Hid (rmE s n=q):=Za (by rw[hE];exact hq)
  replace hV:=Za hV
  clear ha hE
  go_enter Tryz.func36,Tryz.ntmps36
  go_upto_region 1 with fail
  clear hw1
  go_wp2_with fail
  with_reducible refine(Vn _ s n _ H.out).mono ?_
  rintro e w2 ⟨rfl,hb2⟩
  rw[hq2.out]
  have F2:=(hb2.block (w.heap.size+1) (by rw[hsz.out];omega)).trans f2.out
  replace hb2:=Za (hB.trans (hb2.mono hB.size))
  obtain⟨m0,m1,m2,m3⟩:=Zg F2
  obtain⟨W9,hW9,g9,gr9,gs9⟩:=Xk (u:=.int .i64 0) (v:=.slice none 0 0) F2
  obtain⟨n0,n1,_,_⟩:=Zg g9
  have hB9:=Za ((hb2).out.grown gr9 (hb2).out.size (fun q e=>by cases e;omega))
  replace g9:=Za g9
  replace F2:=Za F2
  clear gr9 gs9
  go_wp2_with fail
  refine bodyPost_ret (v:=.tuple #[.agg #[.int .i64 0,.slice none 0 0],.int .i64 q]) (by simp[results,Tryz.results36,go_sem,n0,n1]) rfl ?_
  rw[hV.out,hq.out]
  exact⟨_,rfl,Zhu.zero _ _,hB9.out⟩
theorem Zk6 (v:Value) (s:Rm) (n:Int) (w:World) (h:Sto (Old w) w v s) :
  Calls Tryz.prog 36 #[v,.int .i64 n] w fun e w'=>∃ u,e=.returned (.tuple #[u,.int .i64 (rmE s n)])∧Nod (New w.heap.size w') w' u (rmV s n)∧Below w.heap.size w w' :=
 (Zch v s n w h).mono fun _ _ ⟨u,e1,h1,h2⟩=>⟨u,e1,h1.nod,h2⟩
def Za0:Ky:=(0,0,0)
def Y2 (s:Rm) (l:List It):Bool:=l.all fun x=>decide (x.2.1=0)||decide (s.2.1[x.2.1.toNat]?.getD 0≠0)
def Zb1 (f:Int→Ky→Ky→Bool→Bool):List It→Ky→Bool→Bool
 | [],_,_=>true
 | [x],tb,ends=>f x.2.1 x.1 tb ends
 | x::y::r,tb,ends=>f x.2.1 x.1 y.1 true&&Zb1 f (y::r) tb ends
def Zfq (l:List It) (k tb:Ky) (ends:Bool):Bool:=(match l[0]? with | none=>false | some x=>decide (x.1=k))&&(!ends||(match l.getLast? with | none=>false | some y=>Zp y.1 tb))
noncomputable def Yt (s:Rm):Nat→Int→Ky→Ky→Bool→Bool
 | 0,a,k,tb,ends=>(decide (rmE s a=0)&&decide ((rmV s a).1=0))&&(Zfq (rmV s a).2 k tb ends&&Y2 s (rmV s a).2)
 | l+1,a,k,tb,ends=>(decide (rmE s a=0)&&decide ((rmV s a).1=((l+1:Nat):Int)))&&(Zfq (rmV s a).2 k tb ends&&Zb1 (Yt s l) (rmV s a).2 tb ends)
noncomputable def Zfg (s:Rm) (n:Nd) (tb:Ky) (ends:Bool):Bool:=match n.1.toNat with
 | 0=>Y2 s n.2
 | l+1=>Zb1 (Yt s l) n.2 tb ends
noncomputable def X2 (s:Rm) (a:Int):Bool:=decide (rmE s a=0)&&Zfg s (rmV s a) Za0 false
noncomputable def ckE (s:Rm) (a:Int):Int:=if asE s a=0 then (if X2 s a then 0 else 8) else asE s a
noncomputable def ckH (s:Rm) (a:Int):Int:=if ckE s a=0 then (rmV s a).1+1 else 0
noncomputable def Za7 (s:Rm):Nat→Int→List It
 | 0,a=>(rmV s a).2
 | l+1,a=>(rmV s a).2.flatMap fun x=>Za7 s l x.2.1
noncomputable def Zdl (s:Rm):Nat→Int→Ky→Option It
 | 0,a,k=>(rmV s a).2.reverse.find? fun x=>decide (x.1=k)
 | l+1,a,k=>((rmV s a).2.reverse.find? fun x => !Zp k x.1).bind fun x=>Zdl s l x.2.1 k
noncomputable def Zpx (s:Rm) (a:Int):List It:=Za7 s (rmV s a).1.toNat a
noncomputable def Zm3 (s:Rm) (a:Int) (k:Ky):Option It:=Zdl s (rmV s a).1.toNat a k
def Up (l:List It):Prop:=l.Pairwise fun x y=>Zp x.1 y.1=true
theorem Ys {s:Rm} {a:Int} (h:rmE s a=0):mayN (rmV s a)=true∧asE s a=0:=by
 by_cases ha:asE s a=0
 ·obtain⟨k,_,_,_,_,_,_,hE,hV,_⟩:=Xi ha
  rw[hE] at h
  rw[hV]
  exact⟨(Zee h).1,ha⟩
 ·rw[(Zun ha).1] at h
  exact absurd h ha
theorem Za2 {n:Nd} (h:mayN n=true):Up n.2:=by
 rw[Up,List.pairwise_iff_getElem]
 intro i j hi hj hij
 exact Uy h hij (List.getElem?_eq_getElem hi) (List.getElem?_eq_getElem hj)
theorem Zka {x:It} {l:List It} (h:Up (x::l)):∀ y∈x::l,y.1=x.1∨Zp x.1 y.1=true:=fun y hy=>by
 rcases List.mem_cons.1 hy with rfl | hy
 ·exact .inl rfl
 ·exact .inr ((List.pairwise_cons.1 h).1 y hy)
theorem Zsz {l:List It} {z:It} {tb:Ky} (h:Up l) (hl:l.getLast? = some z) (hz:Zp z.1 tb=true):∀ y∈l,Zp y.1 tb=true:=fun y hy=>by
 obtain⟨r,rfl⟩:=List.getLast?_eq_some_iff.1 hl
 rcases List.mem_append.1 hy with hy | hy
 ·exact Y1 ((List.pairwise_append.1 h).2.2 y hy z (by simp)) hz
 ·rw[List.mem_singleton.1 hy]
  exact hz
theorem Zcm {l:List It} {k tb:Ky} {ends:Bool} (h:Zfq l k tb ends=true):∃ x r,l=x::r∧x.1=k∧(ends=true→∃ z,l.getLast? = some z∧Zp z.1 tb=true):=by
 unfold Zfq at h
 rw[Bool.and_eq_true] at h
 obtain⟨h1,h2⟩:=h
 cases l with
 | nil=>simp at h1
 | cons x r =>
  refine⟨x,r,rfl,by simpa using h1,fun he => ?_⟩
  rw[he] at h2
  cases hz:(x::r).getLast? with
  | none=>rw[hz] at h2;simp at h2
  | some z=>rw[hz] at h2;exact⟨z,rfl,by simpa using h2⟩
structure Z23 (M:List It) (k tb:Ky) (ends:Bool) (N:Nat):Prop where
 first:∃ x r,M=x::r∧x.1=k
 up:Up M
 bound:ends=true→∀ y∈M,Zp y.1 tb=true
 few:M.length≤N
theorem Z23.ge {M:List It} {k tb:Ky} {ends:Bool} {N:Nat} (h:Z23 M k tb ends N):∀ y∈M,y.1=k∨Zp k y.1=true:=by
 obtain⟨x,r,rfl,rfl⟩:=h.first
 exact Zka h.up
theorem Zbu {f:Int→Ky→Ky→Bool→Bool} {g:Int→List It} {N:Nat} (hf:∀ a k tb ends,f a k tb ends=true→Z23 (g a) k tb ends N):∀ (L:List It) (tb:Ky) (ends:Bool),L≠[]→Zb1 f L tb ends=true →
  ∃ x r,L=x::r∧Z23 (L.flatMap fun x=>g x.2.1) x.1 tb ends (N*L.length)
 | [],_,_,h,_=>absurd rfl h
 | [x],tb,ends,_,h=>by
  refine⟨x,[],rfl,?_⟩
  have:=hf _ _ _ _ h
  simpa using this
 | x::y::r,tb,ends,_,h=>by
  refine⟨x,y::r,rfl,?_⟩
  unfold Zb1 at h
  rw[Bool.and_eq_true] at h
  have hx:=hf _ _ _ _ h.1
  obtain⟨y',r',e,hy⟩:=Zbu hf (y::r) tb ends (by simp) h.2
  cases e
  have e2:(x::y::r).flatMap (fun x=>g x.2.1)=g x.2.1++(y::r).flatMap fun x=>g x.2.1:=List.flatMap_cons
  rw[e2]
  have hb:=hx.bound rfl
  have hlt:∀ p∈g x.2.1,∀ q∈(y::r).flatMap (fun x=>g x.2.1),Zp p.1 q.1=true:=fun p hp q hq=>by
   rcases hy.ge q hq with e | e
   ·rw[e];exact hb p hp
   ·exact Y1 (hb p hp) e
  refine⟨?_,?_,fun he p hp => ?_,?_⟩
  ·obtain⟨z,q,ez,kz⟩:=hx.first
   exact⟨z,_,by rw[ez];rfl,kz⟩
  ·exact List.pairwise_append.2 ⟨hx.up,hy.up,hlt⟩
  ·rcases List.mem_append.1 hp with hp | hp
   ·obtain⟨z,q,ez,kz⟩:=hy.first
    have hz:=hlt p hp z (by rw[ez];simp)
    exact Y1 hz (hy.bound he z (by rw[ez];simp))
   ·exact hy.bound he p hp
  ·have h1:=hx.few
   have h2:=hy.few
   rw[List.length_append]
   have e3:N*(x::y::r).length=N+N*(y::r).length:=by rw[List.length_cons,Nat.mul_succ,Nat.add_comm]
   omega
theorem Xv {s:Rm} {l:Nat} {a:Int} {k tb:Ky} {ends:Bool} (h:Yt s l a k tb ends=true):rmE s a=0∧(rmV s a).1=l∧Zfq (rmV s a).2 k tb ends=true∧(match l with | 0=>Y2 s (rmV s a).2 | l'+1=>Zb1 (Yt s l') (rmV s a).2 tb ends)=true:=by
 cases l with
 | zero =>
  simp only[Yt,Bool.and_eq_true,decide_eq_true_eq] at h
  exact⟨h.1.1,h.1.2,h.2.1,h.2.2⟩
 | succ l =>
  simp only[Yt,Bool.and_eq_true,decide_eq_true_eq] at h
  exact⟨h.1.1,h.1.2,h.2.1,h.2.2⟩
theorem Y5 (s:Rm):∀ (l:Nat) (a:Int) (k tb:Ky) (ends:Bool),Yt s l a k tb ends=true→Z23 (Za7 s l a) k tb ends (5 ^ (l+1))
 | 0,a,k,tb,ends,h=>by
  obtain⟨h1,h2,h3,h4⟩:=Xv h
  obtain⟨hm,_⟩:=Ys h1
  obtain⟨x,r,e,ek,hz⟩:=Zcm h3
  refine⟨⟨x,r,e,ek⟩,Za2 hm,fun he => ?_,?_⟩
  ·obtain⟨z,e1,e2⟩:=hz he
   exact Zsz (Za2 hm) e1 e2
  ·exact(Z2 hm).1.2.2.1
 | l+1,a,k,tb,ends,h=>by
  obtain⟨h1,h2,h3,h4⟩:=Xv h
  obtain⟨hm,_⟩:=Ys h1
  obtain⟨x,r,e,ek,hz⟩:=Zcm h3
  obtain⟨x',r',e',hp⟩:=Zbu (Y5 s l) (rmV s a).2 tb ends (by rw[e];simp) h4
  rw[e] at e'
  cases e'
  rw[ek] at hp
  refine⟨hp.first,hp.up,hp.bound,Nat.le_trans hp.few ?_⟩
  have h5:=(Z2 hm).1.2.2.1
  rw[Nat.pow_succ 5 (l+1)]
  exact Nat.mul_le_mul_left _ h5
theorem Zpp {p:It→Bool} (x:It) (l:List It):(x::l).reverse.find? p=match l.reverse.find? p with | some y=>some y | none=>if p x then some x else none:=by
 rw[List.reverse_cons,List.find?_append]
 cases l.reverse.find? p with
 | some y=>rfl
 | none =>
  simp only[Option.none_or,List.find?_cons,List.find?_nil]
  cases p x <;> rfl
theorem Zck {p:It→Bool} {l:List It} (h:∀ x∈l,p x=false):l.reverse.find? p=none:=by
 rw[List.find?_eq_none]
 intro x hx
 rw[h x (List.mem_reverse.1 hx)]
 simp
theorem Zjz {f:Int→Ky→Ky→Bool→Bool} {g:Int→List It} {N:Nat} (hf:∀ a k tb ends,f a k tb ends=true→Z23 (g a) k tb ends N):∀ (L:List It) (tb:Ky) (ends:Bool),Up L→Zb1 f L tb ends=true→∀ x∈L.flatMap (fun x=>g x.2.1),
  ∃ y∈L,x∈g y.2.1∧(L.reverse.find? fun z => !Zp x.1 z.1)=some y∧∃ t e,f y.2.1 y.1 t e=true
 | [],_,_,_,_,x,hx=>by simp at hx
 | [y],tb,ends,_,h,x,hx=>by
  have hx':x∈g y.2.1:=by simpa using hx
  refine⟨y,by simp,hx',?_,tb,ends,h⟩
  have hp:=hf _ _ _ _ h
  have:Zp x.1 y.1=false:=by
   rcases hp.ge x hx' with e | e
   ·rw[e];exact Xz _
   ·exact U9 e
  simp[this]
 | y::z::r,tb,ends,hu,h,x,hx=>by
  unfold Zb1 at h
  rw[Bool.and_eq_true] at h
  have hy:=hf _ _ _ _ h.1
  have e2:(y::z::r).flatMap (fun x=>g x.2.1)=g y.2.1++(z::r).flatMap fun x=>g x.2.1:=List.flatMap_cons
  rw[e2] at hx
  rw[Zpp]
  rcases List.mem_append.1 hx with hx | hx
  ·have hb:=hy.bound rfl x hx
   have hge:Zp x.1 y.1=false:=by
    rcases hy.ge x hx with e | e
    ·rw[e];exact Xz _
    ·exact U9 e
   have hno:(z::r).reverse.find? (fun w => !Zp x.1 w.1)=none:=Zck fun w hw=>by
    rcases Zka (List.pairwise_cons.1 hu).2 w hw with e | e
    ·rw[e,hb];rfl
    ·rw[Y1 hb e];rfl
   refine⟨y,by simp,hx,?_,_,_,h.1⟩
   rw[hno]
   simp[hge]
  ·obtain⟨w,hw,h1,h2,h3⟩:=Zjz hf (z::r) tb ends (List.pairwise_cons.1 hu).2 h.2 x hx
   exact⟨w,List.mem_cons_of_mem _ hw,h1,by rw[h2],h3⟩
theorem Zh9 {l:List It} (hu:Up l) {x:It} (hx:x∈l):(l.reverse.find? fun y=>decide (y.1=x.1))=some x:=by
 induction l with
 | nil=>simp at hx
 | cons y r ih =>
  rw[Zpp]
  rcases List.mem_cons.1 hx with rfl | hx
  ·have hno:r.reverse.find? (fun y=>decide (y.1=x.1))=none:=Zck fun z hz=>by
    have h1:=(List.pairwise_cons.1 hu).1 z hz
    have:z.1≠x.1:=fun e=>by rw[e,Xz] at h1;cases h1
    simpa using this
   rw[hno]
   simp
  ·rw[ih (List.pairwise_cons.1 hu).2 hx]
theorem Zha (s:Rm):∀ (l:Nat) (a:Int) (k tb:Ky) (ends:Bool),Yt s l a k tb ends=true→∀ x∈Za7 s l a,Zdl s l a x.1=some x
 | 0,a,k,tb,ends,h,x,hx=>Zh9 (Za2 (Ys (Xv h).1).1) hx
 | l+1,a,k,tb,ends,h,x,hx=>by
  obtain⟨h1,h2,h3,h4⟩:=Xv h
  obtain⟨y,hy,h5,h6,t,e,h7⟩:=Zjz (Y5 s l) (rmV s a).2 tb ends (Za2 (Ys h1).1) h4 x hx
  unfold Zdl
  rw[h6]
  exact Zha s l y.2.1 y.1 t e h7 x h5
theorem Uh {s:Rm} {a:Int} (h:X2 s a=true):rmE s a=0∧asE s a=0∧mayN (rmV s a)=true∧0≤(rmV s a).1∧(rmV s a).1<6∧Zfg s (rmV s a) Za0 false=true:=by
 simp only[X2,Bool.and_eq_true,decide_eq_true_eq] at h
 obtain⟨hm,ha⟩:=Ys h.1
 exact⟨h.1,ha,hm,(Z2 hm).1.1,(Z2 hm).1.2.1,h.2⟩
theorem Zzh {s:Rm} {a:Int} (h:X2 s a=true):Up (Zpx s a)∧(Zpx s a).length≤15625∧(∀ x∈Zpx s a,Zm3 s a x.1=some x):=by
 obtain⟨h1,_,hm,l0,l6,hi⟩:=Uh h
 unfold Zpx Zm3
 unfold Zfg at hi
 have hl:(rmV s a).1.toNat≤5:=by omega
 generalize hl0:(rmV s a).1.toNat=l at hi hl ⊢
 cases l with
 | zero =>
  refine⟨Za2 hm,Nat.le_trans (Z2 hm).1.2.2.1 (by decide),fun x hx=>Zh9 (Za2 hm) hx⟩
 | succ l =>
  have hne:(rmV s a).2≠[]:=fun e=>by
   have:=(Z2 hm).1.2.2.2 (by omega)
   rw[e] at this
   simp at this
  obtain⟨x,r,e,hp⟩:=Zbu (Y5 s l) (rmV s a).2 Za0 false hne hi
  refine⟨hp.up,Nat.le_trans hp.few ?_,fun x hx => ?_⟩
  ·have h5:=(Z2 hm).1.2.2.1
   have hpw:5 ^ (l+1)≤5 ^ 5:=Nat.pow_le_pow_right (by decide) (by omega)
   have:=Nat.mul_le_mul hpw h5
   omega
  ·obtain⟨y,hy,h5,h6,t,e,h7⟩:=Zjz (Y5 s l) (rmV s a).2 Za0 false (Za2 hm) hi x hx
   unfold Zdl
   rw[h6]
   exact Zha s l y.2.1 y.1 t e h7 x h5
theorem Zmd {s:Rm} {l:List It} {i:Nat} {x:It} (hx:l[i]? = some x):Y2 s (l.take (i+1))=(Y2 s (l.take i)&&(decide (x.2.1=0)||decide (s.2.1[x.2.1.toNat]?.getD 0≠0))):=by
 have hk:=(List.getElem?_eq_some_iff.1 hx).1
 have hg:l[i]=x:=(List.getElem?_eq_some_iff.1 hx).2
 rw[← List.take_append_getElem hk,hg]
 simp[Y2]
theorem Zzc {s:Rm} {l:List It} {i:Nat} (h:Y2 s (l.take i)=false):Y2 s l=false:=by
 cases e:Y2 s l with
 | false=>rfl
 | true =>
  unfold Y2 at e h
  rw[List.all_eq_true] at e
  rw[← h]
  symm
  rw[List.all_eq_true]
  exact fun x hx=>e x (List.mem_of_mem_take hx)
def nxO (r:List It) (tb:Ky):Ky:=match r with | []=>tb | y::_=>y.1
def bxO (r:List It) (ends:Bool):Bool:=match r with | []=>ends | _::_=>true
theorem Zao (f:Int→Ky→Ky→Bool→Bool) (x:It) (r:List It) (tb:Ky) (ends:Bool):Zb1 f (x::r) tb ends=(f x.2.1 x.1 (nxO r tb) (bxO r ends)&&Zb1 f r tb ends):=by
 cases r with
 | nil=>simp[Zb1,nxO,bxO]
 | cons y r=>rfl
def Xp:List It→Nat→Nat
 | [],_=>0
 | x::l,i=>(if x.2.1=(i:Int) then (if x.2.1=0 then 0 else 1) else 0)+Xp l i
def Zc4 (l:List It):Prop:=∀ x∈l,x.2.1=0∨(8≤x.2.1∧x.2.1<256)
theorem Zd6 {x:It} {l:List It} (h:Zc4 (x::l)):(x.2.1=0∨∃ k:Nat,x.2.1=k∧8≤k∧k<256)∧Zc4 l:=by
 refine⟨?_,fun y hy=>h y (List.mem_cons_of_mem _ hy)⟩
 rcases h x List.mem_cons_self with h1 | ⟨h1,h2⟩
 ·exact .inl h1
 ·exact .inr ⟨x.2.1.toNat,by omega,by omega,by omega⟩
theorem V8 {n:Nd} (h:mayN n=true):Zc4 n.2:=fun x hx=>by
 obtain⟨i,hi⟩:=List.getElem?_of_mem hx
 have hk:=(List.getElem?_eq_some_iff.1 hi).1
 simp only[mayN,Bool.and_eq_true,List.all_eq_true] at h
 have h1:=h.2 i (by simpa using hk)
 simp only[Zhr,hi,okP,Bool.and_eq_true] at h1
 exact(Zae h1.1.1).1
theorem Zb8 {x:It} {l:List It} (h:x.2.1=0) (i:Nat):Xp (x::l) i=Xp l i:=by
 simp only[Xp,h,if_true]
 split <;> simp
theorem Zab {x:It} {l:List It} {k:Nat} (h:x.2.1=k) (h8:8≤k) (i:Nat):Xp (x::l) i=(if i=k then 1 else 0)+Xp l i:=by
 simp only[Xp,h]
 by_cases e:i=k
 ·subst e
  rw[if_pos rfl,if_neg (by omega),if_pos rfl]
 ·rw[if_neg (by omega),if_neg e]
theorem Zxm {l:List It} (h:Zc4 l) {i:Nat} (hi:i<8∨256≤i):Xp l i=0:=by
 induction l with
 | nil=>rfl
 | cons x l ih =>
  obtain⟨h1,h2⟩:=Zd6 h
  rcases h1 with h1 | ⟨k,h1,h8,h256⟩
  ·rw[Zb8 h1,ih h2]
  ·rw[Zab h1 h8,ih h2,if_neg (by omega)]
def ctE:List UInt8→List It→Int
 | _,[]=>0
 | t,x::l=>if x.2.1=0 then ctE t l else if t[x.2.1.toNat]?.getD 0=0 then 6 else if t[x.2.1.toNat]?.getD 0=255 then 70 else ctE (t.set x.2.1.toNat (t[x.2.1.toNat]?.getD 0+1)) l
def ctV:List UInt8→List It→List UInt8
 | t,[]=>t
 | t,x::l=>if x.2.1=0 then ctV t l else ctV (t.set x.2.1.toNat (t[x.2.1.toNat]?.getD 0+1)) l
theorem Zdk:∀ (l:List It) (t:List UInt8),(ctV t l).length=t.length
 | [],_=>rfl
 | x::l,t=>by
  unfold ctV
  split
  ·exact Zdk l t
  ·rw[Zdk l,List.length_set]
theorem Zjq:∀ (a b:List It) (t:List UInt8),ctE t (a++b)=if ctE t a=0 then ctE (ctV t a) b else ctE t a
 | [],b,t=>by simp[ctE,ctV]
 | x::a,b,t=>by
  simp only[List.cons_append,ctE,ctV]
  split
  ·exact Zjq a b t
  ·split
   ·simp
   ·split
    ·simp
    ·exact Zjq a b _
theorem Zoq:∀ (a b:List It) (t:List UInt8),ctV t (a++b)=ctV (ctV t a) b
 | [],b,t=>rfl
 | x::a,b,t=>by
  simp only[List.cons_append,ctV]
  split
  ·exact Zoq a b t
  ·exact Zoq a b _
theorem Zzn {x:UInt8} (h:x≠255):(x+1).toNat=x.toNat+1:=by
 have:=(Zhi h).1
 omega
theorem Zgx {x:UInt8} (h:x≠0):(x-1).toNat+1=x.toNat:=by
 have h1:=(Zhi (x:=x-1) (Zq9 h)).1
 rw[Zvc.2] at h1
 omega
theorem Vb {x:UInt8}:x.toNat=0↔x=0:=⟨fun h=>UInt8.toNat_inj.1 (by rw[h];rfl),fun h=>by rw[h];rfl⟩
theorem Zb9:∀ (l:List It) (t:List UInt8),Zc4 l→t.length=256→ctE t l=0 →
  (∀ i,((ctV t l)[i]?.getD 0).toNat=(t[i]?.getD 0).toNat+Xp l i)∧(∀ i,Xp l i≠0→t[i]?.getD 0≠0)
 | [],t,_,_,_=>⟨fun i=>by simp[ctV,Xp],fun i h=>absurd rfl h⟩
 | x::l,t,hr,hl,h=>by
  obtain⟨h1,h2⟩:=Zd6 hr
  unfold ctE at h
  unfold ctV
  rcases h1 with h1 | ⟨k,h1,h8,h256⟩
  ·rw[if_pos h1] at h ⊢
   obtain⟨c1,c2⟩:=Zb9 l t h2 hl h
   exact⟨fun i=>by rw[c1 i,Zb8 h1],fun i hi=>c2 i (by rwa [Zb8 h1] at hi)⟩
  ·have e0:¬ x.2.1=0:=by omega
   have ek:x.2.1.toNat=k:=by omega
   rw[if_neg e0,ek] at h
   rw[if_neg e0,ek]
   by_cases hz:t[k]?.getD 0=0
   ·rw[if_pos hz] at h;cases h
   ·by_cases hm:t[k]?.getD 0=255
    ·rw[if_neg hz,if_pos hm] at h;cases h
    ·rw[if_neg hz,if_neg hm] at h
     obtain⟨c1,c2⟩:=Zb9 l (t.set k (t[k]?.getD 0+1)) h2 (by rw[List.length_set,hl]) h
     refine⟨fun i => ?_,fun i hi => ?_⟩
     ·rw[c1 i,Zab h1 h8]
      by_cases e:i=k
      ·subst e
       rw[Zcf (by omega),Zzn hm,if_pos rfl]
       omega
      ·rw[Ue e,if_neg e]
       omega
     ·by_cases e:i=k
      ·subst e;exact hz
      ·rw[Zab h1 h8,if_neg e,Nat.zero_add] at hi
       have:=c2 i hi
       rwa [Ue e] at this
theorem Zu7 {a b:List UInt8} (hl:a.length=b.length) (h:∀ i:Nat,(a[i]?.getD 0).toNat=(b[i]?.getD 0).toNat):a=b:=by
 refine List.ext_getElem hl fun i h1 h2 => ?_
 have:=UInt8.toNat_inj.1 (h i)
 rwa [List.getElem?_eq_getElem h1,List.getElem?_eq_getElem h2] at this
theorem Z4g {t:List UInt8} {l:List It} (hm:Zam t=true) (hr:Zc4 l) (h:ctE t l=0):Zam (ctV t l)=true:=by
 have hl:=Yn hm
 obtain⟨c1,_⟩:=Zb9 l t hr hl h
 refine Zga (by rw[Zdk,hl]) fun j hj=>Vb.1 ?_
 rw[c1 j,Zxm hr (.inl hj),Zkc hm hj]
 rfl
theorem Zsu {t:List UInt8} {l:List It} (hl:t.length=256) (hr:Zc4 l) (h:ctE t l=0) (i:Nat):(ctV t l)[i]?.getD 0=0↔t[i]?.getD 0=0:=by
 obtain⟨c1,c2⟩:=Zb9 l t hr hl h
 rw[← Vb,c1 i,← Vb (x:=t[i]?.getD 0)]
 refine⟨fun h=>by omega,fun h => ?_⟩
 by_cases e:Xp l i=0
 ·omega
 ·exact absurd (Vb.1 h) (c2 i e)
def ctS (s:Rm) (n:Nd):Rm:=(s.1,ctV s.2.1 n.2,s.2.2)
def mkE (s:Rm) (n:Nd):Int:=if Xq s&&mayN n then (if ctE s.2.1 n.2=0 then tkE (ctS s n) (Xs n) else ctE s.2.1 n.2) else 8
def mkN (s:Rm) (n:Nd):Int:=if mkE s n=0 then tkN (ctS s n) (Xs n) else 0
def mkV (s:Rm) (n:Nd):Rm:=if mkE s n=0 then tkV (ctS s n) (Xs n) else Zh
theorem Zvf {s:Rm} {n:Nd} (h:mkE s n≠0):mkN s n=0∧mkV s n=Zh:=⟨by rw[mkN,if_neg h],by rw[mkV,if_neg h]⟩
theorem Z20 {s:Rm} {n:Nd} (hm:Xq s=true) (hn:mayN n=true) (h:ctE s.2.1 n.2=0):Xq (ctS s n)=true:=by
 obtain⟨m1,m2,m3⟩:=Yb hm
 exact Uj m1 (Z4g m2 (V8 hn) h) m3
theorem Zxr {s:Rm} {n:Nd} (hm:Xq s=true) (hn:mayN n=true) (h:ctE s.2.1 n.2=0):Xl (ctS s n)=Xl s:=by
 unfold Xl Zax
 refine List.filter_congr fun i _ => ?_
 have:=Zsu (Yn (Yb hm).2.1) (V8 hn) h i
 show (decide ((ctV s.2.1 n.2)[i]?.getD 0=0)&&_)=(decide (s.2.1[i]?.getD 0=0)&&_)
 rw[decide_eq_decide.2 this]
 rfl
theorem Zq6 {s:Rm} {n:Nd} (h:mkE s n=0):Xq s=true∧mayN n=true∧ctE s.2.1 n.2=0∧tkE (ctS s n) (Xs n)=0∧mkN s n=tkN (ctS s n) (Xs n)∧mkV s n=tkV (ctS s n) (Xs n):=by
 have hN:mkN s n=tkN (ctS s n) (Xs n):=by rw[mkN,if_pos h]
 have hV:mkV s n=tkV (ctS s n) (Xs n):=by rw[mkV,if_pos h]
 unfold mkE at h
 cases hm:Xq s with
 | false=>rw[hm] at h;simp at h
 | true =>
  cases hn:mayN n with
  | false=>rw[hm,hn] at h;simp at h
  | true =>
   rw[hm,hn] at h
   simp only[Bool.and_self,if_true] at h
   by_cases hc:ctE s.2.1 n.2=0
   ·rw[if_pos hc] at h
    exact⟨rfl,rfl,hc,h,hN,hV⟩
   ·rw[if_neg hc] at h
    exact absurd h hc
theorem X6 {s:Rm} {n:Nd} (h:mkE s n=0):∃ k:Nat,mkN s n=k∧8≤k∧k<256∧s.2.1[k]?.getD 0=0∧s.2.2[k]?.getD 0=0∧Xp n.2 k=0∧mkV s n=(wrD s.1 k (Xs n),(ctV s.2.1 n.2).set k 1,s.2.2)∧Xq (mkV s n)=true ∧
  (mkV s n).2.1[k]?.getD 0=1∧(∀ i,i≠k→((mkV s n).2.1[i]?.getD 0).toNat=(s.2.1[i]?.getD 0).toNat+Xp n.2 i)∧(∀ i,Xp n.2 i≠0→s.2.1[i]?.getD 0≠0)∧(mkV s n).2.1.length=256∧s.2.1.length=256:=by
 obtain⟨hm,hn,hc,ht,e1,e2⟩:=Zq6 h
 obtain⟨_,_,_,_,h8,h256,hz,hz2,hN,hV⟩:=Zwa ht
 have hl:=Yn (Yb hm).2.1
 have hr:=V8 hn
 obtain⟨c1,c2⟩:=Zb9 n.2 s.2.1 hr hl hc
 generalize tkK (ctS s n)=k at *
 have z1:s.2.1[k]?.getD 0=0:=(Zsu hl hr hc k).1 hz
 have z2:Xp n.2 k=0:=by
  by_cases e:Xp n.2 k=0
  ·exact e
  ·exact absurd z1 (c2 k e)
 have hV':mkV s n=(wrD s.1 k (Xs n),(ctV s.2.1 n.2).set k 1,s.2.2):=by rw[e2,hV];rfl
 refine⟨k,by rw[e1,hN],h8,h256,z1,hz2,z2,hV',by rw[e2];exact Z3q ht,?_,fun i hi => ?_,c2,?_,hl⟩
 ·rw[hV'];exact Zcf (by rw[Zdk];omega)
 ·rw[hV']
  show (((ctV s.2.1 n.2).set k 1)[i]?.getD 0).toNat=_
  rw[Ue hi]
  exact c1 i
 ·rw[hV']
  show ((ctV s.2.1 n.2).set k 1).length=_
  rw[List.length_set,Zdk,hl]
def dnO (t:List UInt8) (a:Nat):Option (List UInt8):=if t[a]?.getD 0=0 then none else some (t.set a (t[a]?.getD 0-1))
def Vj (f:List UInt8→Nat→Option (List UInt8)):List UInt8→List It→Option (List UInt8)
 | t,[]=>some t
 | t,x::l=>if x.2.1=0 then Vj f t l else (f t x.2.1.toNat).bind fun t'=>Vj f t' l
noncomputable def lvS (d:Dk) (l:Nat) (f:List UInt8→Nat→Option (List UInt8)) (t:List UInt8) (a:Nat):Option (List UInt8) :=
 (dnO t a).bind fun t'=>if 1<(t[a]?.getD 0).toNat then some t' else if reN (Z1 d a)=0∧(reV (Z1 d a)).1=(l:Int) then Vj f t' (reV (Z1 d a)).2 else none
noncomputable def lvF (d:Dk):Nat→List UInt8→Nat→Option (List UInt8)
 | 0=>dnO
 | l+1=>lvS d l (lvF d l)
noncomputable def lfO (d:Dk) (t:List UInt8) (a:Nat):Option (List UInt8) :=
 (dnO t a).bind fun t'=>if 1<(t[a]?.getD 0).toNat then some t' else if reN (Z1 d a)=0 then Vj (lvF d (reV (Z1 d a)).1.toNat) t' (reV (Z1 d a)).2 else none
noncomputable def lvE (s:Rm) (n:Int):Int:=if asE s n=0 then (match lfO s.1 s.2.1 n.toNat with | some _=>0 | none=>8) else asE s n
noncomputable def lvV (s:Rm) (n:Int):Rm:=if asE s n=0 then (match lfO s.1 s.2.1 n.toNat with | some t=>(s.1,t,s.2.2) | none=>Zh) else Zh
def loV (s:Rm) (n:Int):Rm:=if asE s n=0 then (s.1,s.2.1.set n.toNat (s.2.1[n.toNat]?.getD 0-1),s.2.2) else Zh
structure LeT (u t:List UInt8):Prop where
 len:u.length=t.length
 le:∀ i:Nat,(u[i]?.getD 0).toNat≤(t[i]?.getD 0).toNat
theorem LeT.refl (t:List UInt8):LeT t t:=⟨rfl,fun _=>Nat.le_refl _⟩
theorem LeT.trans {a b c:List UInt8} (h:LeT a b) (h':LeT b c):LeT a c:=⟨h.len.trans h'.len,fun i=>Nat.le_trans (h.le i) (h'.le i)⟩
theorem Zcr {t u:List UInt8} {a:Nat} (h:dnO t a=some u):t[a]?.getD 0≠0∧u=t.set a (t[a]?.getD 0-1)∧LeT u t∧(u[a]?.getD 0).toNat+1=(t[a]?.getD 0).toNat:=by
 unfold dnO at h
 by_cases hz:t[a]?.getD 0=0
 ·rw[if_pos hz] at h;cases h
 ·rw[if_neg hz] at h
  cases h
  have ha:a<t.length:=by
   by_cases e:a<t.length
   ·exact e
   ·exact absurd (by rw[List.getElem?_eq_none (by omega)];rfl) hz
  refine⟨hz,rfl,⟨List.length_set,fun i => ?_⟩,?_⟩
  ·by_cases e:i=a
   ·subst e
    rw[Zcf ha]
    have:=Zgx hz
    omega
   ·rw[Ue e]
    exact Nat.le_refl _
  ·rw[Zcf ha]
   exact Zgx hz
theorem Zi3 {f:List UInt8→Nat→Option (List UInt8)} (hf:∀ t a u,f t a=some u→LeT u t):∀ (l:List It) (t u:List UInt8),Vj f t l=some u→LeT u t
 | [],t,u,h=>by cases h;exact LeT.refl _
 | x::l,t,u,h=>by
  unfold Vj at h
  split at h
  ·exact Zi3 hf l t u h
  ·cases hx:f t x.2.1.toNat with
   | none=>rw[hx] at h;cases h
   | some v =>
    rw[hx] at h
    exact(Zi3 hf l v u h).trans (hf _ _ _ hx)
theorem Z3w {d:Dk} {l:Nat} {f:List UInt8→Nat→Option (List UInt8)} (hf:∀ t a u,f t a=some u→LeT u t) (t:List UInt8) (a:Nat) (u:List UInt8) (h:lvS d l f t a=some u):LeT u t:=by
 unfold lvS at h
 cases hd:dnO t a with
 | none=>rw[hd] at h;cases h
 | some v =>
  rw[hd] at h
  have h':(if 1<(t[a]?.getD 0).toNat then some v else if reN (Z1 d a)=0∧(reV (Z1 d a)).1=(l:Int) then Vj f v (reV (Z1 d a)).2 else none)=some u:=h
  have hv:=(Zcr hd).2.2.1
  split at h'
  ·cases h';exact hv
  ·split at h'
   ·exact(Zi3 hf _ _ _ h').trans hv
   ·cases h'
theorem Zv2 (d:Dk):∀ (l:Nat) (t:List UInt8) (a:Nat) (u:List UInt8),lvF d l t a=some u→LeT u t
 | 0,_,_,_,h=>(Zcr h).2.2.1
 | l+1,t,a,u,h=>Z3w (Zv2 d l) t a u h
theorem Zti {d:Dk} {t u:List UInt8} {a:Nat} (h:lfO d t a=some u):t[a]?.getD 0≠0∧LeT u t∧(u[a]?.getD 0).toNat+1≤(t[a]?.getD 0).toNat∧(1<(t[a]?.getD 0).toNat→u=t.set a (t[a]?.getD 0-1)):=by
 unfold lfO at h
 cases hd:dnO t a with
 | none=>rw[hd] at h;cases h
 | some v =>
  rw[hd] at h
  have h':(if 1<(t[a]?.getD 0).toNat then some v else if reN (Z1 d a)=0 then Vj (lvF d (reV (Z1 d a)).1.toNat) v (reV (Z1 d a)).2 else none)=some u:=h
  obtain⟨h1,h2,hv,h3⟩:=Zcr hd
  split at h'
  ·cases h'
   exact⟨h1,hv,by omega,fun _=>h2⟩
  ·rename_i hn
   split at h'
   ·have:=Zi3 (Zv2 d _) _ _ _ h'
    have h4:=this.le a
    exact⟨h1,this.trans hv,by omega,fun hc=>absurd hc hn⟩
   ·cases h'
theorem LeT.may {u t:List UInt8} (h:LeT u t) (hm:Zam t=true):Zam u=true :=
 Zga (by rw[h.len];exact Yn hm) fun j hj=>by
  have h1:=h.le j
  rw[Zkc hm hj] at h1
  exact Vb.1 (by simpa using h1)
def Z5a (f:List UInt8→Nat→Option (List UInt8)):Prop:=∀ t a,1<(t[a]?.getD 0).toNat→f t a=some (t.set a (t[a]?.getD 0-1))
theorem Zb3 {t:List UInt8} {a:Nat} (h:t[a]?.getD 0≠0):dnO t a=some (t.set a (t[a]?.getD 0-1)):=by rw[dnO,if_neg h]
theorem Zf4 {x:UInt8} (h:1<x.toNat):x≠0:=fun e=>by
 rw[Vb.2 e] at h
 omega
theorem Zf1 (d:Dk):∀ l,Z5a (lvF d l)
 | 0=>fun t a h=>Zb3 (Zf4 h)
 | l+1=>fun t a h=>by
  show lvS d l (lvF d l) t a=_
  unfold lvS
  rw[Zb3 (Zf4 h)]
  show (if 1<(t[a]?.getD 0).toNat then _ else _)=_
  rw[if_pos h]
theorem Zgo {f:List UInt8→Nat→Option (List UInt8)} (hf:Z5a f):∀ (l:List It) (u v:List UInt8),Zc4 l→u.length=256→v.length=256→(∀ i,(u[i]?.getD 0).toNat=(v[i]?.getD 0).toNat+Xp l i)→(∀ i,Xp l i≠0→v[i]?.getD 0≠0)→Vj f u l=some v
 | [],u,v,_,h1,h2,h,_=>congrArg some (Zu7 (by omega) h)
 | x::l,u,v,hr,h1,h2,h,h'=>by
  obtain⟨r1,r2⟩:=Zd6 hr
  unfold Vj
  rcases r1 with r1 | ⟨k,r1,h8,h256⟩
  ·rw[if_pos r1]
   exact Zgo hf l u v r2 h1 h2 (fun i=>by rw[h i,Zb8 r1]) (fun i hi=>h' i (by rwa [Zb8 r1]))
  ·have e0:¬ x.2.1=0:=by omega
   have ek:x.2.1.toNat=k:=by omega
   have hk:=h k
   rw[Zab r1 h8,if_pos rfl] at hk
   have hv:=h' k (by rw[Zab r1 h8,if_pos rfl];omega)
   have hv':(v[k]?.getD 0).toNat≠0:=fun e=>hv (Vb.1 e)
   have hu:1<(u[k]?.getD 0).toNat:=by omega
   rw[if_neg e0,ek,hf u k hu]
   show Vj f (u.set k (u[k]?.getD 0-1)) l=some v
   refine Zgo hf l _ v r2 (by rw[List.length_set,h1]) h2 (fun i => ?_) (fun i hi=>h' i (by rw[Zab r1 h8];omega))
   by_cases e:i=k
   ·subst e
    rw[Zcf (by omega)]
    have:=Zgx (Zf4 hu)
    omega
   ·rw[Ue e,h i,Zab r1 h8,if_neg e]
    omega
theorem Z2z {d:Dk} {u v:List UInt8} {k:Nat} {n:Nd} (hb:Z1 d k=Xs n) (hn:mayN n=true) (hi:InN n) (h1:u.length=256) (h2:v.length=256) (hk:k<256) (hu:u[k]?.getD 0=1) (hv:v[k]?.getD 0=0) (hz:Xp n.2 k=0)
  (h:∀ i,i≠k→(u[i]?.getD 0).toNat=(v[i]?.getD 0).toNat+Xp n.2 i) (h':∀ i,Xp n.2 i≠0→v[i]?.getD 0≠0):lfO d u k=some v:=by
 obtain⟨r1,r2⟩:=Zbe hn hi
 unfold lfO
 rw[Zb3 (by rw[hu];decide),hu,hb,r1,r2]
 show Vj (lvF d n.1.toNat) (u.set k (1-1)) n.2=some v
 refine Zgo (Zf1 d _) n.2 _ v (V8 hn) (by rw[List.length_set,h1]) h2 (fun i => ?_) h'
 by_cases e:i=k
 ·subst e
  rw[Zcf (by omega),hv,hz]
  rfl
 ·rw[Ue e,h i e]
theorem Zby {s:Rm} {k:Nat} (hm:Xq s=true) (h8:8≤k) (h:k<256) (hx:s.2.1[k]?.getD 0≠0):asE s k=0:=by
 have hin:=Zp5 h8 h
 have h1:¬ s.2.1[((k:Int)).toNat]?.getD 0=0:=by
  rw[show ((k:Int)).toNat=k by omega]
  exact hx
 rw[asE,hm,if_pos rfl,hin,if_pos rfl,if_neg h1]
theorem Z28 {s:Rm} {k:Nat} {v:List UInt8} (ha:asE s k=0) (hf:lfO s.1 s.2.1 k=some v):lvE s k=0∧lvV s k=(s.1,v,s.2.2):=by
 constructor
 ·rw[lvE,if_pos ha,show ((k:Int)).toNat=k by omega,hf]
 ·rw[lvV,if_pos ha,show ((k:Int)).toNat=k by omega,hf]
theorem Zgd {s:Rm} {k:Nat} {n:Nd} (ha:asE s k=0) (hb:Z1 s.1 k=Xs n) (hn:mayN n=true) (hi:InN n):rmE s k=0∧rmV s k=n:=by
 obtain⟨r1,r2⟩:=Zbe hn hi
 constructor
 ·rw[rmE,if_pos ha,show ((k:Int)).toNat=k by omega,hb,r1]
 ·rw[rmV,if_pos ha,show ((k:Int)).toNat=k by omega,hb,r2]
theorem Z2s {s:Rm} {n:Nd} (hi:InN n) (h:mkE s n=0):∃ k:Nat,mkN s n=k∧8≤k∧k<256∧s.2.1[k]?.getD 0=0∧s.2.2[k]?.getD 0=0∧rmE (mkV s n) k=0∧rmV (mkV s n) k=n∧lvE (mkV s n) k=0∧lvV (mkV s n) k=(wrD s.1 k (Xs n),s.2.1,s.2.2):=by
 obtain⟨_,hn,_⟩:=Zq6 h
 obtain⟨k,e1,h8,h256,hz,hz2,hc,hV,hm,c1,c2,c3,hl,hl0⟩:=X6 h
 have ha:asE (mkV s n) k=0:=Zby hm h8 h256 (by rw[c1];decide)
 have hb:Z1 (mkV s n).1 k=Xs n:=by rw[hV];exact Y8
 have hf:lfO (mkV s n).1 (mkV s n).2.1 k=some s.2.1:=Z2z (n:=n) hb hn hi hl hl0 h256 c1 hz hc c2 c3
 obtain⟨r1,r2⟩:=Zgd ha hb hn hi
 obtain⟨l1,l2⟩:=Z28 ha hf
 exact⟨k,e1,h8,h256,hz,hz2,r1,r2,l1,by rw[l2,hV]⟩
structure X3 (s t:Rm):Prop where
 may:Xq t=true
 held:∀ k:Nat,s.2.1[k]?.getD 0≠0→t.2.1[k]?.getD 0≠0
 seen:∀ k:Nat,s.2.1[k]?.getD 0≠0→Z1 t.1 k=Z1 s.1 k
theorem Vm {s t:Rm} (h:X3 s t) {a:Int} (ha:asE s a=0):asE t a=0∧rmE t a=rmE s a∧rmV t a=rmV s a:=by
 obtain⟨k,rfl,hm,h8,h256,_,_,hE,hV,hx⟩:=Xi ha
 have ht:asE t (k:Int)=0:=Zby h.may h8 h256 (h.held k hx)
 refine⟨ht,?_,?_⟩
 ·rw[hE,rmE,if_pos ht,show ((k:Int)).toNat=k by omega,h.seen k hx]
 ·rw[hV,rmV,if_pos ht,show ((k:Int)).toNat=k by omega,h.seen k hx]
theorem Zlz {s t:Rm} (h:X3 s t) {l:List It} (hl:Y2 s l=true):Y2 t l=true:=by
 unfold Y2 at hl ⊢
 rw[List.all_eq_true] at hl ⊢
 intro x hx
 have h1:=hl x hx
 simp only[Bool.or_eq_true,decide_eq_true_eq] at h1 ⊢
 exact h1.imp id (h.held _)
theorem Zd2 {f g:Int→Ky→Ky→Bool→Bool} (h:∀ a k tb e,f a k tb e=true→g a k tb e=true):∀ (l:List It) (tb:Ky) (e:Bool),Zb1 f l tb e=true→Zb1 g l tb e=true
 | [],_,_,_=>rfl
 | x::r,tb,e,hf=>by
  rw[Zao,Bool.and_eq_true] at hf ⊢
  exact⟨h _ _ _ _ hf.1,Zd2 h r tb e hf.2⟩
theorem U7 {f:Int→Ky→Ky→Bool→Bool}:∀ {l:List It} {tb:Ky} {e:Bool},Zb1 f l tb e=true→∀ x∈l,∃ t e,f x.2.1 x.1 t e=true
 | [],_,_,_,x,hx=>by simp at hx
 | y::r,tb,e,hf,x,hx=>by
  rw[Zao,Bool.and_eq_true] at hf
  rcases List.mem_cons.1 hx with rfl | hx
  ·exact⟨_,_,hf.1⟩
  ·exact U7 hf.2 x hx
theorem U0 {g g':Int→List It}:∀ {l:List It},(∀ x∈l,g x.2.1=g' x.2.1)→l.flatMap (fun x=>g x.2.1)=l.flatMap fun x=>g' x.2.1
 | [],_=>rfl
 | x::r,h=>by
  rw[List.flatMap_cons,List.flatMap_cons,h x List.mem_cons_self,U0 fun y hy=>h y (List.mem_cons_of_mem _ hy)]
theorem Y0 {s t:Rm} (h:X3 s t):∀ (l:Nat) (a:Int) (k tb:Ky) (e:Bool),Yt s l a k tb e=true→Yt t l a k tb e=true∧Za7 t l a=Za7 s l a∧∀ q,Zdl t l a q=Zdl s l a q
 | 0,a,k,tb,e,hr=>by
  obtain⟨h1,h2,h3,h4⟩:=Xv hr
  obtain⟨_,k1,k2⟩:=Vm h (Ys h1).2
  refine⟨?_,by unfold Za7;rw[k2],fun q=>by unfold Zdl;rw[k2]⟩
  unfold Yt
  rw[k1,k2,h1,h2,h3,Zlz h h4]
  rfl
 | l+1,a,k,tb,e,hr=>by
  obtain⟨h1,h2,h3,h4⟩:=Xv hr
  obtain⟨_,k1,k2⟩:=Vm h (Ys h1).2
  have hm:=U7 h4
  refine⟨?_,?_,fun q => ?_⟩
  ·unfold Yt
   rw[k1,k2,h1,h2,h3,Zd2 (fun a k tb e hf=>(Y0 h l a k tb e hf).1) _ _ _ h4]
   simp
  ·unfold Za7
   rw[k2]
   exact U0 fun x hx=>by
    obtain⟨t',e',hf⟩:=hm x hx
    exact(Y0 h l _ _ _ _ hf).2.1
  ·unfold Zdl
   rw[k2]
   cases hf:(rmV s a).2.reverse.find? (fun x => !Zp q x.1) with
   | none=>rfl
   | some y =>
    obtain⟨t',e',hf'⟩:=hm y (List.mem_reverse.1 (List.mem_of_find?_eq_some hf))
    exact(Y0 h l _ _ _ _ hf').2.2 q
theorem Zsa {s:Rm} {n:Int} (h:shE s n=0):X3 s (shV s n):=by
 have hm':=Z31 h
 obtain⟨k,rfl,hm,h8,h256,h0,h255,hl,hV⟩:=Z27 h
 refine⟨hm',fun i hi => ?_,fun i hi=>by rw[hV]⟩
 rw[hV]
 show (s.2.1.set k (s.2.1[k]?.getD 0+1))[i]?.getD 0≠0
 by_cases e:i=k
 ·subst e
  rw[Zcf (by omega)]
  exact Zr9 h255
 ·rw[Ue e]
  exact hi
def Yu (g:Int→Option (Ky×Ky)):List It→Option (Ky×Ky)
 | []=>none
 | [x]=>(g x.2.1).bind fun p=>if p.1=x.1 then some p else none
 | x::y::r=>(g x.2.1).bind fun p=>(Yu g (y::r)).bind fun q=>if p.1=x.1∧Zp p.2 y.1=true then some (p.1,q.2) else none
noncomputable def U5 (s:Rm):Nat→Int→Option (Ky×Ky)
 | 0,a=>if rmE s a=0∧(rmV s a).1=0∧Y2 s (rmV s a).2=true then ((rmV s a).2[0]?).bind fun x=>((rmV s a).2.getLast?).map fun y=>(x.1,y.1) else none
 | l+1,a=>if rmE s a=0∧(rmV s a).1=((l+1:Nat):Int) then Yu (U5 s l) (rmV s a).2 else none
def LeK (a b:Ky):Prop:=a=b∨Zp a b=true
theorem LeK.lt {a b c:Ky} (h:LeK a b) (h':Zp b c=true):Zp a c=true:=h.elim (fun e=>by rw[e];exact h') fun h=>Y1 h h'
theorem LeK.trans {a b c:Ky} (h:LeK a b) (h':LeK b c):LeK a c:=h'.elim (fun e=>e ▸ h) fun h'=>.inr (h.lt h')
theorem U6 {g:Int→Option (Ky×Ky)} (hg:∀ a p,g a=some p→LeK p.1 p.2):∀ {l:List It} {p:Ky×Ky},Yu g l=some p→LeK p.1 p.2∧∃ x r,l=x::r∧p.1=x.1
 | [],_,h=>by cases h
 | [x],p,h=>by
  unfold Yu at h
  cases hx:g x.2.1 with
  | none=>rw[hx] at h;cases h
  | some q =>
   rw[hx] at h
   have h':(if q.1=x.1 then some q else none)=some p:=h
   split at h'
   ·rename_i e
    cases h'
    exact⟨hg _ _ hx,x,[],rfl,e⟩
   ·cases h'
 | x::y::r,p,h=>by
  unfold Yu at h
  cases hx:g x.2.1 with
  | none=>rw[hx] at h;cases h
  | some q =>
   rw[hx] at h
   cases hc:Yu g (y::r) with
   | none=>rw[hc] at h;cases h
   | some q' =>
    rw[hc] at h
    have h':(if q.1=x.1∧Zp q.2 y.1=true then some (q.1,q'.2) else none)=some p:=h
    obtain⟨i1,y',r',e',i2⟩:=U6 hg hc
    cases e'
    split at h'
    ·rename_i e
     cases h'
     refine⟨.inr ?_,x,y::r,rfl,e.1⟩
     have h1:Zp q.1 y.1=true:=(hg _ _ hx).lt e.2
     rw[← i2] at h1
     exact i1.elim (fun e=>e ▸ h1) fun h2=>Y1 h1 h2
    ·cases h'
theorem Zdj (s:Rm):∀ (l:Nat) (a:Int) (p:Ky×Ky),U5 s l a=some p→LeK p.1 p.2
 | 0,a,p,h=>by
  unfold U5 at h
  split at h
  ·rename_i hc
   have hu:=Za2 (Ys hc.1).1
   cases hl:(rmV s a).2 with
   | nil=>rw[hl] at h;cases h
   | cons x r =>
    rw[hl] at h hu
    cases hz:(x::r).getLast? with
    | none=>rw[hz] at h;cases h
    | some z =>
     rw[hz] at h
     cases h
     rcases Zka hu z (List.mem_of_getLast? hz) with e | e
     ·exact .inl e.symm
     ·exact .inr e
  ·cases h
 | l+1,a,p,h=>by
  unfold U5 at h
  split at h
  ·exact(U6 (Zdj s l) h).1
  ·cases h
theorem Zei {f:Int→Ky→Ky→Bool→Bool} {g:Int→Option (Ky×Ky)} (hle:∀ a p,g a=some p→LeK p.1 p.2) (hfg:∀ a k tb e,f a k tb e=true↔∃ t,g a=some (k,t)∧(e=true→Zp t tb=true)):∀ (l:List It) (tb:Ky) (e:Bool),l≠[] →
  (Zb1 f l tb e=true↔∃ p,Yu g l=some p∧(e=true→Zp p.2 tb=true))
 | [],_,_,h=>absurd rfl h
 | [x],tb,e,_=>by
  show f x.2.1 x.1 tb e=true↔_
  rw[hfg]
  unfold Yu
  constructor
  ·rintro⟨t,h1,h2⟩
   exact⟨(x.1,t),by rw[h1];simp,h2⟩
  ·rintro⟨p,h1,h2⟩
   cases hx:g x.2.1 with
   | none=>rw[hx] at h1;cases h1
   | some q =>
    rw[hx] at h1
    have h':(if q.1=x.1 then some q else none)=some p:=h1
    split at h'
    ·rename_i e1
     cases h'
     exact⟨p.2,by rw[← e1],h2⟩
    ·cases h'
 | x::y::r,tb,e,_=>by
  have ih:=Zei hle hfg (y::r) tb e (by simp)
  show (f x.2.1 x.1 y.1 true&&Zb1 f (y::r) tb e)=true↔_
  rw[Bool.and_eq_true,hfg,ih]
  constructor
  ·rintro⟨⟨t,h1,h2⟩,p,h3,h4⟩
   refine⟨(x.1,p.2),?_,h4⟩
   unfold Yu
   rw[h1,h3]
   simp[h2 rfl]
  ·rintro⟨p,h1,h2⟩
   unfold Yu at h1
   cases hx:g x.2.1 with
   | none=>rw[hx] at h1;cases h1
   | some q =>
    rw[hx] at h1
    cases hc:Yu g (y::r) with
    | none=>rw[hc] at h1;cases h1
    | some q' =>
     rw[hc] at h1
     have h':(if q.1=x.1∧Zp q.2 y.1=true then some (q.1,q'.2) else none)=some p:=h1
     split at h'
     ·rename_i e1
      cases h'
      exact⟨⟨q.2,by rw[← e1.1],fun _=>e1.2⟩,q',rfl,h2⟩
     ·cases h'
theorem Ze4 (s:Rm):∀ (l:Nat) (a:Int) (k tb:Ky) (e:Bool),Yt s l a k tb e=true↔∃ t,U5 s l a=some (k,t)∧(e=true→Zp t tb=true)
 | 0,a,k,tb,e=>by
  constructor
  ·intro h
   obtain⟨h1,h2,h3,h4⟩:=Xv h
   obtain⟨x,r,hl,ek,hz⟩:=Zcm h3
   obtain⟨z,hz1⟩:∃ z,(rmV s a).2.getLast? = some z:=by
    rw[hl]
    exact⟨_,List.getLast?_eq_some_getLast (by simp)⟩
   refine⟨z.1,?_,fun he => ?_⟩
   ·unfold U5
    rw[if_pos ⟨h1,h2,h4⟩,hz1,show (rmV s a).2[0]? = some x by rw[hl];rfl,← ek]
    rfl
   ·obtain⟨z',e1,e2⟩:=hz he
    rw[hz1] at e1
    cases e1
    exact e2
  ·rintro⟨t,h1,h2⟩
   unfold U5 at h1
   split at h1
   ·rename_i hc
    unfold Yt
    cases hx:(rmV s a).2[0]? with
    | none=>rw[hx] at h1;cases h1
    | some x =>
     cases hz:(rmV s a).2.getLast? with
     | none=>rw[hx,hz] at h1;cases h1
     | some z =>
      rw[hx,hz] at h1
      have h1':(some (x.1,z.1):Option (Ky×Ky))=some (k,t):=h1
      simp only[Option.some.injEq,Prod.mk.injEq] at h1'
      have hh:Zfq (rmV s a).2 k tb e=true:=by
       unfold Zfq
       rw[hx,hz]
       cases e with
       | false=>simp[h1'.1]
       | true=>simp[h1'.1,h1'.2,h2 rfl]
      rw[hc.1,hc.2.1,hc.2.2,hh]
      decide
   ·cases h1
 | l+1,a,k,tb,e=>by
  have hc:=Zei (Zdj s l) (fun a k tb e=>Ze4 s l a k tb e) (rmV s a).2 tb e
  constructor
  ·intro h
   obtain⟨h1,h2,h3,h4⟩:=Xv h
   obtain⟨x,r,hl,ek,_⟩:=Zcm h3
   obtain⟨p,hp,hb⟩:=(hc (by rw[hl];simp)).1 h4
   obtain⟨_,x',r',e',hf⟩:=U6 (Zdj s l) hp
   rw[hl] at e'
   cases e'
   refine⟨p.2,?_,hb⟩
   unfold U5
   rw[if_pos ⟨h1,h2⟩,hp,← ek,← hf]
  ·rintro⟨t,h1,h2⟩
   unfold U5 at h1
   split at h1
   ·rename_i hcond
    obtain⟨_,x,r,hl,hf⟩:=U6 (Zdj s l) h1
    have hi:=(hc (by rw[hl];simp)).2 ⟨(k,t),h1,h2⟩
    have hh:Zfq (rmV s a).2 k tb e=true:=by
     cases e with
     | false =>
      unfold Zfq
      rw[hl]
      simp[← hf]
     | true =>
      obtain⟨x',r',e',hp⟩:=Zbu (Y5 s l) (rmV s a).2 tb true (by rw[hl];simp) hi
      obtain⟨z,hz1⟩:∃ z,(rmV s a).2.getLast? = some z:=by
       rw[hl]
       exact⟨_,List.getLast?_eq_some_getLast (by simp)⟩
      obtain⟨t',e2,hf2⟩:=U7 hi z (List.mem_of_getLast? hz1)
      obtain⟨y,r2,ey,ky⟩:=(Y5 s l _ _ _ _ hf2).first
      have hy:=hp.bound rfl y (List.mem_flatMap.2 ⟨z,List.mem_of_getLast? hz1,by rw[ey];simp⟩)
      rw[ky] at hy
      unfold Zfq
      rw[hz1,show (rmV s a).2[0]? = some x by rw[hl];rfl]
      simp[← hf,hy]
    unfold Yt
    rw[hcond.1,hcond.2,hh,hi]
    simp
   ·cases h1
theorem Ztx (s:Rm) (a:Int):X2 s a=true↔rmE s a=0∧(match (rmV s a).1.toNat with | 0=>Y2 s (rmV s a).2=true | l+1=>∃ p,Yu (U5 s l) (rmV s a).2=some p):=by
 constructor
 ·intro h
  obtain⟨h1,_,hm,l0,_,hi⟩:=Uh h
  refine⟨h1,?_⟩
  unfold Zfg at hi
  cases hl:(rmV s a).1.toNat with
  | zero=>rw[hl] at hi;exact hi
  | succ l =>
   rw[hl] at hi
   have hne:(rmV s a).2≠[]:=fun e=>by
    have:=(Z2 hm).1.2.2.2 (by omega)
    rw[e] at this
    simp at this
   obtain⟨p,hp,_⟩:=(Zei (Zdj s l) (fun a k tb e=>Ze4 s l a k tb e) _ Za0 false hne).1 hi
   exact⟨p,hp⟩
 ·rintro⟨h1,h2⟩
  unfold X2
  rw[h1]
  unfold Zfg
  cases hl:(rmV s a).1.toNat with
  | zero=>rw[hl] at h2;simp only[h2];rfl
  | succ l =>
   rw[hl] at h2
   obtain⟨p,hp⟩:=h2
   obtain⟨_,x,r,e,_⟩:=U6 (Zdj s l) hp
   have:=(Zei (Zdj s l) (fun a k tb e=>Ze4 s l a k tb e) (rmV s a).2 Za0 false (by rw[e];simp)).2 ⟨p,hp,fun h=>by cases h⟩
   simp only[this]
   rfl
def In (lo hi:Nat):Addr→Prop:=fun p=>lo≤p.block∧p.block<hi
theorem Zd7 {w w1:World} {Fs:List (World→Prop)} (h:Bag w Fs) (hb:Below w.heap.size w w1) (a b:Value):∃ w',w1.alloc (.cells #[a,b] 81)=w'∧Bag w' (Z5b w1.heap.size a b::Fs)∧Below w.heap.size w w'∧Below w1.heap.size w1 w'∧w1.heap.size<w'.heap.size:=by
 obtain⟨w2,e2,b2,k4,k5⟩:=Z7 w1 a b 81
 obtain⟨k1,k2,_,k3⟩:=Zg b2
 exact⟨w2,e2,((h.below hb).below k5).add ⟨k1,k2,k3⟩ (Zwn _ _ _),hb.trans (k5.mono hb.size),k5,by omega⟩
def Zzu (v:Value) (n:Nd):World→Prop:=fun w=>Nod (Old w) w v n
theorem Za3 (v:Value) (n:Nd):Zft (Zzu v n):=fun _ _ h hb=>h.below hb
def Zva (v:Value) (l:List It):World→Prop:=fun w=>Uo (Old w) w [v] l
theorem Zg6 (v:Value) (l:List It):Zft (Zva v l):=fun _ _ h hb=>Xc.old h hb
theorem Zpy {l:List It} {k:Ky}:∀ {i:Nat},i≤l.length→(∀ j x,j<i→l[j]? = some x→Zp x.1 k=true)→Zen (l.take i) k=i
 | 0,_,_=>rfl
 | i+1,hi,h=>by
  have hx:l[i]? = some l[i]:=List.getElem?_eq_getElem hi
  rw[Zqf hx (h i _ (by omega) hx),Zpy (by omega) (fun j x hj=>h j x (by omega))]
theorem Z2k (l:List It) (k:Ky) (i:Nat):Zen (l.take i) k≤Zen l k:=by
 unfold Zen
 exact((List.take_sublist i l).filter _).length_le
theorem Zu6 {l:List It} {k:Ky} {i:Nat} (h:∀ j x,i≤j→l[j]? = some x→Zp x.1 k=false):Zen l k=Zen (l.take i) k:=by
 have e:Zen l k=Zen (l.take i) k+Zen (l.drop i) k:=by
  unfold Zen
  rw[← List.length_append,← List.filter_append,List.take_append_drop]
 have z:Zen (l.drop i) k=0:=by
  unfold Zen
  rw[List.length_eq_zero_iff,List.filter_eq_nil_iff]
  intro x hx
  obtain⟨j,hj⟩:=List.mem_iff_getElem?.1 hx
  rw[List.getElem?_drop] at hj
  rw[h (i+j) x (by omega) hj]
  simp
 omega
theorem Vx {n:Nd} (h:mayN n=true) {k:Ky} {i:Nat} {x:It} (hx:n.2[i]? = some x):Zp x.1 k=decide (i<Zz n k):=by
 have hi:=(List.getElem?_eq_some_iff.1 hx).1
 cases e:Zp x.1 k with
 | true =>
  have h1:Zen (n.2.take (i+1)) k=i+1:=Zpy (by omega) (fun j y hj hy=>by
   rcases Nat.lt_or_ge j i with h2 | h2
   ·exact Y1 (Uy h h2 hy hx) e
   ·obtain rfl:j=i:=by omega
    rw[hx] at hy
    cases hy
    exact e)
  have h2:=Z2k n.2 k (i+1)
  have h3:Zz n k=Zen n.2 k:=rfl
  have:i<Zz n k:=by omega
  simp[this]
 | false =>
  have h1:Zen n.2 k=Zen (n.2.take i) k:=Zu6 (fun j y hj hy=>by
   rcases Nat.lt_or_ge i j with h2 | h2
   ·cases e2:Zp y.1 k with
    | false=>rfl
    | true =>
     have:=Y1 (Uy h h2 hx hy) e2
     rw[e] at this
     cases this
   ·obtain rfl:i=j:=by omega
    rw[hx] at hy
    cases hy
    exact e)
  have h2:=Zmw n.2 k i
  have h3:Zz n k=Zen n.2 k:=rfl
  have:¬ i<Zz n k:=by omega
  simp[this]
theorem Za8 (n:Nd) (k:Ky):Zz n k≤n.2.length:=Zve _ _
theorem Zge {n:Nd} (h:mayN n=true) {i:Nat} {x:It} (hx:n.2[i]? = some x):Zz n x.1=i∧Yg n x.1=true:=by
 have hi:=(List.getElem?_eq_some_iff.1 hx).1
 have h1:¬ i<Zz n x.1:=fun h2=>by
  have:=Vx h (k:=x.1) hx
  rw[Xz] at this
  simp[h2] at this
 have h2:Zz n x.1=i:=by
  rcases Nat.eq_zero_or_pos i with h0 | h0
  ·omega
  ·obtain⟨j,rfl⟩:∃ j,i=j+1:=⟨i-1,by omega⟩
   have hy:n.2[j]? = some n.2[j]:=List.getElem?_eq_getElem (by omega)
   have h3:=Vx h (k:=x.1) hy
   rw[Zhg h hy hx] at h3
   have:j<Zz n x.1:=by simpa using h3.symm
   omega
 exact⟨h2,by rw[Zhc (by rw[h2];exact hx)];simp⟩
theorem Zxi {p:It→Bool} {l:List It} {k:Nat} {x:It} (hx:l[k]? = some x):(l.take (k+1)).reverse.find? p=if p x=true then some x else (l.take k).reverse.find? p:=by
 have hk:=(List.getElem?_eq_some_iff.1 hx).1
 have hg:l[k]=x:=(List.getElem?_eq_some_iff.1 hx).2
 rw[← List.take_append_getElem hk,hg,List.reverse_append,List.reverse_singleton,List.singleton_append,List.find?_cons]
 cases p x <;> rfl
theorem Zuz {p:It→Bool} {l:List It} {j:Nat} {x:It} (hx:l[j]? = some x) (h1:p x=true) (h2:∀ i y,j<i→l[i]? = some y→p y=false):l.reverse.find? p=some x:=by
 have e:l.reverse.find? p=(l.take (j+1)).reverse.find? p:=by
  conv=>lhs;rw[← List.take_append_drop (j+1) l,List.reverse_append,List.find?_append]
  rw[Zck (l:=l.drop (j+1)) fun y hy=>by
   obtain⟨i,hi⟩:=List.getElem?_of_mem hy
   rw[List.getElem?_drop] at hi
   exact h2 (j+1+i) y (by omega) hi]
  rfl
 rw[e,Zxi hx,if_pos h1]
theorem Vs {n:Nd} (h:mayN n=true) {k:Ky} {x:It} (ht:Yg n k=true) (hx:n.2[Zz n k]? = some x):x.1=k∧(n.2.reverse.find? fun x => !Zp k x.1)=some x∧(n.2.reverse.find? fun x=>decide (x.1=k))=some x:=by
 have e:x.1=k:=by
  rw[Zhc hx] at ht
  simpa using ht
 have hup:∀ i y,Zz n k<i→n.2[i]? = some y→Zp k y.1=true:=fun i y hi hy=>by
  rw[← e]
  exact Uy h hi hx hy
 refine⟨e,Zuz hx (by rw[e,Xz];rfl) fun i y hi hy=>by rw[hup i y hi hy];rfl,Zuz hx (by simpa using e) fun i y hi hy => ?_⟩
 have h1:=hup i y hi hy
 have:y.1≠k:=fun e2=>by rw[e2,Xz] at h1;cases h1
 simpa using this
theorem Ze8 {n:Nd} (h:mayN n=true) {k:Ky} (ht:Yg n k=false):(n.2.reverse.find? fun x=>decide (x.1=k))=none:=Zck fun x hx=>by
 obtain⟨i,hi⟩:=List.getElem?_of_mem hx
 have:x.1≠k:=fun e=>by
  have:=(Zge h hi).2
  rw[e,ht] at this
  cases this
 simpa using this
theorem Zas {n:Nd} (h:mayN n=true) {k:Ky} (ht:Yg n k=false) {i:Nat} {y:It} (hi:Zz n k≤i) (hy:n.2[i]? = some y):Zp k y.1=true:=by
 have h1:=Vx h (k:=k) hy
 rw[decide_eq_false (by omega)] at h1
 have hne:y.1≠k:=fun e=>by
  have:=(Zge h hy).2
  rw[e,ht] at this
  cases this
 exact Za1 hne h1
theorem Zg7 {n:Nd} (h:mayN n=true) {k:Ky} {j:Nat} {x:It} (ht:Yg n k=false) (hj:Zz n k=j+1) (hx:n.2[j]? = some x):(n.2.reverse.find? fun x => !Zp k x.1)=some x:=by
 have h1:=Vx h (k:=k) hx
 rw[decide_eq_true (by omega)] at h1
 refine Zuz hx (by rw[U9 h1];rfl) fun i y hi hy => ?_
 rw[Zas h ht (by omega) hy]
 rfl
theorem Ziz {n:Nd} (h:mayN n=true) {k:Ky} (ht:Yg n k=false) (hj:Zz n k=0):(n.2.reverse.find? fun x => !Zp k x.1)=none:=Zck fun y hy=>by
 obtain⟨i,hi⟩:=List.getElem?_of_mem hy
 rw[Zas h ht (by omega) hi]
 rfl
theorem Zaq {n:Nd} {k:Ky} (ht:Yg n k=true):Zz n k<n.2.length:=by
 rcases Nat.lt_or_ge (Zz n k) n.2.length with h | h
 ·exact h
 ·rw[Ziy h] at ht
  cases ht
structure AtT (s:Rm) (l:Nat) (a:Int):Prop where
 ok:rmE s a=0
 lvl:(rmV s a).1=(l:Int)
 below:∀ j,l=j+1→∀ x∈(rmV s a).2,∃ t e,Yt s j x.2.1 x.1 t e=true
theorem AtT.may {s:Rm} {l:Nat} {a:Int} (h:AtT s l a):mayN (rmV s a)=true:=(Ys h.ok).1
theorem Zx1 {s:Rm} {l:Nat} {a:Int} {k tb:Ky} {e:Bool} (h:Yt s l a k tb e=true):AtT s l a:=by
 obtain⟨h1,h2,_,h4⟩:=Xv h
 refine⟨h1,h2,fun j hj x hx => ?_⟩
 subst hj
 exact U7 h4 x hx
theorem AtT.down {s:Rm} {j:Nat} {a:Int} (h:AtT s (j+1) a) {x:It} (hx:x∈(rmV s a).2):AtT s j x.2.1:=by
 obtain⟨t,e,hr⟩:=h.below j rfl x hx
 exact Zx1 hr
theorem Zdn {s:Rm} {a:Int} (h:X2 s a=true):AtT s (rmV s a).1.toNat a:=by
 obtain⟨h1,_,_,l0,_,hi⟩:=Uh h
 refine⟨h1,by omega,fun j hj x hx => ?_⟩
 unfold Zfg at hi
 rw[hj] at hi
 exact U7 hi x hx
theorem Zco (s:Rm) (a:Int) (k:Ky):Zdl s 0 a k=(rmV s a).2.reverse.find? fun x=>decide (x.1=k):=rfl
theorem Zgc (s:Rm) (l:Nat) (a:Int) (k:Ky):Zdl s (l+1) a k=((rmV s a).2.reverse.find? fun x => !Zp k x.1).bind fun x=>Zdl s l x.2.1 k:=rfl
noncomputable def Zbq (s:Rm) (n:Nd):Option (Ky×Ky):=match n.1.toNat with
 | 0=>if Y2 s n.2=true then (n.2[0]?).bind fun x=>(n.2.getLast?).map fun y=>(x.1,y.1) else none
 | l+1=>Yu (U5 s l) n.2
theorem Zk5 (s:Rm) (l:Nat) (a:Int):U5 s l a=if rmE s a=0∧(rmV s a).1=(l:Int) then Zbq s (rmV s a) else none:=by
 cases l with
 | zero =>
  unfold U5
  by_cases h1:rmE s a=0∧(rmV s a).1=((0:Nat):Int)
  ·rw[if_pos h1]
   unfold Zbq
   rw[h1.2]
   by_cases h2:Y2 s (rmV s a).2=true
   ·rw[if_pos ⟨h1.1,rfl,h2⟩]
    show _=if Y2 s (rmV s a).2=true then _ else none
    rw[if_pos h2]
   ·rw[if_neg (fun h=>h2 h.2.2)]
    show _=if Y2 s (rmV s a).2=true then _ else none
    rw[if_neg h2]
  ·rw[if_neg h1,if_neg (fun h=>h1 ⟨h.1,h.2.1⟩)]
 | succ l =>
  unfold U5
  by_cases h1:rmE s a=0∧(rmV s a).1=((l+1:Nat):Int)
  ·rw[if_pos h1,if_pos h1]
   unfold Zbq
   rw[h1.2,show ((l+1:Nat):Int).toNat=l+1 by omega]
  ·rw[if_neg h1,if_neg h1]
theorem Zl6 {s:Rm} {n:Nd} {x y:It} {j:Nat} (h:n.1=0) (hx:n.2[0]? = some x) (hj:n.2.length=j+1) (hy:n.2[j]? = some y):Zbq s n=if Y2 s n.2=true then some (x.1,y.1) else none:=by
 have hl:n.2.getLast? = some y:=by rw[List.getLast?_eq_getElem?,hj];exact hy
 unfold Zbq
 rw[h]
 show (if Y2 s n.2=true then _ else none)=_
 rw[hx,hl]
 rfl
theorem Zmn {s:Rm} {n:Nd} {l:Nat} (h:n.1=((l+1:Nat):Int)):Zbq s n=Yu (U5 s l) n.2:=by
 unfold Zbq
 rw[h,show ((l+1:Nat):Int).toNat=l+1 by omega]
theorem Zep {g:Int→Option (Ky×Ky)} {l:List It} {x:It} (hx:l[0]? = some x):Yu g (l.take 1)=(g x.2.1).bind fun p=>if p.1=x.1 then some p else none:=by
 cases l with
 | nil=>cases hx
 | cons y r =>
  cases hx
  rfl
theorem Zle {g:Int→Option (Ky×Ky)} (x:It):∀ (l:List It),l≠[]→Yu g (l++[x])=(Yu g l).bind fun q=>(g x.2.1).bind fun p=>if p.1=x.1∧Zp q.2 x.1=true then some (q.1,p.2) else none
 | [],h=>absurd rfl h
 | [y],_=>by
  show (g y.2.1).bind _=_
  unfold Yu
  cases g y.2.1 with
  | none=>rfl
  | some p =>
   show ((Yu g [x]).bind _)=((if p.1=y.1 then some p else none):Option (Ky×Ky)).bind _
   unfold Yu
   cases g x.2.1 with
   | none =>
    by_cases h1:p.1=y.1 <;> simp[h1]
   | some q =>
    by_cases h1:p.1=y.1 <;> by_cases h2:q.1=x.1 <;> by_cases h3:Zp p.2 x.1=true <;> simp[h1,h2,h3]
 | y::z::r,_=>by
  have ih:=Zle (g:=g) x (z::r) (by simp)
  show (g y.2.1).bind (fun p=>(Yu g (z::r++[x])).bind _)=_
  rw[ih]
  conv=>rhs;unfold Yu
  cases g y.2.1 with
  | none=>rfl
  | some p =>
   cases Yu g (z::r) with
   | none=>rfl
   | some q =>
    cases g x.2.1 with
    | none =>
     by_cases h1:p.1=y.1∧Zp p.2 z.1=true <;> simp[h1]
    | some q' =>
     by_cases h1:p.1=y.1∧Zp p.2 z.1=true <;> by_cases h2:q'.1=x.1∧Zp q.2 x.1=true <;> simp[h1,h2]
theorem Uv {g:Int→Option (Ky×Ky)} {l:List It} {k:Nat} {x:It} (hx:l[k]? = some x) (hk:0<k):Yu g (l.take (k+1))=(Yu g (l.take k)).bind fun q=>(g x.2.1).bind fun p=>if p.1=x.1∧Zp q.2 x.1=true then some (q.1,p.2) else none:=by
 have hl:=(List.getElem?_eq_some_iff.1 hx).1
 have hg:l[k]=x:=(List.getElem?_eq_some_iff.1 hx).2
 rw[← List.take_append_getElem hl,hg]
 exact Zle x _ fun e=>by
  have h0:(l.take k).length=0:=by rw[e];rfl
  rw[List.length_take] at h0
  omega
theorem Zgp {g:Int→Option (Ky×Ky)} {l:List It}:∀ {k:Nat},0<k→Yu g (l.take k)=none→Yu g l=none:=fun {k} hk h=>by
 induction hn:l.length-k generalizing k with
 | zero=>rwa [List.take_of_length_le (by omega)] at h
 | succ n ih =>
  obtain⟨x,hx⟩:∃ x,l[k]? = some x:=⟨_,List.getElem?_eq_getElem (by omega)⟩
  exact ih (k:=k+1) (by omega) (by rw[Uv hx hk,h];rfl) (by omega)
theorem Ztq {g:Int→Option (Ky×Ky)} {l:List It} {x:It} (hx:l[0]? = some x):∀ {k:Nat} {q:Ky×Ky},0<k→k≤l.length→Yu g (l.take k)=some q→q.1=x.1:=fun {k} {q} hk hl h=>by
 induction k generalizing q with
 | zero=>omega
 | succ k ih =>
  by_cases h0:k=0
  ·subst h0
   rw[Zep hx] at h
   cases hg:g x.2.1 with
   | none=>rw[hg] at h;cases h
   | some p =>
    rw[hg] at h
    have h':(if p.1=x.1 then some p else none)=some q:=h
    split at h'
    ·rename_i e;cases h';exact e
    ·cases h'
  ·obtain⟨y,hy⟩:∃ y,l[k]? = some y:=⟨_,List.getElem?_eq_getElem (by omega)⟩
   rw[Uv hy (by omega)] at h
   cases hc:Yu g (l.take k) with
   | none=>rw[hc] at h;cases h
   | some q' =>
    have e:=ih (by omega) (by omega) hc
    rw[hc] at h
    cases hg:g y.2.1 with
    | none=>rw[hg] at h;cases h
    | some p =>
     rw[hg] at h
     have h':(if p.1=y.1∧Zp q'.2 y.1=true then some (q'.1,p.2) else none)=some q:=h
     split at h'
     ·cases h';exact e
     ·cases h'
noncomputable def Zbo (s:Rm) (n:Nd):Bool:=decide (n.2.length=0)||(Zbq s n).isSome
theorem Znq {s:Rm} {a:Int} (h:rmE s a=0):Zbo s (rmV s a)=X2 s a:=by
 have hm:=(Ys h).1
 have hsh:=(Z2 hm).1
 have e:X2 s a=true↔Zbo s (rmV s a)=true:=by
  rw[Ztx]
  unfold Zbo
  rw[Bool.or_eq_true,decide_eq_true_eq]
  cases hl:(rmV s a).1.toNat with
  | zero =>
   have h0:(rmV s a).1=0:=by omega
   simp only
   by_cases hz:(rmV s a).2.length=0
   ·have:(rmV s a).2=[]:=List.eq_nil_of_length_eq_zero hz
    rw[this]
    simp[h,Y2]
   ·obtain⟨j,hj⟩:∃ j,(rmV s a).2.length=j+1:=⟨(rmV s a).2.length-1,by omega⟩
    obtain⟨x,hx⟩:∃ x,(rmV s a).2[0]? = some x:=⟨_,List.getElem?_eq_getElem (by omega)⟩
    obtain⟨y,hy⟩:∃ y,(rmV s a).2[j]? = some y:=⟨_,List.getElem?_eq_getElem (by omega)⟩
    rw[Zl6 h0 hx hj hy]
    by_cases h2:Y2 s (rmV s a).2=true <;> simp[h,h2,hz]
  | succ l =>
   have h1:(rmV s a).1=((l+1:Nat):Int):=by omega
   have hz:¬ (rmV s a).2.length=0:=by have:=hsh.2.2.2 (by omega);omega
   rw[Zmn h1]
   simp only
   constructor
   ·rintro⟨_,p,hp⟩
    rw[hp]
    exact .inr rfl
   ·rintro(h3 | h3)
    ·exact absurd h3 hz
    ·exact⟨h,Option.isSome_iff_exists.1 h3⟩
 cases h1:X2 s a with
 | true=>exact e.1 h1
 | false =>
  cases h2:Zbo s (rmV s a) with
  | false=>rfl
  | true=>rw[e.2 h2] at h1;cases h1
def Zz8 (f t:Ky) (x:It):Bool := !Zp x.1 f && !Zp t x.1
noncomputable def Zfn (s:Rm) (a:Int) (f t:Ky):List It:=(Zpx s a).filter (Zz8 f t)
noncomputable def raV (s:Rm) (a:Int) (f t:Ky):List It:=if ckE s a=0 then Zfn s a f t else []
theorem Zyu {f t:Ky} {x:It}:Zz8 f t x=true↔Zp x.1 f=false∧Zp t x.1=false:=by
 unfold Zz8
 simp
theorem Z1i {a b c:Ky} (h:Zp a b=true) (h':Zp c b=false):Zp a c=true:=by
 by_cases e:c=b
 ·rw[e];exact h
 ·exact Y1 h (Za1 e h')
theorem V4 {p:It→Bool} {L:List It} (h:∀ x∈L,p x=false):L.filter p=[]:=by
 rw[List.filter_eq_nil_iff]
 intro x hx
 rw[h x hx]
 simp
theorem Zi8 {f f':Int→Ky→Ky→Bool→Bool}:∀ {l:List It} {tb:Ky} {e:Bool},(∀ x∈l,∀ k tb e,f x.2.1 k tb e=true→f' x.2.1 k tb e=true)→Zb1 f l tb e=true→Zb1 f' l tb e=true
 | [],_,_,_,_=>rfl
 | x::r,tb,e,h,hf=>by
  rw[Zao,Bool.and_eq_true] at hf ⊢
  exact⟨h x List.mem_cons_self _ _ _ hf.1,Zi8 (fun y hy=>h y (List.mem_cons_of_mem _ hy)) hf.2⟩
noncomputable def ndD (d:Dk) (n:Int):Nd:=reV (Z1 d n.toNat)
noncomputable def Zkw (d:Dk):List Int→Nat→Nat
 | [],_=>0
 | n::r,k=>Xp (ndD d n).2 k+Zkw d r k
def Y9 (t:List UInt8) (k:Nat):Nat:=(t[k]?.getD 0).toNat
structure Enf (d:Dk) (t:List UInt8) (P:Nat→Nat) (N:List Int):Prop where
 once:N.Nodup
 node:∀ n∈N,0≤n∧n<256∧reN (Z1 d n.toNat)=0∧Y9 t n.toNat≠0
 shut:∀ n∈N,(ndD d n).1≠0→∀ x∈(ndD d n).2,x.2.1∈N∧x.2.1≠0∧(ndD d x.2.1).1+1=(ndD d n).1
 refs:∀ n∈N,Zc4 (ndD d n).2
 enough:∀ k,P k+Zkw d N k≤Y9 t k
theorem Zlj (d:Dk) (p:Int→Bool) (k:Nat):∀ N:List Int,Zkw d (N.filter p) k≤Zkw d N k
 | []=>Nat.le_refl _
 | n::r=>by
  have:=Zlj d p k r
  rw[List.filter_cons]
  split
  ·unfold Zkw;omega
  ·show Zkw d (r.filter p) k≤Xp (ndD d n).2 k+Zkw d r k
   omega
theorem Zjm {d:Dk} {k:Nat} {n:Int}:∀ {N:List Int},n∈N→Xp (ndD d n).2 k≤Zkw d N k
 | m::r,h=>by
  unfold Zkw
  rcases List.mem_cons.1 h with rfl | h
  ·omega
  ·have:=Zjm (k:=k) (d:=d) h
   omega
theorem Zd9 {l:List It} {x:It} (hx:x∈l) {k:Nat} (hk:x.2.1=(k:Int)) (h0:x.2.1≠0):1≤Xp l k:=by
 induction l with
 | nil=>cases hx
 | cons y r ih =>
  unfold Xp
  rcases List.mem_cons.1 hx with rfl | hx
  ·rw[if_pos hk,if_neg h0]
   omega
  ·have:=ih hx
   omega
theorem Zlf {t u:List UInt8} {a:Nat} (h:dnO t a=some u):Y9 t a=Y9 u a+1∧(∀ k,k≠a→Y9 u k=Y9 t k):=by
 obtain⟨h1,h2,h3,h4⟩:=Zcr h
 refine⟨h4.symm,fun k hk => ?_⟩
 unfold Y9
 rw[h2,List.getElem?_set_ne (Ne.symm hk)]
def Z2p (u:List UInt8) (N:List Int):List Int:=N.filter fun n=>decide (Y9 u n.toNat≠0)
theorem Enf.part {d:Dk} {t u:List UInt8} {P Q:Nat→Nat} {N:List Int} (h:Enf d t P N) (p:Int→Bool) (hn:∀ n∈N,p n=true→Y9 u n.toNat≠0) (hs:∀ n∈N,p n=true→∀ x∈(ndD d n).2,x.2.1∈N→x.2.1≠0→p x.2.1=true) (he:∀ k,Q k+Zkw d (N.filter p) k≤Y9 u k):Enf d u Q (N.filter p):=by
 refine⟨h.once.filter _,fun n hm => ?_,fun n hm h0 x hx => ?_,fun n hm => ?_,he⟩
 ·obtain⟨h1,h2⟩:=List.mem_filter.1 hm
  obtain⟨g1,g2,g3,_⟩:=h.node n h1
  exact⟨g1,g2,g3,hn n h1 h2⟩
 ·obtain⟨h1,h2⟩:=List.mem_filter.1 hm
  obtain⟨g1,g2,g3⟩:=h.shut n h1 h0 x hx
  exact⟨List.mem_filter.2 ⟨g1,hs n h1 h2 x hx g1 g2⟩,g2,g3⟩
 ·exact h.refs n (List.mem_filter.1 hm).1
theorem Zw0 {d:Dk} {t u:List UInt8} {P:Nat→Nat} {N:List Int} {a:Nat} (h:Enf d t (fun k=>P k+if k=a then 1 else 0) N) (hd:dnO t a=some u):Enf d u P (Z2p u N):=by
 obtain⟨c1,c2⟩:=Zlf hd
 refine h.part _ (fun n hn hp=>by simpa using hp) (fun n hn hp x hx hxN hx0 => ?_) (fun k => ?_)
 ·simp only[decide_eq_true_eq] at hp ⊢
  intro h0
  obtain⟨g1,_,_,g4⟩:=h.node _ hxN
  have hxa:x.2.1.toNat=a:=by
   by_cases e:x.2.1.toNat=a
   ·exact e
   ·rw[c2 _ e] at h0
    exact absurd h0 g4
  have h1:=h.enough a
  rw[hxa] at h0
  have h2:=Zd9 hx (k:=a) (by omega) hx0
  have h3:=Zjm (d:=d) (k:=a) hn
  simp only[if_true] at h1
  omega
 ·have h1:=h.enough k
  have h2:=Zlj d (fun n=>decide (Y9 u n.toNat≠0)) k N
  by_cases e:k=a
  ·subst e
   simp only[if_true] at h1
   omega
  ·rw[c2 k e]
   simp only[if_neg e] at h1
   omega
theorem Enf.same {d:Dk} {t:List UInt8} {P Q:Nat→Nat} {N:List Int} (h:Enf d t P N) (e:∀ k,Q k=P k):Enf d t Q N:=⟨h.once,h.node,h.shut,h.refs,fun k=>by rw[e];exact h.enough k⟩
theorem Zag {t:List UInt8} {k:Nat}:Y9 t k≠0↔t[k]?.getD 0≠0:=by
 unfold Y9
 rw[ne_eq,Vb]
theorem Zmp {s:Rm} {n:Int} (h:rmE s n=0):ndD s.1 n=rmV s n:=by
 obtain⟨k,rfl,_,_,_,_,_,_,hV,_⟩:=Xi (Ys h).2
 rw[hV,ndD,show ((k:Int)).toNat=k by omega]
theorem Uf {s:Rm} {n:Nd} (h:mkE s n=0):X3 s (mkV s n):=by
 obtain⟨k,e1,h8,h256,hz,_,hc,hV,hm,c1,c2,_⟩:=X6 h
 have hne:∀ i:Nat,s.2.1[i]?.getD 0≠0→i≠k:=fun i hi e=>hi (by rw[e];exact hz)
 refine⟨hm,fun i hi => ?_,fun i hi => ?_⟩
 ·rw[← Zag]
  have h1:=c2 i (hne i hi)
  have h2:=Zag.2 hi
  unfold Y9 at h2 ⊢
  omega
 ·rw[hV]
  exact Zy (hne i hi)
theorem Zi4 {s:Rm} {n:Nd} {P:Nat→Nat} {N:List Int} (h:mkE s n=0) (hi:InN n) (hE:Enf s.1 s.2.1 P N) (hsub:n.1≠0→∀ x∈n.2,x.2.1∈N∧x.2.1≠0∧(ndD s.1 x.2.1).1+1=n.1) :
  ∃ k:Nat,mkN s n=k∧8≤k∧k<256∧Y9 s.2.1 k=0∧(k:Int)∉N∧Enf (mkV s n).1 (mkV s n).2.1 (fun i=>P i+if i=k then 1 else 0) ((k:Int)::N)∧ndD (mkV s n).1 (k:Int)=n∧(∀ m∈N,ndD (mkV s n).1 m=ndD s.1 m)∧rmE (mkV s n) (k:Int)=0∧rmV (mkV s n) (k:Int)=n∧Y9 (mkV s n).2.1 k=1:=by
 obtain⟨_,hn,_⟩:=Zq6 h
 obtain⟨k,e1,h8,h256,hz,_,hc,hV,hm,c1,c2,_⟩:=X6 h
 have hseen:Z1 (mkV s n).1 k=Xs n:=by rw[hV];exact Y8
 have ha:asE (mkV s n) (k:Int)=0:=Zby hm h8 h256 (by rw[c1];decide)
 obtain⟨r1,r2⟩:=Zgd ha hseen hn hi
 have hnd:ndD (mkV s n).1 (k:Int)=n:=(Zmp r1).trans r2
 have hz8:Y9 s.2.1 k=0:=by unfold Y9;rw[hz];rfl
 have hkN:(k:Int)∉N:=fun hin=>by
  have:=(hE.node _ hin).2.2.2
  rw[show ((k:Int)).toNat=k by omega] at this
  exact this hz8
 have Zbh:∀ m∈N,m.toNat≠k:=fun m hmN e=>by
  have h0:=(hE.node m hmN).1
  exact hkN (by rw[← e,show ((m.toNat:Nat):Int)=m by omega];exact hmN)
 have hsm:∀ m∈N,Z1 (mkV s n).1 m.toNat=Z1 s.1 m.toNat:=fun m hmN=>by
  rw[hV]
  exact Zy (Zbh m hmN)
 have hndm:∀ m∈N,ndD (mkV s n).1 m=ndD s.1 m:=fun m hmN=>by rw[ndD,ndD,hsm m hmN]
 have hc1:Y9 (mkV s n).2.1 k=1:=by unfold Y9;rw[c1];rfl
 have hc2:∀ i,i≠k→Y9 (mkV s n).2.1 i=Y9 s.2.1 i+Xp n.2 i:=fun i hne=>c2 i hne
 have hsum:∀ i,Zkw (mkV s n).1 N i=Zkw s.1 N i:=fun i=>by
  have:∀ M:List Int,(∀ m∈M,m∈N)→Zkw (mkV s n).1 M i=Zkw s.1 M i:=by
   intro M
   induction M with
   | nil=>intro _;rfl
   | cons m r ih =>
    intro hM
    show Xp (ndD (mkV s n).1 m).2 i+Zkw (mkV s n).1 r i=Xp (ndD s.1 m).2 i+Zkw s.1 r i
    rw[hndm m (hM m List.mem_cons_self),ih fun x hx=>hM x (List.mem_cons_of_mem _ hx)]
  exact this N fun m hm=>hm
 refine⟨k,e1,h8,h256,hz8,hkN,⟨List.nodup_cons.2 ⟨hkN,hE.once⟩,fun m hmN => ?_,fun m hmN h0 x hx => ?_,fun m hmN => ?_,fun i => ?_⟩,hnd,hndm,r1,r2,hc1⟩
 ·rcases List.mem_cons.1 hmN with rfl | hmN
  ·refine⟨by omega,by omega,?_,by rw[show ((k:Int)).toNat=k by omega,hc1];decide⟩
   rw[show ((k:Int)).toNat=k by omega,hseen]
   exact(Zbe hn hi).1
  ·obtain⟨g1,g2,g3,g4⟩:=hE.node m hmN
   refine⟨g1,g2,by rw[hsm m hmN];exact g3,?_⟩
   rw[hc2 _ (Zbh m hmN)]
   omega
 ·rcases List.mem_cons.1 hmN with rfl | hmN
  ·rw[hnd] at h0 hx ⊢
   obtain⟨g1,g2,g3⟩:=hsub h0 x hx
   exact⟨List.mem_cons_of_mem _ g1,g2,by rw[hndm _ g1];exact g3⟩
  ·rw[hndm m hmN] at h0 hx ⊢
   obtain⟨g1,g2,g3⟩:=hE.shut m hmN h0 x hx
   exact⟨List.mem_cons_of_mem _ g1,g2,by rw[hndm _ g1];exact g3⟩
 ·rcases List.mem_cons.1 hmN with rfl | hmN
  ·rw[hnd]
   exact V8 hn
  ·rw[hndm m hmN]
   exact hE.refs m hmN
 ·show P i+(if i=k then 1 else 0)+(Xp (ndD (mkV s n).1 (k:Int)).2 i+Zkw (mkV s n).1 N i)≤_
  rw[hnd,hsum]
  have h1:=hE.enough i
  by_cases e:i=k
  ·subst e
   rw[if_pos rfl,hc1]
   omega
  ·rw[if_neg e,hc2 i e]
   omega
theorem Zy6 {d:Dk} {t u:List UInt8} {P:Nat→Nat} {N:List Int} {a:Nat} (h:Enf d t (fun k=>P k+if k=a then 1 else 0) N) (hd:dnO t a=some u) (hc:Y9 u a≠0):Enf d u P N:=by
 have s:=Zw0 h hd
 obtain⟨c1,c2⟩:=Zlf hd
 have:Z2p u N=N:=by
  unfold Z2p
  rw[List.filter_eq_self]
  intro n hn
  have h4:=(h.node n hn).2.2.2
  by_cases e:n.toNat=a
  ·rw[e];simpa using hc
  ·rw[c2 _ e];simpa using h4
 rwa [this] at s
def Vi (L:List It) (x:It):List It:=(L.filter fun y=>Zp y.1 x.1)++x::(L.filter fun y=>Zp x.1 y.1)
theorem Ze3 {p:It→Bool} {L:List It} (h:∀ x∈L,p x=true):L.filter p=L:=List.filter_eq_self.2 h
theorem Zpc {A B C:List It} {x:It} (hA:∀ y∈A,Zp y.1 x.1=true) (hC:∀ y∈C,Zp x.1 y.1=true):Vi (A++(B++C)) x=A++(Vi B x++C):=by
 unfold Vi
 simp only[List.filter_append]
 rw[Ze3 hA,V4 (L:=A) (fun y hy=>U9 (hA y hy)),V4 (L:=C) (fun y hy=>U9 (hC y hy)),Ze3 hC]
 simp
theorem Zih {A M C:List It} {x:It} (hA:∀ y∈A,Zp y.1 x.1=true) (hM:∀ y∈M,y.1=x.1) (hC:∀ y∈C,Zp x.1 y.1=true):Vi (A++(M++C)) x=A++x::C:=by
 rw[Zpc hA hC]
 unfold Vi
 rw[V4 (L:=M) (fun y hy=>by rw[hM y hy];exact Xz _),V4 (L:=M) (fun y hy=>by rw[hM y hy];exact Xz _)]
 rfl
theorem Z2c {L:List It} (h:Up L) (x:It):Up (Vi L x):=by
 unfold Vi Up
 rw[List.pairwise_append]
 refine⟨List.Pairwise.filter _ h,List.pairwise_cons.2 ⟨fun y hy=>(List.mem_filter.1 hy).2,List.Pairwise.filter _ h⟩,fun y hy z hz => ?_⟩
 have h1:=(List.mem_filter.1 hy).2
 rcases List.mem_cons.1 hz with rfl | hz
 ·exact h1
 ·exact Y1 h1 (List.mem_filter.1 hz).2
theorem Zce {L:List It} {x y:It}:y∈Vi L x↔y=x∨(y∈L∧y.1≠x.1):=by
 unfold Vi
 rw[List.mem_append,List.mem_cons,List.mem_filter,List.mem_filter]
 constructor
 ·rintro(⟨h1,h2⟩ | rfl | ⟨h1,h2⟩)
  ·exact .inr ⟨h1,fun e=>by rw[e,Xz] at h2;cases h2⟩
  ·exact .inl rfl
  ·exact .inr ⟨h1,fun e=>by rw[e,Xz] at h2;cases h2⟩
 ·rintro(rfl | ⟨h1,h2⟩)
  ·exact .inr (.inl rfl)
  ·cases h3:Zp y.1 x.1 with
   | true=>exact .inl ⟨h1,rfl⟩
   | false=>exact .inr (.inr ⟨h1,Za1 h2 h3⟩)
theorem Zf5 {n:Nd} (h:mayN n=true) (x:It):n.2.take (Zz n x.1)++x::n.2.drop (Zz n x.1+if Yg n x.1=true then 1 else 0)=Vi n.2 x:=by
 have hA:∀ y∈n.2.take (Zz n x.1),Zp y.1 x.1=true:=fun y hy=>by
  obtain⟨i,hi⟩:=List.getElem?_of_mem hy
  have hlt:=(List.getElem?_eq_some_iff.1 hi).1
  rw[List.length_take] at hlt
  rw[List.getElem?_take_of_lt (by omega)] at hi
  rw[Vx h hi]
  simp
  omega
 cases ht:Yg n x.1 with
 | true =>
  have hp:=Zaq ht
  obtain⟨z,hz⟩:∃ z,n.2[Zz n x.1]? = some z:=⟨_,List.getElem?_eq_getElem hp⟩
  have hzk:=(Vs h ht hz).1
  have hg:n.2[Zz n x.1]=z:=(List.getElem?_eq_some_iff.1 hz).2
  have e:n.2=n.2.take (Zz n x.1)++([z]++n.2.drop (Zz n x.1+1)):=by
   conv=>lhs;rw[← List.take_append_drop (Zz n x.1) n.2,List.drop_eq_getElem_cons hp,hg]
   rfl
  rw[if_pos rfl]
  conv=>rhs;rw[e]
  rw[Zih hA (fun y hy=>by rw[List.mem_singleton.1 hy];exact hzk) (fun y hy=>by
   obtain⟨i,hi⟩:=List.getElem?_of_mem hy
   rw[List.getElem?_drop] at hi
   rw[← hzk]
   exact Uy h (by omega) hz hi)]
 | false =>
  rw[if_neg (by decide),Nat.add_zero]
  have e:n.2=n.2.take (Zz n x.1)++([]++n.2.drop (Zz n x.1)):=by simp
  conv=>rhs;rw[e]
  rw[Zih hA (fun y hy=>by cases hy) (fun y hy=>by
   obtain⟨i,hi⟩:=List.getElem?_of_mem hy
   rw[List.getElem?_drop] at hi
   exact Zas h ht (by omega) hi)]
def Xb (n:Nd) (k:Ky):Nat:=if Yg n k=true then Zz n k else Zz n k-1
theorem Zc6 {n:Nd} (k:Ky) (h:0<n.2.length):Xb n k<n.2.length:=by
 unfold Xb
 split
 ·rename_i ht;exact Zaq ht
 ·have:=Za8 n k
  omega
theorem Zh6 {n:Nd} (h:mayN n=true) {k:Ky} {i:Nat} {y:It} (hi:Xb n k<i) (hy:n.2[i]? = some y):Zp k y.1=true:=by
 unfold Xb at hi
 cases ht:Yg n k with
 | true =>
  rw[ht,if_pos rfl] at hi
  have hp:=Zaq ht
  obtain⟨z,hz⟩:∃ z,n.2[Zz n k]? = some z:=⟨_,List.getElem?_eq_getElem hp⟩
  rw[← (Vs h ht hz).1]
  exact Uy h hi hz hy
 | false =>
  rw[ht,if_neg (by decide)] at hi
  exact Zas h ht (by omega) hy
theorem Z2u {n:Nd} (h:mayN n=true) {k:Ky} {y:It} (hy:n.2[Xb n k]? = some y) (h0:Xb n k≠0):Zp k y.1=false:=by
 unfold Xb at hy h0
 cases ht:Yg n k with
 | true =>
  rw[ht,if_pos rfl] at hy
  rw[(Vs h ht hy).1]
  exact Xz _
 | false =>
  rw[ht,if_neg (by decide)] at hy h0
  have:=Vx h (k:=k) hy
  rw[decide_eq_true (by omega)] at this
  exact U9 this
theorem V5 (f:Int→Ky→Ky→Bool→Bool):∀ (A B:List It) (tb:Ky) (e:Bool),Zb1 f (A++B) tb e=(Zb1 f A (nxO B tb) (bxO B e)&&Zb1 f B tb e)
 | [],B,tb,e=>by
  show Zb1 f B tb e=(true&&Zb1 f B tb e)
  simp
 | x::r,B,tb,e=>by
  rw[List.cons_append,Zao,V5 f r B tb e,Zao]
  have e1:nxO (r++B) tb=nxO r (nxO B tb):=by cases r <;> rfl
  have e2:bxO (r++B) e=bxO r (bxO B e):=by cases r <;> rfl
  rw[e1,e2,Bool.and_assoc]
theorem Zod {f f':Int→Ky→Ky→Bool→Bool} {A C up:List It} {y z:It} {r:List It} {tb:Ky} {e:Bool} (h:Zb1 f (A++y::C) tb e=true) (hk:A≠[]→z.1=y.1) (hup:up=z::r)
  (hf:∀ x∈A++C,∀ k tb e,f x.2.1 k tb e=true→f' x.2.1 k tb e=true) (hu:Zb1 f' up (nxO C tb) (bxO C e)=true):Zb1 f' (A++(up++C)) tb e=true:=by
 rw[V5,Bool.and_eq_true] at h
 obtain⟨h1,h2⟩:=h
 rw[Zao,Bool.and_eq_true] at h2
 rw[V5,V5,Bool.and_eq_true,Bool.and_eq_true]
 refine⟨?_,hu,Zi8 (fun x hx=>hf x (List.mem_append_right _ hx)) h2.2⟩
 have e1:A≠[]→nxO (up++C) tb=nxO (y::C) tb∧bxO (up++C) e=bxO (y::C) e:=fun hA=>by
  subst hup
  exact⟨hk hA,rfl⟩
 by_cases hA:A=[]
 ·subst hA;rfl
 ·obtain⟨g1,g2⟩:=e1 hA
  rw[g1,g2]
  exact Zi8 (fun x hx=>hf x (List.mem_append_left _ hx)) h1
def Zup (l:List It):Ky:=match l with | []=>Za0 | x::_=>x.1
def upI (l:List It) (k:Int):It:=(Zup l,k,[])
noncomputable def Zq (s:Rm) (lv:Int) (l:List It):Int×Rm×List It :=
 if l.length≤5 then
  if mkE s (lv,l)=0 then (0,mkV s (lv,l),[upI l (mkN s (lv,l))]) else (mkE s (lv,l),Zh,[])
 else if mkE s (lv,l.take 3)=0 then
  if mkE (mkV s (lv,l.take 3)) (lv,l.drop 3)=0 then (0,mkV (mkV s (lv,l.take 3)) (lv,l.drop 3),[upI (l.take 3) (mkN s (lv,l.take 3)),upI (l.drop 3) (mkN (mkV s (lv,l.take 3)) (lv,l.drop 3))])
  else (mkE (mkV s (lv,l.take 3)) (lv,l.drop 3),Zh,[])
 else (mkE s (lv,l.take 3),Zh,[])
theorem Vf {s u:Rm} {lv:Int} {l up:List It} (h:Zq s lv l=(0,u,up)):(mkE s (lv,l)=0∧u=mkV s (lv,l)∧up=[upI l (mkN s (lv,l))]) ∨
  (5<l.length∧mkE s (lv,l.take 3)=0∧mkE (mkV s (lv,l.take 3)) (lv,l.drop 3)=0∧u=mkV (mkV s (lv,l.take 3)) (lv,l.drop 3)∧up=[upI (l.take 3) (mkN s (lv,l.take 3)),upI (l.drop 3) (mkN (mkV s (lv,l.take 3)) (lv,l.drop 3))]):=by
 unfold Zq at h
 split at h
 ·split at h
  ·rename_i h1
   cases h
   exact .inl ⟨h1,rfl,rfl⟩
  ·rename_i h1
   simp only[Prod.mk.injEq] at h
   exact absurd h.1 h1
 ·rename_i h0
  split at h
  ·rename_i h1
   split at h
   ·rename_i h2
    cases h
    exact .inr ⟨by omega,h1,h2,rfl,rfl⟩
   ·rename_i h2
    simp only[Prod.mk.injEq] at h
    exact absurd h.1 h2
  ·rename_i h1
   simp only[Prod.mk.injEq] at h
   exact absurd h.1 h1
noncomputable def Zsf (s:Rm):Nat→List It→Ky→Bool→List It→Prop
 | 0,L,tb,e,M=>Up L∧Y2 s L=true∧(e=true→∀ y∈L,Zp y.1 tb=true)∧M=L
 | l+1,L,tb,e,M=>Zb1 (Yt s l) L tb e=true∧M=L.flatMap fun x=>Za7 s l x.2.1
theorem Zo7 {s t:Rm} (h:X3 s t):∀ {lv:Nat} {L M:List It} {tb:Ky} {e:Bool},Zsf s lv L tb e M→Zsf t lv L tb e M
 | 0,_,_,_,_,hr=>⟨hr.1,Zlz h hr.2.1,hr.2.2⟩
 | l+1,L,M,tb,e,hr=>by
  refine⟨Zd2 (fun a k tb e hf=>(Y0 h l a k tb e hf).1) _ _ _ hr.1,hr.2.trans (U0 fun x hx => ?_)⟩
  obtain⟨t',e',hf⟩:=U7 hr.1 x hx
  exact(Y0 h l _ _ _ _ hf).2.1.symm
theorem Zv3 {s:Rm} {l:Nat} {L:List It} {tb:Ky} (h:Zb1 (Yt s l) L tb true=true):∀ x∈L,Zp x.1 tb=true:=fun x hx=>by
 obtain⟨y,r,rfl⟩:∃ y r,L=y::r:=by
  cases L with
  | nil=>cases hx
  | cons y r=>exact⟨y,r,rfl⟩
 obtain⟨y',r',e',hp⟩:=Zbu (Y5 s l) (y::r) tb true (by simp) h
 cases e'
 obtain⟨t,e2,hf⟩:=U7 h x hx
 obtain⟨z,q,ez,kz⟩:=(Y5 s l _ _ _ _ hf).first
 have:=hp.bound rfl z (List.mem_flatMap.2 ⟨x,hx,by rw[ez];simp⟩)
 rwa [kz] at this
theorem Zyl {s:Rm} {lv:Nat} {L M:List It} {tb:Ky} {e:Bool} {k:Int} (h1:rmE s k=0) (h2:rmV s k=((lv:Int),L)) (hne:L≠[]) (h:Zsf s lv L tb e M):Yt s lv k (Zup L) tb e=true∧Za7 s lv k=M:=by
 obtain⟨x,r,rfl⟩:=List.exists_cons_of_ne_nil hne
 obtain⟨z,hz⟩:∃ z,(x::r).getLast? = some z:=⟨_,List.getLast?_eq_some_getLast (by simp)⟩
 have hin:=List.mem_of_getLast? hz
 have hb:e=true→Zp z.1 tb=true:=fun he=>by
  cases lv with
  | zero=>exact h.2.2.1 he z hin
  | succ l =>
   have h0:=h.1
   rw[he] at h0
   exact Zv3 h0 z hin
 have hh:Zfq (x::r) (Zup (x::r)) tb e=true:=by
  unfold Zfq
  rw[hz]
  cases e with
  | false=>simp[Zup]
  | true=>simp[Zup,hb rfl]
 cases lv with
 | zero =>
  refine⟨?_,by unfold Za7;rw[h2];exact h.2.2.2.symm⟩
  unfold Yt
  rw[h1,h2,hh,h.2.1]
  simp
 | succ l =>
  refine⟨?_,by unfold Za7;rw[h2];exact h.2.symm⟩
  unfold Yt
  rw[h1,h2,hh,h.1]
  simp
theorem Zvb {s:Rm} {lv:Nat} {A B M:List It} {tb:Ky} {e:Bool} (hB:B≠[]) (h:Zsf s lv (A++B) tb e M):∃ M1 M2,M=M1++M2∧Zsf s lv A (Zup B) true M1∧Zsf s lv B tb e M2:=by
 obtain⟨y,r,rfl⟩:=List.exists_cons_of_ne_nil hB
 cases lv with
 | zero =>
  obtain⟨h1,h2,h3,h4⟩:=h
  obtain⟨u1,u2,u3⟩:=List.pairwise_append.1 h1
  have hl:Y2 s A=true∧Y2 s (y::r)=true:=by
   unfold Y2 at h2 ⊢
   rw[List.all_append,Bool.and_eq_true] at h2
   exact h2
  exact⟨A,y::r,h4,⟨u1,hl.1,fun _ z hz=>u3 z hz y List.mem_cons_self,rfl⟩,⟨u2,hl.2,fun he z hz=>h3 he z (List.mem_append_right _ hz),rfl⟩⟩
 | succ l =>
  obtain⟨h1,h2⟩:=h
  rw[V5,Bool.and_eq_true] at h1
  exact⟨_,_,by rw[h2,List.flatMap_append],⟨h1.1,rfl⟩,⟨h1.2,rfl⟩⟩
theorem Zwi {lv:Int} {l:List It} {k:Nat} (h:InN (lv,l)):InN (lv,l.take k):=⟨h.1,fun x hx=>h.2 x (List.mem_of_mem_take hx)⟩
theorem Zvy {lv:Int} {l:List It} {k:Nat} (h:InN (lv,l)):InN (lv,l.drop k):=⟨h.1,fun x hx=>h.2 x (List.mem_of_mem_drop hx)⟩
theorem Zc0 {s:Rm} {lv:Nat} {L M:List It} {tb:Ky} {e:Bool} (h:mkE s ((lv:Int),L)=0) (hi:InN ((lv:Int),L)) (hne:L≠[]) (hr:Zsf s lv L tb e M) :
  Yt (mkV s ((lv:Int),L)) lv (mkN s ((lv:Int),L)) (Zup L) tb e=true∧Za7 (mkV s ((lv:Int),L)) lv (mkN s ((lv:Int),L))=M:=by
 obtain⟨k,e1,_,_,_,_,r1,r2,_⟩:=Z2s hi h
 rw[e1]
 exact Zyl r1 r2 hne (Zo7 (Uf h) hr)
theorem Zg9 {s u:Rm} {lv:Nat} {L up M:List It} {tb:Ky} {e:Bool} (h:Zq s (lv:Int) L=(0,u,up)) (hi:InN ((lv:Int),L)) (hne:L≠[]) (hr:Zsf s lv L tb e M) :
  X3 s u∧Zb1 (Yt u lv) up tb e=true∧(up.flatMap fun x=>Za7 u lv x.2.1)=M∧(∃ z r,up=z::r∧z.1=Zup L):=by
 rcases Vf h with ⟨h1,rfl,rfl⟩ | ⟨h0,h1,h2,rfl,rfl⟩
 ·obtain⟨g1,g2⟩:=Zc0 h1 hi hne hr
  exact⟨Uf h1,g1,by simpa [upI] using g2,_,_,rfl,rfl⟩
 ·have hd:L.drop 3≠[]:=fun e=>by
   have:=congrArg List.length e
   rw[List.length_drop] at this
   simp at this
   omega
  have ht:L.take 3≠[]:=fun e=>by
   have h5:(L.take 3).length=0:=by rw[e];rfl
   rw[List.length_take] at h5
   omega
  obtain⟨M1,M2,rfl,r1,r2⟩:=Zvb hd (show Zsf s lv (L.take 3++L.drop 3) tb e M by rw[List.take_append_drop];exact hr)
  have k1:=Uf h1
  have k2:=Uf h2
  have k12:X3 s (mkV (mkV s ((lv:Int),L.take 3)) ((lv:Int),L.drop 3)):=⟨k2.may,fun i hi=>k2.held i (k1.held i hi),fun i hi=>(k2.seen i (k1.held i hi)).trans (k1.seen i hi)⟩
  obtain⟨g1,g2⟩:=Zc0 h1 (Zwi hi) ht r1
  obtain⟨g3,g4⟩:=Zc0 h2 (Zvy hi) hd (Zo7 k1 r2)
  obtain⟨g5,g6,_⟩:=Y0 k2 lv _ _ _ _ g1
  refine⟨k12,?_,?_,_,_,rfl,?_⟩
  ·exact Bool.and_eq_true_iff.2 ⟨g5,g3⟩
  ·have e1:=g6.trans g2
   have:Za7 (mkV (mkV s ((lv:Int),L.take 3)) ((lv:Int),L.drop 3)) lv (mkN s ((lv:Int),L.take 3))++(Za7 (mkV (mkV s ((lv:Int),L.take 3)) ((lv:Int),L.drop 3)) lv (mkN (mkV s ((lv:Int),L.take 3)) ((lv:Int),L.drop 3))++[])=M1++M2:=by rw[e1,g4,List.append_nil]
   exact this
  ·obtain⟨x,r,ex⟩:=List.exists_cons_of_ne_nil hne
   subst ex
   rfl
def Zak (s:Rm) (a:Int):Rm:=(s.1,s.2.1.set a.toNat (s.2.1[a.toNat]?.getD 0-1),s.2.2)
theorem X8 {s t u:Rm} (h1:X3 s t) (h2:X3 t u):X3 s u:=⟨h2.may,fun i hi=>h2.held i (h1.held i hi),fun i hi=>(h2.seen i (h1.held i hi)).trans (h1.seen i hi)⟩
theorem Zj1 {s:Rm} (h:Xq s=true):X3 s s:=⟨h,fun _ h=>h,fun _ _=>rfl⟩
theorem Zv4 {s:Rm} {a:Int} (h:Y9 s.2.1 a.toNat≠0):dnO s.2.1 a.toNat=some (Zak s a).2.1:=by
 unfold dnO
 rw[if_neg (Zag.1 h)]
 rfl
theorem Zpa {s:Rm} {a:Int} (hm:Xq s=true) (h:2≤Y9 s.2.1 a.toNat):X3 s (Zak s a):=by
 have hd:=Zv4 (s:=s) (a:=a) (by omega)
 obtain⟨_,_,hle,_⟩:=Zcr hd
 obtain⟨c1,c2⟩:=Zlf hd
 obtain⟨m1,m2,m3⟩:=Yb hm
 refine⟨Uj m1 (LeT.may hle m2) m3,fun k hk => ?_,fun _ _=>rfl⟩
 rw[← Zag] at hk ⊢
 by_cases e:k=a.toNat
 ·subst e;omega
 ·rw[c2 k e];exact hk
theorem Zua {s t:Rm} (h:X3 s t) {P:Nat→Nat} {N:List Int} (hE:Enf s.1 s.2.1 P N) {m:Int} (hm:m∈N):ndD t.1 m=ndD s.1 m:=by
 unfold ndD
 rw[h.seen _ (Zag.1 (hE.node m hm).2.2.2)]
theorem Zoo {s:Rm} {P:Nat→Nat} {N:List Int} {a:Int} (hm:Xq s=true) (hE:Enf s.1 s.2.1 (fun i=>P i+if i=a.toNat then 1 else 0) N) (h0:0<a) (hr:∃ n∈N,∃ x∈(ndD s.1 n).2,x.2.1=a):X3 s (Zak s a)∧Enf (Zak s a).1 (Zak s a).2.1 P N:=by
 obtain⟨n,hn,x,hx,hxa⟩:=hr
 have h1:=hE.enough a.toNat
 have h2:=Zd9 hx (k:=a.toNat) (by omega) (by omega)
 have h3:=Zjm (d:=s.1) (k:=a.toNat) hn
 simp only[if_true] at h1
 have h4:2≤Y9 s.2.1 a.toNat:=by omega
 have hd:=Zv4 (s:=s) (a:=a) (by omega)
 have hc:Y9 (Zak s a).2.1 a.toNat≠0:=by
  have:=(Zlf hd).1
  omega
 exact⟨Zpa hm h4,Zy6 hE hd hc⟩
def Zkn (s:Rm) (l:List It):Rm:=l.foldl (fun u x=>Zak u x.2.1) s
theorem Zmm (s:Rm) (x:It) (l:List It):Zkn s (x::l)=Zkn (Zak s x.2.1) l:=rfl
theorem Zkd:∀ (l:List It) {s:Rm} {P:Nat→Nat} {N:List Int},Xq s=true→Enf s.1 s.2.1 (fun i=>P i+Xp l i) N→(∀ x∈l,0<x.2.1∧∃ n∈N,∃ z∈(ndD s.1 n).2,z.2.1=x.2.1)→X3 s (Zkn s l)∧Enf (Zkn s l).1 (Zkn s l).2.1 P N
 | [],s,P,N,hm,hE,_=>⟨Zj1 hm,hE.same fun _=>rfl⟩
 | x::l,s,P,N,hm,hE,hr=>by
  obtain⟨h0,h1⟩:=hr x List.mem_cons_self
  obtain⟨k1,e1⟩:=Zoo (P:=fun i=>P i+Xp l i) hm (hE.same fun i=>by
   have ec:Xp (x::l) i=(if x.2.1=(i:Int) then (if x.2.1=0 then 0 else 1) else 0)+Xp l i:=rfl
   show P i+Xp l i+(if i=x.2.1.toNat then 1 else 0)=P i+Xp (x::l) i
   rw[ec]
   by_cases e:x.2.1=(i:Int)
   ·rw[if_pos e,if_neg (show ¬ x.2.1=0 by omega),if_pos (show i=x.2.1.toNat by omega)];omega
   ·rw[if_neg e,if_neg (show ¬ i=x.2.1.toNat by omega)];omega) h0 h1
  obtain⟨k2,e2⟩:=Zkd l (s:=Zak s x.2.1) (P:=P) (N:=N) k1.may e1 fun y hy=>hr y (List.mem_cons_of_mem _ hy)
  exact⟨X8 k1 k2,e2⟩
theorem Zh4 {s:Rm} {a:Int} (h:rmE s a=0):InN (rmV s a):=by
 obtain⟨k,rfl,_,_,_,_,_,hE,hV,_⟩:=Xi (Ys h).2
 rw[hV]
 rw[hE] at h
 exact(Zee h).2.2
theorem Zwj {l:List It} {k i:Nat} (h:8≤k):Xp [upI l (k:Int)] i=if i=k then 1 else 0:=by
 show (if (k:Int)=(i:Int) then (if (k:Int)=0 then 0 else 1) else 0)+0=_
 by_cases e:i=k
 ·subst e
  rw[if_pos rfl,if_neg (by omega),if_pos rfl]
 ·rw[if_neg (by omega),if_neg e]
theorem Zbf {s u:Rm} {lv:Int} {L up:List It} {P:Nat→Nat} {N:List Int} (h:Zq s lv L=(0,u,up)) (hi:InN (lv,L)) (hE:Enf s.1 s.2.1 P N) (hsub:lv≠0→∀ x∈L,x.2.1∈N∧x.2.1≠0∧(ndD s.1 x.2.1).1+1=lv) :
  ∃ N',Enf u.1 u.2.1 (fun i=>P i+Xp up i) N'∧X3 s u∧(∀ m∈N,m∈N')∧(∀ m∈N,ndD u.1 m=ndD s.1 m)∧(∀ y∈up,y.2.1∈N'∧8≤y.2.1∧y.2.1<256∧(ndD u.1 y.2.1).1=lv)∧(∀ x∈L,∃ n∈N',x∈(ndD u.1 n).2)∧up.length≤2∧u.1.2.length≤s.1.2.length+2:=by
 have hw:∀ {s:Rm} {n:Nd},mkE s n=0→(mkV s n).1.2.length≤s.1.2.length+1:=fun {s n} h=>by
  obtain⟨k,_,_,_,_,_,_,hV,_⟩:=X6 h
  rw[hV]
  simp[wrD]
 rcases Vf h with ⟨h1,rfl,rfl⟩ | ⟨h0,h1,h2,rfl,rfl⟩
 ·obtain⟨k,e1,k8,k256,_,_,hE1,hnd,hndm,_⟩:=Zi4 h1 hi hE hsub
  refine⟨_,hE1.same fun i=>by rw[e1,Zwj k8],Uf h1,fun m hm=>List.mem_cons_of_mem _ hm,hndm,fun y hy => ?_,fun x hx=>⟨k,List.mem_cons_self,by rw[hnd];exact hx⟩,by simp,by have:=hw h1;omega⟩
  rw[List.mem_singleton.1 hy,e1]
  exact⟨List.mem_cons_self,by show (8:Int)≤k;omega,by show (k:Int)<256;omega,by show (ndD _ (k:Int)).1=_;rw[hnd]⟩
 ·have hst:lv≠0→∀ x∈L.take 3,x.2.1∈N∧x.2.1≠0∧(ndD s.1 x.2.1).1+1=lv:=fun hl x hx=>hsub hl x (List.mem_of_mem_take hx)
  obtain⟨k,e1,k8,k256,_,_,hE1,hnd,hndm,_⟩:=Zi4 h1 (Zwi hi) hE hst
  obtain⟨j,e2,j8,j256,_,hjN,hE2,hnd2,hndm2,_⟩:=Zi4 h2 (Zvy hi) hE1 fun hl x hx=>by
   obtain⟨g1,g2,g3⟩:=hsub hl x (List.mem_of_mem_drop hx)
   exact⟨List.mem_cons_of_mem _ g1,g2,by rw[hndm _ g1];exact g3⟩
  have hkk:ndD (mkV (mkV s (lv,L.take 3)) (lv,L.drop 3)).1 (k:Int)=(lv,L.take 3):=(hndm2 _ List.mem_cons_self).trans hnd
  refine⟨_,hE2.same fun i => ?_,X8 (Uf h1) (Uf h2),fun m hm=>List.mem_cons_of_mem _ (List.mem_cons_of_mem _ hm),fun m hm=>(hndm2 m (List.mem_cons_of_mem _ hm)).trans (hndm m hm),fun y hy => ?_,fun x hx => ?_,by simp,by have:=hw h1;have:=hw h2;omega⟩
  ·have ec:Xp [upI (L.take 3) (mkN s (lv,L.take 3)),upI (L.drop 3) (mkN (mkV s (lv,L.take 3)) (lv,L.drop 3))] i=Xp [upI (L.take 3) (mkN s (lv,L.take 3))] i+Xp [upI (L.drop 3) (mkN (mkV s (lv,L.take 3)) (lv,L.drop 3))] i:=by
    show _+(_+0)=(_+0)+(_+0)
    omega
   rw[ec,e1,e2,Zwj k8,Zwj j8]
   omega
  ·rcases List.mem_cons.1 hy with rfl | hy
   ·rw[e1]
    exact⟨List.mem_cons_of_mem _ List.mem_cons_self,by show (8:Int)≤k;omega,by show (k:Int)<256;omega,by show (ndD _ (k:Int)).1=_;rw[hkk]⟩
   ·rw[List.mem_singleton.1 hy,e2]
    exact⟨List.mem_cons_self,by show (8:Int)≤j;omega,by show (j:Int)<256;omega,by show (ndD _ (j:Int)).1=_;rw[hnd2]⟩
  ·rw[← List.take_append_drop 3 L] at hx
   rcases List.mem_append.1 hx with hx | hx
   ·exact⟨k,List.mem_cons_of_mem _ List.mem_cons_self,by rw[hkk];exact hx⟩
   ·exact⟨j,List.mem_cons_self,by rw[hnd2];exact hx⟩
def Zai (l:List It) (p many:Nat) (up:List It):List It:=l.take p++(up++l.drop (p+many))
noncomputable def Zb0 (n:Nd) (k:Ky):Int:=((n.2[Xb n k]?).map fun y=>y.2.1).getD 0
noncomputable def Zn (x:It):Nat→Rm→Int→Int×Rm×List It
 | 0,s,a =>
  if (Zq s 0 (Zai (rmV s a).2 (Zz (rmV s a) x.1) (if Yg (rmV s a) x.1=true then 1 else 0) [x])).1=0 then
   (0,(if x.2.1=0 then (Zq s 0 (Zai (rmV s a).2 (Zz (rmV s a) x.1) (if Yg (rmV s a) x.1=true then 1 else 0) [x])).2.1 else Zak (Zq s 0 (Zai (rmV s a).2 (Zz (rmV s a) x.1) (if Yg (rmV s a) x.1=true then 1 else 0) [x])).2.1 x.2.1),(Zq s 0 (Zai (rmV s a).2 (Zz (rmV s a) x.1) (if Yg (rmV s a) x.1=true then 1 else 0) [x])).2.2)
  else ((Zq s 0 (Zai (rmV s a).2 (Zz (rmV s a) x.1) (if Yg (rmV s a) x.1=true then 1 else 0) [x])).1,Zh,[])
 | l+1,s,a =>
  if (Zn x l s (Zb0 (rmV s a) x.1)).1=0 then
   if (Zq (Zn x l s (Zb0 (rmV s a) x.1)).2.1 ((l+1:Nat):Int) (Zai (rmV s a).2 (Xb (rmV s a) x.1) 1 (Zn x l s (Zb0 (rmV s a) x.1)).2.2)).1=0 then
    (0,Zkn (Zq (Zn x l s (Zb0 (rmV s a) x.1)).2.1 ((l+1:Nat):Int) (Zai (rmV s a).2 (Xb (rmV s a) x.1) 1 (Zn x l s (Zb0 (rmV s a) x.1)).2.2)).2.1 (Zn x l s (Zb0 (rmV s a) x.1)).2.2,
     (Zq (Zn x l s (Zb0 (rmV s a) x.1)).2.1 ((l+1:Nat):Int) (Zai (rmV s a).2 (Xb (rmV s a) x.1) 1 (Zn x l s (Zb0 (rmV s a) x.1)).2.2)).2.2)
   else ((Zq (Zn x l s (Zb0 (rmV s a) x.1)).2.1 ((l+1:Nat):Int) (Zai (rmV s a).2 (Xb (rmV s a) x.1) 1 (Zn x l s (Zb0 (rmV s a) x.1)).2.2)).1,Zh,[])
  else ((Zn x l s (Zb0 (rmV s a) x.1)).1,Zh,[])
theorem Zq4 {x:It} {s u:Rm} {a:Int} {up:List It} (h:Zn x 0 s a=(0,u,up)):∃ u0,Zq s 0 (Zai (rmV s a).2 (Zz (rmV s a) x.1) (if Yg (rmV s a) x.1=true then 1 else 0) [x])=(0,u0,up)∧u=if x.2.1=0 then u0 else Zak u0 x.2.1:=by
 unfold Zn at h
 generalize hb:Zq s 0 _=b at h
 obtain⟨e,v,q⟩:=b
 split at h
 ·rename_i h0
  cases h
  exact⟨v,by rw[show e=0 from h0],rfl⟩
 ·rename_i h0
  simp only[Prod.mk.injEq] at h
  exact absurd h.1 h0
theorem Zn8 {x:It} {l:Nat} {s u:Rm} {a:Int} {up:List It} (h:Zn x (l+1) s a=(0,u,up)):∃ u1 up1 u2,Zn x l s (Zb0 (rmV s a) x.1)=(0,u1,up1)∧Zq u1 ((l+1:Nat):Int) (Zai (rmV s a).2 (Xb (rmV s a) x.1) 1 up1)=(0,u2,up)∧u=Zkn u2 up1:=by
 unfold Zn at h
 generalize hg:Zn x l s _=g at h
 obtain⟨e,u1,up1⟩:=g
 generalize hb:Zq _ _ _=b at h
 obtain⟨f,u2,q⟩:=b
 split at h
 ·rename_i h0
  split at h
  ·rename_i h1
   cases h
   exact⟨u1,up1,u2,by rw[show e=0 from h0],by rw[← show f=0 from h1];exact hb,rfl⟩
  ·rename_i h1
   simp only[Prod.mk.injEq] at h
   exact absurd h.1 h1
 ·rename_i h0
  simp only[Prod.mk.injEq] at h
  exact absurd h.1 h0
theorem Zm2 {s u:Rm} {lv:Int} {L up:List It} (h:Zq s lv L=(0,u,up)) (hne:L≠[]):∀ y∈up,∃ q∈L,y.1=q.1:=by
 have hk:∀ {M:List It},M≠[]→∃ q∈M,Zup M=q.1:=fun {M} hM=>by
  obtain⟨q,r,rfl⟩:=List.exists_cons_of_ne_nil hM
  exact⟨q,List.mem_cons_self,rfl⟩
 rcases Vf h with ⟨_,_,rfl⟩ | ⟨h0,_,_,_,rfl⟩
 ·intro y hy
  rw[List.mem_singleton.1 hy]
  exact hk hne
 ·have hd:L.drop 3≠[]:=fun e=>by
   have:=congrArg List.length e
   rw[List.length_drop] at this
   simp at this
   omega
  have ht:L.take 3≠[]:=fun e=>by
   have h5:(L.take 3).length=0:=by rw[e];rfl
   rw[List.length_take] at h5
   omega
  intro y hy
  rcases List.mem_cons.1 hy with rfl | hy
  ·obtain⟨q,hq,e⟩:=hk ht
   exact⟨q,List.mem_of_mem_take hq,e⟩
  ·rw[List.mem_singleton.1 hy]
   obtain⟨q,hq,e⟩:=hk hd
   exact⟨q,List.mem_of_mem_drop hq,e⟩
theorem Zyx {y:It} {r:List It} {x:It} (h:Up (y::r)) (hx:Zp x.1 y.1=false):Zup (Vi (y::r) x)=y.1:=by
 unfold Vi
 cases hy:Zp y.1 x.1 with
 | true =>
  rw[List.filter_cons_of_pos (by simpa using hy)]
  rfl
 | false =>
  have e:y.1=x.1:=by
   by_cases e:y.1=x.1
   ·exact e
   ·rw[Za1 e hy] at hx;cases hx
  rw[V4 (L:=y::r) fun z hz => ?_]
  ·exact e.symm
  ·rcases List.mem_cons.1 hz with rfl | hz
   ·exact hy
   ·rw[← e]
    exact U9 ((List.pairwise_cons.1 h).1 z hz)
noncomputable def Z5f (s:Rm):Nat→List It→Ky→Bool→Bool
 | 0,L,_,_=>Y2 s L
 | j+1,L,tb,e=>Zb1 (Yt s j) L tb e
structure Zse (s:Rm) (l:Nat) (a:Int) (tb:Ky) (e:Bool):Prop where
 ok:rmE s a=0
 lv:(rmV s a).1=(l:Int)
 inn:Z5f s l (rmV s a).2 tb e=true
 low:e=true→∀ y∈(rmV s a).2,Zp y.1 tb=true
theorem Zme {s:Rm} {l:Nat} {a:Int} {k tb:Ky} {e:Bool} (h:Yt s l a k tb e=true):Zse s l a tb e∧∀ y r,(rmV s a).2=y::r→y.1=k:=by
 obtain⟨r1,r2,r3,r4⟩:=Xv h
 obtain⟨y,r,e1,e2,e3⟩:=Zcm r3
 refine⟨⟨r1,r2,by cases l <;> exact r4,fun he => ?_⟩,fun y' r' e' => ?_⟩
 ·obtain⟨z,hz,hb⟩:=e3 he
  exact Zsz (Za2 (Ys r1).1) hz hb
 ·rw[e1] at e'
  cases e'
  exact e2
theorem Zjs {s:Rm} {a:Int} (h:X2 s a=true):Zse s (rmV s a).1.toNat a Za0 false:=by
 obtain⟨r1,_,_,l0,_,hi⟩:=Uh h
 refine⟨r1,by omega,?_,fun he=>by cases he⟩
 unfold Zfg at hi
 cases hl:(rmV s a).1.toNat with
 | zero=>rw[hl] at hi;exact hi
 | succ j=>rw[hl] at hi;exact hi
def Zbh (x:It) (i:Nat):Nat:=if x.2.1≠0∧i=x.2.1.toNat then 1 else 0
structure Zhn (s u:Rm) (P:Nat→Nat) (N N':List Int) (l:Nat) (a:Int) (up:List It) (x:It) (tb:Ky) (e:Bool):Prop where
 keep:X3 s u
 its:Zb1 (Yt u l) up tb e=true
 all:(up.flatMap fun y=>Za7 u l y.2.1)=Vi (Za7 s l a) x
 first:∃ z r,up=z::r∧∀ y q,(rmV s a).2=y::q→Zp x.1 y.1=false→z.1=y.1
 enf:Enf u.1 u.2.1 (fun i=>P i+Xp up i) N'
 more:∀ m∈N,m∈N'
 ups:∀ y∈up,y.2.1∈N'∧8≤y.2.1∧y.2.1<256∧(ndD u.1 y.2.1).1=(l:Int)
 inI:∀ y∈up,InI y
 few:up.length≤2
 writes:u.1.2.length≤s.1.2.length+2*(l+1)
theorem Zrb {x:It} (hx:InI x) {s u:Rm} {a:Int} {tb:Ky} {e:Bool} {P:Nat→Nat} {N:List Int} {up:List It} (ht:Zse s 0 a tb e) (hb:e=true→Zp x.1 tb=true) (hr:x.2.1=0∨(0<x.2.1∧s.2.1[x.2.1.toNat]?.getD 0≠0))
  (hE:Enf s.1 s.2.1 (fun i=>P i+Zbh x i) N) (h:Zn x 0 s a=(0,u,up)):∃ N',Zhn s u P N N' 0 a up x tb e:=by
 obtain⟨u0,h1,rfl⟩:=Zq4 h
 have hm:=(Ys ht.ok).1
 have el:Zai (rmV s a).2 (Zz (rmV s a) x.1) (if Yg (rmV s a) x.1=true then 1 else 0) [x]=Vi (rmV s a).2 x:=Zf5 hm x
 rw[el] at h1
 have hin:x∈Vi (rmV s a).2 x:=Zce.2 (.inl rfl)
 have hne:Vi (rmV s a).2 x≠[]:=fun e=>by rw[e] at hin;cases hin
 have hi:InN ((0:Int),Vi (rmV s a).2 x):=⟨⟨by simp,by simp⟩,fun y hy=>by
  rcases Zce.1 hy with rfl | ⟨hy,_⟩
  ·exact hx
  ·exact(Zh4 ht.ok).it y hy⟩
 have hrow:Zsf s 0 (Vi (rmV s a).2 x) tb e (Vi (rmV s a).2 x):=by
  refine⟨Z2c (Za2 hm) x,?_,fun he y hy => ?_,rfl⟩
  ·have h2:Y2 s (rmV s a).2=true:=ht.inn
   unfold Y2 at h2 ⊢
   rw[List.all_eq_true] at h2 ⊢
   intro y hy
   rcases Zce.1 hy with rfl | ⟨hy,_⟩
   ·rcases hr with hr | hr
    ·simp[hr]
    ·simp[hr.2]
   ·exact h2 y hy
  ·rcases Zce.1 hy with rfl | ⟨hy,_⟩
   ·exact hb he
   ·exact ht.low he y hy
 obtain⟨k1,g1,g2,z,r,ez,kz⟩:=Zg9 (lv:=0) h1 hi hne hrow
 obtain⟨N',e1,_,e3,e4,e5,e6,e7,e8⟩:=Zbf h1 hi hE fun h0=>absurd rfl h0
 have hK:X3 u0 (if x.2.1=0 then u0 else Zak u0 x.2.1)∧Enf (if x.2.1=0 then u0 else Zak u0 x.2.1).1 (if x.2.1=0 then u0 else Zak u0 x.2.1).2.1 (fun i=>P i+Xp up i) N':=by
  by_cases h0:x.2.1=0
  ·rw[if_pos h0]
   exact⟨Zj1 k1.may,e1.same fun i=>by simp[Zbh,h0]⟩
  ·rw[if_neg h0]
   obtain⟨n,hn,hxn⟩:=e6 x hin
   have hpos:0<x.2.1:=by rcases hr with hr | hr <;> omega
   refine Zoo k1.may (e1.same fun i => ?_) hpos ⟨n,hn,x,hxn,rfl⟩
   show P i+Xp up i+(if i=x.2.1.toNat then 1 else 0)=P i+Zbh x i+Xp up i
   unfold Zbh
   by_cases ei:i=x.2.1.toNat
   ·rw[if_pos ei,if_pos ⟨h0,ei⟩];omega
   ·rw[if_neg ei,if_neg fun h=>ei h.2];omega
 obtain⟨k2,e9⟩:=hK
 have hnd:∀ m∈N',ndD (if x.2.1=0 then u0 else Zak u0 x.2.1).1 m=ndD u0.1 m:=fun m hm=>by
  by_cases h0:x.2.1=0
  ·rw[if_pos h0]
  ·rw[if_neg h0];rfl
 refine⟨N',X8 k1 k2,Zd2 (fun a k tb e hf=>(Y0 k2 0 a k tb e hf).1) _ _ _ g1,?_,⟨z,r,ez,fun y q ey hxy => ?_⟩,e9,e3,fun y hy => ?_,fun y hy => ?_,e7,?_⟩
 ·rw[show Za7 s 0 a=(rmV s a).2 from rfl,← g2]
  exact U0 fun y hy=>by
   obtain⟨t',e',hf⟩:=U7 g1 y hy
   exact(Y0 k2 0 _ _ _ _ hf).2.1
 ·rw[kz,ey]
  exact Zyx (by rw[← ey];exact Za2 hm) hxy
 ·obtain⟨f1,f2,f3,f4⟩:=e5 y hy
  exact⟨f1,f2,f3,by rw[hnd _ f1];exact f4⟩
 ·obtain⟨q,hq,eq⟩:=Zm2 h1 hne y hy
  obtain⟨_,f2,f3,_⟩:=e5 y hy
  exact⟨by rw[eq];exact(hi.it q hq).key,⟨by omega,by omega⟩⟩
 ·have:(if x.2.1=0 then u0 else Zak u0 x.2.1).1=u0.1:=by
   by_cases h0:x.2.1=0
   ·rw[if_pos h0]
   ·rw[if_neg h0];rfl
  rw[this]
  omega
theorem Zjg {n:Nd} {k:Ky} {y:It} (hy:n.2[Xb n k]? = some y):n.2=n.2.take (Xb n k)++y::n.2.drop (Xb n k+1):=by
 obtain⟨hp,hg⟩:=List.getElem?_eq_some_iff.1 hy
 conv=>lhs;rw[← List.take_append_drop (Xb n k) n.2,List.drop_eq_getElem_cons hp,hg]
theorem Zng {x:It} {l:Nat} (h6:l+1<6) {s u:Rm} {a:Int} {tb:Ky} {e:Bool} {P:Nat→Nat} {N:List Int} {up:List It}
  (ih:∀ {u:Rm} {a:Int} {tb:Ky} {e:Bool} {up:List It},Zse s l a tb e→(e=true→Zp x.1 tb=true)→a∈N→Zn x l s a=(0,u,up)→∃ N',Zhn s u P N N' l a up x tb e)
  (ht:Zse s (l+1) a tb e) (hb:e=true→Zp x.1 tb=true) (ha:a∈N) {Q:Nat→Nat} (hE:Enf s.1 s.2.1 Q N) (h:Zn x (l+1) s a=(0,u,up)):∃ N',Zhn s u P N N' (l+1) a up x tb e:=by
 obtain⟨u1,up1,u2,h1,h2,rfl⟩:=Zn8 h
 have hm:=(Ys ht.ok).1
 have hne:0<(rmV s a).2.length:=(Z2 hm).1.2.2.2 (by rw[ht.lv];omega)
 obtain⟨y,hy⟩:∃ y,(rmV s a).2[Xb (rmV s a) x.1]? = some y:=⟨_,List.getElem?_eq_getElem (Zc6 x.1 hne)⟩
 have hw:=Zjg hy
 have hyin:y∈(rmV s a).2:=List.mem_of_getElem? hy
 have hir:Zb0 (rmV s a) x.1=y.2.1:=by unfold Zb0;rw[hy];rfl
 rw[hir] at h1
 have hbe:=fun(i:Nat) (c:It) (hi:Xb (rmV s a) x.1<i) (hc:(rmV s a).2[i]? = some c)=>Zh6 hm hi hc
 have hown:=Z2u hm hy
 have hA0:(rmV s a).2.take (Xb (rmV s a) x.1)≠[]→Zp x.1 y.1=false:=fun hA=>hown fun e=>hA (by rw[e];rfl)
 have hCk:∀ c r,(rmV s a).2.drop (Xb (rmV s a) x.1+1)=c::r→Zp x.1 c.1=true:=fun c r hc=>by
  refine hbe (Xb (rmV s a) x.1+1) c (by omega) ?_
  have:=congrArg (fun l=>l[0]?) hc
  simpa [List.getElem?_drop] using this
 have eL:Zai (rmV s a).2 (Xb (rmV s a) x.1) 1 up1=(rmV s a).2.take (Xb (rmV s a) x.1)++(up1++(rmV s a).2.drop (Xb (rmV s a) x.1+1)):=rfl
 rw[eL] at h2
 generalize hAe:(rmV s a).2.take (Xb (rmV s a) x.1)=A at *
 generalize hCe:(rmV s a).2.drop (Xb (rmV s a) x.1+1)=C at *
 have hinn:Zb1 (Yt s l) (rmV s a).2 tb e=true:=ht.inn
 rw[hw] at hinn
 have hsp:=hinn
 rw[V5,Bool.and_eq_true,Zao,Bool.and_eq_true] at hsp
 obtain⟨iA,iy,iC⟩:=hsp
 obtain⟨hty,htk⟩:=Zme iy
 have hbC:bxO C e=true→Zp x.1 (nxO C tb)=true:=fun he=>by
  cases hC:C with
  | nil=>rw[hC] at he;exact hb he
  | cons c r=>exact hCk c r hC
 have hnd:ndD s.1 a=rmV s a:=Zmp ht.ok
 have hsh:∀ q∈(rmV s a).2,q.2.1∈N∧q.2.1≠0∧(ndD s.1 q.2.1).1+1=((l+1:Nat):Int):=fun q hq=>by
  have:=hE.shut a ha (by rw[hnd,ht.lv];omega) q (by rw[hnd];exact hq)
  rw[hnd,ht.lv] at this
  exact this
 obtain⟨N1,G⟩:=ih hty hbC (hsh y hyin).1 h1
 obtain⟨z1,r1,ez1,kz1⟩:=G.first
 have hz1:Zp x.1 y.1=false→z1.1=y.1:=fun hxy=>by
  obtain⟨y0,q0,e0,_⟩:∃ y0 q0,(rmV s y.2.1).2=y0::q0∧True:=by
   obtain⟨_,_,r3,_⟩:=Xv iy
   obtain⟨y0,q0,e0,_⟩:=Zcm r3
   exact⟨y0,q0,e0,trivial⟩
  have k0:=htk y0 q0 e0
  rw[kz1 y0 q0 e0 (by rw[k0];exact hxy),k0]
 have hits:Zb1 (Yt u1 l) (A++(up1++C)) tb e=true:=Zod hinn (fun hA=>hz1 (hA0 hA)) ez1 (fun q _ k tb e hf=>(Y0 G.keep l _ _ _ _ hf).1) G.its
 have hfA:(A.flatMap fun q=>Za7 u1 l q.2.1)=A.flatMap fun q=>Za7 s l q.2.1:=U0 fun q hq=>by
  obtain⟨t',e',hf⟩:=U7 iA q hq
  exact(Y0 G.keep l _ _ _ _ hf).2.1
 have hfC:(C.flatMap fun q=>Za7 u1 l q.2.1)=C.flatMap fun q=>Za7 s l q.2.1:=U0 fun q hq=>by
  obtain⟨t',e',hf⟩:=U7 iC q hq
  exact(Y0 G.keep l _ _ _ _ hf).2.1
 have hpA:∀ q∈A.flatMap (fun q=>Za7 s l q.2.1),Zp q.1 x.1=true:=fun q hq=>by
  by_cases hA:A=[]
  ·rw[hA] at hq;cases hq
  ·have iA':Zb1 (Yt s l) A y.1 true=true:=iA
   obtain⟨_,_,_,hp⟩:=Zbu (Y5 s l) A y.1 true hA iA'
   exact Z1i (hp.bound rfl q hq) (hA0 hA)
 have hpC:∀ q∈C.flatMap (fun q=>Za7 s l q.2.1),Zp x.1 q.1=true:=fun q hq=>by
  by_cases hC:C=[]
  ·rw[hC] at hq;cases hq
  ·obtain⟨c,r,ec,hp⟩:=Zbu (Y5 s l) C tb e hC iC
   have hc:=hCk c r ec
   rcases hp.ge q hq with e1 | e1
   ·rw[e1];exact hc
   ·exact Y1 hc e1
 have hall:((A++(up1++C)).flatMap fun q=>Za7 u1 l q.2.1)=Vi (Za7 s (l+1) a) x:=by
  have e1:Za7 s (l+1) a=(rmV s a).2.flatMap fun q=>Za7 s l q.2.1:=rfl
  rw[e1,hw,List.flatMap_append,List.flatMap_append,List.flatMap_append,List.flatMap_cons,hfA,hfC,G.all,Zpc hpA hpC]
 have hin:InN (((l+1:Nat):Int),A++(up1++C)):=⟨⟨by show (-9223372036854775808:Int)≤((l+1:Nat):Int);omega,by show ((l+1:Nat):Int)≤9223372036854775807;omega⟩,fun q hq=>by
  have hN:=(Zh4 ht.ok).it
  rw[hw] at hN
  rcases List.mem_append.1 hq with hq | hq
  ·exact hN q (List.mem_append_left _ hq)
  ·rcases List.mem_append.1 hq with hq | hq
   ·exact G.inI q hq
   ·exact hN q (List.mem_append_right _ (List.mem_cons_of_mem _ hq))⟩
 have hnL:A++(up1++C)≠[]:=by rw[ez1];simp
 have hrow:Zsf u1 (l+1) (A++(up1++C)) tb e (Vi (Za7 s (l+1) a) x):=⟨hits,hall.symm⟩
 obtain⟨k2,g1,g2,z,r,ez,kz⟩:=Zg9 h2 hin hnL hrow
 obtain⟨N2,e1,_,e3,e4,e5,e6,e7,e8⟩:=Zbf h2 hin G.enf fun _ q hq=>by
  have Zbh:∀ q∈(rmV s a).2,q.2.1∈N1∧q.2.1≠0∧(ndD u1.1 q.2.1).1+1=((l+1:Nat):Int):=fun q hq=>by
   obtain⟨f1,f2,f3⟩:=hsh q hq
   exact⟨G.more _ f1,f2,by rw[Zua G.keep hE f1];exact f3⟩
  rw[hw] at Zbh
  rcases List.mem_append.1 hq with hq | hq
  ·exact Zbh q (List.mem_append_left _ hq)
  ·rcases List.mem_append.1 hq with hq | hq
   ·obtain⟨f1,f2,f3,f4⟩:=G.ups q hq
    exact⟨f1,by omega,by rw[f4];omega⟩
   ·exact Zbh q (List.mem_append_right _ (List.mem_cons_of_mem _ hq))
 obtain⟨k3,e9⟩:=Zkd up1 (s:=u2) (P:=fun i=>P i+Xp up i) (N:=N2) k2.may (e1.same fun i=>by show P i+Xp up i+Xp up1 i=P i+Xp up1 i+Xp up i;omega) fun q hq=>by
  obtain⟨_,f2,_,_⟩:=G.ups q hq
  obtain⟨n,hn,hqn⟩:=e6 q (List.mem_append_right _ (List.mem_append_left _ hq))
  exact⟨by omega,n,hn,q,hqn,rfl⟩
 have hd:(Zkn u2 up1).1=u2.1:=by
  clear k3 e9 e1
  have:∀ (l:List It) (v:Rm),(Zkn v l).1=v.1:=by
   intro l
   induction l with
   | nil=>intro v;rfl
   | cons q r ih=>intro v;rw[Zmm,ih];rfl
  exact this up1 u2
 refine⟨N2,X8 (X8 G.keep k2) k3,Zd2 (fun a k tb e hf=>(Y0 k3 (l+1) a k tb e hf).1) _ _ _ g1,?_,⟨z,r,ez,fun y0 q0 e0 hxy => ?_⟩,e9,fun m hm=>e3 m (G.more m hm),fun q hq => ?_,fun q hq => ?_,e7,?_⟩
 ·rw[← g2]
  exact U0 fun q hq=>by
   obtain⟨t',e',hf⟩:=U7 g1 q hq
   exact(Y0 k3 (l+1) _ _ _ _ hf).2.1
 ·rw[kz]
  rw[hw] at e0
  cases hA:A with
  | nil =>
   rw[hA] at e0
   cases e0
   rw[ez1]
   exact hz1 hxy
  | cons c r0 =>
   rw[hA] at e0
   cases e0
   rfl
 ·rw[hd]
  exact e5 q hq
 ·obtain⟨p,hp,ep⟩:=Zm2 h2 hnL q hq
  obtain⟨_,f2,f3,_⟩:=e5 q hq
  exact⟨by rw[ep];exact(hin.it p hp).key,⟨by omega,by omega⟩⟩
 ·rw[hd]
  have:=G.writes
  omega
theorem Zf9 {x:It} (hx:InI x) {s:Rm} {P:Nat→Nat} {N:List Int} (hr:x.2.1=0∨(0<x.2.1∧s.2.1[x.2.1.toNat]?.getD 0≠0)) (hE:Enf s.1 s.2.1 (fun i=>P i+Zbh x i) N):∀ (l:Nat),l<6→∀ {u:Rm} {a:Int} {tb:Ky} {e:Bool} {up:List It},Zse s l a tb e→(e=true→Zp x.1 tb=true)→a∈N→Zn x l s a=(0,u,up)→∃ N',Zhn s u P N N' l a up x tb e
 | 0,_,_,_,_,_,_,ht,hb,_,h=>Zrb hx ht hb hr hE h
 | l+1,h6,_,_,_,_,_,ht,hb,ha,h=>Zng h6 (fun ht hb ha h=>Zf9 hx hr hE l (by omega) ht hb ha h) ht hb ha hE h
noncomputable def Znd (s:Rm):Nat→Int→Ky→Bool
 | 0,a,k=>decide (5≤(rmV s a).2.length) && !Yg (rmV s a) k
 | l+1,a,k=>decide (5≤(rmV s a).2.length)&&Znd s l (Zb0 (rmV s a) k) k
noncomputable def Znz (s:Rm) (a:Int) (k:Ky):Bool:=decide ((rmV s a).1=5)&&Znd s 5 a k
noncomputable def X5 (s:Rm) (lv:Int) (up:List It):Int×Rm×List It :=
 if 1<up.length then
  if (Zq s (lv+1) up).1=0 then (0,Zkn (Zq s (lv+1) up).2.1 up,(Zq s (lv+1) up).2.2) else ((Zq s (lv+1) up).1,Zh,[])
 else (0,s,up)
def Zfk (up:List It):Int:=match up with | []=>0 | z::_=>z.2.1
noncomputable def Zjf (s:Rm) (a:Int) (x:It):Int×Rm×Int :=
 if Znz s a x.1 then (120,Zh,0)
 else if (Zn x (rmV s a).1.toNat s a).1=0 then
  if (X5 (Zn x (rmV s a).1.toNat s a).2.1 (rmV s a).1 (Zn x (rmV s a).1.toNat s a).2.2).1=0 then
   match lfO (X5 (Zn x (rmV s a).1.toNat s a).2.1 (rmV s a).1 (Zn x (rmV s a).1.toNat s a).2.2).2.1.1 (X5 (Zn x (rmV s a).1.toNat s a).2.1 (rmV s a).1 (Zn x (rmV s a).1.toNat s a).2.2).2.1.2.1 a.toNat with
   | none=>(8,Zh,0)
   | some v=>(0,((X5 (Zn x (rmV s a).1.toNat s a).2.1 (rmV s a).1 (Zn x (rmV s a).1.toNat s a).2.2).2.1.1,v,(X5 (Zn x (rmV s a).1.toNat s a).2.1 (rmV s a).1 (Zn x (rmV s a).1.toNat s a).2.2).2.1.2.2),Zfk (X5 (Zn x (rmV s a).1.toNat s a).2.1 (rmV s a).1 (Zn x (rmV s a).1.toNat s a).2.2).2.2)
  else ((X5 (Zn x (rmV s a).1.toNat s a).2.1 (rmV s a).1 (Zn x (rmV s a).1.toNat s a).2.2).1,Zh,0)
 else ((Zn x (rmV s a).1.toNat s a).1,Zh,0)
noncomputable def Z5d (s:Rm) (a:Int) (x:It):Int×Rm×Int :=
 if ckE s a=0 then if Zap x then if x.2.1≠0∧s.2.1[x.2.1.toNat]?.getD 0=0 then (6,Zh,0) else Zjf s a x else (8,Zh,0) else (ckE s a,Zh,0)
theorem Zuk {s u:Rm} {lv:Int} {up top:List It} (h:X5 s lv up=(0,u,top)):(up.length≤1∧u=s∧top=up)∨(1<up.length∧∃ u0,Zq s (lv+1) up=(0,u0,top)∧u=Zkn u0 up):=by
 unfold X5 at h
 split at h
 ·rename_i h0
  generalize hb:Zq s (lv+1) up=b at h
  obtain⟨e,v,q⟩:=b
  split at h
  ·rename_i h1
   cases h
   exact .inr ⟨h0,v,by rw[show e=0 from h1],rfl⟩
  ·rename_i h1
   simp only[Prod.mk.injEq] at h
   exact absurd h.1 h1
 ·cases h
  exact .inl ⟨by omega,rfl,rfl⟩
def Zh5:Rm:=(Zal,Zu 256,Zu 256)
theorem Zxb (w:World):Calls Tryz.prog 24 #[] w fun e w'=>∃ t,e=.returned t∧Sto (New w.heap.size w') w' t Zh5∧Below w.heap.size w w':=by
 obtain⟨w1,hw1,f1,hsz,hB⟩:=Xt w (.slice none 0 0) (.slice none 0 0) (.slice none 0 0) (.slice none 0 0) 29
 have hz:Hid ((Zu 256).length=256):=Za (Zat 256)
 replace hsz:=Za hsz
 go_enter Tryz.func24,Tryz.ntmps24
 go_upto_region 1 with fail
 clear hw1
 go_wp2_with fail
 with_reducible refine(Z2v _).mono ?_
 rintro e w2 ⟨u,rfl,h2,hb2⟩
 obtain⟨P,p,Q,r,rfl,_⟩:=id h2.open
 have H2:=Za h2
 have F2:=(hb2.block w.heap.size (by rw[hsz.out];omega)).trans f1
 have B2:=Za (hB.trans (hb2.mono hB.size))
 have s2:Hid (w.heap.size+1≤w1.heap.size∧w1.heap.size≤w2.heap.size):=Za ⟨by rw[hsz.out];omega,hb2.size⟩
 clear h2 hb2 f1
 go_wp2_with fail
 with_reducible refine(Zk0 _).mono ?_
 rintro e w3 ⟨g3,rfl,h3,hb3⟩
 have H3:=Za h3
 have D3:=Za (H2.out.new (Nat.le_refl _) hb3)
 have F3:=(hb3.block w.heap.size (by have:=s2.out;omega)).trans F2
 have B3:=Za (B2.out.trans (hb3.mono B2.out.size))
 have s3:Hid (w2.heap.size≤w3.heap.size):=Za hb3.size
 clear h3 hb3 F2 H2
 go_wp2_with fail
 with_reducible refine(Zk0 _).mono ?_
 rintro e w4 ⟨g4,rfl,h4,hb4⟩
 have D4:=D3.out.new (Nat.le_refl _) hb4
 have N4:=Zf.new H3.out (Nat.le_refl _) hb4
 have F4:=(hb4.block w.heap.size (by have:=s2.out;have:=s3.out;omega)).trans F3
 have B4:=B3.out.trans (hb4.mono B3.out.size)
 obtain⟨c0,c1,c2,c3,c4,c5⟩:=Ze F4
 obtain⟨W9,hW9,g9,gr9,gs9⟩:=Zs (a':=.slice P Zal.1.length p) (b':=.slice Q Zal.2.length r) (c':=.slice (some ⟨g3,0,none⟩) 256 256) (d':=.slice (some ⟨g4,0,none⟩) 256 256) F4
 obtain⟨n0,n1,n2,n3,_,_⟩:=Ze g9
 have q2:=s2.out
 have q3:=s3.out
 have l2:=B2.out.size
 have l3:=B3.out.size
 have hfin:=Za (show Sto (New w.heap.size W9) W9 (.agg #[.slice P Zal.1.length p,.slice Q Zal.2.length r,.slice (some ⟨g3,0,none⟩) 256 256,.slice (some ⟨g4,0,none⟩) 256 256]) Zh5 from
  Sto.mk ((D4.grown gr9 (fun q e=>by cases e;omega)).new (by omega) (Below.refl _ _)) (Zf.new (Zf.grown N4 gr9 (fun q e=>by cases e;omega)) (by omega) (Below.refl _ _)) (Zf.new (Zf.grown h4 gr9 (fun q e=>by cases e;omega)) (by omega) (Below.refl _ _)))
 have hB9:=Za (B4.grown gr9 B4.size (fun q e=>by cases e;omega))
 clear D4 N4 gr9 gs9 B4 q2 q3 l2 l3 h4 hb4
 replace F4:=Za F4
 replace F3:=Za F3
 replace g9:=Za g9
 go_wp2_with fail
 refine bodyPost_ret (v:=.agg #[.slice P Zal.1.length p,.slice Q Zal.2.length r,.slice (some ⟨g3,0,none⟩) 256 256,.slice (some ⟨g4,0,none⟩) 256 256]) (by simp[results,Tryz.results24,go_sem,n0,n1,n2,n3]) rfl ?_
 exact⟨_,rfl,hfin.out,hB9.out⟩
end Go.Proofs.YtgmbjnajdfgenaaGreat
namespace Go.Proofs.YtgmbjnajdfgenaaGreat
open Go.RowKit Go.Shelf
attribute [local go_sem] Oper.semAt_some
theorem Xo {W:World} {g:Nat} {a u:Value} {t:TypeId} (h:W.heap[g]? = some (.cells #[a] t (0,0))):∃ W1,W.setCell ⟨g,0,none⟩ u=W1∧W1.heap[g]? = some (.cells #[u] t (0,0))∧W.grownBy W1 (some g)∧W1.heap.size=W.heap.size :=
 ⟨_,rfl,by simp[World.setCell,Array.getElem?_modify,h],Yo (p:=⟨g,0,none⟩) (Y7 W (some g)) rfl u,by simp⟩
theorem Zm {W:World} {g:Nat} {a:Value} {t:TypeId} (h:W.heap[g]? = some (.cells #[a] t (0,0))):W.cell? ⟨g,0,none⟩=some a∧W.frozen? ⟨g,0,none⟩=false∧g<W.heap.size :=
 ⟨by simp[World.cell?,h],by simp[World.frozen?,h],(Array.getElem?_eq_some_iff.1 h).1⟩
theorem Zl {W W':World} {row:Option Nat} {g:Nat} {cs:Array Value} {t:TypeId} (h:W.heap[g]? = some (.cells cs t (0,0))) (hg:W.grownBy W' row) (hrow:∀ r,row=some r→∃ o:Obj,W.heap[r]? = some o∧o.isCells=false):W'.heap[g]? = some (.cells cs t (0,0)) :=
 (grownBy_keeps_cells hg hrow h rfl).trans h
def NZ (ok:Addr→Prop) (w:World):Addr→Prop:=fun p=>ok p∧w.cell? p≠some (.slice none 0 0)
theorem Zxj {ok:Addr→Prop} {w:World} {cs:List Value} {x:List UInt8} (h:rBy ok w cs x):rBy (NZ ok w) w cs x:=by
 obtain⟨A,cap,h1,h2,h3,h4⟩:=h
 refine⟨A,cap,h1,h2,h3,fun i y hi => ?_⟩
 obtain⟨ad,vs,e1,e2,e3,e4⟩:=h4 i y hi
 refine⟨ad,vs,e1,e2,fun j u hj=>⟨⟨(e3 j u hj).1,?_⟩,(e3 j u hj).2⟩,e4⟩
 unfold rU8 at e4
 subst e4
 have:=List.mem_of_getElem? hj
 simp only[List.mem_singleton] at this
 rw[(e3 j u hj).2,this]
 simp
theorem Zqm {ok:Addr→Prop} {w:World} {u:Value} {x:List UInt8} (h:rBy ok w [u] x) (hx:x≠[]):u≠.slice none 0 0:=by
 obtain⟨A,c,rfl,_⟩:=Zv h
 intro e
 simp only[Value.slice.injEq] at e
 exact hx (List.eq_nil_of_length_eq_zero e.2.1)
theorem Z2t {ok:Addr→Prop} {w:World} {cs:List Value} {xss:List (List UInt8)} (h:rSl 1 rBy ok w cs xss) (hn:∀ x∈xss,x≠[]):rSl 1 rBy (NZ ok w) w cs xss:=by
 obtain⟨A,cap,h1,h2,h3,h4⟩:=h
 refine⟨A,cap,h1,h2,h3,fun i y hi => ?_⟩
 obtain⟨ad,vs,e1,e2,e3,e4⟩:=h4 i y hi
 refine⟨ad,vs,e1,e2,fun j u hj=>⟨⟨(e3 j u hj).1,?_⟩,(e3 j u hj).2⟩,Zxj e4⟩
 match vs,e2 with
 | [v],_ =>
  have:=List.mem_of_getElem? hj
  simp only[List.mem_singleton] at this
  rw[(e3 j u hj).2,this]
  exact fun e=>Zqm e4 (hn y (List.mem_of_getElem? hi)) (by simpa using e)
theorem Z4o {ok:Addr→Prop} {w:World} {cs:List Value} {ws:List Wt} (h:rSl 2 rWt ok w cs ws) (hn:∀ x∈ws,x.2≠[]):rSl 2 rWt (NZ ok w) w cs ws:=by
 obtain⟨A,cap,h1,h2,h3,h4⟩:=h
 refine⟨A,cap,h1,h2,h3,fun i y hi => ?_⟩
 obtain⟨ad,vs,e1,e2,e3,e4⟩:=h4 i y hi
 obtain⟨v,rfl,b1,b2,hv⟩:=Zp0 e4
 refine⟨ad,_,e1,e2,fun j u hj=>⟨⟨(e3 j u hj).1,?_⟩,(e3 j u hj).2⟩,Zzk b1 b2 (Zxj hv)⟩
 have:=List.mem_of_getElem? hj
 simp only[List.mem_cons,List.not_mem_nil,or_false] at this
 rw[(e3 j u hj).2]
 rcases this with rfl | rfl
 ·simp
 ·exact fun e=>Zqm hv (hn y (List.mem_of_getElem? hi)) (by simpa using e)
theorem Z29 {ok:Addr→Prop} {w:World} {v:Value} {d:Dk} (h:Dsk ok w v d) (h1:∀ x∈d.1,x≠[]) (h2:∀ x∈d.2,x.2≠[]):Dsk (NZ ok w) w v d:=by
 obtain⟨a,b,e,r1,r2⟩:=h
 exact⟨a,b,e,Z2t r1 h1,Z4o r2 h2⟩
theorem Zxa {d:Dk} (h:Zau d=true):(∀ x∈d.1,x≠[])∧(∀ x∈d.2,x.2≠[]):=by
 obtain⟨_,_,h1,h2⟩:=Zfl h
 refine⟨fun x hx e => ?_,fun x hx e => ?_⟩
 ·obtain⟨i,hi⟩:=List.getElem?_of_mem hx
  have:=h1 i x hi
  rw[e] at this
  cases this
 ·obtain⟨i,hi⟩:=List.getElem?_of_mem hx
  have:=(h2 i x hi).2.2
  rw[e] at this
  cases this
theorem Zyw {W:World} {g:Nat} {cs:Array Value} {t:TypeId} {p:Addr} {u:Value} (hz:W.heap[g]? = some (.cells cs t (0,0))) (hcs:∀ c∈cs,c=.slice none 0 0) (hc:W.cell? p=some u) (hn:W.cell? p≠some (.slice none 0 0)):p.block≠g:=fun e=>by
 refine hn ?_
 rw[hc]
 unfold World.cell? at hc
 rw[e,hz] at hc
 dsimp only at hc
 split at hc
 ·cases hc
 ·obtain⟨hlt,hu⟩:=Array.getElem?_eq_some_iff.1 hc
  rw[← hu]
  exact congrArg some (hcs _ (Array.getElem_mem hlt))
theorem Z3o {ok:Addr→Prop} {w:World} {v:Value} {s:Rm} (h:Sto ok w v s) (hd:(∀ x∈s.1.1,x≠[])∧(∀ x∈s.1.2,x.2≠[])):Sto (NZ ok w) w v s:=by
 obtain⟨a,b,n,l,e,h1,h2,h3⟩:=h
 exact⟨a,b,n,l,e,Z29 h1 hd.1 hd.2,Zxj h2,Zxj h3⟩
def Zx0 (s:Rm):Prop:=(∀ x∈s.1.1,x≠[])∧(∀ x∈s.1.2,x.2≠[])
theorem Ztr {s:Rm} (h:Xq s=true):Zx0 s:=Zxa (Yb h).1
theorem Zfo {W W9:World} {g:Nat} {cs:Array Value} {t:TypeId} {v:Value} {s:Rm} (h:Sto (Old W) W v s) (hd:Zx0 s) (hz:W.heap[g]? = some (.cells cs t (0,0))) (hcs:∀ c∈cs,c=.slice none 0 0) (hg:W.grownBy W9 (some g)):Sto (Old W9) W9 v s :=
 (Z3o h hd).map fun p u hp hc=>by
  have hn:=Zyw hz hcs hc hp.2
  exact⟨Nat.lt_of_lt_of_le hp.1 hg.size,(World.cell?_of_block (hg.block _ hp.1 (by simpa using hn))).trans hc⟩
theorem Zxs:(Xl Zh5).length=248∧Xl Zh5=8::9::(Xl Zh5).drop 2:=by decide +kernel
theorem Z2h:Xq Zh5=true:=Uj Zyz Zah Zah
theorem Zok (v:Value) (s:Rm) (n:Int) (w:World) (h:Sto (Old w) w v s) :
  Calls Tryz.prog 53 #[v,.int .i64 n] w fun e W'=>∃ A ca B cb N cn L cl,e=.returned (.tuple #[.agg #[.slice A (shV s n).1.1.length ca,.slice B (shV s n).1.2.length cb,.slice N (shV s n).2.1.length cn,.slice L (shV s n).2.2.length cl],.int .i64 (shE s n)]) ∧
   Sto (New w.heap.size W') W' (.agg #[.slice A (shV s n).1.1.length ca,.slice B (shV s n).1.2.length cb,.slice N (shV s n).2.1.length cn,.slice L (shV s n).2.2.length cl]) (shV s n)∧Below w.heap.size w W':=by
 refine(Zsb v s n w h).mono ?_
 rintro e W' ⟨t,rfl,ht,hb⟩
 obtain⟨A,ca,B,cb,N,cn,L,cl,rfl,_⟩:=id ht.open
 exact⟨A,ca,B,cb,N,cn,L,cl,rfl,ht,hb⟩
theorem Zzg {s:Rm} {l:List It} {i:Nat} {x:It} {r:Nat} {y:UInt8} (hx:l[i]? = some x) (hr:x.2.1=(r:Int)) (h0:r≠0) (hy:s.2.1[r]?.getD 0=y):Y2 s (l.take (i+1))=(Y2 s (l.take i)&&decide (y≠0)):=by
 rw[Zmd hx,hr]
 have:¬ ((r:Nat):Int)=0:=by omega
 rw[decide_eq_false this,Bool.false_or,show ((r:Nat):Int).toNat=r by omega,hy]
theorem Zta {s:Rm} {l:List It} {i:Nat} {x:It} (hx:l[i]? = some x) (hr:x.2.1=0):Y2 s (l.take (i+1))=Y2 s (l.take i):=by
 rw[Zmd hx,hr]
 simp
theorem Zeg {w:World} {A:Option Addr} {n c:Nat} {xs:List It} {s:It} (h:Uo (Old w) w [.slice A n c] xs) (hk:xs[0]? = some s) :
  ∃ ad E ce,A=some ad∧InI s∧∀ W,Below w.heap.size w W→At5 W ad s (.slice E s.2.2.length ce)∧Itm (Old W) W (itV s (.slice E s.2.2.length ce)) s:=by
 obtain⟨ad,E,ce,e,_,_,h1,F⟩:=Vv h hk
 have e0:ad.add (0*5)=ad:=by simp[Addr.add]
 rw[e0] at F
 exact⟨ad,E,ce,e,h1,F⟩
theorem Zxy {d:Dk} {k:Nat} (hm:Zau d=true) (hk:k<256):(Z1 d k).length=128:=by
 obtain⟨h1,_,h3,h4⟩:=Zfl hm
 unfold Z1
 have e:d.1[k]? = some (d.1[k]'(by omega)):=List.getElem?_eq_getElem _
 refine Zfc (h3 k _ (by rw[e];rfl)) fun x hx => ?_
 obtain⟨i,hi⟩:=List.getElem?_of_mem hx
 exact(h4 i x hi).2.2
theorem Yr {W:World} {g:Nat} {a b c a' b' c':Value} {t:TypeId} (h:W.heap[g]? = some (.cells #[a,b,c] t (0,0))):∃ W1,((W.setCell ⟨g,0,none⟩ a').setCell ⟨g,1,none⟩ b').setCell ⟨g,2,none⟩ c'=W1 ∧
  W1.heap[g]? = some (.cells #[a',b',c'] t (0,0))∧W.grownBy W1 (some g)∧W1.heap.size=W.heap.size :=
 ⟨_,rfl,by simp[World.setCell,Array.getElem?_modify,h],Yo (p:=⟨g,2,none⟩) (Yo (p:=⟨g,1,none⟩) (Yo (p:=⟨g,0,none⟩) (Y7 W (some g)) rfl a') rfl b') rfl c',by simp⟩
theorem Zk {W:World} {g:Nat} {a b c:Value} {t:TypeId} (h:W.heap[g]? = some (.cells #[a,b,c] t (0,0))):W.cell? ⟨g,0,none⟩=some a∧W.cell? ⟨g,1,none⟩=some b∧W.cell? ⟨g,2,none⟩=some c∧(∀ o,W.frozen? ⟨g,o,none⟩=false)∧g<W.heap.size :=
 ⟨by simp[World.cell?,h],by simp[World.cell?,h],by simp[World.cell?,h],fun o=>by simp[World.frozen?,h],(Array.getElem?_eq_some_iff.1 h).1⟩
theorem Zcs (v:Value) (s:Rm) (a:Int) (w:World) (h:Sto (Old w) w v s) :
  Calls Tryz.prog 36 #[v,.int .i64 a] w fun e w'=>∃ Z zc,e=.returned (.tuple #[.agg #[.int .i64 (rmV s a).1,.slice Z (rmV s a).2.length zc],.int .i64 (rmE s a)])∧Uo (Old w') w' [.slice Z (rmV s a).2.length zc] (rmV s a).2 ∧
   Nod (New w.heap.size w') w' (.agg #[.int .i64 (rmV s a).1,.slice Z (rmV s a).2.length zc]) (rmV s a)∧Below w.heap.size w w':=by
 refine(Zk6 v s a w h).mono ?_
 rintro e w' ⟨u,rfl,hu,hb'⟩
 have hu2:=hu
 obtain⟨Z,zc,rfl,_,_,_,hA⟩:=hu.drop.open
 exact⟨Z,zc,rfl,hA,hu2,hb'⟩
theorem Z12 {s:Rm} {a:Int} (h:rmE s a≠0):X2 s a=false:=by simp[X2,h]
theorem Z4d {s:Rm} {a:Int} (h:asE s a≠0):ckE s a=asE s a∧ckH s a=0:=by
 have e:ckE s a=asE s a:=by rw[ckE,if_neg h]
 exact⟨e,by rw[ckH,e,if_neg h]⟩
theorem Zos {s:Rm} {a:Int} (h:asE s a=0) (ht:X2 s a=false):ckE s a=8∧ckH s a=0:=by
 have e:ckE s a=8:=by rw[ckE,if_pos h,ht];rfl
 exact⟨e,by rw[ckH,e,if_neg (by decide)]⟩
theorem Zkh {s:Rm} {a:Int} (h:asE s a=0) (ht:X2 s a=true):ckE s a=0∧ckH s a=(rmV s a).1+1:=by
 have e:ckE s a=0:=by rw[ckE,if_pos h,ht];rfl
 exact⟨e,by rw[ckH,e,if_pos rfl]⟩
theorem Znj {s:Rm} {a:Int} (h:ckE s a=0):X2 s a=true∧asE s a=0∧ckH s a=(rmV s a).1+1:=by
 by_cases ha:asE s a=0
 ·cases ht:X2 s a with
  | false=>rw[(Zos ha ht).1] at h;cases h
  | true=>exact⟨rfl,ha,(Zkh ha ht).2⟩
 ·rw[(Z4d ha).1] at h
  exact absurd h ha
theorem Zvj {lo:Nat} {w:World} {A:Option Addr} {n c k:Nat} {xs:List It} {s:It} (h:Uo (New lo w) w [.slice A n c] xs) (hk:xs[k]? = some s) :
  ∃ ad E ce,A=some ad∧InI s∧∀ W,Below w.heap.size w W→At5 W (ad.add (k*5)) s (.slice E s.2.2.length ce)∧Itm (New lo W) W (itV s (.slice E s.2.2.length ce)) s:=by
 obtain⟨ad,E,ce,rfl,_,h5,hi,_,_,hin⟩:=Zaj h hk
 exact⟨ad,E,ce,rfl,hin,fun W hW=>⟨h5.below hW,hi.new (Nat.le_refl _) hW⟩⟩
def Z3t (lo:Nat) (v:Value) (l:List It):World→Prop:=fun w=>Uo (New lo w) w [v] l
theorem Znp (lo:Nat) (v:Value) (l:List It):Zft (Z3t lo v l):=fun _ _ h hb=>Xc.new h (Nat.le_refl _) hb
def Ya (g:Nat) (cs:Array Value) (t:TypeId):World→Prop:=fun w=>w.heap[g]? = some (.cells cs t (0,0))
theorem Zr (g:Nat) (cs:Array Value) (t:TypeId):Zft (Ya g cs t):=fun _ _ h hb=>(hb.block g (Array.getElem?_eq_some_iff.1 h).1).trans h
theorem Zyy {ok:Addr→Prop} {w:World} {ad:Addr} {n c:Nat} {b:List It} (h:Uo ok w [.slice (some ad) n c] b) (k:Nat) (hk:k≤b.length):Uo ok w [.slice (some (ad.add (k*5))) (n-k) (c-k)] (b.drop k):=by
 obtain⟨A,cap,e,h2,h3,h4⟩:=h
 cases e
 refine⟨some (ad.add (k*5)),c-k,by rw[List.length_drop],by rw[List.length_drop];omega,by omega,fun i x hi => ?_⟩
 rw[List.getElem?_drop] at hi
 obtain⟨ad',vs,e1,e2,e3,e4⟩:=h4 (k+i) x hi
 cases e1
 refine⟨ad.add (k*5),vs,rfl,e2,fun j v hj => ?_,e4⟩
 have:=e3 j v hj
 rw[Zj8,show k*5+(i*5+j)=(k+i)*5+j by omega]
 exact this
noncomputable def Zf0 (n:Nd) (k:Ky):Nat×Bool:=if n.1=0 then (Zz n k,Yg n k) else (Xb n k,true)
theorem Zq7 (A:Option Addr) (c:Nat) (n:Nd) (k:Ky) (w:World) (h:Nod (Old w) w (.agg #[.int .i64 n.1,.slice A n.2.length c]) n) :
  Calls Tryz.prog 74 #[.agg #[.int .i64 n.1,.slice A n.2.length c],kyV k] w fun e w'=>e=.returned (.agg #[.int .i64 n.1,.slice A n.2.length c,.int .i64 ((Zf0 n k).1:Nat),.bool (Zf0 n k).2])∧Below w.heap.size w w':=by
 obtain⟨w1,hw1,b1,hs1,hB1⟩:=Z7 w (.int .i64 n.1) (.slice A n.2.length c) 81
 obtain⟨w2,hw2,-,-,-,hs2,hB2,b2⟩:=Yw w1 (.int .u8 (k.1.toNat:Int)) (.int .u32 k.2.1) (.int .u32 k.2.2) 37
 obtain⟨w3,hw3,b3,hs3,hB3⟩:=Xt w2 (.int .i64 0) (.slice none 0 0) (.int .i64 0) (.bool false) 144
 have B3:=Za (hB1.trans ((hB2.trans (hB3.mono hB2.size)).mono hB1.size))
 have hb1:=(hB3.block w.heap.size (by omega)).trans ((hB2.block w.heap.size (by omega)).trans b1)
 have hb2:=(hB3.block w1.heap.size (by omega)).trans b2
 have hP:=Za (fun W hW=>Zbs _ n k W (h.below hW))
 obtain⟨p,hp⟩:∃ p,Zz n k=p:=⟨_,rfl⟩
 obtain⟨t,ht⟩:∃ t,Yg n k=t:=⟨_,rfl⟩
 obtain⟨lv,hlv⟩:∃ q,n.1=q:=⟨_,rfl⟩
 obtain⟨len,hlen⟩:∃ q,n.2.length=q:=⟨_,rfl⟩
 have hpl:=Za8 n k
 have hst:Hid (Zf0 n k=if lv=0 then (p,t) else (if t=true then p else p-1,true)):=Za (by unfold Zf0 Xb;rw[hlv,hp,ht])
 have hcl:c≤9223372036854775807∧n.2.length≤c:=by
  obtain⟨A',c',e,_,h1,h2,_⟩:=h.open
  cases e
  exact⟨h2,h1⟩
 rw[hp] at hpl hP
 rw[ht] at hP
 rw[hlen] at hpl hcl hP b1 hb1 hw1 ⊢
 rw[hlv] at hP b1 hb1 hw1 ⊢
 have G3:=Za b3
 have S:=Za (show w.heap.size<w3.heap.size∧w1.heap.size<w3.heap.size∧w2.heap.size<w3.heap.size∧w.heap.size≤w2.heap.size from ⟨by omega,by omega,by omega,by omega⟩)
 replace hp:=Za hp
 replace ht:=Za ht
 replace hlv:=Za hlv
 replace hlen:=Za hlen
 replace hs1:=Za hs1
 replace hs2:=Za hs2
 replace hs3:=Za hs3
 obtain⟨p0,p1,_,_⟩:=Zg hb1
 obtain⟨q0,q1,q2,_⟩:=Zk hb2
 have G1:=Za hb1
 clear h hB1 hB2 hB3 b1 b2 b3 hb1 hb2
 unfold kyV
 go_enter Tryz.func74,Tryz.ntmps74
 go_upto_region 1 with fail
 clear hw1 hw2 hw3
 go_wp2_with fail
 with_reducible refine(hP.out _ B3.out).mono ?_
 rintro e w4 ⟨rfl,hb4⟩
 have g3:=(hb4.block w2.heap.size S.out.2.2.1).trans G3.out
 have g1:=(hb4.block w.heap.size S.out.1).trans G1.out
 have B4:=Za (B3.out.trans (hb4.mono B3.out.size))
 have hfin:Hid (∀ (x:Nat) (y:Bool),Zf0 n k=(x,y)→∃ W9,(((w4.setCell ⟨w2.heap.size,0,none⟩ (.int .i64 lv)).setCell ⟨w2.heap.size,1,none⟩ (.slice A len c)).setCell ⟨w2.heap.size,2,none⟩ (.int .i64 (x:Int))).setCell ⟨w2.heap.size,3,none⟩ (.bool y)=W9 ∧
   W9.cell? ⟨w2.heap.size,0,none⟩=some (.int .i64 lv)∧W9.cell? ⟨w2.heap.size,1,none⟩=some (.slice A len c)∧W9.cell? ⟨w2.heap.size,2,none⟩=some (.int .i64 (x:Int))∧W9.cell? ⟨w2.heap.size,3,none⟩=some (.bool y) ∧
   (Ending.returned (.agg #[.int .i64 lv,.slice A len c,.int .i64 (x:Int),.bool y])=.returned (.agg #[.int .i64 lv,.slice A len c,.int .i64 ((Zf0 n k).1:Nat),.bool (Zf0 n k).2])∧Below w.heap.size w W9)):=Za fun x y he=>by
  obtain⟨W9,e9,g9,gr9,_⟩:=Zs (a':=.int .i64 lv) (b':=.slice A len c) (c':=.int .i64 (x:Int)) (d':=.bool y) g3
  obtain⟨k0,k1,k2,k3,_⟩:=Ze g9
  exact⟨W9,e9,k0,k1,k2,k3,by rw[he],B4.out.grown gr9 B4.out.size fun q e=>by cases e;exact S.out.2.2.2⟩
 obtain⟨m0,m1,_,_⟩:=Zg g1
 obtain⟨r0,r1,r2,r3,rf,_⟩:=Ze g3
 clear p0 p1 q0 q1 q2 hb4 g3 g1
 have hcl1:=hcl.1
 have hcl2:=hcl.2
 clear hcl
 by_cases h0:lv=0
 ·subst h0
  obtain⟨W9,e9,k0,k1,k2,k3,hf⟩:=hfin.out p t (by rw[hst.out,if_pos rfl])
  replace hf:=Za hf
  replace e9:=Za e9
  clear hfin hst
  go_wp2_with fail
  rw[e9.out]
  exact bodyPost_ret (v:=.agg #[.int .i64 0,.slice A len c,.int .i64 (p:Int),.bool t]) (by simp[results,Tryz.results74,go_sem,k0,k1,k2,k3]) rfl hf.out
 ·have h0':(lv==0)=false:=by simpa using h0
  cases t with
  | true =>
   obtain⟨W9,e9,k0,k1,k2,k3,hf⟩:=hfin.out p true (by rw[hst.out,if_neg h0,if_pos rfl])
   replace hf:=Za hf
   replace e9:=Za e9
   clear hfin hst h0
   go_wp2_with fail
   rw[e9.out]
   exact bodyPost_ret (v:=.agg #[.int .i64 lv,.slice A len c,.int .i64 (p:Int),.bool true]) (by simp[results,Tryz.results74,go_sem,k0,k1,k2,k3]) rfl hf.out
  | false =>
   have hwr:IntKind.i64.wrap ((p:Int)-1)=(p:Int)-1:=by rw[IntKind.wrap_i64];omega
   by_cases hp0:p=0
   ·obtain⟨W9,e9,k0,k1,k2,k3,hf⟩:=hfin.out 0 true (by rw[hst.out,if_neg h0,if_neg (by decide),hp0])
    subst hp0
    replace hf:=Za hf
    replace e9:=Za e9
    clear hfin hst h0
    go_wp2_with fail
    refine Eq.mpr (congrArg _ e9.out) ?_
    exact bodyPost_ret (v:=.agg #[.int .i64 lv,.slice A len c,.int .i64 (0:Nat),.bool true]) (by simp[results,Tryz.results74,go_sem,k0,k1,k2,k3]) rfl hf.out
   ·obtain⟨W9,e9,k0,k1,k2,k3,hf⟩:=hfin.out (p-1) true (by rw[hst.out,if_neg h0,if_neg (by decide)])
    have hp1:((p-1:Nat):Int)=(p:Int)-1:=by omega
    have hp2:(0:Int)≤(p:Int)-1:=by omega
    rw[hp1] at e9 k2 hf
    replace hf:=Za hf
    replace e9:=Za e9
    clear hfin hst h0 hp1
    go_wp2_with fail
    refine Eq.mpr (congrArg _ e9.out) ?_
    exact bodyPost_ret (v:=.agg #[.int .i64 lv,.slice A len c,.int .i64 ((p:Int)-1),.bool true]) (by simp[results,Tryz.results74,go_sem,k0,k1,k2,k3]) rfl hf.out
def Ziq (s:Rm) (x:It):Int:=if Zap x then if x.2.1≠0∧s.2.1[x.2.1.toNat]?.getD 0=0 then 6 else 0 else 8
theorem Zke (v u:Value) (s:Rm) (x:It) (w:World) (hm:Xq s=true) (h:Sto (Old w) w v s) (hu:Itm (Old w) w u x) :
  Calls Tryz.prog 41 #[v,u] w fun e w'=>e=.returned (.int .i64 (Ziq s x))∧Below w.heap.size w w':=by
 obtain⟨A,ca,B,cb,N,cn,L,cl,rfl,_⟩:=id h.open
 obtain⟨D,dc,rfl,_,_,_,_⟩:=id hu.open
 obtain⟨w1,hw1,b1,hs1,hB1⟩:=Xt w (.slice A s.1.1.length ca) (.slice B s.1.2.length cb) (.slice N s.2.1.length cn) (.slice L s.2.2.length cl) 29
 obtain⟨w2,hw2,-,-,-,-,-,hs2,hB2,b2⟩:=Z8 w1 (.int .u8 (x.1.1.toNat:Int)) (.int .u32 x.1.2.1) (.int .u32 x.1.2.2) (.int .i64 x.2.1) (.slice D x.2.2.length dc) 54
 have hb1:=(hB2.block w.heap.size (by omega)).trans b1
 have B2:=Za (hB1.trans (hB2.mono hB1.size))
 have hC:=Za (Uw _ x w2 (hu.map fun p v hp hc=>⟨Nat.lt_of_lt_of_le hp B2.out.size,(B2.out.cell hp).trans hc⟩))
 have HS:=Za (h.below B2.out)
 have hl:=Yn (Yb hm).2.1
 have hcit:Hid (Ziq s x=if Zap x then if x.2.1≠0∧s.2.1[x.2.1.toNat]?.getD 0=0 then 6 else 0 else 8):=Za rfl
 have hmw:Zap x=true→x.2.1=0∨∃ k:Nat,x.2.1=k∧8≤k∧k<256:=fun h=>by
  rcases(Zae h).1 with e | e
  ·exact .inl e
  ·exact .inr ⟨x.2.1.toNat,by omega,by omega,by omega⟩
 obtain⟨z,hz⟩:∃ z,x.2.1=z:=⟨_,rfl⟩
 obtain⟨ev,hev⟩:∃ q,Zx6 x=q:=⟨_,rfl⟩
 rw[hl] at b1 hb1 hw1 HS ⊢
 rw[hz] at hw2 b2 hcit hmw
 unfold itV at hC
 rw[hz] at hC
 rw[hev] at hC
 change Calls _ _ #[_,.agg #[.int .u8 (x.1.1.toNat:Int),.int .u32 x.1.2.1,.int .u32 x.1.2.2,.int .i64 x.2.1,.slice D x.2.2.length dc]] _ _
 rw[hz]
 replace hz:=Za hz
 replace hl:=Za hl
 replace hs1:=Za hs1
 replace hs2:=Za hs2
 obtain⟨p0,p1,p2,p3,_⟩:=Ze hb1
 obtain⟨q0,q1,q2,q3,q4,_⟩:=Zt b2
 have G1:=Za hb1
 have G2:=Za b2
 have S:=Za (show w.heap.size<w2.heap.size∧w1.heap.size<w2.heap.size from ⟨by have:=hs1.out;have:=hs2.out;omega,by have:=hs2.out;omega⟩)
 clear h hu hB1 hB2 b1 b2 hb1
 go_enter Tryz.func41,Tryz.ntmps41
 go_upto_region 1 with fail
 clear hw1 hw2
 go_wp2_with fail
 with_reducible refine(hC.out).mono ?_
 rintro e w3 ⟨rfl,hb3⟩
 have g1:=(hb3.block w.heap.size S.out.1).trans G1.out
 have g2:=(hb3.block w1.heap.size S.out.2).trans G2.out
 have B3:=Za (B2.out.trans (hb3.mono B2.out.size))
 have H3:=Za (HS.out.below hb3)
 obtain⟨p0,p1,p2,p3,_⟩:=Ze g1
 obtain⟨q0,q1,q2,q3,q4,_⟩:=Zt g2
 clear hb3 g1 g2 hC
 rcases Zbn (Zap x) with hb | hb
 ·have he8:ev=8:=by rw[← hev];simp[Zx6,hb]
  subst he8
  have hr:=Za (show Ziq s x=8 by rw[hcit.out,hb];rfl)
  replace hev:=Za hev
  replace hb:=Za hb
  clear hmw
  go_wp2_with fail
  go_ret
  exact⟨Zx hr.out.symm,B3.out⟩
 have he0:ev=0:=by rw[← hev];simp[Zx6,hb]
 subst he0
 have hw:=hmw hb
 rw[hb,if_pos rfl] at hcit
 replace hev:=Za hev
 replace hb:=Za hb
 clear hmw
 rcases hw with h0 | ⟨k,hk,h8,h256⟩
 ·subst h0
  have hr:=Za (show Ziq s x=0 by rw[hcit.out,if_neg (by simp)])
  clear hcit
  go_wp2_with fail
  go_ret
  exact⟨Zx hr.out.symm,B3.out⟩
 ·subst hk
  have j0:((k:Int) != 0)=true:=by simp;omega
  have i1:(0:Int)≤(k:Int):=by omega
  have i2:(k:Int)<256:=by omega
  obtain⟨A2,c2,e2,n1,n2,hc2⟩:=Zv H3.out.parts.2.1
  rw[hl.out] at e2 hc2
  cases e2
  obtain⟨ad,rfl,_,hck⟩:=hc2 k h256
  obtain⟨y,hy⟩:∃ y,s.2.1[k]?.getD 0=y:=⟨_,rfl⟩
  rw[hy] at hck
  rw[Int.toNat_natCast,hy] at hcit
  replace hy:=Za hy
  clear hc2 n1 n2
  by_cases hy0:y=0
  ·have t1:=Xy (y:=0) (q:=0) rfl hy0
   have hr:=Za (show Ziq s x=6 by rw[hcit.out,if_pos ⟨by omega,hy0⟩])
   replace hy0:=Za hy0
   clear hcit
   go_wp2_with fail
   go_ret
   exact⟨Zx hr.out.symm,B3.out⟩
  ·have t1:=Xe (y:=0) (q:=0) rfl hy0
   have hr:=Za (show Ziq s x=0 by rw[hcit.out,if_neg (fun h=>hy0 h.2)])
   replace hy0:=Za hy0
   clear hcit
   go_wp2_with fail
   go_ret
   exact⟨Zx hr.out.symm,B3.out⟩
def Z4k (w:World) (A:Option Addr) (n c:Nat) (e:Ending) (w':World):Prop:=Below w.heap.size w w' ∧
 ((n≤5∧e=.returned (.slice (some ⟨w.heap.size,0,none⟩) 1 1)∧w'.heap[w.heap.size]? = some (.cells #[.slice A n c] 39 (0,0))) ∨
  (5<n∧∃ ad,A=some ad∧e=.returned (.slice (some ⟨w.heap.size,0,none⟩) 2 2)∧w'.heap[w.heap.size]? = some (.cells #[.slice (some ad) 3 c,.slice (some (ad.add (3*5))) (n-3) (c-3)] 39 (0,0))))
theorem Ztu (A:Option Addr) (n c:Nat) (w:World) (hn:n≤c) (hc:c≤9223372036854775807) (hA:0<n→∃ ad,A=some ad):Calls Tryz.prog 120 #[.slice A n c] w (Z4k w A n c):=by
 by_cases h5:n≤5
 ·have i5:(n:Int)≤5:=by omega
  go_enter Tryz.func120,Tryz.ntmps120
  go_wp2_with fail
  go_ret
  exact⟨(Below.refl _ w).alloc (Nat.le_refl _) _,.inl ⟨h5,rfl,heap_alloc_new w _⟩⟩
 ·have i5:¬ ((n:Int)≤5):=by omega
  obtain⟨ad,rfl⟩:=hA (by omega)
  have i6:(3:Int)≤(c:Int):=by omega
  have i7:(3:Int)≤(n:Int):=by omega
  have i8:¬ c=3:=by omega
  go_enter Tryz.func120,Tryz.ntmps120
  go_wp2_with fail
  go_still_tail 4,(by kernel_rfl)
  go_wp2_with fail
  go_ret
  exact⟨((Below.refl _ w).drew).alloc (Nat.le_refl _) _,.inr ⟨by omega,ad,rfl,rfl,heap_alloc_new w.drew _⟩⟩
theorem Zom.low {lo:Nat} {w w1:World} {A:Option Addr} {L:List Iv} {e:Ending} {w':World} (h:Zom lo w1 A L e w') (hg:w.grownBy w1 (A.map (·.block))):Zom lo w A L e w':=by
 obtain⟨A',c',h1,h2,h3⟩:=h
 exact⟨A',c',h1,h2,Yl hg h3⟩
theorem Zj5 (A:Option Addr) (lo lf n c fb m fc i:Nat) (lv:Int) (b:Bool) (ps qs:List Iv) (w:World) (h:w.ownsRow lo 54 5 (.slice A n c) n (Zi ps)) (hf:w.ownsRow lf 54 5 (.slice (some ⟨fb,0,none⟩) m fc) m (Zi qs))
  (hne:A.map (·.block)≠some fb) (hi:i+(if b=true then 1 else 0)≤n) (hm:0<m) (hbig:n+m≤1000) (hp1:∀ p∈ps,p.2.oneCell'=true) (hq1:∀ p∈qs,p.2.oneCell'=true) (hlo:lo≤w.heap.size) :
  Calls Tryz.prog 77 #[.agg #[.int .i64 lv,.slice A n c,.int .i64 i,.bool b],.slice (some ⟨fb,0,none⟩) m fc] w fun e w'=>Zom lo w A (ps.take i++(qs++ps.drop (i+if b=true then 1 else 0))) e w'∧w.heap.size<w'.heap.size:=by
 obtain⟨w1,hw1,b1,hs1,hB1⟩:=Xt w (.int .i64 lv) (.slice A n c) (.int .i64 i) (.bool b) 144
 have h1:=Zw h hB1
 have hf1:=Zw hf hB1
 have hlow:=Za (fun L e w' (hh:Zom lo w1 A L e w')=>(⟨hh.low (w:=w) (hw1 ▸ World.grownBy_alloc w _ _),by obtain⟨_,_,_,_,hg⟩:=hh;have:=hg.size;omega⟩:Zom lo w A L e w'∧w.heap.size<w'.heap.size))
 obtain⟨p0,p1,p2,p3,_⟩:=Ze b1
 have hwr:IntKind.i64.wrap ((i:Int)+1)=(i:Int)+1:=by rw[IntKind.wrap_i64];split at hi <;> omega
 cases b with
 | true =>
  have hR:=Zns A lo lf n c fb m fc i (i+1) ps qs w1 h1 hf1 hne rfl hi hm hbig hp1 hq1 (by omega)
  rw[show ((i+1:Nat):Int)=(i:Int)+1 by omega] at hR
  rw[if_pos rfl]
  obtain⟨L,hL⟩:∃ L,ps.take i++(qs++ps.drop (i+1))=L:=⟨_,rfl⟩
  rw[hL] at hR ⊢
  replace hL:=Za hL
  have HR:=Za hR
  clear h hf h1 hf1 hR hp1 hq1 hne hB1 b1 hs1 hi
  go_enter Tryz.func77,Tryz.ntmps77
  go_upto_region 1 with fail
  clear hw1
  go_wp2_with fail
  with_reducible refine(HR.out).mono ?_
  intro e w2 hh
  have H2:=Za (hlow.out _ _ _ hh)
  obtain⟨A',c',rfl,_⟩:=hh
  go_wp2_with fail
  go_ret
  exact H2.out
 | false =>
  have hR:=Zr4 A lo lf n c fb m fc i ps qs w1 h1 hf1 hne (by simpa using hi) hm hbig hp1 hq1 (by omega)
  rw[if_neg (by decide),Nat.add_zero]
  obtain⟨L,hL⟩:∃ L,ps.take i++(qs++ps.drop i)=L:=⟨_,rfl⟩
  rw[hL] at hR ⊢
  replace hL:=Za hL
  have HR:=Za hR
  clear h hf h1 hf1 hR hp1 hq1 hne hB1 b1 hs1 hi
  go_enter Tryz.func77,Tryz.ntmps77
  go_upto_region 1 with fail
  clear hw1
  go_wp2_with fail
  with_reducible refine(HR.out).mono ?_
  intro e w2 hh
  have H2:=Za (hlow.out _ _ _ hh)
  obtain⟨A',c',rfl,_⟩:=hh
  go_wp2_with fail
  go_ret
  exact H2.out
theorem Vw {lo:Nat} {w:World} {A:Option Addr} {c:Nat} {xs:List It} (h:Yd rIt 5 54 lo w A c xs):∃ ps:List Iv,ps.map (·.1)=xs∧w.ownsRow lo 54 5 (.slice A xs.length c) xs.length (Zi ps)∧∀ p∈ps,InI p.1∧rBy (Xg lo A w) w [p.2] p.1.2.2:=by
 obtain⟨cs,ho,hcs⟩:=h
 obtain⟨ps,hl,hps⟩:=Zjl (n:=xs.length) (p:=fun i (p:Iv)=>xs[i]? = some p.1∧(∀ j u,(Zb2 p)[j]? = some u→cs[i*5+j]? = some u)∧InI p.1∧rBy (Xg lo A w) w [p.2] p.1.2.2) (fun i hi=>by
  have hx:xs[i]? = some xs[i]:=List.getElem?_eq_getElem hi
  obtain⟨vs,e5,hc,r⟩:=hcs i _ hx
  obtain⟨d,rfl,hin,hd⟩:=Zph r
  exact⟨(xs[i],d),hx,hc,hin,hd⟩)
 have hmap:ps.map (·.1)=xs:=by
  apply List.ext_getElem?
  intro i
  rw[List.getElem?_map]
  cases e:ps[i]? with
  | none =>
   have:xs.length≤i:=by rw[← hl];exact List.getElem?_eq_none_iff.1 e
   rw[List.getElem?_eq_none this]
   rfl
  | some p=>exact(hps i p e).1.symm
 have hcell:cs=Zi ps:=by
  apply List.ext_getElem?
  intro j
  rcases Nat.lt_or_ge j (xs.length*5) with hj | hj
  ·obtain⟨p,hp⟩:∃ p,ps[j / 5]? = some p:=⟨_,List.getElem?_eq_getElem (by omega)⟩
   obtain⟨u,hu⟩:∃ u,(Zb2 p)[j % 5]? = some u:=⟨_,List.getElem?_eq_getElem (by show j % 5<5;omega)⟩
   have h1:=Zgu hp _ _ hu
   have h2:=(hps _ p hp).2.1 _ _ hu
   rw[show j / 5*5+j % 5=j by omega] at h1 h2
   rw[h1,h2]
  ·rw[List.getElem?_eq_none (by rw[ho.1];exact hj),List.getElem?_eq_none (by rw[Ym,hl];exact hj)]
 exact⟨ps,hmap,hcell ▸ ho,fun p hp=>by
  obtain⟨i,hi⟩:=List.mem_iff_getElem?.1 hp
  exact(hps i p hi).2.2⟩
theorem Zdr {lo n c:Nat} {w:World} {A:Option Addr} {ps:List Iv} (h:w.ownsRow lo 54 5 (.slice A n c) n (Zi ps)) (hp:∀ p∈ps,InI p.1∧rBy (Old w) w [p.2] p.1.2.2):Uo (Old w) w [.slice A n c] (ps.map (·.1)):=by
 have hl:=Zaw h
 refine Zm0 (fun p _ hn=>hn.2.1) h (by rw[List.length_map];exact hl) fun i x hi => ?_
 rw[List.getElem?_map] at hi
 obtain⟨p,hp',rfl⟩:=Option.map_eq_some_iff.1 hi
 obtain⟨h1,h2⟩:=hp p (List.mem_of_getElem? hp')
 exact⟨Zb2 p,rfl,fun j u hj=>Zgu hp' j u hj,Zsi h1 h2⟩
theorem Zeu {ok:Addr→Prop} {w:World} {ps:List Iv} (h:∀ p∈ps,InI p.1∧rBy ok w [p.2] p.1.2.2):∀ p∈ps,p.2.oneCell'=true:=fun p hp=>Z25 (h p hp).2
abbrev Rf:=Int×Int
def Rfd (x:Rf):Prop:=8≤x.1∧x.1<256 ∧ -1≤x.2∧x.2≤6
noncomputable def wkF (d:Dk) (lv:Int) (t:List UInt8) (a:Nat):Option (List UInt8):=if lv=6 then lfO d t a else lvF d (lv+1).toNat t a
noncomputable def runT (d:Dk):List UInt8→List Rf→Option (List UInt8)
 | t,[]=>some t
 | t,x::l=>(wkF d x.2 t x.1.toNat).bind fun u=>runT d u l
theorem Zql (d:Dk):∀ (a b:List Rf) (t:List UInt8),runT d t (a++b)=(runT d t a).bind fun u=>runT d u b
 | [],b,t=>rfl
 | x::a,b,t=>by
  simp only[List.cons_append,runT]
  cases wkF d x.2 t x.1.toNat with
  | none=>rfl
  | some u=>exact Zql d a b u
def Zht (lv:Int) (l:List It):List Rf:=(l.filter fun x=>decide (x.2.1≠0)).map fun x=>(x.2.1,lv)
def Zsg (n:Nd):List Rf:=Zht (n.1-1) n.2
theorem Zpk (lv:Int):Zht lv []=[]:=rfl
theorem Zgv {lv:Int} {x:It} {l:List It} (h:x.2.1=0):Zht lv (x::l)=Zht lv l:=by simp[Zht,h]
theorem Zgg {lv:Int} {x:It} {l:List It} (h:x.2.1≠0):Zht lv (x::l)=(x.2.1,lv)::Zht lv l:=by simp[Zht,h]
theorem Zqa (lv:Int) (a b:List It):Zht lv (a++b)=Zht lv a++Zht lv b:=by simp[Zht]
theorem Zp1 (lv:Int) (l:List It):(Zht lv l).length≤l.length:=by
 rw[Zht,List.length_map]
 exact List.length_filter_le _ _
theorem Zm6 {lv:Int} (h1 : -1≤lv) (h6:lv≤6):∀ {l:List It},Zc4 l→∀ x∈Zht lv l,Rfd x
 | [],_,x,hx=>by simp[Zht] at hx
 | y::l,h,x,hx=>by
  obtain⟨r1,r2⟩:=Zd6 h
  rcases r1 with r1 | ⟨k,r1,r8,r256⟩
  ·rw[Zgv r1] at hx
   exact Zm6 h1 h6 r2 x hx
  ·rw[Zgg (by omega)] at hx
   rcases List.mem_cons.1 hx with rfl | hx
   ·exact⟨by show 8≤y.2.1;omega,by show y.2.1<256;omega,h1,h6⟩
   ·exact Zm6 h1 h6 r2 x hx
theorem Zfx (d:Dk) {k:Nat} (hk:k≤6):∀ (l:List It) (t:List UInt8),Vj (lvF d k) t l=runT d t (Zht ((k:Int)-1) l)
 | [],t=>rfl
 | x::l,t=>by
  unfold Vj
  by_cases h:x.2.1=0
  ·rw[if_pos h,Zgv h]
   exact Zfx d hk l t
  ·rw[if_neg h,Zgg h]
   have e:wkF d ((k:Int)-1) t x.2.1.toNat=lvF d k t x.2.1.toNat:=by
    rw[wkF,if_neg (by omega),show ((k:Int)-1+1).toNat=k by omega]
   show (lvF d k t x.2.1.toNat).bind _=(wkF d ((k:Int)-1) t x.2.1.toNat).bind _
   rw[e]
   cases lvF d k t x.2.1.toNat with
   | none=>rfl
   | some u=>exact Zfx d hk l u
theorem Z0q {d:Dk} {lv:Int} {t:List UInt8} {a:Nat} (h:t[a]?.getD 0=0):wkF d lv t a=none:=by
 have hd:dnO t a=none:=by rw[dnO,if_pos h]
 unfold wkF
 split
 ·rw[lfO,hd];rfl
 ·cases (lv+1).toNat with
  | zero=>exact hd
  | succ l =>
   show lvS d l (lvF d l) t a=none
   rw[lvS,hd];rfl
theorem Zpb {x:UInt8} (h:x≠0):x-1≠0↔1<x.toNat:=by
 have h1:=Zgx h
 refine⟨fun e => ?_,fun e e0 => ?_⟩
 ·have:(x-1).toNat≠0:=fun e'=>e (Vb.1 e')
  omega
 ·have:=Vb.2 e0
  omega
def Rdn (d:Dk) (lv:Int) (a:Nat):Prop:=reN (Z1 d a)=0∧(lv=6∨(reV (Z1 d a)).1=lv)
theorem Z1l {d:Dk} {lv:Int} {t:List UInt8} {a:Nat} (h1 : -1≤lv) (h6:lv≤6) (h:t[a]?.getD 0≠0) :
  ((t[a]?.getD 0-1≠0∨lv = -1)∧wkF d lv t a=some (t.set a (t[a]?.getD 0-1))) ∨
  (t[a]?.getD 0-1=0∧lv ≠ -1∧¬ Rdn d lv a∧wkF d lv t a=none) ∨
  (t[a]?.getD 0-1=0∧lv ≠ -1∧Rdn d lv a∧wkF d lv t a=runT d (t.set a (t[a]?.getD 0-1)) (Zsg (reV (Z1 d a)))):=by
 have hd:=Zb3 h
 have hlow:reN (Z1 d a)=0→0≤(reV (Z1 d a)).1∧(reV (Z1 d a)).1<6:=fun hr=>by
  obtain⟨⟨s1,s2,_⟩,_⟩:=Z2 (Zee hr).1
  exact⟨s1,s2⟩
 by_cases hc:t[a]?.getD 0-1=0
 case neg =>
  refine .inl ⟨.inl hc,?_⟩
  have hm:=(Zpb h).1 hc
  unfold wkF
  split
  ·rw[lfO,hd]
   show (if 1<(t[a]?.getD 0).toNat then _ else _)=_
   rw[if_pos hm]
  ·exact Zf1 d _ t a hm
 have hm:¬ 1<(t[a]?.getD 0).toNat:=fun e=>(Zpb h).2 e hc
 by_cases hl:lv = -1
 ·refine .inl ⟨.inr hl,?_⟩
  subst hl
  exact hd
 right
 by_cases h0:lv=6
 ·subst h0
  have e:wkF d 6 t a=if reN (Z1 d a)=0 then Vj (lvF d (reV (Z1 d a)).1.toNat) (t.set a (t[a]?.getD 0-1)) (reV (Z1 d a)).2 else none:=by
   rw[wkF,if_pos rfl,lfO,hd]
   show (if 1<(t[a]?.getD 0).toNat then _ else _)=_
   rw[if_neg hm]
  by_cases hr:reN (Z1 d a)=0
  ·refine .inr ⟨hc,by decide,⟨hr,.inl rfl⟩,?_⟩
   have hq:=hlow hr
   rw[e,if_pos hr,Zfx d (by omega),Zsg,show (((reV (Z1 d a)).1.toNat:Nat):Int)=(reV (Z1 d a)).1 by omega]
  ·exact .inl ⟨hc,by decide,fun h=>hr h.1,by rw[e,if_neg hr]⟩
 ·obtain⟨l,rfl⟩:∃ l:Nat,lv=l:=⟨lv.toNat,by omega⟩
  have e:wkF d l t a=if reN (Z1 d a)=0∧(reV (Z1 d a)).1=(l:Int) then Vj (lvF d l) (t.set a (t[a]?.getD 0-1)) (reV (Z1 d a)).2 else none:=by
   rw[wkF,if_neg h0,show ((l:Int)+1).toNat=l+1 by omega]
   show lvS d l (lvF d l) t a=_
   rw[lvS,hd]
   show (if 1<(t[a]?.getD 0).toNat then _ else _)=_
   rw[if_neg hm]
  by_cases hr:reN (Z1 d a)=0∧(reV (Z1 d a)).1=(l:Int)
  ·refine .inr ⟨hc,hl,⟨hr.1,.inr hr.2⟩,?_⟩
   rw[e,if_pos hr,Zfx d (by omega),Zsg,hr.2]
  ·exact .inl ⟨hc,hl,fun h=>hr ⟨h.1,h.2.resolve_left h0⟩,by rw[e,if_neg hr]⟩
def Znf (t:List UInt8):Nat:=(t.map (·.toNat)).sum
theorem Zwg:∀ t:List UInt8,Znf t≤255*t.length
 | []=>by simp[Znf]
 | x::t=>by
  have h1:=Zwg t
  have h2:=x.toNat_lt
  simp only[Znf,List.map_cons,List.sum_cons,List.length_cons] at h1 ⊢
  omega
theorem Zul:∀ {t:List UInt8} {a:Nat},t[a]?.getD 0≠0→Znf (t.set a (t[a]?.getD 0-1))+1=Znf t
 | [],a,h=>absurd (by simp) h
 | x::t,0,h=>by
  have h':x≠0:=by simpa using h
  have:=Zgx h'
  simp only[List.set_cons_zero,Znf,List.map_cons,List.sum_cons,List.getElem?_cons_zero,Option.getD_some]
  omega
 | x::t,a+1,h=>by
  have h':t[a]?.getD 0≠0:=by simpa using h
  have:=Zul h'
  simp only[List.set_cons_succ,Znf,List.map_cons,List.sum_cons,List.getElem?_cons_succ] at this ⊢
  omega
def Zz0 (s:Rm):Prop:=Zys s.1∧s.2.1.length≤10000∧s.2.2.length≤10000
theorem Zq1 {s:Rm} (h:Xq s=true):Zz0 s:=by
 obtain⟨h1,h2,h3⟩:=Yb h
 exact⟨Zb7 h1,by rw[Yn h2];omega,by rw[Yn h3];omega⟩
theorem Z1r {lo:Nat} {w1 W W9:World} {P Q N L:Value} {s:Rm} {g:Nat} (hd:Dsk (New w1.heap.size W) W (.agg #[P,Q]) s.1) (hn:rBy (New w1.heap.size W) W [N] s.2.1) (hl:rBy (New w1.heap.size W) W [L] s.2.2) (hg:g<w1.heap.size) (hlo:lo≤w1.heap.size) (gr:W.grownBy W9 (some g)):Sto (New lo W9) W9 (.agg #[P,Q,N,L]) s :=
 Sto.mk ((hd.grown gr (fun q e=>by cases e;exact hg)).new hlo (Below.refl _ _)) (Zf.new (Zf.grown hn gr (fun q e=>by cases e;exact hg)) hlo (Below.refl _ _)) (Zf.new (Zf.grown hl gr (fun q e=>by cases e;exact hg)) hlo (Below.refl _ _))
theorem Zsj (v:Value) (s:Rm) (hsm:Zz0 s) (w:World) (h:Sto (Old w) w v s) :
  Calls Tryz.prog 93 #[v] w fun e w'=>∃ A ca B cb N cn L cl,e=.returned (.agg #[.slice A s.1.1.length ca,.slice B s.1.2.length cb,.slice N s.2.1.length cn,.slice L s.2.2.length cl])∧Sto (New w.heap.size w') w' (.agg #[.slice A s.1.1.length ca,.slice B s.1.2.length cb,.slice N s.2.1.length cn,.slice L s.2.2.length cl]) s∧Below w.heap.size w w':=by
 obtain⟨A,ca,B,cb,N,cn,L,cl,w1,rfl,hw1,f1,f2,hsz,hB,H⟩:=Zd8 h
 clear h
 obtain⟨m0,m1,m2,m3,_,mg⟩:=Ze f1
 replace hsz:=Za hsz
 replace f1:=Za f1
 replace f2:=Za f2
 replace hsm:=Za hsm
 go_enter Tryz.func93,Tryz.ntmps93
 go_upto_region 1 with fail
 clear hw1
 refine Vo (by kernel_rfl) 10 (fun W=>Below w1.heap.size w1 W) (fun i=>match i with
   | 2=>some (fun v W=>Dsk (New w1.heap.size W) W v s.1)
   | 5=>some (fun v W=>rBy (New w1.heap.size W) W [v] s.2.1)
   | 8=>some (fun v W=>rBy (New w1.heap.size W) W [v] s.2.2)
   | 9=>some (fun v W=>∃ P p Q r Y y X x,v=.agg #[.slice P s.1.1.length p,.slice Q s.1.2.length r,.slice Y s.2.1.length y,.slice X s.2.2.length x]∧Dsk (New w1.heap.size W) W (.agg #[.slice P s.1.1.length p,.slice Q s.1.2.length r]) s.1∧rBy (New w1.heap.size W) W [.slice Y s.2.1.length y] s.2.1∧rBy (New w1.heap.size W) W [.slice X s.2.2.length x] s.2.2)
   | _=>none) (fun _=>none) (by decide) (by kernel_rfl) (by kernel_rfl) (Below.refl _ _).drew (fun w w' h hb=>h.trans (hb.mono h.size)) ?tst ?_
 case tst =>
  intro j φ x W W' hp hx hb
  match j,hp with
  | 2,hp=>cases hp;exact hx.new (Nat.le_refl _) hb
  | 5,hp=>cases hp;exact Zf.new hx (Nat.le_refl _) hb
  | 8,hp=>cases hp;exact Zf.new hx (Nat.le_refl _) hb
  | 9,hp =>
   cases hp
   obtain⟨P,p,Q,r,Y,y,X,x,e1,e2,e3,e4⟩:=hx
   exact⟨P,p,Q,r,Y,y,X,x,e1,e2.new (Nat.le_refl _) hb,Zf.new e3 (Nat.le_refl _) hb,Zf.new e4 (Nat.le_refl _) hb⟩
 simp only[List.take_succ_cons,List.take_zero,List.drop_succ_cons,List.drop_zero]
 repeat (first
  | (refine wpAs_skip rfl ?_;simp only[Act.put,Zb,Zc,Zd])
  | (refine wpAs_pure (v := ?_) rfl rfl ?_ ?_;rotate_left;(intro W hC hE;clear hE;(have z0:=(hC.cell (p:=⟨w.heap.size,0,none⟩) mg).trans m0;have z1:=(hC.cell (p:=⟨w.heap.size,1,none⟩) mg).trans m1);clear hC;go_simp;first | done | with_reducible rfl);simp only[Act.put,Zb,Zc,Zd]))
 refine wpAs_act rfl rfl ?_ ?_
 ·intro W hC hE
  clear hE
  refine does_enter (f:=90) (args:=#[.agg #[.slice A s.1.1.length ca,.slice B s.1.2.length cb]]) ?_ ?_
  ·go_simp
  ·refine(Zoy _ s.1 W hsm.out.1 (H.out.below hC).parts.1).mono ?_
   rintro e W' ⟨u,rfl,hu,hb⟩
   exact⟨_,rfl,hu.new hC.size (Below.refl _ _),hb⟩
 simp only[Act.put,Zb,Zc,Zd,envAdd]
 intro x5
 repeat (first
  | (refine wpAs_skip rfl ?_;simp only[Act.put,Zb,Zc,Zd])
  | (refine wpAs_pure (v := ?_) rfl rfl ?_ ?_;rotate_left;(intro W hC hE;clear hE;(have z2:=(hC.cell (p:=⟨w.heap.size,2,none⟩) mg).trans m2);clear hC;go_simp;first | done | with_reducible rfl);simp only[Act.put,Zb,Zc,Zd]))
 refine wpAs_act rfl rfl ?_ ?_
 ·intro W hC hE
  clear hE
  refine does_enter (f:=80) (args:=#[.slice N s.2.1.length cn]) ?_ ?_
  ·go_simp
  ·refine(Ur _ s.2.1 W (by have:=hsm.out.2.1;omega) (H.out.below hC).parts.2.1).mono ?_
   rintro e W' ⟨u,rfl,ho,hb⟩
   exact⟨_,rfl,Zf.new ho hC.size (Below.refl _ _),hb⟩
 simp only[Act.put,Zb,Zc,Zd,envAdd]
 intro x8
 repeat (first
  | (refine wpAs_skip rfl ?_;simp only[Act.put,Zb,Zc,Zd])
  | (refine wpAs_pure (v := ?_) rfl rfl ?_ ?_;rotate_left;(intro W hC hE;clear hE;(have z3:=(hC.cell (p:=⟨w.heap.size,3,none⟩) mg).trans m3);clear hC;go_simp;first | done | with_reducible rfl);simp only[Act.put,Zb,Zc,Zd]))
 refine wpAs_act rfl rfl ?_ ?_
 ·intro W hC hE
  clear hE
  refine does_enter (f:=80) (args:=#[.slice L s.2.2.length cl]) ?_ ?_
  ·go_simp
  ·refine(Ur _ s.2.2 W (by have:=hsm.out.2.2;omega) (H.out.below hC).parts.2.2).mono ?_
   rintro e W' ⟨u,rfl,ho,hb⟩
   exact⟨_,rfl,Zf.new ho hC.size (Below.refl _ _),hb⟩
 simp only[Act.put,Zb,Zc,Zd,envAdd]
 intro x11
 refine wpAs_act rfl rfl ?_ ?_
 ·intro W hC hE
  have h11:=hE.1 rfl
  have h8:=hE.2.1 rfl
  have h5:=hE.2.2.1 rfl
  obtain⟨X,x,rfl,_⟩:=Zv h11
  obtain⟨Y,y,rfl,_⟩:=Zv h8
  obtain⟨P,p,Q,r,rfl,_⟩:=h5.open
  have h11':=Za h11
  have h8':=Za h8
  have h5':=Za h5
  clear hE hC h11 h8 h5
  go_simp
  exact⟨⟨P,p,Q,r,Y,y,X,x,rfl,h5'.out,h8'.out,h11'.out⟩,Below.refl _ _⟩
 simp only[Act.put,Zb,Zc,Zd,envAdd]
 intro x12
 refine wpAs_end fun W hC hE => ?_
 obtain⟨⟨P,p,Q,r,Y,y,X,x,rfl,hd,hn,hl⟩,_⟩:=hE
 have bW:=(hC.block (w.heap.size+1) (by rw[hsz.out];omega)).trans f2.out
 obtain⟨c0,c1,c2,c3,c4,c5⟩:=Ze bW
 obtain⟨W9,hW9,g9,gr9,gs9⟩:=Zs (a':=.slice P s.1.1.length p) (b':=.slice Q s.1.2.length r) (c':=.slice Y s.2.1.length y) (d':=.slice X s.2.2.length x) bW
 obtain⟨n0,n1,n2,n3,_,_⟩:=Ze g9
 have BW:=hB.trans (hC.mono hB.size)
 have hfin:=Za (Z1r (lo:=w.heap.size) hd hn hl (by rw[hsz.out];omega) hB.size gr9)
 have hB9:=Za (BW.grown gr9 BW.size (fun q e=>by cases e;omega))
 clear hd hn hl gr9 gs9 BW hC
 replace bW:=Za bW
 replace g9:=Za g9
 go_wp2_with fail
 refine bodyPost_ret (v:=.agg #[.slice P s.1.1.length p,.slice Q s.1.2.length r,.slice Y s.2.1.length y,.slice X s.2.2.length x]) (by simp[results,Tryz.results93,go_sem,n0,n1,n2,n3]) rfl ?_
 exact⟨_,_,_,_,_,_,_,_,rfl,hfin.out,hB9.out⟩
theorem Zk8 (v:Value) (s:Rm) (n:Int) (w:World) (h:Sto (Old w) w v s):Calls Tryz.prog 91 #[v,.int .i64 n] w fun e w'=>e=.returned (.int .i64 (asE s n))∧Below w.heap.size w w':=by
 obtain⟨A,ca,B,cb,N,cn,L,cl,w1,rfl,hw1,f,hsz,hB,_,NN,_⟩:=Zm9 h
 have H:=Za (h.below hB)
 clear h
 obtain⟨k0,k1,k2,k3,_,kg⟩:=Ze f
 replace hsz:=Za hsz
 rcases Ze2 s n with ⟨hm,he⟩ | ⟨hm,hn,he⟩ | ⟨k,hm,rfl,h8,h256,hx,he⟩ | ⟨k,hm,rfl,h8,h256,hx,he⟩
 ·replace he:=Za he
  have e1:=Zcz hm
  go_enter Tryz.func91,Tryz.ntmps91
  go_upto_region 1 with fail
  clear hw1
  go_wp2_with fail
  with_reducible refine(Yy _ s _ H.out).mono ?_
  rintro e w2 ⟨rfl,hb2⟩
  rw[e1]
  replace hb2:=Za (hB.trans (hb2.mono hB.size))
  go_wp2_with fail
  go_ret
  exact⟨Zx he.out.symm,hb2.out⟩
 ·replace he:=Za he
  have e1:=Zbj hm
  by_cases h8:n<8
  ·clear hn
   go_enter Tryz.func91,Tryz.ntmps91
   go_upto_region 1 with fail
   clear hw1
   go_wp2_with fail
   with_reducible refine(Yy _ s _ H.out).mono ?_
   rintro e w2 ⟨rfl,hb2⟩
   rw[e1]
   replace hb2:=Za (hB.trans (hb2.mono hB.size))
   go_wp2_with fail
   go_ret
   exact⟨Zx he.out.symm,hb2.out⟩
  ·have h9:256≤n:=by omega
   clear hn
   go_enter Tryz.func91,Tryz.ntmps91
   go_upto_region 1 with fail
   clear hw1
   go_wp2_with fail
   with_reducible refine(Yy _ s _ H.out).mono ?_
   rintro e w2 ⟨rfl,hb2⟩
   rw[e1]
   replace hb2:=Za (hB.trans (hb2.mono hB.size))
   go_wp2_with fail
   go_ret
   exact⟨Zx he.out.symm,hb2.out⟩
 all_goals
  replace he:=Za he
  have e1:=Zbj hm
  have hlen:=Yn (Yb hm).2.1
  obtain⟨A',c',e2,l1,m1,hby⟩:=Vc (B:=w1.heap.size) (fun _ h=>h) NN.out
  cases e2
  obtain⟨ad,rfl,hbk,hc⟩:=hby (by omega)
  have hcell:=hc k (by omega)
  replace hbk:(ad.add k).block<w1.heap.size:=by rw[Zj];exact hbk
  obtain⟨x,hx2⟩:∃ x,s.2.1[k]?.getD 0=x:=⟨_,rfl⟩
  rw[hx2] at hcell hx
  have hlt:k<s.2.1.length:=by omega
  first
   | have t0:=Xy (y:=0) (q:=0) rfl hx
   | have t0:=Xe (y:=0) (q:=0) rfl hx
  have i1:¬ (k:Int)<8:=by omega
  have i2:¬ 256≤(k:Int):=by omega
  replace hx2:=Za hx2
  replace hx:=Za hx
  replace hlen:=Za hlen
  clear hc hby
  go_enter Tryz.func91,Tryz.ntmps91
  go_upto_region 1 with fail
  clear hw1
  go_wp2_with fail
  with_reducible refine(Yy _ s _ H.out).mono ?_
  rintro e w2 ⟨rfl,hb2⟩
  rw[e1]
  replace k2:=(hb2.cell (p:=⟨w.heap.size,2,none⟩) kg).trans k2
  replace hcell:=(hb2.cell hbk).trans hcell
  replace hb2:=Za (hB.trans (hb2.mono hB.size))
  go_wp2_with fail
  go_ret
  exact⟨Zx he.out.symm,hb2.out⟩
theorem Z32 (w:World) (a b c d e f:Value):∃ w1,((w.alloc (.cells #[a,b,c,d] 29)).alloc (.cells #[e,f] 115)).alloc (.cells #[.int .i64 0,.slice none 0 0] 81)=w1 ∧
  w1.heap[w.heap.size]? = some (.cells #[a,b,c,d] 29 (0,0))∧w1.heap[w.heap.size+1]? = some (.cells #[e,f] 115 (0,0))∧w1.heap[w.heap.size+2]? = some (.cells #[.int .i64 0,.slice none 0 0] 81 (0,0))∧w1.heap.size=w.heap.size+3∧Below w.heap.size w w1:=by
 refine⟨_,rfl,Y3 (Y3 (heap_alloc_new _ _)),Y3 ?_,?_,by simp,(((Below.refl _ w).alloc (Nat.le_refl _) _).alloc (by simp) _).alloc (by simp;omega) _⟩
 ·have:=heap_alloc_new (w.alloc (.cells #[a,b,c,d] 29)) (.cells #[e,f] 115)
  rwa [World.size_alloc] at this
 ·have:=heap_alloc_new ((w.alloc (.cells #[a,b,c,d] 29)).alloc (.cells #[e,f] 115)) (.cells #[.int .i64 0,.slice none 0 0] 81)
  rwa [World.size_alloc,World.size_alloc] at this
def RdP (s:Rm) (k:Nat) (lv:Int) (w w':World) (e:Ending):Prop:=∃ (u:Value) (q:Int) (nd:Nd),e=.returned (.tuple #[u,.int .i64 q])∧((Rdn s.1 lv k∧q=0∧nd=reV (Z1 s.1 k))∨(¬ Rdn s.1 lv k∧q=8∧nd=Vk))∧Nod (New w.heap.size w') w' u nd∧Below w.heap.size w w'
theorem Zku (v:Value) (s:Rm) (k:Nat) (lv:Int) (ha:asE s k=0) (w:World) (h:Sto (Old w) w v s) :
  Calls Tryz.prog 131 #[v,.agg #[.int .i64 k,.int .i64 lv]] w fun e w'=>RdP s k lv w w' e:=by
 obtain⟨A,ca,B,cb,N,cn,L,cl,rfl,_,_,_⟩:=h.open
 obtain⟨w1,hw1,f1,f2,f3,hsz,hB⟩:=Z32 w (.slice A s.1.1.length ca) (.slice B s.1.2.length cb) (.slice N s.2.1.length cn) (.slice L s.2.2.length cl) (.int .i64 k) (.int .i64 lv)
 have H:=Za (h.below hB)
 clear h
 obtain⟨k0,k1,k2,k3,_,kg⟩:=Ze f1
 obtain⟨j0,j1,_,jg⟩:=Zg f2
 obtain⟨k',e',_,_,_,_,_,hE,hV,-⟩:=Xi ha
 have hkk:k'=k:=by omega
 subst hkk
 clear e'
 obtain⟨b,hb⟩:∃ b,Z1 s.1 k'=b:=⟨_,rfl⟩
 rw[hb] at hE hV
 obtain⟨q,hq⟩:∃ q,reN b=q:=⟨_,rfl⟩
 obtain⟨nd,hnd⟩:∃ nd,reV b=nd:=⟨_,rfl⟩
 rw[hq] at hE
 rw[hnd] at hV
 obtain⟨lw,hlw⟩:∃ q,nd.1=q:=⟨_,rfl⟩
 have hR:Hid (Rdn s.1 lv k'↔(q=0∧(lv=6∨lw=lv))):=Za (by unfold Rdn;rw[hb,hq,hnd,hlw])
 have hND:Hid (nd=reV (Z1 s.1 k')):=Za (by rw[hb,hnd])
 replace hsz:=Za hsz
 replace f3:=Za f3
 replace hb:=Za hb
 replace hq:=Za hq
 replace hnd:=Za hnd
 replace hE:=Za hE
 replace hV:=Za hV
 clear f1 ha
 go_enter Tryz.func131,Tryz.ntmps131
 go_upto_region 1 with fail
 clear hw1
 go_wp2_with fail
 with_reducible refine(Zk6 _ s (k':Int) _ H.out).mono ?_
 rintro e w2 ⟨u,rfl,hu,hb2⟩
 rw[hE.out]
 rw[hV.out] at hu
 obtain⟨P,pc,rfl,_⟩:=id hu.open
 rw[hlw]
 obtain⟨w3,hw3,g3,hs3,hb3⟩:=Z7 w2 (.int .i64 lw) (.slice P nd.2.length pc) 81
 have F3:=(hb3.block (w.heap.size+2) (by have:=hb2.size;have:=hsz.out;omega)).trans ((hb2.block (w.heap.size+2) (by have:=hsz.out;omega)).trans f3.out)
 have G2:=(hb3.block (w.heap.size+1) (by have:=hb2.size;have:=hsz.out;omega)).trans ((hb2.block (w.heap.size+1) (by have:=hsz.out;omega)).trans f2)
 obtain⟨m0,m1,_,_⟩:=Zg g3
 obtain⟨n0,n1,_,_⟩:=Zg G2
 obtain⟨x0,x1,x2,_⟩:=Zg F3
 have B3:=Za (hB.trans ((hb2.trans (hb3.mono hb2.size)).mono hB.size))
 have U3:=Za (hu.new (Nat.le_refl _) hb3)
 have s3:Hid (w.heap.size+3≤w1.heap.size):=Za (by have:=hsz.out;omega)
 rw[hlw] at U3
 clear hu hb2 hb3 hB k0 k1 k2 k3 kg j0 j1 jg f2
 replace hs3:=Za hs3
 replace g3:=Za g3
 replace G2:=Za G2
 go_upto_region 2 with fail
 clear hw3
 by_cases hok:q=0∧(lv=6∨lw=lv)
 ·obtain⟨W9,hW9,g9,gr9,gs9⟩:=Xk (u:=.int .i64 lw) (v:=.slice P nd.2.length pc) F3
  obtain⟨o0,o1,_,_⟩:=Zg g9
  have hfin:=Za (show Nod (New w.heap.size W9) W9 (.agg #[.int .i64 lw,.slice P nd.2.length pc]) nd from
   (U3.out.grown gr9 (fun q e=>by cases e;have:=s3.out;omega)).new (by have:=s3.out;omega) (Below.refl _ _))
  have hB9:=Za (B3.out.grown gr9 B3.out.size (fun q e=>by cases e;omega))
  have hq0:=hok.1
  have hok':=Za hok
  subst hq0
  replace F3:=Za F3
  replace g9:=Za g9
  clear gr9 gs9
  by_cases h6:lv=6
  ·have c1:(lv != 6)=false:=by simp[h6]
   clear hok h6
   go_wp2_with fail
   refine bodyPost_ret (v:=.tuple #[.agg #[.int .i64 lw,.slice P nd.2.length pc],.int .i64 0]) (by simp[results,Tryz.results131,go_sem,o0,o1]) rfl ?_
   exact⟨_,0,nd,rfl,.inl ⟨hR.out.2 hok'.out,rfl,hND.out⟩,hfin.out,hB9.out⟩
  ·have c1:(lv != 6)=true:=by simpa using h6
   have c2:(lw != lv)=false:=by
    rcases hok.2 with h | h
    ·exact absurd h h6
    ·simp[h]
   clear hok
   go_wp2_with fail
   refine bodyPost_ret (v:=.tuple #[.agg #[.int .i64 lw,.slice P nd.2.length pc],.int .i64 0]) (by simp[results,Tryz.results131,go_sem,o0,o1]) rfl ?_
   exact⟨_,0,nd,rfl,.inl ⟨hR.out.2 hok'.out,rfl,hND.out⟩,hfin.out,hB9.out⟩
 ·obtain⟨W9,hW9,g9,gr9,gs9⟩:=Xk (u:=.int .i64 0) (v:=.slice none 0 0) F3
  obtain⟨o0,o1,_,_⟩:=Zg g9
  have hfin:=Za (Zxq (New w.heap.size W9) W9)
  have hB9:=Za (B3.out.grown gr9 B3.out.size (fun q e=>by cases e;omega))
  have hok':=Za hok
  replace F3:=Za F3
  replace g9:=Za g9
  clear gr9 gs9
  by_cases hq0:q=0
  ·have c1:(lv != 6)=true:=by
    have:¬ lv=6:=fun h=>hok ⟨hq0,.inl h⟩
    simpa using this
   have c2:(lw != lv)=true:=by
    have:¬ lw=lv:=fun h=>hok ⟨hq0,.inr h⟩
    simpa using this
   clear hok
   subst hq0
   go_wp2_with fail
   refine bodyPost_ret (v:=.tuple #[.agg #[.int .i64 0,.slice none 0 0],.int .i64 8]) (by simp[results,Tryz.results131,go_sem,o0,o1]) rfl ?_
   exact⟨_,8,Vk,rfl,.inr ⟨fun h=>hok'.out (hR.out.1 h),rfl,rfl⟩,hfin.out,hB9.out⟩
  ·have c0:(q != 0)=true:=by simpa using hq0
   clear hok
   go_wp2_with fail
   refine bodyPost_ret (v:=.tuple #[.agg #[.int .i64 0,.slice none 0 0],.int .i64 8]) (by simp[results,Tryz.results131,go_sem,o0,o1]) rfl ?_
   exact⟨_,8,Vk,rfl,.inr ⟨fun h=>hok'.out (hR.out.1 h),rfl,rfl⟩,hfin.out,hB9.out⟩
def Off (g:Nat) (w:World):Addr→Prop:=fun p=>p.block<w.heap.size∧p.block≠g
theorem Zgz {g:Nat} {W W1:World} {p:Addr} {v:Value} (gr:W.grownBy W1 (some g)) (hp:Off g W p) (hc:W.cell? p=some v):Off g W1 p∧W1.cell? p=some v :=
 ⟨⟨Nat.lt_of_lt_of_le hp.1 gr.size,hp.2⟩,(World.cell?_of_block (gr.block _ hp.1 (by simpa using hp.2))).trans hc⟩
theorem Zla {g:Nat} {W W1:World} {p:Addr} {v:Value} (hb:Below W.heap.size W W1) (hp:Off g W p) (hc:W.cell? p=some v):Off g W1 p∧W1.cell? p=some v :=
 ⟨⟨Nat.lt_of_lt_of_le hp.1 hb.size,hp.2⟩,(hb.cell hp.1).trans hc⟩
theorem Zj3 {g:Nat} {w W:World} {p:Addr} {v:Value} (hb:Below w.heap.size w W) (hg:w.heap.size≤g) (hp:Old w p) (hc:w.cell? p=some v):Off g W p∧W.cell? p=some v :=
 ⟨⟨Nat.lt_of_lt_of_le hp hb.size,fun e=>by have h:p.block<w.heap.size:=hp;omega⟩,(hb.cell hp).trans hc⟩
theorem Zi5 {g:Nat} {W:World} {p:Addr} {v:Value} (hp:Off g W p) (hc:W.cell? p=some v):Old W p∧W.cell? p=some v:=⟨hp.1,hc⟩
theorem Zw1 {l:List It} {i:Nat} {x:It} {t:List UInt8} (h:ctE t (l.take i)=0) (hx:l[i]? = some x):ctE t l=ctE (ctV t (l.take i)) (x::l.drop (i+1)):=by
 have hk:=(List.getElem?_eq_some_iff.1 hx).1
 have hg:l[i]=x:=(List.getElem?_eq_some_iff.1 hx).2
 have e:l=l.take i++x::l.drop (i+1):=by rw[← hg,List.getElem_cons_drop,List.take_append_drop]
 have:ctE t l=ctE t (l.take i++x::l.drop (i+1)):=by rw[← e]
 rw[this,Zjq,if_pos h]
theorem Z2g {l:List It} {i:Nat} {x:It} {t:List UInt8} (h:ctE t (l.take i)=0) (hx:l[i]? = some x):ctE t (l.take (i+1))=ctE (ctV t (l.take i)) [x]∧ctV t (l.take (i+1))=ctV (ctV t (l.take i)) [x]:=by
 have hk:=(List.getElem?_eq_some_iff.1 hx).1
 have hg:l[i]=x:=(List.getElem?_eq_some_iff.1 hx).2
 rw[← List.take_append_getElem hk,Zjq,Zoq,if_pos h,hg]
 exact⟨rfl,rfl⟩
theorem Zrg {w:World} (a b c d e f:Value):∃ w1,((w.alloc (.cells #[a,b,c,d] 29)).alloc (.cells #[e,f] 81)).alloc (.cells #[.slice none 0 0,.slice none 0 0,.slice none 0 0,.slice none 0 0] 29)=w1 ∧
  w1.heap[w.heap.size]? = some (.cells #[a,b,c,d] 29 (0,0))∧w1.heap[w.heap.size+1]? = some (.cells #[e,f] 81 (0,0))∧w1.heap[w.heap.size+2]? = some (.cells #[.slice none 0 0,.slice none 0 0,.slice none 0 0,.slice none 0 0] 29 (0,0))∧w1.heap.size=w.heap.size+3∧Below w.heap.size w w1:=by
 refine⟨_,rfl,Y3 (Y3 (heap_alloc_new _ _)),Y3 ?_,?_,by simp,(((Below.refl _ w).alloc (Nat.le_refl _) _).alloc (by simp) _).alloc (by simp;omega) _⟩
 ·have:=heap_alloc_new (w.alloc (.cells #[a,b,c,d] 29)) (.cells #[e,f] 81)
  rwa [World.size_alloc] at this
 ·have:=heap_alloc_new ((w.alloc (.cells #[a,b,c,d] 29)).alloc (.cells #[e,f] 81)) (.cells #[.slice none 0 0,.slice none 0 0,.slice none 0 0,.slice none 0 0] 29)
  rwa [World.size_alloc,World.size_alloc] at this
theorem Zsn {s:Rm} {n:Nd} (hm:Xq s=true) (hn:mayN n=true):(ctE s.2.1 n.2≠0∧mkE s n=ctE s.2.1 n.2∧mkN s n=0∧mkV s n=Zh)∨(ctE s.2.1 n.2=0∧mkE s n=tkE (ctS s n) (Xs n)∧mkN s n=tkN (ctS s n) (Xs n)∧mkV s n=tkV (ctS s n) (Xs n)):=by
 by_cases hc:ctE s.2.1 n.2=0
 ·have e:mkE s n=tkE (ctS s n) (Xs n):=by simp[mkE,hm,hn,hc]
  refine .inr ⟨hc,e,?_,?_⟩
  ·by_cases h:mkE s n=0
   ·rw[mkN,if_pos h]
   ·rw[mkN,if_neg h,(Zqq (by rw[← e];exact h)).1]
  ·by_cases h:mkE s n=0
   ·rw[mkV,if_pos h]
   ·rw[mkV,if_neg h,(Zqq (by rw[← e];exact h)).2]
 ·have e:mkE s n=ctE s.2.1 n.2:=by simp[mkE,hm,hn,hc]
  have h:mkE s n≠0:=by rw[e];exact hc
  exact .inl ⟨hc,e,(Zvf h).1,(Zvf h).2⟩
theorem Zof {a b:World} {row:Option Nat} (h:Below a.heap.size a b):a.grownBy b row:=Vu (Y7 a row) h
theorem Zv5 (g c lo:Nat) (t0:List UInt8) (u:Value) (n:Nd) (hn:mayN n=true) (hl0:t0.length=256) (w:World) (hown:w.ownsRow lo 5 1 (.slice (some ⟨g,0,none⟩) 256 c) 256 (u8s t0)) (hu:Nod (Off g w) w u n) :
  Calls Tryz.prog 81 #[.slice (some ⟨g,0,none⟩) 256 c,u] w fun e w'=>e=.returned (.int .i64 (ctE t0 n.2))∧w.grownBy w' (some g)∧(ctE t0 n.2=0→w'.ownsRow lo 5 1 (.slice (some ⟨g,0,none⟩) 256 c) 256 (u8s (ctV t0 n.2))):=by
 obtain⟨I,ci,rfl,_,_,_,hI⟩:=hu.open
 obtain⟨lw,hlw⟩:∃ q,n.1=q:=⟨_,rfl⟩
 obtain⟨l,hl⟩:∃ q,n.2=q:=⟨_,rfl⟩
 obtain⟨m,hlm⟩:∃ q,l.length=q:=⟨_,rfl⟩
 have hrf:=Za (V8 hn)
 obtain⟨⟨_,_,s3,_⟩,_⟩:=Z2 hn
 rw[hl,hlm] at s3 hI
 rw[hl] at hrf ⊢
 rw[hlw,hlm]
 have hg0:g<w.heap.size:=((hown.lt g rfl).2)
 obtain⟨w1,hw1,b1,hs1,hB1⟩:=Z7 w (.int .i64 lw) (.slice I m ci) 81
 have HI:=Za (Xc _ _ _ _ _ _ (fun _ _ hp hc=>Zla (g:=g) hB1 hp hc) hI)
 have HO:=Za (Zw hown hB1)
 have GB:=Za (Zof (row:=some g) hB1)
 obtain⟨p0,p1,_,pg⟩:=Zg b1
 have hgs:Hid (g≠w.heap.size):=Za (by omega)
 have b1h:=Za b1
 replace hl0:=Za hl0
 replace hl:=Za hl
 replace hlw:=Za hlw
 replace hlm:=Za hlm
 replace hs1:=Za hs1
 clear hown hu hI b1 hB1
 go_enter Tryz.func81,Tryz.ntmps81
 go_upto_region 1 with fail
 clear hw1
 go_wp2_with fail
 clear p0 p1
 go_loopw [10] (fun vi wr=>∃ i:Nat,i≤m∧vi=.int .i64 i∧ctE t0 (l.take i)=0∧wr.ownsRow lo 5 1 (.slice (some ⟨g,0,none⟩) 256 c) 256 (u8s (ctV t0 (l.take i)))∧w1.grownBy wr (some g)) (fun vi _=>m-(intOf vi).toNat)
 case atStart=>exact⟨0,by omega,rfl,rfl,HO.out,Y7 _ _⟩
 case round =>
  obtain⟨i,hi,rfl,hE,hown,hgr⟩:=hrel
  have GF:=Za (Yl GB.out hgr)
  by_cases hlt:i<m
  case neg =>
   have hlast:Hid (l.take i=l):=Za (List.take_of_length_le (by rw[hlm.out];omega))
   have hEl:Hid (ctE t0 l=0):=Za (by rw[← hE,hlast.out])
   rw[hlast.out] at hown
   have HO2:=Za hown
   clear hown hgr hE
   go_wp2_with fail
   go_ret
   exact⟨Zx hEl.out.symm,GF.out,fun _=>HO2.out⟩
  obtain⟨x,hx⟩:∃ x,l[i]? = some x:=⟨_,List.getElem?_eq_getElem (by rw[hlm.out];exact hlt)⟩
  have hsp:=Za (Zw1 hE hx)
  have hnx:=Za (Z2g hE hx)
  have hxr:=hrf.out x (List.mem_of_getElem? hx)
  have hIr:=Xc _ _ _ _ _ _ (fun _ _ hp hc=>Zgz (g:=g) hgr hp hc) HI.out
  obtain⟨ad5,E5,ce5,rfl,_,⟨z0,z1,z2,z3,z4⟩,_⟩:=Zaj hIr hx
  clear hIr
  obtain⟨w5,hw5,y0,y1,y2,y3,y4,hs5,hB5,_⟩:=Z8 wr (.int .u8 (x.1.1.toNat:Int)) (.int .u32 x.1.2.1) (.int .u32 x.1.2.2) (.int .i64 x.2.1) (.slice E5 x.2.2.length ce5) 54
  have hown5:=Zw hown hB5
  have hgr5:=Za (Vu hgr (hB5.mono hgr.size))
  have GF5:=Za (Yl GB.out hgr5.out)
  replace hs5:=Za hs5
  have i4:(0:Int)≤(i:Int):=by omega
  have i5:(i:Int)<(m:Int):=by omega
  obtain⟨z,hzz⟩:∃ z,x.2.1=z:=⟨_,rfl⟩
  have hc1:∀ T,ctE T (x::l.drop (i+1))=if z=0 then ctE T (l.drop (i+1)) else if T[z.toNat]?.getD 0=0 then 6 else if T[z.toNat]?.getD 0=255 then 70 else ctE (T.set z.toNat (T[z.toNat]?.getD 0+1)) (l.drop (i+1)):=fun T=>by rw[← hzz];rfl
  have hc2:∀ T,ctE T [x]=if z=0 then 0 else if T[z.toNat]?.getD 0=0 then 6 else if T[z.toNat]?.getD 0=255 then 70 else 0:=fun T=>by rw[← hzz];rfl
  have hc3:∀ T,ctV T [x]=if z=0 then T else T.set z.toNat (T[z.toNat]?.getD 0+1):=fun T=>by rw[← hzz];rfl
  rw[hzz] at z3 hxr hw5 y3
  replace hx:=Za hx
  replace hzz:=Za hzz
  obtain⟨T,hT⟩:∃ T,ctV t0 (l.take i)=T:=⟨_,rfl⟩
  have hTl:Hid (T.length=256):=Za (by rw[← hT,Zdk,hl0.out])
  rw[hT] at hown5 hsp hnx
  replace hT:=Za hT
  replace hE:=Za hE
  clear hown hgr hB5
  go_upto_region 4 with fail
  clear hw5 z0 z1 z2 z3 z4
  by_cases hz0:z=0
  ·have hn1:Hid (ctE t0 (l.take (i+1))=0∧ctV t0 (l.take (i+1))=T):=Za ⟨by rw[hnx.out.1,hc2,if_pos hz0],by rw[hnx.out.2,hc3,if_pos hz0]⟩
   subst hz0
   have HO:=Za hown5
   clear hc1 hc2 hc3 hxr hown5 hE hsp hnx
   go_wp2_with fail
   go_roundw
   case rel=>exact⟨i+1,by omega,by go_num,hn1.out.1,by rw[hn1.out.2];exact HO.out,hgr5.out⟩
   case measure=>simp[intOf];omega
  obtain⟨r,hr,r8,r256⟩:∃ r:Nat,z=r∧8≤r∧r<256:=⟨z.toNat,by omega,by omega,by omega⟩
  rw[hc1,if_neg hz0,show z.toNat=r by omega] at hsp
  rw[hc2,hc3,if_neg hz0,if_neg hz0,show z.toNat=r by omega] at hnx
  have j3:(z==0)=false:=by simpa using hz0
  subst hr
  have hcell:=Zef hown5 (j:=r) r256
  obtain⟨y,hy⟩:∃ y,T[r]?.getD 0=y:=⟨_,rfl⟩
  rw[hy] at hsp hnx hcell
  replace hy:=Za hy
  by_cases hy0:y=0
  ·have t1:=Xy (y:=0) (q:=0) rfl hy0
   have hEl:Hid (ctE t0 l=6):=Za (by rw[hsp.out,if_pos hy0])
   clear hc1 hc2 hc3 hxr hown5 hE hsp hnx hz0
   go_wp2_with fail
   go_ret
   exact⟨Zx hEl.out.symm,GF5.out,fun h=>by rw[hEl.out] at h;cases h⟩
  have t1:=Xe (y:=0) (q:=0) rfl hy0
  by_cases hy5:y=255
  ·have t2:=Xy (y:=255) (q:=255) rfl hy5
   have hEl:Hid (ctE t0 l=70):=Za (by rw[hsp.out,if_neg hy0,if_pos hy5])
   clear hc1 hc2 hc3 hxr hown5 hE hsp hnx hz0
   go_wp2_with fail
   go_ret
   exact⟨Zx hEl.out.symm,GF5.out,fun h=>by rw[hEl.out] at h;cases h⟩
  have t2:=Xe (y:=255) (q:=255) rfl hy5
  have hfr:w5.frozen? ⟨g,r,none⟩=false:=hown5.frozenAt r
  obtain⟨hu1,hu2,hu3⟩:=Zhi hy5
  have hset:=Znu hown5 r (y+1)
  have hn1:Hid (ctE t0 (l.take (i+1))=0∧ctV t0 (l.take (i+1))=T.set r (y+1)):=Za ⟨by rw[hnx.out.1,if_neg hy0,if_neg hy5],hnx.out.2⟩
  rw[← hu1] at hset
  replace hset:=Za hset
  replace hu1:=Za hu1
  have hgn:=Za (Yo hgr5.out (p:=⟨g,r,none⟩) rfl (.int .u8 ((y.toNat:Int)+1)))
  clear hc1 hc2 hc3 hxr hown5 hE hsp hnx hz0
  go_wp2_with fail
  go_roundw
  case rel=>exact⟨i+1,by omega,by go_num,hn1.out.1,by rw[hn1.out.2];exact hset.out,hgn.out⟩
  case measure=>simp[intOf];omega
end Go.Proofs.YtgmbjnajdfgenaaGreat
namespace Go.Proofs.YtgmbjnajdfgenaaGreat
open Go.RowKit Go.Shelf Go.Maps
attribute [local go_sem] Oper.semAt_some
theorem Zot:(Tryz.prog.info? 115).map (fun i=>(i.zero,i.size,i.bytes))=some (some (.agg #[.int .i64 0,.int .i64 0]),2,16):=by kernel_rfl
def rfV (l:List Rf):List Value:=l.flatMap fun x=>[.int .i64 x.1,.int .i64 x.2]
theorem Z2x (l:List Rf):(rfV l).length=l.length*2:=by
 induction l with
 | nil=>rfl
 | cons x l ih =>
  show (rfV l).length+2=_
  rw[ih,List.length_cons]
  omega
theorem Zn3 (a b:List Rf):rfV (a++b)=rfV a++rfV b:=by simp[rfV]
theorem Z0u (l:List Rf):∀ v∈rfV l,v.oneCell'=true:=by
 intro v hv
 simp only[rfV,List.mem_flatMap] at hv
 obtain⟨x,_,hx⟩:=hv
 simp at hx
 rcases hx with rfl | rfl <;> rfl
theorem Zx7 (F:Fence) (n:Nat) (hf:F.fn 180) (hro:F.round=none) (hn:1≤n) (l Bs n₀ cap m:Nat) (A:Option Addr) (ad:Addr) (f:Nat→It) (E:Nat→Option Addr) (ca:Nat→Nat) (hm:m≤9223372036854775807) (hA:0<m→A=some ad∧ad.block<n₀) (J Jx:List Nat→World→Prop)
  (hY:∀ (pre:List Nat) (x:Nat) (W:World),J pre W→pre.length<m→YieldAt F (n-1) Tryz.prog l #[.int .i64 (x:Int),.agg #[.int .u8 ((f x).1.1.toNat:Int),.int .u32 (f x).1.2.1,.int .u32 (f x).1.2.2,.int .i64 (f x).2.1,.slice (E x) (f x).2.2.length (ca x)]] W fun e W' =>
   (e=.returned (.bool true)∧J (pre++[x]) W'∧Zeh n₀ Bs W W')∨(e=.returned (.bool false)∧Jx (pre++[x]) W'))
  (W:World) (hBs:W.cell? ⟨Bs,0,none⟩=some (.slice A m cap)) (hc:∀ j,j<m→At5 W (ad.add (j*5)) (f j) (.slice (E j) (f j).2.2.length (ca j))) (h0:J [] W) :
  CallsIn F n Tryz.prog 180 #[.func (.yield l) #[] #[],.pointer (some ⟨Bs,0,none⟩)] W fun e W'=>(∃ v,e=.returned v) ∧
   ((∃ ys,ys=Vh m m∧J ys W')∨(∃ pre,(∃ k,k≤m∧pre=Vh m k)∧Jx pre W')):=by
 refine callsIn_of_wp Tryz.func180 rfl hf ?_ hro
 simp only[Tryz.ntmps180,List.size_toArray,List.length_cons,List.length_nil,Nat.reduceAdd,Nat.reduceSub,Array.replicate_succ,Array.replicate_zero,List.push_toArray,List.append_toArray,List.nil_append,List.cons_append]
 have HC:=Za hc
 clear hc
 replace hA:=Za hA
 gi_wp2
 gi_loopw [3] (fun i wr=>∃ k:Nat,k≤m∧i=.int .i64 ((m:Int)-1-k)∧J (Vh m k) wr∧Below n₀ W wr∧wr.cell? ⟨Bs,0,none⟩=some (.slice A m cap))
  (fun i _=>(intOf i+1).toNat)
 case atStart=>exact⟨0,Nat.zero_le _,by simp,h0,Below.refl _ _,hBs⟩
 case round =>
  obtain⟨k,hk,rfl,hJs,hnx,hbs⟩:=hrel
  by_cases hlt:k<m
  ·obtain⟨rfl,hb⟩:=hA.out (by omega)
   have hx:=HC.out (m-1-k) (by omega)
   have g1:=(hnx.cell (p:=ad.add ((m-1-k)*5)) (by rw[Zj];exact hb)).trans hx.c0
   have g2:=(hnx.cell (p:=⟨(ad.add ((m-1-k)*5)).block,(ad.add ((m-1-k)*5)).off+1,none⟩) (by rw[Zj];exact hb)).trans hx.c1
   have g3:=(hnx.cell (p:=⟨(ad.add ((m-1-k)*5)).block,(ad.add ((m-1-k)*5)).off+2,none⟩) (by rw[Zj];exact hb)).trans hx.c2
   have g4:=(hnx.cell (p:=⟨(ad.add ((m-1-k)*5)).block,(ad.add ((m-1-k)*5)).off+3,none⟩) (by rw[Zj];exact hb)).trans hx.c3
   have g5:=(hnx.cell (p:=⟨(ad.add ((m-1-k)*5)).block,(ad.add ((m-1-k)*5)).off+4,none⟩) (by rw[Zj];exact hb)).trans hx.c4
   clear hx
   obtain⟨fn,tmps,assign,body,hy,hR⟩:=hY _ (m-1-k) wr hJs (by rw[Yv];exact hlt)
   try dsimp only at hy
   have e1:((m:Int)-1-k).toNat=m-1-k:=by omega
   have e2:((m-1-k:Nat):Int)=(m:Int)-1-k:=by omega
   rw[e2] at hy
   clear e2
   have hds:=Za (Zcu m k)
   generalize ((f (m-1-k)).1.1.toNat:Int)=q1 at *
   generalize (f (m-1-k)).1.2.1=q2 at *
   generalize (f (m-1-k)).1.2.2=q3 at *
   generalize (f (m-1-k)).2.1=q4 at *
   generalize (f (m-1-k)).2.2.length=q5 at *
   generalize E (m-1-k)=q6 at *
   generalize ca (m-1-k)=q7 at *
   gi_wp2
   refine hR.mono ?_
   rintro e W3 (⟨rfl,hJ3,hk3⟩ | ⟨rfl,hJx3⟩)
   ·gi_wp2
    go_roundw
    case rel=>exact⟨k+1,by omega,by go_num,by rw[hds.out];exact hJ3,hnx.trans hk3.1,hk3.2.trans hbs⟩
    case measure=>simp[intOf];omega
   ·gi_wp2
    refine bodyPost_ret (results_none rfl _ _ _) rfl ?_
    exact⟨⟨_,rfl⟩,.inr ⟨_,⟨k+1,by omega,hds.out.symm⟩,hJx3⟩⟩
  ·obtain rfl:k=m:=by omega
   gi_wp2
   go_end0
   exact⟨⟨_,rfl⟩,.inl ⟨_,rfl,hJs⟩⟩
theorem Zl8 (F:Fence) (n:Nat) (hf:F.fn 160) (hro:F.round=none) (a:Option Addr) (len cap:Nat) (w:World) :
  CallsIn F n Tryz.prog 160 #[.slice a len cap] w fun e w'=>e=.returned (.func (.func 180) #[] #[.pointer (some ⟨w.heap.size,0,none⟩)])∧w'=w.alloc (.cells #[.slice a len cap] 39):=by
 refine callsIn_of_wp Tryz.func160 rfl hf ?_ hro
 simp only[Tryz.ntmps160,List.size_toArray,List.length_cons,List.length_nil,Nat.reduceAdd,Nat.reduceSub,Array.replicate_succ,Array.replicate_zero,List.push_toArray,List.append_toArray,List.nil_append,List.cons_append]
 gi_wp2
 go_ret
 exact⟨rfl,rfl⟩
theorem Zgm (F:Fence) (n:Nat) (hf:F.fn 180) (hro:F.round=none) (hn:1≤n) (Bs n₀ cap m:Nat) (A:Option Addr) (ad:Addr) (f:Nat→It) (E:Nat→Option Addr) (ca:Nat→Nat) (hm:m≤9223372036854775807) (w:World) (hBs:Bs<w.heap.size) (_hn₀:n₀≤w.heap.size)
  (hc:w.cell? ⟨Bs,0,none⟩=some (.slice A m cap)) (hA:0<m→A=some ad∧ad.block<n₀) (hx:∀ j,j<m→At5 w (ad.add (j*5)) (f j) (.slice (E j) (f j).2.2.length (ca j))) :
  SeqStopsK F n Tryz.prog 180 #[.pointer (some ⟨Bs,0,none⟩)] (fun x:Nat=>#[Value.int .i64 (x:Int),Value.agg #[.int .u8 ((f x).1.1.toNat:Int),.int .u32 (f x).1.2.1,.int .u32 (f x).1.2.2,.int .i64 (f x).2.1,.slice (E x) (f x).2.2.length (ca x)]]) (Zeh n₀ Bs) (fun ys=>ys=Vh m m)
   (fun pre=>∃ k,k≤m∧pre=Vh m k) m w:=fun l J Jx W hW _ _ hY h0=>by
 have hc':=(hW.cell (p:=⟨Bs,0,none⟩) hBs).trans hc
 exact Zx7 F n hf hro hn l Bs n₀ cap m A ad f E ca hm hA J Jx hY W hc' (fun j hj=>(hx j hj).below hW) h0
theorem Z4m {w:World} {A:Option Addr} {n c:Nat} {xs:List It} (h:Uo (Old w) w [.slice A n c] xs) (hn:xs.length=n) :
  ∃ (ad:Addr) (f:Nat→It) (E:Nat→Option Addr) (ca:Nat→Nat),(0<n→A=some ad∧ad.block<w.heap.size)∧(∀ i x,xs[i]? = some x→f i=x)∧∀ i,i<n→At5 w (ad.add (i*5)) (f i) (.slice (E i) (f i).2.2.length (ca i)):=by
 subst hn
 have h2:∀ i,∃ g:It×Option Addr×Nat,∀ x,xs[i]? = some x→g.1=x∧∃ ad,A=some ad∧ad.block<w.heap.size∧At5 w (ad.add (i*5)) x (.slice g.2.1 x.2.2.length g.2.2):=fun i=>by
  cases hx:xs[i]? with
  | none=>exact⟨(((0,0,0),0,[]),none,0),fun x e=>by cases e⟩
  | some x =>
   obtain⟨ad,E,ce,rfl,hok,h5,_⟩:=Zaj h hx
   exact⟨(x,E,ce),fun y e=>by cases e;exact⟨rfl,ad,rfl,by have:=h5.lt;rwa [Zj] at this,h5⟩⟩
 obtain⟨g,hg⟩:∃ g:Nat→It×Option Addr×Nat,∀ i x,xs[i]? = some x→(g i).1=x∧∃ ad,A=some ad∧ad.block<w.heap.size∧At5 w (ad.add (i*5)) x (.slice (g i).2.1 x.2.2.length (g i).2.2) :=
  ⟨fun i=>Classical.choose (h2 i),fun i=>Classical.choose_spec (h2 i)⟩
 rcases A with _ | ad
 ·refine⟨⟨0,0,none⟩,fun i=>(g i).1,fun i=>(g i).2.1,fun i=>(g i).2.2,fun h0 => ?_,fun i x hi=>(hg i x hi).1,fun i hi => ?_⟩
  ·obtain⟨_,_,e,_⟩:=hg 0 _ (List.getElem?_eq_getElem h0)
   cases e
  ·obtain⟨_,_,e,_⟩:=hg i _ (List.getElem?_eq_getElem hi)
   cases e
 ·refine⟨ad,fun i=>(g i).1,fun i=>(g i).2.1,fun i=>(g i).2.2,fun h0 => ?_,fun i x hi=>(hg i x hi).1,fun i hi => ?_⟩
  ·obtain⟨_,_,e,hb,_⟩:=hg 0 _ (List.getElem?_eq_getElem h0)
   cases e
   exact⟨rfl,hb⟩
  ·obtain⟨e1,_,e,_,h5⟩:=hg i _ (List.getElem?_eq_getElem hi)
   cases e
   rw[← e1] at h5
   exact h5
def Zi7 (lv:Int) (f:Nat→It) (pre:List Nat):List Rf:=Zht lv (pre.map f)
theorem Zub {lv:Int} {f:Nat→It} {pre:List Nat} {x:Nat} (h:(f x).2.1=0):Zi7 lv f (pre++[x])=Zi7 lv f pre:=by
 rw[Zi7,List.map_append,Zqa,List.map_cons,List.map_nil,Zgv h,Zpk,List.append_nil]
 rfl
theorem Zv9 {lv:Int} {f:Nat→It} {pre:List Nat} {x:Nat} (h:(f x).2.1≠0):Zi7 lv f (pre++[x])=Zi7 lv f pre++[((f x).2.1,lv)]:=by
 rw[Zi7,List.map_append,Zqa,List.map_cons,List.map_nil,Zgg h,Zpk]
 rfl
theorem Zwm {f:Nat→It} {xs:List It} (h:∀ i x,xs[i]? = some x→f i=x):(Vh xs.length xs.length).map f=xs.reverse:=by
 refine List.ext_getElem (by simp[Vh]) fun i h1 h2 => ?_
 have hi:i<xs.length:=by simpa using h2
 simp only[Vh,List.map_map,List.getElem_map,List.getElem_range,Function.comp,List.getElem_reverse]
 exact h _ _ (List.getElem?_eq_getElem (by omega))
theorem Zy8 (lv:Int) (l:List It):Zht lv l.reverse=(Zht lv l).reverse:=by simp[Zht,List.filter_reverse]
theorem Zye {lv:Int} {f:Nat→It} {xs:List It} (h:∀ i x,xs[i]? = some x→f i=x):Zi7 lv f (Vh xs.length xs.length)=(Zht lv xs).reverse:=by
 rw[Zi7,Zwm h,Zy8]
end Go.Proofs.YtgmbjnajdfgenaaGreat
namespace Go.Proofs.YtgmbjnajdfgenaaGreat
open Go.RowKit Go.Shelf Go.Maps
attribute [local go_sem] Oper.semAt_some
theorem Zuv {w:World} {a b:Value} {t:TypeId}:∀ j u,([a,b]:List Value)[j]? = some u→(w.alloc (.cells #[a,b] t)).cell? ((⟨w.heap.size,0,none⟩:Addr).add j)=some u:=by
 intro j u hj
 rw[Ui,Nat.zero_add,cell_of_row _ _ _ #[a,b] t _ (heap_alloc_new w _)]
 simpa using hj
theorem Zc3 {W w1:World} {g B base size k:Nat} {cs:Array Value} {t e:TypeId} {tmp:Obj} {v v':Value} {xs:List Value} (h:W.heap[g]? = some (.cells cs t (0,0))) (hte:t≠e) (hr:W.ownsRow base e size v k xs) (hg:(W.alloc tmp).grownBy w1 v.ownBlock) (hB:g≠B) :
  (w1.setCell ⟨B,0,none⟩ v').heap[g]? = some (.cells cs t (0,0)):=by
 have hlt:g<W.heap.size:=(Array.getElem?_eq_some_iff.1 h).1
 have hne:some g≠v.ownBlock:=by
  rcases hr.2 with ⟨rfl,_⟩ | ⟨q,cap,cur,rfl,_,hq,_⟩
  ·simp[Value.ownBlock]
  ·intro e'
   obtain rfl:g=q:=by simpa [Value.ownBlock] using e'
   rw[h] at hq
   simp at hq
   exact hte hq.2
 rw[Below.heap_setCell w1 ⟨B,0,none⟩ v' g hB,hg.block g (by simp;omega) hne,Below.heap_alloc W tmp g hlt,h]
theorem Z2e (F:Fence) (n:Nat) (h3:F.fn 132) (h5:F.fn 160) (h7:F.fn 180) (hro:F.round=none) (hn:3≤n)
  (v:Value) (nd:Nd) (h0:0≤nd.1) (h6:nd.1<6) (hl5:nd.2.length≤5) (w:World) (h:Nod (Old w) w v nd) :
  CallsIn F n Tryz.prog 132 #[v] w fun e W'=>∃ u,e=.returned u∧W'.ownsRow w.heap.size 115 2 u (Zsg nd).length (rfV (Zsg nd).reverse)∧Below w.heap.size w W':=by
 have h1:1≤n:=by omega
 obtain⟨i0,hi,hz0,hz1,hz2⟩:=info_parts Zot
 obtain⟨A,c,rfl,_,l1,m1,hI⟩:=h.open
 obtain⟨m,hm⟩:∃ m,nd.2.length=m:=⟨_,rfl⟩
 obtain⟨lv,hlv⟩:∃ lv,nd.1=lv:=⟨_,rfl⟩
 rw[hm] at l1 hI hl5 ⊢
 obtain⟨ad,f,E,ca,hA,hf,hc⟩:=Z4m hI hm
 have hcol:Hid (Zi7 (lv-1) f (Vh m m)=(Zsg nd).reverse):=Za (by rw[← hm,Zye hf,Zsg,hlv])
 rw[hlv] at h0 h6 ⊢
 replace hlv:=Za hlv
 replace hm:=Za hm
 replace hc:=Za hc
 replace hA:=Za hA
 replace hf:=Za hf
 clear hI h
 refine callsIn_of_wp_marks Tryz.func132 rfl h3 ?_ hro
 simp only[Tryz.ntmps132,List.size_toArray,List.length_cons,List.length_nil,Nat.reduceAdd,Nat.reduceSub,Array.replicate_succ,Array.replicate_zero,List.push_toArray,List.append_toArray,List.nil_append,List.cons_append]
 gi_wp2_with (gi_at_call 160;refine(Zl8 F (n-1) h5 hro _ _ _ _).mono ?_;rintro e w' ⟨rfl,rfl⟩)
 obtain⟨W0,hW0,hB0,hs0,b0,bx,b3⟩:∃ W0,((w.alloc (.cells #[.int .i64 lv,.slice A m c] 81)).alloc (.cells #[.slice none 0 0] 203)).alloc (.cells #[.slice A m c] 39)=W0∧Below w.heap.size w W0∧W0.heap.size=w.heap.size+3 ∧
   W0.heap[w.heap.size]? = some (.cells #[.int .i64 lv,.slice A m c] 81 (0,0))∧Boxed W0 (w.heap.size+1) 203 (.slice none 0 0)∧Boxed W0 (w.heap.size+1+1) 39 (.slice A m c) :=
  ⟨_,rfl,(((Below.refl _ w).alloc (Nat.le_refl _) _).alloc (by simp) _).alloc (by simp;omega) _,by simp,(Below.heap_alloc _ _ _ (by simp;omega)).trans ((Below.heap_alloc _ _ _ (by simp)).trans (heap_alloc_new w _)),((by have:=Boxed.new (w.alloc (.cells #[.int .i64 lv,.slice A m c] 81)) 203 (.slice none 0 0);simpa using this:Boxed ((w.alloc (.cells #[.int .i64 lv,.slice A m c] 81)).alloc (.cells #[.slice none 0 0] 203)) (w.heap.size+1) 203 (.slice none 0 0))).alloc _,by have:=Boxed.new ((w.alloc (.cells #[.int .i64 lv,.slice A m c] 81)).alloc (.cells #[.slice none 0 0] 203)) 39 (.slice A m c);simpa using this⟩
 rw[hW0]
 clear hW0
 have hlo:w.heap.size≤W0.heap.size:=hB0.size
 have hA0:0<m→A=some ad∧ad.block<w.heap.size:=hA.out
 refine wpIn_rangeFunc_ownH hro h1 (gf:=180) (lb:=#[.pointer (some ⟨w.heap.size+1+1,0,none⟩)]) rfl h7 (enters_of Tryz.func180 (by kernel_rfl) rfl)
  (Zgm F (n-1) h7 hro (by omega) (w.heap.size+1+1) w.heap.size c m A ad f E ca (by omega) W0 (by omega) hlo b3.cell hA0 (fun j hj=>(hc.out j hj).below hB0))
  (fun h h'=>Zeh.trans h h') (fun W l o o' hl h1 h2 h3=>Zob (w:=W0) (by omega) hlo l o o' hl h1 h2 h3) (Below.refl _ _) (fun _=>rfl)
  (fun pre W=>((∃ v,Boxed W (w.heap.size+1) 203 v∧W.ownsRow w.heap.size 115 2 v (Zi7 (lv-1) f pre).length (rfV (Zi7 (lv-1) f pre))∧True)∧(W.heap[w.heap.size]? = some (.cells #[.int .i64 lv,.slice A m c] 81 (0,0))∧Boxed W (w.heap.size+1+1) 39 (.slice A m c)))∧Below w.heap.size w W)
  (fun _ _ _=>False)
  (OwnFrom.and (OwnFrom.and (Own.from (holdsRow_own w.heap.size (w.heap.size+1) 203 115 2 (fun pre:List Nat=>(Zi7 (lv-1) f pre).length) (fun pre=>rfV (Zi7 (lv-1) f pre)) (fun _ _=>True)) _) (Own.from (fun s A B row hs hg hr=>⟨Zl hs.1 hg hr,Zl hs.2 hg hr⟩) _)) (ownFrom_below (Nat.le_refl _) hlo))
  (fun _ _ _ _ _ hs _ _=>hs)
  ⟨⟨⟨_,bx,World.ownsRow_nil _ _ _ _,trivial⟩,b0,b3⟩,hB0⟩
  (fun x a' W=>∃ g,a'={ tmps:=#[.agg #[.int .i64 lv,.slice A m c],.pointer (some ⟨w.heap.size,0,none⟩),.slice none 0 0,.pointer (some ⟨w.heap.size+1,0,none⟩),undef,.pointer (some ⟨g,0,none⟩),.pointer (some ⟨w.heap.size,1,none⟩),.slice A m c,
   .func (.func 180) #[] #[.pointer (some ⟨w.heap.size+1+1,0,none⟩)],.int .i64 (x:Int),.agg #[.int .u8 ((f x).1.1.toNat:Int),.int .u32 (f x).1.2.1,.int .u32 (f x).1.2.2,.int .i64 (f x).2.1,.slice (E x) (f x).2.2.length (ca x)],undef,undef,undef,undef,undef,undef,undef,undef,undef,undef,undef,undef,undef],defers:=[] } ∧
   W.cell? ⟨g,3,none⟩=some (.int .i64 (f x).2.1))
  (fun x a'=>Own.from (fun s A B row hs hg hr=>by
   obtain⟨g,e,h1⟩:=hs
   exact⟨g,e,cell_kept h1 hg hr⟩) _) ?assign ?body ?done ?stop
 case assign =>
  rintro l pre x W K ⟨⟨⟨v,hv,hrow,_⟩,c0,c3⟩,hb⟩ hK
  have c3':=c3.cell
  gi_wp2
  exact hK _ _ ((KeepsOthers.alloc _ _).from _) ⟨(Below.refl _ W).alloc hb.size _,(Lib.cell?_alloc_some _ c3').trans c3'.symm⟩
   ⟨⟨⟨v,hv.alloc _,hrow.alloc _,trivial⟩,(Below.heap_alloc W _ _ (Array.getElem?_eq_some_iff.1 c0).1).trans c0,c3.alloc _⟩,hb.alloc hb.size _⟩ ⟨W.heap.size,rfl,by go_simp⟩
 case body =>
  rintro l pre x a' W hl hloop ⟨⟨⟨v,hv,hrow,_⟩,c0,c3⟩,hb⟩ ⟨g,rfl,g3⟩ hlen
  obtain⟨q,hq⟩:∃ q,(f x).2.1=q:=⟨_,rfl⟩
  rw[hq] at g3
  have d0:W.cell? ⟨w.heap.size,0,none⟩=some (.int .i64 lv):=by rw[cell_of_row _ _ _ _ _ _ c0];rfl
  by_cases he:q=0
  ·have he':(q != 0)=false:=by simp[he]
   have hcz:Hid (Zi7 (lv-1) f (pre++[x])=Zi7 (lv-1) f pre):=Za (Zub (by rw[hq,he]))
   replace hq:=Za hq
   replace he:=Za he
   gi_wp2
   refine⟨KeepsFrom.refl _ _,⟨Below.refl _ _,rfl⟩,⟨⟨v,hv,?_,trivial⟩,c0,c3⟩,hb⟩
   rw[hcz.out]
   exact hrow
  ·have he':(q != 0)=true:=by simpa using he
   have hcm:Hid (Zi7 (lv-1) f (pre++[x])=Zi7 (lv-1) f pre++[(q,lv-1)]):=Za (by rw[Zv9 (by rw[hq];exact he),hq])
   have hle:w.heap.size≤w.heap.size+1:=by omega
   have hcell:=hv.cell
   have hkl:Hid ((Zi7 (lv-1) f pre).length≤1000000):=Za (by
    have:=Zp1 (lv-1) (pre.map f)
    rw[List.length_map] at this
    exact Nat.le_trans this (by omega))
   obtain⟨k,hk⟩:∃ k,(Zi7 (lv-1) f pre).length=k:=⟨_,rfl⟩
   rw[hk] at hrow hkl
   replace hk:=Za hk
   have hwr:IntKind.i64.wrap (lv-1)=lv-1:=by rw[IntKind.wrap_i64];omega
   replace hq:=Za hq
   replace he:=Za he
   gi_wp2_with (gi_at_builtin;refine wpListIn_append_own _ rfl _ _ 203 rfl w.heap.size 115 i0 (.agg #[.int .i64 0,.int .i64 0]) 2 16 Tryz.underlying203 hi hz0 hz1 hz2 rfl (by decide) _ _ _ rfl (hrow.alloc _) ⟨W.heap.size,0,none⟩ 1 1 [.int .i64 q,.int .i64 (lv-1)] rfl rfl Zuv (by simp[Value.oneCell']) (by unfold maxLen;have:=hkl.out;omega) (by have:=hkl.out;omega) (by have:=hb.size;simp;omega) ?_;intro v' w1 hown' hgrow _;obtain⟨g',cap',rfl⟩:=ownsRow_succ hown';obtain⟨hv1,hv2,hr2,hk2,hb2⟩:=hv.appended (by decide) hrow hb.size hle hown' hgrow;have hc1:=hv1.cell;have hf1:=hv1.frozen)
   have e0:=Zc3 (v':=.slice (some ⟨g',0,none⟩) (k+1) cap') c0 (by decide) hrow hgrow (B:=w.heap.size+1) (by omega)
   have e3:Boxed _ (w.heap.size+1+1) 39 (.slice A m c):=Zc3 (v':=.slice (some ⟨g',0,none⟩) (k+1) cap') c3 (by decide) hrow hgrow (B:=w.heap.size+1) (by omega)
   refine⟨hk2.from _,⟨hb2,e3.cell.trans c3.cell.symm⟩,⟨⟨_,hv2,?_,trivial⟩,e0,e3⟩,hb.trans hb2⟩
   rw[hcm.out,List.length_append,hk.out,Zn3]
   exact hr2
 case done =>
  rintro D zs W hD rfl ⟨⟨⟨v,hv,hrow,_⟩,c0,c3⟩,hb⟩ hK
  have hcell:=hv.cell
  rw[hcol.out,List.length_reverse] at hrow
  gi_wp2
  refine⟨by simp,.inl ⟨_,_,rfl,run_takeDeferred hK,?_⟩⟩
  have hrow':=ownsRow_putObj hrow (.deferred none) hK rfl
  refine⟨_,results_tmp rfl _ _ _,v,rfl,hrow',hb.trans (belowK_b hlo _ D _ _ hD hK rfl rfl)⟩
 case stop =>
  rintro D c pre W _ _ h _
  exact h.elim
theorem Zxl (v:Value) (nd:Nd) (h0:0≤nd.1) (h6:nd.1<6) (hl5:nd.2.length≤5) (w:World) (h:Nod (Old w) w v nd) :
  Calls Tryz.prog 132 #[v] w fun e W'=>∃ u,e=.returned u∧W'.ownsRow w.heap.size 115 2 u (Zsg nd).length (rfV (Zsg nd).reverse)∧Below w.heap.size w W' :=
 callsIn_wide.1 (Z2e Fence.wide 3 trivial trivial trivial rfl (Nat.le_refl _) v nd h0 h6 hl5 w h)
theorem Zu4 {w w':World} {B base g n c:Nat} {e:TypeId} {size:Nat} {xs:List Value} (h:w.ownsRow base e size (.slice (some ⟨g,0,none⟩) n c) n xs) (hb:Below B w w') (hg:g<B):w'.ownsRow base e size (.slice (some ⟨g,0,none⟩) n c) n xs:=by
 refine⟨h.1,h.2.imp id ?_⟩
 rintro⟨q,cap,cur,e1,h1,h2,h3⟩
 have hq:g=q:=by
  simp only[Value.slice.injEq,Option.some.injEq,Addr.mk.injEq,and_true,true_and] at e1
  exact e1.1
 exact⟨q,cap,cur,e1,h1,(hb.block q (by omega)).trans h2,h3⟩
theorem Z1b {w:World} {base g n c:Nat} {e:TypeId} {size:Nat} {xs ys:List Value} (h:w.ownsRow base e size (.slice (some ⟨g,0,none⟩) (n+1) c) (n+1) (xs++ys)) (hx:xs.length=n*size):w.ownsRow base e size (.slice (some ⟨g,0,none⟩) n c) n xs:=by
 refine⟨hx,.inr ?_⟩
 rcases h.2 with ⟨e1,_⟩ | ⟨q,cap,cur,e1,h1,h2,h3,h4,h5,h6⟩
 ·simp at e1
 ·simp only[Value.slice.injEq,Option.some.injEq,Addr.mk.injEq,and_true,true_and] at e1
  obtain⟨rfl,rfl⟩:=e1
  refine⟨g,c,cur,rfl,h1,h2,by omega,h4,h5,?_⟩
  have:(cur.toList.take ((n+1)*size)).take (n*size)=(xs++ys).take (n*size):=by rw[h6]
  rw[List.take_take,Nat.min_eq_left (Nat.mul_le_mul_right _ (by omega))] at this
  rw[this,← hx]
  exact List.take_left
theorem Z3k {w:World} {base base' n m:Nat} {ty:TypeId} {v u:Value} {a b:List Rf} (hown:w.ownsRow base 115 2 v n (rfV a)) (hu:w.ownsRow base' 115 2 u m (rfV b)) (h:n+m≤1000000) (hbase:base≤w.heap.size) :
  ∃ v' w',(Builtin.append_ #[203,203] ty #[v,u]).run Tryz.prog w=.ok v' w'∧w'.ownsRow base 115 2 v' (n+m) (rfV (a++b))∧w.grownBy w' v.ownBlock∧Below base w w':=by
 obtain⟨i0,hi,hz0,hz1,hz2⟩:=info_parts Zot
 obtain⟨A,c,rfl,_,_,ho,_⟩:=Ye hu
 have hcs:=fun g=>hu.cells (g:=g)
 rw[Zn3]
 refine Zum base _ ty 115 i0 (.agg #[.int .i64 0,.int .i64 0]) 2 16 Tryz.underlying203 hi hz0 hz1 hz2 rfl (by decide) v n (rfV a) hown A m c (rfV b) hu.1 (fun j x hj => ?_) (Z0u b) (by unfold maxLen;omega) (by omega) hbase
 rcases hu.2 with ⟨e,rfl⟩ | ⟨g,cap,cur,e,_⟩
 ·have:=hu.1
  rw[Nat.zero_mul] at this
  rw[List.eq_nil_of_length_eq_zero this] at hj
  simp at hj
 ·cases e
  exact⟨_,rfl,hcs _ rfl j x hj⟩
theorem Z07 (l:List Rf):l=[]∨∃ a x,l=a++[x]:=by
 rcases List.eq_nil_or_concat l with h | ⟨a,x,h⟩
 ·exact .inl h
 ·exact .inr ⟨a,x,by rw[h,List.concat_eq_append]⟩
def msr (w:World) (g:Nat):Nat:=((List.range 256).map fun j=>match w.cell? ⟨g,j,none⟩ with
 | some (.int _ n)=>n.toNat
 | _=>0).sum
theorem Zi6 {w:World} {base g c:Nat} {T:List UInt8} (h:w.ownsRow base 5 1 (.slice (some ⟨g,0,none⟩) 256 c) 256 (u8s T)):msr w g=Znf T:=by
 have hl:T.length=256:=Zex h
 unfold msr Znf
 congr 1
 refine List.ext_getElem (by simp[hl]) fun i h1 h2 => ?_
 have hi:i<256:=by simpa using h1
 rw[List.getElem_map,List.getElem_map,List.getElem_range]
 rw[Zef h hi]
 show ((T[i]?.getD 0).toNat:Int).toNat=_
 rw[List.getElem?_eq_getElem (by omega)]
 rfl
def LwP (s:Rm) (x:Rf) (t0:List UInt8) (g c lo:Nat) (w w':World) (e:Ending):Prop:=∃ q:Int,e=.returned (.int .i64 q)∧w.grownBy w' (some g) ∧
 ((wkF s.1 x.2 t0 x.1.toNat=none∧q=8)∨(∃ t,wkF s.1 x.2 t0 x.1.toNat=some t∧q=0∧w'.ownsRow lo 5 1 (.slice (some ⟨g,0,none⟩) 256 c) 256 (u8s t)))
theorem Z3i (w:World) (a b c d e f:Value):∃ w1,(w.alloc (.cells #[a,b,c,d] 29)).alloc (.cells #[e,f] 115)=w1 ∧
  w1.heap[w.heap.size]? = some (.cells #[a,b,c,d] 29 (0,0))∧w1.heap[w.heap.size+1]? = some (.cells #[e,f] 115 (0,0))∧w1.heap.size=w.heap.size+2∧Below w.heap.size w w1:=by
 refine⟨_,rfl,Y3 (heap_alloc_new _ _),?_,by simp,((Below.refl _ w).alloc (Nat.le_refl _) _).alloc (by simp) _⟩
 have:=heap_alloc_new (w.alloc (.cells #[a,b,c,d] 29)) (.cells #[e,f] 115)
 rwa [World.size_alloc] at this
def LwR (s:Rm) (t0:List UInt8) (R:Option (List UInt8)) (g c lo:Nat) (w1:World) (v:Value) (wr:World):Prop:=∃ (st:List Rf) (T:List UInt8) (A:Option Addr) (sc:Nat),v=.slice A st.length sc ∧
 wr.ownsRow w1.heap.size 115 2 (.slice A st.length sc) st.length (rfV st)∧wr.ownsRow lo 5 1 (.slice (some ⟨g,0,none⟩) 256 c) 256 (u8s T)∧w1.grownBy wr (some g) ∧
 runT s.1 T st.reverse=R∧LeT T t0∧(∀ x∈st,Rfd x)∧st.length+5*Znf T≤400000
theorem Zs6 (g c lo:Nat) (t0:List UInt8) (v:Value) (s:Rm) (hm:Xq s=true) (a0 lv0:Int) (hx0:Rfd (a0,lv0)) (hle0:LeT t0 s.2.1) (w:World) (hown:w.ownsRow lo 5 1 (.slice (some ⟨g,0,none⟩) 256 c) 256 (u8s t0)) (h:Sto (Off g w) w v s) :
  Calls Tryz.prog 92 #[.slice (some ⟨g,0,none⟩) 256 c,v,.agg #[.int .i64 a0,.int .i64 lv0]] w fun e w'=>LwP s (a0,lv0) t0 g c lo w w' e:=by
 obtain⟨A,ca,B,cb,N,cn,L,cl,rfl,_⟩:=id h.open
 have hl0:t0.length=256:=Zex hown
 have hg0:g<w.heap.size:=((hown.lt g rfl).2)
 obtain⟨w1,hw1,f1,f2,hsz,hB⟩:=Z3i w (.slice A s.1.1.length ca) (.slice B s.1.2.length cb) (.slice N s.2.1.length cn) (.slice L s.2.2.length cl) (.int .i64 a0) (.int .i64 lv0)
 have H:=Za (show Sto (Off g w1) w1 _ s from h.map fun _ _ hp hc=>Zla hB hp hc)
 have HO:=Za (Zw hown hB)
 have GB:=Za (Zof (row:=some g) hB)
 obtain⟨k0,k1,k2,k3,_,kg⟩:=Ze f1
 obtain⟨j0,j1,_,jg⟩:=Zg f2
 have f1h:=Za f1
 obtain⟨R,hR⟩:∃ R,wkF s.1 lv0 t0 a0.toNat=R:=⟨_,rfl⟩
 have hgs:Hid (g<w.heap.size):=Za hg0
 have hsz':=Za hsz
 replace hl0:=Za hl0
 replace hle0:=Za hle0
 have hL1:Hid (LwR s t0 R g c lo w1 (.slice (some ⟨w1.heap.size,0,none⟩) 1 1) (w1.alloc (.cells #[.int .i64 a0,.int .i64 lv0] 115))):=Za (by
  refine⟨[(a0,lv0)],t0,some ⟨w1.heap.size,0,none⟩,1,rfl,?_,Zw HO.out ((Below.refl _ _).alloc (Nat.le_refl _) _),Zof ((Below.refl _ _).alloc (Nat.le_refl _) _),?_,LeT.refl _,?_,?_⟩
  ·exact World.ownsRow_lit w1 #[.int .i64 a0,.int .i64 lv0] 1 (Nat.le_refl _) (by unfold maxLen;omega) rfl
  ·show (wkF s.1 lv0 t0 a0.toNat).bind _=R
   rw[hR]
   cases R <;> rfl
  ·intro x hx
   rw[List.mem_singleton] at hx
   rw[hx]
   exact hx0
  ·have:=Zwg t0
   rw[hl0.out] at this
   show 1+5*Znf t0≤400000
   omega)
 replace hR:=Za hR
 clear hown h f1 f2 hB hg0 hsz hx0
 go_enter Tryz.func92,Tryz.ntmps92
 go_upto_region 1 with fail
 clear hw1
 go_upto_region 2 with fail
 obtain⟨W2,hW2⟩:∃ W2,w1.alloc (.cells #[.int .i64 a0,.int .i64 lv0] 115)=W2:=⟨_,rfl⟩
 rw[hW2] at hL1 ⊢
 clear hW2 k0 k1 k2 k3 j0 j1 jg
 go_loopw [7] (fun vs wr=>LwR s t0 R g c lo w1 vs wr) (fun _ wr=>msr wr g)
 case atStart=>exact hL1.out
 case round =>
  obtain⟨st,T,E,sc,rfl,hst,hown,hgr,hrun,hle,hrf,hbd⟩:=hrel
  have GF:=Za (Yl GB.out hgr)
  rcases Z07 st with rfl | ⟨st',x,rfl⟩
  ·have hfin:Hid (R=some T):=Za hrun.symm
   have HO2:=Za hown
   clear hst hown hgr hrun hle hrf hbd
   go_wp2_with fail
   go_ret
   exact⟨0,rfl,GF.out,.inr ⟨T,hR.out.trans hfin.out,rfl,HO2.out⟩⟩
  obtain⟨a,lv⟩:=x
  have hxd:=hrf (a,lv) (by simp)
  obtain⟨k,rfl⟩:∃ k:Nat,a=k:=⟨a.toNat,by have:=hxd.1;dsimp only at this;omega⟩
  obtain⟨h8,h256,hm1,h6⟩:=hxd
  dsimp only at h8 h256 hm1 h6
  have hrf':Hid (∀ x∈st',Rfd x):=Za fun x hx=>hrf x (by simp[hx])
  rw[List.reverse_append] at hrun
  replace hrun:(wkF s.1 lv T ((k:Int)).toNat).bind (fun u=>runT s.1 u st'.reverse)=R:=hrun
  rw[show ((k:Int)).toNat=k by omega] at hrun
  rw[Zn3,List.length_append] at hst
  rw[List.length_append] at hbd
  obtain⟨n,hn⟩:∃ n,st'.length=n:=⟨_,rfl⟩
  have e1:(st'++[((k:Int),lv)]).length=n+1:=by rw[List.length_append,hn];rfl
  rw[e1]
  replace hst:wr.ownsRow w1.heap.size 115 2 (.slice E (n+1) sc) (n+1) (rfV st'++[.int .i64 (k:Int),.int .i64 lv]):=by
   rw[hn] at hst
   exact hst
  rw[hn] at hbd
  replace hbd:n+1+5*Znf T≤400000:=hbd
  obtain⟨gs,cap,e2⟩:=ownsRow_succ hst
  cases e2
  have hrl:(rfV st').length=n*2:=by rw[Z2x,hn]
  have hc0:wr.cell? ⟨gs,n*2,none⟩=some (.int .i64 (k:Int)):=by
   rw[hst.cellAt (n*2) (by omega),List.getElem?_append_right (by omega),hrl,Nat.sub_self]
   rfl
  have hc1:wr.cell? ⟨gs,n*2+1,none⟩=some (.int .i64 lv):=by
   rw[hst.cellAt (n*2+1) (by omega),List.getElem?_append_right (by omega),hrl,show n*2+1-n*2=1 by omega]
   rfl
  have hpop:=Z1b hst hrl
  have hsc0:Hid (n+1≤sc):=Za (by
   obtain⟨_,_,e,hs,_⟩:=Ye hst
   cases e
   exact hs)
  clear hst e1 hrf
  obtain⟨w5,hw5,b5,hs5,hB5⟩:=Z7 wr (.int .i64 (k:Int)) (.int .i64 lv) 115
  have hown5:=Zw hown hB5
  have hpop5:=Zw hpop hB5
  have hgr5:=Vu hgr (hB5.mono hgr.size)
  have hms:Hid (msr wr g=Znf T):=Za (Zi6 hown)
  obtain⟨q0,q1,_,qg⟩:=Zg b5
  have hrs:Hid (w1.heap.size≤wr.heap.size):=Za hgr.size
  clear hown hpop hgr hB5
  have n1:IntKind.i64.wrap ((n:Int)+1-1)=n:=by rw[IntKind.wrap_i64];omega
  go_upto_region 4 with fail
  clear hw5 hc0 hc1
  replace hs5:=Za hs5
  have hsc:n+1≤sc:=by
   have:=hsc0.out
   exact this
  have hs0:(0:Int)≤(n:Int):=by omega
  have hs2:¬ sc=0:=by omega
  have hs3:¬ 0=sc:=by omega
  have hs4:0<sc:=by omega
  have hs5':n≤sc:=by omega
  clear hsc
  have hs1:(n:Int)≤(sc:Int):=by omega
  clear hrl
  go_upto_region 5 with fail
  clear hs0 hs1 hs2 hs3 hs4 hs5' n1
  have hle0':Hid (T[k]?.getD 0≠0→asE s (k:Int)=0):=Za fun hz=>Zby hm (by omega) (by omega) (fun e=>hz (Vb.1 (by
   have h1:=(hle.trans hle0.out).le k
   rw[e] at h1
   exact Nat.le_zero.1 h1)))
  have hways:=Za (fun hz=>Z1l (d:=s.1) (lv:=lv) (t:=T) (a:=k) hm1 h6 hz)
  have hnone:=Za (fun hz=>Z0q (d:=s.1) (lv:=lv) (t:=T) (a:=k) hz)
  have hdn:=Za (fun hz=>Zul (t:=T) (a:=k) hz)
  have hTl:Hid (T.length=256):=Za (Zex hown5)
  have hcell:=Zef hown5 (j:=k) (by omega)
  have hfr:w5.frozen? ⟨g,k,none⟩=false:=hown5.frozenAt k
  have k256:k<256:=by omega
  obtain⟨y,hy⟩:∃ y,T[k]?.getD 0=y:=⟨_,rfl⟩
  rw[hy] at hcell hle0' hways hnone hdn
  replace hy:=Za hy
  have hgr5':=Za hgr5
  replace hrun:=Za hrun
  replace hle:=Za hle
  replace hbd:=Za hbd
  replace hn:=Za hn
  clear hgr5
  by_cases hy0:y=0
  ·have t1:=Xy (y:=0) (q:=0) rfl hy0
   have hN:Hid (R=none):=Za (by rw[← hrun.out,hnone.out hy0];rfl)
   have GF5:=Za (Yl GB.out hgr5'.out)
   clear hown5 hpop5 b5 hy0
   go_wp2_with fail
   go_ret
   exact⟨8,rfl,GF5.out,.inl ⟨hR.out.trans hN.out,rfl⟩⟩
  have t1:=Xe (y:=0) (q:=0) rfl hy0
  obtain⟨hu1,hu2,hu3⟩:=Zvl hy0
  have hset:=Znu hown5 k (y-1)
  rw[← hu1] at hset
  have hg6:=Yo (Y7 w5 (some g)) (p:=⟨g,k,none⟩) rfl (.int .u8 ((y.toNat:Int)-1))
  have hpop6:=hpop5.kept hg6 (.inr (fun e=>by
   have:=(hpop5.lt gs rfl).1
   have h0:=hgs.out
   have h1:=hsz'.out
   have e':gs=g:=by simpa [Value.ownBlock] using e
   omega))
  have hgr6:=Yo hgr5'.out (p:=⟨g,k,none⟩) rfl (.int .u8 ((y.toNat:Int)-1))
  have b6:=(hg6.block wr.heap.size qg (fun e=>by
   have:=hgr5'.out.size
   have h0:=hgs.out
   have h1:=hsz'.out
   have h2:=hgr5'.out.size
   have h4:wr.heap.size=g:=by simpa using e
   have h5:=hrs.out
   omega)).trans b5
  obtain⟨w6,hw6⟩:∃ w6,w5.setCell ⟨g,k,none⟩ (.int .u8 ((y.toNat:Int)-1))=w6:=⟨_,rfl⟩
  rw[hw6] at hset hg6 hpop6 hgr6 b6
  clear hown5 hpop5 b5
  replace hset:=Za hset
  replace hpop6:=Za hpop6
  replace hgr6:=Za hgr6
  replace b6:=Za b6
  replace hu1:=Za hu1
  clear hg6
  go_upto_region 8 with fail
  clear hw6 hcell hfr q0 q1
  have c6:=Zef hset.out (j:=k) k256
  rw[Zcf (by rw[hTl.out];exact k256)] at c6
  obtain⟨q0,q1,_,_⟩:=Zg b6.out
  have hF1:=(hgr6.out.block w.heap.size kg (by
   have h0:=hgs.out
   simp
   omega)).trans f1h.out
  obtain⟨k0,k1,k2,k3,_,_⟩:=Ze hF1
  clear hF1
  have hS6:Hid (Sto (Old w6) w6 (.agg #[.slice A s.1.1.length ca,.slice B s.1.2.length cb,.slice N s.2.1.length cn,.slice L s.2.2.length cl]) s):=Za ((H.out.map fun _ _ hp hc=>Zgz hgr6.out hp hc).map fun _ _ hp hc=>Zi5 hp hc)
  have hms6:Hid (msr w6 g<msr wr g):=Za (by
   rw[Zi6 hset.out,hms.out]
   have:=hdn.out hy0
   omega)
  have hle6:Hid (LeT (T.set k (y-1)) t0):=Za ((Zcr (by rw[dnO,hy.out,if_neg hy0])).2.2.1.trans hle.out)
  have hal6:Hid (Znf (T.set k (y-1))+1=Znf T):=Za (hdn.out hy0)
  have hT6:Hid (∀ t,wkF s.1 lv T k=t→t.bind (fun u=>runT s.1 u st'.reverse)=R):=Za fun t ht=>by rw[← ht];exact hrun.out
  obtain⟨T',hT'⟩:∃ T',T.set k (y-1)=T':=⟨_,rfl⟩
  obtain⟨z,hz⟩:∃ z,y-1=z:=⟨_,rfl⟩
  have hw2:=hways.out hy0
  rw[hT',hz] at hw2
  rw[hz] at c6
  rw[hT'] at hset hle6 hal6
  clear hT' hways hnone hdn
  rcases hw2 with ⟨hc,hF⟩ | ⟨hz0,hl,hnr,hF⟩ | ⟨hz0,hl,hr,hF⟩
  ·have hrel6:Hid (LwR s t0 R g c lo w1 (.slice (some ⟨gs,0,none⟩) n sc) w6):=Za ⟨st',T',some ⟨gs,0,none⟩,sc,by rw[hn.out],by rw[hn.out];exact hpop6.out,hset.out,hgr6.out,hT6.out _ hF,hle6.out,hrf'.out,by have:=hal6.out;have:=hbd.out;have:=hn.out;omega⟩
   replace hz:=Za hz
   replace hF:=Za hF
   clear hy0 t1
   by_cases hz0:z=0
   ·have hlv:=hc.resolve_left (fun h=>h hz0)
    subst hz0
    subst hlv
    replace c6:w6.cell? ⟨g,k,none⟩=some (.int .u8 0):=c6
    clear hc
    go_wp2_with fail
    go_roundw
    case rel=>exact hrel6.out
    case measure=>exact hms6.out
   ·have hz1:0<z.toNat:=by
     have:z.toNat≠0:=fun e=>hz0 (Vb.1 e)
     omega
    clear hc hz0
    go_wp2_with fail
    go_roundw
    case rel=>exact hrel6.out
    case measure=>exact hms6.out
  ·have hN:Hid (R=none):=Za (hT6.out _ hF).symm
   have has:=Za (hle0'.out hy0)
   have c7:(lv == -1)=false:=by simpa using hl
   subst hz0
   replace c6:w6.cell? ⟨g,k,none⟩=some (.int .u8 0):=c6
   replace hz:=Za hz
   replace hF:=Za hF
   replace hnr:=Za hnr
   clear hy0 t1 hl
   go_wp2_with fail
   with_reducible refine(Zku _ s k lv has.out _ hS6.out).mono ?_
   rintro e w7 ⟨u,q,nd,rfl,hq,hu,hb7⟩
   rcases hq with ⟨hr,_⟩ | ⟨_,rfl,_⟩
   ·exact absurd hr hnr.out
   obtain⟨P,pc,rfl,_⟩:=id hu.open
   obtain⟨pl,hpl⟩:∃ pl,nd.2.length=pl:=⟨_,rfl⟩
   obtain⟨pv,hpv⟩:∃ pv,nd.1=pv:=⟨_,rfl⟩
   rw[hpl,hpv]
   obtain⟨w8,hw8,b8,hs8,hB8⟩:=Z7 w7 (.int .i64 pv) (.slice P pl pc) 81
   have G8:=Za (Yl GB.out (Vu hgr6.out ((hb7.trans (hB8.mono hb7.size)).mono hgr6.out.size)))
   replace hs8:=Za hs8
   clear hu hpl hpv hb7 hB8 b8 q0 q1 c6 k0 k1 k2 k3
   go_upto_region 10 with fail
   clear hw8
   go_wp2_with fail
   go_ret
   exact⟨8,rfl,G8.out,.inl ⟨hR.out.trans hN.out,rfl⟩⟩
  ·have has:=Za (hle0'.out hy0)
   have c7:(lv == -1)=false:=by simpa using hl
   subst hz0
   replace c6:w6.cell? ⟨g,k,none⟩=some (.int .u8 0):=c6
   replace hz:=Za hz
   replace hF:=Za hF
   replace hr:=Za hr
   clear hy0 t1 hl
   go_wp2_with fail
   with_reducible refine(Zku _ s k lv has.out _ hS6.out).mono ?_
   rintro e w7 ⟨u,q,nd,rfl,hq,hu,hb7⟩
   rcases hq with ⟨_,rfl,hnd⟩ | ⟨hnr,_⟩
   case inr=>exact absurd hr.out hnr
   obtain⟨P,pc,rfl,_⟩:=id hu.open
   obtain⟨pl,hpl⟩:∃ pl,nd.2.length=pl:=⟨_,rfl⟩
   obtain⟨pv,hpv⟩:∃ pv,nd.1=pv:=⟨_,rfl⟩
   rw[hpl,hpv] at hu ⊢
   obtain⟨w8,hw8,b8,hs8,hB8⟩:=Z7 w7 (.int .i64 pv) (.slice P pl pc) 81
   have G8:=Za (Vu hgr6.out ((hb7.trans (hB8.mono hb7.size)).mono hgr6.out.size))
   have N8:=Za (hu.drop.below hB8)
   have own8:=Za (Zw (Zw hset.out hb7) hB8)
   have pop8:=Za (Zw (Zw hpop6.out hb7) hB8)
   have hmn:=(Zee hr.out.1).1
   rw[← hnd] at hF hmn
   obtain⟨⟨s1,s2,s3,_⟩,_⟩:=Z2 hmn
   have hrfs:=Za (V8 hmn)
   replace hs8:=Za hs8
   obtain⟨q0,q1,_,_⟩:=Zg b8
   have b8h:=Za b8
   clear hu hb7 hB8 b8 c6 k0 k1 k2 k3
   go_upto_region 10 with fail
   clear hw8
   go_wp2_with fail
   with_reducible refine(Zxl (.agg #[.int .i64 pv,.slice P pl pc]) nd s1 s2 s3 _ N8.out).mono ?_
   rintro e w9 ⟨u9,rfl,hu9,hb9⟩
   obtain⟨m,hm9⟩:∃ m,(Zsg nd).length=m:=⟨_,rfl⟩
   have hm5:m≤5:=by
    rw[← hm9]
    exact Nat.le_trans (Zp1 _ _) s3
   rw[hm9] at hu9
   have own9:=Zw own8.out hb9
   have pop9:=Zw pop8.out hb9
   have G9:=Vu G8.out (hb9.mono G8.out.size)
   obtain⟨v',w10,hr10,ho10,_,hb10⟩:=Z3k (ty:=203) pop9 hu9 (by have:=hbd.out;omega) G9.size
   obtain⟨A10,c10,rfl,_⟩:=Ye ho10
   have H10:=Za hr10
   have hl10:(st'++(Zsg nd).reverse).length=n+m:=by rw[List.length_append,List.length_reverse,hn.out,hm9]
   have own10:=Zu4 own9 hb10 (by have h0:=hgs.out;have h1:=hsz'.out;omega)
   have hrel10:Hid (LwR s t0 R g c lo w1 (.slice A10 (n+m) c10) w10):=Za ⟨st'++(Zsg nd).reverse,T',A10,c10,by rw[hl10],by rw[hl10];exact ho10,own10,Vu G9 hb10,(by
    rw[List.reverse_append,List.reverse_reverse,Zql]
    exact hT6.out _ hF.out),hle6.out,fun x hx=>(List.mem_append.1 hx).elim (hrf'.out x) (fun h=>Zm6 (by omega) (by omega) hrfs.out x (List.mem_reverse.1 h)),(by rw[hl10];have:=hal6.out;have:=hbd.out;omega)⟩
   have hms10:Hid (msr w10 g<msr wr g):=Za (by
    have:=hms6.out
    rwa [Zi6 hset.out,← Zi6 own10] at this)
   clear hr10 ho10 hb10 own9 pop9 G9 hu9 hb9 own10 hl10 hm9 hm5
   go_wp2_with (at_builtin;refine Zo rfl _ _ _ rfl rfl rfl H10.out ?_;clear H10)
   go_roundw
   case rel=>exact hrel10.out
   case measure=>exact hms10.out
noncomputable def gdE (s:Rm) (lv a:Int):Int:=if asE s a=0 then (match wkF s.1 lv s.2.1 a.toNat with | some _=>0 | none=>8) else asE s a
noncomputable def gdV (s:Rm) (lv a:Int):Rm:=if asE s a=0 then (match wkF s.1 lv s.2.1 a.toNat with | some t=>(s.1,t,s.2.2) | none=>Zh) else Zh
theorem Z4z {s:Rm} {lv a:Int} (h:asE s a≠0):gdE s lv a=asE s a∧gdV s lv a=Zh:=⟨by rw[gdE,if_neg h],by rw[gdV,if_neg h]⟩
theorem Z4i {s:Rm} {lv a:Int} (h:asE s a=0) (h':wkF s.1 lv s.2.1 a.toNat=none):gdE s lv a=8∧gdV s lv a=Zh:=⟨by rw[gdE,if_pos h,h'],by rw[gdV,if_pos h,h']⟩
theorem Z48 {s:Rm} {lv a:Int} {t:List UInt8} (h:asE s a=0) (h':wkF s.1 lv s.2.1 a.toNat=some t):gdE s lv a=0∧gdV s lv a=(s.1,t,s.2.2):=⟨by rw[gdE,if_pos h,h'],by rw[gdV,if_pos h,h']⟩
theorem Z3j (d:Dk) (t:List UInt8) (a:Nat):wkF d 6 t a=lfO d t a:=by rw[wkF,if_pos rfl]
theorem Z3p (d:Dk) (t:List UInt8) (a:Nat):wkF d (-1) t a=dnO t a:=by
 rw[wkF,if_neg (by decide)]
 rfl
theorem Z0f {s:Rm} {n:Int} (h:asE s n=0):∃ k:Nat,n=k∧Xq s=true∧8≤k∧k<256∧s.2.1[k]?.getD 0≠0:=by
 obtain⟨k,e,hm,h8,h256,_,_,_,_,hx⟩:=Xi h
 exact⟨k,e,hm,h8,h256,hx⟩
theorem Zgb (s:Rm) (a:Int):gdE s 6 a=lvE s a∧gdV s 6 a=lvV s a:=by
 unfold gdE gdV lvE lvV
 rw[Z3j]
 exact⟨rfl,rfl⟩
theorem Zf3 (s:Rm) (a:Int):gdE s (-1) a=asE s a∧gdV s (-1) a=loV s a:=by
 unfold gdE gdV loV
 rw[Z3p]
 by_cases h:asE s a=0
 ·obtain⟨k,rfl,_,_,_,hx⟩:=Z0f h
  rw[show ((k:Int)).toNat=k by omega,Zb3 hx]
  exact⟨by rw[if_pos h,h],rfl⟩
 ·exact⟨by rw[if_neg h],by rw[if_neg h,if_neg h]⟩
theorem Z43 {d:Dk} {lv:Int} {t u:List UInt8} {a:Nat} (h:wkF d lv t a=some u):LeT u t:=by
 unfold wkF at h
 split at h
 ·exact(Zti h).2.1
 ·exact Zv2 d _ t a u h
theorem Z39 (w:World) (a b c d e f:Value):∃ w1,((w.alloc (.cells #[a,b,c,d] 29)).alloc (.cells #[e,f] 115)).alloc (.cells #[.slice none 0 0,.slice none 0 0,.slice none 0 0,.slice none 0 0] 29)=w1 ∧
  w1.heap[w.heap.size]? = some (.cells #[a,b,c,d] 29 (0,0))∧w1.heap[w.heap.size+1]? = some (.cells #[e,f] 115 (0,0))∧w1.heap[w.heap.size+2]? = some (.cells #[.slice none 0 0,.slice none 0 0,.slice none 0 0,.slice none 0 0] 29 (0,0))∧w1.heap.size=w.heap.size+3∧Below w.heap.size w w1:=by
 refine⟨_,rfl,Y3 (Y3 (heap_alloc_new _ _)),Y3 ?_,?_,by simp,(((Below.refl _ w).alloc (Nat.le_refl _) _).alloc (by simp) _).alloc (by simp;omega) _⟩
 ·have:=heap_alloc_new (w.alloc (.cells #[a,b,c,d] 29)) (.cells #[e,f] 115)
  rwa [World.size_alloc] at this
 ·have:=heap_alloc_new ((w.alloc (.cells #[a,b,c,d] 29)).alloc (.cells #[e,f] 115)) (.cells #[.slice none 0 0,.slice none 0 0,.slice none 0 0,.slice none 0 0] 29)
  rwa [World.size_alloc,World.size_alloc] at this
theorem Zik (v:Value) (s:Rm) (a lv:Int) (hlv : -1≤lv∧lv≤6) (w:World) (h:Sto (Old w) w v s) :
  Calls Tryz.prog 54 #[v,.agg #[.int .i64 a,.int .i64 lv]] w fun e w'=>∃ u,e=.returned (.tuple #[u,.int .i64 (gdE s lv a)])∧Sto (New w.heap.size w') w' u (gdV s lv a)∧Below w.heap.size w w':=by
 obtain⟨A,ca,B,cb,N,cn,L,cl,rfl,_⟩:=id h.open
 obtain⟨w1,hw1,f1,f2,f3,hsz,hB⟩:=Z39 w (.slice A s.1.1.length ca) (.slice B s.1.2.length cb) (.slice N s.2.1.length cn) (.slice L s.2.2.length cl) (.int .i64 a) (.int .i64 lv)
 have H:=Za (h.below hB)
 clear h
 obtain⟨k0,k1,k2,k3,_,kg⟩:=Ze f1
 obtain⟨j0,j1,_,jg⟩:=Zg f2
 replace hsz:=Za hsz
 replace f3:=Za f3
 by_cases ha:asE s a=0
 case neg =>
  obtain⟨hE,hV⟩:=Z4z (lv:=lv) ha
  obtain⟨q,hq⟩:∃ q,asE s a=q:=⟨_,rfl⟩
  rw[hq] at ha hE
  have hq1:(q != 0)=true:=by simpa using ha
  replace hq:=Za hq
  replace hE:=Za hE
  replace hV:=Za hV
  clear ha
  go_enter Tryz.func54,Tryz.ntmps54
  go_upto_region 1 with fail
  clear hw1
  go_wp2_with fail
  with_reducible refine(Zk8 _ s a _ H.out).mono ?_
  rintro e w2 ⟨rfl,hb2⟩
  rw[hq.out]
  have F2:=(hb2.block (w.heap.size+2) (by rw[hsz.out];omega)).trans f3.out
  replace hb2:=Za (hB.trans (hb2.mono hB.size))
  clear k0 k1 k2 k3 kg j0 j1 jg f1 f2 hB
  obtain⟨k0,k1,k2,k3,k4,k5⟩:=Ze F2
  obtain⟨W9,hW9,g9,gr9,gs9⟩:=Zs (a':=.slice none 0 0) (b':=.slice none 0 0) (c':=.slice none 0 0) (d':=.slice none 0 0) F2
  obtain⟨n0,n1,n2,n3,_,_⟩:=Ze g9
  have hB9:=Za ((hb2).out.grown gr9 (hb2).out.size (fun q e=>by cases e;omega))
  replace g9:=Za g9
  replace F2:=Za F2
  clear gr9 gs9
  go_wp2_with fail
  refine bodyPost_ret (v:=.tuple #[.agg #[.slice none 0 0,.slice none 0 0,.slice none 0 0,.slice none 0 0],.int .i64 q]) (by simp[results,Tryz.results54,go_sem,n0,n1,n2,n3]) rfl ?_
  rw[hE.out,hV.out]
  exact⟨_,rfl,Yk _ _,hB9.out⟩
 obtain⟨k,hk,hm,h8,h256,hx⟩:=Z0f ha
 subst hk
 have hax:=Za ha
 have hlen:=Za (Yn (Yb hm).2.1)
 obtain⟨R,hR⟩:∃ R,wkF s.1 lv s.2.1 ((k:Int)).toNat=R:=⟨_,rfl⟩
 have hrd:Hid (Rfd ((k:Int),lv)):=Za ⟨by show (8:Int)≤k;omega,by show (k:Int)<256;omega,hlv.1,hlv.2⟩
 replace hR:=Za hR
 replace hx:=Za hx
 clear ha hlv h8 h256
 go_enter Tryz.func54,Tryz.ntmps54
 go_upto_region 1 with fail
 clear hw1
 go_wp2_with fail
 with_reducible refine(Zk8 _ s (k:Int) _ H.out).mono ?_
 rintro e w2 ⟨rfl,hb2⟩
 rw[hax.out]
 have F1:=(hb2.block w.heap.size kg).trans f1
 have F2:=(hb2.block (w.heap.size+1) jg).trans f2
 have F3:=Za ((hb2.block (w.heap.size+2) (by rw[hsz.out];omega)).trans f3.out)
 have H2:=Za (H.out.below hb2)
 have s2:Hid (w.heap.size+3≤w2.heap.size):=Za (by have:=hb2.size;have:=hsz.out;omega)
 have B2:=Za (hB.trans (hb2.mono hB.size))
 clear k0 k1 k2 k3 kg j0 j1 jg f1 f2 hb2 hB
 obtain⟨k0,k1,k2,k3,_,kg⟩:=Ze F1
 obtain⟨j0,j1,_,jg⟩:=Zg F2
 go_wp2_with fail
 obtain⟨_,_,e9,l1,m1,hby⟩:=Vc (B:=w2.heap.size) (fun _ h=>h) H2.out.parts.2.1
 cases e9
 with_reducible refine(Zd1 N s.2.1.length cn s.2.1 (Za rfl) (by rw[hlen.out];omega) _ hby).mono ?_
 rintro e w3 ⟨u,rfl,hu3,hb3⟩
 obtain⟨g,c2,rfl,hg1,hg2,hg3,hg4⟩:=Zjo hu3 (by rw[hlen.out];omega)
 rw[hlen.out] at hu3 ⊢
 have G1:=(hb3.block w.heap.size kg).trans F1
 have G2:=(hb3.block (w.heap.size+1) jg).trans F2
 have G3:=Za ((hb3.block (w.heap.size+2) (by have:=s2.out;omega)).trans F3.out)
 have H3:=Za (show Sto (Off g w3) w3 _ s from H2.out.map fun _ _ hp hc=>Zj3 hb3 hg1 hp hc)
 have O3:=Za hu3
 have B3:=Za (B2.out.trans (hb3.mono B2.out.size))
 have hgw:Hid (w.heap.size+3≤g):=Za (by have:=s2.out;omega)
 clear k0 k1 k2 k3 kg j0 j1 jg F1 F2 F3 hb3 B2 H2 hby l1 m1 hu3 hg1
 obtain⟨k0,k1,k2,k3,_,kg⟩:=Ze G1
 obtain⟨j0,j1,_,jg⟩:=Zg G2
 go_wp2_with fail
 with_reducible refine(Zs6 g c2 w2.heap.size s.2.1 _ s hm (k:Int) lv hrd.out (LeT.refl _) _ O3.out H3.out).mono ?_
 rintro e w4 ⟨q,rfl,hgr,hq⟩
 have E1:=(hgr.block w.heap.size kg (by have:=hgw.out;simp;omega)).trans G1
 have E3:=(hgr.block (w.heap.size+2) (by have:=G3.out;exact(Array.getElem?_eq_some_iff.1 this).1) (by have:=hgw.out;simp;omega)).trans G3.out
 have B4:=Za (B3.out.grown hgr B3.out.size (fun q e=>by cases e;have:=hgw.out;omega))
 have H4:=Za (show Sto (Old w4) w4 _ s from (H3.out.map fun _ _ hp hc=>Zgz hgr hp hc).map fun _ _ hp hc=>Zi5 hp hc)
 clear k0 k1 k2 k3 kg j0 j1 jg G1 G2 G3 B3 H3 O3 hgr
 rcases hq with ⟨hN,rfl⟩ | ⟨t,hS,rfl,hown⟩
 ·obtain⟨hE,hV⟩:=Z4i hax.out hN
  replace hE:=Za hE
  replace hV:=Za hV
  replace hN:=Za hN
  clear E1
  obtain⟨k0,k1,k2,k3,k4,k5⟩:=Ze E3
  obtain⟨W9,hW9,g9,gr9,gs9⟩:=Zs (a':=.slice none 0 0) (b':=.slice none 0 0) (c':=.slice none 0 0) (d':=.slice none 0 0) E3
  obtain⟨n0,n1,n2,n3,_,_⟩:=Ze g9
  have hB9:=Za ((B4).out.grown gr9 (B4).out.size (fun q e=>by cases e;omega))
  replace g9:=Za g9
  replace E3:=Za E3
  clear gr9 gs9
  go_wp2_with fail
  refine bodyPost_ret (v:=.tuple #[.agg #[.slice none 0 0,.slice none 0 0,.slice none 0 0,.slice none 0 0],.int .i64 8]) (by simp[results,Tryz.results54,go_sem,n0,n1,n2,n3]) rfl ?_
  rw[hE.out,hV.out]
  exact⟨_,rfl,Yk _ _,hB9.out⟩
 ·obtain⟨hE,hV⟩:=Z48 hax.out hS
  have hle:=Z43 hS
  have htl:t.length=256:=hle.len.trans hlen.out
  have hmS:Xq (s.1,t,s.2.2)=true:=Uj (Yb hm).1 (hle.may (Yb hm).2.1) (Yb hm).2.2
  have hsm:=Za (Zq1 hmS)
  have T4:Hid (Sto (Old w4) w4 (.agg #[.slice A s.1.1.length ca,.slice B s.1.2.length cb,.slice (some ⟨g,0,none⟩) 256 c2,.slice L s.2.2.length cl]) (s.1,t,s.2.2)):=Za (Sto.mk H4.out.parts.1 (Zf.drop (Zfd hown)) H4.out.parts.2.2)
  replace hE:=Za hE
  replace hV:=Za hV
  replace hS:=Za hS
  obtain⟨k0,k1,k2,k3,_,kg⟩:=Ze E1
  replace E3:=Za E3
  clear hown hle
  go_wp2_with fail
  with_reducible refine(Zsj _ (s.1,t,s.2.2) hsm.out _ T4.out).mono ?_
  rintro e w5 ⟨A5,a5,B5,b5,N5,n5,L5,l5,rfl,h5,hb5⟩
  have F5:=(hb5.block (w.heap.size+2) (by have:=B4.out.size;have:=(Array.getElem?_eq_some_iff.1 E3.out).1;omega)).trans E3.out
  have s5:Hid (w.heap.size+2<w4.heap.size):=Za (Array.getElem?_eq_some_iff.1 E3.out).1
  obtain⟨o0,o1,o2,o3,_,_⟩:=Ze F5
  obtain⟨W9,hW9,g9,gr9,gs9⟩:=Zs (a':=.slice A5 s.1.1.length a5) (b':=.slice B5 s.1.2.length b5) (c':=.slice N5 t.length n5) (d':=.slice L5 s.2.2.length l5) F5
  obtain⟨n0,n1,n2,n3,_,_⟩:=Ze g9
  have hfin:=Za (show Sto (New w.heap.size W9) W9 (.agg #[.slice A5 s.1.1.length a5,.slice B5 s.1.2.length b5,.slice N5 t.length n5,.slice L5 s.2.2.length l5]) (s.1,t,s.2.2) from
   (h5.grown gr9 (fun q e=>by cases e;exact s5.out)).new B4.out.size (Below.refl _ _))
  have hB9:=Za ((B4.out.trans (hb5.mono B4.out.size)).grown gr9 (Nat.le_trans B4.out.size hb5.size) (fun q e=>by cases e;omega))
  replace F5:=Za F5
  replace g9:=Za g9
  replace htl:=Za htl
  clear gr9 gs9 h5 hb5 k0 k1 k2 k3 kg E1
  go_wp2_with fail
  refine bodyPost_ret (v:=.tuple #[.agg #[.slice A5 s.1.1.length a5,.slice B5 s.1.2.length b5,.slice N5 t.length n5,.slice L5 s.2.2.length l5],.int .i64 0]) (by simp[results,Tryz.results54,go_sem,n0,n1,n2,n3]) rfl ?_
  rw[hE.out,hV.out]
  exact⟨_,rfl,hfin.out,hB9.out⟩
theorem Zry (v:Value) (s:Rm) (n:Int) (w:World) (h:Sto (Old w) w v s) :
  Calls Tryz.prog 28 #[v,.int .i64 n] w fun e w'=>∃ u,e=.returned (.tuple #[u,.int .i64 (lvE s n)])∧Sto (New w.heap.size w') w' u (lvV s n)∧Below w.heap.size w w':=by
 obtain⟨A,ca,B,cb,N,cn,L,cl,w1,rfl,hw1,f1,f2,hsz,hB,H⟩:=Zd8 h
 clear h
 obtain⟨k0,k1,k2,k3,_,kg⟩:=Ze f1
 replace hsz:=Za hsz
 replace f2:=Za f2
 go_enter Tryz.func28,Tryz.ntmps28
 go_upto_region 1 with fail
 clear hw1
 go_wp2_with fail
 with_reducible refine(Zik _ s n 6 (by decide) _ H.out).mono ?_
 rintro e w2 ⟨u,rfl,hu,hb2⟩
 rw[(Zgb s n).1]
 rw[(Zgb s n).2] at hu
 obtain⟨q,hq⟩:∃ q,gdE s 6 n=q:=⟨_,rfl⟩
 have hq':=Za ((Zgb s n).1.symm.trans hq)
 clear hq
 rw[hq'.out]
 obtain⟨V,hV⟩:∃ V,gdV s 6 n=V:=⟨_,rfl⟩
 have hV':=Za ((Zgb s n).2.symm.trans hV)
 clear hV
 rw[hV'.out] at hu
 obtain⟨P,p,Q,r,Y,y,X,x,rfl,_⟩:=id hu.open
 have F2:=(hb2.block (w.heap.size+1) (by rw[hsz.out];omega)).trans f2.out
 obtain⟨o0,o1,o2,o3,_,_⟩:=Ze F2
 obtain⟨W9,hW9,g9,gr9,gs9⟩:=Zs (a':=.slice P V.1.1.length p) (b':=.slice Q V.1.2.length r) (c':=.slice Y V.2.1.length y) (d':=.slice X V.2.2.length x) F2
 obtain⟨n0,n1,n2,n3,_,_⟩:=Ze g9
 have hfin:=Za (show Sto (New w.heap.size W9) W9 _ V from (hu.grown gr9 (fun q e=>by cases e;rw[hsz.out];omega)).new hB.size (Below.refl _ _))
 have hB9:=Za ((hB.trans (hb2.mono hB.size)).grown gr9 (Nat.le_trans hB.size hb2.size) (fun q e=>by cases e;omega))
 replace F2:=Za F2
 replace g9:=Za g9
 clear gr9 gs9 hu hb2 k0 k1 k2 k3 kg f1
 go_wp2_with fail
 refine bodyPost_ret (v:=.tuple #[.agg #[.slice P V.1.1.length p,.slice Q V.1.2.length r,.slice Y V.2.1.length y,.slice X V.2.2.length x],.int .i64 q]) (by simp[results,Tryz.results28,go_sem,n0,n1,n2,n3]) rfl ?_
 rw[hq'.out,hV'.out]
 exact⟨_,rfl,hfin.out,hB9.out⟩
theorem Zrd (v:Value) (s:Rm) (n:Int) (w:World) (h:Sto (Old w) w v s) :
  Calls Tryz.prog 84 #[v,.int .i64 n] w fun e w'=>∃ u,e=.returned (.tuple #[u,.int .i64 (asE s n)])∧Sto (New w.heap.size w') w' u (loV s n)∧Below w.heap.size w w':=by
 obtain⟨A,ca,B,cb,N,cn,L,cl,w1,rfl,hw1,f1,f2,hsz,hB,H⟩:=Zd8 h
 clear h
 obtain⟨k0,k1,k2,k3,_,kg⟩:=Ze f1
 replace hsz:=Za hsz
 replace f2:=Za f2
 go_enter Tryz.func84,Tryz.ntmps84
 go_upto_region 1 with fail
 clear hw1
 go_wp2_with fail
 with_reducible refine(Zik _ s n (-1) (by decide) _ H.out).mono ?_
 rintro e w2 ⟨u,rfl,hu,hb2⟩
 rw[(Zf3 s n).1]
 rw[(Zf3 s n).2] at hu
 obtain⟨q,hq⟩:∃ q,gdE s (-1) n=q:=⟨_,rfl⟩
 have hq':=Za ((Zf3 s n).1.symm.trans hq)
 clear hq
 rw[hq'.out]
 obtain⟨V,hV⟩:∃ V,gdV s (-1) n=V:=⟨_,rfl⟩
 have hV':=Za ((Zf3 s n).2.symm.trans hV)
 clear hV
 rw[hV'.out] at hu
 obtain⟨P,p,Q,r,Y,y,X,x,rfl,_⟩:=id hu.open
 have F2:=(hb2.block (w.heap.size+1) (by rw[hsz.out];omega)).trans f2.out
 obtain⟨o0,o1,o2,o3,_,_⟩:=Ze F2
 obtain⟨W9,hW9,g9,gr9,gs9⟩:=Zs (a':=.slice P V.1.1.length p) (b':=.slice Q V.1.2.length r) (c':=.slice Y V.2.1.length y) (d':=.slice X V.2.2.length x) F2
 obtain⟨n0,n1,n2,n3,_,_⟩:=Ze g9
 have hfin:=Za (show Sto (New w.heap.size W9) W9 _ V from (hu.grown gr9 (fun q e=>by cases e;rw[hsz.out];omega)).new hB.size (Below.refl _ _))
 have hB9:=Za ((hB.trans (hb2.mono hB.size)).grown gr9 (Nat.le_trans hB.size hb2.size) (fun q e=>by cases e;omega))
 replace F2:=Za F2
 replace g9:=Za g9
 clear gr9 gs9 hu hb2 k0 k1 k2 k3 kg f1
 go_wp2_with fail
 refine bodyPost_ret (v:=.tuple #[.agg #[.slice P V.1.1.length p,.slice Q V.1.2.length r,.slice Y V.2.1.length y,.slice X V.2.2.length x],.int .i64 q]) (by simp[results,Tryz.results84,go_sem,n0,n1,n2,n3]) rfl ?_
 rw[hq'.out,hV'.out]
 exact⟨_,rfl,hfin.out,hB9.out⟩
end Go.Proofs.YtgmbjnajdfgenaaGreat
