/-
  Lemmas on the program and on the document's answers, gathered: PuEnough, PuHeld. Conditions: those that each lemma states.
-/
import Derived.Test.YtogieepfimpdmaaGreatBnd5
/-
 The laws of layer 12: enough. Conditions: those that each lemma states.
-/
namespace Go.Proofs.YtogieepfimpdmaaGreat
open Go.RowKit
theorem cnt_none:Tryz.zeroCells81=Array.replicate 256 (.int .i64 0):=by kernel_rfl
theorem both_new (w:World):∃ w5,(w.alloc (.cells Tryz.zeroCells80 80)).alloc (.cells Tryz.zeroCells81 81)=w5∧Bits w.heap.size [] w5∧Cnt (w.heap.size+1) (fun _=>0) w5∧Below w.heap.size w w5∧w5.heap.size=w.heap.size+2:=by
 have hz:∀ k,k<256→(Tryz.zeroCells80:Array Value)[k]? = some (.bool (inB [] k)):=fun k hk=>by
  rw[bits_none,Array.getElem?_replicate,if_pos hk]
  simp[inB]
 have hz2:∀ k,k<256→(Tryz.zeroCells81:Array Value)[k]? = some (.int .i64 0):=fun k hk=>by
  rw[cnt_none,Array.getElem?_replicate,if_pos hk]
 refine⟨_,rfl,⟨_,alloc_block (heap_alloc_new _ _),hz⟩,⟨_,?_,hz2⟩,((Below.refl _ w).alloc (Nat.le_refl _) _).alloc (by simp) _,by simp⟩
 have:=heap_alloc_new (w.alloc (.cells Tryz.zeroCells80 80)) (.cells Tryz.zeroCells81 81)
 rwa [World.size_alloc] at this
structure EnS (n0 b:Nat) (w2:World) (f:Nat→Int) (V:List Int) (W:World):Prop where
 low:Below n0 w2 W
 cnt:Cnt (b+1) f W
 bits:Bits b V W
theorem EnS.below {n0 b:Nat} {w2:World} {f:Nat→Int} {V:List Int} {W W':World} (h:EnS n0 b w2 f V W) (hn:n0≤W.heap.size) (hb:Below W.heap.size W W'):EnS n0 b w2 f V W' :=
 ⟨h.low.trans (hb.mono hn),lasts_cnt _ _ _ _ h.cnt hb,lasts_bits _ _ _ _ h.bits hb⟩
theorem EnS.up {n0 b:Nat} {w2:World} {f:Nat→Int} {V:List Int} {W:World} (h:EnS n0 b w2 f V W) (hn:n0≤b) (k:Nat):EnS n0 b w2 (upF f k) V (W.setCell ⟨b+1,k,none⟩ (.int .i64 (f k+1))) :=
 ⟨h.low.trans (by
  have hg:W.grownBy (W.setCell ⟨b+1,k,none⟩ (.int .i64 (f k+1))) (some (b+1)):=grow_put (p:=⟨b+1,k,none⟩) (grow_refl W (some (b+1))) rfl _
  exact(Below.refl n0 W).grown hg (by have:=cnt_lt h.cnt;omega) (fun q e=>by cases e;omega)),cnt_put h.cnt k,bits_other h.bits (by omega) k _⟩
theorem EnS.met {n0 b:Nat} {w2:World} {f:Nat→Int} {V:List Int} {W:World} (h:EnS n0 b w2 f V W) (hn:n0≤b) (k:Nat):EnS n0 b w2 f (V++[(k:Int)]) (W.setCell ⟨b,k,none⟩ (.bool true)) :=
 ⟨h.low.trans (by
  have hg:W.grownBy (W.setCell ⟨b,k,none⟩ (.bool true)) (some b):=grow_put (p:=⟨b,k,none⟩) (grow_refl W (some b)) rfl _
  exact(Below.refl n0 W).grown hg (by have:=bits_lt h.bits;omega) (fun q e=>by cases e;omega)),cnt_other h.cnt (by omega) k _,bits_put h.bits k⟩
theorem upF_cntL {l:List Int} {n:Int} {j:Nat} (h:l[j]? = some n) (h0:0≤n):upF (fun i=>((cntL (l.take j) i:Nat):Int)) n.toNat=fun i=>((cntL (l.take (j+1)) i:Nat):Int):=by
 funext i
 unfold upF
 dsimp only
 rw[List.take_add_one,h,Option.toList_some,cntL_snoc]
 by_cases e:i=n.toNat
 ·rw[if_pos e,if_pos (show n=(i:Int) by omega)];omega
 ·rw[if_neg e,if_neg (show ¬ n=(i:Int) by omega)];omega
noncomputable def wantF (s:Rm) (held pre:List Int) (V:List Int):Nat→Int:=fun i=>((cntL held i+cntL pre i+sumC s V i:Nat):Int)
theorem want_root {s:Rm} {held roots:List Int} {V:List Int} {n:Int} {j:Nat} (h:roots[j]? = some n) (h0:0≤n):upF (wantF s held (roots.take j) V) n.toNat=wantF s held (roots.take (j+1)) V:=by
 funext i
 unfold upF wantF
 rw[List.take_add_one,h,Option.toList_some,cntL_snoc]
 by_cases e:i=n.toNat
 ·rw[if_pos e,if_pos (show n=(i:Int) by omega)];omega
 ·rw[if_neg e,if_neg (show ¬ n=(i:Int) by omega)];omega
theorem want_few {s:Rm} {held pre V:List Int} (hh:held.length≤4) (hp:pre.length≤4) (hd:V.Nodup) (hV:∀ n∈V,rmE s n=0) (i:Nat):cntL held i+cntL pre i+sumC s V i≤1288:=by
 have h1:=cntL_len i held
 have h2:=cntL_len i pre
 have h3:=sumC_len s i V hV
 have h4:=nodup_few 256 V hd fun n hn=>by
  obtain⟨p1,p2,_⟩:=node_place (hV n hn)
  exact⟨by omega,by omega⟩
 omega
def PhD (lo n:Nat) (L:List Int) (v:Value) (W:World):Prop:=∃ (u:Option Addr) (c:Nat) (p:Option Addr) (q d:Nat),v=.tuple #[.slice u n c,.slice p q d,.int .i64 0]∧rSl 1 (rK .i64) (New lo W) W [.slice u n c] L
def PhU (lo n:Nat) (L:List Int) (v:Value) (W:World):Prop:=∃ (u:Option Addr) (c:Nat),v=.slice u n c∧rSl 1 (rK .i64) (New lo W) W [.slice u n c] L
theorem PhD.below {lo n:Nat} {L:List Int} {v:Value} {W W':World} (h:PhD lo n L v W) (hb:Below W.heap.size W W'):PhD lo n L v W':=by
 obtain⟨u,c,p,q,d,e,h⟩:=h
 exact⟨u,c,p,q,d,e,(stab_sl (stab_k _)).new h (Nat.le_refl _) hb⟩
theorem PhU.below {lo n:Nat} {L:List Int} {v:Value} {W W':World} (h:PhU lo n L v W) (hb:Below W.heap.size W W'):PhU lo n L v W':=by
 obtain⟨u,c,e,h⟩:=h
 exact⟨u,c,e,(stab_sl (stab_k _)).new h (Nat.le_refl _) hb⟩
theorem nodes_ph {s:Rm} {r:Int} (hr:ckE s r=0) (lo:Nat) (v:Value) (w:World) (hlo:lo≤w.heap.size) (h:Sto (Old w) w v s):Calls Tryz.prog 35 #[v,.int .i64 r] w fun e w'=>∃ v,e=.returned v∧PhD lo (markI (nodesO s r)).length (markI (nodesO s r)) v w'∧Below w.heap.size w w':=by
 refine(walkNodes_any v s r w h).mono ?_
 rintro e w' ⟨u,c,p,d,rfl,h1,h2,hb⟩
 have e1:ndsV s r=markI (nodesO s r):=if_pos hr
 rw[hr]
 rw[e1] at h1 ⊢
 exact⟨_,rfl,⟨u,c,p,_,d,rfl,(stab_sl (stab_k _)).new h1 hlo (Below.refl _ _)⟩,hb⟩
theorem sl_rest {lo b:Nat} {w:World} {U:Option Addr} {n c:Nat} {l:List Int} (h:rSl 1 (rK .i64) (New lo w) w [.slice U n c] l) (hb:b+1<lo) {k:Nat} {x:Int} (hx:l[k]? = some x) :
  ∃ ad,U=some ad∧∀ W,Rest b (b+1) w W→W.cell? (ad.add k)=some (.int .i64 x):=by
 obtain⟨A,cap,e,_,_,h2⟩:=h
 simp only[List.cons.injEq,Value.slice.injEq,and_true] at e
 obtain⟨rfl,_,_⟩:=e
 obtain⟨ad,vs,rfl,_,e3,e4⟩:=h2 k x hx
 obtain⟨rfl,_,_⟩:=e4
 have:=e3 0 _ rfl
 simp only[Nat.mul_one,Nat.add_zero] at this
 obtain⟨⟨p1,p2,_⟩,p4⟩:=this
 exact⟨ad,rfl,fun W hW=>(World.cell?_of_block (hW.2 _ p2 (by omega) (by omega))).trans p4⟩
def PhQ (lo:Nat) (lv:Int) (n:Nat) (L:List It) (v:Value) (W:World):Prop:=∃ (A:Option Addr) (c:Nat),v=.tuple #[.agg #[.int .i64 lv,.slice A n c],.int .i64 0]∧RowOf rIt 5 40 lo W A c L
def PhQA (lo:Nat) (lv:Int) (n:Nat) (L:List It) (v:Value) (W:World):Prop:=∃ (A:Option Addr) (c:Nat),v=.agg #[.int .i64 lv,.slice A n c]∧RowOf rIt 5 40 lo W A c L
theorem PhQ.below {lo n:Nat} {lv:Int} {L:List It} {v:Value} {W W':World} (h:PhQ lo lv n L v W) (hb:Below W.heap.size W W'):PhQ lo lv n L v W':=by
 obtain⟨A,c,e,h⟩:=h
 exact⟨A,c,e,h.below stab_it hb⟩
theorem PhQA.below {lo n:Nat} {lv:Int} {L:List It} {v:Value} {W W':World} (h:PhQA lo lv n L v W) (hb:Below W.heap.size W W'):PhQA lo lv n L v W':=by
 obtain⟨A,c,e,h⟩:=h
 exact⟨A,c,e,h.below stab_it hb⟩
theorem node_ph {s:Rm} {y:Int} (hy:rmE s y=0) (lo:Nat) (v:Value) (w:World) (hlo:lo≤w.heap.size) (h:Sto (Old w) w v s):Calls Tryz.prog 13 #[v,.int .i64 y] w fun e w'=>∃ v,e=.returned v∧PhQ lo (rmV s y).1 (rmV s y).2.length (rmV s y).2 v w'∧Below w.heap.size w w':=by
 refine(nodeR_own v s y w h).mono ?_
 rintro e w' ⟨u,rfl,⟨A,c,rfl,_,hr⟩,hb⟩
 rw[hy]
 exact⟨_,rfl,⟨A,c,rfl,hr.low stab_it hlo⟩,hb⟩
theorem row_refs {lo b g:Nat} {w w':World} {A:Option Addr} {c:Nat} {L:List It} {zs:Array Value} {t:TypeId} (h:RowOf rIt 5 40 lo w A c L) (hb:b+1<lo) (hg:w.heap[g]? = some (.cells zs t (0,0))) (ht:t≠40) (hgr:w.grownBy w' (some g)) {k:Nat} {x:It} (hx:L[k]? = some x) :
  ∃ ad,A=some ad∧∀ W,Rest b (b+1) w' W→W.cell? ⟨(ad.add (k*5)).block,(ad.add (k*5)).off+3,none⟩=some (.int .i64 x.2.1):=by
 obtain⟨ad,E,ce,rfl,hok,⟨_,_,_,c3,_⟩,_⟩:=its_at (h.rel stab_it) hx
 obtain⟨p1,p2,_⟩:=hok 0 (by omega)
 rw[add_block] at p1
 have p2:ad.block<w.heap.size:=by
  have:=p2
  unfold Old at this
  rwa [add_block] at this
 have hne:ad.block≠g:=fun e=>by
  obtain⟨cs,ho,_⟩:=h
  have hlt:=(List.getElem?_eq_some_iff.1 hx).1
  rcases ho.2 with ⟨e1,e2⟩ | ⟨g',cap,cur,e1,_,hgg,_⟩
  ·omega
  ·cases e1
   rw[show (⟨g',0,none⟩:Addr).block=g' from rfl] at e
   rw[e,hg] at hgg
   simp at hgg
   exact ht hgg.2
 refine⟨ad,rfl,fun W hW => ?_⟩
 have e1:=hgr.block ad.block p2 (by simpa using hne)
 have e2:=hW.2 ad.block (Nat.lt_of_lt_of_le p2 hgr.size) (by omega) (by omega)
 exact(World.cell?_of_block (a:=⟨(ad.add (k*5)).block,(ad.add (k*5)).off+3,none⟩) (by rw[add_block];exact e2.trans e1)).trans c3
theorem EnS.box {n0 b:Nat} {w2:World} {f:Nat→Int} {V:List Int} {W W':World} {g:Nat} (h:EnS n0 b w2 f V W) (hn:n0≤b) (hb:b+1<g) (hg:W.grownBy W' (some g)):EnS n0 b w2 f V W':=by
 obtain⟨vs,c1,c2⟩:=h.cnt
 obtain⟨us,d1,d2⟩:=h.bits
 have hc:=(Array.getElem?_eq_some_iff.1 c1).1
 refine⟨h.low.trans ((Below.refl n0 W).grown hg (by omega) (fun q e=>by cases e;omega)),⟨vs,?_,c2⟩,⟨us,?_,d2⟩⟩
 ·rw[hg.block (b+1) hc (fun e=>by have:=Option.some.inj e;omega)]
  exact c1
 ·rw[hg.block b (by omega) (fun e=>by have:=Option.some.inj e;omega)]
  exact d1
theorem EnS.same {n0 b:Nat} {w2:World} {f:Nat→Int} {V V':List Int} {W:World} (h:EnS n0 b w2 f V W) (e:∀ k:Nat,(k:Int)∈V↔(k:Int)∈V'):EnS n0 b w2 f V' W:=by
 obtain⟨us,d1,d2⟩:=h.bits
 refine⟨h.low,h.cnt,us,d1,fun k hk => ?_⟩
 rw[d2 k hk]
 unfold inB
 simp only[e k]
theorem rest_grown {b g:Nat} {w w' w'':World} (h:Rest b (b+1) w w') (hg:w'.grownBy w'' (some g)) (hl:w.heap.size≤g):Rest b (b+1) w w'' :=
 ⟨Nat.le_trans h.1 hg.size,fun k hk h1 h2=>(hg.block k (Nat.lt_of_lt_of_le hk h.1) (fun e=>by have:=Option.some.inj e;omega)).trans (h.2 k hk h1 h2)⟩
noncomputable def wantN (s:Rm) (held pre:List Int) (V:List Int) (I:List It) (q:Nat):Nat→Int:=fun i=>wantF s held pre V i+((refC (I.take q) i:Nat):Int)
theorem wantN_zero (s:Rm) (held pre V:List Int) (I:List It):wantN s held pre V I 0=wantF s held pre V:=by
 funext i
 unfold wantN
 rw[List.take_zero]
 simp[refC]
theorem wantN_all {s:Rm} {held pre V:List Int} {y:Int} {q:Nat} (hq:(rmV s y).2.length≤q):wantN s held pre V (rmV s y).2 q=wantF s held pre (V++[y]):=by
 funext i
 unfold wantN wantF
 rw[List.take_of_length_le hq,sumC_snoc]
 omega
theorem wantN_up {s:Rm} {held pre V:List Int} {I:List It} {q:Nat} {x:It} (hx:I[q]? = some x) (h0:0≤x.2.1):upF (wantN s held pre V I q) x.2.1.toNat=wantN s held pre V I (q+1):=by
 funext i
 unfold upF wantN
 rw[List.take_add_one,hx,Option.toList_some,refC_snoc]
 by_cases e:i=x.2.1.toNat
 ·rw[if_pos e,if_pos (show x.2.1=(i:Int) by omega)];omega
 ·rw[if_neg e,if_neg (show ¬ x.2.1=(i:Int) by omega)];omega
def EnoR (s:Rm) (roots held:List Int) (w:World) (e:Ending) (w':World):Prop:=∃ (V:List Int) (res:Bool),V.Nodup∧(∀ n,n∈V↔∃ r∈roots,n∈nodesO s r)∧(res=true↔∀ i:Nat,1≤i→i<256→cntL held i+cntL roots i+sumD s.1 V i≤cnt8 s.2.1 i)∧e=.returned (.bool res)∧Below w.heap.size w w'
set_option maxRecDepth 100000 in
set_option maxHeartbeats 8000000 in
theorem enough_any (qa qb qc qd:Option Addr×Nat×Nat) (s:Rm) (R:Option Addr) (nr cr:Nat) (roots:List Int) (H:Option Addr) (nh ch:Nat) (held:List Int) (w:World) (h:Sto (Old w) w (.agg #[.slice qa.1 qa.2.1 qa.2.2,.slice qb.1 qb.2.1 qb.2.2,.slice qc.1 qc.2.1 qc.2.2,.slice qd.1 qd.2.1 qd.2.2]) s)
  (hr:rSl 1 (rK .i64) (Old w) w [.slice R nr cr] roots) (hh:rSl 1 (rK .i64) (Old w) w [.slice H nh ch] held) (hrn:roots.length=nr) (hhn:held.length=nh) (hr4:nr≤4) (hr0:0<nr) (hh4:nh≤4) (ht:∀ r∈roots,ckE s r=0) (hH:∀ x∈held,0≤x∧x<256) :
  Calls Tryz.prog 17 #[.agg #[.slice qa.1 qa.2.1 qa.2.2,.slice qb.1 qb.2.1 qb.2.2,.slice qc.1 qc.2.1 qc.2.2,.slice qd.1 qd.2.1 qd.2.2],.slice R nr cr,.slice H nh ch] w (EnoR s roots held w):=by
 obtain⟨w1,hw1,b1,hs1,hB1⟩:=box_4 w (.slice qa.1 qa.2.1 qa.2.2) (.slice qb.1 qb.2.1 qb.2.2) (.slice qc.1 qc.2.1 qc.2.2) (.slice qd.1 qd.2.1 qd.2.2) 29
 obtain⟨w2,hw2,hbt,hct,hB2,hs2⟩:=both_new w1
 have hB12:=hB1.trans (hB2.mono hB1.size)
 have SZ:=Lib.hid (show w1.heap.size=w.heap.size+1∧w2.heap.size=w.heap.size+3 from ⟨hs1,by omega⟩)
 have B2:=Lib.hid hB12
 have HS:=Lib.hid (fun W (hW:Below w1.heap.size w2 W)=>And.intro (four_cells ((hW.block w.heap.size (by omega)).trans ((hB2.block w.heap.size (by omega)).trans b1))) (h.below (hB12.trans (hW.mono hB1.size))))
 have HR:=Lib.hid (fun j (x:Int) (hx:roots[j]? = some x)=>sl_at hr hx)
 have HH:=Lib.hid (fun j (x:Int) (hx:held[j]? = some x)=>sl_at hh hx)
 have E2:=Lib.hid (show EnS w1.heap.size w1.heap.size w2 (fun _=>0) [] w2 from ⟨Below.refl _ _,hct,hbt⟩)
 have LR:=Lib.hid hrn
 have LH:=Lib.hid hhn
 have hT:=Lib.hid ht
 have hlen:Hid (s.2.1.length=256):=Lib.hid (by
  obtain⟨x,hx⟩:∃ x,roots[0]? = some x:=⟨_,List.getElem?_eq_getElem (by omega)⟩
  obtain⟨-,-,hm,-⟩:=as_read (ck_of (ht x (List.mem_of_getElem? hx))).2.1
  exact mayT_len (mayR_of hm).2.1)
 have hHd:=Lib.hid hH
 replace hs1:=Lib.hid hs1
 replace hs2:=Lib.hid hs2
 clear h hr hh hrn hhn ht hH hB1 hB2 hB12 b1 hbt hct
 go_enter Tryz.func17,Tryz.ntmps17
 go_upto_region 3 with fail
 clear hw1 hw2
 go_wp2_with fail
 go_loopw [9] (fun iv wr=>∃ (j:Nat),j≤nh∧iv=.int .i64 (j:Int)∧EnS w1.heap.size w1.heap.size w2 (fun i=>((cntL (held.take j) i:Nat):Int)) [] wr) (fun iv _=>nh-(intOf iv).toNat)
 case atStart=>exact⟨0,by omega,rfl,E2.out⟩
 case round =>
  obtain⟨j,hj,rfl,hE⟩:=hrel
  by_cases hlt:j<nh
  case pos =>
   obtain⟨x,hx⟩:∃ x,held[j]? = some x:=⟨_,List.getElem?_eq_getElem (by rw[LH.out];exact hlt)⟩
   obtain⟨x0,x1⟩:=hHd.out x (List.mem_of_getElem? hx)
   obtain⟨k,rfl⟩:∃ k:Nat,x=(k:Int):=⟨x.toNat,by omega⟩
   obtain⟨ad,rfl,hc⟩:=HH.out j _ hx
   have hcx:=hc wr (B2.out.trans (hE.low.mono (by have:=SZ.out;omega)))
   have hk:k<256:=by omega
   have hcell:=cnt_cell hE.cnt hk
   have hfrz:=cnt_frz hE.cnt k
   have hle:=cntL_len k (held.take j)
   rw[List.length_take] at hle
   obtain⟨m,hm⟩:∃ m,cntL (held.take j) k=m:=⟨_,rfl⟩
   rw[hm] at hcell hle
   have i1:(j:Int)<(nh:Int):=by omega
   have iw:IntKind.i64.wrap ((m:Int)+1)=(m:Int)+1:=by rw[IntKind.wrap_i64];omega
   obtain⟨W9,hW9⟩:∃ W9,wr.setCell ⟨w1.heap.size+1,k,none⟩ (.int .i64 ((m:Int)+1))=W9:=⟨_,rfl⟩
   have hE9:Hid (EnS w1.heap.size w1.heap.size w2 (fun i=>((cntL (held.take (j+1)) i:Nat):Int)) [] W9):=Lib.hid (by
    have:=hE.up (Nat.le_refl _) k
    rw[hm,hW9] at this
    have e:=upF_cntL hx (by omega)
    rw[show ((k:Int)).toNat=k by omega] at e
    rwa [e] at this)
   replace hm:=Lib.hid hm
   replace hx:=Lib.hid hx
   clear hE hc hle
   go_wp2_with fail
   go_roundw
   case rel=>exact⟨j+1,by omega,by go_num,hE9.out⟩
   case measure=>simp[intOf];omega
  obtain rfl:j=nh:=by omega
  have i1:¬ ((j:Int)<(j:Int)):=by omega
  have hE1:Hid (EnS w1.heap.size w1.heap.size w2 (fun i=>((cntL held i:Nat):Int)) [] wr):=Lib.hid (by
   rw[List.take_of_length_le (by rw[LH.out];exact Nat.le_refl _)] at hE
   exact hE)
  clear hE
  go_wp2_with fail
  go_loopw [10] (fun iv wr=>∃ (j:Nat) (V:List Int),j≤nr∧iv=.int .i64 (j:Int)∧EnS w1.heap.size w1.heap.size w2 (wantF s held (roots.take j) V) V wr∧V.Nodup∧∀ n,n∈V↔∃ r∈roots.take j,n∈nodesO s r) (fun iv _=>nr-(intOf iv).toNat)
  case atStart=>exact⟨0,[],by omega,rfl,by
   have:=hE1.out
   have e:wantF s held (roots.take 0) []=fun i=>((cntL held i:Nat):Int):=by
    funext i
    unfold wantF
    simp[cntL,sumC]
   rw[e]
   exact this,List.nodup_nil,fun n=>by simp⟩
  case round =>
   obtain⟨j',V,hj,rfl,hE,hVd,hVm⟩:=hrel
   have hVr:Hid (∀ n∈V,rmE s n=0):=Lib.hid (fun n hn=>by
    obtain⟨r,hr,hnr⟩:=(hVm n).1 hn
    exact(tree_blk (ck_of (hT.out r (List.mem_of_mem_take hr))).1).node n hnr)
   by_cases hlt':j'<nr
   case neg =>
    obtain rfl:j'=nr:=by omega
    have i3:¬ ((j':Int)<(j':Int)):=by omega
    have eR:roots.take j'=roots:=List.take_of_length_le (by rw[LR.out];exact Nat.le_refl _)
    rw[eR] at hE hVm
    have HE:=Lib.hid hE
    have HV:=Lib.hid hVm
    have HN:=Lib.hid (fun W (hW:Below w1.heap.size w2 W)=>(HS.out W hW).2.parts.2.1)
    clear hE hVm eR
    go_wp2_with fail
    obtain⟨v3,rfl⟩:∃ v3:World,v3=wr:=⟨_,rfl⟩
    have hn0:w1.heap.size+1<v3.heap.size:=cnt_lt HE.out.cnt
    have B3:=Lib.hid (B2.out.trans (HE.out.low.mono (by have:=SZ.out;omega)))
    go_loopw [18] (fun iv wz=>∃ (i:Nat),1≤i∧i≤256∧iv=.int .i64 (i:Int)∧Below v3.heap.size v3 wz∧∀ t:Nat,1≤t→t<i→cntL held t+cntL roots t+sumC s V t≤cnt8 s.2.1 t) (fun iv _=>256-(intOf iv).toNat)
    case atStart=>exact⟨1,by omega,by omega,rfl,Below.refl _ _,fun t h1 h2=>by omega⟩
    case round =>
     obtain⟨i,hi1,hi2,rfl,hB,hall⟩:=hrel
     have BB:=Lib.hid (B3.out.trans (hB.mono B3.out.size))
     by_cases hi:i<256
     case neg =>
      have i4:¬ ((i:Int)<256):=by omega
      have hfin:Hid (EnoR s roots held w (.returned (.bool true)) wr):=Lib.hid ⟨V,true,hVd,HV.out,⟨fun _ t h1 h2=>by rw[← sumC_sum h1 V hVr.out];exact hall t h1 (by omega),fun _=>rfl⟩,rfl,BB.out⟩
      clear hall hB
      go_wp2_with fail
      exact bodyPost_ret (v:=.bool true) (by simp[results,Tryz.results17,go_sem]) rfl hfin.out
     obtain⟨y,hy⟩:∃ y,s.2.1[i]? = some y:=⟨_,List.getElem?_eq_getElem (by rw[hlen.out];exact hi)⟩
     have hw2r:Below w1.heap.size w2 wr:=HE.out.low.trans (hB.mono (by omega))
     have hby:=HN.out wr hw2r
     obtain⟨A',cap',e,_,_,hbt⟩:=rBy_byt (B:=wr.heap.size) (fun p hp=>hp) hby
     obtain⟨nd,hnd,hndl,hcb⟩:=hbt.at_ (by rw[hlen.out];omega)
     simp only[Value.slice.injEq] at e
     obtain⟨e1,e2,_⟩:=e
     rw[hlen.out] at e2
     have hq1:qc.1=some nd:=e1.trans hnd
     obtain⟨fi,hfi⟩:∃ fi,cntL held i+cntL roots i+sumC s V i=fi:=⟨_,rfl⟩
     have KI:=Lib.hid (fun W' (hW:Below wr.heap.size wr W')=>And.intro (HS.out W' (hw2r.trans (hW.mono (by have:=hB.size;omega)))).1 (And.intro (show W'.cell? ⟨w1.heap.size+1,i,none⟩=some (.int .i64 (fi:Int)) by
       have:=cnt_cell ((HE.out.below (by omega) hB).below (by have:=hB.size;omega) hW).cnt hi
       unfold wantF at this
       rwa [hfi] at this) ((hW.cell (p:=nd.add i) (by rw[add_block];exact hndl)).trans (hcb i y hy))))
     have hcy:cnt8 s.2.1 i=y.toNat:=by unfold cnt8;rw[hy];rfl
     have y255:=y.toNat_lt
     have iwy:IntKind.i64.wrap (y.toNat:Int)=(y.toNat:Int):=by rw[IntKind.wrap_i64];omega
     have i4:((i:Int)<256):=by omega
     have hall':=Lib.hid hall
     have hB':=Lib.hid hB
     obtain⟨yn,hyn⟩:∃ yn,y.toNat=yn:=⟨_,rfl⟩
     rw[hyn] at KI hcy y255 iwy
     replace hy:=Lib.hid hy
     replace hyn:=Lib.hid hyn
     replace hfi:=Lib.hid hfi
     replace hcy:=Lib.hid hcy
     obtain⟨q1,q2,q3⟩:=qc
     dsimp only at hq1 e2
     subst hq1
     subst e2
     clear hall hB hby hbt hcb hw2r e1 hnd
     go_upto_region 28 with fail
     by_cases hgt:yn<fi
     ·have hd:decide ((fi:Int)>(yn:Int))=true:=decide_eq_true (by omega)
      refine wp_region_fx (by kernel_rfl) (fun W=>Below wr.heap.size wr W) (fun _=>none) (fun _=>none) (by kernel_rfl) (Below.refl _ _).drew (fun w w' h hb=>h.trans (hb.mono h.size)) (fun j φ x W W' hp=>by cases hp) ?_
      repeat (first
       | (refine wpAs_skip rfl ?_;simp only[Act.put,List.setIfInBounds_toArray,List.set_cons_zero,List.set_cons_succ])
       | (refine wpAs_pure (v := ?_) rfl rfl ?_ ?_;rotate_left;(intro W hC hE;clear hE;(obtain⟨⟨k0,k1,k2,k3,_⟩,hci,hcn⟩:=KI.out W hC);clear hC;go_simp;done);simp only[Act.put,List.setIfInBounds_toArray,List.set_cons_zero,List.set_cons_succ])
       | (refine wpAs_pure (v := ?_) rfl rfl ?_ ?_;rotate_left;(intro W hC hE;clear hE;(obtain⟨⟨k0,k1,k2,k3,_⟩,hci,hcn⟩:=KI.out W hC);clear hC;go_simp;with_reducible rfl);simp only[Act.put,List.setIfInBounds_toArray,List.set_cons_zero,List.set_cons_succ]))
      refine wpAs_end fun W hC hE => ?_
      have hfin:Hid (EnoR s roots held w (.returned (.bool false)) W):=Lib.hid ⟨V,false,hVd,HV.out,⟨(nomatch ·),fun h=>by
       have h1:=h i hi1 hi
       rw[← sumC_sum hi1 V hVr.out,hfi.out,hcy.out] at h1
       omega⟩,rfl,BB.out.trans (hC.mono BB.out.size)⟩
      clear hE hC
      go_wp2_with fail
      exact bodyPost_ret (v:=.bool false) (by simp[results,Tryz.results17,go_sem]) rfl hfin.out
     ·have hd:decide ((fi:Int)>(yn:Int))=false:=decide_eq_false (by omega)
      refine wp_region_fx (by kernel_rfl) (fun W=>Below wr.heap.size wr W) (fun _=>none) (fun _=>none) (by kernel_rfl) (Below.refl _ _).drew (fun w w' h hb=>h.trans (hb.mono h.size)) (fun j φ x W W' hp=>by cases hp) ?_
      repeat (first
       | (refine wpAs_skip rfl ?_;simp only[Act.put,List.setIfInBounds_toArray,List.set_cons_zero,List.set_cons_succ])
       | (refine wpAs_pure (v := ?_) rfl rfl ?_ ?_;rotate_left;(intro W hC hE;clear hE;(obtain⟨⟨k0,k1,k2,k3,_⟩,hci,hcn⟩:=KI.out W hC);clear hC;go_simp;done);simp only[Act.put,List.setIfInBounds_toArray,List.set_cons_zero,List.set_cons_succ])
       | (refine wpAs_pure (v := ?_) rfl rfl ?_ ?_;rotate_left;(intro W hC hE;clear hE;(obtain⟨⟨k0,k1,k2,k3,_⟩,hci,hcn⟩:=KI.out W hC);clear hC;go_simp;with_reducible rfl);simp only[Act.put,List.setIfInBounds_toArray,List.set_cons_zero,List.set_cons_succ]))
      refine wpAs_end fun W hC hE => ?_
      have hB9:=Lib.hid (hB'.out.trans (hC.mono hB'.out.size))
      clear hE hC
      go_wp2_with fail
      go_roundw
      case rel=>exact⟨i+1,by omega,by omega,by go_num,hB9.out,fun t h1 h2=>by
       by_cases e:t=i
       ·subst e
        rw[hfi.out,hcy.out]
        omega
       ·exact hall'.out t h1 (by omega)⟩
      case measure=>simp[intOf];omega
   obtain⟨x,hx⟩:∃ x,roots[j']? = some x:=⟨_,List.getElem?_eq_getElem (by rw[LR.out];exact hlt')⟩
   have hck:=hT.out x (List.mem_of_getElem? hx)
   obtain⟨k,rfl,_,k8,k256,-⟩:=as_read (ck_of hck).2.1
   obtain⟨ad,rfl,hc⟩:=HR.out j' _ hx
   have hcx:=Lib.hid (fun W (hW:Below wr.heap.size wr W)=>hc W (B2.out.trans ((hE.low.mono (by have:=SZ.out;omega)).trans (hW.mono (by have:=SZ.out;have:=hE.low.size;omega)))))
   have hc0:=hcx.out wr (Below.refl _ _)
   have hcell:=cnt_cell hE.cnt k256
   have hfrz:=cnt_frz hE.cnt k
   have hle:=want_few (held:=held) (pre:=roots.take j') (by rw[LH.out];omega) (by rw[List.length_take,LR.out];omega) hVd hVr.out k
   obtain⟨m,hm⟩:∃ m,cntL held k+cntL (roots.take j') k+sumC s V k=m:=⟨_,rfl⟩
   unfold wantF at hcell
   rw[hm] at hcell hle
   have i3:(j':Int)<(nr:Int):=by omega
   have iw:IntKind.i64.wrap ((m:Int)+1)=(m:Int)+1:=by rw[IntKind.wrap_i64];omega
   obtain⟨W9,hW9⟩:∃ W9,wr.setCell ⟨w1.heap.size+1,k,none⟩ (.int .i64 ((m:Int)+1))=W9:=⟨_,rfl⟩
   have hE9:Hid (EnS w1.heap.size w1.heap.size w2 (wantF s held (roots.take (j'+1)) V) V W9):=Lib.hid (by
    have:=hE.up (Nat.le_refl _) k
    rw[show (wantF s held (roots.take j') V) k=(m:Int) by unfold wantF;rw[hm],hW9] at this
    have e:=want_root (s:=s) (held:=held) (V:=V) hx (by omega)
    rw[show ((k:Int)).toNat=k by omega] at e
    rwa [e] at this)
   have hNd:=Lib.hid (fun v W hlo hW=>nodes_ph hck W9.heap.size v W hlo hW)
   obtain⟨L,hL⟩:∃ L,markI (nodesO s (k:Int))=L:=⟨_,rfl⟩
   rw[hL] at hNd
   obtain⟨nl,hnl⟩:∃ q,L.length=q:=⟨_,rfl⟩
   rw[hnl] at hNd
   have hn256:nl≤256:=by
    have hbd:∀ z∈nodesO s (k:Int),0≤z∧z<256:=fun z hz=>by
     have:=node_place ((tree_blk (ck_of hck).1).node z hz)
     omega
    rw[← hnl,← hL]
    exact nodup_few 256 _ ((markI_up _).imp fun h=>by omega) fun n hn=>by
     have:=hbd n ((markI_in hbd).1 hn)
     omega
   have KR:=Lib.hid (fun W (hW:Below W9.heap.size W9 W)=>And.intro (HS.out W (hE9.out.low.trans (hW.mono (by have:=SZ.out;have:=hE9.out.low.size;omega)))) (hc W (B2.out.trans ((hE9.out.low.mono (by have:=SZ.out;omega)).trans (hW.mono (by have:=SZ.out;have:=hE9.out.low.size;omega))))))
   replace hm:=Lib.hid hm
   replace hx:=Lib.hid hx
   replace hL:=Lib.hid hL
   replace hnl:=Lib.hid hnl
   replace hVm:=Lib.hid hVm
   clear hE hc hle hck hcx
   go_upto_region 11 with fail
   clear hc0 hcell hfrz hW9
   refine wp_region_late (ops' := ?opsLate) (by kernel_rfl) [(10,8),(10,9),(11,9)] ?he (by kernel_rfl) (fun d _ _ _ _ h=>by cases d <;> exact h) 10 (fun W=>Below W9.heap.size W9 W) (fun i=>match i with
    | 5=>some (fun v W=>PhD W9.heap.size nl L v W)
    | 6=>some (fun v W=>PhD W9.heap.size nl L v W)
    | 7=>some (fun v W=>PhU W9.heap.size nl L v W)
    | 8=>some (fun v _=>∃ (p:Option Addr) (q d:Nat),v=.slice p q d)
    | _=>none) (fun i=>match i with
    | 9=>some (.int .i64 0)
    | _=>none) ?h1 ?h2 ?h3 (Below.refl _ _).drew (fun w w' h hb=>h.trans (hb.mono h.size)) ?tst ?_
   case he =>
    simp[withEdges]
    rfl
   case h1=>decide
   case h2=>kernel_rfl
   case h3=>kernel_rfl
   case tst =>
    intro j φ x W W' hp hx hb
    match j,hp with
    | 5,hp=>cases hp;exact hx.below hb
    | 6,hp=>cases hp;exact hx.below hb
    | 7,hp=>cases hp;exact hx.below hb
    | 8,hp=>cases hp;exact hx
   simp only[List.take_succ_cons,List.take_zero,List.drop_succ_cons,List.drop_zero]
   repeat (first
    | (refine wpAs_skip rfl ?_;simp only[Act.put,List.setIfInBounds_toArray,List.set_cons_zero,List.set_cons_succ])
    | (refine wpAs_pure (v := ?_) rfl rfl ?_ ?_;rotate_left;(intro W hC hE;clear hE;(obtain⟨⟨⟨k0,k1,k2,k3,_⟩,_⟩,hcw⟩:=KR.out W hC);clear hC;go_simp;done);simp only[Act.put,List.setIfInBounds_toArray,List.set_cons_zero,List.set_cons_succ])
    | (refine wpAs_pure (v := ?_) rfl rfl ?_ ?_;rotate_left;(intro W hC hE;clear hE;(obtain⟨⟨⟨k0,k1,k2,k3,_⟩,_⟩,hcw⟩:=KR.out W hC);clear hC;go_simp;with_reducible rfl);simp only[Act.put,List.setIfInBounds_toArray,List.set_cons_zero,List.set_cons_succ]))
   refine wpAs_act rfl rfl ?_ ?_
   ·intro W hC hE
    clear hE
    refine does_enter (f:=35) (args:=#[.agg #[.slice qa.1 qa.2.1 qa.2.2,.slice qb.1 qb.2.1 qb.2.2,.slice qc.1 qc.2.1 qc.2.2,.slice qd.1 qd.2.1 qd.2.2],.int .i64 k]) ?_ ?_
    ·go_simp
    ·refine(hNd.out _ W hC.size (KR.out W hC).1.2).mono ?_
     rintro e W' ⟨v,rfl,hv,hb⟩
     exact⟨_,rfl,hv,hb⟩
   simp only[Act.put,List.setIfInBounds_toArray,List.set_cons_zero,List.set_cons_succ,envAdd]
   intro x5
   refine wpAs_act rfl rfl ?_ ?_
   ·intro W hC hE
    have h7:=hE.1 rfl
    clear hE hC
    go_simp
    exact⟨h7,Below.refl _ _⟩
   simp only[Act.put,List.setIfInBounds_toArray,List.set_cons_zero,List.set_cons_succ,envAdd]
   intro x6
   refine wpAs_act rfl rfl ?_ ?_
   ·intro W hC hE
    obtain⟨u,c,p,q,d,rfl,hz⟩:=hE.1 rfl
    have hz':=Lib.hid hz
    clear hE hz hC
    go_simp
    exact⟨⟨u,c,rfl,hz'.out⟩,Below.refl _ _⟩
   simp only[Act.put,List.setIfInBounds_toArray,List.set_cons_zero,List.set_cons_succ,envAdd]
   intro x7
   refine wpAs_act rfl rfl ?_ ?_
   ·intro W hC hE
    obtain⟨u,c,p,q,d,rfl,hz⟩:=hE.2.1 rfl
    clear hE hz hC
    go_simp
    exact⟨⟨p,q,d,rfl⟩,Below.refl _ _⟩
   simp only[Act.put,List.setIfInBounds_toArray,List.set_cons_zero,List.set_cons_succ,envAdd]
   intro x8
   refine wpAs_fixed rfl rfl rfl ?_ ?_
   ·intro W hC hE
    obtain⟨u,c,p,q,d,rfl,hz⟩:=hE.2.2.1 rfl
    clear hE hz hC
    go_simp
    exact⟨rfl,Below.refl _ _⟩
   simp only[Act.put,List.setIfInBounds_toArray,List.set_cons_zero,List.set_cons_succ]
   refine wpAs_end fun W hC hE => ?_
   obtain⟨⟨p,q,d,rfl⟩,h7,_⟩:=hE
   obtain⟨u,c,rfl,hu⟩:=h7
   have hw9:w1.heap.size+1<W9.heap.size:=by have:=cnt_lt hE9.out.cnt;omega
   have HU:=Lib.hid (fun p (y:Int) (hy:L[p]? = some y)=>sl_rest hu hw9 hy)
   have EW:=Lib.hid (hE9.out.below (by omega) hC)
   have hCW:=Lib.hid hC
   clear hu hC hw9
   go_upto_region 12 with fail
   go_upto_region 14 with fail
   go_wp2_with fail
   go_loopw [14] (fun iv wz=>∃ (p:Nat) (V':List Int),p≤nl∧iv=.int .i64 (p:Int)∧EnS w1.heap.size w1.heap.size w2 (wantF s held (roots.take (j'+1)) V') V' wz∧Rest w1.heap.size (w1.heap.size+1) W wz∧V'.Nodup∧(∀ n∈V',rmE s n=0)∧∀ n,n∈V'↔n∈V∨n∈L.take p) (fun iv _=>nl-(intOf iv).toNat)
   case atStart=>exact⟨0,V,by omega,rfl,EW.out,rest_refl _ _ _,hVd,hVr.out,fun n=>by simp⟩
   case round =>
    obtain⟨p',V',hp,rfl,hE,hRs,hVd',hVr',hVm'⟩:=hrel
    by_cases hpl:p'<nl
    case neg =>
     obtain rfl:p'=nl:=by omega
     have i9:¬ ((p':Int)<(p':Int)):=by omega
     have eL:L.take p'=L:=List.take_of_length_le (by rw[hnl.out];exact Nat.le_refl _)
     have hfin:Hid (EnS w1.heap.size w1.heap.size w2 (wantF s held (roots.take (j'+1)) V') V' wr∧∀ n,n∈V'↔∃ r∈roots.take (j'+1),n∈nodesO s r):=Lib.hid ⟨hE,fun n=>by
      rw[hVm' n,hVm.out n,eL,← hL.out,markI_in (fun y hy=>by
       have:=node_place ((tree_blk (ck_of (hT.out _ (List.mem_of_getElem? hx.out))).1).node y hy)
       omega),List.take_add_one,hx.out]
      simp only[Option.toList_some,List.mem_append,List.mem_singleton]
      constructor
      ·rintro(⟨r,h1,h2⟩ | h)
       ·exact⟨r,.inl h1,h2⟩
       ·exact⟨_,.inr rfl,h⟩
      ·rintro⟨r,h1 | rfl,h2⟩
       ·exact .inl ⟨r,h1,h2⟩
       ·exact .inr h2⟩
     clear hE hRs hVm'
     go_wp2_with fail
     go_roundw
     case rel=>exact⟨j'+1,V',by omega,by go_num,hfin.out.1,hVd',hfin.out.2⟩
     case measure=>simp[intOf];omega
    obtain⟨y,hy⟩:∃ y,L[p']? = some y:=⟨_,List.getElem?_eq_getElem (by rw[hnl.out];exact hpl)⟩
    have hyr:rmE s y=0:=(tree_blk (ck_of (hT.out _ (List.mem_of_getElem? hx.out))).1).node y (by
     have:=List.mem_of_getElem? hy
     rw[← hL.out,markI_in (fun z hz=>by
      have:=node_place ((tree_blk (ck_of (hT.out _ (List.mem_of_getElem? hx.out))).1).node z hz)
      omega)] at this
     exact this)
    obtain⟨yk,rfl,_,y8,y256,-⟩:=as_read (rm_may hyr).2
    obtain⟨ud,rfl,hud⟩:=HU.out p' _ hy
    have hNo:=Lib.hid (fun v W hlo hW=>node_ph hyr wr.heap.size v W hlo hW)
    have hit5:=(mayN_of (rm_may hyr).1).1.2.2.1
    obtain⟨I,hI⟩:∃ I,(rmV s (yk:Int)).2=I:=⟨_,rfl⟩
    obtain⟨ni,hni⟩:∃ q,I.length=q:=⟨_,rfl⟩
    obtain⟨lv,hlv⟩:∃ q,(rmV s (yk:Int)).1=q:=⟨_,rfl⟩
    rw[hI,hni,hlv] at hNo
    rw[hI,hni] at hit5
    have KN:=Lib.hid (fun W' (hW:Below wr.heap.size wr W')=>And.intro (HS.out W' (hE.low.trans (hW.mono (by have:=SZ.out;have:=hE.low.size;omega)))) (hud W' (rest_trans hRs (rest_below hW))))
    have i4:(p':Int)<(nl:Int):=by omega
    have hcl:w1.heap.size+1<wr.heap.size:=cnt_lt hE.cnt
    have hRs':=Lib.hid hRs
    have hE':=Lib.hid hE
    have hVm2:=Lib.hid hVm'
    have hVr2:=Lib.hid hVr'
    replace hI:=Lib.hid hI
    replace hni:=Lib.hid hni
    replace hy:=Lib.hid hy
    replace hyr:=Lib.hid hyr
    replace hlv:=Lib.hid hlv
    have hud2:=Lib.hid hud
    clear hud hE hRs hVm' hVr'
    go_upto_region 17 with fail
    refine wp_region_late (ops' := ?opsLateb) (by kernel_rfl) [(10,8)] ?heb (by kernel_rfl) (fun d _ _ _ _ h=>by cases d <;> exact h) 10 (fun W=>Below wr.heap.size wr W) (fun i=>match i with
     | 5=>some (fun v W=>PhQ wr.heap.size lv ni I v W)
     | 6=>some (fun v W=>PhQ wr.heap.size lv ni I v W)
     | 7=>some (fun v W=>PhQA wr.heap.size lv ni I v W)
     | 9=>some (fun v W=>∃ g,v=.pointer (some ⟨g,0,none⟩)∧wr.heap.size≤g∧W.heap[g]? = some (.cells #[.int .i64 0,.slice none 0 0] 45 (0,0)))
     | _=>none) (fun i=>match i with
     | 8=>some (.int .i64 0)
     | _=>none) ?h1b ?h2b ?h3b (Below.refl _ _).drew (fun w w' h hb=>h.trans (hb.mono h.size)) ?tstb ?_
    case heb =>
     simp[withEdges]
     rfl
    case h1b=>decide
    case h2b=>kernel_rfl
    case h3b=>kernel_rfl
    case tstb =>
     intro j φ x W W' hp hx hb
     match j,hp with
     | 5,hp=>cases hp;exact hx.below hb
     | 6,hp=>cases hp;exact hx.below hb
     | 7,hp=>cases hp;exact hx.below hb
     | 9,hp=>cases hp;obtain⟨g,e,h1,h2⟩:=hx;exact⟨g,e,h1,(hb.block g (Array.getElem?_eq_some_iff.1 h2).1).trans h2⟩
    simp only[List.take_succ_cons,List.take_zero,List.drop_succ_cons,List.drop_zero]
    repeat (first
     | (refine wpAs_skip rfl ?_;simp only[Act.put,List.setIfInBounds_toArray,List.set_cons_zero,List.set_cons_succ])
     | (refine wpAs_pure (v := ?_) rfl rfl ?_ ?_;rotate_left;(intro W hC hE;clear hE;(obtain⟨⟨⟨k0,k1,k2,k3,_⟩,_⟩,hcw⟩:=KN.out W hC);clear hC;go_simp;done);simp only[Act.put,List.setIfInBounds_toArray,List.set_cons_zero,List.set_cons_succ])
     | (refine wpAs_pure (v := ?_) rfl rfl ?_ ?_;rotate_left;(intro W hC hE;clear hE;(obtain⟨⟨⟨k0,k1,k2,k3,_⟩,_⟩,hcw⟩:=KN.out W hC);clear hC;go_simp;with_reducible rfl);simp only[Act.put,List.setIfInBounds_toArray,List.set_cons_zero,List.set_cons_succ]))
    refine wpAs_act rfl rfl ?_ ?_
    ·intro W hC hE
     clear hE
     refine does_enter (f:=13) (args:=#[.agg #[.slice qa.1 qa.2.1 qa.2.2,.slice qb.1 qb.2.1 qb.2.2,.slice qc.1 qc.2.1 qc.2.2,.slice qd.1 qd.2.1 qd.2.2],.int .i64 yk]) ?_ ?_
     ·go_simp
     ·refine(hNo.out _ W hC.size (KN.out W hC).1.2).mono ?_
      rintro e W' ⟨v,rfl,hv,hb⟩
      exact⟨_,rfl,hv,hb⟩
    simp only[Act.put,List.setIfInBounds_toArray,List.set_cons_zero,List.set_cons_succ,envAdd]
    intro v5
    refine wpAs_act rfl rfl ?_ ?_
    ·intro W hC hE
     have h7:=hE.1 rfl
     clear hE hC
     go_simp
     exact⟨h7,Below.refl _ _⟩
    simp only[Act.put,List.setIfInBounds_toArray,List.set_cons_zero,List.set_cons_succ,envAdd]
    intro v6
    refine wpAs_act rfl rfl ?_ ?_
    ·intro W hC hE
     obtain⟨A,c,rfl,hz⟩:=hE.1 rfl
     have hz':=Lib.hid hz
     clear hE hz hC
     go_simp
     exact⟨⟨A,c,rfl,hz'.out⟩,Below.refl _ _⟩
    simp only[Act.put,List.setIfInBounds_toArray,List.set_cons_zero,List.set_cons_succ,envAdd]
    intro v7
    refine wpAs_fixed rfl rfl rfl ?_ ?_
    ·intro W hC hE
     obtain⟨A,c,rfl,hz⟩:=hE.2.1 rfl
     clear hE hz hC
     go_simp
     exact⟨rfl,Below.refl _ _⟩
    simp only[Act.put,List.setIfInBounds_toArray,List.set_cons_zero,List.set_cons_succ]
    refine wpAs_act rfl rfl ?_ ?_
    ·intro W hC hE
     have hs:=hC.size
     clear hE hC
     go_simp
     exact⟨⟨W.heap.size,rfl,hs,heap_alloc_new _ _⟩,(Below.refl _ _).alloc (Nat.le_refl _) _⟩
    simp only[Act.put,List.setIfInBounds_toArray,List.set_cons_zero,List.set_cons_succ,envAdd]
    intro v9
    refine wpAs_end fun W2 hC hE => ?_
    obtain⟨⟨g,rfl,hg,hz⟩,h7,_⟩:=hE
    obtain⟨A,c,rfl,hrw⟩:=h7
    obtain⟨u0,u1,uf,_⟩:=two_cells hz
    obtain⟨w5,hW5,g5,gr5,gs5⟩:=put_two (u:=.int .i64 lv) (v:=.slice A ni c) hz
    have E5:=Lib.hid ((hE'.out.below (by omega) hC).box (Nat.le_refl _) (by omega) gr5)
    have R5:=Lib.hid (rest_grown (rest_trans hRs'.out (rest_below hC)) gr5 (by have:=hRs'.out.1;omega))
    have HI:=Lib.hid (fun q (z:It) (hq:I[q]? = some z)=>row_refs hrw hcl hz (by decide) gr5 hq)
    have KG:=Lib.hid (fun W' (hW:Rest w1.heap.size (w1.heap.size+1) w5 W')=>two_cells (rest_cells hW g5 (by omega) (by omega)))
    have KS:=Lib.hid (fun W' (hW:Rest w1.heap.size (w1.heap.size+1) w5 W')=>hud2.out W' (rest_trans R5.out hW))
    have g5':=Lib.hid g5
    replace hz:=Lib.hid hz
    clear hC hg hrw gr5 gs5 g5
    go_upto_region 18 with fail
    clear hW5 u0 u1 uf
    go_upto_region 20 with fail
    by_cases hmet:(yk:Int)∈V'
    ·have hbt:inB V' yk=true:=decide_eq_true hmet
     obtain⟨m0,m1,mf,_⟩:=KG.out w5 (rest_refl _ _ _)
     have hud5:=KS.out w5 (rest_refl _ _ _)
     have hcell:=bits_cell E5.out.bits y256
     rw[hbt] at hcell
     have hfrz:=bits_frz E5.out.bits yk
     obtain⟨W6,hW6⟩:∃ W6,w5.setCell ⟨w1.heap.size,yk,none⟩ (.bool true)=W6:=⟨_,rfl⟩
     have E6:Hid (EnS w1.heap.size w1.heap.size w2 (wantF s held (roots.take (j'+1)) V') V' W6):=Lib.hid (by
      have:=(E5.out.met (Nat.le_refl _) yk).same (V':=V') (fun k=>by
       simp only[List.mem_append,List.mem_singleton]
       exact⟨fun h=>h.elim id (fun e=>e ▸ hmet),.inl⟩)
      rwa [hW6] at this)
     have R6:=Lib.hid (hW6 ▸ rest_trans R5.out (rest_put (.inl rfl) yk (.bool true)):Rest w1.heap.size (w1.heap.size+1) W W6)
     have hVn:Hid (∀ n,n∈V'↔n∈V∨n∈L.take (p'+1)):=Lib.hid (fun n=>by
      rw[List.take_add_one,hy.out,Option.toList_some,List.mem_append,List.mem_singleton,← or_assoc,← hVm2.out n]
      exact⟨.inl,fun h=>h.elim id (fun e=>e ▸ hmet)⟩)
     go_wp2_with fail
     go_loopw [17] (fun iv wz=>iv=.int .i64 0∧wz=w5) (fun _ _=>0)
     case atStart=>exact⟨rfl,rfl⟩
     case round =>
      obtain⟨rfl,rfl⟩:=hrel
      by_cases hn0:0<ni
      ·have i5:(0:Int)<(ni:Int):=by omega
       go_wp2_with fail
       go_roundw
       case rel=>exact⟨p'+1,V',by omega,by go_num,E6.out,R6.out,hVd',hVr2.out,hVn.out⟩
       case measure=>simp[intOf];omega
      ·have i5:¬ ((0:Int)<(ni:Int)):=by omega
       go_wp2_with fail
       go_roundw
       case rel=>exact⟨p'+1,V',by omega,by go_num,E6.out,R6.out,hVd',hVr2.out,hVn.out⟩
       case measure=>simp[intOf];omega
    ·have hbt:inB V' yk=false:=decide_eq_false hmet
     go_wp2_with fail
     go_loopw [17] (fun iv wz=>∃ (q:Nat),q≤ni∧iv=.int .i64 (q:Int)∧EnS w1.heap.size w1.heap.size w2 (wantN s held (roots.take (j'+1)) V' I q) V' wz∧Rest w1.heap.size (w1.heap.size+1) w5 wz) (fun iv _=>ni-(intOf iv).toNat)
     case atStart=>exact⟨0,by omega,rfl,by rw[wantN_zero];exact E5.out,rest_refl _ _ _⟩
     case round =>
      obtain⟨q,hq,rfl,hEq,hRq⟩:=hrel
      obtain⟨m0,m1,mf,_⟩:=KG.out _ hRq
      have hudq:=KS.out _ hRq
      by_cases hqn:q<ni
      case neg =>
       obtain rfl:q=ni:=by omega
       have i5:¬ ((q:Int)<(q:Int)):=by omega
       have hcell:=bits_cell hEq.bits y256
       rw[hbt] at hcell
       have hfrz:=bits_frz hEq.bits yk
       obtain⟨W6,hW6⟩:∃ W6,wr.setCell ⟨w1.heap.size,yk,none⟩ (.bool true)=W6:=⟨_,rfl⟩
       have E6:Hid (EnS w1.heap.size w1.heap.size w2 (wantF s held (roots.take (j'+1)) (V'++[(yk:Int)])) (V'++[(yk:Int)]) W6):=Lib.hid (by
        have:=hEq.met (Nat.le_refl _) yk
        rw[← hI.out,wantN_all (by rw[hI.out,hni.out];exact Nat.le_refl _),hW6] at this
        exact this)
       have R6:=Lib.hid (hW6 ▸ rest_trans (rest_trans R5.out hRq) (rest_put (.inl rfl) yk (.bool true)):Rest w1.heap.size (w1.heap.size+1) W W6)
       have hVn:Hid (∀ n,n∈V'++[(yk:Int)]↔n∈V∨n∈L.take (p'+1)):=Lib.hid (fun n=>by
        rw[List.take_add_one,hy.out,Option.toList_some,List.mem_append,List.mem_append,← or_assoc,← hVm2.out n])
       have hVd6:Hid ((V'++[(yk:Int)]).Nodup):=Lib.hid (by
        rw[List.nodup_append]
        exact⟨hVd',by simp,fun a ha b hb e=>hmet (by rw[List.mem_singleton.1 hb] at e;exact e ▸ ha)⟩)
       have hVr6:Hid (∀ n∈V'++[(yk:Int)],rmE s n=0):=Lib.hid (fun n hn=>by
        rcases List.mem_append.1 hn with hn | hn
        ·exact hVr2.out n hn
        ·rw[List.mem_singleton.1 hn];exact hyr.out)
       clear hEq hRq
       go_wp2_with fail
       go_roundw
       case rel=>exact⟨p'+1,V'++[(yk:Int)],by omega,by go_num,E6.out,R6.out,hVd6.out,hVr6.out,hVn.out⟩
       case measure=>simp[intOf];omega
      obtain⟨z,hz⟩:∃ z,I[q]? = some z:=⟨_,List.getElem?_eq_getElem (by rw[hni.out];exact hqn)⟩
      obtain⟨ad5,rfl,hcz⟩:=HI.out q z hz
      have hcz':=hcz _ hRq
      have hrz:=refs_may (rm_may hyr.out).1 z (by rw[hI.out];exact List.mem_of_getElem? hz)
      obtain⟨rk,hrk⟩:∃ rk:Nat,z.2.1=(rk:Int):=⟨z.2.1.toNat,by omega⟩
      have r256:rk<256:=by omega
      rw[hrk] at hcz'
      have hbc:=bits_cell hEq.bits y256
      rw[hbt] at hbc
      have hcell:=cnt_cell hEq.cnt r256
      have hfrz:=cnt_frz hEq.cnt rk
      have hle:=want_few (held:=held) (pre:=roots.take (j'+1)) (by rw[LH.out];omega) (by rw[List.length_take,LR.out];omega) hVd' hVr2.out rk
      have hle2:=refC_len rk (I.take q)
      rw[List.length_take] at hle2
      obtain⟨mm,hmm⟩:∃ mm,cntL held rk+cntL (roots.take (j'+1)) rk+sumC s V' rk+refC (I.take q) rk=mm:=⟨_,rfl⟩
      have hval:wantN s held (roots.take (j'+1)) V' I q rk=(mm:Int):=by unfold wantN wantF;omega
      rw[hval] at hcell
      have i5:(q:Int)<(ni:Int):=by omega
      have iw2:IntKind.i64.wrap ((mm:Int)+1)=(mm:Int)+1:=by rw[IntKind.wrap_i64];omega
      obtain⟨W6,hW6⟩:∃ W6,wr.setCell ⟨w1.heap.size+1,rk,none⟩ (.int .i64 ((mm:Int)+1))=W6:=⟨_,rfl⟩
      have E6:Hid (EnS w1.heap.size w1.heap.size w2 (wantN s held (roots.take (j'+1)) V' I (q+1)) V' W6):=Lib.hid (by
       have:=hEq.up (Nat.le_refl _) rk
       have e:=wantN_up (s:=s) (held:=held) (pre:=roots.take (j'+1)) (V:=V') hz (by omega)
       rw[hrk,show ((rk:Int)).toNat=rk by omega] at e
       rw[hval,hW6,e] at this
       exact this)
      have R6:=Lib.hid (hW6 ▸ rest_trans hRq (rest_put (.inr rfl) rk (.int .i64 ((mm:Int)+1))):Rest w1.heap.size (w1.heap.size+1) w5 W6)
      replace hmm:=Lib.hid hmm
      replace hz:=Lib.hid hz
      clear hEq hRq hcz hle hle2 hval hrz
      go_wp2_with fail
      go_roundw
      case rel=>exact⟨q+1,by omega,by go_num,E6.out,R6.out⟩
      case measure=>simp[intOf];omega
end Go.Proofs.YtogieepfimpdmaaGreat
/-
 Literal rows of numbers,as the laws of layer 12 hand them on. Conditions: those that each lemma states.
-/
namespace Go.Proofs.YtogieepfimpdmaaGreat
open Go.RowKit
theorem lit_ints {w:World} {g:Nat} {l:List Int} (hg:w.heap[g]? = some (.cells (l.map fun n=>Value.int .i64 n).toArray 3 (0,0))) (hl:∀ n∈l,In64 n) (hn:l.length<1000):rSl 1 (rK .i64) (Old w) w [.slice (some ⟨g,0,none⟩) l.length l.length] l:=by
 have hlt:=(Array.getElem?_eq_some_iff.1 hg).1
 refine⟨some ⟨g,0,none⟩,l.length,rfl,by omega,by omega,fun i x hx=>⟨⟨g,0,none⟩,[.int .i64 x],rfl,rfl,fun j u hj => ?_,rI64_mk (hl x (List.mem_of_getElem? hx))⟩⟩
 have hj0:j=0:=by
  have:=(List.getElem?_eq_some_iff.1 hj).1
  simp at this
  exact this
 subst hj0
 cases hj
 refine⟨by unfold Old;rw[add_block];exact hlt,?_⟩
 have e:(⟨g,0,none⟩:Addr).add (i*1+0)=⟨g,i,none⟩:=by simp[Addr.add];omega
 rw[e]
 simp[World.cell?,hg,hx]
theorem two_ints {w:World} {g:Nat} {a b:Int} (hg:w.heap[g]? = some (.cells #[.int .i64 a,.int .i64 b] 3 (0,0))) (ha:In64 a) (hb:In64 b):rSl 1 (rK .i64) (Old w) w [.slice (some ⟨g,0,none⟩) 2 2] [a,b] :=
 lit_ints (l:=[a,b]) hg (fun n hn=>by
  simp only[List.mem_cons,List.not_mem_nil,or_false] at hn
  rcases hn with rfl | rfl <;> assumption) (by simp)
theorem one_held {w:World} (g:Nat) (a:Int) (m:Nat) (hg:w.heap[g]? = some (.cells #[.int .i64 a] 3 (0,0))) (ha:In64 a) :
  ∃ A' c' w',(Builtin.append_ #[52,52] 52 #[.slice none 0 0,.slice (some ⟨g,0,none⟩) 1 m]).run Tryz.prog w=.ok (.slice A' 1 c') w'∧rSl 1 (rK .i64) (Old w') w' [.slice A' 1 c'] [a]∧Below w.heap.size w w':=by
 obtain⟨A',c',w',h1,h2,_,h4⟩:=ints_push (lo:=w.heap.size) (A:=none) (c:=0) (xs:=[]) (RowOf.nil _ _ _ _ _) g a m hg (by simp) (Nat.le_refl _) ha
 exact⟨A',c',w',h1,stab_sl (stab_k _) _ _ _ _ _ _ (fun p v hp hc=>⟨hp.2.1,hc⟩) (h2.rel (stab_k _)),h4⟩
end Go.Proofs.YtogieepfimpdmaaGreat
