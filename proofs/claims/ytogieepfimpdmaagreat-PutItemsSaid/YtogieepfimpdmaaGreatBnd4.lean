/-
  Lemmas on the program and on the document's answers, gathered: DrHold, RmRefT, DrMake, DrRefer, DrRefs, DrRefs2, DrLower, DrGo, DrGo2, DrMk, DrLaw, PuLay, WkTold, PuBack, WkWalk, WkOrd, WkPush, FnHeld, FnChain, FnEnds, FnStands, WkIter, WkRange, PuParts, PuGrow. Conditions: those that each lemma states.
-/
import Derived.Test.YtogieepfimpdmaaGreatBnd3
import Derived.RangeFuncNested
/-
 Package drop: checkHeld,read. Conditions: those that each lemma states.
-/
namespace Go.Proofs.YtogieepfimpdmaaGreat
open Go.RowKit
set_option maxRecDepth 100000 in
set_option maxHeartbeats 4000000 in
theorem heldD_any (v:Value) (s:Rm) (n:Int) (w:World) (h:Sto (Old w) w v s):Calls Tryz.prog 72 #[v,.int .i64 n] w fun e w'=>e=.returned (.int .i64 (asE s n))∧Below w.heap.size w w':=by
 obtain⟨A,ca,B,cb,N,cn,L,cl,w1,rfl,hw1,f,hsz,hB,_,NN,_⟩:=box_sto h
 have H:=Lib.hid (h.below hB)
 clear h
 obtain⟨k0,k1,k2,k3,_,kg⟩:=four_cells f
 replace hsz:=Lib.hid hsz
 rcases as_ways s n with ⟨hm,he⟩ | ⟨hm,hn,he⟩ | ⟨k,hm,rfl,h8,h256,hx,he⟩ | ⟨k,hm,rfl,h8,h256,hx,he⟩
 ·replace he:=Lib.hid he
  have e1:=chkR_bad hm
  go_enter Tryz.func72,Tryz.ntmps72
  go_upto_region 1 with fail
  clear hw1
  go_wp2_with fail
  with_reducible refine(checkR_any _ s _ H.out).mono ?_
  rintro e w2 ⟨rfl,hb2⟩
  rw[e1]
  replace hb2:=Lib.hid (hB.trans (hb2.mono hB.size))
  go_wp2_with fail
  go_ret
  exact⟨ret_int he.out.symm,hb2.out⟩
 ·replace he:=Lib.hid he
  have e1:=chkR_ok hm
  by_cases h8:n<8
  ·clear hn
   go_enter Tryz.func72,Tryz.ntmps72
   go_upto_region 1 with fail
   clear hw1
   go_wp2_with fail
   with_reducible refine(checkR_any _ s _ H.out).mono ?_
   rintro e w2 ⟨rfl,hb2⟩
   rw[e1]
   replace hb2:=Lib.hid (hB.trans (hb2.mono hB.size))
   go_wp2_with fail
   go_ret
   exact⟨ret_int he.out.symm,hb2.out⟩
  ·have h9:256≤n:=by omega
   clear hn
   go_enter Tryz.func72,Tryz.ntmps72
   go_upto_region 1 with fail
   clear hw1
   go_wp2_with fail
   with_reducible refine(checkR_any _ s _ H.out).mono ?_
   rintro e w2 ⟨rfl,hb2⟩
   rw[e1]
   replace hb2:=Lib.hid (hB.trans (hb2.mono hB.size))
   go_wp2_with fail
   go_ret
   exact⟨ret_int he.out.symm,hb2.out⟩
 all_goals
  replace he:=Lib.hid he
  have e1:=chkR_ok hm
  have hlen:=mayT_len (mayR_of hm).2.1
  obtain⟨A',c',e2,l1,m1,hby⟩:=rBy_byt (B:=w1.heap.size) (fun _ h=>h) NN.out
  cases e2
  obtain⟨ad,rfl,hbk,hc⟩:=hby (by omega)
  have hcell:=hc k (by omega)
  replace hbk:(ad.add k).block<w1.heap.size:=by rw[add_block];exact hbk
  obtain⟨x,hx2⟩:∃ x,s.2.1[k]?.getD 0=x:=⟨_,rfl⟩
  rw[hx2] at hcell hx
  have hlt:k<s.2.1.length:=by omega
  first
   | have t0:=byte_same (y:=0) (q:=0) rfl hx
   | have t0:=byte_unlike (y:=0) (q:=0) rfl hx
  have i1:¬ (k:Int)<8:=by omega
  have i2:¬ 256≤(k:Int):=by omega
  replace hx2:=Lib.hid hx2
  replace hx:=Lib.hid hx
  replace hlen:=Lib.hid hlen
  clear hc hby
  go_enter Tryz.func72,Tryz.ntmps72
  go_upto_region 1 with fail
  clear hw1
  go_wp2_with fail
  with_reducible refine(checkR_any _ s _ H.out).mono ?_
  rintro e w2 ⟨rfl,hb2⟩
  rw[e1]
  replace k2:=(hb2.cell (p:=⟨w.heap.size,2,none⟩) kg).trans k2
  replace hcell:=(hb2.cell hbk).trans hcell
  replace hb2:=Lib.hid (hB.trans (hb2.mono hB.size))
  go_wp2_with fail
  go_ret
  exact⟨ret_int he.out.symm,hb2.out⟩
theorem box_rd (w:World) (a b c d e f:Value):∃ w1,((w.alloc (.cells #[a,b,c,d] 29)).alloc (.cells #[e,f] 104)).alloc (.cells #[.int .i64 0,.slice none 0 0] 45)=w1 ∧
  w1.heap[w.heap.size]? = some (.cells #[a,b,c,d] 29 (0,0))∧w1.heap[w.heap.size+1]? = some (.cells #[e,f] 104 (0,0))∧w1.heap[w.heap.size+2]? = some (.cells #[.int .i64 0,.slice none 0 0] 45 (0,0))∧w1.heap.size=w.heap.size+3∧Below w.heap.size w w1:=by
 refine⟨_,rfl,alloc_block (alloc_block (heap_alloc_new _ _)),alloc_block ?_,?_,by simp,(((Below.refl _ w).alloc (Nat.le_refl _) _).alloc (by simp) _).alloc (by simp;omega) _⟩
 ·have:=heap_alloc_new (w.alloc (.cells #[a,b,c,d] 29)) (.cells #[e,f] 104)
  rwa [World.size_alloc] at this
 ·have:=heap_alloc_new ((w.alloc (.cells #[a,b,c,d] 29)).alloc (.cells #[e,f] 104)) (.cells #[.int .i64 0,.slice none 0 0] 45)
  rwa [World.size_alloc,World.size_alloc] at this
def RdP (s:Rm) (k:Nat) (lv:Int) (w w':World) (e:Ending):Prop:=∃ (u:Value) (q:Int) (nd:Nd),e=.returned (.tuple #[u,.int .i64 q])∧((Rdn s.1 lv k∧q=0∧nd=reV (seenD s.1 k))∨(¬ Rdn s.1 lv k∧q=8∧nd=zeroN))∧Nod (New w.heap.size w') w' u nd∧Below w.heap.size w w'
set_option maxRecDepth 100000 in
set_option maxHeartbeats 4000000 in
theorem readD_any (v:Value) (s:Rm) (k:Nat) (lv:Int) (ha:asE s k=0) (w:World) (h:Sto (Old w) w v s) :
  Calls Tryz.prog 96 #[v,.agg #[.int .i64 k,.int .i64 lv]] w fun e w'=>RdP s k lv w w' e:=by
 obtain⟨A,ca,B,cb,N,cn,L,cl,rfl,_,_,_⟩:=h.open
 obtain⟨w1,hw1,f1,f2,f3,hsz,hB⟩:=box_rd w (.slice A s.1.1.length ca) (.slice B s.1.2.length cb) (.slice N s.2.1.length cn) (.slice L s.2.2.length cl) (.int .i64 k) (.int .i64 lv)
 have H:=Lib.hid (h.below hB)
 clear h
 obtain⟨k0,k1,k2,k3,_,kg⟩:=four_cells f1
 obtain⟨j0,j1,_,jg⟩:=two_cells f2
 obtain⟨k',e',_,_,_,_,_,hE,hV,-⟩:=as_read ha
 have hkk:k'=k:=by omega
 subst hkk
 clear e'
 obtain⟨b,hb⟩:∃ b,seenD s.1 k'=b:=⟨_,rfl⟩
 rw[hb] at hE hV
 obtain⟨q,hq⟩:∃ q,reN b=q:=⟨_,rfl⟩
 obtain⟨nd,hnd⟩:∃ nd,reV b=nd:=⟨_,rfl⟩
 rw[hq] at hE
 rw[hnd] at hV
 obtain⟨lw,hlw⟩:∃ q,nd.1=q:=⟨_,rfl⟩
 have hR:Hid (Rdn s.1 lv k'↔(q=0∧(lv=6∨lw=lv))):=Lib.hid (by unfold Rdn;rw[hb,hq,hnd,hlw])
 have hND:Hid (nd=reV (seenD s.1 k')):=Lib.hid (by rw[hb,hnd])
 replace hsz:=Lib.hid hsz
 replace f3:=Lib.hid f3
 replace hb:=Lib.hid hb
 replace hq:=Lib.hid hq
 replace hnd:=Lib.hid hnd
 replace hE:=Lib.hid hE
 replace hV:=Lib.hid hV
 clear f1 ha
 go_enter Tryz.func96,Tryz.ntmps96
 go_upto_region 1 with fail
 clear hw1
 go_wp2_with fail
 with_reducible refine(nodeR_any _ s (k':Int) _ H.out).mono ?_
 rintro e w2 ⟨u,rfl,hu,hb2⟩
 rw[hE.out]
 rw[hV.out] at hu
 obtain⟨P,pc,rfl,_⟩:=id hu.open
 rw[hlw]
 obtain⟨w3,hw3,g3,hs3,hb3⟩:=box_pair' w2 (.int .i64 lw) (.slice P nd.2.length pc) 45
 have F3:=(hb3.block (w.heap.size+2) (by have:=hb2.size;have:=hsz.out;omega)).trans ((hb2.block (w.heap.size+2) (by have:=hsz.out;omega)).trans f3.out)
 have G2:=(hb3.block (w.heap.size+1) (by have:=hb2.size;have:=hsz.out;omega)).trans ((hb2.block (w.heap.size+1) (by have:=hsz.out;omega)).trans f2)
 obtain⟨m0,m1,_,_⟩:=two_cells g3
 obtain⟨n0,n1,_,_⟩:=two_cells G2
 obtain⟨x0,x1,x2,_⟩:=two_cells F3
 have B3:=Lib.hid (hB.trans ((hb2.trans (hb3.mono hb2.size)).mono hB.size))
 have U3:=Lib.hid (hu.new (Nat.le_refl _) hb3)
 have s3:Hid (w.heap.size+3≤w1.heap.size):=Lib.hid (by have:=hsz.out;omega)
 rw[hlw] at U3
 clear hu hb2 hb3 hB k0 k1 k2 k3 kg j0 j1 jg f2
 replace hs3:=Lib.hid hs3
 replace g3:=Lib.hid g3
 replace G2:=Lib.hid G2
 go_upto_region 2 with fail
 clear hw3
 by_cases hok:q=0∧(lv=6∨lw=lv)
 ·obtain⟨W9,hW9,g9,gr9,gs9⟩:=put_two (u:=.int .i64 lw) (v:=.slice P nd.2.length pc) F3
  obtain⟨o0,o1,_,_⟩:=two_cells g9
  have hfin:=Lib.hid (show Nod (New w.heap.size W9) W9 (.agg #[.int .i64 lw,.slice P nd.2.length pc]) nd from
   (U3.out.grown gr9 (fun q e=>by cases e;have:=s3.out;omega)).new (by have:=s3.out;omega) (Below.refl _ _))
  have hB9:=Lib.hid (B3.out.grown gr9 B3.out.size (fun q e=>by cases e;omega))
  have hq0:=hok.1
  have hok':=Lib.hid hok
  subst hq0
  replace F3:=Lib.hid F3
  replace g9:=Lib.hid g9
  clear gr9 gs9
  by_cases h6:lv=6
  ·have c1:(lv != 6)=false:=by simp[h6]
   clear hok h6
   go_wp2_with fail
   refine bodyPost_ret (v:=.tuple #[.agg #[.int .i64 lw,.slice P nd.2.length pc],.int .i64 0]) (by simp[results,Tryz.results96,go_sem,o0,o1]) rfl ?_
   exact⟨_,0,nd,rfl,.inl ⟨hR.out.2 hok'.out,rfl,hND.out⟩,hfin.out,hB9.out⟩
  ·have c1:(lv != 6)=true:=by simpa using h6
   have c2:(lw != lv)=false:=by
    rcases hok.2 with h | h
    ·exact absurd h h6
    ·simp[h]
   clear hok
   go_wp2_with fail
   refine bodyPost_ret (v:=.tuple #[.agg #[.int .i64 lw,.slice P nd.2.length pc],.int .i64 0]) (by simp[results,Tryz.results96,go_sem,o0,o1]) rfl ?_
   exact⟨_,0,nd,rfl,.inl ⟨hR.out.2 hok'.out,rfl,hND.out⟩,hfin.out,hB9.out⟩
 ·obtain⟨W9,hW9,g9,gr9,gs9⟩:=put_two (u:=.int .i64 0) (v:=.slice none 0 0) F3
  obtain⟨o0,o1,_,_⟩:=two_cells g9
  have hfin:=Lib.hid (nod_zero (New w.heap.size W9) W9)
  have hB9:=Lib.hid (B3.out.grown gr9 B3.out.size (fun q e=>by cases e;omega))
  have hok':=Lib.hid hok
  replace F3:=Lib.hid F3
  replace g9:=Lib.hid g9
  clear gr9 gs9
  by_cases hq0:q=0
  ·have c1:(lv != 6)=true:=by
    have:¬ lv=6:=fun h=>hok ⟨hq0,.inl h⟩
    simpa using this
   have c2:(lw != lv)=true:=by
    have:¬ lw=lv:=fun h=>hok ⟨hq0,.inr h⟩
    simpa using this
   clear hok
   subst hq0
   go_wp2_with fail
   refine bodyPost_ret (v:=.tuple #[.agg #[.int .i64 0,.slice none 0 0],.int .i64 8]) (by simp[results,Tryz.results96,go_sem,o0,o1]) rfl ?_
   exact⟨_,8,zeroN,rfl,.inr ⟨fun h=>hok'.out (hR.out.1 h),rfl,rfl⟩,hfin.out,hB9.out⟩
  ·have c0:(q != 0)=true:=by simpa using hq0
   clear hok
   go_wp2_with fail
   refine bodyPost_ret (v:=.tuple #[.agg #[.int .i64 0,.slice none 0 0],.int .i64 8]) (by simp[results,Tryz.results96,go_sem,o0,o1]) rfl ?_
   exact⟨_,8,zeroN,rfl,.inr ⟨fun h=>hok'.out (hR.out.1 h),rfl,rfl⟩,hfin.out,hB9.out⟩
end Go.Proofs.YtogieepfimpdmaaGreat
/-
 The document's answers of layer 8: Taken. Conditions: those that each lemma states.
-/
namespace Go.Proofs.YtogieepfimpdmaaGreat
open Go.RowKit
def Off (g:Nat) (w:World):Addr→Prop:=fun p=>p.block<w.heap.size∧p.block≠g
theorem off_put {g:Nat} {W W1:World} {p:Addr} {v:Value} (gr:W.grownBy W1 (some g)) (hp:Off g W p) (hc:W.cell? p=some v):Off g W1 p∧W1.cell? p=some v :=
 ⟨⟨Nat.lt_of_lt_of_le hp.1 gr.size,hp.2⟩,(World.cell?_of_block (gr.block _ hp.1 (by simpa using hp.2))).trans hc⟩
theorem off_below {g:Nat} {W W1:World} {p:Addr} {v:Value} (hb:Below W.heap.size W W1) (hp:Off g W p) (hc:W.cell? p=some v):Off g W1 p∧W1.cell? p=some v :=
 ⟨⟨Nat.lt_of_lt_of_le hp.1 hb.size,hp.2⟩,(hb.cell hp.1).trans hc⟩
theorem off_low {g:Nat} {w W:World} {p:Addr} {v:Value} (hb:Below w.heap.size w W) (hg:w.heap.size≤g) (hp:Old w p) (hc:w.cell? p=some v):Off g W p∧W.cell? p=some v :=
 ⟨⟨Nat.lt_of_lt_of_le hp hb.size,fun e=>by have h:p.block<w.heap.size:=hp;omega⟩,(hb.cell hp).trans hc⟩
theorem off_old {g:Nat} {W:World} {p:Addr} {v:Value} (hp:Off g W p) (hc:W.cell? p=some v):Old W p∧W.cell? p=some v:=⟨hp.1,hc⟩
end Go.Proofs.YtogieepfimpdmaaGreat
/-
 The document's answers of layer 9: Counted,Made,Make. Conditions: those that each lemma states.
-/
namespace Go.Proofs.YtogieepfimpdmaaGreat
open Go.RowKit
theorem ct_split {l:List It} {i:Nat} {x:It} {t:List UInt8} (h:ctE t (l.take i)=0) (hx:l[i]? = some x):ctE t l=ctE (ctV t (l.take i)) (x::l.drop (i+1)):=by
 have hk:=(List.getElem?_eq_some_iff.1 hx).1
 have hg:l[i]=x:=(List.getElem?_eq_some_iff.1 hx).2
 have e:l=l.take i++x::l.drop (i+1):=by rw[← hg,List.getElem_cons_drop,List.take_append_drop]
 have:ctE t l=ctE t (l.take i++x::l.drop (i+1)):=by rw[← e]
 rw[this,ctE_app,if_pos h]
theorem ct_next {l:List It} {i:Nat} {x:It} {t:List UInt8} (h:ctE t (l.take i)=0) (hx:l[i]? = some x):ctE t (l.take (i+1))=ctE (ctV t (l.take i)) [x]∧ctV t (l.take (i+1))=ctV (ctV t (l.take i)) [x]:=by
 have hk:=(List.getElem?_eq_some_iff.1 hx).1
 have hg:l[i]=x:=(List.getElem?_eq_some_iff.1 hx).2
 rw[← List.take_append_getElem hk,ctE_app,ctV_app,if_pos h,hg]
 exact⟨rfl,rfl⟩
theorem box_three3 {w:World} (a b c d e f:Value):∃ w1,((w.alloc (.cells #[a,b,c,d] 29)).alloc (.cells #[e,f] 45)).alloc (.cells #[.slice none 0 0,.slice none 0 0,.slice none 0 0,.slice none 0 0] 29)=w1 ∧
  w1.heap[w.heap.size]? = some (.cells #[a,b,c,d] 29 (0,0))∧w1.heap[w.heap.size+1]? = some (.cells #[e,f] 45 (0,0))∧w1.heap[w.heap.size+2]? = some (.cells #[.slice none 0 0,.slice none 0 0,.slice none 0 0,.slice none 0 0] 29 (0,0))∧w1.heap.size=w.heap.size+3∧Below w.heap.size w w1:=by
 refine⟨_,rfl,alloc_block (alloc_block (heap_alloc_new _ _)),alloc_block ?_,?_,by simp,(((Below.refl _ w).alloc (Nat.le_refl _) _).alloc (by simp) _).alloc (by simp;omega) _⟩
 ·have:=heap_alloc_new (w.alloc (.cells #[a,b,c,d] 29)) (.cells #[e,f] 45)
  rwa [World.size_alloc] at this
 ·have:=heap_alloc_new ((w.alloc (.cells #[a,b,c,d] 29)).alloc (.cells #[e,f] 45)) (.cells #[.slice none 0 0,.slice none 0 0,.slice none 0 0,.slice none 0 0] 29)
  rwa [World.size_alloc,World.size_alloc] at this
theorem mk_ways {s:Rm} {n:Nd} (hm:mayR s=true) (hn:mayN n=true):(ctE s.2.1 n.2≠0∧mkE s n=ctE s.2.1 n.2∧mkN s n=0∧mkV s n=emptyR)∨(ctE s.2.1 n.2=0∧mkE s n=tkE (ctS s n) (blkN n)∧mkN s n=tkN (ctS s n) (blkN n)∧mkV s n=tkV (ctS s n) (blkN n)):=by
 by_cases hc:ctE s.2.1 n.2=0
 ·have e:mkE s n=tkE (ctS s n) (blkN n):=by simp[mkE,hm,hn,hc]
  refine .inr ⟨hc,e,?_,?_⟩
  ·by_cases h:mkE s n=0
   ·rw[mkN,if_pos h]
   ·rw[mkN,if_neg h,(tk_no (by rw[← e];exact h)).1]
  ·by_cases h:mkE s n=0
   ·rw[mkV,if_pos h]
   ·rw[mkV,if_neg h,(tk_no (by rw[← e];exact h)).2]
 ·have e:mkE s n=ctE s.2.1 n.2:=by simp[mkE,hm,hn,hc]
  have h:mkE s n≠0:=by rw[e];exact hc
  exact .inl ⟨hc,e,(mk_no h).1,(mk_no h).2⟩
end Go.Proofs.YtogieepfimpdmaaGreat
/-
 Package drop: refer,which counts all Refs of a node in a table of the caller's own. Conditions: those that each lemma states.
-/
namespace Go.Proofs.YtogieepfimpdmaaGreat
open Go.RowKit
theorem grow_of {a b:World} {row:Option Nat} (h:Below a.heap.size a b):a.grownBy b row:=grow_later (grow_refl a row) h
set_option maxRecDepth 100000 in
set_option maxHeartbeats 8000000 in
theorem refer_any (g c lo:Nat) (t0:List UInt8) (u:Value) (n:Nd) (hn:mayN n=true) (hl0:t0.length=256) (w:World) (hown:w.ownsRow lo 5 1 (.slice (some ⟨g,0,none⟩) 256 c) 256 (u8s t0)) (hu:Nod (Off g w) w u n) :
  Calls Tryz.prog 65 #[.slice (some ⟨g,0,none⟩) 256 c,u] w fun e w'=>e=.returned (.int .i64 (ctE t0 n.2))∧w.grownBy w' (some g)∧(ctE t0 n.2=0→w'.ownsRow lo 5 1 (.slice (some ⟨g,0,none⟩) 256 c) 256 (u8s (ctV t0 n.2))):=by
 obtain⟨I,ci,rfl,_,_,_,hI⟩:=hu.open
 obtain⟨lw,hlw⟩:∃ q,n.1=q:=⟨_,rfl⟩
 obtain⟨l,hl⟩:∃ q,n.2=q:=⟨_,rfl⟩
 obtain⟨m,hlm⟩:∃ q,l.length=q:=⟨_,rfl⟩
 have hrf:=Lib.hid (refs_may hn)
 obtain⟨⟨_,_,s3,_⟩,_⟩:=mayN_of hn
 rw[hl,hlm] at s3 hI
 rw[hl] at hrf ⊢
 rw[hlw,hlm]
 have hg0:g<w.heap.size:=((hown.lt g rfl).2)
 obtain⟨w1,hw1,b1,hs1,hB1⟩:=box_pair' w (.int .i64 lw) (.slice I m ci) 45
 have HI:=Lib.hid (stab_its _ _ _ _ _ _ (fun _ _ hp hc=>off_below (g:=g) hB1 hp hc) hI)
 have HO:=Lib.hid (own_below hown hB1)
 have GB:=Lib.hid (grow_of (row:=some g) hB1)
 obtain⟨p0,p1,_,pg⟩:=two_cells b1
 have hgs:Hid (g≠w.heap.size):=Lib.hid (by omega)
 have b1h:=Lib.hid b1
 replace hl0:=Lib.hid hl0
 replace hl:=Lib.hid hl
 replace hlw:=Lib.hid hlw
 replace hlm:=Lib.hid hlm
 replace hs1:=Lib.hid hs1
 clear hown hu hI b1 hB1
 go_enter Tryz.func65,Tryz.ntmps65
 go_upto_region 1 with fail
 clear hw1
 go_wp2_with fail
 clear p0 p1
 go_loopw [10] (fun vi wr=>∃ i:Nat,i≤m∧vi=.int .i64 i∧ctE t0 (l.take i)=0∧wr.ownsRow lo 5 1 (.slice (some ⟨g,0,none⟩) 256 c) 256 (u8s (ctV t0 (l.take i)))∧w1.grownBy wr (some g)) (fun vi _=>m-(intOf vi).toNat)
 case atStart=>exact⟨0,by omega,rfl,rfl,HO.out,grow_refl _ _⟩
 case round =>
  obtain⟨i,hi,rfl,hE,hown,hgr⟩:=hrel
  have GF:=Lib.hid (grow_trans GB.out hgr)
  by_cases hlt:i<m
  case neg =>
   have hlast:Hid (l.take i=l):=Lib.hid (List.take_of_length_le (by rw[hlm.out];omega))
   have hEl:Hid (ctE t0 l=0):=Lib.hid (by rw[← hE,hlast.out])
   rw[hlast.out] at hown
   have HO2:=Lib.hid hown
   clear hown hgr hE
   go_wp2_with fail
   go_ret
   exact⟨ret_int hEl.out.symm,GF.out,fun _=>HO2.out⟩
  obtain⟨x,hx⟩:∃ x,l[i]? = some x:=⟨_,List.getElem?_eq_getElem (by rw[hlm.out];exact hlt)⟩
  have hsp:=Lib.hid (ct_split hE hx)
  have hnx:=Lib.hid (ct_next hE hx)
  have hxr:=hrf.out x (List.mem_of_getElem? hx)
  have hIr:=stab_its _ _ _ _ _ _ (fun _ _ hp hc=>off_put (g:=g) hgr hp hc) HI.out
  obtain⟨ad5,E5,ce5,rfl,_,⟨z0,z1,z2,z3,z4⟩,_⟩:=its_at hIr hx
  clear hIr
  obtain⟨w5,hw5,y0,y1,y2,y3,y4,hs5,hB5,_⟩:=box_five wr (.int .u8 (x.1.1.toNat:Int)) (.int .u32 x.1.2.1) (.int .u32 x.1.2.2) (.int .i64 x.2.1) (.slice E5 x.2.2.length ce5) 40
  have hown5:=own_below hown hB5
  have hgr5:=Lib.hid (grow_later hgr (hB5.mono hgr.size))
  have GF5:=Lib.hid (grow_trans GB.out hgr5.out)
  replace hs5:=Lib.hid hs5
  have i4:(0:Int)≤(i:Int):=by omega
  have i5:(i:Int)<(m:Int):=by omega
  obtain⟨z,hzz⟩:∃ z,x.2.1=z:=⟨_,rfl⟩
  have hc1:∀ T,ctE T (x::l.drop (i+1))=if z=0 then ctE T (l.drop (i+1)) else if T[z.toNat]?.getD 0=0 then 6 else if T[z.toNat]?.getD 0=255 then 70 else ctE (T.set z.toNat (T[z.toNat]?.getD 0+1)) (l.drop (i+1)):=fun T=>by rw[← hzz];rfl
  have hc2:∀ T,ctE T [x]=if z=0 then 0 else if T[z.toNat]?.getD 0=0 then 6 else if T[z.toNat]?.getD 0=255 then 70 else 0:=fun T=>by rw[← hzz];rfl
  have hc3:∀ T,ctV T [x]=if z=0 then T else T.set z.toNat (T[z.toNat]?.getD 0+1):=fun T=>by rw[← hzz];rfl
  rw[hzz] at z3 hxr hw5 y3
  replace hx:=Lib.hid hx
  replace hzz:=Lib.hid hzz
  obtain⟨T,hT⟩:∃ T,ctV t0 (l.take i)=T:=⟨_,rfl⟩
  have hTl:Hid (T.length=256):=Lib.hid (by rw[← hT,ctV_len,hl0.out])
  rw[hT] at hown5 hsp hnx
  replace hT:=Lib.hid hT
  replace hE:=Lib.hid hE
  clear hown hgr hB5
  go_upto_region 4 with fail
  clear hw5 z0 z1 z2 z3 z4
  by_cases hz0:z=0
  ·have hn1:Hid (ctE t0 (l.take (i+1))=0∧ctV t0 (l.take (i+1))=T):=Lib.hid ⟨by rw[hnx.out.1,hc2,if_pos hz0],by rw[hnx.out.2,hc3,if_pos hz0]⟩
   subst hz0
   have HO:=Lib.hid hown5
   clear hc1 hc2 hc3 hxr hown5 hE hsp hnx
   go_wp2_with fail
   go_roundw
   case rel=>exact⟨i+1,by omega,by go_num,hn1.out.1,by rw[hn1.out.2];exact HO.out,hgr5.out⟩
   case measure=>simp[intOf];omega
  obtain⟨r,hr,r8,r256⟩:∃ r:Nat,z=r∧8≤r∧r<256:=⟨z.toNat,by omega,by omega,by omega⟩
  rw[hc1,if_neg hz0,show z.toNat=r by omega] at hsp
  rw[hc2,hc3,if_neg hz0,if_neg hz0,show z.toNat=r by omega] at hnx
  have j3:(z==0)=false:=by simpa using hz0
  subst hr
  have hcell:=own_cell hown5 (j:=r) r256
  obtain⟨y,hy⟩:∃ y,T[r]?.getD 0=y:=⟨_,rfl⟩
  rw[hy] at hsp hnx hcell
  replace hy:=Lib.hid hy
  by_cases hy0:y=0
  ·have t1:=byte_same (y:=0) (q:=0) rfl hy0
   have hEl:Hid (ctE t0 l=6):=Lib.hid (by rw[hsp.out,if_pos hy0])
   clear hc1 hc2 hc3 hxr hown5 hE hsp hnx hz0
   go_wp2_with fail
   go_ret
   exact⟨ret_int hEl.out.symm,GF5.out,fun h=>by rw[hEl.out] at h;cases h⟩
  have t1:=byte_unlike (y:=0) (q:=0) rfl hy0
  by_cases hy5:y=255
  ·have t2:=byte_same (y:=255) (q:=255) rfl hy5
   have hEl:Hid (ctE t0 l=70):=Lib.hid (by rw[hsp.out,if_neg hy0,if_pos hy5])
   clear hc1 hc2 hc3 hxr hown5 hE hsp hnx hz0
   go_wp2_with fail
   go_ret
   exact⟨ret_int hEl.out.symm,GF5.out,fun h=>by rw[hEl.out] at h;cases h⟩
  have t2:=byte_unlike (y:=255) (q:=255) rfl hy5
  have hfr:w5.frozen? ⟨g,r,none⟩=false:=hown5.frozenAt r
  obtain⟨hu1,hu2,hu3⟩:=up_byte hy5
  have hset:=own_set hown5 r (y+1)
  have hn1:Hid (ctE t0 (l.take (i+1))=0∧ctV t0 (l.take (i+1))=T.set r (y+1)):=Lib.hid ⟨by rw[hnx.out.1,if_neg hy0,if_neg hy5],hnx.out.2⟩
  rw[← hu1] at hset
  replace hset:=Lib.hid hset
  replace hu1:=Lib.hid hu1
  have hgn:=Lib.hid (grow_put hgr5.out (p:=⟨g,r,none⟩) rfl (.int .u8 ((y.toNat:Int)+1)))
  clear hc1 hc2 hc3 hxr hown5 hE hsp hnx hz0
  go_wp2_with fail
  go_roundw
  case rel=>exact⟨i+1,by omega,by go_num,hn1.out.1,by rw[hn1.out.2];exact hset.out,hgn.out⟩
  case measure=>simp[intOf];omega
end Go.Proofs.YtogieepfimpdmaaGreat
/-
 Package drop: refs,which ranges over slices.Backward of items. Conditions: those that each lemma states.
-/
namespace Go.Proofs.YtogieepfimpdmaaGreat
open Go.RowKit Go.Shelf Go.Maps
attribute [local go_sem] Oper.semAt_some
theorem rf_info0:(Tryz.prog.info? 104).map (fun i=>(i.zero,i.size,i.bytes))=some (some (.agg #[.int .i64 0,.int .i64 0]),2,16):=by kernel_rfl
def rfV (l:List Rf):List Value:=l.flatMap fun x=>[.int .i64 x.1,.int .i64 x.2]
theorem rfV_len (l:List Rf):(rfV l).length=l.length*2:=by
 induction l with
 | nil=>rfl
 | cons x l ih =>
  show (rfV l).length+2=_
  rw[ih,List.length_cons]
  omega
theorem rfV_app (a b:List Rf):rfV (a++b)=rfV a++rfV b:=by simp[rfV]
theorem rfV_one (l:List Rf):∀ v∈rfV l,v.oneCell'=true:=by
 intro v hv
 simp only[rfV,List.mem_flatMap] at hv
 obtain⟨x,_,hx⟩:=hv
 simp at hx
 rcases hx with rfl | rfl <;> rfl
set_option maxRecDepth 100000 in
set_option maxHeartbeats 4000000 in
theorem backI_in (F:Fence) (n:Nat) (hf:F.fn 128) (hro:F.round=none) (hn:1≤n) (l Bs n₀ cap m:Nat) (A:Option Addr) (ad:Addr) (f:Nat→It) (E:Nat→Option Addr) (ca:Nat→Nat) (hm:m≤9223372036854775807) (hA:0<m→A=some ad∧ad.block<n₀) (J Jx:List Nat→World→Prop)
  (hY:∀ (pre:List Nat) (x:Nat) (W:World),J pre W→pre.length<m→YieldAt F (n-1) Tryz.prog l #[.int .i64 (x:Int),.agg #[.int .u8 ((f x).1.1.toNat:Int),.int .u32 (f x).1.2.1,.int .u32 (f x).1.2.2,.int .i64 (f x).2.1,.slice (E x) (f x).2.2.length (ca x)]] W fun e W' =>
   (e=.returned (.bool true)∧J (pre++[x]) W'∧Keeps n₀ Bs W W')∨(e=.returned (.bool false)∧Jx (pre++[x]) W'))
  (W:World) (hBs:W.cell? ⟨Bs,0,none⟩=some (.slice A m cap)) (hc:∀ j,j<m→At5 W (ad.add (j*5)) (f j) (.slice (E j) (f j).2.2.length (ca j))) (h0:J [] W) :
  CallsIn F n Tryz.prog 128 #[.func (.yield l) #[] #[],.pointer (some ⟨Bs,0,none⟩)] W fun e W'=>(∃ v,e=.returned v) ∧
   ((∃ ys,ys=downs m m∧J ys W')∨(∃ pre,(∃ k,k≤m∧pre=downs m k)∧Jx pre W')):=by
 refine callsIn_of_wp Tryz.func128 rfl hf ?_ hro
 simp only[Tryz.ntmps128,List.size_toArray,List.length_cons,List.length_nil,Nat.reduceAdd,Nat.reduceSub,Array.replicate_succ,Array.replicate_zero,List.push_toArray,List.append_toArray,List.nil_append,List.cons_append]
 have HC:=Lib.hid hc
 clear hc
 replace hA:=Lib.hid hA
 gi_wp2
 gi_loopw [3] (fun i wr=>∃ k:Nat,k≤m∧i=.int .i64 ((m:Int)-1-k)∧J (downs m k) wr∧Below n₀ W wr∧wr.cell? ⟨Bs,0,none⟩=some (.slice A m cap))
  (fun i _=>(intOf i+1).toNat)
 case atStart=>exact⟨0,Nat.zero_le _,by simp,h0,Below.refl _ _,hBs⟩
 case round =>
  obtain⟨k,hk,rfl,hJs,hnx,hbs⟩:=hrel
  by_cases hlt:k<m
  ·obtain⟨rfl,hb⟩:=hA.out (by omega)
   have hx:=HC.out (m-1-k) (by omega)
   have g1:=(hnx.cell (p:=ad.add ((m-1-k)*5)) (by rw[add_block];exact hb)).trans hx.c0
   have g2:=(hnx.cell (p:=⟨(ad.add ((m-1-k)*5)).block,(ad.add ((m-1-k)*5)).off+1,none⟩) (by rw[add_block];exact hb)).trans hx.c1
   have g3:=(hnx.cell (p:=⟨(ad.add ((m-1-k)*5)).block,(ad.add ((m-1-k)*5)).off+2,none⟩) (by rw[add_block];exact hb)).trans hx.c2
   have g4:=(hnx.cell (p:=⟨(ad.add ((m-1-k)*5)).block,(ad.add ((m-1-k)*5)).off+3,none⟩) (by rw[add_block];exact hb)).trans hx.c3
   have g5:=(hnx.cell (p:=⟨(ad.add ((m-1-k)*5)).block,(ad.add ((m-1-k)*5)).off+4,none⟩) (by rw[add_block];exact hb)).trans hx.c4
   clear hx
   obtain⟨fn,tmps,assign,body,hy,hR⟩:=hY _ (m-1-k) wr hJs (by rw[downs_length];exact hlt)
   try dsimp only at hy
   have e1:((m:Int)-1-k).toNat=m-1-k:=by omega
   have e2:((m-1-k:Nat):Int)=(m:Int)-1-k:=by omega
   rw[e2] at hy
   clear e2
   have hds:=Lib.hid (downs_succ m k)
   generalize ((f (m-1-k)).1.1.toNat:Int)=q1 at *
   generalize (f (m-1-k)).1.2.1=q2 at *
   generalize (f (m-1-k)).1.2.2=q3 at *
   generalize (f (m-1-k)).2.1=q4 at *
   generalize (f (m-1-k)).2.2.length=q5 at *
   generalize E (m-1-k)=q6 at *
   generalize ca (m-1-k)=q7 at *
   gi_wp2
   refine hR.mono ?_
   rintro e W3 (⟨rfl,hJ3,hk3⟩ | ⟨rfl,hJx3⟩)
   ·gi_wp2
    go_roundw
    case rel=>exact⟨k+1,by omega,by go_num,by rw[hds.out];exact hJ3,hnx.trans hk3.1,hk3.2.trans hbs⟩
    case measure=>simp[intOf];omega
   ·gi_wp2
    refine bodyPost_ret (results_none rfl _ _ _) rfl ?_
    exact⟨⟨_,rfl⟩,.inr ⟨_,⟨k+1,by omega,hds.out.symm⟩,hJx3⟩⟩
  ·obtain rfl:k=m:=by omega
   gi_wp2
   go_end0
   exact⟨⟨_,rfl⟩,.inl ⟨_,rfl,hJs⟩⟩
set_option maxHeartbeats 1000000 in
theorem backwardI_in (F:Fence) (n:Nat) (hf:F.fn 114) (hro:F.round=none) (a:Option Addr) (len cap:Nat) (w:World) :
  CallsIn F n Tryz.prog 114 #[.slice a len cap] w fun e w'=>e=.returned (.func (.func 128) #[] #[.pointer (some ⟨w.heap.size,0,none⟩)])∧w'=w.alloc (.cells #[.slice a len cap] 43):=by
 refine callsIn_of_wp Tryz.func114 rfl hf ?_ hro
 simp only[Tryz.ntmps114,List.size_toArray,List.length_cons,List.length_nil,Nat.reduceAdd,Nat.reduceSub,Array.replicate_succ,Array.replicate_zero,List.push_toArray,List.append_toArray,List.nil_append,List.cons_append]
 gi_wp2
 go_ret
 exact⟨rfl,rfl⟩
theorem backwardI_stops (F:Fence) (n:Nat) (hf:F.fn 128) (hro:F.round=none) (hn:1≤n) (Bs n₀ cap m:Nat) (A:Option Addr) (ad:Addr) (f:Nat→It) (E:Nat→Option Addr) (ca:Nat→Nat) (hm:m≤9223372036854775807) (w:World) (hBs:Bs<w.heap.size) (_hn₀:n₀≤w.heap.size)
  (hc:w.cell? ⟨Bs,0,none⟩=some (.slice A m cap)) (hA:0<m→A=some ad∧ad.block<n₀) (hx:∀ j,j<m→At5 w (ad.add (j*5)) (f j) (.slice (E j) (f j).2.2.length (ca j))) :
  SeqStopsK F n Tryz.prog 128 #[.pointer (some ⟨Bs,0,none⟩)] (fun x:Nat=>#[Value.int .i64 (x:Int),Value.agg #[.int .u8 ((f x).1.1.toNat:Int),.int .u32 (f x).1.2.1,.int .u32 (f x).1.2.2,.int .i64 (f x).2.1,.slice (E x) (f x).2.2.length (ca x)]]) (Keeps n₀ Bs) (fun ys=>ys=downs m m)
   (fun pre=>∃ k,k≤m∧pre=downs m k) m w:=fun l J Jx W hW _ _ hY h0=>by
 have hc':=(hW.cell (p:=⟨Bs,0,none⟩) hBs).trans hc
 exact backI_in F n hf hro hn l Bs n₀ cap m A ad f E ca hm hA J Jx hY W hc' (fun j hj=>(hx j hj).below hW) h0
theorem its_fn {w:World} {A:Option Addr} {n c:Nat} {xs:List It} (h:rIts (Old w) w [.slice A n c] xs) (hn:xs.length=n) :
  ∃ (ad:Addr) (f:Nat→It) (E:Nat→Option Addr) (ca:Nat→Nat),(0<n→A=some ad∧ad.block<w.heap.size)∧(∀ i x,xs[i]? = some x→f i=x)∧∀ i,i<n→At5 w (ad.add (i*5)) (f i) (.slice (E i) (f i).2.2.length (ca i)):=by
 subst hn
 have h2:∀ i,∃ g:It×Option Addr×Nat,∀ x,xs[i]? = some x→g.1=x∧∃ ad,A=some ad∧ad.block<w.heap.size∧At5 w (ad.add (i*5)) x (.slice g.2.1 x.2.2.length g.2.2):=fun i=>by
  cases hx:xs[i]? with
  | none=>exact⟨(((0,0,0),0,[]),none,0),fun x e=>by cases e⟩
  | some x =>
   obtain⟨ad,E,ce,rfl,hok,h5,_⟩:=its_at h hx
   exact⟨(x,E,ce),fun y e=>by cases e;exact⟨rfl,ad,rfl,by have:=h5.lt;rwa [add_block] at this,h5⟩⟩
 obtain⟨g,hg⟩:∃ g:Nat→It×Option Addr×Nat,∀ i x,xs[i]? = some x→(g i).1=x∧∃ ad,A=some ad∧ad.block<w.heap.size∧At5 w (ad.add (i*5)) x (.slice (g i).2.1 x.2.2.length (g i).2.2) :=
  ⟨fun i=>Classical.choose (h2 i),fun i=>Classical.choose_spec (h2 i)⟩
 rcases A with _ | ad
 ·refine⟨⟨0,0,none⟩,fun i=>(g i).1,fun i=>(g i).2.1,fun i=>(g i).2.2,fun h0 => ?_,fun i x hi=>(hg i x hi).1,fun i hi => ?_⟩
  ·obtain⟨_,_,e,_⟩:=hg 0 _ (List.getElem?_eq_getElem h0)
   cases e
  ·obtain⟨_,_,e,_⟩:=hg i _ (List.getElem?_eq_getElem hi)
   cases e
 ·refine⟨ad,fun i=>(g i).1,fun i=>(g i).2.1,fun i=>(g i).2.2,fun h0 => ?_,fun i x hi=>(hg i x hi).1,fun i hi => ?_⟩
  ·obtain⟨_,_,e,hb,_⟩:=hg 0 _ (List.getElem?_eq_getElem h0)
   cases e
   exact⟨rfl,hb⟩
  ·obtain⟨e1,_,e,_,h5⟩:=hg i _ (List.getElem?_eq_getElem hi)
   cases e
   rw[← e1] at h5
   exact h5
def colF (lv:Int) (f:Nat→It) (pre:List Nat):List Rf:=rfsL lv (pre.map f)
theorem colF_zero {lv:Int} {f:Nat→It} {pre:List Nat} {x:Nat} (h:(f x).2.1=0):colF lv f (pre++[x])=colF lv f pre:=by
 rw[colF,List.map_append,rfsL_app,List.map_cons,List.map_nil,rfsL_zero h,rfsL_nil,List.append_nil]
 rfl
theorem colF_more {lv:Int} {f:Nat→It} {pre:List Nat} {x:Nat} (h:(f x).2.1≠0):colF lv f (pre++[x])=colF lv f pre++[((f x).2.1,lv)]:=by
 rw[colF,List.map_append,rfsL_app,List.map_cons,List.map_nil,rfsL_more h,rfsL_nil]
 rfl
theorem downs_all {f:Nat→It} {xs:List It} (h:∀ i x,xs[i]? = some x→f i=x):(downs xs.length xs.length).map f=xs.reverse:=by
 refine List.ext_getElem (by simp[downs]) fun i h1 h2 => ?_
 have hi:i<xs.length:=by simpa using h2
 simp only[downs,List.map_map,List.getElem_map,List.getElem_range,Function.comp,List.getElem_reverse]
 exact h _ _ (List.getElem?_eq_getElem (by omega))
theorem rfsL_rev (lv:Int) (l:List It):rfsL lv l.reverse=(rfsL lv l).reverse:=by simp[rfsL,List.filter_reverse]
theorem colF_all {lv:Int} {f:Nat→It} {xs:List It} (h:∀ i x,xs[i]? = some x→f i=x):colF lv f (downs xs.length xs.length)=(rfsL lv xs).reverse:=by
 rw[colF,downs_all h,rfsL_rev]
end Go.Proofs.YtogieepfimpdmaaGreat
/-
 Package drop: refs,all references of a node,the last one first. Conditions: those that each lemma states.
-/
namespace Go.Proofs.YtogieepfimpdmaaGreat
open Go.RowKit Go.Shelf Go.Maps
attribute [local go_sem] Oper.semAt_some
theorem cells_two {w:World} {a b:Value} {t:TypeId}:∀ j u,([a,b]:List Value)[j]? = some u→(w.alloc (.cells #[a,b] t)).cell? ((⟨w.heap.size,0,none⟩:Addr).add j)=some u:=by
 intro j u hj
 rw[add_off,Nat.zero_add,cell_of_row _ _ _ #[a,b] t _ (heap_alloc_new w _)]
 simpa using hj
theorem block_appended {W w1:World} {g B base size k:Nat} {cs:Array Value} {t e:TypeId} {tmp:Obj} {v v':Value} {xs:List Value} (h:W.heap[g]? = some (.cells cs t (0,0))) (hte:t≠e) (hr:W.ownsRow base e size v k xs) (hg:(W.alloc tmp).grownBy w1 v.ownBlock) (hB:g≠B) :
  (w1.setCell ⟨B,0,none⟩ v').heap[g]? = some (.cells cs t (0,0)):=by
 have hlt:g<W.heap.size:=(Array.getElem?_eq_some_iff.1 h).1
 have hne:some g≠v.ownBlock:=by
  rcases hr.2 with ⟨rfl,_⟩ | ⟨q,cap,cur,rfl,_,hq,_⟩
  ·simp[Value.ownBlock]
  ·intro e'
   obtain rfl:g=q:=by simpa [Value.ownBlock] using e'
   rw[h] at hq
   simp at hq
   exact hte hq.2
 rw[Below.heap_setCell w1 ⟨B,0,none⟩ v' g hB,hg.block g (by simp;omega) hne,Below.heap_alloc W tmp g hlt,h]
set_option maxRecDepth 100000 in
set_option maxHeartbeats 4000000 in
theorem refs_in (F:Fence) (n:Nat) (h3:F.fn 97) (h5:F.fn 114) (h7:F.fn 128) (hro:F.round=none) (hn:3≤n)
  (v:Value) (nd:Nd) (h0:0≤nd.1) (h6:nd.1<6) (hl5:nd.2.length≤5) (w:World) (h:Nod (Old w) w v nd) :
  CallsIn F n Tryz.prog 97 #[v] w fun e W'=>∃ u,e=.returned u∧W'.ownsRow w.heap.size 104 2 u (rfsT nd).length (rfV (rfsT nd).reverse)∧Below w.heap.size w W':=by
 have h1:1≤n:=by omega
 obtain⟨i0,hi,hz0,hz1,hz2⟩:=info_parts rf_info0
 obtain⟨A,c,rfl,_,l1,m1,hI⟩:=h.open
 obtain⟨m,hm⟩:∃ m,nd.2.length=m:=⟨_,rfl⟩
 obtain⟨lv,hlv⟩:∃ lv,nd.1=lv:=⟨_,rfl⟩
 rw[hm] at l1 hI hl5 ⊢
 obtain⟨ad,f,E,ca,hA,hf,hc⟩:=its_fn hI hm
 have hcol:Hid (colF (lv-1) f (downs m m)=(rfsT nd).reverse):=Lib.hid (by rw[← hm,colF_all hf,rfsT,hlv])
 rw[hlv] at h0 h6 ⊢
 replace hlv:=Lib.hid hlv
 replace hm:=Lib.hid hm
 replace hc:=Lib.hid hc
 replace hA:=Lib.hid hA
 replace hf:=Lib.hid hf
 clear hI h
 refine callsIn_of_wp_marks Tryz.func97 rfl h3 ?_ hro
 simp only[Tryz.ntmps97,List.size_toArray,List.length_cons,List.length_nil,Nat.reduceAdd,Nat.reduceSub,Array.replicate_succ,Array.replicate_zero,List.push_toArray,List.append_toArray,List.nil_append,List.cons_append]
 gi_wp2_with (gi_at_call 114;refine(backwardI_in F (n-1) h5 hro _ _ _ _).mono ?_;rintro e w' ⟨rfl,rfl⟩)
 obtain⟨W0,hW0,hB0,hs0,b0,bx,b3⟩:∃ W0,((w.alloc (.cells #[.int .i64 lv,.slice A m c] 45)).alloc (.cells #[.slice none 0 0] 162)).alloc (.cells #[.slice A m c] 43)=W0∧Below w.heap.size w W0∧W0.heap.size=w.heap.size+3 ∧
   W0.heap[w.heap.size]? = some (.cells #[.int .i64 lv,.slice A m c] 45 (0,0))∧Boxed W0 (w.heap.size+1) 162 (.slice none 0 0)∧Boxed W0 (w.heap.size+1+1) 43 (.slice A m c) :=
  ⟨_,rfl,(((Below.refl _ w).alloc (Nat.le_refl _) _).alloc (by simp) _).alloc (by simp;omega) _,by simp,(Below.heap_alloc _ _ _ (by simp;omega)).trans ((Below.heap_alloc _ _ _ (by simp)).trans (heap_alloc_new w _)),((by have:=Boxed.new (w.alloc (.cells #[.int .i64 lv,.slice A m c] 45)) 162 (.slice none 0 0);simpa using this:Boxed ((w.alloc (.cells #[.int .i64 lv,.slice A m c] 45)).alloc (.cells #[.slice none 0 0] 162)) (w.heap.size+1) 162 (.slice none 0 0))).alloc _,by have:=Boxed.new ((w.alloc (.cells #[.int .i64 lv,.slice A m c] 45)).alloc (.cells #[.slice none 0 0] 162)) 43 (.slice A m c);simpa using this⟩
 rw[hW0]
 clear hW0
 have hlo:w.heap.size≤W0.heap.size:=hB0.size
 have hA0:0<m→A=some ad∧ad.block<w.heap.size:=hA.out
 refine wpIn_rangeFunc_ownH hro h1 (gf:=128) (lb:=#[.pointer (some ⟨w.heap.size+1+1,0,none⟩)]) rfl h7 (enters_of Tryz.func128 (by kernel_rfl) rfl)
  (backwardI_stops F (n-1) h7 hro (by omega) (w.heap.size+1+1) w.heap.size c m A ad f E ca (by omega) W0 (by omega) hlo b3.cell hA0 (fun j hj=>(hc.out j hj).below hB0))
  (fun h h'=>Keeps.trans h h') (fun W l o o' hl h1 h2 h3=>keeps_b (w:=W0) (by omega) hlo l o o' hl h1 h2 h3) (Below.refl _ _) (fun _=>rfl)
  (fun pre W=>((∃ v,Boxed W (w.heap.size+1) 162 v∧W.ownsRow w.heap.size 104 2 v (colF (lv-1) f pre).length (rfV (colF (lv-1) f pre))∧True)∧(W.heap[w.heap.size]? = some (.cells #[.int .i64 lv,.slice A m c] 45 (0,0))∧Boxed W (w.heap.size+1+1) 43 (.slice A m c)))∧Below w.heap.size w W)
  (fun _ _ _=>False)
  (OwnFrom.and (OwnFrom.and (Own.from (holdsRow_own w.heap.size (w.heap.size+1) 162 104 2 (fun pre:List Nat=>(colF (lv-1) f pre).length) (fun pre=>rfV (colF (lv-1) f pre)) (fun _ _=>True)) _) (Own.from (fun s A B row hs hg hr=>⟨block_kept hs.1 hg hr,block_kept hs.2 hg hr⟩) _)) (ownFrom_below (Nat.le_refl _) hlo))
  (fun _ _ _ _ _ hs _ _=>hs)
  ⟨⟨⟨_,bx,World.ownsRow_nil _ _ _ _,trivial⟩,b0,b3⟩,hB0⟩
  (fun x a' W=>∃ g,a'={ tmps:=#[.agg #[.int .i64 lv,.slice A m c],.pointer (some ⟨w.heap.size,0,none⟩),.slice none 0 0,.pointer (some ⟨w.heap.size+1,0,none⟩),undef,.pointer (some ⟨g,0,none⟩),.pointer (some ⟨w.heap.size,1,none⟩),.slice A m c,
   .func (.func 128) #[] #[.pointer (some ⟨w.heap.size+1+1,0,none⟩)],.int .i64 (x:Int),.agg #[.int .u8 ((f x).1.1.toNat:Int),.int .u32 (f x).1.2.1,.int .u32 (f x).1.2.2,.int .i64 (f x).2.1,.slice (E x) (f x).2.2.length (ca x)],undef,undef,undef,undef,undef,undef,undef,undef,undef,undef,undef,undef,undef],defers:=[] } ∧
   W.cell? ⟨g,3,none⟩=some (.int .i64 (f x).2.1))
  (fun x a'=>Own.from (fun s A B row hs hg hr=>by
   obtain⟨g,e,h1⟩:=hs
   exact⟨g,e,cell_kept h1 hg hr⟩) _) ?assign ?body ?done ?stop
 case assign =>
  rintro l pre x W K ⟨⟨⟨v,hv,hrow,_⟩,c0,c3⟩,hb⟩ hK
  have c3':=c3.cell
  gi_wp2
  exact hK _ _ ((KeepsOthers.alloc _ _).from _) ⟨(Below.refl _ W).alloc hb.size _,(Lib.cell?_alloc_some _ c3').trans c3'.symm⟩
   ⟨⟨⟨v,hv.alloc _,hrow.alloc _,trivial⟩,(Below.heap_alloc W _ _ (Array.getElem?_eq_some_iff.1 c0).1).trans c0,c3.alloc _⟩,hb.alloc hb.size _⟩ ⟨W.heap.size,rfl,by go_simp⟩
 case body =>
  rintro l pre x a' W hl hloop ⟨⟨⟨v,hv,hrow,_⟩,c0,c3⟩,hb⟩ ⟨g,rfl,g3⟩ hlen
  obtain⟨q,hq⟩:∃ q,(f x).2.1=q:=⟨_,rfl⟩
  rw[hq] at g3
  have d0:W.cell? ⟨w.heap.size,0,none⟩=some (.int .i64 lv):=by rw[cell_of_row _ _ _ _ _ _ c0];rfl
  by_cases he:q=0
  ·have he':(q != 0)=false:=by simp[he]
   have hcz:Hid (colF (lv-1) f (pre++[x])=colF (lv-1) f pre):=Lib.hid (colF_zero (by rw[hq,he]))
   replace hq:=Lib.hid hq
   replace he:=Lib.hid he
   gi_wp2
   refine⟨KeepsFrom.refl _ _,⟨Below.refl _ _,rfl⟩,⟨⟨v,hv,?_,trivial⟩,c0,c3⟩,hb⟩
   rw[hcz.out]
   exact hrow
  ·have he':(q != 0)=true:=by simpa using he
   have hcm:Hid (colF (lv-1) f (pre++[x])=colF (lv-1) f pre++[(q,lv-1)]):=Lib.hid (by rw[colF_more (by rw[hq];exact he),hq])
   have hle:w.heap.size≤w.heap.size+1:=by omega
   have hcell:=hv.cell
   have hkl:Hid ((colF (lv-1) f pre).length≤1000000):=Lib.hid (by
    have:=rfsL_len (lv-1) (pre.map f)
    rw[List.length_map] at this
    exact Nat.le_trans this (by omega))
   obtain⟨k,hk⟩:∃ k,(colF (lv-1) f pre).length=k:=⟨_,rfl⟩
   rw[hk] at hrow hkl
   replace hk:=Lib.hid hk
   have hwr:IntKind.i64.wrap (lv-1)=lv-1:=by rw[IntKind.wrap_i64];omega
   replace hq:=Lib.hid hq
   replace he:=Lib.hid he
   gi_wp2_with (gi_at_builtin;refine wpListIn_append_own _ rfl _ _ 162 rfl w.heap.size 104 i0 (.agg #[.int .i64 0,.int .i64 0]) 2 16 Tryz.underlying162 hi hz0 hz1 hz2 rfl (by decide) _ _ _ rfl (hrow.alloc _) ⟨W.heap.size,0,none⟩ 1 1 [.int .i64 q,.int .i64 (lv-1)] rfl rfl cells_two (by simp[Value.oneCell']) (by unfold maxLen;have:=hkl.out;omega) (by have:=hkl.out;omega) (by have:=hb.size;simp;omega) ?_;intro v' w1 hown' hgrow _;obtain⟨g',cap',rfl⟩:=ownsRow_succ hown';obtain⟨hv1,hv2,hr2,hk2,hb2⟩:=hv.appended (by decide) hrow hb.size hle hown' hgrow;have hc1:=hv1.cell;have hf1:=hv1.frozen)
   have e0:=block_appended (v':=.slice (some ⟨g',0,none⟩) (k+1) cap') c0 (by decide) hrow hgrow (B:=w.heap.size+1) (by omega)
   have e3:Boxed _ (w.heap.size+1+1) 43 (.slice A m c):=block_appended (v':=.slice (some ⟨g',0,none⟩) (k+1) cap') c3 (by decide) hrow hgrow (B:=w.heap.size+1) (by omega)
   refine⟨hk2.from _,⟨hb2,e3.cell.trans c3.cell.symm⟩,⟨⟨_,hv2,?_,trivial⟩,e0,e3⟩,hb.trans hb2⟩
   rw[hcm.out,List.length_append,hk.out,rfV_app]
   exact hr2
 case done =>
  rintro D zs W hD rfl ⟨⟨⟨v,hv,hrow,_⟩,c0,c3⟩,hb⟩ hK
  have hcell:=hv.cell
  rw[hcol.out,List.length_reverse] at hrow
  gi_wp2
  refine⟨by simp,.inl ⟨_,_,rfl,run_takeDeferred hK,?_⟩⟩
  have hrow':=ownsRow_putObj hrow (.deferred none) hK rfl
  refine⟨_,results_tmp rfl _ _ _,v,rfl,hrow',hb.trans (belowK_b hlo _ D _ _ hD hK rfl rfl)⟩
 case stop =>
  rintro D c pre W _ _ h _
  exact h.elim
theorem refs_any (v:Value) (nd:Nd) (h0:0≤nd.1) (h6:nd.1<6) (hl5:nd.2.length≤5) (w:World) (h:Nod (Old w) w v nd) :
  Calls Tryz.prog 97 #[v] w fun e W'=>∃ u,e=.returned u∧W'.ownsRow w.heap.size 104 2 u (rfsT nd).length (rfV (rfsT nd).reverse)∧Below w.heap.size w W' :=
 callsIn_wide.1 (refs_in Fence.wide 3 trivial trivial trivial rfl (Nat.le_refl _) v nd h0 h6 hl5 w h)
end Go.Proofs.YtogieepfimpdmaaGreat
/-
 Package drop: lower,a stack that is gone through,its counts turned in a table of the caller's own. Conditions: those that each lemma states.
-/
namespace Go.Proofs.YtogieepfimpdmaaGreat
open Go.RowKit
theorem own_under {w w':World} {B base g n c:Nat} {e:TypeId} {size:Nat} {xs:List Value} (h:w.ownsRow base e size (.slice (some ⟨g,0,none⟩) n c) n xs) (hb:Below B w w') (hg:g<B):w'.ownsRow base e size (.slice (some ⟨g,0,none⟩) n c) n xs:=by
 refine⟨h.1,h.2.imp id ?_⟩
 rintro⟨q,cap,cur,e1,h1,h2,h3⟩
 have hq:g=q:=by
  simp only[Value.slice.injEq,Option.some.injEq,Addr.mk.injEq,and_true,true_and] at e1
  exact e1.1
 exact⟨q,cap,cur,e1,h1,(hb.block q (by omega)).trans h2,h3⟩
theorem own_pop {w:World} {base g n c:Nat} {e:TypeId} {size:Nat} {xs ys:List Value} (h:w.ownsRow base e size (.slice (some ⟨g,0,none⟩) (n+1) c) (n+1) (xs++ys)) (hx:xs.length=n*size):w.ownsRow base e size (.slice (some ⟨g,0,none⟩) n c) n xs:=by
 refine⟨hx,.inr ?_⟩
 rcases h.2 with ⟨e1,_⟩ | ⟨q,cap,cur,e1,h1,h2,h3,h4,h5,h6⟩
 ·simp at e1
 ·simp only[Value.slice.injEq,Option.some.injEq,Addr.mk.injEq,and_true,true_and] at e1
  obtain⟨rfl,rfl⟩:=e1
  refine⟨g,c,cur,rfl,h1,h2,by omega,h4,h5,?_⟩
  have:(cur.toList.take ((n+1)*size)).take (n*size)=(xs++ys).take (n*size):=by rw[h6]
  rw[List.take_take,Nat.min_eq_left (Nat.mul_le_mul_right _ (by omega))] at this
  rw[this,← hx]
  exact List.take_left
theorem rf_app {w:World} {base base' n m:Nat} {ty:TypeId} {v u:Value} {a b:List Rf} (hown:w.ownsRow base 104 2 v n (rfV a)) (hu:w.ownsRow base' 104 2 u m (rfV b)) (h:n+m≤1000000) (hbase:base≤w.heap.size) :
  ∃ v' w',(Builtin.append_ #[162,162] ty #[v,u]).run Tryz.prog w=.ok v' w'∧w'.ownsRow base 104 2 v' (n+m) (rfV (a++b))∧w.grownBy w' v.ownBlock∧Below base w w':=by
 obtain⟨i0,hi,hz0,hz1,hz2⟩:=info_parts rf_info0
 obtain⟨A,c,rfl,_,_,ho,_⟩:=own_any hu
 have hcs:=fun g=>hu.cells (g:=g)
 rw[rfV_app]
 refine app_any base _ ty 104 i0 (.agg #[.int .i64 0,.int .i64 0]) 2 16 Tryz.underlying162 hi hz0 hz1 hz2 rfl (by decide) v n (rfV a) hown A m c (rfV b) hu.1 (fun j x hj => ?_) (rfV_one b) (by unfold maxLen;omega) (by omega) hbase
 rcases hu.2 with ⟨e,rfl⟩ | ⟨g,cap,cur,e,_⟩
 ·have:=hu.1
  rw[Nat.zero_mul] at this
  rw[List.eq_nil_of_length_eq_zero this] at hj
  simp at hj
 ·cases e
  exact⟨_,rfl,hcs _ rfl j x hj⟩
theorem last_of (l:List Rf):l=[]∨∃ a x,l=a++[x]:=by
 rcases List.eq_nil_or_concat l with h | ⟨a,x,h⟩
 ·exact .inl h
 ·exact .inr ⟨a,x,by rw[h,List.concat_eq_append]⟩
def msr (w:World) (g:Nat):Nat:=((List.range 256).map fun j=>match w.cell? ⟨g,j,none⟩ with
 | some (.int _ n)=>n.toNat
 | _=>0).sum
theorem msr_own {w:World} {base g c:Nat} {T:List UInt8} (h:w.ownsRow base 5 1 (.slice (some ⟨g,0,none⟩) 256 c) 256 (u8s T)):msr w g=allT T:=by
 have hl:T.length=256:=own_length h
 unfold msr allT
 congr 1
 refine List.ext_getElem (by simp[hl]) fun i h1 h2 => ?_
 have hi:i<256:=by simpa using h1
 rw[List.getElem_map,List.getElem_map,List.getElem_range]
 rw[own_cell h hi]
 show ((T[i]?.getD 0).toNat:Int).toNat=_
 rw[List.getElem?_eq_getElem (by omega)]
 rfl
def LwP (s:Rm) (x:Rf) (t0:List UInt8) (g c lo:Nat) (w w':World) (e:Ending):Prop:=∃ q:Int,e=.returned (.int .i64 q)∧w.grownBy w' (some g) ∧
 ((wkF s.1 x.2 t0 x.1.toNat=none∧q=8)∨(∃ t,wkF s.1 x.2 t0 x.1.toNat=some t∧q=0∧w'.ownsRow lo 5 1 (.slice (some ⟨g,0,none⟩) 256 c) 256 (u8s t)))
theorem box_lw (w:World) (a b c d e f:Value):∃ w1,(w.alloc (.cells #[a,b,c,d] 29)).alloc (.cells #[e,f] 104)=w1 ∧
  w1.heap[w.heap.size]? = some (.cells #[a,b,c,d] 29 (0,0))∧w1.heap[w.heap.size+1]? = some (.cells #[e,f] 104 (0,0))∧w1.heap.size=w.heap.size+2∧Below w.heap.size w w1:=by
 refine⟨_,rfl,alloc_block (heap_alloc_new _ _),?_,by simp,((Below.refl _ w).alloc (Nat.le_refl _) _).alloc (by simp) _⟩
 have:=heap_alloc_new (w.alloc (.cells #[a,b,c,d] 29)) (.cells #[e,f] 104)
 rwa [World.size_alloc] at this
def LwR (s:Rm) (t0:List UInt8) (R:Option (List UInt8)) (g c lo:Nat) (w1:World) (v:Value) (wr:World):Prop:=∃ (st:List Rf) (T:List UInt8) (A:Option Addr) (sc:Nat),v=.slice A st.length sc ∧
 wr.ownsRow w1.heap.size 104 2 (.slice A st.length sc) st.length (rfV st)∧wr.ownsRow lo 5 1 (.slice (some ⟨g,0,none⟩) 256 c) 256 (u8s T)∧w1.grownBy wr (some g) ∧
 runT s.1 T st.reverse=R∧LeT T t0∧(∀ x∈st,Rfd x)∧st.length+5*allT T≤400000
set_option maxRecDepth 100000 in
set_option maxHeartbeats 8000000 in
theorem lower_any (g c lo:Nat) (t0:List UInt8) (v:Value) (s:Rm) (hm:mayR s=true) (a0 lv0:Int) (hx0:Rfd (a0,lv0)) (hle0:LeT t0 s.2.1) (w:World) (hown:w.ownsRow lo 5 1 (.slice (some ⟨g,0,none⟩) 256 c) 256 (u8s t0)) (h:Sto (Off g w) w v s) :
  Calls Tryz.prog 73 #[.slice (some ⟨g,0,none⟩) 256 c,v,.agg #[.int .i64 a0,.int .i64 lv0]] w fun e w'=>LwP s (a0,lv0) t0 g c lo w w' e:=by
 obtain⟨A,ca,B,cb,N,cn,L,cl,rfl,_⟩:=id h.open
 have hl0:t0.length=256:=own_length hown
 have hg0:g<w.heap.size:=((hown.lt g rfl).2)
 obtain⟨w1,hw1,f1,f2,hsz,hB⟩:=box_lw w (.slice A s.1.1.length ca) (.slice B s.1.2.length cb) (.slice N s.2.1.length cn) (.slice L s.2.2.length cl) (.int .i64 a0) (.int .i64 lv0)
 have H:=Lib.hid (show Sto (Off g w1) w1 _ s from h.map fun _ _ hp hc=>off_below hB hp hc)
 have HO:=Lib.hid (own_below hown hB)
 have GB:=Lib.hid (grow_of (row:=some g) hB)
 obtain⟨k0,k1,k2,k3,_,kg⟩:=four_cells f1
 obtain⟨j0,j1,_,jg⟩:=two_cells f2
 have f1h:=Lib.hid f1
 obtain⟨R,hR⟩:∃ R,wkF s.1 lv0 t0 a0.toNat=R:=⟨_,rfl⟩
 have hgs:Hid (g<w.heap.size):=Lib.hid hg0
 have hsz':=Lib.hid hsz
 replace hl0:=Lib.hid hl0
 replace hle0:=Lib.hid hle0
 have hL1:Hid (LwR s t0 R g c lo w1 (.slice (some ⟨w1.heap.size,0,none⟩) 1 1) (w1.alloc (.cells #[.int .i64 a0,.int .i64 lv0] 104))):=Lib.hid (by
  refine⟨[(a0,lv0)],t0,some ⟨w1.heap.size,0,none⟩,1,rfl,?_,own_below HO.out ((Below.refl _ _).alloc (Nat.le_refl _) _),grow_of ((Below.refl _ _).alloc (Nat.le_refl _) _),?_,LeT.refl _,?_,?_⟩
  ·exact World.ownsRow_lit w1 #[.int .i64 a0,.int .i64 lv0] 1 (Nat.le_refl _) (by unfold maxLen;omega) rfl
  ·show (wkF s.1 lv0 t0 a0.toNat).bind _=R
   rw[hR]
   cases R <;> rfl
  ·intro x hx
   rw[List.mem_singleton] at hx
   rw[hx]
   exact hx0
  ·have:=allT_le t0
   rw[hl0.out] at this
   show 1+5*allT t0≤400000
   omega)
 replace hR:=Lib.hid hR
 clear hown h f1 f2 hB hg0 hsz hx0
 go_enter Tryz.func73,Tryz.ntmps73
 go_upto_region 1 with fail
 clear hw1
 go_upto_region 2 with fail
 obtain⟨W2,hW2⟩:∃ W2,w1.alloc (.cells #[.int .i64 a0,.int .i64 lv0] 104)=W2:=⟨_,rfl⟩
 rw[hW2] at hL1 ⊢
 clear hW2 k0 k1 k2 k3 j0 j1 jg
 go_loopw [7] (fun vs wr=>LwR s t0 R g c lo w1 vs wr) (fun _ wr=>msr wr g)
 case atStart=>exact hL1.out
 case round =>
  obtain⟨st,T,E,sc,rfl,hst,hown,hgr,hrun,hle,hrf,hbd⟩:=hrel
  have GF:=Lib.hid (grow_trans GB.out hgr)
  rcases last_of st with rfl | ⟨st',x,rfl⟩
  ·have hfin:Hid (R=some T):=Lib.hid hrun.symm
   have HO2:=Lib.hid hown
   clear hst hown hgr hrun hle hrf hbd
   go_wp2_with fail
   go_ret
   exact⟨0,rfl,GF.out,.inr ⟨T,hR.out.trans hfin.out,rfl,HO2.out⟩⟩
  obtain⟨a,lv⟩:=x
  have hxd:=hrf (a,lv) (by simp)
  obtain⟨k,rfl⟩:∃ k:Nat,a=k:=⟨a.toNat,by have:=hxd.1;dsimp only at this;omega⟩
  obtain⟨h8,h256,hm1,h6⟩:=hxd
  dsimp only at h8 h256 hm1 h6
  have hrf':Hid (∀ x∈st',Rfd x):=Lib.hid fun x hx=>hrf x (by simp[hx])
  rw[List.reverse_append] at hrun
  replace hrun:(wkF s.1 lv T ((k:Int)).toNat).bind (fun u=>runT s.1 u st'.reverse)=R:=hrun
  rw[show ((k:Int)).toNat=k by omega] at hrun
  rw[rfV_app,List.length_append] at hst
  rw[List.length_append] at hbd
  obtain⟨n,hn⟩:∃ n,st'.length=n:=⟨_,rfl⟩
  have e1:(st'++[((k:Int),lv)]).length=n+1:=by rw[List.length_append,hn];rfl
  rw[e1]
  replace hst:wr.ownsRow w1.heap.size 104 2 (.slice E (n+1) sc) (n+1) (rfV st'++[.int .i64 (k:Int),.int .i64 lv]):=by
   rw[hn] at hst
   exact hst
  rw[hn] at hbd
  replace hbd:n+1+5*allT T≤400000:=hbd
  obtain⟨gs,cap,e2⟩:=ownsRow_succ hst
  cases e2
  have hrl:(rfV st').length=n*2:=by rw[rfV_len,hn]
  have hc0:wr.cell? ⟨gs,n*2,none⟩=some (.int .i64 (k:Int)):=by
   rw[hst.cellAt (n*2) (by omega),List.getElem?_append_right (by omega),hrl,Nat.sub_self]
   rfl
  have hc1:wr.cell? ⟨gs,n*2+1,none⟩=some (.int .i64 lv):=by
   rw[hst.cellAt (n*2+1) (by omega),List.getElem?_append_right (by omega),hrl,show n*2+1-n*2=1 by omega]
   rfl
  have hpop:=own_pop hst hrl
  have hsc0:Hid (n+1≤sc):=Lib.hid (by
   obtain⟨_,_,e,hs,_⟩:=own_any hst
   cases e
   exact hs)
  clear hst e1 hrf
  obtain⟨w5,hw5,b5,hs5,hB5⟩:=box_pair' wr (.int .i64 (k:Int)) (.int .i64 lv) 104
  have hown5:=own_below hown hB5
  have hpop5:=own_below hpop hB5
  have hgr5:=grow_later hgr (hB5.mono hgr.size)
  have hms:Hid (msr wr g=allT T):=Lib.hid (msr_own hown)
  obtain⟨q0,q1,_,qg⟩:=two_cells b5
  have hrs:Hid (w1.heap.size≤wr.heap.size):=Lib.hid hgr.size
  clear hown hpop hgr hB5
  have n1:IntKind.i64.wrap ((n:Int)+1-1)=n:=by rw[IntKind.wrap_i64];omega
  go_upto_region 4 with fail
  clear hw5 hc0 hc1
  replace hs5:=Lib.hid hs5
  have hsc:n+1≤sc:=by
   have:=hsc0.out
   exact this
  have hs0:(0:Int)≤(n:Int):=by omega
  have hs2:¬ sc=0:=by omega
  have hs3:¬ 0=sc:=by omega
  have hs4:0<sc:=by omega
  have hs5':n≤sc:=by omega
  clear hsc
  have hs1:(n:Int)≤(sc:Int):=by omega
  clear hrl
  go_upto_region 5 with fail
  clear hs0 hs1 hs2 hs3 hs4 hs5' n1
  have hle0':Hid (T[k]?.getD 0≠0→asE s (k:Int)=0):=Lib.hid fun hz=>as_yes hm (by omega) (by omega) (fun e=>hz (nat_zero.1 (by
   have h1:=(hle.trans hle0.out).le k
   rw[e] at h1
   exact Nat.le_zero.1 h1)))
  have hways:=Lib.hid (fun hz=>wk_ways (d:=s.1) (lv:=lv) (t:=T) (a:=k) hm1 h6 hz)
  have hnone:=Lib.hid (fun hz=>wk_none (d:=s.1) (lv:=lv) (t:=T) (a:=k) hz)
  have hdn:=Lib.hid (fun hz=>allT_dn (t:=T) (a:=k) hz)
  have hTl:Hid (T.length=256):=Lib.hid (own_length hown5)
  have hcell:=own_cell hown5 (j:=k) (by omega)
  have hfr:w5.frozen? ⟨g,k,none⟩=false:=hown5.frozenAt k
  have k256:k<256:=by omega
  obtain⟨y,hy⟩:∃ y,T[k]?.getD 0=y:=⟨_,rfl⟩
  rw[hy] at hcell hle0' hways hnone hdn
  replace hy:=Lib.hid hy
  have hgr5':=Lib.hid hgr5
  replace hrun:=Lib.hid hrun
  replace hle:=Lib.hid hle
  replace hbd:=Lib.hid hbd
  replace hn:=Lib.hid hn
  clear hgr5
  by_cases hy0:y=0
  ·have t1:=byte_same (y:=0) (q:=0) rfl hy0
   have hN:Hid (R=none):=Lib.hid (by rw[← hrun.out,hnone.out hy0];rfl)
   have GF5:=Lib.hid (grow_trans GB.out hgr5'.out)
   clear hown5 hpop5 b5 hy0
   go_wp2_with fail
   go_ret
   exact⟨8,rfl,GF5.out,.inl ⟨hR.out.trans hN.out,rfl⟩⟩
  have t1:=byte_unlike (y:=0) (q:=0) rfl hy0
  obtain⟨hu1,hu2,hu3⟩:=dn_byte hy0
  have hset:=own_set hown5 k (y-1)
  rw[← hu1] at hset
  have hg6:=grow_put (grow_refl w5 (some g)) (p:=⟨g,k,none⟩) rfl (.int .u8 ((y.toNat:Int)-1))
  have hpop6:=hpop5.kept hg6 (.inr (fun e=>by
   have:=(hpop5.lt gs rfl).1
   have h0:=hgs.out
   have h1:=hsz'.out
   have e':gs=g:=by simpa [Value.ownBlock] using e
   omega))
  have hgr6:=grow_put hgr5'.out (p:=⟨g,k,none⟩) rfl (.int .u8 ((y.toNat:Int)-1))
  have b6:=(hg6.block wr.heap.size qg (fun e=>by
   have:=hgr5'.out.size
   have h0:=hgs.out
   have h1:=hsz'.out
   have h2:=hgr5'.out.size
   have h4:wr.heap.size=g:=by simpa using e
   have h5:=hrs.out
   omega)).trans b5
  obtain⟨w6,hw6⟩:∃ w6,w5.setCell ⟨g,k,none⟩ (.int .u8 ((y.toNat:Int)-1))=w6:=⟨_,rfl⟩
  rw[hw6] at hset hg6 hpop6 hgr6 b6
  clear hown5 hpop5 b5
  replace hset:=Lib.hid hset
  replace hpop6:=Lib.hid hpop6
  replace hgr6:=Lib.hid hgr6
  replace b6:=Lib.hid b6
  replace hu1:=Lib.hid hu1
  clear hg6
  go_upto_region 8 with fail
  clear hw6 hcell hfr q0 q1
  have c6:=own_cell hset.out (j:=k) k256
  rw[set_get (by rw[hTl.out];exact k256)] at c6
  obtain⟨q0,q1,_,_⟩:=two_cells b6.out
  have hF1:=(hgr6.out.block w.heap.size kg (by
   have h0:=hgs.out
   simp
   omega)).trans f1h.out
  obtain⟨k0,k1,k2,k3,_,_⟩:=four_cells hF1
  clear hF1
  have hS6:Hid (Sto (Old w6) w6 (.agg #[.slice A s.1.1.length ca,.slice B s.1.2.length cb,.slice N s.2.1.length cn,.slice L s.2.2.length cl]) s):=Lib.hid ((H.out.map fun _ _ hp hc=>off_put hgr6.out hp hc).map fun _ _ hp hc=>off_old hp hc)
  have hms6:Hid (msr w6 g<msr wr g):=Lib.hid (by
   rw[msr_own hset.out,hms.out]
   have:=hdn.out hy0
   omega)
  have hle6:Hid (LeT (T.set k (y-1)) t0):=Lib.hid ((dnO_some (by rw[dnO,hy.out,if_neg hy0])).2.2.1.trans hle.out)
  have hal6:Hid (allT (T.set k (y-1))+1=allT T):=Lib.hid (hdn.out hy0)
  have hT6:Hid (∀ t,wkF s.1 lv T k=t→t.bind (fun u=>runT s.1 u st'.reverse)=R):=Lib.hid fun t ht=>by rw[← ht];exact hrun.out
  obtain⟨T',hT'⟩:∃ T',T.set k (y-1)=T':=⟨_,rfl⟩
  obtain⟨z,hz⟩:∃ z,y-1=z:=⟨_,rfl⟩
  have hw2:=hways.out hy0
  rw[hT',hz] at hw2
  rw[hz] at c6
  rw[hT'] at hset hle6 hal6
  clear hT' hways hnone hdn
  rcases hw2 with ⟨hc,hF⟩ | ⟨hz0,hl,hnr,hF⟩ | ⟨hz0,hl,hr,hF⟩
  ·have hrel6:Hid (LwR s t0 R g c lo w1 (.slice (some ⟨gs,0,none⟩) n sc) w6):=Lib.hid ⟨st',T',some ⟨gs,0,none⟩,sc,by rw[hn.out],by rw[hn.out];exact hpop6.out,hset.out,hgr6.out,hT6.out _ hF,hle6.out,hrf'.out,by have:=hal6.out;have:=hbd.out;have:=hn.out;omega⟩
   replace hz:=Lib.hid hz
   replace hF:=Lib.hid hF
   clear hy0 t1
   by_cases hz0:z=0
   ·have hlv:=hc.resolve_left (fun h=>h hz0)
    subst hz0
    subst hlv
    replace c6:w6.cell? ⟨g,k,none⟩=some (.int .u8 0):=c6
    clear hc
    go_wp2_with fail
    go_roundw
    case rel=>exact hrel6.out
    case measure=>exact hms6.out
   ·have hz1:0<z.toNat:=by
     have:z.toNat≠0:=fun e=>hz0 (nat_zero.1 e)
     omega
    clear hc hz0
    go_wp2_with fail
    go_roundw
    case rel=>exact hrel6.out
    case measure=>exact hms6.out
  ·have hN:Hid (R=none):=Lib.hid (hT6.out _ hF).symm
   have has:=Lib.hid (hle0'.out hy0)
   have c7:(lv == -1)=false:=by simpa using hl
   subst hz0
   replace c6:w6.cell? ⟨g,k,none⟩=some (.int .u8 0):=c6
   replace hz:=Lib.hid hz
   replace hF:=Lib.hid hF
   replace hnr:=Lib.hid hnr
   clear hy0 t1 hl
   go_wp2_with fail
   with_reducible refine(readD_any _ s k lv has.out _ hS6.out).mono ?_
   rintro e w7 ⟨u,q,nd,rfl,hq,hu,hb7⟩
   rcases hq with ⟨hr,_⟩ | ⟨_,rfl,_⟩
   ·exact absurd hr hnr.out
   obtain⟨P,pc,rfl,_⟩:=id hu.open
   obtain⟨pl,hpl⟩:∃ pl,nd.2.length=pl:=⟨_,rfl⟩
   obtain⟨pv,hpv⟩:∃ pv,nd.1=pv:=⟨_,rfl⟩
   rw[hpl,hpv]
   obtain⟨w8,hw8,b8,hs8,hB8⟩:=box_pair' w7 (.int .i64 pv) (.slice P pl pc) 45
   have G8:=Lib.hid (grow_trans GB.out (grow_later hgr6.out ((hb7.trans (hB8.mono hb7.size)).mono hgr6.out.size)))
   replace hs8:=Lib.hid hs8
   clear hu hpl hpv hb7 hB8 b8 q0 q1 c6 k0 k1 k2 k3
   go_upto_region 10 with fail
   clear hw8
   go_wp2_with fail
   go_ret
   exact⟨8,rfl,G8.out,.inl ⟨hR.out.trans hN.out,rfl⟩⟩
  ·have has:=Lib.hid (hle0'.out hy0)
   have c7:(lv == -1)=false:=by simpa using hl
   subst hz0
   replace c6:w6.cell? ⟨g,k,none⟩=some (.int .u8 0):=c6
   replace hz:=Lib.hid hz
   replace hF:=Lib.hid hF
   replace hr:=Lib.hid hr
   clear hy0 t1 hl
   go_wp2_with fail
   with_reducible refine(readD_any _ s k lv has.out _ hS6.out).mono ?_
   rintro e w7 ⟨u,q,nd,rfl,hq,hu,hb7⟩
   rcases hq with ⟨_,rfl,hnd⟩ | ⟨hnr,_⟩
   case inr=>exact absurd hr.out hnr
   obtain⟨P,pc,rfl,_⟩:=id hu.open
   obtain⟨pl,hpl⟩:∃ pl,nd.2.length=pl:=⟨_,rfl⟩
   obtain⟨pv,hpv⟩:∃ pv,nd.1=pv:=⟨_,rfl⟩
   rw[hpl,hpv] at hu ⊢
   obtain⟨w8,hw8,b8,hs8,hB8⟩:=box_pair' w7 (.int .i64 pv) (.slice P pl pc) 45
   have G8:=Lib.hid (grow_later hgr6.out ((hb7.trans (hB8.mono hb7.size)).mono hgr6.out.size))
   have N8:=Lib.hid (hu.drop.below hB8)
   have own8:=Lib.hid (own_below (own_below hset.out hb7) hB8)
   have pop8:=Lib.hid (own_below (own_below hpop6.out hb7) hB8)
   have hmn:=(blkN_read hr.out.1).1
   rw[← hnd] at hF hmn
   obtain⟨⟨s1,s2,s3,_⟩,_⟩:=mayN_of hmn
   have hrfs:=Lib.hid (refs_may hmn)
   replace hs8:=Lib.hid hs8
   obtain⟨q0,q1,_,_⟩:=two_cells b8
   have b8h:=Lib.hid b8
   clear hu hb7 hB8 b8 c6 k0 k1 k2 k3
   go_upto_region 10 with fail
   clear hw8
   go_wp2_with fail
   with_reducible refine(refs_any (.agg #[.int .i64 pv,.slice P pl pc]) nd s1 s2 s3 _ N8.out).mono ?_
   rintro e w9 ⟨u9,rfl,hu9,hb9⟩
   obtain⟨m,hm9⟩:∃ m,(rfsT nd).length=m:=⟨_,rfl⟩
   have hm5:m≤5:=by
    rw[← hm9]
    exact Nat.le_trans (rfsL_len _ _) s3
   rw[hm9] at hu9
   have own9:=own_below own8.out hb9
   have pop9:=own_below pop8.out hb9
   have G9:=grow_later G8.out (hb9.mono G8.out.size)
   obtain⟨v',w10,hr10,ho10,_,hb10⟩:=rf_app (ty:=162) pop9 hu9 (by have:=hbd.out;omega) G9.size
   obtain⟨A10,c10,rfl,_⟩:=own_any ho10
   have H10:=Lib.hid hr10
   have hl10:(st'++(rfsT nd).reverse).length=n+m:=by rw[List.length_append,List.length_reverse,hn.out,hm9]
   have own10:=own_under own9 hb10 (by have h0:=hgs.out;have h1:=hsz'.out;omega)
   have hrel10:Hid (LwR s t0 R g c lo w1 (.slice A10 (n+m) c10) w10):=Lib.hid ⟨st'++(rfsT nd).reverse,T',A10,c10,by rw[hl10],by rw[hl10];exact ho10,own10,grow_later G9 hb10,(by
    rw[List.reverse_append,List.reverse_reverse,runT_app]
    exact hT6.out _ hF.out),hle6.out,fun x hx=>(List.mem_append.1 hx).elim (hrf'.out x) (fun h=>rfsL_ok (by omega) (by omega) hrfs.out x (List.mem_reverse.1 h)),(by rw[hl10];have:=hal6.out;have:=hbd.out;omega)⟩
   have hms10:Hid (msr w10 g<msr wr g):=Lib.hid (by
    have:=hms6.out
    rwa [msr_own hset.out,← msr_own own10] at this)
   clear hr10 ho10 hb10 own9 pop9 G9 hu9 hb9 own10 hl10 hm9 hm5
   go_wp2_with (at_builtin;refine wpList_append_run rfl _ _ _ rfl rfl rfl H10.out ?_;clear H10)
   go_roundw
   case rel=>exact hrel10.out
   case measure=>exact hms10.out
end Go.Proofs.YtogieepfimpdmaaGreat
/-
 Package drop: leave,Leave,Loose. Conditions: those that each lemma states.
-/
namespace Go.Proofs.YtogieepfimpdmaaGreat
open Go.RowKit
noncomputable def gdE (s:Rm) (lv a:Int):Int:=if asE s a=0 then (match wkF s.1 lv s.2.1 a.toNat with | some _=>0 | none=>8) else asE s a
noncomputable def gdV (s:Rm) (lv a:Int):Rm:=if asE s a=0 then (match wkF s.1 lv s.2.1 a.toNat with | some t=>(s.1,t,s.2.2) | none=>emptyR) else emptyR
theorem gd_no {s:Rm} {lv a:Int} (h:asE s a≠0):gdE s lv a=asE s a∧gdV s lv a=emptyR:=⟨by rw[gdE,if_neg h],by rw[gdV,if_neg h]⟩
theorem gd_bad {s:Rm} {lv a:Int} (h:asE s a=0) (h':wkF s.1 lv s.2.1 a.toNat=none):gdE s lv a=8∧gdV s lv a=emptyR:=⟨by rw[gdE,if_pos h,h'],by rw[gdV,if_pos h,h']⟩
theorem gd_ok {s:Rm} {lv a:Int} {t:List UInt8} (h:asE s a=0) (h':wkF s.1 lv s.2.1 a.toNat=some t):gdE s lv a=0∧gdV s lv a=(s.1,t,s.2.2):=⟨by rw[gdE,if_pos h,h'],by rw[gdV,if_pos h,h']⟩
theorem wk_six (d:Dk) (t:List UInt8) (a:Nat):wkF d 6 t a=lfO d t a:=by rw[wkF,if_pos rfl]
theorem wk_one (d:Dk) (t:List UInt8) (a:Nat):wkF d (-1) t a=dnO t a:=by
 rw[wkF,if_neg (by decide)]
 rfl
theorem as_in5 {s:Rm} {n:Int} (h:asE s n=0):∃ k:Nat,n=k∧mayR s=true∧8≤k∧k<256∧s.2.1[k]?.getD 0≠0:=by
 obtain⟨k,e,hm,h8,h256,_,_,_,_,hx⟩:=as_read h
 exact⟨k,e,hm,h8,h256,hx⟩
theorem gd_leave (s:Rm) (a:Int):gdE s 6 a=lvE s a∧gdV s 6 a=lvV s a:=by
 unfold gdE gdV lvE lvV
 rw[wk_six]
 exact⟨rfl,rfl⟩
theorem gd_loose (s:Rm) (a:Int):gdE s (-1) a=asE s a∧gdV s (-1) a=loV s a:=by
 unfold gdE gdV loV
 rw[wk_one]
 by_cases h:asE s a=0
 ·obtain⟨k,rfl,_,_,_,hx⟩:=as_in5 h
  rw[show ((k:Int)).toNat=k by omega,dnO_yes hx]
  exact⟨by rw[if_pos h,h],rfl⟩
 ·exact⟨by rw[if_neg h],by rw[if_neg h,if_neg h]⟩
theorem wk_le {d:Dk} {lv:Int} {t u:List UInt8} {a:Nat} (h:wkF d lv t a=some u):LeT u t:=by
 unfold wkF at h
 split at h
 ·exact(lf_some h).2.1
 ·exact lvF_le d _ t a u h
theorem box_lv (w:World) (a b c d e f:Value):∃ w1,((w.alloc (.cells #[a,b,c,d] 29)).alloc (.cells #[e,f] 104)).alloc (.cells #[.slice none 0 0,.slice none 0 0,.slice none 0 0,.slice none 0 0] 29)=w1 ∧
  w1.heap[w.heap.size]? = some (.cells #[a,b,c,d] 29 (0,0))∧w1.heap[w.heap.size+1]? = some (.cells #[e,f] 104 (0,0))∧w1.heap[w.heap.size+2]? = some (.cells #[.slice none 0 0,.slice none 0 0,.slice none 0 0,.slice none 0 0] 29 (0,0))∧w1.heap.size=w.heap.size+3∧Below w.heap.size w w1:=by
 refine⟨_,rfl,alloc_block (alloc_block (heap_alloc_new _ _)),alloc_block ?_,?_,by simp,(((Below.refl _ w).alloc (Nat.le_refl _) _).alloc (by simp) _).alloc (by simp;omega) _⟩
 ·have:=heap_alloc_new (w.alloc (.cells #[a,b,c,d] 29)) (.cells #[e,f] 104)
  rwa [World.size_alloc] at this
 ·have:=heap_alloc_new ((w.alloc (.cells #[a,b,c,d] 29)).alloc (.cells #[e,f] 104)) (.cells #[.slice none 0 0,.slice none 0 0,.slice none 0 0,.slice none 0 0] 29)
  rwa [World.size_alloc,World.size_alloc] at this
set_option maxRecDepth 100000 in
set_option maxHeartbeats 8000000 in
theorem leaveD_any (v:Value) (s:Rm) (a lv:Int) (hlv : -1≤lv∧lv≤6) (w:World) (h:Sto (Old w) w v s) :
  Calls Tryz.prog 48 #[v,.agg #[.int .i64 a,.int .i64 lv]] w fun e w'=>∃ u,e=.returned (.tuple #[u,.int .i64 (gdE s lv a)])∧Sto (New w.heap.size w') w' u (gdV s lv a)∧Below w.heap.size w w':=by
 obtain⟨A,ca,B,cb,N,cn,L,cl,rfl,_⟩:=id h.open
 obtain⟨w1,hw1,f1,f2,f3,hsz,hB⟩:=box_lv w (.slice A s.1.1.length ca) (.slice B s.1.2.length cb) (.slice N s.2.1.length cn) (.slice L s.2.2.length cl) (.int .i64 a) (.int .i64 lv)
 have H:=Lib.hid (h.below hB)
 clear h
 obtain⟨k0,k1,k2,k3,_,kg⟩:=four_cells f1
 obtain⟨j0,j1,_,jg⟩:=two_cells f2
 replace hsz:=Lib.hid hsz
 replace f3:=Lib.hid f3
 by_cases ha:asE s a=0
 case neg =>
  obtain⟨hE,hV⟩:=gd_no (lv:=lv) ha
  obtain⟨q,hq⟩:∃ q,asE s a=q:=⟨_,rfl⟩
  rw[hq] at ha hE
  have hq1:(q != 0)=true:=by simpa using ha
  replace hq:=Lib.hid hq
  replace hE:=Lib.hid hE
  replace hV:=Lib.hid hV
  clear ha
  go_enter Tryz.func48,Tryz.ntmps48
  go_upto_region 1 with fail
  clear hw1
  go_wp2_with fail
  with_reducible refine(heldD_any _ s a _ H.out).mono ?_
  rintro e w2 ⟨rfl,hb2⟩
  rw[hq.out]
  have F2:=(hb2.block (w.heap.size+2) (by rw[hsz.out];omega)).trans f3.out
  replace hb2:=Lib.hid (hB.trans (hb2.mono hB.size))
  clear k0 k1 k2 k3 kg j0 j1 jg f1 f2 hB
  obtain⟨k0,k1,k2,k3,k4,k5⟩:=four_cells F2
  obtain⟨W9,hW9,g9,gr9,gs9⟩:=put_four (a':=.slice none 0 0) (b':=.slice none 0 0) (c':=.slice none 0 0) (d':=.slice none 0 0) F2
  obtain⟨n0,n1,n2,n3,_,_⟩:=four_cells g9
  have hB9:=Lib.hid ((hb2).out.grown gr9 (hb2).out.size (fun q e=>by cases e;omega))
  replace g9:=Lib.hid g9
  replace F2:=Lib.hid F2
  clear gr9 gs9
  go_wp2_with fail
  refine bodyPost_ret (v:=.tuple #[.agg #[.slice none 0 0,.slice none 0 0,.slice none 0 0,.slice none 0 0],.int .i64 q]) (by simp[results,Tryz.results48,go_sem,n0,n1,n2,n3]) rfl ?_
  rw[hE.out,hV.out]
  exact⟨_,rfl,sto_empty _ _,hB9.out⟩
 obtain⟨k,hk,hm,h8,h256,hx⟩:=as_in5 ha
 subst hk
 have hax:=Lib.hid ha
 have hlen:=Lib.hid (mayT_len (mayR_of hm).2.1)
 obtain⟨R,hR⟩:∃ R,wkF s.1 lv s.2.1 ((k:Int)).toNat=R:=⟨_,rfl⟩
 have hrd:Hid (Rfd ((k:Int),lv)):=Lib.hid ⟨by show (8:Int)≤k;omega,by show (k:Int)<256;omega,hlv.1,hlv.2⟩
 replace hR:=Lib.hid hR
 replace hx:=Lib.hid hx
 clear ha hlv h8 h256
 go_enter Tryz.func48,Tryz.ntmps48
 go_upto_region 1 with fail
 clear hw1
 go_wp2_with fail
 with_reducible refine(heldD_any _ s (k:Int) _ H.out).mono ?_
 rintro e w2 ⟨rfl,hb2⟩
 rw[hax.out]
 have F1:=(hb2.block w.heap.size kg).trans f1
 have F2:=(hb2.block (w.heap.size+1) jg).trans f2
 have F3:=Lib.hid ((hb2.block (w.heap.size+2) (by rw[hsz.out];omega)).trans f3.out)
 have H2:=Lib.hid (H.out.below hb2)
 have s2:Hid (w.heap.size+3≤w2.heap.size):=Lib.hid (by have:=hb2.size;have:=hsz.out;omega)
 have B2:=Lib.hid (hB.trans (hb2.mono hB.size))
 clear k0 k1 k2 k3 kg j0 j1 jg f1 f2 hb2 hB
 obtain⟨k0,k1,k2,k3,_,kg⟩:=four_cells F1
 obtain⟨j0,j1,_,jg⟩:=two_cells F2
 go_wp2_with fail
 obtain⟨_,_,e9,l1,m1,hby⟩:=rBy_byt (B:=w2.heap.size) (fun _ h=>h) H2.out.parts.2.1
 cases e9
 with_reducible refine(clone_any N s.2.1.length cn s.2.1 (Lib.hid rfl) (by rw[hlen.out];omega) _ hby).mono ?_
 rintro e w3 ⟨u,rfl,hu3,hb3⟩
 obtain⟨g,c2,rfl,hg1,hg2,hg3,hg4⟩:=own_head hu3 (by rw[hlen.out];omega)
 rw[hlen.out] at hu3 ⊢
 have G1:=(hb3.block w.heap.size kg).trans F1
 have G2:=(hb3.block (w.heap.size+1) jg).trans F2
 have G3:=Lib.hid ((hb3.block (w.heap.size+2) (by have:=s2.out;omega)).trans F3.out)
 have H3:=Lib.hid (show Sto (Off g w3) w3 _ s from H2.out.map fun _ _ hp hc=>off_low hb3 hg1 hp hc)
 have O3:=Lib.hid hu3
 have B3:=Lib.hid (B2.out.trans (hb3.mono B2.out.size))
 have hgw:Hid (w.heap.size+3≤g):=Lib.hid (by have:=s2.out;omega)
 clear k0 k1 k2 k3 kg j0 j1 jg F1 F2 F3 hb3 B2 H2 hby l1 m1 hu3 hg1
 obtain⟨k0,k1,k2,k3,_,kg⟩:=four_cells G1
 obtain⟨j0,j1,_,jg⟩:=two_cells G2
 go_wp2_with fail
 with_reducible refine(lower_any g c2 w2.heap.size s.2.1 _ s hm (k:Int) lv hrd.out (LeT.refl _) _ O3.out H3.out).mono ?_
 rintro e w4 ⟨q,rfl,hgr,hq⟩
 have E1:=(hgr.block w.heap.size kg (by have:=hgw.out;simp;omega)).trans G1
 have E3:=(hgr.block (w.heap.size+2) (by have:=G3.out;exact(Array.getElem?_eq_some_iff.1 this).1) (by have:=hgw.out;simp;omega)).trans G3.out
 have B4:=Lib.hid (B3.out.grown hgr B3.out.size (fun q e=>by cases e;have:=hgw.out;omega))
 have H4:=Lib.hid (show Sto (Old w4) w4 _ s from (H3.out.map fun _ _ hp hc=>off_put hgr hp hc).map fun _ _ hp hc=>off_old hp hc)
 clear k0 k1 k2 k3 kg j0 j1 jg G1 G2 G3 B3 H3 O3 hgr
 rcases hq with ⟨hN,rfl⟩ | ⟨t,hS,rfl,hown⟩
 ·obtain⟨hE,hV⟩:=gd_bad hax.out hN
  replace hE:=Lib.hid hE
  replace hV:=Lib.hid hV
  replace hN:=Lib.hid hN
  clear E1
  obtain⟨k0,k1,k2,k3,k4,k5⟩:=four_cells E3
  obtain⟨W9,hW9,g9,gr9,gs9⟩:=put_four (a':=.slice none 0 0) (b':=.slice none 0 0) (c':=.slice none 0 0) (d':=.slice none 0 0) E3
  obtain⟨n0,n1,n2,n3,_,_⟩:=four_cells g9
  have hB9:=Lib.hid ((B4).out.grown gr9 (B4).out.size (fun q e=>by cases e;omega))
  replace g9:=Lib.hid g9
  replace E3:=Lib.hid E3
  clear gr9 gs9
  go_wp2_with fail
  refine bodyPost_ret (v:=.tuple #[.agg #[.slice none 0 0,.slice none 0 0,.slice none 0 0,.slice none 0 0],.int .i64 8]) (by simp[results,Tryz.results48,go_sem,n0,n1,n2,n3]) rfl ?_
  rw[hE.out,hV.out]
  exact⟨_,rfl,sto_empty _ _,hB9.out⟩
 ·obtain⟨hE,hV⟩:=gd_ok hax.out hS
  have hle:=wk_le hS
  have htl:t.length=256:=hle.len.trans hlen.out
  have hmS:mayR (s.1,t,s.2.2)=true:=mayR_mk (mayR_of hm).1 (hle.may (mayR_of hm).2.1) (mayR_of hm).2.2
  have hsm:=Lib.hid (smallR_may hmS)
  have T4:Hid (Sto (Old w4) w4 (.agg #[.slice A s.1.1.length ca,.slice B s.1.2.length cb,.slice (some ⟨g,0,none⟩) 256 c2,.slice L s.2.2.length cl]) (s.1,t,s.2.2)):=Lib.hid (Sto.mk H4.out.parts.1 (stab_by.drop (own_by hown)) H4.out.parts.2.2)
  replace hE:=Lib.hid hE
  replace hV:=Lib.hid hV
  replace hS:=Lib.hid hS
  obtain⟨k0,k1,k2,k3,_,kg⟩:=four_cells E1
  replace E3:=Lib.hid E3
  clear hown hle
  go_wp2_with fail
  with_reducible refine(twinR_any _ (s.1,t,s.2.2) hsm.out _ T4.out).mono ?_
  rintro e w5 ⟨A5,a5,B5,b5,N5,n5,L5,l5,rfl,h5,hb5⟩
  have F5:=(hb5.block (w.heap.size+2) (by have:=B4.out.size;have:=(Array.getElem?_eq_some_iff.1 E3.out).1;omega)).trans E3.out
  have s5:Hid (w.heap.size+2<w4.heap.size):=Lib.hid (Array.getElem?_eq_some_iff.1 E3.out).1
  obtain⟨o0,o1,o2,o3,_,_⟩:=four_cells F5
  obtain⟨W9,hW9,g9,gr9,gs9⟩:=put_four (a':=.slice A5 s.1.1.length a5) (b':=.slice B5 s.1.2.length b5) (c':=.slice N5 t.length n5) (d':=.slice L5 s.2.2.length l5) F5
  obtain⟨n0,n1,n2,n3,_,_⟩:=four_cells g9
  have hfin:=Lib.hid (show Sto (New w.heap.size W9) W9 (.agg #[.slice A5 s.1.1.length a5,.slice B5 s.1.2.length b5,.slice N5 t.length n5,.slice L5 s.2.2.length l5]) (s.1,t,s.2.2) from
   (h5.grown gr9 (fun q e=>by cases e;exact s5.out)).new B4.out.size (Below.refl _ _))
  have hB9:=Lib.hid ((B4.out.trans (hb5.mono B4.out.size)).grown gr9 (Nat.le_trans B4.out.size hb5.size) (fun q e=>by cases e;omega))
  replace F5:=Lib.hid F5
  replace g9:=Lib.hid g9
  replace htl:=Lib.hid htl
  clear gr9 gs9 h5 hb5 k0 k1 k2 k3 kg E1
  go_wp2_with fail
  refine bodyPost_ret (v:=.tuple #[.agg #[.slice A5 s.1.1.length a5,.slice B5 s.1.2.length b5,.slice N5 t.length n5,.slice L5 s.2.2.length l5],.int .i64 0]) (by simp[results,Tryz.results48,go_sem,n0,n1,n2,n3]) rfl ?_
  rw[hE.out,hV.out]
  exact⟨_,rfl,hfin.out,hB9.out⟩
end Go.Proofs.YtogieepfimpdmaaGreat
/-
 Package drop: Leave,Loose. Conditions: those that each lemma states.
-/
namespace Go.Proofs.YtogieepfimpdmaaGreat
open Go.RowKit
set_option maxRecDepth 100000 in
set_option maxHeartbeats 8000000 in
theorem leaveV_any (v:Value) (s:Rm) (n:Int) (w:World) (h:Sto (Old w) w v s) :
  Calls Tryz.prog 28 #[v,.int .i64 n] w fun e w'=>∃ u,e=.returned (.tuple #[u,.int .i64 (lvE s n)])∧Sto (New w.heap.size w') w' u (lvV s n)∧Below w.heap.size w w':=by
 obtain⟨A,ca,B,cb,N,cn,L,cl,w1,rfl,hw1,f1,f2,hsz,hB,H⟩:=box_sto2 h
 clear h
 obtain⟨k0,k1,k2,k3,_,kg⟩:=four_cells f1
 replace hsz:=Lib.hid hsz
 replace f2:=Lib.hid f2
 go_enter Tryz.func28,Tryz.ntmps28
 go_upto_region 1 with fail
 clear hw1
 go_wp2_with fail
 with_reducible refine(leaveD_any _ s n 6 (by decide) _ H.out).mono ?_
 rintro e w2 ⟨u,rfl,hu,hb2⟩
 rw[(gd_leave s n).1]
 rw[(gd_leave s n).2] at hu
 obtain⟨q,hq⟩:∃ q,gdE s 6 n=q:=⟨_,rfl⟩
 have hq':=Lib.hid ((gd_leave s n).1.symm.trans hq)
 clear hq
 rw[hq'.out]
 obtain⟨V,hV⟩:∃ V,gdV s 6 n=V:=⟨_,rfl⟩
 have hV':=Lib.hid ((gd_leave s n).2.symm.trans hV)
 clear hV
 rw[hV'.out] at hu
 obtain⟨P,p,Q,r,Y,y,X,x,rfl,_⟩:=id hu.open
 have F2:=(hb2.block (w.heap.size+1) (by rw[hsz.out];omega)).trans f2.out
 obtain⟨o0,o1,o2,o3,_,_⟩:=four_cells F2
 obtain⟨W9,hW9,g9,gr9,gs9⟩:=put_four (a':=.slice P V.1.1.length p) (b':=.slice Q V.1.2.length r) (c':=.slice Y V.2.1.length y) (d':=.slice X V.2.2.length x) F2
 obtain⟨n0,n1,n2,n3,_,_⟩:=four_cells g9
 have hfin:=Lib.hid (show Sto (New w.heap.size W9) W9 _ V from (hu.grown gr9 (fun q e=>by cases e;rw[hsz.out];omega)).new hB.size (Below.refl _ _))
 have hB9:=Lib.hid ((hB.trans (hb2.mono hB.size)).grown gr9 (Nat.le_trans hB.size hb2.size) (fun q e=>by cases e;omega))
 replace F2:=Lib.hid F2
 replace g9:=Lib.hid g9
 clear gr9 gs9 hu hb2 k0 k1 k2 k3 kg f1
 go_wp2_with fail
 refine bodyPost_ret (v:=.tuple #[.agg #[.slice P V.1.1.length p,.slice Q V.1.2.length r,.slice Y V.2.1.length y,.slice X V.2.2.length x],.int .i64 q]) (by simp[results,Tryz.results28,go_sem,n0,n1,n2,n3]) rfl ?_
 rw[hq'.out,hV'.out]
 exact⟨_,rfl,hfin.out,hB9.out⟩
set_option maxRecDepth 100000 in
set_option maxHeartbeats 8000000 in
theorem looseV_any (v:Value) (s:Rm) (n:Int) (w:World) (h:Sto (Old w) w v s) :
  Calls Tryz.prog 69 #[v,.int .i64 n] w fun e w'=>∃ u,e=.returned (.tuple #[u,.int .i64 (asE s n)])∧Sto (New w.heap.size w') w' u (loV s n)∧Below w.heap.size w w':=by
 obtain⟨A,ca,B,cb,N,cn,L,cl,w1,rfl,hw1,f1,f2,hsz,hB,H⟩:=box_sto2 h
 clear h
 obtain⟨k0,k1,k2,k3,_,kg⟩:=four_cells f1
 replace hsz:=Lib.hid hsz
 replace f2:=Lib.hid f2
 go_enter Tryz.func69,Tryz.ntmps69
 go_upto_region 1 with fail
 clear hw1
 go_wp2_with fail
 with_reducible refine(leaveD_any _ s n (-1) (by decide) _ H.out).mono ?_
 rintro e w2 ⟨u,rfl,hu,hb2⟩
 rw[(gd_loose s n).1]
 rw[(gd_loose s n).2] at hu
 obtain⟨q,hq⟩:∃ q,gdE s (-1) n=q:=⟨_,rfl⟩
 have hq':=Lib.hid ((gd_loose s n).1.symm.trans hq)
 clear hq
 rw[hq'.out]
 obtain⟨V,hV⟩:∃ V,gdV s (-1) n=V:=⟨_,rfl⟩
 have hV':=Lib.hid ((gd_loose s n).2.symm.trans hV)
 clear hV
 rw[hV'.out] at hu
 obtain⟨P,p,Q,r,Y,y,X,x,rfl,_⟩:=id hu.open
 have F2:=(hb2.block (w.heap.size+1) (by rw[hsz.out];omega)).trans f2.out
 obtain⟨o0,o1,o2,o3,_,_⟩:=four_cells F2
 obtain⟨W9,hW9,g9,gr9,gs9⟩:=put_four (a':=.slice P V.1.1.length p) (b':=.slice Q V.1.2.length r) (c':=.slice Y V.2.1.length y) (d':=.slice X V.2.2.length x) F2
 obtain⟨n0,n1,n2,n3,_,_⟩:=four_cells g9
 have hfin:=Lib.hid (show Sto (New w.heap.size W9) W9 _ V from (hu.grown gr9 (fun q e=>by cases e;rw[hsz.out];omega)).new hB.size (Below.refl _ _))
 have hB9:=Lib.hid ((hB.trans (hb2.mono hB.size)).grown gr9 (Nat.le_trans hB.size hb2.size) (fun q e=>by cases e;omega))
 replace F2:=Lib.hid F2
 replace g9:=Lib.hid g9
 clear gr9 gs9 hu hb2 k0 k1 k2 k3 kg f1
 go_wp2_with fail
 refine bodyPost_ret (v:=.tuple #[.agg #[.slice P V.1.1.length p,.slice Q V.1.2.length r,.slice Y V.2.1.length y,.slice X V.2.2.length x],.int .i64 q]) (by simp[results,Tryz.results69,go_sem,n0,n1,n2,n3]) rfl ?_
 rw[hq'.out,hV'.out]
 exact⟨_,rfl,hfin.out,hB9.out⟩
end Go.Proofs.YtogieepfimpdmaaGreat
/-
 Package drop: Make. Conditions: those that each lemma states.
-/
namespace Go.Proofs.YtogieepfimpdmaaGreat
open Go.RowKit
theorem mkE_store {s:Rm} {n:Nd} (h:mayR s=false):mkE s n=8:=by rw[mkE,h];rfl
theorem mkE_node {s:Rm} {n:Nd} (h:mayN n=false):mkE s n=8:=by rw[mkE,h];simp
set_option maxRecDepth 100000 in
set_option maxHeartbeats 8000000 in
theorem makeV_any (v u:Value) (s:Rm) (n:Nd) (w:World) (h:Sto (Old w) w v s) (hu:Nod (Old w) w u n) :
  Calls Tryz.prog 40 #[v,u] w fun e w'=>∃ t,e=.returned (.tuple #[t,.int .i64 (mkN s n),.int .i64 (mkE s n)])∧Sto (New w.heap.size w') w' t (mkV s n)∧Below w.heap.size w w':=by
 obtain⟨A,ca,B,cb,N,cn,L,cl,rfl,_⟩:=id h.open
 obtain⟨I,ci,rfl,_⟩:=id hu.open
 obtain⟨w1,hw1,f1,fn,f2,hsz,hB⟩:=box_three3 (w:=w) (.slice A s.1.1.length ca) (.slice B s.1.2.length cb) (.slice N s.2.1.length cn) (.slice L s.2.2.length cl) (.int .i64 n.1) (.slice I n.2.length ci)
 have H:=Lib.hid (h.below hB)
 have U:=Lib.hid (hu.below hB)
 clear h hu
 obtain⟨k0,k1,k2,k3,_,kg⟩:=four_cells f1
 obtain⟨p0,p1,_,pg⟩:=two_cells fn
 replace hsz:=Lib.hid hsz
 replace f2:=Lib.hid f2
 cases hm:mayR s with
 | false =>
  have hE:=mkE_store (n:=n) hm
  obtain⟨hN,hV⟩:=mk_no (s:=s) (n:=n) (by rw[hE];decide)
  have e1:=chkR_bad hm
  replace hE:=Lib.hid hE
  replace hN:=Lib.hid hN
  replace hV:=Lib.hid hV
  go_enter Tryz.func40,Tryz.ntmps40
  go_upto_region 1 with fail
  clear hw1
  go_wp2_with fail
  with_reducible refine(checkR_any _ s _ H.out).mono ?_
  rintro e w2 ⟨rfl,hb2⟩
  rw[e1]
  have F2:=(hb2.block (w.heap.size+2) (by rw[hsz.out];omega)).trans f2.out
  replace hb2:=Lib.hid (hB.trans (hb2.mono hB.size))
  clear k0 k1 k2 k3 kg p0 p1 pg f1 fn hB e1 hm
  obtain⟨k0,k1,k2,k3,k4,k5⟩:=four_cells F2
  obtain⟨W9,hW9,g9,gr9,gs9⟩:=put_four (a':=.slice none 0 0) (b':=.slice none 0 0) (c':=.slice none 0 0) (d':=.slice none 0 0) F2
  obtain⟨n0,n1,n2,n3,_,_⟩:=four_cells g9
  have hB9:=Lib.hid ((hb2).out.grown gr9 (hb2).out.size (fun q e=>by cases e;omega))
  replace g9:=Lib.hid g9
  replace F2:=Lib.hid F2
  clear gr9 gs9
  go_wp2_with fail
  refine bodyPost_ret (v:=.tuple #[.agg #[.slice none 0 0,.slice none 0 0,.slice none 0 0,.slice none 0 0],.int .i64 0,.int .i64 8]) (by simp[results,Tryz.results40,go_sem,n0,n1,n2,n3]) rfl ?_
  rw[hE.out,hN.out,hV.out]
  exact⟨_,rfl,sto_empty _ _,hB9.out⟩
 | true =>
 have e1:=chkR_ok hm
 obtain⟨b,hb⟩:∃ b,wrN n=b:=⟨_,rfl⟩
 obtain⟨q,hq⟩:∃ q,chkN n=q:=⟨_,rfl⟩
 replace hb:=Lib.hid hb
 replace hq:=Lib.hid hq
 have hlen:=Lib.hid (mayT_len (mayR_of hm).2.1)
 go_enter Tryz.func40,Tryz.ntmps40
 go_upto_region 1 with fail
 clear hw1
 go_wp2_with fail
 with_reducible refine(checkR_any _ s _ H.out).mono ?_
 rintro e w2 ⟨rfl,hb2⟩
 rw[e1]
 have F1:=(hb2.block w.heap.size kg).trans f1
 have Fn:=(hb2.block (w.heap.size+1) pg).trans fn
 have F2:=(hb2.block (w.heap.size+2) (by rw[hsz.out];omega)).trans f2.out
 have H2:=H.out.below hb2
 have U2:=U.out.below hb2
 have s2:Hid (w.heap.size+3≤w2.heap.size):=Lib.hid (by have:=hb2.size;have:=hsz.out;omega)
 have B2:=Lib.hid (hB.trans (hb2.mono hB.size))
 clear k0 k1 k2 k3 kg p0 p1 pg f1 fn hb2 hB f2 e1 H U
 obtain⟨k0,k1,k2,k3,_,kg⟩:=four_cells F1
 obtain⟨p0,p1,_,pg⟩:=two_cells Fn
 replace F2:=Lib.hid F2
 replace H2:=Lib.hid H2
 replace U2:=Lib.hid U2
 go_wp2_with fail
 with_reducible refine(nodeWrite_any _ n _ U2.out).mono ?_
 rintro e w3 ⟨u3,rfl,h3,hb3⟩
 rw[hq.out]
 rw[hb.out] at h3
 obtain⟨E,ce,rfl,_⟩:=id (rBy_open h3)
 have G1:=(hb3.block w.heap.size kg).trans F1
 have Gn:=(hb3.block (w.heap.size+1) pg).trans Fn
 have G2:=(hb3.block (w.heap.size+2) (by have:=s2.out;omega)).trans F2.out
 have H3:=H2.out.below hb3
 have U3:=U2.out.below hb3
 have s3:Hid (w.heap.size+3≤w3.heap.size):=Lib.hid (by have:=hb3.size;have:=s2.out;omega)
 have B3:=Lib.hid (B2.out.trans (hb3.mono B2.out.size))
 have R3:=Lib.hid (stab_by.drop h3)
 clear k0 k1 k2 k3 kg p0 p1 pg F1 Fn hb3 F2 H2 U2 B2 h3 s2
 cases hn:mayN n with
 | false =>
  have hE:=mkE_node (s:=s) hn
  obtain⟨hN,hV⟩:=mk_no (s:=s) (n:=n) (by rw[hE];decide)
  have hq8:q=8:=by rw[← hq.out,chkN,hn];rfl
  subst hq8
  replace hE:=Lib.hid hE
  replace hN:=Lib.hid hN
  replace hV:=Lib.hid hV
  clear H3 U3 G1 Gn hn hm
  obtain⟨k0,k1,k2,k3,k4,k5⟩:=four_cells G2
  obtain⟨W9,hW9,g9,gr9,gs9⟩:=put_four (a':=.slice none 0 0) (b':=.slice none 0 0) (c':=.slice none 0 0) (d':=.slice none 0 0) G2
  obtain⟨n0,n1,n2,n3,_,_⟩:=four_cells g9
  have hB9:=Lib.hid ((B3).out.grown gr9 (B3).out.size (fun q e=>by cases e;omega))
  replace g9:=Lib.hid g9
  replace G2:=Lib.hid G2
  clear gr9 gs9
  go_wp2_with fail
  refine bodyPost_ret (v:=.tuple #[.agg #[.slice none 0 0,.slice none 0 0,.slice none 0 0,.slice none 0 0],.int .i64 0,.int .i64 8]) (by simp[results,Tryz.results40,go_sem,n0,n1,n2,n3]) rfl ?_
  rw[hE.out,hN.out,hV.out]
  exact⟨_,rfl,sto_empty _ _,hB9.out⟩
 | true =>
 have hq0:q=0:=by rw[← hq.out,chkN,hn];rfl
 subst hq0
 have hbk:Hid (blkN n=b):=Lib.hid (by rw[← hb.out,wrN,hn];rfl)
 have hways:=Lib.hid (mk_ways hm hn)
 obtain⟨k0,k1,k2,k3,_,kg⟩:=four_cells G1
 obtain⟨p0,p1,_,pg⟩:=two_cells Gn
 replace G2:=Lib.hid G2
 replace H3:=Lib.hid H3
 replace U3:=Lib.hid U3
 go_wp2_with fail
 obtain⟨_,_,e9,l1,m1,hby⟩:=rBy_byt (B:=w3.heap.size) (fun _ h=>h) H3.out.parts.2.1
 cases e9
 with_reducible refine(clone_any N s.2.1.length cn s.2.1 (Lib.hid rfl) (by rw[hlen.out];omega) _ hby).mono ?_
 rintro e w4 ⟨u4,rfl,hu4,hb4⟩
 obtain⟨g,c2,rfl,hg1,hg2,hg3,hg4⟩:=own_head hu4 (by rw[hlen.out];omega)
 rw[hlen.out] at hu4 ⊢
 have F1:=(hb4.block w.heap.size kg).trans G1
 have Fn:=(hb4.block (w.heap.size+1) pg).trans Gn
 have F2:=Lib.hid ((hb4.block (w.heap.size+2) (by have:=s3.out;omega)).trans G2.out)
 have H4:=Lib.hid (show Sto (Off g w4) w4 _ s from H3.out.map fun _ _ hp hc=>off_low hb4 hg1 hp hc)
 have U4:=Lib.hid (show Nod (Off g w4) w4 _ n from U3.out.map fun _ _ hp hc=>off_low hb4 hg1 hp hc)
 have R4:=Lib.hid (show rBy (Off g w4) w4 _ b from stab_by _ _ _ _ _ _ (fun _ _ hp hc=>off_low hb4 hg1 hp hc) R3.out)
 have O4:=Lib.hid hu4
 have B4:=Lib.hid (B3.out.trans (hb4.mono B3.out.size))
 have hgw:Hid (w.heap.size+3≤g):=Lib.hid (by have:=s3.out;omega)
 clear k0 k1 k2 k3 kg p0 p1 pg G1 Gn G2 hb4 H3 U3 R3 B3 hby l1 m1 hu4 hg1 s3
 obtain⟨k0,k1,k2,k3,_,kg⟩:=four_cells F1
 obtain⟨p0,p1,_,pg⟩:=two_cells Fn
 obtain⟨r,hr⟩:∃ r,ctE s.2.1 n.2=r:=⟨_,rfl⟩
 go_wp2_with fail
 with_reducible refine(refer_any g c2 w3.heap.size s.2.1 _ n hn hlen.out _ O4.out U4.out).mono ?_
 rintro e w5 ⟨rfl,hgr,hown⟩
 rw[hr] at hown ⊢
 have E1:=(hgr.block w.heap.size kg (by have:=hgw.out;simp;omega)).trans F1
 have E3:=(hgr.block (w.heap.size+2) (by have:=F2.out;exact(Array.getElem?_eq_some_iff.1 this).1) (by have:=hgw.out;simp;omega)).trans F2.out
 have B5:=Lib.hid (B4.out.grown hgr B4.out.size (fun q e=>by cases e;have:=hgw.out;omega))
 have H5:=Lib.hid (show Sto (Old w5) w5 _ s from (H4.out.map fun _ _ hp hc=>off_put hgr hp hc).map fun _ _ hp hc=>off_old hp hc)
 have R5:=Lib.hid (show rBy (Old w5) w5 _ b from stab_by _ _ _ _ _ _ (fun _ _ hp hc=>off_old hp hc) (stab_by _ _ _ _ _ _ (fun _ _ hp hc=>off_put hgr hp hc) R4.out))
 clear k0 k1 k2 k3 kg p0 p1 pg F1 Fn F2 B4 H4 U4 R4 O4 hgr
 rcases hways.out with ⟨hc,hE,hN,hV⟩ | ⟨hc,hE,hN,hV⟩
 ·rw[hr] at hc hE
  have hr1:(r != 0)=true:=by simpa using hc
  replace hE:=Lib.hid hE
  replace hN:=Lib.hid hN
  replace hV:=Lib.hid hV
  replace hr:=Lib.hid hr
  clear E1 hown hc hm hn hways
  obtain⟨k0,k1,k2,k3,k4,k5⟩:=four_cells E3
  obtain⟨W9,hW9,g9,gr9,gs9⟩:=put_four (a':=.slice none 0 0) (b':=.slice none 0 0) (c':=.slice none 0 0) (d':=.slice none 0 0) E3
  obtain⟨n0,n1,n2,n3,_,_⟩:=four_cells g9
  have hB9:=Lib.hid ((B5).out.grown gr9 (B5).out.size (fun q e=>by cases e;omega))
  replace g9:=Lib.hid g9
  replace E3:=Lib.hid E3
  clear gr9 gs9
  go_wp2_with fail
  refine bodyPost_ret (v:=.tuple #[.agg #[.slice none 0 0,.slice none 0 0,.slice none 0 0,.slice none 0 0],.int .i64 0,.int .i64 r]) (by simp[results,Tryz.results40,go_sem,n0,n1,n2,n3]) rfl ?_
  rw[hE.out,hN.out,hV.out]
  exact⟨_,rfl,sto_empty _ _,hB9.out⟩
 ·rw[hr] at hc
  subst hc
  rw[hbk.out] at hE hN hV
  have hctl:(ctV s.2.1 n.2).length=256:=by rw[ctV_len,hlen.out]
  have T5:Hid (Sto (Old w5) w5 (.agg #[.slice A s.1.1.length ca,.slice B s.1.2.length cb,.slice (some ⟨g,0,none⟩) 256 c2,.slice L s.2.2.length cl]) (ctS s n)):=Lib.hid (Sto.mk H5.out.parts.1 (stab_by.drop (own_by (hown rfl))) H5.out.parts.2.2)
  obtain⟨S,hS⟩:∃ S,ctS s n=S:=⟨_,rfl⟩
  rw[hS] at T5 hE hN hV
  obtain⟨V,hVV⟩:∃ V,tkV S b=V:=⟨_,rfl⟩
  obtain⟨x,hx⟩:∃ x,tkN S b=x:=⟨_,rfl⟩
  obtain⟨y,hy⟩:∃ y,tkE S b=y:=⟨_,rfl⟩
  rw[hVV] at hV
  rw[hx] at hN
  rw[hy] at hE
  replace hE:=Lib.hid hE
  replace hN:=Lib.hid hN
  replace hV:=Lib.hid hV
  replace hr:=Lib.hid hr
  replace hS:=Lib.hid hS
  replace hVV:=Lib.hid hVV
  replace hx:=Lib.hid hx
  replace hy:=Lib.hid hy
  obtain⟨k0,k1,k2,k3,_,kg⟩:=four_cells E1
  replace E3:=Lib.hid E3
  clear hown hm hn hways hctl
  go_wp2_with fail
  with_reducible refine(takeR_any _ _ S b _ T5.out R5.out).mono ?_
  rintro e w6 ⟨t6,rfl,h6,hb6⟩
  rw[hx.out,hy.out]
  rw[hVV.out] at h6
  obtain⟨A6,a6,B6,b6,N6,n6,L6,l6,rfl,_⟩:=id h6.open
  have F6:=(hb6.block (w.heap.size+2) (by exact(Array.getElem?_eq_some_iff.1 E3.out).1)).trans E3.out
  have s6:Hid (w.heap.size+2<w5.heap.size):=Lib.hid (Array.getElem?_eq_some_iff.1 E3.out).1
  obtain⟨o0,o1,o2,o3,_,_⟩:=four_cells F6
  obtain⟨W9,hW9,g9,gr9,gs9⟩:=put_four (a':=.slice A6 V.1.1.length a6) (b':=.slice B6 V.1.2.length b6) (c':=.slice N6 V.2.1.length n6) (d':=.slice L6 V.2.2.length l6) F6
  obtain⟨n0,n1,n2,n3,_,_⟩:=four_cells g9
  have hfin:=Lib.hid (show Sto (New w.heap.size W9) W9 _ V from (h6.grown gr9 (fun q e=>by cases e;exact s6.out)).new B5.out.size (Below.refl _ _))
  have hB9:=Lib.hid ((B5.out.trans (hb6.mono B5.out.size)).grown gr9 (Nat.le_trans B5.out.size hb6.size) (fun q e=>by cases e;omega))
  replace F6:=Lib.hid F6
  replace g9:=Lib.hid g9
  clear gr9 gs9 h6 hb6 k0 k1 k2 k3 kg E1
  go_wp2_with fail
  refine bodyPost_ret (v:=.tuple #[.agg #[.slice A6 V.1.1.length a6,.slice B6 V.1.2.length b6,.slice N6 V.2.1.length n6,.slice L6 V.2.2.length l6],.int .i64 x,.int .i64 y]) (by simp[results,Tryz.results40,go_sem,n0,n1,n2,n3]) rfl ?_
  rw[hE.out,hN.out,hV.out]
  exact⟨_,rfl,hfin.out,hB9.out⟩
end Go.Proofs.YtogieepfimpdmaaGreat
/-
 Layer 9: the contracts as laws want them;the laws' alive. Conditions: those that each lemma states.
-/
namespace Go.Proofs.YtogieepfimpdmaaGreat
open Go.RowKit
theorem makeV_open (v u:Value) (s:Rm) (n:Nd) (w:World) (h:Sto (Old w) w v s) (hu:Nod (Old w) w u n) :
  Calls Tryz.prog 40 #[v,u] w fun e W'=>∃ A ca B cb N cn L cl,e=.returned (.tuple #[.agg #[.slice A (mkV s n).1.1.length ca,.slice B (mkV s n).1.2.length cb,.slice N (mkV s n).2.1.length cn,.slice L (mkV s n).2.2.length cl],.int .i64 (mkN s n),.int .i64 (mkE s n)]) ∧
   Sto (New w.heap.size W') W' (.agg #[.slice A (mkV s n).1.1.length ca,.slice B (mkV s n).1.2.length cb,.slice N (mkV s n).2.1.length cn,.slice L (mkV s n).2.2.length cl]) (mkV s n)∧Below w.heap.size w W':=by
 refine(makeV_any v u s n w h hu).mono ?_
 rintro e W' ⟨t,rfl,ht,hb⟩
 obtain⟨A,ca,B,cb,N,cn,L,cl,rfl,_⟩:=id ht.open
 exact⟨A,ca,B,cb,N,cn,L,cl,rfl,ht,hb⟩
theorem leaveV_open (v:Value) (s:Rm) (n:Int) (w:World) (h:Sto (Old w) w v s) :
  Calls Tryz.prog 28 #[v,.int .i64 n] w fun e W'=>∃ A ca B cb N cn L cl,e=.returned (.tuple #[.agg #[.slice A (lvV s n).1.1.length ca,.slice B (lvV s n).1.2.length cb,.slice N (lvV s n).2.1.length cn,.slice L (lvV s n).2.2.length cl],.int .i64 (lvE s n)]) ∧
   Sto (New w.heap.size W') W' (.agg #[.slice A (lvV s n).1.1.length ca,.slice B (lvV s n).1.2.length cb,.slice N (lvV s n).2.1.length cn,.slice L (lvV s n).2.2.length cl]) (lvV s n)∧Below w.heap.size w W':=by
 refine(leaveV_any v s n w h).mono ?_
 rintro e W' ⟨t,rfl,ht,hb⟩
 obtain⟨A,ca,B,cb,N,cn,L,cl,rfl,_⟩:=id ht.open
 exact⟨A,ca,B,cb,N,cn,L,cl,rfl,ht,hb⟩
theorem looseV_open (v:Value) (s:Rm) (n:Int) (w:World) (h:Sto (Old w) w v s) :
  Calls Tryz.prog 69 #[v,.int .i64 n] w fun e W'=>∃ A ca B cb N cn L cl,e=.returned (.tuple #[.agg #[.slice A (loV s n).1.1.length ca,.slice B (loV s n).1.2.length cb,.slice N (loV s n).2.1.length cn,.slice L (loV s n).2.2.length cl],.int .i64 (asE s n)]) ∧
   Sto (New w.heap.size W') W' (.agg #[.slice A (loV s n).1.1.length ca,.slice B (loV s n).1.2.length cb,.slice N (loV s n).2.1.length cn,.slice L (loV s n).2.2.length cl]) (loV s n)∧Below w.heap.size w W':=by
 refine(looseV_any v s n w h).mono ?_
 rintro e W' ⟨t,rfl,ht,hb⟩
 obtain⟨A,ca,B,cb,N,cn,L,cl,rfl,_⟩:=id ht.open
 exact⟨A,ca,B,cb,N,cn,L,cl,rfl,ht,hb⟩
end Go.Proofs.YtogieepfimpdmaaGreat
/-
 Package put: one node laid,or two. Conditions: those that each lemma states.
-/
namespace Go.Proofs.YtogieepfimpdmaaGreat
open Go.RowKit
def partsL (L:List It):List (List It):=if L.length≤5 then [L] else [L.take 3,L.drop 3]
noncomputable def mkA (lv:Int):Rm→List It→List (List It)→Int×Rm×List It
 | s,M,[]=>(0,s,M)
 | s,M,l::r=>if mkE s (lv,l)=0 then mkA lv (mkV s (lv,l)) (M++[upI l (mkN s (lv,l))]) r else (mkE s (lv,l),emptyR,[])
theorem mkA_step {lv:Int} {s:Rm} {M l:List It} {P:List (List It)} {k:Nat} (h:P[k]? = some l):mkA lv s M (P.drop k)=if mkE s (lv,l)=0 then mkA lv (mkV s (lv,l)) (M++[upI l (mkN s (lv,l))]) (P.drop (k+1)) else (mkE s (lv,l),emptyR,[]):=by
 obtain⟨hl,e⟩:=List.getElem?_eq_some_iff.1 h
 rw[List.drop_eq_getElem_cons hl,e]
 rfl
theorem mkA_built (lv:Int) (s:Rm) (L:List It):mkA lv s [] (partsL L)=builtO s lv L:=by
 unfold partsL builtO
 split
 ·simp only[mkA]
  split <;> rfl
 ·simp only[mkA]
  split
  ·split <;> rfl
  ·rfl
noncomputable def looL:List It→Rm→Int×Rm
 | [],s=>(0,s)
 | x::r,s=>if x.2.1=0 then looL r s else if asE s x.2.1=0 then looL r (loV s x.2.1) else (asE s x.2.1,emptyR)
theorem looL_step {s:Rm} {F:List It} {k:Nat} {x:It} (h:F[k]? = some x):looL (F.drop k) s=if x.2.1=0 then looL (F.drop (k+1)) s else if asE s x.2.1=0 then looL (F.drop (k+1)) (loV s x.2.1) else (asE s x.2.1,emptyR):=by
 obtain⟨hl,e⟩:=List.getElem?_eq_some_iff.1 h
 rw[List.drop_eq_getElem_cons hl,e]
 rfl
noncomputable def layO (s:Rm) (lv:Int) (L F:List It):Int×Rm×List It :=
 if (builtO s lv L).1=0 then (if (looL F (builtO s lv L).2.1).1=0 then (0,(looL F (builtO s lv L).2.1).2,(builtO s lv L).2.2) else ((looL F (builtO s lv L).2.1).1,emptyR,[])) else ((builtO s lv L).1,emptyR,[])
theorem its_less {ok:Addr→Prop} {w:World} {A:Option Addr} {n c:Nat} {L:List It} (h:rIts ok w [.slice A n c] L) (k:Nat) (hk:k≤L.length):rIts ok w [.slice A k c] (L.take k):=by
 obtain⟨A',c',e,h1,h2,h3⟩:=h
 cases e
 refine⟨A,c,by rw[List.length_take,Nat.min_eq_left hk],by rw[List.length_take];omega,h2,fun i x hi => ?_⟩
 rcases Nat.lt_or_ge i k with hik | hik
 ·rw[List.getElem?_take_of_lt hik] at hi
  exact h3 i x hi
 ·rw[List.getElem?_eq_none (by rw[List.length_take];omega)] at hi
  cases hi
theorem nodes_parts (A:Option Addr) (n c:Nat) (L:List It) (w0 w:World) (h:rIts (Old w0) w0 [.slice A n c] L) (hn:L.length=n) (h0:0<n) :
  Calls Tryz.prog 68 #[.slice A n c] w fun e w'=>∃ PV:List Value,e=.returned (.slice (some ⟨w.heap.size,0,none⟩) PV.length PV.length)∧PV.length=(partsL L).length∧PV.length≤2∧0<PV.length∧w'.heap[w.heap.size]? = some (.cells PV.toArray 43 (0,0)) ∧
   (∀ (k:Nat) (l:List It),(partsL L)[k]? = some l→∃ (ad:Addr) (d:Nat),PV[k]? = some (Value.slice (some ad) l.length d)∧rIts (Old w0) w0 [.slice (some ad) l.length d] l∧0<l.length)∧Below w.heap.size w w':=by
 subst hn
 obtain⟨A',c',e,h1,h2⟩:=its_open h
 cases e
 have hA:0<L.length→∃ ad,A=some ad:=fun hp=>by
  obtain⟨_,_,e,_,_,h4⟩:=id h
  cases e
  obtain⟨ad,_,e,_⟩:=h4 0 _ (List.getElem?_eq_getElem hp)
  exact⟨ad,e⟩
 refine(nodes_any A L.length c w h1 h2 hA).mono ?_
 rintro e w' ⟨hb,⟨h5,rfl,hg⟩ | ⟨h5,ad,rfl,rfl,hg⟩⟩
 ·obtain⟨ad,rfl⟩:=hA h0
  refine⟨[.slice (some ad) L.length c],rfl,by unfold partsL;rw[if_pos h5];rfl,by simp,by simp,hg,fun k l hl => ?_,hb⟩
  unfold partsL at hl
  rw[if_pos h5] at hl
  match k,hl with
  | 0,hl =>
   cases hl
   exact⟨ad,c,rfl,h,h0⟩
  | k+1,hl=>simp at hl
 ·refine⟨[.slice (some ad) 3 c,.slice (some (ad.add (3*5))) (L.length-3) (c-3)],rfl,by unfold partsL;rw[if_neg (by omega)];rfl,by simp,by simp,hg,fun k l hl => ?_,hb⟩
  unfold partsL at hl
  rw[if_neg (by omega)] at hl
  have ht:(L.take 3).length=3:=by rw[List.length_take];omega
  match k,hl with
  | 0,hl =>
   cases hl
   exact⟨ad,c,by rw[ht];rfl,by rw[ht];exact its_less h 3 (by omega),by omega⟩
  | 1,hl =>
   cases hl
   exact⟨ad.add (3*5),c-3,by rw[List.length_drop];rfl,by rw[List.length_drop];exact its_rest h 3 (by omega),by rw[List.length_drop];omega⟩
  | k+2,hl=>simp at hl
theorem makeV_four (v u:Value) (s:Rm) (n:Nd) (w:World) (h:Sto (Old w) w v s) (hu:Nod (Old w) w u n) :
  Calls Tryz.prog 40 #[v,u] w fun e W'=>∃ qa qb qc qd:Option Addr×Nat×Nat,e=.returned (.tuple #[.agg #[.slice qa.1 qa.2.1 qa.2.2,.slice qb.1 qb.2.1 qb.2.2,.slice qc.1 qc.2.1 qc.2.2,.slice qd.1 qd.2.1 qd.2.2],.int .i64 (mkN s n),.int .i64 (mkE s n)])∧Sto (New w.heap.size W') W' (.agg #[.slice qa.1 qa.2.1 qa.2.2,.slice qb.1 qb.2.1 qb.2.2,.slice qc.1 qc.2.1 qc.2.2,.slice qd.1 qd.2.1 qd.2.2]) (mkV s n)∧Below w.heap.size w W' :=
 (makeV_open v u s n w h hu).mono fun _ _ ⟨A,ca,B,cb,N,cn,L,cl,h1,h2,h3⟩=>⟨(A,_,ca),(B,_,cb),(N,_,cn),(L,_,cl),h1,h2,h3⟩
theorem looseV_four (v:Value) (s:Rm) (n:Int) (w:World) (h:Sto (Old w) w v s) :
  Calls Tryz.prog 69 #[v,.int .i64 n] w fun e W'=>∃ qa qb qc qd:Option Addr×Nat×Nat,e=.returned (.tuple #[.agg #[.slice qa.1 qa.2.1 qa.2.2,.slice qb.1 qb.2.1 qb.2.2,.slice qc.1 qc.2.1 qc.2.2,.slice qd.1 qd.2.1 qd.2.2],.int .i64 (asE s n)])∧Sto (New w.heap.size W') W' (.agg #[.slice qa.1 qa.2.1 qa.2.2,.slice qb.1 qb.2.1 qb.2.2,.slice qc.1 qc.2.1 qc.2.2,.slice qd.1 qd.2.1 qd.2.2]) (loV s n)∧Below w.heap.size w W' :=
 (looseV_open v s n w h).mono fun _ _ ⟨A,ca,B,cb,N,cn,L,cl,h1,h2,h3⟩=>⟨(A,_,ca),(B,_,cb),(N,_,cn),(L,_,cl),h1,h2,h3⟩
theorem leaveV_four (v:Value) (s:Rm) (n:Int) (w:World) (h:Sto (Old w) w v s) :
  Calls Tryz.prog 28 #[v,.int .i64 n] w fun e W'=>∃ qa qb qc qd:Option Addr×Nat×Nat,e=.returned (.tuple #[.agg #[.slice qa.1 qa.2.1 qa.2.2,.slice qb.1 qb.2.1 qb.2.2,.slice qc.1 qc.2.1 qc.2.2,.slice qd.1 qd.2.1 qd.2.2],.int .i64 (lvE s n)])∧Sto (New w.heap.size W') W' (.agg #[.slice qa.1 qa.2.1 qa.2.2,.slice qb.1 qb.2.1 qb.2.2,.slice qc.1 qc.2.1 qc.2.2,.slice qd.1 qd.2.1 qd.2.2]) (lvV s n)∧Below w.heap.size w W' :=
 (leaveV_open v s n w h).mono fun _ _ ⟨A,ca,B,cb,N,cn,L,cl,h1,h2,h3⟩=>⟨(A,_,ca),(B,_,cb),(N,_,cn),(L,_,cl),h1,h2,h3⟩
def LayR (s:Rm) (lv:Int) (L F:List It) (w:World) (e:Ending) (w':World):Prop:=∃ (qa qb qc qd:Option Addr×Nat×Nat) (M:Option Addr) (mc:Nat),e=.returned (.tuple #[.agg #[.slice qa.1 qa.2.1 qa.2.2,.slice qb.1 qb.2.1 qb.2.2,.slice qc.1 qc.2.1 qc.2.2,.slice qd.1 qd.2.1 qd.2.2],.slice M (layO s lv L F).2.2.length mc,.int .i64 (layO s lv L F).1]) ∧
 Sto (New w.heap.size w') w' (.agg #[.slice qa.1 qa.2.1 qa.2.2,.slice qb.1 qb.2.1 qb.2.2,.slice qc.1 qc.2.1 qc.2.2,.slice qd.1 qd.2.1 qd.2.2]) (layO s lv L F).2.1∧RowOf rIt 5 40 w.heap.size w' M mc (layO s lv L F).2.2∧Below w.heap.size w w'
theorem lay_b {s:Rm} {lv:Int} {L F:List It} {er:Int} (h:builtO s lv L=(er,emptyR,[])) (h0:er≠0):layO s lv L F=(er,emptyR,[]):=by
 unfold layO
 rw[h,if_neg h0]
theorem lay_l {s u:Rm} {lv:Int} {L F up:List It} {er:Int} (h:builtO s lv L=(0,u,up)) (h1:looL F u=(er,emptyR)) (h0:er≠0):layO s lv L F=(er,emptyR,[]):=by
 unfold layO
 rw[h,if_pos rfl,h1,if_neg h0]
theorem lay_ok {s u v:Rm} {lv:Int} {L F up:List It} (h:builtO s lv L=(0,u,up)) (h1:looL F u=(0,v)):layO s lv L F=(0,v,up):=by
 unfold layO
 rw[h,if_pos rfl,h1,if_pos rfl]
set_option maxRecDepth 100000 in
set_option maxHeartbeats 8000000 in
theorem lay_any (qa qb qc qd:Option Addr×Nat×Nat) (s:Rm) (lv:Int) (hlv:In64 lv) (A:Option Addr) (n cA:Nat) (L:List It) (B:Option Addr) (m cB:Nat) (F:List It) (w:World) (h:Sto (Old w) w (.agg #[.slice qa.1 qa.2.1 qa.2.2,.slice qb.1 qb.2.1 qb.2.2,.slice qc.1 qc.2.1 qc.2.2,.slice qd.1 qd.2.1 qd.2.2]) s)
  (hL:rIts (Old w) w [.slice A n cA] L) (hF:rIts (Old w) w [.slice B m cB] F) (hn:L.length=n) (h0:0<n) (hm:F.length=m) (hm1:m≤1000) :
  Calls Tryz.prog 46 #[.agg #[.slice qa.1 qa.2.1 qa.2.2,.slice qb.1 qb.2.1 qb.2.2,.slice qc.1 qc.2.1 qc.2.2,.slice qd.1 qd.2.1 qd.2.2],.int .i64 lv,.slice A n cA,.slice B m cB] w (LayR s lv L F w):=by
 obtain⟨w1,hw1,b1,hs1,hB1⟩:=box_4 w (.slice qa.1 qa.2.1 qa.2.2) (.slice qb.1 qb.2.1 qb.2.2) (.slice qc.1 qc.2.1 qc.2.2) (.slice qd.1 qd.2.1 qd.2.2) 29
 obtain⟨w2,hw2,b2,hs2,hB2⟩:=box_4 w1 (.slice none 0 0) (.slice none 0 0) (.slice none 0 0) (.slice none 0 0) 29
 have hB12:=hB1.trans (hB2.mono hB1.size)
 have hb1:=(hB2.block w.heap.size (by omega)).trans b1
 have HP:=Lib.hid (nodes_parts A n cA L w w2 hL hn h0)
 have HS:=Lib.hid (h.below hB12)
 have HF:=Lib.hid hF
 have B2:=Lib.hid hB12
 have G1:=Lib.hid hb1
 have G2:=Lib.hid b2
 have hbu:=Lib.hid (mkA_built lv s L)
 have SZ:=Lib.hid (show w1.heap.size=w.heap.size+1∧w2.heap.size=w.heap.size+2 from ⟨hs1,by omega⟩)
 replace hn:=Lib.hid hn
 replace hm:=Lib.hid hm
 replace hlv:=Lib.hid hlv
 replace hs1:=Lib.hid hs1
 replace hs2:=Lib.hid hs2
 clear h hL hF hB1 hB2 hB12 b1 b2 hb1
 go_enter Tryz.func46,Tryz.ntmps46
 go_upto_region 1 with fail
 clear hw1 hw2
 go_wp2_with fail
 with_reducible refine(HP.out).mono ?_
 rintro e w3 ⟨PV,rfl,hPl,hP2,hP0,hg3,hpv,hb3⟩
 have B3:=Lib.hid (B2.out.trans (hb3.mono B2.out.size))
 have H3:=Lib.hid (HS.out.below hb3)
 have g1:=Lib.hid ((hb3.block w.heap.size (by have:=SZ.out;omega)).trans G1.out)
 have g2:=Lib.hid ((hb3.block w1.heap.size (by have:=SZ.out;omega)).trans G2.out)
 have s3:=Lib.hid (show w2.heap.size<w3.heap.size from (Array.getElem?_eq_some_iff.1 hg3).1)
 obtain⟨K,hK⟩:∃ K,PV.length=K:=⟨_,rfl⟩
 obtain⟨P,hP⟩:∃ P,partsL L=P:=⟨_,rfl⟩
 rw[hK] at hPl hP2 hP0 ⊢
 rw[hP] at hPl hpv hbu
 have hg3:=Lib.hid hg3
 have hpv:=Lib.hid hpv
 replace hPl:=Lib.hid hPl
 replace hK:=Lib.hid hK
 replace hP:=Lib.hid hP
 have hzero:Hid (∀ (er:Int) (W:World),layO s lv L F=(er,emptyR,[])→w3.grownBy W (some w.heap.size)→∃ W9,(((W.setCell ⟨w1.heap.size,0,none⟩ (.slice none 0 0)).setCell ⟨w1.heap.size,1,none⟩ (.slice none 0 0)).setCell ⟨w1.heap.size,2,none⟩ (.slice none 0 0)).setCell ⟨w1.heap.size,3,none⟩ (.slice none 0 0)=W9 ∧
   W9.cell? ⟨w1.heap.size,0,none⟩=some (.slice none 0 0)∧W9.cell? ⟨w1.heap.size,1,none⟩=some (.slice none 0 0)∧W9.cell? ⟨w1.heap.size,2,none⟩=some (.slice none 0 0)∧W9.cell? ⟨w1.heap.size,3,none⟩=some (.slice none 0 0) ∧
   W.cell? ⟨w1.heap.size,0,none⟩=some (.slice none 0 0)∧W.cell? ⟨w1.heap.size,1,none⟩=some (.slice none 0 0)∧W.cell? ⟨w1.heap.size,2,none⟩=some (.slice none 0 0)∧W.cell? ⟨w1.heap.size,3,none⟩=some (.slice none 0 0)∧(∀ o,W.frozen? ⟨w1.heap.size,o,none⟩=false) ∧
   LayR s lv L F w (.returned (.tuple #[.agg #[.slice none 0 0,.slice none 0 0,.slice none 0 0,.slice none 0 0],.slice none 0 0,.int .i64 er])) W9):=Lib.hid fun er W he hW=>by
  have bW:=(hW.block w1.heap.size (by have:=s3.out;have:=SZ.out;omega) (by have:=SZ.out;intro e;have:=Option.some.inj e;omega)).trans g2.out
  obtain⟨W9,e9,g9,gr9,_⟩:=put_four (a':=.slice none 0 0) (b':=.slice none 0 0) (c':=.slice none 0 0) (d':=.slice none 0 0) bW
  obtain⟨k0,k1,k2,k3,_⟩:=four_cells g9
  obtain⟨y0,y1,y2,y3,yf,_⟩:=four_cells bW
  have hBW:=(B3.out.grown hW B3.out.size (fun q e=>by cases e;exact Nat.le_refl _)).grown gr9 (by have:=hW.size;have:=B3.out.size;omega) (fun q e=>by cases e;have:=SZ.out;omega)
  refine⟨W9,e9,k0,k1,k2,k3,y0,y1,y2,y3,yf,(none,0,0),(none,0,0),(none,0,0),(none,0,0),none,0,by rw[he];rfl,by rw[he];exact sto_empty _ _,by rw[he];exact RowOf.nil _ _ _ _ _,hBW⟩
 clear hb3
 go_wp2_with fail
 go_loopw [9,19] (fun mv iv wr=>∃ (k:Nat) (M:Option Addr) (mc:Nat) (made:List It) (sk:Rm) (qa qb qc qd:Option Addr×Nat×Nat),k≤K∧iv=.int .i64 (k:Int)∧mv=.slice M made.length mc∧made.length=k∧mkA lv s [] P=mkA lv sk made (P.drop k)∧wr.heap[w.heap.size]? = some (.cells #[.slice qa.1 qa.2.1 qa.2.2,.slice qb.1 qb.2.1 qb.2.2,.slice qc.1 qc.2.1 qc.2.2,.slice qd.1 qd.2.1 qd.2.2] 29 (0,0)) ∧
   Sto (Old wr) wr (.agg #[.slice qa.1 qa.2.1 qa.2.2,.slice qb.1 qb.2.1 qb.2.2,.slice qc.1 qc.2.1 qc.2.2,.slice qd.1 qd.2.1 qd.2.2]) sk∧(0<k→Sto (New w3.heap.size wr) wr (.agg #[.slice qa.1 qa.2.1 qa.2.2,.slice qb.1 qb.2.1 qb.2.2,.slice qc.1 qc.2.1 qc.2.2,.slice qd.1 qd.2.1 qd.2.2]) sk)∧RowOf rIt 5 40 w3.heap.size wr M mc made∧w3.grownBy wr (some w.heap.size)) (fun _ iv _=>K-(intOf iv).toNat)
 case atStart=>exact⟨0,none,0,[],s,qa,qb,qc,qd,by omega,rfl,rfl,rfl,rfl,g1.out,H3.out,fun h=>by omega,RowOf.nil _ _ _ _ _,grow_refl _ _⟩
 case round =>
  obtain⟨k,M,mc,made,sk,pa,pb,pc,pd,hk,rfl,rfl,hml,hmk,hbx,hsto,hnew,hrow,hgr⟩:=hrel
  replace hmk:=Lib.hid hmk
  replace hnew:=Lib.hid hnew
  replace hgr:=Lib.hid hgr
  by_cases hlt:k<K
  case neg =>
   have hkK:k=K:=by omega
   subst hkK
   have hst4:=hnew.out hP0
   have hbe:Hid (builtO s lv L=(0,sk,made)):=Lib.hid (by rw[← hbu.out,hmk.out,List.drop_of_length_le (by have:=hPl.out;omega)];rfl)
   have hBr:=Lib.hid (B3.out.grown hgr.out B3.out.size (fun q e=>by cases e;exact Nat.le_refl _))
   obtain⟨mm,hmm⟩:∃ q,made.length=q:=⟨_,rfl⟩
   rw[hmm] at hml
   have g4:=Lib.hid hbx
   have h4:=Lib.hid hst4
   have row4:=Lib.hid hrow
   have hlt34:=Lib.hid (show w3.heap.size≤wr.heap.size from hgr.out.size)
   rw[hmm]
   have hm1':=hm1
   replace hmm:=Lib.hid hmm
   replace hml:=Lib.hid hml
   clear hsto hnew hst4 hbx hrow hmk hlt
   go_wp2_with fail
   go_loopw [9,48] (fun mv iv wz=>∃ (j:Nat) (sz:Rm) (ra rb rc rd:Option Addr×Nat×Nat),j≤m∧mv=.slice M mm mc∧iv=.int .i64 (j:Int)∧looL F sk=looL (F.drop j) sz∧wz.heap[w.heap.size]? = some (.cells #[.slice ra.1 ra.2.1 ra.2.2,.slice rb.1 rb.2.1 rb.2.2,.slice rc.1 rc.2.1 rc.2.2,.slice rd.1 rd.2.1 rd.2.2] 29 (0,0)) ∧
    Sto (New w3.heap.size wz) wz (.agg #[.slice ra.1 ra.2.1 ra.2.2,.slice rb.1 rb.2.1 rb.2.2,.slice rc.1 rc.2.1 rc.2.2,.slice rd.1 rd.2.1 rd.2.2]) sz∧RowOf rIt 5 40 w3.heap.size wz M mc made∧w3.grownBy wz (some w.heap.size)) (fun _ iv _=>m-(intOf iv).toNat)
   case atStart=>exact⟨0,sk,pa,pb,pc,pd,by omega,rfl,rfl,rfl,g4.out,h4.out,row4.out,hgr.out⟩
   case round =>
    obtain⟨j,sz,ra,rb,rc,rd,hj,rfl,rfl,hlo,hbz,hsz,hrz,hgz⟩:=hrel
    replace hlo:=Lib.hid hlo
    replace hgz:=Lib.hid hgz
    replace hrz:=Lib.hid hrz
    have hBz:=Lib.hid (B3.out.grown hgz.out B3.out.size (fun q e=>by cases e;exact Nat.le_refl _))
    have hlt3z:=Lib.hid (show w3.heap.size≤wr.heap.size from hgz.out.size)
    obtain⟨k0,k1,k2,k3,kf,kg⟩:=four_cells hbz
    by_cases hjm:j<m
    case neg =>
     have hjm':j=m:=by omega
     subst hjm'
     have hlay:Hid (layO s lv L F=(0,sz,made)):=Lib.hid (lay_ok hbe.out (by rw[hlo.out,List.drop_of_length_le (by rw[hm.out];exact Nat.le_refl _)];rfl))
     have bW:=(hgz.out.block w1.heap.size (by have:=s3.out;have:=SZ.out;omega) (by have:=SZ.out;intro e;have:=Option.some.inj e;omega)).trans g2.out
     obtain⟨W9,e9,g9,gr9,_⟩:=put_four (a':=.slice ra.1 ra.2.1 ra.2.2) (b':=.slice rb.1 rb.2.1 rb.2.2) (c':=.slice rc.1 rc.2.1 rc.2.2) (d':=.slice rd.1 rd.2.1 rd.2.2) bW
     obtain⟨n0,n1,n2,n3,_⟩:=four_cells g9
     obtain⟨y0,y1,y2,y3,yf,_⟩:=four_cells bW
     have hq1:∀ q,(some w1.heap.size:Option Nat)=some q→q<w3.heap.size:=fun q e=>by cases e;have:=s3.out;have:=SZ.out;omega
     have hfin:Hid (LayR s lv L F w (.returned (.tuple #[.agg #[.slice ra.1 ra.2.1 ra.2.2,.slice rb.1 rb.2.1 rb.2.2,.slice rc.1 rc.2.1 rc.2.2,.slice rd.1 rd.2.1 rd.2.2],.slice M mm mc,.int .i64 0])) W9):=Lib.hid ⟨ra,rb,rc,rd,M,mc,by rw[hlay.out,hmm.out],by rw[hlay.out];exact(hsz.grown gr9 hq1).new B3.out.size (Below.refl _ _),by rw[hlay.out];exact(hrz.out.grown stab_it gr9 hq1).low stab_it B3.out.size,hBz.out.grown gr9 (by have:=hlt3z.out;have:=B3.out.size;omega) (fun q e=>by cases e;have:=SZ.out;omega)⟩
     replace g9:=Lib.hid g9
     replace bW:=Lib.hid bW
     replace hbz:=Lib.hid hbz
     replace hsz:=Lib.hid hsz
     clear gr9 hzero
     go_wp2_with fail
     exact bodyPost_ret (v:=.tuple #[.agg #[.slice ra.1 ra.2.1 ra.2.2,.slice rb.1 rb.2.1 rb.2.2,.slice rc.1 rc.2.1 rc.2.2,.slice rd.1 rd.2.1 rd.2.2],.slice M mm mc,.int .i64 0]) (by simp[results,Tryz.results46,go_sem,n0,n1,n2,n3]) rfl hfin.out
    obtain⟨x,hx⟩:∃ x,F[j]? = some x:=⟨_,List.getElem?_eq_getElem (by rw[hm.out];exact hjm)⟩
    have hst:=looL_step (s:=sz) hx
    obtain⟨ad5,E5,ce5,rfl,_,⟨z0,z1,z2,z3,z4⟩,_⟩:=its_at (stab_its.old HF.out hBz.out) hx
    have hLo:=Lib.hid (fun v W hW=>looseV_four v sz x.2.1 W hW)
    obtain⟨z,hzz⟩:∃ z,x.2.1=z:=⟨_,rfl⟩
    obtain⟨w5,hw5,-,-,-,y3,-,hs5,hB5,g5⟩:=box_five wr (.int .u8 (x.1.1.toNat:Int)) (.int .u32 x.1.2.1) (.int .u32 x.1.2.2) (.int .i64 x.2.1) (.slice E5 x.2.2.length ce5) 40
    rw[hzz] at z3 hst hLo hw5 y3 g5
    have i4:(0:Int)≤(j:Int):=by omega
    have i5:(j:Int)<(m:Int):=by omega
    have i9:IntKind.i64.wrap ((j:Int)+1)=((j+1:Nat):Int):=by rw[IntKind.wrap_i64];omega
    have S5:=Lib.hid (hsz.new (Nat.le_refl _) hB5)
    have R5:=Lib.hid (hrz.out.below stab_it hB5)
    have G5:=Lib.hid (grow_below hgz.out hB5)
    have hbz5:=(hB5.block w.heap.size kg).trans hbz
    have lt5:=Lib.hid (show wr.heap.size<w5.heap.size by omega)
    replace hs5:=Lib.hid hs5
    replace hx:=Lib.hid hx
    replace hzz:=Lib.hid hzz
    replace hsz:=Lib.hid hsz
    have hbzh:=Lib.hid hbz
    clear hbz hB5
    go_upto_region 13 with fail
    clear hw5 z0 z1 z2 z3 z4 k0 k1 k2 k3 kf
    obtain⟨k0,k1,k2,k3,kf,kg5⟩:=four_cells hbz5
    by_cases hz0:z=0
    ·have hn:Hid (looL F sk=looL (F.drop (j+1)) sz):=Lib.hid (by rw[hlo.out,hst,if_pos hz0])
     subst hz0
     have hbz5h:=Lib.hid hbz5
     clear hst hbz5 hLo hzero
     go_wp2_with fail
     go_roundw
     case rel=>exact⟨j+1,sz,ra,rb,rc,rd,by omega,rfl,by go_num,hn.out,hbz5h.out,S5.out,R5.out,G5.out⟩
     case measure=>simp[intOf];omega
    have hz1:(z==0)=false:=by simpa using hz0
    rw[if_neg hz0] at hst
    obtain⟨er,her⟩:∃ q,asE sz z=q:=⟨_,rfl⟩
    obtain⟨V,hV⟩:∃ q,loV sz z=q:=⟨_,rfl⟩
    rw[her,hV] at hst hLo
    replace her:=Lib.hid her
    replace hV:=Lib.hid hV
    replace hz0:=Lib.hid hz0
    have hbz5h:=Lib.hid hbz5
    clear hbz5
    go_wp2_with fail
    with_reducible refine(hLo.out _ _ S5.out.drop).mono ?_
    rintro e w6 ⟨va,vb,vc,vd,rfl,h6,hb6⟩
    obtain⟨w7,hw7,g7,gr7,gs7⟩:=put_four (a':=.slice va.1 va.2.1 va.2.2) (b':=.slice vb.1 vb.2.1 vb.2.2) (c':=.slice vc.1 vc.2.1 vc.2.2) (d':=.slice vd.1 vd.2.1 vd.2.2) ((hb6.block w.heap.size kg5).trans hbz5h.out)
    obtain⟨m0,m1,m2,m3,mf,mg⟩:=four_cells ((hb6.block w.heap.size kg5).trans hbz5h.out)
    have gr7':Hid (w3.grownBy w7 (some w.heap.size)):=Lib.hid (grow_trans (grow_below G5.out hb6) gr7)
    have hq:∀ q,(some w.heap.size:Option Nat)=some q→q<w3.heap.size:=fun q e=>by cases e;have:=s3.out;have:=SZ.out;omega
    have h7:Hid (Sto (New w3.heap.size w7) w7 (.agg #[.slice va.1 va.2.1 va.2.2,.slice vb.1 vb.2.1 vb.2.2,.slice vc.1 vc.2.1 vc.2.2,.slice vd.1 vd.2.1 vd.2.2]) V):=Lib.hid ((h6.grown gr7 (fun q e=>Nat.lt_of_lt_of_le (hq q e) (by have:=lt5.out;have:=hlt3z.out;omega))).new (by have:=lt5.out;have:=hlt3z.out;omega) (Below.refl _ _))
    have R7:=Lib.hid ((R5.out.below stab_it hb6).grown stab_it gr7 hq)
    have g7h:=Lib.hid g7
    replace gs7:=Lib.hid gs7
    clear h6 hb6 gr7 g7 hLo k0 k1 k2 k3 kf y3 g5
    go_upto_region 15 with fail
    by_cases he0:er=0
    ·have hn:Hid (looL F sk=looL (F.drop (j+1)) V):=Lib.hid (by rw[hlo.out,hst,if_pos he0])
     subst he0
     clear hst hzero
     go_wp2_with fail
     go_roundw
     case rel=>exact⟨j+1,V,va,vb,vc,vd,by omega,rfl,by go_num,hn.out,g7h.out,h7.out,R7.out,gr7'.out⟩
     case measure=>simp[intOf];omega
    ·have t0:(er != 0)=true:=by simpa using he0
     have hE:layO s lv L F=(er,emptyR,[]):=lay_l hbe.out (by rw[hlo.out,hst,if_neg he0]) he0
     obtain⟨W9,e9,n0,n1,n2,n3,u0,u1,u2,u3,uf,hfin⟩:=hzero.out er w7 hE gr7'.out
     replace hfin:=Lib.hid hfin
     replace he0:=Lib.hid he0
     clear hst hzero hE
     go_wp2_with fail
     exact bodyPost_ret (v:=.tuple #[.agg #[.slice none 0 0,.slice none 0 0,.slice none 0 0,.slice none 0 0],.slice none 0 0,.int .i64 er]) (by simp[results,Tryz.results46,go_sem,n0,n1,n2,n3]) rfl hfin.out
  obtain⟨l,hl⟩:∃ l,P[k]? = some l:=⟨_,List.getElem?_eq_getElem (by have:=hPl.out;omega)⟩
  obtain⟨ad,dl,hpk,hits,hl0⟩:=hpv.out k l hl
  have hst:=mkA_step (lv:=lv) (s:=sk) (M:=made) hl
  have i1:(0:Int)≤(k:Int):=by omega
  have i2:(k:Int)<(K:Int):=by omega
  have hBr:=Lib.hid (B3.out.grown hgr.out B3.out.size (fun q e=>by cases e;exact Nat.le_refl _))
  have cPk:wr.cell? ⟨w2.heap.size,k,none⟩=some (.slice (some ad) l.length dl):=by
   rw[World.cell?_of_block (hgr.out.block w2.heap.size s3.out (by have:=SZ.out;intro e;have:=Option.some.inj e;omega)),cell_of_row w3 _ k _ _ _ hg3.out]
   simpa using hpk
  have hitr:=stab_its.old hits hBr.out
  obtain⟨x0,r0,hx0⟩:∃ x0 r0,l=x0::r0:=by
   cases l with
   | nil=>simp at hl0
   | cons y r=>exact⟨y,r,rfl⟩
  have hx:l[0]? = some x0:=by rw[hx0];rfl
  obtain⟨ad0,E0,ce0,e0,_,⟨z0,z1,z2,_,_⟩,hit0,_⟩:=its_at hitr hx
  cases e0
  have hkey:keyO l=x0.1:=by rw[hx0];rfl
  have hNod:Nod (Old wr) wr (.agg #[.int .i64 lv,.slice (some ad) l.length dl]) (lv,l):=⟨_,rfl,hlv.out,hitr⟩
  have HM:=Lib.hid (makeV_four (.agg #[.slice pa.1 pa.2.1 pa.2.2,.slice pb.1 pb.2.1 pb.2.2,.slice pc.1 pc.2.1 pc.2.2,.slice pd.1 pd.2.1 pd.2.2]) _ sk (lv,l) wr hsto hNod)
  obtain⟨k0,k1,k2,k3,kf,kg⟩:=four_cells hbx
  obtain⟨ln,hln⟩:∃ q,l.length=q:=⟨_,rfl⟩
  obtain⟨mkn,hmkn⟩:∃ q,mkN sk (lv,l)=q:=⟨_,rfl⟩
  obtain⟨mke,hmke⟩:∃ q,mkE sk (lv,l)=q:=⟨_,rfl⟩
  obtain⟨V,hV⟩:∃ q,mkV sk (lv,l)=q:=⟨_,rfl⟩
  rw[hln] at cPk hl0 HM
  rw[hmkn,hmke,hV] at HM hst
  have hitr':=Lib.hid hitr
  have hbx':=Lib.hid hbx
  have i3:(0:Int)<(ln:Int):=by omega
  have z0':wr.cell? ad=some (.int .u8 (x0.1.1.toNat:Int)):=by simpa [Addr.add] using z0
  have z1':wr.cell? ⟨ad.block,ad.off+1,none⟩=some (.int .u32 x0.1.2.1):=by simpa [Addr.add] using z1
  have z2':wr.cell? ⟨ad.block,ad.off+2,none⟩=some (.int .u32 x0.1.2.2):=by simpa [Addr.add] using z2
  have zlt:ad.block<wr.heap.size:=World.block_lt_of_cell? _ _ z0'
  have zold:Hid (ad.block≠w.heap.size):=Lib.hid (by
   obtain⟨_,_,e,_,_,h4⟩:=hits
   cases e
   obtain⟨_,vs,e,hv5,hh,_⟩:=h4 0 _ hx
   cases e
   obtain⟨v,hv⟩:∃ v,vs[0]? = some v:=⟨_,List.getElem?_eq_getElem (by omega)⟩
   have:=(hh 0 v hv).1
   unfold Old at this
   rw[add_block] at this
   omega)
  have hin0:=Lib.hid (show InK x0.1 from by
   obtain⟨_,_,hi,_⟩:=hit0
   exact hi.key)
  replace hsto:=Lib.hid hsto
  replace hl:=Lib.hid hl
  replace hpk:=Lib.hid hpk
  replace hln:=Lib.hid hln
  replace hmkn:=Lib.hid hmkn
  replace hmke:=Lib.hid hmke
  replace hV:=Lib.hid hV
  replace hrow:=Lib.hid hrow
  replace hml:=Lib.hid hml
  replace hx0:=Lib.hid hx0
  replace hkey:=Lib.hid hkey
  clear hits hitr hNod hit0 z0 z1 z2 hx hbx
  go_wp2_with fail
  with_reducible refine(HM.out).mono ?_
  rintro e w4 ⟨va,vb,vc,vd,rfl,h4,hb4⟩
  obtain⟨w5,hw5,g5,gr5,gs5⟩:=put_four (a':=.slice va.1 va.2.1 va.2.2) (b':=.slice vb.1 vb.2.1 vb.2.2) (c':=.slice vc.1 vc.2.1 vc.2.2) (d':=.slice vd.1 vd.2.1 vd.2.2) ((hb4.block w.heap.size kg).trans hbx'.out)
  obtain⟨m0,m1,m2,m3,mf,mg⟩:=four_cells ((hb4.block w.heap.size kg).trans hbx'.out)
  obtain⟨n0,n1,n2,n3,nf,ng⟩:=four_cells g5
  have hlt34:=Lib.hid (show w3.heap.size≤wr.heap.size from hgr.out.size)
  have gr45:Hid (w3.grownBy w5 (some w.heap.size)):=Lib.hid (grow_trans (grow_below hgr.out hb4) gr5)
  have h5r:Hid (Sto (New wr.heap.size w5) w5 (.agg #[.slice va.1 va.2.1 va.2.2,.slice vb.1 vb.2.1 vb.2.2,.slice vc.1 vc.2.1 vc.2.2,.slice vd.1 vd.2.1 vd.2.2]) V):=Lib.hid (h4.grown gr5 (fun q e=>by cases e;exact kg))
  have hMlt:Hid (∀ q,M.map (·.block)=some q→q<wr.heap.size):=Lib.hid fun q e=>by
   obtain⟨cs,ho,_⟩:=hrow.out
   exact(ho.lt q (by rw[← e];cases M <;> rfl)).2
  have h5:Hid (Sto (New w3.heap.size w5) w5 (.agg #[.slice va.1 va.2.1 va.2.2,.slice vb.1 vb.2.1 vb.2.2,.slice vc.1 vc.2.1 vc.2.2,.slice vd.1 vd.2.1 vd.2.2]) V):=Lib.hid (by
   have h4':=h4.grown gr5 (fun q e=>by cases e;have:=hlt34.out;have:=s3.out;have:=SZ.out;omega)
   exact h4'.new hlt34.out (Below.refl _ _))
  have row5:=Lib.hid ((hrow.out.below stab_it hb4).grown stab_it gr5 (fun q e=>by cases e;have:=s3.out;have:=SZ.out;omega))
  have y0:w5.cell? ad=some (.int .u8 (x0.1.1.toNat:Int)):=(World.cell?_of_block (gr5.block ad.block (Nat.lt_of_lt_of_le zlt hb4.size) (fun e=>zold.out (Option.some.inj e)))).trans ((hb4.cell zlt).trans z0')
  have y1:w5.cell? ⟨ad.block,ad.off+1,none⟩=some (.int .u32 x0.1.2.1):=(World.cell?_of_block (a:=⟨ad.block,ad.off+1,none⟩) (gr5.block ad.block (Nat.lt_of_lt_of_le zlt hb4.size) (fun e=>zold.out (Option.some.inj e)))).trans ((hb4.cell (p:=⟨ad.block,ad.off+1,none⟩) zlt).trans z1')
  have y2:w5.cell? ⟨ad.block,ad.off+2,none⟩=some (.int .u32 x0.1.2.2):=(World.cell?_of_block (a:=⟨ad.block,ad.off+2,none⟩) (gr5.block ad.block (Nat.lt_of_lt_of_le zlt hb4.size) (fun e=>zold.out (Option.some.inj e)))).trans ((hb4.cell (p:=⟨ad.block,ad.off+2,none⟩) zlt).trans z2')
  replace gr5:=Lib.hid gr5
  replace g5:=Lib.hid g5
  replace gs5:=Lib.hid gs5
  replace mf:=mf
  clear z0' z1' z2' hb4 h4 HM k0 k1 k2 k3 kf hitr'
  go_upto_region 6 with fail
  by_cases hme:mke=0
  case neg =>
   have t0:(mke != 0)=true:=by simpa using hme
   have hE:layO s lv L F=(mke,emptyR,[]):=by
    rw[if_neg hme] at hst
    exact lay_b (by rw[← hbu.out,hmk.out,hst]) hme
   obtain⟨W9,e9,k0,k1,k2,k3,u0,u1,u2,u3,uf,hfin⟩:=hzero.out mke w5 hE gr45.out
   replace hfin:=Lib.hid hfin
   replace hme:=Lib.hid hme
   clear hst hzero hE
   go_wp2_with fail
   exact bodyPost_ret (v:=.tuple #[.agg #[.slice none 0 0,.slice none 0 0,.slice none 0 0,.slice none 0 0],.slice none 0 0,.int .i64 mke]) (by simp[results,Tryz.results46,go_sem,k0,k1,k2,k3]) rfl hfin.out
  subst hme
  rw[if_pos rfl] at hst
  obtain⟨kk,ek,e8,e256,_⟩:=mk_counts hmke.out
  rw[hmkn.out] at ek
  have hin:InI (x0.1,mkn,[]):=⟨hin0.out,show In64 mkn from ⟨by omega,by omega⟩⟩
  obtain⟨w6,hw6,-,-,-,-,-,hs6,hb6,b6⟩:=box_five w5 (.int .u8 (x0.1.1.toNat:Int)) (.int .u32 x0.1.2.1) (.int .u32 x0.1.2.2) (.int .i64 mkn) (.slice none 0 0) 40
  have row6:=row5.out.below stab_it hb6
  obtain⟨A7,c7,w7,hr7,row7,gr7,hb7⟩:=its_push row6 w5.heap.size (x0.1,mkn,[]) (.slice none 0 0) 1 made.length rfl b6 (by have:=hml.out;omega) (by have:=hlt34.out;have:=gr45.out.size;omega) hin (rBy_part0 _ _ none)
  have g7:Hid (w7.heap[w.heap.size]? = some (.cells #[.slice va.1 va.2.1 va.2.2,.slice vb.1 vb.2.1 vb.2.2,.slice vc.1 vc.2.1 vc.2.2,.slice vd.1 vd.2.1 vd.2.2] 29 (0,0))):=Lib.hid ((hb7.block w.heap.size (by have:=s3.out;have:=SZ.out;omega)).trans ((hb6.block w.heap.size ng).trans g5.out))
  have gr47:Hid (w3.grownBy w7 (some w.heap.size)):=Lib.hid (by
   have h46:=grow_below gr45.out hb6
   refine⟨gr7.os.trans h46.os,gr7.tape.trans h46.tape,gr7.output.trans h46.output,Nat.le_trans h46.size gr7.size,fun q hq hne=>(hb7.block q hq).trans (h46.block q hq hne)⟩)
  have h7:Hid (Sto (New w3.heap.size w7) w7 (.agg #[.slice va.1 va.2.1 va.2.2,.slice vb.1 vb.2.1 vb.2.2,.slice vc.1 vc.2.1 vc.2.2,.slice vd.1 vd.2.1 vd.2.2]) V):=Lib.hid (by
   have h6:=h5r.out.new (Nat.le_refl _) hb6
   exact(h6.grown gr7 (fun q e=>hMlt.out q e)).new hlt34.out (Below.refl _ _))
  have hmk7:Hid (mkA lv s [] P=mkA lv V (made++[(x0.1,mkn,[])]) (P.drop (k+1))):=Lib.hid (by
   rw[hmk.out,hst]
   congr 3
   unfold upI
   rw[hkey.out])
  have H7:=Lib.hid hr7
  have hl7:Hid ((made++[((x0.1,mkn,[]):It)]).length=k+1):=Lib.hid (by rw[List.length_append,hml.out];rfl)
  have hl8:Hid ((made++[((x0.1,mkn,[]):It)]).length=made.length+1):=Lib.hid (by rw[List.length_append];rfl)
  obtain⟨mm,hmm⟩:∃ q,made.length=q:=⟨_,rfl⟩
  rw[hmm] at H7 hl8
  obtain⟨MM,hMM⟩:∃ q,made++[((x0.1,mkn,[]):It)]=q:=⟨_,rfl⟩
  rw[hMM] at row7 hmk7 hl7 hl8
  replace hMM:=Lib.hid hMM
  replace row7:=Lib.hid row7
  replace hs6:=Lib.hid hs6
  replace b6:=Lib.hid b6
  replace ek:=Lib.hid ek
  clear hin hr7 gr7 hb7 hb6 row6 hst hzero
  rw[hmm]
  replace hmm:=Lib.hid hmm
  have i9:IntKind.i64.wrap ((k:Int)+1)=((k+1:Nat):Int):=by rw[IntKind.wrap_i64];have:=hPl.out;omega
  go_wp2_with (at_builtin;refine wpList_append_run rfl _ _ _ rfl rfl rfl H7.out ?_;clear H7)
  go_roundw
  case rel=>exact⟨k+1,A7,c7,MM,V,va,vb,vc,vd,by omega,by go_num,by rw[hl8.out],hl7.out,hmk7.out,g7.out,h7.out.drop,fun _=>h7.out,row7.out,gr47.out⟩
  case measure=>simp[intOf];omega
end Go.Proofs.YtogieepfimpdmaaGreat
/-
 A range over a function whose rounds are told of what they are handed. Conditions: those that each lemma states.
-/
namespace Go.Proofs.YtogieepfimpdmaaGreat
open Go.RowKit
structure Kept (M:Nat→Prop) (o o':Option Nat) (W W':World):Prop where
 size:W.heap.size≤W'.heap.size
 same:∀ k,k<W.heap.size→¬ M k→o≠some k→W'.heap[k]? = W.heap[k]? ∧ o'≠some k
theorem Kept.refl (M:Nat→Prop) (o:Option Nat) (W:World):Kept M o o W W:=⟨Nat.le_refl _,fun _ _ _ h=>⟨rfl,h⟩⟩
theorem Kept.trans {M:Nat→Prop} {o o' q:Option Nat} {A B C:World} (h:Kept M o o' A B) (h':Kept M o' q B C):Kept M o q A C :=
 ⟨Nat.le_trans h.size h'.size,fun k hk hm ho=>by
  obtain⟨e,n⟩:=h.same k hk hm ho
  obtain⟨e',n'⟩:=h'.same k (Nat.lt_of_lt_of_le hk h.size) hm n
  exact⟨e'.trans e,n'⟩⟩
theorem Kept.grown {M:Nat→Prop} {o q:Option Nat} {A B C:World} {row:Option Nat} (h:Kept M o q A B) (hg:B.grownBy C row) (hr:∀ r,row=some r→A.heap.size≤r∨M r):Kept M o q A C :=
 ⟨Nat.le_trans h.size hg.size,fun k hk hm ho=>by
  obtain⟨e,n⟩:=h.same k hk hm ho
  refine⟨(hg.block k (Nat.lt_of_lt_of_le hk h.size) (fun e' => ?_)).trans e,n⟩
  rcases hr k e'.symm with h1 | h1
  ·omega
  ·exact hm h1⟩
theorem Kept.wide {M M':Nat→Prop} {o q:Option Nat} {A B:World} (h:Kept M o q A B) (hM:∀ k,k<A.heap.size→M k→M' k):Kept M' o q A B :=
 ⟨h.size,fun k hk hm ho=>h.same k hk (fun h1=>hm (hM k hk h1)) ho⟩
theorem Kept.row {M:Nat→Prop} {o q:Option Nat} {A B:World} {row:Option Nat} (hg:A.grownBy B row) (hr:∀ r,row=some r→o=some r∨M r) (hq:∀ r,q=some r→o=some r∨M r∨A.heap.size≤r):Kept M o q A B :=
 ⟨hg.size,fun k hk hm ho=>⟨hg.block k hk (fun e=>by
  rcases hr k e.symm with h | h
  ·exact ho h
  ·exact hm h),fun e=>by
  rcases hq k e with h | h | h
  ·exact ho h
  ·exact hm h
  ·omega⟩⟩
theorem Kept.cell {M:Nat→Prop} {o q:Option Nat} {A B:World} (h:Kept M o q A B) {p:Addr} (hp:p.block<A.heap.size) (hm:¬ M p.block) (ho:o≠some p.block):B.cell? p=A.cell? p:=World.cell?_of_block (h.same _ hp hm ho).1
theorem ownFrom_kept {M:Nat→Prop} {o:Option Nat} {A:World} {B:Nat} {α:Type} (hB:A.heap.size≤B):OwnFrom B (fun(s:α×Option Nat) W=>Kept M o s.2 A W) :=
 fun _ _ _ _ hs hg hr=>hs.grown hg fun r e=>.inl (Nat.le_trans hB (hr r e).1)
theorem below_grown {W W':World} (h:Below W.heap.size W W'):W.grownBy W' none:=⟨h.os,h.tape,h.output,h.size,fun k hk _=>h.block k hk⟩
theorem Kept.below {M:Nat→Prop} {o:Option Nat} {W W':World} (h:Below W.heap.size W W'):Kept M o o W W':=⟨h.size,fun k hk _ ho=>⟨h.block k hk,ho⟩⟩
def RoundE {α:Type} (M:Nat→Prop) (J Jx:List α×Option Nat→World→Prop) (xs:List α) (o:Option Nat) (W:World):Ending→World→Prop:=fun e W' =>
 ∃ o',Kept M o o' W W'∧((e=.returned (.bool true)∧J (xs,o') W')∨(e=.returned (.bool false)∧Jx (xs,o') W'))
def Told {α:Type} (P:Program) (g:Nat) (lb:Array Value) (encs:α→Array Value) (T:Nat→List α→α→Option Nat→World→Prop) (End:List α→Prop) (Z:Nat→Prop) (w:World):Prop :=
 ∀ (l:Nat) (M:Nat→Prop) (J Jx:List α×Option Nat→World→Prop) (o:Option Nat) (W:World),Below w.heap.size w W→OwnFrom W.heap.size J→OwnFrom W.heap.size Jx →
  (∀ k,M k→k<W.heap.size)→(∀ s W1,J s W1→W.heap.size≤W1.heap.size∧∀ k,s.2=some k→k<W1.heap.size)→(∀ k,Z k→¬ M k∧o≠some k) →
  (∀ pre q x W1,J (pre,q) W1→T W.heap.size pre x q W1→YieldAt Fence.wide 0 P l (encs x) W1 (RoundE M J Jx (pre++[x]) q W1)) →
  J ([],o) W→Calls P g (#[.func (.yield l) #[] #[]]++lb) W fun e W'=>(∃ v,e=.returned v)∧((∃ xs q,End xs∧J (xs,q) W')∨(∃ pre q,Jx (pre,q) W'))
theorem round_any {P:Program} {l f l' m:Nat} {tmps:Array Value} {assign body:Code} {w:World} {R:Ending→World→Prop} (h:RoundIn Fence.wide 0 P l f tmps assign body w R):RoundIn (Fence.wide.inRound l') m P l f tmps assign body w R :=
 ⟨h.1,fun c cs _=>h.2 c cs (room_wide _)⟩
theorem round_wide {P:Program} {l f m:Nat} {tmps:Array Value} {assign body:Code} {w:World} {R:Ending→World→Prop} (h:RoundIn Fence.wide 0 P l f tmps assign body w R):RoundIn Fence.wide m P l f tmps assign body w R :=
 ⟨h.1,fun c cs _=>h.2 c cs (room_wide _)⟩
def toldPost {α:Type} (M:Nat→Prop) (I:List α×Option Nat→World→Prop) (Ix:Code→List α×Option Nat→World→Prop) (xs:List α) (o:Option Nat) (W:World):Exit→Act→World→Prop
 | .normal,_,W'=>∃ q,Kept M o q W W'∧I (xs,q) W'
 | .ret,_,W'=>∃ q,Kept M o q W W'∧Ix .ret (xs,q) W'
 | .exit id,_,W'=>∃ q,Kept M o q W W'∧Ix (.exit id) (xs,q) W'
 | .goto t,_,W'=>∃ q,Kept M o q W W'∧Ix (.goto t) (xs,q) W'
 | .panic _,_,_=>False
 | .outgrown,_,_=>False
theorem round_end {α:Type} {P:Program} {M:Nat→Prop} {I J Jx:List α×Option Nat→World→Prop} {B D L:Nat} {rec:LoopState→Option Code→Loop} (hrec:∀ s c,{ rec s c with state:=.ready,pending:=none }=rec .ready none∧∀ s' c',{ rec s c with state:=s',pending:=c' }=rec s' c')
  {W W':World} {xs:List α} {o q:Option Nat} (jump:Option Code) (hL:W.heap[L]? = some (.loop (rec .busy none))) (hD:W.heap[D]? = some (.deferred (some []))) (hDL:D≠L) (hBL:B≤L) (hML:¬ M L) (hMD:¬ M D) (hoL:o≠some L) (hoD:o≠some D)
  (hk:Kept M o q W W') (hI:OwnFrom B I) (hi:I (xs,q) W')
  (hfin:∀ W2,I (xs,q) W2→W2.heap[L]? = some (.loop (rec (if jump.isNone then .ready else .done) jump))→W2.heap[D]? = some (.deferred (some []))→q≠some L→q≠some D→if jump.isNone then J (xs,q) W2 else Jx (xs,q) W2) :
  ∃ v W2,(Instr.endRound L jump).run P W'=.ok v W2∧Kept (fun k=>M k∨k=L) o q W W2∧((v=.bool true∧J (xs,q) W2)∨(v=.bool false∧Jx (xs,q) W2)):=by
 obtain⟨e1,n1⟩:=hk.same L (Array.getElem?_eq_some_iff.1 hL).1 hML hoL
 obtain⟨e2,n2⟩:=hk.same D (Array.getElem?_eq_some_iff.1 hD).1 hMD hoD
 have hL3:=e1.trans hL
 have hD3:=e2.trans hD
 have hrun:=run_endRound (P:=P) jump hL3
 rw[(hrec .busy none).2] at hrun
 have hf:=hfin _ (hI.putObj (.loop (rec (if jump.isNone then .ready else .done) jump)) hi hBL hL3 rfl) (World.putObj_heap_same (Array.getElem?_eq_some_iff.1 hL3).1) ((World.putObj_heap_other hDL).trans hD3) n1 n2
 refine⟨_,_,hrun,?_,?_⟩
 ·exact(hk.wide fun _ _ h=>.inl h).grown (grownBy_putObj' _ _ _) fun r e=>by cases e;exact .inr (.inr rfl)
 ·cases jump with
  | none=>exact .inl ⟨rfl,by simpa using hf⟩
  | some c=>exact .inr ⟨rfl,by simpa using hf⟩
set_option maxHeartbeats 1000000 in
theorem range_told {α:Type} {P:Program} {g:Operand} {ps:Array Tmp} {assign body:Code} {Q:Exit→Act→World→Prop} {a:Act} {w:World} {m:Nat} {gf:Nat} {lb:Array Value}
  (hg:a.eval g=.func (.func gf) #[] lb) (eg:∀ args w,(callFunc gf args).run P w=.ok (.enter gf args) w)
  {encs:α→Array Value} {T:Nat→List α→α→Option Nat→World→Prop} {End:List α→Prop} {Z:Nat→Prop} (hseq:Told P gf lb encs T End Z w) (hps:∀ x,(encs x).size=ps.size)
  (M:Nat→Prop) (hM:∀ k,M k→k<w.heap.size) (o:Option Nat) (hZ:∀ k,Z k→k<w.heap.size∧¬ M k∧o≠some k)
  (I:List α×Option Nat→World→Prop) (Ix:Code→List α×Option Nat→World→Prop) (hI:OwnFrom w.heap.size I) (hIx:∀ c,OwnFrom w.heap.size (Ix c)) (hIo:∀ s W,I s W→∀ k,s.2=some k→k<W.heap.size) (h0:I ([],o) w)
  (Ax:α→Act→World→Prop) (hAx:∀ x a',OwnFrom w.heap.size (fun(_:Unit) W=>Ax x a' W)) (hT:∀ pre x q,OwnFrom w.heap.size (fun(_:Unit) W=>T (w.heap.size+2) pre x q W))
  (hassign:∀ (l:Nat) (pre:List α) (q:Option Nat) (x:α) (W:World) (K:Act→World→Prop),I (pre,q) W→T (w.heap.size+2) pre x q W→(∀ a' W',W.grownBy W' none→Ax x a' W'→K a' W') →
   assign.wpIn (Fence.wide.inRound l) 0 P (Exit.then K (fun _ _ _=>False)) { tmps:=(ps.zip (encs x)).foldl (fun t (p,v)=>t.setIfInBounds p v) a.tmps,defers:=[] } W)
  (hbody:∀ (l:Nat) (pre:List α) (q:Option Nat) (x:α) (a':Act) (W:World),w.heap.size+2≤W.heap.size→I (pre,q) W→Ax x a' W→T (w.heap.size+2) pre x q W→body.wpIn (Fence.wide.inRound l) 0 P (toldPost M I Ix (pre++[x]) q W) a' W)
  (hdone:∀ (xs:List α) (q:Option Nat) (W:World),w.heap.size<W.heap.size→End xs→I (xs,q) W→W.heap[w.heap.size]? = some (.deferred (some []))→q≠some w.heap.size→Q .normal { a with defers:={ target:=.collected w.heap.size,args:=#[] }::a.defers } W)
  (hstop:∀ (c:Code) (pre:List α) (q:Option Nat) (W:World),w.heap.size<W.heap.size→Ix c (pre,q) W→W.heap[w.heap.size]? = some (.deferred (some []))→q≠some w.heap.size→c.wpIn Fence.wide m P Q { a with defers:={ target:=.collected w.heap.size,args:=#[] }::a.defers } W) :
  (Code.rangeFunc g ps assign body).wpIn Fence.wide m P Q a w:=by
 refine wpIn_rangeFunc fun fn hfn => ?_
 obtain⟨rec,hrec⟩:∃ rec:LoopState→Option Code→Loop,rec=fun st pe=>{ state:=st,pending:=pe,fn,tmps:=a.tmps,params:=ps,assign,body,defers:=w.heap.size }:=⟨_,rfl⟩
 have hrec':∀ s c,{ rec s c with state:=.ready,pending:=none }=rec .ready none∧∀ s' c',{ rec s c with state:=s',pending:=c' }=rec s' c':=fun s c=>by rw[hrec];exact⟨rfl,fun _ _=>rfl⟩
 obtain⟨D,hDe⟩:∃ D,w.heap.size=D:=⟨_,rfl⟩
 obtain⟨V,hV⟩:∃ V,(w.alloc (.deferred (some []))).alloc (.loop (rec .ready none))=V:=⟨_,rfl⟩
 have hVs:V.heap.size=D+2:=by rw[← hV,← hDe];simp
 have hVL:V.heap[D+1]? = some (.loop (rec .ready none)):=by
  rw[← hV,← hDe]
  have:=World.alloc_heap_new (w.alloc (.deferred (some []))) (.loop (rec .ready none))
  rwa [World.size_alloc] at this
 have hVD:V.heap[D]? = some (.deferred (some [])):=by
  rw[← hV,← hDe]
  exact(Below.heap_alloc _ _ _ (by simp)).trans (World.alloc_heap_new w _)
 have hVb:Below w.heap.size w V:=by rw[← hV];exact((Below.refl _ w).alloc (Nat.le_refl _) _).alloc (by simp) _
 have hVI:I ([],o) V:=by rw[← hV];exact hI.alloc _ (hI.alloc _ h0)
 have hoD:o≠some D∧o≠some (D+1):=⟨fun e=>by have:=hIo _ _ h0 D e;omega,fun e=>by have:=hIo _ _ h0 (D+1) e;omega⟩
 have hMD:¬ M D∧¬ M (D+1):=⟨fun e=>by have:=hM _ e;omega,fun e=>by have:=hM _ e;omega⟩
 have hnw:∀ {A:World} {row:Option Nat},(∀ r,row=some r→V.heap.size≤r∧∃ o:Obj,A.heap[r]? = some o∧o.isCells=false)→∀ r,row=some r→w.heap.size≤r∧∃ o:Obj,A.heap[r]? = some o∧o.isCells=false :=
  fun hr r e=>⟨by have:=(hr r e).1;omega,(hr r e).2⟩
 have hkeep:∀ {A B:World} {row:Option Nat} {k:Nat} {x:Obj},A.grownBy B row→(∀ r,row=some r→V.heap.size≤r∧∃ o:Obj,A.heap[r]? = some o∧o.isCells=false)→k<D+2→A.heap[k]? = some x→B.heap[k]? = some x:=fun {A B row k x} hg' hr hk hx =>
  (hg'.block k (Array.getElem?_eq_some_iff.1 hx).1 (fun e=>by have:=(hr k e.symm).1;omega)).trans hx
 refine⟨D+1,[{ target:=.collected D,args:=#[] }],V,{ target:=.fn (.func gf) lb,args:=#[.func (.yield (D+1)) #[] #[]] },V,gf,#[.func (.yield (D+1)) #[] #[]]++lb,V,?_,?_,fun _ _=>trivial,?_,fun h=>(by cases h),?_⟩
 ·rw[← hV,hrec,← hDe]
  exact run_enterLoop_outer _ _ _ _ _
 ·simp only[resolve,hg]
  simp[go_sem]
 ·simp[invoke,go_sem,eg]
 refine callsIn_wide.2 ((hseq (D+1) (fun k=>M k∨k=D+1)
  (fun s W=>(I s W∧V.heap.size≤W.heap.size)∧(W.heap[D+1]? = some (.loop (rec .ready none))∧W.heap[D]? = some (.deferred (some [])))∧s.2≠some (D+1)∧s.2≠some D)
  (fun s W=>∃ c,(Ix c s W∧V.heap.size≤W.heap.size)∧(W.heap[D+1]? = some (.loop (rec .done (some c)))∧W.heap[D]? = some (.deferred (some [])))∧s.2≠some (D+1)∧s.2≠some D) o V hVb ?_ ?_ ?_ ?_ ?_ ?_ ⟨⟨hVI,Nat.le_refl _⟩,⟨hVL,hVD⟩,hoD.2,hoD.1⟩).mono ?_)
 ·intro s A B row hs hg' hr
  exact⟨⟨hI s A B row hs.1.1 hg' (hnw hr),Nat.le_trans hs.1.2 hg'.size⟩,⟨hkeep hg' hr (by omega) hs.2.1.1,hkeep hg' hr (by omega) hs.2.1.2⟩,hs.2.2⟩
 ·rintro s A B row ⟨c,hs⟩ hg' hr
  exact⟨c,⟨hIx c s A B row hs.1.1 hg' (hnw hr),Nat.le_trans hs.1.2 hg'.size⟩,⟨hkeep hg' hr (by omega) hs.2.1.1,hkeep hg' hr (by omega) hs.2.1.2⟩,hs.2.2⟩
 ·rintro k (h | h)
  ·have:=hM k h
   omega
  ·omega
 ·intro s W1 hs
  exact⟨hs.1.2,hIo s W1 hs.1.1⟩
 ·intro k hk
  obtain⟨h1,h2,h3⟩:=hZ k hk
  exact⟨fun h=>h.elim h2 fun e=>by omega,h3⟩
 ·
  rintro pre q x W ⟨⟨hi,hsz⟩,⟨hl,hd⟩,nL,nD⟩ htold
  rw[hVs] at htold hsz
  rw[← hDe] at htold
  have hy:=run_yield (P:=P) (args:=encs x) hl (by rw[hrec];exact hps x)
  rw[hrec] at hy
  refine⟨fn,_,assign,body,hy,roundIn_of_wpIn hfn (hassign _ pre q x W _ hi htold fun a' Wa hga hax => ?_)⟩
  clear hy
  have hla:Wa.heap[D+1]? = some (.loop (rec .ready none)):=(hga.block _ (Array.getElem?_eq_some_iff.1 hl).1 (by simp)).trans hl
  have hda:Wa.heap[D]? = some (.deferred (some [])):=(hga.block _ (Array.getElem?_eq_some_iff.1 hd).1 (by simp)).trans hd
  have hia:=hI _ _ _ none hi hga (by simp)
  have hta:=hT pre x q () _ _ none htold hga (by simp)
  have hbeg:=run_beginRound (P:=P) hla (by rw[hrec])
  rw[show ({ rec .ready none with state:=.busy }:Loop)=rec .busy none by rw[hrec]] at hbeg
  refine⟨_,hbeg,?_⟩
  have hlb:=(World.putObj_heap_same (w:=Wa) (o:=.loop (rec .busy none)) (Array.getElem?_eq_some_iff.1 hla).1)
  have hdb:=(World.putObj_heap_other (w:=Wa) (r:=D+1) (k:=D) (o:=.loop (rec .busy none)) (by omega)).trans hda
  have hib:=hI.putObj (.loop (rec .busy none)) hia (by omega:w.heap.size≤D+1) hla rfl
  have haxb:=(hAx x a').putObj (s:=()) (.loop (rec .busy none)) hax (by omega:w.heap.size≤D+1) hla rfl
  have htb:=(hT pre x q).putObj (s:=()) (.loop (rec .busy none)) hta (by omega:w.heap.size≤D+1) hla rfl
  have hkb:Kept (fun k=>M k∨k=D+1) q q W (Wa.putObj (D+1) (.loop (rec .busy none))):=((Kept.refl _ _ _).grown hga (by simp)).grown (grownBy_putObj' _ _ _) fun r e=>by cases e;exact .inr (.inr rfl)
  have hszb:w.heap.size+2≤(Wa.putObj (D+1) (.loop (rec .busy none))).heap.size:=by rw[World.putObj_size];have:=hga.size;omega
  refine wpIn_mono (hbody _ pre q x a' _ hszb hib haxb htb) ?_
  have fin:∀ (jump:Option Code) (Y:List α×Option Nat→World→Prop) (q':Option Nat) (W3:World),OwnFrom w.heap.size Y→Y (pre++[x],q') W3→Kept M q q' (Wa.putObj (D+1) (.loop (rec .busy none))) W3→(match jump with | none=>Y=I | some c=>Y=Ix c) →
    ∃ v W4,(Instr.endRound (D+1) jump).run P W3=.ok v W4∧RoundE (fun k=>M k∨k=D+1) (fun s W=>(I s W∧V.heap.size≤W.heap.size)∧(W.heap[D+1]? = some (.loop (rec .ready none))∧W.heap[D]? = some (.deferred (some [])))∧s.2≠some (D+1)∧s.2≠some D)
     (fun s W=>∃ c,(Ix c s W∧V.heap.size≤W.heap.size)∧(W.heap[D+1]? = some (.loop (rec .done (some c)))∧W.heap[D]? = some (.deferred (some [])))∧s.2≠some (D+1)∧s.2≠some D) (pre++[x]) q W (.returned v) W4:=by
   intro jump Y q' W3 hY hy3 hk3 hJ
   obtain⟨v,W4,hr,hk4,hv⟩:=round_end (P:=P) (J:=fun s W=>(I s W∧V.heap.size≤W.heap.size)∧(W.heap[D+1]? = some (.loop (rec .ready none))∧W.heap[D]? = some (.deferred (some [])))∧s.2≠some (D+1)∧s.2≠some D)
    (Jx:=fun s W=>∃ c,(Ix c s W∧V.heap.size≤W.heap.size)∧(W.heap[D+1]? = some (.loop (rec .done (some c)))∧W.heap[D]? = some (.deferred (some [])))∧s.2≠some (D+1)∧s.2≠some D) hrec' jump hlb hdb (by omega) (by omega:w.heap.size≤D+1) hMD.2 hMD.1 nL nD hk3 (hY.and (I':=fun _ W=>V.heap.size≤W.heap.size) fun _ _ _ _ hs hg _=>Nat.le_trans hs hg.size)
    ⟨hy3,by have:=hk3.size;omega⟩ (fun W2 hy2 hl2 hd2 n1 n2=>by
     cases jump with
     | none =>
      cases hJ
      exact⟨hy2,⟨hl2,hd2⟩,n1,n2⟩
     | some c =>
      cases hJ
      exact⟨c,hy2,⟨hl2,hd2⟩,n1,n2⟩)
   exact⟨v,W4,hr,q',hkb.trans hk4,hv.imp (fun h=>⟨by rw[h.1],h.2⟩) fun h=>⟨by rw[h.1],h.2⟩⟩
  rintro e a3 W3 hp
  cases e with
  | normal =>
   obtain⟨q',hk3,hi3⟩:=hp
   exact fin none I q' W3 hI hi3 hk3 rfl
  | ret =>
   obtain⟨q',hk3,hi3⟩:=hp
   exact fin (some .ret) _ q' W3 (hIx _) hi3 hk3 rfl
  | exit id =>
   obtain⟨q',hk3,hi3⟩:=hp
   exact fin (some (.exit id)) _ q' W3 (hIx _) hi3 hk3 rfl
  | goto t =>
   obtain⟨q',hk3,hi3⟩:=hp
   exact fin (some (.goto t)) _ q' W3 (hIx _) hi3 hk3 rfl
  | panic ch=>exact hp.elim
  | outgrown=>exact hp.elim
 ·
  rintro e W2 ⟨⟨v,rfl⟩,⟨xs,q,hE,⟨hi,hsz⟩,⟨hl,hd⟩,nL,nD⟩ | ⟨pre,q,c,⟨hi,hsz⟩,⟨hl,hd⟩,nL,nD⟩⟩
  ·have:=run_endLoop (P:=P) hl (by rw[hrec];simp)
   rw[hrec] at this
   refine⟨none,_,this,?_⟩
   have h1:=hdone xs q (W2.putObj (D+1) (.loop { rec .ready none with state:=.exhausted })) (by rw[World.putObj_size];omega) hE (hI.putObj _ hi (by omega) hl rfl) (by rw[hDe];exact(World.putObj_heap_other (by omega)).trans hd) (by rw[hDe];exact nD)
   rw[hDe,hrec] at h1
   exact h1
  ·have:=run_endLoop (P:=P) hl (by rw[hrec];simp)
   rw[hrec] at this
   refine⟨some c,_,this,?_⟩
   have h1:=hstop c pre q (W2.putObj (D+1) (.loop { rec .done (some c) with state:=.exhausted })) (by rw[World.putObj_size];omega) ((hIx c).putObj _ hi (by omega) hl rfl) (by rw[hDe];exact(World.putObj_heap_other (by omega)).trans hd) (by rw[hDe];exact nD)
   rw[hDe,hrec] at h1
   exact h1
end Go.Proofs.YtogieepfimpdmaaGreat
/-
 Package put: steps from behind;do they part? Conditions: those that each lemma states.
-/
namespace Go.Proofs.YtogieepfimpdmaaGreat
open Go.RowKit Go.Shelf
attribute [local go_sem] Oper.semAt_some
structure Sv where
 nd:Nd
 pl:Nat
 inst:Bool
 A:Option Addr
 c:Nat
 lo:Nat
 hi:Nat
def svV (q:Sv):List Value:=[.int .i64 q.nd.1,.slice q.A q.nd.2.length q.c,.int .i64 (q.pl:Int),.bool q.inst]
def svs (l:List Sv):List Value:=l.flatMap svV
abbrev encS (f:Nat→Sv) (x:Nat):Array Value:=#[.int .i64 (x:Int),.agg #[.int .i64 (f x).nd.1,.slice (f x).A (f x).nd.2.length (f x).c,.int .i64 ((f x).pl:Int),.bool (f x).inst]]
structure At4 (w:World) (p:Addr) (q:Sv):Prop where
 c0:w.cell? p=some (.int .i64 q.nd.1)
 c1:w.cell? ⟨p.block,p.off+1,none⟩=some (.slice q.A q.nd.2.length q.c)
 c2:w.cell? ⟨p.block,p.off+2,none⟩=some (.int .i64 (q.pl:Int))
 c3:w.cell? ⟨p.block,p.off+3,none⟩=some (.bool q.inst)
theorem At4.same {w w':World} {p:Addr} {q:Sv} (h:At4 w p q) (e:w'.heap[p.block]? = w.heap[p.block]?):At4 w' p q :=
 ⟨(World.cell?_of_block e).trans h.c0,(World.cell?_of_block (a:=⟨p.block,p.off+1,none⟩) e).trans h.c1,(World.cell?_of_block (a:=⟨p.block,p.off+2,none⟩) e).trans h.c2,(World.cell?_of_block (a:=⟨p.block,p.off+3,none⟩) e).trans h.c3⟩
set_option maxRecDepth 100000 in
set_option maxHeartbeats 4000000 in
theorem backS_told (Bs cap m:Nat) (A:Option Addr) (ad:Addr) (f:Nat→Sv) (w:World) (hBs:w.cell? ⟨Bs,0,none⟩=some (.slice A m cap)) (hA:0<m→A=some ad∧ad.block<w.heap.size) (hm:m≤1000) (hc:∀ j,j<m→At4 w (ad.add (j*4)) (f j)) :
  Told Tryz.prog 67 #[.pointer (some ⟨Bs,0,none⟩)] (encS f) (fun _ pre x _ _=>pre=downs m pre.length∧pre.length<m∧x=m-1-pre.length) (fun xs=>xs=downs m m) (fun k=>k=Bs∨(0<m∧k=ad.block)) w:=by
 intro l M J Jx o W hW hJ hJx hM hJs hZ hY h0
 have hBl:Bs<w.heap.size:=World.block_lt_of_cell? _ _ hBs
 have hzB:=Lib.hid (hZ Bs (.inl rfl))
 have hzA:=Lib.hid (fun h:0<m=>hZ ad.block (.inr ⟨h,rfl⟩))
 have hcW:=Lib.hid (fun j (hj:j<m)=>(hc j hj).same (hW.block _ (by rw[add_block];exact(hA (by omega)).2)))
 have hBW:=Lib.hid ((hW.cell (p:=⟨Bs,0,none⟩) hBl).trans hBs)
 have hlt:=Lib.hid (show Bs<W.heap.size∧(0<m→ad.block<W.heap.size) from ⟨Nat.lt_of_lt_of_le hBl hW.size,fun h=>Nat.lt_of_lt_of_le (hA h).2 hW.size⟩)
 have hAA:=Lib.hid (fun h=>(hA h).1)
 have b0:=hBW.out
 replace hY:=Lib.hid hY
 replace hM:=Lib.hid hM
 replace hJs:=Lib.hid hJs
 replace hZ:=Lib.hid hZ
 clear hc hBs hA hW
 refine callsIn_wide.1 (callsIn_of_wp (n:=5) Tryz.func67 rfl trivial ?_ rfl)
 simp only[Tryz.ntmps67,List.size_toArray,List.length_cons,List.length_nil,Nat.reduceAdd,Nat.reduceSub,Array.replicate_succ,Array.replicate_zero,List.push_toArray,List.append_toArray,List.nil_append,List.cons_append]
 gi_wp2
 clear b0
 gi_loopw [3] (fun i wr=>∃ (k:Nat) (q:Option Nat),k≤m∧i=.int .i64 ((m:Int)-1-k)∧J (downs m k,q) wr∧Kept M o q W wr)
  (fun i _=>(intOf i+1).toNat)
 case atStart=>exact⟨0,o,Nat.zero_le _,by simp,h0,Kept.refl _ _ _⟩
 case round =>
  obtain⟨k,q,hk,rfl,hJr,hKr⟩:=hrel
  have hbr:wr.cell? ⟨Bs,0,none⟩=some (.slice A m cap):=(hKr.cell (p:=⟨Bs,0,none⟩) hlt.out.1 hzB.out.1 hzB.out.2).trans hBW.out
  by_cases hkm:k<m
  ·obtain rfl:=hAA.out (by omega)
   obtain⟨g1,g2,g3,g4⟩:=(hcW.out (m-1-k) (by omega)).same (w':=wr) (by rw[add_block];exact(hKr.same ad.block (hlt.out.2 (by omega)) (hzA.out (by omega)).1 (hzA.out (by omega)).2).1)
   obtain⟨fn,tmps,assign,body,hy,hR⟩:=hY.out _ q (m-1-k) wr hJr ⟨by rw[downs_length],by rw[downs_length];exact hkm,by rw[downs_length]⟩
   unfold encS at hy
   have e1:((m:Int)-1-k).toNat=m-1-k:=by omega
   have e2:((m-1-k:Nat):Int)=(m:Int)-1-k:=by omega
   rw[e2] at hy
   clear e2
   have hds:=Lib.hid (downs_succ m k)
   replace hR:=Lib.hid hR
   replace hKr:=Lib.hid hKr
   replace hJr:=Lib.hid hJr
   generalize (f (m-1-k)).nd.1=q1 at *
   generalize (f (m-1-k)).A=q2 at *
   generalize (f (m-1-k)).nd.2.length=q3 at *
   generalize (f (m-1-k)).c=q4 at *
   generalize ((f (m-1-k)).pl:Int)=q5 at *
   generalize (f (m-1-k)).inst=q6 at *
   gi_wp2
   refine(round_wide hR.out).mono ?_
   rintro e w5 ⟨q5',hk5,⟨rfl,J5⟩ | ⟨rfl,J5⟩⟩
   ·have hK5:=Lib.hid (hKr.out.trans hk5)
    clear hk5
    gi_wp2
    go_roundw
    case rel=>exact⟨k+1,q5',by omega,by go_num,by rw[hds.out];exact J5,hK5.out⟩
    case measure=>simp[intOf];omega
   ·gi_wp2
    refine bodyPost_ret (results_none rfl _ _ _) rfl ?_
    exact⟨⟨_,rfl⟩,.inr ⟨_,_,J5⟩⟩
  ·obtain rfl:k=m:=by omega
   gi_wp2
   go_end0
   exact⟨⟨_,rfl⟩,.inl ⟨_,_,rfl,hJr⟩⟩
set_option maxHeartbeats 1000000 in
theorem backwardS_any (a:Option Addr) (len cap:Nat) (w:World) :
  Calls Tryz.prog 45 #[.slice a len cap] w fun e w'=>e=.returned (.func (.func 67) #[] #[.pointer (some ⟨w.heap.size,0,none⟩)])∧w'=w.alloc (.cells #[.slice a len cap] 65):=by
 go_enter Tryz.func45,Tryz.ntmps45
 go_wp2_with fail
 go_ret
 exact⟨rfl,rfl⟩
end Go.Proofs.YtogieepfimpdmaaGreat
/-
 The items of all nodes of a tree,one above ahead of those below it: plain. Conditions: those that each lemma states.
-/
namespace Go.Proofs.YtogieepfimpdmaaGreat
open Go.RowKit
noncomputable def walkT (s:Rm):Nat→Int→List (Int×It)
 | 0,a=>(rmV s a).2.flatMap fun x=>[((0:Int),x)]
 | l+1,a=>(rmV s a).2.flatMap fun x=>(((l+1:Nat):Int),x)::walkT s l x.2.1
noncomputable def partW (s:Rm):Nat→It→List (Int×It)
 | 0,x=>[((0:Int),x)]
 | l+1,x=>(((l+1:Nat):Int),x)::walkT s l x.2.1
theorem walk_part (s:Rm) (l:Nat) (a:Int):walkT s l a=(rmV s a).2.flatMap (partW s l):=by
 cases l <;> rfl
theorem part_zero (s:Rm) (x:It):partW s 0 x=[((0:Int),x)]:=rfl
theorem part_succ (s:Rm) (l:Nat) (x:It):partW s (l+1) x=(((l+1:Nat):Int),x)::walkT s l x.2.1:=rfl
theorem part_head (s:Rm) (l:Nat) (x:It):∃ r,partW s l x=((l:Int),x)::r:=by
 cases l with
 | zero=>exact⟨[],rfl⟩
 | succ l=>exact⟨_,rfl⟩
noncomputable def doneW (s:Rm) (l:Nat) (L:List It) (k:Nat):List (Int×It):=(L.take k).flatMap (partW s l)
theorem done_zero (s:Rm) (l:Nat) (L:List It):doneW s l L 0=[]:=by simp[doneW]
theorem done_all (s:Rm) (l:Nat) (L:List It):doneW s l L L.length=L.flatMap (partW s l):=by simp[doneW]
theorem done_step (s:Rm) (l:Nat) {L:List It} {k:Nat} {x:It} (hx:L[k]? = some x):doneW s l L (k+1)=doneW s l L k++partW s l x:=by
 unfold doneW
 rw[List.take_add_one,hx,Option.toList_some,List.flatMap_append]
 simp
theorem done_pre (s:Rm) (l:Nat) {L:List It} {k:Nat} {x:It} (hx:L[k]? = some x):doneW s l L k++partW s l x <+: L.flatMap (partW s l):=by
 rw[← done_step s l hx]
 refine⟨(L.drop (k+1)).flatMap (partW s l),?_⟩
 unfold doneW
 rw[← List.flatMap_append,List.take_append_drop]
abbrev Wk:=Int×It×Value
def keyW (x:Wk):Int×It:=(x.1,x.2.1)
def encW (x:Wk):Array Value:=#[.int .i64 x.1,x.2.2]
def Fre (B:Nat) (q:Option Nat) (W:World):Addr→Prop:=fun p=>New B W p∧q≠some p.block
def TellW (L:List (Int×It)) (B:Nat) (pre:List Wk) (x:Wk) (q:Option Nat) (W:World):Prop:=(pre++[x]).map keyW <+: L∧Itm (Fre B q W) W x.2.2 x.2.1
def EndT (L:List (Int×It)) (xs:List Wk):Prop:=xs.map keyW=L
def StayW (n0 Bs Br:Nat) (k:Nat):Prop:=k<n0∨k=Bs∨k=Br
theorem fre_kept {M:Nat→Prop} {B:Nat} {q q':Option Nat} {W W':World} {p:Addr} {v:Value} (hM:∀ k,M k→k<B) (hk:Kept M q q' W W') (hp:Fre B q W p) (hc:W.cell? p=some v):Fre B q' W' p∧W'.cell? p=some v:=by
 obtain⟨⟨h1,h2,h3⟩,h4⟩:=hp
 have hm:¬ M p.block:=fun e=>by have:=hM _ e;omega
 obtain⟨e,n⟩:=hk.same p.block h2 hm h4
 exact⟨⟨⟨h1,Nat.lt_of_lt_of_le h2 hk.size,(World.frozen?_of_block e).trans h3⟩,n⟩,(World.cell?_of_block e).trans hc⟩
theorem fre_own {B B':Nat} {q:Option Nat} {W W':World} {row:Option Nat} {p:Addr} {v:Value} (hg:W.grownBy W' row) (hr:∀ r,row=some r→B'≤r∧∃ o:Obj,W.heap[r]? = some o∧o.isCells=false) (hp:Fre B q W p) (hc:W.cell? p=some v):Fre B q W' p∧W'.cell? p=some v:=by
 obtain⟨⟨h1,h2,h3⟩,h4⟩:=hp
 have hk:=cell_kept hc hg (fun r e=>(hr r e).2)
 exact⟨⟨⟨h1,Nat.lt_of_lt_of_le h2 hg.size,(frozen_kept hc hg (fun r e=>(hr r e).2)).trans h3⟩,h4⟩,hk⟩
theorem tell_own (L:List (Int×It)) (B B':Nat) (pre:List Wk) (x:Wk) (q:Option Nat):OwnFrom B' (fun(_:Unit) W=>TellW L B pre x q W):=fun _ _ _ _ hs hg hr =>
 ⟨hs.1,hs.2.map fun _ _ hp hc=>fre_own hg hr hp hc⟩
theorem leave_marks {P:Program} {fn:Func} {m:Nat} {tmps:Array Value} {R:Ending→World→Prop} {R':World→Prop} {B:Nat} (hst:∀ W D,B≤D→W.heap[D]? = some (.deferred (some []))→R' W→R' (W.putObj D (.deferred none)))
  (hf:∀ W,R' W→LeavesIn Fence.wide m P fn tmps R [] .returning W):∀ (Ds:List Nat) (W:World),Ds.Nodup→(∀ D∈Ds,B≤D∧W.heap[D]? = some (.deferred (some [])))→R' W→LeavesInM Fence.wide m P fn tmps R (Ds.map fun D=>{ target:=.collected D,args:=#[] }) .returning W
 | [],W,_,_,h=>hf W h
 | D::r,W,hn,hd,h=>by
  obtain⟨h1,h2⟩:=List.nodup_cons.1 hn
  obtain⟨hB,hD⟩:=hd D (by simp)
  refine⟨by simp,.inl ⟨_,_,rfl,run_takeDeferred hD,?_⟩⟩
  refine leave_marks hst hf r _ h2 (fun E hE=>⟨(hd E (by simp[hE])).1,?_⟩) (hst W D hB hD h)
  exact(World.putObj_heap_other (fun e=>h1 (by rw[← e];exact hE))).trans (hd E (by simp[hE])).2
theorem leave_none {P:Program} {fn:Func} {m:Nat} {tmps:Array Value} {X:World→Prop} {B:Nat} (hfn:fn.results=#[]) (hX:∀ W D,B≤D→W.heap[D]? = some (.deferred (some []))→X W→X (W.putObj D (.deferred none))) {Ds:List Nat} {W:World} (hn:Ds.Nodup) (hd:∀ D∈Ds,B≤D∧W.heap[D]? = some (.deferred (some []))) (hx:X W) :
  LeavesInM Fence.wide m P fn tmps (fun e W'=>(∃ v,e=.returned v)∧X W') (Ds.map fun D=>{ target:=.collected D,args:=#[] }) .returning W :=
 leave_marks (R':=X) hX (fun _ h=>⟨_,results_none hfn _ _ _,⟨_,rfl⟩,h⟩) Ds W hn hd hx
end Go.Proofs.YtogieepfimpdmaaGreat
/-
 The keys of what a range over the items of a tree comes to,in order;what is picked of it;plain. Conditions: those that each lemma states.
-/
namespace Go.Proofs.YtogieepfimpdmaaGreat
open Go.RowKit
structure Wup (L:List (Int×It)) (k tb:Ky) (e:Bool):Prop where
 up:L.Pairwise fun p q=>LeK p.2.1 q.2.1
 ge:∀ p∈L,LeK k p.2.1
 bound:e=true→∀ p∈L,lessK p.2.1 tb=true
theorem up_wup {l:List It} {lv:Int} (h:Up l):(l.flatMap fun x=>[(lv,x)]).Pairwise fun p q=>LeK p.2.1 q.2.1:=by
 rw[show (l.flatMap fun x=>[(lv,x)])=l.map fun x=>(lv,x) by induction l with | nil=>rfl | cons y r ih=>rw[List.flatMap_cons,ih (List.pairwise_cons.1 h).2];rfl]
 exact List.Pairwise.map _ (fun a b hab=>.inr hab) h
theorem its_wup {f:Int→Ky→Ky→Bool→Bool} {g:Int→List (Int×It)} {lv:Int} (hf:∀ a k tb e,f a k tb e=true→Wup (g a) k tb e) (hk:∀ a k tb,f a k tb true=true→lessK k tb=true):∀ (L:List It) (x:It) (r:List It) (tb:Ky) (e:Bool),L=x::r→itsO f L tb e=true →
  Wup (L.flatMap fun x=>(lv,x)::g x.2.1) x.1 tb e
 | [x],_,_,tb,e,rfl,h=>by
  have h1:=hf _ _ _ _ h
  have e2:([x]:List It).flatMap (fun x=>(lv,x)::g x.2.1)=(lv,x)::g x.2.1:=by simp
  rw[e2]
  refine⟨List.pairwise_cons.2 ⟨h1.ge,h1.up⟩,fun p hp => ?_,fun he p hp => ?_⟩
  ·rcases List.mem_cons.1 hp with rfl | hp
   ·exact .inl rfl
   ·exact h1.ge p hp
  ·rcases List.mem_cons.1 hp with rfl | hp
   ·subst he
    exact hk _ _ _ h
   ·exact h1.bound he p hp
 | x::y::r,_,_,tb,e,rfl,h=>by
  unfold itsO at h
  rw[Bool.and_eq_true] at h
  have h1:=hf _ _ _ _ h.1
  have hxy:=hk _ _ _ h.1
  have h2:=its_wup (lv:=lv) hf hk (y::r) y r tb e rfl h.2
  have e2:(x::y::r).flatMap (fun x=>(lv,x)::g x.2.1)=((lv,x)::g x.2.1)++(y::r).flatMap fun x=>(lv,x)::g x.2.1:=List.flatMap_cons
  rw[e2]
  have hlt:∀ p∈(lv,x)::g x.2.1,lessK p.2.1 y.1=true:=fun p hp=>by
   rcases List.mem_cons.1 hp with rfl | hp
   ·exact hxy
   ·exact h1.bound rfl p hp
  have hge:∀ p∈(lv,x)::g x.2.1,LeK x.1 p.2.1:=fun p hp=>by
   rcases List.mem_cons.1 hp with rfl | hp
   ·exact .inl rfl
   ·exact h1.ge p hp
  refine⟨List.pairwise_append.2 ⟨List.pairwise_cons.2 ⟨h1.ge,h1.up⟩,h2.up,fun p hp q hq=>LeK.trans (.inr (hlt p hp)) (h2.ge q hq)⟩,fun p hp => ?_,fun he p hp => ?_⟩
  ·rcases List.mem_append.1 hp with hp | hp
   ·exact hge p hp
   ·exact LeK.trans (.inr hxy) (h2.ge p hp)
  ·rcases List.mem_append.1 hp with hp | hp
   ·have hy:(lv,y)∈(y::r).flatMap fun x=>(lv,x)::g x.2.1:=List.mem_flatMap.2 ⟨y,by simp,by simp⟩
    exact less_trans (hlt p hp) (h2.bound he _ hy)
   ·exact h2.bound he p hp
theorem right_wup (s:Rm):∀ (l:Nat) (a:Int) (k tb:Ky) (e:Bool),rightO s l a k tb e=true→Wup (walkT s l a) k tb e
 | 0,a,k,tb,e,h=>by
  obtain⟨h1,_,h3,_⟩:=right_of h
  have hp:=right_part s 0 a k tb e h
  have hu:=up_may (rm_may h1).1
  refine⟨up_wup hu,fun p hp' => ?_,fun he p hp' => ?_⟩
  ·obtain⟨x,hx,hm⟩:=List.mem_flatMap.1 hp'
   rw[List.mem_singleton] at hm
   subst hm
   rcases hp.ge x hx with e | e
   ·exact .inl e.symm
   ·exact .inr e
  ·obtain⟨x,hx,hm⟩:=List.mem_flatMap.1 hp'
   rw[List.mem_singleton] at hm
   subst hm
   exact hp.bound he x hx
 | l+1,a,k,tb,e,h=>by
  obtain⟨_,_,h3,h4⟩:=right_of h
  obtain⟨x,r,ex,ek,_⟩:=head_of h3
  have:=its_wup (lv:=((l+1:Nat):Int)) (right_wup s l) (fun a k tb h=>by
   have hp:=right_part s l a k tb true h
   obtain⟨z,q,ez,kz⟩:=hp.first
   rw[← kz]
   exact hp.bound rfl z (by rw[ez];simp)) (rmV s a).2 x r tb e ex h4
  rw[ek] at this
  exact this
theorem tree_wup {s:Rm} {a:Int} (h:treeO s a=true):(walkT s (rmV s a).1.toNat a).Pairwise fun p q=>LeK p.2.1 q.2.1:=by
 obtain⟨h1,_,hm,l0,_,hi⟩:=tree_of h
 unfold innerO at hi
 cases hl:(rmV s a).1.toNat with
 | zero=>exact up_wup (up_may hm)
 | succ l =>
  rw[hl] at hi
  cases hL:(rmV s a).2 with
  | nil=>simp[walkT,hL]
  | cons x r =>
   have:=its_wup (lv:=((l+1:Nat):Int)) (right_wup s l) (fun a k tb h=>by
    have hp:=right_part s l a k tb true h
    obtain⟨z,q,ez,kz⟩:=hp.first
    rw[← kz]
    exact hp.bound rfl z (by rw[ez];simp)) (rmV s a).2 x r keyZ false hL hi
   exact this.up
theorem walk_its (s:Rm):∀ (l:Nat) (a:Int),((walkT s l a).filter fun p=>decide (p.1=0)).map (·.2)=itsT s l a
 | 0,a=>by
  unfold walkT itsT
  induction (rmV s a).2 with
  | nil=>rfl
  | cons x r ih=>simp[ih]
 | l+1,a=>by
  unfold walkT itsT
  induction (rmV s a).2 with
  | nil=>rfl
  | cons x r ih =>
   rw[List.flatMap_cons,List.flatMap_cons,List.filter_append,List.map_append,ih,← walk_its s l x.2.1,List.filter_cons_of_neg (by simp;omega)]
def pickW (f:Ky) (M:List (Int×It)):List It:=(M.filter fun p=>decide (p.1=0) && !lessK p.2.1 f).map (·.2)
theorem pick_yes {f:Ky} {M:List (Int×It)} {p:Int×It} (h0:p.1=0) (h:lessK p.2.1 f=false):pickW f (M++[p])=pickW f M++[p.2]:=by
 unfold pickW
 rw[List.filter_append,List.map_append,List.filter_cons_of_pos (by simp[h0,h])]
 rfl
theorem pick_no {f:Ky} {M:List (Int×It)} {p:Int×It} (h:p.1≠0∨lessK p.2.1 f=true):pickW f (M++[p])=pickW f M:=by
 unfold pickW
 rw[List.filter_append,List.map_append,List.filter_cons_of_neg (by rcases h with h | h <;> simp[h])]
 simp
theorem pick_betw {f t:Ky} {M:List (Int×It)} (h:∀ p∈M,lessK t p.2.1=false):pickW f M=((M.filter fun p=>decide (p.1=0)).map (·.2)).filter (betw f t):=by
 unfold pickW
 rw[List.filter_map,List.filter_filter]
 congr 1
 refine List.filter_congr fun p hp => ?_
 show _=(betw f t p.2&&decide (p.1=0))
 unfold betw
 rw[h p hp]
 cases decide (p.1=0) <;> cases lessK p.2.1 f <;> rfl
theorem pick_all {s:Rm} {a:Int} {f t:Ky} {M:List (Int×It)} (hM:M=walkT s (rmV s a).1.toNat a) (h:∀ p∈M,lessK t p.2.1=false):pickW f M=rangeO s a f t:=by
 rw[pick_betw h,hM,walk_its]
 rfl
theorem pick_stop {s:Rm} {a:Int} (ht:treeO s a=true) {f t:Ky} {M:List (Int×It)} {p:Int×It} (hM:M++[p] <+: walkT s (rmV s a).1.toNat a) (h:∀ p∈M,lessK t p.2.1=false) (hp:lessK t p.2.1=true):pickW f M=rangeO s a f t:=by
 obtain⟨r,hr⟩:=hM
 have hu:=tree_wup ht
 rw[← hr,List.append_assoc] at hu
 have hlt:∀ q∈[p]++r,lessK t q.2.1=true:=fun q hq=>by
  rcases List.mem_cons.1 hq with rfl | hq
  ·exact hp
  ·have:=(List.pairwise_cons.1 (List.pairwise_append.1 hu).2.1).1 q hq
   rcases this with e | e
   ·rw[← e];exact hp
   ·exact less_trans hp e
 rw[pick_betw h]
 unfold rangeO allO
 rw[← walk_its,← hr,List.append_assoc,List.filter_append,List.map_append,List.filter_append]
 rw[filter_none (L:=(([p]++r).filter fun p=>decide (p.1=0)).map (·.2)) fun x hx=>by
  obtain⟨q,hq,rfl⟩:=List.mem_map.1 hx
  have:=hlt q (List.mem_filter.1 hq).1
  unfold betw
  rw[this]
  simp]
 rw[List.append_nil]
theorem pick_len {s:Rm} {a:Int} (ht:treeO s a=true) {f:Ky} {M:List (Int×It)} (hM:M <+: walkT s (rmV s a).1.toNat a):(pickW f M).length≤15625:=by
 obtain⟨r,hr⟩:=hM
 have h1:=(tree_all ht).2.1
 have h2:(allO s a).length=((walkT s (rmV s a).1.toNat a).filter fun p=>decide (p.1=0)).length:=by
  unfold allO
  rw[← walk_its,List.length_map]
 rw[h2,← hr,List.filter_append,List.length_append] at h1
 have h3:(pickW f M).length≤(M.filter fun p=>decide (p.1=0)).length:=by
  unfold pickW
  rw[List.length_map]
  rw[← List.countP_eq_length_filter,← List.countP_eq_length_filter]
  exact List.countP_mono_left fun p _ hp=>by
   rw[Bool.and_eq_true] at hp
   exact hp.1
 omega
end Go.Proofs.YtogieepfimpdmaaGreat
/-
 One more in a row of the call's own,and where the row lies then. Conditions: those that each lemma states.
-/
namespace Go.Proofs.YtogieepfimpdmaaGreat
open Go.RowKit
section
variable {α : Type} {R : Rel α} {size : Nat} {t : TypeId} {lo : Nat} {w w' : World} {A : Option Addr} {c : Nat} {xs : List α}
theorem RowOf.push_at {P:Program} (hR:Stab R) (h:RowOf R size t lo w A c xs) (st ty:TypeId) (i:TypeInfo) (z:Value) (bytes:Nat) (ht:P.underlying st=some (.slice t)) (hi:P.info? t=some i) (hz:i.zero=some z)
  (hsize:i.size=size) (hby:i.bytes=bytes) (hzs:z.cells.size=size) (hsz:0<size) (ad:Addr) (m:Nat) (news:List Value) (x:α) (hl:news.length=size) (hnews:∀ j u,news[j]? = some u→w.cell? (ad.add j)=some u) (h1:∀ u∈news,u.oneCell'=true)
  (h63:xs.length+1≤maxLen) (hbytes:(xs.length+1)*bytes≤140737488355328) (hbase:lo≤w.heap.size) (hx:R (NewBut lo A w) w news x) :
  ∃ A' c' w',(Builtin.append_ #[st,st] ty #[.slice A xs.length c,.slice (some ad) 1 m]).run P w=.ok (.slice A' (xs.length+1) c') w'∧RowOf R size t lo w' A' c' (xs++[x])∧w.grownBy w' (A.map (·.block))∧Below lo w w'∧(A'.map (·.block)=A.map (·.block)∨A'.map (·.block)=some w.heap.size):=by
 obtain⟨cs,ho,hcs⟩:=h
 obtain⟨A1,c1,e,_,_,e4,_⟩:=own_any ho
 cases e
 obtain⟨v',w',hr,o1,g1,b1,k1⟩:=app_own (P:=P) (w:=w) lo st ty t i z size bytes ht hi hz hsize hby hzs hsz _ _ cs ho ad 1 m news (by omega) hnews h1 h63 hbytes hbase
 obtain⟨A2,c2,rfl,_,_,e5,_⟩:=own_any o1
 rw[e4] at g1 k1
 rw[e5] at k1
 have mp:∀ p v,NewBut lo A w p→w.cell? p=some v→NewBut lo A2 w' p∧w'.cell? p=some v:=fun p v hp hc=>by
  have hb:=g1.block p.block hp.1.2.1 (fun e=>hp.2 e.symm)
  refine⟨⟨⟨hp.1.1,Nat.lt_of_lt_of_le hp.1.2.1 g1.size,(World.frozen?_of_block hb).trans hp.1.2.2⟩,fun e => ?_⟩,(World.cell?_of_block hb).trans hc⟩
  rcases k1 with k | k
  ·exact hp.2 (k ▸ e)
  ·rw[k] at e
   simp only[Option.some.injEq] at e
   have:=hp.1.2.1
   omega
 refine⟨A2,c2,w',hr,⟨cs++news,by rw[List.length_append];exact o1,fun j y hj => ?_⟩,g1,b1,k1⟩
 have hcl:cs.length=xs.length*size:=ho.1
 rcases Nat.lt_or_ge j xs.length with hjl | hjl
 ·rw[List.getElem?_append_left hjl] at hj
  obtain⟨vs,e1,e2,e3⟩:=hcs j y hj
  refine⟨vs,e1,fun k u hk => ?_,hR _ _ _ _ _ _ mp e3⟩
  have hcu:=e2 k u hk
  rw[List.getElem?_append_left (List.getElem?_eq_some_iff.1 hcu).1]
  exact hcu
 ·rw[List.getElem?_append_right hjl] at hj
  have hj0:j=xs.length:=by
   have:=(List.getElem?_eq_some_iff.1 hj).1
   simp at this
   omega
  subst hj0
  simp at hj
  subst hj
  refine⟨news,hl,fun k u hk => ?_,hR _ _ _ _ _ _ mp hx⟩
  rw[List.getElem?_append_right (by omega),hcl,Nat.add_sub_cancel_left]
  exact hk
theorem RowOf.own (hR:Stab R) (h:RowOf R size t lo w A c xs) {row:Option Nat} (hg:w.grownBy w' row) (hr:∀ r,row=some r→∃ o:Obj,w.heap[r]? = some o∧o.isCells=false):RowOf R size t lo w' A c xs:=by
 obtain⟨cs,h1,h2⟩:=h
 refine⟨cs,h1.kept hg ?_,fun i x hi => ?_⟩
 ·rcases h1.2 with ⟨e,_⟩ | ⟨g,cap',cur,e,hb,hgb,_⟩
  ·exact .inl (by rw[e];rfl)
  ·refine .inr fun e' => ?_
   rw[e] at e'
   obtain⟨o,ho,hc⟩:=hr g e'.symm
   rw[hgb] at ho
   cases ho
   cases hc
 ·obtain⟨vs,e1,e2,e3⟩:=h2 i x hi
  exact⟨vs,e1,e2,hR _ _ _ _ _ _ (fun p v hp hc=>⟨⟨⟨hp.1.1,Nat.lt_of_lt_of_le hp.1.2.1 hg.size,(frozen_kept hc hg hr).trans hp.1.2.2⟩,hp.2⟩,cell_kept hc hg hr⟩) e3⟩
end
theorem its_push_at {w:World} {lo:Nat} {A:Option Addr} {c:Nat} {xs:List It} (h:RowOf rIt 5 40 lo w A c xs) (g:Nat) (s:It) (d:Value) (m n:Nat) (hn:xs.length=n) (hg:w.heap[g]? = some (.cells #[.int .u8 (s.1.1.toNat:Int),.int .u32 s.1.2.1,.int .u32 s.1.2.2,.int .i64 s.2.1,d] 40 (0,0))) (hs:n<100000) (hbase:lo≤w.heap.size) (hin:InI s) (hx:rBy (NewBut lo A w) w [d] s.2.2) :
  ∃ A' c' w',(Builtin.append_ #[43,43] 43 #[.slice A n c,.slice (some ⟨g,0,none⟩) 1 m]).run Tryz.prog w=.ok (.slice A' (n+1) c') w'∧RowOf rIt 5 40 lo w' A' c' (xs++[s])∧w.grownBy w' (A.map (·.block))∧Below lo w w'∧(A'.map (·.block)=A.map (·.block)∨A'.map (·.block)=some w.heap.size):=by
 subst hn
 obtain⟨i0,hi,hz0,hz1,hz2⟩:=info_parts item_info0
 obtain⟨E,ce,rfl,_⟩:=id (rBy_open hx)
 exact RowOf.push_at stab_it h 43 43 i0 (.agg #[.int .u8 0,.int .u32 0,.int .u32 0,.int .i64 0,.slice none 0 0]) 48 Tryz.underlying43 hi hz0 hz1 hz2 rfl (by decide) ⟨g,0,none⟩ m _ s rfl (World.news_of_block (cs:=#[.int .u8 (s.1.1.toNat:Int),.int .u32 s.1.2.1,.int .u32 s.1.2.2,.int .i64 s.2.1,.slice E s.2.2.length ce]) hg) (fun u hu=>by
  simp at hu
  rcases hu with rfl | rfl | rfl | rfl | rfl <;> rfl) (by unfold maxLen;omega) (by omega) hbase (rIt_mk hin hx)
end Go.Proofs.YtogieepfimpdmaaGreat
/-
 Package find: held. Conditions: those that each lemma states.
-/
namespace Go.Proofs.YtogieepfimpdmaaGreat
open Go.RowKit
set_option maxRecDepth 100000 in
set_option maxHeartbeats 4000000 in
theorem held_any (v u:Value) (s:Rm) (hm:mayR s=true) (n:Nd) (hn:mayN n=true) (w:World) (h:Sto (Old w) w v s) (hu:Nod (Old w) w u n) :
  Calls Tryz.prog 59 #[v,u] w fun e w'=>e=.returned (.bool (leafO s n.2))∧Below w.heap.size w w':=by
 have hrf:=Lib.hid (refs_may hn)
 have hls:=Lib.hid (mayT_len (mayR_of hm).2.1)
 obtain⟨A,ca,B,cb,N,cn,L,cl,rfl,_⟩:=id h.open
 obtain⟨I,ci,rfl,-,-,-,hI⟩:=id hu.open
 obtain⟨lw,hlw⟩:∃ q,n.1=q:=⟨_,rfl⟩
 obtain⟨l,hl⟩:∃ q,n.2=q:=⟨_,rfl⟩
 obtain⟨m,hlm⟩:∃ q,l.length=q:=⟨_,rfl⟩
 rw[hl] at hrf
 rw[hl,hlm] at hI
 rw[hl,hlw,hlm]
 have hm5:m≤5:=by
  have:=(mayN_of hn).1.2.2.1
  rw[hl,hlm] at this
  exact this
 obtain⟨ad,ld,rfl,rfl,-,-,-,-,had,-,hc⟩:=tables_at hm h.parts.2.1 h.parts.2.2
 have HG0:Bag w [OldIs (.slice I m ci) l,OldR (.agg #[.slice A s.1.1.length ca,.slice B s.1.2.length cb,.slice (some ad) s.2.1.length cn,.slice (some ld) s.2.2.length cl]) s]:=((Bag.nil w).add (F:=OldR _ s) h (lasts_oldR _ _)).add (F:=OldIs _ l) hI (lasts_oldIs _ _)
 obtain⟨w0,hw0,hg0,hB0,_,hs0⟩:=bag_four HG0 (Below.refl _ _) (.slice A s.1.1.length ca) (.slice B s.1.2.length cb) (.slice (some ad) s.2.1.length cn) (.slice (some ld) s.2.2.length cl) 29
 obtain⟨w1,hw1,hg1,hB1,_,hs1⟩:=bag_node hg0 (Below.refl _ _) (.int .i64 lw) (.slice I m ci)
 have HG:=Lib.hid hg1
 have BB:=Lib.hid (hB0.trans (hB1.mono hB0.size))
 have cS:Hid (∀ j,j<256→∀ W,Below w1.heap.size w1 W→W.cell? (ad.add j)=some (.int .u8 ((s.2.1[j]?.getD 0).toNat:Int))):=Lib.hid fun j hj W hW =>
  ((BB.out.trans (hW.mono BB.out.size)).cell (by rw[add_block];exact had)).trans (hc j hj).1
 obtain⟨y0,y1,_⟩:=hg1.at 0 rfl
 replace hs1:=Lib.hid hs1
 replace hs0:=Lib.hid hs0
 replace hlw:=Lib.hid hlw
 replace hl:=Lib.hid hl
 replace hlm:=Lib.hid hlm
 clear HG0 hg1 hg0 h hu hB1 hB0 hc hI
 go_enter Tryz.func59,Tryz.ntmps59
 go_upto_region 1 with fail
 clear hw1 hw0
 go_wp2_with fail
 clear y0 y1
 go_loopw [10] (fun vi wr=>∃ k:Nat,k≤m∧vi=.int .i64 k∧leafO s (l.take k)=true∧Below w1.heap.size w1 wr) (fun vi _=>m-(intOf vi).toNat)
 case atStart=>exact⟨0,by omega,rfl,rfl,Below.refl _ _⟩
 case round =>
  obtain⟨k,hk,rfl,hE,hbr⟩:=hrel
  have HR:=Lib.hid (HG.out.below hbr)
  have BR:=Lib.hid (BB.out.trans (hbr.mono BB.out.size))
  by_cases hlt:k<m
  case neg =>
   have hf:Hid (leafO s l=true):=Lib.hid (by rw[← hE,List.take_of_length_le (by rw[hlm.out];omega)])
   clear hE hbr
   go_wp2_with fail
   go_ret
   exact⟨ret_bool hf.out.symm,BR.out⟩
  obtain⟨x,hx⟩:∃ x,l[k]? = some x:=⟨_,List.getElem?_eq_getElem (by rw[hlm.out];exact hlt)⟩
  have hxr:=hrf.out x (List.mem_of_getElem? hx)
  have hIt:rIts (Old wr) wr [.slice I m ci] l:=HR.out.at 2 rfl
  obtain⟨a5,E5,ce5,rfl,_,_,_,FX⟩:=its_old hIt hx
  obtain⟨⟨z0,z1,z2,z3,z4⟩,_⟩:=FX wr (Below.refl _ _)
  obtain⟨w2,hw2,r0,r1,r2,r3,r4,hs2,hB2,_⟩:=box_five wr (.int .u8 (x.1.1.toNat:Int)) (.int .u32 x.1.2.1) (.int .u32 x.1.2.2) (.int .i64 x.2.1) (.slice E5 x.2.2.length ce5) 40
  have B2:=Lib.hid (hbr.trans (hB2.mono hbr.size))
  have H2:=Lib.hid (HR.out.below hB2)
  have BF:=Lib.hid (BB.out.trans (B2.out.mono BB.out.size))
  replace hs2:=Lib.hid hs2
  clear FX hIt hB2
  go_upto_region 4 with fail
  clear hw2 z0 z1 z2 z3 z4
  obtain⟨k0,k1,k2,k3,_⟩:=H2.out.at 1 rfl
  rw[hls.out] at k2
  have i4:(0:Int)≤(k:Int):=by omega
  have i5:(k:Int)<(m:Int):=by omega
  obtain⟨z,hzz⟩:∃ z,x.2.1=z:=⟨_,rfl⟩
  rw[hzz] at r3 hxr
  by_cases hz0:z=0
  ·subst hz0
   have hst:Hid (leafO s (l.take (k+1))=true):=Lib.hid (by rw[leaf_none hx hzz,hE])
   replace hx:=Lib.hid hx
   replace hzz:=Lib.hid hzz
   clear hE hxr
   replace hbr:=Lib.hid hbr
   go_wp2_with fail
   go_roundw
   case rel=>exact⟨k+1,by omega,by go_num,hst.out,B2.out⟩
   case measure=>simp[intOf];omega
  ·obtain⟨r,hr,r8,r256⟩:∃ r:Nat,z=r∧8≤r∧r<256:=⟨z.toNat,by omega,by omega,by omega⟩
   subst hr
   have hcell:=cS.out r r256 w2 B2.out
   obtain⟨y,hy⟩:∃ y,s.2.1[r]?.getD 0=y:=⟨_,rfl⟩
   have hst:=leaf_ref hx hzz (by omega) hy
   rw[hE,Bool.true_and] at hst
   rw[hy] at hcell
   have j0:(0:Int)≤(r:Int):=by omega
   have j1:r<256:=r256
   have j2:¬ r=0:=by omega
   replace hbr:=Lib.hid hbr
   replace hzz:=Lib.hid hzz
   replace hy:=Lib.hid hy
   clear hE hxr hz0
   by_cases hy0:y=0
   ·have t0:=byte_same (y:=0) (q:=0) rfl hy0
    have hf:Hid (leafO s l=false):=Lib.hid (leaf_bad (i:=k+1) (by rw[hst];simp[hy0]))
    replace hx:=Lib.hid hx
    clear hst hy0
    go_wp2_with fail
    go_ret
    exact⟨ret_bool hf.out.symm,BF.out⟩
   ·have t0:=byte_unlike (y:=0) (q:=0) rfl hy0
    replace hst:Hid (leafO s (l.take (k+1))=true):=Lib.hid (by rw[hst];simpa using hy0)
    replace hx:=Lib.hid hx
    clear hy0
    go_wp2_with fail
    go_roundw
    case rel=>exact⟨k+1,by omega,by go_num,hst.out,B2.out⟩
    case measure=>simp[intOf];omega
end Go.Proofs.YtogieepfimpdmaaGreat
/-
 Parts side by side,one behind the other,as package find goes;plain. Conditions: those that each lemma states.
-/
namespace Go.Proofs.YtogieepfimpdmaaGreat
open Go.RowKit
def StC (g:Int→Option (Ky×Ky)) (l:List It) (k:Nat) (t:Ky):Prop:=k=0∨∃ f,chainO g (l.take k)=some (f,t)
section
variable {g : Int → Option (Ky × Ky)} {l : List It} {k : Nat} {x : It} {p : Ky × Ky} {t : Ky}
theorem chain_no1 (hx:l[k]? = some x) (h:g x.2.1=none):chainO g l=none:=by
 refine chain_bad (k:=k+1) (by omega) ?_
 by_cases h0:k=0
 ·subst h0
  rw[chain_one hx,h]
  rfl
 ·rw[chain_take hx (by omega),h]
  cases chainO g (l.take k) <;> rfl
theorem chain_no2 (hx:l[k]? = some x) (h:g x.2.1=some p) (hp:p.1≠x.1):chainO g l=none:=by
 refine chain_bad (k:=k+1) (by omega) ?_
 by_cases h0:k=0
 ·subst h0
  rw[chain_one hx,h]
  simp[hp]
 ·rw[chain_take hx (by omega),h]
  cases chainO g (l.take k) <;> simp[hp]
theorem chain_no3 (hx:l[k]? = some x) (h0:k≠0) (hs:StC g l k t) (hl:lessK t x.1=false):chainO g l=none:=by
 rcases hs with hs | ⟨f,hs⟩
 ·exact absurd hs h0
 refine chain_bad (k:=k+1) (by omega) ?_
 rw[chain_take hx (by omega),hs]
 cases g x.2.1 <;> simp[hl]
theorem chain_yes (hx:l[k]? = some x) (hs:StC g l k t) (hl:k≠0→lessK t x.1=true) (h:g x.2.1=some p) (hp:p.1=x.1):StC g l (k+1) p.2:=by
 refine .inr ?_
 by_cases h0:k=0
 ·subst h0
  rw[chain_one hx,h]
  exact⟨p.1,by
   show (if p.1=x.1 then some p else none)=some (p.1,p.2)
   rw[if_pos hp]⟩
 ·rcases hs with hs | ⟨f,hs⟩
  ·exact absurd hs h0
  rw[chain_take hx (by omega),hs,h]
  exact⟨f,by simp[hp,hl h0]⟩
end
theorem span_empty {s:Rm} {n:Nd} (h:n.2.length=0):spanN s n=none:=by
 have e:n.2=[]:=List.eq_nil_of_length_eq_zero h
 unfold spanN
 rw[e]
 cases n.1.toNat with
 | zero=>simp[leafO]
 | succ l=>rfl
theorem span_no {s:Rm} {l:Nat} {a:Int} (h:¬ (rmE s a=0∧(rmV s a).1=(l:Int)∧(rmV s a).2.length≠0)):spanO s l a=none:=by
 rw[span_node]
 by_cases h1:rmE s a=0∧(rmV s a).1=(l:Int)
 ·rw[if_pos h1]
  by_cases h2:(rmV s a).2.length=0
  ·exact span_empty h2
  ·exact absurd ⟨h1.1,h1.2,h2⟩ h
 ·rw[if_neg h1]
theorem span_yes {s:Rm} {l:Nat} {a:Int} (h1:rmE s a=0) (h2:(rmV s a).1=(l:Int)):spanO s l a=spanN s (rmV s a):=by
 rw[span_node,if_pos ⟨h1,h2⟩]
end Go.Proofs.YtogieepfimpdmaaGreat
/-
 Package find: the closure of stands that calls itself. Conditions: those that each lemma states.
-/
namespace Go.Proofs.YtogieepfimpdmaaGreat
open Go.RowKit
abbrev cloE (Bs Be:Nat):Value:=.func (.func 58) #[] #[.pointer (some ⟨Bs,0,none⟩),.pointer (some ⟨Be,0,none⟩)]
def BoxF (g:Nat) (v:Value):World→Prop:=fun w=>w.cell? ⟨g,0,none⟩=some v∧g<w.heap.size
theorem lasts_boxF (g:Nat) (v:Value):Lasts (BoxF g v):=fun _ _ h hb=>⟨(hb.cell (p:=⟨g,0,none⟩) h.2).trans h.1,Nat.lt_of_lt_of_le h.2 hb.size⟩
def EndsP (s:Rm) (n:Nd) (w:World):Ending→World→Prop:=fun e w'=>∃ f t ok,e=.returned (.tuple #[kyV f,kyV t,.bool ok])∧spanN s n=(if ok=true then some (f,t) else none)∧Below w.heap.size w w'
theorem ends_ret {s:Rm} {n:Nd} {w w':World} (f t:Ky) (ok:Bool) (h:spanN s n=if ok=true then some (f,t) else none) (hb:Below w.heap.size w w'):EndsP s n w (.returned (.tuple #[kyV f,kyV t,.bool ok])) w':=⟨f,t,ok,rfl,h,hb⟩
def EndsIs (s:Rm) (l:Nat):Prop:=∀ (u v0 v1 v2 v3:Value) (n:Nd) (Bs Be:Nat) (w:World),mayN n=true→n.1=(l:Int)→n.2.length≠0→Nod (Old w) w u n→Sto (Old w) w (.agg #[v0,v1,v2,v3]) s→Box4 Bs v0 v1 v2 v3 w→BoxF Be (cloE Bs Be) w →
  Calls Tryz.prog 58 #[u,.pointer (some ⟨Bs,0,none⟩),.pointer (some ⟨Be,0,none⟩)] w (EndsP s n w)
set_option maxRecDepth 100000 in
set_option maxHeartbeats 8000000 in
theorem ends_step (s:Rm) (hm:mayR s=true) (l0:Nat) (hr0:∀ j,l0=j+1→EndsIs s j):EndsIs s l0:=by
 intro u v0 v1 v2 v3 n Bs Be w hmn0 hlv hne hu h hBs hBe
 have hmn:=Lib.hid hmn0
 obtain⟨I,ci,rfl,-,-,-,hI⟩:=id hu.open
 obtain⟨lw,hlw⟩:∃ q,n.1=q:=⟨_,rfl⟩
 obtain⟨l,hl⟩:∃ q,n.2=q:=⟨_,rfl⟩
 obtain⟨m,hlm⟩:∃ q,l.length=q:=⟨_,rfl⟩
 obtain⟨R,hR⟩:∃ R,spanN s n=R:=⟨_,rfl⟩
 have hR0:=Lib.hid (fun(x y:It) (j:Nat) (h1:n.1=0) (h2:n.2[0]? = some x) (h3:n.2.length=j+1) (h4:n.2[j]? = some y)=>span_zero (s:=s) h1 h2 h3 h4)
 have hR1:=Lib.hid (fun(j:Nat) (hj:n.1=((j+1:Nat):Int))=>span_succ (s:=s) hj)
 rw[hR] at hR0 hR1
 have hu':=hu
 rw[hl,hlm] at hI
 rw[hlw,hl,hlm] at hu'
 rw[hlw,hl,hlm] at hR0
 rw[hlw,hl] at hR1
 rw[hl,hlw,hlm]
 rw[hlw] at hlv
 rw[hl,hlm] at hne
 have hm5:m≤5:=by
  have:=(mayN_of hmn.out).1.2.2.1
  rw[hl,hlm] at this
  exact this
 have HG0:Bag w [BoxF Be (cloE Bs Be),Box4 Bs v0 v1 v2 v3,OldN (.agg #[.int .i64 lw,.slice I m ci]) n,OldIs (.slice I m ci) l,OldR (.agg #[v0,v1,v2,v3]) s] :=
  (((((Bag.nil w).add (F:=OldR _ s) h (lasts_oldR _ _)).add (F:=OldIs _ l) hI (lasts_oldIs _ _)).add (F:=OldN _ n) hu' (lasts_oldN _ _)).add (F:=Box4 _ _ _ _ _) hBs (lasts_box4 _ _ _ _ _)).add (F:=BoxF _ _) hBe (lasts_boxF _ _)
 obtain⟨w0,hw0,b0,hs0,hB0⟩:=box_pair' w (.int .i64 lw) (.slice I m ci) 45
 obtain⟨w1,hw1,_,_,_,hs1,hB1,b1⟩:=box_three w0 (.int .u8 0) (.int .u32 0) (.int .u32 0) 37
 obtain⟨w2,hw2,_,_,_,hs2,hB2,b2⟩:=box_three w1 (.int .u8 0) (.int .u32 0) (.int .u32 0) 37
 have HG:=Lib.hid HG0
 have BB:=Lib.hid ((hB0.trans (hB1.mono hB0.size)).trans (hB2.mono (hB0.trans (hB1.mono hB0.size)).size))
 have G0:BoxW w.heap.size #[.int .i64 lw,.slice I m ci] 45 w2:=lasts_boxW _ _ _ _ _ (lasts_boxW _ _ _ _ _ b0 hB1) hB2
 have G1:BoxW w0.heap.size #[.int .u8 0,.int .u32 0,.int .u32 0] 37 w2:=lasts_boxW _ _ _ _ _ b1 hB2
 have G2:BoxW w1.heap.size #[.int .u8 0,.int .u32 0,.int .u32 0] 37 w2:=b2
 have lo:Hid (w.heap.size<w0.heap.size∧w0.heap.size<w1.heap.size∧w1.heap.size<w2.heap.size):=Lib.hid ⟨by omega,by omega,by omega⟩
 obtain⟨y0,y1,_⟩:=two_cells G0
 replace hs2:=Lib.hid hs2
 replace hs1:=Lib.hid hs1
 replace hs0:=Lib.hid hs0
 replace hlw:=Lib.hid hlw
 replace hl:=Lib.hid hl
 replace hlm:=Lib.hid hlm
 replace hlv:=Lib.hid hlv
 replace hR:=Lib.hid hR
 replace G0:=Lib.hid G0
 replace G1:=Lib.hid G1
 replace G2:=Lib.hid G2
 clear HG0 h hu hu' hB2 hB1 hB0 hI hBs hBe b0 b1 b2 hmn0
 obtain⟨m1,hm1⟩:∃ j,m=j+1:=⟨m-1,by omega⟩
 obtain⟨x0,hx0⟩:∃ x,l[0]? = some x:=⟨_,List.getElem?_eq_getElem (by rw[hlm.out];omega)⟩
 obtain⟨yl,hyl⟩:∃ x,l[m1]? = some x:=⟨_,List.getElem?_eq_getElem (by rw[hlm.out];omega)⟩
 have hx0':=Lib.hid hx0
 have hyl':=Lib.hid hyl
 have HW2:=Lib.hid (HG.out.below BB.out)
 obtain⟨ad,E0,ce0,rfl,_,FX0⟩:=its_first (HW2.out.at 3 rfl:rIts (Old w2) w2 [.slice I m ci] l) hx0
 have FX:=Lib.hid (fun W (hW:Below w2.heap.size w2 W)=>(FX0 W hW).1)
 have iz:0<m:=by omega
 cases l0 with
 | zero =>
  obtain⟨ad',E6,ce6,e6,_,_,_,FY0⟩:=its_old (HW2.out.at 3 rfl:rIts (Old w2) w2 [.slice (some ad) m ci] l) hyl
  cases e6
  have FY:=Lib.hid (fun W (hW:Below w2.heap.size w2 W)=>(FY0 W hW).1)
  have e0:lw=0:=hlv.out
  subst e0
  obtain⟨b,hb⟩:∃ b,leafO s l=b:=⟨_,rfl⟩
  have hfin:=Lib.hid (hR0.out x0 yl m1 rfl hx0 hm1 hyl)
  rw[hb] at hfin
  replace hb:=Lib.hid hb
  have i6:(m:Int)-1=(m1:Int):=by omega
  have i7:(m1:Int)<(m:Int):=by omega
  have i8:(0:Int)≤(m1:Int):=by omega
  have i9:IntKind.i64.wrap (m1:Int)=(m1:Int):=IntWalk.i64_in _ (by omega)
  have i0:(0:Int)<(m:Int):=by omega
  replace hm1:=Lib.hid hm1
  clear hR0 hR1 hx0 hyl FX0 FY0
  go_enter Tryz.func58,Tryz.ntmps58
  go_upto_region 1 with fail
  clear hw0 hw1 hw2
  go_wp2_with fail
  clear y0 y1
  obtain⟨o4,ho4⟩:∃ o,(Obj.cells #[.int .u8 (x0.1.1.toNat:Int),.int .u32 x0.1.2.1,.int .u32 x0.1.2.2] 37 (0,0))=o:=⟨_,rfl⟩
  obtain⟨o5,ho5⟩:∃ o,(Obj.cells #[.int .u8 (yl.1.1.toNat:Int),.int .u32 yl.1.2.1,.int .u32 yl.1.2.2] 37 (0,0))=o:=⟨_,rfl⟩
  obtain⟨fin,hfn⟩:∃ f,finTwo w0.heap.size o4 w1.heap.size o5=f:=⟨_,rfl⟩
  have fn4:Hid (fin w0.heap.size=some o4):=Lib.hid (by rw[← hfn];exact finTwo_one _ _ _ _)
  have fn5:Hid (fin w1.heap.size=some o5):=Lib.hid (by rw[← hfn];exact finTwo_two (by have:=lo.out;omega) _ _)
  have fnl:Hid (∀ k,k<w0.heap.size→fin k=none):=Lib.hid fun k hk=>by rw[← hfn];exact finTwo_none (by omega) (by have:=lo.out;omega) _ _
  replace ho4:=Lib.hid ho4
  replace ho5:=Lib.hid ho5
  replace hfn:=Lib.hid hfn
  have HW0:=Lib.hid (fun W (hK:KeepT fin w2 W)=>BB.out.trans (hK.below BB.out.size (fun k hk=>fnl.out k (by have:=lo.out;omega))))
  have hcl:Hid (∀ W,KeepT fin w2 W→Calls Tryz.prog 59 #[.agg #[v0,v1,v2,v3],.agg #[.int .i64 0,.slice (some ad) m ci]] W fun e W'=>e=.returned (.bool b)∧Below W.heap.size W W'):=Lib.hid fun W hK=>by
   have HW:=HG.out.below (HW0.out W hK)
   have:=held_any _ _ s hm n hmn.out W (HW.at 4 rfl) (HW.at 2 rfl)
   rw[hl.out,hb.out] at this
   exact this
  have FXK:Hid (∀ W,KeepT fin w2 W→∃ d,At5 W ad x0 d):=Lib.hid fun W hK=>by
   obtain⟨_,_,_,e,_,F⟩:=its_first ((HG.out.below (HW0.out W hK)).at 3 rfl:rIts (Old W) W [.slice (some ad) m ci] l) hx0'.out
   cases e
   exact⟨_,(F W (Below.refl _ _)).1⟩
  have FYK:Hid (∀ W,KeepT fin w2 W→∃ d,At5 W (ad.add (m1*5)) yl d):=Lib.hid fun W hK=>by
   obtain⟨_,_,_,e,_,_,_,F⟩:=its_old ((HG.out.below (HW0.out W hK)).at 3 rfl:rIts (Old W) W [.slice (some ad) m ci] l) hyl'.out
   cases e
   exact⟨_,(F W (Below.refl _ _)).1⟩
  have KS:Hid (∀ W,KeepT fin w2 W→W.heap[w.heap.size]? = some (.cells #[.int .i64 0,.slice (some ad) m ci] 45 (0,0))):=Lib.hid fun W hK=>hK.other (fnl.out _ lo.out.1) G0.out
  have K4:Hid (∀ W,KeepT fin w2 W→∃ a b c,W.heap[w0.heap.size]? = some (.cells #[a,b,c] 37 (0,0))):=Lib.hid fun W hK=>by
   rcases hK.box fn4.out G1.out with e | e
   ·exact⟨_,_,_,e⟩
   ·rw[← ho4.out] at e;exact⟨_,_,_,e⟩
  have K5:Hid (∀ W,KeepT fin w2 W→∃ a b c,W.heap[w1.heap.size]? = some (.cells #[a,b,c] 37 (0,0))):=Lib.hid fun W hK=>by
   rcases hK.box fn5.out G2.out with e | e
   ·exact⟨_,_,_,e⟩
   ·rw[← ho5.out] at e;exact⟨_,_,_,e⟩
  refine Rb.wp_region_fx (KeepT fin) (by kernel_rfl) (fun W=>KeepT fin w2 W) (fun i=>match i with
   | 17=>some (fun _ W=>W.heap[w0.heap.size]? = some o4)
   | 18=>some (fun _ W=>W.heap[w1.heap.size]? = some o5)
   | _=>none) (fun i=>match i with
   | 16=>some (.bool b)
   | _=>none) (by kernel_rfl) (KeepT.refl _ _).drew (fun w w' h hb=>h.trans hb) ?tst ?_
  case tst =>
   intro j φ x W W' hp hx hb
   match j,hp with
   | 17,hp=>cases hp;exact hb.done fn4.out hx
   | 18,hp=>cases hp;exact hb.done fn5.out hx
  repeat (first
   | (refine Rb.wpAs_skip rfl ?_;simp only[Act.put,List.setIfInBounds_toArray,List.set_cons_zero,List.set_cons_succ])
   | (refine Rb.wpAs_pure (v := ?_) rfl rfl ?_ ?_;rotate_left;(intro W hC hE;clear hE;(obtain⟨y0,y1,_⟩:=two_cells (KS.out W hC);obtain⟨_,z0,z1,z2,_,_⟩:=FXK.out W hC;obtain⟨_,u0,u1,u2,_,_⟩:=FYK.out W hC;obtain⟨k0,k1,k2,k3,_⟩:=(HG.out.below (HW0.out W hC)).at 1 rfl);clear hC;go_simp;done);simp only[Act.put,List.setIfInBounds_toArray,List.set_cons_zero,List.set_cons_succ])
   | (refine Rb.wpAs_pure (v := ?_) rfl rfl ?_ ?_;rotate_left;(intro W hC hE;clear hE;(obtain⟨y0,y1,_⟩:=two_cells (KS.out W hC);obtain⟨_,z0,z1,z2,_,_⟩:=FXK.out W hC;obtain⟨_,u0,u1,u2,_,_⟩:=FYK.out W hC;obtain⟨k0,k1,k2,k3,_⟩:=(HG.out.below (HW0.out W hC)).at 1 rfl);clear hC;go_simp;with_reducible rfl);simp only[Act.put,List.setIfInBounds_toArray,List.set_cons_zero,List.set_cons_succ]))
  refine Rb.wpAs_fixed rfl rfl rfl ?_ ?_
  ·intro W hC hE
   clear hE
   refine Rb.does_enter (f:=59) (args:=#[.agg #[v0,v1,v2,v3],.agg #[.int .i64 0,.slice (some ad) m ci]]) ?_ ?_
   ·go_simp
   ·refine(hcl.out W hC).mono ?_
    rintro e W' ⟨rfl,hg⟩
    exact⟨_,rfl,rfl,KeepT.of_below hg⟩
  simp only[Act.put,List.setIfInBounds_toArray,List.set_cons_zero,List.set_cons_succ]
  refine Rb.wpAs_act rfl rfl ?_ ?_
  ·intro W hC hE
   clear hE
   obtain⟨a,b,c,G⟩:=K4.out W hC
   obtain⟨q0,q1,q2,q3,_⟩:=three_cells G
   obtain⟨W1,hW1,g1,gr1,_⟩:=put_three (a':=.int .u8 (x0.1.1.toNat:Int)) (b':=.int .u32 x0.1.2.1) (c':=.int .u32 x0.1.2.2) G
   rw[ho4.out] at g1
   have hk:=Lib.hid (KeepT.of_grown gr1 fn4.out g1)
   replace g1:=Lib.hid g1
   clear gr1 G hC
   go_simp
   exact⟨g1.out,hk.out⟩
  simp only[Act.put,Rb.envAdd]
  intro _
  refine Rb.wpAs_act rfl rfl ?_ ?_
  ·intro W hC hE
   clear hE
   obtain⟨a,b,c,G⟩:=K5.out W hC
   obtain⟨q0,q1,q2,q3,_⟩:=three_cells G
   obtain⟨W1,hW1,g1,gr1,_⟩:=put_three (a':=.int .u8 (yl.1.1.toNat:Int)) (b':=.int .u32 yl.1.2.1) (c':=.int .u32 yl.1.2.2) G
   rw[ho5.out] at g1
   have hk:=Lib.hid (KeepT.of_grown gr1 fn5.out g1)
   replace g1:=Lib.hid g1
   clear gr1 G hC
   go_simp
   exact⟨g1.out,hk.out⟩
  simp only[Act.put,Rb.envAdd]
  intro _
  repeat (first
   | (refine Rb.wpAs_skip rfl ?_;simp only[Act.put,List.setIfInBounds_toArray,List.set_cons_zero,List.set_cons_succ])
   | (refine Rb.wpAs_pure (v := ?_) rfl rfl ?_ ?_;rotate_left;(intro W hC hE;clear hE;skip;clear hC;go_simp;done);simp only[Act.put,List.setIfInBounds_toArray,List.set_cons_zero,List.set_cons_succ])
   | (refine Rb.wpAs_pure (v := ?_) rfl rfl ?_ ?_;rotate_left;(intro W hC hE;clear hE;skip;clear hC;go_simp;with_reducible rfl);simp only[Act.put,List.setIfInBounds_toArray,List.set_cons_zero,List.set_cons_succ]))
  refine Rb.wpAs_end fun W hC hE => ?_
  have e5:=hE.1
  have e4:=hE.2.1
  have hB9:=Lib.hid (HW0.out W hC)
  rw[← ho4.out] at e4
  rw[← ho5.out] at e5
  obtain⟨n0,n1,n2,_⟩:=three_cells e4
  obtain⟨q0,q1,q2,_⟩:=three_cells e5
  replace e4:=Lib.hid e4
  replace e5:=Lib.hid e5
  clear hE hC
  go_wp2_with fail
  refine bodyPost_ret (v:=.tuple #[kyV x0.1,kyV yl.1,.bool b]) (by simp[results,go_sem,n0,n1,n2,q0,q1,q2]) rfl ?_
  exact ends_ret (x0.1) (yl.1) b (hR.out.trans hfin.out) hB9.out
 | succ l1 =>
  have hrec:=Lib.hid (hr0 l1 rfl)
  have c0:(lw==0)=false:=by have:=hlv.out;simp;omega
  have c1:lw-1=(l1:Int):=by have:=hlv.out;omega
  have c2:IntKind.i64.wrap (l1:Int)=(l1:Int):=by
   have:=(mayN_of hmn.out).1.2.1
   rw[hlw.out,hlv.out] at this
   exact IntWalk.i64_in _ (by omega)
  have hRC:Hid (R=chainO (spanO s l1) l):=Lib.hid (hR1.out l1 hlv.out)
  replace hm1:=Lib.hid hm1
  clear hR0 hR1 hx0 hyl FX0
  go_enter Tryz.func58,Tryz.ntmps58
  go_upto_region 1 with fail
  clear hw0 hw1 hw2
  go_wp2_with fail
  clear y0 y1
  go_loopw [37] (fun vi wr=>∃ (k:Nat) (t:Ky),k≤m∧vi=.int .i64 k∧StC (spanO s l1) l k t∧Below w.heap.size w wr∧w2.heap.size≤wr.heap.size∧BoxW w.heap.size #[.int .i64 lw,.slice (some ad) m ci] 45 wr∧BoxW w0.heap.size #[.int .u8 0,.int .u32 0,.int .u32 0] 37 wr∧BoxW w1.heap.size #[.int .u8 (t.1.toNat:Int),.int .u32 t.2.1,.int .u32 t.2.2] 37 wr) (fun vi _=>m-(intOf vi).toNat)
  case atStart=>exact⟨0,keyZ,by omega,rfl,.inl rfl,BB.out,Nat.le_refl _,G0.out,G1.out,G2.out⟩
  case round =>
   obtain⟨k,t,hk,rfl,hst,hbr,hsz,g0,g1,g2⟩:=hrel
   have HR:=Lib.hid (HG.out.below hbr)
   have BR:=Lib.hid hbr
   have SZ:=Lib.hid hsz
   clear hbr hsz
   by_cases hlt:k<m
   case neg =>
    have hkm:k=m:=by omega
    have hf:Hid (R=some (x0.1,t)):=Lib.hid (by
     subst hkm
     rcases hst with e | ⟨f,e⟩
     ·omega
     ·have e1:=chain_key hx0'.out (by omega) (by rw[hlm.out];omega) e
      rw[List.take_of_length_le (by rw[hlm.out];omega)] at e
      rw[hRC.out,e,← e1])
    have i0:(0:Int)<(m:Int):=by omega
    have FXr:=Lib.hid (fun W (hW:Below wr.heap.size wr W)=>(its_first (HR.out.at 3 rfl:rIts (Old wr) wr [.slice (some ad) m ci] l) hx0'.out))
    obtain⟨ad',E6,ce6,e6,_,FZ⟩:=its_first (HR.out.at 3 rfl:rIts (Old wr) wr [.slice (some ad) m ci] l) hx0'.out
    cases e6
    have FZ':=Lib.hid (fun W (hW:Below wr.heap.size wr W)=>(FZ W hW).1)
    replace hst:=Lib.hid hst
    replace g0:=Lib.hid g0
    replace g1:=Lib.hid g1
    replace g2:=Lib.hid g2
    clear FXr FZ hkm
    go_upto_region 14 with fail
    obtain⟨y0,y1,_⟩:=two_cells g0.out
    obtain⟨z0,z1,z2,_,_⟩:=FZ'.out wr (Below.refl _ _)
    have G4:wr.heap[w0.heap.size]? = _:=g1.out
    have G5:wr.heap[w1.heap.size]? = _:=g2.out
    obtain⟨q0,q1,q2,q3,_⟩:=three_cells G5
    have BW:=Lib.hid BR.out
    obtain⟨W8,hW8,g8,gr8,gs8⟩:=put_three (a':=.int .u8 ((x0.1).1.toNat:Int)) (b':=.int .u32 (x0.1).2.1) (c':=.int .u32 (x0.1).2.2) G4
    have G8:W8.heap[w1.heap.size]? = _:=(gr8.block w1.heap.size (Array.getElem?_eq_some_iff.1 G5).1 (by simp;have:=lo.out;omega)).trans G5
    obtain⟨W9,hW9,g9,gr9,gs9⟩:=put_three (a':=.int .u8 ((t).1.toNat:Int)) (b':=.int .u32 (t).2.1) (c':=.int .u32 (t).2.2) G8
    have g8':W9.heap[w0.heap.size]? = _:=(gr9.block w0.heap.size (Array.getElem?_eq_some_iff.1 g8).1 (by simp;have:=lo.out;omega)).trans g8
    obtain⟨f4,f5,f6,f7,_⟩:=three_cells G4
    obtain⟨j4,j5,j6,j7,_⟩:=three_cells G8
    obtain⟨n0,n1,n2,_,_⟩:=three_cells g8'
    obtain⟨o0,o1,o2,_,_⟩:=three_cells g9
    have hB9:=Lib.hid ((BW.out.grown gr8 BW.out.size (fun q e=>by cases e;have:=lo.out;omega)).grown gr9 (Nat.le_trans BW.out.size gr8.size) (fun q e=>by cases e;have:=lo.out;omega))
    replace G4:=Lib.hid G4
    replace G5:=Lib.hid G5
    replace G8:=Lib.hid G8
    replace g8:=Lib.hid g8
    replace g8':=Lib.hid g8'
    replace g9:=Lib.hid g9
    clear gr8 gr9 gs8 gs9
    go_region
    all_goals
     go_wp2_with fail
     refine bodyPost_ret (v:=.tuple #[kyV x0.1,kyV t,.bool true]) (by simp[results,go_sem,n0,n1,n2,o0,o1,o2]) rfl ?_
     exact ends_ret (x0.1) (t) true (hR.out.trans hf.out) (below_drewN hB9.out _)
   obtain⟨x,hx⟩:∃ x,l[k]? = some x:=⟨_,List.getElem?_eq_getElem (by rw[hlm.out];exact hlt)⟩
   obtain⟨ad',E5,ce5,e5,_,_,_,FZ⟩:=its_old (HR.out.at 3 rfl:rIts (Old wr) wr [.slice (some ad) m ci] l) hx
   cases e5
   obtain⟨⟨z0,z1,z2,z3,z4⟩,_⟩:=FZ wr (Below.refl _ _)
   have hno1:=Lib.hid (fun h1=>hRC.out.trans (chain_no1 (g:=spanO s l1) hx h1))
   have hno2:=Lib.hid (fun p h1 h2=>hRC.out.trans (chain_no2 (g:=spanO s l1) (p:=p) hx h1 h2))
   have hno3:=Lib.hid (fun h1 h2=>hRC.out.trans (chain_no3 (g:=spanO s l1) hx h1 hst h2))
   have hyes:=Lib.hid (fun p h1 h2 h3=>chain_yes (g:=spanO s l1) (p:=p) hx hst h1 h2 h3)
   have i4:(0:Int)≤(k:Int):=by omega
   have i5:(k:Int)<(m:Int):=by omega
   replace hst:=Lib.hid hst
   replace hx:=Lib.hid hx
   obtain⟨w3,hw3,hg3,hB3,-,hs3⟩:=bag_item (((HR.out.add (F:=BoxW _ _ _) g2 (lasts_boxW _ _ _)).add (F:=BoxW _ _ _) g1 (lasts_boxW _ _ _)).add (F:=BoxW _ _ _) g0 (lasts_boxW _ _ _)) (Below.refl _ _) (.int .u8 (x.1.1.toNat:Int)) (.int .u32 x.1.2.1) (.int .u32 x.1.2.2) (.int .i64 x.2.1) (.slice E5 x.2.2.length ce5)
   have H3:=Lib.hid hg3
   have B3:=Lib.hid (BR.out.trans (hB3.mono BR.out.size))
   have S3:=Lib.hid (Nat.le_trans SZ.out hB3.size)
   replace hs3:=Lib.hid hs3
   clear FZ hg3 hB3 g0 g1 g2 HR BR SZ
   go_upto_region 6 with fail
   clear hw3 z0 z1 z2 z3 z4
   obtain⟨k0,k1,k2,k3,_⟩:=H3.out.at 5 rfl
   obtain⟨r0,r1,r2,r3,r4,_⟩:=H3.out.at 0 rfl
   have hNd:=Lib.hid (fun v W hW=>nodeR_open v s x.2.1 W hW)
   have hmy:=Lib.hid (fun hh=>(rm_may (s:=s) (a:=x.2.1) hh).1)
   have hsn:=Lib.hid (fun hh=>hno1.out (span_no (s:=s) (l:=l1) (a:=x.2.1) hh))
   have hsy:=Lib.hid (fun h1 h2=>span_yes (s:=s) (l:=l1) (a:=x.2.1) h1 h2)
   obtain⟨nb,hnb⟩:∃ q,rmV s x.2.1=q:=⟨_,rfl⟩
   obtain⟨eb,heb⟩:∃ q,rmE s x.2.1=q:=⟨_,rfl⟩
   rw[hnb,heb] at hNd hsn hsy
   rw[hnb,heb] at hmy
   obtain⟨lb,hlb⟩:∃ q,nb.1=q:=⟨_,rfl⟩
   obtain⟨mb,hmb⟩:∃ q,nb.2.length=q:=⟨_,rfl⟩
   rw[hlb,hmb] at hNd hsn
   rw[hlb] at hsy
   replace hnb:=Lib.hid hnb
   replace heb:=Lib.hid heb
   replace hlb:=Lib.hid hlb
   replace hmb:=Lib.hid hmb
   go_wp2_with fail
   with_reducible refine(hNd.out _ _ (H3.out.at 8 rfl)).mono ?_
   rintro e w4 ⟨Z,zc,rfl,-,h4n,hb4⟩
   obtain⟨w5,hw5,hg5,hB5,-,hs5⟩:=bag_node ((H3.out.below hb4).add (F:=OldN _ nb) h4n.drop (lasts_oldN _ _)) (Below.refl _ _) (.int .i64 lb) (.slice Z mb zc)
   have H5:=Lib.hid hg5
   have B5:=Lib.hid (B3.out.trans ((hb4.trans (hB5.mono hb4.size)).mono B3.out.size))
   have S5:=Lib.hid (Nat.le_trans S3.out (hb4.trans (hB5.mono hb4.size)).size)
   replace hs5:=Lib.hid hs5
   clear k0 k1 k2 k3 r0 r1 r2 r3 r4 hg5 hB5 hb4 h4n H3 B3 S3 hNd
   go_upto_region 7 with fail
   clear hw5
   obtain⟨y0,y1,_⟩:=H5.out.at 0 rfl
   obtain⟨f0,f1,_⟩:=two_cells (H5.out.at 3 rfl)
   by_cases he:eb=0
   case neg =>
    have e1:(eb != 0)=true:=by simpa using he
    have hf:=Lib.hid (hsn.out (fun hh=>he hh.1))
    clear he
    have G4:w5.heap[w0.heap.size]? = _:=H5.out.at 4 rfl
    have G5:w5.heap[w1.heap.size]? = _:=H5.out.at 5 rfl
    have BW:=Lib.hid B5.out
    obtain⟨W8,hW8,g8,gr8,gs8⟩:=put_three (a':=.int .u8 0) (b':=.int .u32 0) (c':=.int .u32 0) G4
    have G8:W8.heap[w1.heap.size]? = _:=(gr8.block w1.heap.size (Array.getElem?_eq_some_iff.1 G5).1 (by simp;have:=lo.out;omega)).trans G5
    obtain⟨W9,hW9,g9,gr9,gs9⟩:=put_three (a':=.int .u8 0) (b':=.int .u32 0) (c':=.int .u32 0) G8
    have g8':W9.heap[w0.heap.size]? = _:=(gr9.block w0.heap.size (Array.getElem?_eq_some_iff.1 g8).1 (by simp;have:=lo.out;omega)).trans g8
    obtain⟨f4,f5,f6,f7,_⟩:=three_cells G4
    obtain⟨j4,j5,j6,j7,_⟩:=three_cells G8
    obtain⟨n0,n1,n2,_,_⟩:=three_cells g8'
    obtain⟨o0,o1,o2,_,_⟩:=three_cells g9
    have hB9:=Lib.hid ((BW.out.grown gr8 BW.out.size (fun q e=>by cases e;have:=lo.out;omega)).grown gr9 (Nat.le_trans BW.out.size gr8.size) (fun q e=>by cases e;have:=lo.out;omega))
    replace G4:=Lib.hid G4
    replace G5:=Lib.hid G5
    replace G8:=Lib.hid G8
    replace g8:=Lib.hid g8
    replace g8':=Lib.hid g8'
    replace g9:=Lib.hid g9
    clear gr8 gr9 gs8 gs9
    go_wp2_with fail
    refine bodyPost_ret (v:=.tuple #[.agg #[.int .u8 0,.int .u32 0,.int .u32 0],.agg #[.int .u8 0,.int .u32 0,.int .u32 0],.bool false]) (by simp[results,go_sem,n0,n1,n2,o0,o1,o2]) rfl ?_
    exact ends_ret (keyZ) (keyZ) false (hR.out.trans hf.out) hB9.out
   subst he
   by_cases hv:lb=(l1:Int)
   case neg =>
    have e1:(lb != (l1:Int))=true:=by simpa using hv
    have hf:=Lib.hid (hsn.out (fun hh=>hv hh.2.1))
    clear hv
    have G4:w5.heap[w0.heap.size]? = _:=H5.out.at 4 rfl
    have G5:w5.heap[w1.heap.size]? = _:=H5.out.at 5 rfl
    have BW:=Lib.hid B5.out
    obtain⟨W8,hW8,g8,gr8,gs8⟩:=put_three (a':=.int .u8 0) (b':=.int .u32 0) (c':=.int .u32 0) G4
    have G8:W8.heap[w1.heap.size]? = _:=(gr8.block w1.heap.size (Array.getElem?_eq_some_iff.1 G5).1 (by simp;have:=lo.out;omega)).trans G5
    obtain⟨W9,hW9,g9,gr9,gs9⟩:=put_three (a':=.int .u8 0) (b':=.int .u32 0) (c':=.int .u32 0) G8
    have g8':W9.heap[w0.heap.size]? = _:=(gr9.block w0.heap.size (Array.getElem?_eq_some_iff.1 g8).1 (by simp;have:=lo.out;omega)).trans g8
    obtain⟨f4,f5,f6,f7,_⟩:=three_cells G4
    obtain⟨j4,j5,j6,j7,_⟩:=three_cells G8
    obtain⟨n0,n1,n2,_,_⟩:=three_cells g8'
    obtain⟨o0,o1,o2,_,_⟩:=three_cells g9
    have hB9:=Lib.hid ((BW.out.grown gr8 BW.out.size (fun q e=>by cases e;have:=lo.out;omega)).grown gr9 (Nat.le_trans BW.out.size gr8.size) (fun q e=>by cases e;have:=lo.out;omega))
    replace G4:=Lib.hid G4
    replace G5:=Lib.hid G5
    replace G8:=Lib.hid G8
    replace g8:=Lib.hid g8
    replace g8':=Lib.hid g8'
    replace g9:=Lib.hid g9
    clear gr8 gr9 gs8 gs9
    go_wp2_with fail
    refine bodyPost_ret (v:=.tuple #[.agg #[.int .u8 0,.int .u32 0,.int .u32 0],.agg #[.int .u8 0,.int .u32 0,.int .u32 0],.bool false]) (by simp[results,go_sem,n0,n1,n2,o0,o1,o2]) rfl ?_
    exact ends_ret (keyZ) (keyZ) false (hR.out.trans hf.out) hB9.out
   have e1:(lb != (l1:Int))=false:=by simp[hv]
   replace hv:=Lib.hid hv
   by_cases hz:mb=0
   ·have e2:((mb:Int)==0)=true:=by simp[hz]
    have hf:=Lib.hid (hsn.out (fun hh=>hh.2.2 hz))
    replace hz:=Lib.hid hz
    have G4:w5.heap[w0.heap.size]? = _:=H5.out.at 4 rfl
    have G5:w5.heap[w1.heap.size]? = _:=H5.out.at 5 rfl
    have BW:=Lib.hid B5.out
    obtain⟨W8,hW8,g8,gr8,gs8⟩:=put_three (a':=.int .u8 0) (b':=.int .u32 0) (c':=.int .u32 0) G4
    have G8:W8.heap[w1.heap.size]? = _:=(gr8.block w1.heap.size (Array.getElem?_eq_some_iff.1 G5).1 (by simp;have:=lo.out;omega)).trans G5
    obtain⟨W9,hW9,g9,gr9,gs9⟩:=put_three (a':=.int .u8 0) (b':=.int .u32 0) (c':=.int .u32 0) G8
    have g8':W9.heap[w0.heap.size]? = _:=(gr9.block w0.heap.size (Array.getElem?_eq_some_iff.1 g8).1 (by simp;have:=lo.out;omega)).trans g8
    obtain⟨f4,f5,f6,f7,_⟩:=three_cells G4
    obtain⟨j4,j5,j6,j7,_⟩:=three_cells G8
    obtain⟨n0,n1,n2,_,_⟩:=three_cells g8'
    obtain⟨o0,o1,o2,_,_⟩:=three_cells g9
    have hB9:=Lib.hid ((BW.out.grown gr8 BW.out.size (fun q e=>by cases e;have:=lo.out;omega)).grown gr9 (Nat.le_trans BW.out.size gr8.size) (fun q e=>by cases e;have:=lo.out;omega))
    replace G4:=Lib.hid G4
    replace G5:=Lib.hid G5
    replace G8:=Lib.hid G8
    replace g8:=Lib.hid g8
    replace g8':=Lib.hid g8'
    replace g9:=Lib.hid g9
    clear gr8 gr9 gs8 gs9
    go_wp2_with fail
    refine bodyPost_ret (v:=.tuple #[.agg #[.int .u8 0,.int .u32 0,.int .u32 0],.agg #[.int .u8 0,.int .u32 0,.int .u32 0],.bool false]) (by simp[results,go_sem,n0,n1,n2,o0,o1,o2]) rfl ?_
    exact ends_ret (keyZ) (keyZ) false (hR.out.trans hf.out) hB9.out
   have e2:((mb:Int)==0)=false:=by simpa using hz
   replace hz:=Lib.hid hz
   have hspan:=Lib.hid (hsy.out rfl hv.out)
   have hmb':=Lib.hid (hmy.out rfl)
   obtain⟨c3,c4⟩:=(H5.out.at 6 rfl:BoxF Be (cloE Bs Be) w5)
   have hcall:=Lib.hid (hrec.out (.agg #[.int .i64 lb,.slice Z mb zc]) v0 v1 v2 v3 nb Bs Be w5 hmb'.out (by rw[hlb.out,hv.out]) (by rw[hmb.out];exact hz.out) (H5.out.at 1 rfl) (H5.out.at 10 rfl) (H5.out.at 7 rfl) (H5.out.at 6 rfl))
   clear hsn hsy hmy
   go_upto_region 9 with fail
   clear e1 e2 f0 f1
   go_wp2_with fail
   with_reducible refine hcall.out.mono ?_
   rintro e w6 ⟨f',t',ok,rfl,hsp,hb6⟩
   obtain⟨w7,hw7,p0,p1,p2,hs7,hB7,_⟩:=box_three w6 (.int .u8 (f'.1.toNat:Int)) (.int .u32 f'.2.1) (.int .u32 f'.2.2) 37
   have hg7:=((H5.out.below hb6).below hB7).add (F:=Box3 w6.heap.size _ _ _) ⟨p0,p1,p2,by omega⟩ (lasts_box3 _ _ _ _)
   obtain⟨w8,hw8,hg8,hB8,hB8',hs8⟩:=bag_key hg7 (Below.refl _ _) (.int .u8 (t'.1.toNat:Int)) (.int .u32 t'.2.1) (.int .u32 t'.2.2)
   have H8:=Lib.hid hg8
   have hb8:=hb6.trans ((hB7.trans (hB8.mono hB7.size)).mono hb6.size)
   have B8:=Lib.hid (B5.out.trans (hb8.mono B5.out.size))
   have S8:=Lib.hid (Nat.le_trans S5.out hb8.size)
   replace hs8:=Lib.hid hs8
   clear p0 p1 p2 hg7 hg8 hB7 hB8 hB8' hb6 hb8 y0 y1 c3 c4 hcall H5 B5 S5
   go_upto_region 10 with fail
   clear hw7 hw8
   obtain⟨p0,p1,p2,_⟩:=H8.out.at 1 rfl
   obtain⟨q0,q1,q2,_⟩:=H8.out.at 0 rfl
   rw[hs7] at q0 q1 q2
   replace hs7:=Lib.hid hs7
   obtain⟨r0,r1,r2,r3,r4,_⟩:=H8.out.at 4 rfl
   have hg2:w8.heap[w1.heap.size]? = _:=H8.out.at 7 rfl
   obtain⟨d0,d1,d2,d3,_⟩:=three_cells hg2
   have G4:w8.heap[w0.heap.size]? = _:=H8.out.at 6 rfl
   have G5:w8.heap[w1.heap.size]? = _:=H8.out.at 7 rfl
   have BW:=Lib.hid B8.out
   replace hg2:=Lib.hid hg2
   cases ok with
   | false =>
    have hf:=Lib.hid (hno1.out (hspan.out.trans hsp))
    clear d3 hno2 hno3 hyes
    obtain⟨W8,hW8,g8,gr8,gs8⟩:=put_three (a':=.int .u8 0) (b':=.int .u32 0) (c':=.int .u32 0) G4
    have G8:W8.heap[w1.heap.size]? = _:=(gr8.block w1.heap.size (Array.getElem?_eq_some_iff.1 G5).1 (by simp;have:=lo.out;omega)).trans G5
    obtain⟨W9,hW9,g9,gr9,gs9⟩:=put_three (a':=.int .u8 0) (b':=.int .u32 0) (c':=.int .u32 0) G8
    have g8':W9.heap[w0.heap.size]? = _:=(gr9.block w0.heap.size (Array.getElem?_eq_some_iff.1 g8).1 (by simp;have:=lo.out;omega)).trans g8
    obtain⟨f4,f5,f6,f7,_⟩:=three_cells G4
    obtain⟨j4,j5,j6,j7,_⟩:=three_cells G8
    obtain⟨n0,n1,n2,_,_⟩:=three_cells g8'
    obtain⟨o0,o1,o2,_,_⟩:=three_cells g9
    have hB9:=Lib.hid ((BW.out.grown gr8 BW.out.size (fun q e=>by cases e;have:=lo.out;omega)).grown gr9 (Nat.le_trans BW.out.size gr8.size) (fun q e=>by cases e;have:=lo.out;omega))
    replace G4:=Lib.hid G4
    replace G5:=Lib.hid G5
    replace G8:=Lib.hid G8
    replace g8:=Lib.hid g8
    replace g8':=Lib.hid g8'
    replace g9:=Lib.hid g9
    clear gr8 gr9 gs8 gs9
    go_wp2_with fail
    refine bodyPost_ret (v:=.tuple #[.agg #[.int .u8 0,.int .u32 0,.int .u32 0],.agg #[.int .u8 0,.int .u32 0,.int .u32 0],.bool false]) (by simp[results,go_sem,n0,n1,n2,o0,o1,o2]) rfl ?_
    exact ends_ret (keyZ) (keyZ) false (hR.out.trans hf.out) hB9.out
   | true =>
   have hsp':=Lib.hid (hspan.out.trans (hsp.trans (if_pos rfl)))
   have hke:=key_eq f' x.1
   have hkg:=key_guard
   unfold kyV at hke
   by_cases hkk:f'=x.1
   case neg =>
    have g3:decide (f'=x.1)=false:=by simpa using hkk
    rw[g3] at hke
    have hf:=Lib.hid (hno2.out _ hsp'.out hkk)
    clear d3 hkk hno1 hno2 hno3 hyes
    obtain⟨W8,hW8,g8,gr8,gs8⟩:=put_three (a':=.int .u8 0) (b':=.int .u32 0) (c':=.int .u32 0) G4
    have G8:W8.heap[w1.heap.size]? = _:=(gr8.block w1.heap.size (Array.getElem?_eq_some_iff.1 G5).1 (by simp;have:=lo.out;omega)).trans G5
    obtain⟨W9,hW9,g9,gr9,gs9⟩:=put_three (a':=.int .u8 0) (b':=.int .u32 0) (c':=.int .u32 0) G8
    have g8':W9.heap[w0.heap.size]? = _:=(gr9.block w0.heap.size (Array.getElem?_eq_some_iff.1 g8).1 (by simp;have:=lo.out;omega)).trans g8
    obtain⟨f4,f5,f6,f7,_⟩:=three_cells G4
    obtain⟨j4,j5,j6,j7,_⟩:=three_cells G8
    obtain⟨n0,n1,n2,_,_⟩:=three_cells g8'
    obtain⟨o0,o1,o2,_,_⟩:=three_cells g9
    have hB9:=Lib.hid ((BW.out.grown gr8 BW.out.size (fun q e=>by cases e;have:=lo.out;omega)).grown gr9 (Nat.le_trans BW.out.size gr8.size) (fun q e=>by cases e;have:=lo.out;omega))
    replace G4:=Lib.hid G4
    replace G5:=Lib.hid G5
    replace G8:=Lib.hid G8
    replace g8:=Lib.hid g8
    replace g8':=Lib.hid g8'
    replace g9:=Lib.hid g9
    clear gr8 gr9 gs8 gs9
    go_wp2_with fail
    refine bodyPost_ret (v:=.tuple #[.agg #[.int .u8 0,.int .u32 0,.int .u32 0],.agg #[.int .u8 0,.int .u32 0,.int .u32 0],.bool false]) (by simp[results,go_sem,n0,n1,n2,o0,o1,o2]) rfl ?_
    exact ends_ret (keyZ) (keyZ) false (hR.out.trans hf.out) hB9.out
   have g3:decide (f'=x.1)=true:=by simpa using hkk
   rw[g3] at hke
   have hkk':=Lib.hid hkk
   clear hkk hno1 hno2 hsp
   by_cases hk0:k=0
   ·have i0:¬ (0:Int)<(k:Int):=by omega
    have hn:=Lib.hid (hyes.out (f',t') (fun hh=>absurd hk0 hh) hsp'.out hkk'.out)
    have hk0':=Lib.hid hk0
    clear hk0
    obtain⟨W9,hW9,g9,gr9,gs9⟩:=put_three (a':=.int .u8 (t'.1.toNat:Int)) (b':=.int .u32 t'.2.1) (c':=.int .u32 t'.2.2) hg2.out
    have hB9:=Lib.hid (BW.out.grown gr9 BW.out.size (fun q e=>by cases e;have:=lo.out;omega))
    have S9:=Lib.hid (Nat.le_trans S8.out gr9.size)
    have b9:=Lib.hid ((gr9.block w.heap.size (by have:=lo.out;have:=S8.out;omega) (by simp;have:=lo.out;omega)).trans (H8.out.at 5 rfl))
    have c9:=Lib.hid ((gr9.block w0.heap.size (by have:=lo.out;have:=S8.out;omega) (by simp;have:=lo.out;omega)).trans (H8.out.at 6 rfl))
    replace g9:=Lib.hid g9
    clear gr9 gs9
    go_wp2_with fail
    go_roundw
    case rel=>exact⟨k+1,t',by omega,by go_num,hn.out,hB9.out,S9.out,b9.out,c9.out,g9.out⟩
    case measure=>simp[intOf];omega
   ·have i0:(0:Int)<(k:Int):=by omega
    obtain⟨q,hq⟩:∃ q,lessK t x.1=q:=⟨_,rfl⟩
    have hls:=Lib.hid (less_any t x.1 w8)
    rw[hq] at hls
    go_wp2_with fail
    with_reducible refine hls.out.mono ?_
    rintro e w9 ⟨rfl,hb9⟩
    cases q with
    | false =>
     have hf:=Lib.hid (hno3.out hk0 hq)
     replace G4:=(hb9.block w0.heap.size (by have:=lo.out;have:=S8.out;omega)).trans G4
     replace G5:=(hb9.block w1.heap.size (by have:=lo.out;have:=S8.out;omega)).trans G5
     replace BW:=Lib.hid (B8.out.trans (hb9.mono B8.out.size))
     replace hq:=Lib.hid hq
     clear d0 d1 d2 d3 hb9 hno3 hyes hk0
     obtain⟨W8,hW8,g8,gr8,gs8⟩:=put_three (a':=.int .u8 0) (b':=.int .u32 0) (c':=.int .u32 0) G4
     have G8:W8.heap[w1.heap.size]? = _:=(gr8.block w1.heap.size (Array.getElem?_eq_some_iff.1 G5).1 (by simp;have:=lo.out;omega)).trans G5
     obtain⟨W9,hW9,g9,gr9,gs9⟩:=put_three (a':=.int .u8 0) (b':=.int .u32 0) (c':=.int .u32 0) G8
     have g8':W9.heap[w0.heap.size]? = _:=(gr9.block w0.heap.size (Array.getElem?_eq_some_iff.1 g8).1 (by simp;have:=lo.out;omega)).trans g8
     obtain⟨f4,f5,f6,f7,_⟩:=three_cells G4
     obtain⟨j4,j5,j6,j7,_⟩:=three_cells G8
     obtain⟨n0,n1,n2,_,_⟩:=three_cells g8'
     obtain⟨o0,o1,o2,_,_⟩:=three_cells g9
     have hB9:=Lib.hid ((BW.out.grown gr8 BW.out.size (fun q e=>by cases e;have:=lo.out;omega)).grown gr9 (Nat.le_trans BW.out.size gr8.size) (fun q e=>by cases e;have:=lo.out;omega))
     replace G4:=Lib.hid G4
     replace G5:=Lib.hid G5
     replace G8:=Lib.hid G8
     replace g8:=Lib.hid g8
     replace g8':=Lib.hid g8'
     replace g9:=Lib.hid g9
     clear gr8 gr9 gs8 gs9
     go_wp2_with fail
     refine bodyPost_ret (v:=.tuple #[.agg #[.int .u8 0,.int .u32 0,.int .u32 0],.agg #[.int .u8 0,.int .u32 0,.int .u32 0],.bool false]) (by simp[results,go_sem,n0,n1,n2,o0,o1,o2]) rfl ?_
     exact ends_ret (keyZ) (keyZ) false (hR.out.trans hf.out) hB9.out
    | true =>
     have hn:=Lib.hid (hyes.out (f',t') (fun _=>hq) hsp'.out hkk'.out)
     replace H8:=Lib.hid (H8.out.below hb9)
     replace B8:=Lib.hid (B8.out.trans (hb9.mono B8.out.size))
     replace S8:=Lib.hid (Nat.le_trans S8.out hb9.size)
     replace BW:=Lib.hid B8.out
     replace hq:=Lib.hid hq
     replace hg2:Hid (w9.heap[w1.heap.size]? = _):=Lib.hid (H8.out.at 7 rfl)
     clear hb9 p0 p1 p2 q0 q1 q2 r0 r1 r2 r3 r4 d0 d1 d2 d3 G4 G5 hno3 hyes hk0
     obtain⟨q0,q1,q2,_⟩:=H8.out.at 0 rfl
     rw[hs7.out] at q0 q1 q2
     obtain⟨d0,d1,d2,d3,_⟩:=three_cells hg2.out
     obtain⟨W9,hW9,g9,gr9,gs9⟩:=put_three (a':=.int .u8 (t'.1.toNat:Int)) (b':=.int .u32 t'.2.1) (c':=.int .u32 t'.2.2) hg2.out
     have hB9:=Lib.hid (BW.out.grown gr9 BW.out.size (fun q e=>by cases e;have:=lo.out;omega))
     have S9:=Lib.hid (Nat.le_trans S8.out gr9.size)
     have b9:=Lib.hid ((gr9.block w.heap.size (by have:=lo.out;have:=S8.out;omega) (by simp;have:=lo.out;omega)).trans (H8.out.at 5 rfl))
     have c9:=Lib.hid ((gr9.block w0.heap.size (by have:=lo.out;have:=S8.out;omega) (by simp;have:=lo.out;omega)).trans (H8.out.at 6 rfl))
     replace g9:=Lib.hid g9
     clear gr9 gs9
     go_wp2_with fail
     go_roundw
     case rel=>exact⟨k+1,t',by omega,by go_num,hn.out,hB9.out,S9.out,b9.out,c9.out,g9.out⟩
     case measure=>simp[intOf];omega
theorem ends_any (s:Rm) (hm:mayR s=true):∀ l:Nat,EndsIs s l:=by
 intro l
 induction l using Nat.strongRecOn with
 | ind l ih=>exact ends_step s hm l fun j hj=>ih j (by omega)
end Go.Proofs.YtogieepfimpdmaaGreat
/-
 Package find: stands,Check. Conditions: those that each lemma states.
-/
namespace Go.Proofs.YtogieepfimpdmaaGreat
open Go.RowKit
theorem reN_eight {b:List UInt8} (h:b.length=128) (hr:reN b≠0):reN b=8:=by
 by_cases ho:oe b=0
 ·cases h1:rdN (ob b) with
  | false=>exact(reN_bad ho h1).1
  | true=>exact absurd (reN_good ho h1).1 hr
 ·have h8:oe b=8:=by
   unfold oe at ho ⊢
   rw[if_pos h] at ho ⊢
   split at ho
   ·exact absurd rfl ho
   ·rename_i hf
    rw[if_neg hf]
  rw[(reN_open ho).1,h8]
theorem box_one (w:World) (v:Value) (t:TypeId):∃ w1,w.alloc (.cells #[v] t)=w1∧w1.cell? ⟨w.heap.size,0,none⟩=some v∧w1.heap.size=w.heap.size+1∧Below w.heap.size w w1 :=
 ⟨_,rfl,by simp,by simp,(Below.refl _ _).alloc (Nat.le_refl _) _⟩
set_option maxRecDepth 100000 in
set_option maxHeartbeats 8000000 in
theorem stands_any (v u:Value) (s:Rm) (hm:mayR s=true) (n:Nd) (hn:mayN n=true) (w:World) (h:Sto (Old w) w v s) (hu:Nod (Old w) w u n) :
  Calls Tryz.prog 33 #[v,u] w fun e w'=>e=.returned (.bool (standsN s n))∧Below w.heap.size w w':=by
 have hmf:∀ (fn:Fn) (first cap:Array Value) (w:World),(Instr.makeFunc fn first cap).run Tryz.prog w=.ok (.func fn first cap) w:=fun _ _ _ _=>rfl
 have hsf:∀ (a:Addr) (fn:Fn) (x y:Array Value) (w:World),(store a (.func fn x y)).run Tryz.prog w=stored Tryz.prog w a (.func fn x y) .plain:=fun _ _ _ _ _=>run_store _ _ _ _ _ rfl
 obtain⟨A,ca,B,cb,N,cn,L,cl,rfl,_⟩:=id h.open
 obtain⟨I,ci,rfl,-,-,-,hI⟩:=id hu.open
 obtain⟨lw,hlw⟩:∃ q,n.1=q:=⟨_,rfl⟩
 obtain⟨m,hlm⟩:∃ q,n.2.length=q:=⟨_,rfl⟩
 have hlv:0≤lw:=by rw[← hlw];exact(mayN_of hn).1.1
 have hst:standsN s n=(decide (m=0)||(spanN s n).isSome):=by rw[standsN,hlm]
 have hu':=hu
 rw[hlw,hlm] at hu'
 rw[hlw,hlm,hst]
 clear hI hst
 have HG0:Bag w [OldN (.agg #[.int .i64 lw,.slice I m ci]) n,OldR (.agg #[.slice A s.1.1.length ca,.slice B s.1.2.length cb,.slice N s.2.1.length cn,.slice L s.2.2.length cl]) s]:=((Bag.nil w).add (F:=OldR _ s) h (lasts_oldR _ _)).add (F:=OldN _ n) hu' (lasts_oldN _ _)
 obtain⟨w0,hw0,hg0,hB0,_,hs0⟩:=bag_four HG0 (Below.refl _ _) (.slice A s.1.1.length ca) (.slice B s.1.2.length cb) (.slice N s.2.1.length cn) (.slice L s.2.2.length cl) 29
 obtain⟨w1,hw1,hg1,hB1,_,hs1⟩:=bag_node hg0 (Below.refl _ _) (.int .i64 lw) (.slice I m ci)
 obtain⟨w2,hw2,q0,hs2,hB2⟩:=box_one w1 (cloE w.heap.size w1.heap.size) 115
 have HG:=Lib.hid ((hg1.below hB2).add (F:=BoxF w1.heap.size (cloE w.heap.size w1.heap.size)) ⟨q0,by omega⟩ (lasts_boxF _ _))
 have BB:=Lib.hid ((hB0.trans (hB1.mono hB0.size)).trans (hB2.mono (hB0.trans (hB1.mono hB0.size)).size))
 replace hs2:=Lib.hid hs2
 replace hs1:=Lib.hid hs1
 replace hs0:=Lib.hid hs0
 replace hlw:=Lib.hid hlw
 replace hlm:=Lib.hid hlm
 clear HG0 hg1 hg0 h hu hu' hB2 hB1 hB0 q0
 go_enter Tryz.func33,Tryz.ntmps33
 go_upto_region 3 with fail
 clear hw0 hw1 hw2
 obtain⟨q0,_⟩:=HG.out.at 0 rfl
 obtain⟨y0,y1,_⟩:=HG.out.at 1 rfl
 by_cases hm0:m=0
 ·have c0:((m:Int)==0)=true:=by simp[hm0]
  have hf:Hid ((decide (m=0)||(spanN s n).isSome)=true):=Lib.hid (by simp[hm0])
  replace hm0:=Lib.hid hm0
  go_wp2_with fail
  go_ret
  exact⟨ret_bool hf.out.symm,BB.out⟩
 have c0:((m:Int)==0)=false:=by simpa using hm0
 have hf:Hid ((decide (m=0)||(spanN s n).isSome)=(spanN s n).isSome):=Lib.hid (by simp[hm0])
 have hcall:=Lib.hid (ends_any s hm lw.toNat (.agg #[.int .i64 lw,.slice I m ci]) _ _ _ _ n w.heap.size w1.heap.size w2 hn (by rw[hlw.out];omega) (by rw[hlm.out];exact hm0) (HG.out.at 3 rfl) (HG.out.at 4 rfl) (HG.out.at 2 rfl) (HG.out.at 0 rfl))
 replace hm0:=Lib.hid hm0
 go_wp2_with fail
 with_reducible refine hcall.out.mono ?_
 rintro e w3 ⟨f,t,ok,rfl,hsp,hb3⟩
 have B3:=Lib.hid (BB.out.trans (hb3.mono BB.out.size))
 obtain⟨w4,hw4,p0,p1,p2,hs4,hB4,_⟩:=box_three w3 (.int .u8 (f.1.toNat:Int)) (.int .u32 f.2.1) (.int .u32 f.2.2) 37
 obtain⟨w5,hw5,r0,r1,r2,hs5,hB5,_⟩:=box_three w4 (.int .u8 (t.1.toNat:Int)) (.int .u32 t.2.1) (.int .u32 t.2.2) 37
 have B5:=Lib.hid (B3.out.trans ((hB4.trans (hB5.mono hB4.size)).mono B3.out.size))
 have hfin:Hid ((spanN s n).isSome=ok):=Lib.hid (by rw[hsp];cases ok <;> rfl)
 replace hsp:=Lib.hid hsp
 replace hs5:=Lib.hid hs5
 clear hB4 hB5 hb3 p0 p1 p2 r0 r1 r2
 go_upto_region 6 with fail
 clear hw4 hw5
 go_wp2_with fail
 go_ret
 exact⟨ret_bool (by rw[hf.out,hfin.out]),B5.out⟩
set_option maxRecDepth 100000 in
set_option maxHeartbeats 8000000 in
theorem findCheck_any (v:Value) (s:Rm) (a:Int) (w:World) (h:Sto (Old w) w v s) :
  Calls Tryz.prog 14 #[v,.int .i64 a] w fun e w'=>e=.returned (.tuple #[.int .i64 (ckH s a),.int .i64 (ckE s a)])∧Below w.heap.size w w':=by
 obtain⟨A,ca,B,cb,N,cn,L,cl,rfl,_⟩:=id h.open
 have hNd:=Lib.hid (fun v W hW=>nodeR_open v s a W hW)
 have hway:Hid ((rmE s a≠0∧ckE s a=rmE s a∧ckH s a=0)∨(rmE s a=0∧mayR s=true∧mayN (rmV s a)=true∧0≤(rmV s a).1∧(rmV s a).1<6∧standsN s (rmV s a)=false∧ckE s a=8∧ckH s a=0) ∨
   (rmE s a=0∧mayR s=true∧mayN (rmV s a)=true∧0≤(rmV s a).1∧(rmV s a).1<6∧standsN s (rmV s a)=true∧ckE s a=0∧ckH s a=(rmV s a).1+1)):=Lib.hid (by
  by_cases ha:asE s a=0
  ·by_cases hr:rmE s a=0
   ·obtain⟨hmn,_⟩:=rm_may hr
    have hst:=stands_tree hr
    obtain⟨k,_,hm,_⟩:=as_read ha
    have hsh:=(mayN_of hmn).1
    cases ht:treeO s a with
    | false=>exact .inr (.inl ⟨hr,hm,hmn,hsh.1,hsh.2.1,hst.trans ht,(ck_bad ha ht).1,(ck_bad ha ht).2⟩)
    | true=>exact .inr (.inr ⟨hr,hm,hmn,hsh.1,hsh.2.1,hst.trans ht,(ck_ok ha ht).1,(ck_ok ha ht).2⟩)
   ·obtain⟨k,_,hm,_,h256,_,_,hE,_,_⟩:=as_read ha
    have h8:rmE s a=8:=by
     rw[hE] at hr ⊢
     exact reN_eight (seen_128 (mayR_of hm).1 h256) hr
    obtain⟨h1,h2⟩:=ck_bad ha (tree_no hr)
    exact .inl ⟨hr,h1.trans h8.symm,h2⟩
  ·obtain⟨hE,_⟩:=rm_bad ha
   obtain⟨h1,h2⟩:=ck_no ha
   exact .inl ⟨by rw[hE];exact ha,h1.trans hE.symm,h2⟩)
 obtain⟨nd,hnd⟩:∃ q,rmV s a=q:=⟨_,rfl⟩
 obtain⟨E0,hE0⟩:∃ q,rmE s a=q:=⟨_,rfl⟩
 obtain⟨cE,hcE⟩:∃ q,ckE s a=q:=⟨_,rfl⟩
 obtain⟨cH,hcH⟩:∃ q,ckH s a=q:=⟨_,rfl⟩
 rw[hnd,hE0] at hNd hway
 rw[hcE,hcH] at hway ⊢
 obtain⟨lw,hlw⟩:∃ q,nd.1=q:=⟨_,rfl⟩
 obtain⟨m,hlm⟩:∃ q,nd.2.length=q:=⟨_,rfl⟩
 rw[hlw,hlm] at hNd
 rw[hlw] at hway
 have HG0:Bag w [OldR (.agg #[.slice A s.1.1.length ca,.slice B s.1.2.length cb,.slice N s.2.1.length cn,.slice L s.2.2.length cl]) s]:=(Bag.nil w).add (F:=OldR _ s) h (lasts_oldR _ _)
 obtain⟨w0,hw0,hg0,hB0,_,hs0⟩:=bag_four HG0 (Below.refl _ _) (.slice A s.1.1.length ca) (.slice B s.1.2.length cb) (.slice N s.2.1.length cn) (.slice L s.2.2.length cl) 29
 have HG:=Lib.hid hg0
 have BB:=Lib.hid hB0
 obtain⟨s0,s1,s2,s3,_⟩:=HG.out.at 0 rfl
 replace hs0:=Lib.hid hs0
 replace hnd:=Lib.hid hnd
 replace hE0:=Lib.hid hE0
 replace hcE:=Lib.hid hcE
 replace hcH:=Lib.hid hcH
 replace hlw:=Lib.hid hlw
 replace hlm:=Lib.hid hlm
 clear HG0 hg0 h hB0
 go_enter Tryz.func14,Tryz.ntmps14
 go_upto_region 1 with fail
 clear hw0
 go_wp2_with fail
 with_reducible refine(hNd.out _ _ (HG.out.at 1 rfl)).mono ?_
 rintro e w3 ⟨Z,zc,rfl,-,h3n,hb3⟩
 obtain⟨w4,hw4,hg4,hb4,-,hs4⟩:=bag_node ((HG.out.below hb3).add (F:=OldN _ nd) h3n.drop (lasts_oldN _ _)) (Below.refl _ _) (.int .i64 lw) (.slice Z m zc)
 replace HG:=Lib.hid hg4
 replace BB:=Lib.hid (BB.out.trans ((hb3.trans (hb4.mono hb3.size)).mono BB.out.size))
 replace hs4:=Lib.hid hs4
 clear hg4 hb4 hb3 h3n s0 s1 s2 s3 hNd
 go_upto_region 2 with fail
 clear hw4
 rcases hway.out with ⟨he,h1,h2⟩ | ⟨he,hm,hmn,l0,l6,hst,h1,h2⟩ | ⟨he,hm,hmn,l0,l6,hst,h1,h2⟩
 ·have e1:(E0 != 0)=true:=by simpa using he
  replace h1:=Lib.hid h1
  replace h2:=Lib.hid h2
  clear he hway
  go_wp2_with fail
  go_ret2
  exact⟨by rw[h1.out,h2.out];rfl,BB.out⟩
 ·have hcall:=Lib.hid (stands_any _ _ s hm nd hmn w4 (HG.out.at 3 rfl) (HG.out.at 1 rfl))
  rw[hst] at hcall
  subst he
  obtain⟨y0,y1,_⟩:=HG.out.at 0 rfl
  obtain⟨s0,s1,s2,s3,_⟩:=HG.out.at 2 rfl
  replace h1:=Lib.hid h1
  replace h2:=Lib.hid h2
  clear hway hst hm hmn l0 l6
  go_wp2_with fail
  with_reducible refine hcall.out.mono ?_
  rintro e w5 ⟨rfl,hb5⟩
  have B5:=Lib.hid (BB.out.trans (hb5.mono BB.out.size))
  clear hb5
  go_wp2_with fail
  go_ret2
  exact⟨by rw[h1.out,h2.out];rfl,B5.out⟩
 ·have hcall:=Lib.hid (stands_any _ _ s hm nd hmn w4 (HG.out.at 3 rfl) (HG.out.at 1 rfl))
  rw[hst] at hcall
  subst he
  obtain⟨y0,y1,_⟩:=HG.out.at 0 rfl
  obtain⟨s0,s1,s2,s3,_⟩:=HG.out.at 2 rfl
  have i9:IntKind.i64.wrap (lw+1)=lw+1:=IntWalk.i64_in _ (by omega)
  replace h1:=Lib.hid h1
  replace h2:=Lib.hid h2
  clear hway hst hm hmn l0 l6
  go_wp2_with fail
  with_reducible refine hcall.out.mono ?_
  rintro e w5 ⟨rfl,hb5⟩
  have B5:=Lib.hid (BB.out.trans (hb5.mono BB.out.size))
  have HG5:=HG.out.below hb5
  clear hb5 y0 y1
  obtain⟨y0,y1,_⟩:=HG5.at 0 rfl
  clear HG5
  go_wp2_with fail
  go_ret2
  exact⟨by rw[h1.out,h2.out];rfl,B5.out⟩
end Go.Proofs.YtogieepfimpdmaaGreat
/-
 Package walk: the function that items hands back,which ranges over itself. Conditions: those that each lemma states.
-/
namespace Go.Proofs.YtogieepfimpdmaaGreat
open Go.RowKit Go.Shelf
attribute [local go_sem] Oper.semAt_some
def ItemsTold (s:Rm) (l:Nat):Prop:=∀ (a:Int),AtT s l a→∀ (n0 Bs Br:Nat) (v0 v1 v2 v3:Value) (w:World),n0≤w.heap.size→Box4 Bs v0 v1 v2 v3 w→BoxF Br (.int .i64 a) w→Sto (fun p=>p.block<n0) w (.agg #[v0,v1,v2,v3]) s →
  Told Tryz.prog 85 #[.pointer (some ⟨Bs,0,none⟩),.pointer (some ⟨Br,0,none⟩)] encW (TellW (walkT s l a)) (EndT (walkT s l a)) (StayW n0 Bs Br) w
theorem low_kept {n0:Nat} {A B:World} (h:∀ k,k<n0→B.heap[k]? = A.heap[k]?) {p:Addr} {v:Value} (hp:p.block<n0) (hc:A.cell? p=some v):p.block<n0∧B.cell? p=some v:=⟨hp,(World.cell?_of_block (h _ hp)).trans hc⟩
theorem low_old {n0:Nat} {A:World} (hn:n0≤A.heap.size) {p:Addr} {v:Value} (hp:p.block<n0) (hc:A.cell? p=some v):Old A p∧A.cell? p=some v:=⟨Nat.lt_of_lt_of_le hp hn,hc⟩
theorem items_any (v0 v1 v2 v3:Value) (a:Int) (w:World):Calls Tryz.prog 60 #[.agg #[v0,v1,v2,v3],.int .i64 a] w fun e w'=>e=.returned (.func (.func 85) #[] #[.pointer (some ⟨w.heap.size,0,none⟩),.pointer (some ⟨w.heap.size+1,0,none⟩)]) ∧
  w'=(w.alloc (.cells #[v0,v1,v2,v3] 29)).alloc (.cells #[.int .i64 a] 3):=by
 have hmf:∀ (fn:Fn) (first cap:Array Value) (w:World),(Instr.makeFunc fn first cap).run Tryz.prog w=.ok (.func fn first cap) w:=fun _ _ _ _=>rfl
 go_enter Tryz.func60,Tryz.ntmps60
 go_wp2_with fail
 go_ret
 exact⟨rfl,rfl⟩
set_option maxRecDepth 100000 in
set_option maxHeartbeats 8000000 in
theorem items_step (s:Rm) (l0:Nat) (hr0:∀ j,l0=j+1→ItemsTold s j):ItemsTold s l0:=by
 intro a hat n0 Bs Br v0 v1 v2 v3 w hn0 hBs hBr hS l M J Jx o W hW hJ hJx hM hJs hZ hY h0
 have hnW:n0≤W.heap.size:=Nat.le_trans hn0 hW.size
 have hBsW:=lasts_box4 _ _ _ _ _ _ _ hBs hW
 have hBrW:=lasts_boxF _ _ _ _ hBr hW
 have hSW:Sto (fun p=>p.block<n0) W (.agg #[v0,v1,v2,v3]) s:=hS.map fun p v hp hc=>low_kept (fun k hk=>hW.block k (by omega)) hp hc
 have hNd:=Lib.hid (fun v W hW=>nodeR_open v s a W hW)
 have hok:=hat.ok
 have hmn:=Lib.hid hat.may
 have hlv:=hat.lvl
 have hdn:=Lib.hid (fun(j:Nat) (hj:l0=j+1) (x:It) (hx:x∈(rmV s a).2)=>(by subst hj;exact hat.down hx:AtT s j x.2.1))
 have hL:=walk_part s l0 a
 obtain⟨nd,hnd⟩:∃ q,rmV s a=q:=⟨_,rfl⟩
 rw[hok,hnd] at hNd
 rw[hnd] at hmn hlv hdn hL
 obtain⟨lw,hlw⟩:∃ q,nd.1=q:=⟨_,rfl⟩
 obtain⟨ll,hl⟩:∃ q,nd.2=q:=⟨_,rfl⟩
 obtain⟨m,hlm⟩:∃ q,ll.length=q:=⟨_,rfl⟩
 rw[hlw,hl,hlm] at hNd
 rw[hl] at hdn hL
 rw[hlw] at hlv
 have hm5:m≤5:=by
  have:=(mayN_of hmn.out).1.2.2.1
  rw[hl,hlm] at this
  exact this
 rw[hL] at hY ⊢
 obtain⟨w1,hw1,b1,hs1,hB1⟩:=box_one W (.func (.yield l) #[] #[]) 150
 have BS1:=lasts_box4 _ _ _ _ _ _ _ hBsW hB1
 have BR1:=lasts_boxF _ _ _ _ hBrW hB1
 have S1:Hid (Sto (Old w1) w1 (.agg #[v0,v1,v2,v3]) s):=Lib.hid (hSW.map fun p v hp hc=>low_old (by omega) (low_kept (fun k hk=>hB1.block k (by omega)) hp hc).1 (low_kept (fun k hk=>hB1.block k (by omega)) hp hc).2)
 obtain⟨s0,s1,s2,s3,_⟩:=BS1
 obtain⟨r0,_⟩:=BR1
 replace hs1:=Lib.hid hs1
 replace hB1:=Lib.hid hB1
 replace hlw:=Lib.hid hlw
 replace hl:=Lib.hid hl
 replace hlm:=Lib.hid hlm
 replace hnd:=Lib.hid hnd
 replace hlv:=Lib.hid hlv
 replace hY:=Lib.hid hY
 replace hL:=Lib.hid hL
 replace hZ:=Lib.hid hZ
 replace hM:=Lib.hid hM
 replace hJs:=Lib.hid hJs
 clear hS hBs hBr hat
 refine callsIn_wide.1 (callsIn_of_wp_marks (n:=5) Tryz.func85 rfl trivial ?_ rfl)
 simp only[Tryz.ntmps85,List.size_toArray,List.length_cons,List.length_nil,Nat.reduceAdd,Nat.reduceSub,Array.replicate_succ,Array.replicate_zero,List.push_toArray,List.append_toArray,List.nil_append,List.cons_append]
 gi_wp2_with fail
 refine⟨trivial,?_⟩
 gi_at_call 13
 refine(callsIn_wide.2 (hNd.out (.agg #[v0,v1,v2,v3]) w1 S1.out)).mono ?_
 rintro e w2 ⟨Z,zc,rfl,-,hN2,hB2⟩
 obtain⟨w3,hw3,b3,hs3,hB3⟩:=box_pair' w2 (.int .i64 lw) (.slice Z m zc) 45
 obtain⟨y0,y1,_⟩:=two_cells b3
 replace hs3:=Lib.hid hs3
 replace b3:=Lib.hid b3
 gi_wp2_with fail
 have B3:=Lib.hid ((hB1.out.trans (hB2.mono hB1.out.size)).trans (hB3.mono (hB1.out.trans (hB2.mono hB1.out.size)).size))
 have sz:=Lib.hid (show W.heap.size<w1.heap.size∧w1.heap.size≤w2.heap.size∧w2.heap.size<w3.heap.size from ⟨by have:=hs1.out;omega,hB2.size,by have:=hs3.out;omega⟩)
 have ho:=Lib.hid (fun k (e:o=some k)=>(hJs.out _ _ h0).2 k e)
 have N3:Hid (rIts (Fre W.heap.size o w3) w3 [.slice Z m zc] ll):=Lib.hid (by
  obtain⟨_,e,_,h⟩:=hN2
  cases e
  rw[hl.out] at h
  refine stab_its _ _ _ _ _ _ (fun p v hp hc => ?_) (stab_its.new h (Nat.le_refl _) (hB3.mono (Nat.le_refl _)))
  exact⟨⟨⟨Nat.le_trans (Nat.le_of_lt sz.out.1) hp.1,hp.2⟩,fun e=>by have:=ho.out _ e;have:=hp.1;have:=sz.out.1;omega⟩,hc⟩)
 have J3:=Lib.hid (hJ _ _ _ none h0 (below_grown B3.out) (by simp))
 have b3':Hid (w3.cell? ⟨W.heap.size,0,none⟩=some (.func (.yield l) #[] #[])):=Lib.hid (((hB2.trans (hB3.mono hB2.size)).cell (p:=⟨W.heap.size,0,none⟩) sz.out.1).trans b1)
 obtain⟨Inv,hInv⟩:∃ Inv:Act→World→Prop,Inv=fun a' wr=>∃ (k:Nat) (pre:List Wk) (q:Option Nat) (Ds:List Nat) (x7 x8 x9 x21 x22 x23 x24 x25 x26 x27 x28 x29 x30 x31 x32 x33 x34 x35 x36 x37 x38 x39 x40 x41 x42 x43 x44 x45:Value),
   (k≤m∧x21=.int .i64 (k:Int)∧pre.map keyW=doneW s l0 ll k∧J (pre,q) wr∧Kept M o q w3 wr∧Ds.Nodup∧∀ D∈Ds,w3.heap.size≤D∧D<wr.heap.size∧wr.heap[D]? = some (.deferred (some []))∧q≠some D) ∧
   a'={ tmps:=#[.func (.yield l) #[] #[],.pointer (some ⟨Bs,0,none⟩),.pointer (some ⟨Br,0,none⟩),.pointer (some ⟨W.heap.size,0,none⟩),.pointer (some ⟨w2.heap.size,0,none⟩),.int .i64 0,undef,x7,x8,x9,
    .tuple #[.agg #[.int .i64 lw,.slice Z m zc],.int .i64 0],.agg #[v0,v1,v2,v3],.int .i64 a,.tuple #[.agg #[.int .i64 lw,.slice Z m zc],.int .i64 0],.agg #[.int .i64 lw,.slice Z m zc],.int .i64 0,.int .i64 0,.bool false,.pointer (some ⟨w2.heap.size,1,none⟩),.slice Z m zc,
    .int .i64 m,x21,x22,x23,x24,x25,x26,x27,x28,x29,x30,x31,x32,x33,x34,x35,x36,x37,x38,x39,x40,x41,x42,x43,x44,x45],defers:=Ds.map fun D=>{ target:=.collected D,args:=#[] } }:=⟨_,rfl⟩
 clear h0 hN2 hB2 hB3 b1 y0 y1 hw1 hw3 s0 s1 s2 s3 r0 hNd S1 hs3 hs1
 refine wpIn_loop Inv (fun a' _=>6-(intOf (a'.tmps.getD 21 undef)).toNat) ?_ ?_
 ·rw[hInv]
  exact⟨0,[],o,[],undef,undef,undef,_,undef,undef,undef,undef,undef,undef,undef,undef,undef,undef,undef,undef,undef,undef,undef,undef,undef,undef,undef,undef,undef,undef,undef,undef,⟨Nat.zero_le _,rfl,(done_zero _ _ _).symm,J3.out,Kept.refl _ _ _,List.nodup_nil,by simp⟩,rfl⟩
 intro a' wr hrel
 rw[hInv] at hrel
 obtain⟨k,pre,q,Ds,x7,x8,x9,x21,x22,x23,x24,x25,x26,x27,x28,x29,x30,x31,x32,x33,x34,x35,x36,x37,x38,x39,x40,x41,x42,x43,x44,x45,⟨hk,rfl,hpre,hJr,hKr,hDn,hDs⟩,rfl⟩:=hrel
 replace hInv:=Lib.hid hInv
 replace hpre:=Lib.hid hpre
 replace hJr:=Lib.hid hJr
 replace hKr:=Lib.hid hKr
 replace hDn:=Lib.hid hDn
 replace hDs:=Lib.hid hDs
 by_cases hlt:k<m
 case neg =>
  have hc0:¬ ((k:Int)<(m:Int)):=by omega
  gi_wp2_with fail
  refine leave_none (B:=W.heap.size) rfl (fun W4 D hD hd hx => ?_) hDn.out (fun D hD=>⟨Nat.le_trans (Nat.le_trans B3.out.size (Nat.le_refl _)) (hDs.out D hD).1,(hDs.out D hD).2.2.1⟩) ?_
  ·rcases hx with ⟨xs,he,q',hj⟩ | ⟨xs,q',hj⟩
   ·exact .inl ⟨xs,he,q',hJ.putObj _ hj hD hd rfl⟩
   ·exact .inr ⟨xs,q',hJx.putObj _ hj hD hd rfl⟩
  ·refine .inl ⟨pre,?_,q,hJr.out⟩
   unfold EndT
   rw[hpre.out,show k=ll.length from (by have:=hlm.out;omega),done_all]
 have hc0:((k:Int)<(m:Int)):=by omega
 obtain⟨x,hx⟩:∃ x,ll[k]? = some x:=⟨_,List.getElem?_eq_getElem (by rw[hlm.out];exact hlt)⟩
 have NR:Hid (rIts (Fre W.heap.size q wr) wr [.slice Z m zc] ll):=Lib.hid (stab_its _ _ _ _ _ _ (fun p v hp hc=>fre_kept hM.out hKr.out hp hc) N3.out)
 obtain⟨ad,E,ce,rfl,_,⟨z0,z1,z2,z3,z4⟩,hit,_⟩:=its_at NR.out hx
 have bq:=Lib.hid (hJs.out _ _ hJr.out)
 have hq3:Hid (∀ k,W.heap.size≤k→k<w3.heap.size→wr.heap[k]? = w3.heap[k]? ∧ q≠some k):=Lib.hid fun k h1 h2=>hKr.out.same k h2 (fun e=>by have:=hM.out _ e;omega) (fun e=>by have:=ho.out _ e;omega)
 obtain⟨y0,y1,_⟩:=two_cells ((hq3.out w2.heap.size (Nat.le_of_lt (Nat.lt_of_lt_of_le sz.out.1 sz.out.2.1)) sz.out.2.2).1.trans b3.out)
 have c1:wr.cell? ⟨W.heap.size,0,none⟩=some (.func (.yield l) #[] #[]):=(World.cell?_of_block (hq3.out W.heap.size (Nat.le_refl _) (by have:=sz.out;omega)).1).trans b3'.out
 obtain⟨w4,hw4,u0,u1,u2,u3,u4,hs4,hB4,g4⟩:=box_five wr (.int .u8 (x.1.1.toNat:Int)) (.int .u32 x.1.2.1) (.int .u32 x.1.2.2) (.int .i64 x.2.1) (.slice E x.2.2.length ce) 40
 have J4:=hJ _ _ _ none hJr.out (below_grown hB4) (by simp)
 have hit4:Itm (Fre W.heap.size q w4) w4 (itV x (.slice E x.2.2.length ce)) x:=hit.map fun p v hp hc=>fre_kept hM.out (Kept.below hB4) hp hc
 have hY4:=hY.out pre q (lw,x,itV x (.slice E x.2.2.length ce)) w4 J4 ⟨by
  rw[List.map_append,hpre.out]
  obtain⟨r,hr⟩:=part_head s l0 x
  refine(List.IsPrefix.trans ⟨r,?_⟩ (done_pre s l0 hx))
  rw[hr]
  simp[keyW,hlv.out],hit4⟩
 obtain⟨fn,tmps,assign,body,hy,hR⟩:=hY4
 replace hR:=Lib.hid hR
 replace J4:=Lib.hid J4
 replace hit4:=Lib.hid hit4
 replace hs4:=Lib.hid hs4
 replace g4:=Lib.hid g4
 replace hx:=Lib.hid hx
 have i4:(0:Int)≤(k:Int):=by omega
 replace hB4':=Lib.hid hB4
 have y0':=(hB4.cell (p:=⟨w2.heap.size,0,none⟩) (by show w2.heap.size<wr.heap.size;have:=hKr.out.size;have:=sz.out;omega)).trans y0
 have c1':=(hB4.cell (p:=⟨W.heap.size,0,none⟩) (by show W.heap.size<wr.heap.size;have:=hKr.out.size;have:=sz.out;omega)).trans c1
 clear hit c1 y0 y1 hB4
 replace hy:Sem.run Tryz.prog (Instr.yield l #[.int .i64 lw,.agg #[.int .u8 (x.1.1.toNat:Int),.int .u32 x.1.2.1,.int .u32 x.1.2.2,.int .i64 x.2.1,.slice E x.2.2.length ce]]) w4=.ok (.round l fn tmps assign body) w4:=hy
 gi_wp2_with fail
 refine(round_wide hR.out).mono ?_
 clear hR hy y0' c1' u0 u1 u2 u3 u4 z0 z1 z2 z3 z4
 rintro e w5 ⟨q5,hk5,⟨rfl,J5⟩ | ⟨rfl,J5⟩⟩
 case inr =>
  have D5:Hid (∀ D∈Ds,W.heap.size≤D∧w5.heap[D]? = some (.deferred (some []))):=Lib.hid fun D hD=>by
   obtain⟨h1,h2,h3,h4⟩:=hDs.out D hD
   have h5:=hB4'.out.block D h2
   have h6:W.heap.size<D:=by have:=sz.out;omega
   exact⟨by omega,(hk5.same D (by have:=hs4.out;omega) (fun e=>by have:=hM.out _ e;omega) h4).1.trans (h5.trans h3)⟩
  replace J5:=Lib.hid J5
  clear hk5 hw4
  gi_wp2_with fail
  refine leave_none (B:=W.heap.size) rfl (fun W4 D hD hd hx => ?_) hDn.out D5.out (.inr ⟨_,_,J5.out⟩)
  rcases hx with ⟨xs,he,q',hj⟩ | ⟨xs,q',hj⟩
  ·exact .inl ⟨xs,he,q',hJ.putObj _ hj hD hd rfl⟩
  ·exact .inr ⟨xs,q',hJx.putObj _ hj hD hd rfl⟩
 have hk5':=Lib.hid ((hKr.out.grown (below_grown hB4'.out) (by simp)).trans hk5)
 have h54:Hid (∀ k,W.heap.size≤k→k<w4.heap.size→q≠some k→w5.heap[k]? = w4.heap[k]? ∧ q5≠some k):=Lib.hid fun k h1 h2 h3=>hk5.same k h2 (fun e=>by have:=hM.out _ e;omega) h3
 have D5:Hid (∀ D∈Ds,w3.heap.size≤D∧D<w5.heap.size∧w5.heap[D]? = some (.deferred (some []))∧q5≠some D):=Lib.hid fun D hD=>by
  obtain⟨h1,h2,h3,h4⟩:=hDs.out D hD
  have h5:=hB4'.out.block D h2
  have h6:W.heap.size<D:=by have:=sz.out;omega
  have h7:=h54.out D (by omega) (by have:=hs4.out;omega) h4
  exact⟨h1,Nat.lt_of_lt_of_le h2 (Nat.le_trans hB4'.out.size hk5.size),h7.1.trans (h5.trans h3),h7.2⟩
 have g5:=Lib.hid ((h54.out wr.heap.size (by have:=bq.out.1;omega) (by have:=hs4.out;omega) (fun e=>by have:=bq.out.2 _ e;omega)).1.trans g4.out)
 have hq5:Hid (∀ k,W.heap.size≤k→k<w3.heap.size→w5.heap[k]? = w3.heap[k]? ∧ q5≠some k):=Lib.hid fun k h1 h2=>hk5'.out.same k h2 (fun e=>by have:=hM.out _ e;omega) (fun e=>by have:=ho.out _ e;omega)
 obtain⟨y0,y1,_⟩:=two_cells ((hq5.out w2.heap.size (by have:=sz.out;omega) sz.out.2.2).1.trans b3.out)
 have bq5:=Lib.hid (hJs.out _ _ J5)
 have hp5:Hid ((pre++[(lw,x,itV x (.slice E x.2.2.length ce))]).map keyW=doneW s l0 ll k++[((l0:Int),x)]):=Lib.hid (by
  rw[List.map_append,hpre.out]
  simp[keyW,hlv.out])
 obtain⟨pre1,hpre1⟩:∃ p,pre++[(lw,x,itV x (.slice E x.2.2.length ce))]=p:=⟨_,rfl⟩
 rw[hpre1] at J5 hp5
 replace J5:=Lib.hid J5
 replace hpre1:=Lib.hid hpre1
 clear hk5 h54 g4 hw4 J4 hit4 hB4' hs4 hDs hJr hKr bq hpre NR
 cases l0 with
 | zero =>
  have c0:(lw==0)=true:=by rw[hlv.out];rfl
  have i9:IntKind.i64.wrap ((k:Int)+1)=((k+1:Nat):Int):=by rw[IntKind.wrap_i64];omega
  gi_wp2_with fail
  rw[hInv.out]
  refine⟨⟨k+1,pre1,q5,Ds,_,_,_,_,_,_,_,_,_,_,_,_,_,_,_,_,_,_,_,_,_,_,_,_,_,_,_,_,⟨by omega,by go_num,?_,J5.out,hk5'.out,hDn.out,D5.out⟩,rfl⟩,?_⟩
  ·rw[hp5.out,done_step s 0 hx.out,part_zero]
   rfl
  ·simp[intOf]
   omega
 | succ l1 =>
  have c0:(lw==0)=false:=by have:=hlv.out;simp;omega
  have BS3:=lasts_box4 _ _ _ _ _ _ _ hBsW B3.out
  have hkB:w5.heap[Bs]? = w3.heap[Bs]? := (hk5'.out.same Bs BS3.2.2.2.2 (hZ.out Bs (.inr (.inl rfl))).1 (hZ.out Bs (.inr (.inl rfl))).2).1
  obtain⟨s0,s1,s2,s3,_⟩:=BS3
  have s0':=(World.cell?_of_block (a:=⟨Bs,0,none⟩) hkB).trans s0
  have s1':=(World.cell?_of_block (a:=⟨Bs,1,none⟩) hkB).trans s1
  have s2':=(World.cell?_of_block (a:=⟨Bs,2,none⟩) hkB).trans s2
  have s3':=(World.cell?_of_block (a:=⟨Bs,3,none⟩) hkB).trans s3
  obtain⟨f0,f1,f2,f3,f4,_⟩:=five_cells g5.out
  have hAT:=Lib.hid (hdn.out l1 rfl x (List.mem_of_getElem? hx.out))
  obtain⟨w6,hw6,g6,b6,hs6,hB6⟩:∃ w6,(w5.alloc (.cells #[v0,v1,v2,v3] 29)).alloc (.cells #[.int .i64 x.2.1] 3)=w6∧Box4 w5.heap.size v0 v1 v2 v3 w6∧BoxF (w5.heap.size+1) (.int .i64 x.2.1) w6∧w6.heap.size=w5.heap.size+2∧Below w5.heap.size w5 w6:=by
   obtain⟨wa,ha,ga,sa,ba⟩:=box_4 w5 v0 v1 v2 v3 29
   obtain⟨wb,hb,gb,sb,bb⟩:=box_one wa (.int .i64 x.2.1) 3
   obtain⟨k0,k1,k2,k3,_⟩:=four_cells ga
   exact⟨wb,by rw[ha,hb],lasts_box4 _ _ _ _ _ _ _ ⟨k0,k1,k2,k3,by omega⟩ bb,⟨by rw[← sa];exact gb,by omega⟩,by omega,ba.trans (bb.mono ba.size)⟩
  have hIt:=Lib.hid (items_any v0 v1 v2 v3 x.2.1 w5)
  rw[hw6] at hIt
  clear s0 s1 s2 s3 hkB hw6
  gi_wp2_with fail
  refine⟨trivial,?_⟩
  gi_at_call 60
  refine(callsIn_wide.2 hIt.out).mono ?_
  rintro e w6 ⟨rfl,rfl⟩
  gi_wp2_with fail
  have Z6:Hid (∀ k,StayW n0 w5.heap.size (w5.heap.size+1) k→k<w6.heap.size∧¬ M k∧q5≠some k):=Lib.hid fun k hk=>by
   rcases hk with h | rfl | rfl
   ·have h1:=hZ.out k (.inl h)
    have h2:k<w3.heap.size:=by have:=sz.out;omega
    exact⟨by have:=hk5'.out.size;omega,h1.1,(hk5'.out.same k h2 h1.1 h1.2).2⟩
   ·exact⟨by omega,fun e=>by have:=hM.out _ e;have:=bq5.out.1;omega,fun e=>by have:=bq5.out.2 _ e;omega⟩
   ·exact⟨by omega,fun e=>by have:=hM.out _ e;have:=bq5.out.1;omega,fun e=>by have:=bq5.out.2 _ e;omega⟩
  have S6:Sto (fun p=>p.block<n0) w6 (.agg #[v0,v1,v2,v3]) s:=hSW.map fun p v hp hc=>low_kept (fun k hk=>by
   have h1:=hZ.out k (.inl hk)
   rw[hB6.block k (by have:=bq5.out.1;omega),(hk5'.out.same k (by have:=sz.out;omega) h1.1 h1.2).1]
   exact B3.out.block k (by omega)) hp hc
  have c6:Hid (w6.cell? ⟨W.heap.size,0,none⟩=some (.func (.yield l) #[] #[])∧W.heap.size<w6.heap.size∧¬ M W.heap.size∧q5≠some W.heap.size):=Lib.hid (by
   obtain⟨h1,h2⟩:=hq5.out W.heap.size (Nat.le_refl _) (by have:=sz.out;omega)
   have h3:W.heap.size<w5.heap.size:=by have:=hk5'.out.size;have:=sz.out;omega
   exact⟨(World.cell?_of_block (a:=⟨W.heap.size,0,none⟩) ((hB6.block _ h3).trans h1)).trans b3'.out,by omega,fun e=>by have:=hM.out _ e;omega,h2⟩)
  have J6:=hJ _ _ _ none J5.out (below_grown hB6) (by simp)
  have k6:Hid (Kept M o q5 w3 w6):=Lib.hid (hk5'.out.grown (below_grown hB6) (by simp))
  have D6:Hid (∀ D∈Ds,w3.heap.size≤D∧D<w6.heap.size∧w6.heap[D]? = some (.deferred (some []))∧¬ M D∧q5≠some D):=Lib.hid fun D hD=>by
   obtain⟨h1,h2,h3,h4⟩:=D5.out D hD
   exact⟨h1,by omega,(hB6.block D h2).trans h3,fun e=>by have:=hM.out _ e;have:=sz.out;omega,h4⟩
  have hW6:W.heap.size≤w6.heap.size:=by have:=bq5.out.1;omega
  have hpre6:Hid (∀ (r:List Wk) (y:Wk),(r++[y]).map keyW <+: walkT s l1 x.2.1→((pre1++r)++[y]).map keyW <+: ll.flatMap (partW s (l1+1))):=Lib.hid fun r y hr=>by
   refine List.IsPrefix.trans ?_ (done_pre s (l1+1) hx.out)
   rw[List.append_assoc,List.map_append,hp5.out,List.append_assoc,part_succ]
   exact(List.prefix_append_right_inj _).2 ((List.prefix_append_right_inj [(((l1+1:Nat):Int),x)]).2 hr)
  have hfin6:Hid (∀ xs:List Wk,xs.map keyW=walkT s l1 x.2.1→(pre1++xs).map keyW=doneW s (l1+1) ll (k+1)):=Lib.hid fun xs hxs=>by
   rw[List.map_append,hp5.out,hxs,done_step s (l1+1) hx.out,part_succ,List.append_assoc]
   rfl
  have hr1:=hr0 l1 rfl x.2.1 hAT.out n0 w5.heap.size (w5.heap.size+1) v0 v1 v2 v3 w6 (by omega) g6 b6 S6
  clear y0 y1 s0' s1' s2' s3' f0 f1 f2 f3 f4 g5 g6 b6 S6 hIt hr0 D5 hq5 hSW
  refine range_told (m:=5) (gf:=85) (lb:=#[.pointer (some ⟨w5.heap.size,0,none⟩),.pointer (some ⟨w5.heap.size+1,0,none⟩)]) rfl (enters_of Tryz.func85 (by kernel_rfl) rfl) hr1 (fun _=>rfl) M (fun k e=>by have:=hM.out k e;omega) q5 Z6.out
   (fun r V=>J (pre1++r.1,r.2) V∧Kept M q5 r.2 w6 V) (fun c r V=>(c=.ret∧Jx (pre1++r.1,r.2) V)∧Kept M q5 r.2 w6 V)
   (OwnFrom.and (fun r A B row hs hg hr=>hJ _ A B row hs hg fun r e=>⟨by have:=(hr r e).1;omega,(hr r e).2⟩) (ownFrom_kept (Nat.le_refl _)))
   (fun c=>OwnFrom.and (fun r A B row hs hg hr=>⟨hs.1,hJx _ A B row hs.2 hg fun r e=>⟨by have:=(hr r e).1;omega,(hr r e).2⟩⟩) (ownFrom_kept (Nat.le_refl _)))
   (fun r V hr=>(hJs.out _ _ hr.1).2) ⟨by rw[List.append_nil];exact J6,Kept.refl _ _ _⟩
   (fun y a' V=>∃ (g:Nat) (d:Value),a'={ tmps:=#[.func (.yield l) #[] #[],.pointer (some ⟨Bs,0,none⟩),.pointer (some ⟨Br,0,none⟩),.pointer (some ⟨W.heap.size,0,none⟩),.pointer (some ⟨w2.heap.size,0,none⟩),.int .i64 0,undef,.pointer (some ⟨wr.heap.size,0,none⟩),.int .i64 y.1,.pointer (some ⟨g,0,none⟩),
    .tuple #[.agg #[.int .i64 lw,.slice (some ad) m zc],.int .i64 0],.agg #[v0,v1,v2,v3],.int .i64 a,.tuple #[.agg #[.int .i64 lw,.slice (some ad) m zc],.int .i64 0],.agg #[.int .i64 lw,.slice (some ad) m zc],.int .i64 0,.int .i64 0,.bool false,.pointer (some ⟨w2.heap.size,1,none⟩),.slice (some ad) m zc,
    .int .i64 m,.int .i64 k,.bool true,.pointer (some (ad.add (k*5))),.agg #[.int .u8 (x.1.1.toNat:Int),.int .u32 x.1.2.1,.int .u32 x.1.2.2,.int .i64 x.2.1,.slice E x.2.2.length ce],.func (.yield l) #[] #[],.pointer (some ⟨w2.heap.size,0,none⟩),.int .i64 lw,
    .agg #[.int .u8 (x.1.1.toNat:Int),.int .u32 x.1.2.1,.int .u32 x.1.2.2,.int .i64 x.2.1,.slice E x.2.2.length ce],.bool true,.bool false,.pointer (some ⟨w2.heap.size,0,none⟩),.int .i64 lw,.bool false,.agg #[v0,v1,v2,v3],.pointer (some ⟨wr.heap.size,3,none⟩),.int .i64 x.2.1,
    .func (.func 85) #[] #[.pointer (some ⟨w5.heap.size,0,none⟩),.pointer (some ⟨w5.heap.size+1,0,none⟩)],.int .i64 y.1,.agg #[.int .u8 (y.2.1.1.1.toNat:Int),.int .u32 y.2.1.1.2.1,.int .u32 y.2.1.1.2.2,.int .i64 y.2.1.2.1,d],x40,x41,x42,x43,x44,x45],defers:=[] }∧y.2.2=itV y.2.1 d ∧
    V.cell? ⟨g,0,none⟩=some (.int .u8 (y.2.1.1.1.toNat:Int))∧V.cell? ⟨g,1,none⟩=some (.int .u32 y.2.1.1.2.1)∧V.cell? ⟨g,2,none⟩=some (.int .u32 y.2.1.1.2.2)∧V.cell? ⟨g,3,none⟩=some (.int .i64 y.2.1.2.1)∧V.cell? ⟨g,4,none⟩=some d)
   (fun y a' _ A B row hs hg hr=>by
    obtain⟨g,d,e1,e2,h0,h1,h2,h3,h4⟩:=hs
    have hn:=fun r e=>(hr r e).2
    exact⟨g,d,e1,e2,cell_kept h0 hg hn,cell_kept h1 hg hn,cell_kept h2 hg hn,cell_kept h3 hg hn,cell_kept h4 hg hn⟩)
   (fun pre x q=>tell_own _ _ _ _ _ _) ?assign ?body ?done ?stop
  case assign =>
   rintro l' pre' q' ⟨lv',it',val'⟩ V K hi ⟨_,hit⟩ hK
   obtain⟨A',c',hd,-⟩:=hit.open
   dsimp only at hd
   subst hd
   obtain⟨V1,hV1,v0',v1',v2',v3',v4',hVs,hVB,_⟩:=box_five V (.int .u8 (it'.1.1.toNat:Int)) (.int .u32 it'.1.2.1) (.int .u32 it'.1.2.2) (.int .i64 it'.2.1) (.slice A' it'.2.2.length c') 40
   replace hVs:=Lib.hid hVs
   clear hit hi
   simp only[encW,itV]
   gi_wp2_with fail
   exact hK _ _ (below_grown hVB) ⟨V.heap.size,_,rfl,rfl,v0',v1',v2',v3',v4'⟩
  case body =>
   rintro l' pre' q' ⟨lv',it',val'⟩ a' V hVs ⟨hj,hkV⟩ ⟨g,d,rfl,hd,v0',v1',v2',v3',v4'⟩ ⟨hpf,hit⟩
   dsimp only at hd hit v0' v1' v2' v3' v4'
   subst hd
   have c7:V.cell? ⟨W.heap.size,0,none⟩=some (.func (.yield l) #[] #[]):=(World.cell?_of_block (a:=⟨W.heap.size,0,none⟩) (hkV.same _ c6.out.2.1 c6.out.2.2.1 c6.out.2.2.2).1).trans c6.out.1
   obtain⟨fn,tmps,assign,body,hy,hR⟩:=hY.out (pre1++pre') q' (lv',it',itV it' d) V hj ⟨hpre6.out _ _ hpf,hit.map fun p v hp hc=>⟨⟨⟨Nat.le_trans (by omega) hp.1.1,hp.1.2⟩,hp.2⟩,hc⟩⟩
   replace hy:Sem.run Tryz.prog (Instr.yield l #[.int .i64 lv',.agg #[.int .u8 (it'.1.1.toNat:Int),.int .u32 it'.1.2.1,.int .u32 it'.1.2.2,.int .i64 it'.2.1,d]]) V=.ok (.round l fn tmps assign body) V:=hy
   replace hR:=Lib.hid hR
   replace hkV:=Lib.hid hkV
   clear hpf hit hj
   gi_wp2_with fail
   refine⟨rfl,(round_any hR.out).mono ?_⟩
   clear hR hy c7 v0' v1' v2' v3' v4'
   rintro e V1 ⟨q1,hk1,⟨rfl,J1⟩ | ⟨rfl,J1⟩⟩
   ·rw[List.append_assoc] at J1
    have hk2:=Lib.hid (hkV.out.trans hk1)
    replace hk1:=Lib.hid hk1
    replace J1:=Lib.hid J1
    gi_wp2_with fail
    exact⟨q1,hk1.out,J1.out,hk2.out⟩
   ·rw[List.append_assoc] at J1
    have hk2:=Lib.hid (hkV.out.trans hk1)
    replace hk1:=Lib.hid hk1
    replace J1:=Lib.hid J1
    gi_wp2_with fail
    exact⟨q1,hk1.out,⟨rfl,J1.out⟩,hk2.out⟩
  case done =>
   rintro xs q' V hVs hE ⟨hj,hkV⟩ hDV hqV
   have D7:Hid (∀ D∈w6.heap.size::Ds,w3.heap.size≤D∧D<V.heap.size∧V.heap[D]? = some (.deferred (some []))∧q'≠some D):=Lib.hid fun D hD=>by
    rcases List.mem_cons.1 hD with rfl | hD
    ·exact⟨k6.out.size,hVs,hDV,hqV⟩
    ·obtain⟨h1,h2,h3,h4,h5⟩:=D6.out D hD
     obtain⟨h6,h7⟩:=hkV.same D h2 h4 h5
     exact⟨h1,by omega,h6.trans h3,h7⟩
   have hN7:Hid ((w6.heap.size::Ds).Nodup):=Lib.hid (List.nodup_cons.2 ⟨fun h=>by have:=(D6.out _ h).2.1;omega,hDn.out⟩)
   have hk7:=Lib.hid (k6.out.trans hkV)
   have hp7:=Lib.hid (hfin6.out xs hE)
   replace hj:=Lib.hid hj
   replace hs6:=Lib.hid hs6
   clear hVs hDV hqV hkV
   gi_wp2_with fail
   rw[hInv.out]
   refine⟨⟨k+1,pre1++xs,q',w6.heap.size::Ds,.pointer (some ⟨wr.heap.size,0,none⟩),x8,x9,.int .i64 ((k:Int)+1),.bool true,.pointer (some (ad.add (k*5))),.agg #[.int .u8 (x.1.1.toNat:Int),.int .u32 x.1.2.1,.int .u32 x.1.2.2,.int .i64 x.2.1,.slice E x.2.2.length ce],.func (.yield l) #[] #[],
    .pointer (some ⟨w2.heap.size,0,none⟩),.int .i64 lw,.agg #[.int .u8 (x.1.1.toNat:Int),.int .u32 x.1.2.1,.int .u32 x.1.2.2,.int .i64 x.2.1,.slice E x.2.2.length ce],.bool true,.bool false,.pointer (some ⟨w2.heap.size,0,none⟩),.int .i64 lw,.bool false,.agg #[v0,v1,v2,v3],.pointer (some ⟨wr.heap.size,3,none⟩),.int .i64 x.2.1,
    .func (.func 85) #[] #[.pointer (some ⟨w5.heap.size,0,none⟩),.pointer (some ⟨w5.heap.size+1,0,none⟩)],x38,x39,x40,x41,x42,x43,x44,.int .i64 ((k:Int)+1),⟨by omega,by go_num,hp7.out,hj.out,hk7.out,hN7.out,D7.out⟩,?_⟩,?_⟩
   ·rfl
   simp[intOf]
   omega
  case stop =>
   rintro c pre' q' V hVs ⟨⟨rfl,hj⟩,hkV⟩ hDV hqV
   have D7:Hid (∀ D∈w6.heap.size::Ds,W.heap.size≤D∧V.heap[D]? = some (.deferred (some []))):=Lib.hid fun D hD=>by
    rcases List.mem_cons.1 hD with rfl | hD
    ·exact⟨hW6,hDV⟩
    ·obtain⟨h1,h2,h3,h4,h5⟩:=D6.out D hD
     obtain⟨h6,h7⟩:=hkV.same D h2 h4 h5
     exact⟨by have:=sz.out;omega,h6.trans h3⟩
   have hN7:Hid ((w6.heap.size::Ds).Nodup):=Lib.hid (List.nodup_cons.2 ⟨fun h=>by have:=(D6.out _ h).2.1;omega,hDn.out⟩)
   replace hj:=Lib.hid hj
   replace hs6:=Lib.hid hs6
   clear hVs hDV hqV hkV
   gi_wp2_with fail
   refine leave_none (Ds:=w6.heap.size::Ds) (B:=W.heap.size) rfl (fun W4 D hD hd hx => ?_) hN7.out D7.out (.inr ⟨_,_,hj.out⟩)
   rcases hx with ⟨xs,he,q',hj⟩ | ⟨xs,q',hj⟩
   ·exact .inl ⟨xs,he,q',hJ.putObj _ hj hD hd rfl⟩
   ·exact .inr ⟨xs,q',hJx.putObj _ hj hD hd rfl⟩
theorem items_told (s:Rm):∀ l:Nat,ItemsTold s l
 | 0=>items_step s 0 fun j h=>by omega
 | l+1=>items_step s (l+1) fun j h=>by cases h;exact items_told s l
end Go.Proofs.YtogieepfimpdmaaGreat
/-
 Package walk: Range. Conditions: those that each lemma states.
-/
namespace Go.Proofs.YtogieepfimpdmaaGreat
open Go.RowKit Go.Shelf
attribute [local go_sem] Oper.semAt_some
def RangeR (s:Rm) (a:Int) (f t:Ky) (w:World):Ending→World→Prop:=fun e w'=>∃ u c,e=.returned (.tuple #[.slice u (raV s a f t).length c,.int .i64 (ckE s a)])∧rIts (New w.heap.size w') w' [.slice u (raV s a f t).length c] (raV s a f t)∧Below w.heap.size w w'
theorem raV_bad {s:Rm} {a:Int} {f t:Ky} (h:ckE s a≠0):raV s a f t=[]:=if_neg h
theorem raV_ok {s:Rm} {a:Int} {f t:Ky} (h:ckE s a=0):raV s a f t=rangeO s a f t:=if_pos h
theorem app_runIn {F:Fence} {n:Nat} {P:Program} {w:World} {ops:Array Oper} {rest:List Oper} {o:Oper} {a:Act} {Q:Exit→Act→World→Prop} (hg:o.guard=none) (s x:Operand) (t:TypeId)
  (hop:o.op=Op.call { callee:=Callee.builtin Builtin.append,args:=#[s,x],argTypes:=#[t,t] }) {v u v':Value} {w':World} (hs:a.eval s=v) (hx:a.eval x=u)
  (hrun:(Builtin.append_ #[t,t] o.type #[v,u]).run P w=.ok v' w') (h:wpListIn F n P ops Q rest (a.put o.dst v') w'):wpListIn F n P ops Q (o::rest) a w:=by
 refine wpListIn_plain hg fun K hK' => ?_
 unfold Oper.wpIn
 refine⟨?_,?_⟩
 ·simp[Oper.about,hop,resolve,Target.leads,Sem.run_pure]
 ·rw[Oper.semAt_plain F _ _ (by rw[hop];intro c hc';cases hc')]
  simp[execOp,hop,resolve,invoke,builtin,hs,hx,hrun,Result.andThen]
  exact hK' _ _ h
def RowIn (bb lo:Nat) (L:List It) (q:Option Nat) (V:World):Prop:=∃ A c,Boxed V bb 43 (.slice A L.length c)∧RowOf rIt 5 40 lo V A c L∧q=A.map (·.block)
def RgI (n0:World) (b1 b2 bb lo lo':Nat) (f t:Ky) (r:List Wk×Option Nat) (V:World):Prop :=
 (Below n0.heap.size n0 V∧lo'≤V.heap.size)∧(∀ p∈r.1,lessK t p.2.1.1=false)∧(BoxW b1 #[.int .u8 (f.1.toNat:Int),.int .u32 f.2.1,.int .u32 f.2.2] 37 V∧BoxW b2 #[.int .u8 (t.1.toNat:Int),.int .u32 t.2.1,.int .u32 t.2.2] 37 V)∧RowIn bb lo (pickW f (r.1.map keyW)) r.2 V
def RgX (n0:World) (bb lo lo':Nat) (L:List It) (c:Code) (r:List Wk×Option Nat) (V:World):Prop:=c=.exit 0∧(Below n0.heap.size n0 V∧lo'≤V.heap.size)∧RowIn bb lo L r.2 V
theorem rowIn_own {bb lo:Nat} {L:List It} {q:Option Nat} {V V':World} {row:Option Nat} (h:RowIn bb lo L q V) (hg:V.grownBy V' row) (hr:∀ r,row=some r→∃ o:Obj,V.heap[r]? = some o∧o.isCells=false):RowIn bb lo L q V':=by
 obtain⟨A,c,h1,h2,h3⟩:=h
 exact⟨A,c,block_kept h1 hg hr,h2.own stab_it hg hr,h3⟩
theorem rowIn_lt {bb lo:Nat} {L:List It} {q:Option Nat} {V:World} (h:RowIn bb lo L q V):∀ k,q=some k→lo≤k∧k<V.heap.size:=fun k e=>by
 obtain⟨A,c,_,h2,h3⟩:=h
 obtain⟨_,_,e4,_⟩:=h2.form
 obtain⟨cs,h5,_⟩:=h2
 have:=h5.lt k (by rw[e4,← h3,e])
 exact⟨this.1,this.2⟩
theorem rgI_own {n0:World} {b1 b2 bb lo lo':Nat} {f t:Ky} {B:Nat} (hB:n0.heap.size≤B):OwnFrom B (RgI n0 b1 b2 bb lo lo' f t):=fun r V V' row hs hg hr=>by
 obtain⟨⟨h1,h2⟩,h3,⟨h4,h5⟩,h6⟩:=hs
 have hn:=fun r e=>(hr r e).2
 exact⟨⟨ownFrom_below (Nat.le_refl _) hB () V V' row h1 hg hr,Nat.le_trans h2 hg.size⟩,h3,⟨block_kept h4 hg hn,block_kept h5 hg hn⟩,rowIn_own h6 hg hn⟩
theorem rgX_own {n0:World} {bb lo lo':Nat} {L:List It} {c:Code} {B:Nat} (hB:n0.heap.size≤B):OwnFrom B (RgX n0 bb lo lo' L c):=fun r V V' row hs hg hr=>by
 obtain⟨h0,⟨h1,h2⟩,h6⟩:=hs
 exact⟨h0,⟨ownFrom_below (Nat.le_refl _) hB () V V' row h1 hg hr,Nat.le_trans h2 hg.size⟩,rowIn_own h6 hg fun r e=>(hr r e).2⟩
theorem fre_but {B lo:Nat} {A:Option Addr} {V:World} {p:Addr} {v:Value} (hB:lo≤B) (hp:Fre B (A.map (·.block)) V p) (hc:V.cell? p=some v):NewBut lo A V p∧V.cell? p=some v:=⟨⟨⟨Nat.le_trans hB hp.1.1,hp.1.2⟩,hp.2⟩,hc⟩
theorem range_end {s:Rm} {a:Int} {f t:Ky} {w V:World} {bb lo:Nat} {q:Option Nat} (he:ckE s a=0) (hlo:w.heap.size≤lo) (hb:Below w.heap.size w V) (hr:RowIn bb lo (rangeO s a f t) q V) {A:Option Addr} {n c:Nat} (hbx:Boxed V bb 43 (.slice A n c)):RangeR s a f t w (.returned (.tuple #[.slice A n c,.int .i64 0])) V:=by
 obtain⟨A',c',h1,h2,_⟩:=hr
 unfold Boxed at hbx h1
 rw[hbx] at h1
 cases h1
 refine⟨A,c,by rw[raV_ok he,he],?_,hb⟩
 rw[raV_ok he]
 exact stab_its.mono (RowOf.rel stab_it h2) hlo
set_option maxRecDepth 100000 in
set_option maxHeartbeats 8000000 in
theorem walkRange_any (v:Value) (s:Rm) (a:Int) (f t:Ky) (w:World) (h:Sto (Old w) w v s) :
  Calls Tryz.prog 36 #[v,.int .i64 a,kyV f,kyV t] w (RangeR s a f t w):=by
 obtain⟨A,ca,B,cb,N,cn,L,cl,rfl,_⟩:=id h.open
 obtain⟨v0,hv0⟩:∃ q,(Value.slice A s.1.1.length ca)=q:=⟨_,rfl⟩
 obtain⟨v1,hv1⟩:∃ q,(Value.slice B s.1.2.length cb)=q:=⟨_,rfl⟩
 obtain⟨v2,hv2⟩:∃ q,(Value.slice N s.2.1.length cn)=q:=⟨_,rfl⟩
 obtain⟨v3,hv3⟩:∃ q,(Value.slice L s.2.2.length cl)=q:=⟨_,rfl⟩
 rw[hv0,hv1,hv2,hv3] at h ⊢
 replace hv0:=Lib.hid hv0
 replace hv1:=Lib.hid hv1
 replace hv2:=Lib.hid hv2
 replace hv3:=Lib.hid hv3
 obtain⟨w1,hw1,k1,hs1,hB1⟩:=box_4 w v0 v1 v2 v3 29
 obtain⟨w2,hw2,_,_,_,hs2,hB2,k2⟩:=box_three w1 (.int .u8 (f.1.toNat:Int)) (.int .u32 f.2.1) (.int .u32 f.2.2) 37
 obtain⟨w3,hw3,_,_,_,hs3,hB3,k3⟩:=box_three w2 (.int .u8 (t.1.toNat:Int)) (.int .u32 t.2.1) (.int .u32 t.2.2) 37
 have hB23:=hB2.trans (hB3.mono hB2.size)
 have K1:Hid (BoxW w.heap.size #[v0,v1,v2,v3] 29 w3):=Lib.hid (lasts_boxW _ _ _ _ _ k1 hB23)
 have K2:Hid (BoxW w1.heap.size #[.int .u8 (f.1.toNat:Int),.int .u32 f.2.1,.int .u32 f.2.2] 37 w3):=Lib.hid (lasts_boxW _ _ _ _ _ k2 hB3)
 have K3:Hid (BoxW w2.heap.size #[.int .u8 (t.1.toNat:Int),.int .u32 t.2.1,.int .u32 t.2.2] 37 w3):=Lib.hid k3
 have B3:Hid (Below w.heap.size w w3):=Lib.hid (hB1.trans (hB23.mono hB1.size))
 have sz:Hid (w1.heap.size=w.heap.size+1∧w2.heap.size=w.heap.size+2∧w3.heap.size=w.heap.size+3):=Lib.hid ⟨hs1,by omega,by omega⟩
 have hck:=Lib.hid (findCheck_any (.agg #[v0,v1,v2,v3]) s a w3 (h.below B3.out))
 obtain⟨E0,hE0⟩:∃ q,ckE s a=q:=⟨_,rfl⟩
 obtain⟨H0,hH0⟩:∃ q,ckH s a=q:=⟨_,rfl⟩
 rw[hE0,hH0] at hck
 obtain⟨s0,s1,s2,s3,_⟩:=four_cells K1.out
 replace h:=Lib.hid h
 replace hE0:=Lib.hid hE0
 replace hs1:=Lib.hid hs1
 replace hs2:=Lib.hid hs2
 replace hs3:=Lib.hid hs3
 clear k1 k2 k3 hB1 hB2 hB3 hB23
 unfold kyV
 refine callsIn_wide.1 (callsIn_of_wp_marks (n:=5) Tryz.func36 rfl trivial ?_ rfl)
 simp only[Tryz.ntmps36,List.size_toArray,List.length_cons,List.length_nil,Nat.reduceAdd,Nat.reduceSub,Array.replicate_succ,Array.replicate_zero,List.push_toArray,List.append_toArray,List.nil_append,List.cons_append]
 gi_wp2_with fail
 refine⟨trivial,?_⟩
 gi_at_call 14
 refine(callsIn_wide.2 hck.out).mono ?_
 rintro e w4 ⟨rfl,hB4⟩
 have B4:=Lib.hid (B3.out.trans (hB4.mono B3.out.size))
 replace K1:Hid (BoxW w.heap.size #[v0,v1,v2,v3] 29 w4):=Lib.hid (lasts_boxW _ _ _ _ _ K1.out hB4)
 replace K2:Hid (BoxW w1.heap.size #[.int .u8 (f.1.toNat:Int),.int .u32 f.2.1,.int .u32 f.2.2] 37 w4):=Lib.hid (lasts_boxW _ _ _ _ _ K2.out hB4)
 replace K3:Hid (BoxW w2.heap.size #[.int .u8 (t.1.toNat:Int),.int .u32 t.2.1,.int .u32 t.2.2] 37 w4):=Lib.hid (lasts_boxW _ _ _ _ _ K3.out hB4)
 have l34:=Lib.hid hB4.size
 clear hw1 hw2 hw3 s0 s1 s2 s3 hck hB4
 by_cases he:E0=0
 case neg =>
  have e1:(E0 != 0)=true:=by simpa using he
  have hne:Hid (ckE s a≠0):=Lib.hid (by rw[hE0.out];exact he)
  clear he
  gi_wp2_with fail
  refine⟨_,results_tmp2 rfl _ _ _,none,0,?_,?_,B4.out⟩
  ·rw[raV_bad hne.out,hE0.out]
   rfl
  ·rw[raV_bad hne.out]
   exact its_nil _ _
 subst he
 obtain⟨s0,s1,s2,s3,_⟩:=four_cells K1.out
 obtain⟨w5,hw5,K5,hs5,hB5⟩:∃ w5,w4.alloc (.cells #[.slice none 0 0] 43)=w5∧Boxed w5 w4.heap.size 43 (.slice none 0 0)∧w5.heap.size=w4.heap.size+1∧Below w4.heap.size w4 w5:=⟨_,rfl,Boxed.new _ _ _,by simp,(Below.refl _ _).alloc (Nat.le_refl _) _⟩
 have hIt:=Lib.hid (items_any v0 v1 v2 v3 a w5)
 have s0':=(hB5.cell (p:=⟨w.heap.size,0,none⟩) (by show w.heap.size<w4.heap.size;have:=sz.out;have:=l34.out;omega)).trans s0
 have s1':=(hB5.cell (p:=⟨w.heap.size,1,none⟩) (by show w.heap.size<w4.heap.size;have:=sz.out;have:=l34.out;omega)).trans s1
 have s2':=(hB5.cell (p:=⟨w.heap.size,2,none⟩) (by show w.heap.size<w4.heap.size;have:=sz.out;have:=l34.out;omega)).trans s2
 have s3':=(hB5.cell (p:=⟨w.heap.size,3,none⟩) (by show w.heap.size<w4.heap.size;have:=sz.out;have:=l34.out;omega)).trans s3
 obtain⟨w6,hw6,g6,b6,hs6,hB6⟩:∃ w6,(w5.alloc (.cells #[v0,v1,v2,v3] 29)).alloc (.cells #[.int .i64 a] 3)=w6∧Box4 w5.heap.size v0 v1 v2 v3 w6∧BoxF (w5.heap.size+1) (.int .i64 a) w6∧w6.heap.size=w5.heap.size+2∧Below w5.heap.size w5 w6:=by
  obtain⟨wa,ha,ga,sa,ba⟩:=box_4 w5 v0 v1 v2 v3 29
  obtain⟨wb,hb,gb,sb,bb⟩:=box_one wa (.int .i64 a) 3
  obtain⟨k0,k1,k2,k3,_⟩:=four_cells ga
  exact⟨wb,by rw[ha,hb],lasts_box4 _ _ _ _ _ _ _ ⟨k0,k1,k2,k3,by omega⟩ bb,⟨by rw[← sa];exact gb,by omega⟩,by omega,ba.trans (bb.mono ba.size)⟩
 rw[hw6] at hIt
 replace hs5:=Lib.hid hs5
 replace K5:=Lib.hid K5
 clear s0 s1 s2 s3 hw6
 gi_wp2_with fail
 refine⟨trivial,?_⟩
 gi_at_call 60
 refine(callsIn_wide.2 hIt.out).mono ?_
 rintro e w6 ⟨rfl,rfl⟩
 gi_wp2_with fail
 obtain⟨htree,_,_⟩:=ck_of hE0.out
 have l46:Hid (w.heap.size<w4.heap.size∧w2.heap.size<w4.heap.size∧w4.heap.size<w5.heap.size∧w6.heap.size=w5.heap.size+2):=Lib.hid ⟨by have:=sz.out;have:=l34.out;omega,by have:=sz.out;have:=l34.out;omega,by have:=hs5.out;omega,hs6⟩
 have hB46:=Lib.hid (hB5.trans (hB6.mono hB5.size))
 have B6:Hid (Below w.heap.size w w6):=Lib.hid (B4.out.trans (hB46.out.mono (Nat.le_of_lt l46.out.1)))
 have K26:BoxW w1.heap.size _ _ w6:=lasts_boxW _ _ _ _ _ K2.out hB46.out
 have K36:BoxW w2.heap.size _ _ w6:=lasts_boxW _ _ _ _ _ K3.out hB46.out
 have K56:Boxed w6 w4.heap.size 43 (.slice none 0 0):=(hB6.block _ (by have:=l46.out;omega)).trans K5.out
 have hI0:RgI w w1.heap.size w2.heap.size w4.heap.size w5.heap.size w6.heap.size f t ([],none) w6:=⟨⟨B6.out,Nat.le_refl _⟩,by simp,⟨K26,K36⟩,none,0,K56,RowOf.nil _ _ _ _ _,rfl⟩
 have S6:Sto (fun p=>p.block<w.heap.size) w6 (.agg #[v0,v1,v2,v3]) s:=h.out.map fun p v hp hc=>low_kept (fun k hk=>B6.out.block k hk) hp hc
 have hit6:=items_told s (rmV s a).1.toNat a (tree_at htree) w.heap.size w5.heap.size (w5.heap.size+1) v0 v1 v2 v3 w6 (by have:=l46.out;omega) g6 b6 S6
 have hstop6:=Lib.hid (fun(M:List (Int×It)) (p:Int×It) hM h1 h2=>pick_stop (f:=f) (t:=t) (M:=M) (p:=p) htree hM h1 h2)
 have hall6:=Lib.hid (fun(M:List (Int×It)) hM h1=>pick_all (s:=s) (a:=a) (f:=f) (t:=t) (M:=M) hM h1)
 have hlen6:=Lib.hid (fun(M:List (Int×It)) hM=>pick_len (f:=f) (M:=M) htree hM)
 obtain⟨LL,hLL⟩:∃ q,walkT s (rmV s a).1.toNat a=q:=⟨_,rfl⟩
 rw[hLL] at hit6 hstop6 hall6 hlen6
 obtain⟨RR,hRR⟩:∃ q,rangeO s a f t=q:=⟨_,rfl⟩
 rw[hRR] at hstop6 hall6
 replace hs6:=Lib.hid hs6
 replace hLL:=Lib.hid hLL
 replace hRR:=Lib.hid hRR
 replace htree:=Lib.hid htree
 clear s0' s1' s2' s3' g6 b6 S6 hIt hB5 hB6 K26 K36 K56
 refine range_told (m:=5) (gf:=85) (lb:=#[.pointer (some ⟨w5.heap.size,0,none⟩),.pointer (some ⟨w5.heap.size+1,0,none⟩)]) rfl (enters_of Tryz.func85 (by kernel_rfl) rfl) hit6 (fun _=>rfl) (fun k=>k=w4.heap.size) (fun k e=>by have:=l46.out;omega) none (fun k hk=>by
   rcases hk with h | rfl | rfl
   ·exact⟨by have:=l46.out;omega,by have:=l46.out;omega,by simp⟩
   ·exact⟨by have:=l46.out;omega,by have:=l46.out;omega,by simp⟩
   ·exact⟨by have:=l46.out;omega,by have:=l46.out;omega,by simp⟩)
  (RgI w w1.heap.size w2.heap.size w4.heap.size w5.heap.size w6.heap.size f t) (RgX w w4.heap.size w5.heap.size w6.heap.size RR)
  (rgI_own (by have:=l46.out;omega)) (fun c=>rgX_own (by have:=l46.out;omega))
  (fun r V hr k e=>(rowIn_lt hr.2.2.2 k e).2) hI0
  (fun y a' V=>∃ (g:Nat) (d:Value),a'={ tmps:=#[.agg #[v0,v1,v2,v3],.int .i64 a,.agg #[.int .u8 (f.1.toNat:Int),.int .u32 f.2.1,.int .u32 f.2.2],.agg #[.int .u8 (t.1.toNat:Int),.int .u32 t.2.1,.int .u32 t.2.2],.pointer (some ⟨w.heap.size,0,none⟩),undef,.pointer (some ⟨w1.heap.size,0,none⟩),.pointer (some ⟨w2.heap.size,0,none⟩),.slice none 0 0,.int .i64 0,.int .i64 H0,.int .i64 0,.pointer (some ⟨w4.heap.size,0,none⟩),
    .int .i64 y.1,.pointer (some ⟨g,0,none⟩),.tuple #[.int .i64 H0,.int .i64 0],.agg #[v0,v1,v2,v3],.int .i64 a,.tuple #[.int .i64 H0,.int .i64 0],.int .i64 H0,.int .i64 0,.int .i64 0,.bool false,undef,.agg #[v0,v1,v2,v3],.int .i64 a,
    .func (.func 85) #[] #[.pointer (some ⟨w5.heap.size,0,none⟩),.pointer (some ⟨w5.heap.size+1,0,none⟩)],.int .i64 y.1,.agg #[.int .u8 (y.2.1.1.1.toNat:Int),.int .u32 y.2.1.1.2.1,.int .u32 y.2.1.1.2.2,.int .i64 y.2.1.2.1,d],undef,undef,undef,undef,undef,undef,undef,undef,undef,undef,undef,undef,undef,undef,undef,undef,undef,undef],defers:=[] }∧y.2.2=itV y.2.1 d ∧
   BoxW g #[.int .u8 (y.2.1.1.1.toNat:Int),.int .u32 y.2.1.1.2.1,.int .u32 y.2.1.1.2.2,.int .i64 y.2.1.2.1,d] 40 V)
  (fun y a' _ A B row hs hg hr=>by
   obtain⟨g,d,e1,e2,h0⟩:=hs
   exact⟨g,d,e1,e2,block_kept h0 hg fun r e=>(hr r e).2⟩)
  (fun pre x q=>tell_own _ _ _ _ _ _) ?assign ?body ?done ?stop
 case assign =>
  rintro l' pre' q' ⟨lv',it',val'⟩ V K hi ⟨_,hit⟩ hK
  obtain⟨A',c',hd,-⟩:=hit.open
  dsimp only at hd
  subst hd
  obtain⟨V1,hV1,v0',v1',v2',v3',v4',hVs,hVB,hVg⟩:=box_five V (.int .u8 (it'.1.1.toNat:Int)) (.int .u32 it'.1.2.1) (.int .u32 it'.1.2.2) (.int .i64 it'.2.1) (.slice A' it'.2.2.length c') 40
  replace hVs:=Lib.hid hVs
  clear hit hi hI0
  simp only[encW,itV]
  gi_wp2_with fail
  exact hK _ _ (below_grown hVB) ⟨V.heap.size,_,rfl,rfl,hVg⟩
 case body =>
  rintro l' pre' q' ⟨lv',it',val'⟩ a' V hVs hI ⟨g,d,rfl,hd,hg⟩ ⟨hpf,hit⟩
  dsimp only at hd hit hg
  subst hd
  obtain⟨v0',v1',v2',v3',v4',_⟩:=five_cells hg
  obtain⟨⟨hIb,hIs⟩,hIp,⟨hI1,hI2⟩,hIr⟩:=id hI
  obtain⟨u0,u1,u2,_⟩:=three_cells hI2
  have hless:=Lib.hid (less_any t it'.1 V)
  unfold kyV at hless
  obtain⟨b1,hb1⟩:∃ b,lessK t it'.1=b:=⟨_,rfl⟩
  rw[hb1] at hless
  replace hb1:=Lib.hid hb1
  replace hI:=Lib.hid hI
  replace hIb:=Lib.hid hIb
  replace hIs:=Lib.hid hIs
  replace hIp:=Lib.hid hIp
  replace hI1:=Lib.hid hI1
  replace hI2:=Lib.hid hI2
  replace hIr:=Lib.hid hIr
  replace hg:=Lib.hid hg
  replace hpf:=Lib.hid hpf
  replace hit:=Lib.hid hit
  clear hI0
  gi_wp2_with fail
  refine⟨trivial,rfl,?_⟩
  gi_at_call 19
  refine(CallsIn.inRound l' (callsIn_wide.2 hless.out)).mono ?_
  rintro e V1 ⟨rfl,hB1⟩
  have hg1:=lasts_boxW _ _ _ _ _ hg.out hB1
  have hI1':=lasts_boxW _ _ _ _ _ hI1.out hB1
  have hI2':=lasts_boxW _ _ _ _ _ hI2.out hB1
  have hIr1:=Lib.hid (rowIn_own hIr.out (below_grown hB1) (by simp))
  have hIb1:=Lib.hid (hIb.out.trans (hB1.mono hIb.out.size))
  have hIs1:=Lib.hid (Nat.le_trans hIs.out hB1.size)
  have hit1:=Lib.hid (hit.out.map fun p v hp hc=>fre_own (B':=0) (below_grown hB1) (by simp) hp hc:Itm (Fre (w6.heap.size+2) q' V1) V1 (itV it' d) it')
  have hk1:Hid (Kept (fun k=>k=w4.heap.size) q' q' V V1):=Lib.hid (Kept.below hB1)
  clear v0' v1' v2' v3' v4' u0 u1 u2 hless hB1
  cases b1 with
  | true =>
   have hfin:=Lib.hid (hstop6.out (pre'.map keyW) (lv',it') (by have:=hpf.out;rw[List.map_append] at this;exact this) (fun p hp=>by
    obtain⟨y,hy,rfl⟩:=List.mem_map.1 hp
    exact hIp.out y hy) hb1.out)
   replace hg1:=Lib.hid hg1
   replace hI1':=Lib.hid hI1'
   replace hI2':=Lib.hid hI2'
   gi_wp2_with fail
   have:=hIr1.out
   rw[hfin.out] at this
   exact⟨q',hk1.out,rfl,⟨hIb1.out,hIs1.out⟩,this⟩
  | false =>
   have hIp1:Hid (∀ p∈pre'++[((lv',it',itV it' d):Wk)],lessK t p.2.1.1=false):=Lib.hid fun p hp=>by
    rcases List.mem_append.1 hp with hp | hp
    ·exact hIp.out p hp
    ·rw[List.mem_singleton] at hp
     subst hp
     exact hb1.out
   have hm1:Hid ((pre'++[((lv',it',itV it' d):Wk)]).map keyW=pre'.map keyW++[(lv',it')]):=Lib.hid (by rw[List.map_append];rfl)
   by_cases hlv:lv'=0
   case neg =>
    have c0:(lv'==0)=false:=by simpa using hlv
    have hpk:Hid (pickW f ((pre'++[((lv',it',itV it' d):Wk)]).map keyW)=pickW f (pre'.map keyW)):=Lib.hid (by rw[hm1.out];exact pick_no (.inl hlv))
    have hI9:Hid (RgI w w1.heap.size w2.heap.size w4.heap.size w5.heap.size w6.heap.size f t (pre'++[((lv',it',itV it' d):Wk)],q') V1):=Lib.hid ⟨⟨hIb1.out,hIs1.out⟩,hIp1.out,⟨hI1',hI2'⟩,by
     show RowIn _ _ (pickW f ((pre'++[((lv',it',itV it' d):Wk)]).map keyW)) _ _
     rw[hpk.out]
     exact hIr1.out⟩
    clear hlv hg1 hI1' hI2'
    gi_wp2_with fail
    refine⟨trivial,?_⟩
    gi_wp2_with fail
    exact⟨q',hk1.out,hI9.out⟩
   subst hlv
   obtain⟨v0',v1',v2',v3',v4',_⟩:=five_cells hg1
   obtain⟨u0,u1,u2,_⟩:=three_cells hI1'
   have hless2:=Lib.hid (less_any it'.1 f V1)
   unfold kyV at hless2
   obtain⟨b2,hb2⟩:∃ b,lessK it'.1 f=b:=⟨_,rfl⟩
   rw[hb2] at hless2
   replace hb2:=Lib.hid hb2
   replace hg1:=Lib.hid hg1
   replace hI1':=Lib.hid hI1'
   replace hI2':=Lib.hid hI2'
   gi_wp2_with fail
   refine⟨trivial,rfl,?_⟩
   gi_at_call 19
   refine(CallsIn.inRound l' (callsIn_wide.2 hless2.out)).mono ?_
   rintro e V2 ⟨rfl,hB2⟩
   have hg2:=lasts_boxW _ _ _ _ _ hg1.out hB2
   have hI1'':=Lib.hid (lasts_boxW _ _ _ _ _ hI1'.out hB2)
   have hI2'':=Lib.hid (lasts_boxW _ _ _ _ _ hI2'.out hB2)
   have hIr2:=Lib.hid (rowIn_own hIr1.out (below_grown hB2) (by simp))
   have hIb2:=Lib.hid (hIb1.out.trans (hB2.mono hIb1.out.size))
   have hIs2:=Lib.hid (Nat.le_trans hIs1.out hB2.size)
   have hit2:=Lib.hid (hit1.out.map fun p v hp hc=>fre_own (B':=0) (below_grown hB2) (by simp) hp hc:Itm (Fre (w6.heap.size+2) q' V2) V2 (itV it' d) it')
   have hk2:Hid (Kept (fun k=>k=w4.heap.size) q' q' V V2):=Lib.hid (hk1.out.trans (Kept.below hB2))
   clear v0' v1' v2' v3' v4' u0 u1 u2 hless2 hB2 hg1 hI1' hI2' hIr1 hIb1 hIs1 hit1 hk1
   cases b2 with
   | true =>
    have hpk:Hid (pickW f ((pre'++[(((0:Int),it',itV it' d):Wk)]).map keyW)=pickW f (pre'.map keyW)):=Lib.hid (by rw[hm1.out];exact pick_no (.inr hb2.out))
    have hI9:Hid (RgI w w1.heap.size w2.heap.size w4.heap.size w5.heap.size w6.heap.size f t (pre'++[(((0:Int),it',itV it' d):Wk)],q') V2):=Lib.hid ⟨⟨hIb2.out,hIs2.out⟩,hIp1.out,⟨hI1''.out,hI2''.out⟩,by
     show RowIn _ _ (pickW f ((pre'++[(((0:Int),it',itV it' d):Wk)]).map keyW)) _ _
     rw[hpk.out]
     exact hIr2.out⟩
    clear hg2
    gi_wp2_with fail
    exact⟨q',hk2.out,hI9.out⟩
   | false =>
    have hpk:Hid (pickW f ((pre'++[(((0:Int),it',itV it' d):Wk)]).map keyW)=pickW f (pre'.map keyW)++[it']):=Lib.hid (by rw[hm1.out];exact pick_yes rfl hb2.out)
    have hln:=Lib.hid (hlen6.out (pre'.map keyW) (by have:=hpf.out;rw[List.map_append] at this;exact(List.prefix_append _ _).trans this))
    obtain⟨PP,hPP⟩:∃ q,pickW f (pre'.map keyW)=q:=⟨_,rfl⟩
    rw[hPP] at hpk hIr2 hln
    obtain⟨n,hn⟩:∃ q,PP.length=q:=⟨_,rfl⟩
    have hlt2:=Lib.hid (rowIn_lt hIr2.out)
    obtain⟨A,c,hbx,hrow,hq⟩:=hIr2.out
    rw[hn] at hbx hln
    have hbc:=hbx.cell
    obtain⟨v0',v1',v2',v3',v4',_⟩:=five_cells hg2
    obtain⟨V3,hV3,_,_,_,_,_,hVs3,hB3,hg3⟩:=box_five V2 (.int .u8 (it'.1.1.toNat:Int)) (.int .u32 it'.1.2.1) (.int .u32 it'.1.2.2) (.int .i64 it'.2.1) d 40
    have hrow3:=hrow.below stab_it hB3
    have hit3:Itm (NewBut w5.heap.size A V3) V3 (itV it' d) it':=hit2.out.map fun p v hp hc=>by
     have h1:=fre_own (below_grown hB3) (B':=0) (by simp) hp hc
     rw[hq] at h1
     exact fre_but (by have:=l46.out;omega) h1.1 h1.2
    obtain⟨d',hd',hin,hby⟩:=hit3
    obtain rfl:d=d':=by
     unfold itV at hd'
     simp at hd'
     exact hd'
    obtain⟨A9,c9,V9,hrun,hrow9,hgr9,hB9,hk9⟩:=its_push_at hrow3 V2.heap.size it' d 1 n hn hg3 (by have:=hln.out;omega) (by have:=l46.out;have:=hIs2.out;omega) hin hby
    have hbx3:Boxed V3 w4.heap.size 43 (.slice A n c):=(hB3.block _ hbx.lt).trans hbx
    have hne9:∀ k,k<w5.heap.size→V9.heap[k]? = V3.heap[k]? := fun k hk=>hB9.block k hk
    have hbx9:Boxed V9 w4.heap.size 43 (.slice A n c):=(hne9 _ (by have:=l46.out;omega)).trans hbx3
    have hbc9:=hbx9.cell
    have hbf9:=hbx9.frozen
    have hbx10:=hbx9.set (.slice A9 (n+1) c9)
    have hgs:=grownBy_setCell' V9 w4.heap.size (.slice A9 (n+1) c9)
    have hrow10:=hrow9.grown stab_it hgs (fun r e=>by cases e;have:=l46.out;omega)
    have hk10:Hid (Kept (fun k=>k=w4.heap.size) q' (A9.map (·.block)) V (V9.setCell ⟨w4.heap.size,0,none⟩ (.slice A9 (n+1) c9))):=Lib.hid (((hk2.out.trans (Kept.below hB3)).trans (Kept.row hgr9 (fun r e=>.inl (by rw[hq,e])) (fun r e=>by
     rcases hk9 with h9 | h9
     ·exact .inl (by rw[hq,← h9,e])
     ·rw[e] at h9
      simp only[Option.some.injEq] at h9
      exact .inr (.inr (by omega))))).grown hgs (fun r e=>by cases e;exact .inr rfl))
    have hI9:Hid (RgI w w1.heap.size w2.heap.size w4.heap.size w5.heap.size w6.heap.size f t (pre'++[(((0:Int),it',itV it' d):Wk)],A9.map (·.block)) (V9.setCell ⟨w4.heap.size,0,none⟩ (.slice A9 (n+1) c9))):=Lib.hid (by
     have h29:∀ k,k<w4.heap.size→(V9.setCell ⟨w4.heap.size,0,none⟩ (.slice A9 (n+1) c9)).heap[k]? = V2.heap[k]? := fun k hk=>by
      rw[Below.heap_setCell V9 ⟨w4.heap.size,0,none⟩ _ k (by show k≠w4.heap.size;omega),hne9 k (by have:=l46.out;omega),hB3.block k (by have:=l46.out;have:=hIs2.out;omega)]
     refine⟨⟨?_,?_⟩,hIp1.out,⟨(h29 _ (by have:=l46.out;have:=sz.out;omega)).trans hI1''.out,(h29 _ (by have:=l46.out;omega)).trans hI2''.out⟩,?_⟩
     ·have h5:w.heap.size≤w5.heap.size:=by have:=l46.out;omega
      exact(((hIb2.out.trans (hB3.mono hIb2.out.size)).trans (hB9.mono h5)).grown hgs (by have:=hIs2.out;have:=l46.out;have:=hB3.size;have:=hB9.size;omega) (fun k e=>by cases e;have:=l46.out;omega))
     ·have:=hgs.size
      have:=hB9.size
      have:=hB3.size
      have:=hIs2.out
      omega
     ·refine⟨A9,c9,?_,?_,rfl⟩
      ·show Boxed _ _ _ (.slice A9 (pickW f ((pre'++[(((0:Int),it',itV it' d):Wk)]).map keyW)).length c9)
       rw[hpk.out,List.length_append,hn]
       exact hbx10
      ·show RowOf _ _ _ _ _ _ _ (pickW f ((pre'++[(((0:Int),it',itV it' d):Wk)]).map keyW))
       rw[hpk.out]
       exact hrow10)
    replace hn:=Lib.hid hn
    replace hVs3:=Lib.hid hVs3
    have H9:=Lib.hid hrun
    clear hq hbx hrow hrow3 hbx3 hne9 hbx9 hbx10 hgs hrow10 hgr9 hB9 hk9 hin hby hd' hit2 hg2 hB3 hrun hrow9 hg3
    gi_wp2_with (gi_at_builtin;refine app_runIn rfl _ _ _ rfl rfl rfl H9.out ?_;clear H9)
    exact⟨_,hk10.out,hI9.out⟩
 case done =>
  rintro xs q' V hVs hE ⟨⟨hb,_⟩,hp,_,hr⟩ hDV hqV
  have hfin:=hall6.out (xs.map keyW) hE (fun p hp'=>by
   obtain⟨y,hy,rfl⟩:=List.mem_map.1 hp'
   exact hp y hy)
  rw[hfin] at hr
  obtain⟨A,c,hbx,hrow,hq⟩:=id hr
  obtain⟨n,hn⟩:∃ q,RR.length=q:=⟨_,rfl⟩
  rw[hn] at hbx
  have hbc:=hbx.cell
  rw[← hRR.out] at hr
  have hD1:=Lib.hid hDV
  replace hr:=Lib.hid hr
  replace hb:=Lib.hid hb
  replace hbx:=Lib.hid hbx
  replace hs6:=hs6
  clear hp hq hrow hn hDV hqV hVs hfin hI0
  gi_wp2_with fail
  refine⟨by simp,.inl ⟨_,_,rfl,run_takeDeferred hD1.out,_,results_tmp2 rfl _ _ _,?_⟩⟩
  have hgp:=grownBy_putObj' V w6.heap.size (.deferred none)
  have hnp:∀ r,some w6.heap.size=some r→∃ o:Obj,V.heap[r]? = some o∧o.isCells=false:=fun r e=>by cases e;exact⟨_,hD1.out,rfl⟩
  exact range_end hE0.out (by have:=l46.out;omega:w.heap.size≤w5.heap.size) (hb.out.grown hgp hb.out.size (fun k e=>by cases e;have:=l46.out;omega)) (rowIn_own hr.out hgp hnp) (block_kept hbx.out hgp hnp)
 case stop =>
  rintro c pre' q' V hVs ⟨rfl,⟨hb,_⟩,hr⟩ hDV hqV
  obtain⟨A,c,hbx,hrow,hq⟩:=id hr
  obtain⟨n,hn⟩:∃ q,RR.length=q:=⟨_,rfl⟩
  rw[hn] at hbx
  have hbc:=hbx.cell
  rw[← hRR.out] at hr
  have hD1:=Lib.hid hDV
  replace hr:=Lib.hid hr
  replace hb:=Lib.hid hb
  replace hbx:=Lib.hid hbx
  clear hq hrow hn hDV hqV hVs hI0
  gi_wp2_with fail
  refine⟨by simp,.inl ⟨_,_,rfl,run_takeDeferred hD1.out,_,results_tmp2 rfl _ _ _,?_⟩⟩
  have hgp:=grownBy_putObj' V w6.heap.size (.deferred none)
  have hnp:∀ r,some w6.heap.size=some r→∃ o:Obj,V.heap[r]? = some o∧o.isCells=false:=fun r e=>by cases e;exact⟨_,hD1.out,rfl⟩
  exact range_end hE0.out (by have:=l46.out;omega:w.heap.size≤w5.heap.size) (hb.out.grown hgp hb.out.size (fun k e=>by cases e;have:=l46.out;omega)) (rowIn_own hr.out hgp hnp) (block_kept hbx.out hgp hnp)
end Go.Proofs.YtogieepfimpdmaaGreat
/-
 Package put: would a step's way part? Conditions: those that each lemma states.
-/
namespace Go.Proofs.YtogieepfimpdmaaGreat
open Go.RowKit Go.Shelf
attribute [local go_sem] Oper.semAt_some
def lenS (q:Sv) (many:Nat):Nat:=many+q.nd.2.length-(if q.inst=true then 1 else 0)
def partF:List Sv→Nat→Bool
 | [],_=>true
 | q::r,many=>if lenS q many≤5 then false else partF r 2
theorem partF_step {l:List Sv} {k many:Nat} {q:Sv} (h:l[k]? = some q):partF (l.drop k) many=if lenS q many≤5 then false else partF (l.drop (k+1)) 2:=by
 obtain⟨hl,e⟩:=List.getElem?_eq_some_iff.1 h
 rw[List.drop_eq_getElem_cons hl,e]
 rfl
def svZ:Sv:=⟨(0,[]),0,false,none,0,0,0⟩
theorem svs_at {l:List Sv} {i:Nat} {x:Sv} (h:l[i]? = some x):∀ j u,(svV x)[j]? = some u→(svs l)[i*4+j]? = some u:=by
 induction l generalizing i with
 | nil=>simp at h
 | cons y l ih =>
  intro j u hj
  have hj4:j<4:=(List.getElem?_eq_some_iff.1 hj).1
  cases i with
  | zero =>
   simp at h
   subst h
   show (svV y++svs l)[0*4+j]? = _
   rw[List.getElem?_append_left (by show 0*4+j<4;omega),Nat.zero_mul,Nat.zero_add]
   exact hj
  | succ i =>
   show (svV y++svs l)[(i+1)*4+j]? = _
   rw[List.getElem?_append_right (by show 4≤_;omega),show (i+1)*4+j-(svV y).length=i*4+j by show _-4=_;omega]
   exact ih (by simpa using h) j u hj
theorem steps_at {w:World} {lo c:Nat} {A:Option Addr} {l:List Sv} (h:w.ownsRow lo 94 4 (.slice A l.length c) l.length (svs l)):∃ ad:Addr,(0<l.length→A=some ad∧lo≤ad.block∧ad.block<w.heap.size)∧∀ j,j<l.length→At4 w (ad.add (j*4)) (l[j]?.getD svZ):=by
 rcases Nat.eq_zero_or_pos l.length with h0 | h0
 ·exact⟨⟨0,0,none⟩,fun h=>by omega,fun j hj=>by omega⟩
 rcases h.2 with ⟨_,e⟩ | ⟨g,cap,cur,e,hb,hg,_⟩
 ·omega
 ·cases e
  refine⟨⟨g,0,none⟩,fun _=>⟨rfl,hb,(Array.getElem?_eq_some_iff.1 hg).1⟩,fun j hj => ?_⟩
  have hx:l[j]? = some l[j]:=List.getElem?_eq_getElem hj
  have hc:=fun i u hu=>h.cells (g:=g) rfl _ u (svs_at hx i u hu)
  rw[hx]
  have e0:=hc 0 _ rfl
  have e1:=hc 1 _ rfl
  have e2:=hc 2 _ rfl
  have e3:=hc 3 _ rfl
  rw[add_off,Nat.zero_add] at e0 e1 e2 e3
  rw[add_off,Nat.zero_add]
  exact⟨e0,e1,e2,e3⟩
def PaI (n0:World) (b1 b2 lo':Nat) (l:List Sv) (r:List Nat×Option Nat) (V:World):Prop :=
 r.2=none∧(Below n0.heap.size n0 V∧lo'≤V.heap.size)∧BoxW b1 #[.bool false] 4 V∧∃ many:Nat,1≤many∧many≤2∧BoxW b2 #[.int .i64 (many:Int)] 3 V∧partF l.reverse 1=partF (l.reverse.drop r.1.length) many
def PaX (n0:World) (b1 lo':Nat) (l:List Sv) (c:Code) (r:List Nat×Option Nat) (V:World):Prop :=
 c=.ret∧r.2=none∧(Below n0.heap.size n0 V∧lo'≤V.heap.size)∧BoxW b1 #[.bool false] 4 V∧partF l.reverse 1=false
theorem paI_own {n0:World} {b1 b2 lo':Nat} {l:List Sv} {B:Nat} (hB:n0.heap.size≤B):OwnFrom B (PaI n0 b1 b2 lo' l):=fun r V V' row hs hg hr=>by
 obtain⟨h0,⟨h1,h2⟩,h3,many,m1,m2,h4,h5⟩:=hs
 have hn:=fun r e=>(hr r e).2
 exact⟨h0,⟨ownFrom_below (Nat.le_refl _) hB () V V' row h1 hg hr,Nat.le_trans h2 hg.size⟩,block_kept h3 hg hn,many,m1,m2,block_kept h4 hg hn,h5⟩
theorem paX_own {n0:World} {b1 lo':Nat} {l:List Sv} {c:Code} {B:Nat} (hB:n0.heap.size≤B):OwnFrom B (PaX n0 b1 lo' l c):=fun r V V' row hs hg hr=>by
 obtain⟨hc,h0,⟨h1,h2⟩,h3,h5⟩:=hs
 have hn:=fun r e=>(hr r e).2
 exact⟨hc,h0,⟨ownFrom_below (Nat.le_refl _) hB () V V' row h1 hg hr,Nat.le_trans h2 hg.size⟩,block_kept h3 hg hn,h5⟩
set_option maxRecDepth 100000 in
set_option maxHeartbeats 8000000 in
theorem parts_any (A:Option Addr) (m c:Nat) (l:List Sv) (lo:Nat) (w:World) (h:w.ownsRow lo 94 4 (.slice A m c) m (svs l)) (hl:l.length=m) (hm:m≤100) (h5:∀ q∈l,q.nd.2.length≤5) :
  Calls Tryz.prog 26 #[.slice A m c] w fun e w'=>e=.returned (.bool (partF l.reverse 1))∧Below w.heap.size w w':=by
 obtain⟨ad,had,hat⟩:=steps_at (by rw[hl];exact h)
 rw[hl] at had hat
 obtain⟨f,hf⟩:∃ f:Nat→Sv,f=fun j=>l[j]?.getD svZ:=⟨_,rfl⟩
 have hff:Hid (∀ k,k<m→l.reverse[k]? = some (f (m-1-k))∧(f (m-1-k)).nd.2.length≤5):=Lib.hid fun k hk=>by
  have e:l.reverse[k]? = some l[m-1-k]:=by
   rw[List.getElem?_reverse (by omega),show l.length-1-k=m-1-k by omega]
   exact List.getElem?_eq_getElem _
  have e2:f (m-1-k)=l[m-1-k]:=by
   rw[hf]
   simp[List.getElem?_eq_getElem (show m-1-k<l.length by omega)]
  rw[e2]
  exact⟨e,h5 _ (List.getElem_mem _)⟩
 obtain⟨w1,hw1,b1,hs1,hB1⟩:∃ w1,w.alloc (.cells #[.bool false] 4)=w1∧BoxW w.heap.size #[.bool false] 4 w1∧w1.heap.size=w.heap.size+1∧Below w.heap.size w w1:=⟨_,rfl,heap_alloc_new w _,by simp,(Below.refl _ _).alloc (Nat.le_refl _) _⟩
 obtain⟨w2,hw2,b2,hs2,hB2⟩:∃ w2,w1.alloc (.cells #[.int .i64 1] 3)=w2∧BoxW w1.heap.size #[.int .i64 1] 3 w2∧w2.heap.size=w1.heap.size+1∧Below w1.heap.size w1 w2:=⟨_,rfl,heap_alloc_new w1 _,by simp,(Below.refl _ _).alloc (Nat.le_refl _) _⟩
 obtain⟨w3,hw3,b3,hs3,hB3⟩:=box_one w2 (.slice A m c) 65
 have hbw:=Lib.hid (backwardS_any A m c w2)
 rw[hw3] at hbw
 have hB23:=hB2.trans (hB3.mono hB2.size)
 have B3:=Lib.hid (hB1.trans (hB23.mono hB1.size))
 have B31:=Lib.hid (show BoxW w.heap.size #[.bool false] 4 w3 from lasts_boxW _ _ _ _ _ b1 hB23)
 have B32:=Lib.hid (show BoxW w1.heap.size #[.int .i64 1] 3 w3 from lasts_boxW _ _ _ _ _ b2 hB3)
 have SZ:=Lib.hid (show w1.heap.size=w.heap.size+1∧w2.heap.size=w.heap.size+2∧w3.heap.size=w.heap.size+3 from ⟨hs1,by omega,by omega⟩)
 have htold:=backS_told w2.heap.size c m A ad f w3 b3 (fun h=>⟨(had h).1,Nat.lt_of_lt_of_le (had h).2.2 B3.out.size⟩) (by omega) (fun j hj=>by rw[hf];exact(hat j hj).same (B3.out.block _ (by rw[add_block];exact(had (by omega)).2.2)))
 have hlt:=Lib.hid (fun h:0<m=>(had h).2.2)
 have hI0:PaI w w.heap.size w1.heap.size w3.heap.size l ([],none) w3:=⟨rfl,⟨B3.out,Nat.le_refl _⟩,B31.out,1,by omega,by omega,B32.out,rfl⟩
 replace hf:=Lib.hid hf
 replace hl:=Lib.hid hl
 replace hs1:=Lib.hid hs1
 replace hs2:=Lib.hid hs2
 replace hs3:=Lib.hid hs3
 clear h had hat b1 b2 b3 hB1 hB2 hB3 hB23 h5 hw3
 refine callsIn_wide.1 (callsIn_of_wp_marks (n:=5) Tryz.func26 rfl trivial ?_ rfl)
 simp only[Tryz.ntmps26,List.size_toArray,List.length_cons,List.length_nil,Nat.reduceAdd,Nat.reduceSub,Array.replicate_succ,Array.replicate_zero,List.push_toArray,List.append_toArray,List.nil_append,List.cons_append]
 gi_wp2_with fail
 refine⟨trivial,?_⟩
 gi_at_call 45
 refine(callsIn_wide.2 hbw.out).mono ?_
 rintro e w3 ⟨rfl,rfl⟩
 gi_wp2_with fail
 refine range_told (m:=5) (gf:=67) (lb:=#[.pointer (some ⟨w2.heap.size,0,none⟩)]) rfl (enters_of Tryz.func67 (by kernel_rfl) rfl) htold (fun _=>rfl) (fun k=>k=w.heap.size∨k=w1.heap.size) (fun k e=>by have:=SZ.out;omega) none (fun k hk=>by
   rcases hk with rfl | ⟨h0,rfl⟩
   ·exact⟨by have:=SZ.out;omega,by have:=SZ.out;omega,by simp⟩
   ·have:=hlt.out h0
    exact⟨by have:=SZ.out;omega,by have:=SZ.out;omega,by simp⟩)
  (PaI w w.heap.size w1.heap.size w3.heap.size l) (PaX w w.heap.size w3.heap.size l)
  (paI_own (by have:=SZ.out;omega)) (fun c=>paX_own (by have:=SZ.out;omega))
  (fun r V hr k e=>by rw[hr.1] at e;cases e) hI0
  (fun x a' V=>∃ g:Nat,a'={ tmps:=#[.slice A m c,undef,.pointer (some ⟨w.heap.size,0,none⟩),.pointer (some ⟨w1.heap.size,0,none⟩),undef,.pointer (some ⟨g,0,none⟩),.slice A m c,.func (.func 67) #[] #[.pointer (some ⟨w2.heap.size,0,none⟩)],.int .i64 (x:Int),.agg #[.int .i64 (f x).nd.1,.slice (f x).A (f x).nd.2.length (f x).c,.int .i64 ((f x).pl:Int),.bool (f x).inst],
    undef,undef,undef,undef,undef,undef,undef,undef,undef,undef,undef,undef],defers:=[] }∧BoxW g #[.int .i64 (f x).nd.1,.slice (f x).A (f x).nd.2.length (f x).c,.int .i64 ((f x).pl:Int),.bool (f x).inst] 94 V)
  (fun y a' _ A B row hs hg hr=>by
   obtain⟨g,e1,h0⟩:=hs
   exact⟨g,e1,block_kept h0 hg fun r e=>(hr r e).2⟩)
  (fun pre x q=>fun _ _ _ _ hs _ _=>hs) ?assign ?body ?done ?stop
 case assign =>
  rintro l' pre' q' x V K hi hT hK
  obtain⟨V1,hV1,bV,hVs,hVB⟩:=box_4 V (.int .i64 (f x).nd.1) (.slice (f x).A (f x).nd.2.length (f x).c) (.int .i64 ((f x).pl:Int)) (.bool (f x).inst) 94
  replace hVs:=Lib.hid hVs
  clear hi hI0 hT
  simp only[encS]
  gi_wp2_with fail
  exact hK _ _ (below_grown hVB) ⟨V.heap.size,rfl,bV⟩
 case body =>
  rintro l' pre' q' x a' V hVs hI ⟨g,rfl,hg⟩ ⟨hp1,hp2,hp3⟩
  obtain⟨hq,⟨hIb,hIs⟩,hB1,many,hm1,hm2,hB2,hpf⟩:=hI
  dsimp only at hq
  subst hq
  have hk:pre'.length<m:=hp2
  clear hp1
  obtain⟨hrv,hl5⟩:=hff.out _ hk
  rw[← hp3] at hrv hl5
  clear hp3
  have hst:=partF_step (many:=many) hrv
  have hpl:(pre'++[x]).length=pre'.length+1:=by rw[List.length_append];rfl
  obtain⟨g0,g1,g2,g3,gf,gl⟩:=four_cells hg
  obtain⟨m0,mf,ml⟩:=one_cell hB2
  generalize f x=q at *
  obtain⟨n,hn⟩:∃ n,q.nd.2.length=n:=⟨_,rfl⟩
  have hls:lenS q many=many+n-(if q.inst=true then 1 else 0):=by unfold lenS;rw[hn]
  rw[hn] at g1 hl5 ⊢
  generalize q.nd.1=q1 at *
  generalize q.A=q2 at *
  generalize q.c=q4 at *
  generalize (q.pl:Int)=q5 at *
  have hw1':IntKind.i64.wrap ((many:Int)+(n:Int))=(many:Int)+(n:Int):=by rw[IntKind.wrap_i64];omega
  have hw2':IntKind.i64.wrap ((many:Int)+(n:Int)-1)=(many:Int)+(n:Int)-1:=by rw[IntKind.wrap_i64];omega
  obtain⟨V1,hV1,h1,gr1,hs1'⟩:=put_one (u:=.int .i64 ((many:Int)+(n:Int))) hB2
  have hne:g≠w1.heap.size:=fun e=>by
   subst e
   unfold BoxW at hg hB2
   rw[hg] at hB2
   simp at hB2
  have g3':V1.cell? ⟨g,3,none⟩=some (.bool q.inst):=(World.cell?_of_block (a:=⟨g,3,none⟩) (gr1.block g gl (by simpa using hne))).trans g3
  obtain⟨u0,uf,ul⟩:=one_cell h1
  have hB11:BoxW w.heap.size #[.bool false] 4 V1:=(gr1.block _ (Array.getElem?_eq_some_iff.1 hB1).1 (by have:=SZ.out;intro e;have:=Option.some.inj e;omega)).trans hB1
  have hb1:=hIb.grown gr1 (by have:=hIs;have:=SZ.out;omega) (fun k e=>by cases e;have:=SZ.out;omega)
  have hs1:w3.heap.size≤V1.heap.size:=by omega
  have kp1:Kept (fun k=>k=w.heap.size∨k=w1.heap.size) none none V V1:=(Kept.refl _ _ _).grown gr1 fun r e=>by cases e;exact .inr (.inr rfl)
  have hfin:∀ (t:Int) (V2:World),V2.heap[w1.heap.size]? = some (.cells #[.int .i64 t] 3 (0,0))→BoxW w.heap.size #[.bool false] 4 V2→Below w.heap.size w V2→w3.heap.size≤V2.heap.size→Kept (fun k=>k=w.heap.size∨k=w1.heap.size) none none V V2→t=(lenS q many:Nat) →
    (t≤5→∃ V3,V2.setCell ⟨w.heap.size,0,none⟩ (.bool false)=V3∧V2.cell? ⟨w.heap.size,0,none⟩=some (.bool false)∧V2.frozen? ⟨w.heap.size,0,none⟩=false∧(∃ q',Kept (fun k=>k=w.heap.size∨k=w1.heap.size) none q' V V3∧PaX w w.heap.size w3.heap.size l .ret (pre'++[x],q') V3)) ∧
    (¬ t≤5→∃ V3,V2.setCell ⟨w1.heap.size,0,none⟩ (.int .i64 2)=V3∧(∃ q',Kept (fun k=>k=w.heap.size∨k=w1.heap.size) none q' V V3∧PaI w w.heap.size w1.heap.size w3.heap.size l (pre'++[x],q') V3)):=fun t V2 c1 c2 c3 c4 c5 c6=>by
   refine⟨fun h5 => ?_,fun h5 => ?_⟩
   ·obtain⟨V3,e3,d1,d2,d3⟩:=put_one (u:=.bool false) c2
    obtain⟨y0,yf,_⟩:=one_cell c2
    exact⟨V3,e3,y0,yf,none,c5.grown d2 (fun r e=>by cases e;exact .inr (.inl rfl)),rfl,rfl,⟨c3.grown d2 (by have:=SZ.out;omega) (fun k e=>by cases e;exact Nat.le_refl _),by omega⟩,d1,by rw[hpf,hst,if_pos (by omega)]⟩
   ·obtain⟨V3,e3,d1,d2,d3⟩:=put_one (u:=.int .i64 2) c1
    exact⟨V3,e3,none,c5.grown d2 (fun r e=>by cases e;exact .inr (.inr rfl)),rfl,⟨c3.grown d2 (by have:=SZ.out;omega) (fun k e=>by cases e;have:=SZ.out;omega),by omega⟩,(d2.block _ (Array.getElem?_eq_some_iff.1 c2).1 (by have:=SZ.out;intro e;have:=Option.some.inj e;omega)).trans c2,2,by omega,by omega,d1,by rw[hpf,hst,if_neg (by omega),hpl]⟩
  cases hins:q.inst with
  | true =>
   rw[hins] at g3' hls
   rw[if_pos rfl] at hls
   obtain⟨V2,hV2,h2,gr2,hs2'⟩:=put_one (u:=.int .i64 ((many:Int)+(n:Int)-1)) h1
   obtain⟨x0,xf,_⟩:=one_cell h2
   have hB12:BoxW w.heap.size #[.bool false] 4 V2:=(gr2.block _ (Array.getElem?_eq_some_iff.1 hB11).1 (by have:=SZ.out;intro e;have:=Option.some.inj e;omega)).trans hB11
   obtain⟨f1,f2⟩:=hfin ((many:Int)+(n:Int)-1) V2 h2 hB12 (hb1.grown gr2 (by have:=SZ.out;omega) (fun k e=>by cases e;have:=SZ.out;omega)) (by omega) (kp1.grown gr2 fun r e=>by cases e;exact .inr (.inr rfl)) (by rw[hls];omega)
   clear hfin hst hI0 hpf
   by_cases h5:(many:Int)+(n:Int)-1≤5
   ·obtain⟨V3,e3,y0,yf,q',hq1,hq2⟩:=f1 h5
    replace hq1:=Lib.hid hq1
    replace hq2:=Lib.hid hq2
    clear f1 f2
    gi_wp2_with fail
    exact⟨q',hq1.out,hq2.out⟩
   ·obtain⟨V3,e3,q',hq1,hq2⟩:=f2 h5
    replace hq1:=Lib.hid hq1
    replace hq2:=Lib.hid hq2
    clear f1 f2
    gi_wp2_with fail
    exact⟨q',hq1.out,hq2.out⟩
  | false =>
   rw[hins] at g3' hls
   rw[if_neg (by decide),Nat.sub_zero] at hls
   obtain⟨f1,f2⟩:=hfin ((many:Int)+(n:Int)) V1 h1 hB11 hb1 hs1 kp1 (by rw[hls];omega)
   clear hfin hst hI0 hpf
   by_cases h5:(many:Int)+(n:Int)≤5
   ·obtain⟨V3,e3,y0,yf,q',hq1,hq2⟩:=f1 h5
    replace hq1:=Lib.hid hq1
    replace hq2:=Lib.hid hq2
    clear f1 f2
    gi_wp2_with fail
    exact⟨q',hq1.out,hq2.out⟩
   ·obtain⟨V3,e3,q',hq1,hq2⟩:=f2 h5
    replace hq1:=Lib.hid hq1
    replace hq2:=Lib.hid hq2
    clear f1 f2
    gi_wp2_with fail
    exact⟨q',hq1.out,hq2.out⟩
 case done =>
  rintro xs q' V hVs rfl ⟨_,⟨hb,hs⟩,hB1,many,_,_,_,hpf⟩ hDV hqV
  have hpt:Hid (partF l.reverse 1=true):=Lib.hid (by
   rw[hpf,downs_length,List.drop_of_length_le (by rw[List.length_reverse,hl.out];exact Nat.le_refl _)]
   rfl)
  obtain⟨V3,hV3,h3,gr3,hs3'⟩:=put_one (u:=.bool true) hB1
  obtain⟨m0,mf,ml⟩:=one_cell hB1
  have hD1:=Lib.hid ((gr3.block _ (Array.getElem?_eq_some_iff.1 hDV).1 (by have:=SZ.out;intro e;have:=Option.some.inj e;omega)).trans hDV)
  have hb3:=Lib.hid (hb.grown gr3 (by have:=SZ.out;omega) (fun k e=>by cases e;exact Nat.le_refl _))
  have h3h:=Lib.hid h3
  clear hpf hI0 hDV hB1 h3 gr3 hqV hb
  gi_wp2_with fail
  refine⟨by simp,.inl ⟨_,_,rfl,run_takeDeferred hD1.out,?_⟩⟩
  have hgp:=grownBy_putObj' V3 w3.heap.size (.deferred none)
  have hnp:∀ r,some w3.heap.size=some r→∃ o:Obj,V3.heap[r]? = some o∧o.isCells=false:=fun r e=>by cases e;exact⟨_,hD1.out,rfl⟩
  have h9:=block_kept h3h.out hgp hnp
  obtain⟨n0,_,_⟩:=one_cell h9
  exact⟨.bool true,by simp[results,Tryz.f26,go_sem,n0],by rw[hpt.out],hb3.out.grown hgp (by have:=hb3.out.size;omega) (fun k e=>by cases e;have:=SZ.out;omega)⟩
 case stop =>
  rintro c pre' q' V hVs ⟨rfl,_,⟨hb,hs⟩,hB1,hpf⟩ hDV hqV
  have hD1:=Lib.hid hDV
  have hb3:=Lib.hid hb
  have h3h:=Lib.hid hB1
  have hpt:=Lib.hid hpf
  clear hpf hI0 hDV hB1 hqV hb
  gi_wp2_with fail
  refine⟨by simp,.inl ⟨_,_,rfl,run_takeDeferred hD1.out,?_⟩⟩
  have hgp:=grownBy_putObj' V w3.heap.size (.deferred none)
  have hnp:∀ r,some w3.heap.size=some r→∃ o:Obj,V.heap[r]? = some o∧o.isCells=false:=fun r e=>by cases e;exact⟨_,hD1.out,rfl⟩
  have h9:=block_kept h3h.out hgp hnp
  obtain⟨n0,_,_⟩:=one_cell h9
  exact⟨.bool false,by simp[results,Tryz.f26,go_sem,n0],by rw[hpt.out],hb3.out.grown hgp (by have:=hb3.out.size;omega) (fun k e=>by cases e;have:=SZ.out;omega)⟩
end Go.Proofs.YtogieepfimpdmaaGreat
/-
 Package put: new nodes made along a way. Conditions: those that each lemma states.
-/
namespace Go.Proofs.YtogieepfimpdmaaGreat
open Go.RowKit Go.Shelf
attribute [local go_sem] Oper.semAt_some
def itemsS (q:Sv) (F:List It):List It:=q.nd.2.take q.pl++(F++q.nd.2.drop (q.pl+if q.inst=true then 1 else 0))
noncomputable def growA:List Sv→Rm→List It→Int×Rm×List It
 | [],s,F=>(0,s,F)
 | q::r,s,F=>if (layO s q.nd.1 (itemsS q F) F).1=0 then growA r (layO s q.nd.1 (itemsS q F) F).2.1 (layO s q.nd.1 (itemsS q F) F).2.2 else ((layO s q.nd.1 (itemsS q F) F).1,emptyR,[])
theorem growA_step {l:List Sv} {k:Nat} {q:Sv} {s:Rm} {F:List It} (h:l[k]? = some q):growA (l.drop k) s F=if (layO s q.nd.1 (itemsS q F) F).1=0 then growA (l.drop (k+1)) (layO s q.nd.1 (itemsS q F) F).2.1 (layO s q.nd.1 (itemsS q F) F).2.2 else ((layO s q.nd.1 (itemsS q F) F).1,emptyR,[]):=by
 obtain⟨hl,e⟩:=List.getElem?_eq_some_iff.1 h
 rw[List.drop_eq_getElem_cons hl,e]
 rfl
noncomputable def growO (s:Rm) (l:List Sv) (x:It):Int×Rm×Int :=
 if (growA l.reverse s [x]).1=0 then
  (if 1<(growA l.reverse s [x]).2.2.length then
   (if (layO (growA l.reverse s [x]).2.1 (l.length:Nat) (growA l.reverse s [x]).2.2 (growA l.reverse s [x]).2.2).1=0 then
    (0,(layO (growA l.reverse s [x]).2.1 (l.length:Nat) (growA l.reverse s [x]).2.2 (growA l.reverse s [x]).2.2).2.1,nowL (layO (growA l.reverse s [x]).2.1 (l.length:Nat) (growA l.reverse s [x]).2.2 (growA l.reverse s [x]).2.2).2.2)
    else ((layO (growA l.reverse s [x]).2.1 (l.length:Nat) (growA l.reverse s [x]).2.2 (growA l.reverse s [x]).2.2).1,emptyR,0))
   else (0,(growA l.reverse s [x]).2.1,nowL (growA l.reverse s [x]).2.2))
 else ((growA l.reverse s [x]).1,emptyR,0)
theorem built_some {s:Rm} {lv:Int} {L:List It} (h:(builtO s lv L).1=0):0<(builtO s lv L).2.2.length∧(builtO s lv L).2.2.length≤2:=by
 obtain⟨u,up,e⟩:∃ u up,builtO s lv L=(0,u,up):=⟨_,_,Prod.ext h rfl⟩
 rw[e]
 rcases built_ways e with ⟨_,_,rfl⟩ | ⟨_,_,_,_,rfl⟩ <;> simp
theorem lay_some {s:Rm} {lv:Int} {L F:List It} (h:(layO s lv L F).1=0):0<(layO s lv L F).2.2.length∧(layO s lv L F).2.2.length≤2:=by
 unfold layO at h ⊢
 split
 ·rename_i h1
  rw[if_pos h1] at h
  split
  ·exact built_some h1
  ·rename_i h2
   rw[if_neg h2] at h
   exact absurd h h2
 ·rename_i h1
  rw[if_neg h1] at h
  exact absurd h h1
def Out (lo hi:Nat) (w:World):Addr→Prop:=fun p=>(p.block<lo∨hi≤p.block)∧p.block<w.heap.size
def RowAt (w:World) (q:Sv):Prop:=∃ w0:World,w0.heap.size=q.hi∧RowOf rIt 5 40 q.lo w0 q.A q.c q.nd.2∧∀ k,q.lo≤k→k<q.hi→w.heap[k]? = w0.heap[k]?
theorem RowAt.use {w:World} {q:Sv} (h:RowAt w q) (hh:q.hi≤w.heap.size):RowOf rIt 5 40 q.lo w q.A q.c q.nd.2:=by
 obtain⟨w0,h0,⟨cs,h1,h2⟩,h3⟩:=h
 refine⟨cs,⟨h1.1,?_⟩,fun i x hi => ?_⟩
 ·rcases h1.2 with e | ⟨g,cap,cur,e,hb,hg,r⟩
  ·exact .inl e
  ·have hlt:=(Array.getElem?_eq_some_iff.1 hg).1
   exact .inr ⟨g,cap,cur,e,hb,(h3 g hb (by omega)).trans hg,r⟩
 ·obtain⟨vs,e1,e2,e3⟩:=h2 i x hi
  refine⟨vs,e1,e2,stab_it _ _ _ _ _ _ (fun p v hp hc => ?_) e3⟩
  have hb:=h3 p.block hp.1.1 (by have:=hp.1.2.1;omega)
  exact⟨⟨⟨hp.1.1,by have:=hp.1.2.1;omega,(World.frozen?_of_block hb).trans hp.1.2.2⟩,hp.2⟩,(World.cell?_of_block hb).trans hc⟩
theorem RowAt.same {w w':World} {q:Sv} (h:RowAt w q) (e:∀ k,q.lo≤k→k<q.hi→w'.heap[k]? = w.heap[k]?):RowAt w' q:=by
 obtain⟨w0,h0,h1,h3⟩:=h
 exact⟨w0,h0,h1,fun k h4 h5=>(e k h4 h5).trans (h3 k h4 h5)⟩
structure Rows (lo hi:Nat) (w:World) (l:List Sv):Prop where
 ok:∀ q∈l,lo≤q.lo∧q.lo≤q.hi∧q.hi≤hi∧RowAt w q
 apart:l.Pairwise fun p q=>p.hi≤q.lo
theorem row_block {w:World} {q:Sv} (h:RowAt w q):∀ g,q.A.map (·.block)=some g→q.lo≤g∧g<q.hi:=fun g e=>by
 obtain⟨w0,h0,⟨cs,ho,_⟩,_⟩:=h
 have:=ho.lt g (by rw[← e];cases q.A <;> rfl)
 exact⟨this.1,by omega⟩
structure FrB (lo hr hi:Nat) (w:World) (fb m fc:Nat) (F:List It):Prop where
 len:F.length=m
 pos:0<m
 few:m≤2
 at_:hr≤fb
 row:∃ ps:List Iv,ps.map (·.1)=F∧w.ownsRow hr 40 5 (.slice (some ⟨fb,0,none⟩) m fc) m (cells5 ps)∧∀ p∈ps,InI p.1∧rBy (Out lo hi w) w [p.2] p.1.2.2
theorem FrB.same {lo hr hi fb m fc:Nat} {w w':World} {F:List It} (h:FrB lo hr hi w fb m fc F) (hs:w.heap.size≤w'.heap.size) (e:∀ k,k<w.heap.size→(k<lo∨hi≤k∨k=fb)→w'.heap[k]? = w.heap[k]?):FrB lo hr hi w' fb m fc F:=by
 obtain⟨h1,h2,h3,h4,ps,h5,h6,h7⟩:=h
 refine⟨h1,h2,h3,h4,ps,h5,⟨h6.1,?_⟩,fun p hp=>⟨(h7 p hp).1,stab_by _ _ _ _ _ _ (fun a v ha hc => ?_) (h7 p hp).2⟩⟩
 ·rcases h6.2 with e' | ⟨g,cap,cur,e',hb,hg,r⟩
  ·exact .inl e'
  ·cases e'
   exact .inr ⟨_,_,cur,rfl,hb,(e _ (Array.getElem?_eq_some_iff.1 hg).1 (.inr (.inr rfl))).trans hg,r⟩
 ·have hb:=e a.block ha.2 (by rcases ha.1 with h | h <;> omega)
  exact⟨⟨ha.1,by have:=ha.2;omega⟩,(World.cell?_of_block hb).trans hc⟩
end Go.Proofs.YtogieepfimpdmaaGreat
