/-
  Lemmas on the program and on the document's answers, gathered: PuWay, WkSets, WkLay, WkRise, WkNodes, PuGrow2, PuPut, PtItems, PuPlain, FnMade, PuSix, PuNew, PuLaw, PuAll, PtWant, WkBits, PuCnt, PtErr, PuWant, PuStay, PuEnd, WkMarker. Conditions: those that each lemma states.
-/
import Derived.Test.YtogieepfimpdmaaGreatBnd4
import Derived.Test.YtogieepfimpdmaaGreatProg
import Derived.Shelf.SlIterI.Keys
import Derived.Shelf.SlIterI.Stops
import Derived.Shelf.SlIterI.Sorted
import Derived.Shelf.SortM.Plain
import Derived.Shelf.SortM.SortNone
import Derived.Maps.OwnSet
import Derived.Maps.OwnIn
import Derived.Stop.RegionWithIn
/-
 Package put: the way of a key,from the root to its leaf. Conditions: those that each lemma states.
-/
namespace Go.Proofs.YtogieepfimpdmaaGreat
open Go.RowKit
noncomputable def atW (s:Rm) (k:Ky) (a:Int):Nat→Int
 | 0=>a
 | j+1=>refW (rmV s (atW s k a j)) k
theorem ref_at {n:Nd} {k:Ky} {y:It} (h:n.2[wayN n k]? = some y):refW n k=y.2.1:=by
 unfold refW
 rw[h]
 rfl
theorem at_down {s:Rm} {k:Ky} {a:Int} {l:Nat} (h:AtT s l a):∀ j,j≤l→AtT s (l-j) (atW s k a j)
 | 0,_=>h
 | j+1,hj=>by
  have h1:=at_down (k:=k) h j (by omega)
  obtain⟨d,hd⟩:∃ d,l-j=d+1:=⟨l-j-1,by omega⟩
  rw[hd] at h1
  have hne:0<(rmV s (atW s k a j)).2.length:=(mayN_of h1.may).1.2.2.2 (by rw[h1.lvl];omega)
  obtain⟨y,hy⟩:∃ y,(rmV s (atW s k a j)).2[wayN (rmV s (atW s k a j)) k]? = some y:=⟨_,List.getElem?_eq_getElem (way_in k hne)⟩
  have h2:=h1.down (List.mem_of_getElem? hy)
  show AtT s (l-(j+1)) (refW (rmV s (atW s k a j)) k)
  rw[ref_at hy,show l-(j+1)=d by omega]
  exact h2
theorem step_info0:(Tryz.prog.info? 94).map (fun i=>(i.zero,i.size,i.bytes))=some (some (.agg #[.int .i64 0,.slice none 0 0,.int .i64 0,.bool false]),4,48):=by kernel_rfl
theorem svs_app (a b:List Sv):svs (a++b)=svs a++svs b:=by simp[svs]
structure WayIs (lo:Nat) (s:Rm) (k:Ky) (a:Int) (W:World) (A:Option Addr) (c:Nat) (l:List Sv):Prop where
 row:W.ownsRow lo 94 4 (.slice A l.length c) l.length (svs l)
 rows:Rows lo W.heap.size W l
 off:∀ g q,A.map (·.block)=some g→q∈l→g<q.lo∨q.hi≤g
 are:∀ i q,l[i]? = some q→q.nd=rmV s (atW s k a i)∧(q.pl,q.inst)=stpN q.nd k
theorem steps_push {w:World} {lo:Nat} {A:Option Addr} {c:Nat} {l:List Sv} (h:w.ownsRow lo 94 4 (.slice A l.length c) l.length (svs l)) (q:Sv) (g m n:Nat) (hg:w.heap[g]? = some (.cells #[.int .i64 q.nd.1,.slice q.A q.nd.2.length q.c,.int .i64 (q.pl:Int),.bool q.inst] 94 (0,0))) (hn:l.length=n) (hs:n<100) (hbase:lo≤w.heap.size) :
  ∃ A' c' w',(Builtin.append_ #[65,65] 65 #[.slice A n c,.slice (some ⟨g,0,none⟩) 1 m]).run Tryz.prog w=.ok (.slice A' (n+1) c') w'∧w'.ownsRow lo 94 4 (.slice A' (l++[q]).length c') (l++[q]).length (svs (l++[q]))∧w.grownBy w' (A.map (·.block))∧Below lo w w'∧(A'.map (·.block)=A.map (·.block)∨A'.map (·.block)=some w.heap.size):=by
 subst hn
 obtain⟨i0,hi,hz0,hz1,hz2⟩:=info_parts step_info0
 obtain⟨A1,c1,e,_,_,e4,_⟩:=own_any h
 cases e
 obtain⟨v',w',hr,o1,g1,b1,k1⟩:=app_own (P:=Tryz.prog) (w:=w) lo 65 65 94 i0 (.agg #[.int .i64 0,.slice none 0 0,.int .i64 0,.bool false]) 4 48 Tryz.underlying65 hi hz0 hz1 hz2 rfl (by decide) _ _ _ h ⟨g,0,none⟩ 1 m (svV q) rfl (World.news_of_block (cs:=#[.int .i64 q.nd.1,.slice q.A q.nd.2.length q.c,.int .i64 (q.pl:Int),.bool q.inst]) hg) (fun u hu=>by
  simp[svV] at hu
  rcases hu with rfl | rfl | rfl | rfl <;> rfl) (by unfold maxLen;omega) (by omega) hbase
 obtain⟨A2,c2,rfl,_,_,e5,_⟩:=own_any o1
 rw[e4] at g1 k1
 rw[e5] at k1
 refine⟨A2,c2,w',hr,?_,g1,b1,k1⟩
 rw[svs_app,List.length_append]
 simpa [svs] using o1
theorem WayIs.push {lo:Nat} {s:Rm} {k:Ky} {a:Int} {wr W1 w6 w7:World} {A A':Option Addr} {c c':Nat} {l:List Sv} (h:WayIs lo s k a wr A c l) (q:Sv) (hlo:q.lo=wr.heap.size) (hhi:q.hi=W1.heap.size) (hrow:RowOf rIt 5 40 wr.heap.size W1 q.A q.c q.nd.2)
  (hb1:Below wr.heap.size wr W1) (h16:Below W1.heap.size W1 w6) (g67:w6.grownBy w7 (A.map (·.block))) (row:w7.ownsRow lo 94 4 (.slice A' (l++[q]).length c') (l++[q]).length (svs (l++[q]))) (k1:A'.map (·.block)=A.map (·.block)∨A'.map (·.block)=some w6.heap.size)
  (hnd:q.nd=rmV s (atW s k a l.length)) (hst:(q.pl,q.inst)=stpN q.nd k) (hl:lo≤wr.heap.size):WayIs lo s k a w7 A' c' (l++[q]):=by
 have hA:∀ g,A.map (·.block)=some g→g<wr.heap.size:=fun g e=>(h.row.lt g (by rw[← e];cases A <;> rfl)).2
 have s1:=hb1.size
 have s6:=h16.size
 have s7:=g67.size
 have hold:∀ x∈l,∀ k,x.lo≤k→k<x.hi→w7.heap[k]? = wr.heap[k]? := fun x hx k h1 h2=>by
  obtain⟨_,_,h3,_⟩:=h.rows.ok x hx
  rw[g67.block k (by omega) (fun e=>by rcases h.off _ x e.symm hx with h4 | h4 <;> omega),h16.block k (by omega),hb1.block k (by omega)]
 refine⟨row,⟨fun x hx => ?_,?_⟩,fun g x e hx => ?_,fun i x e => ?_⟩
 ·rcases List.mem_append.1 hx with hx | hx
  ·obtain⟨h1,h2,h3,h4⟩:=h.rows.ok x hx
   exact⟨h1,h2,by omega,h4.same (hold x hx)⟩
  ·obtain rfl:=List.mem_singleton.1 hx
   refine⟨by omega,by omega,by omega,W1,hhi.symm,by rw[hlo];exact hrow,fun k h1 h2 => ?_⟩
   rw[g67.block k (by omega) (fun e=>by have:=hA _ e.symm;omega),h16.block k (by omega)]
 ·rw[List.pairwise_append]
  refine⟨h.rows.apart,List.pairwise_singleton _ _,fun x hx y hy => ?_⟩
  obtain rfl:=List.mem_singleton.1 hy
  have:=(h.rows.ok x hx).2.2.1
  omega
 ·have hg:A.map (·.block)=some g∨g=w6.heap.size:=by
   rcases k1 with k1 | k1
   ·exact .inl (by rw[← k1,e])
   ·rw[e] at k1
    exact .inr (by simpa using k1)
  rcases List.mem_append.1 hx with hx | hx
  ·rcases hg with hg | hg
   ·exact h.off g x hg hx
   ·have:=(h.rows.ok x hx).2.2.1
    omega
  ·obtain rfl:=List.mem_singleton.1 hx
   rcases hg with hg | hg
   ·have:=hA g hg
    omega
   ·omega
 ·rcases Nat.lt_or_ge i l.length with hi | hi
  ·rw[List.getElem?_append_left hi] at e
   exact h.are i x e
  ·rw[List.getElem?_append_right hi] at e
   have hi0:i=l.length:=by
    have:=(List.getElem?_eq_some_iff.1 e).1
    simp at this
    omega
   subst hi0
   simp at e
   subst e
   exact⟨hnd,hst⟩
set_option maxRecDepth 100000 in
set_option maxHeartbeats 8000000 in
theorem way_any (qa qb qc qd:Option Addr×Nat×Nat) (s:Rm) (a:Int) (lv:Nat) (hlv:lv<6) (k:Ky) (w:World) (h:Sto (Old w) w (.agg #[.slice qa.1 qa.2.1 qa.2.2,.slice qb.1 qb.2.1 qb.2.2,.slice qc.1 qc.2.1 qc.2.2,.slice qd.1 qd.2.1 qd.2.2]) s) (hT:AtT s lv a) :
  Calls Tryz.prog 25 #[.agg #[.slice qa.1 qa.2.1 qa.2.2,.slice qb.1 qb.2.1 qb.2.2,.slice qc.1 qc.2.1 qc.2.2,.slice qd.1 qd.2.1 qd.2.2],.int .i64 a,.int .i64 ((lv:Int)+1),kyV k] w fun e w'=>∃ A c l,e=.returned (.tuple #[.slice A l.length c,.int .i64 0])∧l.length=lv+1∧WayIs w.heap.size s k a w' A c l∧Below w.heap.size w w':=by
 obtain⟨w1,hw1,b1,hs1,hB1⟩:=box_4 w (.slice qa.1 qa.2.1 qa.2.2) (.slice qb.1 qb.2.1 qb.2.2) (.slice qc.1 qc.2.1 qc.2.2) (.slice qd.1 qd.2.1 qd.2.2) 29
 obtain⟨w2,hw2,-,-,-,hs2,hB2,b2⟩:=box_three w1 (.int .u8 (k.1.toNat:Int)) (.int .u32 k.2.1) (.int .u32 k.2.2) 37
 have hB12:=hB1.trans (hB2.mono hB1.size)
 have G1:=Lib.hid ((hB2.block w.heap.size (by omega)).trans b1)
 have G2:=Lib.hid b2
 have B2:=Lib.hid hB12
 have SZ:=Lib.hid (show w1.heap.size=w.heap.size+1∧w2.heap.size=w.heap.size+2 from ⟨hs1,by omega⟩)
 have HS:=Lib.hid h
 have hdn:=Lib.hid (fun j hj=>at_down (k:=k) hT j hj)
 have i0:(0:Int)≤(lv:Int)+1:=by omega
 replace hs1:=Lib.hid hs1
 replace hs2:=Lib.hid hs2
 replace hT:=Lib.hid hT
 clear h hB1 hB2 hB12 b1 b2
 unfold kyV
 go_enter Tryz.func25,Tryz.ntmps25
 go_upto_region 1 with fail
 clear hw1 hw2
 go_wp2_with fail
 go_loopw [10,11,17] (fun sv av iv wr=>∃ (j:Nat) (A:Option Addr) (c:Nat) (l:List Sv),j≤lv+1∧iv=.int .i64 (j:Int)∧l.length=j∧sv=.slice A l.length c∧(j≤lv→av=.int .i64 (atW s k a j))∧(∃ z:Int,av=.int .i64 z)∧WayIs w2.heap.size s k a wr A c l∧Below w2.heap.size w2 wr) (fun _ _ iv _=>lv+1-(intOf iv).toNat)
 case atStart=>exact⟨0,none,0,[],by omega,rfl,rfl,rfl,fun _=>rfl,⟨_,rfl⟩,⟨World.ownsRow_nil ..,⟨fun _ h=>(List.not_mem_nil h).elim,List.Pairwise.nil⟩,fun _ _ e=>(nomatch e),fun _ _ e=>(nomatch e)⟩,Below.refl _ _⟩
 case round =>
  obtain⟨j,A,c,l,hj,rfl,hll,rfl,hav,⟨zv,rfl⟩,hW,hb⟩:=hrel
  obtain⟨ml,hml⟩:∃ q,l.length=q:=⟨_,rfl⟩
  by_cases hlt:j<lv+1
  case neg =>
   have hc0:¬ ((j:Int)<(lv:Int)+1):=by omega
   have hfin:Hid (∃ A' c' l',Ending.returned (.tuple #[.slice A ml c,.int .i64 0])=.returned (.tuple #[.slice A' l'.length c',.int .i64 0])∧l'.length=lv+1∧WayIs w.heap.size s k a wr A' c' l'∧Below w.heap.size w wr):=Lib.hid
    ⟨A,c,l,by rw[hml],by omega,⟨own_low hW.row (by have:=SZ.out;omega),⟨fun q hq=>by
     obtain⟨h1,h2,h3,h4⟩:=hW.rows.ok q hq
     exact⟨by have:=SZ.out;omega,h2,h3,h4⟩,hW.rows.apart⟩,hW.off,hW.are⟩,B2.out.trans (hb.mono B2.out.size)⟩
   rw[hml]
   replace hml:=Lib.hid hml
   replace hll:=Lib.hid hll
   replace hW:=Lib.hid hW
   clear hav
   go_wp2_with fail
   exact bodyPost_ret (v:=.tuple #[.slice A ml c,.int .i64 0]) (by simp[results,Tryz.results25,go_sem]) rfl hfin.out
  have hc0:((j:Int)<(lv:Int)+1):=by omega
  obtain rfl:zv=atW s k a j:=by
   have:=hav (by omega)
   simpa using this
  have hA:=hdn.out j (by omega)
  have hok:=hA.ok
  have hlv:=hA.lvl
  have hmay:=hA.may
  have hBr:=Lib.hid (B2.out.trans (hb.mono B2.out.size))
  have hN:=nodeR_own _ s (atW s k a j) wr (HS.out.below hBr.out)
  have hne:=(mayN_of hmay).1.2.2.2
  have hfive:=Lib.hid (mayN_of hmay).1.2.2.1
  obtain⟨nd,hnd⟩:∃ q,rmV s (atW s k a j)=q:=⟨_,rfl⟩
  have hnext:Hid (nd.1≠0→∃ y,nd.2[(stpN nd k).1]? = some y∧y.2.1=atW s k a (j+1)):=Lib.hid (fun h0=>by
   have hw:(stpN nd k).1=wayN nd k:=by unfold stpN;rw[if_neg h0]
   rw[hnd] at hne
   rw[hnd] at hlv
   have hlt:=way_in k (hne (by omega))
   refine⟨_,by rw[hw];exact List.getElem?_eq_getElem hlt,?_⟩
   show _=refW (rmV s (atW s k a j)) k
   rw[hnd,ref_at (List.getElem?_eq_getElem hlt)])
  rw[hok,hnd] at hN
  rw[hnd] at hlv hfive
  clear hmay hne hok
  have hlv0:nd.1=0→j=lv:=fun h0=>by omega
  obtain⟨lw,hlw⟩:∃ q,nd.1=q:=⟨_,rfl⟩
  obtain⟨nl,hnl⟩:∃ q,nd.2.length=q:=⟨_,rfl⟩
  obtain⟨pl,hpl⟩:∃ q,(stpN nd k).1=q:=⟨_,rfl⟩
  obtain⟨ins,hins⟩:∃ q,(stpN nd k).2=q:=⟨_,rfl⟩
  have g1:=Lib.hid ((hb.block w.heap.size (by have:=SZ.out;omega)).trans G1.out)
  have g2:=Lib.hid ((hb.block w1.heap.size (by have:=SZ.out;omega)).trans G2.out)
  obtain⟨k0,k1,k2,k3,_⟩:=four_cells g1.out
  have hW':=Lib.hid hW
  have hb':=Lib.hid hb
  have hnd':=Lib.hid hnd
  clear hA hW hb hnd hav
  go_upto_region 5 with fail
  go_wp2_with fail
  with_reducible refine hN.mono ?_
  rintro e W1 ⟨u,rfl,⟨Z,zc,rfl,hin,hrow⟩,hb1⟩
  rw[hnl,hlw]
  clear hN k0 k1 k2 k3
  obtain⟨w3,hw3,b3,hs3,hB3⟩:=box_pair' W1 (.int .i64 lw) (.slice Z nl zc) 45
  have g23:=(hB3.block w1.heap.size (by have:=hb1.size;have:=hb'.out.size;have:=SZ.out;omega)).trans ((hb1.block w1.heap.size (by have:=hb'.out.size;have:=SZ.out;omega)).trans g2.out)
  obtain⟨y0,y1,_⟩:=two_cells b3
  obtain⟨z0,z1,z2,_⟩:=three_cells g23
  have hst:=stepOf_any Z zc nd k w3 ((NodR.nod ⟨Z,zc,rfl,hin,hrow⟩).drop.below hB3)
  rw[hnl,hlw,hpl,hins] at hst
  have B13:=Lib.hid hB3
  have hrow1:=Lib.hid hrow
  have B1:=Lib.hid hb1
  have b3':=Lib.hid b3
  clear hb1 hB3 hrow hin b3 g23
  replace hs3:=Lib.hid hs3
  go_upto_region 8 with fail
  clear hw3
  unfold kyV at hst
  go_wp2_with fail
  with_reducible refine hst.mono ?_
  rintro e w4 ⟨rfl,hb4⟩
  clear hst y0 y1 z0 z1 z2
  obtain⟨w5,hw5,b5,hs5,hB5⟩:=box_4 w4 (.int .i64 lw) (.slice Z nl zc) (.int .i64 (pl:Int)) (.bool ins) 94
  obtain⟨y0,y1,y2,y3,_⟩:=four_cells b5
  have hsz4:=Lib.hid hb4.size
  have B35:=Lib.hid (hb4.trans (hB5.mono hb4.size))
  have b5':=Lib.hid b5
  clear hb4 hB5 b5
  replace hs5:=Lib.hid hs5
  go_upto_region 9 with fail
  clear hw5
  obtain⟨w6,hw6,b6,hs6,hB6⟩:=box_4 w5 (.int .i64 lw) (.slice Z nl zc) (.int .i64 (pl:Int)) (.bool ins) 94
  have B16:Hid (Below W1.heap.size W1 w6):=Lib.hid (B13.out.trans ((B35.out.mono B13.out.size).trans (hB6.mono (Nat.le_trans B13.out.size B35.out.size))))
  have B26:Hid (Below w2.heap.size w2 w6):=Lib.hid (hb'.out.trans ((B1.out.mono hb'.out.size).trans (B16.out.mono (Nat.le_trans hb'.out.size B1.out.size))))
  have row6:=own_below (own_below hW'.out.row B1.out) B16.out
  obtain⟨A',c',w7,hr7,row7,gr7,hb7,k7⟩:=steps_push row6 ⟨nd,pl,ins,Z,zc,wr.heap.size,W1.heap.size⟩ w5.heap.size 1 j (by rw[hlw,hnl];exact b6) hll (by omega) B26.out.size
  have hW7:=Lib.hid (WayIs.push hW'.out ⟨nd,pl,ins,Z,zc,wr.heap.size,W1.heap.size⟩ rfl rfl hrow1.out B1.out B16.out gr7 row7 k7 (by rw[hll];exact hnd'.out.symm) (by rw[← hpl,← hins]) hb'.out.size)
  have hB27:=Lib.hid (B26.out.trans hb7)
  have hAlt:∀ g,A.map (·.block)=some g→g<wr.heap.size:=fun g e=>(hW'.out.row.lt g (by rw[← e];cases A <;> rfl)).2
  have f3:=(gr7.block W1.heap.size (by have:=B16.out.size;have:=B13.out.size;have:=hs3.out;have:=hs5.out;have:=B35.out.size;have:=hB6.size;omega) (fun e=>by have:=hAlt _ e.symm;have:=B1.out.size;omega)).trans ((hB6.block W1.heap.size (by have:=hs3.out;have:=B35.out.size;omega)).trans ((B35.out.block W1.heap.size (by have:=hs3.out;omega)).trans b3'.out))
  have f5:=(gr7.block w4.heap.size (by have:=hs5.out;have:=hB6.size;omega) (fun e=>by have:=hAlt _ e.symm;have:=B1.out.size;have:=hs3.out;have:=hsz4.out;omega)).trans ((hB6.block w4.heap.size (by have:=hs5.out;omega)).trans b5'.out)
  have H7:=Lib.hid hr7
  have hl7:Hid (j+1=(l++[(⟨nd,pl,ins,Z,zc,wr.heap.size,W1.heap.size⟩:Sv)]).length):=Lib.hid (by rw[List.length_append,hll];rfl)
  obtain⟨l',hl'⟩:∃ q,l++[(⟨nd,pl,ins,Z,zc,wr.heap.size,W1.heap.size⟩:Sv)]=q:=⟨_,rfl⟩
  have hrow7:Hid (RowOf rIt 5 40 wr.heap.size w7 Z zc nd.2):=Lib.hid (by
   obtain⟨_,_,h3,h4⟩:=hW7.out.rows.ok ⟨nd,pl,ins,Z,zc,wr.heap.size,W1.heap.size⟩ (by simp)
   exact h4.use h3)
  rw[hl'] at hW7 hl7
  replace hl':=Lib.hid hl'
  obtain⟨n0,n1,_⟩:=two_cells f3
  obtain⟨s0,s1,s2,s3,_⟩:=four_cells f5
  replace f3:=Lib.hid f3
  replace f5:=Lib.hid f5
  replace hs6:=Lib.hid hs6
  replace b6:=Lib.hid b6
  clear hr7 gr7 hb7 row7 row6 k7 hB6 hAlt hW'
  have i7:IntKind.i64.wrap ((j:Int)+1)=((j+1:Nat):Int):=by rw[IntKind.wrap_i64];omega
  by_cases h0:lw=0
  ·subst h0
   have hjl:=Lib.hid (hlv0 hlw)
   replace hlw:=Lib.hid hlw
   replace hnl:=Lib.hid hnl
   replace hpl:=Lib.hid hpl
   replace hins:=Lib.hid hins
   clear hlv hlv0
   go_wp2_with (at_builtin;refine wpList_append_run rfl _ _ _ rfl rfl rfl H7.out ?_;clear H7)
   go_roundw
   case rel=>exact⟨j+1,A',c',l',by omega,by go_num,hl7.out.symm,by rw[← hl7.out],fun h=>by have:=hjl.out;omega,⟨_,rfl⟩,hW7.out,hB27.out⟩
   case measure=>simp[intOf];omega
  ·have hgt:decide (lw>0)=true:=by simp;omega
   obtain⟨y,hy,hyn⟩:=hnext.out (by omega)
   rw[hpl] at hy
   obtain⟨ad,E,ce,e0,_,⟨_,_,_,t3,_⟩,_⟩:=its_at (hrow7.out.rel stab_it) hy
   have hpn:pl<nl:=by rw[← hnl];exact(List.getElem?_eq_some_iff.1 hy).1
   subst e0
   have hn5:nl≤5:=by rw[← hnl];exact hfive.out
   replace hy:=Lib.hid hy
   replace hyn:=Lib.hid hyn
   replace hlw:=Lib.hid hlw
   replace hnl:=Lib.hid hnl
   replace hpl:=Lib.hid hpl
   replace hins:=Lib.hid hins
   clear hlv hlv0
   go_wp2_with (at_builtin;refine wpList_append_run rfl _ _ _ rfl rfl rfl H7.out ?_;clear H7)
   go_roundw
   case rel=>exact⟨j+1,A',c',l',by omega,by go_num,hl7.out.symm,by rw[← hl7.out],fun _=>by rw[hyn.out],⟨_,rfl⟩,hW7.out,hB27.out⟩
   case measure=>simp[intOf];omega
end Go.Proofs.YtogieepfimpdmaaGreat
/-
 Which blocks a range over the items of a tree comes to;plain. Conditions: those that each lemma states.
-/
namespace Go.Proofs.YtogieepfimpdmaaGreat
open Go.RowKit
def upsW (M:List (Int×It)):List Int:=(M.filter fun p=>decide (0<p.1)).map (·.2.2.1)
def lowW (M:List (Int×It)):List Int:=(M.filter fun p => !decide (0<p.1)&&decide (p.2.2.1≠0)).map (·.2.2.1)
theorem ups_yes {M:List (Int×It)} {p:Int×It} (h:0<p.1):upsW (M++[p])=upsW M++[p.2.2.1]∧lowW (M++[p])=lowW M:=by
 unfold upsW lowW
 rw[List.filter_append,List.map_append,List.filter_append,List.map_append,List.filter_cons_of_pos (by simpa using h),List.filter_cons_of_neg (by simp[h])]
 exact⟨rfl,by simp⟩
theorem low_yes {M:List (Int×It)} {p:Int×It} (h:¬ 0<p.1) (h0:p.2.2.1≠0):upsW (M++[p])=upsW M∧lowW (M++[p])=lowW M++[p.2.2.1]:=by
 unfold upsW lowW
 rw[List.filter_append,List.map_append,List.filter_append,List.map_append,List.filter_cons_of_neg (by simpa using h),List.filter_cons_of_pos (by simp[h0];omega)]
 exact⟨by simp,rfl⟩
theorem low_no {M:List (Int×It)} {p:Int×It} (h:¬ 0<p.1) (h0:p.2.2.1=0):upsW (M++[p])=upsW M∧lowW (M++[p])=lowW M:=by
 unfold upsW lowW
 rw[List.filter_append,List.map_append,List.filter_append,List.map_append,List.filter_cons_of_neg (by simpa using h),List.filter_cons_of_neg (by simp[h0])]
 exact⟨by simp,by simp⟩
theorem ups_len (M:List (Int×It)):(upsW M).length≤M.length∧(lowW M).length≤M.length:=by
 unfold upsW lowW
 rw[List.length_map,List.length_map]
 exact⟨List.length_filter_le _ _,List.length_filter_le _ _⟩
theorem ups_mem {M:List (Int×It)} {x:Int}:x∈upsW M↔∃ p∈M,0<p.1∧p.2.2.1=x:=by
 unfold upsW
 simp only[List.mem_map,List.mem_filter,decide_eq_true_eq]
 constructor
 ·rintro⟨p,⟨h1,h2⟩,h3⟩
  exact⟨p,h1,h2,h3⟩
 ·rintro⟨p,h1,h2,h3⟩
  exact⟨p,⟨h1,h2⟩,h3⟩
theorem low_mem {M:List (Int×It)} {x:Int}:x∈lowW M↔∃ p∈M,¬ 0<p.1∧p.2.2.1≠0∧p.2.2.1=x:=by
 unfold lowW
 simp only[List.mem_map,List.mem_filter,Bool.and_eq_true,Bool.not_eq_true',decide_eq_false_iff_not,decide_eq_true_eq]
 constructor
 ·rintro⟨p,⟨h1,h2,h3⟩,h4⟩
  exact⟨p,h1,h2,h3,h4⟩
 ·rintro⟨p,h1,h2,h3,h4⟩
  exact⟨p,⟨h1,h2,h3⟩,h4⟩
theorem walk_zero (s:Rm) (a:Int) {p:Int×It}:p∈walkT s 0 a↔∃ x∈(rmV s a).2,p=(0,x):=by
 unfold walkT
 simp only[List.mem_flatMap,List.mem_singleton]
theorem walk_succ (s:Rm) (l:Nat) (a:Int) {p:Int×It}:p∈walkT s (l+1) a↔∃ x∈(rmV s a).2,p=(((l+1:Nat):Int),x)∨p∈walkT s l x.2.1:=by
 show p∈(rmV s a).2.flatMap (fun x=>(((l+1:Nat):Int),x)::walkT s l x.2.1)↔_
 simp only[List.mem_flatMap,List.mem_cons]
theorem walk_ups (s:Rm):∀ (l:Nat) (a x:Int),x=a∨x∈upsW (walkT s l a)↔x∈nodesT s l a
 | 0,a,x=>by
  unfold nodesT
  rw[ups_mem,List.mem_singleton]
  constructor
  ·rintro(h | ⟨p,hp,h1,_⟩)
   ·exact h
   ·obtain⟨y,_,rfl⟩:=(walk_zero s a).1 hp
    exact absurd h1 (by simp)
  ·exact .inl
 | l+1,a,x=>by
  unfold nodesT
  rw[List.mem_cons,List.mem_flatMap]
  refine or_congr Iff.rfl ?_
  constructor
  ·intro h
   obtain⟨p,hp,h1,h2⟩:=ups_mem.1 h
   obtain⟨y,hy,e⟩:=(walk_succ s l a).1 hp
   refine⟨y,hy,(walk_ups s l y.2.1 x).1 ?_⟩
   rcases e with rfl | e
   ·exact .inl h2.symm
   ·exact .inr (ups_mem.2 ⟨p,e,h1,h2⟩)
  ·rintro⟨y,hy,h⟩
   rcases(walk_ups s l y.2.1 x).2 h with e | e
   ·exact ups_mem.2 ⟨_,(walk_succ s l a).2 ⟨y,hy,.inl rfl⟩,by show (0:Int)<((l+1:Nat):Int);omega,e.symm⟩
   ·obtain⟨p,hp,h1,h2⟩:=ups_mem.1 e
    exact ups_mem.2 ⟨p,(walk_succ s l a).2 ⟨y,hy,.inr hp⟩,h1,h2⟩
theorem walk_low (s:Rm):∀ (l:Nat) (a x:Int),x∈lowW (walkT s l a)↔x∈refsT s l a
 | 0,a,x=>by
  unfold refsT
  rw[low_mem,List.mem_filter,List.mem_map,decide_eq_true_eq]
  constructor
  ·rintro⟨p,hp,_,h2,h3⟩
   obtain⟨y,hy,rfl⟩:=(walk_zero s a).1 hp
   exact⟨⟨y,hy,h3⟩,by rw[← h3];exact h2⟩
  ·rintro⟨⟨y,hy,h3⟩,h2⟩
   exact⟨_,(walk_zero s a).2 ⟨y,hy,rfl⟩,by simp,by show y.2.1≠0;rw[h3];exact h2,h3⟩
 | l+1,a,x=>by
  unfold refsT
  rw[List.mem_flatMap]
  constructor
  ·intro h
   obtain⟨p,hp,h1,h2,h3⟩:=low_mem.1 h
   obtain⟨y,hy,e⟩:=(walk_succ s l a).1 hp
   refine⟨y,hy,(walk_low s l y.2.1 x).1 ?_⟩
   rcases e with rfl | e
   ·exact absurd (show (0:Int)<((l+1:Nat):Int) by omega) h1
   ·exact low_mem.2 ⟨p,e,h1,h2,h3⟩
  ·rintro⟨y,hy,h⟩
   obtain⟨p,hp,h1,h2,h3⟩:=low_mem.1 ((walk_low s l y.2.1 x).2 h)
   exact low_mem.2 ⟨p,(walk_succ s l a).2 ⟨y,hy,.inr hp⟩,h1,h2,h3⟩
theorem mark_same {K K':List Int} (h:∀ x,x∈K↔x∈K'):markO K=markO K':=by
 unfold markO
 refine List.filter_congr fun k _ => ?_
 rw[decide_eq_decide]
 exact h _
theorem flat_bound {β:Type} {g:It→List β} {N:Nat}:∀ (L:List It),(∀ x∈L,(g x).length≤N)→(L.flatMap g).length≤N*L.length
 | [],_=>by simp
 | x::r,h=>by
  have h1:=h x (by simp)
  have h2:=flat_bound r fun y hy=>h y (by simp[hy])
  rw[List.flatMap_cons,List.length_append,List.length_cons,Nat.mul_succ]
  omega
theorem walk_len (s:Rm):∀ (l:Nat) (a:Int),AtT s l a→(walkT s l a).length≤6 ^ (l+2)
 | 0,a,h=>by
  have h5:=(mayN_of h.may).1.2.2.1
  have:=flat_bound (g:=fun x=>[((0:Int),x)]) (N:=1) (rmV s a).2 (fun x _=>by simp)
  unfold walkT
  have e:6 ^ (0+2)=36:=rfl
  omega
 | l+1,a,h=>by
  have h5:=(mayN_of h.may).1.2.2.1
  have:=flat_bound (g:=fun x=>(((l+1:Nat):Int),x)::walkT s l x.2.1) (N:=6 ^ (l+2)+1) (rmV s a).2 (fun x hx=>by
   have:=walk_len s l x.2.1 (h.down hx)
   rw[List.length_cons]
   omega)
  show ((rmV s a).2.flatMap (fun x=>(((l+1:Nat):Int),x)::walkT s l x.2.1)).length≤_
  have e:6 ^ (l+1+2)=6 ^ (l+2)*6:=Nat.pow_succ 6 (l+2)
  have e2:=Nat.mul_le_mul_left (6 ^ (l+2)+1) h5
  have e3:6≤6 ^ (l+2):=by
   have:=Nat.pow_le_pow_right (show 0<6 by decide) (show 1≤l+2 by omega)
   simpa using this
  omega
theorem tree_wlen {s:Rm} {a:Int} (h:treeO s a=true):(walkT s (rmV s a).1.toNat a).length≤279936:=by
 obtain⟨_,_,_,_,l6,_⟩:=tree_of h
 refine Nat.le_trans (walk_len s _ a (tree_at h)) ?_
 have:=Nat.pow_le_pow_right (show 0<6 by decide) (show (rmV s a).1.toNat+2≤7 by omega)
 have e:6 ^ 7=279936:=by decide
 omega
end Go.Proofs.YtogieepfimpdmaaGreat
/-
 The library's Keys,Sorted and Sort at ints: their bodies are those of the shelf. No condition.
-/
namespace Go.Proofs.YtogieepfimpdmaaGreat
open Go.Shelf Go.RowKit Go.Lib Go.Sort
def keysA_ren:Go.Shelf.Ren:=⟨fun | 7=>87 | 10=>107 | n=>n,fun | 23=>121 | 26=>3 | 3=>119 | 28=>153 | 0=>0 | 27=>152 | 33=>106 | 4=>4 | n=>n,fun | n=>n⟩
theorem keysA:Go.Proofs.SlLaysZI.n7 Tryz.prog keysA_ren:={
 mixed:=by kernel_rfl,
 f7:=⟨Tryz.f87.name,by decide,Tryz.func87.trans (congrArg some (by kernel_rfl))⟩,
 f10:=⟨Tryz.f107.name,by decide,Tryz.func107.trans (congrArg some (by kernel_rfl))⟩,
 t0:=Tryz.underlying0,
 a0:=Tryz.isAgg0,
 z0:=Tryz.sizeOf0,
 v0:=Tryz.zeroValue0,
 t4:=Tryz.underlying4,
 a4:=Tryz.isAgg4,
 z4:=Tryz.sizeOf4,
 v4:=Tryz.zeroValue4,
 t23:=Tryz.underlying121,
 a23:=Tryz.isAgg121,
 z23:=Tryz.sizeOf121,
 v23:=Tryz.zeroValue121,
 t26:=Tryz.underlying3,
 a26:=Tryz.isAgg3,
 z26:=Tryz.sizeOf3,
 v26:=Tryz.zeroValue3,
 t27:=Tryz.underlying152,
 a27:=Tryz.isAgg152,
 z27:=Tryz.sizeOf152,
 v27:=Tryz.zeroValue152,
 t28:=Tryz.underlying153,
 a28:=Tryz.isAgg153,
 z28:=Tryz.sizeOf153,
 v28:=Tryz.zeroValue153,
 t33:=Tryz.underlying106,
 a33:=Tryz.isAgg106,
 z33:=Tryz.sizeOf106,
 v33:=Tryz.zeroValue106 }
def sortedA_ren:Go.Shelf.Ren:=⟨fun | 6=>86 | 8=>105 | 9=>106 | 11=>122 | 13=>124 | 12=>123 | 23=>139 | 24=>140 | 14=>130 | 15=>131 | 16=>132 | 17=>133 | 18=>134 | 19=>135 | 20=>136 | 21=>137 | 22=>138 | 25=>141 | 26=>142 | 27=>143 | 28=>144 | 29=>145 | 30=>146 | 31=>147 | n=>n,fun | 26=>3 | 28=>153 | 24=>52 | 0=>0 | 3=>3 | 37=>170 | 48=>32 | 50=>207 | 4=>4 | 40=>199 | 39=>198 | 45=>72 | 5=>5 | 9=>9 | 51=>208 | 55=>212 | 57=>214 | 58=>215 | 33=>106 | n=>n,fun | n=>n⟩
theorem sortedA:Go.Proofs.SlLaysZI.n6 Tryz.prog sortedA_ren:={
 mixed:=by kernel_rfl,
 f6:=⟨Tryz.f86.name,by decide,Tryz.func86.trans (congrArg some (by kernel_rfl))⟩,
 f8:=⟨Tryz.f105.name,by decide,Tryz.func105.trans (congrArg some (by kernel_rfl))⟩,
 f11:=⟨Tryz.f122.name,by decide,Tryz.func122.trans (congrArg some (by kernel_rfl))⟩,
 t0:=Tryz.underlying0,
 a0:=Tryz.isAgg0,
 z0:=Tryz.sizeOf0,
 v0:=Tryz.zeroValue0,
 t24:=Tryz.underlying52,
 a24:=Tryz.isAgg52,
 z24:=Tryz.sizeOf52,
 v24:=Tryz.zeroValue52,
 t26:=Tryz.underlying3,
 a26:=Tryz.isAgg3,
 z26:=Tryz.sizeOf3,
 v26:=Tryz.zeroValue3,
 t28:=Tryz.underlying153,
 a28:=Tryz.isAgg153,
 z28:=Tryz.sizeOf153,
 v28:=Tryz.zeroValue153,
 i26:=by kernel_rfl }
def sortA_ren:Go.Shelf.Ren:=⟨fun | 5=>106 | 8=>124 | 7=>123 | 19=>139 | 20=>140 | 10=>130 | 11=>131 | 12=>132 | 13=>133 | 14=>134 | 15=>135 | 16=>136 | 17=>137 | 18=>138 | 30=>141 | 31=>142 | 32=>143 | 33=>144 | 34=>145 | 35=>146 | 40=>147 | n=>n,fun | 23=>52 | 25=>3 | 3=>3 | 32=>170 | 22=>52 | 0=>0 | 44=>32 | 46=>207 | 4=>4 | 36=>199 | 35=>198 | 41=>72 | 5=>5 | 9=>9 | 53=>208 | 57=>212 | 63=>214 | 64=>215 | n=>n,fun | n=>n⟩
theorem sortA:Go.Proofs.SlLaysM.n5 Tryz.prog sortA_ren:={
 mixed:=by kernel_rfl,
 f5:=⟨Tryz.f106.name,by decide,Tryz.func106.trans (congrArg some (by kernel_rfl))⟩,
 f7:=⟨Tryz.f123.name,by decide,Tryz.func123.trans (congrArg some (by kernel_rfl))⟩,
 f8:=Tryz.func124.trans (congrArg some (by kernel_rfl)),
 f10:=⟨Tryz.f130.name,by decide,Tryz.func130.trans (congrArg some (by kernel_rfl))⟩,
 f11:=⟨Tryz.f131.name,by decide,Tryz.func131.trans (congrArg some (by kernel_rfl))⟩,
 f12:=⟨Tryz.f132.name,by decide,Tryz.func132.trans (congrArg some (by kernel_rfl))⟩,
 f13:=⟨Tryz.f133.name,by decide,Tryz.func133.trans (congrArg some (by kernel_rfl))⟩,
 f14:=⟨Tryz.f134.name,by decide,Tryz.func134.trans (congrArg some (by kernel_rfl))⟩,
 f15:=⟨Tryz.f135.name,by decide,Tryz.func135.trans (congrArg some (by kernel_rfl))⟩,
 f16:=⟨Tryz.f136.name,by decide,Tryz.func136.trans (congrArg some (by kernel_rfl))⟩,
 f17:=⟨Tryz.f137.name,by decide,Tryz.func137.trans (congrArg some (by kernel_rfl))⟩,
 f18:=⟨Tryz.f138.name,by decide,Tryz.func138.trans (congrArg some (by kernel_rfl))⟩,
 f19:=Tryz.func139.trans (congrArg some (by kernel_rfl)),
 f20:=Tryz.func140.trans (congrArg some (by kernel_rfl)),
 f30:=⟨Tryz.f141.name,by decide,Tryz.func141.trans (congrArg some (by kernel_rfl))⟩,
 f31:=Tryz.func142.trans (congrArg some (by kernel_rfl)),
 f32:=Tryz.func143.trans (congrArg some (by kernel_rfl)),
 f33:=⟨Tryz.f144.name,by decide,Tryz.func144.trans (congrArg some (by kernel_rfl))⟩,
 f34:=⟨Tryz.f145.name,by decide,Tryz.func145.trans (congrArg some (by kernel_rfl))⟩,
 f35:=⟨Tryz.f146.name,by decide,Tryz.func146.trans (congrArg some (by kernel_rfl))⟩,
 f40:=⟨Tryz.f147.name,by decide,Tryz.func147.trans (congrArg some (by kernel_rfl))⟩,
 t0:=Tryz.underlying0,
 a0:=Tryz.isAgg0,
 z0:=Tryz.sizeOf0,
 v0:=Tryz.zeroValue0,
 t3:=Tryz.underlying3,
 a3:=Tryz.isAgg3,
 z3:=Tryz.sizeOf3,
 v3:=Tryz.zeroValue3,
 t4:=Tryz.underlying4,
 a4:=Tryz.isAgg4,
 z4:=Tryz.sizeOf4,
 v4:=Tryz.zeroValue4,
 t5:=Tryz.underlying5,
 a5:=Tryz.isAgg5,
 z5:=Tryz.sizeOf5,
 v5:=Tryz.zeroValue5,
 t9:=Tryz.underlying9,
 a9:=Tryz.isAgg9,
 z9:=Tryz.sizeOf9,
 v9:=Tryz.zeroValue9,
 t22:=Tryz.underlying52,
 a22:=Tryz.isAgg52,
 z22:=Tryz.sizeOf52,
 v22:=Tryz.zeroValue52,
 t23:=Tryz.underlying52,
 a23:=Tryz.isAgg52,
 z23:=Tryz.sizeOf52,
 v23:=Tryz.zeroValue52,
 t25:=Tryz.underlying3,
 a25:=Tryz.isAgg3,
 z25:=Tryz.sizeOf3,
 v25:=Tryz.zeroValue3,
 t32:=Tryz.underlying170,
 a32:=Tryz.isAgg170,
 z32:=Tryz.sizeOf170,
 v32:=Tryz.zeroValue170,
 t35:=Tryz.underlying198,
 a35:=Tryz.isAgg198,
 z35:=Tryz.sizeOf198,
 v35:=Tryz.zeroValue198,
 t36:=Tryz.underlying199,
 a36:=Tryz.isAgg199,
 z36:=Tryz.sizeOf199,
 v36:=Tryz.zeroValue199,
 t41:=Tryz.underlying72,
 a41:=Tryz.isAgg72,
 z41:=Tryz.sizeOf72,
 v41:=Tryz.zeroValue72,
 t44:=Tryz.underlying32,
 a44:=Tryz.isAgg32,
 z44:=Tryz.sizeOf32,
 v44:=Tryz.zeroValue32,
 t46:=Tryz.underlying207,
 a46:=Tryz.isAgg207,
 z46:=Tryz.sizeOf207,
 v46:=Tryz.zeroValue207,
 t53:=Tryz.underlying208,
 a53:=Tryz.isAgg208,
 z53:=Tryz.sizeOf208,
 v53:=Tryz.zeroValue208,
 t57:=Tryz.underlying212,
 a57:=Tryz.isAgg212,
 z57:=Tryz.sizeOf212,
 v57:=Tryz.zeroValue212,
 t63:=Tryz.underlying214,
 a63:=Tryz.isAgg214,
 z63:=Tryz.sizeOf214,
 v63:=Tryz.zeroValue214,
 t64:=Tryz.underlying215,
 a64:=Tryz.isAgg215,
 z64:=Tryz.sizeOf215,
 v64:=Tryz.zeroValue215 }
end Go.Proofs.YtogieepfimpdmaaGreat
/-
 Package walk: the places of a set of blocks,in order: the library's Sorted at a map's keys. Conditions: those that each lemma states.
-/
namespace Go.Proofs.YtogieepfimpdmaaGreat
open Go.RowKit Go.Maps Go.Sort Go.Shelf
def MapOf (W:World) (b:Nat) (K:List Int):Prop:=∃ (n:Nat) (D:DataW Unit),W.ownsMap Tryz.prog 3 unitElem b n D∧n≤K.length∧∀ x,has D (.int .i64 x)=true↔x∈K
def markI (K:List Int):List Int:=(markO K).map fun k:Nat=>(k:Int)
theorem markI_up (K:List Int):(markI K).Pairwise (· < ·):=by
 unfold markI
 exact List.Pairwise.map _ (fun a b h=>by omega) (mark_up K)
theorem markI_in {K:List Int} (hK:∀ x∈K,0≤x∧x<256) {x:Int}:x∈markI K↔x∈K:=by
 unfold markI
 rw[List.mem_map]
 constructor
 ·rintro⟨k,hk,rfl⟩
  exact(mark_in.1 hk).2
 ·intro h
  obtain⟨h0,h1⟩:=hK x h
  have e:((x.toNat:Nat):Int)=x:=by omega
  exact⟨x.toNat,mark_in.2 ⟨by omega,by rw[e];exact h⟩,e⟩
theorem mapOf_kept {W W':World} {b:Nat} {K:List Int} {row:Option Nat} (h:MapOf W b K) (hg:W.grownBy W' row) (hne:some b≠row):MapOf W' b K:=by
 obtain⟨n,D,h1,h2,h3⟩:=h
 exact⟨n,D,h1.kept hg hne,h2,h3⟩
theorem mapOf_lt {W:World} {b:Nat} {K:List Int} (h:MapOf W b K):b<W.heap.size:=by
 obtain⟨n,D,h1,_⟩:=h
 exact h1.lt
theorem mapOf_new (W:World):MapOf (W.alloc (.map #[] 0)) W.heap.size []:=⟨0,.map [],World.ownsMap_made W Tryz.prog 3 unitElem,by simp,fun x=>by simp[has]⟩
theorem lit_key (x:Int):WideAt.IsKeyLit (.int .i64 x):=trivial
theorem mapOf_put {W:World} {b:Nat} {K:List Int} (h:MapOf W b K) {x:Int} (hx:(Lit.int .i64 x).wf=true) (hl:K.length<1000000) :
  ∃ W',Sem.run Tryz.prog (Instr.mapUpdate 121 (.map (some b)) (.int .i64 x) (.agg #[])) W=.ok () W'∧MapOf W' b (K++[x])∧W.grownBy W' (some b):=by
 obtain⟨n,D,h1,h2,h3⟩:=h
 obtain⟨W',hr,ho,hg⟩:=h1.update (int_keyed Tryz.underlying3) Tryz.underlying121 (by unfold maxLen;omega) (keyOf_int_mk Tryz.underlying3 hx) (unitElem_mk (H:=Unit))
 refine⟨W',hr,⟨n+1,_,ho,by rw[List.length_append,List.length_singleton];omega,fun y => ?_⟩,hg⟩
 rw[List.mem_append,List.mem_singleton]
 by_cases e:y=x
 ·subst e
  simp[has_put_same h1.isMap (lit_key y)]
 ·rw[has_put_other (fun e'=>e (by simpa using e')),h3 y]
  simp[e]
theorem sortsA (m:Nat):AnyZI.SortsIn Tryz.prog sortedA_ren Fence.wide m :=
 ⟨fun blk off cap ss W hH hblk hsz=>callsIn_wide.2 (AnyM.slices_Sort_int sortA blk off cap ss W hH hblk hsz),fun p cap W=>callsIn_wide.2 (AnyM.slices_Sort_int_none sortA p cap W)⟩
set_option maxRecDepth 100000 in
set_option maxHeartbeats 4000000 in
theorem rising_owns (b nn:Nat) (D0:DataW Unit) (w:World) (hown:w.ownsMap Tryz.prog 3 unitElem b nn D0) (hmax:Maps.size D0≤1000000) :
  Calls Tryz.prog 61 #[.map (some b)] w fun e w'=>∃ (v:Value) (ss:List Int),e=.returned v∧ss.Perm (intKeys D0)∧w'.ownsRow w.heap.size 3 1 v ss.length ((ss.mergeSort (fun x y=>decide (x≤y))).map encZ)∧Below w.heap.size w w':=by
 refine(callsIn_wide (n:=6)).1 ?_
 have hbl:=hown.lt
 have hseq:SeqGives Fence.wide 2 Tryz.prog 107 #[.pointer (some ⟨w.heap.size,0,none⟩)] encZ (fun ss=>ss.Perm (intKeys D0)) (Maps.size D0) (w.alloc (.cells #[.map (some b)] 121)) :=
  AnyZI.keys_gives (ρ:=keysA_ren) { keysA with } Fence.wide _ trivial rfl (by omega) w.heap.size b nn D0 _ (by simp) (by simp) (hown.alloc _)
 have cK:∀ mb W,CallsIn Fence.wide 5 Tryz.prog 87 #[.map mb] W fun e w'=>e=.returned (.func (.func 107) #[] #[.pointer (some ⟨W.heap.size,0,none⟩)])∧w'=W.alloc (.cells #[.map mb] 121):=fun mb W=>AnyZI.keys_in keysA Fence.wide 5 trivial rfl mb W
 have cS:=AnyZI.sorted_in sortedA Fence.wide 5 trivial trivial trivial trivial rfl (by omega) (sortsA _) (enters_of Tryz.func106 (by kernel_rfl) rfl) 107 #[.pointer (some ⟨w.heap.size,0,none⟩)] trivial (enters_of Tryz.func107 (by kernel_rfl) rfl) _ _ (by unfold maxLen;omega) (by omega) _ hseq
 change CallsIn _ _ Tryz.prog 86 _ _ _ at cS
 replace cS:=Lib.hid cS
 replace cK:=Lib.hid cK
 clear hseq hown
 refine callsIn_of_wp Tryz.func61 rfl trivial ?_ rfl
 simp only[Tryz.ntmps61,List.size_toArray,List.length_cons,List.length_nil,Nat.reduceAdd,Nat.reduceSub,Array.replicate_succ,Array.replicate_zero,List.push_toArray,List.append_toArray,List.nil_append,List.cons_append]
 gi_wp2_with fail
 refine⟨trivial,?_⟩
 gi_at_call 87
 refine(cK.out _ _).mono ?_
 rintro e w1 ⟨rfl,rfl⟩
 gi_wp2_with fail
 refine⟨trivial,?_⟩
 gi_at_call 86
 refine cS.out.mono ?_
 rintro e w2 ⟨v,ss,rfl,hS,hrow,_,hb⟩
 replace hrow:=Lib.hid hrow
 replace hb:=Lib.hid hb
 gi_wp2_with fail
 go_ret
 exact⟨v,ss,rfl,hS,ownsRow_base_a hrow.out (by simp),((Below.refl _ w).alloc (Nat.le_refl _) _).trans (hb.out.mono (by simp))⟩
theorem rising_any (b:Nat) (K:List Int) (hK:∀ x∈K,0≤x∧x<256) (hlen:K.length≤1000000) (w:World) (h:MapOf w b K) :
  Calls Tryz.prog 61 #[.map (some b)] w fun e w'=>∃ A c,e=.returned (.slice A (markI K).length c)∧rSl 1 (rK .i64) (New w.heap.size w') w' [.slice A (markI K).length c] (markI K)∧Below w.heap.size w w':=by
 obtain⟨n,D,hown,hn,hD⟩:=h
 have hsz:=hown.size_le
 refine(rising_owns b n D w hown (by omega)).mono ?_
 rintro e w' ⟨v,ss,rfl,hp,hrow,hb⟩
 have hnd:(markI K).Nodup:=(markI_up K).imp fun h=>by omega
 have hpm:(markI K).Perm (intKeys D):=CollectedI.perm (left:=fun _=>false) ⟨hnd,fun x=>by rw[markI_in hK,hD x];simp⟩ hown (int_keyed Tryz.underlying3) Tryz.underlying3 (fun _=>rfl)
 have hss:ss.mergeSort (fun x y=>decide (x≤y))=markI K:=by
  rw[show (fun x y:Int=>decide (x≤y))=leI from rfl,mergeSort_of_perm_i (hp.trans hpm.symm)]
  exact List.mergeSort_of_pairwise ((markI_up K).imp fun h=>by simp only[leI,decide_eq_true_eq];omega)
 have hlen:ss.length=(markI K).length:=(hp.trans hpm.symm).length_eq
 rw[hss,hlen] at hrow
 have hr:rSl 1 (rK .i64) (New w.heap.size w') w' [v] (markI K):=own_sl hrow rfl fun i x hi=>by
  have hx:=hK x ((markI_in hK).1 (List.mem_of_getElem? hi))
  refine⟨[.int .i64 x],rfl,fun j u hj => ?_,rfl,?_,?_⟩
  ·have hj0:j=0:=by
    have:=(List.getElem?_eq_some_iff.1 hj).1
    simp at this
    omega
   subst hj0
   cases hj
   rw[Nat.mul_one,Nat.add_zero,List.getElem?_map,hi]
   rfl
  ·simp[IntKind.min,IntKind.signed,IntKind.bits]
   omega
  ·simp[IntKind.max,IntKind.signed,IntKind.bits]
   omega
 obtain⟨A,c,e,_⟩:=id hr
 simp only[List.cons.injEq,and_true] at e
 subst e
 exact⟨A,c,rfl,hr,hb⟩
end Go.Proofs.YtogieepfimpdmaaGreat
/-
 Package walk: Nodes. Conditions: those that each lemma states.
-/
namespace Go.Proofs.YtogieepfimpdmaaGreat
open Go.RowKit Go.Shelf Go.Maps
attribute [local go_sem] Oper.semAt_some
noncomputable def ndsV (s:Rm) (a:Int):List Int:=if ckE s a=0 then markI (nodesO s a) else []
noncomputable def rfsV (s:Rm) (a:Int):List Int:=if ckE s a=0 then markI (refsO s a) else []
def NodesR (s:Rm) (a:Int) (w:World):Ending→World→Prop:=fun e w'=>∃ u c v d,e=.returned (.tuple #[.slice u (ndsV s a).length c,.slice v (rfsV s a).length d,.int .i64 (ckE s a)]) ∧
 rSl 1 (rK .i64) (New w.heap.size w') w' [.slice u (ndsV s a).length c] (ndsV s a)∧rSl 1 (rK .i64) (New w.heap.size w') w' [.slice v (rfsV s a).length d] (rfsV s a)∧Below w.heap.size w w'
def NdI (n0:World) (b1 b2 B1 B2 lo':Nat) (a:Int) (r:List Wk×Option Nat) (V:World):Prop :=
 (Below n0.heap.size n0 V∧lo'≤V.heap.size)∧(MapOf V b1 ([a]++upsW (r.1.map keyW))∧MapOf V b2 (lowW (r.1.map keyW)))∧(Boxed V B1 121 (.map (some b1))∧Boxed V B2 121 (.map (some b2)))∧r.2=none
theorem ndI_own {n0:World} {b1 b2 B1 B2 lo':Nat} {a:Int} {B:Nat} (hB:n0.heap.size≤B) (h1:b1<B) (h2:b2<B):OwnFrom B (NdI n0 b1 b2 B1 B2 lo' a):=fun r V V' row hs hg hr=>by
 obtain⟨⟨h3,h4⟩,⟨h5,h6⟩,⟨h7,h8⟩,h9⟩:=hs
 have hn:=fun r e=>(hr r e).2
 exact⟨⟨ownFrom_below (Nat.le_refl _) hB () V V' row h3 hg hr,Nat.le_trans h4 hg.size⟩,⟨mapOf_kept h5 hg fun e=>by have:=(hr _ e.symm).1;omega,mapOf_kept h6 hg fun e=>by have:=(hr _ e.symm).1;omega⟩,⟨block_kept h7 hg hn,block_kept h8 hg hn⟩,h9⟩
theorem wf64 {x:Int} (h : -9223372036854775808≤x∧x≤9223372036854775807):(Lit.int .i64 x).wf=true:=by
 simp[Lit.wf,IntKind.min,IntKind.max,IntKind.signed,IntKind.bits]
 omega
theorem sets_end {s:Rm} {a:Int} (h:treeO s a=true) {M:List (Int×It)} (hM:M=walkT s (rmV s a).1.toNat a) :
  (markI ([a]++upsW M)=markI (nodesO s a)∧∀ x∈[a]++upsW M,0≤x∧x<256)∧(markI (lowW M)=markI (refsO s a)∧∀ x∈lowW M,0≤x∧x<256):=by
 have hb:=tree_blk h
 subst hM
 have h1:∀ x,x∈[a]++upsW (walkT s (rmV s a).1.toNat a)↔x∈nodesO s a:=fun x=>by
  rw[List.mem_append,List.mem_singleton]
  exact walk_ups s _ a x
 have h2:∀ x,x∈lowW (walkT s (rmV s a).1.toNat a)↔x∈refsO s a:=fun x=>walk_low s _ a x
 refine⟨⟨by unfold markI;rw[mark_same h1],fun x hx => ?_⟩,by unfold markI;rw[mark_same h2],fun x hx => ?_⟩
 ·obtain⟨h3,h4,_⟩:=node_place (hb.node x ((h1 x).1 hx))
  omega
 ·obtain⟨_,_,h3,h4⟩:=hb.held x ((h2 x).1 hx)
  omega
def onlyN (X:Act→World→Prop):Exit→Act→World→Prop
 | .normal,a,w=>X a w
 | _,_,_=>False
theorem wpIn_onlyN {F:Fence} {n:Nat} {P:Program} {c:Code} {K:Act→World→Prop} {Q:Exit→Act→World→Prop} {a:Act} {w:World} (h:c.wpIn F n P (onlyN K) a w):c.wpIn F n P (Exit.then K Q) a w :=
 wpIn_mono h fun e a w h=>by
  cases e <;> first
   | exact h
   | exact h.elim
set_option maxRecDepth 100000 in
set_option maxHeartbeats 8000000 in
theorem walkNodes_any (v:Value) (s:Rm) (a:Int) (w:World) (h:Sto (Old w) w v s) :
  Calls Tryz.prog 35 #[v,.int .i64 a] w (NodesR s a w):=by
 obtain⟨A,ca,B,cb,N,cn,L,cl,rfl,_⟩:=id h.open
 obtain⟨v0,hv0⟩:∃ q,(Value.slice A s.1.1.length ca)=q:=⟨_,rfl⟩
 obtain⟨v1,hv1⟩:∃ q,(Value.slice B s.1.2.length cb)=q:=⟨_,rfl⟩
 obtain⟨v2,hv2⟩:∃ q,(Value.slice N s.2.1.length cn)=q:=⟨_,rfl⟩
 obtain⟨v3,hv3⟩:∃ q,(Value.slice L s.2.2.length cl)=q:=⟨_,rfl⟩
 rw[hv0,hv1,hv2,hv3] at h ⊢
 replace hv0:=Lib.hid hv0
 replace hv1:=Lib.hid hv1
 replace hv2:=Lib.hid hv2
 replace hv3:=Lib.hid hv3
 have hmm:=@run_makeMap Tryz.prog
 obtain⟨w1,hw1,k1,hs1,hB1⟩:=box_4 w v0 v1 v2 v3 29
 have K1:Hid (BoxW w.heap.size #[v0,v1,v2,v3] 29 w1):=Lib.hid k1
 have B1:Hid (Below w.heap.size w w1):=Lib.hid hB1
 have hck:=Lib.hid (findCheck_any (.agg #[v0,v1,v2,v3]) s a w1 (h.below B1.out))
 have hcb:=Lib.hid (fun hh:ckE s a≠0=>(⟨if_neg hh,if_neg hh⟩:ndsV s a=[]∧rfsV s a=[]))
 obtain⟨E0,hE0⟩:∃ q,ckE s a=q:=⟨_,rfl⟩
 obtain⟨H0,hH0⟩:∃ q,ckH s a=q:=⟨_,rfl⟩
 rw[hE0,hH0] at hck
 obtain⟨s0,s1,s2,s3,_⟩:=four_cells K1.out
 replace h:=Lib.hid h
 replace hE0:=Lib.hid hE0
 replace hs1:=Lib.hid hs1
 clear k1 hB1
 refine callsIn_wide.1 (callsIn_of_wp_marks (n:=5) Tryz.func35 rfl trivial ?_ rfl)
 simp only[Tryz.ntmps35,List.size_toArray,List.length_cons,List.length_nil,Nat.reduceAdd,Nat.reduceSub,Array.replicate_succ,Array.replicate_zero,List.push_toArray,List.append_toArray,List.nil_append,List.cons_append]
 gi_wp2_with fail
 refine⟨trivial,?_⟩
 gi_at_call 14
 refine(callsIn_wide.2 hck.out).mono ?_
 rintro e w4 ⟨rfl,hB4⟩
 have B4:=Lib.hid (B1.out.trans (hB4.mono B1.out.size))
 replace K1:Hid (BoxW w.heap.size #[v0,v1,v2,v3] 29 w4):=Lib.hid (lasts_boxW _ _ _ _ _ K1.out hB4)
 have l14:=Lib.hid (show w.heap.size<w4.heap.size by have:=hs1.out;have:=hB4.size;omega)
 clear hw1 s0 s1 s2 s3 hck hB4
 by_cases he:E0=0
 case neg =>
  have e1:(E0 != 0)=true:=by simpa using he
  have hne:Hid (ckE s a≠0):=Lib.hid (by rw[hE0.out];exact he)
  obtain⟨c1,c2⟩:=hcb.out hne.out
  replace c1:=Lib.hid c1
  replace c2:=Lib.hid c2
  clear he hcb
  gi_wp2_with fail
  refine⟨_,results_tmp3 rfl _ _ _,none,0,none,0,?_,?_,?_,B4.out⟩
  ·rw[c1.out,c2.out,hE0.out]
   rfl
  ·rw[c1.out]
   exact⟨none,0,rfl,by simp,by omega,fun i x h=>by simp at h⟩
  ·rw[c2.out]
   exact⟨none,0,rfl,by simp,by omega,fun i x h=>by simp at h⟩
 subst he
 obtain⟨htree,_,_⟩:=ck_of hE0.out
 obtain⟨s0,s1,s2,s3,_⟩:=four_cells K1.out
 obtain⟨ha8,ha256,_⟩:=node_place (tree_of htree).1
 have hwfa:(Lit.int .i64 a).wf=true:=by
  simp[Lit.wf,IntKind.min,IntKind.max,IntKind.signed,IntKind.bits]
  omega
 obtain⟨wA,hrA,hMA,hgA⟩:=mapOf_put (mapOf_new w4) hwfa (by simp)
 obtain⟨w5,hw5,hM1,hM2,K5,K6,hs5,hB5⟩:∃ w5,((wA.alloc (.map #[] 0)).alloc (.cells #[.map (some w4.heap.size)] 121)).alloc (.cells #[.map (some wA.heap.size)] 121)=w5∧MapOf w5 w4.heap.size [a]∧MapOf w5 wA.heap.size [] ∧
   Boxed w5 (wA.heap.size+1) 121 (.map (some w4.heap.size))∧Boxed w5 (wA.heap.size+1+1) 121 (.map (some wA.heap.size))∧w5.heap.size=wA.heap.size+3∧Below w4.heap.size w4 w5:=by
  have hlt:=mapOf_lt hMA
  have b1:Below w4.heap.size w4 wA:=((Below.refl _ w4).alloc (Nat.le_refl _) _).grown hgA (by simp) (fun k e=>by cases e;exact Nat.le_refl _)
  have g1:=World.grownBy_alloc wA (.map #[] 0) none
  have g2:=World.grownBy_alloc (wA.alloc (.map #[] 0)) (.cells #[.map (some w4.heap.size)] 121) none
  have g3:=World.grownBy_alloc ((wA.alloc (.map #[] 0)).alloc (.cells #[.map (some w4.heap.size)] 121)) (.cells #[.map (some wA.heap.size)] 121) none
  have n1:=Boxed.new (wA.alloc (.map #[] 0)) 121 (.map (some w4.heap.size))
  have n2:=Boxed.new ((wA.alloc (.map #[] 0)).alloc (.cells #[.map (some w4.heap.size)] 121)) 121 (.map (some wA.heap.size))
  rw[World.size_alloc] at n1
  rw[World.size_alloc,World.size_alloc] at n2
  exact⟨_,rfl,mapOf_kept (mapOf_kept (mapOf_kept hMA g1 (by simp)) g2 (by simp)) g3 (by simp),mapOf_kept (mapOf_kept (mapOf_new wA) g2 (by simp)) g3 (by simp),n1.alloc _,n2,by simp,((b1.alloc b1.size _).alloc (by simp;have:=b1.size;omega) _).alloc (by simp;have:=b1.size;omega) _⟩
 have lA:=Lib.hid (show w4.heap.size<wA.heap.size from mapOf_lt hMA)
 have s0':=(hB5.cell (p:=⟨w.heap.size,0,none⟩) l14.out).trans s0
 have s1':=(hB5.cell (p:=⟨w.heap.size,1,none⟩) l14.out).trans s1
 have s2':=(hB5.cell (p:=⟨w.heap.size,2,none⟩) l14.out).trans s2
 have s3':=(hB5.cell (p:=⟨w.heap.size,3,none⟩) l14.out).trans s3
 have hIt:=Lib.hid (items_any v0 v1 v2 v3 a w5)
 obtain⟨w6,hw6,g6,b6,hs6,hB6⟩:∃ w6,(w5.alloc (.cells #[v0,v1,v2,v3] 29)).alloc (.cells #[.int .i64 a] 3)=w6∧Box4 w5.heap.size v0 v1 v2 v3 w6∧BoxF (w5.heap.size+1) (.int .i64 a) w6∧w6.heap.size=w5.heap.size+2∧Below w5.heap.size w5 w6:=by
  obtain⟨wa,ha,ga,sa,ba⟩:=box_4 w5 v0 v1 v2 v3 29
  obtain⟨wb,hb,gb,sb,bb⟩:=box_one wa (.int .i64 a) 3
  obtain⟨k0,k1,k2,k3,_⟩:=four_cells ga
  exact⟨wb,by rw[ha,hb],lasts_box4 _ _ _ _ _ _ _ ⟨k0,k1,k2,k3,by omega⟩ bb,⟨by rw[← sa];exact gb,by omega⟩,by omega,ba.trans (bb.mono ba.size)⟩
 rw[hw6] at hIt
 replace hMA:=Lib.hid hMA
 replace hgA:=Lib.hid hgA
 replace hM1:=Lib.hid hM1
 replace hM2:=Lib.hid hM2
 replace K5:=Lib.hid K5
 replace K6:=Lib.hid K6
 replace hs5:=Lib.hid hs5
 replace hs6:=Lib.hid hs6
 clear hwfa s0 s1 s2 s3 hw6
 gi_wp2_with fail
 refine⟨trivial,?_⟩
 gi_at_call 60
 refine(callsIn_wide.2 hIt.out).mono ?_
 rintro e w6 ⟨rfl,rfl⟩
 clear hw5 hrA hmm
 gi_wp2_with fail
 have lz:Hid (w.heap.size<w4.heap.size∧w4.heap.size<wA.heap.size∧w5.heap.size=wA.heap.size+3∧w6.heap.size=w5.heap.size+2):=Lib.hid ⟨l14.out,lA.out,hs5.out,hs6.out⟩
 have B6:Hid (Below w.heap.size w w6):=Lib.hid (B4.out.trans ((hB5.trans (hB6.mono hB5.size)).mono (Nat.le_of_lt l14.out)))
 have hg56:=below_grown hB6
 have hI0:NdI w w4.heap.size wA.heap.size (wA.heap.size+1) (wA.heap.size+1+1) w6.heap.size a ([],none) w6:=⟨⟨B6.out,Nat.le_refl _⟩,⟨mapOf_kept hM1.out hg56 (by simp),mapOf_kept hM2.out hg56 (by simp)⟩,⟨Boxed.kept K5.out hg56 (by simp),Boxed.kept K6.out hg56 (by simp)⟩,rfl⟩
 have S6:Sto (fun p=>p.block<w.heap.size) w6 (.agg #[v0,v1,v2,v3]) s:=h.out.map fun p v hp hc=>low_kept (fun k hk=>B6.out.block k hk) hp hc
 have hit6:=items_told s (rmV s a).1.toNat a (tree_at htree) w.heap.size w5.heap.size (w5.heap.size+1) v0 v1 v2 v3 w6 (by have:=lz.out;omega) g6 b6 S6
 have hend6:=Lib.hid (fun(M:List (Int×It)) hM=>sets_end htree (M:=M) hM)
 have hlen6:=tree_wlen htree
 obtain⟨LL,hLL⟩:∃ q,walkT s (rmV s a).1.toNat a=q:=⟨_,rfl⟩
 rw[hLL] at hit6 hend6 hlen6
 have hpl:Hid (∀ M:List (Int×It),M <+: LL→(upsW M).length≤279936∧(lowW M).length≤279936):=Lib.hid fun M hM=>by
  have h1:=hM.length_le
  have h2:=ups_len M
  omega
 replace hlen6:=Lib.hid hlen6
 replace hLL:=Lib.hid hLL
 replace htree:=Lib.hid htree
 clear s0' s1' s2' s3' g6 b6 S6 hIt hB5 hB6 hg56
 refine range_told (m:=5) (gf:=85) (lb:=#[.pointer (some ⟨w5.heap.size,0,none⟩),.pointer (some ⟨w5.heap.size+1,0,none⟩)]) rfl (enters_of Tryz.func85 (by kernel_rfl) rfl) hit6 (fun _=>rfl) (fun k=>k=w4.heap.size∨k=wA.heap.size) (fun k e=>by have:=lz.out;omega) none (fun k hk=>by
   rcases hk with h | rfl | rfl
   ·exact⟨by have:=lz.out;omega,by have:=lz.out;omega,by simp⟩
   ·exact⟨by have:=lz.out;omega,by have:=lz.out;omega,by simp⟩
   ·exact⟨by have:=lz.out;omega,by have:=lz.out;omega,by simp⟩)
  (NdI w w4.heap.size wA.heap.size (wA.heap.size+1) (wA.heap.size+1+1) w6.heap.size a) (fun _ _ _=>False)
  (ndI_own (by have:=lz.out;omega) (by have:=lz.out;omega) (by have:=lz.out;omega)) (fun c _ _ _ _ hs _ _=>hs)
  (fun r V hr k e=>by rw[hr.2.2.2] at e;cases e) hI0
  (fun y a' V=>∃ (g:Nat) (d:Value),a'={ tmps:=#[.agg #[v0,v1,v2,v3],.int .i64 a,.pointer (some ⟨w.heap.size,0,none⟩),undef,.slice none 0 0,.slice none 0 0,.int .i64 0,.int .i64 H0,.int .i64 0,.pointer (some ⟨wA.heap.size+1,0,none⟩),.pointer (some ⟨wA.heap.size+1+1,0,none⟩),.int .i64 y.1,.pointer (some ⟨g,0,none⟩),
    .tuple #[.int .i64 H0,.int .i64 0],.agg #[v0,v1,v2,v3],.int .i64 a,.tuple #[.int .i64 H0,.int .i64 0],.int .i64 H0,.int .i64 0,.int .i64 0,.bool false,undef,.map (some w4.heap.size),.int .i64 a,.agg #[],.map (some w4.heap.size),.map (some wA.heap.size),
    .agg #[v0,v1,v2,v3],.int .i64 a,.func (.func 85) #[] #[.pointer (some ⟨w5.heap.size,0,none⟩),.pointer (some ⟨w5.heap.size+1,0,none⟩)],.int .i64 y.1,.agg #[.int .u8 (y.2.1.1.1.toNat:Int),.int .u32 y.2.1.1.2.1,.int .u32 y.2.1.1.2.2,.int .i64 y.2.1.2.1,d],undef,undef,undef,undef,undef,undef,undef,undef,undef,undef,undef,undef,undef,undef,undef,undef,undef],defers:=[] }∧y.2.2=itV y.2.1 d ∧
   BoxW g #[.int .u8 (y.2.1.1.1.toNat:Int),.int .u32 y.2.1.1.2.1,.int .u32 y.2.1.1.2.2,.int .i64 y.2.1.2.1,d] 40 V)
  (fun y a' _ A B row hs hg hr=>by
   obtain⟨g,d,e1,e2,h0⟩:=hs
   exact⟨g,d,e1,e2,block_kept h0 hg fun r e=>(hr r e).2⟩)
  (fun pre x q=>tell_own _ _ _ _ _ _) ?assign ?body ?done ?stop
 case assign =>
  rintro l' pre' q' ⟨lv',it',val'⟩ V K hi ⟨_,hit⟩ hK
  obtain⟨A',c',hd,-⟩:=hit.open
  dsimp only at hd
  subst hd
  obtain⟨V1,hV1,v0',v1',v2',v3',v4',hVs,hVB,hVg⟩:=box_five V (.int .u8 (it'.1.1.toNat:Int)) (.int .u32 it'.1.2.1) (.int .u32 it'.1.2.2) (.int .i64 it'.2.1) (.slice A' it'.2.2.length c') 40
  replace hVs:=Lib.hid hVs
  clear hit hi hI0
  simp only[encW,itV]
  gi_wp2_with fail
  exact hK _ _ (below_grown hVB) ⟨V.heap.size,_,rfl,rfl,hVg⟩
 case body =>
  rintro l' pre' q' ⟨lv',it',val'⟩ a' V hVs ⟨⟨hIb,hIs⟩,⟨hm1,hm2⟩,⟨hx1,hx2⟩,hq⟩ ⟨g,d,rfl,hd,hg⟩ ⟨hpf,hit⟩
  dsimp only at hd hit hg hq hm1 hm2
  subst hd hq
  obtain⟨_,-,hin,-⟩:=hit
  obtain⟨v0',v1',v2',v3',v4',_⟩:=five_cells hg
  have hc1:=hx1.cell
  have hc2:=hx2.cell
  have hwf:=wf64 hin.2
  have hmk:Hid ((pre'++[((lv',it',itV it' d):Wk)]).map keyW=pre'.map keyW++[(lv',it')]):=Lib.hid (by rw[List.map_append];rfl)
  obtain⟨hl1,hl2⟩:=hpl.out (pre'.map keyW) (by rw[hmk.out] at hpf;exact(List.prefix_append _ _).trans hpf)
  obtain⟨V1,hr1,hm1',hg1⟩:=mapOf_put hm1 hwf (by simp;omega)
  obtain⟨V2,hr2,hm2',hg2⟩:=mapOf_put hm2 hwf (by omega)
  obtain⟨lt1,lt2⟩:wA.heap.size+1+1<V.heap.size∧w4.heap.size≠wA.heap.size:=⟨hx2.lt,by have:=lz.out;omega⟩
  have hkr:Hid (∀ (Vn:World) (b:Nat),V.grownBy Vn (some b)→(b=w4.heap.size∨b=wA.heap.size)→(Below w.heap.size w Vn∧w6.heap.size≤Vn.heap.size)∧(Boxed Vn (wA.heap.size+1) 121 (.map (some w4.heap.size))∧Boxed Vn (wA.heap.size+1+1) 121 (.map (some wA.heap.size)))∧Kept (fun k=>k=w4.heap.size∨k=wA.heap.size) none none V Vn):=Lib.hid fun Vn b hgn hb=>by
   refine⟨⟨hIb.grown hgn hIb.size (fun k e=>by cases e;have:=lz.out;omega),Nat.le_trans hIs hgn.size⟩,⟨Boxed.kept hx1 hgn (fun e=>by cases e;have:=lz.out;omega),Boxed.kept hx2 hgn (fun e=>by cases e;have:=lz.out;omega)⟩,Kept.row hgn (fun r e=>by cases e;exact .inr hb) (fun r e=>by cases e)⟩
  have hI:Hid ((Below w.heap.size w V∧w6.heap.size≤V.heap.size)∧(MapOf V w4.heap.size ([a]++upsW (pre'.map keyW))∧MapOf V wA.heap.size (lowW (pre'.map keyW)))∧Boxed V (wA.heap.size+1) 121 (.map (some w4.heap.size))∧Boxed V (wA.heap.size+1+1) 121 (.map (some wA.heap.size))):=Lib.hid ⟨⟨hIb,hIs⟩,⟨hm1,hm2⟩,hx1,hx2⟩
  clear hIb hIs hm1 hm2 hx1 hx2 hg hpf hin hl1 hl2 hwf lt1 hI0
  by_cases hlv:0<lv'
  ·have he1:Hid (NdI w w4.heap.size wA.heap.size (wA.heap.size+1) (wA.heap.size+1+1) w6.heap.size a (pre'++[((lv',it',itV it' d):Wk)],none) V1):=Lib.hid (by
    obtain⟨e1,e2,_⟩:=hkr.out V1 _ hg1 (.inl rfl)
    obtain⟨u1,u2⟩:=ups_yes (M:=pre'.map keyW) (p:=(lv',it')) hlv
    refine⟨e1,⟨?_,?_⟩,e2,rfl⟩
    ·show MapOf _ _ ([a]++upsW ((pre'++[((lv',it',itV it' d):Wk)]).map keyW))
     rw[hmk.out,u1,← List.append_assoc]
     exact hm1'
    ·show MapOf _ _ (lowW ((pre'++[((lv',it',itV it' d):Wk)]).map keyW))
     rw[hmk.out,u2]
     exact mapOf_kept hI.out.2.1.2 hg1 (fun e=>lt2 (Option.some.inj e).symm))
   have hk1:=Lib.hid (hkr.out V1 _ hg1 (.inl rfl)).2.2
   clear hm1' hm2' hg1 hg2 hr2 hI hkr lt2
   gi_wp2_with fail
   exact⟨none,hk1.out,he1.out⟩
  by_cases hz:it'.2.1=0
  ·have hzb:(it'.2.1 != 0)=false:=by simp[hz]
   have he1:Hid (NdI w w4.heap.size wA.heap.size (wA.heap.size+1) (wA.heap.size+1+1) w6.heap.size a (pre'++[((lv',it',itV it' d):Wk)],none) V):=Lib.hid (by
    obtain⟨u1,u2⟩:=low_no (M:=pre'.map keyW) (p:=(lv',it')) hlv hz
    refine⟨hI.out.1,⟨?_,?_⟩,hI.out.2.2,rfl⟩
    ·show MapOf _ _ ([a]++upsW ((pre'++[((lv',it',itV it' d):Wk)]).map keyW))
     rw[hmk.out,u1]
     exact hI.out.2.1.1
    ·show MapOf _ _ (lowW ((pre'++[((lv',it',itV it' d):Wk)]).map keyW))
     rw[hmk.out,u2]
     exact hI.out.2.1.2)
   replace hz:=Lib.hid hz
   clear hm1' hm2' hg1 hg2 hr1 hr2 hI hkr lt2
   gi_wp2_with fail
   exact⟨none,Kept.refl _ _ _,he1.out⟩
  ·have hzb:(it'.2.1 != 0)=true:=by simp[hz]
   have he1:Hid (NdI w w4.heap.size wA.heap.size (wA.heap.size+1) (wA.heap.size+1+1) w6.heap.size a (pre'++[((lv',it',itV it' d):Wk)],none) V2):=Lib.hid (by
    obtain⟨e1,e2,_⟩:=hkr.out V2 _ hg2 (.inr rfl)
    obtain⟨u1,u2⟩:=low_yes (M:=pre'.map keyW) (p:=(lv',it')) hlv hz
    refine⟨e1,⟨?_,?_⟩,e2,rfl⟩
    ·show MapOf _ _ ([a]++upsW ((pre'++[((lv',it',itV it' d):Wk)]).map keyW))
     rw[hmk.out,u1]
     exact mapOf_kept hI.out.2.1.1 hg2 (fun e=>lt2 (Option.some.inj e))
    ·show MapOf _ _ (lowW ((pre'++[((lv',it',itV it' d):Wk)]).map keyW))
     rw[hmk.out,u2]
     exact hm2')
   have hk1:=Lib.hid (hkr.out V2 _ hg2 (.inr rfl)).2.2
   replace hz:=Lib.hid hz
   clear hm1' hm2' hg1 hg2 hr1 hI hkr lt2
   gi_wp2_with fail
   exact⟨none,hk1.out,he1.out⟩
 case done =>
  rintro xs q' V hVs hE ⟨⟨hb,_⟩,⟨hm1,hm2⟩,⟨hx1,hx2⟩,hq⟩ hDV hqV
  obtain⟨⟨e1,r1⟩,e2,r2⟩:=hend6.out (xs.map keyW) hE
  have hl:=hpl.out (xs.map keyW) (by rw[show xs.map keyW=LL from hE];exact List.prefix_refl _)
  dsimp only at hm1 hm2 hq
  obtain⟨K1',hK1⟩:∃ q,[a]++upsW (xs.map keyW)=q:=⟨_,rfl⟩
  obtain⟨K2',hK2⟩:∃ q,lowW (xs.map keyW)=q:=⟨_,rfl⟩
  have hlk1:K1'.length≤1000000:=by rw[← hK1,List.length_append,List.length_singleton];omega
  have hlk2:K2'.length≤1000000:=by rw[← hK2];omega
  rw[hK1] at hm1 e1 r1
  rw[hK2] at hm2 e2 r2
  have hR1:=Lib.hid (fun W (hW:Below V.heap.size V W)=>rising_any w4.heap.size K1' r1 hlk1 W (mapOf_kept hm1 (below_grown hW) (by simp)))
  have hR2:=Lib.hid (fun W (hW:Below V.heap.size V W)=>rising_any wA.heap.size K2' r2 hlk2 W (mapOf_kept hm2 (below_grown hW) (by simp)))
  rw[e1] at hR1
  rw[e2] at hR2
  have hc1:=hx1.cell
  have hc2:=hx2.cell
  have hD1:=Lib.hid hDV
  have lD:=Lib.hid hVs
  replace hb:=Lib.hid hb
  clear hm1 hm2 hx1 e1 e2 r1 r2 hl hlk1 hlk2 hK1 hK2 hDV hqV hVs hI0 hE hq
  have lB:=Lib.hid (show wA.heap.size+1+1<V.drew.heap.size from hx2.lt)
  clear hx2
  gi_wp2_with fail
  refine wpIn_onlyN ?_
  gi_region_with (first
   | (refine⟨trivial,?_⟩;gi_at_call 61;refine(callsIn_wide.2 (hR1.out V.drew (Below.refl _ V).drew)).mono ?_;rintro e V1 ⟨U1,d1,rfl,hr1,hb1⟩;have hc3:=(hb1.cell (p:=⟨wA.heap.size+1+1,0,none⟩) lB.out).trans hc2)
   | (refine⟨trivial,?_⟩;gi_at_call 61;refine(callsIn_wide.2 (hR2.out V1 ((Below.refl _ V).drew.trans hb1))).mono ?_;rintro e V2 ⟨U2,d2,rfl,hr2,hb2⟩))
  all_goals
   have hst:Stab (rSl 1 (rK .i64)):=stab_sl (stab_k _)
   have hb12:=(Below.refl V.heap.size V).drew.trans (hb1.trans (hb2.mono hb1.size))
   have hD2:V2.heap[w6.heap.size]? = some (.deferred (some [])):=(hb12.block _ lD.out).trans hD1.out
   have hgp:=grownBy_putObj' V2 w6.heap.size (.deferred none)
   have hw:w.heap.size≤V.heap.size:=by have:=lD.out;have:=lz.out;omega
   have n1:=hst.mono (hst.grown (hst.new hr1 (Nat.le_refl _) hb2) hgp (fun q e=>by cases e;exact lD.out)) hw
   have n2:=hst.mono (hst.grown hr2 hgp (fun q e=>by cases e;exact Nat.lt_of_lt_of_le lD.out hb1.size)) (Nat.le_trans hw hb1.size)
   have n3:=(hb.out.trans (hb12.mono hw)).grown hgp (Nat.le_trans hw hb12.size) (fun k e=>by cases e;have:=lz.out;omega)
   replace n1:=Lib.hid n1
   replace n2:=Lib.hid n2
   replace n3:=Lib.hid n3
   replace hD2:=Lib.hid hD2
   clear hst hb12 hgp hr1 hr2 hb1 hb2 hc1 hc2 hw
   simp only[onlyN]
   gi_wp2_with fail
   refine⟨by simp,.inl ⟨_,_,rfl,run_takeDeferred hD2.out,_,results_tmp3 rfl _ _ _,U1,d1,U2,d2,?_,?_,?_,n3.out⟩⟩
   ·rw[ndsV,rfsV,if_pos hE0.out,if_pos hE0.out,hE0.out]
    rfl
   ·rw[ndsV,if_pos hE0.out]
    exact n1.out
   ·rw[rfsV,if_pos hE0.out]
    exact n2.out
 case stop =>
  rintro c pre' q' V hVs hf
  exact hf.elim
end Go.Proofs.YtogieepfimpdmaaGreat
/-
 Package put: grow. Conditions: those that each lemma states.
-/
namespace Go.Proofs.YtogieepfimpdmaaGreat
open Go.RowKit Go.Shelf
attribute [local go_sem] Oper.semAt_some
def GrI (l0 lo hr hi B3 B6 B7 B8 B9:Nat) (n0:World) (s:Rm) (x:It) (l:List Sv) (r:List Nat×Option Nat) (V:World):Prop :=
 r.2=none∧(Below lo n0 V∧hi≤V.heap.size)∧(BoxW B6 #[.slice none 0 0,.slice none 0 0,.slice none 0 0,.slice none 0 0] 29 V∧BoxW B7 #[.int .i64 0] 3 V∧BoxW B8 #[.int .i64 0] 33 V) ∧
 ∃ (sk:Rm) (F:List It) (qa qb qc qd:Option Addr×Nat×Nat) (fb m fc:Nat),growA l.reverse s [x]=growA (l.reverse.drop r.1.length) sk F∧BoxW B3 #[.slice qa.1 qa.2.1 qa.2.2,.slice qb.1 qb.2.1 qb.2.2,.slice qc.1 qc.2.1 qc.2.2,.slice qd.1 qd.2.1 qd.2.2] 29 V∧Sto (Out l0 hi V) V (.agg #[.slice qa.1 qa.2.1 qa.2.2,.slice qb.1 qb.2.1 qb.2.2,.slice qc.1 qc.2.1 qc.2.2,.slice qd.1 qd.2.1 qd.2.2]) sk ∧
  BoxW B9 #[.slice (some ⟨fb,0,none⟩) m fc] 43 V∧FrB l0 hr hi V fb m fc F∧∀ q∈l.take (l.length-r.1.length),RowAt V q
def GrX (lo hi B6 B7 B8:Nat) (n0:World) (s:Rm) (x:It) (l:List Sv) (c:Code) (r:List Nat×Option Nat) (V:World):Prop :=
 c=.ret∧r.2=none∧(Below lo n0 V∧hi≤V.heap.size)∧∃ er:Int,BoxW B6 #[.slice none 0 0,.slice none 0 0,.slice none 0 0,.slice none 0 0] 29 V∧BoxW B7 #[.int .i64 0] 3 V∧BoxW B8 #[.int .i64 er] 33 V∧growA l.reverse s [x]=(er,emptyR,[])∧er≠0
theorem out_own {lo hi:Nat} {V V':World} {row:Option Nat} (hg:V.grownBy V' row) (hr:∀ r,row=some r→∃ o:Obj,V.heap[r]? = some o∧o.isCells=false) {p:Addr} {v:Value} (hp:Out lo hi V p) (hc:V.cell? p=some v):Out lo hi V' p∧V'.cell? p=some v :=
 ⟨⟨hp.1,Nat.lt_of_lt_of_le hp.2 hg.size⟩,cell_kept hc hg hr⟩
theorem rowAt_own {V V':World} {q:Sv} {row:Option Nat} (h:RowAt V q) (hh:q.hi≤V.heap.size) (hg:V.grownBy V' row) (hr:∀ r,row=some r→V.heap.size≤r∨q.hi≤r):RowAt V' q :=
 h.same fun k h1 h2=>hg.block k (by omega) (fun e=>by rcases hr k e.symm with h | h <;> omega)
theorem frB_own {lo hr hi fb m fc:Nat} {V V':World} {F:List It} {row:Option Nat} (h:FrB lo hr hi V fb m fc F) (hg:V.grownBy V' row) (hrow:∀ r,row=some r→∃ o:Obj,V.heap[r]? = some o∧o.isCells=false):FrB lo hr hi V' fb m fc F:=by
 obtain⟨h1,h2,h3,h4,ps,h5,h6,h7⟩:=h
 refine⟨h1,h2,h3,h4,ps,h5,⟨h6.1,?_⟩,fun p hp=>⟨(h7 p hp).1,stab_by _ _ _ _ _ _ (fun a v ha hc=>out_own hg hrow ha hc) (h7 p hp).2⟩⟩
 rcases h6.2 with e' | ⟨g,cap,cur,e',hb,hgg,r⟩
 ·exact .inl e'
 ·exact .inr ⟨g,cap,cur,e',hb,block_kept hgg hg hrow,r⟩
theorem grI_own {l0 lo hr hi B3 B6 B7 B8 B9:Nat} {n0:World} {s:Rm} {x:It} {l:List Sv} {B:Nat} (hlh:lo≤hi) (hB:lo≤B) (hq:∀ q∈l,q.hi≤B∧q.hi≤hi):OwnFrom B (GrI l0 lo hr hi B3 B6 B7 B8 B9 n0 s x l):=fun r V V' row hs hg hrr=>by
 obtain⟨h0,⟨h1,h2⟩,⟨h3,h4,h5⟩,sk,F,qa,qb,qc,qd,fb,m,fc,e1,e2,e3,e4,e5,e6⟩:=hs
 have hn:=fun r e=>(hrr r e).2
 refine⟨h0,⟨h1.grown hg (by omega) (fun r e=>by have:=(hrr r e).1;omega),Nat.le_trans h2 hg.size⟩,⟨block_kept h3 hg hn,block_kept h4 hg hn,block_kept h5 hg hn⟩,sk,F,qa,qb,qc,qd,fb,m,fc,e1,block_kept e2 hg hn,e3.map fun p v hp hc=>out_own hg hn hp hc,block_kept e4 hg hn,frB_own e5 hg hn,fun q hm => ?_⟩
 have:=hq q (List.mem_of_mem_take hm)
 exact rowAt_own (e6 q hm) (by omega) hg fun r e=>.inr (by have:=(hrr r e).1;omega)
theorem grX_own {lo hi B6 B7 B8:Nat} {n0:World} {s:Rm} {x:It} {l:List Sv} {c:Code} {B:Nat} (hlh:lo≤hi) (hB:lo≤B):OwnFrom B (GrX lo hi B6 B7 B8 n0 s x l c):=fun r V V' row hs hg hrr=>by
 obtain⟨hc,h0,⟨h1,h2⟩,er,h3,h4,h5,h6⟩:=hs
 have hn:=fun r e=>(hrr r e).2
 exact⟨hc,h0,⟨h1.grown hg (by omega) (fun r e=>by have:=(hrr r e).1;omega),Nat.le_trans h2 hg.size⟩,er,block_kept h3 hg hn,block_kept h4 hg hn,block_kept h5 hg hn,h6⟩
def GrowR (l0 lo:Nat) (s:Rm) (l:List Sv) (x:It) (w:World) (e:Ending) (w':World):Prop:=∃ qa qb qc qd:Option Addr×Nat×Nat,e=.returned (.tuple #[.agg #[.slice qa.1 qa.2.1 qa.2.2,.slice qb.1 qb.2.1 qb.2.2,.slice qc.1 qc.2.1 qc.2.2,.slice qd.1 qd.2.1 qd.2.2],.int .i64 (growO s l x).2.2,.int .i64 (growO s l x).1])∧Sto (Out l0 w.heap.size w') w' (.agg #[.slice qa.1 qa.2.1 qa.2.2,.slice qb.1 qb.2.1 qb.2.2,.slice qc.1 qc.2.1 qc.2.2,.slice qd.1 qd.2.1 qd.2.2]) (growO s l x).2.1∧Below lo w w'
theorem setCell_self {W:World} {g i:Nat} {cs:Array Value} {t:TypeId} {v:Value} (h:W.heap[g]? = some (.cells cs t (0,0))) (hv:cs[i]? = some v):W.setCell ⟨g,i,none⟩ v=W:=by
 have hh:(W.setCell ⟨g,i,none⟩ v).heap=W.heap:=by
  apply Array.ext_getElem?
  intro k
  by_cases e:k=g
  ·subst e
   rw[heap_setCell_same W k i _ _ v h,h]
   congr 2
   apply Array.ext_getElem?
   intro j
   obtain⟨hi,hv'⟩:=Array.getElem?_eq_some_iff.1 hv
   by_cases ej:i=j
   ·subst ej
    simp[hi,hv']
   ·rw[Array.getElem?_setIfInBounds_ne ej]
  ·exact Below.heap_setCell W ⟨g,i,none⟩ v k e
 have:W.setCell ⟨g,i,none⟩ v={ W with heap:=(W.setCell ⟨g,i,none⟩ v).heap }:=rfl
 rw[this,hh]
def PhI (V:World) (len:Nat) (LL:List It) (v:Value) (W:World):Prop:=V.heap.size<W.heap.size∧∃ A' c',v=.slice A' len c'∧rIts (Old W) W [.slice A' len c'] LL
def PhL (V:World) (nu:Nat) (er:Int) (S':Rm) (up:List It) (v:Value) (W:World):Prop:=V.heap.size<W.heap.size∧∃ (qa qb qc qd:Option Addr×Nat×Nat) (M:Option Addr) (mc:Nat),v=.tuple #[.agg #[.slice qa.1 qa.2.1 qa.2.2,.slice qb.1 qb.2.1 qb.2.2,.slice qc.1 qc.2.1 qc.2.2,.slice qd.1 qd.2.1 qd.2.2],.slice M nu mc,.int .i64 er]∧Sto (New V.heap.size W) W (.agg #[.slice qa.1 qa.2.1 qa.2.2,.slice qb.1 qb.2.1 qb.2.2,.slice qc.1 qc.2.1 qc.2.2,.slice qd.1 qd.2.1 qd.2.2]) S'∧RowOf rIt 5 40 V.heap.size W M mc up
def PhS (V:World) (S':Rm) (v:Value) (W:World):Prop:=V.heap.size<W.heap.size∧∃ (qa qb qc qd:Option Addr×Nat×Nat),v=.agg #[.slice qa.1 qa.2.1 qa.2.2,.slice qb.1 qb.2.1 qb.2.2,.slice qc.1 qc.2.1 qc.2.2,.slice qd.1 qd.2.1 qd.2.2]∧Sto (New V.heap.size W) W (.agg #[.slice qa.1 qa.2.1 qa.2.2,.slice qb.1 qb.2.1 qb.2.2,.slice qc.1 qc.2.1 qc.2.2,.slice qd.1 qd.2.1 qd.2.2]) S'
def PhM (V:World) (nu:Nat) (up:List It) (v:Value) (W:World):Prop:=V.heap.size<W.heap.size∧∃ (M:Option Addr) (mc:Nat),v=.slice M nu mc∧RowOf rIt 5 40 V.heap.size W M mc up
set_option maxRecDepth 100000 in
set_option maxHeartbeats 8000000 in
theorem grow_any (l0 lo:Nat) (hl0:l0≤lo) (qa qb qc qd:Option Addr×Nat×Nat) (s:Rm) (A:Option Addr) (m c:Nat) (l:List Sv) (E:Option Addr) (ce:Nat) (x:It) (w:World) (hlo:lo≤w.heap.size) (h:Sto (fun p=>p.block<l0) w (.agg #[.slice qa.1 qa.2.1 qa.2.2,.slice qb.1 qb.2.1 qb.2.2,.slice qc.1 qc.2.1 qc.2.2,.slice qd.1 qd.2.1 qd.2.2]) s)
  (hst:w.ownsRow lo 94 4 (.slice A m c) m (svs l)) (hl:l.length=m) (hm:m≤6) (hR:Rows lo w.heap.size w l) (hA:∀ g q,A.map (·.block)=some g→q∈l→g<q.lo∨q.hi≤g)
  (hq:∀ q∈l,In64 q.nd.1∧q.nd.2.length≤5∧q.pl+(if q.inst=true then 1 else 0)≤q.nd.2.length) (hx:Itm (fun p=>p.block<l0) w (itV x (.slice E x.2.2.length ce)) x) :
  Calls Tryz.prog 27 #[.agg #[.slice qa.1 qa.2.1 qa.2.2,.slice qb.1 qb.2.1 qb.2.2,.slice qc.1 qc.2.1 qc.2.2,.slice qd.1 qd.2.1 qd.2.2],.slice A m c,itV x (.slice E x.2.2.length ce)] w (GrowR l0 lo s l x w):=by
 obtain⟨w1,hw1,b1,hs1,hB1⟩:=box_4 w (.slice qa.1 qa.2.1 qa.2.2) (.slice qb.1 qb.2.1 qb.2.2) (.slice qc.1 qc.2.1 qc.2.2) (.slice qd.1 qd.2.1 qd.2.2) 29
 obtain⟨w2,hw2,-,-,-,-,-,hs2,hB2,b2⟩:=box_five w1 (.int .u8 (x.1.1.toNat:Int)) (.int .u32 x.1.2.1) (.int .u32 x.1.2.2) (.int .i64 x.2.1) (.slice E x.2.2.length ce) 40
 obtain⟨w3,hw3,b3,hs3,hB3⟩:=box_4 w2 (.slice none 0 0) (.slice none 0 0) (.slice none 0 0) (.slice none 0 0) 29
 obtain⟨w4,hw4,b4,hs4,hB4⟩:∃ w4,w3.alloc (.cells #[.int .i64 0] 3)=w4∧BoxW w3.heap.size #[.int .i64 0] 3 w4∧w4.heap.size=w3.heap.size+1∧Below w3.heap.size w3 w4:=⟨_,rfl,heap_alloc_new w3 _,by simp,(Below.refl _ _).alloc (Nat.le_refl _) _⟩
 obtain⟨w5,hw5,b5,hs5,hB5⟩:∃ w5,w4.alloc (.cells #[.int .i64 0] 33)=w5∧BoxW w4.heap.size #[.int .i64 0] 33 w5∧w5.heap.size=w4.heap.size+1∧Below w4.heap.size w4 w5:=⟨_,rfl,heap_alloc_new w4 _,by simp,(Below.refl _ _).alloc (Nat.le_refl _) _⟩
 obtain⟨w6,hw6,-,-,-,-,-,hs6,hB6,b6⟩:=box_five w5 (.int .u8 (x.1.1.toNat:Int)) (.int .u32 x.1.2.1) (.int .u32 x.1.2.2) (.int .i64 x.2.1) (.slice E x.2.2.length ce) 40
 obtain⟨w7,hw7,b7,hs7,hB7⟩:∃ w7,w6.alloc (.cells #[.slice (some ⟨w5.heap.size,0,none⟩) 1 1] 43)=w7∧BoxW w6.heap.size #[.slice (some ⟨w5.heap.size,0,none⟩) 1 1] 43 w7∧w7.heap.size=w6.heap.size+1∧Below w6.heap.size w6 w7:=⟨_,rfl,heap_alloc_new w6 _,by simp,(Below.refl _ _).alloc (Nat.le_refl _) _⟩
 obtain⟨w8,hw8,b8,hs8,hB8⟩:=box_one w7 (.slice A m c) 65
 have hbw:=Lib.hid (backwardS_any A m c w7)
 rw[hw8] at hbw
 have k78:=hB7.trans (hB8.mono hB7.size)
 have k68:=hB6.trans (k78.mono hB6.size)
 have k58:=hB5.trans (k68.mono hB5.size)
 have k48:=hB4.trans (k58.mono hB4.size)
 have k38:=hB3.trans (k48.mono hB3.size)
 have k28:=hB2.trans (k38.mono hB2.size)
 have k18:=hB1.trans (k28.mono hB1.size)
 have BW:=Lib.hid k18
 obtain⟨i0,i1,i2,i3,i4,_⟩:=five_cells ((((hB3.trans (hB4.mono hB3.size)).trans (hB5.mono (hB3.trans (hB4.mono hB3.size)).size)).block w1.heap.size (by omega)).trans b2)
 have SZ:=Lib.hid (show w1.heap.size=w.heap.size+1∧w2.heap.size=w.heap.size+2∧w3.heap.size=w.heap.size+3∧w4.heap.size=w.heap.size+4∧w5.heap.size=w.heap.size+5∧w6.heap.size=w.heap.size+6∧w7.heap.size=w.heap.size+7∧w8.heap.size=w.heap.size+8 from by omega)
 obtain⟨ad,had,hat⟩:=steps_at (by rw[hl];exact hst)
 rw[hl] at had hat
 obtain⟨f,hf⟩:∃ f:Nat→Sv,f=fun j=>l[j]?.getD svZ:=⟨_,rfl⟩
 have hff:Hid (∀ k,k<m→l.reverse[k]? = some (f (m-1-k))∧f (m-1-k)∈l∧l[m-1-k]? = some (f (m-1-k))):=Lib.hid fun k hk=>by
  have e:l.reverse[k]? = some l[m-1-k]:=by
   rw[List.getElem?_reverse (by omega),show l.length-1-k=m-1-k by omega]
   exact List.getElem?_eq_getElem _
  have e2:f (m-1-k)=l[m-1-k]:=by
   rw[hf]
   simp[List.getElem?_eq_getElem (show m-1-k<l.length by omega)]
  rw[e2]
  exact⟨e,List.getElem_mem _,List.getElem?_eq_getElem _⟩
 have htold:=backS_told w7.heap.size c m A ad f w8 b8 (fun h=>⟨(had h).1,by have:=(had h).2.2;omega⟩) (by omega) (fun j hj=>by rw[hf];exact(hat j hj).same (k18.block _ (by rw[add_block];exact(had (by omega)).2.2)))
 have hin:InI x:=by
  obtain⟨_,_,hi,_⟩:=hx
  exact hi
 have hfr:FrB l0 w.heap.size w8.heap.size w8 w5.heap.size 1 1 [x]:=by
  refine⟨rfl,by omega,by omega,by omega,[(x,.slice E x.2.2.length ce)],rfl,?_,fun p hp => ?_⟩
  ·exact own_from5 (b:=w5.heap.size) (C:=cells5 [(x,.slice E x.2.2.length ce)]) (by omega) ((k78.block _ (by omega)).trans b6) (Nat.le_refl _) (by decide) rfl (by rfl)
  ·rw[List.mem_singleton.1 hp]
   obtain⟨d,e,h1,h2⟩:=hx
   have ed:d=.slice E x.2.2.length ce:=by
    unfold itV at e
    simp at e
    exact e.symm
   subst ed
   exact⟨h1,stab_by _ _ _ _ _ _ (fun a v ha hc=>⟨⟨.inl ha,by have:=hlo;omega⟩,(k18.cell (by omega)).trans hc⟩) h2⟩
 have hI0:GrI l0 lo w.heap.size w8.heap.size w.heap.size w2.heap.size w3.heap.size w4.heap.size w6.heap.size w s x l ([],none) w8 :=
  ⟨rfl,⟨k18.mono hlo,Nat.le_refl _⟩,⟨(k48.block _ (by omega)).trans b3,(k58.block _ (by omega)).trans b4,(k68.block _ (by omega)).trans b5⟩,s,[x],qa,qb,qc,qd,w5.heap.size,1,1,rfl,(k28.block _ (by omega)).trans b1,h.map fun p v hp hc=>⟨⟨.inl hp,by omega⟩,(k18.cell (by omega)).trans hc⟩,
   (hB8.block _ (by omega)).trans b7,hfr,fun q hqm=>(hR.ok q (List.mem_of_mem_take hqm)).2.2.2.same fun k h1 h2=>k18.block k (by have:=(hR.ok q (List.mem_of_mem_take hqm)).2.2.1;omega)⟩
 have hlt:=Lib.hid (fun h:0<m=>(had h).2)
 have hAA:=Lib.hid (fun h:0<m=>(had h).1)
 replace hf:=Lib.hid hf
 replace hl:=Lib.hid hl
 replace hA:=Lib.hid hA
 replace hR:=Lib.hid hR
 replace hq:=Lib.hid hq
 replace hfr:=Lib.hid hfr
 replace hin:=Lib.hid hin
 replace hs1:=Lib.hid hs1
 replace hs2:=Lib.hid hs2
 replace hs3:=Lib.hid hs3
 replace hs4:=Lib.hid hs4
 replace hs5:=Lib.hid hs5
 replace hs6:=Lib.hid hs6
 replace hs7:=Lib.hid hs7
 replace hs8:=Lib.hid hs8
 replace hI0:=Lib.hid hI0
 clear h hst had hat b1 b2 b3 b4 b5 b6 b7 b8 hB1 hB2 hB3 hB4 hB5 hB6 hB7 hB8 k78 k68 k58 k48 k38 k28 k18 hx hw8
 refine callsIn_wide.1 (callsIn_of_wp_marks (n:=5) Tryz.func27 rfl trivial ?_ rfl)
 simp only[Tryz.ntmps27,List.size_toArray,List.length_cons,List.length_nil,Nat.reduceAdd,Nat.reduceSub,Array.replicate_succ,Array.replicate_zero,List.push_toArray,List.append_toArray,List.nil_append,List.cons_append]
 gi_wp2_with fail
 refine⟨trivial,?_⟩
 gi_at_call 45
 refine(callsIn_wide.2 hbw.out).mono ?_
 rintro e w8 ⟨rfl,rfl⟩
 clear i0 i1 i2 i3 i4
 gi_wp2_with fail
 refine range_told (m:=5) (gf:=67) (lb:=#[.pointer (some ⟨w7.heap.size,0,none⟩)]) rfl (enters_of Tryz.func67 (by kernel_rfl) rfl) htold (fun _=>rfl)
  (fun k=>k=w.heap.size∨k=w2.heap.size∨k=w3.heap.size∨k=w4.heap.size∨k=w6.heap.size∨∃ q∈l,q.A.map (·.block)=some k) (fun k e=>by
   rcases e with e | e | e | e | e | ⟨q,hq,e⟩
   ·have:=SZ.out;omega
   ·have:=SZ.out;omega
   ·have:=SZ.out;omega
   ·have:=SZ.out;omega
   ·have:=SZ.out;omega
   ·have h1:=hR.out.ok q hq
    have:=row_block h1.2.2.2 k e
    have:=SZ.out;omega) none (fun k hk=>by
   rcases hk with rfl | ⟨h0,rfl⟩
   ·refine⟨by have:=SZ.out;omega,?_,by simp⟩
    rintro(e | e | e | e | e | ⟨q,hq,e⟩)
    ·have:=SZ.out;omega
    ·have:=SZ.out;omega
    ·have:=SZ.out;omega
    ·have:=SZ.out;omega
    ·have:=SZ.out;omega
    ·have h1:=hR.out.ok q hq
     have:=row_block h1.2.2.2 _ e
     have:=SZ.out;omega
   ·have:=hlt.out h0
    refine⟨by have:=SZ.out;omega,?_,by simp⟩
    rintro(e | e | e | e | e | ⟨q,hq,e⟩)
    ·have:=SZ.out;omega
    ·have:=SZ.out;omega
    ·have:=SZ.out;omega
    ·have:=SZ.out;omega
    ·have:=SZ.out;omega
    ·have h1:=hR.out.ok q hq
     have:=row_block h1.2.2.2 _ e
     have:=hA.out ad.block q (by rw[hAA.out h0];rfl) hq
     omega)
  (GrI l0 lo w.heap.size w8.heap.size w.heap.size w2.heap.size w3.heap.size w4.heap.size w6.heap.size w s x l) (GrX lo w8.heap.size w2.heap.size w3.heap.size w4.heap.size w s x l)
  (grI_own (by have:=SZ.out;omega) (by have:=SZ.out;omega) (fun q hq=>by have:=(hR.out.ok q hq).2.2.1;have:=SZ.out;omega)) (fun c=>grX_own (by have:=SZ.out;omega) (by have:=SZ.out;omega))
  (fun r V hr k e=>by rw[hr.1] at e;cases e) hI0.out
  (fun x' a' V=>∃ g:Nat,a'={ tmps:=#[.agg #[.slice qa.1 qa.2.1 qa.2.2,.slice qb.1 qb.2.1 qb.2.2,.slice qc.1 qc.2.1 qc.2.2,.slice qd.1 qd.2.1 qd.2.2],.slice A m c,itV x (.slice E x.2.2.length ce),.pointer (some ⟨w.heap.size,0,none⟩),undef,.pointer (some ⟨w1.heap.size,0,none⟩),.pointer (some ⟨w2.heap.size,0,none⟩),.pointer (some ⟨w3.heap.size,0,none⟩),.pointer (some ⟨w4.heap.size,0,none⟩),.pointer (some ⟨w6.heap.size,0,none⟩),undef,.pointer (some ⟨g,0,none⟩),.agg #[.int .u8 (x.1.1.toNat:Int),.int .u32 x.1.2.1,.int .u32 x.1.2.2,.int .i64 x.2.1,.slice E x.2.2.length ce],.slice (some ⟨w5.heap.size,0,none⟩) 1 1,.slice A m c,.func (.func 67) #[] #[.pointer (some ⟨w7.heap.size,0,none⟩)],.int .i64 (x':Int),.agg #[.int .i64 (f x').nd.1,.slice (f x').A (f x').nd.2.length (f x').c,.int .i64 ((f x').pl:Int),.bool (f x').inst],undef,undef,undef,undef,undef,undef,undef,undef,undef,undef,undef,undef,undef,undef,undef,undef,undef,undef,undef,undef,undef,undef,undef,undef,undef,undef,undef,undef,undef,undef,undef,undef,undef,undef,undef,undef,undef,undef,undef],defers:=[] }∧BoxW g #[.int .i64 (f x').nd.1,.slice (f x').A (f x').nd.2.length (f x').c,.int .i64 ((f x').pl:Int),.bool (f x').inst] 94 V)
  (fun y a' _ A B row hs hg hr=>by
   obtain⟨g,e1,h0⟩:=hs
   exact⟨g,e1,block_kept h0 hg fun r e=>(hr r e).2⟩)
  (fun pre x q=>fun _ _ _ _ hs _ _=>hs) ?assign ?body ?done ?stop
 case assign =>
  rintro l' pre' q' x' V K hi hT hK
  obtain⟨V1,hV1,bV,hVs,hVB⟩:=box_4 V (.int .i64 (f x').nd.1) (.slice (f x').A (f x').nd.2.length (f x').c) (.int .i64 ((f x').pl:Int)) (.bool (f x').inst) 94
  replace hVs:=Lib.hid hVs
  clear hi hT
  simp only[encS]
  gi_wp2_with fail
  exact hK _ _ (below_grown hVB) ⟨V.heap.size,rfl,bV⟩
 case body =>
  rintro l' pre' q' x' a' V hVs hI ⟨g,rfl,hg⟩ ⟨hp1,hp2,hp3⟩
  obtain⟨hqn,⟨hIb,hIs⟩,⟨hB6,hB7,hB8⟩,sk,F,pa,pb,pc,pd,fb,mf,fc,hgr,hB3,hSto,hB9,hFr,hrows⟩:=hI
  dsimp only at hqn
  subst hqn
  have hk:pre'.length<m:=hp2
  clear hp1
  obtain⟨hrv,hqm,hqi⟩:=hff.out _ hk
  rw[← hp3] at hrv hqm hqi
  have hst:=growA_step (s:=sk) (F:=F) hrv
  have hidx:Hid (∀ q∈l.take (l.length-(pre'++[x']).length),q.hi≤(f x').lo∧q∈l.take (l.length-pre'.length)):=Lib.hid fun q hqm'=>by
   obtain⟨i,hi⟩:=List.getElem?_of_mem hqm'
   have hil:=(List.getElem?_eq_some_iff.1 hi).1
   rw[List.length_take,List.length_append,hl.out] at hil
   simp only[List.length_cons,List.length_nil] at hil
   rw[List.getElem?_take_of_lt (by rw[hl.out,List.length_append];simp only[List.length_cons,List.length_nil];omega)] at hi
   refine⟨?_,List.mem_of_getElem? (i:=i) (by rw[List.getElem?_take_of_lt (by rw[hl.out];omega)];exact hi)⟩
   obtain⟨h1,e1⟩:=List.getElem?_eq_some_iff.1 hi
   obtain⟨h2,e2⟩:=List.getElem?_eq_some_iff.1 hqi
   have:=List.pairwise_iff_getElem.1 hR.out.apart i x' h1 h2 (by omega)
   rw[e1,e2] at this
   exact this
  have hRA:RowAt V (f x'):=hrows _ (List.mem_of_getElem? (i:=m-1-pre'.length) (by rw[List.getElem?_take_of_lt (by rw[hl.out];show m-1-pre'.length<m-pre'.length;omega),← hp3];exact hqi))
  have hpl:(pre'++[x']).length=pre'.length+1:=by rw[List.length_append];rfl
  clear hp3
  generalize f x'=q at *
  obtain⟨hlv,hq5,hqpl⟩:=hq.out q hqm
  obtain⟨hql1,hql2,hql3,_⟩:=hR.out.ok q hqm
  have hrow:=hRA.use (by have:=SZ.out;have:=hIs;omega)
  obtain⟨ps,hps,hpo,hpi⟩:=rowOf_cells hrow
  have hrb:=row_block hRA
  have hrbw:∀ r,q.A.map (·.block)=some r→r<w.heap.size:=fun r e=>by have:=hrb r e;omega
  have hgb:q.A.map (·.block)≠some g:=fun e=>by
   cases hA':q.A with
   | none=>rw[hA'] at e;cases e
   | some a0 =>
    rw[hA'] at e hpo
    obtain⟨b,C,rfl,_,_,hgg,_⟩:=own_block5 hpo
    obtain rfl:b=g:=Option.some.inj e
    unfold BoxW at hg
    rw[hg] at hgg
    simp at hgg
  obtain⟨qs,hqs,hqo,hqi'⟩:=hFr.row
  have hfb:=hFr.at_
  have hmf:=hFr.pos
  have hm2:=hFr.few
  have hFl:=hFr.len
  obtain⟨rb,hrbe⟩:∃ rb,q.A.map (·.block)=rb:=⟨_,rfl⟩
  rw[hrbe] at hgb hrb hrbw
  have hgV:∀ W,V.grownBy W rb→∀ k,k<V.heap.size→rb≠some k→W.heap[k]? = V.heap[k]? := fun W hW k h1 h2=>hW.block k h1 (fun e=>h2 e.symm)
  have bne:∀ k,w.heap.size≤k→rb≠some k:=fun k h e=>by have:=hrbw k e;omega
  have HB3:=Lib.hid (fun W (hW:V.grownBy W rb)=>(hgV W hW _ (Array.getElem?_eq_some_iff.1 hB3).1 (bne _ (Nat.le_refl _))).trans hB3)
  have HB9:=Lib.hid (fun W (hW:V.grownBy W rb)=>(hgV W hW _ (Array.getElem?_eq_some_iff.1 hB9).1 (bne _ (by have:=SZ.out;omega))).trans hB9)
  have HG:=Lib.hid (fun W (hW:V.grownBy W rb)=>(hgV W hW _ (Array.getElem?_eq_some_iff.1 hg).1 hgb).trans hg)
  have HOut:Hid (∀ W,V.grownBy W rb→∀ p v,Out l0 w8.heap.size V p→V.cell? p=some v→Out l0 w8.heap.size W p∧W.cell? p=some v):=Lib.hid fun W hW p v hp hc=>by
   have hb:=hgV W hW p.block hp.2 (fun e=>by have h1:=hrb _ e;have h2:=hrbw _ e;rcases hp.1 with h | h <;> have:=SZ.out <;> omega)
   exact⟨⟨hp.1,by have:=hp.2;have:=hW.size;omega⟩,(World.cell?_of_block hb).trans hc⟩
  have HF:Hid (∀ W,V.grownBy W rb→rIts (Old W) W [.slice (some ⟨fb,0,none⟩) mf fc] F):=Lib.hid fun W hW=>by
   have hF2:=hFr.same (w':=W) hW.size fun k h1 h2=>hgV W hW k h1 (fun e=>by have h3:=hrb _ e;have h4:=hrbw _ e;rcases h2 with h | h | h <;> have:=SZ.out <;> omega)
   obtain⟨zs,e1,e2,e3⟩:=hF2.row
   have:=its_of5 e2 (fun p hp=>⟨(e3 p hp).1,stab_by _ _ _ _ _ _ (fun a v ha hc=>⟨ha.2,hc⟩) (e3 p hp).2⟩)
   rwa [e1] at this
  have HS:=Lib.hid (fun W (hW:V.grownBy W rb)=>(hSto.map fun p v hp hc=>⟨((HOut.out W hW p v hp hc).1).2,(HOut.out W hW p v hp hc).2⟩:Sto (Old W) W (.agg #[.slice pa.1 pa.2.1 pa.2.2,.slice pb.1 pb.2.1 pb.2.2,.slice pc.1 pc.2.1 pc.2.2,.slice pd.1 pd.2.1 pd.2.2]) sk))
  obtain⟨LL,hLL⟩:∃ LL,itemsS q F=LL:=⟨_,rfl⟩
  have hmap:(ps.take q.pl++(qs++ps.drop (q.pl+if q.inst=true then 1 else 0))).map (·.1)=LL:=by
   rw[← hLL,List.map_append,List.map_append,List.map_take,List.map_drop,hps,hqs]
   rfl
  have hLlen:(ps.take q.pl++(qs++ps.drop (q.pl+if q.inst=true then 1 else 0))).length=LL.length:=by rw[← hmap,List.length_map]
  have HI:Hid (Calls Tryz.prog 47 #[.agg #[.int .i64 q.nd.1,.slice q.A q.nd.2.length q.c,.int .i64 (q.pl:Int),.bool q.inst],.slice (some ⟨fb,0,none⟩) mf fc] V.drew fun e W=>V.grownBy W rb∧V.heap.size<W.heap.size∧∃ A' c',e=.returned (.slice A' LL.length c')∧rIts (Old W) W [.slice A' LL.length c'] LL):=Lib.hid (by
   refine(stepItems_any q.A q.lo w.heap.size q.nd.2.length q.c fb mf fc q.pl q.nd.1 q.inst ps qs V.drew hpo hqo (by rw[hrbe];exact bne _ hfb) hqpl hmf (by omega) (ivs_one hpi) (ivs_one hqi') (by have:=SZ.out;have:=hIs;show q.lo≤V.heap.size;omega)).mono ?_
   rintro e W ⟨⟨A',c',rfl,ho,hgW⟩,hsz⟩
   rw[hLlen] at ho ⊢
   have hgW':V.grownBy W rb:=by rw[← hrbe];exact grown_drew hgW
   refine⟨hgW',hsz,A',c',rfl,?_⟩
   have:=its_of5 ho (fun p hp => ?_)
   ·rwa [hmap] at this
   ·have hnb:∀ a:Addr,∀ v,NewBut q.lo q.A V a→V.cell? a=some v→Old W a∧W.cell? a=some v:=fun a v ha hc=>by
     have hb:=hgV W hgW' a.block ha.1.2.1 (fun e=>ha.2 (by rw[hrbe];exact e))
     exact⟨by unfold Old;have:=ha.1.2.1;have:=hgW'.size;omega,(World.cell?_of_block hb).trans hc⟩
    rcases List.mem_append.1 hp with hp | hp
    ·exact⟨(hpi p (List.mem_of_mem_take hp)).1,stab_by _ _ _ _ _ _ hnb (hpi p (List.mem_of_mem_take hp)).2⟩
    ·rcases List.mem_append.1 hp with hp | hp
     ·exact⟨(hqi' p hp).1,stab_by _ _ _ _ _ _ (fun a v ha hc=>⟨((HOut.out W hgW' a v ha hc).1).2,(HOut.out W hgW' a v ha hc).2⟩) (hqi' p hp).2⟩
     ·exact⟨(hpi p (List.mem_of_mem_drop hp)).1,stab_by _ _ _ _ _ _ hnb (hpi p (List.mem_of_mem_drop hp)).2⟩)
  have hL0:0<LL.length:=by
   rw[← hLL]
   unfold itemsS
   simp only[List.length_append]
   omega
  have HL:Hid (∀ W A' c',V.grownBy W rb→rIts (Old W) W [.slice A' LL.length c'] LL→Calls Tryz.prog 46 #[.agg #[.slice pa.1 pa.2.1 pa.2.2,.slice pb.1 pb.2.1 pb.2.2,.slice pc.1 pc.2.1 pc.2.2,.slice pd.1 pd.2.1 pd.2.2],.int .i64 q.nd.1,.slice A' LL.length c',.slice (some ⟨fb,0,none⟩) mf fc] W (LayR sk q.nd.1 LL F W)):=Lib.hid fun W A' c' hW hI=>lay_any pa pb pc pd sk q.nd.1 hlv A' LL.length c' LL (some ⟨fb,0,none⟩) mf fc F W (HS.out W hW) hI (HF.out W hW) rfl hL0 hFl (by omega)
  rw[hLL] at hst
  have hsm:=Lib.hid (fun h:(layO sk q.nd.1 LL F).1=0=>lay_some h)
  obtain⟨er,her⟩:∃ e,(layO sk q.nd.1 LL F).1=e:=⟨_,rfl⟩
  obtain⟨S',hS'⟩:∃ e,(layO sk q.nd.1 LL F).2.1=e:=⟨_,rfl⟩
  obtain⟨up,hup⟩:∃ e,(layO sk q.nd.1 LL F).2.2=e:=⟨_,rfl⟩
  unfold LayR at HL
  rw[her,hS',hup] at hst HL
  rw[her,hup] at hsm
  obtain⟨len,hlen⟩:∃ e,LL.length=e:=⟨_,rfl⟩
  rw[hlen] at HI HL hL0
  obtain⟨nu,hnu⟩:∃ e,up.length=e:=⟨_,rfl⟩
  rw[hnu] at HL hsm
  have hqr:=Lib.hid hrows
  have hIb':=Lib.hid hIb
  have hIs':=Lib.hid hIs
  have hrb':=Lib.hid hrb
  have hrbw':=Lib.hid hrbw
  have hgV':=Lib.hid hgV
  have hb6:=Lib.hid hB6
  have hb7:=Lib.hid hB7
  have hb8:=Lib.hid hB8
  replace hst:=Lib.hid hst
  replace hgr:=Lib.hid hgr
  replace hpl:=Lib.hid hpl
  replace her:=Lib.hid her
  replace hS':=Lib.hid hS'
  replace hup:=Lib.hid hup
  replace hlen:=Lib.hid hlen
  replace hnu:=Lib.hid hnu
  replace hrbe:=Lib.hid hrbe
  replace hrv:=Lib.hid hrv
  replace hqm:=Lib.hid hqm
  replace hk:=Lib.hid hk
  replace hlv:=Lib.hid hlv
  clear hrows hIb hIs hrb hrbw hgV hB6 hB7 hB8 hB3 hB9 hg hSto hFr hqs hqo hqi' hps hpo hpi hmap hLlen hLL hRA hrow hgb bne hqpl hq5 hqi hfb hmf hm2 hFl hL0
  generalize q.nd.1=q1 at *
  generalize q.nd.2.length=q3 at *
  gi_wp2_with fail
  refine wpIn_onlyN ?_
  refine wpIn_region_lateB ⟨fun W W'=>Below W.heap.size W W'∨(W=V.drew∧V.grownBy W' rb∧V.heap.size<W'.heap.size),6,fun W=>W=V.drew⟩ (ops' := ?opsLate) (by kernel_rfl) [(13,11),(13,12),(14,12)] ?he (by kernel_rfl) (by kernel_rfl) (fun _ _ _ _ _ h=>h) (fun⟨_,_,h⟩=>h) 13 (fun W=>V.grownBy W rb) (fun i=>match i with
   | 6=>some (PhI V len LL)
   | 8=>some (PhL V nu er S' up)
   | 9=>some (PhL V nu er S' up)
   | 10=>some (PhS V S')
   | 11=>some (PhM V nu up)
   | _=>none) (fun i=>match i with
   | 12=>some (.int .i64 er)
   | _=>none) ?h1 ?h2 ?h3 rfl ?hon ⟨rfl,rfl,rfl,Nat.le_refl _,fun _ _ _=>rfl⟩ ?hcb ?tst ?_
  case he =>
   simp[withEdges]
   rfl
  case h1=>decide
  case h2=>kernel_rfl
  case h3=>kernel_rfl
  case hon=>kernel_rfl
  case hcb =>
   intro W W' h hr
   rcases hr with hb | ⟨_,hg,_⟩
   ·exact grow_below h hb
   ·exact hg
  case tst =>
   intro j φ v W W' hp hx hr
   have hbl:V.heap.size<W.heap.size→Below W.heap.size W W':=fun h=>by
    rcases hr with hb | ⟨rfl,_⟩
    ·exact hb
    ·exact absurd h (Nat.lt_irrefl _)
   match j,hp with
   | 6,hp =>
    cases hp
    obtain⟨h0,A',c',e,h1⟩:=hx
    exact⟨Nat.lt_of_lt_of_le h0 (hbl h0).size,A',c',e,stab_its.old h1 (hbl h0)⟩
   | 8,hp =>
    cases hp
    obtain⟨h0,qa,qb,qc,qd,M,mc,e,h1,h2⟩:=hx
    exact⟨Nat.lt_of_lt_of_le h0 (hbl h0).size,qa,qb,qc,qd,M,mc,e,h1.new (Nat.le_refl _) (hbl h0),h2.below stab_it (hbl h0)⟩
   | 9,hp =>
    cases hp
    obtain⟨h0,qa,qb,qc,qd,M,mc,e,h1,h2⟩:=hx
    exact⟨Nat.lt_of_lt_of_le h0 (hbl h0).size,qa,qb,qc,qd,M,mc,e,h1.new (Nat.le_refl _) (hbl h0),h2.below stab_it (hbl h0)⟩
   | 10,hp =>
    cases hp
    obtain⟨h0,qa,qb,qc,qd,e,h1⟩:=hx
    exact⟨Nat.lt_of_lt_of_le h0 (hbl h0).size,qa,qb,qc,qd,e,h1.new (Nat.le_refl _) (hbl h0)⟩
   | 11,hp =>
    cases hp
    obtain⟨h0,M,mc,e,h2⟩:=hx
    exact⟨Nat.lt_of_lt_of_le h0 (hbl h0).size,M,mc,e,h2.below stab_it (hbl h0)⟩
  simp only[List.take_succ_cons,List.take_zero,List.drop_succ_cons,List.drop_zero]
  repeat (first
   | (refine Rk.wpAs_skip rfl ?_;simp only[Act.put,List.setIfInBounds_toArray,List.set_cons_zero,List.set_cons_succ])
   | (refine Rk.wpAs_pure (v := ?_) rfl rfl ?_ ?_;rotate_left;(intro W hC hE;clear hE;(obtain⟨k0,k1,k2,k3,_⟩:=four_cells (HB3.out W hC);obtain⟨g0,g1,g2,g3,_⟩:=four_cells (HG.out W hC);obtain⟨n0,_⟩:=one_cell (HB9.out W hC));clear hC;go_simp;done);simp only[Act.put,List.setIfInBounds_toArray,List.set_cons_zero,List.set_cons_succ])
   | (refine Rk.wpAs_pure (v := ?_) rfl rfl ?_ ?_;rotate_left;(intro W hC hE;clear hE;(obtain⟨k0,k1,k2,k3,_⟩:=four_cells (HB3.out W hC);obtain⟨g0,g1,g2,g3,_⟩:=four_cells (HG.out W hC);obtain⟨n0,_⟩:=one_cell (HB9.out W hC));clear hC;go_simp;with_reducible rfl);simp only[Act.put,List.setIfInBounds_toArray,List.set_cons_zero,List.set_cons_succ]))
  refine Rk.wpAs_act rfl rfl ?_ ?_
  ·intro W hC hk6 hE
   obtain rfl:=hk6 rfl
   clear hE
   refine Rk.does_enter (f:=47) (args:=#[.agg #[.int .i64 q1,.slice q.A q3 q.c,.int .i64 (q.pl:Int),.bool q.inst],.slice (some ⟨fb,0,none⟩) mf fc]) ?_ ?_
   ·go_simp
   ·refine(HI.out).mono ?_
    rintro e W' ⟨h1,h2,A',c',rfl,h3⟩
    exact⟨_,rfl,⟨h2,A',c',rfl,h3⟩,.inr ⟨rfl,h1,h2⟩⟩
  simp only[Act.put,List.setIfInBounds_toArray,List.set_cons_zero,List.set_cons_succ,Rk.envAdd]
  intro x25
  repeat (first
   | (refine Rk.wpAs_skip rfl ?_;simp only[Act.put,List.setIfInBounds_toArray,List.set_cons_zero,List.set_cons_succ])
   | (refine Rk.wpAs_pure (v := ?_) rfl rfl ?_ ?_;rotate_left;(intro W hC hE;clear hE;(obtain⟨n0,_⟩:=one_cell (HB9.out W hC));clear hC;go_simp;done);simp only[Act.put,List.setIfInBounds_toArray,List.set_cons_zero,List.set_cons_succ])
   | (refine Rk.wpAs_pure (v := ?_) rfl rfl ?_ ?_;rotate_left;(intro W hC hE;clear hE;(obtain⟨n0,_⟩:=one_cell (HB9.out W hC));clear hC;go_simp;with_reducible rfl);simp only[Act.put,List.setIfInBounds_toArray,List.set_cons_zero,List.set_cons_succ]))
  refine Rk.wpAs_act rfl rfl ?_ ?_
  ·intro W hC _ hE
   obtain⟨h0,A',c',rfl,hI⟩:=hE.1 _ rfl rfl
   clear hE
   refine Rk.does_enter (f:=46) (args:=#[.agg #[.slice pa.1 pa.2.1 pa.2.2,.slice pb.1 pb.2.1 pb.2.2,.slice pc.1 pc.2.1 pc.2.2,.slice pd.1 pd.2.1 pd.2.2],.int .i64 q1,.slice A' len c',.slice (some ⟨fb,0,none⟩) mf fc]) ?_ ?_
   ·clear hI
    go_simp
   ·refine(HL.out W A' c' hC hI).mono ?_
    rintro e W' ⟨qa,qb,qc,qd,M,mc,rfl,h1,h2,hb⟩
    exact⟨_,rfl,⟨Nat.lt_of_lt_of_le h0 hb.size,qa,qb,qc,qd,M,mc,rfl,h1.new (Nat.le_of_lt h0) (Below.refl _ _),h2.low stab_it (Nat.le_of_lt h0)⟩,.inl hb⟩
  simp only[Act.put,List.setIfInBounds_toArray,List.set_cons_zero,List.set_cons_succ,Rk.envAdd]
  intro x27
  refine Rk.wpAs_act rfl rfl ?_ ?_
  ·intro W hC _ hE
   have hx:Hid (PhL V nu er S' up x27 W):=Lib.hid (hE.1 _ rfl rfl)
   clear hE
   go_simp
   exact⟨hx.out,.inl (Below.refl _ _)⟩
  simp only[Act.put,List.setIfInBounds_toArray,List.set_cons_zero,List.set_cons_succ,Rk.envAdd]
  intro x18
  refine Rk.wpAs_act rfl rfl ?_ ?_
  ·intro W hC _ hE
   obtain⟨h0,qa,qb,qc,qd,M,mc,rfl,h1,h2⟩:=hE.1 _ rfl rfl
   clear hE
   have H1:=Lib.hid h1
   have H0:=Lib.hid h0
   clear h1 h2 h0
   go_simp
   exact⟨⟨H0.out,qa,qb,qc,qd,rfl,H1.out⟩,.inl (Below.refl _ _)⟩
  simp only[Act.put,List.setIfInBounds_toArray,List.set_cons_zero,List.set_cons_succ,Rk.envAdd]
  intro x28
  refine Rk.wpAs_act rfl rfl ?_ ?_
  ·intro W hC _ hE
   obtain⟨h0,qa,qb,qc,qd,M,mc,rfl,h1,h2⟩:=hE.2.1 _ rfl rfl
   clear hE
   have H2:=Lib.hid h2
   have H0:=Lib.hid h0
   clear h1 h2 h0
   go_simp
   exact⟨⟨H0.out,M,mc,rfl,H2.out⟩,.inl (Below.refl _ _)⟩
  simp only[Act.put,List.setIfInBounds_toArray,List.set_cons_zero,List.set_cons_succ,Rk.envAdd]
  intro x29
  refine Rk.wpAs_fixed rfl rfl rfl ?_ ?_
  ·intro W hC hE
   obtain⟨h0,qa,qb,qc,qd,M,mc,rfl,h1,h2⟩:=hE.2.2.1 _ rfl rfl
   clear hE h0 h1 h2
   go_simp
   exact⟨rfl,.inl (Below.refl _ _)⟩
  simp only[Act.put,List.setIfInBounds_toArray,List.set_cons_zero,List.set_cons_succ]
  repeat (first
   | (refine Rk.wpAs_skip rfl ?_;simp only[Act.put,List.setIfInBounds_toArray,List.set_cons_zero,List.set_cons_succ])
   | (refine Rk.wpAs_pure (v := ?_) rfl rfl ?_ ?_;rotate_left;(intro W hC hE;clear hE;skip;clear hC;go_simp;done);simp only[Act.put,List.setIfInBounds_toArray,List.set_cons_zero,List.set_cons_succ])
   | (refine Rk.wpAs_pure (v := ?_) rfl rfl ?_ ?_;rotate_left;(intro W hC hE;clear hE;skip;clear hC;go_simp;with_reducible rfl);simp only[Act.put,List.setIfInBounds_toArray,List.set_cons_zero,List.set_cons_succ]))
  refine Rk.wpAs_end fun W hC hE => ?_
  obtain⟨⟨h0,M,mc,rfl,hrow⟩,⟨_,va,vb,vc,vd,rfl,hS⟩,_⟩:=hE
  have hWs:=hC.size
  have keep:∀ k,w.heap.size≤k→k<V.heap.size→W.heap[k]? = V.heap[k]? := fun k h1 h2=>hgV'.out W hC k h2 (fun e=>by have:=hrbw'.out k e;omega)
  have c3:=HB3.out W hC
  have c9:=HB9.out W hC
  have c8:BoxW w4.heap.size #[.int .i64 0] 33 W:=(keep _ (by have:=SZ.out;omega) (Array.getElem?_eq_some_iff.1 hb8.out).1).trans hb8.out
  have c6:BoxW w2.heap.size #[.slice none 0 0,.slice none 0 0,.slice none 0 0,.slice none 0 0] 29 W:=(keep _ (by have:=SZ.out;omega) (Array.getElem?_eq_some_iff.1 hb6.out).1).trans hb6.out
  have c7:BoxW w3.heap.size #[.int .i64 0] 3 W:=(keep _ (by have:=SZ.out;omega) (Array.getElem?_eq_some_iff.1 hb7.out).1).trans hb7.out
  obtain⟨W1,hW1,d3,gr1,gs1⟩:=put_four (a':=.slice va.1 va.2.1 va.2.2) (b':=.slice vb.1 vb.2.1 vb.2.2) (c':=.slice vc.1 vc.2.1 vc.2.2) (d':=.slice vd.1 vd.2.1 vd.2.2) c3
  have c91:BoxW w6.heap.size _ 43 W1:=(gr1.block _ (Array.getElem?_eq_some_iff.1 c9).1 (fun e=>by have:=Option.some.inj e;have:=SZ.out;omega)).trans c9
  obtain⟨W2,hW2,d9,gr2,gs2⟩:=put_one (u:=.slice M nu mc) c91
  have c82:BoxW w4.heap.size #[.int .i64 0] 33 W2:=(gr2.block _ (by rw[gs1];exact(Array.getElem?_eq_some_iff.1 c8).1) (fun e=>by have:=Option.some.inj e;have:=SZ.out;omega)).trans ((gr1.block _ (Array.getElem?_eq_some_iff.1 c8).1 (fun e=>by have:=Option.some.inj e;have:=SZ.out;omega)).trans c8)
  obtain⟨W3,hW3,d8,gr3,gs3⟩:=put_one (u:=.int .i64 er) c82
  obtain⟨m0,m1,m2,m3,mf,_⟩:=four_cells c3
  obtain⟨n0,nf,_⟩:=one_cell c91
  obtain⟨y0,yf,_⟩:=one_cell c82
  obtain⟨y3,_,_⟩:=one_cell d8
  have all3:∀ k,k<W.heap.size→k≠w.heap.size→k≠w6.heap.size→k≠w4.heap.size→W3.heap[k]? = W.heap[k]? := fun k h1 h2 h3 h4 =>
   (gr3.block k (by omega) (fun e=>h4 (Option.some.inj e))).trans ((gr2.block k (by omega) (fun e=>h3 (Option.some.inj e))).trans (gr1.block k h1 (fun e=>h2 (Option.some.inj e))))
  have hs3':W3.heap.size=W.heap.size:=by omega
  have kpt:Hid (Kept (fun k=>k=w.heap.size∨k=w2.heap.size∨k=w3.heap.size∨k=w4.heap.size∨k=w6.heap.size∨∃ q∈l,q.A.map (·.block)=some k) none none V W3):=Lib.hid ((((Kept.refl _ _ _).grown hC fun r e=>.inr (.inr (.inr (.inr (.inr (.inr ⟨q,hqm.out,by rw[hrbe.out,e]⟩)))))).grown gr1 fun r e=>by cases e;exact .inr (.inl rfl)).grown gr2 (fun r e=>by cases e;exact .inr (.inr (.inr (.inr (.inr (.inl rfl)))))) |>.grown gr3 fun r e=>by cases e;exact .inr (.inr (.inr (.inr (.inl rfl)))))
  have hrlo:∀ r,rb=some r→lo≤r:=fun r e=>by have:=hrb'.out r e;omega
  have hb3:Hid (Below lo w W3∧w8.heap.size≤W3.heap.size):=Lib.hid ⟨(((hIb'.out.grown hC (by have:=hIs'.out;have:=SZ.out;omega) hrlo).grown gr1 (by have:=hIs'.out;have:=SZ.out;omega) (fun k e=>by cases e;omega)).grown gr2 (by have:=hIs'.out;have:=SZ.out;omega) (fun k e=>by cases e;have:=SZ.out;omega)).grown gr3 (by have:=hIs'.out;have:=SZ.out;omega) (fun k e=>by cases e;have:=SZ.out;omega),by have:=hIs'.out;omega⟩
  have z6:Hid (BoxW w2.heap.size #[.slice none 0 0,.slice none 0 0,.slice none 0 0,.slice none 0 0] 29 W3):=Lib.hid ((all3 _ (Array.getElem?_eq_some_iff.1 c6).1 (by have:=SZ.out;omega) (by have:=SZ.out;omega) (by have:=SZ.out;omega)).trans c6)
  have z7:Hid (BoxW w3.heap.size #[.int .i64 0] 3 W3):=Lib.hid ((all3 _ (Array.getElem?_eq_some_iff.1 c7).1 (by have:=SZ.out;omega) (by have:=SZ.out;omega) (by have:=SZ.out;omega)).trans c7)
  have z8:Hid (BoxW w4.heap.size #[.int .i64 er] 33 W3):=Lib.hid d8
  have z3:Hid (BoxW w.heap.size #[.slice va.1 va.2.1 va.2.2,.slice vb.1 vb.2.1 vb.2.2,.slice vc.1 vc.2.1 vc.2.2,.slice vd.1 vd.2.1 vd.2.2] 29 W3):=Lib.hid ((gr3.block _ (by have:=SZ.out;have:=hIs'.out;omega) (fun e=>by have:=Option.some.inj e;have:=SZ.out;omega)).trans ((gr2.block _ (by have:=SZ.out;have:=hIs'.out;omega) (fun e=>by have:=Option.some.inj e;have:=SZ.out;omega)).trans d3))
  have z9:Hid (BoxW w6.heap.size #[.slice M nu mc] 43 W3):=Lib.hid ((gr3.block _ (by have:=SZ.out;have:=hIs'.out;omega) (fun e=>by have:=Option.some.inj e;have:=SZ.out;omega)).trans d9)
  have big:∀ k,V.heap.size≤k→k<W.heap.size→W3.heap[k]? = W.heap[k]? := fun k h1 h2=>all3 k h2 (by have:=hIs'.out;have:=SZ.out;omega) (by have:=hIs'.out;have:=SZ.out;omega) (by have:=hIs'.out;have:=SZ.out;omega)
  have hS3:Hid (Sto (Out l0 w8.heap.size W3) W3 (.agg #[.slice va.1 va.2.1 va.2.2,.slice vb.1 vb.2.1 vb.2.2,.slice vc.1 vc.2.1 vc.2.2,.slice vd.1 vd.2.1 vd.2.2]) S'):=Lib.hid (hS.map fun p v hp hc=>⟨⟨.inr (by have:=hIs'.out;have:=hp.1;omega),by have:=hp.2.1;omega⟩,(World.cell?_of_block (big _ hp.1 hp.2.1)).trans hc⟩)
  have hF3:Hid (0<nu→nu≤2→∃ fb',M=some ⟨fb',0,none⟩∧FrB l0 w.heap.size w8.heap.size W3 fb' nu mc up):=Lib.hid fun h1 h2=>by
   obtain⟨zs,e1,e2,e3⟩:=rowOf_cells hrow
   rw[hnu.out] at e2
   obtain⟨ad',rfl⟩:∃ ad',M=some ad':=by
    obtain⟨_,_,e,_,_,_,h5⟩:=own_any e2
    cases e
    exact h5 h1
   obtain⟨b,C,rfl,hb1,hb2,hg1,hn1,hn2,hn3,hn4⟩:=own_block5 e2
   refine⟨b,rfl,hnu.out,h1,h2,by have:=hIs'.out;have:=SZ.out;omega,zs,e1,own_from5 (by have:=hIs'.out;have:=SZ.out;omega) ((big b hb1 hb2).trans hg1) hn1 hn2 hn3 hn4,fun p hp=>⟨(e3 p hp).1,stab_by _ _ _ _ _ _ (fun a v ha hc=>⟨⟨.inr (by have:=hIs'.out;have:=ha.1.1;omega),by have:=ha.1.2.1;omega⟩,(World.cell?_of_block (big _ ha.1.1 ha.1.2.1)).trans hc⟩) (e3 p hp).2⟩⟩
  have hR3:Hid (∀ q'∈l.take (l.length-(pre'++[x']).length),RowAt W3 q'):=Lib.hid fun q' hq'=>by
   obtain⟨h1,h2⟩:=hidx.out q' hq'
   refine(hqr.out q' h2).same fun k h3 h4 => ?_
   have h5:=(hR.out.ok q' (List.mem_of_mem_take h2)).2.2.1
   rw[all3 k (by have:=SZ.out;have:=hIs'.out;omega) (by omega) (by have:=SZ.out;omega) (by have:=SZ.out;omega)]
   exact hgV'.out W hC k (by have:=SZ.out;have:=hIs'.out;omega) (fun e=>by have:=hrb'.out k e;omega)
  have hgA:Hid (growA l.reverse s [x]=if er=0 then growA (l.reverse.drop (pre'++[x']).length) S' up else (er,emptyR,[])):=Lib.hid (by rw[hpl.out,hgr.out,hst.out])
  replace all3:=Lib.hid all3
  replace hs3':=Lib.hid hs3'
  replace d3:=Lib.hid d3
  replace d8:=Lib.hid d8
  replace d9:=Lib.hid d9
  replace gr1:=Lib.hid gr1
  replace gr2:=Lib.hid gr2
  replace gr3:=Lib.hid gr3
  replace hWs:=Lib.hid hWs
  replace gs1:=Lib.hid gs1
  replace gs2:=Lib.hid gs2
  replace gs3:=Lib.hid gs3
  clear keep c3 c9 c8 c6 c7 c91 c82 big hrow hS h0 hrlo hC
  go_wp2_with fail
  simp only[onlyN]
  by_cases he0:er=0
  ·have hgo:Hid (growA l.reverse s [x]=growA (l.reverse.drop (pre'++[x']).length) S' up):=Lib.hid (by rw[hgA.out,if_pos he0])
   obtain⟨hu1,hu2⟩:=hsm.out he0
   obtain⟨fb',rfl,hfr'⟩:=hF3.out hu1 hu2
   have hfin:Hid (GrI l0 lo w.heap.size w8.heap.size w.heap.size w2.heap.size w3.heap.size w4.heap.size w6.heap.size w s x l (pre'++[x'],none) W3):=Lib.hid ⟨rfl,hb3.out,⟨z6.out,z7.out,by have:=z8.out;rwa [he0] at this⟩,S',up,va,vb,vc,vd,fb',nu,mc,hgo.out,z3.out,hS3.out,z9.out,hfr',hR3.out⟩
   subst he0
   clear hfr'
   gi_wp2_with fail
   exact⟨none,kpt.out.wide fun k _ h=>by simpa using h,hfin.out⟩
  ·have t0:(er != 0)=true:=by simpa using he0
   have hgo:Hid (growA l.reverse s [x]=(er,emptyR,[])):=Lib.hid (by rw[hgA.out,if_neg he0])
   replace he0:=Lib.hid he0
   have e6:=z6.out
   have e7:=z7.out
   have e8:=z8.out
   obtain⟨m0,m1,m2,m3,mf,_⟩:=four_cells e6
   obtain⟨n0,nf,_⟩:=one_cell e7
   obtain⟨y0,yf,_⟩:=one_cell e8
   have S6:=Lib.hid (show ∀ W:World,W=W3.drew→(((W.setCell ⟨w2.heap.size,0,none⟩ (.slice none 0 0)).setCell ⟨w2.heap.size,1,none⟩ (.slice none 0 0)).setCell ⟨w2.heap.size,2,none⟩ (.slice none 0 0)).setCell ⟨w2.heap.size,3,none⟩ (.slice none 0 0)=W from fun W e=>by
    subst e
    rw[setCell_self (W:=W3.drew) e6 rfl,setCell_self (W:=W3.drew) e6 rfl,setCell_self (W:=W3.drew) e6 rfl,setCell_self (W:=W3.drew) e6 rfl])
   have S7:=Lib.hid (show ∀ W:World,W=W3.drew→W.setCell ⟨w3.heap.size,0,none⟩ (.int .i64 0)=W from fun W e=>by subst e;exact setCell_self (W:=W3.drew) e7 rfl)
   have S8:=Lib.hid (show ∀ W:World,W=W3.drew→W.setCell ⟨w4.heap.size,0,none⟩ (.int .i64 er)=W from fun W e=>by subst e;exact setCell_self (W:=W3.drew) e8 rfl)
   have hfin:Hid (GrX lo w8.heap.size w2.heap.size w3.heap.size w4.heap.size w s x l .ret (pre'++[x'],none) W3.drew):=Lib.hid ⟨rfl,rfl,⟨hb3.out.1.drew,hb3.out.2⟩,er,e6,e7,e8,hgo.out,he0.out⟩
   have kp3:Hid (Kept (fun k=>k=w.heap.size∨k=w2.heap.size∨k=w3.heap.size∨k=w4.heap.size∨k=w6.heap.size∨∃ q∈l,q.A.map (·.block)=some k) none none V W3.drew):=Lib.hid ⟨kpt.out.size,kpt.out.same⟩
   clear e6 e7 e8
   gi_wp2_with fail
   refine wpIn_onlyN ?_
   clear m0 m1 m2 m3 mf n0 nf y0 yf
   refine wpIn_region_lateB ⟨fun W W'=>W'=W,2,fun _=>True⟩ (ops' := ?opsLate6) (by kernel_rfl) [] ?he6 (by kernel_rfl) (by kernel_rfl) (fun _ _ _ _ _ h=>h) (fun⟨_,_,h⟩=>h) 5 (fun W=>W=W3.drew) (fun _=>none) (fun i=>match i with
    | 2=>some undef
    | 3=>some undef
    | 4=>some undef
    | _=>none) ?h61 ?h62 ?h63 trivial ?hon6 rfl (fun _ _ h e=>e.trans h) (fun _ _ _ _ _ hp=>by cases hp) ?_
   case he6 =>
    simp[withEdges]
    rfl
   case h61=>decide
   case h62=>kernel_rfl
   case h63=>kernel_rfl
   case hon6=>kernel_rfl
   simp only[List.take_succ_cons,List.take_zero,List.drop_succ_cons,List.drop_zero]
   repeat (first
    | (refine Rk.wpAs_skip rfl ?_;simp only[Act.put,List.setIfInBounds_toArray,List.set_cons_zero,List.set_cons_succ])
    | (refine Rk.wpAs_pure (v := ?_) rfl rfl ?_ ?_;rotate_left;(intro W hC hE;clear hE;(have hC':=hC;subst hC';obtain⟨y0,yf,_⟩:=one_cell z8.out);clear hC;go_simp;done);simp only[Act.put,List.setIfInBounds_toArray,List.set_cons_zero,List.set_cons_succ])
    | (refine Rk.wpAs_pure (v := ?_) rfl rfl ?_ ?_;rotate_left;(intro W hC hE;clear hE;(have hC':=hC;subst hC';obtain⟨y0,yf,_⟩:=one_cell z8.out);clear hC;go_simp;with_reducible rfl);simp only[Act.put,List.setIfInBounds_toArray,List.set_cons_zero,List.set_cons_succ]))
   refine Rk.wpAs_fixed rfl rfl rfl ?_ ?_
   ·intro W hC hE
    clear hE
    have hh:=Lib.hid (S6.out W hC)
    have e6:BoxW w2.heap.size #[.slice none 0 0,.slice none 0 0,.slice none 0 0,.slice none 0 0] 29 W:=by rw[hC];exact z6.out
    obtain⟨m0,m1,m2,m3,mf,_⟩:=four_cells e6
    clear hC e6
    go_simp
    first | exact⟨rfl,hh.out⟩ | exact hh.out
   simp only[Act.put]
   refine Rk.wpAs_fixed rfl rfl rfl ?_ ?_
   ·intro W hC hE
    clear hE
    have hh:=Lib.hid (S7.out W hC)
    have e6:BoxW w3.heap.size #[.int .i64 0] 3 W:=by rw[hC];exact z7.out
    obtain⟨m0,mf,_⟩:=one_cell e6
    clear hC e6
    go_simp
    first | exact⟨rfl,hh.out⟩ | exact hh.out
   simp only[Act.put]
   refine Rk.wpAs_fixed rfl rfl rfl ?_ ?_
   ·intro W hC hE
    clear hE
    have hh:=Lib.hid (S8.out W hC)
    have e6:BoxW w4.heap.size #[.int .i64 er] 33 W:=by rw[hC];exact z8.out
    obtain⟨m0,mf,_⟩:=one_cell e6
    clear hC e6
    go_simp
    first | exact⟨rfl,hh.out⟩ | exact hh.out
   simp only[Act.put]
   refine Rk.wpAs_end fun W hC hE => ?_
   subst hC
   go_wp2_with fail
   simp only[onlyN]
   gi_wp2_with fail
   exact⟨none,kp3.out.wide fun k _ h=>by simpa using h,hfin.out⟩
 case done =>
  rintro xs q' V hVs rfl ⟨_,⟨hIb,hIs⟩,⟨hB6,hB7,hB8⟩,sk,F,pa,pb,pc,pd,fb,mf,fc,hgr,hB3,hSto,hB9,hFr,_⟩ hDV hqV
  have hgA:Hid (growA l.reverse s [x]=(0,sk,F)):=Lib.hid (by
   rw[hgr,downs_length,List.drop_of_length_le (by rw[List.length_reverse,hl.out];exact Nat.le_refl _)]
   rfl)
  have hmf:=hFr.pos
  have hm2:=hFr.few
  have hFl:=hFr.len
  have hD1:=Lib.hid hDV
  have hIts:rIts (Old V) V [.slice (some ⟨fb,0,none⟩) mf fc] F:=by
   obtain⟨zs,e1,e2,e3⟩:=hFr.row
   have:=its_of5 e2 (fun p hp=>⟨(e3 p hp).1,stab_by _ _ _ _ _ _ (fun a v ha hc=>⟨ha.2,hc⟩) (e3 p hp).2⟩)
   rwa [e1] at this
  have hSV:Sto (Old V) V (.agg #[.slice pa.1 pa.2.1 pa.2.2,.slice pb.1 pb.2.1 pb.2.2,.slice pc.1 pc.2.1 pc.2.2,.slice pd.1 pd.2.1 pd.2.2]) sk:=hSto.map fun p v hp hc=>⟨hp.2,hc⟩
  obtain⟨k0,k1,k2,k3,kf,_⟩:=four_cells hB3
  obtain⟨n0,nf,_⟩:=one_cell hB9
  obtain⟨y0,yf,_⟩:=one_cell hB8
  replace hgA:=hgA
  have hidx:∃ x0 r0,F=x0::r0:=by
   cases F with
   | nil=>simp at hFl;omega
   | cons a b=>exact⟨a,b,rfl⟩
  obtain⟨x0,r0,hF0⟩:=hidx
  obtain⟨ad0,E0,ce0,e0,_,⟨_,_,_,z3,_⟩,_⟩:=its_at hIts (show F[0]? = some x0 by rw[hF0];rfl)
  cases e0
  have hnow:nowL F=x0.2.1:=by rw[hF0];rfl
  have z3':V.cell? ⟨fb,3,none⟩=some (.int .i64 x0.2.1):=by simpa [Addr.add] using z3
  have hfbh:=hFr.at_
  have g6:=Lib.hid hB6
  have g7:=Lib.hid hB7
  by_cases h1:mf=1
  ·subst h1
   obtain⟨ref,href⟩:∃ r,x0.2.1=r:=⟨_,rfl⟩
   have hcell:=Lib.hid (href ▸ z3')
   obtain⟨S9,hSk⟩:∃ S,sk=S:=⟨_,rfl⟩
   have hO:Hid (growO s l x=(0,S9,ref)):=Lib.hid (by unfold growO;rw[hgA.out,if_pos rfl,if_neg (by rw[hFl];decide),hnow,href,hSk])
   have g3:=Lib.hid hB3
   have g9:=Lib.hid hB9
   have g8:=Lib.hid hB8
   have hD9:=hD1
   have hB9':=Lib.hid hIb
   have hS9:=Lib.hid (hSk ▸ hSto)
   have hfbn:Hid (fb≠w2.heap.size∧fb≠w3.heap.size):=Lib.hid (by
    have hne:∀ (k:Nat) (cs:Array Value) (t:TypeId),t≠40→V.heap[k]? = some (.cells cs t (0,0))→fb≠k:=fun k cs t ht hk e=>by
     subst e
     obtain⟨zs,_,e2,_⟩:=hFr.row
     obtain⟨b,C,eb,_,_,hgg,_⟩:=own_block5 e2
     cases eb
     rw[hk] at hgg
     simp at hgg
     exact ht hgg.2
    exact⟨hne _ _ _ (by decide) hB6,hne _ _ _ (by decide) hB7⟩)
   replace hSk:=Lib.hid hSk
   replace href:=Lib.hid href
   replace hnow:=Lib.hid hnow
   replace hF0:=Lib.hid hF0
   replace hFl:=Lib.hid hFl
   clear hgr z3 z3' hIts hSV hSto hFr hB3 hB9 hB8 hB6 hB7 hDV hqV hIb hmf hm2
   gi_wp2_with fail
   clear k0 k1 k2 k3 kf n0 nf y0 yf
   obtain⟨o6,ho6⟩:∃ o:Obj,o=.cells #[.slice pa.1 pa.2.1 pa.2.2,.slice pb.1 pb.2.1 pb.2.2,.slice pc.1 pc.2.1 pc.2.2,.slice pd.1 pd.2.1 pd.2.2] 29 (0,0):=⟨_,rfl⟩
   obtain⟨o7,ho7⟩:∃ o:Obj,o=.cells #[.int .i64 ref] 3 (0,0):=⟨_,rfl⟩
   obtain⟨fin,hfn⟩:∃ fin,fin=finTwo w2.heap.size o6 w3.heap.size o7:=⟨_,rfl⟩
   have fn6:fin w2.heap.size=some o6:=by rw[hfn];exact finTwo_one _ _ _ _
   have fn7:fin w3.heap.size=some o7:=by rw[hfn];exact finTwo_two (by have:=SZ.out;omega) _ _
   have fnn:∀ k,k≠w2.heap.size→k≠w3.heap.size→fin k=none:=fun k h1 h2=>by rw[hfn];exact finTwo_none h1 h2 _ _
   have K3:=Lib.hid (fun W (hW:KeepT fin V.drew W)=>(hW.other (fnn w.heap.size (by have:=SZ.out;omega) (by have:=SZ.out;omega)) (show V.drew.heap[w.heap.size]? = _ from g3.out):BoxW w.heap.size #[.slice pa.1 pa.2.1 pa.2.2,.slice pb.1 pb.2.1 pb.2.2,.slice pc.1 pc.2.1 pc.2.2,.slice pd.1 pd.2.1 pd.2.2] 29 W))
   have K9:=Lib.hid (fun W (hW:KeepT fin V.drew W)=>(hW.other (fnn w6.heap.size (by have:=SZ.out;omega) (by have:=SZ.out;omega)) (show V.drew.heap[w6.heap.size]? = _ from g9.out):BoxW w6.heap.size #[.slice (some ⟨fb,0,none⟩) 1 fc] 43 W))
   have K8:=Lib.hid (fun W (hW:KeepT fin V.drew W)=>(hW.other (fnn w4.heap.size (by have:=SZ.out;omega) (by have:=SZ.out;omega)) (show V.drew.heap[w4.heap.size]? = _ from g8.out):BoxW w4.heap.size #[.int .i64 0] 33 W))
   have KD:=Lib.hid (fun W (hW:KeepT fin V.drew W)=>(hW.other (fnn w8.heap.size (by have:=SZ.out;omega) (by have:=SZ.out;omega)) (show V.drew.heap[w8.heap.size]? = _ from hD9.out):W.heap[w8.heap.size]? = some (.deferred (some []))))
   have KF:Hid (∀ W,KeepT fin V.drew W→W.cell? ⟨fb,3,none⟩=some (.int .i64 ref)):=Lib.hid fun W hW=>by
    have hc:=hcell.out
    unfold World.cell? at hc
    split at hc
    ·rename_i cs ty fz hb
     have:=hW.other (fnn fb hfbn.out.1 hfbn.out.2) (show V.drew.heap[fb]? = _ from hb)
     unfold World.cell?
     simp only[this]
     exact hc
    ·cases hc
   have K6:Hid (∀ W,KeepT fin V.drew W→∃ a b c d,W.heap[w2.heap.size]? = some (.cells #[a,b,c,d] 29 (0,0))):=Lib.hid fun W hW=>by
    rcases hW.box fn6 (show V.drew.heap[w2.heap.size]? = _ from g6.out) with e | e
    ·exact⟨_,_,_,_,e⟩
    ·rw[ho6] at e;exact⟨_,_,_,_,e⟩
   have K7:Hid (∀ W,KeepT fin V.drew W→∃ a,W.heap[w3.heap.size]? = some (.cells #[a] 3 (0,0))):=Lib.hid fun W hW=>by
    rcases hW.box fn7 (show V.drew.heap[w3.heap.size]? = _ from g7.out) with e | e
    ·exact⟨_,e⟩
    ·rw[ho7] at e;exact⟨_,e⟩
   have KB:=Lib.hid (fun W (hW:KeepT fin V.drew W)=>(⟨hW.os.trans hB9'.out.os,hW.tape.trans hB9'.out.tape,hW.output.trans hB9'.out.output,Nat.le_trans hB9'.out.size hW.size,fun k hk=>by
    rcases hW.block k (by have:=hB9'.out.size;show k<V.heap.size;omega) with e | ⟨o,e,_⟩
    ·exact e.trans (hB9'.out.block k hk)
    ·rw[fnn k (by have:=SZ.out;omega) (by have:=SZ.out;omega)] at e
     cases e⟩:Below lo w W))
   have KS:=Lib.hid (fun W (hW:KeepT fin V.drew W)=>(hS9.out.map fun p v hp hc=>(show Out l0 w8.heap.size W p∧W.cell? p=some v from by
    rcases hW.block p.block hp.2 with e | ⟨o,e,_⟩
    ·exact⟨⟨hp.1,Nat.lt_of_lt_of_le hp.2 hW.size⟩,(World.cell?_of_block (w:=V) e).trans hc⟩
    ·rw[fnn p.block (by have:=SZ.out;rcases hp.1 with h | h <;> omega) (by have:=SZ.out;rcases hp.1 with h | h <;> omega)] at e
     cases e):Sto (Out l0 w8.heap.size W) W (.agg #[.slice pa.1 pa.2.1 pa.2.2,.slice pb.1 pb.2.1 pb.2.2,.slice pc.1 pc.2.1 pc.2.2,.slice pd.1 pd.2.1 pd.2.2]) S9))
   replace fnn:=Lib.hid fnn
   replace fn6:=Lib.hid fn6
   replace fn7:=Lib.hid fn7
   replace ho6:=Lib.hid ho6
   replace ho7:=Lib.hid ho7
   replace hfn:=Lib.hid hfn
   refine wpIn_wide.2 ?_
   refine Rb.wp_region_fx (KeepT fin) (by kernel_rfl) (fun W=>KeepT fin V.drew W) (fun i=>match i with
    | 5=>some (fun _ W=>W.heap[w2.heap.size]? = some o6)
    | 6=>some (fun _ W=>W.heap[w3.heap.size]? = some o7)
    | _=>none) (fun i=>match i with
    | 7=>some undef
    | _=>none) (by kernel_rfl) (KeepT.refl _ _) (fun w w' h hb=>h.trans hb) ?tsta ?_
   case tsta =>
    intro j φ x W W' hp hx hb
    match j,hp with
    | 5,hp=>cases hp;exact hb.done fn6.out hx
    | 6,hp=>cases hp;exact hb.done fn7.out hx
   repeat (first
    | (refine Rb.wpAs_skip rfl ?_;simp only[Act.put,List.setIfInBounds_toArray,List.set_cons_zero,List.set_cons_succ])
    | (refine Rb.wpAs_pure (v := ?_) rfl rfl ?_ ?_;rotate_left;(intro W hC hE;clear hE;(obtain⟨k0,k1,k2,k3,_⟩:=four_cells (K3.out W hC);obtain⟨n0,_⟩:=one_cell (K9.out W hC);have cf:=KF.out W hC);clear hC;go_simp;done);simp only[Act.put,List.setIfInBounds_toArray,List.set_cons_zero,List.set_cons_succ])
    | (refine Rb.wpAs_pure (v := ?_) rfl rfl ?_ ?_;rotate_left;(intro W hC hE;clear hE;(obtain⟨k0,k1,k2,k3,_⟩:=four_cells (K3.out W hC);obtain⟨n0,_⟩:=one_cell (K9.out W hC);have cf:=KF.out W hC);clear hC;go_simp;with_reducible rfl);simp only[Act.put,List.setIfInBounds_toArray,List.set_cons_zero,List.set_cons_succ]))
   refine Rb.wpAs_act rfl rfl ?_ ?_
   ·intro W hC hE
    clear hE
    obtain⟨a,b,c,d,G⟩:=K6.out W hC
    obtain⟨q0,q1,q2,q3,qf,_⟩:=four_cells G
    obtain⟨W1,hW1,e1,gr1,_⟩:=put_four (a':=.slice pa.1 pa.2.1 pa.2.2) (b':=.slice pb.1 pb.2.1 pb.2.2) (c':=.slice pc.1 pc.2.1 pc.2.2) (d':=.slice pd.1 pd.2.1 pd.2.2) G
    rw[← ho6.out] at e1
    have hk:=Lib.hid (KeepT.of_grown gr1 fn6.out e1)
    replace e1:=Lib.hid e1
    clear gr1 G hC
    go_simp
    exact⟨e1.out,hk.out⟩
   simp only[Act.put,Rb.envAdd]
   intro _
   refine Rb.wpAs_act rfl rfl ?_ ?_
   ·intro W hC hE
    clear hE
    obtain⟨a,G⟩:=K7.out W hC
    obtain⟨q0,qf,_⟩:=one_cell G
    obtain⟨W1,hW1,e1,gr1,_⟩:=put_one (u:=.int .i64 ref) G
    rw[← ho7.out] at e1
    have hk:=Lib.hid (KeepT.of_grown gr1 fn7.out e1)
    replace e1:=Lib.hid e1
    clear gr1 G hC
    go_simp
    exact⟨e1.out,hk.out⟩
   simp only[Act.put,Rb.envAdd]
   intro _
   refine Rb.wpAs_fixed rfl rfl rfl ?_ ?_
   ·intro W hC hE
    clear hE
    have G:=K8.out W hC
    obtain⟨q0,qf,_⟩:=one_cell G
    have hs:=Lib.hid (setCell_self (i:=0) (v:=.int .i64 0) G rfl)
    clear G hC
    go_simp
    rw[hs.out]
    exact⟨rfl,KeepT.refl _ _⟩
   simp only[Act.put]
   refine Rb.wpAs_end fun W hC hE => ?_
   have e7:=hE.1
   have e6:=hE.2.1
   rw[ho7.out] at e7
   rw[ho6.out] at e6
   have hD5:=Lib.hid (KD.out W hC)
   have e8:=Lib.hid (K8.out W hC)
   have hBe:=Lib.hid (KB.out W hC)
   have hSe:=Lib.hid (KS.out W hC)
   replace e6:=Lib.hid e6
   replace e7:=Lib.hid e7
   have hWs:=Lib.hid (show V.heap.size≤W.heap.size from hC.size)
   clear hE hC
   simp only[Exit.then]
   gi_wp2_with fail
   refine⟨by simp,.inl ⟨_,_,rfl,run_takeDeferred hD5.out,?_⟩⟩
   have hgp:=grownBy_putObj' W w8.heap.size (.deferred none)
   have hnp:∀ r,some w8.heap.size=some r→∃ o:Obj,W.heap[r]? = some o∧o.isCells=false:=fun r e=>by cases e;exact⟨_,hD5.out,rfl⟩
   obtain⟨m0,m1,m2,m3,_⟩:=four_cells (block_kept e6.out hgp hnp)
   obtain⟨n0,_⟩:=one_cell (block_kept e7.out hgp hnp)
   obtain⟨y0,_⟩:=one_cell (block_kept e8.out hgp hnp)
   refine⟨.tuple #[.agg #[.slice pa.1 pa.2.1 pa.2.2,.slice pb.1 pb.2.1 pb.2.2,.slice pc.1 pc.2.1 pc.2.2,.slice pd.1 pd.2.1 pd.2.2],.int .i64 ref,.int .i64 0],by simp[results,Tryz.f27,go_sem,m0,m1,m2,m3,n0,y0],pa,pb,pc,pd,by rw[hO.out],by rw[hO.out];exact hSe.out.map fun p v hp hc=>⟨⟨by have:=SZ.out;rcases hp.1 with h | h <;> omega,Nat.lt_of_lt_of_le hp.2 hgp.size⟩,cell_kept hc hgp hnp⟩,hBe.out.grown hgp (by have:=SZ.out;have:=hBe.out.size;omega) (fun k e=>by cases e;have:=SZ.out;omega)⟩
  ·have h2:mf=2:=by omega
   subst h2
   have HL:=Lib.hid (lay_any pa pb pc pd sk ((m:Nat):Int) ⟨by omega,by omega⟩ (some ⟨fb,0,none⟩) 2 fc F (some ⟨fb,0,none⟩) 2 fc F V hSV hIts hIts hFl (by decide) hFl (by decide))
   have hsm:=Lib.hid (fun h:(layO sk ((m:Nat):Int) F F).1=0=>lay_some h)
   have hO0:growO s l x=if (layO sk ((m:Nat):Int) F F).1=0 then (0,(layO sk ((m:Nat):Int) F F).2.1,nowL (layO sk ((m:Nat):Int) F F).2.2) else ((layO sk ((m:Nat):Int) F F).1,emptyR,0):=by
    unfold growO
    rw[hgA.out,if_pos rfl,if_pos (by rw[hFl];decide),hl.out]
   obtain⟨er,her⟩:∃ e,(layO sk ((m:Nat):Int) F F).1=e:=⟨_,rfl⟩
   obtain⟨S9,hS'⟩:∃ e,(layO sk ((m:Nat):Int) F F).2.1=e:=⟨_,rfl⟩
   obtain⟨up,hup⟩:∃ e,(layO sk ((m:Nat):Int) F F).2.2=e:=⟨_,rfl⟩
   unfold LayR at HL
   rw[her,hS',hup] at hO0 HL
   rw[her,hup] at hsm
   obtain⟨nu,hnu⟩:∃ e,up.length=e:=⟨_,rfl⟩
   rw[hnu] at HL hsm
   have hIb':=Lib.hid hIb
   have g3:=Lib.hid hB3
   have g9:=Lib.hid hB9
   have g8:=Lib.hid hB8
   replace hO0:=Lib.hid hO0
   replace her:=Lib.hid her
   replace hS':=Lib.hid hS'
   replace hup:=Lib.hid hup
   replace hnu:=Lib.hid hnu
   replace hnow:=Lib.hid hnow
   replace hF0:=Lib.hid hF0
   replace hFl:=Lib.hid hFl
   have hw1:(1:Int)<((2:Nat):Int):=by decide
   clear hgr z3 z3' hIts hSV hSto hFr hB3 hB9 hB8 hB6 hB7 hDV hqV hIb hmf hm2 h1
   gi_wp2_with fail
   refine⟨trivial,?_⟩
   gi_at_call 46
   refine(callsIn_wide.2 HL.out).mono ?_
   rintro e W ⟨va,vb,vc,vd,M,mc,rfl,hS,hrow,hbW⟩
   have c3:=(lasts_boxW _ _ _ _ _ g3.out hbW:BoxW w.heap.size _ _ W)
   have c9:=(lasts_boxW _ _ _ _ _ g9.out hbW:BoxW w6.heap.size _ _ W)
   have c8:=(lasts_boxW _ _ _ _ _ g8.out hbW:BoxW w4.heap.size _ _ W)
   have c6:=(lasts_boxW _ _ _ _ _ g6.out hbW:BoxW w2.heap.size _ _ W)
   have c7:=(lasts_boxW _ _ _ _ _ g7.out hbW:BoxW w3.heap.size _ _ W)
   have cD:=(hbW.block w8.heap.size (Array.getElem?_eq_some_iff.1 hD1.out).1).trans hD1.out
   have hWs:=hbW.size
   obtain⟨W1,hW1,d3,gr1,gs1⟩:=put_four (a':=.slice va.1 va.2.1 va.2.2) (b':=.slice vb.1 vb.2.1 vb.2.2) (c':=.slice vc.1 vc.2.1 vc.2.2) (d':=.slice vd.1 vd.2.1 vd.2.2) c3
   have c91:BoxW w6.heap.size _ 43 W1:=(gr1.block _ (Array.getElem?_eq_some_iff.1 c9).1 (fun e=>by have:=Option.some.inj e;have:=SZ.out;omega)).trans c9
   obtain⟨W2,hW2,d9,gr2,gs2⟩:=put_one (u:=.slice M nu mc) c91
   have c82:BoxW w4.heap.size #[.int .i64 0] 33 W2:=(gr2.block _ (by rw[gs1];exact(Array.getElem?_eq_some_iff.1 c8).1) (fun e=>by have:=Option.some.inj e;have:=SZ.out;omega)).trans ((gr1.block _ (Array.getElem?_eq_some_iff.1 c8).1 (fun e=>by have:=Option.some.inj e;have:=SZ.out;omega)).trans c8)
   obtain⟨W3,hW3,d8,gr3,gs3⟩:=put_one (u:=.int .i64 er) c82
   obtain⟨m0,m1,m2,m3,mf9,_⟩:=four_cells c3
   obtain⟨n0',nf',_⟩:=one_cell c91
   obtain⟨y0',yf',_⟩:=one_cell c82
   obtain⟨y3,_,_⟩:=one_cell d8
   have all3:∀ k,k<W.heap.size→k≠w.heap.size→k≠w6.heap.size→k≠w4.heap.size→W3.heap[k]? = W.heap[k]? := fun k h1 h2 h3 h4 =>
    (gr3.block k (by omega) (fun e=>h4 (Option.some.inj e))).trans ((gr2.block k (by omega) (fun e=>h3 (Option.some.inj e))).trans (gr1.block k h1 (fun e=>h2 (Option.some.inj e))))
   have hs3':W3.heap.size=W.heap.size:=by omega
   have big:∀ k,V.heap.size≤k→k<W.heap.size→W3.heap[k]? = W.heap[k]? := fun k h1 h2=>all3 k h2 (by have:=SZ.out;omega) (by have:=SZ.out;omega) (by have:=SZ.out;omega)
   have hB9':Hid (Below lo w W3):=Lib.hid (((((hIb'.out.trans (hbW.mono (by have:=SZ.out;omega))).grown gr1 (by have:=SZ.out;omega) (fun k e=>by cases e;omega)).grown gr2 (by have:=SZ.out;omega) (fun k e=>by cases e;have:=SZ.out;omega)).grown gr3 (by have:=SZ.out;omega) (fun k e=>by cases e;have:=SZ.out;omega)))
   have z6:Hid (BoxW w2.heap.size #[.slice none 0 0,.slice none 0 0,.slice none 0 0,.slice none 0 0] 29 W3):=Lib.hid ((all3 _ (Array.getElem?_eq_some_iff.1 c6).1 (by have:=SZ.out;omega) (by have:=SZ.out;omega) (by have:=SZ.out;omega)).trans c6)
   have z7:Hid (BoxW w3.heap.size #[.int .i64 0] 3 W3):=Lib.hid ((all3 _ (Array.getElem?_eq_some_iff.1 c7).1 (by have:=SZ.out;omega) (by have:=SZ.out;omega) (by have:=SZ.out;omega)).trans c7)
   have z8:Hid (BoxW w4.heap.size #[.int .i64 er] 33 W3):=Lib.hid d8
   have z3:Hid (BoxW w.heap.size #[.slice va.1 va.2.1 va.2.2,.slice vb.1 vb.2.1 vb.2.2,.slice vc.1 vc.2.1 vc.2.2,.slice vd.1 vd.2.1 vd.2.2] 29 W3):=Lib.hid ((gr3.block _ (by have:=SZ.out;omega) (fun e=>by have:=Option.some.inj e;have:=SZ.out;omega)).trans ((gr2.block _ (by have:=SZ.out;omega) (fun e=>by have:=Option.some.inj e;have:=SZ.out;omega)).trans d3))
   have z9:Hid (BoxW w6.heap.size #[.slice M nu mc] 43 W3):=Lib.hid ((gr3.block _ (by have:=SZ.out;omega) (fun e=>by have:=Option.some.inj e;have:=SZ.out;omega)).trans d9)
   have zD:Hid (W3.heap[w8.heap.size]? = some (.deferred (some []))):=Lib.hid ((all3 _ (Array.getElem?_eq_some_iff.1 cD).1 (by have:=SZ.out;omega) (by have:=SZ.out;omega) (by have:=SZ.out;omega)).trans cD)
   have hS9:Hid (Sto (Out l0 w8.heap.size W3) W3 (.agg #[.slice va.1 va.2.1 va.2.2,.slice vb.1 vb.2.1 vb.2.2,.slice vc.1 vc.2.1 vc.2.2,.slice vd.1 vd.2.1 vd.2.2]) S9):=Lib.hid (hS.map fun p v hp hc=>⟨⟨.inr (by have:=hp.1;omega),by have:=hp.2.1;omega⟩,(World.cell?_of_block (big _ hp.1 hp.2.1)).trans hc⟩)
   have hcl:Hid (0<nu→∃ fb' x1 r1,M=some ⟨fb',0,none⟩∧V.heap.size≤fb'∧up=x1::r1∧W3.cell? ⟨fb',3,none⟩=some (.int .i64 x1.2.1)):=Lib.hid fun hn=>by
    obtain⟨zs,e1,e2,e3⟩:=rowOf_cells hrow
    rw[hnu.out] at e2
    obtain⟨ad',rfl⟩:∃ ad',M=some ad':=by
     obtain⟨_,_,e,_,_,_,h5⟩:=own_any e2
     cases e
     exact h5 hn
    obtain⟨b,C,rfl,hb1,hb2,_⟩:=own_block5 e2
    obtain⟨x1,r1,hu⟩:∃ x1 r1,up=x1::r1:=by
     cases up with
     | nil=>have:=hnu.out;simp at this;omega
     | cons a b=>exact⟨a,b,rfl⟩
    refine⟨b,x1,r1,rfl,hb1,hu,?_⟩
    have hr2:=hrow.rel stab_it
    obtain⟨ad2,E2,ce2,e2',_,⟨_,_,_,z3',_⟩,_⟩:=its_at hr2 (show up[0]? = some x1 by rw[hu];rfl)
    cases e2'
    rw[World.cell?_of_block (big _ hb1 hb2)]
    simpa [Addr.add] using z3'
   replace all3:=Lib.hid all3
   replace hs3':=Lib.hid hs3'
   replace d3:=Lib.hid d3
   replace d8:=Lib.hid d8
   replace d9:=Lib.hid d9
   replace gr1:=Lib.hid gr1
   replace gr2:=Lib.hid gr2
   replace gr3:=Lib.hid gr3
   replace hWs:=Lib.hid hWs
   replace gs1:=Lib.hid gs1
   replace gs2:=Lib.hid gs2
   replace gs3:=Lib.hid gs3
   clear c3 c9 c8 c6 c7 c91 c82 cD big hrow hS hbW k0 k1 k2 k3 kf n0 nf y0 yf g3 g9 g8 g6 g7
   by_cases he0:er=0
   ·subst he0
    obtain⟨hu1,hu2⟩:=hsm.out rfl
    obtain⟨fb',x1,r1,rfl,hfb',hu,hc1⟩:=hcl.out hu1
    obtain⟨ref,href⟩:∃ r,x1.2.1=r:=⟨_,rfl⟩
    rw[href] at hc1
    have hcell:=Lib.hid hc1
    have hO:Hid (growO s l x=(0,S9,ref)):=Lib.hid (by rw[hO0.out,if_pos rfl,hu];show (0,S9,x1.2.1)=_;rw[href])
    have g3:=z3
    have g9:=z9
    have g8:=z8
    have g6:=z6
    have g7:=z7
    have hD9:=zD
    have hfbn:Hid (fb'≠w2.heap.size∧fb'≠w3.heap.size):=Lib.hid ⟨by have:=SZ.out;omega,by have:=SZ.out;omega⟩
    have hIs9:=Lib.hid (show w8.heap.size≤W3.heap.size from by have:=hs3'.out;have:=hWs.out;omega)
    replace hu:=Lib.hid hu
    replace href:=Lib.hid href
    replace hfb':=Lib.hid hfb'
    have i0:(0:Int)<(nu:Int):=by omega
    clear hc1
    gi_wp2_with fail
    clear m0 m1 m2 m3 mf9 n0' nf' y0' yf' y3
    obtain⟨o6,ho6⟩:∃ o:Obj,o=.cells #[.slice va.1 va.2.1 va.2.2,.slice vb.1 vb.2.1 vb.2.2,.slice vc.1 vc.2.1 vc.2.2,.slice vd.1 vd.2.1 vd.2.2] 29 (0,0):=⟨_,rfl⟩
    obtain⟨o7,ho7⟩:∃ o:Obj,o=.cells #[.int .i64 ref] 3 (0,0):=⟨_,rfl⟩
    obtain⟨fin,hfn⟩:∃ fin,fin=finTwo w2.heap.size o6 w3.heap.size o7:=⟨_,rfl⟩
    have fn6:fin w2.heap.size=some o6:=by rw[hfn];exact finTwo_one _ _ _ _
    have fn7:fin w3.heap.size=some o7:=by rw[hfn];exact finTwo_two (by have:=SZ.out;omega) _ _
    have fnn:∀ k,k≠w2.heap.size→k≠w3.heap.size→fin k=none:=fun k h1 h2=>by rw[hfn];exact finTwo_none h1 h2 _ _
    have K3:=Lib.hid (fun W (hW:KeepT fin W3.drew W)=>(hW.other (fnn w.heap.size (by have:=SZ.out;omega) (by have:=SZ.out;omega)) (show W3.drew.heap[w.heap.size]? = _ from g3.out):BoxW w.heap.size #[.slice va.1 va.2.1 va.2.2,.slice vb.1 vb.2.1 vb.2.2,.slice vc.1 vc.2.1 vc.2.2,.slice vd.1 vd.2.1 vd.2.2] 29 W))
    have K9:=Lib.hid (fun W (hW:KeepT fin W3.drew W)=>(hW.other (fnn w6.heap.size (by have:=SZ.out;omega) (by have:=SZ.out;omega)) (show W3.drew.heap[w6.heap.size]? = _ from g9.out):BoxW w6.heap.size #[.slice (some ⟨fb',0,none⟩) nu mc] 43 W))
    have K8:=Lib.hid (fun W (hW:KeepT fin W3.drew W)=>(hW.other (fnn w4.heap.size (by have:=SZ.out;omega) (by have:=SZ.out;omega)) (show W3.drew.heap[w4.heap.size]? = _ from g8.out):BoxW w4.heap.size #[.int .i64 0] 33 W))
    have KD:=Lib.hid (fun W (hW:KeepT fin W3.drew W)=>(hW.other (fnn w8.heap.size (by have:=SZ.out;omega) (by have:=SZ.out;omega)) (show W3.drew.heap[w8.heap.size]? = _ from hD9.out):W.heap[w8.heap.size]? = some (.deferred (some []))))
    have KF:Hid (∀ W,KeepT fin W3.drew W→W.cell? ⟨fb',3,none⟩=some (.int .i64 ref)):=Lib.hid fun W hW=>by
     have hc:=hcell.out
     unfold World.cell? at hc
     split at hc
     ·rename_i cs ty fz hb
      have:=hW.other (fnn fb' hfbn.out.1 hfbn.out.2) (show W3.drew.heap[fb']? = _ from hb)
      unfold World.cell?
      simp only[this]
      exact hc
     ·cases hc
    have K6:Hid (∀ W,KeepT fin W3.drew W→∃ a b c d,W.heap[w2.heap.size]? = some (.cells #[a,b,c,d] 29 (0,0))):=Lib.hid fun W hW=>by
     rcases hW.box fn6 (show W3.drew.heap[w2.heap.size]? = _ from g6.out) with e | e
     ·exact⟨_,_,_,_,e⟩
     ·rw[ho6] at e;exact⟨_,_,_,_,e⟩
    have K7:Hid (∀ W,KeepT fin W3.drew W→∃ a,W.heap[w3.heap.size]? = some (.cells #[a] 3 (0,0))):=Lib.hid fun W hW=>by
     rcases hW.box fn7 (show W3.drew.heap[w3.heap.size]? = _ from g7.out) with e | e
     ·exact⟨_,e⟩
     ·rw[ho7] at e;exact⟨_,e⟩
    have KB:=Lib.hid (fun W (hW:KeepT fin W3.drew W)=>(⟨hW.os.trans hB9'.out.os,hW.tape.trans hB9'.out.tape,hW.output.trans hB9'.out.output,Nat.le_trans hB9'.out.size hW.size,fun k hk=>by
     rcases hW.block k (by have:=hB9'.out.size;show k<W3.heap.size;omega) with e | ⟨o,e,_⟩
     ·exact e.trans (hB9'.out.block k hk)
     ·rw[fnn k (by have:=SZ.out;omega) (by have:=SZ.out;omega)] at e
      cases e⟩:Below lo w W))
    have KS:=Lib.hid (fun W (hW:KeepT fin W3.drew W)=>(hS9.out.map fun p v hp hc=>(show Out l0 w8.heap.size W p∧W.cell? p=some v from by
     rcases hW.block p.block hp.2 with e | ⟨o,e,_⟩
     ·exact⟨⟨hp.1,Nat.lt_of_lt_of_le hp.2 hW.size⟩,(World.cell?_of_block (w:=W3) e).trans hc⟩
     ·rw[fnn p.block (by have:=SZ.out;rcases hp.1 with h | h <;> omega) (by have:=SZ.out;rcases hp.1 with h | h <;> omega)] at e
      cases e):Sto (Out l0 w8.heap.size W) W (.agg #[.slice va.1 va.2.1 va.2.2,.slice vb.1 vb.2.1 vb.2.2,.slice vc.1 vc.2.1 vc.2.2,.slice vd.1 vd.2.1 vd.2.2]) S9))
    replace fnn:=Lib.hid fnn
    replace fn6:=Lib.hid fn6
    replace fn7:=Lib.hid fn7
    replace ho6:=Lib.hid ho6
    replace ho7:=Lib.hid ho7
    replace hfn:=Lib.hid hfn
    refine wpIn_wide.2 ?_
    refine Rb.wp_region_fx (KeepT fin) (by kernel_rfl) (fun W=>KeepT fin W3.drew W) (fun i=>match i with
     | 5=>some (fun _ W=>W.heap[w2.heap.size]? = some o6)
     | 6=>some (fun _ W=>W.heap[w3.heap.size]? = some o7)
     | _=>none) (fun i=>match i with
     | 7=>some undef
     | _=>none) (by kernel_rfl) (KeepT.refl _ _) (fun w w' h hb=>h.trans hb) ?tstb ?_
    case tstb =>
     intro j φ x W W' hp hx hb
     match j,hp with
     | 5,hp=>cases hp;exact hb.done fn6.out hx
     | 6,hp=>cases hp;exact hb.done fn7.out hx
    repeat (first
     | (refine Rb.wpAs_skip rfl ?_;simp only[Act.put,List.setIfInBounds_toArray,List.set_cons_zero,List.set_cons_succ])
     | (refine Rb.wpAs_pure (v := ?_) rfl rfl ?_ ?_;rotate_left;(intro W hC hE;clear hE;(obtain⟨k0,k1,k2,k3,_⟩:=four_cells (K3.out W hC);obtain⟨n0,_⟩:=one_cell (K9.out W hC);have cf:=KF.out W hC);clear hC;go_simp;done);simp only[Act.put,List.setIfInBounds_toArray,List.set_cons_zero,List.set_cons_succ])
     | (refine Rb.wpAs_pure (v := ?_) rfl rfl ?_ ?_;rotate_left;(intro W hC hE;clear hE;(obtain⟨k0,k1,k2,k3,_⟩:=four_cells (K3.out W hC);obtain⟨n0,_⟩:=one_cell (K9.out W hC);have cf:=KF.out W hC);clear hC;go_simp;with_reducible rfl);simp only[Act.put,List.setIfInBounds_toArray,List.set_cons_zero,List.set_cons_succ]))
    refine Rb.wpAs_act rfl rfl ?_ ?_
    ·intro W hC hE
     clear hE
     obtain⟨a,b,c,d,G⟩:=K6.out W hC
     obtain⟨q0,q1,q2,q3,qf,_⟩:=four_cells G
     obtain⟨W1,hW1,e1,gr1,_⟩:=put_four (a':=.slice va.1 va.2.1 va.2.2) (b':=.slice vb.1 vb.2.1 vb.2.2) (c':=.slice vc.1 vc.2.1 vc.2.2) (d':=.slice vd.1 vd.2.1 vd.2.2) G
     rw[← ho6.out] at e1
     have hk:=Lib.hid (KeepT.of_grown gr1 fn6.out e1)
     replace e1:=Lib.hid e1
     clear gr1 G hC
     go_simp
     exact⟨e1.out,hk.out⟩
    simp only[Act.put,Rb.envAdd]
    intro _
    refine Rb.wpAs_act rfl rfl ?_ ?_
    ·intro W hC hE
     clear hE
     obtain⟨a,G⟩:=K7.out W hC
     obtain⟨q0,qf,_⟩:=one_cell G
     obtain⟨W1,hW1,e1,gr1,_⟩:=put_one (u:=.int .i64 ref) G
     rw[← ho7.out] at e1
     have hk:=Lib.hid (KeepT.of_grown gr1 fn7.out e1)
     replace e1:=Lib.hid e1
     clear gr1 G hC
     go_simp
     exact⟨e1.out,hk.out⟩
    simp only[Act.put,Rb.envAdd]
    intro _
    refine Rb.wpAs_fixed rfl rfl rfl ?_ ?_
    ·intro W hC hE
     clear hE
     have G:=K8.out W hC
     obtain⟨q0,qf,_⟩:=one_cell G
     have hs:=Lib.hid (setCell_self (i:=0) (v:=.int .i64 0) G rfl)
     clear G hC
     go_simp
     rw[hs.out]
     exact⟨rfl,KeepT.refl _ _⟩
    simp only[Act.put]
    refine Rb.wpAs_end fun W hC hE => ?_
    have e7:=hE.1
    have e6:=hE.2.1
    rw[ho7.out] at e7
    rw[ho6.out] at e6
    have hD5:=Lib.hid (KD.out W hC)
    have e8:=Lib.hid (K8.out W hC)
    have hBe:=Lib.hid (KB.out W hC)
    have hSe:=Lib.hid (KS.out W hC)
    replace e6:=Lib.hid e6
    replace e7:=Lib.hid e7
    have hWs:=Lib.hid (show W3.heap.size≤W.heap.size from hC.size)
    clear hE hC
    simp only[Exit.then]
    gi_wp2_with fail
    refine⟨by simp,.inl ⟨_,_,rfl,run_takeDeferred hD5.out,?_⟩⟩
    have hgp:=grownBy_putObj' W w8.heap.size (.deferred none)
    have hnp:∀ r,some w8.heap.size=some r→∃ o:Obj,W.heap[r]? = some o∧o.isCells=false:=fun r e=>by cases e;exact⟨_,hD5.out,rfl⟩
    obtain⟨m0,m1,m2,m3,_⟩:=four_cells (block_kept e6.out hgp hnp)
    obtain⟨n0,_⟩:=one_cell (block_kept e7.out hgp hnp)
    obtain⟨y0,_⟩:=one_cell (block_kept e8.out hgp hnp)
    refine⟨.tuple #[.agg #[.slice va.1 va.2.1 va.2.2,.slice vb.1 vb.2.1 vb.2.2,.slice vc.1 vc.2.1 vc.2.2,.slice vd.1 vd.2.1 vd.2.2],.int .i64 ref,.int .i64 0],by simp[results,Tryz.f27,go_sem,m0,m1,m2,m3,n0,y0],va,vb,vc,vd,by rw[hO.out],by rw[hO.out];exact hSe.out.map fun p v hp hc=>⟨⟨by have:=SZ.out;rcases hp.1 with h | h <;> omega,Nat.lt_of_lt_of_le hp.2 hgp.size⟩,cell_kept hc hgp hnp⟩,hBe.out.grown hgp (by have:=SZ.out;have:=hBe.out.size;omega) (fun k e=>by cases e;have:=SZ.out;omega)⟩
   ·have t0:(er != 0)=true:=by simpa using he0
    have hO:Hid (growO s l x=(er,emptyR,0)):=Lib.hid (by rw[hO0.out,if_neg he0])
    replace he0:=Lib.hid he0
    have S6:=Lib.hid (show ∀ W:World,W=W3.drew→(((W.setCell ⟨w2.heap.size,0,none⟩ (.slice none 0 0)).setCell ⟨w2.heap.size,1,none⟩ (.slice none 0 0)).setCell ⟨w2.heap.size,2,none⟩ (.slice none 0 0)).setCell ⟨w2.heap.size,3,none⟩ (.slice none 0 0)=W from fun W e=>by
     subst e
     have e6:BoxW w2.heap.size #[.slice none 0 0,.slice none 0 0,.slice none 0 0,.slice none 0 0] 29 W3.drew:=z6.out
     rw[setCell_self (W:=W3.drew) e6 rfl,setCell_self (W:=W3.drew) e6 rfl,setCell_self (W:=W3.drew) e6 rfl,setCell_self (W:=W3.drew) e6 rfl])
    have S7:=Lib.hid (show ∀ W:World,W=W3.drew→W.setCell ⟨w3.heap.size,0,none⟩ (.int .i64 0)=W from fun W e=>by subst e;exact setCell_self (W:=W3.drew) z7.out rfl)
    have S8:=Lib.hid (show ∀ W:World,W=W3.drew→W.setCell ⟨w4.heap.size,0,none⟩ (.int .i64 er)=W from fun W e=>by subst e;exact setCell_self (W:=W3.drew) z8.out rfl)
    gi_wp2_with fail
    clear m0 m1 m2 m3 mf9 n0' nf' y0' yf' y3
    refine wpIn_wide.2 ?_
    refine Rb.wp_region_fx (fun W W'=>W'=W) (by kernel_rfl) (fun W=>W=W3.drew) (fun _=>none) (fun i=>match i with
     | 2=>some undef
     | 3=>some undef
     | 4=>some undef
     | _=>none) (by kernel_rfl) rfl (fun _ _ h e=>e.trans h) (fun _ _ _ _ _ hp=>by cases hp) ?_
    repeat (first
     | (refine Rb.wpAs_skip rfl ?_;simp only[Act.put,List.setIfInBounds_toArray,List.set_cons_zero,List.set_cons_succ])
     | (refine Rb.wpAs_pure (v := ?_) rfl rfl ?_ ?_;rotate_left;(intro W hC hE;clear hE;(have hC':=hC;subst hC';obtain⟨y0,yf,_⟩:=one_cell z8.out);clear hC;go_simp;done);simp only[Act.put,List.setIfInBounds_toArray,List.set_cons_zero,List.set_cons_succ])
     | (refine Rb.wpAs_pure (v := ?_) rfl rfl ?_ ?_;rotate_left;(intro W hC hE;clear hE;(have hC':=hC;subst hC';obtain⟨y0,yf,_⟩:=one_cell z8.out);clear hC;go_simp;with_reducible rfl);simp only[Act.put,List.setIfInBounds_toArray,List.set_cons_zero,List.set_cons_succ]))
    refine Rb.wpAs_fixed rfl rfl rfl ?_ ?_
    ·intro W hC hE
     clear hE
     have hh:=Lib.hid (S6.out W hC)
     have e6:BoxW w2.heap.size #[.slice none 0 0,.slice none 0 0,.slice none 0 0,.slice none 0 0] 29 W:=by rw[hC];exact z6.out
     obtain⟨m0,m1,m2,m3,mf,_⟩:=four_cells e6
     clear hC e6
     go_simp
     first | exact⟨rfl,hh.out⟩ | exact hh.out
    simp only[Act.put]
    refine Rb.wpAs_fixed rfl rfl rfl ?_ ?_
    ·intro W hC hE
     clear hE
     have hh:=Lib.hid (S7.out W hC)
     have e6:BoxW w3.heap.size #[.int .i64 0] 3 W:=by rw[hC];exact z7.out
     obtain⟨m0,mf,_⟩:=one_cell e6
     clear hC e6
     go_simp
     first | exact⟨rfl,hh.out⟩ | exact hh.out
    simp only[Act.put]
    refine Rb.wpAs_fixed rfl rfl rfl ?_ ?_
    ·intro W hC hE
     clear hE
     have hh:=Lib.hid (S8.out W hC)
     have e6:BoxW w4.heap.size #[.int .i64 er] 33 W:=by rw[hC];exact z8.out
     obtain⟨m0,mf,_⟩:=one_cell e6
     clear hC e6
     go_simp
     first | exact⟨rfl,hh.out⟩ | exact hh.out
    simp only[Act.put]
    refine Rb.wpAs_end fun W hC hE => ?_
    subst hC
    clear hE
    simp only[Exit.then]
    have hD5:Hid (W3.drew.heap[w8.heap.size]? = some (.deferred (some []))):=zD
    gi_wp2_with fail
    refine⟨by simp,.inl ⟨_,_,rfl,run_takeDeferred hD5.out,?_⟩⟩
    have hgp:=grownBy_putObj' W3.drew w8.heap.size (.deferred none)
    have hnp:∀ r,some w8.heap.size=some r→∃ o:Obj,W3.drew.heap[r]? = some o∧o.isCells=false:=fun r e=>by cases e;exact⟨_,hD5.out,rfl⟩
    obtain⟨m0,m1,m2,m3,_⟩:=four_cells (block_kept (show W3.drew.heap[w2.heap.size]? = _ from z6.out) hgp hnp)
    obtain⟨n0,_⟩:=one_cell (block_kept (show W3.drew.heap[w3.heap.size]? = _ from z7.out) hgp hnp)
    obtain⟨y0,_⟩:=one_cell (block_kept (show W3.drew.heap[w4.heap.size]? = _ from z8.out) hgp hnp)
    refine⟨.tuple #[.agg #[.slice none 0 0,.slice none 0 0,.slice none 0 0,.slice none 0 0],.int .i64 0,.int .i64 er],by simp[results,Tryz.f27,go_sem,m0,m1,m2,m3,n0,y0],(none,0,0),(none,0,0),(none,0,0),(none,0,0),by rw[hO.out],by rw[hO.out];exact sto_empty _ _,hB9'.out.drew.grown hgp (by have:=SZ.out;have:=hB9'.out.size;show lo≤W3.heap.size;omega) (fun k e=>by cases e;have:=SZ.out;omega)⟩
 case stop =>
  rintro c pre' q' V hVs ⟨rfl,_,⟨hIb,hIs⟩,er,hB6,hB7,hB8,hgA,he0⟩ hDV hqV
  have hD1:=Lib.hid hDV
  have z6:=Lib.hid hB6
  have z7:=Lib.hid hB7
  have z8:=Lib.hid hB8
  have hb:=Lib.hid hIb
  have hO:Hid (growO s l x=(er,emptyR,0)):=Lib.hid (by unfold growO;rw[hgA,if_neg he0])
  clear hB6 hB7 hB8 hgA he0 hDV hqV hIb
  gi_wp2_with fail
  refine⟨by simp,.inl ⟨_,_,rfl,run_takeDeferred hD1.out,?_⟩⟩
  have hgp:=grownBy_putObj' V w8.heap.size (.deferred none)
  have hnp:∀ r,some w8.heap.size=some r→∃ o:Obj,V.heap[r]? = some o∧o.isCells=false:=fun r e=>by cases e;exact⟨_,hD1.out,rfl⟩
  obtain⟨m0,m1,m2,m3,_⟩:=four_cells (block_kept z6.out hgp hnp)
  obtain⟨n0,_⟩:=one_cell (block_kept z7.out hgp hnp)
  obtain⟨y0,_⟩:=one_cell (block_kept z8.out hgp hnp)
  refine⟨.tuple #[.agg #[.slice none 0 0,.slice none 0 0,.slice none 0 0,.slice none 0 0],.int .i64 0,.int .i64 er],by simp[results,Tryz.f27,go_sem,m0,m1,m2,m3,n0,y0],(none,0,0),(none,0,0),(none,0,0),(none,0,0),by rw[hO.out],by rw[hO.out];exact sto_empty _ _,hb.out.grown hgp (by have:=SZ.out;omega) (fun k e=>by cases e;have:=SZ.out;omega)⟩
end Go.Proofs.YtogieepfimpdmaaGreat
/-
 Package put: Put. Conditions: those that each lemma states.
-/
namespace Go.Proofs.YtogieepfimpdmaaGreat
open Go.RowKit
def WayL (s:Rm) (k:Ky) (a:Int) (l:List Sv):Prop:=l.length=(rmV s a).1.toNat+1∧∀ i q,l[i]? = some q→q.nd=rmV s (atW s k a i)∧(q.pl,q.inst)=stpN q.nd k
noncomputable def putS (s:Rm) (a:Int) (x:It) (l:List Sv):Int×Rm×Int :=
 if ckE s a≠0 then (ckE s a,emptyR,0)
 else if citE s x≠0 then (citE s x,emptyR,0)
 else if (rmV s a).1=5∧partF l.reverse 1=true then (120,emptyR,0)
 else if (growO s l x).1≠0 then ((growO s l x).1,emptyR,0)
 else if lvE (growO s l x).2.1 a≠0 then (lvE (growO s l x).2.1 a,emptyR,0)
 else (0,lvV (growO s l x).2.1 a,(growO s l x).2.2)
def PutR (s:Rm) (a:Int) (x:It) (w:World) (e:Ending) (w':World):Prop:=∃ (l:List Sv) (qa qb qc qd:Option Addr×Nat×Nat),(ckE s a=0→citE s x=0→WayL s x.1 a l) ∧
 e=.returned (.tuple #[.agg #[.slice qa.1 qa.2.1 qa.2.2,.slice qb.1 qb.2.1 qb.2.2,.slice qc.1 qc.2.1 qc.2.2,.slice qd.1 qd.2.1 qd.2.2],.int .i64 (putS s a x l).2.2,.int .i64 (putS s a x l).1]) ∧
 Sto (New w.heap.size w') w' (.agg #[.slice qa.1 qa.2.1 qa.2.2,.slice qb.1 qb.2.1 qb.2.2,.slice qc.1 qc.2.1 qc.2.2,.slice qd.1 qd.2.1 qd.2.2]) (putS s a x l).2.1∧Below w.heap.size w w'
theorem WayIs.below {lo:Nat} {s:Rm} {k:Ky} {a:Int} {W W':World} {A:Option Addr} {c:Nat} {l:List Sv} (h:WayIs lo s k a W A c l) (hb:Below W.heap.size W W'):WayIs lo s k a W' A c l :=
 ⟨own_below h.row hb,⟨fun q hq=>by
  obtain⟨h1,h2,h3,h4⟩:=h.rows.ok q hq
  exact⟨h1,h2,Nat.le_trans h3 hb.size,h4.same fun k k1 k2=>hb.block k (by omega)⟩,h.rows.apart⟩,h.off,h.are⟩
theorem way_ok {s:Rm} {k:Ky} {a:Int} {lv:Nat} {l:List Sv} (hT:AtT s lv a) (hl:l.length=lv+1) (_:lv<6) (are:∀ i q,l[i]? = some q→q.nd=rmV s (atW s k a i)∧(q.pl,q.inst)=stpN q.nd k):∀ q∈l,In64 q.nd.1∧q.nd.2.length≤5∧q.pl+(if q.inst=true then 1 else 0)≤q.nd.2.length:=by
 intro q hq
 obtain⟨i,hi,rfl⟩:=List.getElem_of_mem hq
 obtain⟨e1,e2⟩:=are i _ (List.getElem?_eq_getElem hi)
 have hA:=at_down (k:=k) hT i (by omega)
 have hlv:=hA.lvl
 have hm:=hA.may
 rw[← e1] at hlv hm
 obtain⟨⟨_,_,h5,hne⟩,_⟩:=mayN_of hm
 refine⟨⟨by omega,by omega⟩,h5,?_⟩
 generalize l[i]=q at *
 unfold stpN at e2
 split at e2
 ·simp only[Prod.mk.injEq] at e2
  rw[e2.1,e2.2]
  split
  ·rename_i ht
   exact place_in ht
  ·exact placeN_le _ _
 ·simp only[Prod.mk.injEq] at e2
  rw[e2.1,e2.2]
  exact way_in k (hne (by omega))
set_option maxRecDepth 100000 in
set_option maxHeartbeats 8000000 in
theorem putPut_any (qa qb qc qd:Option Addr×Nat×Nat) (s:Rm) (a:Int) (x:It) (E:Option Addr) (ce:Nat) (w:World) (h:Sto (Old w) w (.agg #[.slice qa.1 qa.2.1 qa.2.2,.slice qb.1 qb.2.1 qb.2.2,.slice qc.1 qc.2.1 qc.2.2,.slice qd.1 qd.2.1 qd.2.2]) s) (hx:Itm (Old w) w (itV x (.slice E x.2.2.length ce)) x) :
  Calls Tryz.prog 10 #[.agg #[.slice qa.1 qa.2.1 qa.2.2,.slice qb.1 qb.2.1 qb.2.2,.slice qc.1 qc.2.1 qc.2.2,.slice qd.1 qd.2.1 qd.2.2],.int .i64 a,itV x (.slice E x.2.2.length ce)] w (PutR s a x w):=by
 obtain⟨w1,hw1,b1,hs1,hB1⟩:=box_4 w (.slice qa.1 qa.2.1 qa.2.2) (.slice qb.1 qb.2.1 qb.2.2) (.slice qc.1 qc.2.1 qc.2.2) (.slice qd.1 qd.2.1 qd.2.2) 29
 obtain⟨w2,hw2,-,-,-,-,-,hs2,hB2,b2⟩:=box_five w1 (.int .u8 (x.1.1.toNat:Int)) (.int .u32 x.1.2.1) (.int .u32 x.1.2.2) (.int .i64 x.2.1) (.slice E x.2.2.length ce) 40
 obtain⟨w3,hw3,b3,hs3,hB3⟩:=box_4 w2 (.slice none 0 0) (.slice none 0 0) (.slice none 0 0) (.slice none 0 0) 29
 have hB12:=hB1.trans (hB2.mono hB1.size)
 have hB13:=hB12.trans (hB3.mono hB12.size)
 have B3:=Lib.hid hB13
 have SZ:=Lib.hid (show w1.heap.size=w.heap.size+1∧w2.heap.size=w.heap.size+2∧w3.heap.size=w.heap.size+3 from by omega)
 have G1:=Lib.hid ((hB3.block w.heap.size (by omega)).trans ((hB2.block w.heap.size (by omega)).trans b1))
 have G2:=Lib.hid ((hB3.block w1.heap.size (by omega)).trans b2)
 have G3:=Lib.hid b3
 have hS0:=Lib.hid h
 have hX0:=Lib.hid hx
 have HS:=Lib.hid (fun W (hW:Below w3.heap.size w3 W)=>h.below (hB13.trans (hW.mono hB13.size)))
 have HX:=Lib.hid (fun W (hW:Below w3.heap.size w3 W)=>hx.below (hB13.trans (hW.mono hB13.size)))
 have KC:=Lib.hid (fun W (hW:Below w3.heap.size w3 W)=>And.intro ((hW.block w.heap.size (by omega)).trans G1.out) (And.intro ((hW.block w1.heap.size (by omega)).trans G2.out) ((hW.block w2.heap.size (by omega)).trans G3.out)))
 have hzero:Hid (∀ (er:Int) (W:World) (v0 v1 v2 v3:Value) (l:List Sv),W.heap[w2.heap.size]? = some (.cells #[v0,v1,v2,v3] 29 (0,0))→Below w.heap.size w W→(ckE s a=0→citE s x=0→WayL s x.1 a l)→putS s a x l=(er,emptyR,0) →
   ∃ W9,(((W.setCell ⟨w2.heap.size,0,none⟩ (.slice none 0 0)).setCell ⟨w2.heap.size,1,none⟩ (.slice none 0 0)).setCell ⟨w2.heap.size,2,none⟩ (.slice none 0 0)).setCell ⟨w2.heap.size,3,none⟩ (.slice none 0 0)=W9 ∧
   W9.cell? ⟨w2.heap.size,0,none⟩=some (.slice none 0 0)∧W9.cell? ⟨w2.heap.size,1,none⟩=some (.slice none 0 0)∧W9.cell? ⟨w2.heap.size,2,none⟩=some (.slice none 0 0)∧W9.cell? ⟨w2.heap.size,3,none⟩=some (.slice none 0 0) ∧
   PutR s a x w (.returned (.tuple #[.agg #[.slice none 0 0,.slice none 0 0,.slice none 0 0,.slice none 0 0],.int .i64 0,.int .i64 er])) W9):=Lib.hid fun er W v0 v1 v2 v3 l bW hW hl he=>by
  obtain⟨W9,e9,g9,gr9,_⟩:=put_four (a':=.slice none 0 0) (b':=.slice none 0 0) (c':=.slice none 0 0) (d':=.slice none 0 0) bW
  obtain⟨k0,k1,k2,k3,_⟩:=four_cells g9
  exact⟨W9,e9,k0,k1,k2,k3,l,(none,0,0),(none,0,0),(none,0,0),(none,0,0),hl,by rw[he],by rw[he];exact sto_empty _ _,hW.grown gr9 hW.size (fun q e=>by cases e;omega)⟩
 have hC3:=KC.out w3 (Below.refl _ _)
 obtain⟨k0,k1,k2,k3,_⟩:=four_cells hC3.1
 replace hs1:=Lib.hid hs1
 replace hs2:=Lib.hid hs2
 replace hs3:=Lib.hid hs3
 clear h hx hB1 hB2 hB3 hB12 hB13 b1 b2 b3 hC3
 unfold itV
 go_enter Tryz.func10,Tryz.ntmps10
 go_upto_region 1 with fail
 clear hw1 hw2 hw3
 go_wp2_with fail
 with_reducible refine(findCheck_any _ s a w3 (HS.out w3 (Below.refl _ _))).mono ?_
 rintro e w4 ⟨rfl,hb4⟩
 clear k0 k1 k2 k3
 obtain⟨c4a,c4b,c4c⟩:=KC.out w4 hb4
 obtain⟨k0,k1,k2,k3,_⟩:=four_cells c4a
 obtain⟨n0,n1,n2,n3,n4,_⟩:=five_cells c4b
 obtain⟨u0,u1,u2,u3,uf,_⟩:=four_cells c4c
 have hckh:Hid (ckE s a=0→ckH s a=(rmV s a).1+1∧treeO s a=true∧asE s a=0):=Lib.hid fun h=>by
  obtain⟨h1,h2,h3⟩:=ck_of h
  exact⟨h3,h1,h2⟩
 have hpl0:Hid (ckE s a≠0→∀ l,putS s a x l=(ckE s a,emptyR,0)):=Lib.hid fun h l=>by unfold putS;rw[if_pos h]
 have hc0:Hid (ckE s a≠0→∀ l,ckE s a=0→citE s x=0→WayL s x.1 a l):=Lib.hid fun h l h'=>absurd h' h
 obtain⟨ck,hck⟩:∃ q,ckE s a=q:=⟨_,rfl⟩
 obtain⟨Hh,hH⟩:∃ q,ckH s a=q:=⟨_,rfl⟩
 rw[hck,hH]
 go_upto_region 2 with fail
 by_cases hk:ck=0
 case neg =>
  have t0:(ck != 0)=true:=by simpa using hk
  obtain⟨W9,e9,y0,y1,y2,y3,hfin⟩:=hzero.out ck w4 _ _ _ _ [] c4c (B3.out.trans (hb4.mono B3.out.size)) (hc0.out (by rw[hck];exact hk) []) (by rw[hpl0.out (by rw[hck];exact hk),hck])
  replace hfin:=Lib.hid hfin
  go_wp2_with fail
  exact bodyPost_ret (v:=.tuple #[.agg #[.slice none 0 0,.slice none 0 0,.slice none 0 0,.slice none 0 0],.int .i64 0,.int .i64 ck]) (by simp[results,Tryz.results10,go_sem,y0,y1,y2,y3]) rfl hfin.out
 subst hk
 obtain⟨eH,htr,has⟩:=hckh.out hck
 obtain⟨-,-,hmr,-⟩:=as_read has
 obtain⟨-,-,-,l0,l6,-⟩:=tree_of htr
 have hT:=Lib.hid (tree_at htr)
 have hci:=checkItem_any (.agg #[.slice qa.1 qa.2.1 qa.2.2,.slice qb.1 qb.2.1 qb.2.2,.slice qc.1 qc.2.1 qc.2.2,.slice qd.1 qd.2.1 qd.2.2]) (itV x (.slice E x.2.2.length ce)) s x w4 hmr (HS.out w4 hb4) (HX.out w4 hb4)
 have hci':=Lib.hid hci
 have hlv:=Lib.hid (show ∃ lv:Nat,(rmV s a).1=(lv:Int)∧(rmV s a).1.toNat=lv∧lv<6 from ⟨(rmV s a).1.toNat,by omega,rfl,by omega⟩)
 have hB4:=Lib.hid hb4
 have hck':=Lib.hid hck
 have hdone:Hid (∀ l,putS s a x l=if citE s x≠0 then (citE s x,emptyR,0)
  else if (rmV s a).1=5∧partF l.reverse 1=true then (120,emptyR,0)
  else if (growO s l x).1≠0 then ((growO s l x).1,emptyR,0)
  else if lvE (growO s l x).2.1 a≠0 then (lvE (growO s l x).2.1 a,emptyR,0)
  else (0,lvV (growO s l x).2.1 a,(growO s l x).2.2)):=Lib.hid fun l=>by
  unfold putS
  rw[if_neg (by rw[hck];decide)]
 clear hci l0 l6 hmr has htr hb4 hck c4a c4b
 unfold itV at hci'
 obtain⟨ci,hcie⟩:∃ q,citE s x=q:=⟨_,rfl⟩
 rw[hcie] at hci'
 go_upto_region 4 with fail
 go_wp2_with fail
 with_reducible refine hci'.out.mono ?_
 rintro e w5 ⟨rfl,hb5⟩
 clear k0 k1 k2 k3 n0 n1 n2 n3 n4 u0 u1 u2 u3 uf hci'
 have B5:=Lib.hid (hB4.out.trans (hb5.mono hB4.out.size))
 clear hb5
 obtain⟨c5a,c5b,c5c⟩:=KC.out w5 B5.out
 obtain⟨k0,k1,k2,k3,_⟩:=four_cells c5a
 obtain⟨n0,n1,n2,n3,n4,_⟩:=five_cells c5b
 obtain⟨u0,u1,u2,u3,uf,_⟩:=four_cells c5c
 clear c5a c5b
 go_upto_region 5 with fail
 by_cases hk:ci=0
 case neg =>
  have t0:(ci != 0)=true:=by simpa using hk
  obtain⟨W9,e9,y0,y1,y2,y3,hfin⟩:=hzero.out ci w5 _ _ _ _ [] c5c (B3.out.trans (B5.out.mono B3.out.size)) (fun _ h=>absurd (hcie ▸ h) hk) (by rw[hdone.out,hcie,if_pos hk])
  replace hfin:=Lib.hid hfin
  go_wp2_with fail
  exact bodyPost_ret (v:=.tuple #[.agg #[.slice none 0 0,.slice none 0 0,.slice none 0 0,.slice none 0 0],.int .i64 0,.int .i64 ci]) (by simp[results,Tryz.results10,go_sem,y0,y1,y2,y3]) rfl hfin.out
 subst hk
 obtain⟨lv,elv,enat,lv6⟩:=hlv.out
 have hdone2:Hid (∀ l,putS s a x l=if (rmV s a).1=5∧partF l.reverse 1=true then (120,emptyR,0)
  else if (growO s l x).1≠0 then ((growO s l x).1,emptyR,0)
  else if lvE (growO s l x).2.1 a≠0 then (lvE (growO s l x).2.1 a,emptyR,0)
  else (0,lvV (growO s l x).2.1 a,(growO s l x).2.2)):=Lib.hid fun l=>by
  rw[hdone.out,if_neg (by rw[hcie];decide)]
 rw[enat] at hT
 have eH':(lv:Int)+1=Hh:=by omega
 have hway:=way_any qa qb qc qd s a lv lv6 x.1 w5 (HS.out w5 B5.out) hT.out
 rw[eH'] at hway
 unfold kyV at hway
 have hway':=Lib.hid hway
 have elv':=Lib.hid elv
 have enat':=Lib.hid enat
 have eH2:=Lib.hid eH'
 clear hway elv enat hlv hdone hcie eH eH' c5c
 replace hH:=Lib.hid hH
 go_upto_region 7 with fail
 go_wp2_with fail
 with_reducible refine hway'.out.mono ?_
 rintro e w6 ⟨A,c,l,rfl,hll,hW,hb6⟩
 clear k0 k1 k2 k3 n0 n1 n2 n3 n4 u0 u1 u2 u3 uf hway'
 have B6:=Lib.hid (B5.out.trans (hb6.mono B5.out.size))
 obtain⟨m,hm⟩:∃ q,l.length=q:=⟨_,rfl⟩
 have hW':=Lib.hid hW
 have hB56:=Lib.hid hb6
 rw[hm]
 have hwl:Hid (WayL s x.1 a l):=Lib.hid ⟨by rw[enat'.out];exact hll,hW.are⟩
 have hm6:m≤6:=by omega
 have hq:=Lib.hid (way_ok hT.out hll lv6 hW.are)
 replace hm:=Lib.hid hm
 have hll:=Lib.hid hll
 clear hW hb6
 obtain⟨c6a,c6b,c6c⟩:=KC.out w6 B6.out
 obtain⟨k0,k1,k2,k3,_⟩:=four_cells c6a
 obtain⟨n0,n1,n2,n3,n4,_⟩:=five_cells c6b
 obtain⟨u0,u1,u2,u3,uf,_⟩:=four_cells c6c
 clear c6a c6b
 go_upto_region 10 with fail
 have hpl2:Hid ((rmV s a).1=5↔Hh=6):=Lib.hid (by have:=eH2.out;have:=elv'.out;omega)
 by_cases h6:Hh=6
 case neg =>
  have t6:(Hh==6)=false:=by simpa using h6
  have hpart:Hid (putS s a x l=if (growO s l x).1≠0 then ((growO s l x).1,emptyR,0)
   else if lvE (growO s l x).2.1 a≠0 then (lvE (growO s l x).2.1 a,emptyR,0)
   else (0,lvV (growO s l x).2.1 a,(growO s l x).2.2)):=Lib.hid (by rw[hdone2.out,if_neg (fun h=>h6 (hpl2.out.1 h.1))])
  have BW:Hid (Below w6.heap.size w6 w6):=Lib.hid (Below.refl _ _)
  have hgrw:=Lib.hid (grow_any w.heap.size w5.heap.size (by have:=B3.out.size;have:=B5.out.size;omega) qa qb qc qd s A m c l E ce x w6 (by have:=hB56.out.size;have:=BW.out.size;omega)
   (hS0.out.map fun p v hp hc=>⟨hp,((B3.out.trans (B6.out.mono B3.out.size)).trans (BW.out.mono (B3.out.trans (B6.out.mono B3.out.size)).size)).cell hp |>.trans hc⟩)
   (by have:=(hW'.out.below BW.out).row;rw[hm.out] at this;exact this) hm.out hm6 (hW'.out.below BW.out).rows hW'.out.off hq.out
   (hX0.out.map fun p v hp hc=>⟨hp,((B3.out.trans (B6.out.mono B3.out.size)).trans (BW.out.mono (B3.out.trans (B6.out.mono B3.out.size)).size)).cell hp |>.trans hc⟩))
  have hgrw':=hgrw.out
  unfold itV at hgrw'
  have hgrw:=Lib.hid hgrw'
  clear hgrw'
  go_upto_region 12 with fail
  go_wp2_with fail
  with_reducible refine hgrw.out.mono ?_
  rintro e w8 ⟨pa,pb,pc,pd,rfl,hS8,hb8⟩
  clear k0 k1 k2 k3 n0 n1 n2 n3 n4 u0 u1 u2 u3 uf hgrw
  have hc8:=Lib.hid ((hb8.block w2.heap.size (by have:=SZ.out;have:=B5.out.size;omega)).trans (KC.out w6 (B6.out.trans (BW.out.mono B6.out.size))).2.2)
  have BwW:=(B3.out.trans (B6.out.mono B3.out.size)).trans (BW.out.mono (B3.out.trans (B6.out.mono B3.out.size)).size)
  have B8:=Lib.hid (BwW.trans (hb8.mono (by have:=B3.out.size;have:=B5.out.size;omega)))
  clear BwW
  obtain⟨G,hG⟩:∃ q,growO s l x=q:=⟨_,rfl⟩
  obtain⟨ge,gs,gn⟩:=G
  rw[hG] at hS8 ⊢
  obtain⟨u0,u1,u2,u3,uf,_⟩:=four_cells hc8.out
  obtain⟨w9,hw9,g9,gr9,gs9⟩:=put_four (a':=.slice pa.1 pa.2.1 pa.2.2) (b':=.slice pb.1 pb.2.1 pb.2.2) (c':=.slice pc.1 pc.2.1 pc.2.2) (d':=.slice pd.1 pd.2.1 pd.2.2) hc8.out
  have B9:=Lib.hid (B8.out.grown gr9 B8.out.size (fun q e=>by cases e;have:=SZ.out;omega))
  have S9:Hid (Sto (Old w9) w9 (.agg #[.slice pa.1 pa.2.1 pa.2.2,.slice pb.1 pb.2.1 pb.2.2,.slice pc.1 pc.2.1 pc.2.2,.slice pd.1 pd.2.1 pd.2.2]) gs):=Lib.hid (hS8.map fun p v hp hc=>by
   have hb:=gr9.block p.block hp.2 (fun e=>by have:=Option.some.inj e;have:=SZ.out;have:=B6.out.size;have:=BW.out.size;rcases hp.1 with h | h <;> omega)
   exact⟨Nat.lt_of_lt_of_le hp.2 gr9.size,(World.cell?_of_block hb).trans hc⟩)
  have hG':=Lib.hid hG
  obtain⟨k0,k1,k2,k3,kf,_⟩:=four_cells g9
  have g9':=Lib.hid g9
  have hgs:=Lib.hid gs9
  clear hS8 hb8 hG gr9 gs9 g9
  replace hc8:=Lib.hid hc8
  go_upto_region 13 with fail
  clear u0 u1 u2 u3 uf hw9
  by_cases hge:ge=0
  case neg =>
   have t0:(ge != 0)=true:=by simpa using hge
   obtain⟨W9,e9,y0,y1,y2,y3,hfin⟩:=hzero.out ge w9 _ _ _ _ l g9'.out (B9.out) (fun _ _=>hwl.out) (by rw[hpart.out,hG'.out,if_pos hge])
   replace hfin:=Lib.hid hfin
   go_wp2_with fail
   exact bodyPost_ret (v:=.tuple #[.agg #[.slice none 0 0,.slice none 0 0,.slice none 0 0,.slice none 0 0],.int .i64 0,.int .i64 ge]) (by simp[results,Tryz.results10,go_sem,y0,y1,y2,y3]) rfl hfin.out
  subst hge
  have hlv:=leaveV_four _ gs a w9 S9.out
  obtain⟨le,hle⟩:∃ q,lvE gs a=q:=⟨_,rfl⟩
  rw[hle] at hlv
  go_upto_region 15 with fail
  go_wp2_with fail
  with_reducible refine hlv.mono ?_
  rintro e w10 ⟨ra,rb,rc,rd,rfl,hS10,hb10⟩
  clear k0 k1 k2 k3 kf hlv
  have hc10:=(hb10.block w2.heap.size (by have:=SZ.out;have:=B9.out.size;have:=hgs.out;have:=(Array.getElem?_eq_some_iff.1 g9'.out).1;omega)).trans g9'.out
  obtain⟨u0,u1,u2,u3,uf,_⟩:=four_cells hc10
  obtain⟨w11,hw11,g11,gr11,gs11⟩:=put_four (a':=.slice ra.1 ra.2.1 ra.2.2) (b':=.slice rb.1 rb.2.1 rb.2.2) (c':=.slice rc.1 rc.2.1 rc.2.2) (d':=.slice rd.1 rd.2.1 rd.2.2) hc10
  have B11:=Lib.hid ((B9.out.trans (hb10.mono B9.out.size)).grown gr11 (B9.out.trans (hb10.mono B9.out.size)).size (fun q e=>by cases e;have:=SZ.out;omega))
  have hlt9:=Lib.hid (show w2.heap.size<w9.heap.size from (Array.getElem?_eq_some_iff.1 g9'.out).1)
  have S11:=Lib.hid (hS10.grown gr11 (fun q e=>by cases e;exact hlt9.out))
  obtain⟨k0,k1,k2,k3,kf,_⟩:=four_cells g11
  have g11':=Lib.hid g11
  clear hS10 hb10 hc10 gr11 gs11 g11
  go_upto_region 16 with fail
  clear u0 u1 u2 u3 uf hw11
  by_cases hle0:le=0
  case neg =>
   have t0:(le != 0)=true:=by simpa using hle0
   obtain⟨W9,e9,y0,y1,y2,y3,hfin⟩:=hzero.out le w11 _ _ _ _ l g11'.out (B11.out) (fun _ _=>hwl.out) (by rw[hpart.out,hG'.out,if_neg (fun h=>h rfl),hle,if_pos hle0])
   replace hfin:=Lib.hid hfin
   go_wp2_with fail
   exact bodyPost_ret (v:=.tuple #[.agg #[.slice none 0 0,.slice none 0 0,.slice none 0 0,.slice none 0 0],.int .i64 0,.int .i64 le]) (by simp[results,Tryz.results10,go_sem,y0,y1,y2,y3]) rfl hfin.out
  subst hle0
  obtain⟨W9,hW9,g12,gr12,gs12⟩:=put_four (a':=.slice ra.1 ra.2.1 ra.2.2) (b':=.slice rb.1 rb.2.1 rb.2.2) (c':=.slice rc.1 rc.2.1 rc.2.2) (d':=.slice rd.1 rd.2.1 rd.2.2) g11'.out
  obtain⟨y0,y1,y2,y3,_,_⟩:=four_cells g12
  have hfin:Hid (PutR s a x w (.returned (.tuple #[.agg #[.slice ra.1 ra.2.1 ra.2.2,.slice rb.1 rb.2.1 rb.2.2,.slice rc.1 rc.2.1 rc.2.2,.slice rd.1 rd.2.1 rd.2.2],.int .i64 gn,.int .i64 0])) W9):=Lib.hid (by
   have hp:putS s a x l=(0,lvV gs a,gn):=by rw[hpart.out,hG'.out,if_neg (fun h=>h rfl),hle,if_neg (fun h=>h rfl)]
   exact⟨l,ra,rb,rc,rd,fun _ _=>hwl.out,by rw[hp],by rw[hp];exact(S11.out.grown gr12 (fun q e=>by cases e;exact hlt9.out)).new B9.out.size (Below.refl _ _),B11.out.grown gr12 B11.out.size (fun q e=>by cases e;have:=SZ.out;omega)⟩)
  replace g12:=Lib.hid g12
  clear gr12 gs12
  go_wp2_with fail
  exact bodyPost_ret (v:=.tuple #[.agg #[.slice ra.1 ra.2.1 ra.2.2,.slice rb.1 rb.2.1 rb.2.2,.slice rc.1 rc.2.1 rc.2.2,.slice rd.1 rd.2.1 rd.2.2],.int .i64 gn,.int .i64 0]) (by simp[results,Tryz.results10,go_sem,y0,y1,y2,y3]) rfl hfin.out
 subst h6
 have hpa:=parts_any A m c l w5.heap.size w6 (by have:=hW'.out.row;rw[hm.out] at this;exact this) hm.out (by omega) (fun q hq'=>(hq.out q hq').2.1)
 obtain⟨pf,hpf⟩:∃ q,partF l.reverse 1=q:=⟨_,rfl⟩
 rw[hpf] at hpa
 go_wp2_with fail
 with_reducible refine hpa.mono ?_
 rintro e w7 ⟨rfl,hb7⟩
 have BW:=Lib.hid hb7
 clear hb7 hpa k0 k1 k2 k3 n0 n1 n2 n3 n4 u0 u1 u2 u3 uf c6c
 obtain⟨c7a,c7b,c7c⟩:=KC.out w7 (B6.out.trans (BW.out.mono B6.out.size))
 obtain⟨k0,k1,k2,k3,_⟩:=four_cells c7a
 obtain⟨n0,n1,n2,n3,n4,_⟩:=five_cells c7b
 obtain⟨u0,u1,u2,u3,uf,_⟩:=four_cells c7c
 clear c7a c7b
 cases pf with
 | true =>
  obtain⟨W9,e9,y0,y1,y2,y3,hfin⟩:=hzero.out 120 w7 _ _ _ _ l c7c ((B3.out.trans (B6.out.mono B3.out.size)).trans (BW.out.mono (B3.out.trans (B6.out.mono B3.out.size)).size)) (fun _ _=>hwl.out) (by rw[hdone2.out,if_pos ⟨hpl2.out.2 (by trivial),hpf⟩])
  replace hfin:=Lib.hid hfin
  go_wp2_with fail
  exact bodyPost_ret (v:=.tuple #[.agg #[.slice none 0 0,.slice none 0 0,.slice none 0 0,.slice none 0 0],.int .i64 0,.int .i64 120]) (by simp[results,Tryz.results10,go_sem,y0,y1,y2,y3]) rfl hfin.out
 | false =>
  have hpart:Hid (putS s a x l=if (growO s l x).1≠0 then ((growO s l x).1,emptyR,0)
   else if lvE (growO s l x).2.1 a≠0 then (lvE (growO s l x).2.1 a,emptyR,0)
   else (0,lvV (growO s l x).2.1 a,(growO s l x).2.2)):=Lib.hid (by rw[hdone2.out,if_neg (fun h=>by rw[hpf] at h;cases h.2)])
  have hgrw:=Lib.hid (grow_any w.heap.size w5.heap.size (by have:=B3.out.size;have:=B5.out.size;omega) qa qb qc qd s A m c l E ce x w7 (by have:=hB56.out.size;have:=BW.out.size;omega)
   (hS0.out.map fun p v hp hc=>⟨hp,((B3.out.trans (B6.out.mono B3.out.size)).trans (BW.out.mono (B3.out.trans (B6.out.mono B3.out.size)).size)).cell hp |>.trans hc⟩)
   (by have:=(hW'.out.below BW.out).row;rw[hm.out] at this;exact this) hm.out hm6 (hW'.out.below BW.out).rows hW'.out.off hq.out
   (hX0.out.map fun p v hp hc=>⟨hp,((B3.out.trans (B6.out.mono B3.out.size)).trans (BW.out.mono (B3.out.trans (B6.out.mono B3.out.size)).size)).cell hp |>.trans hc⟩))
  have hgrw':=hgrw.out
  unfold itV at hgrw'
  have hgrw:=Lib.hid hgrw'
  clear hgrw'
  go_upto_region 12 with fail
  go_wp2_with fail
  with_reducible refine hgrw.out.mono ?_
  rintro e w8 ⟨pa,pb,pc,pd,rfl,hS8,hb8⟩
  clear k0 k1 k2 k3 n0 n1 n2 n3 n4 u0 u1 u2 u3 uf hgrw
  have hc8:=Lib.hid ((hb8.block w2.heap.size (by have:=SZ.out;have:=B5.out.size;omega)).trans (KC.out w7 (B6.out.trans (BW.out.mono B6.out.size))).2.2)
  have BwW:=(B3.out.trans (B6.out.mono B3.out.size)).trans (BW.out.mono (B3.out.trans (B6.out.mono B3.out.size)).size)
  have B8:=Lib.hid (BwW.trans (hb8.mono (by have:=B3.out.size;have:=B5.out.size;omega)))
  clear BwW
  obtain⟨G,hG⟩:∃ q,growO s l x=q:=⟨_,rfl⟩
  obtain⟨ge,gs,gn⟩:=G
  rw[hG] at hS8 ⊢
  obtain⟨u0,u1,u2,u3,uf,_⟩:=four_cells hc8.out
  obtain⟨w9,hw9,g9,gr9,gs9⟩:=put_four (a':=.slice pa.1 pa.2.1 pa.2.2) (b':=.slice pb.1 pb.2.1 pb.2.2) (c':=.slice pc.1 pc.2.1 pc.2.2) (d':=.slice pd.1 pd.2.1 pd.2.2) hc8.out
  have B9:=Lib.hid (B8.out.grown gr9 B8.out.size (fun q e=>by cases e;have:=SZ.out;omega))
  have S9:Hid (Sto (Old w9) w9 (.agg #[.slice pa.1 pa.2.1 pa.2.2,.slice pb.1 pb.2.1 pb.2.2,.slice pc.1 pc.2.1 pc.2.2,.slice pd.1 pd.2.1 pd.2.2]) gs):=Lib.hid (hS8.map fun p v hp hc=>by
   have hb:=gr9.block p.block hp.2 (fun e=>by have:=Option.some.inj e;have:=SZ.out;have:=B6.out.size;have:=BW.out.size;rcases hp.1 with h | h <;> omega)
   exact⟨Nat.lt_of_lt_of_le hp.2 gr9.size,(World.cell?_of_block hb).trans hc⟩)
  have hG':=Lib.hid hG
  obtain⟨k0,k1,k2,k3,kf,_⟩:=four_cells g9
  have g9':=Lib.hid g9
  have hgs:=Lib.hid gs9
  clear hS8 hb8 hG gr9 gs9 g9
  replace hc8:=Lib.hid hc8
  go_upto_region 13 with fail
  clear u0 u1 u2 u3 uf hw9
  by_cases hge:ge=0
  case neg =>
   have t0:(ge != 0)=true:=by simpa using hge
   obtain⟨W9,e9,y0,y1,y2,y3,hfin⟩:=hzero.out ge w9 _ _ _ _ l g9'.out (B9.out) (fun _ _=>hwl.out) (by rw[hpart.out,hG'.out,if_pos hge])
   replace hfin:=Lib.hid hfin
   go_wp2_with fail
   exact bodyPost_ret (v:=.tuple #[.agg #[.slice none 0 0,.slice none 0 0,.slice none 0 0,.slice none 0 0],.int .i64 0,.int .i64 ge]) (by simp[results,Tryz.results10,go_sem,y0,y1,y2,y3]) rfl hfin.out
  subst hge
  have hlv:=leaveV_four _ gs a w9 S9.out
  obtain⟨le,hle⟩:∃ q,lvE gs a=q:=⟨_,rfl⟩
  rw[hle] at hlv
  go_upto_region 15 with fail
  go_wp2_with fail
  with_reducible refine hlv.mono ?_
  rintro e w10 ⟨ra,rb,rc,rd,rfl,hS10,hb10⟩
  clear k0 k1 k2 k3 kf hlv
  have hc10:=(hb10.block w2.heap.size (by have:=SZ.out;have:=B9.out.size;have:=hgs.out;have:=(Array.getElem?_eq_some_iff.1 g9'.out).1;omega)).trans g9'.out
  obtain⟨u0,u1,u2,u3,uf,_⟩:=four_cells hc10
  obtain⟨w11,hw11,g11,gr11,gs11⟩:=put_four (a':=.slice ra.1 ra.2.1 ra.2.2) (b':=.slice rb.1 rb.2.1 rb.2.2) (c':=.slice rc.1 rc.2.1 rc.2.2) (d':=.slice rd.1 rd.2.1 rd.2.2) hc10
  have B11:=Lib.hid ((B9.out.trans (hb10.mono B9.out.size)).grown gr11 (B9.out.trans (hb10.mono B9.out.size)).size (fun q e=>by cases e;have:=SZ.out;omega))
  have hlt9:=Lib.hid (show w2.heap.size<w9.heap.size from (Array.getElem?_eq_some_iff.1 g9'.out).1)
  have S11:=Lib.hid (hS10.grown gr11 (fun q e=>by cases e;exact hlt9.out))
  obtain⟨k0,k1,k2,k3,kf,_⟩:=four_cells g11
  have g11':=Lib.hid g11
  clear hS10 hb10 hc10 gr11 gs11 g11
  go_upto_region 16 with fail
  clear u0 u1 u2 u3 uf hw11
  by_cases hle0:le=0
  case neg =>
   have t0:(le != 0)=true:=by simpa using hle0
   obtain⟨W9,e9,y0,y1,y2,y3,hfin⟩:=hzero.out le w11 _ _ _ _ l g11'.out (B11.out) (fun _ _=>hwl.out) (by rw[hpart.out,hG'.out,if_neg (fun h=>h rfl),hle,if_pos hle0])
   replace hfin:=Lib.hid hfin
   go_wp2_with fail
   exact bodyPost_ret (v:=.tuple #[.agg #[.slice none 0 0,.slice none 0 0,.slice none 0 0,.slice none 0 0],.int .i64 0,.int .i64 le]) (by simp[results,Tryz.results10,go_sem,y0,y1,y2,y3]) rfl hfin.out
  subst hle0
  obtain⟨W9,hW9,g12,gr12,gs12⟩:=put_four (a':=.slice ra.1 ra.2.1 ra.2.2) (b':=.slice rb.1 rb.2.1 rb.2.2) (c':=.slice rc.1 rc.2.1 rc.2.2) (d':=.slice rd.1 rd.2.1 rd.2.2) g11'.out
  obtain⟨y0,y1,y2,y3,_,_⟩:=four_cells g12
  have hfin:Hid (PutR s a x w (.returned (.tuple #[.agg #[.slice ra.1 ra.2.1 ra.2.2,.slice rb.1 rb.2.1 rb.2.2,.slice rc.1 rc.2.1 rc.2.2,.slice rd.1 rd.2.1 rd.2.2],.int .i64 gn,.int .i64 0])) W9):=Lib.hid (by
   have hp:putS s a x l=(0,lvV gs a,gn):=by rw[hpart.out,hG'.out,if_neg (fun h=>h rfl),hle,if_neg (fun h=>h rfl)]
   exact⟨l,ra,rb,rc,rd,fun _ _=>hwl.out,by rw[hp],by rw[hp];exact(S11.out.grown gr12 (fun q e=>by cases e;exact hlt9.out)).new B9.out.size (Below.refl _ _),B11.out.grown gr12 B11.out.size (fun q e=>by cases e;have:=SZ.out;omega)⟩)
  replace g12:=Lib.hid g12
  clear gr12 gs12
  go_wp2_with fail
  exact bodyPost_ret (v:=.tuple #[.agg #[.slice ra.1 ra.2.1 ra.2.2,.slice rb.1 rb.2.1 rb.2.2,.slice rc.1 rc.2.1 rc.2.2,.slice rd.1 rd.2.1 rd.2.2],.int .i64 gn,.int .i64 0]) (by simp[results,Tryz.results10,go_sem,y0,y1,y2,y3]) rfl hfin.out
end Go.Proofs.YtogieepfimpdmaaGreat
/-
 Put,plain: what is answered is a tree with the item put in,each other tree stays,each block is counted often enough. Conditions: those that each lemma states.
-/
namespace Go.Proofs.YtogieepfimpdmaaGreat
open Go.RowKit
theorem one_cnt {z:It} {i:Nat} (h:8≤z.2.1):cntR [z] i=if i=z.2.1.toNat then 1 else 0:=by
 show (if z.2.1=(i:Int) then (if z.2.1=0 then 0 else 1) else 0)+0=_
 by_cases e:i=z.2.1.toNat
 ·rw[if_pos (show z.2.1=(i:Int) by omega),if_neg (show ¬ z.2.1=0 by omega),if_pos e]
 ·rw[if_neg (show ¬ z.2.1=(i:Int) by omega),if_neg e]
theorem freL_disk:∀ (l:List It) (v:Rm),(freL v l).1=v.1
 | [],_=>rfl
 | q::r,v=>by rw[freL_cons,freL_disk r];rfl
theorem root_ok {s u1 T:Rm} {a:Int} {x:It} {up top:List It} {l:Nat} {P:Nat→Nat} {N N1:List Int} (hl:l<6) (G:GrownIs s u1 P N N1 l a up x keyZ false) (h:rootO u1 (l:Int) up=(0,T,top)) :
  ∃ (L:Nat) (z:It) (N2:List Int),nowL top=z.2.1∧KeepR s T∧rightO T L z.2.1 z.1 keyZ false=true∧itsT T L z.2.1=putL (itsT s l a) x∧Enf T.1 T.2.1 (fun i=>P i+if i=z.2.1.toNat then 1 else 0) N2∧(∀ m∈N,m∈N2)∧z.2.1∈N2∧8≤z.2.1∧T.1.2.length≤s.1.2.length+2*(l+1)+1∧l≤L∧L≤l+1:=by
 obtain⟨z,r,ez,_⟩:=G.first
 rcases root_ways h with ⟨h1,rfl,rfl⟩ | ⟨h1,u0,h2,rfl⟩
 ·have hr:r=[]:=by
   rw[ez] at h1
   cases r with
   | nil=>rfl
   | cons _ _=>simp at h1
  subst hr
  obtain⟨f1,f2,f3,f4⟩:=G.ups z (by rw[ez];exact List.mem_cons_self)
  have hi:=G.its
  have ha:=G.all
  rw[ez] at hi ha
  refine⟨l,z,N1,by rw[ez];rfl,G.keep,hi,?_,G.enf.same fun i=>by rw[ez,one_cnt f2],G.more,f1,f2,?_,Nat.le_refl _,by omega⟩
  ·rw[← ha,List.flatMap_cons]
   simp
  ·have:=G.writes
   omega
 ·have hne:up≠[]:=by rw[ez];simp
  have hfew:=G.few
  rcases built_ways h2 with ⟨m1,em,et⟩ | ⟨m0,_⟩
  ·have m2:=(mayN_of (mk_ok m1).2.1).1.2.1
   have hin:InN ((l:Int)+1,up):=⟨⟨by show (-9223372036854775808:Int)≤(l:Int)+1;omega,by show (l:Int)+1≤9223372036854775807;omega⟩,G.inI⟩
   have hrow:rowP u1 (l+1) up keyZ false (putL (itsT s l a) x):=⟨G.its,G.all.symm⟩
   have ec:((l:Int)+1)=((l+1:Nat):Int):=by omega
   obtain⟨N2,e1,k2,e3,e4,e5,e6,_,_⟩:=built_enf h2 hin G.enf fun _ q hq=>by
    obtain⟨f1,f2,_,f4⟩:=G.ups q hq
    exact⟨f1,by omega,by omega⟩
   obtain⟨k3,e9⟩:=freL_enf up (s:=u0) (P:=fun i=>P i+cntR top i) (N:=N2) k2.may (e1.same fun i=>by show P i+cntR top i+cntR up i=P i+cntR up i+cntR top i;omega) fun q hq=>by
    obtain⟨_,f2,_,_⟩:=G.ups q hq
    obtain⟨n,hn,hqn⟩:=e6 q hq
    exact⟨by omega,n,hn,q,hqn,rfl⟩
   rw[ec] at m1 em et hin
   obtain⟨g1,g2⟩:=made_right m1 hin hne hrow
   rw[← em] at g1 g2
   obtain⟨f1,f2,f3,f4⟩:=e5 (upI up (mkN u1 (((l+1:Nat):Int),up))) (by rw[et];exact List.mem_cons_self)
   obtain⟨g3,g4,_⟩:=keep_right k3 (l+1) _ _ _ _ g1
   refine⟨l+1,upI up (mkN u1 (((l+1:Nat):Int),up)),N2,by rw[et];rfl,ptk_trans (ptk_trans G.keep k2) k3,g3,g4.trans g2,e9.same fun i=>by rw[et,one_cnt f2],fun m hm=>e3 m (G.more m hm),f1,f2,?_,by omega,Nat.le_refl _⟩
   rw[freL_disk,em]
   obtain⟨k,_,_,_,_,_,_,hV,_⟩:=mk_counts m1
   rw[hV]
   have:=G.writes
   simp only[wrD,List.length_append,List.length_cons,List.length_nil]
   omega
  ·omega
structure PutIs (s u:Rm) (P:Nat→Nat) (N M:List Int) (a now:Int) (x:It):Prop where
 tree:treeO u now=true
 all:allO u now=putL (allO s a) x
 enf:Enf u.1 u.2.1 (fun i=>P i+if i=now.toNat then 1 else 0) M
 root:now∈M
 place:8≤now∧now<256
 tall:(rmV s a).1≤(rmV u now).1∧(rmV u now).1≤(rmV s a).1+1
 writes:(u.1.2.length:Int)≤s.1.2.length+2*((rmV s a).1+1)+1
 other:∀ b,treeO s b=true→b∈N→1≤P b.toNat→b∈M∧treeO u b=true∧rmV u b=rmV s b∧allO u b=allO s b∧∀ q,theO u b q=theO s b q
theorem ins_ok {s u:Rm} {a now:Int} {x:It} {P:Nat→Nat} {N:List Int} (hx:InI x) (ht:treeO s a=true) (ha:a∈N) (hr:x.2.1=0∨(0<x.2.1∧s.2.1[x.2.1.toNat]?.getD 0≠0))
  (hE:Enf s.1 s.2.1 (fun i=>P i+(if i=a.toNat then 1 else 0)+hold x i) N) (h:insO s a x=(0,u,now)):∃ M,PutIs s u P N M a now x:=by
 obtain⟨u1,up,T,top,v,h1,h2,hv,rfl,rfl⟩:=ins_ways h
 obtain⟨r1,ra,_,l0,l6,_⟩:=tree_of ht
 obtain⟨N1,G⟩:=grown_ok hx hr hE _ (by omega) (tree_top ht) (fun he=>by cases he) ha h1
 have hlv:(rmV s a).1=(((rmV s a).1.toNat:Nat):Int):=by omega
 rw[hlv] at h2
 obtain⟨L,z,N2,en,k,g1,g2,e1,e2,z1,z8,hw,L1,L2⟩:=root_ok (by omega) G h2
 obtain⟨t1,t2,t3⟩:=right_tree g1
 have hz256:=(e1.node _ z1).2.1
 obtain⟨a0,_,_,_⟩:=hE.node a ha
 have ha0:0<a:=by have:=(node_place r1).1;omega
 have hnda:ndD T.1 a=rmV s a:=(keep_nd k hE ha).trans (ndD_rm r1)
 have hE2:=leave_enf (P:=fun i=>P i+if i=z.2.1.toNat then 1 else 0) (e2 a ha) ha0 (by rw[hnda];exact l0) (e1.same fun i=>by
  show P i+(if i=z.2.1.toNat then 1 else 0)+(if i=a.toNat then 1 else 0)=P i+(if i=a.toNat then 1 else 0)+(if i=z.2.1.toNat then 1 else 0)
  omega) hv
 obtain⟨_,b1,b2,b3,b4,_⟩:=left_tree k.may hv hE2 z1 (by simp) t1
 rw[en]
 refine⟨liveN v N2,b2,?_,hE2,b1,⟨z8,hz256⟩,by rw[b3,t3];omega,?_,fun b hb hbN hP => ?_⟩
 ·rw[b4,t2,g2];rfl
 ·show (T.1.2.length:Int)≤_
  omega
 ·obtain⟨c1,_,c3,c4,c5⟩:=keep_tree k hb
  obtain⟨_,d1,d2,d3,d4,d5,_⟩:=left_tree k.may hv hE2 (e2 b hbN) (by show 1≤P b.toNat+_;omega) c1
  exact⟨d1,d2,d3.trans c3,d4.trans c4,fun q=>(d5 q).trans (c5 q)⟩
end Go.Proofs.YtogieepfimpdmaaGreat
/-
 Package put,plain: what the steps of a way make is what the document's answer makes,where counts are enough. Conditions: those that each lemma states.
-/
namespace Go.Proofs.YtogieepfimpdmaaGreat
open Go.RowKit
theorem enf_as {s:Rm} {P:Nat→Nat} {N:List Int} (hm:mayR s=true) (hE:Enf s.1 s.2.1 P N) {i n:Int} {z:It} (h8:8≤i) (h256:i<256) (hn:n∈N) (hz:z∈(ndD s.1 n).2) (e:z.2.1=i):asE s i=0:=by
 have h1:=hE.enough i.toNat
 have h2:=cntR_has hz (k:=i.toNat) (by omega) (by omega)
 have h3:=sumD_in (d:=s.1) (k:=i.toNat) hn
 have h4:=as_yes (s:=s) (k:=i.toNat) hm (by omega) (by omega) (cnt_nz.1 (by omega))
 rwa [show ((i.toNat:Nat):Int)=i by omega] at h4
theorem lo_fre {s:Rm} {i:Int} (h:asE s i=0):loV s i=freR s i:=by
 unfold loV
 rw[if_pos h]
 rfl
theorem loo_enf:∀ (l:List It) {s:Rm} {P:Nat→Nat} {N:List Int},mayR s=true→Enf s.1 s.2.1 (fun i=>P i+cntR l i) N→(∀ x∈l,(8≤x.2.1∧x.2.1<256)∧∃ n∈N,∃ z∈(ndD s.1 n).2,z.2.1=x.2.1)→looL l s=(0,freL s l)
 | [],_,_,_,_,_,_=>rfl
 | x::l,s,P,N,hm,hE,hr=>by
  obtain⟨h0,n,hn,z,hz,e⟩:=hr x List.mem_cons_self
  have ha:=enf_as hm hE h0.1 h0.2 hn hz e
  obtain⟨k1,e1⟩:=fre_enf (P:=fun i=>P i+cntR l i) hm (hE.same fun i=>by
   have ec:cntR (x::l) i=(if x.2.1=(i:Int) then (if x.2.1=0 then 0 else 1) else 0)+cntR l i:=rfl
   show P i+cntR l i+(if i=x.2.1.toNat then 1 else 0)=P i+cntR (x::l) i
   rw[ec]
   by_cases e:x.2.1=(i:Int)
   ·rw[if_pos e,if_neg (show ¬ x.2.1=0 by omega),if_pos (show i=x.2.1.toNat by omega)];omega
   ·rw[if_neg e,if_neg (show ¬ i=x.2.1.toNat by omega)];omega) (a:=x.2.1) (by omega) ⟨n,hn,z,hz,e⟩
  have e2:=loo_enf l (s:=freR s x.2.1) (P:=P) (N:=N) k1.may e1 fun y hy=>hr y (List.mem_cons_of_mem _ hy)
  unfold looL
  rw[if_neg (by omega),if_pos ha,lo_fre ha,e2]
  rfl
theorem growA_app:∀ (A:List Sv) (q:Sv) (s:Rm) (F:List It),growA (A++[q]) s F=if (growA A s F).1=0 then growA [q] (growA A s F).2.1 (growA A s F).2.2 else ((growA A s F).1,emptyR,[])
 | [],q,s,F=>by
  rw[List.nil_append]
  show _=if (0:Int)=0 then growA [q] s F else _
  rw[if_pos rfl]
 | p::A,q,s,F=>by
  have e:∀ B,growA (p::B) s F=if (layO s p.nd.1 (itemsS p F) F).1=0 then growA B (layO s p.nd.1 (itemsS p F) F).2.1 (layO s p.nd.1 (itemsS p F) F).2.2 else ((layO s p.nd.1 (itemsS p F) F).1,emptyR,[]):=fun _=>rfl
  rw[List.cons_append,e,e]
  by_cases h:(layO s p.nd.1 (itemsS p F) F).1=0
  ·rw[if_pos h,if_pos h]
   exact growA_app A q _ _
  ·rw[if_neg h,if_neg h,if_neg h]
theorem growA_one (q:Sv) (s:Rm) (F:List It):growA [q] s F=if (layO s q.nd.1 (itemsS q F) F).1=0 then (0,(layO s q.nd.1 (itemsS q F) F).2.1,(layO s q.nd.1 (itemsS q F) F).2.2) else ((layO s q.nd.1 (itemsS q F) F).1,emptyR,[]):=rfl
theorem partF_app:∀ (A:List Sv) (q:Sv) (m:Nat),A≠[]→partF (A++[q]) m=(partF A m&&decide (5<lenS q 2))
 | [],_,_,h=>absurd rfl h
 | [p],q,m,_=>by
  show (if lenS p m≤5 then false else if lenS q 2≤5 then false else true)=((if lenS p m≤5 then false else true)&&decide (5<lenS q 2))
  split
  ·rfl
  ·by_cases h:lenS q 2≤5
   ·rw[if_pos h];simp;omega
   ·rw[if_neg h];simp;omega
 | p::p'::A,q,m,_=>by
  rw[List.cons_append]
  unfold partF
  split
  ·rfl
  ·exact partF_app (p'::A) q 2 (List.cons_ne_nil _ _)
theorem top_down {s:Rm} {l:Nat} {a:Int} {tb:Ky} {e:Bool} {x:It} {N:List Int} {Q:Nat→Nat} (ht:TopT s (l+1) a tb e) (hb:e=true→lessK x.1 tb=true) (ha:a∈N) (hE:Enf s.1 s.2.1 Q N) :
  ∃ tb' e',TopT s l (refW (rmV s a) x.1) tb' e'∧(e'=true→lessK x.1 tb'=true)∧refW (rmV s a) x.1∈N:=by
 have hm:=(rm_may ht.ok).1
 have hne:0<(rmV s a).2.length:=(mayN_of hm).1.2.2.2 (by rw[ht.lv];omega)
 obtain⟨y,hy⟩:∃ y,(rmV s a).2[wayN (rmV s a) x.1]? = some y:=⟨_,List.getElem?_eq_getElem (way_in x.1 hne)⟩
 have hw:=way_part hy
 have hyin:y∈(rmV s a).2:=List.mem_of_getElem? hy
 rw[ref_at hy]
 have hbe:=fun(i:Nat) (c:It) (hi:wayN (rmV s a) x.1<i) (hc:(rmV s a).2[i]? = some c)=>way_behind hm hi hc
 have hCk:∀ c r,(rmV s a).2.drop (wayN (rmV s a) x.1+1)=c::r→lessK x.1 c.1=true:=fun c r hc=>by
  refine hbe (wayN (rmV s a) x.1+1) c (by omega) ?_
  have:=congrArg (fun l=>l[0]?) hc
  simpa [List.getElem?_drop] using this
 generalize hAe:(rmV s a).2.take (wayN (rmV s a) x.1)=A at *
 generalize hCe:(rmV s a).2.drop (wayN (rmV s a) x.1+1)=C at *
 have hinn:itsO (rightO s l) (rmV s a).2 tb e=true:=ht.inn
 rw[hw] at hinn
 rw[its_append,Bool.and_eq_true,its_cons,Bool.and_eq_true] at hinn
 obtain⟨iA,iy,iC⟩:=hinn
 obtain⟨hty,_⟩:=right_top iy
 refine⟨_,_,hty,fun he => ?_,?_⟩
 ·cases hC:C with
  | nil=>rw[hC] at he;exact hb he
  | cons c r=>exact hCk c r hC
 ·have hnd:ndD s.1 a=rmV s a:=ndD_rm ht.ok
  exact(hE.shut a ha (by rw[hnd,ht.lv];omega) y (by rw[hnd];exact hyin)).1
theorem topW_at {s:Rm} {a:Int} {x:It} {N:List Int} {Q:Nat→Nat} {l0:Nat} (ht:TopT s l0 a keyZ false) (ha:a∈N) (hE:Enf s.1 s.2.1 Q N):∀ j,j≤l0→∃ tb e,TopT s (l0-j) (atW s x.1 a j) tb e∧(e=true→lessK x.1 tb=true)∧atW s x.1 a j∈N
 | 0,_=>⟨keyZ,false,ht,(nomatch ·),ha⟩
 | j+1,hj=>by
  obtain⟨tb,e,h1,h2,h3⟩:=topW_at ht ha hE j (by omega)
  rw[show l0-j=(l0-(j+1))+1 by omega] at h1
  exact top_down h1 h2 h3 hE
theorem leaf_lay {x:It} (hx:InI x) (hmx:mayI x=true) {s:Rm} {a:Int} {tb:Ky} {e:Bool} {P:Nat→Nat} {N:List Int} (ht:TopT s 0 a tb e) (hE:Enf s.1 s.2.1 (fun i=>P i+hold x i) N) {q:Sv} (hq:q.nd=rmV s a) (hst:(q.pl,q.inst)=stpN q.nd x.1) :
  growA [q] s [x]=grownO x 0 s a:=by
 have h0:q.nd.1=0:=by rw[hq,ht.lv];rfl
 have eL:itemsS q [x]=insL (rmV s a).2 (placeN (rmV s a) x.1) (if thereN (rmV s a) x.1=true then 1 else 0) [x]:=by
  unfold stpN at hst
  rw[if_pos h0] at hst
  simp only[Prod.mk.injEq] at hst
  unfold itemsS insL
  rw[hst.1,hst.2,hq]
 rw[growA_one,h0,eL]
 unfold grownO layO
 by_cases hb:(builtO s 0 (insL (rmV s a).2 (placeN (rmV s a) x.1) (if thereN (rmV s a) x.1=true then 1 else 0) [x])).1=0
 ·rw[if_pos hb,if_pos hb]
  generalize hbb:builtO s 0 (insL (rmV s a).2 (placeN (rmV s a) x.1) (if thereN (rmV s a) x.1=true then 1 else 0) [x])=b at hb
  obtain⟨z,u0,up⟩:=b
  obtain rfl:z=0:=hb
  have hm:=(rm_may ht.ok).1
  have el:insL (rmV s a).2 (placeN (rmV s a) x.1) (if thereN (rmV s a) x.1=true then 1 else 0) [x]=putL (rmV s a).2 x:=leaf_put hm x
  rw[el] at hbb
  have hi:InN ((0:Int),putL (rmV s a).2 x):=⟨⟨by simp,by simp⟩,fun y hy=>by
   rcases putL_in.1 hy with rfl | ⟨hy,_⟩
   ·exact hx
   ·exact(rm_in ht.ok).it y hy⟩
  obtain⟨N',e1,k1,e3,e4,e5,e6,e7,e8⟩:=built_enf hbb hi hE fun h0=>absurd rfl h0
  have hlo:looL [x] u0=(0,if x.2.1=0 then u0 else freR u0 x.2.1):=by
   by_cases hx0:x.2.1=0
   ·rw[if_pos hx0]
    unfold looL
    rw[if_pos hx0]
    rfl
   ·rw[if_neg hx0]
    obtain⟨n,hn,hxn⟩:=e6 x (putL_in.2 (.inl rfl))
    have hr:=(mayI_of hmx).1
    have ha:=enf_as k1.may e1 (i:=x.2.1) (by omega) (by omega) hn hxn rfl
    unfold looL
    rw[if_neg hx0,if_pos ha,lo_fre ha]
    rfl
  rw[hlo]
  rfl
 ·rw[if_neg hb,if_neg hb,if_neg hb]
theorem grow_way {x:It} (hx:InI x) (hmx:mayI x=true) {s:Rm} {a:Int} {P:Nat→Nat} {N:List Int} {l0:Nat} (h6:l0<6) (ht:TopT s l0 a keyZ false) (ha:a∈N) (hr:x.2.1=0∨(0<x.2.1∧s.2.1[x.2.1.toNat]?.getD 0≠0))
  (hE:Enf s.1 s.2.1 (fun i=>P i+hold x i) N) {l:List Sv} (hll:l.length=l0+1) (are:∀ i q,l[i]? = some q→q.nd=rmV s (atW s x.1 a i)∧(q.pl,q.inst)=stpN q.nd x.1) :
  ∀ (d j:Nat),j+d=l0→growA (l.drop j).reverse s [x]=grownO x d s (atW s x.1 a j)
 | 0,j,hj=>by
  obtain⟨tb,e,h1,h2,h3⟩:=topW_at (x:=x) ht ha hE j (by omega)
  have hjl:j<l.length:=by omega
  obtain⟨q,hq⟩:∃ q,l[j]? = some q:=⟨_,List.getElem?_eq_getElem hjl⟩
  have hd:l.drop j=[q]:=by
   rw[List.drop_eq_getElem_cons hjl,(List.getElem?_eq_some_iff.1 hq).2,List.drop_of_length_le (by omega)]
  rw[hd,List.reverse_singleton]
  rw[show l0-j=0 by omega] at h1
  exact leaf_lay hx hmx h1 hE (are j q hq).1 (are j q hq).2
 | d+1,j,hj=>by
  obtain⟨tb,e,h1,h2,h3⟩:=topW_at (x:=x) ht ha hE j (by omega)
  have hjl:j<l.length:=by omega
  obtain⟨q,hq⟩:∃ q,l[j]? = some q:=⟨_,List.getElem?_eq_getElem hjl⟩
  have hd:(l.drop j).reverse=(l.drop (j+1)).reverse++[q]:=by
   rw[List.drop_eq_getElem_cons hjl,(List.getElem?_eq_some_iff.1 hq).2,List.reverse_cons]
  obtain⟨a1,a2⟩:=are j q hq
  rw[show l0-j=d+1 by omega] at h1
  have ih:=grow_way hx hmx h6 ht ha hr hE hll are d (j+1) (by omega)
  have hat:atW s x.1 a (j+1)=refW (rmV s (atW s x.1 a j)) x.1:=rfl
  generalize atW s x.1 a j=b at *
  rw[hat] at ih
  have hq1:q.nd.1=((d+1:Nat):Int):=by rw[a1,h1.lv]
  have eL:∀ F,itemsS q F=insL (rmV s b).2 (wayN (rmV s b) x.1) 1 F:=fun F=>by
   unfold stpN at a2
   rw[if_neg (by omega)] at a2
   simp only[Prod.mk.injEq] at a2
   unfold itemsS insL
   rw[a2.1,a2.2,a1]
   rfl
  rw[hd,growA_app,ih]
  conv=>rhs;unfold grownO
  by_cases hg:(grownO x d s (refW (rmV s b) x.1)).1=0
  ·rw[if_pos hg,if_pos hg]
   obtain⟨tb',e',h1',h2',h3'⟩:=top_down h1 h2 h3 hE
   generalize hgg:grownO x d s (refW (rmV s b) x.1)=g at hg
   obtain⟨z,u1,up1⟩:=g
   obtain rfl:z=0:=hg
   obtain⟨N1,G⟩:=grown_ok hx hr hE d (by omega) h1' h2' h3' hgg
   rw[growA_one,eL,hq1]
   unfold layO
   by_cases hb:(builtO u1 ((d+1:Nat):Int) (insL (rmV s b).2 (wayN (rmV s b) x.1) 1 up1)).1=0
   ·rw[if_pos hb,if_pos hb]
    generalize hbb:builtO u1 ((d+1:Nat):Int) (insL (rmV s b).2 (wayN (rmV s b) x.1) 1 up1)=bb at hb
    obtain⟨z,u2,up⟩:=bb
    obtain rfl:z=0:=hb
    have hm:=(rm_may h1.ok).1
    have hin:InN (((d+1:Nat):Int),insL (rmV s b).2 (wayN (rmV s b) x.1) 1 up1):=⟨⟨by show (-9223372036854775808:Int)≤((d+1:Nat):Int);omega,by show ((d+1:Nat):Int)≤9223372036854775807;omega⟩,fun p hp=>by
     have hN:=(rm_in h1.ok).it
     rcases List.mem_append.1 hp with hp | hp
     ·exact hN p (List.mem_of_mem_take hp)
     ·rcases List.mem_append.1 hp with hp | hp
      ·exact G.inI p hp
      ·exact hN p (List.mem_of_mem_drop hp)⟩
    have hnd:ndD s.1 b=rmV s b:=ndD_rm h1.ok
    have hsh:∀ p∈(rmV s b).2,p.2.1∈N1∧p.2.1≠0∧(ndD u1.1 p.2.1).1+1=((d+1:Nat):Int):=fun p hp=>by
     have:=hE.shut b h3 (by rw[hnd,h1.lv];omega) p (by rw[hnd];exact hp)
     rw[hnd,h1.lv] at this
     exact⟨G.more _ this.1,this.2.1,by rw[keep_nd G.keep hE this.1];exact this.2.2⟩
    obtain⟨N2,e1,k2,e3,e4,e5,e6,e7,e8⟩:=built_enf hbb hin G.enf fun _ p hp=>by
     rcases List.mem_append.1 hp with hp | hp
     ·exact hsh p (List.mem_of_mem_take hp)
     ·rcases List.mem_append.1 hp with hp | hp
      ·obtain⟨f1,f2,f3,f4⟩:=G.ups p hp
       exact⟨f1,by omega,by rw[f4];omega⟩
      ·exact hsh p (List.mem_of_mem_drop hp)
    have hlo:=loo_enf up1 (s:=u2) (P:=fun i=>P i+cntR up i) (N:=N2) k2.may (e1.same fun i=>by show P i+cntR up i+cntR up1 i=P i+cntR up1 i+cntR up i;omega) fun p hp=>by
     obtain⟨_,f2,f3,_⟩:=G.ups p hp
     obtain⟨n,hn,hpn⟩:=e6 p (List.mem_append_right _ (List.mem_append_left _ hp))
     exact⟨⟨f2,f3⟩,n,hn,p,hpn,rfl⟩
    rw[hlo]
    rfl
   ·rw[if_neg hb,if_neg hb,if_neg hb]
  ·rw[if_neg hg,if_neg hg]
theorem part_way {x:It} {s:Rm} {a:Int} {l0:Nat} (hT:AtT s l0 a) {l:List Sv} (hll:l.length=l0+1) (are:∀ i q,l[i]? = some q→q.nd=rmV s (atW s x.1 a i)∧(q.pl,q.inst)=stpN q.nd x.1) :
  ∀ (d j:Nat),j+d=l0→partF (l.drop j).reverse 1=tallT s d (atW s x.1 a j) x.1
 | 0,j,hj=>by
  have h1:=at_down (k:=x.1) hT j (by omega)
  have hjl:j<l.length:=by omega
  obtain⟨q,hq⟩:∃ q,l[j]? = some q:=⟨_,List.getElem?_eq_getElem hjl⟩
  have hd:l.drop j=[q]:=by
   rw[List.drop_eq_getElem_cons hjl,(List.getElem?_eq_some_iff.1 hq).2,List.drop_of_length_le (by omega)]
  obtain⟨a1,a2⟩:=are j q hq
  have h5:=(mayN_of h1.may).1.2.2.1
  have h0:q.nd.1=0:=by rw[a1,h1.lvl,show l0-j=0 by omega];rfl
  unfold stpN at a2
  rw[if_pos h0] at a2
  simp only[Prod.mk.injEq] at a2
  rw[hd,List.reverse_singleton]
  unfold tallT
  rw[← a1] at h5 ⊢
  show (if lenS q 1≤5 then false else true)=_
  unfold lenS
  rw[a2.2]
  cases hth:thereN q.nd x.1 with
  | true=>simp;omega
  | false =>
   rw[Bool.eq_iff_iff]
   simp
   omega
 | d+1,j,hj=>by
  have h1:=at_down (k:=x.1) hT j (by omega)
  have hjl:j<l.length:=by omega
  obtain⟨q,hq⟩:∃ q,l[j]? = some q:=⟨_,List.getElem?_eq_getElem hjl⟩
  have hd:(l.drop j).reverse=(l.drop (j+1)).reverse++[q]:=by
   rw[List.drop_eq_getElem_cons hjl,(List.getElem?_eq_some_iff.1 hq).2,List.reverse_cons]
  obtain⟨a1,a2⟩:=are j q hq
  have h0:q.nd.1≠0:=by rw[a1,h1.lvl];omega
  unfold stpN at a2
  rw[if_neg h0] at a2
  simp only[Prod.mk.injEq] at a2
  have ih:=part_way hT hll are d (j+1) (by omega)
  rw[hd,partF_app _ _ _ (by
   intro e
   have:=congrArg List.length e
   rw[List.length_reverse,List.length_drop] at this
   simp at this
   omega),ih]
  have hat:atW s x.1 a (j+1)=refW (rmV s (atW s x.1 a j)) x.1:=rfl
  rw[hat]
  conv=>rhs;unfold tallT
  rw[Bool.and_comm]
  congr 1
  unfold lenS
  rw[a2.2,a1]
  simp
  omega
theorem growO_is {x:It} (hx:InI x) (hmx:mayI x=true) {s:Rm} {a:Int} {P:Nat→Nat} {N:List Int} (ht:treeO s a=true) (ha:a∈N) (hr:x.2.1=0∨(0<x.2.1∧s.2.1[x.2.1.toNat]?.getD 0≠0))
  (hE:Enf s.1 s.2.1 (fun i=>P i+hold x i) N) {l:List Sv} (hl:WayL s x.1 a l) :
  growO s l x=(if (grownO x (rmV s a).1.toNat s a).1=0 then
   (if (rootO (grownO x (rmV s a).1.toNat s a).2.1 (rmV s a).1 (grownO x (rmV s a).1.toNat s a).2.2).1=0 then
    (0,(rootO (grownO x (rmV s a).1.toNat s a).2.1 (rmV s a).1 (grownO x (rmV s a).1.toNat s a).2.2).2.1,nowL (rootO (grownO x (rmV s a).1.toNat s a).2.1 (rmV s a).1 (grownO x (rmV s a).1.toNat s a).2.2).2.2)
    else ((rootO (grownO x (rmV s a).1.toNat s a).2.1 (rmV s a).1 (grownO x (rmV s a).1.toNat s a).2.2).1,emptyR,0))
   else ((grownO x (rmV s a).1.toNat s a).1,emptyR,0)):=by
 obtain⟨r1,ra,_,l0,l6,_⟩:=tree_of ht
 have hg:=grow_way hx hmx (by omega) (tree_top ht) ha hr hE hl.1 hl.2 (rmV s a).1.toNat 0 (by omega)
 rw[List.drop_zero] at hg
 have ell:((l.length:Nat):Int)=(rmV s a).1+1:=by rw[hl.1];omega
 unfold growO
 rw[hg,ell]
 show (if (grownO x (rmV s a).1.toNat s a).1=0 then _ else _)=_
 by_cases h0:(grownO x (rmV s a).1.toNat s a).1=0
 ·rw[if_pos h0,if_pos h0]
  show (if 1<(grownO x (rmV s a).1.toNat s a).2.2.length then _ else (0,(grownO x (rmV s a).1.toNat s a).2.1,nowL (grownO x (rmV s a).1.toNat s a).2.2))=_
  show (if 1<(grownO x (rmV s a).1.toNat s a).2.2.length then (if (layO (grownO x (rmV s a).1.toNat s a).2.1 ((rmV s a).1+1) (grownO x (rmV s a).1.toNat s a).2.2 (grownO x (rmV s a).1.toNat s a).2.2).1=0 then (0,(layO (grownO x (rmV s a).1.toNat s a).2.1 ((rmV s a).1+1) (grownO x (rmV s a).1.toNat s a).2.2 (grownO x (rmV s a).1.toNat s a).2.2).2.1,nowL (layO (grownO x (rmV s a).1.toNat s a).2.1 ((rmV s a).1+1) (grownO x (rmV s a).1.toNat s a).2.2 (grownO x (rmV s a).1.toNat s a).2.2).2.2) else ((layO (grownO x (rmV s a).1.toNat s a).2.1 ((rmV s a).1+1) (grownO x (rmV s a).1.toNat s a).2.2 (grownO x (rmV s a).1.toNat s a).2.2).1,emptyR,0)) else (0,(grownO x (rmV s a).1.toNat s a).2.1,nowL (grownO x (rmV s a).1.toNat s a).2.2))=_
  generalize hgg:grownO x (rmV s a).1.toNat s a=g at h0
  obtain⟨z,u1,up⟩:=g
  obtain rfl:z=0:=h0
  obtain⟨N1,G⟩:=grown_ok hx hr hE _ (by omega) (tree_top ht) (fun he=>by cases he) ha hgg
  unfold rootO
  by_cases h1:1<up.length
  ·rw[if_pos h1,if_pos h1]
   unfold layO
   by_cases hb:(builtO u1 ((rmV s a).1+1) up).1=0
   ·rw[if_pos hb,if_pos hb]
    generalize hbb:builtO u1 ((rmV s a).1+1) up=b at hb
    obtain⟨z,u0,top⟩:=b
    obtain rfl:z=0:=hb
    have hin:InN ((rmV s a).1+1,up):=⟨⟨by show (-9223372036854775808:Int)≤(rmV s a).1+1;omega,by show (rmV s a).1+1≤9223372036854775807;omega⟩,G.inI⟩
    obtain⟨N2,e1,k2,e3,e4,e5,e6,_,_⟩:=built_enf hbb hin G.enf fun _ q hq=>by
     obtain⟨f1,f2,_,f4⟩:=G.ups q hq
     exact⟨f1,by omega,by omega⟩
    have hlo:=loo_enf up (s:=u0) (P:=fun i=>P i+cntR top i) (N:=N2) k2.may (e1.same fun i=>by show P i+cntR top i+cntR up i=P i+cntR up i+cntR top i;omega) fun p hp=>by
     obtain⟨_,f2,f3,_⟩:=G.ups p hp
     obtain⟨n,hn,hpn⟩:=e6 p hp
     exact⟨⟨f2,f3⟩,n,hn,p,hpn,rfl⟩
    rw[hlo]
    rfl
   ·rw[if_neg hb,if_neg hb,if_neg hb]
    first | done | exact(if_neg hb).symm
  ·rw[if_neg h1,if_neg h1]
   rfl
 ·rw[if_neg h0,if_neg h0]
  rfl
theorem put_tail {x:It} (hx:InI x) {s:Rm} {a:Int} {P:Nat→Nat} {N:List Int} (ht:treeO s a=true) (ha:a∈N) (hr:x.2.1=0∨(0<x.2.1∧s.2.1[x.2.1.toNat]?.getD 0≠0)) (hE:Enf s.1 s.2.1 (fun i=>P i+hold x i) N):∀ {G:Int×Rm×Int},
  G=(if (grownO x (rmV s a).1.toNat s a).1=0 then
   (if (rootO (grownO x (rmV s a).1.toNat s a).2.1 (rmV s a).1 (grownO x (rmV s a).1.toNat s a).2.2).1=0 then
    (0,(rootO (grownO x (rmV s a).1.toNat s a).2.1 (rmV s a).1 (grownO x (rmV s a).1.toNat s a).2.2).2.1,nowL (rootO (grownO x (rmV s a).1.toNat s a).2.1 (rmV s a).1 (grownO x (rmV s a).1.toNat s a).2.2).2.2)
    else ((rootO (grownO x (rmV s a).1.toNat s a).2.1 (rmV s a).1 (grownO x (rmV s a).1.toNat s a).2.2).1,emptyR,0))
   else ((grownO x (rmV s a).1.toNat s a).1,emptyR,0)) →
  (if G.1≠0 then (G.1,emptyR,0) else if lvE G.2.1 a≠0 then (lvE G.2.1 a,emptyR,0) else (0,lvV G.2.1 a,G.2.2)) =
  (if (grownO x (rmV s a).1.toNat s a).1=0 then
  if (rootO (grownO x (rmV s a).1.toNat s a).2.1 (rmV s a).1 (grownO x (rmV s a).1.toNat s a).2.2).1=0 then
   match lfO (rootO (grownO x (rmV s a).1.toNat s a).2.1 (rmV s a).1 (grownO x (rmV s a).1.toNat s a).2.2).2.1.1 (rootO (grownO x (rmV s a).1.toNat s a).2.1 (rmV s a).1 (grownO x (rmV s a).1.toNat s a).2.2).2.1.2.1 a.toNat with
   | none=>(8,emptyR,0)
   | some v=>(0,((rootO (grownO x (rmV s a).1.toNat s a).2.1 (rmV s a).1 (grownO x (rmV s a).1.toNat s a).2.2).2.1.1,v,(rootO (grownO x (rmV s a).1.toNat s a).2.1 (rmV s a).1 (grownO x (rmV s a).1.toNat s a).2.2).2.1.2.2),nowL (rootO (grownO x (rmV s a).1.toNat s a).2.1 (rmV s a).1 (grownO x (rmV s a).1.toNat s a).2.2).2.2)
  else ((rootO (grownO x (rmV s a).1.toNat s a).2.1 (rmV s a).1 (grownO x (rmV s a).1.toNat s a).2.2).1,emptyR,0)
 else ((grownO x (rmV s a).1.toNat s a).1,emptyR,0)):=fun {G} hG=>by
 obtain⟨r1,ra,_,l0,l6,_⟩:=tree_of ht
 by_cases h0:(grownO x (rmV s a).1.toNat s a).1=0
 ·rw[if_pos h0] at hG ⊢
  generalize hgg:grownO x (rmV s a).1.toNat s a=g at h0 hG
  obtain⟨z,u1,up⟩:=g
  obtain rfl:z=0:=h0
  obtain⟨N1,W⟩:=grown_ok hx hr hE _ (by omega) (tree_top ht) (fun he=>by cases he) ha hgg
  by_cases h1:(rootO u1 (rmV s a).1 up).1=0
  ·rw[if_pos h1] at hG
   rw[if_pos h1]
   generalize hrr:rootO u1 (rmV s a).1 up=r at h1 hG
   obtain⟨z,T,top⟩:=r
   obtain rfl:z=0:=h1
   have hlv:(rmV s a).1=(((rmV s a).1.toNat:Nat):Int):=by omega
   rw[hlv] at hrr
   obtain⟨L,z,N2,en,k,_⟩:=root_ok (by omega) W hrr
   have haT:=(keep_node k ra).1
   subst hG
   show (if (0:Int)≠0 then _ else if lvE T a≠0 then (lvE T a,emptyR,0) else (0,lvV T a,nowL top))=(match lfO T.1 T.2.1 a.toNat with | none=>(8,emptyR,0) | some v=>(0,(T.1,v,T.2.2),nowL top))
   rw[if_neg (fun h=>h rfl)]
   unfold lvE lvV
   rw[if_pos haT,if_pos haT]
   cases lfO T.1 T.2.1 a.toNat with
   | none=>rfl
   | some v=>rfl
  ·rw[if_neg h1] at hG
   rw[if_neg h1]
   subst hG
   exact if_pos h1
 ·rw[if_neg h0] at hG ⊢
  subst hG
  exact if_pos h0
theorem putS_is {x:It} (hx:InI x) {s:Rm} {a:Int} {P:Nat→Nat} {N:List Int} (hck:ckE s a=0) (hci:citE s x=0) (ha:a∈N) (hE:Enf s.1 s.2.1 (fun i=>P i+hold x i) N) {l:List Sv} (hl:WayL s x.1 a l):putS s a x l=insO s a x∧putO s a x=insO s a x:=by
 obtain⟨ht,hasE,_⟩:=ck_of hck
 obtain⟨r1,ra,_,l0,l6,_⟩:=tree_of ht
 have hmx:mayI x=true:=by
  unfold citE at hci
  split at hci
  ·rename_i h;exact h
  ·cases hci
 have hnr:¬ (x.2.1≠0∧s.2.1[x.2.1.toNat]?.getD 0=0):=fun h=>by
  unfold citE at hci
  rw[if_pos hmx,if_pos h] at hci
  cases hci
 have hr:x.2.1=0∨(0<x.2.1∧s.2.1[x.2.1.toNat]?.getD 0≠0):=by
  by_cases h0:x.2.1=0
  ·exact .inl h0
  ·have:=(mayI_of hmx).1
   exact .inr ⟨by omega,fun h=>hnr ⟨h0,h⟩⟩
 refine⟨?_,by unfold putO;rw[if_pos hck,if_pos hmx,if_neg hnr]⟩
 have hp:=part_way (x:=x) (tree_at ht) hl.1 hl.2 (rmV s a).1.toNat 0 (by omega)
 rw[List.drop_zero] at hp
 have hp':partF l.reverse 1=tallT s (rmV s a).1.toNat a x.1:=hp
 unfold putS insO
 rw[if_neg (fun h=>h hck),if_neg (fun h=>h hci),hp',growO_is hx hmx ht ha hr hE hl]
 unfold tallO
 by_cases h5:(rmV s a).1=5
 ·have e5:(rmV s a).1.toNat=5:=by omega
  by_cases hT:tallT s 5 a x.1=true
  ·rw[if_pos ⟨h5,by rw[e5];exact hT⟩,if_pos (by rw[h5,hT];rfl)]
  ·refine(if_neg (fun h=>hT (by rw[← e5];exact h.2))).trans (Eq.trans ?_ (if_neg (fun h=>hT (by simpa [h5] using h))).symm)
   exact put_tail hx ht ha hr hE rfl
 ·refine(if_neg (fun h=>h5 h.1)).trans (Eq.trans ?_ (if_neg (fun h=>h5 (by simp at h;exact h.1))).symm)
  exact put_tail hx ht ha hr hE rfl
end Go.Proofs.YtogieepfimpdmaaGreat
/-
 The chapter's tree of layer 10,plain. Conditions: those that each lemma states.
-/
namespace Go.Proofs.YtogieepfimpdmaaGreat
open Go.RowKit
def keyN (x:Int):Ky:=(2,0,x)
end Go.Proofs.YtogieepfimpdmaaGreat
/-
 The trees that the laws of layer 12 grow from nothing,plain. Conditions: those that each lemma states.
-/
namespace Go.Proofs.YtogieepfimpdmaaGreat
open Go.RowKit
theorem ct_none:∀ (l:List It) (t:List UInt8),(∀ y∈l,y.2.1=0)→ctE t l=0∧ctV t l=t
 | [],_,_=>⟨rfl,rfl⟩
 | x::l,t,h=>by
  obtain⟨h1,h2⟩:=ct_none l t fun y hy=>h y (List.mem_cons_of_mem _ hy)
  have h0:=h x List.mem_cons_self
  exact⟨by rw[ctE,if_pos h0];exact h1,by rw[ctV,if_pos h0];exact h2⟩
theorem mk_plain {s:Rm} {n:Nd} (hm:mayR s=true) (hn:mayN n=true) (hc:ctE s.2.1 n.2=0) {k:Nat} (hf:(freeL s)[0]? = some k) (hw:s.1.2.length<4096):mkE s n=0∧mkN s n=k∧mkV s n=(wrD s.1 k (blkN n),(ctV s.2.1 n.2).set k 1,s.2.2)∧mayR (mkV s n)=true∧k<256:=by
 have hfs:=ctS_free hm hn hc
 have hms:=ctS_may hm hn hc
 have hT:tkE (ctS s n) (blkN n)=0:=tk_yes hms (blkN_length hn) (fun e=>by rw[hfs] at e;rw[e] at hf;cases hf) hw
 have hK:tkK (ctS s n)=k:=by rw[tkK,hfs,hf];rfl
 obtain⟨_,_,_,_,_,_,_,_,hN,_⟩:=tk_ok hT
 rcases mk_ways hm hn with ⟨hc',_⟩ | ⟨_,e,e2,_⟩
 ·exact absurd hc hc'
 have hE:=e.trans hT
 have hNk:mkN s n=k:=by rw[e2,hN,hK]
 obtain⟨k',e1,_,h256,_,_,_,hV,hmT,_⟩:=mk_counts hE
 have hk:k'=k:=by omega
 subst hk
 exact⟨hE,hNk,hV,hmT,h256⟩
theorem free_of (d:Dk) (T Z:List UInt8):freeL (d,T,Z)=freeL (zeroD,T,Z):=by
 unfold freeL freeK freeAt
 rfl
structure Lf (s:Rm) (a:Nat) (L:List It) (m:Nat):Prop where
 may:mayR s=true
 now:s.2.1=(zeros 256).set a 1
 last:s.2.2=zeros 256
 seen:seenD s.1 a=blkN (0,L)
 mayN:mayN (0,L)=true
 inN:InN (0,L)
 at_:a=8∨a=9
 few:s.1.2.length≤m
 refs:∀ y∈L,y.2.1=0
theorem Lf.cnt {s:Rm} {a:Nat} {L:List It} {m:Nat} (h:Lf s a L m):s.2.1[a]?.getD 0=1:=by
 rw[h.now]
 rcases h.at_ with rfl | rfl <;> decide +kernel
theorem Lf.as {s:Rm} {a:Nat} {L:List It} {m:Nat} (h:Lf s a L m):asE s (a:Int)=0 :=
 as_yes h.may (by rcases h.at_ with rfl | rfl <;> decide) (by rcases h.at_ with rfl | rfl <;> decide) (by rw[h.cnt];decide)
theorem Lf.rm {s:Rm} {a:Nat} {L:List It} {m:Nat} (h:Lf s a L m):rmE s (a:Int)=0∧rmV s (a:Int)=(0,L):=rm_yes h.as h.seen h.mayN h.inN
theorem Lf.tree {s:Rm} {a:Nat} {L:List It} {m:Nat} (h:Lf s a L m):treeO s (a:Int)=true∧allO s (a:Int)=L∧ckE s (a:Int)=0∧ckH s (a:Int)=1:=by
 obtain⟨r1,r2⟩:=h.rm
 have ht:treeO s (a:Int)=true:=by
  unfold treeO
  rw[r1,r2]
  show (true&&leafO s L)=true
  unfold leafO
  rw[Bool.true_and,List.all_eq_true]
  intro y hy
  simp[h.refs y hy]
 refine⟨ht,?_,(ck_ok h.as ht).1,by rw[(ck_ok h.as ht).2,r2];rfl⟩
 unfold allO
 rw[r2]
 show itsT s 0 a=L
 unfold itsT
 rw[r2]
theorem cntR_none:∀ (l:List It) (k:Nat),(∀ y∈l,y.2.1=0)→cntR l k=0
 | [],_,_=>rfl
 | x::l,k,h=>by
  show (if x.2.1=(k:Int) then (if x.2.1=0 then 0 else 1) else 0)+cntR l k=0
  rw[cntR_none l k fun y hy=>h y (List.mem_cons_of_mem _ hy),if_pos (h x List.mem_cons_self)]
  split <;> rfl
theorem Lf.enf {s:Rm} {a:Nat} {L:List It} {m:Nat} (h:Lf s a L m):Enf s.1 s.2.1 (fun i=>if i=a then 1 else 0) [(a:Int)]:=by
 obtain⟨r1,r2⟩:=h.rm
 have hnd:ndD s.1 (a:Int)=(0,L):=(ndD_rm r1).trans r2
 obtain⟨q1,_⟩:=read_blkN h.mayN h.inN
 have ha:a=8∨a=9:=h.at_
 refine⟨by simp,fun n hn => ?_,fun n hn h0 => ?_,fun n hn => ?_,fun k => ?_⟩
 ·rw[List.mem_singleton.1 hn]
  refine⟨by omega,by omega,?_,?_⟩
  ·rw[show ((a:Int)).toNat=a by omega,h.seen,q1]
  ·rw[show ((a:Int)).toNat=a by omega,cnt_nz,h.cnt]
   decide
 ·rw[List.mem_singleton.1 hn,hnd] at h0
  exact absurd rfl h0
 ·rw[List.mem_singleton.1 hn,hnd]
  exact fun y hy=>.inl (h.refs y hy)
 ·show (if k=a then 1 else 0)+(cntR (ndD s.1 (a:Int)).2 k+0)≤_
  rw[hnd,cntR_none L k h.refs]
  by_cases e:k=a
  ·subst e
   unfold cnt8
   rw[if_pos rfl,h.cnt]
   decide
  ·rw[if_neg e]
   omega
theorem lf_leave {d:Dk} {t:List UInt8} {a:Nat} {L:List It} (hs:seenD d a=blkN (0,L)) (hn:mayN (0,L)=true) (hi:InN (0,L)) (h1:t[a]?.getD 0=1) (hr:∀ y∈L,y.2.1=0):lfO d t a=some (t.set a 0):=by
 have he:∀ (f:List UInt8→Nat→Option (List UInt8)) (l:List It) (t:List UInt8),(∀ y∈l,y.2.1=0)→eachO f t l=some t:=fun f l=>by
  induction l with
  | nil=>intro t _;rfl
  | cons x l ih =>
   intro t h
   rw[eachO,if_pos (h x List.mem_cons_self)]
   exact ih t fun y hy=>h y (List.mem_cons_of_mem _ hy)
 obtain⟨r1,r2⟩:=read_blkN hn hi
 unfold lfO
 rw[dnO_yes (by rw[h1];decide),h1,hs,r1,r2]
 show (if 1<(1:UInt8).toNat then some (t.set a (1-1)) else if (0:Int)=0 then eachO (lvF d 0) (t.set a (1-1)) L else none)=_
 rw[if_neg (by decide),if_pos rfl,he _ _ _ hr]
 rfl
set_option maxRecDepth 100000 in
theorem Lf.put {s:Rm} {a:Nat} {L:List It} {m:Nat} (h:Lf s a L m) (hm:m<100) {x:It} (hx:InI x) (hx0:x.2.1=0) (hn:Go.Proofs.YtogieepfimpdmaaGreat.mayN (0,putL L x)=true):∃ s',insO s (a:Int) x=(0,s',((17-a:Nat):Int))∧Lf s' (17-a) (putL L x) (m+1):=by
 obtain⟨r1,r2⟩:=h.rm
 have ha:a=8∨a=9:=h.at_
 have hl5:(putL L x).length≤5:=(mayN_of hn).1.2.2.1
 have hrf:∀ y∈putL L x,y.2.1=0:=fun y hy=>by
  rcases putL_in.1 hy with rfl | ⟨hy,_⟩
  ·exact hx0
  ·exact h.refs y hy
 have hin:InN ((0:Int),putL L x):=⟨⟨by simp,by simp⟩,fun y hy=>by
  rcases putL_in.1 hy with rfl | ⟨hy,_⟩
  ·exact hx
  ·exact h.inN.it y hy⟩
 obtain⟨c1,c2⟩:=ct_none (putL L x) s.2.1 hrf
 have hfr:(freeL s)[0]? = some (17-a):=by
  have e:s=(s.1,(zeros 256).set a 1,zeros 256):=by rw[← h.now,← h.last]
  rw[e,free_of]
  rcases ha with rfl | rfl <;> decide +kernel
 obtain⟨m1,m2,m3,m4,_⟩:=mk_plain h.may hn c1 hfr (by have:=h.few;omega)
 have hb:builtO s 0 (putL L x)=(0,mkV s (0,putL L x),[upI (putL L x) ((17-a:Nat):Int)]):=by
  unfold builtO
  rw[if_pos hl5,if_pos m1,m2]
 have eL:insL (rmV s (a:Int)).2 (placeN (rmV s (a:Int)) x.1) (if thereN (rmV s (a:Int)) x.1=true then 1 else 0) [x]=putL (rmV s (a:Int)).2 x:=leaf_put (by rw[r2];exact h.mayN) x
 have hg:grownO x 0 s (a:Int)=(0,mkV s (0,putL L x),[upI (putL L x) ((17-a:Nat):Int)]):=by
  unfold grownO
  rw[eL,r2,hb,if_pos rfl,if_pos hx0]
 have hne:a≠17-a:=by omega
 have hlf:lfO (mkV s (0,putL L x)).1 (mkV s (0,putL L x)).2.1 a=some ((mkV s (0,putL L x)).2.1.set a 0):=by
  refine lf_leave (L:=L) ?_ h.mayN h.inN ?_ h.refs
  ·rw[m3]
   exact(seenD_write_ne hne).trans h.seen
  ·rw[m3]
   show (List.set (ctV s.2.1 (putL L x)) (17-a) 1)[a]?.getD 0=1
   rw[c2,h.now]
   rcases ha with rfl | rfl <;> decide +kernel
 have hT:(mkV s (0,putL L x)).2.1.set a 0=(zeros 256).set (17-a) 1:=by
  rw[m3]
  show (List.set (ctV s.2.1 (putL L x)) (17-a) 1).set a 0=_
  rw[c2,h.now]
  rcases ha with rfl | rfl <;> decide +kernel
 have hZ:(mkV s (0,putL L x)).2.2=zeros 256:=by rw[m3];exact h.last
 refine⟨((mkV s (0,putL L x)).1,(zeros 256).set (17-a) 1,zeros 256),?_,⟨?_,rfl,rfl,?_,hn,hin,by omega,?_,hrf⟩⟩
 ·unfold insO
  have ht:tallO s (a:Int) x.1=false:=by unfold tallO;rw[r2];rfl
  have e0:(rmV s (a:Int)).1.toNat=0:=by rw[r2];rfl
  have hro:rootO (mkV s (0,putL L x)) (rmV s (a:Int)).1 [upI (putL L x) ((17-a:Nat):Int)]=(0,mkV s (0,putL L x),[upI (putL L x) ((17-a:Nat):Int)]):=by
   unfold rootO
   rw[if_neg (by simp)]
  rw[ht,e0,hg,if_neg (by decide),if_pos rfl]
  show (if (rootO (mkV s (0,putL L x)) (rmV s (a:Int)).1 [upI (putL L x) ((17-a:Nat):Int)]).1=0 then _ else _)=_
  rw[hro,if_pos rfl]
  dsimp only
  rw[show ((a:Int)).toNat=a by omega,hlf]
  dsimp only
  rw[hT,hZ]
  rfl
 ·exact mayR_mk (mayR_of m4).1 (show mayT ((zeros 256).set (17-a) 1)=true by rcases ha with rfl | rfl <;> decide +kernel) may_zeros
 ·show seenD (mkV s (0,putL L x)).1 (17-a)=_
  rw[m3]
  exact seenD_write
 ·show (mkV s (0,putL L x)).1.2.length≤m+1
  rw[m3]
  show (wrD s.1 (17-a) (blkN (0,putL L x))).2.length≤m+1
  rw[wrD_len]
  have:=h.few
  omega
def kx (n:Nat):It:=(keyN n,0,[])
def Ls:Nat→List It
 | 0=>[]
 | n+1=>Ls n++[kx (n+1)]
theorem Ls_put:∀ n:Nat,n≤5→putL (Ls n) (kx (n+1))=Ls (n+1)
 | 0,_ | 1,_ | 2,_ | 3,_ | 4,_ | 5,_=>by decide +kernel
 | n+6,h=>absurd h (by omega)
theorem Ls_may:∀ n:Nat,n≤5→mayN (0,Ls n)=true
 | 0,_ | 1,_ | 2,_ | 3,_ | 4,_ | 5,_=>by decide +kernel
 | n+6,h=>absurd h (by omega)
theorem Ls_in (n:Nat) (hn:n≤6):∀ x∈Ls n,InI x∧x.2.1=0:=by
 induction n with
 | zero=>intro x hx;cases hx
 | succ n ih =>
  intro x hx
  rcases List.mem_append.1 hx with hx | hx
  ·exact ih (by omega) x hx
  ·rw[List.mem_singleton.1 hx]
   exact⟨⟨⟨⟨by show (0:Int)≤0;omega,by show (0:Int)<4294967296;omega⟩,by show (0:Int)≤((n+1:Nat):Int);omega,by show ((n+1:Nat):Int)<4294967296;omega⟩,by show (-9223372036854775808:Int)≤0;omega,by show (0:Int)≤9223372036854775807;omega⟩,rfl⟩
noncomputable def gS:Nat→Rm×Int
 | 0=>(mkV newR zeroN,8)
 | n+1=>((insO (gS n).1 (gS n).2 (kx (n+1))).2.1,(insO (gS n).1 (gS n).2 (kx (n+1))).2.2)
def gA (n:Nat):Nat:=if n % 2=0 then 8 else 9
set_option maxRecDepth 100000 in
theorem lf_new:mkE newR zeroN=0∧mkN newR zeroN=8∧Lf (mkV newR zeroN) 8 [] 1:=by
 have hn:mayN zeroN=true:=by decide +kernel
 obtain⟨m1,m2,m3,m4,_⟩:=mk_plain may_new hn (by generalize newR.2.1=z;rfl) (k:=8) (by rw[new_free.2];rfl) (by rw[newR,zero_len2];omega)
 refine⟨m1,m2,m4,?_,?_,?_,hn,⟨⟨by decide,by decide⟩,fun x hx=>by cases hx⟩,.inl rfl,?_,fun y hy=>by cases hy⟩
 ·rw[m3]
  have e:ctV newR.2.1 zeroN.2=zeros 256:=by
   have e0:newR.2.1=zeros 256:=rfl
   rw[e0]
   generalize zeros 256=z
   rfl
  show (ctV newR.2.1 zeroN.2).set 8 1=_
  rw[e]
 ·rw[m3]
  unfold newR
  rfl
 ·rw[m3];exact seenD_write
 ·rw[m3]
  show (wrD newR.1 8 (blkN zeroN)).2.length≤1
  rw[wrD_len]
  exact Nat.le_refl _
theorem gS_lf:∀ n,n≤5→Lf (gS n).1 (gA n) (Ls n) (n+1)∧(gS n).2=(gA n:Int)
 | 0,_=>by
  have e0:gS 0=(mkV newR zeroN,8):=by rw[gS]
  have e1:gA 0=8:=rfl
  have e2:Ls 0=[]:=rfl
  rw[e0,e1,e2]
  dsimp only
  refine⟨?_,by decide⟩
  rw[Nat.zero_add]
  exact lf_new.2.2
 | n+1,h=>by
  obtain⟨h1,h2⟩:=gS_lf n (by omega)
  obtain⟨hi,hz⟩:=Ls_in (n+1) (by omega) (kx (n+1)) (List.mem_append_right _ (List.mem_singleton.2 rfl))
  obtain⟨s',e,h3⟩:=h1.put (by omega) hi hz (by rw[Ls_put n (by omega)];exact Ls_may (n+1) h)
  rw[Ls_put n (by omega)] at h3
  have ea:17-gA n=gA (n+1):=by
   unfold gA
   by_cases he:n % 2=0
   ·rw[if_pos he,if_neg (by omega)]
   ·rw[if_neg he,if_pos (by omega)]
  rw[ea] at h3 e
  have e1:gS (n+1)=(s',(gA (n+1):Int)):=by
   show ((insO (gS n).1 (gS n).2 (kx (n+1))).2.1,(insO (gS n).1 (gS n).2 (kx (n+1))).2.2)=_
   rw[h2,e]
  rw[e1]
  exact⟨h3,rfl⟩
theorem gS_ins (n:Nat) (h:n<5):insO (gS n).1 (gS n).2 (kx (n+1))=(0,(gS (n+1)).1,(gS (n+1)).2):=by
 obtain⟨h1,h2⟩:=gS_lf n (by omega)
 obtain⟨hi,hz⟩:=Ls_in (n+1) (by omega) (kx (n+1)) (List.mem_append_right _ (List.mem_singleton.2 rfl))
 obtain⟨s',e,_⟩:=h1.put (by omega) hi hz (by rw[Ls_put n (by omega)];exact Ls_may (n+1) (by omega))
 show _=(0,(insO (gS n).1 (gS n).2 (kx (n+1))).2.1,(insO (gS n).1 (gS n).2 (kx (n+1))).2.2)
 rw[h2,e]
theorem gS_succ (n:Nat):gS (n+1)=((insO (gS n).1 (gS n).2 (kx (n+1))).2.1,(insO (gS n).1 (gS n).2 (kx (n+1))).2.2):=by rw[gS]
attribute [irreducible] gS
def upS:List It:=[(keyN 1,8,[]),(keyN 4,10,[])]
set_option maxRecDepth 100000 in
theorem six_made:∃ T,insO (gS 5).1 (gS 5).2 (kx 6)=(0,T,11)∧mayR T=true∧rmE T 11=0∧rmV T 11=(1,upS)∧rmE T 8=0∧rmV T 8=(0,(Ls 6).take 3)∧rmE T 10=0∧rmV T 10=(0,(Ls 6).drop 3):=by
 obtain⟨h,h2⟩:=gS_lf 5 (by omega)
 rw[h2]
 generalize (gS 5).1=s at h
 obtain⟨r1,r2⟩:=h.rm
 have e9:gA 5=9:=rfl
 rw[e9] at h r1 r2 ⊢
 have e9i:((9:Nat):Int)=9:=rfl
 rw[e9i] at r1 r2 ⊢
 have hrf:∀ y∈Ls 6,y.2.1=0:=fun y hy=>(Ls_in 6 (by omega) y hy).2
 have hin3:InN ((0:Int),(Ls 6).take 3):=⟨⟨by simp,by simp⟩,fun y hy=>(Ls_in 6 (by omega) y (List.mem_of_mem_take hy)).1⟩
 have hin4:InN ((0:Int),(Ls 6).drop 3):=⟨⟨by simp,by simp⟩,fun y hy=>(Ls_in 6 (by omega) y (List.mem_of_mem_drop hy)).1⟩
 have hn3:mayN (0,(Ls 6).take 3)=true:=by decide +kernel
 have hn4:mayN (0,(Ls 6).drop 3)=true:=by decide +kernel
 have hnu:mayN (1,upS)=true:=by decide +kernel
 have hinu:InN ((1:Int),upS):=⟨⟨by simp,by simp⟩,fun y hy=>by
  simp only[upS,List.mem_cons,List.not_mem_nil,or_false] at hy
  rcases hy with rfl | rfl <;> exact⟨⟨⟨by decide,by decide⟩,by decide,by decide⟩,by decide,by decide⟩⟩
 obtain⟨a1,a2⟩:=ct_none ((Ls 6).take 3) s.2.1 fun y hy=>hrf y (List.mem_of_mem_take hy)
 have hs:s=(s.1,(zeros 256).set 9 1,zeros 256):=by rw[← h.now,← h.last]
 obtain⟨m1,m2,m3,m4,_⟩:=mk_plain h.may hn3 a1 (k:=8) (by rw[hs,free_of];decide +kernel) (by have:=h.few;omega)
 obtain⟨U,hU⟩:∃ U,mkV s (0,(Ls 6).take 3)=U:=⟨_,rfl⟩
 rw[hU] at m3 m4
 have hU2:U=(wrD s.1 8 (blkN (0,(Ls 6).take 3)),((zeros 256).set 9 1).set 8 1,zeros 256):=by
  rw[m3]
  show (_,(ctV s.2.1 ((Ls 6).take 3)).set 8 1,s.2.2)=_
  rw[a2,h.now,h.last]
 obtain⟨b1,b2⟩:=ct_none ((Ls 6).drop 3) U.2.1 fun y hy=>hrf y (List.mem_of_mem_drop hy)
 obtain⟨n1,n2,n3,n4,_⟩:=mk_plain m4 hn4 b1 (k:=10) (by rw[hU2,free_of];decide +kernel) (by rw[hU2];show (wrD s.1 8 _).2.length<4096;rw[wrD_len];have:=h.few;omega)
 obtain⟨V,hV⟩:∃ V,mkV U (0,(Ls 6).drop 3)=V:=⟨_,rfl⟩
 rw[hV] at n3 n4
 have hV2:V=(wrD (wrD s.1 8 (blkN (0,(Ls 6).take 3))) 10 (blkN (0,(Ls 6).drop 3)),(((zeros 256).set 9 1).set 8 1).set 10 1,zeros 256):=by
  rw[n3]
  show (_,(ctV U.2.1 ((Ls 6).drop 3)).set 10 1,U.2.2)=_
  rw[b2,hU2]
 have hVn:V.2.1=(((zeros 256).set 9 1).set 8 1).set 10 1:=by rw[hV2]
 have c1:ctE V.2.1 upS=0:=by rw[hVn];decide +kernel
 obtain⟨o1,o2,o3,o4,_⟩:=mk_plain n4 hnu c1 (k:=11) (by rw[hV2,free_of];decide +kernel) (by rw[hV2];show (wrD (wrD s.1 8 _) 10 _).2.length<4096;rw[wrD_len,wrD_len];have:=h.few;omega)
 obtain⟨W,hW⟩:∃ W,mkV V (1,upS)=W:=⟨_,rfl⟩
 rw[hW] at o3 o4
 have hW2:W=(wrD (wrD (wrD s.1 8 (blkN (0,(Ls 6).take 3))) 10 (blkN (0,(Ls 6).drop 3))) 11 (blkN (1,upS)),((((((zeros 256).set 9 1).set 8 1).set 10 1).set 8 2).set 10 2).set 11 1,zeros 256):=by
  rw[o3]
  show (_,(ctV V.2.1 upS).set 11 1,V.2.2)=_
  rw[hV2]
  have:ctV ((((zeros 256).set 9 1).set 8 1).set 10 1) upS=(((((zeros 256).set 9 1).set 8 1).set 10 1).set 8 2).set 10 2:=by decide +kernel
  show (_,(ctV ((((zeros 256).set 9 1).set 8 1).set 10 1) upS).set 11 1,_)=_
  rw[this]
 have hb:builtO s 0 (Ls 6)=(0,V,upS):=by
  unfold builtO
  rw[if_neg (by decide),if_pos m1,hU,if_pos n1,hV,m2,n2]
  rfl
 have hb2:builtO V ((0:Int)+1) upS=(0,W,[upI upS 11]):=by
  unfold builtO
  rw[if_pos (by decide)]
  show (if mkE V (1,upS)=0 then (0,mkV V (1,upS),[upI upS (mkN V (1,upS))]) else (mkE V (1,upS),emptyR,[]))=_
  rw[if_pos o1,hW,o2]
  rfl
 have eL:insL (rmV s 9).2 (placeN (rmV s 9) (kx 6).1) (if thereN (rmV s 9) (kx 6).1=true then 1 else 0) [kx 6]=putL (rmV s 9).2 (kx 6):=leaf_put (by
  have:=h.mayN
  rw[show rmV s 9=(0,Ls 5) from r2]
  exact this) _
 have hg:grownO (kx 6) 0 s 9=(0,V,upS):=by
  unfold grownO
  rw[eL,show rmV s 9=(0,Ls 5) from r2]
  show (if (builtO s 0 (putL (Ls 5) (kx 6))).1=0 then (0,(if (kx 6).2.1=0 then (builtO s 0 (putL (Ls 5) (kx 6))).2.1 else freR (builtO s 0 (putL (Ls 5) (kx 6))).2.1 (kx 6).2.1),(builtO s 0 (putL (Ls 5) (kx 6))).2.2) else ((builtO s 0 (putL (Ls 5) (kx 6))).1,emptyR,[]))=_
  rw[Ls_put 5 (by omega),hb,if_pos rfl,if_pos (show (kx 6).2.1=0 from rfl)]
 obtain⟨F,hF⟩:∃ F,freL W upS=F:=⟨_,rfl⟩
 have hF2:F=(wrD (wrD (wrD s.1 8 (blkN (0,(Ls 6).take 3))) 10 (blkN (0,(Ls 6).drop 3))) 11 (blkN (1,upS)),(((((((zeros 256).set 9 1).set 8 1).set 10 1).set 8 2).set 10 2).set 11 1 |>.set 8 1).set 10 1,zeros 256):=by
  rw[← hF,hW2]
  have e:freL (wrD (wrD (wrD s.1 8 (blkN (0,(Ls 6).take 3))) 10 (blkN (0,(Ls 6).drop 3))) 11 (blkN (1,upS)),((((((zeros 256).set 9 1).set 8 1).set 10 1).set 8 2).set 10 2).set 11 1,zeros 256) upS=(wrD (wrD (wrD s.1 8 (blkN (0,(Ls 6).take 3))) 10 (blkN (0,(Ls 6).drop 3))) 11 (blkN (1,upS)),(freL (zeroD,((((((zeros 256).set 9 1).set 8 1).set 10 1).set 8 2).set 10 2).set 11 1,zeros 256) upS).2.1,zeros 256):=rfl
  rw[e]
  have:(freL (zeroD,((((((zeros 256).set 9 1).set 8 1).set 10 1).set 8 2).set 10 2).set 11 1,zeros 256) upS).2.1=(((((((zeros 256).set 9 1).set 8 1).set 10 1).set 8 2).set 10 2).set 11 1 |>.set 8 1).set 10 1:=by decide +kernel
  rw[this]
 have hFn:F.2.1=((((((((zeros 256).set 9 1).set 8 1).set 10 1).set 8 2).set 10 2).set 11 1).set 8 1).set 10 1:=by rw[hF2]
 have hFz:F.2.2=zeros 256:=by rw[hF2]
 have hro:rootO V 0 upS=(0,F,[upI upS 11]):=by
  unfold rootO
  rw[if_pos (by decide),hb2,if_pos rfl]
  show (0,freL W upS,_)=_
  rw[hF]
 have hlf:lfO F.1 F.2.1 9=some (F.2.1.set 9 0):=by
  refine lf_leave (L:=Ls 5) ?_ h.mayN h.inN ?_ h.refs
  ·rw[hF2]
   show seenD (wrD (wrD (wrD s.1 8 _) 10 _) 11 _) 9=_
   rw[seenD_write_ne (by decide),seenD_write_ne (by decide),seenD_write_ne (by decide)]
   exact h.seen
  ·rw[hFn]
   decide +kernel
 have hm:mayR (F.1,F.2.1.set 9 0,F.2.2)=true:=mayR_mk (by rw[hF2,show (wrD (wrD (wrD s.1 8 (blkN (0,(Ls 6).take 3))) 10 (blkN (0,(Ls 6).drop 3))) 11 (blkN (1,upS)))=W.1 by rw[hW2]];exact(mayR_of o4).1) (show mayT (F.2.1.set 9 0)=true by rw[hFn];decide +kernel) (show mayT F.2.2=true by rw[hFz];exact may_zeros)
 have hseen:∀ k n,seenD F.1 k=blkN n→mayN n=true→InN n→8≤k→k<256→(F.2.1.set 9 0)[k]?.getD 0≠0→rmE (F.1,F.2.1.set 9 0,F.2.2) (k:Int)=0∧rmV (F.1,F.2.1.set 9 0,F.2.2) (k:Int)=n:=fun k n h1 h2 h3 h8 h256 h4=>rm_yes (as_yes hm h8 h256 h4) h1 h2 h3
 have s11:seenD F.1 11=blkN (1,upS):=by rw[hF2];exact seenD_write
 have s10:seenD F.1 10=blkN (0,(Ls 6).drop 3):=by rw[hF2];show seenD (wrD (wrD (wrD s.1 8 _) 10 _) 11 _) 10=_;rw[seenD_write_ne (by decide)];exact seenD_write
 have s8:seenD F.1 8=blkN (0,(Ls 6).take 3):=by rw[hF2];show seenD (wrD (wrD (wrD s.1 8 _) 10 _) 11 _) 8=_;rw[seenD_write_ne (by decide),seenD_write_ne (by decide)];exact seenD_write
 obtain⟨t1,t2⟩:=hseen 11 _ s11 hnu hinu (by omega) (by omega) (by rw[hFn];decide +kernel)
 obtain⟨t3,t4⟩:=hseen 10 _ s10 hn4 hin4 (by omega) (by omega) (by rw[hFn];decide +kernel)
 obtain⟨t5,t6⟩:=hseen 8 _ s8 hn3 hin3 (by omega) (by omega) (by rw[hFn];decide +kernel)
 refine⟨(F.1,F.2.1.set 9 0,F.2.2),?_,hm,t1,t2,t5,t6,t3,t4⟩
 unfold insO
 have ht:tallO s 9 (kx 6).1=false:=by unfold tallO;rw[show rmV s 9=(0,Ls 5) from r2];rfl
 have e0:(rmV s 9).1=0:=by rw[show rmV s 9=(0,Ls 5) from r2]
 show (if tallO s 9 (kx 6).1=true then _ else _)=_
 rw[ht]
 show (if (grownO (kx 6) (rmV s 9).1.toNat s 9).1=0 then _ else _)=_
 rw[e0,show ((0:Int)).toNat=0 from rfl,hg,if_pos rfl]
 try dsimp only
 rw[hro,if_pos rfl]
 try dsimp only
 rw[show ((9:Int)).toNat=9 from rfl,hlf]
 rfl
theorem six_tree {T:Rm} (r1:rmE T 11=0) (r2:rmV T 11=(1,upS)) (r3:rmE T 8=0) (r4:rmV T 8=(0,(Ls 6).take 3)) (r5:rmE T 10=0) (r6:rmV T 10=(0,(Ls 6).drop 3)):ckE T 11=0∧ckH T 11=2:=by
 have h1:leafO T ((Ls 6).take 3)=true:=by
  unfold leafO
  rw[List.all_eq_true]
  intro y hy
  simp[(Ls_in 6 (by omega) y (List.mem_of_mem_take hy)).2]
 have h2:leafO T ((Ls 6).drop 3)=true:=by
  unfold leafO
  rw[List.all_eq_true]
  intro y hy
  simp[(Ls_in 6 (by omega) y (List.mem_of_mem_drop hy)).2]
 have ht:treeO T 11=true:=by
  unfold treeO
  rw[r1,r2]
  show (true&&(rightO T 0 8 (keyN 1) (keyN 4) true&&rightO T 0 10 (keyN 4) keyZ false))=true
  unfold rightO
  rw[r3,r4,r5,r6,h1,h2]
  decide
 have ha:asE T 11=0:=(rm_may r1).2
 exact⟨(ck_ok ha ht).1,by rw[(ck_ok ha ht).2,r2];rfl⟩
end Go.Proofs.YtogieepfimpdmaaGreat
/-
 Package put: New. Conditions: those that each lemma states.
-/
namespace Go.Proofs.YtogieepfimpdmaaGreat
open Go.RowKit
set_option maxRecDepth 100000 in
set_option maxHeartbeats 4000000 in
theorem putNew_any (qa qb qc qd:Option Addr×Nat×Nat) (s:Rm) (w:World) (h:Sto (Old w) w (.agg #[.slice qa.1 qa.2.1 qa.2.2,.slice qb.1 qb.2.1 qb.2.2,.slice qc.1 qc.2.1 qc.2.2,.slice qd.1 qd.2.1 qd.2.2]) s) :
  Calls Tryz.prog 21 #[.agg #[.slice qa.1 qa.2.1 qa.2.2,.slice qb.1 qb.2.1 qb.2.2,.slice qc.1 qc.2.1 qc.2.2,.slice qd.1 qd.2.1 qd.2.2]] w fun e W'=>∃ qa qb qc qd:Option Addr×Nat×Nat,e=.returned (.tuple #[.agg #[.slice qa.1 qa.2.1 qa.2.2,.slice qb.1 qb.2.1 qb.2.2,.slice qc.1 qc.2.1 qc.2.2,.slice qd.1 qd.2.1 qd.2.2],.int .i64 (mkN s zeroN),.int .i64 (mkE s zeroN)]) ∧
   Sto (New w.heap.size W') W' (.agg #[.slice qa.1 qa.2.1 qa.2.2,.slice qb.1 qb.2.1 qb.2.2,.slice qc.1 qc.2.1 qc.2.2,.slice qd.1 qd.2.1 qd.2.2]) (mkV s zeroN)∧Below w.heap.size w W':=by
 obtain⟨w1,hw1,b1,hs1,hB1⟩:=box_4 w (.slice qa.1 qa.2.1 qa.2.2) (.slice qb.1 qb.2.1 qb.2.2) (.slice qc.1 qc.2.1 qc.2.2) (.slice qd.1 qd.2.1 qd.2.2) 29
 obtain⟨w2,hw2,b2,hs2,hB2⟩:=box_4 w1 (.slice none 0 0) (.slice none 0 0) (.slice none 0 0) (.slice none 0 0) 29
 have hB12:=hB1.trans (hB2.mono hB1.size)
 have B2:=Lib.hid hB12
 have HM:=Lib.hid (makeV_four (.agg #[.slice qa.1 qa.2.1 qa.2.2,.slice qb.1 qb.2.1 qb.2.2,.slice qc.1 qc.2.1 qc.2.2,.slice qd.1 qd.2.1 qd.2.2]) (.agg #[.int .i64 0,.slice none 0 0]) s zeroN w2 (h.below hB12) (NodR.zero w.heap.size w2).nod.drop)
 have SZ:=Lib.hid (show w1.heap.size=w.heap.size+1∧w2.heap.size=w.heap.size+2 from ⟨hs1,by omega⟩)
 have G2:=Lib.hid b2
 obtain⟨k0,k1,k2,k3,_⟩:=four_cells ((hB2.block w.heap.size (by omega)).trans b1)
 replace hs1:=Lib.hid hs1
 replace hs2:=Lib.hid hs2
 obtain⟨mn,hmn⟩:∃ q,mkN s zeroN=q:=⟨_,rfl⟩
 obtain⟨me,hme⟩:∃ q,mkE s zeroN=q:=⟨_,rfl⟩
 obtain⟨mv,hmv⟩:∃ q,mkV s zeroN=q:=⟨_,rfl⟩
 rw[hmn,hme,hmv] at HM ⊢
 clear h hB1 hB2 hB12 b1 b2
 go_enter Tryz.func21,Tryz.ntmps21
 go_upto_region 1 with fail
 clear hw1 hw2
 go_wp2_with fail
 with_reducible refine(HM.out).mono ?_
 rintro e w3 ⟨ra,rb,rc,rd,rfl,hS3,hb3⟩
 have hc3:=(hb3.block w1.heap.size (by have:=SZ.out;omega)).trans G2.out
 obtain⟨u0,u1,u2,u3,uf,_⟩:=four_cells hc3
 obtain⟨W9,hW9,g9,gr9,gs9⟩:=put_four (a':=.slice ra.1 ra.2.1 ra.2.2) (b':=.slice rb.1 rb.2.1 rb.2.2) (c':=.slice rc.1 rc.2.1 rc.2.2) (d':=.slice rd.1 rd.2.1 rd.2.2) hc3
 obtain⟨y0,y1,y2,y3,_,_⟩:=four_cells g9
 have hfin:=Lib.hid (show Sto (New w.heap.size W9) W9 (.agg #[.slice ra.1 ra.2.1 ra.2.2,.slice rb.1 rb.2.1 rb.2.2,.slice rc.1 rc.2.1 rc.2.2,.slice rd.1 rd.2.1 rd.2.2]) mv from (hS3.grown gr9 (fun q e=>by cases e;have:=SZ.out;omega)).new (by have:=SZ.out;omega) (Below.refl _ _))
 have hB9:=Lib.hid ((B2.out.trans (hb3.mono B2.out.size)).grown gr9 (B2.out.trans (hb3.mono B2.out.size)).size (fun q e=>by cases e;have:=SZ.out;omega))
 replace g9:=Lib.hid g9
 clear hS3 hb3 hc3 gr9 gs9 k0 k1 k2 k3 HM
 go_wp2_with fail
 exact bodyPost_ret (v:=.tuple #[.agg #[.slice ra.1 ra.2.1 ra.2.2,.slice rb.1 rb.2.1 rb.2.2,.slice rc.1 rc.2.1 rc.2.2,.slice rd.1 rd.2.1 rd.2.2],.int .i64 mn,.int .i64 me]) (by simp[results,Tryz.results21,go_sem,y0,y1,y2,y3]) rfl ⟨ra,rb,rc,rd,rfl,hfin.out,hB9.out⟩
end Go.Proofs.YtogieepfimpdmaaGreat
/-
 The laws of layer 12: key,grown,alive. Conditions: those that each lemma states.
-/
namespace Go.Proofs.YtogieepfimpdmaaGreat
open Go.RowKit
set_option maxRecDepth 100000 in
theorem keyP_any (x:Int) (w:World):Calls Tryz.prog 11 #[.int .u32 x] w fun e w'=>e=.returned (.agg #[.int .u8 2,.int .u32 0,.int .u32 x])∧Below w.heap.size w w':=by
 obtain⟨w1,hw1,f1,f2,f3,hs1,hB1,_⟩:=box_three w (.int .u8 2) (.int .u32 0) (.int .u32 x) 37
 go_enter Tryz.func11,Tryz.ntmps11
 go_wp2_with fail
 exact bodyPost_ret (v:=.agg #[.int .u8 2,.int .u32 0,.int .u32 x]) (by simp[results,Tryz.results11,go_sem,f1,f2,f3]) rfl ⟨rfl,hB1⟩
theorem gS_all (n:Nat) (h:n≤5):insO (gS n).1 (gS n).2 (kx (n+1))=(0,(gS (n+1)).1,(gS (n+1)).2):=by
 rcases Nat.lt_or_ge n 5 with h5 | h5
 ·exact gS_ins n h5
 ·obtain rfl:n=5:=by omega
  obtain⟨T,e,_⟩:=six_made
  rw[gS_succ 5,e]
theorem put_lf {s:Rm} {a:Nat} {L:List It} {m:Nat} (h:Lf s a L m) {x:It} (hx:InI x) (hm:mayI x=true) (h0:x.2.1=0) {l:List Sv} (hl:ckE s (a:Int)=0→citE s x=0→WayL s x.1 (a:Int) l):putS s (a:Int) x l=insO s (a:Int) x:=by
 have hck:=h.tree.2.2.1
 have hci:citE s x=0:=by
  unfold citE
  rw[if_pos hm,if_neg (fun h=>h.1 h0)]
 refine(putS_is (P:=fun i=>if i=a then 1 else 0) hx hck hci (List.mem_singleton.2 rfl) (h.enf.same fun i => ?_) (hl hck hci)).1
 have hh:hold x i=0:=by unfold hold;rw[if_neg (fun h=>h.1 h0)]
 show (if i=a then 1 else 0)+hold x i=_
 rw[hh]
 rfl
theorem put_gS (n:Nat) (h:n≤5) (qa qb qc qd:Option Addr×Nat×Nat) (w:World) (hS:Sto (Old w) w (.agg #[.slice qa.1 qa.2.1 qa.2.2,.slice qb.1 qb.2.1 qb.2.2,.slice qc.1 qc.2.1 qc.2.2,.slice qd.1 qd.2.1 qd.2.2]) (gS n).1) :
  Calls Tryz.prog 10 #[.agg #[.slice qa.1 qa.2.1 qa.2.2,.slice qb.1 qb.2.1 qb.2.2,.slice qc.1 qc.2.1 qc.2.2,.slice qd.1 qd.2.1 qd.2.2],.int .i64 (gS n).2,.agg #[.int .u8 2,.int .u32 0,.int .u32 ((n+1:Nat):Int),.int .i64 0,.slice none 0 0]] w fun e w'=>∃ qa qb qc qd:Option Addr×Nat×Nat,
   e=.returned (.tuple #[.agg #[.slice qa.1 qa.2.1 qa.2.2,.slice qb.1 qb.2.1 qb.2.2,.slice qc.1 qc.2.1 qc.2.2,.slice qd.1 qd.2.1 qd.2.2],.int .i64 (gS (n+1)).2,.int .i64 0])∧Sto (New w.heap.size w') w' (.agg #[.slice qa.1 qa.2.1 qa.2.2,.slice qb.1 qb.2.1 qb.2.2,.slice qc.1 qc.2.1 qc.2.2,.slice qd.1 qd.2.1 qd.2.2]) (gS (n+1)).1∧Below w.heap.size w w':=by
 obtain⟨h1,h2⟩:=gS_lf n h
 obtain⟨hi,hz⟩:=Ls_in (n+1) (by omega) (kx (n+1)) (List.mem_append_right _ (List.mem_singleton.2 rfl))
 refine(putPut_any qa qb qc qd (gS n).1 (gS n).2 (kx (n+1)) none 0 w hS ⟨_,rfl,hi,rBy_part0 _ _ none⟩).mono ?_
 rintro e w' ⟨l,ra,rb,rc,rd,hl,rfl,hs,hb⟩
 have hm:mayI (kx (n+1))=true:=mayI_mk ⟨.inl rfl,by show (0:Nat)≤12;omega⟩
 have hp:putS (gS n).1 (gS n).2 (kx (n+1)) l=(0,(gS (n+1)).1,(gS (n+1)).2):=by
  rw[← gS_all n h]
  rw[h2] at hl ⊢
  exact put_lf h1 hi hm hz hl
 rw[hp] at hs ⊢
 exact⟨ra,rb,rc,rd,rfl,hs,hb⟩
def PhT (lo:Nat) (R:Int) (s:Rm) (v:Value) (W:World):Prop:=∃ pa pb pc pd:Option Addr×Nat×Nat,v=.tuple #[.agg #[.slice pa.1 pa.2.1 pa.2.2,.slice pb.1 pb.2.1 pb.2.2,.slice pc.1 pc.2.1 pc.2.2,.slice pd.1 pd.2.1 pd.2.2],.int .i64 R,.int .i64 0]∧Sto (New lo W) W (.agg #[.slice pa.1 pa.2.1 pa.2.2,.slice pb.1 pb.2.1 pb.2.2,.slice pc.1 pc.2.1 pc.2.2,.slice pd.1 pd.2.1 pd.2.2]) s
def PhA (lo:Nat) (s:Rm) (v:Value) (W:World):Prop:=∃ pa pb pc pd:Option Addr×Nat×Nat,v=.agg #[.slice pa.1 pa.2.1 pa.2.2,.slice pb.1 pb.2.1 pb.2.2,.slice pc.1 pc.2.1 pc.2.2,.slice pd.1 pd.2.1 pd.2.2]∧Sto (New lo W) W (.agg #[.slice pa.1 pa.2.1 pa.2.2,.slice pb.1 pb.2.1 pb.2.2,.slice pc.1 pc.2.1 pc.2.2,.slice pd.1 pd.2.1 pd.2.2]) s
theorem PhT.below {lo:Nat} {R:Int} {s:Rm} {v:Value} {W W':World} (h:PhT lo R s v W) (hb:Below W.heap.size W W'):PhT lo R s v W':=by
 obtain⟨pa,pb,pc,pd,e,h⟩:=h
 exact⟨pa,pb,pc,pd,e,h.new (Nat.le_refl _) hb⟩
theorem PhA.below {lo:Nat} {s:Rm} {v:Value} {W W':World} (h:PhA lo s v W) (hb:Below W.heap.size W W'):PhA lo s v W':=by
 obtain⟨pa,pb,pc,pd,e,h⟩:=h
 exact⟨pa,pb,pc,pd,e,h.new (Nat.le_refl _) hb⟩
def GrwR (s:Rm) (R:Int) (w:World) (e:Ending) (w':World):Prop:=∃ qa qb qc qd:Option Addr×Nat×Nat,
   e=.returned (.tuple #[.agg #[.slice qa.1 qa.2.1 qa.2.2,.slice qb.1 qb.2.1 qb.2.2,.slice qc.1 qc.2.1 qc.2.2,.slice qd.1 qd.2.1 qd.2.2],.int .i64 R,.bool true])∧Sto (Old w') w' (.agg #[.slice qa.1 qa.2.1 qa.2.2,.slice qb.1 qb.2.1 qb.2.2,.slice qc.1 qc.2.1 qc.2.2,.slice qd.1 qd.2.1 qd.2.2]) s∧Below w.heap.size w w'
set_option maxRecDepth 100000 in
set_option maxHeartbeats 8000000 in
theorem grown_any (many:Nat) (hmany:many≤6) (w:World):Calls Tryz.prog 9 #[.int .u32 (many:Int)] w (GrwR (gS many).1 (gS many).2 w):=by
 obtain⟨w1,hw1,b1,hs1,hB1⟩:=box_4 w (.slice none 0 0) (.slice none 0 0) (.slice none 0 0) (.slice none 0 0) 29
 obtain⟨e1,e2,hlf⟩:=lf_new
 have hr0:(gS 0).2=(8:Int):=by rw[(gS_lf 0 (by omega)).2];rfl
 have hv0:mkV newR zeroN=(gS 0).1:=by unfold gS;rfl
 have hPut:=Lib.hid put_gS
 have B1:=Lib.hid hB1
 have G1:=Lib.hid b1
 have SZ:=Lib.hid hs1
 have hNew:Hid (∀ v W,Sto (Old W) W v newR→∃ qa qb qc qd:Option Addr×Nat×Nat,v=.agg #[.slice qa.1 qa.2.1 qa.2.2,.slice qb.1 qb.2.1 qb.2.2,.slice qc.1 qc.2.1 qc.2.2,.slice qd.1 qd.2.1 qd.2.2]):=Lib.hid fun v W h=>by
  obtain⟨A,ca,B,cb,N,cn,L,cl,rfl,_⟩:=h.open
  exact⟨(A,_,ca),(B,_,cb),(N,_,cn),(L,_,cl),rfl⟩
 replace hs1:=Lib.hid hs1
 replace hr0:=Lib.hid hr0
 replace hv0:=Lib.hid hv0
 replace e1:=Lib.hid e1
 replace e2:=Lib.hid e2
 clear hlf hB1 b1
 go_enter Tryz.func9,Tryz.ntmps9
 go_upto_region 1 with fail
 clear hw1
 go_wp2_with fail
 with_reducible refine(newR_any _).mono ?_
 rintro e w2 ⟨t,rfl,ht,hb2⟩
 obtain⟨pa,pb,pc,pd,rfl⟩:=hNew.out t w2 ht.drop
 have hN2:=Lib.hid (putNew_any pa pb pc pd newR w2 ht.drop)
 have B2:=Lib.hid hb2
 clear ht hb2
 go_wp2_with fail
 with_reducible refine(hN2.out).mono ?_
 rintro e w3 ⟨ra,rb,rc,rd,rfl,hS3,hb3⟩
 rw[e1.out,e2.out]
 rw[hv0.out] at hS3
 obtain⟨w4,hw4,b4,hs4,hB4⟩:=box_4 w3 (.slice ra.1 ra.2.1 ra.2.2) (.slice rb.1 rb.2.1 rb.2.2) (.slice rc.1 rc.2.1 rc.2.2) (.slice rd.1 rd.2.1 rd.2.2) 29
 have B14:=Lib.hid (B2.out.trans ((hb3.trans (hB4.mono hb3.size)).mono B2.out.size))
 have S4:=Lib.hid ((hS3.new (lo':=w1.heap.size) B2.out.size (hB4.mono (Nat.le_refl _))))
 have G4:=Lib.hid b4
 have sz3:=Lib.hid (show w1.heap.size≤w3.heap.size from Nat.le_trans B2.out.size hb3.size)
 replace hs4:=Lib.hid hs4
 clear hS3 hb3 hB4 b4 hN2
 go_upto_region 2 with fail
 clear hw4
 go_wp2_with fail
 go_loopw [6,7,8] (fun rv ev nv wr=>∃ (n:Nat) (qa qb qc qd:Option Addr×Nat×Nat),n≤many∧rv=.int .i64 (gS n).2∧ev=.int .i64 0∧nv=.int .u32 ((n+1:Nat):Int)∧wr.heap[w3.heap.size]? = some (.cells #[.slice qa.1 qa.2.1 qa.2.2,.slice qb.1 qb.2.1 qb.2.2,.slice qc.1 qc.2.1 qc.2.2,.slice qd.1 qd.2.1 qd.2.2] 29 (0,0)) ∧
  Sto (New w1.heap.size wr) wr (.agg #[.slice qa.1 qa.2.1 qa.2.2,.slice qb.1 qb.2.1 qb.2.2,.slice qc.1 qc.2.1 qc.2.2,.slice qd.1 qd.2.1 qd.2.2]) (gS n).1∧Below w1.heap.size w1 wr) (fun _ _ nv _=>10-(intOf nv).toNat)
 case atStart=>exact⟨0,ra,rb,rc,rd,by omega,by rw[hr0.out],rfl,rfl,G4.out,S4.out,B14.out⟩
 case round =>
  obtain⟨n,qa,qb,qc,qd,hn,rfl,rfl,rfl,hbx,hS,hB⟩:=hrel
  obtain⟨k0,k1,k2,k3,kf,_⟩:=four_cells hbx
  have hn63:((n+1:Nat):Int)<4294967296:=by omega
  by_cases hlt:n<many
  case neg =>
   obtain rfl:n=many:=by omega
   have hle:¬ (((n+1:Nat):Int)≤(n:Int)):=by omega
   obtain⟨W9,hW9,g9,gr9,gs9⟩:=put_four (a':=.slice qa.1 qa.2.1 qa.2.2) (b':=.slice qb.1 qb.2.1 qb.2.2) (c':=.slice qc.1 qc.2.1 qc.2.2) (d':=.slice qd.1 qd.2.1 qd.2.2) ((hB.block w.heap.size (by have:=SZ.out;omega)).trans G1.out)
   obtain⟨y0,y1,y2,y3,_,_⟩:=four_cells g9
   obtain⟨u0,u1,u2,u3,uf,_⟩:=four_cells ((hB.block w.heap.size (by have:=SZ.out;omega)).trans G1.out)
   have hfin:=Lib.hid (show Sto (Old W9) W9 (.agg #[.slice qa.1 qa.2.1 qa.2.2,.slice qb.1 qb.2.1 qb.2.2,.slice qc.1 qc.2.1 qc.2.2,.slice qd.1 qd.2.1 qd.2.2]) (gS n).1 from (hS.grown gr9 (fun q e=>by cases e;have:=SZ.out;omega)).drop)
   have hB9:=Lib.hid ((B1.out.trans (hB.mono B1.out.size)).grown gr9 (B1.out.trans (hB.mono B1.out.size)).size (fun q e=>by cases e;omega))
   obtain⟨R,hR⟩:∃ q,(gS n).2=q:=⟨_,rfl⟩
   have hfin2:Hid (GrwR (gS n).1 (gS n).2 w (.returned (.tuple #[.agg #[.slice qa.1 qa.2.1 qa.2.2,.slice qb.1 qb.2.1 qb.2.2,.slice qc.1 qc.2.1 qc.2.2,.slice qd.1 qd.2.1 qd.2.2],.int .i64 R,.bool true])) W9):=Lib.hid ⟨qa,qb,qc,qd,by rw[hR],hfin.out,hB9.out⟩
   obtain⟨X,hX⟩:∃ q:Int,((n+1:Nat):Int)=q:=⟨_,rfl⟩
   rw[hX] at hle hn63
   rw[hR,hX]
   replace hR:=Lib.hid hR
   replace hX:=Lib.hid hX
   replace g9:=Lib.hid g9
   clear gr9 gs9 hS hB hbx
   go_wp2_with fail
   exact bodyPost_ret (v:=.tuple #[.agg #[.slice qa.1 qa.2.1 qa.2.2,.slice qb.1 qb.2.1 qb.2.2,.slice qc.1 qc.2.1 qc.2.2,.slice qd.1 qd.2.1 qd.2.2],.int .i64 R,.bool true]) (by simp[results,Tryz.results9,go_sem,y0,y1,y2,y3]) rfl hfin2.out
  have hle:((n+1:Nat):Int)≤(many:Int):=by omega
  have hPn:=Lib.hid (hPut.out n (by omega))
  obtain⟨R,hR⟩:∃ q,(gS n).2=q:=⟨_,rfl⟩
  obtain⟨R',hR'⟩:∃ q,(gS (n+1)).2=q:=⟨_,rfl⟩
  obtain⟨s0,hs0⟩:∃ q,(gS n).1=q:=⟨_,rfl⟩
  obtain⟨s1,hs1'⟩:∃ q,(gS (n+1)).1=q:=⟨_,rfl⟩
  obtain⟨X,hX⟩:∃ q:Int,((n+1:Nat):Int)=q:=⟨_,rfl⟩
  rw[hR,hR',hs0,hs1',hX] at hPn
  rw[hs0] at hS
  rw[hX] at hle hn63
  rw[hR,hX]
  replace hR:=Lib.hid hR
  replace hR':=Lib.hid hR'
  replace hs0:=Lib.hid hs0
  replace hs1':=Lib.hid hs1'
  have hX1:1≤X:=by omega
  replace hX:=Lib.hid hX
  have hS':=Lib.hid hS
  have hB':=Lib.hid hB
  have hbx':=Lib.hid hbx
  have KB:=Lib.hid (fun W (hW:Below wr.heap.size wr W)=>four_cells ((hW.block w3.heap.size (Array.getElem?_eq_some_iff.1 hbx'.out).1).trans hbx'.out))
  clear hS hB hbx k0 k1 k2 k3 kf hPut
  go_upto_region 5 with fail
  refine wp_region_late (ops' := ?opsLate) (by kernel_rfl) [(10,8),(10,9),(11,9)] ?he (by kernel_rfl) (fun d _ _ _ _ h=>by cases d <;> exact h) 10 (fun W=>Below wr.heap.size wr W) (fun i=>match i with
    | 5=>some (fun v W=>PhT wr.heap.size R' s1 v W)
    | 6=>some (fun v W=>PhT wr.heap.size R' s1 v W)
    | 7=>some (fun v W=>PhA wr.heap.size s1 v W)
    | _=>none) (fun i=>match i with
    | 3=>some (.agg #[.int .u8 2,.int .u32 0,.int .u32 X])
    | 8=>some (.int .i64 R')
    | 9=>some (.int .i64 0)
    | _=>none) ?h1 ?h2 ?h3 (Below.refl _ _).drew (fun w w' h hb=>h.trans (hb.mono h.size)) ?tst ?_
  case he =>
   simp[withEdges]
   rfl
  case h1=>decide
  case h2=>kernel_rfl
  case h3=>kernel_rfl
  case tst =>
   intro j φ x W W' hp hx hb
   match j,hp with
   | 5,hp=>cases hp;exact hx.below hb
   | 6,hp=>cases hp;exact hx.below hb
   | 7,hp=>cases hp;exact hx.below hb
  simp only[List.take_succ_cons,List.take_zero,List.drop_succ_cons,List.drop_zero]
  repeat (first
   | (refine wpAs_skip rfl ?_;simp only[Act.put,List.setIfInBounds_toArray,List.set_cons_zero,List.set_cons_succ])
   | (refine wpAs_pure (v := ?_) rfl rfl ?_ ?_;rotate_left;(intro W hC hE;clear hE;(obtain⟨k0,k1,k2,k3,_⟩:=KB.out W hC);clear hC;go_simp;done);simp only[Act.put,List.setIfInBounds_toArray,List.set_cons_zero,List.set_cons_succ])
   | (refine wpAs_pure (v := ?_) rfl rfl ?_ ?_;rotate_left;(intro W hC hE;clear hE;(obtain⟨k0,k1,k2,k3,_⟩:=KB.out W hC);clear hC;go_simp;with_reducible rfl);simp only[Act.put,List.setIfInBounds_toArray,List.set_cons_zero,List.set_cons_succ]))
  refine wpAs_fixed rfl rfl rfl ?_ ?_
  ·intro W hC hE
   refine does_enter (f:=11) (args:=#[.int .u32 X]) ?_ ?_
   ·go_simp
   ·refine(keyP_any X W).mono ?_
    (rintro e W' ⟨rfl,hg⟩)
    exact⟨_,rfl,rfl,hg⟩
  simp only[Act.put,List.setIfInBounds_toArray,List.set_cons_zero,List.set_cons_succ]
  repeat (first
   | (refine wpAs_skip rfl ?_;simp only[Act.put,List.setIfInBounds_toArray,List.set_cons_zero,List.set_cons_succ])
   | (refine wpAs_pure (v := ?_) rfl rfl ?_ ?_;rotate_left;(intro W hC hE;clear hE;skip;clear hC;go_simp;done);simp only[Act.put,List.setIfInBounds_toArray,List.set_cons_zero,List.set_cons_succ])
   | (refine wpAs_pure (v := ?_) rfl rfl ?_ ?_;rotate_left;(intro W hC hE;clear hE;skip;clear hC;go_simp;with_reducible rfl);simp only[Act.put,List.setIfInBounds_toArray,List.set_cons_zero,List.set_cons_succ]))
  refine wpAs_act rfl rfl ?_ ?_
  ·intro W hC hE
   clear hE
   refine does_enter (f:=10) (args:=#[.agg #[.slice qa.1 qa.2.1 qa.2.2,.slice qb.1 qb.2.1 qb.2.2,.slice qc.1 qc.2.1 qc.2.2,.slice qd.1 qd.2.1 qd.2.2],.int .i64 R,.agg #[.int .u8 2,.int .u32 0,.int .u32 X,.int .i64 0,.slice none 0 0]]) ?_ ?_
   ·go_simp
   ·refine(hPn.out qa qb qc qd W (hS'.out.drop.below hC)).mono ?_
    rintro e W' ⟨pa,pb,pc,pd,rfl,hz,hb⟩
    exact⟨_,rfl,⟨pa,pb,pc,pd,rfl,hz.new hC.size (Below.refl _ _)⟩,hb⟩
  simp only[Act.put,List.setIfInBounds_toArray,List.set_cons_zero,List.set_cons_succ,envAdd]
  intro x5
  refine wpAs_act rfl rfl ?_ ?_
  ·intro W hC hE
   have h7:=hE.1 rfl
   clear hE hC
   go_simp
   exact⟨h7,Below.refl _ _⟩
  simp only[Act.put,List.setIfInBounds_toArray,List.set_cons_zero,List.set_cons_succ,envAdd]
  intro x6
  refine wpAs_act rfl rfl ?_ ?_
  ·intro W hC hE
   obtain⟨pa,pb,pc,pd,rfl,hz⟩:=hE.1 rfl
   have hz':=Lib.hid hz
   clear hE hz hC
   go_simp
   exact⟨⟨pa,pb,pc,pd,rfl,hz'.out⟩,Below.refl _ _⟩
  simp only[Act.put,List.setIfInBounds_toArray,List.set_cons_zero,List.set_cons_succ,envAdd]
  intro x7
  refine wpAs_fixed rfl rfl rfl ?_ ?_
  ·intro W hC hE
   obtain⟨pa,pb,pc,pd,rfl,hz⟩:=hE.2.1 rfl
   clear hE hz hC
   go_simp
   exact⟨rfl,Below.refl _ _⟩
  simp only[Act.put,List.setIfInBounds_toArray,List.set_cons_zero,List.set_cons_succ]
  refine wpAs_fixed rfl rfl rfl ?_ ?_
  ·intro W hC hE
   obtain⟨pa,pb,pc,pd,rfl,hz⟩:=hE.2.1 rfl
   clear hE hz hC
   go_simp
   exact⟨rfl,Below.refl _ _⟩
  simp only[Act.put,List.setIfInBounds_toArray,List.set_cons_zero,List.set_cons_succ]
  refine wpAs_end fun W hC hE => ?_
  obtain⟨h7,_⟩:=hE
  obtain⟨pa,pb,pc,pd,rfl,hz⟩:=h7
  obtain⟨u0,u1,u2,u3,uf,_⟩:=KB.out W hC
  obtain⟨W9,hW9,g9,gr9,gs9⟩:=put_four (a':=.slice pa.1 pa.2.1 pa.2.2) (b':=.slice pb.1 pb.2.1 pb.2.2) (c':=.slice pc.1 pc.2.1 pc.2.2) (d':=.slice pd.1 pd.2.1 pd.2.2) ((hC.block w3.heap.size (Array.getElem?_eq_some_iff.1 hbx'.out).1).trans hbx'.out)
  have S9:=Lib.hid ((hz.grown gr9 (fun q e=>by cases e;exact(Array.getElem?_eq_some_iff.1 hbx'.out).1)).new (lo':=w1.heap.size) hB'.out.size (Below.refl _ _))
  have BW:=Lib.hid ((hB'.out.trans (hC.mono hB'.out.size)).grown gr9 (hB'.out.trans (hC.mono hB'.out.size)).size (fun q e=>by cases e;exact sz3.out))
  have g9':=Lib.hid g9
  clear hC hz gr9 gs9 g9
  go_wp2_with fail
  go_roundw
  case rel=>exact⟨n+1,pa,pb,pc,pd,by omega,by rw[hR'.out],rfl,by have:=hX.out;go_num,g9'.out,by rw[hs1'.out];exact S9.out,BW.out⟩
  case measure=>have:=hX.out;simp[intOf];omega
theorem gS_six:(gS 6).2=11∧mayR (gS 6).1=true∧rmE (gS 6).1 11=0∧rmV (gS 6).1 11=(1,upS)∧rmE (gS 6).1 8=0∧rmV (gS 6).1 8=(0,(Ls 6).take 3)∧ckE (gS 6).1 11=0∧ckH (gS 6).1 11=2:=by
 obtain⟨T,e,h1,h2,h3,h4,h5,h6,h7⟩:=six_made
 have eg:gS 6=(T,11):=by rw[gS_succ 5,e]
 rw[eg]
 exact⟨rfl,h1,h2,h3,h4,h5,six_tree h2 h3 h4 h5 h6 h7⟩
theorem grown_six (w:World):Calls Tryz.prog 9 #[.int .u32 6] w (GrwR (gS 6).1 11 w):=by
 have:=grown_any 6 (Nat.le_refl _) w
 rw[gS_six.1] at this
 exact this
set_option maxRecDepth 100000 in
set_option maxHeartbeats 8000000 in
theorem alive12 (w:World):Calls Tryz.prog 8 #[] w fun e w'=>e=.returned (.bool true)∧Below w.heap.size w w':=by
 obtain⟨-,-,-,-,-,-,hE,hH⟩:=gS_six
 have hG:=Lib.hid (fun W=>grown_six W)
 obtain⟨T,hT⟩:∃ T,(gS 6).1=T:=⟨_,rfl⟩
 rw[hT] at hE hH hG
 replace hT:=Lib.hid hT
 have hCk:Hid (∀ v W,Sto (Old W) W v T→Calls Tryz.prog 14 #[v,.int .i64 11] W fun e w'=>e=.returned (.tuple #[.int .i64 2,.int .i64 0])∧Below W.heap.size W w'):=Lib.hid fun v W hW=>by
  have:=findCheck_any v T 11 W hW
  rw[hE,hH] at this
  exact this
 clear hE hH
 go_enter Tryz.func8,Tryz.ntmps8
 go_upto_region 1 with fail
 go_wp2_with fail
 with_reducible refine(hG.out _).mono ?_
 rintro e w1 ⟨qa,qb,qc,qd,rfl,h1,hb1⟩
 obtain⟨w2,hw2,b2,hs2,hB2⟩:=box_4 w1 (.slice qa.1 qa.2.1 qa.2.2) (.slice qb.1 qb.2.1 qb.2.2) (.slice qc.1 qc.2.1 qc.2.2) (.slice qd.1 qd.2.1 qd.2.2) 29
 obtain⟨k0,k1,k2,k3,_⟩:=four_cells b2
 have S2:=Lib.hid (h1.below hB2)
 have B2:=Lib.hid (hb1.trans (hB2.mono hb1.size))
 replace hs2:=Lib.hid hs2
 clear h1 hb1 hB2 hG b2
 go_upto_region 2 with fail
 clear hw2
 go_wp2_with fail
 with_reducible refine(hCk.out _ _ S2.out).mono ?_
 rintro e w3 ⟨rfl,hb3⟩
 have B3:=Lib.hid (B2.out.trans (hb3.mono B2.out.size))
 clear hb3 k0 k1 k2 k3
 go_wp2_with fail
 go_ret
 exact⟨rfl,B3.out⟩
end Go.Proofs.YtogieepfimpdmaaGreat
/-
 The laws of layer 12: all,same. Conditions: those that each lemma states.
-/
namespace Go.Proofs.YtogieepfimpdmaaGreat
open Go.RowKit
def keyM:Ky:=(255,4294967295,4294967295)
theorem betw_all {x:It} (h:InI x):betw keyZ keyM x=true:=by
 obtain⟨⟨⟨i0,i1⟩,o0,o1⟩,_⟩:=h
 obtain⟨⟨k,i,o⟩,r,v⟩:=x
 dsimp only at i0 i1 o0 o1
 have hk:=k.toNat_lt
 rw[betw_iff]
 unfold lessK keyZ keyM
 dsimp only
 constructor
 ·split
  ·exact decide_eq_false (by have:(0:UInt8).toNat=0:=rfl;omega)
  ·split
   ·exact decide_eq_false (by omega)
   ·exact decide_eq_false (by omega)
 ·split
  ·exact decide_eq_false (by have:(255:UInt8).toNat=255:=rfl;omega)
  ·split
   ·exact decide_eq_false (by omega)
   ·exact decide_eq_false (by omega)
theorem its_inI {s:Rm}:∀ (l:Nat) (a:Int),AtT s l a→∀ x∈itsT s l a,InI x
 | 0,a,h,x,hx=>(rm_in h.ok).it x hx
 | l+1,a,h,x,hx=>by
  obtain⟨y,hy,hx⟩:=List.mem_flatMap.1 hx
  exact its_inI l _ (h.down hy) x hx
theorem raV_all {s:Rm} {a:Int} (h:ckE s a=0):raV s a keyZ keyM=allO s a:=by
 rw[raV_ok h]
 unfold rangeO
 exact List.filter_eq_self.2 fun x hx=>betw_all (its_inI _ _ (tree_at (ck_of h).1) x hx)
set_option maxRecDepth 100000 in
set_option maxHeartbeats 4000000 in
theorem allP_any (qa qb qc qd:Option Addr×Nat×Nat) (s:Rm) (a:Int) (w:World) (h:Sto (Old w) w (.agg #[.slice qa.1 qa.2.1 qa.2.2,.slice qb.1 qb.2.1 qb.2.2,.slice qc.1 qc.2.1 qc.2.2,.slice qd.1 qd.2.1 qd.2.2]) s) :
  Calls Tryz.prog 18 #[.agg #[.slice qa.1 qa.2.1 qa.2.2,.slice qb.1 qb.2.1 qb.2.2,.slice qc.1 qc.2.1 qc.2.2,.slice qd.1 qd.2.1 qd.2.2],.int .i64 a] w fun e w'=>∃ u c,e=.returned (.slice u (raV s a keyZ keyM).length c)∧rIts (New w.heap.size w') w' [.slice u (raV s a keyZ keyM).length c] (raV s a keyZ keyM)∧Below w.heap.size w w':=by
 obtain⟨w1,hw1,b1,hs1,hB1⟩:=box_4 w (.slice qa.1 qa.2.1 qa.2.2) (.slice qb.1 qb.2.1 qb.2.2) (.slice qc.1 qc.2.1 qc.2.2) (.slice qd.1 qd.2.1 qd.2.2) 29
 have HR:Hid (Calls Tryz.prog 36 #[.agg #[.slice qa.1 qa.2.1 qa.2.2,.slice qb.1 qb.2.1 qb.2.2,.slice qc.1 qc.2.1 qc.2.2,.slice qd.1 qd.2.1 qd.2.2],.int .i64 a,.agg #[.int .u8 0,.int .u32 0,.int .u32 0],.agg #[.int .u8 255,.int .u32 4294967295,.int .u32 4294967295]] w1 (RangeR s a keyZ keyM w1)):=Lib.hid (walkRange_any _ s a keyZ keyM w1 (h.below hB1))
 obtain⟨k0,k1,k2,k3,_⟩:=four_cells b1
 have B1:=Lib.hid hB1
 replace hs1:=Lib.hid hs1
 clear h hB1 b1
 obtain⟨M,hM⟩:∃ q,raV s a keyZ keyM=q:=⟨_,rfl⟩
 unfold RangeR at HR
 rw[hM] at HR ⊢
 go_enter Tryz.func18,Tryz.ntmps18
 go_upto_region 1 with fail
 clear hw1
 go_wp2_with fail
 with_reducible refine(HR.out).mono ?_
 rintro e w2 ⟨u,c,rfl,hr,hb2⟩
 have R2:=Lib.hid (stab_its.new (lo':=w.heap.size) hr B1.out.size (Below.refl _ _))
 have B2:=Lib.hid (B1.out.trans (hb2.mono B1.out.size))
 obtain⟨n,hn⟩:∃ q,M.length=q:=⟨_,rfl⟩
 rw[hn] at R2 ⊢
 clear hr hb2 HR k0 k1 k2 k3
 replace hn:=Lib.hid hn
 go_wp2_with fail
 exact bodyPost_ret (v:=.slice u n c) (by simp[results,Tryz.results18,go_sem]) rfl ⟨u,c,by rw[hn.out],by rw[hn.out];exact R2.out,B2.out⟩
set_option maxRecDepth 100000 in
set_option maxHeartbeats 8000000 in
theorem sameP_any (A:Option Addr) (n ca:Nat) (B:Option Addr) (m cb:Nat) (xs ys:List It) (hn:xs.length=n) (hm:ys.length=m) (hn1:n<1000000) (hm1:m<1000000) (w:World) (hx:rIts (Old w) w [.slice A n ca] xs) (hy:rIts (Old w) w [.slice B m cb] ys) :
  Calls Tryz.prog 20 #[.slice A n ca,.slice B m cb] w fun e w'=>e=.returned (.bool (decide (xs=ys)))∧Below w.heap.size w w':=by
 have HX:=Lib.hid (fun k (x:It) (hk:xs[k]? = some x)=>its_old hx hk)
 have HY:=Lib.hid (fun k (x:It) (hk:ys[k]? = some x)=>its_old hy hk)
 obtain⟨res,hres⟩:∃ r,decide (xs=ys)=r:=⟨_,rfl⟩
 rw[hres]
 have hR:=Lib.hid hres
 have hN:=Lib.hid hn
 have hM:=Lib.hid hm
 clear hx hy hres hn hm
 go_enter Tryz.func20,Tryz.ntmps20
 go_upto_region 1 with fail
 go_wp2_with fail
 go_loopw [5] (fun iv wr=>∃ (j:Nat),j≤n∧j≤m∧iv=.int .i64 (j:Int)∧xs.take j=ys.take j∧Below w.heap.size w wr) (fun iv _=>n-(intOf iv).toNat)
 case atStart=>exact⟨0,by omega,by omega,rfl,rfl,Below.refl _ _⟩
 case round =>
  obtain⟨j,hj1,hj2,rfl,htk,hB⟩:=hrel
  have ht:=Lib.hid htk
  have BR:=Lib.hid hB
  clear htk hB
  by_cases hjn:j<n
  case neg =>
   obtain rfl:j=n:=by omega
   have hc0:¬ ((j:Int)<(j:Int)):=by omega
   have hfin:Hid (res=decide (j=m)):=Lib.hid (by
    have h1:=ht.out
    rw[List.take_of_length_le (by have:=hN.out;omega)] at h1
    rw[← hR.out,Bool.eq_iff_iff]
    simp only[decide_eq_true_eq]
    exact⟨fun h=>by rw[h,hM.out] at hN;exact hN.out.symm,fun h=>by rw[h1,List.take_of_length_le (by have:=hM.out;omega)]⟩)
   by_cases hjm:j=m
   ·subst hjm
    obtain rfl:res=true:=by rw[hfin.out];simp
    go_wp2_with fail
    go_ret
    exact⟨rfl,BR.out⟩
   ·have hne:((j:Int)==(m:Int))=false:=by simp;omega
    obtain rfl:res=false:=by rw[hfin.out];simp[hjm]
    go_wp2_with fail
    go_ret
    exact⟨rfl,BR.out⟩
  have i1:(j:Int)<(n:Int):=by omega
  by_cases hjm:j<m
  case neg =>
   obtain rfl:j=m:=by omega
   have i2:¬ ((j:Int)<(j:Int)):=by omega
   obtain rfl:res=false:=by
    rw[← hR.out]
    exact decide_eq_false fun h=>by have h1:=hN.out;have h2:=hM.out;rw[h] at h1;omega
   have hne:((n:Int)==(j:Int))=false:=by simp;omega
   go_wp2_with fail
   go_ret
   exact⟨rfl,BR.out⟩
  have i2:(j:Int)<(m:Int):=by omega
  obtain⟨x,hxj⟩:∃ x,xs[j]? = some x:=⟨_,List.getElem?_eq_getElem (by rw[hN.out];exact hjn)⟩
  obtain⟨y,hyj⟩:∃ y,ys[j]? = some y:=⟨_,List.getElem?_eq_getElem (by rw[hM.out];exact hjm)⟩
  obtain⟨ad,E,ce,rfl,_,_,_,hFx⟩:=HX.out j x hxj
  obtain⟨bd,F,cf,rfl,_,_,_,hFy⟩:=HY.out j y hyj
  have FX:=Lib.hid (fun W (hW:Below wr.heap.size wr W)=>hFx W (BR.out.trans (hW.mono BR.out.size)))
  have FY:=Lib.hid (fun W (hW:Below wr.heap.size wr W)=>hFy W (BR.out.trans (hW.mono BR.out.size)))
  have hSm:=Lib.hid (fun W (hW:Below wr.heap.size wr W)=>sameI_any _ _ x y W (FX.out W hW).2 (FY.out W hW).2)
  obtain⟨sm,hsm⟩:∃ r,sameI x y=r:=⟨_,rfl⟩
  rw[hsm] at hSm
  have hsm':=Lib.hid hsm
  have hxj':=Lib.hid hxj
  have hyj':=Lib.hid hyj
  clear hFx hFy hsm hxj hyj
  unfold itV at hSm
  go_upto_region 4 with fail
  refine wp_region_fx (by kernel_rfl) (fun W=>Below wr.heap.size wr W) (fun _=>none) (fun i=>match i with
    | 8=>some (.bool sm)
    | _=>none) (by kernel_rfl) (Below.refl _ _).drew (fun w w' h hb=>h.trans (hb.mono h.size)) (fun j φ x W W' hp=>by cases hp) ?_
  repeat (first
   | (refine wpAs_skip rfl ?_;simp only[Act.put,List.setIfInBounds_toArray,List.set_cons_zero,List.set_cons_succ])
   | (refine wpAs_pure (v := ?_) rfl rfl ?_ ?_;rotate_left;(intro W hC hE;clear hE;(obtain⟨z0,z1,z2,z3,z4⟩:=(FX.out W hC).1;obtain⟨y0,y1,y2,y3,y4⟩:=(FY.out W hC).1);clear hC;go_simp;done);simp only[Act.put,List.setIfInBounds_toArray,List.set_cons_zero,List.set_cons_succ])
   | (refine wpAs_pure (v := ?_) rfl rfl ?_ ?_;rotate_left;(intro W hC hE;clear hE;(obtain⟨z0,z1,z2,z3,z4⟩:=(FX.out W hC).1;obtain⟨y0,y1,y2,y3,y4⟩:=(FY.out W hC).1);clear hC;go_simp;with_reducible rfl);simp only[Act.put,List.setIfInBounds_toArray,List.set_cons_zero,List.set_cons_succ]))
  refine wpAs_fixed rfl rfl rfl ?_ ?_
  ·intro W hC hE
   refine does_enter (f:=22) (args:=#[.agg #[.int .u8 (x.1.1.toNat:Int),.int .u32 x.1.2.1,.int .u32 x.1.2.2,.int .i64 x.2.1,.slice E x.2.2.length ce],.agg #[.int .u8 (y.1.1.toNat:Int),.int .u32 y.1.2.1,.int .u32 y.1.2.2,.int .i64 y.2.1,.slice F y.2.2.length cf]]) ?_ ?_
   ·go_simp
   ·refine(hSm.out W hC).mono ?_
    (rintro e W' ⟨rfl,hg⟩)
    exact⟨_,rfl,rfl,hg⟩
  simp only[Act.put,List.setIfInBounds_toArray,List.set_cons_zero,List.set_cons_succ]
  repeat (first
   | (refine wpAs_skip rfl ?_;simp only[Act.put,List.setIfInBounds_toArray,List.set_cons_zero,List.set_cons_succ])
   | (refine wpAs_pure (v := ?_) rfl rfl ?_ ?_;rotate_left;(intro W hC hE;clear hE;skip;clear hC;go_simp;done);simp only[Act.put,List.setIfInBounds_toArray,List.set_cons_zero,List.set_cons_succ])
   | (refine wpAs_pure (v := ?_) rfl rfl ?_ ?_;rotate_left;(intro W hC hE;clear hE;skip;clear hC;go_simp;with_reducible rfl);simp only[Act.put,List.setIfInBounds_toArray,List.set_cons_zero,List.set_cons_succ]))
  refine wpAs_end fun W hC hE => ?_
  have BW:=Lib.hid (BR.out.trans (hC.mono BR.out.size))
  clear hE hC
  cases sm with
  | false =>
   obtain rfl:res=false:=by
    rw[← hR.out]
    refine decide_eq_false fun h => ?_
    have h1:=hxj'.out
    rw[h,hyj'.out] at h1
    cases h1
    have:=hsm'.out
    rw[sameI_self] at this
    cases this
   go_wp2_with fail
   go_ret
   exact⟨rfl,BW.out⟩
  | true =>
   have htk:Hid (xs.take (j+1)=ys.take (j+1)):=Lib.hid (by
    have e:=sameI_eq hsm'.out
    subst e
    have h1:=ht.out
    rw[List.take_add_one,List.take_add_one,hxj'.out,hyj'.out,h1])
   go_wp2_with fail
   go_roundw
   case rel=>exact⟨j+1,by omega,by omega,by go_num,htk.out,BW.out⟩
   case measure=>simp[intOf];omega
end Go.Proofs.YtogieepfimpdmaaGreat
/-
 Blocks counted often enough,by the nodes of some trees,each once;what follows of an item put in. Conditions: those that each lemma states.
-/
namespace Go.Proofs.YtogieepfimpdmaaGreat
open Go.RowKit
theorem sumD_sub {d:Dk} {k:Nat}:∀ {V M:List Int},V.Nodup→M.Nodup→(∀ n∈V,n∈M)→sumD d V k≤sumD d M k
 | [],_,_,_,_=>Nat.zero_le _
 | n::r,M,hV,hM,h=>by
  obtain⟨h1,h2⟩:=List.nodup_cons.1 hV
  rw[sumD_but hM (h n List.mem_cons_self)]
  have:=sumD_sub (d:=d) (k:=k) (V:=r) (M:=M.filter fun m=>decide (m≠n)) h2 (hM.filter _) fun m hm=>List.mem_filter.2 ⟨h m (List.mem_cons_of_mem _ hm),by
   have:m≠n:=fun e=>h1 (e ▸ hm)
   simpa using this⟩
  show cntR (ndD d n).2 k+sumD d r k≤_
  omega
theorem cntR_out {l:List It} {k:Nat} (hr:refsOk l) (hk:k<8∨256≤k):cntR l k=0:=by
 induction l with
 | nil=>rfl
 | cons x r ih =>
  obtain⟨h1,h2⟩:=refs_cons hr
  unfold cntR
  rw[ih h2]
  by_cases e:x.2.1=(k:Int)
  ·rw[if_pos e,if_pos (by omega)]
  ·rw[if_neg e]
theorem sumD_out {d:Dk} {k:Nat} (hk:k<8∨256≤k):∀ {V:List Int},(∀ n∈V,refsOk (ndD d n).2)→sumD d V k=0
 | [],_=>rfl
 | n::r,h=>by
  unfold sumD
  rw[cntR_out (h n List.mem_cons_self) hk,sumD_out hk fun m hm=>h m (List.mem_cons_of_mem _ hm)]
theorem nodes_at {s:Rm}:∀ (l:Nat) (a:Int),AtT s l a→∀ n∈nodesT s l a,∃ j,AtT s j n
 | 0,a,h,n,hn=>by
  simp only[nodesT,List.mem_singleton] at hn
  exact⟨0,hn ▸ h⟩
 | l+1,a,h,n,hn=>by
  simp only[nodesT,List.mem_cons,List.mem_flatMap] at hn
  rcases hn with rfl | ⟨x,hx,hn⟩
  ·exact⟨_,h⟩
  ·exact nodes_at l x.2.1 (h.down hx) n hn
theorem enough_enf {s:Rm} {P:Nat→Nat} {V roots:List Int} (h1:V.Nodup) (h2:∀ n,n∈V↔∃ r∈roots,n∈nodesO s r) (ht:∀ r∈roots,treeO s r=true) (hP:∀ k,k<8∨256≤k→P k=0) (h:∀ k,8≤k→k<256→P k+sumD s.1 V k≤cnt8 s.2.1 k):Enf s.1 s.2.1 P V:=by
 have hn:∀ n∈V,∃ r∈roots,n∈nodesO s r∧rmE s n=0∧ndD s.1 n=rmV s n:=fun n hn=>by
  obtain⟨r,hr,hnr⟩:=(h2 n).1 hn
  have he:=(tree_blk (ht r hr)).node n hnr
  exact⟨r,hr,hnr,he,ndD_rm he⟩
 have hrf:∀ n∈V,refsOk (ndD s.1 n).2:=fun n hv=>by
  obtain⟨_,_,_,he,e⟩:=hn n hv
  rw[e]
  exact refs_may (rm_may he).1
 refine⟨h1,fun n hv => ?_,fun n hv h0 x hx => ?_,hrf,fun k => ?_⟩
 ·obtain⟨_,_,_,he,_⟩:=hn n hv
  obtain⟨p1,p2,p3⟩:=node_place he
  obtain⟨k,rfl,_,_,_,_,_,hE,_,_⟩:=as_read (rm_may he).2
  exact⟨by omega,p2,by rw[show ((k:Int)).toNat=k by omega,← hE];exact he,cnt_nz.2 p3⟩
 ·obtain⟨r,hr,hnr,he,e⟩:=hn n hv
  rw[e] at h0 hx ⊢
  have hx1:=((tree_blk (ht r hr)).sub n hnr x hx).1 h0
  have hxV:=(h2 x.2.1).2 ⟨r,hr,hx1⟩
  obtain⟨_,_,_,he',e'⟩:=hn _ hxV
  obtain⟨j,hj⟩:=nodes_at _ _ (tree_at (ht r hr)) n hnr
  refine⟨hxV,by have:=(node_place he').1;omega,?_⟩
  rw[e']
  have hl:=hj.lvl
  cases j with
  | zero=>exact absurd hl h0
  | succ i =>
   have:=(hj.down hx).lvl
   omega
 ·rcases Nat.lt_or_ge k 8 with h8 | h8
  ·rw[hP k (.inl h8),sumD_out (.inl h8) hrf]
   omega
  ·rcases Nat.lt_or_ge k 256 with h9 | h9
   ·exact h k h8 h9
   ·rw[hP k (.inr h9),sumD_out (.inr h9) hrf]
    omega
theorem enf_enough {u:Rm} {P:Nat→Nat} {V M roots:List Int} (hE:Enf u.1 u.2.1 P M) (h1:V.Nodup) (h2:∀ n∈V,∃ r∈roots,n∈nodesO u r) (ht:∀ r∈roots,treeO u r=true∧r∈M) (k:Nat):P k+sumD u.1 V k≤cnt8 u.2.1 k:=by
 have:=hE.enough k
 have:=sumD_sub (d:=u.1) (k:=k) h1 hE.once fun n hn=>by
  obtain⟨r,hr,hnr⟩:=h2 n hn
  exact(enf_tree hE (ht r hr).1 (ht r hr).2).1 n hnr
 omega
end Go.Proofs.YtogieepfimpdmaaGreat
/-
 Sets of blocks as 256 flags in a block of the world's own;what the blocks of a tree say,as two rising rows. Conditions: those that each lemma states.
-/
namespace Go.Proofs.YtogieepfimpdmaaGreat
open Go.RowKit
def inB (l:List Int) (k:Nat):Bool:=decide ((k:Int)∈l)
def Bits (b:Nat) (l:List Int):World→Prop:=fun W=>∃ vs:Array Value,W.heap[b]? = some (.cells vs 80 (0,0))∧∀ k,k<256→vs[k]? = some (.bool (inB l k))
theorem lasts_bits (b:Nat) (l:List Int):Lasts (Bits b l):=fun _ _ h hb=>by
 obtain⟨vs,h1,h2⟩:=h
 exact⟨vs,(hb.block b (Array.getElem?_eq_some_iff.1 h1).1).trans h1,h2⟩
theorem bits_lt {b:Nat} {l:List Int} {W:World} (h:Bits b l W):b<W.heap.size:=by
 obtain⟨vs,h1,_⟩:=h
 exact(Array.getElem?_eq_some_iff.1 h1).1
theorem bits_cell {b:Nat} {l:List Int} {W:World} (h:Bits b l W) {k:Nat} (hk:k<256):W.cell? ⟨b,k,none⟩=some (.bool (inB l k)):=by
 obtain⟨vs,h1,h2⟩:=h
 simp[World.cell?,h1,h2 k hk]
theorem bits_frz {b:Nat} {l:List Int} {W:World} (h:Bits b l W) (k:Nat):W.frozen? ⟨b,k,none⟩=false:=by
 obtain⟨vs,h1,_⟩:=h
 simp[World.frozen?,h1]
theorem bits_put {b:Nat} {l:List Int} {W:World} (h:Bits b l W) (k:Nat):Bits b (l++[(k:Int)]) (W.setCell ⟨b,k,none⟩ (.bool true)):=by
 obtain⟨vs,h1,h2⟩:=h
 refine⟨vs.setIfInBounds k (.bool true),by simp[World.setCell,Array.getElem?_modify,h1],fun j hj => ?_⟩
 rw[Array.getElem?_setIfInBounds]
 have hs:j<vs.size:=(Array.getElem?_eq_some_iff.1 (h2 j hj)).1
 by_cases e:k=j
 ·subst e
  simp[inB,hs]
 ·have hi:inB (l++[(k:Int)]) j=inB l j:=decide_eq_decide.2 (by
   rw[List.mem_append,List.mem_singleton]
   exact⟨fun h=>h.resolve_right (by omega),Or.inl⟩)
  rw[if_neg e,h2 j hj,hi]
theorem bits_other {b:Nat} {l:List Int} {W:World} (h:Bits b l W) {c:Nat} (hne:c≠b) (k:Nat) (v:Value):Bits b l (W.setCell ⟨c,k,none⟩ v):=by
 obtain⟨vs,h1,h2⟩:=h
 exact⟨vs,by simp[World.setCell,Array.getElem?_modify,h1,hne],h2⟩
theorem bits_none:Tryz.zeroCells80=Array.replicate 256 (.bool false):=by kernel_rfl
theorem sl_at {w:World} {U:Option Addr} {n c:Nat} {l:List Int} (h:rSl 1 (rK .i64) (Old w) w [.slice U n c] l) {k:Nat} {x:Int} (hx:l[k]? = some x) :
  ∃ ad,U=some ad∧∀ W,Below w.heap.size w W→W.cell? (ad.add k)=some (.int .i64 x):=by
 obtain⟨A,cap,e,_,_,h2⟩:=h
 simp only[List.cons.injEq,Value.slice.injEq,and_true] at e
 obtain⟨rfl,_,_⟩:=e
 obtain⟨ad,vs,rfl,_,e3,e4⟩:=h2 k x hx
 obtain⟨rfl,_,_⟩:=e4
 have:=e3 0 _ rfl
 simp only[Nat.mul_one,Nat.add_zero] at this
 exact⟨ad,rfl,fun W hW=>(hW.cell (p:=ad.add k) this.1).trans this.2⟩
end Go.Proofs.YtogieepfimpdmaaGreat
/-
 The law's counts of what refers to a block: an array of 256 numbers;what is counted,plain. Conditions: those that each lemma states.
-/
namespace Go.Proofs.YtogieepfimpdmaaGreat
open Go.RowKit
def Cnt (g:Nat) (f:Nat→Int):World→Prop:=fun W=>∃ vs:Array Value,W.heap[g]? = some (.cells vs 81 (0,0))∧∀ k,k<256→vs[k]? = some (.int .i64 (f k))
theorem lasts_cnt (g:Nat) (f:Nat→Int):Lasts (Cnt g f):=fun _ _ h hb=>by
 obtain⟨vs,h1,h2⟩:=h
 exact⟨vs,(hb.block g (Array.getElem?_eq_some_iff.1 h1).1).trans h1,h2⟩
theorem cnt_lt {g:Nat} {f:Nat→Int} {W:World} (h:Cnt g f W):g<W.heap.size:=by
 obtain⟨vs,h1,_⟩:=h
 exact(Array.getElem?_eq_some_iff.1 h1).1
theorem cnt_cell {g:Nat} {f:Nat→Int} {W:World} (h:Cnt g f W) {k:Nat} (hk:k<256):W.cell? ⟨g,k,none⟩=some (.int .i64 (f k)):=by
 obtain⟨vs,h1,h2⟩:=h
 simp[World.cell?,h1,h2 k hk]
theorem cnt_frz {g:Nat} {f:Nat→Int} {W:World} (h:Cnt g f W) (k:Nat):W.frozen? ⟨g,k,none⟩=false:=by
 obtain⟨vs,h1,_⟩:=h
 simp[World.frozen?,h1]
def upF (f:Nat→Int) (k:Nat):Nat→Int:=fun i=>if i=k then f i+1 else f i
theorem cnt_put {g:Nat} {f:Nat→Int} {W:World} (h:Cnt g f W) (k:Nat):Cnt g (upF f k) (W.setCell ⟨g,k,none⟩ (.int .i64 (f k+1))):=by
 obtain⟨vs,h1,h2⟩:=h
 refine⟨vs.setIfInBounds k (.int .i64 (f k+1)),by simp[World.setCell,Array.getElem?_modify,h1],fun j hj => ?_⟩
 unfold upF
 rw[Array.getElem?_setIfInBounds]
 have hlt:j<vs.size:=(Array.getElem?_eq_some_iff.1 (h2 j hj)).1
 by_cases e:k=j
 ·subst e
  rw[if_pos rfl,if_pos rfl]
  simp[hlt]
 ·rw[if_neg e,if_neg (fun e'=>e e'.symm)]
  exact h2 j hj
theorem cnt_other {g:Nat} {f:Nat→Int} {W:World} (h:Cnt g f W) {c:Nat} (hne:c≠g) (k:Nat) (v:Value):Cnt g f (W.setCell ⟨c,k,none⟩ v):=by
 obtain⟨vs,h1,h2⟩:=h
 exact⟨vs,by simp[World.setCell,Array.getElem?_modify,h1,hne],h2⟩
def cntL:List Int→Nat→Nat
 | [],_=>0
 | n::r,i=>(if n=(i:Int) then 1 else 0)+cntL r i
theorem cntL_snoc (n:Int) (i:Nat):∀ l:List Int,cntL (l++[n]) i=cntL l i+if n=(i:Int) then 1 else 0
 | []=>by simp[cntL]
 | m::r=>by
  rw[List.cons_append]
  unfold cntL
  rw[cntL_snoc n i r]
  omega
theorem cntL_len (i:Nat):∀ l:List Int,cntL l i≤l.length
 | []=>Nat.le_refl _
 | m::r=>by
  unfold cntL
  have:=cntL_len i r
  rw[List.length_cons]
  split <;> omega
def refC:List It→Nat→Nat
 | [],_=>0
 | x::r,i=>(if x.2.1=(i:Int) then 1 else 0)+refC r i
theorem refC_snoc (x:It) (i:Nat):∀ l:List It,refC (l++[x]) i=refC l i+if x.2.1=(i:Int) then 1 else 0
 | []=>by simp[refC]
 | m::r=>by
  rw[List.cons_append]
  unfold refC
  rw[refC_snoc x i r]
  omega
theorem refC_len (i:Nat):∀ l:List It,refC l i≤l.length
 | []=>Nat.le_refl _
 | m::r=>by
  unfold refC
  have:=refC_len i r
  rw[List.length_cons]
  split <;> omega
theorem refC_cnt {i:Nat} (hi:1≤i):∀ l:List It,refC l i=cntR l i
 | []=>rfl
 | x::r=>by
  unfold refC cntR
  rw[refC_cnt hi r]
  by_cases e:x.2.1=(i:Int)
  ·rw[if_pos e,if_pos e,if_neg (by omega)]
  ·rw[if_neg e,if_neg e]
noncomputable def sumC (s:Rm):List Int→Nat→Nat
 | [],_=>0
 | n::r,i=>refC (rmV s n).2 i+sumC s r i
theorem sumC_snoc (s:Rm) (n:Int) (i:Nat):∀ l:List Int,sumC s (l++[n]) i=sumC s l i+refC (rmV s n).2 i
 | []=>by simp[sumC]
 | m::r=>by
  rw[List.cons_append]
  unfold sumC
  rw[sumC_snoc s n i r]
  omega
theorem sumC_len (s:Rm) (i:Nat):∀ l:List Int,(∀ n∈l,rmE s n=0)→sumC s l i≤5*l.length
 | [],_=>Nat.zero_le _
 | m::r,h=>by
  unfold sumC
  have h1:=sumC_len s i r fun n hn=>h n (List.mem_cons_of_mem _ hn)
  have h2:=refC_len i (rmV s m).2
  have h3:=(mayN_of (rm_may (h m List.mem_cons_self)).1).1.2.2.1
  rw[List.length_cons]
  omega
theorem sumC_sum {s:Rm} {i:Nat} (hi:1≤i):∀ l:List Int,(∀ n∈l,rmE s n=0)→sumC s l i=sumD s.1 l i
 | [],_=>rfl
 | m::r,h=>by
  unfold sumC sumD
  rw[sumC_sum hi r fun n hn=>h n (List.mem_cons_of_mem _ hn),refC_cnt hi,ndD_rm (h m List.mem_cons_self)]
theorem nodup_few:∀ (k:Nat) (l:List Int),l.Nodup→(∀ n∈l,0≤n∧n<(k:Int))→l.length≤k
 | 0,l,_,h=>by
  cases l with
  | nil=>exact Nat.le_refl _
  | cons n r =>
   have:=h n List.mem_cons_self
   omega
 | k+1,l,hd,h=>by
  have h1:=nodup_few k (l.filter fun n=>decide (n≠(k:Int))) (hd.filter _) fun n hn=>by
   obtain⟨hn,hne⟩:=List.mem_filter.1 hn
   have:=h n hn
   have hne:n≠(k:Int):=by simpa using hne
   omega
  have h2:l.length≤(l.filter fun n=>decide (n≠(k:Int))).length+1:=by
   clear h h1
   induction l with
   | nil=>simp
   | cons m r ih =>
    obtain⟨h3,h4⟩:=List.nodup_cons.1 hd
    by_cases e:m=(k:Int)
    ·have:(r.filter fun n=>decide (n≠(k:Int)))=r:=List.filter_eq_self.2 fun n hn=>by
      simp
      intro e'
      exact h3 (by rw[e,← e'];exact hn)
     rw[List.filter_cons_of_neg (by simpa using e),this,List.length_cons]
     omega
    ·rw[List.filter_cons_of_pos (by simpa using e),List.length_cons,List.length_cons]
     have:=ih h4
     omega
  omega
end Go.Proofs.YtogieepfimpdmaaGreat
/-
 Which errors making nodes may have,where each block is counted often enough;to leave a node has none. Conditions: those that each lemma states.
-/
namespace Go.Proofs.YtogieepfimpdmaaGreat
open Go.RowKit
theorem ct_err:∀ (l:List It) (t:List UInt8),(∀ x∈l,x.2.1≠0→t[x.2.1.toNat]?.getD 0≠0)→ctE t l≠0→ctE t l=70
 | [],_,_,h=>absurd rfl h
 | x::l,t,hr,h=>by
  have hr':∀ y∈l,y.2.1≠0→t[y.2.1.toNat]?.getD 0≠0:=fun y hy=>hr y (List.mem_cons_of_mem _ hy)
  unfold ctE at h ⊢
  by_cases h0:x.2.1=0
  ·rw[if_pos h0] at h ⊢
   exact ct_err l t hr' h
  ·have hx:=hr x List.mem_cons_self h0
   rw[if_neg h0,if_neg hx] at h ⊢
   by_cases h2:t[x.2.1.toNat]?.getD 0=255
   ·rw[if_pos h2]
   ·rw[if_neg h2] at h ⊢
    refine ct_err l _ (fun y hy hy0 => ?_) h
    by_cases e:y.2.1.toNat=x.2.1.toNat
    ·have hin:x.2.1.toNat<t.length:=by
      rcases Nat.lt_or_ge x.2.1.toNat t.length with hl | hl
      ·exact hl
      ·rw[List.getElem?_eq_none hl] at hx
       exact absurd rfl hx
     rw[e,set_get hin]
     intro hz
     have:=up_nat h2
     rw[hz] at this
     simp at this
    ·rw[set_other e]
     exact hr' y hy hy0
theorem mk_err {s:Rm} {n:Nd} (hm:mayR s=true) (hn:mayN n=true) (hr:∀ x∈n.2,x.2.1≠0→s.2.1[x.2.1.toNat]?.getD 0≠0) (h:mkE s n≠0):mkE s n=9∨mkE s n=70:=by
 have e:mkE s n=if ctE s.2.1 n.2=0 then tkE (ctS s n) (blkN n) else ctE s.2.1 n.2:=by
  unfold mkE
  rw[hm,hn]
  rfl
 rw[e] at h ⊢
 by_cases hc:ctE s.2.1 n.2=0
 ·rw[if_pos hc] at h ⊢
  exact .inl (tk_full (ctS_may hm hn hc) (blkN_length hn) h).1
 ·rw[if_neg hc]
  exact .inr (ct_err _ _ hr hc)
theorem row_may {lv:Int} {L:List It} (h0:0≤lv) (h6:lv<6) (h5:L.length≤5) (hne:0<L.length) (hu:Up L) (hk:∀ x∈L,okP lv x=true):mayN (lv,L)=true:=by
 refine mayN_mk ⟨h0,h6,h5,fun _=>hne⟩ fun i hi => ?_
 have hi':i<L.length:=hi
 have hx:(lv,L).2[i]? = some L[i]:=List.getElem?_eq_getElem hi'
 cases i with
 | zero=>rw[okAt_zero hx];exact hk _ (List.getElem_mem hi')
 | succ j =>
  have hj:j<L.length:=by omega
  rw[okAt_succ hx (List.getElem?_eq_getElem hj),hk _ (List.getElem_mem hi'),Bool.true_and]
  exact List.pairwise_iff_getElem.1 hu j (j+1) hj hi' (by omega)
theorem built_err {s u:Rm} {lv e:Int} {L up:List It} (h0:0≤lv) (h6:lv<6) (hl:L.length≤6) (hne:0<L.length) (hu:Up L) (hk:∀ x∈L,okP lv x=true) (hm:mayR s=true) (hr:∀ x∈L,x.2.1≠0→s.2.1[x.2.1.toNat]?.getD 0≠0) (h:builtO s lv L=(e,u,up)) (he:e≠0):(e=9∨e=70)∧u=emptyR∧up=[]:=by
 unfold builtO at h
 split at h
 ·rename_i h5
  split at h
  ·cases h;exact absurd rfl he
  ·cases h
   exact⟨mk_err hm (row_may h0 h6 h5 hne hu hk) hr he,rfl,rfl⟩
 ·rename_i h5
  have ht:mayN (lv,L.take 3)=true:=row_may h0 h6 (by rw[List.length_take];omega) (by rw[List.length_take];omega) (hu.sublist (List.take_sublist _ _)) fun x hx=>hk x (List.mem_of_mem_take hx)
  have hd:mayN (lv,L.drop 3)=true:=row_may h0 h6 (by rw[List.length_drop];omega) (by rw[List.length_drop];omega) (hu.sublist (List.drop_sublist _ _)) fun x hx=>hk x (List.mem_of_mem_drop hx)
  split at h
  ·rename_i h1
   split at h
   ·cases h;exact absurd rfl he
   ·cases h
    have hkp:=keep_make h1
    exact⟨mk_err hkp.may hd (fun x hx hx0=>hkp.held _ (hr x (List.mem_of_mem_drop hx) hx0)) he,rfl,rfl⟩
  ·cases h
   exact⟨mk_err hm ht (fun x hx=>hr x (List.mem_of_mem_take hx)) he,rfl,rfl⟩
theorem built_upI {s u:Rm} {lv:Int} {L up:List It} (h:builtO s lv L=(0,u,up)):(∀ y∈up,y.2.2=[])∧up.length≤2∧(1<up.length→5<L.length):=by
 rcases built_ways h with ⟨_,_,rfl⟩ | ⟨h5,_,_,_,rfl⟩
 ·exact⟨fun y hy=>by rw[List.mem_singleton.1 hy];rfl,by simp,fun h=>by simp at h⟩
 ·refine⟨fun y hy => ?_,by simp,fun _=>h5⟩
  rcases List.mem_cons.1 hy with rfl | hy
  ·rfl
  ·rw[List.mem_singleton.1 hy];rfl
theorem grown_upI {x:It} {l:Nat} {s u:Rm} {a:Int} {up:List It} (h:grownO x l s a=(0,u,up)):(∀ y∈up,y.2.2=[])∧up.length≤2:=by
 cases l with
 | zero =>
  obtain⟨u0,h1,_⟩:=grown_leaf h
  exact⟨(built_upI h1).1,(built_upI h1).2.1⟩
 | succ l =>
  obtain⟨_,_,_,_,h2,_⟩:=grown_inner h
  exact⟨(built_upI h2).1,(built_upI h2).2.1⟩
theorem grown_two {x:It} {s:Rm}:∀ (l:Nat) {a:Int} {u:Rm} {up:List It},AtT s l a→grownO x l s a=(0,u,up)→1<up.length→tallT s l a x.1=true
 | 0,a,u,up,ht,h,h2=>by
  obtain⟨u0,h1,_⟩:=grown_leaf h
  have h5:=(built_upI h1).2.2 h2
  have hl:=mayN_items ht.may
  have hp:=placeN_le (rmV s a) x.1
  unfold insL at h5
  rw[List.length_append,List.length_append,List.length_take,List.length_drop,List.length_singleton] at h5
  unfold tallT
  cases hth:thereN (rmV s a) x.1 with
  | true =>
   have:=place_in hth
   rw[hth,if_pos rfl] at h5
   omega
  | false =>
   rw[hth,if_neg (by decide)] at h5
   rw[decide_eq_true (by omega)]
   rfl
 | l+1,a,u,up,ht,h,h2=>by
  obtain⟨u1,up1,u2,h1,h3,_⟩:=grown_inner h
  have h5:=(built_upI h3).2.2 h2
  have hl:=mayN_items ht.may
  have hne:0<(rmV s a).2.length:=(mayN_of ht.may).1.2.2.2 (by rw[ht.lvl];omega)
  have hw:=way_in x.1 hne
  have hf:=(grown_upI h1).2
  unfold insL at h5
  rw[List.length_append,List.length_append,List.length_take,List.length_drop] at h5
  obtain⟨y,hy⟩:∃ y,(rmV s a).2[wayN (rmV s a) x.1]? = some y:=⟨_,List.getElem?_eq_getElem hw⟩
  have hir:refW (rmV s a) x.1=y.2.1:=by unfold refW;rw[hy];rfl
  unfold tallT
  rw[decide_eq_true (by omega),Bool.true_and]
  exact grown_two l (by rw[hir];exact ht.down (List.mem_of_getElem? hy)) h1 (by omega)
theorem its_up {f:Int→Ky→Ky→Bool→Bool} {g:Int→List It} {N:Nat} (hf:∀ a k tb e,f a k tb e=true→Part (g a) k tb e N):∀ (L:List It) (tb:Ky) (e:Bool),itsO f L tb e=true→Up L
 | [],_,_,_=>List.Pairwise.nil
 | x::r,tb,e,h=>by
  rw[its_cons,Bool.and_eq_true] at h
  have hr:=its_up hf r tb e h.2
  refine List.pairwise_cons.2 ⟨fun y hy => ?_,hr⟩
  cases r with
  | nil=>cases hy
  | cons c q =>
   have hp:=hf _ _ _ _ h.1
   obtain⟨z,w,ez,kz⟩:=hp.first
   have hc:lessK x.1 c.1=true:=by
    rw[← kz]
    exact hp.bound rfl z (by rw[ez];exact List.mem_cons_self)
   rcases up_first hr y hy with e1 | e1
   ·rw[e1];exact hc
   ·exact less_trans hc e1
theorem putL_few {L:List It} (x:It):(putL L x).length≤L.length+1:=by
 have:=putL_len L x
 omega
theorem grown_err {x:It} (hx:InI x) (hmx:mayI x=true) {s:Rm} (hm:mayR s=true) {P:Nat→Nat} {N:List Int} (hr:x.2.1=0∨(0<x.2.1∧s.2.1[x.2.1.toNat]?.getD 0≠0)) (hE:Enf s.1 s.2.1 (fun i=>P i+hold x i) N):∀ (l:Nat),l<6→∀ {er:Int} {u:Rm} {a:Int} {tb:Ky} {e:Bool} {up:List It},TopT s l a tb e→(e=true→lessK x.1 tb=true)→a∈N→grownO x l s a=(er,u,up)→er≠0→(er=9∨er=70)∧u=emptyR∧up=[]
 | 0,_,er,u,a,tb,e,up,ht,hb,ha,h,he=>by
  have hmn:=(rm_may ht.ok).1
  unfold grownO at h
  have el:insL (rmV s a).2 (placeN (rmV s a) x.1) (if thereN (rmV s a) x.1=true then 1 else 0) [x]=putL (rmV s a).2 x:=leaf_put hmn x
  rw[el] at h
  generalize hbu:builtO s 0 (putL (rmV s a).2 x)=b at h
  obtain⟨f,v,q⟩:=b
  have hin:x∈putL (rmV s a).2 x:=putL_in.2 (.inl rfl)
  split at h
  ·cases h;exact absurd rfl he
  ·cases h
   have hl:=putL_few (L:=(rmV s a).2) x
   have h5:=mayN_items hmn
   refine⟨(built_err (by decide) (by decide) (by omega) (List.length_pos_of_mem hin) (putL_up (up_may hmn) x) (fun y hy => ?_) hm (fun y hy hy0 => ?_) hbu he).1,rfl,rfl⟩
   ·have:mayI y=true:=by
     rcases putL_in.1 hy with rfl | ⟨hy,_⟩
     ·exact hmx
     ·obtain⟨i,hi⟩:=List.getElem?_of_mem hy
      exact okP_may (mayN_item hmn hi)
    unfold okP
    rw[this]
    rfl
   ·rcases putL_in.1 hy with rfl | ⟨hy,_⟩
    ·rcases hr with hr | hr
     ·exact absurd hr hy0
     ·exact hr.2
    ·rcases leaf_in (show leafO s (rmV s a).2=true from ht.inn) hy with h | h
     ·exact absurd h hy0
     ·exact h
 | l+1,h6,er,u,a,tb,e,up,ht,hb,ha,h,he=>by
  have hmn:=(rm_may ht.ok).1
  have hne:0<(rmV s a).2.length:=(mayN_of hmn).1.2.2.2 (by rw[ht.lv];omega)
  obtain⟨y,hy⟩:∃ y,(rmV s a).2[wayN (rmV s a) x.1]? = some y:=⟨_,List.getElem?_eq_getElem (way_in x.1 hne)⟩
  have hw:=way_part hy
  have hwl:=way_in x.1 hne
  have hyin:y∈(rmV s a).2:=List.mem_of_getElem? hy
  have hir:refW (rmV s a) x.1=y.2.1:=by unfold refW;rw[hy];rfl
  have hown:=way_own hmn hy
  have hA0:(rmV s a).2.take (wayN (rmV s a) x.1)≠[]→lessK x.1 y.1=false:=fun hA=>hown fun e=>hA (by rw[e];rfl)
  have hCk:∀ c r,(rmV s a).2.drop (wayN (rmV s a) x.1+1)=c::r→lessK x.1 c.1=true:=fun c r hc=>by
   refine way_behind hmn (i:=wayN (rmV s a) x.1+1) (by omega) ?_
   have:=congrArg (fun l=>l[0]?) hc
   simpa [List.getElem?_drop] using this
  have h5:=mayN_items hmn
  have hlen:((rmV s a).2.take (wayN (rmV s a) x.1)).length+((rmV s a).2.drop (wayN (rmV s a) x.1+1)).length+1=(rmV s a).2.length:=by
   rw[List.length_take,List.length_drop]
   omega
  have hokp:∀ q∈(rmV s a).2,okP ((l+1:Nat):Int) q=true:=fun q hq=>by
   obtain⟨i,hi⟩:=List.getElem?_of_mem hq
   rw[← ht.lv]
   exact mayN_item hmn hi
  unfold grownO at h
  rw[hir] at h
  have eL:∀ up1,insL (rmV s a).2 (wayN (rmV s a) x.1) 1 up1=(rmV s a).2.take (wayN (rmV s a) x.1)++(up1++(rmV s a).2.drop (wayN (rmV s a) x.1+1)):=fun _=>rfl
  rw[eL] at h
  generalize hAe:(rmV s a).2.take (wayN (rmV s a) x.1)=A at *
  generalize hCe:(rmV s a).2.drop (wayN (rmV s a) x.1+1)=C at *
  have hinn:itsO (rightO s l) (rmV s a).2 tb e=true:=ht.inn
  rw[hw] at hinn
  have hsp:=hinn
  rw[its_append,Bool.and_eq_true,its_cons,Bool.and_eq_true] at hsp
  obtain⟨iA,iy,iC⟩:=hsp
  obtain⟨hty,htk⟩:=right_top iy
  have hbC:bxO C e=true→lessK x.1 (nxO C tb)=true:=fun he=>by
   cases hC:C with
   | nil=>rw[hC] at he;exact hb he
   | cons c r=>exact hCk c r hC
  have hnd:ndD s.1 a=rmV s a:=ndD_rm ht.ok
  have hsh:∀ q∈(rmV s a).2,q.2.1∈N:=fun q hq=>(hE.shut a ha (by rw[hnd,ht.lv];omega) q (by rw[hnd];exact hq)).1
  generalize hg:grownO x l s y.2.1=g at h
  obtain⟨ge,u1,up1⟩:=g
  split at h
  ·rename_i hg0
   have hg1:grownO x l s y.2.1=(0,u1,up1):=by rw[hg];rw[show ge=0 from hg0]
   obtain⟨N1,G⟩:=grown_ok hx hr hE l (by omega) hty hbC (hsh y hyin) hg1
   obtain⟨hv,hf⟩:=grown_upI hg1
   obtain⟨z1,r1,ez1,kz1⟩:=G.first
   have hz1:lessK x.1 y.1=false→z1.1=y.1:=fun hxy=>by
    obtain⟨y0,q0,e0⟩:∃ y0 q0,(rmV s y.2.1).2=y0::q0:=by
     obtain⟨_,_,r3,_⟩:=right_of iy
     obtain⟨y0,q0,e0,_⟩:=head_of r3
     exact⟨y0,q0,e0⟩
    have k0:=htk y0 q0 e0
    rw[kz1 y0 q0 e0 (by rw[k0];exact hxy),k0]
   have hits:itsO (rightO u1 l) (A++(up1++C)) tb e=true:=its_instead hinn (fun hA=>hz1 (hA0 hA)) ez1 (fun q _ k tb e hf=>(keep_right G.keep l _ _ _ _ hf).1) G.its
   have hup:=its_up (right_part u1 l) _ _ _ hits
   generalize hbu:builtO u1 ((l+1:Nat):Int) (A++(up1++C))=b at h
   obtain⟨f,v,q⟩:=b
   rw[hw] at hokp hsh
   split at h
   ·cases h;exact absurd rfl he
   ·cases h
    refine⟨(built_err (by omega) (by omega) (by simp only[List.length_append];omega) (by rw[ez1];simp only[List.length_append,List.length_cons];omega) hup (fun q hq => ?_) G.keep.may (fun q hq hq0 => ?_) hbu he).1,rfl,rfl⟩
    ·rcases List.mem_append.1 hq with hq | hq
     ·exact hokp q (List.mem_append_left _ hq)
     ·rcases List.mem_append.1 hq with hq | hq
      ·obtain⟨_,f2,f3,_⟩:=G.ups q hq
       have e1:mayI q=true:=mayI_mk ⟨.inr ⟨f2,f3⟩,by rw[hv q hq];decide⟩
       unfold okP refersI
       rw[e1,hv q hq,decide_eq_true (show q.2.1≠0 by omega)]
       simp
      ·exact hokp q (List.mem_append_right _ (List.mem_cons_of_mem _ hq))
    ·have hold:∀ q:It,q.2.1∈N→u1.2.1[q.2.1.toNat]?.getD 0≠0:=fun q hq=>G.keep.held _ (cnt_nz.1 (hE.node _ hq).2.2.2)
     rcases List.mem_append.1 hq with hq | hq
     ·exact hold q (hsh q (List.mem_append_left _ hq))
     ·rcases List.mem_append.1 hq with hq | hq
      ·exact cnt_nz.1 (G.enf.node _ (G.ups q hq).1).2.2.2
      ·exact hold q (hsh q (List.mem_append_right _ (List.mem_cons_of_mem _ hq)))
  ·rename_i hg0
   cases h
   exact⟨(grown_err hx hmx hm hr hE l (by omega) hty hbC (hsh y hyin) hg he).1,rfl,rfl⟩
theorem each_some {d:Dk} {f:List UInt8→Nat→Option (List UInt8)} {ok:List UInt8→List Int→Int→Prop}
  (hle:∀ t a u,f t a=some u→LeT u t)
  (hok:∀ t u N a,ok t N a→LeT u t→cnt8 u a.toNat≠0→ok u (liveN u N) a)
  (hf:∀ t u P N a,0<a→ok t N a→Enf d t (fun k=>P k+if k=a.toNat then 1 else 0) N→f t a.toNat=some u→Enf d u P (liveN u N))
  (hs:∀ (t:List UInt8) (P:Nat→Nat) (N:List Int) (a:Int),0<a→ok t N a→Enf d t (fun k=>P k+if k=a.toNat then 1 else 0) N→∃ u,f t a.toNat=some u) :
  ∀ (l:List It) (t:List UInt8) (P:Nat→Nat) (N:List Int),refsOk l→(∀ x∈l,x.2.1≠0→ok t N x.2.1)→Enf d t (fun k=>P k+cntR l k) N→∃ u,eachO f t l=some u
 | [],t,_,_,_,_,_=>⟨t,rfl⟩
 | x::r,t,P,N,hr,hk,h=>by
  obtain⟨h1,h2⟩:=refs_cons hr
  unfold eachO
  by_cases h0:x.2.1=0
  ·rw[if_pos h0]
   exact each_some hle hok hf hs r t P N h2 (fun y hy=>hk y (List.mem_cons_of_mem _ hy)) (h.same fun k=>by rw[cntR_zero h0])
  ·rw[if_neg h0]
   have hpos:0<x.2.1:=by rcases h1 with h1 | ⟨k,e,_⟩ <;> omega
   have hE1:Enf d t (fun k=>(P k+cntR r k)+if k=x.2.1.toNat then 1 else 0) N:=h.same fun k=>by
    have ec:cntR (x::r) k=(if x.2.1=(k:Int) then (if x.2.1=0 then 0 else 1) else 0)+cntR r k:=rfl
    show P k+cntR r k+(if k=x.2.1.toNat then 1 else 0)=P k+cntR (x::r) k
    rw[ec]
    by_cases e:x.2.1=(k:Int)
    ·rw[if_pos e,if_neg h0,if_pos (show k=x.2.1.toNat by omega)];omega
    ·rw[if_neg e,if_neg (show ¬ k=x.2.1.toNat by omega)];omega
   have hkx:=hk x List.mem_cons_self h0
   obtain⟨t1,ht⟩:=hs t (fun k=>P k+cntR r k) N x.2.1 hpos hkx hE1
   have s1:=hf t t1 (fun k=>P k+cntR r k) N x.2.1 hpos hkx hE1 ht
   have hl1:=hle _ _ _ ht
   obtain⟨u,hu⟩:=each_some hle hok hf hs r t1 P (liveN t1 N) h2 (fun y hy hy0=>by
    refine hok t t1 N y.2.1 (hk y (List.mem_cons_of_mem _ hy) hy0) hl1 ?_
    have h5:=s1.enough y.2.1.toNat
    have h6:0<y.2.1:=by
     rcases h2 y hy with e | e
     ·exact absurd e hy0
     ·omega
    have h7:=cntR_has hy (k:=y.2.1.toNat) (by omega) hy0
    omega) s1
   exact⟨u,by rw[ht];exact hu⟩
theorem dn_yes {d:Dk} {t:List UInt8} {P:Nat→Nat} {N:List Int} {a:Nat} (h:Enf d t (fun k=>P k+if k=a then 1 else 0) N):∃ u,dnO t a=some u:=by
 have h1:=h.enough a
 simp only[if_true] at h1
 unfold dnO
 rw[if_neg (cnt_nz.1 (by omega))]
 exact⟨_,rfl⟩
theorem lvF_yes (d:Dk):∀ (L:Nat) (t:List UInt8) (P:Nat→Nat) (N:List Int) (a:Int),0<a→(∀ l,L=l+1→a∈N∧(ndD d a).1=(l:Int))→Enf d t (fun k=>P k+if k=a.toNat then 1 else 0) N→∃ u,lvF d L t a.toNat=some u
 | 0,t,P,N,a,_,_,h=>dn_yes h
 | l+1,t,P,N,a,h0,hk,h=>by
  obtain⟨ha,hl⟩:=hk l rfl
  obtain⟨t1,hd⟩:=dn_yes h
  obtain⟨c1,c2⟩:=dn_cnt hd
  unfold lvF lvS
  rw[hd]
  show ∃ u,(if 1<(t[a.toNat]?.getD 0).toNat then some t1 else if reN (seenD d a.toNat)=0∧(reV (seenD d a.toNat)).1=(l:Int) then eachO (lvF d l) t1 (reV (seenD d a.toNat)).2 else none)=some u
  by_cases hm:1<(t[a.toNat]?.getD 0).toNat
  ·rw[if_pos hm];exact⟨_,rfl⟩
  ·rw[if_neg hm,if_pos ⟨(h.node a ha).2.2.1,hl⟩]
   have h1:cnt8 t a.toNat≤1:=by unfold cnt8;omega
   obtain⟨o1,o2⟩:=enf_open h ha hd h1
   refine each_some (d:=d) (f:=lvF d l) (ok:=fun _ M b=>∀ l',l=l'+1→b∈M∧(ndD d b).1=(l':Int)) (lvF_le d l)
    (fun t u M b hb _ hc l' e=>⟨live_in.2 ⟨(hb l' e).1,hc⟩,(hb l' e).2⟩)
    (fun t u P M b hb0 hb hE hu=>lv_enf d l t u P M b hb0 hb hE hu)
    (fun t P M b hb0 hb hE=>lvF_yes d l t P M b hb0 hb hE)
    (ndD d a).2 t1 P _ (h.refs a ha) (fun x hx _ l' e => ?_) o1
   have hne:(ndD d a).1≠0:=by rw[hl,e];omega
   refine⟨o2 x hx hne,?_⟩
   obtain⟨_,_,g3⟩:=h.shut a ha hne x hx
   omega
theorem leave_yes {d:Dk} {t:List UInt8} {P:Nat→Nat} {N:List Int} {a:Int} (ha:a∈N) (h0:0<a) (hl:0≤(ndD d a).1) (h:Enf d t (fun k=>P k+if k=a.toNat then 1 else 0) N):∃ u,lfO d t a.toNat=some u:=by
 obtain⟨L,hL⟩:∃ L:Nat,(ndD d a).1=(L:Int):=⟨(ndD d a).1.toNat,by omega⟩
 obtain⟨u,hu⟩:=lvF_yes d (L+1) t P N a h0 (fun l e=>⟨ha,by rw[hL];omega⟩) h
 refine⟨u,?_⟩
 rw[← hu]
 unfold lfO
 conv=>rhs;unfold lvF lvS
 have e1:(reV (seenD d a.toNat)).1=(L:Int):=hL
 rw[e1]
 rw[show ((L:Nat):Int).toNat=L by omega]
 cases dnO t a.toNat with
 | none=>rfl
 | some t1=>simp
theorem ups_ok {x:It} {l L:Nat} {s u:Rm} {a:Int} {P:Nat→Nat} {N N':List Int} {up:List It} {tb:Ky} {e:Bool} (G:GrownIs s u P N N' l a up x tb e) (h:grownO x l s a=(0,u,up)):∀ q∈up,okP (L:Int) q=true:=fun q hq=>by
 obtain⟨_,f2,f3,_⟩:=G.ups q hq
 have hv:=(grown_upI h).1
 have e1:mayI q=true:=mayI_mk ⟨.inr ⟨f2,f3⟩,by rw[hv q hq];decide⟩
 unfold okP refersI
 rw[e1,hv q hq,decide_eq_true (show q.2.1≠0 by omega)]
 simp
theorem ins_err {s u:Rm} {er a now:Int} {x:It} {P:Nat→Nat} {N:List Int} (hx:InI x) (hmx:mayI x=true) (ht:treeO s a=true) (ha:a∈N) (hr:x.2.1=0∨(0<x.2.1∧s.2.1[x.2.1.toNat]?.getD 0≠0))
  (hE:Enf s.1 s.2.1 (fun i=>P i+(if i=a.toNat then 1 else 0)+hold x i) N) (h:insO s a x=(er,u,now)) (he:er≠0):(er=9∨er=70∨er=120)∧u=emptyR∧now=0:=by
 obtain⟨r1,ra,_,l0,l6,_⟩:=tree_of ht
 have hm:mayR s=true:=by
  obtain⟨k,_,hm,_⟩:=as_read ra
  exact hm
 unfold insO at h
 have hlv:(rmV s a).1=(((rmV s a).1.toNat:Nat):Int):=by omega
 generalize hg:grownO x (rmV s a).1.toNat s a=g at h
 obtain⟨ge,u1,up⟩:=g
 generalize hb:rootO _ _ _=b at h
 obtain⟨f,T,top⟩:=b
 split at h
 ·cases h
  exact⟨.inr (.inr rfl),rfl,rfl⟩
 ·rename_i htall
  split at h
  ·rename_i hg0
   have hg1:grownO x (rmV s a).1.toNat s a=(0,u1,up):=by rw[hg];rw[show ge=0 from hg0]
   obtain⟨N1,G⟩:=grown_ok hx hr hE _ (by omega) (tree_top ht) (fun he=>by cases he) ha hg1
   split at h
   ·rename_i hf0
    have hb1:rootO u1 (((rmV s a).1.toNat:Nat):Int) up=(0,T,top):=by rw[← hlv,← show f=0 from hf0];exact hb
    obtain⟨L,z,N2,en,k,g1,g2,e1,e2,z1,z8,hw,L1,L2⟩:=root_ok (by omega) G hb1
    have ha0:0<a:=by have:=(node_place r1).1;omega
    have hnda:ndD T.1 a=rmV s a:=(keep_nd k hE ha).trans (ndD_rm r1)
    obtain⟨v,hv⟩:=leave_yes (P:=fun i=>P i+if i=z.2.1.toNat then 1 else 0) (e2 a ha) ha0 (by rw[hnda];exact l0) (e1.same fun i=>by
     show P i+(if i=z.2.1.toNat then 1 else 0)+(if i=a.toNat then 1 else 0)=P i+(if i=a.toNat then 1 else 0)+(if i=z.2.1.toNat then 1 else 0)
     omega)
    have h':(match lfO T.1 T.2.1 a.toNat with | none=>((8:Int),emptyR,(0:Int)) | some v=>(0,(T.1,v,T.2.2),nowL top))=(er,u,now):=h
    rw[hv] at h'
    cases h'
    exact absurd rfl he
   ·rename_i hf0
    cases h
    refine⟨?_,rfl,rfl⟩
    have hb':rootO u1 (rmV s a).1 up=(f,T,top):=hb
    unfold rootO at hb'
    split at hb'
    ·rename_i h1
     generalize hbu:builtO u1 ((rmV s a).1+1) up=c at hb'
     obtain⟨c1,c2,c3⟩:=c
     have h5:(rmV s a).1+1<6:=by
      rcases Int.lt_or_le ((rmV s a).1+1) 6 with h | h
      ·exact h
      ·have e5:(rmV s a).1=5:=by omega
       have et:(rmV s a).1.toNat=5:=by omega
       have:=grown_two _ (tree_at ht) hg1 h1
       rw[et] at this
       exact absurd (show tallO s a x.1=true by unfold tallO;rw[this,e5];rfl) htall
     split at hb'
     ·cases hb';exact absurd rfl he
     ·cases hb'
      have hf:=G.few
      have hup:=its_up (right_part u1 _) _ _ _ G.its
      rcases(built_err (lv:=(rmV s a).1+1) (by omega) h5 (by omega) (by omega) hup (fun q hq=>by
       have:=ups_ok (L:=(rmV s a).1.toNat+1) G hg1 q hq
       rwa [show (((rmV s a).1.toNat+1:Nat):Int)=(rmV s a).1+1 by omega] at this) G.keep.may (fun q hq _=>cnt_nz.1 (G.enf.node _ (G.ups q hq).1).2.2.2) hbu he).1 with e | e
      ·exact .inl e
      ·exact .inr (.inl e)
    ·cases hb';exact absurd rfl he
  ·rename_i hg0
   cases h
   rcases(grown_err hx hmx hm hr hE _ (by omega) (tree_top ht) (fun he=>by cases he) ha hg he).1 with e | e
   ·exact⟨.inl e,rfl,rfl⟩
   ·exact⟨.inr (.inl e),rfl,rfl⟩
end Go.Proofs.YtogieepfimpdmaaGreat
/-
 What the laws' enough says of the counts,plain;what follows for Put. Conditions: those that each lemma states.
-/
namespace Go.Proofs.YtogieepfimpdmaaGreat
open Go.RowKit
theorem cntL_zero {i:Nat}:∀ {l:List Int},(∀ n∈l,n≠(i:Int))→cntL l i=0
 | [],_=>rfl
 | m::r,h=>by
  unfold cntL
  rw[cntL_zero fun n hn=>h n (List.mem_cons_of_mem _ hn),if_neg (h m List.mem_cons_self)]
theorem root_node (s:Rm) (r:Int):r∈nodesO s r:=by
 unfold nodesO
 rw[nodesT.eq_def]
 split
 ·exact List.mem_singleton.2 rfl
 ·exact List.mem_cons_self
theorem root_in {s:Rm} {r:Int} (h:ckE s r=0):8≤r∧r<256:=by
 have:=node_place (tree_of (ck_of h).1).1
 omega
theorem enf_res {s:Rm} {roots held V:List Int} (ht:∀ r∈roots,ckE s r=0) (h1:V.Nodup) (h2:∀ n,n∈V↔∃ r∈roots,n∈nodesO s r) (h3:∀ x∈held,8≤x∧x<256) (h:∀ i:Nat,1≤i→i<256→cntL held i+cntL roots i+sumD s.1 V i≤cnt8 s.2.1 i) :
  Enf s.1 s.2.1 (fun i=>cntL held i+cntL roots i) V∧∀ r∈roots,r∈V:=by
 refine⟨enough_enf h1 h2 (fun r hr=>(ck_of (ht r hr)).1) (fun k hk => ?_) (fun k h8 h256=>h k (by omega) h256),fun r hr=>(h2 r).2 ⟨r,hr,root_node s r⟩⟩
 have e1:cntL held k=0:=cntL_zero fun n hn=>by have:=h3 n hn;omega
 have e2:cntL roots k=0:=cntL_zero fun n hn=>by have:=root_in (ht n hn);omega
 rw[e1,e2]
def heldI (x:It):List Int:=if 8≤x.2.1∧x.2.1<256 then [x.2.1] else []
theorem held_hold {x:It} (h:mayI x=true) (i:Nat):cntL (heldI x) i=hold x i:=by
 have hr:=(mayI_of h).1
 unfold heldI hold
 by_cases h0:x.2.1=0
 ·rw[if_neg (by omega),if_neg (fun h=>h.1 h0)]
  rfl
 ·rw[if_pos (by omega)]
  show (if x.2.1=(i:Int) then 1 else 0)+0=_
  by_cases e:x.2.1=(i:Int)
  ·rw[if_pos e,if_pos ⟨h0,by omega⟩]
  ·rw[if_neg e,if_neg (fun h=>e (by omega))]
theorem held_in (x:It):∀ n∈heldI x,8≤n∧n<256:=fun n hn=>by
 unfold heldI at hn
 split at hn
 ·rw[List.mem_singleton.1 hn];assumption
 ·cases hn
end Go.Proofs.YtogieepfimpdmaaGreat
/-
 A row of the call's own that holds items whose bytes lie in older memory;the items of a row of older memory. Conditions: those that each lemma states.
-/
namespace Go.Proofs.YtogieepfimpdmaaGreat
open Go.RowKit
def Lows (lo:Nat):Addr→Prop:=fun p=>p.block<lo
structure StayI (lo:Nat) (w:World) (A:Option Addr) (n c:Nat) (xs:List It):Prop where
 low:lo≤w.heap.size
 row:∃ ps:List Iv,ps.map (·.1)=xs∧ps.length=n∧w.ownsRow lo 40 5 (.slice A n c) n (cells5 ps)∧∀ p∈ps,InI p.1∧rBy (Lows lo) w [p.2] p.1.2.2
theorem StayI.nil (lo:Nat) (w:World) (h:lo≤w.heap.size):StayI lo w none 0 0 []:=⟨h,[],rfl,rfl,World.ownsRow_nil _ _ _ _,fun p hp=>by cases hp⟩
theorem lows_below {lo:Nat} {w w':World} {v:Value} {l:List UInt8} (h:rBy (Lows lo) w [v] l) (hb:Below lo w w') (_:lo≤w.heap.size):rBy (Lows lo) w' [v] l :=
 stab_by _ _ _ _ _ _ (fun _ _ hp hc=>⟨hp,((hb.cell hp).trans hc)⟩) h
theorem StayI.len {lo:Nat} {w:World} {A:Option Addr} {n c:Nat} {xs:List It} (h:StayI lo w A n c xs):xs.length=n:=by
 obtain⟨_,ps,rfl,rfl,_⟩:=h
 simp
theorem StayI.below {lo:Nat} {w w':World} {A:Option Addr} {n c:Nat} {xs:List It} (h:StayI lo w A n c xs) (hb:Below w.heap.size w w'):StayI lo w' A n c xs:=by
 obtain⟨h0,ps,h1,h2,h3,h4⟩:=h
 exact⟨Nat.le_trans h0 hb.size,ps,h1,h2,own_below h3 hb,fun p hp=>⟨(h4 p hp).1,lows_below (h4 p hp).2 (hb.mono h0) h0⟩⟩
theorem StayI.push {lo:Nat} {w:World} {A:Option Addr} {n c:Nat} {xs:List It} (h:StayI lo w A n c xs) (g:Nat) (x:It) (d:Value) (m:Nat) (hg:w.heap[g]? = some (.cells #[.int .u8 (x.1.1.toNat:Int),.int .u32 x.1.2.1,.int .u32 x.1.2.2,.int .i64 x.2.1,d] 40 (0,0))) (hs:n<100000) (hin:InI x) (hx:rBy (Lows lo) w [d] x.2.2) :
  ∃ A' c' w',(Builtin.append_ #[43,43] 43 #[.slice A n c,.slice (some ⟨g,0,none⟩) 1 m]).run Tryz.prog w=.ok (.slice A' (n+1) c') w'∧StayI lo w' A' (n+1) c' (xs++[x])∧Below lo w w':=by
 obtain⟨h0,ps,h1,h2,h3,h4⟩:=h
 obtain⟨i0,hi,hz0,hz1,hz2⟩:=info_parts item_info0
 obtain⟨E,ce,rfl,_⟩:=id (rBy_open hx)
 obtain⟨v',w',hr,o1,_,b1,_⟩:=app_own (P:=Tryz.prog) (w:=w) lo 43 43 40 i0 (.agg #[.int .u8 0,.int .u32 0,.int .u32 0,.int .i64 0,.slice none 0 0]) 5 48 Tryz.underlying43 hi hz0 hz1 hz2 rfl (by decide) _ _ _ h3 ⟨g,0,none⟩ 1 m (cell5 (x,.slice E x.2.2.length ce)) rfl (World.news_of_block (cs:=#[.int .u8 (x.1.1.toNat:Int),.int .u32 x.1.2.1,.int .u32 x.1.2.2,.int .i64 x.2.1,.slice E x.2.2.length ce]) hg) (fun u hu=>by
  simp[cell5] at hu
  rcases hu with rfl | rfl | rfl | rfl | rfl <;> rfl) (by unfold maxLen;omega) (by omega) h0
 obtain⟨A',c',rfl,_⟩:=own_any o1
 refine⟨A',c',w',hr,⟨Nat.le_trans h0 b1.size,ps++[(x,.slice E x.2.2.length ce)],by rw[List.map_append,h1];rfl,by simp[h2],?_,fun p hp => ?_⟩,b1⟩
 ·have e:cells5 (ps++[(x,.slice E x.2.2.length ce)])=cells5 ps++cell5 (x,.slice E x.2.2.length ce):=by simp[cells5]
  rw[e]
  exact o1
 ·rcases List.mem_append.1 hp with hp | hp
  ·exact⟨(h4 p hp).1,lows_below (h4 p hp).2 b1 h0⟩
  ·rw[List.mem_singleton.1 hp]
   exact⟨hin,lows_below hx b1 h0⟩
theorem StayI.its {lo:Nat} {w:World} {A:Option Addr} {n c:Nat} {xs:List It} (h:StayI lo w A n c xs):rIts (Old w) w [.slice A n c] xs:=by
 obtain⟨h0,ps,rfl,rfl,h3,h4⟩:=h
 obtain⟨_,_,e,l1,l2,_,h5⟩:=own_any h3
 cases e
 refine⟨A,c,by rw[List.length_map],by rw[List.length_map];exact l1,l2,fun i x hi => ?_⟩
 rw[List.getElem?_map] at hi
 obtain⟨p,hp,rfl⟩:=Option.map_eq_some_iff.1 hi
 obtain⟨g1,g2⟩:=h4 p (List.mem_of_getElem? hp)
 have hlt:=(List.getElem?_eq_some_iff.1 hp).1
 obtain⟨ad,rfl⟩:=h5 (by omega)
 rcases h3.2 with ⟨e,e2⟩ | ⟨g,cap',cur,e,hb,hg,_⟩
 ·cases e
 ·injection e with e1
  injection e1 with e1
  subst e1
  have hgl:g<w.heap.size:=(Array.getElem?_eq_some_iff.1 hg).1
  refine⟨_,cell5 p,rfl,rfl,fun j v hj=>⟨by unfold Old;rw[add_block];exact hgl,World.ownsRow.cells h3 (g:=g) rfl _ v (cells5_at hp j v hj)⟩,rIt_mk g1 (stab_by _ _ _ _ _ _ (fun q v hq hc=>⟨Nat.lt_of_lt_of_le hq h0,hc⟩) g2)⟩
theorem its_low {w:World} {A:Option Addr} {n c k:Nat} {xs:List It} {x:It} (h:rIts (Old w) w [.slice A n c] xs) (hk:xs[k]? = some x) :
  ∃ ad E ce,A=some ad∧InI x∧∀ W,Below w.heap.size w W→At5 W (ad.add (k*5)) x (.slice E x.2.2.length ce)∧rBy (Lows w.heap.size) W [.slice E x.2.2.length ce] x.2.2:=by
 obtain⟨ad,E,ce,rfl,_,h5,hi,_,_,hin⟩:=its_at h hk
 obtain⟨_,e,_,hb⟩:=hi
 unfold itV at e
 simp only[Value.agg.injEq,Array.mk.injEq,List.cons.injEq,and_true,true_and] at e
 subst e
 exact⟨ad,E,ce,rfl,hin,fun W hW=>⟨h5.below hW,stab_by _ _ _ _ _ _ (fun p v hp hc=>⟨hp,(hW.cell hp).trans hc⟩) hb⟩⟩
theorem itm_low {w:World} {x:It} {E:Option Addr} {ce:Nat} (h:Itm (Old w) w (itV x (.slice E x.2.2.length ce)) x):∀ W,Below w.heap.size w W→rBy (Lows w.heap.size) W [.slice E x.2.2.length ce] x.2.2:=fun W hW=>by
 obtain⟨_,e,_,hb⟩:=h
 unfold itV at e
 simp only[Value.agg.injEq,Array.mk.injEq,List.cons.injEq,and_true,true_and] at e
 subst e
 exact stab_by _ _ _ _ _ _ (fun p v hp hc=>⟨hp,(hW.cell hp).trans hc⟩) hb
theorem waits_len {w:World} {a n l:Value} {B:Option Addr} {m c:Nat} {s:Rm} (h:Sto (Old w) w (.agg #[a,.slice B m c,n,l]) s):m=s.1.2.length∧m≤9223372036854775807:=by
 obtain⟨_,_,e,_,h2⟩:=h.parts.1
 simp only[Value.agg.injEq,Array.mk.injEq,List.cons.injEq,and_true] at e
 obtain⟨-,rfl⟩:=e
 obtain⟨_,_,e,l1,l2,_⟩:=h2
 simp only[List.cons.injEq,Value.slice.injEq,and_true] at e
 obtain⟨rfl,rfl,rfl⟩:=e
 exact⟨rfl,by omega⟩
def PhTwo (a b:Int) (v:Value) (W:World):Prop:=∃ g,v=.slice (some ⟨g,0,none⟩) 2 2∧W.heap[g]? = some (.cells #[.int .i64 a,.int .i64 b] 3 (0,0))
theorem PhTwo.below {a b:Int} {v:Value} {W W':World} (h:PhTwo a b v W) (hb:Below W.heap.size W W'):PhTwo a b v W':=by
 obtain⟨g,e,hg⟩:=h
 exact⟨g,e,(hb.block g (Array.getElem?_eq_some_iff.1 hg).1).trans hg⟩
end Go.Proofs.YtogieepfimpdmaaGreat
/-
 What the laws of layer 12 conclude,plain. Conditions: those that each lemma states.
-/
namespace Go.Proofs.YtogieepfimpdmaaGreat
open Go.RowKit
theorem nil_sl (ok:Addr→Prop) (w:World):rSl 1 (rK .i64) ok w [.slice none 0 0] []:=⟨none,0,rfl,Nat.le_refl _,by decide,fun i x h=>by simp at h⟩
theorem sl_below {w w':World} {A:Option Addr} {n c:Nat} {l:List Int} (h:rSl 1 (rK .i64) (Old w) w [.slice A n c] l) (hb:Below w.heap.size w w'):rSl 1 (rK .i64) (Old w') w' [.slice A n c] l :=
 stab_sl (stab_k _) _ _ _ _ _ _ (fun _ _ hp hc=>⟨Nat.lt_of_lt_of_le hp hb.size,(hb.cell hp).trans hc⟩) h
theorem box_1 (w:World) (v:Value) (t:TypeId):∃ w1,w.alloc (.cells #[v] t)=w1∧w1.heap[w.heap.size]? = some (.cells #[v] t (0,0))∧w1.heap.size=w.heap.size+1∧Below w.heap.size w w1 :=
 ⟨_,rfl,heap_alloc_new _ _,by simp,(Below.refl _ _).alloc (Nat.le_refl _) _⟩
theorem held_len (x:It):(heldI x).length≤1:=by
 unfold heldI
 split <;> simp
theorem held_256 (x:It):∀ n∈heldI x,0≤n∧n<256:=fun n hn=>by
 have:=held_in x n hn
 omega
theorem ck_64 {s:Rm} {a:Int} (h:ckE s a=0):In64 a:=by
 have:=root_in h
 exact⟨by omega,by omega⟩
theorem ck_few {s:Rm} {a:Int} (h:ckE s a=0):1≤ckH s a∧ckH s a≤6:=by
 obtain⟨ht,_,e⟩:=ck_of h
 obtain⟨_,_,_,l0,l6,_⟩:=tree_of ht
 omega
theorem is_check {s u:Rm} {P:Nat→Nat} {N M:List Int} {a now:Int} {x:It} (hck:ckE s a=0) (H:PutIs s u P N M a now x):ckE u now=0∧ckH s a≤ckH u now∧ckH u now≤ckH s a+1:=by
 obtain⟨_,_,h1⟩:=ck_of hck
 obtain⟨h2,h3⟩:=ck_ok (tree_of H.tree).2.1 H.tree
 have:=H.tall
 exact⟨h2,by omega,by omega⟩
theorem put_two_res {s:Rm} {a b:Int} {x:It} {V:List Int} {l:List Sv} (hx:InI x) (hmx:mayI x=true) (hck:ckE s a=0) (hcb:ckE s b=0) (hl:ckE s a=0→citE s x=0→WayL s x.1 a l) (h1:V.Nodup) (h2:∀ n,n∈V↔∃ r∈[a,b],n∈nodesO s r)
  (h:∀ i:Nat,1≤i→i<256→cntL (heldI x) i+cntL [a,b] i+sumD s.1 V i≤cnt8 s.2.1 i) :
  ((putS s a x l).1≠0∧((putS s a x l).1=9∨(putS s a x l).1=70∨(putS s a x l).1=120)∧(putS s a x l).2.1=emptyR) ∨
  ((putS s a x l).1=0∧ckE (putS s a x l).2.1 (putS s a x l).2.2=0∧ckE (putS s a x l).2.1 b=0∧allO (putS s a x l).2.1 (putS s a x l).2.2=putL (allO s a) x∧allO (putS s a x l).2.1 b=allO s b ∧
   ((putS s a x l).2.1.1.2.length:Int)≤s.1.2.length+2*ckH s a+1 ∧
   ∀ W:List Int,W.Nodup→(∀ n,n∈W↔∃ r∈[(putS s a x l).2.2,b],n∈nodesO (putS s a x l).2.1 r)→∀ i:Nat,1≤i→i<256→cntL [] i+cntL [(putS s a x l).2.2,b] i+sumD (putS s a x l).2.1.1 W i≤cnt8 (putS s a x l).2.1.2.1 i):=by
 obtain⟨hE,hin⟩:=enf_res (fun r hr=>by
  simp only[List.mem_cons,List.not_mem_nil,or_false] at hr
  rcases hr with rfl | rfl <;> assumption) h1 h2 (held_in x) h
 have ha:=hin a (by simp)
 have hb:=hin b (by simp)
 have ha8:=root_in hck
 have hb8:=root_in hcb
 have hr:x.2.1=0∨(0<x.2.1∧s.2.1[x.2.1.toNat]?.getD 0≠0):=by
  by_cases h0:x.2.1=0
  ·exact .inl h0
  ·have h8:=(mayI_of hmx).1
   refine .inr ⟨by omega,fun e => ?_⟩
   have:=h x.2.1.toNat (by omega) (by omega)
   rw[held_hold hmx,show hold x x.2.1.toNat=1 by unfold hold;rw[if_pos ⟨h0,rfl⟩]] at this
   unfold cnt8 at this
   rw[e] at this
   have h00:(0:UInt8).toNat=0:=rfl
   omega
 have hci:citE s x=0:=by
  unfold citE
  rw[if_pos hmx,if_neg (fun⟨q1,q2⟩=>by
   rcases hr with h | ⟨_,h⟩
   ·exact q1 h
   ·exact h q2)]
 have hE2:Enf s.1 s.2.1 (fun i=>(fun i=>if i=b.toNat then 1 else 0) i+(if i=a.toNat then 1 else 0)+hold x i) V:=hE.same fun i=>by
  show (if i=b.toNat then 1 else 0)+(if i=a.toNat then 1 else 0)+hold x i=cntL (heldI x) i+((if a=(i:Int) then 1 else 0)+((if b=(i:Int) then 1 else 0)+0))
  rw[held_hold hmx i]
  have e1:(if i=a.toNat then 1 else 0)=(if a=(i:Int) then 1 else 0):=by
   by_cases e:i=a.toNat
   ·rw[if_pos e,if_pos (show a=(i:Int) by omega)]
   ·rw[if_neg e,if_neg (show ¬ a=(i:Int) by omega)]
  have e2:(if i=b.toNat then 1 else 0)=(if b=(i:Int) then 1 else 0):=by
   by_cases e:i=b.toNat
   ·rw[if_pos e,if_pos (show b=(i:Int) by omega)]
   ·rw[if_neg e,if_neg (show ¬ b=(i:Int) by omega)]
  omega
 have hS:=(putS_is (P:=fun i=>(if i=b.toNat then 1 else 0)+(if i=a.toNat then 1 else 0)) hx hck hci ha hE2 (hl hck hci)).1
 rw[hS]
 by_cases hp:(insO s a x).1=0
 case neg =>
  obtain⟨g1,g2,_⟩:=ins_err hx hmx (ck_of hck).1 ha hr hE2 (rfl:insO s a x=((insO s a x).1,(insO s a x).2.1,(insO s a x).2.2)) hp
  exact .inl ⟨hp,g1,g2⟩
 obtain⟨M,H⟩:=ins_ok hx (ck_of hck).1 ha hr hE2 (Prod.ext hp rfl:insO s a x=(0,(insO s a x).2.1,(insO s a x).2.2))
 obtain⟨f1,f2,f3,f4,_⟩:=H.other b (ck_of hcb).1 hb (by show 1≤if b.toNat=b.toNat then 1 else 0;rw[if_pos rfl];exact Nat.le_refl _)
 have hn8:=H.place
 refine .inr ⟨hp,(is_check hck H).1,(ck_ok (tree_of f2).2.1 f2).1,H.all,f4,?_,fun W w1 w2 i i1 i2 => ?_⟩
 ·have:=H.writes
  rw[(ck_of hck).2.2]
  exact this
 ·have:=enf_enough H.enf w1 (fun n hn=>(w2 n).1 hn) (fun r hr=>by
   simp only[List.mem_cons,List.not_mem_nil,or_false] at hr
   rcases hr with rfl | rfl
   ·exact⟨H.tree,H.root⟩
   ·exact⟨f2,f1⟩) i
  refine Nat.le_trans (Nat.le_of_eq ?_) this
  show 0+((if (insO s a x).2.2=(i:Int) then 1 else 0)+((if b=(i:Int) then 1 else 0)+0))+sumD (insO s a x).2.1.1 W i=(if i=b.toNat then 1 else 0)+(if i=(insO s a x).2.2.toNat then 1 else 0)+sumD (insO s a x).2.1.1 W i
  have e1:(if i=(insO s a x).2.2.toNat then 1 else 0)=(if (insO s a x).2.2=(i:Int) then 1 else 0):=by
   by_cases e:i=(insO s a x).2.2.toNat
   ·rw[if_pos e,if_pos (show (insO s a x).2.2=(i:Int) by omega)]
   ·rw[if_neg e,if_neg (show ¬ (insO s a x).2.2=(i:Int) by omega)]
  have e2:(if i=b.toNat then 1 else 0)=(if b=(i:Int) then 1 else 0):=by
   by_cases e:i=b.toNat
   ·rw[if_pos e,if_pos (show b=(i:Int) by omega)]
   ·rw[if_neg e,if_neg (show ¬ b=(i:Int) by omega)]
  omega
def PhAll (lo n:Nat) (L:List It) (v:Value) (W:World):Prop:=∃ (u:Option Addr) (c:Nat),v=.slice u n c∧rIts (New lo W) W [.slice u n c] L
theorem PhAll.below {lo n:Nat} {L:List It} {v:Value} {W W':World} (h:PhAll lo n L v W) (hb:Below W.heap.size W W'):PhAll lo n L v W':=by
 obtain⟨u,c,e,h⟩:=h
 exact⟨u,c,e,stab_its.new h (Nat.le_refl _) hb⟩
theorem all_ph (qa qb qc qd:Option Addr×Nat×Nat) {s:Rm} {a:Int} {L:List It} {n:Nat} (hL:raV s a keyZ keyM=L) (hn:L.length=n) (lo:Nat) (w:World) (hlo:lo≤w.heap.size) (h:Sto (Old w) w (.agg #[.slice qa.1 qa.2.1 qa.2.2,.slice qb.1 qb.2.1 qb.2.2,.slice qc.1 qc.2.1 qc.2.2,.slice qd.1 qd.2.1 qd.2.2]) s) :
  Calls Tryz.prog 18 #[.agg #[.slice qa.1 qa.2.1 qa.2.2,.slice qb.1 qb.2.1 qb.2.2,.slice qc.1 qc.2.1 qc.2.2,.slice qd.1 qd.2.1 qd.2.2],.int .i64 a] w fun e w'=>∃ v,e=.returned v∧PhAll lo n L v w'∧Below w.heap.size w w':=by
 refine(allP_any qa qb qc qd s a w h).mono ?_
 rintro e w' ⟨u,c,rfl,h1,hb⟩
 rw[hL,hn] at h1 ⊢
 exact⟨_,rfl,⟨u,c,rfl,stab_its.new (lo':=lo) h1 hlo (Below.refl _ _)⟩,hb⟩
theorem same_ph {lo lo' n m:Nat} {L M:List It} {v u:Value} {b:Bool} {w:World} (hv:PhAll lo n L v w) (hu:PhAll lo' m M u w) (hn:L.length=n) (hm:M.length=m) (hn1:n<1000000) (hm1:m<1000000) (hb:decide (L=M)=b) :
  Calls Tryz.prog 20 #[v,u] w fun e w'=>e=.returned (.bool b)∧Below w.heap.size w w':=by
 obtain⟨A,ca,rfl,h1⟩:=hv
 obtain⟨B,cb,rfl,h2⟩:=hu
 rw[← hb]
 exact sameP_any A n ca B m cb L M hn hm hn1 hm1 w (stab_its.drop h1) (stab_its.drop h2)
theorem same_stay {lo lo' n m c:Nat} {L M:List It} {v:Value} {A:Option Addr} {b:Bool} {w:World} (hv:PhAll lo n L v w) (hu:StayI lo' w A m c M) (hn:L.length=n) (hm:M.length=m) (hn1:n<1000000) (hm1:m<1000000) (hb:decide (L=M)=b) :
  Calls Tryz.prog 20 #[v,.slice A m c] w fun e w'=>e=.returned (.bool b)∧Below w.heap.size w w':=by
 obtain⟨B,ca,rfl,h1⟩:=hv
 rw[← hb]
 exact sameP_any B n ca A m c L M hn hm hn1 hm1 w (stab_its.drop h1) hu.its
def putB (x:It) (L:List It):Bool:=L.any fun y => !lessK y.1 x.1
def wantL (x:It) (L:List It):List It:=if putB x L=true then putL L x else L
theorem putB_snoc (x:It) (L:List It) (y:It):putB x (L++[y])=(putB x L || !lessK y.1 x.1):=by
 unfold putB
 rw[List.any_append]
 simp
theorem putB_no {x:It} {L:List It} (h:putB x L=false):∀ y∈L,lessK y.1 x.1=true:=fun y hy=>by
 unfold putB at h
 have:=List.any_eq_false.1 h y hy
 simpa using this
theorem putL_less {x:It} {L:List It} (h:∀ y∈L,lessK y.1 x.1=true):putL L x=L++[x]:=by
 unfold putL
 rw[filter_all h,List.filter_eq_nil_iff.2 fun y hy=>by rw[less_anti (h y hy)];decide]
theorem want_snoc {x:It} {L:List It} {y:It} (hU:Up (L++[y])):wantL x (L++[y])=(if putB x L=false∧lessK y.1 x.1=false then wantL x L++[x] else wantL x L)++if y.1=x.1 then [] else [y]:=by
 have hlt:∀ z∈L,lessK z.1 y.1=true:=fun z hz=>(List.pairwise_append.1 hU).2.2 z hz y (List.mem_singleton.2 rfl)
 have hput:putL (L++[y]) x=(L.filter fun z=>lessK z.1 x.1)++((if lessK y.1 x.1=true then [y] else [])++x::((L.filter fun z=>lessK x.1 z.1)++if lessK x.1 y.1=true then [y] else [])):=by
  unfold putL
  rw[List.filter_append,List.filter_append,List.filter_cons,List.filter_cons,List.filter_nil,List.filter_nil,List.append_assoc]
 unfold wantL
 rw[putB_snoc]
 cases hb:putB x L with
 | false =>
  have hl:=putB_no hb
  cases hy:lessK y.1 x.1 with
  | true =>
   have hne:y.1≠x.1:=fun e=>by rw[e,less_self] at hy;cases hy
   simp[hne]
  | false =>
   rw[if_pos (by rfl),hput,hy,filter_all hl,List.filter_eq_nil_iff.2 (fun z hz=>by rw[less_anti (hl z hz)];decide)]
   by_cases e:y.1=x.1
   ·rw[if_pos e,e,less_self]
    simp
   ·rw[if_neg e,less_total e hy]
    simp
 | true =>
  have ⟨z,hz,hzx⟩:∃ z∈L,lessK z.1 x.1=false:=by
   unfold putB at hb
   obtain⟨z,hz,h⟩:=List.any_eq_true.1 hb
   exact⟨z,hz,by simpa using h⟩
  have hxy:lessK x.1 y.1=true:=less_le hzx (hlt z hz)
  have hyx:=less_anti hxy
  have hne:¬ y.1=x.1:=fun e=>by rw[e,less_self] at hxy;cases hxy
  rw[if_pos (by rfl),hput,hyx,hxy,if_neg (by simp),if_neg hne]
  simp[putL]
theorem want_end (x:It) (L:List It):(if putB x L=false then wantL x L++[x] else wantL x L)=putL L x:=by
 unfold wantL
 cases hb:putB x L with
 | false=>simp[putL_less (putB_no hb)]
 | true=>simp
theorem wantL_few (x:It) (L:List It):(wantL x L).length≤L.length+1:=by
 unfold wantL
 split
 ·rw[putL_len];omega
 ·omega
end Go.Proofs.YtogieepfimpdmaaGreat
/-
 The document's Marks (layer 11): two rows of the caller's own are turned. Conditions: those that each lemma states.
-/
namespace Go.Proofs.YtogieepfimpdmaaGreat
open Go.RowKit
def Rest (g1 g2:Nat) (w w':World):Prop:=w.heap.size≤w'.heap.size∧∀ k,k<w.heap.size→k≠g1→k≠g2→w'.heap[k]? = w.heap[k]?
theorem rest_refl (g1 g2:Nat) (w:World):Rest g1 g2 w w:=⟨Nat.le_refl _,fun _ _ _ _=>rfl⟩
theorem rest_trans {g1 g2:Nat} {a b c:World} (h:Rest g1 g2 a b) (h':Rest g1 g2 b c):Rest g1 g2 a c :=
 ⟨Nat.le_trans h.1 h'.1,fun k hk h1 h2=>(h'.2 k (Nat.lt_of_lt_of_le hk h.1) h1 h2).trans (h.2 k hk h1 h2)⟩
theorem rest_below {g1 g2:Nat} {w w':World} (h:Below w.heap.size w w'):Rest g1 g2 w w':=⟨h.size,fun k hk _ _=>h.block k hk⟩
theorem rest_put {g1 g2 g:Nat} {w:World} (hg:g=g1∨g=g2) (k:Nat) (v:Value):Rest g1 g2 w (w.setCell ⟨g,k,none⟩ v):=by
 refine⟨by simp[World.setCell],fun j hj h1 h2 => ?_⟩
 have hne:g≠j:=fun e=>by subst e;rcases hg with rfl | rfl <;> contradiction
 simp[World.setCell,Array.getElem?_modify,hne]
theorem rest_cells {g1 g2 g:Nat} {w w':World} {cs:Array Value} {t:TypeId} (h:Rest g1 g2 w w') (hz:w.heap[g]? = some (.cells cs t (0,0))) (h1:g≠g1) (h2:g≠g2):w'.heap[g]? = some (.cells cs t (0,0)):=(h.2 g (Array.getElem?_eq_some_iff.1 hz).1 h1 h2).trans hz
end Go.Proofs.YtogieepfimpdmaaGreat
