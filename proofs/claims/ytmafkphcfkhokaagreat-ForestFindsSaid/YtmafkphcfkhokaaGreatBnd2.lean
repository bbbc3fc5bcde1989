/-
  Lemmas on the program and on the document's answers, gathered: DevWrite, Alive03, Gen03, Cnt, RefWith, RefRead, Push, RefTwin, All03, CntUp, CntAlive, CntPlain, RmPlain, Room, Mrk, RmChk, RmFree, RmTake, Get, SumSeal, RefBlk, Concat, Total02, RingWrite, RingRead, Bag04, Item, ItLess, ItCheck, ItSame, ItWrite, ItRead, Alive05, Bag05, Node, NdCut, NdCut2, NdCheck, NdWrite, NdRead. Conditions: those that each lemma states.
-/
import Derived.Test.YtmafkphcfkhokaaGreatBnd1
import Derived.Deep.RegionHeld3
import Derived.Deep.AppendLies
import Derived.Maps.AppendAt
import Derived.StillTailTactics
import Derived.RangeFuncBox
import Derived.Lib.Hide
import Derived.Lib.AppendZerosOnto
import Derived.Deep.QuietTactic
import Derived.BigQuiet
import Derived.Deep.CutBlock
import Derived.Deep.CutRange
set_option maxRecDepth 100000
set_option maxHeartbeats 16000000
open Array renaming getElem?_eq_some_iff → Qn, getElem?_modify → Qt, replicate_succ → Pp, replicate_zero → Pq
open Bool renaming and_eq_true → Qg, or_eq_true → Qaf
open Go renaming World → Qai, Value → Qaj, Addr → Qak, TypeId → Qal, bodyPost_ret → Qam, heap_alloc_new → Qan, Calls → Qao
open Go.Act renaming put → Qa
open Go.Builtin renaming append_ → Qm, zeroCells → Q5, lenOf → Py, firstCells → Pz
open Go.IntWalk renaming i64_in → Q7
open Go.RowKit renaming Below → Qap
open Go.RowKit.Below renaming refl → Qb
open Go.World renaming cell? → Qi, setCell → Qo, cell?_of_block → Qq, ownsRow_nil → Qs, frozen?_of_block → Q9, frozen? → Ph, news_of_block → Pv, block_lt_of_cell? → Qae
open List renaming getElem?_eq_getElem → Qe, getElem?_eq_some_iff → Qh, take_of_length_le → Qj, all_eq_true → Qk, drop_zero → Qp, getElem?_append_right → Qr, take_add_one → Qu, getElem?_append_left → Qv, length_append → Qw, length_cons → Qx, nil_append → Qy, drop_left' → Q0, take_append_drop → Q3, take_zero → Q8, replicate → Pa, getElem?_of_mem → Pd, mem_iff_getElem → Pe, mem_cons → Pg, append_assoc → Pj, size_toArray → Pk, length_nil → Pm, push_toArray → Pr, append_toArray → Ps, cons_append → Pt, take_left' → Pu, length_replicate → Pw, mem_append → Px, mem_of_getElem? → P5, getElem?_set_ne → P7, mem_cons_self → P8, drop_eq_getElem_cons → Qab, find?_eq_none → Qac, drop_left → Qad, findIdx?_eq_some_iff_getElem → Qag, findIdx?_eq_none_iff → Qah
open Nat renaming le_refl → Qc, lt_of_lt_of_le → Qd, le_trans → Qf, lt_or_ge → Ql, zero_add → Qz, lt_trans → Q6, eq_zero_or_pos → Pf, add_assoc → Pi, reduceAdd → Pn, reduceSub → Po, min_eq_left → Qaa
noncomputable section
namespace Go.Proofs.YtmafkphcfkhokaaGreat
open Go.RowKit
def Zku (d:Dk) (n:Int) (xs:List UInt8):Int:=if Zap d then (if Xl n then (if xs.length=128 then (if d.2.length=4096 then 9 else 0) else 3) else 2) else 8
theorem Z2a {d:Dk}{n:Int}{xs:List UInt8}(h:Vp d n≠0):Zku d n xs=Vp d n:=by{
 unfold Zku Vp at *;split
 ·split
  ·simp_all
  ·rfl
 ·rfl}
theorem Zuz (v u:Qaj) (d:Dk) (n:Int) (xs:List UInt8) (w:Qai) (h:Dsk (Old w) w v d) (hu:rBy (Old w) w [u] xs) (he:Zku d n xs≠0) :
  Qao Tryz.prog 169 #[v,.int .i64 n,u] w fun e w'=>e=.returned (.tuple #[.agg #[.slice none 0 0,.slice none 0 0],.int .i64 (Zku d n xs)])/\Qap w.heap.size w w':=by{
 obtain⟨a,b,rfl,_⟩:=id h;obtain⟨w2,hw2,f1,f2,f3,hsz,hB⟩:=Znc w a b #[.slice none 0 0,.slice none 0 0] 26;have H:=Za (h.below hB);obtain⟨A,c,B,e,e1,_⟩:=h.open;cases e1;obtain⟨E,ce,rfl,_⟩:=Zo hu;clear h hu;replace hsz:=Za hsz;cases hc:Vp d n==0 with
 | false =>
  have hc':Vp d n≠0:=by simpa using hc
  have hw:=Za (Z2a (xs:=xs) hc');obtain⟨q,hq⟩:∃ q,Vp d n=q:=⟨_,rfl⟩
  rw[hw.out,hq];rw[hq] at hc;replace hq:=Za hq;have hc2:(q != 0)=true:=by simpa using hc
  clear he hc'
  go_enter Tryz.func169,Tryz.ntmps169
  go_upto_region 1 with fail
  clear hw2
  go_wp2_with fail
  refine(Vn _ d n _ H.out).mono ?_;rintro e w3 ⟨rfl,hb3⟩;rw[hq.out];have f4:=(hb3.block (w.heap.size+1) (by rw[hsz.out];omega)).trans f3;obtain⟨k1,k2,k3,k4⟩:=Zi f4;obtain⟨W9,hW9,g9,gr9,gs9⟩:=Vq (u:=.slice none 0 0) (v:=.slice none 0 0) f4;obtain⟨k5,k6,_,_⟩:=Zi g9;have hB9:=(hB.trans (hb3.mono hB.size)).grown gr9 (Qf hB.size hb3.size) (fun q e=>by cases e;omega);replace f4:=Za f4;replace f3:=Za f3;replace g9:=Za g9;clear f1 f2
  go_wp2_with fail
  exact Qam (v:=.tuple #[.agg #[.slice none 0 0,.slice none 0 0],.int .i64 q]) (by simp[results,Tryz.results169,go_sem,k5,k6]) rfl ⟨rfl,hB9⟩
 | true =>
  have hc':Vp d n=0:=by simpa using hc
  clear hc;have hmt:Zap d=true/\Xl n=true:=by
   unfold Vp at hc';cases h1:Zap d <;> cases h2:Xl n <;> simp[h1,h2] at hc' ⊢
  replace hc':=Za hc';by_cases h8:xs.length=128
  ·have h9:d.2.length=4096:=by
    unfold Zku at he;simp[hmt,h8] at he;exact he
   have hw:=Za (show Zku d n xs=9 by simp[Zku,hmt,h8,h9]);rw[hw.out];have e8:((xs.length:Int) != 128)=false:=by rw[h8];rfl
   have e9:((d.2.length:Int)==4096)=true:=by rw[h9];rfl
   replace h8:=Za h8;replace h9:=Za h9;clear he hmt
   go_enter Tryz.func169,Tryz.ntmps169
   go_upto_region 1 with fail
   clear hw2
   go_wp2_with fail
   refine(Vn _ d n _ H.out).mono ?_;rintro e w3 ⟨rfl,hb3⟩;rw[hc'.out];have f4:=(hb3.block (w.heap.size+1) (by rw[hsz.out];omega)).trans f3;have g2:=(hb3.cell (p:=⟨w.heap.size,1,none⟩) (by rw[hsz.out];simp)).trans f2;obtain⟨k1,k2,k3,k4⟩:=Zi f4;obtain⟨W9,hW9,g9,gr9,gs9⟩:=Vq (u:=.slice none 0 0) (v:=.slice none 0 0) f4;obtain⟨k5,k6,_,_⟩:=Zi g9;have hB9:=(hB.trans (hb3.mono hB.size)).grown gr9 (Qf hB.size hb3.size) (fun q e=>by cases e;omega);replace f4:=Za f4;replace f3:=Za f3;replace g9:=Za g9;clear f1 f2
   go_wp2_with fail
   exact Qam (v:=.tuple #[.agg #[.slice none 0 0,.slice none 0 0],.int .i64 9]) (by simp[results,Tryz.results169,go_sem,k5,k6]) rfl ⟨rfl,hB9⟩
  ·have hw:=Za (show Zku d n xs=3 by simp[Zku,hmt,h8])
   rw[hw.out];have e8:((xs.length:Int) != 128)=true:=by simp;omega
   clear he hmt h8
   go_enter Tryz.func169,Tryz.ntmps169
   go_upto_region 1 with fail
   clear hw2
   go_wp2_with fail
   refine(Vn _ d n _ H.out).mono ?_;rintro e w3 ⟨rfl,hb3⟩;rw[hc'.out];have f4:=(hb3.block (w.heap.size+1) (by rw[hsz.out];omega)).trans f3;obtain⟨k1,k2,k3,k4⟩:=Zi f4;obtain⟨W9,hW9,g9,gr9,gs9⟩:=Vq (u:=.slice none 0 0) (v:=.slice none 0 0) f4;obtain⟨k5,k6,_,_⟩:=Zi g9;have hB9:=(hB.trans (hb3.mono hB.size)).grown gr9 (Qf hB.size hb3.size) (fun q e=>by cases e;omega);replace f4:=Za f4;replace f3:=Za f3;replace g9:=Za g9;clear f1 f2
   go_wp2_with fail
   exact Qam (v:=.tuple #[.agg #[.slice none 0 0,.slice none 0 0],.int .i64 3]) (by simp[results,Tryz.results169,go_sem,k5,k6]) rfl ⟨rfl,hB9⟩}
theorem Zy1 (v u:Qaj) (d:Dk) (k:Nat) (xs:List UInt8) (w:Qai) (h:Dsk (Old w) w v d) (hu:rBy (Old w) w [u] xs) (hm:Zap d=true) (hk:k<256) (hl:xs.length=128) (hf:d.2.length<4096) :
  Qao Tryz.prog 169 #[v,.int .i64 k,u] w fun e w'=>∃ x,e=.returned (.tuple #[x,.int .i64 0])/\Dsk (New w.heap.size w') w' x (d.1,d.2++[((k:Int),xs)])/\Qap w.heap.size w w':=by{
 obtain⟨i0,hi,hz0,hz1,hz2⟩:=info_parts Zl7;obtain⟨a,b,rfl,_⟩:=id h;obtain⟨w2,hw2,f1,f2,f3,hsz,hB⟩:=Znc w a b #[.slice none 0 0,.slice none 0 0] 26;have H:=Za (h.below hB);obtain⟨A,c,B,e,e1,_⟩:=h.open;cases e1;have hu2:=Zf.old hu hB;obtain⟨E,ce,rfl,_⟩:=Zo hu;clear h hu;replace hsz:=Za hsz;have hc:=Za (Zi4 hm (Zdo hk));have hsm:=Za (Ze0 hm);have e8:((xs.length:Int) != 128)=false:=by rw[hl];rfl
 have e9:((d.2.length:Int)==4096)=false:=by simp;omega
 replace hm:=Za hm;replace hl:=Za hl
 go_enter Tryz.func169,Tryz.ntmps169
 go_upto_region 1 with fail
 clear hw2
 go_wp2_with fail
 refine(Vn _ d k _ H.out).mono ?_;rintro e w3 ⟨rfl,hb3⟩;rw[hc.out];have f4:=(hb3.block (w.heap.size+1) (by rw[hsz.out];omega)).trans f3;have g1:=(hb3.cell (p:=⟨w.heap.size,0,none⟩) (by rw[hsz.out];simp)).trans f1;have g2:=(hb3.cell (p:=⟨w.heap.size,1,none⟩) (by rw[hsz.out];simp)).trans f2;have H3:=Za (H.out.below hb3);have hu3:=Zf.old hu2 hb3;have hB3:=hB.trans (hb3.mono hB.size);have hl3:w.heap.size+2<=w3.heap.size:=by have:=hsz.out;have:=hb3.size;omega
 replace f4:=Za f4;clear f1 f2 f3 hu2 H hB hb3
 go_wp2_with fail
 refine(Zqv _ d _ hsm.out H3.out).mono ?_;rintro e w4 ⟨x,rfl,⟨a4,A4,c4,ps,rfl,hx1,hx2,hx3,hx4⟩,hb4⟩;obtain⟨R4,r4,er,_⟩:=Zad hx1;cases er;have hu4:=Zf.old hu3 hb4;have f5:=(hb4.block (w.heap.size+1) (by omega)).trans f4.out;have hB4:=hB3.trans (hb4.mono hB3.size);have hl4:w.heap.size+2<=w4.heap.size:=Qf hl3 hb4.size;obtain⟨wb,hwb,b1,b3,hbb⟩:=Yd w4 (.slice R4 d.1.length r4) (.slice A4 d.2.length c4) 26;have hu5:=Zf.old hu4 hbb;have hA4:Hid (∀ q,A4.map (·.block)=some q->q<w4.heap.size/\w3.heap.size<=q):=Za fun q e=>by
  have:=hx2.lt q (by rw[hx3];exact e);exact⟨this.2,this.1⟩
 have hownb:wb.drew.ownsRow w3.heap.size 98 2 (.slice A4 d.2.length c4) d.2.length (Xr ps):=Zy hx2 hbb.drew;have f6:=(hbb.block (w.heap.size+1) (by omega)).trans f5;obtain⟨_,s1,s2,s3⟩:=Zi b1;have hB5:=hB4.trans (hbb.mono hB4.size);replace b1:=Za b1;replace hownb:=Za hownb;replace f5:=Za f5;replace f6:=Za f6;replace hx1:=Za hx1;replace hx2:=Za hx2;replace hx4:=Za hx4;replace hx3:=Za hx3;replace b3:=Za b3;have hub:Hid (rBy (Old wb) wb [.slice E xs.length ce] xs):=Za hu5;clear hu3 hu4 hu5;have hd2:d.2.length<4096:=hf
 go_upto_region 9 with fail
 clear hwb;have p1:xs.length<=140737488355328:=by rw[hl.out];omega
 refine Zb1 (by kernel_rfl) 7 (fun W=>Qap wb.heap.size wb W) (fun i=>match i with
   | 4=>some (fun v W=>rBy (New wb.heap.size W) W [v] xs)
   | 5=>some (fun v W=>∃ Y cy,v=.agg #[.int .i64 (k:Int),.slice Y xs.length cy]/\rBy (New wb.heap.size W) W [.slice Y xs.length cy] xs)
   | 6=>some (fun v W=>∃ g Y cy,v=.slice (some ⟨g,0,none⟩) 1 1/\wb.heap.size<=g/\W.heap[g]? = some (.cells #[.int .i64 (k:Int),.slice Y xs.length cy] 98 (0,0))/\rBy (New wb.heap.size W) W [.slice Y xs.length cy] xs)
   | _=>none) (fun _=>none) (by decide) (by kernel_rfl) (by kernel_rfl) (Qb _ _).drew (fun w w' h hb=>h.trans (hb.mono h.size)) ?tst ?_
 case tst =>
  intro j φ x W W' hp hx hb
  match j,hp with
  | 4,hp=>cases hp;exact Zf.new hx (Qc _) hb
  | 5,hp =>
   cases hp;obtain⟨Y,cy,e1,e2⟩:=hx;exact⟨Y,cy,e1,Zf.new e2 (Qc _) hb⟩
  | 6,hp =>
   cases hp;obtain⟨g,Y,cy,e1,e2,e3,e4⟩:=hx;exact⟨g,Y,cy,e1,e2,(hb.block g (Qn.1 e3).1).trans e3,Zf.new e4 (Qc _) hb⟩
 simp only[List.take_succ_cons,Q8,List.drop_succ_cons,Qp]
 repeat (first
  | (refine wpAs_skip rfl ?_;simp only[Qa,Zb,Zc,Zd])
  | (refine wpAs_pure (v := ?_) rfl rfl ?_ ?_;rotate_left;(intro W hC hE;clear hE;(have z1:=(hC.cell (p:=⟨w4.heap.size,1,none⟩) s3).trans s1);clear hC;go_simp;first | done | with_reducible rfl);simp only[Qa,Zb,Zc,Zd]))
 refine wpAs_act rfl rfl ?_ ?_
 ·intro W hC hE
  clear hE;refine does_enter (f:=97) (args:=#[.slice E xs.length ce]) ?_ ?_
  ·go_simp
  ·refine(Zaj _ xs W p1 (Zf.old hub.out hC)).mono ?_
   rintro e W' ⟨u,rfl,ho,hb⟩;exact⟨_,rfl,Zf.mono ho hC.size,hb⟩
 simp only[Qa,Zb,Zc,Zd,envAdd];intro x32;refine wpAs_act rfl rfl ?_ ?_
 ·intro W hC hE
  have h32:=hE.1 rfl;obtain⟨Y,cy,rfl,_⟩:=Zo h32;clear hE hC;have h32':=Za h32;clear h32
  go_simp
  exact⟨⟨Y,cy,rfl,h32'.out⟩,Qb _ _⟩
 simp only[Qa,Zb,Zc,Zd,envAdd];intro x33;refine wpAs_act rfl rfl ?_ ?_
 ·intro W hC hE
  obtain⟨Y,cy,rfl,h33⟩:=hE.1 rfl;have hsz':=hC.size;have h33':=Za (Zf.new h33 (Qc _) ((Qb W.heap.size W).alloc (Qc _) (.cells #[.int .i64 (k:Int),.slice Y xs.length cy] 98)));clear hE hC h33
  go_simp
  exact⟨⟨W.heap.size,rfl,hsz',Y,cy,Qan _ _,h33'.out⟩,(Qb _ _).alloc (Qc _) _⟩
 simp only[Qa,Zb,Zc,Zd,envAdd];intro x34;refine wpAs_end fun W hC hE=> ?_
 obtain⟨⟨g,Y,cy,rfl,hg,hg3,hy⟩,_⟩:=hE;have hownW:=Zy hx2.out (hbb.trans (hC.mono hbb.size));have hbkW:=(hC.block w4.heap.size s3).trans b1.out;obtain⟨_,z1,z2,z3⟩:=Zi hbkW;obtain⟨y1,y2,_,y4⟩:=Zi hg3;have hBW:=hB5.trans (hC.mono hB5.size);have hlW:w3.heap.size<=W.heap.size:=Qf hb4.size (by have:=b3.out;omega);have p2:d.2.length+1<=maxLen:=by unfold maxLen;omega
 have p3:(d.2.length+1)*32<=140737488355328:=by omega
 have hlc:=hy;replace hbkW:=Za hbkW;replace hg3:=Za hg3;replace hlc:=Za hlc;clear hy
 go_wp2_with (at_builtin;refine wpList_append_own _ rfl _ _ 24 rfl w3.heap.size 98 i0 (.agg #[.int .i64 0,.slice none 0 0]) 2 32 Tryz.underlying24 hi hz0 hz1 hz2 rfl (by decide) _ _ _ rfl hownW ⟨g,0,none⟩ 1 1 [.int .i64 (k:Int),.slice Y xs.length cy] rfl rfl ?d1 ?d2 p2 p3 hlW ?_)
 case d1=>exact Pv (cs:=#[.int .i64 (k:Int),.slice Y xs.length cy]) hg3.out
 case d2 =>
  intro u hu;simp at hu;rcases hu with rfl | rfl <;> rfl
 intro v' w1 hown' hgrow _;obtain⟨A5,c5,rfl,q1,q2,q3,q4⟩:=Yo hown';have p8:some w4.heap.size≠(Value.slice A4 d.2.length c4).ownBlock:=by rw[hx3.out];exact fun e=>absurd (hA4.out _ e.symm).1 (Nat.lt_irrefl _)
 have zz:=(hgrow.block w4.heap.size z3 p8).trans hbkW.out;obtain⟨y5,y6,y7,y8⟩:=Zi zz;obtain⟨W6,hW6,g6,gr6,gs6⟩:=Z2u (u:=.slice A5 (d.2.length+1) c5) zz;obtain⟨y9,y10,_,_⟩:=Zi g6;have hrow:∀ q,(Value.slice A4 d.2.length c4).ownBlock=some q->w3.heap.size<=q:=fun q e=>(hA4.out q (by rw[<- hx3.out];exact e)).2
 have hl3':w.heap.size+2<=w3.heap.size:=hl3;have fz:=((gr6.block (w.heap.size+1) (by have:=hgrow.size;omega) (fun e=>by simp only[Option.some.injEq] at e;omega)).trans ((hgrow.block (w.heap.size+1) (by omega) (fun e=>by have:=hrow _ e.symm;omega)).trans ((hC.block (w.heap.size+1) (by have:=b3.out;omega)).trans f6.out)))
 obtain⟨y11,y12,y13,_⟩:=Zi fz;obtain⟨W9,hW9,g9,gr9,gs9⟩:=Vq (u:=.slice R4 d.1.length r4) (v:=.slice A5 (d.2.length+1) c5) fz;obtain⟨k5,k6,_,_⟩:=Zi g9;have hB1:=hBW.grown hgrow hBW.size (fun q e=>by have:=hrow q e;omega);have hB6:=hB1.grown gr6 hB1.size (fun q e=>by cases e;omega);have hB9:=hB6.grown gr9 hB6.size (fun q e=>by cases e;omega)
 have hfin:=Za (show Dsk (New w.heap.size W9) W9 (.agg #[.slice R4 d.1.length r4,.slice A5 (d.2.length+1) c5]) (d.1,d.2++[((k:Int),xs)]) from by
  have hne1:=Zbe hown' zz (by decide);have hown6:=hown'.kept gr6 (.inr (Ne.symm hne1));have hne2:=Zbe hown6 fz (by decide);have hown9:=Zao (hown6.kept gr9 (.inr (Ne.symm hne2))) (show w.heap.size<=w3.heap.size by omega);have hsame:∀ b,w3.heap.size<=b->b<w4.heap.size->A4.map (·.block)≠some b->W9.heap[b]? = w4.heap[b]? := fun b h1 h2 h3=>by
   have hbW:b<W.heap.size:=by have:=b3.out;have:=hC.size;omega
   rw[gr9.block b (by have:=gs6;have:=hgrow.size;omega) (fun e=>by simp only[Option.some.injEq] at e;omega),gr6.block b (Qd hbW hgrow.size) (fun e=>by simp only[Option.some.injEq] at e;omega),
    hgrow.block b hbW (fun e=>h3 (by rw[<- hx3.out];exact e.symm)),hC.block b (by have:=b3.out;omega),hbb.block b h2]
  have hst9:∀ p v,X6 w3.heap.size A4 w4 p->w4.cell? p=some v->New w.heap.size W9 p/\W9.cell? p=some v:=fun p v hp hc=>by
   have hs:=hsame p.block hp.1.1 hp.1.2.1 hp.2;refine⟨⟨by have:=hp.1.1;omega,?_,(Q9 hs).trans hp.1.2.2⟩,(Qq hs).trans hc⟩;have:=hp.1.2.1;have:=gs9;have:=gs6;have:=hgrow.size;have:=hC.size;have:=b3.out;omega
  refine⟨_,_,rfl,Zv Zf _ _ _ _ _ _ hst9 hx1.out,?_⟩;have e1:Xr ps++[.int .i64 (k:Int),.slice Y xs.length cy]=Xr (ps++[((k:Int),.slice Y xs.length cy)]):=by rw[Zkl];rfl
  rw[e1] at hown9;have hpl:ps.length=d.2.length:=by have:=hx2.out.1;rw[Vf] at this;omega
  have hlen9:(d.2++[((k:Int),xs)]).length=d.2.length+1:=by simp
  have h9:=Zu4 hown9 hlen9 fun i p x hp hx=> ?_
  ·exact h9
  rcases Ql i ps.length with hi | hi
  ·rw[Qv hi] at hp
   rw[Qv (by omega)] at hx;obtain⟨c1,c2,c3⟩:=hx4.out i p x hp hx;exact⟨c1,Zf _ _ _ _ _ _ hst9 c2,c3⟩
  ·rw[Qr hi] at hp
   rw[Qr (by omega)] at hx;have hj0:i-ps.length=0:=by
    have:=(Qh.1 hp).1;simp at this;omega
   rw[hj0] at hp;rw[<- hpl,hj0] at hx;simp at hp hx;subst hp;subst hx;refine⟨rfl,Zf.mono (Zf.grown (Zf.grown (Zf.grown hlc.out hgrow (fun q e=> ?_)) gr6 (fun q e=> ?_)) gr9 (fun q e=> ?_)) (by have:=b3.out;omega),(show (-9223372036854775808:Int)<=(k:Int) by omega),(show (k:Int)<=9223372036854775807 by omega)⟩
   ·have:=(hA4.out q (by rw[<- hx3.out];exact e)).1
    have:=b3.out;omega
   ·simp only[Option.some.injEq] at e
    have:=b3.out;omega
   ·simp only[Option.some.injEq] at e
    have:=b3.out
    omega)
 clear hx1 hx2 hx4
 go_wp2_with fail
 exact Qam (v:=.tuple #[.agg #[.slice R4 d.1.length r4,.slice A5 (d.2.length+1) c5],.int .i64 0]) (by simp[results,Tryz.results169,go_sem,k5,k6]) rfl ⟨_,rfl,hfin.out,hB9⟩}
theorem Zk4:Za8.1.length=256:=Pw
theorem Zmr:Za8.2.length=0:=rfl
theorem Z3e {k:Nat}(hk:k<256):Za8.1[k]? = some (Pa 128 0):=by
 rw[show Za8.1=Pa 256 (Pa 128 0) from rfl,List.getElem?_replicate,if_pos hk]
theorem Zzg:Zap Za8=true:=by
 refine Zw8 Zk4 (by rw[Zmr];omega) ?_ rfl;rw[Qk];intro x hx;obtain⟨j,hj⟩:=Pd hx;have hjl:=(Qh.1 hj).1;rw[Zk4] at hjl;rw[Z3e hjl] at hj;cases hj;exact decide_eq_true Pw
def wrD (d:Dk) (k:Nat) (xs:List UInt8):Dk:=(d.1,d.2++[((k:Int),xs)])
theorem Zn8 (d:Dk) (k:Nat) (xs:List UInt8):(wrD d k xs).2.length=d.2.length+1:=by simp[wrD]
theorem Zu2 {d:Dk}{k:Nat}{xs:List UInt8}(h:Zap d=true) (hk:k<256) (hl:xs.length=128) (hf:d.2.length<4096):Zap (wrD d k xs)=true:=by{
 obtain⟨h1,h2,h3,h4⟩:=Zg0 h;refine Zw8 h1 (by rw[Zn8];omega) ?_ ?_
 ·rw[Qk]
  intro x hx;obtain⟨j,hj⟩:=Pd hx;exact decide_eq_true (h3 j x hj)
 ·rw[Qk]
  intro x hx;rcases Px.1 hx with hx | hx
  ·obtain⟨j,hj⟩:=Pd hx
   obtain⟨a,b,c⟩:=h4 j x hj;exact Zwh a b c
  ·obtain rfl:=List.mem_singleton.1 hx
   exact Zwh (show (0:Int)<=(k:Int) by omega) (show (k:Int)<256 by omega) hl}
theorem U9 {d:Dk}{k:Nat}{xs:List UInt8}:Ya (wrD d k xs) k=xs:=by
 simp[wrD,Ya,Zdm]
theorem X2 {d:Dk}{k j:Nat}{xs:List UInt8}(h:j≠k):Ya (wrD d k xs) j=Ya d j:=by
 have:¬ (k:Int)=j:=by omega
 simp[wrD,Ya,Zdm,this]
theorem Zzn (v u:Qaj) (d:Dk) (k:Nat) (xs:List UInt8) (w:Qai) (h:Dsk (Old w) w v d) (hu:rBy (Old w) w [u] xs) (hm:Zap d=true) (hk:k<256) (hl:xs.length=128) (hf:d.2.length<4096) :
  Qao Tryz.prog 169 #[v,.int .i64 k,u] w fun e w'=>∃ x,e=.returned (.tuple #[x,.int .i64 0])/\Dsk (New w.heap.size w') w' x (wrD d k xs)/\Qap w.heap.size w w':=Zy1 v u d k xs w h hu hm hk hl hf
def Zbn:Dk:=([],[])
theorem Z51 (w:Qai):rBy (Old w) w [.slice none 0 0] []:=⟨none,0,rfl,by simp,by omega,fun i x h=>by simp at h⟩
def wrR (d:Dk) (n:Int) (xs:List UInt8):Dk:=if Zku d n xs=0 then wrD d n.toNat xs else Zbn
theorem Zsn {d:Dk}{n:Int}{xs:List UInt8}(h:Zku d n xs=0) (_:Zap d=true\/True):Zap d=true/\Xl n=true/\xs.length=128/\d.2.length<4096:=by{
 unfold Zku at h;cases h1:Zap d with
 | false=>rw[h1] at h;simp at h
 | true =>
  obtain⟨_,h2,_⟩:=Zg0 h1;rw[h1] at h;cases ht:Xl n with
  | false=>rw[ht] at h;simp at h
  | true =>
   rw[ht] at h;by_cases h8:xs.length=128
   ·by_cases h9:d.2.length=4096
    ·simp[h8,h9] at h
    ·exact⟨rfl,rfl,h8,by omega⟩
   ·simp[h8] at h}
theorem Dsk.grown {w w':Qai}{lo:Nat}{v:Qaj}{d:Dk}{row:Option Nat}(h:Dsk (New lo w) w v d) (hg:w.grownBy w' row) (hr:∀ q,row=some q->q<lo):Dsk (New lo w') w' v d:=by
 obtain⟨a,b,e,h1,h2⟩:=h;exact⟨a,b,e,(Zv Zf).grown h1 hg hr,(Zv Zvp).grown h2 hg hr⟩
theorem Zj1 (lo:Nat) (w:Qai):Dsk (New lo w) w (.agg #[.slice none 0 0,.slice none 0 0]) Zbn :=
 ⟨_,_,rfl,⟨none,0,rfl,by simp[Zbn],by omega,fun i x h=>by simp[Zbn] at h⟩,⟨none,0,rfl,by simp[Zbn],by omega,fun i x h=>by simp[Zbn] at h⟩⟩
theorem Zm3 (v u:Qaj) (d:Dk) (n:Int) (xs:List UInt8) (w:Qai) (h:Dsk (Old w) w v d) (hu:rBy (Old w) w [u] xs) :
  Qao Tryz.prog 169 #[v,.int .i64 n,u] w fun e w'=>∃ A c B f,e=.returned (.tuple #[.agg #[.slice A (wrR d n xs).1.length c,.slice B (wrR d n xs).2.length f],.int .i64 (Zku d n xs)])/\Dsk (New w.heap.size w') w' (.agg #[.slice A (wrR d n xs).1.length c,.slice B (wrR d n xs).2.length f]) (wrR d n xs)/\Qap w.heap.size w w':=by{
 by_cases he:Zku d n xs=0
 ·obtain⟨hm,ht,h8,h9⟩:=Zsn he (.inr trivial)
  obtain⟨k,rfl,hk⟩:=Ziq ht;refine(Zzn v u d k xs w h hu hm hk h8 h9).mono ?_;rintro e w' ⟨x,rfl,hx,hb⟩;have e1:wrR d (k:Int) xs=wrD d k xs:=by simp[wrR,he]
  obtain⟨A,c,B,f,rfl,_⟩:=id hx.open;rw[e1,he];exact⟨A,c,B,f,rfl,hx,hb⟩
 ·refine(Zuz v u d n xs w h hu he).mono ?_
  rintro e w' ⟨rfl,hb⟩;have e1:wrR d n xs=Zbn:=by simp[wrR,he]
  rw[e1];exact⟨none,0,none,0,rfl,Zj1 _ _,hb⟩}
theorem Z3x {d:Dk}{k:Nat}{xs:List UInt8}(h:Zku d (k:Int) xs=0):wrR d (k:Int) xs=wrD d k xs:=by simp[wrR,h]
def Za9 (t:List UInt8):Bool:=decide (t.length=256)&&(t.take 8).all (· == 0)
def Zzs (t:List UInt8):Int:=if Za9 t then 0 else 8
theorem Zg9 {t:List UInt8}(h:Za9 t=true):Zzs t=0:=by simp[Zzs,h]
theorem Zfl {t:List UInt8}(h:Za9 t=false):Zzs t=8:=by simp[Zzs,h]
theorem Yi {t:List UInt8}(h:Za9 t=true):t.length=256:=by
 simp only[Za9,Qg,decide_eq_true_eq] at h;exact h.1
theorem Zsk {t:List UInt8}(h:t.length≠256):Za9 t=false:=by simp[Za9,h]
theorem Zfg {t:List UInt8}(h:t.length=256) (ha:∀ j,j<8->t[j]?.getD 0=0):Za9 t=true:=by
 simp only[Za9,Qg,decide_eq_true_eq,Qk];refine⟨h,fun x hx=> ?_⟩;obtain⟨j,hj,rfl⟩:=Pe.1 hx;have hj8:j<8:=by simp at hj;omega
 have:=ha j hj8;rw[Qe (by omega)] at this
 simpa using this
theorem Zji {t:List UInt8}(h:Za9 t=true){j:Nat}(hj:j<8):t[j]?.getD 0=0:=by
 have hl:=Yi h;simp only[Za9,Qg,Qk] at h;have:=h.2 (t[j]'(by omega)) (Pe.2 ⟨j,by simp;omega,by simp⟩);rw[Qe (by omega)]
 simpa using this
theorem Z3a {t:List UInt8}{k:Nat}(hk:k<8) (h:t[k]?.getD 0≠0):Za9 t=false:=by
 cases hm:Za9 t with
 | false=>rfl
 | true=>exact absurd (Zji hm hk) h
theorem Z1e {x:UInt8}(h:¬ (x.toNat:Int)=0):x≠0:=fun e=>h (by rw[e];rfl)
theorem Z2l {x:UInt8}(h:(x.toNat:Int)=0):x=0:=UInt8.toNat.inj (by simpa using h)
theorem Zoq {b:List UInt8}{k:Nat}(ha:∀ j,j<k->b[j]?.getD 0=0) (h:b[k]?.getD 0=0):∀ j,j<k+1->b[j]?.getD 0=0:=fun j hj=>by
 rcases Ql j k with h1 | h1
 ·exact ha j h1
 ·obtain rfl:j=k:=by omega
  exact h
theorem Un (A:Option Qak) (n c:Nat) (t:List UInt8) (hn:Hid (t.length=n)) (l1:n<=c) (m1:c<=9223372036854775807) (w:Qai) (h:Byt w w.heap.size A t) :
  Qao Tryz.prog 153 #[.slice A n c] w fun e w'=>e=.returned (.int .i64 (Zzs t))/\w=w':=by{
 have HY:=Za h;clear h;by_cases h256:n=256
 ·obtain⟨ad,rfl,_,hc⟩:=HY.out (by rw[hn.out];omega)
  subst h256;replace hc:=Za hc
  go_enter Tryz.func153,Tryz.ntmps153
  go_wp2_with fail
  go_loop [11] (fun i=>∃ k:Nat,k<=8/\i=.int .i64 k/\∀ j,j<k->t[j]?.getD 0=0) (fun i=>8-(intOf i).toNat)
  case atStart=>exact⟨0,by omega,rfl,fun j hj=>by omega⟩
  case round =>
   obtain⟨k,hk,rfl,ha⟩:=hrel;replace ha:=Za ha;by_cases hlt:k<8
   ·have hcell:=hc.out k (by rw[hn.out];omega)
    have hyes:=Za (fun h=>Z3a (t:=t) hlt h);have hno:=Za (fun h=>Zoq (b:=t) (k:=k) ha.out h);obtain⟨x,hx⟩:∃ x,t[k]?.getD 0=x:=⟨_,rfl⟩
    rw[hx] at hcell hyes hno;replace hx:=Za hx;by_cases h0:(x.toNat:Int)=0
    ·have t0:((x.toNat:Int) != 0)=false:=by simpa using h0
     have hall:=Za (hno.out (Z2l h0));replace h0:=Za h0
     go_wp2_with fail
     go_round
     case rel=>exact⟨k+1,by omega,by go_num,hall.out⟩
     case measure=>simp[intOf];omega
    ·have t0:((x.toNat:Int) != 0)=true:=by simpa using h0
     have hr:=Za (Zfl (hyes.out (Z1e h0)));replace h0:=Za h0
     go_wp2_with fail
     go_ret;exact⟨Zw hr.out.symm,rfl⟩
   ·have hr:=Za (Zg9 (Zfg (t:=t) hn.out fun j hj=>ha.out j (by omega)))
    go_wp2_with fail
    go_ret;exact⟨Zw hr.out.symm,rfl⟩
 ·have hr:=Za (Zfl (Zsk (t:=t) (by rw[hn.out];exact h256)))
  have i1:((n:Int) != 256)=true:=by simp;omega
  go_enter Tryz.func153,Tryz.ntmps153
  go_wp2_with fail
  go_ret;exact⟨Zw hr.out.symm,rfl⟩}
theorem Zl4:Za9 (Yj 256)=true:=by decide +kernel
theorem Zrj (w:Qai):Qao Tryz.prog 56 #[] w fun e w'=>e=.returned (.slice (some ⟨w.heap.size,0,none⟩) 256 256)/\w'=w.alloc (.cells (Zkt (Yj 256)) 5):=by{
 have hmk:(Instr.makeSlice 27 (.int .i64 256) (.int .i64 256)).run Tryz.prog w=.ok (.slice (some ⟨w.heap.size,0,none⟩) 256 256) (w.alloc (.cells (Zkt (Yj 256)) 5)):=Zei 256 (by omega) w
 go_enter Tryz.func56,Tryz.ntmps56
 go_wp2
 go_ret;exact⟨rfl,rfl⟩}
theorem Zt1 {P:Program}{w:Qai}(base:Nat) (t ty e:Qal) (i:TypeInfo) (z:Qaj) (size bytes:Nat) (ht:P.underlying t=some (.slice e)) (hi:P.info? e=some i) (hz:i.zero=some z)
  (hsize:i.size=size) (hby:i.bytes=bytes) (hzs:z.cells.size=size) (hsz:0<size)
  (v:Qaj) (n:Nat) (xs:List Qaj) (hown:w.ownsRow base e size v n xs)
  (A:Option Qak) (m c:Nat) (news:List Qaj) (hl:news.length=m*size) (hnews:∀ j u,news[j]? = some u->∃ ad,A=some ad/\w.cell? (ad.add j)=some u) (h1:∀ u∈news,u.oneCell'=true)
  (h63:n+m<=maxLen) (hbytes:(n+m)*bytes<=140737488355328) (hbase:base<=w.heap.size) :
  ∃ v' w',(Qm #[t,t] ty #[v,.slice A m c]).run P w=.ok v' w'/\w'.ownsRow base e size v' (n+m) (xs++news)/\w.grownBy w' v.ownBlock/\Qap base w w':=by{
 rcases A with _ | ad
 ·have hx:news=[]:=by
   cases news with
   | nil=>rfl
   | cons a r =>
    obtain⟨_,e,_⟩:=hnews 0 a rfl;cases e
  subst hx;obtain rfl:m=0:=by
   rcases Pf m with h | h
   ·exact h
   ·have:=Nat.mul_pos h hsz
    simp at hl;omega
  refine⟨v,w,?_,by simpa using hown,Ye _ _,Qb _ _⟩;rcases hown.2 with ⟨rfl,rfl⟩ | ⟨g,cap,cur,rfl,_,_,hnc,_⟩
  ·simp[Qm,run_underlying ht,sizeOf,typeInfo,hi,Py,Pz]
  ·simp[Qm,run_underlying ht,sizeOf,typeInfo,hi,Py,Pz,hnc,storeCells]
 ·obtain⟨v',w',hr,h2,h3,_,_⟩:=run_append_own_at (P:=P) w base t ty e i z size bytes ht hi hz hsize hby hzs hsz v n xs hown ad m c news hl (fun j u hj=>by
   obtain⟨_,e,h⟩:=hnews j u hj;cases e
   exact h) h1 h63 hbytes hbase
  exact⟨v',w',hr,h2,h3,(Qb base w).grown h3 hbase (fun k hk=>(hown.lt k hk).1)⟩}
def rdX (d:Dk) (n:Int):List UInt8:=if Vp d n=0 then Ya d n.toNat else []
theorem Zgy {P:Program}{w:Qai}(base:Nat) (t ty e:Qal) (i:TypeInfo) (z:Qaj) (size bytes:Nat) (ht:P.underlying t=some (.slice e)) (hi:P.info? e=some i) (hz:i.zero=some z)
  (hsize:i.size=size) (hby:i.bytes=bytes) (hzs:z.cells.size=size) (hsz:0<size)
  (v:Qaj) (n:Nat) (xs:List Qaj) (hown:w.ownsRow base e size v n xs)
  (ad:Qak) (m c:Nat) (news:List Qaj) (hl:news.length=m*size) (hnews:∀ j u,news[j]? = some u->w.cell? (ad.add j)=some u) (h1:∀ u∈news,u.oneCell'=true)
  (h63:n+m<=maxLen) (hbytes:(n+m)*bytes<=140737488355328) (hbase:base<=w.heap.size) :
  ∃ v' w',(Qm #[t,t] ty #[v,.slice (some ad) m c]).run P w=.ok v' w'/\w'.ownsRow base e size v' (n+m) (xs++news)/\w.grownBy w' v.ownBlock/\Qap base w w'/\(v'.ownBlock=v.ownBlock\/v'.ownBlock=some w.heap.size):=by
 obtain⟨v',w',hr,h2,h3,_,h5⟩:=run_append_own_at (P:=P) w base t ty e i z size bytes ht hi hz hsize hby hzs hsz v n xs hown ad m c news hl hnews h1 h63 hbytes hbase;exact⟨v',w',hr,h2,h3,(Qb base w).grown h3 hbase (fun k hk=>(hown.lt k hk).1),h5⟩
theorem X6.below {lo:Nat}{A:Option Qak}{w w':Qai}{p:Qak}{v:Qaj}(hb:Qap w.heap.size w w') (hp:X6 lo A w p) (hc:w.cell? p=some v):X6 lo A w' p/\w'.cell? p=some v :=
 ⟨⟨⟨hp.1.1,Qd hp.1.2.1 hb.size,(hb.frozen hp.1.2.1).trans hp.1.2.2⟩,hp.2⟩,(hb.cell hp.1.2.1).trans hc⟩
theorem X6.grown {lo:Nat}{A:Option Qak}{w w':Qai}{p:Qak}{v:Qaj}{row:Option Nat}(hg:w.grownBy w' row) (hr:∀ q,row=some q->q<lo) (hp:X6 lo A w p) (hc:w.cell? p=some v):X6 lo A w' p/\w'.cell? p=some v:=by
 have hb:=hg.block p.block hp.1.2.1 (fun e=>by have:=hr _ e.symm;have:=hp.1.1;omega);exact⟨⟨⟨hp.1.1,Qd hp.1.2.1 hg.size,(Q9 hb).trans hp.1.2.2⟩,hp.2⟩,(Qq hb).trans hc⟩
def Yp {α:Type}(R:Rel α) (size:Nat) (t:Qal) (lo:Nat) (w:Qai) (A:Option Qak) (c:Nat) (xs:List α):Prop :=
 ∃ cs,w.ownsRow lo t size (.slice A xs.length c) xs.length cs/\∀ i x,xs[i]? = some x->∃ vs,vs.length=size/\(∀ j u,vs[j]? = some u->cs[i*size+j]? = some u)/\R (X6 lo A w) w vs x
section
variable {α : Type}{R : Rel α}{size : Nat}{t : Qal}{lo : Nat}{w w' : Qai}{A : Option Qak}{c : Nat}{xs : List α}
theorem Yp.nil (R:Rel α) (size:Nat) (t:Qal) (lo:Nat) (w:Qai):Yp R size t lo w none 0 []:=⟨[],Qs _ _ _ _,fun i x h=>by simp at h⟩
theorem Yp.below (hR:Zde R) (h:Yp R size t lo w A c xs) (hb:Qap w.heap.size w w'):Yp R size t lo w' A c xs:=by
 obtain⟨cs,h1,h2⟩:=h;refine⟨cs,Zy h1 hb,fun i x hi=> ?_⟩;obtain⟨vs,e1,e2,e3⟩:=h2 i x hi;exact⟨vs,e1,e2,hR _ _ _ _ _ _ (fun p v hp hc=>X6.below hb hp hc) e3⟩
theorem Yp.grown (hR:Zde R) (h:Yp R size t lo w A c xs){row:Option Nat}(hg:w.grownBy w' row) (hr:∀ q,row=some q->q<lo):Yp R size t lo w' A c xs:=by{
 obtain⟨cs,h1,h2⟩:=h;have hk:(Value.slice A xs.length c).ownBlock=none\/(Value.slice A xs.length c).ownBlock≠row:=by
  rcases row with _ | q
  ·by_cases e:(Value.slice A xs.length c).ownBlock=none
   ·exact .inl e
   ·exact .inr e
  ·refine .inr fun e=> ?_
   have:=(h1.lt q e).1;have:=hr q rfl;omega
 have h1':w'.ownsRow lo t size (.slice A xs.length c) xs.length cs:=h1.kept hg hk;refine⟨cs,h1',fun i x hi=> ?_⟩;obtain⟨vs,e1,e2,e3⟩:=h2 i x hi;exact⟨vs,e1,e2,hR _ _ _ _ _ _ (fun p v hp hc=>X6.grown hg hr hp hc) e3⟩}
theorem Yp.low (hR:Zde R) (h:Yp R size t lo w A c xs){lo':Nat}(hl:lo'<=lo):Yp R size t lo' w A c xs:=by
 obtain⟨cs,h1,h2⟩:=h;refine⟨cs,Zao h1 hl,fun i x hi=> ?_⟩;obtain⟨vs,e1,e2,e3⟩:=h2 i x hi;exact⟨vs,e1,e2,hR _ _ _ _ _ _ (fun p v hp hc=>⟨⟨⟨Qf hl hp.1.1,hp.1.2⟩,hp.2⟩,hc⟩) e3⟩
theorem Yp.rel (hR:Zde R) (h:Yp R size t lo w A c xs):rSl size R (New lo w) w [.slice A xs.length c] xs:=by
 obtain⟨cs,h1,h2⟩:=h;refine Zqc h1 rfl fun i x hi=> ?_
 obtain⟨vs,e1,e2,e3⟩:=h2 i x hi;exact⟨vs,e1,e2,hR _ _ _ _ _ _ (fun p v hp hc=>⟨hp.1,hc⟩) e3⟩
theorem Yp.form (h:Yp R size t lo w A c xs):xs.length<=c/\c<=9223372036854775807/\(Value.slice A xs.length c).ownBlock=A.map (·.block)/\(0<xs.length->∃ ad,A=some ad):=by
 obtain⟨cs,h1,_⟩:=h;obtain⟨A',c',e,h2,h3,h4,h5⟩:=Yo h1;cases e;exact⟨h2,h3,h4,h5⟩
theorem Yp.push {P:Program}(hR:Zde R) (h:Yp R size t lo w A c xs) (st ty:Qal) (i:TypeInfo) (z:Qaj) (bytes:Nat) (ht:P.underlying st=some (.slice t)) (hi:P.info? t=some i) (hz:i.zero=some z)
  (hsize:i.size=size) (hby:i.bytes=bytes) (hzs:z.cells.size=size) (hsz:0<size) (ad:Qak) (m:Nat) (news:List Qaj) (x:α) (hl:news.length=size) (hnews:∀ j u,news[j]? = some u->w.cell? (ad.add j)=some u) (h1:∀ u∈news,u.oneCell'=true)
  (h63:xs.length+1<=maxLen) (hbytes:(xs.length+1)*bytes<=140737488355328) (hbase:lo<=w.heap.size) (hx:R (X6 lo A w) w news x) :
  ∃ A' c' w',(Qm #[st,st] ty #[.slice A xs.length c,.slice (some ad) 1 m]).run P w=.ok (.slice A' (xs.length+1) c') w'/\Yp R size t lo w' A' c' (xs++[x])/\w.grownBy w' (A.map (·.block))/\Qap lo w w':=by{
 obtain⟨cs,ho,hcs⟩:=h;obtain⟨A1,c1,e,_,_,e4,_⟩:=Yo ho;cases e;obtain⟨v',w',hr,o1,g1,b1,k1⟩:=Zgy (P:=P) (w:=w) lo st ty t i z size bytes ht hi hz hsize hby hzs hsz _ _ cs ho ad 1 m news (by omega) hnews h1 h63 hbytes hbase;obtain⟨A2,c2,rfl,_,_,e5,_⟩:=Yo o1;rw[e4] at g1 k1;rw[e5] at k1;have mp:∀ p v,X6 lo A w p->w.cell? p=some v->X6 lo A2 w' p/\w'.cell? p=some v:=fun p v hp hc=>by
  have hb:=g1.block p.block hp.1.2.1 (fun e=>hp.2 e.symm);refine⟨⟨⟨hp.1.1,Qd hp.1.2.1 g1.size,(Q9 hb).trans hp.1.2.2⟩,fun e=> ?_⟩,(Qq hb).trans hc⟩;rcases k1 with k | k
  ·exact hp.2 (k ▸ e)
  ·rw[k] at e
   simp only[Option.some.injEq] at e;have:=hp.1.2.1;omega
 refine⟨A2,c2,w',hr,⟨cs++news,by rw[Qw];exact o1,fun j y hj=> ?_⟩,g1,b1⟩;have hcl:cs.length=xs.length*size:=ho.1;rcases Ql j xs.length with hjl | hjl
 ·rw[Qv hjl] at hj
  obtain⟨vs,e1,e2,e3⟩:=hcs j y hj;refine⟨vs,e1,fun k u hk=> ?_,hR _ _ _ _ _ _ mp e3⟩;have hcu:=e2 k u hk;rw[Qv (Qh.1 hcu).1];exact hcu
 ·rw[Qr hjl] at hj
  have hj0:j=xs.length:=by
   have:=(Qh.1 hj).1;simp at this;omega
  subst hj0;simp at hj;subst hj;refine⟨news,hl,fun k u hk=> ?_,hR _ _ _ _ _ _ mp hx⟩;rw[Qr (by omega),hcl,Nat.add_sub_cancel_left];exact hk}
end
theorem Vu {a b c:Qai}{row:Option Nat}(h:a.grownBy b row) (h':Qap a.heap.size b c):a.grownBy c row :=
 ⟨h'.os.trans h.os,h'.tape.trans h.tape,h'.output.trans h.output,Qf h.size h'.size,fun k hk hn=>(h'.block k hk).trans (h.block k hk hn)⟩
theorem Yp.but {α:Type}{R:Rel α}{size:Nat}{t:Qal}{lo lo':Nat}{w w':Qai}{A:Option Qak}{c:Nat}{xs:List α}(h:Yp R size t lo w A c xs){p:Qak}(hl:w.heap.size<=lo') (h2:lo<=lo') (hp:New lo' w' p):X6 lo A w' p :=
 ⟨⟨Qf h2 hp.1,hp.2⟩,fun e=>by
  obtain⟨cs,hcs,_⟩:=h;obtain⟨_,_,e0,_,_,e4,_⟩:=Yo hcs;cases e0;have:=(hcs.lt _ (by rw[e4];exact e)).2;have:=hp.1
  omega⟩
theorem Ze2 (lo:Nat) (w:Qai):rBy (New lo w) w [.slice none 0 0] []:=⟨none,0,rfl,by simp,by omega,fun i x h=>by simp at h⟩
theorem Zx1 (v:Qaj) (d:Dk) (n:Int) (w:Qai) (h:Dsk (Old w) w v d) :
  Qao Tryz.prog 50 #[v,.int .i64 n] w fun e w'=>∃ u,e=.returned (.tuple #[u,.int .i64 (Vp d n)])/\rBy (New w.heap.size w') w' [u] (rdX d n)/\Qap w.heap.size w w':=by{
 by_cases hn:Zap d=true/\Xl n=true
 ·obtain⟨hm,ht⟩:=hn
  have e0:Vp d n=0:=by simp[Vp,hm,ht]
  obtain⟨k,rfl,hk⟩:=Ziq ht;refine(Z3z v d k w h hm hk).mono ?_;rintro e w' ⟨u,rfl,hu,hb⟩;have e1:rdX d (k:Int)=Ya d k:=by simp[rdX,e0]
  rw[e0,e1];exact⟨u,rfl,hu,hb⟩
 ·refine(Zx7 v d n w h hn).mono ?_
  rintro e w' ⟨rfl,hb⟩;have e0:Vp d n≠0:=by
   unfold Vp;cases h1:Zap d <;> cases h2:Xl n <;> simp_all
  have e1:rdX d n=[]:=by simp[rdX,e0]
  rw[e1];exact⟨_,rfl,Ze2 _ _,hb⟩}
def Ze9 (F:Qai->Prop):Prop:=∀ w w',F w->Qap w.heap.size w w'->F w'
def Bag (w:Qai) (Fs:List (Qai->Prop)):Prop:=∀ F∈Fs,F w/\Ze9 F
section
variable {w w' : Qai}{Fs : List (Qai -> Prop)}{F : Qai -> Prop}
theorem Bag.nil (w:Qai):Bag w []:=fun F h=>by cases h
theorem Bag.below (h:Bag w Fs) (hb:Qap w.heap.size w w'):Bag w' Fs:=fun F hF=>⟨(h F hF).2 w w' (h F hF).1 hb,(h F hF).2⟩
theorem Bag.add (h:Bag w Fs) (hF:F w) (hk:Ze9 F):Bag w (F::Fs):=fun G hG=>by
 rcases Pg.1 hG with h1 | h1
 ·rw[h1]
  exact⟨hF,hk⟩
 ·exact h G h1
theorem Bag.at (h:Bag w Fs) (i:Nat) (hi:Fs[i]? = some F):F w:=(h F (P5 hi)).1
end
def Z6l (g:Nat) (a b:Qaj):Qai->Prop:=fun w=>w.cell? ⟨g,0,none⟩=some a/\w.cell? ⟨g,1,none⟩=some b/\g<w.heap.size
theorem Zvv (g:Nat) (a b:Qaj):Ze9 (Z6l g a b):=fun _ _ h hb=>⟨(hb.cell (p:=⟨g,0,none⟩) h.2.2).trans h.1,(hb.cell (p:=⟨g,1,none⟩) h.2.2).trans h.2.1,Qd h.2.2 hb.size⟩
def inT (n:Int):Bool:=decide (8<=n)&&decide (n<256)
def Zcr (t:List UInt8) (n:Int) (x:UInt8):Int:=if Za9 t then (if inT n then (if t[n.toNat]?.getD 0=x then 70 else 0) else 2) else 8
def upE (t:List UInt8) (n:Int):Int:=Zcr t n 255
def upV (t:List UInt8) (n:Int):List UInt8:=if upE t n=0 then t.set n.toNat (t[n.toNat]?.getD 0+1) else []
theorem Zs7 {t:List UInt8}{n:Int}{x:UInt8}(h:Za9 t=false):Zcr t n x=8:=by simp[Zcr,h]
theorem Zt4 {t:List UInt8}{n:Int}{x:UInt8}(h:Za9 t=true) (h':inT n=false):Zcr t n x=2:=by simp[Zcr,h,h']
theorem Zuw {t:List UInt8}{n:Int}{x:UInt8}(h:Za9 t=true) (h':inT n=true) (h2:t[n.toNat]?.getD 0=x):Zcr t n x=70:=by simp[Zcr,h,h',h2]
theorem Zpo {t:List UInt8}{n:Int}{x:UInt8}(h:Za9 t=true) (h':inT n=true) (h2:t[n.toNat]?.getD 0≠x):Zcr t n x=0:=by simp[Zcr,h,h',h2]
theorem Zjq {n:Int}(h:inT n=true):∃ k:Nat,n=k/\8<=k/\k<256:=by
 simp only[inT,Qg,decide_eq_true_eq] at h;exact⟨n.toNat,by omega,by omega,by omega⟩
theorem Ztn {k:Nat}(h:8<=k) (h':k<256):inT (k:Int)=true:=by
 simp only[inT,Qg,decide_eq_true_eq];omega
theorem Zuo {n:Int}(h:inT n=false):n<8\/256<=n:=by
 simp only[inT,Bool.and_eq_false_iff,decide_eq_false_iff_not] at h;omega
theorem Zm1 (t:List UInt8) (n:Int) (x:UInt8):(Za9 t=false/\Zcr t n x=8)\/(Za9 t=true/\(n<8\/256<=n)/\Zcr t n x=2)\/(∃ k:Nat,Za9 t=true/\n=k/\8<=k/\k<256/\t[k]?.getD 0=x/\Zcr t n x=70) \/
  (∃ k:Nat,Za9 t=true/\n=k/\8<=k/\k<256/\t[k]?.getD 0≠x/\Zcr t n x=0):=by{
 cases hm:Za9 t with
 | false=>exact .inl ⟨rfl,Zs7 hm⟩
 | true =>
  cases hi:inT n with
  | false=>exact .inr (.inl ⟨rfl,Zuo hi,Zt4 hm hi⟩)
  | true =>
   obtain⟨k,rfl,h1,h2⟩:=Zjq hi;by_cases hx:t[k]?.getD 0=x
   ·exact .inr (.inr (.inl ⟨k,rfl,rfl,h1,h2,hx,Zuw hm hi hx⟩))
   ·exact .inr (.inr (.inr ⟨k,rfl,rfl,h1,h2,hx,Zpo hm hi hx⟩))}
theorem Xq {x y:UInt8}{q:Int}(hy:(y.toNat:Int)=q) (h:x=y):((x.toNat:Int)==q)=true:=by subst h;simpa using hy
theorem Y8 {x y:UInt8}{q:Int}(hy:(y.toNat:Int)=q) (h:x≠y):((x.toNat:Int)==q)=false:=by
 cases he:(x.toNat:Int)==q with
 | false=>rfl
 | true=>exact absurd (UInt8.toNat.inj (by have:=beq_iff_eq.1 he;omega)) h
theorem Zd1 (v:Qaj) (t:List UInt8) (n:Int) (x:UInt8) (q:Int) (hx:(x.toNat:Int)=q) (w:Qai) (h:rBy (Old w) w [v] t) :
  Qao Tryz.prog 224 #[v,.int .i64 n,.int .u8 q] w fun e w'=>e=.returned (.int .i64 (Zcr t n x))/\w=w':=by{
 obtain⟨A,c,rfl,l1,m1,hb⟩:=Xs (B:=w.heap.size) (fun _ h=>h) h;replace hb:=Za hb;clear h;rcases Zm1 t n x with ⟨hm,he⟩ | ⟨hm,hn,he⟩ | ⟨k,hm,rfl,h8,h256,hk,he⟩ | ⟨k,hm,rfl,h8,h256,hk,he⟩
 ·replace he:=Za he
  have hc:=Za (Zfl hm);replace hm:=Za hm;clear hx
  go_enter Tryz.func224,Tryz.ntmps224
  go_wp2_with fail
  with_reducible refine(Un A t.length c t (Za rfl) l1 m1 _ hb.out).mono ?_
  rintro e w1 ⟨rfl,rfl⟩;rw[hc.out]
  go_wp2_with fail
  go_ret;exact⟨Zw he.out.symm,rfl⟩
 ·replace he:=Za he
  have hc:=Za (Zg9 hm);replace hm:=Za hm;clear hx;by_cases h8:n<8
  ·go_enter Tryz.func224,Tryz.ntmps224
   go_wp2_with fail
   with_reducible refine(Un A t.length c t (Za rfl) l1 m1 _ hb.out).mono ?_
   rintro e w1 ⟨rfl,rfl⟩;rw[hc.out]
   go_wp2_with fail
   go_ret;exact⟨Zw he.out.symm,rfl⟩
  ·have h9:256<=n:=by omega
   clear hn
   go_enter Tryz.func224,Tryz.ntmps224
   go_wp2_with fail
   with_reducible refine(Un A t.length c t (Za rfl) l1 m1 _ hb.out).mono ?_
   rintro e w1 ⟨rfl,rfl⟩;rw[hc.out]
   go_wp2_with fail
   go_ret;exact⟨Zw he.out.symm,rfl⟩
 ·replace he:=Za he
  have hl:=Za (Yi hm);have hc:=Za (Zg9 hm);replace hm:=Za hm;obtain⟨ad,rfl,_,hcc⟩:=hb.out (by rw[hl.out];omega);have hcell:=hcc k (by rw[hl.out];omega);obtain⟨y,hy⟩:∃ y,t[k]?.getD 0=y:=⟨_,rfl⟩
  rw[hy] at hcell hk;have t0:=Xq hx hk;replace hy:=Za hy;have i1:¬ (k:Int)<8:=by omega
  have i2:¬ 256<=(k:Int):=by omega
  have i3:k<t.length:=by rw[hl.out];exact h256
  clear hcc hk hx
  go_enter Tryz.func224,Tryz.ntmps224
  go_wp2_with fail
  with_reducible refine(Un (some ad) t.length c t (Za rfl) l1 m1 _ hb.out).mono ?_
  rintro e w1 ⟨rfl,rfl⟩;rw[hc.out]
  go_wp2_with fail
  go_ret;exact⟨Zw he.out.symm,rfl⟩
 ·replace he:=Za he
  have hl:=Za (Yi hm);have hc:=Za (Zg9 hm);replace hm:=Za hm;obtain⟨ad,rfl,_,hcc⟩:=hb.out (by rw[hl.out];omega);have hcell:=hcc k (by rw[hl.out];omega);obtain⟨y,hy⟩:∃ y,t[k]?.getD 0=y:=⟨_,rfl⟩
  rw[hy] at hcell hk;have t0:=Y8 hx hk;replace hy:=Za hy;have i1:¬ (k:Int)<8:=by omega
  have i2:¬ 256<=(k:Int):=by omega
  have i3:k<t.length:=by rw[hl.out];exact h256
  clear hcc hk hx
  go_enter Tryz.func224,Tryz.ntmps224
  go_wp2_with fail
  with_reducible refine(Un (some ad) t.length c t (Za rfl) l1 m1 _ hb.out).mono ?_
  rintro e w1 ⟨rfl,rfl⟩;rw[hc.out]
  go_wp2_with fail
  go_ret;exact⟨Zw he.out.symm,rfl⟩}
theorem Zj9 {x:UInt8}(h:x≠255):((x.toNat:Int)+1=((x+1).toNat:Int))/\(x.toNat:Int)+1<=255/\0<=(x.toNat:Int):=by
 have h2:x.toNat≠255:=fun e=>h (UInt8.toNat.inj e)
 have h3:=x.toNat_lt;have:(x+1).toNat=x.toNat+1:=by rw[UInt8.toNat_add];simp;omega
 omega
theorem Zub {x:UInt8}(h:x≠0):((x.toNat:Int)-1=((x-1).toNat:Int))/\(x.toNat:Int)<=255/\0<=(x.toNat:Int)-1:=by
 have h2:x.toNat≠0:=fun e=>h (UInt8.toNat.inj e)
 have h3:=x.toNat_lt;have:(x-1).toNat=x.toNat-1:=by rw[UInt8.toNat_sub_of_le];rfl;exact UInt8.le_iff_toNat_le.2 (by show 1<=x.toNat;omega)
 omega
theorem Z5u (v:Qaj) (t:List UInt8) (n:Int) (w:Qai) (h:rBy (Old w) w [v] t) :
  Qao Tryz.prog 170 #[v,.int .i64 n] w fun e w'=>∃ u,e=.returned (.tuple #[u,.int .i64 (upE t n)])/\rBy (New w.heap.size w') w' [u] (upV t n)/\Qap w.heap.size w w':=by{
 have h':=Za h;by_cases he:upE t n=0
 ·obtain⟨k,hm,rfl,h8,h256,hk⟩:∃ k:Nat,Za9 t=true/\n=k/\8<=k/\k<256/\t[k]?.getD 0≠255:=by
   rcases Zm1 t n 255 with ⟨_,h2⟩ | ⟨_,_,h2⟩ | ⟨k,_,_,_,_,_,h2⟩ | ⟨k,hm,hn,h8,h256,hk,h2⟩
   ·rw[upE,h2] at he;cases he
   ·rw[upE,h2] at he;cases he
   ·rw[upE,h2] at he;cases he
   ·exact⟨k,hm,hn,h8,h256,hk⟩
  have hl:=Yi hm;have hr:Hid (upV t (k:Int)=t.set k (t[k]?.getD 0+1)):=Za (by simp[upV,he]);obtain⟨A,c,rfl,l1,m1,hb⟩:=Xs (B:=w.heap.size) (fun _ h=>h) h;obtain⟨hu,hu1,hu2⟩:=Zj9 hk;replace hb:=Za hb;replace hl:=Za hl;replace he:=Za he;replace hu:=Za hu;clear hk h
  go_enter Tryz.func170,Tryz.ntmps170
  go_wp2_with fail
  with_reducible refine(Zd1 _ t (k:Int) 255 255 rfl _ h'.out).mono ?_
  rintro e w1 ⟨rfl,rfl⟩;rw[show Zcr t (k:Int) 255=0 from he.out]
  go_wp2_with fail
  with_reducible refine(Zdy A t.length c t (Za rfl) (by rw[hl.out];omega) _ hb.out).mono ?_
  rintro e w2 ⟨u,rfl,hu3,hb2⟩;obtain⟨g,c2,rfl,hg1,hg2,hg3,hg4⟩:=Zjy hu3 (by rw[hl.out];omega);have hcell:=Zdt hu3 (j:=k) (by rw[hl.out];exact h256);have hfr:w2.frozen? ⟨g,k,none⟩=false:=by
   have:=Zfu hu3 k
   rwa [show (⟨g,0,none⟩:Qak).add k=⟨g,k,none⟩ by simp[Zbj]] at this
  have hset:=Za (Zn6 hu3 k (t[k]?.getD 0+1));have i3:k<t.length:=by rw[hl.out];exact h256
  generalize t[k]?.getD 0=x at *;replace hu3:=Za hu3
  go_wp2_with fail
  go_ret2
  rw[hr.out,he.out];rw[hu.out];exact⟨_,rfl,Zcw hset.out,hb2.setCell hg1 _⟩
 ·have hr:Hid (upV t n=[]):=Za (by simp[upV,he])
  obtain⟨q,hq⟩:∃ q,upE t n=q:=⟨_,rfl⟩
  have hq0:(q != 0)=true:=by rw[<- hq];simpa using he
  replace hq:=Za hq;clear h he
  go_enter Tryz.func170,Tryz.ntmps170
  go_wp2_with fail
  with_reducible refine(Zd1 _ t n 255 255 rfl _ h'.out).mono ?_
  rintro e w1 ⟨rfl,rfl⟩;rw[show Zcr t n 255=q from hq.out]
  go_wp2_with fail
  go_ret2
  rw[hr.out,hq.out];exact⟨_,rfl,Ze2 _ _,Qb _ _⟩}
theorem Z4f (w:Qai):rBy (New w.heap.size (w.alloc (.cells (Zkt (Yj 256)) 5))) (w.alloc (.cells (Zkt (Yj 256)) 5)) [.slice (some ⟨w.heap.size,0,none⟩) 256 256] (Yj 256):=by
 have:=Z0z w (Yj 256) (by rw[Zae];omega)
 rwa [Zae] at this
theorem Zly (w:Qai):Qao Tryz.prog 56 #[] w fun e w'=>∃ g,e=.returned (.slice (some ⟨g,0,none⟩) 256 256)/\rBy (New w.heap.size w') w' [.slice (some ⟨g,0,none⟩) 256 256] (Yj 256)/\Qap w.heap.size w w':=by
 refine(Zrj w).mono ?_;rintro e w' ⟨rfl,rfl⟩;exact⟨_,rfl,Z4f w,Zb4 (Qb _ _) _⟩
theorem Z2s (v:Qaj) (t:List UInt8) (n:Int) (w:Qai) (h:rBy (Old w) w [v] t) :
  Qao Tryz.prog 170 #[v,.int .i64 n] w fun e w'=>∃ E c,e=.returned (.tuple #[.slice E (upV t n).length c,.int .i64 (upE t n)])/\rBy (New w.heap.size w') w' [.slice E (upV t n).length c] (upV t n)/\Qap w.heap.size w w':=by
 refine(Z5u v t n w h).mono ?_;rintro e w' ⟨u,rfl,hu,hb⟩;obtain⟨E,c,rfl,_⟩:=id (Zo hu);exact⟨E,c,rfl,hu,hb⟩
theorem Zc5 {t:List UInt8}{k:Nat}{x:UInt8}(h:k<t.length):(t.set k x)[k]?.getD 0=x:=by simp[h]
theorem Uv {t:List UInt8}{k j:Nat}{x:UInt8}(h:j≠k):(t.set k x)[j]?.getD 0=t[j]?.getD 0:=by simp[P7 (Ne.symm h)]
theorem Zyt {t:List UInt8}{k:Nat}{x:UInt8}(h:Za9 t=true) (hk:8<=k):Za9 (t.set k x)=true :=
 Zfg (by rw[List.length_set];exact Yi h) fun j hj=>by rw[Uv (by omega)];exact Zji h hj
theorem Z50 {t:List UInt8}{k:Nat}(hm:Za9 t=true) (h8:8<=k) (h:k<256) (hx:t[k]?.getD 0≠255):upE t k=0/\upV t k=t.set k (t[k]?.getD 0+1):=by
 have h1:upE t k=0:=Zpo hm (Ztn h8 h) (by simpa using hx);exact⟨h1,by simp[upV,h1]⟩
theorem Zur {x:UInt8}:x+1-1=x/\x-1+1=x:=⟨UInt8.add_sub_cancel x 1,UInt8.sub_add_cancel x 1⟩
theorem Zq8 {x:UInt8}(h:x≠0):x-1≠255:=fun e=>by
 have:=Zub h;rw[e] at this;have h0:((255:UInt8).toNat:Int)=255:=rfl;omega
theorem Z3m (a:Int):(a<8/\inT a=false)\/(8<=a/\a<256/\inT a=true)\/(8<=a/\256<=a/\inT a=false):=by{
 cases h:inT a with
 | true =>
  obtain⟨k,rfl,h1,h2⟩:=Zjq h;exact .inr (.inl ⟨by omega,by omega,rfl⟩)
 | false =>
  rcases Zuo h with h1 | h1
  ·exact .inl ⟨h1,rfl⟩
  ·exact .inr (.inr ⟨by omega,h1,rfl⟩)}
abbrev Rm:=Dk×List UInt8×List UInt8
def Zn:Rm:=(Zbn,[],[])
def Xz (s:Rm):Bool:=Zap s.1&&Za9 s.2.1&&Za9 s.2.2
def Zxn (s:Rm):Int:=if Xz s then 0 else 8
theorem Yq {s:Rm}(h:Xz s=true):Zap s.1=true/\Za9 s.2.1=true/\Za9 s.2.2=true:=by
 unfold Xz at h;simp only[Qg] at h;exact⟨h.1.1,h.1.2,h.2⟩
theorem Zet {s:Rm}(h1:Zap s.1=true) (h2:Za9 s.2.1=true) (h3:Za9 s.2.2=true):Xz s=true:=by simp[Xz,h1,h2,h3]
theorem Zbh {s:Rm}(h:Xz s=true):Zxn s=0:=by simp[Zxn,h]
theorem Zcc {s:Rm}(h:Xz s=false):Zxn s=8:=by simp[Zxn,h]
def V0 (s:Rm) (i:Nat):Bool:=decide (s.2.1[i]?.getD 0=0)&&decide (s.2.2[i]?.getD 0=0)
def Zan (s:Rm) (k:Nat):List Nat:=(List.range' 8 k).filter (V0 s)
def Y9 (s:Rm):List Nat:=Zan s 248
theorem Zek (s:Rm) (k:Nat):Zan s (k+1)=Zan s k++(if V0 s (8+k) then [8+k] else []):=by
 unfold Zan;rw[List.range'_concat,List.filter_append];simp[List.filter_cons]
theorem Zta (s:Rm) (k:Nat):(Zan s k).length<=k:=by
 have:=List.length_filter_le (V0 s) (List.range' 8 k)
 simpa [Zan] using this
theorem Zvh {s:Rm}{i:Nat}(h:i∈Y9 s):8<=i/\i<256/\s.2.1[i]?.getD 0=0/\s.2.2[i]?.getD 0=0:=by
 unfold Y9 Zan at h;rw[List.mem_filter,List.mem_range'_1] at h;obtain⟨⟨h1,h2⟩,h3⟩:=h;simp only[V0,Qg,decide_eq_true_eq] at h3;exact⟨h1,h2,h3.1,h3.2⟩
def tkE (s:Rm) (b:List UInt8):Int:=if Xz s then (if b.length=128 then (if (Y9 s).isEmpty||decide (4096<=s.1.2.length) then 9 else 0) else 3) else 8
def tkK (s:Rm):Nat:=(Y9 s)[0]?.getD 0
def tkN (s:Rm) (b:List UInt8):Int:=if tkE s b=0 then (tkK s:Int) else 0
def tkV (s:Rm) (b:List UInt8):Rm:=if tkE s b=0 then (wrD s.1 (tkK s) b,s.2.1.set (tkK s) 1,s.2.2) else Zn
theorem Zt0 {s:Rm}{b:List UInt8}(h:tkE s b=0):Xz s=true/\b.length=128/\s.1.2.length<4096/\Y9 s=tkK s::(Y9 s).tail/\8<=tkK s/\tkK s<256/\s.2.1[tkK s]?.getD 0=0/\s.2.2[tkK s]?.getD 0=0 /\
  tkN s b=(tkK s:Int)/\tkV s b=(wrD s.1 (tkK s) b,s.2.1.set (tkK s) 1,s.2.2):=by{
 have hN:tkN s b=(tkK s:Int):=by rw[tkN,if_pos h]
 have hV:tkV s b=(wrD s.1 (tkK s) b,s.2.1.set (tkK s) 1,s.2.2):=by rw[tkV,if_pos h]
 unfold tkE at h;cases hm:Xz s with
 | false=>rw[hm] at h;simp at h
 | true =>
  rw[hm,if_pos rfl] at h;by_cases hb:b.length=128
  ·rw[if_pos hb] at h
   cases hl:Y9 s with
   | nil=>rw[hl] at h;simp at h
   | cons k m =>
    have hk:tkK s=k:=by simp[tkK,hl]
    obtain⟨h1,h2,h3,h4⟩:=Zvh (s:=s) (i:=k) (by rw[hl];exact P8);have hw:s.1.2.length<4096:=by
     rw[hl] at h;by_cases hw:4096<=s.1.2.length
     ·simp[hw] at h
     ·omega
    rw[hk] at hN hV ⊢;exact⟨rfl,hb,hw,rfl,h1,h2,h3,h4,hN,hV⟩
  ·rw[if_neg hb] at h
   simp at h}
theorem Z0q {s:Rm}{b:List UInt8}(hm:Xz s=true) (hb:b.length=128) (hl:Y9 s≠[]) (hw:s.1.2.length<4096):tkE s b=0:=by{
 have h1:(Y9 s).isEmpty=false:=by cases h:Y9 s with
  | nil=>exact absurd h hl
  | cons k m=>rfl
 have h2:decide (4096<=s.1.2.length)=false:=by simp;omega
 simp[tkE,hm,hb,h1,h2]}
theorem Z2r (s:Rm) (b:List UInt8):(Xz s=false/\tkE s b=8)\/(Xz s=true/\b.length≠128/\tkE s b=3)\/(Xz s=true/\b.length=128/\Y9 s=[]/\tkE s b=9)\/(Xz s=true/\b.length=128/\Y9 s≠[]/\4096<=s.1.2.length/\tkE s b=9) \/
  (Xz s=true/\b.length=128/\Y9 s≠[]/\s.1.2.length<4096/\tkE s b=0):=by{
 cases hm:Xz s with
 | false=>exact .inl ⟨rfl,by simp[tkE,hm]⟩
 | true =>
  by_cases hb:b.length=128
  ·cases hl:Y9 s with
   | nil=>exact .inr (.inr (.inl ⟨rfl,hb,rfl,by simp[tkE,hm,hb,hl]⟩))
   | cons k m =>
    by_cases hw:s.1.2.length<4096
    ·exact .inr (.inr (.inr (.inr ⟨rfl,hb,by simp,hw,Z0q hm hb (by rw[hl];simp) hw⟩)))
    ·exact .inr (.inr (.inr (.inl ⟨rfl,hb,by simp,by omega,by simp[tkE,hm,hb,hl];omega⟩)))
  ·exact .inr (.inl ⟨rfl,hb,by simp[tkE,hm,hb]⟩)}
theorem Zr0 {s:Rm}{b:List UInt8}(h:tkE s b≠0):tkN s b=0/\tkV s b=Zn:=⟨by rw[tkN,if_neg h],by rw[tkV,if_neg h]⟩
theorem Z45 {s:Rm}{b:List UInt8}(h:tkE s b=0):Xz (tkV s b)=true:=by
 obtain⟨hm,hb,hw,_,h8,h256,_,_,_,hV⟩:=Zt0 h;obtain⟨m1,m2,m3⟩:=Yq hm;rw[hV];exact Zet (Zu2 m1 h256 hb hw) (Zyt m2 h8) m3
def asE (s:Rm) (n:Int):Int:=if Xz s then (if inT n then (if s.2.1[n.toNat]?.getD 0=0 then 6 else 0) else 2) else 8
theorem Zn4 (s:Rm) (n:Int):(Xz s=false/\asE s n=8)\/(Xz s=true/\(n<8\/256<=n)/\asE s n=2)\/(∃ k:Nat,Xz s=true/\n=k/\8<=k/\k<256/\s.2.1[k]?.getD 0=0/\asE s n=6) \/
  (∃ k:Nat,Xz s=true/\n=k/\8<=k/\k<256/\s.2.1[k]?.getD 0≠0/\asE s n=0):=by{
 cases hm:Xz s with
 | false=>exact .inl ⟨rfl,by simp[asE,hm]⟩
 | true =>
  cases hi:inT n with
  | false=>exact .inr (.inl ⟨rfl,Zuo hi,by simp[asE,hm,hi]⟩)
  | true =>
   obtain⟨k,rfl,h8,h256⟩:=Zjq hi;by_cases hx:s.2.1[k]?.getD 0=0
   ·exact .inr (.inr (.inl ⟨k,rfl,rfl,h8,h256,hx,by simp[asE,hm,hi,hx]⟩))
   ·exact .inr (.inr (.inr ⟨k,rfl,rfl,h8,h256,hx,by simp[asE,hm,hi,hx]⟩))}
end Go.Proofs.YtmafkphcfkhokaaGreat
namespace Go.Proofs.YtmafkphcfkhokaaGreat
open Go.ChangeShapes Go.WideShapes Go.RowKit
def Z5y:Rel Rm:=Zbp Z4w (Zbp rBy rBy)
def Sto (ok:Qak->Prop) (w:Qai) (v:Qaj) (s:Rm):Prop:=∃ a b n l,v=.agg #[a,b,n,l]/\Dsk ok w (.agg #[a,b]) s.1/\rBy ok w [n] s.2.1/\rBy ok w [l] s.2.2
section
variable {ok ok' : Qak -> Prop}{w w' : Qai}{v : Qaj}{s : Rm}{lo lo' : Nat}
theorem Sto.map (hk:∀ p v,ok p->w.cell? p=some v->ok' p/\w'.cell? p=some v) (h:Sto ok w v s):Sto ok' w' v s:=by
 obtain⟨a,b,n,l,e,h1,h2,h3⟩:=h;exact⟨a,b,n,l,e,h1.map hk,Zf _ _ _ _ _ _ hk h2,Zf _ _ _ _ _ _ hk h3⟩
theorem Sto.below (h:Sto (Old w) w v s) (hb:Qap w.heap.size w w'):Sto (Old w') w' v s :=
 h.map fun _ _ hp hc=>⟨Qd hp hb.size,(hb.cell hp).trans hc⟩
theorem Sto.drop (h:Sto (New lo w) w v s):Sto (Old w) w v s:=h.map fun _ _ hp hc=>⟨hp.2.1,hc⟩
theorem Sto.new (h:Sto (New lo w) w v s) (hl:lo'<=lo) (hb:Qap w.heap.size w w'):Sto (New lo' w') w' v s :=
 h.map fun _ _ hp hc=>⟨⟨Qf hl hp.1,Qd hp.2.1 hb.size,(hb.frozen hp.2.1).trans hp.2.2⟩,(hb.cell hp.2.1).trans hc⟩
theorem Sto.grown {row:Option Nat}(h:Sto (New lo w) w v s) (hg:w.grownBy w' row) (hr:∀ q,row=some q->q<lo):Sto (New lo w') w' v s:=by
 obtain⟨a,b,n,l,e,h1,h2,h3⟩:=h;exact⟨a,b,n,l,e,h1.grown hg hr,Zf.grown h2 hg hr,Zf.grown h3 hg hr⟩
theorem Sto.open (h:Sto ok w v s):∃ A ca B cb N cn L cl,v=.agg #[.slice A s.1.1.length ca,.slice B s.1.2.length cb,.slice N s.2.1.length cn,.slice L s.2.2.length cl]/\Dsk ok w (.agg #[.slice A s.1.1.length ca,.slice B s.1.2.length cb]) s.1 /\
  rBy ok w [.slice N s.2.1.length cn] s.2.1/\rBy ok w [.slice L s.2.2.length cl] s.2.2:=by
 obtain⟨a,b,n,l,rfl,h1,h2,h3⟩:=h;obtain⟨A,ca,B,cb,e,_⟩:=h1.open;cases e;obtain⟨N,cn,rfl,_⟩:=Zo h2;obtain⟨L,cl,rfl,_⟩:=Zo h3;exact⟨A,ca,B,cb,N,cn,L,cl,rfl,h1,h2,h3⟩
theorem Sto.parts {a b n l:Qaj}(h:Sto ok w (.agg #[a,b,n,l]) s):Dsk ok w (.agg #[a,b]) s.1/\rBy ok w [n] s.2.1/\rBy ok w [l] s.2.2:=by
 obtain⟨_,_,_,_,e,h1,h2,h3⟩:=h;cases e;exact⟨h1,h2,h3⟩
theorem Sto.mk {a b n l:Qaj}(h1:Dsk ok w (.agg #[a,b]) s.1) (h2:rBy ok w [n] s.2.1) (h3:rBy ok w [l] s.2.2):Sto ok w (.agg #[a,b,n,l]) s:=⟨a,b,n,l,rfl,h1,h2,h3⟩
end
theorem Y1 (ok:Qak->Prop) (w:Qai):Sto ok w (.agg #[.slice none 0 0,.slice none 0 0,.slice none 0 0,.slice none 0 0]) Zn :=
 ⟨_,_,_,_,rfl,⟨_,_,rfl,⟨none,0,rfl,by simp[Zn,Zbn],by omega,fun i x h=>by simp[Zn,Zbn] at h⟩,⟨none,0,rfl,by simp[Zn,Zbn],by omega,fun i x h=>by simp[Zn,Zbn] at h⟩⟩,
  ⟨none,0,rfl,by simp[Zn],by omega,fun i x h=>by simp[Zn] at h⟩,⟨none,0,rfl,by simp[Zn],by omega,fun i x h=>by simp[Zn] at h⟩⟩
theorem Xy (w:Qai) (a b c d:Qaj) (t:Qal):∃ w1,w.alloc (.cells #[a,b,c,d] t)=w1/\w1.heap[w.heap.size]? = some (.cells #[a,b,c,d] t (0,0))/\w1.heap.size=w.heap.size+1/\Qap w.heap.size w w1 :=
 ⟨_,rfl,Qan _ _,by simp,(Qb _ _).alloc (Qc _) _⟩
theorem Ze {W:Qai}{g:Nat}{a b c d:Qaj}{t:Qal}(h:W.heap[g]? = some (.cells #[a,b,c,d] t (0,0))):W.cell? ⟨g,0,none⟩=some a/\W.cell? ⟨g,1,none⟩=some b/\W.cell? ⟨g,2,none⟩=some c/\W.cell? ⟨g,3,none⟩=some d/\(∀ o,W.frozen? ⟨g,o,none⟩=false)/\g<W.heap.size :=
 ⟨by simp[Qi,h],by simp[Qi,h],by simp[Qi,h],by simp[Qi,h],fun o=>by simp[Ph,h],(Qn.1 h).1⟩
theorem Zt {W:Qai}{g:Nat}{a b c d a' b' c' d':Qaj}{t:Qal}(h:W.heap[g]? = some (.cells #[a,b,c,d] t (0,0))):∃ W1,(((W.setCell ⟨g,0,none⟩ a').setCell ⟨g,1,none⟩ b').setCell ⟨g,2,none⟩ c').setCell ⟨g,3,none⟩ d'=W1 /\
  W1.heap[g]? = some (.cells #[a',b',c',d'] t (0,0))/\W.grownBy W1 (some g)/\W1.heap.size=W.heap.size :=
 ⟨_,rfl,by simp[Qo,Qt,h],Zp (p:=⟨g,3,none⟩) (Zp (p:=⟨g,2,none⟩) (Zp (p:=⟨g,1,none⟩) (Zp (p:=⟨g,0,none⟩) (Ye W (some g)) rfl a') rfl b') rfl c') rfl d',by simp⟩
def Z4s (g:Nat) (a b c d:Qaj):Qai->Prop:=fun w=>w.cell? ⟨g,0,none⟩=some a/\w.cell? ⟨g,1,none⟩=some b/\w.cell? ⟨g,2,none⟩=some c/\w.cell? ⟨g,3,none⟩=some d/\g<w.heap.size
theorem Zim (g:Nat) (a b c d:Qaj):Ze9 (Z4s g a b c d):=fun _ _ h hb=>⟨(hb.cell (p:=⟨g,0,none⟩) h.2.2.2.2).trans h.1,(hb.cell (p:=⟨g,1,none⟩) h.2.2.2.2).trans h.2.1,(hb.cell (p:=⟨g,2,none⟩) h.2.2.2.2).trans h.2.2.1,(hb.cell (p:=⟨g,3,none⟩) h.2.2.2.2).trans h.2.2.2.1,Qd h.2.2.2.2 hb.size⟩
theorem Zjl {w w1:Qai}{Fs:List (Qai->Prop)}(h:Bag w Fs) (hb:Qap w.heap.size w w1) (a b c d:Qaj) (t:Qal):∃ w',w1.alloc (.cells #[a,b,c,d] t)=w'/\Bag w' (Z4s w1.heap.size a b c d::Fs)/\Qap w.heap.size w w'/\Qap w1.heap.size w1 w'/\w1.heap.size<w'.heap.size:=by
 obtain⟨w2,e2,b2,k4,k5⟩:=Xy w1 a b c d t;obtain⟨k0,k1,k2,k3,_,k6⟩:=Ze b2;exact⟨w2,e2,((h.below hb).below k5).add ⟨k0,k1,k2,k3,k6⟩ (Zim _ _ _ _ _),hb.trans (k5.mono hb.size),k5,by omega⟩
def Zyi (v:Qaj) (s:Rm):Qai->Prop:=fun w=>Sto (Old w) w v s
theorem Zcf (v:Qaj) (s:Rm):Ze9 (Zyi v s):=fun _ _ h hb=>h.below hb
theorem Zl9:Zbo Tryz.prog 27 rBy:=Zd5 Tryz.underlying27 (by kernel_rfl) (Zo2 Tryz.underlying5)
theorem Zom:Zbo Tryz.prog 29 Z5y:=Ze5 Tryz.underlying29 (Vv rfl Zr7 (Vv (by kernel_rfl) Zl9 (Zh6 (by kernel_rfl) (by kernel_rfl) Zl9)))
theorem Zvg {ok:Qak->Prop}{w:Qai}{cs:List Qaj}{s:Rm}(h:Z5y ok w cs s):∃ a b n l,cs=[a,b,n,l]/\Dsk ok w (.agg #[a,b]) s.1/\rBy ok w [n] s.2.1/\rBy ok w [l] s.2.2:=by
 obtain⟨_,_,rfl,⟨_,_,rfl,h1,h2⟩,_,_,rfl,h3,h4⟩:=h;obtain⟨A,ca,rfl,h1'⟩:=h1;obtain⟨B,cb,rfl,h2'⟩:=h2;obtain⟨N,cn,rfl,h3'⟩:=h3;obtain⟨L,cl,rfl,h4'⟩:=h4;exact⟨_,_,_,_,rfl,⟨_,_,rfl,⟨A,ca,rfl,h1'⟩,⟨B,cb,rfl,h2'⟩⟩,⟨N,cn,rfl,h3'⟩,⟨L,cl,rfl,h4'⟩⟩
def Mrk (g:Nat) (X:List Int):Qai->Prop:=fun W=>∃ vs:Array Qaj,W.heap[g]? = some (.cells vs 3 (0,0))/\X.length=256/\∀ k,k<256->vs[k]? = some (.int .i64 (X[k]?.getD 0))
theorem Zbs (g:Nat) (X:List Int):Ze9 (Mrk g X):=fun _ _ h hb=>by
 obtain⟨vs,h1,h2⟩:=h;exact⟨vs,(hb.block g (Qn.1 h1).1).trans h1,h2⟩
theorem Z0t {g:Nat}{X:List Int}{W:Qai}(h:Mrk g X W):g<W.heap.size:=by
 obtain⟨vs,h1,_⟩:=h;exact(Qn.1 h1).1
theorem Zcl {g:Nat}{X:List Int}{W:Qai}(h:Mrk g X W){k:Nat}(hk:k<256):W.cell? ⟨g,k,none⟩=some (.int .i64 (X[k]?.getD 0)):=by
 obtain⟨vs,h1,_,h2⟩:=h;simp[Qi,h1,h2 k hk]
theorem Znr {g:Nat}{X:List Int}{W:Qai}(h:Mrk g X W) (k:Nat):W.frozen? ⟨g,k,none⟩=false:=by
 obtain⟨vs,h1,_⟩:=h;simp[Ph,h1]
theorem Z2m {g:Nat}{X:List Int}{W:Qai}(h:Mrk g X W) (k:Nat) (y:Int):Mrk g (X.set k y) (W.setCell ⟨g,k,none⟩ (.int .i64 y)):=by{
 obtain⟨vs,h1,hl,h2⟩:=h;refine⟨vs.setIfInBounds k (.int .i64 y),by simp[Qo,Qt,h1],by simpa using hl,fun j hj=> ?_⟩;rw[Array.getElem?_setIfInBounds];have hs:j<vs.size:=(Qn.1 (h2 j hj)).1;by_cases e:k=j
 ·subst e
  rw[if_pos rfl,if_pos hs,List.getElem?_set_self (by omega)];rfl
 ·rw[if_neg e,h2 j hj,P7 e]}
def Zdc (g1 g2:Nat) (w w':Qai):Prop:=w.heap.size<=w'.heap.size/\∀ k,k<w.heap.size->k≠g1->k≠g2->w'.heap[k]? = w.heap[k]?
theorem Zg8 (g1 g2:Nat) (w:Qai):Zdc g1 g2 w w:=⟨Qc _,fun _ _ _ _=>rfl⟩
theorem Z1 {g1 g2:Nat}{a b c:Qai}(h:Zdc g1 g2 a b) (h':Zdc g1 g2 b c):Zdc g1 g2 a c :=
 ⟨Qf h.1 h'.1,fun k hk h1 h2=>(h'.2 k (Qd hk h.1) h1 h2).trans (h.2 k hk h1 h2)⟩
theorem Xx {g1 g2:Nat}{w w':Qai}(h:Qap w.heap.size w w'):Zdc g1 g2 w w':=⟨h.size,fun k hk _ _=>h.block k hk⟩
theorem Zyj {g1 g2 g:Nat}{w:Qai}(hg:g=g1\/g=g2) (k:Nat) (v:Qaj):Zdc g1 g2 w (w.setCell ⟨g,k,none⟩ v):=by
 refine⟨by simp[Qo],fun j hj h1 h2=> ?_⟩;have hne:g≠j:=fun e=>by subst e;rcases hg with rfl | rfl <;> contradiction
 simp[Qo,Qt,hne]
theorem Z9 {g1 g2 g:Nat}{w w':Qai}{cs:Array Qaj}{t:Qal}(h:Zdc g1 g2 w w') (hz:w.heap[g]? = some (.cells cs t (0,0))) (h1:g≠g1) (h2:g≠g2):w'.heap[g]? = some (.cells cs t (0,0)):=(h.2 g (Qn.1 hz).1 h1 h2).trans hz
theorem Zgi (v:Qaj) (t:List UInt8) (w:Qai) (h:rBy (Old w) w [v] t):Qao Tryz.prog 153 #[v] w fun e w'=>e=.returned (.int .i64 (Zzs t))/\w=w':=by
 obtain⟨A,c,rfl,l1,m1,hb⟩:=Xs (B:=w.heap.size) (fun _ h=>h) h;exact Un A t.length c t (Za rfl) l1 m1 w hb
theorem Zjc {w:Qai}{v:Qaj}{s:Rm}(h:Sto (Old w) w v s):∃ A ca B cb N cn L cl w1,v=.agg #[.slice A s.1.1.length ca,.slice B s.1.2.length cb,.slice N s.2.1.length cn,.slice L s.2.2.length cl] /\
  w.alloc (.cells #[.slice A s.1.1.length ca,.slice B s.1.2.length cb,.slice N s.2.1.length cn,.slice L s.2.2.length cl] 29)=w1/\w1.heap[w.heap.size]? = some (.cells #[.slice A s.1.1.length ca,.slice B s.1.2.length cb,.slice N s.2.1.length cn,.slice L s.2.2.length cl] 29 (0,0))/\w1.heap.size=w.heap.size+1/\Qap w.heap.size w w1 /\
  Hid (Dsk (Old w1) w1 (.agg #[.slice A s.1.1.length ca,.slice B s.1.2.length cb]) s.1)/\Hid (rBy (Old w1) w1 [.slice N s.2.1.length cn] s.2.1)/\Hid (rBy (Old w1) w1 [.slice L s.2.2.length cl] s.2.2):=by
 obtain⟨A,ca,B,cb,N,cn,L,cl,rfl,hd,hN,hL⟩:=h.open;obtain⟨w1,hw1,f,hs,hB⟩:=Xy w (.slice A s.1.1.length ca) (.slice B s.1.2.length cb) (.slice N s.2.1.length cn) (.slice L s.2.2.length cl) 29;exact⟨A,ca,B,cb,N,cn,L,cl,w1,rfl,hw1,f,hs,hB,Za (hd.below hB),Za (Zf.old hN hB),Za (Zf.old hL hB)⟩
theorem Yt (v:Qaj) (s:Rm) (w:Qai) (h:Sto (Old w) w v s):Qao Tryz.prog 94 #[v] w fun e w'=>e=.returned (.int .i64 (Zxn s))/\Qap w.heap.size w w':=by{
 obtain⟨A,ca,B,cb,N,cn,L,cl,w1,rfl,hw1,f,hsz,hB,D,NN,LL⟩:=Zjc h;clear h;obtain⟨k0,k1,k2,k3,_,kg⟩:=Ze f;replace hsz:=Za hsz;cases h1:Zap s.1 with
 | false =>
  have hr:Hid (Zxn s=8):=Za (Zcc (by simp[Xz,h1]));have e1:=Zc7 h1
  go_enter Tryz.func94,Tryz.ntmps94
  go_upto_region 1 with fail
  clear hw1
  go_wp2_with fail
  with_reducible refine(Za1 _ s.1 _ D.out).mono ?_
  rintro e w2 ⟨rfl,hb2⟩;rw[e1]
  go_wp2_with fail
  go_ret;exact⟨Zw hr.out.symm,hB.trans (hb2.mono hB.size)⟩
 | true =>
  have e1:=Zu6 h1;cases h2:Za9 s.2.1 with
  | false =>
   have hr:Hid (Zxn s=8):=Za (Zcc (by simp[Xz,h2]));have e2:=Zfl h2
   go_enter Tryz.func94,Tryz.ntmps94
   go_upto_region 1 with fail
   clear hw1
   go_wp2_with fail
   with_reducible refine(Za1 _ s.1 _ D.out).mono ?_
   rintro e w2 ⟨rfl,hb2⟩;rw[e1];replace k2:=(hb2.cell (p:=⟨w.heap.size,2,none⟩) kg).trans k2;have N2:=Za (Zf.old NN.out hb2);replace hb2:=Za (hB.trans (hb2.mono hB.size))
   go_wp2_with fail
   with_reducible refine(Zgi _ s.2.1 _ N2.out).mono ?_
   rintro e w3 ⟨rfl,rfl⟩;rw[e2]
   go_wp2_with fail
   go_ret;exact⟨Zw hr.out.symm,hb2.out⟩
  | true =>
   have e2:=Zg9 h2;obtain⟨q,hq,hr⟩:∃ q,Zzs s.2.2=q/\Hid (Zxn s=q):=⟨_,rfl,Za (by simp[Zxn,Zzs,Xz,h1,h2])⟩
   obtain⟨p,hp1,hp2⟩:∃ p,(q != 0)=p/\(p=true->q=8)/\(p=false->q=0):=⟨_,rfl,by
    rw[<- hq];unfold Zzs
    split <;> simp⟩
   go_enter Tryz.func94,Tryz.ntmps94
   go_upto_region 1 with fail
   clear hw1
   go_wp2_with fail
   with_reducible refine(Za1 _ s.1 _ D.out).mono ?_
   rintro e w2 ⟨rfl,hb2⟩;rw[e1];replace k2:=(hb2.cell (p:=⟨w.heap.size,2,none⟩) kg).trans k2;replace k3:=(hb2.cell (p:=⟨w.heap.size,3,none⟩) kg).trans k3;have N2:=Za (Zf.old NN.out hb2);have L2:=Za (Zf.old LL.out hb2);replace hb2:=Za (hB.trans (hb2.mono hB.size))
   go_wp2_with fail
   with_reducible refine(Zgi _ s.2.1 _ N2.out).mono ?_
   rintro e w3 ⟨rfl,rfl⟩;rw[e2]
   go_wp2_with fail
   with_reducible refine(Zgi _ s.2.2 _ L2.out).mono ?_
   rintro e w3 ⟨rfl,rfl⟩;rw[hq];replace hq:=Za hq;cases p with
   | true =>
    have h8:=Za (hp2.1 rfl);clear hp2
    go_wp2_with fail
    go_ret;exact⟨Zw (by rw[hr.out,h8.out]),hb2.out⟩
   | false =>
    have h0:=Za (hp2.2 rfl);clear hp2
    go_wp2_with fail
    go_ret;exact⟨Zw (by rw[hr.out,h0.out]),hb2.out⟩}
def Zl0 (s:Rm):Bool:=Zbu s.1||decide (10000<s.2.1.length)||decide (10000<s.2.2.length)
theorem Zr3 (v:Qaj) (s:Rm) (w:Qai) (h:Sto (Old w) w v s):Qao Tryz.prog 36 #[v] w fun e w'=>e=.returned (.bool (Zl0 s))/\Qap w.heap.size w w':=by{
 obtain⟨A,ca,B,cb,N,cn,L,cl,w1,rfl,hw1,f,hsz,hB,D,_,_⟩:=Zjc h;clear h;obtain⟨k0,k1,k2,k3,_,kg⟩:=Ze f;replace hsz:=Za hsz;obtain⟨n,hn⟩:∃ n,s.2.1.length=n:=⟨_,rfl⟩
 obtain⟨l,hl⟩:∃ l,s.2.2.length=l:=⟨_,rfl⟩
 have hr:Hid (Zl0 s=(Zbu s.1||decide ((10000:Int)<n)||decide ((10000:Int)<l))):=Za (by
  unfold Zl0
  rw[hn,hl,show decide (10000<n)=decide ((10000:Int)<n) from decide_eq_decide.2 (by omega),show decide (10000<l)=decide ((10000:Int)<l) from decide_eq_decide.2 (by omega)])
 rw[hn] at k2;rw[hn,hl] at hw1 ⊢;rw[hl] at k3;clear hn hl;obtain⟨g,hg⟩:∃ g,Zbu s.1=g:=⟨_,rfl⟩
 rw[hg] at hr
 go_enter Tryz.func36,Tryz.ntmps36
 go_upto_region 1 with fail
 clear hw1
 go_wp2_with fail
 with_reducible refine(Zvl _ s.1 _ D.out).mono ?_
 rintro e w2 ⟨rfl,hb2⟩;rw[hg];replace k2:=(hb2.cell (p:=⟨w.heap.size,2,none⟩) kg).trans k2;replace k3:=(hb2.cell (p:=⟨w.heap.size,3,none⟩) kg).trans k3;replace hb2:=Za (hB.trans (hb2.mono hB.size));replace hg:=Za hg;cases g with
 | true =>
  go_wp2_with fail
  go_ret;exact⟨Yc (by rw[hr.out];rfl),hb2.out⟩
 | false =>
  by_cases hn:(10000:Int)<n
  ·go_wp2_with fail
   go_ret;exact⟨Yc (by rw[hr.out];simp[hn]),hb2.out⟩
  ·by_cases hl:(10000:Int)<l
   ·go_wp2_with fail
    go_ret;exact⟨Yc (by rw[hr.out];simp[hl]),hb2.out⟩
   ·go_wp2_with fail
    go_ret;exact⟨Yc (by rw[hr.out];simp),hb2.out⟩}
theorem Zex (n:Int) (w:Qai):Qao Tryz.prog 95 #[.int .i64 n] w fun e w'=>e=.returned (.bool (inT n))/\w=w':=by{
 rcases Z3m n with ⟨h,hr⟩ | ⟨h,h2,hr⟩ | ⟨h,h2,hr⟩
 all_goals
  replace hr:=Za hr
  go_enter Tryz.func95,Tryz.ntmps95
  go_wp2_with fail
  go_ret;exact⟨Yc (by first | exact hr.out.symm | (rw[hr.out];simp;omega)),rfl⟩}
theorem Zbz (v:Qaj) (s:Rm) (n:Int) (w:Qai) (h:Sto (Old w) w v s):Qao Tryz.prog 49 #[v,.int .i64 n] w fun e w'=>e=.returned (.int .i64 (asE s n))/\Qap w.heap.size w w':=by{
 have H0:=Za h;obtain⟨A,ca,B,cb,N,cn,L,cl,w1,rfl,hw1,f,hsz,hB,_,NN,_⟩:=Zjc h;have H:=Za (h.below hB);clear h H0;obtain⟨k0,k1,k2,k3,_,kg⟩:=Ze f;replace hsz:=Za hsz;rcases Zn4 s n with ⟨hm,he⟩ | ⟨hm,hn,he⟩ | ⟨k,hm,rfl,h8,h256,hx,he⟩ | ⟨k,hm,rfl,h8,h256,hx,he⟩
 ·replace he:=Za he
  have e1:=Zcc hm
  go_enter Tryz.func49,Tryz.ntmps49
  go_upto_region 1 with fail
  clear hw1
  go_wp2_with fail
  with_reducible refine(Yt _ s _ H.out).mono ?_
  rintro e w2 ⟨rfl,hb2⟩;rw[e1];replace hb2:=Za (hB.trans (hb2.mono hB.size))
  go_wp2_with fail
  go_ret;exact⟨Zw he.out.symm,hb2.out⟩
 ·replace he:=Za he
  have e1:=Zbh hm;have hi:inT n=false:=by
   cases hi:inT n with
   | false=>rfl
   | true=>obtain⟨k,rfl,h8,h256⟩:=Zjq hi;omega
  go_enter Tryz.func49,Tryz.ntmps49
  go_upto_region 1 with fail
  clear hw1
  go_wp2_with fail
  with_reducible refine(Yt _ s _ H.out).mono ?_
  rintro e w2 ⟨rfl,hb2⟩;rw[e1];replace hb2:=Za (hB.trans (hb2.mono hB.size))
  go_wp2_with fail
  with_reducible refine(Zex n _).mono ?_
  rintro e w3 ⟨rfl,rfl⟩;rw[hi]
  go_wp2_with fail
  go_ret;exact⟨Zw he.out.symm,hb2.out⟩
 all_goals
  replace he:=Za he;have e1:=Zbh hm;have hi:=Ztn h8 h256;have hlen:=Yi (Yq hm).2.1;obtain⟨A',c',e2,l1,m1,hby⟩:=Xs (B:=w1.heap.size) (fun _ h=>h) NN.out;cases e2;obtain⟨ad,rfl,hbk,hc⟩:=hby (by omega)
  have hcell:=hc k (by omega);replace hbk:(ad.add k).block<w1.heap.size:=by rw[Zh];exact hbk
  obtain⟨x,hx2⟩:∃ x,s.2.1[k]?.getD 0=x:=⟨_,rfl⟩
  rw[hx2] at hcell hx;have hlt:k<s.2.1.length:=by omega
  first
   | have t0:=Xq (y:=0) (q:=0) rfl hx
   | have t0:=Y8 (y:=0) (q:=0) rfl hx
  replace hx2:=Za hx2;replace hx:=Za hx;replace hlen:=Za hlen;clear hc hby
  go_enter Tryz.func49,Tryz.ntmps49
  go_upto_region 1 with fail
  clear hw1
  go_wp2_with fail
  with_reducible refine(Yt _ s _ H.out).mono ?_
  rintro e w2 ⟨rfl,hb2⟩;rw[e1];replace k2:=(hb2.cell (p:=⟨w.heap.size,2,none⟩) kg).trans k2;replace hcell:=(hb2.cell hbk).trans hcell;replace hb2:=Za (hB.trans (hb2.mono hB.size))
  go_wp2_with fail
  with_reducible refine(Zex (k:Int) _).mono ?_
  rintro e w3 ⟨rfl,rfl⟩;rw[hi]
  go_wp2_with fail
  go_ret;exact⟨Zw he.out.symm,hb2.out⟩}
end Go.Proofs.YtmafkphcfkhokaaGreat
namespace Go.Proofs.YtmafkphcfkhokaaGreat
open Go.RowKit Go.Shelf
attribute [local go_sem] Oper.semAt_some
theorem Zwx (s:Rm) (k j:Nat):∃ r,Zan s (k+j)=Zan s k++r:=by{
 induction j with
 | zero=>exact⟨[],by simp⟩
 | succ j ih =>
  obtain⟨r,hr⟩:=ih;exact⟨r++(if V0 s (8+(k+j)) then [8+(k+j)] else []),by rw[<- Pi,Zek,hr,Pj]⟩}
theorem Zmd {s:Rm}{k:Nat}(h:V0 s (8+k)=true):Zan s (k+1)=Zan s k++[8+k]:=by rw[Zek,h];rfl
theorem Zqn {s:Rm}{k:Nat}(h:V0 s (8+k)=false):Zan s (k+1)=Zan s k:=by rw[Zek,h];simp
theorem Zxr {s:Rm}{k:Nat}(hk:k<248) (h:V0 s (8+k)=true):∃ r,Y9 s=Zan s k++(8+k)::r:=by
 obtain⟨r,hr⟩:=Zwx s (k+1) (247-k);refine⟨r,?_⟩;rw[Y9,show 248=k+1+(247-k) by omega,hr,Zmd h];simp
theorem Zr6 {s:Rm}{i:Nat}(h:s.2.1[i]?.getD 0≠0):V0 s i=false:=by simp[V0,h]
theorem Zsp {s:Rm}{i:Nat}(h:s.2.2[i]?.getD 0≠0):V0 s i=false:=by simp[V0,h]
theorem Zsr {s:Rm}{i:Nat}(h:s.2.1[i]?.getD 0=0) (h':s.2.2[i]?.getD 0=0):V0 s i=true:=by simp[V0,h,h']
theorem Z0c (F:Fence) (n:Nat) (hf:F.fn 246) (hro:F.round=none) (hn:1<=n) (l Bs n₀:Nat) (s:Rm) (ad bd:Qak) (cn cl:Nat) (_cn1:256<=cn) (_cl1:256<=cl) (hBn:Bs<n₀) (hab:ad.block<n₀) (hbb:bd.block<n₀) (J Jx:List Nat->Qai->Prop)
  (hY:∀ (pre:List Nat) (x:Nat) (W1:Qai),J pre W1->pre.length<248->YieldAt F (n-1) Tryz.prog l #[.int .i64 (x:Int)] W1 fun e W' =>
   (e=.returned (.bool true)/\J (pre++[x]) W'/\Qap n₀ W1 W')\/(e=.returned (.bool false)/\Jx (pre++[x]) W'))
  (W:Qai) (hb2:W.cell? ⟨Bs,2,none⟩=some (.slice (some ad) 256 cn)) (hb3:W.cell? ⟨Bs,3,none⟩=some (.slice (some bd) 256 cl))
  (hc:∀ j,j<256->W.cell? (ad.add j)=some (.int .u8 ((s.2.1[j]?.getD 0).toNat:Int))/\W.cell? (bd.add j)=some (.int .u8 ((s.2.2[j]?.getD 0).toNat:Int))) (h0:J [] W) :
  CallsIn F n Tryz.prog 246 #[.func (.yield l) #[] #[],.pointer (some ⟨Bs,0,none⟩)] W fun e W'=>(∃ v,e=.returned v) /\
   ((∃ ys,ys=Y9 s/\J ys W')\/(∃ pre,(∃ k,k<248/\V0 s (8+k)=true/\pre=Zan s k++[8+k])/\Jx pre W')):=by{
 refine callsIn_of_wp Tryz.func246 rfl hf ?_ hro;simp only[Tryz.ntmps246,Pk,Qx,Pm,Pn,Po,Pp,Pq,Pr,Ps,Qy,Pt];have HC:=Za hc;clear hc
 gi_wp2
 gi_loopw [3] (fun i wr=>∃ k:Nat,k<=248/\i=.int .i64 ((8+k:Nat):Int)/\J (Zan s k) wr/\Qap n₀ W wr) (fun i _=>(256-intOf i).toNat)
 case atStart=>exact⟨0,Nat.zero_le _,by simp,h0,Qb _ _⟩
 case round =>
  obtain⟨k,hk,rfl,hJs,hnx⟩:=hrel;have b2:=(hnx.cell (p:=⟨Bs,2,none⟩) hBn).trans hb2;have b3:=(hnx.cell (p:=⟨Bs,3,none⟩) hBn).trans hb3;by_cases hlt:k<248
  ·have hx:=HC.out (8+k) (by omega)
   have c1:=(hnx.cell (p:=ad.add (8+k)) (by rw[Zh];exact hab)).trans hx.1;have c2:=(hnx.cell (p:=bd.add (8+k)) (by rw[Zh];exact hbb)).trans hx.2;clear hx;have hlen:=Zta s k;have hi:8+k<256:=by omega
   have hno1:=Za (fun h=>Zqn (Zr6 (s:=s) (i:=8+k) h));have hno2:=Za (fun h=>Zqn (Zsp (s:=s) (i:=8+k) h));have hyes:=Za (fun h h'=>Zsr (s:=s) (i:=8+k) h h');obtain⟨x,hx⟩:∃ x,s.2.1[8+k]?.getD 0=x:=⟨_,rfl⟩
   obtain⟨y,hy⟩:∃ y,s.2.2[8+k]?.getD 0=y:=⟨_,rfl⟩
   rw[hx] at c1 hno1 hyes;rw[hy] at c2 hno2 hyes;replace hx:=Za hx;replace hy:=Za hy;obtain⟨i,hi2⟩:∃ i,8+k=i:=⟨_,rfl⟩
   have hi3:Hid (8+k=i):=Za hi2;rw[hi2] at c1 c2 hi hyes ⊢;clear hi2;by_cases h0:x=0
   ·by_cases h1:y=0
    ·have t0:=Xq (y:=0) (q:=0) rfl h0
     have t1:=Xq (y:=0) (q:=0) rfl h1;have hfr:=Za (hyes.out h0 h1);have hfk:=Za (Zmd (s:=s) (k:=k) (by rw[hi3.out];exact hfr.out));replace h0:=Za h0;replace h1:=Za h1;obtain⟨fn,tmps,assign,body,hyy,hR⟩:=hY _ i wr hJs (by omega)
     try dsimp only at hyy
     gi_wp2
     refine hR.mono ?_;rintro e W3 (⟨rfl,hJ3,hk3⟩ | ⟨rfl,hJx3⟩)
     ·gi_wp2
      go_roundw
      case rel=>exact⟨k+1,by omega,by have:=hi3.out;go_num,by rw[hfk.out,hi3.out];exact hJ3,hnx.trans hk3⟩
      case measure=>simp[intOf];omega
     ·gi_wp2
      refine Qam (results_none rfl _ _ _) rfl ?_;exact⟨⟨_,rfl⟩,.inr ⟨_,⟨k,hlt,by rw[hi3.out];exact hfr.out,rfl⟩,by rw[hi3.out];exact hJx3⟩⟩
    ·have t0:=Xq (y:=0) (q:=0) rfl h0
     have t1:=Y8 (y:=0) (q:=0) rfl h1;have hfk:=Za (hno2.out h1);replace h0:=Za h0;replace h1:=Za h1
     gi_wp2
     try (refine⟨fun _ h=>(by cases h),?_⟩;gi_wp2)
     go_roundw
     case rel=>exact⟨k+1,by omega,by have:=hi3.out;go_num,by rw[hfk.out];exact hJs,hnx⟩
     case measure=>simp[intOf];omega
   ·have t0:=Y8 (y:=0) (q:=0) rfl h0
    have hfk:=Za (hno1.out h0);replace h0:=Za h0
    gi_wp2
    try (refine⟨fun _ h=>(by cases h),?_⟩;gi_wp2)
    go_roundw
    case rel=>exact⟨k+1,by omega,by have:=hi3.out;go_num,by rw[hfk.out];exact hJs,hnx⟩
    case measure=>simp[intOf];omega
  ·obtain rfl:k=248:=by omega
   gi_wp2
   go_end0
   exact⟨⟨_,rfl⟩,.inl ⟨_,rfl,hJs⟩⟩}
theorem Zzx (F:Fence) (n:Nat) (hf:F.fn 223) (hro:F.round=none) (a b c d:Qaj) (w:Qai) :
  CallsIn F n Tryz.prog 223 #[.agg #[a,b,c,d]] w fun e w'=>e=.returned (.func (.func 246) #[] #[.pointer (some ⟨w.heap.size,0,none⟩)])/\w'=w.alloc (.cells #[a,b,c,d] 29):=by
 refine callsIn_of_wp Tryz.func223 rfl hf ?_ hro;simp only[Tryz.ntmps223,Pk,Qx,Pm,Pn,Po,Pp,Pq,Pr,Ps,Qy,Pt]
 gi_wp2
 go_ret;exact⟨rfl,rfl⟩
theorem Zos (F:Fence) (n:Nat) (hf:F.fn 246) (hro:F.round=none) (hn:1<=n) (Bs n₀:Nat) (s:Rm) (ad bd:Qak) (cn cl:Nat) (cn1:256<=cn) (cl1:256<=cl) (hBn:Bs<n₀) (hab:ad.block<n₀) (hbb:bd.block<n₀)
  (w:Qai) (hn₀:n₀<=w.heap.size) (hb2:w.cell? ⟨Bs,2,none⟩=some (.slice (some ad) 256 cn)) (hb3:w.cell? ⟨Bs,3,none⟩=some (.slice (some bd) 256 cl))
  (hc:∀ j,j<256->w.cell? (ad.add j)=some (.int .u8 ((s.2.1[j]?.getD 0).toNat:Int))/\w.cell? (bd.add j)=some (.int .u8 ((s.2.2[j]?.getD 0).toNat:Int))) :
  SeqStopsK F n Tryz.prog 246 #[.pointer (some ⟨Bs,0,none⟩)] (fun x:Nat=>#[Value.int .i64 (x:Int)]) (Qap n₀) (fun ys=>ys=Y9 s) (fun pre=>∃ k,k<248/\V0 s (8+k)=true/\pre=Zan s k++[8+k]) 248 w:=fun l J Jx W hW _ _ hY h0 =>
 Z0c F n hf hro hn l Bs n₀ s ad bd cn cl cn1 cl1 hBn hab hbb J Jx hY W ((hW.cell (p:=⟨Bs,2,none⟩) (by show Bs<_;omega)).trans hb2) ((hW.cell (p:=⟨Bs,3,none⟩) (by show Bs<_;omega)).trans hb3)
  (fun j hj=>⟨(hW.cell (p:=ad.add j) (by rw[Zh];omega)).trans (hc j hj).1,(hW.cell (p:=bd.add j) (by rw[Zh];omega)).trans (hc j hj).2⟩) h0
theorem Zmx {w:Qai}{s:Rm}{N L:Option Qak}{cn cl:Nat}(hm:Xz s=true) (hN:rBy (Old w) w [.slice N s.2.1.length cn] s.2.1) (hL:rBy (Old w) w [.slice L s.2.2.length cl] s.2.2) :
  ∃ ad bd,N=some ad/\L=some bd/\s.2.1.length=256/\s.2.2.length=256/\256<=cn/\256<=cl/\ad.block<w.heap.size/\bd.block<w.heap.size/\(∀ j,j<256->w.cell? (ad.add j)=some (.int .u8 ((s.2.1[j]?.getD 0).toNat:Int))/\w.cell? (bd.add j)=some (.int .u8 ((s.2.2[j]?.getD 0).toNat:Int))):=by
 have hl1:=Yi (Yq hm).2.1;have hl2:=Yi (Yq hm).2.2;obtain⟨N',cn',e1,l1,_,hb1⟩:=Xs (B:=w.heap.size) (fun _ h=>h) hN;obtain⟨L',cl',e2,l2,_,hb2⟩:=Xs (B:=w.heap.size) (fun _ h=>h) hL;cases e1;cases e2;obtain⟨ad,rfl,h1,h2⟩:=hb1 (by omega);obtain⟨bd,rfl,h3,h4⟩:=hb2 (by omega);exact⟨ad,bd,rfl,rfl,hl1,hl2,by omega,by omega,h1,h3,fun j hj=>⟨h2 j (by omega),h4 j (by omega)⟩⟩
theorem Zxc (F:Fence) (n:Nat) (h3:F.fn 168) (h5:F.fn 223) (h7:F.fn 246) (hro:F.round=none) (hn:3<=n)
  (v:Qaj) (s:Rm) (hm:Xz s=true) (w:Qai) (h:Sto (Old w) w v s) :
  CallsIn F n Tryz.prog 168 #[v] w fun e W'=>e=.returned (.tuple #[.int .i64 (tkK s:Int),.bool (!(Y9 s).isEmpty)])/\Qap w.heap.size w W':=by{
 have h1:1<=n:=by omega
 obtain⟨A,ca,B,cb,N,cn,L,cl,rfl,hd,hN,hL⟩:=h.open;obtain⟨ad,bd,rfl,rfl,hl1,hl2,l1,l2,had,hbd,hc⟩:=Zmx hm hN hL;rw[hl1,hl2];clear hd hN hL h;obtain⟨n1,hn1⟩:∃ n1,s.1.1.length=n1:=⟨_,rfl⟩
 obtain⟨n2,hn2⟩:∃ n2,s.1.2.length=n2:=⟨_,rfl⟩
 rw[hn1,hn2];clear hn1 hn2;replace hl1:=Za hl1;replace hl2:=Za hl2;replace hc:=Za hc;refine callsIn_of_wp_marks Tryz.func168 rfl h3 ?_ hro;simp only[Tryz.ntmps168,Pk,Qx,Pm,Pn,Po,Pp,Pq,Pr,Ps,Qy,Pt]
 gi_wp2_with (gi_at_call 223;refine(Zzx F (n-1) h5 hro _ _ _ _ _).mono ?_;rintro e w' ⟨rfl,rfl⟩)
 obtain⟨W0,hW0,hB0,hs0,b1,b1f,b2,b2f,k2,k3⟩:∃ W0,(((w.alloc (.cells #[.slice A n1 ca,.slice B n2 cb,.slice (some ad) 256 cn,.slice (some bd) 256 cl] 29)).alloc (.cells #[.int .i64 0] 3)).alloc (.cells #[.bool false] 4)).alloc (.cells #[.slice A n1 ca,.slice B n2 cb,.slice (some ad) 256 cn,.slice (some bd) 256 cl] 29)=W0/\Qap w.heap.size w W0/\W0.heap.size=w.heap.size+4 /\
   W0.cell? ⟨w.heap.size+1,0,none⟩=some (.int .i64 0)/\W0.frozen? ⟨w.heap.size+1,0,none⟩=false/\W0.cell? ⟨w.heap.size+1+1,0,none⟩=some (.bool false)/\W0.frozen? ⟨w.heap.size+1+1,0,none⟩=false/\W0.cell? ⟨w.heap.size+1+1+1,2,none⟩=some (.slice (some ad) 256 cn)/\W0.cell? ⟨w.heap.size+1+1+1,3,none⟩=some (.slice (some bd) 256 cl) :=
  ⟨_,rfl,((((Qb _ w).alloc (Qc _) _).alloc (by simp) _).alloc (by simp;omega) _).alloc (by simp;omega) _,by simp,by go_simp,by go_simp,by go_simp,by go_simp,by go_simp,by go_simp⟩
 rw[hW0];clear hW0;have hlo:w.heap.size<=W0.heap.size:=hB0.size;refine wpIn_rangeFunc_ownF hro h1 (gf:=246) (lb:=#[.pointer (some ⟨w.heap.size+1+1+1,0,none⟩)]) rfl h7 (enters_of Tryz.func246 (by kernel_rfl) rfl)
  (Zos F (n-1) h7 hro (by omega) (w.heap.size+1+1+1) W0.heap.size s ad bd cn cl l1 l2 (by omega) (by omega) (by omega) W0 (Qc _) k2 k3 (fun j hj=>⟨(hB0.cell (p:=ad.add j) (by rw[Zh];exact had)).trans (hc.out j hj).1,(hB0.cell (p:=bd.add j) (by rw[Zh];exact hbd)).trans (hc.out j hj).2⟩))
  (fun h h'=>h.trans h') (fun W l o o' hl h1 h2 h3=>belowK_b (w:=W0) (Qc _) W l o o' hl h1 h2 h3) (Qb _ _) (fun _=>rfl)
  (fun pre W=>(pre=[]/\W.cell? ⟨w.heap.size+1,0,none⟩=some (.int .i64 0)/\W.frozen? ⟨w.heap.size+1,0,none⟩=false/\W.cell? ⟨w.heap.size+1+1,0,none⟩=some (.bool false)/\W.frozen? ⟨w.heap.size+1+1,0,none⟩=false)/\Qap w.heap.size w W)
  (fun cd pre W=>(cd=.ret/\∃ x:Nat,pre=[x]/\W.cell? ⟨w.heap.size+1,0,none⟩=some (.int .i64 (x:Int))/\W.cell? ⟨w.heap.size+1+1,0,none⟩=some (.bool true))/\Qap w.heap.size w W)
  (OwnFrom.and (Own.from (fun s A B row hs hg hr=>⟨hs.1,cell_kept hs.2.1 hg hr,(frozen_kept hs.2.1 hg hr).trans hs.2.2.1,cell_kept hs.2.2.2.1 hg hr,(frozen_kept hs.2.2.2.1 hg hr).trans hs.2.2.2.2⟩) _) (ownFrom_below (Qc _) hlo))
  (fun cd=>OwnFrom.and (Own.from (fun s A B row hs hg hr=>by
   obtain⟨e,x,e2,h1,h2⟩:=hs
   exact⟨e,x,e2,cell_kept h1 hg hr,cell_kept h2 hg hr⟩) _) (ownFrom_below (Qc _) hlo))
  ⟨⟨rfl,b1,b1f,b2,b2f⟩,hB0⟩
  (fun x=>{ tmps:=#[.agg #[.slice A n1 ca,.slice B n2 cb,.slice (some ad) 256 cn,.slice (some bd) 256 cl],.pointer (some ⟨w.heap.size,0,none⟩),.pointer (some ⟨w.heap.size+1,0,none⟩),.pointer (some ⟨w.heap.size+1+1,0,none⟩),.int .i64 (x:Int),.agg #[.slice A n1 ca,.slice B n2 cb,.slice (some ad) 256 cn,.slice (some bd) 256 cl],
   .func (.func 246) #[] #[.pointer (some ⟨w.heap.size+1+1+1,0,none⟩)],.int .i64 (x:Int),undef],defers:=[] }) ?assign ?body ?done ?stop
 case assign =>
  intro l x W K hK
  gi_wp2
  exact hK
 case body =>
  rintro l pre x W ⟨⟨rfl,c1,f1,c2,f2⟩,hb⟩ _
  gi_wp2
  refine⟨(KeepsOthers.setCell _ _ _).trans (KeepsOthers.setCell _ _ _),⟨rfl,x,rfl,?_,?_⟩,(hb.setCell (p:=⟨w.heap.size+1,0,none⟩) (by simp) _).setCell (p:=⟨w.heap.size+1+1,0,none⟩) (by simp;omega) _⟩
  ·go_simp
  ·go_simp
 case done =>
  rintro D zs W hD rfl ⟨⟨hz,c1,f1,c2,f2⟩,hb⟩ hK;have hk0:Hid (tkK s=0):=Za (by simp[tkK,hz]);have hemp:Hid ((Y9 s).isEmpty=true):=Za (by rw[hz];rfl);clear hz;obtain⟨W2,hW2,d1,d2,hb2,hK2⟩:∃ W2,(W.setCell ⟨w.heap.size+1,0,none⟩ (.int .i64 0)).setCell ⟨w.heap.size+1+1,0,none⟩ (.bool false)=W2/\W2.cell? ⟨w.heap.size+1,0,none⟩=some (.int .i64 0)/\W2.cell? ⟨w.heap.size+1+1,0,none⟩=some (.bool false)/\Qap w.heap.size w W2/\W2.heap[D]? = some (.deferred (some [])) :=
   ⟨_,rfl,by go_simp,by go_simp,(hb.setCell (p:=⟨w.heap.size+1,0,none⟩) (by simp) _).setCell (p:=⟨w.heap.size+1+1,0,none⟩) (by simp;omega) _,((KeepsOthers.setCell W ⟨w.heap.size+1,0,none⟩ (.int .i64 0)).trans (KeepsOthers.setCell _ ⟨w.heap.size+1+1,0,none⟩ (.bool false))).same D _ hK rfl⟩
  gi_wp2
  try rw[hW2]
  refine⟨by simp,.inl ⟨_,_,rfl,run_takeDeferred hK2,?_⟩⟩;have hro':∀ r,some D=some r->∃ o:Obj,W2.heap[r]? = some o/\o.isCells=false:=fun r e=>by cases e;exact⟨_,hK2,rfl⟩
  have c1':=cell_kept d1 (grownBy_putObj' _ D (.deferred none)) hro';have c2':=cell_kept d2 (grownBy_putObj' _ D (.deferred none)) hro';refine⟨.tuple #[.int .i64 0,.bool false],?_,by rw[hk0.out,hemp.out];rfl,hb2.trans (belowK_b hlo _ D _ _ hD hK2 rfl rfl)⟩;simp[results,Tryz.f168,go_sem,c1',c2']
 case stop =>
  rintro D cd pre W hD ⟨k,hk,hfr,hpk⟩ ⟨⟨rfl,x,rfl,c1,c2⟩,hb⟩ hK;obtain⟨r,hr⟩:=Zxr hk hfr;have e2:Zan s k=[]/\8+k=x:=by
   cases hq:Zan s k with
   | nil=>rw[hq] at hpk;simp at hpk;exact⟨rfl,hpk.symm⟩
   | cons y q=>rw[hq] at hpk;simp at hpk
  rw[e2.1,e2.2] at hr;have hk0:Hid (tkK s=x):=Za (by simp[tkK,hr]);have hemp:Hid ((Y9 s).isEmpty=false):=Za (by rw[hr];rfl);clear hr e2 hpk
  gi_wp2
  refine⟨by simp,.inl ⟨_,_,rfl,run_takeDeferred hK,?_⟩⟩;have hro':∀ r,some D=some r->∃ o:Obj,W.heap[r]? = some o/\o.isCells=false:=fun r e=>by cases e;exact⟨_,hK,rfl⟩
  have c1':=cell_kept c1 (grownBy_putObj' _ D (.deferred none)) hro';have c2':=cell_kept c2 (grownBy_putObj' _ D (.deferred none)) hro';refine⟨.tuple #[.int .i64 (x:Int),.bool true],?_,by rw[hk0.out,hemp.out];rfl,hb.trans (belowK_b hlo _ D _ _ hD hK rfl rfl)⟩;simp[results,Tryz.f168,go_sem,c1',c2']}
theorem Zen (v:Qaj) (s:Rm) (hm:Xz s=true) (w:Qai) (h:Sto (Old w) w v s) :
  Qao Tryz.prog 168 #[v] w fun e W'=>e=.returned (.tuple #[.int .i64 (tkK s:Int),.bool (!(Y9 s).isEmpty)])/\Qap w.heap.size w W' :=
 callsIn_wide.1 (Zxc Fence.wide 3 trivial trivial trivial rfl (Qc _) v s hm w h)
theorem Zfs {w:Qai}{v:Qaj}{s:Rm}(h:Sto (Old w) w v s):∃ A ca B cb N cn L cl w1,v=.agg #[.slice A s.1.1.length ca,.slice B s.1.2.length cb,.slice N s.2.1.length cn,.slice L s.2.2.length cl] /\
  (w.alloc (.cells #[.slice A s.1.1.length ca,.slice B s.1.2.length cb,.slice N s.2.1.length cn,.slice L s.2.2.length cl] 29)).alloc (.cells #[.slice none 0 0,.slice none 0 0,.slice none 0 0,.slice none 0 0] 29)=w1 /\
  w1.heap[w.heap.size]? = some (.cells #[.slice A s.1.1.length ca,.slice B s.1.2.length cb,.slice N s.2.1.length cn,.slice L s.2.2.length cl] 29 (0,0))/\w1.heap[w.heap.size+1]? = some (.cells #[.slice none 0 0,.slice none 0 0,.slice none 0 0,.slice none 0 0] 29 (0,0))/\w1.heap.size=w.heap.size+2/\Qap w.heap.size w w1 /\
  Hid (Sto (Old w1) w1 (.agg #[.slice A s.1.1.length ca,.slice B s.1.2.length cb,.slice N s.2.1.length cn,.slice L s.2.2.length cl]) s):=by
 obtain⟨A,ca,B,cb,N,cn,L,cl,rfl,_,_,_⟩:=h.open;have hb:Qap w.heap.size w ((w.alloc (.cells #[.slice A s.1.1.length ca,.slice B s.1.2.length cb,.slice N s.2.1.length cn,.slice L s.2.2.length cl] 29)).alloc (.cells #[.slice none 0 0,.slice none 0 0,.slice none 0 0,.slice none 0 0] 29)):=((Qb _ w).alloc (Qc _) _).alloc (by simp) _;refine⟨A,ca,B,cb,N,cn,L,cl,_,rfl,rfl,Yw (Qan _ _),?_,by simp,hb,Za (h.below hb)⟩;have:=Qan (w.alloc (.cells #[.slice A s.1.1.length ca,.slice B s.1.2.length cb,.slice N s.2.1.length cn,.slice L s.2.2.length cl] 29)) (.cells #[.slice none 0 0,.slice none 0 0,.slice none 0 0,.slice none 0 0] 29)
 rwa [World.size_alloc] at this
theorem Zp2 {s:Rm}{b:List UInt8}(hm:Xz s=true) (hb:b.length=128) (hl:Y9 s≠[]):(8<=tkK s/\tkK s<256/\s.2.1[tkK s]?.getD 0=0/\Zku s.1 (tkK s:Int) b=(if 4096<=s.1.2.length then 9 else 0)):=by{
 cases hf:Y9 s with
 | nil=>exact absurd hf hl
 | cons k m =>
  obtain⟨h1,h2,h3,h4⟩:=Zvh (s:=s) (i:=k) (by rw[hf];exact P8);have hk:tkK s=k:=by simp[tkK,hf]
  rw[hk];refine⟨h1,h2,h3,?_⟩;have hmd:=(Yq hm).1;have h5:=(Zg0 hmd).2.1;have h6:Xl (k:Int)=true:=Zdo h2;by_cases h7:4096<=s.1.2.length
  ·have h8:s.1.2.length=4096:=by omega
   simp[Zku,hmd,h6,hb,h8]
  ·have h8:s.1.2.length≠4096:=by omega
   simp[Zku,hmd,h6,hb,h8,h7]}
theorem Zvq (v u:Qaj) (s:Rm) (b:List UInt8) (w:Qai) (h:Sto (Old w) w v s) (hu:rBy (Old w) w [u] b) :
  Qao Tryz.prog 108 #[v,u] w fun e w'=>∃ t,e=.returned (.tuple #[t,.int .i64 (tkN s b),.int .i64 (tkE s b)])/\Sto (New w.heap.size w') w' t (tkV s b)/\Qap w.heap.size w w':=by{
 obtain⟨A,ca,B,cb,N,cn,L,cl,w1,rfl,hw1,f1,f2,hsz,hB,H⟩:=Zfs h;obtain⟨E,ce,rfl,_⟩:=id (Zo hu);have U:=Za (Zf.old hu hB);clear h hu;obtain⟨k0,k1,k2,k3,_,kg⟩:=Ze f1;replace hsz:=Za hsz;rcases Z2r s b with ⟨hm,hE⟩ | ⟨hm,hlb,hE⟩ | ⟨hm,hlb,hfl,hE⟩ | ⟨hm,hlb,hfl,hfw,hE⟩ | ⟨hm,hlb,hfl,hfw,hE⟩
 ·replace hE:=Za hE
  have e1:=Zcc hm;replace f2:=Za f2
  go_enter Tryz.func108,Tryz.ntmps108
  go_upto_region 1 with fail
  clear hw1
  go_wp2_with fail
  with_reducible refine(Yt _ s _ H.out).mono ?_
  rintro e w2 ⟨rfl,hb2⟩;rw[e1];have F2:=(hb2.block (w.heap.size+1) (by rw[hsz.out];omega)).trans f2.out;replace hb2:=Za (hB.trans (hb2.mono hB.size));obtain⟨k0,k1,k2,k3,k4,k5⟩:=Ze F2;obtain⟨W9,hW9,g9,gr9,gs9⟩:=Zt (a':=.slice none 0 0) (b':=.slice none 0 0) (c':=.slice none 0 0) (d':=.slice none 0 0) F2;obtain⟨n0,n1,n2,n3,_,_⟩:=Ze g9;have hB9:=Za ((hb2).out.grown gr9 (hb2).out.size (fun q e=>by cases e;omega));replace g9:=Za g9;replace F2:=Za F2;clear gr9 gs9
  go_wp2_with fail
  refine Qam (v:=.tuple #[.agg #[.slice none 0 0,.slice none 0 0,.slice none 0 0,.slice none 0 0],.int .i64 0,.int .i64 8]) (by simp[results,Tryz.results108,go_sem,n0,n1,n2,n3]) rfl ?_;obtain⟨hN,hV⟩:=Zr0 (s:=s) (b:=b) (by rw[hE.out];decide);rw[hN,hV,hE.out];exact⟨_,rfl,Y1 _ _,hB9.out⟩
 ·replace hE:=Za hE
  have e1:=Zbh hm;have e2:((b.length:Int) != 128)=true:=by simp;omega
  replace f2:=Za f2
  go_enter Tryz.func108,Tryz.ntmps108
  go_upto_region 1 with fail
  clear hw1
  go_wp2_with fail
  with_reducible refine(Yt _ s _ H.out).mono ?_
  rintro e w2 ⟨rfl,hb2⟩;rw[e1];have G2:=(hb2.block w.heap.size kg).trans f1;obtain⟨m0,m1,m2,m3,_,mg⟩:=Ze G2;have F2:=(hb2.block (w.heap.size+1) (by rw[hsz.out];omega)).trans f2.out;have H2:=Za (H.out.below hb2);have U2:=Za (Zf.old U.out hb2);have s2:Hid (w.heap.size+2<=w2.heap.size):=Za (by have:=hb2.size;have:=hsz.out;omega);replace hb2:=Za (hB.trans (hb2.mono hB.size));replace G2:=Za G2;replace F2:=Za F2;clear k0 k1 k2 k3 kg f1 hB;replace F2:=F2.out;obtain⟨k0,k1,k2,k3,k4,k5⟩:=Ze F2;obtain⟨W9,hW9,g9,gr9,gs9⟩:=Zt (a':=.slice none 0 0) (b':=.slice none 0 0) (c':=.slice none 0 0) (d':=.slice none 0 0) F2;obtain⟨n0,n1,n2,n3,_,_⟩:=Ze g9;have hB9:=Za ((hb2).out.grown gr9 (hb2).out.size (fun q e=>by cases e;omega));replace g9:=Za g9;replace F2:=Za F2;clear gr9 gs9
  go_wp2_with fail
  refine Qam (v:=.tuple #[.agg #[.slice none 0 0,.slice none 0 0,.slice none 0 0,.slice none 0 0],.int .i64 0,.int .i64 3]) (by simp[results,Tryz.results108,go_sem,n0,n1,n2,n3]) rfl ?_;obtain⟨hN,hV⟩:=Zr0 (s:=s) (b:=b) (by rw[hE.out];decide);rw[hN,hV,hE.out];exact⟨_,rfl,Y1 _ _,hB9.out⟩
 ·replace hE:=Za hE
  have e1:=Zbh hm;have e2:((b.length:Int) != 128)=false:=by rw[hlb];rfl
  have hemp:(!(Y9 s).isEmpty)=false:=by rw[hfl];rfl
  replace f2:=Za f2;replace hlb:=Za hlb;replace hfl:=Za hfl
  go_enter Tryz.func108,Tryz.ntmps108
  go_upto_region 1 with fail
  clear hw1
  go_wp2_with fail
  with_reducible refine(Yt _ s _ H.out).mono ?_
  rintro e w2 ⟨rfl,hb2⟩;rw[e1];have G2:=(hb2.block w.heap.size kg).trans f1;obtain⟨m0,m1,m2,m3,_,mg⟩:=Ze G2;have F2:=(hb2.block (w.heap.size+1) (by rw[hsz.out];omega)).trans f2.out;have H2:=Za (H.out.below hb2);have U2:=Za (Zf.old U.out hb2);have s2:Hid (w.heap.size+2<=w2.heap.size):=Za (by have:=hb2.size;have:=hsz.out;omega);replace hb2:=Za (hB.trans (hb2.mono hB.size));replace G2:=Za G2;replace F2:=Za F2;clear k0 k1 k2 k3 kg f1 hB
  go_wp2_with fail
  with_reducible refine(Zen _ s hm _ H2.out).mono ?_
  rintro e w3 ⟨rfl,hb3⟩;rw[hemp];have G3:=(hb3.block w.heap.size mg).trans G2.out;obtain⟨k0,k1,k2,k3,_,kg⟩:=Ze G3;have F3:=(hb3.block (w.heap.size+1) (by have:=s2.out;omega)).trans F2.out;have H3:=Za (H2.out.below hb3);have U3:=Za (Zf.old U2.out hb3);have s3:Hid (w.heap.size+2<=w3.heap.size):=Za (by have:=hb3.size;have:=s2.out;omega);replace hb3:=Za (hb2.out.trans (hb3.mono hb2.out.size));replace G3:=Za G3;clear m0 m1 m2 m3 mg G2 F2 H2 U2 hb2;obtain⟨k0,k1,k2,k3,k4,k5⟩:=Ze F3;obtain⟨W9,hW9,g9,gr9,gs9⟩:=Zt (a':=.slice none 0 0) (b':=.slice none 0 0) (c':=.slice none 0 0) (d':=.slice none 0 0) F3;obtain⟨n0,n1,n2,n3,_,_⟩:=Ze g9;have hB9:=Za ((hb3).out.grown gr9 (hb3).out.size (fun q e=>by cases e;omega));replace g9:=Za g9;replace F3:=Za F3;clear gr9 gs9
  go_wp2_with fail
  refine Qam (v:=.tuple #[.agg #[.slice none 0 0,.slice none 0 0,.slice none 0 0,.slice none 0 0],.int .i64 0,.int .i64 9]) (by simp[results,Tryz.results108,go_sem,n0,n1,n2,n3]) rfl ?_;obtain⟨hN,hV⟩:=Zr0 (s:=s) (b:=b) (by rw[hE.out];decide);rw[hN,hV,hE.out];exact⟨_,rfl,Y1 _ _,hB9.out⟩
 ·replace hE:=Za hE
  have e1:=Zbh hm;have e2:((b.length:Int) != 128)=false:=by rw[hlb];rfl
  have hemp:(!(Y9 s).isEmpty)=true:=by cases hq:Y9 s with
   | nil=>exact absurd hq hfl
   | cons k m=>rfl
  obtain⟨h8,h256,h0,hwe⟩:=Zp2 hm hlb hfl;rw[if_pos hfw] at hwe;obtain⟨k,hk⟩:∃ k,tkK s=k:=⟨_,rfl⟩
  obtain⟨R,hR⟩:∃ R,wrR s.1 (k:Int) b=R:=⟨_,rfl⟩
  rw[hk] at h8 h256 hwe;replace f2:=Za f2;replace hlb:=Za hlb;replace hfl:=Za hfl;replace hk:=Za hk;replace hR:=Za hR;replace hwe:=Za hwe
  go_enter Tryz.func108,Tryz.ntmps108
  go_upto_region 1 with fail
  clear hw1
  go_wp2_with fail
  with_reducible refine(Yt _ s _ H.out).mono ?_
  rintro e w2 ⟨rfl,hb2⟩;rw[e1];have G2:=(hb2.block w.heap.size kg).trans f1;obtain⟨m0,m1,m2,m3,_,mg⟩:=Ze G2;have F2:=(hb2.block (w.heap.size+1) (by rw[hsz.out];omega)).trans f2.out;have H2:=Za (H.out.below hb2);have U2:=Za (Zf.old U.out hb2);have s2:Hid (w.heap.size+2<=w2.heap.size):=Za (by have:=hb2.size;have:=hsz.out;omega);replace hb2:=Za (hB.trans (hb2.mono hB.size));replace G2:=Za G2;replace F2:=Za F2;clear k0 k1 k2 k3 kg f1 hB
  go_wp2_with fail
  with_reducible refine(Zen _ s hm _ H2.out).mono ?_
  rintro e w3 ⟨rfl,hb3⟩;rw[hemp];have G3:=(hb3.block w.heap.size mg).trans G2.out;obtain⟨k0,k1,k2,k3,_,kg⟩:=Ze G3;have F3:=(hb3.block (w.heap.size+1) (by have:=s2.out;omega)).trans F2.out;have H3:=Za (H2.out.below hb3);have U3:=Za (Zf.old U2.out hb3);have s3:Hid (w.heap.size+2<=w3.heap.size):=Za (by have:=hb3.size;have:=s2.out;omega);replace hb3:=Za (hb2.out.trans (hb3.mono hb2.out.size));replace G3:=Za G3;clear m0 m1 m2 m3 mg G2 F2 H2 U2 hb2;rw[hk.out];replace F3:=Za F3
  go_wp2_with fail
  with_reducible refine(Zm3 _ _ s.1 (k:Int) b _ H3.out.parts.1 U3.out).mono ?_
  rintro e w4 ⟨A4,c4,B4,d4,rfl,_,hb4⟩;rw[hwe.out,hR.out];have F4:=(hb4.block (w.heap.size+1) (by have:=s3.out;omega)).trans F3.out;obtain⟨w5,hw5,g5,hs5,hb5⟩:=Yd w4 (.slice A4 R.1.length c4) (.slice B4 R.2.length d4) 26;have F5:=(hb5.block (w.heap.size+1) (by have:=s3.out;have:=hb4.size;omega)).trans F4;have B5:=Za (hb3.out.trans ((hb4.trans (hb5.mono hb4.size)).mono hb3.out.size));replace F4:=Za F4;replace g5:=Za g5;replace hs5:=Za hs5;clear hb4 hb5
  go_upto_region 10 with fail
  clear hw5;obtain⟨k0,k1,k2,k3,k4,k5⟩:=Ze F5;obtain⟨W9,hW9,g9,gr9,gs9⟩:=Zt (a':=.slice none 0 0) (b':=.slice none 0 0) (c':=.slice none 0 0) (d':=.slice none 0 0) F5;obtain⟨n0,n1,n2,n3,_,_⟩:=Ze g9;have hB9:=Za ((B5).out.grown gr9 (B5).out.size (fun q e=>by cases e;omega));replace g9:=Za g9;replace F5:=Za F5;clear gr9 gs9
  go_wp2_with fail
  refine Qam (v:=.tuple #[.agg #[.slice none 0 0,.slice none 0 0,.slice none 0 0,.slice none 0 0],.int .i64 0,.int .i64 9]) (by simp[results,Tryz.results108,go_sem,n0,n1,n2,n3]) rfl ?_;obtain⟨hN,hV⟩:=Zr0 (s:=s) (b:=b) (by rw[hE.out];decide);rw[hN,hV,hE.out];exact⟨_,rfl,Y1 _ _,hB9.out⟩
 ·replace hE:=Za hE
  have e1:=Zbh hm;have e2:((b.length:Int) != 128)=false:=by rw[hlb];rfl
  have hemp:(!(Y9 s).isEmpty)=true:=by cases hq:Y9 s with
   | nil=>exact absurd hq hfl
   | cons k m=>rfl
  obtain⟨h8,h256,h0,hwe⟩:=Zp2 hm hlb hfl;rw[if_neg (by omega)] at hwe
  have hV:Hid (tkV s b=(wrR s.1 (tkK s:Int) b,s.2.1.set (tkK s) 1,s.2.2)):=Za (by
   rw[(Zt0 hE.out).2.2.2.2.2.2.2.2.2,Z3x hwe])
  have hT:Hid (tkN s b=(tkK s:Int)):=Za (Zt0 hE.out).2.2.2.2.2.2.2.2.1;obtain⟨k,hk⟩:∃ k,tkK s=k:=⟨_,rfl⟩
  obtain⟨R,hR⟩:∃ R,wrR s.1 (k:Int) b=R:=⟨_,rfl⟩
  rw[hk] at h8 h256 hwe hV hT h0;rw[hR] at hV;obtain⟨hu0,hu1⟩:=Z50 (Yq hm).2.1 h8 h256 (by rw[h0];decide);rw[h0,show (0:UInt8)+1=1 from rfl] at hu1;obtain⟨T,hT2⟩:∃ T,s.2.1.set k 1=T:=⟨_,rfl⟩
  rw[hT2] at hu1 hV;have hll:=Yi (Yq hm).2.2;replace f2:=Za f2;replace hlb:=Za hlb;replace hfl:=Za hfl;replace hk:=Za hk;replace hR:=Za hR;replace hwe:=Za hwe;replace hu0:=Za hu0;replace hu1:=Za hu1;replace hT2:=Za hT2;replace hll:=Za hll;replace h0:=Za h0
  go_enter Tryz.func108,Tryz.ntmps108
  go_upto_region 1 with fail
  clear hw1
  go_wp2_with fail
  with_reducible refine(Yt _ s _ H.out).mono ?_
  rintro e w2 ⟨rfl,hb2⟩;rw[e1];have G2:=(hb2.block w.heap.size kg).trans f1;obtain⟨m0,m1,m2,m3,_,mg⟩:=Ze G2;have F2:=(hb2.block (w.heap.size+1) (by rw[hsz.out];omega)).trans f2.out;have H2:=Za (H.out.below hb2);have U2:=Za (Zf.old U.out hb2);have s2:Hid (w.heap.size+2<=w2.heap.size):=Za (by have:=hb2.size;have:=hsz.out;omega);replace hb2:=Za (hB.trans (hb2.mono hB.size));replace G2:=Za G2;replace F2:=Za F2;clear k0 k1 k2 k3 kg f1 hB
  go_wp2_with fail
  with_reducible refine(Zen _ s hm _ H2.out).mono ?_
  rintro e w3 ⟨rfl,hb3⟩;rw[hemp];have G3:=(hb3.block w.heap.size mg).trans G2.out;obtain⟨k0,k1,k2,k3,_,kg⟩:=Ze G3;have F3:=(hb3.block (w.heap.size+1) (by have:=s2.out;omega)).trans F2.out;have H3:=Za (H2.out.below hb3);have U3:=Za (Zf.old U2.out hb3);have s3:Hid (w.heap.size+2<=w3.heap.size):=Za (by have:=hb3.size;have:=s2.out;omega);replace hb3:=Za (hb2.out.trans (hb3.mono hb2.out.size));replace G3:=Za G3;clear m0 m1 m2 m3 mg G2 F2 H2 U2 hb2;rw[hk.out];replace F3:=Za F3
  go_wp2_with fail
  with_reducible refine(Zm3 _ _ s.1 (k:Int) b _ H3.out.parts.1 U3.out).mono ?_
  rintro e w4 ⟨A4,c4,B4,d4,rfl,hd4,hb4⟩;rw[hwe.out,hR.out];rw[hR.out] at hd4;have F4:=(hb4.block (w.heap.size+1) (by have:=s3.out;omega)).trans F3.out;have G4:=(hb4.block w.heap.size kg).trans G3.out;obtain⟨w5,hw5,g5,hs5,hb5⟩:=Yd w4 (.slice A4 R.1.length c4) (.slice B4 R.2.length d4) 26;have F5:=Za ((hb5.block (w.heap.size+1) (by have:=s3.out;have:=hb4.size;omega)).trans F4);have G5:=(hb5.block w.heap.size (by have:=s3.out;have:=hb4.size;omega)).trans G4;have H5:=Za ((H3.out.below hb4).below hb5);have D5:=Za (hd4.new (Qc _) hb5);have s5:Hid (w4.heap.size+1=w5.heap.size/\w.heap.size+2<=w4.heap.size):=Za ⟨by omega,by have:=s3.out;have:=hb4.size;omega⟩;have B5:=Za (hb3.out.trans ((hb4.trans (hb5.mono hb4.size)).mono hb3.out.size));obtain⟨m0,m1,m2,m3,_,mg⟩:=Ze G5;replace F4:=Za F4;replace g5:=Za g5;replace hs5:=Za hs5;replace G5:=Za G5;clear hb4 hb5 G4 k0 k1 k2 k3 hd4 H3 U3 G3
  go_upto_region 10 with fail
  clear hw5
  go_wp2_with fail
  with_reducible refine(Z2s _ s.2.1 (k:Int) _ H5.out.parts.2.1).mono ?_
  rintro e w6 ⟨E6,c6,rfl,h6,hb6⟩;rw[hu0.out,hu1.out];rw[hu1.out] at h6;have F6:=Za ((hb6.block (w.heap.size+1) (by have:=s5.out;omega)).trans F5.out);have G6:=(hb6.block w.heap.size mg).trans G5.out;have P6:=(hb6.block w4.heap.size (by have:=s5.out;omega)).trans g5.out;have H6:=Za (H5.out.below hb6);have D6:=Za (D5.out.new (Qc _) hb6);have T6:=Za h6;have B6:=Za (B5.out.trans (hb6.mono B5.out.size));have s6:Hid (w.heap.size+2<=w6.heap.size):=Za (by have:=s5.out;have:=hb6.size;omega);clear hb6 h6 m0 m1 m2 m3;obtain⟨m0,m1,m2,m3,_,mg⟩:=Ze G6;obtain⟨p0,p1,_,pg⟩:=Zi P6;replace G6:=Za G6;replace P6:=Za P6;have hcl:Hid (∀ W,Qap w6.heap.size w6 W->Qao Tryz.prog 97 #[.slice L s.2.2.length cl] W fun e W'=>∃ X xc,e=.returned (.slice X s.2.2.length xc)/\rBy (New w6.heap.size W') W' [.slice X s.2.2.length xc] s.2.2/\Qap w6.heap.size w6 W'):=Za fun W hC=>by
   refine(Zaj _ s.2.2 W (by rw[hll.out];omega) (Zf.old H6.out.parts.2.2 hC)).mono ?_;rintro e W' ⟨u,rfl,hx,hb⟩;obtain⟨X,xc,rfl,_⟩:=id (Zo hx);exact⟨X,xc,rfl,Zf.mono hx hC.size,hC.trans (hb.mono hC.size)⟩
  go_upto_region 15 with fail
  have hdr:Qap w6.heap.size w6 w6.drew:=(Qb _ _).drew
  go_region_with (first
   | (go_at_call 97;refine(hcl.out _ hdr).mono ?_;rintro e' wm ⟨X,xc,rfl,hx,hw⟩;have bW:=(hw.block (w.heap.size+1) (by have:=s6.out;omega)).trans F6.out;obtain⟨y0,y1,_,_⟩:=Zi ((hw.block w4.heap.size pg).trans P6.out);obtain⟨c0,c1,c2,c3,c4',_⟩:=Ze bW))
  all_goals
   (go_wp2_with fail
    obtain⟨W9,hW9,g9,gr9,gs9⟩:=Zt (a':=.slice A4 R.1.length c4) (b':=.slice B4 R.2.length d4) (c':=.slice E6 T.length c6) (d':=.slice X s.2.2.length xc) bW;obtain⟨n0,n1,n2,n3,_,_⟩:=Ze g9;rw[hW9];have BW:=B6.out.trans (hw.mono B6.out.size);have l3:=hb3.out.size;have l5:=B5.out.size;have l6:=B6.out.size;have r3:=s3.out;have r5:=s5.out;have r6:=s6.out;refine Qam (v:=.tuple #[.agg #[.slice A4 R.1.length c4,.slice B4 R.2.length d4,.slice E6 T.length c6,.slice X s.2.2.length xc],.int .i64 (k:Int),.int .i64 0]) (by simp[results,Tryz.results108,go_sem,n0,n1,n2,n3]) rfl ?_;rw[hT.out,hV.out,hE.out]
    exact⟨_,rfl,Sto.mk (((D6.out.new (Qc _) hw).grown gr9 (fun q e=>by cases e;omega)).new l3 (Qb _ _)) (Zf.new (Zf.grown (Zf.new T6.out (Qc _) hw) gr9 (fun q e=>by cases e;omega)) l5 (Qb _ _)) (Zf.new (Zf.grown hx gr9 (fun q e=>by cases e;omega)) l6 (Qb _ _)),BW.grown gr9 BW.size (fun q e=>by cases e;omega)⟩)}
theorem Zm4 (A:Option Qak) (len cap m k:Nat) (xs:List UInt8) (hlen:xs.length=len) (hm0:0<m) (hm:m<=4) (hle:k+m<=len) (hlc:len<=cap) (hcap:cap<=9223372036854775807) (w:Qai) (hx:Byt w w.heap.size A xs) :
  Qao Tryz.prog 216 #[.slice A len cap,.int .i64 k,.int .i64 m] w fun e W'=>e=.returned (.tuple #[.int .u32 (num ((xs.drop k).take m)),.int .i64 0])/\Qap w.heap.size w W':=by
 subst hlen;obtain⟨ad,rfl,hp⟩:=hx.part hle hm0;have hl:((xs.drop k).take m).length=m:=by simp;omega
 obtain⟨ad',e,hb,hc⟩:=hp (by omega);cases e;exact callsIn_wide.1 (Zu7 Fence.wide 3 trivial trivial trivial rfl (Qc _) ad xs.length cap m k _ hl hm0 hm hle hlc hcap w (by rw[Zh] at hb;exact hb) hc)
theorem Zml (A:Option Qak) (len cap:Nat) (k:Int) (m:Nat) (hm:m<=4) (hl:len<=9223372036854775807) (h:k<0\/(len:Int)-m<k) (w:Qai) :
  Qao Tryz.prog 216 #[.slice A len cap,.int .i64 k,.int .i64 m] w fun e W'=>e=.returned (.tuple #[.int .u32 0,.int .i64 8])/\w=W':=by{
 by_cases h':k<0
 ·go_enter Tryz.func216,Tryz.ntmps216
  go_wp2
  go_ret2
  exact⟨rfl,rfl⟩
 ·have h2:(len:Int)-m<k:=by omega
  go_enter Tryz.func216,Tryz.ntmps216
  go_wp2
  go_ret2
  exact⟨rfl,rfl⟩}
theorem Ztd (A:Option Qak) (len cap k:Nat) (xs:List UInt8) (hlen:Hid (xs.length=len)) (hle:k+2<=len) (hlc:len<=cap) (hcap:cap<=9223372036854775807) (w:Qai) (hx:Byt w w.heap.size A xs) :
  Qao Tryz.prog 171 #[.slice A len cap,.int .i64 k] w fun e W'=>e=.returned (.tuple #[.int .i64 (num ((xs.drop k).take 2)),.int .i64 0])/\Qap w.heap.size w W':=by{
 have h0:=Za2 ((xs.drop k).take 2);have h1:=Zl2 ((xs.drop k).take 2);have hl:((xs.drop k).take 2).length=2:=by have:=hlen.out;simp;omega
 rw[hl] at h1;simp at h1;clear hl
 go_enter Tryz.func171,Tryz.ntmps171
 go_wp2_with fail
 refine(Zm4 A len cap 2 k xs hlen.out (by omega) (by omega) hle hlc hcap _ hx).mono ?_;rintro e w1 ⟨rfl,hb⟩
 go_wp2
 go_ret2
 exact⟨rfl,hb⟩}
theorem Ztz (A:Option Qak) (len cap:Nat) (k:Int) (hl:len<=9223372036854775807) (h:k<0\/(len:Int)-2<k) (w:Qai) :
  Qao Tryz.prog 171 #[.slice A len cap,.int .i64 k] w fun e W'=>e=.returned (.tuple #[.int .i64 0,.int .i64 8])/\w=W':=by{
 go_enter Tryz.func171,Tryz.ntmps171
 go_wp2_with fail
 refine(Zml A len cap k 2 (by omega) hl h _).mono ?_;rintro e w1 ⟨rfl,rfl⟩
 go_wp2
 go_ret2
 exact⟨rfl,rfl⟩}
theorem Zeh (A:Option Qak) (len cap k:Nat) (xs:List UInt8) (hlen:Hid (xs.length=len)) (hle:k+4<=len) (hlc:len<=cap) (hcap:cap<=9223372036854775807) (w:Qai) (hx:Byt w w.heap.size A xs) :
  Qao Tryz.prog 156 #[.slice A len cap,.int .i64 k] w fun e W'=>e=.returned (.tuple #[.int .u32 (num ((xs.drop k).take 4)),.int .i64 0])/\Qap w.heap.size w W':=by{
 go_enter Tryz.func156,Tryz.ntmps156
 go_wp2_with fail
 refine(Zm4 A len cap 4 k xs hlen.out (by omega) (by omega) hle hlc hcap _ hx).mono ?_;rintro e w1 ⟨rfl,hb⟩
 go_wp2
 go_ret2
 exact⟨rfl,hb⟩}
theorem Zq7 (A:Option Qak) (len cap:Nat) (k:Int) (hl:len<=9223372036854775807) (h:k<0\/(len:Int)-4<k) (w:Qai) :
  Qao Tryz.prog 156 #[.slice A len cap,.int .i64 k] w fun e W'=>e=.returned (.tuple #[.int .u32 0,.int .i64 8])/\w=W':=by{
 go_enter Tryz.func156,Tryz.ntmps156
 go_wp2_with fail
 refine(Zml A len cap k 4 (by omega) hl h _).mono ?_;rintro e w1 ⟨rfl,rfl⟩
 go_wp2
 go_ret2
 exact⟨rfl,rfl⟩}
def tb (n:Int):List UInt8:=if 0<=n/\n<65536 then le 2 n else []
def ge (m:Nat) (len:Nat) (k:Int):Int:=if 0<=k/\k+m<=len then 0 else 8
def gv (m:Nat) (xs:List UInt8) (k:Int):Int:=if 0<=k/\k+m<=xs.length then num ((xs.drop k.toNat).take m) else 0
theorem Zmb {m len:Nat}{k:Int}(h:0<=k/\k+m<=len):ge m len k=0:=if_pos h
theorem Z5b {m len:Nat}{k:Int}(h:¬ (0<=k/\k+m<=len)):ge m len k=8:=if_neg h
theorem Zgd {m:Nat}{xs:List UInt8}{k:Int}(h:0<=k/\k+m<=xs.length):gv m xs k=num ((xs.drop k.toNat).take m):=if_pos h
theorem Z1t {m:Nat}{xs:List UInt8}{k:Int}(h:¬ (0<=k/\k+m<=xs.length)):gv m xs k=0:=if_neg h
theorem Zd9 (m:Nat) (xs:List UInt8) (k:Int):0<=gv m xs k/\gv m xs k<(256:Int) ^ m:=by{
 by_cases h:0<=k/\k+m<=xs.length
 ·rw[Zgd h]
  have hl:((xs.drop k.toNat).take m).length=m:=by simp;omega
  have h1:=Zl2 ((xs.drop k.toNat).take m);rw[hl] at h1;exact⟨Za2 _,h1⟩
 ·rw[Z1t h]
  exact⟨by omega,Int.pow_pos (by omega)⟩}
theorem Zh5 (A:Option Qak) (len cap:Nat) (k:Int) (xs:List UInt8) (hlen:Hid (xs.length=len)) (hlc:len<=cap) (hcap:cap<=9223372036854775807) (w:Qai) (hx:Byt w w.heap.size A xs) :
  Qao Tryz.prog 171 #[.slice A len cap,.int .i64 k] w fun e W'=>e=.returned (.tuple #[.int .i64 (gv 2 xs k),.int .i64 (ge 2 len k)])/\Qap w.heap.size w W':=by{
 obtain rfl:=hlen.out;by_cases h:0<=k/\k+(2:Nat)<=xs.length
 ·rw[Zmb h,Zgd h]
  obtain⟨n,rfl⟩:=Int.eq_ofNat_of_zero_le h.1;rw[Int.toNat_natCast];exact Ztd A _ cap n xs hlen (by omega) hlc hcap w hx
 ·rw[Z5b h,Z1t h]
  exact(Ztz A xs.length cap k (by omega) (by omega) w).mono fun e w' ⟨he,hw⟩=>⟨he,hw ▸ Qb _ _⟩}
theorem Zdi (A:Option Qak) (len cap:Nat) (k:Int) (xs:List UInt8) (hlen:Hid (xs.length=len)) (hlc:len<=cap) (hcap:cap<=9223372036854775807) (w:Qai) (hx:Byt w w.heap.size A xs) :
  Qao Tryz.prog 156 #[.slice A len cap,.int .i64 k] w fun e W'=>e=.returned (.tuple #[.int .u32 (gv 4 xs k),.int .i64 (ge 4 len k)])/\Qap w.heap.size w W':=by{
 obtain rfl:=hlen.out;by_cases h:0<=k/\k+(4:Nat)<=xs.length
 ·rw[Zmb h,Zgd h]
  obtain⟨n,rfl⟩:=Int.eq_ofNat_of_zero_le h.1;rw[Int.toNat_natCast];exact Zeh A _ cap n xs hlen (by omega) hlc hcap w hx
 ·rw[Z5b h,Z1t h]
  exact(Zq7 A xs.length cap k (by omega) (by omega) w).mono fun e w' ⟨he,hw⟩=>⟨he,hw ▸ Qb _ _⟩}
def Zkz (xs:List UInt8):List UInt8:=xs++Yj (124-xs.length)
def Zbw (xs:List UInt8):List UInt8:=le 4 (crc (Zkz xs):Nat)++Zkz xs
theorem Zg4 {xs:List UInt8}(h:xs.length<=124):(Zkz xs).length=124:=by simp[Zkz,Yj];omega
theorem Ze7 {xs:List UInt8}(h:xs.length<=124):(Zbw xs).length=128:=by simp[Zbw,Z6,Zg4 h]
theorem Zso {xs:List UInt8}(h:xs.length<=124):splice (Yj 128) 4 xs=Yj 4++Zkz xs:=by
 simp only[splice,Yj,Zkz,List.take_replicate,List.drop_replicate];rw[show min 4 128=4 from rfl,show 128-(4+xs.length)=124-xs.length by omega]
theorem Znm (ys zs:List UInt8) (h:ys.length=4):splice (Yj 4++zs) 0 ys=ys++zs:=by
 simp only[splice,Q8,Qy,Qz,h];rw[Q0 (by simp[Yj])]
theorem Z1v (A:Option Qak) (len cap:Nat) (hl:124<len) (w:Qai) :
  Qao Tryz.prog 167 #[.slice A len cap] w fun e w'=>e=.returned (.tuple #[.slice none 0 0,.int .i64 3])/\w=w':=by{
 go_enter Tryz.func167,Tryz.ntmps167
 go_wp2
 go_ret2
 exact⟨rfl,rfl⟩}
theorem Z2o (A:Option Qak) (len cap:Nat) (xs:List UInt8) (hlen:Hid (xs.length=len)) (hl:len<=124) (_:len<=cap) (_:cap<=9223372036854775807) (w:Qai) (hx:Byt w w.heap.size A xs) :
  Qao Tryz.prog 167 #[.slice A len cap] w fun e w'=>e=.returned (.tuple #[.slice (some ⟨w.heap.size,0,none⟩) 128 128,.int .i64 0])/\Row w' w.heap.size (Zbw xs)/\Qap w.heap.size w w':=by{
 have hmk:(Instr.makeSlice 27 (.int .i64 128) (.int .i64 128)).run Tryz.prog w=.ok (.slice (some ⟨w.heap.size,0,none⟩) 128 128) (w.alloc (.cells (Zkt (Yj 128)) 5)):=Zei 128 (by omega) w;have hB1:=Zb4 (Qb w.heap.size w) (.cells (Zkt (Yj 128)) 5);obtain⟨w2,hc2,hR2,hB2⟩:=Zpg 3 (off:=4) (dLen:=124) (dCap:=124) (sLen:=len) (sCap:=cap) (Row.new w (Yj 128)) (hx.below hB1) hlen.out (by simp[Yj];omega);rw[Qaa hl,Qj (by rw[hlen.out];omega),Zso (by rw[hlen.out];omega)] at hR2;rw[Qaa hl] at hc2;have hp:=hR2.tail 4 (by simp[Yj]);rw[Q0 (by simp[Yj])] at hp;have hB:=hB1.trans hB2;have hpl:Hid ((Zkz xs).length=124):=Za (Zg4 (by rw[hlen.out];omega));have HR2:=Za hR2;clear hR2 hx hB1 hB2
 go_enter Tryz.func167,Tryz.ntmps167
 go_wp2_with fail
 refine(Zt7 _ _ 124 _ hpl (by omega) (by omega) _ hp).mono ?_;rintro e w3 ⟨rfl,hb3⟩
 go_wp2_with fail
 refine(Zpp _ (by omega) (by have:=Zp4 (Zkz xs);omega) _).mono ?_;rintro e w4 ⟨F,rfl,hf,hb4⟩;have hb24:=Z0n hb3 hb4;obtain⟨w5,hc5,hR5,hB5⟩:=Zpg 3 (off:=0) (dLen:=128) (dCap:=128) (sLen:=4) (sCap:=4) (HR2.out.after hb24) hf (Z6 4 _) (by simp[Yj]);rw[show min 4 128=4 from rfl] at hc5 hR5;rw[Qj (by rw[Z6];omega),Znm _ _ (Z6 4 _)] at hR5;have hBe:=(hB.trans (hb24.mono hB.size)).trans hB5;have HR5:Hid (Row w5 w.heap.size (Zbw xs)):=Za hR5;clear hR5 HR2 hp hb3 hb4 hb24 hB hB5 hf hmk hc2
 go_wp2_with fail
 go_ret2
 exact⟨rfl,HR5.out,hBe⟩}
theorem Z1s (A:Option Qak) (len cap:Nat) (hl:len≠128) (w:Qai) :
  Qao Tryz.prog 99 #[.slice A len cap] w fun e w'=>e=.returned (.tuple #[.slice none 0 0,.int .i64 3])/\w=w':=by{
 go_enter Tryz.func99,Tryz.ntmps99
 go_wp2
 go_ret2
 exact⟨rfl,rfl⟩}
def Zpe (xs:List UInt8):Prop:=num (xs.take 4)=(crc (xs.drop 4):Nat)
theorem Zy2 (ad:Qak) (cap:Nat) (xs:List UInt8) (hlen:Hid (xs.length=128)) (hlc:128<=cap) (hcap:cap<=9223372036854775807) (w:Qai) (hx:Byt w w.heap.size (some ad) xs) (hn:¬ Zpe xs) :
  Qao Tryz.prog 99 #[.slice (some ad) 128 cap] w fun e w'=>e=.returned (.tuple #[.slice none 0 0,.int .i64 8])/\Qap w.heap.size w w':=by{
 have hp:Byt w w.heap.size (some (ad.add 4)) (xs.drop 4):=by
  obtain⟨ad',e,hp⟩:=hx.part (k:=4) (n:=124) (by rw[hlen.out];omega) (by omega);cases e
  rwa [Qj (by simp[hlen.out])] at hp
 have hpl:Hid ((xs.drop 4).length=124):=Za (by simp[hlen.out]);have hb:=Zp4 (xs.drop 4);have hd:((num (xs.take 4):Int)==(crc (xs.drop 4):Nat))=false:=by simpa [Zpe] using hn
 have hd':((num (xs.take 4):Int) != (crc (xs.drop 4):Nat))=true:=by simpa [Zpe] using hn
 have HD:=Za hd;have HD':=Za hd';clear hn hd hd'
 go_enter Tryz.func99,Tryz.ntmps99
 go_wp2_with fail
 refine(Zeh _ _ cap 0 xs hlen (by omega) (by omega) (by omega) _ hx).mono ?_;rintro e w1 ⟨rfl,hb1⟩;rw[Qp];have hp1:=(hp.below hb1).more hb1.size
 go_wp2_with fail
 refine(Zt7 _ _ _ _ hpl (by omega) (by omega) _ hp1).mono ?_;rintro e w2 ⟨rfl,hb2⟩;generalize num (xs.take 4)=q at *;generalize crc (xs.drop 4)=r at *;have hd:=HD.out;have hd':=HD'.out
 go_wp2_with fail
 go_ret2
 exact⟨rfl,Z0n hb1 hb2⟩}
theorem Zz8 {w:Qai}{B B':Nat}{e:Qal}{v:Qaj}{n:Nat}{xs:List Qaj}(h:w.ownsRow B e 1 v n xs) (hb:B'<=B):w.ownsRow B' e 1 v n xs:=by
 refine⟨h.1,h.2.imp id ?_⟩;rintro⟨g,cap,cur,h1,h2,h3⟩;exact⟨g,cap,cur,h1,Qf hb h2,h3⟩
theorem Z1r (ad:Qak) (cap:Nat) (xs:List UInt8) (hlen:Hid (xs.length=128)) (hlc:128<=cap) (hcap:cap<=9223372036854775807) (w:Qai) (hx:Byt w w.heap.size (some ad) xs) (hn:Zpe xs) :
  Qao Tryz.prog 99 #[.slice (some ad) 128 cap] w fun e w'=>∃ v,e=.returned (.tuple #[v,.int .i64 0])/\w'.ownsRow w.heap.size 5 1 v 124 (u8s (xs.drop 4))/\Qap w.heap.size w w':=by{
 have hp:Byt w w.heap.size (some (ad.add 4)) (xs.drop 4):=by
  obtain⟨ad',e,hp⟩:=hx.part (k:=4) (n:=124) (by rw[hlen.out];omega) (by omega);cases e
  rwa [Qj (by simp[hlen.out])] at hp
 have hpl:Hid ((xs.drop 4).length=124):=Za (by simp[hlen.out]);have hb:=Zp4 (xs.drop 4);have HN:Hid (num (xs.take 4)=(crc (xs.drop 4):Nat)):=Za hn;clear hn
 go_enter Tryz.func99,Tryz.ntmps99
 go_wp2_with fail
 refine(Zeh _ _ cap 0 xs hlen (by omega) (by omega) (by omega) _ hx).mono ?_;rintro e w1 ⟨rfl,hb1⟩;rw[Qp,HN.out];have hp1:=(hp.below hb1).more hb1.size
 go_wp2_with fail
 refine(Zt7 _ _ _ _ hpl (by omega) (by omega) _ hp1).mono ?_;rintro e w2 ⟨rfl,hb2⟩;generalize crc (xs.drop 4)=r at *;have hp2:=(hp1.below hb2).more hb2.size
 go_wp2_with fail
 refine(Zio _ _ _ _ hpl (by omega) _ hp2).mono ?_;rintro e w3 ⟨v,rfl,hown,_,hb3⟩;have hB:=Z0n (Z0n hb1 hb2) hb3;have hsz:=Qf hb1.size hb2.size;have HO:=Za (Zz8 hown hsz);clear hown hp hp1 hp2 hx hb1 hb2 hb3 hsz
 go_wp2_with fail
 go_ret2
 exact⟨v,rfl,HO.out,hB⟩}
theorem Zmm (xs:List UInt8):Zpe (Zbw xs):=by
 unfold Zpe Zbw;rw[Pu (Z6 4 _),Q0 (Z6 4 _)];exact Z08 4 _ (by omega) (by have:=Zp4 (Zkz xs);simp;omega)
theorem Zug (xs:List UInt8):(Zbw xs).drop 4=Zkz xs:=by
 unfold Zbw;rw[Q0 (Z6 4 _)]
theorem Zlc {xs:List UInt8}(h:xs.length=124):Zkz xs=xs:=by simp[Zkz,Yj,h]
theorem Zuk {xs:List UInt8}(h:xs.length=128) (hf:Zpe xs):Zbw (xs.drop 4)=xs:=by
 unfold Zpe at hf;unfold Zbw;have e:=Zva (xs.take 4);rw[show (xs.take 4).length=4 by simp[h]] at e;rw[Zlc (by simp[h]),<- hf,e];exact Q3 4 xs
theorem Zg3 (lo:Nat) (w:Qai):rBy (New lo w) w [.slice none 0 0] []:=⟨none,0,rfl,by simp,by omega,fun i x h=>by simp at h⟩
theorem Zi1 {a:Qaj}{k:IntKind}{x y:Int}(h:x=y):Ending.returned (.tuple #[a,.int k x])=.returned (.tuple #[a,.int k y]):=by rw[h]
theorem Zgs (v:Qaj) (n m c:Nat) (xs ys:List UInt8) (A:Option Qak) (lo:Nat) (w:Qai) (hown:w.ownsRow lo 5 1 v n (u8s xs)) (hy:Byt w w.heap.size A ys) (hl:ys.length=m) (hs:n+m<=1000000000) (hlo:lo<=w.heap.size) :
  ∃ v' w',(Qm #[27,27] 27 #[v,.slice A m c]).run Tryz.prog w=.ok v' w'/\w'.ownsRow lo 5 1 v' (n+m) (u8s (xs++ys))/\Qap lo w w':=by
 obtain⟨i0,hi,hz0,hz1,hz2⟩:=info_parts Zff;exact Z10 (P:=Tryz.prog) (w:=w) lo 27 27 5 i0 Tryz.underlying27 hi hz0 hz1 hz2 v n xs hown w.heap.size A m c ys hy hl hs hlo
theorem Vj {P:Program}{w:Qai}{ops:Array Oper}{rest:List Oper}{o:Oper}{a:Act}{Q:Exit->Act->Qai->Prop}(hgd:o.guard=none) (s x:Operand) (t tn:Qal)
  (ho:o.op=.call { callee:=.builtin .append,args:=#[s,x],argTypes:=#[t,tn] }) {v u v':Qaj} {w':Qai} (hs:a.eval s=v) (hx:a.eval x=u)
  (hrun:(Qm #[t,tn] o.type #[v,u]).run P w=.ok v' w') (h:wpList P ops Q rest (a.put o.dst v') w'):wpList P ops Q (o::rest) a w :=
 wpList_plain hgd fun _ hK=>by
  unfold Oper.wp execOp;simp only[ho,resolve,invoke,builtin,Sem.run_bind,Sem.run_pure,Result.andThen_ok,List.map_toArray,List.map_cons,List.map_nil,hs,hx,hrun];exact hK _ _ h
theorem Zy5 (n:Nat) (hn:n<=1000000) (w:Qai) :
  Qao Tryz.prog 113 #[.slice none 0 0,.int .i64 n] w fun e w'=>∃ u,e=.returned u/\w'.ownsRow w.heap.size 5 1 u 0 []/\Qap w.heap.size w w':=by{
 rcases Pf n with h0 | h0
 ·subst h0
  go_enter Tryz.func113,Tryz.ntmps113
  go_wp2
  go_ret;exact⟨_,rfl,Qs _ _ _ _,Qb _ _⟩
 ·obtain⟨i0,hi,hz0,hz1,hz2⟩:=info_parts Zff
  have hr:=Go.Lib.run_append_grow_zeros (P:=Tryz.prog) w 27 3 27 5 i0 (.int .u8 0) .i64 .i64 Tryz.underlying27 Tryz.underlying3 hi hz0 none 0 0 [] (run_firstCells_none w.drew i0.size 0 0 0) n h0 (by omega) (by omega) (by omega) (by rw[hz2];omega) (by rw[hz2,Qz,nextslicecap_zero (by omega)];omega);rw[Qz] at hr;have hge:=grownCap_ge w n 0 5;have hle:=grownCap_le_maxLen w n 0 5 (by unfold maxLen;omega);generalize grownCap w n 0 5=gc at hr hge hle;have hsz:(([]:List Qaj).toArray++Q5 (Value.int .u8 0).cells n++Q5 (Value.int .u8 0).cells (gc-n)).size=gc*1:=by
   simp only[Array.size_append,size_zeroCells];simp[Value.cells];omega
  generalize ([]:List Qaj).toArray++Q5 (Value.int .u8 0).cells n++Q5 (Value.int .u8 0).cells (gc-n)=cur at hr hsz;have hown:(w.drew.alloc (.cells cur 5)).ownsRow w.heap.size 5 1 (.slice (some ⟨w.heap.size,0,none⟩) 0 gc) 0 [] :=
   ⟨rfl,.inr ⟨w.heap.size,gc,cur,rfl,Qc _,Qan w.drew _,by omega,hle,hsz,by simp⟩⟩
  have hB:Qap w.heap.size w (w.drew.alloc (.cells cur 5)):=(Qb w.heap.size w).drew.alloc (Qc _) _;unfold maxLen at hle;generalize w.drew.alloc (.cells cur 5)=w9 at hr hown hB;have H:=Za hr;replace hown:=Za hown;have h1:¬ ((n:Int)<0):=by omega
  have h2:(n:Int)>0:=by omega
  clear hsz hr
  go_enter Tryz.func113,Tryz.ntmps113
  go_wp2_with (at_builtin;refine Vj rfl _ _ _ _ rfl rfl rfl H.out ?_;clear H)
  go_ret;exact⟨_,rfl,hown.out,hB⟩}
def Zhf (xss:List (List UInt8)):Nat:=xss.flatten.length
theorem Zmv {xss:List (List UInt8)}{k:Nat}{x:List UInt8}(h:xss[k]? = some x):Zhf (xss.take (k+1))=Zhf (xss.take k)+x.length:=by
 simp[Zhf,Qu,h]
theorem Zuh {xss:List (List UInt8)}{k:Nat}{x:List UInt8}(h:xss[k]? = some x):(xss.take (k+1)).flatten=(xss.take k).flatten++x:=by
 simp[Qu,h]
theorem Z1l {xss:List (List UInt8)}(k:Nat):Zhf (xss.take k)<=Zhf xss:=by
 have h:Zhf xss=Zhf (xss.take k)+Zhf (xss.drop k):=by
  unfold Zhf;rw[<- Qw,<- List.flatten_append,Q3]
 omega
theorem Zej (v:Qaj) (xss:List (List UInt8)) (w:Qai) (hbig:Zhf xss<=1000000) (h:rSl 1 rBy (Old w) w [v] xss) :
  Qao Tryz.prog 66 #[v] w fun e w'=>∃ u,e=.returned u/\w'.ownsRow w.heap.size 5 1 u (Zhf xss) (u8s xss.flatten)/\Qap w.heap.size w w':=by{
 obtain⟨A,c,e1,l1,m1,hA⟩:=Zad h;cases e1;have HA:=Za hA;clear hA h;obtain⟨n,hn⟩:∃ n,xss.length=n:=⟨_,rfl⟩
 rw[hn] at l1 ⊢;replace hn:=Za hn;obtain⟨m,hm⟩:∃ m,Zhf xss=m:=⟨_,rfl⟩
 rw[hm] at hbig ⊢;have hle:=Za (fun k=>(hm ▸ Z1l k:Zhf (xss.take k)<=m));replace hm:=Za hm
 go_enter Tryz.func66,Tryz.ntmps66
 go_wp2_with fail
 go_loop [3,11] (fun s i=>∃ k:Nat,k<=n/\i=.int .i64 k/\s=.int .i64 (Zhf (xss.take k))) (fun _ i=>n-(intOf i).toNat)
 case atStart=>exact⟨0,by omega,rfl,rfl⟩
 case round =>
  obtain⟨k,hk,rfl,rfl⟩:=hrel;have hlk:=hle.out k;by_cases hlt:k<n
  ·obtain⟨x,hx⟩:∃ x,xss[k]? = some x:=⟨_,Qe (by rw[hn.out];exact hlt)⟩
   obtain⟨ad,u,rfl,hok,hc,hby⟩:=HA.out k x hx;have hs:=Za (Zmv hx);have hlk2:=hle.out (k+1);rw[hs.out] at hlk2;obtain⟨E,ce,rfl,_⟩:=id (Zo hby);generalize Zhf (xss.take k)=q at *;replace hx:=Za hx;have h3:¬ ((q:Int)+(x.length:Int)<0):=by omega
   clear hby
   go_wp2_with fail
   go_round
   case rel=>exact⟨k+1,by omega,by go_num,by rw[hs.out];go_num⟩
   case measure=>simp[intOf];omega
  ·have hge:n<=k:=by omega
   have htk:=Za (show Zhf (xss.take k)=m by rw[Qj (by rw[hn.out];exact hge)];exact hm.out);rw[htk.out] at hlk ⊢
   go_wp2_with fail
   with_reducible refine(Zy5 m hbig _).mono ?_
   rintro e2 w2 ⟨u,rfl,ho,hb2⟩;replace ho:=Za ho;replace hb2:=Za hb2;clear hlk htk
   go_wp2_with fail
   go_loopw [6,27] (fun u i wr=>∃ k:Nat,k<=n/\i=.int .i64 k/\wr.ownsRow w.heap.size 5 1 u (Zhf (xss.take k)) (u8s (xss.take k).flatten)/\Qap w.heap.size w wr) (fun _ i _=>n-(intOf i).toNat)
   case atStart=>exact⟨0,by omega,rfl,ho.out,hb2.out⟩
   case round =>
    clear hge hk hlt ho hb2;obtain⟨j,hk,rfl,hown,hB⟩:=hrel;have hlk:=hle.out j;by_cases hlt:j<n
    ·obtain⟨x,hx⟩:∃ x,xss[j]? = some x:=⟨_,Qe (by rw[hn.out];exact hlt)⟩
     obtain⟨ad,u,rfl,hok,hc,hby⟩:=HA.out j x hx;have hc':=(hB.cell hok).trans hc;have hs:=Za (Zmv hx);have hf:=Za (Zuh hx);have hlk2:=hle.out (j+1);rw[hs.out] at hlk2;obtain⟨E,ce,rfl,_,_,hy⟩:=Xs (B:=wr.heap.size) (fun p hp=>hp) (Zf.old hby hB);obtain⟨v3,w3,hr3,o3,ba3⟩:=Zgs _ (Zhf (xss.take j)) x.length ce _ _ E w.heap.size wr hown hy rfl (by omega) hB.size;have B3:=Za (hB.trans ba3);have H3:=Za hr3;replace o3:=Za o3;clear hr3 ba3 hy hby hc hown hB;replace hx:=Za hx
     go_wp2_with (at_builtin;refine Zu rfl _ _ _ rfl rfl rfl H3.out ?_;clear H3)
     go_roundw
     case rel=>exact⟨j+1,by omega,by go_num,by rw[hs.out,hf.out];exact o3.out,B3.out⟩
     case measure=>simp[intOf];omega
    ·have hge:n<=j:=by omega
     have htk:xss.take j=xss:=Qj (by rw[hn.out];exact hge);rw[htk,hm.out] at hown;replace hown:=Za hown;have B:=Za hB;clear hB htk
     go_wp2_with fail
     go_ret;exact⟨_,rfl,hown.out,B.out⟩}
def sb (xs:List UInt8):List UInt8:=if xs.length<=124 then Zbw xs else []
def se (n:Nat):Int:=if n<=124 then 0 else 3
open Classical in
def ob (xs:List UInt8):List UInt8:=if xs.length=128/\Zpe xs then xs.drop 4 else []
open Classical in
def oe (xs:List UInt8):Int:=if xs.length=128 then (if Zpe xs then 0 else 8) else 3
theorem Zy6 (A:Option Qak) (len cap:Nat) (xs:List UInt8) (hlen:Hid (xs.length=len)) (hlc:len<=cap) (hcap:cap<=9223372036854775807) (w:Qai) (hx:Byt w w.heap.size A xs) :
  Qao Tryz.prog 167 #[.slice A len cap] w fun e w'=>∃ v,e=.returned (.tuple #[v,.int .i64 (se len)])/\w'.ownsRow w.heap.size 5 1 v (sb xs).length (u8s (sb xs))/\Qap w.heap.size w w':=by{
 by_cases h:len<=124
 ·have h1:se len=0:=if_pos h
  have h2:sb xs=Zbw xs:=if_pos (by rw[hlen.out];exact h);rw[h1,h2];refine(Z2o A len cap xs hlen h hlc hcap w hx).mono ?_;rintro e w' ⟨rfl,hR,hb⟩;have hl:=Ze7 (xs:=xs) (by rw[hlen.out];exact h);have:=hR.own (Qc _) (by omega);exact⟨_,rfl,by rwa [hl] at this ⊢,hb⟩
 ·have h1:se len=3:=if_neg h
  have h2:sb xs=[]:=if_neg (by rw[hlen.out];exact h);rw[h1,h2];refine(Z1v A len cap (by omega) w).mono ?_;rintro e w' ⟨rfl,rfl⟩;exact⟨_,rfl,Qs _ _ _ _,Qb _ _⟩}
theorem Zxx (A:Option Qak) (len cap:Nat) (xs:List UInt8) (hlen:Hid (xs.length=len)) (hlc:len<=cap) (hcap:cap<=9223372036854775807) (w:Qai) (hx:Byt w w.heap.size A xs) :
  Qao Tryz.prog 99 #[.slice A len cap] w fun e w'=>∃ v,e=.returned (.tuple #[v,.int .i64 (oe xs)])/\w'.ownsRow w.heap.size 5 1 v (ob xs).length (u8s (ob xs))/\Qap w.heap.size w w':=by{
 by_cases h:len=128
 ·subst h
  obtain⟨ad,rfl,_,_⟩:=hx (by rw[hlen.out];omega);by_cases hf:Zpe xs
  ·have h1:oe xs=0:=by unfold oe;rw[if_pos hlen.out,if_pos hf]
   have h2:ob xs=xs.drop 4:=by unfold ob;rw[if_pos ⟨hlen.out,hf⟩]
   rw[h1,h2,show (xs.drop 4).length=124 by simp[hlen.out]];exact Z1r ad cap xs hlen hlc hcap w hx hf
  ·have h1:oe xs=8:=by unfold oe;rw[if_pos hlen.out,if_neg hf]
   have h2:ob xs=[]:=by unfold ob;rw[if_neg (fun h=>hf h.2)]
   rw[h1,h2];refine(Zy2 ad cap xs hlen hlc hcap w hx hf).mono ?_;rintro e w' ⟨rfl,hb⟩;exact⟨_,rfl,Qs _ _ _ _,hb⟩
 ·have h1:oe xs=3:=by unfold oe;rw[if_neg (by rw[hlen.out];exact h)]
  have h2:ob xs=[]:=by unfold ob;rw[if_neg (fun h'=>h (by rw[<- hlen.out];exact h'.1))]
  rw[h1,h2];refine(Z1s A len cap h w).mono ?_;rintro e w' ⟨rfl,rfl⟩;exact⟨_,rfl,Qs _ _ _ _,Qb _ _⟩}
theorem Zi3 (n:Int) (h0:0<=n) (h1:n<4294967296) (w:Qai) :
  Qao Tryz.prog 67 #[.int .u32 n] w fun e w'=>∃ A c,e=.returned (.slice A 4 c)/\rBy (Old w') w' [.slice A 4 c] (le 4 n)/\Qap w.heap.size w w' :=
 (Zpp n h0 h1 w).mono fun _ _ ⟨A,e,hy,hb⟩=>⟨A,4,e,by have:=Zoi (cap:=4) hy (by rw[Z6];omega) (by omega);rwa [Z6] at this,hb⟩
theorem Z0u (n:Int) (h0:0<=n) (h1:n<65536) (w:Qai) :
  Qao Tryz.prog 65 #[.int .i64 n] w fun e w'=>∃ A,e=.returned (.tuple #[.slice A 2 2,.int .i64 0])/\rBy (Old w') w' [.slice A 2 2] (le 2 n)/\Qap w.heap.size w w' :=
 (Z4h n h0 h1 w).mono fun _ _ ⟨A,e,hy,hb⟩=>⟨A,e,by have:=Zoi (cap:=2) hy (by rw[Z6];omega) (by omega);rwa [Z6] at this,hb⟩
theorem Zfm (w:Qai) (t:Qal) (x:UInt8) (n:Int) (h:(x.toNat:Int)=n):rBy (Old (w.alloc (.cells #[.int .u8 n] t))) (w.alloc (.cells #[.int .u8 n] t)) [.slice (some ⟨w.heap.size,0,none⟩) 1 1] [x]:=by
 subst h;have hy:=Z3y w t [x] #[.int .u8 (x.toNat:Int)] rfl;have e:(w.alloc (.cells #[.int .u8 (x.toNat:Int)] t)).heap.size=w.heap.size+1:=by simp
 rw[<- e] at hy;exact Zoi (xs:=[x]) (cap:=1) hy (Qc _) (by omega)
theorem Zkn (w:Qai) (t:Qal) (vs:List Qaj) (xss:List (List UInt8)) (hl:vs.length=xss.length) (hb:xss.length<=1000) (h:∀ (i:Nat) (v:Qaj) (x:List UInt8),vs[i]? = some v->xss[i]? = some x->rBy (Old w) w [v] x) :
  rSl 1 rBy (Old (w.alloc (.cells vs.toArray t))) (w.alloc (.cells vs.toArray t)) [.slice (some ⟨w.heap.size,0,none⟩) xss.length xss.length] xss:=by{
 have hB:Qap w.heap.size w (w.alloc (.cells vs.toArray t)):=(Qb _ _).alloc (Qc _) _;refine⟨_,_,rfl,Qc _,by omega,fun i x hi=> ?_⟩;have hil:i<vs.length:=by rw[hl];exact(Qh.1 hi).1
 have hv:vs[i]? = some vs[i]:=Qe hil;refine⟨_,[vs[i]],rfl,rfl,fun j v hj=> ?_,Zf.old (h i _ x hv hi) hB⟩;have hj0:j=0:=by
  have:=(Qh.1 hj).1;simp at this;omega
 subst hj0;cases hj;have e:(⟨w.heap.size,0,none⟩:Qak).add (i*1+0)=⟨w.heap.size,i,none⟩:=by rw[Zbj];simp
 rw[e];refine⟨by simp[Old],?_⟩;simp}
theorem Zah {W:Qai}{g:Nat}{a b c d e u0 u1 u2 u3 u4:Qaj}{t:Qal}(h:W.heap[g]? = some (.cells #[a,b,c,d,e] t (0,0))):∃ W1,((((W.setCell ⟨g,0,none⟩ u0).setCell ⟨g,1,none⟩ u1).setCell ⟨g,2,none⟩ u2).setCell ⟨g,3,none⟩ u3).setCell ⟨g,4,none⟩ u4=W1 /\
  W1.heap[g]? = some (.cells #[u0,u1,u2,u3,u4] t (0,0))/\W.grownBy W1 (some g)/\W1.heap.size=W.heap.size :=
 ⟨_,rfl,by simp[Qo,Qt,h],Zp (p:=⟨g,4,none⟩) (Zp (p:=⟨g,3,none⟩) (Zp (p:=⟨g,2,none⟩) (Zp (p:=⟨g,1,none⟩) (Zp (p:=⟨g,0,none⟩) (Ye W (some g)) rfl u0) rfl u1) rfl u2) rfl u3) rfl u4,by simp⟩
theorem Zq {W:Qai}{g:Nat}{a b c d e:Qaj}{t:Qal}(h:W.heap[g]? = some (.cells #[a,b,c,d,e] t (0,0))):W.cell? ⟨g,0,none⟩=some a/\W.cell? ⟨g,1,none⟩=some b/\W.cell? ⟨g,2,none⟩=some c/\W.cell? ⟨g,3,none⟩=some d/\W.cell? ⟨g,4,none⟩=some e/\(∀ o,W.frozen? ⟨g,o,none⟩=false)/\g<W.heap.size :=
 ⟨by simp[Qi,h],by simp[Qi,h],by simp[Qi,h],by simp[Qi,h],by simp[Qi,h],fun o=>by simp[Ph,h],(Qn.1 h).1⟩
theorem Zlp:(Tryz.prog.info? 3).map (fun i=>(i.zero,i.size,i.bytes))=some (some (.int .i64 0),1,8):=by kernel_rfl
theorem Zi5 {ok:Qak->Prop}{w:Qai}{n:Int}(h:Zcz n):rK .i64 ok w [.int .i64 n] n:=⟨rfl,by simpa [IntKind.min,IntKind.signed,IntKind.bits] using h.1,by simpa [IntKind.max,IntKind.signed,IntKind.bits] using h.2⟩
theorem Z5q (body:List UInt8) (k:Int):Zcz (gv 2 body k):=by
 have:=Zd9 2 body k;exact⟨by omega,by omega⟩
theorem Z01 (body:List UInt8) (k:Int):InU (gv 4 body k):=by
 have:=Zd9 4 body k;exact⟨by omega,by omega⟩
def orN (xs:List Int):Int:=(xs.find? fun x=>x != 0).getD 0
theorem Zqt {xs:List Int}{k:Nat}{x:Int}(h:∀ y∈xs.take k,y=0) (hx:xs[k]? = some x) (h0:x≠0):orN xs=x:=by{
 have e:xs=xs.take k++x::xs.drop (k+1):=by
  have hk:=(Qh.1 hx)
  obtain⟨hk1,hk2⟩:=hk;rw[<- hk2,<- Qab hk1,Q3]
 unfold orN;rw[e,List.find?_append,Qac.2 (by intro y hy;simp[h y hy])];simp[h0]}
theorem Zqk {xs:List Int}(h:∀ y∈xs,y=0):orN xs=0:=by
 unfold orN;rw[Qac.2 (by intro y hy;simp[h y hy])];rfl
theorem Ztm (v:Qaj) (xs:List Int) (w:Qai) (h:Zhd (Old w) w [v] xs) :
  Qao Tryz.prog 172 #[v] w fun e w'=>e=.returned (.int .i64 (orN xs))/\w=w':=by{
 obtain⟨A,c,rfl,l1,m1,hA⟩:=Zer h;have HA:=Za hA;clear hA h;obtain⟨n,hn⟩:∃ n,xs.length=n:=⟨_,rfl⟩
 rw[hn] at l1 ⊢;replace hn:=Za hn
 go_enter Tryz.func172,Tryz.ntmps172
 go_wp2_with fail
 go_loop [8] (fun i=>∃ k:Nat,k<=n/\i=.int .i64 k/\∀ y∈xs.take k,y=0) (fun i=>n-(intOf i).toNat)
 case atStart=>exact⟨0,by omega,rfl,fun y hy=>by simp at hy⟩
 case round =>
  obtain⟨k,hk,rfl,ha⟩:=hrel;replace ha:=Za ha;by_cases hlt:k<n
  ·obtain⟨x,hx⟩:∃ x,xs[k]? = some x:=⟨_,Qe (by rw[hn.out];exact hlt)⟩
   obtain⟨ad,rfl,hok,hc,_⟩:=HA.out k x hx;replace hx:=Za hx;by_cases e:x=0
   ·have he:(x != 0)=false:=by simpa using e
    replace e:=Za e
    go_wp2_with fail
    go_round
    case rel=>exact⟨k+1,by omega,by go_num,fun y hy=>by
     rw[Qu,hx.out] at hy;simp at hy;rcases hy with hy | hy
     ·exact ha.out y hy
     ·rw[hy];exact e.out⟩
    case measure=>simp[intOf];omega
   ·have he:(x != 0)=true:=by simpa using e
    have hor:=Za (Zqt ha.out hx.out e);clear e
    go_wp2_with fail
    go_ret;exact⟨Zw hor.out.symm,rfl⟩
  ·have hge:n<=k:=by omega
   have hor:Hid (orN xs=0):=Za (Zqk (by
    have:=ha.out
    rwa [Qj (by rw[hn.out];exact hge)] at this))
   go_wp2_with fail
   go_ret;exact⟨Zw hor.out.symm,rfl⟩}
theorem Zfk (w:Qai) (t:Qal) (xs:List Int) (cs:Array Qaj) (hc:cs.toList=xs.map fun x=>Value.int .i64 x) (hb:xs.length<=1000) (h:∀ x∈xs,Zcz x) :
  Zhd (Old (w.alloc (.cells cs t))) (w.alloc (.cells cs t)) [.slice (some ⟨w.heap.size,0,none⟩) xs.length xs.length] xs:=by{
 refine⟨_,_,rfl,Qc _,by omega,fun i x hi=> ?_⟩;refine⟨_,[.int .i64 x],rfl,rfl,fun j v hj=> ?_,Zi5 (h x (P5 hi))⟩;have hj0:j=0:=by
  have:=(Qh.1 hj).1;simp at this;omega
 subst hj0;cases hj;have e:(⟨w.heap.size,0,none⟩:Qak).add (i*1+0)=⟨w.heap.size,i,none⟩:=by rw[Zbj];simp
 rw[e];have hci:cs[i]? = some (.int .i64 x):=by rw[<- Array.getElem?_toList,hc,List.getElem?_map,hi];rfl
 refine⟨by simp[Old],?_⟩;rw[<- hci];simp}
def Z6o (g:Nat) (a b c d e:Qaj):Qai->Prop:=fun w=>w.cell? ⟨g,0,none⟩=some a/\w.cell? ⟨g,1,none⟩=some b/\w.cell? ⟨g,2,none⟩=some c/\w.cell? ⟨g,3,none⟩=some d/\w.cell? ⟨g,4,none⟩=some e/\g<w.heap.size
theorem Zsu (g:Nat) (a b c d e:Qaj):Ze9 (Z6o g a b c d e):=fun _ _ h hb=>⟨(hb.cell (p:=⟨g,0,none⟩) h.2.2.2.2.2).trans h.1,(hb.cell (p:=⟨g,1,none⟩) h.2.2.2.2.2).trans h.2.1,(hb.cell (p:=⟨g,2,none⟩) h.2.2.2.2.2).trans h.2.2.1,(hb.cell (p:=⟨g,3,none⟩) h.2.2.2.2.2).trans h.2.2.2.1,(hb.cell (p:=⟨g,4,none⟩) h.2.2.2.2.2).trans h.2.2.2.2.1,Qd h.2.2.2.2.2 hb.size⟩
end Go.Proofs.YtmafkphcfkhokaaGreat
namespace Go.Proofs.YtmafkphcfkhokaaGreat
open Go.ChangeShapes Go.WideShapes Go.RowKit
abbrev Ky:=UInt8×Int×Int
def rKy:Rel Ky:=Zbp rU8 (Zbp (rK .u32) (rK .u32))
theorem Z15:Zde rKy:=V9 Zw7 (V9 (Xk _) (Xk _))
structure InK (k:Ky):Prop where
 id:InU k.2.1
 off:InU k.2.2
abbrev kyV (k:Ky):Qaj:=.agg #[.int .u8 (k.1.toNat:Int),.int .u32 k.2.1,.int .u32 k.2.2]
theorem Zz2 {ok:Qak->Prop}{w:Qai}{cs:List Qaj}{k:Ky}(h:rKy ok w cs k):cs=[.int .u8 (k.1.toNat:Int),.int .u32 k.2.1,.int .u32 k.2.2]/\InK k:=by
 obtain⟨_,_,rfl,rfl,_,_,rfl,⟨rfl,a1,a2⟩,⟨rfl,b1,b2⟩⟩:=h;simp[IntKind.min,IntKind.max,IntKind.signed,IntKind.bits] at a1 a2 b1 b2;exact⟨rfl,⟨⟨a1,by omega⟩,⟨b1,by omega⟩⟩⟩
theorem Z5e {ok:Qak->Prop}{w:Qai}{k:Ky}(h:InK k):rKy ok w [.int .u8 (k.1.toNat:Int),.int .u32 k.2.1,.int .u32 k.2.2] k:=by
 obtain⟨⟨a1,a2⟩,⟨b1,b2⟩⟩:=h;refine⟨[_],_,rfl,rfl,[_],_,rfl,⟨rfl,?_,?_⟩,rfl,?_,?_⟩ <;> simp[IntKind.min,IntKind.max,IntKind.signed,IntKind.bits] <;> omega
abbrev It:=Ky×Int×List UInt8
def rIt:Rel It:=Zbp rKy (Zbp (rK .i64) rBy)
theorem Yn:Zde rIt:=V9 Z15 (V9 (Xk _) Zf)
structure InI (s:It):Prop where
 key:InK s.1
 ref:Zcz s.2.1
abbrev itV (s:It) (d:Qaj):Qaj:=.agg #[.int .u8 (s.1.1.toNat:Int),.int .u32 s.1.2.1,.int .u32 s.1.2.2,.int .i64 s.2.1,d]
def Itm (ok:Qak->Prop) (w:Qai) (v:Qaj) (s:It):Prop:=∃ d,v=itV s d/\InI s/\rBy ok w [d] s.2.2
theorem Zj3 {ok:Qak->Prop}{w:Qai}{cs:List Qaj}{s:It}(h:rIt ok w cs s):∃ d,cs=[.int .u8 (s.1.1.toNat:Int),.int .u32 s.1.2.1,.int .u32 s.1.2.2,.int .i64 s.2.1,d]/\InI s/\rBy ok w [d] s.2.2:=by
 obtain⟨_,_,rfl,hk,_,_,rfl,⟨rfl,a1,a2⟩,hd⟩:=h;obtain⟨rfl,hi⟩:=Zz2 hk;obtain⟨A,cap,rfl,hd'⟩:=hd;simp[IntKind.min,IntKind.max,IntKind.signed,IntKind.bits] at a1 a2;exact⟨_,rfl,⟨hi,⟨a1,a2⟩⟩,A,cap,rfl,hd'⟩
theorem Zu3 {ok:Qak->Prop}{w:Qai}{d:Qaj}{s:It}(h:InI s) (hd:rBy ok w [d] s.2.2):rIt ok w [.int .u8 (s.1.1.toNat:Int),.int .u32 s.1.2.1,.int .u32 s.1.2.2,.int .i64 s.2.1,d] s:=by
 obtain⟨hk,⟨a1,a2⟩⟩:=h;refine⟨[_,_,_],_,rfl,Z5e hk,[_],_,rfl,⟨rfl,?_,?_⟩,hd⟩ <;> simp[IntKind.min,IntKind.max,IntKind.signed,IntKind.bits] <;> omega
theorem Itm.map {ok ok':Qak->Prop}{w w':Qai}{v:Qaj}{s:It}(hk:∀ p v,ok p->w.cell? p=some v->ok' p/\w'.cell? p=some v) (h:Itm ok w v s):Itm ok' w' v s:=by
 obtain⟨d,e,h1,h2⟩:=h;exact⟨d,e,h1,Zf _ _ _ _ _ _ hk h2⟩
theorem Itm.below {w w':Qai}{v:Qaj}{s:It}(h:Itm (Old w) w v s) (hb:Qap w.heap.size w w'):Itm (Old w') w' v s :=
 h.map fun _ _ hp hc=>⟨Qd hp hb.size,(hb.cell hp).trans hc⟩
theorem Itm.drop {lo:Nat}{w:Qai}{v:Qaj}{s:It}(h:Itm (New lo w) w v s):Itm (Old w) w v s :=
 h.map fun _ _ hp hc=>⟨hp.2.1,hc⟩
theorem Itm.new {lo lo':Nat}{w w':Qai}{v:Qaj}{s:It}(h:Itm (New lo w) w v s) (hl:lo'<=lo) (hb:Qap w.heap.size w w'):Itm (New lo' w') w' v s :=
 h.map fun _ _ hp hc=>⟨⟨Qf hl hp.1,Qd hp.2.1 hb.size,(hb.frozen hp.2.1).trans hp.2.2⟩,(hb.cell hp.2.1).trans hc⟩
theorem Itm.grown {w w':Qai}{lo:Nat}{v:Qaj}{s:It}{row:Option Nat}(h:Itm (New lo w) w v s) (hg:w.grownBy w' row) (hr:∀ q,row=some q->q<lo):Itm (New lo w') w' v s:=by
 obtain⟨d,e,h1,h2⟩:=h;exact⟨d,e,h1,Zf.grown h2 hg hr⟩
theorem Itm.open {ok:Qak->Prop}{w:Qai}{v:Qaj}{s:It}(h:Itm ok w v s):∃ A c,v=itV s (.slice A s.2.2.length c)/\InI s/\s.2.2.length<=c/\c<=9223372036854775807/\rBy ok w [.slice A s.2.2.length c] s.2.2:=by
 obtain⟨d,rfl,h1,h2⟩:=h;obtain⟨A,c,rfl,h3,h4,h5⟩:=Zo h2;exact⟨A,c,rfl,h1,h3,h4,h2⟩
theorem Xd (w:Qai) (a b c:Qaj) (t:Qal):∃ w1,w.alloc (.cells #[a,b,c] t)=w1/\w1.cell? ⟨w.heap.size,0,none⟩=some a/\w1.cell? ⟨w.heap.size,1,none⟩=some b/\w1.cell? ⟨w.heap.size,2,none⟩=some c/\w1.heap.size=w.heap.size+1/\Qap w.heap.size w w1/\w1.heap[w.heap.size]? = some (.cells #[a,b,c] t (0,0)) :=
 ⟨_,rfl,by simp,by simp,by simp,by simp,(Qb _ _).alloc (Qc _) _,Qan _ _⟩
def Zas (s:It):Bool:=(decide (s.2.1=0)||(decide (8<=s.2.1)&&decide (s.2.1<256)))&&decide (s.2.2.length<=12)
def Z0m (s:It):Int:=if Zas s then 0 else 8
theorem Ud {s:It}(h:Zas s=true):(s.2.1=0\/(8<=s.2.1/\s.2.1<256))/\s.2.2.length<=12:=by
 simpa [Zas] using h
theorem Z2p {s:It}(h:(s.2.1=0\/(8<=s.2.1/\s.2.1<256))/\s.2.2.length<=12):Zas s=true:=by simpa [Zas] using h
theorem Zb3 {s:It}(h:Zas s=true):Z0m s=0:=by simp[Z0m,h]
theorem Uj {s:It}(h:Zas s=false):Z0m s=8:=by simp[Z0m,h]
def itB (s:It):List UInt8:=[s.1.1]++(le 4 s.1.2.1++(le 4 s.1.2.2++(le 2 s.2.1++([UInt8.ofNat s.2.2.length]++s.2.2))))
theorem Zax (s:It):(itB s).length=12+s.2.2.length:=by simp[itB,Z6];omega
def wrI (s:It):List UInt8:=if Zas s then itB s else []
def Zgq:It:=((0,0,0),0,[])
theorem Zzh:InI Zgq:=⟨⟨⟨by decide,by decide⟩,⟨by decide,by decide⟩⟩,⟨by decide,by decide⟩⟩
theorem Zjz (ok:Qak->Prop) (w:Qai):Itm ok w (.agg #[.int .u8 0,.int .u32 0,.int .u32 0,.int .i64 0,.slice none 0 0]) Zgq:=⟨_,rfl,Zzh,none,0,rfl,by simp[Zgq],by omega,fun i x h=>by simp[Zgq] at h⟩
def Znt (a b:Int):Int:=if a<b then -1 else if b<a then 1 else 0
theorem Zhc {a b:Int}(h:a<b):Znt a b = -1:=if_pos h
theorem Zfy {a b:Int}(h:b<a):Znt a b=1:=by unfold Znt;rw[if_neg (by omega),if_pos h]
theorem Zgg {a b:Int}(h:a=b):Znt a b=0:=by subst h;simp[Znt]
theorem Zn7 (a b:Int):Zcz (Znt a b):=by
 unfold Znt;split
 ·exact⟨by decide,by decide⟩
 ·split <;> exact⟨by decide,by decide⟩
def Zr (a b:Ky):Bool:=if a.1.toNat≠b.1.toNat then decide (a.1.toNat<b.1.toNat) else if a.2.1≠b.2.1 then decide (a.2.1<b.2.1) else decide (a.2.2<b.2.2)
theorem Zt9 (a b c:Int):orN [a,b,c]=if a≠0 then a else if b≠0 then b else c:=by{
 unfold orN;by_cases h:a=0
 ·subst h
  by_cases h:b=0
  ·subst h
   by_cases h:c=0
   ·subst h;rfl
   ·simp[h]
  ·simp[h]
 ·simp[h]}
theorem Z30 (a b:Ky):decide (orN [Znt a.1.toNat b.1.toNat,Znt a.2.1 b.2.1,Znt a.2.2 b.2.2]<0)=Zr a b:=by{
 rw[Zt9];unfold Zr;have z:¬ (0:Int)≠0:=by omega
 have m1:(-1:Int)≠0:=by omega
 have p1:(1:Int)≠0:=by omega
 rcases Nat.lt_trichotomy a.1.toNat b.1.toNat with h | h | h
 ·rw[Zhc (by omega),if_pos m1,if_pos (show a.1.toNat≠b.1.toNat by omega)];simp[h]
 ·rw[Zgg (show (a.1.toNat:Int)=b.1.toNat by omega),if_neg z,if_neg (show ¬ a.1.toNat≠b.1.toNat by omega)]
  rcases Int.lt_trichotomy a.2.1 b.2.1 with h1 | h1 | h1
  ·rw[Zhc h1,if_pos m1,if_pos (show a.2.1≠b.2.1 by omega)];simp[h1]
  ·rw[Zgg h1,if_neg z,if_neg (show ¬ a.2.1≠b.2.1 by omega)]
   rcases Int.lt_trichotomy a.2.2 b.2.2 with h2 | h2 | h2
   ·rw[Zhc h2];simp[h2]
   ·rw[Zgg h2];simp[h2]
   ·rw[Zfy h2,decide_eq_false (show ¬ (1:Int)<0 by omega),decide_eq_false (show ¬ a.2.2<b.2.2 by omega)]
  ·rw[Zfy h1,if_pos p1,if_pos (show a.2.1≠b.2.1 by omega),decide_eq_false (show ¬ (1:Int)<0 by omega),decide_eq_false (show ¬ a.2.1<b.2.1 by omega)]
 ·rw[Zfy (show (b.1.toNat:Int)<a.1.toNat by omega),if_pos p1,if_pos (show a.1.toNat≠b.1.toNat by omega),decide_eq_false (show ¬ (1:Int)<0 by omega),decide_eq_false (show ¬ a.1.toNat<b.1.toNat by omega)]}
theorem Zie (a:Int) (w:Qai):Qao Tryz.prog 221 #[.int .u8 a] w fun e w'=>e=.returned (.bool false)/\w=w':=by
 go_enter Tryz.func221,Tryz.ntmps221
 go_wp2_with fail
 go_ret;exact⟨Yc (by simp),rfl⟩
theorem Zew (a:Int) (w:Qai):Qao Tryz.prog 222 #[.int .u32 a] w fun e w'=>e=.returned (.bool false)/\w=w':=by
 go_enter Tryz.func222,Tryz.ntmps222
 go_wp2_with fail
 go_ret;exact⟨Yc (by simp),rfl⟩
theorem Zy0 (a b:Int) (w:Qai):Qao Tryz.prog 164 #[.int .u8 a,.int .u8 b] w fun e w'=>e=.returned (.int .i64 (Znt a b))/\w=w':=by{
 rcases Int.lt_trichotomy a b with h | h | h
 ·rw[Zhc h]
  go_enter Tryz.func164,Tryz.ntmps164
  go_wp2_with fail
  with_reducible refine(Zie a _).mono ?_
  rintro e w1 ⟨rfl,rfl⟩
  go_wp2_with fail
  with_reducible refine(Zie b _).mono ?_
  rintro e w1 ⟨rfl,rfl⟩
  go_wp2_with fail
  go_ret;exact⟨rfl,rfl⟩
 ·rw[Zgg h]
  subst h
  go_enter Tryz.func164,Tryz.ntmps164
  go_wp2_with fail
  with_reducible refine(Zie a _).mono ?_
  rintro e w1 ⟨rfl,rfl⟩
  go_wp2_with fail
  with_reducible refine(Zie a _).mono ?_
  rintro e w1 ⟨rfl,rfl⟩
  go_wp2_with fail
  go_ret;exact⟨rfl,rfl⟩
 ·rw[Zfy h]
  have h2:¬ a<b:=by omega
  go_enter Tryz.func164,Tryz.ntmps164
  go_wp2_with fail
  with_reducible refine(Zie a _).mono ?_
  rintro e w1 ⟨rfl,rfl⟩
  go_wp2_with fail
  with_reducible refine(Zie b _).mono ?_
  rintro e w1 ⟨rfl,rfl⟩
  go_wp2_with fail
  go_ret;exact⟨rfl,rfl⟩}
theorem Zmn (a b:Int) (w:Qai):Qao Tryz.prog 165 #[.int .u32 a,.int .u32 b] w fun e w'=>e=.returned (.int .i64 (Znt a b))/\w=w':=by{
 rcases Int.lt_trichotomy a b with h | h | h
 ·rw[Zhc h]
  go_enter Tryz.func165,Tryz.ntmps165
  go_wp2_with fail
  with_reducible refine(Zew a _).mono ?_
  rintro e w1 ⟨rfl,rfl⟩
  go_wp2_with fail
  with_reducible refine(Zew b _).mono ?_
  rintro e w1 ⟨rfl,rfl⟩
  go_wp2_with fail
  go_ret;exact⟨rfl,rfl⟩
 ·rw[Zgg h]
  subst h
  go_enter Tryz.func165,Tryz.ntmps165
  go_wp2_with fail
  with_reducible refine(Zew a _).mono ?_
  rintro e w1 ⟨rfl,rfl⟩
  go_wp2_with fail
  with_reducible refine(Zew a _).mono ?_
  rintro e w1 ⟨rfl,rfl⟩
  go_wp2_with fail
  go_ret;exact⟨rfl,rfl⟩
 ·rw[Zfy h]
  have h2:¬ a<b:=by omega
  go_enter Tryz.func165,Tryz.ntmps165
  go_wp2_with fail
  with_reducible refine(Zew a _).mono ?_
  rintro e w1 ⟨rfl,rfl⟩
  go_wp2_with fail
  with_reducible refine(Zew b _).mono ?_
  rintro e w1 ⟨rfl,rfl⟩
  go_wp2_with fail
  go_ret;exact⟨rfl,rfl⟩}
theorem Ztu (v:Qaj) (xs:List Int) (w:Qai) (h:Zhd (Old w) w [v] xs) :
  Qao Tryz.prog 163 #[v] w fun e w'=>e=.returned (.int .i64 (orN xs))/\w=w':=by{
 obtain⟨A,c,rfl,l1,m1,hA⟩:=Zer h;have HA:=Za hA;clear hA h;obtain⟨n,hn⟩:∃ n,xs.length=n:=⟨_,rfl⟩
 rw[hn] at l1 ⊢;replace hn:=Za hn
 go_enter Tryz.func163,Tryz.ntmps163
 go_wp2_with fail
 go_loop [8] (fun i=>∃ k:Nat,k<=n/\i=.int .i64 k/\∀ y∈xs.take k,y=0) (fun i=>n-(intOf i).toNat)
 case atStart=>exact⟨0,by omega,rfl,fun y hy=>by simp at hy⟩
 case round =>
  obtain⟨k,hk,rfl,ha⟩:=hrel;replace ha:=Za ha;by_cases hlt:k<n
  ·obtain⟨x,hx⟩:∃ x,xs[k]? = some x:=⟨_,Qe (by rw[hn.out];exact hlt)⟩
   obtain⟨ad,rfl,hok,hc,_⟩:=HA.out k x hx;replace hx:=Za hx;by_cases e:x=0
   ·have he:(x != 0)=false:=by simpa using e
    replace e:=Za e
    go_wp2_with fail
    go_round
    case rel=>exact⟨k+1,by omega,by go_num,fun y hy=>by
     rw[Qu,hx.out] at hy;simp at hy;rcases hy with hy | hy
     ·exact ha.out y hy
     ·rw[hy];exact e.out⟩
    case measure=>simp[intOf];omega
   ·have he:(x != 0)=true:=by simpa using e
    have hor:=Za (Zqt ha.out hx.out e);clear e
    go_wp2_with fail
    go_ret;exact⟨Zw hor.out.symm,rfl⟩
  ·have hge:n<=k:=by omega
   have hor:Hid (orN xs=0):=Za (Zqk (by
    have:=ha.out
    rwa [Qj (by rw[hn.out];exact hge)] at this))
   go_wp2_with fail
   go_ret;exact⟨Zw hor.out.symm,rfl⟩}
theorem Zfp (a b:Ky) (w:Qai) :
  Qao Tryz.prog 104 #[kyV a,kyV b] w fun e w'=>e=.returned (.bool (Zr a b))/\Qap w.heap.size w w':=by{
 have hfin:=Za (Z30 a b);obtain⟨ak,ai,ao⟩:=a;obtain⟨bk,bi,bo⟩:=b;unfold kyV
 dsimp only at hfin ⊢
 generalize Zr (ak,ai,ao) (bk,bi,bo)=res at hfin ⊢;obtain⟨p,hp⟩:∃ p:Int,(ak.toNat:Int)=p:=⟨_,rfl⟩
 obtain⟨q,hq⟩:∃ q:Int,(bk.toNat:Int)=q:=⟨_,rfl⟩
 rw[hp,hq] at hfin ⊢;clear hp hq;obtain⟨w1,hw1,f1,f2,f3,hs1,hB1,_⟩:=Xd w (.int .u8 p) (.int .u32 ai) (.int .u32 ao) 77;obtain⟨w2,hw2,g1,g2,g3,hs2,hB2,_⟩:=Xd w1 (.int .u8 q) (.int .u32 bi) (.int .u32 bo) 77;have hB:=Za (hB1.trans (hB2.mono hB1.size));have k1:=(hB2.cell (p:=⟨w.heap.size,0,none⟩) (show w.heap.size<_ by omega)).trans f1;have k2:=(hB2.cell (p:=⟨w.heap.size,1,none⟩) (show w.heap.size<_ by omega)).trans f2;have k3:=(hB2.cell (p:=⟨w.heap.size,2,none⟩) (show w.heap.size<_ by omega)).trans f3;have lt1:w.heap.size<w2.heap.size:=by omega
 have lt2:w1.heap.size<w2.heap.size:=by omega
 have i1:=Za (Zn7 p q);have i2:=Za (Zn7 ai bi);have i3:=Za (Zn7 ao bo);obtain⟨c1,h1⟩:∃ c,Znt p q=c:=⟨_,rfl⟩
 obtain⟨c2,h2⟩:∃ c,Znt ai bi=c:=⟨_,rfl⟩
 obtain⟨c3,h3⟩:∃ c,Znt ao bo=c:=⟨_,rfl⟩
 rw[h1] at i1 hfin;rw[h2] at i2 hfin;rw[h3] at i3 hfin;replace h1:=Za h1;replace h2:=Za h2;replace h3:=Za h3;obtain⟨c,hc⟩:∃ c,orN [c1,c2,c3]=c:=⟨_,rfl⟩
 rw[hc] at hfin;replace hc:=Za hc;clear f1 f2 f3 hB1 hB2;replace hs1:=Za hs1;replace hs2:=Za hs2
 go_enter Tryz.func104,Tryz.ntmps104
 go_upto_region 1 with fail
 clear hw1 hw2
 refine wp_region_fx (by kernel_rfl) (fun W=>Qap w2.heap.size w2 W) (fun i=>match i with
   | 15=>some (fun v W=>Zhd (Old W) W [v] [c1,c2,c3])
   | _=>none) (fun i=>match i with
   | 4=>some (.int .i64 c1)
   | 9=>some (.int .i64 c2)
   | 14=>some (.int .i64 c3)
   | 16=>some (.int .i64 c)
   | _=>none) (by kernel_rfl) (Qb _ _).drew (fun w w' h hb=>h.trans (hb.mono h.size)) ?tst ?_
 case tst =>
  intro j φ x W W' hp hx hb
  match j,hp with
  | 15,hp=>cases hp;exact Zt6.old hx hb
 repeat (first
  | (refine wpAs_skip rfl ?_;simp only[Qa,Zb,Zc,Zd])
  | (refine wpAs_pure (v := ?_) rfl rfl ?_ ?_;rotate_left;(intro W hC hE;clear hE;(have z1:=(hC.cell (p:=⟨w.heap.size,0,none⟩) lt1).trans k1;have z2:=(hC.cell (p:=⟨w1.heap.size,0,none⟩) lt2).trans g1);clear hC;go_simp;first | done | with_reducible rfl);simp only[Qa,Zb,Zc,Zd]))
 refine wpAs_fixed rfl rfl rfl ?_ ?_
 ·intro W hC hE
  refine does_enter (f:=164) (args:=#[.int .u8 p,.int .u8 q]) ?_ ?_
  ·go_simp
  ·refine(Zy0 p q W).mono ?_
   rintro e w' ⟨rfl,rfl⟩;rw[h1.out];have hg:=Qb W.heap.size W;exact⟨_,rfl,rfl,hg⟩
 simp only[Qa,Zb,Zc,Zd]
 repeat (first
  | (refine wpAs_skip rfl ?_;simp only[Qa,Zb,Zc,Zd])
  | (refine wpAs_pure (v := ?_) rfl rfl ?_ ?_;rotate_left;(intro W hC hE;clear hE;(have z1:=(hC.cell (p:=⟨w.heap.size,1,none⟩) lt1).trans k2;have z2:=(hC.cell (p:=⟨w1.heap.size,1,none⟩) lt2).trans g2);clear hC;go_simp;first | done | with_reducible rfl);simp only[Qa,Zb,Zc,Zd]))
 refine wpAs_fixed rfl rfl rfl ?_ ?_
 ·intro W hC hE
  refine does_enter (f:=165) (args:=#[.int .u32 ai,.int .u32 bi]) ?_ ?_
  ·go_simp
  ·refine(Zmn ai bi W).mono ?_
   rintro e w' ⟨rfl,rfl⟩;rw[h2.out];have hg:=Qb W.heap.size W;exact⟨_,rfl,rfl,hg⟩
 simp only[Qa,Zb,Zc,Zd]
 repeat (first
  | (refine wpAs_skip rfl ?_;simp only[Qa,Zb,Zc,Zd])
  | (refine wpAs_pure (v := ?_) rfl rfl ?_ ?_;rotate_left;(intro W hC hE;clear hE;(have z1:=(hC.cell (p:=⟨w.heap.size,2,none⟩) lt1).trans k3;have z2:=(hC.cell (p:=⟨w1.heap.size,2,none⟩) lt2).trans g3);clear hC;go_simp;first | done | with_reducible rfl);simp only[Qa,Zb,Zc,Zd]))
 refine wpAs_fixed rfl rfl rfl ?_ ?_
 ·intro W hC hE
  refine does_enter (f:=165) (args:=#[.int .u32 ao,.int .u32 bo]) ?_ ?_
  ·go_simp
  ·refine(Zmn ao bo W).mono ?_
   rintro e w' ⟨rfl,rfl⟩;rw[h3.out];have hg:=Qb W.heap.size W;exact⟨_,rfl,rfl,hg⟩
 simp only[Qa,Zb,Zc,Zd];refine wpAs_act rfl rfl ?_ ?_
 ·intro W hC hE
  clear hE
  have hl:=Za (Zfk W 3 [c1,c2,c3] #[.int .i64 c1,.int .i64 c2,.int .i64 c3] rfl (by simp) (fun x hx=>by
   simp at hx;rcases hx with rfl | rfl | rfl
   ·exact i1.out
   ·exact i2.out
   ·exact i3.out))
  clear hC
  go_simp
  exact⟨hl.out,(Qb _ _).alloc (Qc _) _⟩
 simp only[Qa,Zb,Zc,Zd,envAdd];intro x20;refine wpAs_fixed rfl rfl rfl ?_ ?_
 ·intro W hC hE
  have y20:=hE.1 rfl;refine does_enter (f:=163) (args:=#[x20]) ?_ ?_
  ·clear hE hC
   obtain⟨_,_,e,_⟩:=Zer y20;cases e;clear y20
   go_simp
  ·refine(Ztu x20 _ W y20).mono ?_
   rintro e w' ⟨rfl,rfl⟩;rw[hc.out];exact⟨_,rfl,rfl,Qb _ _⟩
 simp only[Qa,Zb,Zc,Zd]
 repeat (first
  | (refine wpAs_skip rfl ?_;simp only[Qa,Zb,Zc,Zd])
  | (refine wpAs_pure (v := ?_) rfl rfl ?_ ?_;rotate_left;(intro W hC hE;clear hE;skip;clear hC;go_simp;first | done | with_reducible rfl);simp only[Qa,Zb,Zc,Zd]))
 refine wpAs_end fun W hC hE=> ?_
 clear hE
 go_wp2
 go_ret;exact⟨Yc (by rw[<- hfin.out]),hB.out.trans (hC.mono hB.out.size)⟩}
theorem Zzl (s:It) (n:Nat) (hn:s.2.2.length=n):(s.2.1=0/\n<=12/\Zas s=true)\/(s.2.1=0/\12<n/\Zas s=false)\/(s.2.1≠0/\s.2.1<8/\Zas s=false)\/(s.2.1≠0/\¬ s.2.1<8/\256<=s.2.1/\Zas s=false)\/(s.2.1≠0/\¬ s.2.1<8/\¬ 256<=s.2.1/\n<=12/\Zas s=true)\/(s.2.1≠0/\¬ s.2.1<8/\¬ 256<=s.2.1/\12<n/\Zas s=false):=by{
 subst hn;cases e:Zas s with
 | true =>
  have:=Ud e;simp only[and_true,reduceCtorEq,and_false,or_false,false_or];omega
 | false =>
  have:¬ ((s.2.1=0\/(8<=s.2.1/\s.2.1<256))/\s.2.2.length<=12):=fun h=>by rw[Z2p h] at e;cases e
  simp only[and_true,reduceCtorEq,and_false,false_or];omega}
theorem Ul (v:Qaj) (s:It) (w:Qai) (h:Itm (Old w) w v s):Qao Tryz.prog 114 #[v] w fun e w'=>e=.returned (.int .i64 (Z0m s))/\Qap w.heap.size w w':=by{
 obtain⟨A,c,rfl,_,l1,m1,_⟩:=h.open;obtain⟨n,hn⟩:∃ n,s.2.2.length=n:=⟨_,rfl⟩
 have hw:=Zzl s n hn;unfold itV;rw[hn] at l1 ⊢;obtain⟨w0,hw0,f1,f2,f3,f4,f5,hs0,hB0,_⟩:=Zz w (.int .u8 (s.1.1.toNat:Int)) (.int .u32 s.1.2.1) (.int .u32 s.1.2.2) (.int .i64 s.2.1) (.slice A n c) 79;clear f1 f2 f3 hs0 hn h;have HB0:=Za hB0;clear hB0;obtain⟨r,hr⟩:∃ r,s.2.1=r:=⟨_,rfl⟩
 rw[hr] at hw f4 ⊢;rw[hr] at hw0;clear hr;rcases hw with ⟨rfl,h1,hm⟩ | ⟨rfl,h1,hm⟩ | ⟨h0,h1,hm⟩ | ⟨h0,h1,h2,hm⟩ | ⟨h0,h1,h2,h3,hm⟩ | ⟨h0,h1,h2,h3,hm⟩
 ·have hc:=Za (Zb3 hm)
  have i1:¬ (12:Int)<n:=by omega
  clear hm;rw[hc.out]
  go_enter Tryz.func114,Tryz.ntmps114
  go_upto_region 1 with fail
  clear hw0
  go_wp2_with fail
  go_ret;exact⟨rfl,HB0.out⟩
 ·have hc:=Za (Uj hm)
  have i1:(12:Int)<n:=by omega
  clear hm;rw[hc.out]
  go_enter Tryz.func114,Tryz.ntmps114
  go_upto_region 1 with fail
  clear hw0
  go_wp2_with fail
  go_ret;exact⟨rfl,HB0.out⟩
 ·have hc:=Za (Uj hm)
  have t0:(r != 0)=true:=by simpa using h0
  have t1:(r==0)=false:=by simpa using h0
  clear h0;clear hm;rw[hc.out]
  go_enter Tryz.func114,Tryz.ntmps114
  go_upto_region 1 with fail
  clear hw0
  go_wp2_with fail
  go_ret;exact⟨rfl,HB0.out⟩
 ·have hc:=Za (Uj hm)
  have t0:(r != 0)=true:=by simpa using h0
  have t1:(r==0)=false:=by simpa using h0
  clear h0;clear hm;rw[hc.out]
  go_enter Tryz.func114,Tryz.ntmps114
  go_upto_region 1 with fail
  clear hw0
  go_wp2_with fail
  go_ret;exact⟨rfl,HB0.out⟩
 ·have hc:=Za (Zb3 hm)
  have t0:(r != 0)=true:=by simpa using h0
  have t1:(r==0)=false:=by simpa using h0
  have i4:¬ (12:Int)<n:=by omega
  clear h0;clear hm;rw[hc.out]
  go_enter Tryz.func114,Tryz.ntmps114
  go_upto_region 1 with fail
  clear hw0
  go_wp2_with fail
  go_ret;exact⟨rfl,HB0.out⟩
 ·have hc:=Za (Uj hm)
  have t0:(r != 0)=true:=by simpa using h0
  have t1:(r==0)=false:=by simpa using h0
  have i4:(12:Int)<n:=by omega
  clear h0;clear hm;rw[hc.out]
  go_enter Tryz.func114,Tryz.ntmps114
  go_upto_region 1 with fail
  clear hw0
  go_wp2_with fail
  go_ret;exact⟨rfl,HB0.out⟩}
def Zka (s o:It):Bool:=decide (s=o)
theorem Zre (s:It):Zka s s=true:=by simp[Zka]
theorem Zxl {s o:It}(h:Zka s o=true):s=o:=by simpa [Zka] using h
theorem Zsb (a1 b1:UInt8) (a2 b2 a3 b3 a4 b4:Int) (a5 b5:List UInt8):Zka ((a1,a2,a3),a4,a5) ((b1,b2,b3),b4,b5)=decide ((a1.toNat:Int)=b1.toNat/\a2=b2/\a3=b3/\a4=b4/\a5=b5):=by{
 unfold Zka;rw[Bool.eq_iff_iff];simp only[Prod.mk.injEq,decide_eq_true_eq];have h:a1=b1↔(a1.toNat:Int)=b1.toNat:=⟨fun h=>by rw[h],fun h=>UInt8.toNat.inj (by omega)⟩
 rw[h];constructor
 ·rintro⟨⟨h1,h2,h3⟩,h4,h5⟩;exact⟨h1,h2,h3,h4,h5⟩
 ·rintro⟨h1,h2,h3,h4,h5⟩;exact⟨⟨h1,h2,h3⟩,h4,h5⟩}
theorem Ztc (v u:Qaj) (s o:It) (w:Qai) (hv:Itm (Old w) w v s) (hu:Itm (Old w) w u o) :
  Qao Tryz.prog 53 #[v,u] w fun e w'=>e=.returned (.bool (Zka s o))/\Qap w.heap.size w w':=by{
 obtain⟨A,c,rfl,_,_,_,rv⟩:=hv.open;obtain⟨B,c',rfl,_,_,_,ru⟩:=hu.open;obtain⟨⟨a1,a2,a3⟩,a4,a5⟩:=s;obtain⟨⟨b1,b2,b3⟩,b4,b5⟩:=o;unfold itV
 dsimp only at *
 have hfin:=Za (Zsb a1 b1 a2 b2 a3 b3 a4 b4 a5 b5);generalize Zka ((a1,a2,a3),a4,a5) ((b1,b2,b3),b4,b5)=res at hfin ⊢;obtain⟨w1,hw1,f1,f2,f3,f4,f5,hs1,hB1,_⟩:=Zz w (.int .u8 (a1.toNat:Int)) (.int .u32 a2) (.int .u32 a3) (.int .i64 a4) (.slice A a5.length c) 79;obtain⟨w2,hw2,g1,g2,g3,g4,g5,hs2,hB2,_⟩:=Zz w1 (.int .u8 (b1.toNat:Int)) (.int .u32 b2) (.int .u32 b3) (.int .i64 b4) (.slice B b5.length c') 79;have hB:=hB1.trans (hB2.mono hB1.size);have k1:=(hB2.cell (p:=⟨w.heap.size,0,none⟩) (show w.heap.size<_ by omega)).trans f1;have k2:=(hB2.cell (p:=⟨w.heap.size,1,none⟩) (show w.heap.size<_ by omega)).trans f2;have k3:=(hB2.cell (p:=⟨w.heap.size,2,none⟩) (show w.heap.size<_ by omega)).trans f3;have k4:=(hB2.cell (p:=⟨w.heap.size,3,none⟩) (show w.heap.size<_ by omega)).trans f4;have k5:=(hB2.cell (p:=⟨w.heap.size,4,none⟩) (show w.heap.size<_ by omega)).trans f5;have xv:=Za (Zf.old rv hB);have xu:=Za (Zf.old ru hB);clear f1 f2 f3 f4 f5 hv hu rv ru hB1 hB2;replace hB:=Za hB;replace hs1:=Za hs1;replace hs2:=Za hs2;replace hw2:=Za hw2
 go_enter Tryz.func53,Tryz.ntmps53
 go_upto_region 1 with fail
 rw[hw2.out];clear hw1 hw2;generalize (a1.toNat:Int)=p at *;generalize (b1.toNat:Int)=q at *;by_cases e1:p=q
 case neg =>
  have t1:(p==q)=false:=by simpa using e1
  have hne:=Za (show res=false by rw[hfin.out];simp[e1])
  go_wp2_with fail
  go_ret;exact⟨Yc hne.out.symm,hB.out⟩
 by_cases e2:a2=b2
 case neg =>
  have t1:(p==q)=true:=by simpa using e1
  have t2:(a2==b2)=false:=by simpa using e2
  have hne:=Za (show res=false by rw[hfin.out];simp[e2])
  go_wp2_with fail
  go_ret;exact⟨Yc hne.out.symm,hB.out⟩
 by_cases e3:a3=b3
 case neg =>
  have t1:(p==q)=true:=by simpa using e1
  have t2:(a2==b2)=true:=by simpa using e2
  have t3:(a3==b3)=false:=by simpa using e3
  have hne:=Za (show res=false by rw[hfin.out];simp[e3])
  go_wp2_with fail
  go_ret;exact⟨Yc hne.out.symm,hB.out⟩
 by_cases e4:a4=b4
 case neg =>
  have t1:(p==q)=true:=by simpa using e1
  have t2:(a2==b2)=true:=by simpa using e2
  have t3:(a3==b3)=true:=by simpa using e3
  have t4:(a4==b4)=false:=by simpa using e4
  have hne:=Za (show res=false by rw[hfin.out];simp[e4]);clear e4
  go_wp2_with fail
  go_ret;exact⟨Yc hne.out.symm,hB.out⟩
 have t4:(a4==b4)=true:=by simpa using e4
 have hne:=Za (show res=decide (a5=b5) by rw[hfin.out];simp[e1,e2,e3,e4]);clear e4
 go_wp2_with fail
 with_reducible refine(Zw2 _ _ a5 b5 _ xv.out xu.out).mono ?_
 rintro e w3 ⟨rfl,rfl⟩
 go_wp2_with fail
 go_ret;exact⟨Yc hne.out.symm,hB.out⟩}
theorem Zy9 {W:Qai}{g:Nat}{a b c d e u:Qaj}{t:Qal}(h:W.heap[g]? = some (.cells #[a,b,c,d,e] t (0,0))):∃ W1,W.setCell ⟨g,4,none⟩ u=W1/\W1.heap[g]? = some (.cells #[a,b,c,d,u] t (0,0))/\W.grownBy W1 (some g)/\W1.heap.size=W.heap.size :=
 ⟨_,rfl,by simp[Qo,Qt,h],Zp (p:=⟨g,4,none⟩) (Ye W (some g)) rfl u,by simp⟩
theorem Zwp (v:Qaj) (s:It) (w:Qai) (hbig:s.2.2.length<=1000000000) (h:Itm (Old w) w v s) :
  Qao Tryz.prog 219 #[v] w fun e w'=>∃ u,e=.returned u/\Itm (New w.heap.size w') w' u s/\Qap w.heap.size w w':=by{
 obtain⟨A,c,rfl,hin,_,_,rv⟩:=h.open;obtain⟨⟨a1,a2,a3⟩,a4,a5⟩:=s;unfold itV
 dsimp only at *
 obtain⟨w1,hw1,f1,f2,f3,f4,f5,hs1,hB1,b1⟩:=Zz w (.int .u8 (a1.toNat:Int)) (.int .u32 a2) (.int .u32 a3) (.int .i64 a4) (.slice A a5.length c) 79;obtain⟨w2,hw2,_,_,_,_,_,hs2,hB2,b2⟩:=Zz w1 (.int .u8 0) (.int .u32 0) (.int .u32 0) (.int .i64 0) (.slice none 0 0) 79;have hB:=hB1.trans (hB2.mono hB1.size);have lt1:w.heap.size<w1.heap.size:=by omega
 have lt2:w1.heap.size<w2.heap.size:=by omega
 have b1':=Za ((hB2.block w.heap.size lt1).trans b1);have k5:=(hB2.cell (p:=⟨w.heap.size,4,none⟩) lt1).trans f5;have xv:=Za (Zf.old rv hB);clear f1 f2 f3 f4 f5 h rv hB1 hB2 b1;replace hB:=Za hB;replace hs1:=Za hs1;replace hs2:=Za hs2;replace b2:=Za b2;replace hw2:=Za hw2;replace hbig:=Za hbig
 go_enter Tryz.func219,Tryz.ntmps219
 go_upto_region 1 with fail
 rw[hw2.out];clear hw1 hw2
 go_wp2_with fail
 with_reducible refine(Zaj _ a5 _ (by have:=hbig.out;omega) xv.out).mono ?_
 rintro e w3 ⟨u,rfl,hu,hb3⟩;have lt3:w2.heap.size<=w3.heap.size:=hb3.size;have c1:=(hb3.block w.heap.size (by omega)).trans b1'.out;have c2:=(hb3.block w1.heap.size (by omega)).trans b2.out;obtain⟨k0,k1,k2,k3,_,kf,_⟩:=Zq c1;obtain⟨w4,hw4,d1,gr4,gs4⟩:=Zy9 (u:=u) c1;obtain⟨l0,l1,l2,l3,l4,_,_⟩:=Zq d1;have d2:=(gr4.block w1.heap.size (by omega) (by simp;omega)).trans c2;obtain⟨W9,hW9,g9,gr9,gs9⟩:=Zah (u0:=.int .u8 (a1.toNat:Int)) (u1:=.int .u32 a2) (u2:=.int .u32 a3) (u3:=.int .i64 a4) (u4:=u) d2;obtain⟨m0,m1,m2,m3,m4,_,_⟩:=Zq g9;obtain⟨n0,n1,n2,n3,n4,nf,_⟩:=Zq d2;have B3:=hB.out.trans (hb3.mono hB.out.size);have B4:=B3.grown gr4 B3.size (fun q e=>by cases e;omega);have B9:=Za (B4.grown gr9 B4.size (fun q e=>by cases e;omega))
 have hfin:Hid (Itm (New w.heap.size W9) W9 (.agg #[.int .u8 (a1.toNat:Int),.int .u32 a2,.int .u32 a3,.int .i64 a4,u]) ((a1,a2,a3),a4,a5)):=Za ⟨u,rfl,hin,by
  have h1:=Zf.grown hu gr4 (fun q e=>by cases e;omega);have h2:=Zf.grown h1 gr9 (fun q e=>by cases e;omega)
  exact Zf.mono h2 (by omega)⟩
 obtain⟨_,_,rfl,_⟩:=id (Zo hu);clear c1 c2 d1 d2 g9 gr4 gr9 hu B3 B4 hb3 lt3;replace hs1:=Za lt1;replace hs2:=Za lt2;clear lt1 lt2
 go_wp2_with fail
 exact Qam (v:=.agg #[.int .u8 (a1.toNat:Int),.int .u32 a2,.int .u32 a3,.int .i64 a4,.slice _ _ _]) (by simp[results,Tryz.results219,go_sem,m0,m1,m2,m3,m4]) rfl ⟨_,rfl,hfin.out,B9.out⟩}
theorem Zye (s:It):[[s.1.1],le 4 s.1.2.1,le 4 s.1.2.2,le 2 s.2.1,[UInt8.ofNat s.2.2.length],s.2.2].flatten=itB s:=by simp[itB]
theorem Zra (v:Qaj) (s:It) (w:Qai) (h:Itm (Old w) w v s) (hm:Zas s=true) :
  Qao Tryz.prog 166 #[v] w fun e w'=>∃ u,e=.returned (.tuple #[u,.int .i64 0])/\rBy (New w.heap.size w') w' [u] (itB s)/\Qap w.heap.size w w':=by{
 have hmay:=Ud hm;have hchk:=Za (Zb3 hm);have hlen:=Za (Zax s);obtain⟨A,c,rfl,hin,l1,m1,rv⟩:=h.open;obtain⟨⟨⟨g0,g1⟩,⟨n0,n1⟩⟩,_⟩:=hin;have hhead:=Za (Zye s);obtain⟨w0,hw0,f1,f2,f3,f4,f5,hs0,hB0,_⟩:=Zz w (.int .u8 (s.1.1.toNat:Int)) (.int .u32 s.1.2.1) (.int .u32 s.1.2.2) (.int .i64 s.2.1) (.slice A s.2.2.length c) 79;have H0:=Za (h.below hB0);have RV:=Za (Zf.old rv hB0);clear rv;obtain⟨n,hn⟩:∃ n,s.2.2.length=n:=⟨_,rfl⟩
 unfold itV at H0 ⊢;rw[hn] at l1 f5 H0 hw0 RV hmay hlen hhead ⊢;have h12:n<=12:=hmay.2;have hr0:0<=s.2.1/\s.2.1<65536:=by have:=hmay.1;omega
 have hu8:((UInt8.ofNat n).toNat:Int)=(n:Int):=by
  rw[UInt8.toNat_ofNat'];omega
 have HU:=Za hu8;have HWR:=Za (show IntKind.u8.wrap (n:Int)=n by rw[IntKind.wrap_u8'];omega);obtain⟨p,hp⟩:∃ p:Int,(s.1.1.toNat:Int)=p:=⟨_,rfl⟩
 have HP:=Za hp;rw[hp] at f1 hw0 H0 ⊢;clear hp hmay;replace hn:=Za hn;have lt0:w.heap.size<w0.heap.size:=by omega
 have HB0:=Za hB0;clear hB0 hs0 h hu8
 go_enter Tryz.func166,Tryz.ntmps166
 go_upto_region 1 with fail
 clear hw0
 go_wp2_with fail
 with_reducible refine(Ul _ s _ H0.out).mono ?_
 rintro e1 w1 ⟨rfl,hb1⟩;rw[hchk.out];have B1:=Za hb1;replace f1:=(hb1.cell (p:=⟨w.heap.size,0,none⟩) lt0).trans f1;replace f2:=(hb1.cell (p:=⟨w.heap.size,1,none⟩) lt0).trans f2;replace f3:=(hb1.cell (p:=⟨w.heap.size,2,none⟩) lt0).trans f3;replace f4:=(hb1.cell (p:=⟨w.heap.size,3,none⟩) lt0).trans f4;replace f5:=(hb1.cell (p:=⟨w.heap.size,4,none⟩) lt0).trans f5;clear hb1 H0
 go_wp2_with fail
 with_reducible refine(Z0u s.2.1 hr0.1 hr0.2 _).mono ?_
 rintro e2 w2 ⟨A2,rfl,y2,hb2⟩;have lt1:w.heap.size<w1.heap.size:=Qd lt0 B1.out.size;replace f1:=(hb2.cell (p:=⟨w.heap.size,0,none⟩) lt1).trans f1;replace f2:=(hb2.cell (p:=⟨w.heap.size,1,none⟩) lt1).trans f2;replace f3:=(hb2.cell (p:=⟨w.heap.size,2,none⟩) lt1).trans f3;replace f5:=(hb2.cell (p:=⟨w.heap.size,4,none⟩) lt1).trans f5;have B2:=Za (B1.out.trans (hb2.mono B1.out.size));replace y2:=Za y2;replace RV:=Za (Zf.old RV.out B2.out);have lt2:w.heap.size<w2.heap.size:=Qd lt1 hb2.size;clear f4 hb2
 go_wp2_with fail
 refine Zm5 (by kernel_rfl) (fun W=>Qap w2.heap.size w2 W) (fun i=>match i with
   | 3=>some (fun v W=>rBy (Old W) W [v] [s.1.1])
   | 7=>some (fun v W=>rBy (Old W) W [v] (le 4 s.1.2.1))
   | 11=>some (fun v W=>rBy (Old W) W [v] (le 4 s.1.2.2))
   | 17=>some (fun v W=>rBy (Old W) W [v] [UInt8.ofNat n])
   | 20=>some (fun v W=>rSl 1 rBy (Old W) W [v] [[s.1.1],le 4 s.1.2.1,le 4 s.1.2.2,le 2 s.2.1,[UInt8.ofNat n],s.2.2])
   | 21=>some (fun v W=>rBy (New w2.heap.size W) W [v] (itB s))
   | _=>none) (by kernel_rfl) (Qb _ _).drew (fun w w' h hb=>h.trans (hb.mono h.size)) ?tst ?_
 case tst =>
  intro j φ x W W' hp hx hb
  match j,hp with
  | 3,hp=>cases hp;exact Zf.old hx hb
  | 7,hp=>cases hp;exact Zf.old hx hb
  | 11,hp=>cases hp;exact Zf.old hx hb
  | 17,hp=>cases hp;exact Zf.old hx hb
  | 20,hp=>cases hp;exact(Zv Zf).old hx hb
  | 21,hp=>cases hp;exact Zf.new hx (Qc _) hb
 repeat (first
  | (refine wpAs_skip rfl ?_;simp only[Qa,Zb,Zc,Zd])
  | (refine wpAs_pure (v := ?_) rfl rfl ?_ ?_;rotate_left;(intro W hC hE;clear hE;(have z1:=(hC.cell (p:=⟨w.heap.size,0,none⟩) lt2).trans f1);clear hC;go_simp;first | done | with_reducible rfl);simp only[Qa,Zb,Zc,Zd]))
 refine wpAs_act rfl rfl ?_ ?_
 ·intro W hC hE
  clear hE hC;have hy2:=Za (Zfm W 5 s.1.1 p HP.out)
  go_simp
  exact⟨hy2.out,(Qb _ _).alloc (Qc _) _⟩
 simp only[Qa,Zb,Zc,Zd,envAdd];intro x24
 repeat (first
  | (refine wpAs_skip rfl ?_;simp only[Qa,Zb,Zc,Zd])
  | (refine wpAs_pure (v := ?_) rfl rfl ?_ ?_;rotate_left;(intro W hC hE;clear hE;(have z2:=(hC.cell (p:=⟨w.heap.size,1,none⟩) lt2).trans f2);clear hC;go_simp;first | done | with_reducible rfl);simp only[Qa,Zb,Zc,Zd]))
 refine wpAs_act rfl rfl ?_ ?_
 ·intro W hC hE
  clear hE;refine does_enter (f:=67) (args:=#[.int .u32 s.1.2.1]) ?_ ?_
  ·go_simp
  ·refine(Zi3 s.1.2.1 g0 g1 W).mono ?_
   rintro e W' ⟨_,_,rfl,hy,hb⟩;exact⟨_,rfl,hy,hb⟩
 simp only[Qa,Zb,Zc,Zd,envAdd];intro x28
 repeat (first
  | (refine wpAs_skip rfl ?_;simp only[Qa,Zb,Zc,Zd])
  | (refine wpAs_pure (v := ?_) rfl rfl ?_ ?_;rotate_left;(intro W hC hE;clear hE;(have z3:=(hC.cell (p:=⟨w.heap.size,2,none⟩) lt2).trans f3);clear hC;go_simp;first | done | with_reducible rfl);simp only[Qa,Zb,Zc,Zd]))
 refine wpAs_act rfl rfl ?_ ?_
 ·intro W hC hE
  clear hE;refine does_enter (f:=67) (args:=#[.int .u32 s.1.2.2]) ?_ ?_
  ·go_simp
  ·refine(Zi3 s.1.2.2 n0 n1 W).mono ?_
   rintro e W' ⟨_,_,rfl,hy,hb⟩;exact⟨_,rfl,hy,hb⟩
 simp only[Qa,Zb,Zc,Zd,envAdd];intro x32
 repeat (first
  | (refine wpAs_skip rfl ?_;simp only[Qa,Zb,Zc,Zd])
  | (refine wpAs_pure (v := ?_) rfl rfl ?_ ?_;rotate_left;(intro W hC hE;clear hE;(have hwz:=HWR.out;have z5:=(hC.cell (p:=⟨w.heap.size,4,none⟩) lt2).trans f5);clear hC;go_simp;first | done | with_reducible rfl);simp only[Qa,Zb,Zc,Zd]))
 refine wpAs_act rfl rfl ?_ ?_
 ·intro W hC hE
  clear hE hC;have hy2:=Za (Zfm W 5 (UInt8.ofNat n) (n:Int) HU.out)
  go_simp
  exact⟨hy2.out,(Qb _ _).alloc (Qc _) _⟩
 simp only[Qa,Zb,Zc,Zd,envAdd];intro x38
 repeat (first
  | (refine wpAs_skip rfl ?_;simp only[Qa,Zb,Zc,Zd])
  | (refine wpAs_pure (v := ?_) rfl rfl ?_ ?_;rotate_left;(intro W hC hE;clear hE;(have z5:=(hC.cell (p:=⟨w.heap.size,4,none⟩) lt2).trans f5);clear hC;go_simp;first | done | with_reducible rfl);simp only[Qa,Zb,Zc,Zd]))
 refine wpAs_act rfl rfl ?_ ?_
 ·intro W hC hE
  have y38:=hE.1 rfl;have y32:=hE.2.1 rfl;have y28:=hE.2.2.1 rfl;have y24:=hE.2.2.2.1 rfl
  have hl6:=Za (Zkn W 27 [x24,x28,x32,.slice A2 2 2,x38,.slice A n c] [[s.1.1],le 4 s.1.2.1,le 4 s.1.2.2,le 2 s.2.1,[UInt8.ofNat n],s.2.2] rfl (by simp) (fun i v x h1 h2=>by
   match i,h1,h2 with
   | 0,h1,h2=>cases h1;cases h2;exact y24
   | 1,h1,h2=>cases h1;cases h2;exact y28
   | 2,h1,h2=>cases h1;cases h2;exact y32
   | 3,h1,h2=>cases h1;cases h2;exact Zf.old y2.out hC
   | 4,h1,h2=>cases h1;cases h2;exact y38
   | 5,h1,h2=>cases h1;cases h2;exact Zf.old RV.out hC))
  obtain⟨_,_,rfl,_⟩:=Zo y24;obtain⟨_,_,rfl,_⟩:=Zo y28;obtain⟨_,_,rfl,_⟩:=Zo y32;obtain⟨_,_,rfl,_⟩:=Zo y38;clear hE hC y24 y28 y32 y38
  go_simp
  exact⟨hl6.out,(Qb _ _).alloc (Qc _) _⟩
 simp only[Qa,Zb,Zc,Zd,envAdd];intro x41;refine wpAs_act rfl rfl ?_ ?_
 ·intro W hC hE
  have y41:=hE.1 rfl;have hlen2:Zhf [[s.1.1],le 4 s.1.2.1,le 4 s.1.2.2,le 2 s.2.1,[UInt8.ofNat n],s.2.2]=12+n:=by
   unfold Zhf;rw[hhead.out,hlen.out]
  refine does_enter (f:=66) (args:=#[x41]) ?_ ?_
  ·clear hE hC hlen2
   obtain⟨_,_,e,_⟩:=Zad y41;cases e;clear y41
   go_simp
  ·refine(Zej x41 _ W (by rw[hlen2];omega) y41).mono ?_
   rintro e W' ⟨u,rfl,ho,hb⟩;rw[hlen2,hhead.out] at ho;exact⟨_,rfl,Zf.mono (Zcw ho) hC.size,hb⟩
 simp only[Qa,Zb,Zc,Zd,envAdd];intro x42;refine wpAs_pure (v:=x42) rfl rfl ?_ ?_
 ·intro W hC hE
  clear hE hC
  go_simp
 simp only[Qa,Zb,Zc,Zd]
 repeat (first
  | (refine wpAs_skip rfl ?_;simp only[Qa,Zb,Zc,Zd])
  | (refine wpAs_pure (v := ?_) rfl rfl ?_ ?_;rotate_left;(intro W hC hE;clear hE;skip;clear hC;go_simp;first | done | with_reducible rfl);simp only[Qa,Zb,Zc,Zd]))
 refine wpAs_end fun W hC hE=> ?_
 have o42:=Za hE.1;clear hE;have BW:=Za (HB0.out.trans ((B2.out.trans (hC.mono B2.out.size)).mono HB0.out.size));clear hC
 go_wp2_with fail
 go_ret2
 exact⟨_,rfl,Zf.mono o42.out (Nat.le_of_lt lt2),BW.out⟩}
theorem Znz (v:Qaj) (s:It) (w:Qai) (h:Itm (Old w) w v s) :
  Qao Tryz.prog 166 #[v] w fun e w'=>∃ u,e=.returned (.tuple #[u,.int .i64 (Z0m s)])/\rBy (New w.heap.size w') w' [u] (wrI s)/\Qap w.heap.size w w':=by{
 cases hm:Zas s with
 | true =>
  rw[Zb3 hm,show wrI s=itB s by simp[wrI,hm]];exact Zra v s w h hm
 | false =>
  rw[Uj hm,show wrI s=[] by simp[wrI,hm]];have hchk:=Za (Uj hm);replace hm:=Za hm;obtain⟨A,c,rfl,_⟩:=h.open;obtain⟨w0,hw0,f1,f2,f3,f4,f5,hs0,hB0,_⟩:=Zz w (.int .u8 (s.1.1.toNat:Int)) (.int .u32 s.1.2.1) (.int .u32 s.1.2.2) (.int .i64 s.2.1) (.slice A s.2.2.length c) 79;have H0:=Za (h.below hB0);have HB0:=Za hB0;clear hB0 hs0 h
  go_enter Tryz.func166,Tryz.ntmps166
  go_upto_region 1 with fail
  clear hw0
  go_wp2_with fail
  with_reducible refine(Ul _ s _ H0.out).mono ?_
  rintro e1 w1 ⟨rfl,hb1⟩;rw[hchk.out];have BF:=Za (HB0.out.trans (hb1.mono HB0.out.size));clear hb1
  go_wp2_with fail
  go_ret2
  exact⟨_,rfl,Zg3 _ _,BF.out⟩}
def Zcv (b:List UInt8):Nat:=(b[11]?.getD 0).toNat
theorem Zv7 (b:List UInt8):Zcv b<256:=(b[11]?.getD 0).toNat_lt
def okC (b:List UInt8):Bool:=decide (12+Zcv b<=b.length)
def Z33 (b:List UInt8):List UInt8:=if okC b then (b.drop 12).take (Zcv b) else []
def Zst (b:List UInt8):Int:=if okC b then 0 else 8
def X0 (b:List UInt8):It:=((b[0]?.getD 0,gv 4 b 1,gv 4 b 5),gv 2 b 9,(b.drop 12).take (Zcv b))
def Zss (b:List UInt8):It:=if okC b then X0 b else Zgq
theorem Zda {b:List UInt8}(h:okC b=true):12+Zcv b<=b.length:=by simpa [okC] using h
theorem Z4c {b:List UInt8}(h:okC b=false):¬ 12+Zcv b<=b.length:=by simpa [okC] using h
theorem Zi0 (b:List UInt8):InI (X0 b):=⟨⟨Z01 _ _,Z01 _ _⟩,Z5q _ _⟩
theorem Zho {b:List UInt8}(h:okC b=true):(X0 b).2.2.length=Zcv b:=by
 have:=Zda h;simp[X0];omega
def okR (b:List UInt8):Bool:=okC b&&Zas (Zss b)
def itR (b:List UInt8):It:=if okR b then X0 b else Zgq
def itN (b:List UInt8):Int:=if okR b then (12+Zcv b:Int) else 0
def itE (b:List UInt8):Int:=if okR b then 0 else 8
theorem Zqm {ok:Qak->Prop}{w:Qai}{ad:Qak}{n c:Nat}{b:List UInt8}(h:rBy ok w [.slice (some ad) n c] b) (k m cap:Nat) (hk:k+m<=b.length) (hm:m<=cap) (hc:cap<=9223372036854775807):rBy ok w [.slice (some (ad.add k)) m cap] ((b.drop k).take m):=by{
 obtain⟨A,c',e,_,_,h4⟩:=h;cases e;have hl:((b.drop k).take m).length=m:=by simp;omega
 refine⟨some (ad.add k),cap,by rw[hl],by rw[hl];exact hm,hc,fun i x hi=> ?_⟩;have him:i<m:=by rw[<- hl];exact(Qh.1 hi).1
 have hi':b[k+i]? = some x:=by
  rw[List.getElem?_take_of_lt him,List.getElem?_drop] at hi;exact hi
 obtain⟨ad',vs,e1,e2,e3,e4⟩:=h4 (k+i) x hi';cases e1;refine⟨ad.add k,vs,rfl,e2,fun j v hj=> ?_,e4⟩;have:=e3 j v hj;rw[Zjx,show k+(i*1+j)=(k+i)*1+j by omega];exact this}
theorem Zat (ok:Qak->Prop) (w:Qai) (A:Option Qak):rBy ok w [.slice A 0 0] []:=⟨A,0,rfl,by simp,by omega,fun i x h=>by simp at h⟩
theorem Z3t (ok:Qak->Prop) (v:Qaj) (b:List UInt8) (w:Qai) (h:rBy ok w [v] b) :
  Qao Tryz.prog 245 #[v] w fun e w'=>∃ u,e=.returned (.tuple #[u,.int .i64 (Zst b)])/\rBy ok w' [u] (Z33 b)/\w=w':=by{
 obtain⟨A,c,rfl,l1,m1,hy⟩:=Zo h;obtain⟨n,hn⟩:∃ n,b.length=n:=⟨_,rfl⟩
 have hcn:=Zv7 b;cases hok:okC b with
 | false =>
  have hno:=Z4c hok;have hE:=Za (show Zst b=8 by simp[Zst,hok]);have hV:=Za (show Z33 b=[] by simp[Z33,hok]);rw[hE.out,hV.out];by_cases h12:n<12
  ·have i1:(n:Int)<12:=by omega
   rw[hn] at l1 ⊢;clear hok hno hn hy h
   go_enter Tryz.func245,Tryz.ntmps245
   go_wp2_with fail
   go_ret2
   exact⟨_,rfl,Zat _ _ _,rfl⟩
  ·obtain⟨ad,rfl,_,hc⟩:=hy 11 (by omega)
   have h11:w.cell? ⟨ad.block,ad.off+11,none⟩=some (.int .u8 (Zcv b:Int)):=by simpa [Addr.add,Zcv] using hc
   obtain⟨k,hk⟩:∃ k,Zcv b=k:=⟨_,rfl⟩
   rw[hk] at h11 hno hcn;rw[hn] at l1 hno ⊢;have i1:¬ (n:Int)<12:=by omega
   have i2:(n:Int)<12+k:=by omega
   clear hok hno hn hy h hc hk
   go_enter Tryz.func245,Tryz.ntmps245
   go_wp2_with fail
   go_ret2
   exact⟨_,rfl,Zat _ _ _,rfl⟩
 | true =>
  have hyes:=Zda hok;have hE:=Za (show Zst b=0 by simp[Zst,hok]);have hV:=Za (show Z33 b=(b.drop 12).take (Zcv b) by simp[Z33,hok]);rw[hE.out,hV.out];obtain⟨ad,rfl,_,hc⟩:=hy 11 (by omega);have h11:w.cell? ⟨ad.block,ad.off+11,none⟩=some (.int .u8 (Zcv b:Int)):=by simpa [Addr.add,Zcv] using hc
  obtain⟨k,hk⟩:∃ k,Zcv b=k:=⟨_,rfl⟩
  rw[hk] at h11 hyes hcn ⊢;rw[hn] at l1 hyes ⊢;have i1:¬ (n:Int)<12:=by omega
  have i2:¬ (n:Int)<12+k:=by omega
  clear hok hE hV hc;rcases Pf k with h0 | h0
  ·subst h0
   rw[Q8]
   go_enter Tryz.func245,Tryz.ntmps245
   go_wp2_with fail
   go_ret2
   exact⟨_,rfl,Zat _ _ _,rfl⟩
  ·have hfin:Hid (rBy ok w [.slice (some ⟨ad.block,ad.off+12,none⟩) k k] ((b.drop 12).take k)):=Za (by
    have h1:ad.add 12=⟨ad.block,ad.off+12,none⟩:=by simp[Addr.add]
    have h2:=Zqm h 12 k k (by omega) (Qc _) (by omega)
    rwa [h1] at h2)
   have h0':¬ k=0:=by omega
   clear hy h hn hk
   go_enter Tryz.func245,Tryz.ntmps245
   go_wp2_with fail
   go_ret2
   exact⟨_,rfl,hfin.out,rfl⟩}
theorem Z4z {a b c:Int}(ha:a=0\/a=8) (hb:b=0\/b=8) (hc:c=0\/c=8):orN [a,b,c,8]=8:=by
 rcases ha with rfl | rfl <;> rcases hb with rfl | rfl <;> rcases hc with rfl | rfl <;> rfl
theorem Zop (m n:Nat) (k:Int):ge m n k=0\/ge m n k=8:=by
 unfold ge;split
 ·exact Or.inl rfl
 ·exact Or.inr rfl
theorem Zoe {e:Int}(h:e=0\/e=8):Zcz e:=by
 rcases h with rfl | rfl <;> exact⟨by decide,by decide⟩
theorem Zog (ok:Qak->Prop) (v:Qaj) (b:List UInt8) (w:Qai) (hok0:∀ p,ok p->p.block<w.heap.size) (h:rBy ok w [v] b) :
  Qao Tryz.prog 218 #[v] w fun e w'=>∃ u,e=.returned (.tuple #[u,.int .i64 (Zst b)])/\Itm ok w' u (Zss b)/\Qap w.heap.size w w':=by{
 obtain⟨A,c,rfl,l1,m1,hy⟩:=Xs (B:=w.heap.size) hok0 h;obtain⟨n,hn⟩:∃ n,b.length=n:=⟨_,rfl⟩
 have hin:=Za (Zi0 b);have HO:=Za hok0;have hhead:okC b=true->∃ ad,A=some ad/\Old w ad/\w.cell? ad=some (.int .u8 ((b[0]?.getD 0).toNat:Int)):=fun hk=>by
  have:=Zda hk;obtain⟨ad,rfl,hb,hc⟩:=hy (by omega);exact⟨ad,rfl,hb,by have:=hc 0 (by omega);simpa [Addr.add] using this⟩
 replace hhead:=Za hhead;have hF:Hid (Zss b=if okC b then X0 b else Zgq):=Za rfl;have hE:Hid (Zst b=if okC b then 0 else 8):=Za rfl;have hV:Hid (Z33 b=if okC b then (b.drop 12).take (Zcv b) else []):=Za rfl;have hg1:=Zop 4 n 1;have hg2:=Zop 4 n 5;have hg3:=Zop 2 n 9
 have hgy:Hid (okC b=true->ge 4 n 1=0/\ge 4 n 5=0/\ge 2 n 9=0):=Za (fun hk=>by
  have:=Zda hk
  exact⟨Zmb (by omega),Zmb (by omega),Zmb (by omega)⟩)
 rw[hn] at l1 h ⊢;have HL:=Za hn;have HY:=Za hy;have HV:=Za h;obtain⟨w0,hw0,_,_,_,_,_,hs0,hB0,b0⟩:=Zz w (.int .u8 0) (.int .u32 0) (.int .u32 0) (.int .i64 0) (.slice none 0 0) 79;have lt0:w.heap.size<w0.heap.size:=by omega
 have HB0:=Za hB0;replace b0:=Za b0;replace hw0:=Za hw0;obtain⟨x0,hx0⟩:∃ x,b[0]?.getD 0=x:=⟨_,rfl⟩
 obtain⟨x1,hx1⟩:∃ x,gv 4 b 1=x:=⟨_,rfl⟩
 obtain⟨x2,hx2⟩:∃ x,gv 4 b 5=x:=⟨_,rfl⟩
 obtain⟨x3,hx3⟩:∃ x,gv 2 b 9=x:=⟨_,rfl⟩
 obtain⟨e1,he1⟩:∃ x,ge 4 n 1=x:=⟨_,rfl⟩
 obtain⟨e2,he2⟩:∃ x,ge 4 n 5=x:=⟨_,rfl⟩
 obtain⟨e3,he3⟩:∃ x,ge 2 n 9=x:=⟨_,rfl⟩
 rw[hx0] at hhead;rw[he1] at hg1 hgy;rw[he2] at hg2 hgy;rw[he3] at hg3 hgy;have hFE:=Za (show X0 b=((x0,x1,x2),x3,(b.drop 12).take (Zcv b)) by rw[<- hx0,<- hx1,<- hx2,<- hx3];rfl);replace hx0:=Za hx0;replace hx1:=Za hx1;replace hx2:=Za hx2;replace hx3:=Za hx3;replace he1:=Za he1;replace he2:=Za he2;replace he3:=Za he3;replace hg1:=Za hg1;replace hg2:=Za hg2;replace hg3:=Za hg3;clear hB0 hs0 h hy hn hok0
 go_enter Tryz.func218,Tryz.ntmps218
 go_upto_region 1 with fail
 rw[hw0.out];clear hw0
 go_wp2_with fail
 with_reducible refine(Zdi _ n c 1 b HL l1 m1 _ ((HY.out.below HB0.out).more HB0.out.size)).mono ?_
 rintro f1 w1 ⟨rfl,hb1⟩;rw[he1.out,hx1.out];have B1:=Za (HB0.out.trans (hb1.mono HB0.out.size));have C1:=Za hb1;clear hb1
 go_wp2_with fail
 with_reducible refine(Zdi _ n c 5 b HL l1 m1 _ ((HY.out.below B1.out).more B1.out.size)).mono ?_
 rintro f2 w2 ⟨rfl,hb2⟩;rw[he2.out,hx2.out];have B2:=Za (B1.out.trans (hb2.mono B1.out.size));have C2:=Za (C1.out.trans (hb2.mono C1.out.size));clear hb2
 go_wp2_with fail
 with_reducible refine(Zh5 _ n c 9 b HL l1 m1 _ ((HY.out.below B2.out).more B2.out.size)).mono ?_
 rintro f3 w3 ⟨rfl,hb3⟩;rw[he3.out,hx3.out];have B3:=Za (B2.out.trans (hb3.mono B2.out.size));have C3:=Za (C2.out.trans (hb3.mono C2.out.size));clear hb3
 go_wp2_with fail
 have hv3:Hid (rBy ok w3 [.slice A n c] b):=Za (Zf _ _ _ _ _ _ (fun p v hp hc=>⟨hp,(B3.out.cell (HO.out p hp)).trans hc⟩) HV.out);with_reducible refine(Z3t ok _ b _ hv3.out).mono ?_
 rintro f4 w4 ⟨u,rfl,hu,rfl⟩;cases hok:okC b with
 | false =>
  have hq:=Za (show Zst b=8 by rw[hE.out,hok];rfl);have hz:=Za (show Zss b=Zgq by rw[hF.out,hok];rfl);rw[hq.out];obtain⟨w6,hw6,h6⟩:∃ w6,w3.alloc (.cells #[.int .i64 e1,.int .i64 e2,.int .i64 e3,.int .i64 8] 36)=w6/\Zhd (Old w6) w6 [.slice (some ⟨w3.heap.size,0,none⟩) 4 4] [e1,e2,e3,8] :=
   ⟨_,rfl,Zfk w3 36 [e1,e2,e3,8] _ rfl (by simp) (fun x hx=>by
    simp at hx;rcases hx with rfl | rfl | rfl | rfl
    ·exact Zoe hg1.out
    ·exact Zoe hg2.out
    ·exact Zoe hg3.out
    ·exact⟨by decide,by decide⟩)⟩
  have b6:Qap w3.heap.size w3 w6:=by rw[<- hw6];exact(Qb _ _).alloc (Qc _) _
  have B6:=Za (B3.out.trans (b6.mono B3.out.size));have C6:=Za (C3.out.trans (b6.mono C3.out.size));have hor:=Za (Z4z hg1.out hg2.out hg3.out);replace h6:=Za h6;replace hok:=Za hok;obtain⟨_,_,rfl,_⟩:=id (Zo hu);clear b6 hu
  go_wp2_with fail
  with_reducible refine(Ztm _ [e1,e2,e3,8] _ h6.out).mono ?_
  rintro f7 w7 ⟨rfl,rfl⟩;rw[hor.out];clear hw6;have b9:=(C6.out.block w.heap.size lt0).trans b0.out;obtain⟨W9,hW9,g9,gr9,gs9⟩:=Zah (u0:=.int .u8 0) (u1:=.int .u32 0) (u2:=.int .u32 0) (u3:=.int .i64 0) (u4:=.slice none 0 0) b9;obtain⟨k0,k1,k2,k3,k4,_,_⟩:=Zq g9;obtain⟨a0,a1,a2,a3,a4,af,_⟩:=Zq b9;have B9:=Za (B6.out.grown gr9 B6.out.size (fun q e=>by cases e;omega));replace b9:=Za b9;clear g9 gr9
  go_wp2_with fail
  exact Qam (v:=.tuple #[.agg #[.int .u8 0,.int .u32 0,.int .u32 0,.int .i64 0,.slice none 0 0],.int .i64 8]) (by simp[results,Tryz.results218,go_sem,k0,k1,k2,k3,k4]) rfl ⟨_,Zi1 hq.out.symm,by rw[hz.out];exact Zjz _ _,B9.out⟩
 | true =>
  have hq:=Za (show Zst b=0 by rw[hE.out,hok];rfl);have hz:=Za (show Zss b=X0 b by rw[hF.out,hok];rfl);have hv:=Za (show Z33 b=(b.drop 12).take (Zcv b) by rw[hV.out,hok];rfl);obtain⟨rfl,rfl,rfl⟩:=hgy.out hok;obtain⟨ad,rfl,Zcx,hcell⟩:=hhead.out hok;rw[hq.out];rw[hv.out] at hu;obtain⟨L,hL⟩:∃ L,(b.drop 12).take (Zcv b)=L:=⟨_,rfl⟩
  rw[hL] at hu;have hFL:=hFE.out;rw[hL] at hFL;replace hFL:=Za hFL;replace hL:=Za hL;obtain⟨w6,hw6,h6⟩:∃ w6,w3.alloc (.cells #[.int .i64 0,.int .i64 0,.int .i64 0,.int .i64 0] 36)=w6/\Zhd (Old w6) w6 [.slice (some ⟨w3.heap.size,0,none⟩) 4 4] [0,0,0,0] :=
   ⟨_,rfl,Zfk w3 36 [0,0,0,0] _ rfl (by simp) (fun x hx=>by
    simp at hx;subst hx
    exact⟨by decide,by decide⟩)⟩
  have b6:Qap w3.heap.size w3 w6:=by rw[<- hw6];exact(Qb _ _).alloc (Qc _) _
  have B6:=Za (B3.out.trans (b6.mono B3.out.size));have C6:=Za (C3.out.trans (b6.mono C3.out.size));have hor:Hid (orN [0,0,0,0]=0):=Za rfl;have hu6:Hid (rBy ok w6 _ L):=Za (Zf _ _ _ _ _ _ (fun p v hp hc=>⟨hp,(b6.cell (Qd (HO.out p hp) B3.out.size)).trans hc⟩) hu);have hn0:=Zda hok;have hnn:0<n:=by have:=HL.out;omega
  replace h6:=Za h6;replace hok:=Za hok;obtain⟨D,dc,rfl,_⟩:=id (Zo hu);clear b6 hu hn0
  go_wp2_with fail
  with_reducible refine(Ztm _ [0,0,0,0] _ h6.out).mono ?_
  rintro f7 w7 ⟨rfl,rfl⟩;rw[hor.out];clear hw6;have c0:=(B6.out.cell Zcx).trans hcell;have b9:=(C6.out.block w.heap.size lt0).trans b0.out;obtain⟨W9,hW9,g9,gr9,gs9⟩:=Zah (u0:=.int .u8 (x0.toNat:Int)) (u1:=.int .u32 x1) (u2:=.int .u32 x2) (u3:=.int .i64 x3) (u4:=.slice D L.length dc) b9;obtain⟨k0,k1,k2,k3,k4,_,_⟩:=Zq g9;obtain⟨a0,a1,a2,a3,a4,af,_⟩:=Zq b9;have B9:=Za (B6.out.grown gr9 B6.out.size (fun q e=>by cases e;omega))
  have hfin:Hid (Itm ok W9 (.agg #[.int .u8 (x0.toNat:Int),.int .u32 x1,.int .u32 x2,.int .i64 x3,.slice D L.length dc]) (Zss b)):=Za (by
   have h2:=hin.out;rw[hFL.out] at h2;rw[hz.out,hFL.out];refine⟨_,rfl,h2,Zf _ _ _ _ _ _ (fun p v hp hc=>⟨hp,?_⟩) hu6.out⟩;have hb:=gr9.block p.block (Qd (HO.out p hp) B6.out.size) (fun e=>by have h1:=Option.some.inj e;have h2:p.block<w.heap.size:=HO.out p hp;omega)
   exact(Qq hb).trans hc)
  replace b9:=Za b9;replace Zcx:=Za Zcx;clear g9 gr9 hcell
  go_wp2_with fail
  exact Qam (v:=.tuple #[.agg #[.int .u8 (x0.toNat:Int),.int .u32 x1,.int .u32 x2,.int .i64 x3,.slice D L.length dc],.int .i64 0]) (by simp[results,Tryz.results218,go_sem,k0,k1,k2,k3,k4]) rfl ⟨_,Zi1 hq.out.symm,hfin.out,B9.out⟩}
theorem Zdv (b:Bool):b=false\/b=true:=by cases b <;> simp
theorem Zis {b:List UInt8}(h:okR b=true):okC b=true/\Zas (Zss b)=true:=by simpa [okR] using h
theorem Zry (v:Qaj) (b:List UInt8) (w:Qai) (h:rBy (Old w) w [v] b) :
  Qao Tryz.prog 158 #[v] w fun e w'=>∃ u,e=.returned (.tuple #[u,.int .i64 (itN b),.int .i64 (itE b)])/\Itm (New w.heap.size w') w' u (itR b)/\Qap w.heap.size w w':=by{
 obtain⟨A,c,rfl,_⟩:=id (Zo h);obtain⟨n,hn⟩:∃ n,b.length=n:=⟨_,rfl⟩
 have hE:Hid (itE b=if okR b then 0 else 8):=Za rfl;have hN:Hid (itN b=if okR b then (12+Zcv b:Int) else 0):=Za rfl;have hR:Hid (itR b=if okR b then X0 b else Zgq):=Za rfl;have hO:Hid (okR b=(okC b&&Zas (Zss b))):=Za rfl;obtain⟨w0,hw0,_,_,_,_,_,hs0,hB0,b0⟩:=Zz w (.int .u8 0) (.int .u32 0) (.int .u32 0) (.int .i64 0) (.slice none 0 0) 79;have lt0:w.heap.size<w0.heap.size:=by omega
 have HV:Hid (rBy (Old w) w0 [.slice A b.length c] b):=Za (Zf _ _ _ _ _ _ (fun p v hp hc=>⟨hp,(hB0.cell hp).trans hc⟩) h);have HB0:=Za hB0;replace b0:=Za b0;replace hw0:=Za hw0;rw[hn] at HV ⊢;replace hn:=Za hn;clear hB0 hs0 h
 go_enter Tryz.func158,Tryz.ntmps158
 go_upto_region 1 with fail
 rw[hw0.out];clear hw0
 go_wp2_with fail
 with_reducible refine(Zog (Old w) _ b _ (fun p hp=>Q6 hp lt0) HV.out).mono ?_
 rintro f1 w1 ⟨u,rfl,hu,hb1⟩;have B1:=Za (HB0.out.trans (hb1.mono HB0.out.size));have C1:=Za hb1;have b1:=(hb1.block w.heap.size lt0).trans b0.out;have lt1:w.heap.size<w1.heap.size:=Qd lt0 hb1.size;have hF:Hid (Zss b=if okC b then X0 b else Zgq):=Za rfl;obtain⟨s,hs⟩:∃ s,Zss b=s:=⟨_,rfl⟩
 rw[hs] at hu hO hF;replace hs:=Za hs;have hin:=hu.open;obtain⟨D,dc,rfl,hin,d1,d2,hu2⟩:=hin;obtain⟨W2,hW2,g2,gr2,gs2⟩:=Zah (u0:=.int .u8 (s.1.1.toNat:Int)) (u1:=.int .u32 s.1.2.1) (u2:=.int .u32 s.1.2.2) (u3:=.int .i64 s.2.1) (u4:=.slice D s.2.2.length dc) b1;obtain⟨a0,a1,a2,a3,a4,af,_⟩:=Zq b1;obtain⟨k0,k1,k2,k3,k4,kf,_⟩:=Zq g2;have B2:=Za (B1.out.grown gr2 B1.out.size (fun q e=>by cases e;omega))
 have hu3:Hid (Itm (Old w) W2 (itV s (.slice D s.2.2.length dc)) s):=Za (by
  refine⟨_,rfl,hin,Zf _ _ _ _ _ _ (fun p v hp hc=>⟨hp,?_⟩) hu2⟩
  exact(Qq (gr2.block p.block (Q6 hp lt1) (fun e=>by have h1:=Option.some.inj e;have h2:p.block<w.heap.size:=hp;omega))).trans hc)
 have hfinB:∀ (W:Qai),Qap W2.heap.size W2 W->okR b=false->∃ W9:Qai,(((((W.setCell ⟨w.heap.size,0,none⟩ (.int .u8 0)).setCell ⟨w.heap.size,1,none⟩ (.int .u32 0)).setCell ⟨w.heap.size,2,none⟩ (.int .u32 0)).setCell ⟨w.heap.size,3,none⟩ (.int .i64 0)).setCell ⟨w.heap.size,4,none⟩ (.slice none 0 0))=W9 /\
   W9.heap[w.heap.size]? = some (.cells #[.int .u8 0,.int .u32 0,.int .u32 0,.int .i64 0,.slice none 0 0] 79 (0,0))/\Hid (itE b=8/\itN b=0/\itR b=Zgq/\Qap w.heap.size w W9):=fun W hW hno=>by
  obtain⟨W9,hW9,g9,gr9,gs9⟩:=Zah (u0:=.int .u8 0) (u1:=.int .u32 0) (u2:=.int .u32 0) (u3:=.int .i64 0) (u4:=.slice none 0 0) ((hW.block w.heap.size (by omega)).trans g2);have B:=B2.out.trans (hW.mono B2.out.size);exact⟨W9,hW9,g9,Za ⟨by rw[hE.out,hno];rfl,by rw[hN.out,hno];rfl,by rw[hR.out,hno];rfl,B.grown gr9 B.size (fun q e=>by cases e;omega)⟩⟩
 replace hfinB:=Za hfinB;replace b1:=Za b1;replace g2:=Za g2;replace gs2:=Za gs2;replace gr2:=Za gr2;clear hu hu2 hb1;rcases Zdv (okC b) with hok | hok
 ·skip
  have hq:=Za (show Zst b=8 by simp[Zst,hok]);have hno:okR b=false:=by simp[okR,hok]
  obtain⟨W9,hW9,g9,hz⟩:=hfinB.out W2 (Qb _ _) hno;obtain⟨m0,m1,m2,m3,m4,_,_⟩:=Zq g9;rw[hq.out];replace hok:=Za hok;replace hno:=Za hno;replace g9:=Za g9
  go_wp2_with fail
  exact Qam (v:=.tuple #[.agg #[.int .u8 0,.int .u32 0,.int .u32 0,.int .i64 0,.slice none 0 0],.int .i64 0,.int .i64 8]) (by simp[results,Tryz.results158,go_sem,m0,m1,m2,m3,m4]) rfl ⟨_,by rw[hz.out.1,hz.out.2.1],by rw[hz.out.2.2.1];exact Zjz _ _,hz.out.2.2.2⟩
 ·skip
  have hq:=Za (show Zst b=0 by simp[Zst,hok]);have hsf:=Za (show s=X0 b by rw[hF.out,hok];rfl);have hcl:s.2.2.length=Zcv b:=by rw[hsf.out];exact Zho hok
  have hcn:=Zv7 b;rw[hq.out];have hO2:=Za (show okR b=Zas s by rw[hO.out,hok];rfl);replace hok:=Za hok;replace hcl:=Za hcl
  go_wp2_with fail
  with_reducible refine(Ul _ s _ (hu3.out.map fun p v hp hc=>⟨Q6 hp (by have:=gs2.out;have:=C1.out.size;omega),hc⟩)).mono ?_
  rintro f2 w3 ⟨rfl,hb3⟩;have C3:=Za hb3;have lt2:w.heap.size<W2.heap.size:=by have:=gs2.out;omega
  have b3:=(hb3.block w.heap.size lt2).trans g2.out;obtain⟨q0,q1,q2,q3,q4,qf,_⟩:=Zq b3;clear k0 k1 k2 k3 k4 kf;have B3:=Za (B2.out.trans (hb3.mono B2.out.size));rcases Zdv (Zas s) with hm | hm
  ·skip
   obtain⟨W9,hW9,g9,hz⟩:=hfinB.out w3 C3.out (by rw[hO2.out,hm]);obtain⟨m0,m1,m2,m3,m4,_,_⟩:=Zq g9;have hck:=Za (Uj hm);rw[hck.out];replace hm:=Za hm;replace g9:=Za g9;replace b3:=Za b3;clear hb3
   go_wp2_with fail
   exact Qam (v:=.tuple #[.agg #[.int .u8 0,.int .u32 0,.int .u32 0,.int .i64 0,.slice none 0 0],.int .i64 0,.int .i64 8]) (by simp[results,Tryz.results158,go_sem,m0,m1,m2,m3,m4]) rfl ⟨_,by rw[hz.out.1,hz.out.2.1],by rw[hz.out.2.2.1];exact Zjz _ _,hz.out.2.2.2⟩
  ·skip
   have hck:=Za (Zb3 hm);have hyes:okR b=true:=by rw[hO2.out,hm]
   have hE9:=Za (show itE b=0 by rw[hE.out,hyes];rfl);have hN9:=Za (show itN b=12+s.2.2.length by rw[hN.out,hyes,hcl.out];rfl);have hR9:=Za (show itR b=s by rw[hR.out,hyes,hsf.out];rfl);have h12:s.2.2.length<=12:=(Ud hm).2
   have hu4:Hid (Itm (Old w3) w3 (itV s (.slice D s.2.2.length dc)) s):=Za (hu3.out.map fun p v hp hc=>by
    have h1:p.block<W2.heap.size:=Q6 hp (by have:=gs2.out;have:=C1.out.size;omega)
    exact⟨Qd h1 hb3.size,(hb3.cell h1).trans hc⟩)
   have lt3:w.heap.size<w3.heap.size:=Qd lt2 hb3.size;rw[hck.out];replace hm:=Za hm;replace hyes:=Za hyes;replace b3:=Za b3;clear hb3 a0 a1 a2 a3 a4 af
   go_wp2_with fail
   have HT:Hid (∀ W,Qap w3.heap.size w3 W->Qao Tryz.prog 219 #[itV s (.slice D s.2.2.length dc)] W fun e w'=>∃ X xc,e=.returned (itV s (.slice X s.2.2.length xc))/\Itm (New w3.heap.size w') w' (itV s (.slice X s.2.2.length xc)) s/\Qap w3.heap.size w3 w'):=Za fun W hC=>by
    refine(Zwp _ s W (by omega) (hu4.out.below hC)).mono ?_;rintro e W' ⟨x,rfl,hx,hb⟩;obtain⟨X,xc,rfl,_⟩:=id hx.open;exact⟨X,xc,rfl,hx.map fun p v hp hc=>⟨⟨Qf hC.size hp.1,hp.2⟩,hc⟩,hC.trans (hb.mono hC.size)⟩
   have hdr:Qap w3.heap.size w3 w3.drew:=(Qb _ _).drew;have hwr:IntKind.i64.wrap (12+(s.2.2.length:Int))=12+s.2.2.length:=by rw[IntKind.wrap_i64];omega
   go_region_with (first
    | (go_at_call 219;refine(HT.out _ hdr).mono ?_;rintro e' wm ⟨X,xc,rfl,hx,hw⟩;have bW:=(hw.block w.heap.size lt3).trans b3.out;obtain⟨c0,c1,c2,c3,c4,cf,_⟩:=Zq bW))
   all_goals
    (go_wp2_with fail
     obtain⟨W9,hW9,g9,gr9,gs9⟩:=Zah (u0:=.int .u8 (s.1.1.toNat:Int)) (u1:=.int .u32 s.1.2.1) (u2:=.int .u32 s.1.2.2) (u3:=.int .i64 s.2.1) (u4:=.slice X s.2.2.length xc) bW;obtain⟨m0,m1,m2,m3,m4,_,_⟩:=Zq g9;rw[hW9];have BW:=B3.out.trans (hw.mono B3.out.size)
     exact Qam (v:=.tuple #[.agg #[.int .u8 (s.1.1.toNat:Int),.int .u32 s.1.2.1,.int .u32 s.1.2.2,.int .i64 s.2.1,.slice X s.2.2.length xc],.int .i64 (12+s.2.2.length),.int .i64 0]) (by simp[results,Tryz.results158,go_sem,m0,m1,m2,m3,m4]) rfl ⟨_,by rw[hE9.out,hN9.out],by
      rw[hR9.out]
      exact(hx.grown gr9 (fun q e=>by cases e;omega)).map fun p v hp hc=>⟨⟨Qf B3.out.size hp.1,hp.2⟩,hc⟩,BW.grown gr9 BW.size (fun q e=>by cases e;omega)⟩)}
theorem Z23 (m:Nat) (n:Int) (xs ys:List UInt8) (k:Nat) (hk:xs.length=k) (h0:0<=n) (h1:n<256 ^ m):gv m (xs++(le m n++ys)) k=n:=by
 have h:=Zgd (m:=m) (xs:=xs++(le m n++ys)) (k:=(k:Int)) ⟨by omega,by simp[Z6,hk];omega⟩;rw[h];have e:(k:Int).toNat=xs.length:=by omega
 rw[e,Qad,Pu (Z6 m n)];exact Z08 m n h0 h1
theorem Zob (s:It) (xs:List UInt8) (h:s.2.2.length<=12):Zcv (itB s++xs)=s.2.2.length:=by{
 have e:(itB s++xs)[11]? = some (UInt8.ofNat s.2.2.length):=by
  have:itB s++xs=([s.1.1]++(le 4 s.1.2.1++(le 4 s.1.2.2++le 2 s.2.1)))++(UInt8.ofNat s.2.2.length::(s.2.2++xs)):=by simp[itB]
  rw[this,Qr (by simp[Z6])];simp[Z6]
 unfold Zcv;rw[e];simp only[Option.getD_some,UInt8.toNat_ofNat'];omega}
theorem Z3c (s:It) (xs:List UInt8) (h:s.2.2.length<=12):okC (itB s++xs)=true:=by
 unfold okC;rw[Zob s xs h];simp[Zax]
theorem Zsa (s:It) (xs:List UInt8) (hi:InI s) (h:Zas s=true):X0 (itB s++xs)=s:=by{
 obtain⟨hr,hl⟩:=Ud h;obtain⟨⟨⟨i0,i1⟩,⟨o0,o1⟩⟩,_⟩:=hi;obtain⟨⟨k,i,o⟩,r,v⟩:=s
 dsimp only at *
 have e0:(itB ((k,i,o),r,v)++xs)[0]?.getD 0=k:=by simp[itB]
 have e1:gv 4 (itB ((k,i,o),r,v)++xs) 1=i:=by
  have:itB ((k,i,o),r,v)++xs=[k]++(le 4 i++(le 4 o++(le 2 r++([UInt8.ofNat v.length]++(v++xs))))):=by simp[itB]
  rw[this];exact Z23 4 i [k] _ 1 rfl i0 (by simpa using i1)
 have e2:gv 4 (itB ((k,i,o),r,v)++xs) 5=o:=by
  have:itB ((k,i,o),r,v)++xs=([k]++le 4 i)++(le 4 o++(le 2 r++([UInt8.ofNat v.length]++(v++xs)))):=by simp[itB]
  rw[this];exact Z23 4 o ([k]++le 4 i) _ 5 (by simp[Z6]) o0 (by simpa using o1)
 have e3:gv 2 (itB ((k,i,o),r,v)++xs) 9=r:=by
  have:itB ((k,i,o),r,v)++xs=([k]++(le 4 i++le 4 o))++(le 2 r++([UInt8.ofNat v.length]++(v++xs))):=by simp[itB]
  rw[this];exact Z23 2 r ([k]++(le 4 i++le 4 o)) _ 9 (by simp[Z6]) (by omega) (by simp;omega)
 have e4:((itB ((k,i,o),r,v)++xs).drop 12).take (Zcv (itB ((k,i,o),r,v)++xs))=v:=by
  rw[Zob ((k,i,o),r,v) xs hl];have:itB ((k,i,o),r,v)++xs=([k]++(le 4 i++(le 4 o++(le 2 r++[UInt8.ofNat v.length]))))++(v++xs):=by simp[itB]
  rw[this,show (12:Nat)=([k]++(le 4 i++(le 4 o++(le 2 r++[UInt8.ofNat v.length])))).length by simp[Z6],Qad];exact Pu rfl
 unfold X0;rw[e0,e1,e2,e3,e4]}
theorem Z0e (s:It) (xs:List UInt8) (hi:InI s) (h:Zas s=true):okR (itB s++xs)=true/\itR (itB s++xs)=s/\itN (itB s++xs)=(itB s).length/\itE (itB s++xs)=0:=by
 obtain⟨hr,hl⟩:=Ud h;have h1:=Z3c s xs hl;have h2:=Zsa s xs hi h;have h3:okR (itB s++xs)=true:=by unfold okR Zss;rw[h1,if_pos rfl,h2,h];rfl
 refine⟨h3,by rw[itR,h3,if_pos rfl,h2],?_,by rw[itE,h3];rfl⟩;rw[itN,h3,if_pos rfl,Zob s xs hl,Zax];omega
theorem Z3u (m:Nat) (b:List UInt8) (k:Nat) (h:k+m<=b.length):le m (gv m b k)=(b.drop k).take m:=by
 rw[Zgd (k:=(k:Int)) ⟨by omega,by omega⟩,show (k:Int).toNat=k by omega];have hl:((b.drop k).take m).length=m:=by simp;omega
 have:=Zva ((b.drop k).take m)
 rwa [hl] at this
theorem Z0w (b:List UInt8) (k:Nat) (h:k<b.length):(b.drop k).take 1=[b[k]?.getD 0]:=by
 rw[Qab h,Qe h];rfl
theorem Zq2 {b:List UInt8}(h:okR b=true):∃ n:Nat,itN b=n/\n<=b.length/\Zas (itR b)=true/\itB (itR b)=b.take n:=by{
 obtain⟨h1,h2⟩:=Zis h;have h3:=Zda h1;have hR:itR b=X0 b:=by rw[itR,h,if_pos rfl]
 have hf:Zss b=X0 b:=by rw[Zss,h1,if_pos rfl]
 rw[hf] at h2;refine⟨12+Zcv b,by rw[itN,h,if_pos rfl];simp,h3,by rw[hR];exact h2,?_⟩;rw[hR];have l0:=Z0w b 0 (by omega);rw[Qp] at l0;have l1:=Z0w b 11 (by omega);have hlen:((b.drop 12).take (Zcv b)).length=Zcv b:=by simp;omega
 have hc:UInt8.ofNat (Zcv b)=b[11]?.getD 0:=by unfold Zcv;simp
 have g1:=Z3u 4 b 1 (by omega);have g2:=Z3u 4 b 5 (by omega);have g3:=Z3u 2 b 9 (by omega);have ht:b.take (12+Zcv b)=b.take 1++((b.drop 1).take 4++((b.drop 5).take 4++((b.drop 9).take 2++((b.drop 11).take 1++(b.drop 12).take (Zcv b))))):=by
  have q:∀ (j m n:Nat),(b.drop j).take m++(b.drop (j+m)).take n=(b.drop j).take (m+n):=fun j m n=>by
   rw[<- List.drop_drop,List.take_add]
  rw[q 11 1,q 9 2,q 5 4,q 1 4];have:=q 0 1 (4+(4+(2+(1+Zcv b))));rw[Qp,Qz] at this;rw[this]
  congr 1
  omega
 rw[ht,l0,l1];unfold itB X0
 dsimp only
 rw[hlen,hc];have c1:((1:Nat):Int)=1:=rfl;have c5:((5:Nat):Int)=5:=rfl;have c9:((9:Nat):Int)=9:=rfl;rw[c1] at g1;rw[c5] at g2;rw[c9] at g3;rw[g1,g2,g3]}
def Z6h (g:Nat) (a b c:Qaj):Qai->Prop:=fun w=>w.cell? ⟨g,0,none⟩=some a/\w.cell? ⟨g,1,none⟩=some b/\w.cell? ⟨g,2,none⟩=some c/\g<w.heap.size
theorem Zik (g:Nat) (a b c:Qaj):Ze9 (Z6h g a b c):=fun _ _ h hb=>⟨(hb.cell (p:=⟨g,0,none⟩) h.2.2.2).trans h.1,(hb.cell (p:=⟨g,1,none⟩) h.2.2.2).trans h.2.1,(hb.cell (p:=⟨g,2,none⟩) h.2.2.2).trans h.2.2.1,Qd h.2.2.2 hb.size⟩
theorem Z2z {w w1:Qai}{Fs:List (Qai->Prop)}(h:Bag w Fs) (hb:Qap w.heap.size w w1) (a b c:Qaj):∃ w',w1.alloc (.cells #[a,b,c] 77)=w'/\Bag w' (Z6h w1.heap.size a b c::Fs)/\Qap w.heap.size w w'/\Qap w1.heap.size w1 w'/\w1.heap.size<w'.heap.size:=by
 obtain⟨w2,e2,k1,k2,k3,k4,k5,_⟩:=Xd w1 a b c 77;exact⟨w2,e2,((h.below hb).below k5).add ⟨k1,k2,k3,by omega⟩ (Zik _ _ _ _),hb.trans (k5.mono hb.size),k5,by omega⟩
theorem Zxp {w w1:Qai}{Fs:List (Qai->Prop)}(h:Bag w Fs) (hb:Qap w.heap.size w w1) (a b c d e:Qaj):∃ w',w1.alloc (.cells #[a,b,c,d,e] 79)=w'/\Bag w' (Z6o w1.heap.size a b c d e::Fs)/\Qap w.heap.size w w'/\Qap w1.heap.size w1 w'/\w1.heap.size<w'.heap.size:=by
 obtain⟨w2,e2,k1,k2,k3,k4,k5,k6,k7,_⟩:=Zz w1 a b c d e 79;exact⟨w2,e2,((h.below hb).below k7).add ⟨k1,k2,k3,k4,k5,by omega⟩ (Zsu _ _ _ _ _ _),hb.trans (k7.mono hb.size),k7,by omega⟩
theorem Xe (a:Ky):Zr a a=false:=by simp[Zr]
theorem Ut {a b:Ky}(h:Zr a b=true):Zr b a=false:=by{
 unfold Zr at *;by_cases h1:a.1.toNat=b.1.toNat
 ·rw[if_neg (by simpa using h1)] at h
  rw[if_neg (by simpa using h1.symm)];by_cases h2:a.2.1=b.2.1
  ·rw[if_neg (by simpa using h2)] at h
   rw[if_neg (by simpa using h2.symm)];simp at h ⊢;omega
  ·rw[if_pos h2] at h
   rw[if_pos (fun e=>h2 e.symm)];simp at h ⊢;omega
 ·rw[if_pos h1] at h
  rw[if_pos (fun e=>h1 e.symm)];simp at h ⊢;omega}
theorem Za5 {a b:Ky}(h:a≠b) (h':Zr a b=false):Zr b a=true:=by{
 unfold Zr at *;by_cases h1:a.1.toNat=b.1.toNat
 ·rw[if_neg (by simpa using h1)] at h'
  rw[if_neg (by simpa using h1.symm)];by_cases h2:a.2.1=b.2.1
  ·rw[if_neg (by simpa using h2)] at h'
   rw[if_neg (by simpa using h2.symm)];have h3:a.2.2≠b.2.2:=fun e=>h (Prod.ext (UInt8.toNat.inj h1) (Prod.ext h2 e))
   simp at h' ⊢;omega
  ·rw[if_pos h2] at h'
   rw[if_pos (fun e=>h2 e.symm)];simp at h' ⊢;omega
 ·rw[if_pos h1] at h'
  rw[if_pos (fun e=>h1 e.symm)];simp at h' ⊢;omega}
theorem Zcm {a b:Ky}(h:Zr a b=true):a.1.toNat<b.1.toNat\/(a.1.toNat=b.1.toNat/\(a.2.1<b.2.1\/(a.2.1=b.2.1/\a.2.2<b.2.2))):=by{
 unfold Zr at h;by_cases h1:a.1.toNat=b.1.toNat
 ·rw[if_neg (by simpa using h1)] at h
  by_cases h2:a.2.1=b.2.1
  ·rw[if_neg (by simpa using h2)] at h
   exact Or.inr ⟨h1,Or.inr ⟨h2,by simpa using h⟩⟩
  ·rw[if_pos h2] at h
   exact Or.inr ⟨h1,Or.inl (by simpa using h)⟩
 ·rw[if_pos h1] at h
  exact Or.inl (by simpa using h)}
theorem Z1o {a b:Ky}(h:a.1.toNat<b.1.toNat\/(a.1.toNat=b.1.toNat/\(a.2.1<b.2.1\/(a.2.1=b.2.1/\a.2.2<b.2.2)))):Zr a b=true:=by{
 cases e:Zr a b with
 | true=>rfl
 | false =>
  by_cases hab:a=b
  ·subst hab;omega
  ·have:=Zcm (Za5 hab e)
   omega}
theorem Yz {a b c:Ky}(h:Zr a b=true) (h':Zr b c=true):Zr a c=true:=by
 have h1:=Zcm h;have h2:=Zcm h';exact Z1o (by omega)
end Go.Proofs.YtmafkphcfkhokaaGreat
namespace Go.Proofs.YtmafkphcfkhokaaGreat
open Go.ChangeShapes Go.WideShapes Go.RowKit
abbrev Nd:=Int×List It
def Zar:Rel (List It):=rSl 5 rIt
theorem Xv:Zde Zar:=Zv Yn
def Nod (ok:Qak->Prop) (w:Qai) (v:Qaj) (n:Nd):Prop:=∃ d,v=.agg #[.int .i64 n.1,d]/\Zcz n.1/\Zar ok w [d] n.2
section
variable {ok ok' : Qak -> Prop}{w w' : Qai}{v : Qaj}{n : Nd}{lo lo' : Nat}
theorem Nod.map (hk:∀ p v,ok p->w.cell? p=some v->ok' p/\w'.cell? p=some v) (h:Nod ok w v n):Nod ok' w' v n:=by
 obtain⟨d,e,h1,h2⟩:=h;exact⟨d,e,h1,Xv _ _ _ _ _ _ hk h2⟩
theorem Nod.below (h:Nod (Old w) w v n) (hb:Qap w.heap.size w w'):Nod (Old w') w' v n :=
 h.map fun _ _ hp hc=>⟨Qd hp hb.size,(hb.cell hp).trans hc⟩
theorem Nod.drop (h:Nod (New lo w) w v n):Nod (Old w) w v n:=h.map fun _ _ hp hc=>⟨hp.2.1,hc⟩
theorem Nod.new (h:Nod (New lo w) w v n) (hl:lo'<=lo) (hb:Qap w.heap.size w w'):Nod (New lo' w') w' v n :=
 h.map fun _ _ hp hc=>⟨⟨Qf hl hp.1,Qd hp.2.1 hb.size,(hb.frozen hp.2.1).trans hp.2.2⟩,(hb.cell hp.2.1).trans hc⟩
theorem Nod.grown {row:Option Nat}(h:Nod (New lo w) w v n) (hg:w.grownBy w' row) (hr:∀ q,row=some q->q<lo):Nod (New lo w') w' v n:=by
 obtain⟨d,e,h1,h2⟩:=h;exact⟨d,e,h1,Xv.grown h2 hg hr⟩
theorem Zq4 {d:Qaj}{xs:List It}(h:Zar ok w [d] xs):∃ A c,d=.slice A xs.length c/\xs.length<=c/\c<=9223372036854775807:=by
 obtain⟨A,c,e,h1,h2,_⟩:=h;exact⟨A,c,by simpa using e,h1,h2⟩
theorem Nod.open (h:Nod ok w v n):∃ A c,v=.agg #[.int .i64 n.1,.slice A n.2.length c]/\Zcz n.1/\n.2.length<=c/\c<=9223372036854775807/\Zar ok w [.slice A n.2.length c] n.2:=by
 obtain⟨d,rfl,h1,h2⟩:=h;obtain⟨A,c,rfl,h3,h4⟩:=Zq4 h2;exact⟨A,c,rfl,h1,h3,h4,h2⟩
end
theorem Z1p (ok:Qak->Prop) (w:Qai):Zar ok w [.slice none 0 0] []:=⟨none,0,rfl,by simp,by omega,fun i x h=>by simp at h⟩
def Xn:Nd:=(0,[])
theorem Zzy (ok:Qak->Prop) (w:Qai):Nod ok w (.agg #[.int .i64 0,.slice none 0 0]) Xn:=⟨_,rfl,⟨by decide,by decide⟩,Z1p _ _⟩
theorem Zwg (ad:Qak) (n j:Nat):ad.add (n+(j+1))=⟨(ad.add n).block,(ad.add n).off+(j+1),none⟩:=by{
 unfold Addr.add;rw[if_neg (by omega)];by_cases h:n=0
 ·subst h
  simp
 ·rw[if_neg h]
  simp[Pi]}
structure At5 (w:Qai) (p:Qak) (s:It) (d:Qaj):Prop where
 c0:w.cell? p=some (.int .u8 (s.1.1.toNat:Int))
 c1:w.cell? ⟨p.block,p.off+1,none⟩=some (.int .u32 s.1.2.1)
 c2:w.cell? ⟨p.block,p.off+2,none⟩=some (.int .u32 s.1.2.2)
 c3:w.cell? ⟨p.block,p.off+3,none⟩=some (.int .i64 s.2.1)
 c4:w.cell? ⟨p.block,p.off+4,none⟩=some d
theorem At5.lt {w:Qai}{p:Qak}{s:It}{d:Qaj}(h:At5 w p s d):p.block<w.heap.size:=Qae w p h.c0
theorem At5.below {w w':Qai}{p:Qak}{s:It}{d:Qaj}(h:At5 w p s d) (hb:Qap w.heap.size w w'):At5 w' p s d :=
 ⟨(hb.cell h.lt).trans h.c0,(hb.cell (p:=⟨p.block,p.off+1,none⟩) h.lt).trans h.c1,(hb.cell (p:=⟨p.block,p.off+2,none⟩) h.lt).trans h.c2,(hb.cell (p:=⟨p.block,p.off+3,none⟩) h.lt).trans h.c3,(hb.cell (p:=⟨p.block,p.off+4,none⟩) h.lt).trans h.c4⟩
theorem Zdu {ok:Qak->Prop}{w:Qai}{A:Option Qak}{n c k:Nat}{xs:List It}{s:It}(h:Zar ok w [.slice A n c] xs) (hk:xs[k]? = some s) :
  ∃ ad E ce,A=some ad/\(∀ j,j<5->ok (ad.add (k*5+j)))/\At5 w (ad.add (k*5)) s (.slice E s.2.2.length ce)/\Itm ok w (itV s (.slice E s.2.2.length ce)) s/\s.2.2.length<=ce/\ce<=9223372036854775807/\InI s:=by{
 obtain⟨_,_,e,_,_,h4⟩:=h;cases e;obtain⟨ad,vs,rfl,e5,q,r⟩:=h4 k s hk;obtain⟨d,rfl,hin,hd⟩:=Zj3 r;obtain⟨E,ce,rfl,l1,l2,_⟩:=id (Zo hd);have q0:=q 0 _ rfl;have t1:=q 1 _ rfl;have t2:=q 2 _ rfl;have t3:=q 3 _ rfl;have t4:=q 4 _ rfl;refine⟨ad,E,ce,rfl,fun j hj=> ?_,?_,⟨_,rfl,hin,hd⟩,l1,l2,hin⟩
 ·rcases(by omega:j=0\/j=1\/j=2\/j=3\/j=4) with rfl | rfl | rfl | rfl | rfl
  ·exact q0.1
  ·exact t1.1
  ·exact t2.1
  ·exact t3.1
  ·exact t4.1
 ·have u1:=t1.2
  have u2:=t2.2;have u3:=t3.2;have u4:=t4.2;rw[Zwg] at u1 u2 u3 u4;exact⟨q0.2,u1,u2,u3,u4⟩}
theorem Ve {w:Qai}{A:Option Qak}{n c k:Nat}{xs:List It}{s:It}(h:Zar (Old w) w [.slice A n c] xs) (hk:xs[k]? = some s) :
  ∃ ad E ce,A=some ad/\s.2.2.length<=ce/\ce<=9223372036854775807/\InI s/\∀ W,Qap w.heap.size w W->At5 W (ad.add (k*5)) s (.slice E s.2.2.length ce)/\Itm (Old W) W (itV s (.slice E s.2.2.length ce)) s:=by
 obtain⟨ad,E,ce,rfl,_,h5,hi,l1,l2,hin⟩:=Zdu h hk;exact⟨ad,E,ce,rfl,l1,l2,hin,fun W hW=>⟨h5.below hW,hi.below hW⟩⟩
def Zgk (s:It):Bool:=decide (s.2.1≠0)&&decide (s.2.2.length=0)
def okP (l:Int) (x:It):Bool:=Zas x&&(decide (l<=0)||Zgk x)
def Zhj (n:Nd) (i:Nat):Bool:=match n.2[i]? with
 | none=>true
 | some x=>okP n.1 x&&(match i with
  | 0=>true
  | j+1=>match n.2[j]? with
   | none=>true
   | some p=>Zr p.1 x.1)
def Zk5 (n:Nd):Bool:=(decide (0<=n.1)&&decide (n.1<6))&&decide (n.2.length<=5)&&(decide (n.1<=0)||decide (0<n.2.length))
def mayN (n:Nd):Bool:=Zk5 n&&(List.range n.2.length).all (Zhj n)
def Zxg (n:Nd):Int:=if mayN n then 0 else 8
theorem Zmc {n:Nd}(h:Zk5 n=true):0<=n.1/\n.1<6/\n.2.length<=5/\(0<n.1->0<n.2.length):=by
 simp only[Zk5,Qg,Qaf,decide_eq_true_eq] at h;omega
theorem Zwq {n:Nd}(h:0<=n.1/\n.1<6/\n.2.length<=5/\(0<n.1->0<n.2.length)):Zk5 n=true:=by
 simp only[Zk5,Qg,Qaf,decide_eq_true_eq];omega
theorem Zrn {n:Nd}(h:¬ (0<=n.1/\n.1<6/\n.2.length<=5/\(0<n.1->0<n.2.length))):mayN n=false:=by{
 cases e:mayN n with
 | false=>rfl
 | true =>
  simp only[mayN,Qg] at e;exact absurd (Zmc e.1) h}
theorem Z1f {n:Nd}{k:Nat}(hk:k<n.2.length) (h:Zhj n k=false):mayN n=false:=by{
 cases e:mayN n with
 | false=>rfl
 | true =>
  simp only[mayN,Qg,Qk] at e;have:=e.2 k (by simpa using hk);rw[h] at this;cases this}
theorem Z3h {n:Nd}(h:0<=n.1/\n.1<6/\n.2.length<=5/\(0<n.1->0<n.2.length)) (h2:∀ i,i<n.2.length->Zhj n i=true):mayN n=true:=by
 simp only[mayN,Qg,Qk];exact⟨Zwq h,fun x hx=>h2 x (by simpa using hx)⟩
theorem Z0 {n:Nd}(h:mayN n=true):(0<=n.1/\n.1<6/\n.2.length<=5/\(0<n.1->0<n.2.length))/\∀ i,i<n.2.length->Zhj n i=true:=by
 simp only[mayN,Qg,Qk] at h;exact⟨Zmc h.1,fun i hi=>h.2 i (by simpa using hi)⟩
theorem Zlh {n:Nd}{x:It}(hx:n.2[0]? = some x):Zhj n 0=okP n.1 x:=by unfold Zhj;rw[hx];simp
theorem Zf0 {n:Nd}{k:Nat}{x p:It}(hx:n.2[k+1]? = some x) (hp:n.2[k]? = some p):Zhj n (k+1)=(okP n.1 x&&Zr p.1 x.1):=by
 unfold Zhj;simp only[hx,hp]
theorem Z0v {n:Nd}{k:Nat}{x:It}(hx:n.2[k]? = some x) (h:Zhj n k=true):okP n.1 x=true:=by
 unfold Zhj at h;rw[hx] at h;simp only[Qg] at h;exact h.1
theorem Zj4 {n:Nd}{k:Nat}{x:It}(hx:n.2[k]? = some x) (h:okP n.1 x=false):Zhj n k=false:=by
 unfold Zhj;simp only[hx,h,Bool.false_and]
theorem Zl3 {n:Nd}(h:mayN n=true){k:Nat}{x:It}(hx:n.2[k]? = some x):okP n.1 x=true :=
 Z0v hx ((Z0 h).2 k (Qh.1 hx).1)
theorem Zn3 {l:Int}{x:It}(h:okP l x=true):Zas x=true:=by
 simp only[okP,Qg] at h;exact h.1
theorem Zhb {n:Nd}(h:mayN n=true){k:Nat}{x y:It}(hx:n.2[k]? = some x) (hy:n.2[k+1]? = some y):Zr x.1 y.1=true:=by
 have:=(Z0 h).2 (k+1) (Qh.1 hy).1;rw[Zf0 hy hx,Qg] at this;exact this.2
theorem Ur {n:Nd}(h:mayN n=true):∀ {k j:Nat}{x y:It},k<j->n.2[k]? = some x->n.2[j]? = some y->Zr x.1 y.1=true:=by{
 intro k j x y hkj
 induction j generalizing y with
 | zero=>omega
 | succ j ih =>
  intro hx hy;rcases Ql k j with h1 | h1
  ·have hjl:j<n.2.length:=by have:=(Qh.1 hy).1;omega
   exact Yz (ih h1 hx (Qe hjl)) (Zhb h (Qe hjl) hy)
  ·have:k=j:=by omega
   subst this;exact Zhb h hx hy}
theorem Zno {n:Nd}(h:mayN n=true):Zxg n=0:=by simp[Zxg,h]
theorem Zfw {n:Nd}(h:mayN n=false):Zxg n=8:=by simp[Zxg,h]
def Zbx (l:List It):List UInt8:=(l.map itB).flatten
theorem Zmw (l:List It) (x:It):Zbx (l++[x])=Zbx l++itB x:=by simp[Zbx]
theorem Zuf {l:List It}{k:Nat}{x:It}(h:l[k]? = some x):Zbx (l.take (k+1))=Zbx (l.take k)++itB x:=by
 rw[Qu,h];exact Zmw _ _
def Zrt (n:Nd):List UInt8:=[78,UInt8.ofNat n.1.toNat,UInt8.ofNat n.2.length]
def Zau (n:Nd):List UInt8:=Zrt n++Zbx n.2
def Ui (n:Nd):List UInt8:=Zbw (Zau n)
def wrN (n:Nd):List UInt8:=if mayN n then Ui n else []
theorem Zjb:∀ {l:List It},(∀ x∈l,Zas x=true)->(Zbx l).length<=24*l.length
 | [],_=>by simp[Zbx]
 | x::r,h=>by
  have h1:=Zjb (l:=r) (fun y hy=>h y (Pg.2 (Or.inr hy)));have h2:=(Ud (h x (Pg.2 (Or.inl rfl)))).2;have h3:=Zax x;have:Zbx (x::r)=itB x++Zbx r:=by simp[Zbx]
  rw[this,Qw,Qx];omega
theorem Zke {n:Nd}(h:mayN n=true):∀ x∈n.2,Zas x=true:=fun x hx=>by
 obtain⟨k,hk⟩:=List.mem_iff_getElem?.1 hx;exact Zn3 (Zl3 h hk)
theorem Zl8 {n:Nd}(h:mayN n=true):(Zau n).length<=124:=by
 have h1:=Zjb (Zke h);have h2:=(Z0 h).1.2.2.1;have h3:(Zau n).length=3+(Zbx n.2).length:=by simp[Zau,Zrt];omega
 omega
theorem Zdf {n:Nd}(h:mayN n=true):(Ui n).length=128:=Ze7 (Zl8 h)
theorem Zh4 (a:Int) (w:Qai):Qao Tryz.prog 161 #[.int .u8 a] w fun e w'=>e=.returned (.bool (a != 0))/\w=w':=by
 go_enter Tryz.func161,Tryz.ntmps161
 go_wp2_with fail
 go_ret;exact⟨rfl,rfl⟩
def Z0p (b:List UInt8):Int:=match b.findIdx? (· ≠ 0) with
 | none => -1
 | some k=>k
theorem Z2n {b:List UInt8}{k:Nat}(hk:k<b.length) (ha:∀ j,j<k->b[j]?.getD 0=0) (h:b[k]?.getD 0≠0):Z0p b=k:=by{
 have e:b.findIdx? (· ≠ 0)=some k:=by
  rw[Qag];refine⟨hk,by simpa [Qe hk] using h,fun j hj=> ?_⟩;have:=ha j hj
  simpa [Qe (show j<b.length by omega)] using this
 unfold Z0p;rw[e]}
theorem Zv0 {b:List UInt8}(ha:∀ j,j<b.length->b[j]?.getD 0=0):Z0p b = -1:=by{
 have e:b.findIdx? (· ≠ 0)=none:=by
  rw[Qah];intro x hx;obtain⟨j,hj,rfl⟩:=Pe.1 hx;have:=ha j hj
  simpa [Qe hj] using this
 unfold Z0p;rw[e]}
def Vx (b:List UInt8):Bool:=b.all (· == 0)
theorem Zow (b:List UInt8):(!decide (0<=Z0p b))=Vx b:=by{
 unfold Z0p Vx;cases e:b.findIdx? (· ≠ 0) with
 | none =>
  rw[Qah] at e;have:(b.all fun x=>x==0)=true:=by
   rw[Qk];intro x hx
   simpa using e x hx
  rw[this];simp
 | some k =>
  rw[Qag] at e;obtain⟨hk,h1,_⟩:=e;have:(b.all fun x=>x==0)=false:=by
   rw[List.all_eq_false];exact⟨b[k],List.getElem_mem hk,by simpa using h1⟩
  rw[this];simp}
theorem Zu0 (A:Option Qak) (n c:Nat) (b:List UInt8) (hn:Hid (b.length=n)) (l1:n<=c) (m1:c<=9223372036854775807) (w:Qai) (h:Byt w w.heap.size A b) :
  Qao Tryz.prog 220 #[.slice A n c,.func (.func 161) #[] #[]] w fun e w'=>e=.returned (.int .i64 (Z0p b))/\w=w':=by{
 have HY:=Za h;clear h
 go_enter Tryz.func220,Tryz.ntmps220
 go_wp2_with fail
 go_loop [8] (fun i=>∃ k:Nat,k<=n/\i=.int .i64 k/\∀ j,j<k->b[j]?.getD 0=0) (fun i=>n-(intOf i).toNat)
 case atStart=>exact⟨0,by omega,rfl,fun j hj=>by omega⟩
 case round =>
  obtain⟨k,hk,rfl,ha⟩:=hrel;replace ha:=Za ha;by_cases hlt:k<n
  ·obtain⟨ad,rfl,_,hc⟩:=HY.out (by rw[hn.out];omega)
   replace hc:=hc k (by rw[hn.out];exact hlt);have hyes:=Za (fun h=>Z2n (b:=b) (k:=k) (by rw[hn.out];exact hlt) ha.out h);have hno:Hid (b[k]?.getD 0=0->∀ j,j<k+1->b[j]?.getD 0=0):=Za fun h j hj=>by
    rcases Ql j k with h1 | h1
    ·exact ha.out j h1
    ·obtain rfl:j=k:=by omega
     exact h
   obtain⟨x,hx⟩:∃ x,b[k]?.getD 0=x:=⟨_,rfl⟩
   rw[hx] at hc hyes hno;replace hx:=Za hx;by_cases h0:(x.toNat:Int)=0
   ·have t0:((x.toNat:Int) != 0)=false:=by simpa using h0
    have hall:=Za (hno.out (UInt8.toNat.inj (by simpa using h0)));replace h0:=Za h0
    go_wp2_with fail
    with_reducible refine(Zh4 _ _).mono ?_
    rintro e3 w3 ⟨rfl,rfl⟩;rw[t0]
    go_wp2_with fail
    go_round
    case rel=>exact⟨k+1,by omega,by go_num,hall.out⟩
    case measure=>simp[intOf];omega
   ·have t0:((x.toNat:Int) != 0)=true:=by simpa using h0
    have hr:=Za (hyes.out (fun e=>h0 (by rw[e];rfl)));replace h0:=Za h0
    go_wp2_with fail
    with_reducible refine(Zh4 _ _).mono ?_
    rintro e3 w3 ⟨rfl,rfl⟩;rw[t0]
    go_wp2_with fail
    go_ret;exact⟨Zw hr.out.symm,rfl⟩
  ·have hr:=Za (Zv0 (b:=b) fun j hj=>ha.out j (by have:=hn.out;omega))
   go_wp2_with fail
   go_ret;exact⟨Zw hr.out.symm,rfl⟩}
theorem Zny (A:Option Qak) (n c:Nat) (b:List UInt8) (hn:Hid (b.length=n)) (l1:n<=c) (m1:c<=9223372036854775807) (w:Qai) (h:Byt w w.heap.size A b) :
  Qao Tryz.prog 102 #[.slice A n c] w fun e w'=>e=.returned (.bool (Vx b))/\w=w':=by{
 have HY:=Za h;have hi:=Za (Zow b);have hx:Hid (∀ W,Byt W W.heap.size A b->Qao Tryz.prog 160 #[.slice A n c,.func (.func 161) #[] #[]] W fun e w'=>e=.returned (.bool (decide (0<=Z0p b)))/\W=w'):=Za fun W hW=>by
  have HW:=Za hW;clear hW
  go_enter Tryz.func160,Tryz.ntmps160
  go_wp2_with fail
  with_reducible refine(Zu0 A n c b hn l1 m1 _ HW.out).mono ?_
  rintro e3 w3 ⟨rfl,rfl⟩
  go_wp2_with fail
  go_ret;exact⟨rfl,rfl⟩
 clear h
 go_enter Tryz.func102,Tryz.ntmps102
 go_wp2_with fail
 with_reducible refine(hx.out _ HY.out).mono ?_
 rintro e3 w3 ⟨rfl,rfl⟩
 go_wp2_with fail
 go_ret;exact⟨Yc hi.out,rfl⟩}
theorem Us:(Tryz.prog.info? 79).map (fun i=>(i.zero,i.size,i.bytes))=some (some (.agg #[.int .u8 0,.int .u32 0,.int .u32 0,.int .i64 0,.slice none 0 0]),5,48):=by kernel_rfl
theorem Zqb {w:Qai}{lo:Nat}{A:Option Qak}{c:Nat}{xs:List It}(h:Yp rIt 5 79 lo w A c xs) (g:Nat) (s:It) (d:Qaj) (m n:Nat) (hn:xs.length=n) (hg:w.heap[g]? = some (.cells #[.int .u8 (s.1.1.toNat:Int),.int .u32 s.1.2.1,.int .u32 s.1.2.2,.int .i64 s.2.1,d] 79 (0,0))) (hs:n<100000) (hbase:lo<=w.heap.size) (hin:InI s) (hx:rBy (X6 lo A w) w [d] s.2.2) :
  ∃ A' c' w',(Qm #[57,57] 57 #[.slice A n c,.slice (some ⟨g,0,none⟩) 1 m]).run Tryz.prog w=.ok (.slice A' (n+1) c') w'/\Yp rIt 5 79 lo w' A' c' (xs++[s])/\w.grownBy w' (A.map (·.block))/\Qap lo w w':=by{
 subst hn;obtain⟨i0,hi,hz0,hz1,hz2⟩:=info_parts Us;obtain⟨E,ce,rfl,_⟩:=id (Zo hx)
 exact Yp.push Yn h 57 57 i0 (.agg #[.int .u8 0,.int .u32 0,.int .u32 0,.int .i64 0,.slice none 0 0]) 48 Tryz.underlying57 hi hz0 hz1 hz2 rfl (by decide) ⟨g,0,none⟩ m _ s rfl (Pv (cs:=#[.int .u8 (s.1.1.toNat:Int),.int .u32 s.1.2.1,.int .u32 s.1.2.2,.int .i64 s.2.1,.slice E s.2.2.length ce]) hg) (fun u hu=>by
  simp at hu
  rcases hu with rfl | rfl | rfl | rfl | rfl <;> rfl) (by unfold maxLen;omega) (by omega) hbase (Zu3 hin hx)}
def Ub (b:List UInt8):Nat->Option (List It×List UInt8)
 | 0=>some ([],b)
 | k+1=>match Ub b k with
  | none=>none
  | some (l,r)=>if okR r then some (l++[itR r],r.drop (itN r).toNat) else none
theorem Zf6 {b:List UInt8}{k:Nat}{l:List It}{r:List UInt8}(h:Ub b k=some (l,r)) (h':okR r=true):Ub b (k+1)=some (l++[itR r],r.drop (itN r).toNat):=by
 simp only[Ub,h,h',if_true]
theorem Zqi {b:List UInt8}{k:Nat}{l:List It}{r:List UInt8}(h:Ub b k=some (l,r)) (h':okR r=false):Ub b (k+1)=none:=by
 simp only[Ub,h,h'];rfl
theorem Zr9 {b:List UInt8}{k j:Nat}(h:Ub b k=none) (hj:k<=j):Ub b j=none:=by{
 induction j with
 | zero =>
  have:k=0:=by omega
  rw[this] at h;exact h
 | succ j ih =>
  rcases Ql k (j+1) with h1 | h1
  ·simp only[Ub,ih (by omega)]
  ·have:k=j+1:=by omega
   rw[this] at h;exact h}
theorem Zgt {b:List UInt8}:∀ {k:Nat}{l:List It}{r:List UInt8},Ub b k=some (l,r)->b=Zbx l++r/\l.length=k/\(∀ x∈l,Zas x=true/\InI x)
 | 0,l,r,h=>by
  simp only[Ub,Option.some.injEq,Prod.mk.injEq] at h;obtain⟨rfl,rfl⟩:=h;exact⟨by simp[Zbx],rfl,fun x hx=>by simp at hx⟩
 | k+1,l,r,h=>by
  cases e:Ub b k with
  | none=>simp[Ub,e] at h
  | some p =>
   obtain⟨l',r'⟩:=p;obtain⟨h1,h2,h3⟩:=Zgt e;rcases Zdv (okR r') with ho | ho
   ·rw[Zqi e ho] at h
    cases h
   ·rw[Zf6 e ho] at h
    simp only[Option.some.injEq,Prod.mk.injEq] at h;obtain⟨rfl,rfl⟩:=h;obtain⟨n,e1,e2,e3,e4⟩:=Zq2 ho;have hn:(itN r').toNat=n:=by rw[e1];omega
    refine⟨?_,by simp[h2],fun x hx=> ?_⟩
    ·rw[Zmw,e4,hn,Pj,Q3]
     exact h1
    ·rcases Px.1 hx with hx | hx
     ·exact h3 x hx
     ·simp at hx
      subst hx;exact⟨e3,by rw[itR,ho,if_pos rfl];exact Zi0 _⟩
def Zu1 (b:List UInt8) (k:Nat):List It:=((Ub b k).map (·.1)).getD []
def Ztv (b:List UInt8) (k:Nat):List UInt8:=((Ub b k).map (·.2)).getD []
def Z00 (b:List UInt8) (k:Nat):Int:=if (Ub b k).isSome then 0 else 8
theorem Zo4 {ok:Qak->Prop}{w:Qai}{ad:Qak}{n c:Nat}{b:List UInt8}(h:rBy ok w [.slice (some ad) n c] b) (k:Nat) (hk:k<=b.length):rBy ok w [.slice (some (ad.add k)) (n-k) (c-k)] (b.drop k):=by
 obtain⟨A,c',e,l1,l2,_⟩:=id h;cases e;have:=Zqm h k (b.length-k) (c-k) (by omega) (by omega) (by omega)
 rwa [Qj (by simp)] at this
theorem Zn0 (v:Qaj) (b:List UInt8) (many:Nat) (hm:many<256) (w:Qai) (h:rBy (Old w) w [v] b) :
  Qao Tryz.prog 100 #[v,.int .i64 many] w fun e w'=>∃ A c u,e=.returned (.tuple #[.slice A (Zu1 b many).length c,u,.int .i64 (Z00 b many)])/\Yp rIt 5 79 w.heap.size w' A c (Zu1 b many)/\rBy (Old w') w' [u] (Ztv b many)/\Qap w.heap.size w w':=by{
 have HV:=Za h;clear h
 go_enter Tryz.func100,Tryz.ntmps100
 go_wp2_with fail
 go_loopw [0,7,12] (fun q it i wr=>∃ (k:Nat) (l:List It) (r:List UInt8) (A:Option Qak) (c:Nat),k<=many/\i=.int .i64 k/\it=.slice A k c/\l.length=k/\Ub b k=some (l,r)/\rBy (Old w) w [q] r/\Yp rIt 5 79 w.heap.size wr A c l/\Qap w.heap.size w wr) (fun _ _ i _=>many-(intOf i).toNat)
 case atStart=>exact⟨0,[],b,none,0,by omega,rfl,rfl,rfl,rfl,HV.out,Yp.nil _ _ _ _ _,Qb _ _⟩
 case round =>
  obtain⟨k,l,r,A,c,hk,rfl,rfl,hl,hcut,hq,hrow,hb⟩:=hrel;replace hrow:=Za hrow;replace hcut:=Za hcut;replace hl:=Za hl;replace hb:=Za hb;obtain⟨Q,cq,rfl,n1,n2,_⟩:=id (Zo hq);obtain⟨nq,hnq⟩:∃ n,r.length=n:=⟨_,rfl⟩
  rw[hnq] at n1 hq ⊢;replace hnq:=Za hnq;replace hq:=Za hq;have hqr:=Za (Zf.old hq.out hb.out);by_cases hlt:k<many
  case neg =>
   have hkm:k=many:=by omega
   have hL:=Za (show Zu1 b many=l by rw[<- hkm];simp[Zu1,hcut.out]);have hR:=Za (show Ztv b many=r by rw[<- hkm];simp[Ztv,hcut.out]);have hF:=Za (show Z00 b many=0 by rw[<- hkm];simp[Z00,hcut.out]);replace hkm:=Za hkm
   go_wp2_with fail
   exact Qam (v:=.tuple #[.slice A k c,.slice Q nq cq,.int .i64 0]) (by simp[results,Tryz.results100,go_sem]) rfl ⟨A,c,_,by rw[hL.out,hF.out,hl.out],by rw[hL.out];exact hrow.out,by rw[hR.out];exact hqr.out,hb.out⟩
  go_wp2_with fail
  with_reducible refine(Zry _ r _ hqr.out).mono ?_
  rintro e3 w3 ⟨u3,rfl,hu3,hb3⟩;obtain⟨D,dc,rfl,hin,_,_,hby⟩:=id hu3.open;obtain⟨w4,hw4,s0,s1,s2,s3,s4,hs4,hb4,b4⟩:=Zz w3 (.int .u8 ((itR r).1.1.toNat:Int)) (.int .u32 (itR r).1.2.1) (.int .u32 (itR r).1.2.2) (.int .i64 (itR r).2.1) (.slice D (itR r).2.2.length dc) 79;have C4:=Za (hb3.trans (hb4.mono hb3.size));have B4:=Za (hb.out.trans (C4.out.mono hb.out.size));have hI4:=Za (hu3.new (Qc _) hb4);obtain⟨x,hx⟩:∃ x,itR r=x:=⟨_,rfl⟩
  rw[hx] at hin s0 s1 s2 s3 s4 b4 hI4 hw4 ⊢;replace hs4:=Za hs4;replace hx:=Za hx;clear hb3 hb4 hu3 hby
  unfold itV at *
  go_upto_region 5 with fail
  clear hw4;rcases Zdv (okR r) with hok | hok
  ·have hE:=Za (show itE r=8 by simp[itE,hok])
   have hno:=Za (Zr9 (Zqi hcut.out hok) (show k+1<=many by omega));have hL:=Za (show Zu1 b many=[] by simp[Zu1,hno.out]);have hR:=Za (show Ztv b many=[] by simp[Ztv,hno.out]);have hF:=Za (show Z00 b many=8 by simp[Z00,hno.out]);rw[hE.out];replace hok:=Za hok
   go_wp2_with fail
   exact Qam (v:=.tuple #[.slice none 0 0,.slice none 0 0,.int .i64 8]) (by simp[results,Tryz.results100,go_sem]) rfl ⟨none,0,_,by rw[hL.out,hF.out];rfl,by rw[hL.out];exact Yp.nil _ _ _ _ _,by rw[hR.out];exact Zat _ _ none,B4.out⟩
  have hE:=Za (show itE r=0 by simp[itE,hok]);obtain⟨m,hm1,hm2,hm3,hm4⟩:=Zq2 hok;have hyes:=Zf6 hcut.out hok;rw[hm1,show ((m:Int)).toNat=m by omega,hx.out] at hyes;have hrl:12<=nq:=by have:=Zda (Zis hok).1;have:=hnq.out;omega
  rw[hnq.out] at hm2;rw[hE.out,hm1];replace hyes:=Za hyes;replace hok:=Za hok;clear hm1 hm3 hm4;obtain⟨w5,hw5,_,_,_,_,_,hs5,hb5,b5⟩:=Zz w4 (.int .u8 (x.1.1.toNat:Int)) (.int .u32 x.1.2.1) (.int .u32 x.1.2.2) (.int .i64 x.2.1) (.slice D x.2.2.length dc) 79;have C5:=C4.out.trans (hb5.mono C4.out.size);have hI5:=hI4.out.new (Qc _) hb5;have hx5:rBy (X6 w.heap.size A w5) w5 [.slice D x.2.2.length dc] x.2.2:=by
   obtain⟨d,e,_,hd⟩:=hI5;have ed:d=.slice D x.2.2.length dc:=by injection e with e;simpa using e.symm
   subst ed;exact Zf _ _ _ _ _ _ (fun p v hp hc=>⟨hrow.out.but (Qc _) hb.out.size hp,hc⟩) hd
  have row5:=Yp.below Yn hrow.out C5;have hb5':=hb.out.trans (C5.mono hb.out.size);have hk5:l.length<100000:=by have:=hl.out;omega
  obtain⟨A6,c6,w6,hr6,row6,_,hb6⟩:=Zqb row5 w4.heap.size x _ 1 k hl.out b5 (by omega) hb5'.size hin hx5;have B6:=Za (hb5'.trans hb6);have H6:=Za hr6;replace row6:=Za row6;have hll:=Za (show (l++[x]).length=k+1 by simp[hl.out]);obtain⟨qa,rfl⟩:∃ qa,Q=some qa:=by
   obtain⟨_,_,e,_,_,h4⟩:=Zo hq.out;cases e;obtain⟨qa,e,_⟩:=h4 0 (by have:=hnq.out;omega);exact⟨qa,e⟩
  have hrest:=Za (Zo4 hq.out m (by rw[hnq.out];exact hm2));have hnil:Hid (m=nq->∀ W,rBy (Old W) W [.slice (some qa) 0 0] (r.drop m)):=Za fun e W=>by
   rw[List.drop_of_length_le (by rw[hnq.out];omega)];exact Zat _ _ _
  replace hs5:=Za hs5;replace b5:=Za b5;replace hI5:=Za hI5;clear hr6 hb6 hx5 row5 C5 hb5 hb5' hin;by_cases hmc:m=cq
  ·have c1:(0:Int)<=(m:Int):=by omega
   have c2:(m:Int)<=cq:=by omega
   have c3:(m:Int)<=nq:=by omega
   go_wp2_with (at_builtin;refine Zu rfl _ _ _ rfl rfl rfl H6.out ?_;clear H6)
   go_roundw
   case rel=>exact⟨k+1,l++[x],r.drop m,A6,c6,by omega,by go_num,rfl,hll.out,hyes.out,hnil.out (by omega) w,row6.out,B6.out⟩
   case measure=>simp[intOf];omega
  ·have c1:(0:Int)<=(m:Int):=by omega
   have c2:(m:Int)<=cq:=by omega
   have c3:(m:Int)<=nq:=by omega
   go_wp2_with (at_builtin;refine Zu rfl _ _ _ rfl rfl rfl H6.out ?_;clear H6)
   go_roundw
   case rel=>exact⟨k+1,l++[x],r.drop m,A6,c6,by omega,by go_num,rfl,hll.out,hyes.out,hrest.out,row6.out,B6.out⟩
   case measure=>simp[intOf];omega}
theorem Zr5 (v:Qaj) (s:It) (w:Qai) (h:Itm (Old w) w v s):Qao Tryz.prog 159 #[v] w fun e w'=>e=.returned (.bool (Zgk s))/\Qap w.heap.size w w':=by{
 obtain⟨A,c,rfl,_,l1,m1,_⟩:=h.open;have hw:Zgk s=(decide (s.2.1≠0)&&decide (s.2.2.length=0)):=rfl;obtain⟨n,hn⟩:∃ n,s.2.2.length=n:=⟨_,rfl⟩
 unfold itV;rw[hn] at l1 hw ⊢;obtain⟨w0,hw0,f1,f2,f3,f4,f5,hs0,hB0,_⟩:=Zz w (.int .u8 (s.1.1.toNat:Int)) (.int .u32 s.1.2.1) (.int .u32 s.1.2.2) (.int .i64 s.2.1) (.slice A n c) 79;clear f1 f2 f3 hs0 hn h;replace hB0:=Za hB0;obtain⟨r,hr⟩:∃ r,s.2.1=r:=⟨_,rfl⟩
 rw[hr] at hw f4 hw0 ⊢;clear hr;generalize Zgk s=res at hw ⊢;replace hw:=Za hw;by_cases h0:r=0
 ·have t0:(r != 0)=false:=by simpa using h0
  have hr:=Za (show res=false by rw[hw.out];simp[h0]);replace h0:=Za h0
  go_enter Tryz.func159,Tryz.ntmps159
  go_upto_region 1 with fail
  clear hw0
  go_wp2_with fail
  go_ret;exact⟨Yc hr.out.symm,hB0.out⟩
 ·have t0:(r != 0)=true:=by simpa using h0
  by_cases h1:n=0
  ·have t1:((n:Int)==0)=true:=by simp;omega
   have hr:=Za (show res=true by rw[hw.out];simp[h0,h1]);replace h0:=Za h0;replace h1:=Za h1
   go_enter Tryz.func159,Tryz.ntmps159
   go_upto_region 1 with fail
   clear hw0
   go_wp2_with fail
   go_ret;exact⟨Yc hr.out.symm,hB0.out⟩
  ·have t1:((n:Int)==0)=false:=by simp;omega
   have hr:=Za (show res=false by rw[hw.out];simp[h1]);replace h0:=Za h0;replace h1:=Za h1
   go_enter Tryz.func159,Tryz.ntmps159
   go_upto_region 1 with fail
   clear hw0
   go_wp2_with fail
   go_ret;exact⟨Yc hr.out.symm,hB0.out⟩}
theorem Zbc (b:Bool):b=false\/b=true:=by cases b <;> simp
theorem Zep (v:Qaj) (n:Nd) (w:Qai) (h:Nod (Old w) w v n):Qao Tryz.prog 101 #[v] w fun e w'=>e=.returned (.int .i64 (Zxg n))/\Qap w.heap.size w w':=by{
 obtain⟨A,c,rfl,hin,l1,m1,hA⟩:=h.open;have hbad0:=Za (fun hh=>Zfw (Zrn (n:=n) hh));have hbad1:Hid (∀ k,k<n.2.length->Zhj n k=false->Zxg n=8):=Za fun k hk hh=>Zfw (Z1f hk hh)
 have hgood:=Za (fun hh h2=>Zno (Z3h (n:=n) hh h2));have HA:=Za hA;clear h hA;obtain⟨m,hm⟩:∃ m,n.2.length=m:=⟨_,rfl⟩
 obtain⟨l,hl⟩:∃ l,n.1=l:=⟨_,rfl⟩
 rw[hm] at l1 hbad0 hbad1 hgood HA ⊢;rw[hl] at hbad0 hgood hin ⊢;obtain⟨i1,i2⟩:=hin;replace hm:=Za hm;replace hl:=Za hl;obtain⟨w0,hw0,b0,hs0,hB0⟩:=Yd w (.int .i64 l) (.slice A m c) 59;obtain⟨f1,f2,_,lt0⟩:=Zi b0;replace hB0:=Za hB0;replace b0:=Za b0;replace hs0:=Za hs0;by_cases h1:l<0
 ·have hr:=Za (hbad0.out (by omega))
  rw[hr.out]
  go_enter Tryz.func101,Tryz.ntmps101
  go_upto_region 1 with fail
  clear hw0
  go_wp2_with fail
  go_ret;exact⟨rfl,hB0.out⟩
 by_cases h2:6<=l
 ·have hr:=Za (hbad0.out (by omega))
  rw[hr.out]
  go_enter Tryz.func101,Tryz.ntmps101
  go_upto_region 1 with fail
  clear hw0
  go_wp2_with fail
  go_ret;exact⟨rfl,hB0.out⟩
 by_cases h3:5<m
 ·have hr:=Za (hbad0.out (by omega))
  have h3':(5:Int)<m:=by omega
  rw[hr.out]
  go_enter Tryz.func101,Tryz.ntmps101
  go_upto_region 1 with fail
  clear hw0
  go_wp2_with fail
  go_ret;exact⟨rfl,hB0.out⟩
 have h3':¬ (5:Int)<m:=by omega
 by_cases h4:0<l/\m=0
 ·have hr:=Za (hbad0.out (by omega))
  obtain⟨h4a,h4b⟩:=h4;have h4c:((m:Int)==0)=true:=by simp;omega
  replace h4b:=Za h4b;rw[hr.out]
  go_enter Tryz.func101,Tryz.ntmps101
  go_upto_region 1 with fail
  clear hw0
  go_wp2_with fail
  go_ret;exact⟨rfl,hB0.out⟩
 have hgood2:=Za (hgood.out (by omega));have hB:=Za (fun wr (hb:Qap w0.heap.size w0 wr)=>hB0.out.trans (hb.mono hB0.out.size));clear hgood hbad0;rcases(by omega:l<=0\/(0<l/\m≠0)) with h5 | ⟨h5,h6⟩
 rotate_left
 ·have h6':((m:Int)==0)=false:=by simp;omega
  replace h6:=Za h6;replace h4:=Za h4
  go_enter Tryz.func101,Tryz.ntmps101
  go_upto_region 1 with fail
  clear hw0
  go_wp2_with fail
  go_loopw [31] (fun i wr=>∃ k:Nat,k<=m/\i=.int .i64 k/\(∀ j,j<k->Zhj n j=true)/\Qap w0.heap.size w0 wr) (fun i _=>m-(intOf i).toNat)
  case atStart=>exact⟨0,by omega,rfl,fun j hj=>by omega,Qb _ _⟩
  case round =>
   obtain⟨k,hk,rfl,ha,hb⟩:=hrel;replace ha:=Za ha;replace hb:=Za hb;have p1:=(hb.out.cell (p:=⟨w.heap.size,0,none⟩) lt0).trans f1;have p2:=(hb.out.cell (p:=⟨w.heap.size,1,none⟩) lt0).trans f2;by_cases hlt:k<m
   case neg =>
    have hfin:=Za (hgood2.out fun i hi=>ha.out i (by omega));have BF:=Za (hB.out _ hb.out)
    go_wp2_with fail
    go_ret;exact⟨Zw hfin.out.symm,BF.out⟩
   obtain⟨x,hx⟩:∃ x,n.2[k]? = some x:=⟨_,Qe (by rw[hm.out];exact hlt)⟩
   obtain⟨ad,E,ce,rfl,q1,q2,hinx,FX⟩:=Ve HA.out hx;have FX':=Za (fun W (hW:Qap wr.heap.size wr W)=>FX W ((hB.out _ hb.out).trans (hW.mono (hB.out _ hb.out).size)));obtain⟨⟨z0,z1,z2,z3,z4⟩,hIx⟩:=FX'.out wr (Qb _ _);obtain⟨w2,hw2,g0,g1,g2,g3,g4,hs2,hB2,_⟩:=Zz wr (.int .u8 (x.1.1.toNat:Int)) (.int .u32 x.1.2.1) (.int .u32 x.1.2.2) (.int .i64 x.2.1) (.slice E x.2.2.length ce) 79;have HI:=Za (hIx.below hB2);have lt2:wr.heap.size<w2.heap.size:=by omega
   have B2:=Za (hb.out.trans (hB2.mono hb.out.size));have C2:=Za hB2;replace hx:=Za hx;replace hs2:=Za hs2;have hbk:=Za (hbad1.out k hlt);clear FX hIx hB2 hinx;unfold itV at *
   go_upto_region 8 with fail
   clear hw2
   go_wp2_with fail
   with_reducible refine(Ul _ x _ HI.out).mono ?_
   rintro e3 w3 ⟨rfl,hb3⟩;have B3:=Za (B2.out.trans (hb3.mono B2.out.size));have C3:=Za (C2.out.trans (hb3.mono C2.out.size));have r0:=(hb3.cell (p:=⟨wr.heap.size,0,none⟩) lt2).trans g0;have r1:=(hb3.cell (p:=⟨wr.heap.size,1,none⟩) lt2).trans g1;have r2:=(hb3.cell (p:=⟨wr.heap.size,2,none⟩) lt2).trans g2;have r3:=(hb3.cell (p:=⟨wr.heap.size,3,none⟩) lt2).trans g3;have r4:=(hb3.cell (p:=⟨wr.heap.size,4,none⟩) lt2).trans g4;have p3:=(hb3.cell (p:=⟨w.heap.size,0,none⟩) (Qd lt0 B2.out.size)).trans ((C2.out.cell (p:=⟨w.heap.size,0,none⟩) (Qd lt0 hb.out.size)).trans p1);have p4:=(hb3.cell (p:=⟨w.heap.size,1,none⟩) (Qd lt0 B2.out.size)).trans ((C2.out.cell (p:=⟨w.heap.size,1,none⟩) (Qd lt0 hb.out.size)).trans p2);replace HI:=Za (HI.out.below hb3);have lt3:wr.heap.size<w3.heap.size:=Qd lt2 hb3.size;clear hb3 g0 g1 g2 g3 g4 z0 z1 z2 z3 z4 p1 p2;rcases Zbc (Zas x) with hmx | hmx
   ·have hr:=Za (hbk.out (Zj4 hx.out (by rw[okP,hmx];rfl)))
    have hc:=Za (Uj hmx);have BF:=Za (hB.out _ B3.out);replace hmx:=Za hmx;rw[hc.out]
    go_wp2_with fail
    go_ret;exact⟨Zw hr.out.symm,BF.out⟩
   have hc:=Za (Zb3 hmx);replace hmx:=Za hmx;rw[hc.out]
   go_wp2_with fail
   with_reducible refine(Zr5 _ x _ HI.out).mono ?_
   rintro e4 w4 ⟨rfl,hb4⟩;have B4:=Za (B3.out.trans (hb4.mono B3.out.size));have C4:=Za (C3.out.trans (hb4.mono C3.out.size));have t0:=(hb4.cell (p:=⟨wr.heap.size,0,none⟩) lt3).trans r0;have t1:=(hb4.cell (p:=⟨wr.heap.size,1,none⟩) lt3).trans r1;have t2:=(hb4.cell (p:=⟨wr.heap.size,2,none⟩) lt3).trans r2;have p5:=(hb4.cell (p:=⟨w.heap.size,1,none⟩) (Qd lt0 B3.out.size)).trans p4;have lt4:wr.heap.size<w4.heap.size:=Qd lt3 hb4.size;have lt0':w.heap.size<w4.heap.size:=Qd lt0 B4.out.size;clear hb4 r0 r1 r2 r3 r4 p3 p4;rcases Zbc (Zgk x) with hrx | hrx
   ·have hr:=Za (hbk.out (Zj4 hx.out (by rw[okP,hmx.out,hrx,hl.out];simp;omega)))
    have BF:=Za (hB.out _ B4.out);rw[hrx];replace hrx:=Za hrx
    go_wp2_with fail
    go_ret;exact⟨Zw hr.out.symm,BF.out⟩
   have hP:=Za (show okP n.1 x=true by rw[okP,hmx.out,hrx];simp);rw[hrx];replace hrx:=Za hrx;rcases(by rcases k with _ | j;exact Or.inl rfl;exact Or.inr ⟨j,rfl⟩:k=0\/∃ j,k=j+1) with hk0 | ⟨j,hkj⟩
   ·have hall:=Za (show ∀ j,j<k+1->Zhj n j=true from fun j hj=>by
     obtain rfl:j=0:=by omega
     subst hk0
     rw[Zlh hx.out,hP.out])
    subst hk0
    go_wp2_with fail
    go_quiet (fail)
    go_wp2_with fail
    go_roundw
    case rel=>exact⟨0+1,by omega,by go_num,hall.out,Vo B4.out _⟩
    case measure=>simp[intOf];omega
   ·obtain⟨y,hy⟩:∃ y,n.2[j]? = some y:=⟨_,Qe (by rw[hm.out];omega)⟩
    obtain⟨ad',E',ce',e',_,_,_,FY⟩:=Ve HA.out hy;have e'':=Option.some.inj e';subst e'';clear e';have BW4:=Za (hB.out _ B4.out);have FYY:=Za fun W (hW:Qap _ _ W)=>(FY W (BW4.out.trans (hW.mono BW4.out.size))).1
    have hsucc:=Za (show Zhj n k=Zr y.1 x.1 by subst hkj;rw[Zf0 hx.out hy,hP.out];simp);have hj1:(k:Int)-1=(j:Int):=by omega
    replace hy:=Za hy;obtain⟨s,hs⟩:∃ s,Zr y.1 x.1=s:=⟨_,rfl⟩
    rw[hs] at hsucc;replace hs:=Za hs;have hwj:IntKind.i64.wrap (j:Int)=(j:Int):=Q7 _ (by omega);have hj0:(0:Int)<=(j:Int):=by omega
    have kpos:(0:Int)<(k:Int):=by omega
    have hjm:(j:Int)<(m:Int):=by omega
    clear FY
    go_wp2_with fail
    refine wp_region_fx (by kernel_rfl) (fun W=>Qap _ _ W) (fun _=>none) (fun i=>match i with
     | 12=>some (.bool s)
     | _=>none) (by kernel_rfl) (Qb _ _).drew (fun w w' h hb=>h.trans (hb.mono h.size)) (fun j φ x W W' hp=>by cases hp) ?_
    repeat (first
     | (refine wpAs_skip rfl ?_;simp only[Qa,Zb,Zc,Zd])
     | (refine wpAs_pure (v := ?_) rfl rfl ?_ ?_;rotate_left;(intro W hC hE;clear hE;(obtain⟨y0,y1,y2,y3,y4⟩:=FYY.out W hC;have x0:=(hC.cell (p:=⟨wr.heap.size,0,none⟩) lt4).trans t0;have x1:=(hC.cell (p:=⟨wr.heap.size,1,none⟩) lt4).trans t1;have x2:=(hC.cell (p:=⟨wr.heap.size,2,none⟩) lt4).trans t2;have p6:=(hC.cell (p:=⟨w.heap.size,1,none⟩) lt0').trans p5);clear hC;go_simp;first | done | with_reducible rfl);simp only[Qa,Zb,Zc,Zd]))
    refine wpAs_fixed rfl rfl rfl ?_ ?_
    ·intro W hC hE
     refine does_enter (f:=104) (args:=#[kyV y.1,kyV x.1]) ?_ ?_
     ·go_simp
     ·refine(Zfp y.1 x.1 W).mono ?_
      rintro e W' ⟨rfl,hg⟩;rw[hs.out];exact⟨_,rfl,rfl,hg⟩
    simp only[Qa,Zb,Zc,Zd]
    repeat (first
     | (refine wpAs_skip rfl ?_;simp only[Qa,Zb,Zc,Zd])
     | (refine wpAs_pure (v := ?_) rfl rfl ?_ ?_;rotate_left;(intro W hC hE;clear hE;skip;clear hC;go_simp;first | done | with_reducible rfl);simp only[Qa,Zb,Zc,Zd]))
    refine wpAs_end fun W hC hE=> ?_
    have BW:=Za (B4.out.trans (hC.mono B4.out.size));clear hE hC;cases s with
    | true =>
     have hall:=Za (show ∀ j,j<k+1->Zhj n j=true from fun j hj=>by
      rcases Ql j k with h | h
      ·exact ha.out j h
      ·obtain rfl:j=k:=by omega
       exact hsucc.out)
     go_wp2_with fail
     go_roundw
     case rel=>exact⟨k+1,by omega,by go_num,hall.out,BW.out⟩
     case measure=>simp[intOf];omega
    | false =>
     have hr:=Za (hbk.out hsucc.out);have BF:=Za (hB.out _ BW.out)
     go_wp2_with fail
     go_ret;exact⟨Zw hr.out.symm,BF.out⟩
 ·replace h4:=Za h4
  go_enter Tryz.func101,Tryz.ntmps101
  go_upto_region 1 with fail
  clear hw0
  go_wp2_with fail
  go_loopw [31] (fun i wr=>∃ k:Nat,k<=m/\i=.int .i64 k/\(∀ j,j<k->Zhj n j=true)/\Qap w0.heap.size w0 wr) (fun i _=>m-(intOf i).toNat)
  case atStart=>exact⟨0,by omega,rfl,fun j hj=>by omega,Qb _ _⟩
  case round =>
   obtain⟨k,hk,rfl,ha,hb⟩:=hrel;replace ha:=Za ha;replace hb:=Za hb;have p1:=(hb.out.cell (p:=⟨w.heap.size,0,none⟩) lt0).trans f1;have p2:=(hb.out.cell (p:=⟨w.heap.size,1,none⟩) lt0).trans f2;by_cases hlt:k<m
   case neg =>
    have hfin:=Za (hgood2.out fun i hi=>ha.out i (by omega));have BF:=Za (hB.out _ hb.out)
    go_wp2_with fail
    go_ret;exact⟨Zw hfin.out.symm,BF.out⟩
   obtain⟨x,hx⟩:∃ x,n.2[k]? = some x:=⟨_,Qe (by rw[hm.out];exact hlt)⟩
   obtain⟨ad,E,ce,rfl,q1,q2,hinx,FX⟩:=Ve HA.out hx;have FX':=Za (fun W (hW:Qap wr.heap.size wr W)=>FX W ((hB.out _ hb.out).trans (hW.mono (hB.out _ hb.out).size)));obtain⟨⟨z0,z1,z2,z3,z4⟩,hIx⟩:=FX'.out wr (Qb _ _);obtain⟨w2,hw2,g0,g1,g2,g3,g4,hs2,hB2,_⟩:=Zz wr (.int .u8 (x.1.1.toNat:Int)) (.int .u32 x.1.2.1) (.int .u32 x.1.2.2) (.int .i64 x.2.1) (.slice E x.2.2.length ce) 79;have HI:=Za (hIx.below hB2);have lt2:wr.heap.size<w2.heap.size:=by omega
   have B2:=Za (hb.out.trans (hB2.mono hb.out.size));have C2:=Za hB2;replace hx:=Za hx;replace hs2:=Za hs2;have hbk:=Za (hbad1.out k hlt);clear FX hIx hB2 hinx;unfold itV at *
   go_upto_region 8 with fail
   clear hw2
   go_wp2_with fail
   with_reducible refine(Ul _ x _ HI.out).mono ?_
   rintro e3 w3 ⟨rfl,hb3⟩;have B3:=Za (B2.out.trans (hb3.mono B2.out.size));have C3:=Za (C2.out.trans (hb3.mono C2.out.size));have r0:=(hb3.cell (p:=⟨wr.heap.size,0,none⟩) lt2).trans g0;have r1:=(hb3.cell (p:=⟨wr.heap.size,1,none⟩) lt2).trans g1;have r2:=(hb3.cell (p:=⟨wr.heap.size,2,none⟩) lt2).trans g2;have r3:=(hb3.cell (p:=⟨wr.heap.size,3,none⟩) lt2).trans g3;have r4:=(hb3.cell (p:=⟨wr.heap.size,4,none⟩) lt2).trans g4;have p3:=(hb3.cell (p:=⟨w.heap.size,0,none⟩) (Qd lt0 B2.out.size)).trans ((C2.out.cell (p:=⟨w.heap.size,0,none⟩) (Qd lt0 hb.out.size)).trans p1);have p4:=(hb3.cell (p:=⟨w.heap.size,1,none⟩) (Qd lt0 B2.out.size)).trans ((C2.out.cell (p:=⟨w.heap.size,1,none⟩) (Qd lt0 hb.out.size)).trans p2);replace HI:=Za (HI.out.below hb3);have lt3:wr.heap.size<w3.heap.size:=Qd lt2 hb3.size;clear hb3 g0 g1 g2 g3 g4 z0 z1 z2 z3 z4 p1 p2;rcases Zbc (Zas x) with hmx | hmx
   ·have hr:=Za (hbk.out (Zj4 hx.out (by rw[okP,hmx];rfl)))
    have hc:=Za (Uj hmx);have BF:=Za (hB.out _ B3.out);replace hmx:=Za hmx;rw[hc.out]
    go_wp2_with fail
    go_ret;exact⟨Zw hr.out.symm,BF.out⟩
   have hc:=Za (Zb3 hmx);replace hmx:=Za hmx;rw[hc.out];have h5q:¬ (0:Int)<l:=by omega
   have hP:=Za (show okP n.1 x=true by rw[okP,hmx.out,hl.out];simp;omega);obtain⟨w4,hw4⟩:∃ w4,w3=w4:=⟨_,rfl⟩
   subst hw4;have B4:=B3;have C4:=C3;have t0:=r0;have t1:=r1;have t2:=r2;have p5:=p4;have lt4:=lt3;have lt0':w.heap.size<w3.heap.size:=Qd lt0 B4.out.size;clear r0 r1 r2 r3 r4 lt3;rcases(by rcases k with _ | j;exact Or.inl rfl;exact Or.inr ⟨j,rfl⟩:k=0\/∃ j,k=j+1) with hk0 | ⟨j,hkj⟩
   ·have hall:=Za (show ∀ j,j<k+1->Zhj n j=true from fun j hj=>by
     obtain rfl:j=0:=by omega
     subst hk0
     rw[Zlh hx.out,hP.out])
    subst hk0
    go_wp2_with fail
    go_quiet (fail)
    go_wp2_with fail
    go_roundw
    case rel=>exact⟨0+1,by omega,by go_num,hall.out,Vo B4.out _⟩
    case measure=>simp[intOf];omega
   ·obtain⟨y,hy⟩:∃ y,n.2[j]? = some y:=⟨_,Qe (by rw[hm.out];omega)⟩
    obtain⟨ad',E',ce',e',_,_,_,FY⟩:=Ve HA.out hy;have e'':=Option.some.inj e';subst e'';clear e';have BW4:=Za (hB.out _ B4.out);have FYY:=Za fun W (hW:Qap _ _ W)=>(FY W (BW4.out.trans (hW.mono BW4.out.size))).1
    have hsucc:=Za (show Zhj n k=Zr y.1 x.1 by subst hkj;rw[Zf0 hx.out hy,hP.out];simp);have hj1:(k:Int)-1=(j:Int):=by omega
    replace hy:=Za hy;obtain⟨s,hs⟩:∃ s,Zr y.1 x.1=s:=⟨_,rfl⟩
    rw[hs] at hsucc;replace hs:=Za hs;have hwj:IntKind.i64.wrap (j:Int)=(j:Int):=Q7 _ (by omega);have hj0:(0:Int)<=(j:Int):=by omega
    have kpos:(0:Int)<(k:Int):=by omega
    have hjm:(j:Int)<(m:Int):=by omega
    clear FY
    go_wp2_with fail
    refine wp_region_fx (by kernel_rfl) (fun W=>Qap _ _ W) (fun _=>none) (fun i=>match i with
     | 12=>some (.bool s)
     | _=>none) (by kernel_rfl) (Qb _ _).drew (fun w w' h hb=>h.trans (hb.mono h.size)) (fun j φ x W W' hp=>by cases hp) ?_
    repeat (first
     | (refine wpAs_skip rfl ?_;simp only[Qa,Zb,Zc,Zd])
     | (refine wpAs_pure (v := ?_) rfl rfl ?_ ?_;rotate_left;(intro W hC hE;clear hE;(obtain⟨y0,y1,y2,y3,y4⟩:=FYY.out W hC;have x0:=(hC.cell (p:=⟨wr.heap.size,0,none⟩) lt4).trans t0;have x1:=(hC.cell (p:=⟨wr.heap.size,1,none⟩) lt4).trans t1;have x2:=(hC.cell (p:=⟨wr.heap.size,2,none⟩) lt4).trans t2;have p6:=(hC.cell (p:=⟨w.heap.size,1,none⟩) lt0').trans p5);clear hC;go_simp;first | done | with_reducible rfl);simp only[Qa,Zb,Zc,Zd]))
    refine wpAs_fixed rfl rfl rfl ?_ ?_
    ·intro W hC hE
     refine does_enter (f:=104) (args:=#[kyV y.1,kyV x.1]) ?_ ?_
     ·go_simp
     ·refine(Zfp y.1 x.1 W).mono ?_
      rintro e W' ⟨rfl,hg⟩;rw[hs.out];exact⟨_,rfl,rfl,hg⟩
    simp only[Qa,Zb,Zc,Zd]
    repeat (first
     | (refine wpAs_skip rfl ?_;simp only[Qa,Zb,Zc,Zd])
     | (refine wpAs_pure (v := ?_) rfl rfl ?_ ?_;rotate_left;(intro W hC hE;clear hE;skip;clear hC;go_simp;first | done | with_reducible rfl);simp only[Qa,Zb,Zc,Zd]))
    refine wpAs_end fun W hC hE=> ?_
    have BW:=Za (B4.out.trans (hC.mono B4.out.size));clear hE hC;cases s with
    | true =>
     have hall:=Za (show ∀ j,j<k+1->Zhj n j=true from fun j hj=>by
      rcases Ql j k with h | h
      ·exact ha.out j h
      ·obtain rfl:j=k:=by omega
       exact hsucc.out)
     go_wp2_with fail
     go_roundw
     case rel=>exact⟨k+1,by omega,by go_num,hall.out,BW.out⟩
     case measure=>simp[intOf];omega
    | false =>
     have hr:=Za (hbk.out hsucc.out);have BF:=Za (hB.out _ BW.out)
     go_wp2_with fail
     go_ret;exact⟨Zw hr.out.symm,BF.out⟩}
theorem Zxq (w:Qai) (x y z:UInt8) (a b c:Int) (h1:(x.toNat:Int)=a) (h2:(y.toNat:Int)=b) (h3:(z.toNat:Int)=c):∃ w1,w.alloc (.cells #[.int .u8 a,.int .u8 b,.int .u8 c] 5)=w1/\w1.ownsRow w.heap.size 5 1 (.slice (some ⟨w.heap.size,0,none⟩) 3 3) 3 (u8s [x,y,z])/\Qap w.heap.size w w1/\w1.heap.size=w.heap.size+1:=by
 subst h1 h2 h3;refine⟨_,rfl,?_,(Qb _ _).alloc (Qc _) _,by simp⟩;have h1:Row (w.alloc (.cells #[.int .u8 (x.toNat:Int),.int .u8 (y.toNat:Int),.int .u8 (z.toNat:Int)] 5)) w.heap.size [x,y,z]:=Row.new w [x,y,z];exact h1.own (Qc _) (by simp)
theorem Zqz {l:Int}(h0:0<=l) (h1:l<256):((UInt8.ofNat l.toNat).toNat:Int)=l/\IntKind.u8.wrap l=l:=by{
 refine⟨?_,?_⟩
 ·rw[UInt8.toNat_ofNat']
  omega
 ·simp[IntKind.wrap,IntKind.signed,IntKind.bits]
  omega}
theorem Zkf {n:Nd}(h:mayN n=true) (k:Nat):(Zbx (n.2.take k)).length<=120:=by
 have h1:=Zjb (l:=n.2.take k) (fun x hx=>Zke h x (List.mem_of_mem_take hx));have h2:=(Z0 h).1.2.2.1;have h3:(n.2.take k).length<=n.2.length:=by rw[List.length_take];omega
 omega
theorem Zjo (v:Qaj) (n:Nd) (w:Qai) (h:Nod (Old w) w v n) :
  Qao Tryz.prog 106 #[v] w fun e w'=>∃ u,e=.returned (.tuple #[u,.int .i64 (Zxg n)])/\rBy (New w.heap.size w') w' [u] (wrN n)/\Qap w.heap.size w w':=by{
 obtain⟨A,c,rfl,hin,l1,m1,hA⟩:=h.open;obtain⟨w0,hw0,b0,hs0,hB0⟩:=Yd w (.int .i64 n.1) (.slice A n.2.length c) 59;obtain⟨f1,f2,_,lt0⟩:=Zi b0;have HN:=Za (h.below hB0);have HA:=Za hA;have HB0:=Za hB0;replace hs0:=Za hs0;clear h hA hB0 b0 hin;rcases Zbc (mayN n) with hm | hm
 ·have hc:=Za (Zfw hm)
  have hw:=Za (show wrN n=[] by simp[wrN,hm]);rw[hw.out]
  go_enter Tryz.func106,Tryz.ntmps106
  go_upto_region 1 with fail
  clear hw0
  go_wp2_with fail
  with_reducible refine(Zep _ n _ HN.out).mono ?_
  rintro e1 w1 ⟨rfl,hb1⟩;rw[hc.out];have BF:=Za (HB0.out.trans (hb1.mono HB0.out.size));clear hb1
  go_wp2_with fail
  go_ret2
  exact⟨_,Zi1 hc.out.symm,Zg3 _ _,BF.out⟩
 have hmay:=Za hm;have hc:=Za (Zno hm);have hwr:=Za (show wrN n=Ui n by simp[wrN,hm]);rw[hwr.out];obtain⟨⟨s1,s2,s3,_⟩,_⟩:=Z0 hm;obtain⟨m,hmm⟩:∃ m,n.2.length=m:=⟨_,rfl⟩
 have hu1:=Zqz s1 (by omega);have hu2:=Zqz (l:=(n.2.length:Int)) (by omega) (by omega);have hhead:=Za (show Zrt n=[78,UInt8.ofNat n.1.toNat,UInt8.ofNat n.2.length] from rfl);rw[Int.toNat_natCast] at hu2;rw[hmm] at l1 f2 hw0 HN HA s3 hu2 hhead ⊢;obtain⟨l,hl⟩:∃ l,n.1=l:=⟨_,rfl⟩
 rw[hl] at f1 hw0 HN s1 s2 hu1 hhead ⊢;replace hl:=Za hl;replace hmm:=Za hmm;clear hm
 go_enter Tryz.func106,Tryz.ntmps106
 go_upto_region 1 with fail
 clear hw0
 go_wp2_with fail
 with_reducible refine(Zep _ n _ HN.out).mono ?_
 rintro e1 w1 ⟨rfl,hb1⟩;rw[hc.out];have B1:=Za (HB0.out.trans (hb1.mono HB0.out.size));have p1:=(hb1.cell (p:=⟨w.heap.size,0,none⟩) lt0).trans f1;have p2:=(hb1.cell (p:=⟨w.heap.size,1,none⟩) lt0).trans f2;have lt1:w.heap.size<w1.heap.size:=Qd lt0 hb1.size;clear hb1 f1 f2;obtain⟨w2,hw2,own2,hb2,hs2⟩:=Zxq w1 78 (UInt8.ofNat l.toNat) (UInt8.ofNat m) 78 l m rfl hu1.1 hu2.1;rw[<- hhead.out] at own2;have q1:=hu1.2;have q2:=hu2.2;have B2:=Za (B1.out.trans (hb2.mono B1.out.size));have p3:=(hb2.cell (p:=⟨w.heap.size,1,none⟩) lt1).trans p2;have lt2:w.heap.size<w2.heap.size:=Qd lt1 hb2.size;have h12:=Za hb2.size;replace own2:=Za own2;replace hu1:=Za hu1;replace hu2:=Za hu2;replace hs2:=Za hs2;have hb2':=Za hb2;have p2':=Za p2;clear hb2
 go_upto_region 5 with fail
 clear hw2 p1 p2
 go_wp2_with fail
 go_loopw [5,26] (fun b i wr=>∃ k:Nat,k<=m/\i=.int .i64 k/\wr.ownsRow w1.heap.size 5 1 b (3+(Zbx (n.2.take k)).length) (u8s (Zrt n++Zbx (n.2.take k)))/\Qap w1.heap.size w1 wr) (fun _ i _=>m-(intOf i).toNat)
 case atStart=>exact⟨0,by omega,rfl,by simpa [Zbx] using own2.out,hb2'.out⟩
 case round =>
  obtain⟨k,hk,rfl,hown,hb⟩:=hrel;replace hb:=Za hb;have h63:=Zkf hmay.out k;obtain⟨B,cb,rfl,c1,c2,hby⟩:=Z2e hown;have BF:=Za (B1.out.trans (hb.out.mono B1.out.size));by_cases hlt:k<m
  case neg =>
   have hkm:Hid (n.2.take k=n.2):=Za (Qj (by rw[hmm.out];omega));rw[hkm.out] at hby c1 h63 ⊢;obtain⟨q,hq⟩:∃ q,3+(Zbx n.2).length=q:=⟨_,rfl⟩
   have hlen:=Za (show (Zau n).length=q by rw[<- hq];simp[Zau,Zrt];omega);have hse:=Za (show se q=0 from if_pos (by omega));have hsb:=Za (show sb (Zau n)=Ui n from if_pos (by rw[hlen.out];omega));have HY:Hid (Byt wr wr.heap.size B (Zau n)):=Za hby
   rw[hq] at c1 ⊢;clear hown hq
   go_wp2_with fail
   with_reducible refine(Zy6 B q cb (Zau n) hlen c1 c2 _ HY.out).mono ?_
   rintro e9 w9 ⟨u,rfl,ho,hb9⟩;rw[hse.out];rw[hsb.out] at ho;have hfin:=Za (Zf.mono (Zcw ho) BF.out.size);have B9:=Za (BF.out.trans (hb9.mono BF.out.size));clear hb9 ho
   go_wp2_with fail
   go_ret2
   exact⟨_,Zi1 hc.out.symm,hfin.out,B9.out⟩
  have p4:=(hb.out.cell (p:=⟨w.heap.size,1,none⟩) lt1).trans p2'.out;obtain⟨x,hx⟩:∃ x,n.2[k]? = some x:=⟨_,Qe (by rw[hmm.out];exact hlt)⟩
  obtain⟨ad,E,ce,rfl,q1,q2,hinx,FX⟩:=Ve HA.out hx;obtain⟨⟨z0,z1,z2,z3,z4⟩,hIx⟩:=FX wr BF.out;obtain⟨w3,hw3,r0,r1,r2,r3,r4,hs3,hB3,_⟩:=Zz wr (.int .u8 (x.1.1.toNat:Int)) (.int .u32 x.1.2.1) (.int .u32 x.1.2.2) (.int .i64 x.2.1) (.slice E x.2.2.length ce) 79;have HI:=Za (hIx.below hB3);have B3:=Za (hb.out.trans (hB3.mono hb.out.size));have O3:=Za (Zy hown hB3);have hmx:=Zn3 (Zl3 hmay.out hx);have hcx:=Za (Zb3 hmx);have hwx:=Za (show wrI x=itB x by simp[wrI,hmx]);have htk:=Za (Zuf hx);have hlx:=Za (show (itB x).length<=24 by have:=(Ud hmx).2;rw[Zax];omega);replace hx:=Za hx;replace hs3:=Za hs3;clear FX hB3 hinx hIx hown hby hmx;unfold itV at *
  go_upto_region 8 with fail
  clear hw3 z0 z1 z2 z3 z4
  go_wp2_with fail
  with_reducible refine(Znz _ x _ HI.out).mono ?_
  rintro e4 w4 ⟨u,rfl,hu,hb4⟩;rw[hcx.out];rw[hwx.out] at hu;obtain⟨U,cu,rfl,_,_,hyu⟩:=Xs (B:=w4.heap.size) (fun p hp=>hp.2.1) hu;have B4:=B3.out.trans (hb4.mono B3.out.size);obtain⟨v5,w5,hr5,o5,ba5⟩:=Zgs _ (3+(Zbx (n.2.take k)).length) (itB x).length cu _ (itB x) U w1.heap.size w4 (Zy O3.out hb4) hyu rfl (by have:=hlx.out;omega) B4.size;have B5:=Za (B4.trans ba5);have H5:=Za hr5
  have o5':=Za (show w5.ownsRow w1.heap.size 5 1 v5 (3+(Zbx (n.2.take (k+1))).length) (u8s (Zrt n++Zbx (n.2.take (k+1)))) by
   rw[htk.out,Qw,<- Pj,<- Pi]
   exact o5)
  clear hu hb4 hyu hr5 o5 ba5 B4
  go_wp2_with (at_builtin;refine Zu rfl _ _ _ rfl rfl rfl H5.out ?_;clear H5)
  go_roundw
  case rel=>exact⟨k+1,by omega,by go_num,o5'.out,B5.out⟩
  case measure=>simp[intOf];omega}
def Zx3 (body:List UInt8):Int:=((body[1]?.getD 0).toNat:Int)
def Zc4 (body:List UInt8):Nat:=(body[2]?.getD 0).toNat
theorem Z0j (body:List UInt8):Zc4 body<256:=(body[2]?.getD 0).toNat_lt
theorem Zw5 (body:List UInt8):Zcz (Zx3 body):=by
 have:=(body[1]?.getD 0).toNat_lt;unfold Zx3;exact⟨by omega,by omega⟩
def ndN (body:List UInt8):Nd:=(Zx3 body,Zu1 (body.drop 3) (Zc4 body))
def rdN (body:List UInt8):Bool:=decide (body[0]?.getD 0=78)&&((Ub (body.drop 3) (Zc4 body)).isSome&&(mayN (ndN body)&&Vx (Ztv (body.drop 3) (Zc4 body))))
def reN (b:List UInt8):Int:=if oe b=0 then (if rdN (ob b) then 0 else 8) else oe b
def reV (b:List UInt8):Nd:=if oe b=0 then (if rdN (ob b) then ndN (ob b) else Xn) else Xn
theorem Zpa {b:List UInt8}(h:oe b=0):b.length=128/\Zpe b/\ob b=b.drop 4/\(ob b).length=124:=by{
 unfold oe at h;by_cases h1:b.length=128
 ·rw[if_pos h1] at h
  by_cases h2:Zpe b
  ·have:ob b=b.drop 4:=by unfold ob;rw[if_pos ⟨h1,h2⟩]
   exact⟨h1,h2,this,by rw[this];simp[h1]⟩
  ·rw[if_neg h2] at h;cases h
 ·rw[if_neg h1] at h;cases h}
theorem Zqp {b:List UInt8}(h:oe b≠0):reN b=oe b/\reV b=Xn:=by
 unfold reN reV;rw[if_neg h,if_neg h];exact⟨rfl,rfl⟩
theorem Zw9 {b:List UInt8}(h:oe b=0) (h':rdN (ob b)=false):reN b=8/\reV b=Xn:=by
 unfold reN reV;rw[if_pos h,if_pos h,h'];exact⟨rfl,rfl⟩
theorem Zfv {b:List UInt8}(h:oe b=0) (h':rdN (ob b)=true):reN b=0/\reV b=ndN (ob b):=by
 unfold reN reV;rw[if_pos h,if_pos h,h'];exact⟨rfl,rfl⟩
def Zit (lo:Nat) (w:Qai) (u:Qaj) (n:Nd):Prop:=∃ A c,u=.agg #[.int .i64 n.1,.slice A n.2.length c]/\Zcz n.1/\Yp rIt 5 79 lo w A c n.2
theorem Zit.nod {lo:Nat}{w:Qai}{u:Qaj}{n:Nd}(h:Zit lo w u n):Nod (New lo w) w u n:=by
 obtain⟨A,c,rfl,h1,h2⟩:=h;exact⟨_,rfl,h1,h2.rel Yn⟩
theorem Zit.zero (lo:Nat) (w:Qai):Zit lo w (.agg #[.int .i64 0,.slice none 0 0]) Xn:=⟨none,0,rfl,⟨by decide,by decide⟩,Yp.nil _ _ _ _ _⟩
theorem Zit.new {lo lo':Nat}{w w':Qai}{u:Qaj}{n:Nd}(h:Zit lo w u n) (hl:lo'<=lo) (hb:Qap w.heap.size w w'):Zit lo' w' u n:=by
 obtain⟨A,c,rfl,h1,h2⟩:=h;exact⟨A,c,rfl,h1,(h2.below Yn hb).low Yn hl⟩
theorem Zit.grown {lo:Nat}{w w':Qai}{u:Qaj}{n:Nd}{row:Option Nat}(h:Zit lo w u n) (hg:w.grownBy w' row) (hr:∀ q,row=some q->q<lo):Zit lo w' u n:=by
 obtain⟨A,c,rfl,h1,h2⟩:=h;exact⟨A,c,rfl,h1,h2.grown Yn hg hr⟩
theorem Zkx (v:Qaj) (b:List UInt8) (w:Qai) (h:rBy (Old w) w [v] b) :
  Qao Tryz.prog 51 #[v] w fun e w'=>∃ u,e=.returned (.tuple #[u,.int .i64 (reN b)])/\Zit w.heap.size w' u (reV b)/\Qap w.heap.size w w':=by{
 obtain⟨A,c,rfl,l1,m1,hy⟩:=Xs (B:=w.heap.size) (fun p hp=>hp) h;obtain⟨n,hn⟩:∃ n,b.length=n:=⟨_,rfl⟩
 rw[hn] at l1 ⊢;replace hn:=Za hn;obtain⟨w0,hw0,b0,hs0,hB0⟩:=Yd w (.int .i64 0) (.slice none 0 0) 59;have lt0:w.heap.size<w0.heap.size:=by omega
 have HB0:=Za hB0;have HY:=Za ((hy.below hB0).more hB0.size)
 have hzero:Hid (∀ (er:Int) (W:Qai),reN b=er/\reV b=Xn->Qap w0.heap.size w0 W->∃ W9,(W.setCell ⟨w.heap.size,0,none⟩ (.int .i64 0)).setCell ⟨w.heap.size,1,none⟩ (.slice none 0 0)=W9/\W9.cell? ⟨w.heap.size,0,none⟩=some (.int .i64 0)/\W9.cell? ⟨w.heap.size,1,none⟩=some (.slice none 0 0)/\(∀ o,W.frozen? ⟨w.heap.size,o,none⟩=false)/\W.cell? ⟨w.heap.size,0,none⟩=some (.int .i64 0)/\W.cell? ⟨w.heap.size,1,none⟩=some (.slice none 0 0) /\
   (∃ u,Ending.returned (.tuple #[.agg #[.int .i64 0,.slice none 0 0],.int .i64 er])=.returned (.tuple #[u,.int .i64 (reN b)])/\Zit w.heap.size W9 u (reV b)/\Qap w.heap.size w W9)):=Za fun er W hre hW=>by
  have bW:=(hW.block w.heap.size lt0).trans b0;obtain⟨W9,e9,g9,gr9,gs9⟩:=Vq (u:=.int .i64 0) (v:=.slice none 0 0) bW;obtain⟨k0,k1,kf,_⟩:=Zi g9;obtain⟨y0,y1,yf,_⟩:=Zi bW;have hBW:=HB0.out.trans (hW.mono HB0.out.size);exact⟨W9,e9,k0,k1,yf,y0,y1,_,by rw[hre.1],by rw[hre.2];exact Zit.zero _ _,hBW.grown gr9 hBW.size (fun q e=>by cases e;omega)⟩
 replace b0:=Za b0;replace hw0:=Za hw0;clear hB0 hs0 h hy
 go_enter Tryz.func51,Tryz.ntmps51
 go_upto_region 1 with fail
 rw[hw0.out];clear hw0
 go_wp2_with fail
 with_reducible refine(Zxx A n c b hn l1 m1 _ HY.out).mono ?_
 rintro e1 w1 ⟨v1,rfl,ho1,hb1⟩;have B1:=Za hb1;have hBW1:=Za (show w.heap.size<=w1.heap.size from Qf (Nat.le_of_lt lt0) hb1.size);obtain⟨er,hoe⟩:∃ er,oe b=er:=⟨_,rfl⟩
 rw[hoe];by_cases h0:er=0
 case neg =>
  have t0:(er != 0)=true:=by simpa using h0
  obtain⟨W9,e9,k0,k1,yf,y0,y1,hfin⟩:=hzero.out er w1 (by rw[<- hoe];exact Zqp (by rw[hoe];exact h0)) B1.out;replace hfin:=Za hfin;replace h0:=Za h0;replace hoe:=Za hoe;clear ho1 hb1
  go_wp2_with fail
  exact Qam (v:=.tuple #[.agg #[.int .i64 0,.slice none 0 0],.int .i64 er]) (by simp[results,Tryz.results51,go_sem,k0,k1]) rfl hfin.out
 subst h0;obtain⟨hlen,hfits,hob,hl124⟩:=Zpa hoe;have HZ:=Za (fun W h hW=>hzero.out 8 W (Zw9 hoe h) hW);have HG:=Za (fun h=>Zfv hoe h);have hr1:=Zcw ho1;obtain⟨bd,hbd⟩:∃ bd,ob b=bd:=⟨_,rfl⟩
 rw[hbd] at hr1 HZ HG hl124;replace hbd:=Za hbd;obtain⟨Q,cq,rfl,n1,n2,hcell⟩:=Zo hr1;rw[hl124] at n1 hcell hr1 ⊢;obtain⟨ad,rfl,hn0,hc0⟩:=hcell 0 (by omega);obtain⟨_,e,hn1',hc1⟩:=hcell 1 (by omega);cases e;obtain⟨_,e,hn2',hc2⟩:=hcell 2 (by omega);cases e;have z0:w1.cell? ad=some (.int .u8 ((bd[0]?.getD 0).toNat:Int)):=by simpa [Addr.add] using hc0
 have z1:w1.cell? ⟨ad.block,ad.off+1,none⟩=some (.int .u8 ((bd[1]?.getD 0).toNat:Int)):=by simpa [Addr.add] using hc1
 have z2:w1.cell? ⟨ad.block,ad.off+2,none⟩=some (.int .u8 ((bd[2]?.getD 0).toNat:Int)):=by simpa [Addr.add] using hc2
 have ltb:ad.block<w1.heap.size:=Qae _ _ z0;have hrest:=Za (Zo4 (Zf.drop hr1) 3 (by omega));have hl:=Za hl124;replace hoe:=Za hoe;clear hfits hob hlen hc0 hc1 hc2 hn0 hn1' hn2' ho1 hb1 hcell hl124 hzero;have hrd:Hid (rdN bd=(decide (bd[0]?.getD 0=78)&&((Ub (bd.drop 3) (Zc4 bd)).isSome&&(mayN (ndN bd)&&Vx (Ztv (bd.drop 3) (Zc4 bd)))))):=Za rfl;obtain⟨x0,hx0⟩:∃ x,bd[0]?.getD 0=x:=⟨_,rfl⟩
 rw[hx0] at z0 hrd;replace hx0:=Za hx0;by_cases h78:(x0.toNat:Int)=78
 case neg =>
  have t0:((x0.toNat:Int) != 78)=true:=by simpa using h78
  obtain⟨W9,e9,k0,k1,yf,y0,y1,hfin⟩:=HZ.out w1 (by rw[hrd.out];simp;intro e;exact absurd (by rw[e];rfl) h78) B1.out;replace hfin:=Za hfin;replace h78:=Za h78;clear hr1
  go_wp2_with fail
  exact Qam (v:=.tuple #[.agg #[.int .i64 0,.slice none 0 0],.int .i64 8]) (by simp[results,Tryz.results51,go_sem,k0,k1]) rfl hfin.out
 have t0:((x0.toNat:Int) != 78)=false:=by simpa using h78
 have h78':=Za (show x0=78 from UInt8.toNat.inj (by show x0.toNat=78;omega));replace h78:=Za h78;obtain⟨mn,hmn⟩:∃ m,Zc4 bd=m:=⟨_,rfl⟩
 have hmlt:=Z0j bd;rw[hmn] at hmlt hrd;have z2':w1.cell? ⟨ad.block,ad.off+2,none⟩=some (.int .u8 (mn:Int)):=by rw[<- hmn];exact z2
 have hmn':=Za hmn;clear z2 hr1 hmn;have had3:ad.add 3=⟨ad.block,ad.off+3,none⟩:=by simp[Addr.add]
 rw[had3] at hrest;have hres:=Za (fun W (hW:Qap w1.heap.size w1 W)=>Zn0 _ (bd.drop 3) mn hmlt W (Zf.old hrest.out hW))
 go_upto_region 6 with fail
 obtain⟨L,hL⟩:∃ L,Zu1 (bd.drop 3) mn=L:=⟨_,rfl⟩
 obtain⟨R,hR⟩:∃ R,Ztv (bd.drop 3) mn=R:=⟨_,rfl⟩
 obtain⟨F,hF⟩:∃ F,Z00 (bd.drop 3) mn=F:=⟨_,rfl⟩
 rw[hL,hR,hF] at hres;have c3:¬ cq=3:=by omega
 have c4:(3:Int)<=cq:=by omega
 have hwm:IntKind.i64.wrap (mn:Int)=(mn:Int):=Q7 _ (by omega)
 refine wp_region_fx (by kernel_rfl) (fun W=>Qap w1.heap.size w1 W) (fun i=>match i with
   | 6=>some (fun v W=>∃ A c u,v=.tuple #[.slice A L.length c,u,.int .i64 F]/\Yp rIt 5 79 w1.heap.size W A c L/\rBy (Old W) W [u] R)
   | 7=>some (fun v W=>∃ A c u,v=.tuple #[.slice A L.length c,u,.int .i64 F]/\Yp rIt 5 79 w1.heap.size W A c L/\rBy (Old W) W [u] R)
   | 8=>some (fun v W=>∃ A c,v=.slice A L.length c/\Yp rIt 5 79 w1.heap.size W A c L)
   | 9=>some (fun v W=>rBy (Old W) W [v] R)
   | _=>none) (fun i=>match i with
   | 10=>some (.int .i64 F)
   | _=>none) (by kernel_rfl) (Qb _ _).drew (fun w w' h hb=>h.trans (hb.mono h.size)) ?tst ?_
 case tst =>
  intro j φ x W W' hp hx hb
  match j,hp with
  | 6,hp =>
   cases hp;obtain⟨A,c,u,e,h1,h2⟩:=hx;exact⟨A,c,u,e,h1.below Yn hb,Zf.old h2 hb⟩
  | 7,hp =>
   cases hp;obtain⟨A,c,u,e,h1,h2⟩:=hx;exact⟨A,c,u,e,h1.below Yn hb,Zf.old h2 hb⟩
  | 8,hp =>
   cases hp;obtain⟨A,c,e,h1⟩:=hx;exact⟨A,c,e,h1.below Yn hb⟩
  | 9,hp=>cases hp;exact Zf.old hx hb
 repeat (first
  | (refine wpAs_skip rfl ?_;simp only[Qa,Zb,Zc,Zd])
  | (refine wpAs_pure (v := ?_) rfl rfl ?_ ?_;rotate_left;(intro W hC hE;clear hE;(have y2:=(hC.cell (p:=⟨ad.block,ad.off+2,none⟩) ltb).trans z2');clear hC;go_simp;first | done | with_reducible rfl);simp only[Qa,Zb,Zc,Zd]))
 refine wpAs_act rfl rfl ?_ ?_
 ·intro W hC hE
  refine does_enter (f:=100) (args:=#[.slice (some ⟨ad.block,ad.off+3,none⟩) 121 (cq-3),.int .i64 mn]) ?_ ?_
  ·go_simp
  ·refine(hres.out W hC).mono ?_
   rintro e W' ⟨A,c,u,rfl,h1,h2,hw⟩;exact⟨_,rfl,⟨A,c,u,rfl,h1.low Yn hC.size,h2⟩,hw⟩
 simp only[Qa,Zb,Zc,Zd,envAdd];intro x30;refine wpAs_act rfl rfl ?_ ?_
 ·intro W hC hE
  have hx:=hE.1 rfl;clear hE
  go_simp
  exact⟨hx,Qb _ _⟩
 simp only[Qa,Zb,Zc,Zd,envAdd];intro x23;refine wpAs_act rfl rfl ?_ ?_
 ·intro W hC hE
  obtain⟨A,c,u,rfl,h1,h2⟩:=hE.1 rfl;clear hE;have H1:=Za h1;clear h1 h2
  go_simp
  exact⟨⟨_,_,rfl,H1.out⟩,Qb _ _⟩
 simp only[Qa,Zb,Zc,Zd,envAdd];intro x31;refine wpAs_act rfl rfl ?_ ?_
 ·intro W hC hE
  obtain⟨A,c,u,rfl,h1,h2⟩:=hE.2.1 rfl;clear hE;have H2:=Za h2;clear h1 h2
  go_simp
  exact⟨H2.out,Qb _ _⟩
 simp only[Qa,Zb,Zc,Zd,envAdd];intro x32;refine wpAs_fixed rfl rfl rfl ?_ ?_
 ·intro W hC hE
  obtain⟨A,c,u,rfl,h1,h2⟩:=hE.2.2.1 rfl;clear hE h1 h2
  go_simp
  exact⟨rfl,Qb _ _⟩
 simp only[Qa,Zb,Zc,Zd]
 repeat (first
  | (refine wpAs_skip rfl ?_;simp only[Qa,Zb,Zc,Zd])
  | (refine wpAs_pure (v := ?_) rfl rfl ?_ ?_;rotate_left;(intro W hC hE;clear hE;skip;clear hC;go_simp;first | done | with_reducible rfl);simp only[Qa,Zb,Zc,Zd]))
 refine wpAs_end fun wc hC hE=> ?_
 have H31:=hE.2.1;have H32:=hE.1;clear hE;have BC:=Za (B1.out.trans (hC.mono B1.out.size));have y1:=(hC.cell (p:=⟨ad.block,ad.off+1,none⟩) ltb).trans z1;clear hC;obtain⟨X,cx,rfl,R31⟩:=H31;have H31:=R31.rel Yn;obtain⟨n3,n4,_,_⟩:=R31.form;replace R31:=Za R31;obtain⟨Y,cy,rfl,n5,n6,hy32⟩:=Xs (B:=wc.heap.size) (fun p hp=>hp) H32;cases hct:Ub (bd.drop 3) mn with
 | none =>
  have hF8:F=8:=by rw[<- hF];simp[Z00,hct]
  subst hF8;obtain⟨W9,e9,k0,k1,yf,u0,u1,hfin⟩:=HZ.out wc (by rw[hrd.out,hct];simp) BC.out;replace hfin:=Za hfin;replace hct:=Za hct;replace hF:=Za hF;clear H31 H32 hy32
  go_wp2_with fail
  exact Qam (v:=.tuple #[.agg #[.int .i64 0,.slice none 0 0],.int .i64 8]) (by simp[results,Tryz.results51,go_sem,k0,k1]) rfl hfin.out
 | some p =>
  obtain⟨l',r'⟩:=p;have hF0:F=0:=by rw[<- hF];simp[Z00,hct]
  subst hF0;have hsome:=Za (show (Ub (bd.drop 3) mn).isSome=true by rw[hct];rfl);replace hct:=Za hct;replace hF:=Za hF;replace hL:=Za hL;replace hR:=Za hR;obtain⟨lv,hlv⟩:∃ lv,Zx3 bd=lv:=⟨_,rfl⟩
  have hlin:=Za (Zw5 bd);have hnd:=Za (show ndN bd=(lv,L) by rw[ndN,hlv,hmn'.out,hL.out]);rw[hlv] at hlin;have y1':wc.cell? ⟨ad.block,ad.off+1,none⟩=some (.int .u8 lv):=by rw[<- hlv];exact y1
  have hlw:IntKind.i64.wrap lv=lv:=Q7 _ (by have:=hlin.out;exact⟨this.1,this.2⟩);replace hlv:=Za hlv;clear y1;obtain⟨w2,hw2,b2,hs2,hB2⟩:=Yd wc (.int .i64 lv) (.slice X L.length cx) 59;obtain⟨f1,f2,_,lt2⟩:=Zi b2;have N2:Nod (New w1.heap.size w2) w2 (.agg #[.int .i64 lv,.slice X L.length cx]) (lv,L):=⟨_,rfl,hlin.out,Xv.new H31 (Qc _) hB2⟩
  have HN2:=Za N2;have HR2:=Za (show Zit w1.heap.size w2 (.agg #[.int .i64 lv,.slice X L.length cx]) (lv,L) from ⟨X,cx,rfl,hlin.out,R31.out.below Yn hB2⟩);have B2:=Za (BC.out.trans (hB2.mono BC.out.size));have HY2:=Za ((hy32.below hB2).more hB2.size);replace hs2:=Za hs2;replace b2:=Za b2;clear H31 H32 hy32 N2 hB2
  go_upto_region 10 with fail
  clear hw2 y1'
  go_wp2_with fail
  with_reducible refine(Zep _ (lv,L) _ HN2.out.drop).mono ?_
  rintro e3 w3 ⟨rfl,hb3⟩;have B3:=Za (B2.out.trans (hb3.mono B2.out.size));have HN3:=Za (HR2.out.new (Qc _) hb3);have g1:=(hb3.cell (p:=⟨wc.heap.size,0,none⟩) lt2).trans f1;have g2:=(hb3.cell (p:=⟨wc.heap.size,1,none⟩) lt2).trans f2;have HY3:=Za ((HY2.out.below hb3).more hb3.size);have lt3:wc.heap.size<w3.heap.size:=Qd lt2 hb3.size;clear hb3 f1 f2;rcases Zbc (mayN (lv,L)) with hm | hm
  ·have hc:=Za (Zfw hm)
   obtain⟨W9,e9,k0,k1,yf,u0,u1,hfin⟩:=HZ.out w3 (by rw[hrd.out,hnd.out,hm];simp) B3.out;replace hfin:=Za hfin;replace hm:=Za hm;rw[hc.out]
   go_wp2_with fail
   exact Qam (v:=.tuple #[.agg #[.int .i64 0,.slice none 0 0],.int .i64 8]) (by simp[results,Tryz.results51,go_sem,k0,k1]) rfl hfin.out
  have hc:=Za (Zno hm);rw[hc.out];obtain⟨rl,hrl⟩:∃ n,R.length=n:=⟨_,rfl⟩
  rw[hrl] at n5 ⊢;replace hrl:=Za hrl
  go_wp2_with fail
  with_reducible refine(Zny Y rl cy R hrl n5 n6 _ HY3.out).mono ?_
  rintro e4 w4 ⟨rfl,rfl⟩;rcases Zbc (Vx R) with hz | hz
  ·obtain⟨W9,e9,k0,k1,yf,u0,u1,hfin⟩:=HZ.out w3 (by rw[hrd.out,hnd.out,hR.out,hz];simp) B3.out
   replace hfin:=Za hfin;rw[hz];replace hz:=Za hz;replace hm:=Za hm
   go_wp2_with fail
   exact Qam (v:=.tuple #[.agg #[.int .i64 0,.slice none 0 0],.int .i64 8]) (by simp[results,Tryz.results51,go_sem,k0,k1]) rfl hfin.out
  ·have hgood:=Za (HG.out (by rw[hrd.out,hnd.out,hR.out,hz,hm,hsome.out,h78'.out];rfl))
   have bW:=(B3.out.block w.heap.size lt0).trans b0.out;obtain⟨W9,e9,g9,gr9,gs9⟩:=Vq (u:=.int .i64 lv) (v:=.slice X L.length cx) bW;obtain⟨k0,k1,kf,_⟩:=Zi g9;obtain⟨u0,u1,yf,_⟩:=Zi bW;have hBW:=HB0.out.trans (B3.out.mono HB0.out.size)
   have hfin:Hid (Zit w.heap.size W9 (.agg #[.int .i64 lv,.slice X L.length cx]) (reV b)/\Qap w.heap.size w W9):=Za ⟨by
    rw[hgood.out.2,hnd.out]
    exact(HN3.out.grown gr9 (fun q e=>by cases e;exact Qd lt0 B1.out.size)).new hBW1.out (Qb _ _),hBW.grown gr9 hBW.size (fun q e=>by cases e;omega)⟩
   rw[hz];replace hz:=Za hz;replace hm:=Za hm;replace bW:=Za bW;replace g9:=Za g9;clear gr9
   go_wp2_with fail
   exact Qam (v:=.tuple #[.agg #[.int .i64 lv,.slice X L.length cx],.int .i64 0]) (by simp[results,Tryz.results51,go_sem,k0,k1]) rfl ⟨_,by rw[hgood.out.1],hfin.out.1,hfin.out.2⟩}
end Go.Proofs.YtmafkphcfkhokaaGreat
