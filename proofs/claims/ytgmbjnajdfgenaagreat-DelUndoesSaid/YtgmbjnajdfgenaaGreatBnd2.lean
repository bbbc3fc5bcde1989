/-
  Lemmas on the program and on the document's answers, gathered: DevWrite, Alive03, Gen03, RefWith, RefRead, Push, RefTwin, All03, Get, SumSeal, RefBlk, Concat, Total02, RingWrite, RingRead, Bag04, Item, ItLess, ItCheck, ItSame, ItWrite, ItRead, Alive05, Bag05, Node, NdCut, NdCut2, NdTwin, NdCheck, NdWrite, NdRead, NdPlace, NdBack, NdTwin2, PuCopy, PuIns, PuIns2, PuRep, Cnt, CntUp, CntAlive, CntPlain, RmPlain. Conditions: those that each lemma states.
-/
import Derived.Test.YtgmbjnajdfgenaaGreatBnd1
import Derived.Deep.RegionHeld3
import Derived.Deep.AppendLies
import Derived.Maps.AppendAt
import Derived.StillTailTactics
import Derived.Lib.Hide
import Derived.Lib.AppendZerosOnto
import Derived.Deep.QuietTactic
import Derived.BigQuiet
import Derived.WalkLawsBesides
import Derived.Deep.CutBlock
import Derived.Deep.CutRange
import Derived.Laws.StructEq
import Derived.Laws.CopyOwn
import Derived.Deep.RegionLaw
import Derived.Lib.Overlaps
set_option maxRecDepth 100000
set_option maxHeartbeats 16000000
open Array renaming getElem?_eq_some_iff → Pa, getElem?_modify → P1, length_toList → Qak
open Bool renaming and_eq_true → Qg, or_eq_true → P8
open Go renaming World → Qam, Value → Qan, Addr → Qao, Oper → Qap, TypeId → Qaq, bodyPost_ret → Qar, heap_alloc_new → Qas, Calls → Qat
open Go.Act renaming put → Qa
open Go.Builtin renaming append_ → Ql, zeroCells → Qw, lenOf → Pf, firstCells → Pg, copy_ → Qad, clear_ → Qae
open Go.IntWalk renaming i64_in → Q8
open Go.RowKit renaming Below → Qau
open Go.RowKit.Below renaming refl → Qb
open Go.World renaming cell?_of_block → Qp, ownsRow_nil → Qz, cell? → Q0, frozen?_of_block → Pb, frozen? → Pk, news_of_block → Pv, setCell → Pz, block_lt_of_cell? → P7, shape? → Qaj
open List renaming getElem?_eq_getElem → Qe, take_of_length_le → Qf, length_append → Qi, getElem?_eq_some_iff → Qj, all_eq_true → Qk, append_assoc → Qn, length_take → Qo, length_drop → Qq, drop_zero → Qr, getElem?_append_right → Qt, take_add_one → Qu, take_zero → Qx, getElem?_append_left → Qy, drop_of_length_le → Q3, take_take → Q4, drop_left' → Q5, take_append_drop → Q6, take_append_of_le_length → Q9, replicate → Pc, getElem?_of_mem → Pd, mem_cons → Ph, nil_append → Pi, take_left' → Pj, drop_eq_getElem_cons → Pm, getElem?_drop → Pn, mem_iff_getElem → Po, filter_append → Pq, toArray → Pr, mem_of_mem_drop → Ps, take_succ_cons → Pt, drop_succ_cons → Pu, length_replicate → Pw, mem_append → Px, mem_of_getElem? → Py, find?_eq_none → P3, drop_left → P4, findIdx?_eq_some_iff_getElem → P9, findIdx?_eq_none_iff → Qaa, getElem_mem → Qab, length_filter_le → Qac, drop_append → Qaf, take_append → Qag, take_nil → Qah, drop_nil → Qai, append_nil → Qal
open Nat renaming le_refl → Qc, lt_of_lt_of_le → Qd, le_trans → Qh, min_eq_left → Qm, lt_or_ge → Qs, zero_add → Qv, lt_trans → Q7, eq_zero_or_pos → Pe, zero_mul → Pp, add_assoc → P5
noncomputable section
namespace Go.Proofs.YtgmbjnajdfgenaaGreat
open Go.RowKit
def Zns (d:Dk) (n:Int) (xs:List UInt8):Int:=if Zbs d then (if Vc n then (if xs.length=128 then (if d.2.length=4096 then 9 else 0) else 3) else 2) else 8
theorem Z8o {d:Dk}{n:Int}{xs:List UInt8}(h:Uw d n≠0):Zns d n xs=Uw d n:=by{
 unfold Zns Uw at *;split
 ·split
  ·simp_all
  ·rfl
 ·rfl}
theorem Zxa (v u:Qan) (d:Dk) (n:Int) (xs:List UInt8) (w:Qam) (h:Dsk (Old w) w v d) (hu:rBy (Old w) w [u] xs) (he:Zns d n xs≠0) :
  Qat Tryz.prog 126 #[v,.int .i64 n,u] w fun e w'=>e=.returned (.tuple #[.agg #[.slice none 0 0,.slice none 0 0],.int .i64 (Zns d n xs)])/\Qau w.heap.size w w':=by{
 obtain⟨a,b,rfl,_⟩:=id h;obtain⟨w2,hw2,f1,f2,f3,hsz,hB⟩:=Zqj w a b #[.slice none 0 0,.slice none 0 0] 26;have H:=Za (h.below hB);obtain⟨A,c,B,e,e1,_⟩:=h.open;cases e1;obtain⟨E,ce,rfl,_⟩:=Zt hu;clear h hu;replace hsz:=Za hsz;cases hc:Uw d n==0 with
 | false =>
  have hc':Uw d n≠0:=by simpa using hc
  have hw:=Za (Z8o (xs:=xs) hc');obtain⟨q,hq⟩:∃ q,Uw d n=q:=⟨_,rfl⟩
  rw[hw.out,hq];rw[hq] at hc;replace hq:=Za hq;have hc2:(q != 0)=true:=by simpa using hc
  clear he hc'
  go_enter Tryz.func126,Tryz.ntmps126
  go_upto_region 1 with fail
  clear hw2
  go_wp2_with fail
  refine(Uy _ d n _ H.out).mono ?_;rintro e w3 ⟨rfl,hb3⟩;rw[hq.out];have f4:=(hb3.block (w.heap.size+1) (by rw[hsz.out];omega)).trans f3;obtain⟨k1,k2,k3,k4⟩:=Zg f4;obtain⟨W9,hW9,g9,gr9,gs9⟩:=Xu (u:=.slice none 0 0) (v:=.slice none 0 0) f4;obtain⟨k5,k6,_,_⟩:=Zg g9;have hB9:=(hB.trans (hb3.mono hB.size)).grown gr9 (Qh hB.size hb3.size) (fun q e=>by cases e;omega);replace f4:=Za f4;replace f3:=Za f3;replace g9:=Za g9;clear f1 f2
  go_wp2_with fail
  exact Qar (v:=.tuple #[.agg #[.slice none 0 0,.slice none 0 0],.int .i64 q]) (by simp[results,Tryz.results126,go_sem,k5,k6]) rfl ⟨rfl,hB9⟩
 | true =>
  have hc':Uw d n=0:=by simpa using hc
  clear hc;have hmt:Zbs d=true/\Vc n=true:=by
   unfold Uw at hc';cases h1:Zbs d <;> cases h2:Vc n <;> simp[h1,h2] at hc' ⊢
  replace hc':=Za hc';by_cases h8:xs.length=128
  ·have h9:d.2.length=4096:=by
    unfold Zns at he;simp[hmt,h8] at he;exact he
   have hw:=Za (show Zns d n xs=9 by simp[Zns,hmt,h8,h9]);rw[hw.out];have e8:((xs.length:Int) != 128)=false:=by rw[h8];rfl
   have e9:((d.2.length:Int)==4096)=true:=by rw[h9];rfl
   replace h8:=Za h8;replace h9:=Za h9;clear he hmt
   go_enter Tryz.func126,Tryz.ntmps126
   go_upto_region 1 with fail
   clear hw2
   go_wp2_with fail
   refine(Uy _ d n _ H.out).mono ?_;rintro e w3 ⟨rfl,hb3⟩;rw[hc'.out];have f4:=(hb3.block (w.heap.size+1) (by rw[hsz.out];omega)).trans f3;have g2:=(hb3.cell (p:=⟨w.heap.size,1,none⟩) (by rw[hsz.out];simp)).trans f2;obtain⟨k1,k2,k3,k4⟩:=Zg f4;obtain⟨W9,hW9,g9,gr9,gs9⟩:=Xu (u:=.slice none 0 0) (v:=.slice none 0 0) f4;obtain⟨k5,k6,_,_⟩:=Zg g9;have hB9:=(hB.trans (hb3.mono hB.size)).grown gr9 (Qh hB.size hb3.size) (fun q e=>by cases e;omega);replace f4:=Za f4;replace f3:=Za f3;replace g9:=Za g9;clear f1 f2
   go_wp2_with fail
   exact Qar (v:=.tuple #[.agg #[.slice none 0 0,.slice none 0 0],.int .i64 9]) (by simp[results,Tryz.results126,go_sem,k5,k6]) rfl ⟨rfl,hB9⟩
  ·have hw:=Za (show Zns d n xs=3 by simp[Zns,hmt,h8])
   rw[hw.out];have e8:((xs.length:Int) != 128)=true:=by simp;omega
   clear he hmt h8
   go_enter Tryz.func126,Tryz.ntmps126
   go_upto_region 1 with fail
   clear hw2
   go_wp2_with fail
   refine(Uy _ d n _ H.out).mono ?_;rintro e w3 ⟨rfl,hb3⟩;rw[hc'.out];have f4:=(hb3.block (w.heap.size+1) (by rw[hsz.out];omega)).trans f3;obtain⟨k1,k2,k3,k4⟩:=Zg f4;obtain⟨W9,hW9,g9,gr9,gs9⟩:=Xu (u:=.slice none 0 0) (v:=.slice none 0 0) f4;obtain⟨k5,k6,_,_⟩:=Zg g9;have hB9:=(hB.trans (hb3.mono hB.size)).grown gr9 (Qh hB.size hb3.size) (fun q e=>by cases e;omega);replace f4:=Za f4;replace f3:=Za f3;replace g9:=Za g9;clear f1 f2
   go_wp2_with fail
   exact Qar (v:=.tuple #[.agg #[.slice none 0 0,.slice none 0 0],.int .i64 3]) (by simp[results,Tryz.results126,go_sem,k5,k6]) rfl ⟨rfl,hB9⟩}
theorem Z4l (v u:Qan) (d:Dk) (k:Nat) (xs:List UInt8) (w:Qam) (h:Dsk (Old w) w v d) (hu:rBy (Old w) w [u] xs) (hm:Zbs d=true) (hk:k<256) (hl:xs.length=128) (hf:d.2.length<4096) :
  Qat Tryz.prog 126 #[v,.int .i64 k,u] w fun e w'=>∃ x,e=.returned (.tuple #[x,.int .i64 0])/\Dsk (New w.heap.size w') w' x (d.1,d.2++[((k:Int),xs)])/\Qau w.heap.size w w':=by{
 obtain⟨i0,hi,hz0,hz1,hz2⟩:=info_parts Zpw;obtain⟨a,b,rfl,_⟩:=id h;obtain⟨w2,hw2,f1,f2,f3,hsz,hB⟩:=Zqj w a b #[.slice none 0 0,.slice none 0 0] 26;have H:=Za (h.below hB);obtain⟨A,c,B,e,e1,_⟩:=h.open;cases e1;have hu2:=Zf.old hu hB;obtain⟨E,ce,rfl,_⟩:=Zt hu;clear h hu;replace hsz:=Za hsz;have hc:=Za (Zno hm (Zfl hk));have hsm:=Za (Zdb hm);have e8:((xs.length:Int) != 128)=false:=by rw[hl];rfl
 have e9:((d.2.length:Int)==4096)=false:=by simp;omega
 replace hm:=Za hm;replace hl:=Za hl
 go_enter Tryz.func126,Tryz.ntmps126
 go_upto_region 1 with fail
 clear hw2
 go_wp2_with fail
 refine(Uy _ d k _ H.out).mono ?_;rintro e w3 ⟨rfl,hb3⟩;rw[hc.out];have f4:=(hb3.block (w.heap.size+1) (by rw[hsz.out];omega)).trans f3;have g1:=(hb3.cell (p:=⟨w.heap.size,0,none⟩) (by rw[hsz.out];simp)).trans f1;have g2:=(hb3.cell (p:=⟨w.heap.size,1,none⟩) (by rw[hsz.out];simp)).trans f2;have H3:=Za (H.out.below hb3);have hu3:=Zf.old hu2 hb3;have hB3:=hB.trans (hb3.mono hB.size);have hl3:w.heap.size+2<=w3.heap.size:=by have:=hsz.out;have:=hb3.size;omega
 replace f4:=Za f4;clear f1 f2 f3 hu2 H hB hb3
 go_wp2_with fail
 refine(Zt7 _ d _ hsm.out H3.out).mono ?_;rintro e w4 ⟨x,rfl,⟨a4,A4,c4,ps,rfl,hx1,hx2,hx3,hx4⟩,hb4⟩;obtain⟨R4,r4,er,_⟩:=Zde hx1;cases er;have hu4:=Zf.old hu3 hb4;have f5:=(hb4.block (w.heap.size+1) (by omega)).trans f4.out;have hB4:=hB3.trans (hb4.mono hB3.size);have hl4:w.heap.size+2<=w4.heap.size:=Qh hl3 hb4.size;obtain⟨wb,hwb,b1,b3,hbb⟩:=Yd w4 (.slice R4 d.1.length r4) (.slice A4 d.2.length c4) 26;have hu5:=Zf.old hu4 hbb;have hA4:Hid (∀ q,A4.map (·.block)=some q->q<w4.heap.size/\w3.heap.size<=q):=Za fun q e=>by
  have:=hx2.lt q (by rw[hx3];exact e);exact⟨this.2,this.1⟩
 have hownb:wb.drew.ownsRow w3.heap.size 47 2 (.slice A4 d.2.length c4) d.2.length (Vk ps):=Zx hx2 hbb.drew;have f6:=(hbb.block (w.heap.size+1) (by omega)).trans f5;obtain⟨_,s1,s2,s3⟩:=Zg b1;have hB5:=hB4.trans (hbb.mono hB4.size);replace b1:=Za b1;replace hownb:=Za hownb;replace f5:=Za f5;replace f6:=Za f6;replace hx1:=Za hx1;replace hx2:=Za hx2;replace hx4:=Za hx4;replace hx3:=Za hx3;replace b3:=Za b3;have hub:Hid (rBy (Old wb) wb [.slice E xs.length ce] xs):=Za hu5;clear hu3 hu4 hu5;have hd2:d.2.length<4096:=hf
 go_upto_region 9 with fail
 clear hwb;have p1:xs.length<=140737488355328:=by rw[hl.out];omega
 refine Ub (by kernel_rfl) 7 (fun W=>Qau wb.heap.size wb W) (fun i=>match i with
   | 4=>some (fun v W=>rBy (New wb.heap.size W) W [v] xs)
   | 5=>some (fun v W=>∃ Y cy,v=.agg #[.int .i64 (k:Int),.slice Y xs.length cy]/\rBy (New wb.heap.size W) W [.slice Y xs.length cy] xs)
   | 6=>some (fun v W=>∃ g Y cy,v=.slice (some ⟨g,0,none⟩) 1 1/\wb.heap.size<=g/\W.heap[g]? = some (.cells #[.int .i64 (k:Int),.slice Y xs.length cy] 47 (0,0))/\rBy (New wb.heap.size W) W [.slice Y xs.length cy] xs)
   | _=>none) (fun _=>none) (by decide) (by kernel_rfl) (by kernel_rfl) (Qb _ _).drew (fun w w' h hb=>h.trans (hb.mono h.size)) ?tst ?_
 case tst =>
  intro j φ x W W' hp hx hb
  match j,hp with
  | 4,hp=>cases hp;exact Zf.new hx (Qc _) hb
  | 5,hp =>
   cases hp;obtain⟨Y,cy,e1,e2⟩:=hx;exact⟨Y,cy,e1,Zf.new e2 (Qc _) hb⟩
  | 6,hp =>
   cases hp;obtain⟨g,Y,cy,e1,e2,e3,e4⟩:=hx;exact⟨g,Y,cy,e1,e2,(hb.block g (Pa.1 e3).1).trans e3,Zf.new e4 (Qc _) hb⟩
 simp only[Pt,Qx,Pu,Qr]
 repeat (first
  | (refine wpAs_skip rfl ?_;simp only[Qa,Zb,Zc,Zd])
  | (refine wpAs_pure (v := ?_) rfl rfl ?_ ?_;rotate_left;(intro W hC hE;clear hE;(have z1:=(hC.cell (p:=⟨w4.heap.size,1,none⟩) s3).trans s1);clear hC;go_simp;first | done | with_reducible rfl);simp only[Qa,Zb,Zc,Zd]))
 refine wpAs_act rfl rfl ?_ ?_
 ·intro W hC hE
  clear hE;refine does_enter (f:=80) (args:=#[.slice E xs.length ce]) ?_ ?_
  ·go_simp
  ·refine(Zaq _ xs W p1 (Zf.old hub.out hC)).mono ?_
   rintro e W' ⟨u,rfl,ho,hb⟩;exact⟨_,rfl,Zf.mono ho hC.size,hb⟩
 simp only[Qa,Zb,Zc,Zd,envAdd];intro x32;refine wpAs_act rfl rfl ?_ ?_
 ·intro W hC hE
  have h32:=hE.1 rfl;obtain⟨Y,cy,rfl,_⟩:=Zt h32;clear hE hC;have h32':=Za h32;clear h32
  go_simp
  exact⟨⟨Y,cy,rfl,h32'.out⟩,Qb _ _⟩
 simp only[Qa,Zb,Zc,Zd,envAdd];intro x33;refine wpAs_act rfl rfl ?_ ?_
 ·intro W hC hE
  obtain⟨Y,cy,rfl,h33⟩:=hE.1 rfl;have hsz':=hC.size;have h33':=Za (Zf.new h33 (Qc _) ((Qb W.heap.size W).alloc (Qc _) (.cells #[.int .i64 (k:Int),.slice Y xs.length cy] 47)));clear hE hC h33
  go_simp
  exact⟨⟨W.heap.size,rfl,hsz',Y,cy,Qas _ _,h33'.out⟩,(Qb _ _).alloc (Qc _) _⟩
 simp only[Qa,Zb,Zc,Zd,envAdd];intro x34;refine wpAs_end fun W hC hE=> ?_
 obtain⟨⟨g,Y,cy,rfl,hg,hg3,hy⟩,_⟩:=hE;have hownW:=Zx hx2.out (hbb.trans (hC.mono hbb.size));have hbkW:=(hC.block w4.heap.size s3).trans b1.out;obtain⟨_,z1,z2,z3⟩:=Zg hbkW;obtain⟨y1,y2,_,y4⟩:=Zg hg3;have hBW:=hB5.trans (hC.mono hB5.size);have hlW:w3.heap.size<=W.heap.size:=Qh hb4.size (by have:=b3.out;omega);have p2:d.2.length+1<=maxLen:=by unfold maxLen;omega
 have p3:(d.2.length+1)*32<=140737488355328:=by omega
 have hlc:=hy;replace hbkW:=Za hbkW;replace hg3:=Za hg3;replace hlc:=Za hlc;clear hy
 go_wp2_with (at_builtin;refine wpList_append_own _ rfl _ _ 24 rfl w3.heap.size 47 i0 (.agg #[.int .i64 0,.slice none 0 0]) 2 32 Tryz.underlying24 hi hz0 hz1 hz2 rfl (by decide) _ _ _ rfl hownW ⟨g,0,none⟩ 1 1 [.int .i64 (k:Int),.slice Y xs.length cy] rfl rfl ?d1 ?d2 p2 p3 hlW ?_)
 case d1=>exact Pv (cs:=#[.int .i64 (k:Int),.slice Y xs.length cy]) hg3.out
 case d2 =>
  intro u hu;simp at hu;rcases hu with rfl | rfl <;> rfl
 intro v' w1 hown' hgrow _;obtain⟨A5,c5,rfl,q1,q2,q3,q4⟩:=Ym hown';have p8:some w4.heap.size≠(Value.slice A4 d.2.length c4).ownBlock:=by rw[hx3.out];exact fun e=>absurd (hA4.out _ e.symm).1 (Nat.lt_irrefl _)
 have zz:=(hgrow.block w4.heap.size z3 p8).trans hbkW.out;obtain⟨y5,y6,y7,y8⟩:=Zg zz;obtain⟨W6,hW6,g6,gr6,gs6⟩:=Z9y (u:=.slice A5 (d.2.length+1) c5) zz;obtain⟨y9,y10,_,_⟩:=Zg g6;have hrow:∀ q,(Value.slice A4 d.2.length c4).ownBlock=some q->w3.heap.size<=q:=fun q e=>(hA4.out q (by rw[<- hx3.out];exact e)).2
 have hl3':w.heap.size+2<=w3.heap.size:=hl3;have fz:=((gr6.block (w.heap.size+1) (by have:=hgrow.size;omega) (fun e=>by simp only[Option.some.injEq] at e;omega)).trans ((hgrow.block (w.heap.size+1) (by omega) (fun e=>by have:=hrow _ e.symm;omega)).trans ((hC.block (w.heap.size+1) (by have:=b3.out;omega)).trans f6.out)))
 obtain⟨y11,y12,y13,_⟩:=Zg fz;obtain⟨W9,hW9,g9,gr9,gs9⟩:=Xu (u:=.slice R4 d.1.length r4) (v:=.slice A5 (d.2.length+1) c5) fz;obtain⟨k5,k6,_,_⟩:=Zg g9;have hB1:=hBW.grown hgrow hBW.size (fun q e=>by have:=hrow q e;omega);have hB6:=hB1.grown gr6 hB1.size (fun q e=>by cases e;omega);have hB9:=hB6.grown gr9 hB6.size (fun q e=>by cases e;omega)
 have hfin:=Za (show Dsk (New w.heap.size W9) W9 (.agg #[.slice R4 d.1.length r4,.slice A5 (d.2.length+1) c5]) (d.1,d.2++[((k:Int),xs)]) from by
  have hne1:=Zcl hown' zz (by decide);have hown6:=hown'.kept gr6 (.inr (Ne.symm hne1));have hne2:=Zcl hown6 fz (by decide);have hown9:=Zc0 (hown6.kept gr9 (.inr (Ne.symm hne2))) (show w.heap.size<=w3.heap.size by omega);have hsame:∀ b,w3.heap.size<=b->b<w4.heap.size->A4.map (·.block)≠some b->W9.heap[b]? = w4.heap[b]? := fun b h1 h2 h3=>by
   have hbW:b<W.heap.size:=by have:=b3.out;have:=hC.size;omega
   rw[gr9.block b (by have:=gs6;have:=hgrow.size;omega) (fun e=>by simp only[Option.some.injEq] at e;omega),gr6.block b (Qd hbW hgrow.size) (fun e=>by simp only[Option.some.injEq] at e;omega),
    hgrow.block b hbW (fun e=>h3 (by rw[<- hx3.out];exact e.symm)),hC.block b (by have:=b3.out;omega),hbb.block b h2]
  have hst9:∀ p v,Xx w3.heap.size A4 w4 p->w4.cell? p=some v->New w.heap.size W9 p/\W9.cell? p=some v:=fun p v hp hc=>by
   have hs:=hsame p.block hp.1.1 hp.1.2.1 hp.2;refine⟨⟨by have:=hp.1.1;omega,?_,(Pb hs).trans hp.1.2.2⟩,(Qp hs).trans hc⟩;have:=hp.1.2.1;have:=gs9;have:=gs6;have:=hgrow.size;have:=hC.size;have:=b3.out;omega
  refine⟨_,_,rfl,Uh Zf _ _ _ _ _ _ hst9 hx1.out,?_⟩;have e1:Vk ps++[.int .i64 (k:Int),.slice Y xs.length cy]=Vk (ps++[((k:Int),.slice Y xs.length cy)]):=by rw[Zmu];rfl
  rw[e1] at hown9;have hpl:ps.length=d.2.length:=by have:=hx2.out.1;rw[Ud] at this;omega
  have hlen9:(d.2++[((k:Int),xs)]).length=d.2.length+1:=by simp
  have h9:=Z0f hown9 hlen9 fun i p x hp hx=> ?_
  ·exact h9
  rcases Qs i ps.length with hi | hi
  ·rw[Qy hi] at hp
   rw[Qy (by omega)] at hx;obtain⟨c1,c2,c3⟩:=hx4.out i p x hp hx;exact⟨c1,Zf _ _ _ _ _ _ hst9 c2,c3⟩
  ·rw[Qt hi] at hp
   rw[Qt (by omega)] at hx;have hj0:i-ps.length=0:=by
    have:=(Qj.1 hp).1;simp at this;omega
   rw[hj0] at hp;rw[<- hpl,hj0] at hx;simp at hp hx;subst hp;subst hx;refine⟨rfl,Zf.mono (Zf.grown (Zf.grown (Zf.grown hlc.out hgrow (fun q e=> ?_)) gr6 (fun q e=> ?_)) gr9 (fun q e=> ?_)) (by have:=b3.out;omega),(show (-9223372036854775808:Int)<=(k:Int) by omega),(show (k:Int)<=9223372036854775807 by omega)⟩
   ·have:=(hA4.out q (by rw[<- hx3.out];exact e)).1
    have:=b3.out;omega
   ·simp only[Option.some.injEq] at e
    have:=b3.out;omega
   ·simp only[Option.some.injEq] at e
    have:=b3.out
    omega)
 clear hx1 hx2 hx4
 go_wp2_with fail
 exact Qar (v:=.tuple #[.agg #[.slice R4 d.1.length r4,.slice A5 (d.2.length+1) c5],.int .i64 0]) (by simp[results,Tryz.results126,go_sem,k5,k6]) rfl ⟨_,rfl,hfin.out,hB9⟩}
theorem Zod:Zbq.1.length=256:=Pw
theorem Zpy:Zbq.2.length=0:=rfl
theorem Z83 {k:Nat}(hk:k<256):Zbq.1[k]? = some (Pc 128 0):=by
 rw[show Zbq.1=Pc 256 (Pc 128 0) from rfl,List.getElem?_replicate,if_pos hk]
theorem Z4u:Zbs Zbq=true:=by
 refine Z1t Zod (by rw[Zpy];omega) ?_ rfl;rw[Qk];intro x hx;obtain⟨j,hj⟩:=Pd hx;have hjl:=(Qj.1 hj).1;rw[Zod] at hjl;rw[Z83 hjl] at hj;cases hj;exact decide_eq_true Pw
def wrD (d:Dk) (k:Nat) (xs:List UInt8):Dk:=(d.1,d.2++[((k:Int),xs)])
theorem Zbz (d:Dk) (k:Nat) (xs:List UInt8):(wrD d k xs).2.length=d.2.length+1:=by simp[wrD]
theorem Z0x {d:Dk}{k:Nat}{xs:List UInt8}(h:Zbs d=true) (hk:k<256) (hl:xs.length=128) (hf:d.2.length<4096):Zbs (wrD d k xs)=true:=by{
 obtain⟨h1,h2,h3,h4⟩:=Zfd h;refine Z1t h1 (by rw[Zbz];omega) ?_ ?_
 ·rw[Qk]
  intro x hx;obtain⟨j,hj⟩:=Pd hx;exact decide_eq_true (h3 j x hj)
 ·rw[Qk]
  intro x hx;rcases Px.1 hx with hx | hx
  ·obtain⟨j,hj⟩:=Pd hx
   obtain⟨a,b,c⟩:=h4 j x hj;exact Z2a a b c
  ·obtain rfl:=List.mem_singleton.1 hx
   exact Z2a (show (0:Int)<=(k:Int) by omega) (show (k:Int)<256 by omega) hl}
theorem Xs {d:Dk}{k:Nat}{xs:List UInt8}:Zz (wrD d k xs) k=xs:=by
 simp[wrD,Zz,Zfi]
theorem Z4 {d:Dk}{k j:Nat}{xs:List UInt8}(h:j≠k):Zz (wrD d k xs) j=Zz d j:=by
 have:¬ (k:Int)=j:=by omega
 simp[wrD,Zz,Zfi,this]
theorem Z4e (v u:Qan) (d:Dk) (k:Nat) (xs:List UInt8) (w:Qam) (h:Dsk (Old w) w v d) (hu:rBy (Old w) w [u] xs) (hm:Zbs d=true) (hk:k<256) (hl:xs.length=128) (hf:d.2.length<4096) :
  Qat Tryz.prog 126 #[v,.int .i64 k,u] w fun e w'=>∃ x,e=.returned (.tuple #[x,.int .i64 0])/\Dsk (New w.heap.size w') w' x (wrD d k xs)/\Qau w.heap.size w w':=Z4l v u d k xs w h hu hm hk hl hf
def Zc8:Dk:=([],[])
theorem Ycp (w:Qam):rBy (Old w) w [.slice none 0 0] []:=⟨none,0,rfl,by simp,by omega,fun i x h=>by simp at h⟩
def wrR (d:Dk) (n:Int) (xs:List UInt8):Dk:=if Zns d n xs=0 then wrD d n.toNat xs else Zc8
theorem Zvl {d:Dk}{n:Int}{xs:List UInt8}(h:Zns d n xs=0) (_:Zbs d=true\/True):Zbs d=true/\Vc n=true/\xs.length=128/\d.2.length<4096:=by{
 unfold Zns at h;cases h1:Zbs d with
 | false=>rw[h1] at h;simp at h
 | true =>
  obtain⟨_,h2,_⟩:=Zfd h1;rw[h1] at h;cases ht:Vc n with
  | false=>rw[ht] at h;simp at h
  | true =>
   rw[ht] at h;by_cases h8:xs.length=128
   ·by_cases h9:d.2.length=4096
    ·simp[h8,h9] at h
    ·exact⟨rfl,rfl,h8,by omega⟩
   ·simp[h8] at h}
theorem Dsk.grown {w w':Qam}{lo:Nat}{v:Qan}{d:Dk}{row:Option Nat}(h:Dsk (New lo w) w v d) (hg:w.grownBy w' row) (hr:∀ q,row=some q->q<lo):Dsk (New lo w') w' v d:=by
 obtain⟨a,b,e,h1,h2⟩:=h;exact⟨a,b,e,(Uh Zf).grown h1 hg hr,(Uh Zxp).grown h2 hg hr⟩
theorem Zly (lo:Nat) (w:Qam):Dsk (New lo w) w (.agg #[.slice none 0 0,.slice none 0 0]) Zc8 :=
 ⟨_,_,rfl,⟨none,0,rfl,by simp[Zc8],by omega,fun i x h=>by simp[Zc8] at h⟩,⟨none,0,rfl,by simp[Zc8],by omega,fun i x h=>by simp[Zc8] at h⟩⟩
theorem Zpu (v u:Qan) (d:Dk) (n:Int) (xs:List UInt8) (w:Qam) (h:Dsk (Old w) w v d) (hu:rBy (Old w) w [u] xs) :
  Qat Tryz.prog 126 #[v,.int .i64 n,u] w fun e w'=>∃ A c B f,e=.returned (.tuple #[.agg #[.slice A (wrR d n xs).1.length c,.slice B (wrR d n xs).2.length f],.int .i64 (Zns d n xs)])/\Dsk (New w.heap.size w') w' (.agg #[.slice A (wrR d n xs).1.length c,.slice B (wrR d n xs).2.length f]) (wrR d n xs)/\Qau w.heap.size w w':=by{
 by_cases he:Zns d n xs=0
 ·obtain⟨hm,ht,h8,h9⟩:=Zvl he (.inr trivial)
  obtain⟨k,rfl,hk⟩:=Zlc ht;refine(Z4e v u d k xs w h hu hm hk h8 h9).mono ?_;rintro e w' ⟨x,rfl,hx,hb⟩;have e1:wrR d (k:Int) xs=wrD d k xs:=by simp[wrR,he]
  obtain⟨A,c,B,f,rfl,_⟩:=id hx.open;rw[e1,he];exact⟨A,c,B,f,rfl,hx,hb⟩
 ·refine(Zxa v u d n xs w h hu he).mono ?_
  rintro e w' ⟨rfl,hb⟩;have e1:wrR d n xs=Zc8:=by simp[wrR,he]
  rw[e1];exact⟨none,0,none,0,rfl,Zly _ _,hb⟩}
theorem Z80 {d:Dk}{k:Nat}{xs:List UInt8}(h:Zns d (k:Int) xs=0):wrR d (k:Int) xs=wrD d k xs:=by simp[wrR,h]
theorem Zzb {P:Program}{w:Qam}(base:Nat) (t ty e:Qaq) (i:TypeInfo) (z:Qan) (size bytes:Nat) (ht:P.underlying t=some (.slice e)) (hi:P.info? e=some i) (hz:i.zero=some z)
  (hsize:i.size=size) (hby:i.bytes=bytes) (hzs:z.cells.size=size) (hsz:0<size)
  (v:Qan) (n:Nat) (xs:List Qan) (hown:w.ownsRow base e size v n xs)
  (A:Option Qao) (m c:Nat) (news:List Qan) (hl:news.length=m*size) (hnews:∀ j u,news[j]? = some u->∃ ad,A=some ad/\w.cell? (ad.add j)=some u) (h1:∀ u∈news,u.oneCell'=true)
  (h63:n+m<=maxLen) (hbytes:(n+m)*bytes<=140737488355328) (hbase:base<=w.heap.size) :
  ∃ v' w',(Ql #[t,t] ty #[v,.slice A m c]).run P w=.ok v' w'/\w'.ownsRow base e size v' (n+m) (xs++news)/\w.grownBy w' v.ownBlock/\Qau base w w':=by{
 rcases A with _ | ad
 ·have hx:news=[]:=by
   cases news with
   | nil=>rfl
   | cons a r =>
    obtain⟨_,e,_⟩:=hnews 0 a rfl;cases e
  subst hx;obtain rfl:m=0:=by
   rcases Pe m with h | h
   ·exact h
   ·have:=Nat.mul_pos h hsz
    simp at hl;omega
  refine⟨v,w,?_,by simpa using hown,Xb _ _,Qb _ _⟩;rcases hown.2 with ⟨rfl,rfl⟩ | ⟨g,cap,cur,rfl,_,_,hnc,_⟩
  ·simp[Ql,run_underlying ht,sizeOf,typeInfo,hi,Pf,Pg]
  ·simp[Ql,run_underlying ht,sizeOf,typeInfo,hi,Pf,Pg,hnc,storeCells]
 ·obtain⟨v',w',hr,h2,h3,_,_⟩:=run_append_own_at (P:=P) w base t ty e i z size bytes ht hi hz hsize hby hzs hsz v n xs hown ad m c news hl (fun j u hj=>by
   obtain⟨_,e,h⟩:=hnews j u hj;cases e
   exact h) h1 h63 hbytes hbase
  exact⟨v',w',hr,h2,h3,(Qb base w).grown h3 hbase (fun k hk=>(hown.lt k hk).1)⟩}
def rdX (d:Dk) (n:Int):List UInt8:=if Uw d n=0 then Zz d n.toNat else []
theorem Zdl {P:Program}{w:Qam}(base:Nat) (t ty e:Qaq) (i:TypeInfo) (z:Qan) (size bytes:Nat) (ht:P.underlying t=some (.slice e)) (hi:P.info? e=some i) (hz:i.zero=some z)
  (hsize:i.size=size) (hby:i.bytes=bytes) (hzs:z.cells.size=size) (hsz:0<size)
  (v:Qan) (n:Nat) (xs:List Qan) (hown:w.ownsRow base e size v n xs)
  (ad:Qao) (m c:Nat) (news:List Qan) (hl:news.length=m*size) (hnews:∀ j u,news[j]? = some u->w.cell? (ad.add j)=some u) (h1:∀ u∈news,u.oneCell'=true)
  (h63:n+m<=maxLen) (hbytes:(n+m)*bytes<=140737488355328) (hbase:base<=w.heap.size) :
  ∃ v' w',(Ql #[t,t] ty #[v,.slice (some ad) m c]).run P w=.ok v' w'/\w'.ownsRow base e size v' (n+m) (xs++news)/\w.grownBy w' v.ownBlock/\Qau base w w'/\(v'.ownBlock=v.ownBlock\/v'.ownBlock=some w.heap.size):=by
 obtain⟨v',w',hr,h2,h3,_,h5⟩:=run_append_own_at (P:=P) w base t ty e i z size bytes ht hi hz hsize hby hzs hsz v n xs hown ad m c news hl hnews h1 h63 hbytes hbase;exact⟨v',w',hr,h2,h3,(Qb base w).grown h3 hbase (fun k hk=>(hown.lt k hk).1),h5⟩
theorem Xx.below {lo:Nat}{A:Option Qao}{w w':Qam}{p:Qao}{v:Qan}(hb:Qau w.heap.size w w') (hp:Xx lo A w p) (hc:w.cell? p=some v):Xx lo A w' p/\w'.cell? p=some v :=
 ⟨⟨⟨hp.1.1,Qd hp.1.2.1 hb.size,(hb.frozen hp.1.2.1).trans hp.1.2.2⟩,hp.2⟩,(hb.cell hp.1.2.1).trans hc⟩
theorem Xx.grown {lo:Nat}{A:Option Qao}{w w':Qam}{p:Qao}{v:Qan}{row:Option Nat}(hg:w.grownBy w' row) (hr:∀ q,row=some q->q<lo) (hp:Xx lo A w p) (hc:w.cell? p=some v):Xx lo A w' p/\w'.cell? p=some v:=by
 have hb:=hg.block p.block hp.1.2.1 (fun e=>by have:=hr _ e.symm;have:=hp.1.1;omega);exact⟨⟨⟨hp.1.1,Qd hp.1.2.1 hg.size,(Pb hb).trans hp.1.2.2⟩,hp.2⟩,(Qp hb).trans hc⟩
def Yi {α:Type}(R:Rel α) (size:Nat) (t:Qaq) (lo:Nat) (w:Qam) (A:Option Qao) (c:Nat) (xs:List α):Prop :=
 ∃ cs,w.ownsRow lo t size (.slice A xs.length c) xs.length cs/\∀ i x,xs[i]? = some x->∃ vs,vs.length=size/\(∀ j u,vs[j]? = some u->cs[i*size+j]? = some u)/\R (Xx lo A w) w vs x
section
variable {α : Type}{R : Rel α}{size : Nat}{t : Qaq}{lo : Nat}{w w' : Qam}{A : Option Qao}{c : Nat}{xs : List α}
theorem Yi.nil (R:Rel α) (size:Nat) (t:Qaq) (lo:Nat) (w:Qam):Yi R size t lo w none 0 []:=⟨[],Qz _ _ _ _,fun i x h=>by simp at h⟩
theorem Yi.below (hR:Zew R) (h:Yi R size t lo w A c xs) (hb:Qau w.heap.size w w'):Yi R size t lo w' A c xs:=by
 obtain⟨cs,h1,h2⟩:=h;refine⟨cs,Zx h1 hb,fun i x hi=> ?_⟩;obtain⟨vs,e1,e2,e3⟩:=h2 i x hi;exact⟨vs,e1,e2,hR _ _ _ _ _ _ (fun p v hp hc=>Xx.below hb hp hc) e3⟩
theorem Yi.grown (hR:Zew R) (h:Yi R size t lo w A c xs){row:Option Nat}(hg:w.grownBy w' row) (hr:∀ q,row=some q->q<lo):Yi R size t lo w' A c xs:=by{
 obtain⟨cs,h1,h2⟩:=h;have hk:(Value.slice A xs.length c).ownBlock=none\/(Value.slice A xs.length c).ownBlock≠row:=by
  rcases row with _ | q
  ·by_cases e:(Value.slice A xs.length c).ownBlock=none
   ·exact .inl e
   ·exact .inr e
  ·refine .inr fun e=> ?_
   have:=(h1.lt q e).1;have:=hr q rfl;omega
 have h1':w'.ownsRow lo t size (.slice A xs.length c) xs.length cs:=h1.kept hg hk;refine⟨cs,h1',fun i x hi=> ?_⟩;obtain⟨vs,e1,e2,e3⟩:=h2 i x hi;exact⟨vs,e1,e2,hR _ _ _ _ _ _ (fun p v hp hc=>Xx.grown hg hr hp hc) e3⟩}
theorem Yi.low (hR:Zew R) (h:Yi R size t lo w A c xs){lo':Nat}(hl:lo'<=lo):Yi R size t lo' w A c xs:=by
 obtain⟨cs,h1,h2⟩:=h;refine⟨cs,Zc0 h1 hl,fun i x hi=> ?_⟩;obtain⟨vs,e1,e2,e3⟩:=h2 i x hi;exact⟨vs,e1,e2,hR _ _ _ _ _ _ (fun p v hp hc=>⟨⟨⟨Qh hl hp.1.1,hp.1.2⟩,hp.2⟩,hc⟩) e3⟩
theorem Yi.rel (hR:Zew R) (h:Yi R size t lo w A c xs):rSl size R (New lo w) w [.slice A xs.length c] xs:=by
 obtain⟨cs,h1,h2⟩:=h;refine Zte h1 rfl fun i x hi=> ?_
 obtain⟨vs,e1,e2,e3⟩:=h2 i x hi;exact⟨vs,e1,e2,hR _ _ _ _ _ _ (fun p v hp hc=>⟨hp.1,hc⟩) e3⟩
theorem Yi.form (h:Yi R size t lo w A c xs):xs.length<=c/\c<=9223372036854775807/\(Value.slice A xs.length c).ownBlock=A.map (·.block)/\(0<xs.length->∃ ad,A=some ad):=by
 obtain⟨cs,h1,_⟩:=h;obtain⟨A',c',e,h2,h3,h4,h5⟩:=Ym h1;cases e;exact⟨h2,h3,h4,h5⟩
theorem Yi.push {P:Program}(hR:Zew R) (h:Yi R size t lo w A c xs) (st ty:Qaq) (i:TypeInfo) (z:Qan) (bytes:Nat) (ht:P.underlying st=some (.slice t)) (hi:P.info? t=some i) (hz:i.zero=some z)
  (hsize:i.size=size) (hby:i.bytes=bytes) (hzs:z.cells.size=size) (hsz:0<size) (ad:Qao) (m:Nat) (news:List Qan) (x:α) (hl:news.length=size) (hnews:∀ j u,news[j]? = some u->w.cell? (ad.add j)=some u) (h1:∀ u∈news,u.oneCell'=true)
  (h63:xs.length+1<=maxLen) (hbytes:(xs.length+1)*bytes<=140737488355328) (hbase:lo<=w.heap.size) (hx:R (Xx lo A w) w news x) :
  ∃ A' c' w',(Ql #[st,st] ty #[.slice A xs.length c,.slice (some ad) 1 m]).run P w=.ok (.slice A' (xs.length+1) c') w'/\Yi R size t lo w' A' c' (xs++[x])/\w.grownBy w' (A.map (·.block))/\Qau lo w w':=by{
 obtain⟨cs,ho,hcs⟩:=h;obtain⟨A1,c1,e,_,_,e4,_⟩:=Ym ho;cases e;obtain⟨v',w',hr,o1,g1,b1,k1⟩:=Zdl (P:=P) (w:=w) lo st ty t i z size bytes ht hi hz hsize hby hzs hsz _ _ cs ho ad 1 m news (by omega) hnews h1 h63 hbytes hbase;obtain⟨A2,c2,rfl,_,_,e5,_⟩:=Ym o1;rw[e4] at g1 k1;rw[e5] at k1;have mp:∀ p v,Xx lo A w p->w.cell? p=some v->Xx lo A2 w' p/\w'.cell? p=some v:=fun p v hp hc=>by
  have hb:=g1.block p.block hp.1.2.1 (fun e=>hp.2 e.symm);refine⟨⟨⟨hp.1.1,Qd hp.1.2.1 g1.size,(Pb hb).trans hp.1.2.2⟩,fun e=> ?_⟩,(Qp hb).trans hc⟩;rcases k1 with k | k
  ·exact hp.2 (k ▸ e)
  ·rw[k] at e
   simp only[Option.some.injEq] at e;have:=hp.1.2.1;omega
 refine⟨A2,c2,w',hr,⟨cs++news,by rw[Qi];exact o1,fun j y hj=> ?_⟩,g1,b1⟩;have hcl:cs.length=xs.length*size:=ho.1;rcases Qs j xs.length with hjl | hjl
 ·rw[Qy hjl] at hj
  obtain⟨vs,e1,e2,e3⟩:=hcs j y hj;refine⟨vs,e1,fun k u hk=> ?_,hR _ _ _ _ _ _ mp e3⟩;have hcu:=e2 k u hk;rw[Qy (Qj.1 hcu).1];exact hcu
 ·rw[Qt hjl] at hj
  have hj0:j=xs.length:=by
   have:=(Qj.1 hj).1;simp at this;omega
  subst hj0;simp at hj;subst hj;refine⟨news,hl,fun k u hk=> ?_,hR _ _ _ _ _ _ mp hx⟩;rw[Qt (by omega),hcl,Nat.add_sub_cancel_left];exact hk}
end
theorem Ux {a b c:Qam}{row:Option Nat}(h:a.grownBy b row) (h':Qau a.heap.size b c):a.grownBy c row :=
 ⟨h'.os.trans h.os,h'.tape.trans h.tape,h'.output.trans h.output,Qh h.size h'.size,fun k hk hn=>(h'.block k hk).trans (h.block k hk hn)⟩
theorem Yi.but {α:Type}{R:Rel α}{size:Nat}{t:Qaq}{lo lo':Nat}{w w':Qam}{A:Option Qao}{c:Nat}{xs:List α}(h:Yi R size t lo w A c xs){p:Qao}(hl:w.heap.size<=lo') (h2:lo<=lo') (hp:New lo' w' p):Xx lo A w' p :=
 ⟨⟨Qh h2 hp.1,hp.2⟩,fun e=>by
  obtain⟨cs,hcs,_⟩:=h;obtain⟨_,_,e0,_,_,e4,_⟩:=Ym hcs;cases e0;have:=(hcs.lt _ (by rw[e4];exact e)).2;have:=hp.1
  omega⟩
theorem Zhb (lo:Nat) (w:Qam):rBy (New lo w) w [.slice none 0 0] []:=⟨none,0,rfl,by simp,by omega,fun i x h=>by simp at h⟩
theorem Z4x (v:Qan) (d:Dk) (n:Int) (w:Qam) (h:Dsk (Old w) w v d) :
  Qat Tryz.prog 67 #[v,.int .i64 n] w fun e w'=>∃ u,e=.returned (.tuple #[u,.int .i64 (Uw d n)])/\rBy (New w.heap.size w') w' [u] (rdX d n)/\Qau w.heap.size w w':=by{
 by_cases hn:Zbs d=true/\Vc n=true
 ·obtain⟨hm,ht⟩:=hn
  have e0:Uw d n=0:=by simp[Uw,hm,ht]
  obtain⟨k,rfl,hk⟩:=Zlc ht;refine(Z8x v d k w h hm hk).mono ?_;rintro e w' ⟨u,rfl,hu,hb⟩;have e1:rdX d (k:Int)=Zz d k:=by simp[rdX,e0]
  rw[e0,e1];exact⟨u,rfl,hu,hb⟩
 ·refine(Z4g v d n w h hn).mono ?_
  rintro e w' ⟨rfl,hb⟩;have e0:Uw d n≠0:=by
   unfold Uw;cases h1:Zbs d <;> cases h2:Vc n <;> simp_all
  have e1:rdX d n=[]:=by simp[rdX,e0]
  rw[e1];exact⟨_,rfl,Zhb _ _,hb⟩}
def Zep (F:Qam->Prop):Prop:=∀ w w',F w->Qau w.heap.size w w'->F w'
def Bag (w:Qam) (Fs:List (Qam->Prop)):Prop:=∀ F∈Fs,F w/\Zep F
section
variable {w w' : Qam}{Fs : List (Qam -> Prop)}{F : Qam -> Prop}
theorem Bag.nil (w:Qam):Bag w []:=fun F h=>by cases h
theorem Bag.below (h:Bag w Fs) (hb:Qau w.heap.size w w'):Bag w' Fs:=fun F hF=>⟨(h F hF).2 w w' (h F hF).1 hb,(h F hF).2⟩
theorem Bag.add (h:Bag w Fs) (hF:F w) (hk:Zep F):Bag w (F::Fs):=fun G hG=>by
 rcases Ph.1 hG with h1 | h1
 ·rw[h1]
  exact⟨hF,hk⟩
 ·exact h G h1
theorem Bag.at (h:Bag w Fs) (i:Nat) (hi:Fs[i]? = some F):F w:=(h F (Py hi)).1
end
def Ycx (g:Nat) (a b:Qan):Qam->Prop:=fun w=>w.cell? ⟨g,0,none⟩=some a/\w.cell? ⟨g,1,none⟩=some b/\g<w.heap.size
theorem Zz5 (g:Nat) (a b:Qan):Zep (Ycx g a b):=fun _ _ h hb=>⟨(hb.cell (p:=⟨g,0,none⟩) h.2.2).trans h.1,(hb.cell (p:=⟨g,1,none⟩) h.2.2).trans h.2.1,Qd h.2.2 hb.size⟩
theorem Zn2 (A:Option Qao) (len cap m k:Nat) (xs:List UInt8) (hlen:xs.length=len) (hm0:0<m) (hm:m<=4) (hle:k+m<=len) (hlc:len<=cap) (hcap:cap<=9223372036854775807) (w:Qam) (hx:Byt w w.heap.size A xs) :
  Qat Tryz.prog 170 #[.slice A len cap,.int .i64 k,.int .i64 m] w fun e W'=>e=.returned (.tuple #[.int .u32 (num ((xs.drop k).take m)),.int .i64 0])/\Qau w.heap.size w W':=by
 subst hlen;obtain⟨ad,rfl,hp⟩:=hx.part hle hm0;have hl:((xs.drop k).take m).length=m:=by simp;omega
 obtain⟨ad',e,hb,hc⟩:=hp (by omega);cases e;exact callsIn_wide.1 (Zx7 Fence.wide 3 trivial trivial trivial rfl (Qc _) ad xs.length cap m k _ hl hm0 hm hle hlc hcap w (by rw[Zh] at hb;exact hb) hc)
theorem Zoi (A:Option Qao) (len cap:Nat) (k:Int) (m:Nat) (hm:m<=4) (hl:len<=9223372036854775807) (h:k<0\/(len:Int)-m<k) (w:Qam) :
  Qat Tryz.prog 170 #[.slice A len cap,.int .i64 k,.int .i64 m] w fun e W'=>e=.returned (.tuple #[.int .u32 0,.int .i64 8])/\w=W':=by{
 by_cases h':k<0
 ·go_enter Tryz.func170,Tryz.ntmps170
  go_wp2
  go_ret2
  exact⟨rfl,rfl⟩
 ·have h2:(len:Int)-m<k:=by omega
  go_enter Tryz.func170,Tryz.ntmps170
  go_wp2
  go_ret2
  exact⟨rfl,rfl⟩}
theorem Z1m (A:Option Qao) (len cap k:Nat) (xs:List UInt8) (hlen:Hid (xs.length=len)) (hle:k+2<=len) (hlc:len<=cap) (hcap:cap<=9223372036854775807) (w:Qam) (hx:Byt w w.heap.size A xs) :
  Qat Tryz.prog 191 #[.slice A len cap,.int .i64 k] w fun e W'=>e=.returned (.tuple #[.int .i64 (num ((xs.drop k).take 2)),.int .i64 0])/\Qau w.heap.size w W':=by{
 have h0:=Zg1 ((xs.drop k).take 2);have h1:=Z1r ((xs.drop k).take 2);have hl:((xs.drop k).take 2).length=2:=by have:=hlen.out;simp;omega
 rw[hl] at h1;simp at h1;clear hl
 go_enter Tryz.func191,Tryz.ntmps191
 go_wp2_with fail
 refine(Zn2 A len cap 2 k xs hlen.out (by omega) (by omega) hle hlc hcap _ hx).mono ?_;rintro e w1 ⟨rfl,hb⟩
 go_wp2
 go_ret2
 exact⟨rfl,hb⟩}
theorem Zy1 (A:Option Qao) (len cap:Nat) (k:Int) (hl:len<=9223372036854775807) (h:k<0\/(len:Int)-2<k) (w:Qam) :
  Qat Tryz.prog 191 #[.slice A len cap,.int .i64 k] w fun e W'=>e=.returned (.tuple #[.int .i64 0,.int .i64 8])/\w=W':=by{
 go_enter Tryz.func191,Tryz.ntmps191
 go_wp2_with fail
 refine(Zoi A len cap k 2 (by omega) hl h _).mono ?_;rintro e w1 ⟨rfl,rfl⟩
 go_wp2
 go_ret2
 exact⟨rfl,rfl⟩}
theorem Zg4 (A:Option Qao) (len cap k:Nat) (xs:List UInt8) (hlen:Hid (xs.length=len)) (hle:k+4<=len) (hlc:len<=cap) (hcap:cap<=9223372036854775807) (w:Qam) (hx:Byt w w.heap.size A xs) :
  Qat Tryz.prog 146 #[.slice A len cap,.int .i64 k] w fun e W'=>e=.returned (.tuple #[.int .u32 (num ((xs.drop k).take 4)),.int .i64 0])/\Qau w.heap.size w W':=by{
 go_enter Tryz.func146,Tryz.ntmps146
 go_wp2_with fail
 refine(Zn2 A len cap 4 k xs hlen.out (by omega) (by omega) hle hlc hcap _ hx).mono ?_;rintro e w1 ⟨rfl,hb⟩
 go_wp2
 go_ret2
 exact⟨rfl,hb⟩}
theorem Zwu (A:Option Qao) (len cap:Nat) (k:Int) (hl:len<=9223372036854775807) (h:k<0\/(len:Int)-4<k) (w:Qam) :
  Qat Tryz.prog 146 #[.slice A len cap,.int .i64 k] w fun e W'=>e=.returned (.tuple #[.int .u32 0,.int .i64 8])/\w=W':=by{
 go_enter Tryz.func146,Tryz.ntmps146
 go_wp2_with fail
 refine(Zoi A len cap k 4 (by omega) hl h _).mono ?_;rintro e w1 ⟨rfl,rfl⟩
 go_wp2
 go_ret2
 exact⟨rfl,rfl⟩}
def tb (n:Int):List UInt8:=if 0<=n/\n<65536 then le 2 n else []
def ge (m:Nat) (len:Nat) (k:Int):Int:=if 0<=k/\k+m<=len then 0 else 8
def gv (m:Nat) (xs:List UInt8) (k:Int):Int:=if 0<=k/\k+m<=xs.length then num ((xs.drop k.toNat).take m) else 0
theorem Zoh {m len:Nat}{k:Int}(h:0<=k/\k+m<=len):ge m len k=0:=if_pos h
theorem Yao {m len:Nat}{k:Int}(h:¬ (0<=k/\k+m<=len)):ge m len k=8:=if_neg h
theorem Zos {m:Nat}{xs:List UInt8}{k:Int}(h:0<=k/\k+m<=xs.length):gv m xs k=num ((xs.drop k.toNat).take m):=if_pos h
theorem Z79 {m:Nat}{xs:List UInt8}{k:Int}(h:¬ (0<=k/\k+m<=xs.length)):gv m xs k=0:=if_neg h
theorem Zob (m:Nat) (xs:List UInt8) (k:Int):0<=gv m xs k/\gv m xs k<(256:Int) ^ m:=by{
 by_cases h:0<=k/\k+m<=xs.length
 ·rw[Zos h]
  have hl:((xs.drop k.toNat).take m).length=m:=by simp;omega
  have h1:=Z1r ((xs.drop k.toNat).take m);rw[hl] at h1;exact⟨Zg1 _,h1⟩
 ·rw[Z79 h]
  exact⟨by omega,Int.pow_pos (by omega)⟩}
theorem Zwz (A:Option Qao) (len cap:Nat) (k:Int) (xs:List UInt8) (hlen:Hid (xs.length=len)) (hlc:len<=cap) (hcap:cap<=9223372036854775807) (w:Qam) (hx:Byt w w.heap.size A xs) :
  Qat Tryz.prog 191 #[.slice A len cap,.int .i64 k] w fun e W'=>e=.returned (.tuple #[.int .i64 (gv 2 xs k),.int .i64 (ge 2 len k)])/\Qau w.heap.size w W':=by{
 obtain rfl:=hlen.out;by_cases h:0<=k/\k+(2:Nat)<=xs.length
 ·rw[Zoh h,Zos h]
  obtain⟨n,rfl⟩:=Int.eq_ofNat_of_zero_le h.1;rw[Int.toNat_natCast];exact Z1m A _ cap n xs hlen (by omega) hlc hcap w hx
 ·rw[Yao h,Z79 h]
  exact(Zy1 A xs.length cap k (by omega) (by omega) w).mono fun e w' ⟨he,hw⟩=>⟨he,hw ▸ Qb _ _⟩}
theorem Zjn (A:Option Qao) (len cap:Nat) (k:Int) (xs:List UInt8) (hlen:Hid (xs.length=len)) (hlc:len<=cap) (hcap:cap<=9223372036854775807) (w:Qam) (hx:Byt w w.heap.size A xs) :
  Qat Tryz.prog 146 #[.slice A len cap,.int .i64 k] w fun e W'=>e=.returned (.tuple #[.int .u32 (gv 4 xs k),.int .i64 (ge 4 len k)])/\Qau w.heap.size w W':=by{
 obtain rfl:=hlen.out;by_cases h:0<=k/\k+(4:Nat)<=xs.length
 ·rw[Zoh h,Zos h]
  obtain⟨n,rfl⟩:=Int.eq_ofNat_of_zero_le h.1;rw[Int.toNat_natCast];exact Zg4 A _ cap n xs hlen (by omega) hlc hcap w hx
 ·rw[Yao h,Z79 h]
  exact(Zwu A xs.length cap k (by omega) (by omega) w).mono fun e w' ⟨he,hw⟩=>⟨he,hw ▸ Qb _ _⟩}
def Zo9 (xs:List UInt8):List UInt8:=xs++Zw (124-xs.length)
def Zdo (xs:List UInt8):List UInt8:=le 4 (crc (Zo9 xs):Nat)++Zo9 xs
theorem Zj1 {xs:List UInt8}(h:xs.length<=124):(Zo9 xs).length=124:=by simp[Zo9,Zw];omega
theorem Zhl {xs:List UInt8}(h:xs.length<=124):(Zdo xs).length=128:=by simp[Zdo,Yq,Zj1 h]
theorem Zvv {xs:List UInt8}(h:xs.length<=124):splice (Zw 128) 4 xs=Zw 4++Zo9 xs:=by
 simp only[splice,Zw,Zo9,List.take_replicate,List.drop_replicate];rw[show min 4 128=4 from rfl,show 128-(4+xs.length)=124-xs.length by omega]
theorem Zrr (ys zs:List UInt8) (h:ys.length=4):splice (Zw 4++zs) 0 ys=ys++zs:=by
 simp only[splice,Qx,Pi,Qv,h];rw[Q5 (by simp[Zw])]
theorem Z9v (A:Option Qao) (len cap:Nat) (hl:124<len) (w:Qam) :
  Qat Tryz.prog 124 #[.slice A len cap] w fun e w'=>e=.returned (.tuple #[.slice none 0 0,.int .i64 3])/\w=w':=by{
 go_enter Tryz.func124,Tryz.ntmps124
 go_wp2
 go_ret2
 exact⟨rfl,rfl⟩}
theorem Z7v (A:Option Qao) (len cap:Nat) (xs:List UInt8) (hlen:Hid (xs.length=len)) (hl:len<=124) (_:len<=cap) (_:cap<=9223372036854775807) (w:Qam) (hx:Byt w w.heap.size A xs) :
  Qat Tryz.prog 124 #[.slice A len cap] w fun e w'=>e=.returned (.tuple #[.slice (some ⟨w.heap.size,0,none⟩) 128 128,.int .i64 0])/\Row w' w.heap.size (Zdo xs)/\Qau w.heap.size w w':=by{
 have hmk:(Instr.makeSlice 27 (.int .i64 128) (.int .i64 128)).run Tryz.prog w=.ok (.slice (some ⟨w.heap.size,0,none⟩) 128 128) (w.alloc (.cells (Znv (Zw 128)) 5)):=Zg6 128 (by omega) w;have hB1:=Zdw (Qb w.heap.size w) (.cells (Znv (Zw 128)) 5);obtain⟨w2,hc2,hR2,hB2⟩:=Zuh 3 (off:=4) (dLen:=124) (dCap:=124) (sLen:=len) (sCap:=cap) (Row.new w (Zw 128)) (hx.below hB1) hlen.out (by simp[Zw];omega);rw[Qm hl,Qf (by rw[hlen.out];omega),Zvv (by rw[hlen.out];omega)] at hR2;rw[Qm hl] at hc2;have hp:=hR2.tail 4 (by simp[Zw]);rw[Q5 (by simp[Zw])] at hp;have hB:=hB1.trans hB2;have hpl:Hid ((Zo9 xs).length=124):=Za (Zj1 (by rw[hlen.out];omega));have HR2:=Za hR2;clear hR2 hx hB1 hB2
 go_enter Tryz.func124,Tryz.ntmps124
 go_wp2_with fail
 refine(Zx2 _ _ 124 _ hpl (by omega) (by omega) _ hp).mono ?_;rintro e w3 ⟨rfl,hb3⟩
 go_wp2_with fail
 refine(Zum _ (by omega) (by have:=Zu5 (Zo9 xs);omega) _).mono ?_;rintro e w4 ⟨F,rfl,hf,hb4⟩;have hb24:=Z3t hb3 hb4;obtain⟨w5,hc5,hR5,hB5⟩:=Zuh 3 (off:=0) (dLen:=128) (dCap:=128) (sLen:=4) (sCap:=4) (HR2.out.after hb24) hf (Yq 4 _) (by simp[Zw]);rw[show min 4 128=4 from rfl] at hc5 hR5;rw[Qf (by rw[Yq];omega),Zrr _ _ (Yq 4 _)] at hR5;have hBe:=(hB.trans (hb24.mono hB.size)).trans hB5;have HR5:Hid (Row w5 w.heap.size (Zdo xs)):=Za hR5;clear hR5 HR2 hp hb3 hb4 hb24 hB hB5 hf hmk hc2
 go_wp2_with fail
 go_ret2
 exact⟨rfl,HR5.out,hBe⟩}
theorem Z9j (A:Option Qao) (len cap:Nat) (hl:len≠128) (w:Qam) :
  Qat Tryz.prog 113 #[.slice A len cap] w fun e w'=>e=.returned (.tuple #[.slice none 0 0,.int .i64 3])/\w=w':=by{
 go_enter Tryz.func113,Tryz.ntmps113
 go_wp2
 go_ret2
 exact⟨rfl,rfl⟩}
def Zu6 (xs:List UInt8):Prop:=num (xs.take 4)=(crc (xs.drop 4):Nat)
theorem Z3e (ad:Qao) (cap:Nat) (xs:List UInt8) (hlen:Hid (xs.length=128)) (hlc:128<=cap) (hcap:cap<=9223372036854775807) (w:Qam) (hx:Byt w w.heap.size (some ad) xs) (hn:¬ Zu6 xs) :
  Qat Tryz.prog 113 #[.slice (some ad) 128 cap] w fun e w'=>e=.returned (.tuple #[.slice none 0 0,.int .i64 8])/\Qau w.heap.size w w':=by{
 have hp:Byt w w.heap.size (some (ad.add 4)) (xs.drop 4):=by
  obtain⟨ad',e,hp⟩:=hx.part (k:=4) (n:=124) (by rw[hlen.out];omega) (by omega);cases e
  rwa [Qf (by simp[hlen.out])] at hp
 have hpl:Hid ((xs.drop 4).length=124):=Za (by simp[hlen.out]);have hb:=Zu5 (xs.drop 4);have hd:((num (xs.take 4):Int)==(crc (xs.drop 4):Nat))=false:=by simpa [Zu6] using hn
 have hd':((num (xs.take 4):Int) != (crc (xs.drop 4):Nat))=true:=by simpa [Zu6] using hn
 have HD:=Za hd;have HD':=Za hd';clear hn hd hd'
 go_enter Tryz.func113,Tryz.ntmps113
 go_wp2_with fail
 refine(Zg4 _ _ cap 0 xs hlen (by omega) (by omega) (by omega) _ hx).mono ?_;rintro e w1 ⟨rfl,hb1⟩;rw[Qr];have hp1:=(hp.below hb1).more hb1.size
 go_wp2_with fail
 refine(Zx2 _ _ _ _ hpl (by omega) (by omega) _ hp1).mono ?_;rintro e w2 ⟨rfl,hb2⟩;generalize num (xs.take 4)=q at *;generalize crc (xs.drop 4)=r at *;have hd:=HD.out;have hd':=HD'.out
 go_wp2_with fail
 go_ret2
 exact⟨rfl,Z3t hb1 hb2⟩}
theorem Z2q {w:Qam}{B B':Nat}{e:Qaq}{v:Qan}{n:Nat}{xs:List Qan}(h:w.ownsRow B e 1 v n xs) (hb:B'<=B):w.ownsRow B' e 1 v n xs:=by
 refine⟨h.1,h.2.imp id ?_⟩;rintro⟨g,cap,cur,h1,h2,h3⟩;exact⟨g,cap,cur,h1,Qh hb h2,h3⟩
theorem Z8y (ad:Qao) (cap:Nat) (xs:List UInt8) (hlen:Hid (xs.length=128)) (hlc:128<=cap) (hcap:cap<=9223372036854775807) (w:Qam) (hx:Byt w w.heap.size (some ad) xs) (hn:Zu6 xs) :
  Qat Tryz.prog 113 #[.slice (some ad) 128 cap] w fun e w'=>∃ v,e=.returned (.tuple #[v,.int .i64 0])/\w'.ownsRow w.heap.size 5 1 v 124 (u8s (xs.drop 4))/\Qau w.heap.size w w':=by{
 have hp:Byt w w.heap.size (some (ad.add 4)) (xs.drop 4):=by
  obtain⟨ad',e,hp⟩:=hx.part (k:=4) (n:=124) (by rw[hlen.out];omega) (by omega);cases e
  rwa [Qf (by simp[hlen.out])] at hp
 have hpl:Hid ((xs.drop 4).length=124):=Za (by simp[hlen.out]);have hb:=Zu5 (xs.drop 4);have HN:Hid (num (xs.take 4)=(crc (xs.drop 4):Nat)):=Za hn;clear hn
 go_enter Tryz.func113,Tryz.ntmps113
 go_wp2_with fail
 refine(Zg4 _ _ cap 0 xs hlen (by omega) (by omega) (by omega) _ hx).mono ?_;rintro e w1 ⟨rfl,hb1⟩;rw[Qr,HN.out];have hp1:=(hp.below hb1).more hb1.size
 go_wp2_with fail
 refine(Zx2 _ _ _ _ hpl (by omega) (by omega) _ hp1).mono ?_;rintro e w2 ⟨rfl,hb2⟩;generalize crc (xs.drop 4)=r at *;have hp2:=(hp1.below hb2).more hb2.size
 go_wp2_with fail
 refine(Zk4 _ _ _ _ hpl (by omega) _ hp2).mono ?_;rintro e w3 ⟨v,rfl,hown,_,hb3⟩;have hB:=Z3t (Z3t hb1 hb2) hb3;have hsz:=Qh hb1.size hb2.size;have HO:=Za (Z2q hown hsz);clear hown hp hp1 hp2 hx hb1 hb2 hb3 hsz
 go_wp2_with fail
 go_ret2
 exact⟨v,rfl,HO.out,hB⟩}
theorem Zqd (xs:List UInt8):Zu6 (Zdo xs):=by
 unfold Zu6 Zdo;rw[Pj (Yq 4 _),Q5 (Yq 4 _)];exact Z6n 4 _ (by omega) (by have:=Zu5 (Zo9 xs);simp;omega)
theorem Zxe (xs:List UInt8):(Zdo xs).drop 4=Zo9 xs:=by
 unfold Zdo;rw[Q5 (Yq 4 _)]
theorem Zp5 {xs:List UInt8}(h:xs.length=124):Zo9 xs=xs:=by simp[Zo9,Zw,h]
theorem Zzn {xs:List UInt8}(h:xs.length=128) (hf:Zu6 xs):Zdo (xs.drop 4)=xs:=by
 unfold Zu6 at hf;unfold Zdo;have e:=Zzw (xs.take 4);rw[show (xs.take 4).length=4 by simp[h]] at e;rw[Zp5 (by simp[h]),<- hf,e];exact Q6 4 xs
theorem Ziq (lo:Nat) (w:Qam):rBy (New lo w) w [.slice none 0 0] []:=⟨none,0,rfl,by simp,by omega,fun i x h=>by simp at h⟩
theorem Zl7 {a:Qan}{k:IntKind}{x y:Int}(h:x=y):Ending.returned (.tuple #[a,.int k x])=.returned (.tuple #[a,.int k y]):=by rw[h]
theorem Zii (v:Qan) (n m c:Nat) (xs ys:List UInt8) (A:Option Qao) (lo:Nat) (w:Qam) (hown:w.ownsRow lo 5 1 v n (u8s xs)) (hy:Byt w w.heap.size A ys) (hl:ys.length=m) (hs:n+m<=1000000000) (hlo:lo<=w.heap.size) :
  ∃ v' w',(Ql #[27,27] 27 #[v,.slice A m c]).run Tryz.prog w=.ok v' w'/\w'.ownsRow lo 5 1 v' (n+m) (u8s (xs++ys))/\Qau lo w w':=by
 obtain⟨i0,hi,hz0,hz1,hz2⟩:=info_parts Zhu;exact Z8d (P:=Tryz.prog) (w:=w) lo 27 27 5 i0 Tryz.underlying27 hi hz0 hz1 hz2 v n xs hown w.heap.size A m c ys hy hl hs hlo
theorem Ug {P:Program}{w:Qam}{ops:Array Qap}{rest:List Qap}{o:Qap}{a:Act}{Q:Exit->Act->Qam->Prop}(hgd:o.guard=none) (s x:Operand) (t tn:Qaq)
  (ho:o.op=.call { callee:=.builtin .append,args:=#[s,x],argTypes:=#[t,tn] }) {v u v':Qan} {w':Qam} (hs:a.eval s=v) (hx:a.eval x=u)
  (hrun:(Ql #[t,tn] o.type #[v,u]).run P w=.ok v' w') (h:wpList P ops Q rest (a.put o.dst v') w'):wpList P ops Q (o::rest) a w :=
 wpList_plain hgd fun _ hK=>by
  unfold Oper.wp execOp;simp only[ho,resolve,invoke,builtin,Sem.run_bind,Sem.run_pure,Result.andThen_ok,List.map_toArray,List.map_cons,List.map_nil,hs,hx,hrun];exact hK _ _ h
theorem Z4s (n:Nat) (hn:n<=1000000) (w:Qam) :
  Qat Tryz.prog 178 #[.slice none 0 0,.int .i64 n] w fun e w'=>∃ u,e=.returned u/\w'.ownsRow w.heap.size 5 1 u 0 []/\Qau w.heap.size w w':=by{
 rcases Pe n with h0 | h0
 ·subst h0
  go_enter Tryz.func178,Tryz.ntmps178
  go_wp2
  go_ret;exact⟨_,rfl,Qz _ _ _ _,Qb _ _⟩
 ·obtain⟨i0,hi,hz0,hz1,hz2⟩:=info_parts Zhu
  have hr:=Go.Lib.run_append_grow_zeros (P:=Tryz.prog) w 27 3 27 5 i0 (.int .u8 0) .i64 .i64 Tryz.underlying27 Tryz.underlying3 hi hz0 none 0 0 [] (run_firstCells_none w.drew i0.size 0 0 0) n h0 (by omega) (by omega) (by omega) (by rw[hz2];omega) (by rw[hz2,Qv,nextslicecap_zero (by omega)];omega);rw[Qv] at hr;have hge:=grownCap_ge w n 0 5;have hle:=grownCap_le_maxLen w n 0 5 (by unfold maxLen;omega);generalize grownCap w n 0 5=gc at hr hge hle;have hsz:(([]:List Qan).toArray++Qw (Value.int .u8 0).cells n++Qw (Value.int .u8 0).cells (gc-n)).size=gc*1:=by
   simp only[Array.size_append,size_zeroCells];simp[Value.cells];omega
  generalize ([]:List Qan).toArray++Qw (Value.int .u8 0).cells n++Qw (Value.int .u8 0).cells (gc-n)=cur at hr hsz;have hown:(w.drew.alloc (.cells cur 5)).ownsRow w.heap.size 5 1 (.slice (some ⟨w.heap.size,0,none⟩) 0 gc) 0 [] :=
   ⟨rfl,.inr ⟨w.heap.size,gc,cur,rfl,Qc _,Qas w.drew _,by omega,hle,hsz,by simp⟩⟩
  have hB:Qau w.heap.size w (w.drew.alloc (.cells cur 5)):=(Qb w.heap.size w).drew.alloc (Qc _) _;unfold maxLen at hle;generalize w.drew.alloc (.cells cur 5)=w9 at hr hown hB;have H:=Za hr;replace hown:=Za hown;have h1:¬ ((n:Int)<0):=by omega
  have h2:(n:Int)>0:=by omega
  clear hsz hr
  go_enter Tryz.func178,Tryz.ntmps178
  go_wp2_with (at_builtin;refine Ug rfl _ _ _ _ rfl rfl rfl H.out ?_;clear H)
  go_ret;exact⟨_,rfl,hown.out,hB⟩}
def Zle (xss:List (List UInt8)):Nat:=xss.flatten.length
theorem Zqf {xss:List (List UInt8)}{k:Nat}{x:List UInt8}(h:xss[k]? = some x):Zle (xss.take (k+1))=Zle (xss.take k)+x.length:=by
 simp[Zle,Qu,h]
theorem Z0t {xss:List (List UInt8)}{k:Nat}{x:List UInt8}(h:xss[k]? = some x):(xss.take (k+1)).flatten=(xss.take k).flatten++x:=by
 simp[Qu,h]
theorem Z7p {xss:List (List UInt8)}(k:Nat):Zle (xss.take k)<=Zle xss:=by
 have h:Zle xss=Zle (xss.take k)+Zle (xss.drop k):=by
  unfold Zle;rw[<- Qi,<- List.flatten_append,Q6]
 omega
theorem Zwj (v:Qan) (xss:List (List UInt8)) (w:Qam) (hbig:Zle xss<=1000000) (h:rSl 1 rBy (Old w) w [v] xss) :
  Qat Tryz.prog 156 #[v] w fun e w'=>∃ u,e=.returned u/\w'.ownsRow w.heap.size 5 1 u (Zle xss) (u8s xss.flatten)/\Qau w.heap.size w w':=by{
 obtain⟨A,c,e1,l1,m1,hA⟩:=Zde h;cases e1;have HA:=Za hA;clear hA h;obtain⟨n,hn⟩:∃ n,xss.length=n:=⟨_,rfl⟩
 rw[hn] at l1 ⊢;replace hn:=Za hn;obtain⟨m,hm⟩:∃ m,Zle xss=m:=⟨_,rfl⟩
 rw[hm] at hbig ⊢;have hle:=Za (fun k=>(hm ▸ Z7p k:Zle (xss.take k)<=m));replace hm:=Za hm
 go_enter Tryz.func156,Tryz.ntmps156
 go_wp2_with fail
 go_loop [3,11] (fun s i=>∃ k:Nat,k<=n/\i=.int .i64 k/\s=.int .i64 (Zle (xss.take k))) (fun _ i=>n-(intOf i).toNat)
 case atStart=>exact⟨0,by omega,rfl,rfl⟩
 case round =>
  obtain⟨k,hk,rfl,rfl⟩:=hrel;have hlk:=hle.out k;by_cases hlt:k<n
  ·obtain⟨x,hx⟩:∃ x,xss[k]? = some x:=⟨_,Qe (by rw[hn.out];exact hlt)⟩
   obtain⟨ad,u,rfl,hok,hc,hby⟩:=HA.out k x hx;have hs:=Za (Zqf hx);have hlk2:=hle.out (k+1);rw[hs.out] at hlk2;obtain⟨E,ce,rfl,_⟩:=id (Zt hby);generalize Zle (xss.take k)=q at *;replace hx:=Za hx;have h3:¬ ((q:Int)+(x.length:Int)<0):=by omega
   clear hby
   go_wp2_with fail
   go_round
   case rel=>exact⟨k+1,by omega,by go_num,by rw[hs.out];go_num⟩
   case measure=>simp[intOf];omega
  ·have hge:n<=k:=by omega
   have htk:=Za (show Zle (xss.take k)=m by rw[Qf (by rw[hn.out];exact hge)];exact hm.out);rw[htk.out] at hlk ⊢
   go_wp2_with fail
   with_reducible refine(Z4s m hbig _).mono ?_
   rintro e2 w2 ⟨u,rfl,ho,hb2⟩;replace ho:=Za ho;replace hb2:=Za hb2;clear hlk htk
   go_wp2_with fail
   go_loopw [6,27] (fun u i wr=>∃ k:Nat,k<=n/\i=.int .i64 k/\wr.ownsRow w.heap.size 5 1 u (Zle (xss.take k)) (u8s (xss.take k).flatten)/\Qau w.heap.size w wr) (fun _ i _=>n-(intOf i).toNat)
   case atStart=>exact⟨0,by omega,rfl,ho.out,hb2.out⟩
   case round =>
    clear hge hk hlt ho hb2;obtain⟨j,hk,rfl,hown,hB⟩:=hrel;have hlk:=hle.out j;by_cases hlt:j<n
    ·obtain⟨x,hx⟩:∃ x,xss[j]? = some x:=⟨_,Qe (by rw[hn.out];exact hlt)⟩
     obtain⟨ad,u,rfl,hok,hc,hby⟩:=HA.out j x hx;have hc':=(hB.cell hok).trans hc;have hs:=Za (Zqf hx);have hf:=Za (Z0t hx);have hlk2:=hle.out (j+1);rw[hs.out] at hlk2;obtain⟨E,ce,rfl,_,_,hy⟩:=Vg (B:=wr.heap.size) (fun p hp=>hp) (Zf.old hby hB);obtain⟨v3,w3,hr3,o3,ba3⟩:=Zii _ (Zle (xss.take j)) x.length ce _ _ E w.heap.size wr hown hy rfl (by omega) hB.size;have B3:=Za (hB.trans ba3);have H3:=Za hr3;replace o3:=Za o3;clear hr3 ba3 hy hby hc hown hB;replace hx:=Za hx
     go_wp2_with (at_builtin;refine Zp rfl _ _ _ rfl rfl rfl H3.out ?_;clear H3)
     go_roundw
     case rel=>exact⟨j+1,by omega,by go_num,by rw[hs.out,hf.out];exact o3.out,B3.out⟩
     case measure=>simp[intOf];omega
    ·have hge:n<=j:=by omega
     have htk:xss.take j=xss:=Qf (by rw[hn.out];exact hge);rw[htk,hm.out] at hown;replace hown:=Za hown;have B:=Za hB;clear hB htk
     go_wp2_with fail
     go_ret;exact⟨_,rfl,hown.out,B.out⟩}
def sb (xs:List UInt8):List UInt8:=if xs.length<=124 then Zdo xs else []
def se (n:Nat):Int:=if n<=124 then 0 else 3
open Classical in
def ob (xs:List UInt8):List UInt8:=if xs.length=128/\Zu6 xs then xs.drop 4 else []
open Classical in
def oe (xs:List UInt8):Int:=if xs.length=128 then (if Zu6 xs then 0 else 8) else 3
theorem Z5n (A:Option Qao) (len cap:Nat) (xs:List UInt8) (hlen:Hid (xs.length=len)) (hlc:len<=cap) (hcap:cap<=9223372036854775807) (w:Qam) (hx:Byt w w.heap.size A xs) :
  Qat Tryz.prog 124 #[.slice A len cap] w fun e w'=>∃ v,e=.returned (.tuple #[v,.int .i64 (se len)])/\w'.ownsRow w.heap.size 5 1 v (sb xs).length (u8s (sb xs))/\Qau w.heap.size w w':=by{
 by_cases h:len<=124
 ·have h1:se len=0:=if_pos h
  have h2:sb xs=Zdo xs:=if_pos (by rw[hlen.out];exact h);rw[h1,h2];refine(Z7v A len cap xs hlen h hlc hcap w hx).mono ?_;rintro e w' ⟨rfl,hR,hb⟩;have hl:=Zhl (xs:=xs) (by rw[hlen.out];exact h);have:=hR.own (Qc _) (by omega);exact⟨_,rfl,by rwa [hl] at this ⊢,hb⟩
 ·have h1:se len=3:=if_neg h
  have h2:sb xs=[]:=if_neg (by rw[hlen.out];exact h);rw[h1,h2];refine(Z9v A len cap (by omega) w).mono ?_;rintro e w' ⟨rfl,rfl⟩;exact⟨_,rfl,Qz _ _ _ _,Qb _ _⟩}
theorem Z3j (A:Option Qao) (len cap:Nat) (xs:List UInt8) (hlen:Hid (xs.length=len)) (hlc:len<=cap) (hcap:cap<=9223372036854775807) (w:Qam) (hx:Byt w w.heap.size A xs) :
  Qat Tryz.prog 113 #[.slice A len cap] w fun e w'=>∃ v,e=.returned (.tuple #[v,.int .i64 (oe xs)])/\w'.ownsRow w.heap.size 5 1 v (ob xs).length (u8s (ob xs))/\Qau w.heap.size w w':=by{
 by_cases h:len=128
 ·subst h
  obtain⟨ad,rfl,_,_⟩:=hx (by rw[hlen.out];omega);by_cases hf:Zu6 xs
  ·have h1:oe xs=0:=by unfold oe;rw[if_pos hlen.out,if_pos hf]
   have h2:ob xs=xs.drop 4:=by unfold ob;rw[if_pos ⟨hlen.out,hf⟩]
   rw[h1,h2,show (xs.drop 4).length=124 by simp[hlen.out]];exact Z8y ad cap xs hlen hlc hcap w hx hf
  ·have h1:oe xs=8:=by unfold oe;rw[if_pos hlen.out,if_neg hf]
   have h2:ob xs=[]:=by unfold ob;rw[if_neg (fun h=>hf h.2)]
   rw[h1,h2];refine(Z3e ad cap xs hlen hlc hcap w hx hf).mono ?_;rintro e w' ⟨rfl,hb⟩;exact⟨_,rfl,Qz _ _ _ _,hb⟩
 ·have h1:oe xs=3:=by unfold oe;rw[if_neg (by rw[hlen.out];exact h)]
  have h2:ob xs=[]:=by unfold ob;rw[if_neg (fun h'=>h (by rw[<- hlen.out];exact h'.1))]
  rw[h1,h2];refine(Z9j A len cap h w).mono ?_;rintro e w' ⟨rfl,rfl⟩;exact⟨_,rfl,Qz _ _ _ _,Qb _ _⟩}
theorem Z1h (n:Int) (h0:0<=n) (h1:n<4294967296) (w:Qam) :
  Qat Tryz.prog 157 #[.int .u32 n] w fun e w'=>∃ A c,e=.returned (.slice A 4 c)/\rBy (Old w') w' [.slice A 4 c] (le 4 n)/\Qau w.heap.size w w' :=
 (Zum n h0 h1 w).mono fun _ _ ⟨A,e,hy,hb⟩=>⟨A,4,e,by have:=Zsl (cap:=4) hy (by rw[Yq];omega) (by omega);rwa [Yq] at this,hb⟩
theorem Yai (n:Int) (h0:0<=n) (h1:n<65536) (w:Qam) :
  Qat Tryz.prog 155 #[.int .i64 n] w fun e w'=>∃ A,e=.returned (.tuple #[.slice A 2 2,.int .i64 0])/\rBy (Old w') w' [.slice A 2 2] (le 2 n)/\Qau w.heap.size w w' :=
 (Ya5 n h0 h1 w).mono fun _ _ ⟨A,e,hy,hb⟩=>⟨A,e,by have:=Zsl (cap:=2) hy (by rw[Yq];omega) (by omega);rwa [Yq] at this,hb⟩
theorem Ztm (w:Qam) (t:Qaq) (x:UInt8) (n:Int) (h:(x.toNat:Int)=n):rBy (Old (w.alloc (.cells #[.int .u8 n] t))) (w.alloc (.cells #[.int .u8 n] t)) [.slice (some ⟨w.heap.size,0,none⟩) 1 1] [x]:=by
 subst h;have hy:=Z7i w t [x] #[.int .u8 (x.toNat:Int)] rfl;have e:(w.alloc (.cells #[.int .u8 (x.toNat:Int)] t)).heap.size=w.heap.size+1:=by simp
 rw[<- e] at hy;exact Zsl (xs:=[x]) (cap:=1) hy (Qc _) (by omega)
theorem Z3q (w:Qam) (t:Qaq) (vs:List Qan) (xss:List (List UInt8)) (hl:vs.length=xss.length) (hb:xss.length<=1000) (h:∀ (i:Nat) (v:Qan) (x:List UInt8),vs[i]? = some v->xss[i]? = some x->rBy (Old w) w [v] x) :
  rSl 1 rBy (Old (w.alloc (.cells vs.toArray t))) (w.alloc (.cells vs.toArray t)) [.slice (some ⟨w.heap.size,0,none⟩) xss.length xss.length] xss:=by{
 have hB:Qau w.heap.size w (w.alloc (.cells vs.toArray t)):=(Qb _ _).alloc (Qc _) _;refine⟨_,_,rfl,Qc _,by omega,fun i x hi=> ?_⟩;have hil:i<vs.length:=by rw[hl];exact(Qj.1 hi).1
 have hv:vs[i]? = some vs[i]:=Qe hil;refine⟨_,[vs[i]],rfl,rfl,fun j v hj=> ?_,Zf.old (h i _ x hv hi) hB⟩;have hj0:j=0:=by
  have:=(Qj.1 hj).1;simp at this;omega
 subst hj0;cases hj;have e:(⟨w.heap.size,0,none⟩:Qao).add (i*1+0)=⟨w.heap.size,i,none⟩:=by rw[Zah];simp
 rw[e];refine⟨by simp[Old],?_⟩;simp}
theorem Uz {W:Qam}{g:Nat}{a b c d e u0 u1 u2 u3 u4:Qan}{t:Qaq}(h:W.heap[g]? = some (.cells #[a,b,c,d,e] t (0,0))):∃ W1,((((W.setCell ⟨g,0,none⟩ u0).setCell ⟨g,1,none⟩ u1).setCell ⟨g,2,none⟩ u2).setCell ⟨g,3,none⟩ u3).setCell ⟨g,4,none⟩ u4=W1 /\
  W1.heap[g]? = some (.cells #[u0,u1,u2,u3,u4] t (0,0))/\W.grownBy W1 (some g)/\W1.heap.size=W.heap.size :=
 ⟨_,rfl,by simp[Pz,P1,h],Ys (p:=⟨g,4,none⟩) (Ys (p:=⟨g,3,none⟩) (Ys (p:=⟨g,2,none⟩) (Ys (p:=⟨g,1,none⟩) (Ys (p:=⟨g,0,none⟩) (Xb W (some g)) rfl u0) rfl u1) rfl u2) rfl u3) rfl u4,by simp⟩
theorem Zs {W:Qam}{g:Nat}{a b c d e:Qan}{t:Qaq}(h:W.heap[g]? = some (.cells #[a,b,c,d,e] t (0,0))):W.cell? ⟨g,0,none⟩=some a/\W.cell? ⟨g,1,none⟩=some b/\W.cell? ⟨g,2,none⟩=some c/\W.cell? ⟨g,3,none⟩=some d/\W.cell? ⟨g,4,none⟩=some e/\(∀ o,W.frozen? ⟨g,o,none⟩=false)/\g<W.heap.size :=
 ⟨by simp[Q0,h],by simp[Q0,h],by simp[Q0,h],by simp[Q0,h],by simp[Q0,h],fun o=>by simp[Pk,h],(Pa.1 h).1⟩
theorem Zx4 {ok:Qao->Prop}{w:Qam}{n:Int}(h:Zkh n):rK .i64 ok w [.int .i64 n] n:=⟨rfl,by simpa [IntKind.min,IntKind.signed,IntKind.bits] using h.1,by simpa [IntKind.max,IntKind.signed,IntKind.bits] using h.2⟩
theorem Ybq (body:List UInt8) (k:Int):Zkh (gv 2 body k):=by
 have:=Zob 2 body k;exact⟨by omega,by omega⟩
theorem Z6b (body:List UInt8) (k:Int):InU (gv 4 body k):=by
 have:=Zob 4 body k;exact⟨by omega,by omega⟩
def orN (xs:List Int):Int:=(xs.find? fun x=>x != 0).getD 0
theorem Ztn {xs:List Int}{k:Nat}{x:Int}(h:∀ y∈xs.take k,y=0) (hx:xs[k]? = some x) (h0:x≠0):orN xs=x:=by{
 have e:xs=xs.take k++x::xs.drop (k+1):=by
  have hk:=(Qj.1 hx)
  obtain⟨hk1,hk2⟩:=hk;rw[<- hk2,<- Pm hk1,Q6]
 unfold orN;rw[e,List.find?_append,P3.2 (by intro y hy;simp[h y hy])];simp[h0]}
theorem Zub {xs:List Int}(h:∀ y∈xs,y=0):orN xs=0:=by
 unfold orN;rw[P3.2 (by intro y hy;simp[h y hy])];rfl
theorem Z51 (v:Qan) (xs:List Int) (w:Qam) (h:Zo8 (Old w) w [v] xs) :
  Qat Tryz.prog 193 #[v] w fun e w'=>e=.returned (.int .i64 (orN xs))/\w=w':=by{
 obtain⟨A,c,rfl,l1,m1,hA⟩:=Zgv h;have HA:=Za hA;clear hA h;obtain⟨n,hn⟩:∃ n,xs.length=n:=⟨_,rfl⟩
 rw[hn] at l1 ⊢;replace hn:=Za hn
 go_enter Tryz.func193,Tryz.ntmps193
 go_wp2_with fail
 go_loop [8] (fun i=>∃ k:Nat,k<=n/\i=.int .i64 k/\∀ y∈xs.take k,y=0) (fun i=>n-(intOf i).toNat)
 case atStart=>exact⟨0,by omega,rfl,fun y hy=>by simp at hy⟩
 case round =>
  obtain⟨k,hk,rfl,ha⟩:=hrel;replace ha:=Za ha;by_cases hlt:k<n
  ·obtain⟨x,hx⟩:∃ x,xs[k]? = some x:=⟨_,Qe (by rw[hn.out];exact hlt)⟩
   obtain⟨ad,rfl,hok,hc,_⟩:=HA.out k x hx;replace hx:=Za hx;by_cases e:x=0
   ·have he:(x != 0)=false:=by simpa using e
    replace e:=Za e
    go_wp2_with fail
    go_round
    case rel=>exact⟨k+1,by omega,by go_num,fun y hy=>by
     rw[Qu,hx.out] at hy;simp at hy;rcases hy with hy | hy
     ·exact ha.out y hy
     ·rw[hy];exact e.out⟩
    case measure=>simp[intOf];omega
   ·have he:(x != 0)=true:=by simpa using e
    have hor:=Za (Ztn ha.out hx.out e);clear e
    go_wp2_with fail
    go_ret;exact⟨Z1 hor.out.symm,rfl⟩
  ·have hge:n<=k:=by omega
   have hor:Hid (orN xs=0):=Za (Zub (by
    have:=ha.out
    rwa [Qf (by rw[hn.out];exact hge)] at this))
   go_wp2_with fail
   go_ret;exact⟨Z1 hor.out.symm,rfl⟩}
theorem Zm8 (w:Qam) (t:Qaq) (xs:List Int) (cs:Array Qan) (hc:cs.toList=xs.map fun x=>Value.int .i64 x) (hb:xs.length<=1000) (h:∀ x∈xs,Zkh x) :
  Zo8 (Old (w.alloc (.cells cs t))) (w.alloc (.cells cs t)) [.slice (some ⟨w.heap.size,0,none⟩) xs.length xs.length] xs:=by{
 refine⟨_,_,rfl,Qc _,by omega,fun i x hi=> ?_⟩;refine⟨_,[.int .i64 x],rfl,rfl,fun j v hj=> ?_,Zx4 (h x (Py hi))⟩;have hj0:j=0:=by
  have:=(Qj.1 hj).1;simp at this;omega
 subst hj0;cases hj;have e:(⟨w.heap.size,0,none⟩:Qao).add (i*1+0)=⟨w.heap.size,i,none⟩:=by rw[Zah];simp
 rw[e];have hci:cs[i]? = some (.int .i64 x):=by rw[<- Array.getElem?_toList,hc,List.getElem?_map,hi];rfl
 refine⟨by simp[Old],?_⟩;rw[<- hci];simp}
def Yct (g:Nat) (a b c d e:Qan):Qam->Prop:=fun w=>w.cell? ⟨g,0,none⟩=some a/\w.cell? ⟨g,1,none⟩=some b/\w.cell? ⟨g,2,none⟩=some c/\w.cell? ⟨g,3,none⟩=some d/\w.cell? ⟨g,4,none⟩=some e/\g<w.heap.size
theorem Zws (g:Nat) (a b c d e:Qan):Zep (Yct g a b c d e):=fun _ _ h hb=>⟨(hb.cell (p:=⟨g,0,none⟩) h.2.2.2.2.2).trans h.1,(hb.cell (p:=⟨g,1,none⟩) h.2.2.2.2.2).trans h.2.1,(hb.cell (p:=⟨g,2,none⟩) h.2.2.2.2.2).trans h.2.2.1,(hb.cell (p:=⟨g,3,none⟩) h.2.2.2.2.2).trans h.2.2.2.1,(hb.cell (p:=⟨g,4,none⟩) h.2.2.2.2.2).trans h.2.2.2.2.1,Qd h.2.2.2.2.2 hb.size⟩
end Go.Proofs.YtgmbjnajdfgenaaGreat
namespace Go.Proofs.YtgmbjnajdfgenaaGreat
open Go.ChangeShapes Go.WideShapes Go.RowKit
abbrev Ky:=UInt8×Int×Int
def rKy:Rel Ky:=Zjs rU8 (Zjs (rK .u32) (rK .u32))
theorem Z88:Zew rKy:=Zdc Z2c (Zdc (Zf5 _) (Zf5 _))
structure InK (k:Ky):Prop where
 id:InU k.2.1
 off:InU k.2.2
abbrev kyV (k:Ky):Qan:=.agg #[.int .u8 (k.1.toNat:Int),.int .u32 k.2.1,.int .u32 k.2.2]
theorem Ztq {ok:Qao->Prop}{w:Qam}{cs:List Qan}{k:Ky}(h:rKy ok w cs k):cs=[.int .u8 (k.1.toNat:Int),.int .u32 k.2.1,.int .u32 k.2.2]/\InK k:=by
 obtain⟨_,_,rfl,rfl,_,_,rfl,⟨rfl,a1,a2⟩,⟨rfl,b1,b2⟩⟩:=h;simp[IntKind.min,IntKind.max,IntKind.signed,IntKind.bits] at a1 a2 b1 b2;exact⟨rfl,⟨⟨a1,by omega⟩,⟨b1,by omega⟩⟩⟩
theorem Yaw {ok:Qao->Prop}{w:Qam}{k:Ky}(h:InK k):rKy ok w [.int .u8 (k.1.toNat:Int),.int .u32 k.2.1,.int .u32 k.2.2] k:=by
 obtain⟨⟨a1,a2⟩,⟨b1,b2⟩⟩:=h;refine⟨[_],_,rfl,rfl,[_],_,rfl,⟨rfl,?_,?_⟩,rfl,?_,?_⟩ <;> simp[IntKind.min,IntKind.max,IntKind.signed,IntKind.bits] <;> omega
abbrev It:=Ky×Int×List UInt8
def rIt:Rel It:=Zjs rKy (Zjs (rK .i64) rBy)
theorem Z0:Zew rIt:=Zdc Z88 (Zdc (Zf5 _) Zf)
structure InI (s:It):Prop where
 key:InK s.1
 ref:Zkh s.2.1
abbrev itV (s:It) (d:Qan):Qan:=.agg #[.int .u8 (s.1.1.toNat:Int),.int .u32 s.1.2.1,.int .u32 s.1.2.2,.int .i64 s.2.1,d]
def Itm (ok:Qao->Prop) (w:Qam) (v:Qan) (s:It):Prop:=∃ d,v=itV s d/\InI s/\rBy ok w [d] s.2.2
theorem Ztb {ok:Qao->Prop}{w:Qam}{cs:List Qan}{s:It}(h:rIt ok w cs s):∃ d,cs=[.int .u8 (s.1.1.toNat:Int),.int .u32 s.1.2.1,.int .u32 s.1.2.2,.int .i64 s.2.1,d]/\InI s/\rBy ok w [d] s.2.2:=by
 obtain⟨_,_,rfl,hk,_,_,rfl,⟨rfl,a1,a2⟩,hd⟩:=h;obtain⟨rfl,hi⟩:=Ztq hk;obtain⟨A,cap,rfl,hd'⟩:=hd;simp[IntKind.min,IntKind.max,IntKind.signed,IntKind.bits] at a1 a2;exact⟨_,rfl,⟨hi,⟨a1,a2⟩⟩,A,cap,rfl,hd'⟩
theorem Zza {ok:Qao->Prop}{w:Qam}{d:Qan}{s:It}(h:InI s) (hd:rBy ok w [d] s.2.2):rIt ok w [.int .u8 (s.1.1.toNat:Int),.int .u32 s.1.2.1,.int .u32 s.1.2.2,.int .i64 s.2.1,d] s:=by
 obtain⟨hk,⟨a1,a2⟩⟩:=h;refine⟨[_,_,_],_,rfl,Yaw hk,[_],_,rfl,⟨rfl,?_,?_⟩,hd⟩ <;> simp[IntKind.min,IntKind.max,IntKind.signed,IntKind.bits] <;> omega
theorem Itm.map {ok ok':Qao->Prop}{w w':Qam}{v:Qan}{s:It}(hk:∀ p v,ok p->w.cell? p=some v->ok' p/\w'.cell? p=some v) (h:Itm ok w v s):Itm ok' w' v s:=by
 obtain⟨d,e,h1,h2⟩:=h;exact⟨d,e,h1,Zf _ _ _ _ _ _ hk h2⟩
theorem Itm.below {w w':Qam}{v:Qan}{s:It}(h:Itm (Old w) w v s) (hb:Qau w.heap.size w w'):Itm (Old w') w' v s :=
 h.map fun _ _ hp hc=>⟨Qd hp hb.size,(hb.cell hp).trans hc⟩
theorem Itm.new {lo lo':Nat}{w w':Qam}{v:Qan}{s:It}(h:Itm (New lo w) w v s) (hl:lo'<=lo) (hb:Qau w.heap.size w w'):Itm (New lo' w') w' v s :=
 h.map fun _ _ hp hc=>⟨⟨Qh hl hp.1,Qd hp.2.1 hb.size,(hb.frozen hp.2.1).trans hp.2.2⟩,(hb.cell hp.2.1).trans hc⟩
theorem Itm.grown {w w':Qam}{lo:Nat}{v:Qan}{s:It}{row:Option Nat}(h:Itm (New lo w) w v s) (hg:w.grownBy w' row) (hr:∀ q,row=some q->q<lo):Itm (New lo w') w' v s:=by
 obtain⟨d,e,h1,h2⟩:=h;exact⟨d,e,h1,Zf.grown h2 hg hr⟩
theorem Itm.open {ok:Qao->Prop}{w:Qam}{v:Qan}{s:It}(h:Itm ok w v s):∃ A c,v=itV s (.slice A s.2.2.length c)/\InI s/\s.2.2.length<=c/\c<=9223372036854775807/\rBy ok w [.slice A s.2.2.length c] s.2.2:=by
 obtain⟨d,rfl,h1,h2⟩:=h;obtain⟨A,c,rfl,h3,h4,h5⟩:=Zt h2;exact⟨A,c,rfl,h1,h3,h4,h2⟩
theorem Xd (w:Qam) (a b c:Qan) (t:Qaq):∃ w1,w.alloc (.cells #[a,b,c] t)=w1/\w1.cell? ⟨w.heap.size,0,none⟩=some a/\w1.cell? ⟨w.heap.size,1,none⟩=some b/\w1.cell? ⟨w.heap.size,2,none⟩=some c/\w1.heap.size=w.heap.size+1/\Qau w.heap.size w w1/\w1.heap[w.heap.size]? = some (.cells #[a,b,c] t (0,0)) :=
 ⟨_,rfl,by simp,by simp,by simp,by simp,(Qb _ _).alloc (Qc _) _,Qas _ _⟩
def Zbp (s:It):Bool:=(decide (s.2.1=0)||(decide (8<=s.2.1)&&decide (s.2.1<256)))&&decide (s.2.2.length<=12)
def Z5l (s:It):Int:=if Zbp s then 0 else 8
theorem Zaj {s:It}(h:Zbp s=true):(s.2.1=0\/(8<=s.2.1/\s.2.1<256))/\s.2.2.length<=12:=by
 simpa [Zbp] using h
theorem Zse {s:It}(h:(s.2.1=0\/(8<=s.2.1/\s.2.1<256))/\s.2.2.length<=12):Zbp s=true:=by simpa [Zbp] using h
theorem Zdq {s:It}(h:Zbp s=true):Z5l s=0:=by simp[Z5l,h]
theorem Zax {s:It}(h:Zbp s=false):Z5l s=8:=by simp[Z5l,h]
def itB (s:It):List UInt8:=[s.1.1]++(le 4 s.1.2.1++(le 4 s.1.2.2++(le 2 s.2.1++([UInt8.ofNat s.2.2.length]++s.2.2))))
theorem Zce (s:It):(itB s).length=12+s.2.2.length:=by simp[itB,Yq];omega
def wrI (s:It):List UInt8:=if Zbp s then itB s else []
def Zez:It:=((0,0,0),0,[])
theorem Z5e:InI Zez:=⟨⟨⟨by decide,by decide⟩,⟨by decide,by decide⟩⟩,⟨by decide,by decide⟩⟩
theorem Zd7 (ok:Qao->Prop) (w:Qam):Itm ok w (.agg #[.int .u8 0,.int .u32 0,.int .u32 0,.int .i64 0,.slice none 0 0]) Zez:=⟨_,rfl,Z5e,none,0,rfl,by simp[Zez],by omega,fun i x h=>by simp[Zez] at h⟩
theorem Zz7:Zdg Tryz.prog 37 rKy:=Zhf Tryz.underlying37 (Zcy rfl (Znq Tryz.underlying5) (Zcy (by kernel_rfl) (Zrk Tryz.underlying32) (Zla (by kernel_rfl) (by kernel_rfl) (Zrk Tryz.underlying32))))
theorem Z3g {H:Type}{enc:Qaq×Qan->H}{w:Qam}{b0:Nat}{spare:Nat->Bool}{held:Bool}{r:Reach}{v:Qan}{x:DataW H}{ps:List MemPlace}(hval:Value.okWide Tryz.prog w r b0 37 v) (hd:DataW.Trod enc Tryz.prog w 0 spare held 37 v x ps) :
  ∃ k,v=kyV k/\InK k:=by
 obtain⟨cs,rfl,_⟩:=okWide_struct Tryz.underlying37 hval;obtain⟨s,hs⟩:=Zmv Zz7 hd;obtain⟨h1,h2⟩:=Ztq hs;exact⟨s,by obtain⟨cs⟩:=cs;simp[Value.cells] at h1;rw[h1],h2⟩
def Zsc (a b:Int):Int:=if a<b then -1 else if b<a then 1 else 0
theorem Zi8 {a b:Int}(h:a<b):Zsc a b = -1:=if_pos h
theorem Zij {a b:Int}(h:b<a):Zsc a b=1:=by unfold Zsc;rw[if_neg (by omega),if_pos h]
theorem Zio {a b:Int}(h:a=b):Zsc a b=0:=by subst h;simp[Zsc]
theorem Zr8 (a b:Int):Zkh (Zsc a b):=by
 unfold Zsc;split
 ·exact⟨by decide,by decide⟩
 ·split <;> exact⟨by decide,by decide⟩
def Zn (a b:Ky):Bool:=if a.1.toNat≠b.1.toNat then decide (a.1.toNat<b.1.toNat) else if a.2.1≠b.2.1 then decide (a.2.1<b.2.1) else decide (a.2.2<b.2.2)
theorem Z1n (a b c:Int):orN [a,b,c]=if a≠0 then a else if b≠0 then b else c:=by{
 unfold orN;by_cases h:a=0
 ·subst h
  by_cases h:b=0
  ·subst h
   by_cases h:c=0
   ·subst h;rfl
   ·simp[h]
  ·simp[h]
 ·simp[h]}
theorem Z7j (a b:Ky):decide (orN [Zsc a.1.toNat b.1.toNat,Zsc a.2.1 b.2.1,Zsc a.2.2 b.2.2]<0)=Zn a b:=by{
 rw[Z1n];unfold Zn;have z:¬ (0:Int)≠0:=by omega
 have m1:(-1:Int)≠0:=by omega
 have p1:(1:Int)≠0:=by omega
 rcases Nat.lt_trichotomy a.1.toNat b.1.toNat with h | h | h
 ·rw[Zi8 (by omega),if_pos m1,if_pos (show a.1.toNat≠b.1.toNat by omega)];simp[h]
 ·rw[Zio (show (a.1.toNat:Int)=b.1.toNat by omega),if_neg z,if_neg (show ¬ a.1.toNat≠b.1.toNat by omega)]
  rcases Int.lt_trichotomy a.2.1 b.2.1 with h1 | h1 | h1
  ·rw[Zi8 h1,if_pos m1,if_pos (show a.2.1≠b.2.1 by omega)];simp[h1]
  ·rw[Zio h1,if_neg z,if_neg (show ¬ a.2.1≠b.2.1 by omega)]
   rcases Int.lt_trichotomy a.2.2 b.2.2 with h2 | h2 | h2
   ·rw[Zi8 h2];simp[h2]
   ·rw[Zio h2];simp[h2]
   ·rw[Zij h2,decide_eq_false (show ¬ (1:Int)<0 by omega),decide_eq_false (show ¬ a.2.2<b.2.2 by omega)]
  ·rw[Zij h1,if_pos p1,if_pos (show a.2.1≠b.2.1 by omega),decide_eq_false (show ¬ (1:Int)<0 by omega),decide_eq_false (show ¬ a.2.1<b.2.1 by omega)]
 ·rw[Zij (show (b.1.toNat:Int)<a.1.toNat by omega),if_pos p1,if_pos (show a.1.toNat≠b.1.toNat by omega),decide_eq_false (show ¬ (1:Int)<0 by omega),decide_eq_false (show ¬ a.1.toNat<b.1.toNat by omega)]}
theorem Zlj (a:Int) (w:Qam):Qat Tryz.prog 133 #[.int .u8 a] w fun e w'=>e=.returned (.bool false)/\w=w':=by
 go_enter Tryz.func133,Tryz.ntmps133
 go_wp2_with fail
 go_ret;exact⟨Yn (by simp),rfl⟩
theorem Zgq (a:Int) (w:Qam):Qat Tryz.prog 134 #[.int .u32 a] w fun e w'=>e=.returned (.bool false)/\w=w':=by
 go_enter Tryz.func134,Tryz.ntmps134
 go_wp2_with fail
 go_ret;exact⟨Yn (by simp),rfl⟩
theorem Z41 (a b:Int) (w:Qam):Qat Tryz.prog 96 #[.int .u8 a,.int .u8 b] w fun e w'=>e=.returned (.int .i64 (Zsc a b))/\w=w':=by{
 rcases Int.lt_trichotomy a b with h | h | h
 ·rw[Zi8 h]
  go_enter Tryz.func96,Tryz.ntmps96
  go_wp2_with fail
  with_reducible refine(Zlj a _).mono ?_
  rintro e w1 ⟨rfl,rfl⟩
  go_wp2_with fail
  with_reducible refine(Zlj b _).mono ?_
  rintro e w1 ⟨rfl,rfl⟩
  go_wp2_with fail
  go_ret;exact⟨rfl,rfl⟩
 ·rw[Zio h]
  subst h
  go_enter Tryz.func96,Tryz.ntmps96
  go_wp2_with fail
  with_reducible refine(Zlj a _).mono ?_
  rintro e w1 ⟨rfl,rfl⟩
  go_wp2_with fail
  with_reducible refine(Zlj a _).mono ?_
  rintro e w1 ⟨rfl,rfl⟩
  go_wp2_with fail
  go_ret;exact⟨rfl,rfl⟩
 ·rw[Zij h]
  have h2:¬ a<b:=by omega
  go_enter Tryz.func96,Tryz.ntmps96
  go_wp2_with fail
  with_reducible refine(Zlj a _).mono ?_
  rintro e w1 ⟨rfl,rfl⟩
  go_wp2_with fail
  with_reducible refine(Zlj b _).mono ?_
  rintro e w1 ⟨rfl,rfl⟩
  go_wp2_with fail
  go_ret;exact⟨rfl,rfl⟩}
theorem Zo5 (a b:Int) (w:Qam):Qat Tryz.prog 97 #[.int .u32 a,.int .u32 b] w fun e w'=>e=.returned (.int .i64 (Zsc a b))/\w=w':=by{
 rcases Int.lt_trichotomy a b with h | h | h
 ·rw[Zi8 h]
  go_enter Tryz.func97,Tryz.ntmps97
  go_wp2_with fail
  with_reducible refine(Zgq a _).mono ?_
  rintro e w1 ⟨rfl,rfl⟩
  go_wp2_with fail
  with_reducible refine(Zgq b _).mono ?_
  rintro e w1 ⟨rfl,rfl⟩
  go_wp2_with fail
  go_ret;exact⟨rfl,rfl⟩
 ·rw[Zio h]
  subst h
  go_enter Tryz.func97,Tryz.ntmps97
  go_wp2_with fail
  with_reducible refine(Zgq a _).mono ?_
  rintro e w1 ⟨rfl,rfl⟩
  go_wp2_with fail
  with_reducible refine(Zgq a _).mono ?_
  rintro e w1 ⟨rfl,rfl⟩
  go_wp2_with fail
  go_ret;exact⟨rfl,rfl⟩
 ·rw[Zij h]
  have h2:¬ a<b:=by omega
  go_enter Tryz.func97,Tryz.ntmps97
  go_wp2_with fail
  with_reducible refine(Zgq a _).mono ?_
  rintro e w1 ⟨rfl,rfl⟩
  go_wp2_with fail
  with_reducible refine(Zgq b _).mono ?_
  rintro e w1 ⟨rfl,rfl⟩
  go_wp2_with fail
  go_ret;exact⟨rfl,rfl⟩}
theorem Z1j (v:Qan) (xs:List Int) (w:Qam) (h:Zo8 (Old w) w [v] xs) :
  Qat Tryz.prog 95 #[v] w fun e w'=>e=.returned (.int .i64 (orN xs))/\w=w':=by{
 obtain⟨A,c,rfl,l1,m1,hA⟩:=Zgv h;have HA:=Za hA;clear hA h;obtain⟨n,hn⟩:∃ n,xs.length=n:=⟨_,rfl⟩
 rw[hn] at l1 ⊢;replace hn:=Za hn
 go_enter Tryz.func95,Tryz.ntmps95
 go_wp2_with fail
 go_loop [8] (fun i=>∃ k:Nat,k<=n/\i=.int .i64 k/\∀ y∈xs.take k,y=0) (fun i=>n-(intOf i).toNat)
 case atStart=>exact⟨0,by omega,rfl,fun y hy=>by simp at hy⟩
 case round =>
  obtain⟨k,hk,rfl,ha⟩:=hrel;replace ha:=Za ha;by_cases hlt:k<n
  ·obtain⟨x,hx⟩:∃ x,xs[k]? = some x:=⟨_,Qe (by rw[hn.out];exact hlt)⟩
   obtain⟨ad,rfl,hok,hc,_⟩:=HA.out k x hx;replace hx:=Za hx;by_cases e:x=0
   ·have he:(x != 0)=false:=by simpa using e
    replace e:=Za e
    go_wp2_with fail
    go_round
    case rel=>exact⟨k+1,by omega,by go_num,fun y hy=>by
     rw[Qu,hx.out] at hy;simp at hy;rcases hy with hy | hy
     ·exact ha.out y hy
     ·rw[hy];exact e.out⟩
    case measure=>simp[intOf];omega
   ·have he:(x != 0)=true:=by simpa using e
    have hor:=Za (Ztn ha.out hx.out e);clear e
    go_wp2_with fail
    go_ret;exact⟨Z1 hor.out.symm,rfl⟩
  ·have hge:n<=k:=by omega
   have hor:Hid (orN xs=0):=Za (Zub (by
    have:=ha.out
    rwa [Qf (by rw[hn.out];exact hge)] at this))
   go_wp2_with fail
   go_ret;exact⟨Z1 hor.out.symm,rfl⟩}
theorem Zee (a b:Ky) (w:Qam) :
  Qat Tryz.prog 56 #[kyV a,kyV b] w fun e w'=>e=.returned (.bool (Zn a b))/\Qau w.heap.size w w':=by{
 have hfin:=Za (Z7j a b);obtain⟨ak,ai,ao⟩:=a;obtain⟨bk,bi,bo⟩:=b;unfold kyV
 dsimp only at hfin ⊢
 generalize Zn (ak,ai,ao) (bk,bi,bo)=res at hfin ⊢;obtain⟨p,hp⟩:∃ p:Int,(ak.toNat:Int)=p:=⟨_,rfl⟩
 obtain⟨q,hq⟩:∃ q:Int,(bk.toNat:Int)=q:=⟨_,rfl⟩
 rw[hp,hq] at hfin ⊢;clear hp hq;obtain⟨w1,hw1,f1,f2,f3,hs1,hB1,_⟩:=Xd w (.int .u8 p) (.int .u32 ai) (.int .u32 ao) 37;obtain⟨w2,hw2,g1,g2,g3,hs2,hB2,_⟩:=Xd w1 (.int .u8 q) (.int .u32 bi) (.int .u32 bo) 37;have hB:=Za (hB1.trans (hB2.mono hB1.size));have k1:=(hB2.cell (p:=⟨w.heap.size,0,none⟩) (show w.heap.size<_ by omega)).trans f1;have k2:=(hB2.cell (p:=⟨w.heap.size,1,none⟩) (show w.heap.size<_ by omega)).trans f2;have k3:=(hB2.cell (p:=⟨w.heap.size,2,none⟩) (show w.heap.size<_ by omega)).trans f3;have lt1:w.heap.size<w2.heap.size:=by omega
 have lt2:w1.heap.size<w2.heap.size:=by omega
 have i1:=Za (Zr8 p q);have i2:=Za (Zr8 ai bi);have i3:=Za (Zr8 ao bo);obtain⟨c1,h1⟩:∃ c,Zsc p q=c:=⟨_,rfl⟩
 obtain⟨c2,h2⟩:∃ c,Zsc ai bi=c:=⟨_,rfl⟩
 obtain⟨c3,h3⟩:∃ c,Zsc ao bo=c:=⟨_,rfl⟩
 rw[h1] at i1 hfin;rw[h2] at i2 hfin;rw[h3] at i3 hfin;replace h1:=Za h1;replace h2:=Za h2;replace h3:=Za h3;obtain⟨c,hc⟩:∃ c,orN [c1,c2,c3]=c:=⟨_,rfl⟩
 rw[hc] at hfin;replace hc:=Za hc;clear f1 f2 f3 hB1 hB2;replace hs1:=Za hs1;replace hs2:=Za hs2
 go_enter Tryz.func56,Tryz.ntmps56
 go_upto_region 1 with fail
 clear hw1 hw2
 refine wp_region_fx (by kernel_rfl) (fun W=>Qau w2.heap.size w2 W) (fun i=>match i with
   | 15=>some (fun v W=>Zo8 (Old W) W [v] [c1,c2,c3])
   | _=>none) (fun i=>match i with
   | 4=>some (.int .i64 c1)
   | 9=>some (.int .i64 c2)
   | 14=>some (.int .i64 c3)
   | 16=>some (.int .i64 c)
   | _=>none) (by kernel_rfl) (Qb _ _).drew (fun w w' h hb=>h.trans (hb.mono h.size)) ?tst ?_
 case tst =>
  intro j φ x W W' hp hx hb
  match j,hp with
  | 15,hp=>cases hp;exact Z01.old hx hb
 repeat (first
  | (refine wpAs_skip rfl ?_;simp only[Qa,Zb,Zc,Zd])
  | (refine wpAs_pure (v := ?_) rfl rfl ?_ ?_;rotate_left;(intro W hC hE;clear hE;(have z1:=(hC.cell (p:=⟨w.heap.size,0,none⟩) lt1).trans k1;have z2:=(hC.cell (p:=⟨w1.heap.size,0,none⟩) lt2).trans g1);clear hC;go_simp;first | done | with_reducible rfl);simp only[Qa,Zb,Zc,Zd]))
 refine wpAs_fixed rfl rfl rfl ?_ ?_
 ·intro W hC hE
  refine does_enter (f:=96) (args:=#[.int .u8 p,.int .u8 q]) ?_ ?_
  ·go_simp
  ·refine(Z41 p q W).mono ?_
   rintro e w' ⟨rfl,rfl⟩;rw[h1.out];have hg:=Qb W.heap.size W;exact⟨_,rfl,rfl,hg⟩
 simp only[Qa,Zb,Zc,Zd]
 repeat (first
  | (refine wpAs_skip rfl ?_;simp only[Qa,Zb,Zc,Zd])
  | (refine wpAs_pure (v := ?_) rfl rfl ?_ ?_;rotate_left;(intro W hC hE;clear hE;(have z1:=(hC.cell (p:=⟨w.heap.size,1,none⟩) lt1).trans k2;have z2:=(hC.cell (p:=⟨w1.heap.size,1,none⟩) lt2).trans g2);clear hC;go_simp;first | done | with_reducible rfl);simp only[Qa,Zb,Zc,Zd]))
 refine wpAs_fixed rfl rfl rfl ?_ ?_
 ·intro W hC hE
  refine does_enter (f:=97) (args:=#[.int .u32 ai,.int .u32 bi]) ?_ ?_
  ·go_simp
  ·refine(Zo5 ai bi W).mono ?_
   rintro e w' ⟨rfl,rfl⟩;rw[h2.out];have hg:=Qb W.heap.size W;exact⟨_,rfl,rfl,hg⟩
 simp only[Qa,Zb,Zc,Zd]
 repeat (first
  | (refine wpAs_skip rfl ?_;simp only[Qa,Zb,Zc,Zd])
  | (refine wpAs_pure (v := ?_) rfl rfl ?_ ?_;rotate_left;(intro W hC hE;clear hE;(have z1:=(hC.cell (p:=⟨w.heap.size,2,none⟩) lt1).trans k3;have z2:=(hC.cell (p:=⟨w1.heap.size,2,none⟩) lt2).trans g3);clear hC;go_simp;first | done | with_reducible rfl);simp only[Qa,Zb,Zc,Zd]))
 refine wpAs_fixed rfl rfl rfl ?_ ?_
 ·intro W hC hE
  refine does_enter (f:=97) (args:=#[.int .u32 ao,.int .u32 bo]) ?_ ?_
  ·go_simp
  ·refine(Zo5 ao bo W).mono ?_
   rintro e w' ⟨rfl,rfl⟩;rw[h3.out];have hg:=Qb W.heap.size W;exact⟨_,rfl,rfl,hg⟩
 simp only[Qa,Zb,Zc,Zd];refine wpAs_act rfl rfl ?_ ?_
 ·intro W hC hE
  clear hE
  have hl:=Za (Zm8 W 3 [c1,c2,c3] #[.int .i64 c1,.int .i64 c2,.int .i64 c3] rfl (by simp) (fun x hx=>by
   simp at hx;rcases hx with rfl | rfl | rfl
   ·exact i1.out
   ·exact i2.out
   ·exact i3.out))
  clear hC
  go_simp
  exact⟨hl.out,(Qb _ _).alloc (Qc _) _⟩
 simp only[Qa,Zb,Zc,Zd,envAdd];intro x20;refine wpAs_fixed rfl rfl rfl ?_ ?_
 ·intro W hC hE
  have y20:=hE.1 rfl;refine does_enter (f:=95) (args:=#[x20]) ?_ ?_
  ·clear hE hC
   obtain⟨_,_,e,_⟩:=Zgv y20;cases e;clear y20
   go_simp
  ·refine(Z1j x20 _ W y20).mono ?_
   rintro e w' ⟨rfl,rfl⟩;rw[hc.out];exact⟨_,rfl,rfl,Qb _ _⟩
 simp only[Qa,Zb,Zc,Zd]
 repeat (first
  | (refine wpAs_skip rfl ?_;simp only[Qa,Zb,Zc,Zd])
  | (refine wpAs_pure (v := ?_) rfl rfl ?_ ?_;rotate_left;(intro W hC hE;clear hE;skip;clear hC;go_simp;first | done | with_reducible rfl);simp only[Qa,Zb,Zc,Zd]))
 refine wpAs_end fun W hC hE=> ?_
 clear hE
 go_wp2
 go_ret;exact⟨Yn (by rw[<- hfin.out]),hB.out.trans (hC.mono hB.out.size)⟩}
theorem Z45 (s:It) (n:Nat) (hn:s.2.2.length=n):(s.2.1=0/\n<=12/\Zbp s=true)\/(s.2.1=0/\12<n/\Zbp s=false)\/(s.2.1≠0/\s.2.1<8/\Zbp s=false)\/(s.2.1≠0/\¬ s.2.1<8/\256<=s.2.1/\Zbp s=false)\/(s.2.1≠0/\¬ s.2.1<8/\¬ 256<=s.2.1/\n<=12/\Zbp s=true)\/(s.2.1≠0/\¬ s.2.1<8/\¬ 256<=s.2.1/\12<n/\Zbp s=false):=by{
 subst hn;cases e:Zbp s with
 | true =>
  have:=Zaj e;simp only[and_true,reduceCtorEq,and_false,or_false,false_or];omega
 | false =>
  have:¬ ((s.2.1=0\/(8<=s.2.1/\s.2.1<256))/\s.2.2.length<=12):=fun h=>by rw[Zse h] at e;cases e
  simp only[and_true,reduceCtorEq,and_false,false_or];omega}
theorem Za6 (v:Qan) (s:It) (w:Qam) (h:Itm (Old w) w v s):Qat Tryz.prog 73 #[v] w fun e w'=>e=.returned (.int .i64 (Z5l s))/\Qau w.heap.size w w':=by{
 obtain⟨A,c,rfl,_,l1,m1,_⟩:=h.open;obtain⟨n,hn⟩:∃ n,s.2.2.length=n:=⟨_,rfl⟩
 have hw:=Z45 s n hn;unfold itV;rw[hn] at l1 ⊢;obtain⟨w0,hw0,f1,f2,f3,f4,f5,hs0,hB0,_⟩:=Z9 w (.int .u8 (s.1.1.toNat:Int)) (.int .u32 s.1.2.1) (.int .u32 s.1.2.2) (.int .i64 s.2.1) (.slice A n c) 54;clear f1 f2 f3 hs0 hn h;have HB0:=Za hB0;clear hB0;obtain⟨r,hr⟩:∃ r,s.2.1=r:=⟨_,rfl⟩
 rw[hr] at hw f4 ⊢;rw[hr] at hw0;clear hr;rcases hw with ⟨rfl,h1,hm⟩ | ⟨rfl,h1,hm⟩ | ⟨h0,h1,hm⟩ | ⟨h0,h1,h2,hm⟩ | ⟨h0,h1,h2,h3,hm⟩ | ⟨h0,h1,h2,h3,hm⟩
 ·have hc:=Za (Zdq hm)
  have i1:¬ (12:Int)<n:=by omega
  clear hm;rw[hc.out]
  go_enter Tryz.func73,Tryz.ntmps73
  go_upto_region 1 with fail
  clear hw0
  go_wp2_with fail
  go_ret;exact⟨rfl,HB0.out⟩
 ·have hc:=Za (Zax hm)
  have i1:(12:Int)<n:=by omega
  clear hm;rw[hc.out]
  go_enter Tryz.func73,Tryz.ntmps73
  go_upto_region 1 with fail
  clear hw0
  go_wp2_with fail
  go_ret;exact⟨rfl,HB0.out⟩
 ·have hc:=Za (Zax hm)
  have t0:(r != 0)=true:=by simpa using h0
  have t1:(r==0)=false:=by simpa using h0
  clear h0;clear hm;rw[hc.out]
  go_enter Tryz.func73,Tryz.ntmps73
  go_upto_region 1 with fail
  clear hw0
  go_wp2_with fail
  go_ret;exact⟨rfl,HB0.out⟩
 ·have hc:=Za (Zax hm)
  have t0:(r != 0)=true:=by simpa using h0
  have t1:(r==0)=false:=by simpa using h0
  clear h0;clear hm;rw[hc.out]
  go_enter Tryz.func73,Tryz.ntmps73
  go_upto_region 1 with fail
  clear hw0
  go_wp2_with fail
  go_ret;exact⟨rfl,HB0.out⟩
 ·have hc:=Za (Zdq hm)
  have t0:(r != 0)=true:=by simpa using h0
  have t1:(r==0)=false:=by simpa using h0
  have i4:¬ (12:Int)<n:=by omega
  clear h0;clear hm;rw[hc.out]
  go_enter Tryz.func73,Tryz.ntmps73
  go_upto_region 1 with fail
  clear hw0
  go_wp2_with fail
  go_ret;exact⟨rfl,HB0.out⟩
 ·have hc:=Za (Zax hm)
  have t0:(r != 0)=true:=by simpa using h0
  have t1:(r==0)=false:=by simpa using h0
  have i4:(12:Int)<n:=by omega
  clear h0;clear hm;rw[hc.out]
  go_enter Tryz.func73,Tryz.ntmps73
  go_upto_region 1 with fail
  clear hw0
  go_wp2_with fail
  go_ret;exact⟨rfl,HB0.out⟩}
def Zml (s o:It):Bool:=decide (s=o)
theorem Zw5 (s:It):Zml s s=true:=by simp[Zml]
theorem Z3y {s o:It}(h:Zml s o=true):s=o:=by simpa [Zml] using h
theorem Zwx (a1 b1:UInt8) (a2 b2 a3 b3 a4 b4:Int) (a5 b5:List UInt8):Zml ((a1,a2,a3),a4,a5) ((b1,b2,b3),b4,b5)=decide ((a1.toNat:Int)=b1.toNat/\a2=b2/\a3=b3/\a4=b4/\a5=b5):=by{
 unfold Zml;rw[Bool.eq_iff_iff];simp only[Prod.mk.injEq,decide_eq_true_eq];have h:a1=b1↔(a1.toNat:Int)=b1.toNat:=⟨fun h=>by rw[h],fun h=>UInt8.toNat.inj (by omega)⟩
 rw[h];constructor
 ·rintro⟨⟨h1,h2,h3⟩,h4,h5⟩;exact⟨h1,h2,h3,h4,h5⟩
 ·rintro⟨h1,h2,h3,h4,h5⟩;exact⟨⟨h1,h2,h3⟩,h4,h5⟩}
theorem Z14 (v u:Qan) (s o:It) (w:Qam) (hv:Itm (Old w) w v s) (hu:Itm (Old w) w u o) :
  Qat Tryz.prog 40 #[v,u] w fun e w'=>e=.returned (.bool (Zml s o))/\Qau w.heap.size w w':=by{
 obtain⟨A,c,rfl,_,_,_,rv⟩:=hv.open;obtain⟨B,c',rfl,_,_,_,ru⟩:=hu.open;obtain⟨⟨a1,a2,a3⟩,a4,a5⟩:=s;obtain⟨⟨b1,b2,b3⟩,b4,b5⟩:=o;unfold itV
 dsimp only at *
 have hfin:=Za (Zwx a1 b1 a2 b2 a3 b3 a4 b4 a5 b5);generalize Zml ((a1,a2,a3),a4,a5) ((b1,b2,b3),b4,b5)=res at hfin ⊢;obtain⟨w1,hw1,f1,f2,f3,f4,f5,hs1,hB1,_⟩:=Z9 w (.int .u8 (a1.toNat:Int)) (.int .u32 a2) (.int .u32 a3) (.int .i64 a4) (.slice A a5.length c) 54;obtain⟨w2,hw2,g1,g2,g3,g4,g5,hs2,hB2,_⟩:=Z9 w1 (.int .u8 (b1.toNat:Int)) (.int .u32 b2) (.int .u32 b3) (.int .i64 b4) (.slice B b5.length c') 54;have hB:=hB1.trans (hB2.mono hB1.size);have k1:=(hB2.cell (p:=⟨w.heap.size,0,none⟩) (show w.heap.size<_ by omega)).trans f1;have k2:=(hB2.cell (p:=⟨w.heap.size,1,none⟩) (show w.heap.size<_ by omega)).trans f2;have k3:=(hB2.cell (p:=⟨w.heap.size,2,none⟩) (show w.heap.size<_ by omega)).trans f3;have k4:=(hB2.cell (p:=⟨w.heap.size,3,none⟩) (show w.heap.size<_ by omega)).trans f4;have k5:=(hB2.cell (p:=⟨w.heap.size,4,none⟩) (show w.heap.size<_ by omega)).trans f5;have xv:=Za (Zf.old rv hB);have xu:=Za (Zf.old ru hB);clear f1 f2 f3 f4 f5 hv hu rv ru hB1 hB2;replace hB:=Za hB;replace hs1:=Za hs1;replace hs2:=Za hs2;replace hw2:=Za hw2
 go_enter Tryz.func40,Tryz.ntmps40
 go_upto_region 1 with fail
 rw[hw2.out];clear hw1 hw2;generalize (a1.toNat:Int)=p at *;generalize (b1.toNat:Int)=q at *;by_cases e1:p=q
 case neg =>
  have t1:(p==q)=false:=by simpa using e1
  have hne:=Za (show res=false by rw[hfin.out];simp[e1])
  go_wp2_with fail
  go_ret;exact⟨Yn hne.out.symm,hB.out⟩
 by_cases e2:a2=b2
 case neg =>
  have t1:(p==q)=true:=by simpa using e1
  have t2:(a2==b2)=false:=by simpa using e2
  have hne:=Za (show res=false by rw[hfin.out];simp[e2])
  go_wp2_with fail
  go_ret;exact⟨Yn hne.out.symm,hB.out⟩
 by_cases e3:a3=b3
 case neg =>
  have t1:(p==q)=true:=by simpa using e1
  have t2:(a2==b2)=true:=by simpa using e2
  have t3:(a3==b3)=false:=by simpa using e3
  have hne:=Za (show res=false by rw[hfin.out];simp[e3])
  go_wp2_with fail
  go_ret;exact⟨Yn hne.out.symm,hB.out⟩
 by_cases e4:a4=b4
 case neg =>
  have t1:(p==q)=true:=by simpa using e1
  have t2:(a2==b2)=true:=by simpa using e2
  have t3:(a3==b3)=true:=by simpa using e3
  have t4:(a4==b4)=false:=by simpa using e4
  have hne:=Za (show res=false by rw[hfin.out];simp[e4]);clear e4
  go_wp2_with fail
  go_ret;exact⟨Yn hne.out.symm,hB.out⟩
 have t4:(a4==b4)=true:=by simpa using e4
 have hne:=Za (show res=decide (a5=b5) by rw[hfin.out];simp[e1,e2,e3,e4]);clear e4
 go_wp2_with fail
 with_reducible refine(Z18 _ _ a5 b5 _ xv.out xu.out).mono ?_
 rintro e w3 ⟨rfl,rfl⟩
 go_wp2_with fail
 go_ret;exact⟨Yn hne.out.symm,hB.out⟩}
theorem Z49 {W:Qam}{g:Nat}{a b c d e u:Qan}{t:Qaq}(h:W.heap[g]? = some (.cells #[a,b,c,d,e] t (0,0))):∃ W1,W.setCell ⟨g,4,none⟩ u=W1/\W1.heap[g]? = some (.cells #[a,b,c,d,u] t (0,0))/\W.grownBy W1 (some g)/\W1.heap.size=W.heap.size :=
 ⟨_,rfl,by simp[Pz,P1,h],Ys (p:=⟨g,4,none⟩) (Xb W (some g)) rfl u,by simp⟩
theorem Zzu (v:Qan) (s:It) (w:Qam) (hbig:s.2.2.length<=1000000000) (h:Itm (Old w) w v s) :
  Qat Tryz.prog 173 #[v] w fun e w'=>∃ u,e=.returned u/\Itm (New w.heap.size w') w' u s/\Qau w.heap.size w w':=by{
 obtain⟨A,c,rfl,hin,_,_,rv⟩:=h.open;obtain⟨⟨a1,a2,a3⟩,a4,a5⟩:=s;unfold itV
 dsimp only at *
 obtain⟨w1,hw1,f1,f2,f3,f4,f5,hs1,hB1,b1⟩:=Z9 w (.int .u8 (a1.toNat:Int)) (.int .u32 a2) (.int .u32 a3) (.int .i64 a4) (.slice A a5.length c) 54;obtain⟨w2,hw2,_,_,_,_,_,hs2,hB2,b2⟩:=Z9 w1 (.int .u8 0) (.int .u32 0) (.int .u32 0) (.int .i64 0) (.slice none 0 0) 54;have hB:=hB1.trans (hB2.mono hB1.size);have lt1:w.heap.size<w1.heap.size:=by omega
 have lt2:w1.heap.size<w2.heap.size:=by omega
 have b1':=Za ((hB2.block w.heap.size lt1).trans b1);have k5:=(hB2.cell (p:=⟨w.heap.size,4,none⟩) lt1).trans f5;have xv:=Za (Zf.old rv hB);clear f1 f2 f3 f4 f5 h rv hB1 hB2 b1;replace hB:=Za hB;replace hs1:=Za hs1;replace hs2:=Za hs2;replace b2:=Za b2;replace hw2:=Za hw2;replace hbig:=Za hbig
 go_enter Tryz.func173,Tryz.ntmps173
 go_upto_region 1 with fail
 rw[hw2.out];clear hw1 hw2
 go_wp2_with fail
 with_reducible refine(Zaq _ a5 _ (by have:=hbig.out;omega) xv.out).mono ?_
 rintro e w3 ⟨u,rfl,hu,hb3⟩;have lt3:w2.heap.size<=w3.heap.size:=hb3.size;have c1:=(hb3.block w.heap.size (by omega)).trans b1'.out;have c2:=(hb3.block w1.heap.size (by omega)).trans b2.out;obtain⟨k0,k1,k2,k3,_,kf,_⟩:=Zs c1;obtain⟨w4,hw4,d1,gr4,gs4⟩:=Z49 (u:=u) c1;obtain⟨l0,l1,l2,l3,l4,_,_⟩:=Zs d1;have d2:=(gr4.block w1.heap.size (by omega) (by simp;omega)).trans c2;obtain⟨W9,hW9,g9,gr9,gs9⟩:=Uz (u0:=.int .u8 (a1.toNat:Int)) (u1:=.int .u32 a2) (u2:=.int .u32 a3) (u3:=.int .i64 a4) (u4:=u) d2;obtain⟨m0,m1,m2,m3,m4,_,_⟩:=Zs g9;obtain⟨n0,n1,n2,n3,n4,nf,_⟩:=Zs d2;have B3:=hB.out.trans (hb3.mono hB.out.size);have B4:=B3.grown gr4 B3.size (fun q e=>by cases e;omega);have B9:=Za (B4.grown gr9 B4.size (fun q e=>by cases e;omega))
 have hfin:Hid (Itm (New w.heap.size W9) W9 (.agg #[.int .u8 (a1.toNat:Int),.int .u32 a2,.int .u32 a3,.int .i64 a4,u]) ((a1,a2,a3),a4,a5)):=Za ⟨u,rfl,hin,by
  have h1:=Zf.grown hu gr4 (fun q e=>by cases e;omega);have h2:=Zf.grown h1 gr9 (fun q e=>by cases e;omega)
  exact Zf.mono h2 (by omega)⟩
 obtain⟨_,_,rfl,_⟩:=id (Zt hu);clear c1 c2 d1 d2 g9 gr4 gr9 hu B3 B4 hb3 lt3;replace hs1:=Za lt1;replace hs2:=Za lt2;clear lt1 lt2
 go_wp2_with fail
 exact Qar (v:=.agg #[.int .u8 (a1.toNat:Int),.int .u32 a2,.int .u32 a3,.int .i64 a4,.slice _ _ _]) (by simp[results,Tryz.results173,go_sem,m0,m1,m2,m3,m4]) rfl ⟨_,rfl,hfin.out,B9.out⟩}
theorem Z4f (s:It):[[s.1.1],le 4 s.1.2.1,le 4 s.1.2.2,le 2 s.2.1,[UInt8.ofNat s.2.2.length],s.2.2].flatten=itB s:=by simp[itB]
theorem Zv4 (v:Qan) (s:It) (w:Qam) (h:Itm (Old w) w v s) (hm:Zbp s=true) :
  Qat Tryz.prog 123 #[v] w fun e w'=>∃ u,e=.returned (.tuple #[u,.int .i64 0])/\rBy (New w.heap.size w') w' [u] (itB s)/\Qau w.heap.size w w':=by{
 have hmay:=Zaj hm;have hchk:=Za (Zdq hm);have hlen:=Za (Zce s);obtain⟨A,c,rfl,hin,l1,m1,rv⟩:=h.open;obtain⟨⟨⟨g0,g1⟩,⟨n0,n1⟩⟩,_⟩:=hin;have hhead:=Za (Z4f s);obtain⟨w0,hw0,f1,f2,f3,f4,f5,hs0,hB0,_⟩:=Z9 w (.int .u8 (s.1.1.toNat:Int)) (.int .u32 s.1.2.1) (.int .u32 s.1.2.2) (.int .i64 s.2.1) (.slice A s.2.2.length c) 54;have H0:=Za (h.below hB0);have RV:=Za (Zf.old rv hB0);clear rv;obtain⟨n,hn⟩:∃ n,s.2.2.length=n:=⟨_,rfl⟩
 unfold itV at H0 ⊢;rw[hn] at l1 f5 H0 hw0 RV hmay hlen hhead ⊢;have h12:n<=12:=hmay.2;have hr0:0<=s.2.1/\s.2.1<65536:=by have:=hmay.1;omega
 have hu8:((UInt8.ofNat n).toNat:Int)=(n:Int):=by
  rw[UInt8.toNat_ofNat'];omega
 have HU:=Za hu8;have HWR:=Za (show IntKind.u8.wrap (n:Int)=n by rw[IntKind.wrap_u8'];omega);obtain⟨p,hp⟩:∃ p:Int,(s.1.1.toNat:Int)=p:=⟨_,rfl⟩
 have HP:=Za hp;rw[hp] at f1 hw0 H0 ⊢;clear hp hmay;replace hn:=Za hn;have lt0:w.heap.size<w0.heap.size:=by omega
 have HB0:=Za hB0;clear hB0 hs0 h hu8
 go_enter Tryz.func123,Tryz.ntmps123
 go_upto_region 1 with fail
 clear hw0
 go_wp2_with fail
 with_reducible refine(Za6 _ s _ H0.out).mono ?_
 rintro e1 w1 ⟨rfl,hb1⟩;rw[hchk.out];have B1:=Za hb1;replace f1:=(hb1.cell (p:=⟨w.heap.size,0,none⟩) lt0).trans f1;replace f2:=(hb1.cell (p:=⟨w.heap.size,1,none⟩) lt0).trans f2;replace f3:=(hb1.cell (p:=⟨w.heap.size,2,none⟩) lt0).trans f3;replace f4:=(hb1.cell (p:=⟨w.heap.size,3,none⟩) lt0).trans f4;replace f5:=(hb1.cell (p:=⟨w.heap.size,4,none⟩) lt0).trans f5;clear hb1 H0
 go_wp2_with fail
 with_reducible refine(Yai s.2.1 hr0.1 hr0.2 _).mono ?_
 rintro e2 w2 ⟨A2,rfl,y2,hb2⟩;have lt1:w.heap.size<w1.heap.size:=Qd lt0 B1.out.size;replace f1:=(hb2.cell (p:=⟨w.heap.size,0,none⟩) lt1).trans f1;replace f2:=(hb2.cell (p:=⟨w.heap.size,1,none⟩) lt1).trans f2;replace f3:=(hb2.cell (p:=⟨w.heap.size,2,none⟩) lt1).trans f3;replace f5:=(hb2.cell (p:=⟨w.heap.size,4,none⟩) lt1).trans f5;have B2:=Za (B1.out.trans (hb2.mono B1.out.size));replace y2:=Za y2;replace RV:=Za (Zf.old RV.out B2.out);have lt2:w.heap.size<w2.heap.size:=Qd lt1 hb2.size;clear f4 hb2
 go_wp2_with fail
 refine Zo2 (by kernel_rfl) (fun W=>Qau w2.heap.size w2 W) (fun i=>match i with
   | 3=>some (fun v W=>rBy (Old W) W [v] [s.1.1])
   | 7=>some (fun v W=>rBy (Old W) W [v] (le 4 s.1.2.1))
   | 11=>some (fun v W=>rBy (Old W) W [v] (le 4 s.1.2.2))
   | 17=>some (fun v W=>rBy (Old W) W [v] [UInt8.ofNat n])
   | 20=>some (fun v W=>rSl 1 rBy (Old W) W [v] [[s.1.1],le 4 s.1.2.1,le 4 s.1.2.2,le 2 s.2.1,[UInt8.ofNat n],s.2.2])
   | 21=>some (fun v W=>rBy (New w2.heap.size W) W [v] (itB s))
   | _=>none) (by kernel_rfl) (Qb _ _).drew (fun w w' h hb=>h.trans (hb.mono h.size)) ?tst ?_
 case tst =>
  intro j φ x W W' hp hx hb
  match j,hp with
  | 3,hp=>cases hp;exact Zf.old hx hb
  | 7,hp=>cases hp;exact Zf.old hx hb
  | 11,hp=>cases hp;exact Zf.old hx hb
  | 17,hp=>cases hp;exact Zf.old hx hb
  | 20,hp=>cases hp;exact(Uh Zf).old hx hb
  | 21,hp=>cases hp;exact Zf.new hx (Qc _) hb
 repeat (first
  | (refine wpAs_skip rfl ?_;simp only[Qa,Zb,Zc,Zd])
  | (refine wpAs_pure (v := ?_) rfl rfl ?_ ?_;rotate_left;(intro W hC hE;clear hE;(have z1:=(hC.cell (p:=⟨w.heap.size,0,none⟩) lt2).trans f1);clear hC;go_simp;first | done | with_reducible rfl);simp only[Qa,Zb,Zc,Zd]))
 refine wpAs_act rfl rfl ?_ ?_
 ·intro W hC hE
  clear hE hC;have hy2:=Za (Ztm W 5 s.1.1 p HP.out)
  go_simp
  exact⟨hy2.out,(Qb _ _).alloc (Qc _) _⟩
 simp only[Qa,Zb,Zc,Zd,envAdd];intro x24
 repeat (first
  | (refine wpAs_skip rfl ?_;simp only[Qa,Zb,Zc,Zd])
  | (refine wpAs_pure (v := ?_) rfl rfl ?_ ?_;rotate_left;(intro W hC hE;clear hE;(have z2:=(hC.cell (p:=⟨w.heap.size,1,none⟩) lt2).trans f2);clear hC;go_simp;first | done | with_reducible rfl);simp only[Qa,Zb,Zc,Zd]))
 refine wpAs_act rfl rfl ?_ ?_
 ·intro W hC hE
  clear hE;refine does_enter (f:=157) (args:=#[.int .u32 s.1.2.1]) ?_ ?_
  ·go_simp
  ·refine(Z1h s.1.2.1 g0 g1 W).mono ?_
   rintro e W' ⟨_,_,rfl,hy,hb⟩;exact⟨_,rfl,hy,hb⟩
 simp only[Qa,Zb,Zc,Zd,envAdd];intro x28
 repeat (first
  | (refine wpAs_skip rfl ?_;simp only[Qa,Zb,Zc,Zd])
  | (refine wpAs_pure (v := ?_) rfl rfl ?_ ?_;rotate_left;(intro W hC hE;clear hE;(have z3:=(hC.cell (p:=⟨w.heap.size,2,none⟩) lt2).trans f3);clear hC;go_simp;first | done | with_reducible rfl);simp only[Qa,Zb,Zc,Zd]))
 refine wpAs_act rfl rfl ?_ ?_
 ·intro W hC hE
  clear hE;refine does_enter (f:=157) (args:=#[.int .u32 s.1.2.2]) ?_ ?_
  ·go_simp
  ·refine(Z1h s.1.2.2 n0 n1 W).mono ?_
   rintro e W' ⟨_,_,rfl,hy,hb⟩;exact⟨_,rfl,hy,hb⟩
 simp only[Qa,Zb,Zc,Zd,envAdd];intro x32
 repeat (first
  | (refine wpAs_skip rfl ?_;simp only[Qa,Zb,Zc,Zd])
  | (refine wpAs_pure (v := ?_) rfl rfl ?_ ?_;rotate_left;(intro W hC hE;clear hE;(have hwz:=HWR.out;have z5:=(hC.cell (p:=⟨w.heap.size,4,none⟩) lt2).trans f5);clear hC;go_simp;first | done | with_reducible rfl);simp only[Qa,Zb,Zc,Zd]))
 refine wpAs_act rfl rfl ?_ ?_
 ·intro W hC hE
  clear hE hC;have hy2:=Za (Ztm W 5 (UInt8.ofNat n) (n:Int) HU.out)
  go_simp
  exact⟨hy2.out,(Qb _ _).alloc (Qc _) _⟩
 simp only[Qa,Zb,Zc,Zd,envAdd];intro x38
 repeat (first
  | (refine wpAs_skip rfl ?_;simp only[Qa,Zb,Zc,Zd])
  | (refine wpAs_pure (v := ?_) rfl rfl ?_ ?_;rotate_left;(intro W hC hE;clear hE;(have z5:=(hC.cell (p:=⟨w.heap.size,4,none⟩) lt2).trans f5);clear hC;go_simp;first | done | with_reducible rfl);simp only[Qa,Zb,Zc,Zd]))
 refine wpAs_act rfl rfl ?_ ?_
 ·intro W hC hE
  have y38:=hE.1 rfl;have y32:=hE.2.1 rfl;have y28:=hE.2.2.1 rfl;have y24:=hE.2.2.2.1 rfl
  have hl6:=Za (Z3q W 27 [x24,x28,x32,.slice A2 2 2,x38,.slice A n c] [[s.1.1],le 4 s.1.2.1,le 4 s.1.2.2,le 2 s.2.1,[UInt8.ofNat n],s.2.2] rfl (by simp) (fun i v x h1 h2=>by
   match i,h1,h2 with
   | 0,h1,h2=>cases h1;cases h2;exact y24
   | 1,h1,h2=>cases h1;cases h2;exact y28
   | 2,h1,h2=>cases h1;cases h2;exact y32
   | 3,h1,h2=>cases h1;cases h2;exact Zf.old y2.out hC
   | 4,h1,h2=>cases h1;cases h2;exact y38
   | 5,h1,h2=>cases h1;cases h2;exact Zf.old RV.out hC))
  obtain⟨_,_,rfl,_⟩:=Zt y24;obtain⟨_,_,rfl,_⟩:=Zt y28;obtain⟨_,_,rfl,_⟩:=Zt y32;obtain⟨_,_,rfl,_⟩:=Zt y38;clear hE hC y24 y28 y32 y38
  go_simp
  exact⟨hl6.out,(Qb _ _).alloc (Qc _) _⟩
 simp only[Qa,Zb,Zc,Zd,envAdd];intro x41;refine wpAs_act rfl rfl ?_ ?_
 ·intro W hC hE
  have y41:=hE.1 rfl;have hlen2:Zle [[s.1.1],le 4 s.1.2.1,le 4 s.1.2.2,le 2 s.2.1,[UInt8.ofNat n],s.2.2]=12+n:=by
   unfold Zle;rw[hhead.out,hlen.out]
  refine does_enter (f:=156) (args:=#[x41]) ?_ ?_
  ·clear hE hC hlen2
   obtain⟨_,_,e,_⟩:=Zde y41;cases e;clear y41
   go_simp
  ·refine(Zwj x41 _ W (by rw[hlen2];omega) y41).mono ?_
   rintro e W' ⟨u,rfl,ho,hb⟩;rw[hlen2,hhead.out] at ho;exact⟨_,rfl,Zf.mono (Zhi ho) hC.size,hb⟩
 simp only[Qa,Zb,Zc,Zd,envAdd];intro x42;refine wpAs_pure (v:=x42) rfl rfl ?_ ?_
 ·intro W hC hE
  clear hE hC
  go_simp
 simp only[Qa,Zb,Zc,Zd]
 repeat (first
  | (refine wpAs_skip rfl ?_;simp only[Qa,Zb,Zc,Zd])
  | (refine wpAs_pure (v := ?_) rfl rfl ?_ ?_;rotate_left;(intro W hC hE;clear hE;skip;clear hC;go_simp;first | done | with_reducible rfl);simp only[Qa,Zb,Zc,Zd]))
 refine wpAs_end fun W hC hE=> ?_
 have o42:=Za hE.1;clear hE;have BW:=Za (HB0.out.trans ((B2.out.trans (hC.mono B2.out.size)).mono HB0.out.size));clear hC
 go_wp2_with fail
 go_ret2
 exact⟨_,rfl,Zf.mono o42.out (Nat.le_of_lt lt2),BW.out⟩}
theorem Zqn (v:Qan) (s:It) (w:Qam) (h:Itm (Old w) w v s) :
  Qat Tryz.prog 123 #[v] w fun e w'=>∃ u,e=.returned (.tuple #[u,.int .i64 (Z5l s)])/\rBy (New w.heap.size w') w' [u] (wrI s)/\Qau w.heap.size w w':=by{
 cases hm:Zbp s with
 | true =>
  rw[Zdq hm,show wrI s=itB s by simp[wrI,hm]];exact Zv4 v s w h hm
 | false =>
  rw[Zax hm,show wrI s=[] by simp[wrI,hm]];have hchk:=Za (Zax hm);replace hm:=Za hm;obtain⟨A,c,rfl,_⟩:=h.open;obtain⟨w0,hw0,f1,f2,f3,f4,f5,hs0,hB0,_⟩:=Z9 w (.int .u8 (s.1.1.toNat:Int)) (.int .u32 s.1.2.1) (.int .u32 s.1.2.2) (.int .i64 s.2.1) (.slice A s.2.2.length c) 54;have H0:=Za (h.below hB0);have HB0:=Za hB0;clear hB0 hs0 h
  go_enter Tryz.func123,Tryz.ntmps123
  go_upto_region 1 with fail
  clear hw0
  go_wp2_with fail
  with_reducible refine(Za6 _ s _ H0.out).mono ?_
  rintro e1 w1 ⟨rfl,hb1⟩;rw[hchk.out];have BF:=Za (HB0.out.trans (hb1.mono HB0.out.size));clear hb1
  go_wp2_with fail
  go_ret2
  exact⟨_,rfl,Ziq _ _,BF.out⟩}
def Zek (b:List UInt8):Nat:=(b[11]?.getD 0).toNat
theorem Z1k (b:List UInt8):Zek b<256:=(b[11]?.getD 0).toNat_lt
def okC (b:List UInt8):Bool:=decide (12+Zek b<=b.length)
def Z7h (b:List UInt8):List UInt8:=if okC b then (b.drop 12).take (Zek b) else []
def Zwo (b:List UInt8):Int:=if okC b then 0 else 8
def Vo (b:List UInt8):It:=((b[0]?.getD 0,gv 4 b 1,gv 4 b 5),gv 2 b 9,(b.drop 12).take (Zek b))
def Zwf (b:List UInt8):It:=if okC b then Vo b else Zez
theorem Ze3 {b:List UInt8}(h:okC b=true):12+Zek b<=b.length:=by simpa [okC] using h
theorem Ybg {b:List UInt8}(h:okC b=false):¬ 12+Zek b<=b.length:=by simpa [okC] using h
theorem Zlr (b:List UInt8):InI (Vo b):=⟨⟨Z6b _ _,Z6b _ _⟩,Ybq _ _⟩
theorem Zkr {b:List UInt8}(h:okC b=true):(Vo b).2.2.length=Zek b:=by
 have:=Ze3 h;simp[Vo];omega
def okR (b:List UInt8):Bool:=okC b&&Zbp (Zwf b)
def itR (b:List UInt8):It:=if okR b then Vo b else Zez
def itN (b:List UInt8):Int:=if okR b then (12+Zek b:Int) else 0
def itE (b:List UInt8):Int:=if okR b then 0 else 8
theorem Zuu {ok:Qao->Prop}{w:Qam}{ad:Qao}{n c:Nat}{b:List UInt8}(h:rBy ok w [.slice (some ad) n c] b) (k m cap:Nat) (hk:k+m<=b.length) (hm:m<=cap) (hc:cap<=9223372036854775807):rBy ok w [.slice (some (ad.add k)) m cap] ((b.drop k).take m):=by{
 obtain⟨A,c',e,_,_,h4⟩:=h;cases e;have hl:((b.drop k).take m).length=m:=by simp;omega
 refine⟨some (ad.add k),cap,by rw[hl],by rw[hl];exact hm,hc,fun i x hi=> ?_⟩;have him:i<m:=by rw[<- hl];exact(Qj.1 hi).1
 have hi':b[k+i]? = some x:=by
  rw[List.getElem?_take_of_lt him,Pn] at hi;exact hi
 obtain⟨ad',vs,e1,e2,e3,e4⟩:=h4 (k+i) x hi';cases e1;refine⟨ad.add k,vs,rfl,e2,fun j v hj=> ?_,e4⟩;have:=e3 j v hj;rw[Zms,show k+(i*1+j)=(k+i)*1+j by omega];exact this}
theorem Zab (ok:Qao->Prop) (w:Qam) (A:Option Qao):rBy ok w [.slice A 0 0] []:=⟨A,0,rfl,by simp,by omega,fun i x h=>by simp at h⟩
theorem Z7z (ok:Qao->Prop) (v:Qan) (b:List UInt8) (w:Qam) (h:rBy ok w [v] b) :
  Qat Tryz.prog 192 #[v] w fun e w'=>∃ u,e=.returned (.tuple #[u,.int .i64 (Zwo b)])/\rBy ok w' [u] (Z7h b)/\w=w':=by{
 obtain⟨A,c,rfl,l1,m1,hy⟩:=Zt h;obtain⟨n,hn⟩:∃ n,b.length=n:=⟨_,rfl⟩
 have hcn:=Z1k b;cases hok:okC b with
 | false =>
  have hno:=Ybg hok;have hE:=Za (show Zwo b=8 by simp[Zwo,hok]);have hV:=Za (show Z7h b=[] by simp[Z7h,hok]);rw[hE.out,hV.out];by_cases h12:n<12
  ·have i1:(n:Int)<12:=by omega
   rw[hn] at l1 ⊢;clear hok hno hn hy h
   go_enter Tryz.func192,Tryz.ntmps192
   go_wp2_with fail
   go_ret2
   exact⟨_,rfl,Zab _ _ _,rfl⟩
  ·obtain⟨ad,rfl,_,hc⟩:=hy 11 (by omega)
   have h11:w.cell? ⟨ad.block,ad.off+11,none⟩=some (.int .u8 (Zek b:Int)):=by simpa [Addr.add,Zek] using hc
   obtain⟨k,hk⟩:∃ k,Zek b=k:=⟨_,rfl⟩
   rw[hk] at h11 hno hcn;rw[hn] at l1 hno ⊢;have i1:¬ (n:Int)<12:=by omega
   have i2:(n:Int)<12+k:=by omega
   clear hok hno hn hy h hc hk
   go_enter Tryz.func192,Tryz.ntmps192
   go_wp2_with fail
   go_ret2
   exact⟨_,rfl,Zab _ _ _,rfl⟩
 | true =>
  have hyes:=Ze3 hok;have hE:=Za (show Zwo b=0 by simp[Zwo,hok]);have hV:=Za (show Z7h b=(b.drop 12).take (Zek b) by simp[Z7h,hok]);rw[hE.out,hV.out];obtain⟨ad,rfl,_,hc⟩:=hy 11 (by omega);have h11:w.cell? ⟨ad.block,ad.off+11,none⟩=some (.int .u8 (Zek b:Int)):=by simpa [Addr.add,Zek] using hc
  obtain⟨k,hk⟩:∃ k,Zek b=k:=⟨_,rfl⟩
  rw[hk] at h11 hyes hcn ⊢;rw[hn] at l1 hyes ⊢;have i1:¬ (n:Int)<12:=by omega
  have i2:¬ (n:Int)<12+k:=by omega
  clear hok hE hV hc;rcases Pe k with h0 | h0
  ·subst h0
   rw[Qx]
   go_enter Tryz.func192,Tryz.ntmps192
   go_wp2_with fail
   go_ret2
   exact⟨_,rfl,Zab _ _ _,rfl⟩
  ·have hfin:Hid (rBy ok w [.slice (some ⟨ad.block,ad.off+12,none⟩) k k] ((b.drop 12).take k)):=Za (by
    have h1:ad.add 12=⟨ad.block,ad.off+12,none⟩:=by simp[Addr.add]
    have h2:=Zuu h 12 k k (by omega) (Qc _) (by omega)
    rwa [h1] at h2)
   have h0':¬ k=0:=by omega
   clear hy h hn hk
   go_enter Tryz.func192,Tryz.ntmps192
   go_wp2_with fail
   go_ret2
   exact⟨_,rfl,hfin.out,rfl⟩}
theorem Ybf {a b c:Int}(ha:a=0\/a=8) (hb:b=0\/b=8) (hc:c=0\/c=8):orN [a,b,c,8]=8:=by
 rcases ha with rfl | rfl <;> rcases hb with rfl | rfl <;> rcases hc with rfl | rfl <;> rfl
theorem Zqv (m n:Nat) (k:Int):ge m n k=0\/ge m n k=8:=by
 unfold ge;split
 ·exact Or.inl rfl
 ·exact Or.inr rfl
theorem Zqm {e:Int}(h:e=0\/e=8):Zkh e:=by
 rcases h with rfl | rfl <;> exact⟨by decide,by decide⟩
theorem Zq7 (ok:Qao->Prop) (v:Qan) (b:List UInt8) (w:Qam) (hok0:∀ p,ok p->p.block<w.heap.size) (h:rBy ok w [v] b) :
  Qat Tryz.prog 172 #[v] w fun e w'=>∃ u,e=.returned (.tuple #[u,.int .i64 (Zwo b)])/\Itm ok w' u (Zwf b)/\Qau w.heap.size w w':=by{
 obtain⟨A,c,rfl,l1,m1,hy⟩:=Vg (B:=w.heap.size) hok0 h;obtain⟨n,hn⟩:∃ n,b.length=n:=⟨_,rfl⟩
 have hin:=Za (Zlr b);have HO:=Za hok0;have hhead:okC b=true->∃ ad,A=some ad/\Old w ad/\w.cell? ad=some (.int .u8 ((b[0]?.getD 0).toNat:Int)):=fun hk=>by
  have:=Ze3 hk;obtain⟨ad,rfl,hb,hc⟩:=hy (by omega);exact⟨ad,rfl,hb,by have:=hc 0 (by omega);simpa [Addr.add] using this⟩
 replace hhead:=Za hhead;have hF:Hid (Zwf b=if okC b then Vo b else Zez):=Za rfl;have hE:Hid (Zwo b=if okC b then 0 else 8):=Za rfl;have hV:Hid (Z7h b=if okC b then (b.drop 12).take (Zek b) else []):=Za rfl;have hg1:=Zqv 4 n 1;have hg2:=Zqv 4 n 5;have hg3:=Zqv 2 n 9
 have hgy:Hid (okC b=true->ge 4 n 1=0/\ge 4 n 5=0/\ge 2 n 9=0):=Za (fun hk=>by
  have:=Ze3 hk
  exact⟨Zoh (by omega),Zoh (by omega),Zoh (by omega)⟩)
 rw[hn] at l1 h ⊢;have HL:=Za hn;have HY:=Za hy;have HV:=Za h;obtain⟨w0,hw0,_,_,_,_,_,hs0,hB0,b0⟩:=Z9 w (.int .u8 0) (.int .u32 0) (.int .u32 0) (.int .i64 0) (.slice none 0 0) 54;have lt0:w.heap.size<w0.heap.size:=by omega
 have HB0:=Za hB0;replace b0:=Za b0;replace hw0:=Za hw0;obtain⟨x0,hx0⟩:∃ x,b[0]?.getD 0=x:=⟨_,rfl⟩
 obtain⟨x1,hx1⟩:∃ x,gv 4 b 1=x:=⟨_,rfl⟩
 obtain⟨x2,hx2⟩:∃ x,gv 4 b 5=x:=⟨_,rfl⟩
 obtain⟨x3,hx3⟩:∃ x,gv 2 b 9=x:=⟨_,rfl⟩
 obtain⟨e1,he1⟩:∃ x,ge 4 n 1=x:=⟨_,rfl⟩
 obtain⟨e2,he2⟩:∃ x,ge 4 n 5=x:=⟨_,rfl⟩
 obtain⟨e3,he3⟩:∃ x,ge 2 n 9=x:=⟨_,rfl⟩
 rw[hx0] at hhead;rw[he1] at hg1 hgy;rw[he2] at hg2 hgy;rw[he3] at hg3 hgy;have hFE:=Za (show Vo b=((x0,x1,x2),x3,(b.drop 12).take (Zek b)) by rw[<- hx0,<- hx1,<- hx2,<- hx3];rfl);replace hx0:=Za hx0;replace hx1:=Za hx1;replace hx2:=Za hx2;replace hx3:=Za hx3;replace he1:=Za he1;replace he2:=Za he2;replace he3:=Za he3;replace hg1:=Za hg1;replace hg2:=Za hg2;replace hg3:=Za hg3;clear hB0 hs0 h hy hn hok0
 go_enter Tryz.func172,Tryz.ntmps172
 go_upto_region 1 with fail
 rw[hw0.out];clear hw0
 go_wp2_with fail
 with_reducible refine(Zjn _ n c 1 b HL l1 m1 _ ((HY.out.below HB0.out).more HB0.out.size)).mono ?_
 rintro f1 w1 ⟨rfl,hb1⟩;rw[he1.out,hx1.out];have B1:=Za (HB0.out.trans (hb1.mono HB0.out.size));have C1:=Za hb1;clear hb1
 go_wp2_with fail
 with_reducible refine(Zjn _ n c 5 b HL l1 m1 _ ((HY.out.below B1.out).more B1.out.size)).mono ?_
 rintro f2 w2 ⟨rfl,hb2⟩;rw[he2.out,hx2.out];have B2:=Za (B1.out.trans (hb2.mono B1.out.size));have C2:=Za (C1.out.trans (hb2.mono C1.out.size));clear hb2
 go_wp2_with fail
 with_reducible refine(Zwz _ n c 9 b HL l1 m1 _ ((HY.out.below B2.out).more B2.out.size)).mono ?_
 rintro f3 w3 ⟨rfl,hb3⟩;rw[he3.out,hx3.out];have B3:=Za (B2.out.trans (hb3.mono B2.out.size));have C3:=Za (C2.out.trans (hb3.mono C2.out.size));clear hb3
 go_wp2_with fail
 have hv3:Hid (rBy ok w3 [.slice A n c] b):=Za (Zf _ _ _ _ _ _ (fun p v hp hc=>⟨hp,(B3.out.cell (HO.out p hp)).trans hc⟩) HV.out);with_reducible refine(Z7z ok _ b _ hv3.out).mono ?_
 rintro f4 w4 ⟨u,rfl,hu,rfl⟩;cases hok:okC b with
 | false =>
  have hq:=Za (show Zwo b=8 by rw[hE.out,hok];rfl);have hz:=Za (show Zwf b=Zez by rw[hF.out,hok];rfl);rw[hq.out];obtain⟨w6,hw6,h6⟩:∃ w6,w3.alloc (.cells #[.int .i64 e1,.int .i64 e2,.int .i64 e3,.int .i64 8] 33)=w6/\Zo8 (Old w6) w6 [.slice (some ⟨w3.heap.size,0,none⟩) 4 4] [e1,e2,e3,8] :=
   ⟨_,rfl,Zm8 w3 33 [e1,e2,e3,8] _ rfl (by simp) (fun x hx=>by
    simp at hx;rcases hx with rfl | rfl | rfl | rfl
    ·exact Zqm hg1.out
    ·exact Zqm hg2.out
    ·exact Zqm hg3.out
    ·exact⟨by decide,by decide⟩)⟩
  have b6:Qau w3.heap.size w3 w6:=by rw[<- hw6];exact(Qb _ _).alloc (Qc _) _
  have B6:=Za (B3.out.trans (b6.mono B3.out.size));have C6:=Za (C3.out.trans (b6.mono C3.out.size));have hor:=Za (Ybf hg1.out hg2.out hg3.out);replace h6:=Za h6;replace hok:=Za hok;obtain⟨_,_,rfl,_⟩:=id (Zt hu);clear b6 hu
  go_wp2_with fail
  with_reducible refine(Z51 _ [e1,e2,e3,8] _ h6.out).mono ?_
  rintro f7 w7 ⟨rfl,rfl⟩;rw[hor.out];clear hw6;have b9:=(C6.out.block w.heap.size lt0).trans b0.out;obtain⟨W9,hW9,g9,gr9,gs9⟩:=Uz (u0:=.int .u8 0) (u1:=.int .u32 0) (u2:=.int .u32 0) (u3:=.int .i64 0) (u4:=.slice none 0 0) b9;obtain⟨k0,k1,k2,k3,k4,_,_⟩:=Zs g9;obtain⟨a0,a1,a2,a3,a4,af,_⟩:=Zs b9;have B9:=Za (B6.out.grown gr9 B6.out.size (fun q e=>by cases e;omega));replace b9:=Za b9;clear g9 gr9
  go_wp2_with fail
  exact Qar (v:=.tuple #[.agg #[.int .u8 0,.int .u32 0,.int .u32 0,.int .i64 0,.slice none 0 0],.int .i64 8]) (by simp[results,Tryz.results172,go_sem,k0,k1,k2,k3,k4]) rfl ⟨_,Zl7 hq.out.symm,by rw[hz.out];exact Zd7 _ _,B9.out⟩
 | true =>
  have hq:=Za (show Zwo b=0 by rw[hE.out,hok];rfl);have hz:=Za (show Zwf b=Vo b by rw[hF.out,hok];rfl);have hv:=Za (show Z7h b=(b.drop 12).take (Zek b) by rw[hV.out,hok];rfl);obtain⟨rfl,rfl,rfl⟩:=hgy.out hok;obtain⟨ad,rfl,Zai,hcell⟩:=hhead.out hok;rw[hq.out];rw[hv.out] at hu;obtain⟨L,hL⟩:∃ L,(b.drop 12).take (Zek b)=L:=⟨_,rfl⟩
  rw[hL] at hu;have hFL:=hFE.out;rw[hL] at hFL;replace hFL:=Za hFL;replace hL:=Za hL;obtain⟨w6,hw6,h6⟩:∃ w6,w3.alloc (.cells #[.int .i64 0,.int .i64 0,.int .i64 0,.int .i64 0] 33)=w6/\Zo8 (Old w6) w6 [.slice (some ⟨w3.heap.size,0,none⟩) 4 4] [0,0,0,0] :=
   ⟨_,rfl,Zm8 w3 33 [0,0,0,0] _ rfl (by simp) (fun x hx=>by
    simp at hx;subst hx
    exact⟨by decide,by decide⟩)⟩
  have b6:Qau w3.heap.size w3 w6:=by rw[<- hw6];exact(Qb _ _).alloc (Qc _) _
  have B6:=Za (B3.out.trans (b6.mono B3.out.size));have C6:=Za (C3.out.trans (b6.mono C3.out.size));have hor:Hid (orN [0,0,0,0]=0):=Za rfl;have hu6:Hid (rBy ok w6 _ L):=Za (Zf _ _ _ _ _ _ (fun p v hp hc=>⟨hp,(b6.cell (Qd (HO.out p hp) B3.out.size)).trans hc⟩) hu);have hn0:=Ze3 hok;have hnn:0<n:=by have:=HL.out;omega
  replace h6:=Za h6;replace hok:=Za hok;obtain⟨D,dc,rfl,_⟩:=id (Zt hu);clear b6 hu hn0
  go_wp2_with fail
  with_reducible refine(Z51 _ [0,0,0,0] _ h6.out).mono ?_
  rintro f7 w7 ⟨rfl,rfl⟩;rw[hor.out];clear hw6;have c0:=(B6.out.cell Zai).trans hcell;have b9:=(C6.out.block w.heap.size lt0).trans b0.out;obtain⟨W9,hW9,g9,gr9,gs9⟩:=Uz (u0:=.int .u8 (x0.toNat:Int)) (u1:=.int .u32 x1) (u2:=.int .u32 x2) (u3:=.int .i64 x3) (u4:=.slice D L.length dc) b9;obtain⟨k0,k1,k2,k3,k4,_,_⟩:=Zs g9;obtain⟨a0,a1,a2,a3,a4,af,_⟩:=Zs b9;have B9:=Za (B6.out.grown gr9 B6.out.size (fun q e=>by cases e;omega))
  have hfin:Hid (Itm ok W9 (.agg #[.int .u8 (x0.toNat:Int),.int .u32 x1,.int .u32 x2,.int .i64 x3,.slice D L.length dc]) (Zwf b)):=Za (by
   have h2:=hin.out;rw[hFL.out] at h2;rw[hz.out,hFL.out];refine⟨_,rfl,h2,Zf _ _ _ _ _ _ (fun p v hp hc=>⟨hp,?_⟩) hu6.out⟩;have hb:=gr9.block p.block (Qd (HO.out p hp) B6.out.size) (fun e=>by have h1:=Option.some.inj e;have h2:p.block<w.heap.size:=HO.out p hp;omega)
   exact(Qp hb).trans hc)
  replace b9:=Za b9;replace Zai:=Za Zai;clear g9 gr9 hcell
  go_wp2_with fail
  exact Qar (v:=.tuple #[.agg #[.int .u8 (x0.toNat:Int),.int .u32 x1,.int .u32 x2,.int .i64 x3,.slice D L.length dc],.int .i64 0]) (by simp[results,Tryz.results172,go_sem,k0,k1,k2,k3,k4]) rfl ⟨_,Zl7 hq.out.symm,hfin.out,B9.out⟩}
theorem Zfw (b:Bool):b=false\/b=true:=by cases b <;> simp
theorem Zkw {b:List UInt8}(h:okR b=true):okC b=true/\Zbp (Zwf b)=true:=by simpa [okR] using h
theorem Zwt (v:Qan) (b:List UInt8) (w:Qam) (h:rBy (Old w) w [v] b) :
  Qat Tryz.prog 148 #[v] w fun e w'=>∃ u,e=.returned (.tuple #[u,.int .i64 (itN b),.int .i64 (itE b)])/\Itm (New w.heap.size w') w' u (itR b)/\Qau w.heap.size w w':=by{
 obtain⟨A,c,rfl,_⟩:=id (Zt h);obtain⟨n,hn⟩:∃ n,b.length=n:=⟨_,rfl⟩
 have hE:Hid (itE b=if okR b then 0 else 8):=Za rfl;have hN:Hid (itN b=if okR b then (12+Zek b:Int) else 0):=Za rfl;have hR:Hid (itR b=if okR b then Vo b else Zez):=Za rfl;have hO:Hid (okR b=(okC b&&Zbp (Zwf b))):=Za rfl;obtain⟨w0,hw0,_,_,_,_,_,hs0,hB0,b0⟩:=Z9 w (.int .u8 0) (.int .u32 0) (.int .u32 0) (.int .i64 0) (.slice none 0 0) 54;have lt0:w.heap.size<w0.heap.size:=by omega
 have HV:Hid (rBy (Old w) w0 [.slice A b.length c] b):=Za (Zf _ _ _ _ _ _ (fun p v hp hc=>⟨hp,(hB0.cell hp).trans hc⟩) h);have HB0:=Za hB0;replace b0:=Za b0;replace hw0:=Za hw0;rw[hn] at HV ⊢;replace hn:=Za hn;clear hB0 hs0 h
 go_enter Tryz.func148,Tryz.ntmps148
 go_upto_region 1 with fail
 rw[hw0.out];clear hw0
 go_wp2_with fail
 with_reducible refine(Zq7 (Old w) _ b _ (fun p hp=>Q7 hp lt0) HV.out).mono ?_
 rintro f1 w1 ⟨u,rfl,hu,hb1⟩;have B1:=Za (HB0.out.trans (hb1.mono HB0.out.size));have C1:=Za hb1;have b1:=(hb1.block w.heap.size lt0).trans b0.out;have lt1:w.heap.size<w1.heap.size:=Qd lt0 hb1.size;have hF:Hid (Zwf b=if okC b then Vo b else Zez):=Za rfl;obtain⟨s,hs⟩:∃ s,Zwf b=s:=⟨_,rfl⟩
 rw[hs] at hu hO hF;replace hs:=Za hs;have hin:=hu.open;obtain⟨D,dc,rfl,hin,d1,d2,hu2⟩:=hin;obtain⟨W2,hW2,g2,gr2,gs2⟩:=Uz (u0:=.int .u8 (s.1.1.toNat:Int)) (u1:=.int .u32 s.1.2.1) (u2:=.int .u32 s.1.2.2) (u3:=.int .i64 s.2.1) (u4:=.slice D s.2.2.length dc) b1;obtain⟨a0,a1,a2,a3,a4,af,_⟩:=Zs b1;obtain⟨k0,k1,k2,k3,k4,kf,_⟩:=Zs g2;have B2:=Za (B1.out.grown gr2 B1.out.size (fun q e=>by cases e;omega))
 have hu3:Hid (Itm (Old w) W2 (itV s (.slice D s.2.2.length dc)) s):=Za (by
  refine⟨_,rfl,hin,Zf _ _ _ _ _ _ (fun p v hp hc=>⟨hp,?_⟩) hu2⟩
  exact(Qp (gr2.block p.block (Q7 hp lt1) (fun e=>by have h1:=Option.some.inj e;have h2:p.block<w.heap.size:=hp;omega))).trans hc)
 have hfinB:∀ (W:Qam),Qau W2.heap.size W2 W->okR b=false->∃ W9:Qam,(((((W.setCell ⟨w.heap.size,0,none⟩ (.int .u8 0)).setCell ⟨w.heap.size,1,none⟩ (.int .u32 0)).setCell ⟨w.heap.size,2,none⟩ (.int .u32 0)).setCell ⟨w.heap.size,3,none⟩ (.int .i64 0)).setCell ⟨w.heap.size,4,none⟩ (.slice none 0 0))=W9 /\
   W9.heap[w.heap.size]? = some (.cells #[.int .u8 0,.int .u32 0,.int .u32 0,.int .i64 0,.slice none 0 0] 54 (0,0))/\Hid (itE b=8/\itN b=0/\itR b=Zez/\Qau w.heap.size w W9):=fun W hW hno=>by
  obtain⟨W9,hW9,g9,gr9,gs9⟩:=Uz (u0:=.int .u8 0) (u1:=.int .u32 0) (u2:=.int .u32 0) (u3:=.int .i64 0) (u4:=.slice none 0 0) ((hW.block w.heap.size (by omega)).trans g2);have B:=B2.out.trans (hW.mono B2.out.size);exact⟨W9,hW9,g9,Za ⟨by rw[hE.out,hno];rfl,by rw[hN.out,hno];rfl,by rw[hR.out,hno];rfl,B.grown gr9 B.size (fun q e=>by cases e;omega)⟩⟩
 replace hfinB:=Za hfinB;replace b1:=Za b1;replace g2:=Za g2;replace gs2:=Za gs2;replace gr2:=Za gr2;clear hu hu2 hb1;rcases Zfw (okC b) with hok | hok
 ·skip
  have hq:=Za (show Zwo b=8 by simp[Zwo,hok]);have hno:okR b=false:=by simp[okR,hok]
  obtain⟨W9,hW9,g9,hz⟩:=hfinB.out W2 (Qb _ _) hno;obtain⟨m0,m1,m2,m3,m4,_,_⟩:=Zs g9;rw[hq.out];replace hok:=Za hok;replace hno:=Za hno;replace g9:=Za g9
  go_wp2_with fail
  exact Qar (v:=.tuple #[.agg #[.int .u8 0,.int .u32 0,.int .u32 0,.int .i64 0,.slice none 0 0],.int .i64 0,.int .i64 8]) (by simp[results,Tryz.results148,go_sem,m0,m1,m2,m3,m4]) rfl ⟨_,by rw[hz.out.1,hz.out.2.1],by rw[hz.out.2.2.1];exact Zd7 _ _,hz.out.2.2.2⟩
 ·skip
  have hq:=Za (show Zwo b=0 by simp[Zwo,hok]);have hsf:=Za (show s=Vo b by rw[hF.out,hok];rfl);have hcl:s.2.2.length=Zek b:=by rw[hsf.out];exact Zkr hok
  have hcn:=Z1k b;rw[hq.out];have hO2:=Za (show okR b=Zbp s by rw[hO.out,hok];rfl);replace hok:=Za hok;replace hcl:=Za hcl
  go_wp2_with fail
  with_reducible refine(Za6 _ s _ (hu3.out.map fun p v hp hc=>⟨Q7 hp (by have:=gs2.out;have:=C1.out.size;omega),hc⟩)).mono ?_
  rintro f2 w3 ⟨rfl,hb3⟩;have C3:=Za hb3;have lt2:w.heap.size<W2.heap.size:=by have:=gs2.out;omega
  have b3:=(hb3.block w.heap.size lt2).trans g2.out;obtain⟨q0,q1,q2,q3,q4,qf,_⟩:=Zs b3;clear k0 k1 k2 k3 k4 kf;have B3:=Za (B2.out.trans (hb3.mono B2.out.size));rcases Zfw (Zbp s) with hm | hm
  ·skip
   obtain⟨W9,hW9,g9,hz⟩:=hfinB.out w3 C3.out (by rw[hO2.out,hm]);obtain⟨m0,m1,m2,m3,m4,_,_⟩:=Zs g9;have hck:=Za (Zax hm);rw[hck.out];replace hm:=Za hm;replace g9:=Za g9;replace b3:=Za b3;clear hb3
   go_wp2_with fail
   exact Qar (v:=.tuple #[.agg #[.int .u8 0,.int .u32 0,.int .u32 0,.int .i64 0,.slice none 0 0],.int .i64 0,.int .i64 8]) (by simp[results,Tryz.results148,go_sem,m0,m1,m2,m3,m4]) rfl ⟨_,by rw[hz.out.1,hz.out.2.1],by rw[hz.out.2.2.1];exact Zd7 _ _,hz.out.2.2.2⟩
  ·skip
   have hck:=Za (Zdq hm);have hyes:okR b=true:=by rw[hO2.out,hm]
   have hE9:=Za (show itE b=0 by rw[hE.out,hyes];rfl);have hN9:=Za (show itN b=12+s.2.2.length by rw[hN.out,hyes,hcl.out];rfl);have hR9:=Za (show itR b=s by rw[hR.out,hyes,hsf.out];rfl);have h12:s.2.2.length<=12:=(Zaj hm).2
   have hu4:Hid (Itm (Old w3) w3 (itV s (.slice D s.2.2.length dc)) s):=Za (hu3.out.map fun p v hp hc=>by
    have h1:p.block<W2.heap.size:=Q7 hp (by have:=gs2.out;have:=C1.out.size;omega)
    exact⟨Qd h1 hb3.size,(hb3.cell h1).trans hc⟩)
   have lt3:w.heap.size<w3.heap.size:=Qd lt2 hb3.size;rw[hck.out];replace hm:=Za hm;replace hyes:=Za hyes;replace b3:=Za b3;clear hb3 a0 a1 a2 a3 a4 af
   go_wp2_with fail
   have HT:Hid (∀ W,Qau w3.heap.size w3 W->Qat Tryz.prog 173 #[itV s (.slice D s.2.2.length dc)] W fun e w'=>∃ X xc,e=.returned (itV s (.slice X s.2.2.length xc))/\Itm (New w3.heap.size w') w' (itV s (.slice X s.2.2.length xc)) s/\Qau w3.heap.size w3 w'):=Za fun W hC=>by
    refine(Zzu _ s W (by omega) (hu4.out.below hC)).mono ?_;rintro e W' ⟨x,rfl,hx,hb⟩;obtain⟨X,xc,rfl,_⟩:=id hx.open;exact⟨X,xc,rfl,hx.map fun p v hp hc=>⟨⟨Qh hC.size hp.1,hp.2⟩,hc⟩,hC.trans (hb.mono hC.size)⟩
   have hdr:Qau w3.heap.size w3 w3.drew:=(Qb _ _).drew;have hwr:IntKind.i64.wrap (12+(s.2.2.length:Int))=12+s.2.2.length:=by rw[IntKind.wrap_i64];omega
   go_region_with (first
    | (go_at_call 173;refine(HT.out _ hdr).mono ?_;rintro e' wm ⟨X,xc,rfl,hx,hw⟩;have bW:=(hw.block w.heap.size lt3).trans b3.out;obtain⟨c0,c1,c2,c3,c4,cf,_⟩:=Zs bW))
   all_goals
    (go_wp2_with fail
     obtain⟨W9,hW9,g9,gr9,gs9⟩:=Uz (u0:=.int .u8 (s.1.1.toNat:Int)) (u1:=.int .u32 s.1.2.1) (u2:=.int .u32 s.1.2.2) (u3:=.int .i64 s.2.1) (u4:=.slice X s.2.2.length xc) bW;obtain⟨m0,m1,m2,m3,m4,_,_⟩:=Zs g9;rw[hW9];have BW:=B3.out.trans (hw.mono B3.out.size)
     exact Qar (v:=.tuple #[.agg #[.int .u8 (s.1.1.toNat:Int),.int .u32 s.1.2.1,.int .u32 s.1.2.2,.int .i64 s.2.1,.slice X s.2.2.length xc],.int .i64 (12+s.2.2.length),.int .i64 0]) (by simp[results,Tryz.results148,go_sem,m0,m1,m2,m3,m4]) rfl ⟨_,by rw[hE9.out,hN9.out],by
      rw[hR9.out]
      exact(hx.grown gr9 (fun q e=>by cases e;omega)).map fun p v hp hc=>⟨⟨Qh B3.out.size hp.1,hp.2⟩,hc⟩,BW.grown gr9 BW.size (fun q e=>by cases e;omega)⟩)}
theorem Z87 (m:Nat) (n:Int) (xs ys:List UInt8) (k:Nat) (hk:xs.length=k) (h0:0<=n) (h1:n<256 ^ m):gv m (xs++(le m n++ys)) k=n:=by
 have h:=Zos (m:=m) (xs:=xs++(le m n++ys)) (k:=(k:Int)) ⟨by omega,by simp[Yq,hk];omega⟩;rw[h];have e:(k:Int).toNat=xs.length:=by omega
 rw[e,P4,Pj (Yq m n)];exact Z6n m n h0 h1
theorem Zr2 (s:It) (xs:List UInt8) (h:s.2.2.length<=12):Zek (itB s++xs)=s.2.2.length:=by{
 have e:(itB s++xs)[11]? = some (UInt8.ofNat s.2.2.length):=by
  have:itB s++xs=([s.1.1]++(le 4 s.1.2.1++(le 4 s.1.2.2++le 2 s.2.1)))++(UInt8.ofNat s.2.2.length::(s.2.2++xs)):=by simp[itB]
  rw[this,Qt (by simp[Yq])];simp[Yq]
 unfold Zek;rw[e];simp only[Option.getD_some,UInt8.toNat_ofNat'];omega}
theorem Z8u (s:It) (xs:List UInt8) (h:s.2.2.length<=12):okC (itB s++xs)=true:=by
 unfold okC;rw[Zr2 s xs h];simp[Zce]
theorem Zvx (s:It) (xs:List UInt8) (hi:InI s) (h:Zbp s=true):Vo (itB s++xs)=s:=by{
 obtain⟨hr,hl⟩:=Zaj h;obtain⟨⟨⟨i0,i1⟩,⟨o0,o1⟩⟩,_⟩:=hi;obtain⟨⟨k,i,o⟩,r,v⟩:=s
 dsimp only at *
 have e0:(itB ((k,i,o),r,v)++xs)[0]?.getD 0=k:=by simp[itB]
 have e1:gv 4 (itB ((k,i,o),r,v)++xs) 1=i:=by
  have:itB ((k,i,o),r,v)++xs=[k]++(le 4 i++(le 4 o++(le 2 r++([UInt8.ofNat v.length]++(v++xs))))):=by simp[itB]
  rw[this];exact Z87 4 i [k] _ 1 rfl i0 (by simpa using i1)
 have e2:gv 4 (itB ((k,i,o),r,v)++xs) 5=o:=by
  have:itB ((k,i,o),r,v)++xs=([k]++le 4 i)++(le 4 o++(le 2 r++([UInt8.ofNat v.length]++(v++xs)))):=by simp[itB]
  rw[this];exact Z87 4 o ([k]++le 4 i) _ 5 (by simp[Yq]) o0 (by simpa using o1)
 have e3:gv 2 (itB ((k,i,o),r,v)++xs) 9=r:=by
  have:itB ((k,i,o),r,v)++xs=([k]++(le 4 i++le 4 o))++(le 2 r++([UInt8.ofNat v.length]++(v++xs))):=by simp[itB]
  rw[this];exact Z87 2 r ([k]++(le 4 i++le 4 o)) _ 9 (by simp[Yq]) (by omega) (by simp;omega)
 have e4:((itB ((k,i,o),r,v)++xs).drop 12).take (Zek (itB ((k,i,o),r,v)++xs))=v:=by
  rw[Zr2 ((k,i,o),r,v) xs hl];have:itB ((k,i,o),r,v)++xs=([k]++(le 4 i++(le 4 o++(le 2 r++[UInt8.ofNat v.length]))))++(v++xs):=by simp[itB]
  rw[this,show (12:Nat)=([k]++(le 4 i++(le 4 o++(le 2 r++[UInt8.ofNat v.length])))).length by simp[Yq],P4];exact Pj rfl
 unfold Vo;rw[e0,e1,e2,e3,e4]}
theorem Z3c (s:It) (xs:List UInt8) (hi:InI s) (h:Zbp s=true):okR (itB s++xs)=true/\itR (itB s++xs)=s/\itN (itB s++xs)=(itB s).length/\itE (itB s++xs)=0:=by
 obtain⟨hr,hl⟩:=Zaj h;have h1:=Z8u s xs hl;have h2:=Zvx s xs hi h;have h3:okR (itB s++xs)=true:=by unfold okR Zwf;rw[h1,if_pos rfl,h2,h];rfl
 refine⟨h3,by rw[itR,h3,if_pos rfl,h2],?_,by rw[itE,h3];rfl⟩;rw[itN,h3,if_pos rfl,Zr2 s xs hl,Zce];omega
theorem Z8e (m:Nat) (b:List UInt8) (k:Nat) (h:k+m<=b.length):le m (gv m b k)=(b.drop k).take m:=by
 rw[Zos (k:=(k:Int)) ⟨by omega,by omega⟩,show (k:Int).toNat=k by omega];have hl:((b.drop k).take m).length=m:=by simp;omega
 have:=Zzw ((b.drop k).take m)
 rwa [hl] at this
theorem Z6o (b:List UInt8) (k:Nat) (h:k<b.length):(b.drop k).take 1=[b[k]?.getD 0]:=by
 rw[Pm h,Qe h];rfl
theorem Zug {b:List UInt8}(h:okR b=true):∃ n:Nat,itN b=n/\n<=b.length/\Zbp (itR b)=true/\itB (itR b)=b.take n:=by{
 obtain⟨h1,h2⟩:=Zkw h;have h3:=Ze3 h1;have hR:itR b=Vo b:=by rw[itR,h,if_pos rfl]
 have hf:Zwf b=Vo b:=by rw[Zwf,h1,if_pos rfl]
 rw[hf] at h2;refine⟨12+Zek b,by rw[itN,h,if_pos rfl];simp,h3,by rw[hR];exact h2,?_⟩;rw[hR];have l0:=Z6o b 0 (by omega);rw[Qr] at l0;have l1:=Z6o b 11 (by omega);have hlen:((b.drop 12).take (Zek b)).length=Zek b:=by simp;omega
 have hc:UInt8.ofNat (Zek b)=b[11]?.getD 0:=by unfold Zek;simp
 have g1:=Z8e 4 b 1 (by omega);have g2:=Z8e 4 b 5 (by omega);have g3:=Z8e 2 b 9 (by omega);have ht:b.take (12+Zek b)=b.take 1++((b.drop 1).take 4++((b.drop 5).take 4++((b.drop 9).take 2++((b.drop 11).take 1++(b.drop 12).take (Zek b))))):=by
  have q:∀ (j m n:Nat),(b.drop j).take m++(b.drop (j+m)).take n=(b.drop j).take (m+n):=fun j m n=>by
   rw[<- List.drop_drop,List.take_add]
  rw[q 11 1,q 9 2,q 5 4,q 1 4];have:=q 0 1 (4+(4+(2+(1+Zek b))));rw[Qr,Qv] at this;rw[this]
  congr 1
  omega
 rw[ht,l0,l1];unfold itB Vo
 dsimp only
 rw[hlen,hc];have c1:((1:Nat):Int)=1:=rfl;have c5:((5:Nat):Int)=5:=rfl;have c9:((9:Nat):Int)=9:=rfl;rw[c1] at g1;rw[c5] at g2;rw[c9] at g3;rw[g1,g2,g3]}
def Ych (g:Nat) (a b c:Qan):Qam->Prop:=fun w=>w.cell? ⟨g,0,none⟩=some a/\w.cell? ⟨g,1,none⟩=some b/\w.cell? ⟨g,2,none⟩=some c/\g<w.heap.size
theorem Zk9 (g:Nat) (a b c:Qan):Zep (Ych g a b c):=fun _ _ h hb=>⟨(hb.cell (p:=⟨g,0,none⟩) h.2.2.2).trans h.1,(hb.cell (p:=⟨g,1,none⟩) h.2.2.2).trans h.2.1,(hb.cell (p:=⟨g,2,none⟩) h.2.2.2).trans h.2.2.1,Qd h.2.2.2 hb.size⟩
theorem Zr4 {w w1:Qam}{Fs:List (Qam->Prop)}(h:Bag w Fs) (hb:Qau w.heap.size w w1) (a b c:Qan):∃ w',w1.alloc (.cells #[a,b,c] 37)=w'/\Bag w' (Ych w1.heap.size a b c::Fs)/\Qau w.heap.size w w'/\Qau w1.heap.size w1 w'/\w1.heap.size<w'.heap.size:=by
 obtain⟨w2,e2,k1,k2,k3,k4,k5,_⟩:=Xd w1 a b c 37;exact⟨w2,e2,((h.below hb).below k5).add ⟨k1,k2,k3,by omega⟩ (Zk9 _ _ _ _),hb.trans (k5.mono hb.size),k5,by omega⟩
theorem Z3x {w w1:Qam}{Fs:List (Qam->Prop)}(h:Bag w Fs) (hb:Qau w.heap.size w w1) (a b c d e:Qan):∃ w',w1.alloc (.cells #[a,b,c,d,e] 54)=w'/\Bag w' (Yct w1.heap.size a b c d e::Fs)/\Qau w.heap.size w w'/\Qau w1.heap.size w1 w'/\w1.heap.size<w'.heap.size:=by
 obtain⟨w2,e2,k1,k2,k3,k4,k5,k6,k7,_⟩:=Z9 w1 a b c d e 54;exact⟨w2,e2,((h.below hb).below k7).add ⟨k1,k2,k3,k4,k5,by omega⟩ (Zws _ _ _ _ _ _),hb.trans (k7.mono hb.size),k7,by omega⟩
def Ycf (v:Qan) (s:It):Qam->Prop:=fun w=>Itm (Old w) w v s
theorem Zwm (v:Qan) (s:It):Zep (Ycf v s):=fun _ _ h hb=>h.below hb
theorem Y7 (a:Ky):Zn a a=false:=by simp[Zn]
theorem Vj {a b:Ky}(h:Zn a b=true):Zn b a=false:=by{
 unfold Zn at *;by_cases h1:a.1.toNat=b.1.toNat
 ·rw[if_neg (by simpa using h1)] at h
  rw[if_neg (by simpa using h1.symm)];by_cases h2:a.2.1=b.2.1
  ·rw[if_neg (by simpa using h2)] at h
   rw[if_neg (by simpa using h2.symm)];simp at h ⊢;omega
  ·rw[if_pos h2] at h
   rw[if_pos (fun e=>h2 e.symm)];simp at h ⊢;omega
 ·rw[if_pos h1] at h
  rw[if_pos (fun e=>h1 e.symm)];simp at h ⊢;omega}
theorem Zcc {a b:Ky}(h:a≠b) (h':Zn a b=false):Zn b a=true:=by{
 unfold Zn at *;by_cases h1:a.1.toNat=b.1.toNat
 ·rw[if_neg (by simpa using h1)] at h'
  rw[if_neg (by simpa using h1.symm)];by_cases h2:a.2.1=b.2.1
  ·rw[if_neg (by simpa using h2)] at h'
   rw[if_neg (by simpa using h2.symm)];have h3:a.2.2≠b.2.2:=fun e=>h (Prod.ext (UInt8.toNat.inj h1) (Prod.ext h2 e))
   simp at h' ⊢;omega
  ·rw[if_pos h2] at h'
   rw[if_pos (fun e=>h2 e.symm)];simp at h' ⊢;omega
 ·rw[if_pos h1] at h'
  rw[if_pos (fun e=>h1 e.symm)];simp at h' ⊢;omega}
theorem Zgh {a b:Ky}(h:Zn a b=true):a.1.toNat<b.1.toNat\/(a.1.toNat=b.1.toNat/\(a.2.1<b.2.1\/(a.2.1=b.2.1/\a.2.2<b.2.2))):=by{
 unfold Zn at h;by_cases h1:a.1.toNat=b.1.toNat
 ·rw[if_neg (by simpa using h1)] at h
  by_cases h2:a.2.1=b.2.1
  ·rw[if_neg (by simpa using h2)] at h
   exact Or.inr ⟨h1,Or.inr ⟨h2,by simpa using h⟩⟩
  ·rw[if_pos h2] at h
   exact Or.inr ⟨h1,Or.inl (by simpa using h)⟩
 ·rw[if_pos h1] at h
  exact Or.inl (by simpa using h)}
theorem Z86 {a b:Ky}(h:a.1.toNat<b.1.toNat\/(a.1.toNat=b.1.toNat/\(a.2.1<b.2.1\/(a.2.1=b.2.1/\a.2.2<b.2.2)))):Zn a b=true:=by{
 cases e:Zn a b with
 | true=>rfl
 | false =>
  by_cases hab:a=b
  ·subst hab;omega
  ·have:=Zgh (Zcc hab e)
   omega}
theorem Yp {a b c:Ky}(h:Zn a b=true) (h':Zn b c=true):Zn a c=true:=by
 have h1:=Zgh h;have h2:=Zgh h';exact Z86 (by omega)
end Go.Proofs.YtgmbjnajdfgenaaGreat
namespace Go.Proofs.YtgmbjnajdfgenaaGreat
open Go.ChangeShapes Go.WideShapes Go.RowKit
abbrev Nd:=Int×List It
def Zag:Rel (List It):=rSl 5 rIt
theorem Xa:Zew Zag:=Uh Z0
def Nod (ok:Qao->Prop) (w:Qam) (v:Qan) (n:Nd):Prop:=∃ d,v=.agg #[.int .i64 n.1,d]/\Zkh n.1/\Zag ok w [d] n.2
section
variable {ok ok' : Qao -> Prop}{w w' : Qam}{v : Qan}{n : Nd}{lo lo' : Nat}
theorem Nod.map (hk:∀ p v,ok p->w.cell? p=some v->ok' p/\w'.cell? p=some v) (h:Nod ok w v n):Nod ok' w' v n:=by
 obtain⟨d,e,h1,h2⟩:=h;exact⟨d,e,h1,Xa _ _ _ _ _ _ hk h2⟩
theorem Nod.below (h:Nod (Old w) w v n) (hb:Qau w.heap.size w w'):Nod (Old w') w' v n :=
 h.map fun _ _ hp hc=>⟨Qd hp hb.size,(hb.cell hp).trans hc⟩
theorem Nod.drop (h:Nod (New lo w) w v n):Nod (Old w) w v n:=h.map fun _ _ hp hc=>⟨hp.2.1,hc⟩
theorem Nod.new (h:Nod (New lo w) w v n) (hl:lo'<=lo) (hb:Qau w.heap.size w w'):Nod (New lo' w') w' v n :=
 h.map fun _ _ hp hc=>⟨⟨Qh hl hp.1,Qd hp.2.1 hb.size,(hb.frozen hp.2.1).trans hp.2.2⟩,(hb.cell hp.2.1).trans hc⟩
theorem Nod.grown {row:Option Nat}(h:Nod (New lo w) w v n) (hg:w.grownBy w' row) (hr:∀ q,row=some q->q<lo):Nod (New lo w') w' v n:=by
 obtain⟨d,e,h1,h2⟩:=h;exact⟨d,e,h1,Xa.grown h2 hg hr⟩
theorem Zsp {d:Qan}{xs:List It}(h:Zag ok w [d] xs):∃ A c,d=.slice A xs.length c/\xs.length<=c/\c<=9223372036854775807:=by
 obtain⟨A,c,e,h1,h2,_⟩:=h;exact⟨A,c,by simpa using e,h1,h2⟩
theorem Nod.open (h:Nod ok w v n):∃ A c,v=.agg #[.int .i64 n.1,.slice A n.2.length c]/\Zkh n.1/\n.2.length<=c/\c<=9223372036854775807/\Zag ok w [.slice A n.2.length c] n.2:=by
 obtain⟨d,rfl,h1,h2⟩:=h;obtain⟨A,c,rfl,h3,h4⟩:=Zsp h2;exact⟨A,c,rfl,h1,h3,h4,h2⟩
end
theorem Z09 (ok:Qao->Prop) (w:Qam):Zag ok w [.slice none 0 0] []:=⟨none,0,rfl,by simp,by omega,fun i x h=>by simp at h⟩
def Ui:Nd:=(0,[])
theorem Z38 (ok:Qao->Prop) (w:Qam):Nod ok w (.agg #[.int .i64 0,.slice none 0 0]) Ui:=⟨_,rfl,⟨by decide,by decide⟩,Z09 _ _⟩
theorem Z8f (ad:Qao) (n j:Nat):ad.add (n+(j+1))=⟨(ad.add n).block,(ad.add n).off+(j+1),none⟩:=by{
 unfold Addr.add;rw[if_neg (by omega)];by_cases h:n=0
 ·subst h
  simp
 ·rw[if_neg h]
  simp[P5]}
structure At5 (w:Qam) (p:Qao) (s:It) (d:Qan):Prop where
 c0:w.cell? p=some (.int .u8 (s.1.1.toNat:Int))
 c1:w.cell? ⟨p.block,p.off+1,none⟩=some (.int .u32 s.1.2.1)
 c2:w.cell? ⟨p.block,p.off+2,none⟩=some (.int .u32 s.1.2.2)
 c3:w.cell? ⟨p.block,p.off+3,none⟩=some (.int .i64 s.2.1)
 c4:w.cell? ⟨p.block,p.off+4,none⟩=some d
theorem At5.lt {w:Qam}{p:Qao}{s:It}{d:Qan}(h:At5 w p s d):p.block<w.heap.size:=P7 w p h.c0
theorem At5.below {w w':Qam}{p:Qao}{s:It}{d:Qan}(h:At5 w p s d) (hb:Qau w.heap.size w w'):At5 w' p s d :=
 ⟨(hb.cell h.lt).trans h.c0,(hb.cell (p:=⟨p.block,p.off+1,none⟩) h.lt).trans h.c1,(hb.cell (p:=⟨p.block,p.off+2,none⟩) h.lt).trans h.c2,(hb.cell (p:=⟨p.block,p.off+3,none⟩) h.lt).trans h.c3,(hb.cell (p:=⟨p.block,p.off+4,none⟩) h.lt).trans h.c4⟩
theorem Zao {ok:Qao->Prop}{w:Qam}{A:Option Qao}{n c k:Nat}{xs:List It}{s:It}(h:Zag ok w [.slice A n c] xs) (hk:xs[k]? = some s) :
  ∃ ad E ce,A=some ad/\(∀ j,j<5->ok (ad.add (k*5+j)))/\At5 w (ad.add (k*5)) s (.slice E s.2.2.length ce)/\Itm ok w (itV s (.slice E s.2.2.length ce)) s/\s.2.2.length<=ce/\ce<=9223372036854775807/\InI s:=by{
 obtain⟨_,_,e,_,_,h4⟩:=h;cases e;obtain⟨ad,vs,rfl,e5,q,r⟩:=h4 k s hk;obtain⟨d,rfl,hin,hd⟩:=Ztb r;obtain⟨E,ce,rfl,l1,l2,_⟩:=id (Zt hd);have q0:=q 0 _ rfl;have t1:=q 1 _ rfl;have t2:=q 2 _ rfl;have t3:=q 3 _ rfl;have t4:=q 4 _ rfl;refine⟨ad,E,ce,rfl,fun j hj=> ?_,?_,⟨_,rfl,hin,hd⟩,l1,l2,hin⟩
 ·rcases(by omega:j=0\/j=1\/j=2\/j=3\/j=4) with rfl | rfl | rfl | rfl | rfl
  ·exact q0.1
  ·exact t1.1
  ·exact t2.1
  ·exact t3.1
  ·exact t4.1
 ·have u1:=t1.2
  have u2:=t2.2;have u3:=t3.2;have u4:=t4.2;rw[Z8f] at u1 u2 u3 u4;exact⟨q0.2,u1,u2,u3,u4⟩}
theorem V5 {w:Qam}{A:Option Qao}{n c k:Nat}{xs:List It}{s:It}(h:Zag (Old w) w [.slice A n c] xs) (hk:xs[k]? = some s) :
  ∃ ad E ce,A=some ad/\s.2.2.length<=ce/\ce<=9223372036854775807/\InI s/\∀ W,Qau w.heap.size w W->At5 W (ad.add (k*5)) s (.slice E s.2.2.length ce)/\Itm (Old W) W (itV s (.slice E s.2.2.length ce)) s:=by
 obtain⟨ad,E,ce,rfl,_,h5,hi,l1,l2,hin⟩:=Zao h hk;exact⟨ad,E,ce,rfl,l1,l2,hin,fun W hW=>⟨h5.below hW,hi.below hW⟩⟩
def Zgs (s:It):Bool:=decide (s.2.1≠0)&&decide (s.2.2.length=0)
def okP (l:Int) (x:It):Bool:=Zbp x&&(decide (l<=0)||Zgs x)
def Zkg (n:Nd) (i:Nat):Bool:=match n.2[i]? with
 | none=>true
 | some x=>okP n.1 x&&(match i with
  | 0=>true
  | j+1=>match n.2[j]? with
   | none=>true
   | some p=>Zn p.1 x.1)
def Zpr (n:Nd):Bool:=(decide (0<=n.1)&&decide (n.1<6))&&decide (n.2.length<=5)&&(decide (n.1<=0)||decide (0<n.2.length))
def mayN (n:Nd):Bool:=Zpr n&&(List.range n.2.length).all (Zkg n)
def Z2j (n:Nd):Int:=if mayN n then 0 else 8
theorem Zpz {n:Nd}(h:Zpr n=true):0<=n.1/\n.1<6/\n.2.length<=5/\(0<n.1->0<n.2.length):=by
 simp only[Zpr,Qg,P8,decide_eq_true_eq] at h;omega
theorem Zxn {n:Nd}(h:0<=n.1/\n.1<6/\n.2.length<=5/\(0<n.1->0<n.2.length)):Zpr n=true:=by
 simp only[Zpr,Qg,P8,decide_eq_true_eq];omega
theorem Zw6 {n:Nd}(h:¬ (0<=n.1/\n.1<6/\n.2.length<=5/\(0<n.1->0<n.2.length))):mayN n=false:=by{
 cases e:mayN n with
 | false=>rfl
 | true =>
  simp only[mayN,Qg] at e;exact absurd (Zpz e.1) h}
theorem Z9w {n:Nd}{k:Nat}(hk:k<n.2.length) (h:Zkg n k=false):mayN n=false:=by{
 cases e:mayN n with
 | false=>rfl
 | true =>
  simp only[mayN,Qg,Qk] at e;have:=e.2 k (by simpa using hk);rw[h] at this;cases this}
theorem Z0i {n:Nd}(h:0<=n.1/\n.1<6/\n.2.length<=5/\(0<n.1->0<n.2.length)) (h2:∀ i,i<n.2.length->Zkg n i=true):mayN n=true:=by
 simp only[mayN,Qg,Qk];exact⟨Zxn h,fun x hx=>h2 x (by simpa using hx)⟩
theorem Zv {n:Nd}(h:mayN n=true):(0<=n.1/\n.1<6/\n.2.length<=5/\(0<n.1->0<n.2.length))/\∀ i,i<n.2.length->Zkg n i=true:=by
 simp only[mayN,Qg,Qk] at h;exact⟨Zpz h.1,fun i hi=>h.2 i (by simpa using hi)⟩
theorem Zje {n:Nd}{x:It}(hx:n.2[0]? = some x):Zkg n 0=okP n.1 x:=by unfold Zkg;rw[hx];simp
theorem Zfo {n:Nd}{k:Nat}{x p:It}(hx:n.2[k+1]? = some x) (hp:n.2[k]? = some p):Zkg n (k+1)=(okP n.1 x&&Zn p.1 x.1):=by
 unfold Zkg;simp only[hx,hp]
theorem Ya8 {n:Nd}{k:Nat}{x:It}(hx:n.2[k]? = some x) (h:Zkg n k=true):okP n.1 x=true:=by
 unfold Zkg at h;rw[hx] at h;simp only[Qg] at h;exact h.1
theorem Zni {n:Nd}{k:Nat}{x:It}(hx:n.2[k]? = some x) (h:okP n.1 x=false):Zkg n k=false:=by
 unfold Zkg;simp only[hx,h,Bool.false_and]
theorem Zfr {n:Nd}(h:mayN n=true){k:Nat}{x:It}(hx:n.2[k]? = some x):okP n.1 x=true :=
 Ya8 hx ((Zv h).2 k (Qj.1 hx).1)
theorem Zqp {l:Int}{x:It}(h:okP l x=true):Zbp x=true:=by
 simp only[okP,Qg] at h;exact h.1
theorem Zji {n:Nd}(h:mayN n=true){k:Nat}{x y:It}(hx:n.2[k]? = some x) (hy:n.2[k+1]? = some y):Zn x.1 y.1=true:=by
 have:=(Zv h).2 (k+1) (Qj.1 hy).1;rw[Zfo hy hx,Qg] at this;exact this.2
theorem Za4 {n:Nd}(h:mayN n=true):∀ {k j:Nat}{x y:It},k<j->n.2[k]? = some x->n.2[j]? = some y->Zn x.1 y.1=true:=by{
 intro k j x y hkj
 induction j generalizing y with
 | zero=>omega
 | succ j ih =>
  intro hx hy;rcases Qs k j with h1 | h1
  ·have hjl:j<n.2.length:=by have:=(Qj.1 hy).1;omega
   exact Yp (ih h1 hx (Qe hjl)) (Zji h (Qe hjl) hy)
  ·have:k=j:=by omega
   subst this;exact Zji h hx hy}
theorem Zrg {n:Nd}(h:mayN n=true):Z2j n=0:=by simp[Z2j,h]
theorem Zh9 {n:Nd}(h:mayN n=false):Z2j n=8:=by simp[Z2j,h]
def Zdi (l:List It):List UInt8:=(l.map itB).flatten
theorem Zqa (l:List It) (x:It):Zdi (l++[x])=Zdi l++itB x:=by simp[Zdi]
theorem Zyl {l:List It}{k:Nat}{x:It}(h:l[k]? = some x):Zdi (l.take (k+1))=Zdi (l.take k)++itB x:=by
 rw[Qu,h];exact Zqa _ _
def Zwe (n:Nd):List UInt8:=[78,UInt8.ofNat n.1.toNat,UInt8.ofNat n.2.length]
def Zca (n:Nd):List UInt8:=Zwe n++Zdi n.2
def Va (n:Nd):List UInt8:=Zdo (Zca n)
def wrN (n:Nd):List UInt8:=if mayN n then Va n else []
theorem Zmp:∀ {l:List It},(∀ x∈l,Zbp x=true)->(Zdi l).length<=24*l.length
 | [],_=>by simp[Zdi]
 | x::r,h=>by
  have h1:=Zmp (l:=r) (fun y hy=>h y (Ph.2 (Or.inr hy)));have h2:=(Zaj (h x (Ph.2 (Or.inl rfl)))).2;have h3:=Zce x;have:Zdi (x::r)=itB x++Zdi r:=by simp[Zdi]
  rw[this,Qi,List.length_cons];omega
theorem Zmt {n:Nd}(h:mayN n=true):∀ x∈n.2,Zbp x=true:=fun x hx=>by
 obtain⟨k,hk⟩:=List.mem_iff_getElem?.1 hx;exact Zqp (Zfr h hk)
theorem Zqb {n:Nd}(h:mayN n=true):(Zca n).length<=124:=by
 have h1:=Zmp (Zmt h);have h2:=(Zv h).1.2.2.1;have h3:(Zca n).length=3+(Zdi n.2).length:=by simp[Zca,Zwe];omega
 omega
theorem Zcx {n:Nd}(h:mayN n=true):(Va n).length=128:=Zhl (Zqb h)
theorem Zkv (a:Int) (w:Qam):Qat Tryz.prog 151 #[.int .u8 a] w fun e w'=>e=.returned (.bool (a != 0))/\w=w':=by
 go_enter Tryz.func151,Tryz.ntmps151
 go_wp2_with fail
 go_ret;exact⟨rfl,rfl⟩
def Z6t (b:List UInt8):Int:=match b.findIdx? (· ≠ 0) with
 | none => -1
 | some k=>k
theorem Z89 {b:List UInt8}{k:Nat}(hk:k<b.length) (ha:∀ j,j<k->b[j]?.getD 0=0) (h:b[k]?.getD 0≠0):Z6t b=k:=by{
 have e:b.findIdx? (· ≠ 0)=some k:=by
  rw[P9];refine⟨hk,by simpa [Qe hk] using h,fun j hj=> ?_⟩;have:=ha j hj
  simpa [Qe (show j<b.length by omega)] using this
 unfold Z6t;rw[e]}
theorem Zxb {b:List UInt8}(ha:∀ j,j<b.length->b[j]?.getD 0=0):Z6t b = -1:=by{
 have e:b.findIdx? (· ≠ 0)=none:=by
  rw[Qaa];intro x hx;obtain⟨j,hj,rfl⟩:=Po.1 hx;have:=ha j hj
  simpa [Qe hj] using this
 unfold Z6t;rw[e]}
def U6 (b:List UInt8):Bool:=b.all (· == 0)
theorem Zr0 (b:List UInt8):(!decide (0<=Z6t b))=U6 b:=by{
 unfold Z6t U6;cases e:b.findIdx? (· ≠ 0) with
 | none =>
  rw[Qaa] at e;have:(b.all fun x=>x==0)=true:=by
   rw[Qk];intro x hx
   simpa using e x hx
  rw[this];simp
 | some k =>
  rw[P9] at e;obtain⟨hk,h1,_⟩:=e;have:(b.all fun x=>x==0)=false:=by
   rw[List.all_eq_false];exact⟨b[k],Qab hk,by simpa using h1⟩
  rw[this];simp}
theorem Zxd (A:Option Qao) (n c:Nat) (b:List UInt8) (hn:Hid (b.length=n)) (l1:n<=c) (m1:c<=9223372036854775807) (w:Qam) (h:Byt w w.heap.size A b) :
  Qat Tryz.prog 174 #[.slice A n c,.func (.func 151) #[] #[]] w fun e w'=>e=.returned (.int .i64 (Z6t b))/\w=w':=by{
 have HY:=Za h;clear h
 go_enter Tryz.func174,Tryz.ntmps174
 go_wp2_with fail
 go_loop [8] (fun i=>∃ k:Nat,k<=n/\i=.int .i64 k/\∀ j,j<k->b[j]?.getD 0=0) (fun i=>n-(intOf i).toNat)
 case atStart=>exact⟨0,by omega,rfl,fun j hj=>by omega⟩
 case round =>
  obtain⟨k,hk,rfl,ha⟩:=hrel;replace ha:=Za ha;by_cases hlt:k<n
  ·obtain⟨ad,rfl,_,hc⟩:=HY.out (by rw[hn.out];omega)
   replace hc:=hc k (by rw[hn.out];exact hlt);have hyes:=Za (fun h=>Z89 (b:=b) (k:=k) (by rw[hn.out];exact hlt) ha.out h);have hno:Hid (b[k]?.getD 0=0->∀ j,j<k+1->b[j]?.getD 0=0):=Za fun h j hj=>by
    rcases Qs j k with h1 | h1
    ·exact ha.out j h1
    ·obtain rfl:j=k:=by omega
     exact h
   obtain⟨x,hx⟩:∃ x,b[k]?.getD 0=x:=⟨_,rfl⟩
   rw[hx] at hc hyes hno;replace hx:=Za hx;by_cases h0:(x.toNat:Int)=0
   ·have t0:((x.toNat:Int) != 0)=false:=by simpa using h0
    have hall:=Za (hno.out (UInt8.toNat.inj (by simpa using h0)));replace h0:=Za h0
    go_wp2_with fail
    with_reducible refine(Zkv _ _).mono ?_
    rintro e3 w3 ⟨rfl,rfl⟩;rw[t0]
    go_wp2_with fail
    go_round
    case rel=>exact⟨k+1,by omega,by go_num,hall.out⟩
    case measure=>simp[intOf];omega
   ·have t0:((x.toNat:Int) != 0)=true:=by simpa using h0
    have hr:=Za (hyes.out (fun e=>h0 (by rw[e];rfl)));replace h0:=Za h0
    go_wp2_with fail
    with_reducible refine(Zkv _ _).mono ?_
    rintro e3 w3 ⟨rfl,rfl⟩;rw[t0]
    go_wp2_with fail
    go_ret;exact⟨Z1 hr.out.symm,rfl⟩
  ·have hr:=Za (Zxb (b:=b) fun j hj=>ha.out j (by have:=hn.out;omega))
   go_wp2_with fail
   go_ret;exact⟨Z1 hr.out.symm,rfl⟩}
theorem Zq8 (A:Option Qao) (n c:Nat) (b:List UInt8) (hn:Hid (b.length=n)) (l1:n<=c) (m1:c<=9223372036854775807) (w:Qam) (h:Byt w w.heap.size A b) :
  Qat Tryz.prog 116 #[.slice A n c] w fun e w'=>e=.returned (.bool (U6 b))/\w=w':=by{
 have HY:=Za h;have hi:=Za (Zr0 b);have hx:Hid (∀ W,Byt W W.heap.size A b->Qat Tryz.prog 150 #[.slice A n c,.func (.func 151) #[] #[]] W fun e w'=>e=.returned (.bool (decide (0<=Z6t b)))/\W=w'):=Za fun W hW=>by
  have HW:=Za hW;clear hW
  go_enter Tryz.func150,Tryz.ntmps150
  go_wp2_with fail
  with_reducible refine(Zxd A n c b hn l1 m1 _ HW.out).mono ?_
  rintro e3 w3 ⟨rfl,rfl⟩
  go_wp2_with fail
  go_ret;exact⟨rfl,rfl⟩
 clear h
 go_enter Tryz.func116,Tryz.ntmps116
 go_wp2_with fail
 with_reducible refine(hx.out _ HY.out).mono ?_
 rintro e3 w3 ⟨rfl,rfl⟩
 go_wp2_with fail
 go_ret;exact⟨Yn hi.out,rfl⟩}
theorem Vl:(Tryz.prog.info? 54).map (fun i=>(i.zero,i.size,i.bytes))=some (some (.agg #[.int .u8 0,.int .u32 0,.int .u32 0,.int .i64 0,.slice none 0 0]),5,48):=by kernel_rfl
theorem Ztp {w:Qam}{lo:Nat}{A:Option Qao}{c:Nat}{xs:List It}(h:Yi rIt 5 54 lo w A c xs) (g:Nat) (s:It) (d:Qan) (m n:Nat) (hn:xs.length=n) (hg:w.heap[g]? = some (.cells #[.int .u8 (s.1.1.toNat:Int),.int .u32 s.1.2.1,.int .u32 s.1.2.2,.int .i64 s.2.1,d] 54 (0,0))) (hs:n<100000) (hbase:lo<=w.heap.size) (hin:InI s) (hx:rBy (Xx lo A w) w [d] s.2.2) :
  ∃ A' c' w',(Ql #[39,39] 39 #[.slice A n c,.slice (some ⟨g,0,none⟩) 1 m]).run Tryz.prog w=.ok (.slice A' (n+1) c') w'/\Yi rIt 5 54 lo w' A' c' (xs++[s])/\w.grownBy w' (A.map (·.block))/\Qau lo w w':=by{
 subst hn;obtain⟨i0,hi,hz0,hz1,hz2⟩:=info_parts Vl;obtain⟨E,ce,rfl,_⟩:=id (Zt hx)
 exact Yi.push Z0 h 39 39 i0 (.agg #[.int .u8 0,.int .u32 0,.int .u32 0,.int .i64 0,.slice none 0 0]) 48 Tryz.underlying39 hi hz0 hz1 hz2 rfl (by decide) ⟨g,0,none⟩ m _ s rfl (Pv (cs:=#[.int .u8 (s.1.1.toNat:Int),.int .u32 s.1.2.1,.int .u32 s.1.2.2,.int .i64 s.2.1,.slice E s.2.2.length ce]) hg) (fun u hu=>by
  simp at hu
  rcases hu with rfl | rfl | rfl | rfl | rfl <;> rfl) (by unfold maxLen;omega) (by omega) hbase (Zza hin hx)}
def U8 (b:List UInt8):Nat->Option (List It×List UInt8)
 | 0=>some ([],b)
 | k+1=>match U8 b k with
  | none=>none
  | some (l,r)=>if okR r then some (l++[itR r],r.drop (itN r).toNat) else none
theorem Zj6 {b:List UInt8}{k:Nat}{l:List It}{r:List UInt8}(h:U8 b k=some (l,r)) (h':okR r=true):U8 b (k+1)=some (l++[itR r],r.drop (itN r).toNat):=by
 simp only[U8,h,h',if_true]
theorem Zt4 {b:List UInt8}{k:Nat}{l:List It}{r:List UInt8}(h:U8 b k=some (l,r)) (h':okR r=false):U8 b (k+1)=none:=by
 simp only[U8,h,h'];rfl
theorem Zvf {b:List UInt8}{k j:Nat}(h:U8 b k=none) (hj:k<=j):U8 b j=none:=by{
 induction j with
 | zero =>
  have:k=0:=by omega
  rw[this] at h;exact h
 | succ j ih =>
  rcases Qs k (j+1) with h1 | h1
  ·simp only[U8,ih (by omega)]
  ·have:k=j+1:=by omega
   rw[this] at h;exact h}
theorem Zis {b:List UInt8}:∀ {k:Nat}{l:List It}{r:List UInt8},U8 b k=some (l,r)->b=Zdi l++r/\l.length=k/\(∀ x∈l,Zbp x=true/\InI x)
 | 0,l,r,h=>by
  simp only[U8,Option.some.injEq,Prod.mk.injEq] at h;obtain⟨rfl,rfl⟩:=h;exact⟨by simp[Zdi],rfl,fun x hx=>by simp at hx⟩
 | k+1,l,r,h=>by
  cases e:U8 b k with
  | none=>simp[U8,e] at h
  | some p =>
   obtain⟨l',r'⟩:=p;obtain⟨h1,h2,h3⟩:=Zis e;rcases Zfw (okR r') with ho | ho
   ·rw[Zt4 e ho] at h
    cases h
   ·rw[Zj6 e ho] at h
    simp only[Option.some.injEq,Prod.mk.injEq] at h;obtain⟨rfl,rfl⟩:=h;obtain⟨n,e1,e2,e3,e4⟩:=Zug ho;have hn:(itN r').toNat=n:=by rw[e1];omega
    refine⟨?_,by simp[h2],fun x hx=> ?_⟩
    ·rw[Zqa,e4,hn,Qn,Q6]
     exact h1
    ·rcases Px.1 hx with hx | hx
     ·exact h3 x hx
     ·simp at hx
      subst hx;exact⟨e3,by rw[itR,ho,if_pos rfl];exact Zlr _⟩
def Zyt (b:List UInt8) (k:Nat):List It:=((U8 b k).map (·.1)).getD []
def Z0k (b:List UInt8) (k:Nat):List UInt8:=((U8 b k).map (·.2)).getD []
def Z55 (b:List UInt8) (k:Nat):Int:=if (U8 b k).isSome then 0 else 8
theorem Ztc {ok:Qao->Prop}{w:Qam}{ad:Qao}{n c:Nat}{b:List UInt8}(h:rBy ok w [.slice (some ad) n c] b) (k:Nat) (hk:k<=b.length):rBy ok w [.slice (some (ad.add k)) (n-k) (c-k)] (b.drop k):=by
 obtain⟨A,c',e,l1,l2,_⟩:=id h;cases e;have:=Zuu h k (b.length-k) (c-k) (by omega) (by omega) (by omega)
 rwa [Qf (by simp)] at this
theorem Zre (v:Qan) (b:List UInt8) (many:Nat) (hm:many<256) (w:Qam) (h:rBy (Old w) w [v] b) :
  Qat Tryz.prog 114 #[v,.int .i64 many] w fun e w'=>∃ A c u,e=.returned (.tuple #[.slice A (Zyt b many).length c,u,.int .i64 (Z55 b many)])/\Yi rIt 5 54 w.heap.size w' A c (Zyt b many)/\rBy (Old w') w' [u] (Z0k b many)/\Qau w.heap.size w w':=by{
 have HV:=Za h;clear h
 go_enter Tryz.func114,Tryz.ntmps114
 go_wp2_with fail
 go_loopw [0,7,12] (fun q it i wr=>∃ (k:Nat) (l:List It) (r:List UInt8) (A:Option Qao) (c:Nat),k<=many/\i=.int .i64 k/\it=.slice A k c/\l.length=k/\U8 b k=some (l,r)/\rBy (Old w) w [q] r/\Yi rIt 5 54 w.heap.size wr A c l/\Qau w.heap.size w wr) (fun _ _ i _=>many-(intOf i).toNat)
 case atStart=>exact⟨0,[],b,none,0,by omega,rfl,rfl,rfl,rfl,HV.out,Yi.nil _ _ _ _ _,Qb _ _⟩
 case round =>
  obtain⟨k,l,r,A,c,hk,rfl,rfl,hl,hcut,hq,hrow,hb⟩:=hrel;replace hrow:=Za hrow;replace hcut:=Za hcut;replace hl:=Za hl;replace hb:=Za hb;obtain⟨Q,cq,rfl,n1,n2,_⟩:=id (Zt hq);obtain⟨nq,hnq⟩:∃ n,r.length=n:=⟨_,rfl⟩
  rw[hnq] at n1 hq ⊢;replace hnq:=Za hnq;replace hq:=Za hq;have hqr:=Za (Zf.old hq.out hb.out);by_cases hlt:k<many
  case neg =>
   have hkm:k=many:=by omega
   have hL:=Za (show Zyt b many=l by rw[<- hkm];simp[Zyt,hcut.out]);have hR:=Za (show Z0k b many=r by rw[<- hkm];simp[Z0k,hcut.out]);have hF:=Za (show Z55 b many=0 by rw[<- hkm];simp[Z55,hcut.out]);replace hkm:=Za hkm
   go_wp2_with fail
   exact Qar (v:=.tuple #[.slice A k c,.slice Q nq cq,.int .i64 0]) (by simp[results,Tryz.results114,go_sem]) rfl ⟨A,c,_,by rw[hL.out,hF.out,hl.out],by rw[hL.out];exact hrow.out,by rw[hR.out];exact hqr.out,hb.out⟩
  go_wp2_with fail
  with_reducible refine(Zwt _ r _ hqr.out).mono ?_
  rintro e3 w3 ⟨u3,rfl,hu3,hb3⟩;obtain⟨D,dc,rfl,hin,_,_,hby⟩:=id hu3.open;obtain⟨w4,hw4,s0,s1,s2,s3,s4,hs4,hb4,b4⟩:=Z9 w3 (.int .u8 ((itR r).1.1.toNat:Int)) (.int .u32 (itR r).1.2.1) (.int .u32 (itR r).1.2.2) (.int .i64 (itR r).2.1) (.slice D (itR r).2.2.length dc) 54;have C4:=Za (hb3.trans (hb4.mono hb3.size));have B4:=Za (hb.out.trans (C4.out.mono hb.out.size));have hI4:=Za (hu3.new (Qc _) hb4);obtain⟨x,hx⟩:∃ x,itR r=x:=⟨_,rfl⟩
  rw[hx] at hin s0 s1 s2 s3 s4 b4 hI4 hw4 ⊢;replace hs4:=Za hs4;replace hx:=Za hx;clear hb3 hb4 hu3 hby
  unfold itV at *
  go_upto_region 5 with fail
  clear hw4;rcases Zfw (okR r) with hok | hok
  ·have hE:=Za (show itE r=8 by simp[itE,hok])
   have hno:=Za (Zvf (Zt4 hcut.out hok) (show k+1<=many by omega));have hL:=Za (show Zyt b many=[] by simp[Zyt,hno.out]);have hR:=Za (show Z0k b many=[] by simp[Z0k,hno.out]);have hF:=Za (show Z55 b many=8 by simp[Z55,hno.out]);rw[hE.out];replace hok:=Za hok
   go_wp2_with fail
   exact Qar (v:=.tuple #[.slice none 0 0,.slice none 0 0,.int .i64 8]) (by simp[results,Tryz.results114,go_sem]) rfl ⟨none,0,_,by rw[hL.out,hF.out];rfl,by rw[hL.out];exact Yi.nil _ _ _ _ _,by rw[hR.out];exact Zab _ _ none,B4.out⟩
  have hE:=Za (show itE r=0 by simp[itE,hok]);obtain⟨m,hm1,hm2,hm3,hm4⟩:=Zug hok;have hyes:=Zj6 hcut.out hok;rw[hm1,show ((m:Int)).toNat=m by omega,hx.out] at hyes;have hrl:12<=nq:=by have:=Ze3 (Zkw hok).1;have:=hnq.out;omega
  rw[hnq.out] at hm2;rw[hE.out,hm1];replace hyes:=Za hyes;replace hok:=Za hok;clear hm1 hm3 hm4;obtain⟨w5,hw5,_,_,_,_,_,hs5,hb5,b5⟩:=Z9 w4 (.int .u8 (x.1.1.toNat:Int)) (.int .u32 x.1.2.1) (.int .u32 x.1.2.2) (.int .i64 x.2.1) (.slice D x.2.2.length dc) 54;have C5:=C4.out.trans (hb5.mono C4.out.size);have hI5:=hI4.out.new (Qc _) hb5;have hx5:rBy (Xx w.heap.size A w5) w5 [.slice D x.2.2.length dc] x.2.2:=by
   obtain⟨d,e,_,hd⟩:=hI5;have ed:d=.slice D x.2.2.length dc:=by injection e with e;simpa using e.symm
   subst ed;exact Zf _ _ _ _ _ _ (fun p v hp hc=>⟨hrow.out.but (Qc _) hb.out.size hp,hc⟩) hd
  have row5:=Yi.below Z0 hrow.out C5;have hb5':=hb.out.trans (C5.mono hb.out.size);have hk5:l.length<100000:=by have:=hl.out;omega
  obtain⟨A6,c6,w6,hr6,row6,_,hb6⟩:=Ztp row5 w4.heap.size x _ 1 k hl.out b5 (by omega) hb5'.size hin hx5;have B6:=Za (hb5'.trans hb6);have H6:=Za hr6;replace row6:=Za row6;have hll:=Za (show (l++[x]).length=k+1 by simp[hl.out]);obtain⟨qa,rfl⟩:∃ qa,Q=some qa:=by
   obtain⟨_,_,e,_,_,h4⟩:=Zt hq.out;cases e;obtain⟨qa,e,_⟩:=h4 0 (by have:=hnq.out;omega);exact⟨qa,e⟩
  have hrest:=Za (Ztc hq.out m (by rw[hnq.out];exact hm2));have hnil:Hid (m=nq->∀ W,rBy (Old W) W [.slice (some qa) 0 0] (r.drop m)):=Za fun e W=>by
   rw[Q3 (by rw[hnq.out];omega)];exact Zab _ _ _
  replace hs5:=Za hs5;replace b5:=Za b5;replace hI5:=Za hI5;clear hr6 hb6 hx5 row5 C5 hb5 hb5' hin;by_cases hmc:m=cq
  ·have c1:(0:Int)<=(m:Int):=by omega
   have c2:(m:Int)<=cq:=by omega
   have c3:(m:Int)<=nq:=by omega
   go_wp2_with (at_builtin;refine Zp rfl _ _ _ rfl rfl rfl H6.out ?_;clear H6)
   go_roundw
   case rel=>exact⟨k+1,l++[x],r.drop m,A6,c6,by omega,by go_num,rfl,hll.out,hyes.out,hnil.out (by omega) w,row6.out,B6.out⟩
   case measure=>simp[intOf];omega
  ·have c1:(0:Int)<=(m:Int):=by omega
   have c2:(m:Int)<=cq:=by omega
   have c3:(m:Int)<=nq:=by omega
   go_wp2_with (at_builtin;refine Zp rfl _ _ _ rfl rfl rfl H6.out ?_;clear H6)
   go_roundw
   case rel=>exact⟨k+1,l++[x],r.drop m,A6,c6,by omega,by go_num,rfl,hll.out,hyes.out,hrest.out,row6.out,B6.out⟩
   case measure=>simp[intOf];omega}
abbrev Iv:=It×Qan
def Zda (p:Iv):List Qan:=[.int .u8 (p.1.1.1.toNat:Int),.int .u32 p.1.1.2.1,.int .u32 p.1.1.2.2,.int .i64 p.1.2.1,p.2]
def Zj (ps:List Iv):List Qan:=(ps.map Zda).flatten
theorem Y0:∀ ps:List Iv,(Zj ps).length=ps.length*5
 | []=>rfl
 | p::r=>by
  have:=Y0 r;simp[Zj,Zda] at this ⊢;omega
theorem Zi1:∀ {ps:List Iv}{k:Nat}{p:Iv},ps[k]? = some p->∀ j v,(Zda p)[j]? = some v->(Zj ps)[k*5+j]? = some v
 | q::r,0,p,h,j,v,hv=>by
  simp at h;subst h;have hj:j<(Zda q).length:=(Qj.1 hv).1;show ((Zda q)++Zj r)[0*5+j]? = some v;rw[Pp,Qv,Qy hj,hv]
 | q::r,k+1,p,h,j,v,hv=>by
  have h':r[k]? = some p:=by simpa using h
  have:=Zi1 h' j v hv;show ((Zda q)++Zj r)[(k+1)*5+j]? = some v;have hl:(Zda q).length=5:=rfl;rw[Qt (by omega),hl,show (k+1)*5+j-5=k*5+j by omega];exact this
theorem Xi {ps:List Iv}(h:∀ p∈ps,p.2.oneCell'=true):∀ u∈Zj ps,u.oneCell'=true:=fun u hu=>by
 unfold Zj at hu;rw[List.mem_flatten] at hu;obtain⟨l,hl,hul⟩:=hu;obtain⟨p,hp,rfl⟩:=List.mem_map.1 hl;simp[Zda] at hul;rcases hul with rfl | rfl | rfl | rfl | rfl
 ·rfl
 ·rfl
 ·rfl
 ·rfl
 ·exact h p hp
theorem Zu8 (v:Qan) (s:It) (w:Qam) (h:Itm (Old w) w v s):Qat Tryz.prog 149 #[v] w fun e w'=>e=.returned (.bool (Zgs s))/\Qau w.heap.size w w':=by{
 obtain⟨A,c,rfl,_,l1,m1,_⟩:=h.open;have hw:Zgs s=(decide (s.2.1≠0)&&decide (s.2.2.length=0)):=rfl;obtain⟨n,hn⟩:∃ n,s.2.2.length=n:=⟨_,rfl⟩
 unfold itV;rw[hn] at l1 hw ⊢;obtain⟨w0,hw0,f1,f2,f3,f4,f5,hs0,hB0,_⟩:=Z9 w (.int .u8 (s.1.1.toNat:Int)) (.int .u32 s.1.2.1) (.int .u32 s.1.2.2) (.int .i64 s.2.1) (.slice A n c) 54;clear f1 f2 f3 hs0 hn h;replace hB0:=Za hB0;obtain⟨r,hr⟩:∃ r,s.2.1=r:=⟨_,rfl⟩
 rw[hr] at hw f4 hw0 ⊢;clear hr;generalize Zgs s=res at hw ⊢;replace hw:=Za hw;by_cases h0:r=0
 ·have t0:(r != 0)=false:=by simpa using h0
  have hr:=Za (show res=false by rw[hw.out];simp[h0]);replace h0:=Za h0
  go_enter Tryz.func149,Tryz.ntmps149
  go_upto_region 1 with fail
  clear hw0
  go_wp2_with fail
  go_ret;exact⟨Yn hr.out.symm,hB0.out⟩
 ·have t0:(r != 0)=true:=by simpa using h0
  by_cases h1:n=0
  ·have t1:((n:Int)==0)=true:=by simp;omega
   have hr:=Za (show res=true by rw[hw.out];simp[h0,h1]);replace h0:=Za h0;replace h1:=Za h1
   go_enter Tryz.func149,Tryz.ntmps149
   go_upto_region 1 with fail
   clear hw0
   go_wp2_with fail
   go_ret;exact⟨Yn hr.out.symm,hB0.out⟩
  ·have t1:((n:Int)==0)=false:=by simp;omega
   have hr:=Za (show res=false by rw[hw.out];simp[h1]);replace h0:=Za h0;replace h1:=Za h1
   go_enter Tryz.func149,Tryz.ntmps149
   go_upto_region 1 with fail
   clear hw0
   go_wp2_with fail
   go_ret;exact⟨Yn hr.out.symm,hB0.out⟩}
theorem Zct (b:Bool):b=false\/b=true:=by cases b <;> simp
theorem Zgi (v:Qan) (n:Nd) (w:Qam) (h:Nod (Old w) w v n):Qat Tryz.prog 115 #[v] w fun e w'=>e=.returned (.int .i64 (Z2j n))/\Qau w.heap.size w w':=by{
 obtain⟨A,c,rfl,hin,l1,m1,hA⟩:=h.open;have hbad0:=Za (fun hh=>Zh9 (Zw6 (n:=n) hh));have hbad1:Hid (∀ k,k<n.2.length->Zkg n k=false->Z2j n=8):=Za fun k hk hh=>Zh9 (Z9w hk hh)
 have hgood:=Za (fun hh h2=>Zrg (Z0i (n:=n) hh h2));have HA:=Za hA;clear h hA;obtain⟨m,hm⟩:∃ m,n.2.length=m:=⟨_,rfl⟩
 obtain⟨l,hl⟩:∃ l,n.1=l:=⟨_,rfl⟩
 rw[hm] at l1 hbad0 hbad1 hgood HA ⊢;rw[hl] at hbad0 hgood hin ⊢;obtain⟨i1,i2⟩:=hin;replace hm:=Za hm;replace hl:=Za hl;obtain⟨w0,hw0,b0,hs0,hB0⟩:=Yd w (.int .i64 l) (.slice A m c) 81;obtain⟨f1,f2,_,lt0⟩:=Zg b0;replace hB0:=Za hB0;replace b0:=Za b0;replace hs0:=Za hs0;by_cases h1:l<0
 ·have hr:=Za (hbad0.out (by omega))
  rw[hr.out]
  go_enter Tryz.func115,Tryz.ntmps115
  go_upto_region 1 with fail
  clear hw0
  go_wp2_with fail
  go_ret;exact⟨rfl,hB0.out⟩
 by_cases h2:6<=l
 ·have hr:=Za (hbad0.out (by omega))
  rw[hr.out]
  go_enter Tryz.func115,Tryz.ntmps115
  go_upto_region 1 with fail
  clear hw0
  go_wp2_with fail
  go_ret;exact⟨rfl,hB0.out⟩
 by_cases h3:5<m
 ·have hr:=Za (hbad0.out (by omega))
  have h3':(5:Int)<m:=by omega
  rw[hr.out]
  go_enter Tryz.func115,Tryz.ntmps115
  go_upto_region 1 with fail
  clear hw0
  go_wp2_with fail
  go_ret;exact⟨rfl,hB0.out⟩
 have h3':¬ (5:Int)<m:=by omega
 by_cases h4:0<l/\m=0
 ·have hr:=Za (hbad0.out (by omega))
  obtain⟨h4a,h4b⟩:=h4;have h4c:((m:Int)==0)=true:=by simp;omega
  replace h4b:=Za h4b;rw[hr.out]
  go_enter Tryz.func115,Tryz.ntmps115
  go_upto_region 1 with fail
  clear hw0
  go_wp2_with fail
  go_ret;exact⟨rfl,hB0.out⟩
 have hgood2:=Za (hgood.out (by omega));have hB:=Za (fun wr (hb:Qau w0.heap.size w0 wr)=>hB0.out.trans (hb.mono hB0.out.size));clear hgood hbad0;rcases(by omega:l<=0\/(0<l/\m≠0)) with h5 | ⟨h5,h6⟩
 rotate_left
 ·have h6':((m:Int)==0)=false:=by simp;omega
  replace h6:=Za h6;replace h4:=Za h4
  go_enter Tryz.func115,Tryz.ntmps115
  go_upto_region 1 with fail
  clear hw0
  go_wp2_with fail
  go_loopw [31] (fun i wr=>∃ k:Nat,k<=m/\i=.int .i64 k/\(∀ j,j<k->Zkg n j=true)/\Qau w0.heap.size w0 wr) (fun i _=>m-(intOf i).toNat)
  case atStart=>exact⟨0,by omega,rfl,fun j hj=>by omega,Qb _ _⟩
  case round =>
   obtain⟨k,hk,rfl,ha,hb⟩:=hrel;replace ha:=Za ha;replace hb:=Za hb;have p1:=(hb.out.cell (p:=⟨w.heap.size,0,none⟩) lt0).trans f1;have p2:=(hb.out.cell (p:=⟨w.heap.size,1,none⟩) lt0).trans f2;by_cases hlt:k<m
   case neg =>
    have hfin:=Za (hgood2.out fun i hi=>ha.out i (by omega));have BF:=Za (hB.out _ hb.out)
    go_wp2_with fail
    go_ret;exact⟨Z1 hfin.out.symm,BF.out⟩
   obtain⟨x,hx⟩:∃ x,n.2[k]? = some x:=⟨_,Qe (by rw[hm.out];exact hlt)⟩
   obtain⟨ad,E,ce,rfl,q1,q2,hinx,FX⟩:=V5 HA.out hx;have FX':=Za (fun W (hW:Qau wr.heap.size wr W)=>FX W ((hB.out _ hb.out).trans (hW.mono (hB.out _ hb.out).size)));obtain⟨⟨z0,z1,z2,z3,z4⟩,hIx⟩:=FX'.out wr (Qb _ _);obtain⟨w2,hw2,g0,g1,g2,g3,g4,hs2,hB2,_⟩:=Z9 wr (.int .u8 (x.1.1.toNat:Int)) (.int .u32 x.1.2.1) (.int .u32 x.1.2.2) (.int .i64 x.2.1) (.slice E x.2.2.length ce) 54;have HI:=Za (hIx.below hB2);have lt2:wr.heap.size<w2.heap.size:=by omega
   have B2:=Za (hb.out.trans (hB2.mono hb.out.size));have C2:=Za hB2;replace hx:=Za hx;replace hs2:=Za hs2;have hbk:=Za (hbad1.out k hlt);clear FX hIx hB2 hinx;unfold itV at *
   go_upto_region 8 with fail
   clear hw2
   go_wp2_with fail
   with_reducible refine(Za6 _ x _ HI.out).mono ?_
   rintro e3 w3 ⟨rfl,hb3⟩;have B3:=Za (B2.out.trans (hb3.mono B2.out.size));have C3:=Za (C2.out.trans (hb3.mono C2.out.size));have r0:=(hb3.cell (p:=⟨wr.heap.size,0,none⟩) lt2).trans g0;have r1:=(hb3.cell (p:=⟨wr.heap.size,1,none⟩) lt2).trans g1;have r2:=(hb3.cell (p:=⟨wr.heap.size,2,none⟩) lt2).trans g2;have r3:=(hb3.cell (p:=⟨wr.heap.size,3,none⟩) lt2).trans g3;have r4:=(hb3.cell (p:=⟨wr.heap.size,4,none⟩) lt2).trans g4;have p3:=(hb3.cell (p:=⟨w.heap.size,0,none⟩) (Qd lt0 B2.out.size)).trans ((C2.out.cell (p:=⟨w.heap.size,0,none⟩) (Qd lt0 hb.out.size)).trans p1);have p4:=(hb3.cell (p:=⟨w.heap.size,1,none⟩) (Qd lt0 B2.out.size)).trans ((C2.out.cell (p:=⟨w.heap.size,1,none⟩) (Qd lt0 hb.out.size)).trans p2);replace HI:=Za (HI.out.below hb3);have lt3:wr.heap.size<w3.heap.size:=Qd lt2 hb3.size;clear hb3 g0 g1 g2 g3 g4 z0 z1 z2 z3 z4 p1 p2;rcases Zct (Zbp x) with hmx | hmx
   ·have hr:=Za (hbk.out (Zni hx.out (by rw[okP,hmx];rfl)))
    have hc:=Za (Zax hmx);have BF:=Za (hB.out _ B3.out);replace hmx:=Za hmx;rw[hc.out]
    go_wp2_with fail
    go_ret;exact⟨Z1 hr.out.symm,BF.out⟩
   have hc:=Za (Zdq hmx);replace hmx:=Za hmx;rw[hc.out]
   go_wp2_with fail
   with_reducible refine(Zu8 _ x _ HI.out).mono ?_
   rintro e4 w4 ⟨rfl,hb4⟩;have B4:=Za (B3.out.trans (hb4.mono B3.out.size));have C4:=Za (C3.out.trans (hb4.mono C3.out.size));have t0:=(hb4.cell (p:=⟨wr.heap.size,0,none⟩) lt3).trans r0;have t1:=(hb4.cell (p:=⟨wr.heap.size,1,none⟩) lt3).trans r1;have t2:=(hb4.cell (p:=⟨wr.heap.size,2,none⟩) lt3).trans r2;have p5:=(hb4.cell (p:=⟨w.heap.size,1,none⟩) (Qd lt0 B3.out.size)).trans p4;have lt4:wr.heap.size<w4.heap.size:=Qd lt3 hb4.size;have lt0':w.heap.size<w4.heap.size:=Qd lt0 B4.out.size;clear hb4 r0 r1 r2 r3 r4 p3 p4;rcases Zct (Zgs x) with hrx | hrx
   ·have hr:=Za (hbk.out (Zni hx.out (by rw[okP,hmx.out,hrx,hl.out];simp;omega)))
    have BF:=Za (hB.out _ B4.out);rw[hrx];replace hrx:=Za hrx
    go_wp2_with fail
    go_ret;exact⟨Z1 hr.out.symm,BF.out⟩
   have hP:=Za (show okP n.1 x=true by rw[okP,hmx.out,hrx];simp);rw[hrx];replace hrx:=Za hrx;rcases(by rcases k with _ | j;exact Or.inl rfl;exact Or.inr ⟨j,rfl⟩:k=0\/∃ j,k=j+1) with hk0 | ⟨j,hkj⟩
   ·have hall:=Za (show ∀ j,j<k+1->Zkg n j=true from fun j hj=>by
     obtain rfl:j=0:=by omega
     subst hk0
     rw[Zje hx.out,hP.out])
    subst hk0
    go_wp2_with fail
    go_quiet (fail)
    go_wp2_with fail
    go_roundw
    case rel=>exact⟨0+1,by omega,by go_num,hall.out,Zbg B4.out _⟩
    case measure=>simp[intOf];omega
   ·obtain⟨y,hy⟩:∃ y,n.2[j]? = some y:=⟨_,Qe (by rw[hm.out];omega)⟩
    obtain⟨ad',E',ce',e',_,_,_,FY⟩:=V5 HA.out hy;have e'':=Option.some.inj e';subst e'';clear e';have BW4:=Za (hB.out _ B4.out);have FYY:=Za fun W (hW:Qau _ _ W)=>(FY W (BW4.out.trans (hW.mono BW4.out.size))).1
    have hsucc:=Za (show Zkg n k=Zn y.1 x.1 by subst hkj;rw[Zfo hx.out hy,hP.out];simp);have hj1:(k:Int)-1=(j:Int):=by omega
    replace hy:=Za hy;obtain⟨s,hs⟩:∃ s,Zn y.1 x.1=s:=⟨_,rfl⟩
    rw[hs] at hsucc;replace hs:=Za hs;have hwj:IntKind.i64.wrap (j:Int)=(j:Int):=Q8 _ (by omega);have hj0:(0:Int)<=(j:Int):=by omega
    have kpos:(0:Int)<(k:Int):=by omega
    have hjm:(j:Int)<(m:Int):=by omega
    clear FY
    go_wp2_with fail
    refine wp_region_fx (by kernel_rfl) (fun W=>Qau _ _ W) (fun _=>none) (fun i=>match i with
     | 12=>some (.bool s)
     | _=>none) (by kernel_rfl) (Qb _ _).drew (fun w w' h hb=>h.trans (hb.mono h.size)) (fun j φ x W W' hp=>by cases hp) ?_
    repeat (first
     | (refine wpAs_skip rfl ?_;simp only[Qa,Zb,Zc,Zd])
     | (refine wpAs_pure (v := ?_) rfl rfl ?_ ?_;rotate_left;(intro W hC hE;clear hE;(obtain⟨y0,y1,y2,y3,y4⟩:=FYY.out W hC;have x0:=(hC.cell (p:=⟨wr.heap.size,0,none⟩) lt4).trans t0;have x1:=(hC.cell (p:=⟨wr.heap.size,1,none⟩) lt4).trans t1;have x2:=(hC.cell (p:=⟨wr.heap.size,2,none⟩) lt4).trans t2;have p6:=(hC.cell (p:=⟨w.heap.size,1,none⟩) lt0').trans p5);clear hC;go_simp;first | done | with_reducible rfl);simp only[Qa,Zb,Zc,Zd]))
    refine wpAs_fixed rfl rfl rfl ?_ ?_
    ·intro W hC hE
     refine does_enter (f:=56) (args:=#[kyV y.1,kyV x.1]) ?_ ?_
     ·go_simp
     ·refine(Zee y.1 x.1 W).mono ?_
      rintro e W' ⟨rfl,hg⟩;rw[hs.out];exact⟨_,rfl,rfl,hg⟩
    simp only[Qa,Zb,Zc,Zd]
    repeat (first
     | (refine wpAs_skip rfl ?_;simp only[Qa,Zb,Zc,Zd])
     | (refine wpAs_pure (v := ?_) rfl rfl ?_ ?_;rotate_left;(intro W hC hE;clear hE;skip;clear hC;go_simp;first | done | with_reducible rfl);simp only[Qa,Zb,Zc,Zd]))
    refine wpAs_end fun W hC hE=> ?_
    have BW:=Za (B4.out.trans (hC.mono B4.out.size));clear hE hC;cases s with
    | true =>
     have hall:=Za (show ∀ j,j<k+1->Zkg n j=true from fun j hj=>by
      rcases Qs j k with h | h
      ·exact ha.out j h
      ·obtain rfl:j=k:=by omega
       exact hsucc.out)
     go_wp2_with fail
     go_roundw
     case rel=>exact⟨k+1,by omega,by go_num,hall.out,BW.out⟩
     case measure=>simp[intOf];omega
    | false =>
     have hr:=Za (hbk.out hsucc.out);have BF:=Za (hB.out _ BW.out)
     go_wp2_with fail
     go_ret;exact⟨Z1 hr.out.symm,BF.out⟩
 ·replace h4:=Za h4
  go_enter Tryz.func115,Tryz.ntmps115
  go_upto_region 1 with fail
  clear hw0
  go_wp2_with fail
  go_loopw [31] (fun i wr=>∃ k:Nat,k<=m/\i=.int .i64 k/\(∀ j,j<k->Zkg n j=true)/\Qau w0.heap.size w0 wr) (fun i _=>m-(intOf i).toNat)
  case atStart=>exact⟨0,by omega,rfl,fun j hj=>by omega,Qb _ _⟩
  case round =>
   obtain⟨k,hk,rfl,ha,hb⟩:=hrel;replace ha:=Za ha;replace hb:=Za hb;have p1:=(hb.out.cell (p:=⟨w.heap.size,0,none⟩) lt0).trans f1;have p2:=(hb.out.cell (p:=⟨w.heap.size,1,none⟩) lt0).trans f2;by_cases hlt:k<m
   case neg =>
    have hfin:=Za (hgood2.out fun i hi=>ha.out i (by omega));have BF:=Za (hB.out _ hb.out)
    go_wp2_with fail
    go_ret;exact⟨Z1 hfin.out.symm,BF.out⟩
   obtain⟨x,hx⟩:∃ x,n.2[k]? = some x:=⟨_,Qe (by rw[hm.out];exact hlt)⟩
   obtain⟨ad,E,ce,rfl,q1,q2,hinx,FX⟩:=V5 HA.out hx;have FX':=Za (fun W (hW:Qau wr.heap.size wr W)=>FX W ((hB.out _ hb.out).trans (hW.mono (hB.out _ hb.out).size)));obtain⟨⟨z0,z1,z2,z3,z4⟩,hIx⟩:=FX'.out wr (Qb _ _);obtain⟨w2,hw2,g0,g1,g2,g3,g4,hs2,hB2,_⟩:=Z9 wr (.int .u8 (x.1.1.toNat:Int)) (.int .u32 x.1.2.1) (.int .u32 x.1.2.2) (.int .i64 x.2.1) (.slice E x.2.2.length ce) 54;have HI:=Za (hIx.below hB2);have lt2:wr.heap.size<w2.heap.size:=by omega
   have B2:=Za (hb.out.trans (hB2.mono hb.out.size));have C2:=Za hB2;replace hx:=Za hx;replace hs2:=Za hs2;have hbk:=Za (hbad1.out k hlt);clear FX hIx hB2 hinx;unfold itV at *
   go_upto_region 8 with fail
   clear hw2
   go_wp2_with fail
   with_reducible refine(Za6 _ x _ HI.out).mono ?_
   rintro e3 w3 ⟨rfl,hb3⟩;have B3:=Za (B2.out.trans (hb3.mono B2.out.size));have C3:=Za (C2.out.trans (hb3.mono C2.out.size));have r0:=(hb3.cell (p:=⟨wr.heap.size,0,none⟩) lt2).trans g0;have r1:=(hb3.cell (p:=⟨wr.heap.size,1,none⟩) lt2).trans g1;have r2:=(hb3.cell (p:=⟨wr.heap.size,2,none⟩) lt2).trans g2;have r3:=(hb3.cell (p:=⟨wr.heap.size,3,none⟩) lt2).trans g3;have r4:=(hb3.cell (p:=⟨wr.heap.size,4,none⟩) lt2).trans g4;have p3:=(hb3.cell (p:=⟨w.heap.size,0,none⟩) (Qd lt0 B2.out.size)).trans ((C2.out.cell (p:=⟨w.heap.size,0,none⟩) (Qd lt0 hb.out.size)).trans p1);have p4:=(hb3.cell (p:=⟨w.heap.size,1,none⟩) (Qd lt0 B2.out.size)).trans ((C2.out.cell (p:=⟨w.heap.size,1,none⟩) (Qd lt0 hb.out.size)).trans p2);replace HI:=Za (HI.out.below hb3);have lt3:wr.heap.size<w3.heap.size:=Qd lt2 hb3.size;clear hb3 g0 g1 g2 g3 g4 z0 z1 z2 z3 z4 p1 p2;rcases Zct (Zbp x) with hmx | hmx
   ·have hr:=Za (hbk.out (Zni hx.out (by rw[okP,hmx];rfl)))
    have hc:=Za (Zax hmx);have BF:=Za (hB.out _ B3.out);replace hmx:=Za hmx;rw[hc.out]
    go_wp2_with fail
    go_ret;exact⟨Z1 hr.out.symm,BF.out⟩
   have hc:=Za (Zdq hmx);replace hmx:=Za hmx;rw[hc.out];have h5q:¬ (0:Int)<l:=by omega
   have hP:=Za (show okP n.1 x=true by rw[okP,hmx.out,hl.out];simp;omega);obtain⟨w4,hw4⟩:∃ w4,w3=w4:=⟨_,rfl⟩
   subst hw4;have B4:=B3;have C4:=C3;have t0:=r0;have t1:=r1;have t2:=r2;have p5:=p4;have lt4:=lt3;have lt0':w.heap.size<w3.heap.size:=Qd lt0 B4.out.size;clear r0 r1 r2 r3 r4 lt3;rcases(by rcases k with _ | j;exact Or.inl rfl;exact Or.inr ⟨j,rfl⟩:k=0\/∃ j,k=j+1) with hk0 | ⟨j,hkj⟩
   ·have hall:=Za (show ∀ j,j<k+1->Zkg n j=true from fun j hj=>by
     obtain rfl:j=0:=by omega
     subst hk0
     rw[Zje hx.out,hP.out])
    subst hk0
    go_wp2_with fail
    go_quiet (fail)
    go_wp2_with fail
    go_roundw
    case rel=>exact⟨0+1,by omega,by go_num,hall.out,Zbg B4.out _⟩
    case measure=>simp[intOf];omega
   ·obtain⟨y,hy⟩:∃ y,n.2[j]? = some y:=⟨_,Qe (by rw[hm.out];omega)⟩
    obtain⟨ad',E',ce',e',_,_,_,FY⟩:=V5 HA.out hy;have e'':=Option.some.inj e';subst e'';clear e';have BW4:=Za (hB.out _ B4.out);have FYY:=Za fun W (hW:Qau _ _ W)=>(FY W (BW4.out.trans (hW.mono BW4.out.size))).1
    have hsucc:=Za (show Zkg n k=Zn y.1 x.1 by subst hkj;rw[Zfo hx.out hy,hP.out];simp);have hj1:(k:Int)-1=(j:Int):=by omega
    replace hy:=Za hy;obtain⟨s,hs⟩:∃ s,Zn y.1 x.1=s:=⟨_,rfl⟩
    rw[hs] at hsucc;replace hs:=Za hs;have hwj:IntKind.i64.wrap (j:Int)=(j:Int):=Q8 _ (by omega);have hj0:(0:Int)<=(j:Int):=by omega
    have kpos:(0:Int)<(k:Int):=by omega
    have hjm:(j:Int)<(m:Int):=by omega
    clear FY
    go_wp2_with fail
    refine wp_region_fx (by kernel_rfl) (fun W=>Qau _ _ W) (fun _=>none) (fun i=>match i with
     | 12=>some (.bool s)
     | _=>none) (by kernel_rfl) (Qb _ _).drew (fun w w' h hb=>h.trans (hb.mono h.size)) (fun j φ x W W' hp=>by cases hp) ?_
    repeat (first
     | (refine wpAs_skip rfl ?_;simp only[Qa,Zb,Zc,Zd])
     | (refine wpAs_pure (v := ?_) rfl rfl ?_ ?_;rotate_left;(intro W hC hE;clear hE;(obtain⟨y0,y1,y2,y3,y4⟩:=FYY.out W hC;have x0:=(hC.cell (p:=⟨wr.heap.size,0,none⟩) lt4).trans t0;have x1:=(hC.cell (p:=⟨wr.heap.size,1,none⟩) lt4).trans t1;have x2:=(hC.cell (p:=⟨wr.heap.size,2,none⟩) lt4).trans t2;have p6:=(hC.cell (p:=⟨w.heap.size,1,none⟩) lt0').trans p5);clear hC;go_simp;first | done | with_reducible rfl);simp only[Qa,Zb,Zc,Zd]))
    refine wpAs_fixed rfl rfl rfl ?_ ?_
    ·intro W hC hE
     refine does_enter (f:=56) (args:=#[kyV y.1,kyV x.1]) ?_ ?_
     ·go_simp
     ·refine(Zee y.1 x.1 W).mono ?_
      rintro e W' ⟨rfl,hg⟩;rw[hs.out];exact⟨_,rfl,rfl,hg⟩
    simp only[Qa,Zb,Zc,Zd]
    repeat (first
     | (refine wpAs_skip rfl ?_;simp only[Qa,Zb,Zc,Zd])
     | (refine wpAs_pure (v := ?_) rfl rfl ?_ ?_;rotate_left;(intro W hC hE;clear hE;skip;clear hC;go_simp;first | done | with_reducible rfl);simp only[Qa,Zb,Zc,Zd]))
    refine wpAs_end fun W hC hE=> ?_
    have BW:=Za (B4.out.trans (hC.mono B4.out.size));clear hE hC;cases s with
    | true =>
     have hall:=Za (show ∀ j,j<k+1->Zkg n j=true from fun j hj=>by
      rcases Qs j k with h | h
      ·exact ha.out j h
      ·obtain rfl:j=k:=by omega
       exact hsucc.out)
     go_wp2_with fail
     go_roundw
     case rel=>exact⟨k+1,by omega,by go_num,hall.out,BW.out⟩
     case measure=>simp[intOf];omega
    | false =>
     have hr:=Za (hbk.out hsucc.out);have BF:=Za (hB.out _ BW.out)
     go_wp2_with fail
     go_ret;exact⟨Z1 hr.out.symm,BF.out⟩}
theorem Z2t (w:Qam) (x y z:UInt8) (a b c:Int) (h1:(x.toNat:Int)=a) (h2:(y.toNat:Int)=b) (h3:(z.toNat:Int)=c):∃ w1,w.alloc (.cells #[.int .u8 a,.int .u8 b,.int .u8 c] 5)=w1/\w1.ownsRow w.heap.size 5 1 (.slice (some ⟨w.heap.size,0,none⟩) 3 3) 3 (u8s [x,y,z])/\Qau w.heap.size w w1/\w1.heap.size=w.heap.size+1:=by
 subst h1 h2 h3;refine⟨_,rfl,?_,(Qb _ _).alloc (Qc _) _,by simp⟩;have h1:Row (w.alloc (.cells #[.int .u8 (x.toNat:Int),.int .u8 (y.toNat:Int),.int .u8 (z.toNat:Int)] 5)) w.heap.size [x,y,z]:=Row.new w [x,y,z];exact h1.own (Qc _) (by simp)
theorem Zuv {l:Int}(h0:0<=l) (h1:l<256):((UInt8.ofNat l.toNat).toNat:Int)=l/\IntKind.u8.wrap l=l:=by{
 refine⟨?_,?_⟩
 ·rw[UInt8.toNat_ofNat']
  omega
 ·simp[IntKind.wrap,IntKind.signed,IntKind.bits]
  omega}
theorem Znp {n:Nd}(h:mayN n=true) (k:Nat):(Zdi (n.2.take k)).length<=120:=by
 have h1:=Zmp (l:=n.2.take k) (fun x hx=>Zmt h x (List.mem_of_mem_take hx));have h2:=(Zv h).1.2.2.1;have h3:(n.2.take k).length<=n.2.length:=by rw[Qo];omega
 omega
theorem Zm2 (v:Qan) (n:Nd) (w:Qam) (h:Nod (Old w) w v n) :
  Qat Tryz.prog 79 #[v] w fun e w'=>∃ u,e=.returned (.tuple #[u,.int .i64 (Z2j n)])/\rBy (New w.heap.size w') w' [u] (wrN n)/\Qau w.heap.size w w':=by{
 obtain⟨A,c,rfl,hin,l1,m1,hA⟩:=h.open;obtain⟨w0,hw0,b0,hs0,hB0⟩:=Yd w (.int .i64 n.1) (.slice A n.2.length c) 81;obtain⟨f1,f2,_,lt0⟩:=Zg b0;have HN:=Za (h.below hB0);have HA:=Za hA;have HB0:=Za hB0;replace hs0:=Za hs0;clear h hA hB0 b0 hin;rcases Zct (mayN n) with hm | hm
 ·have hc:=Za (Zh9 hm)
  have hw:=Za (show wrN n=[] by simp[wrN,hm]);rw[hw.out]
  go_enter Tryz.func79,Tryz.ntmps79
  go_upto_region 1 with fail
  clear hw0
  go_wp2_with fail
  with_reducible refine(Zgi _ n _ HN.out).mono ?_
  rintro e1 w1 ⟨rfl,hb1⟩;rw[hc.out];have BF:=Za (HB0.out.trans (hb1.mono HB0.out.size));clear hb1
  go_wp2_with fail
  go_ret2
  exact⟨_,Zl7 hc.out.symm,Ziq _ _,BF.out⟩
 have hmay:=Za hm;have hc:=Za (Zrg hm);have hwr:=Za (show wrN n=Va n by simp[wrN,hm]);rw[hwr.out];obtain⟨⟨s1,s2,s3,_⟩,_⟩:=Zv hm;obtain⟨m,hmm⟩:∃ m,n.2.length=m:=⟨_,rfl⟩
 have hu1:=Zuv s1 (by omega);have hu2:=Zuv (l:=(n.2.length:Int)) (by omega) (by omega);have hhead:=Za (show Zwe n=[78,UInt8.ofNat n.1.toNat,UInt8.ofNat n.2.length] from rfl);rw[Int.toNat_natCast] at hu2;rw[hmm] at l1 f2 hw0 HN HA s3 hu2 hhead ⊢;obtain⟨l,hl⟩:∃ l,n.1=l:=⟨_,rfl⟩
 rw[hl] at f1 hw0 HN s1 s2 hu1 hhead ⊢;replace hl:=Za hl;replace hmm:=Za hmm;clear hm
 go_enter Tryz.func79,Tryz.ntmps79
 go_upto_region 1 with fail
 clear hw0
 go_wp2_with fail
 with_reducible refine(Zgi _ n _ HN.out).mono ?_
 rintro e1 w1 ⟨rfl,hb1⟩;rw[hc.out];have B1:=Za (HB0.out.trans (hb1.mono HB0.out.size));have p1:=(hb1.cell (p:=⟨w.heap.size,0,none⟩) lt0).trans f1;have p2:=(hb1.cell (p:=⟨w.heap.size,1,none⟩) lt0).trans f2;have lt1:w.heap.size<w1.heap.size:=Qd lt0 hb1.size;clear hb1 f1 f2;obtain⟨w2,hw2,own2,hb2,hs2⟩:=Z2t w1 78 (UInt8.ofNat l.toNat) (UInt8.ofNat m) 78 l m rfl hu1.1 hu2.1;rw[<- hhead.out] at own2;have q1:=hu1.2;have q2:=hu2.2;have B2:=Za (B1.out.trans (hb2.mono B1.out.size));have p3:=(hb2.cell (p:=⟨w.heap.size,1,none⟩) lt1).trans p2;have lt2:w.heap.size<w2.heap.size:=Qd lt1 hb2.size;have h12:=Za hb2.size;replace own2:=Za own2;replace hu1:=Za hu1;replace hu2:=Za hu2;replace hs2:=Za hs2;have hb2':=Za hb2;have p2':=Za p2;clear hb2
 go_upto_region 5 with fail
 clear hw2 p1 p2
 go_wp2_with fail
 go_loopw [5,26] (fun b i wr=>∃ k:Nat,k<=m/\i=.int .i64 k/\wr.ownsRow w1.heap.size 5 1 b (3+(Zdi (n.2.take k)).length) (u8s (Zwe n++Zdi (n.2.take k)))/\Qau w1.heap.size w1 wr) (fun _ i _=>m-(intOf i).toNat)
 case atStart=>exact⟨0,by omega,rfl,by simpa [Zdi] using own2.out,hb2'.out⟩
 case round =>
  obtain⟨k,hk,rfl,hown,hb⟩:=hrel;replace hb:=Za hb;have h63:=Znp hmay.out k;obtain⟨B,cb,rfl,c1,c2,hby⟩:=Z7u hown;have BF:=Za (B1.out.trans (hb.out.mono B1.out.size));by_cases hlt:k<m
  case neg =>
   have hkm:Hid (n.2.take k=n.2):=Za (Qf (by rw[hmm.out];omega));rw[hkm.out] at hby c1 h63 ⊢;obtain⟨q,hq⟩:∃ q,3+(Zdi n.2).length=q:=⟨_,rfl⟩
   have hlen:=Za (show (Zca n).length=q by rw[<- hq];simp[Zca,Zwe];omega);have hse:=Za (show se q=0 from if_pos (by omega));have hsb:=Za (show sb (Zca n)=Va n from if_pos (by rw[hlen.out];omega));have HY:Hid (Byt wr wr.heap.size B (Zca n)):=Za hby
   rw[hq] at c1 ⊢;clear hown hq
   go_wp2_with fail
   with_reducible refine(Z5n B q cb (Zca n) hlen c1 c2 _ HY.out).mono ?_
   rintro e9 w9 ⟨u,rfl,ho,hb9⟩;rw[hse.out];rw[hsb.out] at ho;have hfin:=Za (Zf.mono (Zhi ho) BF.out.size);have B9:=Za (BF.out.trans (hb9.mono BF.out.size));clear hb9 ho
   go_wp2_with fail
   go_ret2
   exact⟨_,Zl7 hc.out.symm,hfin.out,B9.out⟩
  have p4:=(hb.out.cell (p:=⟨w.heap.size,1,none⟩) lt1).trans p2'.out;obtain⟨x,hx⟩:∃ x,n.2[k]? = some x:=⟨_,Qe (by rw[hmm.out];exact hlt)⟩
  obtain⟨ad,E,ce,rfl,q1,q2,hinx,FX⟩:=V5 HA.out hx;obtain⟨⟨z0,z1,z2,z3,z4⟩,hIx⟩:=FX wr BF.out;obtain⟨w3,hw3,r0,r1,r2,r3,r4,hs3,hB3,_⟩:=Z9 wr (.int .u8 (x.1.1.toNat:Int)) (.int .u32 x.1.2.1) (.int .u32 x.1.2.2) (.int .i64 x.2.1) (.slice E x.2.2.length ce) 54;have HI:=Za (hIx.below hB3);have B3:=Za (hb.out.trans (hB3.mono hb.out.size));have O3:=Za (Zx hown hB3);have hmx:=Zqp (Zfr hmay.out hx);have hcx:=Za (Zdq hmx);have hwx:=Za (show wrI x=itB x by simp[wrI,hmx]);have htk:=Za (Zyl hx);have hlx:=Za (show (itB x).length<=24 by have:=(Zaj hmx).2;rw[Zce];omega);replace hx:=Za hx;replace hs3:=Za hs3;clear FX hB3 hinx hIx hown hby hmx;unfold itV at *
  go_upto_region 8 with fail
  clear hw3 z0 z1 z2 z3 z4
  go_wp2_with fail
  with_reducible refine(Zqn _ x _ HI.out).mono ?_
  rintro e4 w4 ⟨u,rfl,hu,hb4⟩;rw[hcx.out];rw[hwx.out] at hu;obtain⟨U,cu,rfl,_,_,hyu⟩:=Vg (B:=w4.heap.size) (fun p hp=>hp.2.1) hu;have B4:=B3.out.trans (hb4.mono B3.out.size);obtain⟨v5,w5,hr5,o5,ba5⟩:=Zii _ (3+(Zdi (n.2.take k)).length) (itB x).length cu _ (itB x) U w1.heap.size w4 (Zx O3.out hb4) hyu rfl (by have:=hlx.out;omega) B4.size;have B5:=Za (B4.trans ba5);have H5:=Za hr5
  have o5':=Za (show w5.ownsRow w1.heap.size 5 1 v5 (3+(Zdi (n.2.take (k+1))).length) (u8s (Zwe n++Zdi (n.2.take (k+1)))) by
   rw[htk.out,Qi,<- Qn,<- P5]
   exact o5)
  clear hu hb4 hyu hr5 o5 ba5 B4
  go_wp2_with (at_builtin;refine Zp rfl _ _ _ rfl rfl rfl H5.out ?_;clear H5)
  go_roundw
  case rel=>exact⟨k+1,by omega,by go_num,o5'.out,B5.out⟩
  case measure=>simp[intOf];omega}
def Z2u (body:List UInt8):Int:=((body[1]?.getD 0).toNat:Int)
def Zeu (body:List UInt8):Nat:=(body[2]?.getD 0).toNat
theorem Z31 (body:List UInt8):Zeu body<256:=(body[2]?.getD 0).toNat_lt
theorem Z0c (body:List UInt8):Zkh (Z2u body):=by
 have:=(body[1]?.getD 0).toNat_lt;unfold Z2u;exact⟨by omega,by omega⟩
def ndN (body:List UInt8):Nd:=(Z2u body,Zyt (body.drop 3) (Zeu body))
def rdN (body:List UInt8):Bool:=decide (body[0]?.getD 0=78)&&((U8 (body.drop 3) (Zeu body)).isSome&&(mayN (ndN body)&&U6 (Z0k (body.drop 3) (Zeu body))))
def reN (b:List UInt8):Int:=if oe b=0 then (if rdN (ob b) then 0 else 8) else oe b
def reV (b:List UInt8):Nd:=if oe b=0 then (if rdN (ob b) then ndN (ob b) else Ui) else Ui
theorem Ztd {b:List UInt8}(h:oe b=0):b.length=128/\Zu6 b/\ob b=b.drop 4/\(ob b).length=124:=by{
 unfold oe at h;by_cases h1:b.length=128
 ·rw[if_pos h1] at h
  by_cases h2:Zu6 b
  ·have:ob b=b.drop 4:=by unfold ob;rw[if_pos ⟨h1,h2⟩]
   exact⟨h1,h2,this,by rw[this];simp[h1]⟩
  ·rw[if_neg h2] at h;cases h
 ·rw[if_neg h1] at h;cases h}
theorem Zs6 {b:List UInt8}(h:oe b≠0):reN b=oe b/\reV b=Ui:=by
 unfold reN reV;rw[if_neg h,if_neg h];exact⟨rfl,rfl⟩
theorem Zxx {b:List UInt8}(h:oe b=0) (h':rdN (ob b)=false):reN b=8/\reV b=Ui:=by
 unfold reN reV;rw[if_pos h,if_pos h,h'];exact⟨rfl,rfl⟩
theorem Zhs {b:List UInt8}(h:oe b=0) (h':rdN (ob b)=true):reN b=0/\reV b=ndN (ob b):=by
 unfold reN reV;rw[if_pos h,if_pos h,h'];exact⟨rfl,rfl⟩
theorem Zef {n:Nd}(h:mayN n=true):n.2.length<=5:=(Zv h).1.2.2.1
def Zke (lo:Nat) (w:Qam) (u:Qan) (n:Nd):Prop:=∃ A c,u=.agg #[.int .i64 n.1,.slice A n.2.length c]/\Zkh n.1/\Yi rIt 5 54 lo w A c n.2
theorem Zke.nod {lo:Nat}{w:Qam}{u:Qan}{n:Nd}(h:Zke lo w u n):Nod (New lo w) w u n:=by
 obtain⟨A,c,rfl,h1,h2⟩:=h;exact⟨_,rfl,h1,h2.rel Z0⟩
theorem Zke.zero (lo:Nat) (w:Qam):Zke lo w (.agg #[.int .i64 0,.slice none 0 0]) Ui:=⟨none,0,rfl,⟨by decide,by decide⟩,Yi.nil _ _ _ _ _⟩
theorem Zke.new {lo lo':Nat}{w w':Qam}{u:Qan}{n:Nd}(h:Zke lo w u n) (hl:lo'<=lo) (hb:Qau w.heap.size w w'):Zke lo' w' u n:=by
 obtain⟨A,c,rfl,h1,h2⟩:=h;exact⟨A,c,rfl,h1,(h2.below Z0 hb).low Z0 hl⟩
theorem Zke.grown {lo:Nat}{w w':Qam}{u:Qan}{n:Nd}{row:Option Nat}(h:Zke lo w u n) (hg:w.grownBy w' row) (hr:∀ q,row=some q->q<lo):Zke lo w' u n:=by
 obtain⟨A,c,rfl,h1,h2⟩:=h;exact⟨A,c,rfl,h1,h2.grown Z0 hg hr⟩
theorem Zpj (v:Qan) (b:List UInt8) (w:Qam) (h:rBy (Old w) w [v] b) :
  Qat Tryz.prog 68 #[v] w fun e w'=>∃ u,e=.returned (.tuple #[u,.int .i64 (reN b)])/\Zke w.heap.size w' u (reV b)/\Qau w.heap.size w w':=by{
 obtain⟨A,c,rfl,l1,m1,hy⟩:=Vg (B:=w.heap.size) (fun p hp=>hp) h;obtain⟨n,hn⟩:∃ n,b.length=n:=⟨_,rfl⟩
 rw[hn] at l1 ⊢;replace hn:=Za hn;obtain⟨w0,hw0,b0,hs0,hB0⟩:=Yd w (.int .i64 0) (.slice none 0 0) 81;have lt0:w.heap.size<w0.heap.size:=by omega
 have HB0:=Za hB0;have HY:=Za ((hy.below hB0).more hB0.size)
 have hzero:Hid (∀ (er:Int) (W:Qam),reN b=er/\reV b=Ui->Qau w0.heap.size w0 W->∃ W9,(W.setCell ⟨w.heap.size,0,none⟩ (.int .i64 0)).setCell ⟨w.heap.size,1,none⟩ (.slice none 0 0)=W9/\W9.cell? ⟨w.heap.size,0,none⟩=some (.int .i64 0)/\W9.cell? ⟨w.heap.size,1,none⟩=some (.slice none 0 0)/\(∀ o,W.frozen? ⟨w.heap.size,o,none⟩=false)/\W.cell? ⟨w.heap.size,0,none⟩=some (.int .i64 0)/\W.cell? ⟨w.heap.size,1,none⟩=some (.slice none 0 0) /\
   (∃ u,Ending.returned (.tuple #[.agg #[.int .i64 0,.slice none 0 0],.int .i64 er])=.returned (.tuple #[u,.int .i64 (reN b)])/\Zke w.heap.size W9 u (reV b)/\Qau w.heap.size w W9)):=Za fun er W hre hW=>by
  have bW:=(hW.block w.heap.size lt0).trans b0;obtain⟨W9,e9,g9,gr9,gs9⟩:=Xu (u:=.int .i64 0) (v:=.slice none 0 0) bW;obtain⟨k0,k1,kf,_⟩:=Zg g9;obtain⟨y0,y1,yf,_⟩:=Zg bW;have hBW:=HB0.out.trans (hW.mono HB0.out.size);exact⟨W9,e9,k0,k1,yf,y0,y1,_,by rw[hre.1],by rw[hre.2];exact Zke.zero _ _,hBW.grown gr9 hBW.size (fun q e=>by cases e;omega)⟩
 replace b0:=Za b0;replace hw0:=Za hw0;clear hB0 hs0 h hy
 go_enter Tryz.func68,Tryz.ntmps68
 go_upto_region 1 with fail
 rw[hw0.out];clear hw0
 go_wp2_with fail
 with_reducible refine(Z3j A n c b hn l1 m1 _ HY.out).mono ?_
 rintro e1 w1 ⟨v1,rfl,ho1,hb1⟩;have B1:=Za hb1;have hBW1:=Za (show w.heap.size<=w1.heap.size from Qh (Nat.le_of_lt lt0) hb1.size);obtain⟨er,hoe⟩:∃ er,oe b=er:=⟨_,rfl⟩
 rw[hoe];by_cases h0:er=0
 case neg =>
  have t0:(er != 0)=true:=by simpa using h0
  obtain⟨W9,e9,k0,k1,yf,y0,y1,hfin⟩:=hzero.out er w1 (by rw[<- hoe];exact Zs6 (by rw[hoe];exact h0)) B1.out;replace hfin:=Za hfin;replace h0:=Za h0;replace hoe:=Za hoe;clear ho1 hb1
  go_wp2_with fail
  exact Qar (v:=.tuple #[.agg #[.int .i64 0,.slice none 0 0],.int .i64 er]) (by simp[results,Tryz.results68,go_sem,k0,k1]) rfl hfin.out
 subst h0;obtain⟨hlen,hfits,hob,hl124⟩:=Ztd hoe;have HZ:=Za (fun W h hW=>hzero.out 8 W (Zxx hoe h) hW);have HG:=Za (fun h=>Zhs hoe h);have hr1:=Zhi ho1;obtain⟨bd,hbd⟩:∃ bd,ob b=bd:=⟨_,rfl⟩
 rw[hbd] at hr1 HZ HG hl124;replace hbd:=Za hbd;obtain⟨Q,cq,rfl,n1,n2,hcell⟩:=Zt hr1;rw[hl124] at n1 hcell hr1 ⊢;obtain⟨ad,rfl,hn0,hc0⟩:=hcell 0 (by omega);obtain⟨_,e,hn1',hc1⟩:=hcell 1 (by omega);cases e;obtain⟨_,e,hn2',hc2⟩:=hcell 2 (by omega);cases e;have z0:w1.cell? ad=some (.int .u8 ((bd[0]?.getD 0).toNat:Int)):=by simpa [Addr.add] using hc0
 have z1:w1.cell? ⟨ad.block,ad.off+1,none⟩=some (.int .u8 ((bd[1]?.getD 0).toNat:Int)):=by simpa [Addr.add] using hc1
 have z2:w1.cell? ⟨ad.block,ad.off+2,none⟩=some (.int .u8 ((bd[2]?.getD 0).toNat:Int)):=by simpa [Addr.add] using hc2
 have ltb:ad.block<w1.heap.size:=P7 _ _ z0;have hrest:=Za (Ztc (Zf.drop hr1) 3 (by omega));have hl:=Za hl124;replace hoe:=Za hoe;clear hfits hob hlen hc0 hc1 hc2 hn0 hn1' hn2' ho1 hb1 hcell hl124 hzero;have hrd:Hid (rdN bd=(decide (bd[0]?.getD 0=78)&&((U8 (bd.drop 3) (Zeu bd)).isSome&&(mayN (ndN bd)&&U6 (Z0k (bd.drop 3) (Zeu bd)))))):=Za rfl;obtain⟨x0,hx0⟩:∃ x,bd[0]?.getD 0=x:=⟨_,rfl⟩
 rw[hx0] at z0 hrd;replace hx0:=Za hx0;by_cases h78:(x0.toNat:Int)=78
 case neg =>
  have t0:((x0.toNat:Int) != 78)=true:=by simpa using h78
  obtain⟨W9,e9,k0,k1,yf,y0,y1,hfin⟩:=HZ.out w1 (by rw[hrd.out];simp;intro e;exact absurd (by rw[e];rfl) h78) B1.out;replace hfin:=Za hfin;replace h78:=Za h78;clear hr1
  go_wp2_with fail
  exact Qar (v:=.tuple #[.agg #[.int .i64 0,.slice none 0 0],.int .i64 8]) (by simp[results,Tryz.results68,go_sem,k0,k1]) rfl hfin.out
 have t0:((x0.toNat:Int) != 78)=false:=by simpa using h78
 have h78':=Za (show x0=78 from UInt8.toNat.inj (by show x0.toNat=78;omega));replace h78:=Za h78;obtain⟨mn,hmn⟩:∃ m,Zeu bd=m:=⟨_,rfl⟩
 have hmlt:=Z31 bd;rw[hmn] at hmlt hrd;have z2':w1.cell? ⟨ad.block,ad.off+2,none⟩=some (.int .u8 (mn:Int)):=by rw[<- hmn];exact z2
 have hmn':=Za hmn;clear z2 hr1 hmn;have had3:ad.add 3=⟨ad.block,ad.off+3,none⟩:=by simp[Addr.add]
 rw[had3] at hrest;have hres:=Za (fun W (hW:Qau w1.heap.size w1 W)=>Zre _ (bd.drop 3) mn hmlt W (Zf.old hrest.out hW))
 go_upto_region 6 with fail
 obtain⟨L,hL⟩:∃ L,Zyt (bd.drop 3) mn=L:=⟨_,rfl⟩
 obtain⟨R,hR⟩:∃ R,Z0k (bd.drop 3) mn=R:=⟨_,rfl⟩
 obtain⟨F,hF⟩:∃ F,Z55 (bd.drop 3) mn=F:=⟨_,rfl⟩
 rw[hL,hR,hF] at hres;have c3:¬ cq=3:=by omega
 have c4:(3:Int)<=cq:=by omega
 have hwm:IntKind.i64.wrap (mn:Int)=(mn:Int):=Q8 _ (by omega)
 refine wp_region_fx (by kernel_rfl) (fun W=>Qau w1.heap.size w1 W) (fun i=>match i with
   | 6=>some (fun v W=>∃ A c u,v=.tuple #[.slice A L.length c,u,.int .i64 F]/\Yi rIt 5 54 w1.heap.size W A c L/\rBy (Old W) W [u] R)
   | 7=>some (fun v W=>∃ A c u,v=.tuple #[.slice A L.length c,u,.int .i64 F]/\Yi rIt 5 54 w1.heap.size W A c L/\rBy (Old W) W [u] R)
   | 8=>some (fun v W=>∃ A c,v=.slice A L.length c/\Yi rIt 5 54 w1.heap.size W A c L)
   | 9=>some (fun v W=>rBy (Old W) W [v] R)
   | _=>none) (fun i=>match i with
   | 10=>some (.int .i64 F)
   | _=>none) (by kernel_rfl) (Qb _ _).drew (fun w w' h hb=>h.trans (hb.mono h.size)) ?tst ?_
 case tst =>
  intro j φ x W W' hp hx hb
  match j,hp with
  | 6,hp =>
   cases hp;obtain⟨A,c,u,e,h1,h2⟩:=hx;exact⟨A,c,u,e,h1.below Z0 hb,Zf.old h2 hb⟩
  | 7,hp =>
   cases hp;obtain⟨A,c,u,e,h1,h2⟩:=hx;exact⟨A,c,u,e,h1.below Z0 hb,Zf.old h2 hb⟩
  | 8,hp =>
   cases hp;obtain⟨A,c,e,h1⟩:=hx;exact⟨A,c,e,h1.below Z0 hb⟩
  | 9,hp=>cases hp;exact Zf.old hx hb
 repeat (first
  | (refine wpAs_skip rfl ?_;simp only[Qa,Zb,Zc,Zd])
  | (refine wpAs_pure (v := ?_) rfl rfl ?_ ?_;rotate_left;(intro W hC hE;clear hE;(have y2:=(hC.cell (p:=⟨ad.block,ad.off+2,none⟩) ltb).trans z2');clear hC;go_simp;first | done | with_reducible rfl);simp only[Qa,Zb,Zc,Zd]))
 refine wpAs_act rfl rfl ?_ ?_
 ·intro W hC hE
  refine does_enter (f:=114) (args:=#[.slice (some ⟨ad.block,ad.off+3,none⟩) 121 (cq-3),.int .i64 mn]) ?_ ?_
  ·go_simp
  ·refine(hres.out W hC).mono ?_
   rintro e W' ⟨A,c,u,rfl,h1,h2,hw⟩;exact⟨_,rfl,⟨A,c,u,rfl,h1.low Z0 hC.size,h2⟩,hw⟩
 simp only[Qa,Zb,Zc,Zd,envAdd];intro x30;refine wpAs_act rfl rfl ?_ ?_
 ·intro W hC hE
  have hx:=hE.1 rfl;clear hE
  go_simp
  exact⟨hx,Qb _ _⟩
 simp only[Qa,Zb,Zc,Zd,envAdd];intro x23;refine wpAs_act rfl rfl ?_ ?_
 ·intro W hC hE
  obtain⟨A,c,u,rfl,h1,h2⟩:=hE.1 rfl;clear hE;have H1:=Za h1;clear h1 h2
  go_simp
  exact⟨⟨_,_,rfl,H1.out⟩,Qb _ _⟩
 simp only[Qa,Zb,Zc,Zd,envAdd];intro x31;refine wpAs_act rfl rfl ?_ ?_
 ·intro W hC hE
  obtain⟨A,c,u,rfl,h1,h2⟩:=hE.2.1 rfl;clear hE;have H2:=Za h2;clear h1 h2
  go_simp
  exact⟨H2.out,Qb _ _⟩
 simp only[Qa,Zb,Zc,Zd,envAdd];intro x32;refine wpAs_fixed rfl rfl rfl ?_ ?_
 ·intro W hC hE
  obtain⟨A,c,u,rfl,h1,h2⟩:=hE.2.2.1 rfl;clear hE h1 h2
  go_simp
  exact⟨rfl,Qb _ _⟩
 simp only[Qa,Zb,Zc,Zd]
 repeat (first
  | (refine wpAs_skip rfl ?_;simp only[Qa,Zb,Zc,Zd])
  | (refine wpAs_pure (v := ?_) rfl rfl ?_ ?_;rotate_left;(intro W hC hE;clear hE;skip;clear hC;go_simp;first | done | with_reducible rfl);simp only[Qa,Zb,Zc,Zd]))
 refine wpAs_end fun wc hC hE=> ?_
 have H31:=hE.2.1;have H32:=hE.1;clear hE;have BC:=Za (B1.out.trans (hC.mono B1.out.size));have y1:=(hC.cell (p:=⟨ad.block,ad.off+1,none⟩) ltb).trans z1;clear hC;obtain⟨X,cx,rfl,R31⟩:=H31;have H31:=R31.rel Z0;obtain⟨n3,n4,_,_⟩:=R31.form;replace R31:=Za R31;obtain⟨Y,cy,rfl,n5,n6,hy32⟩:=Vg (B:=wc.heap.size) (fun p hp=>hp) H32;cases hct:U8 (bd.drop 3) mn with
 | none =>
  have hF8:F=8:=by rw[<- hF];simp[Z55,hct]
  subst hF8;obtain⟨W9,e9,k0,k1,yf,u0,u1,hfin⟩:=HZ.out wc (by rw[hrd.out,hct];simp) BC.out;replace hfin:=Za hfin;replace hct:=Za hct;replace hF:=Za hF;clear H31 H32 hy32
  go_wp2_with fail
  exact Qar (v:=.tuple #[.agg #[.int .i64 0,.slice none 0 0],.int .i64 8]) (by simp[results,Tryz.results68,go_sem,k0,k1]) rfl hfin.out
 | some p =>
  obtain⟨l',r'⟩:=p;have hF0:F=0:=by rw[<- hF];simp[Z55,hct]
  subst hF0;have hsome:=Za (show (U8 (bd.drop 3) mn).isSome=true by rw[hct];rfl);replace hct:=Za hct;replace hF:=Za hF;replace hL:=Za hL;replace hR:=Za hR;obtain⟨lv,hlv⟩:∃ lv,Z2u bd=lv:=⟨_,rfl⟩
  have hlin:=Za (Z0c bd);have hnd:=Za (show ndN bd=(lv,L) by rw[ndN,hlv,hmn'.out,hL.out]);rw[hlv] at hlin;have y1':wc.cell? ⟨ad.block,ad.off+1,none⟩=some (.int .u8 lv):=by rw[<- hlv];exact y1
  have hlw:IntKind.i64.wrap lv=lv:=Q8 _ (by have:=hlin.out;exact⟨this.1,this.2⟩);replace hlv:=Za hlv;clear y1;obtain⟨w2,hw2,b2,hs2,hB2⟩:=Yd wc (.int .i64 lv) (.slice X L.length cx) 81;obtain⟨f1,f2,_,lt2⟩:=Zg b2;have N2:Nod (New w1.heap.size w2) w2 (.agg #[.int .i64 lv,.slice X L.length cx]) (lv,L):=⟨_,rfl,hlin.out,Xa.new H31 (Qc _) hB2⟩
  have HN2:=Za N2;have HR2:=Za (show Zke w1.heap.size w2 (.agg #[.int .i64 lv,.slice X L.length cx]) (lv,L) from ⟨X,cx,rfl,hlin.out,R31.out.below Z0 hB2⟩);have B2:=Za (BC.out.trans (hB2.mono BC.out.size));have HY2:=Za ((hy32.below hB2).more hB2.size);replace hs2:=Za hs2;replace b2:=Za b2;clear H31 H32 hy32 N2 hB2
  go_upto_region 10 with fail
  clear hw2 y1'
  go_wp2_with fail
  with_reducible refine(Zgi _ (lv,L) _ HN2.out.drop).mono ?_
  rintro e3 w3 ⟨rfl,hb3⟩;have B3:=Za (B2.out.trans (hb3.mono B2.out.size));have HN3:=Za (HR2.out.new (Qc _) hb3);have g1:=(hb3.cell (p:=⟨wc.heap.size,0,none⟩) lt2).trans f1;have g2:=(hb3.cell (p:=⟨wc.heap.size,1,none⟩) lt2).trans f2;have HY3:=Za ((HY2.out.below hb3).more hb3.size);have lt3:wc.heap.size<w3.heap.size:=Qd lt2 hb3.size;clear hb3 f1 f2;rcases Zct (mayN (lv,L)) with hm | hm
  ·have hc:=Za (Zh9 hm)
   obtain⟨W9,e9,k0,k1,yf,u0,u1,hfin⟩:=HZ.out w3 (by rw[hrd.out,hnd.out,hm];simp) B3.out;replace hfin:=Za hfin;replace hm:=Za hm;rw[hc.out]
   go_wp2_with fail
   exact Qar (v:=.tuple #[.agg #[.int .i64 0,.slice none 0 0],.int .i64 8]) (by simp[results,Tryz.results68,go_sem,k0,k1]) rfl hfin.out
  have hc:=Za (Zrg hm);rw[hc.out];obtain⟨rl,hrl⟩:∃ n,R.length=n:=⟨_,rfl⟩
  rw[hrl] at n5 ⊢;replace hrl:=Za hrl
  go_wp2_with fail
  with_reducible refine(Zq8 Y rl cy R hrl n5 n6 _ HY3.out).mono ?_
  rintro e4 w4 ⟨rfl,rfl⟩;rcases Zct (U6 R) with hz | hz
  ·obtain⟨W9,e9,k0,k1,yf,u0,u1,hfin⟩:=HZ.out w3 (by rw[hrd.out,hnd.out,hR.out,hz];simp) B3.out
   replace hfin:=Za hfin;rw[hz];replace hz:=Za hz;replace hm:=Za hm
   go_wp2_with fail
   exact Qar (v:=.tuple #[.agg #[.int .i64 0,.slice none 0 0],.int .i64 8]) (by simp[results,Tryz.results68,go_sem,k0,k1]) rfl hfin.out
  ·have hgood:=Za (HG.out (by rw[hrd.out,hnd.out,hR.out,hz,hm,hsome.out,h78'.out];rfl))
   have bW:=(B3.out.block w.heap.size lt0).trans b0.out;obtain⟨W9,e9,g9,gr9,gs9⟩:=Xu (u:=.int .i64 lv) (v:=.slice X L.length cx) bW;obtain⟨k0,k1,kf,_⟩:=Zg g9;obtain⟨u0,u1,yf,_⟩:=Zg bW;have hBW:=HB0.out.trans (B3.out.mono HB0.out.size)
   have hfin:Hid (Zke w.heap.size W9 (.agg #[.int .i64 lv,.slice X L.length cx]) (reV b)/\Qau w.heap.size w W9):=Za ⟨by
    rw[hgood.out.2,hnd.out]
    exact(HN3.out.grown gr9 (fun q e=>by cases e;exact Qd lt0 B1.out.size)).new hBW1.out (Qb _ _),hBW.grown gr9 hBW.size (fun q e=>by cases e;omega)⟩
   rw[hz];replace hz:=Za hz;replace hm:=Za hm;replace bW:=Za bW;replace g9:=Za g9;clear gr9
   go_wp2_with fail
   exact Qar (v:=.tuple #[.agg #[.int .i64 lv,.slice X L.length cx],.int .i64 0]) (by simp[results,Tryz.results68,go_sem,k0,k1]) rfl ⟨_,by rw[hgood.out.1],hfin.out.1,hfin.out.2⟩}
def Zf3 (l:List It) (k:Ky):Nat:=(l.filter fun x=>Zn x.1 k).length
theorem Zx3 (l:List It) (k:Ky):Zf3 l k<=l.length:=Qac _ _
theorem Zpm (l:List It) (k:Ky) (i:Nat):Zf3 (l.take i) k<=i:=Qh (Zx3 _ _) (List.length_take_le _ _)
theorem Zul {l:List It}{k:Ky}{i:Nat}{x:It}(hx:l[i]? = some x) (h:Zn x.1 k=true):Zf3 (l.take (i+1)) k=Zf3 (l.take i) k+1:=by
 unfold Zf3;rw[Qu,hx,Option.toList_some,Pq];simp[h]
theorem Z7k {l:List It}{k:Ky}{i:Nat}{x:It}(hx:l[i]? = some x) (h:Zn x.1 k=false):Zf3 (l.take (i+1)) k=Zf3 (l.take i) k:=by
 unfold Zf3;rw[Qu,hx,Option.toList_some,Pq];simp[h]
def Z2 (n:Nd) (k:Ky):Nat:=Zf3 n.2 k
def Yo (n:Nd) (k:Ky):Bool:=match n.2[Z2 n k]? with
 | none=>false
 | some x=>decide (x.1=k)
theorem Zk2 {n:Nd}{k:Ky}(h:n.2.length<=Z2 n k):Yo n k=false:=by
 unfold Yo;rw[List.getElem?_eq_none h]
theorem Ziw {n:Nd}{k:Ky}{x:It}(h:n.2[Z2 n k]? = some x):Yo n k=decide (x.1=k):=by
 unfold Yo;rw[h]
theorem Zok:Tryz.prog.eqGuardType Tryz.prog.depth 37=false:=by kernel_rfl
theorem Z5u (a b:Ky) (w:Qam):(Op.equalIn 10000 37 (kyV a) (kyV b)).run Tryz.prog w=.ok (decide (a=b)) w:=by{
 have hS:Tryz.prog.underlying 37=some (.struct (Tryz.prog.fieldsOf 37)):=by kernel_rfl
 have hp:Tryz.prog.stoodInHeld 37=false:=by kernel_rfl
 have u3:=Tryz.underlying5;have u4:=Tryz.underlying32;have a3:=Tryz.isAgg5;have z3:=Tryz.sizeOf5;have a4:=Tryz.isAgg32;have z4:=Tryz.sizeOf32;obtain⟨a1,a2,a3⟩:=a;obtain⟨b1,b2,b3⟩:=b;have h:a1=b1↔(a1.toNat:Int)=b1.toNat:=⟨fun h=>by rw[h],fun h=>UInt8.toNat.inj (by omega)⟩
 simp only[Prod.mk.injEq,h];unfold kyV;rw[show (10000:Nat)=9999+1 from rfl,run_equalIn_agg w 9999 37 _ _ hS hp];simp only[Program.fieldsOf,Tryz.underlying37]
 go_simp
 by_cases h1:(a1.toNat:Int)=b1.toNat <;> by_cases h2:a2=b2 <;> by_cases h3:a3=b3 <;> simp[h1,h2,h3]}
theorem Zcm (v:Qan) (n:Nd) (key:Ky) (w:Qam) (h:Nod (Old w) w v n) :
  Qat Tryz.prog 39 #[v,kyV key] w fun e w'=>e=.returned (.tuple #[.int .i64 (Z2 n key:Nat),.bool (Yo n key)])/\Qau w.heap.size w w':=by{
 obtain⟨A,c,rfl,_,l1,m1,hA⟩:=h.open;have HA:=Za hA;clear h hA;have hout:=Za (fun hh=>Zk2 (n:=n) (k:=key) hh);obtain⟨m,hm⟩:∃ m,n.2.length=m:=⟨_,rfl⟩
 obtain⟨l,hl⟩:∃ l,n.1=l:=⟨_,rfl⟩
 rw[hm] at l1 HA hout ⊢;rw[hl];clear hl;replace hm:=Za hm;obtain⟨w1,hw1,b1,hs1,hB1⟩:=Yd w (.int .i64 l) (.slice A m c) 81;obtain⟨w0,hw0,g0,g1,g2,hs0,hB2,_⟩:=Xd w1 (.int .u8 (key.1.toNat:Int)) (.int .u32 key.2.1) (.int .u32 key.2.2) 37;obtain⟨_,f2',_,lt1⟩:=Zg b1;have f2:=(hB2.cell (p:=⟨w.heap.size,1,none⟩) lt1).trans f2';have hB0:=Za (hB1.trans (hB2.mono hB1.size));have lt0:w.heap.size<w0.heap.size:=Qd lt1 hB2.size;have ltk:w1.heap.size<w0.heap.size:=by omega
 have hB:=Za (fun wr (hb:Qau w0.heap.size w0 wr)=>hB0.out.trans (hb.mono hB0.out.size));clear hB1 hB2 b1 f2';replace hs1:=Za hs1;replace hs0:=Za hs0;unfold kyV
 go_enter Tryz.func39,Tryz.ntmps39
 go_upto_region 1 with fail
 clear hw0 hw1
 go_wp2_with fail
 go_loopw [4,11] (fun a i wr=>∃ k:Nat,k<=m/\i=.int .i64 k/\a=.int .i64 (Zf3 (n.2.take k) key:Nat)/\Qau w0.heap.size w0 wr) (fun _ i _=>m-(intOf i).toNat)
 case atStart=>exact⟨0,by omega,rfl,rfl,Qb _ _⟩
 case round =>
  obtain⟨k,hk,rfl,rfl,hb⟩:=hrel;have hcle:=Zpm n.2 key k;replace hb:=Za hb;have p2:=(hb.out.cell (p:=⟨w.heap.size,1,none⟩) lt0).trans f2;have y0:=(hb.out.cell (p:=⟨w1.heap.size,0,none⟩) ltk).trans g0;have y1:=(hb.out.cell (p:=⟨w1.heap.size,1,none⟩) ltk).trans g1;have y2:=(hb.out.cell (p:=⟨w1.heap.size,2,none⟩) ltk).trans g2;have BF:=Za (hB.out _ hb.out);by_cases hlt:k<m
  case neg =>
   have hkm:Hid (n.2.take k=n.2):=Za (Qf (by rw[hm.out];omega));have hat:=Za (show Zf3 (n.2.take k) key=Z2 n key by rw[hkm.out];rfl);rw[hat.out] at hcle ⊢;obtain⟨p,hp⟩:∃ p,Z2 n key=p:=⟨_,rfl⟩
   rw[hp] at hcle hout ⊢;by_cases hpm:p<m
   ·obtain⟨x,hx⟩:∃ x,n.2[p]? = some x:=⟨_,Qe (by rw[hm.out];exact hpm)⟩
    obtain⟨ad,E,ce,rfl,_,_,_,FX⟩:=V5 HA.out hx;obtain⟨⟨z0,z1,z2,z3,z4⟩,_⟩:=FX wr BF.out;have hth:=Za (show decide (x.1=key)=Yo n key from (Ziw (by rw[hp];exact hx)).symm);have he:=Z5u x.1 key;have hg:=Zok;unfold kyV at he;replace hp:=Za hp;replace hx:=Za hx;have i1:(p:Int)<(m:Int):=by omega
    have i0:(0:Int)<=(p:Int):=by omega
    clear FX
    go_wp2_with fail
    go_quiet (fail)
    go_wp2_with fail
    go_ret2
    exact⟨by rw[hp.out,hth.out];rfl,Zbg BF.out _⟩
   ·have hth:=Za (hout.out (by omega))
    have i1:¬ (p:Int)<(m:Int):=by omega
    replace hp:=Za hp
    go_wp2_with fail
    go_quiet (fail)
    go_wp2_with fail
    go_ret2
    exact⟨by rw[hp.out,hth.out];rfl,Zbg BF.out _⟩
  obtain⟨x,hx⟩:∃ x,n.2[k]? = some x:=⟨_,Qe (by rw[hm.out];exact hlt)⟩
  obtain⟨ad,E,ce,rfl,q1,q2,hinx,FX⟩:=V5 HA.out hx;obtain⟨⟨z0,z1,z2,z3,z4⟩,_⟩:=FX wr BF.out;obtain⟨w2,hw2,r0,r1,r2,_,_,hs2,hB2,_⟩:=Z9 wr (.int .u8 (x.1.1.toNat:Int)) (.int .u32 x.1.2.1) (.int .u32 x.1.2.2) (.int .i64 x.2.1) (.slice E x.2.2.length ce) 54;have B2:=Za (hb.out.trans (hB2.mono hb.out.size));have v0:=(B2.out.cell (p:=⟨w1.heap.size,0,none⟩) ltk).trans g0;have v1:=(B2.out.cell (p:=⟨w1.heap.size,1,none⟩) ltk).trans g1;have v2:=(B2.out.cell (p:=⟨w1.heap.size,2,none⟩) ltk).trans g2;have hyes:=Za (fun hh=>Zul (k:=key) hx hh);have hno:=Za (fun hh=>Z7k (k:=key) hx hh);replace hx:=Za hx;replace hs2:=Za hs2;clear FX hB2 hinx
  go_upto_region 4 with fail
  clear hw2 z0 z1 z2 z3 z4 y0 y1 y2
  go_wp2_with fail
  with_reducible refine(Zee x.1 key _).mono ?_
  rintro e3 w3 ⟨rfl,hb3⟩;have B3:=Za (B2.out.trans (hb3.mono B2.out.size));clear hb3;obtain⟨s,hs⟩:∃ s,Zn x.1 key=s:=⟨_,rfl⟩
  rw[hs] at hyes hno ⊢;replace hs:=Za hs;obtain⟨q,hq⟩:∃ q,Zf3 (n.2.take k) key=q:=⟨_,rfl⟩
  rw[hq] at hyes hno hcle ⊢;replace hq:=Za hq;cases s with
  | true =>
   have hn:=Za (hyes.out rfl)
   go_wp2_with fail
   go_roundw
   case rel=>exact⟨k+1,by omega,by go_num,by rw[hn.out];go_num,B3.out⟩
   case measure=>simp[intOf];omega
  | false =>
   have hn:=Za (hno.out rfl)
   go_wp2_with fail
   go_roundw
   case rel=>exact⟨k+1,by omega,by go_num,by rw[hn.out],B3.out⟩
   case measure=>simp[intOf];omega}
structure InN (n:Nd):Prop where
 lv:Zkh n.1
 it:∀ x∈n.2,InI x
theorem Zpl (l:List It) (xs:List UInt8) (h:∀ x∈l,Zbp x=true/\InI x):∀ k,k<=l.length->U8 (Zdi l++xs) k=some (l.take k,Zdi (l.drop k)++xs)
 | 0,_=>by simp[U8]
 | k+1,hk=>by
  have hx:l[k]? = some l[k]:=Qe hk;obtain⟨h1,h2⟩:=h l[k] (Qab hk);have hd:Zdi (l.drop k)++xs=itB l[k]++(Zdi (l.drop (k+1))++xs):=by
   rw[Pm hk,show Zdi (l[k]::l.drop (k+1))=itB l[k]++Zdi (l.drop (k+1)) from rfl,Qn]
  have ih:=Zpl l xs h k (by omega);rw[hd] at ih;obtain⟨q0,q1,q2,_⟩:=Z3c l[k] (Zdi (l.drop (k+1))++xs) h2 h1;rw[Zj6 ih q0,q1,q2,Qu,hx];simp
theorem Zma (k:Nat):U6 (Zw k)=true:=by simp[U6,Zw]
theorem Zl1 {b:List UInt8}(h:U6 b=true):b=Zw b.length:=by
 simp only[U6,Qk,beq_iff_eq] at h;exact List.eq_replicate_iff.2 ⟨rfl,h⟩
theorem Zku (n:Nd):Zca n=[78,UInt8.ofNat n.1.toNat,UInt8.ofNat n.2.length]++Zdi n.2:=rfl
theorem Zb6 {n:Nd}(h:mayN n=true) (hi:InN n):reN (Va n)=0/\reV (Va n)=n:=by{
 have hl:=Zqb h;obtain⟨⟨s1,s2,s3,_⟩,_⟩:=Zv h;have hob:ob (Va n)=Zo9 (Zca n):=by
  unfold ob;rw[if_pos ⟨Zcx h,Zqd _⟩];exact Zxe _
 have hoe:oe (Va n)=0:=by
  unfold oe;rw[if_pos (Zcx h),if_pos (show Zu6 (Va n) from Zqd _)]
 obtain⟨z,hz⟩:∃ z,124-(Zca n).length=z:=⟨_,rfl⟩
 have hp:Zo9 (Zca n)=78::UInt8.ofNat n.1.toNat::UInt8.ofNat n.2.length::(Zdi n.2++Zw z):=by
  rw[Zo9,hz,Zku];simp
 have h0:(ob (Va n))[0]?.getD 0=78:=by rw[hob,hp];rfl
 have h1:Z2u (ob (Va n))=n.1:=by
  rw[hob,hp];show ((UInt8.ofNat n.1.toNat).toNat:Int)=n.1;rw[UInt8.toNat_ofNat'];omega
 have h2:Zeu (ob (Va n))=n.2.length:=by
  rw[hob,hp];show (UInt8.ofNat n.2.length).toNat=n.2.length;rw[UInt8.toNat_ofNat'];omega
 have h3:(ob (Va n)).drop 3=Zdi n.2++Zw z:=by rw[hob,hp];rfl
 have hc:U8 ((ob (Va n)).drop 3) (Zeu (ob (Va n)))=some (n.2,Zw z):=by
  rw[h2,h3,Zpl n.2 (Zw z) (fun x hx=>⟨Zmt h x hx,hi.it x hx⟩) n.2.length (Qc _)];simp[Zdi]
 have hnd:ndN (ob (Va n))=n:=by
  unfold ndN Zyt;rw[hc,h1];rfl
 have hr:rdN (ob (Va n))=true:=by
  unfold rdN Z0k;rw[h0,hc,hnd,h];simp[Zma]
 obtain⟨e1,e2⟩:=Zhs hoe hr;exact⟨e1,by rw[e2,hnd]⟩}
theorem Zfc {b:List UInt8}(h:reN b=0):mayN (reV b)=true/\Va (reV b)=b/\InN (reV b):=by{
 have hoe:oe b=0:=by
  unfold reN at h;by_cases e:oe b=0
  ·exact e
  ·rw[if_neg e] at h;exact absurd h e
 have hrd:rdN (ob b)=true:=by
  unfold reN at h;rw[if_pos hoe] at h;cases e:rdN (ob b) with
  | true=>rfl
  | false=>rw[e] at h;cases h
 obtain⟨e1,e2⟩:=Zhs hoe hrd;obtain⟨hlen,hfits,hob,h124⟩:=Ztd hoe;rw[e2];obtain⟨bd,hbd⟩:∃ bd,ob b=bd:=⟨_,rfl⟩
 rw[hbd] at hrd h124 ⊢;unfold rdN at hrd;simp only[Qg,decide_eq_true_eq] at hrd;obtain⟨h78,hs,hm,hn⟩:=hrd;cases hc:U8 (bd.drop 3) (Zeu bd) with
 | none=>rw[hc] at hs;cases hs
 | some p =>
  obtain⟨l,r⟩:=p;have hL:Zyt (bd.drop 3) (Zeu bd)=l:=by simp[Zyt,hc]
  have hR:Z0k (bd.drop 3) (Zeu bd)=r:=by simp[Z0k,hc]
  obtain⟨c1,c2,c3⟩:=Zis hc;rw[hR] at hn;have hnd:ndN bd=(Z2u bd,l):=by rw[ndN,hL]
  have hin:InN (ndN bd):=by
   rw[hnd];exact⟨Z0c bd,fun x hx=>(c3 x hx).2⟩
  refine⟨hm,?_,hin⟩;have hsplit:bd=[78,bd[1]?.getD 0,bd[2]?.getD 0]++bd.drop 3:=by
   match bd,h124,h78 with
   | x::y::z::q,_,h78 =>
    simp at h78;simp[h78]
  have hT:Zca (ndN bd)=[78,bd[1]?.getD 0,bd[2]?.getD 0]++Zdi l:=by
   rw[hnd,Zku,c2];have e1:UInt8.ofNat (Z2u bd).toNat=bd[1]?.getD 0:=by simp[Z2u]
   have e2:UInt8.ofNat (Zeu bd)=bd[2]?.getD 0:=by simp[Zeu]
   show [78,UInt8.ofNat (Z2u bd).toNat,UInt8.ofNat (Zeu bd)]++Zdi l=_;rw[e1,e2]
  have hbody:bd=Zca (ndN bd)++r:=by
   rw[hT,Qn,<- c1];exact hsplit
  have hpad:Zo9 (Zca (ndN bd))=bd:=by
   have hl2:(Zca (ndN bd)).length+r.length=124:=by
    have:=congrArg List.length hbody;rw[Qi,h124] at this;omega
   rw[Zo9,show 124-(Zca (ndN bd)).length=r.length by omega,<- Zl1 hn];exact hbody.symm
  show Zdo (Zca (ndN bd))=b;have hs:Zdo (Zca (ndN bd))=Zdo bd:=by
   unfold Zdo;rw[hpad,Zp5 h124]
  rw[hs,<- hbd,hob];exact Zzn hlen hfits}
theorem Ybz {ok:Qao->Prop}{w:Qam}{d:Qan}{xs:List UInt8}(h:rBy ok w [d] xs):d.oneCell'=true:=by
 obtain⟨_,_,rfl,_⟩:=Zt h;rfl
theorem Zze {P:Program}{w:Qam}(dT sT ty elem:Qaq) (g o dLen dCap:Nat) (a:Qao) (sLen sCap:Nat) (C:List Qan) (t:Qaq) (cs:List Qan) (k:Nat)
  (hu:P.underlying dT=some (.slice elem)) (hs:(P.info? elem).map (·.size)=some 5)
  (hg:w.heap[g]? = some (.cells C.toArray t (0,0))) (hk:Nat.min sLen dLen=k) (hn:cs.length=k*5)
  (hsrc:∀ j v,cs[j]? = some v->w.cell? (a.add j)=some v) (hfit:o+cs.length<=C.length) (h1:∀ v∈cs,v.oneCell'=true) :
  (Qad #[dT,sT] ty #[.slice (some ⟨g,o,none⟩) dLen dCap,.slice (some a) sLen sCap]).run P w=.ok (goInt k) (w.setRow g (splice C o cs).toArray):=by{
 have hl:=run_loadCells_list (P:=P) w a cs hsrc;have hst:=run_storeCells_at P g o t cs 0 C.toArray w hg (by simpa using hfit) h1;have hf:(Pg 5 k (.slice (some a) sLen sCap)).run P w=.ok cs.toArray w:=by
  have:=run_firstCells_some (P:=P) w 5 k a sLen sCap cs (by omega) hsrc;exact this
 cases hq:P.info? elem with
 | none=>simp[hq] at hs
 | some i =>
  have hi:i.size=5:=by simpa [hq] using hs
  simp only[Nat.add_zero] at hst;simp[Qad,run_underlying hu,Pf,sizeOf,typeInfo,hq,hi,hk,hf,hst,splice]}
theorem Zdz {w:Qam}{g:Nat}(cs:Array Qan):w.grownBy (w.setRow g cs) (some g) :=
 ⟨rfl,rfl,rfl,by simp[World.setRow],fun k _ hne=>setRow_other w g k cs (fun e=>hne (by rw[e]))⟩
theorem Zs3 (w:Qam) (n:Nat) (row:Option Nat):w.grownBy (w.drewN n) row:=⟨rfl,rfl,rfl,Qc _,fun _ _ _=>rfl⟩
theorem Zcg {w w2:Qam}{n:Nat}{r:Option Nat}(h:(w.drewN n).grownBy w2 r):w.grownBy w2 r:=⟨h.os,h.tape,h.output,h.size,h.block⟩
theorem Xz {w w2:Qam}{r:Option Nat}(h:w.drew.grownBy w2 r):w.grownBy w2 r:=⟨h.os,h.tape,h.output,h.size,h.block⟩
theorem Y2 {P:Program}{w:Qam}{ops:Array Qap}{rest:List Qap}{o:Qap}{a:Act}{Q:Exit->Act->Qam->Prop}(hgd:o.guard=none) (d s:Operand) (dT sT:Qaq)
  (ho:o.op=.call { callee:=.builtin .copy,args:=#[d,s],argTypes:=#[dT,sT] }) (elem:Qaq) (hu:P.underlying dT=some (.slice elem)) (hsz:(P.info? elem).map (·.size)=some 5)
  (dp sp:Option Qao) (dLen dCap sLen sCap:Nat) (hd:a.eval d=.slice dp dLen dCap) (hs:a.eval s=.slice sp sLen sCap)
  (g off:Nat) (C:List Qan) (t:Qaq) (hg:w.heap[g]? = some (.cells C.toArray t (0,0))) (cs:List Qan) (k:Nat) (hk:Nat.min sLen dLen=k) (hn:cs.length=k*5)
  (hdp:dp=some ⟨g,off,none⟩) (ad:Qao) (hsp:sp=some ad) (hsrc:∀ j v,cs[j]? = some v->w.cell? (ad.add j)=some v)
  (hfit:off+cs.length<=C.length) (h1:∀ v∈cs,v.oneCell'=true)
  (h:∀ w',Hid (w'.heap[g]? = some (.cells (splice C off cs).toArray t (0,0)))->Hid (w.grownBy w' (some g))->wpList P ops Q rest (a.put o.dst (goInt k)) w') :
  wpList P ops Q (o::rest) a w:=by
 subst hdp;subst hsp;refine wpList_plain hgd fun K hK=> ?_
 have hrun:=Zze (P:=P) dT sT o.type elem g off dLen dCap ad sLen sCap C t cs k hu hsz hg hk hn hsrc hfit h1;unfold Oper.wp;simp[execOp,ho,resolve,invoke,builtin,hd,hs,hrun,Result.andThen];exact hK _ _ (h _ (show _=_ by simpa using setRow_heap w g _ _ t _ hg) (Zdz _))
theorem Zat {P:Program}{w:Qam}{ops:Array Qap}{rest:List Qap}{o:Qap}{a:Act}{Q:Exit->Act->Qam->Prop}(hgd:o.guard=none) (x:Operand) (t:Qaq)
  (ho:o.op=.call { callee:=.builtin .clear,args:=#[x],argTypes:=#[t] }) (elem:Qaq) (hu:P.underlying t=some (.slice elem)) (A:Option Qao) (c:Nat) (hx:a.eval x=.slice A 0 c)
  (h:wpList P ops Q rest (a.put o.dst (.tuple #[])) w):wpList P ops Q (o::rest) a w:=by{
 refine wpList_plain hgd fun K hK=> ?_
 have hrun:(Qae #[t] o.type #[.slice A 0 c]).run P w=.ok (.tuple #[]) w:=by
  cases A <;> simp[Qae,run_underlying hu]
 unfold Oper.wp;simp[execOp,ho,resolve,invoke,builtin,hx,hrun,Result.andThen];exact hK _ _ h}
theorem Zbv {C Y:List Qan}{a:Nat}(h:a<=C.length):(splice C a Y).take (a+Y.length)=C.take a++Y:=by
 unfold splice;rw[<- Qn,Q9 (by simp;omega)];exact Qf (by simp;omega)
theorem Zi0 {C Y:List Qan}{a k:Nat}(h:a+Y.length<=C.length) (hk:a+Y.length<=k):(splice C a Y)[k]? = C[k]? := by
 unfold splice;rw[Qt (by rw[Qo];omega),Qo,Qm (by omega),Qt (by omega),Pn]
 congr 1
 omega
theorem Zcv {w:Qam}{b k:Nat}{C:List Qan}{t:Qaq}(h:w.heap[b]? = some (.cells C.toArray t (0,0))):w.cell? ⟨b,k,none⟩=C[k]? := by
 rw[cell_of_row w b k _ _ _ h];simp
theorem Zd1 {C Y X:List Qan}{a b:Nat}(hb:b=a+Y.length) (h:b+X.length<=C.length):(splice (splice C a Y) b X).take (b+X.length)=C.take a++(Y++X):=by
 subst hb;have hl:(splice C a Y).length=C.length:=length_splice C a Y (by omega);rw[Zbv (by rw[hl];omega),Zbv (by omega),Qn]
theorem Zip {C Y X:List Qan}{a b:Nat}(hb:b=a+Y.length) (h:b+X.length<=C.length):(splice (splice C b X) a Y).take (b+X.length)=C.take a++(Y++X):=by{
 subst hb;have hl:(splice C (a+Y.length) X).length=C.length:=length_splice C _ X (by omega);have e1:(splice C (a+Y.length) X).take a=C.take a:=by
  unfold splice;rw[Q9 (by simp;omega),Q4,Qm (by omega)]
 have e2:((splice C (a+Y.length) X).drop (a+Y.length)).take X.length=X:=by
  unfold splice;rw[Qaf,Q3 (by rw[Qo];exact Nat.min_le_left _ _),Qo,Qm (by omega),Nat.sub_self,Qr,Pi,Q9 (by simp),Qf (by simp)]
 generalize splice C (a+Y.length) X=S at *;unfold splice;rw[e1,<- Qn,Qag,Qf (by simp;omega),Qn]
 congr 2
 rw[show a+Y.length+X.length-(C.take a++Y).length=X.length by simp;omega];exact e2}
theorem Yk:∀ (a b:List Iv),Zj (a++b)=Zj a++Zj b
 | [],_=>rfl
 | x::r,b=>by
  show Zda x++Zj (r++b)=(Zda x++Zj r)++Zj b;rw[Yk r b,Qn]
theorem Ze1 (x:Iv) (r:List Iv):Zj (x::r)=Zda x++Zj r:=rfl
theorem X2:∀ (ps:List Iv) (k:Nat),Zj (ps.take k)=(Zj ps).take (k*5)
 | [],k=>by
  rw[Qah];exact Qah.symm
 | x::r,0=>by
  rw[Pp,Qx,Qx];rfl
 | x::r,k+1=>by
  rw[Pt,Ze1,Ze1,X2 r k,Qag,show (Zda x).length=5 from rfl,show (k+1)*5-5=k*5 by omega,Qf (show (Zda x).length<=(k+1)*5 by show 5<=_;omega)]
theorem Zik:∀ (ps:List Iv) (k:Nat),Zj (ps.drop k)=(Zj ps).drop (k*5)
 | [],k=>by
  rw[Qai];exact Qai.symm
 | x::r,0=>by
  rw[Pp,Qr,Qr]
 | x::r,k+1=>by
  rw[Pu,Ze1,Zik r k,Qaf,show (Zda x).length=5 from rfl,show (k+1)*5-5=k*5 by omega,Q3 (show (Zda x).length<=(k+1)*5 by show 5<=_;omega),Pi]
theorem Yg {w:Qam}{lo n c:Nat}{ad:Qao}{t:Qaq}{xs:List Qan}(h:w.ownsRow lo t 5 (.slice (some ad) n c) n xs) :
  ∃ b C,ad=⟨b,0,none⟩/\lo<=b/\b<w.heap.size/\w.heap[b]? = some (.cells (Pr C) t (0,0))/\n<=c/\c<=maxLen/\C.length=c*5/\C.take (n*5)=xs:=by{
 rcases h.2 with ⟨e,_⟩ | ⟨g,cap,cur,e,hb,hg,h1,h2,h3,h4⟩
 ·cases e
 ·cases e
  exact⟨g,cur.toList,rfl,hb,(Pa.1 hg).1,by simpa using hg,h1,h2,by simpa using h3,h4⟩}
theorem Xp {w:Qam}{lo b n c:Nat}{t:Qaq}{C xs:List Qan}(hb:lo<=b) (hg:w.heap[b]? = some (.cells C.toArray t (0,0))) (h1:n<=c) (h2:c<=maxLen) (h3:C.length=c*5) (h4:C.take (n*5)=xs):w.ownsRow lo t 5 (.slice (some ⟨b,0,none⟩) n c) n xs :=
 ⟨by rw[<- h4,Qo,h3];omega,.inr ⟨b,c,C.toArray,rfl,hb,hg,h1,h2,by simpa using h3,by simpa using h4⟩⟩
theorem Zog {w:Qam}{lo n c k:Nat}{ad:Qao}{t:Qaq}{xs:List Qan}(h:w.ownsRow lo t 5 (.slice (some ad) n c) n xs) (hk:k<=n):w.ownsRow lo t 5 (.slice (some ad) k c) k (xs.take (k*5)):=by
 obtain⟨b,C,rfl,hb,_,hg,h1,h2,h3,h4⟩:=Yg h;refine Xp hb hg (by omega) h2 h3 ?_;rw[<- h4,Q4,Qm (by omega)]
theorem Zbl {w:Qam}{lo n c:Nat}{b:Nat}{t:Qaq}{ps:List Iv}(h:w.ownsRow lo t 5 (.slice (some ⟨b,0,none⟩) n c) n (Zj ps)) (k:Nat):∀ j v,(Zj (ps.drop k))[j]? = some v->w.cell? ((⟨b,k*5,none⟩:Qao).add j)=some v:=fun j v hj=>by
 rw[Zik,Pn] at hj;have:=h.cells (g:=b) rfl _ _ hj;rw[Zah] at this ⊢
 rwa [Qv] at this
theorem Zb0 {ps:List Iv}{n:Nat}{w:Qam}{lo:Nat}{t:Qaq}{v:Qan}(h:w.ownsRow lo t 5 v n (Zj ps)):ps.length=n:=by
 have:=h.1;rw[Y0] at this;omega
theorem X7:(Tryz.prog.info? 54).map (·.size)=some 5:=by kernel_rfl
theorem Vz {a b k:Nat}(h:(a<=b/\k=a)\/(b<=a/\k=b)):Nat.min a b=k:=by
 rcases h with ⟨h1,rfl⟩ | ⟨h1,rfl⟩
 ·exact Qm h1
 ·exact Nat.min_eq_right h1
theorem Zja {w:Qam}{a b oa ob la ca lb cb:Nat}{Ca Cb:List Qan}{ta tb:Qaq}(ha:w.heap[a]? = some (.cells Ca.toArray ta (0,0))) (hb:w.heap[b]? = some (.cells Cb.toArray tb (0,0))) (hne:a≠b) (h0:Cb.length≠0) :
  (callFunc 86 #[.slice (some ⟨a,oa,none⟩) la ca,.slice (some ⟨b,ob,none⟩) lb cb]).run Tryz.prog w=.ok (.value (.bool false)) w:=by{
 obtain⟨i0,hi,hz0,hz1,hz2⟩:=info_parts Vl
 rw[run_callFunc_extern Tryz.func86 (by kernel_rfl) (by kernel_rfl) (by kernel_rfl) (e:=Extern.SlicesOverlaps.overlaps #[39,39] #[4]) (by kernel_rfl),
  Lib.run_overlaps_apart w 39 4 54 Tryz.underlying39 5 (fun w=>by simp[sizeOf,typeInfo,hi,hz1]) ⟨a,oa,none⟩ ⟨b,ob,none⟩ la ca lb cb hne ta tb Ca.length Cb.length (by simp[Qaj,ha]) (by simp[Qaj,hb]) h0 (by simp[Pk,ha]) (by simp[Pk,ha])]
 rfl}
theorem Zoq {w:Qam}{lo n c i k:Nat}{ad:Qao}{ps:List Iv}(h:w.ownsRow lo 54 5 (.slice (some ad) n c) n (Zj ps)) (hi:i<=n) (hk:0<k) (hc:c<i+k) (hb:i+k<=1000) :
  ∃ c' w1 Z,(Ql #[39,3] 39 #[.slice (some ad) i c,.int .i64 (k:Int)]).run Tryz.prog w=.ok (.slice (some ⟨w.heap.size,0,none⟩) (i+k) c') w1 /\
   w1.heap[w.heap.size]? = some (.cells (Pr Z) 54 (0,0))/\Z.length=c'*5/\i+k<=c'/\c'<=maxLen/\Z.take (i*5)=Zj (ps.take i)/\Qau w.heap.size w w1/\w1.heap.size=w.heap.size+1:=by{
 obtain⟨i0,hi0,hz0,hz1,hz2⟩:=info_parts Vl;have hl:=Zog h hi;obtain⟨b,C,rfl,_,hbs,hg,_,_,h3,h4⟩:=Yg hl;have hc1:∀ j v,((Zj ps).take (i*5))[j]? = some v->w.drew.cell? ((⟨b,0,none⟩:Qao).add j)=some v:=fun j v hj=>hl.cells (g:=b) rfl j v hj
 have hlen:((Zj ps).take (i*5)).length=i*i0.size:=by rw[hz1];exact hl.1
 have Zai:=run_firstCells_some (P:=Tryz.prog) w.drew i0.size i ⟨b,0,none⟩ i c _ hlen hc1;have hn:=nextslicecap_le (need:=i+k) (old:=c) hc;have hr:=Lib.run_append_grow_zeros (P:=Tryz.prog) w 39 3 39 54 i0 (.agg #[.int .u8 0,.int .u32 0,.int .u32 0,.int .i64 0,.slice none 0 0]) .i64 .i64 Tryz.underlying39 Tryz.underlying3 hi0 hz0
  (some ⟨b,0,none⟩) i c _ Zai k hk (by omega) hc (by omega) (by rw[hz2];omega) (by rw[hz2];omega)
 have hge:=grownCap_ge w (i+k) c 54;have s1:=size_zeroCells (Value.agg #[.int .u8 0,.int .u32 0,.int .u32 0,.int .i64 0,.slice none 0 0]).cells k;have s2:=size_zeroCells (Value.agg #[.int .u8 0,.int .u32 0,.int .u32 0,.int .i64 0,.slice none 0 0]).cells (grownCap w (i+k) c 54-(i+k));rw[show (Value.agg #[Value.int .u8 0,Value.int .u32 0,Value.int .u32 0,Value.int .i64 0,Value.slice none 0 0]).cells.size=5 from rfl] at s1 s2;generalize Qw (Value.agg #[.int .u8 0,.int .u32 0,.int .u32 0,.int .i64 0,.slice none 0 0]).cells k=z1 at *;generalize Qw (Value.agg #[.int .u8 0,.int .u32 0,.int .u32 0,.int .i64 0,.slice none 0 0]).cells (grownCap w (i+k) c 54-(i+k))=z2 at *;have hcm:=grownCap_le_maxLen w (i+k) c 54 (by unfold maxLen;omega);have h5:((Zj ps).take (i*5)).length=i*5:=by rw[hlen,hz1]
 generalize hX:(Zj ps).take (i*5)=X at *;refine⟨_,_,X++z1.toList++z2.toList,hr,?_,?_,hge,hcm,?_,((Qb _ w).drew).alloc (Qc _) _,by simp⟩
 ·have:=Qas w.drew (.cells (X.toArray++z1++z2) 54)
  refine this.trans ?_;rw[show (X++z1.toList++z2.toList).toArray=X.toArray++z1++z2 from Array.ext' (by simp)]
 ·rw[Qi,Qi,h5,Qak,Qak,s1,s2]
  omega
 ·rw[Qn,Q9 (by omega),Qf (by omega),X2,hX]}
def Zqo (lo:Nat) (w:Qam) (A:Option Qao) (L:List Iv) (e:Ending) (w':Qam):Prop:=∃ A' c',e=.returned (.slice A' L.length c')/\w'.ownsRow lo 54 5 (.slice A' L.length c') L.length (Zj L)/\w.grownBy w' (A.map (·.block))
theorem Zu9 (A:Option Qao) (lo lf n c fb m fc i:Nat) (ps qs:List Iv) (w:Qam) (h:w.ownsRow lo 54 5 (.slice A n c) n (Zj ps)) (hf:w.ownsRow lf 54 5 (.slice (some ⟨fb,0,none⟩) m fc) m (Zj qs))
  (hne:A.map (·.block)≠some fb) (hi:i<=n) (hm:0<m) (hbig:n+m<=1000) (hp1:∀ p∈ps,p.2.oneCell'=true) (hq1:∀ p∈qs,p.2.oneCell'=true) (hlo:lo<=w.heap.size) :
  Qat Tryz.prog 85 #[.slice A n c,.int .i64 i,.slice (some ⟨fb,0,none⟩) m fc] w (Zqo lo w A (ps.take i++(qs++ps.drop i))):=by{
 have hpl:=Zb0 h;have hql:=Zb0 hf;obtain⟨i0,hi0,hz0,hz1,hz2⟩:=info_parts Vl;have hqc:∀ j v,(Zj qs)[j]? = some v->w.cell? ((⟨fb,0,none⟩:Qao).add j)=some v:=fun j v hj=>hf.cells (g:=fb) rfl j v hj
 have hq5:(Zj qs).length=m*5:=hf.1;have hone:=Xi hp1;have honq:=Xi hq1;have ec:∃ A1 c1,Value.slice A n c=.slice A1 n c1/\n<=c1/\c1<=9223372036854775807:=by
  obtain⟨A1,c1,e,h1,h2,_⟩:=Ym h;exact⟨A1,c1,e,h1,h2⟩
 obtain⟨A1,c1,e,hnc,hcm⟩:=ec;cases e;have hm0:¬ ((m:Int)=0):=by omega
 have hin:(i:Int)<=n:=by omega
 have hic:(i:Int)<=c:=by omega
 by_cases hie:i=n
 ·subst hie
  obtain⟨v',w',hr,o1,g1,b1,k1⟩:=Zdl (P:=Tryz.prog) (w:=w) lo 39 39 54 i0 (.agg #[.int .u8 0,.int .u32 0,.int .u32 0,.int .i64 0,.slice none 0 0]) 5 48 Tryz.underlying39 hi0 hz0 hz1 hz2 rfl (by decide) _ _ (Zj ps) h ⟨fb,0,none⟩ m fc (Zj qs) hq5 hqc honq (by unfold maxLen;omega) (by omega) hlo;obtain⟨A2,c2,rfl,_⟩:=Ym o1;have eL:ps.take i++(qs++ps.drop i)=ps++qs:=by rw[Qf (by omega),Q3 (by omega),Qal]
  have hfin:Hid (Zqo lo w A (ps.take i++(qs++ps.drop i)) (.returned (.slice A2 (i+m) c2)) w'):=Za (by
   rw[eL];refine⟨A2,c2,by rw[Qi,hpl,hql],?_,?_⟩
   ·rw[Yk,Qi,hpl,hql]
    exact o1
   ·have e4:(Value.slice A i c).ownBlock=A.map (·.block):=by cases A <;> rfl
    rw[<- e4]
    exact g1)
  have H:=Za hr;clear hr o1 g1 b1 k1 h hf hqc hone honq hp1 hq1 hne;by_cases hcc:i=c
  ·subst hcc
   go_enter Tryz.func85,Tryz.ntmps85
   go_wp2_with (at_builtin;refine Zp rfl _ _ _ rfl rfl rfl H.out ?_;clear H)
   go_ret;exact hfin.out
  ·have hcc':¬ c=i:=fun e=>hcc e.symm
   cases A with
   | none =>
    go_enter Tryz.func85,Tryz.ntmps85
    go_wp2_with (at_builtin;refine Zp rfl _ _ _ rfl rfl rfl H.out ?_;clear H)
    go_ret;exact hfin.out
   | some ad =>
    go_enter Tryz.func85,Tryz.ntmps85
    go_wp2_with (at_builtin;refine Zp rfl _ _ _ rfl rfl rfl H.out ?_;clear H)
    go_ret;exact hfin.out
 have hin':i<n:=by omega
 obtain⟨ad,rfl⟩:∃ ad,A=some ad:=by
  obtain⟨_,_,e,_,_,_,h5⟩:=Ym h;cases e;exact h5 (by omega)
 obtain⟨b,C,rfl,hbl,hbs,hg,_,hcM,hC5,hC⟩:=Yg h;have hbf:b≠fb:=fun e=>hne (by rw[e];rfl)
 obtain⟨fb',Cf,e,_,hfs,hgf,_,_,hCf5,hCf⟩:=Yg hf;obtain rfl:fb=fb':=by cases e;rfl
 have hni:¬ ((i:Int)=(n:Int)):=by omega
 have hw1:IntKind.i64.wrap ((n:Int)+(m:Int))=(n:Int)+(m:Int):=by rw[IntKind.wrap_i64];omega
 have hw2:IntKind.i64.wrap ((n:Int)+(m:Int)-(i:Int))=(n:Int)+(m:Int)-(i:Int):=by rw[IntKind.wrap_i64];omega
 have hw3:IntKind.i64.wrap ((i:Int)+(m:Int))=(i:Int)+(m:Int):=by rw[IntKind.wrap_i64];omega
 have hic':¬ c=i:=by omega
 have hcn:c<=9223372036854775807:=hcm;by_cases hroom:n+m<=c
 ·have hgt:¬ ((c:Int)<(n:Int)+(m:Int)):=by omega
  have hov:∀ lb cb ob,(callFunc 86 #[.slice (some ⟨fb,0,none⟩) m fc,.slice (some ⟨b,ob,none⟩) lb cb]).run Tryz.prog w=.ok (.value (.bool false)) w:=fun lb cb ob=>Zja hgf hg (fun e=>hbf e.symm) (by omega)
  have r1:(n:Int)+(m:Int)<=c:=by omega
  have r2:¬ c=i+m:=by omega
  have r3:(i:Int)+(m:Int)<=(n:Int)+(m:Int):=by omega
  have r6:(i:Int)<=(n:Int)+(m:Int):=by omega
  have r7:(0:Int)<=(i:Int)+(m:Int):=by omega
  have HO:=Za (Xi (ps:=ps.drop i) fun p hp=>hp1 p (Ps hp));have HQ:=Za honq;have r4:((i:Int)+(m:Int)).toNat=i+m:=by omega
  have r5:((n:Int)+(m:Int)).toNat=n+m:=by omega
  replace hov:=Za hov;replace hgf:=Za hgf;replace hg:=Za hg;replace hC:=Za hC;replace hCf:=Za hCf;replace hpl:=Za hpl;replace hql:=Za hql;replace hC5:=Za hC5;replace hCf5:=Za hCf5;clear hqc hone honq hp1 hq1 hne
  go_enter Tryz.func85,Tryz.ntmps85
  go_upto_region 15 with (simp only[hov.out])
  go_still_tail 8,(by kernel_rfl)
  change wpList _ _ _ _ _ w.drew;refine Y2 rfl _ _ 39 39 rfl 54 Tryz.underlying39 X7 _ _ _ _ _ _ rfl rfl b ((i+m)*5) C 54 hg.out (Zj (ps.drop i)) (n-i) (Vz (by omega)) (by rw[Y0,Qq,hpl.out]) rfl ⟨b,i*5,none⟩ rfl (Zbl (w:=w) h i) (by rw[Y0,Qq,hpl.out,hC5.out];omega) HO.out ?_;intro w2 hg2 hb2;have S1:=Za (length_splice C ((i+m)*5) (Zj (ps.drop i)) (by rw[Y0,Qq,hpl.out,hC5.out];omega));have Q2:Hid (∀ j v,(Zj qs)[j]? = some v->w2.cell? ((⟨fb,0,none⟩:Qao).add j)=some v):=Za fun j v hj=>by
   have hc:=hf.cells (g:=fb) rfl j v hj;refine(Qp ?_).trans hc;rw[Zh];exact hb2.out.block fb hfs (fun e=>hbf (by cases e;rfl))
  have hfin:∀ W,W.heap[b]? = some (.cells (splice (splice C ((i+m)*5) (Zj (ps.drop i))) (i*5) (Zj qs)).toArray 54 (0,0))->w2.grownBy W (some b)->Zqo lo w (some ⟨b,0,none⟩) (ps.take i++(qs++ps.drop i)) (.returned (.slice (some ⟨b,0,none⟩) (n+m) c)) W:=fun W h1 h2=>by
   have el:(ps.take i++(qs++ps.drop i)).length=n+m:=by rw[Qi,Qi,Qo,Qq,hpl.out,hql.out];omega
   refine⟨_,c,by rw[el],?_,Yx (Xz hb2.out) h2⟩;rw[el];refine Xp hbl h1 hroom hcM (by rw[length_splice _ _ _ (by rw[S1.out,hq5,hC5.out];omega),S1.out,hC5.out]) ?_;rw[Yk,Yk,X2,<- hC.out,Q4,Qm (by omega)];have hd:(Zj (ps.drop i)).length=(n-i)*5:=by rw[Y0,Qq,hpl.out]
   have:=Zip (C:=C) (Y:=Zj qs) (X:=Zj (ps.drop i)) (a:=i*5) (b:=(i+m)*5) (by rw[hq5];omega) (by rw[hd,hC5.out];omega);rw[hd,show (i+m)*5+(n-i)*5=(n+m)*5 by omega] at this;exact this
  replace hfin:=Za hfin;have hroom':=Za hroom;clear h hf hC hCf hCf5 hpl hql
  go_wp2_with (refine Y2 rfl _ _ 39 39 rfl 54 Tryz.underlying39 X7 _ _ _ _ _ _ rfl rfl b (i*5) _ 54 hg2.out (Zj qs) m (Vz (by omega)) hq5 rfl ⟨fb,0,none⟩ rfl Q2.out (by rw[S1.out,hq5,hC5.out];have:=hroom'.out;omega) HQ.out ?_;intro w3 hg3 hb3)
  go_ret;exact hfin.out _ hg3.out hb3.out
 ·have hgt:((c:Int)<(n:Int)+(m:Int)):=by omega
  obtain⟨c',w1,Z,hr,hg1,hZ5,hZc,hZm,hZt,hB1,hs1⟩:=Zoq (i:=i) (k:=n+m-i) h hi (by omega) (by omega) (by omega);rw[show i+(n+m-i)=n+m by omega] at hr hZc;rw[show ((n+m-i:Nat):Int)=(n:Int)+(m:Int)-(i:Int) by omega] at hr;have r1:(0:Int)<=(i:Int)+(m:Int):=by omega
  have r2:¬ c'=i+m:=by omega
  have r3:(i:Int)+(m:Int)<=(n:Int)+(m:Int):=by omega
  have r4:((i:Int)+(m:Int)).toNat=i+m:=by omega
  have r5:¬ c'=i:=by omega
  have r6:(i:Int)<=(n:Int)+(m:Int):=by omega
  have HO:=Za (Xi (ps:=ps.drop i) fun p hp=>hp1 p (Ps hp));have HQ:=Za honq;have Q1:Hid (∀ j v,(Zj qs)[j]? = some v->w1.cell? ((⟨fb,0,none⟩:Qao).add j)=some v):=Za fun j v hj=>(hB1.cell (by rw[Zh];exact hfs)).trans (hf.cells (g:=fb) rfl j v hj)
  have S1:=Za (length_splice Z (i*5) (Zj qs) (by rw[hq5,hZ5];omega));have G1:=Za hg1;have HR:=Za hr;have hd:Hid ((Zj (ps.drop i)).length=(n-i)*5):=Za (by rw[Y0,Qq,hpl]);have hz5:=Za hZ5;have P2:Hid (∀ w2,w1.grownBy w2 (some w.heap.size)->∀ j v,(Zj (ps.drop i))[j]? = some v->w2.cell? ((⟨b,i*5,none⟩:Qao).add j)=some v):=Za fun w2 hb2 j v hj=>by
   refine(Qp ?_).trans ((hB1.cell (by rw[Zh];exact hbs)).trans (Zbl h i j v hj));rw[Zh];exact hb2.block b (by omega) (fun e=>by cases e;omega)
  have hfin:∀ W w2,w1.grownBy w2 (some w.heap.size)->W.heap[w.heap.size]? = some (.cells (splice (splice Z (i*5) (Zj qs)) ((i+m)*5) (Zj (ps.drop i))).toArray 54 (0,0))->w2.grownBy W (some w.heap.size)->Zqo lo w (some ⟨b,0,none⟩) (ps.take i++(qs++ps.drop i)) (.returned (.slice (some ⟨w.heap.size,0,none⟩) (n+m) c')) W:=fun W w2 h0 h1 h2=>by
   have el:(ps.take i++(qs++ps.drop i)).length=n+m:=by rw[Qi,Qi,Qo,Qq,hpl,hql];omega
   have hB:Qau w.heap.size w W:=(hB1.grown h0 hB1.size (fun k e=>by cases e;exact Qc _)).grown h2 (by have:=h0.size;omega) (fun k e=>by cases e;exact Qc _);refine⟨_,c',by rw[el],?_,⟨hB.os,hB.tape,hB.output,hB.size,fun k hk _=>hB.block k hk⟩⟩;rw[el];refine Xp hlo h1 hZc hZm (by rw[length_splice _ _ _ (by rw[S1.out,hd.out,hZ5];omega),S1.out,hZ5]) ?_;rw[Yk,Yk,<- hZt];have:=Zd1 (C:=Z) (Y:=Zj qs) (X:=Zj (ps.drop i)) (a:=i*5) (b:=(i+m)*5) (by rw[hq5];omega) (by rw[hd.out,hZ5];omega);rw[hd.out,show (i+m)*5+(n-i)*5=(n+m)*5 by omega] at this;exact this
  replace hfin:=Za hfin;replace hZc:=Za hZc;replace hs1:=Za hs1;clear hqc hone honq hp1 hq1 hne h hf hC hC5 hCf hCf5 hpl hql hr hg1 hZ5 hZt hB1 hg hgf
  go_enter Tryz.func85,Tryz.ntmps85
  go_upto_region 11 with (first | (at_builtin;refine Ug rfl _ _ _ _ rfl rfl rfl HR.out ?_) | (refine Y2 rfl _ _ 39 39 rfl 54 Tryz.underlying39 X7 _ _ _ _ _ _ rfl rfl w.heap.size (i*5) _ 54 G1.out (Zj qs) m (Vz (by omega)) hq5 rfl ⟨fb,0,none⟩ rfl Q1.out (by rw[hz5.out,hq5];have:=hZc.out;omega) HQ.out ?_;intro w2 hg2 hb2))
  go_still_tail 8,(by kernel_rfl)
  refine Y2 rfl _ _ 39 39 rfl 54 Tryz.underlying39 X7 _ _ _ _ _ _ rfl rfl w.heap.size ((i+m)*5) _ 54 hg2.out (Zj (ps.drop i)) (n-i) (Vz (by omega)) hd.out rfl ⟨b,i*5,none⟩ rfl (P2.out w2 hb2.out) (by rw[S1.out,hd.out,hz5.out];have:=hZc.out;omega) HO.out ?_;intro w3 hg3 hb3
  go_wp2_with fail
  go_ret;exact hfin.out _ _ hb2.out hg3.out (Xz hb3.out)}
theorem Zqz (A:Option Qao) (lo lf n c fb m fc i j:Nat) (ps qs:List Iv) (w:Qam) (h:w.ownsRow lo 54 5 (.slice A n c) n (Zj ps)) (hf:w.ownsRow lf 54 5 (.slice (some ⟨fb,0,none⟩) m fc) m (Zj qs))
  (hne:A.map (·.block)≠some fb) (hj:j=i+1) (hi:j<=n) (hm:0<m) (hbig:n+m<=1000) (hp1:∀ p∈ps,p.2.oneCell'=true) (hq1:∀ p∈qs,p.2.oneCell'=true) (hlo:lo<=w.heap.size) :
  Qat Tryz.prog 52 #[.slice A n c,.int .i64 i,.int .i64 j,.slice (some ⟨fb,0,none⟩) m fc] w (Zqo lo w A (ps.take i++(qs++ps.drop j))):=by{
 have hpl:=Zb0 h;have hql:=Zb0 hf;obtain⟨i0,hi0,hz0,hz1,hz2⟩:=info_parts Vl;have hqc:∀ j v,(Zj qs)[j]? = some v->w.cell? ((⟨fb,0,none⟩:Qao).add j)=some v:=fun j v hj=>hf.cells (g:=fb) rfl j v hj
 have hq5:(Zj qs).length=m*5:=hf.1;have hone:=Xi hp1;have honq:=Xi hq1;obtain⟨ad,rfl⟩:∃ ad,A=some ad:=by
  obtain⟨_,_,e,_,_,_,h5⟩:=Ym h;cases e;exact h5 (by omega)
 obtain⟨b,C,rfl,hbl,hbs,hg,hnc,hcM,hC5,hC⟩:=Yg h;have hcm:c<=9223372036854775807:=by unfold maxLen at hcM;exact hcM
 have hbf:b≠fb:=fun e=>hne (by rw[e];rfl)
 obtain⟨fb',Cf,e,_,hfs,hgf,_,_,hCf5,hCf⟩:=Yg hf;obtain rfl:fb=fb':=by cases e;rfl
 have a1:¬ ((i:Int)=(j:Int)):=by omega
 have a2:(i:Int)<=(j:Int):=by omega
 have a3:(j:Int)<=(n:Int):=by omega
 have a4:(j:Int)<=(c:Int):=by omega
 have a5:(i:Int)<=(n:Int):=by omega
 have a6:(i:Int)<=(c:Int):=by omega
 have a7:¬ c=i:=by omega
 by_cases hjn:j=n
 ·have hjn':((j:Int)=(n:Int)):=by omega
  have hln:¬ ((i:Int)+(m:Int)<(n:Int)):=by omega
  have hln2:¬ (i+m<n):=by omega
  obtain⟨v',w',hr,o1,g1,b1,k1⟩:=Zdl (P:=Tryz.prog) (w:=w) lo 39 39 54 i0 (.agg #[.int .u8 0,.int .u32 0,.int .u32 0,.int .i64 0,.slice none 0 0]) 5 48 Tryz.underlying39 hi0 hz0 hz1 hz2 rfl (by decide) _ _ _ (Zog h (show i<=n by omega)) ⟨fb,0,none⟩ m fc (Zj qs) hq5 hqc honq (by unfold maxLen;omega) (by omega) hlo;obtain⟨A2,c2,rfl,_⟩:=Ym o1;have eL:ps.take i++(qs++ps.drop j)=ps.take i++qs:=by rw[Q3 (by omega),Qal]
  have hfin:Hid (Zqo lo w (some ⟨b,0,none⟩) (ps.take i++(qs++ps.drop j)) (.returned (.slice A2 (i+m) c2)) w'):=Za (by
   rw[eL];have el:(ps.take i++qs).length=i+m:=by rw[Qi,Qo];omega
   refine⟨A2,c2,by rw[el],?_,g1⟩;rw[Yk,el,X2]
   exact o1)
  have H:=Za hr;replace hj:=Za hj;replace hjn:=Za hjn;clear eL hr o1 g1 b1 k1 h hf hqc hone honq hp1 hq1 hne hg hgf hC hC5 hCf hCf5 hpl hql
  go_enter Tryz.func52,Tryz.ntmps52
  go_wp2_with (at_builtin;refine Zp rfl _ _ _ rfl rfl rfl H.out ?_;clear H)
  go_ret;exact hfin.out
 have hjn':¬ ((j:Int)=(n:Int)):=by omega
 have a8:¬ c=j:=by omega
 have hw1:IntKind.i64.wrap ((i:Int)+(m:Int))=(i:Int)+(m:Int):=by rw[IntKind.wrap_i64];omega
 have hw2:IntKind.i64.wrap ((i:Int)+(m:Int)+((n:Int)-(j:Int)))=(i:Int)+(m:Int)+((n:Int)-(j:Int)):=by rw[IntKind.wrap_i64];omega
 obtain⟨tot,htot⟩:∃ tot,tot=i+m+(n-j):=⟨_,rfl⟩
 have hw3:IntKind.i64.wrap ((i:Int)+(m:Int)+((n-j:Nat):Int))=(tot:Int):=by rw[IntKind.wrap_i64];omega
 have hd:Hid ((Zj (ps.drop j)).length=(n-j)*5):=Za (by rw[Y0,Qq,hpl]);have HO:=Za (Xi (ps:=ps.drop j) fun p hp=>hp1 p (Ps hp));have HQ:=Za honq;have el:(ps.take i++(qs++ps.drop j)).length=tot:=by rw[Qi,Qi,Qo,Qq,hpl,hql];omega
 have r1:(0:Int)<=(i:Int)+(m:Int):=by omega
 have r3:(i:Int)+(m:Int)<=(tot:Int):=by omega
 have r4:((i:Int)+(m:Int)).toNat=i+m:=by omega
 have r6:(i:Int)<=(tot:Int):=by omega
 have hw4:IntKind.i64.wrap ((tot:Int)-(i:Int))=(tot:Int)-(i:Int):=by rw[IntKind.wrap_i64];omega
 replace hj:=Za hj;by_cases hroom:tot<=c
 ·have hgt:¬ ((c:Int)<(tot:Int)):=by omega
  have r2:¬ c=i+m:=by have:=hj.out;omega
  have r7:(tot:Int)<=(c:Int):=by omega
  have S1:Hid ((splice C (i*5) (Zj qs)).length=C.length):=Za (length_splice _ _ _ (by rw[hq5,hC5];omega));have S2:Hid ((splice C ((i+m)*5) (Zj (ps.drop j))).length=C.length):=Za (length_splice _ _ _ (by rw[hd.out,hC5];omega));have Q2:Hid (∀ w2:Qam,w.grownBy w2 (some b)->∀ j v,(Zj qs)[j]? = some v->w2.cell? ((⟨fb,0,none⟩:Qao).add j)=some v):=Za fun w2 hb2 j v hj=>by
   refine(Qp ?_).trans (hqc j v hj);rw[Zh];exact hb2.block fb hfs (fun e=>hbf (by cases e;rfl))
  have P0:Hid (∀ j' v,(Zj (ps.drop j))[j']? = some v->w.cell? ((⟨b,j*5,none⟩:Qao).add j')=some v):=Za (Zbl h j);have hC5h:=Za hC5;have hgh:=Za hg;by_cases hmj:m=1
  ·have hle:(i:Int)+(m:Int)<=(j:Int):=by have:=hj.out;omega
   have htn:tot=n:=by have:=hj.out;omega
   have P2:Hid (∀ w2:Qam,w2.heap[b]? = some (.cells (splice C (i*5) (Zj qs)).toArray 54 (0,0))->∀ j' v,(Zj (ps.drop j))[j']? = some v->w2.cell? ((⟨b,j*5,none⟩:Qao).add j')=some v):=Za fun w2 h2 j' v hj'=>by
    have h0:=Zbl h j j' v hj';have e:((⟨b,j*5,none⟩:Qao).add j')=⟨b,j*5+j',none⟩:=Zah _ _ _;rw[e] at h0 ⊢;rw[Zcv hg] at h0;rw[Zcv h2,Zi0 (by rw[hq5,hC5];omega) (by rw[hq5];have:=hj.out;omega)];exact h0
   have hfin:∀ (W w2:Qam),w.grownBy w2 (some b)->W.heap[b]? = some (.cells (splice (splice C (i*5) (Zj qs)) ((i+m)*5) (Zj (ps.drop j))).toArray 54 (0,0))->w2.grownBy W (some b)->Zqo lo w (some ⟨b,0,none⟩) (ps.take i++(qs++ps.drop j)) (.returned (.slice (some ⟨b,0,none⟩) tot c)) W:=fun W w2 h0 h1 h2=>by
    refine⟨_,c,by rw[el],?_,Yx h0 h2⟩;rw[el];refine Xp hbl h1 hroom hcM (by rw[length_splice _ _ _ (by rw[S1.out,hd.out,hC5];omega),S1.out,hC5]) ?_;rw[Yk,Yk,X2,<- hC,Q4,Qm (by omega)];have:=Zd1 (C:=C) (Y:=Zj qs) (X:=Zj (ps.drop j)) (a:=i*5) (b:=(i+m)*5) (by rw[hq5];omega) (by rw[hd.out,hC5];omega);rw[hd.out,show (i+m)*5+(n-j)*5=tot*5 by omega] at this;exact this
   replace hfin:=Za hfin;have hroom':=Za (show i+m+(n-j)<=c by omega);have hmin:=Za (Vz (a:=m) (b:=tot-i) (k:=m) (by omega));have hmin2:=Za (Vz (a:=n-j) (b:=tot-(i+m)) (k:=n-j) (by omega));have htn':(tot:Int)<=(n:Int):=by omega
   have htz:n-tot=0:=by omega
   replace htot:=Za htot;replace hmj:=Za hmj;replace htn:=Za htn;clear hqc hone honq hp1 hq1 hne h hf hC hC5 hCf hCf5 hpl hql hg hgf el
   go_enter Tryz.func52,Tryz.ntmps52
   go_upto_region 9 with fail
   go_quiet (fail)
   go_upto_region 18 with (refine Y2 rfl _ _ 39 39 rfl 54 Tryz.underlying39 X7 _ _ _ _ _ _ rfl rfl b (i*5) _ 54 hgh.out (Zj qs) m hmin.out hq5 rfl ⟨fb,0,none⟩ rfl (Q2.out _ (Zs3 _ _ _)) (by rw[hq5,hC5h.out];have:=hroom'.out;omega) HQ.out ?_;intro w2 hg2 hb2)
   go_still_tail 9,(by kernel_rfl)
   refine Y2 rfl _ _ 39 39 rfl 54 Tryz.underlying39 X7 _ _ _ _ _ _ rfl rfl b ((i+m)*5) _ 54 hg2.out (Zj (ps.drop j)) (n-j) hmin2.out hd.out rfl ⟨b,j*5,none⟩ rfl (P2.out w2 hg2.out) (by rw[S1.out,hd.out,hC5h.out];have:=hroom'.out;omega) HO.out ?_;intro w3 hg3 hb3;by_cases hcn:c=tot
   ·subst hcn
    go_wp2_with (refine Zat rfl _ 39 rfl 54 Tryz.underlying39 _ _ rfl ?_)
    go_ret;exact hfin.out _ _ (Zcg hb2.out) hg3.out (Xz hb3.out)
   ·go_wp2_with (refine Zat rfl _ 39 rfl 54 Tryz.underlying39 _ _ rfl ?_)
    go_ret;exact hfin.out _ _ (Zcg hb2.out) hg3.out (Xz hb3.out)
  ·have hle:¬ ((i:Int)+(m:Int)<=(j:Int)):=by have:=hj.out;omega
   have hov:Hid (∀ la ca lb cb ob nq,(callFunc 86 #[.slice (some ⟨b,ob,none⟩) la ca,.slice (some ⟨fb,0,none⟩) lb cb]).run Tryz.prog (w.drewN nq)=.ok (.value (.bool false)) (w.drewN nq)):=Za fun la ca lb cb ob nq=>Zja (w:=w.drewN nq) hg hgf hbf (by omega)
   have hfin:∀ (W w2:Qam),w.grownBy w2 (some b)->W.heap[b]? = some (.cells (splice (splice C ((i+m)*5) (Zj (ps.drop j))) (i*5) (Zj qs)).toArray 54 (0,0))->w2.grownBy W (some b)->Zqo lo w (some ⟨b,0,none⟩) (ps.take i++(qs++ps.drop j)) (.returned (.slice (some ⟨b,0,none⟩) tot c)) W:=fun W w2 h0 h1 h2=>by
    refine⟨_,c,by rw[el],?_,Yx h0 h2⟩;rw[el];refine Xp hbl h1 hroom hcM (by rw[length_splice _ _ _ (by rw[S2.out,hq5,hC5];omega),S2.out,hC5]) ?_;rw[Yk,Yk,X2,<- hC,Q4,Qm (by omega)];have:=Zip (C:=C) (Y:=Zj qs) (X:=Zj (ps.drop j)) (a:=i*5) (b:=(i+m)*5) (by rw[hq5];omega) (by rw[hd.out,hC5];omega);rw[hd.out,show (i+m)*5+(n-j)*5=tot*5 by omega] at this;exact this
   replace hfin:=Za hfin;have hroom':=Za (show i+m+(n-j)<=c by omega);have hmin:=Za (Vz (a:=m) (b:=tot-i) (k:=m) (by omega));have hmin2:=Za (Vz (a:=n-j) (b:=tot-(i+m)) (k:=n-j) (by omega));replace htot:=Za htot;clear hqc hone honq hp1 hq1 hne h hf hC hC5 hCf hCf5 hpl hql hg hgf el
   go_enter Tryz.func52,Tryz.ntmps52
   go_upto_region 9 with fail
   go_quiet (fail)
   go_upto_region 22 with (simp only[hov.out])
   go_still_tail 9,(by kernel_rfl)
   refine Y2 rfl _ _ 39 39 rfl 54 Tryz.underlying39 X7 _ _ _ _ _ _ rfl rfl b ((i+m)*5) _ 54 hgh.out (Zj (ps.drop j)) (n-j) hmin2.out hd.out rfl ⟨b,j*5,none⟩ rfl P0.out (by rw[hd.out,hC5h.out];have:=hroom'.out;omega) HO.out ?_;intro w2 hg2 hb2;have hb2':Hid (w.grownBy w2 (some b)):=Za ⟨hb2.out.os,hb2.out.tape,hb2.out.output,hb2.out.size,hb2.out.block⟩;clear hb2
   go_wp2_with (refine Y2 rfl _ _ 39 39 rfl 54 Tryz.underlying39 X7 _ _ _ _ _ _ rfl rfl b (i*5) _ 54 hg2.out (Zj qs) m hmin.out hq5 rfl ⟨fb,0,none⟩ rfl (Q2.out _ hb2'.out) (by rw[S2.out,hq5,hC5h.out];have:=hroom'.out;omega) HQ.out ?_;intro w3 hg3 hb3)
   go_ret;exact hfin.out _ _ hb2'.out hg3.out hb3.out
 ·have hgt:((c:Int)<(tot:Int)):=by omega
  have hz:Hid (∀ nq,∃ c' w1 Z,(Ql #[39,3] 39 #[.slice (some ⟨b,0,none⟩) i c,.int .i64 ((tot:Int)-(i:Int))]).run Tryz.prog (w.drewN nq)=.ok (.slice (some ⟨w.heap.size,0,none⟩) tot c') w1 /\
    w1.heap[w.heap.size]? = some (.cells (Pr Z) 54 (0,0))/\Z.length=c'*5/\tot<=c'/\c'<=maxLen/\Z.take (i*5)=Zj (ps.take i)/\Qau w.heap.size w w1/\w1.heap.size=w.heap.size+1):=Za fun nq=>by
   obtain⟨c',w1,Z,e1,e2,e3,e4,e5,e6,e7,e8⟩:=Zoq (w:=w.drewN nq) (i:=i) (k:=tot-i) h (by have:=hj.out;omega) (by omega) (by omega) (by omega);rw[show i+(tot-i)=tot by omega] at e1 e4;rw[show ((tot-i:Nat):Int)=(tot:Int)-(i:Int) by omega] at e1;exact⟨c',w1,Z,e1,e2,e3,e4,e5,e6,⟨e7.os,e7.tape,e7.output,e7.size,e7.block⟩,e8⟩
  replace htot:=Za htot
  go_enter Tryz.func52,Tryz.ntmps52
  go_upto_region 9 with fail
  go_quiet (fail)
  obtain⟨c',w1,Z,hr,hg1,hZ5,hZc,hZm,hZt,hB1,hs1⟩:=hz.out nq;clear hz;have r2:¬ c'=i+m:=by have:=hj.out;have:=htot.out;omega
  have r5:¬ c'=i:=by omega
  have Q1:Hid (∀ j v,(Zj qs)[j]? = some v->w1.cell? ((⟨fb,0,none⟩:Qao).add j)=some v):=Za fun j v hj=>(hB1.cell (by rw[Zh];exact hfs)).trans (hqc j v hj)
  have S1:=Za (length_splice Z (i*5) (Zj qs) (by rw[hq5,hZ5];have:=htot.out;omega));have G1:=Za hg1;have HR:=Za hr;have hz5:=Za hZ5;have P2:Hid (∀ w2:Qam,w1.grownBy w2 (some w.heap.size)->∀ j' v,(Zj (ps.drop j))[j']? = some v->w2.cell? ((⟨b,j*5,none⟩:Qao).add j')=some v):=Za fun w2 hb2 j' v hj'=>by
   refine(Qp ?_).trans ((hB1.cell (by rw[Zh];exact hbs)).trans (Zbl h j j' v hj'));rw[Zh];exact hb2.block b (by omega) (fun e=>by cases e;omega)
  have hfin:∀ W w2:Qam,w1.grownBy w2 (some w.heap.size)->W.heap[w.heap.size]? = some (.cells (splice (splice Z (i*5) (Zj qs)) ((i+m)*5) (Zj (ps.drop j))).toArray 54 (0,0))->w2.grownBy W (some w.heap.size)->Zqo lo w (some ⟨b,0,none⟩) (ps.take i++(qs++ps.drop j)) (.returned (.slice (some ⟨w.heap.size,0,none⟩) tot c')) W:=fun W w2 h0 h1 h2=>by
   have hB:Qau w.heap.size w W:=(hB1.grown h0 hB1.size (fun k e=>by cases e;exact Qc _)).grown h2 (by have:=h0.size;omega) (fun k e=>by cases e;exact Qc _);refine⟨_,c',by rw[el],?_,⟨hB.os,hB.tape,hB.output,hB.size,fun k hk _=>hB.block k hk⟩⟩;rw[el];refine Xp hlo h1 hZc hZm (by rw[length_splice _ _ _ (by rw[S1.out,hd.out,hZ5];have:=htot.out;omega),S1.out,hZ5]) ?_;rw[Yk,Yk,<- hZt];have:=Zd1 (C:=Z) (Y:=Zj qs) (X:=Zj (ps.drop j)) (a:=i*5) (b:=(i+m)*5) (by rw[hq5];omega) (by rw[hd.out,hZ5];have:=htot.out;omega);rw[hd.out,show (i+m)*5+(n-j)*5=tot*5 by have:=htot.out;omega] at this;exact this
  have hmin:=Za (Vz (a:=m) (b:=tot-i) (k:=m) (by have:=htot.out;omega));have hmin2:=Za (Vz (a:=n-j) (b:=tot-(i+m)) (k:=n-j) (by have:=htot.out;omega));have hroom':=Za (show i+m+(n-j)<=c' by have:=htot.out;omega);replace hfin:=Za hfin;replace hs1:=Za hs1;clear hqc hone honq hp1 hq1 hne h hf hC hC5 hCf hCf5 hpl hql hr hg1 hZ5 hZt hB1 hg hgf el
  go_upto_region 13 with (first | (at_builtin;refine Ug rfl _ _ _ _ rfl rfl rfl HR.out ?_) | (refine Y2 rfl _ _ 39 39 rfl 54 Tryz.underlying39 X7 _ _ _ _ _ _ rfl rfl w.heap.size (i*5) _ 54 G1.out (Zj qs) m hmin.out hq5 rfl ⟨fb,0,none⟩ rfl Q1.out (by rw[hz5.out,hq5];have:=hroom'.out;omega) HQ.out ?_;intro w2 hg2 hb2))
  go_still_tail 9,(by kernel_rfl)
  refine Y2 rfl _ _ 39 39 rfl 54 Tryz.underlying39 X7 _ _ _ _ _ _ rfl rfl w.heap.size ((i+m)*5) _ 54 hg2.out (Zj (ps.drop j)) (n-j) hmin2.out hd.out rfl ⟨b,j*5,none⟩ rfl (P2.out w2 hb2.out) (by rw[S1.out,hd.out,hz5.out];have:=hroom'.out;omega) HO.out ?_;intro w3 hg3 hb3
  go_wp2_with fail
  go_ret;exact hfin.out _ _ hb2.out hg3.out (Xz hb3.out)}
def Zbr (t:List UInt8):Bool:=decide (t.length=256)&&(t.take 8).all (· == 0)
def Z2x (t:List UInt8):Int:=if Zbr t then 0 else 8
theorem Zjx {t:List UInt8}(h:Zbr t=true):Z2x t=0:=by simp[Z2x,h]
theorem Zh6 {t:List UInt8}(h:Zbr t=false):Z2x t=8:=by simp[Z2x,h]
theorem Yy {t:List UInt8}(h:Zbr t=true):t.length=256:=by
 simp only[Zbr,Qg,decide_eq_true_eq] at h;exact h.1
theorem Zwp {t:List UInt8}(h:t.length≠256):Zbr t=false:=by simp[Zbr,h]
theorem Zhr {t:List UInt8}(h:t.length=256) (ha:∀ j,j<8->t[j]?.getD 0=0):Zbr t=true:=by
 simp only[Zbr,Qg,decide_eq_true_eq,Qk];refine⟨h,fun x hx=> ?_⟩;obtain⟨j,hj,rfl⟩:=Po.1 hx;have hj8:j<8:=by simp at hj;omega
 have:=ha j hj8;rw[Qe (by omega)] at this
 simpa using this
theorem Zl2 {t:List UInt8}(h:Zbr t=true){j:Nat}(hj:j<8):t[j]?.getD 0=0:=by
 have hl:=Yy h;simp only[Zbr,Qg,Qk] at h;have:=h.2 (t[j]'(by omega)) (Po.2 ⟨j,by simp;omega,by simp⟩);rw[Qe (by omega)]
 simpa using this
theorem Z67 {t:List UInt8}{k:Nat}(hk:k<8) (h:t[k]?.getD 0≠0):Zbr t=false:=by
 cases hm:Zbr t with
 | false=>rfl
 | true=>exact absurd (Zl2 hm hk) h
theorem Z7m {x:UInt8}(h:¬ (x.toNat:Int)=0):x≠0:=fun e=>h (by rw[e];rfl)
theorem Z68 {x:UInt8}(h:(x.toNat:Int)=0):x=0:=UInt8.toNat.inj (by simpa using h)
theorem Zrl {b:List UInt8}{k:Nat}(ha:∀ j,j<k->b[j]?.getD 0=0) (h:b[k]?.getD 0=0):∀ j,j<k+1->b[j]?.getD 0=0:=fun j hj=>by
 rcases Qs j k with h1 | h1
 ·exact ha j h1
 ·obtain rfl:j=k:=by omega
  exact h
theorem Za2 (A:Option Qao) (n c:Nat) (t:List UInt8) (hn:Hid (t.length=n)) (l1:n<=c) (m1:c<=9223372036854775807) (w:Qam) (h:Byt w w.heap.size A t) :
  Qat Tryz.prog 122 #[.slice A n c] w fun e w'=>e=.returned (.int .i64 (Z2x t))/\w=w':=by{
 have HY:=Za h;clear h;by_cases h256:n=256
 ·obtain⟨ad,rfl,_,hc⟩:=HY.out (by rw[hn.out];omega)
  subst h256;replace hc:=Za hc
  go_enter Tryz.func122,Tryz.ntmps122
  go_wp2_with fail
  go_loop [11] (fun i=>∃ k:Nat,k<=8/\i=.int .i64 k/\∀ j,j<k->t[j]?.getD 0=0) (fun i=>8-(intOf i).toNat)
  case atStart=>exact⟨0,by omega,rfl,fun j hj=>by omega⟩
  case round =>
   obtain⟨k,hk,rfl,ha⟩:=hrel;replace ha:=Za ha;by_cases hlt:k<8
   ·have hcell:=hc.out k (by rw[hn.out];omega)
    have hyes:=Za (fun h=>Z67 (t:=t) hlt h);have hno:=Za (fun h=>Zrl (b:=t) (k:=k) ha.out h);obtain⟨x,hx⟩:∃ x,t[k]?.getD 0=x:=⟨_,rfl⟩
    rw[hx] at hcell hyes hno;replace hx:=Za hx;by_cases h0:(x.toNat:Int)=0
    ·have t0:((x.toNat:Int) != 0)=false:=by simpa using h0
     have hall:=Za (hno.out (Z68 h0));replace h0:=Za h0
     go_wp2_with fail
     go_round
     case rel=>exact⟨k+1,by omega,by go_num,hall.out⟩
     case measure=>simp[intOf];omega
    ·have t0:((x.toNat:Int) != 0)=true:=by simpa using h0
     have hr:=Za (Zh6 (hyes.out (Z7m h0)));replace h0:=Za h0
     go_wp2_with fail
     go_ret;exact⟨Z1 hr.out.symm,rfl⟩
   ·have hr:=Za (Zjx (Zhr (t:=t) hn.out fun j hj=>ha.out j (by omega)))
    go_wp2_with fail
    go_ret;exact⟨Z1 hr.out.symm,rfl⟩
 ·have hr:=Za (Zh6 (Zwp (t:=t) (by rw[hn.out];exact h256)))
  have i1:((n:Int) != 256)=true:=by simp;omega
  go_enter Tryz.func122,Tryz.ntmps122
  go_wp2_with fail
  go_ret;exact⟨Z1 hr.out.symm,rfl⟩}
theorem Zb8:Zbr (Zw 256)=true:=by decide +kernel
theorem Zvm (w:Qam):Qat Tryz.prog 47 #[] w fun e w'=>e=.returned (.slice (some ⟨w.heap.size,0,none⟩) 256 256)/\w'=w.alloc (.cells (Znv (Zw 256)) 5):=by{
 have hmk:(Instr.makeSlice 27 (.int .i64 256) (.int .i64 256)).run Tryz.prog w=.ok (.slice (some ⟨w.heap.size,0,none⟩) 256 256) (w.alloc (.cells (Znv (Zw 256)) 5)):=Zg6 256 (by omega) w
 go_enter Tryz.func47,Tryz.ntmps47
 go_wp2
 go_ret;exact⟨rfl,rfl⟩}
def inT (n:Int):Bool:=decide (8<=n)&&decide (n<256)
def Zdu (t:List UInt8) (n:Int) (x:UInt8):Int:=if Zbr t then (if inT n then (if t[n.toNat]?.getD 0=x then 70 else 0) else 2) else 8
def upE (t:List UInt8) (n:Int):Int:=Zdu t n 255
def upV (t:List UInt8) (n:Int):List UInt8:=if upE t n=0 then t.set n.toNat (t[n.toNat]?.getD 0+1) else []
theorem Zyj {t:List UInt8}{n:Int}{x:UInt8}(h:Zbr t=false):Zdu t n x=8:=by simp[Zdu,h]
theorem Z1l {t:List UInt8}{n:Int}{x:UInt8}(h:Zbr t=true) (h':inT n=false):Zdu t n x=2:=by simp[Zdu,h,h']
theorem Zxs {t:List UInt8}{n:Int}{x:UInt8}(h:Zbr t=true) (h':inT n=true) (h2:t[n.toNat]?.getD 0=x):Zdu t n x=70:=by simp[Zdu,h,h',h2]
theorem Zts {t:List UInt8}{n:Int}{x:UInt8}(h:Zbr t=true) (h':inT n=true) (h2:t[n.toNat]?.getD 0≠x):Zdu t n x=0:=by simp[Zdu,h,h',h2]
theorem Zl4 {n:Int}(h:inT n=true):∃ k:Nat,n=k/\8<=k/\k<256:=by
 simp only[inT,Qg,decide_eq_true_eq] at h;exact⟨n.toNat,by omega,by omega,by omega⟩
theorem Zpe {k:Nat}(h:8<=k) (h':k<256):inT (k:Int)=true:=by
 simp only[inT,Qg,decide_eq_true_eq];omega
theorem Zxw {n:Int}(h:inT n=false):n<8\/256<=n:=by
 simp only[inT,Bool.and_eq_false_iff,decide_eq_false_iff_not] at h;omega
theorem Zpd (t:List UInt8) (n:Int) (x:UInt8):(Zbr t=false/\Zdu t n x=8)\/(Zbr t=true/\(n<8\/256<=n)/\Zdu t n x=2)\/(∃ k:Nat,Zbr t=true/\n=k/\8<=k/\k<256/\t[k]?.getD 0=x/\Zdu t n x=70) \/
  (∃ k:Nat,Zbr t=true/\n=k/\8<=k/\k<256/\t[k]?.getD 0≠x/\Zdu t n x=0):=by{
 cases hm:Zbr t with
 | false=>exact .inl ⟨rfl,Zyj hm⟩
 | true =>
  cases hi:inT n with
  | false=>exact .inr (.inl ⟨rfl,Zxw hi,Z1l hm hi⟩)
  | true =>
   obtain⟨k,rfl,h1,h2⟩:=Zl4 hi;by_cases hx:t[k]?.getD 0=x
   ·exact .inr (.inr (.inl ⟨k,rfl,rfl,h1,h2,hx,Zxs hm hi hx⟩))
   ·exact .inr (.inr (.inr ⟨k,rfl,rfl,h1,h2,hx,Zts hm hi hx⟩))}
theorem Vi {x y:UInt8}{q:Int}(hy:(y.toNat:Int)=q) (h:x=y):((x.toNat:Int)==q)=true:=by subst h;simpa using hy
theorem Xr {x y:UInt8}{q:Int}(hy:(y.toNat:Int)=q) (h:x≠y):((x.toNat:Int)==q)=false:=by
 cases he:(x.toNat:Int)==q with
 | false=>rfl
 | true=>exact absurd (UInt8.toNat.inj (by have:=beq_iff_eq.1 he;omega)) h
theorem Zga (v:Qan) (t:List UInt8) (n:Int) (x:UInt8) (q:Int) (hx:(x.toNat:Int)=q) (w:Qam) (h:rBy (Old w) w [v] t) :
  Qat Tryz.prog 128 #[v,.int .i64 n,.int .u8 q] w fun e w'=>e=.returned (.int .i64 (Zdu t n x))/\w=w':=by{
 obtain⟨A,c,rfl,l1,m1,hb⟩:=Vg (B:=w.heap.size) (fun _ h=>h) h;replace hb:=Za hb;clear h;rcases Zpd t n x with ⟨hm,he⟩ | ⟨hm,hn,he⟩ | ⟨k,hm,rfl,h8,h256,hk,he⟩ | ⟨k,hm,rfl,h8,h256,hk,he⟩
 ·replace he:=Za he
  have hc:=Za (Zh6 hm);replace hm:=Za hm;clear hx
  go_enter Tryz.func128,Tryz.ntmps128
  go_wp2_with fail
  with_reducible refine(Za2 A t.length c t (Za rfl) l1 m1 _ hb.out).mono ?_
  rintro e w1 ⟨rfl,rfl⟩;rw[hc.out]
  go_wp2_with fail
  go_ret;exact⟨Z1 he.out.symm,rfl⟩
 ·replace he:=Za he
  have hc:=Za (Zjx hm);replace hm:=Za hm;clear hx;by_cases h8:n<8
  ·go_enter Tryz.func128,Tryz.ntmps128
   go_wp2_with fail
   with_reducible refine(Za2 A t.length c t (Za rfl) l1 m1 _ hb.out).mono ?_
   rintro e w1 ⟨rfl,rfl⟩;rw[hc.out]
   go_wp2_with fail
   go_ret;exact⟨Z1 he.out.symm,rfl⟩
  ·have h9:256<=n:=by omega
   clear hn
   go_enter Tryz.func128,Tryz.ntmps128
   go_wp2_with fail
   with_reducible refine(Za2 A t.length c t (Za rfl) l1 m1 _ hb.out).mono ?_
   rintro e w1 ⟨rfl,rfl⟩;rw[hc.out]
   go_wp2_with fail
   go_ret;exact⟨Z1 he.out.symm,rfl⟩
 ·replace he:=Za he
  have hl:=Za (Yy hm);have hc:=Za (Zjx hm);replace hm:=Za hm;obtain⟨ad,rfl,_,hcc⟩:=hb.out (by rw[hl.out];omega);have hcell:=hcc k (by rw[hl.out];omega);obtain⟨y,hy⟩:∃ y,t[k]?.getD 0=y:=⟨_,rfl⟩
  rw[hy] at hcell hk;have t0:=Vi hx hk;replace hy:=Za hy;have i1:¬ (k:Int)<8:=by omega
  have i2:¬ 256<=(k:Int):=by omega
  have i3:k<t.length:=by rw[hl.out];exact h256
  clear hcc hk hx
  go_enter Tryz.func128,Tryz.ntmps128
  go_wp2_with fail
  with_reducible refine(Za2 (some ad) t.length c t (Za rfl) l1 m1 _ hb.out).mono ?_
  rintro e w1 ⟨rfl,rfl⟩;rw[hc.out]
  go_wp2_with fail
  go_ret;exact⟨Z1 he.out.symm,rfl⟩
 ·replace he:=Za he
  have hl:=Za (Yy hm);have hc:=Za (Zjx hm);replace hm:=Za hm;obtain⟨ad,rfl,_,hcc⟩:=hb.out (by rw[hl.out];omega);have hcell:=hcc k (by rw[hl.out];omega);obtain⟨y,hy⟩:∃ y,t[k]?.getD 0=y:=⟨_,rfl⟩
  rw[hy] at hcell hk;have t0:=Xr hx hk;replace hy:=Za hy;have i1:¬ (k:Int)<8:=by omega
  have i2:¬ 256<=(k:Int):=by omega
  have i3:k<t.length:=by rw[hl.out];exact h256
  clear hcc hk hx
  go_enter Tryz.func128,Tryz.ntmps128
  go_wp2_with fail
  with_reducible refine(Za2 (some ad) t.length c t (Za rfl) l1 m1 _ hb.out).mono ?_
  rintro e w1 ⟨rfl,rfl⟩;rw[hc.out]
  go_wp2_with fail
  go_ret;exact⟨Z1 he.out.symm,rfl⟩}
theorem Zin {x:UInt8}(h:x≠255):((x.toNat:Int)+1=((x+1).toNat:Int))/\(x.toNat:Int)+1<=255/\0<=(x.toNat:Int):=by
 have h2:x.toNat≠255:=fun e=>h (UInt8.toNat.inj e)
 have h3:=x.toNat_lt;have:(x+1).toNat=x.toNat+1:=by rw[UInt8.toNat_add];simp;omega
 omega
theorem Zyr {x:UInt8}(h:x≠0):((x.toNat:Int)-1=((x-1).toNat:Int))/\(x.toNat:Int)<=255/\0<=(x.toNat:Int)-1:=by
 have h2:x.toNat≠0:=fun e=>h (UInt8.toNat.inj e)
 have h3:=x.toNat_lt;have:(x-1).toNat=x.toNat-1:=by rw[UInt8.toNat_sub_of_le];rfl;exact UInt8.le_iff_toNat_le.2 (by show 1<=x.toNat;omega)
 omega
theorem Ya9 (v:Qan) (t:List UInt8) (n:Int) (w:Qam) (h:rBy (Old w) w [v] t) :
  Qat Tryz.prog 89 #[v,.int .i64 n] w fun e w'=>∃ u,e=.returned (.tuple #[u,.int .i64 (upE t n)])/\rBy (New w.heap.size w') w' [u] (upV t n)/\Qau w.heap.size w w':=by{
 have h':=Za h;by_cases he:upE t n=0
 ·obtain⟨k,hm,rfl,h8,h256,hk⟩:∃ k:Nat,Zbr t=true/\n=k/\8<=k/\k<256/\t[k]?.getD 0≠255:=by
   rcases Zpd t n 255 with ⟨_,h2⟩ | ⟨_,_,h2⟩ | ⟨k,_,_,_,_,_,h2⟩ | ⟨k,hm,hn,h8,h256,hk,h2⟩
   ·rw[upE,h2] at he;cases he
   ·rw[upE,h2] at he;cases he
   ·rw[upE,h2] at he;cases he
   ·exact⟨k,hm,hn,h8,h256,hk⟩
  have hl:=Yy hm;have hr:Hid (upV t (k:Int)=t.set k (t[k]?.getD 0+1)):=Za (by simp[upV,he]);obtain⟨A,c,rfl,l1,m1,hb⟩:=Vg (B:=w.heap.size) (fun _ h=>h) h;obtain⟨hu,hu1,hu2⟩:=Zin hk;replace hb:=Za hb;replace hl:=Za hl;replace he:=Za he;replace hu:=Za hu;clear hk h
  go_enter Tryz.func89,Tryz.ntmps89
  go_wp2_with fail
  with_reducible refine(Zga _ t (k:Int) 255 255 rfl _ h'.out).mono ?_
  rintro e w1 ⟨rfl,rfl⟩;rw[show Zdu t (k:Int) 255=0 from he.out]
  go_wp2_with fail
  with_reducible refine(Zfm A t.length c t (Za rfl) (by rw[hl.out];omega) _ hb.out).mono ?_
  rintro e w2 ⟨u,rfl,hu3,hb2⟩;obtain⟨g,c2,rfl,hg1,hg2,hg3,hg4⟩:=Zmk hu3 (by rw[hl.out];omega);have hcell:=Zfx hu3 (j:=k) (by rw[hl.out];exact h256);have hfr:w2.frozen? ⟨g,k,none⟩=false:=by
   have:=Zh2 hu3 k
   rwa [show (⟨g,0,none⟩:Qao).add k=⟨g,k,none⟩ by simp[Zah]] at this
  have hset:=Za (Zsd hu3 k (t[k]?.getD 0+1));have i3:k<t.length:=by rw[hl.out];exact h256
  generalize t[k]?.getD 0=x at *;replace hu3:=Za hu3
  go_wp2_with fail
  go_ret2
  rw[hr.out,he.out];rw[hu.out];exact⟨_,rfl,Zhi hset.out,hb2.setCell hg1 _⟩
 ·have hr:Hid (upV t n=[]):=Za (by simp[upV,he])
  obtain⟨q,hq⟩:∃ q,upE t n=q:=⟨_,rfl⟩
  have hq0:(q != 0)=true:=by rw[<- hq];simpa using he
  replace hq:=Za hq;clear h he
  go_enter Tryz.func89,Tryz.ntmps89
  go_wp2_with fail
  with_reducible refine(Zga _ t n 255 255 rfl _ h'.out).mono ?_
  rintro e w1 ⟨rfl,rfl⟩;rw[show Zdu t n 255=q from hq.out]
  go_wp2_with fail
  go_ret2
  rw[hr.out,hq.out];exact⟨_,rfl,Zhb _ _,Qb _ _⟩}
theorem Yam (w:Qam):rBy (New w.heap.size (w.alloc (.cells (Znv (Zw 256)) 5))) (w.alloc (.cells (Znv (Zw 256)) 5)) [.slice (some ⟨w.heap.size,0,none⟩) 256 256] (Zw 256):=by
 have:=Z6x w (Zw 256) (by rw[Zbu];omega)
 rwa [Zbu] at this
theorem Zph (w:Qam):Qat Tryz.prog 47 #[] w fun e w'=>∃ g,e=.returned (.slice (some ⟨g,0,none⟩) 256 256)/\rBy (New w.heap.size w') w' [.slice (some ⟨g,0,none⟩) 256 256] (Zw 256)/\Qau w.heap.size w w':=by
 refine(Zvm w).mono ?_;rintro e w' ⟨rfl,rfl⟩;exact⟨_,rfl,Yam w,Zdw (Qb _ _) _⟩
theorem Z1x (v:Qan) (t:List UInt8) (n:Int) (w:Qam) (h:rBy (Old w) w [v] t) :
  Qat Tryz.prog 89 #[v,.int .i64 n] w fun e w'=>∃ E c,e=.returned (.tuple #[.slice E (upV t n).length c,.int .i64 (upE t n)])/\rBy (New w.heap.size w') w' [.slice E (upV t n).length c] (upV t n)/\Qau w.heap.size w w':=by
 refine(Ya9 v t n w h).mono ?_;rintro e w' ⟨u,rfl,hu,hb⟩;obtain⟨E,c,rfl,_⟩:=id (Zt hu);exact⟨E,c,rfl,hu,hb⟩
theorem Zb1 {t:List UInt8}{k:Nat}{x:UInt8}(h:k<t.length):(t.set k x)[k]?.getD 0=x:=by simp[h]
theorem Vw {t:List UInt8}{k j:Nat}{x:UInt8}(h:j≠k):(t.set k x)[j]?.getD 0=t[j]?.getD 0:=by simp[List.getElem?_set_ne (Ne.symm h)]
theorem Zto {t:List UInt8}{k:Nat}{x:UInt8}(h:Zbr t=true) (hk:8<=k):Zbr (t.set k x)=true :=
 Zhr (by rw[List.length_set];exact Yy h) fun j hj=>by rw[Vw (by omega)];exact Zl2 h hj
theorem Yck {t:List UInt8}{k:Nat}(hm:Zbr t=true) (h8:8<=k) (h:k<256) (hx:t[k]?.getD 0≠255):upE t k=0/\upV t k=t.set k (t[k]?.getD 0+1):=by
 have h1:upE t k=0:=Zts hm (Zpe h8 h) (by simpa using hx);exact⟨h1,by simp[upV,h1]⟩
theorem Zx5 {x:UInt8}:x+1-1=x/\x-1+1=x:=⟨UInt8.add_sub_cancel x 1,UInt8.sub_add_cancel x 1⟩
theorem Zv8 {x:UInt8}(h:x≠255):x+1≠0:=fun e=>by
 have:=(Zin h).1;rw[e] at this;have h0:((0:UInt8).toNat:Int)=0:=rfl;omega
theorem Zwg {x:UInt8}(h:x≠0):x-1≠255:=fun e=>by
 have:=Zyr h;rw[e] at this;have h0:((255:UInt8).toNat:Int)=255:=rfl;omega
theorem Z8s (a:Int):(a<8/\inT a=false)\/(8<=a/\a<256/\inT a=true)\/(8<=a/\256<=a/\inT a=false):=by{
 cases h:inT a with
 | true =>
  obtain⟨k,rfl,h1,h2⟩:=Zl4 h;exact .inr (.inl ⟨by omega,by omega,rfl⟩)
 | false =>
  rcases Zxw h with h1 | h1
  ·exact .inl ⟨h1,rfl⟩
  ·exact .inr (.inr ⟨by omega,h1,rfl⟩)}
abbrev Rm:=Dk×List UInt8×List UInt8
def Zi:Rm:=(Zc8,[],[])
def Xj (s:Rm):Bool:=Zbs s.1&&Zbr s.2.1&&Zbr s.2.2
def Z2w (s:Rm):Int:=if Xj s then 0 else 8
theorem Yf {s:Rm}(h:Xj s=true):Zbs s.1=true/\Zbr s.2.1=true/\Zbr s.2.2=true:=by
 unfold Xj at h;simp only[Qg] at h;exact⟨h.1.1,h.1.2,h.2⟩
theorem Zak {s:Rm}(h1:Zbs s.1=true) (h2:Zbr s.2.1=true) (h3:Zbr s.2.2=true):Xj s=true:=by simp[Xj,h1,h2,h3]
theorem Zc4 {s:Rm}(h:Xj s=true):Z2w s=0:=by simp[Z2w,h]
theorem Zec {s:Rm}(h:Xj s=false):Z2w s=8:=by simp[Z2w,h]
def U9 (s:Rm) (i:Nat):Bool:=decide (s.2.1[i]?.getD 0=0)&&decide (s.2.2[i]?.getD 0=0)
def Zb2 (s:Rm) (k:Nat):List Nat:=(List.range' 8 k).filter (U9 s)
def Xt (s:Rm):List Nat:=Zb2 s 248
theorem Zgp (s:Rm) (k:Nat):Zb2 s (k+1)=Zb2 s k++(if U9 s (8+k) then [8+k] else []):=by
 unfold Zb2;rw[List.range'_concat,Pq];simp[List.filter_cons]
theorem Zyi (s:Rm) (k:Nat):(Zb2 s k).length<=k:=by
 have:=Qac (U9 s) (List.range' 8 k)
 simpa [Zb2] using this
theorem Zyv {s:Rm}{i:Nat}(h:i∈Xt s):8<=i/\i<256/\s.2.1[i]?.getD 0=0/\s.2.2[i]?.getD 0=0:=by
 unfold Xt Zb2 at h;rw[List.mem_filter,List.mem_range'_1] at h;obtain⟨⟨h1,h2⟩,h3⟩:=h;simp only[U9,Qg,decide_eq_true_eq] at h3;exact⟨h1,h2,h3.1,h3.2⟩
def tkE (s:Rm) (b:List UInt8):Int:=if Xj s then (if b.length=128 then (if (Xt s).isEmpty||decide (4096<=s.1.2.length) then 9 else 0) else 3) else 8
def tkK (s:Rm):Nat:=(Xt s)[0]?.getD 0
def tkN (s:Rm) (b:List UInt8):Int:=if tkE s b=0 then (tkK s:Int) else 0
def tkV (s:Rm) (b:List UInt8):Rm:=if tkE s b=0 then (wrD s.1 (tkK s) b,s.2.1.set (tkK s) 1,s.2.2) else Zi
theorem Z0h {s:Rm}{b:List UInt8}(h:tkE s b=0):Xj s=true/\b.length=128/\s.1.2.length<4096/\Xt s=tkK s::(Xt s).tail/\8<=tkK s/\tkK s<256/\s.2.1[tkK s]?.getD 0=0/\s.2.2[tkK s]?.getD 0=0 /\
  tkN s b=(tkK s:Int)/\tkV s b=(wrD s.1 (tkK s) b,s.2.1.set (tkK s) 1,s.2.2):=by{
 have hN:tkN s b=(tkK s:Int):=by rw[tkN,if_pos h]
 have hV:tkV s b=(wrD s.1 (tkK s) b,s.2.1.set (tkK s) 1,s.2.2):=by rw[tkV,if_pos h]
 unfold tkE at h;cases hm:Xj s with
 | false=>rw[hm] at h;simp at h
 | true =>
  rw[hm,if_pos rfl] at h;by_cases hb:b.length=128
  ·rw[if_pos hb] at h
   cases hl:Xt s with
   | nil=>rw[hl] at h;simp at h
   | cons k m =>
    have hk:tkK s=k:=by simp[tkK,hl]
    obtain⟨h1,h2,h3,h4⟩:=Zyv (s:=s) (i:=k) (by rw[hl];exact List.mem_cons_self);have hw:s.1.2.length<4096:=by
     rw[hl] at h;by_cases hw:4096<=s.1.2.length
     ·simp[hw] at h
     ·omega
    rw[hk] at hN hV ⊢;exact⟨rfl,hb,hw,rfl,h1,h2,h3,h4,hN,hV⟩
  ·rw[if_neg hb] at h
   simp at h}
theorem Zzl {s:Rm}{b:List UInt8}(hm:Xj s=true) (hb:b.length=128) (hl:Xt s≠[]) (hw:s.1.2.length<4096):tkE s b=0:=by{
 have h1:(Xt s).isEmpty=false:=by cases h:Xt s with
  | nil=>exact absurd h hl
  | cons k m=>rfl
 have h2:decide (4096<=s.1.2.length)=false:=by simp;omega
 simp[tkE,hm,hb,h1,h2]}
theorem Z9t {s:Rm}{b:List UInt8}(hm:Xj s=true) (hb:b.length=128) (h:tkE s b≠0):tkE s b=9/\(Xt s=[]\/s.1.2.length=4096):=by{
 have h9:tkE s b=9:=by
  by_cases hc:((Xt s).isEmpty||decide (4096<=s.1.2.length))=true
  ·simp only[tkE,hm,hb,hc,if_true]
  ·simp only[tkE,hm,hb,hc,if_true] at h
   exact absurd rfl h
 refine⟨h9,?_⟩;cases hl:Xt s with
 | nil=>exact .inl rfl
 | cons k m =>
  right
  have h2:=(Zfd (Yf hm).1).2.1;by_cases hw:s.1.2.length<4096
  ·exact absurd (Zzl hm hb (by rw[hl];simp) hw) h
  ·omega}
theorem Z7s (s:Rm) (b:List UInt8):(Xj s=false/\tkE s b=8)\/(Xj s=true/\b.length≠128/\tkE s b=3)\/(Xj s=true/\b.length=128/\Xt s=[]/\tkE s b=9)\/(Xj s=true/\b.length=128/\Xt s≠[]/\4096<=s.1.2.length/\tkE s b=9) \/
  (Xj s=true/\b.length=128/\Xt s≠[]/\s.1.2.length<4096/\tkE s b=0):=by{
 cases hm:Xj s with
 | false=>exact .inl ⟨rfl,by simp[tkE,hm]⟩
 | true =>
  by_cases hb:b.length=128
  ·cases hl:Xt s with
   | nil=>exact .inr (.inr (.inl ⟨rfl,hb,rfl,by simp[tkE,hm,hb,hl]⟩))
   | cons k m =>
    by_cases hw:s.1.2.length<4096
    ·exact .inr (.inr (.inr (.inr ⟨rfl,hb,by simp,hw,Zzl hm hb (by rw[hl];simp) hw⟩)))
    ·exact .inr (.inr (.inr (.inl ⟨rfl,hb,by simp,by omega,by simp[tkE,hm,hb,hl];omega⟩)))
  ·exact .inr (.inl ⟨rfl,hb,by simp[tkE,hm,hb]⟩)}
theorem Zvd {s:Rm}{b:List UInt8}(h:tkE s b≠0):tkN s b=0/\tkV s b=Zi:=⟨by rw[tkN,if_neg h],by rw[tkV,if_neg h]⟩
theorem Yaz {s:Rm}{b:List UInt8}(h:tkE s b=0):Xj (tkV s b)=true:=by
 obtain⟨hm,hb,hw,_,h8,h256,_,_,_,hV⟩:=Z0h h;obtain⟨m1,m2,m3⟩:=Yf hm;rw[hV];exact Zak (Z0x m1 h256 hb hw) (Zto m2 h8) m3
def asE (s:Rm) (n:Int):Int:=if Xj s then (if inT n then (if s.2.1[n.toNat]?.getD 0=0 then 6 else 0) else 2) else 8
def shE (s:Rm) (n:Int):Int:=if asE s n=0 then (if s.2.1[n.toNat]?.getD 0=255 then 70 else 0) else asE s n
def shV (s:Rm) (n:Int):Rm:=if shE s n=0 then (s.1,s.2.1.set n.toNat (s.2.1[n.toNat]?.getD 0+1),s.2.2) else Zi
theorem Zj9 (s:Rm) (n:Int):(Xj s=false/\asE s n=8)\/(Xj s=true/\(n<8\/256<=n)/\asE s n=2)\/(∃ k:Nat,Xj s=true/\n=k/\8<=k/\k<256/\s.2.1[k]?.getD 0=0/\asE s n=6) \/
  (∃ k:Nat,Xj s=true/\n=k/\8<=k/\k<256/\s.2.1[k]?.getD 0≠0/\asE s n=0):=by{
 cases hm:Xj s with
 | false=>exact .inl ⟨rfl,by simp[asE,hm]⟩
 | true =>
  cases hi:inT n with
  | false=>exact .inr (.inl ⟨rfl,Zxw hi,by simp[asE,hm,hi]⟩)
  | true =>
   obtain⟨k,rfl,h8,h256⟩:=Zl4 hi;by_cases hx:s.2.1[k]?.getD 0=0
   ·exact .inr (.inr (.inl ⟨k,rfl,rfl,h8,h256,hx,by simp[asE,hm,hi,hx]⟩))
   ·exact .inr (.inr (.inr ⟨k,rfl,rfl,h8,h256,hx,by simp[asE,hm,hi,hx]⟩))}
theorem Z7o {s:Rm}{n:Int}(h:shE s n=0):∃ k:Nat,n=k/\Xj s=true/\8<=k/\k<256/\s.2.1[k]?.getD 0≠0/\s.2.1[k]?.getD 0≠255/\s.2.1.length=256/\shV s n=(s.1,s.2.1.set k (s.2.1[k]?.getD 0+1),s.2.2):=by{
 have hV:=h;rcases Zj9 s n with ⟨_,e⟩ | ⟨_,_,e⟩ | ⟨k,_,_,_,_,_,e⟩ | ⟨k,hm,rfl,h8,h256,hx,e⟩
 ·simp[shE,e] at h
 ·simp[shE,e] at h
 ·simp[shE,e] at h
 ·by_cases h255:s.2.1[k]?.getD 0=255
  ·simp[shE,e,h255] at h
  ·exact⟨k,rfl,hm,h8,h256,hx,h255,Yy (Yf hm).2.1,by rw[shV,if_pos hV];rfl⟩}
theorem Ya7 {s:Rm}{k:Nat}(hm:Xj s=true) (h8:8<=k) (h:k<256) (hx:s.2.1[k]?.getD 0≠0) (hy:s.2.1[k]?.getD 0≠255):shE s k=0:=by
 have hi:=Zpe h8 h;simp[shE,asE,hm,hi,hx,hy]
theorem Ya3 {s:Rm}{n:Int}(h:shE s n≠0):shV s n=Zi:=by rw[shV,if_neg h]
theorem Ybs {s:Rm}{n:Int}(h:shE s n=0):Xj (shV s n)=true:=by
 obtain⟨k,rfl,hm,h8,h256,_,_,_,hV⟩:=Z7o h;obtain⟨m1,m2,m3⟩:=Yf hm;rw[hV];exact Zak m1 (Zto m2 h8) m3
end Go.Proofs.YtgmbjnajdfgenaaGreat
