/-
  Lemmas on the program and on the document's answers, gathered: ItWrite, ItRead, RefItRead, Alive05, Bag05, Node, NdCut, NdCut2, NdCheck, NdWrite, NdRead, RmNode, NdPlace, NdBack, DrPlain, RmSame, RmRef, NdRefMay, NdRefTold, NdRefSam, NdRefRead, RmRefN, CntRead, CntRef, DrLess, NdBag, DrLeft, CntWrite, CntRefW, StoZero. Conditions: those that each lemma states.
-/
import Derived.Test.YtgmbjnajdfgenaaGreatBnd2
import Derived.Deep.CutBlock
import Derived.Deep.CutRange
import Derived.Laws.StructEq
import Derived.WalkLawsBesides
import Derived.Sort.QuietIn
import Derived.Sort.CutIn
set_option maxRecDepth 100000
set_option maxHeartbeats 16000000
open Array renaming getElem?_eq_some_iff → Pw
open Bool renaming and_eq_true → Qk, or_eq_true → Pn
open Go renaming World → Py, Value → Pz, Addr → P3, TypeId → P4, bodyPost_ret → P5, heap_alloc_new → P7, Calls → P8
open Go.Act renaming put → Qa
open Go.Builtin renaming append_ → Pr
open Go.IntWalk renaming i64_in → Qq
open Go.RowKit renaming Below → P9
open Go.RowKit.Below renaming refl → Qb
open Go.World renaming cell?_of_block → Q3, block_lt_of_cell? → Q7, size_alloc → Pc, cell? → Pv
open List renaming getElem?_eq_getElem → Qe, drop_zero → Qg, setIfInBounds_toArray → Qh, set_cons_zero → Qi, set_cons_succ → Qj, getElem?_eq_some_iff → Ql, all_eq_true → Qm, drop_succ_cons → Qo, mem_of_getElem? → Qr, length_append → Qs, append_assoc → Qt, take_of_length_le → Qu, getElem?_drop → Qw, take_add_one → Qx, getElem?_of_mem → Qy, length_set → Qz, getElem?_append_right → Q4, range → Q8, mem_cons → Q9, mem_iff_getElem? → Pa, take_append_drop → Pb, filter_append → Pd, cons_append → Pe, take_zero → Pg, length_take → Ph, eq_nil_of_length_eq_zero → Pi, drop_left → Pj, take_left' → Pk, drop_eq_getElem_cons → Pm, findIdx?_eq_some_iff_getElem → Po, findIdx?_eq_none_iff → Pp, getElem_mem → Pq, drop_of_length_le → Ps, getElem?_eq_none → Pt, getElem?_append_left → Pu, mem_singleton → Px
open Nat renaming lt_of_lt_of_le → Qc, le_refl → Qd, le_trans → Qf, lt_or_ge → Qn, le_of_lt → Qp, lt_trans → Qv, zero_add → Q5, add_assoc → Q6, eq_zero_or_pos → Pf
noncomputable section
namespace Go.Proofs.YtgmbjnajdfgenaaGreat
open Go.RowKit
theorem Zyu (s:It):[[s.1.1],le 4 s.1.2.1,le 4 s.1.2.2,le 2 s.2.1,[UInt8.ofNat s.2.2.length],s.2.2].flatten=itB s:=by simp[itB]
theorem Zt8 (v:Pz) (s:It) (w:Py) (h:Itm (Old w) w v s) (hm:Zb0 s=true) :
  P8 Tryz.prog 123 #[v] w fun e w'=>∃ u,e=.returned (.tuple #[u,.int .i64 0])/\rBy (New w.heap.size w') w' [u] (itB s)/\P9 w.heap.size w w':=by{
 have hmay:=Zax hm;have hchk:=Za (Zcc hm);have hlen:=Za (Um s);obtain⟨A,c,rfl,hin,l1,m1,rv⟩:=h.open;obtain⟨⟨⟨g0,g1⟩,⟨n0,n1⟩⟩,_⟩:=hin;have hhead:=Za (Zyu s);obtain⟨w0,hw0,f1,f2,f3,f4,f5,hs0,hB0,_⟩:=Z6 w (.int .u8 (s.1.1.toNat:Int)) (.int .u32 s.1.2.1) (.int .u32 s.1.2.2) (.int .i64 s.2.1) (.slice A s.2.2.length c) 54;have H0:=Za (h.below hB0);have RV:=Za (Zf.old rv hB0);clear rv;obtain⟨n,hn⟩:∃ n,s.2.2.length=n:=⟨_,rfl⟩
 unfold itV at H0 ⊢;rw[hn] at l1 f5 H0 hw0 RV hmay hlen hhead ⊢;have h12:n<=12:=hmay.2;have hr0:0<=s.2.1/\s.2.1<65536:=by have:=hmay.1;omega
 have hu8:((UInt8.ofNat n).toNat:Int)=(n:Int):=by
  rw[UInt8.toNat_ofNat'];omega
 have HU:=Za hu8;have HWR:=Za (show IntKind.u8.wrap (n:Int)=n by rw[IntKind.wrap_u8'];omega);obtain⟨p,hp⟩:∃ p:Int,(s.1.1.toNat:Int)=p:=⟨_,rfl⟩
 have HP:=Za hp;rw[hp] at f1 hw0 H0 ⊢;clear hp hmay;replace hn:=Za hn;have lt0:w.heap.size<w0.heap.size:=by omega
 have HB0:=Za hB0;clear hB0 hs0 h hu8
 go_enter Tryz.func123,Tryz.ntmps123
 go_upto_region 1 with fail
 clear hw0
 go_wp2_with fail
 with_reducible refine(Za7 _ s _ H0.out).mono ?_
 rintro e1 w1 ⟨rfl,hb1⟩;rw[hchk.out];have B1:=Za hb1;replace f1:=(hb1.cell (p:=⟨w.heap.size,0,none⟩) lt0).trans f1;replace f2:=(hb1.cell (p:=⟨w.heap.size,1,none⟩) lt0).trans f2;replace f3:=(hb1.cell (p:=⟨w.heap.size,2,none⟩) lt0).trans f3;replace f4:=(hb1.cell (p:=⟨w.heap.size,3,none⟩) lt0).trans f4;replace f5:=(hb1.cell (p:=⟨w.heap.size,4,none⟩) lt0).trans f5;clear hb1 H0
 go_wp2_with fail
 with_reducible refine(Z5o s.2.1 hr0.1 hr0.2 _).mono ?_
 rintro e2 w2 ⟨A2,rfl,y2,hb2⟩;have lt1:w.heap.size<w1.heap.size:=Qc lt0 B1.out.size;replace f1:=(hb2.cell (p:=⟨w.heap.size,0,none⟩) lt1).trans f1;replace f2:=(hb2.cell (p:=⟨w.heap.size,1,none⟩) lt1).trans f2;replace f3:=(hb2.cell (p:=⟨w.heap.size,2,none⟩) lt1).trans f3;replace f5:=(hb2.cell (p:=⟨w.heap.size,4,none⟩) lt1).trans f5;have B2:=Za (B1.out.trans (hb2.mono B1.out.size));replace y2:=Za y2;replace RV:=Za (Zf.old RV.out B2.out);have lt2:w.heap.size<w2.heap.size:=Qc lt1 hb2.size;clear f4 hb2
 go_wp2_with fail
 refine Zny (by kernel_rfl) (fun W=>P9 w2.heap.size w2 W) (fun i=>match i with
   | 3=>some (fun v W=>rBy (Old W) W [v] [s.1.1])
   | 7=>some (fun v W=>rBy (Old W) W [v] (le 4 s.1.2.1))
   | 11=>some (fun v W=>rBy (Old W) W [v] (le 4 s.1.2.2))
   | 17=>some (fun v W=>rBy (Old W) W [v] [UInt8.ofNat n])
   | 20=>some (fun v W=>rSl 1 rBy (Old W) W [v] [[s.1.1],le 4 s.1.2.1,le 4 s.1.2.2,le 2 s.2.1,[UInt8.ofNat n],s.2.2])
   | 21=>some (fun v W=>rBy (New w2.heap.size W) W [v] (itB s))
   | _=>none) (by kernel_rfl) (Qb _ _).drew (fun w w' h hb=>h.trans (hb.mono h.size)) ?tst ?_
 case tst =>
  intro j φ x W W' hp hx hb
  match j,hp with
  | 3,hp=>cases hp;exact Zf.old hx hb
  | 7,hp=>cases hp;exact Zf.old hx hb
  | 11,hp=>cases hp;exact Zf.old hx hb
  | 17,hp=>cases hp;exact Zf.old hx hb
  | 20,hp=>cases hp;exact(Uw Zf).old hx hb
  | 21,hp=>cases hp;exact Zf.new hx (Qd _) hb
 repeat (first
  | (refine wpAs_skip rfl ?_;simp only[Qa,Zb,Zc,Zd])
  | (refine wpAs_pure (v := ?_) rfl rfl ?_ ?_;rotate_left;(intro W hC hE;clear hE;(have z1:=(hC.cell (p:=⟨w.heap.size,0,none⟩) lt2).trans f1);clear hC;go_simp;first | done | with_reducible rfl);simp only[Qa,Zb,Zc,Zd]))
 refine wpAs_act rfl rfl ?_ ?_
 ·intro W hC hE
  clear hE hC;have hy2:=Za (Zrn W 5 s.1.1 p HP.out)
  go_simp
  exact⟨hy2.out,(Qb _ _).alloc (Qd _) _⟩
 simp only[Qa,Zb,Zc,Zd,envAdd];intro x24
 repeat (first
  | (refine wpAs_skip rfl ?_;simp only[Qa,Zb,Zc,Zd])
  | (refine wpAs_pure (v := ?_) rfl rfl ?_ ?_;rotate_left;(intro W hC hE;clear hE;(have z2:=(hC.cell (p:=⟨w.heap.size,1,none⟩) lt2).trans f2);clear hC;go_simp;first | done | with_reducible rfl);simp only[Qa,Zb,Zc,Zd]))
 refine wpAs_act rfl rfl ?_ ?_
 ·intro W hC hE
  clear hE;refine does_enter (f:=157) (args:=#[.int .u32 s.1.2.1]) ?_ ?_
  ·go_simp
  ·refine(Zv7 s.1.2.1 g0 g1 W).mono ?_
   rintro e W' ⟨_,_,rfl,hy,hb⟩;exact⟨_,rfl,hy,hb⟩
 simp only[Qa,Zb,Zc,Zd,envAdd];intro x28
 repeat (first
  | (refine wpAs_skip rfl ?_;simp only[Qa,Zb,Zc,Zd])
  | (refine wpAs_pure (v := ?_) rfl rfl ?_ ?_;rotate_left;(intro W hC hE;clear hE;(have z3:=(hC.cell (p:=⟨w.heap.size,2,none⟩) lt2).trans f3);clear hC;go_simp;first | done | with_reducible rfl);simp only[Qa,Zb,Zc,Zd]))
 refine wpAs_act rfl rfl ?_ ?_
 ·intro W hC hE
  clear hE;refine does_enter (f:=157) (args:=#[.int .u32 s.1.2.2]) ?_ ?_
  ·go_simp
  ·refine(Zv7 s.1.2.2 n0 n1 W).mono ?_
   rintro e W' ⟨_,_,rfl,hy,hb⟩;exact⟨_,rfl,hy,hb⟩
 simp only[Qa,Zb,Zc,Zd,envAdd];intro x32
 repeat (first
  | (refine wpAs_skip rfl ?_;simp only[Qa,Zb,Zc,Zd])
  | (refine wpAs_pure (v := ?_) rfl rfl ?_ ?_;rotate_left;(intro W hC hE;clear hE;(have hwz:=HWR.out;have z5:=(hC.cell (p:=⟨w.heap.size,4,none⟩) lt2).trans f5);clear hC;go_simp;first | done | with_reducible rfl);simp only[Qa,Zb,Zc,Zd]))
 refine wpAs_act rfl rfl ?_ ?_
 ·intro W hC hE
  clear hE hC;have hy2:=Za (Zrn W 5 (UInt8.ofNat n) (n:Int) HU.out)
  go_simp
  exact⟨hy2.out,(Qb _ _).alloc (Qd _) _⟩
 simp only[Qa,Zb,Zc,Zd,envAdd];intro x38
 repeat (first
  | (refine wpAs_skip rfl ?_;simp only[Qa,Zb,Zc,Zd])
  | (refine wpAs_pure (v := ?_) rfl rfl ?_ ?_;rotate_left;(intro W hC hE;clear hE;(have z5:=(hC.cell (p:=⟨w.heap.size,4,none⟩) lt2).trans f5);clear hC;go_simp;first | done | with_reducible rfl);simp only[Qa,Zb,Zc,Zd]))
 refine wpAs_act rfl rfl ?_ ?_
 ·intro W hC hE
  have y38:=hE.1 rfl;have y32:=hE.2.1 rfl;have y28:=hE.2.2.1 rfl;have y24:=hE.2.2.2.1 rfl
  have hl6:=Za (Zyx W 27 [x24,x28,x32,.slice A2 2 2,x38,.slice A n c] [[s.1.1],le 4 s.1.2.1,le 4 s.1.2.2,le 2 s.2.1,[UInt8.ofNat n],s.2.2] rfl (by simp) (fun i v x h1 h2=>by
   match i,h1,h2 with
   | 0,h1,h2=>cases h1;cases h2;exact y24
   | 1,h1,h2=>cases h1;cases h2;exact y28
   | 2,h1,h2=>cases h1;cases h2;exact y32
   | 3,h1,h2=>cases h1;cases h2;exact Zf.old y2.out hC
   | 4,h1,h2=>cases h1;cases h2;exact y38
   | 5,h1,h2=>cases h1;cases h2;exact Zf.old RV.out hC))
  obtain⟨_,_,rfl,_⟩:=Zm y24;obtain⟨_,_,rfl,_⟩:=Zm y28;obtain⟨_,_,rfl,_⟩:=Zm y32;obtain⟨_,_,rfl,_⟩:=Zm y38;clear hE hC y24 y28 y32 y38
  go_simp
  exact⟨hl6.out,(Qb _ _).alloc (Qd _) _⟩
 simp only[Qa,Zb,Zc,Zd,envAdd];intro x41;refine wpAs_act rfl rfl ?_ ?_
 ·intro W hC hE
  have y41:=hE.1 rfl;have hlen2:Zj1 [[s.1.1],le 4 s.1.2.1,le 4 s.1.2.2,le 2 s.2.1,[UInt8.ofNat n],s.2.2]=12+n:=by
   unfold Zj1;rw[hhead.out,hlen.out]
  refine does_enter (f:=156) (args:=#[x41]) ?_ ?_
  ·clear hE hC hlen2
   obtain⟨_,_,e,_⟩:=Zcx y41;cases e;clear y41
   go_simp
  ·refine(Zsq x41 _ W (by rw[hlen2];omega) y41).mono ?_
   rintro e W' ⟨u,rfl,ho,hb⟩;rw[hlen2,hhead.out] at ho;exact⟨_,rfl,Zf.mono (Zal ho) hC.size,hb⟩
 simp only[Qa,Zb,Zc,Zd,envAdd];intro x42;refine wpAs_pure (v:=x42) rfl rfl ?_ ?_
 ·intro W hC hE
  clear hE hC
  go_simp
 simp only[Qa,Zb,Zc,Zd]
 repeat (first
  | (refine wpAs_skip rfl ?_;simp only[Qa,Zb,Zc,Zd])
  | (refine wpAs_pure (v := ?_) rfl rfl ?_ ?_;rotate_left;(intro W hC hE;clear hE;skip;clear hC;go_simp;first | done | with_reducible rfl);simp only[Qa,Zb,Zc,Zd]))
 refine wpAs_end fun W hC hE=> ?_
 have o42:=Za hE.1;clear hE;have BW:=Za (HB0.out.trans ((B2.out.trans (hC.mono B2.out.size)).mono HB0.out.size));clear hC
 go_wp2_with fail
 go_ret2
 exact⟨_,rfl,Zf.mono o42.out (Qp lt2),BW.out⟩}
theorem Zp4 (v:Pz) (s:It) (w:Py) (h:Itm (Old w) w v s) :
  P8 Tryz.prog 123 #[v] w fun e w'=>∃ u,e=.returned (.tuple #[u,.int .i64 (Z4m s)])/\rBy (New w.heap.size w') w' [u] (wrI s)/\P9 w.heap.size w w':=by{
 cases hm:Zb0 s with
 | true =>
  rw[Zcc hm,show wrI s=itB s by simp[wrI,hm]];exact Zt8 v s w h hm
 | false =>
  rw[Ue hm,show wrI s=[] by simp[wrI,hm]];have hchk:=Za (Ue hm);replace hm:=Za hm;obtain⟨A,c,rfl,_⟩:=h.open;obtain⟨w0,hw0,f1,f2,f3,f4,f5,hs0,hB0,_⟩:=Z6 w (.int .u8 (s.1.1.toNat:Int)) (.int .u32 s.1.2.1) (.int .u32 s.1.2.2) (.int .i64 s.2.1) (.slice A s.2.2.length c) 54;have H0:=Za (h.below hB0);have HB0:=Za hB0;clear hB0 hs0 h
  go_enter Tryz.func123,Tryz.ntmps123
  go_upto_region 1 with fail
  clear hw0
  go_wp2_with fail
  with_reducible refine(Za7 _ s _ H0.out).mono ?_
  rintro e1 w1 ⟨rfl,hb1⟩;rw[hchk.out];have BF:=Za (HB0.out.trans (hb1.mono HB0.out.size));clear hb1
  go_wp2_with fail
  go_ret2
  exact⟨_,rfl,Zaa _ _,BF.out⟩}
def Zbo (b:List UInt8):Nat:=(b[11]?.getD 0).toNat
theorem Zqh (b:List UInt8):Zbo b<256:=(b[11]?.getD 0).toNat_lt
def okC (b:List UInt8):Bool:=decide (12+Zbo b<=b.length)
def Z26 (b:List UInt8):List UInt8:=if okC b then (b.drop 12).take (Zbo b) else []
def Ztb (b:List UInt8):Int:=if okC b then 0 else 8
def Y9 (b:List UInt8):It:=((b[0]?.getD 0,gv 4 b 1,gv 4 b 5),gv 2 b 9,(b.drop 12).take (Zbo b))
def Zqu (b:List UInt8):It:=if okC b then Y9 b else Zaw
theorem Zbj {b:List UInt8}(h:okC b=true):12+Zbo b<=b.length:=by simpa [okC] using h
theorem Z1e {b:List UInt8}(h:okC b=false):¬ 12+Zbo b<=b.length:=by simpa [okC] using h
theorem Zga (b:List UInt8):InI (Y9 b):=⟨⟨Z1u _ _,Z1u _ _⟩,Z57 _ _⟩
theorem Zjb {b:List UInt8}(h:okC b=true):(Y9 b).2.2.length=Zbo b:=by
 have:=Zbj h;simp[Y9];omega
def okR (b:List UInt8):Bool:=okC b&&Zb0 (Zqu b)
def itR (b:List UInt8):It:=if okR b then Y9 b else Zaw
def itN (b:List UInt8):Int:=if okR b then (12+Zbo b:Int) else 0
def itE (b:List UInt8):Int:=if okR b then 0 else 8
theorem Zkw {ok:P3->Prop}{w:Py}{ad:P3}{n c:Nat}{b:List UInt8}(h:rBy ok w [.slice (some ad) n c] b) (k m cap:Nat) (hk:k+m<=b.length) (hm:m<=cap) (hc:cap<=9223372036854775807):rBy ok w [.slice (some (ad.add k)) m cap] ((b.drop k).take m):=by{
 obtain⟨A,c',e,_,_,h4⟩:=h;cases e;have hl:((b.drop k).take m).length=m:=by simp;omega
 refine⟨some (ad.add k),cap,by rw[hl],by rw[hl];exact hm,hc,fun i x hi=> ?_⟩;have him:i<m:=by rw[<- hl];exact(Ql.1 hi).1
 have hi':b[k+i]? = some x:=by
  rw[List.getElem?_take_of_lt him,Qw] at hi;exact hi
 obtain⟨ad',vs,e1,e2,e3,e4⟩:=h4 (k+i) x hi';cases e1;refine⟨ad.add k,vs,rfl,e2,fun j v hj=> ?_,e4⟩;have:=e3 j v hj;rw[Zmb,show k+(i*1+j)=(k+i)*1+j by omega];exact this}
theorem Vd (ok:P3->Prop) (w:Py) (A:Option P3):rBy ok w [.slice A 0 0] []:=⟨A,0,rfl,by simp,by omega,fun i x h=>by simp at h⟩
theorem Z3m (ok:P3->Prop) (v:Pz) (b:List UInt8) (w:Py) (h:rBy ok w [v] b) :
  P8 Tryz.prog 192 #[v] w fun e w'=>∃ u,e=.returned (.tuple #[u,.int .i64 (Ztb b)])/\rBy ok w' [u] (Z26 b)/\w=w':=by{
 obtain⟨A,c,rfl,l1,m1,hy⟩:=Zm h;obtain⟨n,hn⟩:∃ n,b.length=n:=⟨_,rfl⟩
 have hcn:=Zqh b;cases hok:okC b with
 | false =>
  have hno:=Z1e hok;have hE:=Za (show Ztb b=8 by simp[Ztb,hok]);have hV:=Za (show Z26 b=[] by simp[Z26,hok]);rw[hE.out,hV.out];by_cases h12:n<12
  ·have i1:(n:Int)<12:=by omega
   rw[hn] at l1 ⊢;clear hok hno hn hy h
   go_enter Tryz.func192,Tryz.ntmps192
   go_wp2_with fail
   go_ret2
   exact⟨_,rfl,Vd _ _ _,rfl⟩
  ·obtain⟨ad,rfl,_,hc⟩:=hy 11 (by omega)
   have h11:w.cell? ⟨ad.block,ad.off+11,none⟩=some (.int .u8 (Zbo b:Int)):=by simpa [Addr.add,Zbo] using hc
   obtain⟨k,hk⟩:∃ k,Zbo b=k:=⟨_,rfl⟩
   rw[hk] at h11 hno hcn;rw[hn] at l1 hno ⊢;have i1:¬ (n:Int)<12:=by omega
   have i2:(n:Int)<12+k:=by omega
   clear hok hno hn hy h hc hk
   go_enter Tryz.func192,Tryz.ntmps192
   go_wp2_with fail
   go_ret2
   exact⟨_,rfl,Vd _ _ _,rfl⟩
 | true =>
  have hyes:=Zbj hok;have hE:=Za (show Ztb b=0 by simp[Ztb,hok]);have hV:=Za (show Z26 b=(b.drop 12).take (Zbo b) by simp[Z26,hok]);rw[hE.out,hV.out];obtain⟨ad,rfl,_,hc⟩:=hy 11 (by omega);have h11:w.cell? ⟨ad.block,ad.off+11,none⟩=some (.int .u8 (Zbo b:Int)):=by simpa [Addr.add,Zbo] using hc
  obtain⟨k,hk⟩:∃ k,Zbo b=k:=⟨_,rfl⟩
  rw[hk] at h11 hyes hcn ⊢;rw[hn] at l1 hyes ⊢;have i1:¬ (n:Int)<12:=by omega
  have i2:¬ (n:Int)<12+k:=by omega
  clear hok hE hV hc;rcases Pf k with h0 | h0
  ·subst h0
   rw[Pg]
   go_enter Tryz.func192,Tryz.ntmps192
   go_wp2_with fail
   go_ret2
   exact⟨_,rfl,Vd _ _ _,rfl⟩
  ·have hfin:Hid (rBy ok w [.slice (some ⟨ad.block,ad.off+12,none⟩) k k] ((b.drop 12).take k)):=Za (by
    have h1:ad.add 12=⟨ad.block,ad.off+12,none⟩:=by simp[Addr.add]
    have h2:=Zkw h 12 k k (by omega) (Qd _) (by omega)
    rwa [h1] at h2)
   have h0':¬ k=0:=by omega
   clear hy h hn hk
   go_enter Tryz.func192,Tryz.ntmps192
   go_wp2_with fail
   go_ret2
   exact⟨_,rfl,hfin.out,rfl⟩}
theorem Z5a {a b c:Int}(ha:a=0\/a=8) (hb:b=0\/b=8) (hc:c=0\/c=8):orN [a,b,c,8]=8:=by
 rcases ha with rfl | rfl <;> rcases hb with rfl | rfl <;> rcases hc with rfl | rfl <;> rfl
theorem Zqe (m n:Nat) (k:Int):ge m n k=0\/ge m n k=8:=by
 unfold ge;split
 ·exact Or.inl rfl
 ·exact Or.inr rfl
theorem Zot {e:Int}(h:e=0\/e=8):Zmp e:=by
 rcases h with rfl | rfl <;> exact⟨by decide,by decide⟩
theorem Zpg (ok:P3->Prop) (v:Pz) (b:List UInt8) (w:Py) (hok0:∀ p,ok p->p.block<w.heap.size) (h:rBy ok w [v] b) :
  P8 Tryz.prog 172 #[v] w fun e w'=>∃ u,e=.returned (.tuple #[u,.int .i64 (Ztb b)])/\Itm ok w' u (Zqu b)/\P9 w.heap.size w w':=by{
 obtain⟨A,c,rfl,l1,m1,hy⟩:=Yq (B:=w.heap.size) hok0 h;obtain⟨n,hn⟩:∃ n,b.length=n:=⟨_,rfl⟩
 have hin:=Za (Zga b);have HO:=Za hok0;have hhead:okC b=true->∃ ad,A=some ad/\Old w ad/\w.cell? ad=some (.int .u8 ((b[0]?.getD 0).toNat:Int)):=fun hk=>by
  have:=Zbj hk;obtain⟨ad,rfl,hb,hc⟩:=hy (by omega);exact⟨ad,rfl,hb,by have:=hc 0 (by omega);simpa [Addr.add] using this⟩
 replace hhead:=Za hhead;have hF:Hid (Zqu b=if okC b then Y9 b else Zaw):=Za rfl;have hE:Hid (Ztb b=if okC b then 0 else 8):=Za rfl;have hV:Hid (Z26 b=if okC b then (b.drop 12).take (Zbo b) else []):=Za rfl;have hg1:=Zqe 4 n 1;have hg2:=Zqe 4 n 5;have hg3:=Zqe 2 n 9
 have hgy:Hid (okC b=true->ge 4 n 1=0/\ge 4 n 5=0/\ge 2 n 9=0):=Za (fun hk=>by
  have:=Zbj hk
  exact⟨Zdm (by omega),Zdm (by omega),Zdm (by omega)⟩)
 rw[hn] at l1 h ⊢;have HL:=Za hn;have HY:=Za hy;have HV:=Za h;obtain⟨w0,hw0,_,_,_,_,_,hs0,hB0,b0⟩:=Z6 w (.int .u8 0) (.int .u32 0) (.int .u32 0) (.int .i64 0) (.slice none 0 0) 54;have lt0:w.heap.size<w0.heap.size:=by omega
 have HB0:=Za hB0;replace b0:=Za b0;replace hw0:=Za hw0;obtain⟨x0,hx0⟩:∃ x,b[0]?.getD 0=x:=⟨_,rfl⟩
 obtain⟨x1,hx1⟩:∃ x,gv 4 b 1=x:=⟨_,rfl⟩
 obtain⟨x2,hx2⟩:∃ x,gv 4 b 5=x:=⟨_,rfl⟩
 obtain⟨x3,hx3⟩:∃ x,gv 2 b 9=x:=⟨_,rfl⟩
 obtain⟨e1,he1⟩:∃ x,ge 4 n 1=x:=⟨_,rfl⟩
 obtain⟨e2,he2⟩:∃ x,ge 4 n 5=x:=⟨_,rfl⟩
 obtain⟨e3,he3⟩:∃ x,ge 2 n 9=x:=⟨_,rfl⟩
 rw[hx0] at hhead;rw[he1] at hg1 hgy;rw[he2] at hg2 hgy;rw[he3] at hg3 hgy;have hFE:=Za (show Y9 b=((x0,x1,x2),x3,(b.drop 12).take (Zbo b)) by rw[<- hx0,<- hx1,<- hx2,<- hx3];rfl);replace hx0:=Za hx0;replace hx1:=Za hx1;replace hx2:=Za hx2;replace hx3:=Za hx3;replace he1:=Za he1;replace he2:=Za he2;replace he3:=Za he3;replace hg1:=Za hg1;replace hg2:=Za hg2;replace hg3:=Za hg3;clear hB0 hs0 h hy hn hok0
 go_enter Tryz.func172,Tryz.ntmps172
 go_upto_region 1 with fail
 rw[hw0.out];clear hw0
 go_wp2_with fail
 with_reducible refine(Zhi _ n c 1 b HL l1 m1 _ ((HY.out.below HB0.out).more HB0.out.size)).mono ?_
 rintro f1 w1 ⟨rfl,hb1⟩;rw[he1.out,hx1.out];have B1:=Za (HB0.out.trans (hb1.mono HB0.out.size));have C1:=Za hb1;clear hb1
 go_wp2_with fail
 with_reducible refine(Zhi _ n c 5 b HL l1 m1 _ ((HY.out.below B1.out).more B1.out.size)).mono ?_
 rintro f2 w2 ⟨rfl,hb2⟩;rw[he2.out,hx2.out];have B2:=Za (B1.out.trans (hb2.mono B1.out.size));have C2:=Za (C1.out.trans (hb2.mono C1.out.size));clear hb2
 go_wp2_with fail
 with_reducible refine(Zt9 _ n c 9 b HL l1 m1 _ ((HY.out.below B2.out).more B2.out.size)).mono ?_
 rintro f3 w3 ⟨rfl,hb3⟩;rw[he3.out,hx3.out];have B3:=Za (B2.out.trans (hb3.mono B2.out.size));have C3:=Za (C2.out.trans (hb3.mono C2.out.size));clear hb3
 go_wp2_with fail
 have hv3:Hid (rBy ok w3 [.slice A n c] b):=Za (Zf _ _ _ _ _ _ (fun p v hp hc=>⟨hp,(B3.out.cell (HO.out p hp)).trans hc⟩) HV.out);with_reducible refine(Z3m ok _ b _ hv3.out).mono ?_
 rintro f4 w4 ⟨u,rfl,hu,rfl⟩;cases hok:okC b with
 | false =>
  have hq:=Za (show Ztb b=8 by rw[hE.out,hok];rfl);have hz:=Za (show Zqu b=Zaw by rw[hF.out,hok];rfl);rw[hq.out];obtain⟨w6,hw6,h6⟩:∃ w6,w3.alloc (.cells #[.int .i64 e1,.int .i64 e2,.int .i64 e3,.int .i64 8] 33)=w6/\Zlu (Old w6) w6 [.slice (some ⟨w3.heap.size,0,none⟩) 4 4] [e1,e2,e3,8] :=
   ⟨_,rfl,Zmi w3 33 [e1,e2,e3,8] _ rfl (by simp) (fun x hx=>by
    simp at hx;rcases hx with rfl | rfl | rfl | rfl
    ·exact Zot hg1.out
    ·exact Zot hg2.out
    ·exact Zot hg3.out
    ·exact⟨by decide,by decide⟩)⟩
  have b6:P9 w3.heap.size w3 w6:=by rw[<- hw6];exact(Qb _ _).alloc (Qd _) _
  have B6:=Za (B3.out.trans (b6.mono B3.out.size));have C6:=Za (C3.out.trans (b6.mono C3.out.size));have hor:=Za (Z5a hg1.out hg2.out hg3.out);replace h6:=Za h6;replace hok:=Za hok;obtain⟨_,_,rfl,_⟩:=id (Zm hu);clear b6 hu
  go_wp2_with fail
  with_reducible refine(Z1m _ [e1,e2,e3,8] _ h6.out).mono ?_
  rintro f7 w7 ⟨rfl,rfl⟩;rw[hor.out];clear hw6;have b9:=(C6.out.block w.heap.size lt0).trans b0.out;obtain⟨W9,hW9,g9,gr9,gs9⟩:=Y5 (u0:=.int .u8 0) (u1:=.int .u32 0) (u2:=.int .u32 0) (u3:=.int .i64 0) (u4:=.slice none 0 0) b9;obtain⟨k0,k1,k2,k3,k4,_,_⟩:=Zl g9;obtain⟨a0,a1,a2,a3,a4,af,_⟩:=Zl b9;have B9:=Za (B6.out.grown gr9 B6.out.size (fun q e=>by cases e;omega));replace b9:=Za b9;clear g9 gr9
  go_wp2_with fail
  exact P5 (v:=.tuple #[.agg #[.int .u8 0,.int .u32 0,.int .u32 0,.int .i64 0,.slice none 0 0],.int .i64 8]) (by simp[results,Tryz.results172,go_sem,k0,k1,k2,k3,k4]) rfl ⟨_,Zli hq.out.symm,by rw[hz.out];exact Ug _ _,B9.out⟩
 | true =>
  have hq:=Za (show Ztb b=0 by rw[hE.out,hok];rfl);have hz:=Za (show Zqu b=Y9 b by rw[hF.out,hok];rfl);have hv:=Za (show Z26 b=(b.drop 12).take (Zbo b) by rw[hV.out,hok];rfl);obtain⟨rfl,rfl,rfl⟩:=hgy.out hok;obtain⟨ad,rfl,Zno,hcell⟩:=hhead.out hok;rw[hq.out];rw[hv.out] at hu;obtain⟨L,hL⟩:∃ L,(b.drop 12).take (Zbo b)=L:=⟨_,rfl⟩
  rw[hL] at hu;have hFL:=hFE.out;rw[hL] at hFL;replace hFL:=Za hFL;replace hL:=Za hL;obtain⟨w6,hw6,h6⟩:∃ w6,w3.alloc (.cells #[.int .i64 0,.int .i64 0,.int .i64 0,.int .i64 0] 33)=w6/\Zlu (Old w6) w6 [.slice (some ⟨w3.heap.size,0,none⟩) 4 4] [0,0,0,0] :=
   ⟨_,rfl,Zmi w3 33 [0,0,0,0] _ rfl (by simp) (fun x hx=>by
    simp at hx;subst hx
    exact⟨by decide,by decide⟩)⟩
  have b6:P9 w3.heap.size w3 w6:=by rw[<- hw6];exact(Qb _ _).alloc (Qd _) _
  have B6:=Za (B3.out.trans (b6.mono B3.out.size));have C6:=Za (C3.out.trans (b6.mono C3.out.size));have hor:Hid (orN [0,0,0,0]=0):=Za rfl;have hu6:Hid (rBy ok w6 _ L):=Za (Zf _ _ _ _ _ _ (fun p v hp hc=>⟨hp,(b6.cell (Qc (HO.out p hp) B3.out.size)).trans hc⟩) hu);have hn0:=Zbj hok;have hnn:0<n:=by have:=HL.out;omega
  replace h6:=Za h6;replace hok:=Za hok;obtain⟨D,dc,rfl,_⟩:=id (Zm hu);clear b6 hu hn0
  go_wp2_with fail
  with_reducible refine(Z1m _ [0,0,0,0] _ h6.out).mono ?_
  rintro f7 w7 ⟨rfl,rfl⟩;rw[hor.out];clear hw6;have c0:=(B6.out.cell Zno).trans hcell;have b9:=(C6.out.block w.heap.size lt0).trans b0.out;obtain⟨W9,hW9,g9,gr9,gs9⟩:=Y5 (u0:=.int .u8 (x0.toNat:Int)) (u1:=.int .u32 x1) (u2:=.int .u32 x2) (u3:=.int .i64 x3) (u4:=.slice D L.length dc) b9;obtain⟨k0,k1,k2,k3,k4,_,_⟩:=Zl g9;obtain⟨a0,a1,a2,a3,a4,af,_⟩:=Zl b9;have B9:=Za (B6.out.grown gr9 B6.out.size (fun q e=>by cases e;omega))
  have hfin:Hid (Itm ok W9 (.agg #[.int .u8 (x0.toNat:Int),.int .u32 x1,.int .u32 x2,.int .i64 x3,.slice D L.length dc]) (Zqu b)):=Za (by
   have h2:=hin.out;rw[hFL.out] at h2;rw[hz.out,hFL.out];refine⟨_,rfl,h2,Zf _ _ _ _ _ _ (fun p v hp hc=>⟨hp,?_⟩) hu6.out⟩;have hb:=gr9.block p.block (Qc (HO.out p hp) B6.out.size) (fun e=>by have h1:=Option.some.inj e;have h2:p.block<w.heap.size:=HO.out p hp;omega)
   exact(Q3 hb).trans hc)
  replace b9:=Za b9;replace Zno:=Za Zno;clear g9 gr9 hcell
  go_wp2_with fail
  exact P5 (v:=.tuple #[.agg #[.int .u8 (x0.toNat:Int),.int .u32 x1,.int .u32 x2,.int .i64 x3,.slice D L.length dc],.int .i64 0]) (by simp[results,Tryz.results172,go_sem,k0,k1,k2,k3,k4]) rfl ⟨_,Zli hq.out.symm,hfin.out,B9.out⟩}
theorem Ux (b:Bool):b=false\/b=true:=by cases b <;> simp
theorem Zfo {b:List UInt8}(h:okR b=true):okC b=true/\Zb0 (Zqu b)=true:=by simpa [okR] using h
theorem Ztv (v:Pz) (b:List UInt8) (w:Py) (h:rBy (Old w) w [v] b) :
  P8 Tryz.prog 148 #[v] w fun e w'=>∃ u,e=.returned (.tuple #[u,.int .i64 (itN b),.int .i64 (itE b)])/\Itm (New w.heap.size w') w' u (itR b)/\P9 w.heap.size w w':=by{
 obtain⟨A,c,rfl,_⟩:=id (Zm h);obtain⟨n,hn⟩:∃ n,b.length=n:=⟨_,rfl⟩
 have hE:Hid (itE b=if okR b then 0 else 8):=Za rfl;have hN:Hid (itN b=if okR b then (12+Zbo b:Int) else 0):=Za rfl;have hR:Hid (itR b=if okR b then Y9 b else Zaw):=Za rfl;have hO:Hid (okR b=(okC b&&Zb0 (Zqu b))):=Za rfl;obtain⟨w0,hw0,_,_,_,_,_,hs0,hB0,b0⟩:=Z6 w (.int .u8 0) (.int .u32 0) (.int .u32 0) (.int .i64 0) (.slice none 0 0) 54;have lt0:w.heap.size<w0.heap.size:=by omega
 have HV:Hid (rBy (Old w) w0 [.slice A b.length c] b):=Za (Zf _ _ _ _ _ _ (fun p v hp hc=>⟨hp,(hB0.cell hp).trans hc⟩) h);have HB0:=Za hB0;replace b0:=Za b0;replace hw0:=Za hw0;rw[hn] at HV ⊢;replace hn:=Za hn;clear hB0 hs0 h
 go_enter Tryz.func148,Tryz.ntmps148
 go_upto_region 1 with fail
 rw[hw0.out];clear hw0
 go_wp2_with fail
 with_reducible refine(Zpg (Old w) _ b _ (fun p hp=>Qv hp lt0) HV.out).mono ?_
 rintro f1 w1 ⟨u,rfl,hu,hb1⟩;have B1:=Za (HB0.out.trans (hb1.mono HB0.out.size));have C1:=Za hb1;have b1:=(hb1.block w.heap.size lt0).trans b0.out;have lt1:w.heap.size<w1.heap.size:=Qc lt0 hb1.size;have hF:Hid (Zqu b=if okC b then Y9 b else Zaw):=Za rfl;obtain⟨s,hs⟩:∃ s,Zqu b=s:=⟨_,rfl⟩
 rw[hs] at hu hO hF;replace hs:=Za hs;have hin:=hu.open;obtain⟨D,dc,rfl,hin,d1,d2,hu2⟩:=hin;obtain⟨W2,hW2,g2,gr2,gs2⟩:=Y5 (u0:=.int .u8 (s.1.1.toNat:Int)) (u1:=.int .u32 s.1.2.1) (u2:=.int .u32 s.1.2.2) (u3:=.int .i64 s.2.1) (u4:=.slice D s.2.2.length dc) b1;obtain⟨a0,a1,a2,a3,a4,af,_⟩:=Zl b1;obtain⟨k0,k1,k2,k3,k4,kf,_⟩:=Zl g2;have B2:=Za (B1.out.grown gr2 B1.out.size (fun q e=>by cases e;omega))
 have hu3:Hid (Itm (Old w) W2 (itV s (.slice D s.2.2.length dc)) s):=Za (by
  refine⟨_,rfl,hin,Zf _ _ _ _ _ _ (fun p v hp hc=>⟨hp,?_⟩) hu2⟩
  exact(Q3 (gr2.block p.block (Qv hp lt1) (fun e=>by have h1:=Option.some.inj e;have h2:p.block<w.heap.size:=hp;omega))).trans hc)
 have hfinB:∀ (W:Py),P9 W2.heap.size W2 W->okR b=false->∃ W9:Py,(((((W.setCell ⟨w.heap.size,0,none⟩ (.int .u8 0)).setCell ⟨w.heap.size,1,none⟩ (.int .u32 0)).setCell ⟨w.heap.size,2,none⟩ (.int .u32 0)).setCell ⟨w.heap.size,3,none⟩ (.int .i64 0)).setCell ⟨w.heap.size,4,none⟩ (.slice none 0 0))=W9 /\
   W9.heap[w.heap.size]? = some (.cells #[.int .u8 0,.int .u32 0,.int .u32 0,.int .i64 0,.slice none 0 0] 54 (0,0))/\Hid (itE b=8/\itN b=0/\itR b=Zaw/\P9 w.heap.size w W9):=fun W hW hno=>by
  obtain⟨W9,hW9,g9,gr9,gs9⟩:=Y5 (u0:=.int .u8 0) (u1:=.int .u32 0) (u2:=.int .u32 0) (u3:=.int .i64 0) (u4:=.slice none 0 0) ((hW.block w.heap.size (by omega)).trans g2);have B:=B2.out.trans (hW.mono B2.out.size);exact⟨W9,hW9,g9,Za ⟨by rw[hE.out,hno];rfl,by rw[hN.out,hno];rfl,by rw[hR.out,hno];rfl,B.grown gr9 B.size (fun q e=>by cases e;omega)⟩⟩
 replace hfinB:=Za hfinB;replace b1:=Za b1;replace g2:=Za g2;replace gs2:=Za gs2;replace gr2:=Za gr2;clear hu hu2 hb1;rcases Ux (okC b) with hok | hok
 ·skip
  have hq:=Za (show Ztb b=8 by simp[Ztb,hok]);have hno:okR b=false:=by simp[okR,hok]
  obtain⟨W9,hW9,g9,hz⟩:=hfinB.out W2 (Qb _ _) hno;obtain⟨m0,m1,m2,m3,m4,_,_⟩:=Zl g9;rw[hq.out];replace hok:=Za hok;replace hno:=Za hno;replace g9:=Za g9
  go_wp2_with fail
  exact P5 (v:=.tuple #[.agg #[.int .u8 0,.int .u32 0,.int .u32 0,.int .i64 0,.slice none 0 0],.int .i64 0,.int .i64 8]) (by simp[results,Tryz.results148,go_sem,m0,m1,m2,m3,m4]) rfl ⟨_,by rw[hz.out.1,hz.out.2.1],by rw[hz.out.2.2.1];exact Ug _ _,hz.out.2.2.2⟩
 ·skip
  have hq:=Za (show Ztb b=0 by simp[Ztb,hok]);have hsf:=Za (show s=Y9 b by rw[hF.out,hok];rfl);have hcl:s.2.2.length=Zbo b:=by rw[hsf.out];exact Zjb hok
  have hcn:=Zqh b;rw[hq.out];have hO2:=Za (show okR b=Zb0 s by rw[hO.out,hok];rfl);replace hok:=Za hok;replace hcl:=Za hcl
  go_wp2_with fail
  with_reducible refine(Za7 _ s _ (hu3.out.map fun p v hp hc=>⟨Qv hp (by have:=gs2.out;have:=C1.out.size;omega),hc⟩)).mono ?_
  rintro f2 w3 ⟨rfl,hb3⟩;have C3:=Za hb3;have lt2:w.heap.size<W2.heap.size:=by have:=gs2.out;omega
  have b3:=(hb3.block w.heap.size lt2).trans g2.out;obtain⟨q0,q1,q2,q3,q4,qf,_⟩:=Zl b3;clear k0 k1 k2 k3 k4 kf;have B3:=Za (B2.out.trans (hb3.mono B2.out.size));rcases Ux (Zb0 s) with hm | hm
  ·skip
   obtain⟨W9,hW9,g9,hz⟩:=hfinB.out w3 C3.out (by rw[hO2.out,hm]);obtain⟨m0,m1,m2,m3,m4,_,_⟩:=Zl g9;have hck:=Za (Ue hm);rw[hck.out];replace hm:=Za hm;replace g9:=Za g9;replace b3:=Za b3;clear hb3
   go_wp2_with fail
   exact P5 (v:=.tuple #[.agg #[.int .u8 0,.int .u32 0,.int .u32 0,.int .i64 0,.slice none 0 0],.int .i64 0,.int .i64 8]) (by simp[results,Tryz.results148,go_sem,m0,m1,m2,m3,m4]) rfl ⟨_,by rw[hz.out.1,hz.out.2.1],by rw[hz.out.2.2.1];exact Ug _ _,hz.out.2.2.2⟩
  ·skip
   have hck:=Za (Zcc hm);have hyes:okR b=true:=by rw[hO2.out,hm]
   have hE9:=Za (show itE b=0 by rw[hE.out,hyes];rfl);have hN9:=Za (show itN b=12+s.2.2.length by rw[hN.out,hyes,hcl.out];rfl);have hR9:=Za (show itR b=s by rw[hR.out,hyes,hsf.out];rfl);have h12:s.2.2.length<=12:=(Zax hm).2
   have hu4:Hid (Itm (Old w3) w3 (itV s (.slice D s.2.2.length dc)) s):=Za (hu3.out.map fun p v hp hc=>by
    have h1:p.block<W2.heap.size:=Qv hp (by have:=gs2.out;have:=C1.out.size;omega)
    exact⟨Qc h1 hb3.size,(hb3.cell h1).trans hc⟩)
   have lt3:w.heap.size<w3.heap.size:=Qc lt2 hb3.size;rw[hck.out];replace hm:=Za hm;replace hyes:=Za hyes;replace b3:=Za b3;clear hb3 a0 a1 a2 a3 a4 af
   go_wp2_with fail
   have HT:Hid (∀ W,P9 w3.heap.size w3 W->P8 Tryz.prog 173 #[itV s (.slice D s.2.2.length dc)] W fun e w'=>∃ X xc,e=.returned (itV s (.slice X s.2.2.length xc))/\Itm (New w3.heap.size w') w' (itV s (.slice X s.2.2.length xc)) s/\P9 w3.heap.size w3 w'):=Za fun W hC=>by
    refine(Zxp _ s W (by omega) (hu4.out.below hC)).mono ?_;rintro e W' ⟨x,rfl,hx,hb⟩;obtain⟨X,xc,rfl,_⟩:=id hx.open;exact⟨X,xc,rfl,hx.map fun p v hp hc=>⟨⟨Qf hC.size hp.1,hp.2⟩,hc⟩,hC.trans (hb.mono hC.size)⟩
   have hdr:P9 w3.heap.size w3 w3.drew:=(Qb _ _).drew;have hwr:IntKind.i64.wrap (12+(s.2.2.length:Int))=12+s.2.2.length:=by rw[IntKind.wrap_i64];omega
   go_region_with (first
    | (go_at_call 173;refine(HT.out _ hdr).mono ?_;rintro e' wm ⟨X,xc,rfl,hx,hw⟩;have bW:=(hw.block w.heap.size lt3).trans b3.out;obtain⟨c0,c1,c2,c3,c4,cf,_⟩:=Zl bW))
   all_goals
    (go_wp2_with fail
     obtain⟨W9,hW9,g9,gr9,gs9⟩:=Y5 (u0:=.int .u8 (s.1.1.toNat:Int)) (u1:=.int .u32 s.1.2.1) (u2:=.int .u32 s.1.2.2) (u3:=.int .i64 s.2.1) (u4:=.slice X s.2.2.length xc) bW;obtain⟨m0,m1,m2,m3,m4,_,_⟩:=Zl g9;rw[hW9];have BW:=B3.out.trans (hw.mono B3.out.size)
     exact P5 (v:=.tuple #[.agg #[.int .u8 (s.1.1.toNat:Int),.int .u32 s.1.2.1,.int .u32 s.1.2.2,.int .i64 s.2.1,.slice X s.2.2.length xc],.int .i64 (12+s.2.2.length),.int .i64 0]) (by simp[results,Tryz.results148,go_sem,m0,m1,m2,m3,m4]) rfl ⟨_,by rw[hE9.out,hN9.out],by
      rw[hR9.out]
      exact(hx.grown gr9 (fun q e=>by cases e;omega)).map fun p v hp hc=>⟨⟨Qf B3.out.size hp.1,hp.2⟩,hc⟩,BW.grown gr9 BW.size (fun q e=>by cases e;omega)⟩)}
theorem Zoh (v:Pz) (b:List UInt8) (w:Py) (h:rBy (Old w) w [v] b) :
  P8 Tryz.prog 138 #[v] w fun e w'=>∃ u,e=.returned (.tuple #[u,.int .i64 (itN b),.int .i64 (itE b)])/\Itm (New w.heap.size w') w' u (itR b)/\P9 w.heap.size w w':=by{
 obtain⟨A,c,rfl,l1,m1,hy⟩:=Yq (B:=w.heap.size) (fun p hp=>hp) h;obtain⟨n,hn⟩:∃ n,b.length=n:=⟨_,rfl⟩
 have hE:Hid (itE b=if okR b then 0 else 8):=Za rfl;have hN:Hid (itN b=if okR b then (12+Zbo b:Int) else 0):=Za rfl;have hR:Hid (itR b=if okR b then Y9 b else Zaw):=Za rfl;obtain⟨w0,hw0,_,_,_,_,_,hs0,hB0,b0⟩:=Z6 w (.int .u8 0) (.int .u32 0) (.int .u32 0) (.int .i64 0) (.slice none 0 0) 54;have lt0:w.heap.size<w0.heap.size:=by omega
 have hbad:okR b=false->∃ u,Ending.returned (Value.tuple #[.agg #[.int .u8 0,.int .u32 0,.int .u32 0,.int .i64 0,.slice none 0 0],.int .i64 0,.int .i64 8])=Ending.returned (Value.tuple #[u,.int .i64 (itN b),.int .i64 (itE b)])/\∀ (ok:P3->Prop) (W:Py),Itm ok W u (itR b):=fun hno =>
  ⟨_,by rw[hE.out,hN.out,hno];rfl,fun ok W=>by rw[hR.out,hno];exact Ug _ _⟩
 replace hbad:=Za hbad;have HB0:=Za hB0;have hcn:=Zqh b;rcases Ux (okC b) with hok | hok
 ·have hno:=Z1e hok
  obtain⟨u,hu1,hu2⟩:=hbad.out (by simp[okR,hok]);obtain⟨W9,hW9,g9,gr9,gs9⟩:=Y5 (u0:=.int .u8 0) (u1:=.int .u32 0) (u2:=.int .u32 0) (u3:=.int .i64 0) (u4:=.slice none 0 0) b0;obtain⟨k0,k1,k2,k3,k4,_,_⟩:=Zl g9;obtain⟨a0,a1,a2,a3,a4,af,_⟩:=Zl b0;have B9:=Za (HB0.out.grown gr9 HB0.out.size (fun q e=>by cases e;omega));replace g9:=Za g9;replace b0:=Za b0;replace hu1:=Za hu1;replace hu2:=Za hu2;replace hw0:=Za hw0;by_cases h12:n<12
  ·have i1:(n:Int)<12:=by omega
   rw[hn] at l1 ⊢;clear hok hno hn hy h hB0 hs0 gr9 gs9
   go_enter Tryz.func138,Tryz.ntmps138
   go_upto_region 1 with fail
   rw[hw0.out];clear hw0
   go_wp2_with fail
   exact P5 (v:=.tuple #[.agg #[.int .u8 0,.int .u32 0,.int .u32 0,.int .i64 0,.slice none 0 0],.int .i64 0,.int .i64 8]) (by simp[results,Tryz.results138,go_sem,k0,k1,k2,k3,k4]) rfl ⟨u,hu1.out,hu2.out _ _,B9.out⟩
  ·obtain⟨ad,rfl,hb,hc⟩:=hy (by omega)
   have h11:w0.cell? ⟨ad.block,ad.off+11,none⟩=some (.int .u8 (Zbo b:Int)):=by
    have:=(hB0.cell (p:=ad.add 11) (by rw[Zh];exact hb)).trans (hc 11 (by omega))
    simpa [Addr.add,Zbo] using this
   obtain⟨k,hk⟩:∃ k,Zbo b=k:=⟨_,rfl⟩
   rw[hk] at h11 hno hcn;rw[hn] at l1 hno ⊢;have i1:¬ (n:Int)<12:=by omega
   have i2:(n:Int)-12<k:=by omega
   clear hok hno hn hy h hc hk hB0 hs0 gr9 gs9
   go_enter Tryz.func138,Tryz.ntmps138
   go_upto_region 1 with fail
   rw[hw0.out];clear hw0
   go_wp2_with fail
   exact P5 (v:=.tuple #[.agg #[.int .u8 0,.int .u32 0,.int .u32 0,.int .i64 0,.slice none 0 0],.int .i64 0,.int .i64 8]) (by simp[results,Tryz.results138,go_sem,k0,k1,k2,k3,k4]) rfl ⟨u,hu1.out,hu2.out _ _,B9.out⟩
 have hyes:=Zbj hok;obtain⟨ad,rfl,hb,hc⟩:=hy (by omega);have h11:w0.cell? ⟨ad.block,ad.off+11,none⟩=some (.int .u8 (Zbo b:Int)):=by
  have:=(hB0.cell (p:=ad.add 11) (by rw[Zh];exact hb)).trans (hc 11 (by omega))
  simpa [Addr.add,Zbo] using this
 have h00:w0.cell? ad=some (.int .u8 ((b[0]?.getD 0).toNat:Int)):=by
  have:=(hB0.cell (p:=ad) hb).trans (by simpa [Addr.add] using hc 0 (by omega));exact this
 have hin:=Za (Zga b);obtain⟨k,hk⟩:∃ k,Zbo b=k:=⟨_,rfl⟩
 obtain⟨x0,hx0⟩:∃ x:Int,((b[0]?.getD 0).toNat:Int)=x:=⟨_,rfl⟩
 obtain⟨x1,hx1⟩:∃ x,gv 4 b 1=x:=⟨_,rfl⟩
 obtain⟨x2,hx2⟩:∃ x,gv 4 b 5=x:=⟨_,rfl⟩
 obtain⟨x3,hx3⟩:∃ x,gv 2 b 9=x:=⟨_,rfl⟩
 obtain⟨L,hL⟩:∃ L,(b.drop 12).take k=L:=⟨_,rfl⟩
 have hF:=Za (show Y9 b=((b[0]?.getD 0,x1,x2),x3,L) by rw[<- hx1,<- hx2,<- hx3,<- hL,<- hk];rfl);rw[hx0] at h00;rw[hk] at h11 hyes hcn;rw[hn] at l1 hyes ⊢;have e1:=Za (show ge 4 n 1=0 from Zdm (by omega));have e2:=Za (show ge 4 n 5=0 from Zdm (by omega));have e3:=Za (show ge 2 n 9=0 from Zdm (by omega));have i1:¬ (n:Int)<12:=by omega
 have i2:¬ (n:Int)-12<k:=by omega
 have i3:0<n:=by omega
 have HL:=Za hn;have HY:=Za hy;have HV:=Za h;have hOK:Hid (okR b=Zb0 (Y9 b)):=Za (by simp[okR,hok,Zqu]);replace hok:=Za hok;replace hx0:=Za hx0;replace hx1:=Za hx1;replace hx2:=Za hx2;replace hx3:=Za hx3;replace hk:=Za hk;replace hL:=Za hL;replace hw0:=Za hw0;replace b0:=Za b0;obtain⟨w2,hw2,_,_,_,_,_,hs2,hB2,b2⟩:=Z6 w0 (.int .u8 x0) (.int .u32 0) (.int .u32 0) (.int .i64 0) (.slice none 0 0) 54;have lt2:w0.heap.size<w2.heap.size:=by omega
 have C2:=Za hB2;have B2:=Za (HB0.out.trans (hB2.mono HB0.out.size));replace hw2:=Za hw2;clear hs0 hs2 hB0 hB2 h hy hc hn
 go_enter Tryz.func138,Tryz.ntmps138
 go_upto_region 1 with fail
 rw[hw0.out];clear hw0
 go_upto_region 4 with fail
 rw[hw2.out];clear hw2
 go_wp2_with fail
 with_reducible refine(Zgn (some ad) n c 1 b HL l1 m1 _ ((HY.out.below B2.out).more B2.out.size)).mono ?_
 rintro f3 w3 ⟨rfl,hb3⟩;rw[e1.out,hx1.out];have b3:=(hb3.block w0.heap.size lt2).trans b2;obtain⟨w4,hw4,b4,gr4,gs4⟩:=Z4w b3 (.int .u32 x1);obtain⟨_,z3,_,_,_,zf,_⟩:=Zl b3;have C4:=Za ((C2.out.trans (hb3.mono C2.out.size)).grown gr4 (Qf C2.out.size hb3.size) (fun q e=>by cases e;omega));have lt4:w0.heap.size<w4.heap.size:=by have:=hb3.size;omega
 clear hb3 gr4;replace gs4:=Za gs4;replace b3:=Za b3;replace b4:=Za b4
 go_upto_region 5 with fail
 clear hw4 z3 zf b2 b3
 go_wp2_with fail
 with_reducible refine(Zgn (some ad) n c 5 b HL l1 m1 _ ((HY.out.below (HB0.out.trans (C4.out.mono HB0.out.size))).more (Qf HB0.out.size C4.out.size))).mono ?_
 rintro f5 w5 ⟨rfl,hb5⟩;rw[e2.out,hx2.out];have b5:=(hb5.block w0.heap.size lt4).trans b4.out;obtain⟨w6,hw6,b6,gr6,gs6⟩:=Z4s b5 (.int .u32 x2);obtain⟨_,_,z3,_,_,zf,_⟩:=Zl b5;have C6:=Za ((C4.out.trans (hb5.mono C4.out.size)).grown gr6 (Qf C4.out.size hb5.size) (fun q e=>by cases e;omega));have lt6:w0.heap.size<w6.heap.size:=by have:=hb5.size;omega
 clear hb5 gr6;replace gs6:=Za gs6;replace b5:=Za b5;replace b6:=Za b6
 go_upto_region 6 with fail
 clear hw6 z3 zf b4 b5
 go_wp2_with fail
 with_reducible refine(Zo8 (some ad) n c 9 b HL l1 m1 _ ((HY.out.below (HB0.out.trans (C6.out.mono HB0.out.size))).more (Qf HB0.out.size C6.out.size))).mono ?_
 rintro f7 w7 ⟨rfl,hb7⟩;rw[e3.out,hx3.out];have b7:=(hb7.block w0.heap.size lt6).trans b6.out;obtain⟨w8,hw8,b8,gr8,gs8⟩:=Z5h b7 (.int .i64 x3);obtain⟨_,_,_,z3,_,zf,_⟩:=Zl b7;have C8:=Za ((C6.out.trans (hb7.mono C6.out.size)).grown gr8 (Qf C6.out.size hb7.size) (fun q e=>by cases e;omega));have lt8:w0.heap.size<w8.heap.size:=by have:=hb7.size;omega
 clear hb7 gr8;replace gs8:=Za gs8;replace b7:=Za b7;replace b8:=Za b8;have B8:=Za (HB0.out.trans (C8.out.mono HB0.out.size));have h8:w8.cell? ⟨ad.block,ad.off+11,none⟩=some (.int .u8 (k:Int)):=(C8.out.cell (p:=⟨ad.block,ad.off+11,none⟩) (Qc hb HB0.out.size)).trans h11
 go_upto_region 8 with fail
 clear hw8 z3 zf b6 b7;obtain⟨z0,z1,z2,z3,z4,zf,_⟩:=Zl b8.out;have hV8:=Za (Zf.old HV.out B8.out);have hLl:Hid (L.length=k):=Za (by rw[<- hL.out,Ph,List.length_drop,HL.out];omega);have hsl:Hid (∀ W,P9 w8.heap.size w8 W->rBy (Old W) W [.slice (some ⟨ad.block,ad.off+12,none⟩) k (c-12)] L):=Za fun W hW=>by
  have h1:=Zkw (Zf.old hV8.out hW) 12 k (c-12) (by rw[HL.out];omega) (by omega) (by omega);rw[hL.out] at h1
  rwa [show ad.add 12=⟨ad.block,ad.off+12,none⟩ by simp[Addr.add]] at h1
 have hsl0:Hid (c=12->∀ W,rBy (Old W) W [.slice (some ad) 0 0] L):=Za fun hc W=>by
  have:L=[]:=Pi (by rw[hLl.out];omega);rw[this];exact Vd _ _ _
 replace b8:=Za b8.out
 refine Z1 (by kernel_rfl) 6 (fun W=>P9 w8.heap.size w8 W) (fun i=>match i with
   | 4=>some (fun v W=>rBy (Old W) W [v] L)
   | 5=>some (fun v W=>rBy (New w8.heap.size W) W [v] L)
   | _=>none) (fun _=>none) (by decide) (by kernel_rfl) (by kernel_rfl) (Qb _ _).drew (fun w w' h hb=>h.trans (hb.mono h.size)) ?tst ?_
 case tst =>
  intro j φ x W W' hp hx hb
  match j,hp with
  | 4,hp=>cases hp;exact Zf.old hx hb
  | 5,hp=>cases hp;exact Zf.new hx (Qd _) hb
 simp only[List.take_succ_cons,Pg,Qo,Qg]
 repeat (first
  | (refine wpAs_skip rfl ?_;simp only[Qa,Zb,Zc,Zd])
  | (refine wpAs_pure (v := ?_) rfl rfl ?_ ?_;rotate_left;(intro W hC hE;clear hE;(have y4:=(hC.cell (p:=⟨w0.heap.size,4,none⟩) lt8).trans z4);clear hC;go_simp;first | done | with_reducible rfl);simp only[Qa,Zb,Zc,Zd]))
 refine wpAs_act rfl rfl ?_ ?_
 ·intro W hC hE
  clear hE;have h1:=Za (hsl.out W hC);clear hC;by_cases hc12:c=12
  ·have h2:=Za (hsl0.out hc12 W)
   have hk0:k=0:=by omega
   subst hc12;subst hk0
   go_simp
   exact⟨h2.out,Qb _ _⟩
  ·go_simp
   rw[if_pos (by omega),if_pos (by omega),show (12+(k:Int)).toNat-12=k by omega];exact⟨h1.out,Qb _ _⟩
 simp only[Qa,Zb,Zc,Zd,envAdd];intro x55;refine wpAs_act rfl rfl ?_ ?_
 ·intro W hC hE
  have hx:=hE.1 rfl;obtain⟨u,W',hr,hu,hb⟩:=Zet x55 L W (by rw[hLl.out];omega) hx;exact U9 _ _ _ rfl rfl rfl hr ⟨Zf.mono hu hC.size,hb⟩
 simp only[Qa,Zb,Zc,Zd,envAdd];intro x56;refine wpAs_end fun W hC hE=> ?_
 have hx:=hE.1;clear hE;have B9:=Za (B8.out.trans (hC.mono B8.out.size));have b9:=(hC.block w0.heap.size lt8).trans b8.out;have C9:=Za (C8.out.trans (hC.mono C8.out.size));have b0':=(C9.out.block w.heap.size lt0).trans b0.out;have hx':=Za hx;obtain⟨X,xc,rfl,_⟩:=id (Zm hx);clear hx;obtain⟨W5,hW5,g5,gr5,gs5⟩:=Z5m b9 (.slice X L.length xc);obtain⟨_,_,_,_,y4,yf,_⟩:=Zl b9;clear z0 z1 z2 z3 z4 zf;obtain⟨z0,z1,z2,z3,z4,zf,lt5⟩:=Zl g5;have bR:=Za ((gr5.block w.heap.size (Qc lt0 C9.out.size) (fun e=>by have:=Option.some.inj e;omega)).trans b0');have B5:=Za (B9.out.grown gr5 B9.out.size (fun q e=>by cases e;omega))
 have HI:Hid (Itm (New w0.heap.size W5) W5 (.agg #[.int .u8 x0,.int .u32 x1,.int .u32 x2,.int .i64 x3,.slice X L.length xc]) (Y9 b)):=Za (by
  have h1:=Zf.grown hx'.out gr5 (fun q e=>by cases e;exact lt8);have h2:=hin.out;rw[hF.out] at h2;rw[hF.out,<- hx0.out]
  exact⟨_,rfl,h2,Zf.mono h1 (Qp lt8)⟩)
 replace b9:=Za b9;replace g5:=Za g5;clear gr5 hC b0'
 go_wp2_with fail
 with_reducible refine(Ur _ (Y9 b) _ HI.out.drop).mono ?_
 rintro f6 w6 ⟨rfl,hb6⟩;have B6:=Za (B5.out.trans (hb6.mono B5.out.size));have lt5':w.heap.size<W5.heap.size:=Qv lt0 lt5;have b6:=(hb6.block w.heap.size lt5').trans bR.out;have p0:=(hb6.cell (p:=⟨w0.heap.size,0,none⟩) lt5).trans z0;have p1:=(hb6.cell (p:=⟨w0.heap.size,1,none⟩) lt5).trans z1;have p2:=(hb6.cell (p:=⟨w0.heap.size,2,none⟩) lt5).trans z2;have p3:=(hb6.cell (p:=⟨w0.heap.size,3,none⟩) lt5).trans z3;have p4:=(hb6.cell (p:=⟨w0.heap.size,4,none⟩) lt5).trans z4;obtain⟨a0,a1,a2,a3,a4,af,_⟩:=Zl b6;replace HI:=Za (HI.out.new (Qd _) hb6);clear z0 z1 z2 z3 z4 zf y4 yf hW5 hb6;rcases Ux (Zb0 (Y9 b)) with hm | hm
 ·obtain⟨u,hu1,hu2⟩:=hbad.out (by rw[hOK.out,hm])
  obtain⟨W9,hW9,g9,gr9,gs9⟩:=Y5 (u0:=.int .u8 0) (u1:=.int .u32 0) (u2:=.int .u32 0) (u3:=.int .i64 0) (u4:=.slice none 0 0) b6;obtain⟨m0,m1,m2,m3,m4,_,_⟩:=Zl g9;have BF:=Za (B6.out.grown gr9 B6.out.size (fun q e=>by cases e;omega));rw[hm];replace hm:=Za hm;replace g9:=Za g9;replace b6:=Za b6;replace hu1:=Za hu1;replace hu2:=Za hu2;clear gr9
  go_wp2_with fail
  exact P5 (v:=.tuple #[.agg #[.int .u8 0,.int .u32 0,.int .u32 0,.int .i64 0,.slice none 0 0],.int .i64 0,.int .i64 8]) (by simp[results,Tryz.results138,go_sem,m0,m1,m2,m3,m4]) rfl ⟨u,hu1.out,hu2.out _ _,BF.out⟩
 ·have hyes:okR b=true:=by rw[hOK.out,hm]
  have hE9:=Za (show itE b=0 by rw[hE.out,hyes];rfl);have hN9:=Za (show itN b=12+k by rw[hN.out,hyes,hk.out];rfl);have hR9:=Za (show itR b=Y9 b by rw[hR.out,hyes];rfl);obtain⟨W9,hW9,g9,gr9,gs9⟩:=Y5 (u0:=.int .u8 x0) (u1:=.int .u32 x1) (u2:=.int .u32 x2) (u3:=.int .i64 x3) (u4:=.slice X L.length xc) b6;obtain⟨m0,m1,m2,m3,m4,_,_⟩:=Zl g9;have BF:=Za (B6.out.grown gr9 B6.out.size (fun q e=>by cases e;omega))
  have hfin:Hid (Itm (New w.heap.size W9) W9 (.agg #[.int .u8 x0,.int .u32 x1,.int .u32 x2,.int .i64 x3,.slice X L.length xc]) (itR b)):=Za (by
   rw[hR9.out]
   exact(HI.out.grown gr9 (fun q e=>by cases e;exact lt0)).map fun p v hp hc=>⟨⟨Qf (Qp lt0) hp.1,hp.2⟩,hc⟩)
  rw[hm];replace hm:=Za hm;replace g9:=Za g9;replace b6:=Za b6;replace hyes:=Za hyes;clear gr9
  go_wp2_with fail
  exact P5 (v:=.tuple #[.agg #[.int .u8 x0,.int .u32 x1,.int .u32 x2,.int .i64 x3,.slice X L.length xc],.int .i64 (12+k),.int .i64 0]) (by simp[results,Tryz.results138,go_sem,m0,m1,m2,m3,m4]) rfl ⟨_,by rw[hE9.out,hN9.out],hfin.out,BF.out⟩}
theorem Z2e (m:Nat) (n:Int) (xs ys:List UInt8) (k:Nat) (hk:xs.length=k) (h0:0<=n) (h1:n<256 ^ m):gv m (xs++(le m n++ys)) k=n:=by
 have h:=Ze7 (m:=m) (xs:=xs++(le m n++ys)) (k:=(k:Int)) ⟨by omega,by simp[Yd,hk];omega⟩;rw[h];have e:(k:Int).toNat=xs.length:=by omega
 rw[e,Pj,Pk (Yd m n)];exact Z1r m n h0 h1
theorem Zpp (s:It) (xs:List UInt8) (h:s.2.2.length<=12):Zbo (itB s++xs)=s.2.2.length:=by{
 have e:(itB s++xs)[11]? = some (UInt8.ofNat s.2.2.length):=by
  have:itB s++xs=([s.1.1]++(le 4 s.1.2.1++(le 4 s.1.2.2++le 2 s.2.1)))++(UInt8.ofNat s.2.2.length::(s.2.2++xs)):=by simp[itB]
  rw[this,Q4 (by simp[Yd])];simp[Yd]
 unfold Zbo;rw[e];simp only[Option.getD_some,UInt8.toNat_ofNat'];omega}
theorem Z3z (s:It) (xs:List UInt8) (h:s.2.2.length<=12):okC (itB s++xs)=true:=by
 unfold okC;rw[Zpp s xs h];simp[Um]
theorem Zsx (s:It) (xs:List UInt8) (hi:InI s) (h:Zb0 s=true):Y9 (itB s++xs)=s:=by{
 obtain⟨hr,hl⟩:=Zax h;obtain⟨⟨⟨i0,i1⟩,⟨o0,o1⟩⟩,_⟩:=hi;obtain⟨⟨k,i,o⟩,r,v⟩:=s
 dsimp only at *
 have e0:(itB ((k,i,o),r,v)++xs)[0]?.getD 0=k:=by simp[itB]
 have e1:gv 4 (itB ((k,i,o),r,v)++xs) 1=i:=by
  have:itB ((k,i,o),r,v)++xs=[k]++(le 4 i++(le 4 o++(le 2 r++([UInt8.ofNat v.length]++(v++xs))))):=by simp[itB]
  rw[this];exact Z2e 4 i [k] _ 1 rfl i0 (by simpa using i1)
 have e2:gv 4 (itB ((k,i,o),r,v)++xs) 5=o:=by
  have:itB ((k,i,o),r,v)++xs=([k]++le 4 i)++(le 4 o++(le 2 r++([UInt8.ofNat v.length]++(v++xs)))):=by simp[itB]
  rw[this];exact Z2e 4 o ([k]++le 4 i) _ 5 (by simp[Yd]) o0 (by simpa using o1)
 have e3:gv 2 (itB ((k,i,o),r,v)++xs) 9=r:=by
  have:itB ((k,i,o),r,v)++xs=([k]++(le 4 i++le 4 o))++(le 2 r++([UInt8.ofNat v.length]++(v++xs))):=by simp[itB]
  rw[this];exact Z2e 2 r ([k]++(le 4 i++le 4 o)) _ 9 (by simp[Yd]) (by omega) (by simp;omega)
 have e4:((itB ((k,i,o),r,v)++xs).drop 12).take (Zbo (itB ((k,i,o),r,v)++xs))=v:=by
  rw[Zpp ((k,i,o),r,v) xs hl];have:itB ((k,i,o),r,v)++xs=([k]++(le 4 i++(le 4 o++(le 2 r++[UInt8.ofNat v.length]))))++(v++xs):=by simp[itB]
  rw[this,show (12:Nat)=([k]++(le 4 i++(le 4 o++(le 2 r++[UInt8.ofNat v.length])))).length by simp[Yd],Pj];exact Pk rfl
 unfold Y9;rw[e0,e1,e2,e3,e4]}
theorem Zy6 (s:It) (xs:List UInt8) (hi:InI s) (h:Zb0 s=true):okR (itB s++xs)=true/\itR (itB s++xs)=s/\itN (itB s++xs)=(itB s).length/\itE (itB s++xs)=0:=by
 obtain⟨hr,hl⟩:=Zax h;have h1:=Z3z s xs hl;have h2:=Zsx s xs hi h;have h3:okR (itB s++xs)=true:=by unfold okR Zqu;rw[h1,if_pos rfl,h2,h];rfl
 refine⟨h3,by rw[itR,h3,if_pos rfl,h2],?_,by rw[itE,h3];rfl⟩;rw[itN,h3,if_pos rfl,Zpp s xs hl,Um];omega
theorem Z3n (m:Nat) (b:List UInt8) (k:Nat) (h:k+m<=b.length):le m (gv m b k)=(b.drop k).take m:=by
 rw[Ze7 (k:=(k:Int)) ⟨by omega,by omega⟩,show (k:Int).toNat=k by omega];have hl:((b.drop k).take m).length=m:=by simp;omega
 have:=Zvn ((b.drop k).take m)
 rwa [hl] at this
theorem Z1n (b:List UInt8) (k:Nat) (h:k<b.length):(b.drop k).take 1=[b[k]?.getD 0]:=by
 rw[Pm h,Qe h];rfl
theorem Zl4 {b:List UInt8}(h:okR b=true):∃ n:Nat,itN b=n/\n<=b.length/\Zb0 (itR b)=true/\itB (itR b)=b.take n:=by{
 obtain⟨h1,h2⟩:=Zfo h;have h3:=Zbj h1;have hR:itR b=Y9 b:=by rw[itR,h,if_pos rfl]
 have hf:Zqu b=Y9 b:=by rw[Zqu,h1,if_pos rfl]
 rw[hf] at h2;refine⟨12+Zbo b,by rw[itN,h,if_pos rfl];simp,h3,by rw[hR];exact h2,?_⟩;rw[hR];have l0:=Z1n b 0 (by omega);rw[Qg] at l0;have l1:=Z1n b 11 (by omega);have hlen:((b.drop 12).take (Zbo b)).length=Zbo b:=by simp;omega
 have hc:UInt8.ofNat (Zbo b)=b[11]?.getD 0:=by unfold Zbo;simp
 have g1:=Z3n 4 b 1 (by omega);have g2:=Z3n 4 b 5 (by omega);have g3:=Z3n 2 b 9 (by omega);have ht:b.take (12+Zbo b)=b.take 1++((b.drop 1).take 4++((b.drop 5).take 4++((b.drop 9).take 2++((b.drop 11).take 1++(b.drop 12).take (Zbo b))))):=by
  have q:∀ (j m n:Nat),(b.drop j).take m++(b.drop (j+m)).take n=(b.drop j).take (m+n):=fun j m n=>by
   rw[<- List.drop_drop,List.take_add]
  rw[q 11 1,q 9 2,q 5 4,q 1 4];have:=q 0 1 (4+(4+(2+(1+Zbo b))));rw[Qg,Q5] at this;rw[this]
  congr 1
  omega
 rw[ht,l0,l1];unfold itB Y9
 dsimp only
 rw[hlen,hc];have c1:((1:Nat):Int)=1:=rfl;have c5:((5:Nat):Int)=5:=rfl;have c9:((9:Nat):Int)=9:=rfl;rw[c1] at g1;rw[c5] at g2;rw[c9] at g3;rw[g1,g2,g3]}
def Z5e (g:Nat) (a b c:Pz):Py->Prop:=fun w=>w.cell? ⟨g,0,none⟩=some a/\w.cell? ⟨g,1,none⟩=some b/\w.cell? ⟨g,2,none⟩=some c/\g<w.heap.size
theorem Zdd (g:Nat) (a b c:Pz):Zd3 (Z5e g a b c):=fun _ _ h hb=>⟨(hb.cell (p:=⟨g,0,none⟩) h.2.2.2).trans h.1,(hb.cell (p:=⟨g,1,none⟩) h.2.2.2).trans h.2.1,(hb.cell (p:=⟨g,2,none⟩) h.2.2.2).trans h.2.2.1,Qc h.2.2.2 hb.size⟩
theorem V9 {w w1:Py}{Fs:List (Py->Prop)}(h:Bag w Fs) (hb:P9 w.heap.size w w1) (a b c:Pz):∃ w',w1.alloc (.cells #[a,b,c] 37)=w'/\Bag w' (Z5e w1.heap.size a b c::Fs)/\P9 w.heap.size w w'/\P9 w1.heap.size w1 w'/\w1.heap.size<w'.heap.size:=by
 obtain⟨w2,e2,k1,k2,k3,k4,k5,_⟩:=Xf w1 a b c 37;exact⟨w2,e2,((h.below hb).below k5).add ⟨k1,k2,k3,by omega⟩ (Zdd _ _ _ _),hb.trans (k5.mono hb.size),k5,by omega⟩
theorem Zsm {w w1:Py}{Fs:List (Py->Prop)}(h:Bag w Fs) (hb:P9 w.heap.size w w1) (a b c d e:Pz):∃ w',w1.alloc (.cells #[a,b,c,d,e] 54)=w'/\Bag w' (Z6r w1.heap.size a b c d e::Fs)/\P9 w.heap.size w w'/\P9 w1.heap.size w1 w'/\w1.heap.size<w'.heap.size:=by
 obtain⟨w2,e2,k1,k2,k3,k4,k5,k6,k7,_⟩:=Z6 w1 a b c d e 54;exact⟨w2,e2,((h.below hb).below k7).add ⟨k1,k2,k3,k4,k5,by omega⟩ (Ztn _ _ _ _ _ _),hb.trans (k7.mono hb.size),k7,by omega⟩
theorem Zad (a:Ky):Zq a a=false:=by simp[Zq]
theorem Zcd {a b:Ky}(h:Zq a b=true):Zq b a=false:=by{
 unfold Zq at *;by_cases h1:a.1.toNat=b.1.toNat
 ·rw[if_neg (by simpa using h1)] at h
  rw[if_neg (by simpa using h1.symm)];by_cases h2:a.2.1=b.2.1
  ·rw[if_neg (by simpa using h2)] at h
   rw[if_neg (by simpa using h2.symm)];simp at h ⊢;omega
  ·rw[if_pos h2] at h
   rw[if_pos (fun e=>h2 e.symm)];simp at h ⊢;omega
 ·rw[if_pos h1] at h
  rw[if_pos (fun e=>h1 e.symm)];simp at h ⊢;omega}
theorem Zde {a b:Ky}(h:a≠b) (h':Zq a b=false):Zq b a=true:=by{
 unfold Zq at *;by_cases h1:a.1.toNat=b.1.toNat
 ·rw[if_neg (by simpa using h1)] at h'
  rw[if_neg (by simpa using h1.symm)];by_cases h2:a.2.1=b.2.1
  ·rw[if_neg (by simpa using h2)] at h'
   rw[if_neg (by simpa using h2.symm)];have h3:a.2.2≠b.2.2:=fun e=>h (Prod.ext (UInt8.toNat.inj h1) (Prod.ext h2 e))
   simp at h' ⊢;omega
  ·rw[if_pos h2] at h'
   rw[if_pos (fun e=>h2 e.symm)];simp at h' ⊢;omega
 ·rw[if_pos h1] at h'
  rw[if_pos (fun e=>h1 e.symm)];simp at h' ⊢;omega}
theorem Zfk {a b:Ky}(h:Zq a b=true):a.1.toNat<b.1.toNat\/(a.1.toNat=b.1.toNat/\(a.2.1<b.2.1\/(a.2.1=b.2.1/\a.2.2<b.2.2))):=by{
 unfold Zq at h;by_cases h1:a.1.toNat=b.1.toNat
 ·rw[if_neg (by simpa using h1)] at h
  by_cases h2:a.2.1=b.2.1
  ·rw[if_neg (by simpa using h2)] at h
   exact Or.inr ⟨h1,Or.inr ⟨h2,by simpa using h⟩⟩
  ·rw[if_pos h2] at h
   exact Or.inr ⟨h1,Or.inl (by simpa using h)⟩
 ·rw[if_pos h1] at h
  exact Or.inl (by simpa using h)}
theorem Z30 {a b:Ky}(h:a.1.toNat<b.1.toNat\/(a.1.toNat=b.1.toNat/\(a.2.1<b.2.1\/(a.2.1=b.2.1/\a.2.2<b.2.2)))):Zq a b=true:=by{
 cases e:Zq a b with
 | true=>rfl
 | false =>
  by_cases hab:a=b
  ·subst hab;omega
  ·have:=Zfk (Zde hab e)
   omega}
theorem Yx {a b c:Ky}(h:Zq a b=true) (h':Zq b c=true):Zq a c=true:=by
 have h1:=Zfk h;have h2:=Zfk h';exact Z30 (by omega)
end Go.Proofs.YtgmbjnajdfgenaaGreat
namespace Go.Proofs.YtgmbjnajdfgenaaGreat
open Go.ChangeShapes Go.WideShapes Go.RowKit
abbrev Nd:=Int×List It
def Y6:Rel (List It):=rSl 5 rIt
theorem Z5:Zfc Y6:=Uw Yl
def Nod (ok:P3->Prop) (w:Py) (v:Pz) (n:Nd):Prop:=∃ d,v=.agg #[.int .i64 n.1,d]/\Zmp n.1/\Y6 ok w [d] n.2
section
variable {ok ok' : P3 -> Prop}{w w' : Py}{v : Pz}{n : Nd}{lo lo' : Nat}
theorem Nod.map (hk:∀ p v,ok p->w.cell? p=some v->ok' p/\w'.cell? p=some v) (h:Nod ok w v n):Nod ok' w' v n:=by
 obtain⟨d,e,h1,h2⟩:=h;exact⟨d,e,h1,Z5 _ _ _ _ _ _ hk h2⟩
theorem Nod.below (h:Nod (Old w) w v n) (hb:P9 w.heap.size w w'):Nod (Old w') w' v n :=
 h.map fun _ _ hp hc=>⟨Qc hp hb.size,(hb.cell hp).trans hc⟩
theorem Nod.drop (h:Nod (New lo w) w v n):Nod (Old w) w v n:=h.map fun _ _ hp hc=>⟨hp.2.1,hc⟩
theorem Nod.new (h:Nod (New lo w) w v n) (hl:lo'<=lo) (hb:P9 w.heap.size w w'):Nod (New lo' w') w' v n :=
 h.map fun _ _ hp hc=>⟨⟨Qf hl hp.1,Qc hp.2.1 hb.size,(hb.frozen hp.2.1).trans hp.2.2⟩,(hb.cell hp.2.1).trans hc⟩
theorem Nod.grown {row:Option Nat}(h:Nod (New lo w) w v n) (hg:w.grownBy w' row) (hr:∀ q,row=some q->q<lo):Nod (New lo w') w' v n:=by
 obtain⟨d,e,h1,h2⟩:=h;exact⟨d,e,h1,Z5.grown h2 hg hr⟩
theorem Zmj {d:Pz}{xs:List It}(h:Y6 ok w [d] xs):∃ A c,d=.slice A xs.length c/\xs.length<=c/\c<=9223372036854775807:=by
 obtain⟨A,c,e,h1,h2,_⟩:=h;exact⟨A,c,by simpa using e,h1,h2⟩
theorem Nod.open (h:Nod ok w v n):∃ A c,v=.agg #[.int .i64 n.1,.slice A n.2.length c]/\Zmp n.1/\n.2.length<=c/\c<=9223372036854775807/\Y6 ok w [.slice A n.2.length c] n.2:=by
 obtain⟨d,rfl,h1,h2⟩:=h;obtain⟨A,c,rfl,h3,h4⟩:=Zmj h2;exact⟨A,c,rfl,h1,h3,h4,h2⟩
end
theorem Z2r (ok:P3->Prop) (w:Py):Y6 ok w [.slice none 0 0] []:=⟨none,0,rfl,by simp,by omega,fun i x h=>by simp at h⟩
def Zd6:Nd:=(0,[])
theorem Zk6 (ok:P3->Prop) (w:Py):Nod ok w (.agg #[.int .i64 0,.slice none 0 0]) Zd6:=⟨_,rfl,⟨by decide,by decide⟩,Z2r _ _⟩
theorem Z2s (ad:P3) (n j:Nat):ad.add (n+(j+1))=⟨(ad.add n).block,(ad.add n).off+(j+1),none⟩:=by{
 unfold Addr.add;rw[if_neg (by omega)];by_cases h:n=0
 ·subst h
  simp
 ·rw[if_neg h]
  simp[Q6]}
structure At5 (w:Py) (p:P3) (s:It) (d:Pz):Prop where
 c0:w.cell? p=some (.int .u8 (s.1.1.toNat:Int))
 c1:w.cell? ⟨p.block,p.off+1,none⟩=some (.int .u32 s.1.2.1)
 c2:w.cell? ⟨p.block,p.off+2,none⟩=some (.int .u32 s.1.2.2)
 c3:w.cell? ⟨p.block,p.off+3,none⟩=some (.int .i64 s.2.1)
 c4:w.cell? ⟨p.block,p.off+4,none⟩=some d
theorem At5.lt {w:Py}{p:P3}{s:It}{d:Pz}(h:At5 w p s d):p.block<w.heap.size:=Q7 w p h.c0
theorem At5.below {w w':Py}{p:P3}{s:It}{d:Pz}(h:At5 w p s d) (hb:P9 w.heap.size w w'):At5 w' p s d :=
 ⟨(hb.cell h.lt).trans h.c0,(hb.cell (p:=⟨p.block,p.off+1,none⟩) h.lt).trans h.c1,(hb.cell (p:=⟨p.block,p.off+2,none⟩) h.lt).trans h.c2,(hb.cell (p:=⟨p.block,p.off+3,none⟩) h.lt).trans h.c3,(hb.cell (p:=⟨p.block,p.off+4,none⟩) h.lt).trans h.c4⟩
theorem Zao {ok:P3->Prop}{w:Py}{A:Option P3}{n c k:Nat}{xs:List It}{s:It}(h:Y6 ok w [.slice A n c] xs) (hk:xs[k]? = some s) :
  ∃ ad E ce,A=some ad/\(∀ j,j<5->ok (ad.add (k*5+j)))/\At5 w (ad.add (k*5)) s (.slice E s.2.2.length ce)/\Itm ok w (itV s (.slice E s.2.2.length ce)) s/\s.2.2.length<=ce/\ce<=9223372036854775807/\InI s:=by{
 obtain⟨_,_,e,_,_,h4⟩:=h;cases e;obtain⟨ad,vs,rfl,e5,q,r⟩:=h4 k s hk;obtain⟨d,rfl,hin,hd⟩:=Zmd r;obtain⟨E,ce,rfl,l1,l2,_⟩:=id (Zm hd);have q0:=q 0 _ rfl;have t1:=q 1 _ rfl;have t2:=q 2 _ rfl;have t3:=q 3 _ rfl;have t4:=q 4 _ rfl;refine⟨ad,E,ce,rfl,fun j hj=> ?_,?_,⟨_,rfl,hin,hd⟩,l1,l2,hin⟩
 ·rcases(by omega:j=0\/j=1\/j=2\/j=3\/j=4) with rfl | rfl | rfl | rfl | rfl
  ·exact q0.1
  ·exact t1.1
  ·exact t2.1
  ·exact t3.1
  ·exact t4.1
 ·have u1:=t1.2
  have u2:=t2.2;have u3:=t3.2;have u4:=t4.2;rw[Z2s] at u1 u2 u3 u4;exact⟨q0.2,u1,u2,u3,u4⟩}
theorem Y4 {w:Py}{A:Option P3}{n c k:Nat}{xs:List It}{s:It}(h:Y6 (Old w) w [.slice A n c] xs) (hk:xs[k]? = some s) :
  ∃ ad E ce,A=some ad/\s.2.2.length<=ce/\ce<=9223372036854775807/\InI s/\∀ W,P9 w.heap.size w W->At5 W (ad.add (k*5)) s (.slice E s.2.2.length ce)/\Itm (Old W) W (itV s (.slice E s.2.2.length ce)) s:=by
 obtain⟨ad,E,ce,rfl,_,h5,hi,l1,l2,hin⟩:=Zao h hk;exact⟨ad,E,ce,rfl,l1,l2,hin,fun W hW=>⟨h5.below hW,hi.below hW⟩⟩
def Ua (s:It):Bool:=decide (s.2.1≠0)&&decide (s.2.2.length=0)
def okP (l:Int) (x:It):Bool:=Zb0 x&&(decide (l<=0)||Ua x)
def Zfb (n:Nd) (i:Nat):Bool:=match n.2[i]? with
 | none=>true
 | some x=>okP n.1 x&&(match i with
  | 0=>true
  | j+1=>match n.2[j]? with
   | none=>true
   | some p=>Zq p.1 x.1)
def Zn6 (n:Nd):Bool:=(decide (0<=n.1)&&decide (n.1<6))&&decide (n.2.length<=5)&&(decide (n.1<=0)||decide (0<n.2.length))
def Xn (n:Nd):Bool:=Zn6 n&&(Q8 n.2.length).all (Zfb n)
def Zyo (n:Nd):Int:=if Xn n then 0 else 8
theorem Zod {n:Nd}(h:Zn6 n=true):0<=n.1/\n.1<6/\n.2.length<=5/\(0<n.1->0<n.2.length):=by
 simp only[Zn6,Qk,Pn,decide_eq_true_eq] at h;omega
theorem Zxl {n:Nd}(h:0<=n.1/\n.1<6/\n.2.length<=5/\(0<n.1->0<n.2.length)):Zn6 n=true:=by
 simp only[Zn6,Qk,Pn,decide_eq_true_eq];omega
theorem Zc3 {n:Nd}(h:¬ (0<=n.1/\n.1<6/\n.2.length<=5/\(0<n.1->0<n.2.length))):Xn n=false:=by{
 cases e:Xn n with
 | false=>rfl
 | true =>
  simp only[Xn,Qk] at e;exact absurd (Zod e.1) h}
theorem Zu0 {n:Nd}{k:Nat}(hk:k<n.2.length) (h:Zfb n k=false):Xn n=false:=by{
 cases e:Xn n with
 | false=>rfl
 | true =>
  simp only[Xn,Qk,Qm] at e;have:=e.2 k (by simpa using hk);rw[h] at this;cases this}
theorem Zo1 {n:Nd}(h:0<=n.1/\n.1<6/\n.2.length<=5/\(0<n.1->0<n.2.length)) (h2:∀ i,i<n.2.length->Zfb n i=true):Xn n=true:=by
 simp only[Xn,Qk,Qm];exact⟨Zxl h,fun x hx=>h2 x (by simpa using hx)⟩
theorem Zs {n:Nd}(h:Xn n=true):(0<=n.1/\n.1<6/\n.2.length<=5/\(0<n.1->0<n.2.length))/\∀ i,i<n.2.length->Zfb n i=true:=by
 simp only[Xn,Qk,Qm] at h;exact⟨Zod h.1,fun i hi=>h.2 i (by simpa using hi)⟩
theorem Zey {n:Nd}{x:It}(hx:n.2[0]? = some x):Zfb n 0=okP n.1 x:=by unfold Zfb;rw[hx];simp
theorem Zcr {n:Nd}{k:Nat}{x p:It}(hx:n.2[k+1]? = some x) (hp:n.2[k]? = some p):Zfb n (k+1)=(okP n.1 x&&Zq p.1 x.1):=by
 unfold Zfb;simp only[hx,hp]
theorem Z5t {n:Nd}{k:Nat}{x:It}(hx:n.2[k]? = some x) (h:Zfb n k=true):okP n.1 x=true:=by
 unfold Zfb at h;rw[hx] at h;simp only[Qk] at h;exact h.1
theorem Zat {n:Nd}{k:Nat}{x:It}(hx:n.2[k]? = some x) (h:okP n.1 x=false):Zfb n k=false:=by
 unfold Zfb;simp only[hx,h,Bool.false_and]
theorem Zek {n:Nd}(h:Xn n=true){k:Nat}{x:It}(hx:n.2[k]? = some x):okP n.1 x=true :=
 Z5t hx ((Zs h).2 k (Ql.1 hx).1)
theorem Zqs {l:Int}{x:It}(h:okP l x=true):Zb0 x=true:=by
 simp only[okP,Qk] at h;exact h.1
theorem Zhp {n:Nd}(h:Xn n=true){k:Nat}{x y:It}(hx:n.2[k]? = some x) (hy:n.2[k+1]? = some y):Zq x.1 y.1=true:=by
 have:=(Zs h).2 (k+1) (Ql.1 hy).1;rw[Zcr hy hx,Qk] at this;exact this.2
theorem Za6 {n:Nd}(h:Xn n=true):∀ {k j:Nat}{x y:It},k<j->n.2[k]? = some x->n.2[j]? = some y->Zq x.1 y.1=true:=by{
 intro k j x y hkj
 induction j generalizing y with
 | zero=>omega
 | succ j ih =>
  intro hx hy;rcases Qn k j with h1 | h1
  ·have hjl:j<n.2.length:=by have:=(Ql.1 hy).1;omega
   exact Yx (ih h1 hx (Qe hjl)) (Zhp h (Qe hjl) hy)
  ·have:k=j:=by omega
   subst this;exact Zhp h hx hy}
theorem Zp1 {n:Nd}(h:Xn n=true):Zyo n=0:=by simp[Zyo,h]
theorem Zg0 {n:Nd}(h:Xn n=false):Zyo n=8:=by simp[Zyo,h]
def Zae (l:List It):List UInt8:=(l.map itB).flatten
theorem Znz (l:List It) (x:It):Zae (l++[x])=Zae l++itB x:=by simp[Zae]
theorem Znq {l:List It}{k:Nat}{x:It}(h:l[k]? = some x):Zae (l.take (k+1))=Zae (l.take k)++itB x:=by
 rw[Qx,h];exact Znz _ _
def Zl3 (n:Nd):List UInt8:=[78,UInt8.ofNat n.1.toNat,UInt8.ofNat n.2.length]
def Xv (n:Nd):List UInt8:=Zl3 n++Zae n.2
def Zb5 (n:Nd):List UInt8:=Zb7 (Xv n)
def wrN (n:Nd):List UInt8:=if Xn n then Zb5 n else []
theorem Zlh:∀ {l:List It},(∀ x∈l,Zb0 x=true)->(Zae l).length<=24*l.length
 | [],_=>by simp[Zae]
 | x::r,h=>by
  have h1:=Zlh (l:=r) (fun y hy=>h y (Q9.2 (Or.inr hy)));have h2:=(Zax (h x (Q9.2 (Or.inl rfl)))).2;have h3:=Um x;have:Zae (x::r)=itB x++Zae r:=by simp[Zae]
  rw[this,Qs,List.length_cons];omega
theorem Zly {n:Nd}(h:Xn n=true):∀ x∈n.2,Zb0 x=true:=fun x hx=>by
 obtain⟨k,hk⟩:=Pa.1 hx;exact Zqs (Zek h hk)
theorem Zhz {n:Nd}(h:Xn n=true):(Xv n).length<=124:=by
 have h1:=Zlh (Zly h);have h2:=(Zs h).1.2.2.1;have h3:(Xv n).length=3+(Zae n.2).length:=by simp[Xv,Zl3];omega
 omega
theorem Zdw {n:Nd}(h:Xn n=true):(Zb5 n).length=128:=Zgj (Zhz h)
theorem Zjn (a:Int) (w:Py):P8 Tryz.prog 151 #[.int .u8 a] w fun e w'=>e=.returned (.bool (a != 0))/\w=w':=by
 go_enter Tryz.func151,Tryz.ntmps151
 go_wp2_with fail
 go_ret;exact⟨rfl,rfl⟩
def Z1c (b:List UInt8):Int:=match b.findIdx? (· ≠ 0) with
 | none => -1
 | some k=>k
theorem Z3a {b:List UInt8}{k:Nat}(hk:k<b.length) (ha:∀ j,j<k->b[j]?.getD 0=0) (h:b[k]?.getD 0≠0):Z1c b=k:=by{
 have e:b.findIdx? (· ≠ 0)=some k:=by
  rw[Po];refine⟨hk,by simpa [Qe hk] using h,fun j hj=> ?_⟩;have:=ha j hj
  simpa [Qe (show j<b.length by omega)] using this
 unfold Z1c;rw[e]}
theorem Zx2 {b:List UInt8}(ha:∀ j,j<b.length->b[j]?.getD 0=0):Z1c b = -1:=by{
 have e:b.findIdx? (· ≠ 0)=none:=by
  rw[Pp];intro x hx;obtain⟨j,hj,rfl⟩:=List.mem_iff_getElem.1 hx;have:=ha j hj
  simpa [Qe hj] using this
 unfold Z1c;rw[e]}
def Xr (b:List UInt8):Bool:=b.all (· == 0)
theorem Zqo (b:List UInt8):(!decide (0<=Z1c b))=Xr b:=by{
 unfold Z1c Xr;cases e:b.findIdx? (· ≠ 0) with
 | none =>
  rw[Pp] at e;have:(b.all fun x=>x==0)=true:=by
   rw[Qm];intro x hx
   simpa using e x hx
  rw[this];simp
 | some k =>
  rw[Po] at e;obtain⟨hk,h1,_⟩:=e;have:(b.all fun x=>x==0)=false:=by
   rw[List.all_eq_false];exact⟨b[k],Pq hk,by simpa using h1⟩
  rw[this];simp}
theorem Zwi (A:Option P3) (n c:Nat) (b:List UInt8) (hn:Hid (b.length=n)) (l1:n<=c) (m1:c<=9223372036854775807) (w:Py) (h:Byt w w.heap.size A b) :
  P8 Tryz.prog 174 #[.slice A n c,.func (.func 151) #[] #[]] w fun e w'=>e=.returned (.int .i64 (Z1c b))/\w=w':=by{
 have HY:=Za h;clear h
 go_enter Tryz.func174,Tryz.ntmps174
 go_wp2_with fail
 go_loop [8] (fun i=>∃ k:Nat,k<=n/\i=.int .i64 k/\∀ j,j<k->b[j]?.getD 0=0) (fun i=>n-(intOf i).toNat)
 case atStart=>exact⟨0,by omega,rfl,fun j hj=>by omega⟩
 case round =>
  obtain⟨k,hk,rfl,ha⟩:=hrel;replace ha:=Za ha;by_cases hlt:k<n
  ·obtain⟨ad,rfl,_,hc⟩:=HY.out (by rw[hn.out];omega)
   replace hc:=hc k (by rw[hn.out];exact hlt);have hyes:=Za (fun h=>Z3a (b:=b) (k:=k) (by rw[hn.out];exact hlt) ha.out h);have hno:Hid (b[k]?.getD 0=0->∀ j,j<k+1->b[j]?.getD 0=0):=Za fun h j hj=>by
    rcases Qn j k with h1 | h1
    ·exact ha.out j h1
    ·obtain rfl:j=k:=by omega
     exact h
   obtain⟨x,hx⟩:∃ x,b[k]?.getD 0=x:=⟨_,rfl⟩
   rw[hx] at hc hyes hno;replace hx:=Za hx;by_cases h0:(x.toNat:Int)=0
   ·have t0:((x.toNat:Int) != 0)=false:=by simpa using h0
    have hall:=Za (hno.out (UInt8.toNat.inj (by simpa using h0)));replace h0:=Za h0
    go_wp2_with fail
    with_reducible refine(Zjn _ _).mono ?_
    rintro e3 w3 ⟨rfl,rfl⟩;rw[t0]
    go_wp2_with fail
    go_round
    case rel=>exact⟨k+1,by omega,by go_num,hall.out⟩
    case measure=>simp[intOf];omega
   ·have t0:((x.toNat:Int) != 0)=true:=by simpa using h0
    have hr:=Za (hyes.out (fun e=>h0 (by rw[e];rfl)));replace h0:=Za h0
    go_wp2_with fail
    with_reducible refine(Zjn _ _).mono ?_
    rintro e3 w3 ⟨rfl,rfl⟩;rw[t0]
    go_wp2_with fail
    go_ret;exact⟨Zv hr.out.symm,rfl⟩
  ·have hr:=Za (Zx2 (b:=b) fun j hj=>ha.out j (by have:=hn.out;omega))
   go_wp2_with fail
   go_ret;exact⟨Zv hr.out.symm,rfl⟩}
theorem Zo0 (A:Option P3) (n c:Nat) (b:List UInt8) (hn:Hid (b.length=n)) (l1:n<=c) (m1:c<=9223372036854775807) (w:Py) (h:Byt w w.heap.size A b) :
  P8 Tryz.prog 116 #[.slice A n c] w fun e w'=>e=.returned (.bool (Xr b))/\w=w':=by{
 have HY:=Za h;have hi:=Za (Zqo b);have hx:Hid (∀ W,Byt W W.heap.size A b->P8 Tryz.prog 150 #[.slice A n c,.func (.func 151) #[] #[]] W fun e w'=>e=.returned (.bool (decide (0<=Z1c b)))/\W=w'):=Za fun W hW=>by
  have HW:=Za hW;clear hW
  go_enter Tryz.func150,Tryz.ntmps150
  go_wp2_with fail
  with_reducible refine(Zwi A n c b hn l1 m1 _ HW.out).mono ?_
  rintro e3 w3 ⟨rfl,rfl⟩
  go_wp2_with fail
  go_ret;exact⟨rfl,rfl⟩
 clear h
 go_enter Tryz.func116,Tryz.ntmps116
 go_wp2_with fail
 with_reducible refine(hx.out _ HY.out).mono ?_
 rintro e3 w3 ⟨rfl,rfl⟩
 go_wp2_with fail
 go_ret;exact⟨Zk hi.out,rfl⟩}
theorem Ul:(Tryz.prog.info? 54).map (fun i=>(i.zero,i.size,i.bytes))=some (some (.agg #[.int .u8 0,.int .u32 0,.int .u32 0,.int .i64 0,.slice none 0 0]),5,48):=by kernel_rfl
theorem Zls {w:Py}{lo:Nat}{A:Option P3}{c:Nat}{xs:List It}(h:Ya rIt 5 54 lo w A c xs) (g:Nat) (s:It) (d:Pz) (m n:Nat) (hn:xs.length=n) (hg:w.heap[g]? = some (.cells #[.int .u8 (s.1.1.toNat:Int),.int .u32 s.1.2.1,.int .u32 s.1.2.2,.int .i64 s.2.1,d] 54 (0,0))) (hs:n<100000) (hbase:lo<=w.heap.size) (hin:InI s) (hx:rBy (Xx lo A w) w [d] s.2.2) :
  ∃ A' c' w',(Pr #[39,39] 39 #[.slice A n c,.slice (some ⟨g,0,none⟩) 1 m]).run Tryz.prog w=.ok (.slice A' (n+1) c') w'/\Ya rIt 5 54 lo w' A' c' (xs++[s])/\w.grownBy w' (A.map (·.block))/\P9 lo w w':=by{
 subst hn;obtain⟨i0,hi,hz0,hz1,hz2⟩:=info_parts Ul;obtain⟨E,ce,rfl,_⟩:=id (Zm hx)
 exact Ya.push Yl h 39 39 i0 (.agg #[.int .u8 0,.int .u32 0,.int .u32 0,.int .i64 0,.slice none 0 0]) 48 Tryz.underlying39 hi hz0 hz1 hz2 rfl (by decide) ⟨g,0,none⟩ m _ s rfl (World.news_of_block (cs:=#[.int .u8 (s.1.1.toNat:Int),.int .u32 s.1.2.1,.int .u32 s.1.2.2,.int .i64 s.2.1,.slice E s.2.2.length ce]) hg) (fun u hu=>by
  simp at hu
  rcases hu with rfl | rfl | rfl | rfl | rfl <;> rfl) (by unfold maxLen;omega) (by omega) hbase (Zxe hin hx)}
def X9 (b:List UInt8):Nat->Option (List It×List UInt8)
 | 0=>some ([],b)
 | k+1=>match X9 b k with
  | none=>none
  | some (l,r)=>if okR r then some (l++[itR r],r.drop (itN r).toNat) else none
theorem Zec {b:List UInt8}{k:Nat}{l:List It}{r:List UInt8}(h:X9 b k=some (l,r)) (h':okR r=true):X9 b (k+1)=some (l++[itR r],r.drop (itN r).toNat):=by
 simp only[X9,h,h',if_true]
theorem Zlq {b:List UInt8}{k:Nat}{l:List It}{r:List UInt8}(h:X9 b k=some (l,r)) (h':okR r=false):X9 b (k+1)=none:=by
 simp only[X9,h,h'];rfl
theorem Zkd {b:List UInt8}{k j:Nat}(h:X9 b k=none) (hj:k<=j):X9 b j=none:=by{
 induction j with
 | zero =>
  have:k=0:=by omega
  rw[this] at h;exact h
 | succ j ih =>
  rcases Qn k (j+1) with h1 | h1
  ·simp only[X9,ih (by omega)]
  ·have:k=j+1:=by omega
   rw[this] at h;exact h}
theorem Zab {b:List UInt8}:∀ {k:Nat}{l:List It}{r:List UInt8},X9 b k=some (l,r)->b=Zae l++r/\l.length=k/\(∀ x∈l,Zb0 x=true/\InI x)
 | 0,l,r,h=>by
  simp only[X9,Option.some.injEq,Prod.mk.injEq] at h;obtain⟨rfl,rfl⟩:=h;exact⟨by simp[Zae],rfl,fun x hx=>by simp at hx⟩
 | k+1,l,r,h=>by
  cases e:X9 b k with
  | none=>simp[X9,e] at h
  | some p =>
   obtain⟨l',r'⟩:=p;obtain⟨h1,h2,h3⟩:=Zab e;rcases Ux (okR r') with ho | ho
   ·rw[Zlq e ho] at h
    cases h
   ·rw[Zec e ho] at h
    simp only[Option.some.injEq,Prod.mk.injEq] at h;obtain⟨rfl,rfl⟩:=h;obtain⟨n,e1,e2,e3,e4⟩:=Zl4 ho;have hn:(itN r').toNat=n:=by rw[e1];omega
    refine⟨?_,by simp[h2],fun x hx=> ?_⟩
    ·rw[Znz,e4,hn,Qt,Pb]
     exact h1
    ·rcases List.mem_append.1 hx with hx | hx
     ·exact h3 x hx
     ·simp at hx
      subst hx;exact⟨e3,by rw[itR,ho,if_pos rfl];exact Zga _⟩
def Zi2 (b:List UInt8) (k:Nat):List It:=((X9 b k).map (·.1)).getD []
def Ztr (b:List UInt8) (k:Nat):List UInt8:=((X9 b k).map (·.2)).getD []
def Z18 (b:List UInt8) (k:Nat):Int:=if (X9 b k).isSome then 0 else 8
theorem Zg5 {ok:P3->Prop}{w:Py}{ad:P3}{n c:Nat}{b:List UInt8}(h:rBy ok w [.slice (some ad) n c] b) (k:Nat) (hk:k<=b.length):rBy ok w [.slice (some (ad.add k)) (n-k) (c-k)] (b.drop k):=by
 obtain⟨A,c',e,l1,l2,_⟩:=id h;cases e;have:=Zkw h k (b.length-k) (c-k) (by omega) (by omega) (by omega)
 rwa [Qu (by simp)] at this
theorem Zps (v:Pz) (b:List UInt8) (many:Nat) (hm:many<256) (w:Py) (h:rBy (Old w) w [v] b) :
  P8 Tryz.prog 114 #[v,.int .i64 many] w fun e w'=>∃ A c u,e=.returned (.tuple #[.slice A (Zi2 b many).length c,u,.int .i64 (Z18 b many)])/\Ya rIt 5 54 w.heap.size w' A c (Zi2 b many)/\rBy (Old w') w' [u] (Ztr b many)/\P9 w.heap.size w w':=by{
 have HV:=Za h;clear h
 go_enter Tryz.func114,Tryz.ntmps114
 go_wp2_with fail
 go_loopw [0,7,12] (fun q it i wr=>∃ (k:Nat) (l:List It) (r:List UInt8) (A:Option P3) (c:Nat),k<=many/\i=.int .i64 k/\it=.slice A k c/\l.length=k/\X9 b k=some (l,r)/\rBy (Old w) w [q] r/\Ya rIt 5 54 w.heap.size wr A c l/\P9 w.heap.size w wr) (fun _ _ i _=>many-(intOf i).toNat)
 case atStart=>exact⟨0,[],b,none,0,by omega,rfl,rfl,rfl,rfl,HV.out,Ya.nil _ _ _ _ _,Qb _ _⟩
 case round =>
  obtain⟨k,l,r,A,c,hk,rfl,rfl,hl,hcut,hq,hrow,hb⟩:=hrel;replace hrow:=Za hrow;replace hcut:=Za hcut;replace hl:=Za hl;replace hb:=Za hb;obtain⟨Q,cq,rfl,n1,n2,_⟩:=id (Zm hq);obtain⟨nq,hnq⟩:∃ n,r.length=n:=⟨_,rfl⟩
  rw[hnq] at n1 hq ⊢;replace hnq:=Za hnq;replace hq:=Za hq;have hqr:=Za (Zf.old hq.out hb.out);by_cases hlt:k<many
  case neg =>
   have hkm:k=many:=by omega
   have hL:=Za (show Zi2 b many=l by rw[<- hkm];simp[Zi2,hcut.out]);have hR:=Za (show Ztr b many=r by rw[<- hkm];simp[Ztr,hcut.out]);have hF:=Za (show Z18 b many=0 by rw[<- hkm];simp[Z18,hcut.out]);replace hkm:=Za hkm
   go_wp2_with fail
   exact P5 (v:=.tuple #[.slice A k c,.slice Q nq cq,.int .i64 0]) (by simp[results,Tryz.results114,go_sem]) rfl ⟨A,c,_,by rw[hL.out,hF.out,hl.out],by rw[hL.out];exact hrow.out,by rw[hR.out];exact hqr.out,hb.out⟩
  go_wp2_with fail
  with_reducible refine(Ztv _ r _ hqr.out).mono ?_
  rintro e3 w3 ⟨u3,rfl,hu3,hb3⟩;obtain⟨D,dc,rfl,hin,_,_,hby⟩:=id hu3.open;obtain⟨w4,hw4,s0,s1,s2,s3,s4,hs4,hb4,b4⟩:=Z6 w3 (.int .u8 ((itR r).1.1.toNat:Int)) (.int .u32 (itR r).1.2.1) (.int .u32 (itR r).1.2.2) (.int .i64 (itR r).2.1) (.slice D (itR r).2.2.length dc) 54;have C4:=Za (hb3.trans (hb4.mono hb3.size));have B4:=Za (hb.out.trans (C4.out.mono hb.out.size));have hI4:=Za (hu3.new (Qd _) hb4);obtain⟨x,hx⟩:∃ x,itR r=x:=⟨_,rfl⟩
  rw[hx] at hin s0 s1 s2 s3 s4 b4 hI4 hw4 ⊢;replace hs4:=Za hs4;replace hx:=Za hx;clear hb3 hb4 hu3 hby
  unfold itV at *
  go_upto_region 5 with fail
  clear hw4;rcases Ux (okR r) with hok | hok
  ·have hE:=Za (show itE r=8 by simp[itE,hok])
   have hno:=Za (Zkd (Zlq hcut.out hok) (show k+1<=many by omega));have hL:=Za (show Zi2 b many=[] by simp[Zi2,hno.out]);have hR:=Za (show Ztr b many=[] by simp[Ztr,hno.out]);have hF:=Za (show Z18 b many=8 by simp[Z18,hno.out]);rw[hE.out];replace hok:=Za hok
   go_wp2_with fail
   exact P5 (v:=.tuple #[.slice none 0 0,.slice none 0 0,.int .i64 8]) (by simp[results,Tryz.results114,go_sem]) rfl ⟨none,0,_,by rw[hL.out,hF.out];rfl,by rw[hL.out];exact Ya.nil _ _ _ _ _,by rw[hR.out];exact Vd _ _ none,B4.out⟩
  have hE:=Za (show itE r=0 by simp[itE,hok]);obtain⟨m,hm1,hm2,hm3,hm4⟩:=Zl4 hok;have hyes:=Zec hcut.out hok;rw[hm1,show ((m:Int)).toNat=m by omega,hx.out] at hyes;have hrl:12<=nq:=by have:=Zbj (Zfo hok).1;have:=hnq.out;omega
  rw[hnq.out] at hm2;rw[hE.out,hm1];replace hyes:=Za hyes;replace hok:=Za hok;clear hm1 hm3 hm4;obtain⟨w5,hw5,_,_,_,_,_,hs5,hb5,b5⟩:=Z6 w4 (.int .u8 (x.1.1.toNat:Int)) (.int .u32 x.1.2.1) (.int .u32 x.1.2.2) (.int .i64 x.2.1) (.slice D x.2.2.length dc) 54;have C5:=C4.out.trans (hb5.mono C4.out.size);have hI5:=hI4.out.new (Qd _) hb5;have hx5:rBy (Xx w.heap.size A w5) w5 [.slice D x.2.2.length dc] x.2.2:=by
   obtain⟨d,e,_,hd⟩:=hI5;have ed:d=.slice D x.2.2.length dc:=by injection e with e;simpa using e.symm
   subst ed;exact Zf _ _ _ _ _ _ (fun p v hp hc=>⟨hrow.out.but (Qd _) hb.out.size hp,hc⟩) hd
  have row5:=Ya.below Yl hrow.out C5;have hb5':=hb.out.trans (C5.mono hb.out.size);have hk5:l.length<100000:=by have:=hl.out;omega
  obtain⟨A6,c6,w6,hr6,row6,_,hb6⟩:=Zls row5 w4.heap.size x _ 1 k hl.out b5 (by omega) hb5'.size hin hx5;have B6:=Za (hb5'.trans hb6);have H6:=Za hr6;replace row6:=Za row6;have hll:=Za (show (l++[x]).length=k+1 by simp[hl.out]);obtain⟨qa,rfl⟩:∃ qa,Q=some qa:=by
   obtain⟨_,_,e,_,_,h4⟩:=Zm hq.out;cases e;obtain⟨qa,e,_⟩:=h4 0 (by have:=hnq.out;omega);exact⟨qa,e⟩
  have hrest:=Za (Zg5 hq.out m (by rw[hnq.out];exact hm2));have hnil:Hid (m=nq->∀ W,rBy (Old W) W [.slice (some qa) 0 0] (r.drop m)):=Za fun e W=>by
   rw[Ps (by rw[hnq.out];omega)];exact Vd _ _ _
  replace hs5:=Za hs5;replace b5:=Za b5;replace hI5:=Za hI5;clear hr6 hb6 hx5 row5 C5 hb5 hb5' hin;by_cases hmc:m=cq
  ·have c1:(0:Int)<=(m:Int):=by omega
   have c2:(m:Int)<=cq:=by omega
   have c3:(m:Int)<=nq:=by omega
   go_wp2_with (at_builtin;refine Zi rfl _ _ _ rfl rfl rfl H6.out ?_;clear H6)
   go_roundw
   case rel=>exact⟨k+1,l++[x],r.drop m,A6,c6,by omega,by go_num,rfl,hll.out,hyes.out,hnil.out (by omega) w,row6.out,B6.out⟩
   case measure=>simp[intOf];omega
  ·have c1:(0:Int)<=(m:Int):=by omega
   have c2:(m:Int)<=cq:=by omega
   have c3:(m:Int)<=nq:=by omega
   go_wp2_with (at_builtin;refine Zi rfl _ _ _ rfl rfl rfl H6.out ?_;clear H6)
   go_roundw
   case rel=>exact⟨k+1,l++[x],r.drop m,A6,c6,by omega,by go_num,rfl,hll.out,hyes.out,hrest.out,row6.out,B6.out⟩
   case measure=>simp[intOf];omega}
theorem Ztf (v:Pz) (s:It) (w:Py) (h:Itm (Old w) w v s):P8 Tryz.prog 149 #[v] w fun e w'=>e=.returned (.bool (Ua s))/\P9 w.heap.size w w':=by{
 obtain⟨A,c,rfl,_,l1,m1,_⟩:=h.open;have hw:Ua s=(decide (s.2.1≠0)&&decide (s.2.2.length=0)):=rfl;obtain⟨n,hn⟩:∃ n,s.2.2.length=n:=⟨_,rfl⟩
 unfold itV;rw[hn] at l1 hw ⊢;obtain⟨w0,hw0,f1,f2,f3,f4,f5,hs0,hB0,_⟩:=Z6 w (.int .u8 (s.1.1.toNat:Int)) (.int .u32 s.1.2.1) (.int .u32 s.1.2.2) (.int .i64 s.2.1) (.slice A n c) 54;clear f1 f2 f3 hs0 hn h;replace hB0:=Za hB0;obtain⟨r,hr⟩:∃ r,s.2.1=r:=⟨_,rfl⟩
 rw[hr] at hw f4 hw0 ⊢;clear hr;generalize Ua s=res at hw ⊢;replace hw:=Za hw;by_cases h0:r=0
 ·have t0:(r != 0)=false:=by simpa using h0
  have hr:=Za (show res=false by rw[hw.out];simp[h0]);replace h0:=Za h0
  go_enter Tryz.func149,Tryz.ntmps149
  go_upto_region 1 with fail
  clear hw0
  go_wp2_with fail
  go_ret;exact⟨Zk hr.out.symm,hB0.out⟩
 ·have t0:(r != 0)=true:=by simpa using h0
  by_cases h1:n=0
  ·have t1:((n:Int)==0)=true:=by simp;omega
   have hr:=Za (show res=true by rw[hw.out];simp[h0,h1]);replace h0:=Za h0;replace h1:=Za h1
   go_enter Tryz.func149,Tryz.ntmps149
   go_upto_region 1 with fail
   clear hw0
   go_wp2_with fail
   go_ret;exact⟨Zk hr.out.symm,hB0.out⟩
  ·have t1:((n:Int)==0)=false:=by simp;omega
   have hr:=Za (show res=false by rw[hw.out];simp[h1]);replace h0:=Za h0;replace h1:=Za h1
   go_enter Tryz.func149,Tryz.ntmps149
   go_upto_region 1 with fail
   clear hw0
   go_wp2_with fail
   go_ret;exact⟨Zk hr.out.symm,hB0.out⟩}
theorem Ve (b:Bool):b=false\/b=true:=by cases b <;> simp
theorem Zfg (v:Pz) (n:Nd) (w:Py) (h:Nod (Old w) w v n):P8 Tryz.prog 115 #[v] w fun e w'=>e=.returned (.int .i64 (Zyo n))/\P9 w.heap.size w w':=by{
 obtain⟨A,c,rfl,hin,l1,m1,hA⟩:=h.open;have hbad0:=Za (fun hh=>Zg0 (Zc3 (n:=n) hh));have hbad1:Hid (∀ k,k<n.2.length->Zfb n k=false->Zyo n=8):=Za fun k hk hh=>Zg0 (Zu0 hk hh)
 have hgood:=Za (fun hh h2=>Zp1 (Zo1 (n:=n) hh h2));have HA:=Za hA;clear h hA;obtain⟨m,hm⟩:∃ m,n.2.length=m:=⟨_,rfl⟩
 obtain⟨l,hl⟩:∃ l,n.1=l:=⟨_,rfl⟩
 rw[hm] at l1 hbad0 hbad1 hgood HA ⊢;rw[hl] at hbad0 hgood hin ⊢;obtain⟨i1,i2⟩:=hin;replace hm:=Za hm;replace hl:=Za hl;obtain⟨w0,hw0,b0,hs0,hB0⟩:=Zy w (.int .i64 l) (.slice A m c) 81;obtain⟨f1,f2,_,lt0⟩:=Zg b0;replace hB0:=Za hB0;replace b0:=Za b0;replace hs0:=Za hs0;by_cases h1:l<0
 ·have hr:=Za (hbad0.out (by omega))
  rw[hr.out]
  go_enter Tryz.func115,Tryz.ntmps115
  go_upto_region 1 with fail
  clear hw0
  go_wp2_with fail
  go_ret;exact⟨rfl,hB0.out⟩
 by_cases h2:6<=l
 ·have hr:=Za (hbad0.out (by omega))
  rw[hr.out]
  go_enter Tryz.func115,Tryz.ntmps115
  go_upto_region 1 with fail
  clear hw0
  go_wp2_with fail
  go_ret;exact⟨rfl,hB0.out⟩
 by_cases h3:5<m
 ·have hr:=Za (hbad0.out (by omega))
  have h3':(5:Int)<m:=by omega
  rw[hr.out]
  go_enter Tryz.func115,Tryz.ntmps115
  go_upto_region 1 with fail
  clear hw0
  go_wp2_with fail
  go_ret;exact⟨rfl,hB0.out⟩
 have h3':¬ (5:Int)<m:=by omega
 by_cases h4:0<l/\m=0
 ·have hr:=Za (hbad0.out (by omega))
  obtain⟨h4a,h4b⟩:=h4;have h4c:((m:Int)==0)=true:=by simp;omega
  replace h4b:=Za h4b;rw[hr.out]
  go_enter Tryz.func115,Tryz.ntmps115
  go_upto_region 1 with fail
  clear hw0
  go_wp2_with fail
  go_ret;exact⟨rfl,hB0.out⟩
 have hgood2:=Za (hgood.out (by omega));have hB:=Za (fun wr (hb:P9 w0.heap.size w0 wr)=>hB0.out.trans (hb.mono hB0.out.size));clear hgood hbad0;rcases(by omega:l<=0\/(0<l/\m≠0)) with h5 | ⟨h5,h6⟩
 rotate_left
 ·have h6':((m:Int)==0)=false:=by simp;omega
  replace h6:=Za h6;replace h4:=Za h4
  go_enter Tryz.func115,Tryz.ntmps115
  go_upto_region 1 with fail
  clear hw0
  go_wp2_with fail
  go_loopw [31] (fun i wr=>∃ k:Nat,k<=m/\i=.int .i64 k/\(∀ j,j<k->Zfb n j=true)/\P9 w0.heap.size w0 wr) (fun i _=>m-(intOf i).toNat)
  case atStart=>exact⟨0,by omega,rfl,fun j hj=>by omega,Qb _ _⟩
  case round =>
   obtain⟨k,hk,rfl,ha,hb⟩:=hrel;replace ha:=Za ha;replace hb:=Za hb;have p1:=(hb.out.cell (p:=⟨w.heap.size,0,none⟩) lt0).trans f1;have p2:=(hb.out.cell (p:=⟨w.heap.size,1,none⟩) lt0).trans f2;by_cases hlt:k<m
   case neg =>
    have hfin:=Za (hgood2.out fun i hi=>ha.out i (by omega));have BF:=Za (hB.out _ hb.out)
    go_wp2_with fail
    go_ret;exact⟨Zv hfin.out.symm,BF.out⟩
   obtain⟨x,hx⟩:∃ x,n.2[k]? = some x:=⟨_,Qe (by rw[hm.out];exact hlt)⟩
   obtain⟨ad,E,ce,rfl,q1,q2,hinx,FX⟩:=Y4 HA.out hx;have FX':=Za (fun W (hW:P9 wr.heap.size wr W)=>FX W ((hB.out _ hb.out).trans (hW.mono (hB.out _ hb.out).size)));obtain⟨⟨z0,z1,z2,z3,z4⟩,hIx⟩:=FX'.out wr (Qb _ _);obtain⟨w2,hw2,g0,g1,g2,g3,g4,hs2,hB2,_⟩:=Z6 wr (.int .u8 (x.1.1.toNat:Int)) (.int .u32 x.1.2.1) (.int .u32 x.1.2.2) (.int .i64 x.2.1) (.slice E x.2.2.length ce) 54;have HI:=Za (hIx.below hB2);have lt2:wr.heap.size<w2.heap.size:=by omega
   have B2:=Za (hb.out.trans (hB2.mono hb.out.size));have C2:=Za hB2;replace hx:=Za hx;replace hs2:=Za hs2;have hbk:=Za (hbad1.out k hlt);clear FX hIx hB2 hinx;unfold itV at *
   go_upto_region 8 with fail
   clear hw2
   go_wp2_with fail
   with_reducible refine(Za7 _ x _ HI.out).mono ?_
   rintro e3 w3 ⟨rfl,hb3⟩;have B3:=Za (B2.out.trans (hb3.mono B2.out.size));have C3:=Za (C2.out.trans (hb3.mono C2.out.size));have r0:=(hb3.cell (p:=⟨wr.heap.size,0,none⟩) lt2).trans g0;have r1:=(hb3.cell (p:=⟨wr.heap.size,1,none⟩) lt2).trans g1;have r2:=(hb3.cell (p:=⟨wr.heap.size,2,none⟩) lt2).trans g2;have r3:=(hb3.cell (p:=⟨wr.heap.size,3,none⟩) lt2).trans g3;have r4:=(hb3.cell (p:=⟨wr.heap.size,4,none⟩) lt2).trans g4;have p3:=(hb3.cell (p:=⟨w.heap.size,0,none⟩) (Qc lt0 B2.out.size)).trans ((C2.out.cell (p:=⟨w.heap.size,0,none⟩) (Qc lt0 hb.out.size)).trans p1);have p4:=(hb3.cell (p:=⟨w.heap.size,1,none⟩) (Qc lt0 B2.out.size)).trans ((C2.out.cell (p:=⟨w.heap.size,1,none⟩) (Qc lt0 hb.out.size)).trans p2);replace HI:=Za (HI.out.below hb3);have lt3:wr.heap.size<w3.heap.size:=Qc lt2 hb3.size;clear hb3 g0 g1 g2 g3 g4 z0 z1 z2 z3 z4 p1 p2;rcases Ve (Zb0 x) with hmx | hmx
   ·have hr:=Za (hbk.out (Zat hx.out (by rw[okP,hmx];rfl)))
    have hc:=Za (Ue hmx);have BF:=Za (hB.out _ B3.out);replace hmx:=Za hmx;rw[hc.out]
    go_wp2_with fail
    go_ret;exact⟨Zv hr.out.symm,BF.out⟩
   have hc:=Za (Zcc hmx);replace hmx:=Za hmx;rw[hc.out]
   go_wp2_with fail
   with_reducible refine(Ztf _ x _ HI.out).mono ?_
   rintro e4 w4 ⟨rfl,hb4⟩;have B4:=Za (B3.out.trans (hb4.mono B3.out.size));have C4:=Za (C3.out.trans (hb4.mono C3.out.size));have t0:=(hb4.cell (p:=⟨wr.heap.size,0,none⟩) lt3).trans r0;have t1:=(hb4.cell (p:=⟨wr.heap.size,1,none⟩) lt3).trans r1;have t2:=(hb4.cell (p:=⟨wr.heap.size,2,none⟩) lt3).trans r2;have p5:=(hb4.cell (p:=⟨w.heap.size,1,none⟩) (Qc lt0 B3.out.size)).trans p4;have lt4:wr.heap.size<w4.heap.size:=Qc lt3 hb4.size;have lt0':w.heap.size<w4.heap.size:=Qc lt0 B4.out.size;clear hb4 r0 r1 r2 r3 r4 p3 p4;rcases Ve (Ua x) with hrx | hrx
   ·have hr:=Za (hbk.out (Zat hx.out (by rw[okP,hmx.out,hrx,hl.out];simp;omega)))
    have BF:=Za (hB.out _ B4.out);rw[hrx];replace hrx:=Za hrx
    go_wp2_with fail
    go_ret;exact⟨Zv hr.out.symm,BF.out⟩
   have hP:=Za (show okP n.1 x=true by rw[okP,hmx.out,hrx];simp);rw[hrx];replace hrx:=Za hrx;rcases(by rcases k with _ | j;exact Or.inl rfl;exact Or.inr ⟨j,rfl⟩:k=0\/∃ j,k=j+1) with hk0 | ⟨j,hkj⟩
   ·have hall:=Za (show ∀ j,j<k+1->Zfb n j=true from fun j hj=>by
     obtain rfl:j=0:=by omega
     subst hk0
     rw[Zey hx.out,hP.out])
    subst hk0
    go_wp2_with fail
    go_quiet (fail)
    go_wp2_with fail
    go_roundw
    case rel=>exact⟨0+1,by omega,by go_num,hall.out,Z3 B4.out _⟩
    case measure=>simp[intOf];omega
   ·obtain⟨y,hy⟩:∃ y,n.2[j]? = some y:=⟨_,Qe (by rw[hm.out];omega)⟩
    obtain⟨ad',E',ce',e',_,_,_,FY⟩:=Y4 HA.out hy;have e'':=Option.some.inj e';subst e'';clear e';have BW4:=Za (hB.out _ B4.out);have FYY:=Za fun W (hW:P9 _ _ W)=>(FY W (BW4.out.trans (hW.mono BW4.out.size))).1
    have hsucc:=Za (show Zfb n k=Zq y.1 x.1 by subst hkj;rw[Zcr hx.out hy,hP.out];simp);have hj1:(k:Int)-1=(j:Int):=by omega
    replace hy:=Za hy;obtain⟨s,hs⟩:∃ s,Zq y.1 x.1=s:=⟨_,rfl⟩
    rw[hs] at hsucc;replace hs:=Za hs;have hwj:IntKind.i64.wrap (j:Int)=(j:Int):=Qq _ (by omega);have hj0:(0:Int)<=(j:Int):=by omega
    have kpos:(0:Int)<(k:Int):=by omega
    have hjm:(j:Int)<(m:Int):=by omega
    clear FY
    go_wp2_with fail
    refine wp_region_fx (by kernel_rfl) (fun W=>P9 _ _ W) (fun _=>none) (fun i=>match i with
     | 12=>some (.bool s)
     | _=>none) (by kernel_rfl) (Qb _ _).drew (fun w w' h hb=>h.trans (hb.mono h.size)) (fun j φ x W W' hp=>by cases hp) ?_
    repeat (first
     | (refine wpAs_skip rfl ?_;simp only[Qa,Zb,Zc,Zd])
     | (refine wpAs_pure (v := ?_) rfl rfl ?_ ?_;rotate_left;(intro W hC hE;clear hE;(obtain⟨y0,y1,y2,y3,y4⟩:=FYY.out W hC;have x0:=(hC.cell (p:=⟨wr.heap.size,0,none⟩) lt4).trans t0;have x1:=(hC.cell (p:=⟨wr.heap.size,1,none⟩) lt4).trans t1;have x2:=(hC.cell (p:=⟨wr.heap.size,2,none⟩) lt4).trans t2;have p6:=(hC.cell (p:=⟨w.heap.size,1,none⟩) lt0').trans p5);clear hC;go_simp;first | done | with_reducible rfl);simp only[Qa,Zb,Zc,Zd]))
    refine wpAs_fixed rfl rfl rfl ?_ ?_
    ·intro W hC hE
     refine does_enter (f:=56) (args:=#[kyV y.1,kyV x.1]) ?_ ?_
     ·go_simp
     ·refine(Zg8 y.1 x.1 W).mono ?_
      rintro e W' ⟨rfl,hg⟩;rw[hs.out];exact⟨_,rfl,rfl,hg⟩
    simp only[Qa,Zb,Zc,Zd]
    repeat (first
     | (refine wpAs_skip rfl ?_;simp only[Qa,Zb,Zc,Zd])
     | (refine wpAs_pure (v := ?_) rfl rfl ?_ ?_;rotate_left;(intro W hC hE;clear hE;skip;clear hC;go_simp;first | done | with_reducible rfl);simp only[Qa,Zb,Zc,Zd]))
    refine wpAs_end fun W hC hE=> ?_
    have BW:=Za (B4.out.trans (hC.mono B4.out.size));clear hE hC;cases s with
    | true =>
     have hall:=Za (show ∀ j,j<k+1->Zfb n j=true from fun j hj=>by
      rcases Qn j k with h | h
      ·exact ha.out j h
      ·obtain rfl:j=k:=by omega
       exact hsucc.out)
     go_wp2_with fail
     go_roundw
     case rel=>exact⟨k+1,by omega,by go_num,hall.out,BW.out⟩
     case measure=>simp[intOf];omega
    | false =>
     have hr:=Za (hbk.out hsucc.out);have BF:=Za (hB.out _ BW.out)
     go_wp2_with fail
     go_ret;exact⟨Zv hr.out.symm,BF.out⟩
 ·replace h4:=Za h4
  go_enter Tryz.func115,Tryz.ntmps115
  go_upto_region 1 with fail
  clear hw0
  go_wp2_with fail
  go_loopw [31] (fun i wr=>∃ k:Nat,k<=m/\i=.int .i64 k/\(∀ j,j<k->Zfb n j=true)/\P9 w0.heap.size w0 wr) (fun i _=>m-(intOf i).toNat)
  case atStart=>exact⟨0,by omega,rfl,fun j hj=>by omega,Qb _ _⟩
  case round =>
   obtain⟨k,hk,rfl,ha,hb⟩:=hrel;replace ha:=Za ha;replace hb:=Za hb;have p1:=(hb.out.cell (p:=⟨w.heap.size,0,none⟩) lt0).trans f1;have p2:=(hb.out.cell (p:=⟨w.heap.size,1,none⟩) lt0).trans f2;by_cases hlt:k<m
   case neg =>
    have hfin:=Za (hgood2.out fun i hi=>ha.out i (by omega));have BF:=Za (hB.out _ hb.out)
    go_wp2_with fail
    go_ret;exact⟨Zv hfin.out.symm,BF.out⟩
   obtain⟨x,hx⟩:∃ x,n.2[k]? = some x:=⟨_,Qe (by rw[hm.out];exact hlt)⟩
   obtain⟨ad,E,ce,rfl,q1,q2,hinx,FX⟩:=Y4 HA.out hx;have FX':=Za (fun W (hW:P9 wr.heap.size wr W)=>FX W ((hB.out _ hb.out).trans (hW.mono (hB.out _ hb.out).size)));obtain⟨⟨z0,z1,z2,z3,z4⟩,hIx⟩:=FX'.out wr (Qb _ _);obtain⟨w2,hw2,g0,g1,g2,g3,g4,hs2,hB2,_⟩:=Z6 wr (.int .u8 (x.1.1.toNat:Int)) (.int .u32 x.1.2.1) (.int .u32 x.1.2.2) (.int .i64 x.2.1) (.slice E x.2.2.length ce) 54;have HI:=Za (hIx.below hB2);have lt2:wr.heap.size<w2.heap.size:=by omega
   have B2:=Za (hb.out.trans (hB2.mono hb.out.size));have C2:=Za hB2;replace hx:=Za hx;replace hs2:=Za hs2;have hbk:=Za (hbad1.out k hlt);clear FX hIx hB2 hinx;unfold itV at *
   go_upto_region 8 with fail
   clear hw2
   go_wp2_with fail
   with_reducible refine(Za7 _ x _ HI.out).mono ?_
   rintro e3 w3 ⟨rfl,hb3⟩;have B3:=Za (B2.out.trans (hb3.mono B2.out.size));have C3:=Za (C2.out.trans (hb3.mono C2.out.size));have r0:=(hb3.cell (p:=⟨wr.heap.size,0,none⟩) lt2).trans g0;have r1:=(hb3.cell (p:=⟨wr.heap.size,1,none⟩) lt2).trans g1;have r2:=(hb3.cell (p:=⟨wr.heap.size,2,none⟩) lt2).trans g2;have r3:=(hb3.cell (p:=⟨wr.heap.size,3,none⟩) lt2).trans g3;have r4:=(hb3.cell (p:=⟨wr.heap.size,4,none⟩) lt2).trans g4;have p3:=(hb3.cell (p:=⟨w.heap.size,0,none⟩) (Qc lt0 B2.out.size)).trans ((C2.out.cell (p:=⟨w.heap.size,0,none⟩) (Qc lt0 hb.out.size)).trans p1);have p4:=(hb3.cell (p:=⟨w.heap.size,1,none⟩) (Qc lt0 B2.out.size)).trans ((C2.out.cell (p:=⟨w.heap.size,1,none⟩) (Qc lt0 hb.out.size)).trans p2);replace HI:=Za (HI.out.below hb3);have lt3:wr.heap.size<w3.heap.size:=Qc lt2 hb3.size;clear hb3 g0 g1 g2 g3 g4 z0 z1 z2 z3 z4 p1 p2;rcases Ve (Zb0 x) with hmx | hmx
   ·have hr:=Za (hbk.out (Zat hx.out (by rw[okP,hmx];rfl)))
    have hc:=Za (Ue hmx);have BF:=Za (hB.out _ B3.out);replace hmx:=Za hmx;rw[hc.out]
    go_wp2_with fail
    go_ret;exact⟨Zv hr.out.symm,BF.out⟩
   have hc:=Za (Zcc hmx);replace hmx:=Za hmx;rw[hc.out];have h5q:¬ (0:Int)<l:=by omega
   have hP:=Za (show okP n.1 x=true by rw[okP,hmx.out,hl.out];simp;omega);obtain⟨w4,hw4⟩:∃ w4,w3=w4:=⟨_,rfl⟩
   subst hw4;have B4:=B3;have C4:=C3;have t0:=r0;have t1:=r1;have t2:=r2;have p5:=p4;have lt4:=lt3;have lt0':w.heap.size<w3.heap.size:=Qc lt0 B4.out.size;clear r0 r1 r2 r3 r4 lt3;rcases(by rcases k with _ | j;exact Or.inl rfl;exact Or.inr ⟨j,rfl⟩:k=0\/∃ j,k=j+1) with hk0 | ⟨j,hkj⟩
   ·have hall:=Za (show ∀ j,j<k+1->Zfb n j=true from fun j hj=>by
     obtain rfl:j=0:=by omega
     subst hk0
     rw[Zey hx.out,hP.out])
    subst hk0
    go_wp2_with fail
    go_quiet (fail)
    go_wp2_with fail
    go_roundw
    case rel=>exact⟨0+1,by omega,by go_num,hall.out,Z3 B4.out _⟩
    case measure=>simp[intOf];omega
   ·obtain⟨y,hy⟩:∃ y,n.2[j]? = some y:=⟨_,Qe (by rw[hm.out];omega)⟩
    obtain⟨ad',E',ce',e',_,_,_,FY⟩:=Y4 HA.out hy;have e'':=Option.some.inj e';subst e'';clear e';have BW4:=Za (hB.out _ B4.out);have FYY:=Za fun W (hW:P9 _ _ W)=>(FY W (BW4.out.trans (hW.mono BW4.out.size))).1
    have hsucc:=Za (show Zfb n k=Zq y.1 x.1 by subst hkj;rw[Zcr hx.out hy,hP.out];simp);have hj1:(k:Int)-1=(j:Int):=by omega
    replace hy:=Za hy;obtain⟨s,hs⟩:∃ s,Zq y.1 x.1=s:=⟨_,rfl⟩
    rw[hs] at hsucc;replace hs:=Za hs;have hwj:IntKind.i64.wrap (j:Int)=(j:Int):=Qq _ (by omega);have hj0:(0:Int)<=(j:Int):=by omega
    have kpos:(0:Int)<(k:Int):=by omega
    have hjm:(j:Int)<(m:Int):=by omega
    clear FY
    go_wp2_with fail
    refine wp_region_fx (by kernel_rfl) (fun W=>P9 _ _ W) (fun _=>none) (fun i=>match i with
     | 12=>some (.bool s)
     | _=>none) (by kernel_rfl) (Qb _ _).drew (fun w w' h hb=>h.trans (hb.mono h.size)) (fun j φ x W W' hp=>by cases hp) ?_
    repeat (first
     | (refine wpAs_skip rfl ?_;simp only[Qa,Zb,Zc,Zd])
     | (refine wpAs_pure (v := ?_) rfl rfl ?_ ?_;rotate_left;(intro W hC hE;clear hE;(obtain⟨y0,y1,y2,y3,y4⟩:=FYY.out W hC;have x0:=(hC.cell (p:=⟨wr.heap.size,0,none⟩) lt4).trans t0;have x1:=(hC.cell (p:=⟨wr.heap.size,1,none⟩) lt4).trans t1;have x2:=(hC.cell (p:=⟨wr.heap.size,2,none⟩) lt4).trans t2;have p6:=(hC.cell (p:=⟨w.heap.size,1,none⟩) lt0').trans p5);clear hC;go_simp;first | done | with_reducible rfl);simp only[Qa,Zb,Zc,Zd]))
    refine wpAs_fixed rfl rfl rfl ?_ ?_
    ·intro W hC hE
     refine does_enter (f:=56) (args:=#[kyV y.1,kyV x.1]) ?_ ?_
     ·go_simp
     ·refine(Zg8 y.1 x.1 W).mono ?_
      rintro e W' ⟨rfl,hg⟩;rw[hs.out];exact⟨_,rfl,rfl,hg⟩
    simp only[Qa,Zb,Zc,Zd]
    repeat (first
     | (refine wpAs_skip rfl ?_;simp only[Qa,Zb,Zc,Zd])
     | (refine wpAs_pure (v := ?_) rfl rfl ?_ ?_;rotate_left;(intro W hC hE;clear hE;skip;clear hC;go_simp;first | done | with_reducible rfl);simp only[Qa,Zb,Zc,Zd]))
    refine wpAs_end fun W hC hE=> ?_
    have BW:=Za (B4.out.trans (hC.mono B4.out.size));clear hE hC;cases s with
    | true =>
     have hall:=Za (show ∀ j,j<k+1->Zfb n j=true from fun j hj=>by
      rcases Qn j k with h | h
      ·exact ha.out j h
      ·obtain rfl:j=k:=by omega
       exact hsucc.out)
     go_wp2_with fail
     go_roundw
     case rel=>exact⟨k+1,by omega,by go_num,hall.out,BW.out⟩
     case measure=>simp[intOf];omega
    | false =>
     have hr:=Za (hbk.out hsucc.out);have BF:=Za (hB.out _ BW.out)
     go_wp2_with fail
     go_ret;exact⟨Zv hr.out.symm,BF.out⟩}
theorem Zrg (w:Py) (x y z:UInt8) (a b c:Int) (h1:(x.toNat:Int)=a) (h2:(y.toNat:Int)=b) (h3:(z.toNat:Int)=c):∃ w1,w.alloc (.cells #[.int .u8 a,.int .u8 b,.int .u8 c] 5)=w1/\w1.ownsRow w.heap.size 5 1 (.slice (some ⟨w.heap.size,0,none⟩) 3 3) 3 (u8s [x,y,z])/\P9 w.heap.size w w1/\w1.heap.size=w.heap.size+1:=by
 subst h1 h2 h3;refine⟨_,rfl,?_,(Qb _ _).alloc (Qd _) _,by simp⟩;have h1:Row (w.alloc (.cells #[.int .u8 (x.toNat:Int),.int .u8 (y.toNat:Int),.int .u8 (z.toNat:Int)] 5)) w.heap.size [x,y,z]:=Row.new w [x,y,z];exact h1.own (Qd _) (by simp)
theorem Zg9 {l:Int}(h0:0<=l) (h1:l<256):((UInt8.ofNat l.toNat).toNat:Int)=l/\IntKind.u8.wrap l=l:=by{
 refine⟨?_,?_⟩
 ·rw[UInt8.toNat_ofNat']
  omega
 ·simp[IntKind.wrap,IntKind.signed,IntKind.bits]
  omega}
theorem Zej {n:Nd}(h:Xn n=true) (k:Nat):(Zae (n.2.take k)).length<=120:=by
 have h1:=Zlh (l:=n.2.take k) (fun x hx=>Zly h x (List.mem_of_mem_take hx));have h2:=(Zs h).1.2.2.1;have h3:(n.2.take k).length<=n.2.length:=by rw[Ph];omega
 omega
theorem Zk1 (v:Pz) (n:Nd) (w:Py) (h:Nod (Old w) w v n) :
  P8 Tryz.prog 79 #[v] w fun e w'=>∃ u,e=.returned (.tuple #[u,.int .i64 (Zyo n)])/\rBy (New w.heap.size w') w' [u] (wrN n)/\P9 w.heap.size w w':=by{
 obtain⟨A,c,rfl,hin,l1,m1,hA⟩:=h.open;obtain⟨w0,hw0,b0,hs0,hB0⟩:=Zy w (.int .i64 n.1) (.slice A n.2.length c) 81;obtain⟨f1,f2,_,lt0⟩:=Zg b0;have HN:=Za (h.below hB0);have HA:=Za hA;have HB0:=Za hB0;replace hs0:=Za hs0;clear h hA hB0 b0 hin;rcases Ve (Xn n) with hm | hm
 ·have hc:=Za (Zg0 hm)
  have hw:=Za (show wrN n=[] by simp[wrN,hm]);rw[hw.out]
  go_enter Tryz.func79,Tryz.ntmps79
  go_upto_region 1 with fail
  clear hw0
  go_wp2_with fail
  with_reducible refine(Zfg _ n _ HN.out).mono ?_
  rintro e1 w1 ⟨rfl,hb1⟩;rw[hc.out];have BF:=Za (HB0.out.trans (hb1.mono HB0.out.size));clear hb1
  go_wp2_with fail
  go_ret2
  exact⟨_,Zli hc.out.symm,Zaa _ _,BF.out⟩
 have hmay:=Za hm;have hc:=Za (Zp1 hm);have hwr:=Za (show wrN n=Zb5 n by simp[wrN,hm]);rw[hwr.out];obtain⟨⟨s1,s2,s3,_⟩,_⟩:=Zs hm;obtain⟨m,hmm⟩:∃ m,n.2.length=m:=⟨_,rfl⟩
 have hu1:=Zg9 s1 (by omega);have hu2:=Zg9 (l:=(n.2.length:Int)) (by omega) (by omega);have hhead:=Za (show Zl3 n=[78,UInt8.ofNat n.1.toNat,UInt8.ofNat n.2.length] from rfl);rw[Int.toNat_natCast] at hu2;rw[hmm] at l1 f2 hw0 HN HA s3 hu2 hhead ⊢;obtain⟨l,hl⟩:∃ l,n.1=l:=⟨_,rfl⟩
 rw[hl] at f1 hw0 HN s1 s2 hu1 hhead ⊢;replace hl:=Za hl;replace hmm:=Za hmm;clear hm
 go_enter Tryz.func79,Tryz.ntmps79
 go_upto_region 1 with fail
 clear hw0
 go_wp2_with fail
 with_reducible refine(Zfg _ n _ HN.out).mono ?_
 rintro e1 w1 ⟨rfl,hb1⟩;rw[hc.out];have B1:=Za (HB0.out.trans (hb1.mono HB0.out.size));have p1:=(hb1.cell (p:=⟨w.heap.size,0,none⟩) lt0).trans f1;have p2:=(hb1.cell (p:=⟨w.heap.size,1,none⟩) lt0).trans f2;have lt1:w.heap.size<w1.heap.size:=Qc lt0 hb1.size;clear hb1 f1 f2;obtain⟨w2,hw2,own2,hb2,hs2⟩:=Zrg w1 78 (UInt8.ofNat l.toNat) (UInt8.ofNat m) 78 l m rfl hu1.1 hu2.1;rw[<- hhead.out] at own2;have q1:=hu1.2;have q2:=hu2.2;have B2:=Za (B1.out.trans (hb2.mono B1.out.size));have p3:=(hb2.cell (p:=⟨w.heap.size,1,none⟩) lt1).trans p2;have lt2:w.heap.size<w2.heap.size:=Qc lt1 hb2.size;have h12:=Za hb2.size;replace own2:=Za own2;replace hu1:=Za hu1;replace hu2:=Za hu2;replace hs2:=Za hs2;have hb2':=Za hb2;have p2':=Za p2;clear hb2
 go_upto_region 5 with fail
 clear hw2 p1 p2
 go_wp2_with fail
 go_loopw [5,26] (fun b i wr=>∃ k:Nat,k<=m/\i=.int .i64 k/\wr.ownsRow w1.heap.size 5 1 b (3+(Zae (n.2.take k)).length) (u8s (Zl3 n++Zae (n.2.take k)))/\P9 w1.heap.size w1 wr) (fun _ i _=>m-(intOf i).toNat)
 case atStart=>exact⟨0,by omega,rfl,by simpa [Zae] using own2.out,hb2'.out⟩
 case round =>
  obtain⟨k,hk,rfl,hown,hb⟩:=hrel;replace hb:=Za hb;have h63:=Zej hmay.out k;obtain⟨B,cb,rfl,c1,c2,hby⟩:=Zfe hown;have BF:=Za (B1.out.trans (hb.out.mono B1.out.size));by_cases hlt:k<m
  case neg =>
   have hkm:Hid (n.2.take k=n.2):=Za (Qu (by rw[hmm.out];omega));rw[hkm.out] at hby c1 h63 ⊢;obtain⟨q,hq⟩:∃ q,3+(Zae n.2).length=q:=⟨_,rfl⟩
   have hlen:=Za (show (Xv n).length=q by rw[<- hq];simp[Xv,Zl3];omega);have hse:=Za (show se q=0 from if_pos (by omega));have hsb:=Za (show sb (Xv n)=Zb5 n from if_pos (by rw[hlen.out];omega));have HY:Hid (Byt wr wr.heap.size B (Xv n)):=Za hby
   rw[hq] at c1 ⊢;clear hown hq
   go_wp2_with fail
   with_reducible refine(Zzx B q cb (Xv n) hlen c1 c2 _ HY.out).mono ?_
   rintro e9 w9 ⟨u,rfl,ho,hb9⟩;rw[hse.out];rw[hsb.out] at ho;have hfin:=Za (Zf.mono (Zal ho) BF.out.size);have B9:=Za (BF.out.trans (hb9.mono BF.out.size));clear hb9 ho
   go_wp2_with fail
   go_ret2
   exact⟨_,Zli hc.out.symm,hfin.out,B9.out⟩
  have p4:=(hb.out.cell (p:=⟨w.heap.size,1,none⟩) lt1).trans p2'.out;obtain⟨x,hx⟩:∃ x,n.2[k]? = some x:=⟨_,Qe (by rw[hmm.out];exact hlt)⟩
  obtain⟨ad,E,ce,rfl,q1,q2,hinx,FX⟩:=Y4 HA.out hx;obtain⟨⟨z0,z1,z2,z3,z4⟩,hIx⟩:=FX wr BF.out;obtain⟨w3,hw3,r0,r1,r2,r3,r4,hs3,hB3,_⟩:=Z6 wr (.int .u8 (x.1.1.toNat:Int)) (.int .u32 x.1.2.1) (.int .u32 x.1.2.2) (.int .i64 x.2.1) (.slice E x.2.2.length ce) 54;have HI:=Za (hIx.below hB3);have B3:=Za (hb.out.trans (hB3.mono hb.out.size));have O3:=Za (Zr hown hB3);have hmx:=Zqs (Zek hmay.out hx);have hcx:=Za (Zcc hmx);have hwx:=Za (show wrI x=itB x by simp[wrI,hmx]);have htk:=Za (Znq hx);have hlx:=Za (show (itB x).length<=24 by have:=(Zax hmx).2;rw[Um];omega);replace hx:=Za hx;replace hs3:=Za hs3;clear FX hB3 hinx hIx hown hby hmx;unfold itV at *
  go_upto_region 8 with fail
  clear hw3 z0 z1 z2 z3 z4
  go_wp2_with fail
  with_reducible refine(Zp4 _ x _ HI.out).mono ?_
  rintro e4 w4 ⟨u,rfl,hu,hb4⟩;rw[hcx.out];rw[hwx.out] at hu;obtain⟨U,cu,rfl,_,_,hyu⟩:=Yq (B:=w4.heap.size) (fun p hp=>hp.2.1) hu;have B4:=B3.out.trans (hb4.mono B3.out.size);obtain⟨v5,w5,hr5,o5,ba5⟩:=X4 _ (3+(Zae (n.2.take k)).length) (itB x).length cu _ (itB x) U w1.heap.size w4 (Zr O3.out hb4) hyu rfl (by have:=hlx.out;omega) B4.size;have B5:=Za (B4.trans ba5);have H5:=Za hr5
  have o5':=Za (show w5.ownsRow w1.heap.size 5 1 v5 (3+(Zae (n.2.take (k+1))).length) (u8s (Zl3 n++Zae (n.2.take (k+1)))) by
   rw[htk.out,Qs,<- Qt,<- Q6]
   exact o5)
  clear hu hb4 hyu hr5 o5 ba5 B4
  go_wp2_with (at_builtin;refine Zi rfl _ _ _ rfl rfl rfl H5.out ?_;clear H5)
  go_roundw
  case rel=>exact⟨k+1,by omega,by go_num,o5'.out,B5.out⟩
  case measure=>simp[intOf];omega}
def Zq3 (body:List UInt8):Int:=((body[1]?.getD 0).toNat:Int)
def Vw (body:List UInt8):Nat:=(body[2]?.getD 0).toNat
theorem Zr2 (body:List UInt8):Vw body<256:=(body[2]?.getD 0).toNat_lt
theorem Zph (body:List UInt8):Zmp (Zq3 body):=by
 have:=(body[1]?.getD 0).toNat_lt;unfold Zq3;exact⟨by omega,by omega⟩
def ndN (body:List UInt8):Nd:=(Zq3 body,Zi2 (body.drop 3) (Vw body))
def rdN (body:List UInt8):Bool:=decide (body[0]?.getD 0=78)&&((X9 (body.drop 3) (Vw body)).isSome&&(Xn (ndN body)&&Xr (Ztr (body.drop 3) (Vw body))))
def reN (b:List UInt8):Int:=if oe b=0 then (if rdN (ob b) then 0 else 8) else oe b
def reV (b:List UInt8):Nd:=if oe b=0 then (if rdN (ob b) then ndN (ob b) else Zd6) else Zd6
theorem Zg2 {b:List UInt8}(h:oe b=0):b.length=128/\Zmo b/\ob b=b.drop 4/\(ob b).length=124:=by{
 unfold oe at h;by_cases h1:b.length=128
 ·rw[if_pos h1] at h
  by_cases h2:Zmo b
  ·have:ob b=b.drop 4:=by unfold ob;rw[if_pos ⟨h1,h2⟩]
   exact⟨h1,h2,this,by rw[this];simp[h1]⟩
  ·rw[if_neg h2] at h;cases h
 ·rw[if_neg h1] at h;cases h}
theorem Zk5 {b:List UInt8}(h:oe b≠0):reN b=oe b/\reV b=Zd6:=by
 unfold reN reV;rw[if_neg h,if_neg h];exact⟨rfl,rfl⟩
theorem Zmc {b:List UInt8}(h:oe b=0) (h':rdN (ob b)=false):reN b=8/\reV b=Zd6:=by
 unfold reN reV;rw[if_pos h,if_pos h,h'];exact⟨rfl,rfl⟩
theorem Zdb {b:List UInt8}(h:oe b=0) (h':rdN (ob b)=true):reN b=0/\reV b=ndN (ob b):=by
 unfold reN reV;rw[if_pos h,if_pos h,h'];exact⟨rfl,rfl⟩
def Zjw (lo:Nat) (w:Py) (u:Pz) (n:Nd):Prop:=∃ A c,u=.agg #[.int .i64 n.1,.slice A n.2.length c]/\Zmp n.1/\Ya rIt 5 54 lo w A c n.2
theorem Zjw.nod {lo:Nat}{w:Py}{u:Pz}{n:Nd}(h:Zjw lo w u n):Nod (New lo w) w u n:=by
 obtain⟨A,c,rfl,h1,h2⟩:=h;exact⟨_,rfl,h1,h2.rel Yl⟩
theorem Zjw.zero (lo:Nat) (w:Py):Zjw lo w (.agg #[.int .i64 0,.slice none 0 0]) Zd6:=⟨none,0,rfl,⟨by decide,by decide⟩,Ya.nil _ _ _ _ _⟩
theorem Zjw.new {lo lo':Nat}{w w':Py}{u:Pz}{n:Nd}(h:Zjw lo w u n) (hl:lo'<=lo) (hb:P9 w.heap.size w w'):Zjw lo' w' u n:=by
 obtain⟨A,c,rfl,h1,h2⟩:=h;exact⟨A,c,rfl,h1,(h2.below Yl hb).low Yl hl⟩
theorem Zjw.grown {lo:Nat}{w w':Py}{u:Pz}{n:Nd}{row:Option Nat}(h:Zjw lo w u n) (hg:w.grownBy w' row) (hr:∀ q,row=some q->q<lo):Zjw lo w' u n:=by
 obtain⟨A,c,rfl,h1,h2⟩:=h;exact⟨A,c,rfl,h1,h2.grown Yl hg hr⟩
theorem Znt (v:Pz) (b:List UInt8) (w:Py) (h:rBy (Old w) w [v] b) :
  P8 Tryz.prog 68 #[v] w fun e w'=>∃ u,e=.returned (.tuple #[u,.int .i64 (reN b)])/\Zjw w.heap.size w' u (reV b)/\P9 w.heap.size w w':=by{
 obtain⟨A,c,rfl,l1,m1,hy⟩:=Yq (B:=w.heap.size) (fun p hp=>hp) h;obtain⟨n,hn⟩:∃ n,b.length=n:=⟨_,rfl⟩
 rw[hn] at l1 ⊢;replace hn:=Za hn;obtain⟨w0,hw0,b0,hs0,hB0⟩:=Zy w (.int .i64 0) (.slice none 0 0) 81;have lt0:w.heap.size<w0.heap.size:=by omega
 have HB0:=Za hB0;have HY:=Za ((hy.below hB0).more hB0.size)
 have hzero:Hid (∀ (er:Int) (W:Py),reN b=er/\reV b=Zd6->P9 w0.heap.size w0 W->∃ W9,(W.setCell ⟨w.heap.size,0,none⟩ (.int .i64 0)).setCell ⟨w.heap.size,1,none⟩ (.slice none 0 0)=W9/\W9.cell? ⟨w.heap.size,0,none⟩=some (.int .i64 0)/\W9.cell? ⟨w.heap.size,1,none⟩=some (.slice none 0 0)/\(∀ o,W.frozen? ⟨w.heap.size,o,none⟩=false)/\W.cell? ⟨w.heap.size,0,none⟩=some (.int .i64 0)/\W.cell? ⟨w.heap.size,1,none⟩=some (.slice none 0 0) /\
   (∃ u,Ending.returned (.tuple #[.agg #[.int .i64 0,.slice none 0 0],.int .i64 er])=.returned (.tuple #[u,.int .i64 (reN b)])/\Zjw w.heap.size W9 u (reV b)/\P9 w.heap.size w W9)):=Za fun er W hre hW=>by
  have bW:=(hW.block w.heap.size lt0).trans b0;obtain⟨W9,e9,g9,gr9,gs9⟩:=Ys (u:=.int .i64 0) (v:=.slice none 0 0) bW;obtain⟨k0,k1,kf,_⟩:=Zg g9;obtain⟨y0,y1,yf,_⟩:=Zg bW;have hBW:=HB0.out.trans (hW.mono HB0.out.size);exact⟨W9,e9,k0,k1,yf,y0,y1,_,by rw[hre.1],by rw[hre.2];exact Zjw.zero _ _,hBW.grown gr9 hBW.size (fun q e=>by cases e;omega)⟩
 replace b0:=Za b0;replace hw0:=Za hw0;clear hB0 hs0 h hy
 go_enter Tryz.func68,Tryz.ntmps68
 go_upto_region 1 with fail
 rw[hw0.out];clear hw0
 go_wp2_with fail
 with_reducible refine(Z1a A n c b hn l1 m1 _ HY.out).mono ?_
 rintro e1 w1 ⟨v1,rfl,ho1,hb1⟩;have B1:=Za hb1;have hBW1:=Za (show w.heap.size<=w1.heap.size from Qf (Qp lt0) hb1.size);obtain⟨er,hoe⟩:∃ er,oe b=er:=⟨_,rfl⟩
 rw[hoe];by_cases h0:er=0
 case neg =>
  have t0:(er != 0)=true:=by simpa using h0
  obtain⟨W9,e9,k0,k1,yf,y0,y1,hfin⟩:=hzero.out er w1 (by rw[<- hoe];exact Zk5 (by rw[hoe];exact h0)) B1.out;replace hfin:=Za hfin;replace h0:=Za h0;replace hoe:=Za hoe;clear ho1 hb1
  go_wp2_with fail
  exact P5 (v:=.tuple #[.agg #[.int .i64 0,.slice none 0 0],.int .i64 er]) (by simp[results,Tryz.results68,go_sem,k0,k1]) rfl hfin.out
 subst h0;obtain⟨hlen,hfits,hob,hl124⟩:=Zg2 hoe;have HZ:=Za (fun W h hW=>hzero.out 8 W (Zmc hoe h) hW);have HG:=Za (fun h=>Zdb hoe h);have hr1:=Zal ho1;obtain⟨bd,hbd⟩:∃ bd,ob b=bd:=⟨_,rfl⟩
 rw[hbd] at hr1 HZ HG hl124;replace hbd:=Za hbd;obtain⟨Q,cq,rfl,n1,n2,hcell⟩:=Zm hr1;rw[hl124] at n1 hcell hr1 ⊢;obtain⟨ad,rfl,hn0,hc0⟩:=hcell 0 (by omega);obtain⟨_,e,hn1',hc1⟩:=hcell 1 (by omega);cases e;obtain⟨_,e,hn2',hc2⟩:=hcell 2 (by omega);cases e;have z0:w1.cell? ad=some (.int .u8 ((bd[0]?.getD 0).toNat:Int)):=by simpa [Addr.add] using hc0
 have z1:w1.cell? ⟨ad.block,ad.off+1,none⟩=some (.int .u8 ((bd[1]?.getD 0).toNat:Int)):=by simpa [Addr.add] using hc1
 have z2:w1.cell? ⟨ad.block,ad.off+2,none⟩=some (.int .u8 ((bd[2]?.getD 0).toNat:Int)):=by simpa [Addr.add] using hc2
 have ltb:ad.block<w1.heap.size:=Q7 _ _ z0;have hrest:=Za (Zg5 (Zf.drop hr1) 3 (by omega));have hl:=Za hl124;replace hoe:=Za hoe;clear hfits hob hlen hc0 hc1 hc2 hn0 hn1' hn2' ho1 hb1 hcell hl124 hzero;have hrd:Hid (rdN bd=(decide (bd[0]?.getD 0=78)&&((X9 (bd.drop 3) (Vw bd)).isSome&&(Xn (ndN bd)&&Xr (Ztr (bd.drop 3) (Vw bd)))))):=Za rfl;obtain⟨x0,hx0⟩:∃ x,bd[0]?.getD 0=x:=⟨_,rfl⟩
 rw[hx0] at z0 hrd;replace hx0:=Za hx0;by_cases h78:(x0.toNat:Int)=78
 case neg =>
  have t0:((x0.toNat:Int) != 78)=true:=by simpa using h78
  obtain⟨W9,e9,k0,k1,yf,y0,y1,hfin⟩:=HZ.out w1 (by rw[hrd.out];simp;intro e;exact absurd (by rw[e];rfl) h78) B1.out;replace hfin:=Za hfin;replace h78:=Za h78;clear hr1
  go_wp2_with fail
  exact P5 (v:=.tuple #[.agg #[.int .i64 0,.slice none 0 0],.int .i64 8]) (by simp[results,Tryz.results68,go_sem,k0,k1]) rfl hfin.out
 have t0:((x0.toNat:Int) != 78)=false:=by simpa using h78
 have h78':=Za (show x0=78 from UInt8.toNat.inj (by show x0.toNat=78;omega));replace h78:=Za h78;obtain⟨mn,hmn⟩:∃ m,Vw bd=m:=⟨_,rfl⟩
 have hmlt:=Zr2 bd;rw[hmn] at hmlt hrd;have z2':w1.cell? ⟨ad.block,ad.off+2,none⟩=some (.int .u8 (mn:Int)):=by rw[<- hmn];exact z2
 have hmn':=Za hmn;clear z2 hr1 hmn;have had3:ad.add 3=⟨ad.block,ad.off+3,none⟩:=by simp[Addr.add]
 rw[had3] at hrest;have hres:=Za (fun W (hW:P9 w1.heap.size w1 W)=>Zps _ (bd.drop 3) mn hmlt W (Zf.old hrest.out hW))
 go_upto_region 6 with fail
 obtain⟨L,hL⟩:∃ L,Zi2 (bd.drop 3) mn=L:=⟨_,rfl⟩
 obtain⟨R,hR⟩:∃ R,Ztr (bd.drop 3) mn=R:=⟨_,rfl⟩
 obtain⟨F,hF⟩:∃ F,Z18 (bd.drop 3) mn=F:=⟨_,rfl⟩
 rw[hL,hR,hF] at hres;have c3:¬ cq=3:=by omega
 have c4:(3:Int)<=cq:=by omega
 have hwm:IntKind.i64.wrap (mn:Int)=(mn:Int):=Qq _ (by omega)
 refine wp_region_fx (by kernel_rfl) (fun W=>P9 w1.heap.size w1 W) (fun i=>match i with
   | 6=>some (fun v W=>∃ A c u,v=.tuple #[.slice A L.length c,u,.int .i64 F]/\Ya rIt 5 54 w1.heap.size W A c L/\rBy (Old W) W [u] R)
   | 7=>some (fun v W=>∃ A c u,v=.tuple #[.slice A L.length c,u,.int .i64 F]/\Ya rIt 5 54 w1.heap.size W A c L/\rBy (Old W) W [u] R)
   | 8=>some (fun v W=>∃ A c,v=.slice A L.length c/\Ya rIt 5 54 w1.heap.size W A c L)
   | 9=>some (fun v W=>rBy (Old W) W [v] R)
   | _=>none) (fun i=>match i with
   | 10=>some (.int .i64 F)
   | _=>none) (by kernel_rfl) (Qb _ _).drew (fun w w' h hb=>h.trans (hb.mono h.size)) ?tst ?_
 case tst =>
  intro j φ x W W' hp hx hb
  match j,hp with
  | 6,hp =>
   cases hp;obtain⟨A,c,u,e,h1,h2⟩:=hx;exact⟨A,c,u,e,h1.below Yl hb,Zf.old h2 hb⟩
  | 7,hp =>
   cases hp;obtain⟨A,c,u,e,h1,h2⟩:=hx;exact⟨A,c,u,e,h1.below Yl hb,Zf.old h2 hb⟩
  | 8,hp =>
   cases hp;obtain⟨A,c,e,h1⟩:=hx;exact⟨A,c,e,h1.below Yl hb⟩
  | 9,hp=>cases hp;exact Zf.old hx hb
 repeat (first
  | (refine wpAs_skip rfl ?_;simp only[Qa,Zb,Zc,Zd])
  | (refine wpAs_pure (v := ?_) rfl rfl ?_ ?_;rotate_left;(intro W hC hE;clear hE;(have y2:=(hC.cell (p:=⟨ad.block,ad.off+2,none⟩) ltb).trans z2');clear hC;go_simp;first | done | with_reducible rfl);simp only[Qa,Zb,Zc,Zd]))
 refine wpAs_act rfl rfl ?_ ?_
 ·intro W hC hE
  refine does_enter (f:=114) (args:=#[.slice (some ⟨ad.block,ad.off+3,none⟩) 121 (cq-3),.int .i64 mn]) ?_ ?_
  ·go_simp
  ·refine(hres.out W hC).mono ?_
   rintro e W' ⟨A,c,u,rfl,h1,h2,hw⟩;exact⟨_,rfl,⟨A,c,u,rfl,h1.low Yl hC.size,h2⟩,hw⟩
 simp only[Qa,Zb,Zc,Zd,envAdd];intro x30;refine wpAs_act rfl rfl ?_ ?_
 ·intro W hC hE
  have hx:=hE.1 rfl;clear hE
  go_simp
  exact⟨hx,Qb _ _⟩
 simp only[Qa,Zb,Zc,Zd,envAdd];intro x23;refine wpAs_act rfl rfl ?_ ?_
 ·intro W hC hE
  obtain⟨A,c,u,rfl,h1,h2⟩:=hE.1 rfl;clear hE;have H1:=Za h1;clear h1 h2
  go_simp
  exact⟨⟨_,_,rfl,H1.out⟩,Qb _ _⟩
 simp only[Qa,Zb,Zc,Zd,envAdd];intro x31;refine wpAs_act rfl rfl ?_ ?_
 ·intro W hC hE
  obtain⟨A,c,u,rfl,h1,h2⟩:=hE.2.1 rfl;clear hE;have H2:=Za h2;clear h1 h2
  go_simp
  exact⟨H2.out,Qb _ _⟩
 simp only[Qa,Zb,Zc,Zd,envAdd];intro x32;refine wpAs_fixed rfl rfl rfl ?_ ?_
 ·intro W hC hE
  obtain⟨A,c,u,rfl,h1,h2⟩:=hE.2.2.1 rfl;clear hE h1 h2
  go_simp
  exact⟨rfl,Qb _ _⟩
 simp only[Qa,Zb,Zc,Zd]
 repeat (first
  | (refine wpAs_skip rfl ?_;simp only[Qa,Zb,Zc,Zd])
  | (refine wpAs_pure (v := ?_) rfl rfl ?_ ?_;rotate_left;(intro W hC hE;clear hE;skip;clear hC;go_simp;first | done | with_reducible rfl);simp only[Qa,Zb,Zc,Zd]))
 refine wpAs_end fun wc hC hE=> ?_
 have H31:=hE.2.1;have H32:=hE.1;clear hE;have BC:=Za (B1.out.trans (hC.mono B1.out.size));have y1:=(hC.cell (p:=⟨ad.block,ad.off+1,none⟩) ltb).trans z1;clear hC;obtain⟨X,cx,rfl,R31⟩:=H31;have H31:=R31.rel Yl;obtain⟨n3,n4,_,_⟩:=R31.form;replace R31:=Za R31;obtain⟨Y,cy,rfl,n5,n6,hy32⟩:=Yq (B:=wc.heap.size) (fun p hp=>hp) H32;cases hct:X9 (bd.drop 3) mn with
 | none =>
  have hF8:F=8:=by rw[<- hF];simp[Z18,hct]
  subst hF8;obtain⟨W9,e9,k0,k1,yf,u0,u1,hfin⟩:=HZ.out wc (by rw[hrd.out,hct];simp) BC.out;replace hfin:=Za hfin;replace hct:=Za hct;replace hF:=Za hF;clear H31 H32 hy32
  go_wp2_with fail
  exact P5 (v:=.tuple #[.agg #[.int .i64 0,.slice none 0 0],.int .i64 8]) (by simp[results,Tryz.results68,go_sem,k0,k1]) rfl hfin.out
 | some p =>
  obtain⟨l',r'⟩:=p;have hF0:F=0:=by rw[<- hF];simp[Z18,hct]
  subst hF0;have hsome:=Za (show (X9 (bd.drop 3) mn).isSome=true by rw[hct];rfl);replace hct:=Za hct;replace hF:=Za hF;replace hL:=Za hL;replace hR:=Za hR;obtain⟨lv,hlv⟩:∃ lv,Zq3 bd=lv:=⟨_,rfl⟩
  have hlin:=Za (Zph bd);have hnd:=Za (show ndN bd=(lv,L) by rw[ndN,hlv,hmn'.out,hL.out]);rw[hlv] at hlin;have y1':wc.cell? ⟨ad.block,ad.off+1,none⟩=some (.int .u8 lv):=by rw[<- hlv];exact y1
  have hlw:IntKind.i64.wrap lv=lv:=Qq _ (by have:=hlin.out;exact⟨this.1,this.2⟩);replace hlv:=Za hlv;clear y1;obtain⟨w2,hw2,b2,hs2,hB2⟩:=Zy wc (.int .i64 lv) (.slice X L.length cx) 81;obtain⟨f1,f2,_,lt2⟩:=Zg b2;have N2:Nod (New w1.heap.size w2) w2 (.agg #[.int .i64 lv,.slice X L.length cx]) (lv,L):=⟨_,rfl,hlin.out,Z5.new H31 (Qd _) hB2⟩
  have HN2:=Za N2;have HR2:=Za (show Zjw w1.heap.size w2 (.agg #[.int .i64 lv,.slice X L.length cx]) (lv,L) from ⟨X,cx,rfl,hlin.out,R31.out.below Yl hB2⟩);have B2:=Za (BC.out.trans (hB2.mono BC.out.size));have HY2:=Za ((hy32.below hB2).more hB2.size);replace hs2:=Za hs2;replace b2:=Za b2;clear H31 H32 hy32 N2 hB2
  go_upto_region 10 with fail
  clear hw2 y1'
  go_wp2_with fail
  with_reducible refine(Zfg _ (lv,L) _ HN2.out.drop).mono ?_
  rintro e3 w3 ⟨rfl,hb3⟩;have B3:=Za (B2.out.trans (hb3.mono B2.out.size));have HN3:=Za (HR2.out.new (Qd _) hb3);have g1:=(hb3.cell (p:=⟨wc.heap.size,0,none⟩) lt2).trans f1;have g2:=(hb3.cell (p:=⟨wc.heap.size,1,none⟩) lt2).trans f2;have HY3:=Za ((HY2.out.below hb3).more hb3.size);have lt3:wc.heap.size<w3.heap.size:=Qc lt2 hb3.size;clear hb3 f1 f2;rcases Ve (Xn (lv,L)) with hm | hm
  ·have hc:=Za (Zg0 hm)
   obtain⟨W9,e9,k0,k1,yf,u0,u1,hfin⟩:=HZ.out w3 (by rw[hrd.out,hnd.out,hm];simp) B3.out;replace hfin:=Za hfin;replace hm:=Za hm;rw[hc.out]
   go_wp2_with fail
   exact P5 (v:=.tuple #[.agg #[.int .i64 0,.slice none 0 0],.int .i64 8]) (by simp[results,Tryz.results68,go_sem,k0,k1]) rfl hfin.out
  have hc:=Za (Zp1 hm);rw[hc.out];obtain⟨rl,hrl⟩:∃ n,R.length=n:=⟨_,rfl⟩
  rw[hrl] at n5 ⊢;replace hrl:=Za hrl
  go_wp2_with fail
  with_reducible refine(Zo0 Y rl cy R hrl n5 n6 _ HY3.out).mono ?_
  rintro e4 w4 ⟨rfl,rfl⟩;rcases Ve (Xr R) with hz | hz
  ·obtain⟨W9,e9,k0,k1,yf,u0,u1,hfin⟩:=HZ.out w3 (by rw[hrd.out,hnd.out,hR.out,hz];simp) B3.out
   replace hfin:=Za hfin;rw[hz];replace hz:=Za hz;replace hm:=Za hm
   go_wp2_with fail
   exact P5 (v:=.tuple #[.agg #[.int .i64 0,.slice none 0 0],.int .i64 8]) (by simp[results,Tryz.results68,go_sem,k0,k1]) rfl hfin.out
  ·have hgood:=Za (HG.out (by rw[hrd.out,hnd.out,hR.out,hz,hm,hsome.out,h78'.out];rfl))
   have bW:=(B3.out.block w.heap.size lt0).trans b0.out;obtain⟨W9,e9,g9,gr9,gs9⟩:=Ys (u:=.int .i64 lv) (v:=.slice X L.length cx) bW;obtain⟨k0,k1,kf,_⟩:=Zg g9;obtain⟨u0,u1,yf,_⟩:=Zg bW;have hBW:=HB0.out.trans (B3.out.mono HB0.out.size)
   have hfin:Hid (Zjw w.heap.size W9 (.agg #[.int .i64 lv,.slice X L.length cx]) (reV b)/\P9 w.heap.size w W9):=Za ⟨by
    rw[hgood.out.2,hnd.out]
    exact(HN3.out.grown gr9 (fun q e=>by cases e;exact Qc lt0 B1.out.size)).new hBW1.out (Qb _ _),hBW.grown gr9 hBW.size (fun q e=>by cases e;omega)⟩
   rw[hz];replace hz:=Za hz;replace hm:=Za hm;replace bW:=Za bW;replace g9:=Za g9;clear gr9
   go_wp2_with fail
   exact P5 (v:=.tuple #[.agg #[.int .i64 lv,.slice X L.length cx],.int .i64 0]) (by simp[results,Tryz.results68,go_sem,k0,k1]) rfl ⟨_,by rw[hgood.out.1],hfin.out.1,hfin.out.2⟩}
def rmE (s:Rm) (n:Int):Int:=if asE s n=0 then reN (Z4 s.1 n.toNat) else asE s n
def rmV (s:Rm) (n:Int):Nd:=if asE s n=0 then reV (Z4 s.1 n.toNat) else Zd6
theorem Zrl {s:Rm}{n:Int}(h:asE s n≠0):rmE s n=asE s n/\rmV s n=Zd6:=⟨by rw[rmE,if_neg h],by rw[rmV,if_neg h]⟩
theorem Xb {s:Rm}{n:Int}(h:asE s n=0):∃ k:Nat,n=k/\Yp s=true/\8<=k/\k<256/\V0 s.1 n=0/\rdX s.1 n=Z4 s.1 k/\rmE s n=reN (Z4 s.1 k)/\rmV s n=reV (Z4 s.1 k)/\s.2.1[k]?.getD 0≠0:=by{
 rcases Zcu s n with ⟨_,e⟩ | ⟨_,_,e⟩ | ⟨k,_,_,_,_,_,e⟩ | ⟨k,hm,rfl,h8,h256,hx,e⟩
 ·rw[e] at h;cases h
 ·rw[e] at h;cases h
 ·rw[e] at h;cases h
 ·have hmd:=(Zw hm).1
  have ht:=Zex h256;exact⟨k,rfl,hm,h8,h256,by simp[V0,hmd,ht],by simp[rdX,V0,hmd,ht],by rw[rmE,if_pos h];rfl,by rw[rmV,if_pos h];rfl,hx⟩}
theorem Zeo (v:Pz) (s:Rm) (n:Int) (w:Py) (h:Sto (Old w) w v s) :
  P8 Tryz.prog 36 #[v,.int .i64 n] w fun e w'=>∃ u,e=.returned (.tuple #[u,.int .i64 (rmE s n)])/\Zjw w.heap.size w' u (rmV s n)/\P9 w.heap.size w w':=by{
 obtain⟨A,ca,B,cb,N,cn,L,cl,rfl,_,_,_⟩:=h.open;obtain⟨w1,hw1,f1,f2,hsz,hB⟩:∃ w1,(w.alloc (.cells #[.slice A s.1.1.length ca,.slice B s.1.2.length cb,.slice N s.2.1.length cn,.slice L s.2.2.length cl] 29)).alloc (.cells #[.int .i64 0,.slice none 0 0] 81)=w1 /\
   w1.heap[w.heap.size]? = some (.cells #[.slice A s.1.1.length ca,.slice B s.1.2.length cb,.slice N s.2.1.length cn,.slice L s.2.2.length cl] 29 (0,0))/\w1.heap[w.heap.size+1]? = some (.cells #[.int .i64 0,.slice none 0 0] 81 (0,0))/\w1.heap.size=w.heap.size+2/\P9 w.heap.size w w1:=by
  refine⟨_,rfl,Yk (P7 _ _),?_,by simp,((Qb _ w).alloc (Qd _) _).alloc (by simp) _⟩;have:=P7 (w.alloc (.cells #[.slice A s.1.1.length ca,.slice B s.1.2.length cb,.slice N s.2.1.length cn,.slice L s.2.2.length cl] 29)) (.cells #[.int .i64 0,.slice none 0 0] 81)
  rwa [Pc] at this
 have H:=Za (h.below hB);clear h;obtain⟨k0,k1,k2,k3,_,kg⟩:=Ze f1;replace hsz:=Za hsz;replace f2:=Za f2;obtain⟨q,hq⟩:∃ q,rmE s n=q:=⟨_,rfl⟩
 by_cases ha:asE s n=0
 ·obtain⟨k,rfl,hm,h8,h256,hck,hrd,hE,hV,-⟩:=Xb ha
  obtain⟨b,hb⟩:∃ b,Z4 s.1 k=b:=⟨_,rfl⟩
  rw[hb] at hrd hE hV;rw[hE] at hq;replace hE:Hid (rmE s (k:Int)=q):=Za (by rw[hE,hq]);replace hq:=Za hq;replace ha:=Za ha;replace hck:=Za hck;replace hrd:=Za hrd;replace hV:=Za hV;replace hb:=Za hb
  go_enter Tryz.func36,Tryz.ntmps36
  go_upto_region 1 with fail
  clear hw1
  go_wp2_with fail
  with_reducible refine(Vp _ s (k:Int) _ H.out).mono ?_
  rintro e w2 ⟨rfl,hb2⟩;rw[ha.out];have G2:=(hb2.block w.heap.size kg).trans f1;obtain⟨m0,m1,m2,m3,_,mg⟩:=Ze G2;have F2:=Za ((hb2.block (w.heap.size+1) (by rw[hsz.out];omega)).trans f2.out);have H2:=Za (H.out.below hb2);have s2:Hid (w.heap.size+2<=w2.heap.size):=Za (by have:=hb2.size;have:=hsz.out;omega);replace hb2:=Za (hB.trans (hb2.mono hB.size));clear k0 k1 k2 k3 kg f1 hB G2
  go_wp2_with fail
  with_reducible refine(Z0c _ s.1 (k:Int) _ H2.out.parts.1).mono ?_
  rintro e w3 ⟨u3,rfl,h3,hb3⟩;rw[hck.out];rw[hrd.out] at h3;obtain⟨R,rc,rfl,_⟩:=id (Zm h3);have F3:=Za ((hb3.block (w.heap.size+1) (by have:=s2.out;omega)).trans F2.out);have B3:=Za (hb2.out.trans (hb3.mono hb2.out.size));have s3:Hid (w.heap.size+2<=w3.heap.size):=Za (by have:=hb3.size;have:=s2.out;omega);have H3:=Za (Zf.drop h3);clear hb3 h3 m0 m1 m2 m3 mg F2
  go_wp2_with fail
  with_reducible refine(Znt _ b _ H3.out).mono ?_
  rintro e w4 ⟨u4,rfl,h4,hb4⟩;rw[hq.out];obtain⟨P,pc,rfl,_⟩:=id h4;have F4:=(hb4.block (w.heap.size+1) (by have:=s3.out;omega)).trans F3.out;obtain⟨m0,m1,m2,m3⟩:=Zg F4;obtain⟨W9,hW9,g9,gr9,gs9⟩:=Ys (u:=.int .i64 (reV b).1) (v:=.slice P (reV b).2.length pc) F4;obtain⟨n0,n1,_,_⟩:=Zg g9;have r3:=s3.out;have l3:=B3.out.size
  have hfin:=Za (show Zjw w.heap.size W9 (.agg #[.int .i64 (reV b).1,.slice P (reV b).2.length pc]) (rmV s (k:Int)) from by
   rw[hV.out]
   exact(h4.grown gr9 (fun q e=>by cases e;omega)).new l3 (Qb _ _))
  have hB9:=Za ((B3.out.trans (hb4.mono B3.out.size)).grown gr9 (Qf l3 hb4.size) (fun q e=>by cases e;omega));replace F4:=Za F4;replace g9:=Za g9;clear gr9 gs9 h4 hb4 r3 l3
  go_wp2_with fail
  refine P5 (v:=.tuple #[.agg #[.int .i64 (reV b).1,.slice P (reV b).2.length pc],.int .i64 q]) (by simp[results,Tryz.results36,go_sem,n0,n1]) rfl ?_;rw[hE.out];exact⟨_,rfl,hfin.out,hB9.out⟩
 ·obtain⟨hE,hV⟩:=Zrl ha
  rw[hE] at hq;have hq1:(q != 0)=true:=by rw[<- hq];simpa using ha
  have hq2:Hid (asE s n=q):=Za hq;replace hq:Hid (rmE s n=q):=Za (by rw[hE];exact hq);replace hV:=Za hV;clear ha hE
  go_enter Tryz.func36,Tryz.ntmps36
  go_upto_region 1 with fail
  clear hw1
  go_wp2_with fail
  with_reducible refine(Vp _ s n _ H.out).mono ?_
  rintro e w2 ⟨rfl,hb2⟩;rw[hq2.out];have F2:=(hb2.block (w.heap.size+1) (by rw[hsz.out];omega)).trans f2.out;replace hb2:=Za (hB.trans (hb2.mono hB.size));obtain⟨m0,m1,m2,m3⟩:=Zg F2;obtain⟨W9,hW9,g9,gr9,gs9⟩:=Ys (u:=.int .i64 0) (v:=.slice none 0 0) F2;obtain⟨n0,n1,_,_⟩:=Zg g9;have hB9:=Za ((hb2).out.grown gr9 (hb2).out.size (fun q e=>by cases e;omega));replace g9:=Za g9;replace F2:=Za F2;clear gr9 gs9
  go_wp2_with fail
  refine P5 (v:=.tuple #[.agg #[.int .i64 0,.slice none 0 0],.int .i64 q]) (by simp[results,Tryz.results36,go_sem,n0,n1]) rfl ?_;rw[hV.out,hq.out];exact⟨_,rfl,Zjw.zero _ _,hB9.out⟩}
theorem Zm7 (v:Pz) (s:Rm) (n:Int) (w:Py) (h:Sto (Old w) w v s) :
  P8 Tryz.prog 36 #[v,.int .i64 n] w fun e w'=>∃ u,e=.returned (.tuple #[u,.int .i64 (rmE s n)])/\Nod (New w.heap.size w') w' u (rmV s n)/\P9 w.heap.size w w' :=
 (Zeo v s n w h).mono fun _ _ ⟨u,e1,h1,h2⟩=>⟨u,e1,h1.nod,h2⟩
def Zep (l:List It) (k:Ky):Nat:=(l.filter fun x=>Zq x.1 k).length
theorem Zyi (l:List It) (k:Ky):Zep l k<=l.length:=List.length_filter_le _ _
theorem Zon (l:List It) (k:Ky) (i:Nat):Zep (l.take i) k<=i:=Qf (Zyi _ _) (List.length_take_le _ _)
theorem Zq7 {l:List It}{k:Ky}{i:Nat}{x:It}(hx:l[i]? = some x) (h:Zq x.1 k=true):Zep (l.take (i+1)) k=Zep (l.take i) k+1:=by
 unfold Zep;rw[Qx,hx,Option.toList_some,Pd];simp[h]
theorem Z3t {l:List It}{k:Ky}{i:Nat}{x:It}(hx:l[i]? = some x) (h:Zq x.1 k=false):Zep (l.take (i+1)) k=Zep (l.take i) k:=by
 unfold Zep;rw[Qx,hx,Option.toList_some,Pd];simp[h]
def Yi (n:Nd) (k:Ky):Nat:=Zep n.2 k
def Y8 (n:Nd) (k:Ky):Bool:=match n.2[Yi n k]? with
 | none=>false
 | some x=>decide (x.1=k)
theorem Zkc {n:Nd}{k:Ky}(h:n.2.length<=Yi n k):Y8 n k=false:=by
 unfold Y8;rw[Pt h]
theorem Ziq {n:Nd}{k:Ky}{x:It}(h:n.2[Yi n k]? = some x):Y8 n k=decide (x.1=k):=by
 unfold Y8;rw[h]
theorem Zcv:Tryz.prog.eqGuardType Tryz.prog.depth 37=false:=by kernel_rfl
theorem Zmr (a b:Ky) (w:Py):(Op.equalIn 10000 37 (kyV a) (kyV b)).run Tryz.prog w=.ok (decide (a=b)) w:=by{
 have hS:Tryz.prog.underlying 37=some (.struct (Tryz.prog.fieldsOf 37)):=by kernel_rfl
 have hp:Tryz.prog.stoodInHeld 37=false:=by kernel_rfl
 have u3:=Tryz.underlying5;have u4:=Tryz.underlying32;have a3:=Tryz.isAgg5;have z3:=Tryz.sizeOf5;have a4:=Tryz.isAgg32;have z4:=Tryz.sizeOf32;obtain⟨a1,a2,a3⟩:=a;obtain⟨b1,b2,b3⟩:=b;have h:a1=b1↔(a1.toNat:Int)=b1.toNat:=⟨fun h=>by rw[h],fun h=>UInt8.toNat.inj (by omega)⟩
 simp only[Prod.mk.injEq,h];unfold kyV;rw[show (10000:Nat)=9999+1 from rfl,run_equalIn_agg w 9999 37 _ _ hS hp];simp only[Program.fieldsOf,Tryz.underlying37]
 go_simp
 by_cases h1:(a1.toNat:Int)=b1.toNat <;> by_cases h2:a2=b2 <;> by_cases h3:a3=b3 <;> simp[h1,h2,h3]}
theorem Zew (v:Pz) (n:Nd) (key:Ky) (w:Py) (h:Nod (Old w) w v n) :
  P8 Tryz.prog 39 #[v,kyV key] w fun e w'=>e=.returned (.tuple #[.int .i64 (Yi n key:Nat),.bool (Y8 n key)])/\P9 w.heap.size w w':=by{
 obtain⟨A,c,rfl,_,l1,m1,hA⟩:=h.open;have HA:=Za hA;clear h hA;have hout:=Za (fun hh=>Zkc (n:=n) (k:=key) hh);obtain⟨m,hm⟩:∃ m,n.2.length=m:=⟨_,rfl⟩
 obtain⟨l,hl⟩:∃ l,n.1=l:=⟨_,rfl⟩
 rw[hm] at l1 HA hout ⊢;rw[hl];clear hl;replace hm:=Za hm;obtain⟨w1,hw1,b1,hs1,hB1⟩:=Zy w (.int .i64 l) (.slice A m c) 81;obtain⟨w0,hw0,g0,g1,g2,hs0,hB2,_⟩:=Xf w1 (.int .u8 (key.1.toNat:Int)) (.int .u32 key.2.1) (.int .u32 key.2.2) 37;obtain⟨_,f2',_,lt1⟩:=Zg b1;have f2:=(hB2.cell (p:=⟨w.heap.size,1,none⟩) lt1).trans f2';have hB0:=Za (hB1.trans (hB2.mono hB1.size));have lt0:w.heap.size<w0.heap.size:=Qc lt1 hB2.size;have ltk:w1.heap.size<w0.heap.size:=by omega
 have hB:=Za (fun wr (hb:P9 w0.heap.size w0 wr)=>hB0.out.trans (hb.mono hB0.out.size));clear hB1 hB2 b1 f2';replace hs1:=Za hs1;replace hs0:=Za hs0;unfold kyV
 go_enter Tryz.func39,Tryz.ntmps39
 go_upto_region 1 with fail
 clear hw0 hw1
 go_wp2_with fail
 go_loopw [4,11] (fun a i wr=>∃ k:Nat,k<=m/\i=.int .i64 k/\a=.int .i64 (Zep (n.2.take k) key:Nat)/\P9 w0.heap.size w0 wr) (fun _ i _=>m-(intOf i).toNat)
 case atStart=>exact⟨0,by omega,rfl,rfl,Qb _ _⟩
 case round =>
  obtain⟨k,hk,rfl,rfl,hb⟩:=hrel;have hcle:=Zon n.2 key k;replace hb:=Za hb;have p2:=(hb.out.cell (p:=⟨w.heap.size,1,none⟩) lt0).trans f2;have y0:=(hb.out.cell (p:=⟨w1.heap.size,0,none⟩) ltk).trans g0;have y1:=(hb.out.cell (p:=⟨w1.heap.size,1,none⟩) ltk).trans g1;have y2:=(hb.out.cell (p:=⟨w1.heap.size,2,none⟩) ltk).trans g2;have BF:=Za (hB.out _ hb.out);by_cases hlt:k<m
  case neg =>
   have hkm:Hid (n.2.take k=n.2):=Za (Qu (by rw[hm.out];omega));have hat:=Za (show Zep (n.2.take k) key=Yi n key by rw[hkm.out];rfl);rw[hat.out] at hcle ⊢;obtain⟨p,hp⟩:∃ p,Yi n key=p:=⟨_,rfl⟩
   rw[hp] at hcle hout ⊢;by_cases hpm:p<m
   ·obtain⟨x,hx⟩:∃ x,n.2[p]? = some x:=⟨_,Qe (by rw[hm.out];exact hpm)⟩
    obtain⟨ad,E,ce,rfl,_,_,_,FX⟩:=Y4 HA.out hx;obtain⟨⟨z0,z1,z2,z3,z4⟩,_⟩:=FX wr BF.out;have hth:=Za (show decide (x.1=key)=Y8 n key from (Ziq (by rw[hp];exact hx)).symm);have he:=Zmr x.1 key;have hg:=Zcv;unfold kyV at he;replace hp:=Za hp;replace hx:=Za hx;have i1:(p:Int)<(m:Int):=by omega
    have i0:(0:Int)<=(p:Int):=by omega
    clear FX
    go_wp2_with fail
    go_quiet (fail)
    go_wp2_with fail
    go_ret2
    exact⟨by rw[hp.out,hth.out];rfl,Z3 BF.out _⟩
   ·have hth:=Za (hout.out (by omega))
    have i1:¬ (p:Int)<(m:Int):=by omega
    replace hp:=Za hp
    go_wp2_with fail
    go_quiet (fail)
    go_wp2_with fail
    go_ret2
    exact⟨by rw[hp.out,hth.out];rfl,Z3 BF.out _⟩
  obtain⟨x,hx⟩:∃ x,n.2[k]? = some x:=⟨_,Qe (by rw[hm.out];exact hlt)⟩
  obtain⟨ad,E,ce,rfl,q1,q2,hinx,FX⟩:=Y4 HA.out hx;obtain⟨⟨z0,z1,z2,z3,z4⟩,_⟩:=FX wr BF.out;obtain⟨w2,hw2,r0,r1,r2,_,_,hs2,hB2,_⟩:=Z6 wr (.int .u8 (x.1.1.toNat:Int)) (.int .u32 x.1.2.1) (.int .u32 x.1.2.2) (.int .i64 x.2.1) (.slice E x.2.2.length ce) 54;have B2:=Za (hb.out.trans (hB2.mono hb.out.size));have v0:=(B2.out.cell (p:=⟨w1.heap.size,0,none⟩) ltk).trans g0;have v1:=(B2.out.cell (p:=⟨w1.heap.size,1,none⟩) ltk).trans g1;have v2:=(B2.out.cell (p:=⟨w1.heap.size,2,none⟩) ltk).trans g2;have hyes:=Za (fun hh=>Zq7 (k:=key) hx hh);have hno:=Za (fun hh=>Z3t (k:=key) hx hh);replace hx:=Za hx;replace hs2:=Za hs2;clear FX hB2 hinx
  go_upto_region 4 with fail
  clear hw2 z0 z1 z2 z3 z4 y0 y1 y2
  go_wp2_with fail
  with_reducible refine(Zg8 x.1 key _).mono ?_
  rintro e3 w3 ⟨rfl,hb3⟩;have B3:=Za (B2.out.trans (hb3.mono B2.out.size));clear hb3;obtain⟨s,hs⟩:∃ s,Zq x.1 key=s:=⟨_,rfl⟩
  rw[hs] at hyes hno ⊢;replace hs:=Za hs;obtain⟨q,hq⟩:∃ q,Zep (n.2.take k) key=q:=⟨_,rfl⟩
  rw[hq] at hyes hno hcle ⊢;replace hq:=Za hq;cases s with
  | true =>
   have hn:=Za (hyes.out rfl)
   go_wp2_with fail
   go_roundw
   case rel=>exact⟨k+1,by omega,by go_num,by rw[hn.out];go_num,B3.out⟩
   case measure=>simp[intOf];omega
  | false =>
   have hn:=Za (hno.out rfl)
   go_wp2_with fail
   go_roundw
   case rel=>exact⟨k+1,by omega,by go_num,by rw[hn.out],B3.out⟩
   case measure=>simp[intOf];omega}
structure InN (n:Nd):Prop where
 lv:Zmp n.1
 it:∀ x∈n.2,InI x
theorem Zoq (l:List It) (xs:List UInt8) (h:∀ x∈l,Zb0 x=true/\InI x):∀ k,k<=l.length->X9 (Zae l++xs) k=some (l.take k,Zae (l.drop k)++xs)
 | 0,_=>by simp[X9]
 | k+1,hk=>by
  have hx:l[k]? = some l[k]:=Qe hk;obtain⟨h1,h2⟩:=h l[k] (Pq hk);have hd:Zae (l.drop k)++xs=itB l[k]++(Zae (l.drop (k+1))++xs):=by
   rw[Pm hk,show Zae (l[k]::l.drop (k+1))=itB l[k]++Zae (l.drop (k+1)) from rfl,Qt]
  have ih:=Zoq l xs h k (by omega);rw[hd] at ih;obtain⟨q0,q1,q2,_⟩:=Zy6 l[k] (Zae (l.drop (k+1))++xs) h2 h1;rw[Zec ih q0,q1,q2,Qx,hx];simp
theorem Zk7 (k:Nat):Xr (Xz k)=true:=by simp[Xr,Xz]
theorem Zer {b:List UInt8}(h:Xr b=true):b=Xz b.length:=by
 simp only[Xr,Qm,beq_iff_eq] at h;exact List.eq_replicate_iff.2 ⟨rfl,h⟩
theorem Zff (n:Nd):Xv n=[78,UInt8.ofNat n.1.toNat,UInt8.ofNat n.2.length]++Zae n.2:=rfl
theorem Zxj {n:Nd}(h:Xn n=true) (hi:InN n):reN (Zb5 n)=0/\reV (Zb5 n)=n:=by{
 have hl:=Zhz h;obtain⟨⟨s1,s2,s3,_⟩,_⟩:=Zs h;have hob:ob (Zb5 n)=Zi4 (Xv n):=by
  unfold ob;rw[if_pos ⟨Zdw h,Zn7 _⟩];exact Zwf _
 have hoe:oe (Zb5 n)=0:=by
  unfold oe;rw[if_pos (Zdw h),if_pos (show Zmo (Zb5 n) from Zn7 _)]
 obtain⟨z,hz⟩:∃ z,124-(Xv n).length=z:=⟨_,rfl⟩
 have hp:Zi4 (Xv n)=78::UInt8.ofNat n.1.toNat::UInt8.ofNat n.2.length::(Zae n.2++Xz z):=by
  rw[Zi4,hz,Zff];simp
 have h0:(ob (Zb5 n))[0]?.getD 0=78:=by rw[hob,hp];rfl
 have h1:Zq3 (ob (Zb5 n))=n.1:=by
  rw[hob,hp];show ((UInt8.ofNat n.1.toNat).toNat:Int)=n.1;rw[UInt8.toNat_ofNat'];omega
 have h2:Vw (ob (Zb5 n))=n.2.length:=by
  rw[hob,hp];show (UInt8.ofNat n.2.length).toNat=n.2.length;rw[UInt8.toNat_ofNat'];omega
 have h3:(ob (Zb5 n)).drop 3=Zae n.2++Xz z:=by rw[hob,hp];rfl
 have hc:X9 ((ob (Zb5 n)).drop 3) (Vw (ob (Zb5 n)))=some (n.2,Xz z):=by
  rw[h2,h3,Zoq n.2 (Xz z) (fun x hx=>⟨Zly h x hx,hi.it x hx⟩) n.2.length (Qd _)];simp[Zae]
 have hnd:ndN (ob (Zb5 n))=n:=by
  unfold ndN Zi2;rw[hc,h1];rfl
 have hr:rdN (ob (Zb5 n))=true:=by
  unfold rdN Ztr;rw[h0,hc,hnd,h];simp[Zk7]
 obtain⟨e1,e2⟩:=Zdb hoe hr;exact⟨e1,by rw[e2,hnd]⟩}
theorem Zcz {b:List UInt8}(h:reN b=0):Xn (reV b)=true/\Zb5 (reV b)=b/\InN (reV b):=by{
 have hoe:oe b=0:=by
  unfold reN at h;by_cases e:oe b=0
  ·exact e
  ·rw[if_neg e] at h;exact absurd h e
 have hrd:rdN (ob b)=true:=by
  unfold reN at h;rw[if_pos hoe] at h;cases e:rdN (ob b) with
  | true=>rfl
  | false=>rw[e] at h;cases h
 obtain⟨e1,e2⟩:=Zdb hoe hrd;obtain⟨hlen,hfits,hob,h124⟩:=Zg2 hoe;rw[e2];obtain⟨bd,hbd⟩:∃ bd,ob b=bd:=⟨_,rfl⟩
 rw[hbd] at hrd h124 ⊢;unfold rdN at hrd;simp only[Qk,decide_eq_true_eq] at hrd;obtain⟨h78,hs,hm,hn⟩:=hrd;cases hc:X9 (bd.drop 3) (Vw bd) with
 | none=>rw[hc] at hs;cases hs
 | some p =>
  obtain⟨l,r⟩:=p;have hL:Zi2 (bd.drop 3) (Vw bd)=l:=by simp[Zi2,hc]
  have hR:Ztr (bd.drop 3) (Vw bd)=r:=by simp[Ztr,hc]
  obtain⟨c1,c2,c3⟩:=Zab hc;rw[hR] at hn;have hnd:ndN bd=(Zq3 bd,l):=by rw[ndN,hL]
  have hin:InN (ndN bd):=by
   rw[hnd];exact⟨Zph bd,fun x hx=>(c3 x hx).2⟩
  refine⟨hm,?_,hin⟩;have hsplit:bd=[78,bd[1]?.getD 0,bd[2]?.getD 0]++bd.drop 3:=by
   match bd,h124,h78 with
   | x::y::z::q,_,h78 =>
    simp at h78;simp[h78]
  have hT:Xv (ndN bd)=[78,bd[1]?.getD 0,bd[2]?.getD 0]++Zae l:=by
   rw[hnd,Zff,c2];have e1:UInt8.ofNat (Zq3 bd).toNat=bd[1]?.getD 0:=by simp[Zq3]
   have e2:UInt8.ofNat (Vw bd)=bd[2]?.getD 0:=by simp[Vw]
   show [78,UInt8.ofNat (Zq3 bd).toNat,UInt8.ofNat (Vw bd)]++Zae l=_;rw[e1,e2]
  have hbody:bd=Xv (ndN bd)++r:=by
   rw[hT,Qt,<- c1];exact hsplit
  have hpad:Zi4 (Xv (ndN bd))=bd:=by
   have hl2:(Xv (ndN bd)).length+r.length=124:=by
    have:=congrArg List.length hbody;rw[Qs,h124] at this;omega
   rw[Zi4,show 124-(Xv (ndN bd)).length=r.length by omega,<- Zer hn];exact hbody.symm
  show Zb7 (Xv (ndN bd))=b;have hs:Zb7 (Xv (ndN bd))=Zb7 bd:=by
   unfold Zb7;rw[hpad,Zoe h124]
  rw[hs,<- hbd,hob];exact Zwj hlen hfits}
def Zjd:List It->Nat->Nat
 | [],_=>0
 | x::l,i=>(if x.2.1=(i:Int) then (if x.2.1=0 then 0 else 1) else 0)+Zjd l i
def Zgp (l:List It):Prop:=∀ x∈l,x.2.1=0\/(8<=x.2.1/\x.2.1<256)
theorem Zia {x:It}{l:List It}(h:Zgp (x::l)):(x.2.1=0\/∃ k:Nat,x.2.1=k/\8<=k/\k<256)/\Zgp l:=by
 refine⟨?_,fun y hy=>h y (List.mem_cons_of_mem _ hy)⟩;rcases h x List.mem_cons_self with h1 | ⟨h1,h2⟩
 ·exact .inl h1
 ·exact .inr ⟨x.2.1.toNat,by omega,by omega,by omega⟩
theorem V4 {n:Nd}(h:Xn n=true):Zgp n.2:=fun x hx=>by
 obtain⟨i,hi⟩:=Qy hx;have hk:=(Ql.1 hi).1;simp only[Xn,Qk,Qm] at h;have h1:=h.2 i (by simpa using hk);simp only[Zfb,hi,okP,Qk] at h1;exact(Zax h1.1.1).1
theorem Zif {x:It}{l:List It}(h:x.2.1=0) (i:Nat):Zjd (x::l) i=Zjd l i:=by
 simp only[Zjd,h,if_true];split <;> simp
theorem Zih {x:It}{l:List It}{k:Nat}(h:x.2.1=k) (h8:8<=k) (i:Nat):Zjd (x::l) i=(if i=k then 1 else 0)+Zjd l i:=by{
 simp only[Zjd,h];by_cases e:i=k
 ·subst e
  rw[if_pos rfl,if_neg (by omega),if_pos rfl]
 ·rw[if_neg (by omega),if_neg e]}
theorem Zz3 {l:List It}(h:Zgp l){i:Nat}(hi:i<8\/256<=i):Zjd l i=0:=by{
 induction l with
 | nil=>rfl
 | cons x l ih =>
  obtain⟨h1,h2⟩:=Zia h;rcases h1 with h1 | ⟨k,h1,h8,h256⟩
  ·rw[Zif h1,ih h2]
  ·rw[Zih h1 h8,ih h2,if_neg (by omega)]}
def ctE:List UInt8->List It->Int
 | _,[]=>0
 | t,x::l=>if x.2.1=0 then ctE t l else if t[x.2.1.toNat]?.getD 0=0 then 6 else if t[x.2.1.toNat]?.getD 0=255 then 70 else ctE (t.set x.2.1.toNat (t[x.2.1.toNat]?.getD 0+1)) l
def ctV:List UInt8->List It->List UInt8
 | t,[]=>t
 | t,x::l=>if x.2.1=0 then ctV t l else ctV (t.set x.2.1.toNat (t[x.2.1.toNat]?.getD 0+1)) l
theorem Zbs:∀ (l:List It) (t:List UInt8),(ctV t l).length=t.length
 | [],_=>rfl
 | x::l,t=>by
  unfold ctV;split
  ·exact Zbs l t
  ·rw[Zbs l,Qz]
theorem Zl7:∀ (a b:List It) (t:List UInt8),ctE t (a++b)=if ctE t a=0 then ctE (ctV t a) b else ctE t a
 | [],b,t=>by simp[ctE,ctV]
 | x::a,b,t=>by
  simp only[Pe,ctE,ctV];split
  ·exact Zl7 a b t
  ·split
   ·simp
   ·split
    ·simp
    ·exact Zl7 a b _
theorem Zqb:∀ (a b:List It) (t:List UInt8),ctV t (a++b)=ctV (ctV t a) b
 | [],b,t=>rfl
 | x::a,b,t=>by
  simp only[Pe,ctV];split
  ·exact Zqb a b t
  ·exact Zqb a b _
theorem Z1l {x:UInt8}(h:x≠255):(x+1).toNat=x.toNat+1:=by
 have:=(Zd1 h).1;omega
theorem Zj5 {x:UInt8}(h:x≠0):(x-1).toNat+1=x.toNat:=by
 have h1:=(Zd1 (x:=x-1) (Zuj h)).1;rw[Zuu.2] at h1;omega
theorem X7 {x:UInt8}:x.toNat=0↔x=0:=⟨fun h=>UInt8.toNat_inj.1 (by rw[h];rfl),fun h=>by rw[h];rfl⟩
theorem Zck:∀ (l:List It) (t:List UInt8),Zgp l->t.length=256->ctE t l=0 ->
  (∀ i,((ctV t l)[i]?.getD 0).toNat=(t[i]?.getD 0).toNat+Zjd l i)/\(∀ i,Zjd l i≠0->t[i]?.getD 0≠0)
 | [],t,_,_,_=>⟨fun i=>by simp[ctV,Zjd],fun i h=>absurd rfl h⟩
 | x::l,t,hr,hl,h=>by
  obtain⟨h1,h2⟩:=Zia hr;unfold ctE at h;unfold ctV;rcases h1 with h1 | ⟨k,h1,h8,h256⟩
  ·rw[if_pos h1] at h ⊢
   obtain⟨c1,c2⟩:=Zck l t h2 hl h;exact⟨fun i=>by rw[c1 i,Zif h1],fun i hi=>c2 i (by rwa [Zif h1] at hi)⟩
  ·have e0:¬ x.2.1=0:=by omega
   have ek:x.2.1.toNat=k:=by omega
   rw[if_neg e0,ek] at h;rw[if_neg e0,ek];by_cases hz:t[k]?.getD 0=0
   ·rw[if_pos hz] at h;cases h
   ·by_cases hm:t[k]?.getD 0=255
    ·rw[if_neg hz,if_pos hm] at h;cases h
    ·rw[if_neg hz,if_neg hm] at h
     obtain⟨c1,c2⟩:=Zck l (t.set k (t[k]?.getD 0+1)) h2 (by rw[Qz,hl]) h;refine⟨fun i=> ?_,fun i hi=> ?_⟩
     ·rw[c1 i,Zih h1 h8]
      by_cases e:i=k
      ·subst e
       rw[Zf8 (by omega),Z1l hm,if_pos rfl];omega
      ·rw[Zbc e,if_neg e]
       omega
     ·by_cases e:i=k
      ·subst e;exact hz
      ·rw[Zih h1 h8,if_neg e,Q5] at hi
       have:=c2 i hi
       rwa [Zbc e] at this
theorem Z4r {t:List UInt8}{l:List It}(hm:Zaz t=true) (hr:Zgp l) (h:ctE t l=0):Zaz (ctV t l)=true:=by
 have hl:=Z0 hm;obtain⟨c1,_⟩:=Zck l t hr hl h;refine Zd8 (by rw[Zbs,hl]) fun j hj=>X7.1 ?_
 rw[c1 j,Zz3 hr (.inl hj),Zkt hm hj];rfl
theorem Z27 {t:List UInt8}{l:List It}(hl:t.length=256) (hr:Zgp l) (h:ctE t l=0) (i:Nat):(ctV t l)[i]?.getD 0=0↔t[i]?.getD 0=0:=by
 obtain⟨c1,c2⟩:=Zck l t hr hl h;rw[<- X7,c1 i,<- X7 (x:=t[i]?.getD 0)];refine⟨fun h=>by omega,fun h=> ?_⟩;by_cases e:Zjd l i=0
 ·omega
 ·exact absurd (X7.1 h) (c2 i e)
def ctS (s:Rm) (n:Nd):Rm:=(s.1,ctV s.2.1 n.2,s.2.2)
def mkE (s:Rm) (n:Nd):Int:=if Yp s&&Xn n then (if ctE s.2.1 n.2=0 then tkE (ctS s n) (Zb5 n) else ctE s.2.1 n.2) else 8
def mkN (s:Rm) (n:Nd):Int:=if mkE s n=0 then tkN (ctS s n) (Zb5 n) else 0
def mkV (s:Rm) (n:Nd):Rm:=if mkE s n=0 then tkV (ctS s n) (Zb5 n) else Zn
theorem Zlj {s:Rm}{n:Nd}(h:mkE s n≠0):mkN s n=0/\mkV s n=Zn:=⟨by rw[mkN,if_neg h],by rw[mkV,if_neg h]⟩
theorem Z3d {s:Rm}{n:Nd}(hm:Yp s=true) (hn:Xn n=true) (h:ctE s.2.1 n.2=0):Yp (ctS s n)=true:=by
 obtain⟨m1,m2,m3⟩:=Zw hm;exact Zdp m1 (Z4r m2 (V4 hn) h) m3
theorem Z03 {s:Rm}{n:Nd}(h:mkE s n=0):Yp s=true/\Xn n=true/\ctE s.2.1 n.2=0/\tkE (ctS s n) (Zb5 n)=0/\mkN s n=tkN (ctS s n) (Zb5 n)/\mkV s n=tkV (ctS s n) (Zb5 n):=by{
 have hN:mkN s n=tkN (ctS s n) (Zb5 n):=by rw[mkN,if_pos h]
 have hV:mkV s n=tkV (ctS s n) (Zb5 n):=by rw[mkV,if_pos h]
 unfold mkE at h;cases hm:Yp s with
 | false=>rw[hm] at h;simp at h
 | true =>
  cases hn:Xn n with
  | false=>rw[hm,hn] at h;simp at h
  | true =>
   rw[hm,hn] at h;simp only[Bool.and_self,if_true] at h;by_cases hc:ctE s.2.1 n.2=0
   ·rw[if_pos hc] at h
    exact⟨rfl,rfl,hc,h,hN,hV⟩
   ·rw[if_neg hc] at h
    exact absurd h hc}
theorem Vq {s:Rm}{n:Nd}(h:mkE s n=0):∃ k:Nat,mkN s n=k/\8<=k/\k<256/\s.2.1[k]?.getD 0=0/\s.2.2[k]?.getD 0=0/\Zjd n.2 k=0/\mkV s n=(wrD s.1 k (Zb5 n),(ctV s.2.1 n.2).set k 1,s.2.2)/\Yp (mkV s n)=true /\
  (mkV s n).2.1[k]?.getD 0=1/\(∀ i,i≠k->((mkV s n).2.1[i]?.getD 0).toNat=(s.2.1[i]?.getD 0).toNat+Zjd n.2 i)/\(∀ i,Zjd n.2 i≠0->s.2.1[i]?.getD 0≠0)/\(mkV s n).2.1.length=256/\s.2.1.length=256:=by{
 obtain⟨hm,hn,hc,ht,e1,e2⟩:=Z03 h;obtain⟨_,_,_,_,h8,h256,hz,hz2,hN,hV⟩:=Zqd ht;have hl:=Z0 (Zw hm).2.1;have hr:=V4 hn;obtain⟨c1,c2⟩:=Zck n.2 s.2.1 hr hl hc;generalize tkK (ctS s n)=k at *;have z1:s.2.1[k]?.getD 0=0:=(Z27 hl hr hc k).1 hz;have z2:Zjd n.2 k=0:=by
  by_cases e:Zjd n.2 k=0
  ·exact e
  ·exact absurd z1 (c2 k e)
 have hV':mkV s n=(wrD s.1 k (Zb5 n),(ctV s.2.1 n.2).set k 1,s.2.2):=by rw[e2,hV];rfl
 refine⟨k,by rw[e1,hN],h8,h256,z1,hz2,z2,hV',by rw[e2];exact Z1v ht,?_,fun i hi=> ?_,c2,?_,hl⟩
 ·rw[hV'];exact Zf8 (by rw[Zbs];omega)
 ·rw[hV']
  show (((ctV s.2.1 n.2).set k 1)[i]?.getD 0).toNat=_;rw[Zbc hi];exact c1 i
 ·rw[hV']
  show ((ctV s.2.1 n.2).set k 1).length=_;rw[Qz,Zbs,hl]}
def dnO (t:List UInt8) (a:Nat):Option (List UInt8):=if t[a]?.getD 0=0 then none else some (t.set a (t[a]?.getD 0-1))
def Xi (f:List UInt8->Nat->Option (List UInt8)):List UInt8->List It->Option (List UInt8)
 | t,[]=>some t
 | t,x::l=>if x.2.1=0 then Xi f t l else (f t x.2.1.toNat).bind fun t'=>Xi f t' l
def lvS (d:Dk) (l:Nat) (f:List UInt8->Nat->Option (List UInt8)) (t:List UInt8) (a:Nat):Option (List UInt8) :=
 (dnO t a).bind fun t'=>if 1<(t[a]?.getD 0).toNat then some t' else if reN (Z4 d a)=0/\(reV (Z4 d a)).1=(l:Int) then Xi f t' (reV (Z4 d a)).2 else none
def lvF (d:Dk):Nat->List UInt8->Nat->Option (List UInt8)
 | 0=>dnO
 | l+1=>lvS d l (lvF d l)
def lfO (d:Dk) (t:List UInt8) (a:Nat):Option (List UInt8) :=
 (dnO t a).bind fun t'=>if 1<(t[a]?.getD 0).toNat then some t' else if reN (Z4 d a)=0 then Xi (lvF d (reV (Z4 d a)).1.toNat) t' (reV (Z4 d a)).2 else none
def lvE (s:Rm) (n:Int):Int:=if asE s n=0 then (match lfO s.1 s.2.1 n.toNat with | some _=>0 | none=>8) else asE s n
def lvV (s:Rm) (n:Int):Rm:=if asE s n=0 then (match lfO s.1 s.2.1 n.toNat with | some t=>(s.1,t,s.2.2) | none=>Zn) else Zn
def loV (s:Rm) (n:Int):Rm:=if asE s n=0 then (s.1,s.2.1.set n.toNat (s.2.1[n.toNat]?.getD 0-1),s.2.2) else Zn
theorem Zgz (f:List UInt8->Nat->Option (List UInt8)):∀ (a b:List It) (t:List UInt8),Xi f t (a++b)=(Xi f t a).bind fun t'=>Xi f t' b
 | [],b,t=>rfl
 | x::a,b,t=>by
  simp only[Pe,Xi];split
  ·exact Zgz f a b t
  ·cases f t x.2.1.toNat with
   | none=>rfl
   | some u=>exact Zgz f a b u
structure LeT (u t:List UInt8):Prop where
 len:u.length=t.length
 le:∀ i:Nat,(u[i]?.getD 0).toNat<=(t[i]?.getD 0).toNat
theorem LeT.refl (t:List UInt8):LeT t t:=⟨rfl,fun _=>Qd _⟩
theorem LeT.trans {a b c:List UInt8}(h:LeT a b) (h':LeT b c):LeT a c:=⟨h.len.trans h'.len,fun i=>Qf (h.le i) (h'.le i)⟩
theorem Zbv {t u:List UInt8}{a:Nat}(h:dnO t a=some u):t[a]?.getD 0≠0/\u=t.set a (t[a]?.getD 0-1)/\LeT u t/\(u[a]?.getD 0).toNat+1=(t[a]?.getD 0).toNat:=by{
 unfold dnO at h;by_cases hz:t[a]?.getD 0=0
 ·rw[if_pos hz] at h;cases h
 ·rw[if_neg hz] at h
  cases h;have ha:a<t.length:=by
   by_cases e:a<t.length
   ·exact e
   ·exact absurd (by rw[Pt (by omega)];rfl) hz
  refine⟨hz,rfl,⟨Qz,fun i=> ?_⟩,?_⟩
  ·by_cases e:i=a
   ·subst e
    rw[Zf8 ha];have:=Zj5 hz;omega
   ·rw[Zbc e]
    exact Qd _
  ·rw[Zf8 ha]
   exact Zj5 hz}
theorem Zgb {f:List UInt8->Nat->Option (List UInt8)}(hf:∀ t a u,f t a=some u->LeT u t):∀ (l:List It) (t u:List UInt8),Xi f t l=some u->LeT u t
 | [],t,u,h=>by cases h;exact LeT.refl _
 | x::l,t,u,h=>by
  unfold Xi at h;split at h
  ·exact Zgb hf l t u h
  ·cases hx:f t x.2.1.toNat with
   | none=>rw[hx] at h;cases h
   | some v =>
    rw[hx] at h;exact(Zgb hf l v u h).trans (hf _ _ _ hx)
theorem Z4z {d:Dk}{l:Nat}{f:List UInt8->Nat->Option (List UInt8)}(hf:∀ t a u,f t a=some u->LeT u t) (t:List UInt8) (a:Nat) (u:List UInt8) (h:lvS d l f t a=some u):LeT u t:=by{
 unfold lvS at h;cases hd:dnO t a with
 | none=>rw[hd] at h;cases h
 | some v =>
  rw[hd] at h;have h':(if 1<(t[a]?.getD 0).toNat then some v else if reN (Z4 d a)=0/\(reV (Z4 d a)).1=(l:Int) then Xi f v (reV (Z4 d a)).2 else none)=some u:=h;have hv:=(Zbv hd).2.2.1;split at h'
  ·cases h';exact hv
  ·split at h'
   ·exact(Zgb hf _ _ _ h').trans hv
   ·cases h'}
theorem Zq9 (d:Dk):∀ (l:Nat) (t:List UInt8) (a:Nat) (u:List UInt8),lvF d l t a=some u->LeT u t
 | 0,_,_,_,h=>(Zbv h).2.2.1
 | l+1,t,a,u,h=>Z4z (Zq9 d l) t a u h
theorem Zos {d:Dk}{t u:List UInt8}{a:Nat}(h:lfO d t a=some u):t[a]?.getD 0≠0/\LeT u t/\(u[a]?.getD 0).toNat+1<=(t[a]?.getD 0).toNat/\(1<(t[a]?.getD 0).toNat->u=t.set a (t[a]?.getD 0-1)):=by{
 unfold lfO at h;cases hd:dnO t a with
 | none=>rw[hd] at h;cases h
 | some v =>
  rw[hd] at h;have h':(if 1<(t[a]?.getD 0).toNat then some v else if reN (Z4 d a)=0 then Xi (lvF d (reV (Z4 d a)).1.toNat) v (reV (Z4 d a)).2 else none)=some u:=h;obtain⟨h1,h2,hv,h3⟩:=Zbv hd;split at h'
  ·cases h'
   exact⟨h1,hv,by omega,fun _=>h2⟩
  ·rename_i hn
   split at h'
   ·have:=Zgb (Zq9 d _) _ _ _ h'
    have h4:=this.le a;exact⟨h1,this.trans hv,by omega,fun hc=>absurd hc hn⟩
   ·cases h'}
theorem LeT.may {u t:List UInt8}(h:LeT u t) (hm:Zaz t=true):Zaz u=true :=
 Zd8 (by rw[h.len];exact Z0 hm) fun j hj=>by
  have h1:=h.le j;rw[Zkt hm hj] at h1;exact X7.1 (by simpa using h1)
def Z65 (f:List UInt8->Nat->Option (List UInt8)):Prop:=∀ t a,1<(t[a]?.getD 0).toNat->f t a=some (t.set a (t[a]?.getD 0-1))
theorem Zfx {t:List UInt8}{a:Nat}(h:t[a]?.getD 0≠0):dnO t a=some (t.set a (t[a]?.getD 0-1)):=by rw[dnO,if_neg h]
theorem Zlz {x:UInt8}(h:1<x.toNat):x≠0:=fun e=>by
 rw[X7.2 e] at h;omega
theorem Zrt (d:Dk):∀ l,Z65 (lvF d l)
 | 0=>fun t a h=>Zfx (Zlz h)
 | l+1=>fun t a h=>by
  show lvS d l (lvF d l) t a=_;unfold lvS;rw[Zfx (Zlz h)];show (if 1<(t[a]?.getD 0).toNat then _ else _)=_;rw[if_pos h]
theorem Z2i (s:Rm) (n:Int):(asE s n≠0/\lvE s n=asE s n/\lvV s n=Zn)\/(∃ k:Nat,asE s n=0/\n=k/\Yp s=true/\8<=k/\k<256/\s.2.1[k]?.getD 0≠0/\lfO s.1 s.2.1 k=none/\lvE s n=8/\lvV s n=Zn) \/
  (∃ (k:Nat) (u:List UInt8),asE s n=0/\n=k/\Yp s=true/\8<=k/\k<256/\s.2.1[k]?.getD 0≠0/\lfO s.1 s.2.1 k=some u/\lvE s n=0/\lvV s n=(s.1,u,s.2.2)):=by{
 by_cases h:asE s n=0
 ·right
  rcases Zcu s n with ⟨_,e⟩ | ⟨_,_,e⟩ | ⟨k,_,_,_,_,_,e⟩ | ⟨k,hm,rfl,h8,h256,hx,e⟩
  ·rw[e] at h;cases h
  ·rw[e] at h;cases h
  ·rw[e] at h;cases h
  ·have ek:((k:Int)).toNat=k:=by omega
   cases hf:lfO s.1 s.2.1 k with
   | none=>exact .inl ⟨k,h,rfl,hm,h8,h256,hx,hf,by rw[lvE,if_pos h,ek,hf],by rw[lvV,if_pos h,ek,hf]⟩
   | some u=>exact .inr ⟨k,u,h,rfl,hm,h8,h256,hx,hf,by rw[lvE,if_pos h,ek,hf],by rw[lvV,if_pos h,ek,hf]⟩
 ·exact .inl ⟨h,by rw[lvE,if_neg h],by rw[lvV,if_neg h]⟩}
theorem Zj6 {s:Rm}{k:Nat}(hm:Yp s=true) (h8:8<=k) (h:k<256) (hx:s.2.1[k]?.getD 0≠0):asE s k=0:=by
 have hin:=Zrd h8 h;have h1:¬ s.2.1[((k:Int)).toNat]?.getD 0=0:=by
  rw[show ((k:Int)).toNat=k by omega];exact hx
 rw[asE,hm,if_pos rfl,hin,if_pos rfl,if_neg h1]
theorem Z50 {s:Rm}{k:Nat}{n:Nd}(ha:asE s k=0) (hb:Z4 s.1 k=Zb5 n) (hn:Xn n=true) (hi:InN n):rmE s k=0/\rmV s k=n:=by
 obtain⟨r1,r2⟩:=Zxj hn hi;constructor
 ·rw[rmE,if_pos ha,show ((k:Int)).toNat=k by omega,hb,r1]
 ·rw[rmV,if_pos ha,show ((k:Int)).toNat=k by omega,hb,r2]
theorem Z3h {s:Rm}{n:Int}(h:lvE s n=0):∃ k:Nat,n=k/\Yp s=true/\Yp (lvV s n)=true/\8<=k/\k<256/\s.2.1[k]?.getD 0≠0/\(lvV s n).1=s.1/\(lvV s n).2.2=s.2.2/\(lvV s n).2.1.length=256/\s.2.1.length=256 /\
  (∀ i:Nat,((lvV s n).2.1[i]?.getD 0).toNat<=(s.2.1[i]?.getD 0).toNat)/\((lvV s n).2.1[k]?.getD 0).toNat+1<=(s.2.1[k]?.getD 0).toNat/\(1<(s.2.1[k]?.getD 0).toNat->(lvV s n).2.1=s.2.1.set k (s.2.1[k]?.getD 0-1)):=by{
 rcases Z2i s n with ⟨h1,h2,_⟩ | ⟨k,_,_,_,_,_,_,_,h2,_⟩ | ⟨k,u,_,rfl,hm,h8,h256,hx,hf,_,hV⟩
 ·exact absurd (h2.symm.trans h) h1
 ·rw[h2] at h;cases h
 ·obtain⟨_,f2,f3,f4⟩:=Zos hf
  have hl:=Z0 (Zw hm).2.1;rw[hV];exact⟨k,rfl,hm,Zdp (Zw hm).1 (f2.may (Zw hm).2.1) (Zw hm).2.2,h8,h256,hx,rfl,rfl,by rw[f2.len,hl],hl,f2.le,f3,f4⟩}
def Zye (a b:Rm):Bool:=Zdf a.1 b.1&&decide (a.2.1=b.2.1)&&decide (a.2.2=b.2.2)
theorem Zj9 (a:Rm):Zye a a=true:=by simp[Zye,Zdf]
def Z62:Rm:=(Z6q,Xz 256,Xz 256)
theorem Zkf (v:Pz) (t:List UInt8) (w:Py) (h:rBy (Old w) w [v] t):P8 Tryz.prog 99 #[v] w fun e w'=>e=.returned (.bool (Zaz t))/\w=w':=by
 obtain⟨A,c,rfl,l1,m1,hb⟩:=Yq (B:=w.heap.size) (fun _ h=>h) h;exact Zqg A t.length c t (Za rfl) l1 m1 w hb
theorem Zac (v:Pz) (s:Rm) (w:Py) (h:Sto (Old w) w v s):P8 Tryz.prog 57 #[v] w fun e w'=>e=.returned (.bool (Yp s))/\P9 w.heap.size w w':=by{
 obtain⟨A,ca,B,cb,N,cn,L,cl,w1,rfl,hw1,f,hsz,hB,D,NN,LL⟩:=Zfm h;clear h;obtain⟨k0,k1,k2,k3,_,kg⟩:=Ze f;replace hsz:=Za hsz;obtain⟨p,hp⟩:∃ p,Zai s.1=p:=⟨_,rfl⟩
 obtain⟨q,hq⟩:∃ q,Zaz s.2.1=q:=⟨_,rfl⟩
 obtain⟨r,hr⟩:∃ r,Zaz s.2.2=r:=⟨_,rfl⟩
 have hR:Hid (Yp s=(p&&q&&r)):=Za (by rw[Yp,hp,hq,hr]);replace hp:=Za hp;replace hq:=Za hq;replace hr:=Za hr;cases p with
 | false =>
  go_enter Tryz.func57,Tryz.ntmps57
  go_upto_region 1 with fail
  clear hw1
  go_wp2_with fail
  with_reducible refine(Zuy _ s.1 _ D.out).mono ?_
  rintro e w2 ⟨rfl,hb2⟩;rw[hp.out]
  go_wp2_with fail
  go_ret;exact⟨Zk (by rw[hR.out];rfl),hB.trans (hb2.mono hB.size)⟩
 | true =>
  cases q
  all_goals
   go_enter Tryz.func57,Tryz.ntmps57
   go_upto_region 1 with fail
   clear hw1
   go_wp2_with fail
   with_reducible refine(Zuy _ s.1 _ D.out).mono ?_
   rintro e w2 ⟨rfl,hb2⟩;rw[hp.out];replace k2:=(hb2.cell (p:=⟨w.heap.size,2,none⟩) kg).trans k2;replace k3:=(hb2.cell (p:=⟨w.heap.size,3,none⟩) kg).trans k3;have N2:=Za (Zf.old NN.out hb2);have L2:=Za (Zf.old LL.out hb2);replace hb2:=Za (hB.trans (hb2.mono hB.size))
   go_wp2_with fail
   with_reducible refine(Zkf _ s.2.1 _ N2.out).mono ?_
   rintro e w3 ⟨rfl,rfl⟩;rw[hq.out]
   go_wp2_with fail
  ·go_ret
   exact⟨Zk (by rw[hR.out];rfl),hb2.out⟩
  ·with_reducible refine(Zkf _ s.2.2 _ L2.out).mono ?_
   rintro e w3 ⟨rfl,rfl⟩;rw[hr.out]
   go_wp2_with fail
   go_ret;exact⟨Zk (by rw[hR.out];cases r <;> rfl),hb2.out⟩}
theorem Zgk (v u:Pz) (s o:Rm) (w:Py) (h:Sto (Old w) w v s) (hu:Sto (Old w) w u o) :
  P8 Tryz.prog 17 #[v,u] w fun e w'=>e=.returned (.bool (Zye s o))/\P9 w.heap.size w w':=by{
 obtain⟨A,ca,B,cb,N,cn,L,cl,rfl,_,_,_⟩:=h.open;obtain⟨A',ca',B',cb',N',cn',L',cl',rfl,_,_,_⟩:=hu.open;obtain⟨w1,hw1,f1,f2,hsz,hB⟩:∃ w1,(w.alloc (.cells #[.slice A s.1.1.length ca,.slice B s.1.2.length cb,.slice N s.2.1.length cn,.slice L s.2.2.length cl] 29)).alloc (.cells #[.slice A' o.1.1.length ca',.slice B' o.1.2.length cb',.slice N' o.2.1.length cn',.slice L' o.2.2.length cl'] 29)=w1 /\
   w1.heap[w.heap.size]? = some (.cells #[.slice A s.1.1.length ca,.slice B s.1.2.length cb,.slice N s.2.1.length cn,.slice L s.2.2.length cl] 29 (0,0))/\w1.heap[w.heap.size+1]? = some (.cells #[.slice A' o.1.1.length ca',.slice B' o.1.2.length cb',.slice N' o.2.1.length cn',.slice L' o.2.2.length cl'] 29 (0,0))/\w1.heap.size=w.heap.size+2/\P9 w.heap.size w w1:=by
  refine⟨_,rfl,Yk (P7 _ _),?_,by simp,((Qb _ w).alloc (Qd _) _).alloc (by simp) _⟩;have:=P7 (w.alloc (.cells #[.slice A s.1.1.length ca,.slice B s.1.2.length cb,.slice N s.2.1.length cn,.slice L s.2.2.length cl] 29)) (.cells #[.slice A' o.1.1.length ca',.slice B' o.1.2.length cb',.slice N' o.2.1.length cn',.slice L' o.2.2.length cl'] 29)
  rwa [Pc] at this
 have H:=Za (h.below hB);have U:=Za (hu.below hB);clear h hu;obtain⟨k0,k1,k2,k3,_,kg⟩:=Ze f1;obtain⟨j0,j1,j2,j3,_,jg⟩:=Ze f2;replace hsz:=Za hsz;replace f1:=Za f1;replace f2:=Za f2;obtain⟨p,hp⟩:∃ p,Zdf s.1 o.1=p:=⟨_,rfl⟩
 obtain⟨q,hq⟩:∃ q,(s.2.1==o.2.1)=q:=⟨_,rfl⟩
 obtain⟨r,hr⟩:∃ r,(s.2.2==o.2.2)=r:=⟨_,rfl⟩
 have hR:Hid (Zye s o=(p&&q&&r)):=Za (by rw[Zye,hp,<- hq,<- hr,Zxv,Zxv]);replace hp:=Za hp;cases p with
 | false =>
  go_enter Tryz.func17,Tryz.ntmps17
  go_upto_region 1 with fail
  clear hw1
  go_wp2_with fail
  with_reducible refine(Zh6 _ _ s.1 o.1 _ H.out.parts.1 U.out.parts.1).mono ?_
  rintro e w2 ⟨rfl,hb2⟩;rw[hp.out];replace hb2:=Za (hB.trans (hb2.mono hB.size))
  go_wp2_with fail
  go_ret;exact⟨Zk (by rw[hR.out];rfl),hb2.out⟩
 | true =>
  cases q
  all_goals
   go_enter Tryz.func17,Tryz.ntmps17
   go_upto_region 1 with fail
   clear hw1
   go_wp2_with fail
   with_reducible refine(Zh6 _ _ s.1 o.1 _ H.out.parts.1 U.out.parts.1).mono ?_
   rintro e w2 ⟨rfl,hb2⟩;rw[hp.out];replace k2:=(hb2.cell (p:=⟨w.heap.size,2,none⟩) kg).trans k2;replace k3:=(hb2.cell (p:=⟨w.heap.size,3,none⟩) kg).trans k3;replace j2:=(hb2.cell (p:=⟨w.heap.size+1,2,none⟩) jg).trans j2;replace j3:=(hb2.cell (p:=⟨w.heap.size+1,3,none⟩) jg).trans j3;have s1:=Zgw (H.out.below hb2).parts.2.1;have s2:=Zgw (U.out.below hb2).parts.2.1;have s3:=Zgw (H.out.below hb2).parts.2.2;have s4:=Zgw (U.out.below hb2).parts.2.2;replace hb2:=Za (hB.trans (hb2.mono hB.size))
   go_wp2_with fail
   go_ret;exact⟨Zk (by rw[hR.out];first | rfl | simp),hb2.out⟩}
theorem Zpw (v:Pz) (s:Rm) (hm:Yp s=true) (w:Py) (h:Sto (Old w) w v s) :
  P8 Tryz.prog 186 #[v] w fun e W'=>∃ u,e=.returned u/\Zlu (New w.heap.size W') W' [u] (Zna (X5 s))/\P9 w.heap.size w W':=by{
 obtain⟨A,ca,B,cb,N,cn,L,cl,w1,rfl,hw1,f,hsz,hB,_,NN,LL⟩:=Zfm h;clear h;obtain⟨k0,k1,k2,k3,_,kg⟩:=Ze f;obtain⟨ad,bd,rfl,rfl,hl1,hl2,l1,l2,had,hbd,hc⟩:=Vr hm NN.out LL.out;rw[hl1] at k2 hw1 ⊢;rw[hl2] at k3 hw1 ⊢;have HC:=Za hc;replace hsz:=Za hsz;replace hl1:=Za hl1;replace hl2:=Za hl2;replace hm:=Za hm;clear hc NN LL f
 go_enter Tryz.func186,Tryz.ntmps186
 go_upto_region 1 with fail
 clear hw1
 go_wp2_with fail
 go_loopw [4,3] (fun i u wr=>∃ k:Nat,k<=248/\i=.int .i64 ((8+k:Nat):Int)/\P9 w1.heap.size w1 wr/\∃ (A1:Option P3) (c1:Nat),u=.slice A1 (Zag s k).length c1/\Ya (rK .i64) 1 3 w1.heap.size wr A1 c1 (Zna (Zag s k))) (fun i _ _=>256-(intOf i).toNat)
 case atStart=>exact⟨0,by omega,by simp,Qb _ _,none,0,rfl,Ya.nil _ _ _ _ _⟩
 case round =>
  obtain⟨k,hk,rfl,hnx,A1,c1,rfl,hrow⟩:=hrel;have b2:=(hnx.cell (p:=⟨w.heap.size,2,none⟩) kg).trans k2;have b3:=(hnx.cell (p:=⟨w.heap.size,3,none⟩) kg).trans k3;have HB:=Za hnx;replace hrow:=Za hrow;by_cases hlt:k<248
  ·have hx:=HC.out (8+k) (by omega)
   have c1':=(hnx.cell (p:=ad.add (8+k)) (by rw[Zh];exact had)).trans hx.1;have c2:=(hnx.cell (p:=bd.add (8+k)) (by rw[Zh];exact hbd)).trans hx.2;clear hx hnx;have hlen:=Zmw s k;have hi:8+k<256:=by omega
   have hno1:=Za (fun h=>Zg4 (Zj7 (s:=s) (i:=8+k) h));have hno2:=Za (fun h=>Zg4 (Zj2 (s:=s) (i:=8+k) h));have hyes:=Za (fun h h'=>Ziw (Zjs (s:=s) (i:=8+k) h h'));obtain⟨x,hx⟩:∃ x,s.2.1[8+k]?.getD 0=x:=⟨_,rfl⟩
   obtain⟨y,hy⟩:∃ y,s.2.2[8+k]?.getD 0=y:=⟨_,rfl⟩
   rw[hx] at c1' hno1 hyes;rw[hy] at c2 hno2 hyes;replace hx:=Za hx;replace hy:=Za hy;obtain⟨i,hi2⟩:∃ i,8+k=i:=⟨_,rfl⟩
   have hi3:Hid (8+k=i):=Za hi2;rw[hi2] at c1' c2 hi hyes ⊢;clear hi2;obtain⟨M,hM⟩:∃ M,(Zag s k).length=M:=⟨_,rfl⟩
   rw[hM] at hlen ⊢;replace hM:=Za hM;by_cases h0:x=0
   ·by_cases h1:y=0
    ·have t0:=Y0 (y:=0) (q:=0) rfl h0
     have t1:=Y0 (y:=0) (q:=0) rfl h1;have hfk:=Za (hyes.out h0 h1);replace h0:=Za h0;replace h1:=Za h1;obtain⟨w8,hw8,hs8⟩:∃ w8,wr.alloc (.cells #[.int .i64 (i:Int)] 3)=w8/\w8.heap[wr.heap.size]? = some (.cells #[.int .i64 (i:Int)] 3 (0,0)):=⟨_,rfl,P7 _ _⟩
     have b8:P9 wr.heap.size wr w8:=by rw[<- hw8];exact(Qb _ _).alloc (Qd _) _
     have row8:=hrow.out.below (Ze3 _) b8;obtain⟨A2,c2',w9,hr9,row9,_,ba9⟩:=Zxh row8 wr.heap.size (i:Int) 1 hs8 (by rw[Zar,hM.out];omega) (Qf HB.out.size b8.size) ⟨by omega,by omega⟩;rw[Zar,hM.out] at hr9;have B9:=Za ((HB.out.trans (b8.mono HB.out.size)).trans ba9);have H9:=Za hr9;replace row9:=Za row9;replace hs8:=Za hs8;clear b8 row8 hr9 ba9
     go_wp2_with (at_builtin;refine Zi rfl _ _ _ rfl rfl rfl H9.out ?_;clear H9)
     go_roundw
     case rel =>
      refine⟨k+1,by omega,by have:=hi3.out;go_num,B9.out,A2,c2',?_,?_⟩
      ·rw[hfk.out,Qs,hM.out];rfl
      ·rw[hfk.out,Zt0];exact row9.out
     case measure=>simp[intOf];omega
    ·have t0:=Y0 (y:=0) (q:=0) rfl h0
     have t1:=Yf (y:=0) (q:=0) rfl h1;have hfk:=Za (hno2.out h1);replace h0:=Za h0;replace h1:=Za h1
     go_wp2_with fail
     go_roundw
     case rel=>exact⟨k+1,by omega,by have:=hi3.out;go_num,HB.out,A1,c1,by rw[hfk.out,hM.out],by rw[hfk.out];exact hrow.out⟩
     case measure=>simp[intOf];omega
   ·have t0:=Yf (y:=0) (q:=0) rfl h0
    have hfk:=Za (hno1.out h0);replace h0:=Za h0
    go_wp2_with fail
    go_roundw
    case rel=>exact⟨k+1,by omega,by have:=hi3.out;go_num,HB.out,A1,c1,by rw[hfk.out,hM.out],by rw[hfk.out];exact hrow.out⟩
    case measure=>simp[intOf];omega
  ·obtain rfl:k=248:=by omega
   clear hnx
   go_wp2_with fail
   go_ret;have hr:=(hrow.out.low (Ze3 _) hB.size).rel (Ze3 _);rw[Zar] at hr;exact⟨_,rfl,hr,hB.trans (HB.out.mono hB.size)⟩}
theorem Zid (v:Pz) (n:Nd) (w:Py) (h:Nod (Old w) w v n):P8 Tryz.prog 139 #[v] w fun e w'=>e=.returned (.bool (Xn n))/\P9 w.heap.size w w':=by{
 obtain⟨A,c,rfl,hin,l1,m1,hA⟩:=h.open;have hbad0:=Za (fun hh=>Zc3 (n:=n) hh);have hbad1:Hid (∀ k,k<n.2.length->Zfb n k=false->Xn n=false):=Za fun k hk hh=>Zu0 hk hh
 have hgood:=Za (fun hh h2=>Zo1 (n:=n) hh h2);have HA:=Za hA;clear h hA;obtain⟨m,hm⟩:∃ m,n.2.length=m:=⟨_,rfl⟩
 obtain⟨l,hl⟩:∃ l,n.1=l:=⟨_,rfl⟩
 rw[hm] at l1 hbad0 hbad1 hgood HA ⊢;rw[hl] at hbad0 hgood hin ⊢;obtain⟨i1,i2⟩:=hin;replace hm:=Za hm;replace hl:=Za hl;obtain⟨w0,hw0,b0,hs0,hB0⟩:=Zy w (.int .i64 l) (.slice A m c) 81;obtain⟨f1,f2,_,lt0⟩:=Zg b0;replace hB0:=Za hB0;replace b0:=Za b0;replace hs0:=Za hs0;by_cases h1:l<0
 ·have hr:=Za (hbad0.out (by omega))
  go_enter Tryz.func139,Tryz.ntmps139
  go_upto_region 1 with fail
  clear hw0
  go_wp2_with fail
  go_ret;exact⟨Zk hr.out.symm,hB0.out⟩
 by_cases h2:6<=l
 ·have hr:=Za (hbad0.out (by omega))
  go_enter Tryz.func139,Tryz.ntmps139
  go_upto_region 1 with fail
  clear hw0
  go_wp2_with fail
  go_ret;exact⟨Zk hr.out.symm,hB0.out⟩
 by_cases h3:5<m
 ·have hr:=Za (hbad0.out (by omega))
  have h3':(5:Int)<m:=by omega
  go_enter Tryz.func139,Tryz.ntmps139
  go_upto_region 1 with fail
  clear hw0
  go_wp2_with fail
  go_ret;exact⟨Zk hr.out.symm,hB0.out⟩
 have h3':¬ (5:Int)<m:=by omega
 by_cases h4:0<l/\m=0
 ·have hr:=Za (hbad0.out (by omega))
  obtain⟨h4a,h4b⟩:=h4;have h4c:((m:Int)==0)=true:=by simp;omega
  replace h4b:=Za h4b
  go_enter Tryz.func139,Tryz.ntmps139
  go_upto_region 1 with fail
  clear hw0
  go_wp2_with fail
  go_ret;exact⟨Zk hr.out.symm,hB0.out⟩
 have hgood2:=Za (hgood.out (by omega));have hB:=Za (fun wr (hb:P9 w0.heap.size w0 wr)=>hB0.out.trans (hb.mono hB0.out.size));clear hgood hbad0
 go_enter Tryz.func139,Tryz.ntmps139
 go_upto_region 1 with fail
 clear hw0
 go_cut [29] from 5 to 29 (fun c wx=>c=.bool false/\w0=wx)
 case first =>
  rcases(by omega:l<=0\/(0<l/\m≠0)) with h5 | ⟨h5,h6⟩
  ·have h5':¬ (0:Int)<l:=by omega
   replace h4:=Za h4
   go_wp2_with fail
   go_meet;exact⟨rfl,rfl⟩
  ·have h6':((m:Int)==0)=false:=by simp;omega
   replace h6:=Za h6;replace h4:=Za h4
   go_wp2_with fail
   go_meet;exact⟨rfl,rfl⟩
 case rest =>
 obtain⟨rfl,rfl⟩:=hcut;replace h4:=Za h4
 go_wp2_with fail
 go_loopw [3] (fun i wr=>∃ k:Nat,k<=m/\i=.int .i64 k/\(∀ j,j<k->Zfb n j=true)/\P9 w0.heap.size w0 wr) (fun i _=>m-(intOf i).toNat)
 case atStart=>exact⟨0,by omega,rfl,fun j hj=>by omega,Qb _ _⟩
 case round =>
  obtain⟨k,hk,rfl,ha,hb⟩:=hrel;replace ha:=Za ha;replace hb:=Za hb;have p1:=(hb.out.cell (p:=⟨w.heap.size,0,none⟩) lt0).trans f1;have p2:=(hb.out.cell (p:=⟨w.heap.size,1,none⟩) lt0).trans f2;by_cases hlt:k<m
  case neg =>
   have hfin:=Za (hgood2.out fun i hi=>ha.out i (by omega));have BF:=Za (hB.out _ hb.out)
   go_wp2_with fail
   go_ret;exact⟨Zk hfin.out.symm,BF.out⟩
  obtain⟨x,hx⟩:∃ x,n.2[k]? = some x:=⟨_,Qe (by rw[hm.out];exact hlt)⟩
  obtain⟨ad,E,ce,rfl,q1,q2,hinx,FX⟩:=Y4 HA.out hx;obtain⟨⟨z0,z1,z2,z3,z4⟩,hIx⟩:=FX wr (hB.out _ hb.out);obtain⟨w2,hw2,g0,g1,g2,g3,g4,hs2,hB2,_⟩:=Z6 wr (.int .u8 (x.1.1.toNat:Int)) (.int .u32 x.1.2.1) (.int .u32 x.1.2.2) (.int .i64 x.2.1) (.slice E x.2.2.length ce) 54;have lt2:wr.heap.size<w2.heap.size:=by omega
  have B2:=Za (hb.out.trans (hB2.mono hb.out.size));have HI:Hid (∀ W,P9 w2.heap.size w2 W->Itm (Old W) W (.agg #[.int .u8 (x.1.1.toNat:Int),.int .u32 x.1.2.1,.int .u32 x.1.2.2,.int .i64 x.2.1,.slice E x.2.2.length ce]) x):=Za fun W hW=>(hIx.below hB2).below hW
  have HX:Hid (∀ W,P9 w2.heap.size w2 W->W.cell? ⟨wr.heap.size,3,none⟩=some (.int .i64 x.2.1)/\W.cell? ⟨wr.heap.size,4,none⟩=some (.slice E x.2.2.length ce)):=Za fun W hW=>⟨(hW.cell (p:=⟨wr.heap.size,3,none⟩) lt2).trans g3,(hW.cell (p:=⟨wr.heap.size,4,none⟩) lt2).trans g4⟩
  have HX0:Hid (∀ W,P9 w2.heap.size w2 W->W.cell? ⟨wr.heap.size,0,none⟩=some (.int .u8 (x.1.1.toNat:Int))/\W.cell? ⟨wr.heap.size,1,none⟩=some (.int .u32 x.1.2.1)/\W.cell? ⟨wr.heap.size,2,none⟩=some (.int .u32 x.1.2.2)):=Za fun W hW=>⟨(hW.cell (p:=⟨wr.heap.size,0,none⟩) lt2).trans g0,(hW.cell (p:=⟨wr.heap.size,1,none⟩) lt2).trans g1,(hW.cell (p:=⟨wr.heap.size,2,none⟩) lt2).trans g2⟩
  have HP:Hid (∀ W,P9 w2.heap.size w2 W->W.cell? ⟨w.heap.size,0,none⟩=some (.int .i64 l)/\W.cell? ⟨w.heap.size,1,none⟩=some (.slice (some ad) m c)):=Za fun W hW=>⟨((B2.out.trans (hW.mono B2.out.size)).cell (p:=⟨w.heap.size,0,none⟩) lt0).trans f1,((B2.out.trans (hW.mono B2.out.size)).cell (p:=⟨w.heap.size,1,none⟩) lt0).trans f2⟩
  replace hx:=Za hx;replace hs2:=Za hs2;have hbk:=Za (hbad1.out k hlt);have hstep:Hid (Zfb n k=true->∀ j,j<k+1->Zfb n j=true):=Za fun h j hj=>by
   rcases Qn j k with h1 | h1
   ·exact ha.out j h1
   ·obtain rfl:j=k:=by omega
    exact h
  clear FX hIx hinx hB2
  go_upto_region 7 with fail
  clear hw2 z0 z1 z2 z3 z4 g0 g1 g2 g3 g4 p1 p2;rcases Ve (Zb0 x) with hmx | hmx
  ·have hr:=Za (hbk.out (Zat hx.out (by rw[okP,hmx];rfl)))
   replace hmx:=Za hmx
   refine wp_region_fx (by kernel_rfl) (fun W=>P9 w2.heap.size w2 W) (fun _=>none) (fun i=>match i with
    | 1=>some (.bool false)
    | 16=>some (.bool false)
    | _=>none) (by kernel_rfl) (Qb _ _).drew (fun w w' h hb=>h.trans (hb.mono h.size)) (fun j φ x W W' hp=>by cases hp) ?_
   repeat (first
    | (refine wpAs_skip rfl ?_;simp only[Qa,Zb,Zc,Zd])
    | (refine wpAs_pure (v := ?_) rfl rfl ?_ ?_;rotate_left;(intro W hC hE;clear hE;(obtain⟨r0,r1,r2⟩:=HX0.out W hC;obtain⟨r3,r4⟩:=HX.out W hC);clear hC;go_simp;first | done | with_reducible rfl);simp only[Qa,Zb,Zc,Zd]))
   refine wpAs_fixed rfl rfl rfl ?_ ?_
   ·intro W hC hE
    refine does_enter (f:=164) (args:=#[.agg #[.int .u8 (x.1.1.toNat:Int),.int .u32 x.1.2.1,.int .u32 x.1.2.2,.int .i64 x.2.1,.slice E x.2.2.length ce]]) ?_ ?_
    ·go_simp
    ·refine(Ur _ x W (HI.out W hC)).mono ?_
     (rintro e W' ⟨rfl,hg⟩;rw[hmx.out])
     exact⟨_,rfl,rfl,hg⟩
   simp only[Qa,Zb,Zc,Zd]
   iterate 1 (first
    | (refine wpAs_skip rfl ?_;simp only[Qa,Zb,Zc,Zd])
    | (refine wpAs_pure (v := ?_) rfl rfl ?_ ?_;rotate_left;(intro W hC hE;clear hE;skip;clear hC;go_simp;with_reducible rfl);simp only[Qa,Zb,Zc,Zd]))
   refine Zx (v:=.bool true) 15 rfl rfl rfl ?_ (by kernel_rfl) ?_
   ·intro W hC hE
    clear hE hC
    first
     | (go_simp;done)
     | (go_simp;simp;omega)
     | (go_simp;simp_all;done)
   simp only[Zbe,Qa,Qo,Qg,Qh,Qi,Qj]
   iterate 1 (first
    | (refine wpAs_skip rfl ?_;simp only[Qa,Zb,Zc,Zd])
    | (refine wpAs_pure (v := ?_) rfl rfl ?_ ?_;rotate_left;(intro W hC hE;clear hE;skip;clear hC;go_simp;with_reducible rfl);simp only[Qa,Zb,Zc,Zd]))
   refine Zx (v:=.bool true) 14 rfl rfl rfl ?_ (by kernel_rfl) ?_
   ·intro W hC hE
    clear hE hC
    first
     | (go_simp;done)
     | (go_simp;simp;omega)
     | (go_simp;simp_all;done)
   simp only[Zbe,Qa,Qo,Qg,Qh,Qi,Qj]
   iterate 1 (first
    | (refine wpAs_skip rfl ?_;simp only[Qa,Zb,Zc,Zd])
    | (refine wpAs_pure (v := ?_) rfl rfl ?_ ?_;rotate_left;(intro W hC hE;clear hE;skip;clear hC;go_simp;with_reducible rfl);simp only[Qa,Zb,Zc,Zd]))
   refine wpAs_end fun W hC hE=> ?_
   have BF:=Za (hB.out _ (B2.out.trans (hC.mono B2.out.size)));clear hE hC
   go_wp2_with fail
   go_ret;exact⟨Zk hr.out.symm,BF.out⟩
  replace hmx:=Za hmx;rcases(by rcases k with _ | j;exact Or.inl rfl;exact Or.inr ⟨j,rfl⟩:k=0\/∃ j,k=j+1) with hk0 | ⟨j,hkj⟩
  ·have kz:¬ (0:Int)<(k:Int):=by omega
   have hsucc:=Za (show Zfb n k=okP n.1 x by subst hk0;exact Zey hx.out);replace hk0:=Za hk0
   refine wp_region_fx (by kernel_rfl) (fun W=>P9 w2.heap.size w2 W) (fun _=>none) (fun i=>match i with
    | 1=>some (.bool true)
    | 16=>some (.bool true)
    | _=>none) (by kernel_rfl) (Qb _ _).drew (fun w w' h hb=>h.trans (hb.mono h.size)) (fun j φ x W W' hp=>by cases hp) ?_
   repeat (first
    | (refine wpAs_skip rfl ?_;simp only[Qa,Zb,Zc,Zd])
    | (refine wpAs_pure (v := ?_) rfl rfl ?_ ?_;rotate_left;(intro W hC hE;clear hE;(obtain⟨r0,r1,r2⟩:=HX0.out W hC;obtain⟨r3,r4⟩:=HX.out W hC);clear hC;go_simp;first | done | with_reducible rfl);simp only[Qa,Zb,Zc,Zd]))
   refine wpAs_fixed rfl rfl rfl ?_ ?_
   ·intro W hC hE
    refine does_enter (f:=164) (args:=#[.agg #[.int .u8 (x.1.1.toNat:Int),.int .u32 x.1.2.1,.int .u32 x.1.2.2,.int .i64 x.2.1,.slice E x.2.2.length ce]]) ?_ ?_
    ·go_simp
    ·refine(Ur _ x W (HI.out W hC)).mono ?_
     (rintro e W' ⟨rfl,hg⟩;rw[hmx.out])
     exact⟨_,rfl,rfl,hg⟩
   simp only[Qa,Zb,Zc,Zd]
   iterate 4 (first
    | (refine wpAs_skip rfl ?_;simp only[Qa,Zb,Zc,Zd])
    | (refine wpAs_pure (v := ?_) rfl rfl ?_ ?_;rotate_left;(intro W hC hE;clear hE;skip;clear hC;go_simp;with_reducible rfl);simp only[Qa,Zb,Zc,Zd]))
   refine Zx (v:=.bool false) 11 rfl rfl rfl ?_ (by kernel_rfl) ?_
   ·intro W hC hE
    clear hE hC
    first
     | (go_simp;done)
     | (go_simp;simp;omega)
     | (go_simp;simp_all;done)
   simp only[Zbe,Qa,Qo,Qg,Qh,Qi,Qj]
   iterate 2 (first
    | (refine wpAs_skip rfl ?_;simp only[Qa,Zb,Zc,Zd])
    | (refine wpAs_pure (v := ?_) rfl rfl ?_ ?_;rotate_left;(intro W hC hE;clear hE;skip;clear hC;go_simp;with_reducible rfl);simp only[Qa,Zb,Zc,Zd]))
   iterate 4 (first
    | (refine wpAs_skip rfl ?_;simp only[Qa,Zb,Zc,Zd])
    | (refine wpAs_pure (v := ?_) rfl rfl ?_ ?_;rotate_left;(intro W hC hE;clear hE;(obtain⟨p3,p4⟩:=HP.out W hC);clear hC;go_simp;with_reducible rfl);simp only[Qa,Zb,Zc,Zd]))
   by_cases h7:l<=0
   ·have h7':¬ (0:Int)<l:=by omega
    have hall:=Za (hstep.out (by rw[hsucc.out,okP,hmx.out,hl.out];simp[h7]));refine Zx (v:=.bool false) 9 rfl rfl rfl ?_ (by kernel_rfl) ?_
    ·intro W hC hE
     clear hE hC
     first
      | (go_simp;done)
      | (go_simp;simp;omega)
      | (go_simp;simp_all;done)
    simp only[Zbe,Qa,Qo,Qg,Qh,Qi,Qj]
    iterate 2 (first
     | (refine wpAs_skip rfl ?_;simp only[Qa,Zb,Zc,Zd])
     | (refine wpAs_pure (v := ?_) rfl rfl ?_ ?_;rotate_left;(intro W hC hE;clear hE;skip;clear hC;go_simp;with_reducible rfl);simp only[Qa,Zb,Zc,Zd]))
    refine wpAs_end fun W hC hE=> ?_
    have BW:=Za (B2.out.trans (hC.mono B2.out.size));clear hE hC
    go_wp2_with fail
    go_roundw
    case rel=>exact⟨k+1,by omega,by go_num,hall.out,BW.out⟩
    case measure=>simp[intOf];omega
   ·have h7':(0:Int)<l:=by omega
    refine Zx (v:=.bool true) 0 rfl rfl rfl ?_ (by kernel_rfl) ?_
    ·intro W hC hE
     clear hE hC
     first
      | (go_simp;done)
      | (go_simp;simp;omega)
      | (go_simp;simp_all;done)
    simp only[Zbe,Qa,Qg,Qh,Qi,Qj]
    iterate 3 (first
     | (refine wpAs_skip rfl ?_;simp only[Qa,Zb,Zc,Zd])
     | (refine wpAs_pure (v := ?_) rfl rfl ?_ ?_;rotate_left;(intro W hC hE;clear hE;(obtain⟨p3,p4⟩:=HP.out W hC;obtain⟨r3,r4⟩:=HX.out W hC);clear hC;go_simp;with_reducible rfl);simp only[Qa,Zb,Zc,Zd]))
    by_cases h8:x.2.1=0
    ·have h8':(x.2.1==0)=true:=by simpa using h8
     have hr:=Za (hbk.out (Zat hx.out (by rw[okP,hmx.out,hl.out,Ua];simp[h8];omega)));replace h8:=Za h8;refine Zx (v:=.bool true) 4 rfl rfl rfl ?_ (by kernel_rfl) ?_
     ·intro W hC hE
      clear hE hC
      first
       | (go_simp;done)
       | (go_simp;simp;omega)
       | (go_simp;simp_all;done)
     simp only[Zbe,Qa,Qo,Qg,Qh,Qi,Qj]
     iterate 3 (first
      | (refine wpAs_skip rfl ?_;simp only[Qa,Zb,Zc,Zd])
      | (refine wpAs_pure (v := ?_) rfl rfl ?_ ?_;rotate_left;(intro W hC hE;clear hE;skip;clear hC;go_simp;with_reducible rfl);simp only[Qa,Zb,Zc,Zd]))
     refine wpAs_end fun W hC hE=> ?_
     have BF:=Za (hB.out _ (B2.out.trans (hC.mono B2.out.size)));clear hE hC
     go_wp2_with fail
     go_ret;exact⟨Zk hr.out.symm,BF.out⟩
    ·have h8':(x.2.1==0)=false:=by simpa using h8
     by_cases h9:x.2.2.length=0
     ·have h9':¬ (0:Int)<(x.2.2.length:Int):=by omega
      have hall:=Za (hstep.out (by rw[hsucc.out,okP,hmx.out,Ua];simp[h8,h9]));replace h8:=Za h8;replace h9:=Za h9;refine Zx (v:=.bool false) 0 rfl rfl rfl ?_ (by kernel_rfl) ?_
      ·intro W hC hE
       clear hE hC
       first
        | (go_simp;done)
        | (go_simp;simp;omega)
        | (go_simp;simp_all;done)
      simp only[Zbe,Qa,Qg,Qh,Qi,Qj]
      iterate 7 (first
       | (refine wpAs_skip rfl ?_;simp only[Qa,Zb,Zc,Zd])
       | (refine wpAs_pure (v := ?_) rfl rfl ?_ ?_;rotate_left;(intro W hC hE;clear hE;(obtain⟨r3,r4⟩:=HX.out W hC);clear hC;go_simp;with_reducible rfl);simp only[Qa,Zb,Zc,Zd]))
      refine wpAs_end fun W hC hE=> ?_
      have BW:=Za (B2.out.trans (hC.mono B2.out.size));clear hE hC
      go_wp2_with fail
      go_roundw
      case rel=>exact⟨k+1,by omega,by go_num,hall.out,BW.out⟩
      case measure=>simp[intOf];omega
     ·have h9':(0:Int)<(x.2.2.length:Int):=by omega
      have hr:=Za (hbk.out (Zat hx.out (by rw[okP,hmx.out,hl.out,Ua];simp[h9];omega)));replace h8:=Za h8;replace h9:=Za h9;refine Zx (v:=.bool false) 0 rfl rfl rfl ?_ (by kernel_rfl) ?_
      ·intro W hC hE
       clear hE hC
       first
        | (go_simp;done)
        | (go_simp;simp;omega)
        | (go_simp;simp_all;done)
      simp only[Zbe,Qa,Qg,Qh,Qi,Qj]
      iterate 7 (first
       | (refine wpAs_skip rfl ?_;simp only[Qa,Zb,Zc,Zd])
       | (refine wpAs_pure (v := ?_) rfl rfl ?_ ?_;rotate_left;(intro W hC hE;clear hE;(obtain⟨r3,r4⟩:=HX.out W hC);clear hC;go_simp;with_reducible rfl);simp only[Qa,Zb,Zc,Zd]))
      refine wpAs_end fun W hC hE=> ?_
      have BF:=Za (hB.out _ (B2.out.trans (hC.mono B2.out.size)));clear hE hC
      go_wp2_with fail
      go_ret;exact⟨Zk hr.out.symm,BF.out⟩
  ·obtain⟨y,hy⟩:∃ y,n.2[j]? = some y:=⟨_,Qe (by rw[hm.out];omega)⟩
   obtain⟨ad',E',ce',e',_,_,_,FY⟩:=Y4 HA.out hy;have e'':=Option.some.inj e';subst e'';clear e';have FYY:=Za fun W (hW:P9 w2.heap.size w2 W)=>(FY W ((hB.out _ B2.out).trans (hW.mono (hB.out _ B2.out).size))).1
   have hs0:=Zcr (n:=n) (k:=j) (x:=x) (p:=y) (by rw[<- hkj];exact hx.out) hy;rw[<- hkj] at hs0;have hj1:(k:Int)-1=(j:Int):=by omega
   have hwj:IntKind.i64.wrap (j:Int)=(j:Int):=Qq _ (by omega);have hj0:(0:Int)<=(j:Int):=by omega
   have kpos:(0:Int)<(k:Int):=by omega
   have hjm:(j:Int)<(m:Int):=by omega
   replace hy:=Za hy;replace hkj:=Za hkj;clear FY;rcases Ve (Zq y.1 x.1) with hs | hs
   ·have hr:=Za (hbk.out (by rw[hs0,hs];simp))
    replace hs:=Za hs;replace hs0:=Za hs0
    refine wp_region_fx (by kernel_rfl) (fun W=>P9 w2.heap.size w2 W) (fun _=>none) (fun i=>match i with
     | 1=>some (.bool true)
     | 16=>some (.bool false)
     | _=>none) (by kernel_rfl) (Qb _ _).drew (fun w w' h hb=>h.trans (hb.mono h.size)) (fun j φ x W W' hp=>by cases hp) ?_
    repeat (first
     | (refine wpAs_skip rfl ?_;simp only[Qa,Zb,Zc,Zd])
     | (refine wpAs_pure (v := ?_) rfl rfl ?_ ?_;rotate_left;(intro W hC hE;clear hE;(obtain⟨r0,r1,r2⟩:=HX0.out W hC;obtain⟨r3,r4⟩:=HX.out W hC);clear hC;go_simp;first | done | with_reducible rfl);simp only[Qa,Zb,Zc,Zd]))
    refine wpAs_fixed rfl rfl rfl ?_ ?_
    ·intro W hC hE
     refine does_enter (f:=164) (args:=#[.agg #[.int .u8 (x.1.1.toNat:Int),.int .u32 x.1.2.1,.int .u32 x.1.2.2,.int .i64 x.2.1,.slice E x.2.2.length ce]]) ?_ ?_
     ·go_simp
     ·refine(Ur _ x W (HI.out W hC)).mono ?_
      (rintro e W' ⟨rfl,hg⟩;rw[hmx.out])
      exact⟨_,rfl,rfl,hg⟩
    simp only[Qa,Zb,Zc,Zd]
    iterate 4 (first
     | (refine wpAs_skip rfl ?_;simp only[Qa,Zb,Zc,Zd])
     | (refine wpAs_pure (v := ?_) rfl rfl ?_ ?_;rotate_left;(intro W hC hE;clear hE;skip;clear hC;go_simp;with_reducible rfl);simp only[Qa,Zb,Zc,Zd]))
    refine Zx (v:=.bool true) 0 rfl rfl rfl ?_ (by kernel_rfl) ?_
    ·intro W hC hE
     clear hE hC
     first
      | (go_simp;done)
      | (go_simp;simp;omega)
      | (go_simp;simp_all;done)
    simp only[Zbe,Qa,Qg,Qh,Qi,Qj]
    iterate 9 (first
     | (refine wpAs_skip rfl ?_;simp only[Qa,Zb,Zc,Zd])
     | (refine wpAs_pure (v := ?_) rfl rfl ?_ ?_;rotate_left;(intro W hC hE;clear hE;(obtain⟨p3,p4⟩:=HP.out W hC;obtain⟨y0,y1,y2,y3,y4⟩:=FYY.out W hC;obtain⟨r0,r1,r2⟩:=HX0.out W hC);clear hC;go_simp;with_reducible rfl);simp only[Qa,Zb,Zc,Zd]))
    refine wpAs_fixed rfl rfl rfl ?_ ?_
    ·intro W hC hE
     refine does_enter (f:=60) (args:=#[kyV y.1,kyV x.1]) ?_ ?_
     ·go_simp
     ·refine(Uo y.1 x.1 W).mono ?_
      (rintro e W' ⟨rfl,hg⟩;rw[hs.out])
      exact⟨_,rfl,rfl,hg⟩
    simp only[Qa,Zb,Zc,Zd]
    iterate 3 (first
     | (refine wpAs_skip rfl ?_;simp only[Qa,Zb,Zc,Zd])
     | (refine wpAs_pure (v := ?_) rfl rfl ?_ ?_;rotate_left;(intro W hC hE;clear hE;skip;clear hC;go_simp;with_reducible rfl);simp only[Qa,Zb,Zc,Zd]))
    refine Zx (v:=.bool true) 14 rfl rfl rfl ?_ (by kernel_rfl) ?_
    ·intro W hC hE
     clear hE hC
     first
      | (go_simp;done)
      | (go_simp;simp;omega)
      | (go_simp;simp_all;done)
    simp only[Zbe,Qa,Qo,Qg,Qh,Qi,Qj]
    iterate 1 (first
     | (refine wpAs_skip rfl ?_;simp only[Qa,Zb,Zc,Zd])
     | (refine wpAs_pure (v := ?_) rfl rfl ?_ ?_;rotate_left;(intro W hC hE;clear hE;skip;clear hC;go_simp;with_reducible rfl);simp only[Qa,Zb,Zc,Zd]))
    refine wpAs_end fun W hC hE=> ?_
    have BF:=Za (hB.out _ (B2.out.trans (hC.mono B2.out.size)));clear hE hC
    go_wp2_with fail
    go_ret;exact⟨Zk hr.out.symm,BF.out⟩
   ·have hsucc:=Za (show Zfb n k=okP n.1 x by rw[hs0,hs];simp)
    replace hs:=Za hs;replace hs0:=Za hs0
    refine wp_region_fx (by kernel_rfl) (fun W=>P9 w2.heap.size w2 W) (fun _=>none) (fun i=>match i with
     | 1=>some (.bool true)
     | 16=>some (.bool true)
     | _=>none) (by kernel_rfl) (Qb _ _).drew (fun w w' h hb=>h.trans (hb.mono h.size)) (fun j φ x W W' hp=>by cases hp) ?_
    repeat (first
     | (refine wpAs_skip rfl ?_;simp only[Qa,Zb,Zc,Zd])
     | (refine wpAs_pure (v := ?_) rfl rfl ?_ ?_;rotate_left;(intro W hC hE;clear hE;(obtain⟨r0,r1,r2⟩:=HX0.out W hC;obtain⟨r3,r4⟩:=HX.out W hC);clear hC;go_simp;first | done | with_reducible rfl);simp only[Qa,Zb,Zc,Zd]))
    refine wpAs_fixed rfl rfl rfl ?_ ?_
    ·intro W hC hE
     refine does_enter (f:=164) (args:=#[.agg #[.int .u8 (x.1.1.toNat:Int),.int .u32 x.1.2.1,.int .u32 x.1.2.2,.int .i64 x.2.1,.slice E x.2.2.length ce]]) ?_ ?_
     ·go_simp
     ·refine(Ur _ x W (HI.out W hC)).mono ?_
      (rintro e W' ⟨rfl,hg⟩;rw[hmx.out])
      exact⟨_,rfl,rfl,hg⟩
    simp only[Qa,Zb,Zc,Zd]
    iterate 4 (first
     | (refine wpAs_skip rfl ?_;simp only[Qa,Zb,Zc,Zd])
     | (refine wpAs_pure (v := ?_) rfl rfl ?_ ?_;rotate_left;(intro W hC hE;clear hE;skip;clear hC;go_simp;with_reducible rfl);simp only[Qa,Zb,Zc,Zd]))
    refine Zx (v:=.bool true) 0 rfl rfl rfl ?_ (by kernel_rfl) ?_
    ·intro W hC hE
     clear hE hC
     first
      | (go_simp;done)
      | (go_simp;simp;omega)
      | (go_simp;simp_all;done)
    simp only[Zbe,Qa,Qg,Qh,Qi,Qj]
    iterate 9 (first
     | (refine wpAs_skip rfl ?_;simp only[Qa,Zb,Zc,Zd])
     | (refine wpAs_pure (v := ?_) rfl rfl ?_ ?_;rotate_left;(intro W hC hE;clear hE;(obtain⟨p3,p4⟩:=HP.out W hC;obtain⟨y0,y1,y2,y3,y4⟩:=FYY.out W hC;obtain⟨r0,r1,r2⟩:=HX0.out W hC);clear hC;go_simp;with_reducible rfl);simp only[Qa,Zb,Zc,Zd]))
    refine wpAs_fixed rfl rfl rfl ?_ ?_
    ·intro W hC hE
     refine does_enter (f:=60) (args:=#[kyV y.1,kyV x.1]) ?_ ?_
     ·go_simp
     ·refine(Uo y.1 x.1 W).mono ?_
      (rintro e W' ⟨rfl,hg⟩;rw[hs.out])
      exact⟨_,rfl,rfl,hg⟩
    simp only[Qa,Zb,Zc,Zd]
    iterate 3 (first
     | (refine wpAs_skip rfl ?_;simp only[Qa,Zb,Zc,Zd])
     | (refine wpAs_pure (v := ?_) rfl rfl ?_ ?_;rotate_left;(intro W hC hE;clear hE;skip;clear hC;go_simp;with_reducible rfl);simp only[Qa,Zb,Zc,Zd]))
    iterate 4 (first
     | (refine wpAs_skip rfl ?_;simp only[Qa,Zb,Zc,Zd])
     | (refine wpAs_pure (v := ?_) rfl rfl ?_ ?_;rotate_left;(intro W hC hE;clear hE;(obtain⟨p3,p4⟩:=HP.out W hC);clear hC;go_simp;with_reducible rfl);simp only[Qa,Zb,Zc,Zd]))
    by_cases h7:l<=0
    ·have h7':¬ (0:Int)<l:=by omega
     have hall:=Za (hstep.out (by rw[hsucc.out,okP,hmx.out,hl.out];simp[h7]));refine Zx (v:=.bool false) 9 rfl rfl rfl ?_ (by kernel_rfl) ?_
     ·intro W hC hE
      clear hE hC
      first
       | (go_simp;done)
       | (go_simp;simp;omega)
       | (go_simp;simp_all;done)
     simp only[Zbe,Qa,Qo,Qg,Qh,Qi,Qj]
     iterate 2 (first
      | (refine wpAs_skip rfl ?_;simp only[Qa,Zb,Zc,Zd])
      | (refine wpAs_pure (v := ?_) rfl rfl ?_ ?_;rotate_left;(intro W hC hE;clear hE;skip;clear hC;go_simp;with_reducible rfl);simp only[Qa,Zb,Zc,Zd]))
     refine wpAs_end fun W hC hE=> ?_
     have BW:=Za (B2.out.trans (hC.mono B2.out.size));clear hE hC
     go_wp2_with fail
     go_roundw
     case rel=>exact⟨k+1,by omega,by go_num,hall.out,BW.out⟩
     case measure=>simp[intOf];omega
    ·have h7':(0:Int)<l:=by omega
     refine Zx (v:=.bool true) 0 rfl rfl rfl ?_ (by kernel_rfl) ?_
     ·intro W hC hE
      clear hE hC
      first
       | (go_simp;done)
       | (go_simp;simp;omega)
       | (go_simp;simp_all;done)
     simp only[Zbe,Qa,Qg,Qh,Qi,Qj]
     iterate 3 (first
      | (refine wpAs_skip rfl ?_;simp only[Qa,Zb,Zc,Zd])
      | (refine wpAs_pure (v := ?_) rfl rfl ?_ ?_;rotate_left;(intro W hC hE;clear hE;(obtain⟨p3,p4⟩:=HP.out W hC;obtain⟨r3,r4⟩:=HX.out W hC);clear hC;go_simp;with_reducible rfl);simp only[Qa,Zb,Zc,Zd]))
     by_cases h8:x.2.1=0
     ·have h8':(x.2.1==0)=true:=by simpa using h8
      have hr:=Za (hbk.out (Zat hx.out (by rw[okP,hmx.out,hl.out,Ua];simp[h8];omega)));replace h8:=Za h8;refine Zx (v:=.bool true) 4 rfl rfl rfl ?_ (by kernel_rfl) ?_
      ·intro W hC hE
       clear hE hC
       first
        | (go_simp;done)
        | (go_simp;simp;omega)
        | (go_simp;simp_all;done)
      simp only[Zbe,Qa,Qo,Qg,Qh,Qi,Qj]
      iterate 3 (first
       | (refine wpAs_skip rfl ?_;simp only[Qa,Zb,Zc,Zd])
       | (refine wpAs_pure (v := ?_) rfl rfl ?_ ?_;rotate_left;(intro W hC hE;clear hE;skip;clear hC;go_simp;with_reducible rfl);simp only[Qa,Zb,Zc,Zd]))
      refine wpAs_end fun W hC hE=> ?_
      have BF:=Za (hB.out _ (B2.out.trans (hC.mono B2.out.size)));clear hE hC
      go_wp2_with fail
      go_ret;exact⟨Zk hr.out.symm,BF.out⟩
     ·have h8':(x.2.1==0)=false:=by simpa using h8
      by_cases h9:x.2.2.length=0
      ·have h9':¬ (0:Int)<(x.2.2.length:Int):=by omega
       have hall:=Za (hstep.out (by rw[hsucc.out,okP,hmx.out,Ua];simp[h8,h9]));replace h8:=Za h8;replace h9:=Za h9;refine Zx (v:=.bool false) 0 rfl rfl rfl ?_ (by kernel_rfl) ?_
       ·intro W hC hE
        clear hE hC
        first
         | (go_simp;done)
         | (go_simp;simp;omega)
         | (go_simp;simp_all;done)
       simp only[Zbe,Qa,Qg,Qh,Qi,Qj]
       iterate 7 (first
        | (refine wpAs_skip rfl ?_;simp only[Qa,Zb,Zc,Zd])
        | (refine wpAs_pure (v := ?_) rfl rfl ?_ ?_;rotate_left;(intro W hC hE;clear hE;(obtain⟨r3,r4⟩:=HX.out W hC);clear hC;go_simp;with_reducible rfl);simp only[Qa,Zb,Zc,Zd]))
       refine wpAs_end fun W hC hE=> ?_
       have BW:=Za (B2.out.trans (hC.mono B2.out.size));clear hE hC
       go_wp2_with fail
       go_roundw
       case rel=>exact⟨k+1,by omega,by go_num,hall.out,BW.out⟩
       case measure=>simp[intOf];omega
      ·have h9':(0:Int)<(x.2.2.length:Int):=by omega
       have hr:=Za (hbk.out (Zat hx.out (by rw[okP,hmx.out,hl.out,Ua];simp[h9];omega)));replace h8:=Za h8;replace h9:=Za h9;refine Zx (v:=.bool false) 0 rfl rfl rfl ?_ (by kernel_rfl) ?_
       ·intro W hC hE
        clear hE hC
        first
         | (go_simp;done)
         | (go_simp;simp;omega)
         | (go_simp;simp_all;done)
       simp only[Zbe,Qa,Qg,Qh,Qi,Qj]
       iterate 7 (first
        | (refine wpAs_skip rfl ?_;simp only[Qa,Zb,Zc,Zd])
        | (refine wpAs_pure (v := ?_) rfl rfl ?_ ?_;rotate_left;(intro W hC hE;clear hE;(obtain⟨r3,r4⟩:=HX.out W hC);clear hC;go_simp;with_reducible rfl);simp only[Qa,Zb,Zc,Zd]))
       refine wpAs_end fun W hC hE=> ?_
       have BF:=Za (hB.out _ (B2.out.trans (hC.mono B2.out.size)));clear hE hC
       go_wp2_with fail
       go_ret;exact⟨Zk hr.out.symm,BF.out⟩}
theorem Zfr (v:Pz) (n:Nd) (w:Py) (h:Nod (Old w) w v n) (hm:Xn n=true) :
  P8 Tryz.prog 141 #[v] w fun e w'=>∃ u,e=.returned u/\rBy (New w.heap.size w') w' [u] (Xv n)/\P9 w.heap.size w w':=by{
 obtain⟨A,c,rfl,hin,l1,m1,hA⟩:=h.open;obtain⟨w1,hw1,b0,hs0,hB0⟩:=Zy w (.int .i64 n.1) (.slice A n.2.length c) 81;obtain⟨f1,f2,_,lt1⟩:=Zg b0;have HA:=Za hA;have B1:=Za hB0;replace hs0:=Za hs0;clear h hA hB0 b0 hin;have hmay:=Za hm;obtain⟨⟨s1,s2,s3,_⟩,_⟩:=Zs hm;obtain⟨m,hmm⟩:∃ m,n.2.length=m:=⟨_,rfl⟩
 have hu1:=Zg9 s1 (by omega);have hu2:=Zg9 (l:=(n.2.length:Int)) (by omega) (by omega);have hhead:=Za (show Zl3 n=[78,UInt8.ofNat n.1.toNat,UInt8.ofNat n.2.length] from rfl);rw[Int.toNat_natCast] at hu2;rw[hmm] at l1 f2 hw1 HA s3 hu2 hhead ⊢;obtain⟨l,hl⟩:∃ l,n.1=l:=⟨_,rfl⟩
 rw[hl] at f1 hw1 s1 s2 hu1 hhead ⊢;replace hl:=Za hl;replace hmm:=Za hmm;clear hm;obtain⟨w2,hw2,own2,hb2,hs2⟩:=Zrg w1 78 (UInt8.ofNat l.toNat) (UInt8.ofNat m) 78 l m rfl hu1.1 hu2.1;rw[<- hhead.out] at own2;have q1:=hu1.2;have q2:=hu2.2;have lt2:w.heap.size<w2.heap.size:=Qc lt1 hb2.size;have hb2':=Za hb2;replace own2:=Za own2;replace hu1:=Za hu1;replace hu2:=Za hu2;replace hs2:=Za hs2;clear hb2
 go_enter Tryz.func141,Tryz.ntmps141
 go_upto_region 1 with fail
 clear hw1
 go_upto_region 2 with fail
 clear hw2
 go_wp2_with fail
 go_loopw [3,4] (fun b i wr=>∃ k:Nat,k<=m/\i=.int .i64 k/\wr.ownsRow w1.heap.size 5 1 b (3+(Zae (n.2.take k)).length) (u8s (Zl3 n++Zae (n.2.take k)))/\P9 w1.heap.size w1 wr) (fun _ i _=>m-(intOf i).toNat)
 case atStart=>exact⟨0,by omega,rfl,by simpa [Zae] using own2.out,hb2'.out⟩
 case round =>
  obtain⟨k,hk,rfl,hown,hb⟩:=hrel;replace hb:=Za hb;have h63:=Zej hmay.out k;obtain⟨B,cb,rfl,c1,c2,hby⟩:=Zfe hown;have BF:=Za (B1.out.trans (hb.out.mono B1.out.size));have p4:=(hb.out.cell (p:=⟨w.heap.size,1,none⟩) lt1).trans f2;by_cases hlt:k<m
  case neg =>
   have hkm:Hid (n.2.take k=n.2):=Za (Qu (by rw[hmm.out];omega));rw[hkm.out] at hown c1 ⊢;have hfin:=Za (show rBy (New w.heap.size wr) wr [.slice B (3+(Zae n.2).length) cb] (Xv n) from Zf.mono (Zal hown) B1.out.size);obtain⟨q,hq⟩:∃ q,3+(Zae n.2).length=q:=⟨_,rfl⟩
   rw[hq] at hfin c1 ⊢;clear hown hq hby
   go_wp2_with fail
   go_ret;exact⟨_,rfl,hfin.out,BF.out⟩
  obtain⟨x,hx⟩:∃ x,n.2[k]? = some x:=⟨_,Qe (by rw[hmm.out];exact hlt)⟩
  obtain⟨ad,E,ce,rfl,_,_,hinx,FX⟩:=Y4 HA.out hx;obtain⟨⟨z0,z1,z2,z3,z4⟩,hIx⟩:=FX wr BF.out;have HI:=Za hIx;have hmx:=Za (Zqs (Zek hmay.out hx));have htk:=Za (Znq hx);have hlx:=Za (show (itB x).length<=24 by have:=(Zax hmx.out).2;rw[Um];omega);have HO:=Za hown;have i1:(0:Int)<=(k:Int):=by omega
  have i2:(k:Int)<(m:Int):=by omega
  replace hx:=Za hx;clear FX hinx hIx hown hby
  unfold itV at *
  go_wp2_with fail
  with_reducible refine(Zpq _ x _ HI.out hmx.out).mono ?_
  rintro e4 w4 ⟨u,rfl,hu,hb4⟩;obtain⟨U,cu,rfl,_,_,hyu⟩:=Yq (B:=w4.heap.size) (fun p hp=>hp.2.1) hu;have B4:=hb.out.trans (hb4.mono hb.out.size);obtain⟨v5,w5,hr5,o5,ba5⟩:=X4 _ (3+(Zae (n.2.take k)).length) (itB x).length cu _ (itB x) U w1.heap.size w4 (Zr HO.out hb4) hyu rfl (by have:=hlx.out;omega) B4.size;have B5:=Za (B4.trans ba5);have H5:=Za hr5
  have o5':=Za (show w5.ownsRow w1.heap.size 5 1 v5 (3+(Zae (n.2.take (k+1))).length) (u8s (Zl3 n++Zae (n.2.take (k+1)))) by
   rw[htk.out,Qs,<- Qt,<- Q6]
   exact o5)
  clear hu hb4 hyu hr5 o5 ba5 B4
  go_wp2_with (at_builtin;refine Zi rfl _ _ _ rfl rfl rfl H5.out ?_;clear H5)
  go_roundw
  case rel=>exact⟨k+1,by omega,by go_num,o5'.out,B5.out⟩
  case measure=>simp[intOf];omega}
theorem Zn1 (v:Pz) (n:Nd) (w:Py) (h:Nod (Old w) w v n) (hm:Xn n=true) :
  P8 Tryz.prog 168 #[v] w fun e w'=>∃ u,e=.returned u/\rBy (New w.heap.size w') w' [u] (Zb5 n)/\P9 w.heap.size w w':=by{
 obtain⟨d,rfl,_⟩:=id h;obtain⟨w0,hw0,b0,hs0,hB0⟩:=Zy w (.int .i64 n.1) d 81;obtain⟨f1,f2,_,_⟩:=Zg b0;have H0:=Za (h.below hB0);have HB0:=Za hB0;have hl:=Zhz hm;replace hm:=Za hm;replace hs0:=Za hs0;clear hB0 b0 h
 go_enter Tryz.func168,Tryz.ntmps168
 go_upto_region 1 with fail
 clear hw0
 go_wp2_with fail
 with_reducible refine(Zfr _ n _ H0.out hm.out).mono ?_
 rintro e1 w1 ⟨u,rfl,hu,hb1⟩;obtain⟨U,cu,rfl,g1,g2,hyu⟩:=Yq (B:=w1.heap.size) (fun p hp=>hp.2.1) hu;obtain⟨q,hq⟩:∃ q,(Xv n).length=q:=⟨_,rfl⟩
 rw[hq] at g1 hl ⊢;replace hq:=Za hq;have B1:=Za (HB0.out.trans (hb1.mono HB0.out.size));have HY:=Za hyu;clear hu hb1 hyu
 go_wp2_with fail
 with_reducible refine(Zug U q cu (Xv n) hq hl g1 g2 _ HY.out).mono ?_
 rintro e2 w2 ⟨u2,rfl,ho,hb2⟩;have BF:=Za (B1.out.trans (hb2.mono B1.out.size));have hfin:=Za (show rBy (New w.heap.size w2) w2 [u2] (Zb5 n) from Zf.mono (Zal ho) B1.out.size);clear hb2 ho
 go_wp2_with fail
 go_ret;exact⟨_,rfl,hfin.out,BF.out⟩}
def Zem (b t:List UInt8) (i:Nat):Bool:=if i<t.length then b[i]?.getD 0==t[i]?.getD 0 else b[i]?.getD 0==0
def Zor (b t:List UInt8):Bool:=(Q8 b.length).all (Zem b t)&&decide (t.length<=b.length)
theorem Z3p {b t:List UInt8}{k:Nat}(hk:k<b.length) (h:Zem b t k=false):Zor b t=false:=by{
 cases e:Zor b t with
 | false=>rfl
 | true =>
  simp only[Zor,Qk,Qm] at e;have:=e.1 k (by simpa using hk);rw[h] at this;cases this}
theorem Zrf {b t:List UInt8}(h:∀ k,k<b.length->Zem b t k=true):Zor b t=decide (t.length<=b.length):=by
 have:(Q8 b.length).all (Zem b t)=true:=by
  rw[Qm];exact fun x hx=>h x (by simpa using hx)
 rw[Zor,this,Bool.true_and]
theorem Z2h {b t:List UInt8}(h:Zor b t=true):∃ r,Xr r=true/\b=t++r:=by{
 simp only[Zor,Qk,Qm,decide_eq_true_eq] at h;obtain⟨h1,h2⟩:=h;have h3:∀ i,i<b.length->Zem b t i=true:=fun i hi=>h1 i (by simpa using hi)
 refine⟨b.drop t.length,?_,?_⟩
 ·unfold Xr
  rw[Qm];intro x hx;obtain⟨j,hj⟩:=Pa.1 hx;rw[Qw] at hj;have:=h3 (t.length+j) (Ql.1 hj).1;unfold Zem at this;rw[if_neg (by omega),hj] at this
  simpa using this
 ·apply List.ext_getElem?
  intro i;rcases Qn i t.length with hi | hi
  ·rw[Pu hi]
   have:=h3 i (by omega);unfold Zem at this;rw[if_pos hi,Qe hi,Qe (show i<b.length by omega)] at this;rw[Qe hi,Qe (show i<b.length by omega)]
   simpa using this
  ·rw[Q4 hi,Qw]
   congr 1
   omega}
theorem Z3r {t r:List UInt8}(h:Xr r=true):Zor (t++r) t=true:=by{
 have h2:∀ i,Zem (t++r) t i=true:=fun i=>by
  unfold Zem;split
  ·rename_i hi
   rw[Pu hi];simp
  ·rename_i hi
   rw[Q4 (by omega),Zer h];unfold Xz;rw[List.getElem?_replicate];split <;> simp
 rw[Zrf fun i _=>h2 i];simp}
theorem Ziv (A B:Option P3) (n c m d:Nat) (b t:List UInt8) (hn:Hid (b.length=n)) (hm:Hid (t.length=m)) (l1:n<=c) (m1:c<=9223372036854775807) (_:m<=d) (_:d<=9223372036854775807) (w:Py) (hb:Byt w w.heap.size A b) (ht:Byt w w.heap.size B t) :
  P8 Tryz.prog 140 #[.slice A n c,.slice B m d] w fun e w'=>e=.returned (.bool (Zor b t))/\P9 w.heap.size w w':=by{
 have HB:=Za hb;have HT:=Za ht;clear hb ht;have hdef:=Za (fun(k:Nat) (hk:k<b.length) (h:Zem b t k=false)=>Z3p hk h);have hend:=Za (fun h=>Zrf (b:=b) (t:=t) h)
 go_enter Tryz.func140,Tryz.ntmps140
 go_wp2_with fail
 go_loopw [5] (fun i wr=>∃ k:Nat,k<=n/\i=.int .i64 k/\(∀ j,j<k->Zem b t j=true)/\P9 w.heap.size w wr) (fun i _=>n-(intOf i).toNat)
 case atStart=>exact⟨0,by omega,rfl,fun j hj=>by omega,Qb _ _⟩
 case round =>
  obtain⟨k,hk,rfl,ha,hbw⟩:=hrel;replace ha:=Za ha;replace hbw:=Za hbw;by_cases hlt:k<n
  ·obtain⟨ad,rfl,_,hc⟩:=(HB.out.below hbw.out) (by rw[hn.out];omega)
   replace hc:=hc k (by rw[hn.out];exact hlt);have hbad:=Za (hdef.out k (by rw[hn.out];exact hlt));have hstep:Hid (Zem b t k=true->∀ j,j<k+1->Zem b t j=true):=Za fun h j hj=>by
    rcases Qn j k with h1 | h1
    ·exact ha.out j h1
    ·obtain rfl:j=k:=by omega
     exact h
   have hat:Zem b t k=if k<t.length then b[k]?.getD 0==t[k]?.getD 0 else b[k]?.getD 0==0:=rfl
   rw[hm.out] at hat;have i1:(0:Int)<=(k:Int):=by omega
   have i2:(k:Int)<(n:Int):=by omega
   obtain⟨x,hx⟩:∃ x,b[k]?.getD 0=x:=⟨_,rfl⟩
   rw[hx] at hc hat;replace hx:=Za hx;by_cases hkm:k<m
   ·obtain⟨bd,rfl,_,hc2⟩:=(HT.out.below hbw.out) (by rw[hm.out];omega)
    replace hc2:=hc2 k (by rw[hm.out];exact hkm);obtain⟨y,hy⟩:∃ y,t[k]?.getD 0=y:=⟨_,rfl⟩
    rw[hy] at hc2 hat;replace hy:=Za hy;rw[if_pos hkm] at hat;have i3:(k:Int)<(m:Int):=by omega
    by_cases e:x=y
    ·have hall:=Za (hstep.out (by rw[hat,e];simp))
     clear hat;subst e;have he:((x.toNat:Int) != (x.toNat:Int))=false:=by simp
     go_wp2_with fail
     have i5:decide (m<=k)=false:=by simp;omega
     go_quiet (fail)
     go_wp2_with fail
     go_roundw
     case rel=>exact⟨k+1,by omega,by go_num,hall.out,Z3 hbw.out _⟩
     case measure=>simp[intOf];omega
    ·have he:((x.toNat:Int) != (y.toNat:Int))=true:=by
      have:x.toNat≠y.toNat:=fun h=>e (UInt8.toNat.inj h);simp;omega
     have hr:=Za (hbad.out (by rw[hat];simpa using e));replace e:=Za e;clear hat
     go_wp2_with fail
     go_quiet (fail)
     go_wp2_with fail
     go_ret;exact⟨Zk hr.out.symm,Z3 hbw.out _⟩
   ·rw[if_neg hkm] at hat
    have i3:¬ (k:Int)<(m:Int):=by omega
    have i4:(m:Int)<=(k:Int):=by omega
    by_cases e:x=0
    ·have he:((x.toNat:Int) != 0)=false:=by rw[e];rfl
     have hall:=Za (hstep.out (by rw[hat,e];rfl));replace e:=Za e;clear hat
     go_wp2_with fail
     go_quiet (fail)
     go_wp2_with fail
     go_roundw
     case rel=>exact⟨k+1,by omega,by go_num,hall.out,Z3 hbw.out _⟩
     case measure=>simp[intOf];omega
    ·have he:((x.toNat:Int) != 0)=true:=by
      have:x.toNat≠0:=fun h=>e (UInt8.toNat.inj h);simp;omega
     have hr:=Za (hbad.out (by rw[hat];simpa using e));replace e:=Za e;clear hat
     go_wp2_with fail
     go_quiet (fail)
     go_wp2_with fail
     go_ret;exact⟨Zk hr.out.symm,Z3 hbw.out _⟩
  ·have hr:=Za (hend.out fun j hj=>ha.out j (by have:=hn.out;omega))
   rw[hn.out,hm.out] at hr;by_cases h9:m<=n
   ·have i3:(m:Int)<=(n:Int):=by omega
    have hr2:=Za (show Zor b t=true by rw[hr.out];simpa using h9)
    go_wp2_with fail
    go_ret;exact⟨Zk hr2.out.symm,hbw.out⟩
   ·have i3:¬ (m:Int)<=(n:Int):=by omega
    have hr2:=Za (show Zor b t=false by rw[hr.out];simpa using h9)
    go_wp2_with fail
    go_ret;exact⟨Zk hr2.out.symm,hbw.out⟩}
def Zsc (bd:List UInt8):Nat:=min (Vw bd) 6
def ndR (bd:List UInt8):Nd:=(Zq3 bd,Zi2 (bd.drop 3) (Zsc bd))
def rdR (bd:List UInt8):Bool:=(X9 (bd.drop 3) (Zsc bd)).isSome&&(Xn (ndR bd)&&Zor bd (Xv (ndR bd)))
theorem Z5p {bd:List UInt8}(h124:bd.length=124):rdR bd=rdN bd/\(rdR bd=true->ndR bd=ndN bd):=by{
 by_cases hm:Vw bd<=6
 ·have hc:Zsc bd=Vw bd:=by unfold Zsc;omega
  have hnd:ndR bd=ndN bd:=by unfold ndR ndN;rw[hc]
  refine⟨?_,fun _=>hnd⟩;unfold rdR rdN;rw[hnd,hc];cases hct:X9 (bd.drop 3) (Vw bd) with
  | none=>simp
  | some p =>
   obtain⟨l,r⟩:=p;have hL:Zi2 (bd.drop 3) (Vw bd)=l:=by simp[Zi2,hct]
   have hR:Ztr (bd.drop 3) (Vw bd)=r:=by simp[Ztr,hct]
   obtain⟨c1,c2,_⟩:=Zab hct;rw[hR];have hT:Xv (ndN bd)=[78,bd[1]?.getD 0,bd[2]?.getD 0]++Zae l:=by
    rw[ndN,hL,Zff,c2];have e1:UInt8.ofNat (Zq3 bd).toNat=bd[1]?.getD 0:=by simp[Zq3]
    have e2:UInt8.ofNat (Vw bd)=bd[2]?.getD 0:=by simp[Vw]
    show [78,UInt8.ofNat (Zq3 bd).toNat,UInt8.ofNat (Vw bd)]++Zae l=_;rw[e1,e2]
   have hsplit:bd=[bd[0]?.getD 0,bd[1]?.getD 0,bd[2]?.getD 0]++bd.drop 3:=by
    match bd,h124 with
    | x::y::z::q,_=>simp
   have key:Zor bd (Xv (ndN bd))=(decide (bd[0]?.getD 0=78)&&Xr r):=by
    rw[Bool.eq_iff_iff,Qk,decide_eq_true_iff];constructor
    ·intro h
     obtain⟨r',hr',e⟩:=Z2h h;rw[hT] at e;have h0:bd[0]?.getD 0=78:=by rw[e];rfl
     refine⟨h0,?_⟩;have h1:bd.drop 3=Zae l++r':=by rw[e];rfl
     rw[c1] at h1;have:=List.append_cancel_left h1;rw[this];exact hr'
    ·rintro⟨h0,hr⟩
     have e:bd=Xv (ndN bd)++r:=by
      rw[hT,Qt,<- c1,<- h0];exact hsplit
     have:=Z3r (t:=Xv (ndN bd)) hr
     rwa [<- e] at this
   rw[key];cases decide (bd[0]?.getD 0=78) <;> cases Xr r <;> cases Xn (ndN bd) <;> rfl
 ·have hc:Zsc bd=6:=by unfold Zsc;omega
  have h1:rdR bd=false:=by
   unfold rdR;rw[hc];cases hct:X9 (bd.drop 3) 6 with
   | none=>rfl
   | some p =>
    obtain⟨l,r⟩:=p;have hL:Zi2 (bd.drop 3) 6=l:=by simp[Zi2,hct]
    obtain⟨_,c2,_⟩:=Zab hct
    have:Xn (ndR bd)=false:=Zc3 (fun hh=>by
     have:=hh.2.2.1;rw[ndR,hc,hL] at this;simp only at this
     omega)
    rw[this];rfl
  have h2:rdN bd=false:=by
   unfold rdN;cases hct:X9 (bd.drop 3) (Vw bd) with
   | none=>simp
   | some p =>
    obtain⟨l,r⟩:=p;have hL:Zi2 (bd.drop 3) (Vw bd)=l:=by simp[Zi2,hct]
    obtain⟨_,c2,_⟩:=Zab hct
    have:Xn (ndN bd)=false:=Zc3 (fun hh=>by
     have:=hh.2.2.1;rw[ndN,hL] at this;simp only at this
     omega)
    rw[this];simp
  exact⟨by rw[h1,h2],fun h=>by rw[h1] at h;cases h⟩}
theorem Z28 {b:List UInt8}(h:oe b=0):reN b=(if rdR (ob b) then 0 else 8)/\reV b=(if rdR (ob b) then ndR (ob b) else Zd6):=by
 obtain⟨_,_,_,h124⟩:=Zg2 h;obtain⟨e1,e2⟩:=Z5p h124;cases e:rdR (ob b) with
 | true=>exact⟨(Zdb h (by rw[<- e1,e])).1,by rw[(Zdb h (by rw[<- e1,e])).2,<- e2 e];rfl⟩
 | false=>exact⟨(Zmc h (by rw[<- e1,e])).1,(Zmc h (by rw[<- e1,e])).2⟩
theorem Zoi (v:Pz) (b:List UInt8) (w:Py) (h:rBy (Old w) w [v] b) :
  P8 Tryz.prog 101 #[v] w fun e w'=>∃ u,e=.returned (.tuple #[u,.int .i64 (reN b)])/\Nod (New w.heap.size w') w' u (reV b)/\P9 w.heap.size w w':=by{
 obtain⟨A,c,rfl,l1,m1,hy⟩:=Yq (B:=w.heap.size) (fun p hp=>hp) h;obtain⟨n,hn⟩:∃ n,b.length=n:=⟨_,rfl⟩
 rw[hn] at l1 ⊢;replace hn:=Za hn;obtain⟨w0,hw0,b0,hs0,hB0⟩:=Zy w (.int .i64 0) (.slice none 0 0) 81;have lt0:w.heap.size<w0.heap.size:=by omega
 have HB0:=Za hB0;have HY:=Za ((hy.below hB0).more hB0.size)
 have hzero:Hid (∀ (er:Int) (W:Py),reN b=er/\reV b=Zd6->P9 w0.heap.size w0 W->∃ W9,(W.setCell ⟨w.heap.size,0,none⟩ (.int .i64 0)).setCell ⟨w.heap.size,1,none⟩ (.slice none 0 0)=W9/\W9.cell? ⟨w.heap.size,0,none⟩=some (.int .i64 0)/\W9.cell? ⟨w.heap.size,1,none⟩=some (.slice none 0 0)/\(∀ o,W.frozen? ⟨w.heap.size,o,none⟩=false)/\W.cell? ⟨w.heap.size,0,none⟩=some (.int .i64 0)/\W.cell? ⟨w.heap.size,1,none⟩=some (.slice none 0 0) /\
   (∃ u,Ending.returned (.tuple #[.agg #[.int .i64 0,.slice none 0 0],.int .i64 er])=.returned (.tuple #[u,.int .i64 (reN b)])/\Nod (New w.heap.size W9) W9 u (reV b)/\P9 w.heap.size w W9)):=Za fun er W hre hW=>by
  have bW:=(hW.block w.heap.size lt0).trans b0;obtain⟨W9,e9,g9,gr9,gs9⟩:=Ys (u:=.int .i64 0) (v:=.slice none 0 0) bW;obtain⟨k0,k1,kf,_⟩:=Zg g9;obtain⟨y0,y1,yf,_⟩:=Zg bW;have hBW:=HB0.out.trans (hW.mono HB0.out.size);exact⟨W9,e9,k0,k1,yf,y0,y1,_,by rw[hre.1],by rw[hre.2];exact Zk6 _ _,hBW.grown gr9 hBW.size (fun q e=>by cases e;omega)⟩
 replace b0:=Za b0;replace hw0:=Za hw0;clear hB0 hs0 h hy
 go_enter Tryz.func101,Tryz.ntmps101
 go_upto_region 1 with fail
 rw[hw0.out];clear hw0
 go_wp2_with fail
 with_reducible refine(Zp0 A n c b hn l1 m1 _ HY.out).mono ?_
 rintro e1 w1 ⟨v1,rfl,ho1,hb1⟩;have B1:=Za hb1;have hBW1:=Za (show w.heap.size<=w1.heap.size from Qf (Qp lt0) hb1.size);obtain⟨er,hoe⟩:∃ er,oe b=er:=⟨_,rfl⟩
 rw[hoe];by_cases h0:er=0
 case neg =>
  have t0:(er != 0)=true:=by simpa using h0
  obtain⟨W9,e9,k0,k1,yf,y0,y1,hfin⟩:=hzero.out er w1 (by rw[<- hoe];exact Zk5 (by rw[hoe];exact h0)) B1.out;replace hfin:=Za hfin;replace h0:=Za h0;replace hoe:=Za hoe;clear ho1 hb1
  go_wp2_with fail
  exact P5 (v:=.tuple #[.agg #[.int .i64 0,.slice none 0 0],.int .i64 er]) (by simp[results,Tryz.results101,go_sem,k0,k1]) rfl hfin.out
 subst h0;obtain⟨hlen,hfits,hob,hl124⟩:=Zg2 hoe;have hre:=Z28 hoe;have hr1:=Zal ho1;obtain⟨bd,hbd⟩:∃ bd,ob b=bd:=⟨_,rfl⟩
 rw[hbd] at hr1 hre hl124;have HZ:Hid (∀ W,rdR bd=false->P9 w0.heap.size w0 W->_):=Za (fun W h hW=>hzero.out 8 W (by rw[hre.1,hre.2,h];exact⟨rfl,rfl⟩) hW);have HG:Hid (rdR bd=true->reN b=0/\reV b=ndR bd):=Za (fun h=>by rw[hre.1,hre.2,h];exact⟨rfl,rfl⟩);replace hbd:=Za hbd;obtain⟨Q,cq,rfl,n1,n2,hcell⟩:=Zm hr1;rw[hl124] at n1 hcell hr1 ⊢;obtain⟨ad,rfl,hn0,hc0⟩:=hcell 0 (by omega);obtain⟨_,e,hn1',hc1⟩:=hcell 1 (by omega);cases e;obtain⟨_,e,hn2',hc2⟩:=hcell 2 (by omega);cases e;have z0:w1.cell? ad=some (.int .u8 ((bd[0]?.getD 0).toNat:Int)):=by simpa [Addr.add] using hc0
 have z1:w1.cell? ⟨ad.block,ad.off+1,none⟩=some (.int .u8 ((bd[1]?.getD 0).toNat:Int)):=by simpa [Addr.add] using hc1
 have z2:w1.cell? ⟨ad.block,ad.off+2,none⟩=some (.int .u8 ((bd[2]?.getD 0).toNat:Int)):=by simpa [Addr.add] using hc2
 have ltb:ad.block<w1.heap.size:=Q7 _ _ z0;have hbody:=Za (Zf.drop hr1);have hrest:=Zg5 hbody.out 3 (by omega);have had3:ad.add 3=⟨ad.block,ad.off+3,none⟩:=by simp[Addr.add]
 rw[had3] at hrest;replace hrest:Hid (rBy (Old w1) w1 [.slice (some ⟨ad.block,ad.off+3,none⟩) 121 (cq-3)] (bd.drop 3)):=Za hrest;have hl:=Za hl124;replace hoe:=Za hoe;clear hre hfits hob hlen hc0 hc1 hc2 hn0 hn1' hn2' ho1 hb1 hcell hl124 hzero hr1 z0;have hrd:Hid (rdR bd=((X9 (bd.drop 3) (Zsc bd)).isSome&&(Xn (ndR bd)&&Zor bd (Xv (ndR bd))))):=Za rfl;obtain⟨lv,hlv⟩:∃ lv,Zq3 bd=lv:=⟨_,rfl⟩
 have hlin:=Zph bd;rw[hlv] at hlin;have z1':w1.cell? ⟨ad.block,ad.off+1,none⟩=some (.int .u8 lv):=by rw[<- hlv];exact z1
 have hlw:IntKind.i64.wrap lv=lv:=Qq _ ⟨hlin.1,hlin.2⟩;obtain⟨mn,hmn⟩:∃ m,Vw bd=m:=⟨_,rfl⟩
 have hmlt:=Zr2 bd;rw[hmn] at hmlt;have hcap:=Za (show Zsc bd=min mn 6 by rw[<- hmn];rfl);have z2':w1.cell? ⟨ad.block,ad.off+2,none⟩=some (.int .u8 (mn:Int)):=by rw[<- hmn];exact z2
 have hwm:IntKind.i64.wrap (mn:Int)=(mn:Int):=Qq _ (by omega);replace hmn:=Za hmn;replace hlv:=Za hlv;replace hlin:=Za hlin;obtain⟨w2,hw2,g2,hs2,hB2⟩:=Zy w1 (.int .i64 lv) (.slice none 0 0) 81;obtain⟨e20,e21,e22,lt2⟩:=Zg g2;obtain⟨w3,hw3,g3,gr3,gs3⟩:=Zf3 (u:=.slice none 0 0) g2;have hB3:=Za (hB2.grown gr3 hB2.size (fun q e=>by cases e;omega));have s23:=Za gs3;replace g3:=Za g3;replace hs2:=Za hs2;have c3:¬ cq=3:=by omega
 have c4:(3:Int)<=cq:=by omega
 clear z1 z2 gr3 gs3
 go_upto_region 5 with fail
 clear hw2 hw3 e20 e21 e22 z1'
 go_wp2_with fail
 go_loopw [7,8] (fun q i wr=>∃ (k:Nat) (l:List It) (r:List UInt8) (A1:Option P3) (c1:Nat),k<=min mn 6/\i=.int .i64 k/\l.length=k/\X9 (bd.drop 3) k=some (l,r)/\rBy (Old w1) w1 [q] r/\wr.heap[w1.heap.size]? = some (.cells #[.int .i64 lv,.slice A1 k c1] 81 (0,0))/\Ya rIt 5 54 w3.heap.size wr A1 c1 l/\P9 w1.heap.size w1 wr/\w3.heap.size<=wr.heap.size) (fun _ i _=>7-(intOf i).toNat)
 case atStart=>exact⟨0,[],bd.drop 3,none,0,by omega,rfl,rfl,rfl,hrest.out,g3.out,Ya.nil _ _ _ _ _,hB3.out,Qd _⟩
 case round =>
  obtain⟨k,l,r,A1,c1,hk,rfl,hll,hcut,hq,hz,hrow,hb,hsz⟩:=hrel;obtain⟨r2,r3,r4,r5⟩:=Zg hz;have y2:=(hb.cell (p:=⟨ad.block,ad.off+2,none⟩) ltb).trans z2';replace hrow:=Za hrow;replace hcut:=Za hcut;replace hll:=Za hll;have hz':=Za hz;replace hb:=Za hb;obtain⟨R0,cr,rfl,n3,n4,_⟩:=id (Zm hq);obtain⟨nq,hnq⟩:∃ n,r.length=n:=⟨_,rfl⟩
  rw[hnq] at n3 hq ⊢;replace hnq:=Za hnq;replace hq:=Za hq;have hqr:=Za (Zf.old hq.out hb.out);have BR:=Za (B1.out.trans (hb.out.mono B1.out.size));clear hz;by_cases hlt:k<mn/\k<=5
  case neg =>
   have hcapk:Zsc bd=k:=by rw[hcap.out];omega
   by_cases hlt1:k<mn
   ·have i1:(k:Int)<mn:=by omega
    have i2:¬ (k:Int)<=5:=by omega
    have hL:=Za (show Zi2 (bd.drop 3) (Zsc bd)=l by rw[hcapk];simp[Zi2,hcut.out]);have hsome:=Za (show (X9 (bd.drop 3) (Zsc bd)).isSome=true by rw[hcapk,hcut.out];rfl);have hnd:=Za (show ndR bd=(lv,l) by rw[ndR,hL.out,hlv.out])
    have hN0:Nod (New w3.heap.size wr) wr (.agg #[.int .i64 lv,.slice A1 k c1]) (lv,l):=⟨_,rfl,hlin.out,by
     have h1:=hrow.out.rel Yl
     rwa [hll.out] at h1⟩
    have HN0:=Za hN0;replace hcapk:=Za hcapk;clear hN0
    go_wp2_with fail
    with_reducible refine(Zid _ (lv,l) _ HN0.out.drop).mono ?_
    rintro e5 w5 ⟨rfl,hb5⟩;have B5:=Za (BR.out.trans (hb5.mono BR.out.size));have HN5:=Za (HN0.out.new (Qd _) hb5);have t2:=(hb5.cell (p:=⟨w1.heap.size,0,none⟩) r5).trans r2;have t3:=(hb5.cell (p:=⟨w1.heap.size,1,none⟩) r5).trans r3;have t5:w1.heap.size<w5.heap.size:=Qc r5 hb5.size;have C5:=Za (hb.out.trans (hb5.mono hb.out.size));clear hb5 r2 r3 r4 y2;rcases Ve (Xn (lv,l)) with hm | hm
    ·obtain⟨W9,e9,k0,k1,yf,u0,u1,hfin⟩:=HZ.out w5 (by rw[hrd.out,hnd.out,hm];simp) B5.out
     replace hfin:=Za hfin;rw[hm];replace hm:=Za hm
     go_wp2_with fail
     exact P5 (v:=.tuple #[.agg #[.int .i64 0,.slice none 0 0],.int .i64 8]) (by simp[results,Tryz.results101,go_sem,k0,k1]) rfl hfin.out
    rw[hm];have hm':=Za hm;clear hm
    go_wp2_with fail
    with_reducible refine(Zfr _ (lv,l) _ HN5.out.drop hm'.out).mono ?_
    rintro e6 w6 ⟨u6,rfl,hu6,hb6⟩;obtain⟨U,cu,rfl,g6,g6',hyu⟩:=Yq (B:=w6.heap.size) (fun p hp=>hp.2.1) hu6;obtain⟨tl,htl⟩:∃ q,(Xv (lv,l)).length=q:=⟨_,rfl⟩
    rw[htl] at g6 ⊢;replace htl:=Za htl;have B6:=Za (B5.out.trans (hb6.mono B5.out.size));have C6:=Za (C5.out.trans (hb6.mono C5.out.size));have HN6:=Za (HN5.out.new (Qd _) hb6);have s2:=(hb6.cell (p:=⟨w1.heap.size,0,none⟩) t5).trans t2;have s3:=(hb6.cell (p:=⟨w1.heap.size,1,none⟩) t5).trans t3;have s5:w1.heap.size<w6.heap.size:=Qc t5 hb6.size;have HYU:=Za hyu
    have HYB:Hid (Byt w6 w6.heap.size (some ad) bd):=Za (by
     obtain⟨_,_,e,_,_,h⟩:=Yq (B:=w6.heap.size) (fun p hp=>hp) (Zf.old hbody.out C6.out);rw[hl.out] at e;cases e
     exact h)
    clear hu6 hb6 hyu t2 t3 t5
    go_wp2_with fail
    with_reducible refine(Ziv (some ad) U 124 cq tl cu bd (Xv (lv,l)) hl htl n1 n2 g6 g6' _ HYB.out HYU.out).mono ?_
    rintro e7 w7 ⟨rfl,hb7⟩;have B7:=Za (B6.out.trans (hb7.mono B6.out.size));have HN7:=Za (HN6.out.new (Qd _) hb7);have t2:=(hb7.cell (p:=⟨w1.heap.size,0,none⟩) s5).trans s2;have t3:=(hb7.cell (p:=⟨w1.heap.size,1,none⟩) s5).trans s3;clear hb7 s2 s3;rcases Ve (Zor bd (Xv (lv,l))) with hz | hz
    ·obtain⟨W9,e9,k0,k1,yf,u0,u1,hfin⟩:=HZ.out w7 (by rw[hrd.out,hnd.out,hz];simp) B7.out
     replace hfin:=Za hfin;rw[hz];replace hz:=Za hz
     go_wp2_with fail
     exact P5 (v:=.tuple #[.agg #[.int .i64 0,.slice none 0 0],.int .i64 8]) (by simp[results,Tryz.results101,go_sem,k0,k1]) rfl hfin.out
    ·have hgood:=Za (HG.out (by rw[hrd.out,hnd.out,hz,hm'.out,hsome.out];rfl))
     have bW:=(B7.out.block w.heap.size lt0).trans b0.out;obtain⟨W9,e9,g9,gr9,gs9⟩:=Ys (u:=.int .i64 lv) (v:=.slice A1 k c1) bW;obtain⟨k0,k1,kf,_⟩:=Zg g9;obtain⟨u0,u1,yf,_⟩:=Zg bW;have hBW:=HB0.out.trans (B7.out.mono HB0.out.size);have hlt3:w.heap.size<w3.heap.size:=Qc lt0 (Qf B1.out.size hB3.out.size)
     have hfin:Hid (Nod (New w.heap.size W9) W9 (.agg #[.int .i64 lv,.slice A1 k c1]) (reV b)/\P9 w.heap.size w W9):=Za ⟨by
      rw[hgood.out.2,hnd.out]
      exact(HN7.out.grown gr9 (fun q e=>by cases e;exact hlt3)).map fun p v hp hc=>⟨⟨Qf (Qp hlt3) hp.1,hp.2⟩,hc⟩,hBW.grown gr9 hBW.size (fun q e=>by cases e;omega)⟩
     rw[hz];replace hz:=Za hz;replace bW:=Za bW;replace g9:=Za g9;clear gr9
     go_wp2_with fail
     exact P5 (v:=.tuple #[.agg #[.int .i64 lv,.slice A1 k c1],.int .i64 0]) (by simp[results,Tryz.results101,go_sem,k0,k1]) rfl ⟨_,by rw[hgood.out.1],hfin.out.1,hfin.out.2⟩
   ·have i1:¬ (k:Int)<mn:=by omega
    have hL:=Za (show Zi2 (bd.drop 3) (Zsc bd)=l by rw[hcapk];simp[Zi2,hcut.out]);have hsome:=Za (show (X9 (bd.drop 3) (Zsc bd)).isSome=true by rw[hcapk,hcut.out];rfl);have hnd:=Za (show ndR bd=(lv,l) by rw[ndR,hL.out,hlv.out])
    have hN0:Nod (New w3.heap.size wr) wr (.agg #[.int .i64 lv,.slice A1 k c1]) (lv,l):=⟨_,rfl,hlin.out,by
     have h1:=hrow.out.rel Yl
     rwa [hll.out] at h1⟩
    have HN0:=Za hN0;replace hcapk:=Za hcapk;clear hN0
    go_wp2_with fail
    with_reducible refine(Zid _ (lv,l) _ HN0.out.drop).mono ?_
    rintro e5 w5 ⟨rfl,hb5⟩;have B5:=Za (BR.out.trans (hb5.mono BR.out.size));have HN5:=Za (HN0.out.new (Qd _) hb5);have t2:=(hb5.cell (p:=⟨w1.heap.size,0,none⟩) r5).trans r2;have t3:=(hb5.cell (p:=⟨w1.heap.size,1,none⟩) r5).trans r3;have t5:w1.heap.size<w5.heap.size:=Qc r5 hb5.size;have C5:=Za (hb.out.trans (hb5.mono hb.out.size));clear hb5 r2 r3 r4 y2;rcases Ve (Xn (lv,l)) with hm | hm
    ·obtain⟨W9,e9,k0,k1,yf,u0,u1,hfin⟩:=HZ.out w5 (by rw[hrd.out,hnd.out,hm];simp) B5.out
     replace hfin:=Za hfin;rw[hm];replace hm:=Za hm
     go_wp2_with fail
     exact P5 (v:=.tuple #[.agg #[.int .i64 0,.slice none 0 0],.int .i64 8]) (by simp[results,Tryz.results101,go_sem,k0,k1]) rfl hfin.out
    rw[hm];have hm':=Za hm;clear hm
    go_wp2_with fail
    with_reducible refine(Zfr _ (lv,l) _ HN5.out.drop hm'.out).mono ?_
    rintro e6 w6 ⟨u6,rfl,hu6,hb6⟩;obtain⟨U,cu,rfl,g6,g6',hyu⟩:=Yq (B:=w6.heap.size) (fun p hp=>hp.2.1) hu6;obtain⟨tl,htl⟩:∃ q,(Xv (lv,l)).length=q:=⟨_,rfl⟩
    rw[htl] at g6 ⊢;replace htl:=Za htl;have B6:=Za (B5.out.trans (hb6.mono B5.out.size));have C6:=Za (C5.out.trans (hb6.mono C5.out.size));have HN6:=Za (HN5.out.new (Qd _) hb6);have s2:=(hb6.cell (p:=⟨w1.heap.size,0,none⟩) t5).trans t2;have s3:=(hb6.cell (p:=⟨w1.heap.size,1,none⟩) t5).trans t3;have s5:w1.heap.size<w6.heap.size:=Qc t5 hb6.size;have HYU:=Za hyu
    have HYB:Hid (Byt w6 w6.heap.size (some ad) bd):=Za (by
     obtain⟨_,_,e,_,_,h⟩:=Yq (B:=w6.heap.size) (fun p hp=>hp) (Zf.old hbody.out C6.out);rw[hl.out] at e;cases e
     exact h)
    clear hu6 hb6 hyu t2 t3 t5
    go_wp2_with fail
    with_reducible refine(Ziv (some ad) U 124 cq tl cu bd (Xv (lv,l)) hl htl n1 n2 g6 g6' _ HYB.out HYU.out).mono ?_
    rintro e7 w7 ⟨rfl,hb7⟩;have B7:=Za (B6.out.trans (hb7.mono B6.out.size));have HN7:=Za (HN6.out.new (Qd _) hb7);have t2:=(hb7.cell (p:=⟨w1.heap.size,0,none⟩) s5).trans s2;have t3:=(hb7.cell (p:=⟨w1.heap.size,1,none⟩) s5).trans s3;clear hb7 s2 s3;rcases Ve (Zor bd (Xv (lv,l))) with hz | hz
    ·obtain⟨W9,e9,k0,k1,yf,u0,u1,hfin⟩:=HZ.out w7 (by rw[hrd.out,hnd.out,hz];simp) B7.out
     replace hfin:=Za hfin;rw[hz];replace hz:=Za hz
     go_wp2_with fail
     exact P5 (v:=.tuple #[.agg #[.int .i64 0,.slice none 0 0],.int .i64 8]) (by simp[results,Tryz.results101,go_sem,k0,k1]) rfl hfin.out
    ·have hgood:=Za (HG.out (by rw[hrd.out,hnd.out,hz,hm'.out,hsome.out];rfl))
     have bW:=(B7.out.block w.heap.size lt0).trans b0.out;obtain⟨W9,e9,g9,gr9,gs9⟩:=Ys (u:=.int .i64 lv) (v:=.slice A1 k c1) bW;obtain⟨k0,k1,kf,_⟩:=Zg g9;obtain⟨u0,u1,yf,_⟩:=Zg bW;have hBW:=HB0.out.trans (B7.out.mono HB0.out.size);have hlt3:w.heap.size<w3.heap.size:=Qc lt0 (Qf B1.out.size hB3.out.size)
     have hfin:Hid (Nod (New w.heap.size W9) W9 (.agg #[.int .i64 lv,.slice A1 k c1]) (reV b)/\P9 w.heap.size w W9):=Za ⟨by
      rw[hgood.out.2,hnd.out]
      exact(HN7.out.grown gr9 (fun q e=>by cases e;exact hlt3)).map fun p v hp hc=>⟨⟨Qf (Qp hlt3) hp.1,hp.2⟩,hc⟩,hBW.grown gr9 hBW.size (fun q e=>by cases e;omega)⟩
     rw[hz];replace hz:=Za hz;replace bW:=Za bW;replace g9:=Za g9;clear gr9
     go_wp2_with fail
     exact P5 (v:=.tuple #[.agg #[.int .i64 lv,.slice A1 k c1],.int .i64 0]) (by simp[results,Tryz.results101,go_sem,k0,k1]) rfl ⟨_,by rw[hgood.out.1],hfin.out.1,hfin.out.2⟩
  obtain⟨hlt1,hlt2⟩:=hlt;have i1:(k:Int)<mn:=by omega
  have i2:(k:Int)<=5:=by omega
  go_wp2_with fail
  with_reducible refine(Zoh _ r _ hqr.out).mono ?_
  rintro e3 w4 ⟨u3,rfl,hu3,hb3⟩;obtain⟨D,dc,rfl,hin,_,_,hby⟩:=id hu3.open;obtain⟨w5,hw5,s0,s1,s2,s3,s4,hs4,hb4,b4⟩:=Z6 w4 (.int .u8 ((itR r).1.1.toNat:Int)) (.int .u32 (itR r).1.2.1) (.int .u32 (itR r).1.2.2) (.int .i64 (itR r).2.1) (.slice D (itR r).2.2.length dc) 54;have C4:=Za (hb3.trans (hb4.mono hb3.size));have B4:=Za (hb.out.trans (C4.out.mono hb.out.size));have hI4:=Za (hu3.new (Qd _) hb4);obtain⟨x,hx⟩:∃ x,itR r=x:=⟨_,rfl⟩
  rw[hx] at hin s0 s1 s2 s3 s4 b4 hI4 hw5 ⊢;replace hs4:=Za hs4;replace hx:=Za hx;have x3:=(C4.out.cell (p:=⟨w1.heap.size,1,none⟩) r5).trans r3;clear hb3 hb4 hu3 hby r2 r3 r4;unfold itV at *
  go_upto_region 10 with fail
  clear hw5;rcases Ux (okR r) with hok | hok
  ·have hE:=Za (show itE r=8 by simp[itE,hok])
   have hno:=Za (Zkd (Zlq hcut.out hok) (show k+1<=Zsc bd by rw[hcap.out];omega));obtain⟨W9,e9,k0,k1,yf,u0,u1,hfin⟩:=HZ.out w5 (by rw[hrd.out,hno.out];rfl) (B1.out.trans (B4.out.mono B1.out.size));replace hfin:=Za hfin;rw[hE.out];replace hok:=Za hok
   go_wp2_with fail
   exact P5 (v:=.tuple #[.agg #[.int .i64 0,.slice none 0 0],.int .i64 8]) (by simp[results,Tryz.results101,go_sem,k0,k1]) rfl hfin.out
  have hE:=Za (show itE r=0 by simp[itE,hok]);obtain⟨m,hm1,hm2,hm3,hm4⟩:=Zl4 hok;have hyes:=Zec hcut.out hok;rw[hm1,show ((m:Int)).toNat=m by omega,hx.out] at hyes;have hrl:12<=nq:=by have:=Zbj (Zfo hok).1;have:=hnq.out;omega
  rw[hnq.out] at hm2;rw[hE.out,hm1];replace hyes:=Za hyes;replace hok:=Za hok;clear hm1 hm3 hm4;obtain⟨w6,hw6,_,_,_,_,_,hs5,hb5,b5⟩:=Z6 w5 (.int .u8 (x.1.1.toNat:Int)) (.int .u32 x.1.2.1) (.int .u32 x.1.2.2) (.int .i64 x.2.1) (.slice D x.2.2.length dc) 54;have C5:=C4.out.trans (hb5.mono C4.out.size);have hI5:=hI4.out.new (Qd _) hb5;have hx5:rBy (Xx w3.heap.size A1 w6) w6 [.slice D x.2.2.length dc] x.2.2:=by
   obtain⟨d,e,_,hd⟩:=hI5;have ed:d=.slice D x.2.2.length dc:=by injection e with e;simpa using e.symm
   subst ed;exact Zf _ _ _ _ _ _ (fun p v hp hc=>⟨hrow.out.but (Qd _) hsz hp,hc⟩) hd
  have row5:=Ya.below Yl hrow.out C5;obtain⟨A2,c2,w7,hr2,row7,_,ba7⟩:=Zls row5 w5.heap.size x _ 1 k hll.out b5 (by omega) (Qf hsz C5.size) hin hx5;have s23':=s23.out;have lt12:w1.heap.size<w3.heap.size:=by omega
  have g7:=(ba7.block w1.heap.size lt12).trans ((C5.block w1.heap.size r5).trans hz'.out);obtain⟨w8,hw8,g8,gr8,gs8⟩:=Zf3 (u:=.slice A2 (k+1) c2) g7;have row8:=Za (Ya.grown Yl row7 gr8 (fun q e=>by cases e;omega));have hb7:P9 w1.heap.size w1 w7:=(hb.out.trans (C5.mono hb.out.size)).trans (ba7.mono (Qp lt12));have hb8:=Za (hb7.grown gr8 hb7.size (fun q e=>by cases e;omega));have sz8:=Za (show w3.heap.size<=w8.heap.size by rw[gs8];exact Qf (Qf hsz C5.size) ba7.size);obtain⟨y5,y6,y7,y8⟩:=Zg g7;have H2:=Za hr2;have hll2:=Za (show (l++[x]).length=k+1 by simp[hll.out]);obtain⟨qa,rfl⟩:∃ qa,R0=some qa:=by
   obtain⟨_,_,e,_,_,h4⟩:=Zm hq.out;cases e;obtain⟨qa,e,_⟩:=h4 0 (by have:=hnq.out;omega);exact⟨qa,e⟩
  have hrest2:=Za (Zg5 hq.out m (by rw[hnq.out];exact hm2));have hnil:Hid (m=nq->∀ ok,rBy ok w1 [.slice (some qa) 0 0] (r.drop m)):=Za fun e ok=>by
   rw[Ps (by rw[hnq.out];omega)];exact Vd _ _ _
  replace hs5:=Za hs5;replace b5:=Za b5;replace hI5:=Za hI5;replace g8:=Za g8;replace g7:=Za g7;clear hr2 row7 gr8 ba7 hb7 gs8 hx5 row5 C5 hb5 hin s23';have d1:(0:Int)<=(m:Int):=by omega
  have d2:(m:Int)<=cr:=by omega
  have d3:(m:Int)<=nq:=by omega
  by_cases hmc:m=cr
  ·go_wp2_with (at_builtin;refine Zi rfl _ _ _ rfl rfl rfl H2.out ?_;clear H2)
   go_roundw
   case rel=>exact⟨k+1,l++[x],r.drop m,A2,c2,by omega,by go_num,hll2.out,hyes.out,hnil.out (by omega) _,g8.out,row8.out,hb8.out,sz8.out⟩
   case measure=>simp[intOf];omega
  ·go_wp2_with (at_builtin;refine Zi rfl _ _ _ rfl rfl rfl H2.out ?_;clear H2)
   go_roundw
   case rel=>exact⟨k+1,l++[x],r.drop m,A2,c2,by omega,by go_num,hll2.out,hyes.out,hrest2.out,g8.out,row8.out,hb8.out,sz8.out⟩
   case measure=>simp[intOf];omega}
theorem Zzm {d:Dk}{k:Nat}(hm:Zai d=true) (hk:k<256):(Z4 d k).length=128:=by
 obtain⟨h1,_,h3,h4⟩:=Zdl hm;unfold Z4;have e:d.1[k]? = some (d.1[k]'(by omega)):=Qe _;refine Zge (h3 k _ (by rw[e];rfl)) fun x hx=> ?_
 obtain⟨i,hi⟩:=Qy hx;exact(h4 i x hi).2.2
theorem Zhe (v:Pz) (s:Rm) (k:Nat) (ha:asE s (k:Int)=0) (w:Py) (h:Sto (Old w) w v s) :
  P8 Tryz.prog 59 #[v,.int .i64 k] w fun e w'=>∃ u,e=.returned (.tuple #[u,.bool (reN (Z4 s.1 k)==0)])/\Nod (New w.heap.size w') w' u (reV (Z4 s.1 k))/\P9 w.heap.size w w':=by{
 obtain⟨k',hk',hm,h8,h256,-,-,-,-,hx0⟩:=Xb ha;obtain rfl:k'=k:=by omega
 obtain⟨A,ca,B,cb,N,cn,L,cl,rfl,_,_,_⟩:=h.open;obtain⟨w1,hw1,f1,f2,hsz,hB⟩:∃ w1,(w.alloc (.cells #[.slice A s.1.1.length ca,.slice B s.1.2.length cb,.slice N s.2.1.length cn,.slice L s.2.2.length cl] 29)).alloc (.cells #[.int .i64 0,.slice none 0 0] 81)=w1 /\
   w1.heap[w.heap.size]? = some (.cells #[.slice A s.1.1.length ca,.slice B s.1.2.length cb,.slice N s.2.1.length cn,.slice L s.2.2.length cl] 29 (0,0))/\w1.heap[w.heap.size+1]? = some (.cells #[.int .i64 0,.slice none 0 0] 81 (0,0))/\w1.heap.size=w.heap.size+2/\P9 w.heap.size w w1:=by
  refine⟨_,rfl,Yk (P7 _ _),?_,by simp,((Qb _ w).alloc (Qd _) _).alloc (by simp) _⟩;have:=P7 (w.alloc (.cells #[.slice A s.1.1.length ca,.slice B s.1.2.length cb,.slice N s.2.1.length cn,.slice L s.2.2.length cl] 29)) (.cells #[.int .i64 0,.slice none 0 0] 81)
  rwa [Pc] at this
 have H:=Za (h.below hB);clear h hk';obtain⟨k0,k1,k2,k3,_,kg⟩:=Ze f1;obtain⟨ad,bd,rfl,rfl,hl1,hl2,_,_,had,_,hc⟩:=Vr hm H.out.parts.2.1 H.out.parts.2.2;have q1:=(hc k' h256).1;obtain⟨x,hx⟩:∃ x,s.2.1[k']?.getD 0=x:=⟨_,rfl⟩
 rw[hx] at q1 hx0;have t0:=Yf (y:=0) (q:=0) rfl hx0;have i1:¬ (k':Int)<8:=by omega
 have i2:¬ 256<=(k':Int):=by omega
 have i3:k'<s.2.1.length:=by omega
 have hk1:Hid (k'<s.1.1.length):=Za (by have:=(Zdl (Zw hm).1).1;omega);obtain⟨b,hb⟩:∃ b,Z4 s.1 k'=b:=⟨_,rfl⟩
 rw[hb];obtain⟨q,hq⟩:∃ q,reN b=q:=⟨_,rfl⟩
 obtain⟨V,hV⟩:∃ V,reV b=V:=⟨_,rfl⟩
 rw[hq,hV];replace hsz:=Za hsz;replace f1:=Za f1;replace f2:=Za f2;replace hx:=Za hx;replace hl1:=Za hl1;replace hl2:=Za hl2;replace hb:=Za hb;replace hq:=Za hq;replace hV:=Za hV;clear hc hx0 ha hm
 go_enter Tryz.func59,Tryz.ntmps59
 go_upto_region 1 with fail
 clear hw1
 go_wp2_with fail
 with_reducible refine(Zov _ s.1 k' hk1.out _ H.out.parts.1).mono ?_
 rintro e w2 ⟨u2,rfl,h2,hb2⟩;rw[hb.out] at h2;have U2:=Za (Zf.old h2 hb2);have B2:=Za (hB.trans (hb2.mono hB.size));have F2:=Za ((hb2.block (w.heap.size+1) (by rw[hsz.out];omega)).trans f2.out);have s2:Hid (w.heap.size+2<=w2.heap.size):=Za (by have:=hb2.size;have:=hsz.out;omega);clear h2 hb2 k0 k1 k2 k3 kg q1 H
 go_wp2_with fail
 with_reducible refine(Zoi _ b _ U2.out).mono ?_
 rintro e w3 ⟨u3,rfl,h3,hb3⟩;rw[hq.out];rw[hV.out] at h3;obtain⟨P,pc,rfl,_⟩:=id h3.open;have F3:=(hb3.block (w.heap.size+1) (by have:=s2.out;omega)).trans F2.out;obtain⟨w4,hw4,g4,hs4,hb4⟩:=Zy w3 (.int .i64 V.1) (.slice P V.2.length pc) 81;have F4:=(hb4.block (w.heap.size+1) (by have:=s2.out;have:=hb3.size;omega)).trans F3;have N4:=h3.new (Qd _) hb4;have B4:=B2.out.trans ((hb3.trans (hb4.mono hb3.size)).mono B2.out.size);obtain⟨m0,m1,_,_⟩:=Zg g4;obtain⟨c0,c1,c2,c3⟩:=Zg F4;obtain⟨W9,hW9,g9,gr9,gs9⟩:=Ys (u:=.int .i64 V.1) (v:=.slice P V.2.length pc) F4;obtain⟨n0,n1,_,_⟩:=Zg g9;have r2:=s2.out;have l2:=B2.out.size;have hfin:=Za (show Nod (New w.heap.size W9) W9 (.agg #[.int .i64 V.1,.slice P V.2.length pc]) V from (N4.grown gr9 (fun q e=>by cases e;omega)).new l2 (Qb _ _));have hB9:=Za (B4.grown gr9 B4.size (fun q e=>by cases e;omega));replace F4:=Za F4;replace F3:=Za F3;replace g4:=Za g4;replace g9:=Za g9;replace hs4:=Za hs4;clear gr9 gs9 N4 h3 hb3 hb4 B4 r2 l2
 go_upto_region 4 with fail
 clear hw4
 go_wp2_with fail
 refine P5 (v:=.tuple #[.agg #[.int .i64 V.1,.slice P V.2.length pc],.bool (q==0)]) (by simp[results,Tryz.results59,go_sem,n0,n1]) rfl ?_;exact⟨_,rfl,hfin.out,hB9.out⟩}
theorem Zrv (v:Pz) (n:Nat) (xs:List UInt8) (u:Pz) (ys:List UInt8) (base:Nat) (w:Py) (hv:w.ownsRow base 5 1 v n (u8s xs)) (hy:rBy (Old w) w [u] ys) (hs:n+ys.length<=1000000000) (hb:base<=w.heap.size) :
  ∃ v' w',(Pr #[27,27] 27 #[v,u]).run Tryz.prog w=.ok v' w'/\w'.ownsRow base 5 1 v' (n+ys.length) (u8s (xs++ys))/\P9 base w w':=by
 obtain⟨i0,hi,hz0,hz1,hz2⟩:=info_parts Zda;obtain⟨A,cap,rfl,_,_,hby⟩:=Yq (B:=w.heap.size) (fun p hp=>hp) hy;exact Zf6 (P:=Tryz.prog) (w:=w) base 27 27 5 i0 Tryz.underlying27 hi hz0 hz1 hz2 v n xs hv w.heap.size A ys.length cap ys hby rfl hs hb
theorem Zaj (v:Pz) (t:List UInt8) (k:Nat) (x:UInt8) (q:Int) (hq:(x.toNat:Int)=q) (hk:k<t.length) (hbig:t.length<=1000000) (w:Py) (h:rBy (Old w) w [v] t) :
  P8 Tryz.prog 107 #[v,.int .i64 k,.int .u8 q] w fun e w'=>∃ u,e=.returned u/\rBy (New w.heap.size w') w' [u] (t.set k x)/\P9 w.heap.size w w':=by{
 obtain⟨v',w2,hr2,ho2,hb2⟩:=Zrv (.slice none 0 0) 0 [] v t w.heap.size w (World.ownsRow_nil _ _ _ _) h (by omega) (Qd _);rw[Q5,List.nil_append] at ho2;obtain⟨A,c,rfl,l1,m1,_⟩:=id (Zm h);obtain⟨g,c2,rfl,hg1,hg2,hg3,hg4⟩:=Ze1 ho2 (by omega);have hcell:=Zbr ho2 (j:=k) hk;have hfr:w2.frozen? ⟨g,k,none⟩=false:=by
  have:=Zeq ho2 k
  rwa [show (⟨g,0,none⟩:P3).add k=⟨g,k,none⟩ by simp[Uq]] at this
 have hset:=Zhf ho2 k x;rw[hq] at hset;replace hset:=Za hset;generalize t[k]?.getD 0=y at *;have H2:=Za hr2;have Hb2:=Za hb2;replace hq:=Za hq;clear ho2 hr2 h hb2
 go_enter Tryz.func107,Tryz.ntmps107
 go_wp2_with (at_builtin;refine Zi rfl _ _ _ rfl rfl rfl H2.out ?_;clear H2)
 go_ret;exact⟨_,rfl,Zal hset.out,Hb2.out.setCell hg1 _⟩}
theorem Ze5 (v:Pz) (t:List UInt8) (a:Nat) (hl:t.length=256) (ha:a<256) (w:Py) (h:rBy (Old w) w [v] t) :
  P8 Tryz.prog 143 #[v,.int .i64 a] w fun e w'=>∃ A c,e=.returned (.tuple #[.slice A ((dnO t a).getD []).length c,.bool (dnO t a).isSome])/\rBy (New w.heap.size w') w' [.slice A ((dnO t a).getD []).length c] ((dnO t a).getD [])/\P9 w.heap.size w w':=by{
 have H:=Za h;obtain⟨A,c,rfl,l1,m1,hA⟩:=Zm h;obtain⟨ad,rfl,_,hc⟩:=hA a (by omega);have i3:a<t.length:=by omega
 by_cases hz:t[a]?.getD 0=0
 ·have e0:Hid (dnO t a=none):=Za (by rw[dnO,if_pos hz])
  rw[hz] at hc;replace hc:w.cell? (ad.add a)=some (.int .u8 0):=hc;clear hA hz h hl
  go_enter Tryz.func143,Tryz.ntmps143
  go_wp2_with fail
  go_ret2
  rw[e0.out];exact⟨none,0,rfl,Zaa _ _,Qb _ _⟩
 ·have e1:=Za (Zfx hz)
  have t0:=Yf (y:=0) (q:=0) rfl hz;obtain⟨hu,hu1,hu2⟩:=Zl0 hz;have hW:Hid (∀ q:Int,(t[a]?.getD 0).toNat-1=q->∀ W,rBy (Old W) W [.slice (some ad) t.length c] t->P8 Tryz.prog 107 #[.slice (some ad) t.length c,.int .i64 a,.int .u8 q] W fun e w'=>∃ A c,e=.returned (.slice A (t.set a (t[a]?.getD 0-1)).length c)/\rBy (New W.heap.size w') w' [.slice A (t.set a (t[a]?.getD 0-1)).length c] (t.set a (t[a]?.getD 0-1))/\P9 W.heap.size W w'):=Za fun q hq W hb=>by
   refine(Zaj _ t a (t[a]?.getD 0-1) q (by rw[<- hq];exact hu.symm) i3 (by omega) W hb).mono ?_;rintro e w' ⟨u,rfl,h1,h2⟩;obtain⟨A,c,rfl,_⟩:=id (Zm h1);exact⟨A,c,rfl,h1,h2⟩
  generalize hx:t[a]?.getD 0=x at *;obtain⟨T,hT⟩:∃ T,t.set a (x-1)=T:=⟨_,rfl⟩
  rw[hT] at hW e1;replace hu:=Za hu;replace hx:=Za hx;replace hT:=Za hT;clear hA hz h hl
  go_enter Tryz.func143,Tryz.ntmps143
  go_wp2_with fail
  with_reducible refine(hW.out _ rfl _ H.out).mono ?_
  rintro e w2 ⟨A2,c2,rfl,h2,hb2⟩
  go_wp2_with fail
  go_ret2
  rw[e1.out];exact⟨A2,c2,rfl,h2,hb2⟩}
theorem Xa {w w1:Py}{Fs:List (Py->Prop)}(h:Bag w Fs) (hb:P9 w.heap.size w w1) (a b:Pz):∃ w',w1.alloc (.cells #[a,b] 81)=w'/\Bag w' (Z6v w1.heap.size a b::Fs)/\P9 w.heap.size w w'/\P9 w1.heap.size w1 w'/\w1.heap.size<w'.heap.size:=by
 obtain⟨w2,e2,b2,k4,k5⟩:=Zy w1 a b 81;obtain⟨k1,k2,_,k3⟩:=Zg b2;exact⟨w2,e2,((h.below hb).below k5).add ⟨k1,k2,k3⟩ (Zvl _ _ _),hb.trans (k5.mono hb.size),k5,by omega⟩
def Zuk (v:Pz) (n:Nd):Py->Prop:=fun w=>Nod (Old w) w v n
theorem Vh (v:Pz) (n:Nd):Zd3 (Zuk v n):=fun _ _ h hb=>h.below hb
def Zb8 (v:Pz) (l:List It):Py->Prop:=fun w=>Y6 (Old w) w [v] l
theorem Yz (v:Pz) (l:List It):Zd3 (Zb8 v l):=fun _ _ h hb=>Z5.old h hb
theorem Zrk {l:List It}{k:Ky}:∀ {i:Nat},i<=l.length->(∀ j x,j<i->l[j]? = some x->Zq x.1 k=true)->Zep (l.take i) k=i
 | 0,_,_=>rfl
 | i+1,hi,h=>by
  have hx:l[i]? = some l[i]:=Qe hi;rw[Zq7 hx (h i _ (by omega) hx),Zrk (by omega) (fun j x hj=>h j x (by omega))]
theorem Z36 (l:List It) (k:Ky) (i:Nat):Zep (l.take i) k<=Zep l k:=by
 unfold Zep;exact((List.take_sublist i l).filter _).length_le
theorem Zw0 {l:List It}{k:Ky}{i:Nat}(h:∀ j x,i<=j->l[j]? = some x->Zq x.1 k=false):Zep l k=Zep (l.take i) k:=by{
 have e:Zep l k=Zep (l.take i) k+Zep (l.drop i) k:=by
  unfold Zep;rw[<- Qs,<- Pd,Pb]
 have z:Zep (l.drop i) k=0:=by
  unfold Zep;rw[List.length_eq_zero_iff,List.filter_eq_nil_iff];intro x hx;obtain⟨j,hj⟩:=Pa.1 hx;rw[Qw] at hj;rw[h (i+j) x (by omega) hj];simp
 omega}
theorem Vt {n:Nd}(h:Xn n=true){k:Ky}{i:Nat}{x:It}(hx:n.2[i]? = some x):Zq x.1 k=decide (i<Yi n k):=by{
 have hi:=(Ql.1 hx).1;cases e:Zq x.1 k with
 | true =>
  have h1:Zep (n.2.take (i+1)) k=i+1:=Zrk (by omega) (fun j y hj hy=>by
   rcases Qn j i with h2 | h2
   ·exact Yx (Za6 h h2 hy hx) e
   ·obtain rfl:j=i:=by omega
    rw[hx] at hy;cases hy
    exact e)
  have h2:=Z36 n.2 k (i+1);have h3:Yi n k=Zep n.2 k:=rfl;have:i<Yi n k:=by omega
  simp[this]
 | false =>
  have h1:Zep n.2 k=Zep (n.2.take i) k:=Zw0 (fun j y hj hy=>by
   rcases Qn i j with h2 | h2
   ·cases e2:Zq y.1 k with
    | false=>rfl
    | true =>
     have:=Yx (Za6 h h2 hx hy) e2;rw[e] at this;cases this
   ·obtain rfl:i=j:=by omega
    rw[hx] at hy;cases hy
    exact e)
  have h2:=Zon n.2 k i;have h3:Yi n k=Zep n.2 k:=rfl;have:¬ i<Yi n k:=by omega
  simp[this]}
theorem Zcs (n:Nd) (k:Ky):Yi n k<=n.2.length:=Zyi _ _
theorem Zix {n:Nd}(h:Xn n=true){i:Nat}{x:It}(hx:n.2[i]? = some x):Yi n x.1=i/\Y8 n x.1=true:=by{
 have hi:=(Ql.1 hx).1;have h1:¬ i<Yi n x.1:=fun h2=>by
  have:=Vt h (k:=x.1) hx;rw[Zad] at this;simp[h2] at this
 have h2:Yi n x.1=i:=by
  rcases Pf i with h0 | h0
  ·omega
  ·obtain⟨j,rfl⟩:∃ j,i=j+1:=⟨i-1,by omega⟩
   have hy:n.2[j]? = some n.2[j]:=Qe (by omega);have h3:=Vt h (k:=x.1) hy;rw[Zhp h hy hx] at h3;have:j<Yi n x.1:=by simpa using h3.symm
   omega
 exact⟨h2,by rw[Ziq (by rw[h2];exact hx)];simp⟩}
def Zsf (s:Rm) (lv:Int) (F:List UInt8->Nat->Option (List UInt8)):Prop:=∀ (v tv:Pz) (t:List UInt8) (a:Nat) (w:Py),Sto (Old w) w v s->rBy (Old w) w [tv] t->LeT t s.2.1->8<=a->a<256 ->
  P8 Tryz.prog 109 #[v,tv,.int .i64 a,.int .i64 lv] w fun e w'=>∃ A c,e=.returned (.tuple #[.slice A ((F t a).getD []).length c,.bool (F t a).isSome])/\rBy (New w.heap.size w') w' [.slice A ((F t a).getD []).length c] ((F t a).getD [])/\P9 w.heap.size w w'
theorem Znd {f:List UInt8->Nat->Option (List UInt8)}{t:List UInt8}{l:List It}{k:Nat}(h:Xi f t (l.take k)=none):Xi f t l=none:=by
 rw[<- Pb k l,Zgz,h];rfl
theorem Znp {f:List UInt8->Nat->Option (List UInt8)}{t u:List UInt8}{l:List It}{k:Nat}{x:It}(h:Xi f t (l.take k)=some u) (hx:l[k]? = some x):Xi f t (l.take (k+1))=if x.2.1=0 then some u else f u x.2.1.toNat:=by
 have hk:=(Ql.1 hx).1;have hg:l[k]=x:=(Ql.1 hx).2;rw[<- List.take_append_getElem hk,Zgz,h,hg];show Xi f u [x]=_;simp only[Xi];split
 ·rfl
 ·cases f u x.2.1.toNat <;> rfl
theorem Znr (s:Rm) (hm:Yp s=true) (lv:Int) (F:List UInt8->Nat->Option (List UInt8))
  (hF:∀ t a,F t a=(dnO t a).bind fun t'=>if 1<(t[a]?.getD 0).toNat then some t' else if reN (Z4 s.1 a)=0/\(lv<0\/(reV (Z4 s.1 a)).1=lv) then Xi (lvF s.1 (reV (Z4 s.1 a)).1.toNat) t' (reV (Z4 s.1 a)).2 else none)
  (hrec:∀ j:Nat,(0<=lv->(j:Int)<lv)->Zsf s j (lvF s.1 (j+1))):Zsf s lv F:=by{
 intro v tv t a w h ht hle h8 h256;have hls:=Za (Z0 (Zw hm).2.1);have hlt:t.length=256:=by rw[hle.len,hls.out]
 obtain⟨A,ca,B,cb,N,cn,L,cl,rfl,_⟩:=id h.open;obtain⟨E,ce,rfl,_⟩:=id (Zm ht);obtain⟨w1,hw1,f1,hs1,hB1⟩:=Vm w (.slice A s.1.1.length ca) (.slice B s.1.2.length cb) (.slice N s.2.1.length cn) (.slice L s.2.2.length cl) 29;have hz:Hid (∀ W,P9 w1.heap.size w1 W->∃ ad,E=some ad/\W.cell? (ad.add a)=some (.int .u8 ((t[a]?.getD 0).toNat:Int))):=Za fun W hW=>by
  obtain⟨_,_,e,_,_,hA⟩:=Zm ht;cases e;obtain⟨ad,rfl,h2,h3⟩:=hA a (by omega);have hb:=hB1.trans (hW.mono hB1.size);exact⟨ad,rfl,(hb.cell h2).trans h3⟩
 have G0:=((Bag.nil w).add (F:=Z6x _ _) ht (Zuh _ _)).add (F:=Zbu _ _) h (Yj _ _);obtain⟨k0,k1,k2,k3,_,kg⟩:=Ze f1;have HG:=Za ((G0.below hB1).add (F:=Z4l _ _ _ _ _) ⟨k0,k1,k2,k3,kg⟩ (Zf5 _ _ _ _ _));have BB:=Za hB1;have hFa:=Za (hF t a);have i1:(0:Int)<=(a:Int):=by omega
 have i2:a<t.length:=by omega
 replace hs1:=Za hs1;replace f1:=Za f1;clear h ht G0 hB1 k0 k1 k2 k3 kg;have kt:Hid (rBy (Old w1) w1 [.slice E t.length ce] t):=Za (HG.out.at 2 rfl);obtain⟨x,hxx⟩:∃ x,t[a]?.getD 0=x:=⟨_,rfl⟩
 have hd0:dnO t a=if x=0 then none else some (t.set a (x-1)):=by rw[<- hxx];rfl
 have hxle:x.toNat<=(s.2.1[a]?.getD 0).toNat:=by rw[<- hxx];exact hle.le a
 rw[hxx] at hz hFa;replace hxx:=Za hxx;by_cases hz0:x=0
 ·have e0:dnO t a=none:=by rw[hd0,if_pos hz0]
  have eF:Hid (F t a=none):=Za (by rw[hFa.out,e0];rfl);have hL:=Za (Ze5 _ t a hlt h256 _ kt.out);rw[e0] at hL;replace hlt:=Za hlt;clear hF hFa e0 hz0 hrec
  go_enter Tryz.func109,Tryz.ntmps109
  go_upto_region 1 with fail
  clear hw1
  go_wp2_with fail
  with_reducible refine hL.out.mono ?_
  rintro e w2 ⟨A2,c2,rfl,h2,hb2⟩;replace h2:=Za (Zf.mono h2 BB.out.size);replace BB:=Za (BB.out.trans (hb2.mono BB.out.size));clear hL hb2
  go_wp2_with fail
  go_ret2
  rw[eF.out];exact⟨A2,c2,rfl,h2.out,BB.out⟩
 have e1:dnO t a=some (t.set a (x-1)):=by rw[hd0,if_neg hz0]
 obtain⟨T,hT⟩:∃ T,t.set a (x-1)=T:=⟨_,rfl⟩
 rw[hT] at e1
 have hL:Hid (P8 Tryz.prog 143 #[.slice E t.length ce,.int .i64 a] w1 fun e w'=>∃ A c,e=.returned (.tuple #[.slice A T.length c,.bool true])/\rBy (New w1.heap.size w') w' [.slice A T.length c] T/\P9 w1.heap.size w1 w'):=Za (by
  have:=Ze5 _ t a hlt h256 _ kt.out;rw[e1] at this
  exact this)
 replace hlt:=Za hlt;have hTle:LeT T s.2.1:=(Zbv e1).2.2.1.trans hle;replace hT:=Za hT;by_cases hm1:1<x.toNat
 ·have eF:Hid (F t a=some T):=Za (by
   rw[hFa.out,e1];show (if 1<x.toNat then some T else _)=some T
   rw[if_pos hm1])
  clear hF hFa e1 hrec
  go_enter Tryz.func109,Tryz.ntmps109
  go_upto_region 1 with fail
  clear hw1
  go_wp2_with fail
  with_reducible refine hL.out.mono ?_
  rintro e w2 ⟨A2,c2,rfl,h2,hb2⟩;obtain⟨ad,rfl,hc⟩:=hz.out w2 hb2;replace h2:=Za (Zf.mono h2 BB.out.size);replace BB:=Za (BB.out.trans (hb2.mono BB.out.size));have j1:(1:Int)<(x.toNat:Int):=by omega
  clear hL hb2
  go_wp2_with fail
  go_ret2
  rw[eF.out];exact⟨A2,c2,rfl,h2.out,BB.out⟩
 have has:Hid (asE s a=0):=Za (Zj6 hm h8 h256 (fun e=>hz0 (X7.1 (by
  have:=hxle;rw[e] at this
  exact Nat.le_zero.1 this))))
 have hc1:Hid (x=1):=Za (UInt8.toNat_inj.1 (by
  have:x.toNat≠0:=fun e=>hz0 (X7.1 e);show _=1
  omega))
 replace hFa:Hid (F t a=if reN (Z4 s.1 a)=0/\(lv<0\/(reV (Z4 s.1 a)).1=lv) then Xi (lvF s.1 (reV (Z4 s.1 a)).1.toNat) T (reV (Z4 s.1 a)).2 else none):=Za (by
  rw[hFa.out,e1];show (if 1<x.toNat then some T else _)=_
  rw[if_neg hm1])
 clear hF e1 hm1 hz0;have j1:¬ (1:Int)<(x.toNat:Int):=by rw[hc1.out];decide
 generalize hb:Z4 s.1 a=b at *;obtain⟨V,hV⟩:∃ V,reV b=V:=⟨_,rfl⟩
 obtain⟨lw,hlw⟩:∃ q,V.1=q:=⟨_,rfl⟩
 obtain⟨l,hl⟩:∃ q,V.2=q:=⟨_,rfl⟩
 obtain⟨m,hlm⟩:∃ q,l.length=q:=⟨_,rfl⟩
 have hRd0:∀ v W,Sto (Old W) W v s->P8 Tryz.prog 59 #[v,.int .i64 a] W fun e w'=>∃ Z zc,e=.returned (.tuple #[.agg #[.int .i64 lw,.slice Z m zc],.bool (reN b==0)])/\Y6 (Old w') w' [.slice Z m zc] l/\P9 W.heap.size W w':=fun v W hW=>by
  refine(Zhe v s a has.out W hW).mono ?_;rintro e w' ⟨u,rfl,hu,hb'⟩;rw[hb,hV] at hu;obtain⟨Z,zc,rfl,_,_,_,hA⟩:=hu.drop.open;rw[hlw,hl,hlm];rw[hl,hlm] at hA;rw[hb];exact⟨Z,zc,rfl,hA,hb'⟩
 rw[hV,hlw,hl] at hFa;by_cases hr0:reN b=0
 case neg =>
  have eF:Hid (F t a=none):=Za (by rw[hFa.out,if_neg (fun h=>hr0 h.1)])
  have hRd:Hid (∀ v W,Sto (Old W) W v s->P8 Tryz.prog 59 #[v,.int .i64 a] W fun e w'=>∃ Z zc,e=.returned (.tuple #[.agg #[.int .i64 lw,.slice Z m zc],.bool false])/\Y6 (Old w') w' [.slice Z m zc] l/\P9 W.heap.size W w'):=Za (by
   rw[show (reN b==0)=false by simpa using hr0] at hRd0
   exact hRd0)
  replace hb:=Za hb;replace hV:=Za hV;replace hlw:=Za hlw;replace hl:=Za hl;replace hlm:=Za hlm;clear hrec hRd0 hr0 hFa
  go_enter Tryz.func109,Tryz.ntmps109
  go_upto_region 1 with fail
  clear hw1
  go_wp2_with fail
  with_reducible refine hL.out.mono ?_
  rintro e w2 ⟨A2,c2,rfl,h2,hb2⟩;obtain⟨ad,rfl,hc⟩:=hz.out w2 hb2;replace HG:=Za ((HG.out.below hb2).add (F:=Z4q w.heap.size _ _) (Zf.mono h2 BB.out.size) (Zc5 _ _ _));replace BB:=Za (BB.out.trans (hb2.mono BB.out.size));obtain⟨k0,k1,k2,k3,_⟩:=HG.out.at 1 rfl;have ks:Hid (Sto (Old w2) w2 (.agg #[.slice A s.1.1.length ca,.slice B s.1.2.length cb,.slice N s.2.1.length cn,.slice L s.2.2.length cl]) s):=Za (HG.out.at 2 rfl);clear hL hb2 h2
  go_wp2_with fail
  with_reducible refine(hRd.out _ _ ks.out).mono ?_
  rintro e w3 ⟨Z,zc,rfl,h3,hb3⟩;obtain⟨w4,hw4,G4,_,hb4,_⟩:=Xa (HG.out.below hb3) (Qb _ _) (.int .i64 lw) (.slice Z m zc);replace HG:=Za (G4.add (F:=Zb8 _ _) (Z5.old h3 hb4) (Yz _ _));replace BB:=Za (BB.out.trans ((hb3.trans (hb4.mono hb3.size)).mono BB.out.size));clear k0 k1 k2 k3 ks h3 hb3 hb4 G4 hRd hc hz
  go_upto_region 5 with fail
  clear hw4;obtain⟨y0,y1,_⟩:=HG.out.at 1 rfl
  go_wp2_with fail
  go_ret2
  rw[eF.out];exact⟨none,0,rfl,Zaa _ _,BB.out⟩
 have hmV:Xn V=true:=by rw[<- hV];exact(Zcz hr0).1
 obtain⟨⟨s1,s2,s3,_⟩,_⟩:=Zs hmV;rw[hlw] at s1 s2;rw[hl,hlm] at s3;have hrf:=Za (V4 hmV);rw[hl] at hrf
 have hRd:Hid (∀ v W,Sto (Old W) W v s->P8 Tryz.prog 59 #[v,.int .i64 a] W fun e w'=>∃ Z zc,e=.returned (.tuple #[.agg #[.int .i64 lw,.slice Z m zc],.bool true])/\Y6 (Old w') w' [.slice Z m zc] l/\P9 W.heap.size W w'):=Za (by
  rw[show (reN b==0)=true by simpa using hr0] at hRd0
  exact hRd0)
 by_cases hlv:lv<0\/lw=lv
 case neg =>
  have eF:Hid (F t a=none):=Za (by rw[hFa.out,if_neg (fun h=>hlv h.2)]);have q1:(0:Int)<=lv:=by omega
  have q2:(lw != lv)=true:=by simp;omega
  replace hb:=Za hb;replace hV:=Za hV;replace hlw:=Za hlw;replace hl:=Za hl;replace hlm:=Za hlm;clear hrec hRd0 hr0 hFa hlv
  go_enter Tryz.func109,Tryz.ntmps109
  go_upto_region 1 with fail
  clear hw1
  go_wp2_with fail
  with_reducible refine hL.out.mono ?_
  rintro e w2 ⟨A2,c2,rfl,h2,hb2⟩;obtain⟨ad,rfl,hc⟩:=hz.out w2 hb2;replace HG:=Za ((HG.out.below hb2).add (F:=Z4q w.heap.size _ _) (Zf.mono h2 BB.out.size) (Zc5 _ _ _));replace BB:=Za (BB.out.trans (hb2.mono BB.out.size));obtain⟨k0,k1,k2,k3,_⟩:=HG.out.at 1 rfl;have ks:Hid (Sto (Old w2) w2 (.agg #[.slice A s.1.1.length ca,.slice B s.1.2.length cb,.slice N s.2.1.length cn,.slice L s.2.2.length cl]) s):=Za (HG.out.at 2 rfl);clear hL hb2 h2
  go_wp2_with fail
  with_reducible refine(hRd.out _ _ ks.out).mono ?_
  rintro e w3 ⟨Z,zc,rfl,h3,hb3⟩;obtain⟨w4,hw4,G4,_,hb4,_⟩:=Xa (HG.out.below hb3) (Qb _ _) (.int .i64 lw) (.slice Z m zc);replace HG:=Za (G4.add (F:=Zb8 _ _) (Z5.old h3 hb4) (Yz _ _));replace BB:=Za (BB.out.trans ((hb3.trans (hb4.mono hb3.size)).mono BB.out.size));clear k0 k1 k2 k3 ks h3 hb3 hb4 G4 hRd hc hz
  go_upto_region 5 with fail
  clear hw4;obtain⟨y0,y1,_⟩:=HG.out.at 1 rfl
  go_wp2_with fail
  go_ret2
  rw[eF.out];exact⟨none,0,rfl,Zaa _ _,BB.out⟩
 obtain⟨f,hf⟩:∃ f,lvF s.1 lw.toNat=f:=⟨_,rfl⟩
 have hFl:Hid (F t a=Xi f T l):=Za (by rw[hFa.out,if_pos ⟨hr0,hlv⟩,hf]);have hfle:∀ t a u,f t a=some u->LeT u t:=by rw[<- hf];exact Zq9 _ _
 have hf0:Hid (lw=0->f=dnO):=Za fun e=>by rw[<- hf,e];rfl
 have hf1:Hid (∀ j:Nat,lw=(j:Int)+1->f=lvF s.1 (j+1)):=Za fun j e=>by rw[<- hf,e];rfl
 have hlw0:Hid (0<=lw):=Za s1;have hlw5:Hid (lw<6):=Za s2;have hlow:Hid (0<=lv->lw=lv):=Za fun h0=>by omega
 replace hb:=Za hb;replace hV:=Za hV;replace hlw:=Za hlw;replace hl:=Za hl;replace hlm:=Za hlm;replace hf:=Za hf;clear hRd0 hr0 hFa s1 s2;by_cases hn:lv<0
 ·have q1:¬ (0:Int)<=lv:=by omega
  clear hlv
  go_enter Tryz.func109,Tryz.ntmps109
  go_upto_region 1 with fail
  clear hw1
  go_wp2_with fail
  with_reducible refine hL.out.mono ?_
  rintro e w2 ⟨A2,c2,rfl,h2,hb2⟩;obtain⟨ad,rfl,hc⟩:=hz.out w2 hb2;replace HG:=Za ((HG.out.below hb2).add (F:=Z4q w.heap.size _ _) (Zf.mono h2 BB.out.size) (Zc5 _ _ _));replace BB:=Za (BB.out.trans (hb2.mono BB.out.size));obtain⟨k0,k1,k2,k3,_⟩:=HG.out.at 1 rfl;have ks:Hid (Sto (Old w2) w2 (.agg #[.slice A s.1.1.length ca,.slice B s.1.2.length cb,.slice N s.2.1.length cn,.slice L s.2.2.length cl]) s):=Za (HG.out.at 2 rfl);clear hL hb2 h2
  go_wp2_with fail
  with_reducible refine(hRd.out _ _ ks.out).mono ?_
  rintro e w3 ⟨Z,zc,rfl,h3,hb3⟩;obtain⟨w4,hw4,G4,_,hb4,_⟩:=Xa (HG.out.below hb3) (Qb _ _) (.int .i64 lw) (.slice Z m zc);replace HG:=Za (G4.add (F:=Zb8 _ _) (Z5.old h3 hb4) (Yz _ _));replace BB:=Za (BB.out.trans ((hb3.trans (hb4.mono hb3.size)).mono BB.out.size));clear k0 k1 k2 k3 ks h3 hb3 hb4 G4 hRd hc hz
  go_upto_region 5 with fail
  clear hw4;obtain⟨y0,y1,_⟩:=HG.out.at 1 rfl
  go_wp2_with fail
  clear y0 y1
  go_loopw [10,11,14] (fun vo vb vi wr=>∃ k:Nat,k<=m/\vi=.int .i64 k/\(∃ X xc,vo=.slice X ((Xi f T (l.take k)).getD []).length xc/\rBy (New w.heap.size wr) wr [.slice X ((Xi f T (l.take k)).getD []).length xc] ((Xi f T (l.take k)).getD []))/\vb=.bool (Xi f T (l.take k)).isSome/\P9 w4.heap.size w4 wr) (fun _ _ vi _=>m-(intOf vi).toNat)
  case atStart=>exact⟨0,by omega,rfl,⟨A2,c2,rfl,HG.out.at 2 rfl⟩,rfl,Qb _ _⟩
  case round =>
   obtain⟨k,hk,rfl,⟨X,xc,rfl,hU⟩,rfl,hbr⟩:=hrel;have HR:=Za (HG.out.below hbr);have B5:=Za (BB.out.trans (hbr.mono BB.out.size));obtain⟨y0,y1,_⟩:=HR.out.at 1 rfl;cases hE:Xi f T (l.take k) with
   | none =>
    rw[hE] at hU;have eN:=Za (hFl.out.trans (Znd hE));replace hU:=Za hU;clear hbr hE;by_cases hlt:k<m
    ·go_wp2_with fail
     go_ret2
     rw[eN.out];exact⟨X,xc,rfl,hU.out,B5.out⟩
    ·go_wp2_with fail
     go_ret2
     rw[eN.out];exact⟨X,xc,rfl,hU.out,B5.out⟩
   | some U =>
    rw[hE] at hU;replace hU:rBy (New w.heap.size wr) wr [.slice X U.length xc] U:=hU;have hUle:LeT U s.2.1:=(Zgb hfle _ _ _ hE).trans hTle;have hUl:U.length=256:=hUle.len.trans hls.out;replace hU:=Za hU;by_cases hlt:k<m
    case neg =>
     have eN:Hid (F t a=some U):=Za (by rw[hFl.out,<- hE,Qu (by rw[hlm.out];omega)]);clear hbr hE hUle hUl
     go_wp2_with fail
     go_ret2
     rw[eN.out];exact⟨X,xc,rfl,hU.out,B5.out⟩
    obtain⟨x,hx⟩:∃ x,l[k]? = some x:=⟨_,Qe (by rw[hlm.out];exact hlt)⟩
    have hst:=Za (Znp hE hx);have hxr:=hrf.out x (Qr hx);have hIt:Y6 (Old wr) wr [.slice Z m zc] l:=HR.out.at 0 rfl;obtain⟨ad5,E5,ce5,rfl,_,_,_,FX⟩:=Y4 hIt hx;obtain⟨⟨_,_,_,z3,_⟩,_⟩:=FX wr (Qb _ _);clear FX hIt hE;have i4:(0:Int)<=(k:Int):=by omega
    have i5:(k:Int)<(m:Int):=by omega
    obtain⟨z,hzz⟩:∃ z,x.2.1=z:=⟨_,rfl⟩
    rw[hzz] at z3 hxr hst;replace hx:=Za hx;replace hzz:=Za hzz;by_cases hz0:z=0
    ·subst hz0
     clear hUle hUl
     go_wp2_with fail
     go_roundw
     case rel=>exact⟨k+1,by omega,by go_num,by rw[hst.out,if_pos rfl];exact⟨X,xc,rfl,hU.out⟩,by rw[hst.out,if_pos rfl],hbr⟩
     case measure=>simp[intOf];omega
    ·obtain⟨r,hr,r8,r256⟩:∃ r:Nat,z=r/\8<=r/\r<256:=⟨z.toNat,by omega,by omega,by omega⟩
     have j3:(z==0)=false:=by simpa using hz0
     rw[if_neg hz0,show z.toNat=r by omega] at hst;replace hst:Hid (Xi f T (l.take (k+1))=f U r):=hst;by_cases hl0:lw=0
     ·subst hl0
      replace hst:Hid (Xi f T (l.take (k+1))=dnO U r):=Za (by rw[hst.out,hf0.out rfl]);have hle:=Za (Ze5 (.slice X U.length xc) U r hUl r256 wr (Zf.drop hU.out));rw[<- hr] at hle;generalize dnO U r=Y at *;replace hr:=Za hr;replace hbr:=Za hbr;clear hUle hUl hz0 r8 r256 hxr
      go_wp2_with fail
      with_reducible refine hle.out.mono ?_
      rintro e w6 ⟨A6,c6,rfl,h6,hb6⟩;replace h6:=Za (Zf.mono h6 B5.out.size);replace hb6:=Za (hbr.out.trans (hb6.mono hbr.out.size));clear hle
      go_wp2_with fail
      go_roundw
      case rel=>exact⟨k+1,by omega,by go_num,by rw[hst.out];exact⟨A6,c6,rfl,h6.out⟩,by rw[hst.out],hb6.out⟩
      case measure=>simp[intOf];omega
     ·obtain⟨j,hj⟩:∃ j:Nat,lw=(j:Int)+1:=⟨(lw-1).toNat,by have:=hlw0.out;omega⟩
      have j4:(lw==0)=false:=by simpa using hl0
      have j5:(0:Int)<=lw-1:=by omega
      have j6:lw-1<=9223372036854775807:=by have:=hlw5.out;omega
      replace hst:Hid (Xi f T (l.take (k+1))=lvF s.1 (j+1) U r):=Za (by rw[hst.out,hf1.out j hj]);have hcl:=Za (hrec j (fun h0=>by have:=hlow.out h0;omega) (.agg #[.slice A s.1.1.length ca,.slice B s.1.2.length cb,.slice N s.2.1.length cn,.slice L s.2.2.length cl]) (.slice X U.length xc) U r wr (HR.out.at 4 rfl) (Zf.drop hU.out) hUle r8 r256);rw[<- hr,show (j:Int)=lw-1 by omega] at hcl;generalize lvF s.1 (j+1) U r=Y at *;obtain⟨k0,k1,k2,k3,_⟩:=HR.out.at 3 rfl;replace hr:=Za hr;replace hj:=Za hj;replace hbr:=Za hbr;clear hUle hUl hz0 r8 r256 hxr hl0
      go_wp2_with fail
      with_reducible refine hcl.out.mono ?_
      rintro e w6 ⟨A6,c6,rfl,h6,hb6⟩;replace h6:=Za (Zf.mono h6 B5.out.size);replace hb6:=Za (hbr.out.trans (hb6.mono hbr.out.size));clear hcl
      go_wp2_with fail
      go_roundw
      case rel=>exact⟨k+1,by omega,by go_num,by rw[hst.out];exact⟨A6,c6,rfl,h6.out⟩,by rw[hst.out],hb6.out⟩
      case measure=>simp[intOf];omega
 ·have q1:(0:Int)<=lv:=by omega
  have q2:(lw != lv)=false:=by
   rcases hlv with h | h
   ·exact absurd h hn
   ·simp[h]
  clear hlv
  go_enter Tryz.func109,Tryz.ntmps109
  go_upto_region 1 with fail
  clear hw1
  go_wp2_with fail
  with_reducible refine hL.out.mono ?_
  rintro e w2 ⟨A2,c2,rfl,h2,hb2⟩;obtain⟨ad,rfl,hc⟩:=hz.out w2 hb2;replace HG:=Za ((HG.out.below hb2).add (F:=Z4q w.heap.size _ _) (Zf.mono h2 BB.out.size) (Zc5 _ _ _));replace BB:=Za (BB.out.trans (hb2.mono BB.out.size));obtain⟨k0,k1,k2,k3,_⟩:=HG.out.at 1 rfl;have ks:Hid (Sto (Old w2) w2 (.agg #[.slice A s.1.1.length ca,.slice B s.1.2.length cb,.slice N s.2.1.length cn,.slice L s.2.2.length cl]) s):=Za (HG.out.at 2 rfl);clear hL hb2 h2
  go_wp2_with fail
  with_reducible refine(hRd.out _ _ ks.out).mono ?_
  rintro e w3 ⟨Z,zc,rfl,h3,hb3⟩;obtain⟨w4,hw4,G4,_,hb4,_⟩:=Xa (HG.out.below hb3) (Qb _ _) (.int .i64 lw) (.slice Z m zc);replace HG:=Za (G4.add (F:=Zb8 _ _) (Z5.old h3 hb4) (Yz _ _));replace BB:=Za (BB.out.trans ((hb3.trans (hb4.mono hb3.size)).mono BB.out.size));clear k0 k1 k2 k3 ks h3 hb3 hb4 G4 hRd hc hz
  go_upto_region 5 with fail
  clear hw4;obtain⟨y0,y1,_⟩:=HG.out.at 1 rfl
  go_wp2_with fail
  clear y0 y1
  go_loopw [10,11,14] (fun vo vb vi wr=>∃ k:Nat,k<=m/\vi=.int .i64 k/\(∃ X xc,vo=.slice X ((Xi f T (l.take k)).getD []).length xc/\rBy (New w.heap.size wr) wr [.slice X ((Xi f T (l.take k)).getD []).length xc] ((Xi f T (l.take k)).getD []))/\vb=.bool (Xi f T (l.take k)).isSome/\P9 w4.heap.size w4 wr) (fun _ _ vi _=>m-(intOf vi).toNat)
  case atStart=>exact⟨0,by omega,rfl,⟨A2,c2,rfl,HG.out.at 2 rfl⟩,rfl,Qb _ _⟩
  case round =>
   obtain⟨k,hk,rfl,⟨X,xc,rfl,hU⟩,rfl,hbr⟩:=hrel;have HR:=Za (HG.out.below hbr);have B5:=Za (BB.out.trans (hbr.mono BB.out.size));obtain⟨y0,y1,_⟩:=HR.out.at 1 rfl;cases hE:Xi f T (l.take k) with
   | none =>
    rw[hE] at hU;have eN:=Za (hFl.out.trans (Znd hE));replace hU:=Za hU;clear hbr hE;by_cases hlt:k<m
    ·go_wp2_with fail
     go_ret2
     rw[eN.out];exact⟨X,xc,rfl,hU.out,B5.out⟩
    ·go_wp2_with fail
     go_ret2
     rw[eN.out];exact⟨X,xc,rfl,hU.out,B5.out⟩
   | some U =>
    rw[hE] at hU;replace hU:rBy (New w.heap.size wr) wr [.slice X U.length xc] U:=hU;have hUle:LeT U s.2.1:=(Zgb hfle _ _ _ hE).trans hTle;have hUl:U.length=256:=hUle.len.trans hls.out;replace hU:=Za hU;by_cases hlt:k<m
    case neg =>
     have eN:Hid (F t a=some U):=Za (by rw[hFl.out,<- hE,Qu (by rw[hlm.out];omega)]);clear hbr hE hUle hUl
     go_wp2_with fail
     go_ret2
     rw[eN.out];exact⟨X,xc,rfl,hU.out,B5.out⟩
    obtain⟨x,hx⟩:∃ x,l[k]? = some x:=⟨_,Qe (by rw[hlm.out];exact hlt)⟩
    have hst:=Za (Znp hE hx);have hxr:=hrf.out x (Qr hx);have hIt:Y6 (Old wr) wr [.slice Z m zc] l:=HR.out.at 0 rfl;obtain⟨ad5,E5,ce5,rfl,_,_,_,FX⟩:=Y4 hIt hx;obtain⟨⟨_,_,_,z3,_⟩,_⟩:=FX wr (Qb _ _);clear FX hIt hE;have i4:(0:Int)<=(k:Int):=by omega
    have i5:(k:Int)<(m:Int):=by omega
    obtain⟨z,hzz⟩:∃ z,x.2.1=z:=⟨_,rfl⟩
    rw[hzz] at z3 hxr hst;replace hx:=Za hx;replace hzz:=Za hzz;by_cases hz0:z=0
    ·subst hz0
     clear hUle hUl
     go_wp2_with fail
     go_roundw
     case rel=>exact⟨k+1,by omega,by go_num,by rw[hst.out,if_pos rfl];exact⟨X,xc,rfl,hU.out⟩,by rw[hst.out,if_pos rfl],hbr⟩
     case measure=>simp[intOf];omega
    ·obtain⟨r,hr,r8,r256⟩:∃ r:Nat,z=r/\8<=r/\r<256:=⟨z.toNat,by omega,by omega,by omega⟩
     have j3:(z==0)=false:=by simpa using hz0
     rw[if_neg hz0,show z.toNat=r by omega] at hst;replace hst:Hid (Xi f T (l.take (k+1))=f U r):=hst;by_cases hl0:lw=0
     ·subst hl0
      replace hst:Hid (Xi f T (l.take (k+1))=dnO U r):=Za (by rw[hst.out,hf0.out rfl]);have hle:=Za (Ze5 (.slice X U.length xc) U r hUl r256 wr (Zf.drop hU.out));rw[<- hr] at hle;generalize dnO U r=Y at *;replace hr:=Za hr;replace hbr:=Za hbr;clear hUle hUl hz0 r8 r256 hxr
      go_wp2_with fail
      with_reducible refine hle.out.mono ?_
      rintro e w6 ⟨A6,c6,rfl,h6,hb6⟩;replace h6:=Za (Zf.mono h6 B5.out.size);replace hb6:=Za (hbr.out.trans (hb6.mono hbr.out.size));clear hle
      go_wp2_with fail
      go_roundw
      case rel=>exact⟨k+1,by omega,by go_num,by rw[hst.out];exact⟨A6,c6,rfl,h6.out⟩,by rw[hst.out],hb6.out⟩
      case measure=>simp[intOf];omega
     ·obtain⟨j,hj⟩:∃ j:Nat,lw=(j:Int)+1:=⟨(lw-1).toNat,by have:=hlw0.out;omega⟩
      have j4:(lw==0)=false:=by simpa using hl0
      have j5:(0:Int)<=lw-1:=by omega
      have j6:lw-1<=9223372036854775807:=by have:=hlw5.out;omega
      replace hst:Hid (Xi f T (l.take (k+1))=lvF s.1 (j+1) U r):=Za (by rw[hst.out,hf1.out j hj]);have hcl:=Za (hrec j (fun h0=>by have:=hlow.out h0;omega) (.agg #[.slice A s.1.1.length ca,.slice B s.1.2.length cb,.slice N s.2.1.length cn,.slice L s.2.2.length cl]) (.slice X U.length xc) U r wr (HR.out.at 4 rfl) (Zf.drop hU.out) hUle r8 r256);rw[<- hr,show (j:Int)=lw-1 by omega] at hcl;generalize lvF s.1 (j+1) U r=Y at *;obtain⟨k0,k1,k2,k3,_⟩:=HR.out.at 3 rfl;replace hr:=Za hr;replace hj:=Za hj;replace hbr:=Za hbr;clear hUle hUl hz0 r8 r256 hxr hl0
      go_wp2_with fail
      with_reducible refine hcl.out.mono ?_
      rintro e w6 ⟨A6,c6,rfl,h6,hb6⟩;replace h6:=Za (Zf.mono h6 B5.out.size);replace hb6:=Za (hbr.out.trans (hb6.mono hbr.out.size));clear hcl
      go_wp2_with fail
      go_roundw
      case rel=>exact⟨k+1,by omega,by go_num,by rw[hst.out];exact⟨A6,c6,rfl,h6.out⟩,by rw[hst.out],hb6.out⟩
      case measure=>simp[intOf];omega}
theorem Zsv (s:Rm) (hm:Yp s=true):∀ l:Nat,Zsf s l (lvF s.1 (l+1)):=by{
 intro l
 induction l using Nat.strongRecOn with
 | ind l ih =>
  refine Znr s hm l (lvF s.1 (l+1)) (fun t a=> ?_) (fun j hj=>ih j (by have:=hj (by omega);omega));show lvS s.1 l (lvF s.1 l) t a=_;unfold lvS;cases dnO t a with
  | none=>rfl
  | some t' =>
   show (if 1<(t[a]?.getD 0).toNat then some t' else _)=(if 1<(t[a]?.getD 0).toNat then some t' else _);by_cases h1:1<(t[a]?.getD 0).toNat
   ·rw[if_pos h1,if_pos h1]
   ·rw[if_neg h1,if_neg h1]
    by_cases h2:reN (Z4 s.1 a)=0/\(reV (Z4 s.1 a)).1=(l:Int)
    ·rw[if_pos h2,if_pos ⟨h2.1,.inr h2.2⟩,h2.2]
     rfl
    ·rw[if_neg h2,if_neg (fun h=>h2 ⟨h.1,h.2.resolve_left (by omega)⟩)]}
theorem Zz5 (s:Rm) (hm:Yp s=true):Zsf s (-1) (lfO s.1):=by{
 refine Znr s hm (-1) (lfO s.1) (fun t a=> ?_) (fun j _=>Zsv s hm j);unfold lfO;cases dnO t a with
 | none=>rfl
 | some t' =>
  show (if 1<(t[a]?.getD 0).toNat then some t' else _)=(if 1<(t[a]?.getD 0).toNat then some t' else _);by_cases h1:1<(t[a]?.getD 0).toNat
  ·rw[if_pos h1,if_pos h1]
  ·rw[if_neg h1,if_neg h1]
   by_cases h2:reN (Z4 s.1 a)=0
   ·rw[if_pos h2,if_pos ⟨h2,.inl (by decide)⟩]
   ·rw[if_neg h2,if_neg (fun h=>h2 h.1)]}
end Go.Proofs.YtgmbjnajdfgenaaGreat
namespace Go.Proofs.YtgmbjnajdfgenaaGreat
open Go.RowKit Go.Shelf
attribute [local go_sem] Oper.semAt_some
theorem Zca {W:Py}{g:Nat}{a u:Pz}{t:P4}(h:W.heap[g]? = some (.cells #[a] t (0,0))):∃ W1,W.setCell ⟨g,0,none⟩ u=W1/\W1.heap[g]? = some (.cells #[u] t (0,0))/\W.grownBy W1 (some g)/\W1.heap.size=W.heap.size :=
 ⟨_,rfl,by simp[World.setCell,Array.getElem?_modify,h],Z7 (p:=⟨g,0,none⟩) (Yh W (some g)) rfl u,by simp⟩
theorem Ye {W:Py}{g:Nat}{a:Pz}{t:P4}(h:W.heap[g]? = some (.cells #[a] t (0,0))):W.cell? ⟨g,0,none⟩=some a/\W.frozen? ⟨g,0,none⟩=false/\g<W.heap.size :=
 ⟨by simp[Pv,h],by simp[World.frozen?,h],(Pw.1 h).1⟩
theorem Z8 {W W':Py}{row:Option Nat}{g:Nat}{cs:Array Pz}{t:P4}(h:W.heap[g]? = some (.cells cs t (0,0))) (hg:W.grownBy W' row) (hrow:∀ r,row=some r->∃ o:Obj,W.heap[r]? = some o/\o.isCells=false):W'.heap[g]? = some (.cells cs t (0,0)) :=
 (grownBy_keeps_cells hg hrow h rfl).trans h
def NZ (ok:P3->Prop) (w:Py):P3->Prop:=fun p=>ok p/\w.cell? p≠some (.slice none 0 0)
theorem Zz6 {ok:P3->Prop}{w:Py}{cs:List Pz}{x:List UInt8}(h:rBy ok w cs x):rBy (NZ ok w) w cs x:=by
 obtain⟨A,cap,h1,h2,h3,h4⟩:=h;refine⟨A,cap,h1,h2,h3,fun i y hi=> ?_⟩;obtain⟨ad,vs,e1,e2,e3,e4⟩:=h4 i y hi;refine⟨ad,vs,e1,e2,fun j u hj=>⟨⟨(e3 j u hj).1,?_⟩,(e3 j u hj).2⟩,e4⟩;unfold rU8 at e4;subst e4;have:=Qr hj;simp only[Px] at this;rw[(e3 j u hj).2,this];simp
theorem Zq6 {ok:P3->Prop}{w:Py}{u:Pz}{x:List UInt8}(h:rBy ok w [u] x) (hx:x≠[]):u≠.slice none 0 0:=by
 obtain⟨A,c,rfl,_⟩:=Zm h;intro e;simp only[Value.slice.injEq] at e;exact hx (Pi e.2.1)
theorem Z3g {ok:P3->Prop}{w:Py}{cs:List Pz}{xss:List (List UInt8)}(h:rSl 1 rBy ok w cs xss) (hn:∀ x∈xss,x≠[]):rSl 1 rBy (NZ ok w) w cs xss:=by{
 obtain⟨A,cap,h1,h2,h3,h4⟩:=h;refine⟨A,cap,h1,h2,h3,fun i y hi=> ?_⟩;obtain⟨ad,vs,e1,e2,e3,e4⟩:=h4 i y hi;refine⟨ad,vs,e1,e2,fun j u hj=>⟨⟨(e3 j u hj).1,?_⟩,(e3 j u hj).2⟩,Zz6 e4⟩
 match vs,e2 with
 | [v],_ =>
  have:=Qr hj;simp only[Px] at this;rw[(e3 j u hj).2,this];exact fun e=>Zq6 e4 (hn y (Qr hi)) (by simpa using e)}
theorem Z4v {ok:P3->Prop}{w:Py}{cs:List Pz}{ws:List Wt}(h:rSl 2 rWt ok w cs ws) (hn:∀ x∈ws,x.2≠[]):rSl 2 rWt (NZ ok w) w cs ws:=by
 obtain⟨A,cap,h1,h2,h3,h4⟩:=h;refine⟨A,cap,h1,h2,h3,fun i y hi=> ?_⟩;obtain⟨ad,vs,e1,e2,e3,e4⟩:=h4 i y hi;obtain⟨v,rfl,b1,b2,hv⟩:=Zc9 e4;refine⟨ad,_,e1,e2,fun j u hj=>⟨⟨(e3 j u hj).1,?_⟩,(e3 j u hj).2⟩,Zio b1 b2 (Zz6 hv)⟩;have:=Qr hj;simp only[Q9,List.not_mem_nil,or_false] at this;rw[(e3 j u hj).2];rcases this with rfl | rfl
 ·simp
 ·exact fun e=>Zq6 hv (hn y (Qr hi)) (by simpa using e)
theorem Z46 {ok:P3->Prop}{w:Py}{v:Pz}{d:Dk}(h:Dsk ok w v d) (h1:∀ x∈d.1,x≠[]) (h2:∀ x∈d.2,x.2≠[]):Dsk (NZ ok w) w v d:=by
 obtain⟨a,b,e,r1,r2⟩:=h;exact⟨a,b,e,Z3g r1 h1,Z4v r2 h2⟩
theorem Zzq {d:Dk}(h:Zai d=true):(∀ x∈d.1,x≠[])/\(∀ x∈d.2,x.2≠[]):=by{
 obtain⟨_,_,h1,h2⟩:=Zdl h;refine⟨fun x hx e=> ?_,fun x hx e=> ?_⟩
 ·obtain⟨i,hi⟩:=Qy hx
  have:=h1 i x hi;rw[e] at this;cases this
 ·obtain⟨i,hi⟩:=Qy hx
  have:=(h2 i x hi).2.2;rw[e] at this;cases this}
theorem Zra {W:Py}{g:Nat}{cs:Array Pz}{t:P4}{p:P3}{u:Pz}(hz:W.heap[g]? = some (.cells cs t (0,0))) (hcs:∀ c∈cs,c=.slice none 0 0) (hc:W.cell? p=some u) (hn:W.cell? p≠some (.slice none 0 0)):p.block≠g:=fun e=>by
 refine hn ?_;rw[hc];unfold Pv at hc;rw[e,hz] at hc
 dsimp only at hc
 split at hc
 ·cases hc
 ·obtain⟨hlt,hu⟩:=Pw.1 hc
  rw[<- hu];exact congrArg some (hcs _ (Array.getElem_mem hlt))
theorem Z1z {ok:P3->Prop}{w:Py}{v:Pz}{s:Rm}(h:Sto ok w v s) (hd:(∀ x∈s.1.1,x≠[])/\(∀ x∈s.1.2,x.2≠[])):Sto (NZ ok w) w v s:=by
 obtain⟨a,b,n,l,e,h1,h2,h3⟩:=h;exact⟨a,b,n,l,e,Z46 h1 hd.1 hd.2,Zz6 h2,Zz6 h3⟩
def U1 (s:Rm):Prop:=(∀ x∈s.1.1,x≠[])/\(∀ x∈s.1.2,x.2≠[])
theorem Va {s:Rm}(h:Yp s=true):U1 s:=Zzq (Zw h).1
theorem Vg:U1 Zn:=⟨fun x hx=>absurd hx (by simp[Zn,Zas]),fun x hx=>absurd hx (by simp[Zn,Zas])⟩
theorem Zo2 (s:Rm) (b:List UInt8):U1 (tkV s b):=by
 by_cases h:tkE s b=0
 ·exact Va (Z1v h)
 ·rw[(Zm9 h).2];exact Vg
theorem Z9 {W W9:Py}{g:Nat}{cs:Array Pz}{t:P4}{v:Pz}{s:Rm}(h:Sto (Old W) W v s) (hd:U1 s) (hz:W.heap[g]? = some (.cells cs t (0,0))) (hcs:∀ c∈cs,c=.slice none 0 0) (hg:W.grownBy W9 (some g)):Sto (Old W9) W9 v s :=
 (Z1z h hd).map fun p u hp hc=>by
  have hn:=Zra hz hcs hc hp.2;exact⟨Qc hp.1 hg.size,(Q3 (hg.block _ hp.1 (by simpa using hn))).trans hc⟩
end Go.Proofs.YtgmbjnajdfgenaaGreat
