/-
  Lemmas on the program and on the document's answers, gathered: RmNode, NdPlace, NdBack, FnPlain, Spoil05, NdBag, RmSame, CntWrite, RmAlive, DrPlain, FnLeaf, FnHeld, FnKeep, FnSpan, FnPlace, FnChain, RmRefN, FnInner, FnTree, FnOne, FnEnds, FnStands, WkPlain, WkMarks, FrPlain, WkTold, FrBase, FrRead, FrHang, FoVol, FrVol, FrVol2, NdTwin, NdTwin2, WkApp, PuCopy, FmPlain, FrItems, FrLook, FrVols. Conditions: those that each lemma states.
-/
import Derived.Test.YtmafkphcfkhokaaGreatBnd2
import Derived.Laws.StructEq
import Derived.WalkLawsBesides
import Derived.Sort.QuietIn
import Derived.Sort.CutIn
import Derived.RangeFuncNested
import Derived.Maps.OwnSet
import Derived.Laws.CopyOwn
import Derived.Deep.RegionLaw
import Derived.Lib.Overlaps
import Derived.Lib.AppendZerosOnto
set_option maxRecDepth 100000
set_option maxHeartbeats 16000000
open Array renaming getElem?_eq_some_iff → Qa, getElem?_modify → Qas
open Bool renaming and_eq_true → Qi, or_eq_true → Qat
open Go renaming World → Qbe, Value → Qbf, Addr → Qbg, TypeId → Qbh, bodyPost_ret → Qbi, heap_alloc_new → Qbj, Calls → Qbk, Ending → Qbl
open Go.Act renaming put → Qd
open Go.Builtin renaming append_ → Pn, firstCells → Qaf, lenOf → Qag, copy_ → Qa6, clear_ → Qa7
open Go.IntWalk renaming i64_in → Qz
open Go.RowKit renaming Below → Qbm
open Go.RowKit.Below renaming refl → Qb
open Go.World renaming cell? → Qx, frozen? → Pa, putObj_heap_other → Pg, cell?_of_block → Qab, putObj_size → Qac, size_alloc → Qaj, setCell → Qar, putObj_heap_same → Qa1, alloc_heap_new → Qa2
open List renaming getElem?_eq_getElem → Qf, getElem?_eq_some_iff → Qg, take_of_length_le → Qh, mem_append → Qj, mem_singleton → Ql, mem_cons → Qm, length_append → Qn, length_take → Qo, length_map → Qp, append_assoc → Qq, flatMap_cons → Qr, mem_cons_of_mem → Qs, take_append_getElem → Qt, length_set → Qu, all_eq_true → Qv, mem_cons_self → Qy, drop_zero → Q0, pairwise_cons → Q3, length_cons → Q5, getElem?_drop → Q6, take_zero → Q7, take_append_drop → Q9, cons_append → Pd, mem_of_getElem? → Pe, nil_append → Pf, length_drop → Pi, take_succ_cons → Pj, drop_succ_cons → Pk, length_take_le → Po, take_add_one → Pp, filter_append → Pq, getElem?_eq_none → Pr, mem_of_mem_take → Pt, getElem?_of_mem → Pv, mem_of_getLast? → Px, mem_flatMap → Py, nodup_cons → P5, foldl_cons → P7, length_singleton → P8, getElem?_append_right → Qae, take_append_of_le_length → Qah, length_nil → Qai, pairwise_append → Qak, find?_append → Qal, find?_cons → Qam, mem_reverse → Qan, filter_eq_nil_iff → Qap, mem_iff_getElem? → Qaq, getLast?_eq_some_getLast → Qau, reverse_append → Qav, eq_nil_of_length_eq_zero → Qaw, nodup_append → Qax, mem_append_left → Qay, mem_append_right → Qa0, getElem_cons_drop → Qa3, mem_map → Qa4, getElem?_map → Qa5, take_take → Qa8, drop_append → Qa9, drop_of_length_le → Qba, take_append → Qbb, take_nil → Qbc, drop_nil → Qbd
open Nat renaming le_trans → Qc, le_refl → Qe, lt_of_lt_of_le → Qk, pow_le_pow_right → Qw, pow_succ → Q8, add_zero → Ph, min_eq_left → Pm, mul_le_mul_left → Ps, lt_or_ge → Pu, zero_add → Pw, strongRecOn → Pz, mul_le_mul_right → Qaa, zero_mul → Qad, mul_le_mul → Qao, one_le_pow → Qaz
noncomputable section
namespace Go.Proofs.YtmafkphcfkhokaaGreat
open Go.RowKit
def rmE (s:Rm) (n:Int):Int:=if asE s n=0 then reN (Ya s.1 n.toNat) else asE s n
def rmV (s:Rm) (n:Int):Nd:=if asE s n=0 then reV (Ya s.1 n.toNat) else Xn
theorem Zvm {s:Rm}{n:Int}(h:asE s n≠0):rmE s n=asE s n/\rmV s n=Xn:=⟨by rw[rmE,if_neg h],by rw[rmV,if_neg h]⟩
theorem Vh {s:Rm}{n:Int}(h:asE s n=0):∃ k:Nat,n=k/\Xz s=true/\8<=k/\k<256/\Vp s.1 n=0/\rdX s.1 n=Ya s.1 k/\rmE s n=reN (Ya s.1 k)/\rmV s n=reV (Ya s.1 k)/\s.2.1[k]?.getD 0≠0:=by{
 rcases Zn4 s n with ⟨_,e⟩ | ⟨_,_,e⟩ | ⟨k,_,_,_,_,_,e⟩ | ⟨k,hm,rfl,h8,h256,hx,e⟩
 ·rw[e] at h;cases h
 ·rw[e] at h;cases h
 ·rw[e] at h;cases h
 ·have hmd:=(Yq hm).1
  have ht:=Zdo h256;exact⟨k,rfl,hm,h8,h256,by simp[Vp,hmd,ht],by simp[rdX,Vp,hmd,ht],by rw[rmE,if_pos h];rfl,by rw[rmV,if_pos h];rfl,hx⟩}
theorem Zmk (v:Qbf) (s:Rm) (n:Int) (w:Qbe) (h:Sto (Old w) w v s) :
  Qbk Tryz.prog 23 #[v,.int .i64 n] w fun e w'=>∃ u,e=.returned (.tuple #[u,.int .i64 (rmE s n)])/\Zit w.heap.size w' u (rmV s n)/\Qbm w.heap.size w w':=by{
 obtain⟨A,ca,B,cb,N,cn,L,cl,rfl,_,_,_⟩:=h.open;obtain⟨w1,hw1,f1,f2,hsz,hB⟩:∃ w1,(w.alloc (.cells #[.slice A s.1.1.length ca,.slice B s.1.2.length cb,.slice N s.2.1.length cn,.slice L s.2.2.length cl] 29)).alloc (.cells #[.int .i64 0,.slice none 0 0] 59)=w1 /\
   w1.heap[w.heap.size]? = some (.cells #[.slice A s.1.1.length ca,.slice B s.1.2.length cb,.slice N s.2.1.length cn,.slice L s.2.2.length cl] 29 (0,0))/\w1.heap[w.heap.size+1]? = some (.cells #[.int .i64 0,.slice none 0 0] 59 (0,0))/\w1.heap.size=w.heap.size+2/\Qbm w.heap.size w w1:=by
  refine⟨_,rfl,Yw (Qbj _ _),?_,by simp,((Qb _ w).alloc (Qe _) _).alloc (by simp) _⟩;have:=Qbj (w.alloc (.cells #[.slice A s.1.1.length ca,.slice B s.1.2.length cb,.slice N s.2.1.length cn,.slice L s.2.2.length cl] 29)) (.cells #[.int .i64 0,.slice none 0 0] 59)
  rwa [Qaj] at this
 have H:=Za (h.below hB);clear h;obtain⟨k0,k1,k2,k3,_,kg⟩:=Ze f1;replace hsz:=Za hsz;replace f2:=Za f2;obtain⟨q,hq⟩:∃ q,rmE s n=q:=⟨_,rfl⟩
 by_cases ha:asE s n=0
 ·obtain⟨k,rfl,hm,h8,h256,hck,hrd,hE,hV,-⟩:=Vh ha
  obtain⟨b,hb⟩:∃ b,Ya s.1 k=b:=⟨_,rfl⟩
  rw[hb] at hrd hE hV;rw[hE] at hq;replace hE:Hid (rmE s (k:Int)=q):=Za (by rw[hE,hq]);replace hq:=Za hq;replace ha:=Za ha;replace hck:=Za hck;replace hrd:=Za hrd;replace hV:=Za hV;replace hb:=Za hb
  go_enter Tryz.func23,Tryz.ntmps23
  go_upto_region 1 with fail
  clear hw1
  go_wp2_with fail
  with_reducible refine(Zbz _ s (k:Int) _ H.out).mono ?_
  rintro e w2 ⟨rfl,hb2⟩;rw[ha.out];have G2:=(hb2.block w.heap.size kg).trans f1;obtain⟨m0,m1,m2,m3,_,mg⟩:=Ze G2;have F2:=Za ((hb2.block (w.heap.size+1) (by rw[hsz.out];omega)).trans f2.out);have H2:=Za (H.out.below hb2);have s2:Hid (w.heap.size+2<=w2.heap.size):=Za (by have:=hb2.size;have:=hsz.out;omega);replace hb2:=Za (hB.trans (hb2.mono hB.size));clear k0 k1 k2 k3 kg f1 hB G2
  go_wp2_with fail
  with_reducible refine(Zx1 _ s.1 (k:Int) _ H2.out.parts.1).mono ?_
  rintro e w3 ⟨u3,rfl,h3,hb3⟩;rw[hck.out];rw[hrd.out] at h3;obtain⟨R,rc,rfl,_⟩:=id (Zo h3);have F3:=Za ((hb3.block (w.heap.size+1) (by have:=s2.out;omega)).trans F2.out);have B3:=Za (hb2.out.trans (hb3.mono hb2.out.size));have s3:Hid (w.heap.size+2<=w3.heap.size):=Za (by have:=hb3.size;have:=s2.out;omega);have H3:=Za (Zf.drop h3);clear hb3 h3 m0 m1 m2 m3 mg F2
  go_wp2_with fail
  with_reducible refine(Zkx _ b _ H3.out).mono ?_
  rintro e w4 ⟨u4,rfl,h4,hb4⟩;rw[hq.out];obtain⟨P,pc,rfl,_⟩:=id h4;have F4:=(hb4.block (w.heap.size+1) (by have:=s3.out;omega)).trans F3.out;obtain⟨m0,m1,m2,m3⟩:=Zi F4;obtain⟨W9,hW9,g9,gr9,gs9⟩:=Vq (u:=.int .i64 (reV b).1) (v:=.slice P (reV b).2.length pc) F4;obtain⟨n0,n1,_,_⟩:=Zi g9;have r3:=s3.out;have l3:=B3.out.size
  have hfin:=Za (show Zit w.heap.size W9 (.agg #[.int .i64 (reV b).1,.slice P (reV b).2.length pc]) (rmV s (k:Int)) from by
   rw[hV.out]
   exact(h4.grown gr9 (fun q e=>by cases e;omega)).new l3 (Qb _ _))
  have hB9:=Za ((B3.out.trans (hb4.mono B3.out.size)).grown gr9 (Qc l3 hb4.size) (fun q e=>by cases e;omega));replace F4:=Za F4;replace g9:=Za g9;clear gr9 gs9 h4 hb4 r3 l3
  go_wp2_with fail
  refine Qbi (v:=.tuple #[.agg #[.int .i64 (reV b).1,.slice P (reV b).2.length pc],.int .i64 q]) (by simp[results,Tryz.results23,go_sem,n0,n1]) rfl ?_;rw[hE.out];exact⟨_,rfl,hfin.out,hB9.out⟩
 ·obtain⟨hE,hV⟩:=Zvm ha
  rw[hE] at hq;have hq1:(q != 0)=true:=by rw[<- hq];simpa using ha
  have hq2:Hid (asE s n=q):=Za hq;replace hq:Hid (rmE s n=q):=Za (by rw[hE];exact hq);replace hV:=Za hV;clear ha hE
  go_enter Tryz.func23,Tryz.ntmps23
  go_upto_region 1 with fail
  clear hw1
  go_wp2_with fail
  with_reducible refine(Zbz _ s n _ H.out).mono ?_
  rintro e w2 ⟨rfl,hb2⟩;rw[hq2.out];have F2:=(hb2.block (w.heap.size+1) (by rw[hsz.out];omega)).trans f2.out;replace hb2:=Za (hB.trans (hb2.mono hB.size));obtain⟨m0,m1,m2,m3⟩:=Zi F2;obtain⟨W9,hW9,g9,gr9,gs9⟩:=Vq (u:=.int .i64 0) (v:=.slice none 0 0) F2;obtain⟨n0,n1,_,_⟩:=Zi g9;have hB9:=Za ((hb2).out.grown gr9 (hb2).out.size (fun q e=>by cases e;omega));replace g9:=Za g9;replace F2:=Za F2;clear gr9 gs9
  go_wp2_with fail
  refine Qbi (v:=.tuple #[.agg #[.int .i64 0,.slice none 0 0],.int .i64 q]) (by simp[results,Tryz.results23,go_sem,n0,n1]) rfl ?_;rw[hV.out,hq.out];exact⟨_,rfl,Zit.zero _ _,hB9.out⟩}
theorem Zgp (v:Qbf) (s:Rm) (n:Int) (w:Qbe) (h:Sto (Old w) w v s) :
  Qbk Tryz.prog 23 #[v,.int .i64 n] w fun e w'=>∃ u,e=.returned (.tuple #[u,.int .i64 (rmE s n)])/\Nod (New w.heap.size w') w' u (rmV s n)/\Qbm w.heap.size w w' :=
 (Zmk v s n w h).mono fun _ _ ⟨u,e1,h1,h2⟩=>⟨u,e1,h1.nod,h2⟩
def Zd3 (l:List It) (k:Ky):Nat:=(l.filter fun x=>Zr x.1 k).length
theorem Ztq (l:List It) (k:Ky):Zd3 l k<=l.length:=List.length_filter_le _ _
theorem Zln (l:List It) (k:Ky) (i:Nat):Zd3 (l.take i) k<=i:=Qc (Ztq _ _) (Po _ _)
theorem Zpy {l:List It}{k:Ky}{i:Nat}{x:It}(hx:l[i]? = some x) (h:Zr x.1 k=true):Zd3 (l.take (i+1)) k=Zd3 (l.take i) k+1:=by
 unfold Zd3;rw[Pp,hx,Option.toList_some,Pq];simp[h]
theorem Z3f {l:List It}{k:Ky}{i:Nat}{x:It}(hx:l[i]? = some x) (h:Zr x.1 k=false):Zd3 (l.take (i+1)) k=Zd3 (l.take i) k:=by
 unfold Zd3;rw[Pp,hx,Option.toList_some,Pq];simp[h]
def Z4 (n:Nd) (k:Ky):Nat:=Zd3 n.2 k
def Y3 (n:Nd) (k:Ky):Bool:=match n.2[Z4 n k]? with
 | none=>false
 | some x=>decide (x.1=k)
theorem Zin {n:Nd}{k:Ky}(h:n.2.length<=Z4 n k):Y3 n k=false:=by
 unfold Y3;rw[Pr h]
theorem Zf7 {n:Nd}{k:Ky}{x:It}(h:n.2[Z4 n k]? = some x):Y3 n k=decide (x.1=k):=by
 unfold Y3;rw[h]
theorem Zky:Tryz.prog.eqGuardType Tryz.prog.depth 77=false:=by kernel_rfl
theorem Z1c (a b:Ky) (w:Qbe):(Op.equalIn 10000 77 (kyV a) (kyV b)).run Tryz.prog w=.ok (decide (a=b)) w:=by{
 have hS:Tryz.prog.underlying 77=some (.struct (Tryz.prog.fieldsOf 77)):=by kernel_rfl
 have hp:Tryz.prog.stoodInHeld 77=false:=by kernel_rfl
 have u3:=Tryz.underlying5;have u4:=Tryz.underlying30;have a3:=Tryz.isAgg5;have z3:=Tryz.sizeOf5;have a4:=Tryz.isAgg30;have z4:=Tryz.sizeOf30;obtain⟨a1,a2,a3⟩:=a;obtain⟨b1,b2,b3⟩:=b;have h:a1=b1↔(a1.toNat:Int)=b1.toNat:=⟨fun h=>by rw[h],fun h=>UInt8.toNat.inj (by omega)⟩
 simp only[Prod.mk.injEq,h];unfold kyV;rw[show (10000:Nat)=9999+1 from rfl,run_equalIn_agg w 9999 77 _ _ hS hp];simp only[Program.fieldsOf,Tryz.underlying77]
 go_simp
 by_cases h1:(a1.toNat:Int)=b1.toNat <;> by_cases h2:a2=b2 <;> by_cases h3:a3=b3 <;> simp[h1,h2,h3]}
theorem Zjh (v:Qbf) (n:Nd) (key:Ky) (w:Qbe) (h:Nod (Old w) w v n) :
  Qbk Tryz.prog 120 #[v,kyV key] w fun e w'=>e=.returned (.tuple #[.int .i64 (Z4 n key:Nat),.bool (Y3 n key)])/\Qbm w.heap.size w w':=by{
 obtain⟨A,c,rfl,_,l1,m1,hA⟩:=h.open;have HA:=Za hA;clear h hA;have hout:=Za (fun hh=>Zin (n:=n) (k:=key) hh);obtain⟨m,hm⟩:∃ m,n.2.length=m:=⟨_,rfl⟩
 obtain⟨l,hl⟩:∃ l,n.1=l:=⟨_,rfl⟩
 rw[hm] at l1 HA hout ⊢;rw[hl];clear hl;replace hm:=Za hm;obtain⟨w1,hw1,b1,hs1,hB1⟩:=Yd w (.int .i64 l) (.slice A m c) 59;obtain⟨w0,hw0,g0,g1,g2,hs0,hB2,_⟩:=Xd w1 (.int .u8 (key.1.toNat:Int)) (.int .u32 key.2.1) (.int .u32 key.2.2) 77;obtain⟨_,f2',_,lt1⟩:=Zi b1;have f2:=(hB2.cell (p:=⟨w.heap.size,1,none⟩) lt1).trans f2';have hB0:=Za (hB1.trans (hB2.mono hB1.size));have lt0:w.heap.size<w0.heap.size:=Qk lt1 hB2.size;have ltk:w1.heap.size<w0.heap.size:=by omega
 have hB:=Za (fun wr (hb:Qbm w0.heap.size w0 wr)=>hB0.out.trans (hb.mono hB0.out.size));clear hB1 hB2 b1 f2';replace hs1:=Za hs1;replace hs0:=Za hs0;unfold kyV
 go_enter Tryz.func120,Tryz.ntmps120
 go_upto_region 1 with fail
 clear hw0 hw1
 go_wp2_with fail
 go_loopw [4,11] (fun a i wr=>∃ k:Nat,k<=m/\i=.int .i64 k/\a=.int .i64 (Zd3 (n.2.take k) key:Nat)/\Qbm w0.heap.size w0 wr) (fun _ i _=>m-(intOf i).toNat)
 case atStart=>exact⟨0,by omega,rfl,rfl,Qb _ _⟩
 case round =>
  obtain⟨k,hk,rfl,rfl,hb⟩:=hrel;have hcle:=Zln n.2 key k;replace hb:=Za hb;have p2:=(hb.out.cell (p:=⟨w.heap.size,1,none⟩) lt0).trans f2;have y0:=(hb.out.cell (p:=⟨w1.heap.size,0,none⟩) ltk).trans g0;have y1:=(hb.out.cell (p:=⟨w1.heap.size,1,none⟩) ltk).trans g1;have y2:=(hb.out.cell (p:=⟨w1.heap.size,2,none⟩) ltk).trans g2;have BF:=Za (hB.out _ hb.out);by_cases hlt:k<m
  case neg =>
   have hkm:Hid (n.2.take k=n.2):=Za (Qh (by rw[hm.out];omega));have hat:=Za (show Zd3 (n.2.take k) key=Z4 n key by rw[hkm.out];rfl);rw[hat.out] at hcle ⊢;obtain⟨p,hp⟩:∃ p,Z4 n key=p:=⟨_,rfl⟩
   rw[hp] at hcle hout ⊢;by_cases hpm:p<m
   ·obtain⟨x,hx⟩:∃ x,n.2[p]? = some x:=⟨_,Qf (by rw[hm.out];exact hpm)⟩
    obtain⟨ad,E,ce,rfl,_,_,_,FX⟩:=Ve HA.out hx;obtain⟨⟨z0,z1,z2,z3,z4⟩,_⟩:=FX wr BF.out;have hth:=Za (show decide (x.1=key)=Y3 n key from (Zf7 (by rw[hp];exact hx)).symm);have he:=Z1c x.1 key;have hg:=Zky;unfold kyV at he;replace hp:=Za hp;replace hx:=Za hx;have i1:(p:Int)<(m:Int):=by omega
    have i0:(0:Int)<=(p:Int):=by omega
    clear FX
    go_wp2_with fail
    go_quiet (fail)
    go_wp2_with fail
    go_ret2
    exact⟨by rw[hp.out,hth.out];rfl,Vo BF.out _⟩
   ·have hth:=Za (hout.out (by omega))
    have i1:¬ (p:Int)<(m:Int):=by omega
    replace hp:=Za hp
    go_wp2_with fail
    go_quiet (fail)
    go_wp2_with fail
    go_ret2
    exact⟨by rw[hp.out,hth.out];rfl,Vo BF.out _⟩
  obtain⟨x,hx⟩:∃ x,n.2[k]? = some x:=⟨_,Qf (by rw[hm.out];exact hlt)⟩
  obtain⟨ad,E,ce,rfl,q1,q2,hinx,FX⟩:=Ve HA.out hx;obtain⟨⟨z0,z1,z2,z3,z4⟩,_⟩:=FX wr BF.out;obtain⟨w2,hw2,r0,r1,r2,_,_,hs2,hB2,_⟩:=Zz wr (.int .u8 (x.1.1.toNat:Int)) (.int .u32 x.1.2.1) (.int .u32 x.1.2.2) (.int .i64 x.2.1) (.slice E x.2.2.length ce) 79;have B2:=Za (hb.out.trans (hB2.mono hb.out.size));have v0:=(B2.out.cell (p:=⟨w1.heap.size,0,none⟩) ltk).trans g0;have v1:=(B2.out.cell (p:=⟨w1.heap.size,1,none⟩) ltk).trans g1;have v2:=(B2.out.cell (p:=⟨w1.heap.size,2,none⟩) ltk).trans g2;have hyes:=Za (fun hh=>Zpy (k:=key) hx hh);have hno:=Za (fun hh=>Z3f (k:=key) hx hh);replace hx:=Za hx;replace hs2:=Za hs2;clear FX hB2 hinx
  go_upto_region 4 with fail
  clear hw2 z0 z1 z2 z3 z4 y0 y1 y2
  go_wp2_with fail
  with_reducible refine(Zfp x.1 key _).mono ?_
  rintro e3 w3 ⟨rfl,hb3⟩;have B3:=Za (B2.out.trans (hb3.mono B2.out.size));clear hb3;obtain⟨s,hs⟩:∃ s,Zr x.1 key=s:=⟨_,rfl⟩
  rw[hs] at hyes hno ⊢;replace hs:=Za hs;obtain⟨q,hq⟩:∃ q,Zd3 (n.2.take k) key=q:=⟨_,rfl⟩
  rw[hq] at hyes hno hcle ⊢;replace hq:=Za hq;cases s with
  | true =>
   have hn:=Za (hyes.out rfl)
   go_wp2_with fail
   go_roundw
   case rel=>exact⟨k+1,by omega,by go_num,by rw[hn.out];go_num,B3.out⟩
   case measure=>simp[intOf];omega
  | false =>
   have hn:=Za (hno.out rfl)
   go_wp2_with fail
   go_roundw
   case rel=>exact⟨k+1,by omega,by go_num,by rw[hn.out],B3.out⟩
   case measure=>simp[intOf];omega}
structure InN (n:Nd):Prop where
 lv:Zcz n.1
 it:∀ x∈n.2,InI x
theorem Zmo (l:List It) (xs:List UInt8) (h:∀ x∈l,Zas x=true/\InI x):∀ k,k<=l.length->Ub (Zbx l++xs) k=some (l.take k,Zbx (l.drop k)++xs)
 | 0,_=>by simp[Ub]
 | k+1,hk=>by
  have hx:l[k]? = some l[k]:=Qf hk;obtain⟨h1,h2⟩:=h l[k] (List.getElem_mem hk);have hd:Zbx (l.drop k)++xs=itB l[k]++(Zbx (l.drop (k+1))++xs):=by
   rw[List.drop_eq_getElem_cons hk,show Zbx (l[k]::l.drop (k+1))=itB l[k]++Zbx (l.drop (k+1)) from rfl,Qq]
  have ih:=Zmo l xs h k (by omega);rw[hd] at ih;obtain⟨q0,q1,q2,_⟩:=Z0e l[k] (Zbx (l.drop (k+1))++xs) h2 h1;rw[Zf6 ih q0,q1,q2,Pp,hx];simp
theorem Zjs (k:Nat):Vx (Yj k)=true:=by simp[Vx,Yj]
theorem Zjv {b:List UInt8}(h:Vx b=true):b=Yj b.length:=by
 simp only[Vx,Qv,beq_iff_eq] at h;exact List.eq_replicate_iff.2 ⟨rfl,h⟩
theorem Zh0 (n:Nd):Zau n=[78,UInt8.ofNat n.1.toNat,UInt8.ofNat n.2.length]++Zbx n.2:=rfl
theorem Zb2 {n:Nd}(h:mayN n=true) (hi:InN n):reN (Ui n)=0/\reV (Ui n)=n:=by{
 have hl:=Zl8 h;obtain⟨⟨s1,s2,s3,_⟩,_⟩:=Z0 h;have hob:ob (Ui n)=Zkz (Zau n):=by
  unfold ob;rw[if_pos ⟨Zdf h,Zmm _⟩];exact Zug _
 have hoe:oe (Ui n)=0:=by
  unfold oe;rw[if_pos (Zdf h),if_pos (show Zpe (Ui n) from Zmm _)]
 obtain⟨z,hz⟩:∃ z,124-(Zau n).length=z:=⟨_,rfl⟩
 have hp:Zkz (Zau n)=78::UInt8.ofNat n.1.toNat::UInt8.ofNat n.2.length::(Zbx n.2++Yj z):=by
  rw[Zkz,hz,Zh0];simp
 have h0:(ob (Ui n))[0]?.getD 0=78:=by rw[hob,hp];rfl
 have h1:Zx3 (ob (Ui n))=n.1:=by
  rw[hob,hp];show ((UInt8.ofNat n.1.toNat).toNat:Int)=n.1;rw[UInt8.toNat_ofNat'];omega
 have h2:Zc4 (ob (Ui n))=n.2.length:=by
  rw[hob,hp];show (UInt8.ofNat n.2.length).toNat=n.2.length;rw[UInt8.toNat_ofNat'];omega
 have h3:(ob (Ui n)).drop 3=Zbx n.2++Yj z:=by rw[hob,hp];rfl
 have hc:Ub ((ob (Ui n)).drop 3) (Zc4 (ob (Ui n)))=some (n.2,Yj z):=by
  rw[h2,h3,Zmo n.2 (Yj z) (fun x hx=>⟨Zke h x hx,hi.it x hx⟩) n.2.length (Qe _)];simp[Zbx]
 have hnd:ndN (ob (Ui n))=n:=by
  unfold ndN Zu1;rw[hc,h1];rfl
 have hr:rdN (ob (Ui n))=true:=by
  unfold rdN Ztv;rw[h0,hc,hnd,h];simp[Zjs]
 obtain⟨e1,e2⟩:=Zfv hoe hr;exact⟨e1,by rw[e2,hnd]⟩}
theorem Zeb {b:List UInt8}(h:reN b=0):mayN (reV b)=true/\Ui (reV b)=b/\InN (reV b):=by{
 have hoe:oe b=0:=by
  unfold reN at h;by_cases e:oe b=0
  ·exact e
  ·rw[if_neg e] at h;exact absurd h e
 have hrd:rdN (ob b)=true:=by
  unfold reN at h;rw[if_pos hoe] at h;cases e:rdN (ob b) with
  | true=>rfl
  | false=>rw[e] at h;cases h
 obtain⟨e1,e2⟩:=Zfv hoe hrd;obtain⟨hlen,hfits,hob,h124⟩:=Zpa hoe;rw[e2];obtain⟨bd,hbd⟩:∃ bd,ob b=bd:=⟨_,rfl⟩
 rw[hbd] at hrd h124 ⊢;unfold rdN at hrd;simp only[Qi,decide_eq_true_eq] at hrd;obtain⟨h78,hs,hm,hn⟩:=hrd;cases hc:Ub (bd.drop 3) (Zc4 bd) with
 | none=>rw[hc] at hs;cases hs
 | some p =>
  obtain⟨l,r⟩:=p;have hL:Zu1 (bd.drop 3) (Zc4 bd)=l:=by simp[Zu1,hc]
  have hR:Ztv (bd.drop 3) (Zc4 bd)=r:=by simp[Ztv,hc]
  obtain⟨c1,c2,c3⟩:=Zgt hc;rw[hR] at hn;have hnd:ndN bd=(Zx3 bd,l):=by rw[ndN,hL]
  have hin:InN (ndN bd):=by
   rw[hnd];exact⟨Zw5 bd,fun x hx=>(c3 x hx).2⟩
  refine⟨hm,?_,hin⟩;have hsplit:bd=[78,bd[1]?.getD 0,bd[2]?.getD 0]++bd.drop 3:=by
   match bd,h124,h78 with
   | x::y::z::q,_,h78 =>
    simp at h78;simp[h78]
  have hT:Zau (ndN bd)=[78,bd[1]?.getD 0,bd[2]?.getD 0]++Zbx l:=by
   rw[hnd,Zh0,c2];have e1:UInt8.ofNat (Zx3 bd).toNat=bd[1]?.getD 0:=by simp[Zx3]
   have e2:UInt8.ofNat (Zc4 bd)=bd[2]?.getD 0:=by simp[Zc4]
   show [78,UInt8.ofNat (Zx3 bd).toNat,UInt8.ofNat (Zc4 bd)]++Zbx l=_;rw[e1,e2]
  have hbody:bd=Zau (ndN bd)++r:=by
   rw[hT,Qq,<- c1];exact hsplit
  have hpad:Zkz (Zau (ndN bd))=bd:=by
   have hl2:(Zau (ndN bd)).length+r.length=124:=by
    have:=congrArg List.length hbody;rw[Qn,h124] at this;omega
   rw[Zkz,show 124-(Zau (ndN bd)).length=r.length by omega,<- Zjv hn];exact hbody.symm
  show Zbw (Zau (ndN bd))=b;have hs:Zbw (Zau (ndN bd))=Zbw bd:=by
   unfold Zbw;rw[hpad,Zlc h124]
  rw[hs,<- hbd,hob];exact Zuk hlen hfits}
def Zed:Ky:=(0,0,0)
def Y7 (s:Rm) (l:List It):Bool:=l.all fun x=>decide (x.2.1=0)||decide (s.2.1[x.2.1.toNat]?.getD 0≠0)
def Zbq (f:Int->Ky->Ky->Bool->Bool):List It->Ky->Bool->Bool
 | [],_,_=>true
 | [x],tb,ends=>f x.2.1 x.1 tb ends
 | x::y::r,tb,ends=>f x.2.1 x.1 y.1 true&&Zbq f (y::r) tb ends
def Zfb (l:List It) (k tb:Ky) (ends:Bool):Bool:=(match l[0]? with | none=>false | some x=>decide (x.1=k))&&(!ends||(match l.getLast? with | none=>false | some y=>Zr y.1 tb))
def Yx (s:Rm):Nat->Int->Ky->Ky->Bool->Bool
 | 0,a,k,tb,ends=>(decide (rmE s a=0)&&decide ((rmV s a).1=0))&&(Zfb (rmV s a).2 k tb ends&&Y7 s (rmV s a).2)
 | l+1,a,k,tb,ends=>(decide (rmE s a=0)&&decide ((rmV s a).1=((l+1:Nat):Int)))&&(Zfb (rmV s a).2 k tb ends&&Zbq (Yx s l) (rmV s a).2 tb ends)
def Ze1 (s:Rm) (n:Nd) (tb:Ky) (ends:Bool):Bool:=match n.1.toNat with
 | 0=>Y7 s n.2
 | l+1=>Zbq (Yx s l) n.2 tb ends
def Ue (s:Rm) (a:Int):Bool:=decide (rmE s a=0)&&Ze1 s (rmV s a) Zed false
def ckE (s:Rm) (a:Int):Int:=if asE s a=0 then (if Ue s a then 0 else 8) else asE s a
def ckH (s:Rm) (a:Int):Int:=if ckE s a=0 then (rmV s a).1+1 else 0
def Uh (s:Rm):Nat->Int->List It
 | 0,a=>(rmV s a).2
 | l+1,a=>(rmV s a).2.flatMap fun x=>Uh s l x.2.1
def Zz6 (s:Rm):Nat->Int->Ky->Option It
 | 0,a,k=>(rmV s a).2.reverse.find? fun x=>decide (x.1=k)
 | l+1,a,k=>((rmV s a).2.reverse.find? fun x => !Zr k x.1).bind fun x=>Zz6 s l x.2.1 k
def Zem (s:Rm) (a:Int):List It:=Uh s (rmV s a).1.toNat a
def Z6k (s:Rm) (a:Int) (k:Ky):Option It:=Zz6 s (rmV s a).1.toNat a k
def Up (l:List It):Prop:=l.Pairwise fun x y=>Zr x.1 y.1=true
theorem Xf {s:Rm}{a:Int}(h:rmE s a=0):mayN (rmV s a)=true/\asE s a=0:=by{
 by_cases ha:asE s a=0
 ·obtain⟨k,_,_,_,_,_,_,hE,hV,_⟩:=Vh ha
  rw[hE] at h;rw[hV];exact⟨(Zeb h).1,ha⟩
 ·rw[(Zvm ha).1] at h
  exact absurd h ha}
theorem Za3 {n:Nd}(h:mayN n=true):Up n.2:=by
 rw[Up,List.pairwise_iff_getElem];intro i j hi hj hij;exact Ur h hij (Qf hi) (Qf hj)
theorem Zjm {x:It}{l:List It}(h:Up (x::l)):∀ y∈x::l,y.1=x.1\/Zr x.1 y.1=true:=fun y hy=>by
 rcases Qm.1 hy with rfl | hy
 ·exact .inl rfl
 ·exact .inr ((Q3.1 h).1 y hy)
theorem Zj7 {l:List It}{z:It}{tb:Ky}(h:Up l) (hl:l.getLast? = some z) (hz:Zr z.1 tb=true):∀ y∈l,Zr y.1 tb=true:=fun y hy=>by
 obtain⟨r,rfl⟩:=List.getLast?_eq_some_iff.1 hl;rcases Qj.1 hy with hy | hy
 ·exact Yz ((Qak.1 h).2.2 y hy z (by simp)) hz
 ·rw[Ql.1 hy]
  exact hz
theorem Zb0 {l:List It}{k tb:Ky}{ends:Bool}(h:Zfb l k tb ends=true):∃ x r,l=x::r/\x.1=k/\(ends=true->∃ z,l.getLast? = some z/\Zr z.1 tb=true):=by{
 unfold Zfb at h;rw[Qi] at h;obtain⟨h1,h2⟩:=h;cases l with
 | nil=>simp at h1
 | cons x r =>
  refine⟨x,r,rfl,by simpa using h1,fun he=> ?_⟩;rw[he] at h2;cases hz:(x::r).getLast? with
  | none=>rw[hz] at h2;simp at h2
  | some z=>rw[hz] at h2;exact⟨z,rfl,by simpa using h2⟩}
structure Z38 (M:List It) (k tb:Ky) (ends:Bool) (N:Nat):Prop where
 first:∃ x r,M=x::r/\x.1=k
 up:Up M
 bound:ends=true->∀ y∈M,Zr y.1 tb=true
 few:M.length<=N
theorem Z38.ge {M:List It}{k tb:Ky}{ends:Bool}{N:Nat}(h:Z38 M k tb ends N):∀ y∈M,y.1=k\/Zr k y.1=true:=by
 obtain⟨x,r,rfl,rfl⟩:=h.first;exact Zjm h.up
theorem Zbi {f:Int->Ky->Ky->Bool->Bool}{g:Int->List It}{N:Nat}(hf:∀ a k tb ends,f a k tb ends=true->Z38 (g a) k tb ends N):∀ (L:List It) (tb:Ky) (ends:Bool),L≠[]->Zbq f L tb ends=true ->
  ∃ x r,L=x::r/\Z38 (L.flatMap fun x=>g x.2.1) x.1 tb ends (N*L.length)
 | [],_,_,h,_=>absurd rfl h
 | [x],tb,ends,_,h=>by
  refine⟨x,[],rfl,?_⟩;have:=hf _ _ _ _ h
  simpa using this
 | x::y::r,tb,ends,_,h=>by
  refine⟨x,y::r,rfl,?_⟩;unfold Zbq at h;rw[Qi] at h;have hx:=hf _ _ _ _ h.1;obtain⟨y',r',e,hy⟩:=Zbi hf (y::r) tb ends (by simp) h.2;cases e;have e2:(x::y::r).flatMap (fun x=>g x.2.1)=g x.2.1++(y::r).flatMap fun x=>g x.2.1:=Qr
  rw[e2];have hb:=hx.bound rfl;have hlt:∀ p∈g x.2.1,∀ q∈(y::r).flatMap (fun x=>g x.2.1),Zr p.1 q.1=true:=fun p hp q hq=>by
   rcases hy.ge q hq with e | e
   ·rw[e];exact hb p hp
   ·exact Yz (hb p hp) e
  refine⟨?_,?_,fun he p hp=> ?_,?_⟩
  ·obtain⟨z,q,ez,kz⟩:=hx.first
   exact⟨z,_,by rw[ez];rfl,kz⟩
  ·exact Qak.2 ⟨hx.up,hy.up,hlt⟩
  ·rcases Qj.1 hp with hp | hp
   ·obtain⟨z,q,ez,kz⟩:=hy.first
    have hz:=hlt p hp z (by rw[ez];simp);exact Yz hz (hy.bound he z (by rw[ez];simp))
   ·exact hy.bound he p hp
  ·have h1:=hx.few
   have h2:=hy.few;rw[Qn];have e3:N*(x::y::r).length=N+N*(y::r).length:=by rw[Q5,Nat.mul_succ,Nat.add_comm]
   omega
theorem Xw {s:Rm}{l:Nat}{a:Int}{k tb:Ky}{ends:Bool}(h:Yx s l a k tb ends=true):rmE s a=0/\(rmV s a).1=l/\Zfb (rmV s a).2 k tb ends=true/\(match l with | 0=>Y7 s (rmV s a).2 | l'+1=>Zbq (Yx s l') (rmV s a).2 tb ends)=true:=by{
 cases l with
 | zero =>
  simp only[Yx,Qi,decide_eq_true_eq] at h;exact⟨h.1.1,h.1.2,h.2.1,h.2.2⟩
 | succ l =>
  simp only[Yx,Qi,decide_eq_true_eq] at h;exact⟨h.1.1,h.1.2,h.2.1,h.2.2⟩}
theorem Xg (s:Rm):∀ (l:Nat) (a:Int) (k tb:Ky) (ends:Bool),Yx s l a k tb ends=true->Z38 (Uh s l a) k tb ends (5 ^ (l+1))
 | 0,a,k,tb,ends,h=>by
  obtain⟨h1,h2,h3,h4⟩:=Xw h;obtain⟨hm,_⟩:=Xf h1;obtain⟨x,r,e,ek,hz⟩:=Zb0 h3;refine⟨⟨x,r,e,ek⟩,Za3 hm,fun he=> ?_,?_⟩
  ·obtain⟨z,e1,e2⟩:=hz he
   exact Zj7 (Za3 hm) e1 e2
  ·exact(Z0 hm).1.2.2.1
 | l+1,a,k,tb,ends,h=>by
  obtain⟨h1,h2,h3,h4⟩:=Xw h;obtain⟨hm,_⟩:=Xf h1;obtain⟨x,r,e,ek,hz⟩:=Zb0 h3;obtain⟨x',r',e',hp⟩:=Zbi (Xg s l) (rmV s a).2 tb ends (by rw[e];simp) h4;rw[e] at e';cases e';rw[ek] at hp;refine⟨hp.first,hp.up,hp.bound,Qc hp.few ?_⟩;have h5:=(Z0 hm).1.2.2.1;rw[Q8 5 (l+1)];exact Ps _ h5
theorem Zqr {p:It->Bool}(x:It) (l:List It):(x::l).reverse.find? p=match l.reverse.find? p with | some y=>some y | none=>if p x then some x else none:=by{
 rw[List.reverse_cons,Qal];cases l.reverse.find? p with
 | some y=>rfl
 | none =>
  simp only[Option.none_or,Qam,List.find?_nil];cases p x <;> rfl}
theorem Zgv {p:It->Bool}{l:List It}(h:∀ x∈l,p x=false):l.reverse.find? p=none:=by
 rw[List.find?_eq_none];intro x hx;rw[h x (Qan.1 hx)];simp
theorem Zj5 {f:Int->Ky->Ky->Bool->Bool}{g:Int->List It}{N:Nat}(hf:∀ a k tb ends,f a k tb ends=true->Z38 (g a) k tb ends N):∀ (L:List It) (tb:Ky) (ends:Bool),Up L->Zbq f L tb ends=true->∀ x∈L.flatMap (fun x=>g x.2.1),
  ∃ y∈L,x∈g y.2.1/\(L.reverse.find? fun z => !Zr x.1 z.1)=some y/\∃ t e,f y.2.1 y.1 t e=true
 | [],_,_,_,_,x,hx=>by simp at hx
 | [y],tb,ends,_,h,x,hx=>by
  have hx':x∈g y.2.1:=by simpa using hx
  refine⟨y,by simp,hx',?_,tb,ends,h⟩;have hp:=hf _ _ _ _ h;have:Zr x.1 y.1=false:=by
   rcases hp.ge x hx' with e | e
   ·rw[e];exact Xe _
   ·exact Ut e
  simp[this]
 | y::z::r,tb,ends,hu,h,x,hx=>by
  unfold Zbq at h;rw[Qi] at h;have hy:=hf _ _ _ _ h.1;have e2:(y::z::r).flatMap (fun x=>g x.2.1)=g y.2.1++(z::r).flatMap fun x=>g x.2.1:=Qr
  rw[e2] at hx;rw[Zqr];rcases Qj.1 hx with hx | hx
  ·have hb:=hy.bound rfl x hx
   have hge:Zr x.1 y.1=false:=by
    rcases hy.ge x hx with e | e
    ·rw[e];exact Xe _
    ·exact Ut e
   have hno:(z::r).reverse.find? (fun w => !Zr x.1 w.1)=none:=Zgv fun w hw=>by
    rcases Zjm (Q3.1 hu).2 w hw with e | e
    ·rw[e,hb];rfl
    ·rw[Yz hb e];rfl
   refine⟨y,by simp,hx,?_,_,_,h.1⟩;rw[hno];simp[hge]
  ·obtain⟨w,hw,h1,h2,h3⟩:=Zj5 hf (z::r) tb ends (Q3.1 hu).2 h.2 x hx
   exact⟨w,Qs _ hw,h1,by rw[h2],h3⟩
theorem Zia {l:List It}(hu:Up l){x:It}(hx:x∈l):(l.reverse.find? fun y=>decide (y.1=x.1))=some x:=by{
 induction l with
 | nil=>simp at hx
 | cons y r ih =>
  rw[Zqr];rcases Qm.1 hx with rfl | hx
  ·have hno:r.reverse.find? (fun y=>decide (y.1=x.1))=none:=Zgv fun z hz=>by
    have h1:=(Q3.1 hu).1 z hz;have:z.1≠x.1:=fun e=>by rw[e,Xe] at h1;cases h1
    simpa using this
   rw[hno];simp
  ·rw[ih (Q3.1 hu).2 hx]}
theorem Zg1 (s:Rm):∀ (l:Nat) (a:Int) (k tb:Ky) (ends:Bool),Yx s l a k tb ends=true->∀ x∈Uh s l a,Zz6 s l a x.1=some x
 | 0,a,k,tb,ends,h,x,hx=>Zia (Za3 (Xf (Xw h).1).1) hx
 | l+1,a,k,tb,ends,h,x,hx=>by
  obtain⟨h1,h2,h3,h4⟩:=Xw h;obtain⟨y,hy,h5,h6,t,e,h7⟩:=Zj5 (Xg s l) (rmV s a).2 tb ends (Za3 (Xf h1).1) h4 x hx;unfold Zz6;rw[h6];exact Zg1 s l y.2.1 y.1 t e h7 x h5
theorem Zak {s:Rm}{a:Int}(h:Ue s a=true):rmE s a=0/\asE s a=0/\mayN (rmV s a)=true/\0<=(rmV s a).1/\(rmV s a).1<6/\Ze1 s (rmV s a) Zed false=true:=by
 simp only[Ue,Qi,decide_eq_true_eq] at h;obtain⟨hm,ha⟩:=Xf h.1;exact⟨h.1,ha,hm,(Z0 hm).1.1,(Z0 hm).1.2.1,h.2⟩
theorem Zxz {s:Rm}{a:Int}(h:Ue s a=true):Up (Zem s a)/\(Zem s a).length<=15625/\(∀ x∈Zem s a,Z6k s a x.1=some x):=by{
 obtain⟨h1,_,hm,l0,l6,hi⟩:=Zak h;unfold Zem Z6k;unfold Ze1 at hi;have hl:(rmV s a).1.toNat<=5:=by omega
 generalize hl0:(rmV s a).1.toNat=l at hi hl ⊢;cases l with
 | zero =>
  refine⟨Za3 hm,Qc (Z0 hm).1.2.2.1 (by decide),fun x hx=>Zia (Za3 hm) hx⟩
 | succ l =>
  have hne:(rmV s a).2≠[]:=fun e=>by
   have:=(Z0 hm).1.2.2.2 (by omega);rw[e] at this;simp at this
  obtain⟨x,r,e,hp⟩:=Zbi (Xg s l) (rmV s a).2 Zed false hne hi;refine⟨hp.up,Qc hp.few ?_,fun x hx=> ?_⟩
  ·have h5:=(Z0 hm).1.2.2.1
   have hpw:5 ^ (l+1)<=5 ^ 5:=Qw (by decide) (by omega);have:=Qao hpw h5;omega
  ·obtain⟨y,hy,h5,h6,t,e,h7⟩:=Zj5 (Xg s l) (rmV s a).2 Zed false (Za3 hm) hi x hx
   unfold Zz6;rw[h6];exact Zg1 s l y.2.1 y.1 t e h7 x h5}
theorem Zk8 {s:Rm}{l:List It}{i:Nat}{x:It}(hx:l[i]? = some x):Y7 s (l.take (i+1))=(Y7 s (l.take i)&&(decide (x.2.1=0)||decide (s.2.1[x.2.1.toNat]?.getD 0≠0))):=by
 have hk:=(Qg.1 hx).1;have hg:l[i]=x:=(Qg.1 hx).2;rw[<- Qt hk,hg];simp[Y7]
theorem Zx5 {s:Rm}{l:List It}{i:Nat}(h:Y7 s (l.take i)=false):Y7 s l=false:=by{
 cases e:Y7 s l with
 | false=>rfl
 | true =>
  unfold Y7 at e h;rw[Qv] at e;rw[<- h]
  symm
  rw[Qv];exact fun x hx=>e x (Pt hx)}
def nxO (r:List It) (tb:Ky):Ky:=match r with | []=>tb | y::_=>y.1
def bxO (r:List It) (ends:Bool):Bool:=match r with | []=>ends | _::_=>true
theorem Zaf (f:Int->Ky->Ky->Bool->Bool) (x:It) (r:List It) (tb:Ky) (ends:Bool):Zbq f (x::r) tb ends=(f x.2.1 x.1 (nxO r tb) (bxO r ends)&&Zbq f r tb ends):=by
 cases r with
 | nil=>simp[Zbq,nxO,bxO]
 | cons y r=>rfl
def In (lo hi:Nat):Qbg->Prop:=fun p=>lo<=p.block/\p.block<hi
theorem Zfr {w w1:Qbe}{Fs:List (Qbe->Prop)}(h:Bag w Fs) (hb:Qbm w.heap.size w w1) (a b:Qbf):∃ w',w1.alloc (.cells #[a,b] 59)=w'/\Bag w' (Z6l w1.heap.size a b::Fs)/\Qbm w.heap.size w w'/\Qbm w1.heap.size w1 w'/\w1.heap.size<w'.heap.size:=by
 obtain⟨w2,e2,b2,k4,k5⟩:=Yd w1 a b 59;obtain⟨k1,k2,_,k3⟩:=Zi b2;exact⟨w2,e2,((h.below hb).below k5).add ⟨k1,k2,k3⟩ (Zvv _ _ _),hb.trans (k5.mono hb.size),k5,by omega⟩
def Z18 (v:Qbf) (n:Nd):Qbe->Prop:=fun w=>Nod (Old w) w v n
theorem Zcn (v:Qbf) (n:Nd):Ze9 (Z18 v n):=fun _ _ h hb=>h.below hb
def Zvj (v:Qbf) (l:List It):Qbe->Prop:=fun w=>Zar (Old w) w [v] l
theorem Zg6 (v:Qbf) (l:List It):Ze9 (Zvj v l):=fun _ _ h hb=>Xv.old h hb
theorem Zqq {l:List It}{k:Ky}:∀ {i:Nat},i<=l.length->(∀ j x,j<i->l[j]? = some x->Zr x.1 k=true)->Zd3 (l.take i) k=i
 | 0,_,_=>rfl
 | i+1,hi,h=>by
  have hx:l[i]? = some l[i]:=Qf hi;rw[Zpy hx (h i _ (by omega) hx),Zqq (by omega) (fun j x hj=>h j x (by omega))]
theorem Z31 (l:List It) (k:Ky) (i:Nat):Zd3 (l.take i) k<=Zd3 l k:=by
 unfold Zd3;exact((List.take_sublist i l).filter _).length_le
theorem Zwb {l:List It}{k:Ky}{i:Nat}(h:∀ j x,i<=j->l[j]? = some x->Zr x.1 k=false):Zd3 l k=Zd3 (l.take i) k:=by{
 have e:Zd3 l k=Zd3 (l.take i) k+Zd3 (l.drop i) k:=by
  unfold Zd3;rw[<- Qn,<- Pq,Q9]
 have z:Zd3 (l.drop i) k=0:=by
  unfold Zd3;rw[List.length_eq_zero_iff,Qap];intro x hx;obtain⟨j,hj⟩:=Qaq.1 hx;rw[Q6] at hj;rw[h (i+j) x (by omega) hj];simp
 omega}
theorem U6 {n:Nd}(h:mayN n=true){k:Ky}{i:Nat}{x:It}(hx:n.2[i]? = some x):Zr x.1 k=decide (i<Z4 n k):=by{
 have hi:=(Qg.1 hx).1;cases e:Zr x.1 k with
 | true =>
  have h1:Zd3 (n.2.take (i+1)) k=i+1:=Zqq (by omega) (fun j y hj hy=>by
   rcases Pu j i with h2 | h2
   ·exact Yz (Ur h h2 hy hx) e
   ·obtain rfl:j=i:=by omega
    rw[hx] at hy;cases hy
    exact e)
  have h2:=Z31 n.2 k (i+1);have h3:Z4 n k=Zd3 n.2 k:=rfl;have:i<Z4 n k:=by omega
  simp[this]
 | false =>
  have h1:Zd3 n.2 k=Zd3 (n.2.take i) k:=Zwb (fun j y hj hy=>by
   rcases Pu i j with h2 | h2
   ·cases e2:Zr y.1 k with
    | false=>rfl
    | true =>
     have:=Yz (Ur h h2 hx hy) e2;rw[e] at this;cases this
   ·obtain rfl:i=j:=by omega
    rw[hx] at hy;cases hy
    exact e)
  have h2:=Zln n.2 k i;have h3:Z4 n k=Zd3 n.2 k:=rfl;have:¬ i<Z4 n k:=by omega
  simp[this]}
theorem Zgc (n:Nd) (k:Ky):Z4 n k<=n.2.length:=Ztq _ _
theorem Zut {n:Nd}(h:mayN n=true){i:Nat}{x:It}(hx:n.2[i]? = some x):Z4 n x.1=i/\Y3 n x.1=true:=by{
 have hi:=(Qg.1 hx).1;have h1:¬ i<Z4 n x.1:=fun h2=>by
  have:=U6 h (k:=x.1) hx;rw[Xe] at this;simp[h2] at this
 have h2:Z4 n x.1=i:=by
  rcases Nat.eq_zero_or_pos i with h0 | h0
  ·omega
  ·obtain⟨j,rfl⟩:∃ j,i=j+1:=⟨i-1,by omega⟩
   have hy:n.2[j]? = some n.2[j]:=Qf (by omega);have h3:=U6 h (k:=x.1) hy;rw[Zhb h hy hx] at h3;have:j<Z4 n x.1:=by simpa using h3.symm
   omega
 exact⟨h2,by rw[Zf7 (by rw[h2];exact hx)];simp⟩}
def Zhl:Rm:=(Za8,Yj 256,Yj 256)
theorem Zyk (w:Qbe):Qbk Tryz.prog 27 #[] w fun e w'=>∃ t,e=.returned t/\Sto (New w.heap.size w') w' t Zhl/\Qbm w.heap.size w w':=by{
 obtain⟨w1,hw1,f1,hsz,hB⟩:=Xy w (.slice none 0 0) (.slice none 0 0) (.slice none 0 0) (.slice none 0 0) 29;have hz:Hid ((Yj 256).length=256):=Za (Zae 256);replace hsz:=Za hsz
 go_enter Tryz.func27,Tryz.ntmps27
 go_upto_region 1 with fail
 clear hw1
 go_wp2_with fail
 with_reducible refine(Z27 _).mono ?_
 rintro e w2 ⟨u,rfl,h2,hb2⟩;obtain⟨P,p,Q,r,rfl,_⟩:=id h2.open;have H2:=Za h2;have F2:=(hb2.block w.heap.size (by rw[hsz.out];omega)).trans f1;have B2:=Za (hB.trans (hb2.mono hB.size));have s2:Hid (w.heap.size+1<=w1.heap.size/\w1.heap.size<=w2.heap.size):=Za ⟨by rw[hsz.out];omega,hb2.size⟩;clear h2 hb2 f1
 go_wp2_with fail
 with_reducible refine(Zly _).mono ?_
 rintro e w3 ⟨g3,rfl,h3,hb3⟩;have H3:=Za h3;have D3:=Za (H2.out.new (Qe _) hb3);have F3:=(hb3.block w.heap.size (by have:=s2.out;omega)).trans F2;have B3:=Za (B2.out.trans (hb3.mono B2.out.size));have s3:Hid (w2.heap.size<=w3.heap.size):=Za hb3.size;clear h3 hb3 F2 H2
 go_wp2_with fail
 with_reducible refine(Zly _).mono ?_
 rintro e w4 ⟨g4,rfl,h4,hb4⟩;have D4:=D3.out.new (Qe _) hb4;have N4:=Zf.new H3.out (Qe _) hb4;have F4:=(hb4.block w.heap.size (by have:=s2.out;have:=s3.out;omega)).trans F3;have B4:=B3.out.trans (hb4.mono B3.out.size);obtain⟨c0,c1,c2,c3,c4,c5⟩:=Ze F4;obtain⟨W9,hW9,g9,gr9,gs9⟩:=Zt (a':=.slice P Za8.1.length p) (b':=.slice Q Za8.2.length r) (c':=.slice (some ⟨g3,0,none⟩) 256 256) (d':=.slice (some ⟨g4,0,none⟩) 256 256) F4;obtain⟨n0,n1,n2,n3,_,_⟩:=Ze g9;have q2:=s2.out;have q3:=s3.out;have l2:=B2.out.size;have l3:=B3.out.size
 have hfin:=Za (show Sto (New w.heap.size W9) W9 (.agg #[.slice P Za8.1.length p,.slice Q Za8.2.length r,.slice (some ⟨g3,0,none⟩) 256 256,.slice (some ⟨g4,0,none⟩) 256 256]) Zhl from
  Sto.mk ((D4.grown gr9 (fun q e=>by cases e;omega)).new (by omega) (Qb _ _)) (Zf.new (Zf.grown N4 gr9 (fun q e=>by cases e;omega)) (by omega) (Qb _ _)) (Zf.new (Zf.grown h4 gr9 (fun q e=>by cases e;omega)) (by omega) (Qb _ _)))
 have hB9:=Za (B4.grown gr9 B4.size (fun q e=>by cases e;omega));clear D4 N4 gr9 gs9 B4 q2 q3 l2 l3 h4 hb4;replace F4:=Za F4;replace F3:=Za F3;replace g9:=Za g9
 go_wp2_with fail
 refine Qbi (v:=.agg #[.slice P Za8.1.length p,.slice Q Za8.2.length r,.slice (some ⟨g3,0,none⟩) 256 256,.slice (some ⟨g4,0,none⟩) 256 256]) (by simp[results,Tryz.results27,go_sem,n0,n1,n2,n3]) rfl ?_;exact⟨_,rfl,hfin.out,hB9.out⟩}
end Go.Proofs.YtmafkphcfkhokaaGreat
namespace Go.Proofs.YtmafkphcfkhokaaGreat
open Go.RowKit Go.Shelf
attribute [local go_sem] Oper.semAt_some
theorem U1 {W:Qbe}{g:Nat}{a u:Qbf}{t:Qbh}(h:W.heap[g]? = some (.cells #[a] t (0,0))):∃ W1,W.setCell ⟨g,0,none⟩ u=W1/\W1.heap[g]? = some (.cells #[u] t (0,0))/\W.grownBy W1 (some g)/\W1.heap.size=W.heap.size :=
 ⟨_,rfl,by simp[Qar,Qas,h],Zp (p:=⟨g,0,none⟩) (Ye W (some g)) rfl u,by simp⟩
theorem Zx {W:Qbe}{g:Nat}{a:Qbf}{t:Qbh}(h:W.heap[g]? = some (.cells #[a] t (0,0))):W.cell? ⟨g,0,none⟩=some a/\W.frozen? ⟨g,0,none⟩=false/\g<W.heap.size :=
 ⟨by simp[Qx,h],by simp[Pa,h],(Qa.1 h).1⟩
theorem Zs {W W':Qbe}{row:Option Nat}{g:Nat}{cs:Array Qbf}{t:Qbh}(h:W.heap[g]? = some (.cells cs t (0,0))) (hg:W.grownBy W' row) (hrow:∀ r,row=some r->∃ o:Obj,W.heap[r]? = some o/\o.isCells=false):W'.heap[g]? = some (.cells cs t (0,0)) :=
 (grownBy_keeps_cells hg hrow h rfl).trans h
theorem Zx8:(Y9 Zhl).length=248/\Y9 Zhl=8::9::(Y9 Zhl).drop 2:=by decide +kernel
theorem Z16:Xz Zhl=true:=Zet Zzg Zl4 Zl4
def Xh:List It->Nat->Nat
 | [],_=>0
 | x::l,i=>(if x.2.1=(i:Int) then (if x.2.1=0 then 0 else 1) else 0)+Xh l i
def Zcu (l:List It):Prop:=∀ x∈l,x.2.1=0\/(8<=x.2.1/\x.2.1<256)
theorem Zd6 {x:It}{l:List It}(h:Zcu (x::l)):(x.2.1=0\/∃ k:Nat,x.2.1=k/\8<=k/\k<256)/\Zcu l:=by
 refine⟨?_,fun y hy=>h y (Qs _ hy)⟩;rcases h x Qy with h1 | ⟨h1,h2⟩
 ·exact .inl h1
 ·exact .inr ⟨x.2.1.toNat,by omega,by omega,by omega⟩
theorem Zag {n:Nd}(h:mayN n=true):Zcu n.2:=fun x hx=>by
 obtain⟨i,hi⟩:=Pv hx;have hk:=(Qg.1 hi).1;simp only[mayN,Qi,Qv] at h;have h1:=h.2 i (by simpa using hk);simp only[Zhj,hi,okP,Qi] at h1;exact(Ud h1.1.1).1
theorem Zbv {x:It}{l:List It}(h:x.2.1=0) (i:Nat):Xh (x::l) i=Xh l i:=by
 simp only[Xh,h,if_true];split <;> simp
theorem Zaa {x:It}{l:List It}{k:Nat}(h:x.2.1=k) (h8:8<=k) (i:Nat):Xh (x::l) i=(if i=k then 1 else 0)+Xh l i:=by{
 simp only[Xh,h];by_cases e:i=k
 ·subst e
  rw[if_pos rfl,if_neg (by omega),if_pos rfl]
 ·rw[if_neg (by omega),if_neg e]}
theorem Zyl {l:List It}(h:Zcu l){i:Nat}(hi:i<8\/256<=i):Xh l i=0:=by{
 induction l with
 | nil=>rfl
 | cons x l ih =>
  obtain⟨h1,h2⟩:=Zd6 h;rcases h1 with h1 | ⟨k,h1,h8,h256⟩
  ·rw[Zbv h1,ih h2]
  ·rw[Zaa h1 h8,ih h2,if_neg (by omega)]}
def ctE:List UInt8->List It->Int
 | _,[]=>0
 | t,x::l=>if x.2.1=0 then ctE t l else if t[x.2.1.toNat]?.getD 0=0 then 6 else if t[x.2.1.toNat]?.getD 0=255 then 70 else ctE (t.set x.2.1.toNat (t[x.2.1.toNat]?.getD 0+1)) l
def ctV:List UInt8->List It->List UInt8
 | t,[]=>t
 | t,x::l=>if x.2.1=0 then ctV t l else ctV (t.set x.2.1.toNat (t[x.2.1.toNat]?.getD 0+1)) l
theorem Zc9:∀ (l:List It) (t:List UInt8),(ctV t l).length=t.length
 | [],_=>rfl
 | x::l,t=>by
  unfold ctV;split
  ·exact Zc9 l t
  ·rw[Zc9 l,Qu]
theorem Zi7:∀ (a b:List It) (t:List UInt8),ctE t (a++b)=if ctE t a=0 then ctE (ctV t a) b else ctE t a
 | [],b,t=>by simp[ctE,ctV]
 | x::a,b,t=>by
  simp only[Pd,ctE,ctV];split
  ·exact Zi7 a b t
  ·split
   ·simp
   ·split
    ·simp
    ·exact Zi7 a b _
theorem Zox:∀ (a b:List It) (t:List UInt8),ctV t (a++b)=ctV (ctV t a) b
 | [],b,t=>rfl
 | x::a,b,t=>by
  simp only[Pd,ctV];split
  ·exact Zox a b t
  ·exact Zox a b _
theorem Z5f {x:UInt8}(h:x≠255):(x+1).toNat=x.toNat+1:=by
 have:=(Zj9 h).1;omega
theorem Zmf {x:UInt8}(h:x≠0):(x-1).toNat+1=x.toNat:=by
 have h1:=(Zj9 (x:=x-1) (Zq8 h)).1;rw[Zur.2] at h1;omega
theorem X8 {x:UInt8}:x.toNat=0↔x=0:=⟨fun h=>UInt8.toNat_inj.1 (by rw[h];rfl),fun h=>by rw[h];rfl⟩
theorem Zb5:∀ (l:List It) (t:List UInt8),Zcu l->t.length=256->ctE t l=0 ->
  (∀ i,((ctV t l)[i]?.getD 0).toNat=(t[i]?.getD 0).toNat+Xh l i)/\(∀ i,Xh l i≠0->t[i]?.getD 0≠0)
 | [],t,_,_,_=>⟨fun i=>by simp[ctV,Xh],fun i h=>absurd rfl h⟩
 | x::l,t,hr,hl,h=>by
  obtain⟨h1,h2⟩:=Zd6 hr;unfold ctE at h;unfold ctV;rcases h1 with h1 | ⟨k,h1,h8,h256⟩
  ·rw[if_pos h1] at h ⊢
   obtain⟨c1,c2⟩:=Zb5 l t h2 hl h;exact⟨fun i=>by rw[c1 i,Zbv h1],fun i hi=>c2 i (by rwa [Zbv h1] at hi)⟩
  ·have e0:¬ x.2.1=0:=by omega
   have ek:x.2.1.toNat=k:=by omega
   rw[if_neg e0,ek] at h;rw[if_neg e0,ek];by_cases hz:t[k]?.getD 0=0
   ·rw[if_pos hz] at h;cases h
   ·by_cases hm:t[k]?.getD 0=255
    ·rw[if_neg hz,if_pos hm] at h;cases h
    ·rw[if_neg hz,if_neg hm] at h
     obtain⟨c1,c2⟩:=Zb5 l (t.set k (t[k]?.getD 0+1)) h2 (by rw[Qu,hl]) h;refine⟨fun i=> ?_,fun i hi=> ?_⟩
     ·rw[c1 i,Zaa h1 h8]
      by_cases e:i=k
      ·subst e
       rw[Zc5 (by omega),Z5f hm,if_pos rfl];omega
      ·rw[Uv e,if_neg e]
       omega
     ·by_cases e:i=k
      ·subst e;exact hz
      ·rw[Zaa h1 h8,if_neg e,Pw] at hi
       have:=c2 i hi
       rwa [Uv e] at this
theorem Zvo {a b:List UInt8}(hl:a.length=b.length) (h:∀ i:Nat,(a[i]?.getD 0).toNat=(b[i]?.getD 0).toNat):a=b:=by
 refine List.ext_getElem hl fun i h1 h2=> ?_
 have:=UInt8.toNat_inj.1 (h i)
 rwa [Qf h1,Qf h2] at this
theorem Z4j {t:List UInt8}{l:List It}(hm:Za9 t=true) (hr:Zcu l) (h:ctE t l=0):Za9 (ctV t l)=true:=by
 have hl:=Yi hm;obtain⟨c1,_⟩:=Zb5 l t hr hl h;refine Zfg (by rw[Zc9,hl]) fun j hj=>X8.1 ?_
 rw[c1 j,Zyl hr (.inl hj),Zji hm hj];rfl
theorem Zum {t:List UInt8}{l:List It}(hl:t.length=256) (hr:Zcu l) (h:ctE t l=0) (i:Nat):(ctV t l)[i]?.getD 0=0↔t[i]?.getD 0=0:=by
 obtain⟨c1,c2⟩:=Zb5 l t hr hl h;rw[<- X8,c1 i,<- X8 (x:=t[i]?.getD 0)];refine⟨fun h=>by omega,fun h=> ?_⟩;by_cases e:Xh l i=0
 ·omega
 ·exact absurd (X8.1 h) (c2 i e)
def ctS (s:Rm) (n:Nd):Rm:=(s.1,ctV s.2.1 n.2,s.2.2)
def mkE (s:Rm) (n:Nd):Int:=if Xz s&&mayN n then (if ctE s.2.1 n.2=0 then tkE (ctS s n) (Ui n) else ctE s.2.1 n.2) else 8
def mkN (s:Rm) (n:Nd):Int:=if mkE s n=0 then tkN (ctS s n) (Ui n) else 0
def mkV (s:Rm) (n:Nd):Rm:=if mkE s n=0 then tkV (ctS s n) (Ui n) else Zn
theorem Zyf {s:Rm}{n:Nd}(h:mkE s n≠0):mkN s n=0/\mkV s n=Zn:=⟨by rw[mkN,if_neg h],by rw[mkV,if_neg h]⟩
theorem Z1w {s:Rm}{n:Nd}(hm:Xz s=true) (hn:mayN n=true) (h:ctE s.2.1 n.2=0):Xz (ctS s n)=true:=by
 obtain⟨m1,m2,m3⟩:=Yq hm;exact Zet m1 (Z4j m2 (Zag hn) h) m3
theorem Zyp {s:Rm}{n:Nd}(hm:Xz s=true) (hn:mayN n=true) (h:ctE s.2.1 n.2=0):Y9 (ctS s n)=Y9 s:=by
 unfold Y9 Zan;refine List.filter_congr fun i _=> ?_
 have:=Zum (Yi (Yq hm).2.1) (Zag hn) h i;show (decide ((ctV s.2.1 n.2)[i]?.getD 0=0)&&_)=(decide (s.2.1[i]?.getD 0=0)&&_);rw[decide_eq_decide.2 this];rfl
theorem Zx6 {s:Rm}{n:Nd}(h:mkE s n=0):Xz s=true/\mayN n=true/\ctE s.2.1 n.2=0/\tkE (ctS s n) (Ui n)=0/\mkN s n=tkN (ctS s n) (Ui n)/\mkV s n=tkV (ctS s n) (Ui n):=by{
 have hN:mkN s n=tkN (ctS s n) (Ui n):=by rw[mkN,if_pos h]
 have hV:mkV s n=tkV (ctS s n) (Ui n):=by rw[mkV,if_pos h]
 unfold mkE at h;cases hm:Xz s with
 | false=>rw[hm] at h;simp at h
 | true =>
  cases hn:mayN n with
  | false=>rw[hm,hn] at h;simp at h
  | true =>
   rw[hm,hn] at h;simp only[Bool.and_self,if_true] at h;by_cases hc:ctE s.2.1 n.2=0
   ·rw[if_pos hc] at h
    exact⟨rfl,rfl,hc,h,hN,hV⟩
   ·rw[if_neg hc] at h
    exact absurd h hc}
theorem U7 {s:Rm}{n:Nd}(h:mkE s n=0):∃ k:Nat,mkN s n=k/\8<=k/\k<256/\s.2.1[k]?.getD 0=0/\s.2.2[k]?.getD 0=0/\Xh n.2 k=0/\mkV s n=(wrD s.1 k (Ui n),(ctV s.2.1 n.2).set k 1,s.2.2)/\Xz (mkV s n)=true /\
  (mkV s n).2.1[k]?.getD 0=1/\(∀ i,i≠k->((mkV s n).2.1[i]?.getD 0).toNat=(s.2.1[i]?.getD 0).toNat+Xh n.2 i)/\(∀ i,Xh n.2 i≠0->s.2.1[i]?.getD 0≠0)/\(mkV s n).2.1.length=256/\s.2.1.length=256:=by{
 obtain⟨hm,hn,hc,ht,e1,e2⟩:=Zx6 h;obtain⟨_,_,_,_,h8,h256,hz,hz2,hN,hV⟩:=Zt0 ht;have hl:=Yi (Yq hm).2.1;have hr:=Zag hn;obtain⟨c1,c2⟩:=Zb5 n.2 s.2.1 hr hl hc;generalize tkK (ctS s n)=k at *;have z1:s.2.1[k]?.getD 0=0:=(Zum hl hr hc k).1 hz;have z2:Xh n.2 k=0:=by
  by_cases e:Xh n.2 k=0
  ·exact e
  ·exact absurd z1 (c2 k e)
 have hV':mkV s n=(wrD s.1 k (Ui n),(ctV s.2.1 n.2).set k 1,s.2.2):=by rw[e2,hV];rfl
 refine⟨k,by rw[e1,hN],h8,h256,z1,hz2,z2,hV',by rw[e2];exact Z45 ht,?_,fun i hi=> ?_,c2,?_,hl⟩
 ·rw[hV'];exact Zc5 (by rw[Zc9];omega)
 ·rw[hV']
  show (((ctV s.2.1 n.2).set k 1)[i]?.getD 0).toNat=_;rw[Uv hi];exact c1 i
 ·rw[hV']
  show ((ctV s.2.1 n.2).set k 1).length=_;rw[Qu,Zc9,hl]}
def dnO (t:List UInt8) (a:Nat):Option (List UInt8):=if t[a]?.getD 0=0 then none else some (t.set a (t[a]?.getD 0-1))
def Zbg (f:List UInt8->Nat->Option (List UInt8)):List UInt8->List It->Option (List UInt8)
 | t,[]=>some t
 | t,x::l=>if x.2.1=0 then Zbg f t l else (f t x.2.1.toNat).bind fun t'=>Zbg f t' l
def lvS (d:Dk) (l:Nat) (f:List UInt8->Nat->Option (List UInt8)) (t:List UInt8) (a:Nat):Option (List UInt8) :=
 (dnO t a).bind fun t'=>if 1<(t[a]?.getD 0).toNat then some t' else if reN (Ya d a)=0/\(reV (Ya d a)).1=(l:Int) then Zbg f t' (reV (Ya d a)).2 else none
def lvF (d:Dk):Nat->List UInt8->Nat->Option (List UInt8)
 | 0=>dnO
 | l+1=>lvS d l (lvF d l)
def lfO (d:Dk) (t:List UInt8) (a:Nat):Option (List UInt8) :=
 (dnO t a).bind fun t'=>if 1<(t[a]?.getD 0).toNat then some t' else if reN (Ya d a)=0 then Zbg (lvF d (reV (Ya d a)).1.toNat) t' (reV (Ya d a)).2 else none
def lvE (s:Rm) (n:Int):Int:=if asE s n=0 then (match lfO s.1 s.2.1 n.toNat with | some _=>0 | none=>8) else asE s n
def lvV (s:Rm) (n:Int):Rm:=if asE s n=0 then (match lfO s.1 s.2.1 n.toNat with | some t=>(s.1,t,s.2.2) | none=>Zn) else Zn
def loV (s:Rm) (n:Int):Rm:=if asE s n=0 then (s.1,s.2.1.set n.toNat (s.2.1[n.toNat]?.getD 0-1),s.2.2) else Zn
structure LeT (u t:List UInt8):Prop where
 len:u.length=t.length
 le:∀ i:Nat,(u[i]?.getD 0).toNat<=(t[i]?.getD 0).toNat
theorem LeT.refl (t:List UInt8):LeT t t:=⟨rfl,fun _=>Qe _⟩
theorem LeT.trans {a b c:List UInt8}(h:LeT a b) (h':LeT b c):LeT a c:=⟨h.len.trans h'.len,fun i=>Qc (h.le i) (h'.le i)⟩
theorem Zcp {t u:List UInt8}{a:Nat}(h:dnO t a=some u):t[a]?.getD 0≠0/\u=t.set a (t[a]?.getD 0-1)/\LeT u t/\(u[a]?.getD 0).toNat+1=(t[a]?.getD 0).toNat:=by{
 unfold dnO at h;by_cases hz:t[a]?.getD 0=0
 ·rw[if_pos hz] at h;cases h
 ·rw[if_neg hz] at h
  cases h;have ha:a<t.length:=by
   by_cases e:a<t.length
   ·exact e
   ·exact absurd (by rw[Pr (by omega)];rfl) hz
  refine⟨hz,rfl,⟨Qu,fun i=> ?_⟩,?_⟩
  ·by_cases e:i=a
   ·subst e
    rw[Zc5 ha];have:=Zmf hz;omega
   ·rw[Uv e]
    exact Qe _
  ·rw[Zc5 ha]
   exact Zmf hz}
theorem Zjd {f:List UInt8->Nat->Option (List UInt8)}(hf:∀ t a u,f t a=some u->LeT u t):∀ (l:List It) (t u:List UInt8),Zbg f t l=some u->LeT u t
 | [],t,u,h=>by cases h;exact LeT.refl _
 | x::l,t,u,h=>by
  unfold Zbg at h;split at h
  ·exact Zjd hf l t u h
  ·cases hx:f t x.2.1.toNat with
   | none=>rw[hx] at h;cases h
   | some v =>
    rw[hx] at h;exact(Zjd hf l v u h).trans (hf _ _ _ hx)
theorem Z4e {d:Dk}{l:Nat}{f:List UInt8->Nat->Option (List UInt8)}(hf:∀ t a u,f t a=some u->LeT u t) (t:List UInt8) (a:Nat) (u:List UInt8) (h:lvS d l f t a=some u):LeT u t:=by{
 unfold lvS at h;cases hd:dnO t a with
 | none=>rw[hd] at h;cases h
 | some v =>
  rw[hd] at h;have h':(if 1<(t[a]?.getD 0).toNat then some v else if reN (Ya d a)=0/\(reV (Ya d a)).1=(l:Int) then Zbg f v (reV (Ya d a)).2 else none)=some u:=h;have hv:=(Zcp hd).2.2.1;split at h'
  ·cases h';exact hv
  ·split at h'
   ·exact(Zjd hf _ _ _ h').trans hv
   ·cases h'}
theorem Zwv (d:Dk):∀ (l:Nat) (t:List UInt8) (a:Nat) (u:List UInt8),lvF d l t a=some u->LeT u t
 | 0,_,_,_,h=>(Zcp h).2.2.1
 | l+1,t,a,u,h=>Z4e (Zwv d l) t a u h
theorem Z2t {d:Dk}{t u:List UInt8}{a:Nat}(h:lfO d t a=some u):t[a]?.getD 0≠0/\LeT u t/\(u[a]?.getD 0).toNat+1<=(t[a]?.getD 0).toNat/\(1<(t[a]?.getD 0).toNat->u=t.set a (t[a]?.getD 0-1)):=by{
 unfold lfO at h;cases hd:dnO t a with
 | none=>rw[hd] at h;cases h
 | some v =>
  rw[hd] at h;have h':(if 1<(t[a]?.getD 0).toNat then some v else if reN (Ya d a)=0 then Zbg (lvF d (reV (Ya d a)).1.toNat) v (reV (Ya d a)).2 else none)=some u:=h;obtain⟨h1,h2,hv,h3⟩:=Zcp hd;split at h'
  ·cases h'
   exact⟨h1,hv,by omega,fun _=>h2⟩
  ·rename_i hn
   split at h'
   ·have:=Zjd (Zwv d _) _ _ _ h'
    have h4:=this.le a;exact⟨h1,this.trans hv,by omega,fun hc=>absurd hc hn⟩
   ·cases h'}
theorem LeT.may {u t:List UInt8}(h:LeT u t) (hm:Za9 t=true):Za9 u=true :=
 Zfg (by rw[h.len];exact Yi hm) fun j hj=>by
  have h1:=h.le j;rw[Zji hm hj] at h1;exact X8.1 (by simpa using h1)
def Z6j (f:List UInt8->Nat->Option (List UInt8)):Prop:=∀ t a,1<(t[a]?.getD 0).toNat->f t a=some (t.set a (t[a]?.getD 0-1))
theorem Zeo {t:List UInt8}{a:Nat}(h:t[a]?.getD 0≠0):dnO t a=some (t.set a (t[a]?.getD 0-1)):=by rw[dnO,if_neg h]
theorem Zi2 {x:UInt8}(h:1<x.toNat):x≠0:=fun e=>by
 rw[X8.2 e] at h;omega
theorem Zo6 (d:Dk):∀ l,Z6j (lvF d l)
 | 0=>fun t a h=>Zeo (Zi2 h)
 | l+1=>fun t a h=>by
  show lvS d l (lvF d l) t a=_;unfold lvS;rw[Zeo (Zi2 h)];show (if 1<(t[a]?.getD 0).toNat then _ else _)=_;rw[if_pos h]
theorem Zgb {f:List UInt8->Nat->Option (List UInt8)}(hf:Z6j f):∀ (l:List It) (u v:List UInt8),Zcu l->u.length=256->v.length=256->(∀ i,(u[i]?.getD 0).toNat=(v[i]?.getD 0).toNat+Xh l i)->(∀ i,Xh l i≠0->v[i]?.getD 0≠0)->Zbg f u l=some v
 | [],u,v,_,h1,h2,h,_=>congrArg some (Zvo (by omega) h)
 | x::l,u,v,hr,h1,h2,h,h'=>by
  obtain⟨r1,r2⟩:=Zd6 hr;unfold Zbg;rcases r1 with r1 | ⟨k,r1,h8,h256⟩
  ·rw[if_pos r1]
   exact Zgb hf l u v r2 h1 h2 (fun i=>by rw[h i,Zbv r1]) (fun i hi=>h' i (by rwa [Zbv r1]))
  ·have e0:¬ x.2.1=0:=by omega
   have ek:x.2.1.toNat=k:=by omega
   have hk:=h k;rw[Zaa r1 h8,if_pos rfl] at hk;have hv:=h' k (by rw[Zaa r1 h8,if_pos rfl];omega);have hv':(v[k]?.getD 0).toNat≠0:=fun e=>hv (X8.1 e)
   have hu:1<(u[k]?.getD 0).toNat:=by omega
   rw[if_neg e0,ek,hf u k hu];show Zbg f (u.set k (u[k]?.getD 0-1)) l=some v;refine Zgb hf l _ v r2 (by rw[Qu,h1]) h2 (fun i=> ?_) (fun i hi=>h' i (by rw[Zaa r1 h8];omega));by_cases e:i=k
   ·subst e
    rw[Zc5 (by omega)];have:=Zmf (Zi2 hu);omega
   ·rw[Uv e,h i,Zaa r1 h8,if_neg e]
    omega
theorem Z28 {d:Dk}{u v:List UInt8}{k:Nat}{n:Nd}(hb:Ya d k=Ui n) (hn:mayN n=true) (hi:InN n) (h1:u.length=256) (h2:v.length=256) (hk:k<256) (hu:u[k]?.getD 0=1) (hv:v[k]?.getD 0=0) (hz:Xh n.2 k=0)
  (h:∀ i,i≠k->(u[i]?.getD 0).toNat=(v[i]?.getD 0).toNat+Xh n.2 i) (h':∀ i,Xh n.2 i≠0->v[i]?.getD 0≠0):lfO d u k=some v:=by{
 obtain⟨r1,r2⟩:=Zb2 hn hi;unfold lfO;rw[Zeo (by rw[hu];decide),hu,hb,r1,r2];show Zbg (lvF d n.1.toNat) (u.set k (1-1)) n.2=some v;refine Zgb (Zo6 d _) n.2 _ v (Zag hn) (by rw[Qu,h1]) h2 (fun i=> ?_) h';by_cases e:i=k
 ·subst e
  rw[Zc5 (by omega),hv,hz];rfl
 ·rw[Uv e,h i e]}
theorem Zh1 {s:Rm}{k:Nat}(hm:Xz s=true) (h8:8<=k) (h:k<256) (hx:s.2.1[k]?.getD 0≠0):asE s k=0:=by
 have hin:=Ztn h8 h;have h1:¬ s.2.1[((k:Int)).toNat]?.getD 0=0:=by
  rw[show ((k:Int)).toNat=k by omega];exact hx
 rw[asE,hm,if_pos rfl,hin,if_pos rfl,if_neg h1]
theorem Z42 {s:Rm}{k:Nat}{v:List UInt8}(ha:asE s k=0) (hf:lfO s.1 s.2.1 k=some v):lvE s k=0/\lvV s k=(s.1,v,s.2.2):=by
 constructor
 ·rw[lvE,if_pos ha,show ((k:Int)).toNat=k by omega,hf]
 ·rw[lvV,if_pos ha,show ((k:Int)).toNat=k by omega,hf]
theorem Zw4 {s:Rm}{k:Nat}{n:Nd}(ha:asE s k=0) (hb:Ya s.1 k=Ui n) (hn:mayN n=true) (hi:InN n):rmE s k=0/\rmV s k=n:=by
 obtain⟨r1,r2⟩:=Zb2 hn hi;constructor
 ·rw[rmE,if_pos ha,show ((k:Int)).toNat=k by omega,hb,r1]
 ·rw[rmV,if_pos ha,show ((k:Int)).toNat=k by omega,hb,r2]
theorem Z2w {s:Rm}{n:Nd}(hi:InN n) (h:mkE s n=0):∃ k:Nat,mkN s n=k/\8<=k/\k<256/\s.2.1[k]?.getD 0=0/\s.2.2[k]?.getD 0=0/\rmE (mkV s n) k=0/\rmV (mkV s n) k=n/\lvE (mkV s n) k=0/\lvV (mkV s n) k=(wrD s.1 k (Ui n),s.2.1,s.2.2):=by
 obtain⟨_,hn,_⟩:=Zx6 h;obtain⟨k,e1,h8,h256,hz,hz2,hc,hV,hm,c1,c2,c3,hl,hl0⟩:=U7 h;have ha:asE (mkV s n) k=0:=Zh1 hm h8 h256 (by rw[c1];decide);have hb:Ya (mkV s n).1 k=Ui n:=by rw[hV];exact U9
 have hf:lfO (mkV s n).1 (mkV s n).2.1 k=some s.2.1:=Z28 (n:=n) hb hn hi hl hl0 h256 c1 hz hc c2 c3;obtain⟨r1,r2⟩:=Zw4 ha hb hn hi;obtain⟨l1,l2⟩:=Z42 ha hf;exact⟨k,e1,h8,h256,hz,hz2,r1,r2,l1,by rw[l2,hV]⟩
theorem Z0l {s:Rm}{l:List It}{i:Nat}{x:It}{r:Nat}{y:UInt8}(hx:l[i]? = some x) (hr:x.2.1=(r:Int)) (h0:r≠0) (hy:s.2.1[r]?.getD 0=y):Y7 s (l.take (i+1))=(Y7 s (l.take i)&&decide (y≠0)):=by
 rw[Zk8 hx,hr];have:¬ ((r:Nat):Int)=0:=by omega
 rw[decide_eq_false this,Bool.false_or,show ((r:Nat):Int).toNat=r by omega,hy]
theorem Zw6 {s:Rm}{l:List It}{i:Nat}{x:It}(hx:l[i]? = some x) (hr:x.2.1=0):Y7 s (l.take (i+1))=Y7 s (l.take i):=by
 rw[Zk8 hx,hr];simp
theorem Zdj {w:Qbe}{A:Option Qbg}{n c:Nat}{xs:List It}{s:It}(h:Zar (Old w) w [.slice A n c] xs) (hk:xs[0]? = some s) :
  ∃ ad E ce,A=some ad/\InI s/\∀ W,Qbm w.heap.size w W->At5 W ad s (.slice E s.2.2.length ce)/\Itm (Old W) W (itV s (.slice E s.2.2.length ce)) s:=by
 obtain⟨ad,E,ce,e,_,_,h1,F⟩:=Ve h hk;have e0:ad.add (0*5)=ad:=by simp[Addr.add]
 rw[e0] at F;exact⟨ad,E,ce,e,h1,F⟩
theorem Z0g (v u:Qbf) (s:Rm) (hm:Xz s=true) (n:Nd) (hn:mayN n=true) (w:Qbe) (h:Sto (Old w) w v s) (hu:Nod (Old w) w u n) :
  Qbk Tryz.prog 174 #[v,u] w fun e w'=>e=.returned (.bool (Y7 s n.2))/\Qbm w.heap.size w w':=by{
 have hrf:=Za (Zag hn);have hls:=Za (Yi (Yq hm).2.1);obtain⟨A,ca,B,cb,N,cn,L,cl,rfl,_⟩:=id h.open;obtain⟨I,ci,rfl,-,-,-,hI⟩:=id hu.open;obtain⟨lw,hlw⟩:∃ q,n.1=q:=⟨_,rfl⟩
 obtain⟨l,hl⟩:∃ q,n.2=q:=⟨_,rfl⟩
 obtain⟨m,hlm⟩:∃ q,l.length=q:=⟨_,rfl⟩
 rw[hl] at hrf;rw[hl,hlm] at hI;rw[hl,hlw,hlm];have hm5:m<=5:=by
  have:=(Z0 hn).1.2.2.1;rw[hl,hlm] at this;exact this
 obtain⟨ad,ld,rfl,rfl,-,-,-,-,had,-,hc⟩:=Zmx hm h.parts.2.1 h.parts.2.2;have HG0:Bag w [Zvj (.slice I m ci) l,Zyi (.agg #[.slice A s.1.1.length ca,.slice B s.1.2.length cb,.slice (some ad) s.2.1.length cn,.slice (some ld) s.2.2.length cl]) s]:=((Bag.nil w).add (F:=Zyi _ s) h (Zcf _ _)).add (F:=Zvj _ l) hI (Zg6 _ _);obtain⟨w0,hw0,hg0,hB0,_,hs0⟩:=Zjl HG0 (Qb _ _) (.slice A s.1.1.length ca) (.slice B s.1.2.length cb) (.slice (some ad) s.2.1.length cn) (.slice (some ld) s.2.2.length cl) 29;obtain⟨w1,hw1,hg1,hB1,_,hs1⟩:=Zfr hg0 (Qb _ _) (.int .i64 lw) (.slice I m ci);have HG:=Za hg1;have BB:=Za (hB0.trans (hB1.mono hB0.size));have cS:Hid (∀ j,j<256->∀ W,Qbm w1.heap.size w1 W->W.cell? (ad.add j)=some (.int .u8 ((s.2.1[j]?.getD 0).toNat:Int))):=Za fun j hj W hW =>
  ((BB.out.trans (hW.mono BB.out.size)).cell (by rw[Zh];exact had)).trans (hc j hj).1
 obtain⟨y0,y1,_⟩:=hg1.at 0 rfl;replace hs1:=Za hs1;replace hs0:=Za hs0;replace hlw:=Za hlw;replace hl:=Za hl;replace hlm:=Za hlm;clear HG0 hg1 hg0 h hu hB1 hB0 hc hI
 go_enter Tryz.func174,Tryz.ntmps174
 go_upto_region 1 with fail
 clear hw1 hw0
 go_wp2_with fail
 clear y0 y1
 go_loopw [10] (fun vi wr=>∃ k:Nat,k<=m/\vi=.int .i64 k/\Y7 s (l.take k)=true/\Qbm w1.heap.size w1 wr) (fun vi _=>m-(intOf vi).toNat)
 case atStart=>exact⟨0,by omega,rfl,rfl,Qb _ _⟩
 case round =>
  obtain⟨k,hk,rfl,hE,hbr⟩:=hrel;have HR:=Za (HG.out.below hbr);have BR:=Za (BB.out.trans (hbr.mono BB.out.size));by_cases hlt:k<m
  case neg =>
   have hf:Hid (Y7 s l=true):=Za (by rw[<- hE,Qh (by rw[hlm.out];omega)]);clear hE hbr
   go_wp2_with fail
   go_ret;exact⟨Yc hf.out.symm,BR.out⟩
  obtain⟨x,hx⟩:∃ x,l[k]? = some x:=⟨_,Qf (by rw[hlm.out];exact hlt)⟩
  have hxr:=hrf.out x (Pe hx);have hIt:Zar (Old wr) wr [.slice I m ci] l:=HR.out.at 2 rfl;obtain⟨a5,E5,ce5,rfl,_,_,_,FX⟩:=Ve hIt hx;obtain⟨⟨z0,z1,z2,z3,z4⟩,_⟩:=FX wr (Qb _ _);obtain⟨w2,hw2,r0,r1,r2,r3,r4,hs2,hB2,_⟩:=Zz wr (.int .u8 (x.1.1.toNat:Int)) (.int .u32 x.1.2.1) (.int .u32 x.1.2.2) (.int .i64 x.2.1) (.slice E5 x.2.2.length ce5) 79;have B2:=Za (hbr.trans (hB2.mono hbr.size));have H2:=Za (HR.out.below hB2);have BF:=Za (BB.out.trans (B2.out.mono BB.out.size));replace hs2:=Za hs2;clear FX hIt hB2
  go_upto_region 4 with fail
  clear hw2 z0 z1 z2 z3 z4;obtain⟨k0,k1,k2,k3,_⟩:=H2.out.at 1 rfl;rw[hls.out] at k2;have i4:(0:Int)<=(k:Int):=by omega
  have i5:(k:Int)<(m:Int):=by omega
  obtain⟨z,hzz⟩:∃ z,x.2.1=z:=⟨_,rfl⟩
  rw[hzz] at r3 hxr;by_cases hz0:z=0
  ·subst hz0
   have hst:Hid (Y7 s (l.take (k+1))=true):=Za (by rw[Zw6 hx hzz,hE]);replace hx:=Za hx;replace hzz:=Za hzz;clear hE hxr;replace hbr:=Za hbr
   go_wp2_with fail
   go_roundw
   case rel=>exact⟨k+1,by omega,by go_num,hst.out,B2.out⟩
   case measure=>simp[intOf];omega
  ·obtain⟨r,hr,r8,r256⟩:∃ r:Nat,z=r/\8<=r/\r<256:=⟨z.toNat,by omega,by omega,by omega⟩
   subst hr;have hcell:=cS.out r r256 w2 B2.out;obtain⟨y,hy⟩:∃ y,s.2.1[r]?.getD 0=y:=⟨_,rfl⟩
   have hst:=Z0l hx hzz (by omega) hy;rw[hE,Bool.true_and] at hst;rw[hy] at hcell;have j0:(0:Int)<=(r:Int):=by omega
   have j1:r<256:=r256;have j2:¬ r=0:=by omega
   replace hbr:=Za hbr;replace hzz:=Za hzz;replace hy:=Za hy;clear hE hxr hz0;by_cases hy0:y=0
   ·have t0:=Xq (y:=0) (q:=0) rfl hy0
    have hf:Hid (Y7 s l=false):=Za (Zx5 (i:=k+1) (by rw[hst];simp[hy0]));replace hx:=Za hx;clear hst hy0
    go_wp2_with fail
    go_ret;exact⟨Yc hf.out.symm,BF.out⟩
   ·have t0:=Y8 (y:=0) (q:=0) rfl hy0
    replace hst:Hid (Y7 s (l.take (k+1))=true):=Za (by rw[hst];simpa using hy0);replace hx:=Za hx;clear hy0
    go_wp2_with fail
    go_roundw
    case rel=>exact⟨k+1,by omega,by go_num,hst.out,B2.out⟩
    case measure=>simp[intOf];omega}
structure Zbl (s t:Rm):Prop where
 may:Xz t=true
 held:∀ k:Nat,s.2.1[k]?.getD 0≠0->t.2.1[k]?.getD 0≠0
 seen:∀ k:Nat,s.2.1[k]?.getD 0≠0->Ya t.1 k=Ya s.1 k
theorem Zf2 {s t:Rm}(h:Zbl s t){a:Int}(ha:asE s a=0):asE t a=0/\rmE t a=rmE s a/\rmV t a=rmV s a:=by
 obtain⟨k,rfl,hm,h8,h256,_,_,hE,hV,hx⟩:=Vh ha;have ht:asE t (k:Int)=0:=Zh1 h.may h8 h256 (h.held k hx);refine⟨ht,?_,?_⟩
 ·rw[hE,rmE,if_pos ht,show ((k:Int)).toNat=k by omega,h.seen k hx]
 ·rw[hV,rmV,if_pos ht,show ((k:Int)).toNat=k by omega,h.seen k hx]
theorem Zls {s t:Rm}(h:Zbl s t){l:List It}(hl:Y7 s l=true):Y7 t l=true:=by
 unfold Y7 at hl ⊢;rw[Qv] at hl ⊢;intro x hx;have h1:=hl x hx;simp only[Qat,decide_eq_true_eq] at h1 ⊢;exact h1.imp id (h.held _)
theorem Zea {f g:Int->Ky->Ky->Bool->Bool}(h:∀ a k tb e,f a k tb e=true->g a k tb e=true):∀ (l:List It) (tb:Ky) (e:Bool),Zbq f l tb e=true->Zbq g l tb e=true
 | [],_,_,_=>rfl
 | x::r,tb,e,hf=>by
  rw[Zaf,Qi] at hf ⊢;exact⟨h _ _ _ _ hf.1,Zea h r tb e hf.2⟩
theorem U0 {f:Int->Ky->Ky->Bool->Bool}:∀ {l:List It}{tb:Ky}{e:Bool},Zbq f l tb e=true->∀ x∈l,∃ t e,f x.2.1 x.1 t e=true
 | [],_,_,_,x,hx=>by simp at hx
 | y::r,tb,e,hf,x,hx=>by
  rw[Zaf,Qi] at hf;rcases Qm.1 hx with rfl | hx
  ·exact⟨_,_,hf.1⟩
  ·exact U0 hf.2 x hx
theorem U5 {g g':Int->List It}:∀ {l:List It},(∀ x∈l,g x.2.1=g' x.2.1)->l.flatMap (fun x=>g x.2.1)=l.flatMap fun x=>g' x.2.1
 | [],_=>rfl
 | x::r,h=>by
  rw[Qr,Qr,h x Qy,U5 fun y hy=>h y (Qs _ hy)]
theorem Yu {s t:Rm}(h:Zbl s t):∀ (l:Nat) (a:Int) (k tb:Ky) (e:Bool),Yx s l a k tb e=true->Yx t l a k tb e=true/\Uh t l a=Uh s l a/\∀ q,Zz6 t l a q=Zz6 s l a q
 | 0,a,k,tb,e,hr=>by
  obtain⟨h1,h2,h3,h4⟩:=Xw hr;obtain⟨_,k1,k2⟩:=Zf2 h (Xf h1).2;refine⟨?_,by unfold Uh;rw[k2],fun q=>by unfold Zz6;rw[k2]⟩;unfold Yx;rw[k1,k2,h1,h2,h3,Zls h h4];rfl
 | l+1,a,k,tb,e,hr=>by
  obtain⟨h1,h2,h3,h4⟩:=Xw hr;obtain⟨_,k1,k2⟩:=Zf2 h (Xf h1).2;have hm:=U0 h4;refine⟨?_,?_,fun q=> ?_⟩
  ·unfold Yx
   rw[k1,k2,h1,h2,h3,Zea (fun a k tb e hf=>(Yu h l a k tb e hf).1) _ _ _ h4];simp
  ·unfold Uh
   rw[k2];exact U5 fun x hx=>by
    obtain⟨t',e',hf⟩:=hm x hx;exact(Yu h l _ _ _ _ hf).2.1
  ·unfold Zz6
   rw[k2];cases hf:(rmV s a).2.reverse.find? (fun x => !Zr q x.1) with
   | none=>rfl
   | some y =>
    obtain⟨t',e',hf'⟩:=hm y (Qan.1 (List.mem_of_find?_eq_some hf));exact(Yu h l _ _ _ _ hf').2.2 q
def Yr (g:Int->Option (Ky×Ky)):List It->Option (Ky×Ky)
 | []=>none
 | [x]=>(g x.2.1).bind fun p=>if p.1=x.1 then some p else none
 | x::y::r=>(g x.2.1).bind fun p=>(Yr g (y::r)).bind fun q=>if p.1=x.1/\Zr p.2 y.1=true then some (p.1,q.2) else none
def Uz (s:Rm):Nat->Int->Option (Ky×Ky)
 | 0,a=>if rmE s a=0/\(rmV s a).1=0/\Y7 s (rmV s a).2=true then ((rmV s a).2[0]?).bind fun x=>((rmV s a).2.getLast?).map fun y=>(x.1,y.1) else none
 | l+1,a=>if rmE s a=0/\(rmV s a).1=((l+1:Nat):Int) then Yr (Uz s l) (rmV s a).2 else none
def LeK (a b:Ky):Prop:=a=b\/Zr a b=true
theorem LeK.lt {a b c:Ky}(h:LeK a b) (h':Zr b c=true):Zr a c=true:=h.elim (fun e=>by rw[e];exact h') fun h=>Yz h h'
theorem LeK.trans {a b c:Ky}(h:LeK a b) (h':LeK b c):LeK a c:=h'.elim (fun e=>e ▸ h) fun h'=>.inr (h.lt h')
theorem Zab {g:Int->Option (Ky×Ky)}(hg:∀ a p,g a=some p->LeK p.1 p.2):∀ {l:List It}{p:Ky×Ky},Yr g l=some p->LeK p.1 p.2/\∃ x r,l=x::r/\p.1=x.1
 | [],_,h=>by cases h
 | [x],p,h=>by
  unfold Yr at h;cases hx:g x.2.1 with
  | none=>rw[hx] at h;cases h
  | some q =>
   rw[hx] at h;have h':(if q.1=x.1 then some q else none)=some p:=h;split at h'
   ·rename_i e
    cases h';exact⟨hg _ _ hx,x,[],rfl,e⟩
   ·cases h'
 | x::y::r,p,h=>by
  unfold Yr at h;cases hx:g x.2.1 with
  | none=>rw[hx] at h;cases h
  | some q =>
   rw[hx] at h;cases hc:Yr g (y::r) with
   | none=>rw[hc] at h;cases h
   | some q' =>
    rw[hc] at h;have h':(if q.1=x.1/\Zr q.2 y.1=true then some (q.1,q'.2) else none)=some p:=h;obtain⟨i1,y',r',e',i2⟩:=Zab hg hc;cases e';split at h'
    ·rename_i e
     cases h';refine⟨.inr ?_,x,y::r,rfl,e.1⟩;have h1:Zr q.1 y.1=true:=(hg _ _ hx).lt e.2;rw[<- i2] at h1;exact i1.elim (fun e=>e ▸ h1) fun h2=>Yz h1 h2
    ·cases h'
theorem Zdd (s:Rm):∀ (l:Nat) (a:Int) (p:Ky×Ky),Uz s l a=some p->LeK p.1 p.2
 | 0,a,p,h=>by
  unfold Uz at h;split at h
  ·rename_i hc
   have hu:=Za3 (Xf hc.1).1;cases hl:(rmV s a).2 with
   | nil=>rw[hl] at h;cases h
   | cons x r =>
    rw[hl] at h hu;cases hz:(x::r).getLast? with
    | none=>rw[hz] at h;cases h
    | some z =>
     rw[hz] at h;cases h;rcases Zjm hu z (Px hz) with e | e
     ·exact .inl e.symm
     ·exact .inr e
  ·cases h
 | l+1,a,p,h=>by
  unfold Uz at h;split at h
  ·exact(Zab (Zdd s l) h).1
  ·cases h
theorem Zdx {f:Int->Ky->Ky->Bool->Bool}{g:Int->Option (Ky×Ky)}(hle:∀ a p,g a=some p->LeK p.1 p.2) (hfg:∀ a k tb e,f a k tb e=true↔∃ t,g a=some (k,t)/\(e=true->Zr t tb=true)):∀ (l:List It) (tb:Ky) (e:Bool),l≠[] ->
  (Zbq f l tb e=true↔∃ p,Yr g l=some p/\(e=true->Zr p.2 tb=true))
 | [],_,_,h=>absurd rfl h
 | [x],tb,e,_=>by
  show f x.2.1 x.1 tb e=true↔_;rw[hfg];unfold Yr;constructor
  ·rintro⟨t,h1,h2⟩
   exact⟨(x.1,t),by rw[h1];simp,h2⟩
  ·rintro⟨p,h1,h2⟩
   cases hx:g x.2.1 with
   | none=>rw[hx] at h1;cases h1
   | some q =>
    rw[hx] at h1;have h':(if q.1=x.1 then some q else none)=some p:=h1;split at h'
    ·rename_i e1
     cases h';exact⟨p.2,by rw[<- e1],h2⟩
    ·cases h'
 | x::y::r,tb,e,_=>by
  have ih:=Zdx hle hfg (y::r) tb e (by simp);show (f x.2.1 x.1 y.1 true&&Zbq f (y::r) tb e)=true↔_;rw[Qi,hfg,ih];constructor
  ·rintro⟨⟨t,h1,h2⟩,p,h3,h4⟩
   refine⟨(x.1,p.2),?_,h4⟩;unfold Yr;rw[h1,h3];simp[h2 rfl]
  ·rintro⟨p,h1,h2⟩
   unfold Yr at h1;cases hx:g x.2.1 with
   | none=>rw[hx] at h1;cases h1
   | some q =>
    rw[hx] at h1;cases hc:Yr g (y::r) with
    | none=>rw[hc] at h1;cases h1
    | some q' =>
     rw[hc] at h1;have h':(if q.1=x.1/\Zr q.2 y.1=true then some (q.1,q'.2) else none)=some p:=h1;split at h'
     ·rename_i e1
      cases h';exact⟨⟨q.2,by rw[<- e1.1],fun _=>e1.2⟩,q',rfl,h2⟩
     ·cases h'
theorem Zev (s:Rm):∀ (l:Nat) (a:Int) (k tb:Ky) (e:Bool),Yx s l a k tb e=true↔∃ t,Uz s l a=some (k,t)/\(e=true->Zr t tb=true)
 | 0,a,k,tb,e=>by
  constructor
  ·intro h
   obtain⟨h1,h2,h3,h4⟩:=Xw h;obtain⟨x,r,hl,ek,hz⟩:=Zb0 h3;obtain⟨z,hz1⟩:∃ z,(rmV s a).2.getLast? = some z:=by
    rw[hl];exact⟨_,Qau (by simp)⟩
   refine⟨z.1,?_,fun he=> ?_⟩
   ·unfold Uz
    rw[if_pos ⟨h1,h2,h4⟩,hz1,show (rmV s a).2[0]? = some x by rw[hl];rfl,<- ek];rfl
   ·obtain⟨z',e1,e2⟩:=hz he
    rw[hz1] at e1;cases e1;exact e2
  ·rintro⟨t,h1,h2⟩
   unfold Uz at h1;split at h1
   ·rename_i hc
    unfold Yx;cases hx:(rmV s a).2[0]? with
    | none=>rw[hx] at h1;cases h1
    | some x =>
     cases hz:(rmV s a).2.getLast? with
     | none=>rw[hx,hz] at h1;cases h1
     | some z =>
      rw[hx,hz] at h1;have h1':(some (x.1,z.1):Option (Ky×Ky))=some (k,t):=h1;simp only[Option.some.injEq,Prod.mk.injEq] at h1';have hh:Zfb (rmV s a).2 k tb e=true:=by
       unfold Zfb;rw[hx,hz];cases e with
       | false=>simp[h1'.1]
       | true=>simp[h1'.1,h1'.2,h2 rfl]
      rw[hc.1,hc.2.1,hc.2.2,hh]
      decide
   ·cases h1
 | l+1,a,k,tb,e=>by
  have hc:=Zdx (Zdd s l) (fun a k tb e=>Zev s l a k tb e) (rmV s a).2 tb e;constructor
  ·intro h
   obtain⟨h1,h2,h3,h4⟩:=Xw h;obtain⟨x,r,hl,ek,_⟩:=Zb0 h3;obtain⟨p,hp,hb⟩:=(hc (by rw[hl];simp)).1 h4;obtain⟨_,x',r',e',hf⟩:=Zab (Zdd s l) hp;rw[hl] at e';cases e';refine⟨p.2,?_,hb⟩;unfold Uz;rw[if_pos ⟨h1,h2⟩,hp,<- ek,<- hf]
  ·rintro⟨t,h1,h2⟩
   unfold Uz at h1;split at h1
   ·rename_i hcond
    obtain⟨_,x,r,hl,hf⟩:=Zab (Zdd s l) h1;have hi:=(hc (by rw[hl];simp)).2 ⟨(k,t),h1,h2⟩;have hh:Zfb (rmV s a).2 k tb e=true:=by
     cases e with
     | false =>
      unfold Zfb;rw[hl];simp[<- hf]
     | true =>
      obtain⟨x',r',e',hp⟩:=Zbi (Xg s l) (rmV s a).2 tb true (by rw[hl];simp) hi;obtain⟨z,hz1⟩:∃ z,(rmV s a).2.getLast? = some z:=by
       rw[hl];exact⟨_,Qau (by simp)⟩
      obtain⟨t',e2,hf2⟩:=U0 hi z (Px hz1);obtain⟨y,r2,ey,ky⟩:=(Xg s l _ _ _ _ hf2).first;have hy:=hp.bound rfl y (Py.2 ⟨z,Px hz1,by rw[ey];simp⟩);rw[ky] at hy;unfold Zfb;rw[hz1,show (rmV s a).2[0]? = some x by rw[hl];rfl];simp[<- hf,hy]
    unfold Yx;rw[hcond.1,hcond.2,hh,hi];simp
   ·cases h1
theorem Zww (s:Rm) (a:Int):Ue s a=true↔rmE s a=0/\(match (rmV s a).1.toNat with | 0=>Y7 s (rmV s a).2=true | l+1=>∃ p,Yr (Uz s l) (rmV s a).2=some p):=by{
 constructor
 ·intro h
  obtain⟨h1,_,hm,l0,_,hi⟩:=Zak h;refine⟨h1,?_⟩;unfold Ze1 at hi;cases hl:(rmV s a).1.toNat with
  | zero=>rw[hl] at hi;exact hi
  | succ l =>
   rw[hl] at hi;have hne:(rmV s a).2≠[]:=fun e=>by
    have:=(Z0 hm).1.2.2.2 (by omega);rw[e] at this;simp at this
   obtain⟨p,hp,_⟩:=(Zdx (Zdd s l) (fun a k tb e=>Zev s l a k tb e) _ Zed false hne).1 hi;exact⟨p,hp⟩
 ·rintro⟨h1,h2⟩
  unfold Ue;rw[h1];unfold Ze1;cases hl:(rmV s a).1.toNat with
  | zero=>rw[hl] at h2;simp only[h2];rfl
  | succ l =>
   rw[hl] at h2;obtain⟨p,hp⟩:=h2;obtain⟨_,x,r,e,_⟩:=Zab (Zdd s l) hp;have:=(Zdx (Zdd s l) (fun a k tb e=>Zev s l a k tb e) (rmV s a).2 Zed false (by rw[e];simp)).2 ⟨p,hp,fun h=>by cases h⟩;simp only[this];rfl}
theorem Zxt {p:It->Bool}{l:List It}{k:Nat}{x:It}(hx:l[k]? = some x):(l.take (k+1)).reverse.find? p=if p x=true then some x else (l.take k).reverse.find? p:=by
 have hk:=(Qg.1 hx).1;have hg:l[k]=x:=(Qg.1 hx).2;rw[<- Qt hk,hg,Qav,List.reverse_singleton,List.singleton_append,Qam];cases p x <;> rfl
theorem Z1b {p:It->Bool}{l:List It}{j:Nat}{x:It}(hx:l[j]? = some x) (h1:p x=true) (h2:∀ i y,j<i->l[i]? = some y->p y=false):l.reverse.find? p=some x:=by{
 have e:l.reverse.find? p=(l.take (j+1)).reverse.find? p:=by
  conv=>lhs;rw[<- Q9 (j+1) l,Qav,Qal]
  rw[Zgv (l:=l.drop (j+1)) fun y hy=>by
   obtain⟨i,hi⟩:=Pv hy;rw[Q6] at hi
   exact h2 (j+1+i) y (by omega) hi]
  rfl
 rw[e,Zxt hx,if_pos h1]}
theorem Zc6 {n:Nd}(h:mayN n=true){k:Ky}{x:It}(ht:Y3 n k=true) (hx:n.2[Z4 n k]? = some x):x.1=k/\(n.2.reverse.find? fun x => !Zr k x.1)=some x/\(n.2.reverse.find? fun x=>decide (x.1=k))=some x:=by{
 have e:x.1=k:=by
  rw[Zf7 hx] at ht
  simpa using ht
 have hup:∀ i y,Z4 n k<i->n.2[i]? = some y->Zr k y.1=true:=fun i y hi hy=>by
  rw[<- e];exact Ur h hi hx hy
 refine⟨e,Z1b hx (by rw[e,Xe];rfl) fun i y hi hy=>by rw[hup i y hi hy];rfl,Z1b hx (by simpa using e) fun i y hi hy=> ?_⟩;have h1:=hup i y hi hy;have:y.1≠k:=fun e2=>by rw[e2,Xe] at h1;cases h1
 simpa using this}
theorem Zez {n:Nd}(h:mayN n=true){k:Ky}(ht:Y3 n k=false){i:Nat}{y:It}(hi:Z4 n k<=i) (hy:n.2[i]? = some y):Zr k y.1=true:=by
 have h1:=U6 h (k:=k) hy;rw[decide_eq_false (by omega)] at h1;have hne:y.1≠k:=fun e=>by
  have:=(Zut h hy).2;rw[e,ht] at this;cases this
 exact Za5 hne h1
theorem Zfn {n:Nd}{k:Ky}(ht:Y3 n k=true):Z4 n k<n.2.length:=by{
 rcases Pu (Z4 n k) n.2.length with h | h
 ·exact h
 ·rw[Zin h] at ht
  cases ht}
structure AtT (s:Rm) (l:Nat) (a:Int):Prop where
 ok:rmE s a=0
 lvl:(rmV s a).1=(l:Int)
 below:∀ j,l=j+1->∀ x∈(rmV s a).2,∃ t e,Yx s j x.2.1 x.1 t e=true
theorem AtT.may {s:Rm}{l:Nat}{a:Int}(h:AtT s l a):mayN (rmV s a)=true:=(Xf h.ok).1
theorem Zzz {s:Rm}{l:Nat}{a:Int}{k tb:Ky}{e:Bool}(h:Yx s l a k tb e=true):AtT s l a:=by
 obtain⟨h1,h2,_,h4⟩:=Xw h;refine⟨h1,h2,fun j hj x hx=> ?_⟩;subst hj;exact U0 h4 x hx
theorem AtT.down {s:Rm}{j:Nat}{a:Int}(h:AtT s (j+1) a){x:It}(hx:x∈(rmV s a).2):AtT s j x.2.1:=by
 obtain⟨t,e,hr⟩:=h.below j rfl x hx;exact Zzz hr
theorem Znf {s:Rm}{a:Int}(h:Ue s a=true):AtT s (rmV s a).1.toNat a:=by
 obtain⟨h1,_,_,l0,_,hi⟩:=Zak h;refine⟨h1,by omega,fun j hj x hx=> ?_⟩;unfold Ze1 at hi;rw[hj] at hi;exact U0 hi x hx
def Zbk (s:Rm) (n:Nd):Option (Ky×Ky):=match n.1.toNat with
 | 0=>if Y7 s n.2=true then (n.2[0]?).bind fun x=>(n.2.getLast?).map fun y=>(x.1,y.1) else none
 | l+1=>Yr (Uz s l) n.2
theorem Zll (s:Rm) (l:Nat) (a:Int):Uz s l a=if rmE s a=0/\(rmV s a).1=(l:Int) then Zbk s (rmV s a) else none:=by{
 cases l with
 | zero =>
  unfold Uz;by_cases h1:rmE s a=0/\(rmV s a).1=((0:Nat):Int)
  ·rw[if_pos h1]
   unfold Zbk;rw[h1.2];by_cases h2:Y7 s (rmV s a).2=true
   ·rw[if_pos ⟨h1.1,rfl,h2⟩]
    show _=if Y7 s (rmV s a).2=true then _ else none
    rw[if_pos h2]
   ·rw[if_neg (fun h=>h2 h.2.2)]
    show _=if Y7 s (rmV s a).2=true then _ else none
    rw[if_neg h2]
  ·rw[if_neg h1,if_neg (fun h=>h1 ⟨h.1,h.2.1⟩)]
 | succ l =>
  unfold Uz;by_cases h1:rmE s a=0/\(rmV s a).1=((l+1:Nat):Int)
  ·rw[if_pos h1,if_pos h1]
   unfold Zbk;rw[h1.2,show ((l+1:Nat):Int).toNat=l+1 by omega]
  ·rw[if_neg h1,if_neg h1]}
theorem Zla {s:Rm}{n:Nd}{x y:It}{j:Nat}(h:n.1=0) (hx:n.2[0]? = some x) (hj:n.2.length=j+1) (hy:n.2[j]? = some y):Zbk s n=if Y7 s n.2=true then some (x.1,y.1) else none:=by
 have hl:n.2.getLast? = some y:=by rw[List.getLast?_eq_getElem?,hj];exact hy
 unfold Zbk;rw[h];show (if Y7 s n.2=true then _ else none)=_;rw[hx,hl];rfl
theorem Zl1 {s:Rm}{n:Nd}{l:Nat}(h:n.1=((l+1:Nat):Int)):Zbk s n=Yr (Uz s l) n.2:=by
 unfold Zbk;rw[h,show ((l+1:Nat):Int).toNat=l+1 by omega]
theorem Zd4 {g:Int->Option (Ky×Ky)}{l:List It}{x:It}(hx:l[0]? = some x):Yr g (l.take 1)=(g x.2.1).bind fun p=>if p.1=x.1 then some p else none:=by{
 cases l with
 | nil=>cases hx
 | cons y r =>
  cases hx;rfl}
theorem Zmq {g:Int->Option (Ky×Ky)}(x:It):∀ (l:List It),l≠[]->Yr g (l++[x])=(Yr g l).bind fun q=>(g x.2.1).bind fun p=>if p.1=x.1/\Zr q.2 x.1=true then some (q.1,p.2) else none
 | [],h=>absurd rfl h
 | [y],_=>by
  show (g y.2.1).bind _=_;unfold Yr;cases g y.2.1 with
  | none=>rfl
  | some p =>
   show ((Yr g [x]).bind _)=((if p.1=y.1 then some p else none):Option (Ky×Ky)).bind _;unfold Yr;cases g x.2.1 with
   | none =>
    by_cases h1:p.1=y.1 <;> simp[h1]
   | some q =>
    by_cases h1:p.1=y.1 <;> by_cases h2:q.1=x.1 <;> by_cases h3:Zr p.2 x.1=true <;> simp[h1,h2,h3]
 | y::z::r,_=>by
  have ih:=Zmq (g:=g) x (z::r) (by simp);show (g y.2.1).bind (fun p=>(Yr g (z::r++[x])).bind _)=_;rw[ih]
  conv=>rhs;unfold Yr
  cases g y.2.1 with
  | none=>rfl
  | some p =>
   cases Yr g (z::r) with
   | none=>rfl
   | some q =>
    cases g x.2.1 with
    | none =>
     by_cases h1:p.1=y.1/\Zr p.2 z.1=true <;> simp[h1]
    | some q' =>
     by_cases h1:p.1=y.1/\Zr p.2 z.1=true <;> by_cases h2:q'.1=x.1/\Zr q.2 x.1=true <;> simp[h1,h2]
theorem Uq {g:Int->Option (Ky×Ky)}{l:List It}{k:Nat}{x:It}(hx:l[k]? = some x) (hk:0<k):Yr g (l.take (k+1))=(Yr g (l.take k)).bind fun q=>(g x.2.1).bind fun p=>if p.1=x.1/\Zr q.2 x.1=true then some (q.1,p.2) else none:=by
 have hl:=(Qg.1 hx).1;have hg:l[k]=x:=(Qg.1 hx).2;rw[<- Qt hl,hg];exact Zmq x _ fun e=>by
  have h0:(l.take k).length=0:=by rw[e];rfl
  rw[Qo] at h0;omega
theorem Zge {g:Int->Option (Ky×Ky)}{l:List It}:∀ {k:Nat},0<k->Yr g (l.take k)=none->Yr g l=none:=fun {k} hk h=>by
 induction hn:l.length-k generalizing k with
 | zero=>rwa [Qh (by omega)] at h
 | succ n ih =>
  obtain⟨x,hx⟩:∃ x,l[k]? = some x:=⟨_,Qf (by omega)⟩
  exact ih (k:=k+1) (by omega) (by rw[Uq hx hk,h];rfl) (by omega)
theorem Ztg {g:Int->Option (Ky×Ky)}{l:List It}{x:It}(hx:l[0]? = some x):∀ {k:Nat}{q:Ky×Ky},0<k->k<=l.length->Yr g (l.take k)=some q->q.1=x.1:=fun {k} {q} hk hl h=>by
 induction k generalizing q with
 | zero=>omega
 | succ k ih =>
  by_cases h0:k=0
  ·subst h0
   rw[Zd4 hx] at h;cases hg:g x.2.1 with
   | none=>rw[hg] at h;cases h
   | some p =>
    rw[hg] at h;have h':(if p.1=x.1 then some p else none)=some q:=h;split at h'
    ·rename_i e;cases h';exact e
    ·cases h'
  ·obtain⟨y,hy⟩:∃ y,l[k]? = some y:=⟨_,Qf (by omega)⟩
   rw[Uq hy (by omega)] at h;cases hc:Yr g (l.take k) with
   | none=>rw[hc] at h;cases h
   | some q' =>
    have e:=ih (by omega) (by omega) hc;rw[hc] at h;cases hg:g y.2.1 with
    | none=>rw[hg] at h;cases h
    | some p =>
     rw[hg] at h;have h':(if p.1=y.1/\Zr q'.2 y.1=true then some (q'.1,p.2) else none)=some q:=h;split at h'
     ·cases h';exact e
     ·cases h'
def Zba (s:Rm) (n:Nd):Bool:=decide (n.2.length=0)||(Zbk s n).isSome
theorem Zng {s:Rm}{a:Int}(h:rmE s a=0):Zba s (rmV s a)=Ue s a:=by{
 have hm:=(Xf h).1;have hsh:=(Z0 hm).1;have e:Ue s a=true↔Zba s (rmV s a)=true:=by
  rw[Zww];unfold Zba;rw[Qat,decide_eq_true_eq];cases hl:(rmV s a).1.toNat with
  | zero =>
   have h0:(rmV s a).1=0:=by omega
   simp only;by_cases hz:(rmV s a).2.length=0
   ·have:(rmV s a).2=[]:=Qaw hz
    rw[this];simp[h,Y7]
   ·obtain⟨j,hj⟩:∃ j,(rmV s a).2.length=j+1:=⟨(rmV s a).2.length-1,by omega⟩
    obtain⟨x,hx⟩:∃ x,(rmV s a).2[0]? = some x:=⟨_,Qf (by omega)⟩
    obtain⟨y,hy⟩:∃ y,(rmV s a).2[j]? = some y:=⟨_,Qf (by omega)⟩
    rw[Zla h0 hx hj hy];by_cases h2:Y7 s (rmV s a).2=true <;> simp[h,h2,hz]
  | succ l =>
   have h1:(rmV s a).1=((l+1:Nat):Int):=by omega
   have hz:¬ (rmV s a).2.length=0:=by have:=hsh.2.2.2 (by omega);omega
   rw[Zl1 h1];simp only;constructor
   ·rintro⟨_,p,hp⟩
    rw[hp];exact .inr rfl
   ·rintro(h3 | h3)
    ·exact absurd h3 hz
    ·exact⟨h,Option.isSome_iff_exists.1 h3⟩
 cases h1:Ue s a with
 | true=>exact e.1 h1
 | false =>
  cases h2:Zba s (rmV s a) with
  | false=>rfl
  | true=>rw[e.2 h2] at h1;cases h1}
def StC (g:Int->Option (Ky×Ky)) (l:List It) (k:Nat) (t:Ky):Prop:=k=0\/∃ f,Yr g (l.take k)=some (f,t)
section
variable {g : Int -> Option (Ky × Ky)}{l : List It}{k : Nat}{x : It}{p : Ky × Ky}{t : Ky}
theorem Zvs (hx:l[k]? = some x) (h:g x.2.1=none):Yr g l=none:=by{
 refine Zge (k:=k+1) (by omega) ?_;by_cases h0:k=0
 ·subst h0
  rw[Zd4 hx,h];rfl
 ·rw[Uq hx (by omega),h]
  cases Yr g (l.take k) <;> rfl}
theorem Zud (hx:l[k]? = some x) (h:g x.2.1=some p) (hp:p.1≠x.1):Yr g l=none:=by{
 refine Zge (k:=k+1) (by omega) ?_;by_cases h0:k=0
 ·subst h0
  rw[Zd4 hx,h];simp[hp]
 ·rw[Uq hx (by omega),h]
  cases Yr g (l.take k) <;> simp[hp]}
theorem Zwn (hx:l[k]? = some x) (h0:k≠0) (hs:StC g l k t) (hl:Zr t x.1=false):Yr g l=none:=by
 rcases hs with hs | ⟨f,hs⟩
 ·exact absurd hs h0
 refine Zge (k:=k+1) (by omega) ?_;rw[Uq hx (by omega),hs];cases g x.2.1 <;> simp[hl]
theorem Zs8 (hx:l[k]? = some x) (hs:StC g l k t) (hl:k≠0->Zr t x.1=true) (h:g x.2.1=some p) (hp:p.1=x.1):StC g l (k+1) p.2:=by{
 refine .inr ?_;by_cases h0:k=0
 ·subst h0
  rw[Zd4 hx,h]
  exact⟨p.1,by
   show (if p.1=x.1 then some p else none)=some (p.1,p.2)
   rw[if_pos hp]⟩
 ·rcases hs with hs | ⟨f,hs⟩
  ·exact absurd hs h0
  rw[Uq hx (by omega),hs,h];exact⟨f,by simp[hp,hl h0]⟩}
end
theorem Zrw {s:Rm}{n:Nd}(h:n.2.length=0):Zbk s n=none:=by
 have e:n.2=[]:=Qaw h;unfold Zbk;rw[e];cases n.1.toNat with
 | zero=>simp[Y7]
 | succ l=>rfl
theorem Z12 {s:Rm}{l:Nat}{a:Int}(h:¬ (rmE s a=0/\(rmV s a).1=(l:Int)/\(rmV s a).2.length≠0)):Uz s l a=none:=by{
 rw[Zll];by_cases h1:rmE s a=0/\(rmV s a).1=(l:Int)
 ·rw[if_pos h1]
  by_cases h2:(rmV s a).2.length=0
  ·exact Zrw h2
  ·exact absurd ⟨h1.1,h1.2,h2⟩ h
 ·rw[if_neg h1]}
theorem Zxv {s:Rm}{l:Nat}{a:Int}(h1:rmE s a=0) (h2:(rmV s a).1=(l:Int)):Uz s l a=Zbk s (rmV s a):=by
 rw[Zll,if_pos ⟨h1,h2⟩]
theorem Zz9 {d:Dk}{k:Nat}(hm:Zap d=true) (hk:k<256):(Ya d k).length=128:=by
 obtain⟨h1,_,h3,h4⟩:=Zg0 hm;unfold Ya;have e:d.1[k]? = some (d.1[k]'(by omega)):=Qf _;refine Zey (h3 k _ (by rw[e];rfl)) fun x hx=> ?_
 obtain⟨i,hi⟩:=Pv hx;exact(h4 i x hi).2.2
theorem Yl {W:Qbe}{g:Nat}{a b c a' b' c':Qbf}{t:Qbh}(h:W.heap[g]? = some (.cells #[a,b,c] t (0,0))):∃ W1,((W.setCell ⟨g,0,none⟩ a').setCell ⟨g,1,none⟩ b').setCell ⟨g,2,none⟩ c'=W1 /\
  W1.heap[g]? = some (.cells #[a',b',c'] t (0,0))/\W.grownBy W1 (some g)/\W1.heap.size=W.heap.size :=
 ⟨_,rfl,by simp[Qar,Qas,h],Zp (p:=⟨g,2,none⟩) (Zp (p:=⟨g,1,none⟩) (Zp (p:=⟨g,0,none⟩) (Ye W (some g)) rfl a') rfl b') rfl c',by simp⟩
theorem Zk {W:Qbe}{g:Nat}{a b c:Qbf}{t:Qbh}(h:W.heap[g]? = some (.cells #[a,b,c] t (0,0))):W.cell? ⟨g,0,none⟩=some a/\W.cell? ⟨g,1,none⟩=some b/\W.cell? ⟨g,2,none⟩=some c/\(∀ o,W.frozen? ⟨g,o,none⟩=false)/\g<W.heap.size :=
 ⟨by simp[Qx,h],by simp[Qx,h],by simp[Qx,h],fun o=>by simp[Pa,h],(Qa.1 h).1⟩
theorem Zib (v:Qbf) (s:Rm) (a:Int) (w:Qbe) (h:Sto (Old w) w v s) :
  Qbk Tryz.prog 23 #[v,.int .i64 a] w fun e w'=>∃ Z zc,e=.returned (.tuple #[.agg #[.int .i64 (rmV s a).1,.slice Z (rmV s a).2.length zc],.int .i64 (rmE s a)])/\Zar (Old w') w' [.slice Z (rmV s a).2.length zc] (rmV s a).2 /\
   Nod (New w.heap.size w') w' (.agg #[.int .i64 (rmV s a).1,.slice Z (rmV s a).2.length zc]) (rmV s a)/\Qbm w.heap.size w w':=by
 refine(Zgp v s a w h).mono ?_;rintro e w' ⟨u,rfl,hu,hb'⟩;have hu2:=hu;obtain⟨Z,zc,rfl,_,_,_,hA⟩:=hu.drop.open;exact⟨Z,zc,rfl,hA,hu2,hb'⟩
theorem Z1i {s:Rm}{a:Int}(h:rmE s a≠0):Ue s a=false:=by simp[Ue,h]
theorem Z4y {s:Rm}{a:Int}(h:asE s a≠0):ckE s a=asE s a/\ckH s a=0:=by
 have e:ckE s a=asE s a:=by rw[ckE,if_neg h]
 exact⟨e,by rw[ckH,e,if_neg h]⟩
theorem Zpv {s:Rm}{a:Int}(h:asE s a=0) (ht:Ue s a=false):ckE s a=8/\ckH s a=0:=by
 have e:ckE s a=8:=by rw[ckE,if_pos h,ht];rfl
 exact⟨e,by rw[ckH,e,if_neg (by decide)]⟩
theorem Zz5 {s:Rm}{a:Int}(h:asE s a=0) (ht:Ue s a=true):ckE s a=0/\ckH s a=(rmV s a).1+1:=by
 have e:ckE s a=0:=by rw[ckE,if_pos h,ht];rfl
 exact⟨e,by rw[ckH,e,if_pos rfl]⟩
theorem Zlv {s:Rm}{a:Int}(h:ckE s a=0):Ue s a=true/\asE s a=0/\ckH s a=(rmV s a).1+1:=by{
 by_cases ha:asE s a=0
 ·cases ht:Ue s a with
  | false=>rw[(Zpv ha ht).1] at h;cases h
  | true=>exact⟨rfl,ha,(Zz5 ha ht).2⟩
 ·rw[(Z4y ha).1] at h
  exact absurd h ha}
theorem Z20 {lo:Nat}{w:Qbe}{A:Option Qbg}{n c k:Nat}{xs:List It}{s:It}(h:Zar (New lo w) w [.slice A n c] xs) (hk:xs[k]? = some s) :
  ∃ ad E ce,A=some ad/\InI s/\∀ W,Qbm w.heap.size w W->At5 W (ad.add (k*5)) s (.slice E s.2.2.length ce)/\Itm (New lo W) W (itV s (.slice E s.2.2.length ce)) s:=by
 obtain⟨ad,E,ce,rfl,_,h5,hi,_,_,hin⟩:=Zdu h hk;exact⟨ad,E,ce,rfl,hin,fun W hW=>⟨h5.below hW,hi.new (Qe _) hW⟩⟩
def Xu (g:Nat) (cs:Array Qbf) (t:Qbh):Qbe->Prop:=fun w=>w.heap[g]? = some (.cells cs t (0,0))
theorem Y0 (g:Nat) (cs:Array Qbf) (t:Qbh):Ze9 (Xu g cs t):=fun _ _ h hb=>(hb.block g (Qa.1 h).1).trans h
abbrev Z40 (Bs Be:Nat):Qbf:=.func (.func 173) #[] #[.pointer (some ⟨Bs,0,none⟩),.pointer (some ⟨Be,0,none⟩)]
def Z39 (g:Nat) (v:Qbf):Qbe->Prop:=fun w=>w.cell? ⟨g,0,none⟩=some v/\g<w.heap.size
theorem Zh8 (g:Nat) (v:Qbf):Ze9 (Z39 g v):=fun _ _ h hb=>⟨(hb.cell (p:=⟨g,0,none⟩) h.2).trans h.1,Qk h.2 hb.size⟩
def Z47 (s:Rm) (n:Nd) (w:Qbe):Qbl->Qbe->Prop:=fun e w'=>∃ f t ok,e=.returned (.tuple #[kyV f,kyV t,.bool ok])/\Zbk s n=(if ok=true then some (f,t) else none)/\Qbm w.heap.size w w'
theorem Zai {s:Rm}{n:Nd}{w w':Qbe}(f t:Ky) (ok:Bool) (h:Zbk s n=if ok=true then some (f,t) else none) (hb:Qbm w.heap.size w w'):Z47 s n w (.returned (.tuple #[kyV f,kyV t,.bool ok])) w':=⟨f,t,ok,rfl,h,hb⟩
def Zwy (s:Rm) (l:Nat):Prop:=∀ (u v0 v1 v2 v3:Qbf) (n:Nd) (Bs Be:Nat) (w:Qbe),mayN n=true->n.1=(l:Int)->n.2.length≠0->Nod (Old w) w u n->Sto (Old w) w (.agg #[v0,v1,v2,v3]) s->Z4s Bs v0 v1 v2 v3 w->Z39 Be (Z40 Bs Be) w ->
  Qbk Tryz.prog 173 #[u,.pointer (some ⟨Bs,0,none⟩),.pointer (some ⟨Be,0,none⟩)] w (Z47 s n w)
theorem Zwt (s:Rm) (hm:Xz s=true) (l0:Nat) (hr0:∀ j,l0=j+1->Zwy s j):Zwy s l0:=by{
 intro u v0 v1 v2 v3 n Bs Be w hmn0 hlv hne hu h hBs hBe;have hmn:=Za hmn0;obtain⟨I,ci,rfl,-,-,-,hI⟩:=id hu.open;obtain⟨lw,hlw⟩:∃ q,n.1=q:=⟨_,rfl⟩
 obtain⟨l,hl⟩:∃ q,n.2=q:=⟨_,rfl⟩
 obtain⟨m,hlm⟩:∃ q,l.length=q:=⟨_,rfl⟩
 obtain⟨R,hR⟩:∃ R,Zbk s n=R:=⟨_,rfl⟩
 have hR0:=Za (fun(x y:It) (j:Nat) (h1:n.1=0) (h2:n.2[0]? = some x) (h3:n.2.length=j+1) (h4:n.2[j]? = some y)=>Zla (s:=s) h1 h2 h3 h4);have hR1:=Za (fun(j:Nat) (hj:n.1=((j+1:Nat):Int))=>Zl1 (s:=s) hj);rw[hR] at hR0 hR1;have hu':=hu;rw[hl,hlm] at hI;rw[hlw,hl,hlm] at hu';rw[hlw,hl,hlm] at hR0;rw[hlw,hl] at hR1;rw[hl,hlw,hlm];rw[hlw] at hlv;rw[hl,hlm] at hne;have hm5:m<=5:=by
  have:=(Z0 hmn.out).1.2.2.1;rw[hl,hlm] at this;exact this
 have HG0:Bag w [Z39 Be (Z40 Bs Be),Z4s Bs v0 v1 v2 v3,Z18 (.agg #[.int .i64 lw,.slice I m ci]) n,Zvj (.slice I m ci) l,Zyi (.agg #[v0,v1,v2,v3]) s] :=
  (((((Bag.nil w).add (F:=Zyi _ s) h (Zcf _ _)).add (F:=Zvj _ l) hI (Zg6 _ _)).add (F:=Z18 _ n) hu' (Zcn _ _)).add (F:=Z4s _ _ _ _ _) hBs (Zim _ _ _ _ _)).add (F:=Z39 _ _) hBe (Zh8 _ _)
 obtain⟨w0,hw0,b0,hs0,hB0⟩:=Yd w (.int .i64 lw) (.slice I m ci) 59;obtain⟨w1,hw1,_,_,_,hs1,hB1,b1⟩:=Xd w0 (.int .u8 0) (.int .u32 0) (.int .u32 0) 77;obtain⟨w2,hw2,_,_,_,hs2,hB2,b2⟩:=Xd w1 (.int .u8 0) (.int .u32 0) (.int .u32 0) 77;have HG:=Za HG0;have BB:=Za ((hB0.trans (hB1.mono hB0.size)).trans (hB2.mono (hB0.trans (hB1.mono hB0.size)).size));have G0:Xu w.heap.size #[.int .i64 lw,.slice I m ci] 59 w2:=Y0 _ _ _ _ _ (Y0 _ _ _ _ _ b0 hB1) hB2;have G1:Xu w0.heap.size #[.int .u8 0,.int .u32 0,.int .u32 0] 77 w2:=Y0 _ _ _ _ _ b1 hB2;have G2:Xu w1.heap.size #[.int .u8 0,.int .u32 0,.int .u32 0] 77 w2:=b2;have lo:Hid (w.heap.size<w0.heap.size/\w0.heap.size<w1.heap.size/\w1.heap.size<w2.heap.size):=Za ⟨by omega,by omega,by omega⟩;obtain⟨y0,y1,_⟩:=Zi G0;replace hs2:=Za hs2;replace hs1:=Za hs1;replace hs0:=Za hs0;replace hlw:=Za hlw;replace hl:=Za hl;replace hlm:=Za hlm;replace hlv:=Za hlv;replace hR:=Za hR;replace G0:=Za G0;replace G1:=Za G1;replace G2:=Za G2;clear HG0 h hu hu' hB2 hB1 hB0 hI hBs hBe b0 b1 b2 hmn0;obtain⟨m1,hm1⟩:∃ j,m=j+1:=⟨m-1,by omega⟩
 obtain⟨x0,hx0⟩:∃ x,l[0]? = some x:=⟨_,Qf (by rw[hlm.out];omega)⟩
 obtain⟨yl,hyl⟩:∃ x,l[m1]? = some x:=⟨_,Qf (by rw[hlm.out];omega)⟩
 have hx0':=Za hx0;have hyl':=Za hyl;have HW2:=Za (HG.out.below BB.out);obtain⟨ad,E0,ce0,rfl,_,FX0⟩:=Zdj (HW2.out.at 3 rfl:Zar (Old w2) w2 [.slice I m ci] l) hx0;have FX:=Za (fun W (hW:Qbm w2.heap.size w2 W)=>(FX0 W hW).1);have iz:0<m:=by omega
 cases l0 with
 | zero =>
  obtain⟨ad',E6,ce6,e6,_,_,_,FY0⟩:=Ve (HW2.out.at 3 rfl:Zar (Old w2) w2 [.slice (some ad) m ci] l) hyl;cases e6;have FY:=Za (fun W (hW:Qbm w2.heap.size w2 W)=>(FY0 W hW).1);have e0:lw=0:=hlv.out;subst e0;obtain⟨b,hb⟩:∃ b,Y7 s l=b:=⟨_,rfl⟩
  have hfin:=Za (hR0.out x0 yl m1 rfl hx0 hm1 hyl);rw[hb] at hfin;replace hb:=Za hb;have i6:(m:Int)-1=(m1:Int):=by omega
  have i7:(m1:Int)<(m:Int):=by omega
  have i8:(0:Int)<=(m1:Int):=by omega
  have i9:IntKind.i64.wrap (m1:Int)=(m1:Int):=Qz _ (by omega);have i0:(0:Int)<(m:Int):=by omega
  replace hm1:=Za hm1;clear hR0 hR1 hx0 hyl FX0 FY0
  go_enter Tryz.func173,Tryz.ntmps173
  go_upto_region 1 with fail
  clear hw0 hw1 hw2
  go_wp2_with fail
  clear y0 y1;obtain⟨o4,ho4⟩:∃ o,(Obj.cells #[.int .u8 (x0.1.1.toNat:Int),.int .u32 x0.1.2.1,.int .u32 x0.1.2.2] 77 (0,0))=o:=⟨_,rfl⟩
  obtain⟨o5,ho5⟩:∃ o,(Obj.cells #[.int .u8 (yl.1.1.toNat:Int),.int .u32 yl.1.2.1,.int .u32 yl.1.2.2] 77 (0,0))=o:=⟨_,rfl⟩
  obtain⟨fin,hfn⟩:∃ f,Ze6 w0.heap.size o4 w1.heap.size o5=f:=⟨_,rfl⟩
  have fn4:Hid (fin w0.heap.size=some o4):=Za (by rw[<- hfn];exact Zeu _ _ _ _);have fn5:Hid (fin w1.heap.size=some o5):=Za (by rw[<- hfn];exact Zeq (by have:=lo.out;omega) _ _);have fnl:Hid (∀ k,k<w0.heap.size->fin k=none):=Za fun k hk=>by rw[<- hfn];exact Zc8 (by omega) (by have:=lo.out;omega) _ _
  replace ho4:=Za ho4;replace ho5:=Za ho5;replace hfn:=Za hfn;have HW0:=Za (fun W (hK:Yf fin w2 W)=>BB.out.trans (hK.below BB.out.size (fun k hk=>fnl.out k (by have:=lo.out;omega))));have hcl:Hid (∀ W,Yf fin w2 W->Qbk Tryz.prog 174 #[.agg #[v0,v1,v2,v3],.agg #[.int .i64 0,.slice (some ad) m ci]] W fun e W'=>e=.returned (.bool b)/\Qbm W.heap.size W W'):=Za fun W hK=>by
   have HW:=HG.out.below (HW0.out W hK);have:=Z0g _ _ s hm n hmn.out W (HW.at 4 rfl) (HW.at 2 rfl);rw[hl.out,hb.out] at this;exact this
  have FXK:Hid (∀ W,Yf fin w2 W->∃ d,At5 W ad x0 d):=Za fun W hK=>by
   obtain⟨_,_,_,e,_,F⟩:=Zdj ((HG.out.below (HW0.out W hK)).at 3 rfl:Zar (Old W) W [.slice (some ad) m ci] l) hx0'.out;cases e;exact⟨_,(F W (Qb _ _)).1⟩
  have FYK:Hid (∀ W,Yf fin w2 W->∃ d,At5 W (ad.add (m1*5)) yl d):=Za fun W hK=>by
   obtain⟨_,_,_,e,_,_,_,F⟩:=Ve ((HG.out.below (HW0.out W hK)).at 3 rfl:Zar (Old W) W [.slice (some ad) m ci] l) hyl'.out;cases e;exact⟨_,(F W (Qb _ _)).1⟩
  have KS:Hid (∀ W,Yf fin w2 W->W.heap[w.heap.size]? = some (.cells #[.int .i64 0,.slice (some ad) m ci] 59 (0,0))):=Za fun W hK=>hK.other (fnl.out _ lo.out.1) G0.out
  have K4:Hid (∀ W,Yf fin w2 W->∃ a b c,W.heap[w0.heap.size]? = some (.cells #[a,b,c] 77 (0,0))):=Za fun W hK=>by
   rcases hK.box fn4.out G1.out with e | e
   ·exact⟨_,_,_,e⟩
   ·rw[<- ho4.out] at e;exact⟨_,_,_,e⟩
  have K5:Hid (∀ W,Yf fin w2 W->∃ a b c,W.heap[w1.heap.size]? = some (.cells #[a,b,c] 77 (0,0))):=Za fun W hK=>by
   rcases hK.box fn5.out G2.out with e | e
   ·exact⟨_,_,_,e⟩
   ·rw[<- ho5.out] at e;exact⟨_,_,_,e⟩
  refine Rb.wp_region_fx (Yf fin) (by kernel_rfl) (fun W=>Yf fin w2 W) (fun i=>match i with
   | 17=>some (fun _ W=>W.heap[w0.heap.size]? = some o4)
   | 18=>some (fun _ W=>W.heap[w1.heap.size]? = some o5)
   | _=>none) (fun i=>match i with
   | 16=>some (.bool b)
   | _=>none) (by kernel_rfl) (Yf.refl _ _).drew (fun w w' h hb=>h.trans hb) ?tst ?_
  case tst =>
   intro j φ x W W' hp hx hb
   match j,hp with
   | 17,hp=>cases hp;exact hb.done fn4.out hx
   | 18,hp=>cases hp;exact hb.done fn5.out hx
  repeat (first
   | (refine Rb.wpAs_skip rfl ?_;simp only[Qd,Zb,Zc,Zd])
   | (refine Rb.wpAs_pure (v := ?_) rfl rfl ?_ ?_;rotate_left;(intro W hC hE;clear hE;(obtain⟨y0,y1,_⟩:=Zi (KS.out W hC);obtain⟨_,z0,z1,z2,_,_⟩:=FXK.out W hC;obtain⟨_,u0,u1,u2,_,_⟩:=FYK.out W hC;obtain⟨k0,k1,k2,k3,_⟩:=(HG.out.below (HW0.out W hC)).at 1 rfl);clear hC;go_simp;first | done | with_reducible rfl);simp only[Qd,Zb,Zc,Zd]))
  refine Rb.wpAs_fixed rfl rfl rfl ?_ ?_
  ·intro W hC hE
   clear hE;refine Rb.does_enter (f:=174) (args:=#[.agg #[v0,v1,v2,v3],.agg #[.int .i64 0,.slice (some ad) m ci]]) ?_ ?_
   ·go_simp
   ·refine(hcl.out W hC).mono ?_
    rintro e W' ⟨rfl,hg⟩;exact⟨_,rfl,rfl,Yf.of_below hg⟩
  simp only[Qd,Zb,Zc,Zd];refine Rb.wpAs_act rfl rfl ?_ ?_
  ·intro W hC hE
   clear hE;obtain⟨a,b,c,G⟩:=K4.out W hC;obtain⟨q0,q1,q2,q3,_⟩:=Zk G;obtain⟨W1,hW1,g1,gr1,_⟩:=Yl (a':=.int .u8 (x0.1.1.toNat:Int)) (b':=.int .u32 x0.1.2.1) (c':=.int .u32 x0.1.2.2) G;rw[ho4.out] at g1;have hk:=Za (Yf.of_grown gr1 fn4.out g1);replace g1:=Za g1;clear gr1 G hC
   go_simp
   exact⟨g1.out,hk.out⟩
  simp only[Qd,Rb.envAdd];intro _;refine Rb.wpAs_act rfl rfl ?_ ?_
  ·intro W hC hE
   clear hE;obtain⟨a,b,c,G⟩:=K5.out W hC;obtain⟨q0,q1,q2,q3,_⟩:=Zk G;obtain⟨W1,hW1,g1,gr1,_⟩:=Yl (a':=.int .u8 (yl.1.1.toNat:Int)) (b':=.int .u32 yl.1.2.1) (c':=.int .u32 yl.1.2.2) G;rw[ho5.out] at g1;have hk:=Za (Yf.of_grown gr1 fn5.out g1);replace g1:=Za g1;clear gr1 G hC
   go_simp
   exact⟨g1.out,hk.out⟩
  simp only[Qd,Rb.envAdd];intro _
  repeat (first
   | (refine Rb.wpAs_skip rfl ?_;simp only[Qd,Zb,Zc,Zd])
   | (refine Rb.wpAs_pure (v := ?_) rfl rfl ?_ ?_;rotate_left;(intro W hC hE;clear hE;skip;clear hC;go_simp;first | done | with_reducible rfl);simp only[Qd,Zb,Zc,Zd]))
  refine Rb.wpAs_end fun W hC hE=> ?_
  have e5:=hE.1;have e4:=hE.2.1;have hB9:=Za (HW0.out W hC);rw[<- ho4.out] at e4;rw[<- ho5.out] at e5;obtain⟨n0,n1,n2,_⟩:=Zk e4;obtain⟨q0,q1,q2,_⟩:=Zk e5;replace e4:=Za e4;replace e5:=Za e5;clear hE hC
  go_wp2_with fail
  refine Qbi (v:=.tuple #[kyV x0.1,kyV yl.1,.bool b]) (by simp[results,go_sem,n0,n1,n2,q0,q1,q2]) rfl ?_;exact Zai (x0.1) (yl.1) b (hR.out.trans hfin.out) hB9.out
 | succ l1 =>
  have hrec:=Za (hr0 l1 rfl);have c0:(lw==0)=false:=by have:=hlv.out;simp;omega
  have c1:lw-1=(l1:Int):=by have:=hlv.out;omega
  have c2:IntKind.i64.wrap (l1:Int)=(l1:Int):=by
   have:=(Z0 hmn.out).1.2.1;rw[hlw.out,hlv.out] at this;exact Qz _ (by omega)
  have hRC:Hid (R=Yr (Uz s l1) l):=Za (hR1.out l1 hlv.out);replace hm1:=Za hm1;clear hR0 hR1 hx0 hyl FX0
  go_enter Tryz.func173,Tryz.ntmps173
  go_upto_region 1 with fail
  clear hw0 hw1 hw2
  go_wp2_with fail
  clear y0 y1
  go_loopw [37] (fun vi wr=>∃ (k:Nat) (t:Ky),k<=m/\vi=.int .i64 k/\StC (Uz s l1) l k t/\Qbm w.heap.size w wr/\w2.heap.size<=wr.heap.size/\Xu w.heap.size #[.int .i64 lw,.slice (some ad) m ci] 59 wr/\Xu w0.heap.size #[.int .u8 0,.int .u32 0,.int .u32 0] 77 wr/\Xu w1.heap.size #[.int .u8 (t.1.toNat:Int),.int .u32 t.2.1,.int .u32 t.2.2] 77 wr) (fun vi _=>m-(intOf vi).toNat)
  case atStart=>exact⟨0,Zed,by omega,rfl,.inl rfl,BB.out,Qe _,G0.out,G1.out,G2.out⟩
  case round =>
   obtain⟨k,t,hk,rfl,hst,hbr,hsz,g0,g1,g2⟩:=hrel;have HR:=Za (HG.out.below hbr);have BR:=Za hbr;have SZ:=Za hsz;clear hbr hsz;by_cases hlt:k<m
   case neg =>
    have hkm:k=m:=by omega
    have hf:Hid (R=some (x0.1,t)):=Za (by
     subst hkm;rcases hst with e | ⟨f,e⟩
     ·omega
     ·have e1:=Ztg hx0'.out (by omega) (by rw[hlm.out];omega) e
      rw[Qh (by rw[hlm.out];omega)] at e
      rw[hRC.out,e,<- e1])
    have i0:(0:Int)<(m:Int):=by omega
    have FXr:=Za (fun W (hW:Qbm wr.heap.size wr W)=>(Zdj (HR.out.at 3 rfl:Zar (Old wr) wr [.slice (some ad) m ci] l) hx0'.out));obtain⟨ad',E6,ce6,e6,_,FZ⟩:=Zdj (HR.out.at 3 rfl:Zar (Old wr) wr [.slice (some ad) m ci] l) hx0'.out;cases e6;have FZ':=Za (fun W (hW:Qbm wr.heap.size wr W)=>(FZ W hW).1);replace hst:=Za hst;replace g0:=Za g0;replace g1:=Za g1;replace g2:=Za g2;clear FXr FZ hkm
    go_upto_region 14 with fail
    obtain⟨y0,y1,_⟩:=Zi g0.out;obtain⟨z0,z1,z2,_,_⟩:=FZ'.out wr (Qb _ _);have G4:wr.heap[w0.heap.size]? = _:=g1.out;have G5:wr.heap[w1.heap.size]? = _:=g2.out;obtain⟨q0,q1,q2,q3,_⟩:=Zk G5;have BW:=Za BR.out;obtain⟨W8,hW8,g8,gr8,gs8⟩:=Yl (a':=.int .u8 ((x0.1).1.toNat:Int)) (b':=.int .u32 (x0.1).2.1) (c':=.int .u32 (x0.1).2.2) G4;have G8:W8.heap[w1.heap.size]? = _:=(gr8.block w1.heap.size (Qa.1 G5).1 (by simp;have:=lo.out;omega)).trans G5;obtain⟨W9,hW9,g9,gr9,gs9⟩:=Yl (a':=.int .u8 ((t).1.toNat:Int)) (b':=.int .u32 (t).2.1) (c':=.int .u32 (t).2.2) G8;have g8':W9.heap[w0.heap.size]? = _:=(gr9.block w0.heap.size (Qa.1 g8).1 (by simp;have:=lo.out;omega)).trans g8;obtain⟨f4,f5,f6,f7,_⟩:=Zk G4;obtain⟨j4,j5,j6,j7,_⟩:=Zk G8;obtain⟨n0,n1,n2,_,_⟩:=Zk g8';obtain⟨o0,o1,o2,_,_⟩:=Zk g9;have hB9:=Za ((BW.out.grown gr8 BW.out.size (fun q e=>by cases e;have:=lo.out;omega)).grown gr9 (Qc BW.out.size gr8.size) (fun q e=>by cases e;have:=lo.out;omega));replace G4:=Za G4;replace G5:=Za G5;replace G8:=Za G8;replace g8:=Za g8;replace g8':=Za g8';replace g9:=Za g9;clear gr8 gr9 gs8 gs9
    go_region
    all_goals
     go_wp2_with fail
     refine Qbi (v:=.tuple #[kyV x0.1,kyV t,.bool true]) (by simp[results,go_sem,n0,n1,n2,o0,o1,o2]) rfl ?_;exact Zai (x0.1) (t) true (hR.out.trans hf.out) (Vo hB9.out _)
   obtain⟨x,hx⟩:∃ x,l[k]? = some x:=⟨_,Qf (by rw[hlm.out];exact hlt)⟩
   obtain⟨ad',E5,ce5,e5,_,_,_,FZ⟩:=Ve (HR.out.at 3 rfl:Zar (Old wr) wr [.slice (some ad) m ci] l) hx;cases e5;obtain⟨⟨z0,z1,z2,z3,z4⟩,_⟩:=FZ wr (Qb _ _);have hno1:=Za (fun h1=>hRC.out.trans (Zvs (g:=Uz s l1) hx h1));have hno2:=Za (fun p h1 h2=>hRC.out.trans (Zud (g:=Uz s l1) (p:=p) hx h1 h2));have hno3:=Za (fun h1 h2=>hRC.out.trans (Zwn (g:=Uz s l1) hx h1 hst h2));have hyes:=Za (fun p h1 h2 h3=>Zs8 (g:=Uz s l1) (p:=p) hx hst h1 h2 h3);have i4:(0:Int)<=(k:Int):=by omega
   have i5:(k:Int)<(m:Int):=by omega
   replace hst:=Za hst;replace hx:=Za hx;obtain⟨w3,hw3,hg3,hB3,-,hs3⟩:=Zxp (((HR.out.add (F:=Xu _ _ _) g2 (Y0 _ _ _)).add (F:=Xu _ _ _) g1 (Y0 _ _ _)).add (F:=Xu _ _ _) g0 (Y0 _ _ _)) (Qb _ _) (.int .u8 (x.1.1.toNat:Int)) (.int .u32 x.1.2.1) (.int .u32 x.1.2.2) (.int .i64 x.2.1) (.slice E5 x.2.2.length ce5);have H3:=Za hg3;have B3:=Za (BR.out.trans (hB3.mono BR.out.size));have S3:=Za (Qc SZ.out hB3.size);replace hs3:=Za hs3;clear FZ hg3 hB3 g0 g1 g2 HR BR SZ
   go_upto_region 6 with fail
   clear hw3 z0 z1 z2 z3 z4;obtain⟨k0,k1,k2,k3,_⟩:=H3.out.at 5 rfl;obtain⟨r0,r1,r2,r3,r4,_⟩:=H3.out.at 0 rfl;have hNd:=Za (fun v W hW=>Zib v s x.2.1 W hW);have hmy:=Za (fun hh=>(Xf (s:=s) (a:=x.2.1) hh).1);have hsn:=Za (fun hh=>hno1.out (Z12 (s:=s) (l:=l1) (a:=x.2.1) hh));have hsy:=Za (fun h1 h2=>Zxv (s:=s) (l:=l1) (a:=x.2.1) h1 h2);obtain⟨nb,hnb⟩:∃ q,rmV s x.2.1=q:=⟨_,rfl⟩
   obtain⟨eb,heb⟩:∃ q,rmE s x.2.1=q:=⟨_,rfl⟩
   rw[hnb,heb] at hNd hsn hsy;rw[hnb,heb] at hmy;obtain⟨lb,hlb⟩:∃ q,nb.1=q:=⟨_,rfl⟩
   obtain⟨mb,hmb⟩:∃ q,nb.2.length=q:=⟨_,rfl⟩
   rw[hlb,hmb] at hNd hsn;rw[hlb] at hsy;replace hnb:=Za hnb;replace heb:=Za heb;replace hlb:=Za hlb;replace hmb:=Za hmb
   go_wp2_with fail
   with_reducible refine(hNd.out _ _ (H3.out.at 8 rfl)).mono ?_
   rintro e w4 ⟨Z,zc,rfl,-,h4n,hb4⟩;obtain⟨w5,hw5,hg5,hB5,-,hs5⟩:=Zfr ((H3.out.below hb4).add (F:=Z18 _ nb) h4n.drop (Zcn _ _)) (Qb _ _) (.int .i64 lb) (.slice Z mb zc);have H5:=Za hg5;have B5:=Za (B3.out.trans ((hb4.trans (hB5.mono hb4.size)).mono B3.out.size));have S5:=Za (Qc S3.out (hb4.trans (hB5.mono hb4.size)).size);replace hs5:=Za hs5;clear k0 k1 k2 k3 r0 r1 r2 r3 r4 hg5 hB5 hb4 h4n H3 B3 S3 hNd
   go_upto_region 7 with fail
   clear hw5;obtain⟨y0,y1,_⟩:=H5.out.at 0 rfl;obtain⟨f0,f1,_⟩:=Zi (H5.out.at 3 rfl);by_cases he:eb=0
   case neg =>
    have e1:(eb != 0)=true:=by simpa using he
    have hf:=Za (hsn.out (fun hh=>he hh.1));clear he;have G4:w5.heap[w0.heap.size]? = _:=H5.out.at 4 rfl;have G5:w5.heap[w1.heap.size]? = _:=H5.out.at 5 rfl;have BW:=Za B5.out;obtain⟨W8,hW8,g8,gr8,gs8⟩:=Yl (a':=.int .u8 0) (b':=.int .u32 0) (c':=.int .u32 0) G4;have G8:W8.heap[w1.heap.size]? = _:=(gr8.block w1.heap.size (Qa.1 G5).1 (by simp;have:=lo.out;omega)).trans G5;obtain⟨W9,hW9,g9,gr9,gs9⟩:=Yl (a':=.int .u8 0) (b':=.int .u32 0) (c':=.int .u32 0) G8;have g8':W9.heap[w0.heap.size]? = _:=(gr9.block w0.heap.size (Qa.1 g8).1 (by simp;have:=lo.out;omega)).trans g8;obtain⟨f4,f5,f6,f7,_⟩:=Zk G4;obtain⟨j4,j5,j6,j7,_⟩:=Zk G8;obtain⟨n0,n1,n2,_,_⟩:=Zk g8';obtain⟨o0,o1,o2,_,_⟩:=Zk g9;have hB9:=Za ((BW.out.grown gr8 BW.out.size (fun q e=>by cases e;have:=lo.out;omega)).grown gr9 (Qc BW.out.size gr8.size) (fun q e=>by cases e;have:=lo.out;omega));replace G4:=Za G4;replace G5:=Za G5;replace G8:=Za G8;replace g8:=Za g8;replace g8':=Za g8';replace g9:=Za g9;clear gr8 gr9 gs8 gs9
    go_wp2_with fail
    refine Qbi (v:=.tuple #[.agg #[.int .u8 0,.int .u32 0,.int .u32 0],.agg #[.int .u8 0,.int .u32 0,.int .u32 0],.bool false]) (by simp[results,go_sem,n0,n1,n2,o0,o1,o2]) rfl ?_;exact Zai (Zed) (Zed) false (hR.out.trans hf.out) hB9.out
   subst he;by_cases hv:lb=(l1:Int)
   case neg =>
    have e1:(lb != (l1:Int))=true:=by simpa using hv
    have hf:=Za (hsn.out (fun hh=>hv hh.2.1));clear hv;have G4:w5.heap[w0.heap.size]? = _:=H5.out.at 4 rfl;have G5:w5.heap[w1.heap.size]? = _:=H5.out.at 5 rfl;have BW:=Za B5.out;obtain⟨W8,hW8,g8,gr8,gs8⟩:=Yl (a':=.int .u8 0) (b':=.int .u32 0) (c':=.int .u32 0) G4;have G8:W8.heap[w1.heap.size]? = _:=(gr8.block w1.heap.size (Qa.1 G5).1 (by simp;have:=lo.out;omega)).trans G5;obtain⟨W9,hW9,g9,gr9,gs9⟩:=Yl (a':=.int .u8 0) (b':=.int .u32 0) (c':=.int .u32 0) G8;have g8':W9.heap[w0.heap.size]? = _:=(gr9.block w0.heap.size (Qa.1 g8).1 (by simp;have:=lo.out;omega)).trans g8;obtain⟨f4,f5,f6,f7,_⟩:=Zk G4;obtain⟨j4,j5,j6,j7,_⟩:=Zk G8;obtain⟨n0,n1,n2,_,_⟩:=Zk g8';obtain⟨o0,o1,o2,_,_⟩:=Zk g9;have hB9:=Za ((BW.out.grown gr8 BW.out.size (fun q e=>by cases e;have:=lo.out;omega)).grown gr9 (Qc BW.out.size gr8.size) (fun q e=>by cases e;have:=lo.out;omega));replace G4:=Za G4;replace G5:=Za G5;replace G8:=Za G8;replace g8:=Za g8;replace g8':=Za g8';replace g9:=Za g9;clear gr8 gr9 gs8 gs9
    go_wp2_with fail
    refine Qbi (v:=.tuple #[.agg #[.int .u8 0,.int .u32 0,.int .u32 0],.agg #[.int .u8 0,.int .u32 0,.int .u32 0],.bool false]) (by simp[results,go_sem,n0,n1,n2,o0,o1,o2]) rfl ?_;exact Zai (Zed) (Zed) false (hR.out.trans hf.out) hB9.out
   have e1:(lb != (l1:Int))=false:=by simp[hv]
   replace hv:=Za hv;by_cases hz:mb=0
   ·have e2:((mb:Int)==0)=true:=by simp[hz]
    have hf:=Za (hsn.out (fun hh=>hh.2.2 hz));replace hz:=Za hz;have G4:w5.heap[w0.heap.size]? = _:=H5.out.at 4 rfl;have G5:w5.heap[w1.heap.size]? = _:=H5.out.at 5 rfl;have BW:=Za B5.out;obtain⟨W8,hW8,g8,gr8,gs8⟩:=Yl (a':=.int .u8 0) (b':=.int .u32 0) (c':=.int .u32 0) G4;have G8:W8.heap[w1.heap.size]? = _:=(gr8.block w1.heap.size (Qa.1 G5).1 (by simp;have:=lo.out;omega)).trans G5;obtain⟨W9,hW9,g9,gr9,gs9⟩:=Yl (a':=.int .u8 0) (b':=.int .u32 0) (c':=.int .u32 0) G8;have g8':W9.heap[w0.heap.size]? = _:=(gr9.block w0.heap.size (Qa.1 g8).1 (by simp;have:=lo.out;omega)).trans g8;obtain⟨f4,f5,f6,f7,_⟩:=Zk G4;obtain⟨j4,j5,j6,j7,_⟩:=Zk G8;obtain⟨n0,n1,n2,_,_⟩:=Zk g8';obtain⟨o0,o1,o2,_,_⟩:=Zk g9;have hB9:=Za ((BW.out.grown gr8 BW.out.size (fun q e=>by cases e;have:=lo.out;omega)).grown gr9 (Qc BW.out.size gr8.size) (fun q e=>by cases e;have:=lo.out;omega));replace G4:=Za G4;replace G5:=Za G5;replace G8:=Za G8;replace g8:=Za g8;replace g8':=Za g8';replace g9:=Za g9;clear gr8 gr9 gs8 gs9
    go_wp2_with fail
    refine Qbi (v:=.tuple #[.agg #[.int .u8 0,.int .u32 0,.int .u32 0],.agg #[.int .u8 0,.int .u32 0,.int .u32 0],.bool false]) (by simp[results,go_sem,n0,n1,n2,o0,o1,o2]) rfl ?_;exact Zai (Zed) (Zed) false (hR.out.trans hf.out) hB9.out
   have e2:((mb:Int)==0)=false:=by simpa using hz
   replace hz:=Za hz;have hspan:=Za (hsy.out rfl hv.out);have hmb':=Za (hmy.out rfl);obtain⟨c3,c4⟩:=(H5.out.at 6 rfl:Z39 Be (Z40 Bs Be) w5)
   have hcall:=Za (hrec.out (.agg #[.int .i64 lb,.slice Z mb zc]) v0 v1 v2 v3 nb Bs Be w5 hmb'.out (by rw[hlb.out,hv.out]) (by rw[hmb.out];exact hz.out) (H5.out.at 1 rfl) (H5.out.at 10 rfl) (H5.out.at 7 rfl) (H5.out.at 6 rfl));clear hsn hsy hmy
   go_upto_region 9 with fail
   clear e1 e2 f0 f1
   go_wp2_with fail
   with_reducible refine hcall.out.mono ?_
   rintro e w6 ⟨f',t',ok,rfl,hsp,hb6⟩;obtain⟨w7,hw7,p0,p1,p2,hs7,hB7,_⟩:=Xd w6 (.int .u8 (f'.1.toNat:Int)) (.int .u32 f'.2.1) (.int .u32 f'.2.2) 77;have hg7:=((H5.out.below hb6).below hB7).add (F:=Z6h w6.heap.size _ _ _) ⟨p0,p1,p2,by omega⟩ (Zik _ _ _ _);obtain⟨w8,hw8,hg8,hB8,hB8',hs8⟩:=Z2z hg7 (Qb _ _) (.int .u8 (t'.1.toNat:Int)) (.int .u32 t'.2.1) (.int .u32 t'.2.2);have H8:=Za hg8;have hb8:=hb6.trans ((hB7.trans (hB8.mono hB7.size)).mono hb6.size);have B8:=Za (B5.out.trans (hb8.mono B5.out.size));have S8:=Za (Qc S5.out hb8.size);replace hs8:=Za hs8;clear p0 p1 p2 hg7 hg8 hB7 hB8 hB8' hb6 hb8 y0 y1 c3 c4 hcall H5 B5 S5
   go_upto_region 10 with fail
   clear hw7 hw8;obtain⟨p0,p1,p2,_⟩:=H8.out.at 1 rfl;obtain⟨q0,q1,q2,_⟩:=H8.out.at 0 rfl;rw[hs7] at q0 q1 q2;replace hs7:=Za hs7;obtain⟨r0,r1,r2,r3,r4,_⟩:=H8.out.at 4 rfl;have hg2:w8.heap[w1.heap.size]? = _:=H8.out.at 7 rfl;obtain⟨d0,d1,d2,d3,_⟩:=Zk hg2;have G4:w8.heap[w0.heap.size]? = _:=H8.out.at 6 rfl;have G5:w8.heap[w1.heap.size]? = _:=H8.out.at 7 rfl;have BW:=Za B8.out;replace hg2:=Za hg2;cases ok with
   | false =>
    have hf:=Za (hno1.out (hspan.out.trans hsp));clear d3 hno2 hno3 hyes;obtain⟨W8,hW8,g8,gr8,gs8⟩:=Yl (a':=.int .u8 0) (b':=.int .u32 0) (c':=.int .u32 0) G4;have G8:W8.heap[w1.heap.size]? = _:=(gr8.block w1.heap.size (Qa.1 G5).1 (by simp;have:=lo.out;omega)).trans G5;obtain⟨W9,hW9,g9,gr9,gs9⟩:=Yl (a':=.int .u8 0) (b':=.int .u32 0) (c':=.int .u32 0) G8;have g8':W9.heap[w0.heap.size]? = _:=(gr9.block w0.heap.size (Qa.1 g8).1 (by simp;have:=lo.out;omega)).trans g8;obtain⟨f4,f5,f6,f7,_⟩:=Zk G4;obtain⟨j4,j5,j6,j7,_⟩:=Zk G8;obtain⟨n0,n1,n2,_,_⟩:=Zk g8';obtain⟨o0,o1,o2,_,_⟩:=Zk g9;have hB9:=Za ((BW.out.grown gr8 BW.out.size (fun q e=>by cases e;have:=lo.out;omega)).grown gr9 (Qc BW.out.size gr8.size) (fun q e=>by cases e;have:=lo.out;omega));replace G4:=Za G4;replace G5:=Za G5;replace G8:=Za G8;replace g8:=Za g8;replace g8':=Za g8';replace g9:=Za g9;clear gr8 gr9 gs8 gs9
    go_wp2_with fail
    refine Qbi (v:=.tuple #[.agg #[.int .u8 0,.int .u32 0,.int .u32 0],.agg #[.int .u8 0,.int .u32 0,.int .u32 0],.bool false]) (by simp[results,go_sem,n0,n1,n2,o0,o1,o2]) rfl ?_;exact Zai (Zed) (Zed) false (hR.out.trans hf.out) hB9.out
   | true =>
   have hsp':=Za (hspan.out.trans (hsp.trans (if_pos rfl)));have hke:=Z1c f' x.1;have hkg:=Zky;unfold kyV at hke;by_cases hkk:f'=x.1
   case neg =>
    have g3:decide (f'=x.1)=false:=by simpa using hkk
    rw[g3] at hke;have hf:=Za (hno2.out _ hsp'.out hkk);clear d3 hkk hno1 hno2 hno3 hyes;obtain⟨W8,hW8,g8,gr8,gs8⟩:=Yl (a':=.int .u8 0) (b':=.int .u32 0) (c':=.int .u32 0) G4;have G8:W8.heap[w1.heap.size]? = _:=(gr8.block w1.heap.size (Qa.1 G5).1 (by simp;have:=lo.out;omega)).trans G5;obtain⟨W9,hW9,g9,gr9,gs9⟩:=Yl (a':=.int .u8 0) (b':=.int .u32 0) (c':=.int .u32 0) G8;have g8':W9.heap[w0.heap.size]? = _:=(gr9.block w0.heap.size (Qa.1 g8).1 (by simp;have:=lo.out;omega)).trans g8;obtain⟨f4,f5,f6,f7,_⟩:=Zk G4;obtain⟨j4,j5,j6,j7,_⟩:=Zk G8;obtain⟨n0,n1,n2,_,_⟩:=Zk g8';obtain⟨o0,o1,o2,_,_⟩:=Zk g9;have hB9:=Za ((BW.out.grown gr8 BW.out.size (fun q e=>by cases e;have:=lo.out;omega)).grown gr9 (Qc BW.out.size gr8.size) (fun q e=>by cases e;have:=lo.out;omega));replace G4:=Za G4;replace G5:=Za G5;replace G8:=Za G8;replace g8:=Za g8;replace g8':=Za g8';replace g9:=Za g9;clear gr8 gr9 gs8 gs9
    go_wp2_with fail
    refine Qbi (v:=.tuple #[.agg #[.int .u8 0,.int .u32 0,.int .u32 0],.agg #[.int .u8 0,.int .u32 0,.int .u32 0],.bool false]) (by simp[results,go_sem,n0,n1,n2,o0,o1,o2]) rfl ?_;exact Zai (Zed) (Zed) false (hR.out.trans hf.out) hB9.out
   have g3:decide (f'=x.1)=true:=by simpa using hkk
   rw[g3] at hke;have hkk':=Za hkk;clear hkk hno1 hno2 hsp;by_cases hk0:k=0
   ·have i0:¬ (0:Int)<(k:Int):=by omega
    have hn:=Za (hyes.out (f',t') (fun hh=>absurd hk0 hh) hsp'.out hkk'.out);have hk0':=Za hk0;clear hk0;obtain⟨W9,hW9,g9,gr9,gs9⟩:=Yl (a':=.int .u8 (t'.1.toNat:Int)) (b':=.int .u32 t'.2.1) (c':=.int .u32 t'.2.2) hg2.out;have hB9:=Za (BW.out.grown gr9 BW.out.size (fun q e=>by cases e;have:=lo.out;omega));have S9:=Za (Qc S8.out gr9.size);have b9:=Za ((gr9.block w.heap.size (by have:=lo.out;have:=S8.out;omega) (by simp;have:=lo.out;omega)).trans (H8.out.at 5 rfl));have c9:=Za ((gr9.block w0.heap.size (by have:=lo.out;have:=S8.out;omega) (by simp;have:=lo.out;omega)).trans (H8.out.at 6 rfl));replace g9:=Za g9;clear gr9 gs9
    go_wp2_with fail
    go_roundw
    case rel=>exact⟨k+1,t',by omega,by go_num,hn.out,hB9.out,S9.out,b9.out,c9.out,g9.out⟩
    case measure=>simp[intOf];omega
   ·have i0:(0:Int)<(k:Int):=by omega
    obtain⟨q,hq⟩:∃ q,Zr t x.1=q:=⟨_,rfl⟩
    have hls:=Za (Zfp t x.1 w8);rw[hq] at hls
    go_wp2_with fail
    with_reducible refine hls.out.mono ?_
    rintro e w9 ⟨rfl,hb9⟩;cases q with
    | false =>
     have hf:=Za (hno3.out hk0 hq);replace G4:=(hb9.block w0.heap.size (by have:=lo.out;have:=S8.out;omega)).trans G4;replace G5:=(hb9.block w1.heap.size (by have:=lo.out;have:=S8.out;omega)).trans G5;replace BW:=Za (B8.out.trans (hb9.mono B8.out.size));replace hq:=Za hq;clear d0 d1 d2 d3 hb9 hno3 hyes hk0;obtain⟨W8,hW8,g8,gr8,gs8⟩:=Yl (a':=.int .u8 0) (b':=.int .u32 0) (c':=.int .u32 0) G4;have G8:W8.heap[w1.heap.size]? = _:=(gr8.block w1.heap.size (Qa.1 G5).1 (by simp;have:=lo.out;omega)).trans G5;obtain⟨W9,hW9,g9,gr9,gs9⟩:=Yl (a':=.int .u8 0) (b':=.int .u32 0) (c':=.int .u32 0) G8;have g8':W9.heap[w0.heap.size]? = _:=(gr9.block w0.heap.size (Qa.1 g8).1 (by simp;have:=lo.out;omega)).trans g8;obtain⟨f4,f5,f6,f7,_⟩:=Zk G4;obtain⟨j4,j5,j6,j7,_⟩:=Zk G8;obtain⟨n0,n1,n2,_,_⟩:=Zk g8';obtain⟨o0,o1,o2,_,_⟩:=Zk g9;have hB9:=Za ((BW.out.grown gr8 BW.out.size (fun q e=>by cases e;have:=lo.out;omega)).grown gr9 (Qc BW.out.size gr8.size) (fun q e=>by cases e;have:=lo.out;omega));replace G4:=Za G4;replace G5:=Za G5;replace G8:=Za G8;replace g8:=Za g8;replace g8':=Za g8';replace g9:=Za g9;clear gr8 gr9 gs8 gs9
     go_wp2_with fail
     refine Qbi (v:=.tuple #[.agg #[.int .u8 0,.int .u32 0,.int .u32 0],.agg #[.int .u8 0,.int .u32 0,.int .u32 0],.bool false]) (by simp[results,go_sem,n0,n1,n2,o0,o1,o2]) rfl ?_;exact Zai (Zed) (Zed) false (hR.out.trans hf.out) hB9.out
    | true =>
     have hn:=Za (hyes.out (f',t') (fun _=>hq) hsp'.out hkk'.out);replace H8:=Za (H8.out.below hb9);replace B8:=Za (B8.out.trans (hb9.mono B8.out.size));replace S8:=Za (Qc S8.out hb9.size);replace BW:=Za B8.out;replace hq:=Za hq;replace hg2:Hid (w9.heap[w1.heap.size]? = _):=Za (H8.out.at 7 rfl);clear hb9 p0 p1 p2 q0 q1 q2 r0 r1 r2 r3 r4 d0 d1 d2 d3 G4 G5 hno3 hyes hk0;obtain⟨q0,q1,q2,_⟩:=H8.out.at 0 rfl;rw[hs7.out] at q0 q1 q2;obtain⟨d0,d1,d2,d3,_⟩:=Zk hg2.out;obtain⟨W9,hW9,g9,gr9,gs9⟩:=Yl (a':=.int .u8 (t'.1.toNat:Int)) (b':=.int .u32 t'.2.1) (c':=.int .u32 t'.2.2) hg2.out;have hB9:=Za (BW.out.grown gr9 BW.out.size (fun q e=>by cases e;have:=lo.out;omega));have S9:=Za (Qc S8.out gr9.size);have b9:=Za ((gr9.block w.heap.size (by have:=lo.out;have:=S8.out;omega) (by simp;have:=lo.out;omega)).trans (H8.out.at 5 rfl));have c9:=Za ((gr9.block w0.heap.size (by have:=lo.out;have:=S8.out;omega) (by simp;have:=lo.out;omega)).trans (H8.out.at 6 rfl));replace g9:=Za g9;clear gr9 gs9
     go_wp2_with fail
     go_roundw
     case rel=>exact⟨k+1,t',by omega,by go_num,hn.out,hB9.out,S9.out,b9.out,c9.out,g9.out⟩
     case measure=>simp[intOf];omega}
theorem Zz4 (s:Rm) (hm:Xz s=true):∀ l:Nat,Zwy s l:=by
 intro l
 induction l using Pz with
 | ind l ih=>exact Zwt s hm l fun j hj=>ih j (by omega)
theorem Zt3 {b:List UInt8}(h:b.length=128) (hr:reN b≠0):reN b=8:=by{
 by_cases ho:oe b=0
 ·cases h1:rdN (ob b) with
  | false=>exact(Zw9 ho h1).1
  | true=>exact absurd (Zfv ho h1).1 hr
 ·have h8:oe b=8:=by
   unfold oe at ho ⊢;rw[if_pos h] at ho ⊢;split at ho
   ·exact absurd rfl ho
   ·rename_i hf
    rw[if_neg hf]
  rw[(Zqp ho).1,h8]}
theorem Zn1 (w:Qbe) (v:Qbf) (t:Qbh):∃ w1,w.alloc (.cells #[v] t)=w1/\w1.cell? ⟨w.heap.size,0,none⟩=some v/\w1.heap.size=w.heap.size+1/\Qbm w.heap.size w w1 :=
 ⟨_,rfl,by simp,by simp,(Qb _ _).alloc (Qe _) _⟩
theorem Ziz (v u:Qbf) (s:Rm) (hm:Xz s=true) (n:Nd) (hn:mayN n=true) (w:Qbe) (h:Sto (Old w) w v s) (hu:Nod (Old w) w u n) :
  Qbk Tryz.prog 112 #[v,u] w fun e w'=>e=.returned (.bool (Zba s n))/\Qbm w.heap.size w w':=by{
 have hmf:∀ (fn:Fn) (first cap:Array Qbf) (w:Qbe),(Instr.makeFunc fn first cap).run Tryz.prog w=.ok (.func fn first cap) w:=fun _ _ _ _=>rfl
 have hsf:∀ (a:Qbg) (fn:Fn) (x y:Array Qbf) (w:Qbe),(store a (.func fn x y)).run Tryz.prog w=stored Tryz.prog w a (.func fn x y) .plain:=fun _ _ _ _ _=>run_store _ _ _ _ _ rfl
 obtain⟨A,ca,B,cb,N,cn,L,cl,rfl,_⟩:=id h.open;obtain⟨I,ci,rfl,-,-,-,hI⟩:=id hu.open;obtain⟨lw,hlw⟩:∃ q,n.1=q:=⟨_,rfl⟩
 obtain⟨m,hlm⟩:∃ q,n.2.length=q:=⟨_,rfl⟩
 have hlv:0<=lw:=by rw[<- hlw];exact(Z0 hn).1.1
 have hst:Zba s n=(decide (m=0)||(Zbk s n).isSome):=by rw[Zba,hlm]
 have hu':=hu;rw[hlw,hlm] at hu';rw[hlw,hlm,hst];clear hI hst;have HG0:Bag w [Z18 (.agg #[.int .i64 lw,.slice I m ci]) n,Zyi (.agg #[.slice A s.1.1.length ca,.slice B s.1.2.length cb,.slice N s.2.1.length cn,.slice L s.2.2.length cl]) s]:=((Bag.nil w).add (F:=Zyi _ s) h (Zcf _ _)).add (F:=Z18 _ n) hu' (Zcn _ _);obtain⟨w0,hw0,hg0,hB0,_,hs0⟩:=Zjl HG0 (Qb _ _) (.slice A s.1.1.length ca) (.slice B s.1.2.length cb) (.slice N s.2.1.length cn) (.slice L s.2.2.length cl) 29;obtain⟨w1,hw1,hg1,hB1,_,hs1⟩:=Zfr hg0 (Qb _ _) (.int .i64 lw) (.slice I m ci);obtain⟨w2,hw2,q0,hs2,hB2⟩:=Zn1 w1 (Z40 w.heap.size w1.heap.size) 261;have HG:=Za ((hg1.below hB2).add (F:=Z39 w1.heap.size (Z40 w.heap.size w1.heap.size)) ⟨q0,by omega⟩ (Zh8 _ _));have BB:=Za ((hB0.trans (hB1.mono hB0.size)).trans (hB2.mono (hB0.trans (hB1.mono hB0.size)).size));replace hs2:=Za hs2;replace hs1:=Za hs1;replace hs0:=Za hs0;replace hlw:=Za hlw;replace hlm:=Za hlm;clear HG0 hg1 hg0 h hu hu' hB2 hB1 hB0 q0
 go_enter Tryz.func112,Tryz.ntmps112
 go_upto_region 3 with fail
 clear hw0 hw1 hw2;obtain⟨q0,_⟩:=HG.out.at 0 rfl;obtain⟨y0,y1,_⟩:=HG.out.at 1 rfl;by_cases hm0:m=0
 ·have c0:((m:Int)==0)=true:=by simp[hm0]
  have hf:Hid ((decide (m=0)||(Zbk s n).isSome)=true):=Za (by simp[hm0]);replace hm0:=Za hm0
  go_wp2_with fail
  go_ret;exact⟨Yc hf.out.symm,BB.out⟩
 have c0:((m:Int)==0)=false:=by simpa using hm0
 have hf:Hid ((decide (m=0)||(Zbk s n).isSome)=(Zbk s n).isSome):=Za (by simp[hm0]);have hcall:=Za (Zz4 s hm lw.toNat (.agg #[.int .i64 lw,.slice I m ci]) _ _ _ _ n w.heap.size w1.heap.size w2 hn (by rw[hlw.out];omega) (by rw[hlm.out];exact hm0) (HG.out.at 3 rfl) (HG.out.at 4 rfl) (HG.out.at 2 rfl) (HG.out.at 0 rfl));replace hm0:=Za hm0
 go_wp2_with fail
 with_reducible refine hcall.out.mono ?_
 rintro e w3 ⟨f,t,ok,rfl,hsp,hb3⟩;have B3:=Za (BB.out.trans (hb3.mono BB.out.size));obtain⟨w4,hw4,p0,p1,p2,hs4,hB4,_⟩:=Xd w3 (.int .u8 (f.1.toNat:Int)) (.int .u32 f.2.1) (.int .u32 f.2.2) 77;obtain⟨w5,hw5,r0,r1,r2,hs5,hB5,_⟩:=Xd w4 (.int .u8 (t.1.toNat:Int)) (.int .u32 t.2.1) (.int .u32 t.2.2) 77;have B5:=Za (B3.out.trans ((hB4.trans (hB5.mono hB4.size)).mono B3.out.size));have hfin:Hid ((Zbk s n).isSome=ok):=Za (by rw[hsp];cases ok <;> rfl);replace hsp:=Za hsp;replace hs5:=Za hs5;clear hB4 hB5 hb3 p0 p1 p2 r0 r1 r2
 go_upto_region 6 with fail
 clear hw4 hw5
 go_wp2_with fail
 go_ret;exact⟨Yc (by rw[hf.out,hfin.out]),B5.out⟩}
theorem Ug (v:Qbf) (s:Rm) (a:Int) (w:Qbe) (h:Sto (Old w) w v s) :
  Qbk Tryz.prog 64 #[v,.int .i64 a] w fun e w'=>e=.returned (.tuple #[.int .i64 (ckH s a),.int .i64 (ckE s a)])/\Qbm w.heap.size w w':=by{
 obtain⟨A,ca,B,cb,N,cn,L,cl,rfl,_⟩:=id h.open;have hNd:=Za (fun v W hW=>Zib v s a W hW)
 have hway:Hid ((rmE s a≠0/\ckE s a=rmE s a/\ckH s a=0)\/(rmE s a=0/\Xz s=true/\mayN (rmV s a)=true/\0<=(rmV s a).1/\(rmV s a).1<6/\Zba s (rmV s a)=false/\ckE s a=8/\ckH s a=0) \/
   (rmE s a=0/\Xz s=true/\mayN (rmV s a)=true/\0<=(rmV s a).1/\(rmV s a).1<6/\Zba s (rmV s a)=true/\ckE s a=0/\ckH s a=(rmV s a).1+1)):=Za (by
  by_cases ha:asE s a=0
  ·by_cases hr:rmE s a=0
   ·obtain⟨hmn,_⟩:=Xf hr
    have hst:=Zng hr;obtain⟨k,_,hm,_⟩:=Vh ha;have hsh:=(Z0 hmn).1;cases ht:Ue s a with
    | false=>exact .inr (.inl ⟨hr,hm,hmn,hsh.1,hsh.2.1,hst.trans ht,(Zpv ha ht).1,(Zpv ha ht).2⟩)
    | true=>exact .inr (.inr ⟨hr,hm,hmn,hsh.1,hsh.2.1,hst.trans ht,(Zz5 ha ht).1,(Zz5 ha ht).2⟩)
   ·obtain⟨k,_,hm,_,h256,_,_,hE,_,_⟩:=Vh ha
    have h8:rmE s a=8:=by
     rw[hE] at hr ⊢;exact Zt3 (Zz9 (Yq hm).1 h256) hr
    obtain⟨h1,h2⟩:=Zpv ha (Z1i hr);exact .inl ⟨hr,h1.trans h8.symm,h2⟩
  ·obtain⟨hE,_⟩:=Zvm ha
   obtain⟨h1,h2⟩:=Z4y ha
   exact .inl ⟨by rw[hE];exact ha,h1.trans hE.symm,h2⟩)
 obtain⟨nd,hnd⟩:∃ q,rmV s a=q:=⟨_,rfl⟩
 obtain⟨E0,hE0⟩:∃ q,rmE s a=q:=⟨_,rfl⟩
 obtain⟨cE,hcE⟩:∃ q,ckE s a=q:=⟨_,rfl⟩
 obtain⟨cH,hcH⟩:∃ q,ckH s a=q:=⟨_,rfl⟩
 rw[hnd,hE0] at hNd hway;rw[hcE,hcH] at hway ⊢;obtain⟨lw,hlw⟩:∃ q,nd.1=q:=⟨_,rfl⟩
 obtain⟨m,hlm⟩:∃ q,nd.2.length=q:=⟨_,rfl⟩
 rw[hlw,hlm] at hNd;rw[hlw] at hway;have HG0:Bag w [Zyi (.agg #[.slice A s.1.1.length ca,.slice B s.1.2.length cb,.slice N s.2.1.length cn,.slice L s.2.2.length cl]) s]:=(Bag.nil w).add (F:=Zyi _ s) h (Zcf _ _);obtain⟨w0,hw0,hg0,hB0,_,hs0⟩:=Zjl HG0 (Qb _ _) (.slice A s.1.1.length ca) (.slice B s.1.2.length cb) (.slice N s.2.1.length cn) (.slice L s.2.2.length cl) 29;have HG:=Za hg0;have BB:=Za hB0;obtain⟨s0,s1,s2,s3,_⟩:=HG.out.at 0 rfl;replace hs0:=Za hs0;replace hnd:=Za hnd;replace hE0:=Za hE0;replace hcE:=Za hcE;replace hcH:=Za hcH;replace hlw:=Za hlw;replace hlm:=Za hlm;clear HG0 hg0 h hB0
 go_enter Tryz.func64,Tryz.ntmps64
 go_upto_region 1 with fail
 clear hw0
 go_wp2_with fail
 with_reducible refine(hNd.out _ _ (HG.out.at 1 rfl)).mono ?_
 rintro e w3 ⟨Z,zc,rfl,-,h3n,hb3⟩;obtain⟨w4,hw4,hg4,hb4,-,hs4⟩:=Zfr ((HG.out.below hb3).add (F:=Z18 _ nd) h3n.drop (Zcn _ _)) (Qb _ _) (.int .i64 lw) (.slice Z m zc);replace HG:=Za hg4;replace BB:=Za (BB.out.trans ((hb3.trans (hb4.mono hb3.size)).mono BB.out.size));replace hs4:=Za hs4;clear hg4 hb4 hb3 h3n s0 s1 s2 s3 hNd
 go_upto_region 2 with fail
 clear hw4;rcases hway.out with ⟨he,h1,h2⟩ | ⟨he,hm,hmn,l0,l6,hst,h1,h2⟩ | ⟨he,hm,hmn,l0,l6,hst,h1,h2⟩
 ·have e1:(E0 != 0)=true:=by simpa using he
  replace h1:=Za h1;replace h2:=Za h2;clear he hway
  go_wp2_with fail
  go_ret2
  exact⟨by rw[h1.out,h2.out];rfl,BB.out⟩
 ·have hcall:=Za (Ziz _ _ s hm nd hmn w4 (HG.out.at 3 rfl) (HG.out.at 1 rfl))
  rw[hst] at hcall;subst he;obtain⟨y0,y1,_⟩:=HG.out.at 0 rfl;obtain⟨s0,s1,s2,s3,_⟩:=HG.out.at 2 rfl;replace h1:=Za h1;replace h2:=Za h2;clear hway hst hm hmn l0 l6
  go_wp2_with fail
  with_reducible refine hcall.out.mono ?_
  rintro e w5 ⟨rfl,hb5⟩;have B5:=Za (BB.out.trans (hb5.mono BB.out.size));clear hb5
  go_wp2_with fail
  go_ret2
  exact⟨by rw[h1.out,h2.out];rfl,B5.out⟩
 ·have hcall:=Za (Ziz _ _ s hm nd hmn w4 (HG.out.at 3 rfl) (HG.out.at 1 rfl))
  rw[hst] at hcall;subst he;obtain⟨y0,y1,_⟩:=HG.out.at 0 rfl;obtain⟨s0,s1,s2,s3,_⟩:=HG.out.at 2 rfl;have i9:IntKind.i64.wrap (lw+1)=lw+1:=Qz _ (by omega);replace h1:=Za h1;replace h2:=Za h2;clear hway hst hm hmn l0 l6
  go_wp2_with fail
  with_reducible refine hcall.out.mono ?_
  rintro e w5 ⟨rfl,hb5⟩;have B5:=Za (BB.out.trans (hb5.mono BB.out.size));have HG5:=HG.out.below hb5;clear hb5 y0 y1;obtain⟨y0,y1,_⟩:=HG5.at 0 rfl;clear HG5
  go_wp2_with fail
  go_ret2
  exact⟨by rw[h1.out,h2.out];rfl,B5.out⟩}
theorem Z2j {a b c:Ky}(h:Zr a b=true) (h':Zr c b=false):Zr a c=true:=by
 by_cases e:c=b
 ·rw[e];exact h
 ·exact Yz h (Za5 e h')
theorem U8 {p:It->Bool}{L:List It}(h:∀ x∈L,p x=false):L.filter p=[]:=by
 rw[Qap];intro x hx;rw[h x hx];simp
def Y4 (s:Rm):Nat->Int->List Int
 | 0,a=>[a]
 | l+1,a=>a::(rmV s a).2.flatMap fun x=>Y4 s l x.2.1
def Zpj (s:Rm) (a:Int):List Int:=Y4 s (rmV s a).1.toNat a
def Z6g (L:List Int):List Nat:=(List.range 256).filter fun k=>decide ((k:Int)∈L)
theorem Za4 {s:Rm}{n:Int}(h:rmE s n=0):8<=n/\n<256/\s.2.1[n.toNat]?.getD 0≠0:=by
 obtain⟨k,rfl,_,h8,h256,_,_,_,_,hx⟩:=Vh (Xf h).2;exact⟨by omega,by omega,by rw[show ((k:Int)).toNat=k by omega];exact hx⟩
def fkN (s:Rm) (n:Int):Option Ky:=((rmV s n).2[0]?).map (·.1)
theorem LeK.not_less {a b:Ky}(h:LeK a b):Zr b a=false:=by
 rcases h with rfl | h
 ·exact Xe _
 ·exact Ut h
structure Nds (s:Rm) (l:Nat) (N:List Int) (k tb:Ky) (e:Bool):Prop where
 key:∀ n∈N,∃ f,fkN s n=some f/\LeK k f/\(e=true->Zr f tb=true)
 lvl:∀ n∈N,(rmV s n).1<=(l:Int)
 once:N.Nodup
theorem Zor {s:Rm}{l:Nat}{f:Int->Ky->Ky->Bool->Bool}{g:Int->List Int}(hg:∀ a,a∈g a) (hf:∀ a k tb e,f a k tb e=true->Nds s l (g a) k tb e):∀ (L:List It) (x:It) (r:List It) (tb:Ky) (e:Bool),L=x::r->Zbq f L tb e=true->Nds s l (L.flatMap fun x=>g x.2.1) x.1 tb e
 | [x],_,_,tb,e,rfl,h=>by
  have:=hf _ _ _ _ h
  simpa using this
 | x::y::r,_,_,tb,e,rfl,h=>by
  unfold Zbq at h;rw[Qi] at h;have hx:=hf _ _ _ _ h.1;have hy:=Zor hg hf (y::r) y r tb e rfl h.2;have e2:(x::y::r).flatMap (fun x=>g x.2.1)=g x.2.1++(y::r).flatMap fun x=>g x.2.1:=Qr
  rw[e2];have hyin:y.2.1∈(y::r).flatMap fun x=>g x.2.1:=Py.2 ⟨y,by simp,hg _⟩
  have hxy:Zr x.1 y.1=true:=by
   obtain⟨q,_,h1,h2⟩:=hx.key x.2.1 (hg _);exact h1.lt (h2 rfl)
  refine⟨fun n hn=> ?_,fun n hn=> ?_,?_⟩
  ·rcases Qj.1 hn with hn | hn
   ·obtain⟨q,e1,h1,h2⟩:=hx.key n hn
    refine⟨q,e1,h1,fun he=> ?_⟩;obtain⟨q',_,h3,h4⟩:=hy.key y.2.1 hyin;exact Yz (h2 rfl) (h3.lt (h4 he))
   ·obtain⟨q,e1,h1,h2⟩:=hy.key n hn
    exact⟨q,e1,LeK.trans (.inr hxy) h1,h2⟩
  ·rcases Qj.1 hn with hn | hn
   ·exact hx.lvl n hn
   ·exact hy.lvl n hn
  ·refine Qax.2 ⟨hx.once,hy.once,fun a ha b hb e=> ?_⟩
   subst e;obtain⟨q,e1,_,h2⟩:=hx.key a ha;obtain⟨q',e1',h1',_⟩:=hy.key a hb;rw[e1] at e1';cases e1';have:=h1'.not_less;rw[h2 rfl] at this;cases this
theorem Zme (s:Rm):∀ (l:Nat) (a:Int),a∈Y4 s l a
 | 0,a=>by simp[Y4]
 | l+1,a=>by simp[Y4]
theorem Zma (s:Rm):∀ (l:Nat) (a:Int) (k tb:Ky) (e:Bool),Yx s l a k tb e=true->Nds s l (Y4 s l a) k tb e
 | 0,a,k,tb,e,h=>by
  obtain⟨h1,h2,h3,_⟩:=Xw h;obtain⟨x,r,ex,ek,hz⟩:=Zb0 h3;have hu:=Za3 (Xf h1).1;refine⟨fun n hn=> ?_,fun n hn=> ?_,by simp[Y4]⟩
  ·simp only[Y4,Ql] at hn
   subst hn;refine⟨k,by rw[fkN,ex,<- ek];rfl,.inl rfl,fun he=> ?_⟩;obtain⟨z,e1,e2⟩:=hz he;have:=Zj7 hu e1 e2 x (by rw[ex];simp)
   rwa [ek] at this
  ·simp only[Y4,Ql] at hn
   subst hn;omega
 | l+1,a,k,tb,e,h=>by
  obtain⟨h1,h2,h3,h4⟩:=Xw h;obtain⟨x,r,ex,ek,hz⟩:=Zb0 h3;have hu:=Za3 (Xf h1).1;have hn:=Zor (Zme s l) (Zma s l) (rmV s a).2 x r tb e ex h4;have hno:a∉(rmV s a).2.flatMap fun x=>Y4 s l x.2.1:=fun ha=>by
   have:=hn.lvl a ha;omega
  refine⟨fun n hn'=> ?_,fun n hn'=> ?_,?_⟩
  ·simp only[Y4,Qm] at hn'
   rcases hn' with rfl | hn'
   ·refine⟨k,by rw[fkN,ex,<- ek];rfl,.inl rfl,fun he=> ?_⟩
    obtain⟨z,e1,e2⟩:=hz he;have:=Zj7 hu e1 e2 x (by rw[ex];simp)
    rwa [ek] at this
   ·rw[<- ek]
    exact hn.key n hn'
  ·simp only[Y4,Qm] at hn'
   rcases hn' with rfl | hn'
   ·omega
   ·have:=hn.lvl n hn'
    omega
  ·exact P5.2 ⟨hno,hn.once⟩
theorem Zws {s:Rm}{a:Int}(h:Ue s a=true):(Zpj s a).Nodup:=by{
 obtain⟨h1,_,hm,l0,_,hi⟩:=Zak h;unfold Zpj;unfold Ze1 at hi;cases hl:(rmV s a).1.toNat with
 | zero=>simp[Y4]
 | succ l =>
  rw[hl] at hi;have hne:(rmV s a).2≠[]:=fun e=>by
   have:=(Z0 hm).1.2.2.2 (by omega);rw[e] at this;simp at this
  obtain⟨x,r,ex⟩:=List.exists_cons_of_ne_nil hne;have hn:=Zor (Zme s l) (Zma s l) (rmV s a).2 x r Zed false ex hi;have hno:a∉(rmV s a).2.flatMap fun x=>Y4 s l x.2.1:=fun ha=>by
   have:=hn.lvl a ha;omega
  exact P5.2 ⟨hno,hn.once⟩}
abbrev Sg:=List Int×List Int
def frU (R:List Int) (i:Int):List Int:=R.set i.toNat (R[i.toNat]?.getD 0+1)
def X4 (f:Int->Sg->Sg) (g:Sg) (x:It):Sg:=if x.2.1=0 then g else f x.2.1 (g.1,frU g.2 x.2.1)
def Vw (s:Rm):Nat->Int->Sg->Sg
 | 0,a,g=>if a∈g.1 then g else (rmV s a).2.foldl (X4 fun _ g=>g) (g.1++[a],g.2)
 | l+1,a,g=>if a∈g.1 then g else (rmV s a).2.foldl (X4 (Vw s l)) (g.1++[a],g.2)
def frB (s:Rm):Nat->Int->Sg->Sg
 | 0=>fun _ g=>g
 | l+1=>Vw s l
theorem Zi9 {s:Rm}{l:Nat}{a:Int}{g:Sg}(h:a∈g.1):Vw s l a g=g:=by
 cases l <;> (unfold Vw;rw[if_pos h])
theorem Za6 {s:Rm}{l:Nat}{a:Int}{g:Sg}(h:a∉g.1):Vw s l a g=(rmV s a).2.foldl (X4 (frB s l)) (g.1++[a],g.2):=by{
 cases l with
 | zero=>unfold Vw;rw[if_neg h];rfl
 | succ l =>
  conv=>lhs;unfold Vw
  rw[if_neg h];rfl}
structure Gg (s:Rm) (g:Sg) (n:Nat):Prop where
 len:g.2.length=256
 few:∀ k:Nat,0<=g.2[k]?.getD 0/\g.2[k]?.getD 0<=(n:Int)
 many:g.1.length<=n
 keys:∀ m∈g.1,rmE s m=0/\1<=g.2[m.toNat]?.getD 0
theorem Gg.mono {s:Rm}{g:Sg}{n m:Nat}(h:Gg s g n) (hn:n<=m):Gg s g m :=
 ⟨h.len,fun k=>⟨(h.few k).1,by have:=(h.few k).2;omega⟩,Qc h.many hn,h.keys⟩
structure Mor (g g':Sg):Prop where
 keys:∀ m∈g.1,m∈g'.1
 refs:∀ k:Nat,g.2[k]?.getD 0<=g'.2[k]?.getD 0
theorem Mor.refl (g:Sg):Mor g g:=⟨fun _ h=>h,fun _=>Int.le_refl _⟩
theorem Mor.trans {a b c:Sg}(h:Mor a b) (h':Mor b c):Mor a c:=⟨fun m hm=>h'.keys m (h.keys m hm),fun k=>Int.le_trans (h.refs k) (h'.refs k)⟩
theorem Z3b {R:List Int}{i:Int}(hi:0<=i) (hl:i<(R.length:Int)) (k:Nat):(frU R i)[k]?.getD 0=R[k]?.getD 0+if k=i.toNat then 1 else 0:=by{
 unfold frU;by_cases e:k=i.toNat
 ·subst e
  rw[if_pos rfl,List.getElem?_set_self (by omega)];rfl
 ·rw[if_neg e,List.getElem?_set_ne (fun h=>e h.symm),Int.add_zero]}
theorem Z3g {s:Rm}{g:Sg}{n:Nat}(h:Gg s g n){i:Int}(h0:0<=i) (h1:i<256):Gg s (g.1,frU g.2 i) (n+1)/\Mor g (g.1,frU g.2 i)/\1<=(frU g.2 i)[i.toNat]?.getD 0:=by{
 have hg:=Z3b (R:=g.2) h0 (by rw[h.len];omega);refine⟨⟨by unfold frU;rw[Qu];exact h.len,fun k=> ?_,Nat.le_succ_of_le h.many,fun m hm=>⟨(h.keys m hm).1,?_⟩⟩,⟨fun _ h=>h,fun k=> ?_⟩,?_⟩
 ·have:=h.few k
  show 0<=(frU g.2 i)[k]?.getD 0/\(frU g.2 i)[k]?.getD 0<=_;rw[hg k];split <;> omega
 ·have:=(h.keys m hm).2
  show 1<=(frU g.2 i)[m.toNat]?.getD 0;rw[hg];split <;> omega
 ·show g.2[k]?.getD 0<=(frU g.2 i)[k]?.getD 0
  rw[hg];split <;> omega
 ·have:=h.few i.toNat
  rw[hg,if_pos rfl];omega}
theorem Z0x {s:Rm}{a:Int}(h:rmE s a=0){x:It}(hx:x∈(rmV s a).2):0<=x.2.1/\x.2.1<256:=by
 obtain⟨i,hi,rfl⟩:=List.mem_iff_getElem.1 hx;have h1:=(Z0 (Xf h).1).2 i hi;have h2:=Z0v (Qf hi) h1;have h3:=(Ud (Zn3 h2)).1;omega
def Zzm (s:Rm) (l:Nat) (r:Int):Prop:=∀ (g:Sg) (n:Nat),Gg s g n->1<=g.2[r.toNat]?.getD 0->Gg s (frB s l r g) (n+3*7 ^ l)/\Mor g (frB s l r g)
theorem Z26 {s:Rm}{l:Nat}{x:It}(hx:x.2.1=0\/(0<=x.2.1/\x.2.1<256/\Zzm s l x.2.1)){g:Sg}{n:Nat}(h:Gg s g n):Gg s (X4 (frB s l) g x) (n+(1+3*7 ^ l))/\Mor g (X4 (frB s l) g x):=by{
 unfold X4;by_cases h0:x.2.1=0
 ·rw[if_pos h0]
  exact⟨h.mono (by omega),Mor.refl g⟩
 ·rw[if_neg h0]
  obtain⟨a0,a1,hb⟩:=hx.resolve_left h0;obtain⟨g1,g2,g3⟩:=Z3g h a0 a1;obtain⟨b1,b2⟩:=hb _ _ g1 g3;exact⟨b1.mono (by omega),g2.trans b2⟩}
theorem Zjk {s:Rm}{l:Nat}:∀ (L:List It) (g:Sg) (n:Nat),(∀ x∈L,x.2.1=0\/(0<=x.2.1/\x.2.1<256/\Zzm s l x.2.1))->Gg s g n->Gg s (L.foldl (X4 (frB s l)) g) (n+L.length*(1+3*7 ^ l))/\Mor g (L.foldl (X4 (frB s l)) g)
 | [],g,n,_,h=>⟨h.mono (by simp),Mor.refl g⟩
 | x::r,g,n,hx,h=>by
  obtain⟨h1,h2⟩:=Z26 (hx x Qy) h;obtain⟨h3,h4⟩:=Zjk r _ _ (fun y hy=>hx y (Qs _ hy)) h1;rw[P7,Q5,Nat.add_mul,Nat.one_mul];exact⟨h3.mono (by omega),h2.trans h4⟩
theorem Z3w {s:Rm}{g:Sg}{n:Nat}(h:Gg s g n){a:Int}(he:rmE s a=0) (h1:1<=g.2[a.toNat]?.getD 0):Gg s (g.1++[a],g.2) (n+1)/\Mor g (g.1++[a],g.2) :=
 ⟨⟨h.len,(h.mono (Nat.le_succ n)).few,by rw[Qn,P8];have:=h.many;omega,fun m hm=>by
  rcases Qj.1 hm with hm | hm
  ·exact h.keys m hm
  ·rw[Ql.1 hm];exact⟨he,h1⟩⟩,⟨fun _ hm=>Qay _ hm,fun _=>Int.le_refl _⟩⟩
theorem Zt5 (s:Rm):∀ (l:Nat) (r:Int),(∀ j,l=j+1->AtT s j r)->Zzm s l r
 | 0,r,_=>fun g n h _=>⟨h.mono (by omega),Mor.refl g⟩
 | l+1,r,hat=>fun g n h h1=>by
  have hA:=hat l rfl;show Gg s (Vw s l r g) _/\Mor g (Vw s l r g);by_cases hin:r∈g.1
  ·rw[Zi9 hin]
   exact⟨h.mono (by omega),Mor.refl g⟩
  ·rw[Za6 hin]
   obtain⟨k1,k2⟩:=Z3w h hA.ok h1
   obtain⟨k3,k4⟩:=Zjk (rmV s r).2 _ _ (fun x hx=>by
    obtain⟨x0,x1⟩:=Z0x hA.ok hx
    exact .inr ⟨x0,x1,Zt5 s l x.2.1 fun j hj=>by subst hj;exact hA.down hx⟩) k1
   refine⟨k3.mono ?_,k2.trans k4⟩;have h5:=(Z0 hA.may).1.2.2.1;have:=Qaa (1+3*7 ^ l) h5;have h7:1<=7 ^ l:=Qaz _ _ (by decide);rw[Q8];omega
theorem Zwm {s:Rm}{l:Nat}{a:Int}(h:AtT s l a){x:It}(hx:x∈(rmV s a).2):x.2.1=0\/(0<=x.2.1/\x.2.1<256/\Zzm s l x.2.1):=by
 obtain⟨x0,x1⟩:=Z0x h.ok hx;exact .inr ⟨x0,x1,Zt5 s l x.2.1 fun j hj=>by subst hj;exact h.down hx⟩
theorem Ztt {s:Rm}{l:Nat}{a:Int}{g:Sg}{n:Nat}(hA:a∈g.1\/AtT s l a) (h:Gg s g n) (h1:1<=g.2[a.toNat]?.getD 0):Gg s (Vw s l a g) (n+3*7 ^ (l+1))/\Mor g (Vw s l a g)/\a∈(Vw s l a g).1:=by{
 by_cases hin:a∈g.1
 ·rw[Zi9 hin]
  exact⟨h.mono (by omega),Mor.refl g,hin⟩
 ·obtain⟨b1,b2⟩:=Zt5 s (l+1) a (fun j hj=>by cases hj;exact hA.resolve_left hin) g n h h1
  refine⟨b1,b2,?_⟩;rw[Za6 hin];have hat:=hA.resolve_left hin;obtain⟨k1,_⟩:=Z3w h hat.ok h1;obtain⟨_,k4⟩:=Zjk (rmV s a).2 _ _ (fun x hx=>Zwm hat hx) k1;exact k4.keys a (Qa0 _ (Ql.2 rfl))}
theorem Zp0 {s:Rm}{l:Nat}(hr:∀ (a:Int) (g:Sg),AtT s l a->(Y4 s l a).Nodup->(∀ b∈Y4 s l a,b∉g.1)->∀ m,m∈(Vw s l a g).1↔m∈g.1\/m∈Y4 s l a) :
  ∀ (L:List It) (g:Sg),(∀ x∈L,AtT s l x.2.1)->(L.flatMap fun x=>Y4 s l x.2.1).Nodup->(∀ b∈L.flatMap fun x=>Y4 s l x.2.1,b∉g.1)->∀ m,m∈(L.foldl (X4 (Vw s l)) g).1↔m∈g.1\/m∈L.flatMap fun x=>Y4 s l x.2.1
 | [],g,_,_,_,m=>by simp
 | x::r,g,hA,hn,ho,m=>by
  rw[Qr] at hn ho ⊢;obtain⟨n1,n2,n3⟩:=Qax.1 hn;have hx:=hA x Qy;have h0:x.2.1≠0:=by have:=Za4 hx.ok;omega
  have e:=hr x.2.1 (g.1,frU g.2 x.2.1) hx n1 (fun b hb=>ho b (Qay _ hb));have es:X4 (Vw s l) g x=Vw s l x.2.1 (g.1,frU g.2 x.2.1):=if_neg h0
  rw[P7,es,Zp0 hr r _ (fun y hy=>hA y (Qs _ hy)) n2 (fun b hb hin=>by
   rcases(e b).1 hin with h | h
   ·exact ho b (Qa0 _ hb) h
   ·exact n3 b h b hb rfl) m,e m,Qj,or_assoc]
theorem Zo7 (s:Rm):∀ (l:Nat) (a:Int) (g:Sg),AtT s l a->(Y4 s l a).Nodup->(∀ b∈Y4 s l a,b∉g.1)->∀ m,m∈(Vw s l a g).1↔m∈g.1\/m∈Y4 s l a
 | 0,a,g,_,_,ho,m=>by
  have hf:∀ (L:List It) (g:Sg),(L.foldl (X4 (frB s 0)) g).1=g.1:=fun L=>by
   induction L with
   | nil=>intro g;rfl
   | cons x r ih =>
    intro g;rw[P7,ih];unfold X4;split <;> rfl
  rw[Za6 (ho a (by unfold Y4;simp)),hf];unfold Y4;rw[Qj]
 | l+1,a,g,hA,hn,ho,m=>by
  unfold Y4 at hn ho ⊢;obtain⟨n1,n2⟩:=P5.1 hn
  rw[Za6 (ho a Qy),show frB s (l+1)=Vw s l from rfl,Zp0 (Zo7 s l) _ _ (fun x hx=>hA.down hx) n2 (fun b hb hin=>by
   rcases Qj.1 hin with h | h
   ·exact ho b (Qs _ hb) h
   ·rw[Ql.1 h] at hb
    exact n1 hb) m,Qj,Ql,Qm,or_assoc]
def Z8 (s:Rm):List Int->Sg->Bool×Sg
 | [],g=>(true,g)
 | a::r,g=>by
  classical
  exact if a∈g.1\/ckE s a=0 then Z8 s r (Vw s (rmV s a).1.toNat a (g.1,frU g.2 a)) else (false,g)
theorem Zcj {s:Rm}{a:Int}{r:List Int}{g:Sg}(h:a∈g.1\/ckE s a=0):Z8 s (a::r) g=Z8 s r (Vw s (rmV s a).1.toNat a (g.1,frU g.2 a)):=by
 unfold Z8;rw[if_pos h];cases r <;> rfl
theorem Zki {s:Rm}{a:Int}{r:List Int}{g:Sg}(h:¬ (a∈g.1\/ckE s a=0)):(Z8 s (a::r) g).1=false:=by
 unfold Z8;rw[if_neg h]
theorem Zco {s:Rm}:∀ (L M:List Int) (g:Sg),Z8 s (L++M) g=if (Z8 s L g).1=true then Z8 s M (Z8 s L g).2 else Z8 s L g
 | [],M,g=>by
  have:Z8 s [] g=(true,g):=rfl;rw[Pf,this];rfl
 | a::r,M,g=>by
  rw[Pd];by_cases h:a∈g.1\/ckE s a=0
  ·rw[Zcj h,Zcj h]
   exact Zco r M _
  ·conv=>lhs;unfold Z8
   conv=>rhs;unfold Z8
   rw[if_neg h,if_neg h];rfl
theorem Zfe {s:Rm}{a:Int}(h:ckE s a=0):AtT s (rmV s a).1.toNat a/\(rmV s a).1.toNat<=5:=by
 obtain⟨htr,_,_⟩:=Zlv h;obtain⟨_,_,_,l0,l6,_⟩:=Zak htr;exact⟨Znf htr,by omega⟩
theorem Zkb {s:Rm}{a:Int}{g:Sg}{n:Nat}(h:a∈g.1\/ckE s a=0) (hg:Gg s g n):8<=a/\a<256/\Gg s (g.1,frU g.2 a) (n+1)/\1<=(frU g.2 a)[a.toNat]?.getD 0/\(a∈g.1\/AtT s (rmV s a).1.toNat a)/\(rmV s a).1.toNat<=5 /\
  Gg s (Vw s (rmV s a).1.toNat a (g.1,frU g.2 a)) (n+400000)/\Mor g (Vw s (rmV s a).1.toNat a (g.1,frU g.2 a))/\a∈(Vw s (rmV s a).1.toNat a (g.1,frU g.2 a)).1:=by{
 have he:rmE s a=0:=by
  rcases h with h | h
  ·exact(hg.keys a h).1
  ·exact(Zfe h).1.ok
 obtain⟨h8,h256,_⟩:=Za4 he;have hlv:(rmV s a).1.toNat<=5:=by
  have:=(Z0 (Xf he).1).1;omega
 obtain⟨u1,u2,u3⟩:=Z3g hg (by omega:0<=a) h256;have hA:a∈g.1\/AtT s (rmV s a).1.toNat a:=h.imp id fun h=>(Zfe h).1
 obtain⟨r1,r2,r3⟩:=Ztt (g:=(g.1,frU g.2 a)) hA u1 u3;refine⟨h8,h256,u1,u3,hA,hlv,r1.mono ?_,u2.trans r2,r3⟩;have:7 ^ ((rmV s a).1.toNat+1)<=7 ^ 6:=Qw (by decide) (by omega);omega}
theorem Zbt {s:Rm}:∀ (L:List Int) (g g':Sg) (n:Nat),Gg s g n->Z8 s L g=(true,g')->Gg s g' (n+L.length*400000)/\Mor g g'/\∀ r∈L,r∈g'.1
 | [],g,g',n,hg,h=>by
  cases h;exact⟨hg.mono (by simp),Mor.refl _,fun r hr=>by cases hr⟩
 | a::r,g,g',n,hg,h=>by
  by_cases hc:a∈g.1\/ckE s a=0
  ·rw[Zcj hc] at h
   obtain⟨_,_,_,_,_,_,k1,k2,k3⟩:=Zkb hc hg;obtain⟨m1,m2,m3⟩:=Zbt r _ g' _ k1 h;refine⟨m1.mono (by rw[Q5,Nat.add_mul,Nat.one_mul];omega),k2.trans m2,fun q hq=> ?_⟩;rcases Qm.1 hq with rfl | hq
   ·exact m2.keys _ k3
   ·exact m3 q hq
  ·have:=Zki (r:=r) hc
   rw[h] at this;cases this
structure Zcq (M:Nat->Prop) (o o':Option Nat) (W W':Qbe):Prop where
 size:W.heap.size<=W'.heap.size
 same:∀ k,k<W.heap.size->¬ M k->o≠some k->W'.heap[k]? = W.heap[k]? /\ o'≠some k
theorem Zcq.refl (M:Nat->Prop) (o:Option Nat) (W:Qbe):Zcq M o o W W:=⟨Qe _,fun _ _ _ h=>⟨rfl,h⟩⟩
theorem Zcq.trans {M:Nat->Prop}{o o' q:Option Nat}{A B C:Qbe}(h:Zcq M o o' A B) (h':Zcq M o' q B C):Zcq M o q A C :=
 ⟨Qc h.size h'.size,fun k hk hm ho=>by
  obtain⟨e,n⟩:=h.same k hk hm ho;obtain⟨e',n'⟩:=h'.same k (Qk hk h.size) hm n
  exact⟨e'.trans e,n'⟩⟩
theorem Zcq.grown {M:Nat->Prop}{o q:Option Nat}{A B C:Qbe}{row:Option Nat}(h:Zcq M o q A B) (hg:B.grownBy C row) (hr:∀ r,row=some r->A.heap.size<=r\/M r):Zcq M o q A C :=
 ⟨Qc h.size hg.size,fun k hk hm ho=>by
  obtain⟨e,n⟩:=h.same k hk hm ho;refine⟨(hg.block k (Qk hk h.size) (fun e'=> ?_)).trans e,n⟩;rcases hr k e'.symm with h1 | h1
  ·omega
  ·exact hm h1⟩
theorem Zcq.wide {M M':Nat->Prop}{o q:Option Nat}{A B:Qbe}(h:Zcq M o q A B) (hM:∀ k,k<A.heap.size->M k->M' k):Zcq M' o q A B :=
 ⟨h.size,fun k hk hm ho=>h.same k hk (fun h1=>hm (hM k hk h1)) ho⟩
theorem Zcq.cell {M:Nat->Prop}{o q:Option Nat}{A B:Qbe}(h:Zcq M o q A B){p:Qbg}(hp:p.block<A.heap.size) (hm:¬ M p.block) (ho:o≠some p.block):B.cell? p=A.cell? p:=Qab (h.same _ hp hm ho).1
theorem Zbb {W W':Qbe}(h:Qbm W.heap.size W W'):W.grownBy W' none:=⟨h.os,h.tape,h.output,h.size,fun k hk _=>h.block k hk⟩
def Z04 {α:Type}(M:Nat->Prop) (J Jx:List α×Option Nat->Qbe->Prop) (xs:List α) (o:Option Nat) (W:Qbe):Qbl->Qbe->Prop:=fun e W' =>
 ∃ o',Zcq M o o' W W'/\((e=.returned (.bool true)/\J (xs,o') W')\/(e=.returned (.bool false)/\Jx (xs,o') W'))
def Z6n {α:Type}(P:Program) (g:Nat) (lb:Array Qbf) (encs:α->Array Qbf) (T:Nat->List α->α->Option Nat->Qbe->Prop) (End:List α->Prop) (Z:Nat->Prop) (w:Qbe):Prop :=
 ∀ (l:Nat) (M:Nat->Prop) (J Jx:List α×Option Nat->Qbe->Prop) (o:Option Nat) (W:Qbe),Qbm w.heap.size w W->OwnFrom W.heap.size J->OwnFrom W.heap.size Jx ->
  (∀ k,M k->k<W.heap.size)->(∀ s W1,J s W1->W.heap.size<=W1.heap.size/\∀ k,s.2=some k->k<W1.heap.size)->(∀ k,Z k->¬ M k/\o≠some k) ->
  (∀ pre q x W1,J (pre,q) W1->T W.heap.size pre x q W1->YieldAt Fence.wide 0 P l (encs x) W1 (Z04 M J Jx (pre++[x]) q W1)) ->
  J ([],o) W->Qbk P g (#[.func (.yield l) #[] #[]]++lb) W fun e W'=>(∃ v,e=.returned v)/\((∃ xs q,End xs/\J (xs,q) W')\/(∃ pre q,Jx (pre,q) W'))
theorem Zro {P:Program}{l f m:Nat}{tmps:Array Qbf}{assign body:Code}{w:Qbe}{R:Qbl->Qbe->Prop}(h:RoundIn Fence.wide 0 P l f tmps assign body w R):RoundIn Fence.wide m P l f tmps assign body w R :=
 ⟨h.1,fun c cs _=>h.2 c cs (room_wide _)⟩
def Zxj {α:Type}(M:Nat->Prop) (I:List α×Option Nat->Qbe->Prop) (Ix:Code->List α×Option Nat->Qbe->Prop) (xs:List α) (o:Option Nat) (W:Qbe):Exit->Act->Qbe->Prop
 | .normal,_,W'=>∃ q,Zcq M o q W W'/\I (xs,q) W'
 | .ret,_,W'=>∃ q,Zcq M o q W W'/\Ix .ret (xs,q) W'
 | .exit id,_,W'=>∃ q,Zcq M o q W W'/\Ix (.exit id) (xs,q) W'
 | .goto t,_,W'=>∃ q,Zcq M o q W W'/\Ix (.goto t) (xs,q) W'
 | .panic _,_,_=>False
 | .outgrown,_,_=>False
theorem Zty {α:Type}{P:Program}{M:Nat->Prop}{I J Jx:List α×Option Nat->Qbe->Prop}{B D L:Nat}{rec:LoopState->Option Code->Loop}(hrec:∀ s c,{ rec s c with state:=.ready,pending:=none }=rec .ready none/\∀ s' c',{ rec s c with state:=s',pending:=c' }=rec s' c')
  {W W':Qbe} {xs:List α} {o q:Option Nat} (jump:Option Code) (hL:W.heap[L]? = some (.loop (rec .busy none))) (hD:W.heap[D]? = some (.deferred (some []))) (hDL:D≠L) (hBL:B<=L) (hML:¬ M L) (hMD:¬ M D) (hoL:o≠some L) (hoD:o≠some D)
  (hk:Zcq M o q W W') (hI:OwnFrom B I) (hi:I (xs,q) W')
  (hfin:∀ W2,I (xs,q) W2->W2.heap[L]? = some (.loop (rec (if jump.isNone then .ready else .done) jump))->W2.heap[D]? = some (.deferred (some []))->q≠some L->q≠some D->if jump.isNone then J (xs,q) W2 else Jx (xs,q) W2) :
  ∃ v W2,(Instr.endRound L jump).run P W'=.ok v W2/\Zcq (fun k=>M k\/k=L) o q W W2/\((v=.bool true/\J (xs,q) W2)\/(v=.bool false/\Jx (xs,q) W2)):=by{
 obtain⟨e1,n1⟩:=hk.same L (Qa.1 hL).1 hML hoL;obtain⟨e2,n2⟩:=hk.same D (Qa.1 hD).1 hMD hoD;have hL3:=e1.trans hL;have hD3:=e2.trans hD;have hrun:=run_endRound (P:=P) jump hL3;rw[(hrec .busy none).2] at hrun;have hf:=hfin _ (hI.putObj (.loop (rec (if jump.isNone then .ready else .done) jump)) hi hBL hL3 rfl) (Qa1 (Qa.1 hL3).1) ((Pg hDL).trans hD3) n1 n2;refine⟨_,_,hrun,?_,?_⟩
 ·exact(hk.wide fun _ _ h=>.inl h).grown (grownBy_putObj' _ _ _) fun r e=>by cases e;exact .inr (.inr rfl)
 ·cases jump with
  | none=>exact .inl ⟨rfl,by simpa using hf⟩
  | some c=>exact .inr ⟨rfl,by simpa using hf⟩}
theorem Zij {α:Type}{P:Program}{g:Operand}{ps:Array Tmp}{assign body:Code}{Q:Exit->Act->Qbe->Prop}{a:Act}{w:Qbe}{m:Nat}{gf:Nat}{lb:Array Qbf}
  (hg:a.eval g=.func (.func gf) #[] lb) (eg:∀ args w,(callFunc gf args).run P w=.ok (.enter gf args) w)
  {encs:α->Array Qbf} {T:Nat->List α->α->Option Nat->Qbe->Prop} {End:List α->Prop} {Z:Nat->Prop} (hseq:Z6n P gf lb encs T End Z w) (hps:∀ x,(encs x).size=ps.size)
  (M:Nat->Prop) (hM:∀ k,M k->k<w.heap.size) (o:Option Nat) (hZ:∀ k,Z k->k<w.heap.size/\¬ M k/\o≠some k)
  (I:List α×Option Nat->Qbe->Prop) (Ix:Code->List α×Option Nat->Qbe->Prop) (hI:OwnFrom w.heap.size I) (hIx:∀ c,OwnFrom w.heap.size (Ix c)) (hIo:∀ s W,I s W->∀ k,s.2=some k->k<W.heap.size) (h0:I ([],o) w)
  (Ax:α->Act->Qbe->Prop) (hAx:∀ x a',OwnFrom w.heap.size (fun(_:Unit) W=>Ax x a' W)) (hT:∀ pre x q,OwnFrom w.heap.size (fun(_:Unit) W=>T (w.heap.size+2) pre x q W))
  (hassign:∀ (l:Nat) (pre:List α) (q:Option Nat) (x:α) (W:Qbe) (K:Act->Qbe->Prop),I (pre,q) W->T (w.heap.size+2) pre x q W->(∀ a' W',W.grownBy W' none->Ax x a' W'->K a' W') ->
   assign.wpIn (Fence.wide.inRound l) 0 P (Exit.then K (fun _ _ _=>False)) { tmps:=(ps.zip (encs x)).foldl (fun t (p,v)=>t.setIfInBounds p v) a.tmps,defers:=[] } W)
  (hbody:∀ (l:Nat) (pre:List α) (q:Option Nat) (x:α) (a':Act) (W:Qbe),w.heap.size+2<=W.heap.size->I (pre,q) W->Ax x a' W->T (w.heap.size+2) pre x q W->body.wpIn (Fence.wide.inRound l) 0 P (Zxj M I Ix (pre++[x]) q W) a' W)
  (hdone:∀ (xs:List α) (q:Option Nat) (W:Qbe),w.heap.size<W.heap.size->End xs->I (xs,q) W->W.heap[w.heap.size]? = some (.deferred (some []))->q≠some w.heap.size->Q .normal { a with defers:={ target:=.collected w.heap.size,args:=#[] }::a.defers } W)
  (hstop:∀ (c:Code) (pre:List α) (q:Option Nat) (W:Qbe),w.heap.size<W.heap.size->Ix c (pre,q) W->W.heap[w.heap.size]? = some (.deferred (some []))->q≠some w.heap.size->c.wpIn Fence.wide m P Q { a with defers:={ target:=.collected w.heap.size,args:=#[] }::a.defers } W) :
  (Code.rangeFunc g ps assign body).wpIn Fence.wide m P Q a w:=by{
 refine wpIn_rangeFunc fun fn hfn=> ?_
 obtain⟨rec,hrec⟩:∃ rec:LoopState->Option Code->Loop,rec=fun st pe=>{ state:=st,pending:=pe,fn,tmps:=a.tmps,params:=ps,assign,body,defers:=w.heap.size }:=⟨_,rfl⟩
 have hrec':∀ s c,{ rec s c with state:=.ready,pending:=none }=rec .ready none/\∀ s' c',{ rec s c with state:=s',pending:=c' }=rec s' c':=fun s c=>by rw[hrec];exact⟨rfl,fun _ _=>rfl⟩
 obtain⟨D,hDe⟩:∃ D,w.heap.size=D:=⟨_,rfl⟩
 obtain⟨V,hV⟩:∃ V,(w.alloc (.deferred (some []))).alloc (.loop (rec .ready none))=V:=⟨_,rfl⟩
 have hVs:V.heap.size=D+2:=by rw[<- hV,<- hDe];simp
 have hVL:V.heap[D+1]? = some (.loop (rec .ready none)):=by
  rw[<- hV,<- hDe];have:=Qa2 (w.alloc (.deferred (some []))) (.loop (rec .ready none))
  rwa [Qaj] at this
 have hVD:V.heap[D]? = some (.deferred (some [])):=by
  rw[<- hV,<- hDe];exact(Below.heap_alloc _ _ _ (by simp)).trans (Qa2 w _)
 have hVb:Qbm w.heap.size w V:=by rw[<- hV];exact((Qb _ w).alloc (Qe _) _).alloc (by simp) _
 have hVI:I ([],o) V:=by rw[<- hV];exact hI.alloc _ (hI.alloc _ h0)
 have hoD:o≠some D/\o≠some (D+1):=⟨fun e=>by have:=hIo _ _ h0 D e;omega,fun e=>by have:=hIo _ _ h0 (D+1) e;omega⟩
 have hMD:¬ M D/\¬ M (D+1):=⟨fun e=>by have:=hM _ e;omega,fun e=>by have:=hM _ e;omega⟩
 have hnw:∀ {A:Qbe} {row:Option Nat},(∀ r,row=some r->V.heap.size<=r/\∃ o:Obj,A.heap[r]? = some o/\o.isCells=false)->∀ r,row=some r->w.heap.size<=r/\∃ o:Obj,A.heap[r]? = some o/\o.isCells=false :=
  fun hr r e=>⟨by have:=(hr r e).1;omega,(hr r e).2⟩
 have hkeep:∀ {A B:Qbe} {row:Option Nat} {k:Nat} {x:Obj},A.grownBy B row->(∀ r,row=some r->V.heap.size<=r/\∃ o:Obj,A.heap[r]? = some o/\o.isCells=false)->k<D+2->A.heap[k]? = some x->B.heap[k]? = some x:=fun {A B row k x} hg' hr hk hx =>
  (hg'.block k (Qa.1 hx).1 (fun e=>by have:=(hr k e.symm).1;omega)).trans hx
 refine⟨D+1,[{ target:=.collected D,args:=#[] }],V,{ target:=.fn (.func gf) lb,args:=#[.func (.yield (D+1)) #[] #[]] },V,gf,#[.func (.yield (D+1)) #[] #[]]++lb,V,?_,?_,fun _ _=>trivial,?_,fun h=>(by cases h),?_⟩
 ·rw[<- hV,hrec,<- hDe]
  exact run_enterLoop_outer _ _ _ _ _
 ·simp only[resolve,hg]
  simp[go_sem]
 ·simp[invoke,go_sem,eg]
 refine callsIn_wide.2 ((hseq (D+1) (fun k=>M k\/k=D+1)
  (fun s W=>(I s W/\V.heap.size<=W.heap.size)/\(W.heap[D+1]? = some (.loop (rec .ready none))/\W.heap[D]? = some (.deferred (some [])))/\s.2≠some (D+1)/\s.2≠some D)
  (fun s W=>∃ c,(Ix c s W/\V.heap.size<=W.heap.size)/\(W.heap[D+1]? = some (.loop (rec .done (some c)))/\W.heap[D]? = some (.deferred (some [])))/\s.2≠some (D+1)/\s.2≠some D) o V hVb ?_ ?_ ?_ ?_ ?_ ?_ ⟨⟨hVI,Qe _⟩,⟨hVL,hVD⟩,hoD.2,hoD.1⟩).mono ?_)
 ·intro s A B row hs hg' hr
  exact⟨⟨hI s A B row hs.1.1 hg' (hnw hr),Qc hs.1.2 hg'.size⟩,⟨hkeep hg' hr (by omega) hs.2.1.1,hkeep hg' hr (by omega) hs.2.1.2⟩,hs.2.2⟩
 ·rintro s A B row ⟨c,hs⟩ hg' hr
  exact⟨c,⟨hIx c s A B row hs.1.1 hg' (hnw hr),Qc hs.1.2 hg'.size⟩,⟨hkeep hg' hr (by omega) hs.2.1.1,hkeep hg' hr (by omega) hs.2.1.2⟩,hs.2.2⟩
 ·rintro k (h | h)
  ·have:=hM k h
   omega
  ·omega
 ·intro s W1 hs
  exact⟨hs.1.2,hIo s W1 hs.1.1⟩
 ·intro k hk
  obtain⟨h1,h2,h3⟩:=hZ k hk;exact⟨fun h=>h.elim h2 fun e=>by omega,h3⟩
 ·
  rintro pre q x W ⟨⟨hi,hsz⟩,⟨hl,hd⟩,nL,nD⟩ htold;rw[hVs] at htold hsz;rw[<- hDe] at htold;have hy:=run_yield (P:=P) (args:=encs x) hl (by rw[hrec];exact hps x);rw[hrec] at hy;refine⟨fn,_,assign,body,hy,roundIn_of_wpIn hfn (hassign _ pre q x W _ hi htold fun a' Wa hga hax=> ?_)⟩;clear hy;have hla:Wa.heap[D+1]? = some (.loop (rec .ready none)):=(hga.block _ (Qa.1 hl).1 (by simp)).trans hl;have hda:Wa.heap[D]? = some (.deferred (some [])):=(hga.block _ (Qa.1 hd).1 (by simp)).trans hd;have hia:=hI _ _ _ none hi hga (by simp);have hta:=hT pre x q () _ _ none htold hga (by simp);have hbeg:=run_beginRound (P:=P) hla (by rw[hrec]);rw[show ({ rec .ready none with state:=.busy }:Loop)=rec .busy none by rw[hrec]] at hbeg;refine⟨_,hbeg,?_⟩;have hlb:=(Qa1 (w:=Wa) (o:=.loop (rec .busy none)) (Qa.1 hla).1)
  have hdb:=(Pg (w:=Wa) (r:=D+1) (k:=D) (o:=.loop (rec .busy none)) (by omega)).trans hda;have hib:=hI.putObj (.loop (rec .busy none)) hia (by omega:w.heap.size<=D+1) hla rfl;have haxb:=(hAx x a').putObj (s:=()) (.loop (rec .busy none)) hax (by omega:w.heap.size<=D+1) hla rfl;have htb:=(hT pre x q).putObj (s:=()) (.loop (rec .busy none)) hta (by omega:w.heap.size<=D+1) hla rfl;have hkb:Zcq (fun k=>M k\/k=D+1) q q W (Wa.putObj (D+1) (.loop (rec .busy none))):=((Zcq.refl _ _ _).grown hga (by simp)).grown (grownBy_putObj' _ _ _) fun r e=>by cases e;exact .inr (.inr rfl)
  have hszb:w.heap.size+2<=(Wa.putObj (D+1) (.loop (rec .busy none))).heap.size:=by rw[Qac];have:=hga.size;omega
  refine wpIn_mono (hbody _ pre q x a' _ hszb hib haxb htb) ?_;have fin:∀ (jump:Option Code) (Y:List α×Option Nat->Qbe->Prop) (q':Option Nat) (W3:Qbe),OwnFrom w.heap.size Y->Y (pre++[x],q') W3->Zcq M q q' (Wa.putObj (D+1) (.loop (rec .busy none))) W3->(match jump with | none=>Y=I | some c=>Y=Ix c) ->
    ∃ v W4,(Instr.endRound (D+1) jump).run P W3=.ok v W4/\Z04 (fun k=>M k\/k=D+1) (fun s W=>(I s W/\V.heap.size<=W.heap.size)/\(W.heap[D+1]? = some (.loop (rec .ready none))/\W.heap[D]? = some (.deferred (some [])))/\s.2≠some (D+1)/\s.2≠some D)
     (fun s W=>∃ c,(Ix c s W/\V.heap.size<=W.heap.size)/\(W.heap[D+1]? = some (.loop (rec .done (some c)))/\W.heap[D]? = some (.deferred (some [])))/\s.2≠some (D+1)/\s.2≠some D) (pre++[x]) q W (.returned v) W4:=by
   intro jump Y q' W3 hY hy3 hk3 hJ;obtain⟨v,W4,hr,hk4,hv⟩:=Zty (P:=P) (J:=fun s W=>(I s W/\V.heap.size<=W.heap.size)/\(W.heap[D+1]? = some (.loop (rec .ready none))/\W.heap[D]? = some (.deferred (some [])))/\s.2≠some (D+1)/\s.2≠some D)
    (Jx:=fun s W=>∃ c,(Ix c s W/\V.heap.size<=W.heap.size)/\(W.heap[D+1]? = some (.loop (rec .done (some c)))/\W.heap[D]? = some (.deferred (some [])))/\s.2≠some (D+1)/\s.2≠some D) hrec' jump hlb hdb (by omega) (by omega:w.heap.size<=D+1) hMD.2 hMD.1 nL nD hk3 (hY.and (I':=fun _ W=>V.heap.size<=W.heap.size) fun _ _ _ _ hs hg _=>Qc hs hg.size)
    ⟨hy3,by have:=hk3.size;omega⟩ (fun W2 hy2 hl2 hd2 n1 n2=>by
     cases jump with
     | none =>
      cases hJ;exact⟨hy2,⟨hl2,hd2⟩,n1,n2⟩
     | some c =>
      cases hJ
      exact⟨c,hy2,⟨hl2,hd2⟩,n1,n2⟩)
   exact⟨v,W4,hr,q',hkb.trans hk4,hv.imp (fun h=>⟨by rw[h.1],h.2⟩) fun h=>⟨by rw[h.1],h.2⟩⟩
  rintro e a3 W3 hp;cases e with
  | normal =>
   obtain⟨q',hk3,hi3⟩:=hp;exact fin none I q' W3 hI hi3 hk3 rfl
  | ret =>
   obtain⟨q',hk3,hi3⟩:=hp;exact fin (some .ret) _ q' W3 (hIx _) hi3 hk3 rfl
  | exit id =>
   obtain⟨q',hk3,hi3⟩:=hp;exact fin (some (.exit id)) _ q' W3 (hIx _) hi3 hk3 rfl
  | goto t =>
   obtain⟨q',hk3,hi3⟩:=hp;exact fin (some (.goto t)) _ q' W3 (hIx _) hi3 hk3 rfl
  | panic ch=>exact hp.elim
  | outgrown=>exact hp.elim
 ·
  rintro e W2 ⟨⟨v,rfl⟩,⟨xs,q,hE,⟨hi,hsz⟩,⟨hl,hd⟩,nL,nD⟩ | ⟨pre,q,c,⟨hi,hsz⟩,⟨hl,hd⟩,nL,nD⟩⟩
  ·have:=run_endLoop (P:=P) hl (by rw[hrec];simp)
   rw[hrec] at this;refine⟨none,_,this,?_⟩;have h1:=hdone xs q (W2.putObj (D+1) (.loop { rec .ready none with state:=.exhausted })) (by rw[Qac];omega) hE (hI.putObj _ hi (by omega) hl rfl) (by rw[hDe];exact(Pg (by omega)).trans hd) (by rw[hDe];exact nD);rw[hDe,hrec] at h1;exact h1
  ·have:=run_endLoop (P:=P) hl (by rw[hrec];simp)
   rw[hrec] at this;refine⟨some c,_,this,?_⟩;have h1:=hstop c pre q (W2.putObj (D+1) (.loop { rec .done (some c) with state:=.exhausted })) (by rw[Qac];omega) ((hIx c).putObj _ hi (by omega) hl rfl) (by rw[hDe];exact(Pg (by omega)).trans hd) (by rw[hDe];exact nD);rw[hDe,hrec] at h1;exact h1}
end Go.Proofs.YtmafkphcfkhokaaGreat
namespace Go.Proofs.YtmafkphcfkhokaaGreat
open Go.RowKit Go.Maps
theorem Zb6 (w:Qbe) (a b c d e f g h:Qbf) (t:Qbh):∃ w1,w.alloc (.cells #[a,b,c,d,e,f,g,h] t)=w1/\w1.heap[w.heap.size]? = some (.cells #[a,b,c,d,e,f,g,h] t (0,0))/\w1.heap.size=w.heap.size+1/\Qbm w.heap.size w w1 :=
 ⟨_,rfl,Qbj _ _,by simp,(Qb _ _).alloc (Qe _) _⟩
theorem Zm {W:Qbe}{o:Nat}{a b c d e f g h:Qbf}{t:Qbh}(hz:W.heap[o]? = some (.cells #[a,b,c,d,e,f,g,h] t (0,0))):W.cell? ⟨o,0,none⟩=some a/\W.cell? ⟨o,1,none⟩=some b/\W.cell? ⟨o,2,none⟩=some c/\W.cell? ⟨o,3,none⟩=some d/\W.cell? ⟨o,4,none⟩=some e/\W.cell? ⟨o,5,none⟩=some f/\W.cell? ⟨o,6,none⟩=some g/\W.cell? ⟨o,7,none⟩=some h/\(∀ k,W.frozen? ⟨o,k,none⟩=false)/\o<W.heap.size:=by
 have hl:=(Qa.1 hz).1;refine⟨?_,?_,?_,?_,?_,?_,?_,?_,fun k=> ?_,hl⟩ <;> simp[Qx,Pa,hz]
theorem Uf (w:Qbe) (a b c d e f g h i j k:Qbf) (t:Qbh):∃ w1,w.alloc (.cells #[a,b,c,d,e,f,g,h,i,j,k] t)=w1/\w1.heap[w.heap.size]? = some (.cells #[a,b,c,d,e,f,g,h,i,j,k] t (0,0))/\w1.heap.size=w.heap.size+1/\Qbm w.heap.size w w1 :=
 ⟨_,rfl,Qbj _ _,by simp,(Qb _ _).alloc (Qe _) _⟩
theorem Zg {W:Qbe}{o:Nat}{a b c d e f g h i j k:Qbf}{t:Qbh}(hz:W.heap[o]? = some (.cells #[a,b,c,d,e,f,g,h,i,j,k] t (0,0))):W.cell? ⟨o,0,none⟩=some a/\W.cell? ⟨o,1,none⟩=some b/\W.cell? ⟨o,2,none⟩=some c/\W.cell? ⟨o,3,none⟩=some d/\W.cell? ⟨o,4,none⟩=some e/\W.cell? ⟨o,5,none⟩=some f/\W.cell? ⟨o,6,none⟩=some g/\W.cell? ⟨o,7,none⟩=some h /\
  W.cell? ⟨o,8,none⟩=some i/\W.cell? ⟨o,9,none⟩=some j/\W.cell? ⟨o,10,none⟩=some k/\(∀ k,W.frozen? ⟨o,k,none⟩=false)/\o<W.heap.size:=by
 have hl:=(Qa.1 hz).1;refine⟨?_,?_,?_,?_,?_,?_,?_,?_,?_,?_,?_,fun k=> ?_,hl⟩ <;> simp[Qx,Pa,hz]
def Z57 (v:Qbf):Option (DataW Qbf×List MemPlace):=some (.held v,[])
def NMp (s:Rm) (lo g:Nat) (K:List Int) (W:Qbe):Prop:=∃ (n:Nat) (D:DataW Qbf),W.ownsMap Tryz.prog 3 Z57 g n D/\n<=K.length/\(∀ x,has D (.int .i64 x)=true↔x∈K)/\∀ x∈K,∃ u,(∀ z,D.atKey (.int .i64 x) z=.held u)/\Nod (New lo W) W u (rmV s x)
section
variable {s : Rm}{lo g : Nat}{K : List Int}{W W' : Qbe}
theorem Ztf (s:Rm) (lo:Nat) (h:W.heap[g]? = some (.map #[] 0)):NMp s lo g [] W:=⟨0,.map [],⟨#[],0,h,⟨by simp,MapKept.stamped_empty 0,by simp⟩,Qe _,rfl⟩,by simp,fun x=>by simp[has],fun x hx=>by cases hx⟩
theorem NMp.kept {row:Option Nat}(h:NMp s lo g K W) (hg:W.grownBy W' row) (hne:some g≠row) (hr:∀ q,row=some q->q<lo):NMp s lo g K W':=by
 obtain⟨n,D,h1,h2,h3,h4⟩:=h;refine⟨n,D,h1.kept hg hne,h2,h3,fun x hx=> ?_⟩;obtain⟨u,e1,e2⟩:=h4 x hx;exact⟨u,e1,e2.grown hg hr⟩
theorem NMp.below (h:NMp s lo g K W) (hb:Qbm W.heap.size W W'):NMp s lo g K W':=h.kept (Zbb hb) (by simp) (by simp)
theorem Z1k (h:NMp s lo g K W) (hlo:g<lo){x:Int}(hx:(Lit.int .i64 x).wf=true) (hl:K.length<=1000000000){u:Qbf}(hu:Nod (New lo W) W u (rmV s x)) :
  ∃ W',Sem.run Tryz.prog (Instr.mapUpdate 69 (.map (some g)) (.int .i64 x) u) W=.ok () W'/\NMp s lo g (K++[x]) W'/\W.grownBy W' (some g):=by{
 obtain⟨n,D,h1,h2,h3,h4⟩:=h;obtain⟨W',hr,ho,hg⟩:=h1.update (int_keyed Tryz.underlying3) Tryz.underlying69 (by unfold maxLen;omega) (keyOf_int_mk Tryz.underlying3 hx) (d:=.held u) (ps:=[]) rfl;refine⟨W',hr,⟨n+1,_,ho,by rw[Qn,P8];omega,fun y=> ?_,fun y hy=> ?_⟩,hg⟩
 ·rw[Qj,Ql]
  by_cases e:y=x
  ·subst e
   simp[has_put_same h1.isMap (show WideAt.IsKeyLit (.int .i64 y) from trivial)]
  ·rw[has_put_other (fun e'=>e (by simpa using e')),h3 y]
   simp[e]
 ·by_cases e:y=x
  ·subst e
   exact⟨u,fun z=>atKey_put_same h1.isMap (show WideAt.IsKeyLit (.int .i64 y) from trivial) _ z,hu.grown hg (fun q e=>by cases e;exact hlo)⟩
  ·obtain⟨v,e1,e2⟩:=h4 y ((Qj.1 hy).resolve_right fun h=>e (Ql.1 h))
   exact⟨v,fun z=>(atKey_put_other (fun e'=>e (by simpa using e')) _ z).trans (e1 z),e2.grown hg (fun q e=>by cases e;exact hlo)⟩}
theorem Zko {ok:Qbg->Prop}{v:Qbf}{n:Nd}(h:Nod ok W v n):∃ U c,v=.agg #[.int .i64 n.1,.slice U n.2.length c]:=by
 obtain⟨d,rfl,_,A,c,e,_⟩:=h;simp only[List.cons.injEq,and_true] at e;exact⟨A,c,by rw[e]⟩
theorem Zql (h:NMp s lo g K W){x:Int}(hx:(Lit.int .i64 x).wf=true) :
  ∃ lv U m c,Sem.run Tryz.prog (Instr.lookup 69 (.map (some g)) (.int .i64 x) true) W=.ok (.tuple #[.agg #[.int .i64 lv,.slice U m c],.bool (decide (x∈K))]) W:=by{
 obtain⟨n,D,h1,h2,h3,h4⟩:=h;obtain⟨v,ps,e1,e2⟩:=h1.look_ok (int_keyed Tryz.underlying3) Tryz.underlying69 (z:=.agg #[.int .i64 0,.slice none 0 0]) (by kernel_rfl) (zd:=.held (.agg #[.int .i64 0,.slice none 0 0])) (zp:=[]) rfl (keyOf_int_mk Tryz.underlying3 hx);have hd:has D (.int .i64 x)=decide (x∈K):=Bool.eq_iff_iff.2 ((h3 x).trans decide_eq_true_iff.symm);rw[hd] at e1;by_cases hm:x∈K
 ·obtain⟨u,a1,a2⟩:=h4 x hm
  rw[a1] at e2;obtain⟨U,c,rfl⟩:=Zko a2;cases e2;exact⟨_,U,_,c,e1⟩
 ·rw[atKey_of_not_has (by rw[hd];simpa using hm)] at e2
  cases e2;exact⟨0,none,0,0,e1⟩}
end
theorem Zds {g:Nat}{X:List Int}{W W':Qbe}{row:Option Nat}(h:Mrk g X W) (hg:W.grownBy W' row) (hne:some g≠row):Mrk g X W':=by
 obtain⟨vs,h1,h2⟩:=h;exact⟨vs,(hg.block g (Qa.1 h1).1 hne).trans h1,h2⟩
theorem Z3p {g1 g2 g:Nat}{w w':Qbe}(h:w.grownBy w' (some g)) (hg:g=g1\/g=g2):Zdc g1 g2 w w' :=
 ⟨h.size,fun k hk h1 h2=>h.block k hk fun e=>by cases e;rcases hg with rfl | rfl <;> contradiction⟩
structure FrE (s:Rm) (w0:Qbe) (v:Qbf) (g1 g2 lo:Nat):Prop where
 sto:Sto (Old w0) w0 v s
 from1:w0.heap.size<=g1
 from2:w0.heap.size<=g2
 lt1:g1<lo
 lt2:g2<lo
 ne:g1≠g2
structure FrW (s:Rm) (w0:Qbe) (g1 g2 lo:Nat) (g:Sg) (w:Qbe):Prop where
 size:lo<=w.heap.size
 bel:Qbm w0.heap.size w0 w
 map:NMp s lo g1 g.1 w
 mrk:Mrk g2 g.2 w
section
variable {s : Rm}{w0 w w' : Qbe}{v : Qbf}{g1 g2 lo : Nat}{g : Sg}
theorem FrW.below (h:FrW s w0 g1 g2 lo g w) (hb:Qbm w.heap.size w w'):FrW s w0 g1 g2 lo g w' :=
 ⟨Qc h.size hb.size,h.bel.trans (hb.mono h.bel.size),h.map.below hb,Zbs _ _ _ _ h.mrk hb⟩
theorem FrW.sto (h:FrW s w0 g1 g2 lo g w) (he:FrE s w0 v g1 g2 lo):Sto (Old w) w v s:=he.sto.below h.bel
theorem FrW.put (h:FrW s w0 g1 g2 lo g w) (he:FrE s w0 v g1 g2 lo){x:Int}(hx:(Lit.int .i64 x).wf=true) (hl:g.1.length<=1000000000){u:Qbf}(hu:Nod (New lo w) w u (rmV s x)) :
  ∃ W',Sem.run Tryz.prog (Instr.mapUpdate 69 (.map (some g1)) (.int .i64 x) u) w=.ok () W'/\FrW s w0 g1 g2 lo (g.1++[x],g.2) W'/\Zdc g1 g2 w W':=by
 obtain⟨W',e,h1,h2⟩:=Z1k h.map he.lt1 hx hl hu;exact⟨W',e,⟨Qc h.size h2.size,h.bel.grown h2 h.bel.size (fun k e=>by cases e;exact he.from1),h1,Zds h.mrk h2 (fun e=>he.ne (Option.some.inj e).symm)⟩,Z3p h2 (.inl rfl)⟩
theorem FrW.up (h:FrW s w0 g1 g2 lo g w) (he:FrE s w0 v g1 g2 lo){q:Nat}{y:Int}(hy:g.2[q]?.getD 0+1=y):FrW s w0 g1 g2 lo (g.1,frU g.2 q) (w.setCell ⟨g2,q,none⟩ (.int .i64 y))/\Zdc g1 g2 w (w.setCell ⟨g2,q,none⟩ (.int .i64 y)):=by
 subst hy;have hg:w.grownBy (w.setCell ⟨g2,q,none⟩ (.int .i64 (g.2[q]?.getD 0+1))) (some g2):=Zp (p:=⟨g2,q,none⟩) (Ye w (some g2)) rfl _;exact⟨⟨Qc h.size hg.size,h.bel.grown hg h.bel.size (fun k e=>by cases e;exact he.from2),h.map.kept hg (fun e=>he.ne (Option.some.inj e)) (fun k e=>by cases e;exact he.lt2),Z2m h.mrk q _⟩,Zyj (.inr rfl) q _⟩
theorem Zqh {x:Int}(h0:0<=x) (h:x<256):(Lit.int .i64 x).wf=true:=by
 simp[Lit.wf,IntKind.min,IntKind.max,IntKind.signed,IntKind.bits];omega
theorem Ztj {lo:Nat}{a:List Qbf}{l:List It}(h1:g1<lo) (h2:g2<lo) (h:Zar (New lo w) w a l) (hr:Zdc g1 g2 w w'):Zar (New lo w') w' a l :=
 Xv _ _ _ _ _ _ (fun p v hq hc=>by
  have e:=hr.2 p.block hq.2.1 (by have:=hq.1;omega) (by have:=hq.1;omega)
  exact⟨⟨hq.1,Qk hq.2.1 hr.1,(World.frozen?_of_block e).trans hq.2.2⟩,(Qab e).trans hc⟩) h
end
theorem Zwi {α β:Type}(f:β->α->β) (b:β){L:List α}{i:Nat}{x:α}(hx:L[i]? = some x):(L.take (i+1)).foldl f b=f ((L.take i).foldl f b) x:=by
 obtain⟨h1,e1⟩:=Qg.1 hx;rw[<- Qt h1,e1,List.foldl_append];rfl
def Z6c (s:Rm) (l:Nat) (a:Int) (g:Sg) (w0:Qbe) (g1 g2 lo:Nat) (w:Qbe):Qbl->Qbe->Prop:=fun e w'=>e=.returned (.bool true)/\FrW s w0 g1 g2 lo (Vw s l a g) w'/\Zdc g1 g2 w w'
def Zs9 (s:Rm) (l:Nat):Prop:=∀ (a:Int) (g:Sg) (n:Nat) (w0:Qbe) (q0 q1 q2 q3 q4 q5 q6 q7 q8:Qbf) (g1 g2 lo:Nat) (w:Qbe),(a∈g.1\/AtT s l a)->Gg s g n->n+3*7 ^ (l+1)<=900000000->1<=g.2[a.toNat]?.getD 0->FrE s w0 (.agg #[q0,q1,q2,q3]) g1 g2 lo->FrW s w0 g1 g2 lo g w ->
 Qbk Tryz.prog 109 #[.agg #[q0,q1,q2,q3,q4,q5,q6,q7,.map (some g1),.slice (some ⟨g2,0,none⟩) 256 256,q8],.int .i64 a] w (Z6c s l a g w0 g1 g2 lo w)
theorem Zt8 (s:Rm) (l0:Nat) (hl5:l0<=5) (hr0:∀ j,l0=j+1->Zs9 s j):Zs9 s l0:=by{
 intro a g n w0 q0 q1 q2 q3 q4 q5 q6 q7 q8 g1 g2 lo w hA hG hn h1 hE hW;have he:rmE s a=0:=by
  rcases hA with h | h
  ·exact(hG.keys a h).1
  ·exact h.ok
 obtain⟨h8,h256,_⟩:=Za4 he;have hwf:=Zqh (show 0<=a by omega) h256;have hin:=Za (fun(h:a∈g.1)=>Zi9 (s:=s) (l:=l0) h);have hout:=Za (fun(h:a∉g.1)=>Za6 (s:=s) (l:=l0) h);have hat:Hid (a∉g.1->AtT s l0 a):=Za fun h=>hA.resolve_left h
 obtain⟨w1,hw1,k1,hs1,hB1⟩:=Uf w q0 q1 q2 q3 q4 q5 q6 q7 (.map (some g1)) (.slice (some ⟨g2,0,none⟩) 256 256) q8 71;have W1:=hW.below hB1;obtain⟨lv,U,m0,c0,hlk⟩:=Zql W1.map hwf;obtain⟨bb,hbb⟩:∃ q,decide (a∈g.1)=q:=⟨_,rfl⟩
 rw[hbb] at hlk;obtain⟨w2,hw2,b2,hs2,hB2⟩:=Yd w1 (.int .i64 lv) (.slice U m0 c0) 59;have W2:=Za (W1.below hB2);have K2:=Za ((hB2.block _ (Qa.1 k1).1).trans k1);have R2:=Za (Xx (g1:=g1) (g2:=g2) (hB1.trans (hB2.mono hB1.size)):Zdc g1 g2 w w2);obtain⟨s0,s1,s2,s3,s4,s5,s6,s7,s8,s9,s10,_⟩:=Zg k1;have hlo:=Za (show lo<=w.heap.size from hW.size);have hNd:=Za (fun v W hW=>Zgp v s a W hW);have hmany:=Za (show g.1.length<=1000000000 by have:=hG.many;omega);have hn9:=Za hn;have E0:=Za hE;have G0:=Za hG;replace hs1:=Za hs1;replace hs2:=Za hs2;have h1':=Za h1;have hwf':=Za hwf;clear hW hE hG hA hB1 hB2 W1 k1 b2 h1
 go_enter Tryz.func109,Tryz.ntmps109
 go_upto_region 1 with fail
 clear hw1
 go_upto_region 2 with fail
 clear hw2 hlk s0 s1 s2 s3 s4 s5 s6 s7 s8 s9 s10;cases bb with
 | true =>
  have hf:=Za (hin.out (of_decide_eq_true hbb));clear hbb hout
  go_wp2_with fail
  go_ret;exact⟨rfl,by rw[hf.out];exact W2.out,R2.out⟩
 | false =>
 have hk:=of_decide_eq_false hbb;have hT:=hat.out hk;have hf:=Za (hout.out hk);obtain⟨N1,_⟩:=Z3w G0.out he h1'.out;have hitm:=Za (fun x (hx:x∈(rmV s a).2)=>Zwm hT hx);have hdn:=Za (fun(j:Nat) (hj:l0=j+1) (x:It) (hx:x∈(rmV s a).2)=>(by subst hj;exact hT.down hx:AtT s j x.2.1));have hm5:=(Z0 hT.may).1.2.2.1;have hlv:=hT.lvl;have hfd:=Za (fun(L:List It) (hL:∀ x∈L,x∈(rmV s a).2)=>(Zjk L _ _ (fun x hx=>hitm.out x (hL x hx)) N1).1);rw[he] at hNd;clear hk hbb hin hout hat G0 h1' hT N1;obtain⟨nd,hnd⟩:∃ q,rmV s a=q:=⟨_,rfl⟩
 have hnd':=Za hnd;rw[hnd] at hNd hf hitm hdn hm5 hlv hfd;obtain⟨lw,hlw⟩:∃ q,nd.1=q:=⟨_,rfl⟩
 obtain⟨l,hl⟩:∃ q,nd.2=q:=⟨_,rfl⟩
 obtain⟨m,hlm⟩:∃ q,l.length=q:=⟨_,rfl⟩
 rw[hl] at hf hitm hdn hm5 hfd;rw[hlm] at hm5;rw[hlw] at hlv;have e2:(rmE s a != 0)=false:=by rw[he];rfl
 replace hnd:=Za hnd;replace hlw:=Za hlw;replace hl:=Za hl;replace hlm:=Za hlm;replace hlv:=Za hlv;replace he:=Za he;obtain⟨s0,s1,s2,s3,s4,s5,s6,s7,s8,s9,s10,_⟩:=Zg K2.out;have S2:=Za (W2.out.sto E0.out)
 go_upto_region 4 with fail
 go_wp2_with fail
 with_reducible refine(hNd.out _ _ S2.out).mono ?_
 rintro e w3 ⟨u,rfl,h3n,hb3⟩;obtain⟨Z,zc,rfl⟩:=Zko h3n;rw[hlw.out,hl.out,hlm.out];rw[hlw.out,hl.out,hlm.out] at h3n;obtain⟨w4,hw4,b4,hs4,hb4⟩:=Yd w3 (.int .i64 lw) (.slice Z m zc) 59;have hb34:=hb3.trans (hb4.mono hb3.size);have N4:Nod (New lo w4) w4 (.agg #[.int .i64 lw,.slice Z m zc]) (rmV s a):=by
  rw[hnd'.out];exact h3n.new W2.out.size hb4
 obtain⟨w5,hmu,W5,R45⟩:=(W2.out.below hb34).put E0.out hwf'.out hmany.out N4;have I4:Zar (New lo w4) w4 [.slice Z m zc] l:=by
  obtain⟨_,e,_,h⟩:=N4;cases e;rw[hnd'.out,hl.out] at h;exact h
 have I5:=Za (Ztj E0.out.lt1 E0.out.lt2 I4 R45);have b5:=Z9 R45 b4 (by have:=E0.out.lt1;have:=W2.out.size;have:=hb3.size;omega) (by have:=E0.out.lt2;have:=W2.out.size;have:=hb3.size;omega);have k5:=Z9 R45 ((hb34.block _ (Qa.1 K2.out).1).trans K2.out) (by have:=E0.out.lt1;have:=hlo.out;omega) (by have:=E0.out.lt2;have:=hlo.out;omega);have X5:=Za W5;have R5:=Za (Z1 R2.out (Z1 (Xx hb34) R45):Zdc g1 g2 w w5);have hsz:=Za (show lo<=w3.heap.size from Qc W2.out.size hb3.size);replace hs4:=Za hs4;obtain⟨y0,y1,_⟩:=Zi b4;have k4:=(hb34.block _ (Qa.1 K2.out).1).trans K2.out;have b5':=Za b5;have k5':=Za k5;clear s0 s1 s2 s3 s4 s5 s6 s7 s8 s9 s10;obtain⟨s0,s1,s2,s3,s4,s5,s6,s7,s8,s9,s10,_⟩:=Zg k4;clear hb34 hb3 hb4 h3n b4 N4 I4 W5 R45 hNd K2 S2 W2 b5 k5 k4
 go_upto_region 5 with fail
 clear hw4
 go_upto_region 8 with fail
 clear hmu s0 s1 s2 s3 s4 s5 s6 s7 s8 s9 s10 y0 y1;obtain⟨y0,y1,_⟩:=Zi b5'.out
 go_wp2_with fail
 clear y0 y1
 go_loopw [36] (fun vi wr=>∃ k:Nat,k<=m/\vi=.int .i64 k/\FrW s w0 g1 g2 lo ((l.take k).foldl (X4 (frB s l0)) (g.1++[a],g.2)) wr/\Zdc g1 g2 w5 wr) (fun vi _=>m-(intOf vi).toNat)
 case atStart=>exact⟨0,by omega,rfl,X5.out,Zg8 _ _ _⟩
 case round =>
 obtain⟨k,hk,rfl,hw,hrs⟩:=hrel;have b6:=Z9 hrs b5'.out (by have:=hsz.out;have:=E0.out.lt1;omega) (by have:=hsz.out;have:=E0.out.lt2;omega);have k6:=Z9 hrs k5'.out (by have:=hlo.out;have:=E0.out.lt1;omega) (by have:=hlo.out;have:=E0.out.lt2;omega);have I6:=Ztj E0.out.lt1 E0.out.lt2 I5.out hrs;obtain⟨y0,y1,_⟩:=Zi b6;obtain⟨G,hG⟩:∃ q,(l.take k).foldl (X4 (frB s l0)) (g.1++[a],g.2)=q:=⟨_,rfl⟩
 have hGg:=hfd.out (l.take k) (fun x hx=>Pt hx);have htk:=fun x (hx:l[k]? = some x)=>Zwi (X4 (frB s l0)) (g.1++[a],g.2) hx
 rw[hG] at hw hGg htk;have WR:=Za hw;have RS:=Za hrs;replace htk:=Za htk;clear hw hrs;by_cases hlt:k<m
 case neg =>
  have he1:Hid (FrW s w0 g1 g2 lo (Vw s l0 a g) wr):=Za (by
   rw[hf.out];have:=WR.out;rw[<- hG,Qh (by rw[hlm.out];omega)] at this
   exact this)
  have RF:=Za (Z1 R5.out RS.out);clear b6 k6 I6 hGg;replace hG:=Za hG
  go_wp2_with fail
  go_ret;exact⟨rfl,he1.out,RF.out⟩
 obtain⟨x,hx⟩:∃ x,l[k]? = some x:=⟨_,Qf (by rw[hlm.out];exact hlt)⟩
 obtain⟨ad,E5,ce5,rfl,_,FX⟩:=Z20 I6 hx;obtain⟨⟨z0,z1,z2,z3,z4⟩,_⟩:=FX _ (Qb _ _);have hxm:=Pe hx;have ht:=htk.out x hx;have htake:=Po k l;replace hx:=Za hx;replace hG:=Za hG;have hfx:=hitm.out x hxm;obtain⟨r,hr⟩:∃ r,x.2.1=r:=⟨_,rfl⟩
 have hst:X4 (frB s l0) G x=if r=0 then G else frB s l0 r (G.1,frU G.2 r):=by unfold X4;rw[hr]
 rw[hst] at ht;have hdx:=Za (fun j hj=>hdn.out j hj x hxm);rw[hr] at hfx z3 hdx;obtain⟨w6,hw6,c0',c1',c2',c3',c4',hs6,hB6,hg6⟩:=Zz wr (.int .u8 (x.1.1.toNat:Int)) (.int .u32 x.1.2.1) (.int .u32 x.1.2.2) (.int .i64 r) (.slice E5 x.2.2.length ce5) 79;have W6:=Za (WR.out.below hB6);have b7:=Za ((hB6.block _ (Qa.1 b6).1).trans b6);have k7:=Za ((hB6.block _ (Qa.1 k6).1).trans k6);have R6:=Za (Z1 RS.out (Xx hB6):Zdc g1 g2 w5 w6);have i4:(0:Int)<=(k:Int):=by omega
 have i5:(k:Int)<(m:Int):=by omega
 have hs6':=Za hs6;replace hg6:=Za hg6;clear hr hst I6 b6 k6 FX hB6 hs6 hxm
 go_upto_region 11 with fail
 clear hw6 z0 z1 z2 z3 z4 y0 y1;by_cases hr0':r=0
 ·subst hr0'
  have hA:Hid (FrW s w0 g1 g2 lo ((l.take (k+1)).foldl (X4 (frB s l0)) (g.1++[a],g.2)) w6):=Za (by
   rw[ht,if_pos rfl]
   exact W6.out)
  clear ht hfx hGg
  go_wp2_with fail
  go_roundw
  case rel=>exact⟨k+1,by omega,by go_num,hA.out,R6.out⟩
  case measure=>simp[intOf];omega
 rw[if_neg hr0'] at ht;obtain⟨r0,r1,hblw⟩:=hfx.resolve_left hr0';obtain⟨q,rfl⟩:∃ q:Nat,r=q:=⟨r.toNat,by omega⟩
 have q256:q<256:=by omega
 obtain⟨u1,u2,u3⟩:=Z3g hGg r0 r1;have hfew:=hGg.few q;have hpow:7 ^ l0<=7 ^ 5:=Qw (by decide) hl5;have hmul:=Qao (show (l.take k).length<=5 by omega) (show 1+3*7 ^ l0<=1+3*7 ^ 5 by omega);obtain⟨zz,hzz⟩:∃ z,G.2[q]?.getD 0=z:=⟨_,rfl⟩
 have hc:=Zcl W6.out.mrk q256;have hfr:=Znr W6.out.mrk q;obtain⟨W7,R67⟩:=W6.out.up E0.out (q:=q) (y:=zz+1) (by rw[hzz]);rw[hzz] at hc hfew;have hn9':=hn9.out
 have hbud:Hid (n+1+(l.take k).length*(1+3*7 ^ l0)+1+3*7 ^ l0<=900000000):=Za (by
  have e1:=Qaa (1+3*7 ^ l0) (show (l.take k).length<=4 by omega);have e2:1<=7 ^ l0:=Qaz _ _ (by decide);rw[Q8] at hn9'
  omega)
 have wrap1:IntKind.i64.wrap (zz+1)=zz+1:=Qz _ (by omega);obtain⟨w7,hw7⟩:∃ w7,w6.setCell ⟨g2,q,none⟩ (.int .i64 (zz+1))=w7:=⟨_,rfl⟩
 rw[hw7] at W7 R67;have X7:=Za W7;have R7:=Za (Z1 R6.out R67:Zdc g1 g2 w5 w7);have hsr:=Za (show lo<=wr.heap.size from WR.out.size);have g7:=Z9 R67 hg6.out (by have:=hsr.out;have:=E0.out.lt1;omega) (by have:=hsr.out;have:=E0.out.lt2;omega);have b8:=Z9 R67 b7.out (by have:=hsz.out;have:=E0.out.lt1;omega) (by have:=hsz.out;have:=E0.out.lt2;omega);have k8:=Z9 R67 k7.out (by have:=hlo.out;have:=E0.out.lt1;omega) (by have:=hlo.out;have:=E0.out.lt2;omega);obtain⟨s0,s1,s2,s3,s4,s5,s6,s7,s8,s9,s10,_⟩:=Zg k7.out;obtain⟨f0,f1,f2,f3,f4,_⟩:=Zq g7;obtain⟨y0,y1,_⟩:=Zi b8;have j1:(0:Int)<=(q:Int):=by omega
 have j2:(q:Int)<256:=by omega
 have j3:¬ (q:Int)=0:=hr0';have j4:¬ q=0:=by omega
 have ht':=Za ht;have u1':=Za u1;have u3':=Za u3;have hb':=Za hblw;have hfin:Hid (∀ W',FrW s w0 g1 g2 lo (frB s l0 (q:Int) (G.1,frU G.2 q)) W'->FrW s w0 g1 g2 lo ((l.take (k+1)).foldl (X4 (frB s l0)) (g.1++[a],g.2)) W'):=Za fun W' h=>by rw[ht];exact h
 replace hzz:=Za hzz;clear ht u1 u2 u3 hblw hfx hfew hpow hmul hn9' r0 r1 W7 R67 g7 b8 hr0' hGg
 go_upto_region 13 with fail
 clear hw7 hc hfr s0 s1 s2 s3 s4 s5 s6 s7 s8 s9 s10 c0' c1' c2' c3' c4';cases l0 with
 | zero =>
  have v1:¬ (0:Int)<lw:=by rw[hlv.out];simp
  have hA:=Za (hfin.out w7 X7.out)
  go_wp2_with fail
  go_roundw
  case rel=>exact⟨k+1,by omega,by go_num,hA.out,R7.out⟩
  case measure=>simp[intOf];omega
 | succ l1 =>
  have v1:(0:Int)<lw:=by rw[hlv.out];omega
  have hrec:=Za (hr0 l1 rfl (q:Int) (G.1,frU G.2 q) _ w0 q0 q1 q2 q3 q4 q5 q6 q7 q8 g1 g2 lo w7 (.inr (hdx.out l1 rfl)) u1'.out hbud.out u3'.out E0.out X7.out);obtain⟨s0,s1,s2,s3,s4,s5,s6,s7,s8,s9,s10,_⟩:=Zg k8;clear k8
  go_wp2_with fail
  with_reducible refine hrec.out.mono ?_
  rintro e w8 ⟨rfl,hW8,hR8⟩;have hA:=Za (hfin.out w8 hW8);have hR:=Za (Z1 R7.out hR8);clear hW8 hR8
  go_wp2_with fail
  go_roundw
  case rel=>exact⟨k+1,by omega,by go_num,hA.out,hR.out⟩
  case measure=>simp[intOf];omega}
theorem Ztp (s:Rm):∀ l:Nat,l<=5->Zs9 s l:=by
 intro l
 induction l using Pz with
 | ind l ih=>exact fun hl=>Zt8 s l hl fun j hj=>ih j (by omega) (by omega)
def Z3j (g1 g2:Nat) (w:Qbe):Qbg->Prop:=fun p=>p.block<w.heap.size/\p.block≠g1/\p.block≠g2
theorem Z4b {g1 g2:Nat}{w:Qbe}{U:Option Qbg}{n c:Nat}{l:List Int}(h:rSl 1 (rK .i64) (Z3j g1 g2 w) w [.slice U n c] l){k:Nat}{x:Int}(hx:l[k]? = some x) :
  ∃ ad,U=some ad/\(Lit.int .i64 x).wf=true/\∀ W,Zdc g1 g2 w W->W.cell? (ad.add k)=some (.int .i64 x):=by
 obtain⟨A,cap,e,_,_,h2⟩:=h;simp only[List.cons.injEq,Value.slice.injEq,and_true] at e;obtain⟨rfl,_,_⟩:=e;obtain⟨ad,vs,rfl,_,e3,e4⟩:=h2 k x hx;obtain⟨rfl,e5,e6⟩:=e4;have:=e3 0 _ rfl;simp only[Nat.mul_one,Ph] at this;obtain⟨⟨a1,a2,a3⟩,a4⟩:=this;refine⟨ad,rfl,?_,fun W hW=>(Qab (hW.2 _ a1 a2 a3)).trans a4⟩;simp[IntKind.min,IntKind.max,IntKind.signed,IntKind.bits] at e5 e6;simp[Lit.wf,IntKind.min,IntKind.max,IntKind.signed,IntKind.bits];omega
theorem Zwd {s:Rm}{L:List Int}{g G:Sg}{k:Nat}{a:Int}(hk:L[k]? = some a) (h:Z8 s (L.take k) g=(true,G)) :
  (¬ (a∈G.1\/ckE s a=0)->(Z8 s L g).1=false)/\(a∈G.1\/ckE s a=0->Z8 s (L.take (k+1)) g=(true,Vw s (rmV s a).1.toNat a (G.1,frU G.2 a))):=by{
 obtain⟨h1,e1⟩:=Qg.1 hk;refine⟨fun hn=> ?_,fun hy=> ?_⟩
 ·have e:L=L.take k++(a::L.drop (k+1)):=by
   rw[<- e1,Qa3,Q9]
  rw[e,Zco,h];exact Zki hn
 ·rw[<- Qt h1,e1,Zco,h]
  show Z8 s [a] G=_;rw[Zcj hy];rfl}
def Zrf (s:Rm) (L:List Int) (g:Sg) (w0:Qbe) (g1 g2 lo:Nat) (w:Qbe):Qbl->Qbe->Prop:=fun e w'=>e=.returned (.bool (Z8 s L g).1)/\((Z8 s L g).1=true->FrW s w0 g1 g2 lo (Z8 s L g).2 w')/\Qbm w0.heap.size w0 w'/\Zdc g1 g2 w w'
theorem Zzj (s:Rm) (L:List Int) (g:Sg) (n:Nat) (w0:Qbe) (q0 q1 q2 q3 q4 q5 q6 q7 q8:Qbf) (g1 g2 lo:Nat) (Q:Option Qbg) (c:Nat) (w:Qbe) (hG:Gg s g n) (hn:n+L.length*400000<=800000000) (hE:FrE s w0 (.agg #[q0,q1,q2,q3]) g1 g2 lo) (hW:FrW s w0 g1 g2 lo g w) (hL:rSl 1 (rK .i64) (Z3j g1 g2 w) w [.slice Q L.length c] L) :
  Qbk Tryz.prog 57 #[.agg #[q0,q1,q2,q3,q4,q5,q6,q7,.map (some g1),.slice (some ⟨g2,0,none⟩) 256 256,q8],.slice Q L.length c] w (Zrf s L g w0 g1 g2 lo w):=by{
 obtain⟨m,hm⟩:∃ q,L.length=q:=⟨_,rfl⟩
 rw[hm] at hn hL ⊢;obtain⟨w1,hw1,k1,hs1,hB1⟩:=Uf w q0 q1 q2 q3 q4 q5 q6 q7 (.map (some g1)) (.slice (some ⟨g2,0,none⟩) 256 256) q8 71;have W1:=Za (hW.below hB1);have K1:=Za k1;have R1:=Za (Xx (g1:=g1) (g2:=g2) hB1:Zdc g1 g2 w w1);have hlo:=Za (show lo<=w.heap.size from hW.size);have hCk:=Za (fun v a W hW=>Ug v s a W hW);have hat:=Za (fun k a (hk:L[k]? = some a)=>Z4b hL hk);have hok:=Za (fun k G (h:Z8 s (L.take k) g=(true,G))=>(Zbt _ _ _ _ hG h).1);have htk:=Za (fun k a G (hk:L[k]? = some a) (h:Z8 s (L.take k) g=(true,G))=>Zwd hk h);have E0:=Za hE;have hn':=Za hn;have m2:m<=2000:=by omega
 replace hs1:=Za hs1;replace hm:=Za hm;clear hG hE hW hB1 hL k1 hn
 go_enter Tryz.func57,Tryz.ntmps57
 go_upto_region 1 with fail
 clear hw1
 go_wp2_with fail
 go_loopw [13] (fun vi wr=>∃ (k:Nat) (G:Sg),k<=m/\vi=.int .i64 k/\Z8 s (L.take k) g=(true,G)/\FrW s w0 g1 g2 lo G wr/\Zdc g1 g2 w1 wr) (fun vi _=>m-(intOf vi).toNat)
 case atStart=>exact⟨0,g,by omega,rfl,rfl,W1.out,Zg8 _ _ _⟩
 case round =>
 obtain⟨k,G,hk,rfl,hG,hw,hrs⟩:=hrel;have RS:=Za hrs;by_cases hlt:k<m
 case neg =>
  have hall:Z8 s L g=(true,G):=by rw[<- hG,Qh (by rw[hm.out];omega)]
  have he1:Hid (Zrf s L g w0 g1 g2 lo w (.returned (.bool true)) wr):=Za (by
   unfold Zrf;rw[hall]
   exact⟨rfl,fun _=>hw,hw.bel,Z1 R1.out hrs⟩)
  clear hw hrs hG hall
  go_wp2_with fail
  go_ret;exact he1.out
 obtain⟨a,ha⟩:∃ a,L[k]? = some a:=⟨_,Qf (by rw[hm.out];exact hlt)⟩
 obtain⟨ad,rfl,hwf,hcl⟩:=hat.out k a ha;have ca:=hcl wr (Z1 R1.out hrs);obtain⟨lv,U,m0,c0,hlk⟩:=Zql hw.map hwf;obtain⟨bb,hbb⟩:∃ q,decide (a∈G.1)=q:=⟨_,rfl⟩
 rw[hbb] at hlk;obtain⟨w3,hw3,b3,hs3,hB3⟩:=Yd wr (.int .i64 lv) (.slice U m0 c0) 59;obtain⟨hno,hyes⟩:=htk.out k a G ha hG;have k3:=Z9 hrs K1.out (by have:=hlo.out;have:=E0.out.lt1;omega) (by have:=hlo.out;have:=E0.out.lt2;omega);have K3:=Za ((hB3.block _ (Qa.1 k3).1).trans k3);have W3:=Za (hw.below hB3);have R3:=Za (Z1 hrs (Xx hB3):Zdc g1 g2 w1 w3);have hGg:=Za (hok.out k G hG)
 have hbud:=Za (show n+(L.take k).length*400000+400000<=800000000 by
  have h1:=hn'.out;have h2:=Po k L;have h3:=hm.out;have:=Qaa 400000 (show (L.take k).length+1<=m by omega)
  omega)
 obtain⟨s0,s1,s2,s3,s4,s5,s6,s7,s8,s9,s10,_⟩:=Zg k3;have hnext:=Za hyes;have hbad:=Za hno;have i4:(0:Int)<=(k:Int):=by omega
 have i5:(k:Int)<(m:Int):=by omega
 replace hs3:=Za hs3;clear hw hrs hB3 b3 k3 hno hyes hwf hcl hG ha
 go_upto_region 4 with fail
 clear ca
 go_upto_region 5 with fail
 clear hlk hw3 s0 s1 s2 s3 s4 s5 s6 s7 s8 s9 s10;cases bb with
 | true =>
  have hway:Hid (a∈G.1\/ckE s a=0):=Za (.inl (of_decide_eq_true hbb));have W4:=W3;have R4:=R3;have K4:=K3;clear hbb W3 R3 K3;obtain⟨w4,rfl⟩:∃ w4:Qbe,w4=w3:=⟨_,rfl⟩
  go_upto_region 9 with fail
  have hgo:a∈G.1\/ckE s a=0:=hway.out;obtain⟨h8,h256,v1,v2,v3,v4,v5,_,_⟩:=Zkb hgo hGg.out;have hnx:=Za (hnext.out hgo);obtain⟨q,rfl⟩:∃ q:Nat,a=q:=⟨a.toNat,by omega⟩
  have q256:q<256:=by omega
  have hfew:=hGg.out.few q;have hbd:=hbud.out;obtain⟨zz,hzz⟩:∃ z,G.2[q]?.getD 0=z:=⟨_,rfl⟩
  have hc:=Zcl W4.out.mrk q256;have hfr:=Znr W4.out.mrk q;obtain⟨W5,R45⟩:=W4.out.up E0.out (q:=q) (y:=zz+1) (by rw[hzz]);rw[hzz] at hc hfew;have wrap1:IntKind.i64.wrap (zz+1)=zz+1:=Qz _ (by omega);obtain⟨w5,hw5⟩:∃ w5,w4.setCell ⟨g2,q,none⟩ (.int .i64 (zz+1))=w5:=⟨_,rfl⟩
  rw[hw5] at W5 R45;have X5:=Za W5;have R5:=Za (Z1 R4.out R45:Zdc g1 g2 w1 w5);have k5:=Z9 R45 K4.out (by have:=hlo.out;have:=E0.out.lt1;omega) (by have:=hlo.out;have:=E0.out.lt2;omega);obtain⟨s0,s1,s2,s3,s4,s5,s6,s7,s8,s9,s10,_⟩:=Zg K4.out;have j1:(0:Int)<=(q:Int):=by omega
  have j2:(q:Int)<256:=by omega
  have hpow:7 ^ ((rmV s (q:Int)).1.toNat+1)<=7 ^ 6:=Qw (by decide) (by omega);have hrec:=Za (Ztp s (rmV s (q:Int)).1.toNat v4 (q:Int) (G.1,frU G.2 q) _ w0 q0 q1 q2 q3 q4 q5 q6 q7 q8 g1 g2 lo w5 v3 v1 (by omega) v2 E0.out X5.out);replace hzz:=Za hzz;clear hgo h8 h256 v1 v2 v3 v4 v5 hfew hbd W5 R45 hpow
  go_upto_region 10 with fail
  clear hw5 hc hfr s0 s1 s2 s3 s4 s5 s6 s7 s8 s9 s10;obtain⟨s0,s1,s2,s3,s4,s5,s6,s7,s8,s9,s10,_⟩:=Zg k5;clear k5
  go_wp2_with fail
  with_reducible refine hrec.out.mono ?_
  rintro e w6 ⟨rfl,hW6,hR6⟩;have hA:=Za hW6;have hR:=Za (Z1 R5.out hR6);clear hW6 hR6
  go_wp2_with fail
  go_roundw
  case rel=>exact⟨k+1,_,by omega,by go_num,hnx.out,hA.out,hR.out⟩
  case measure=>simp[intOf];omega
 | false =>
  have hna:=Za (of_decide_eq_false hbb);have S3:=Za (W3.out.sto E0.out);obtain⟨s0,s1,s2,s3,s4,s5,s6,s7,s8,s9,s10,_⟩:=Zg K3.out;obtain⟨E1,hE1⟩:∃ q,ckE s a=q:=⟨_,rfl⟩
  obtain⟨H1,hH1⟩:∃ q,ckH s a=q:=⟨_,rfl⟩
  have hcall:=hCk.out _ a w3 S3.out;rw[hE1,hH1] at hcall;replace hcall:=Za hcall;clear hbb
  go_upto_region 6 with fail
  go_wp2_with fail
  with_reducible refine hcall.out.mono ?_
  rintro e w4 ⟨rfl,hb4⟩;have W4:=Za (W3.out.below hb4);have R4:=Za (Z1 R3.out (Xx hb4):Zdc g1 g2 w1 w4);have K4:=Za ((hb4.block _ (Qa.1 K3.out).1).trans K3.out);clear hb4 S3 hcall s0 s1 s2 s3 s4 s5 s6 s7 s8 s9 s10 K3 R3 W3;by_cases he:E1=0
  ·subst he
   have hway:Hid (a∈G.1\/ckE s a=0):=Za (.inr hE1);replace hE1:=Za hE1
   go_upto_region 9 with fail
   have hgo:a∈G.1\/ckE s a=0:=hway.out;obtain⟨h8,h256,v1,v2,v3,v4,v5,_,_⟩:=Zkb hgo hGg.out;have hnx:=Za (hnext.out hgo);obtain⟨q,rfl⟩:∃ q:Nat,a=q:=⟨a.toNat,by omega⟩
   have q256:q<256:=by omega
   have hfew:=hGg.out.few q;have hbd:=hbud.out;obtain⟨zz,hzz⟩:∃ z,G.2[q]?.getD 0=z:=⟨_,rfl⟩
   have hc:=Zcl W4.out.mrk q256;have hfr:=Znr W4.out.mrk q;obtain⟨W5,R45⟩:=W4.out.up E0.out (q:=q) (y:=zz+1) (by rw[hzz]);rw[hzz] at hc hfew;have wrap1:IntKind.i64.wrap (zz+1)=zz+1:=Qz _ (by omega);obtain⟨w5,hw5⟩:∃ w5,w4.setCell ⟨g2,q,none⟩ (.int .i64 (zz+1))=w5:=⟨_,rfl⟩
   rw[hw5] at W5 R45;have X5:=Za W5;have R5:=Za (Z1 R4.out R45:Zdc g1 g2 w1 w5);have k5:=Z9 R45 K4.out (by have:=hlo.out;have:=E0.out.lt1;omega) (by have:=hlo.out;have:=E0.out.lt2;omega);obtain⟨s0,s1,s2,s3,s4,s5,s6,s7,s8,s9,s10,_⟩:=Zg K4.out;have j1:(0:Int)<=(q:Int):=by omega
   have j2:(q:Int)<256:=by omega
   have hpow:7 ^ ((rmV s (q:Int)).1.toNat+1)<=7 ^ 6:=Qw (by decide) (by omega);have hrec:=Za (Ztp s (rmV s (q:Int)).1.toNat v4 (q:Int) (G.1,frU G.2 q) _ w0 q0 q1 q2 q3 q4 q5 q6 q7 q8 g1 g2 lo w5 v3 v1 (by omega) v2 E0.out X5.out);replace hzz:=Za hzz;clear hgo h8 h256 v1 v2 v3 v4 v5 hfew hbd W5 R45 hpow
   go_upto_region 10 with fail
   clear hw5 hc hfr s0 s1 s2 s3 s4 s5 s6 s7 s8 s9 s10;obtain⟨s0,s1,s2,s3,s4,s5,s6,s7,s8,s9,s10,_⟩:=Zg k5;clear k5
   go_wp2_with fail
   with_reducible refine hrec.out.mono ?_
   rintro e w6 ⟨rfl,hW6,hR6⟩;have hA:=Za hW6;have hR:=Za (Z1 R5.out hR6);clear hW6 hR6
   go_wp2_with fail
   go_roundw
   case rel=>exact⟨k+1,_,by omega,by go_num,hnx.out,hA.out,hR.out⟩
   case measure=>simp[intOf];omega
  ·have e1:(E1 != 0)=true:=by simpa using he
   have hF:=hbad.out (fun h=>h.elim hna.out fun h=>he (hE1 ▸ h))
   have he1:Hid (Zrf s L g w0 g1 g2 lo w (.returned (.bool false)) w4):=Za (by
    unfold Zrf;rw[hF]
    exact⟨rfl,fun h=>(by cases h),W4.out.bel,Z1 R1.out R4.out⟩)
   replace hE1:=Za hE1;clear hF he
   go_wp2_with fail
   go_ret;exact he1.out}
abbrev Vl:=Int×Int×Bool×Int
def Ym (v:Vl):It:=((1,v.1,0),0,le 2 v.2.1++([if v.2.2.1 then 1 else 0]++le 4 v.2.2.2))
def Zee (x:It):Option Vl :=
 if x.2.2.length=7/\Ym (x.1.2.1,num (x.2.2.take 2),decide (x.2.2[2]?.getD 0=1),num (x.2.2.drop 3))=x then some (x.1.2.1,num (x.2.2.take 2),decide (x.2.2[2]?.getD 0=1),num (x.2.2.drop 3)) else none
theorem Zgj (v:Vl):(Ym v).2.2.length=7:=by simp[Ym,Z6]
theorem Zlz (v:Vl):(Ym v).1=(1,v.1,0):=rfl
theorem Zpx {x:It}{v:Vl}(h:Zee x=some v):Ym v=x:=by{
 unfold Zee at h;split at h
 ·rename_i hh
  cases h;exact hh.2
 ·cases h}
theorem Z43 {x:It}{v:Vl}(hx:InI x) (h:Zee x=some v):0<=v.1/\v.1<4294967296/\0<=v.2.1/\v.2.1<65536/\0<=v.2.2.2/\v.2.2.2<4294967296:=by{
 have hk:=Zpx h;unfold Zee at h;split at h
 ·rename_i hh
  cases h;obtain⟨⟨⟨i0,i1⟩,_⟩,_⟩:=hx;have a1:=Za2 (x.2.2.take 2);have a2:=Zl2 (x.2.2.take 2);have a3:=Za2 (x.2.2.drop 3);have a4:=Zl2 (x.2.2.drop 3);rw[Qo,hh.1] at a2;rw[Pi,hh.1] at a4;exact⟨i0,by omega,a1,a2,a3,a4⟩
 ·cases h}
theorem Z2c {vs:List Vl}(h:Up (vs.map Ym)):vs.Pairwise fun u v=>u.1<v.1:=by{
 unfold Up at h;rw[List.pairwise_map] at h;refine h.imp fun {u v} huv=> ?_
 have:=Zcm huv;rw[Zlz,Zlz] at this
 dsimp only at this
 rcases this with h | ⟨_,h | ⟨_,h⟩⟩
 ·exact absurd h (Nat.lt_irrefl _)
 ·exact h
 ·omega}
abbrev vlV (v:Vl):Qbf:=.agg #[.int .u32 v.1,.int .i64 v.2.1,.bool v.2.2.1,.int .u32 v.2.2.2]
structure InV (v:Vl):Prop where
 id:InU v.1
 root:0<=v.2.1/\v.2.1<65536
 from_:InU v.2.2.2
theorem Zp3 (x:Int) (w:Qbe):Qbk Tryz.prog 35 #[.int .u32 x] w fun e w'=>e=.returned (.agg #[.int .u8 1,.int .u32 x,.int .u32 0])/\Qbm w.heap.size w w':=by{
 obtain⟨w1,hw1,_,_,_,hs1,hB1,b1⟩:=Xd w (.int .u8 0) (.int .u32 0) (.int .u32 0) 77;obtain⟨k0,k1,k2,kf,_⟩:=Zk b1;obtain⟨w2,hw2,g2,gr2,_⟩:=Yl (a':=.int .u8 1) (b':=.int .u32 x) (c':=.int .u32 0) b1;obtain⟨f1,f2,f3,_⟩:=Zk g2;have hB2:=Za (hB1.grown gr2 hB1.size (fun k e=>by cases e;exact Qe _));clear b1 g2 gr2 hB1
 go_enter Tryz.func35,Tryz.ntmps35
 go_upto_region 1 with fail
 clear hw1
 go_wp2_with fail
 exact Qbi (v:=.agg #[.int .u8 1,.int .u32 x,.int .u32 0]) (by simp[results,Tryz.results35,go_sem,f1,f2,f3]) rfl ⟨rfl,hB2.out⟩}
theorem Zwk {v:Vl}(h:InV v):InI (Ym v):=⟨⟨h.id,Int.le_refl 0,show (0:Int)<4294967296 by decide⟩,show (-9223372036854775808:Int)<=0 by decide,show (0:Int)<=9223372036854775807 by decide⟩
theorem Zrk (v:Vl) (hv:InV v) (w:Qbe) :
  Qbk Tryz.prog 31 #[vlV v] w fun e w'=>∃ A c,e=.returned (.tuple #[itV (Ym v) (.slice A 7 c),.int .i64 0])/\Itm (New w.heap.size w') w' (itV (Ym v) (.slice A 7 c)) (Ym v)/\Qbm w.heap.size w w':=by{
 obtain⟨i,r,f,o⟩:=v;obtain⟨⟨i0,i1⟩,⟨r0,r1⟩,⟨o0,o1⟩⟩:=id hv
 dsimp only at i0 i1 r0 r1 o0 o1
 have hin:=Za (Zwk hv);obtain⟨w1,hw1,b1,hs1,hB1⟩:=Xy w (.int .u32 i) (.int .i64 r) (.bool f) (.int .u32 o) 40;obtain⟨w2,hw2,_,_,_,_,_,hs2,hB2,b2⟩:=Zz w1 (.int .u8 0) (.int .u32 0) (.int .u32 0) (.int .i64 0) (.slice none 0 0) 79;have K1:=Za ((hB2.block _ (Qa.1 b1).1).trans b1);have K2:=Za b2;have B2:=Za (hB1.trans (hB2.mono hB1.size));have hs1':=Za hs1;have hs2':=Za hs2;obtain⟨k0,k1,k2,k3,_⟩:=Ze K1.out;clear b1 b2 hB1 hB2 hs1 hs2
 go_enter Tryz.func31,Tryz.ntmps31
 go_upto_region 1 with fail
 clear hw2 hw1
 go_wp2_with fail
 with_reducible refine(Z0u r r0 r1 _).mono ?_
 rintro e w3 ⟨A3,rfl,y3,hb3⟩;have y3':=Za y3;have l3:=Za hb3.size;have K1':=Za ((hb3.block _ (Qa.1 K1.out).1).trans K1.out);have K2':=Za ((hb3.block _ (Qa.1 K2.out).1).trans K2.out);have B3:=Za (B2.out.trans (hb3.mono B2.out.size));clear k0 k1 k2 k3 y3 hb3 K1 K2 B2;obtain⟨k0,k1,k2,k3,_⟩:=Ze K1'.out;obtain⟨fz,hfz⟩:∃ q:UInt8,(if f then (1:UInt8) else 0)=q:=⟨_,rfl⟩
 obtain⟨fn,hfn⟩:∃ q:Int,(fz.toNat:Int)=q:=⟨_,rfl⟩
 have hval:Hid (Ym (i,r,f,o)=((1,i,0),0,[le 2 r,[fz],le 4 o].flatten)):=Za (by
  rw[<- hfz];unfold Ym
  cases f <;> simp)
 have hlen:Hid (Zhf [le 2 r,[fz],le 4 o]=7):=Za (by simp[Zhf,Z6]);cases f with
 | true =>
  simp only[if_true] at hfz;subst hfz;obtain rfl:fn=1:=by rw[<- hfn];rfl
  have HU:=Za hfn;clear hfn
  go_upto_region 7 with fail
  refine Xi (ops' := ?opsLatea) (by kernel_rfl) [] ?hea (by kernel_rfl) (fun d _ _ _ _ h=>by cases d <;> exact h) 12 (fun W=>Qbm w3.heap.size w3 W) (fun j=>match j with
    | 5=>some (fun v W=>rBy (Old W) W [v] [1])
    | 8=>some (fun v W=>rBy (Old W) W [v] (le 4 o))
    | 9=>some (fun v W=>rSl 1 rBy (Old W) W [v] [le 2 r,[1],le 4 o])
    | 10=>some (fun v W=>W.ownsRow w3.heap.size 5 1 v 7 (u8s [le 2 r,[1],le 4 o].flatten))
    | _=>none) (fun j=>match j with
    | 2=>some (.agg #[.int .u8 1,.int .u32 i,.int .u32 0])
    | _=>none) ?h1 ?h2 ?h3 (Qb _ _).drew (fun w w' h hb=>h.trans (hb.mono h.size)) ?tst ?_
  case hea =>
   simp[Z7];rfl
  case h1=>decide
  case h2=>kernel_rfl
  case h3=>kernel_rfl
  case tst =>
   intro j φ x W W' hp hx hb
   match j,hp with
   | 5,hp=>cases hp;exact Zf.old hx hb
   | 8,hp=>cases hp;exact Zf.old hx hb
   | 9,hp=>cases hp;exact(Zv Zf).old hx hb
   | 10,hp=>cases hp;exact Zy hx hb
  simp only[Pj,Q7,Pk,Q0]
  repeat (first
   | (refine wpAs_skip rfl ?_;simp only[Qd,Zb,Zc,Zd])
   | (refine wpAs_pure (v := ?_) rfl rfl ?_ ?_;rotate_left;(intro W hC hE;clear hE;(obtain⟨z0,z1,z2,z3,_⟩:=Ze ((hC.block _ (Qa.1 K1'.out).1).trans K1'.out));clear hC;go_simp;first | done | with_reducible rfl);simp only[Qd,Zb,Zc,Zd]))
  refine wpAs_fixed rfl rfl rfl ?_ ?_
  ·intro W hC hE
   refine does_enter (f:=35) (args:=#[.int .u32 i]) ?_ ?_
   ·go_simp
   ·refine(Zp3 i W).mono ?_
    (rintro e W' ⟨rfl,hg⟩)
    exact⟨_,rfl,rfl,hg⟩
  simp only[Qd,Zb,Zc,Zd]
  repeat (first
   | (refine wpAs_skip rfl ?_;simp only[Qd,Zb,Zc,Zd])
   | (refine wpAs_pure (v := ?_) rfl rfl ?_ ?_;rotate_left;(intro W hC hE;clear hE;skip;clear hC;go_simp;first | done | with_reducible rfl);simp only[Qd,Zb,Zc,Zd]))
  refine wpAs_act rfl rfl ?_ ?_
  ·intro W hC hE
   clear hE hC;have hy2:=Za (Zfm W 5 (1:UInt8) (1:Int) rfl)
   go_simp
   exact⟨hy2.out,(Qb _ _).alloc (Qe _) _⟩
  simp only[Qd,Zb,Zc,Zd,envAdd];intro x5
  repeat (first
   | (refine wpAs_skip rfl ?_;simp only[Qd,Zb,Zc,Zd])
   | (refine wpAs_pure (v := ?_) rfl rfl ?_ ?_;rotate_left;(intro W hC hE;clear hE;(obtain⟨z0,z1,z2,z3,_⟩:=Ze ((hC.block _ (Qa.1 K1'.out).1).trans K1'.out));clear hC;go_simp;first | done | with_reducible rfl);simp only[Qd,Zb,Zc,Zd]))
  refine wpAs_act rfl rfl ?_ ?_
  ·intro W hC hE
   clear hE;refine does_enter (f:=67) (args:=#[.int .u32 o]) ?_ ?_
   ·go_simp
   ·refine(Zi3 o o0 o1 W).mono ?_
    rintro e W' ⟨_,_,rfl,hy,hb⟩;exact⟨_,rfl,hy,hb⟩
  simp only[Qd,Zb,Zc,Zd,envAdd];intro x8;refine wpAs_act rfl rfl ?_ ?_
  ·intro W hC hE
   have y8:=hE.1 rfl;have y5:=hE.2.1 rfl
   have hl5:=Za (Zkn W 27 [.slice A3 2 2,x5,x8] [le 2 r,[1],le 4 o] rfl (by simp) (fun j v x h1 h2=>by
    match j,h1,h2 with
    | 0,h1,h2=>cases h1;cases h2;exact Zf.old y3'.out hC
    | 1,h1,h2=>cases h1;cases h2;exact y5
    | 2,h1,h2=>cases h1;cases h2;exact y8))
   obtain⟨_,_,rfl,_⟩:=Zo y5;obtain⟨_,_,rfl,_⟩:=Zo y8;clear hE hC y5 y8
   go_simp
   exact⟨hl5.out,(Qb _ _).alloc (Qe _) _⟩
  simp only[Qd,Zb,Zc,Zd,envAdd];intro x9;refine wpAs_act rfl rfl ?_ ?_
  ·intro W hC hE
   have y9:=hE.1 rfl;refine does_enter (f:=66) (args:=#[x9]) ?_ ?_
   ·clear hE hC
    obtain⟨_,_,e,_⟩:=Zad y9;cases e;clear y9
    go_simp
   ·refine(Zej x9 _ W (by rw[hlen.out];omega) y9).mono ?_
    rintro e W' ⟨u,rfl,ho,hb⟩;rw[hlen.out] at ho;exact⟨_,rfl,Zao ho hC.size,hb⟩
  simp only[Qd,Zb,Zc,Zd,envAdd];intro x10;refine wpAs_pure (v:=.agg #[.int .u8 1,.int .u32 i,.int .u32 0,.int .i64 0,x10]) rfl rfl ?_ ?_
  ·intro W hC hE
   obtain⟨_,_,rfl,_⟩:=Yo (hE.1 rfl);clear hE hC
   go_simp
  simp only[Qd,Zb,Zc,Zd];refine wpAs_end fun W hC hE=> ?_
  have o10:=hE.1;obtain⟨A,c,rfl,_⟩:=Yo o10;have hb10:=Zcw o10;have K2w:=(hC.block _ (Qa.1 K2'.out).1).trans K2'.out;obtain⟨z0,z1,z2,z3,z4,zf,_⟩:=Zq K2w;obtain⟨W9,hW9,g9,gr9,gs9⟩:=Zah (u0:=.int .u8 1) (u1:=.int .u32 i) (u2:=.int .u32 0) (u3:=.int .i64 0) (u4:=.slice A 7 c) K2w;obtain⟨f0,f1,f2,f3,f4,_⟩:=Zq g9;have BW:=B3.out.trans (hC.mono B3.out.size);have hle:w.heap.size<=w1.heap.size:=by have:=hs1'.out;omega
  have hB9:=Za (BW.grown gr9 BW.size (fun q e=>by cases e;exact hle));have hlt:w1.heap.size<w3.heap.size:=by have:=hs2'.out;have:=l3.out;omega
  have hfin:Hid (Itm (New w.heap.size W9) W9 (itV (Ym (i,r,_,o)) (.slice A 7 c)) (Ym (i,r,_,o))):=Za ⟨_,rfl,hin.out,by
   rw[hval.out]
   exact Zf.mono (Zf.grown hb10 gr9 (fun q e=>by cases e;exact hlt)) (Qc hle (Nat.le_of_lt hlt))⟩
  clear o10 hb10 K2w g9 gr9 gs9 BW hC hE k0 k1 k2 k3
  go_wp2_with fail
  exact Qbi (v:=.tuple #[itV (Ym (i,r,_,o)) (.slice A 7 c),.int .i64 0]) (by simp[results,Tryz.results31,go_sem,f0,f1,f2,f3,f4,Ym,itV]) rfl ⟨A,c,rfl,hfin.out,hB9.out⟩
 | false =>
  simp only[Bool.false_eq_true,if_false] at hfz;subst hfz;obtain rfl:fn=0:=by rw[<- hfn];rfl
  have HU:=Za hfn;clear hfn
  go_upto_region 7 with fail
  refine Xi (ops' := ?opsLateb) (by kernel_rfl) [] ?heb (by kernel_rfl) (fun d _ _ _ _ h=>by cases d <;> exact h) 12 (fun W=>Qbm w3.heap.size w3 W) (fun j=>match j with
    | 5=>some (fun v W=>rBy (Old W) W [v] [0])
    | 8=>some (fun v W=>rBy (Old W) W [v] (le 4 o))
    | 9=>some (fun v W=>rSl 1 rBy (Old W) W [v] [le 2 r,[0],le 4 o])
    | 10=>some (fun v W=>W.ownsRow w3.heap.size 5 1 v 7 (u8s [le 2 r,[0],le 4 o].flatten))
    | _=>none) (fun j=>match j with
    | 2=>some (.agg #[.int .u8 1,.int .u32 i,.int .u32 0])
    | _=>none) ?h1 ?h2 ?h3 (Qb _ _).drew (fun w w' h hb=>h.trans (hb.mono h.size)) ?tst ?_
  case heb =>
   simp[Z7];rfl
  case h1=>decide
  case h2=>kernel_rfl
  case h3=>kernel_rfl
  case tst =>
   intro j φ x W W' hp hx hb
   match j,hp with
   | 5,hp=>cases hp;exact Zf.old hx hb
   | 8,hp=>cases hp;exact Zf.old hx hb
   | 9,hp=>cases hp;exact(Zv Zf).old hx hb
   | 10,hp=>cases hp;exact Zy hx hb
  simp only[Pj,Q7,Pk,Q0]
  repeat (first
   | (refine wpAs_skip rfl ?_;simp only[Qd,Zb,Zc,Zd])
   | (refine wpAs_pure (v := ?_) rfl rfl ?_ ?_;rotate_left;(intro W hC hE;clear hE;(obtain⟨z0,z1,z2,z3,_⟩:=Ze ((hC.block _ (Qa.1 K1'.out).1).trans K1'.out));clear hC;go_simp;first | done | with_reducible rfl);simp only[Qd,Zb,Zc,Zd]))
  refine wpAs_fixed rfl rfl rfl ?_ ?_
  ·intro W hC hE
   refine does_enter (f:=35) (args:=#[.int .u32 i]) ?_ ?_
   ·go_simp
   ·refine(Zp3 i W).mono ?_
    (rintro e W' ⟨rfl,hg⟩)
    exact⟨_,rfl,rfl,hg⟩
  simp only[Qd,Zb,Zc,Zd]
  repeat (first
   | (refine wpAs_skip rfl ?_;simp only[Qd,Zb,Zc,Zd])
   | (refine wpAs_pure (v := ?_) rfl rfl ?_ ?_;rotate_left;(intro W hC hE;clear hE;skip;clear hC;go_simp;first | done | with_reducible rfl);simp only[Qd,Zb,Zc,Zd]))
  refine wpAs_act rfl rfl ?_ ?_
  ·intro W hC hE
   clear hE hC;have hy2:=Za (Zfm W 5 (0:UInt8) (0:Int) rfl)
   go_simp
   exact⟨hy2.out,(Qb _ _).alloc (Qe _) _⟩
  simp only[Qd,Zb,Zc,Zd,envAdd];intro x5
  repeat (first
   | (refine wpAs_skip rfl ?_;simp only[Qd,Zb,Zc,Zd])
   | (refine wpAs_pure (v := ?_) rfl rfl ?_ ?_;rotate_left;(intro W hC hE;clear hE;(obtain⟨z0,z1,z2,z3,_⟩:=Ze ((hC.block _ (Qa.1 K1'.out).1).trans K1'.out));clear hC;go_simp;first | done | with_reducible rfl);simp only[Qd,Zb,Zc,Zd]))
  refine wpAs_act rfl rfl ?_ ?_
  ·intro W hC hE
   clear hE;refine does_enter (f:=67) (args:=#[.int .u32 o]) ?_ ?_
   ·go_simp
   ·refine(Zi3 o o0 o1 W).mono ?_
    rintro e W' ⟨_,_,rfl,hy,hb⟩;exact⟨_,rfl,hy,hb⟩
  simp only[Qd,Zb,Zc,Zd,envAdd];intro x8;refine wpAs_act rfl rfl ?_ ?_
  ·intro W hC hE
   have y8:=hE.1 rfl;have y5:=hE.2.1 rfl
   have hl5:=Za (Zkn W 27 [.slice A3 2 2,x5,x8] [le 2 r,[0],le 4 o] rfl (by simp) (fun j v x h1 h2=>by
    match j,h1,h2 with
    | 0,h1,h2=>cases h1;cases h2;exact Zf.old y3'.out hC
    | 1,h1,h2=>cases h1;cases h2;exact y5
    | 2,h1,h2=>cases h1;cases h2;exact y8))
   obtain⟨_,_,rfl,_⟩:=Zo y5;obtain⟨_,_,rfl,_⟩:=Zo y8;clear hE hC y5 y8
   go_simp
   exact⟨hl5.out,(Qb _ _).alloc (Qe _) _⟩
  simp only[Qd,Zb,Zc,Zd,envAdd];intro x9;refine wpAs_act rfl rfl ?_ ?_
  ·intro W hC hE
   have y9:=hE.1 rfl;refine does_enter (f:=66) (args:=#[x9]) ?_ ?_
   ·clear hE hC
    obtain⟨_,_,e,_⟩:=Zad y9;cases e;clear y9
    go_simp
   ·refine(Zej x9 _ W (by rw[hlen.out];omega) y9).mono ?_
    rintro e W' ⟨u,rfl,ho,hb⟩;rw[hlen.out] at ho;exact⟨_,rfl,Zao ho hC.size,hb⟩
  simp only[Qd,Zb,Zc,Zd,envAdd];intro x10;refine wpAs_pure (v:=.agg #[.int .u8 1,.int .u32 i,.int .u32 0,.int .i64 0,x10]) rfl rfl ?_ ?_
  ·intro W hC hE
   obtain⟨_,_,rfl,_⟩:=Yo (hE.1 rfl);clear hE hC
   go_simp
  simp only[Qd,Zb,Zc,Zd];refine wpAs_end fun W hC hE=> ?_
  have o10:=hE.1;obtain⟨A,c,rfl,_⟩:=Yo o10;have hb10:=Zcw o10;have K2w:=(hC.block _ (Qa.1 K2'.out).1).trans K2'.out;obtain⟨z0,z1,z2,z3,z4,zf,_⟩:=Zq K2w;obtain⟨W9,hW9,g9,gr9,gs9⟩:=Zah (u0:=.int .u8 1) (u1:=.int .u32 i) (u2:=.int .u32 0) (u3:=.int .i64 0) (u4:=.slice A 7 c) K2w;obtain⟨f0,f1,f2,f3,f4,_⟩:=Zq g9;have BW:=B3.out.trans (hC.mono B3.out.size);have hle:w.heap.size<=w1.heap.size:=by have:=hs1'.out;omega
  have hB9:=Za (BW.grown gr9 BW.size (fun q e=>by cases e;exact hle));have hlt:w1.heap.size<w3.heap.size:=by have:=hs2'.out;have:=l3.out;omega
  have hfin:Hid (Itm (New w.heap.size W9) W9 (itV (Ym (i,r,_,o)) (.slice A 7 c)) (Ym (i,r,_,o))):=Za ⟨_,rfl,hin.out,by
   rw[hval.out]
   exact Zf.mono (Zf.grown hb10 gr9 (fun q e=>by cases e;exact hlt)) (Qc hle (Nat.le_of_lt hlt))⟩
  clear o10 hb10 K2w g9 gr9 gs9 BW hC hE k0 k1 k2 k3
  go_wp2_with fail
  exact Qbi (v:=.tuple #[itV (Ym (i,r,_,o)) (.slice A 7 c),.int .i64 0]) (by simp[results,Tryz.results31,go_sem,f0,f1,f2,f3,f4,Ym,itV]) rfl ⟨A,c,rfl,hfin.out,hB9.out⟩}
theorem Zhx {i r o:Int}{f:Bool}(hv:InV (i,r,f,o)) (w:Qbe) :
  Qbk Tryz.prog 31 #[.agg #[.int .u32 i,.int .i64 r,.bool f,.int .u32 o]] w fun e w'=>∃ A c,e=.returned (.tuple #[.agg #[.int .u8 1,.int .u32 i,.int .u32 0,.int .i64 0,.slice A 7 c],.int .i64 0])/\Itm (New w.heap.size w') w' (.agg #[.int .u8 1,.int .u32 i,.int .u32 0,.int .i64 0,.slice A 7 c]) (Ym (i,r,f,o))/\Qbm w.heap.size w w':=Zrk _ hv w
def Vi:Vl:=(0,0,false,0)
def Ztx (x:It):Int:=if (Zee x).isSome then 0 else 8
def Zuv (x:It):Vl:=(Zee x).getD Vi
theorem Zwo {x:It}(h:x.2.2.length<7):Zee x=none:=by
 unfold Zee;rw[if_neg (fun e=>by omega)]
theorem Zzf {x:It}(h:7<=x.2.2.length){f:Bool}(hf:decide (x.2.2[2]?.getD 0=1)=f):Zee x=if Ym (x.1.2.1,gv 2 x.2.2 0,f,gv 4 x.2.2 3)=x then some (x.1.2.1,gv 2 x.2.2 0,f,gv 4 x.2.2 3) else none:=by{
 subst hf;have e2:gv 2 x.2.2 0=num (x.2.2.take 2):=by rw[Zgd ⟨by omega,by omega⟩];rfl
 have e4:gv 4 x.2.2 3=num ((x.2.2.drop 3).take 4):=by rw[Zgd ⟨by omega,by omega⟩];rfl
 rw[e2,e4];by_cases h7:x.2.2.length=7
 ·rw[Qh (l:=x.2.2.drop 3) (by rw[Pi];omega)]
  unfold Zee;by_cases e:Ym (x.1.2.1,num (x.2.2.take 2),decide (x.2.2[2]?.getD 0=1),num (x.2.2.drop 3))=x
  ·rw[if_pos ⟨h7,e⟩,if_pos e]
  ·rw[if_neg (fun hh=>e hh.2),if_neg e]
 ·rw[if_neg (fun e=>h7 (by rw[<- e,Zgj]))]
  unfold Zee;rw[if_neg (fun e=>h7 e.1)]}
theorem Zlo (v:Qbf) (x:It) (w:Qbe) (hx:Itm (Old w) w v x) :
  Qbk Tryz.prog 111 #[v] w fun e w'=>e=.returned (.tuple #[vlV (Zuv x),.int .i64 (Ztx x)])/\Qbm w.heap.size w w':=by{
 obtain⟨A,c,rfl,hin,l1,m1,hb⟩:=hx.open;obtain⟨n,hn⟩:∃ n,x.2.2.length=n:=⟨_,rfl⟩
 have hn':=Za hn;obtain⟨_,_,e,_,_,hbyt⟩:=Xs (B:=w.heap.size) (fun p hp=>hp) hb;cases e;have hbad:Hid (n<7->Ztx x=8/\Zuv x=Vi):=Za fun h=>by
  have:=Zwo (x:=x) (by omega);unfold Ztx Zuv;rw[this];exact⟨rfl,rfl⟩
 have hgood:Hid (7<=n->∀ f,decide (x.2.2[2]?.getD 0=1)=f->Zee x=if Ym (x.1.2.1,gv 2 x.2.2 0,f,gv 4 x.2.2 3)=x then some (x.1.2.1,gv 2 x.2.2 0,f,gv 4 x.2.2 3) else none):=Za fun h f hf=>Zzf (by omega) hf
 have hg2:Hid (0<=gv 2 x.2.2 0/\gv 2 x.2.2 0<65536):=Za (Zd9 2 x.2.2 0);have hg4:Hid (0<=gv 4 x.2.2 3/\gv 4 x.2.2 3<4294967296):=Za (Zd9 4 x.2.2 3);have hge2:Hid (ge 2 n 0=if 2<=n then 0 else 8):=Za (by unfold ge;congr 1;apply propext;omega);have hge4:Hid (ge 4 n 3=if 7<=n then 0 else 8):=Za (by unfold ge;congr 1;apply propext;omega);obtain⟨w1,hw1,_,_,_,_,_,hs1,hB1,b1⟩:=Zz w (.int .u8 (x.1.1.toNat:Int)) (.int .u32 x.1.2.1) (.int .u32 x.1.2.2) (.int .i64 x.2.1) (.slice A x.2.2.length c) 79;obtain⟨w2,hw2,b2,hs2,hB2⟩:=Xy w1 (.int .u32 0) (.int .i64 0) (.bool false) (.int .u32 0) 40;have K1:=(hB2.block _ (Qa.1 b1).1).trans b1;have K2:=Za b2;have B2:=Za (hB1.trans (hB2.mono hB1.size));have HY:=Za hbyt;have HX:=Za hx;have HIN:=Za hin;rw[hn] at l1 hw1 K1 HX ⊢;have K1:=Za K1;obtain⟨k0,k1,k2,k3,k4,_⟩:=Zq K1.out;have hs1':=Za hs1;have hs2':=Za hs2;obtain⟨rt,hrt⟩:∃ q,gv 2 x.2.2 0=q:=⟨_,rfl⟩
 obtain⟨fm,hfm⟩:∃ q,gv 4 x.2.2 3=q:=⟨_,rfl⟩
 rw[hrt] at hg2;rw[hfm] at hg4;rw[hrt,hfm] at hgood;obtain⟨E1,hE1⟩:∃ q,ge 2 n 0=q:=⟨_,rfl⟩
 obtain⟨E2,hE2⟩:∃ q,ge 4 n 3=q:=⟨_,rfl⟩
 rw[hE1] at hge2;rw[hE2] at hge4;obtain⟨OR,hOR⟩:∃ q,orN [E1,E2]=q:=⟨_,rfl⟩
 have hor:Hid ((7<=n->OR=0)/\(n<7->OR=8)):=Za (by
  rw[<- hOR,hge2.out,hge4.out];refine⟨fun h=> ?_,fun h=> ?_⟩
  ·rw[if_pos (by omega),if_pos h];rfl
  ·rw[if_neg (show ¬ 7<=n by omega)]
   split <;> rfl)
 have hEin:Hid (∀ y∈[E1,E2],Zcz y):=Za fun y hy=>by
  rw[hge2.out,hge4.out] at hy;simp only[Qm,List.not_mem_nil,or_false] at hy;rcases hy with rfl | rfl <;> (split <;> exact⟨by decide,by decide⟩)
 replace hn:=Za hn;replace hrt:=Za hrt;replace hfm:=Za hfm;replace hE1:=Za hE1;replace hE2:=Za hE2;replace hOR:=Za hOR;clear hx hb hbyt hin hs1 hs2 hB1 hB2 b1 b2
 go_enter Tryz.func111,Tryz.ntmps111
 go_upto_region 1 with fail
 clear hw1 hw2
 go_wp2_with fail
 with_reducible refine(Zh5 A n c 0 x.2.2 hn' l1 m1 w2 ((HY.out.below B2.out).more B2.out.size)).mono ?_
 rintro e w3 ⟨rfl,hb3⟩;rw[hrt.out,hE1.out];have B3:=Za (B2.out.trans (hb3.mono B2.out.size));have J1:=Za ((hb3.block _ (Qa.1 K1.out).1).trans K1.out);have J2:=Za ((hb3.block _ (Qa.1 K2.out).1).trans K2.out);clear k0 k1 k2 k3 k4 hb3 K1 K2;obtain⟨k0,k1,k2,k3,k4,_⟩:=Zq J1.out
 go_wp2_with fail
 with_reducible refine(Zdi A n c 3 x.2.2 hn' l1 m1 w3 ((HY.out.below B3.out).more B3.out.size)).mono ?_
 rintro e w4 ⟨rfl,hb4⟩;rw[hfm.out,hE2.out];have B4:=Za (B3.out.trans (hb4.mono B3.out.size));have L1:=(hb4.block _ (Qa.1 J1.out).1).trans J1.out;have L2:=(hb4.block _ (Qa.1 J2.out).1).trans J2.out;obtain⟨w5,hw5,h5⟩:∃ w5,w4.alloc (.cells #[.int .i64 E1,.int .i64 E2] 36)=w5/\Zhd (Old w5) w5 [.slice (some ⟨w4.heap.size,0,none⟩) 2 2] [E1,E2] :=
  ⟨_,rfl,Zfk w4 36 [E1,E2] _ rfl (by simp) hEin.out⟩
 have b5:Qbm w4.heap.size w4 w5:=by rw[<- hw5];exact(Qb _ _).alloc (Qe _) _
 have B5:=Za (B4.out.trans (b5.mono B4.out.size));have M1:=Za ((b5.block _ (Qa.1 L1).1).trans L1);have M2:=Za ((b5.block _ (Qa.1 L2).1).trans L2);replace h5:=Za h5;clear k0 k1 k2 k3 k4 hb4 J1 J2 L1 L2 b5
 go_wp2_with fail
 with_reducible refine(Ztm _ [E1,E2] _ h5.out).mono ?_
 rintro e w6 ⟨rfl,rfl⟩;rw[hOR.out];clear hw5;by_cases h7:7<=n
 case neg =>
  obtain rfl:OR=8:=hor.out.2 (by omega);obtain⟨v1,v2⟩:=hbad.out (by omega);obtain⟨u0,u1,u2,u3,uf,_⟩:=Ze M2.out;have v1':=Za v1;have v2':=Za v2;obtain⟨W9,hW9,g9,gr9,gs9⟩:=Zt (a':=.int .u32 0) (b':=.int .i64 0) (c':=.bool false) (d':=.int .u32 0) M2.out;obtain⟨f0,f1,f2,f3,_⟩:=Ze g9;have hB9:=Za (B5.out.grown gr9 B5.out.size (fun q e=>by cases e;have:=hs1'.out;omega));clear v1 v2 g9 gr9 gs9
  go_wp2_with fail
  refine Qbi (v:=.tuple #[vlV Vi,.int .i64 8]) (by simp[results,Tryz.results111,go_sem,f0,f1,f2,f3,vlV,Vi]) rfl ?_;rw[v1'.out,v2'.out];exact⟨rfl,hB9.out⟩
 obtain rfl:OR=0:=hor.out.1 h7;have hy5:=HX.out.below B5.out;obtain⟨_,_,_,_,_,hcl⟩:=Zo (by obtain⟨_,e,_,h⟩:=hy5;cases e;exact h:rBy (Old w5) w5 [.slice A n c] x.2.2);obtain⟨ad,rfl,_,hc2⟩:=hcl 2 (by have:=hn.out;omega);obtain⟨bv,hbv⟩:∃ q:UInt8,x.2.2[2]?.getD 0=q:=⟨_,rfl⟩
 rw[hbv,show ad.add 2=⟨ad.block,ad.off+2,none⟩ from rfl] at hc2;obtain⟨fb,hfb⟩:∃ q,((bv.toNat:Int)==1)=q:=⟨_,rfl⟩
 have hvol:=hgood.out h7 fb (by
  rw[hbv,<- hfb];by_cases e:bv=1
  ·subst e;rfl
  ·have:¬ ((bv.toNat:Int)=1):=fun h=>e (UInt8.toNat_inj.1 (by show bv.toNat=1;omega))
   rw[decide_eq_false e]
   exact(beq_false_of_ne this).symm)
 have HV:=Za hvol;have hiv:InV (x.1.2.1,rt,fb,fm):=⟨HIN.out.key.id,hg2.out,hg4.out⟩
 have HI:=Za hiv;have i2:(2:Int)<(n:Int):=by omega
 replace hbv:=Za hbv;replace hfb0:=Za hfb;clear hy5 hcl hvol hiv
 go_upto_region 6 with fail
 obtain⟨k0,k1,k2,k3,k4,_⟩:=Zq M1.out
 refine Xi (ops' := ?opsLate) (by kernel_rfl) [] ?he (by kernel_rfl) (fun d _ _ _ _ h=>by cases d <;> exact h) 12 (fun W=>Qbm w5.heap.size w5 W) (fun j=>match j with
   | 11=>some (fun v W=>∃ g,v=.pointer (some ⟨g,0,none⟩)/\w5.heap.size<=g/\W.heap[g]? = some (.cells #[.int .u32 0,.int .i64 0,.bool false,.int .u32 0] 40 (0,0)))
   | _=>none) (fun _=>none) ?h1 ?h2 ?h3 (Qb _ _).drew (fun w w' h hb=>h.trans (hb.mono h.size)) ?tst ?_
 case he =>
  simp[Z7];rfl
 case h1=>decide
 case h2=>kernel_rfl
 case h3=>kernel_rfl
 case tst =>
  intro j φ y W W' hp hy hb
  match j,hp with
  | 11,hp=>cases hp;obtain⟨g,e,h1,h2⟩:=hy;exact⟨g,e,h1,(hb.block g (Qa.1 h2).1).trans h2⟩
 simp only[Pj,Q7,Pk,Q0]
 repeat (first
  | (refine wpAs_skip rfl ?_;simp only[Qd,Zb,Zc,Zd])
  | (refine wpAs_pure (v := ?_) rfl rfl ?_ ?_;rotate_left;(intro W hC hE;clear hE;(obtain⟨z0,z1,z2,z3,z4,_⟩:=Zq ((hC.block _ (Qa.1 M1.out).1).trans M1.out);have z9:=(hC.cell (World.block_lt_of_cell? _ _ hc2)).trans hc2);clear hC;go_simp;first | done | with_reducible rfl);simp only[Qd,Zb,Zc,Zd]))
 refine wpAs_act rfl rfl ?_ ?_
 ·intro W hC hE
  have hs:=hC.size;clear hE hC
  go_simp
  exact⟨⟨W.heap.size,rfl,hs,Qbj _ _⟩,(Qb _ _).alloc (Qe _) _⟩
 simp only[Qd,Zb,Zc,Zd,envAdd];intro x11;refine wpAs_end fun W hC hE=> ?_
 obtain⟨⟨g,rfl,hg,hz⟩,_⟩:=hE;obtain⟨u0,u1,u2,u3,uf,_⟩:=Ze hz;obtain⟨w7,hw7,g7,gr7,gs7⟩:=Zt (a':=.int .u32 x.1.2.1) (b':=.int .i64 rt) (c':=.bool fb) (d':=.int .u32 fm) hz;have B7:=Za ((B5.out.trans (hC.mono B5.out.size)).grown gr7 (Qc B5.out.size hC.size) (fun q e=>by cases e;exact Qc B5.out.size hg));have N1:=Za ((gr7.block _ (Qk (Qa.1 M1.out).1 hC.size) (fun e=>by cases e;have:=(Qa.1 M1.out).1;omega)).trans ((hC.block _ (Qa.1 M1.out).1).trans M1.out));have N2:=Za ((gr7.block _ (Qk (Qa.1 M2.out).1 hC.size) (fun e=>by cases e;have:=(Qa.1 M2.out).1;omega)).trans ((hC.block _ (Qa.1 M2.out).1).trans M2.out));have N3:=Za g7;have hcal:=Za (Zhx HI.out w7);replace hz:=Za hz;clear g7 gr7 gs7 hC hg M1 M2 k0 k1 k2 k3 k4 hc2
 go_upto_region 7 with fail
 clear hw7 u0 u1 u2 u3 uf hz;obtain⟨t0,t1,t2,t3,_⟩:=Ze N3.out
 go_wp2_with fail
 with_reducible refine hcal.out.mono ?_
 rintro e w8 ⟨A8,c8,rfl,hI8,hb8⟩;obtain⟨w9,hw9,_,_,_,_,_,hs9,hB9,b9⟩:=Zz w8 (.int .u8 1) (.int .u32 x.1.2.1) (.int .u32 0) (.int .i64 0) (.slice A8 7 c8) 79;have hb79:=hb8.trans (hB9.mono hb8.size);have B9:=Za (B7.out.trans (hb79.mono B7.out.size));have P1:=Za ((hb79.block _ (Qa.1 N1.out).1).trans N1.out);have P2:=Za ((hb79.block _ (Qa.1 N2.out).1).trans N2.out);have P3:=Za ((hb79.block _ (Qa.1 N3.out).1).trans N3.out);have P4:=Za b9;have Q1:=Za (hI8.drop.below hB9);have Q2:=Za (HX.out.below B9.out);obtain⟨sm,hsm⟩:∃ q,Zka (Ym (x.1.2.1,rt,fb,fm)) x=q:=⟨_,rfl⟩
 have hcs:=Ztc _ _ _ _ w9 Q1.out Q2.out;rw[hsm] at hcs;replace hcs:=Za hcs;replace hs9:=Za hs9;clear hI8 hb8 hB9 b9 hb79 N1 N2 N3 t0 t1 t2 t3
 go_upto_region 8 with fail
 clear hw9;obtain⟨k0,k1,k2,k3,k4,_⟩:=Zq P1.out;obtain⟨y0,y1,y2,y3,y4,_⟩:=Zq P4.out
 go_wp2_with fail
 with_reducible refine hcs.out.mono ?_
 rintro e wa ⟨rfl,hba⟩;have Ba:=Za (B9.out.trans (hba.mono B9.out.size));have Z2:=(hba.block _ (Qa.1 P2.out).1).trans P2.out;have Z3:=(hba.block _ (Qa.1 P3.out).1).trans P3.out;obtain⟨u0,u1,u2,u3,uf,_⟩:=Ze Z2;clear k0 k1 k2 k3 k4 y0 y1 y2 y3 y4 hba;cases sm with
 | true =>
  have hvi:Zee x=some (x.1.2.1,rt,fb,fm):=by rw[HV.out,if_pos (Zxl hsm)]
  have hve:Hid (Ztx x=0/\Zuv x=(x.1.2.1,rt,fb,fm)):=Za (by unfold Ztx Zuv;rw[hvi];exact⟨rfl,rfl⟩);obtain⟨t0,t1,t2,t3,_⟩:=Ze Z3;obtain⟨wb,hwb,gb,grb,gsb⟩:=Zt (a':=.int .u32 x.1.2.1) (b':=.int .i64 rt) (c':=.bool fb) (d':=.int .u32 fm) Z2;obtain⟨f0,f1,f2,f3,_⟩:=Ze gb;have hBb:=Za (Ba.out.grown grb Ba.out.size (fun q e=>by cases e;have:=hs1'.out;omega));replace Z2:=Za Z2;replace Z3:=Za Z3;replace hsm:=Za hsm;clear hvi gb grb gsb
  go_wp2_with fail
  refine Qbi (v:=.tuple #[.agg #[.int .u32 x.1.2.1,.int .i64 rt,.bool fb,.int .u32 fm],.int .i64 0]) (by simp[results,Tryz.results111,go_sem,f0,f1,f2,f3]) rfl ?_;rw[hve.out.1,hve.out.2];exact⟨rfl,hBb.out⟩
 | false =>
  have hvi:Zee x=none:=by
   rw[HV.out,if_neg fun e=> ?_];rw[e] at hsm;rw[Zre] at hsm;cases hsm
  have hve:Hid (Ztx x=8/\Zuv x=Vi):=Za (by unfold Ztx Zuv;rw[hvi];exact⟨rfl,rfl⟩);obtain⟨wb,hwb,gb,grb,gsb⟩:=Zt (a':=.int .u32 0) (b':=.int .i64 0) (c':=.bool false) (d':=.int .u32 0) Z2;obtain⟨f0,f1,f2,f3,_⟩:=Ze gb;have hBb:=Za (Ba.out.grown grb Ba.out.size (fun q e=>by cases e;have:=hs1'.out;omega));replace Z2:=Za Z2;replace Z3:=Za Z3;replace hsm:=Za hsm;clear hvi gb grb gsb
  go_wp2_with fail
  refine Qbi (v:=.tuple #[vlV Vi,.int .i64 8]) (by simp[results,Tryz.results111,go_sem,f0,f1,f2,f3,vlV,Vi]) rfl ?_;rw[hve.out.1,hve.out.2];exact⟨rfl,hBb.out⟩}
abbrev Iv:=It×Qbf
def Zam (p:Iv):List Qbf:=[.int .u8 (p.1.1.1.toNat:Int),.int .u32 p.1.1.2.1,.int .u32 p.1.1.2.2,.int .i64 p.1.2.1,p.2]
def Zj (ps:List Iv):List Qbf:=(ps.map Zam).flatten
theorem Yh:∀ ps:List Iv,(Zj ps).length=ps.length*5
 | []=>rfl
 | p::r=>by
  have:=Yh r;simp[Zj,Zam] at this ⊢;omega
theorem Zaz:∀ {ps:List Iv}{k:Nat}{p:Iv},ps[k]? = some p->∀ j v,(Zam p)[j]? = some v->(Zj ps)[k*5+j]? = some v
 | q::r,0,p,h,j,v,hv=>by
  simp at h;subst h;have hj:j<(Zam q).length:=(Qg.1 hv).1;show ((Zam q)++Zj r)[0*5+j]? = some v;rw[Qad,Pw,List.getElem?_append_left hj,hv]
 | q::r,k+1,p,h,j,v,hv=>by
  have h':r[k]? = some p:=by simpa using h
  have:=Zaz h' j v hv;show ((Zam q)++Zj r)[(k+1)*5+j]? = some v;have hl:(Zam q).length=5:=rfl;rw[Qae (by omega),hl,show (k+1)*5+j-5=k*5+j by omega];exact this
theorem Vb {ps:List Iv}(h:∀ p∈ps,p.2.oneCell'=true):∀ u∈Zj ps,u.oneCell'=true:=fun u hu=>by
 unfold Zj at hu;rw[List.mem_flatten] at hu;obtain⟨l,hl,hul⟩:=hu;obtain⟨p,hp,rfl⟩:=Qa4.1 hl;simp[Zam] at hul;rcases hul with rfl | rfl | rfl | rfl | rfl
 ·rfl
 ·rfl
 ·rfl
 ·rfl
 ·exact h p hp
theorem Z09 {ok:Qbg->Prop}{w:Qbe}{d:Qbf}{xs:List UInt8}(h:rBy ok w [d] xs):d.oneCell'=true:=by
 obtain⟨_,_,rfl,_⟩:=Zo h;rfl
theorem Zrc {ok:Qbg->Prop}{w:Qbe}(hok:∀ p,ok p->p.block<w.heap.size){A:Option Qbg}{n c:Nat}{xs:List It}(h:Zar ok w [.slice A n c] xs):∃ ps:List Iv,ps.map (·.1)=xs/\Zmp w w.heap.size A (Zj ps)/\(∀ p∈ps,InI p.1/\rBy ok w [p.2] p.1.2.2):=by{
 obtain⟨ps,hl,hps⟩:=Zes (n:=xs.length) (p:=fun i (p:Iv)=>xs[i]? = some p.1/\∃ ad,A=some ad/\(∀ j v,(Zam p)[j]? = some v->ad.block<w.heap.size/\w.cell? (ad.add (i*5+j))=some v)/\InI p.1/\rBy ok w [p.2] p.1.2.2) (fun i hi=>by
  have hx:xs[i]? = some xs[i]:=Qf hi;obtain⟨_,_,e,_,_,h4⟩:=id h;cases e;obtain⟨ad,vs,rfl,e5,q,r⟩:=h4 i _ hx;obtain⟨d,rfl,hin,hd⟩:=Zj3 r
  exact⟨(xs[i],d),hx,ad,rfl,fun j v hj=>⟨by have:=hok _ (q j v hj).1;rwa [Zh] at this,(q j v hj).2⟩,hin,hd⟩)
 refine⟨ps,?_,?_,fun p hp=> ?_⟩
 ·apply List.ext_getElem?
  intro i;rw[Qa5];cases e:ps[i]? with
  | none =>
   have:xs.length<=i:=by rw[<- hl];exact List.getElem?_eq_none_iff.1 e
   rw[Pr this];rfl
  | some p=>exact(hps i p e).1.symm
 ·intro j v hj
  have hlt:=(Qg.1 hj).1;rw[Yh] at hlt;obtain⟨p,hp⟩:∃ p,ps[j / 5]? = some p:=⟨_,Qf (by omega)⟩
  obtain⟨_,ad,rfl,hc,_⟩:=hps _ p hp;obtain⟨u,hu⟩:∃ u,(Zam p)[j % 5]? = some u:=⟨_,Qf (by show j % 5<5;omega)⟩
  have h1:=Zaz hp _ _ hu;rw[show j / 5*5+j % 5=j by omega,hj] at h1;cases h1;have:=hc _ _ hu;rw[show j / 5*5+j % 5=j by omega] at this;exact⟨ad,rfl,this.1,this.2⟩
 ·obtain⟨i,hi⟩:=Qaq.1 hp
  obtain⟨_,_,_,_,h1,h2⟩:=hps i p hi;exact⟨h1,h2⟩}
theorem Zz1 {ok:Qbg->Prop}{w:Qbe}{ad:Qbg}{n c:Nat}{b:List It}(h:Zar ok w [.slice (some ad) n c] b) (k:Nat) (hk:k<=b.length):Zar ok w [.slice (some (ad.add (k*5))) (n-k) (c-k)] (b.drop k):=by
 obtain⟨A,cap,e,h2,h3,h4⟩:=h;cases e;refine⟨some (ad.add (k*5)),c-k,by rw[Pi],by rw[Pi];omega,by omega,fun i x hi=> ?_⟩;rw[Q6] at hi;obtain⟨ad',vs,e1,e2,e3,e4⟩:=h4 (k+i) x hi;cases e1;refine⟨ad.add (k*5),vs,rfl,e2,fun j v hj=> ?_,e4⟩;have:=e3 j v hj;rw[Zjx,show k*5+(i*5+j)=(k+i)*5+j by omega];exact this
theorem Zti {P:Program}{w:Qbe}(dT sT ty elem:Qbh) (g o dLen dCap:Nat) (a:Qbg) (sLen sCap:Nat) (C:List Qbf) (t:Qbh) (cs:List Qbf) (k:Nat)
  (hu:P.underlying dT=some (.slice elem)) (hs:(P.info? elem).map (·.size)=some 5)
  (hg:w.heap[g]? = some (.cells C.toArray t (0,0))) (hk:Nat.min sLen dLen=k) (hn:cs.length=k*5)
  (hsrc:∀ j v,cs[j]? = some v->w.cell? (a.add j)=some v) (hfit:o+cs.length<=C.length) (h1:∀ v∈cs,v.oneCell'=true) :
  (Qa6 #[dT,sT] ty #[.slice (some ⟨g,o,none⟩) dLen dCap,.slice (some a) sLen sCap]).run P w=.ok (goInt k) (w.setRow g (splice C o cs).toArray):=by{
 have hl:=run_loadCells_list (P:=P) w a cs hsrc;have hst:=run_storeCells_at P g o t cs 0 C.toArray w hg (by simpa using hfit) h1;have hf:(Qaf 5 k (.slice (some a) sLen sCap)).run P w=.ok cs.toArray w:=by
  have:=run_firstCells_some (P:=P) w 5 k a sLen sCap cs (by omega) hsrc;exact this
 cases hq:P.info? elem with
 | none=>simp[hq] at hs
 | some i =>
  have hi:i.size=5:=by simpa [hq] using hs
  simp only[Ph] at hst;simp[Qa6,run_underlying hu,Qag,sizeOf,typeInfo,hq,hi,hk,hf,hst,splice]}
theorem Zlx {w:Qbe}{g:Nat}(cs:Array Qbf):w.grownBy (w.setRow g cs) (some g) :=
 ⟨rfl,rfl,rfl,by simp[World.setRow],fun k _ hne=>setRow_other w g k cs (fun e=>hne (by rw[e]))⟩
theorem Zyb (w:Qbe) (n:Nat) (row:Option Nat):w.grownBy (w.drewN n) row:=⟨rfl,rfl,rfl,Qe _,fun _ _ _=>rfl⟩
theorem Ziy {w w2:Qbe}{n:Nat}{r:Option Nat}(h:(w.drewN n).grownBy w2 r):w.grownBy w2 r:=⟨h.os,h.tape,h.output,h.size,h.block⟩
theorem Um {w w2:Qbe}{r:Option Nat}(h:w.drew.grownBy w2 r):w.grownBy w2 r:=⟨h.os,h.tape,h.output,h.size,h.block⟩
theorem Yy {P:Program}{w:Qbe}{ops:Array Oper}{rest:List Oper}{o:Oper}{a:Act}{Q:Exit->Act->Qbe->Prop}(hgd:o.guard=none) (d s:Operand) (dT sT:Qbh)
  (ho:o.op=.call { callee:=.builtin .copy,args:=#[d,s],argTypes:=#[dT,sT] }) (elem:Qbh) (hu:P.underlying dT=some (.slice elem)) (hsz:(P.info? elem).map (·.size)=some 5)
  (dp sp:Option Qbg) (dLen dCap sLen sCap:Nat) (hd:a.eval d=.slice dp dLen dCap) (hs:a.eval s=.slice sp sLen sCap)
  (g off:Nat) (C:List Qbf) (t:Qbh) (hg:w.heap[g]? = some (.cells C.toArray t (0,0))) (cs:List Qbf) (k:Nat) (hk:Nat.min sLen dLen=k) (hn:cs.length=k*5)
  (hdp:dp=some ⟨g,off,none⟩) (ad:Qbg) (hsp:sp=some ad) (hsrc:∀ j v,cs[j]? = some v->w.cell? (ad.add j)=some v)
  (hfit:off+cs.length<=C.length) (h1:∀ v∈cs,v.oneCell'=true)
  (h:∀ w',Hid (w'.heap[g]? = some (.cells (splice C off cs).toArray t (0,0)))->Hid (w.grownBy w' (some g))->wpList P ops Q rest (a.put o.dst (goInt k)) w') :
  wpList P ops Q (o::rest) a w:=by
 subst hdp;subst hsp;refine wpList_plain hgd fun K hK=> ?_
 have hrun:=Zti (P:=P) dT sT o.type elem g off dLen dCap ad sLen sCap C t cs k hu hsz hg hk hn hsrc hfit h1;unfold Oper.wp;simp[execOp,ho,resolve,invoke,builtin,hd,hs,hrun,Result.andThen];exact hK _ _ (h _ (show _=_ by simpa using setRow_heap w g _ _ t _ hg) (Zlx _))
theorem Zd7 {P:Program}{w:Qbe}{ops:Array Oper}{rest:List Oper}{o:Oper}{a:Act}{Q:Exit->Act->Qbe->Prop}(hgd:o.guard=none) (x:Operand) (t:Qbh)
  (ho:o.op=.call { callee:=.builtin .clear,args:=#[x],argTypes:=#[t] }) (elem:Qbh) (hu:P.underlying t=some (.slice elem)) (A:Option Qbg) (c:Nat) (hx:a.eval x=.slice A 0 c)
  (h:wpList P ops Q rest (a.put o.dst (.tuple #[])) w):wpList P ops Q (o::rest) a w:=by{
 refine wpList_plain hgd fun K hK=> ?_
 have hrun:(Qa7 #[t] o.type #[.slice A 0 c]).run P w=.ok (.tuple #[]) w:=by
  cases A <;> simp[Qa7,run_underlying hu]
 unfold Oper.wp;simp[execOp,ho,resolve,invoke,builtin,hx,hrun,Result.andThen];exact hK _ _ h}
theorem Ze3 {C Y:List Qbf}{a:Nat}(h:a<=C.length):(splice C a Y).take (a+Y.length)=C.take a++Y:=by
 unfold splice;rw[<- Qq,Qah (by simp;omega)];exact Qh (by simp;omega)
theorem Zoc {C Y:List Qbf}{a k:Nat}(h:a+Y.length<=C.length) (hk:a+Y.length<=k):(splice C a Y)[k]? = C[k]? := by
 unfold splice;rw[Qae (by rw[Qo];omega),Qo,Pm (by omega),Qae (by omega),Q6]
 congr 1
 omega
theorem Zf5 {w:Qbe}{b k:Nat}{C:List Qbf}{t:Qbh}(h:w.heap[b]? = some (.cells C.toArray t (0,0))):w.cell? ⟨b,k,none⟩=C[k]? := by
 rw[cell_of_row w b k _ _ _ h];simp
theorem Zeg {C Y X:List Qbf}{a b:Nat}(hb:b=a+Y.length) (h:b+X.length<=C.length):(splice (splice C a Y) b X).take (b+X.length)=C.take a++(Y++X):=by
 subst hb;have hl:(splice C a Y).length=C.length:=length_splice C a Y (by omega);rw[Ze3 (by rw[hl];omega),Ze3 (by omega),Qq]
theorem Zfz {C Y X:List Qbf}{a b:Nat}(hb:b=a+Y.length) (h:b+X.length<=C.length):(splice (splice C b X) a Y).take (b+X.length)=C.take a++(Y++X):=by{
 subst hb;have hl:(splice C (a+Y.length) X).length=C.length:=length_splice C _ X (by omega);have e1:(splice C (a+Y.length) X).take a=C.take a:=by
  unfold splice;rw[Qah (by simp;omega),Qa8,Pm (by omega)]
 have e2:((splice C (a+Y.length) X).drop (a+Y.length)).take X.length=X:=by
  unfold splice;rw[Qa9,Qba (by rw[Qo];exact Nat.min_le_left _ _),Qo,Pm (by omega),Nat.sub_self,Q0,Pf,Qah (by simp),Qh (by simp)]
 generalize splice C (a+Y.length) X=S at *;unfold splice;rw[e1,<- Qq,Qbb,Qh (by simp;omega),Qq]
 congr 2
 rw[show a+Y.length+X.length-(C.take a++Y).length=X.length by simp;omega];exact e2}
theorem Yv:∀ (a b:List Iv),Zj (a++b)=Zj a++Zj b
 | [],_=>rfl
 | x::r,b=>by
  show Zam x++Zj (r++b)=(Zam x++Zj r)++Zj b;rw[Yv r b,Qq]
theorem Zc3 (x:Iv) (r:List Iv):Zj (x::r)=Zam x++Zj r:=rfl
theorem Vt:∀ (ps:List Iv) (k:Nat),Zj (ps.take k)=(Zj ps).take (k*5)
 | [],k=>by
  rw[Qbc];exact Qbc.symm
 | x::r,0=>by
  rw[Qad,Q7,Q7];rfl
 | x::r,k+1=>by
  rw[Pj,Zc3,Zc3,Vt r k,Qbb,show (Zam x).length=5 from rfl,show (k+1)*5-5=k*5 by omega,Qh (show (Zam x).length<=(k+1)*5 by show 5<=_;omega)]
theorem Zg2:∀ (ps:List Iv) (k:Nat),Zj (ps.drop k)=(Zj ps).drop (k*5)
 | [],k=>by
  rw[Qbd];exact Qbd.symm
 | x::r,0=>by
  rw[Qad,Q0,Q0]
 | x::r,k+1=>by
  rw[Pk,Zc3,Zg2 r k,Qa9,show (Zam x).length=5 from rfl,show (k+1)*5-5=k*5 by omega,Qba (show (Zam x).length<=(k+1)*5 by show 5<=_;omega),Pf]
theorem Xj {w:Qbe}{lo n c:Nat}{ad:Qbg}{t:Qbh}{xs:List Qbf}(h:w.ownsRow lo t 5 (.slice (some ad) n c) n xs) :
  ∃ b C,ad=⟨b,0,none⟩/\lo<=b/\b<w.heap.size/\w.heap[b]? = some (.cells (List.toArray C) t (0,0))/\n<=c/\c<=maxLen/\C.length=c*5/\C.take (n*5)=xs:=by{
 rcases h.2 with ⟨e,_⟩ | ⟨g,cap,cur,e,hb,hg,h1,h2,h3,h4⟩
 ·cases e
 ·cases e
  exact⟨g,cur.toList,rfl,hb,(Qa.1 hg).1,by simpa using hg,h1,h2,by simpa using h3,h4⟩}
theorem V8 {w:Qbe}{lo b n c:Nat}{t:Qbh}{C xs:List Qbf}(hb:lo<=b) (hg:w.heap[b]? = some (.cells C.toArray t (0,0))) (h1:n<=c) (h2:c<=maxLen) (h3:C.length=c*5) (h4:C.take (n*5)=xs):w.ownsRow lo t 5 (.slice (some ⟨b,0,none⟩) n c) n xs :=
 ⟨by rw[<- h4,Qo,h3];omega,.inr ⟨b,c,C.toArray,rfl,hb,hg,h1,h2,by simpa using h3,by simpa using h4⟩⟩
theorem Zm0 {w:Qbe}{lo n c k:Nat}{ad:Qbg}{t:Qbh}{xs:List Qbf}(h:w.ownsRow lo t 5 (.slice (some ad) n c) n xs) (hk:k<=n):w.ownsRow lo t 5 (.slice (some ad) k c) k (xs.take (k*5)):=by
 obtain⟨b,C,rfl,hb,_,hg,h1,h2,h3,h4⟩:=Xj h;refine V8 hb hg (by omega) h2 h3 ?_;rw[<- h4,Qa8,Pm (by omega)]
theorem Zb8 {w:Qbe}{lo n c:Nat}{b:Nat}{t:Qbh}{ps:List Iv}(h:w.ownsRow lo t 5 (.slice (some ⟨b,0,none⟩) n c) n (Zj ps)) (k:Nat):∀ j v,(Zj (ps.drop k))[j]? = some v->w.cell? ((⟨b,k*5,none⟩:Qbg).add j)=some v:=fun j v hj=>by
 rw[Zg2,Q6] at hj;have:=h.cells (g:=b) rfl _ _ hj;rw[Zbj] at this ⊢
 rwa [Pw] at this
theorem Zf4 {ps:List Iv}{n:Nat}{w:Qbe}{lo:Nat}{t:Qbh}{v:Qbf}(h:w.ownsRow lo t 5 v n (Zj ps)):ps.length=n:=by
 have:=h.1;rw[Yh] at this;omega
theorem Zs3 {f:It->List It}{N:Nat}:∀ {L:List It},(∀ x∈L,(f x).length<=N)->(L.flatMap f).length<=N*L.length
 | [],_=>by simp
 | x::r,h=>by
  rw[Qr,Qn,Q5,Nat.mul_succ];have h1:=h x (by simp);have h2:=Zs3 (L:=r) fun y hy=>h y (by simp[hy])
  omega
theorem Z2i {f:It->List It}{L:List It}{i:Nat}{x:It}(hx:L[i]? = some x):(L.take (i+1)).flatMap f=(L.take i).flatMap f++f x:=by
 obtain⟨h1,e1⟩:=Qg.1 hx;rw[<- Qt h1,e1,List.flatMap_append,List.flatMap_singleton]
theorem Z1a (s:Rm):∀ (l:Nat) (a:Int),AtT s l a->(Uh s l a).length<=5 ^ (l+1)
 | 0,a,h=>by
  unfold Uh;exact(Z0 h.may).1.2.2.1
 | l+1,a,h=>by
  unfold Uh;have h5:=(Z0 h.may).1.2.2.1;refine Qc (Zs3 (N:=5 ^ (l+1)) fun x hx=>Z1a s l x.2.1 (h.down hx)) ?_;rw[Q8 5 (l+1)];exact Ps _ h5
end Go.Proofs.YtmafkphcfkhokaaGreat
namespace Go.Proofs.YtmafkphcfkhokaaGreat
open Go.RowKit Go.Maps
theorem Zxk {s:Rm}{lo g:Nat}{K:List Int}{w1 w:Qbe}(h:NMp s lo g K w1) (hb:Qbm w1.heap.size w1 w){x:Int}(hx:(Lit.int .i64 x).wf=true) (hm:x∈K) :
  ∃ U c,Sem.run Tryz.prog (Instr.lookup 69 (.map (some g)) (.int .i64 x) false) w=.ok (.agg #[.int .i64 (rmV s x).1,.slice U (rmV s x).2.length c]) w/\Zar (New lo w1) w1 [.slice U (rmV s x).2.length c] (rmV s x).2:=by
 obtain⟨n,D,h1,h2,h3,h4⟩:=h;obtain⟨v,ps,e1,e2⟩:=(h1.kept (Zbb hb) (by simp)).lookup (int_keyed Tryz.underlying3) Tryz.underlying69 (z:=.agg #[.int .i64 0,.slice none 0 0]) (by kernel_rfl) (zd:=.held (.agg #[.int .i64 0,.slice none 0 0])) (zp:=[]) rfl (keyOf_int_mk Tryz.underlying3 hx);obtain⟨u,a1,a2⟩:=h4 x hm;rw[a1] at e2;obtain⟨U,c,rfl⟩:=Zko a2;cases e2;refine⟨U,c,e1,?_⟩;obtain⟨d,e,_,h⟩:=a2;cases e;exact h
theorem Z5c {w:Qbe}{lo:Nat}{A B:Option Qbg}{c n m d:Nat}{ps qs:List Iv}(hn:ps.length=n) (hm:qs.length=m) (ho:w.ownsRow lo 79 5 (.slice A n c) n (Zj ps)) (hC:Zmp w w.heap.size B (Zj qs)) (hone:∀ p∈qs,p.2.oneCell'=true) (hb:n+m<=100000) (hbase:lo<=w.heap.size) :
  ∃ A' c' w',(Pn #[57,57] 57 #[.slice A n c,.slice B m d]).run Tryz.prog w=.ok (.slice A' (n+m) c') w'/\w'.ownsRow lo 79 5 (.slice A' (n+m) c') (n+m) (Zj (ps++qs))/\Qbm lo w w':=by{
 subst hn hm;obtain⟨i0,hi,hz0,hz1,hz2⟩:=info_parts Us;have hone':∀ u∈Zj qs,u.oneCell'=true:=Vb hone;rcases B with _ | bd
 ·have h0:qs=[]:=by
   cases qs with
   | nil=>rfl
   | cons p r =>
    obtain⟨_,e,_⟩:=hC 0 _ (show (Zj (p::r))[0]? = some (Value.int .u8 (p.1.1.1.toNat:Int)) from rfl);cases e
  subst h0;refine⟨A,c,w,?_,by simpa using ho,Qb _ _⟩;rcases ho.2 with ⟨e,e2⟩ | ⟨g,cap,cur,e,_,_,hnc,_⟩
  ·rw[Qai,Ph,e]
   simp[Pn,run_underlying Tryz.underlying57,sizeOf,typeInfo,hi,Qag,Qaf]
  ·rw[Qai,Ph,e]
   simp[Pn,run_underlying Tryz.underlying57,sizeOf,typeInfo,hi,Qag,Qaf,hnc,storeCells]
 ·obtain⟨v',w',hr,o1,g1,b1,k1⟩:=Zgy (P:=Tryz.prog) (w:=w) lo 57 57 79 i0 (.agg #[.int .u8 0,.int .u32 0,.int .u32 0,.int .i64 0,.slice none 0 0]) 5 48 Tryz.underlying57 hi hz0 hz1 hz2 rfl (by decide) _ _ _ ho bd qs.length d (Zj qs) (Yh qs) (fun j u hj=>by
   obtain⟨_,e,_,h⟩:=hC j u hj;cases e
   exact h) hone' (by unfold maxLen;omega) (by omega) hbase
  obtain⟨A2,c2,rfl,_⟩:=Yo o1;rw[<- Yv] at o1;exact⟨A2,c2,w',hr,o1,b1⟩}
theorem Zsj {w:Qbe}{lo:Nat}{A:Option Qbg}{n c:Nat}{ps:List Iv}(ho:w.ownsRow lo 79 5 (.slice A n c) n (Zj ps)):Zmp w w.heap.size A (Zj ps)/\n<=c/\c<=9223372036854775807:=by{
 obtain⟨A1,c1,e,h1,h2,_⟩:=Yo ho;cases e;refine⟨fun j v hj=> ?_,h1,h2⟩;have hlt:=(Qg.1 hj).1;have hl:=ho.1;rcases ho.2 with ⟨e,e2⟩ | ⟨g,cap,cur,e,_,hg,_⟩
 ·omega
 ·cases e
  refine⟨_,rfl,(Qa.1 hg).1,?_⟩;have:=ho.cellAt j (by omega);rw[hj] at this;have e:((⟨g,0,none⟩:Qbg).add j)=⟨g,j,none⟩:=by unfold Addr.add;split <;> simp_all
  rw[e];exact this}
def FiR (s:Rm) (l:Nat) (a:Int) (lo:Nat) (w1 w:Qbe):Qbl->Qbe->Prop:=fun e w'=>∃ (u:Option Qbg) (n c:Nat) (ps:List Iv),e=.returned (.slice u n c)/\ps.length=n/\ps.map (·.1)=Uh s l a/\(∀ p∈ps,InI p.1/\rBy (New lo w1) w1 [p.2] p.1.2.2)/\Zmp w' w'.heap.size u (Zj ps)/\(n<=c/\c<=9223372036854775807)/\Qbm w.heap.size w w'
def Z6b (s:Rm) (l:Nat):Prop:=∀ (a:Int) (K:List Int) (q0 q1 q2 q3 q4 q5 q6 q7 q8 q9:Qbf) (g1 lo:Nat) (w1 w:Qbe),AtT s l a->(∀ b∈Y4 s l a,b∈K)->NMp s lo g1 K w1->Qbm w1.heap.size w1 w ->
 Qbk Tryz.prog 110 #[.agg #[q0,q1,q2,q3,q4,q5,q6,q7,.map (some g1),q8,q9],.int .i64 a] w (FiR s l a lo w1 w)
theorem Z13 (s:Rm) (l0:Nat) (hl5:l0<=5) (hr0:∀ j,l0=j+1->Z6b s j):Z6b s l0:=by{
 intro a K q0 q1 q2 q3 q4 q5 q6 q7 q8 q9 g1 lo w1 w hat hK hN hb;obtain⟨h8,h256,_⟩:=Za4 hat.ok;have hwf:=Zqh (show 0<=a by omega) h256;have haK:a∈K:=hK a (by cases l0 <;> (unfold Y4;exact Qy));have hz:=Za (fun(h0:l0=0)=>(by subst h0;unfold Uh;rfl:Uh s l0 a=(rmV s a).2));have hsu:=Za (fun(j:Nat) (hj:l0=j+1)=>(by subst hj;conv=>lhs;unfold Uh:Uh s l0 a=(rmV s a).2.flatMap fun x=>Uh s j x.2.1));have hdn:=Za (fun(j:Nat) (hj:l0=j+1) (x:It) (hx:x∈(rmV s a).2)=>(by subst hj;exact hat.down hx:AtT s j x.2.1))
 have hKd:=Za (fun(j:Nat) (hj:l0=j+1) (x:It) (hx:x∈(rmV s a).2) (b:Int) (hb:b∈Y4 s j x.2.1)=>(by
  subst hj;refine hK b ?_
  conv=>rhs;unfold Y4
  exact Qs _ (Py.2 ⟨x,hx,hb⟩):b∈K))
 have hmn:=Za hat.may;have hlv:=hat.lvl;obtain⟨w2,hw2,k2,hs2,hB2⟩:=Uf w q0 q1 q2 q3 q4 q5 q6 q7 (.map (some g1)) q8 q9 71;have hb2:=hb.trans (hB2.mono hb.size);obtain⟨Z,zc,hlk,hI⟩:=Zxk hN hb2 hwf haK;obtain⟨nd,hnd⟩:∃ q,rmV s a=q:=⟨_,rfl⟩
 rw[hnd] at hz hsu hdn hKd hmn hlv hlk hI;obtain⟨lw,hlw⟩:∃ q,nd.1=q:=⟨_,rfl⟩
 obtain⟨l,hl⟩:∃ q,nd.2=q:=⟨_,rfl⟩
 obtain⟨m,hlm⟩:∃ q,l.length=q:=⟨_,rfl⟩
 rw[hl] at hz hsu hdn hKd;rw[hlw] at hlv;rw[hlw,hl,hlm] at hlk;rw[hl,hlm] at hI;have hm5:m<=5:=by
  have:=(Z0 hmn.out).1.2.2.1;rw[hl,hlm] at this;exact this
 obtain⟨w4,hw4,b4,hs4,hB4⟩:=Yd w2 (.int .i64 lw) (.slice Z m zc) 59;have B14:=Za (hb2.trans (hB4.mono hb2.size));have B4:=Za (hB2.trans (hB4.mono hB2.size));have K4:=Za ((hB4.block _ (Qa.1 k2).1).trans k2);have N4:=Za b4;have HN:=Za hN;have HI:=Za hI;obtain⟨s0,s1,s2,s3,s4,s5,s6,s7,s8,s9,s10,_⟩:=Zg k2;replace hs2:=Za hs2;replace hs4:=Za hs4;replace hnd:=Za hnd;replace hlw:=Za hlw;replace hl:=Za hl;replace hlm:=Za hlm;replace hlv:=Za hlv;clear hat hK hN hb hB2 hb2 hB4 k2 b4 hI h8 h256 haK
 go_enter Tryz.func110,Tryz.ntmps110
 go_upto_region 1 with fail
 clear hw2
 go_upto_region 2 with fail
 clear hw4 hlk s0 s1 s2 s3 s4 s5 s6 s7 s8 s9 s10;obtain⟨y0,y1,_⟩:=Zi N4.out;cases l0 with
 | zero =>
  have hf:=Za (hz.out rfl);have e1:(lw==0)=true:=by simp[hlv.out]
  go_wp2_with fail
  go_ret;obtain⟨ps,hp1,hp2,hp3⟩:=Zrc (fun p hp=>hp.2.1) HI.out;obtain⟨A',c',e,_,_,_⟩:=id HI.out;simp only[List.cons.injEq,Value.slice.injEq,and_true] at e;obtain⟨rfl,_,rfl⟩:=e;have hpl:ps.length=m:=by rw[<- hlm.out,<- hp1,Qp]
  refine⟨Z,m,zc,ps,rfl,hpl,by rw[hf.out,hp1],hp3,fun j v hj=> ?_,⟨by have:=hlm.out;omega,by assumption⟩,B4.out⟩;obtain⟨ad,e,h1,h2⟩:=hp2 j v hj;exact⟨ad,e,Qk h1 B14.out.size,(B14.out.cell (p:=ad.add j) (by rw[Zh];exact h1)).trans h2⟩
 | succ l1 =>
  have hrec:=Za (hr0 l1 rfl);have c0:(lw==0)=false:=by rw[hlv.out];simp;omega
  obtain⟨F,hF⟩:∃ F:It->List It,(fun x=>Uh s l1 x.2.1)=F:=⟨_,rfl⟩
  have hfl:Hid (Uh s (l1+1) a=l.flatMap F):=Za (by rw[hsu.out l1 rfl,hF])
  have hlen:=Za (fun x (hx:x∈l)=>(show (F x).length<=5 ^ 5 by
   rw[<- hF]
   exact Qc (Z1a s l1 x.2.1 (hdn.out l1 rfl x hx)) (Qw (by decide) (by omega))))
  have hd:=Za (fun x (hx:x∈l)=>hdn.out l1 rfl x hx);have hk1:=Za (fun x (hx:x∈l) b hb=>hKd.out l1 rfl x hx b hb);have HI4:Hid (Zar (Old w4) w4 [.slice Z m zc] l):=Za (Xv _ _ _ _ _ _ (fun p v hp hc=>⟨Qk hp.2.1 B14.out.size,(B14.out.cell hp.2.1).trans hc⟩) HI.out);replace hF:=Za hF;clear hz hsu hdn hKd HI
  go_upto_region 5 with fail
  go_wp2_with fail
  clear y0 y1 c0
  go_loopw [21,6] (fun vi vo wr=>∃ (k n:Nat) (Q:Option Qbg) (c:Nat) (ps:List Iv),k<=m/\vi=.int .i64 k/\vo=.slice Q n c/\ps.length=n/\ps.map (·.1)=(l.take k).flatMap F/\(∀ p∈ps,InI p.1/\rBy (New lo w1) w1 [p.2] p.1.2.2)/\wr.ownsRow w4.heap.size 79 5 (.slice Q n c) n (Zj ps)/\Qbm w4.heap.size w4 wr) (fun vi _ _=>m-(intOf vi).toNat)
  case atStart=>exact⟨0,0,none,0,[],by omega,rfl,rfl,rfl,rfl,(fun p hp=>by cases hp),World.ownsRow_nil _ _ _ _,Qb _ _⟩
  case round =>
   obtain⟨k,n,Q,c,ps,hk,rfl,rfl,hpn,hpf,hpi,hrow,hbr⟩:=hrel;have BR:=Za hbr;have hrow':=Za hrow;have hpn':=Za hpn;have hpi':=Za hpi;have n4:=(hbr.block _ (Qa.1 N4.out).1).trans N4.out;have k4:=(hbr.block _ (Qa.1 K4.out).1).trans K4.out;have HR:Zar (Old wr) wr [.slice Z m zc] l:=Xv.old HI4.out hbr;clear hbr hrow hpn hpi;by_cases hlt:k<m
   case neg =>
    have hf:Hid (ps.map (·.1)=Uh s (l1+1) a):=Za (by
     rw[hfl.out,hpf,Qh (by rw[hlm.out];omega)])
    have B5:=Za (B4.out.trans (BR.out.mono B4.out.size));obtain⟨hcs,hc1,hc2⟩:=Zsj hrow'.out;have hcs':=Za hcs;replace hpf:=Za hpf;clear n4 k4 HR hcs
    go_wp2_with fail
    go_ret;exact⟨Q,n,c,ps,rfl,hpn'.out,hf.out,hpi'.out,hcs'.out,⟨hc1,hc2⟩,B5.out⟩
   obtain⟨x,hx⟩:∃ x,l[k]? = some x:=⟨_,Qf (by rw[hlm.out];exact hlt)⟩
   obtain⟨ad,E5,ce5,rfl,_,_,_,FX⟩:=Ve HR hx;obtain⟨⟨z0,z1,z2,z3,z4⟩,_⟩:=FX _ (Qb _ _);have hxm:=Pe hx;obtain⟨w5,hw5,c0',c1',c2',c3',c4',hs5,hB5,hg5⟩:=Zz wr (.int .u8 (x.1.1.toNat:Int)) (.int .u32 x.1.2.1) (.int .u32 x.1.2.2) (.int .i64 x.2.1) (.slice E5 x.2.2.length ce5) 79;have i4:(0:Int)<=(k:Int):=by omega
   have i5:(k:Int)<(m:Int):=by omega
   have hft:=Z2i (f:=F) hx;rw[<- hpf] at hft;have hq5:ps.length<=5 ^ 5*(l.take k).length:=by
    have:(ps.map (·.1)).length<=5 ^ 5*(l.take k).length:=by
     rw[hpf];exact Zs3 fun y hy=>hlen.out y (Pt hy)
    rwa [Qp] at this
   have htk:(l.take k).length<=5:=by rw[Qo];have:=hlm.out;omega
   have hny:=hlen.out x hxm
   have hnq:=Za (show n+(F x).length<=100000 by
    have:=Ps (5 ^ 5) htk;have:=hpn'.out
    omega)
   have hft':=Za hft;have hFx:Hid (Uh s l1 x.2.1=F x):=Za (by rw[<- hF.out]);have B15:=Za (B14.out.trans ((BR.out.trans (hB5.mono BR.out.size)).mono B14.out.size));have hcl:=Za (hrec.out x.2.1 K q0 q1 q2 q3 q4 q5 q6 q7 q8 q9 g1 lo w1 w5 (hd.out x hxm) (hk1.out x hxm) HN.out B15.out);have BR5:=Za (BR.out.trans (hB5.mono BR.out.size));have R5:=Za (Zy hrow'.out hB5);have k5:=(hB5.block _ (Qa.1 k4).1).trans k4;replace hx:=Za hx;replace hpf:=Za hpf;replace hs5:=Za hs5;clear FX HR hft hq5 htk hny hB5 hg5 hrow' BR n4 k4 hxm
   go_upto_region 8 with fail
   clear hw5 z0 z1 z2 z3 z4;obtain⟨s0,s1,s2,s3,s4,s5,s6,s7,s8,s9,s10,_⟩:=Zg k5;clear k5
   go_wp2_with fail
   with_reducible refine hcl.out.mono ?_
   rintro e w6 ⟨U,ym,uc,qs,rfl,hqn,hqm,hqi,hqc,_,hb6⟩;have hnm:n+ym<=100000:=by
    have hyl:ym=(F x).length:=by rw[<- hqn,<- hFx.out,<- hqm,Qp]
    have:=hnq.out;omega
   obtain⟨A',c',w',hap,hrow2,hlb⟩:=Z5c (d:=uc) hpn'.out hqn (Zy R5.out hb6) hqc (fun p hp=>Z09 (hqi p hp).2) hnm (by have:=(BR5.out.trans (hb6.mono BR5.out.size)).size;omega);have hgb:=Za ((BR5.out.trans (hb6.mono BR5.out.size)).trans hlb);have hr2:=Za hrow2;have hps:Hid ((ps++qs).length=n+ym):=Za (by rw[Qn,hpn'.out,hqn]);have hpm:Hid ((ps++qs).map (·.1)=(l.take (k+1)).flatMap F):=Za (by rw[hft'.out,List.map_append,hqm,hFx.out]);have hpj:Hid (∀ p∈ps++qs,InI p.1/\rBy (New lo w1) w1 [p.2] p.1.2.2):=Za fun p hp=>(Qj.1 hp).elim (hpi'.out p) (hqi p)
   replace hqn:=Za hqn;replace hnm:=Za hnm;clear hqm hqi hqc hb6 hrow2 hlb s0 s1 s2 s3 s4 s5 s6 s7 s8 s9 s10 c0' c1' c2' c3' c4'
   go_wp2_with (at_builtin;refine Zu rfl _ _ 57 rfl rfl rfl hap ?_)
   go_roundw
   case rel=>exact⟨k+1,n+ym,A',c',ps++qs,by omega,by go_num,rfl,hps.out,hpm.out,hpj.out,hr2.out,hgb.out⟩
   case measure=>simp[intOf];omega}
theorem Z5z (s:Rm):∀ l:Nat,l<=5->Z6b s l:=by
 intro l
 induction l using Pz with
 | ind l ih=>exact fun hl=>Z13 s l hl fun j hj=>ih j (by omega) (by omega)
def Zqx (nx:Int) (x:It):Option Vl:=match Zee x with
 | none=>none
 | some v=>if 0<v.1/\v.1<nx then some v else none
theorem Zv1 {nx:Int}{x:It}{v:Vl}(h:Zqx nx x=some v):Zee x=some v/\0<v.1/\v.1<nx:=by{
 unfold Zqx at h;cases hv:Zee x with
 | none=>rw[hv] at h;cases h
 | some u =>
  rw[hv] at h
  dsimp only at h
  split at h
  ·cases h
   rename_i hh
   exact⟨rfl,hh⟩
  ·cases h}
theorem Zxm {nx:Int}{x:It}(h:Zee x=none):Zqx nx x=none:=by
 unfold Zqx;rw[h]
theorem Zy4 {nx:Int}{x:It}{v:Vl}(h:Zee x=some v) (hn:¬ (0<v.1/\v.1<nx)):Zqx nx x=none:=by
 unfold Zqx;rw[h];exact if_neg hn
theorem Zvd {nx:Int}{x:It}{v:Vl}(h:Zee x=some v) (hn:0<v.1/\v.1<nx):Zqx nx x=some v:=by
 unfold Zqx;rw[h];exact if_pos hn
def Xm (nx:Int):List It->Option (List Vl)
 | []=>some []
 | x::r=>match Zqx nx x with
  | none=>none
  | some v=>match Xm nx r with
   | none=>none
   | some vs=>some (v::vs)
theorem Zix (nx:Int) (x:It) (r:List It):Xm nx (x::r)=match Zqx nx x with
  | none=>none
  | some v=>match Xm nx r with
   | none=>none
   | some vs=>some (v::vs):=rfl
theorem Zga (nx:Int):∀ (P Q:List It),Xm nx (P++Q)=match Xm nx P with
  | none=>none
  | some a=>match Xm nx Q with
   | none=>none
   | some b=>some (a++b)
 | [],Q=>by
  rw[Pf];show _=match Xm nx Q with | none=>none | some b=>some ([]++b)
  cases Xm nx Q <;> rfl
 | x::r,Q=>by
  rw[Pd,Zix,Zix];cases Zqx nx x with
  | none=>rfl
  | some v =>
   dsimp only
   rw[Zga nx r Q];cases Xm nx r with
   | none=>rfl
   | some a =>
    dsimp only
    cases Xm nx Q <;> rfl
theorem Zm8 {nx:Int}{P:List It}{vs:List Vl}{x:It}{v:Vl}(h:Xm nx P=some vs) (hx:Zqx nx x=some v):Xm nx (P++[x])=some (vs++[v]):=by
 have:Xm nx [x]=some [v]:=by
  unfold Xm;rw[hx];rfl
 rw[Zga,h,this]
theorem Zid {nx:Int}{L:List It}{k:Nat}{x:It}(hk:L[k]? = some x) (hx:Zqx nx x=none):Xm nx L=none:=by{
 obtain⟨h1,e1⟩:=Qg.1 hk;have e:L=L.take k++(x::L.drop (k+1)):=by
  rw[<- e1,Qa3,Q9]
 have:Xm nx (x::L.drop (k+1))=none:=by
  unfold Xm;rw[hx]
 rw[e,Zga,this];cases Xm nx (L.take k) <;> rfl}
theorem Zkp {nx:Int}:∀ {L:List It}{vs:List Vl},Xm nx L=some vs->L=vs.map Ym/\∀ v∈vs,Zee (Ym v)=some v/\0<v.1/\v.1<nx
 | [],vs,h=>by
  unfold Xm at h;cases h;exact⟨rfl,fun v hv=>by cases hv⟩
 | x::r,vs,h=>by
  unfold Xm at h;cases h1:Zqx nx x with
  | none=>rw[h1] at h;cases h
  | some v =>
   rw[h1] at h
   dsimp only at h
   cases h2:Xm nx r with
   | none=>rw[h2] at h;cases h
   | some ws =>
    rw[h2] at h;cases h;obtain⟨e1,e2⟩:=Zkp h2;obtain⟨q1,q2⟩:=Zv1 h1;have e:=Zpx q1;refine⟨by rw[List.map_cons,e,<- e1],fun u hu=> ?_⟩;rcases Qm.1 hu with rfl | hu
    ·rw[e];exact⟨q1,q2⟩
    ·exact e2 u hu
abbrev Pl:=Rm×Int×Int×Int×List Int
def Yg:List Int:=List.replicate 256 0
def Z2q (s:Rm) (R:List Int):Bool:=(List.range 256).all fun i=>decide (R[i]?.getD 0<=((s.2.1[i]?.getD 0).toNat:Int))
def Y6 (p:Pl):Option (List Vl×Sg) :=
 if 40<p.2.2.2.2.length then none else
  if (Z8 p.1 [p.2.2.1] ([],Yg)).1=false then none else
   if 16<(Zem p.1 p.2.2.1).length then none else
    match Xm p.2.2.2.1 (Zem p.1 p.2.2.1) with
    | none=>none
    | some vs =>
     if (Z8 p.1 (vs.map fun v=>v.2.1) (Z8 p.1 [p.2.2.1] ([],Yg)).2).1=false then none else
      if (Z8 p.1 p.2.2.2.2 (Z8 p.1 (vs.map fun v=>v.2.1) (Z8 p.1 [p.2.2.1] ([],Yg)).2).2).1=false then none else
       if Z2q p.1 (Z8 p.1 p.2.2.2.2 (Z8 p.1 (vs.map fun v=>v.2.1) (Z8 p.1 [p.2.2.1] ([],Yg)).2).2).2.2=true then
        some (vs,(Z8 p.1 p.2.2.2.2 (Z8 p.1 (vs.map fun v=>v.2.1) (Z8 p.1 [p.2.2.1] ([],Yg)).2).2).2) else none
def Zdb (p:Pl):Int:=if (Y6 p).isSome then 0 else 8
theorem Zo0 (s:Rm):Gg s ([],Yg) 0:=by
 refine⟨List.length_replicate,fun k=> ?_,Qe _,fun m hm=>by cases hm⟩;have:Yg[k]?.getD 0=0:=by
  unfold Yg;rw[List.getElem?_replicate];split <;> rfl
 show 0<=Yg[k]?.getD 0/\Yg[k]?.getD 0<=((0:Nat):Int);rw[this];omega
structure Ze8 (p:Pl) (vs:List Vl) (g:Sg):Prop where
 gg:Gg p.1 g 100000000
 may:ckE p.1 p.2.2.1=0
 all:Zem p.1 p.2.2.1=vs.map Ym
 vols:∀ v∈vs,Zee (Ym v)=some v/\0<v.1/\v.1<p.2.2.2.1
 few:vs.length<=16
 dead:p.2.2.2.2.length<=40
 root:p.2.2.1∈g.1
 roots:∀ v∈vs,v.2.1∈g.1
 cnt:Z2q p.1 g.2=true
theorem Znx {s:Rm}{L:List Int}{g:Sg}(h:¬ (Z8 s L g).1=false):Z8 s L g=(true,(Z8 s L g).2):=by
 rcases hh:Z8 s L g with ⟨b,q⟩;rw[hh] at h;cases b
 ·exact absurd rfl h
 ·rfl
theorem look_ok {p:Pl}{vs:List Vl}{g:Sg}(h:Y6 p=some (vs,g)):Ze8 p vs g:=by{
 unfold Y6 at h;split at h
 ·cases h
 rename_i h1
 split at h
 ·cases h
 rename_i h2
 split at h
 ·cases h
 rename_i h3
 split at h
 ·cases h
 rename_i ws h4
 split at h
 ·cases h
 rename_i h5
 split at h
 ·cases h
 rename_i h6
 split at h
 ·rename_i h7
  have e1:=Znx h2;have e2:=Znx h5;have e3:=Znx h6;generalize (Z8 p.1 [p.2.2.1] ([],Yg)).2=g1 at *;generalize (Z8 p.1 (ws.map fun v=>v.2.1) g1).2=g2 at *;generalize (Z8 p.1 p.2.2.2.2 g2).2=g3 at *;cases h;obtain⟨a1,a2,a3⟩:=Zbt _ _ _ _ (Zo0 p.1) e1;obtain⟨b1,b2,b3⟩:=Zbt _ _ _ _ a1 e2;obtain⟨c1,c2,c3⟩:=Zbt _ _ _ _ b1 e3;obtain⟨v1,v2⟩:=Zkp h4;have hl:vs.length<=16:=by rw[v1,Qp] at h3;omega
  refine⟨c1.mono ?_,?_,v1,v2,hl,by omega,c2.keys _ (b2.keys _ (a3 _ (Ql.2 rfl))),fun v hv=>c2.keys _ (b3 _ (Qa4.2 ⟨v,hv,rfl⟩)),h7⟩
  ·rw[Qp]
   simp only[Q5,Qai];omega
  ·by_cases hc:p.2.2.1∈(([],Yg):Sg).1\/ckE p.1 p.2.2.1=0
   ·exact hc.resolve_left (fun h=>by cases h)
   ·have:=Zki (r:=[]) hc
    rw[e1] at this;cases this
 ·cases h}
theorem Zru (p:Pl):(Zdb p=8/\Y6 p=none)\/(Zdb p=0/\∃ vs g,Y6 p=some (vs,g)/\Ze8 p vs g):=by
 unfold Zdb;cases h:Y6 p with
 | none=>exact .inl ⟨rfl,rfl⟩
 | some q=>exact .inr ⟨rfl,q.1,q.2,rfl,look_ok h⟩
theorem Ze8.le {p:Pl}{vs:List Vl}{g:Sg}(h:Ze8 p vs g){i:Nat}(hi:i<256):0<=g.2[i]?.getD 0/\g.2[i]?.getD 0<=((p.1.2.1[i]?.getD 0).toNat:Int):=by
 have:=h.cnt;unfold Z2q at this;rw[Qv] at this;exact⟨(h.gg.few i).1,of_decide_eq_true (this i (List.mem_range.2 hi))⟩
theorem Ze8.up {p:Pl}{vs:List Vl}{g:Sg}(h:Ze8 p vs g):vs.Pairwise fun u v=>u.1<v.1:=by
 have:=(Zxz (Zlv h.may).1).1;rw[h.all] at this;exact Z2c this
theorem Ze8.node {p:Pl}{vs:List Vl}{g:Sg}(h:Ze8 p vs g){r:Int}(hr:r∈g.1):8<=r/\r<256/\rmE p.1 r=0/\1<=g.2[r.toNat]?.getD 0:=by
 obtain⟨h1,h2⟩:=h.gg.keys r hr;obtain⟨a,b,_⟩:=Za4 h1;exact⟨a,b,h1,h2⟩
section
variable {s : Rm}{gen root next : Int}{dead : List Int}{G1 G2 G3 : Sg}{vs : List Vl}
theorem Z1z (h:40<dead.length):Y6 (s,gen,root,next,dead)=none:=by
 unfold Y6;rw[if_pos h]
theorem Z3d (h:(Z8 s [root] ([],Yg)).1=false):Y6 (s,gen,root,next,dead)=none:=by
 unfold Y6;split
 ·rfl
 ·first | rfl | rw[if_pos h]
theorem Z5h (h:16<(Zem s root).length):Y6 (s,gen,root,next,dead)=none:=by{
 unfold Y6;split
 ·rfl
 ·split
  ·rfl
  ·first | rfl | rw[if_pos h]}
theorem Z2h (h:Xm next (Zem s root)=none):Y6 (s,gen,root,next,dead)=none:=by{
 unfold Y6;split
 ·rfl
 ·split
  ·rfl
  ·split
   ·rfl
   ·rw[h]}
theorem Z3i (h1:Z8 s [root] ([],Yg)=(true,G1)) (hv:Xm next (Zem s root)=some vs) (h:(Z8 s (vs.map fun v=>v.2.1) G1).1=false):Y6 (s,gen,root,next,dead)=none:=by{
 unfold Y6
 dsimp only
 rw[hv,h1];split
 ·rfl
 ·split
  ·rfl
  ·split
   ·rfl
   ·dsimp only
    rw[if_pos h]}
theorem Zyg (h1:Z8 s [root] ([],Yg)=(true,G1)) (hv:Xm next (Zem s root)=some vs) (h2:Z8 s (vs.map fun v=>v.2.1) G1=(true,G2)) (h:(Z8 s dead G2).1=false):Y6 (s,gen,root,next,dead)=none:=by{
 unfold Y6
 dsimp only
 rw[hv,h1]
 dsimp only
 rw[h2]
 dsimp only
 rw[if_pos h];simp}
theorem Zv4 (hd:¬ 40<dead.length) (h16:¬ 16<(Zem s root).length) (h1:Z8 s [root] ([],Yg)=(true,G1)) (hv:Xm next (Zem s root)=some vs) (h2:Z8 s (vs.map fun v=>v.2.1) G1=(true,G2)) (h3:Z8 s dead G2=(true,G3)):Y6 (s,gen,root,next,dead)=if Z2q s G3.2=true then some (vs,G3) else none:=by{
 unfold Y6
 dsimp only
 rw[hv,h1]
 dsimp only
 rw[h2]
 dsimp only
 rw[h3,if_neg hd,if_neg (by simp),if_neg h16,if_neg (by simp),if_neg (by simp)]}
end
def rVl:Rel Vl:=Zbp (rK .u32) (Zbp (rK .i64) (Zbp Z4r (rK .u32)))
theorem Yk:Zde rVl:=V9 (Xk _) (V9 (Xk _) (V9 Zts (Xk _)))
theorem Z49 {ok:Qbg->Prop}{w:Qbe}{v:Vl}(h:InV v):rVl ok w [.int .u32 v.1,.int .i64 v.2.1,.bool v.2.2.1,.int .u32 v.2.2.2] v:=by
 obtain⟨⟨a0,a1⟩,⟨b0,b1⟩,c0,c1⟩:=h;refine⟨[_],_,rfl,⟨rfl,?_,?_⟩,[_],_,rfl,⟨rfl,?_,?_⟩,[_],_,rfl,rfl,⟨rfl,?_,?_⟩⟩ <;> simp[IntKind.min,IntKind.max,IntKind.signed,IntKind.bits] <;> omega
theorem Zx0 {ok:Qbg->Prop}{w:Qbe}{cs:List Qbf}{v:Vl}(h:rVl ok w cs v):cs=[.int .u32 v.1,.int .i64 v.2.1,.bool v.2.2.1,.int .u32 v.2.2.2]:=by
 obtain⟨_,_,rfl,⟨rfl,_⟩,_,_,rfl,⟨rfl,_⟩,_,_,rfl,rfl,⟨rfl,_⟩⟩:=h;rfl
theorem Zus:(Tryz.prog.info? 40).map (fun i=>(i.zero,i.size,i.bytes))=some (some (.agg #[.int .u32 0,.int .i64 0,.bool false,.int .u32 0]),4,24):=by kernel_rfl
theorem Zzc {w:Qbe}{lo:Nat}{A:Option Qbg}{c:Nat}{xs:List Vl}(h:Yp rVl 4 40 lo w A c xs) (g:Nat) (v:Vl) (m n:Nat) (hn:xs.length=n) (hg:w.heap[g]? = some (.cells #[.int .u32 v.1,.int .i64 v.2.1,.bool v.2.2.1,.int .u32 v.2.2.2] 40 (0,0))) (hs:n<100000) (hbase:lo<=w.heap.size) (hin:InV v) :
  ∃ A' c' w',(Pn #[35,35] 35 #[.slice A n c,.slice (some ⟨g,0,none⟩) 1 m]).run Tryz.prog w=.ok (.slice A' (n+1) c') w'/\Yp rVl 4 40 lo w' A' c' (xs++[v])/\w.grownBy w' (A.map (·.block))/\Qbm lo w w':=by{
 subst hn;obtain⟨i0,hi,hz0,hz1,hz2⟩:=info_parts Zus
 exact Yp.push Yk h 35 35 i0 (.agg #[.int .u32 0,.int .i64 0,.bool false,.int .u32 0]) 24 Tryz.underlying35 hi hz0 hz1 hz2 rfl (by decide) ⟨g,0,none⟩ m _ v rfl (World.news_of_block (cs:=#[.int .u32 v.1,.int .i64 v.2.1,.bool v.2.2.1,.int .u32 v.2.2.2]) hg) (fun u hu=>by
  simp at hu
  rcases hu with rfl | rfl | rfl | rfl <;> rfl) (by unfold maxLen;omega) (by omega) hbase (Z49 hin)}
theorem Z41 {lo:Nat}{w1 w':Qbe}{u:Option Qbg}{n c:Nat}{ps:List Iv}{L:List It}(hn:ps.length=n) (hL:ps.map (·.1)=L) (hi:∀ p∈ps,InI p.1/\rBy (New lo w1) w1 [p.2] p.1.2.2) (hC:Zmp w' w'.heap.size u (Zj ps)) (hc:n<=c/\c<=9223372036854775807) (hb:Qbm w1.heap.size w1 w'):Zar (Old w') w' [.slice u n c] L:=by
 subst hL;refine⟨u,c,by rw[Qp,hn],by rw[Qp,hn];exact hc.1,hc.2,fun i x hx=> ?_⟩;rw[Qa5] at hx;obtain⟨p,hp,rfl⟩:=Option.map_eq_some_iff.1 hx;obtain⟨h1,h2⟩:=hi p (Pe hp);obtain⟨ad,rfl,_,_⟩:=hC _ _ (Zaz hp 0 _ rfl);refine⟨ad,Zam p,rfl,rfl,fun j v hj=> ?_,Zu3 h1 (Zf _ _ _ _ _ _ (fun q v hq hc=>⟨Qk hq.2.1 hb.size,(hb.cell hq.2.1).trans hc⟩) h2)⟩;obtain⟨ad',e,h3,h4⟩:=hC _ _ (Zaz hp j v hj);cases e;exact⟨by show (ad.add _).block<_;rw[Zh];exact h3,h4⟩
theorem Zm2 (q0 q1 q2 q3 q4 q5 q7 q8 q9 q10:Qbf) (nx i:Int) (w:Qbe) :
  Qbk Tryz.prog 62 #[.agg #[q0,q1,q2,q3,q4,q5,.int .u32 nx,q7,q8,q9,q10],.int .u32 i] w fun e w'=>e=.returned (.bool (decide (0<i/\i<nx)))/\Qbm w.heap.size w w':=by{
 obtain⟨w1,hw1,k1,hs1,hB1⟩:=Uf w q0 q1 q2 q3 q4 q5 (.int .u32 nx) q7 q8 q9 q10 71;obtain⟨s0,s1,s2,s3,s4,s5,s6,s7,s8,s9,s10,_⟩:=Zg k1;have B1:=Za hB1;clear hB1 k1 hs1;obtain⟨bq,hbq⟩:∃ q,decide (0<i/\i<nx)=q:=⟨_,rfl⟩
 rw[hbq];by_cases h0:0<i
 ·by_cases h1:i<nx
  ·obtain rfl:bq=true:=by rw[<- hbq];exact decide_eq_true ⟨h0,h1⟩
   clear hbq
   go_enter Tryz.func62,Tryz.ntmps62
   go_upto_region 1 with fail
   clear hw1
   go_wp2_with fail
   go_ret;exact⟨rfl,B1.out⟩
  ·obtain rfl:bq=false:=by rw[<- hbq];exact decide_eq_false (by omega)
   clear hbq
   go_enter Tryz.func62,Tryz.ntmps62
   go_upto_region 1 with fail
   clear hw1
   go_wp2_with fail
   go_ret;exact⟨rfl,B1.out⟩
 ·obtain rfl:bq=false:=by rw[<- hbq];exact decide_eq_false (by omega)
  clear hbq
  go_enter Tryz.func62,Tryz.ntmps62
  go_upto_region 1 with fail
  clear hw1
  go_wp2_with fail
  go_ret;exact⟨rfl,B1.out⟩}
def vsE (nx:Int) (L:List It):Int:=if 16<L.length then 8 else if (Xm nx L).isSome then 0 else 8
def vsL (nx:Int) (L:List It):List Vl:=if 16<L.length then [] else (Xm nx L).getD []
theorem Zjn (ok:Qbg->Prop) (w:Qbe):rSl 4 rVl ok w [.slice none 0 0] []:=⟨none,0,rfl,by simp,by omega,fun i x h=>by simp at h⟩
theorem Z4t {x:It}{v:Vl}(hx:InI x) (h:Zee x=some v):InV v:=by
 obtain⟨a,b,c,d,e,f⟩:=Z43 hx h;exact⟨⟨a,b⟩,⟨c,d⟩,e,f⟩
theorem Z24 {x:It}{v:Vl}(h:Zee x=some v):Ztx x=0/\Zuv x=v:=by
 unfold Ztx Zuv;rw[h];exact⟨rfl,rfl⟩
theorem Z5p {x:It}(h:Zee x=none):Ztx x=8/\Zuv x=Vi:=by
 unfold Ztx Zuv;rw[h];exact⟨rfl,rfl⟩
def Z4x (nx:Int) (L:List It) (w:Qbe):Qbl->Qbe->Prop:=fun e w'=>∃ (A:Option Qbg) (n c:Nat),e=.returned (.tuple #[.slice A n c,.int .i64 (vsE nx L)])/\rSl 4 rVl (New w.heap.size w') w' [.slice A n c] (vsL nx L)/\Qbm w.heap.size w w'
theorem Zok (s:Rm) (a nx:Int) (q0 q1 q2 q3 q4 q7 q9 q10:Qbf) (K:List Int) (g1 lo:Nat) (w:Qbe) (hT:ckE s a=0) (hK:∀ b∈Zpj s a,b∈K) (hN:NMp s lo g1 K w) :
  Qbk Tryz.prog 58 #[.agg #[q0,q1,q2,q3,q4,.int .i64 a,.int .u32 nx,q7,.map (some g1),q9,q10]] w (Z4x nx (Zem s a) w):=by{
 obtain⟨hat,hl5⟩:=Zfe hT;obtain⟨w1,hw1,k1,hs1,hB1⟩:=Uf w q0 q1 q2 q3 q4 (.int .i64 a) (.int .u32 nx) q7 (.map (some g1)) q9 q10 71;have hIt:=Za (Z5z s _ hl5 a K q0 q1 q2 q3 q4 (.int .i64 a) (.int .u32 nx) q7 q9 q10 g1 lo w w1 hat hK hN hB1);unfold FiR at hIt;obtain⟨L,hL⟩:∃ q,Uh s (rmV s a).1.toNat a=q:=⟨_,rfl⟩
 rw[hL] at hIt;rw[show Zem s a=L from hL];have K1:=Za k1;have B1:=Za hB1;obtain⟨s0,s1,s2,s3,s4,s5,s6,s7,s8,s9,s10,_⟩:=Zg k1;replace hs1:=Za hs1;replace hL:=Za hL;clear k1 hB1 hN hK hT hat hl5
 go_enter Tryz.func58,Tryz.ntmps58
 go_upto_region 1 with fail
 clear hw1
 go_wp2_with fail
 with_reducible refine hIt.out.mono ?_
 rintro e w3 ⟨U,n,c,ps,rfl,hpn,hpm,hpi,hpc,hnc,hb3⟩;have B3:=Za (B1.out.trans (hb3.mono B1.out.size));have hR:=Za (Z41 hpn hpm hpi hpc hnc B3.out);have K3:=Za ((hb3.block _ (Qa.1 K1.out).1).trans K1.out);have hLn:L.length=n:=by rw[<- hpm,Qp,hpn]
 have hn63:n<=9223372036854775807:=by omega
 have hln:=Za hLn;clear hpn hpm hpi hpc hnc hb3 hIt K1 s0 s1 s2 s3 s4 s5 s6 s7 s8 s9 s10;by_cases h16:16<n
 ·have hE:Hid (vsE nx L=8/\vsL nx L=[]):=Za ⟨if_pos (by omega),if_pos (by omega)⟩
  clear hLn
  go_wp2_with fail
  go_ret2
  exact⟨none,0,0,by rw[hE.out.1];rfl,by rw[hE.out.2];exact Zjn _ _,B3.out⟩
 have hE:Hid (∀ o,Xm nx L=o->vsE nx L=(if o.isSome then 0 else 8)/\vsL nx L=o.getD []):=Za fun o ho=>by
  subst ho;exact⟨if_neg (by omega),if_neg (by omega)⟩
 clear hLn
 go_wp2_with fail
 go_loopw [20,5] (fun vi vo wr=>∃ (k:Nat) (Q:Option Qbg) (qc:Nat) (vs:List Vl),k<=n/\vi=.int .i64 k/\vo=.slice Q k qc/\vs.length=k/\Xm nx (L.take k)=some vs/\Yp rVl 4 40 w3.heap.size wr Q qc vs/\Qbm w3.heap.size w3 wr) (fun vi _ _=>n-(intOf vi).toNat)
 case atStart=>exact⟨0,none,0,[],by omega,rfl,rfl,rfl,rfl,Yp.nil _ _ _ _ _,Qb _ _⟩
 case round =>
 obtain⟨k,Q,qc,vs,hk,rfl,rfl,hvl,hvs,hrow,hbr⟩:=hrel;have BR:=Za hbr;have RW:=Za hrow;have k3:=Za ((hbr.block _ (Qa.1 K3.out).1).trans K3.out);have hRr:=Xv.old hR.out hbr;have HV:=Za hvl;have HG:=Za hvs;clear hbr hrow hvl hvs;by_cases hlt:k<n
 case neg =>
  obtain rfl:k=n:=by omega
  obtain⟨e1,e2⟩:=hE.out (some vs) (by
   have:=HG.out;rw[Qh (by rw[hln.out];exact Qe _)] at this
   exact this)
  have e1':Hid (vsE nx L=0):=Za e1;have e2':Hid (vsL nx L=vs):=Za e2;have hrel:=(Yp.low Yk RW.out B3.out.size).rel Yk;rw[HV.out] at hrel;have hr':=Za hrel;have BF:=Za (B3.out.trans (BR.out.mono B3.out.size));clear e1 e2 hrel hRr
  go_wp2_with fail
  go_ret2
  exact⟨Q,k,qc,by rw[e1'.out];rfl,by rw[e2'.out];exact hr'.out,BF.out⟩
 obtain⟨x,hx⟩:∃ x,L[k]? = some x:=⟨_,Qf (by rw[hln.out];exact hlt)⟩
 obtain⟨ad,E5,ce5,rfl,_,_,hxi,FX⟩:=Ve hRr hx;obtain⟨⟨z0,z1,z2,z3,z4⟩,_⟩:=FX _ (Qb _ _);obtain⟨w5,hw5,c0',c1',c2',c3',c4',hs5,hB5,hg5⟩:=Zz wr (.int .u8 (x.1.1.toNat:Int)) (.int .u32 x.1.2.1) (.int .u32 x.1.2.2) (.int .i64 x.2.1) (.slice E5 x.2.2.length ce5) 79;have HC:=Za (Zlo _ x w5 (FX w5 hB5).2);have hxi':=Za hxi;have hx':=Za hx;have i4:(0:Int)<=(k:Int):=by omega
 have i5:(k:Int)<(n:Int):=by omega
 have BR5:=Za (BR.out.trans (hB5.mono BR.out.size));have k5:=Za ((hB5.block _ (Qa.1 k3.out).1).trans k3.out);have R5:=Za (Yp.below Yk RW.out hB5)
 have htk:=Za (show L.take (k+1)=L.take k++[x] by
  obtain⟨h1,e1⟩:=Qg.1 hx
  rw[<- Qt h1,e1])
 replace hs5:=Za hs5;clear FX hRr hx hxi hB5 hg5 k3 RW BR
 go_upto_region 8 with fail
 clear hw5 z0 z1 z2 z3 z4
 go_wp2_with fail
 with_reducible refine HC.out.mono ?_
 rintro e w6 ⟨rfl,hb6⟩;have B36:=Za (BR5.out.trans (hb6.mono BR5.out.size));have k6:=Za ((hb6.block _ (Qa.1 k5.out).1).trans k5.out);have R6:=Za (Yp.below Yk R5.out hb6);clear hb6 HC k5 R5 BR5 c0' c1' c2' c3' c4';cases hv:Zee x with
 | none =>
  obtain⟨v1,v2⟩:=Z5p hv;have hnone:=Zid hx'.out (Zxm (nx:=nx) hv);obtain⟨e1,e2⟩:=hE.out none hnone;have e1':Hid (vsE nx L=8):=Za e1;have e2':Hid (vsL nx L=[]):=Za e2;have BF:Hid (∀ o,Qbm w.heap.size w (w6.alloc o)):=Za fun o=>(B3.out.trans (B36.out.mono B3.out.size)).alloc (B3.out.trans (B36.out.mono B3.out.size)).size o
  rw[v1,v2];unfold vlV Vi;clear e1 e2 v1 v2 hnone hv
  go_wp2_with fail
  go_ret2
  exact⟨none,0,0,by rw[e1'.out];rfl,by rw[e2'.out];exact Zjn _ _,BF.out _⟩
 | some v =>
  obtain⟨v1,v2⟩:=Z24 hv;have hin:=Z4t hxi'.out hv;rw[v1,v2];have HI:=Za hin;have hv':=Za hv;obtain⟨vi,vr,vf,vo⟩:=v;obtain⟨w7,hw7,b7,hs7,hB7⟩:=Xy w6 (.int .u32 vi) (.int .i64 vr) (.bool vf) (.int .u32 vo) 40;have k7:=(hB7.block _ (Qa.1 k6.out).1).trans k6.out;have B37:=Za (B36.out.trans (hB7.mono B36.out.size));have R7:=Za (Yp.below Yk R6.out hB7);have N7:=Za b7;obtain⟨gb,hgb⟩:∃ q,decide (0<vi/\vi<nx)=q:=⟨_,rfl⟩
  have hcg:=Zm2 q0 q1 q2 q3 q4 (.int .i64 a) q7 (.map (some g1)) q9 q10 nx vi w7;rw[hgb] at hcg;have hcg':=Za hcg;replace hs7:=Za hs7;clear v1 v2 hin hv hB7 b7 hcg k6 R6 B36;unfold vlV
  go_upto_region 9 with fail
  clear hw7;obtain⟨s0,s1,s2,s3,s4,s5,s6,s7,s8,s9,s10,_⟩:=Zg k7;obtain⟨t0,t1,t2,t3,_⟩:=Ze N7.out;have k7':=Za k7;clear k7
  go_wp2_with fail
  with_reducible refine hcg'.out.mono ?_
  rintro e w8 ⟨rfl,hb8⟩;have n8:=(hb8.block _ (Qa.1 N7.out).1).trans N7.out;have B38:=B37.out.trans (hb8.mono B37.out.size);have R8:=Yp.below Yk R7.out hb8;clear s0 s1 s2 s3 s4 s5 s6 s7 s8 s9 s10 t0 t1 t2 t3 k7' hb8;cases gb with
  | false =>
   have hnone:=Zid hx'.out (Zy4 (nx:=nx) hv'.out (of_decide_eq_false hgb));obtain⟨e1,e2⟩:=hE.out none hnone;have e1':Hid (vsE nx L=8):=Za e1;have e2':Hid (vsL nx L=[]):=Za e2;have BF:=Za (B3.out.trans (B38.mono B3.out.size));replace hgb:=Za hgb;clear e1 e2 hnone n8 B38 R8
   go_wp2_with fail
   go_ret2
   exact⟨none,0,0,by rw[e1'.out];rfl,by rw[e2'.out];exact Zjn _ _,BF.out⟩
  | true =>
   have hone:=Za (Zm8 HG.out (Zvd (nx:=nx) hv'.out (of_decide_eq_true hgb)));obtain⟨t0,t1,t2,t3,_⟩:=Ze n8;obtain⟨w9,hw9,b9,hs9,hB9⟩:=Xy w8 (.int .u32 vi) (.int .i64 vr) (.bool vf) (.int .u32 vo) 40;have hB39:=B38.trans (hB9.mono B38.size);obtain⟨A',c',w',hap,hrow2,_,hlb⟩:=Zzc (Yp.below Yk R8 hB9) w8.heap.size (vi,vr,vf,vo) 1 k HV.out b9 (by have:=hln.out;omega) hB39.size HI.out;have hgbB:=Za (hB39.trans hlb);have hr2:=Za hrow2;replace hgb:=Za hgb;replace hs9:=Za hs9;have hlen:Hid ((vs++[(vi,vr,vf,vo)]).length=k+1):=Za (by rw[Qn,HV.out,P8]);have hone':Hid (Xm nx (L.take (k+1))=some (vs++[(vi,vr,vf,vo)])):=Za (by rw[htk.out];exact hone.out);clear n8 B38 R8 hB9 b9 hB39 hrow2 hlb
   go_wp2_with (at_builtin;refine Zu rfl _ _ 35 rfl rfl rfl hap ?_)
   go_roundw
   case rel=>exact⟨k+1,A',c',vs++[(vi,vr,vf,vo)],by omega,by go_num,rfl,hlen.out,hone'.out,hr2.out,hgbB.out⟩
   case measure=>simp[intOf];omega}
end Go.Proofs.YtmafkphcfkhokaaGreat
