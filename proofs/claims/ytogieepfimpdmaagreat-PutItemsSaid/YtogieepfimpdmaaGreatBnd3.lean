/-
  Lemmas on the program and on the document's answers, gathered: PuIns2, PuRep, Cnt, CntUp, CntAlive, CntPlain, RmPlain, Room, RmChk, RmFree, RmTake, RmNode, FnPlain, DrPlain, FnKeep, FnSpan, Spoil05, NdBag, FnPlace, FnAll, WkPlain, WkMarks, PtKeep, PtEnough, PtMake, PtLists, PtBuilt, PtGrow, PtGrown, PtPut, RmSame, CntWrite, RmAlive, FnLeaf, RmRefN, FnInner, FnTree, FnOne, WkApp, PuStep, PuItems, DrStack, RmTwin. Conditions: those that each lemma states.
-/
import Derived.Test.YtogieepfimpdmaaGreatBnd2
import Derived.Maps.AppendAt
import Derived.RangeFuncBox
import Derived.Sort.QuietIn
import Derived.Sort.CutIn
/-
 slices.Insert at rows of items of the call's own,walked. Conditions: those that each lemma states.
-/
namespace Go.Proofs.YtogieepfimpdmaaGreat
open Go.RowKit
def InsP (lo:Nat) (w:World) (A:Option Addr) (L:List Iv) (e:Ending) (w':World):Prop:=∃ A' c',e=.returned (.slice A' L.length c')∧w'.ownsRow lo 40 5 (.slice A' L.length c') L.length (cells5 L)∧w.grownBy w' (A.map (·.block))
set_option maxRecDepth 100000 in
set_option maxHeartbeats 8000000 in
theorem insert_any (A:Option Addr) (lo lf n c fb m fc i:Nat) (ps qs:List Iv) (w:World) (h:w.ownsRow lo 40 5 (.slice A n c) n (cells5 ps)) (hf:w.ownsRow lf 40 5 (.slice (some ⟨fb,0,none⟩) m fc) m (cells5 qs))
  (hne:A.map (·.block)≠some fb) (hi:i≤n) (hm:0<m) (hbig:n+m≤1000) (hp1:∀ p∈ps,p.2.oneCell'=true) (hq1:∀ p∈qs,p.2.oneCell'=true) (hlo:lo≤w.heap.size) :
  Calls Tryz.prog 71 #[.slice A n c,.int .i64 i,.slice (some ⟨fb,0,none⟩) m fc] w (InsP lo w A (ps.take i++(qs++ps.drop i))):=by
 have hpl:=iv_len5 h
 have hql:=iv_len5 hf
 obtain⟨i0,hi0,hz0,hz1,hz2⟩:=info_parts item_info0
 have hqc:∀ j v,(cells5 qs)[j]? = some v→w.cell? ((⟨fb,0,none⟩:Addr).add j)=some v:=fun j v hj=>hf.cells (g:=fb) rfl j v hj
 have hq5:(cells5 qs).length=m*5:=hf.1
 have hone:=cells5_one hp1
 have honq:=cells5_one hq1
 have ec:∃ A1 c1,Value.slice A n c=.slice A1 n c1∧n≤c1∧c1≤9223372036854775807:=by
  obtain⟨A1,c1,e,h1,h2,_⟩:=own_any h
  exact⟨A1,c1,e,h1,h2⟩
 obtain⟨A1,c1,e,hnc,hcm⟩:=ec
 cases e
 have hm0:¬ ((m:Int)=0):=by omega
 have hin:(i:Int)≤n:=by omega
 have hic:(i:Int)≤c:=by omega
 by_cases hie:i=n
 ·subst hie
  obtain⟨v',w',hr,o1,g1,b1,k1⟩:=app_own (P:=Tryz.prog) (w:=w) lo 43 43 40 i0 (.agg #[.int .u8 0,.int .u32 0,.int .u32 0,.int .i64 0,.slice none 0 0]) 5 48 Tryz.underlying43 hi0 hz0 hz1 hz2 rfl (by decide) _ _ (cells5 ps) h ⟨fb,0,none⟩ m fc (cells5 qs) hq5 hqc honq (by unfold maxLen;omega) (by omega) hlo
  obtain⟨A2,c2,rfl,_⟩:=own_any o1
  have eL:ps.take i++(qs++ps.drop i)=ps++qs:=by rw[List.take_of_length_le (by omega),List.drop_of_length_le (by omega),List.append_nil]
  have hfin:Hid (InsP lo w A (ps.take i++(qs++ps.drop i)) (.returned (.slice A2 (i+m) c2)) w'):=Lib.hid (by
   rw[eL]
   refine⟨A2,c2,by rw[List.length_append,hpl,hql],?_,?_⟩
   ·rw[cells5_app,List.length_append,hpl,hql]
    exact o1
   ·have e4:(Value.slice A i c).ownBlock=A.map (·.block):=by cases A <;> rfl
    rw[← e4]
    exact g1)
  have H:=Lib.hid hr
  clear hr o1 g1 b1 k1 h hf hqc hone honq hp1 hq1 hne
  by_cases hcc:i=c
  ·subst hcc
   go_enter Tryz.func71,Tryz.ntmps71
   go_wp2_with (at_builtin;refine wpList_append_run rfl _ _ _ rfl rfl rfl H.out ?_;clear H)
   go_ret
   exact hfin.out
  ·have hcc':¬ c=i:=fun e=>hcc e.symm
   cases A with
   | none =>
    go_enter Tryz.func71,Tryz.ntmps71
    go_wp2_with (at_builtin;refine wpList_append_run rfl _ _ _ rfl rfl rfl H.out ?_;clear H)
    go_ret
    exact hfin.out
   | some ad =>
    go_enter Tryz.func71,Tryz.ntmps71
    go_wp2_with (at_builtin;refine wpList_append_run rfl _ _ _ rfl rfl rfl H.out ?_;clear H)
    go_ret
    exact hfin.out
 have hin':i<n:=by omega
 obtain⟨ad,rfl⟩:∃ ad,A=some ad:=by
  obtain⟨_,_,e,_,_,_,h5⟩:=own_any h
  cases e
  exact h5 (by omega)
 obtain⟨b,C,rfl,hbl,hbs,hg,_,hcM,hC5,hC⟩:=own_block5 h
 have hbf:b≠fb:=fun e=>hne (by rw[e];rfl)
 obtain⟨fb',Cf,e,_,hfs,hgf,_,_,hCf5,hCf⟩:=own_block5 hf
 obtain rfl:fb=fb':=by cases e;rfl
 have hni:¬ ((i:Int)=(n:Int)):=by omega
 have hw1:IntKind.i64.wrap ((n:Int)+(m:Int))=(n:Int)+(m:Int):=by rw[IntKind.wrap_i64];omega
 have hw2:IntKind.i64.wrap ((n:Int)+(m:Int)-(i:Int))=(n:Int)+(m:Int)-(i:Int):=by rw[IntKind.wrap_i64];omega
 have hw3:IntKind.i64.wrap ((i:Int)+(m:Int))=(i:Int)+(m:Int):=by rw[IntKind.wrap_i64];omega
 have hic':¬ c=i:=by omega
 have hcn:c≤9223372036854775807:=hcm
 by_cases hroom:n+m≤c
 ·have hgt:¬ ((c:Int)<(n:Int)+(m:Int)):=by omega
  have hov:∀ lb cb ob,(callFunc 93 #[.slice (some ⟨fb,0,none⟩) m fc,.slice (some ⟨b,ob,none⟩) lb cb]).run Tryz.prog w=.ok (.value (.bool false)) w:=fun lb cb ob=>overlaps_no hgf hg (fun e=>hbf e.symm) (by omega)
  have r1:(n:Int)+(m:Int)≤c:=by omega
  have r2:¬ c=i+m:=by omega
  have r3:(i:Int)+(m:Int)≤(n:Int)+(m:Int):=by omega
  have r6:(i:Int)≤(n:Int)+(m:Int):=by omega
  have r7:(0:Int)≤(i:Int)+(m:Int):=by omega
  have HO:=Lib.hid (cells5_one (ps:=ps.drop i) fun p hp=>hp1 p (List.mem_of_mem_drop hp))
  have HQ:=Lib.hid honq
  have r4:((i:Int)+(m:Int)).toNat=i+m:=by omega
  have r5:((n:Int)+(m:Int)).toNat=n+m:=by omega
  replace hov:=Lib.hid hov
  replace hgf:=Lib.hid hgf
  replace hg:=Lib.hid hg
  replace hC:=Lib.hid hC
  replace hCf:=Lib.hid hCf
  replace hpl:=Lib.hid hpl
  replace hql:=Lib.hid hql
  replace hC5:=Lib.hid hC5
  replace hCf5:=Lib.hid hCf5
  clear hqc hone honq hp1 hq1 hne
  go_enter Tryz.func71,Tryz.ntmps71
  go_upto_region 15 with (simp only[hov.out])
  go_still_tail 8,(by kernel_rfl)
  change wpList _ _ _ _ _ w.drew
  refine wpList_copy5 rfl _ _ 43 43 rfl 40 Tryz.underlying43 item_size _ _ _ _ _ _ rfl rfl b ((i+m)*5) C 40 hg.out (cells5 (ps.drop i)) (n-i) (copy_min (by omega)) (by rw[cells5_length,List.length_drop,hpl.out]) rfl ⟨b,i*5,none⟩ rfl (own_part5 (w:=w) h i) (by rw[cells5_length,List.length_drop,hpl.out,hC5.out];omega) HO.out ?_
  intro w2 hg2 hb2
  have S1:=Lib.hid (length_splice C ((i+m)*5) (cells5 (ps.drop i)) (by rw[cells5_length,List.length_drop,hpl.out,hC5.out];omega))
  have Q2:Hid (∀ j v,(cells5 qs)[j]? = some v→w2.cell? ((⟨fb,0,none⟩:Addr).add j)=some v):=Lib.hid fun j v hj=>by
   have hc:=hf.cells (g:=fb) rfl j v hj
   refine(World.cell?_of_block ?_).trans hc
   rw[add_block]
   exact hb2.out.block fb hfs (fun e=>hbf (by cases e;rfl))
  have hfin:∀ W,W.heap[b]? = some (.cells (splice (splice C ((i+m)*5) (cells5 (ps.drop i))) (i*5) (cells5 qs)).toArray 40 (0,0))→w2.grownBy W (some b)→InsP lo w (some ⟨b,0,none⟩) (ps.take i++(qs++ps.drop i)) (.returned (.slice (some ⟨b,0,none⟩) (n+m) c)) W:=fun W h1 h2=>by
   have el:(ps.take i++(qs++ps.drop i)).length=n+m:=by rw[List.length_append,List.length_append,List.length_take,List.length_drop,hpl.out,hql.out];omega
   refine⟨_,c,by rw[el],?_,grow_trans (grown_drew hb2.out) h2⟩
   rw[el]
   refine own_from5 hbl h1 hroom hcM (by rw[length_splice _ _ _ (by rw[S1.out,hq5,hC5.out];omega),S1.out,hC5.out]) ?_
   rw[cells5_app,cells5_app,cells5_take,← hC.out,List.take_take,Nat.min_eq_left (by omega)]
   have hd:(cells5 (ps.drop i)).length=(n-i)*5:=by rw[cells5_length,List.length_drop,hpl.out]
   have:=splice_back (C:=C) (Y:=cells5 qs) (X:=cells5 (ps.drop i)) (a:=i*5) (b:=(i+m)*5) (by rw[hq5];omega) (by rw[hd,hC5.out];omega)
   rw[hd,show (i+m)*5+(n-i)*5=(n+m)*5 by omega] at this
   exact this
  replace hfin:=Lib.hid hfin
  have hroom':=Lib.hid hroom
  clear h hf hC hCf hCf5 hpl hql
  go_wp2_with (refine wpList_copy5 rfl _ _ 43 43 rfl 40 Tryz.underlying43 item_size _ _ _ _ _ _ rfl rfl b (i*5) _ 40 hg2.out (cells5 qs) m (copy_min (by omega)) hq5 rfl ⟨fb,0,none⟩ rfl Q2.out (by rw[S1.out,hq5,hC5.out];have:=hroom'.out;omega) HQ.out ?_;intro w3 hg3 hb3)
  go_ret
  exact hfin.out _ hg3.out hb3.out
 ·have hgt:((c:Int)<(n:Int)+(m:Int)):=by omega
  obtain⟨c',w1,Z,hr,hg1,hZ5,hZc,hZm,hZt,hB1,hs1⟩:=app_zeros (i:=i) (k:=n+m-i) h hi (by omega) (by omega) (by omega)
  rw[show i+(n+m-i)=n+m by omega] at hr hZc
  rw[show ((n+m-i:Nat):Int)=(n:Int)+(m:Int)-(i:Int) by omega] at hr
  have r1:(0:Int)≤(i:Int)+(m:Int):=by omega
  have r2:¬ c'=i+m:=by omega
  have r3:(i:Int)+(m:Int)≤(n:Int)+(m:Int):=by omega
  have r4:((i:Int)+(m:Int)).toNat=i+m:=by omega
  have r5:¬ c'=i:=by omega
  have r6:(i:Int)≤(n:Int)+(m:Int):=by omega
  have HO:=Lib.hid (cells5_one (ps:=ps.drop i) fun p hp=>hp1 p (List.mem_of_mem_drop hp))
  have HQ:=Lib.hid honq
  have Q1:Hid (∀ j v,(cells5 qs)[j]? = some v→w1.cell? ((⟨fb,0,none⟩:Addr).add j)=some v):=Lib.hid fun j v hj=>(hB1.cell (by rw[add_block];exact hfs)).trans (hf.cells (g:=fb) rfl j v hj)
  have S1:=Lib.hid (length_splice Z (i*5) (cells5 qs) (by rw[hq5,hZ5];omega))
  have G1:=Lib.hid hg1
  have HR:=Lib.hid hr
  have hd:Hid ((cells5 (ps.drop i)).length=(n-i)*5):=Lib.hid (by rw[cells5_length,List.length_drop,hpl])
  have hz5:=Lib.hid hZ5
  have P2:Hid (∀ w2,w1.grownBy w2 (some w.heap.size)→∀ j v,(cells5 (ps.drop i))[j]? = some v→w2.cell? ((⟨b,i*5,none⟩:Addr).add j)=some v):=Lib.hid fun w2 hb2 j v hj=>by
   refine(World.cell?_of_block ?_).trans ((hB1.cell (by rw[add_block];exact hbs)).trans (own_part5 h i j v hj))
   rw[add_block]
   exact hb2.block b (by omega) (fun e=>by cases e;omega)
  have hfin:∀ W w2,w1.grownBy w2 (some w.heap.size)→W.heap[w.heap.size]? = some (.cells (splice (splice Z (i*5) (cells5 qs)) ((i+m)*5) (cells5 (ps.drop i))).toArray 40 (0,0))→w2.grownBy W (some w.heap.size)→InsP lo w (some ⟨b,0,none⟩) (ps.take i++(qs++ps.drop i)) (.returned (.slice (some ⟨w.heap.size,0,none⟩) (n+m) c')) W:=fun W w2 h0 h1 h2=>by
   have el:(ps.take i++(qs++ps.drop i)).length=n+m:=by rw[List.length_append,List.length_append,List.length_take,List.length_drop,hpl,hql];omega
   have hB:Below w.heap.size w W:=(hB1.grown h0 hB1.size (fun k e=>by cases e;exact Nat.le_refl _)).grown h2 (by have:=h0.size;omega) (fun k e=>by cases e;exact Nat.le_refl _)
   refine⟨_,c',by rw[el],?_,⟨hB.os,hB.tape,hB.output,hB.size,fun k hk _=>hB.block k hk⟩⟩
   rw[el]
   refine own_from5 hlo h1 hZc hZm (by rw[length_splice _ _ _ (by rw[S1.out,hd.out,hZ5];omega),S1.out,hZ5]) ?_
   rw[cells5_app,cells5_app,← hZt]
   have:=splice_two (C:=Z) (Y:=cells5 qs) (X:=cells5 (ps.drop i)) (a:=i*5) (b:=(i+m)*5) (by rw[hq5];omega) (by rw[hd.out,hZ5];omega)
   rw[hd.out,show (i+m)*5+(n-i)*5=(n+m)*5 by omega] at this
   exact this
  replace hfin:=Lib.hid hfin
  replace hZc:=Lib.hid hZc
  replace hs1:=Lib.hid hs1
  clear hqc hone honq hp1 hq1 hne h hf hC hC5 hCf hCf5 hpl hql hr hg1 hZ5 hZt hB1 hg hgf
  go_enter Tryz.func71,Tryz.ntmps71
  go_upto_region 11 with (first | (at_builtin;refine wpList_append_run2 rfl _ _ _ _ rfl rfl rfl HR.out ?_) | (refine wpList_copy5 rfl _ _ 43 43 rfl 40 Tryz.underlying43 item_size _ _ _ _ _ _ rfl rfl w.heap.size (i*5) _ 40 G1.out (cells5 qs) m (copy_min (by omega)) hq5 rfl ⟨fb,0,none⟩ rfl Q1.out (by rw[hz5.out,hq5];have:=hZc.out;omega) HQ.out ?_;intro w2 hg2 hb2))
  go_still_tail 8,(by kernel_rfl)
  refine wpList_copy5 rfl _ _ 43 43 rfl 40 Tryz.underlying43 item_size _ _ _ _ _ _ rfl rfl w.heap.size ((i+m)*5) _ 40 hg2.out (cells5 (ps.drop i)) (n-i) (copy_min (by omega)) hd.out rfl ⟨b,i*5,none⟩ rfl (P2.out w2 hb2.out) (by rw[S1.out,hd.out,hz5.out];have:=hZc.out;omega) HO.out ?_
  intro w3 hg3 hb3
  go_wp2_with fail
  go_ret
  exact hfin.out _ _ hb2.out hg3.out (grown_drew hb3.out)
end Go.Proofs.YtogieepfimpdmaaGreat
/-
 slices.Replace of one item,at rows of items of the call's own,walked. Conditions: those that each lemma states.
-/
namespace Go.Proofs.YtogieepfimpdmaaGreat
open Go.RowKit
set_option maxRecDepth 100000 in
set_option maxHeartbeats 8000000 in
theorem replace_any (A:Option Addr) (lo lf n c fb m fc i j:Nat) (ps qs:List Iv) (w:World) (h:w.ownsRow lo 40 5 (.slice A n c) n (cells5 ps)) (hf:w.ownsRow lf 40 5 (.slice (some ⟨fb,0,none⟩) m fc) m (cells5 qs))
  (hne:A.map (·.block)≠some fb) (hj:j=i+1) (hi:j≤n) (hm:0<m) (hbig:n+m≤1000) (hp1:∀ p∈ps,p.2.oneCell'=true) (hq1:∀ p∈qs,p.2.oneCell'=true) (hlo:lo≤w.heap.size) :
  Calls Tryz.prog 70 #[.slice A n c,.int .i64 i,.int .i64 j,.slice (some ⟨fb,0,none⟩) m fc] w (InsP lo w A (ps.take i++(qs++ps.drop j))):=by
 have hpl:=iv_len5 h
 have hql:=iv_len5 hf
 obtain⟨i0,hi0,hz0,hz1,hz2⟩:=info_parts item_info0
 have hqc:∀ j v,(cells5 qs)[j]? = some v→w.cell? ((⟨fb,0,none⟩:Addr).add j)=some v:=fun j v hj=>hf.cells (g:=fb) rfl j v hj
 have hq5:(cells5 qs).length=m*5:=hf.1
 have hone:=cells5_one hp1
 have honq:=cells5_one hq1
 obtain⟨ad,rfl⟩:∃ ad,A=some ad:=by
  obtain⟨_,_,e,_,_,_,h5⟩:=own_any h
  cases e
  exact h5 (by omega)
 obtain⟨b,C,rfl,hbl,hbs,hg,hnc,hcM,hC5,hC⟩:=own_block5 h
 have hcm:c≤9223372036854775807:=by unfold maxLen at hcM;exact hcM
 have hbf:b≠fb:=fun e=>hne (by rw[e];rfl)
 obtain⟨fb',Cf,e,_,hfs,hgf,_,_,hCf5,hCf⟩:=own_block5 hf
 obtain rfl:fb=fb':=by cases e;rfl
 have a1:¬ ((i:Int)=(j:Int)):=by omega
 have a2:(i:Int)≤(j:Int):=by omega
 have a3:(j:Int)≤(n:Int):=by omega
 have a4:(j:Int)≤(c:Int):=by omega
 have a5:(i:Int)≤(n:Int):=by omega
 have a6:(i:Int)≤(c:Int):=by omega
 have a7:¬ c=i:=by omega
 by_cases hjn:j=n
 ·have hjn':((j:Int)=(n:Int)):=by omega
  have hln:¬ ((i:Int)+(m:Int)<(n:Int)):=by omega
  have hln2:¬ (i+m<n):=by omega
  obtain⟨v',w',hr,o1,g1,b1,k1⟩:=app_own (P:=Tryz.prog) (w:=w) lo 43 43 40 i0 (.agg #[.int .u8 0,.int .u32 0,.int .u32 0,.int .i64 0,.slice none 0 0]) 5 48 Tryz.underlying43 hi0 hz0 hz1 hz2 rfl (by decide) _ _ _ (own_less5 h (show i≤n by omega)) ⟨fb,0,none⟩ m fc (cells5 qs) hq5 hqc honq (by unfold maxLen;omega) (by omega) hlo
  obtain⟨A2,c2,rfl,_⟩:=own_any o1
  have eL:ps.take i++(qs++ps.drop j)=ps.take i++qs:=by rw[List.drop_of_length_le (by omega),List.append_nil]
  have hfin:Hid (InsP lo w (some ⟨b,0,none⟩) (ps.take i++(qs++ps.drop j)) (.returned (.slice A2 (i+m) c2)) w'):=Lib.hid (by
   rw[eL]
   have el:(ps.take i++qs).length=i+m:=by rw[List.length_append,List.length_take];omega
   refine⟨A2,c2,by rw[el],?_,g1⟩
   rw[cells5_app,el,cells5_take]
   exact o1)
  have H:=Lib.hid hr
  replace hj:=Lib.hid hj
  replace hjn:=Lib.hid hjn
  clear eL hr o1 g1 b1 k1 h hf hqc hone honq hp1 hq1 hne hg hgf hC hC5 hCf hCf5 hpl hql
  go_enter Tryz.func70,Tryz.ntmps70
  go_wp2_with (at_builtin;refine wpList_append_run rfl _ _ _ rfl rfl rfl H.out ?_;clear H)
  go_ret
  exact hfin.out
 have hjn':¬ ((j:Int)=(n:Int)):=by omega
 have a8:¬ c=j:=by omega
 have hw1:IntKind.i64.wrap ((i:Int)+(m:Int))=(i:Int)+(m:Int):=by rw[IntKind.wrap_i64];omega
 have hw2:IntKind.i64.wrap ((i:Int)+(m:Int)+((n:Int)-(j:Int)))=(i:Int)+(m:Int)+((n:Int)-(j:Int)):=by rw[IntKind.wrap_i64];omega
 obtain⟨tot,htot⟩:∃ tot,tot=i+m+(n-j):=⟨_,rfl⟩
 have hw3:IntKind.i64.wrap ((i:Int)+(m:Int)+((n-j:Nat):Int))=(tot:Int):=by rw[IntKind.wrap_i64];omega
 have hd:Hid ((cells5 (ps.drop j)).length=(n-j)*5):=Lib.hid (by rw[cells5_length,List.length_drop,hpl])
 have HO:=Lib.hid (cells5_one (ps:=ps.drop j) fun p hp=>hp1 p (List.mem_of_mem_drop hp))
 have HQ:=Lib.hid honq
 have el:(ps.take i++(qs++ps.drop j)).length=tot:=by rw[List.length_append,List.length_append,List.length_take,List.length_drop,hpl,hql];omega
 have r1:(0:Int)≤(i:Int)+(m:Int):=by omega
 have r3:(i:Int)+(m:Int)≤(tot:Int):=by omega
 have r4:((i:Int)+(m:Int)).toNat=i+m:=by omega
 have r6:(i:Int)≤(tot:Int):=by omega
 have hw4:IntKind.i64.wrap ((tot:Int)-(i:Int))=(tot:Int)-(i:Int):=by rw[IntKind.wrap_i64];omega
 replace hj:=Lib.hid hj
 by_cases hroom:tot≤c
 ·have hgt:¬ ((c:Int)<(tot:Int)):=by omega
  have r2:¬ c=i+m:=by have:=hj.out;omega
  have r7:(tot:Int)≤(c:Int):=by omega
  have S1:Hid ((splice C (i*5) (cells5 qs)).length=C.length):=Lib.hid (length_splice _ _ _ (by rw[hq5,hC5];omega))
  have S2:Hid ((splice C ((i+m)*5) (cells5 (ps.drop j))).length=C.length):=Lib.hid (length_splice _ _ _ (by rw[hd.out,hC5];omega))
  have Q2:Hid (∀ w2:World,w.grownBy w2 (some b)→∀ j v,(cells5 qs)[j]? = some v→w2.cell? ((⟨fb,0,none⟩:Addr).add j)=some v):=Lib.hid fun w2 hb2 j v hj=>by
   refine(World.cell?_of_block ?_).trans (hqc j v hj)
   rw[add_block]
   exact hb2.block fb hfs (fun e=>hbf (by cases e;rfl))
  have P0:Hid (∀ j' v,(cells5 (ps.drop j))[j']? = some v→w.cell? ((⟨b,j*5,none⟩:Addr).add j')=some v):=Lib.hid (own_part5 h j)
  have hC5h:=Lib.hid hC5
  have hgh:=Lib.hid hg
  by_cases hmj:m=1
  ·have hle:(i:Int)+(m:Int)≤(j:Int):=by have:=hj.out;omega
   have htn:tot=n:=by have:=hj.out;omega
   have P2:Hid (∀ w2:World,w2.heap[b]? = some (.cells (splice C (i*5) (cells5 qs)).toArray 40 (0,0))→∀ j' v,(cells5 (ps.drop j))[j']? = some v→w2.cell? ((⟨b,j*5,none⟩:Addr).add j')=some v):=Lib.hid fun w2 h2 j' v hj'=>by
    have h0:=own_part5 h j j' v hj'
    have e:((⟨b,j*5,none⟩:Addr).add j')=⟨b,j*5+j',none⟩:=add_off _ _ _
    rw[e] at h0 ⊢
    rw[cell_block5 hg] at h0
    rw[cell_block5 h2,splice_past (by rw[hq5,hC5];omega) (by rw[hq5];have:=hj.out;omega)]
    exact h0
   have hfin:∀ (W w2:World),w.grownBy w2 (some b)→W.heap[b]? = some (.cells (splice (splice C (i*5) (cells5 qs)) ((i+m)*5) (cells5 (ps.drop j))).toArray 40 (0,0))→w2.grownBy W (some b)→InsP lo w (some ⟨b,0,none⟩) (ps.take i++(qs++ps.drop j)) (.returned (.slice (some ⟨b,0,none⟩) tot c)) W:=fun W w2 h0 h1 h2=>by
    refine⟨_,c,by rw[el],?_,grow_trans h0 h2⟩
    rw[el]
    refine own_from5 hbl h1 hroom hcM (by rw[length_splice _ _ _ (by rw[S1.out,hd.out,hC5];omega),S1.out,hC5]) ?_
    rw[cells5_app,cells5_app,cells5_take,← hC,List.take_take,Nat.min_eq_left (by omega)]
    have:=splice_two (C:=C) (Y:=cells5 qs) (X:=cells5 (ps.drop j)) (a:=i*5) (b:=(i+m)*5) (by rw[hq5];omega) (by rw[hd.out,hC5];omega)
    rw[hd.out,show (i+m)*5+(n-j)*5=tot*5 by omega] at this
    exact this
   replace hfin:=Lib.hid hfin
   have hroom':=Lib.hid (show i+m+(n-j)≤c by omega)
   have hmin:=Lib.hid (copy_min (a:=m) (b:=tot-i) (k:=m) (by omega))
   have hmin2:=Lib.hid (copy_min (a:=n-j) (b:=tot-(i+m)) (k:=n-j) (by omega))
   have htn':(tot:Int)≤(n:Int):=by omega
   have htz:n-tot=0:=by omega
   replace htot:=Lib.hid htot
   replace hmj:=Lib.hid hmj
   replace htn:=Lib.hid htn
   clear hqc hone honq hp1 hq1 hne h hf hC hC5 hCf hCf5 hpl hql hg hgf el
   go_enter Tryz.func70,Tryz.ntmps70
   go_upto_region 9 with fail
   go_quiet (fail)
   go_upto_region 18 with (refine wpList_copy5 rfl _ _ 43 43 rfl 40 Tryz.underlying43 item_size _ _ _ _ _ _ rfl rfl b (i*5) _ 40 hgh.out (cells5 qs) m hmin.out hq5 rfl ⟨fb,0,none⟩ rfl (Q2.out _ (grown_dN _ _ _)) (by rw[hq5,hC5h.out];have:=hroom'.out;omega) HQ.out ?_;intro w2 hg2 hb2)
   go_still_tail 9,(by kernel_rfl)
   refine wpList_copy5 rfl _ _ 43 43 rfl 40 Tryz.underlying43 item_size _ _ _ _ _ _ rfl rfl b ((i+m)*5) _ 40 hg2.out (cells5 (ps.drop j)) (n-j) hmin2.out hd.out rfl ⟨b,j*5,none⟩ rfl (P2.out w2 hg2.out) (by rw[S1.out,hd.out,hC5h.out];have:=hroom'.out;omega) HO.out ?_
   intro w3 hg3 hb3
   by_cases hcn:c=tot
   ·subst hcn
    go_wp2_with (refine wpList_clear0 rfl _ 43 rfl 40 Tryz.underlying43 _ _ rfl ?_)
    go_ret
    exact hfin.out _ _ (grown_undN hb2.out) hg3.out (grown_drew hb3.out)
   ·go_wp2_with (refine wpList_clear0 rfl _ 43 rfl 40 Tryz.underlying43 _ _ rfl ?_)
    go_ret
    exact hfin.out _ _ (grown_undN hb2.out) hg3.out (grown_drew hb3.out)
  ·have hle:¬ ((i:Int)+(m:Int)≤(j:Int)):=by have:=hj.out;omega
   have hov:Hid (∀ la ca lb cb ob nq,(callFunc 93 #[.slice (some ⟨b,ob,none⟩) la ca,.slice (some ⟨fb,0,none⟩) lb cb]).run Tryz.prog (w.drewN nq)=.ok (.value (.bool false)) (w.drewN nq)):=Lib.hid fun la ca lb cb ob nq=>overlaps_no (w:=w.drewN nq) hg hgf hbf (by omega)
   have hfin:∀ (W w2:World),w.grownBy w2 (some b)→W.heap[b]? = some (.cells (splice (splice C ((i+m)*5) (cells5 (ps.drop j))) (i*5) (cells5 qs)).toArray 40 (0,0))→w2.grownBy W (some b)→InsP lo w (some ⟨b,0,none⟩) (ps.take i++(qs++ps.drop j)) (.returned (.slice (some ⟨b,0,none⟩) tot c)) W:=fun W w2 h0 h1 h2=>by
    refine⟨_,c,by rw[el],?_,grow_trans h0 h2⟩
    rw[el]
    refine own_from5 hbl h1 hroom hcM (by rw[length_splice _ _ _ (by rw[S2.out,hq5,hC5];omega),S2.out,hC5]) ?_
    rw[cells5_app,cells5_app,cells5_take,← hC,List.take_take,Nat.min_eq_left (by omega)]
    have:=splice_back (C:=C) (Y:=cells5 qs) (X:=cells5 (ps.drop j)) (a:=i*5) (b:=(i+m)*5) (by rw[hq5];omega) (by rw[hd.out,hC5];omega)
    rw[hd.out,show (i+m)*5+(n-j)*5=tot*5 by omega] at this
    exact this
   replace hfin:=Lib.hid hfin
   have hroom':=Lib.hid (show i+m+(n-j)≤c by omega)
   have hmin:=Lib.hid (copy_min (a:=m) (b:=tot-i) (k:=m) (by omega))
   have hmin2:=Lib.hid (copy_min (a:=n-j) (b:=tot-(i+m)) (k:=n-j) (by omega))
   replace htot:=Lib.hid htot
   clear hqc hone honq hp1 hq1 hne h hf hC hC5 hCf hCf5 hpl hql hg hgf el
   go_enter Tryz.func70,Tryz.ntmps70
   go_upto_region 9 with fail
   go_quiet (fail)
   go_upto_region 22 with (simp only[hov.out])
   go_still_tail 9,(by kernel_rfl)
   refine wpList_copy5 rfl _ _ 43 43 rfl 40 Tryz.underlying43 item_size _ _ _ _ _ _ rfl rfl b ((i+m)*5) _ 40 hgh.out (cells5 (ps.drop j)) (n-j) hmin2.out hd.out rfl ⟨b,j*5,none⟩ rfl P0.out (by rw[hd.out,hC5h.out];have:=hroom'.out;omega) HO.out ?_
   intro w2 hg2 hb2
   have hb2':Hid (w.grownBy w2 (some b)):=Lib.hid ⟨hb2.out.os,hb2.out.tape,hb2.out.output,hb2.out.size,hb2.out.block⟩
   clear hb2
   go_wp2_with (refine wpList_copy5 rfl _ _ 43 43 rfl 40 Tryz.underlying43 item_size _ _ _ _ _ _ rfl rfl b (i*5) _ 40 hg2.out (cells5 qs) m hmin.out hq5 rfl ⟨fb,0,none⟩ rfl (Q2.out _ hb2'.out) (by rw[S2.out,hq5,hC5h.out];have:=hroom'.out;omega) HQ.out ?_;intro w3 hg3 hb3)
   go_ret
   exact hfin.out _ _ hb2'.out hg3.out hb3.out
 ·have hgt:((c:Int)<(tot:Int)):=by omega
  have hz:Hid (∀ nq,∃ c' w1 Z,(Builtin.append_ #[43,3] 43 #[.slice (some ⟨b,0,none⟩) i c,.int .i64 ((tot:Int)-(i:Int))]).run Tryz.prog (w.drewN nq)=.ok (.slice (some ⟨w.heap.size,0,none⟩) tot c') w1 ∧
    w1.heap[w.heap.size]? = some (.cells (List.toArray Z) 40 (0,0))∧Z.length=c'*5∧tot≤c'∧c'≤maxLen∧Z.take (i*5)=cells5 (ps.take i)∧Below w.heap.size w w1∧w1.heap.size=w.heap.size+1):=Lib.hid fun nq=>by
   obtain⟨c',w1,Z,e1,e2,e3,e4,e5,e6,e7,e8⟩:=app_zeros (w:=w.drewN nq) (i:=i) (k:=tot-i) h (by have:=hj.out;omega) (by omega) (by omega) (by omega)
   rw[show i+(tot-i)=tot by omega] at e1 e4
   rw[show ((tot-i:Nat):Int)=(tot:Int)-(i:Int) by omega] at e1
   exact⟨c',w1,Z,e1,e2,e3,e4,e5,e6,⟨e7.os,e7.tape,e7.output,e7.size,e7.block⟩,e8⟩
  replace htot:=Lib.hid htot
  go_enter Tryz.func70,Tryz.ntmps70
  go_upto_region 9 with fail
  go_quiet (fail)
  obtain⟨c',w1,Z,hr,hg1,hZ5,hZc,hZm,hZt,hB1,hs1⟩:=hz.out nq
  clear hz
  have r2:¬ c'=i+m:=by have:=hj.out;have:=htot.out;omega
  have r5:¬ c'=i:=by omega
  have Q1:Hid (∀ j v,(cells5 qs)[j]? = some v→w1.cell? ((⟨fb,0,none⟩:Addr).add j)=some v):=Lib.hid fun j v hj=>(hB1.cell (by rw[add_block];exact hfs)).trans (hqc j v hj)
  have S1:=Lib.hid (length_splice Z (i*5) (cells5 qs) (by rw[hq5,hZ5];have:=htot.out;omega))
  have G1:=Lib.hid hg1
  have HR:=Lib.hid hr
  have hz5:=Lib.hid hZ5
  have P2:Hid (∀ w2:World,w1.grownBy w2 (some w.heap.size)→∀ j' v,(cells5 (ps.drop j))[j']? = some v→w2.cell? ((⟨b,j*5,none⟩:Addr).add j')=some v):=Lib.hid fun w2 hb2 j' v hj'=>by
   refine(World.cell?_of_block ?_).trans ((hB1.cell (by rw[add_block];exact hbs)).trans (own_part5 h j j' v hj'))
   rw[add_block]
   exact hb2.block b (by omega) (fun e=>by cases e;omega)
  have hfin:∀ W w2:World,w1.grownBy w2 (some w.heap.size)→W.heap[w.heap.size]? = some (.cells (splice (splice Z (i*5) (cells5 qs)) ((i+m)*5) (cells5 (ps.drop j))).toArray 40 (0,0))→w2.grownBy W (some w.heap.size)→InsP lo w (some ⟨b,0,none⟩) (ps.take i++(qs++ps.drop j)) (.returned (.slice (some ⟨w.heap.size,0,none⟩) tot c')) W:=fun W w2 h0 h1 h2=>by
   have hB:Below w.heap.size w W:=(hB1.grown h0 hB1.size (fun k e=>by cases e;exact Nat.le_refl _)).grown h2 (by have:=h0.size;omega) (fun k e=>by cases e;exact Nat.le_refl _)
   refine⟨_,c',by rw[el],?_,⟨hB.os,hB.tape,hB.output,hB.size,fun k hk _=>hB.block k hk⟩⟩
   rw[el]
   refine own_from5 hlo h1 hZc hZm (by rw[length_splice _ _ _ (by rw[S1.out,hd.out,hZ5];have:=htot.out;omega),S1.out,hZ5]) ?_
   rw[cells5_app,cells5_app,← hZt]
   have:=splice_two (C:=Z) (Y:=cells5 qs) (X:=cells5 (ps.drop j)) (a:=i*5) (b:=(i+m)*5) (by rw[hq5];omega) (by rw[hd.out,hZ5];have:=htot.out;omega)
   rw[hd.out,show (i+m)*5+(n-j)*5=tot*5 by have:=htot.out;omega] at this
   exact this
  have hmin:=Lib.hid (copy_min (a:=m) (b:=tot-i) (k:=m) (by have:=htot.out;omega))
  have hmin2:=Lib.hid (copy_min (a:=n-j) (b:=tot-(i+m)) (k:=n-j) (by have:=htot.out;omega))
  have hroom':=Lib.hid (show i+m+(n-j)≤c' by have:=htot.out;omega)
  replace hfin:=Lib.hid hfin
  replace hs1:=Lib.hid hs1
  clear hqc hone honq hp1 hq1 hne h hf hC hC5 hCf hCf5 hpl hql hr hg1 hZ5 hZt hB1 hg hgf el
  go_upto_region 13 with (first | (at_builtin;refine wpList_append_run2 rfl _ _ _ _ rfl rfl rfl HR.out ?_) | (refine wpList_copy5 rfl _ _ 43 43 rfl 40 Tryz.underlying43 item_size _ _ _ _ _ _ rfl rfl w.heap.size (i*5) _ 40 G1.out (cells5 qs) m hmin.out hq5 rfl ⟨fb,0,none⟩ rfl Q1.out (by rw[hz5.out,hq5];have:=hroom'.out;omega) HQ.out ?_;intro w2 hg2 hb2))
  go_still_tail 9,(by kernel_rfl)
  refine wpList_copy5 rfl _ _ 43 43 rfl 40 Tryz.underlying43 item_size _ _ _ _ _ _ rfl rfl w.heap.size ((i+m)*5) _ 40 hg2.out (cells5 (ps.drop j)) (n-j) hmin2.out hd.out rfl ⟨b,j*5,none⟩ rfl (P2.out w2 hb2.out) (by rw[S1.out,hd.out,hz5.out];have:=hroom'.out;omega) HO.out ?_
  intro w3 hg3 hb3
  go_wp2_with fail
  go_ret
  exact hfin.out _ _ hb2.out hg3.out (grown_drew hb3.out)
end Go.Proofs.YtogieepfimpdmaaGreat
/-
 Package count: tables,which may be: Check,and the document's May and Check. Conditions: those that each lemma states.
-/
namespace Go.Proofs.YtogieepfimpdmaaGreat
open Go.RowKit
def mayT (t:List UInt8):Bool:=decide (t.length=256)&&(t.take 8).all (· == 0)
def chkT (t:List UInt8):Int:=if mayT t then 0 else 8
theorem chkT_ok {t:List UInt8} (h:mayT t=true):chkT t=0:=by simp[chkT,h]
theorem chkT_bad {t:List UInt8} (h:mayT t=false):chkT t=8:=by simp[chkT,h]
theorem mayT_len {t:List UInt8} (h:mayT t=true):t.length=256:=by
 simp only[mayT,Bool.and_eq_true,decide_eq_true_eq] at h
 exact h.1
theorem mayT_short {t:List UInt8} (h:t.length≠256):mayT t=false:=by simp[mayT,h]
theorem mayT_yes {t:List UInt8} (h:t.length=256) (ha:∀ j,j<8→t[j]?.getD 0=0):mayT t=true:=by
 simp only[mayT,Bool.and_eq_true,decide_eq_true_eq,List.all_eq_true]
 refine⟨h,fun x hx => ?_⟩
 obtain⟨j,hj,rfl⟩:=List.mem_iff_getElem.1 hx
 have hj8:j<8:=by simp at hj;omega
 have:=ha j hj8
 rw[List.getElem?_eq_getElem (by omega)] at this
 simpa using this
theorem mayT_at {t:List UInt8} (h:mayT t=true) {j:Nat} (hj:j<8):t[j]?.getD 0=0:=by
 have hl:=mayT_len h
 simp only[mayT,Bool.and_eq_true,List.all_eq_true] at h
 have:=h.2 (t[j]'(by omega)) (List.mem_iff_getElem.2 ⟨j,by simp;omega,by simp⟩)
 rw[List.getElem?_eq_getElem (by omega)]
 simpa using this
theorem mayT_no {t:List UInt8} {k:Nat} (hk:k<8) (h:t[k]?.getD 0≠0):mayT t=false:=by
 cases hm:mayT t with
 | false=>rfl
 | true=>exact absurd (mayT_at hm hk) h
theorem byte_ne {x:UInt8} (h:¬ (x.toNat:Int)=0):x≠0:=fun e=>h (by rw[e];rfl)
theorem byte_eq {x:UInt8} (h:(x.toNat:Int)=0):x=0:=UInt8.toNat.inj (by simpa using h)
theorem below8_snoc {b:List UInt8} {k:Nat} (ha:∀ j,j<k→b[j]?.getD 0=0) (h:b[k]?.getD 0=0):∀ j,j<k+1→b[j]?.getD 0=0:=fun j hj=>by
 rcases Nat.lt_or_ge j k with h1 | h1
 ·exact ha j h1
 ·obtain rfl:j=k:=by omega
  exact h
set_option maxRecDepth 100000 in
set_option maxHeartbeats 2000000 in
theorem checkT_any (A:Option Addr) (n c:Nat) (t:List UInt8) (hn:Hid (t.length=n)) (l1:n≤c) (m1:c≤9223372036854775807) (w:World) (h:Byt w w.heap.size A t) :
  Calls Tryz.prog 76 #[.slice A n c] w fun e w'=>e=.returned (.int .i64 (chkT t))∧w=w':=by
 have HY:=Lib.hid h
 clear h
 by_cases h256:n=256
 ·obtain⟨ad,rfl,_,hc⟩:=HY.out (by rw[hn.out];omega)
  subst h256
  replace hc:=Lib.hid hc
  go_enter Tryz.func76,Tryz.ntmps76
  go_wp2_with fail
  go_loop [11] (fun i=>∃ k:Nat,k≤8∧i=.int .i64 k∧∀ j,j<k→t[j]?.getD 0=0) (fun i=>8-(intOf i).toNat)
  case atStart=>exact⟨0,by omega,rfl,fun j hj=>by omega⟩
  case round =>
   obtain⟨k,hk,rfl,ha⟩:=hrel
   replace ha:=Lib.hid ha
   by_cases hlt:k<8
   ·have hcell:=hc.out k (by rw[hn.out];omega)
    have hyes:=Lib.hid (fun h=>mayT_no (t:=t) hlt h)
    have hno:=Lib.hid (fun h=>below8_snoc (b:=t) (k:=k) ha.out h)
    obtain⟨x,hx⟩:∃ x,t[k]?.getD 0=x:=⟨_,rfl⟩
    rw[hx] at hcell hyes hno
    replace hx:=Lib.hid hx
    by_cases h0:(x.toNat:Int)=0
    ·have t0:((x.toNat:Int) != 0)=false:=by simpa using h0
     have hall:=Lib.hid (hno.out (byte_eq h0))
     replace h0:=Lib.hid h0
     go_wp2_with fail
     go_round
     case rel=>exact⟨k+1,by omega,by go_num,hall.out⟩
     case measure=>simp[intOf];omega
    ·have t0:((x.toNat:Int) != 0)=true:=by simpa using h0
     have hr:=Lib.hid (chkT_bad (hyes.out (byte_ne h0)))
     replace h0:=Lib.hid h0
     go_wp2_with fail
     go_ret
     exact⟨ret_int hr.out.symm,rfl⟩
   ·have hr:=Lib.hid (chkT_ok (mayT_yes (t:=t) hn.out fun j hj=>ha.out j (by omega)))
    go_wp2_with fail
    go_ret
    exact⟨ret_int hr.out.symm,rfl⟩
 ·have hr:=Lib.hid (chkT_bad (mayT_short (t:=t) (by rw[hn.out];exact h256)))
  have i1:((n:Int) != 256)=true:=by simp;omega
  go_enter Tryz.func76,Tryz.ntmps76
  go_wp2_with fail
  go_ret
  exact⟨ret_int hr.out.symm,rfl⟩
theorem may_zeros:mayT (zeros 256)=true:=by decide +kernel
set_option maxHeartbeats 1000000 in
theorem cntNew_any (w:World):Calls Tryz.prog 43 #[] w fun e w'=>e=.returned (.slice (some ⟨w.heap.size,0,none⟩) 256 256)∧w'=w.alloc (.cells (rowA (zeros 256)) 5):=by
 have hmk:(Instr.makeSlice 27 (.int .i64 256) (.int .i64 256)).run Tryz.prog w=.ok (.slice (some ⟨w.heap.size,0,none⟩) 256 256) (w.alloc (.cells (rowA (zeros 256)) 5)):=make_bytes 256 (by omega) w
 go_enter Tryz.func43,Tryz.ntmps43
 go_wp2
 go_ret
 exact⟨rfl,rfl⟩
end Go.Proofs.YtogieepfimpdmaaGreat
/-
 Package count: Up,Down,Sum,and the document's. Conditions: those that each lemma states.
-/
namespace Go.Proofs.YtogieepfimpdmaaGreat
open Go.RowKit
def inT (n:Int):Bool:=decide (8≤n)&&decide (n<256)
def turnE (t:List UInt8) (n:Int) (x:UInt8):Int:=if mayT t then (if inT n then (if t[n.toNat]?.getD 0=x then 70 else 0) else 2) else 8
def upE (t:List UInt8) (n:Int):Int:=turnE t n 255
def upV (t:List UInt8) (n:Int):List UInt8:=if upE t n=0 then t.set n.toNat (t[n.toNat]?.getD 0+1) else []
theorem turnE_bad {t:List UInt8} {n:Int} {x:UInt8} (h:mayT t=false):turnE t n x=8:=by simp[turnE,h]
theorem turnE_out {t:List UInt8} {n:Int} {x:UInt8} (h:mayT t=true) (h':inT n=false):turnE t n x=2:=by simp[turnE,h,h']
theorem turnE_end {t:List UInt8} {n:Int} {x:UInt8} (h:mayT t=true) (h':inT n=true) (h2:t[n.toNat]?.getD 0=x):turnE t n x=70:=by simp[turnE,h,h',h2]
theorem turnE_ok {t:List UInt8} {n:Int} {x:UInt8} (h:mayT t=true) (h':inT n=true) (h2:t[n.toNat]?.getD 0≠x):turnE t n x=0:=by simp[turnE,h,h',h2]
theorem inT_nat {n:Int} (h:inT n=true):∃ k:Nat,n=k∧8≤k∧k<256:=by
 simp only[inT,Bool.and_eq_true,decide_eq_true_eq] at h
 exact⟨n.toNat,by omega,by omega,by omega⟩
theorem inT_of {k:Nat} (h:8≤k) (h':k<256):inT (k:Int)=true:=by
 simp only[inT,Bool.and_eq_true,decide_eq_true_eq]
 omega
theorem inT_no {n:Int} (h:inT n=false):n<8∨256≤n:=by
 simp only[inT,Bool.and_eq_false_iff,decide_eq_false_iff_not] at h
 omega
theorem turn_ways (t:List UInt8) (n:Int) (x:UInt8):(mayT t=false∧turnE t n x=8)∨(mayT t=true∧(n<8∨256≤n)∧turnE t n x=2)∨(∃ k:Nat,mayT t=true∧n=k∧8≤k∧k<256∧t[k]?.getD 0=x∧turnE t n x=70) ∨
  (∃ k:Nat,mayT t=true∧n=k∧8≤k∧k<256∧t[k]?.getD 0≠x∧turnE t n x=0):=by
 cases hm:mayT t with
 | false=>exact .inl ⟨rfl,turnE_bad hm⟩
 | true =>
  cases hi:inT n with
  | false=>exact .inr (.inl ⟨rfl,inT_no hi,turnE_out hm hi⟩)
  | true =>
   obtain⟨k,rfl,h1,h2⟩:=inT_nat hi
   by_cases hx:t[k]?.getD 0=x
   ·exact .inr (.inr (.inl ⟨k,rfl,rfl,h1,h2,hx,turnE_end hm hi hx⟩))
   ·exact .inr (.inr (.inr ⟨k,rfl,rfl,h1,h2,hx,turnE_ok hm hi hx⟩))
theorem byte_same {x y:UInt8} {q:Int} (hy:(y.toNat:Int)=q) (h:x=y):((x.toNat:Int)==q)=true:=by subst h;simpa using hy
theorem byte_unlike {x y:UInt8} {q:Int} (hy:(y.toNat:Int)=q) (h:x≠y):((x.toNat:Int)==q)=false:=by
 cases he:(x.toNat:Int)==q with
 | false=>rfl
 | true=>exact absurd (UInt8.toNat.inj (by have:=beq_iff_eq.1 he;omega)) h
set_option maxRecDepth 100000 in
set_option maxHeartbeats 2000000 in
theorem checkTurn_any (v:Value) (t:List UInt8) (n:Int) (x:UInt8) (q:Int) (hx:(x.toNat:Int)=q) (w:World) (h:rBy (Old w) w [v] t) :
  Calls Tryz.prog 112 #[v,.int .i64 n,.int .u8 q] w fun e w'=>e=.returned (.int .i64 (turnE t n x))∧w=w':=by
 obtain⟨A,c,rfl,l1,m1,hb⟩:=rBy_byt (B:=w.heap.size) (fun _ h=>h) h
 replace hb:=Lib.hid hb
 clear h
 rcases turn_ways t n x with ⟨hm,he⟩ | ⟨hm,hn,he⟩ | ⟨k,hm,rfl,h8,h256,hk,he⟩ | ⟨k,hm,rfl,h8,h256,hk,he⟩
 ·replace he:=Lib.hid he
  have hc:=Lib.hid (chkT_bad hm)
  replace hm:=Lib.hid hm
  clear hx
  go_enter Tryz.func112,Tryz.ntmps112
  go_wp2_with fail
  with_reducible refine(checkT_any A t.length c t (Lib.hid rfl) l1 m1 _ hb.out).mono ?_
  rintro e w1 ⟨rfl,rfl⟩
  rw[hc.out]
  go_wp2_with fail
  go_ret
  exact⟨ret_int he.out.symm,rfl⟩
 ·replace he:=Lib.hid he
  have hc:=Lib.hid (chkT_ok hm)
  replace hm:=Lib.hid hm
  clear hx
  by_cases h8:n<8
  ·go_enter Tryz.func112,Tryz.ntmps112
   go_wp2_with fail
   with_reducible refine(checkT_any A t.length c t (Lib.hid rfl) l1 m1 _ hb.out).mono ?_
   rintro e w1 ⟨rfl,rfl⟩
   rw[hc.out]
   go_wp2_with fail
   go_ret
   exact⟨ret_int he.out.symm,rfl⟩
  ·have h9:256≤n:=by omega
   clear hn
   go_enter Tryz.func112,Tryz.ntmps112
   go_wp2_with fail
   with_reducible refine(checkT_any A t.length c t (Lib.hid rfl) l1 m1 _ hb.out).mono ?_
   rintro e w1 ⟨rfl,rfl⟩
   rw[hc.out]
   go_wp2_with fail
   go_ret
   exact⟨ret_int he.out.symm,rfl⟩
 ·replace he:=Lib.hid he
  have hl:=Lib.hid (mayT_len hm)
  have hc:=Lib.hid (chkT_ok hm)
  replace hm:=Lib.hid hm
  obtain⟨ad,rfl,_,hcc⟩:=hb.out (by rw[hl.out];omega)
  have hcell:=hcc k (by rw[hl.out];omega)
  obtain⟨y,hy⟩:∃ y,t[k]?.getD 0=y:=⟨_,rfl⟩
  rw[hy] at hcell hk
  have t0:=byte_same hx hk
  replace hy:=Lib.hid hy
  have i1:¬ (k:Int)<8:=by omega
  have i2:¬ 256≤(k:Int):=by omega
  have i3:k<t.length:=by rw[hl.out];exact h256
  clear hcc hk hx
  go_enter Tryz.func112,Tryz.ntmps112
  go_wp2_with fail
  with_reducible refine(checkT_any (some ad) t.length c t (Lib.hid rfl) l1 m1 _ hb.out).mono ?_
  rintro e w1 ⟨rfl,rfl⟩
  rw[hc.out]
  go_wp2_with fail
  go_ret
  exact⟨ret_int he.out.symm,rfl⟩
 ·replace he:=Lib.hid he
  have hl:=Lib.hid (mayT_len hm)
  have hc:=Lib.hid (chkT_ok hm)
  replace hm:=Lib.hid hm
  obtain⟨ad,rfl,_,hcc⟩:=hb.out (by rw[hl.out];omega)
  have hcell:=hcc k (by rw[hl.out];omega)
  obtain⟨y,hy⟩:∃ y,t[k]?.getD 0=y:=⟨_,rfl⟩
  rw[hy] at hcell hk
  have t0:=byte_unlike hx hk
  replace hy:=Lib.hid hy
  have i1:¬ (k:Int)<8:=by omega
  have i2:¬ 256≤(k:Int):=by omega
  have i3:k<t.length:=by rw[hl.out];exact h256
  clear hcc hk hx
  go_enter Tryz.func112,Tryz.ntmps112
  go_wp2_with fail
  with_reducible refine(checkT_any (some ad) t.length c t (Lib.hid rfl) l1 m1 _ hb.out).mono ?_
  rintro e w1 ⟨rfl,rfl⟩
  rw[hc.out]
  go_wp2_with fail
  go_ret
  exact⟨ret_int he.out.symm,rfl⟩
theorem up_byte {x:UInt8} (h:x≠255):((x.toNat:Int)+1=((x+1).toNat:Int))∧(x.toNat:Int)+1≤255∧0≤(x.toNat:Int):=by
 have h2:x.toNat≠255:=fun e=>h (UInt8.toNat.inj e)
 have h3:=x.toNat_lt
 have:(x+1).toNat=x.toNat+1:=by rw[UInt8.toNat_add];simp;omega
 omega
theorem dn_byte {x:UInt8} (h:x≠0):((x.toNat:Int)-1=((x-1).toNat:Int))∧(x.toNat:Int)≤255∧0≤(x.toNat:Int)-1:=by
 have h2:x.toNat≠0:=fun e=>h (UInt8.toNat.inj e)
 have h3:=x.toNat_lt
 have:(x-1).toNat=x.toNat-1:=by rw[UInt8.toNat_sub_of_le];rfl;exact UInt8.le_iff_toNat_le.2 (by show 1≤x.toNat;omega)
 omega
set_option maxRecDepth 100000 in
set_option maxHeartbeats 2000000 in
theorem up_any (v:Value) (t:List UInt8) (n:Int) (w:World) (h:rBy (Old w) w [v] t) :
  Calls Tryz.prog 92 #[v,.int .i64 n] w fun e w'=>∃ u,e=.returned (.tuple #[u,.int .i64 (upE t n)])∧rBy (New w.heap.size w') w' [u] (upV t n)∧Below w.heap.size w w':=by
 have h':=Lib.hid h
 by_cases he:upE t n=0
 ·obtain⟨k,hm,rfl,h8,h256,hk⟩:∃ k:Nat,mayT t=true∧n=k∧8≤k∧k<256∧t[k]?.getD 0≠255:=by
   rcases turn_ways t n 255 with ⟨_,h2⟩ | ⟨_,_,h2⟩ | ⟨k,_,_,_,_,_,h2⟩ | ⟨k,hm,hn,h8,h256,hk,h2⟩
   ·rw[upE,h2] at he;cases he
   ·rw[upE,h2] at he;cases he
   ·rw[upE,h2] at he;cases he
   ·exact⟨k,hm,hn,h8,h256,hk⟩
  have hl:=mayT_len hm
  have hr:Hid (upV t (k:Int)=t.set k (t[k]?.getD 0+1)):=Lib.hid (by simp[upV,he])
  obtain⟨A,c,rfl,l1,m1,hb⟩:=rBy_byt (B:=w.heap.size) (fun _ h=>h) h
  obtain⟨hu,hu1,hu2⟩:=up_byte hk
  replace hb:=Lib.hid hb
  replace hl:=Lib.hid hl
  replace he:=Lib.hid he
  replace hu:=Lib.hid hu
  clear hk h
  go_enter Tryz.func92,Tryz.ntmps92
  go_wp2_with fail
  with_reducible refine(checkTurn_any _ t (k:Int) 255 255 rfl _ h'.out).mono ?_
  rintro e w1 ⟨rfl,rfl⟩
  rw[show turnE t (k:Int) 255=0 from he.out]
  go_wp2_with fail
  with_reducible refine(clone_any A t.length c t (Lib.hid rfl) (by rw[hl.out];omega) _ hb.out).mono ?_
  rintro e w2 ⟨u,rfl,hu3,hb2⟩
  obtain⟨g,c2,rfl,hg1,hg2,hg3,hg4⟩:=own_head hu3 (by rw[hl.out];omega)
  have hcell:=own_cell hu3 (j:=k) (by rw[hl.out];exact h256)
  have hfr:w2.frozen? ⟨g,k,none⟩=false:=by
   have:=own_free hu3 k
   rwa [show (⟨g,0,none⟩:Addr).add k=⟨g,k,none⟩ by simp[add_off]] at this
  have hset:=Lib.hid (own_set hu3 k (t[k]?.getD 0+1))
  have i3:k<t.length:=by rw[hl.out];exact h256
  generalize t[k]?.getD 0=x at *
  replace hu3:=Lib.hid hu3
  go_wp2_with fail
  go_ret2
  rw[hr.out,he.out]
  rw[hu.out]
  exact⟨_,rfl,own_by hset.out,hb2.setCell hg1 _⟩
 ·have hr:Hid (upV t n=[]):=Lib.hid (by simp[upV,he])
  obtain⟨q,hq⟩:∃ q,upE t n=q:=⟨_,rfl⟩
  have hq0:(q != 0)=true:=by rw[← hq];simpa using he
  replace hq:=Lib.hid hq
  clear h he
  go_enter Tryz.func92,Tryz.ntmps92
  go_wp2_with fail
  with_reducible refine(checkTurn_any _ t n 255 255 rfl _ h'.out).mono ?_
  rintro e w1 ⟨rfl,rfl⟩
  rw[show turnE t n 255=q from hq.out]
  go_wp2_with fail
  go_ret2
  rw[hr.out,hq.out]
  exact⟨_,rfl,rBy_none_new _ _,Below.refl _ _⟩
end Go.Proofs.YtogieepfimpdmaaGreat
/-
 The statements' own example of layer 7: a count goes up,and down. Conditions: none.
-/
namespace Go.Proofs.YtogieepfimpdmaaGreat
open Go.RowKit
theorem new_by (w:World):rBy (New w.heap.size (w.alloc (.cells (rowA (zeros 256)) 5))) (w.alloc (.cells (rowA (zeros 256)) 5)) [.slice (some ⟨w.heap.size,0,none⟩) 256 256] (zeros 256):=by
 have:=row_by w (zeros 256) (by rw[zeros_length];omega)
 rwa [zeros_length] at this
theorem cntNew_by (w:World):Calls Tryz.prog 43 #[] w fun e w'=>∃ g,e=.returned (.slice (some ⟨g,0,none⟩) 256 256)∧rBy (New w.heap.size w') w' [.slice (some ⟨g,0,none⟩) 256 256] (zeros 256)∧Below w.heap.size w w':=by
 refine(cntNew_any w).mono ?_
 rintro e w' ⟨rfl,rfl⟩
 exact⟨_,rfl,new_by w,balloc (Below.refl _ _) _⟩
theorem up_open (v:Value) (t:List UInt8) (n:Int) (w:World) (h:rBy (Old w) w [v] t) :
  Calls Tryz.prog 92 #[v,.int .i64 n] w fun e w'=>∃ E c,e=.returned (.tuple #[.slice E (upV t n).length c,.int .i64 (upE t n)])∧rBy (New w.heap.size w') w' [.slice E (upV t n).length c] (upV t n)∧Below w.heap.size w w':=by
 refine(up_any v t n w h).mono ?_
 rintro e w' ⟨u,rfl,hu,hb⟩
 obtain⟨E,c,rfl,_⟩:=id (rBy_open hu)
 exact⟨E,c,rfl,hu,hb⟩
end Go.Proofs.YtogieepfimpdmaaGreat
/-
 Tables,plain: what turns leave. Conditions: those that each lemma states.
-/
namespace Go.Proofs.YtogieepfimpdmaaGreat
open Go.RowKit
theorem set_get {t:List UInt8} {k:Nat} {x:UInt8} (h:k<t.length):(t.set k x)[k]?.getD 0=x:=by simp[h]
theorem set_other {t:List UInt8} {k j:Nat} {x:UInt8} (h:j≠k):(t.set k x)[j]?.getD 0=t[j]?.getD 0:=by simp[List.getElem?_set_ne (Ne.symm h)]
theorem mayT_set {t:List UInt8} {k:Nat} {x:UInt8} (h:mayT t=true) (hk:8≤k):mayT (t.set k x)=true :=
 mayT_yes (by rw[List.length_set];exact mayT_len h) fun j hj=>by rw[set_other (by omega)];exact mayT_at h hj
theorem up_ok {t:List UInt8} {k:Nat} (hm:mayT t=true) (h8:8≤k) (h:k<256) (hx:t[k]?.getD 0≠255):upE t k=0∧upV t k=t.set k (t[k]?.getD 0+1):=by
 have h1:upE t k=0:=turnE_ok hm (inT_of h8 h) (by simpa using hx)
 exact⟨h1,by simp[upV,h1]⟩
theorem byte_back {x:UInt8}:x+1-1=x∧x-1+1=x:=⟨UInt8.add_sub_cancel x 1,UInt8.sub_add_cancel x 1⟩
theorem byte_dn_ne {x:UInt8} (h:x≠0):x-1≠255:=fun e=>by
 have:=dn_byte h
 rw[e] at this
 have h0:((255:UInt8).toNat:Int)=255:=rfl
 omega
theorem in_ways (a:Int):(a<8∧inT a=false)∨(8≤a∧a<256∧inT a=true)∨(8≤a∧256≤a∧inT a=false):=by
 cases h:inT a with
 | true =>
  obtain⟨k,rfl,h1,h2⟩:=inT_nat h
  exact .inr (.inl ⟨by omega,by omega,rfl⟩)
 | false =>
  rcases inT_no h with h1 | h1
  ·exact .inl ⟨h1,rfl⟩
  ·exact .inr (.inr ⟨by omega,h1,rfl⟩)
end Go.Proofs.YtogieepfimpdmaaGreat
/-
 Stores,plain: which blocks are free,what is taken,shared,and what follows. Conditions: those that each lemma states.
-/
namespace Go.Proofs.YtogieepfimpdmaaGreat
open Go.RowKit
abbrev Rm:=Dk×List UInt8×List UInt8
def emptyR:Rm:=(emptyD,[],[])
def mayR (s:Rm):Bool:=mayB s.1&&mayT s.2.1&&mayT s.2.2
def chkR (s:Rm):Int:=if mayR s then 0 else 8
theorem mayR_of {s:Rm} (h:mayR s=true):mayB s.1=true∧mayT s.2.1=true∧mayT s.2.2=true:=by
 unfold mayR at h
 simp only[Bool.and_eq_true] at h
 exact⟨h.1.1,h.1.2,h.2⟩
theorem mayR_mk {s:Rm} (h1:mayB s.1=true) (h2:mayT s.2.1=true) (h3:mayT s.2.2=true):mayR s=true:=by simp[mayR,h1,h2,h3]
theorem chkR_ok {s:Rm} (h:mayR s=true):chkR s=0:=by simp[chkR,h]
theorem chkR_bad {s:Rm} (h:mayR s=false):chkR s=8:=by simp[chkR,h]
def freeAt (s:Rm) (i:Nat):Bool:=decide (s.2.1[i]?.getD 0=0)&&decide (s.2.2[i]?.getD 0=0)
def freeK (s:Rm) (k:Nat):List Nat:=(List.range' 8 k).filter (freeAt s)
def freeL (s:Rm):List Nat:=freeK s 248
theorem freeK_succ (s:Rm) (k:Nat):freeK s (k+1)=freeK s k++(if freeAt s (8+k) then [8+k] else []):=by
 unfold freeK
 rw[List.range'_concat,List.filter_append]
 simp[List.filter_cons]
theorem freeK_len (s:Rm) (k:Nat):(freeK s k).length≤k:=by
 have:=List.length_filter_le (freeAt s) (List.range' 8 k)
 simpa [freeK] using this
theorem free_in {s:Rm} {i:Nat} (h:i∈freeL s):8≤i∧i<256∧s.2.1[i]?.getD 0=0∧s.2.2[i]?.getD 0=0:=by
 unfold freeL freeK at h
 rw[List.mem_filter,List.mem_range'_1] at h
 obtain⟨⟨h1,h2⟩,h3⟩:=h
 simp only[freeAt,Bool.and_eq_true,decide_eq_true_eq] at h3
 exact⟨h1,h2,h3.1,h3.2⟩
def tkE (s:Rm) (b:List UInt8):Int:=if mayR s then (if b.length=128 then (if (freeL s).isEmpty||decide (4096≤s.1.2.length) then 9 else 0) else 3) else 8
def tkK (s:Rm):Nat:=(freeL s)[0]?.getD 0
def tkN (s:Rm) (b:List UInt8):Int:=if tkE s b=0 then (tkK s:Int) else 0
def tkV (s:Rm) (b:List UInt8):Rm:=if tkE s b=0 then (wrD s.1 (tkK s) b,s.2.1.set (tkK s) 1,s.2.2) else emptyR
theorem tk_ok {s:Rm} {b:List UInt8} (h:tkE s b=0):mayR s=true∧b.length=128∧s.1.2.length<4096∧freeL s=tkK s::(freeL s).tail∧8≤tkK s∧tkK s<256∧s.2.1[tkK s]?.getD 0=0∧s.2.2[tkK s]?.getD 0=0 ∧
  tkN s b=(tkK s:Int)∧tkV s b=(wrD s.1 (tkK s) b,s.2.1.set (tkK s) 1,s.2.2):=by
 have hN:tkN s b=(tkK s:Int):=by rw[tkN,if_pos h]
 have hV:tkV s b=(wrD s.1 (tkK s) b,s.2.1.set (tkK s) 1,s.2.2):=by rw[tkV,if_pos h]
 unfold tkE at h
 cases hm:mayR s with
 | false=>rw[hm] at h;simp at h
 | true =>
  rw[hm,if_pos rfl] at h
  by_cases hb:b.length=128
  ·rw[if_pos hb] at h
   cases hl:freeL s with
   | nil=>rw[hl] at h;simp at h
   | cons k m =>
    have hk:tkK s=k:=by simp[tkK,hl]
    obtain⟨h1,h2,h3,h4⟩:=free_in (s:=s) (i:=k) (by rw[hl];exact List.mem_cons_self)
    have hw:s.1.2.length<4096:=by
     rw[hl] at h
     by_cases hw:4096≤s.1.2.length
     ·simp[hw] at h
     ·omega
    rw[hk] at hN hV ⊢
    exact⟨rfl,hb,hw,rfl,h1,h2,h3,h4,hN,hV⟩
  ·rw[if_neg hb] at h
   simp at h
theorem tk_yes {s:Rm} {b:List UInt8} (hm:mayR s=true) (hb:b.length=128) (hl:freeL s≠[]) (hw:s.1.2.length<4096):tkE s b=0:=by
 have h1:(freeL s).isEmpty=false:=by cases h:freeL s with
  | nil=>exact absurd h hl
  | cons k m=>rfl
 have h2:decide (4096≤s.1.2.length)=false:=by simp;omega
 simp[tkE,hm,hb,h1,h2]
theorem tk_full {s:Rm} {b:List UInt8} (hm:mayR s=true) (hb:b.length=128) (h:tkE s b≠0):tkE s b=9∧(freeL s=[]∨s.1.2.length=4096):=by
 have h9:tkE s b=9:=by
  by_cases hc:((freeL s).isEmpty||decide (4096≤s.1.2.length))=true
  ·simp only[tkE,hm,hb,hc,if_true]
  ·simp only[tkE,hm,hb,hc,if_true] at h
   exact absurd rfl h
 refine⟨h9,?_⟩
 cases hl:freeL s with
 | nil=>exact .inl rfl
 | cons k m =>
  right
  have h2:=(may_of (mayR_of hm).1).2.1
  by_cases hw:s.1.2.length<4096
  ·exact absurd (tk_yes hm hb (by rw[hl];simp) hw) h
  ·omega
theorem tk_ways (s:Rm) (b:List UInt8):(mayR s=false∧tkE s b=8)∨(mayR s=true∧b.length≠128∧tkE s b=3)∨(mayR s=true∧b.length=128∧freeL s=[]∧tkE s b=9)∨(mayR s=true∧b.length=128∧freeL s≠[]∧4096≤s.1.2.length∧tkE s b=9) ∨
  (mayR s=true∧b.length=128∧freeL s≠[]∧s.1.2.length<4096∧tkE s b=0):=by
 cases hm:mayR s with
 | false=>exact .inl ⟨rfl,by simp[tkE,hm]⟩
 | true =>
  by_cases hb:b.length=128
  ·cases hl:freeL s with
   | nil=>exact .inr (.inr (.inl ⟨rfl,hb,rfl,by simp[tkE,hm,hb,hl]⟩))
   | cons k m =>
    by_cases hw:s.1.2.length<4096
    ·exact .inr (.inr (.inr (.inr ⟨rfl,hb,by simp,hw,tk_yes hm hb (by rw[hl];simp) hw⟩)))
    ·exact .inr (.inr (.inr (.inl ⟨rfl,hb,by simp,by omega,by simp[tkE,hm,hb,hl];omega⟩)))
  ·exact .inr (.inl ⟨rfl,hb,by simp[tkE,hm,hb]⟩)
theorem tk_no {s:Rm} {b:List UInt8} (h:tkE s b≠0):tkN s b=0∧tkV s b=emptyR:=⟨by rw[tkN,if_neg h],by rw[tkV,if_neg h]⟩
theorem tk_may {s:Rm} {b:List UInt8} (h:tkE s b=0):mayR (tkV s b)=true:=by
 obtain⟨hm,hb,hw,_,h8,h256,_,_,_,hV⟩:=tk_ok h
 obtain⟨m1,m2,m3⟩:=mayR_of hm
 rw[hV]
 exact mayR_mk (may_write m1 h256 hb hw) (mayT_set m2 h8) m3
def asE (s:Rm) (n:Int):Int:=if mayR s then (if inT n then (if s.2.1[n.toNat]?.getD 0=0 then 6 else 0) else 2) else 8
theorem as_ways (s:Rm) (n:Int):(mayR s=false∧asE s n=8)∨(mayR s=true∧(n<8∨256≤n)∧asE s n=2)∨(∃ k:Nat,mayR s=true∧n=k∧8≤k∧k<256∧s.2.1[k]?.getD 0=0∧asE s n=6) ∨
  (∃ k:Nat,mayR s=true∧n=k∧8≤k∧k<256∧s.2.1[k]?.getD 0≠0∧asE s n=0):=by
 cases hm:mayR s with
 | false=>exact .inl ⟨rfl,by simp[asE,hm]⟩
 | true =>
  cases hi:inT n with
  | false=>exact .inr (.inl ⟨rfl,inT_no hi,by simp[asE,hm,hi]⟩)
  | true =>
   obtain⟨k,rfl,h8,h256⟩:=inT_nat hi
   by_cases hx:s.2.1[k]?.getD 0=0
   ·exact .inr (.inr (.inl ⟨k,rfl,rfl,h8,h256,hx,by simp[asE,hm,hi,hx]⟩))
   ·exact .inr (.inr (.inr ⟨k,rfl,rfl,h8,h256,hx,by simp[asE,hm,hi,hx]⟩))
end Go.Proofs.YtogieepfimpdmaaGreat
/-
 Stores (api.Store): how they read;boxes of four;stores as arguments. Conditions: those that each lemma states.
-/
namespace Go.Proofs.YtogieepfimpdmaaGreat
open Go.ChangeShapes Go.WideShapes Go.RowKit
def rSto:Rel Rm:=rPair rDisk (rPair rBy rBy)
def Sto (ok:Addr→Prop) (w:World) (v:Value) (s:Rm):Prop:=∃ a b n l,v=.agg #[a,b,n,l]∧Dsk ok w (.agg #[a,b]) s.1∧rBy ok w [n] s.2.1∧rBy ok w [l] s.2.2
section
variable {ok ok' : Addr → Prop} {w w' : World} {v : Value} {s : Rm} {lo lo' : Nat}
theorem Sto.map (hk:∀ p v,ok p→w.cell? p=some v→ok' p∧w'.cell? p=some v) (h:Sto ok w v s):Sto ok' w' v s:=by
 obtain⟨a,b,n,l,e,h1,h2,h3⟩:=h
 exact⟨a,b,n,l,e,h1.map hk,stab_by _ _ _ _ _ _ hk h2,stab_by _ _ _ _ _ _ hk h3⟩
theorem Sto.below (h:Sto (Old w) w v s) (hb:Below w.heap.size w w'):Sto (Old w') w' v s :=
 h.map fun _ _ hp hc=>⟨Nat.lt_of_lt_of_le hp hb.size,(hb.cell hp).trans hc⟩
theorem Sto.drop (h:Sto (New lo w) w v s):Sto (Old w) w v s:=h.map fun _ _ hp hc=>⟨hp.2.1,hc⟩
theorem Sto.new (h:Sto (New lo w) w v s) (hl:lo'≤lo) (hb:Below w.heap.size w w'):Sto (New lo' w') w' v s :=
 h.map fun _ _ hp hc=>⟨⟨Nat.le_trans hl hp.1,Nat.lt_of_lt_of_le hp.2.1 hb.size,(hb.frozen hp.2.1).trans hp.2.2⟩,(hb.cell hp.2.1).trans hc⟩
theorem Sto.grown {row:Option Nat} (h:Sto (New lo w) w v s) (hg:w.grownBy w' row) (hr:∀ q,row=some q→q<lo):Sto (New lo w') w' v s:=by
 obtain⟨a,b,n,l,e,h1,h2,h3⟩:=h
 exact⟨a,b,n,l,e,h1.grown hg hr,stab_by.grown h2 hg hr,stab_by.grown h3 hg hr⟩
theorem Sto.open (h:Sto ok w v s):∃ A ca B cb N cn L cl,v=.agg #[.slice A s.1.1.length ca,.slice B s.1.2.length cb,.slice N s.2.1.length cn,.slice L s.2.2.length cl]∧Dsk ok w (.agg #[.slice A s.1.1.length ca,.slice B s.1.2.length cb]) s.1 ∧
  rBy ok w [.slice N s.2.1.length cn] s.2.1∧rBy ok w [.slice L s.2.2.length cl] s.2.2:=by
 obtain⟨a,b,n,l,rfl,h1,h2,h3⟩:=h
 obtain⟨A,ca,B,cb,e,_⟩:=h1.open
 cases e
 obtain⟨N,cn,rfl,_⟩:=rBy_open h2
 obtain⟨L,cl,rfl,_⟩:=rBy_open h3
 exact⟨A,ca,B,cb,N,cn,L,cl,rfl,h1,h2,h3⟩
theorem Sto.parts {a b n l:Value} (h:Sto ok w (.agg #[a,b,n,l]) s):Dsk ok w (.agg #[a,b]) s.1∧rBy ok w [n] s.2.1∧rBy ok w [l] s.2.2:=by
 obtain⟨_,_,_,_,e,h1,h2,h3⟩:=h
 cases e
 exact⟨h1,h2,h3⟩
theorem Sto.mk {a b n l:Value} (h1:Dsk ok w (.agg #[a,b]) s.1) (h2:rBy ok w [n] s.2.1) (h3:rBy ok w [l] s.2.2):Sto ok w (.agg #[a,b,n,l]) s:=⟨a,b,n,l,rfl,h1,h2,h3⟩
end
theorem sto_empty (ok:Addr→Prop) (w:World):Sto ok w (.agg #[.slice none 0 0,.slice none 0 0,.slice none 0 0,.slice none 0 0]) emptyR :=
 ⟨_,_,_,_,rfl,⟨_,_,rfl,⟨none,0,rfl,by simp[emptyR,emptyD],by omega,fun i x h=>by simp[emptyR,emptyD] at h⟩,⟨none,0,rfl,by simp[emptyR,emptyD],by omega,fun i x h=>by simp[emptyR,emptyD] at h⟩⟩,
  ⟨none,0,rfl,by simp[emptyR],by omega,fun i x h=>by simp[emptyR] at h⟩,⟨none,0,rfl,by simp[emptyR],by omega,fun i x h=>by simp[emptyR] at h⟩⟩
theorem box_4 (w:World) (a b c d:Value) (t:TypeId):∃ w1,w.alloc (.cells #[a,b,c,d] t)=w1∧w1.heap[w.heap.size]? = some (.cells #[a,b,c,d] t (0,0))∧w1.heap.size=w.heap.size+1∧Below w.heap.size w w1 :=
 ⟨_,rfl,heap_alloc_new _ _,by simp,(Below.refl _ _).alloc (Nat.le_refl _) _⟩
theorem four_cells {W:World} {g:Nat} {a b c d:Value} {t:TypeId} (h:W.heap[g]? = some (.cells #[a,b,c,d] t (0,0))):W.cell? ⟨g,0,none⟩=some a∧W.cell? ⟨g,1,none⟩=some b∧W.cell? ⟨g,2,none⟩=some c∧W.cell? ⟨g,3,none⟩=some d∧(∀ o,W.frozen? ⟨g,o,none⟩=false)∧g<W.heap.size :=
 ⟨by simp[World.cell?,h],by simp[World.cell?,h],by simp[World.cell?,h],by simp[World.cell?,h],fun o=>by simp[World.frozen?,h],(Array.getElem?_eq_some_iff.1 h).1⟩
theorem put_four {W:World} {g:Nat} {a b c d a' b' c' d':Value} {t:TypeId} (h:W.heap[g]? = some (.cells #[a,b,c,d] t (0,0))):∃ W1,(((W.setCell ⟨g,0,none⟩ a').setCell ⟨g,1,none⟩ b').setCell ⟨g,2,none⟩ c').setCell ⟨g,3,none⟩ d'=W1 ∧
  W1.heap[g]? = some (.cells #[a',b',c',d'] t (0,0))∧W.grownBy W1 (some g)∧W1.heap.size=W.heap.size :=
 ⟨_,rfl,by simp[World.setCell,Array.getElem?_modify,h],grow_put (p:=⟨g,3,none⟩) (grow_put (p:=⟨g,2,none⟩) (grow_put (p:=⟨g,1,none⟩) (grow_put (p:=⟨g,0,none⟩) (grow_refl W (some g)) rfl a') rfl b') rfl c') rfl d',by simp⟩
def Box4 (g:Nat) (a b c d:Value):World→Prop:=fun w=>w.cell? ⟨g,0,none⟩=some a∧w.cell? ⟨g,1,none⟩=some b∧w.cell? ⟨g,2,none⟩=some c∧w.cell? ⟨g,3,none⟩=some d∧g<w.heap.size
theorem lasts_box4 (g:Nat) (a b c d:Value):Lasts (Box4 g a b c d):=fun _ _ h hb=>⟨(hb.cell (p:=⟨g,0,none⟩) h.2.2.2.2).trans h.1,(hb.cell (p:=⟨g,1,none⟩) h.2.2.2.2).trans h.2.1,(hb.cell (p:=⟨g,2,none⟩) h.2.2.2.2).trans h.2.2.1,(hb.cell (p:=⟨g,3,none⟩) h.2.2.2.2).trans h.2.2.2.1,Nat.lt_of_lt_of_le h.2.2.2.2 hb.size⟩
theorem bag_four {w w1:World} {Fs:List (World→Prop)} (h:Bag w Fs) (hb:Below w.heap.size w w1) (a b c d:Value) (t:TypeId):∃ w',w1.alloc (.cells #[a,b,c,d] t)=w'∧Bag w' (Box4 w1.heap.size a b c d::Fs)∧Below w.heap.size w w'∧Below w1.heap.size w1 w'∧w1.heap.size<w'.heap.size:=by
 obtain⟨w2,e2,b2,k4,k5⟩:=box_4 w1 a b c d t
 obtain⟨k0,k1,k2,k3,_,k6⟩:=four_cells b2
 exact⟨w2,e2,((h.below hb).below k5).add ⟨k0,k1,k2,k3,k6⟩ (lasts_box4 _ _ _ _ _),hb.trans (k5.mono hb.size),k5,by omega⟩
def OldR (v:Value) (s:Rm):World→Prop:=fun w=>Sto (Old w) w v s
theorem lasts_oldR (v:Value) (s:Rm):Lasts (OldR v s):=fun _ _ h hb=>h.below hb
set_option maxRecDepth 100000 in
theorem opens_by9:Opens Tryz.prog 27 rBy:=opens_sl Tryz.underlying27 (by kernel_rfl) (opens_u8 Tryz.underlying5)
set_option maxRecDepth 100000 in
theorem opens_store:Opens Tryz.prog 29 rSto:=opens_struct Tryz.underlying29 (opensF_cons rfl opens_disk (opensF_cons (by kernel_rfl) opens_by9 (opensF_one (by kernel_rfl) (by kernel_rfl) opens_by9)))
theorem rSto_open {ok:Addr→Prop} {w:World} {cs:List Value} {s:Rm} (h:rSto ok w cs s):∃ a b n l,cs=[a,b,n,l]∧Dsk ok w (.agg #[a,b]) s.1∧rBy ok w [n] s.2.1∧rBy ok w [l] s.2.2:=by
 obtain⟨_,_,rfl,⟨_,_,rfl,h1,h2⟩,_,_,rfl,h3,h4⟩:=h
 obtain⟨A,ca,rfl,h1'⟩:=h1
 obtain⟨B,cb,rfl,h2'⟩:=h2
 obtain⟨N,cn,rfl,h3'⟩:=h3
 obtain⟨L,cl,rfl,h4'⟩:=h4
 exact⟨_,_,_,_,rfl,⟨_,_,rfl,⟨A,ca,rfl,h1'⟩,⟨B,cb,rfl,h2'⟩⟩,⟨N,cn,rfl,h3'⟩,⟨L,cl,rfl,h4'⟩⟩
set_option maxRecDepth 100000 in
theorem open_store {H:Type} {enc:TypeId×Value→H} {w:World} {b0:Nat} {spare:Nat→Bool} {held:Bool} {r:Reach} {v:Value} {x:DataW H} {ps:List MemPlace} (hval:Value.okWide Tryz.prog w r b0 29 v) (hd:DataW.Trod enc Tryz.prog w 0 spare held 29 v x ps) :
  ∃ s,Sto (Old w) w v s:=by
 obtain⟨cs,rfl,_⟩:=okWide_struct Tryz.underlying29 hval
 obtain⟨s,hs⟩:=open_rel opens_store hd
 obtain⟨a,b,n,l,h1,h2,h3,h4⟩:=rSto_open hs
 exact⟨s,a,b,n,l,by obtain⟨cs⟩:=cs;simp[Value.cells] at h1;rw[h1],h2,h3,h4⟩
end Go.Proofs.YtogieepfimpdmaaGreat
/-
 Package room: Check,takable,checkTaken;the document's Great. Conditions: those that each lemma states.
-/
namespace Go.Proofs.YtogieepfimpdmaaGreat
open Go.RowKit
theorem checkT_by (v:Value) (t:List UInt8) (w:World) (h:rBy (Old w) w [v] t):Calls Tryz.prog 76 #[v] w fun e w'=>e=.returned (.int .i64 (chkT t))∧w=w':=by
 obtain⟨A,c,rfl,l1,m1,hb⟩:=rBy_byt (B:=w.heap.size) (fun _ h=>h) h
 exact checkT_any A t.length c t (Lib.hid rfl) l1 m1 w hb
theorem box_sto {w:World} {v:Value} {s:Rm} (h:Sto (Old w) w v s):∃ A ca B cb N cn L cl w1,v=.agg #[.slice A s.1.1.length ca,.slice B s.1.2.length cb,.slice N s.2.1.length cn,.slice L s.2.2.length cl] ∧
  w.alloc (.cells #[.slice A s.1.1.length ca,.slice B s.1.2.length cb,.slice N s.2.1.length cn,.slice L s.2.2.length cl] 29)=w1∧w1.heap[w.heap.size]? = some (.cells #[.slice A s.1.1.length ca,.slice B s.1.2.length cb,.slice N s.2.1.length cn,.slice L s.2.2.length cl] 29 (0,0))∧w1.heap.size=w.heap.size+1∧Below w.heap.size w w1 ∧
  Hid (Dsk (Old w1) w1 (.agg #[.slice A s.1.1.length ca,.slice B s.1.2.length cb]) s.1)∧Hid (rBy (Old w1) w1 [.slice N s.2.1.length cn] s.2.1)∧Hid (rBy (Old w1) w1 [.slice L s.2.2.length cl] s.2.2):=by
 obtain⟨A,ca,B,cb,N,cn,L,cl,rfl,hd,hN,hL⟩:=h.open
 obtain⟨w1,hw1,f,hs,hB⟩:=box_4 w (.slice A s.1.1.length ca) (.slice B s.1.2.length cb) (.slice N s.2.1.length cn) (.slice L s.2.2.length cl) 29
 exact⟨A,ca,B,cb,N,cn,L,cl,w1,rfl,hw1,f,hs,hB,Lib.hid (hd.below hB),Lib.hid (stab_by.old hN hB),Lib.hid (stab_by.old hL hB)⟩
set_option maxRecDepth 100000 in
set_option maxHeartbeats 2000000 in
theorem checkR_any (v:Value) (s:Rm) (w:World) (h:Sto (Old w) w v s):Calls Tryz.prog 49 #[v] w fun e w'=>e=.returned (.int .i64 (chkR s))∧Below w.heap.size w w':=by
 obtain⟨A,ca,B,cb,N,cn,L,cl,w1,rfl,hw1,f,hsz,hB,D,NN,LL⟩:=box_sto h
 clear h
 obtain⟨k0,k1,k2,k3,_,kg⟩:=four_cells f
 replace hsz:=Lib.hid hsz
 cases h1:mayB s.1 with
 | false =>
  have hr:Hid (chkR s=8):=Lib.hid (chkR_bad (by simp[mayR,h1]))
  have e1:=chk_bad h1
  go_enter Tryz.func49,Tryz.ntmps49
  go_upto_region 1 with fail
  clear hw1
  go_wp2_with fail
  with_reducible refine(check_any _ s.1 _ D.out).mono ?_
  rintro e w2 ⟨rfl,hb2⟩
  rw[e1]
  go_wp2_with fail
  go_ret
  exact⟨ret_int hr.out.symm,hB.trans (hb2.mono hB.size)⟩
 | true =>
  have e1:=chk_ok h1
  cases h2:mayT s.2.1 with
  | false =>
   have hr:Hid (chkR s=8):=Lib.hid (chkR_bad (by simp[mayR,h2]))
   have e2:=chkT_bad h2
   go_enter Tryz.func49,Tryz.ntmps49
   go_upto_region 1 with fail
   clear hw1
   go_wp2_with fail
   with_reducible refine(check_any _ s.1 _ D.out).mono ?_
   rintro e w2 ⟨rfl,hb2⟩
   rw[e1]
   replace k2:=(hb2.cell (p:=⟨w.heap.size,2,none⟩) kg).trans k2
   have N2:=Lib.hid (stab_by.old NN.out hb2)
   replace hb2:=Lib.hid (hB.trans (hb2.mono hB.size))
   go_wp2_with fail
   with_reducible refine(checkT_by _ s.2.1 _ N2.out).mono ?_
   rintro e w3 ⟨rfl,rfl⟩
   rw[e2]
   go_wp2_with fail
   go_ret
   exact⟨ret_int hr.out.symm,hb2.out⟩
  | true =>
   have e2:=chkT_ok h2
   obtain⟨q,hq,hr⟩:∃ q,chkT s.2.2=q∧Hid (chkR s=q):=⟨_,rfl,Lib.hid (by simp[chkR,chkT,mayR,h1,h2])⟩
   obtain⟨p,hp1,hp2⟩:∃ p,(q != 0)=p∧(p=true→q=8)∧(p=false→q=0):=⟨_,rfl,by
    rw[← hq]
    unfold chkT
    split <;> simp⟩
   go_enter Tryz.func49,Tryz.ntmps49
   go_upto_region 1 with fail
   clear hw1
   go_wp2_with fail
   with_reducible refine(check_any _ s.1 _ D.out).mono ?_
   rintro e w2 ⟨rfl,hb2⟩
   rw[e1]
   replace k2:=(hb2.cell (p:=⟨w.heap.size,2,none⟩) kg).trans k2
   replace k3:=(hb2.cell (p:=⟨w.heap.size,3,none⟩) kg).trans k3
   have N2:=Lib.hid (stab_by.old NN.out hb2)
   have L2:=Lib.hid (stab_by.old LL.out hb2)
   replace hb2:=Lib.hid (hB.trans (hb2.mono hB.size))
   go_wp2_with fail
   with_reducible refine(checkT_by _ s.2.1 _ N2.out).mono ?_
   rintro e w3 ⟨rfl,rfl⟩
   rw[e2]
   go_wp2_with fail
   with_reducible refine(checkT_by _ s.2.2 _ L2.out).mono ?_
   rintro e w3 ⟨rfl,rfl⟩
   rw[hq]
   replace hq:=Lib.hid hq
   cases p with
   | true =>
    have h8:=Lib.hid (hp2.1 rfl)
    clear hp2
    go_wp2_with fail
    go_ret
    exact⟨ret_int (by rw[hr.out,h8.out]),hb2.out⟩
   | false =>
    have h0:=Lib.hid (hp2.2 rfl)
    clear hp2
    go_wp2_with fail
    go_ret
    exact⟨ret_int (by rw[hr.out,h0.out]),hb2.out⟩
def greatR (s:Rm):Bool:=greatB s.1||decide (10000<s.2.1.length)||decide (10000<s.2.2.length)
set_option maxRecDepth 100000 in
set_option maxHeartbeats 2000000 in
theorem greatR_any (v:Value) (s:Rm) (w:World) (h:Sto (Old w) w v s):Calls Tryz.prog 15 #[v] w fun e w'=>e=.returned (.bool (greatR s))∧Below w.heap.size w w':=by
 obtain⟨A,ca,B,cb,N,cn,L,cl,w1,rfl,hw1,f,hsz,hB,D,_,_⟩:=box_sto h
 clear h
 obtain⟨k0,k1,k2,k3,_,kg⟩:=four_cells f
 replace hsz:=Lib.hid hsz
 obtain⟨n,hn⟩:∃ n,s.2.1.length=n:=⟨_,rfl⟩
 obtain⟨l,hl⟩:∃ l,s.2.2.length=l:=⟨_,rfl⟩
 have hr:Hid (greatR s=(greatB s.1||decide ((10000:Int)<n)||decide ((10000:Int)<l))):=Lib.hid (by
  unfold greatR
  rw[hn,hl,show decide (10000<n)=decide ((10000:Int)<n) from decide_eq_decide.2 (by omega),show decide (10000<l)=decide ((10000:Int)<l) from decide_eq_decide.2 (by omega)])
 rw[hn] at k2
 rw[hn,hl] at hw1 ⊢
 rw[hl] at k3
 clear hn hl
 obtain⟨g,hg⟩:∃ g,greatB s.1=g:=⟨_,rfl⟩
 rw[hg] at hr
 go_enter Tryz.func15,Tryz.ntmps15
 go_upto_region 1 with fail
 clear hw1
 go_wp2_with fail
 with_reducible refine(great_any _ s.1 _ D.out).mono ?_
 rintro e w2 ⟨rfl,hb2⟩
 rw[hg]
 replace k2:=(hb2.cell (p:=⟨w.heap.size,2,none⟩) kg).trans k2
 replace k3:=(hb2.cell (p:=⟨w.heap.size,3,none⟩) kg).trans k3
 replace hb2:=Lib.hid (hB.trans (hb2.mono hB.size))
 replace hg:=Lib.hid hg
 cases g with
 | true =>
  go_wp2_with fail
  go_ret
  exact⟨ret_bool (by rw[hr.out];rfl),hb2.out⟩
 | false =>
  by_cases hn:(10000:Int)<n
  ·go_wp2_with fail
   go_ret
   exact⟨ret_bool (by rw[hr.out];simp[hn]),hb2.out⟩
  ·by_cases hl:(10000:Int)<l
   ·go_wp2_with fail
    go_ret
    exact⟨ret_bool (by rw[hr.out];simp[hl]),hb2.out⟩
   ·go_wp2_with fail
    go_ret
    exact⟨ret_bool (by rw[hr.out];simp),hb2.out⟩
set_option maxHeartbeats 1000000 in
theorem takableR_any (n:Int) (w:World):Calls Tryz.prog 50 #[.int .i64 n] w fun e w'=>e=.returned (.bool (inT n))∧w=w':=by
 rcases in_ways n with ⟨h,hr⟩ | ⟨h,h2,hr⟩ | ⟨h,h2,hr⟩
 all_goals
  replace hr:=Lib.hid hr
  go_enter Tryz.func50,Tryz.ntmps50
  go_wp2_with fail
  go_ret
  exact⟨ret_bool (by first | exact hr.out.symm | (rw[hr.out];simp;omega)),rfl⟩
set_option maxRecDepth 100000 in
set_option maxHeartbeats 2000000 in
theorem checkTakenR_any (v:Value) (s:Rm) (n:Int) (w:World) (h:Sto (Old w) w v s):Calls Tryz.prog 30 #[v,.int .i64 n] w fun e w'=>e=.returned (.int .i64 (asE s n))∧Below w.heap.size w w':=by
 have H0:=Lib.hid h
 obtain⟨A,ca,B,cb,N,cn,L,cl,w1,rfl,hw1,f,hsz,hB,_,NN,_⟩:=box_sto h
 have H:=Lib.hid (h.below hB)
 clear h H0
 obtain⟨k0,k1,k2,k3,_,kg⟩:=four_cells f
 replace hsz:=Lib.hid hsz
 rcases as_ways s n with ⟨hm,he⟩ | ⟨hm,hn,he⟩ | ⟨k,hm,rfl,h8,h256,hx,he⟩ | ⟨k,hm,rfl,h8,h256,hx,he⟩
 ·replace he:=Lib.hid he
  have e1:=chkR_bad hm
  go_enter Tryz.func30,Tryz.ntmps30
  go_upto_region 1 with fail
  clear hw1
  go_wp2_with fail
  with_reducible refine(checkR_any _ s _ H.out).mono ?_
  rintro e w2 ⟨rfl,hb2⟩
  rw[e1]
  replace hb2:=Lib.hid (hB.trans (hb2.mono hB.size))
  go_wp2_with fail
  go_ret
  exact⟨ret_int he.out.symm,hb2.out⟩
 ·replace he:=Lib.hid he
  have e1:=chkR_ok hm
  have hi:inT n=false:=by
   cases hi:inT n with
   | false=>rfl
   | true=>obtain⟨k,rfl,h8,h256⟩:=inT_nat hi;omega
  go_enter Tryz.func30,Tryz.ntmps30
  go_upto_region 1 with fail
  clear hw1
  go_wp2_with fail
  with_reducible refine(checkR_any _ s _ H.out).mono ?_
  rintro e w2 ⟨rfl,hb2⟩
  rw[e1]
  replace hb2:=Lib.hid (hB.trans (hb2.mono hB.size))
  go_wp2_with fail
  with_reducible refine(takableR_any n _).mono ?_
  rintro e w3 ⟨rfl,rfl⟩
  rw[hi]
  go_wp2_with fail
  go_ret
  exact⟨ret_int he.out.symm,hb2.out⟩
 all_goals
  replace he:=Lib.hid he
  have e1:=chkR_ok hm
  have hi:=inT_of h8 h256
  have hlen:=mayT_len (mayR_of hm).2.1
  obtain⟨A',c',e2,l1,m1,hby⟩:=rBy_byt (B:=w1.heap.size) (fun _ h=>h) NN.out
  cases e2
  obtain⟨ad,rfl,hbk,hc⟩:=hby (by omega)
  have hcell:=hc k (by omega)
  replace hbk:(ad.add k).block<w1.heap.size:=by rw[add_block];exact hbk
  obtain⟨x,hx2⟩:∃ x,s.2.1[k]?.getD 0=x:=⟨_,rfl⟩
  rw[hx2] at hcell hx
  have hlt:k<s.2.1.length:=by omega
  first
   | have t0:=byte_same (y:=0) (q:=0) rfl hx
   | have t0:=byte_unlike (y:=0) (q:=0) rfl hx
  replace hx2:=Lib.hid hx2
  replace hx:=Lib.hid hx
  replace hlen:=Lib.hid hlen
  clear hc hby
  go_enter Tryz.func30,Tryz.ntmps30
  go_upto_region 1 with fail
  clear hw1
  go_wp2_with fail
  with_reducible refine(checkR_any _ s _ H.out).mono ?_
  rintro e w2 ⟨rfl,hb2⟩
  rw[e1]
  replace k2:=(hb2.cell (p:=⟨w.heap.size,2,none⟩) kg).trans k2
  replace hcell:=(hb2.cell hbk).trans hcell
  replace hb2:=Lib.hid (hB.trans (hb2.mono hB.size))
  go_wp2_with fail
  with_reducible refine(takableR_any (k:Int) _).mono ?_
  rintro e w3 ⟨rfl,rfl⟩
  rw[hi]
  go_wp2_with fail
  go_ret
  exact⟨ret_int he.out.symm,hb2.out⟩
end Go.Proofs.YtogieepfimpdmaaGreat
/-
 Package room: free,which is ranged over;first. Conditions: those that each lemma states.
-/
namespace Go.Proofs.YtogieepfimpdmaaGreat
open Go.RowKit Go.Shelf
attribute [local go_sem] Oper.semAt_some
theorem freeK_add (s:Rm) (k j:Nat):∃ r,freeK s (k+j)=freeK s k++r:=by
 induction j with
 | zero=>exact⟨[],by simp⟩
 | succ j ih =>
  obtain⟨r,hr⟩:=ih
  exact⟨r++(if freeAt s (8+(k+j)) then [8+(k+j)] else []),by rw[← Nat.add_assoc,freeK_succ,hr,List.append_assoc]⟩
theorem freeK_yes {s:Rm} {k:Nat} (h:freeAt s (8+k)=true):freeK s (k+1)=freeK s k++[8+k]:=by rw[freeK_succ,h];rfl
theorem freeK_no {s:Rm} {k:Nat} (h:freeAt s (8+k)=false):freeK s (k+1)=freeK s k:=by rw[freeK_succ,h];simp
theorem freeL_at {s:Rm} {k:Nat} (hk:k<248) (h:freeAt s (8+k)=true):∃ r,freeL s=freeK s k++(8+k)::r:=by
 obtain⟨r,hr⟩:=freeK_add s (k+1) (247-k)
 refine⟨r,?_⟩
 rw[freeL,show 248=k+1+(247-k) by omega,hr,freeK_yes h]
 simp
theorem freeAt_no1 {s:Rm} {i:Nat} (h:s.2.1[i]?.getD 0≠0):freeAt s i=false:=by simp[freeAt,h]
theorem freeAt_no2 {s:Rm} {i:Nat} (h:s.2.2[i]?.getD 0≠0):freeAt s i=false:=by simp[freeAt,h]
theorem freeAt_yes {s:Rm} {i:Nat} (h:s.2.1[i]?.getD 0=0) (h':s.2.2[i]?.getD 0=0):freeAt s i=true:=by simp[freeAt,h,h']
set_option maxRecDepth 100000 in
set_option maxHeartbeats 4000000 in
theorem freeC_in (F:Fence) (n:Nat) (hf:F.fn 126) (hro:F.round=none) (hn:1≤n) (l Bs n₀:Nat) (s:Rm) (ad bd:Addr) (cn cl:Nat) (_cn1:256≤cn) (_cl1:256≤cl) (hBn:Bs<n₀) (hab:ad.block<n₀) (hbb:bd.block<n₀) (J Jx:List Nat→World→Prop)
  (hY:∀ (pre:List Nat) (x:Nat) (W1:World),J pre W1→pre.length<248→YieldAt F (n-1) Tryz.prog l #[.int .i64 (x:Int)] W1 fun e W' =>
   (e=.returned (.bool true)∧J (pre++[x]) W'∧Below n₀ W1 W')∨(e=.returned (.bool false)∧Jx (pre++[x]) W'))
  (W:World) (hb2:W.cell? ⟨Bs,2,none⟩=some (.slice (some ad) 256 cn)) (hb3:W.cell? ⟨Bs,3,none⟩=some (.slice (some bd) 256 cl))
  (hc:∀ j,j<256→W.cell? (ad.add j)=some (.int .u8 ((s.2.1[j]?.getD 0).toNat:Int))∧W.cell? (bd.add j)=some (.int .u8 ((s.2.2[j]?.getD 0).toNat:Int))) (h0:J [] W) :
  CallsIn F n Tryz.prog 126 #[.func (.yield l) #[] #[],.pointer (some ⟨Bs,0,none⟩)] W fun e W'=>(∃ v,e=.returned v) ∧
   ((∃ ys,ys=freeL s∧J ys W')∨(∃ pre,(∃ k,k<248∧freeAt s (8+k)=true∧pre=freeK s k++[8+k])∧Jx pre W')):=by
 refine callsIn_of_wp Tryz.func126 rfl hf ?_ hro
 simp only[Tryz.ntmps126,List.size_toArray,List.length_cons,List.length_nil,Nat.reduceAdd,Nat.reduceSub,Array.replicate_succ,Array.replicate_zero,List.push_toArray,List.append_toArray,List.nil_append,List.cons_append]
 have HC:=Lib.hid hc
 clear hc
 gi_wp2
 gi_loopw [3] (fun i wr=>∃ k:Nat,k≤248∧i=.int .i64 ((8+k:Nat):Int)∧J (freeK s k) wr∧Below n₀ W wr) (fun i _=>(256-intOf i).toNat)
 case atStart=>exact⟨0,Nat.zero_le _,by simp,h0,Below.refl _ _⟩
 case round =>
  obtain⟨k,hk,rfl,hJs,hnx⟩:=hrel
  have b2:=(hnx.cell (p:=⟨Bs,2,none⟩) hBn).trans hb2
  have b3:=(hnx.cell (p:=⟨Bs,3,none⟩) hBn).trans hb3
  by_cases hlt:k<248
  ·have hx:=HC.out (8+k) (by omega)
   have c1:=(hnx.cell (p:=ad.add (8+k)) (by rw[add_block];exact hab)).trans hx.1
   have c2:=(hnx.cell (p:=bd.add (8+k)) (by rw[add_block];exact hbb)).trans hx.2
   clear hx
   have hlen:=freeK_len s k
   have hi:8+k<256:=by omega
   have hno1:=Lib.hid (fun h=>freeK_no (freeAt_no1 (s:=s) (i:=8+k) h))
   have hno2:=Lib.hid (fun h=>freeK_no (freeAt_no2 (s:=s) (i:=8+k) h))
   have hyes:=Lib.hid (fun h h'=>freeAt_yes (s:=s) (i:=8+k) h h')
   obtain⟨x,hx⟩:∃ x,s.2.1[8+k]?.getD 0=x:=⟨_,rfl⟩
   obtain⟨y,hy⟩:∃ y,s.2.2[8+k]?.getD 0=y:=⟨_,rfl⟩
   rw[hx] at c1 hno1 hyes
   rw[hy] at c2 hno2 hyes
   replace hx:=Lib.hid hx
   replace hy:=Lib.hid hy
   obtain⟨i,hi2⟩:∃ i,8+k=i:=⟨_,rfl⟩
   have hi3:Hid (8+k=i):=Lib.hid hi2
   rw[hi2] at c1 c2 hi hyes ⊢
   clear hi2
   by_cases h0:x=0
   ·by_cases h1:y=0
    ·have t0:=byte_same (y:=0) (q:=0) rfl h0
     have t1:=byte_same (y:=0) (q:=0) rfl h1
     have hfr:=Lib.hid (hyes.out h0 h1)
     have hfk:=Lib.hid (freeK_yes (s:=s) (k:=k) (by rw[hi3.out];exact hfr.out))
     replace h0:=Lib.hid h0
     replace h1:=Lib.hid h1
     obtain⟨fn,tmps,assign,body,hyy,hR⟩:=hY _ i wr hJs (by omega)
     try dsimp only at hyy
     gi_wp2
     refine hR.mono ?_
     rintro e W3 (⟨rfl,hJ3,hk3⟩ | ⟨rfl,hJx3⟩)
     ·gi_wp2
      go_roundw
      case rel=>exact⟨k+1,by omega,by have:=hi3.out;go_num,by rw[hfk.out,hi3.out];exact hJ3,hnx.trans hk3⟩
      case measure=>simp[intOf];omega
     ·gi_wp2
      refine bodyPost_ret (results_none rfl _ _ _) rfl ?_
      exact⟨⟨_,rfl⟩,.inr ⟨_,⟨k,hlt,by rw[hi3.out];exact hfr.out,rfl⟩,by rw[hi3.out];exact hJx3⟩⟩
    ·have t0:=byte_same (y:=0) (q:=0) rfl h0
     have t1:=byte_unlike (y:=0) (q:=0) rfl h1
     have hfk:=Lib.hid (hno2.out h1)
     replace h0:=Lib.hid h0
     replace h1:=Lib.hid h1
     gi_wp2
     try (refine⟨fun _ h=>(by cases h),?_⟩;gi_wp2)
     go_roundw
     case rel=>exact⟨k+1,by omega,by have:=hi3.out;go_num,by rw[hfk.out];exact hJs,hnx⟩
     case measure=>simp[intOf];omega
   ·have t0:=byte_unlike (y:=0) (q:=0) rfl h0
    have hfk:=Lib.hid (hno1.out h0)
    replace h0:=Lib.hid h0
    gi_wp2
    try (refine⟨fun _ h=>(by cases h),?_⟩;gi_wp2)
    go_roundw
    case rel=>exact⟨k+1,by omega,by have:=hi3.out;go_num,by rw[hfk.out];exact hJs,hnx⟩
    case measure=>simp[intOf];omega
  ·obtain rfl:k=248:=by omega
   gi_wp2
   go_end0
   exact⟨⟨_,rfl⟩,.inl ⟨_,rfl,hJs⟩⟩
set_option maxHeartbeats 1000000 in
theorem freeF_in (F:Fence) (n:Nat) (hf:F.fn 111) (hro:F.round=none) (a b c d:Value) (w:World) :
  CallsIn F n Tryz.prog 111 #[.agg #[a,b,c,d]] w fun e w'=>e=.returned (.func (.func 126) #[] #[.pointer (some ⟨w.heap.size,0,none⟩)])∧w'=w.alloc (.cells #[a,b,c,d] 29):=by
 refine callsIn_of_wp Tryz.func111 rfl hf ?_ hro
 simp only[Tryz.ntmps111,List.size_toArray,List.length_cons,List.length_nil,Nat.reduceAdd,Nat.reduceSub,Array.replicate_succ,Array.replicate_zero,List.push_toArray,List.append_toArray,List.nil_append,List.cons_append]
 gi_wp2
 go_ret
 exact⟨rfl,rfl⟩
theorem freeC_stops (F:Fence) (n:Nat) (hf:F.fn 126) (hro:F.round=none) (hn:1≤n) (Bs n₀:Nat) (s:Rm) (ad bd:Addr) (cn cl:Nat) (cn1:256≤cn) (cl1:256≤cl) (hBn:Bs<n₀) (hab:ad.block<n₀) (hbb:bd.block<n₀)
  (w:World) (hn₀:n₀≤w.heap.size) (hb2:w.cell? ⟨Bs,2,none⟩=some (.slice (some ad) 256 cn)) (hb3:w.cell? ⟨Bs,3,none⟩=some (.slice (some bd) 256 cl))
  (hc:∀ j,j<256→w.cell? (ad.add j)=some (.int .u8 ((s.2.1[j]?.getD 0).toNat:Int))∧w.cell? (bd.add j)=some (.int .u8 ((s.2.2[j]?.getD 0).toNat:Int))) :
  SeqStopsK F n Tryz.prog 126 #[.pointer (some ⟨Bs,0,none⟩)] (fun x:Nat=>#[Value.int .i64 (x:Int)]) (Below n₀) (fun ys=>ys=freeL s) (fun pre=>∃ k,k<248∧freeAt s (8+k)=true∧pre=freeK s k++[8+k]) 248 w:=fun l J Jx W hW _ _ hY h0 =>
 freeC_in F n hf hro hn l Bs n₀ s ad bd cn cl cn1 cl1 hBn hab hbb J Jx hY W ((hW.cell (p:=⟨Bs,2,none⟩) (by show Bs<_;omega)).trans hb2) ((hW.cell (p:=⟨Bs,3,none⟩) (by show Bs<_;omega)).trans hb3)
  (fun j hj=>⟨(hW.cell (p:=ad.add j) (by rw[add_block];omega)).trans (hc j hj).1,(hW.cell (p:=bd.add j) (by rw[add_block];omega)).trans (hc j hj).2⟩) h0
theorem tables_at {w:World} {s:Rm} {N L:Option Addr} {cn cl:Nat} (hm:mayR s=true) (hN:rBy (Old w) w [.slice N s.2.1.length cn] s.2.1) (hL:rBy (Old w) w [.slice L s.2.2.length cl] s.2.2) :
  ∃ ad bd,N=some ad∧L=some bd∧s.2.1.length=256∧s.2.2.length=256∧256≤cn∧256≤cl∧ad.block<w.heap.size∧bd.block<w.heap.size∧(∀ j,j<256→w.cell? (ad.add j)=some (.int .u8 ((s.2.1[j]?.getD 0).toNat:Int))∧w.cell? (bd.add j)=some (.int .u8 ((s.2.2[j]?.getD 0).toNat:Int))):=by
 have hl1:=mayT_len (mayR_of hm).2.1
 have hl2:=mayT_len (mayR_of hm).2.2
 obtain⟨N',cn',e1,l1,_,hb1⟩:=rBy_byt (B:=w.heap.size) (fun _ h=>h) hN
 obtain⟨L',cl',e2,l2,_,hb2⟩:=rBy_byt (B:=w.heap.size) (fun _ h=>h) hL
 cases e1
 cases e2
 obtain⟨ad,rfl,h1,h2⟩:=hb1 (by omega)
 obtain⟨bd,rfl,h3,h4⟩:=hb2 (by omega)
 exact⟨ad,bd,rfl,rfl,hl1,hl2,by omega,by omega,h1,h3,fun j hj=>⟨h2 j (by omega),h4 j (by omega)⟩⟩
set_option maxRecDepth 100000 in
set_option maxHeartbeats 4000000 in
theorem firstR_in (F:Fence) (n:Nat) (h3:F.fn 90) (h5:F.fn 111) (h7:F.fn 126) (hro:F.round=none) (hn:3≤n)
  (v:Value) (s:Rm) (hm:mayR s=true) (w:World) (h:Sto (Old w) w v s) :
  CallsIn F n Tryz.prog 90 #[v] w fun e W'=>e=.returned (.tuple #[.int .i64 (tkK s:Int),.bool (!(freeL s).isEmpty)])∧Below w.heap.size w W':=by
 have h1:1≤n:=by omega
 obtain⟨A,ca,B,cb,N,cn,L,cl,rfl,hd,hN,hL⟩:=h.open
 obtain⟨ad,bd,rfl,rfl,hl1,hl2,l1,l2,had,hbd,hc⟩:=tables_at hm hN hL
 rw[hl1,hl2]
 clear hd hN hL h
 obtain⟨n1,hn1⟩:∃ n1,s.1.1.length=n1:=⟨_,rfl⟩
 obtain⟨n2,hn2⟩:∃ n2,s.1.2.length=n2:=⟨_,rfl⟩
 rw[hn1,hn2]
 clear hn1 hn2
 replace hl1:=Lib.hid hl1
 replace hl2:=Lib.hid hl2
 replace hc:=Lib.hid hc
 refine callsIn_of_wp_marks Tryz.func90 rfl h3 ?_ hro
 simp only[Tryz.ntmps90,List.size_toArray,List.length_cons,List.length_nil,Nat.reduceAdd,Nat.reduceSub,Array.replicate_succ,Array.replicate_zero,List.push_toArray,List.append_toArray,List.nil_append,List.cons_append]
 gi_wp2_with (gi_at_call 111;refine(freeF_in F (n-1) h5 hro _ _ _ _ _).mono ?_;rintro e w' ⟨rfl,rfl⟩)
 obtain⟨W0,hW0,hB0,hs0,b1,b1f,b2,b2f,k2,k3⟩:∃ W0,(((w.alloc (.cells #[.slice A n1 ca,.slice B n2 cb,.slice (some ad) 256 cn,.slice (some bd) 256 cl] 29)).alloc (.cells #[.int .i64 0] 3)).alloc (.cells #[.bool false] 4)).alloc (.cells #[.slice A n1 ca,.slice B n2 cb,.slice (some ad) 256 cn,.slice (some bd) 256 cl] 29)=W0∧Below w.heap.size w W0∧W0.heap.size=w.heap.size+4 ∧
   W0.cell? ⟨w.heap.size+1,0,none⟩=some (.int .i64 0)∧W0.frozen? ⟨w.heap.size+1,0,none⟩=false∧W0.cell? ⟨w.heap.size+1+1,0,none⟩=some (.bool false)∧W0.frozen? ⟨w.heap.size+1+1,0,none⟩=false∧W0.cell? ⟨w.heap.size+1+1+1,2,none⟩=some (.slice (some ad) 256 cn)∧W0.cell? ⟨w.heap.size+1+1+1,3,none⟩=some (.slice (some bd) 256 cl) :=
  ⟨_,rfl,((((Below.refl _ w).alloc (Nat.le_refl _) _).alloc (by simp) _).alloc (by simp;omega) _).alloc (by simp;omega) _,by simp,by go_simp,by go_simp,by go_simp,by go_simp,by go_simp,by go_simp⟩
 rw[hW0]
 clear hW0
 have hlo:w.heap.size≤W0.heap.size:=hB0.size
 refine wpIn_rangeFunc_ownF hro h1 (gf:=126) (lb:=#[.pointer (some ⟨w.heap.size+1+1+1,0,none⟩)]) rfl h7 (enters_of Tryz.func126 (by kernel_rfl) rfl)
  (freeC_stops F (n-1) h7 hro (by omega) (w.heap.size+1+1+1) W0.heap.size s ad bd cn cl l1 l2 (by omega) (by omega) (by omega) W0 (Nat.le_refl _) k2 k3 (fun j hj=>⟨(hB0.cell (p:=ad.add j) (by rw[add_block];exact had)).trans (hc.out j hj).1,(hB0.cell (p:=bd.add j) (by rw[add_block];exact hbd)).trans (hc.out j hj).2⟩))
  (fun h h'=>h.trans h') (fun W l o o' hl h1 h2 h3=>belowK_b (w:=W0) (Nat.le_refl _) W l o o' hl h1 h2 h3) (Below.refl _ _) (fun _=>rfl)
  (fun pre W=>(pre=[]∧W.cell? ⟨w.heap.size+1,0,none⟩=some (.int .i64 0)∧W.frozen? ⟨w.heap.size+1,0,none⟩=false∧W.cell? ⟨w.heap.size+1+1,0,none⟩=some (.bool false)∧W.frozen? ⟨w.heap.size+1+1,0,none⟩=false)∧Below w.heap.size w W)
  (fun cd pre W=>(cd=.ret∧∃ x:Nat,pre=[x]∧W.cell? ⟨w.heap.size+1,0,none⟩=some (.int .i64 (x:Int))∧W.cell? ⟨w.heap.size+1+1,0,none⟩=some (.bool true))∧Below w.heap.size w W)
  (OwnFrom.and (Own.from (fun s A B row hs hg hr=>⟨hs.1,cell_kept hs.2.1 hg hr,(frozen_kept hs.2.1 hg hr).trans hs.2.2.1,cell_kept hs.2.2.2.1 hg hr,(frozen_kept hs.2.2.2.1 hg hr).trans hs.2.2.2.2⟩) _) (ownFrom_below (Nat.le_refl _) hlo))
  (fun cd=>OwnFrom.and (Own.from (fun s A B row hs hg hr=>by
   obtain⟨e,x,e2,h1,h2⟩:=hs
   exact⟨e,x,e2,cell_kept h1 hg hr,cell_kept h2 hg hr⟩) _) (ownFrom_below (Nat.le_refl _) hlo))
  ⟨⟨rfl,b1,b1f,b2,b2f⟩,hB0⟩
  (fun x=>{ tmps:=#[.agg #[.slice A n1 ca,.slice B n2 cb,.slice (some ad) 256 cn,.slice (some bd) 256 cl],.pointer (some ⟨w.heap.size,0,none⟩),.pointer (some ⟨w.heap.size+1,0,none⟩),.pointer (some ⟨w.heap.size+1+1,0,none⟩),.int .i64 (x:Int),.agg #[.slice A n1 ca,.slice B n2 cb,.slice (some ad) 256 cn,.slice (some bd) 256 cl],
   .func (.func 126) #[] #[.pointer (some ⟨w.heap.size+1+1+1,0,none⟩)],.int .i64 (x:Int),undef],defers:=[] }) ?assign ?body ?done ?stop
 case assign =>
  intro l x W K hK
  gi_wp2
  exact hK
 case body =>
  rintro l pre x W ⟨⟨rfl,c1,f1,c2,f2⟩,hb⟩ _
  gi_wp2
  refine⟨(KeepsOthers.setCell _ _ _).trans (KeepsOthers.setCell _ _ _),⟨rfl,x,rfl,?_,?_⟩,(hb.setCell (p:=⟨w.heap.size+1,0,none⟩) (by simp) _).setCell (p:=⟨w.heap.size+1+1,0,none⟩) (by simp;omega) _⟩
  ·go_simp
  ·go_simp
 case done =>
  rintro D zs W hD rfl ⟨⟨hz,c1,f1,c2,f2⟩,hb⟩ hK
  have hk0:Hid (tkK s=0):=Lib.hid (by simp[tkK,hz])
  have hemp:Hid ((freeL s).isEmpty=true):=Lib.hid (by rw[hz];rfl)
  clear hz
  obtain⟨W2,hW2,d1,d2,hb2,hK2⟩:∃ W2,(W.setCell ⟨w.heap.size+1,0,none⟩ (.int .i64 0)).setCell ⟨w.heap.size+1+1,0,none⟩ (.bool false)=W2∧W2.cell? ⟨w.heap.size+1,0,none⟩=some (.int .i64 0)∧W2.cell? ⟨w.heap.size+1+1,0,none⟩=some (.bool false)∧Below w.heap.size w W2∧W2.heap[D]? = some (.deferred (some [])) :=
   ⟨_,rfl,by go_simp,by go_simp,(hb.setCell (p:=⟨w.heap.size+1,0,none⟩) (by simp) _).setCell (p:=⟨w.heap.size+1+1,0,none⟩) (by simp;omega) _,((KeepsOthers.setCell W ⟨w.heap.size+1,0,none⟩ (.int .i64 0)).trans (KeepsOthers.setCell _ ⟨w.heap.size+1+1,0,none⟩ (.bool false))).same D _ hK rfl⟩
  gi_wp2
  try rw[hW2]
  refine⟨by simp,.inl ⟨_,_,rfl,run_takeDeferred hK2,?_⟩⟩
  have hro':∀ r,some D=some r→∃ o:Obj,W2.heap[r]? = some o∧o.isCells=false:=fun r e=>by cases e;exact⟨_,hK2,rfl⟩
  have c1':=cell_kept d1 (grownBy_putObj' _ D (.deferred none)) hro'
  have c2':=cell_kept d2 (grownBy_putObj' _ D (.deferred none)) hro'
  refine⟨.tuple #[.int .i64 0,.bool false],?_,by rw[hk0.out,hemp.out];rfl,hb2.trans (belowK_b hlo _ D _ _ hD hK2 rfl rfl)⟩
  simp[results,Tryz.f90,go_sem,c1',c2']
 case stop =>
  rintro D cd pre W hD ⟨k,hk,hfr,hpk⟩ ⟨⟨rfl,x,rfl,c1,c2⟩,hb⟩ hK
  obtain⟨r,hr⟩:=freeL_at hk hfr
  have e2:freeK s k=[]∧8+k=x:=by
   cases hq:freeK s k with
   | nil=>rw[hq] at hpk;simp at hpk;exact⟨rfl,hpk.symm⟩
   | cons y q=>rw[hq] at hpk;simp at hpk
  rw[e2.1,e2.2] at hr
  have hk0:Hid (tkK s=x):=Lib.hid (by simp[tkK,hr])
  have hemp:Hid ((freeL s).isEmpty=false):=Lib.hid (by rw[hr];rfl)
  clear hr e2 hpk
  gi_wp2
  refine⟨by simp,.inl ⟨_,_,rfl,run_takeDeferred hK,?_⟩⟩
  have hro':∀ r,some D=some r→∃ o:Obj,W.heap[r]? = some o∧o.isCells=false:=fun r e=>by cases e;exact⟨_,hK,rfl⟩
  have c1':=cell_kept c1 (grownBy_putObj' _ D (.deferred none)) hro'
  have c2':=cell_kept c2 (grownBy_putObj' _ D (.deferred none)) hro'
  refine⟨.tuple #[.int .i64 (x:Int),.bool true],?_,by rw[hk0.out,hemp.out];rfl,hb.trans (belowK_b hlo _ D _ _ hD hK rfl rfl)⟩
  simp[results,Tryz.f90,go_sem,c1',c2']
theorem firstR_any (v:Value) (s:Rm) (hm:mayR s=true) (w:World) (h:Sto (Old w) w v s) :
  Calls Tryz.prog 90 #[v] w fun e W'=>e=.returned (.tuple #[.int .i64 (tkK s:Int),.bool (!(freeL s).isEmpty)])∧Below w.heap.size w W' :=
 callsIn_wide.1 (firstR_in Fence.wide 3 trivial trivial trivial rfl (Nat.le_refl _) v s hm w h)
end Go.Proofs.YtogieepfimpdmaaGreat
/-
 Package room: Take. Conditions: those that each lemma states.
-/
namespace Go.Proofs.YtogieepfimpdmaaGreat
open Go.RowKit
theorem box_sto2 {w:World} {v:Value} {s:Rm} (h:Sto (Old w) w v s):∃ A ca B cb N cn L cl w1,v=.agg #[.slice A s.1.1.length ca,.slice B s.1.2.length cb,.slice N s.2.1.length cn,.slice L s.2.2.length cl] ∧
  (w.alloc (.cells #[.slice A s.1.1.length ca,.slice B s.1.2.length cb,.slice N s.2.1.length cn,.slice L s.2.2.length cl] 29)).alloc (.cells #[.slice none 0 0,.slice none 0 0,.slice none 0 0,.slice none 0 0] 29)=w1 ∧
  w1.heap[w.heap.size]? = some (.cells #[.slice A s.1.1.length ca,.slice B s.1.2.length cb,.slice N s.2.1.length cn,.slice L s.2.2.length cl] 29 (0,0))∧w1.heap[w.heap.size+1]? = some (.cells #[.slice none 0 0,.slice none 0 0,.slice none 0 0,.slice none 0 0] 29 (0,0))∧w1.heap.size=w.heap.size+2∧Below w.heap.size w w1 ∧
  Hid (Sto (Old w1) w1 (.agg #[.slice A s.1.1.length ca,.slice B s.1.2.length cb,.slice N s.2.1.length cn,.slice L s.2.2.length cl]) s):=by
 obtain⟨A,ca,B,cb,N,cn,L,cl,rfl,_,_,_⟩:=h.open
 have hb:Below w.heap.size w ((w.alloc (.cells #[.slice A s.1.1.length ca,.slice B s.1.2.length cb,.slice N s.2.1.length cn,.slice L s.2.2.length cl] 29)).alloc (.cells #[.slice none 0 0,.slice none 0 0,.slice none 0 0,.slice none 0 0] 29)):=((Below.refl _ w).alloc (Nat.le_refl _) _).alloc (by simp) _
 refine⟨A,ca,B,cb,N,cn,L,cl,_,rfl,rfl,alloc_block (heap_alloc_new _ _),?_,by simp,hb,Lib.hid (h.below hb)⟩
 have:=heap_alloc_new (w.alloc (.cells #[.slice A s.1.1.length ca,.slice B s.1.2.length cb,.slice N s.2.1.length cn,.slice L s.2.2.length cl] 29)) (.cells #[.slice none 0 0,.slice none 0 0,.slice none 0 0,.slice none 0 0] 29)
 rwa [World.size_alloc] at this
theorem tk_write {s:Rm} {b:List UInt8} (hm:mayR s=true) (hb:b.length=128) (hl:freeL s≠[]):(8≤tkK s∧tkK s<256∧s.2.1[tkK s]?.getD 0=0∧wErr s.1 (tkK s:Int) b=(if 4096≤s.1.2.length then 9 else 0)):=by
 cases hf:freeL s with
 | nil=>exact absurd hf hl
 | cons k m =>
  obtain⟨h1,h2,h3,h4⟩:=free_in (s:=s) (i:=k) (by rw[hf];exact List.mem_cons_self)
  have hk:tkK s=k:=by simp[tkK,hf]
  rw[hk]
  refine⟨h1,h2,h3,?_⟩
  have hmd:=(mayR_of hm).1
  have h5:=(may_of hmd).2.1
  have h6:thereB (k:Int)=true:=thereB_of h2
  by_cases h7:4096≤s.1.2.length
  ·have h8:s.1.2.length=4096:=by omega
   simp[wErr,hmd,h6,hb,h8]
  ·have h8:s.1.2.length≠4096:=by omega
   simp[wErr,hmd,h6,hb,h8,h7]
set_option maxRecDepth 100000 in
set_option maxHeartbeats 4000000 in
theorem takeR_any (v u:Value) (s:Rm) (b:List UInt8) (w:World) (h:Sto (Old w) w v s) (hu:rBy (Old w) w [u] b) :
  Calls Tryz.prog 66 #[v,u] w fun e w'=>∃ t,e=.returned (.tuple #[t,.int .i64 (tkN s b),.int .i64 (tkE s b)])∧Sto (New w.heap.size w') w' t (tkV s b)∧Below w.heap.size w w':=by
 obtain⟨A,ca,B,cb,N,cn,L,cl,w1,rfl,hw1,f1,f2,hsz,hB,H⟩:=box_sto2 h
 obtain⟨E,ce,rfl,_⟩:=id (rBy_open hu)
 have U:=Lib.hid (stab_by.old hu hB)
 clear h hu
 obtain⟨k0,k1,k2,k3,_,kg⟩:=four_cells f1
 replace hsz:=Lib.hid hsz
 rcases tk_ways s b with ⟨hm,hE⟩ | ⟨hm,hlb,hE⟩ | ⟨hm,hlb,hfl,hE⟩ | ⟨hm,hlb,hfl,hfw,hE⟩ | ⟨hm,hlb,hfl,hfw,hE⟩
 ·replace hE:=Lib.hid hE
  have e1:=chkR_bad hm
  replace f2:=Lib.hid f2
  go_enter Tryz.func66,Tryz.ntmps66
  go_upto_region 1 with fail
  clear hw1
  go_wp2_with fail
  with_reducible refine(checkR_any _ s _ H.out).mono ?_
  rintro e w2 ⟨rfl,hb2⟩
  rw[e1]
  have F2:=(hb2.block (w.heap.size+1) (by rw[hsz.out];omega)).trans f2.out
  replace hb2:=Lib.hid (hB.trans (hb2.mono hB.size))
  obtain⟨k0,k1,k2,k3,k4,k5⟩:=four_cells F2
  obtain⟨W9,hW9,g9,gr9,gs9⟩:=put_four (a':=.slice none 0 0) (b':=.slice none 0 0) (c':=.slice none 0 0) (d':=.slice none 0 0) F2
  obtain⟨n0,n1,n2,n3,_,_⟩:=four_cells g9
  have hB9:=Lib.hid ((hb2).out.grown gr9 (hb2).out.size (fun q e=>by cases e;omega))
  replace g9:=Lib.hid g9
  replace F2:=Lib.hid F2
  clear gr9 gs9
  go_wp2_with fail
  refine bodyPost_ret (v:=.tuple #[.agg #[.slice none 0 0,.slice none 0 0,.slice none 0 0,.slice none 0 0],.int .i64 0,.int .i64 8]) (by simp[results,Tryz.results66,go_sem,n0,n1,n2,n3]) rfl ?_
  obtain⟨hN,hV⟩:=tk_no (s:=s) (b:=b) (by rw[hE.out];decide)
  rw[hN,hV,hE.out]
  exact⟨_,rfl,sto_empty _ _,hB9.out⟩
 ·replace hE:=Lib.hid hE
  have e1:=chkR_ok hm
  have e2:((b.length:Int) != 128)=true:=by simp;omega
  replace f2:=Lib.hid f2
  go_enter Tryz.func66,Tryz.ntmps66
  go_upto_region 1 with fail
  clear hw1
  go_wp2_with fail
  with_reducible refine(checkR_any _ s _ H.out).mono ?_
  rintro e w2 ⟨rfl,hb2⟩
  rw[e1]
  have G2:=(hb2.block w.heap.size kg).trans f1
  obtain⟨m0,m1,m2,m3,_,mg⟩:=four_cells G2
  have F2:=(hb2.block (w.heap.size+1) (by rw[hsz.out];omega)).trans f2.out
  have H2:=Lib.hid (H.out.below hb2)
  have U2:=Lib.hid (stab_by.old U.out hb2)
  have s2:Hid (w.heap.size+2≤w2.heap.size):=Lib.hid (by have:=hb2.size;have:=hsz.out;omega)
  replace hb2:=Lib.hid (hB.trans (hb2.mono hB.size))
  replace G2:=Lib.hid G2
  replace F2:=Lib.hid F2
  clear k0 k1 k2 k3 kg f1 hB
  replace F2:=F2.out
  obtain⟨k0,k1,k2,k3,k4,k5⟩:=four_cells F2
  obtain⟨W9,hW9,g9,gr9,gs9⟩:=put_four (a':=.slice none 0 0) (b':=.slice none 0 0) (c':=.slice none 0 0) (d':=.slice none 0 0) F2
  obtain⟨n0,n1,n2,n3,_,_⟩:=four_cells g9
  have hB9:=Lib.hid ((hb2).out.grown gr9 (hb2).out.size (fun q e=>by cases e;omega))
  replace g9:=Lib.hid g9
  replace F2:=Lib.hid F2
  clear gr9 gs9
  go_wp2_with fail
  refine bodyPost_ret (v:=.tuple #[.agg #[.slice none 0 0,.slice none 0 0,.slice none 0 0,.slice none 0 0],.int .i64 0,.int .i64 3]) (by simp[results,Tryz.results66,go_sem,n0,n1,n2,n3]) rfl ?_
  obtain⟨hN,hV⟩:=tk_no (s:=s) (b:=b) (by rw[hE.out];decide)
  rw[hN,hV,hE.out]
  exact⟨_,rfl,sto_empty _ _,hB9.out⟩
 ·replace hE:=Lib.hid hE
  have e1:=chkR_ok hm
  have e2:((b.length:Int) != 128)=false:=by rw[hlb];rfl
  have hemp:(!(freeL s).isEmpty)=false:=by rw[hfl];rfl
  replace f2:=Lib.hid f2
  replace hlb:=Lib.hid hlb
  replace hfl:=Lib.hid hfl
  go_enter Tryz.func66,Tryz.ntmps66
  go_upto_region 1 with fail
  clear hw1
  go_wp2_with fail
  with_reducible refine(checkR_any _ s _ H.out).mono ?_
  rintro e w2 ⟨rfl,hb2⟩
  rw[e1]
  have G2:=(hb2.block w.heap.size kg).trans f1
  obtain⟨m0,m1,m2,m3,_,mg⟩:=four_cells G2
  have F2:=(hb2.block (w.heap.size+1) (by rw[hsz.out];omega)).trans f2.out
  have H2:=Lib.hid (H.out.below hb2)
  have U2:=Lib.hid (stab_by.old U.out hb2)
  have s2:Hid (w.heap.size+2≤w2.heap.size):=Lib.hid (by have:=hb2.size;have:=hsz.out;omega)
  replace hb2:=Lib.hid (hB.trans (hb2.mono hB.size))
  replace G2:=Lib.hid G2
  replace F2:=Lib.hid F2
  clear k0 k1 k2 k3 kg f1 hB
  go_wp2_with fail
  with_reducible refine(firstR_any _ s hm _ H2.out).mono ?_
  rintro e w3 ⟨rfl,hb3⟩
  rw[hemp]
  have G3:=(hb3.block w.heap.size mg).trans G2.out
  obtain⟨k0,k1,k2,k3,_,kg⟩:=four_cells G3
  have F3:=(hb3.block (w.heap.size+1) (by have:=s2.out;omega)).trans F2.out
  have H3:=Lib.hid (H2.out.below hb3)
  have U3:=Lib.hid (stab_by.old U2.out hb3)
  have s3:Hid (w.heap.size+2≤w3.heap.size):=Lib.hid (by have:=hb3.size;have:=s2.out;omega)
  replace hb3:=Lib.hid (hb2.out.trans (hb3.mono hb2.out.size))
  replace G3:=Lib.hid G3
  clear m0 m1 m2 m3 mg G2 F2 H2 U2 hb2
  obtain⟨k0,k1,k2,k3,k4,k5⟩:=four_cells F3
  obtain⟨W9,hW9,g9,gr9,gs9⟩:=put_four (a':=.slice none 0 0) (b':=.slice none 0 0) (c':=.slice none 0 0) (d':=.slice none 0 0) F3
  obtain⟨n0,n1,n2,n3,_,_⟩:=four_cells g9
  have hB9:=Lib.hid ((hb3).out.grown gr9 (hb3).out.size (fun q e=>by cases e;omega))
  replace g9:=Lib.hid g9
  replace F3:=Lib.hid F3
  clear gr9 gs9
  go_wp2_with fail
  refine bodyPost_ret (v:=.tuple #[.agg #[.slice none 0 0,.slice none 0 0,.slice none 0 0,.slice none 0 0],.int .i64 0,.int .i64 9]) (by simp[results,Tryz.results66,go_sem,n0,n1,n2,n3]) rfl ?_
  obtain⟨hN,hV⟩:=tk_no (s:=s) (b:=b) (by rw[hE.out];decide)
  rw[hN,hV,hE.out]
  exact⟨_,rfl,sto_empty _ _,hB9.out⟩
 ·replace hE:=Lib.hid hE
  have e1:=chkR_ok hm
  have e2:((b.length:Int) != 128)=false:=by rw[hlb];rfl
  have hemp:(!(freeL s).isEmpty)=true:=by cases hq:freeL s with
   | nil=>exact absurd hq hfl
   | cons k m=>rfl
  obtain⟨h8,h256,h0,hwe⟩:=tk_write hm hlb hfl
  rw[if_pos hfw] at hwe
  obtain⟨k,hk⟩:∃ k,tkK s=k:=⟨_,rfl⟩
  obtain⟨R,hR⟩:∃ R,wrR s.1 (k:Int) b=R:=⟨_,rfl⟩
  rw[hk] at h8 h256 hwe
  replace f2:=Lib.hid f2
  replace hlb:=Lib.hid hlb
  replace hfl:=Lib.hid hfl
  replace hk:=Lib.hid hk
  replace hR:=Lib.hid hR
  replace hwe:=Lib.hid hwe
  go_enter Tryz.func66,Tryz.ntmps66
  go_upto_region 1 with fail
  clear hw1
  go_wp2_with fail
  with_reducible refine(checkR_any _ s _ H.out).mono ?_
  rintro e w2 ⟨rfl,hb2⟩
  rw[e1]
  have G2:=(hb2.block w.heap.size kg).trans f1
  obtain⟨m0,m1,m2,m3,_,mg⟩:=four_cells G2
  have F2:=(hb2.block (w.heap.size+1) (by rw[hsz.out];omega)).trans f2.out
  have H2:=Lib.hid (H.out.below hb2)
  have U2:=Lib.hid (stab_by.old U.out hb2)
  have s2:Hid (w.heap.size+2≤w2.heap.size):=Lib.hid (by have:=hb2.size;have:=hsz.out;omega)
  replace hb2:=Lib.hid (hB.trans (hb2.mono hB.size))
  replace G2:=Lib.hid G2
  replace F2:=Lib.hid F2
  clear k0 k1 k2 k3 kg f1 hB
  go_wp2_with fail
  with_reducible refine(firstR_any _ s hm _ H2.out).mono ?_
  rintro e w3 ⟨rfl,hb3⟩
  rw[hemp]
  have G3:=(hb3.block w.heap.size mg).trans G2.out
  obtain⟨k0,k1,k2,k3,_,kg⟩:=four_cells G3
  have F3:=(hb3.block (w.heap.size+1) (by have:=s2.out;omega)).trans F2.out
  have H3:=Lib.hid (H2.out.below hb3)
  have U3:=Lib.hid (stab_by.old U2.out hb3)
  have s3:Hid (w.heap.size+2≤w3.heap.size):=Lib.hid (by have:=hb3.size;have:=s2.out;omega)
  replace hb3:=Lib.hid (hb2.out.trans (hb3.mono hb2.out.size))
  replace G3:=Lib.hid G3
  clear m0 m1 m2 m3 mg G2 F2 H2 U2 hb2
  rw[hk.out]
  replace F3:=Lib.hid F3
  go_wp2_with fail
  with_reducible refine(write_new _ _ s.1 (k:Int) b _ H3.out.parts.1 U3.out).mono ?_
  rintro e w4 ⟨A4,c4,B4,d4,rfl,_,hb4⟩
  rw[hwe.out,hR.out]
  have F4:=(hb4.block (w.heap.size+1) (by have:=s3.out;omega)).trans F3.out
  obtain⟨w5,hw5,g5,hs5,hb5⟩:=box_pair' w4 (.slice A4 R.1.length c4) (.slice B4 R.2.length d4) 26
  have F5:=(hb5.block (w.heap.size+1) (by have:=s3.out;have:=hb4.size;omega)).trans F4
  have B5:=Lib.hid (hb3.out.trans ((hb4.trans (hb5.mono hb4.size)).mono hb3.out.size))
  replace F4:=Lib.hid F4
  replace g5:=Lib.hid g5
  replace hs5:=Lib.hid hs5
  clear hb4 hb5
  go_upto_region 10 with fail
  clear hw5
  obtain⟨k0,k1,k2,k3,k4,k5⟩:=four_cells F5
  obtain⟨W9,hW9,g9,gr9,gs9⟩:=put_four (a':=.slice none 0 0) (b':=.slice none 0 0) (c':=.slice none 0 0) (d':=.slice none 0 0) F5
  obtain⟨n0,n1,n2,n3,_,_⟩:=four_cells g9
  have hB9:=Lib.hid ((B5).out.grown gr9 (B5).out.size (fun q e=>by cases e;omega))
  replace g9:=Lib.hid g9
  replace F5:=Lib.hid F5
  clear gr9 gs9
  go_wp2_with fail
  refine bodyPost_ret (v:=.tuple #[.agg #[.slice none 0 0,.slice none 0 0,.slice none 0 0,.slice none 0 0],.int .i64 0,.int .i64 9]) (by simp[results,Tryz.results66,go_sem,n0,n1,n2,n3]) rfl ?_
  obtain⟨hN,hV⟩:=tk_no (s:=s) (b:=b) (by rw[hE.out];decide)
  rw[hN,hV,hE.out]
  exact⟨_,rfl,sto_empty _ _,hB9.out⟩
 ·replace hE:=Lib.hid hE
  have e1:=chkR_ok hm
  have e2:((b.length:Int) != 128)=false:=by rw[hlb];rfl
  have hemp:(!(freeL s).isEmpty)=true:=by cases hq:freeL s with
   | nil=>exact absurd hq hfl
   | cons k m=>rfl
  obtain⟨h8,h256,h0,hwe⟩:=tk_write hm hlb hfl
  rw[if_neg (by omega)] at hwe
  have hV:Hid (tkV s b=(wrR s.1 (tkK s:Int) b,s.2.1.set (tkK s) 1,s.2.2)):=Lib.hid (by
   rw[(tk_ok hE.out).2.2.2.2.2.2.2.2.2,wrR_nat hwe])
  have hT:Hid (tkN s b=(tkK s:Int)):=Lib.hid (tk_ok hE.out).2.2.2.2.2.2.2.2.1
  obtain⟨k,hk⟩:∃ k,tkK s=k:=⟨_,rfl⟩
  obtain⟨R,hR⟩:∃ R,wrR s.1 (k:Int) b=R:=⟨_,rfl⟩
  rw[hk] at h8 h256 hwe hV hT h0
  rw[hR] at hV
  obtain⟨hu0,hu1⟩:=up_ok (mayR_of hm).2.1 h8 h256 (by rw[h0];decide)
  rw[h0,show (0:UInt8)+1=1 from rfl] at hu1
  obtain⟨T,hT2⟩:∃ T,s.2.1.set k 1=T:=⟨_,rfl⟩
  rw[hT2] at hu1 hV
  have hll:=mayT_len (mayR_of hm).2.2
  replace f2:=Lib.hid f2
  replace hlb:=Lib.hid hlb
  replace hfl:=Lib.hid hfl
  replace hk:=Lib.hid hk
  replace hR:=Lib.hid hR
  replace hwe:=Lib.hid hwe
  replace hu0:=Lib.hid hu0
  replace hu1:=Lib.hid hu1
  replace hT2:=Lib.hid hT2
  replace hll:=Lib.hid hll
  replace h0:=Lib.hid h0
  go_enter Tryz.func66,Tryz.ntmps66
  go_upto_region 1 with fail
  clear hw1
  go_wp2_with fail
  with_reducible refine(checkR_any _ s _ H.out).mono ?_
  rintro e w2 ⟨rfl,hb2⟩
  rw[e1]
  have G2:=(hb2.block w.heap.size kg).trans f1
  obtain⟨m0,m1,m2,m3,_,mg⟩:=four_cells G2
  have F2:=(hb2.block (w.heap.size+1) (by rw[hsz.out];omega)).trans f2.out
  have H2:=Lib.hid (H.out.below hb2)
  have U2:=Lib.hid (stab_by.old U.out hb2)
  have s2:Hid (w.heap.size+2≤w2.heap.size):=Lib.hid (by have:=hb2.size;have:=hsz.out;omega)
  replace hb2:=Lib.hid (hB.trans (hb2.mono hB.size))
  replace G2:=Lib.hid G2
  replace F2:=Lib.hid F2
  clear k0 k1 k2 k3 kg f1 hB
  go_wp2_with fail
  with_reducible refine(firstR_any _ s hm _ H2.out).mono ?_
  rintro e w3 ⟨rfl,hb3⟩
  rw[hemp]
  have G3:=(hb3.block w.heap.size mg).trans G2.out
  obtain⟨k0,k1,k2,k3,_,kg⟩:=four_cells G3
  have F3:=(hb3.block (w.heap.size+1) (by have:=s2.out;omega)).trans F2.out
  have H3:=Lib.hid (H2.out.below hb3)
  have U3:=Lib.hid (stab_by.old U2.out hb3)
  have s3:Hid (w.heap.size+2≤w3.heap.size):=Lib.hid (by have:=hb3.size;have:=s2.out;omega)
  replace hb3:=Lib.hid (hb2.out.trans (hb3.mono hb2.out.size))
  replace G3:=Lib.hid G3
  clear m0 m1 m2 m3 mg G2 F2 H2 U2 hb2
  rw[hk.out]
  replace F3:=Lib.hid F3
  go_wp2_with fail
  with_reducible refine(write_new _ _ s.1 (k:Int) b _ H3.out.parts.1 U3.out).mono ?_
  rintro e w4 ⟨A4,c4,B4,d4,rfl,hd4,hb4⟩
  rw[hwe.out,hR.out]
  rw[hR.out] at hd4
  have F4:=(hb4.block (w.heap.size+1) (by have:=s3.out;omega)).trans F3.out
  have G4:=(hb4.block w.heap.size kg).trans G3.out
  obtain⟨w5,hw5,g5,hs5,hb5⟩:=box_pair' w4 (.slice A4 R.1.length c4) (.slice B4 R.2.length d4) 26
  have F5:=Lib.hid ((hb5.block (w.heap.size+1) (by have:=s3.out;have:=hb4.size;omega)).trans F4)
  have G5:=(hb5.block w.heap.size (by have:=s3.out;have:=hb4.size;omega)).trans G4
  have H5:=Lib.hid ((H3.out.below hb4).below hb5)
  have D5:=Lib.hid (hd4.new (Nat.le_refl _) hb5)
  have s5:Hid (w4.heap.size+1=w5.heap.size∧w.heap.size+2≤w4.heap.size):=Lib.hid ⟨by omega,by have:=s3.out;have:=hb4.size;omega⟩
  have B5:=Lib.hid (hb3.out.trans ((hb4.trans (hb5.mono hb4.size)).mono hb3.out.size))
  obtain⟨m0,m1,m2,m3,_,mg⟩:=four_cells G5
  replace F4:=Lib.hid F4
  replace g5:=Lib.hid g5
  replace hs5:=Lib.hid hs5
  replace G5:=Lib.hid G5
  clear hb4 hb5 G4 k0 k1 k2 k3 hd4 H3 U3 G3
  go_upto_region 10 with fail
  clear hw5
  go_wp2_with fail
  with_reducible refine(up_open _ s.2.1 (k:Int) _ H5.out.parts.2.1).mono ?_
  rintro e w6 ⟨E6,c6,rfl,h6,hb6⟩
  rw[hu0.out,hu1.out]
  rw[hu1.out] at h6
  have F6:=Lib.hid ((hb6.block (w.heap.size+1) (by have:=s5.out;omega)).trans F5.out)
  have G6:=(hb6.block w.heap.size mg).trans G5.out
  have P6:=(hb6.block w4.heap.size (by have:=s5.out;omega)).trans g5.out
  have H6:=Lib.hid (H5.out.below hb6)
  have D6:=Lib.hid (D5.out.new (Nat.le_refl _) hb6)
  have T6:=Lib.hid h6
  have B6:=Lib.hid (B5.out.trans (hb6.mono B5.out.size))
  have s6:Hid (w.heap.size+2≤w6.heap.size):=Lib.hid (by have:=s5.out;have:=hb6.size;omega)
  clear hb6 h6 m0 m1 m2 m3
  obtain⟨m0,m1,m2,m3,_,mg⟩:=four_cells G6
  obtain⟨p0,p1,_,pg⟩:=two_cells P6
  replace G6:=Lib.hid G6
  replace P6:=Lib.hid P6
  have hcl:Hid (∀ W,Below w6.heap.size w6 W→Calls Tryz.prog 52 #[.slice L s.2.2.length cl] W fun e W'=>∃ X xc,e=.returned (.slice X s.2.2.length xc)∧rBy (New w6.heap.size W') W' [.slice X s.2.2.length xc] s.2.2∧Below w6.heap.size w6 W'):=Lib.hid fun W hC=>by
   refine(clone_by _ s.2.2 W (by rw[hll.out];omega) (stab_by.old H6.out.parts.2.2 hC)).mono ?_
   rintro e W' ⟨u,rfl,hx,hb⟩
   obtain⟨X,xc,rfl,_⟩:=id (rBy_open hx)
   exact⟨X,xc,rfl,stab_by.mono hx hC.size,hC.trans (hb.mono hC.size)⟩
  go_upto_region 15 with fail
  have hdr:Below w6.heap.size w6 w6.drew:=(Below.refl _ _).drew
  go_region_with (first
   | (go_at_call 52;refine(hcl.out _ hdr).mono ?_;rintro e' wm ⟨X,xc,rfl,hx,hw⟩;have bW:=(hw.block (w.heap.size+1) (by have:=s6.out;omega)).trans F6.out;obtain⟨y0,y1,_,_⟩:=two_cells ((hw.block w4.heap.size pg).trans P6.out);obtain⟨c0,c1,c2,c3,c4',_⟩:=four_cells bW))
  all_goals
   (go_wp2_with fail
    obtain⟨W9,hW9,g9,gr9,gs9⟩:=put_four (a':=.slice A4 R.1.length c4) (b':=.slice B4 R.2.length d4) (c':=.slice E6 T.length c6) (d':=.slice X s.2.2.length xc) bW
    obtain⟨n0,n1,n2,n3,_,_⟩:=four_cells g9
    rw[hW9]
    have BW:=B6.out.trans (hw.mono B6.out.size)
    have l3:=hb3.out.size
    have l5:=B5.out.size
    have l6:=B6.out.size
    have r3:=s3.out
    have r5:=s5.out
    have r6:=s6.out
    refine bodyPost_ret (v:=.tuple #[.agg #[.slice A4 R.1.length c4,.slice B4 R.2.length d4,.slice E6 T.length c6,.slice X s.2.2.length xc],.int .i64 (k:Int),.int .i64 0]) (by simp[results,Tryz.results66,go_sem,n0,n1,n2,n3]) rfl ?_
    rw[hT.out,hV.out,hE.out]
    exact⟨_,rfl,Sto.mk (((D6.out.new (Nat.le_refl _) hw).grown gr9 (fun q e=>by cases e;omega)).new l3 (Below.refl _ _)) (stab_by.new (stab_by.grown (stab_by.new T6.out (Nat.le_refl _) hw) gr9 (fun q e=>by cases e;omega)) l5 (Below.refl _ _)) (stab_by.new (stab_by.grown hx gr9 (fun q e=>by cases e;omega)) l6 (Below.refl _ _)),BW.grown gr9 BW.size (fun q e=>by cases e;omega)⟩)
end Go.Proofs.YtogieepfimpdmaaGreat
/-
 Package room: Node. Conditions: those that each lemma states.
-/
namespace Go.Proofs.YtogieepfimpdmaaGreat
open Go.RowKit
noncomputable def rmE (s:Rm) (n:Int):Int:=if asE s n=0 then reN (seenD s.1 n.toNat) else asE s n
noncomputable def rmV (s:Rm) (n:Int):Nd:=if asE s n=0 then reV (seenD s.1 n.toNat) else zeroN
theorem rm_bad {s:Rm} {n:Int} (h:asE s n≠0):rmE s n=asE s n∧rmV s n=zeroN:=⟨by rw[rmE,if_neg h],by rw[rmV,if_neg h]⟩
theorem as_read {s:Rm} {n:Int} (h:asE s n=0):∃ k:Nat,n=k∧mayR s=true∧8≤k∧k<256∧chkAt s.1 n=0∧rdX s.1 n=seenD s.1 k∧rmE s n=reN (seenD s.1 k)∧rmV s n=reV (seenD s.1 k)∧s.2.1[k]?.getD 0≠0:=by
 rcases as_ways s n with ⟨_,e⟩ | ⟨_,_,e⟩ | ⟨k,_,_,_,_,_,e⟩ | ⟨k,hm,rfl,h8,h256,hx,e⟩
 ·rw[e] at h;cases h
 ·rw[e] at h;cases h
 ·rw[e] at h;cases h
 ·have hmd:=(mayR_of hm).1
  have ht:=thereB_of h256
  exact⟨k,rfl,hm,h8,h256,by simp[chkAt,hmd,ht],by simp[rdX,chkAt,hmd,ht],by rw[rmE,if_pos h];rfl,by rw[rmV,if_pos h];rfl,hx⟩
set_option maxRecDepth 100000 in
set_option maxHeartbeats 4000000 in
theorem nodeR_own (v:Value) (s:Rm) (n:Int) (w:World) (h:Sto (Old w) w v s) :
  Calls Tryz.prog 13 #[v,.int .i64 n] w fun e w'=>∃ u,e=.returned (.tuple #[u,.int .i64 (rmE s n)])∧NodR w.heap.size w' u (rmV s n)∧Below w.heap.size w w':=by
 obtain⟨A,ca,B,cb,N,cn,L,cl,rfl,_,_,_⟩:=h.open
 obtain⟨w1,hw1,f1,f2,hsz,hB⟩:∃ w1,(w.alloc (.cells #[.slice A s.1.1.length ca,.slice B s.1.2.length cb,.slice N s.2.1.length cn,.slice L s.2.2.length cl] 29)).alloc (.cells #[.int .i64 0,.slice none 0 0] 45)=w1 ∧
   w1.heap[w.heap.size]? = some (.cells #[.slice A s.1.1.length ca,.slice B s.1.2.length cb,.slice N s.2.1.length cn,.slice L s.2.2.length cl] 29 (0,0))∧w1.heap[w.heap.size+1]? = some (.cells #[.int .i64 0,.slice none 0 0] 45 (0,0))∧w1.heap.size=w.heap.size+2∧Below w.heap.size w w1:=by
  refine⟨_,rfl,alloc_block (heap_alloc_new _ _),?_,by simp,((Below.refl _ w).alloc (Nat.le_refl _) _).alloc (by simp) _⟩
  have:=heap_alloc_new (w.alloc (.cells #[.slice A s.1.1.length ca,.slice B s.1.2.length cb,.slice N s.2.1.length cn,.slice L s.2.2.length cl] 29)) (.cells #[.int .i64 0,.slice none 0 0] 45)
  rwa [World.size_alloc] at this
 have H:=Lib.hid (h.below hB)
 clear h
 obtain⟨k0,k1,k2,k3,_,kg⟩:=four_cells f1
 replace hsz:=Lib.hid hsz
 replace f2:=Lib.hid f2
 obtain⟨q,hq⟩:∃ q,rmE s n=q:=⟨_,rfl⟩
 by_cases ha:asE s n=0
 ·obtain⟨k,rfl,hm,h8,h256,hck,hrd,hE,hV,-⟩:=as_read ha
  obtain⟨b,hb⟩:∃ b,seenD s.1 k=b:=⟨_,rfl⟩
  rw[hb] at hrd hE hV
  rw[hE] at hq
  replace hE:Hid (rmE s (k:Int)=q):=Lib.hid (by rw[hE,hq])
  replace hq:=Lib.hid hq
  replace ha:=Lib.hid ha
  replace hck:=Lib.hid hck
  replace hrd:=Lib.hid hrd
  replace hV:=Lib.hid hV
  replace hb:=Lib.hid hb
  go_enter Tryz.func13,Tryz.ntmps13
  go_upto_region 1 with fail
  clear hw1
  go_wp2_with fail
  with_reducible refine(checkTakenR_any _ s (k:Int) _ H.out).mono ?_
  rintro e w2 ⟨rfl,hb2⟩
  rw[ha.out]
  have G2:=(hb2.block w.heap.size kg).trans f1
  obtain⟨m0,m1,m2,m3,_,mg⟩:=four_cells G2
  have F2:=Lib.hid ((hb2.block (w.heap.size+1) (by rw[hsz.out];omega)).trans f2.out)
  have H2:=Lib.hid (H.out.below hb2)
  have s2:Hid (w.heap.size+2≤w2.heap.size):=Lib.hid (by have:=hb2.size;have:=hsz.out;omega)
  replace hb2:=Lib.hid (hB.trans (hb2.mono hB.size))
  clear k0 k1 k2 k3 kg f1 hB G2
  go_wp2_with fail
  with_reducible refine(read_all _ s.1 (k:Int) _ H2.out.parts.1).mono ?_
  rintro e w3 ⟨u3,rfl,h3,hb3⟩
  rw[hck.out]
  rw[hrd.out] at h3
  obtain⟨R,rc,rfl,_⟩:=id (rBy_open h3)
  have F3:=Lib.hid ((hb3.block (w.heap.size+1) (by have:=s2.out;omega)).trans F2.out)
  have B3:=Lib.hid (hb2.out.trans (hb3.mono hb2.out.size))
  have s3:Hid (w.heap.size+2≤w3.heap.size):=Lib.hid (by have:=hb3.size;have:=s2.out;omega)
  have H3:=Lib.hid (stab_by.drop h3)
  clear hb3 h3 m0 m1 m2 m3 mg F2
  go_wp2_with fail
  with_reducible refine(nodeRead_own _ b _ H3.out).mono ?_
  rintro e w4 ⟨u4,rfl,h4,hb4⟩
  rw[hq.out]
  obtain⟨P,pc,rfl,_⟩:=id h4
  have F4:=(hb4.block (w.heap.size+1) (by have:=s3.out;omega)).trans F3.out
  obtain⟨m0,m1,m2,m3⟩:=two_cells F4
  obtain⟨W9,hW9,g9,gr9,gs9⟩:=put_two (u:=.int .i64 (reV b).1) (v:=.slice P (reV b).2.length pc) F4
  obtain⟨n0,n1,_,_⟩:=two_cells g9
  have r3:=s3.out
  have l3:=B3.out.size
  have hfin:=Lib.hid (show NodR w.heap.size W9 (.agg #[.int .i64 (reV b).1,.slice P (reV b).2.length pc]) (rmV s (k:Int)) from by
   rw[hV.out]
   exact(h4.grown gr9 (fun q e=>by cases e;omega)).new l3 (Below.refl _ _))
  have hB9:=Lib.hid ((B3.out.trans (hb4.mono B3.out.size)).grown gr9 (Nat.le_trans l3 hb4.size) (fun q e=>by cases e;omega))
  replace F4:=Lib.hid F4
  replace g9:=Lib.hid g9
  clear gr9 gs9 h4 hb4 r3 l3
  go_wp2_with fail
  refine bodyPost_ret (v:=.tuple #[.agg #[.int .i64 (reV b).1,.slice P (reV b).2.length pc],.int .i64 q]) (by simp[results,Tryz.results13,go_sem,n0,n1]) rfl ?_
  rw[hE.out]
  exact⟨_,rfl,hfin.out,hB9.out⟩
 ·obtain⟨hE,hV⟩:=rm_bad ha
  rw[hE] at hq
  have hq1:(q != 0)=true:=by rw[← hq];simpa using ha
  have hq2:Hid (asE s n=q):=Lib.hid hq
  replace hq:Hid (rmE s n=q):=Lib.hid (by rw[hE];exact hq)
  replace hV:=Lib.hid hV
  clear ha hE
  go_enter Tryz.func13,Tryz.ntmps13
  go_upto_region 1 with fail
  clear hw1
  go_wp2_with fail
  with_reducible refine(checkTakenR_any _ s n _ H.out).mono ?_
  rintro e w2 ⟨rfl,hb2⟩
  rw[hq2.out]
  have F2:=(hb2.block (w.heap.size+1) (by rw[hsz.out];omega)).trans f2.out
  replace hb2:=Lib.hid (hB.trans (hb2.mono hB.size))
  obtain⟨m0,m1,m2,m3⟩:=two_cells F2
  obtain⟨W9,hW9,g9,gr9,gs9⟩:=put_two (u:=.int .i64 0) (v:=.slice none 0 0) F2
  obtain⟨n0,n1,_,_⟩:=two_cells g9
  have hB9:=Lib.hid ((hb2).out.grown gr9 (hb2).out.size (fun q e=>by cases e;omega))
  replace g9:=Lib.hid g9
  replace F2:=Lib.hid F2
  clear gr9 gs9
  go_wp2_with fail
  refine bodyPost_ret (v:=.tuple #[.agg #[.int .i64 0,.slice none 0 0],.int .i64 q]) (by simp[results,Tryz.results13,go_sem,n0,n1]) rfl ?_
  rw[hV.out,hq.out]
  exact⟨_,rfl,NodR.zero _ _,hB9.out⟩
theorem nodeR_any (v:Value) (s:Rm) (n:Int) (w:World) (h:Sto (Old w) w v s) :
  Calls Tryz.prog 13 #[v,.int .i64 n] w fun e w'=>∃ u,e=.returned (.tuple #[u,.int .i64 (rmE s n)])∧Nod (New w.heap.size w') w' u (rmV s n)∧Below w.heap.size w w' :=
 (nodeR_own v s n w h).mono fun _ _ ⟨u,e1,h1,h2⟩=>⟨u,e1,h1.nod,h2⟩
end Go.Proofs.YtogieepfimpdmaaGreat
/-
 Trees,plain: which may be,their items,what is found in them. Conditions: those that each lemma states.
-/
namespace Go.Proofs.YtogieepfimpdmaaGreat
open Go.RowKit
def keyZ:Ky:=(0,0,0)
def leafO (s:Rm) (l:List It):Bool:=l.all fun x=>decide (x.2.1=0)||decide (s.2.1[x.2.1.toNat]?.getD 0≠0)
def itsO (f:Int→Ky→Ky→Bool→Bool):List It→Ky→Bool→Bool
 | [],_,_=>true
 | [x],tb,ends=>f x.2.1 x.1 tb ends
 | x::y::r,tb,ends=>f x.2.1 x.1 y.1 true&&itsO f (y::r) tb ends
def headO (l:List It) (k tb:Ky) (ends:Bool):Bool:=(match l[0]? with | none=>false | some x=>decide (x.1=k))&&(!ends||(match l.getLast? with | none=>false | some y=>lessK y.1 tb))
noncomputable def rightO (s:Rm):Nat→Int→Ky→Ky→Bool→Bool
 | 0,a,k,tb,ends=>(decide (rmE s a=0)&&decide ((rmV s a).1=0))&&(headO (rmV s a).2 k tb ends&&leafO s (rmV s a).2)
 | l+1,a,k,tb,ends=>(decide (rmE s a=0)&&decide ((rmV s a).1=((l+1:Nat):Int)))&&(headO (rmV s a).2 k tb ends&&itsO (rightO s l) (rmV s a).2 tb ends)
noncomputable def innerO (s:Rm) (n:Nd) (tb:Ky) (ends:Bool):Bool:=match n.1.toNat with
 | 0=>leafO s n.2
 | l+1=>itsO (rightO s l) n.2 tb ends
noncomputable def treeO (s:Rm) (a:Int):Bool:=decide (rmE s a=0)&&innerO s (rmV s a) keyZ false
noncomputable def ckE (s:Rm) (a:Int):Int:=if asE s a=0 then (if treeO s a then 0 else 8) else asE s a
noncomputable def ckH (s:Rm) (a:Int):Int:=if ckE s a=0 then (rmV s a).1+1 else 0
noncomputable def itsT (s:Rm):Nat→Int→List It
 | 0,a=>(rmV s a).2
 | l+1,a=>(rmV s a).2.flatMap fun x=>itsT s l x.2.1
noncomputable def oneO (s:Rm):Nat→Int→Ky→Option It
 | 0,a,k=>(rmV s a).2.reverse.find? fun x=>decide (x.1=k)
 | l+1,a,k=>((rmV s a).2.reverse.find? fun x => !lessK k x.1).bind fun x=>oneO s l x.2.1 k
noncomputable def allO (s:Rm) (a:Int):List It:=itsT s (rmV s a).1.toNat a
noncomputable def theO (s:Rm) (a:Int) (k:Ky):Option It:=oneO s (rmV s a).1.toNat a k
def Up (l:List It):Prop:=l.Pairwise fun x y=>lessK x.1 y.1=true
theorem rm_may {s:Rm} {a:Int} (h:rmE s a=0):mayN (rmV s a)=true∧asE s a=0:=by
 by_cases ha:asE s a=0
 ·obtain⟨k,_,_,_,_,_,_,hE,hV,_⟩:=as_read ha
  rw[hE] at h
  rw[hV]
  exact⟨(blkN_read h).1,ha⟩
 ·rw[(rm_bad ha).1] at h
  exact absurd h ha
theorem up_may {n:Nd} (h:mayN n=true):Up n.2:=by
 rw[Up,List.pairwise_iff_getElem]
 intro i j hi hj hij
 exact mayN_rises h hij (List.getElem?_eq_getElem hi) (List.getElem?_eq_getElem hj)
theorem up_first {x:It} {l:List It} (h:Up (x::l)):∀ y∈x::l,y.1=x.1∨lessK x.1 y.1=true:=fun y hy=>by
 rcases List.mem_cons.1 hy with rfl | hy
 ·exact .inl rfl
 ·exact .inr ((List.pairwise_cons.1 h).1 y hy)
theorem up_last {l:List It} {z:It} {tb:Ky} (h:Up l) (hl:l.getLast? = some z) (hz:lessK z.1 tb=true):∀ y∈l,lessK y.1 tb=true:=fun y hy=>by
 obtain⟨r,rfl⟩:=List.getLast?_eq_some_iff.1 hl
 rcases List.mem_append.1 hy with hy | hy
 ·exact less_trans ((List.pairwise_append.1 h).2.2 y hy z (by simp)) hz
 ·rw[List.mem_singleton.1 hy]
  exact hz
theorem head_of {l:List It} {k tb:Ky} {ends:Bool} (h:headO l k tb ends=true):∃ x r,l=x::r∧x.1=k∧(ends=true→∃ z,l.getLast? = some z∧lessK z.1 tb=true):=by
 unfold headO at h
 rw[Bool.and_eq_true] at h
 obtain⟨h1,h2⟩:=h
 cases l with
 | nil=>simp at h1
 | cons x r =>
  refine⟨x,r,rfl,by simpa using h1,fun he => ?_⟩
  rw[he] at h2
  cases hz:(x::r).getLast? with
  | none=>rw[hz] at h2;simp at h2
  | some z=>rw[hz] at h2;exact⟨z,rfl,by simpa using h2⟩
structure Part (M:List It) (k tb:Ky) (ends:Bool) (N:Nat):Prop where
 first:∃ x r,M=x::r∧x.1=k
 up:Up M
 bound:ends=true→∀ y∈M,lessK y.1 tb=true
 few:M.length≤N
theorem Part.ge {M:List It} {k tb:Ky} {ends:Bool} {N:Nat} (h:Part M k tb ends N):∀ y∈M,y.1=k∨lessK k y.1=true:=by
 obtain⟨x,r,rfl,rfl⟩:=h.first
 exact up_first h.up
theorem part_its {f:Int→Ky→Ky→Bool→Bool} {g:Int→List It} {N:Nat} (hf:∀ a k tb ends,f a k tb ends=true→Part (g a) k tb ends N):∀ (L:List It) (tb:Ky) (ends:Bool),L≠[]→itsO f L tb ends=true →
  ∃ x r,L=x::r∧Part (L.flatMap fun x=>g x.2.1) x.1 tb ends (N*L.length)
 | [],_,_,h,_=>absurd rfl h
 | [x],tb,ends,_,h=>by
  refine⟨x,[],rfl,?_⟩
  have:=hf _ _ _ _ h
  simpa using this
 | x::y::r,tb,ends,_,h=>by
  refine⟨x,y::r,rfl,?_⟩
  unfold itsO at h
  rw[Bool.and_eq_true] at h
  have hx:=hf _ _ _ _ h.1
  obtain⟨y',r',e,hy⟩:=part_its hf (y::r) tb ends (by simp) h.2
  cases e
  have e2:(x::y::r).flatMap (fun x=>g x.2.1)=g x.2.1++(y::r).flatMap fun x=>g x.2.1:=List.flatMap_cons
  rw[e2]
  have hb:=hx.bound rfl
  have hlt:∀ p∈g x.2.1,∀ q∈(y::r).flatMap (fun x=>g x.2.1),lessK p.1 q.1=true:=fun p hp q hq=>by
   rcases hy.ge q hq with e | e
   ·rw[e];exact hb p hp
   ·exact less_trans (hb p hp) e
  refine⟨?_,?_,fun he p hp => ?_,?_⟩
  ·obtain⟨z,q,ez,kz⟩:=hx.first
   exact⟨z,_,by rw[ez];rfl,kz⟩
  ·exact List.pairwise_append.2 ⟨hx.up,hy.up,hlt⟩
  ·rcases List.mem_append.1 hp with hp | hp
   ·obtain⟨z,q,ez,kz⟩:=hy.first
    have hz:=hlt p hp z (by rw[ez];simp)
    exact less_trans hz (hy.bound he z (by rw[ez];simp))
   ·exact hy.bound he p hp
  ·have h1:=hx.few
   have h2:=hy.few
   rw[List.length_append]
   have e3:N*(x::y::r).length=N+N*(y::r).length:=by rw[List.length_cons,Nat.mul_succ,Nat.add_comm]
   omega
theorem right_of {s:Rm} {l:Nat} {a:Int} {k tb:Ky} {ends:Bool} (h:rightO s l a k tb ends=true):rmE s a=0∧(rmV s a).1=l∧headO (rmV s a).2 k tb ends=true∧(match l with | 0=>leafO s (rmV s a).2 | l'+1=>itsO (rightO s l') (rmV s a).2 tb ends)=true:=by
 cases l with
 | zero =>
  simp only[rightO,Bool.and_eq_true,decide_eq_true_eq] at h
  exact⟨h.1.1,h.1.2,h.2.1,h.2.2⟩
 | succ l =>
  simp only[rightO,Bool.and_eq_true,decide_eq_true_eq] at h
  exact⟨h.1.1,h.1.2,h.2.1,h.2.2⟩
theorem right_part (s:Rm):∀ (l:Nat) (a:Int) (k tb:Ky) (ends:Bool),rightO s l a k tb ends=true→Part (itsT s l a) k tb ends (5 ^ (l+1))
 | 0,a,k,tb,ends,h=>by
  obtain⟨h1,h2,h3,h4⟩:=right_of h
  obtain⟨hm,_⟩:=rm_may h1
  obtain⟨x,r,e,ek,hz⟩:=head_of h3
  refine⟨⟨x,r,e,ek⟩,up_may hm,fun he => ?_,?_⟩
  ·obtain⟨z,e1,e2⟩:=hz he
   exact up_last (up_may hm) e1 e2
  ·exact(mayN_of hm).1.2.2.1
 | l+1,a,k,tb,ends,h=>by
  obtain⟨h1,h2,h3,h4⟩:=right_of h
  obtain⟨hm,_⟩:=rm_may h1
  obtain⟨x,r,e,ek,hz⟩:=head_of h3
  obtain⟨x',r',e',hp⟩:=part_its (right_part s l) (rmV s a).2 tb ends (by rw[e];simp) h4
  rw[e] at e'
  cases e'
  rw[ek] at hp
  refine⟨hp.first,hp.up,hp.bound,Nat.le_trans hp.few ?_⟩
  have h5:=(mayN_of hm).1.2.2.1
  rw[Nat.pow_succ 5 (l+1)]
  exact Nat.mul_le_mul_left _ h5
theorem find_rev {p:It→Bool} (x:It) (l:List It):(x::l).reverse.find? p=match l.reverse.find? p with | some y=>some y | none=>if p x then some x else none:=by
 rw[List.reverse_cons,List.find?_append]
 cases l.reverse.find? p with
 | some y=>rfl
 | none =>
  simp only[Option.none_or,List.find?_cons,List.find?_nil]
  cases p x <;> rfl
theorem find_none {p:It→Bool} {l:List It} (h:∀ x∈l,p x=false):l.reverse.find? p=none:=by
 rw[List.find?_eq_none]
 intro x hx
 rw[h x (List.mem_reverse.1 hx)]
 simp
theorem down_its {f:Int→Ky→Ky→Bool→Bool} {g:Int→List It} {N:Nat} (hf:∀ a k tb ends,f a k tb ends=true→Part (g a) k tb ends N):∀ (L:List It) (tb:Ky) (ends:Bool),Up L→itsO f L tb ends=true→∀ x∈L.flatMap (fun x=>g x.2.1),
  ∃ y∈L,x∈g y.2.1∧(L.reverse.find? fun z => !lessK x.1 z.1)=some y∧∃ t e,f y.2.1 y.1 t e=true
 | [],_,_,_,_,x,hx=>by simp at hx
 | [y],tb,ends,_,h,x,hx=>by
  have hx':x∈g y.2.1:=by simpa using hx
  refine⟨y,by simp,hx',?_,tb,ends,h⟩
  have hp:=hf _ _ _ _ h
  have:lessK x.1 y.1=false:=by
   rcases hp.ge x hx' with e | e
   ·rw[e];exact less_self _
   ·exact less_anti e
  simp[this]
 | y::z::r,tb,ends,hu,h,x,hx=>by
  unfold itsO at h
  rw[Bool.and_eq_true] at h
  have hy:=hf _ _ _ _ h.1
  have e2:(y::z::r).flatMap (fun x=>g x.2.1)=g y.2.1++(z::r).flatMap fun x=>g x.2.1:=List.flatMap_cons
  rw[e2] at hx
  rw[find_rev]
  rcases List.mem_append.1 hx with hx | hx
  ·have hb:=hy.bound rfl x hx
   have hge:lessK x.1 y.1=false:=by
    rcases hy.ge x hx with e | e
    ·rw[e];exact less_self _
    ·exact less_anti e
   have hno:(z::r).reverse.find? (fun w => !lessK x.1 w.1)=none:=find_none fun w hw=>by
    rcases up_first (List.pairwise_cons.1 hu).2 w hw with e | e
    ·rw[e,hb];rfl
    ·rw[less_trans hb e];rfl
   refine⟨y,by simp,hx,?_,_,_,h.1⟩
   rw[hno]
   simp[hge]
  ·obtain⟨w,hw,h1,h2,h3⟩:=down_its hf (z::r) tb ends (List.pairwise_cons.1 hu).2 h.2 x hx
   exact⟨w,List.mem_cons_of_mem _ hw,h1,by rw[h2],h3⟩
theorem leaf_found {l:List It} (hu:Up l) {x:It} (hx:x∈l):(l.reverse.find? fun y=>decide (y.1=x.1))=some x:=by
 induction l with
 | nil=>simp at hx
 | cons y r ih =>
  rw[find_rev]
  rcases List.mem_cons.1 hx with rfl | hx
  ·have hno:r.reverse.find? (fun y=>decide (y.1=x.1))=none:=find_none fun z hz=>by
    have h1:=(List.pairwise_cons.1 hu).1 z hz
    have:z.1≠x.1:=fun e=>by rw[e,less_self] at h1;cases h1
    simpa using this
   rw[hno]
   simp
  ·rw[ih (List.pairwise_cons.1 hu).2 hx]
theorem right_found (s:Rm):∀ (l:Nat) (a:Int) (k tb:Ky) (ends:Bool),rightO s l a k tb ends=true→∀ x∈itsT s l a,oneO s l a x.1=some x
 | 0,a,k,tb,ends,h,x,hx=>leaf_found (up_may (rm_may (right_of h).1).1) hx
 | l+1,a,k,tb,ends,h,x,hx=>by
  obtain⟨h1,h2,h3,h4⟩:=right_of h
  obtain⟨y,hy,h5,h6,t,e,h7⟩:=down_its (right_part s l) (rmV s a).2 tb ends (up_may (rm_may h1).1) h4 x hx
  unfold oneO
  rw[h6]
  exact right_found s l y.2.1 y.1 t e h7 x h5
theorem tree_of {s:Rm} {a:Int} (h:treeO s a=true):rmE s a=0∧asE s a=0∧mayN (rmV s a)=true∧0≤(rmV s a).1∧(rmV s a).1<6∧innerO s (rmV s a) keyZ false=true:=by
 simp only[treeO,Bool.and_eq_true,decide_eq_true_eq] at h
 obtain⟨hm,ha⟩:=rm_may h.1
 exact⟨h.1,ha,hm,(mayN_of hm).1.1,(mayN_of hm).1.2.1,h.2⟩
theorem tree_all {s:Rm} {a:Int} (h:treeO s a=true):Up (allO s a)∧(allO s a).length≤15625∧(∀ x∈allO s a,theO s a x.1=some x):=by
 obtain⟨h1,_,hm,l0,l6,hi⟩:=tree_of h
 unfold allO theO
 unfold innerO at hi
 have hl:(rmV s a).1.toNat≤5:=by omega
 generalize hl0:(rmV s a).1.toNat=l at hi hl ⊢
 cases l with
 | zero =>
  refine⟨up_may hm,Nat.le_trans (mayN_of hm).1.2.2.1 (by decide),fun x hx=>leaf_found (up_may hm) hx⟩
 | succ l =>
  have hne:(rmV s a).2≠[]:=fun e=>by
   have:=(mayN_of hm).1.2.2.2 (by omega)
   rw[e] at this
   simp at this
  obtain⟨x,r,e,hp⟩:=part_its (right_part s l) (rmV s a).2 keyZ false hne hi
  refine⟨hp.up,Nat.le_trans hp.few ?_,fun x hx => ?_⟩
  ·have h5:=(mayN_of hm).1.2.2.1
   have hpw:5 ^ (l+1)≤5 ^ 5:=Nat.pow_le_pow_right (by decide) (by omega)
   have:=Nat.mul_le_mul hpw h5
   omega
  ·obtain⟨y,hy,h5,h6,t,e,h7⟩:=down_its (right_part s l) (rmV s a).2 keyZ false (up_may hm) hi x hx
   unfold oneO
   rw[h6]
   exact right_found s l y.2.1 y.1 t e h7 x h5
theorem leaf_take {s:Rm} {l:List It} {i:Nat} {x:It} (hx:l[i]? = some x):leafO s (l.take (i+1))=(leafO s (l.take i)&&(decide (x.2.1=0)||decide (s.2.1[x.2.1.toNat]?.getD 0≠0))):=by
 have hk:=(List.getElem?_eq_some_iff.1 hx).1
 have hg:l[i]=x:=(List.getElem?_eq_some_iff.1 hx).2
 rw[← List.take_append_getElem hk,hg]
 simp[leafO]
theorem leaf_bad {s:Rm} {l:List It} {i:Nat} (h:leafO s (l.take i)=false):leafO s l=false:=by
 cases e:leafO s l with
 | false=>rfl
 | true =>
  unfold leafO at e h
  rw[List.all_eq_true] at e
  rw[← h]
  symm
  rw[List.all_eq_true]
  exact fun x hx=>e x (List.mem_of_mem_take hx)
def nxO (r:List It) (tb:Ky):Ky:=match r with | []=>tb | y::_=>y.1
def bxO (r:List It) (ends:Bool):Bool:=match r with | []=>ends | _::_=>true
theorem its_cons (f:Int→Ky→Ky→Bool→Bool) (x:It) (r:List It) (tb:Ky) (ends:Bool):itsO f (x::r) tb ends=(f x.2.1 x.1 (nxO r tb) (bxO r ends)&&itsO f r tb ends):=by
 cases r with
 | nil=>simp[itsO,nxO,bxO]
 | cons y r=>rfl
end Go.Proofs.YtogieepfimpdmaaGreat
/-
 Nodes made and left,plain: what is counted,what is left,and what follows. Conditions: those that each lemma states.
-/
namespace Go.Proofs.YtogieepfimpdmaaGreat
open Go.RowKit
def cntR:List It→Nat→Nat
 | [],_=>0
 | x::l,i=>(if x.2.1=(i:Int) then (if x.2.1=0 then 0 else 1) else 0)+cntR l i
def refsOk (l:List It):Prop:=∀ x∈l,x.2.1=0∨(8≤x.2.1∧x.2.1<256)
theorem refs_cons {x:It} {l:List It} (h:refsOk (x::l)):(x.2.1=0∨∃ k:Nat,x.2.1=k∧8≤k∧k<256)∧refsOk l:=by
 refine⟨?_,fun y hy=>h y (List.mem_cons_of_mem _ hy)⟩
 rcases h x List.mem_cons_self with h1 | ⟨h1,h2⟩
 ·exact .inl h1
 ·exact .inr ⟨x.2.1.toNat,by omega,by omega,by omega⟩
theorem refs_may {n:Nd} (h:mayN n=true):refsOk n.2:=fun x hx=>by
 obtain⟨i,hi⟩:=List.getElem?_of_mem hx
 have hk:=(List.getElem?_eq_some_iff.1 hi).1
 simp only[mayN,Bool.and_eq_true,List.all_eq_true] at h
 have h1:=h.2 i (by simpa using hk)
 simp only[okAt,hi,okP,Bool.and_eq_true] at h1
 exact(mayI_of h1.1.1).1
theorem cntR_zero {x:It} {l:List It} (h:x.2.1=0) (i:Nat):cntR (x::l) i=cntR l i:=by
 simp only[cntR,h,if_true]
 split <;> simp
theorem cntR_here {x:It} {l:List It} {k:Nat} (h:x.2.1=k) (h8:8≤k) (i:Nat):cntR (x::l) i=(if i=k then 1 else 0)+cntR l i:=by
 simp only[cntR,h]
 by_cases e:i=k
 ·subst e
  rw[if_pos rfl,if_neg (by omega),if_pos rfl]
 ·rw[if_neg (by omega),if_neg e]
theorem cntR_low {l:List It} (h:refsOk l) {i:Nat} (hi:i<8∨256≤i):cntR l i=0:=by
 induction l with
 | nil=>rfl
 | cons x l ih =>
  obtain⟨h1,h2⟩:=refs_cons h
  rcases h1 with h1 | ⟨k,h1,h8,h256⟩
  ·rw[cntR_zero h1,ih h2]
  ·rw[cntR_here h1 h8,ih h2,if_neg (by omega)]
def ctE:List UInt8→List It→Int
 | _,[]=>0
 | t,x::l=>if x.2.1=0 then ctE t l else if t[x.2.1.toNat]?.getD 0=0 then 6 else if t[x.2.1.toNat]?.getD 0=255 then 70 else ctE (t.set x.2.1.toNat (t[x.2.1.toNat]?.getD 0+1)) l
def ctV:List UInt8→List It→List UInt8
 | t,[]=>t
 | t,x::l=>if x.2.1=0 then ctV t l else ctV (t.set x.2.1.toNat (t[x.2.1.toNat]?.getD 0+1)) l
theorem ctV_len:∀ (l:List It) (t:List UInt8),(ctV t l).length=t.length
 | [],_=>rfl
 | x::l,t=>by
  unfold ctV
  split
  ·exact ctV_len l t
  ·rw[ctV_len l,List.length_set]
theorem ctE_app:∀ (a b:List It) (t:List UInt8),ctE t (a++b)=if ctE t a=0 then ctE (ctV t a) b else ctE t a
 | [],b,t=>by simp[ctE,ctV]
 | x::a,b,t=>by
  simp only[List.cons_append,ctE,ctV]
  split
  ·exact ctE_app a b t
  ·split
   ·simp
   ·split
    ·simp
    ·exact ctE_app a b _
theorem ctV_app:∀ (a b:List It) (t:List UInt8),ctV t (a++b)=ctV (ctV t a) b
 | [],b,t=>rfl
 | x::a,b,t=>by
  simp only[List.cons_append,ctV]
  split
  ·exact ctV_app a b t
  ·exact ctV_app a b _
theorem up_nat {x:UInt8} (h:x≠255):(x+1).toNat=x.toNat+1:=by
 have:=(up_byte h).1
 omega
theorem dn_nat {x:UInt8} (h:x≠0):(x-1).toNat+1=x.toNat:=by
 have h1:=(up_byte (x:=x-1) (byte_dn_ne h)).1
 rw[byte_back.2] at h1
 omega
theorem nat_zero {x:UInt8}:x.toNat=0↔x=0:=⟨fun h=>UInt8.toNat_inj.1 (by rw[h];rfl),fun h=>by rw[h];rfl⟩
theorem ct_counts:∀ (l:List It) (t:List UInt8),refsOk l→t.length=256→ctE t l=0 →
  (∀ i,((ctV t l)[i]?.getD 0).toNat=(t[i]?.getD 0).toNat+cntR l i)∧(∀ i,cntR l i≠0→t[i]?.getD 0≠0)
 | [],t,_,_,_=>⟨fun i=>by simp[ctV,cntR],fun i h=>absurd rfl h⟩
 | x::l,t,hr,hl,h=>by
  obtain⟨h1,h2⟩:=refs_cons hr
  unfold ctE at h
  unfold ctV
  rcases h1 with h1 | ⟨k,h1,h8,h256⟩
  ·rw[if_pos h1] at h ⊢
   obtain⟨c1,c2⟩:=ct_counts l t h2 hl h
   exact⟨fun i=>by rw[c1 i,cntR_zero h1],fun i hi=>c2 i (by rwa [cntR_zero h1] at hi)⟩
  ·have e0:¬ x.2.1=0:=by omega
   have ek:x.2.1.toNat=k:=by omega
   rw[if_neg e0,ek] at h
   rw[if_neg e0,ek]
   by_cases hz:t[k]?.getD 0=0
   ·rw[if_pos hz] at h;cases h
   ·by_cases hm:t[k]?.getD 0=255
    ·rw[if_neg hz,if_pos hm] at h;cases h
    ·rw[if_neg hz,if_neg hm] at h
     obtain⟨c1,c2⟩:=ct_counts l (t.set k (t[k]?.getD 0+1)) h2 (by rw[List.length_set,hl]) h
     refine⟨fun i => ?_,fun i hi => ?_⟩
     ·rw[c1 i,cntR_here h1 h8]
      by_cases e:i=k
      ·subst e
       rw[set_get (by omega),up_nat hm,if_pos rfl]
       omega
      ·rw[set_other e,if_neg e]
       omega
     ·by_cases e:i=k
      ·subst e;exact hz
      ·rw[cntR_here h1 h8,if_neg e,Nat.zero_add] at hi
       have:=c2 i hi
       rwa [set_other e] at this
theorem list_same {a b:List UInt8} (hl:a.length=b.length) (h:∀ i:Nat,(a[i]?.getD 0).toNat=(b[i]?.getD 0).toNat):a=b:=by
 refine List.ext_getElem hl fun i h1 h2 => ?_
 have:=UInt8.toNat_inj.1 (h i)
 rwa [List.getElem?_eq_getElem h1,List.getElem?_eq_getElem h2] at this
theorem ct_may {t:List UInt8} {l:List It} (hm:mayT t=true) (hr:refsOk l) (h:ctE t l=0):mayT (ctV t l)=true:=by
 have hl:=mayT_len hm
 obtain⟨c1,_⟩:=ct_counts l t hr hl h
 refine mayT_yes (by rw[ctV_len,hl]) fun j hj=>nat_zero.1 ?_
 rw[c1 j,cntR_low hr (.inl hj),mayT_at hm hj]
 rfl
theorem ct_zero {t:List UInt8} {l:List It} (hl:t.length=256) (hr:refsOk l) (h:ctE t l=0) (i:Nat):(ctV t l)[i]?.getD 0=0↔t[i]?.getD 0=0:=by
 obtain⟨c1,c2⟩:=ct_counts l t hr hl h
 rw[← nat_zero,c1 i,← nat_zero (x:=t[i]?.getD 0)]
 refine⟨fun h=>by omega,fun h => ?_⟩
 by_cases e:cntR l i=0
 ·omega
 ·exact absurd (nat_zero.1 h) (c2 i e)
def ctS (s:Rm) (n:Nd):Rm:=(s.1,ctV s.2.1 n.2,s.2.2)
def mkE (s:Rm) (n:Nd):Int:=if mayR s&&mayN n then (if ctE s.2.1 n.2=0 then tkE (ctS s n) (blkN n) else ctE s.2.1 n.2) else 8
def mkN (s:Rm) (n:Nd):Int:=if mkE s n=0 then tkN (ctS s n) (blkN n) else 0
def mkV (s:Rm) (n:Nd):Rm:=if mkE s n=0 then tkV (ctS s n) (blkN n) else emptyR
theorem mk_no {s:Rm} {n:Nd} (h:mkE s n≠0):mkN s n=0∧mkV s n=emptyR:=⟨by rw[mkN,if_neg h],by rw[mkV,if_neg h]⟩
theorem ctS_may {s:Rm} {n:Nd} (hm:mayR s=true) (hn:mayN n=true) (h:ctE s.2.1 n.2=0):mayR (ctS s n)=true:=by
 obtain⟨m1,m2,m3⟩:=mayR_of hm
 exact mayR_mk m1 (ct_may m2 (refs_may hn) h) m3
theorem ctS_free {s:Rm} {n:Nd} (hm:mayR s=true) (hn:mayN n=true) (h:ctE s.2.1 n.2=0):freeL (ctS s n)=freeL s:=by
 unfold freeL freeK
 refine List.filter_congr fun i _ => ?_
 have:=ct_zero (mayT_len (mayR_of hm).2.1) (refs_may hn) h i
 show (decide ((ctV s.2.1 n.2)[i]?.getD 0=0)&&_)=(decide (s.2.1[i]?.getD 0=0)&&_)
 rw[decide_eq_decide.2 this]
 rfl
theorem mk_ok {s:Rm} {n:Nd} (h:mkE s n=0):mayR s=true∧mayN n=true∧ctE s.2.1 n.2=0∧tkE (ctS s n) (blkN n)=0∧mkN s n=tkN (ctS s n) (blkN n)∧mkV s n=tkV (ctS s n) (blkN n):=by
 have hN:mkN s n=tkN (ctS s n) (blkN n):=by rw[mkN,if_pos h]
 have hV:mkV s n=tkV (ctS s n) (blkN n):=by rw[mkV,if_pos h]
 unfold mkE at h
 cases hm:mayR s with
 | false=>rw[hm] at h;simp at h
 | true =>
  cases hn:mayN n with
  | false=>rw[hm,hn] at h;simp at h
  | true =>
   rw[hm,hn] at h
   simp only[Bool.and_self,if_true] at h
   by_cases hc:ctE s.2.1 n.2=0
   ·rw[if_pos hc] at h
    exact⟨rfl,rfl,hc,h,hN,hV⟩
   ·rw[if_neg hc] at h
    exact absurd h hc
theorem mk_counts {s:Rm} {n:Nd} (h:mkE s n=0):∃ k:Nat,mkN s n=k∧8≤k∧k<256∧s.2.1[k]?.getD 0=0∧s.2.2[k]?.getD 0=0∧cntR n.2 k=0∧mkV s n=(wrD s.1 k (blkN n),(ctV s.2.1 n.2).set k 1,s.2.2)∧mayR (mkV s n)=true ∧
  (mkV s n).2.1[k]?.getD 0=1∧(∀ i,i≠k→((mkV s n).2.1[i]?.getD 0).toNat=(s.2.1[i]?.getD 0).toNat+cntR n.2 i)∧(∀ i,cntR n.2 i≠0→s.2.1[i]?.getD 0≠0)∧(mkV s n).2.1.length=256∧s.2.1.length=256:=by
 obtain⟨hm,hn,hc,ht,e1,e2⟩:=mk_ok h
 obtain⟨_,_,_,_,h8,h256,hz,hz2,hN,hV⟩:=tk_ok ht
 have hl:=mayT_len (mayR_of hm).2.1
 have hr:=refs_may hn
 obtain⟨c1,c2⟩:=ct_counts n.2 s.2.1 hr hl hc
 generalize tkK (ctS s n)=k at *
 have z1:s.2.1[k]?.getD 0=0:=(ct_zero hl hr hc k).1 hz
 have z2:cntR n.2 k=0:=by
  by_cases e:cntR n.2 k=0
  ·exact e
  ·exact absurd z1 (c2 k e)
 have hV':mkV s n=(wrD s.1 k (blkN n),(ctV s.2.1 n.2).set k 1,s.2.2):=by rw[e2,hV];rfl
 refine⟨k,by rw[e1,hN],h8,h256,z1,hz2,z2,hV',by rw[e2];exact tk_may ht,?_,fun i hi => ?_,c2,?_,hl⟩
 ·rw[hV'];exact set_get (by rw[ctV_len];omega)
 ·rw[hV']
  show (((ctV s.2.1 n.2).set k 1)[i]?.getD 0).toNat=_
  rw[set_other hi]
  exact c1 i
 ·rw[hV']
  show ((ctV s.2.1 n.2).set k 1).length=_
  rw[List.length_set,ctV_len,hl]
def dnO (t:List UInt8) (a:Nat):Option (List UInt8):=if t[a]?.getD 0=0 then none else some (t.set a (t[a]?.getD 0-1))
def eachO (f:List UInt8→Nat→Option (List UInt8)):List UInt8→List It→Option (List UInt8)
 | t,[]=>some t
 | t,x::l=>if x.2.1=0 then eachO f t l else (f t x.2.1.toNat).bind fun t'=>eachO f t' l
noncomputable def lvS (d:Dk) (l:Nat) (f:List UInt8→Nat→Option (List UInt8)) (t:List UInt8) (a:Nat):Option (List UInt8) :=
 (dnO t a).bind fun t'=>if 1<(t[a]?.getD 0).toNat then some t' else if reN (seenD d a)=0∧(reV (seenD d a)).1=(l:Int) then eachO f t' (reV (seenD d a)).2 else none
noncomputable def lvF (d:Dk):Nat→List UInt8→Nat→Option (List UInt8)
 | 0=>dnO
 | l+1=>lvS d l (lvF d l)
noncomputable def lfO (d:Dk) (t:List UInt8) (a:Nat):Option (List UInt8) :=
 (dnO t a).bind fun t'=>if 1<(t[a]?.getD 0).toNat then some t' else if reN (seenD d a)=0 then eachO (lvF d (reV (seenD d a)).1.toNat) t' (reV (seenD d a)).2 else none
noncomputable def lvE (s:Rm) (n:Int):Int:=if asE s n=0 then (match lfO s.1 s.2.1 n.toNat with | some _=>0 | none=>8) else asE s n
noncomputable def lvV (s:Rm) (n:Int):Rm:=if asE s n=0 then (match lfO s.1 s.2.1 n.toNat with | some t=>(s.1,t,s.2.2) | none=>emptyR) else emptyR
def loV (s:Rm) (n:Int):Rm:=if asE s n=0 then (s.1,s.2.1.set n.toNat (s.2.1[n.toNat]?.getD 0-1),s.2.2) else emptyR
structure LeT (u t:List UInt8):Prop where
 len:u.length=t.length
 le:∀ i:Nat,(u[i]?.getD 0).toNat≤(t[i]?.getD 0).toNat
theorem LeT.refl (t:List UInt8):LeT t t:=⟨rfl,fun _=>Nat.le_refl _⟩
theorem LeT.trans {a b c:List UInt8} (h:LeT a b) (h':LeT b c):LeT a c:=⟨h.len.trans h'.len,fun i=>Nat.le_trans (h.le i) (h'.le i)⟩
theorem dnO_some {t u:List UInt8} {a:Nat} (h:dnO t a=some u):t[a]?.getD 0≠0∧u=t.set a (t[a]?.getD 0-1)∧LeT u t∧(u[a]?.getD 0).toNat+1=(t[a]?.getD 0).toNat:=by
 unfold dnO at h
 by_cases hz:t[a]?.getD 0=0
 ·rw[if_pos hz] at h;cases h
 ·rw[if_neg hz] at h
  cases h
  have ha:a<t.length:=by
   by_cases e:a<t.length
   ·exact e
   ·exact absurd (by rw[List.getElem?_eq_none (by omega)];rfl) hz
  refine⟨hz,rfl,⟨List.length_set,fun i => ?_⟩,?_⟩
  ·by_cases e:i=a
   ·subst e
    rw[set_get ha]
    have:=dn_nat hz
    omega
   ·rw[set_other e]
    exact Nat.le_refl _
  ·rw[set_get ha]
   exact dn_nat hz
theorem each_le {f:List UInt8→Nat→Option (List UInt8)} (hf:∀ t a u,f t a=some u→LeT u t):∀ (l:List It) (t u:List UInt8),eachO f t l=some u→LeT u t
 | [],t,u,h=>by cases h;exact LeT.refl _
 | x::l,t,u,h=>by
  unfold eachO at h
  split at h
  ·exact each_le hf l t u h
  ·cases hx:f t x.2.1.toNat with
   | none=>rw[hx] at h;cases h
   | some v =>
    rw[hx] at h
    exact(each_le hf l v u h).trans (hf _ _ _ hx)
theorem lvS_le {d:Dk} {l:Nat} {f:List UInt8→Nat→Option (List UInt8)} (hf:∀ t a u,f t a=some u→LeT u t) (t:List UInt8) (a:Nat) (u:List UInt8) (h:lvS d l f t a=some u):LeT u t:=by
 unfold lvS at h
 cases hd:dnO t a with
 | none=>rw[hd] at h;cases h
 | some v =>
  rw[hd] at h
  have h':(if 1<(t[a]?.getD 0).toNat then some v else if reN (seenD d a)=0∧(reV (seenD d a)).1=(l:Int) then eachO f v (reV (seenD d a)).2 else none)=some u:=h
  have hv:=(dnO_some hd).2.2.1
  split at h'
  ·cases h';exact hv
  ·split at h'
   ·exact(each_le hf _ _ _ h').trans hv
   ·cases h'
theorem lvF_le (d:Dk):∀ (l:Nat) (t:List UInt8) (a:Nat) (u:List UInt8),lvF d l t a=some u→LeT u t
 | 0,_,_,_,h=>(dnO_some h).2.2.1
 | l+1,t,a,u,h=>lvS_le (lvF_le d l) t a u h
theorem lf_some {d:Dk} {t u:List UInt8} {a:Nat} (h:lfO d t a=some u):t[a]?.getD 0≠0∧LeT u t∧(u[a]?.getD 0).toNat+1≤(t[a]?.getD 0).toNat∧(1<(t[a]?.getD 0).toNat→u=t.set a (t[a]?.getD 0-1)):=by
 unfold lfO at h
 cases hd:dnO t a with
 | none=>rw[hd] at h;cases h
 | some v =>
  rw[hd] at h
  have h':(if 1<(t[a]?.getD 0).toNat then some v else if reN (seenD d a)=0 then eachO (lvF d (reV (seenD d a)).1.toNat) v (reV (seenD d a)).2 else none)=some u:=h
  obtain⟨h1,h2,hv,h3⟩:=dnO_some hd
  split at h'
  ·cases h'
   exact⟨h1,hv,by omega,fun _=>h2⟩
  ·rename_i hn
   split at h'
   ·have:=each_le (lvF_le d _) _ _ _ h'
    have h4:=this.le a
    exact⟨h1,this.trans hv,by omega,fun hc=>absurd hc hn⟩
   ·cases h'
theorem LeT.may {u t:List UInt8} (h:LeT u t) (hm:mayT t=true):mayT u=true :=
 mayT_yes (by rw[h.len];exact mayT_len hm) fun j hj=>by
  have h1:=h.le j
  rw[mayT_at hm hj] at h1
  exact nat_zero.1 (by simpa using h1)
def Many (f:List UInt8→Nat→Option (List UInt8)):Prop:=∀ t a,1<(t[a]?.getD 0).toNat→f t a=some (t.set a (t[a]?.getD 0-1))
theorem dnO_yes {t:List UInt8} {a:Nat} (h:t[a]?.getD 0≠0):dnO t a=some (t.set a (t[a]?.getD 0-1)):=by rw[dnO,if_neg h]
theorem not_zero {x:UInt8} (h:1<x.toNat):x≠0:=fun e=>by
 rw[nat_zero.2 e] at h
 omega
theorem lvF_many (d:Dk):∀ l,Many (lvF d l)
 | 0=>fun t a h=>dnO_yes (not_zero h)
 | l+1=>fun t a h=>by
  show lvS d l (lvF d l) t a=_
  unfold lvS
  rw[dnO_yes (not_zero h)]
  show (if 1<(t[a]?.getD 0).toNat then _ else _)=_
  rw[if_pos h]
theorem each_back {f:List UInt8→Nat→Option (List UInt8)} (hf:Many f):∀ (l:List It) (u v:List UInt8),refsOk l→u.length=256→v.length=256→(∀ i,(u[i]?.getD 0).toNat=(v[i]?.getD 0).toNat+cntR l i)→(∀ i,cntR l i≠0→v[i]?.getD 0≠0)→eachO f u l=some v
 | [],u,v,_,h1,h2,h,_=>congrArg some (list_same (by omega) h)
 | x::l,u,v,hr,h1,h2,h,h'=>by
  obtain⟨r1,r2⟩:=refs_cons hr
  unfold eachO
  rcases r1 with r1 | ⟨k,r1,h8,h256⟩
  ·rw[if_pos r1]
   exact each_back hf l u v r2 h1 h2 (fun i=>by rw[h i,cntR_zero r1]) (fun i hi=>h' i (by rwa [cntR_zero r1]))
  ·have e0:¬ x.2.1=0:=by omega
   have ek:x.2.1.toNat=k:=by omega
   have hk:=h k
   rw[cntR_here r1 h8,if_pos rfl] at hk
   have hv:=h' k (by rw[cntR_here r1 h8,if_pos rfl];omega)
   have hv':(v[k]?.getD 0).toNat≠0:=fun e=>hv (nat_zero.1 e)
   have hu:1<(u[k]?.getD 0).toNat:=by omega
   rw[if_neg e0,ek,hf u k hu]
   show eachO f (u.set k (u[k]?.getD 0-1)) l=some v
   refine each_back hf l _ v r2 (by rw[List.length_set,h1]) h2 (fun i => ?_) (fun i hi=>h' i (by rw[cntR_here r1 h8];omega))
   by_cases e:i=k
   ·subst e
    rw[set_get (by omega)]
    have:=dn_nat (not_zero hu)
    omega
   ·rw[set_other e,h i,cntR_here r1 h8,if_neg e]
    omega
theorem lf_back {d:Dk} {u v:List UInt8} {k:Nat} {n:Nd} (hb:seenD d k=blkN n) (hn:mayN n=true) (hi:InN n) (h1:u.length=256) (h2:v.length=256) (hk:k<256) (hu:u[k]?.getD 0=1) (hv:v[k]?.getD 0=0) (hz:cntR n.2 k=0)
  (h:∀ i,i≠k→(u[i]?.getD 0).toNat=(v[i]?.getD 0).toNat+cntR n.2 i) (h':∀ i,cntR n.2 i≠0→v[i]?.getD 0≠0):lfO d u k=some v:=by
 obtain⟨r1,r2⟩:=read_blkN hn hi
 unfold lfO
 rw[dnO_yes (by rw[hu];decide),hu,hb,r1,r2]
 show eachO (lvF d n.1.toNat) (u.set k (1-1)) n.2=some v
 refine each_back (lvF_many d _) n.2 _ v (refs_may hn) (by rw[List.length_set,h1]) h2 (fun i => ?_) h'
 by_cases e:i=k
 ·subst e
  rw[set_get (by omega),hv,hz]
  rfl
 ·rw[set_other e,h i e]
theorem as_yes {s:Rm} {k:Nat} (hm:mayR s=true) (h8:8≤k) (h:k<256) (hx:s.2.1[k]?.getD 0≠0):asE s k=0:=by
 have hin:=inT_of h8 h
 have h1:¬ s.2.1[((k:Int)).toNat]?.getD 0=0:=by
  rw[show ((k:Int)).toNat=k by omega]
  exact hx
 rw[asE,hm,if_pos rfl,hin,if_pos rfl,if_neg h1]
theorem lv_yes {s:Rm} {k:Nat} {v:List UInt8} (ha:asE s k=0) (hf:lfO s.1 s.2.1 k=some v):lvE s k=0∧lvV s k=(s.1,v,s.2.2):=by
 constructor
 ·rw[lvE,if_pos ha,show ((k:Int)).toNat=k by omega,hf]
 ·rw[lvV,if_pos ha,show ((k:Int)).toNat=k by omega,hf]
theorem rm_yes {s:Rm} {k:Nat} {n:Nd} (ha:asE s k=0) (hb:seenD s.1 k=blkN n) (hn:mayN n=true) (hi:InN n):rmE s k=0∧rmV s k=n:=by
 obtain⟨r1,r2⟩:=read_blkN hn hi
 constructor
 ·rw[rmE,if_pos ha,show ((k:Int)).toNat=k by omega,hb,r1]
 ·rw[rmV,if_pos ha,show ((k:Int)).toNat=k by omega,hb,r2]
theorem mk_left {s:Rm} {n:Nd} (hi:InN n) (h:mkE s n=0):∃ k:Nat,mkN s n=k∧8≤k∧k<256∧s.2.1[k]?.getD 0=0∧s.2.2[k]?.getD 0=0∧rmE (mkV s n) k=0∧rmV (mkV s n) k=n∧lvE (mkV s n) k=0∧lvV (mkV s n) k=(wrD s.1 k (blkN n),s.2.1,s.2.2):=by
 obtain⟨_,hn,_⟩:=mk_ok h
 obtain⟨k,e1,h8,h256,hz,hz2,hc,hV,hm,c1,c2,c3,hl,hl0⟩:=mk_counts h
 have ha:asE (mkV s n) k=0:=as_yes hm h8 h256 (by rw[c1];decide)
 have hb:seenD (mkV s n).1 k=blkN n:=by rw[hV];exact seenD_write
 have hf:lfO (mkV s n).1 (mkV s n).2.1 k=some s.2.1:=lf_back (n:=n) hb hn hi hl hl0 h256 c1 hz hc c2 c3
 obtain⟨r1,r2⟩:=rm_yes ha hb hn hi
 obtain⟨l1,l2⟩:=lv_yes ha hf
 exact⟨k,e1,h8,h256,hz,hz2,r1,r2,l1,by rw[l2,hV]⟩
end Go.Proofs.YtogieepfimpdmaaGreat
/-
 Trees that stay where other blocks are taken,or counts rise;plain. Conditions: those that each lemma states.
-/
namespace Go.Proofs.YtogieepfimpdmaaGreat
open Go.RowKit
structure KeepR (s t:Rm):Prop where
 may:mayR t=true
 held:∀ k:Nat,s.2.1[k]?.getD 0≠0→t.2.1[k]?.getD 0≠0
 seen:∀ k:Nat,s.2.1[k]?.getD 0≠0→seenD t.1 k=seenD s.1 k
theorem keep_node {s t:Rm} (h:KeepR s t) {a:Int} (ha:asE s a=0):asE t a=0∧rmE t a=rmE s a∧rmV t a=rmV s a:=by
 obtain⟨k,rfl,hm,h8,h256,_,_,hE,hV,hx⟩:=as_read ha
 have ht:asE t (k:Int)=0:=as_yes h.may h8 h256 (h.held k hx)
 refine⟨ht,?_,?_⟩
 ·rw[hE,rmE,if_pos ht,show ((k:Int)).toNat=k by omega,h.seen k hx]
 ·rw[hV,rmV,if_pos ht,show ((k:Int)).toNat=k by omega,h.seen k hx]
theorem keep_leaf {s t:Rm} (h:KeepR s t) {l:List It} (hl:leafO s l=true):leafO t l=true:=by
 unfold leafO at hl ⊢
 rw[List.all_eq_true] at hl ⊢
 intro x hx
 have h1:=hl x hx
 simp only[Bool.or_eq_true,decide_eq_true_eq] at h1 ⊢
 exact h1.imp id (h.held _)
theorem its_mono {f g:Int→Ky→Ky→Bool→Bool} (h:∀ a k tb e,f a k tb e=true→g a k tb e=true):∀ (l:List It) (tb:Ky) (e:Bool),itsO f l tb e=true→itsO g l tb e=true
 | [],_,_,_=>rfl
 | x::r,tb,e,hf=>by
  rw[its_cons,Bool.and_eq_true] at hf ⊢
  exact⟨h _ _ _ _ hf.1,its_mono h r tb e hf.2⟩
theorem its_mem {f:Int→Ky→Ky→Bool→Bool}:∀ {l:List It} {tb:Ky} {e:Bool},itsO f l tb e=true→∀ x∈l,∃ t e,f x.2.1 x.1 t e=true
 | [],_,_,_,x,hx=>by simp at hx
 | y::r,tb,e,hf,x,hx=>by
  rw[its_cons,Bool.and_eq_true] at hf
  rcases List.mem_cons.1 hx with rfl | hx
  ·exact⟨_,_,hf.1⟩
  ·exact its_mem hf.2 x hx
theorem flat_same {g g':Int→List It}:∀ {l:List It},(∀ x∈l,g x.2.1=g' x.2.1)→l.flatMap (fun x=>g x.2.1)=l.flatMap fun x=>g' x.2.1
 | [],_=>rfl
 | x::r,h=>by
  rw[List.flatMap_cons,List.flatMap_cons,h x List.mem_cons_self,flat_same fun y hy=>h y (List.mem_cons_of_mem _ hy)]
theorem keep_right {s t:Rm} (h:KeepR s t):∀ (l:Nat) (a:Int) (k tb:Ky) (e:Bool),rightO s l a k tb e=true→rightO t l a k tb e=true∧itsT t l a=itsT s l a∧∀ q,oneO t l a q=oneO s l a q
 | 0,a,k,tb,e,hr=>by
  obtain⟨h1,h2,h3,h4⟩:=right_of hr
  obtain⟨_,k1,k2⟩:=keep_node h (rm_may h1).2
  refine⟨?_,by unfold itsT;rw[k2],fun q=>by unfold oneO;rw[k2]⟩
  unfold rightO
  rw[k1,k2,h1,h2,h3,keep_leaf h h4]
  rfl
 | l+1,a,k,tb,e,hr=>by
  obtain⟨h1,h2,h3,h4⟩:=right_of hr
  obtain⟨_,k1,k2⟩:=keep_node h (rm_may h1).2
  have hm:=its_mem h4
  refine⟨?_,?_,fun q => ?_⟩
  ·unfold rightO
   rw[k1,k2,h1,h2,h3,its_mono (fun a k tb e hf=>(keep_right h l a k tb e hf).1) _ _ _ h4]
   simp
  ·unfold itsT
   rw[k2]
   exact flat_same fun x hx=>by
    obtain⟨t',e',hf⟩:=hm x hx
    exact(keep_right h l _ _ _ _ hf).2.1
  ·unfold oneO
   rw[k2]
   cases hf:(rmV s a).2.reverse.find? (fun x => !lessK q x.1) with
   | none=>rfl
   | some y =>
    obtain⟨t',e',hf'⟩:=hm y (List.mem_reverse.1 (List.mem_of_find?_eq_some hf))
    exact(keep_right h l _ _ _ _ hf').2.2 q
theorem keep_tree {s t:Rm} (h:KeepR s t) {a:Int} (ht:treeO s a=true):treeO t a=true∧asE t a=0∧rmV t a=rmV s a∧allO t a=allO s a∧∀ q,theO t a q=theO s a q:=by
 obtain⟨h1,ha,hm,l0,l6,hi⟩:=tree_of ht
 obtain⟨k0,k1,k2⟩:=keep_node h ha
 have hi':=hi
 unfold innerO at hi
 have e1:(rmV s a).1.toNat=(rmV t a).1.toNat:=by rw[k2]
 refine⟨?_,k0,k2,?_,fun q => ?_⟩
 ·unfold treeO
  rw[k1,k2,h1]
  unfold innerO
  cases hl:(rmV s a).1.toNat with
  | zero=>rw[hl] at hi;simp only[keep_leaf h hi];rfl
  | succ l=>rw[hl] at hi;simp only[its_mono (fun a k tb e hf=>(keep_right h l a k tb e hf).1) _ _ _ hi];rfl
 ·unfold allO
  rw[← e1]
  cases hl:(rmV s a).1.toNat with
  | zero=>unfold itsT;rw[k2]
  | succ l =>
   rw[hl] at hi
   unfold itsT
   rw[k2]
   exact flat_same fun x hx=>by
    obtain⟨t',e',hf⟩:=its_mem hi x hx
    exact(keep_right h l _ _ _ _ hf).2.1
 ·unfold theO
  rw[← e1]
  cases hl:(rmV s a).1.toNat with
  | zero=>unfold oneO;rw[k2]
  | succ l =>
   rw[hl] at hi
   unfold oneO
   rw[k2]
   cases hf:(rmV s a).2.reverse.find? (fun x => !lessK q x.1) with
   | none=>rfl
   | some y =>
    obtain⟨t',e',hf'⟩:=its_mem hi y (List.mem_reverse.1 (List.mem_of_find?_eq_some hf))
    exact(keep_right h l _ _ _ _ hf').2.2 q
end Go.Proofs.YtogieepfimpdmaaGreat
/-
 Trees by their first and last keys,plain: which may be. Conditions: those that each lemma states.
-/
namespace Go.Proofs.YtogieepfimpdmaaGreat
open Go.RowKit
def chainO (g:Int→Option (Ky×Ky)):List It→Option (Ky×Ky)
 | []=>none
 | [x]=>(g x.2.1).bind fun p=>if p.1=x.1 then some p else none
 | x::y::r=>(g x.2.1).bind fun p=>(chainO g (y::r)).bind fun q=>if p.1=x.1∧lessK p.2 y.1=true then some (p.1,q.2) else none
noncomputable def spanO (s:Rm):Nat→Int→Option (Ky×Ky)
 | 0,a=>if rmE s a=0∧(rmV s a).1=0∧leafO s (rmV s a).2=true then ((rmV s a).2[0]?).bind fun x=>((rmV s a).2.getLast?).map fun y=>(x.1,y.1) else none
 | l+1,a=>if rmE s a=0∧(rmV s a).1=((l+1:Nat):Int) then chainO (spanO s l) (rmV s a).2 else none
def LeK (a b:Ky):Prop:=a=b∨lessK a b=true
theorem LeK.lt {a b c:Ky} (h:LeK a b) (h':lessK b c=true):lessK a c=true:=h.elim (fun e=>by rw[e];exact h') fun h=>less_trans h h'
theorem LeK.trans {a b c:Ky} (h:LeK a b) (h':LeK b c):LeK a c:=h'.elim (fun e=>e ▸ h) fun h'=>.inr (h.lt h')
theorem chain_first {g:Int→Option (Ky×Ky)} (hg:∀ a p,g a=some p→LeK p.1 p.2):∀ {l:List It} {p:Ky×Ky},chainO g l=some p→LeK p.1 p.2∧∃ x r,l=x::r∧p.1=x.1
 | [],_,h=>by cases h
 | [x],p,h=>by
  unfold chainO at h
  cases hx:g x.2.1 with
  | none=>rw[hx] at h;cases h
  | some q =>
   rw[hx] at h
   have h':(if q.1=x.1 then some q else none)=some p:=h
   split at h'
   ·rename_i e
    cases h'
    exact⟨hg _ _ hx,x,[],rfl,e⟩
   ·cases h'
 | x::y::r,p,h=>by
  unfold chainO at h
  cases hx:g x.2.1 with
  | none=>rw[hx] at h;cases h
  | some q =>
   rw[hx] at h
   cases hc:chainO g (y::r) with
   | none=>rw[hc] at h;cases h
   | some q' =>
    rw[hc] at h
    have h':(if q.1=x.1∧lessK q.2 y.1=true then some (q.1,q'.2) else none)=some p:=h
    obtain⟨i1,y',r',e',i2⟩:=chain_first hg hc
    cases e'
    split at h'
    ·rename_i e
     cases h'
     refine⟨.inr ?_,x,y::r,rfl,e.1⟩
     have h1:lessK q.1 y.1=true:=(hg _ _ hx).lt e.2
     rw[← i2] at h1
     exact i1.elim (fun e=>e ▸ h1) fun h2=>less_trans h1 h2
    ·cases h'
theorem span_le (s:Rm):∀ (l:Nat) (a:Int) (p:Ky×Ky),spanO s l a=some p→LeK p.1 p.2
 | 0,a,p,h=>by
  unfold spanO at h
  split at h
  ·rename_i hc
   have hu:=up_may (rm_may hc.1).1
   cases hl:(rmV s a).2 with
   | nil=>rw[hl] at h;cases h
   | cons x r =>
    rw[hl] at h hu
    cases hz:(x::r).getLast? with
    | none=>rw[hz] at h;cases h
    | some z =>
     rw[hz] at h
     cases h
     rcases up_first hu z (List.mem_of_getLast? hz) with e | e
     ·exact .inl e.symm
     ·exact .inr e
  ·cases h
 | l+1,a,p,h=>by
  unfold spanO at h
  split at h
  ·exact(chain_first (span_le s l) h).1
  ·cases h
theorem its_chain {f:Int→Ky→Ky→Bool→Bool} {g:Int→Option (Ky×Ky)} (hle:∀ a p,g a=some p→LeK p.1 p.2) (hfg:∀ a k tb e,f a k tb e=true↔∃ t,g a=some (k,t)∧(e=true→lessK t tb=true)):∀ (l:List It) (tb:Ky) (e:Bool),l≠[] →
  (itsO f l tb e=true↔∃ p,chainO g l=some p∧(e=true→lessK p.2 tb=true))
 | [],_,_,h=>absurd rfl h
 | [x],tb,e,_=>by
  show f x.2.1 x.1 tb e=true↔_
  rw[hfg]
  unfold chainO
  constructor
  ·rintro⟨t,h1,h2⟩
   exact⟨(x.1,t),by rw[h1];simp,h2⟩
  ·rintro⟨p,h1,h2⟩
   cases hx:g x.2.1 with
   | none=>rw[hx] at h1;cases h1
   | some q =>
    rw[hx] at h1
    have h':(if q.1=x.1 then some q else none)=some p:=h1
    split at h'
    ·rename_i e1
     cases h'
     exact⟨p.2,by rw[← e1],h2⟩
    ·cases h'
 | x::y::r,tb,e,_=>by
  have ih:=its_chain hle hfg (y::r) tb e (by simp)
  show (f x.2.1 x.1 y.1 true&&itsO f (y::r) tb e)=true↔_
  rw[Bool.and_eq_true,hfg,ih]
  constructor
  ·rintro⟨⟨t,h1,h2⟩,p,h3,h4⟩
   refine⟨(x.1,p.2),?_,h4⟩
   unfold chainO
   rw[h1,h3]
   simp[h2 rfl]
  ·rintro⟨p,h1,h2⟩
   unfold chainO at h1
   cases hx:g x.2.1 with
   | none=>rw[hx] at h1;cases h1
   | some q =>
    rw[hx] at h1
    cases hc:chainO g (y::r) with
    | none=>rw[hc] at h1;cases h1
    | some q' =>
     rw[hc] at h1
     have h':(if q.1=x.1∧lessK q.2 y.1=true then some (q.1,q'.2) else none)=some p:=h1
     split at h'
     ·rename_i e1
      cases h'
      exact⟨⟨q.2,by rw[← e1.1],fun _=>e1.2⟩,q',rfl,h2⟩
     ·cases h'
theorem right_span (s:Rm):∀ (l:Nat) (a:Int) (k tb:Ky) (e:Bool),rightO s l a k tb e=true↔∃ t,spanO s l a=some (k,t)∧(e=true→lessK t tb=true)
 | 0,a,k,tb,e=>by
  constructor
  ·intro h
   obtain⟨h1,h2,h3,h4⟩:=right_of h
   obtain⟨x,r,hl,ek,hz⟩:=head_of h3
   obtain⟨z,hz1⟩:∃ z,(rmV s a).2.getLast? = some z:=by
    rw[hl]
    exact⟨_,List.getLast?_eq_some_getLast (by simp)⟩
   refine⟨z.1,?_,fun he => ?_⟩
   ·unfold spanO
    rw[if_pos ⟨h1,h2,h4⟩,hz1,show (rmV s a).2[0]? = some x by rw[hl];rfl,← ek]
    rfl
   ·obtain⟨z',e1,e2⟩:=hz he
    rw[hz1] at e1
    cases e1
    exact e2
  ·rintro⟨t,h1,h2⟩
   unfold spanO at h1
   split at h1
   ·rename_i hc
    unfold rightO
    cases hx:(rmV s a).2[0]? with
    | none=>rw[hx] at h1;cases h1
    | some x =>
     cases hz:(rmV s a).2.getLast? with
     | none=>rw[hx,hz] at h1;cases h1
     | some z =>
      rw[hx,hz] at h1
      have h1':(some (x.1,z.1):Option (Ky×Ky))=some (k,t):=h1
      simp only[Option.some.injEq,Prod.mk.injEq] at h1'
      have hh:headO (rmV s a).2 k tb e=true:=by
       unfold headO
       rw[hx,hz]
       cases e with
       | false=>simp[h1'.1]
       | true=>simp[h1'.1,h1'.2,h2 rfl]
      rw[hc.1,hc.2.1,hc.2.2,hh]
      decide
   ·cases h1
 | l+1,a,k,tb,e=>by
  have hc:=its_chain (span_le s l) (fun a k tb e=>right_span s l a k tb e) (rmV s a).2 tb e
  constructor
  ·intro h
   obtain⟨h1,h2,h3,h4⟩:=right_of h
   obtain⟨x,r,hl,ek,_⟩:=head_of h3
   obtain⟨p,hp,hb⟩:=(hc (by rw[hl];simp)).1 h4
   obtain⟨_,x',r',e',hf⟩:=chain_first (span_le s l) hp
   rw[hl] at e'
   cases e'
   refine⟨p.2,?_,hb⟩
   unfold spanO
   rw[if_pos ⟨h1,h2⟩,hp,← ek,← hf]
  ·rintro⟨t,h1,h2⟩
   unfold spanO at h1
   split at h1
   ·rename_i hcond
    obtain⟨_,x,r,hl,hf⟩:=chain_first (span_le s l) h1
    have hi:=(hc (by rw[hl];simp)).2 ⟨(k,t),h1,h2⟩
    have hh:headO (rmV s a).2 k tb e=true:=by
     cases e with
     | false =>
      unfold headO
      rw[hl]
      simp[← hf]
     | true =>
      obtain⟨x',r',e',hp⟩:=part_its (right_part s l) (rmV s a).2 tb true (by rw[hl];simp) hi
      obtain⟨z,hz1⟩:∃ z,(rmV s a).2.getLast? = some z:=by
       rw[hl]
       exact⟨_,List.getLast?_eq_some_getLast (by simp)⟩
      obtain⟨t',e2,hf2⟩:=its_mem hi z (List.mem_of_getLast? hz1)
      obtain⟨y,r2,ey,ky⟩:=(right_part s l _ _ _ _ hf2).first
      have hy:=hp.bound rfl y (List.mem_flatMap.2 ⟨z,List.mem_of_getLast? hz1,by rw[ey];simp⟩)
      rw[ky] at hy
      unfold headO
      rw[hz1,show (rmV s a).2[0]? = some x by rw[hl];rfl]
      simp[← hf,hy]
    unfold rightO
    rw[hcond.1,hcond.2,hh,hi]
    simp
   ·cases h1
theorem tree_span (s:Rm) (a:Int):treeO s a=true↔rmE s a=0∧(match (rmV s a).1.toNat with | 0=>leafO s (rmV s a).2=true | l+1=>∃ p,chainO (spanO s l) (rmV s a).2=some p):=by
 constructor
 ·intro h
  obtain⟨h1,_,hm,l0,_,hi⟩:=tree_of h
  refine⟨h1,?_⟩
  unfold innerO at hi
  cases hl:(rmV s a).1.toNat with
  | zero=>rw[hl] at hi;exact hi
  | succ l =>
   rw[hl] at hi
   have hne:(rmV s a).2≠[]:=fun e=>by
    have:=(mayN_of hm).1.2.2.2 (by omega)
    rw[e] at this
    simp at this
   obtain⟨p,hp,_⟩:=(its_chain (span_le s l) (fun a k tb e=>right_span s l a k tb e) _ keyZ false hne).1 hi
   exact⟨p,hp⟩
 ·rintro⟨h1,h2⟩
  unfold treeO
  rw[h1]
  unfold innerO
  cases hl:(rmV s a).1.toNat with
  | zero=>rw[hl] at h2;simp only[h2];rfl
  | succ l =>
   rw[hl] at h2
   obtain⟨p,hp⟩:=h2
   obtain⟨_,x,r,e,_⟩:=chain_first (span_le s l) hp
   have:=(its_chain (span_le s l) (fun a k tb e=>right_span s l a k tb e) (rmV s a).2 keyZ false (by rw[e];simp)).2 ⟨p,hp,fun h=>by cases h⟩
   simp only[this]
   rfl
end Go.Proofs.YtogieepfimpdmaaGreat
/-
 Bytes of the call's own that are turned where they lie;what lies elsewhere stays. Facts on items whose cells lie in a range that does not move. Conditions: those that each lemma states.
-/
namespace Go.Proofs.YtogieepfimpdmaaGreat
open Go.RowKit
def In (lo hi:Nat):Addr→Prop:=fun p=>lo≤p.block∧p.block<hi
end Go.Proofs.YtogieepfimpdmaaGreat
/-
 A bag's facts on nodes;what places tell,plain. Conditions: those that each lemma states.
-/
namespace Go.Proofs.YtogieepfimpdmaaGreat
open Go.RowKit
theorem bag_node {w w1:World} {Fs:List (World→Prop)} (h:Bag w Fs) (hb:Below w.heap.size w w1) (a b:Value):∃ w',w1.alloc (.cells #[a,b] 45)=w'∧Bag w' (Box2 w1.heap.size a b::Fs)∧Below w.heap.size w w'∧Below w1.heap.size w1 w'∧w1.heap.size<w'.heap.size:=by
 obtain⟨w2,e2,b2,k4,k5⟩:=box_pair' w1 a b 45
 obtain⟨k1,k2,_,k3⟩:=two_cells b2
 exact⟨w2,e2,((h.below hb).below k5).add ⟨k1,k2,k3⟩ (lasts_box _ _ _),hb.trans (k5.mono hb.size),k5,by omega⟩
def OldN (v:Value) (n:Nd):World→Prop:=fun w=>Nod (Old w) w v n
theorem lasts_oldN (v:Value) (n:Nd):Lasts (OldN v n):=fun _ _ h hb=>h.below hb
def OldIs (v:Value) (l:List It):World→Prop:=fun w=>rIts (Old w) w [v] l
theorem lasts_oldIs (v:Value) (l:List It):Lasts (OldIs v l):=fun _ _ h hb=>stab_its.old h hb
theorem cntK_all {l:List It} {k:Ky}:∀ {i:Nat},i≤l.length→(∀ j x,j<i→l[j]? = some x→lessK x.1 k=true)→cntK (l.take i) k=i
 | 0,_,_=>rfl
 | i+1,hi,h=>by
  have hx:l[i]? = some l[i]:=List.getElem?_eq_getElem hi
  rw[cntK_yes hx (h i _ (by omega) hx),cntK_all (by omega) (fun j x hj=>h j x (by omega))]
theorem cntK_up (l:List It) (k:Ky) (i:Nat):cntK (l.take i) k≤cntK l k:=by
 unfold cntK
 exact((List.take_sublist i l).filter _).length_le
theorem cntK_stop {l:List It} {k:Ky} {i:Nat} (h:∀ j x,i≤j→l[j]? = some x→lessK x.1 k=false):cntK l k=cntK (l.take i) k:=by
 have e:cntK l k=cntK (l.take i) k+cntK (l.drop i) k:=by
  unfold cntK
  rw[← List.length_append,← List.filter_append,List.take_append_drop]
 have z:cntK (l.drop i) k=0:=by
  unfold cntK
  rw[List.length_eq_zero_iff,List.filter_eq_nil_iff]
  intro x hx
  obtain⟨j,hj⟩:=List.mem_iff_getElem?.1 hx
  rw[List.getElem?_drop] at hj
  rw[h (i+j) x (by omega) hj]
  simp
 omega
theorem place_parts {n:Nd} (h:mayN n=true) {k:Ky} {i:Nat} {x:It} (hx:n.2[i]? = some x):lessK x.1 k=decide (i<placeN n k):=by
 have hi:=(List.getElem?_eq_some_iff.1 hx).1
 cases e:lessK x.1 k with
 | true =>
  have h1:cntK (n.2.take (i+1)) k=i+1:=cntK_all (by omega) (fun j y hj hy=>by
   rcases Nat.lt_or_ge j i with h2 | h2
   ·exact less_trans (mayN_rises h h2 hy hx) e
   ·obtain rfl:j=i:=by omega
    rw[hx] at hy
    cases hy
    exact e)
  have h2:=cntK_up n.2 k (i+1)
  have h3:placeN n k=cntK n.2 k:=rfl
  have:i<placeN n k:=by omega
  simp[this]
 | false =>
  have h1:cntK n.2 k=cntK (n.2.take i) k:=cntK_stop (fun j y hj hy=>by
   rcases Nat.lt_or_ge i j with h2 | h2
   ·cases e2:lessK y.1 k with
    | false=>rfl
    | true =>
     have:=less_trans (mayN_rises h h2 hx hy) e2
     rw[e] at this
     cases this
   ·obtain rfl:i=j:=by omega
    rw[hx] at hy
    cases hy
    exact e)
  have h2:=cntK_take n.2 k i
  have h3:placeN n k=cntK n.2 k:=rfl
  have:¬ i<placeN n k:=by omega
  simp[this]
theorem placeN_le (n:Nd) (k:Ky):placeN n k≤n.2.length:=cntK_le _ _
theorem place_own {n:Nd} (h:mayN n=true) {i:Nat} {x:It} (hx:n.2[i]? = some x):placeN n x.1=i∧thereN n x.1=true:=by
 have hi:=(List.getElem?_eq_some_iff.1 hx).1
 have h1:¬ i<placeN n x.1:=fun h2=>by
  have:=place_parts h (k:=x.1) hx
  rw[less_self] at this
  simp[h2] at this
 have h2:placeN n x.1=i:=by
  rcases Nat.eq_zero_or_pos i with h0 | h0
  ·omega
  ·obtain⟨j,rfl⟩:∃ j,i=j+1:=⟨i-1,by omega⟩
   have hy:n.2[j]? = some n.2[j]:=List.getElem?_eq_getElem (by omega)
   have h3:=place_parts h (k:=x.1) hy
   rw[mayN_rise h hy hx] at h3
   have:j<placeN n x.1:=by simpa using h3.symm
   omega
 exact⟨h2,by rw[thereN_at (by rw[h2];exact hx)];simp⟩
end Go.Proofs.YtogieepfimpdmaaGreat
/-
 What is found,as package find and the document go down;parts of a tree by its node;plain. Conditions: those that each lemma states.
-/
namespace Go.Proofs.YtogieepfimpdmaaGreat
open Go.RowKit
theorem rev_step {p:It→Bool} {l:List It} {k:Nat} {x:It} (hx:l[k]? = some x):(l.take (k+1)).reverse.find? p=if p x=true then some x else (l.take k).reverse.find? p:=by
 have hk:=(List.getElem?_eq_some_iff.1 hx).1
 have hg:l[k]=x:=(List.getElem?_eq_some_iff.1 hx).2
 rw[← List.take_append_getElem hk,hg,List.reverse_append,List.reverse_singleton,List.singleton_append,List.find?_cons]
 cases p x <;> rfl
theorem rev_at {p:It→Bool} {l:List It} {j:Nat} {x:It} (hx:l[j]? = some x) (h1:p x=true) (h2:∀ i y,j<i→l[i]? = some y→p y=false):l.reverse.find? p=some x:=by
 have e:l.reverse.find? p=(l.take (j+1)).reverse.find? p:=by
  conv=>lhs;rw[← List.take_append_drop (j+1) l,List.reverse_append,List.find?_append]
  rw[find_none (l:=l.drop (j+1)) fun y hy=>by
   obtain⟨i,hi⟩:=List.getElem?_of_mem hy
   rw[List.getElem?_drop] at hi
   exact h2 (j+1+i) y (by omega) hi]
  rfl
 rw[e,rev_step hx,if_pos h1]
theorem place_below {n:Nd} (h:mayN n=true) {k:Ky} {x:It} (ht:thereN n k=true) (hx:n.2[placeN n k]? = some x):x.1=k∧(n.2.reverse.find? fun x => !lessK k x.1)=some x∧(n.2.reverse.find? fun x=>decide (x.1=k))=some x:=by
 have e:x.1=k:=by
  rw[thereN_at hx] at ht
  simpa using ht
 have hup:∀ i y,placeN n k<i→n.2[i]? = some y→lessK k y.1=true:=fun i y hi hy=>by
  rw[← e]
  exact mayN_rises h hi hx hy
 refine⟨e,rev_at hx (by rw[e,less_self];rfl) fun i y hi hy=>by rw[hup i y hi hy];rfl,rev_at hx (by simpa using e) fun i y hi hy => ?_⟩
 have h1:=hup i y hi hy
 have:y.1≠k:=fun e2=>by rw[e2,less_self] at h1;cases h1
 simpa using this
theorem place_behind {n:Nd} (h:mayN n=true) {k:Ky} (ht:thereN n k=false) {i:Nat} {y:It} (hi:placeN n k≤i) (hy:n.2[i]? = some y):lessK k y.1=true:=by
 have h1:=place_parts h (k:=k) hy
 rw[decide_eq_false (by omega)] at h1
 have hne:y.1≠k:=fun e=>by
  have:=(place_own h hy).2
  rw[e,ht] at this
  cases this
 exact less_total hne h1
theorem place_in {n:Nd} {k:Ky} (ht:thereN n k=true):placeN n k<n.2.length:=by
 rcases Nat.lt_or_ge (placeN n k) n.2.length with h | h
 ·exact h
 ·rw[thereN_out h] at ht
  cases ht
structure AtT (s:Rm) (l:Nat) (a:Int):Prop where
 ok:rmE s a=0
 lvl:(rmV s a).1=(l:Int)
 below:∀ j,l=j+1→∀ x∈(rmV s a).2,∃ t e,rightO s j x.2.1 x.1 t e=true
theorem AtT.may {s:Rm} {l:Nat} {a:Int} (h:AtT s l a):mayN (rmV s a)=true:=(rm_may h.ok).1
theorem right_at {s:Rm} {l:Nat} {a:Int} {k tb:Ky} {e:Bool} (h:rightO s l a k tb e=true):AtT s l a:=by
 obtain⟨h1,h2,_,h4⟩:=right_of h
 refine⟨h1,h2,fun j hj x hx => ?_⟩
 subst hj
 exact its_mem h4 x hx
theorem AtT.down {s:Rm} {j:Nat} {a:Int} (h:AtT s (j+1) a) {x:It} (hx:x∈(rmV s a).2):AtT s j x.2.1:=by
 obtain⟨t,e,hr⟩:=h.below j rfl x hx
 exact right_at hr
theorem tree_at {s:Rm} {a:Int} (h:treeO s a=true):AtT s (rmV s a).1.toNat a:=by
 obtain⟨h1,_,_,l0,_,hi⟩:=tree_of h
 refine⟨h1,by omega,fun j hj x hx => ?_⟩
 unfold innerO at hi
 rw[hj] at hi
 exact its_mem hi x hx
noncomputable def spanN (s:Rm) (n:Nd):Option (Ky×Ky):=match n.1.toNat with
 | 0=>if leafO s n.2=true then (n.2[0]?).bind fun x=>(n.2.getLast?).map fun y=>(x.1,y.1) else none
 | l+1=>chainO (spanO s l) n.2
theorem span_node (s:Rm) (l:Nat) (a:Int):spanO s l a=if rmE s a=0∧(rmV s a).1=(l:Int) then spanN s (rmV s a) else none:=by
 cases l with
 | zero =>
  unfold spanO
  by_cases h1:rmE s a=0∧(rmV s a).1=((0:Nat):Int)
  ·rw[if_pos h1]
   unfold spanN
   rw[h1.2]
   by_cases h2:leafO s (rmV s a).2=true
   ·rw[if_pos ⟨h1.1,rfl,h2⟩]
    show _=if leafO s (rmV s a).2=true then _ else none
    rw[if_pos h2]
   ·rw[if_neg (fun h=>h2 h.2.2)]
    show _=if leafO s (rmV s a).2=true then _ else none
    rw[if_neg h2]
  ·rw[if_neg h1,if_neg (fun h=>h1 ⟨h.1,h.2.1⟩)]
 | succ l =>
  unfold spanO
  by_cases h1:rmE s a=0∧(rmV s a).1=((l+1:Nat):Int)
  ·rw[if_pos h1,if_pos h1]
   unfold spanN
   rw[h1.2,show ((l+1:Nat):Int).toNat=l+1 by omega]
  ·rw[if_neg h1,if_neg h1]
theorem span_zero {s:Rm} {n:Nd} {x y:It} {j:Nat} (h:n.1=0) (hx:n.2[0]? = some x) (hj:n.2.length=j+1) (hy:n.2[j]? = some y):spanN s n=if leafO s n.2=true then some (x.1,y.1) else none:=by
 have hl:n.2.getLast? = some y:=by rw[List.getLast?_eq_getElem?,hj];exact hy
 unfold spanN
 rw[h]
 show (if leafO s n.2=true then _ else none)=_
 rw[hx,hl]
 rfl
theorem span_succ {s:Rm} {n:Nd} {l:Nat} (h:n.1=((l+1:Nat):Int)):spanN s n=chainO (spanO s l) n.2:=by
 unfold spanN
 rw[h,show ((l+1:Nat):Int).toNat=l+1 by omega]
theorem chain_one {g:Int→Option (Ky×Ky)} {l:List It} {x:It} (hx:l[0]? = some x):chainO g (l.take 1)=(g x.2.1).bind fun p=>if p.1=x.1 then some p else none:=by
 cases l with
 | nil=>cases hx
 | cons y r =>
  cases hx
  rfl
theorem chain_app {g:Int→Option (Ky×Ky)} (x:It):∀ (l:List It),l≠[]→chainO g (l++[x])=(chainO g l).bind fun q=>(g x.2.1).bind fun p=>if p.1=x.1∧lessK q.2 x.1=true then some (q.1,p.2) else none
 | [],h=>absurd rfl h
 | [y],_=>by
  show (g y.2.1).bind _=_
  unfold chainO
  cases g y.2.1 with
  | none=>rfl
  | some p =>
   show ((chainO g [x]).bind _)=((if p.1=y.1 then some p else none):Option (Ky×Ky)).bind _
   unfold chainO
   cases g x.2.1 with
   | none =>
    by_cases h1:p.1=y.1 <;> simp[h1]
   | some q =>
    by_cases h1:p.1=y.1 <;> by_cases h2:q.1=x.1 <;> by_cases h3:lessK p.2 x.1=true <;> simp[h1,h2,h3]
 | y::z::r,_=>by
  have ih:=chain_app (g:=g) x (z::r) (by simp)
  show (g y.2.1).bind (fun p=>(chainO g (z::r++[x])).bind _)=_
  rw[ih]
  conv=>rhs;unfold chainO
  cases g y.2.1 with
  | none=>rfl
  | some p =>
   cases chainO g (z::r) with
   | none=>rfl
   | some q =>
    cases g x.2.1 with
    | none =>
     by_cases h1:p.1=y.1∧lessK p.2 z.1=true <;> simp[h1]
    | some q' =>
     by_cases h1:p.1=y.1∧lessK p.2 z.1=true <;> by_cases h2:q'.1=x.1∧lessK q.2 x.1=true <;> simp[h1,h2]
theorem chain_take {g:Int→Option (Ky×Ky)} {l:List It} {k:Nat} {x:It} (hx:l[k]? = some x) (hk:0<k):chainO g (l.take (k+1))=(chainO g (l.take k)).bind fun q=>(g x.2.1).bind fun p=>if p.1=x.1∧lessK q.2 x.1=true then some (q.1,p.2) else none:=by
 have hl:=(List.getElem?_eq_some_iff.1 hx).1
 have hg:l[k]=x:=(List.getElem?_eq_some_iff.1 hx).2
 rw[← List.take_append_getElem hl,hg]
 exact chain_app x _ fun e=>by
  have h0:(l.take k).length=0:=by rw[e];rfl
  rw[List.length_take] at h0
  omega
theorem chain_bad {g:Int→Option (Ky×Ky)} {l:List It}:∀ {k:Nat},0<k→chainO g (l.take k)=none→chainO g l=none:=fun {k} hk h=>by
 induction hn:l.length-k generalizing k with
 | zero=>rwa [List.take_of_length_le (by omega)] at h
 | succ n ih =>
  obtain⟨x,hx⟩:∃ x,l[k]? = some x:=⟨_,List.getElem?_eq_getElem (by omega)⟩
  exact ih (k:=k+1) (by omega) (by rw[chain_take hx hk,h];rfl) (by omega)
theorem chain_key {g:Int→Option (Ky×Ky)} {l:List It} {x:It} (hx:l[0]? = some x):∀ {k:Nat} {q:Ky×Ky},0<k→k≤l.length→chainO g (l.take k)=some q→q.1=x.1:=fun {k} {q} hk hl h=>by
 induction k generalizing q with
 | zero=>omega
 | succ k ih =>
  by_cases h0:k=0
  ·subst h0
   rw[chain_one hx] at h
   cases hg:g x.2.1 with
   | none=>rw[hg] at h;cases h
   | some p =>
    rw[hg] at h
    have h':(if p.1=x.1 then some p else none)=some q:=h
    split at h'
    ·rename_i e;cases h';exact e
    ·cases h'
  ·obtain⟨y,hy⟩:∃ y,l[k]? = some y:=⟨_,List.getElem?_eq_getElem (by omega)⟩
   rw[chain_take hy (by omega)] at h
   cases hc:chainO g (l.take k) with
   | none=>rw[hc] at h;cases h
   | some q' =>
    have e:=ih (by omega) (by omega) hc
    rw[hc] at h
    cases hg:g y.2.1 with
    | none=>rw[hg] at h;cases h
    | some p =>
     rw[hg] at h
     have h':(if p.1=y.1∧lessK q'.2 y.1=true then some (q'.1,p.2) else none)=some q:=h
     split at h'
     ·cases h';exact e
     ·cases h'
noncomputable def standsN (s:Rm) (n:Nd):Bool:=decide (n.2.length=0)||(spanN s n).isSome
theorem stands_tree {s:Rm} {a:Int} (h:rmE s a=0):standsN s (rmV s a)=treeO s a:=by
 have hm:=(rm_may h).1
 have hsh:=(mayN_of hm).1
 have e:treeO s a=true↔standsN s (rmV s a)=true:=by
  rw[tree_span]
  unfold standsN
  rw[Bool.or_eq_true,decide_eq_true_eq]
  cases hl:(rmV s a).1.toNat with
  | zero =>
   have h0:(rmV s a).1=0:=by omega
   simp only
   by_cases hz:(rmV s a).2.length=0
   ·have:(rmV s a).2=[]:=List.eq_nil_of_length_eq_zero hz
    rw[this]
    simp[h,leafO]
   ·obtain⟨j,hj⟩:∃ j,(rmV s a).2.length=j+1:=⟨(rmV s a).2.length-1,by omega⟩
    obtain⟨x,hx⟩:∃ x,(rmV s a).2[0]? = some x:=⟨_,List.getElem?_eq_getElem (by omega)⟩
    obtain⟨y,hy⟩:∃ y,(rmV s a).2[j]? = some y:=⟨_,List.getElem?_eq_getElem (by omega)⟩
    rw[span_zero h0 hx hj hy]
    by_cases h2:leafO s (rmV s a).2=true <;> simp[h,h2,hz]
  | succ l =>
   have h1:(rmV s a).1=((l+1:Nat):Int):=by omega
   have hz:¬ (rmV s a).2.length=0:=by have:=hsh.2.2.2 (by omega);omega
   rw[span_succ h1]
   simp only
   constructor
   ·rintro⟨_,p,hp⟩
    rw[hp]
    exact .inr rfl
   ·rintro(h3 | h3)
    ·exact absurd h3 hz
    ·exact⟨h,Option.isSome_iff_exists.1 h3⟩
 cases h1:treeO s a with
 | true=>exact e.1 h1
 | false =>
  cases h2:standsN s (rmV s a) with
  | false=>rfl
  | true=>rw[e.2 h2] at h1;cases h1
end Go.Proofs.YtogieepfimpdmaaGreat
/-
 All items of a tree,level by level,as the laws of layer 10 gather them;how often a key is among them;plain. Conditions: those that each lemma states.
-/
namespace Go.Proofs.YtogieepfimpdmaaGreat
open Go.RowKit
def manyK (k:Ky) (l:List It):Nat:=(l.filter fun x=>decide (x.1=k)).length
end Go.Proofs.YtogieepfimpdmaaGreat
/-
 Items between two keys,and the blocks of trees,plain. Conditions: those that each lemma states.
-/
namespace Go.Proofs.YtogieepfimpdmaaGreat
open Go.RowKit
def betw (f t:Ky) (x:It):Bool := !lessK x.1 f && !lessK t x.1
noncomputable def rangeO (s:Rm) (a:Int) (f t:Ky):List It:=(allO s a).filter (betw f t)
noncomputable def raV (s:Rm) (a:Int) (f t:Ky):List It:=if ckE s a=0 then rangeO s a f t else []
theorem betw_iff {f t:Ky} {x:It}:betw f t x=true↔lessK x.1 f=false∧lessK t x.1=false:=by
 unfold betw
 simp
theorem less_le {a b c:Ky} (h:lessK b a=false) (h':lessK b c=true):lessK a c=true:=by
 by_cases e:b=a
 ·rw[← e];exact h'
 ·exact less_trans (less_total e h) h'
theorem le_less {a b c:Ky} (h:lessK a b=true) (h':lessK c b=false):lessK a c=true:=by
 by_cases e:c=b
 ·rw[e];exact h
 ·exact less_trans h (less_total e h')
theorem filter_none {p:It→Bool} {L:List It} (h:∀ x∈L,p x=false):L.filter p=[]:=by
 rw[List.filter_eq_nil_iff]
 intro x hx
 rw[h x hx]
 simp
noncomputable def nodesT (s:Rm):Nat→Int→List Int
 | 0,a=>[a]
 | l+1,a=>a::(rmV s a).2.flatMap fun x=>nodesT s l x.2.1
noncomputable def refsT (s:Rm):Nat→Int→List Int
 | 0,a=>((rmV s a).2.map fun x=>x.2.1).filter fun r=>decide (r≠0)
 | l+1,a=>(rmV s a).2.flatMap fun x=>refsT s l x.2.1
noncomputable def nodesO (s:Rm) (a:Int):List Int:=nodesT s (rmV s a).1.toNat a
noncomputable def refsO (s:Rm) (a:Int):List Int:=refsT s (rmV s a).1.toNat a
def markO (L:List Int):List Nat:=(List.range 256).filter fun k=>decide ((k:Int)∈L)
theorem mark_up (L:List Int):(markO L).Pairwise (· < ·):=List.Pairwise.filter _ List.pairwise_lt_range
theorem mark_in {L:List Int} {k:Nat}:k∈markO L↔k<256∧(k:Int)∈L:=by
 unfold markO
 rw[List.mem_filter,List.mem_range,decide_eq_true_eq]
structure Blk (s:Rm) (l:Nat) (a:Int) (N R:List Int):Prop where
 root:a∈N
 node:∀ n∈N,rmE s n=0
 sub:∀ n∈N,∀ x∈(rmV s n).2,((rmV s n).1≠0→x.2.1∈N)∧((rmV s n).1=0→x.2.1≠0→x.2.1∈R)
 held:∀ r∈R,r≠0∧s.2.1[r.toNat]?.getD 0≠0∧8≤r∧r<256
theorem leaf_in {s:Rm} {l:List It} (h:leafO s l=true) {x:It} (hx:x∈l):x.2.1=0∨s.2.1[x.2.1.toNat]?.getD 0≠0:=by
 unfold leafO at h
 rw[List.all_eq_true] at h
 have:=h x hx
 simpa using this
theorem may_ref {n:Nd} (h:mayN n=true) {x:It} (hx:x∈n.2):x.2.1=0∨(8≤x.2.1∧x.2.1<256):=by
 obtain⟨i,hi⟩:=List.getElem?_of_mem hx
 exact(mayI_of (okP_may (mayN_item h hi))).1
theorem leaf_blk {s:Rm} {a:Int} (h1:rmE s a=0) (h2:(rmV s a).1=0) (h3:leafO s (rmV s a).2=true):Blk s 0 a (nodesT s 0 a) (refsT s 0 a):=by
 have hm:=(rm_may h1).1
 refine⟨by simp[nodesT],fun n hn => ?_,fun n hn x hx => ?_,fun r hr => ?_⟩
 ·simp only[nodesT,List.mem_singleton] at hn
  subst hn
  exact h1
 ·simp only[nodesT,List.mem_singleton] at hn
  subst hn
  refine⟨fun h=>absurd h2 h,fun _ h0 => ?_⟩
  simp only[refsT,List.mem_filter,List.mem_map,decide_eq_true_eq]
  exact⟨⟨x,hx,rfl⟩,h0⟩
 ·simp only[refsT,List.mem_filter,List.mem_map,decide_eq_true_eq] at hr
  obtain⟨⟨x,hx,rfl⟩,h0⟩:=hr
  rcases may_ref hm hx with e | e
  ·exact absurd e h0
  ·rcases leaf_in h3 hx with e' | e'
   ·exact absurd e' h0
   ·exact⟨h0,e',e.1,e.2⟩
theorem up_blk {s:Rm} {l:Nat} {a:Int} (h1:rmE s a=0) (h2:(rmV s a).1=((l+1:Nat):Int)) (h3:∀ x∈(rmV s a).2,Blk s l x.2.1 (nodesT s l x.2.1) (refsT s l x.2.1)):Blk s (l+1) a (nodesT s (l+1) a) (refsT s (l+1) a):=by
 refine⟨by simp[nodesT],fun n hn => ?_,fun n hn x hx => ?_,fun r hr => ?_⟩
 ·simp only[nodesT,List.mem_cons,List.mem_flatMap] at hn
  rcases hn with rfl | ⟨y,hy,hn⟩
  ·exact h1
  ·exact(h3 y hy).node n hn
 ·simp only[nodesT,List.mem_cons,List.mem_flatMap] at hn ⊢
  simp only[refsT,List.mem_flatMap]
  rcases hn with rfl | ⟨y,hy,hn⟩
  ·exact⟨fun _=>.inr ⟨x,hx,(h3 x hx).root⟩,fun h=>by rw[h2] at h;omega⟩
  ·obtain⟨e1,e2⟩:=(h3 y hy).sub n hn x hx
   exact⟨fun h=>.inr ⟨y,hy,e1 h⟩,fun h h'=>⟨y,hy,e2 h h'⟩⟩
 ·simp only[refsT,List.mem_flatMap] at hr
  obtain⟨y,hy,hr⟩:=hr
  exact(h3 y hy).held r hr
theorem right_blk (s:Rm):∀ (l:Nat) (a:Int) (k tb:Ky) (e:Bool),rightO s l a k tb e=true→Blk s l a (nodesT s l a) (refsT s l a)
 | 0,a,k,tb,e,h=>by
  obtain⟨h1,h2,_,h4⟩:=right_of h
  exact leaf_blk h1 h2 h4
 | l+1,a,k,tb,e,h=>by
  obtain⟨h1,h2,_,h4⟩:=right_of h
  exact up_blk h1 h2 fun x hx=>by
   obtain⟨t',e',hf⟩:=its_mem h4 x hx
   exact right_blk s l _ _ _ _ hf
theorem tree_blk {s:Rm} {a:Int} (h:treeO s a=true):Blk s (rmV s a).1.toNat a (nodesO s a) (refsO s a):=by
 obtain⟨h1,_,_,l0,_,hi⟩:=tree_of h
 unfold nodesO refsO
 unfold innerO at hi
 cases hl:(rmV s a).1.toNat with
 | zero =>
  rw[hl] at hi
  exact leaf_blk h1 (by omega) hi
 | succ l =>
  rw[hl] at hi
  exact up_blk h1 (by omega) fun x hx=>by
   obtain⟨t',e',hf⟩:=its_mem hi x hx
   exact right_blk s l _ _ _ _ hf
theorem node_place {s:Rm} {n:Int} (h:rmE s n=0):8≤n∧n<256∧s.2.1[n.toNat]?.getD 0≠0:=by
 obtain⟨k,rfl,_,h8,h256,_,_,_,_,hx⟩:=as_read (rm_may h).2
 exact⟨by omega,by omega,by rw[show ((k:Int)).toNat=k by omega];exact hx⟩
end Go.Proofs.YtogieepfimpdmaaGreat
/-
 No block of a tree is met twice;marks;plain. Conditions: those that each lemma states.
-/
namespace Go.Proofs.YtogieepfimpdmaaGreat
open Go.RowKit
theorem node_self (s:Rm):∀ (l:Nat) (a:Int),a∈nodesT s l a
 | 0,a=>by simp[nodesT]
 | l+1,a=>by simp[nodesT]
end Go.Proofs.YtogieepfimpdmaaGreat
/-
 A tree stays where its own blocks stay;plain. Conditions: those that each lemma states.
-/
namespace Go.Proofs.YtogieepfimpdmaaGreat
open Go.RowKit
structure OnT (s t:Rm) (N R:List Int):Prop where
 may:mayR t=true
 node:∀ n∈N,t.2.1[n.toNat]?.getD 0≠0
 seen:∀ n∈N,seenD t.1 n.toNat=seenD s.1 n.toNat
 refs:∀ r∈R,t.2.1[r.toNat]?.getD 0≠0
theorem on_node {s t:Rm} {N R:List Int} (h:OnT s t N R) {n:Int} (hn:n∈N) (he:rmE s n=0):rmE t n=0∧rmV t n=rmV s n:=by
 obtain⟨_,ha⟩:=rm_may he
 obtain⟨k,rfl,hm,h8,h256,_,_,hE,hV,hx⟩:=as_read ha
 have h1:=h.node _ hn
 have h2:=h.seen _ hn
 rw[show ((k:Int)).toNat=k by omega] at h1 h2
 have ht:asE t (k:Int)=0:=as_yes h.may h8 h256 h1
 refine⟨?_,?_⟩
 ·rw[rmE,if_pos ht,show ((k:Int)).toNat=k by omega,h2,← hE]
  exact he
 ·rw[hV,rmV,if_pos ht,show ((k:Int)).toNat=k by omega,h2]
theorem on_leaf {s t:Rm} {N R:List Int} (h:OnT s t N R) {l:List It} (hl:∀ x∈l,x.2.1≠0→x.2.1∈R):leafO t l=true:=by
 unfold leafO
 rw[List.all_eq_true]
 intro x hx
 by_cases h0:x.2.1=0
 ·simp[h0]
 ·have:=h.refs _ (hl x hx h0)
  simp[this]
theorem flat_int {g g':Int→List Int}:∀ {l:List It},(∀ x∈l,g x.2.1=g' x.2.1)→l.flatMap (fun x=>g x.2.1)=l.flatMap fun x=>g' x.2.1
 | [],_=>rfl
 | x::r,h=>by
  rw[List.flatMap_cons,List.flatMap_cons,h x List.mem_cons_self,flat_int fun y hy=>h y (List.mem_cons_of_mem _ hy)]
theorem its_mem2 {f f':Int→Ky→Ky→Bool→Bool}:∀ {l:List It} {tb:Ky} {e:Bool},(∀ x∈l,∀ k tb e,f x.2.1 k tb e=true→f' x.2.1 k tb e=true)→itsO f l tb e=true→itsO f' l tb e=true
 | [],_,_,_,_=>rfl
 | x::r,tb,e,h,hf=>by
  rw[its_cons,Bool.and_eq_true] at hf ⊢
  exact⟨h x List.mem_cons_self _ _ _ hf.1,its_mem2 (fun y hy=>h y (List.mem_cons_of_mem _ hy)) hf.2⟩
structure SameT (s t:Rm) (l:Nat) (a:Int):Prop where
 its:itsT t l a=itsT s l a
 one:∀ q,oneO t l a q=oneO s l a q
 nodes:nodesT t l a=nodesT s l a
 refs:refsT t l a=refsT s l a
theorem on_right {s t:Rm} {N R:List Int} (h:OnT s t N R):∀ (l:Nat) (a:Int) (k tb:Ky) (e:Bool),rightO s l a k tb e=true→(∀ n∈nodesT s l a,n∈N)→(∀ r∈refsT s l a,r∈R)→rightO t l a k tb e=true∧SameT s t l a
 | 0,a,k,tb,e,hr,h1,h2=>by
  obtain⟨r1,r2,r3,r4⟩:=right_of hr
  obtain⟨k1,k2⟩:=on_node h (h1 a (node_self s 0 a)) r1
  refine⟨?_,by unfold itsT;rw[k2],fun q=>by unfold oneO;rw[k2],rfl,by unfold refsT;rw[k2]⟩
  have hl:leafO t (rmV s a).2=true:=on_leaf h fun x hx h0=>h2 _ (by
   simp only[refsT,List.mem_filter,List.mem_map,decide_eq_true_eq]
   exact⟨⟨x,hx,rfl⟩,h0⟩)
  unfold rightO
  rw[k1,k2,r2,r3,hl]
  rfl
 | l+1,a,k,tb,e,hr,h1,h2=>by
  obtain⟨r1,r2,r3,r4⟩:=right_of hr
  obtain⟨k1,k2⟩:=on_node h (h1 a (node_self s (l+1) a)) r1
  have g1:∀ x∈(rmV s a).2,∀ n∈nodesT s l x.2.1,n∈N:=fun x hx n hn=>h1 n (by
   simp only[nodesT,List.mem_cons,List.mem_flatMap]
   exact .inr ⟨x,hx,hn⟩)
  have g2:∀ x∈(rmV s a).2,∀ n∈refsT s l x.2.1,n∈R:=fun x hx n hn=>h2 n (by
   simp only[refsT,List.mem_flatMap]
   exact⟨x,hx,hn⟩)
  have hs:∀ x∈(rmV s a).2,SameT s t l x.2.1:=fun x hx=>by
   obtain⟨t',e',hf⟩:=its_mem r4 x hx
   exact(on_right h l _ _ _ _ hf (g1 x hx) (g2 x hx)).2
  have hi:itsO (rightO t l) (rmV s a).2 tb e=true:=its_mem2 (fun x hx k tb e hf=>(on_right h l _ _ _ _ hf (g1 x hx) (g2 x hx)).1) r4
  refine⟨?_,?_,fun q => ?_,?_,?_⟩
  ·unfold rightO
   rw[k1,k2,r2,r3,hi]
   simp
  ·unfold itsT
   rw[k2]
   exact flat_same fun x hx=>(hs x hx).its
  ·unfold oneO
   rw[k2]
   cases hf:(rmV s a).2.reverse.find? (fun x => !lessK q x.1) with
   | none=>rfl
   | some y=>exact(hs y (List.mem_reverse.1 (List.mem_of_find?_eq_some hf))).one q
  ·unfold nodesT
   rw[k2]
   exact congrArg (a :: ·) (flat_int fun x hx=>(hs x hx).nodes)
  ·unfold refsT
   rw[k2]
   exact flat_int fun x hx=>(hs x hx).refs
theorem on_tree {s t:Rm} {N R:List Int} (h:OnT s t N R) {a:Int} (ht:treeO s a=true) (h1:∀ n∈nodesO s a,n∈N) (h2:∀ r∈refsO s a,r∈R) :
  treeO t a=true∧rmV t a=rmV s a∧allO t a=allO s a∧(∀ q,theO t a q=theO s a q)∧nodesO t a=nodesO s a∧refsO t a=refsO s a:=by
 obtain⟨r1,_,hm,l0,l6,hi⟩:=tree_of ht
 have hin:a∈N:=h1 a (tree_blk ht).root
 obtain⟨k1,k2⟩:=on_node h hin r1
 unfold nodesO at h1
 unfold refsO at h2
 unfold innerO at hi
 unfold allO theO nodesO refsO treeO innerO
 rw[k1,k2]
 cases hl:(rmV s a).1.toNat with
 | zero =>
  rw[hl] at hi h1 h2
  have hlf:leafO t (rmV s a).2=true:=on_leaf h fun x hx h0=>h2 _ (by
   simp only[refsT,List.mem_filter,List.mem_map,decide_eq_true_eq]
   exact⟨⟨x,hx,rfl⟩,h0⟩)
  refine⟨by simp only[hlf];rfl,rfl,by unfold itsT;rw[k2],fun q=>by unfold oneO;rw[k2],rfl,by unfold refsT;rw[k2]⟩
 | succ l =>
  rw[hl] at hi h1 h2
  have g1:∀ x∈(rmV s a).2,∀ n∈nodesT s l x.2.1,n∈N:=fun x hx n hn=>h1 n (by
   simp only[nodesT,List.mem_cons,List.mem_flatMap]
   exact .inr ⟨x,hx,hn⟩)
  have g2:∀ x∈(rmV s a).2,∀ n∈refsT s l x.2.1,n∈R:=fun x hx n hn=>h2 n (by
   simp only[refsT,List.mem_flatMap]
   exact⟨x,hx,hn⟩)
  have hs:∀ x∈(rmV s a).2,SameT s t l x.2.1:=fun x hx=>by
   obtain⟨t',e',hf⟩:=its_mem hi x hx
   exact(on_right h l _ _ _ _ hf (g1 x hx) (g2 x hx)).2
  have hi':itsO (rightO t l) (rmV s a).2 keyZ false=true:=its_mem2 (fun x hx k tb e hf=>(on_right h l _ _ _ _ hf (g1 x hx) (g2 x hx)).1) hi
  refine⟨by simp only[hi'];rfl,rfl,?_,fun q => ?_,?_,?_⟩
  ·unfold itsT
   rw[k2]
   exact flat_same fun x hx=>(hs x hx).its
  ·unfold oneO
   rw[k2]
   cases hf:(rmV s a).2.reverse.find? (fun x => !lessK q x.1) with
   | none=>rfl
   | some y=>exact(hs y (List.mem_reverse.1 (List.mem_of_find?_eq_some hf))).one q
  ·unfold nodesT
   rw[k2]
   exact congrArg (a :: ·) (flat_int fun x hx=>(hs x hx).nodes)
  ·unfold refsT
   rw[k2]
   exact flat_int fun x hx=>(hs x hx).refs
end Go.Proofs.YtogieepfimpdmaaGreat
/-
 Blocks that are counted often enough,where something is left;plain. Conditions: those that each lemma states.
-/
namespace Go.Proofs.YtogieepfimpdmaaGreat
open Go.RowKit
noncomputable def ndD (d:Dk) (n:Int):Nd:=reV (seenD d n.toNat)
noncomputable def sumD (d:Dk):List Int→Nat→Nat
 | [],_=>0
 | n::r,k=>cntR (ndD d n).2 k+sumD d r k
def cnt8 (t:List UInt8) (k:Nat):Nat:=(t[k]?.getD 0).toNat
structure Enf (d:Dk) (t:List UInt8) (P:Nat→Nat) (N:List Int):Prop where
 once:N.Nodup
 node:∀ n∈N,0≤n∧n<256∧reN (seenD d n.toNat)=0∧cnt8 t n.toNat≠0
 shut:∀ n∈N,(ndD d n).1≠0→∀ x∈(ndD d n).2,x.2.1∈N∧x.2.1≠0∧(ndD d x.2.1).1+1=(ndD d n).1
 refs:∀ n∈N,refsOk (ndD d n).2
 enough:∀ k,P k+sumD d N k≤cnt8 t k
theorem sumD_less (d:Dk) (p:Int→Bool) (k:Nat):∀ N:List Int,sumD d (N.filter p) k≤sumD d N k
 | []=>Nat.le_refl _
 | n::r=>by
  have:=sumD_less d p k r
  rw[List.filter_cons]
  split
  ·unfold sumD;omega
  ·show sumD d (r.filter p) k≤cntR (ndD d n).2 k+sumD d r k
   omega
theorem sumD_but {d:Dk} {a:Int} {k:Nat}:∀ {N:List Int},N.Nodup→a∈N→sumD d N k=cntR (ndD d a).2 k+sumD d (N.filter fun n=>decide (n≠a)) k
 | n::r,h,ha=>by
  obtain⟨h1,h2⟩:=List.nodup_cons.1 h
  by_cases e:n=a
  ·subst e
   have:(n::r).filter (fun m=>decide (m≠n))=r:=by
    rw[List.filter_cons_of_neg (by simp),List.filter_eq_self]
    intro m hm
    have:m≠n:=fun e=>h1 (e ▸ hm)
    simpa using this
   rw[this]
   rfl
  ·have ha':a∈r:=by
    rcases List.mem_cons.1 ha with e' | h
    ·exact absurd e'.symm e
    ·exact h
   rw[List.filter_cons_of_pos (by simpa using e)]
   show cntR (ndD d n).2 k+sumD d r k=_+(cntR (ndD d n).2 k+sumD d (r.filter fun m=>decide (m≠a)) k)
   rw[sumD_but h2 ha']
   omega
theorem sumD_in {d:Dk} {k:Nat} {n:Int}:∀ {N:List Int},n∈N→cntR (ndD d n).2 k≤sumD d N k
 | m::r,h=>by
  unfold sumD
  rcases List.mem_cons.1 h with rfl | h
  ·omega
  ·have:=sumD_in (k:=k) (d:=d) h
   omega
theorem cntR_has {l:List It} {x:It} (hx:x∈l) {k:Nat} (hk:x.2.1=(k:Int)) (h0:x.2.1≠0):1≤cntR l k:=by
 induction l with
 | nil=>cases hx
 | cons y r ih =>
  unfold cntR
  rcases List.mem_cons.1 hx with rfl | hx
  ·rw[if_pos hk,if_neg h0]
   omega
  ·have:=ih hx
   omega
theorem dn_cnt {t u:List UInt8} {a:Nat} (h:dnO t a=some u):cnt8 t a=cnt8 u a+1∧(∀ k,k≠a→cnt8 u k=cnt8 t k):=by
 obtain⟨h1,h2,h3,h4⟩:=dnO_some h
 refine⟨h4.symm,fun k hk => ?_⟩
 unfold cnt8
 rw[h2,List.getElem?_set_ne (Ne.symm hk)]
def liveN (u:List UInt8) (N:List Int):List Int:=N.filter fun n=>decide (cnt8 u n.toNat≠0)
theorem live_in {u:List UInt8} {N:List Int} {n:Int}:n∈liveN u N↔n∈N∧cnt8 u n.toNat≠0:=by
 unfold liveN
 rw[List.mem_filter,decide_eq_true_eq]
theorem Enf.part {d:Dk} {t u:List UInt8} {P Q:Nat→Nat} {N:List Int} (h:Enf d t P N) (p:Int→Bool) (hn:∀ n∈N,p n=true→cnt8 u n.toNat≠0) (hs:∀ n∈N,p n=true→∀ x∈(ndD d n).2,x.2.1∈N→x.2.1≠0→p x.2.1=true) (he:∀ k,Q k+sumD d (N.filter p) k≤cnt8 u k):Enf d u Q (N.filter p):=by
 refine⟨h.once.filter _,fun n hm => ?_,fun n hm h0 x hx => ?_,fun n hm => ?_,he⟩
 ·obtain⟨h1,h2⟩:=List.mem_filter.1 hm
  obtain⟨g1,g2,g3,_⟩:=h.node n h1
  exact⟨g1,g2,g3,hn n h1 h2⟩
 ·obtain⟨h1,h2⟩:=List.mem_filter.1 hm
  obtain⟨g1,g2,g3⟩:=h.shut n h1 h0 x hx
  exact⟨List.mem_filter.2 ⟨g1,hs n h1 h2 x hx g1 g2⟩,g2,g3⟩
 ·exact h.refs n (List.mem_filter.1 hm).1
theorem enf_down {d:Dk} {t u:List UInt8} {P:Nat→Nat} {N:List Int} {a:Nat} (h:Enf d t (fun k=>P k+if k=a then 1 else 0) N) (hd:dnO t a=some u):Enf d u P (liveN u N):=by
 obtain⟨c1,c2⟩:=dn_cnt hd
 refine h.part _ (fun n hn hp=>by simpa using hp) (fun n hn hp x hx hxN hx0 => ?_) (fun k => ?_)
 ·simp only[decide_eq_true_eq] at hp ⊢
  intro h0
  obtain⟨g1,_,_,g4⟩:=h.node _ hxN
  have hxa:x.2.1.toNat=a:=by
   by_cases e:x.2.1.toNat=a
   ·exact e
   ·rw[c2 _ e] at h0
    exact absurd h0 g4
  have h1:=h.enough a
  rw[hxa] at h0
  have h2:=cntR_has hx (k:=a) (by omega) hx0
  have h3:=sumD_in (d:=d) (k:=a) hn
  simp only[if_true] at h1
  omega
 ·have h1:=h.enough k
  have h2:=sumD_less d (fun n=>decide (cnt8 u n.toNat≠0)) k N
  by_cases e:k=a
  ·subst e
   simp only[if_true] at h1
   omega
  ·rw[c2 k e]
   simp only[if_neg e] at h1
   omega
theorem enf_open {d:Dk} {t u:List UInt8} {P:Nat→Nat} {N:List Int} {a:Int} (h:Enf d t (fun k=>P k+if k=a.toNat then 1 else 0) N) (ha:a∈N) (hd:dnO t a.toNat=some u) (h1:cnt8 t a.toNat≤1) :
  Enf d u (fun k=>P k+cntR (ndD d a).2 k) (N.filter fun n=>decide (n≠a))∧(∀ x∈(ndD d a).2,(ndD d a).1≠0→x.2.1∈N.filter fun n=>decide (n≠a)):=by
 obtain⟨c1,c2⟩:=dn_cnt hd
 have ha0:=(h.node a ha).1
 have hz:sumD d N a.toNat=0:=by
  have:=h.enough a.toNat
  simp only[if_true] at this
  omega
 have hno:∀ n∈N,∀ x∈(ndD d n).2,x.2.1∈N→x.2.1≠0→x.2.1≠a:=fun n hn x hx hxN hx0 e=>by
  have h2:=cntR_has hx (k:=a.toNat) (by omega) hx0
  have h3:=sumD_in (d:=d) (k:=a.toNat) hn
  omega
 refine⟨h.part _ (fun n hn hp => ?_) (fun n hn _ x hx hxN hx0=>by simpa using hno n hn x hx hxN hx0) (fun k => ?_),fun x hx h0 => ?_⟩
 ·simp only[decide_eq_true_eq] at hp
  obtain⟨g1,_,_,g4⟩:=h.node n hn
  rw[c2 _ (by omega)]
  exact g4
 ·have h2:=h.enough k
  rw[sumD_but h.once ha] at h2
  by_cases e:k=a.toNat
  ·subst e
   simp only[if_true] at h2
   omega
  ·rw[c2 k e]
   simp only[if_neg e] at h2
   omega
 ·obtain⟨g1,g2,_⟩:=h.shut a ha h0 x hx
  exact List.mem_filter.2 ⟨g1,by simpa using hno a ha x hx g1 g2⟩
theorem live_live {t u:List UInt8} {N:List Int} (h:LeT u t):liveN u (liveN t N)=liveN u N:=by
 unfold liveN
 rw[List.filter_filter]
 refine List.filter_congr fun n _ => ?_
 have:=h.le n.toNat
 by_cases e:cnt8 u n.toNat=0
 ·simp[e]
 ·have:cnt8 t n.toNat≠0:=by unfold cnt8 at e ⊢;omega
  simp[e,this]
theorem live_but {u:List UInt8} {N:List Int} {a:Int} (h:cnt8 u a.toNat=0):liveN u (N.filter fun n=>decide (n≠a))=liveN u N:=by
 unfold liveN
 rw[List.filter_filter]
 refine List.filter_congr fun n _ => ?_
 by_cases e:n=a
 ·subst e;simp[h]
 ·simp[e]
theorem live_all {t:List UInt8} {d:Dk} {P:Nat→Nat} {N:List Int} (h:Enf d t P N):liveN t N=N:=by
 unfold liveN
 rw[List.filter_eq_self]
 intro n hn
 simpa using (h.node n hn).2.2.2
theorem Enf.same {d:Dk} {t:List UInt8} {P Q:Nat→Nat} {N:List Int} (h:Enf d t P N) (e:∀ k,Q k=P k):Enf d t Q N:=⟨h.once,h.node,h.shut,h.refs,fun k=>by rw[e];exact h.enough k⟩
theorem each_enf {d:Dk} {f:List UInt8→Nat→Option (List UInt8)} {ok:List UInt8→List Int→Int→Prop}
  (hle:∀ t a u,f t a=some u→LeT u t)
  (hok:∀ t u N a,ok t N a→LeT u t→cnt8 u a.toNat≠0→ok u (liveN u N) a)
  (hf:∀ t u P N a,0<a→ok t N a→Enf d t (fun k=>P k+if k=a.toNat then 1 else 0) N→f t a.toNat=some u→Enf d u P (liveN u N)) :
  ∀ (l:List It) (t u:List UInt8) (P:Nat→Nat) (N:List Int),refsOk l→(∀ x∈l,x.2.1≠0→ok t N x.2.1)→Enf d t (fun k=>P k+cntR l k) N→eachO f t l=some u→Enf d u P (liveN u N)
 | [],t,u,P,N,_,_,h,hu=>by
  cases hu
  have h':=h.same (Q:=P) (fun k=>by simp[cntR])
  rw[live_all h']
  exact h'
 | x::r,t,u,P,N,hr,hk,h,hu=>by
  obtain⟨h1,h2⟩:=refs_cons hr
  unfold eachO at hu
  by_cases h0:x.2.1=0
  ·rw[if_pos h0] at hu
   exact each_enf hle hok hf r t u P N h2 (fun y hy=>hk y (List.mem_cons_of_mem _ hy)) (h.same fun k=>by rw[cntR_zero h0]) hu
  ·rw[if_neg h0] at hu
   cases ht:f t x.2.1.toNat with
   | none=>rw[ht] at hu;cases hu
   | some t1 =>
    rw[ht] at hu
    have hu':eachO f t1 r=some u:=hu
    have hpos:0<x.2.1:=by rcases h1 with h1 | ⟨k,e,_⟩ <;> omega
    have s1:=hf t t1 (fun k=>P k+cntR r k) N x.2.1 hpos (hk x List.mem_cons_self h0) (h.same fun k=>by
     have ec:cntR (x::r) k=(if x.2.1=(k:Int) then (if x.2.1=0 then 0 else 1) else 0)+cntR r k:=rfl
     show P k+cntR r k+(if k=x.2.1.toNat then 1 else 0)=P k+cntR (x::r) k
     rw[ec]
     by_cases e:x.2.1=(k:Int)
     ·rw[if_pos e,if_neg h0,if_pos (by omega)];omega
     ·rw[if_neg e,if_neg (by omega)];omega) ht
    have hl1:=hle _ _ _ ht
    have hl2:=each_le hle r t1 u hu'
    have s2:=each_enf hle hok hf r t1 u P (liveN t1 N) h2 (fun y hy hy0 => ?_) s1 hu'
    ·rwa [live_live hl2] at s2
    ·refine hok t t1 N y.2.1 (hk y (List.mem_cons_of_mem _ hy) hy0) hl1 ?_
     have h5:=s1.enough y.2.1.toNat
     have h6:0<y.2.1:=by
      rcases h2 y hy with e | e
      ·exact absurd e hy0
      ·omega
     have h7:=cntR_has hy (k:=y.2.1.toNat) (by omega) hy0
     omega
theorem lv_enf (d:Dk):∀ (L:Nat) (t u:List UInt8) (P:Nat→Nat) (N:List Int) (a:Int),0<a→(∀ l,L=l+1→a∈N∧(ndD d a).1=(l:Int))→Enf d t (fun k=>P k+if k=a.toNat then 1 else 0) N→lvF d L t a.toNat=some u→Enf d u P (liveN u N)
 | 0,t,u,P,N,a,_,_,h,hu=>enf_down h hu
 | l+1,t,u,P,N,a,h0,hk,h,hu=>by
  obtain⟨ha,hl⟩:=hk l rfl
  have hu0:=hu
  unfold lvF lvS at hu
  cases hd:dnO t a.toNat with
  | none=>rw[hd] at hu;cases hu
  | some t1 =>
   rw[hd] at hu
   have hu':(if 1<(t[a.toNat]?.getD 0).toNat then some t1 else if reN (seenD d a.toNat)=0∧(reV (seenD d a.toNat)).1=(l:Int) then eachO (lvF d l) t1 (reV (seenD d a.toNat)).2 else none)=some u:=hu
   obtain⟨c1,c2⟩:=dn_cnt hd
   by_cases hm:1<(t[a.toNat]?.getD 0).toNat
   ·rw[if_pos hm] at hu'
    cases hu'
    exact enf_down h hd
   ·rw[if_neg hm] at hu'
    split at hu'
    ·have h1:cnt8 t a.toNat≤1:=by unfold cnt8;omega
     obtain⟨o1,o2⟩:=enf_open h ha hd h1
     have hz:cnt8 t1 a.toNat=0:=by omega
     have hle:=lvF_le d l
     have hlu:=each_le hle _ t1 u hu'
     have s:=each_enf (d:=d) (f:=lvF d l) (ok:=fun _ M b=>∀ l',l=l'+1→b∈M∧(ndD d b).1=(l':Int)) hle
      (fun t u M b hb _ hc l' e=>⟨live_in.2 ⟨(hb l' e).1,hc⟩,(hb l' e).2⟩)
      (fun t u P M b hb0 hb hE hu=>lv_enf d l t u P M b hb0 hb hE hu)
      (ndD d a).2 t1 u P _ (h.refs a ha) (fun x hx _ l' e => ?_) o1 hu'
     ·rw[live_but (by have:=hlu.le a.toNat;unfold cnt8 at hz ⊢;omega)] at s
      exact s
     ·have hne:(ndD d a).1≠0:=by rw[hl,e];omega
      refine⟨o2 x hx hne,?_⟩
      obtain⟨_,_,g3⟩:=h.shut a ha hne x hx
      omega
    ·cases hu'
theorem leave_enf {d:Dk} {t u:List UInt8} {P:Nat→Nat} {N:List Int} {a:Int} (ha:a∈N) (h0:0<a) (hl:0≤(ndD d a).1) (h:Enf d t (fun k=>P k+if k=a.toNat then 1 else 0) N) (hu:lfO d t a.toNat=some u):Enf d u P (liveN u N):=by
 obtain⟨L,hL⟩:∃ L:Nat,(ndD d a).1=(L:Int):=⟨(ndD d a).1.toNat,by omega⟩
 refine lv_enf d (L+1) t u P N a h0 (fun l e=>⟨ha,by rw[hL];omega⟩) h ?_
 unfold lfO at hu
 unfold lvF lvS
 have e1:(reV (seenD d a.toNat)).1=(L:Int):=hL
 rw[e1] at hu
 rw[show ((L:Nat):Int).toNat=L by omega] at hu
 rw[← hu]
 cases dnO t a.toNat with
 | none=>rfl
 | some t1=>simp[e1]
end Go.Proofs.YtogieepfimpdmaaGreat
/-
 Nodes that are made,where each block is counted often enough;what is held is held once less;plain. Conditions: those that each lemma states.
-/
namespace Go.Proofs.YtogieepfimpdmaaGreat
open Go.RowKit
theorem cnt_nz {t:List UInt8} {k:Nat}:cnt8 t k≠0↔t[k]?.getD 0≠0:=by
 unfold cnt8
 rw[ne_eq,nat_zero]
theorem ndD_rm {s:Rm} {n:Int} (h:rmE s n=0):ndD s.1 n=rmV s n:=by
 obtain⟨k,rfl,_,_,_,_,_,_,hV,_⟩:=as_read (rm_may h).2
 rw[hV,ndD,show ((k:Int)).toNat=k by omega]
theorem keep_make {s:Rm} {n:Nd} (h:mkE s n=0):KeepR s (mkV s n):=by
 obtain⟨k,e1,h8,h256,hz,_,hc,hV,hm,c1,c2,_⟩:=mk_counts h
 have hne:∀ i:Nat,s.2.1[i]?.getD 0≠0→i≠k:=fun i hi e=>hi (by rw[e];exact hz)
 refine⟨hm,fun i hi => ?_,fun i hi => ?_⟩
 ·rw[← cnt_nz]
  have h1:=c2 i (hne i hi)
  have h2:=cnt_nz.2 hi
  unfold cnt8 at h2 ⊢
  omega
 ·rw[hV]
  exact seenD_write_ne (hne i hi)
theorem make_enf {s:Rm} {n:Nd} {P:Nat→Nat} {N:List Int} (h:mkE s n=0) (hi:InN n) (hE:Enf s.1 s.2.1 P N) (hsub:n.1≠0→∀ x∈n.2,x.2.1∈N∧x.2.1≠0∧(ndD s.1 x.2.1).1+1=n.1) :
  ∃ k:Nat,mkN s n=k∧8≤k∧k<256∧cnt8 s.2.1 k=0∧(k:Int)∉N∧Enf (mkV s n).1 (mkV s n).2.1 (fun i=>P i+if i=k then 1 else 0) ((k:Int)::N)∧ndD (mkV s n).1 (k:Int)=n∧(∀ m∈N,ndD (mkV s n).1 m=ndD s.1 m)∧rmE (mkV s n) (k:Int)=0∧rmV (mkV s n) (k:Int)=n∧cnt8 (mkV s n).2.1 k=1:=by
 obtain⟨_,hn,_⟩:=mk_ok h
 obtain⟨k,e1,h8,h256,hz,_,hc,hV,hm,c1,c2,_⟩:=mk_counts h
 have hseen:seenD (mkV s n).1 k=blkN n:=by rw[hV];exact seenD_write
 have ha:asE (mkV s n) (k:Int)=0:=as_yes hm h8 h256 (by rw[c1];decide)
 obtain⟨r1,r2⟩:=rm_yes ha hseen hn hi
 have hnd:ndD (mkV s n).1 (k:Int)=n:=(ndD_rm r1).trans r2
 have hz8:cnt8 s.2.1 k=0:=by unfold cnt8;rw[hz];rfl
 have hkN:(k:Int)∉N:=fun hin=>by
  have:=(hE.node _ hin).2.2.2
  rw[show ((k:Int)).toNat=k by omega] at this
  exact this hz8
 have hold:∀ m∈N,m.toNat≠k:=fun m hmN e=>by
  have h0:=(hE.node m hmN).1
  exact hkN (by rw[← e,show ((m.toNat:Nat):Int)=m by omega];exact hmN)
 have hsm:∀ m∈N,seenD (mkV s n).1 m.toNat=seenD s.1 m.toNat:=fun m hmN=>by
  rw[hV]
  exact seenD_write_ne (hold m hmN)
 have hndm:∀ m∈N,ndD (mkV s n).1 m=ndD s.1 m:=fun m hmN=>by rw[ndD,ndD,hsm m hmN]
 have hc1:cnt8 (mkV s n).2.1 k=1:=by unfold cnt8;rw[c1];rfl
 have hc2:∀ i,i≠k→cnt8 (mkV s n).2.1 i=cnt8 s.2.1 i+cntR n.2 i:=fun i hne=>c2 i hne
 have hsum:∀ i,sumD (mkV s n).1 N i=sumD s.1 N i:=fun i=>by
  have:∀ M:List Int,(∀ m∈M,m∈N)→sumD (mkV s n).1 M i=sumD s.1 M i:=by
   intro M
   induction M with
   | nil=>intro _;rfl
   | cons m r ih =>
    intro hM
    show cntR (ndD (mkV s n).1 m).2 i+sumD (mkV s n).1 r i=cntR (ndD s.1 m).2 i+sumD s.1 r i
    rw[hndm m (hM m List.mem_cons_self),ih fun x hx=>hM x (List.mem_cons_of_mem _ hx)]
  exact this N fun m hm=>hm
 refine⟨k,e1,h8,h256,hz8,hkN,⟨List.nodup_cons.2 ⟨hkN,hE.once⟩,fun m hmN => ?_,fun m hmN h0 x hx => ?_,fun m hmN => ?_,fun i => ?_⟩,hnd,hndm,r1,r2,hc1⟩
 ·rcases List.mem_cons.1 hmN with rfl | hmN
  ·refine⟨by omega,by omega,?_,by rw[show ((k:Int)).toNat=k by omega,hc1];decide⟩
   rw[show ((k:Int)).toNat=k by omega,hseen]
   exact(read_blkN hn hi).1
  ·obtain⟨g1,g2,g3,g4⟩:=hE.node m hmN
   refine⟨g1,g2,by rw[hsm m hmN];exact g3,?_⟩
   rw[hc2 _ (hold m hmN)]
   omega
 ·rcases List.mem_cons.1 hmN with rfl | hmN
  ·rw[hnd] at h0 hx ⊢
   obtain⟨g1,g2,g3⟩:=hsub h0 x hx
   exact⟨List.mem_cons_of_mem _ g1,g2,by rw[hndm _ g1];exact g3⟩
  ·rw[hndm m hmN] at h0 hx ⊢
   obtain⟨g1,g2,g3⟩:=hE.shut m hmN h0 x hx
   exact⟨List.mem_cons_of_mem _ g1,g2,by rw[hndm _ g1];exact g3⟩
 ·rcases List.mem_cons.1 hmN with rfl | hmN
  ·rw[hnd]
   exact refs_may hn
  ·rw[hndm m hmN]
   exact hE.refs m hmN
 ·show P i+(if i=k then 1 else 0)+(cntR (ndD (mkV s n).1 (k:Int)).2 i+sumD (mkV s n).1 N i)≤_
  rw[hnd,hsum]
  have h1:=hE.enough i
  by_cases e:i=k
  ·subst e
   rw[if_pos rfl,hc1]
   omega
  ·rw[if_neg e,hc2 i e]
   omega
theorem free_enf {d:Dk} {t u:List UInt8} {P:Nat→Nat} {N:List Int} {a:Nat} (h:Enf d t (fun k=>P k+if k=a then 1 else 0) N) (hd:dnO t a=some u) (hc:cnt8 u a≠0):Enf d u P N:=by
 have s:=enf_down h hd
 obtain⟨c1,c2⟩:=dn_cnt hd
 have:liveN u N=N:=by
  unfold liveN
  rw[List.filter_eq_self]
  intro n hn
  have h4:=(h.node n hn).2.2.2
  by_cases e:n.toNat=a
  ·rw[e];simpa using hc
  ·rw[c2 _ e];simpa using h4
 rwa [this] at s
end Go.Proofs.YtogieepfimpdmaaGreat
/-
 Rows of items with one put in;the way of a key;parts side by side,taken apart;plain. Conditions: those that each lemma states.
-/
namespace Go.Proofs.YtogieepfimpdmaaGreat
open Go.RowKit
def putL (L:List It) (x:It):List It:=(L.filter fun y=>lessK y.1 x.1)++x::(L.filter fun y=>lessK x.1 y.1)
theorem filter_all {p:It→Bool} {L:List It} (h:∀ x∈L,p x=true):L.filter p=L:=List.filter_eq_self.2 h
theorem putL_mid {A B C:List It} {x:It} (hA:∀ y∈A,lessK y.1 x.1=true) (hC:∀ y∈C,lessK x.1 y.1=true):putL (A++(B++C)) x=A++(putL B x++C):=by
 unfold putL
 simp only[List.filter_append]
 rw[filter_all hA,filter_none (L:=A) (fun y hy=>less_anti (hA y hy)),filter_none (L:=C) (fun y hy=>less_anti (hC y hy)),filter_all hC]
 simp
theorem putL_parts {A M C:List It} {x:It} (hA:∀ y∈A,lessK y.1 x.1=true) (hM:∀ y∈M,y.1=x.1) (hC:∀ y∈C,lessK x.1 y.1=true):putL (A++(M++C)) x=A++x::C:=by
 rw[putL_mid hA hC]
 unfold putL
 rw[filter_none (L:=M) (fun y hy=>by rw[hM y hy];exact less_self _),filter_none (L:=M) (fun y hy=>by rw[hM y hy];exact less_self _)]
 rfl
theorem putL_up {L:List It} (h:Up L) (x:It):Up (putL L x):=by
 unfold putL Up
 rw[List.pairwise_append]
 refine⟨List.Pairwise.filter _ h,List.pairwise_cons.2 ⟨fun y hy=>(List.mem_filter.1 hy).2,List.Pairwise.filter _ h⟩,fun y hy z hz => ?_⟩
 have h1:=(List.mem_filter.1 hy).2
 rcases List.mem_cons.1 hz with rfl | hz
 ·exact h1
 ·exact less_trans h1 (List.mem_filter.1 hz).2
theorem putL_in {L:List It} {x y:It}:y∈putL L x↔y=x∨(y∈L∧y.1≠x.1):=by
 unfold putL
 rw[List.mem_append,List.mem_cons,List.mem_filter,List.mem_filter]
 constructor
 ·rintro(⟨h1,h2⟩ | rfl | ⟨h1,h2⟩)
  ·exact .inr ⟨h1,fun e=>by rw[e,less_self] at h2;cases h2⟩
  ·exact .inl rfl
  ·exact .inr ⟨h1,fun e=>by rw[e,less_self] at h2;cases h2⟩
 ·rintro(rfl | ⟨h1,h2⟩)
  ·exact .inr (.inl rfl)
  ·cases h3:lessK y.1 x.1 with
   | true=>exact .inl ⟨h1,rfl⟩
   | false=>exact .inr (.inr ⟨h1,less_total h2 h3⟩)
theorem putL_len (L:List It) (x:It):(putL L x).length=L.length+1-manyK x.1 L:=by
 have e:∀ M:List It,(M.filter fun y=>lessK y.1 x.1).length+(M.filter fun y=>lessK x.1 y.1).length+manyK x.1 M=M.length:=by
  intro M
  induction M with
  | nil=>rfl
  | cons y r ih =>
   unfold manyK at ih ⊢
   simp only[List.filter_cons]
   by_cases h1:y.1=x.1
   ·simp[h1,less_self]
    omega
   ·cases h2:lessK y.1 x.1 with
    | true=>simp[h1,less_anti h2];omega
    | false=>simp[h1,less_total h1 h2];omega
 have:=e L
 unfold putL
 rw[List.length_append,List.length_cons]
 omega
theorem leaf_put {n:Nd} (h:mayN n=true) (x:It):n.2.take (placeN n x.1)++x::n.2.drop (placeN n x.1+if thereN n x.1=true then 1 else 0)=putL n.2 x:=by
 have hA:∀ y∈n.2.take (placeN n x.1),lessK y.1 x.1=true:=fun y hy=>by
  obtain⟨i,hi⟩:=List.getElem?_of_mem hy
  have hlt:=(List.getElem?_eq_some_iff.1 hi).1
  rw[List.length_take] at hlt
  rw[List.getElem?_take_of_lt (by omega)] at hi
  rw[place_parts h hi]
  simp
  omega
 cases ht:thereN n x.1 with
 | true =>
  have hp:=place_in ht
  obtain⟨z,hz⟩:∃ z,n.2[placeN n x.1]? = some z:=⟨_,List.getElem?_eq_getElem hp⟩
  have hzk:=(place_below h ht hz).1
  have hg:n.2[placeN n x.1]=z:=(List.getElem?_eq_some_iff.1 hz).2
  have e:n.2=n.2.take (placeN n x.1)++([z]++n.2.drop (placeN n x.1+1)):=by
   conv=>lhs;rw[← List.take_append_drop (placeN n x.1) n.2,List.drop_eq_getElem_cons hp,hg]
   rfl
  rw[if_pos rfl]
  conv=>rhs;rw[e]
  rw[putL_parts hA (fun y hy=>by rw[List.mem_singleton.1 hy];exact hzk) (fun y hy=>by
   obtain⟨i,hi⟩:=List.getElem?_of_mem hy
   rw[List.getElem?_drop] at hi
   rw[← hzk]
   exact mayN_rises h (by omega) hz hi)]
 | false =>
  rw[if_neg (by decide),Nat.add_zero]
  have e:n.2=n.2.take (placeN n x.1)++([]++n.2.drop (placeN n x.1)):=by simp
  conv=>rhs;rw[e]
  rw[putL_parts hA (fun y hy=>by cases hy) (fun y hy=>by
   obtain⟨i,hi⟩:=List.getElem?_of_mem hy
   rw[List.getElem?_drop] at hi
   exact place_behind h ht (by omega) hi)]
def wayN (n:Nd) (k:Ky):Nat:=if thereN n k=true then placeN n k else placeN n k-1
theorem way_in {n:Nd} (k:Ky) (h:0<n.2.length):wayN n k<n.2.length:=by
 unfold wayN
 split
 ·rename_i ht;exact place_in ht
 ·have:=placeN_le n k
  omega
theorem way_behind {n:Nd} (h:mayN n=true) {k:Ky} {i:Nat} {y:It} (hi:wayN n k<i) (hy:n.2[i]? = some y):lessK k y.1=true:=by
 unfold wayN at hi
 cases ht:thereN n k with
 | true =>
  rw[ht,if_pos rfl] at hi
  have hp:=place_in ht
  obtain⟨z,hz⟩:∃ z,n.2[placeN n k]? = some z:=⟨_,List.getElem?_eq_getElem hp⟩
  rw[← (place_below h ht hz).1]
  exact mayN_rises h hi hz hy
 | false =>
  rw[ht,if_neg (by decide)] at hi
  exact place_behind h ht (by omega) hy
theorem way_own {n:Nd} (h:mayN n=true) {k:Ky} {y:It} (hy:n.2[wayN n k]? = some y) (h0:wayN n k≠0):lessK k y.1=false:=by
 unfold wayN at hy h0
 cases ht:thereN n k with
 | true =>
  rw[ht,if_pos rfl] at hy
  rw[(place_below h ht hy).1]
  exact less_self _
 | false =>
  rw[ht,if_neg (by decide)] at hy h0
  have:=place_parts h (k:=k) hy
  rw[decide_eq_true (by omega)] at this
  exact less_anti this
theorem its_append (f:Int→Ky→Ky→Bool→Bool):∀ (A B:List It) (tb:Ky) (e:Bool),itsO f (A++B) tb e=(itsO f A (nxO B tb) (bxO B e)&&itsO f B tb e)
 | [],B,tb,e=>by
  show itsO f B tb e=(true&&itsO f B tb e)
  simp
 | x::r,B,tb,e=>by
  rw[List.cons_append,its_cons,its_append f r B tb e,its_cons]
  have e1:nxO (r++B) tb=nxO r (nxO B tb):=by cases r <;> rfl
  have e2:bxO (r++B) e=bxO r (bxO B e):=by cases r <;> rfl
  rw[e1,e2,Bool.and_assoc]
theorem its_instead {f f':Int→Ky→Ky→Bool→Bool} {A C up:List It} {y z:It} {r:List It} {tb:Ky} {e:Bool} (h:itsO f (A++y::C) tb e=true) (hk:A≠[]→z.1=y.1) (hup:up=z::r)
  (hf:∀ x∈A++C,∀ k tb e,f x.2.1 k tb e=true→f' x.2.1 k tb e=true) (hu:itsO f' up (nxO C tb) (bxO C e)=true):itsO f' (A++(up++C)) tb e=true:=by
 rw[its_append,Bool.and_eq_true] at h
 obtain⟨h1,h2⟩:=h
 rw[its_cons,Bool.and_eq_true] at h2
 rw[its_append,its_append,Bool.and_eq_true,Bool.and_eq_true]
 refine⟨?_,hu,its_mem2 (fun x hx=>hf x (List.mem_append_right _ hx)) h2.2⟩
 have e1:A≠[]→nxO (up++C) tb=nxO (y::C) tb∧bxO (up++C) e=bxO (y::C) e:=fun hA=>by
  subst hup
  exact⟨hk hA,rfl⟩
 by_cases hA:A=[]
 ·subst hA;rfl
 ·obtain⟨g1,g2⟩:=e1 hA
  rw[g1,g2]
  exact its_mem2 (fun x hx=>hf x (List.mem_append_left _ hx)) h1
end Go.Proofs.YtogieepfimpdmaaGreat
/-
 One node,or two,made of items of a level;plain. Conditions: those that each lemma states.
-/
namespace Go.Proofs.YtogieepfimpdmaaGreat
open Go.RowKit
def keyO (l:List It):Ky:=match l with | []=>keyZ | x::_=>x.1
def upI (l:List It) (k:Int):It:=(keyO l,k,[])
noncomputable def builtO (s:Rm) (lv:Int) (l:List It):Int×Rm×List It :=
 if l.length≤5 then
  if mkE s (lv,l)=0 then (0,mkV s (lv,l),[upI l (mkN s (lv,l))]) else (mkE s (lv,l),emptyR,[])
 else if mkE s (lv,l.take 3)=0 then
  if mkE (mkV s (lv,l.take 3)) (lv,l.drop 3)=0 then (0,mkV (mkV s (lv,l.take 3)) (lv,l.drop 3),[upI (l.take 3) (mkN s (lv,l.take 3)),upI (l.drop 3) (mkN (mkV s (lv,l.take 3)) (lv,l.drop 3))])
  else (mkE (mkV s (lv,l.take 3)) (lv,l.drop 3),emptyR,[])
 else (mkE s (lv,l.take 3),emptyR,[])
theorem built_ways {s u:Rm} {lv:Int} {l up:List It} (h:builtO s lv l=(0,u,up)):(mkE s (lv,l)=0∧u=mkV s (lv,l)∧up=[upI l (mkN s (lv,l))]) ∨
  (5<l.length∧mkE s (lv,l.take 3)=0∧mkE (mkV s (lv,l.take 3)) (lv,l.drop 3)=0∧u=mkV (mkV s (lv,l.take 3)) (lv,l.drop 3)∧up=[upI (l.take 3) (mkN s (lv,l.take 3)),upI (l.drop 3) (mkN (mkV s (lv,l.take 3)) (lv,l.drop 3))]):=by
 unfold builtO at h
 split at h
 ·split at h
  ·rename_i h1
   cases h
   exact .inl ⟨h1,rfl,rfl⟩
  ·rename_i h1
   simp only[Prod.mk.injEq] at h
   exact absurd h.1 h1
 ·rename_i h0
  split at h
  ·rename_i h1
   split at h
   ·rename_i h2
    cases h
    exact .inr ⟨by omega,h1,h2,rfl,rfl⟩
   ·rename_i h2
    simp only[Prod.mk.injEq] at h
    exact absurd h.1 h2
  ·rename_i h1
   simp only[Prod.mk.injEq] at h
   exact absurd h.1 h1
noncomputable def rowP (s:Rm):Nat→List It→Ky→Bool→List It→Prop
 | 0,L,tb,e,M=>Up L∧leafO s L=true∧(e=true→∀ y∈L,lessK y.1 tb=true)∧M=L
 | l+1,L,tb,e,M=>itsO (rightO s l) L tb e=true∧M=L.flatMap fun x=>itsT s l x.2.1
theorem row_keep {s t:Rm} (h:KeepR s t):∀ {lv:Nat} {L M:List It} {tb:Ky} {e:Bool},rowP s lv L tb e M→rowP t lv L tb e M
 | 0,_,_,_,_,hr=>⟨hr.1,keep_leaf h hr.2.1,hr.2.2⟩
 | l+1,L,M,tb,e,hr=>by
  refine⟨its_mono (fun a k tb e hf=>(keep_right h l a k tb e hf).1) _ _ _ hr.1,hr.2.trans (flat_same fun x hx => ?_)⟩
  obtain⟨t',e',hf⟩:=its_mem hr.1 x hx
  exact(keep_right h l _ _ _ _ hf).2.1.symm
theorem its_bound {s:Rm} {l:Nat} {L:List It} {tb:Ky} (h:itsO (rightO s l) L tb true=true):∀ x∈L,lessK x.1 tb=true:=fun x hx=>by
 obtain⟨y,r,rfl⟩:∃ y r,L=y::r:=by
  cases L with
  | nil=>cases hx
  | cons y r=>exact⟨y,r,rfl⟩
 obtain⟨y',r',e',hp⟩:=part_its (right_part s l) (y::r) tb true (by simp) h
 cases e'
 obtain⟨t,e2,hf⟩:=its_mem h x hx
 obtain⟨z,q,ez,kz⟩:=(right_part s l _ _ _ _ hf).first
 have:=hp.bound rfl z (List.mem_flatMap.2 ⟨x,hx,by rw[ez];simp⟩)
 rwa [kz] at this
theorem row_node {s:Rm} {lv:Nat} {L M:List It} {tb:Ky} {e:Bool} {k:Int} (h1:rmE s k=0) (h2:rmV s k=((lv:Int),L)) (hne:L≠[]) (h:rowP s lv L tb e M):rightO s lv k (keyO L) tb e=true∧itsT s lv k=M:=by
 obtain⟨x,r,rfl⟩:=List.exists_cons_of_ne_nil hne
 obtain⟨z,hz⟩:∃ z,(x::r).getLast? = some z:=⟨_,List.getLast?_eq_some_getLast (by simp)⟩
 have hin:=List.mem_of_getLast? hz
 have hb:e=true→lessK z.1 tb=true:=fun he=>by
  cases lv with
  | zero=>exact h.2.2.1 he z hin
  | succ l =>
   have h0:=h.1
   rw[he] at h0
   exact its_bound h0 z hin
 have hh:headO (x::r) (keyO (x::r)) tb e=true:=by
  unfold headO
  rw[hz]
  cases e with
  | false=>simp[keyO]
  | true=>simp[keyO,hb rfl]
 cases lv with
 | zero =>
  refine⟨?_,by unfold itsT;rw[h2];exact h.2.2.2.symm⟩
  unfold rightO
  rw[h1,h2,hh,h.2.1]
  simp
 | succ l =>
  refine⟨?_,by unfold itsT;rw[h2];exact h.2.symm⟩
  unfold rightO
  rw[h1,h2,hh,h.1]
  simp
theorem row_split {s:Rm} {lv:Nat} {A B M:List It} {tb:Ky} {e:Bool} (hB:B≠[]) (h:rowP s lv (A++B) tb e M):∃ M1 M2,M=M1++M2∧rowP s lv A (keyO B) true M1∧rowP s lv B tb e M2:=by
 obtain⟨y,r,rfl⟩:=List.exists_cons_of_ne_nil hB
 cases lv with
 | zero =>
  obtain⟨h1,h2,h3,h4⟩:=h
  obtain⟨u1,u2,u3⟩:=List.pairwise_append.1 h1
  have hl:leafO s A=true∧leafO s (y::r)=true:=by
   unfold leafO at h2 ⊢
   rw[List.all_append,Bool.and_eq_true] at h2
   exact h2
  exact⟨A,y::r,h4,⟨u1,hl.1,fun _ z hz=>u3 z hz y List.mem_cons_self,rfl⟩,⟨u2,hl.2,fun he z hz=>h3 he z (List.mem_append_right _ hz),rfl⟩⟩
 | succ l =>
  obtain⟨h1,h2⟩:=h
  rw[its_append,Bool.and_eq_true] at h1
  exact⟨_,_,by rw[h2,List.flatMap_append],⟨h1.1,rfl⟩,⟨h1.2,rfl⟩⟩
theorem in_take {lv:Int} {l:List It} {k:Nat} (h:InN (lv,l)):InN (lv,l.take k):=⟨h.1,fun x hx=>h.2 x (List.mem_of_mem_take hx)⟩
theorem in_drop {lv:Int} {l:List It} {k:Nat} (h:InN (lv,l)):InN (lv,l.drop k):=⟨h.1,fun x hx=>h.2 x (List.mem_of_mem_drop hx)⟩
theorem made_right {s:Rm} {lv:Nat} {L M:List It} {tb:Ky} {e:Bool} (h:mkE s ((lv:Int),L)=0) (hi:InN ((lv:Int),L)) (hne:L≠[]) (hr:rowP s lv L tb e M) :
  rightO (mkV s ((lv:Int),L)) lv (mkN s ((lv:Int),L)) (keyO L) tb e=true∧itsT (mkV s ((lv:Int),L)) lv (mkN s ((lv:Int),L))=M:=by
 obtain⟨k,e1,_,_,_,_,r1,r2,_⟩:=mk_left hi h
 rw[e1]
 exact row_node r1 r2 hne (row_keep (keep_make h) hr)
theorem built_right {s u:Rm} {lv:Nat} {L up M:List It} {tb:Ky} {e:Bool} (h:builtO s (lv:Int) L=(0,u,up)) (hi:InN ((lv:Int),L)) (hne:L≠[]) (hr:rowP s lv L tb e M) :
  KeepR s u∧itsO (rightO u lv) up tb e=true∧(up.flatMap fun x=>itsT u lv x.2.1)=M∧(∃ z r,up=z::r∧z.1=keyO L):=by
 rcases built_ways h with ⟨h1,rfl,rfl⟩ | ⟨h0,h1,h2,rfl,rfl⟩
 ·obtain⟨g1,g2⟩:=made_right h1 hi hne hr
  exact⟨keep_make h1,g1,by simpa [upI] using g2,_,_,rfl,rfl⟩
 ·have hd:L.drop 3≠[]:=fun e=>by
   have:=congrArg List.length e
   rw[List.length_drop] at this
   simp at this
   omega
  have ht:L.take 3≠[]:=fun e=>by
   have h5:(L.take 3).length=0:=by rw[e];rfl
   rw[List.length_take] at h5
   omega
  obtain⟨M1,M2,rfl,r1,r2⟩:=row_split hd (show rowP s lv (L.take 3++L.drop 3) tb e M by rw[List.take_append_drop];exact hr)
  have k1:=keep_make h1
  have k2:=keep_make h2
  have k12:KeepR s (mkV (mkV s ((lv:Int),L.take 3)) ((lv:Int),L.drop 3)):=⟨k2.may,fun i hi=>k2.held i (k1.held i hi),fun i hi=>(k2.seen i (k1.held i hi)).trans (k1.seen i hi)⟩
  obtain⟨g1,g2⟩:=made_right h1 (in_take hi) ht r1
  obtain⟨g3,g4⟩:=made_right h2 (in_drop hi) hd (row_keep k1 r2)
  obtain⟨g5,g6,_⟩:=keep_right k2 lv _ _ _ _ g1
  refine⟨k12,?_,?_,_,_,rfl,?_⟩
  ·exact Bool.and_eq_true_iff.2 ⟨g5,g3⟩
  ·have e1:=g6.trans g2
   have:itsT (mkV (mkV s ((lv:Int),L.take 3)) ((lv:Int),L.drop 3)) lv (mkN s ((lv:Int),L.take 3))++(itsT (mkV (mkV s ((lv:Int),L.take 3)) ((lv:Int),L.drop 3)) lv (mkN (mkV s ((lv:Int),L.take 3)) ((lv:Int),L.drop 3))++[])=M1++M2:=by rw[e1,g4,List.append_nil]
   exact this
  ·obtain⟨x,r,ex⟩:=List.exists_cons_of_ne_nil hne
   subst ex
   rfl
end Go.Proofs.YtogieepfimpdmaaGreat
/-
 What is held is held once less;nodes made of items,where each block is counted often enough;plain. Conditions: those that each lemma states.
-/
namespace Go.Proofs.YtogieepfimpdmaaGreat
open Go.RowKit
def freR (s:Rm) (a:Int):Rm:=(s.1,s.2.1.set a.toNat (s.2.1[a.toNat]?.getD 0-1),s.2.2)
theorem ptk_trans {s t u:Rm} (h1:KeepR s t) (h2:KeepR t u):KeepR s u:=⟨h2.may,fun i hi=>h2.held i (h1.held i hi),fun i hi=>(h2.seen i (h1.held i hi)).trans (h1.seen i hi)⟩
theorem ptk_same {s:Rm} (h:mayR s=true):KeepR s s:=⟨h,fun _ h=>h,fun _ _=>rfl⟩
theorem fre_dn {s:Rm} {a:Int} (h:cnt8 s.2.1 a.toNat≠0):dnO s.2.1 a.toNat=some (freR s a).2.1:=by
 unfold dnO
 rw[if_neg (cnt_nz.1 h)]
 rfl
theorem fre_keep {s:Rm} {a:Int} (hm:mayR s=true) (h:2≤cnt8 s.2.1 a.toNat):KeepR s (freR s a):=by
 have hd:=fre_dn (s:=s) (a:=a) (by omega)
 obtain⟨_,_,hle,_⟩:=dnO_some hd
 obtain⟨c1,c2⟩:=dn_cnt hd
 obtain⟨m1,m2,m3⟩:=mayR_of hm
 refine⟨mayR_mk m1 (LeT.may hle m2) m3,fun k hk => ?_,fun _ _=>rfl⟩
 rw[← cnt_nz] at hk ⊢
 by_cases e:k=a.toNat
 ·subst e;omega
 ·rw[c2 k e];exact hk
theorem keep_nd {s t:Rm} (h:KeepR s t) {P:Nat→Nat} {N:List Int} (hE:Enf s.1 s.2.1 P N) {m:Int} (hm:m∈N):ndD t.1 m=ndD s.1 m:=by
 unfold ndD
 rw[h.seen _ (cnt_nz.1 (hE.node m hm).2.2.2)]
theorem fre_enf {s:Rm} {P:Nat→Nat} {N:List Int} {a:Int} (hm:mayR s=true) (hE:Enf s.1 s.2.1 (fun i=>P i+if i=a.toNat then 1 else 0) N) (h0:0<a) (hr:∃ n∈N,∃ x∈(ndD s.1 n).2,x.2.1=a):KeepR s (freR s a)∧Enf (freR s a).1 (freR s a).2.1 P N:=by
 obtain⟨n,hn,x,hx,hxa⟩:=hr
 have h1:=hE.enough a.toNat
 have h2:=cntR_has hx (k:=a.toNat) (by omega) (by omega)
 have h3:=sumD_in (d:=s.1) (k:=a.toNat) hn
 simp only[if_true] at h1
 have h4:2≤cnt8 s.2.1 a.toNat:=by omega
 have hd:=fre_dn (s:=s) (a:=a) (by omega)
 have hc:cnt8 (freR s a).2.1 a.toNat≠0:=by
  have:=(dn_cnt hd).1
  omega
 exact⟨fre_keep hm h4,free_enf hE hd hc⟩
def freL (s:Rm) (l:List It):Rm:=l.foldl (fun u x=>freR u x.2.1) s
theorem freL_cons (s:Rm) (x:It) (l:List It):freL s (x::l)=freL (freR s x.2.1) l:=rfl
theorem freL_enf:∀ (l:List It) {s:Rm} {P:Nat→Nat} {N:List Int},mayR s=true→Enf s.1 s.2.1 (fun i=>P i+cntR l i) N→(∀ x∈l,0<x.2.1∧∃ n∈N,∃ z∈(ndD s.1 n).2,z.2.1=x.2.1)→KeepR s (freL s l)∧Enf (freL s l).1 (freL s l).2.1 P N
 | [],s,P,N,hm,hE,_=>⟨ptk_same hm,hE.same fun _=>rfl⟩
 | x::l,s,P,N,hm,hE,hr=>by
  obtain⟨h0,h1⟩:=hr x List.mem_cons_self
  obtain⟨k1,e1⟩:=fre_enf (P:=fun i=>P i+cntR l i) hm (hE.same fun i=>by
   have ec:cntR (x::l) i=(if x.2.1=(i:Int) then (if x.2.1=0 then 0 else 1) else 0)+cntR l i:=rfl
   show P i+cntR l i+(if i=x.2.1.toNat then 1 else 0)=P i+cntR (x::l) i
   rw[ec]
   by_cases e:x.2.1=(i:Int)
   ·rw[if_pos e,if_neg (show ¬ x.2.1=0 by omega),if_pos (show i=x.2.1.toNat by omega)];omega
   ·rw[if_neg e,if_neg (show ¬ i=x.2.1.toNat by omega)];omega) h0 h1
  obtain⟨k2,e2⟩:=freL_enf l (s:=freR s x.2.1) (P:=P) (N:=N) k1.may e1 fun y hy=>hr y (List.mem_cons_of_mem _ hy)
  exact⟨ptk_trans k1 k2,e2⟩
theorem rm_in {s:Rm} {a:Int} (h:rmE s a=0):InN (rmV s a):=by
 obtain⟨k,rfl,_,_,_,_,_,hE,hV,_⟩:=as_read (rm_may h).2
 rw[hV]
 rw[hE] at h
 exact(blkN_read h).2.2
theorem up_cnt {l:List It} {k i:Nat} (h:8≤k):cntR [upI l (k:Int)] i=if i=k then 1 else 0:=by
 show (if (k:Int)=(i:Int) then (if (k:Int)=0 then 0 else 1) else 0)+0=_
 by_cases e:i=k
 ·subst e
  rw[if_pos rfl,if_neg (by omega),if_pos rfl]
 ·rw[if_neg (by omega),if_neg e]
theorem built_enf {s u:Rm} {lv:Int} {L up:List It} {P:Nat→Nat} {N:List Int} (h:builtO s lv L=(0,u,up)) (hi:InN (lv,L)) (hE:Enf s.1 s.2.1 P N) (hsub:lv≠0→∀ x∈L,x.2.1∈N∧x.2.1≠0∧(ndD s.1 x.2.1).1+1=lv) :
  ∃ N',Enf u.1 u.2.1 (fun i=>P i+cntR up i) N'∧KeepR s u∧(∀ m∈N,m∈N')∧(∀ m∈N,ndD u.1 m=ndD s.1 m)∧(∀ y∈up,y.2.1∈N'∧8≤y.2.1∧y.2.1<256∧(ndD u.1 y.2.1).1=lv)∧(∀ x∈L,∃ n∈N',x∈(ndD u.1 n).2)∧up.length≤2∧u.1.2.length≤s.1.2.length+2:=by
 have hw:∀ {s:Rm} {n:Nd},mkE s n=0→(mkV s n).1.2.length≤s.1.2.length+1:=fun {s n} h=>by
  obtain⟨k,_,_,_,_,_,_,hV,_⟩:=mk_counts h
  rw[hV]
  simp[wrD]
 rcases built_ways h with ⟨h1,rfl,rfl⟩ | ⟨h0,h1,h2,rfl,rfl⟩
 ·obtain⟨k,e1,k8,k256,_,_,hE1,hnd,hndm,_⟩:=make_enf h1 hi hE hsub
  refine⟨_,hE1.same fun i=>by rw[e1,up_cnt k8],keep_make h1,fun m hm=>List.mem_cons_of_mem _ hm,hndm,fun y hy => ?_,fun x hx=>⟨k,List.mem_cons_self,by rw[hnd];exact hx⟩,by simp,by have:=hw h1;omega⟩
  rw[List.mem_singleton.1 hy,e1]
  exact⟨List.mem_cons_self,by show (8:Int)≤k;omega,by show (k:Int)<256;omega,by show (ndD _ (k:Int)).1=_;rw[hnd]⟩
 ·have hst:lv≠0→∀ x∈L.take 3,x.2.1∈N∧x.2.1≠0∧(ndD s.1 x.2.1).1+1=lv:=fun hl x hx=>hsub hl x (List.mem_of_mem_take hx)
  obtain⟨k,e1,k8,k256,_,_,hE1,hnd,hndm,_⟩:=make_enf h1 (in_take hi) hE hst
  obtain⟨j,e2,j8,j256,_,hjN,hE2,hnd2,hndm2,_⟩:=make_enf h2 (in_drop hi) hE1 fun hl x hx=>by
   obtain⟨g1,g2,g3⟩:=hsub hl x (List.mem_of_mem_drop hx)
   exact⟨List.mem_cons_of_mem _ g1,g2,by rw[hndm _ g1];exact g3⟩
  have hkk:ndD (mkV (mkV s (lv,L.take 3)) (lv,L.drop 3)).1 (k:Int)=(lv,L.take 3):=(hndm2 _ List.mem_cons_self).trans hnd
  refine⟨_,hE2.same fun i => ?_,ptk_trans (keep_make h1) (keep_make h2),fun m hm=>List.mem_cons_of_mem _ (List.mem_cons_of_mem _ hm),fun m hm=>(hndm2 m (List.mem_cons_of_mem _ hm)).trans (hndm m hm),fun y hy => ?_,fun x hx => ?_,by simp,by have:=hw h1;have:=hw h2;omega⟩
  ·have ec:cntR [upI (L.take 3) (mkN s (lv,L.take 3)),upI (L.drop 3) (mkN (mkV s (lv,L.take 3)) (lv,L.drop 3))] i=cntR [upI (L.take 3) (mkN s (lv,L.take 3))] i+cntR [upI (L.drop 3) (mkN (mkV s (lv,L.take 3)) (lv,L.drop 3))] i:=by
    show _+(_+0)=(_+0)+(_+0)
    omega
   rw[ec,e1,e2,up_cnt k8,up_cnt j8]
   omega
  ·rcases List.mem_cons.1 hy with rfl | hy
   ·rw[e1]
    exact⟨List.mem_cons_of_mem _ List.mem_cons_self,by show (8:Int)≤k;omega,by show (k:Int)<256;omega,by show (ndD _ (k:Int)).1=_;rw[hkk]⟩
   ·rw[List.mem_singleton.1 hy,e2]
    exact⟨List.mem_cons_self,by show (8:Int)≤j;omega,by show (j:Int)<256;omega,by show (ndD _ (j:Int)).1=_;rw[hnd2]⟩
  ·rw[← List.take_append_drop 3 L] at hx
   rcases List.mem_append.1 hx with hx | hx
   ·exact⟨k,List.mem_cons_of_mem _ List.mem_cons_self,by rw[hkk];exact hx⟩
   ·exact⟨j,List.mem_cons_self,by rw[hnd2];exact hx⟩
end Go.Proofs.YtogieepfimpdmaaGreat
/-
 An item put in along its way,plain: the new nodes,from the leaf up. Conditions: those that each lemma states.
-/
namespace Go.Proofs.YtogieepfimpdmaaGreat
open Go.RowKit
def insL (l:List It) (p many:Nat) (up:List It):List It:=l.take p++(up++l.drop (p+many))
noncomputable def refW (n:Nd) (k:Ky):Int:=((n.2[wayN n k]?).map fun y=>y.2.1).getD 0
noncomputable def grownO (x:It):Nat→Rm→Int→Int×Rm×List It
 | 0,s,a =>
  if (builtO s 0 (insL (rmV s a).2 (placeN (rmV s a) x.1) (if thereN (rmV s a) x.1=true then 1 else 0) [x])).1=0 then
   (0,(if x.2.1=0 then (builtO s 0 (insL (rmV s a).2 (placeN (rmV s a) x.1) (if thereN (rmV s a) x.1=true then 1 else 0) [x])).2.1 else freR (builtO s 0 (insL (rmV s a).2 (placeN (rmV s a) x.1) (if thereN (rmV s a) x.1=true then 1 else 0) [x])).2.1 x.2.1),(builtO s 0 (insL (rmV s a).2 (placeN (rmV s a) x.1) (if thereN (rmV s a) x.1=true then 1 else 0) [x])).2.2)
  else ((builtO s 0 (insL (rmV s a).2 (placeN (rmV s a) x.1) (if thereN (rmV s a) x.1=true then 1 else 0) [x])).1,emptyR,[])
 | l+1,s,a =>
  if (grownO x l s (refW (rmV s a) x.1)).1=0 then
   if (builtO (grownO x l s (refW (rmV s a) x.1)).2.1 ((l+1:Nat):Int) (insL (rmV s a).2 (wayN (rmV s a) x.1) 1 (grownO x l s (refW (rmV s a) x.1)).2.2)).1=0 then
    (0,freL (builtO (grownO x l s (refW (rmV s a) x.1)).2.1 ((l+1:Nat):Int) (insL (rmV s a).2 (wayN (rmV s a) x.1) 1 (grownO x l s (refW (rmV s a) x.1)).2.2)).2.1 (grownO x l s (refW (rmV s a) x.1)).2.2,
     (builtO (grownO x l s (refW (rmV s a) x.1)).2.1 ((l+1:Nat):Int) (insL (rmV s a).2 (wayN (rmV s a) x.1) 1 (grownO x l s (refW (rmV s a) x.1)).2.2)).2.2)
   else ((builtO (grownO x l s (refW (rmV s a) x.1)).2.1 ((l+1:Nat):Int) (insL (rmV s a).2 (wayN (rmV s a) x.1) 1 (grownO x l s (refW (rmV s a) x.1)).2.2)).1,emptyR,[])
  else ((grownO x l s (refW (rmV s a) x.1)).1,emptyR,[])
theorem grown_leaf {x:It} {s u:Rm} {a:Int} {up:List It} (h:grownO x 0 s a=(0,u,up)):∃ u0,builtO s 0 (insL (rmV s a).2 (placeN (rmV s a) x.1) (if thereN (rmV s a) x.1=true then 1 else 0) [x])=(0,u0,up)∧u=if x.2.1=0 then u0 else freR u0 x.2.1:=by
 unfold grownO at h
 generalize hb:builtO s 0 _=b at h
 obtain⟨e,v,q⟩:=b
 split at h
 ·rename_i h0
  cases h
  exact⟨v,by rw[show e=0 from h0],rfl⟩
 ·rename_i h0
  simp only[Prod.mk.injEq] at h
  exact absurd h.1 h0
theorem grown_inner {x:It} {l:Nat} {s u:Rm} {a:Int} {up:List It} (h:grownO x (l+1) s a=(0,u,up)):∃ u1 up1 u2,grownO x l s (refW (rmV s a) x.1)=(0,u1,up1)∧builtO u1 ((l+1:Nat):Int) (insL (rmV s a).2 (wayN (rmV s a) x.1) 1 up1)=(0,u2,up)∧u=freL u2 up1:=by
 unfold grownO at h
 generalize hg:grownO x l s _=g at h
 obtain⟨e,u1,up1⟩:=g
 generalize hb:builtO _ _ _=b at h
 obtain⟨f,u2,q⟩:=b
 split at h
 ·rename_i h0
  split at h
  ·rename_i h1
   cases h
   exact⟨u1,up1,u2,by rw[show e=0 from h0],by rw[← show f=0 from h1];exact hb,rfl⟩
  ·rename_i h1
   simp only[Prod.mk.injEq] at h
   exact absurd h.1 h1
 ·rename_i h0
  simp only[Prod.mk.injEq] at h
  exact absurd h.1 h0
theorem built_key {s u:Rm} {lv:Int} {L up:List It} (h:builtO s lv L=(0,u,up)) (hne:L≠[]):∀ y∈up,∃ q∈L,y.1=q.1:=by
 have hk:∀ {M:List It},M≠[]→∃ q∈M,keyO M=q.1:=fun {M} hM=>by
  obtain⟨q,r,rfl⟩:=List.exists_cons_of_ne_nil hM
  exact⟨q,List.mem_cons_self,rfl⟩
 rcases built_ways h with ⟨_,_,rfl⟩ | ⟨h0,_,_,_,rfl⟩
 ·intro y hy
  rw[List.mem_singleton.1 hy]
  exact hk hne
 ·have hd:L.drop 3≠[]:=fun e=>by
   have:=congrArg List.length e
   rw[List.length_drop] at this
   simp at this
   omega
  have ht:L.take 3≠[]:=fun e=>by
   have h5:(L.take 3).length=0:=by rw[e];rfl
   rw[List.length_take] at h5
   omega
  intro y hy
  rcases List.mem_cons.1 hy with rfl | hy
  ·obtain⟨q,hq,e⟩:=hk ht
   exact⟨q,List.mem_of_mem_take hq,e⟩
  ·rw[List.mem_singleton.1 hy]
   obtain⟨q,hq,e⟩:=hk hd
   exact⟨q,List.mem_of_mem_drop hq,e⟩
theorem putL_key {y:It} {r:List It} {x:It} (h:Up (y::r)) (hx:lessK x.1 y.1=false):keyO (putL (y::r) x)=y.1:=by
 unfold putL
 cases hy:lessK y.1 x.1 with
 | true =>
  rw[List.filter_cons_of_pos (by simpa using hy)]
  rfl
 | false =>
  have e:y.1=x.1:=by
   by_cases e:y.1=x.1
   ·exact e
   ·rw[less_total e hy] at hx;cases hx
  rw[filter_none (L:=y::r) fun z hz => ?_]
  ·exact e.symm
  ·rcases List.mem_cons.1 hz with rfl | hz
   ·exact hy
   ·rw[← e]
    exact less_anti ((List.pairwise_cons.1 h).1 z hz)
noncomputable def innT (s:Rm):Nat→List It→Ky→Bool→Bool
 | 0,L,_,_=>leafO s L
 | j+1,L,tb,e=>itsO (rightO s j) L tb e
structure TopT (s:Rm) (l:Nat) (a:Int) (tb:Ky) (e:Bool):Prop where
 ok:rmE s a=0
 lv:(rmV s a).1=(l:Int)
 inn:innT s l (rmV s a).2 tb e=true
 low:e=true→∀ y∈(rmV s a).2,lessK y.1 tb=true
theorem right_top {s:Rm} {l:Nat} {a:Int} {k tb:Ky} {e:Bool} (h:rightO s l a k tb e=true):TopT s l a tb e∧∀ y r,(rmV s a).2=y::r→y.1=k:=by
 obtain⟨r1,r2,r3,r4⟩:=right_of h
 obtain⟨y,r,e1,e2,e3⟩:=head_of r3
 refine⟨⟨r1,r2,by cases l <;> exact r4,fun he => ?_⟩,fun y' r' e' => ?_⟩
 ·obtain⟨z,hz,hb⟩:=e3 he
  exact up_last (up_may (rm_may r1).1) hz hb
 ·rw[e1] at e'
  cases e'
  exact e2
theorem tree_top {s:Rm} {a:Int} (h:treeO s a=true):TopT s (rmV s a).1.toNat a keyZ false:=by
 obtain⟨r1,_,_,l0,_,hi⟩:=tree_of h
 refine⟨r1,by omega,?_,fun he=>by cases he⟩
 unfold innerO at hi
 cases hl:(rmV s a).1.toNat with
 | zero=>rw[hl] at hi;exact hi
 | succ j=>rw[hl] at hi;exact hi
def hold (x:It) (i:Nat):Nat:=if x.2.1≠0∧i=x.2.1.toNat then 1 else 0
structure GrownIs (s u:Rm) (P:Nat→Nat) (N N':List Int) (l:Nat) (a:Int) (up:List It) (x:It) (tb:Ky) (e:Bool):Prop where
 keep:KeepR s u
 its:itsO (rightO u l) up tb e=true
 all:(up.flatMap fun y=>itsT u l y.2.1)=putL (itsT s l a) x
 first:∃ z r,up=z::r∧∀ y q,(rmV s a).2=y::q→lessK x.1 y.1=false→z.1=y.1
 enf:Enf u.1 u.2.1 (fun i=>P i+cntR up i) N'
 more:∀ m∈N,m∈N'
 ups:∀ y∈up,y.2.1∈N'∧8≤y.2.1∧y.2.1<256∧(ndD u.1 y.2.1).1=(l:Int)
 inI:∀ y∈up,InI y
 few:up.length≤2
 writes:u.1.2.length≤s.1.2.length+2*(l+1)
theorem leaf_grown {x:It} (hx:InI x) {s u:Rm} {a:Int} {tb:Ky} {e:Bool} {P:Nat→Nat} {N:List Int} {up:List It} (ht:TopT s 0 a tb e) (hb:e=true→lessK x.1 tb=true) (hr:x.2.1=0∨(0<x.2.1∧s.2.1[x.2.1.toNat]?.getD 0≠0))
  (hE:Enf s.1 s.2.1 (fun i=>P i+hold x i) N) (h:grownO x 0 s a=(0,u,up)):∃ N',GrownIs s u P N N' 0 a up x tb e:=by
 obtain⟨u0,h1,rfl⟩:=grown_leaf h
 have hm:=(rm_may ht.ok).1
 have el:insL (rmV s a).2 (placeN (rmV s a) x.1) (if thereN (rmV s a) x.1=true then 1 else 0) [x]=putL (rmV s a).2 x:=leaf_put hm x
 rw[el] at h1
 have hin:x∈putL (rmV s a).2 x:=putL_in.2 (.inl rfl)
 have hne:putL (rmV s a).2 x≠[]:=fun e=>by rw[e] at hin;cases hin
 have hi:InN ((0:Int),putL (rmV s a).2 x):=⟨⟨by simp,by simp⟩,fun y hy=>by
  rcases putL_in.1 hy with rfl | ⟨hy,_⟩
  ·exact hx
  ·exact(rm_in ht.ok).it y hy⟩
 have hrow:rowP s 0 (putL (rmV s a).2 x) tb e (putL (rmV s a).2 x):=by
  refine⟨putL_up (up_may hm) x,?_,fun he y hy => ?_,rfl⟩
  ·have h2:leafO s (rmV s a).2=true:=ht.inn
   unfold leafO at h2 ⊢
   rw[List.all_eq_true] at h2 ⊢
   intro y hy
   rcases putL_in.1 hy with rfl | ⟨hy,_⟩
   ·rcases hr with hr | hr
    ·simp[hr]
    ·simp[hr.2]
   ·exact h2 y hy
  ·rcases putL_in.1 hy with rfl | ⟨hy,_⟩
   ·exact hb he
   ·exact ht.low he y hy
 obtain⟨k1,g1,g2,z,r,ez,kz⟩:=built_right (lv:=0) h1 hi hne hrow
 obtain⟨N',e1,_,e3,e4,e5,e6,e7,e8⟩:=built_enf h1 hi hE fun h0=>absurd rfl h0
 have hK:KeepR u0 (if x.2.1=0 then u0 else freR u0 x.2.1)∧Enf (if x.2.1=0 then u0 else freR u0 x.2.1).1 (if x.2.1=0 then u0 else freR u0 x.2.1).2.1 (fun i=>P i+cntR up i) N':=by
  by_cases h0:x.2.1=0
  ·rw[if_pos h0]
   exact⟨ptk_same k1.may,e1.same fun i=>by simp[hold,h0]⟩
  ·rw[if_neg h0]
   obtain⟨n,hn,hxn⟩:=e6 x hin
   have hpos:0<x.2.1:=by rcases hr with hr | hr <;> omega
   refine fre_enf k1.may (e1.same fun i => ?_) hpos ⟨n,hn,x,hxn,rfl⟩
   show P i+cntR up i+(if i=x.2.1.toNat then 1 else 0)=P i+hold x i+cntR up i
   unfold hold
   by_cases ei:i=x.2.1.toNat
   ·rw[if_pos ei,if_pos ⟨h0,ei⟩];omega
   ·rw[if_neg ei,if_neg fun h=>ei h.2];omega
 obtain⟨k2,e9⟩:=hK
 have hnd:∀ m∈N',ndD (if x.2.1=0 then u0 else freR u0 x.2.1).1 m=ndD u0.1 m:=fun m hm=>by
  by_cases h0:x.2.1=0
  ·rw[if_pos h0]
  ·rw[if_neg h0];rfl
 refine⟨N',ptk_trans k1 k2,its_mono (fun a k tb e hf=>(keep_right k2 0 a k tb e hf).1) _ _ _ g1,?_,⟨z,r,ez,fun y q ey hxy => ?_⟩,e9,e3,fun y hy => ?_,fun y hy => ?_,e7,?_⟩
 ·rw[show itsT s 0 a=(rmV s a).2 from rfl,← g2]
  exact flat_same fun y hy=>by
   obtain⟨t',e',hf⟩:=its_mem g1 y hy
   exact(keep_right k2 0 _ _ _ _ hf).2.1
 ·rw[kz,ey]
  exact putL_key (by rw[← ey];exact up_may hm) hxy
 ·obtain⟨f1,f2,f3,f4⟩:=e5 y hy
  exact⟨f1,f2,f3,by rw[hnd _ f1];exact f4⟩
 ·obtain⟨q,hq,eq⟩:=built_key h1 hne y hy
  obtain⟨_,f2,f3,_⟩:=e5 y hy
  exact⟨by rw[eq];exact(hi.it q hq).key,⟨by omega,by omega⟩⟩
 ·have:(if x.2.1=0 then u0 else freR u0 x.2.1).1=u0.1:=by
   by_cases h0:x.2.1=0
   ·rw[if_pos h0]
   ·rw[if_neg h0];rfl
  rw[this]
  omega
theorem way_part {n:Nd} {k:Ky} {y:It} (hy:n.2[wayN n k]? = some y):n.2=n.2.take (wayN n k)++y::n.2.drop (wayN n k+1):=by
 obtain⟨hp,hg⟩:=List.getElem?_eq_some_iff.1 hy
 conv=>lhs;rw[← List.take_append_drop (wayN n k) n.2,List.drop_eq_getElem_cons hp,hg]
theorem inner_grown {x:It} {l:Nat} (h6:l+1<6) {s u:Rm} {a:Int} {tb:Ky} {e:Bool} {P:Nat→Nat} {N:List Int} {up:List It}
  (ih:∀ {u:Rm} {a:Int} {tb:Ky} {e:Bool} {up:List It},TopT s l a tb e→(e=true→lessK x.1 tb=true)→a∈N→grownO x l s a=(0,u,up)→∃ N',GrownIs s u P N N' l a up x tb e)
  (ht:TopT s (l+1) a tb e) (hb:e=true→lessK x.1 tb=true) (ha:a∈N) {Q:Nat→Nat} (hE:Enf s.1 s.2.1 Q N) (h:grownO x (l+1) s a=(0,u,up)):∃ N',GrownIs s u P N N' (l+1) a up x tb e:=by
 obtain⟨u1,up1,u2,h1,h2,rfl⟩:=grown_inner h
 have hm:=(rm_may ht.ok).1
 have hne:0<(rmV s a).2.length:=(mayN_of hm).1.2.2.2 (by rw[ht.lv];omega)
 obtain⟨y,hy⟩:∃ y,(rmV s a).2[wayN (rmV s a) x.1]? = some y:=⟨_,List.getElem?_eq_getElem (way_in x.1 hne)⟩
 have hw:=way_part hy
 have hyin:y∈(rmV s a).2:=List.mem_of_getElem? hy
 have hir:refW (rmV s a) x.1=y.2.1:=by unfold refW;rw[hy];rfl
 rw[hir] at h1
 have hbe:=fun(i:Nat) (c:It) (hi:wayN (rmV s a) x.1<i) (hc:(rmV s a).2[i]? = some c)=>way_behind hm hi hc
 have hown:=way_own hm hy
 have hA0:(rmV s a).2.take (wayN (rmV s a) x.1)≠[]→lessK x.1 y.1=false:=fun hA=>hown fun e=>hA (by rw[e];rfl)
 have hCk:∀ c r,(rmV s a).2.drop (wayN (rmV s a) x.1+1)=c::r→lessK x.1 c.1=true:=fun c r hc=>by
  refine hbe (wayN (rmV s a) x.1+1) c (by omega) ?_
  have:=congrArg (fun l=>l[0]?) hc
  simpa [List.getElem?_drop] using this
 have eL:insL (rmV s a).2 (wayN (rmV s a) x.1) 1 up1=(rmV s a).2.take (wayN (rmV s a) x.1)++(up1++(rmV s a).2.drop (wayN (rmV s a) x.1+1)):=rfl
 rw[eL] at h2
 generalize hAe:(rmV s a).2.take (wayN (rmV s a) x.1)=A at *
 generalize hCe:(rmV s a).2.drop (wayN (rmV s a) x.1+1)=C at *
 have hinn:itsO (rightO s l) (rmV s a).2 tb e=true:=ht.inn
 rw[hw] at hinn
 have hsp:=hinn
 rw[its_append,Bool.and_eq_true,its_cons,Bool.and_eq_true] at hsp
 obtain⟨iA,iy,iC⟩:=hsp
 obtain⟨hty,htk⟩:=right_top iy
 have hbC:bxO C e=true→lessK x.1 (nxO C tb)=true:=fun he=>by
  cases hC:C with
  | nil=>rw[hC] at he;exact hb he
  | cons c r=>exact hCk c r hC
 have hnd:ndD s.1 a=rmV s a:=ndD_rm ht.ok
 have hsh:∀ q∈(rmV s a).2,q.2.1∈N∧q.2.1≠0∧(ndD s.1 q.2.1).1+1=((l+1:Nat):Int):=fun q hq=>by
  have:=hE.shut a ha (by rw[hnd,ht.lv];omega) q (by rw[hnd];exact hq)
  rw[hnd,ht.lv] at this
  exact this
 obtain⟨N1,G⟩:=ih hty hbC (hsh y hyin).1 h1
 obtain⟨z1,r1,ez1,kz1⟩:=G.first
 have hz1:lessK x.1 y.1=false→z1.1=y.1:=fun hxy=>by
  obtain⟨y0,q0,e0,_⟩:∃ y0 q0,(rmV s y.2.1).2=y0::q0∧True:=by
   obtain⟨_,_,r3,_⟩:=right_of iy
   obtain⟨y0,q0,e0,_⟩:=head_of r3
   exact⟨y0,q0,e0,trivial⟩
  have k0:=htk y0 q0 e0
  rw[kz1 y0 q0 e0 (by rw[k0];exact hxy),k0]
 have hits:itsO (rightO u1 l) (A++(up1++C)) tb e=true:=its_instead hinn (fun hA=>hz1 (hA0 hA)) ez1 (fun q _ k tb e hf=>(keep_right G.keep l _ _ _ _ hf).1) G.its
 have hfA:(A.flatMap fun q=>itsT u1 l q.2.1)=A.flatMap fun q=>itsT s l q.2.1:=flat_same fun q hq=>by
  obtain⟨t',e',hf⟩:=its_mem iA q hq
  exact(keep_right G.keep l _ _ _ _ hf).2.1
 have hfC:(C.flatMap fun q=>itsT u1 l q.2.1)=C.flatMap fun q=>itsT s l q.2.1:=flat_same fun q hq=>by
  obtain⟨t',e',hf⟩:=its_mem iC q hq
  exact(keep_right G.keep l _ _ _ _ hf).2.1
 have hpA:∀ q∈A.flatMap (fun q=>itsT s l q.2.1),lessK q.1 x.1=true:=fun q hq=>by
  by_cases hA:A=[]
  ·rw[hA] at hq;cases hq
  ·have iA':itsO (rightO s l) A y.1 true=true:=iA
   obtain⟨_,_,_,hp⟩:=part_its (right_part s l) A y.1 true hA iA'
   exact le_less (hp.bound rfl q hq) (hA0 hA)
 have hpC:∀ q∈C.flatMap (fun q=>itsT s l q.2.1),lessK x.1 q.1=true:=fun q hq=>by
  by_cases hC:C=[]
  ·rw[hC] at hq;cases hq
  ·obtain⟨c,r,ec,hp⟩:=part_its (right_part s l) C tb e hC iC
   have hc:=hCk c r ec
   rcases hp.ge q hq with e1 | e1
   ·rw[e1];exact hc
   ·exact less_trans hc e1
 have hall:((A++(up1++C)).flatMap fun q=>itsT u1 l q.2.1)=putL (itsT s (l+1) a) x:=by
  have e1:itsT s (l+1) a=(rmV s a).2.flatMap fun q=>itsT s l q.2.1:=rfl
  rw[e1,hw,List.flatMap_append,List.flatMap_append,List.flatMap_append,List.flatMap_cons,hfA,hfC,G.all,putL_mid hpA hpC]
 have hin:InN (((l+1:Nat):Int),A++(up1++C)):=⟨⟨by show (-9223372036854775808:Int)≤((l+1:Nat):Int);omega,by show ((l+1:Nat):Int)≤9223372036854775807;omega⟩,fun q hq=>by
  have hN:=(rm_in ht.ok).it
  rw[hw] at hN
  rcases List.mem_append.1 hq with hq | hq
  ·exact hN q (List.mem_append_left _ hq)
  ·rcases List.mem_append.1 hq with hq | hq
   ·exact G.inI q hq
   ·exact hN q (List.mem_append_right _ (List.mem_cons_of_mem _ hq))⟩
 have hnL:A++(up1++C)≠[]:=by rw[ez1];simp
 have hrow:rowP u1 (l+1) (A++(up1++C)) tb e (putL (itsT s (l+1) a) x):=⟨hits,hall.symm⟩
 obtain⟨k2,g1,g2,z,r,ez,kz⟩:=built_right h2 hin hnL hrow
 obtain⟨N2,e1,_,e3,e4,e5,e6,e7,e8⟩:=built_enf h2 hin G.enf fun _ q hq=>by
  have hold:∀ q∈(rmV s a).2,q.2.1∈N1∧q.2.1≠0∧(ndD u1.1 q.2.1).1+1=((l+1:Nat):Int):=fun q hq=>by
   obtain⟨f1,f2,f3⟩:=hsh q hq
   exact⟨G.more _ f1,f2,by rw[keep_nd G.keep hE f1];exact f3⟩
  rw[hw] at hold
  rcases List.mem_append.1 hq with hq | hq
  ·exact hold q (List.mem_append_left _ hq)
  ·rcases List.mem_append.1 hq with hq | hq
   ·obtain⟨f1,f2,f3,f4⟩:=G.ups q hq
    exact⟨f1,by omega,by rw[f4];omega⟩
   ·exact hold q (List.mem_append_right _ (List.mem_cons_of_mem _ hq))
 obtain⟨k3,e9⟩:=freL_enf up1 (s:=u2) (P:=fun i=>P i+cntR up i) (N:=N2) k2.may (e1.same fun i=>by show P i+cntR up i+cntR up1 i=P i+cntR up1 i+cntR up i;omega) fun q hq=>by
  obtain⟨_,f2,_,_⟩:=G.ups q hq
  obtain⟨n,hn,hqn⟩:=e6 q (List.mem_append_right _ (List.mem_append_left _ hq))
  exact⟨by omega,n,hn,q,hqn,rfl⟩
 have hd:(freL u2 up1).1=u2.1:=by
  clear k3 e9 e1
  have:∀ (l:List It) (v:Rm),(freL v l).1=v.1:=by
   intro l
   induction l with
   | nil=>intro v;rfl
   | cons q r ih=>intro v;rw[freL_cons,ih];rfl
  exact this up1 u2
 refine⟨N2,ptk_trans (ptk_trans G.keep k2) k3,its_mono (fun a k tb e hf=>(keep_right k3 (l+1) a k tb e hf).1) _ _ _ g1,?_,⟨z,r,ez,fun y0 q0 e0 hxy => ?_⟩,e9,fun m hm=>e3 m (G.more m hm),fun q hq => ?_,fun q hq => ?_,e7,?_⟩
 ·rw[← g2]
  exact flat_same fun q hq=>by
   obtain⟨t',e',hf⟩:=its_mem g1 q hq
   exact(keep_right k3 (l+1) _ _ _ _ hf).2.1
 ·rw[kz]
  rw[hw] at e0
  cases hA:A with
  | nil =>
   rw[hA] at e0
   cases e0
   rw[ez1]
   exact hz1 hxy
  | cons c r0 =>
   rw[hA] at e0
   cases e0
   rfl
 ·rw[hd]
  exact e5 q hq
 ·obtain⟨p,hp,ep⟩:=built_key h2 hnL q hq
  obtain⟨_,f2,f3,_⟩:=e5 q hq
  exact⟨by rw[ep];exact(hin.it p hp).key,⟨by omega,by omega⟩⟩
 ·rw[hd]
  have:=G.writes
  omega
theorem grown_ok {x:It} (hx:InI x) {s:Rm} {P:Nat→Nat} {N:List Int} (hr:x.2.1=0∨(0<x.2.1∧s.2.1[x.2.1.toNat]?.getD 0≠0)) (hE:Enf s.1 s.2.1 (fun i=>P i+hold x i) N):∀ (l:Nat),l<6→∀ {u:Rm} {a:Int} {tb:Ky} {e:Bool} {up:List It},TopT s l a tb e→(e=true→lessK x.1 tb=true)→a∈N→grownO x l s a=(0,u,up)→∃ N',GrownIs s u P N N' l a up x tb e
 | 0,_,_,_,_,_,_,ht,hb,_,h=>leaf_grown hx ht hb hr hE h
 | l+1,h6,_,_,_,_,_,ht,hb,ha,h=>inner_grown h6 (fun ht hb ha h=>grown_ok hx hr hE l (by omega) ht hb ha h) ht hb ha hE h
end Go.Proofs.YtogieepfimpdmaaGreat
/-
 An item put into a tree,plain: the answer,its items,the other trees,the counts. Conditions: those that each lemma states.
-/
namespace Go.Proofs.YtogieepfimpdmaaGreat
open Go.RowKit
noncomputable def tallT (s:Rm):Nat→Int→Ky→Bool
 | 0,a,k=>decide (5≤(rmV s a).2.length) && !thereN (rmV s a) k
 | l+1,a,k=>decide (5≤(rmV s a).2.length)&&tallT s l (refW (rmV s a) k) k
noncomputable def tallO (s:Rm) (a:Int) (k:Ky):Bool:=decide ((rmV s a).1=5)&&tallT s 5 a k
noncomputable def rootO (s:Rm) (lv:Int) (up:List It):Int×Rm×List It :=
 if 1<up.length then
  if (builtO s (lv+1) up).1=0 then (0,freL (builtO s (lv+1) up).2.1 up,(builtO s (lv+1) up).2.2) else ((builtO s (lv+1) up).1,emptyR,[])
 else (0,s,up)
def nowL (up:List It):Int:=match up with | []=>0 | z::_=>z.2.1
noncomputable def insO (s:Rm) (a:Int) (x:It):Int×Rm×Int :=
 if tallO s a x.1 then (120,emptyR,0)
 else if (grownO x (rmV s a).1.toNat s a).1=0 then
  if (rootO (grownO x (rmV s a).1.toNat s a).2.1 (rmV s a).1 (grownO x (rmV s a).1.toNat s a).2.2).1=0 then
   match lfO (rootO (grownO x (rmV s a).1.toNat s a).2.1 (rmV s a).1 (grownO x (rmV s a).1.toNat s a).2.2).2.1.1 (rootO (grownO x (rmV s a).1.toNat s a).2.1 (rmV s a).1 (grownO x (rmV s a).1.toNat s a).2.2).2.1.2.1 a.toNat with
   | none=>(8,emptyR,0)
   | some v=>(0,((rootO (grownO x (rmV s a).1.toNat s a).2.1 (rmV s a).1 (grownO x (rmV s a).1.toNat s a).2.2).2.1.1,v,(rootO (grownO x (rmV s a).1.toNat s a).2.1 (rmV s a).1 (grownO x (rmV s a).1.toNat s a).2.2).2.1.2.2),nowL (rootO (grownO x (rmV s a).1.toNat s a).2.1 (rmV s a).1 (grownO x (rmV s a).1.toNat s a).2.2).2.2)
  else ((rootO (grownO x (rmV s a).1.toNat s a).2.1 (rmV s a).1 (grownO x (rmV s a).1.toNat s a).2.2).1,emptyR,0)
 else ((grownO x (rmV s a).1.toNat s a).1,emptyR,0)
noncomputable def putO (s:Rm) (a:Int) (x:It):Int×Rm×Int :=
 if ckE s a=0 then if mayI x then if x.2.1≠0∧s.2.1[x.2.1.toNat]?.getD 0=0 then (6,emptyR,0) else insO s a x else (8,emptyR,0) else (ckE s a,emptyR,0)
theorem root_ways {s u:Rm} {lv:Int} {up top:List It} (h:rootO s lv up=(0,u,top)):(up.length≤1∧u=s∧top=up)∨(1<up.length∧∃ u0,builtO s (lv+1) up=(0,u0,top)∧u=freL u0 up):=by
 unfold rootO at h
 split at h
 ·rename_i h0
  generalize hb:builtO s (lv+1) up=b at h
  obtain⟨e,v,q⟩:=b
  split at h
  ·rename_i h1
   cases h
   exact .inr ⟨h0,v,by rw[show e=0 from h1],rfl⟩
  ·rename_i h1
   simp only[Prod.mk.injEq] at h
   exact absurd h.1 h1
 ·cases h
  exact .inl ⟨by omega,rfl,rfl⟩
theorem ins_ways {s u:Rm} {a now:Int} {x:It} (h:insO s a x=(0,u,now)):∃ u1 up T top v,grownO x (rmV s a).1.toNat s a=(0,u1,up)∧rootO u1 (rmV s a).1 up=(0,T,top)∧lfO T.1 T.2.1 a.toNat=some v∧u=(T.1,v,T.2.2)∧now=nowL top:=by
 unfold insO at h
 generalize hg:grownO x (rmV s a).1.toNat s a=g at h
 obtain⟨e,u1,up⟩:=g
 generalize hb:rootO _ _ _=b at h
 obtain⟨f,T,top⟩:=b
 split at h
 ·simp only[Prod.mk.injEq] at h
  exact absurd h.1 (by decide)
 ·split at h
  ·rename_i h0
   split at h
   ·rename_i h1
    split at h
    ·simp only[Prod.mk.injEq] at h
     exact absurd h.1 (by decide)
    ·rename_i v hv
     cases h
     exact⟨u1,up,T,top,v,by rw[show e=0 from h0],by rw[← show f=0 from h1];exact hb,hv,rfl,rfl⟩
   ·rename_i h1
    simp only[Prod.mk.injEq] at h
    exact absurd h.1 h1
  ·rename_i h0
   simp only[Prod.mk.injEq] at h
   exact absurd h.1 h0
theorem right_tree {s:Rm} {l:Nat} {a:Int} {k:Ky} (h:rightO s l a k keyZ false=true):treeO s a=true∧allO s a=itsT s l a∧(rmV s a).1=(l:Int):=by
 obtain⟨r1,r2,r3,r4⟩:=right_of h
 have e:(rmV s a).1.toNat=l:=by omega
 refine⟨?_,by unfold allO;rw[e],r2⟩
 unfold treeO innerO
 rw[e,r1]
 cases l with
 | zero=>simp only[Bool.and_eq_true];exact⟨by decide,r4⟩
 | succ j=>simp only[Bool.and_eq_true];exact⟨by decide,r4⟩
theorem enf_blk {s:Rm} {t:List UInt8} {Q:Nat→Nat} {M:List Int} (hE:Enf s.1 t Q M) {x:It} {n:Int} (hn:n∈M) (hx:x∈(ndD s.1 n).2) (h0:x.2.1≠0):cnt8 t x.2.1.toNat≠0:=by
 have h1:=hE.enough x.2.1.toNat
 have h2:0≤x.2.1:=by rcases hE.refs n hn x hx with e | e <;> omega
 have h3:=cntR_has hx (k:=x.2.1.toNat) (by omega) h0
 have h4:=sumD_in (d:=s.1) (k:=x.2.1.toNat) hn
 omega
theorem enf_leaf {s:Rm} {t:List UInt8} {Q:Nat→Nat} {M:List Int} (hE:Enf s.1 t Q M) {a:Int} (hr:rmE s a=0) (ha:a∈M):(∀ n∈nodesT s 0 a,n∈M)∧∀ r∈refsT s 0 a,cnt8 t r.toNat≠0:=by
 refine⟨fun n hn => ?_,fun r hr' => ?_⟩
 ·simp only[nodesT,List.mem_singleton] at hn
  rw[hn];exact ha
 ·simp only[refsT,List.mem_filter,List.mem_map,decide_eq_true_eq] at hr'
  obtain⟨⟨x,hx,rfl⟩,h0⟩:=hr'
  exact enf_blk hE ha (by rw[ndD_rm hr];exact hx) h0
theorem enf_up {s:Rm} {t:List UInt8} {Q:Nat→Nat} {M:List Int} (hE:Enf s.1 t Q M) {l:Nat} {a:Int} (hr:rmE s a=0) (hl:(rmV s a).1=((l+1:Nat):Int)) (ha:a∈M)
  (ih:∀ x∈(rmV s a).2,x.2.1∈M→(∀ n∈nodesT s l x.2.1,n∈M)∧∀ r∈refsT s l x.2.1,cnt8 t r.toNat≠0):(∀ n∈nodesT s (l+1) a,n∈M)∧∀ r∈refsT s (l+1) a,cnt8 t r.toNat≠0:=by
 have hs:∀ x∈(rmV s a).2,x.2.1∈M:=fun x hx=>(hE.shut a ha (by rw[ndD_rm hr,hl];omega) x (by rw[ndD_rm hr];exact hx)).1
 refine⟨fun n hn => ?_,fun r hr' => ?_⟩
 ·simp only[nodesT,List.mem_cons,List.mem_flatMap] at hn
  rcases hn with rfl | ⟨x,hx,hn⟩
  ·exact ha
  ·exact(ih x hx (hs x hx)).1 n hn
 ·simp only[refsT,List.mem_flatMap] at hr'
  obtain⟨x,hx,hr'⟩:=hr'
  exact(ih x hx (hs x hx)).2 r hr'
theorem enf_right {s:Rm} {t:List UInt8} {Q:Nat→Nat} {M:List Int} (hE:Enf s.1 t Q M):∀ (l:Nat) (a:Int) (k tb:Ky) (e:Bool),rightO s l a k tb e=true→a∈M→(∀ n∈nodesT s l a,n∈M)∧∀ r∈refsT s l a,cnt8 t r.toNat≠0
 | 0,a,k,tb,e,hr,ha=>enf_leaf hE (right_of hr).1 ha
 | l+1,a,k,tb,e,hr,ha=>by
  obtain⟨r1,r2,_,r4⟩:=right_of hr
  exact enf_up hE r1 r2 ha fun x hx hxM=>by
   obtain⟨t',e',hf⟩:=its_mem r4 x hx
   exact enf_right hE l _ _ _ _ hf hxM
theorem enf_tree {s:Rm} {t:List UInt8} {Q:Nat→Nat} {M:List Int} (hE:Enf s.1 t Q M) {a:Int} (h:treeO s a=true) (ha:a∈M):(∀ n∈nodesO s a,n∈M)∧∀ r∈refsO s a,cnt8 t r.toNat≠0:=by
 obtain⟨r1,_,_,l0,_,hi⟩:=tree_of h
 unfold nodesO refsO
 unfold innerO at hi
 cases hl:(rmV s a).1.toNat with
 | zero=>exact enf_leaf hE r1 ha
 | succ l =>
  rw[hl] at hi
  exact enf_up hE r1 (by omega) ha fun x hx hxM=>by
   obtain⟨t',e',hf⟩:=its_mem hi x hx
   exact enf_right hE l _ _ _ _ hf hxM
theorem left_tree {T:Rm} {v:List UInt8} {Q:Nat→Nat} {N:List Int} {a:Int} (hm:mayR T=true) (hv:lfO T.1 T.2.1 a.toNat=some v) (hE:Enf T.1 v Q (liveN v N)) {b:Int} (hb:b∈N) (hQ:1≤Q b.toNat) (ht:treeO T b=true) :
  mayR (T.1,v,T.2.2)=true∧b∈liveN v N∧treeO (T.1,v,T.2.2) b=true∧rmV (T.1,v,T.2.2) b=rmV T b∧allO (T.1,v,T.2.2) b=allO T b∧(∀ q,theO (T.1,v,T.2.2) b q=theO T b q)∧nodesO (T.1,v,T.2.2) b=nodesO T b∧refsO (T.1,v,T.2.2) b=refsO T b:=by
 obtain⟨_,hle,_⟩:=lf_some hv
 obtain⟨m1,m2,m3⟩:=mayR_of hm
 have hmu:mayR (T.1,v,T.2.2)=true:=mayR_mk m1 (LeT.may hle m2) m3
 have hlive:b∈liveN v N:=live_in.2 ⟨hb,by have:=hE.enough b.toNat;omega⟩
 obtain⟨g1,g2⟩:=enf_tree (s:=T) hE ht hlive
 have hon:OnT T (T.1,v,T.2.2) (nodesO T b) (refsO T b):=⟨hmu,fun n hn=>cnt_nz.1 (live_in.1 (g1 n hn)).2,fun _ _=>rfl,fun r hr=>cnt_nz.1 (g2 r hr)⟩
 exact⟨hmu,hlive,on_tree hon ht (fun _ h=>h) (fun _ h=>h)⟩
end Go.Proofs.YtogieepfimpdmaaGreat
/-
 Package room: Same,New. Conditions: those that each lemma states.
-/
namespace Go.Proofs.YtogieepfimpdmaaGreat
open Go.RowKit
def newR:Rm:=(zeroD,zeros 256,zeros 256)
set_option maxRecDepth 100000 in
set_option maxHeartbeats 4000000 in
theorem newR_any (w:World):Calls Tryz.prog 23 #[] w fun e w'=>∃ t,e=.returned t∧Sto (New w.heap.size w') w' t newR∧Below w.heap.size w w':=by
 obtain⟨w1,hw1,f1,hsz,hB⟩:=box_4 w (.slice none 0 0) (.slice none 0 0) (.slice none 0 0) (.slice none 0 0) 29
 have hz:Hid ((zeros 256).length=256):=Lib.hid (zeros_length 256)
 replace hsz:=Lib.hid hsz
 go_enter Tryz.func23,Tryz.ntmps23
 go_upto_region 1 with fail
 clear hw1
 go_wp2_with fail
 with_reducible refine(new_any _).mono ?_
 rintro e w2 ⟨u,rfl,h2,hb2⟩
 obtain⟨P,p,Q,r,rfl,_⟩:=id h2.open
 have H2:=Lib.hid h2
 have F2:=(hb2.block w.heap.size (by rw[hsz.out];omega)).trans f1
 have B2:=Lib.hid (hB.trans (hb2.mono hB.size))
 have s2:Hid (w.heap.size+1≤w1.heap.size∧w1.heap.size≤w2.heap.size):=Lib.hid ⟨by rw[hsz.out];omega,hb2.size⟩
 clear h2 hb2 f1
 go_wp2_with fail
 with_reducible refine(cntNew_by _).mono ?_
 rintro e w3 ⟨g3,rfl,h3,hb3⟩
 have H3:=Lib.hid h3
 have D3:=Lib.hid (H2.out.new (Nat.le_refl _) hb3)
 have F3:=(hb3.block w.heap.size (by have:=s2.out;omega)).trans F2
 have B3:=Lib.hid (B2.out.trans (hb3.mono B2.out.size))
 have s3:Hid (w2.heap.size≤w3.heap.size):=Lib.hid hb3.size
 clear h3 hb3 F2 H2
 go_wp2_with fail
 with_reducible refine(cntNew_by _).mono ?_
 rintro e w4 ⟨g4,rfl,h4,hb4⟩
 have D4:=D3.out.new (Nat.le_refl _) hb4
 have N4:=stab_by.new H3.out (Nat.le_refl _) hb4
 have F4:=(hb4.block w.heap.size (by have:=s2.out;have:=s3.out;omega)).trans F3
 have B4:=B3.out.trans (hb4.mono B3.out.size)
 obtain⟨c0,c1,c2,c3,c4,c5⟩:=four_cells F4
 obtain⟨W9,hW9,g9,gr9,gs9⟩:=put_four (a':=.slice P zeroD.1.length p) (b':=.slice Q zeroD.2.length r) (c':=.slice (some ⟨g3,0,none⟩) 256 256) (d':=.slice (some ⟨g4,0,none⟩) 256 256) F4
 obtain⟨n0,n1,n2,n3,_,_⟩:=four_cells g9
 have q2:=s2.out
 have q3:=s3.out
 have l2:=B2.out.size
 have l3:=B3.out.size
 have hfin:=Lib.hid (show Sto (New w.heap.size W9) W9 (.agg #[.slice P zeroD.1.length p,.slice Q zeroD.2.length r,.slice (some ⟨g3,0,none⟩) 256 256,.slice (some ⟨g4,0,none⟩) 256 256]) newR from
  Sto.mk ((D4.grown gr9 (fun q e=>by cases e;omega)).new (by omega) (Below.refl _ _)) (stab_by.new (stab_by.grown N4 gr9 (fun q e=>by cases e;omega)) (by omega) (Below.refl _ _)) (stab_by.new (stab_by.grown h4 gr9 (fun q e=>by cases e;omega)) (by omega) (Below.refl _ _)))
 have hB9:=Lib.hid (B4.grown gr9 B4.size (fun q e=>by cases e;omega))
 clear D4 N4 gr9 gs9 B4 q2 q3 l2 l3 h4 hb4
 replace F4:=Lib.hid F4
 replace F3:=Lib.hid F3
 replace g9:=Lib.hid g9
 go_wp2_with fail
 refine bodyPost_ret (v:=.agg #[.slice P zeroD.1.length p,.slice Q zeroD.2.length r,.slice (some ⟨g3,0,none⟩) 256 256,.slice (some ⟨g4,0,none⟩) 256 256]) (by simp[results,Tryz.results23,go_sem,n0,n1,n2,n3]) rfl ?_
 exact⟨_,rfl,hfin.out,hB9.out⟩
end Go.Proofs.YtogieepfimpdmaaGreat
/-
 Package count: Write,which ranges over slices.Chunk. Conditions: those that each lemma states.
-/
namespace Go.Proofs.YtogieepfimpdmaaGreat
open Go.RowKit Go.Shelf
attribute [local go_sem] Oper.semAt_some
theorem put_one {W:World} {g:Nat} {a u:Value} {t:TypeId} (h:W.heap[g]? = some (.cells #[a] t (0,0))):∃ W1,W.setCell ⟨g,0,none⟩ u=W1∧W1.heap[g]? = some (.cells #[u] t (0,0))∧W.grownBy W1 (some g)∧W1.heap.size=W.heap.size :=
 ⟨_,rfl,by simp[World.setCell,Array.getElem?_modify,h],grow_put (p:=⟨g,0,none⟩) (grow_refl W (some g)) rfl u,by simp⟩
theorem one_cell {W:World} {g:Nat} {a:Value} {t:TypeId} (h:W.heap[g]? = some (.cells #[a] t (0,0))):W.cell? ⟨g,0,none⟩=some a∧W.frozen? ⟨g,0,none⟩=false∧g<W.heap.size :=
 ⟨by simp[World.cell?,h],by simp[World.frozen?,h],(Array.getElem?_eq_some_iff.1 h).1⟩
theorem block_kept {W W':World} {row:Option Nat} {g:Nat} {cs:Array Value} {t:TypeId} (h:W.heap[g]? = some (.cells cs t (0,0))) (hg:W.grownBy W' row) (hrow:∀ r,row=some r→∃ o:Obj,W.heap[r]? = some o∧o.isCells=false):W'.heap[g]? = some (.cells cs t (0,0)) :=
 (grownBy_keeps_cells hg hrow h rfl).trans h
end Go.Proofs.YtogieepfimpdmaaGreat
/-
 Layer 8: the laws' alive. Conditions: those that each lemma states.
-/
namespace Go.Proofs.YtogieepfimpdmaaGreat
open Go.RowKit
theorem new_free:(freeL newR).length=248∧freeL newR=8::9::(freeL newR).drop 2:=by decide +kernel
theorem may_new:mayR newR=true:=mayR_mk may_zero may_zeros may_zeros
end Go.Proofs.YtogieepfimpdmaaGreat
/-
 The document's leaf,and package find's held. Conditions: those that each lemma states.
-/
namespace Go.Proofs.YtogieepfimpdmaaGreat
open Go.RowKit
theorem leaf_ref {s:Rm} {l:List It} {i:Nat} {x:It} {r:Nat} {y:UInt8} (hx:l[i]? = some x) (hr:x.2.1=(r:Int)) (h0:r≠0) (hy:s.2.1[r]?.getD 0=y):leafO s (l.take (i+1))=(leafO s (l.take i)&&decide (y≠0)):=by
 rw[leaf_take hx,hr]
 have:¬ ((r:Nat):Int)=0:=by omega
 rw[decide_eq_false this,Bool.false_or,show ((r:Nat):Int).toNat=r by omega,hy]
theorem leaf_none {s:Rm} {l:List It} {i:Nat} {x:It} (hx:l[i]? = some x) (hr:x.2.1=0):leafO s (l.take (i+1))=leafO s (l.take i):=by
 rw[leaf_take hx,hr]
 simp
theorem its_first {w:World} {A:Option Addr} {n c:Nat} {xs:List It} {s:It} (h:rIts (Old w) w [.slice A n c] xs) (hk:xs[0]? = some s) :
  ∃ ad E ce,A=some ad∧InI s∧∀ W,Below w.heap.size w W→At5 W ad s (.slice E s.2.2.length ce)∧Itm (Old W) W (itV s (.slice E s.2.2.length ce)) s:=by
 obtain⟨ad,E,ce,e,_,_,h1,F⟩:=its_old h hk
 have e0:ad.add (0*5)=ad:=by simp[Addr.add]
 rw[e0] at F
 exact⟨ad,E,ce,e,h1,F⟩
end Go.Proofs.YtogieepfimpdmaaGreat
/-
 The document's answers of layer 8: Read,Node. Conditions: those that each lemma states.
-/
namespace Go.Proofs.YtogieepfimpdmaaGreat
open Go.RowKit
theorem seen_128 {d:Dk} {k:Nat} (hm:mayB d=true) (hk:k<256):(seenD d k).length=128:=by
 obtain⟨h1,_,h3,h4⟩:=may_of hm
 unfold seenD
 have e:d.1[k]? = some (d.1[k]'(by omega)):=List.getElem?_eq_getElem _
 refine seenW_length (h3 k _ (by rw[e];rfl)) fun x hx => ?_
 obtain⟨i,hi⟩:=List.getElem?_of_mem hx
 exact(h4 i x hi).2.2
end Go.Proofs.YtogieepfimpdmaaGreat
/-
 The document's inner,by its right one level below. Conditions: those that each lemma states.
-/
namespace Go.Proofs.YtogieepfimpdmaaGreat
open Go.RowKit
theorem put_three {W:World} {g:Nat} {a b c a' b' c':Value} {t:TypeId} (h:W.heap[g]? = some (.cells #[a,b,c] t (0,0))):∃ W1,((W.setCell ⟨g,0,none⟩ a').setCell ⟨g,1,none⟩ b').setCell ⟨g,2,none⟩ c'=W1 ∧
  W1.heap[g]? = some (.cells #[a',b',c'] t (0,0))∧W.grownBy W1 (some g)∧W1.heap.size=W.heap.size :=
 ⟨_,rfl,by simp[World.setCell,Array.getElem?_modify,h],grow_put (p:=⟨g,2,none⟩) (grow_put (p:=⟨g,1,none⟩) (grow_put (p:=⟨g,0,none⟩) (grow_refl W (some g)) rfl a') rfl b') rfl c',by simp⟩
theorem three_cells {W:World} {g:Nat} {a b c:Value} {t:TypeId} (h:W.heap[g]? = some (.cells #[a,b,c] t (0,0))):W.cell? ⟨g,0,none⟩=some a∧W.cell? ⟨g,1,none⟩=some b∧W.cell? ⟨g,2,none⟩=some c∧(∀ o,W.frozen? ⟨g,o,none⟩=false)∧g<W.heap.size :=
 ⟨by simp[World.cell?,h],by simp[World.cell?,h],by simp[World.cell?,h],fun o=>by simp[World.frozen?,h],(Array.getElem?_eq_some_iff.1 h).1⟩
end Go.Proofs.YtogieepfimpdmaaGreat
/-
 The document's Tree and Check of layer 10;its Read and package room's Node,opened. Conditions: those that each lemma states.
-/
namespace Go.Proofs.YtogieepfimpdmaaGreat
open Go.RowKit
theorem nodeR_open (v:Value) (s:Rm) (a:Int) (w:World) (h:Sto (Old w) w v s) :
  Calls Tryz.prog 13 #[v,.int .i64 a] w fun e w'=>∃ Z zc,e=.returned (.tuple #[.agg #[.int .i64 (rmV s a).1,.slice Z (rmV s a).2.length zc],.int .i64 (rmE s a)])∧rIts (Old w') w' [.slice Z (rmV s a).2.length zc] (rmV s a).2 ∧
   Nod (New w.heap.size w') w' (.agg #[.int .i64 (rmV s a).1,.slice Z (rmV s a).2.length zc]) (rmV s a)∧Below w.heap.size w w':=by
 refine(nodeR_any v s a w h).mono ?_
 rintro e w' ⟨u,rfl,hu,hb'⟩
 have hu2:=hu
 obtain⟨Z,zc,rfl,_,_,_,hA⟩:=hu.drop.open
 exact⟨Z,zc,rfl,hA,hu2,hb'⟩
theorem tree_no {s:Rm} {a:Int} (h:rmE s a≠0):treeO s a=false:=by simp[treeO,h]
theorem ck_no {s:Rm} {a:Int} (h:asE s a≠0):ckE s a=asE s a∧ckH s a=0:=by
 have e:ckE s a=asE s a:=by rw[ckE,if_neg h]
 exact⟨e,by rw[ckH,e,if_neg h]⟩
theorem ck_bad {s:Rm} {a:Int} (h:asE s a=0) (ht:treeO s a=false):ckE s a=8∧ckH s a=0:=by
 have e:ckE s a=8:=by rw[ckE,if_pos h,ht];rfl
 exact⟨e,by rw[ckH,e,if_neg (by decide)]⟩
theorem ck_ok {s:Rm} {a:Int} (h:asE s a=0) (ht:treeO s a=true):ckE s a=0∧ckH s a=(rmV s a).1+1:=by
 have e:ckE s a=0:=by rw[ckE,if_pos h,ht];rfl
 exact⟨e,by rw[ckH,e,if_pos rfl]⟩
theorem ck_of {s:Rm} {a:Int} (h:ckE s a=0):treeO s a=true∧asE s a=0∧ckH s a=(rmV s a).1+1:=by
 by_cases ha:asE s a=0
 ·cases ht:treeO s a with
  | false=>rw[(ck_bad ha ht).1] at h;cases h
  | true=>exact⟨rfl,ha,(ck_ok ha ht).2⟩
 ·rw[(ck_no ha).1] at h
  exact absurd h ha
end Go.Proofs.YtogieepfimpdmaaGreat
/-
 The document's One: what is found of a key. Conditions: those that each lemma states.
-/
namespace Go.Proofs.YtogieepfimpdmaaGreat
open Go.RowKit
def BoxW (g:Nat) (cs:Array Value) (t:TypeId):World→Prop:=fun w=>w.heap[g]? = some (.cells cs t (0,0))
theorem lasts_boxW (g:Nat) (cs:Array Value) (t:TypeId):Lasts (BoxW g cs t):=fun _ _ h hb=>(hb.block g (Array.getElem?_eq_some_iff.1 h).1).trans h
end Go.Proofs.YtogieepfimpdmaaGreat
/-
 Rows of items appended to one another,and their rests. Conditions: those that each lemma states.
-/
namespace Go.Proofs.YtogieepfimpdmaaGreat
open Go.RowKit
theorem its_rest {ok:Addr→Prop} {w:World} {ad:Addr} {n c:Nat} {b:List It} (h:rIts ok w [.slice (some ad) n c] b) (k:Nat) (hk:k≤b.length):rIts ok w [.slice (some (ad.add (k*5))) (n-k) (c-k)] (b.drop k):=by
 obtain⟨A,cap,e,h2,h3,h4⟩:=h
 cases e
 refine⟨some (ad.add (k*5)),c-k,by rw[List.length_drop],by rw[List.length_drop];omega,by omega,fun i x hi => ?_⟩
 rw[List.getElem?_drop] at hi
 obtain⟨ad',vs,e1,e2,e3,e4⟩:=h4 (k+i) x hi
 cases e1
 refine⟨ad.add (k*5),vs,rfl,e2,fun j v hj => ?_,e4⟩
 have:=e3 j v hj
 rw[add_add',show k*5+(i*5+j)=(k+i)*5+j by omega]
 exact this
end Go.Proofs.YtogieepfimpdmaaGreat
/-
 Package put: stepOf,checkItem,nodes;a step's new items. Conditions: those that each lemma states.
-/
namespace Go.Proofs.YtogieepfimpdmaaGreat
open Go.RowKit
noncomputable def stpN (n:Nd) (k:Ky):Nat×Bool:=if n.1=0 then (placeN n k,thereN n k) else (wayN n k,true)
set_option maxRecDepth 100000 in
set_option maxHeartbeats 4000000 in
theorem stepOf_any (A:Option Addr) (c:Nat) (n:Nd) (k:Ky) (w:World) (h:Nod (Old w) w (.agg #[.int .i64 n.1,.slice A n.2.length c]) n) :
  Calls Tryz.prog 44 #[.agg #[.int .i64 n.1,.slice A n.2.length c],kyV k] w fun e w'=>e=.returned (.agg #[.int .i64 n.1,.slice A n.2.length c,.int .i64 ((stpN n k).1:Nat),.bool (stpN n k).2])∧Below w.heap.size w w':=by
 obtain⟨w1,hw1,b1,hs1,hB1⟩:=box_pair' w (.int .i64 n.1) (.slice A n.2.length c) 45
 obtain⟨w2,hw2,-,-,-,hs2,hB2,b2⟩:=box_three w1 (.int .u8 (k.1.toNat:Int)) (.int .u32 k.2.1) (.int .u32 k.2.2) 37
 obtain⟨w3,hw3,b3,hs3,hB3⟩:=box_4 w2 (.int .i64 0) (.slice none 0 0) (.int .i64 0) (.bool false) 94
 have B3:=Lib.hid (hB1.trans ((hB2.trans (hB3.mono hB2.size)).mono hB1.size))
 have hb1:=(hB3.block w.heap.size (by omega)).trans ((hB2.block w.heap.size (by omega)).trans b1)
 have hb2:=(hB3.block w1.heap.size (by omega)).trans b2
 have hP:=Lib.hid (fun W hW=>nodePlace_any _ n k W (h.below hW))
 obtain⟨p,hp⟩:∃ p,placeN n k=p:=⟨_,rfl⟩
 obtain⟨t,ht⟩:∃ t,thereN n k=t:=⟨_,rfl⟩
 obtain⟨lv,hlv⟩:∃ q,n.1=q:=⟨_,rfl⟩
 obtain⟨len,hlen⟩:∃ q,n.2.length=q:=⟨_,rfl⟩
 have hpl:=placeN_le n k
 have hst:Hid (stpN n k=if lv=0 then (p,t) else (if t=true then p else p-1,true)):=Lib.hid (by unfold stpN wayN;rw[hlv,hp,ht])
 have hcl:c≤9223372036854775807∧n.2.length≤c:=by
  obtain⟨A',c',e,_,h1,h2,_⟩:=h.open
  cases e
  exact⟨h2,h1⟩
 rw[hp] at hpl hP
 rw[ht] at hP
 rw[hlen] at hpl hcl hP b1 hb1 hw1 ⊢
 rw[hlv] at hP b1 hb1 hw1 ⊢
 have G3:=Lib.hid b3
 have S:=Lib.hid (show w.heap.size<w3.heap.size∧w1.heap.size<w3.heap.size∧w2.heap.size<w3.heap.size∧w.heap.size≤w2.heap.size from ⟨by omega,by omega,by omega,by omega⟩)
 replace hp:=Lib.hid hp
 replace ht:=Lib.hid ht
 replace hlv:=Lib.hid hlv
 replace hlen:=Lib.hid hlen
 replace hs1:=Lib.hid hs1
 replace hs2:=Lib.hid hs2
 replace hs3:=Lib.hid hs3
 obtain⟨p0,p1,_,_⟩:=two_cells hb1
 obtain⟨q0,q1,q2,_⟩:=three_cells hb2
 have G1:=Lib.hid hb1
 clear h hB1 hB2 hB3 b1 b2 b3 hb1 hb2
 unfold kyV
 go_enter Tryz.func44,Tryz.ntmps44
 go_upto_region 1 with fail
 clear hw1 hw2 hw3
 go_wp2_with fail
 with_reducible refine(hP.out _ B3.out).mono ?_
 rintro e w4 ⟨rfl,hb4⟩
 have g3:=(hb4.block w2.heap.size S.out.2.2.1).trans G3.out
 have g1:=(hb4.block w.heap.size S.out.1).trans G1.out
 have B4:=Lib.hid (B3.out.trans (hb4.mono B3.out.size))
 have hfin:Hid (∀ (x:Nat) (y:Bool),stpN n k=(x,y)→∃ W9,(((w4.setCell ⟨w2.heap.size,0,none⟩ (.int .i64 lv)).setCell ⟨w2.heap.size,1,none⟩ (.slice A len c)).setCell ⟨w2.heap.size,2,none⟩ (.int .i64 (x:Int))).setCell ⟨w2.heap.size,3,none⟩ (.bool y)=W9 ∧
   W9.cell? ⟨w2.heap.size,0,none⟩=some (.int .i64 lv)∧W9.cell? ⟨w2.heap.size,1,none⟩=some (.slice A len c)∧W9.cell? ⟨w2.heap.size,2,none⟩=some (.int .i64 (x:Int))∧W9.cell? ⟨w2.heap.size,3,none⟩=some (.bool y) ∧
   (Ending.returned (.agg #[.int .i64 lv,.slice A len c,.int .i64 (x:Int),.bool y])=.returned (.agg #[.int .i64 lv,.slice A len c,.int .i64 ((stpN n k).1:Nat),.bool (stpN n k).2])∧Below w.heap.size w W9)):=Lib.hid fun x y he=>by
  obtain⟨W9,e9,g9,gr9,_⟩:=put_four (a':=.int .i64 lv) (b':=.slice A len c) (c':=.int .i64 (x:Int)) (d':=.bool y) g3
  obtain⟨k0,k1,k2,k3,_⟩:=four_cells g9
  exact⟨W9,e9,k0,k1,k2,k3,by rw[he],B4.out.grown gr9 B4.out.size fun q e=>by cases e;exact S.out.2.2.2⟩
 obtain⟨m0,m1,_,_⟩:=two_cells g1
 obtain⟨r0,r1,r2,r3,rf,_⟩:=four_cells g3
 clear p0 p1 q0 q1 q2 hb4 g3 g1
 have hcl1:=hcl.1
 have hcl2:=hcl.2
 clear hcl
 by_cases h0:lv=0
 ·subst h0
  obtain⟨W9,e9,k0,k1,k2,k3,hf⟩:=hfin.out p t (by rw[hst.out,if_pos rfl])
  replace hf:=Lib.hid hf
  replace e9:=Lib.hid e9
  clear hfin hst
  go_wp2_with fail
  rw[e9.out]
  exact bodyPost_ret (v:=.agg #[.int .i64 0,.slice A len c,.int .i64 (p:Int),.bool t]) (by simp[results,Tryz.results44,go_sem,k0,k1,k2,k3]) rfl hf.out
 ·have h0':(lv==0)=false:=by simpa using h0
  cases t with
  | true =>
   obtain⟨W9,e9,k0,k1,k2,k3,hf⟩:=hfin.out p true (by rw[hst.out,if_neg h0,if_pos rfl])
   replace hf:=Lib.hid hf
   replace e9:=Lib.hid e9
   clear hfin hst h0
   go_wp2_with fail
   rw[e9.out]
   exact bodyPost_ret (v:=.agg #[.int .i64 lv,.slice A len c,.int .i64 (p:Int),.bool true]) (by simp[results,Tryz.results44,go_sem,k0,k1,k2,k3]) rfl hf.out
  | false =>
   have hwr:IntKind.i64.wrap ((p:Int)-1)=(p:Int)-1:=by rw[IntKind.wrap_i64];omega
   by_cases hp0:p=0
   ·obtain⟨W9,e9,k0,k1,k2,k3,hf⟩:=hfin.out 0 true (by rw[hst.out,if_neg h0,if_neg (by decide),hp0])
    subst hp0
    replace hf:=Lib.hid hf
    replace e9:=Lib.hid e9
    clear hfin hst h0
    go_wp2_with fail
    refine Eq.mpr (congrArg _ e9.out) ?_
    exact bodyPost_ret (v:=.agg #[.int .i64 lv,.slice A len c,.int .i64 (0:Nat),.bool true]) (by simp[results,Tryz.results44,go_sem,k0,k1,k2,k3]) rfl hf.out
   ·obtain⟨W9,e9,k0,k1,k2,k3,hf⟩:=hfin.out (p-1) true (by rw[hst.out,if_neg h0,if_neg (by decide)])
    have hp1:((p-1:Nat):Int)=(p:Int)-1:=by omega
    have hp2:(0:Int)≤(p:Int)-1:=by omega
    rw[hp1] at e9 k2 hf
    replace hf:=Lib.hid hf
    replace e9:=Lib.hid e9
    clear hfin hst h0 hp1
    go_wp2_with fail
    refine Eq.mpr (congrArg _ e9.out) ?_
    exact bodyPost_ret (v:=.agg #[.int .i64 lv,.slice A len c,.int .i64 ((p:Int)-1),.bool true]) (by simp[results,Tryz.results44,go_sem,k0,k1,k2,k3]) rfl hf.out
def citE (s:Rm) (x:It):Int:=if mayI x then if x.2.1≠0∧s.2.1[x.2.1.toNat]?.getD 0=0 then 6 else 0 else 8
set_option maxRecDepth 100000 in
set_option maxHeartbeats 4000000 in
theorem checkItem_any (v u:Value) (s:Rm) (x:It) (w:World) (hm:mayR s=true) (h:Sto (Old w) w v s) (hu:Itm (Old w) w u x) :
  Calls Tryz.prog 24 #[v,u] w fun e w'=>e=.returned (.int .i64 (citE s x))∧Below w.heap.size w w':=by
 obtain⟨A,ca,B,cb,N,cn,L,cl,rfl,_⟩:=id h.open
 obtain⟨D,dc,rfl,_,_,_,_⟩:=id hu.open
 obtain⟨w1,hw1,b1,hs1,hB1⟩:=box_4 w (.slice A s.1.1.length ca) (.slice B s.1.2.length cb) (.slice N s.2.1.length cn) (.slice L s.2.2.length cl) 29
 obtain⟨w2,hw2,-,-,-,-,-,hs2,hB2,b2⟩:=box_five w1 (.int .u8 (x.1.1.toNat:Int)) (.int .u32 x.1.2.1) (.int .u32 x.1.2.2) (.int .i64 x.2.1) (.slice D x.2.2.length dc) 40
 have hb1:=(hB2.block w.heap.size (by omega)).trans b1
 have B2:=Lib.hid (hB1.trans (hB2.mono hB1.size))
 have hC:=Lib.hid (checkI_any _ x w2 (hu.map fun p v hp hc=>⟨Nat.lt_of_lt_of_le hp B2.out.size,(B2.out.cell hp).trans hc⟩))
 have HS:=Lib.hid (h.below B2.out)
 have hl:=mayT_len (mayR_of hm).2.1
 have hcit:Hid (citE s x=if mayI x then if x.2.1≠0∧s.2.1[x.2.1.toNat]?.getD 0=0 then 6 else 0 else 8):=Lib.hid rfl
 have hmw:mayI x=true→x.2.1=0∨∃ k:Nat,x.2.1=k∧8≤k∧k<256:=fun h=>by
  rcases(mayI_of h).1 with e | e
  ·exact .inl e
  ·exact .inr ⟨x.2.1.toNat,by omega,by omega,by omega⟩
 obtain⟨z,hz⟩:∃ z,x.2.1=z:=⟨_,rfl⟩
 obtain⟨ev,hev⟩:∃ q,chkI x=q:=⟨_,rfl⟩
 rw[hl] at b1 hb1 hw1 HS ⊢
 rw[hz] at hw2 b2 hcit hmw
 unfold itV at hC
 rw[hz] at hC
 rw[hev] at hC
 change Calls _ _ #[_,.agg #[.int .u8 (x.1.1.toNat:Int),.int .u32 x.1.2.1,.int .u32 x.1.2.2,.int .i64 x.2.1,.slice D x.2.2.length dc]] _ _
 rw[hz]
 replace hz:=Lib.hid hz
 replace hl:=Lib.hid hl
 replace hs1:=Lib.hid hs1
 replace hs2:=Lib.hid hs2
 obtain⟨p0,p1,p2,p3,_⟩:=four_cells hb1
 obtain⟨q0,q1,q2,q3,q4,_⟩:=five_cells b2
 have G1:=Lib.hid hb1
 have G2:=Lib.hid b2
 have S:=Lib.hid (show w.heap.size<w2.heap.size∧w1.heap.size<w2.heap.size from ⟨by have:=hs1.out;have:=hs2.out;omega,by have:=hs2.out;omega⟩)
 clear h hu hB1 hB2 b1 b2 hb1
 go_enter Tryz.func24,Tryz.ntmps24
 go_upto_region 1 with fail
 clear hw1 hw2
 go_wp2_with fail
 with_reducible refine(hC.out).mono ?_
 rintro e w3 ⟨rfl,hb3⟩
 have g1:=(hb3.block w.heap.size S.out.1).trans G1.out
 have g2:=(hb3.block w1.heap.size S.out.2).trans G2.out
 have B3:=Lib.hid (B2.out.trans (hb3.mono B2.out.size))
 have H3:=Lib.hid (HS.out.below hb3)
 obtain⟨p0,p1,p2,p3,_⟩:=four_cells g1
 obtain⟨q0,q1,q2,q3,q4,_⟩:=five_cells g2
 clear hb3 g1 g2 hC
 rcases bool_two (mayI x) with hb | hb
 ·have he8:ev=8:=by rw[← hev];simp[chkI,hb]
  subst he8
  have hr:=Lib.hid (show citE s x=8 by rw[hcit.out,hb];rfl)
  replace hev:=Lib.hid hev
  replace hb:=Lib.hid hb
  clear hmw
  go_wp2_with fail
  go_ret
  exact⟨ret_int hr.out.symm,B3.out⟩
 have he0:ev=0:=by rw[← hev];simp[chkI,hb]
 subst he0
 have hw:=hmw hb
 rw[hb,if_pos rfl] at hcit
 replace hev:=Lib.hid hev
 replace hb:=Lib.hid hb
 clear hmw
 rcases hw with h0 | ⟨k,hk,h8,h256⟩
 ·subst h0
  have hr:=Lib.hid (show citE s x=0 by rw[hcit.out,if_neg (by simp)])
  clear hcit
  go_wp2_with fail
  go_ret
  exact⟨ret_int hr.out.symm,B3.out⟩
 ·subst hk
  have j0:((k:Int) != 0)=true:=by simp;omega
  have i1:(0:Int)≤(k:Int):=by omega
  have i2:(k:Int)<256:=by omega
  obtain⟨A2,c2,e2,n1,n2,hc2⟩:=rBy_open H3.out.parts.2.1
  rw[hl.out] at e2 hc2
  cases e2
  obtain⟨ad,rfl,_,hck⟩:=hc2 k h256
  obtain⟨y,hy⟩:∃ y,s.2.1[k]?.getD 0=y:=⟨_,rfl⟩
  rw[hy] at hck
  rw[Int.toNat_natCast,hy] at hcit
  replace hy:=Lib.hid hy
  clear hc2 n1 n2
  by_cases hy0:y=0
  ·have t1:=byte_same (y:=0) (q:=0) rfl hy0
   have hr:=Lib.hid (show citE s x=6 by rw[hcit.out,if_pos ⟨by omega,hy0⟩])
   replace hy0:=Lib.hid hy0
   clear hcit
   go_wp2_with fail
   go_ret
   exact⟨ret_int hr.out.symm,B3.out⟩
  ·have t1:=byte_unlike (y:=0) (q:=0) rfl hy0
   have hr:=Lib.hid (show citE s x=0 by rw[hcit.out,if_neg (fun h=>hy0 h.2)])
   replace hy0:=Lib.hid hy0
   clear hcit
   go_wp2_with fail
   go_ret
   exact⟨ret_int hr.out.symm,B3.out⟩
def NodesV (w:World) (A:Option Addr) (n c:Nat) (e:Ending) (w':World):Prop:=Below w.heap.size w w' ∧
 ((n≤5∧e=.returned (.slice (some ⟨w.heap.size,0,none⟩) 1 1)∧w'.heap[w.heap.size]? = some (.cells #[.slice A n c] 43 (0,0))) ∨
  (5<n∧∃ ad,A=some ad∧e=.returned (.slice (some ⟨w.heap.size,0,none⟩) 2 2)∧w'.heap[w.heap.size]? = some (.cells #[.slice (some ad) 3 c,.slice (some (ad.add (3*5))) (n-3) (c-3)] 43 (0,0))))
set_option maxRecDepth 100000 in
set_option maxHeartbeats 4000000 in
theorem nodes_any (A:Option Addr) (n c:Nat) (w:World) (hn:n≤c) (hc:c≤9223372036854775807) (hA:0<n→∃ ad,A=some ad):Calls Tryz.prog 68 #[.slice A n c] w (NodesV w A n c):=by
 by_cases h5:n≤5
 ·have i5:(n:Int)≤5:=by omega
  go_enter Tryz.func68,Tryz.ntmps68
  go_wp2_with fail
  go_ret
  exact⟨(Below.refl _ w).alloc (Nat.le_refl _) _,.inl ⟨h5,rfl,heap_alloc_new w _⟩⟩
 ·have i5:¬ ((n:Int)≤5):=by omega
  obtain⟨ad,rfl⟩:=hA (by omega)
  have i6:(3:Int)≤(c:Int):=by omega
  have i7:(3:Int)≤(n:Int):=by omega
  have i8:¬ c=3:=by omega
  go_enter Tryz.func68,Tryz.ntmps68
  go_wp2_with fail
  go_still_tail 4,(by kernel_rfl)
  go_wp2_with fail
  go_ret
  exact⟨((Below.refl _ w).drew).alloc (Nat.le_refl _) _,.inr ⟨by omega,ad,rfl,rfl,heap_alloc_new w.drew _⟩⟩
end Go.Proofs.YtogieepfimpdmaaGreat
/-
 Package put: a step's new items;rows of items as cells,and read again. Conditions: those that each lemma states.
-/
namespace Go.Proofs.YtogieepfimpdmaaGreat
open Go.RowKit
theorem InsP.low {lo:Nat} {w w1:World} {A:Option Addr} {L:List Iv} {e:Ending} {w':World} (h:InsP lo w1 A L e w') (hg:w.grownBy w1 (A.map (·.block))):InsP lo w A L e w':=by
 obtain⟨A',c',h1,h2,h3⟩:=h
 exact⟨A',c',h1,h2,grow_trans hg h3⟩
set_option maxRecDepth 100000 in
set_option maxHeartbeats 4000000 in
theorem stepItems_any (A:Option Addr) (lo lf n c fb m fc i:Nat) (lv:Int) (b:Bool) (ps qs:List Iv) (w:World) (h:w.ownsRow lo 40 5 (.slice A n c) n (cells5 ps)) (hf:w.ownsRow lf 40 5 (.slice (some ⟨fb,0,none⟩) m fc) m (cells5 qs))
  (hne:A.map (·.block)≠some fb) (hi:i+(if b=true then 1 else 0)≤n) (hm:0<m) (hbig:n+m≤1000) (hp1:∀ p∈ps,p.2.oneCell'=true) (hq1:∀ p∈qs,p.2.oneCell'=true) (hlo:lo≤w.heap.size) :
  Calls Tryz.prog 47 #[.agg #[.int .i64 lv,.slice A n c,.int .i64 i,.bool b],.slice (some ⟨fb,0,none⟩) m fc] w fun e w'=>InsP lo w A (ps.take i++(qs++ps.drop (i+if b=true then 1 else 0))) e w'∧w.heap.size<w'.heap.size:=by
 obtain⟨w1,hw1,b1,hs1,hB1⟩:=box_4 w (.int .i64 lv) (.slice A n c) (.int .i64 i) (.bool b) 94
 have h1:=own_below h hB1
 have hf1:=own_below hf hB1
 have hlow:=Lib.hid (fun L e w' (hh:InsP lo w1 A L e w')=>(⟨hh.low (w:=w) (hw1 ▸ World.grownBy_alloc w _ _),by obtain⟨_,_,_,_,hg⟩:=hh;have:=hg.size;omega⟩:InsP lo w A L e w'∧w.heap.size<w'.heap.size))
 obtain⟨p0,p1,p2,p3,_⟩:=four_cells b1
 have hwr:IntKind.i64.wrap ((i:Int)+1)=(i:Int)+1:=by rw[IntKind.wrap_i64];split at hi <;> omega
 cases b with
 | true =>
  have hR:=replace_any A lo lf n c fb m fc i (i+1) ps qs w1 h1 hf1 hne rfl hi hm hbig hp1 hq1 (by omega)
  rw[show ((i+1:Nat):Int)=(i:Int)+1 by omega] at hR
  rw[if_pos rfl]
  obtain⟨L,hL⟩:∃ L,ps.take i++(qs++ps.drop (i+1))=L:=⟨_,rfl⟩
  rw[hL] at hR ⊢
  replace hL:=Lib.hid hL
  have HR:=Lib.hid hR
  clear h hf h1 hf1 hR hp1 hq1 hne hB1 b1 hs1 hi
  go_enter Tryz.func47,Tryz.ntmps47
  go_upto_region 1 with fail
  clear hw1
  go_wp2_with fail
  with_reducible refine(HR.out).mono ?_
  intro e w2 hh
  have H2:=Lib.hid (hlow.out _ _ _ hh)
  obtain⟨A',c',rfl,_⟩:=hh
  go_wp2_with fail
  go_ret
  exact H2.out
 | false =>
  have hR:=insert_any A lo lf n c fb m fc i ps qs w1 h1 hf1 hne (by simpa using hi) hm hbig hp1 hq1 (by omega)
  rw[if_neg (by decide),Nat.add_zero]
  obtain⟨L,hL⟩:∃ L,ps.take i++(qs++ps.drop i)=L:=⟨_,rfl⟩
  rw[hL] at hR ⊢
  replace hL:=Lib.hid hL
  have HR:=Lib.hid hR
  clear h hf h1 hf1 hR hp1 hq1 hne hB1 b1 hs1 hi
  go_enter Tryz.func47,Tryz.ntmps47
  go_upto_region 1 with fail
  clear hw1
  go_wp2_with fail
  with_reducible refine(HR.out).mono ?_
  intro e w2 hh
  have H2:=Lib.hid (hlow.out _ _ _ hh)
  obtain⟨A',c',rfl,_⟩:=hh
  go_wp2_with fail
  go_ret
  exact H2.out
theorem rowOf_cells {lo:Nat} {w:World} {A:Option Addr} {c:Nat} {xs:List It} (h:RowOf rIt 5 40 lo w A c xs):∃ ps:List Iv,ps.map (·.1)=xs∧w.ownsRow lo 40 5 (.slice A xs.length c) xs.length (cells5 ps)∧∀ p∈ps,InI p.1∧rBy (NewBut lo A w) w [p.2] p.1.2.2:=by
 obtain⟨cs,ho,hcs⟩:=h
 obtain⟨ps,hl,hps⟩:=list_of (n:=xs.length) (p:=fun i (p:Iv)=>xs[i]? = some p.1∧(∀ j u,(cell5 p)[j]? = some u→cs[i*5+j]? = some u)∧InI p.1∧rBy (NewBut lo A w) w [p.2] p.1.2.2) (fun i hi=>by
  have hx:xs[i]? = some xs[i]:=List.getElem?_eq_getElem hi
  obtain⟨vs,e5,hc,r⟩:=hcs i _ hx
  obtain⟨d,rfl,hin,hd⟩:=rIt_open r
  exact⟨(xs[i],d),hx,hc,hin,hd⟩)
 have hmap:ps.map (·.1)=xs:=by
  apply List.ext_getElem?
  intro i
  rw[List.getElem?_map]
  cases e:ps[i]? with
  | none =>
   have:xs.length≤i:=by rw[← hl];exact List.getElem?_eq_none_iff.1 e
   rw[List.getElem?_eq_none this]
   rfl
  | some p=>exact(hps i p e).1.symm
 have hcell:cs=cells5 ps:=by
  apply List.ext_getElem?
  intro j
  rcases Nat.lt_or_ge j (xs.length*5) with hj | hj
  ·obtain⟨p,hp⟩:∃ p,ps[j / 5]? = some p:=⟨_,List.getElem?_eq_getElem (by omega)⟩
   obtain⟨u,hu⟩:∃ u,(cell5 p)[j % 5]? = some u:=⟨_,List.getElem?_eq_getElem (by show j % 5<5;omega)⟩
   have h1:=cells5_at hp _ _ hu
   have h2:=(hps _ p hp).2.1 _ _ hu
   rw[show j / 5*5+j % 5=j by omega] at h1 h2
   rw[h1,h2]
  ·rw[List.getElem?_eq_none (by rw[ho.1];exact hj),List.getElem?_eq_none (by rw[cells5_length,hl];exact hj)]
 exact⟨ps,hmap,hcell ▸ ho,fun p hp=>by
  obtain⟨i,hi⟩:=List.mem_iff_getElem?.1 hp
  exact(hps i p hi).2.2⟩
theorem its_of5 {lo n c:Nat} {w:World} {A:Option Addr} {ps:List Iv} (h:w.ownsRow lo 40 5 (.slice A n c) n (cells5 ps)) (hp:∀ p∈ps,InI p.1∧rBy (Old w) w [p.2] p.1.2.2):rIts (Old w) w [.slice A n c] (ps.map (·.1)):=by
 have hl:=iv_len5 h
 refine own_sl_ok (fun p _ hn=>hn.2.1) h (by rw[List.length_map];exact hl) fun i x hi => ?_
 rw[List.getElem?_map] at hi
 obtain⟨p,hp',rfl⟩:=Option.map_eq_some_iff.1 hi
 obtain⟨h1,h2⟩:=hp p (List.mem_of_getElem? hp')
 exact⟨cell5 p,rfl,fun j u hj=>cells5_at hp' j u hj,rIt_mk h1 h2⟩
theorem ivs_one {ok:Addr→Prop} {w:World} {ps:List Iv} (h:∀ p∈ps,InI p.1∧rBy ok w [p.2] p.1.2.2):∀ p∈ps,p.2.oneCell'=true:=fun p hp=>iv_one (h p hp).2
end Go.Proofs.YtogieepfimpdmaaGreat
/-
 What is left,as a stack that is gone through;plain. Conditions: those that each lemma states.
-/
namespace Go.Proofs.YtogieepfimpdmaaGreat
open Go.RowKit
abbrev Rf:=Int×Int
def Rfd (x:Rf):Prop:=8≤x.1∧x.1<256 ∧ -1≤x.2∧x.2≤6
noncomputable def wkF (d:Dk) (lv:Int) (t:List UInt8) (a:Nat):Option (List UInt8):=if lv=6 then lfO d t a else lvF d (lv+1).toNat t a
noncomputable def runT (d:Dk):List UInt8→List Rf→Option (List UInt8)
 | t,[]=>some t
 | t,x::l=>(wkF d x.2 t x.1.toNat).bind fun u=>runT d u l
theorem runT_app (d:Dk):∀ (a b:List Rf) (t:List UInt8),runT d t (a++b)=(runT d t a).bind fun u=>runT d u b
 | [],b,t=>rfl
 | x::a,b,t=>by
  simp only[List.cons_append,runT]
  cases wkF d x.2 t x.1.toNat with
  | none=>rfl
  | some u=>exact runT_app d a b u
def rfsL (lv:Int) (l:List It):List Rf:=(l.filter fun x=>decide (x.2.1≠0)).map fun x=>(x.2.1,lv)
def rfsT (n:Nd):List Rf:=rfsL (n.1-1) n.2
theorem rfsL_nil (lv:Int):rfsL lv []=[]:=rfl
theorem rfsL_zero {lv:Int} {x:It} {l:List It} (h:x.2.1=0):rfsL lv (x::l)=rfsL lv l:=by simp[rfsL,h]
theorem rfsL_more {lv:Int} {x:It} {l:List It} (h:x.2.1≠0):rfsL lv (x::l)=(x.2.1,lv)::rfsL lv l:=by simp[rfsL,h]
theorem rfsL_app (lv:Int) (a b:List It):rfsL lv (a++b)=rfsL lv a++rfsL lv b:=by simp[rfsL]
theorem rfsL_len (lv:Int) (l:List It):(rfsL lv l).length≤l.length:=by
 rw[rfsL,List.length_map]
 exact List.length_filter_le _ _
theorem rfsL_ok {lv:Int} (h1 : -1≤lv) (h6:lv≤6):∀ {l:List It},refsOk l→∀ x∈rfsL lv l,Rfd x
 | [],_,x,hx=>by simp[rfsL] at hx
 | y::l,h,x,hx=>by
  obtain⟨r1,r2⟩:=refs_cons h
  rcases r1 with r1 | ⟨k,r1,r8,r256⟩
  ·rw[rfsL_zero r1] at hx
   exact rfsL_ok h1 h6 r2 x hx
  ·rw[rfsL_more (by omega)] at hx
   rcases List.mem_cons.1 hx with rfl | hx
   ·exact⟨by show 8≤y.2.1;omega,by show y.2.1<256;omega,h1,h6⟩
   ·exact rfsL_ok h1 h6 r2 x hx
theorem each_run (d:Dk) {k:Nat} (hk:k≤6):∀ (l:List It) (t:List UInt8),eachO (lvF d k) t l=runT d t (rfsL ((k:Int)-1) l)
 | [],t=>rfl
 | x::l,t=>by
  unfold eachO
  by_cases h:x.2.1=0
  ·rw[if_pos h,rfsL_zero h]
   exact each_run d hk l t
  ·rw[if_neg h,rfsL_more h]
   have e:wkF d ((k:Int)-1) t x.2.1.toNat=lvF d k t x.2.1.toNat:=by
    rw[wkF,if_neg (by omega),show ((k:Int)-1+1).toNat=k by omega]
   show (lvF d k t x.2.1.toNat).bind _=(wkF d ((k:Int)-1) t x.2.1.toNat).bind _
   rw[e]
   cases lvF d k t x.2.1.toNat with
   | none=>rfl
   | some u=>exact each_run d hk l u
theorem wk_none {d:Dk} {lv:Int} {t:List UInt8} {a:Nat} (h:t[a]?.getD 0=0):wkF d lv t a=none:=by
 have hd:dnO t a=none:=by rw[dnO,if_pos h]
 unfold wkF
 split
 ·rw[lfO,hd];rfl
 ·cases (lv+1).toNat with
  | zero=>exact hd
  | succ l =>
   show lvS d l (lvF d l) t a=none
   rw[lvS,hd];rfl
theorem one_less {x:UInt8} (h:x≠0):x-1≠0↔1<x.toNat:=by
 have h1:=dn_nat h
 refine⟨fun e => ?_,fun e e0 => ?_⟩
 ·have:(x-1).toNat≠0:=fun e'=>e (nat_zero.1 e')
  omega
 ·have:=nat_zero.2 e0
  omega
def Rdn (d:Dk) (lv:Int) (a:Nat):Prop:=reN (seenD d a)=0∧(lv=6∨(reV (seenD d a)).1=lv)
theorem wk_ways {d:Dk} {lv:Int} {t:List UInt8} {a:Nat} (h1 : -1≤lv) (h6:lv≤6) (h:t[a]?.getD 0≠0) :
  ((t[a]?.getD 0-1≠0∨lv = -1)∧wkF d lv t a=some (t.set a (t[a]?.getD 0-1))) ∨
  (t[a]?.getD 0-1=0∧lv ≠ -1∧¬ Rdn d lv a∧wkF d lv t a=none) ∨
  (t[a]?.getD 0-1=0∧lv ≠ -1∧Rdn d lv a∧wkF d lv t a=runT d (t.set a (t[a]?.getD 0-1)) (rfsT (reV (seenD d a)))):=by
 have hd:=dnO_yes h
 have hlow:reN (seenD d a)=0→0≤(reV (seenD d a)).1∧(reV (seenD d a)).1<6:=fun hr=>by
  obtain⟨⟨s1,s2,_⟩,_⟩:=mayN_of (blkN_read hr).1
  exact⟨s1,s2⟩
 by_cases hc:t[a]?.getD 0-1=0
 case neg =>
  refine .inl ⟨.inl hc,?_⟩
  have hm:=(one_less h).1 hc
  unfold wkF
  split
  ·rw[lfO,hd]
   show (if 1<(t[a]?.getD 0).toNat then _ else _)=_
   rw[if_pos hm]
  ·exact lvF_many d _ t a hm
 have hm:¬ 1<(t[a]?.getD 0).toNat:=fun e=>(one_less h).2 e hc
 by_cases hl:lv = -1
 ·refine .inl ⟨.inr hl,?_⟩
  subst hl
  exact hd
 right
 by_cases h0:lv=6
 ·subst h0
  have e:wkF d 6 t a=if reN (seenD d a)=0 then eachO (lvF d (reV (seenD d a)).1.toNat) (t.set a (t[a]?.getD 0-1)) (reV (seenD d a)).2 else none:=by
   rw[wkF,if_pos rfl,lfO,hd]
   show (if 1<(t[a]?.getD 0).toNat then _ else _)=_
   rw[if_neg hm]
  by_cases hr:reN (seenD d a)=0
  ·refine .inr ⟨hc,by decide,⟨hr,.inl rfl⟩,?_⟩
   have hq:=hlow hr
   rw[e,if_pos hr,each_run d (by omega),rfsT,show (((reV (seenD d a)).1.toNat:Nat):Int)=(reV (seenD d a)).1 by omega]
  ·exact .inl ⟨hc,by decide,fun h=>hr h.1,by rw[e,if_neg hr]⟩
 ·obtain⟨l,rfl⟩:∃ l:Nat,lv=l:=⟨lv.toNat,by omega⟩
  have e:wkF d l t a=if reN (seenD d a)=0∧(reV (seenD d a)).1=(l:Int) then eachO (lvF d l) (t.set a (t[a]?.getD 0-1)) (reV (seenD d a)).2 else none:=by
   rw[wkF,if_neg h0,show ((l:Int)+1).toNat=l+1 by omega]
   show lvS d l (lvF d l) t a=_
   rw[lvS,hd]
   show (if 1<(t[a]?.getD 0).toNat then _ else _)=_
   rw[if_neg hm]
  by_cases hr:reN (seenD d a)=0∧(reV (seenD d a)).1=(l:Int)
  ·refine .inr ⟨hc,hl,⟨hr.1,.inr hr.2⟩,?_⟩
   rw[e,if_pos hr,each_run d (by omega),rfsT,hr.2]
  ·exact .inl ⟨hc,hl,fun h=>hr ⟨h.1,h.2.resolve_left h0⟩,by rw[e,if_neg hr]⟩
def allT (t:List UInt8):Nat:=(t.map (·.toNat)).sum
theorem allT_le:∀ t:List UInt8,allT t≤255*t.length
 | []=>by simp[allT]
 | x::t=>by
  have h1:=allT_le t
  have h2:=x.toNat_lt
  simp only[allT,List.map_cons,List.sum_cons,List.length_cons] at h1 ⊢
  omega
theorem allT_dn:∀ {t:List UInt8} {a:Nat},t[a]?.getD 0≠0→allT (t.set a (t[a]?.getD 0-1))+1=allT t
 | [],a,h=>absurd (by simp) h
 | x::t,0,h=>by
  have h':x≠0:=by simpa using h
  have:=dn_nat h'
  simp only[List.set_cons_zero,allT,List.map_cons,List.sum_cons,List.getElem?_cons_zero,Option.getD_some]
  omega
 | x::t,a+1,h=>by
  have h':t[a]?.getD 0≠0:=by simpa using h
  have:=allT_dn h'
  simp only[List.set_cons_succ,allT,List.map_cons,List.sum_cons,List.getElem?_cons_succ] at this ⊢
  omega
end Go.Proofs.YtogieepfimpdmaaGreat
/-
 Layer 8: package room's Twin,and the document's. Conditions: those that each lemma states.
-/
namespace Go.Proofs.YtogieepfimpdmaaGreat
open Go.RowKit
def SmallR (s:Rm):Prop:=Small s.1∧s.2.1.length≤10000∧s.2.2.length≤10000
theorem smallR_may {s:Rm} (h:mayR s=true):SmallR s:=by
 obtain⟨h1,h2,h3⟩:=mayR_of h
 exact⟨small_of_may h1,by rw[mayT_len h2];omega,by rw[mayT_len h3];omega⟩
theorem sto_fin {lo:Nat} {w1 W W9:World} {P Q N L:Value} {s:Rm} {g:Nat} (hd:Dsk (New w1.heap.size W) W (.agg #[P,Q]) s.1) (hn:rBy (New w1.heap.size W) W [N] s.2.1) (hl:rBy (New w1.heap.size W) W [L] s.2.2) (hg:g<w1.heap.size) (hlo:lo≤w1.heap.size) (gr:W.grownBy W9 (some g)):Sto (New lo W9) W9 (.agg #[P,Q,N,L]) s :=
 Sto.mk ((hd.grown gr (fun q e=>by cases e;exact hg)).new hlo (Below.refl _ _)) (stab_by.new (stab_by.grown hn gr (fun q e=>by cases e;exact hg)) hlo (Below.refl _ _)) (stab_by.new (stab_by.grown hl gr (fun q e=>by cases e;exact hg)) hlo (Below.refl _ _))
set_option maxRecDepth 100000 in
set_option maxHeartbeats 4000000 in
theorem twinR_any (v:Value) (s:Rm) (hsm:SmallR s) (w:World) (h:Sto (Old w) w v s) :
  Calls Tryz.prog 74 #[v] w fun e w'=>∃ A ca B cb N cn L cl,e=.returned (.agg #[.slice A s.1.1.length ca,.slice B s.1.2.length cb,.slice N s.2.1.length cn,.slice L s.2.2.length cl])∧Sto (New w.heap.size w') w' (.agg #[.slice A s.1.1.length ca,.slice B s.1.2.length cb,.slice N s.2.1.length cn,.slice L s.2.2.length cl]) s∧Below w.heap.size w w':=by
 obtain⟨A,ca,B,cb,N,cn,L,cl,w1,rfl,hw1,f1,f2,hsz,hB,H⟩:=box_sto2 h
 clear h
 obtain⟨m0,m1,m2,m3,_,mg⟩:=four_cells f1
 replace hsz:=Lib.hid hsz
 replace f1:=Lib.hid f1
 replace f2:=Lib.hid f2
 replace hsm:=Lib.hid hsm
 go_enter Tryz.func74,Tryz.ntmps74
 go_upto_region 1 with fail
 clear hw1
 refine wp_region_tails (by kernel_rfl) 10 (fun W=>Below w1.heap.size w1 W) (fun i=>match i with
   | 2=>some (fun v W=>Dsk (New w1.heap.size W) W v s.1)
   | 5=>some (fun v W=>rBy (New w1.heap.size W) W [v] s.2.1)
   | 8=>some (fun v W=>rBy (New w1.heap.size W) W [v] s.2.2)
   | 9=>some (fun v W=>∃ P p Q r Y y X x,v=.agg #[.slice P s.1.1.length p,.slice Q s.1.2.length r,.slice Y s.2.1.length y,.slice X s.2.2.length x]∧Dsk (New w1.heap.size W) W (.agg #[.slice P s.1.1.length p,.slice Q s.1.2.length r]) s.1∧rBy (New w1.heap.size W) W [.slice Y s.2.1.length y] s.2.1∧rBy (New w1.heap.size W) W [.slice X s.2.2.length x] s.2.2)
   | _=>none) (fun _=>none) (by decide) (by kernel_rfl) (by kernel_rfl) (Below.refl _ _).drew (fun w w' h hb=>h.trans (hb.mono h.size)) ?tst ?_
 case tst =>
  intro j φ x W W' hp hx hb
  match j,hp with
  | 2,hp=>cases hp;exact hx.new (Nat.le_refl _) hb
  | 5,hp=>cases hp;exact stab_by.new hx (Nat.le_refl _) hb
  | 8,hp=>cases hp;exact stab_by.new hx (Nat.le_refl _) hb
  | 9,hp =>
   cases hp
   obtain⟨P,p,Q,r,Y,y,X,x,e1,e2,e3,e4⟩:=hx
   exact⟨P,p,Q,r,Y,y,X,x,e1,e2.new (Nat.le_refl _) hb,stab_by.new e3 (Nat.le_refl _) hb,stab_by.new e4 (Nat.le_refl _) hb⟩
 simp only[List.take_succ_cons,List.take_zero,List.drop_succ_cons,List.drop_zero]
 repeat (first
  | (refine wpAs_skip rfl ?_;simp only[Act.put,List.setIfInBounds_toArray,List.set_cons_zero,List.set_cons_succ])
  | (refine wpAs_pure (v := ?_) rfl rfl ?_ ?_;rotate_left;(intro W hC hE;clear hE;(have z0:=(hC.cell (p:=⟨w.heap.size,0,none⟩) mg).trans m0;have z1:=(hC.cell (p:=⟨w.heap.size,1,none⟩) mg).trans m1);clear hC;go_simp;done);simp only[Act.put,List.setIfInBounds_toArray,List.set_cons_zero,List.set_cons_succ])
  | (refine wpAs_pure (v := ?_) rfl rfl ?_ ?_;rotate_left;(intro W hC hE;clear hE;(have z0:=(hC.cell (p:=⟨w.heap.size,0,none⟩) mg).trans m0;have z1:=(hC.cell (p:=⟨w.heap.size,1,none⟩) mg).trans m1);clear hC;go_simp;with_reducible rfl);simp only[Act.put,List.setIfInBounds_toArray,List.set_cons_zero,List.set_cons_succ]))
 refine wpAs_act rfl rfl ?_ ?_
 ·intro W hC hE
  clear hE
  refine does_enter (f:=98) (args:=#[.agg #[.slice A s.1.1.length ca,.slice B s.1.2.length cb]]) ?_ ?_
  ·go_simp
  ·refine(twin_any _ s.1 W hsm.out.1 (H.out.below hC).parts.1).mono ?_
   rintro e W' ⟨u,rfl,hu,hb⟩
   exact⟨_,rfl,hu.new hC.size (Below.refl _ _),hb⟩
 simp only[Act.put,List.setIfInBounds_toArray,List.set_cons_zero,List.set_cons_succ,envAdd]
 intro x5
 repeat (first
  | (refine wpAs_skip rfl ?_;simp only[Act.put,List.setIfInBounds_toArray,List.set_cons_zero,List.set_cons_succ])
  | (refine wpAs_pure (v := ?_) rfl rfl ?_ ?_;rotate_left;(intro W hC hE;clear hE;(have z2:=(hC.cell (p:=⟨w.heap.size,2,none⟩) mg).trans m2);clear hC;go_simp;done);simp only[Act.put,List.setIfInBounds_toArray,List.set_cons_zero,List.set_cons_succ])
  | (refine wpAs_pure (v := ?_) rfl rfl ?_ ?_;rotate_left;(intro W hC hE;clear hE;(have z2:=(hC.cell (p:=⟨w.heap.size,2,none⟩) mg).trans m2);clear hC;go_simp;with_reducible rfl);simp only[Act.put,List.setIfInBounds_toArray,List.set_cons_zero,List.set_cons_succ]))
 refine wpAs_act rfl rfl ?_ ?_
 ·intro W hC hE
  clear hE
  refine does_enter (f:=52) (args:=#[.slice N s.2.1.length cn]) ?_ ?_
  ·go_simp
  ·refine(clone_by _ s.2.1 W (by have:=hsm.out.2.1;omega) (H.out.below hC).parts.2.1).mono ?_
   rintro e W' ⟨u,rfl,ho,hb⟩
   exact⟨_,rfl,stab_by.new ho hC.size (Below.refl _ _),hb⟩
 simp only[Act.put,List.setIfInBounds_toArray,List.set_cons_zero,List.set_cons_succ,envAdd]
 intro x8
 repeat (first
  | (refine wpAs_skip rfl ?_;simp only[Act.put,List.setIfInBounds_toArray,List.set_cons_zero,List.set_cons_succ])
  | (refine wpAs_pure (v := ?_) rfl rfl ?_ ?_;rotate_left;(intro W hC hE;clear hE;(have z3:=(hC.cell (p:=⟨w.heap.size,3,none⟩) mg).trans m3);clear hC;go_simp;done);simp only[Act.put,List.setIfInBounds_toArray,List.set_cons_zero,List.set_cons_succ])
  | (refine wpAs_pure (v := ?_) rfl rfl ?_ ?_;rotate_left;(intro W hC hE;clear hE;(have z3:=(hC.cell (p:=⟨w.heap.size,3,none⟩) mg).trans m3);clear hC;go_simp;with_reducible rfl);simp only[Act.put,List.setIfInBounds_toArray,List.set_cons_zero,List.set_cons_succ]))
 refine wpAs_act rfl rfl ?_ ?_
 ·intro W hC hE
  clear hE
  refine does_enter (f:=52) (args:=#[.slice L s.2.2.length cl]) ?_ ?_
  ·go_simp
  ·refine(clone_by _ s.2.2 W (by have:=hsm.out.2.2;omega) (H.out.below hC).parts.2.2).mono ?_
   rintro e W' ⟨u,rfl,ho,hb⟩
   exact⟨_,rfl,stab_by.new ho hC.size (Below.refl _ _),hb⟩
 simp only[Act.put,List.setIfInBounds_toArray,List.set_cons_zero,List.set_cons_succ,envAdd]
 intro x11
 refine wpAs_act rfl rfl ?_ ?_
 ·intro W hC hE
  have h11:=hE.1 rfl
  have h8:=hE.2.1 rfl
  have h5:=hE.2.2.1 rfl
  obtain⟨X,x,rfl,_⟩:=rBy_open h11
  obtain⟨Y,y,rfl,_⟩:=rBy_open h8
  obtain⟨P,p,Q,r,rfl,_⟩:=h5.open
  have h11':=Lib.hid h11
  have h8':=Lib.hid h8
  have h5':=Lib.hid h5
  clear hE hC h11 h8 h5
  go_simp
  exact⟨⟨P,p,Q,r,Y,y,X,x,rfl,h5'.out,h8'.out,h11'.out⟩,Below.refl _ _⟩
 simp only[Act.put,List.setIfInBounds_toArray,List.set_cons_zero,List.set_cons_succ,envAdd]
 intro x12
 refine wpAs_end fun W hC hE => ?_
 obtain⟨⟨P,p,Q,r,Y,y,X,x,rfl,hd,hn,hl⟩,_⟩:=hE
 have bW:=(hC.block (w.heap.size+1) (by rw[hsz.out];omega)).trans f2.out
 obtain⟨c0,c1,c2,c3,c4,c5⟩:=four_cells bW
 obtain⟨W9,hW9,g9,gr9,gs9⟩:=put_four (a':=.slice P s.1.1.length p) (b':=.slice Q s.1.2.length r) (c':=.slice Y s.2.1.length y) (d':=.slice X s.2.2.length x) bW
 obtain⟨n0,n1,n2,n3,_,_⟩:=four_cells g9
 have BW:=hB.trans (hC.mono hB.size)
 have hfin:=Lib.hid (sto_fin (lo:=w.heap.size) hd hn hl (by rw[hsz.out];omega) hB.size gr9)
 have hB9:=Lib.hid (BW.grown gr9 BW.size (fun q e=>by cases e;omega))
 clear hd hn hl gr9 gs9 BW hC
 replace bW:=Lib.hid bW
 replace g9:=Lib.hid g9
 go_wp2_with fail
 refine bodyPost_ret (v:=.agg #[.slice P s.1.1.length p,.slice Q s.1.2.length r,.slice Y s.2.1.length y,.slice X s.2.2.length x]) (by simp[results,Tryz.results74,go_sem,n0,n1,n2,n3]) rfl ?_
 exact⟨_,_,_,_,_,_,_,_,rfl,hfin.out,hB9.out⟩
end Go.Proofs.YtogieepfimpdmaaGreat
