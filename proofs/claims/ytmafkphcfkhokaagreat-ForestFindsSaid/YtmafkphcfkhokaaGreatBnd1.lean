/-
  Lemmas on the program and on the document's answers, gathered: Base, Num, Code, Row, Clone, Rel, Disk, AnyB, Any, Last, Clones, RefMay, Great, DevCheck, DevTwin, DevNew, Same, Crc, SumOf, Own, Sup, Late, Jump, KeepT, AnyC, PuLate, Gather, Seen, DevRead. Conditions: those that each lemma states.
-/
import Derived.Test.YtmafkphcfkhokaaGreatRows
import Derived.WalkKit
import Derived.WalkLawsBesides
import Derived.WalkSpells
import Derived.ProofKit
import Derived.OpenShut
import Derived.Carry
import Derived.Laws.IdiomStrings
import Derived.BigQuiet
import Derived.Deep.DeepCutAuto
import Derived.Deep.RegionWith
import Derived.OwnWalk
import Derived.Laws.AppendOwn
import Derived.Maps.AppendAt
import Derived.Deep.QuietTactic
import Derived.Laws.BitsAllLaws
import Derived.Laws.BitsLemmas
import Derived.Outline
import Derived.Laws.Rows
import Derived.Laws.CopyOwn
import Derived.Laws.MakeOwn
import Derived.Lib.Hide
import Derived.Deep.Slices
import Derived.Lib.SmallJoins
import Derived.Orders
import Derived.Below
import Derived.Laws.World
import Derived.BigRegion
import Derived.Deep.CutBlock
import Derived.StillTailTactics
import Derived.IntWalk
import Derived.Laws.OwnMore
import Derived.RangeFuncCalls
import Derived.OrdersIn
import Derived.AtR
import Derived.RangeFuncNested
import Derived.RangeFuncBox
import Derived.RangeFuncBound
import Derived.RangeFuncLeaves
import Derived.Shelf.Abstract
import Derived.Shelf.RegionOpen
import Derived.OwnWalkIn
import Derived.TacticsInMore
import Derived.LoopNIn
import Derived.LoopIn
set_option maxRecDepth 100000
set_option maxHeartbeats 16000000
open Array renaming getElem?_eq_some_iff → Qc, getD → Qk, replicate → Ql, getElem?_eq_getElem → Qt, replicate_succ → Q0, ext → Q7, replicate_zero → Pi, getElem?_push → Ps, any_eq_true' → Px, getD_eq_getD_getElem? → Pz, mem_append → P5, all_eq_true_iff_forall_mem → Qaf, getElem?_modify → Qaj, getElem?_toList → Qav, getElem?_setIfInBounds_ne → Qa4, getElem?_eq_none → Qa5
open Bool renaming and_eq_true → Qi, or_eq_true → Q6, false_ne_true → Qae, not_eq_true' → Qa3
open Go renaming World → Qbe, Value → Qbf, Addr → Qbg, Exit → Qbh, Oper → Qbi, Operand → Qbj, Act → Qbk, TypeId → Qbl, bodyPost_ret → Qbm, heap_alloc_new → Qbn, undef → Qbo, Calls → Qbp
open Go.Act renaming put → Qh
open Go.Builtin renaming append_ → Po, lenOf → Qax, firstCells → Qay
open Go.Region renaming wanted → Qa, ready → Qf, binds → Qg, noSelect → Pw, free → Qaq, noSelect_spec → Qa7
open Go.RowKit renaming Below → Qbq
open Go.RowKit.Below renaming refl → Qe, heap_setCell → Qa0, heap_alloc → Qba
open Go.World renaming block_lt_of_cell? → Qv, frozen? → Q9, cell?_of_block → Pu, ownsRow_made → Qaa, ownsRow_nil → Qab, frozen?_of_block → Qac, setCell → Qai, cell?_setCell_same' → Qas, cell? → Qa9, size_alloc → Qbb
open List renaming getElem?_eq_getElem → Qd, getElem?_eq_some_iff → Qj, range → Qo, all_eq_true → Qp, length_cons → Qq, mem_range → Qr, mem_cons → Qs, drop_eq_getElem_cons → Qu, take_of_length_le → Qw, eq_nil_of_length_eq_zero → Qy, length_nil → Qz, cons_append → Q3, mem_map → Q5, take_append_drop → Pa, getElem?_of_mem → Pd, eq_nil_iff_forall_not_mem → Pe, size_toArray → Pf, push_toArray → Pj, append_toArray → Pk, nil_append → Pm, replicate → Pp, length_filter_le → Pr, getElem?_set_ne → Pt, mem_of_getElem? → Pv, mem_filter → Py, mem_append_left → P7, mem_append_right → P8, take_add_one → Qad, contains_iff_mem → Qag, take_add → Qah, getElem?_set_self → Qak, cons_ne_nil → Qal, dropLast_cons_of_ne_nil → Qam, dropLast_singleton → Qan, getLast_cons → Qao, getLast_singleton → Qap, mem_toArray → Qar, append_nil → Qat, getElem?_map → Qaw, range_succ → Qaz, getElem?_append_left → Qa1, length_append → Qa2, drop_eq_nil_of_le → Qa8, length_take_le → Qbc, mem_append → Qbd
open Nat renaming le_refl → Qb, le_trans → Qm, lt_of_lt_of_le → Qn, mul_one → Qx, add_zero → Q8, reduceAdd → Pg, reduceSub → Ph, eq_zero_or_pos → Pn, zero_le → Pq, add_assoc → Qau, le_of_not_lt → Qa6
noncomputable section
namespace Go.Proofs.YtmafkphcfkhokaaGreat
open Go.ChangeShapes Go.WideShapes Go.RowKit
section
variable {H : Type}{enc : Qbl × Qbf -> H}{P : Program}
theorem Zms (hl:laidOutB P=true){W W':Qbe}{sp:Nat->Bool}:∀ {ts:List Qbl}{vs:List Qbf}{ds:List (DataW H)}{ps:List MemPlace},
  (∀ t∈ts,P.readableRec t=true/\t<P.types.size)->DataW.TrodAll enc P W 0 (fun _=>true) true ts vs ds ps->(∀ p∈ps,W.sameAt W' p)->(∀ p∈ps,sp p.block=true) ->
  DataW.TrodAll enc P W' 0 sp true ts vs ds ps
 | [],[],[],_,_,h,_,_=>h
 | _::_,_::_,_::_,_,ht,⟨p,q,h1,h2,e⟩,hsame,hs =>
  ⟨p,q,WideElems.Trod_stays hl (ht _ (Qs.2 (Or.inl rfl))).1 (ht _ (Qs.2 (Or.inl rfl))).2 h1 (fun x hx=>hsame x (by rw[e];exact P7 _ hx)) (fun x hx=>hs x (by rw[e];exact P7 _ hx)),
   Zms hl (fun t h=>ht t (Qs.2 (Or.inr h))) h2 (fun x hx=>hsame x (by rw[e];exact P8 _ hx)) (fun x hx=>hs x (by rw[e];exact P8 _ hx)),e⟩
theorem Z0k {f:Func}{s:ChangeSpec}{apart fresh handsOn again:Bool}{W W':Qbe}{args:Array Qbf}{ds gs:List (DataW H)}{before:List MemPlace}{tb:Qbl}
  (hl:laidOutB P=true) (hts:∀ t∈f.params.toList,P.readableRec t=true/\t<P.types.size) (hr:f.resultTypes=#[tb]) (htb:P.underlying tb=some .bool) (hv:s.vars=[])
  (hs:(s.fn H (ds++gs)).results=[.lit (.bool true)]/\(s.fn H (ds++gs)).args=ds/\(s.fn H (ds++gs)).vars=[])
  (hW:DataW.Whole enc P f.params.toList s.vars apart W args.toList ds gs before) (hb:Qbq W.heap.size W W') :
  s.post enc P f apart fresh handsOn again W args (.bool true) W':=by{
 have hW0:=hW;obtain⟨p,q,hA,hV,hps,hz,hn⟩:=hW;rw[hv] at hV;obtain⟨rfl,rfl⟩:=trodVars_none hV;rw[Qat] at hps;have hlt:∀ x∈before,x.block<W.heap.size:=fun x hx=>hW0.lt x hx
 have Zcx:∀ x∈before,(fun b=>decide (b<W.heap.size)) x.block=true:=fun x hx=>by simpa using hlt x hx
 have hargs:∀ sp:Nat->Bool,(∀ x∈before,sp x.block=true)->DataW.TrodAll enc P W' 0 sp true f.params.toList args.toList (s.fn H (ds++[])).args before:=fun sp hsp=>by
  rw[hs.2.1];have hA':DataW.TrodAll enc P W 0 (fun _=>true) true f.params.toList args.toList ds before:=by rw[hps];exact hA
  exact Zms hl hts hA' (fun x hx=>hb.same (hlt x hx)) hsp
 have hvars:∀ sp:Nat->Bool,DataW.TrodVars enc P W' sp s.vars (s.fn H (ds++[])).vars []:=fun sp=>by
  rw[hv,hs.2.2];exact rfl
 have hok:=ok_one (P:=P) (W':=W') (f:=f) (v:=.bool true) hr rfl (okWide_bool_mk htb true);have hres:∀ (b:Nat) (sp:Nat->Bool) (hd:Bool),DataW.TrodAll enc P W' b sp hd f.resultTypes.toList ((Value.bool true).resultList f.resultTypes.size) (s.fn H (ds++[])).results []:=fun b sp hd=>by
  rw[hs.1,hr];exact trodAll_cons_mk (shut_bool htb _) trodAll_mk0
 refine⟨ds,[],before,[],before,[],hW0,hres _ _ _,hargs _ Zcx,hvars _,World.keptBut_mono (fun x hx=>⟨hx,Or.inr (by simpa using hx)⟩) (hb.frame (· ∈ before)),fun _=> ?_⟩;refine⟨hok,_,_,([]++before)++[],⟨[]++before,[],trodAll_append (hargs _ (fun _ _=>rfl)) (hres _ _ _),hvars _,rfl,?_,?_⟩,?_⟩
 ·intro b off hp
  have hin:MemPlace.cell b off∈before:=by simpa using hp
  rw[hb.frozen (hlt _ hin)];exact hz b off hin
 ·intro ha
  simpa using hn ha
 ·intro x hx _
  simpa using hx}
end
def Byt (w:Qbe) (B:Nat) (A:Option Qbg) (xs:List UInt8):Prop :=
 0<xs.length->∃ ad,A=some ad/\ad.block<B/\∀ j,j<xs.length->w.cell? (ad.add j)=some (.int .u8 ((xs[j]?.getD 0).toNat:Int))
theorem Vo {B:Nat}{a w:Qbe}(h:Qbq B a w) (n:Nat):Qbq B a (w.drewN n):=⟨h.os,h.tape,h.output,h.size,h.block⟩
theorem Zh (a:Qbg) (n:Nat):(a.add n).block=a.block:=by unfold Addr.add;split <;> rfl
theorem Zjx (a:Qbg) (i j:Nat):(a.add i).add j=a.add (i+j):=by
 unfold Addr.add;by_cases hi:i=0 <;> by_cases hj:j=0 <;> simp[hi,hj,Qau]
section
variable {w w' : Qbe}{B B' : Nat}{A : Option Qbg}{xs : List UInt8}
theorem Byt.nil:Byt w B A []:=fun h=>absurd h (by simp)
theorem Byt.keep (h:Byt w B A xs) (hk:∀ p:Qbg,p.block<B->w'.cell? p=w.cell? p):Byt w' B A xs:=fun hn=>by
 obtain⟨ad,e,hb,hc⟩:=h hn;exact⟨ad,e,hb,fun j hj=>(hk _ (by rw[Zh];exact hb)).trans (hc j hj)⟩
theorem Byt.more (h:Byt w B A xs) (hB:B<=B'):Byt w B' A xs:=fun hn=>by
 obtain⟨ad,e,hb,hc⟩:=h hn;exact⟨ad,e,Qn hb hB,hc⟩
theorem Byt.below (h:Byt w B A xs) (hb:Qbq B w w'):Byt w' B A xs:=h.keep fun _ hp=>hb.cell hp
theorem Byt.drewN (h:Byt w B A xs) (n:Nat):Byt (w.drewN n) B A xs:=h
theorem Byt.part (h:Byt w B A xs){k n:Nat}(hk:k+n<=xs.length) (hn:0<n):∃ ad,A=some ad/\Byt w B (some (ad.add k)) ((xs.drop k).take n):=by
 obtain⟨ad,e,hb,hc⟩:=h (by omega);refine⟨ad,e,fun _=>⟨_,rfl,by rw[Zh];exact hb,fun j hj=> ?_⟩⟩;have hj':j<n:=by simp at hj;omega
 rw[Zjx,hc (k+j) (by omega)];simp[hj']
theorem Byt.str {P:Program}(h:Byt w B A xs) (src dst e:Qbl) (len cap:Nat) (hlen:xs.length=len) (hs:P.underlying src=some (.slice e)) (he:P.underlying e=some (.int .u8)) (hd:P.underlying dst=some .string) :
  (convert src dst (.slice A len cap)).run P w=.ok (.string ⟨xs.toArray⟩) w:=by{
 subst hlen;rcases Pn xs.length with h0 | h0
 ·have hx:xs=[]:=Qy h0
  subst hx;rw[Qz,run_convert_bytes_string w src dst e A 0 cap hs he hd];rcases A with _ | a
  ·simp[Conv.bytesToString]
   rfl
  ·rw[run_bytesToString w a 0 cap [] (by have:=run_loadCells_list (P:=P) w a [] (fun j v hj=>by simp at hj);simpa using this)]
   rfl
 ·obtain⟨ad,rfl,_,hc⟩:=h h0
  exact run_convert_bytes_back w src dst e ad cap xs hs he hd (fun j hj=>by rw[hc j hj];simp[Qd hj])}
end
theorem Z3y (w:Qbe) (t:Qbl) (xs:List UInt8) (cs:Array Qbf) (hc:cs.toList=xs.map fun x=>Value.int .u8 (x.toNat:Int)):Byt (w.alloc (.cells cs t)) (w.heap.size+1) (some ⟨w.heap.size,0,none⟩) xs:=fun _ =>
 ⟨_,rfl,by simp,fun j hj=>by
  have e:(⟨w.heap.size,0,none⟩:Qbg).add j=⟨w.heap.size,j,none⟩:=by unfold Addr.add;split <;> simp_all
  have e2:cs[j]? = some (.int .u8 ((xs[j]?.getD 0).toNat:Int)):=by
   rw[<- Qav,hc,Qaw,Qd hj];rfl
  rw[e,<- e2]
  simp⟩
theorem Yc {a b:Bool}(h:a=b):Ending.returned (.bool a)=.returned (.bool b):=by rw[h]
theorem Zw {k:IntKind}{a b:Int}(h:a=b):Ending.returned (.int k a)=.returned (.int k b):=by rw[h]
theorem Z0n {w w1 w2:Qbe}(h:Qbq w.heap.size w w1) (h2:Qbq w1.heap.size w1 w2):Qbq w.heap.size w w2:=h.trans (h2.mono h.size)
theorem Zb4 {w w1:Qbe}(h:Qbq w.heap.size w w1) (o:Obj):Qbq w.heap.size w (w1.alloc o):=h.alloc h.size o
theorem Z2e {w:Qbe}{base n:Nat}{t:Qbl}{v:Qbf}{xs:List UInt8}(h:w.ownsRow base t 1 v n (xs.map fun x=>Value.int .u8 (x.toNat:Int))) :
  ∃ A cap,v=.slice A n cap/\n<=cap/\cap<=9223372036854775807/\Byt w w.heap.size A xs:=by{
 have hl:xs.length=n:=by simpa using h.1
 rcases h.2 with ⟨rfl,h0⟩ | ⟨g,cap,cur,rfl,_,hg,hnc,hcm,_,_⟩
 ·subst h0
  have:xs=[]:=Qy hl;subst this;exact⟨none,0,rfl,by omega,by omega,Byt.nil⟩
 ·refine⟨_,cap,rfl,hnc,by unfold maxLen at hcm;exact hcm,fun _=>⟨_,rfl,(Qc.1 hg).1,fun j hj=> ?_⟩⟩
  exact h.cells (g:=g) rfl j _ (by rw[Qaw,Qd hj];rfl)}
def u8s (xs:List UInt8):List Qbf:=xs.map fun x=>Value.int .u8 (x.toNat:Int)
theorem Zh9 (xs ys:List UInt8):u8s (xs++ys)=u8s xs++u8s ys:=by simp[u8s]
theorem Z10 {P:Program}{w:Qbe}(base t ty e:Qbl) (i:TypeInfo) (ht:P.underlying t=some (.slice e)) (hi:P.info? e=some i) (hz:i.zero=some (.int .u8 0)) (hsize:i.size=1) (hby:i.bytes=1)
  (v:Qbf) (n:Nat) (xs:List UInt8) (hown:w.ownsRow base e 1 v n (u8s xs)) (B:Nat) (A:Option Qbg) (m c:Nat) (ys:List UInt8) (hy:Byt w B A ys) (hlen:ys.length=m) (hs:n+m<=1000000000) (hbase:base<=w.heap.size) :
  ∃ v' w',(Po #[t,t] ty #[v,.slice A m c]).run P w=.ok v' w'/\w'.ownsRow base e 1 v' (n+m) (u8s (xs++ys))/\Qbq base w w':=by{
 subst hlen;have hat:∀ ad,(∀ j,j<ys.length->w.cell? (ad.add j)=some (.int .u8 ((ys[j]?.getD 0).toNat:Int)))->∃ v' w',(Po #[t,t] ty #[v,.slice (some ad) ys.length c]).run P w=.ok v' w'/\w'.ownsRow base e 1 v' (n+ys.length) (u8s (xs++ys))/\Qbq base w w':=fun ad hc=>by
  obtain⟨v',w',h1,h2,h3,_,_⟩:=run_append_own_at (P:=P) w base t ty e i (.int .u8 0) 1 1 ht hi hz hsize hby rfl (by omega) v n (u8s xs) hown ad ys.length c (u8s ys) (by simp[u8s]) (fun j u hu=>by
   have hj:j<ys.length:=by
    have:=(Qj.1 hu).1
    simpa [u8s] using this
   rw[hc j hj,<- hu]
   simp[u8s,Qd hj]) (fun u hu=>by
   simp only[u8s,Q5] at hu;obtain⟨x,_,rfl⟩:=hu
   rfl) (by unfold maxLen;omega) (by omega) hbase
  exact⟨v',w',h1,by rw[Zh9];exact h2,(Qe base w).grown h3 hbase (fun k hk=>(hown.lt k hk).1)⟩
 rcases Pn ys.length with h0 | h0
 ·have hx:ys=[]:=Qy h0
  subst hx;rcases A with _ | ad
  ·refine⟨v,w,?_,by simpa using hown,Qe _ _⟩
   rcases hown.2 with ⟨rfl,rfl⟩ | ⟨g,cap,cur,rfl,_,_,hnc,_⟩
   ·simp[Po,run_underlying ht,sizeOf,typeInfo,hi,Qax,Qay]
   ·simp[Po,run_underlying ht,sizeOf,typeInfo,hi,Qax,Qay,hnc,storeCells]
  ·exact hat ad (fun j hj=>by simp at hj)
 ·obtain⟨ad,rfl,_,hc⟩:=hy h0
  exact hat ad hc}
theorem Zu {P:Program}{w:Qbe}{ops:Array Qbi}{rest:List Qbi}{o:Qbi}{a:Qbk}{Q:Qbh->Qbk->Qbe->Prop}(hgd:o.guard=none) (s x:Qbj) (t:Qbl)
  (ho:o.op=.call { callee:=.builtin .append,args:=#[s,x],argTypes:=#[t,t] }) {v u v':Qbf} {w':Qbe} (hs:a.eval s=v) (hx:a.eval x=u)
  (hrun:(Po #[t,t] o.type #[v,u]).run P w=.ok v' w') (h:wpList P ops Q rest (a.put o.dst v') w'):wpList P ops Q (o::rest) a w :=
 wpList_plain hgd fun _ hK=>by
  unfold Oper.wp execOp;simp only[ho,resolve,invoke,builtin,Sem.run_bind,Sem.run_pure,Result.andThen_ok,List.map_toArray,List.map_cons,List.map_nil,hs,hx,hrun];exact hK _ _ h
end Go.Proofs.YtmafkphcfkhokaaGreat
namespace Go.Proofs.YtmafkphcfkhokaaGreat
open Go.RowKit
theorem Za {p : Prop}(h : p) : Hid p := h
theorem Zb {α : Type _}{l : List α}{i : Nat}{a : α} : l.toArray.setIfInBounds i a = (l.set i a).toArray := List.setIfInBounds_toArray _ _ _
theorem Zc {α : Type _}{x : α}{xs : List α}{a : α} : (x :: xs).set 0 a = a :: xs := List.set_cons_zero
theorem Zd {α : Type _}{x : α}{xs : List α}{n : Nat}{a : α} : (x :: xs).set (n + 1) a = x :: xs.set n a := List.set_cons_succ
def le:Nat->Int->List UInt8
 | 0,_=>[]
 | k+1,n=>UInt8.ofNat (n % 256).toNat::le k (n / 256)
def num:List UInt8->Int
 | []=>0
 | x::r=>(x.toNat:Int)+256*num r
theorem Z6 (k:Nat):∀ n:Int,(le k n).length=k:=by
 induction k with
 | zero=>intro n;rfl
 | succ k ih=>intro n;simp[le,ih]
theorem Zih (n:Int):((UInt8.ofNat (n % 256).toNat).toNat:Int)=n % 256:=by
 have h:(n % 256).toNat<256:=by omega
 rw[UInt8.toNat_ofNat',Nat.mod_eq_of_lt (by simpa using h)];omega
theorem Za2:∀ xs:List UInt8,0<=num xs
 | []=>by simp[num]
 | x::r=>by have:=Za2 r;simp only[num];omega
theorem Z08 (k:Nat):∀ n:Int,0<=n->n<(256:Int) ^ k->num (le k n)=n:=by{
 induction k with
 | zero=>intro n h0 h1;simp at h1;simp[le,num];omega
 | succ k ih =>
  intro n h0 h1;have e:(256:Int) ^ (k+1)=256 ^ k*256:=Int.pow_succ ..;rw[e] at h1;simp only[le,num];rw[ih (n / 256) (by omega) (by omega),Zih];omega}
theorem Zl2:∀ xs:List UInt8,num xs<(256:Int) ^ xs.length
 | []=>by simp[num]
 | x::r=>by
  have h:=Zl2 r;have hx:=x.toNat_lt;have e:(256:Int) ^ (r.length+1)=256 ^ r.length*256:=Int.pow_succ ..;simp only[num,Qq,e];omega
theorem Z2f (x:UInt8) (m:Int):UInt8.ofNat (((x.toNat:Int)+256*m) % 256).toNat=x:=by
 have hx:=x.toNat_lt;have h:(((x.toNat:Int)+256*m) % 256).toNat=x.toNat:=by omega
 rw[h];simp
theorem Zva:∀ xs:List UInt8,le xs.length (num xs)=xs
 | []=>rfl
 | x::r=>by
  have hx:=x.toNat_lt;simp only[Qq,le,num,Z2f];rw[show ((x.toNat:Int)+256*num r) / 256=num r by omega,Zva r]
theorem Z05 (k:Nat):∀ (n:Int) (j:Nat),j<k->(((le k n)[j]?.getD 0).toNat:Int)=n / 256 ^ j % 256:=by{
 induction k with
 | zero=>intro n j h;omega
 | succ k ih =>
  intro n j h;cases j with
  | zero=>simp only[le];simpa using Zih n
  | succ j =>
   have e:(256:Int) ^ (j+1)=256*256 ^ j:=by rw[Int.pow_succ,Int.mul_comm]
   simp only[le,List.getElem?_cons_succ];rw[ih (n / 256) j (by omega),e,Int.ediv_ediv_of_nonneg (by omega)]}
def val (pre:List (Nat×UInt8)):Int:=pre.foldl (fun n x=>n*256+(x.2.toNat:Int)) 0
theorem Zqd (pre:List (Nat×UInt8)) (x:Nat×UInt8):val (pre++[x])=val pre*256+x.2.toNat:=by simp[val]
def Zr1 (xs:List UInt8) (k:Nat):List (Nat×UInt8):=(Qo k).map fun j=>(xs.length-1-j,xs[xs.length-1-j]?.getD 0)
theorem Zgf (xs:List UInt8) (k:Nat):Zr1 xs (k+1)=Zr1 xs k++[(xs.length-1-k,xs[xs.length-1-k]?.getD 0)]:=by simp[Zr1,Qaz]
theorem Znn (xs:List UInt8) (k:Nat):(Zr1 xs k).length=k:=by simp[Zr1]
theorem Zza (xs:List UInt8):∀ k,k<=xs.length->val (Zr1 xs k)=num (xs.drop (xs.length-k)):=by{
 intro k
 induction k with
 | zero=>intro _;simp[Zr1,val,num]
 | succ k ih =>
  intro h;have hd:xs.drop (xs.length-(k+1))=xs[xs.length-(k+1)]'(by omega)::xs.drop (xs.length-(k+1)+1):=Qu (by omega);rw[Zgf,Zqd,ih (by omega),hd,show xs.length-(k+1)+1=xs.length-k by omega];have e:xs[xs.length-1-k]?.getD 0=xs[xs.length-(k+1)]'(by omega):=by
   have e':xs.length-1-k=xs.length-(k+1):=by omega
   rw[e',Qd (by omega)];rfl
  simp only[num,e];omega}
theorem Z1n (xs:List UInt8):val (Zr1 xs xs.length)=num xs:=by
 have:=Zza xs xs.length (Qb _)
 simpa using this
theorem Zb9:∀ (pre:List (Nat×UInt8)) (m:Int) (k:Nat),0<=m->m<(256:Int) ^ k->0<=pre.foldl (fun n x=>n*256+(x.2.toNat:Int)) m/\pre.foldl (fun n x=>n*256+(x.2.toNat:Int)) m<(256:Int) ^ (k+pre.length)
 | [],m,k,h0,h1=>⟨h0,h1⟩
 | x::r,m,k,h0,h1=>by
  have hx:=x.2.toNat_lt;have e:(256:Int) ^ (k+1)=256 ^ k*256:=Int.pow_succ ..;have h:=Zb9 r (m*256+(x.2.toNat:Int)) (k+1) (by omega) (by omega);rw[Qq,show k+(r.length+1)=k+1+r.length by omega];exact h
theorem Zq5 (pre:List (Nat×UInt8)):0<=val pre/\val pre<(256:Int) ^ pre.length:=by
 have:=Zb9 pre 0 0 (by omega) (by simp)
 rwa [Nat.zero_add] at this
theorem Zth (pre:List (Nat×UInt8)) (h:pre.length<4):0<=val pre/\val pre<16777216:=by{
 obtain⟨h0,h1⟩:=Zq5 pre;refine⟨h0,?_⟩
 match hn:pre.length,h with
 | 0,_=>rw[hn] at h1;simp at h1;omega
 | 1,_=>rw[hn] at h1;simp at h1;omega
 | 2,_=>rw[hn] at h1;simp at h1;omega
 | 3,_=>rw[hn] at h1;simp at h1;omega}
theorem Z4q (a:Int) (x:UInt8) (h0:0<=a) (h1:a<16777216):bits .or .u32 (a*256) (x.toNat:Int)=a*256+x.toNat:=by{
 have hx:=x.toNat_lt;obtain⟨n,rfl⟩:=Int.eq_ofNat_of_zero_le h0;have e:((n:Int)*256)=((n*256:Nat):Int):=by omega
 have hn:n*256 ||| x.toNat=n*256+x.toNat:=by
  rw[show n*256=2 ^ 8*n by omega];exact(Nat.two_pow_add_eq_or_of_lt (by omega) n).symm
 rw[e,u32_or_nat _ _ (by omega) (by omega),hn];omega}
theorem Zpp (n:Int) (h0:0<=n) (h1:n<4294967296) (w:Qbe) :
  Qbp Tryz.prog 67 #[.int .u32 n] w fun e w'=>∃ A,e=.returned (.slice A 4 4)/\Byt w' w'.heap.size A (le 4 n)/\Qbq w.heap.size w w':=by{
 go_enter Tryz.func67,Tryz.ntmps67
 go_wp2
 go_ret;refine⟨_,rfl,fun _=>⟨_,rfl,by simp,fun j hj=> ?_⟩,(Qe _ _).alloc (Qb _) _⟩;rw[Z6] at hj;rw[Z05 4 n j hj]
 match j,hj with
 | 0,_=>simp[Addr.add]
 | 1,_=>simp[Addr.add]
 | 2,_=>simp[Addr.add]
 | 3,_=>simp[Addr.add];omega}
theorem Z4h (n:Int) (h0:0<=n) (h1:n<65536) (w:Qbe) :
  Qbp Tryz.prog 65 #[.int .i64 n] w fun e w'=>∃ A,e=.returned (.tuple #[.slice A 2 2,.int .i64 0])/\Byt w' w'.heap.size A (le 2 n)/\Qbq w.heap.size w w':=by{
 go_enter Tryz.func65,Tryz.ntmps65
 go_wp2
 go_ret2
 refine⟨_,rfl,fun _=>⟨_,rfl,by simp,fun j hj=> ?_⟩,(Qe _ _).alloc (Qb _) _⟩;rw[Z6] at hj;rw[Z05 2 n j hj]
 match j,hj with
 | 0,_=>simp[Addr.add]
 | 1,_=>simp[Addr.add];omega}
theorem Zff:(Tryz.prog.info? 5).map (fun i=>(i.zero,i.size,i.bytes))=some (some (.int .u8 0),1,1):=by kernel_rfl
theorem Zvz:(Tryz.prog.info? 5).map (·.size)=some 1:=by kernel_rfl
def Zkt (xs:List UInt8):Array Qbf:=(u8s xs).toArray
def Row (w:Qbe) (g:Nat) (xs:List UInt8):Prop:=w.heap[g]? = some (.cells (u8s xs).toArray 5 (0,0))
def Yj (n:Nat):List UInt8:=Pp n 0
theorem Zae (n:Nat):(Yj n).length=n:=by simp[Yj]
theorem Uo (xs:List UInt8):(u8s xs).length=xs.length:=by simp[u8s]
theorem Zu5 (xs:List UInt8):∀ v∈u8s xs,v.oneCell'=true:=by
 intro v hv;simp only[u8s,Q5] at hv;obtain⟨x,_,rfl⟩:=hv;rfl
theorem Zi8 (xs:List UInt8) (j:Nat) (h:j<xs.length):(u8s xs)[j]? = some (.int .u8 ((xs[j]?.getD 0).toNat:Int)):=by
 simp[u8s,h]
theorem Zyv (xs:List UInt8) (k:Nat):(u8s xs).take k=u8s (xs.take k):=by simp[u8s,List.map_take]
theorem Zzp (xs:List UInt8) (k:Nat):(u8s xs).drop k=u8s (xs.drop k):=by simp[u8s,List.map_drop]
theorem Zrr (L:List UInt8) (off:Nat) (cs:List UInt8):splice (u8s L) off (u8s cs)=u8s (splice L off cs):=by
 simp only[splice,Uo,Zyv,Zzp,<- Zh9]
theorem Zrd (n:Nat):madeCells (Value.int .u8 0).cells (n*1)=Zkt (Yj n):=by{
 have hc:(Value.int .u8 0).cells=#[.int .u8 0]:=rfl;apply Q7
 ·simp[madeCells,Zkt,u8s,Yj]
 ·intro i h1 h2
  simp[madeCells,Zkt,u8s,Yj,hc,Nat.mod_one]}
theorem Zei (n:Nat) (h:n<=281474976710656) (w:Qbe) :
  (Instr.makeSlice 27 (.int .i64 n) (.int .i64 n)).run Tryz.prog w=.ok (.slice (some ⟨w.heap.size,0,none⟩) n n) (w.alloc (.cells (Zkt (Yj n)) 5)):=by
 obtain⟨i0,hi,hz0,hz1,hz2⟩:=info_parts Zff;have:=run_make (P:=Tryz.prog) w 27 5 i0 (.int .u8 0) Tryz.underlying27 hi hz0 .i64 .i64 n n (by omega) (by omega) (by rw[hz2];omega) (by omega);rw[hz1,Int.toNat_natCast,Zrd] at this;exact this
theorem Row.new (w:Qbe) (xs:List UInt8):Row (w.alloc (.cells (Zkt xs) 5)) w.heap.size xs:=Qbn w _
section
variable {w w' : Qbe}{g : Nat}{xs : List UInt8}
theorem Row.lt (h:Row w g xs):g<w.heap.size:=(Qc.1 h).1
theorem Row.keep (h:Row w g xs) (e:w'.heap[g]? = w.heap[g]?):Row w' g xs:=e.trans h
theorem Row.below {B:Nat}(h:Row w g xs) (hb:Qbq B w w') (hg:g<B):Row w' g xs:=h.keep (hb.block g hg)
theorem Row.after (h:Row w g xs) (hb:Qbq w.heap.size w w'):Row w' g xs:=h.below hb h.lt
theorem Row.cell (h:Row w g xs){j:Nat}(hj:j<xs.length):w.cell? ⟨g,j,none⟩=some (.int .u8 ((xs[j]?.getD 0).toNat:Int)):=by
 rw[cell_of_row _ _ _ _ _ _ h]
 simpa using Zi8 xs j hj
theorem Zbj (g i j:Nat):(⟨g,i,none⟩:Qbg).add j=⟨g,i+j,none⟩:=by unfold Addr.add;split <;> simp_all
theorem Row.byt (h:Row w g xs) (k n:Nat) (hn:k+n<=xs.length):Byt w w.heap.size (some ⟨g,k,none⟩) ((xs.drop k).take n):=fun hl =>
 ⟨_,rfl,h.lt,fun j hj=>by
  have hj':j<n:=by simp at hj;omega
  rw[Zbj,h.cell (by omega)]
  simp[hj']⟩
theorem Row.tail (h:Row w g xs) (k:Nat) (hk:k<=xs.length):Byt w w.heap.size (some ⟨g,k,none⟩) (xs.drop k):=by
 have:=h.byt k (xs.length-k) (by omega)
 rwa [Qw (by simp)] at this
end
theorem Zpg {w:Qbe}(ty:Qbl){g off dLen dCap:Nat}{sp:Option Qbg}{sLen sCap:Nat}{L:List UInt8}(hR:Row w g L){B':Nat}{ys:List UInt8}(hy:Byt w B' sp ys) (hlen:ys.length=sLen) (hfit:off+min sLen dLen<=L.length) :
  ∃ w',(Builtin.copy_ #[27,27] ty #[.slice (some ⟨g,off,none⟩) dLen dCap,.slice sp sLen sCap]).run Tryz.prog w=.ok (.int .i64 (min sLen dLen:Nat)) w'/\Row w' g (splice L off (ys.take (min sLen dLen)))/\Qbq g w w':=by{
 rcases Pn (min sLen dLen) with h0 | h0
 ·refine⟨w,?_,?_,Qe _ _⟩
  ·rw[h0]
   exact run_copy_none w _ _ ty 5 _ _ dLen dCap sLen sCap Tryz.underlying27 Zvz h0
  ·rw[h0]
   simpa [splice] using hR
 ·obtain⟨ad,rfl,_,hc⟩:=hy (by omega)
  have hl:(ys.take (min sLen dLen)).length=min sLen dLen:=by simp;omega
  have hr:=run_copy_row (P:=Tryz.prog) w 27 27 ty 5 g off dLen dCap ad sLen sCap _ 5 (u8s (ys.take (min sLen dLen))) Tryz.underlying27 Zvz hR (by rw[Uo,hl]) (fun j v hj=>by
   have hj':j<(ys.take (min sLen dLen)).length:=by
    have:=(Qj.1 hj).1
    simpa [u8s] using this
   have hj2:j<min sLen dLen:=by rwa [hl] at hj'
   rw[hc j (by omega),<- hj,Zi8 _ _ hj',List.getElem?_take_of_lt hj2]) (by rw[Uo,hl];simpa [u8s] using hfit) (Zu5 _)
  rw[Uo,hl] at hr;refine⟨_,hr,?_,below_setRow (Qe _ _) (Qb _) _⟩;have h2:=setRow_heap w g _ ((u8s L).take off++u8s (ys.take (min sLen dLen))++(u8s L).drop (off+min sLen dLen)).toArray 5 _ hR;show _=_;rw[<- Zrr,splice,Uo,hl,<- List.append_assoc];exact h2}
theorem Zio (ad:Qbg) (len cap:Nat) (xs:List UInt8) (hlen:Hid (xs.length=len)) (hbig:len<=140737488355328) (w:Qbe) (hx:Byt w w.heap.size (some ad) xs) :
  Qbp Tryz.prog 97 #[.slice (some ad) len cap] w fun e w'=>∃ v,e=.returned v/\w'.ownsRow w.heap.size 5 1 v len (u8s xs)/\v≠.slice none 0 0/\Qbq w.heap.size w w':=by{
 obtain⟨i0,hi,hz0,hz1,hz2⟩:=info_parts Zff;have q22:∀ (w:Qbe) (a:Option Qbg) (n c n' c':Nat),(binOp .eql 27 (.slice a n c) (.slice none n' c')).run Tryz.prog w=.ok (.bool a.isNone) w:=fun w a n c n' c'=>Lib.run_eql_slice_nil w _ _ a n c n' c' Tryz.underlying27
 go_enter Tryz.func97,Tryz.ntmps97
 go_wp2_with (at_builtin;refine wpList_append_own _ rfl _ _ 27 rfl w.heap.size 5 i0 (.int .u8 0) 1 1 Tryz.underlying27 hi hz0 hz1 hz2 rfl (by decide) _ _ _ rfl (Qaa w #[] 0 (Qb _) (Pq _) rfl) ad len cap (u8s xs) rfl ?qc1 ?qc2 ?qc3 ?qc4 ?qc5 ?qc6 ?_)
 case qc1=>rw[Uo,hlen.out,Qx]
 case qc2 =>
  intro j u hj;have hjn:j<xs.length:=by
   have:=(Qj.1 hj).1
   simpa [u8s] using this
  obtain⟨ad',e,hb,hc⟩:=hx (by omega);cases e;refine Lib.cell?_alloc_some _ ?_;rw[hc j hjn,<- Zi8 xs j hjn,hj]
 case qc3=>exact Zu5 xs
 case qc4=>unfold maxLen;omega
 case qc5=>omega
 case qc6=>simp
 intro v' w1 hown hgrow hnil
 go_wp2
 go_ret;refine⟨v',rfl,by simpa using hown,hnil,?_⟩;exact((Qe _ w).alloc (Qb _) _).grown hgrow (by simp) (by intro k hk;simp[Value.ownBlock] at hk;omega)}
theorem Zwe (n c:Nat) (w:Qbe) :
  Qbp Tryz.prog 97 #[.slice none n c] w fun e w'=>e=.returned (.slice none 0 0)/\w=w':=by{
 have q22:∀ (w:Qbe) (a:Option Qbg) (n c n' c':Nat),(binOp .eql 27 (.slice a n c) (.slice none n' c')).run Tryz.prog w=.ok (.bool a.isNone) w:=fun w a n c n' c'=>Lib.run_eql_slice_nil w _ _ a n c n' c' Tryz.underlying27
 go_enter Tryz.func97,Tryz.ntmps97
 go_wp2
 go_ret;exact⟨rfl,rfl⟩}
theorem Zdy (A:Option Qbg) (len cap:Nat) (xs:List UInt8) (hlen:Hid (xs.length=len)) (hbig:len<=140737488355328) (w:Qbe) (hx:Byt w w.heap.size A xs) :
  Qbp Tryz.prog 97 #[.slice A len cap] w fun e w'=>∃ v,e=.returned v/\w'.ownsRow w.heap.size 5 1 v len (u8s xs)/\Qbq w.heap.size w w':=by{
 rcases A with _ | ad
 ·have h0:xs=[]:=by
   rcases Pn xs.length with h | h
   ·exact Qy h
   ·obtain⟨_,e,_⟩:=hx h
    cases e
  subst h0;obtain rfl:=hlen.out;refine(Zwe _ cap w).mono ?_;rintro e w' ⟨rfl,rfl⟩;exact⟨_,rfl,Qab _ _ _ _,Qe _ _⟩
 ·refine(Zio ad len cap xs hlen hbig w hx).mono ?_
  rintro e w' ⟨v,rfl,h1,_,h2⟩;exact⟨v,rfl,h1,h2⟩}
end Go.Proofs.YtmafkphcfkhokaaGreat
namespace Go.Proofs.YtmafkphcfkhokaaGreat
open Go.ChangeShapes Go.WideShapes Go.RowKit
abbrev Rel (α:Type):=(Qbg->Prop)->Qbe->List Qbf->α->Prop
def rK (k:IntKind):Rel Int:=fun _ _ cs n=>cs=[.int k n]/\k.min<=n/\n<=k.max
def rU8:Rel UInt8:=fun _ _ cs x=>cs=[.int .u8 (x.toNat:Int)]
def Z4r:Rel Bool:=fun _ _ cs b=>cs=[.bool b]
def rSl {α:Type}(n:Nat) (R:Rel α):Rel (List α):=fun ok w cs xs=>∃ A cap,cs=[.slice A xs.length cap]/\xs.length<=cap/\cap<=9223372036854775807 /\
 ∀ i x,xs[i]? = some x->∃ ad vs,A=some ad/\vs.length=n/\(∀ j v,vs[j]? = some v->ok (ad.add (i*n+j))/\w.cell? (ad.add (i*n+j))=some v)/\R ok w vs x
def Zbp {α β:Type}(R:Rel α) (S:Rel β):Rel (α×β):=fun ok w cs x=>∃ c d,cs=c++d/\R ok w c x.1/\S ok w d x.2
def Old (w:Qbe):Qbg->Prop:=fun p=>p.block<w.heap.size
def New (lo:Nat) (w:Qbe):Qbg->Prop:=fun p=>lo<=p.block/\p.block<w.heap.size/\w.frozen? p=false
def Zde {α:Type}(R:Rel α):Prop:=∀ (ok ok':Qbg->Prop) (w w':Qbe) (cs:List Qbf) (x:α),(∀ p v,ok p->w.cell? p=some v->ok' p/\w'.cell? p=some v)->R ok w cs x->R ok' w' cs x
theorem Xk (k:IntKind):Zde (rK k):=fun _ _ _ _ _ _ _ h=>h
theorem Zw7:Zde rU8:=fun _ _ _ _ _ _ _ h=>h
theorem Zts:Zde Z4r:=fun _ _ _ _ _ _ _ h=>h
theorem Zv {α:Type}{n:Nat}{R:Rel α}(h:Zde R):Zde (rSl n R):=fun ok ok' w w' cs xs hk hr=>by
 obtain⟨A,cap,h1,h2,h3,h4⟩:=hr;refine⟨A,cap,h1,h2,h3,fun i x hi=> ?_⟩;obtain⟨ad,vs,e1,e2,e3,e4⟩:=h4 i x hi;exact⟨ad,vs,e1,e2,fun j v hj=>hk _ _ (e3 j v hj).1 (e3 j v hj).2,h _ _ _ _ _ _ hk e4⟩
theorem V9 {α β:Type}{R:Rel α}{S:Rel β}(h:Zde R) (h':Zde S):Zde (Zbp R S):=fun ok ok' w w' cs xs hk hr=>by
 obtain⟨c,d,h1,h2,h3⟩:=hr;exact⟨c,d,h1,h _ _ _ _ _ _ hk h2,h' _ _ _ _ _ _ hk h3⟩
section
variable {α : Type}{R : Rel α}(hR : Zde R){w w' : Qbe}{cs : List Qbf}{x : α}
include hR
theorem Zde.old (h:R (Old w) w cs x) (hb:Qbq w.heap.size w w'):R (Old w') w' cs x :=
 hR _ _ _ _ _ _ (fun _ _ hp hc=>⟨Qn hp hb.size,(hb.cell hp).trans hc⟩) h
theorem Zde.drop {lo:Nat}(h:R (New lo w) w cs x):R (Old w) w cs x :=
 hR _ _ _ _ _ _ (fun _ _ hp hc=>⟨hp.2.1,hc⟩) h
theorem Zde.new {lo lo':Nat}(h:R (New lo w) w cs x) (hl:lo'<=lo) (hb:Qbq w.heap.size w w'):R (New lo' w') w' cs x :=
 hR _ _ _ _ _ _ (fun _ _ hp hc=>⟨⟨Qm hl hp.1,Qn hp.2.1 hb.size,(hb.frozen hp.2.1).trans hp.2.2⟩,(hb.cell hp.2.1).trans hc⟩) h
end
theorem Zcg (a:Qbg) (i:Nat):a.add (i+1)=⟨(a.add i).block,(a.add i).off+1,none⟩:=by
 unfold Addr.add;by_cases hi:i=0 <;> simp[hi,Qau]
def rBy:Rel (List UInt8):=rSl 1 rU8
theorem Zf:Zde rBy:=Zv Zw7
theorem Zo {ok:Qbg->Prop}{w:Qbe}{v:Qbf}{xs:List UInt8}(h:rBy ok w [v] xs):∃ A cap,v=.slice A xs.length cap/\xs.length<=cap/\cap<=9223372036854775807 /\
  ∀ i,i<xs.length->∃ ad,A=some ad/\ok (ad.add i)/\w.cell? (ad.add i)=some (.int .u8 ((xs[i]?.getD 0).toNat:Int)):=by
 obtain⟨A,cap,h1,h2,h3,h4⟩:=h;refine⟨A,cap,by simpa using h1,h2,h3,fun i hi=> ?_⟩;obtain⟨ad,vs,e1,_,e3,e4⟩:=h4 i _ (Qd hi);unfold rU8 at e4;subst e4;have:=e3 0 _ rfl;rw[Qx,Q8] at this;exact⟨ad,e1,this.1,by rw[this.2,Qd hi];rfl⟩
theorem Xs {ok:Qbg->Prop}{w:Qbe}{B:Nat}{v:Qbf}{xs:List UInt8}(hok:∀ p,ok p->p.block<B) (h:rBy ok w [v] xs):∃ A cap,v=.slice A xs.length cap/\xs.length<=cap/\cap<=9223372036854775807/\Byt w B A xs:=by
 obtain⟨A,cap,h1,h2,h3,h4⟩:=Zo h;refine⟨A,cap,h1,h2,h3,fun hp=> ?_⟩;obtain⟨ad,rfl,hb,_⟩:=h4 0 hp;refine⟨ad,rfl,by have:=hok _ hb;rwa [Zh] at this,fun j hj=> ?_⟩;obtain⟨ad',e,_,hc⟩:=h4 j hj;cases e;exact hc
theorem Zoi {w:Qbe}{A:Option Qbg}{cap:Nat}{xs:List UInt8}(h:Byt w w.heap.size A xs) (hl:xs.length<=cap) (hc:cap<=9223372036854775807):rBy (Old w) w [.slice A xs.length cap] xs:=by
 refine⟨A,cap,rfl,hl,hc,fun i x hi=> ?_⟩;have hil:i<xs.length:=(Qj.1 hi).1;obtain⟨ad,e,hb,hce⟩:=h (by omega);refine⟨ad,[.int .u8 (x.toNat:Int)],e,rfl,fun j v hj=> ?_,rfl⟩;have hj0:j=0:=by
  have:=(Qj.1 hj).1;simp at this;omega
 subst hj0;cases hj;rw[Qx,Q8];exact⟨by unfold Old;rw[Zh];exact hb,by rw[hce i hil,hi];rfl⟩
theorem Zcw {w:Qbe}{base n:Nat}{t:Qbl}{v:Qbf}{xs:List UInt8}(h:w.ownsRow base t 1 v n (u8s xs)):rBy (New base w) w [v] xs:=by{
 have hl:xs.length=n:=by simpa [u8s] using h.1
 subst hl;rcases h.2 with ⟨rfl,h0⟩ | ⟨g,cap,cur,rfl,hbg,hg,hnc,hcm,_,_⟩
 ·have:xs=[]:=Qy h0
  subst this;exact⟨none,0,rfl,by simp,by omega,fun i x hi=>by simp at hi⟩
 ·refine⟨_,cap,rfl,hnc,by unfold maxLen at hcm;exact hcm,fun i x hi=> ?_⟩
  refine⟨_,[.int .u8 (x.toNat:Int)],rfl,rfl,fun j v hj=> ?_,rfl⟩;have hj0:j=0:=by
   have:=(Qj.1 hj).1;simp at this;omega
  subst hj0;cases hj;have hlt:g<w.heap.size:=(Qc.1 hg).1;rw[Qx,Q8];refine⟨⟨by rw[Zh];exact hbg,by rw[Zh];exact hlt,?_⟩,h.cells (g:=g) rfl i _ (by simp[u8s,hi])⟩;simp only[Q9,Zh,hg];simp}
theorem Zde.put {α:Type}{R:Rel α}(hR:Zde R){w:Qbe}{cs:List Qbf}{x:α}{lo:Nat}(h:R (New lo w) w cs x){p:Qbg}(hp:p.block<lo) (u:Qbf):R (New lo (w.setCell p u)) (w.setCell p u) cs x :=
 hR _ _ _ _ _ _ (fun q v hq hc=>by
  have hne:q.block≠p.block:=by have:=hq.1;omega
  have hb:=Qa0 w p u q.block hne
  exact⟨⟨hq.1,by simpa using hq.2.1,(Qac hb).trans hq.2.2⟩,(Pu hb).trans hc⟩) h
theorem Zde.grown {α:Type}{R:Rel α}(hR:Zde R){w w':Qbe}{cs:List Qbf}{x:α}{lo:Nat}{row:Option Nat}(h:R (New lo w) w cs x) (hg:w.grownBy w' row) (hr:∀ q,row=some q->q<lo):R (New lo w') w' cs x :=
 hR _ _ _ _ _ _ (fun q v hq hc=>by
  have hb:=hg.block q.block hq.2.1 (fun e=>by have:=hr _ e.symm;have:=hq.1;omega)
  exact⟨⟨hq.1,Qn hq.2.1 hg.size,(Qac hb).trans hq.2.2⟩,(Pu hb).trans hc⟩) h
theorem Zde.mono {α:Type}{R:Rel α}(hR:Zde R){w:Qbe}{cs:List Qbf}{x:α}{lo lo':Nat}(h:R (New lo w) w cs x) (hl:lo'<=lo):R (New lo' w) w cs x :=
 hR _ _ _ _ _ _ (fun _ _ hq hc=>⟨⟨Qm hl hq.1,hq.2⟩,hc⟩) h
theorem Zqc {α:Type}{R:Rel α}{w:Qbe}{base size n:Nat}{t:Qbl}{v:Qbf}{cs:List Qbf}{xs:List α}(h:w.ownsRow base t size v n cs) (hl:xs.length=n)
  (hx:∀ i x,xs[i]? = some x->∃ vs,vs.length=size/\(∀ j u,vs[j]? = some u->cs[i*size+j]? = some u)/\R (New base w) w vs x):rSl size R (New base w) w [v] xs:=by{
 subst hl;rcases h.2 with ⟨rfl,h0⟩ | ⟨g,cap,cur,rfl,hbg,hg,hnc,hcm,_,_⟩
 ·have:xs=[]:=Qy h0
  subst this;exact⟨none,0,rfl,by simp,by omega,fun i x hi=>by simp at hi⟩
 ·refine⟨_,cap,rfl,hnc,by unfold maxLen at hcm;exact hcm,fun i x hi=> ?_⟩
  obtain⟨vs,h1,h2,h3⟩:=hx i x hi;have hlt:g<w.heap.size:=(Qc.1 hg).1;refine⟨_,vs,rfl,h1,fun j u hj=>⟨⟨by rw[Zh];exact hbg,by rw[Zh];exact hlt,?_⟩,h.cells (g:=g) rfl _ u (h2 j u hj)⟩,h3⟩;simp only[Q9,Zh,hg];simp}
theorem Zld {α:Type}{R:Rel α}{ok:Qbg->Prop}{w:Qbe}{base size n:Nat}{t:Qbl}{v:Qbf}{cs:List Qbf}{xs:List α}(hok:∀ p:Qbg,v.ownBlock=some p.block->New base w p->ok p) (h:w.ownsRow base t size v n cs) (hl:xs.length=n)
  (hx:∀ i x,xs[i]? = some x->∃ vs,vs.length=size/\(∀ j u,vs[j]? = some u->cs[i*size+j]? = some u)/\R ok w vs x):rSl size R ok w [v] xs:=by{
 subst hl;rcases h.2 with ⟨rfl,h0⟩ | ⟨g,cap,cur,rfl,hbg,hg,hnc,hcm,_,_⟩
 ·have:xs=[]:=Qy h0
  subst this;exact⟨none,0,rfl,by simp,by omega,fun i x hi=>by simp at hi⟩
 ·refine⟨_,cap,rfl,hnc,by unfold maxLen at hcm;exact hcm,fun i x hi=> ?_⟩
  obtain⟨vs,h1,h2,h3⟩:=hx i x hi;have hlt:g<w.heap.size:=(Qc.1 hg).1;refine⟨_,vs,rfl,h1,fun j u hj=>⟨hok _ (by rw[Zh];rfl) ⟨by rw[Zh];exact hbg,by rw[Zh];exact hlt,?_⟩,h.cells (g:=g) rfl _ u (h2 j u hj)⟩,h3⟩;simp only[Q9,Zh,hg];simp}
theorem Zes {α:Type}{p:Nat->α->Prop}:∀ {n:Nat},(∀ i,i<n->∃ x,p i x)->∃ xs:List α,xs.length=n/\∀ i x,xs[i]? = some x->p i x
 | 0,_=>⟨[],rfl,fun i x h=>by simp at h⟩
 | n+1,h=>by
  obtain⟨xs,hl,hx⟩:=Zes (n:=n) (p:=p) (fun i hi=>h i (by omega));obtain⟨y,hy⟩:=h n (by omega);refine⟨xs++[y],by simp[hl],fun i x hi=> ?_⟩;rcases Nat.lt_or_ge i n with h1 | h1
  ·rw[Qa1 (by omega)] at hi
   exact hx i x hi
  ·rw[List.getElem?_append_right (by omega)] at hi
   have h2:i=n:=by
    have:=(Qj.1 hi).1;simp at this;omega
   subst h2;rw[hl] at hi;simp at hi;subst hi;exact hy
def Zbo {α:Type}(P:Program) (t:Qbl) (R:Rel α):Prop:=∀ {H:Type} {enc:Qbl×Qbf->H} {w:Qbe} {spare:Nat->Bool} {held:Bool} {fuel:Nat} {cs:List Qbf} {x:DataW H×List MemPlace},
 DataW.trod enc P w 0 spare held fuel t cs=some x->∃ a,R (Old w) w cs a
theorem Zf8 {P:Program}{t:Qbl}{k:IntKind}(ht:P.underlying t=some (.int k)):Zbo P t (rK k):=fun h=>by
 obtain⟨n,rfl,_,hw⟩:=DataW.trod_int ht h;exact⟨n,rfl,by simpa [Lit.wf] using hw⟩
theorem Zo2 {P:Program}{t:Qbl}(ht:P.underlying t=some (.int .u8)):Zbo P t rU8:=fun h=>by
 obtain⟨n,rfl,_,hw⟩:=DataW.trod_int ht h;have hw':0<=n/\n<=255:=by simpa [Lit.wf,IntKind.min,IntKind.max,IntKind.signed,IntKind.bits] using hw
 refine⟨UInt8.ofNat n.toNat,?_⟩;unfold rU8;have:((UInt8.ofNat n.toNat).toNat:Int)=n:=by
  rw[UInt8.toNat_ofNat'];omega
 rw[this]
theorem Zd5 {α:Type}{P:Program}{t e:Qbl}{n:Nat}{R:Rel α}(ht:P.underlying t=some (.slice e)) (hc:P.cellsOf e=n) (hE:Zbo P e R):Zbo P t (rSl n R):=fun {H enc w spare held fuel cs x} h=>by
 rcases Go.Deep.open_slice ht h with ⟨rfl,_⟩ | ⟨a,len,cap,m,n',D,Pl,rfl,_,hlc,hcm,hm,_,hi⟩
 ·exact⟨[],none,0,rfl,by simp,by omega,fun i x hi=>by simp at hi⟩
 ·have hlm:len<=m:=by rw[hm];split <;> omega
  obtain⟨xs,hl,hx⟩:=Zes (n:=len) (p:=fun i x=>∃ vs:List Qbf,vs.length=n/\(∀ j v,vs[j]? = some v->Old w (a.add (i*n+j))/\w.cell? (a.add (i*n+j))=some v)/\R (Old w) w vs x) (fun i hil=>by
   obtain⟨cs',hcs,htr⟩:=hi i (by omega);obtain⟨y,hy⟩:=hE htr;rw[hc] at hcs;obtain⟨_,hcl,hat⟩:=World.cells?_some hcs;refine⟨y,cs',hcl,fun j v hj=> ?_,hy⟩;have hjl:j<n:=by rw[<- hcl];exact(Qj.1 hj).1
   have hce:=hat j hjl;rw[Go.Deep.add_add,hj] at hce
   exact⟨Qv w _ hce,hce⟩)
  refine⟨xs,some a,cap,by rw[hl],by omega,by unfold maxLen at hcm;exact hcm,fun i x hix=> ?_⟩;obtain⟨vs,h1,h2,h3⟩:=hx i x hix;exact⟨a,vs,rfl,h1,h2,h3⟩
theorem Zig {α β:Type}{P:Program}{t:Qbl}{f0 f1:Field}{R:Rel α}{S:Rel β}(ht:P.underlying t=some (.struct #[f0,f1])) (h0:f0.offset=0) (h1:f1.offset=P.cellsOf f0.type) (hC:P.cellsOf t=P.cellsOf f0.type+P.cellsOf f1.type)
  (hR:Zbo P f0.type R) (hS:Zbo P f1.type S):Zbo P t (Zbp R S):=fun {H enc w spare held fuel cs x} h=>by
 obtain⟨ys,n,_,_,hl,hys,hf⟩:=DataW.trod_struct ht h;have e0:=hf 0 f0 rfl;have e1:=hf 1 f1 rfl;rw[h0,List.drop_zero,Qd (by rw[hys];simp)] at e0;rw[h1,Qd (by rw[hys];simp),Qw (by simp;omega)] at e1;obtain⟨a,ha⟩:=hR e0;obtain⟨b,hb⟩:=hS e1;exact⟨(a,b),_,_,(Pa _ _).symm,ha,hb⟩
theorem Zyd {α:Type}{H:Type}{enc:Qbl×Qbf->H}{P:Program}{w:Qbe}{spare:Nat->Bool}{held:Bool}{t:Qbl}{v:Qbf}{d:DataW H}{ps:List MemPlace}{R:Rel α}(hR:Zbo P t R) (hd:DataW.Trod enc P w 0 spare held t v d ps) :
  ∃ a,R (Old w) w v.cells.toList a:=by
 obtain⟨fuel,hf⟩:=hd;exact hR hf
end Go.Proofs.YtmafkphcfkhokaaGreat
namespace Go.Proofs.YtmafkphcfkhokaaGreat
open Go.ChangeShapes Go.WideShapes Go.RowKit
abbrev Wt:=Int×List UInt8
abbrev Dk:=List (List UInt8)×List Wt
def rWt:Rel Wt:=Zbp (rK .i64) rBy
def Z4w:Rel Dk:=Zbp (rSl 1 rBy) (rSl 2 rWt)
theorem Zvp:Zde rWt:=V9 (Xk _) Zf
theorem Zxu {ok:Qbg->Prop}{w:Qbe}{cs:List Qbf}{x:Wt}(h:rWt ok w cs x):∃ v,cs=[.int .i64 x.1,v] /\ -9223372036854775808<=x.1/\x.1<=9223372036854775807/\rBy ok w [v] x.2:=by
 obtain⟨c,d,rfl,⟨rfl,h1,h2⟩,h3⟩:=h;obtain⟨A,cap,rfl,h4⟩:=h3;exact⟨_,rfl,by simpa [IntKind.min,IntKind.signed,IntKind.bits] using h1,by simpa [IntKind.max,IntKind.signed,IntKind.bits] using h2,A,cap,rfl,h4⟩
theorem Z5s {ok:Qbg->Prop}{w:Qbe}{v:Qbf}{n:Int}{xs:List UInt8}(h1 : -9223372036854775808<=n) (h2:n<=9223372036854775807) (h:rBy ok w [v] xs):rWt ok w [.int .i64 n,v] (n,xs) :=
 ⟨[.int .i64 n],[v],rfl,⟨rfl,by simpa [IntKind.min,IntKind.signed,IntKind.bits] using h1,by simpa [IntKind.max,IntKind.signed,IntKind.bits] using h2⟩,h⟩
theorem Zad {ok:Qbg->Prop}{w:Qbe}{cs:List Qbf}{xss:List (List UInt8)}(h:rSl 1 rBy ok w cs xss):∃ A cap,cs=[.slice A xss.length cap]/\xss.length<=cap/\cap<=9223372036854775807 /\
  ∀ i x,xss[i]? = some x->∃ ad v,A=some ad/\ok (ad.add i)/\w.cell? (ad.add i)=some v/\rBy ok w [v] x:=by{
 obtain⟨A,cap,h1,h2,h3,h4⟩:=h;refine⟨A,cap,h1,h2,h3,fun i x hi=> ?_⟩;obtain⟨ad,vs,e1,e2,e3,e4⟩:=h4 i x hi
 match vs,e2 with
 | [v],_ =>
  have:=e3 0 v rfl;rw[Qx,Q8] at this;exact⟨ad,v,e1,this.1,this.2,e4⟩}
theorem Zps {ok:Qbg->Prop}{w:Qbe}{cs:List Qbf}{ws:List Wt}(h:rSl 2 rWt ok w cs ws):∃ A cap,cs=[.slice A ws.length cap]/\ws.length<=cap/\cap<=9223372036854775807 /\
  ∀ i x,ws[i]? = some x->∃ ad v,A=some ad/\ok (ad.add (i*2))/\ok (ad.add (i*2+1))/\w.cell? (ad.add (i*2))=some (.int .i64 x.1)/\w.cell? (ad.add (i*2+1))=some v/\rBy ok w [v] x.2 /\ -9223372036854775808<=x.1/\x.1<=9223372036854775807:=by
 obtain⟨A,cap,h1,h2,h3,h4⟩:=h;refine⟨A,cap,h1,h2,h3,fun i x hi=> ?_⟩;obtain⟨ad,vs,e1,e2,e3,e4⟩:=h4 i x hi;obtain⟨v,rfl,b1,b2,hv⟩:=Zxu e4;have a0:=e3 0 _ rfl;have a1:=e3 1 _ rfl;rw[Q8] at a0;exact⟨ad,v,e1,a0.1,a1.1,a0.2,a1.2,hv,b1,b2⟩
def Dsk (ok:Qbg->Prop) (w:Qbe) (v:Qbf) (d:Dk):Prop:=∃ a b,v=.agg #[a,b]/\rSl 1 rBy ok w [a] d.1/\rSl 2 rWt ok w [b] d.2
theorem Dsk.map {ok ok':Qbg->Prop}{w w':Qbe}{v:Qbf}{d:Dk}(hk:∀ p v,ok p->w.cell? p=some v->ok' p/\w'.cell? p=some v) (h:Dsk ok w v d):Dsk ok' w' v d:=by
 obtain⟨a,b,e,h1,h2⟩:=h;exact⟨a,b,e,Zv Zf _ _ _ _ _ _ hk h1,Zv Zvp _ _ _ _ _ _ hk h2⟩
theorem Dsk.below {w w':Qbe}{v:Qbf}{d:Dk}(h:Dsk (Old w) w v d) (hb:Qbq w.heap.size w w'):Dsk (Old w') w' v d :=
 h.map fun _ _ hp hc=>⟨Qn hp hb.size,(hb.cell hp).trans hc⟩
theorem Dsk.new {lo lo':Nat}{w w':Qbe}{v:Qbf}{d:Dk}(h:Dsk (New lo w) w v d) (hl:lo'<=lo) (hb:Qbq w.heap.size w w'):Dsk (New lo' w') w' v d :=
 h.map fun _ _ hp hc=>⟨⟨Qm hl hp.1,Qn hp.2.1 hb.size,(hb.frozen hp.2.1).trans hp.2.2⟩,(hb.cell hp.2.1).trans hc⟩
theorem Dsk.open {ok:Qbg->Prop}{w:Qbe}{v:Qbf}{d:Dk}(h:Dsk ok w v d):∃ A c B e,v=.agg #[.slice A d.1.length c,.slice B d.2.length e]/\d.1.length<=c/\c<=9223372036854775807/\d.2.length<=e/\e<=9223372036854775807 /\
  (∀ i x,d.1[i]? = some x->∃ ad v,A=some ad/\ok (ad.add i)/\w.cell? (ad.add i)=some v/\rBy ok w [v] x) /\
  (∀ i x,d.2[i]? = some x->∃ ad v,B=some ad/\ok (ad.add (i*2))/\ok (ad.add (i*2+1))/\w.cell? (ad.add (i*2))=some (.int .i64 x.1)/\w.cell? (ad.add (i*2+1))=some v/\rBy ok w [v] x.2 /\ -9223372036854775808<=x.1/\x.1<=9223372036854775807):=by
 obtain⟨a,b,rfl,h1,h2⟩:=h;obtain⟨A,c,e1,l1,m1,k1⟩:=Zad h1;obtain⟨B,e,e2,l2,m2,k2⟩:=Zps h2;cases e1;cases e2;exact⟨A,c,B,e,rfl,l1,m1,l2,m2,k1,k2⟩
def wtB (x:Wt):Bool:=decide (0<=x.1)&&decide (x.1<256)&&decide (x.2.length=128)
def byB (x:List UInt8):Bool:=decide (x.length=128)
def Zap (d:Dk):Bool:=decide (d.1.length=256)&&decide (d.2.length<=4096)&&d.1.all byB&&d.2.all wtB
def chk (d:Dk):Int:=if Zap d then 0 else 8
theorem Zc7 {d:Dk}(h:Zap d=false):chk d=8:=by simp[chk,h]
theorem Zu6 {d:Dk}(h:Zap d=true):chk d=0:=by simp[chk,h]
theorem Zwc {α:Type}{p:α->Bool}{xs:List α}(h:xs.all p=true){k:Nat}{x:α}(hk:xs[k]? = some x):p x=true:=Qp.1 h x (Pv hk)
theorem Zvr {α:Type}{p:α->Bool}{xs:List α}{k:Nat}{x:α}(hk:xs[k]? = some x) (h:p x=false):xs.all p=false:=by
 cases ha:xs.all p with
 | false=>rfl
 | true=>rw[Zwc ha hk] at h;cases h
theorem Zpr {α:Type}{p:α->Bool}{xs:List α}{k:Nat}{x:α}(h:(xs.take k).all p=true) (hk:xs[k]? = some x) (hx:p x=true):(xs.take (k+1)).all p=true:=by
 rw[Qad,hk];simp[h,hx]
theorem Zx2 {d:Dk}(h:d.1.length≠256):Zap d=false:=by simp[Zap,h]
theorem Z0b {d:Dk}(h:4096<d.2.length):Zap d=false:=by
 have:decide (d.2.length<=4096)=false:=by simpa using h
 simp[Zap,this]
theorem Zu9 {d:Dk}{k:Nat}{x:List UInt8}(hk:d.1[k]? = some x) (h:x.length≠128):Zap d=false:=by
 have:d.1.all byB=false:=Zvr hk (by simp[byB,h]);rw[Zap,this];simp
theorem Zwh {x:Wt}(h:0<=x.1) (h':x.1<256) (h'':x.2.length=128):wtB x=true:=by simp[wtB,h,h',h'']
theorem Zpw {d:Dk}{k:Nat}{x:Wt}(hk:d.2[k]? = some x) (h:wtB x=false):Zap d=false:=by
 have:d.2.all wtB=false:=Zvr hk h;rw[Zap,this];simp
theorem Zw8 {d:Dk}(h1:d.1.length=256) (h2:d.2.length<=4096) (h3:d.1.all byB=true) (h4:d.2.all wtB=true):Zap d=true:=by simp[Zap,h1,h2,h3,h4]
theorem Zg0 {d:Dk}(h:Zap d=true):d.1.length=256/\d.2.length<=4096/\(∀ (k:Nat) (x:List UInt8),d.1[k]? = some x->x.length=128)/\∀ (k:Nat) (x:Wt),d.2[k]? = some x->0<=x.1/\x.1<256/\x.2.length=128:=by
 simp only[Zap,Qi,decide_eq_true_eq] at h;obtain⟨⟨⟨h1,h2⟩,h3⟩,h4⟩:=h;refine⟨h1,h2,fun k x hk=>by simpa [byB] using Zwc h3 hk,fun k x hk=> ?_⟩;have:=Zwc h4 hk;simp only[wtB,Qi,decide_eq_true_eq] at this;exact⟨this.1.1,this.1.2,this.2⟩
theorem Zpk:Zbo Tryz.prog 27 rBy:=Zd5 Tryz.underlying27 (by kernel_rfl) (Zo2 Tryz.underlying5)
theorem Zzv:Zbo Tryz.prog 98 rWt:=Zig Tryz.underlying98 rfl (by kernel_rfl) (by kernel_rfl) (Zf8 Tryz.underlying3) Zpk
theorem Zr7:Zbo Tryz.prog 26 Z4w:=Zig Tryz.underlying26 rfl (by kernel_rfl) (by kernel_rfl) (Zd5 Tryz.underlying23 (by kernel_rfl) Zpk) (Zd5 Tryz.underlying24 (by kernel_rfl) Zzv)
def Xr (ps:List (Int×Qbf)):List Qbf:=ps.flatMap fun p=>[.int .i64 p.1,p.2]
theorem Vf (ps:List (Int×Qbf)):(Xr ps).length=ps.length*2:=by
 induction ps with
 | nil=>rfl
 | cons p r ih=>simp only[Xr,List.flatMap_cons,Qa2,Qq,Qz] at ih ⊢;omega
theorem Zcd {ps:List (Int×Qbf)}{i:Nat}{p:Int×Qbf}(h:ps[i]? = some p):(Xr ps)[i*2]? = some (.int .i64 p.1)/\(Xr ps)[i*2+1]? = some p.2:=by{
 induction ps generalizing i with
 | nil=>simp at h
 | cons q r ih =>
  cases i with
  | zero=>simp at h;subst h;exact⟨rfl,rfl⟩
  | succ i =>
   have:=ih (i:=i) (by simpa using h);have e1:(i+1)*2=i*2+1+1:=by omega
   rw[e1];exact this}
theorem Zrz {ps:List (Int×Qbf)}{i:Nat}{p:Int×Qbf}(h:ps[i]? = some p) (u:Qbf):(Xr ps).set (i*2+1) u=Xr (ps.set i (p.1,u)):=by{
 induction ps generalizing i with
 | nil=>simp at h
 | cons q r ih =>
  cases i with
  | zero=>simp at h;subst h;rfl
  | succ i =>
   have:=ih (i:=i) (by simpa using h);have e1:(i+1)*2+1=i*2+1+1+1:=by omega
   rw[e1];show Value.int .i64 q.1::q.2::(Xr r).set (i*2+1) u=.int .i64 q.1::q.2::Xr (r.set i (p.1,u));rw[this]}
theorem Zkl (ps qs:List (Int×Qbf)):Xr (ps++qs)=Xr ps++Xr qs:=by simp[Xr]
theorem Zrg {w:Qbe}{A:Option Qbg}{xss:List (List UInt8)}(h:∀ i x,xss[i]? = some x->∃ ad v,A=some ad/\Old w (ad.add i)/\w.cell? (ad.add i)=some v/\rBy (Old w) w [v] x) :
  ∃ vs:List Qbf,vs.length=xss.length/\(∀ j v,vs[j]? = some v->∃ ad,A=some ad/\ad.block<w.heap.size/\w.cell? (ad.add j)=some v)/\(∀ u∈vs,u.oneCell'=true)/\∀ (i:Nat) (v:Qbf) (x:List UInt8),vs[i]? = some v->xss[i]? = some x->rBy (Old w) w [v] x:=by{
 obtain⟨vs,hl,hv⟩:=Zes (n:=xss.length) (p:=fun i v=>∃ ad,A=some ad/\ad.block<w.heap.size/\w.cell? (ad.add i)=some v/\v.oneCell'=true/\∀ x,xss[i]? = some x->rBy (Old w) w [v] x) (fun i hi=>by
  obtain⟨ad,v,e,ho,hc,hb⟩:=h i _ (Qd hi);obtain⟨E,c,rfl,_⟩:=Zo hb;refine⟨_,ad,e,by unfold Old at ho;rwa [Zh] at ho,hc,rfl,fun x hx=> ?_⟩;rw[Qd hi] at hx;cases hx
  exact hb)
 refine⟨vs,hl,fun j v hj=> ?_,fun u hu=> ?_,fun i v x hi hx=> ?_⟩
 ·obtain⟨ad,e,hb,hc,_⟩:=hv j v hj
  exact⟨ad,e,hb,hc⟩
 ·obtain⟨j,hj⟩:=Pd hu
  obtain⟨_,_,_,_,h1,_⟩:=hv j u hj;exact h1
 ·obtain⟨_,_,_,_,_,h1⟩:=hv i v hi
  exact h1 x hx}
theorem Zuu {w:Qbe}{B:Option Qbg}{ws:List Wt}(h:∀ i x,ws[i]? = some x->∃ ad v,B=some ad/\Old w (ad.add (i*2))/\Old w (ad.add (i*2+1))/\w.cell? (ad.add (i*2))=some (.int .i64 x.1)/\w.cell? (ad.add (i*2+1))=some v/\rBy (Old w) w [v] x.2 /\ -9223372036854775808<=x.1/\x.1<=9223372036854775807) :
  ∃ ps:List (Int×Qbf),ps.length=ws.length/\(∀ j v,(Xr ps)[j]? = some v->∃ ad,B=some ad/\ad.block<w.heap.size/\w.cell? (ad.add j)=some v)/\(∀ u∈Xr ps,u.oneCell'=true) /\
   ∀ (i:Nat) (p:Int×Qbf) (x:Wt),ps[i]? = some p->ws[i]? = some x->p.1=x.1/\rBy (Old w) w [p.2] x.2 /\ -9223372036854775808<=x.1/\x.1<=9223372036854775807:=by{
 obtain⟨ps,hl,hv⟩:=Zes (n:=ws.length) (p:=fun i (p:Int×Qbf)=>∃ ad,B=some ad/\ad.block<w.heap.size/\w.cell? (ad.add (i*2))=some (.int .i64 p.1)/\w.cell? (ad.add (i*2+1))=some p.2/\p.2.oneCell'=true/\∀ x,ws[i]? = some x->p.1=x.1/\rBy (Old w) w [p.2] x.2 /\ -9223372036854775808<=x.1/\x.1<=9223372036854775807) (fun i hi=>by
  obtain⟨ad,v,e,ho,_,hc,hc2,hb,b1,b2⟩:=h i _ (Qd hi);obtain⟨E,c,rfl,_⟩:=Zo hb;refine⟨(ws[i].1,_),ad,e,by unfold Old at ho;rwa [Zh] at ho,hc,hc2,rfl,fun x hx=> ?_⟩;rw[Qd hi] at hx;cases hx
  exact⟨rfl,hb,b1,b2⟩)
 refine⟨ps,hl,fun j v hj=> ?_,fun u hu=> ?_,fun i p x hi hx=> ?_⟩
 ·have hjl:j<ps.length*2:=by rw[<- Vf];exact(Qj.1 hj).1
  have hp:ps[j / 2]? = some (ps[j / 2]'(by omega)):=Qd _;obtain⟨ad,e,hb,hc,hc2,_⟩:=hv _ _ hp;obtain⟨g1,g2⟩:=Zcd hp;rcases Nat.mod_two_eq_zero_or_one j with h0 | h0
  ·rw[show j / 2*2=j by omega] at g1 hc
   rw[hj] at g1;cases g1;exact⟨ad,e,hb,hc⟩
  ·rw[show j / 2*2+1=j by omega] at g2 hc2
   rw[hj] at g2;cases g2;exact⟨ad,e,hb,hc2⟩
 ·simp only[Xr,List.mem_flatMap] at hu
  obtain⟨p,hp,hu⟩:=hu;obtain⟨j,hj⟩:=Pd hp;obtain⟨_,_,_,_,_,h1,_⟩:=hv j p hj;simp at hu;rcases hu with rfl | rfl
  ·rfl
  ·exact h1
 ·obtain⟨_,_,_,_,_,_,h1⟩:=hv i p hi
  exact h1 x hx}
theorem Zz7 {w:Qbe}{base n:Nat}{t:Qbl}{v:Qbf}{vs:List Qbf}{xss:List (List UInt8)}(h:w.ownsRow base t 1 v n vs) (hl:xss.length=n) (hx:∀ (i:Nat) (u:Qbf) (x:List UInt8),vs[i]? = some u->xss[i]? = some x->rBy (New base w) w [u] x):rSl 1 rBy (New base w) w [v] xss:=by{
 refine Zqc h hl fun i x hi=> ?_
 have hil:i<vs.length:=by rw[h.1,Qx,<- hl];exact(Qj.1 hi).1
 refine⟨[vs[i]],rfl,fun j u hj=> ?_,hx i _ x (Qd hil) hi⟩;have hj0:j=0:=by
  have:=(Qj.1 hj).1;simp at this;omega
 subst hj0;cases hj;simp}
theorem Zu4 {w:Qbe}{base n:Nat}{t:Qbl}{v:Qbf}{ps:List (Int×Qbf)}{ws:List Wt}(h:w.ownsRow base t 2 v n (Xr ps)) (hl:ws.length=n)
  (hx:∀ (i:Nat) (p:Int×Qbf) (x:Wt),ps[i]? = some p->ws[i]? = some x->p.1=x.1/\rBy (New base w) w [p.2] x.2 /\ -9223372036854775808<=x.1/\x.1<=9223372036854775807):rSl 2 rWt (New base w) w [v] ws:=by{
 have hpl:ps.length=n:=by
  have:=h.1;rw[Vf] at this;omega
 refine Zqc h hl fun i x hi=> ?_
 have hil:i<ps.length:=by rw[hpl,<- hl];exact(Qj.1 hi).1
 have hp:ps[i]? = some ps[i]:=Qd hil;obtain⟨g1,g2⟩:=Zcd hp;obtain⟨e,hb,b1,b2⟩:=hx i _ x hp hi;refine⟨[.int .i64 x.1,ps[i].2],rfl,fun j u hj=> ?_,Z5s b1 b2 hb⟩
 match j,hj with
 | 0,hj=>cases hj;rw[<- e];exact g1
 | 1,hj=>cases hj;exact g2}
theorem Znp {ok:Qbg->Prop}{w:Qbe}{base n:Nat}{t:Qbl}{v:Qbf}{vs:List Qbf}{xss:List (List UInt8)}(hok:∀ p:Qbg,v.ownBlock=some p.block->New base w p->ok p) (h:w.ownsRow base t 1 v n vs) (hl:xss.length=n) (hx:∀ (i:Nat) (u:Qbf) (x:List UInt8),vs[i]? = some u->xss[i]? = some x->rBy ok w [u] x):rSl 1 rBy ok w [v] xss:=by{
 refine Zld hok h hl fun i x hi=> ?_
 have hil:i<vs.length:=by rw[h.1,Qx,<- hl];exact(Qj.1 hi).1
 refine⟨[vs[i]],rfl,fun j u hj=> ?_,hx i _ x (Qd hil) hi⟩;have hj0:j=0:=by
  have:=(Qj.1 hj).1;simp at this;omega
 subst hj0;cases hj;simp}
end Go.Proofs.YtmafkphcfkhokaaGreat
namespace Go.Proofs.YtmafkphcfkhokaaGreat.Rb
open Go.RowKit
abbrev Env:=List (Option Tmp×(Qbe->Prop))
def doesUpon (P:Program) (R:Qbf->Qbe->Prop):Result Next->Prop
 | .ok (.value v) w'=>R v w'
 | .ok .skip w'=>R Qbo w'
 | .ok (.enter f args) w'=>Qbp P f args w' (fun e w''=>∃ v,e=.returned v/\R v w'')
 | _=>False
def seen (ops:Array Qbi) (o:Qbi) (w:Qbe):Env->Prop
 | []=>True
 | p::r=>(∀ d,p.1=some d->(o.looksAt ops).contains d=true->p.2 w)/\seen ops o w r
def envAdd (d:Option Tmp) (p:Qbe->Prop) (env:Env):Env:=(d,p)::env
def holds (w:Qbe):Env->Prop
 | []=>True
 | p::r=>p.2 w/\holds w r
def wpAs (Kr:Qbe->Qbe->Prop) (P:Program) (ops:Array Qbi) (C:Qbe->Prop) (phi:Nat->Option (Qbf->Qbe->Prop)) (fx:Nat->Option Qbf) (Q:Qbk->Qbe->Prop):Nat->List Qbi->Qbk->Env->Prop
 | _,[],a,env=>∀ w,C w->holds w env->Q a w
 | i,o::rest,a,env =>
  if Qa o (yielded ops a.tmps)=true then
   match phi i with
   | none =>
    match fx i with
    | none=>∃ v,(∀ w,C w->seen ops o w env->(execOp a.eval o).run P w=.ok (.value v) w)/\wpAs Kr P ops C phi fx Q (i+1) rest (a.put o.dst v) env
    | some u=>(∀ w,C w->seen ops o w env->doesUpon P (fun v w'=>v=u/\Kr w w') ((execOp a.eval o).run P w))/\wpAs Kr P ops C phi fx Q (i+1) rest (a.put o.dst u) env
   | some φ=>(∀ w,C w->seen ops o w env->doesUpon P (fun v w'=>φ v w'/\Kr w w') ((execOp a.eval o).run P w)) /\
     ∀ v,wpAs Kr P ops C phi fx Q (i+1) rest (a.put o.dst v) (envAdd o.dst (φ v) env)
  else wpAs Kr P ops C phi fx Q (i+1) rest (a.put o.dst Qbo) env
section
variable {Kr : Qbe -> Qbe -> Prop}{P : Program}{ops : Array Qbi}{C : Qbe -> Prop}{phi : Nat -> Option (Qbf -> Qbe -> Prop)}{fx : Nat -> Option Qbf}{Q : Qbk -> Qbe -> Prop}
theorem wpAs_skip {i:Nat}{o:Qbi}{rest:List Qbi}{a:Qbk}{env:Env}(hw:Qa o (yielded ops a.tmps)=false) (h:wpAs Kr P ops C phi fx Q (i+1) rest (a.put o.dst Qbo) env):wpAs Kr P ops C phi fx Q i (o::rest) a env:=by
 unfold wpAs;rw[if_neg (by rw[hw];exact Qae)];exact h
theorem wpAs_fixed {i:Nat}{o:Qbi}{rest:List Qbi}{a:Qbk}{env:Env}{u:Qbf}(hw:Qa o (yielded ops a.tmps)=true) (hp:phi i=none) (hf:fx i=some u)
  (hv:∀ w,C w->seen ops o w env->doesUpon P (fun v w'=>v=u/\Kr w w') ((execOp a.eval o).run P w)) (h:wpAs Kr P ops C phi fx Q (i+1) rest (a.put o.dst u) env):wpAs Kr P ops C phi fx Q i (o::rest) a env:=by
 unfold wpAs;rw[if_pos hw,hp];simp only[hf];exact⟨hv,h⟩
theorem wpAs_pure {i:Nat}{o:Qbi}{rest:List Qbi}{a:Qbk}{env:Env}{v:Qbf}(hw:Qa o (yielded ops a.tmps)=true) (hp:phi i=none)
  (hv:∀ w,C w->seen ops o w env->(execOp a.eval o).run P w=.ok (.value v) w) (h:wpAs Kr P ops C phi fx Q (i+1) rest (a.put o.dst v) env) (hf:fx i=none:=by rfl):wpAs Kr P ops C phi fx Q i (o::rest) a env:=by
 unfold wpAs;rw[if_pos hw,hp];simp only[hf];exact⟨v,hv,h⟩
theorem wpAs_act {i:Nat}{o:Qbi}{rest:List Qbi}{a:Qbk}{env:Env}{φ:Qbf->Qbe->Prop}(hw:Qa o (yielded ops a.tmps)=true) (hp:phi i=some φ)
  (hv:∀ w,C w->seen ops o w env->doesUpon P (fun v w'=>φ v w'/\Kr w w') ((execOp a.eval o).run P w)) (h:∀ v,wpAs Kr P ops C phi fx Q (i+1) rest (a.put o.dst v) (envAdd o.dst (φ v) env)):wpAs Kr P ops C phi fx Q i (o::rest) a env:=by
 unfold wpAs;rw[if_pos hw,hp];exact⟨hv,h⟩
theorem wpAs_end {i:Nat}{a:Qbk}{env:Env}(h:∀ w,C w->holds w env->Q a w):wpAs Kr P ops C phi fx Q i [] a env:=h
open Classical in
def Uy (Kr:Qbe->Qbe->Prop) (P:Program) (ops:Array Qbi) (C:Qbe->Prop) (phi:Nat->Option (Qbf->Qbe->Prop)) (fx:Nat->Option Qbf) (Q:Qbk->Qbe->Prop) (c:Nat->Qbf) (i:Nat) (o:Qbi) (s:Qbk×Env):Qbf :=
 if Qa o (yielded ops s.1.tmps)=true then
  match phi i with
  | none =>
   match fx i with
   | some u=>u
   | none=>Classical.epsilon fun v=>(∀ w,C w->seen ops o w s.2->(execOp s.1.eval o).run P w=.ok (.value v) w)/\wpAs Kr P ops C phi fx Q (i+1) (ops.toList.drop (i+1)) (s.1.put o.dst v) s.2
  | some _=>c i
 else Qbo
def envAs (ops:Array Qbi) (phi:Nat->Option (Qbf->Qbe->Prop)) (c:Nat->Qbf) (i:Nat) (o:Qbi) (s:Qbk×Env):Env :=
 if Qa o (yielded ops s.1.tmps)=true then
  match phi i with
  | none=>s.2
  | some φ=>envAdd o.dst (φ (c i)) s.2
 else s.2
def Ys (Kr:Qbe->Qbe->Prop) (P:Program) (ops:Array Qbi) (C:Qbe->Prop) (phi:Nat->Option (Qbf->Qbe->Prop)) (fx:Nat->Option Qbf) (Q:Qbk->Qbe->Prop) (a0:Qbk) (c:Nat->Qbf):Nat->Qbk×Env
 | 0=>(a0,[])
 | i+1 =>
  match ops[i]? with
  | some o=>((Ys Kr P ops C phi fx Q a0 c i).1.put o.dst (Uy Kr P ops C phi fx Q c i o (Ys Kr P ops C phi fx Q a0 c i)),envAs ops phi c i o (Ys Kr P ops C phi fx Q a0 c i))
  | none=>Ys Kr P ops C phi fx Q a0 c i
theorem Vg {a0:Qbk}(h0:wpAs Kr P ops C phi fx Q 0 ops.toList a0 []) (c:Nat->Qbf):∀ i,i<=ops.size ->
  wpAs Kr P ops C phi fx Q i (ops.toList.drop i) (Ys Kr P ops C phi fx Q a0 c i).1 (Ys Kr P ops C phi fx Q a0 c i).2:=by{
 intro i
 induction i with
 | zero=>intro _;simpa [Ys] using h0
 | succ i ih =>
  intro hi;have h:=ih (by omega);have hd:ops.toList.drop i=ops[i]'(by omega)::ops.toList.drop (i+1):=by
   rw[Qu (by simp;omega)];simp
  have ho:ops[i]? = some (ops[i]'(by omega)):=Qt (by omega);rw[hd] at h;generalize hs:Ys Kr P ops C phi fx Q a0 c i=s at *;generalize ops[i]'(by omega)=o at *;have e1:Ys Kr P ops C phi fx Q a0 c (i+1)=(s.1.put o.dst (Uy Kr P ops C phi fx Q c i o s),envAs ops phi c i o s):=by
   simp only[Ys,ho,hs]
  rw[e1];unfold wpAs at h;unfold Uy envAs;by_cases hw:Qa o (yielded ops s.1.tmps)=true
  ·simp only[if_pos hw] at h ⊢
   cases hp:phi i with
   | none =>
    cases hf:fx i with
    | none =>
     simp only[hp,hf] at h ⊢;exact(Classical.epsilon_spec h).2
    | some u =>
     simp only[hp,hf] at h ⊢;exact h.2
   | some φ =>
    simp only[hp] at h ⊢;exact h.2 _
  ·simp only[if_neg hw] at h ⊢
   exact h}
theorem Zaw {a0:Qbk}(h0:wpAs Kr P ops C phi fx Q 0 ops.toList a0 []) (c:Nat->Qbf){i:Nat}{o:Qbi}(ho:ops[i]? = some o) (hw:Qa o (yielded ops (Ys Kr P ops C phi fx Q a0 c i).1.tmps)=true) (hp:phi i=none) (hf:fx i=none) :
  ∀ w,C w->seen ops o w (Ys Kr P ops C phi fx Q a0 c i).2->(execOp (Ys Kr P ops C phi fx Q a0 c i).1.eval o).run P w=.ok (.value (Uy Kr P ops C phi fx Q c i o (Ys Kr P ops C phi fx Q a0 c i))) w:=by
 have hi:i<ops.size:=(Qc.1 ho).1;have h:=Vg h0 c i (by omega);have hd:ops.toList.drop i=o::ops.toList.drop (i+1):=by
  rw[Qu (by simp;omega)];have:=(Qc.1 ho).2;simp[this]
 rw[hd] at h;unfold wpAs at h;simp only[if_pos hw,hp,hf] at h;unfold Uy;simp only[if_pos hw,hp,hf];exact(Classical.epsilon_spec h).1
theorem Zdg {a0:Qbk}(h0:wpAs Kr P ops C phi fx Q 0 ops.toList a0 []) (c:Nat->Qbf){i:Nat}{o:Qbi}(ho:ops[i]? = some o) (hw:Qa o (yielded ops (Ys Kr P ops C phi fx Q a0 c i).1.tmps)=true) (hp:phi i=none){u:Qbf}(hf:fx i=some u) :
  ∀ w,C w->seen ops o w (Ys Kr P ops C phi fx Q a0 c i).2->doesUpon P (fun v w'=>v=u/\Kr w w') ((execOp (Ys Kr P ops C phi fx Q a0 c i).1.eval o).run P w):=by
 have hi:i<ops.size:=(Qc.1 ho).1;have h:=Vg h0 c i (by omega);have hd:ops.toList.drop i=o::ops.toList.drop (i+1):=by
  rw[Qu (by simp;omega)];have:=(Qc.1 ho).2;simp[this]
 rw[hd] at h;unfold wpAs at h;simp only[if_pos hw,hp,hf] at h;exact h.1
theorem Zgx {a0:Qbk}(h0:wpAs Kr P ops C phi fx Q 0 ops.toList a0 []) (c:Nat->Qbf){i:Nat}{o:Qbi}{φ:Qbf->Qbe->Prop}(ho:ops[i]? = some o) (hw:Qa o (yielded ops (Ys Kr P ops C phi fx Q a0 c i).1.tmps)=true) (hp:phi i=some φ) :
  ∀ w,C w->seen ops o w (Ys Kr P ops C phi fx Q a0 c i).2->doesUpon P (fun v w'=>φ v w'/\Kr w w') ((execOp (Ys Kr P ops C phi fx Q a0 c i).1.eval o).run P w):=by
 have hi:i<ops.size:=(Qc.1 ho).1;have h:=Vg h0 c i (by omega);have hd:ops.toList.drop i=o::ops.toList.drop (i+1):=by
  rw[Qu (by simp;omega)];have:=(Qc.1 ho).2;simp[this]
 rw[hd] at h;unfold wpAs at h;simp only[if_pos hw,hp] at h;exact h.1
def leans (ops:Array Qbi) (i j:Nat):Bool:=((ops[i]?).map fun o=>o.after.any fun e=>Qg .any e&&e.on==j).getD false
def okAs (ops:Array Qbi) (size:Nat):Bool :=
 Pw ops &&
 ((Qo ops.size).all fun i=>match ops[i]? with
  | none=>true
  | some o=>(o.after.all fun e => !Region.binds .any e||decide (e.on<i)) &&
   (match o.dst with | some d=>decide (d<size) | none=>true) &&
   ((Qo ops.size).all fun j=>match ops[j]? with
    | none=>true
    | some o'=>(j==i||o'.dst==none||o'.dst != o.dst) &&
     (match o'.dst with | some d => !(o.looksAt ops).contains d||leans ops i j||leans ops j i||j==i | none=>true)))
structure Ok (ops:Array Qbi) (size:Nat):Prop where
 sel:Pw ops=true
 less:∀ (i:Nat) (o:Qbi),ops[i]? = some o->∀ e∈o.after,Qg .any e=true->e.on<i
 inb:∀ (i:Nat) (o:Qbi) (d:Tmp),ops[i]? = some o->o.dst=some d->d<size
 apart:∀ (i j:Nat) (o o':Qbi) (d:Tmp),ops[i]? = some o->ops[j]? = some o'->o.dst=some d->o'.dst=some d->i=j
 edge:∀ (i j:Nat) (o o':Qbi) (d:Tmp),ops[i]? = some o->ops[j]? = some o'->o'.dst=some d->d∈o.looksAt ops->leans ops i j=true\/leans ops j i=true\/j=i
theorem ok_of {size:Nat}(h:okAs ops size=true):Ok ops size:=by{
 unfold okAs at h;rw[Qi,Qp] at h;obtain⟨hs,h⟩:=h;have hl:∀ {i:Nat} {o:Qbi},ops[i]? = some o->i<ops.size:=fun ho=>(Qc.1 ho).1
 have H:∀ (i:Nat) (o:Qbi),ops[i]? = some o->(o.after.all fun e => !Region.binds .any e||decide (e.on<i))=true/\(match o.dst with | some d=>decide (d<size) | none=>true)=true /\
   ∀ (j:Nat) (o':Qbi),ops[j]? = some o'->(j==i||o'.dst==none||o'.dst != o.dst)=true/\(match o'.dst with | some d => !(o.looksAt ops).contains d||leans ops i j||leans ops j i||j==i | none=>true)=true:=by
  intro i o ho;have h1:=h i (Qr.2 (hl ho));simp only[ho,Qi] at h1;obtain⟨⟨ha,hb⟩,hc⟩:=h1;refine⟨ha,hb,fun j o' ho'=> ?_⟩;have h2:=Qp.1 hc j (Qr.2 (hl ho'));simp only[ho',Qi] at h2;exact h2
 refine⟨hs,fun i o ho e he hb=> ?_,fun i o d ho hd=> ?_,fun i j o o' d ho ho' hd hd'=> ?_,fun i j o o' d ho ho' hd' hm=> ?_⟩
 ·have:=Qaf.1 (H i o ho).1 e he
  simpa [hb] using this
 ·have:=(H i o ho).2.1
  simpa [hd] using this
 ·have:=((H i o ho).2.2 j o' ho').1
  simp[hd,hd'] at this;exact this.symm
 ·have:=((H i o ho).2.2 j o' ho').2
  simp only[hd',Q6,Qa3,beq_iff_eq] at this;rcases this with ((h1 | h1) | h1) | h1
  ·rw[Qag.2 hm] at h1;cases h1
  ·exact .inl h1
  ·exact .inr (.inl h1)
  ·exact .inr (.inr h1)}
theorem put_size (a:Qbk) (d:Option Tmp) (v:Qbf):(a.put d v).tmps.size=a.tmps.size:=by
 cases d <;> simp[Qh]
theorem put_defers' (a:Qbk) (d:Option Tmp) (v:Qbf):(a.put d v).defers=a.defers:=by
 cases d <;> rfl
theorem put_other (a:Qbk) (d:Option Tmp) (v:Qbf) (t:Tmp) (h:d≠some t):(a.put d v).tmps.getD t Qbo=a.tmps.getD t Qbo:=by{
 cases d with
 | none=>rfl
 | some d =>
  have hne:d≠t:=fun e=>h (by rw[e])
  simp[Qh,Qa4 hne]}
theorem put_here (a:Qbk) (d:Tmp) (v:Qbf) (h:d<a.tmps.size):(a.put (some d) v).tmps.getD d Qbo=v:=by
 simp[Qh,h]
theorem Y2 {a0:Qbk}{c:Nat->Qbf}{i:Nat}{o:Qbi}(ho:ops[i]? = some o):Ys Kr P ops C phi fx Q a0 c (i+1)=((Ys Kr P ops C phi fx Q a0 c i).1.put o.dst (Uy Kr P ops C phi fx Q c i o (Ys Kr P ops C phi fx Q a0 c i)),envAs ops phi c i o (Ys Kr P ops C phi fx Q a0 c i)):=by
 simp only[Ys,ho]
theorem Xp (a0:Qbk) (c:Nat->Qbf):∀ i,(Ys Kr P ops C phi fx Q a0 c i).1.tmps.size=a0.tmps.size
 | 0=>rfl
 | i+1=>by
  cases ho:ops[i]? with
  | none=>simp only[Ys,ho];exact Xp a0 c i
  | some o=>rw[Y2 ho];exact(put_size _ _ _).trans (Xp a0 c i)
theorem X9 (a0:Qbk) (c:Nat->Qbf):∀ i,(Ys Kr P ops C phi fx Q a0 c i).1.defers=a0.defers
 | 0=>rfl
 | i+1=>by
  cases ho:ops[i]? with
  | none=>simp only[Ys,ho];exact X9 a0 c i
  | some o=>rw[Y2 ho];exact(put_defers' _ _ _).trans (X9 a0 c i)
theorem Uk (a0:Qbk) (c:Nat->Qbf) (t:Tmp):∀ i,(∀ j o,j<i->ops[j]? = some o->o.dst≠some t)->(Ys Kr P ops C phi fx Q a0 c i).1.tmps.getD t Qbo=a0.tmps.getD t Qbo
 | 0,_=>rfl
 | i+1,h=>by
  have ih:=Uk a0 c t i (fun j o hj ho=>h j o (by omega) ho);cases ho:ops[i]? with
  | none=>simp only[Ys,ho];exact ih
  | some o=>rw[Y2 ho];exact(put_other _ _ _ _ (h i o (by omega) ho)).trans ih
def vAs (Kr:Qbe->Qbe->Prop) (P:Program) (ops:Array Qbi) (C:Qbe->Prop) (phi:Nat->Option (Qbf->Qbe->Prop)) (fx:Nat->Option Qbf) (Q:Qbk->Qbe->Prop) (a0:Qbk) (c:Nat->Qbf) (i:Nat):Qbf :=
 match ops[i]? with
 | some o=>Uy Kr P ops C phi fx Q c i o (Ys Kr P ops C phi fx Q a0 c i)
 | none=>Qbo
theorem Zc1 {a0:Qbk}(hok:Ok ops a0.tmps.size) (c:Nat->Qbf){j:Nat}{o:Qbi}{d:Tmp}(ho:ops[j]? = some o) (hd:o.dst=some d):∀ i,j<i->(Ys Kr P ops C phi fx Q a0 c i).1.tmps.getD d Qbo=vAs Kr P ops C phi fx Q a0 c j
 | 0,h=>absurd h (by omega)
 | i+1,h=>by
  by_cases hji:j=i
  ·subst hji
   rw[Y2 ho,hd];unfold vAs;simp only[ho];exact put_here _ _ _ (by rw[Xp];exact hok.inb j o d ho hd)
  ·have ih:=Zc1 hok c ho hd i (by omega)
   cases ho':ops[i]? with
   | none=>simp only[Ys,ho'];exact ih
   | some o' =>
    rw[Y2 ho'];exact(put_other _ _ _ _ (fun e=>hji (hok.apart j i o o' d ho ho' hd e))).trans ih
theorem same_looks {o:Qbi}(hs:∀ cs b,o.op≠.select cs b){a b:Qbk}(hsz:a.tmps.size=b.tmps.size) (h:∀ t∈o.looksAt ops,a.tmps.getD t Qbo=b.tmps.getD t Qbo) :
  execOp a.eval o=execOp b.eval o/\Qa o (yielded ops a.tmps)=Qa o (yielded ops b.tmps):=by{
 constructor
 ·refine execOp_congr o hs fun x hx=> ?_
  cases x with
  | tmp t=>exact h t (P7 _ (List.mem_filterMap.2 ⟨.tmp t,by simpa using hx,rfl⟩))
  | _=>rfl
 ·unfold Qa
  cases hg:o.guard with
  | none=>rfl
  | some gw =>
   obtain⟨g,want⟩:=gw;have hy:yielded ops a.tmps g=yielded ops b.tmps g:=by
    unfold yielded;cases ht:(ops[g]?).bind (·.dst) with
    | none=>rfl
    | some t =>
     have h1:=h t (P8 _ (by simp[hg,ht]));have h2:a.tmps[t]? = b.tmps[t]? := by
      by_cases hlt:t<a.tmps.size
      ·have hlt':t<b.tmps.size:=hsz ▸ hlt
       rw[Qt hlt,Qt hlt'];simp only[Qk,hlt,hlt',dite_true] at h1;exact congrArg some h1
      ·rw[Qa5 (Qa6 hlt),Qa5 (Qa6 (hsz ▸ hlt))]
     simp only[Option.bind_some,h2]
   simp only[hy]}
theorem wp_of_does {o:Qbi}{a:Qbk}{w:Qbe}{K:Qbk->Qbe->Prop}{Q':Qbh->Qbk->Qbe->Prop}{R:Qbf->Qbe->Prop}(h:doesUpon P R ((execOp a.eval o).run P w)) (hk:∀ v w',R v w'->K (a.put o.dst v) w'):o.wp P a w K Q':=by{
 unfold Oper.wp;generalize (execOp a.eval o).run P w=r at *;cases r with
 | halt x w'=>exact h.elim
 | ok n w' =>
  cases n <;> simp only[doesUpon] at h <;> simp only[Oper.upon]
  case value v=>exact hk _ _ h
  case skip=>exact hk _ _ h
  case enter f args =>
   refine h.mono fun e w'' he=> ?_
   obtain⟨v,rfl,hr⟩:=he;exact hk _ _ hr}
structure Inv (Kr:Qbe->Qbe->Prop) (P:Program) (ops:Array Qbi) (C:Qbe->Prop) (phi:Nat->Option (Qbf->Qbe->Prop)) (fx:Nat->Option Qbf) (Q:Qbk->Qbe->Prop) (a0:Qbk) (listed:Array Bool) (u:Nat->Qbf) (a:Qbk) (w:Qbe):Prop where
 lsize:listed.size=ops.size
 size:a.tmps.size=a0.tmps.size
 defers:a.defers=a0.defers
 closed:∀ i o,ops[i]? = some o->listed.getD i false=true->∀ e∈o.after,Qg .any e=true->listed.getD e.on false=true
 new:∀ i o d,ops[i]? = some o->listed.getD i false=true->o.dst=some d->a.tmps.getD d Qbo=u i
 old:∀ t,(∀ i o,ops[i]? = some o->o.dst=some t->listed.getD i false=false)->a.tmps.getD t Qbo=a0.tmps.getD t Qbo
 world:C w
 val:∀ c:Nat->Qbf,(∀ j,listed.getD j false=true->(phi j).isSome=true->c j=u j)->∀ i,listed.getD i false=true->vAs Kr P ops C phi fx Q a0 c i=u i
 act:∀ c:Nat->Qbf,(∀ j,listed.getD j false=true->(phi j).isSome=true->c j=u j)->∀ i o φ,ops[i]? = some o->listed.getD i false=true->phi i=some φ ->
  Qa o (yielded ops (Ys Kr P ops C phi fx Q a0 c i).1.tmps)=true->φ (u i) w
section
variable {a0 : Qbk}{listed : Array Bool}{u : Nat -> Qbf}{a : Qbk}{w : Qbe}
theorem leans_spec {i j:Nat}{o:Qbi}(ho:ops[i]? = some o) (h:leans ops i j=true):∃ e∈o.after,Qg .any e=true/\e.on=j:=by
 simp only[leans,ho,Option.map_some,Option.getD_some] at h;obtain⟨e,he,hb⟩:=Px.1 h;simp only[Qi,beq_iff_eq] at hb;exact⟨e,he,hb.1,hb.2⟩
theorem Inv.looks (hok:Ok ops a0.tmps.size) (I:Inv Kr P ops C phi fx Q a0 listed u a w){c:Nat->Qbf}(hc:∀ j,listed.getD j false=true->(phi j).isSome=true->c j=u j){i:Nat}{o:Qbi}(ho:ops[i]? = some o)
  (hi:listed.getD i false=false) (hr:∀ e∈o.after,Qg .any e=true->listed.getD e.on false=true) :
  ∀ t∈o.looksAt ops,a.tmps.getD t Qbo=(Ys Kr P ops C phi fx Q a0 c i).1.tmps.getD t Qbo:=by{
 intro t ht;by_cases hj:∃ (j:Nat) (o':Qbi),ops[j]? = some o'/\o'.dst=some t
 ·obtain⟨j,o',ho',hd⟩:=hj
  rcases hok.edge i j o o' t ho ho' hd ht with h | h | h
  ·obtain⟨e,he,hb,rfl⟩:=leans_spec ho h
   have hl:=hr e he hb;rw[I.new _ o' t ho' hl hd,Zc1 hok c ho' hd i (hok.less i o ho e he hb),I.val c hc _ hl]
  all_goals
   have hun:listed.getD j false=false:=by
    first
     | (subst h;exact hi)
     | (
       obtain⟨e,he,hb,rfl⟩:=leans_spec ho' h;cases hl:listed.getD j false with
       | false=>rfl
       | true =>
        have:=I.closed j o' ho' hl e he hb;rw[hi] at this
        cases this)
   have hle:i<=j:=by
    first
     | (subst h;exact Qb _)
     | (
       obtain⟨e,he,hb,rfl⟩:=leans_spec ho' h
       exact Nat.le_of_lt (hok.less j o' ho' e he hb))
   rw[I.old t (fun k ok hk hdk=>by rw[<- hok.apart j k o' ok t ho' hk hd hdk];exact hun),
    Uk a0 c t i (fun k ok hk hok' hdk=>by have:=hok.apart j k o' ok t ho' hok' hd hdk;omega)]
 ·rw[I.old t (fun k ok hk hdk=>absurd ⟨k,ok,hk,hdk⟩ hj),Uk a0 c t i (fun k ok _ hk hdk=>hj ⟨k,ok,hk,hdk⟩)]}
theorem Zf3 {o:Qbi}(c:Nat->Qbf):∀ k,(∀ (j:Nat) (oj:Qbi) (φ:Qbf->Qbe->Prop) (d:Tmp),j<k->ops[j]? = some oj->phi j=some φ->Qa oj (yielded ops (Ys Kr P ops C phi fx Q a0 c j).1.tmps)=true->oj.dst=some d->d∈o.looksAt ops->φ (c j) w) ->
  seen ops o w (Ys Kr P ops C phi fx Q a0 c k).2
 | 0,_=>trivial
 | k+1,h=>by
  have ih:=Zf3 (o:=o) c k (fun j oj φ d hj=>h j oj φ d (by omega));cases ho:ops[k]? with
  | none=>simp only[Ys,ho];exact ih
  | some ok =>
   rw[Y2 ho];unfold envAs;by_cases hw:Qa ok (yielded ops (Ys Kr P ops C phi fx Q a0 c k).1.tmps)=true
   ·simp only[if_pos hw]
    cases hp:phi k with
    | none=>exact ih
    | some φ =>
     simp only;unfold envAdd;exact⟨fun d hd hc=>h k ok φ d (by omega) ho hp hw hd (Qag.1 hc),ih⟩
   ·simp only[if_neg hw]
    exact ih
theorem Zdq (c:Nat->Qbf):∀ k,(∀ (j:Nat) (oj:Qbi) (φ:Qbf->Qbe->Prop),j<k->ops[j]? = some oj->phi j=some φ->Qa oj (yielded ops (Ys Kr P ops C phi fx Q a0 c j).1.tmps)=true->φ (c j) w) ->
  holds w (Ys Kr P ops C phi fx Q a0 c k).2
 | 0,_=>trivial
 | k+1,h=>by
  have ih:=Zdq c k (fun j oj φ hj=>h j oj φ (by omega));cases ho:ops[k]? with
  | none=>simp only[Ys,ho];exact ih
  | some ok =>
   rw[Y2 ho];unfold envAs;by_cases hw:Qa ok (yielded ops (Ys Kr P ops C phi fx Q a0 c k).1.tmps)=true
   ·simp only[if_pos hw]
    cases hp:phi k with
    | none=>exact ih
    | some φ =>
     simp only;unfold envAdd;exact⟨h k ok φ (by omega) ho hp hw,ih⟩
   ·simp only[if_neg hw]
    exact ih
theorem Inv.next (hok:Ok ops a0.tmps.size) (I:Inv Kr P ops C phi fx Q a0 listed u a w){i:Nat}{o:Qbi}{v:Qbf}{w':Qbe}(ho:ops[i]? = some o) (hi:listed.getD i false=false)
  (hr:∀ e∈o.after,Qg .any e=true->listed.getD e.on false=true) (hC:C w') (hst:∀ (j:Nat) (φ:Qbf->Qbe->Prop) (x:Qbf),phi j=some φ->φ x w->φ x w')
  (hv:∀ c:Nat->Qbf,(∀ j,listed.getD j false=true->(phi j).isSome=true->c j=u j)->((phi i).isSome=true->c i=v)->vAs Kr P ops C phi fx Q a0 c i=v)
  (ha:∀ c:Nat->Qbf,(∀ j,listed.getD j false=true->(phi j).isSome=true->c j=u j)->∀ φ,phi i=some φ->Qa o (yielded ops (Ys Kr P ops C phi fx Q a0 c i).1.tmps)=true->φ v w') :
  Inv Kr P ops C phi fx Q a0 (listed.setIfInBounds i true) (fun j=>if j=i then v else u j) (a.put o.dst v) w':=by{
 have hlt:i<ops.size:=(Qc.1 ho).1;have hL:∀ j,(listed.setIfInBounds i true).getD j false=true↔j=i\/listed.getD j false=true:=by
  intro j;by_cases hji:i=j
  ·subst hji
   have:i<listed.size:=by rw[I.lsize];exact hlt
   simp[this]
  ·rw[getD_set_ne false hji]
   constructor
   ·exact .inr
   ·rintro(h | h)
    ·exact absurd h.symm hji
    ·exact h
 have hne:∀ j,listed.getD j false=true->j≠i:=fun j hj e=>by rw[e,hi] at hj;cases hj
 have hag:∀ c:Nat->Qbf,(∀ j,(listed.setIfInBounds i true).getD j false=true->(phi j).isSome=true->c j=if j=i then v else u j) ->
   (∀ j,listed.getD j false=true->(phi j).isSome=true->c j=u j)/\((phi i).isSome=true->c i=v):=fun c hc =>
  ⟨fun j hj hp=>by have:=hc j ((hL j).2 (.inr hj)) hp;rwa [if_neg (hne j hj)] at this,fun hp=>by have:=hc i ((hL i).2 (.inl rfl)) hp;rwa [if_pos rfl] at this⟩
 refine⟨by simpa using I.lsize,(put_size _ _ _).trans I.size,(put_defers' _ _ _).trans I.defers,?_,?_,?_,hC,?_,?_⟩
 ·intro j oj hoj hj e he hb
  rcases(hL j).1 hj with rfl | h
  ·rw[ho] at hoj
   cases hoj;exact(hL _).2 (.inr (hr e he hb))
  ·exact(hL _).2 (.inr (I.closed j oj hoj h e he hb))
 ·intro j oj d hoj hj hd
  rcases(hL j).1 hj with rfl | h
  ·rw[ho] at hoj
   cases hoj;rw[hd,if_pos rfl];exact put_here _ _ _ (by rw[I.size];exact hok.inb j o d ho hd)
  ·rw[if_neg (hne j h)]
   exact(put_other _ _ _ _ (fun e=>hne j h (hok.apart j i oj o d hoj ho hd e))).trans (I.new j oj d hoj h hd)
 ·intro t ht
  have hn:o.dst≠some t:=fun e=>by have:=ht i o ho e;rw[(hL i).2 (.inl rfl)] at this;cases this
  refine(put_other _ _ _ _ hn).trans (I.old t fun j oj hoj hd=> ?_);have:=ht j oj hoj hd;cases hl:listed.getD j false with
  | false=>rfl
  | true=>rw[(hL j).2 (.inr hl)] at this;cases this
 ·intro c hc j hj
  obtain⟨h1,h2⟩:=hag c hc;rcases(hL j).1 hj with rfl | h
  ·rw[if_pos rfl];exact hv c h1 h2
  ·rw[if_neg (hne j h)];exact I.val c h1 j h
 ·intro c hc j oj φ hoj hj hp hw
  obtain⟨h1,h2⟩:=hag c hc;rcases(hL j).1 hj with rfl | h
  ·rw[ho] at hoj
   cases hoj;rw[if_pos rfl];exact ha c h1 φ hp hw
  ·rw[if_neg (hne j h)]
   exact hst j φ _ hp (I.act c h1 j oj φ hoj h hp hw)}
theorem Inv.step (hok:Ok ops a0.tmps.size) (h0:wpAs Kr P ops C phi fx Q 0 ops.toList a0 []) (hCb:∀ w w',C w->Kr w w'->C w') (hst:∀ (j:Nat) (φ:Qbf->Qbe->Prop) (x:Qbf) (w w':Qbe),phi j=some φ->φ x w->Kr w w'->φ x w')
  (I:Inv Kr P ops C phi fx Q a0 listed u a w) {i:Nat} (hi:i∈Qf .any ops listed) {Q':Qbh->Qbk->Qbe->Prop} :
  wpOp P ops Q' i (fun a' w'=>∃ u',Inv Kr P ops C phi fx Q a0 (listed.setIfInBounds i true) u' a' w') a w:=by{
 obtain⟨hun,o,ho,hr⟩:=mem_ready.1 hi;have hlt:i<ops.size:=(Qc.1 ho).1;have hil:listed.getD i false=false:=by
  have:i<listed.size:=by rw[I.lsize];exact hlt
  simpa [this] using hun
 have hsel:=Qa7 hok.sel;have look:∀ c:Nat->Qbf,(∀ j,listed.getD j false=true->(phi j).isSome=true->c j=u j) ->
   execOp a.eval o=execOp (Ys Kr P ops C phi fx Q a0 c i).1.eval o/\Qa o (yielded ops a.tmps)=Qa o (yielded ops (Ys Kr P ops C phi fx Q a0 c i).1.tmps):=fun c hc =>
  same_looks (fun cs b=>hsel i o cs b ho) (I.size.trans (Xp a0 c i).symm) (I.looks hok hc ho hil hr)
 have see:∀ c:Nat->Qbf,(∀ j,listed.getD j false=true->(phi j).isSome=true->c j=u j)->seen ops o w (Ys Kr P ops C phi fx Q a0 c i).2:=fun c hc =>
  Zf3 c i fun j oj φ d hj hoj hp hw hd hm=>by
   rcases hok.edge i j o oj d ho hoj hd hm with h | h | h
   ·obtain⟨e,he,hb,rfl⟩:=leans_spec ho h
    have hl:=hr e he hb;rw[hc _ hl (by rw[hp];rfl)];exact I.act c hc _ oj φ hoj hl hp hw
   ·obtain⟨e,he,hb,h'⟩:=leans_spec hoj h
    have:=hok.less j oj hoj e he hb;omega
   ·omega
 have vas:∀ c:Nat->Qbf,vAs Kr P ops C phi fx Q a0 c i=Uy Kr P ops C phi fx Q c i o (Ys Kr P ops C phi fx Q a0 c i):=fun c=>by
  unfold vAs;simp only[ho]
 have hu:∀ j,listed.getD j false=true->(phi j).isSome=true->u j=u j:=fun _ _ _=>rfl
 unfold wpOp;simp only[ho];by_cases hw:Qa o (yielded ops a.tmps)=true
 ·rw[if_pos hw]
  refine .inl ?_;cases hp:phi i with
  | none =>
   cases hf:fx i with
   | none =>
    have hrun:=Zaw h0 u ho (by rw[<- (look u hu).2];exact hw) hp hf w I.world (see u hu);rw[<- (look u hu).1] at hrun;unfold Oper.wp;rw[hrun];refine⟨_,I.next hok ho hil hr I.world (fun _ _ _ _ h=>h) (fun c hc _=> ?_) (fun c hc φ hp'=>by rw[hp] at hp';cases hp')⟩;have hrun':=Zaw h0 c ho (by rw[<- (look c hc).2];exact hw) hp hf w I.world (see c hc);rw[<- (look c hc).1,hrun] at hrun';rw[vas c]
    injection hrun' with h1 _
    injection h1 with h1
    exact h1.symm
   | some x =>
    have hrun:=Zdg h0 u ho (by rw[<- (look u hu).2];exact hw) hp hf w I.world (see u hu);rw[<- (look u hu).1] at hrun;refine wp_of_does hrun fun v w' ⟨hφ,hb⟩=>⟨_,I.next hok ho hil hr (hCb w w' I.world hb) (fun j φ' x hp' h=>hst j φ' x w w' hp' h hb) (fun c hc _=> ?_) (fun c hc φ' hp' _=> ?_)⟩
    ·rw[vas c]
     unfold Uy;rw[if_pos (by rw[<- (look c hc).2];exact hw)];simp only[hp,hf];exact hφ.symm
    ·rw[hp] at hp'
     cases hp'
  | some φ =>
   have hrun:=Zgx h0 u ho (by rw[<- (look u hu).2];exact hw) hp w I.world (see u hu);rw[<- (look u hu).1] at hrun;refine wp_of_does hrun fun v w' ⟨hφ,hb⟩=>⟨_,I.next hok ho hil hr (hCb w w' I.world hb) (fun j φ' x hp' h=>hst j φ' x w w' hp' h hb) (fun c hc hci=> ?_) (fun c hc φ' hp' _=> ?_)⟩
   ·rw[vas c]
    unfold Uy;rw[if_pos (by rw[<- (look c hc).2];exact hw)];simp only[hp];exact hci (by rw[hp];rfl)
   ·rw[hp] at hp'
    cases hp';exact hφ
 ·rw[if_neg hw]
  refine⟨_,I.next hok ho hil hr I.world (fun _ _ _ _ h=>h) (fun c hc _=> ?_) (fun c hc φ hp' hw'=> ?_)⟩
  ·rw[vas c]
   unfold Uy;rw[if_neg (by rw[<- (look c hc).2];exact hw)]
  ·rw[<- (look c hc).2] at hw'
   exact absurd hw' hw}
def left (n:Nat) (listed:Array Bool):Nat:=((Qo n).filter fun i => !listed.getD i false).length
theorem left_set {n:Nat}{listed:Array Bool}{i:Nat}(hi:i<n) (hs:listed.size=n) (hl:listed.getD i false=false):left n (listed.setIfInBounds i true)<left n listed:=by{
 unfold left;have hsub:((Qo n).filter fun j => !(listed.setIfInBounds i true).getD j false)=((Qo n).filter fun j => !listed.getD j false).filter (fun j=>j != i):=by
  rw[List.filter_filter];refine List.filter_congr fun j _=> ?_
  by_cases hji:i=j
  ·subst hji
   have:i<listed.size:=by omega
   simp[this]
  ·rw[getD_set_ne false hji]
   have:(j != i)=true:=by simpa using fun e:j=i=>hji e.symm
   simp[this]
 rw[hsub];refine List.length_filter_lt_length_iff_exists.2 ⟨i,?_,by simp⟩;rw[Py,Qr];exact⟨hi,by rw[hl];rfl⟩}
theorem wpAny_of_as (hok:Ok ops a0.tmps.size) (h0:wpAs Kr P ops C phi fx Q 0 ops.toList a0 []) (hCb:∀ w w',C w->Kr w w'->C w') (hst:∀ (j:Nat) (φ:Qbf->Qbe->Prop) (x:Qbf) (w w':Qbe),phi j=some φ->φ x w->Kr w w'->φ x w')
  {Q':Qbh->Qbk->Qbe->Prop} (hQ:∀ a w,Q a w->Q' .normal a w):∀ (fuel:Nat) (listed:Array Bool) (u:Nat->Qbf) (a:Qbk) (w:Qbe),left ops.size listed<=fuel->Inv Kr P ops C phi fx Q a0 listed u a w->wpAny P .any ops Q' fuel listed a w:=by{
 have fin:∀ (listed:Array Bool) (u:Nat->Qbf) (a:Qbk) (w:Qbe),Inv Kr P ops C phi fx Q a0 listed u a w->Qf .any ops listed=[]->Q' .normal a w:=by
  intro listed u a w I hr;have all:∀ n i,i<n->i<ops.size->listed.getD i false=true:=by
   intro n
   induction n with
   | zero=>intro i h;omega
   | succ n ih =>
    intro i hin hi;cases hl:listed.getD i false with
    | true=>rfl
    | false =>
     have ho:ops[i]? = some (ops[i]'hi):=Qt hi;have hmem:i∈Qf .any ops listed:=by
      refine mem_ready.2 ⟨?_,_,ho,fun e he hb=> ?_⟩
      ·have:i<listed.size:=by rw[I.lsize];exact hi
       simpa [this] using hl
      ·have:=hok.less i _ ho e he hb
       exact ih e.on (by omega) (by omega)
     rw[hr] at hmem;cases hmem
  have all':∀ i,i<ops.size->listed.getD i false=true:=fun i hi=>all (i+1) i (by omega) hi
  have hu:∀ j,listed.getD j false=true->(phi j).isSome=true->u j=u j:=fun _ _ _=>rfl
  have hend:=Vg h0 u ops.size (Qb _);have hn:ops.toList.drop ops.size=[]:=Qa8 (by simp);rw[hn] at hend;unfold wpAs at hend;have he:=hend w I.world (Zdq u ops.size fun j oj φ hj hoj hp hw=>I.act u hu j oj φ hoj (all' j hj) hp hw);have hfr:a=(Ys Kr P ops C phi fx Q a0 u ops.size).1:=by
   have hs:=I.size.trans (Xp (Kr:=Kr) (P:=P) (ops:=ops) (C:=C) (phi:=phi) (fx:=fx) (Q:=Q) a0 u ops.size).symm;have hd:=I.defers.trans (X9 (Kr:=Kr) (P:=P) (ops:=ops) (C:=C) (phi:=phi) (fx:=fx) (Q:=Q) a0 u ops.size).symm;have ht:∀ t,a.tmps.getD t Qbo=(Ys Kr P ops C phi fx Q a0 u ops.size).1.tmps.getD t Qbo:=by
    intro t;by_cases hj:∃ (j:Nat) (o':Qbi),ops[j]? = some o'/\o'.dst=some t
    ·obtain⟨j,o',ho',hd'⟩:=hj
     have hjl:=(Qc.1 ho').1;rw[I.new j o' t ho' (all' j hjl) hd',Zc1 hok u ho' hd' ops.size hjl,I.val u hu j (all' j hjl)]
    ·rw[I.old t (fun k ok hk hdk=>absurd ⟨k,ok,hk,hdk⟩ hj),Uk a0 u t ops.size (fun k ok _ hk hdk=>hj ⟨k,ok,hk,hdk⟩)]
   generalize (Ys Kr P ops C phi fx Q a0 u ops.size).1=b at *;obtain⟨at_,ad⟩:=a;obtain⟨bt,bd⟩:=b;simp only at hs hd ht;subst hd;have:at_=bt:=by
    apply Q7 hs;intro k h1 h2;have:=ht k
    simpa [Qk,h1,h2] using this
   rw[this]
  rw[hfr];exact hQ _ _ he
 intro fuel
 induction fuel with
 | zero =>
  intro listed u a w hl I;have hr:Qf .any ops listed=[]:=by
   rw[Pe];intro i hi;obtain⟨hun,o,ho,_⟩:=mem_ready.1 hi;have hlt:=(Qc.1 ho).1;have hil:listed.getD i false=false:=by
    have:i<listed.size:=by rw[I.lsize];exact hlt
    simpa [this] using hun
   have:=left_set hlt I.lsize hil;omega
  exact⟨hr,fin listed u a w I hr⟩
 | succ fuel ih =>
  intro listed u a w hl I;refine⟨fun hr=>fin listed u a w I hr,fun i hi=> ?_⟩;have hlt:i<ops.size:=by
   obtain⟨_,o,ho,_⟩:=mem_ready.1 hi;exact(Qc.1 ho).1
  have hil:listed.getD i false=false:=by
   have h1:=(mem_ready.1 hi).1;have:i<listed.size:=by rw[I.lsize];exact hlt
   simpa [this] using h1
  refine wpOp_mono (fun a' w' ⟨u',I'⟩=>ih _ u' a' w' ?_ I') (I.step hok h0 hCb hst hi);have:=left_set hlt I.lsize hil;omega}
end
theorem wp_region_fx (Kr:Qbe->Qbe->Prop){id:Nat}{l:List Qbi}{a:Qbk}{w:Qbe}{Q':Qbh->Qbk->Qbe->Prop}(hm:P.follows .mixedOrders=true) (C:Qbe->Prop) (phi:Nat->Option (Qbf->Qbe->Prop)) (fx:Nat->Option Qbf) (hok:okAs l.toArray a.tmps.size=true)
  (hC:C w.drew) (hCb:∀ w w',C w->Kr w w'->C w') (hst:∀ (j:Nat) (φ:Qbf->Qbe->Prop) (x:Qbf) (w w':Qbe),phi j=some φ->φ x w->Kr w w'->φ x w')
  (h:wpAs Kr P l.toArray C phi fx (fun a w=>Q' .normal a w) 0 l a []):(Code.region id l.toArray true).wp P Q' a w:=by{
 refine wp_region_any hm ?_;have hsz:(Ql l.toArray.size false).size=l.toArray.size:=by simp
 have hg:∀ i,(Ql l.toArray.size false).getD i false=false:=fun i=>by
  by_cases hi:i<l.toArray.size
  ·simp[Qk]
  ·simp[Qk]
 refine wpAny_of_as (a0:=a) (ok_of hok) (by simpa using h) hCb hst (fun _ _ h=>h) _ _ (fun _=>Qbo) a w.drew ?_ ⟨hsz,rfl,rfl,?_,?_,fun _ _=>rfl,hC,?_,?_⟩
 ·unfold left
  exact Qm (Pr _ _) (by simp)
 ·intro i o _ hl
  rw[hg i] at hl;cases hl
 ·intro i o d _ hl
  rw[hg i] at hl;cases hl
 ·intro c _ i hl
  rw[hg i] at hl;cases hl
 ·intro c _ i o φ _ hl
  rw[hg i] at hl;cases hl}
end
theorem does_enter {P:Program}{ρ:Qbj->Qbf}{o:Qbi}{w:Qbe}{R:Qbf->Qbe->Prop}{f:FuncId}{args:Array Qbf}(h:(execOp ρ o).run P w=.ok (.enter f args) w) (hc:Qbp P f args w (fun e w'=>∃ v,e=.returned v/\R v w')):doesUpon P R ((execOp ρ o).run P w):=by
 rw[h];exact hc
end Go.Proofs.YtmafkphcfkhokaaGreat.Rb
namespace Go.Proofs.YtmafkphcfkhokaaGreat
open Go.RowKit
abbrev Env:=List (Tmp×(Qbe->Prop))
abbrev doesUpon (P:Program) (R:Qbf->Qbe->Prop) (r:Result Next):Prop:=Rb.doesUpon P R r
def seen (ops:Array Qbi) (o:Qbi) (w:Qbe):Env->Prop
 | []=>True
 | p::r=>((o.looksAt ops).contains p.1=true->p.2 w)/\seen ops o w r
def envAdd (d:Option Tmp) (p:Qbe->Prop) (env:Env):Env :=
 match d with
 | some d=>(d,p)::env
 | none=>env
def holds (w:Qbe):Env->Prop
 | []=>True
 | p::r=>p.2 w/\holds w r
def wpAs (P:Program) (ops:Array Qbi) (C:Qbe->Prop) (phi:Nat->Option (Qbf->Qbe->Prop)) (fx:Nat->Option Qbf) (Q:Qbk->Qbe->Prop):Nat->List Qbi->Qbk->Env->Prop
 | _,[],a,env=>∀ w,C w->holds w env->Q a w
 | i,o::rest,a,env =>
  if Qa o (yielded ops a.tmps)=true then
   match phi i with
   | none =>
    match fx i with
    | none=>∃ v,(∀ w,C w->seen ops o w env->(execOp a.eval o).run P w=.ok (.value v) w)/\wpAs P ops C phi fx Q (i+1) rest (a.put o.dst v) env
    | some u=>(∀ w,C w->seen ops o w env->doesUpon P (fun v w'=>v=u/\Qbq w.heap.size w w') ((execOp a.eval o).run P w))/\wpAs P ops C phi fx Q (i+1) rest (a.put o.dst u) env
   | some φ=>(∀ w,C w->seen ops o w env->doesUpon P (fun v w'=>φ v w'/\Qbq w.heap.size w w') ((execOp a.eval o).run P w)) /\
     ∀ v,wpAs P ops C phi fx Q (i+1) rest (a.put o.dst v) (envAdd o.dst (φ v) env)
  else wpAs P ops C phi fx Q (i+1) rest (a.put o.dst Qbo) env
section
variable {P : Program}{ops : Array Qbi}{C : Qbe -> Prop}{phi : Nat -> Option (Qbf -> Qbe -> Prop)}{fx : Nat -> Option Qbf}{Q : Qbk -> Qbe -> Prop}
theorem wpAs_skip {i:Nat}{o:Qbi}{rest:List Qbi}{a:Qbk}{env:Env}(hw:Qa o (yielded ops a.tmps)=false) (h:wpAs P ops C phi fx Q (i+1) rest (a.put o.dst Qbo) env):wpAs P ops C phi fx Q i (o::rest) a env:=by
 unfold wpAs;rw[if_neg (by rw[hw];exact Qae)];exact h
theorem wpAs_fixed {i:Nat}{o:Qbi}{rest:List Qbi}{a:Qbk}{env:Env}{u:Qbf}(hw:Qa o (yielded ops a.tmps)=true) (hp:phi i=none) (hf:fx i=some u)
  (hv:∀ w,C w->seen ops o w env->doesUpon P (fun v w'=>v=u/\Qbq w.heap.size w w') ((execOp a.eval o).run P w)) (h:wpAs P ops C phi fx Q (i+1) rest (a.put o.dst u) env):wpAs P ops C phi fx Q i (o::rest) a env:=by
 unfold wpAs;rw[if_pos hw,hp];simp only[hf];exact⟨hv,h⟩
theorem wpAs_pure {i:Nat}{o:Qbi}{rest:List Qbi}{a:Qbk}{env:Env}{v:Qbf}(hw:Qa o (yielded ops a.tmps)=true) (hp:phi i=none)
  (hv:∀ w,C w->seen ops o w env->(execOp a.eval o).run P w=.ok (.value v) w) (h:wpAs P ops C phi fx Q (i+1) rest (a.put o.dst v) env) (hf:fx i=none:=by rfl):wpAs P ops C phi fx Q i (o::rest) a env:=by
 unfold wpAs;rw[if_pos hw,hp];simp only[hf];exact⟨v,hv,h⟩
theorem wpAs_act {i:Nat}{o:Qbi}{rest:List Qbi}{a:Qbk}{env:Env}{φ:Qbf->Qbe->Prop}(hw:Qa o (yielded ops a.tmps)=true) (hp:phi i=some φ)
  (hv:∀ w,C w->seen ops o w env->doesUpon P (fun v w'=>φ v w'/\Qbq w.heap.size w w') ((execOp a.eval o).run P w)) (h:∀ v,wpAs P ops C phi fx Q (i+1) rest (a.put o.dst v) (envAdd o.dst (φ v) env)):wpAs P ops C phi fx Q i (o::rest) a env:=by
 unfold wpAs;rw[if_pos hw,hp];exact⟨hv,h⟩
theorem wpAs_end {i:Nat}{a:Qbk}{env:Env}(h:∀ w,C w->holds w env->Q a w):wpAs P ops C phi fx Q i [] a env:=h
theorem Zhy:∀ (rest:List Qbi) (i:Nat) (a:Qbk) (env:Env) (env':Rb.Env),(∀ o w,Rb.seen ops o w env'->seen ops o w env)->(∀ w,Rb.holds w env'->holds w env)->wpAs P ops C phi fx Q i rest a env->Rb.wpAs (fun w w'=>Qbq w.heap.size w w') P ops C phi fx Q i rest a env'
 | [],i,a,env,env',_,hh,h=>fun w hC hE=>h w hC (hh w hE)
 | o::rest,i,a,env,env',hs,hh,h=>by
  unfold wpAs at h;unfold Rb.wpAs;by_cases hw:Qa o (yielded ops a.tmps)=true
  ·rw[if_pos hw] at h ⊢
   cases hp:phi i with
   | none =>
    rw[hp] at h;cases hf:fx i with
    | none =>
     simp only[hf] at h ⊢;obtain⟨v,h1,h2⟩:=h;exact⟨v,fun w hC hE=>h1 w hC (hs o w hE),Zhy rest _ _ _ _ hs hh h2⟩
    | some u =>
     simp only[hf] at h ⊢;exact⟨fun w hC hE=>h.1 w hC (hs o w hE),Zhy rest _ _ _ _ hs hh h.2⟩
   | some φ =>
    rw[hp] at h;refine⟨fun w hC hE=>h.1 w hC (hs o w hE),fun v=>Zhy rest _ _ _ _ (fun o' w hE=> ?_) (fun w hE=> ?_) (h.2 v)⟩
    ·unfold envAdd
     cases hd:o.dst with
     | none=>exact hs o' w hE.2
     | some d=>exact⟨fun hc=>hE.1 d hd hc,hs o' w hE.2⟩
    ·unfold envAdd
     cases hd:o.dst with
     | none=>exact hh w hE.2
     | some d=>exact⟨hE.1,hh w hE.2⟩
  ·rw[if_neg hw] at h ⊢
   exact Zhy rest _ _ _ _ hs hh h
abbrev leans (ops:Array Qbi) (i j:Nat):Bool:=Rb.leans ops i j
abbrev okAs (ops:Array Qbi) (size:Nat):Bool:=Rb.okAs ops size
abbrev Ok (ops:Array Qbi) (size:Nat):Prop:=Rb.Ok ops size
theorem ok_of {size:Nat}(h:okAs ops size=true):Ok ops size:=Rb.ok_of h
theorem leans_spec {i j:Nat}{o:Qbi}(ho:ops[i]? = some o) (h:leans ops i j=true):∃ e∈o.after,Qg .any e=true/\e.on=j:=Rb.leans_spec ho h
abbrev left (n:Nat) (listed:Array Bool):Nat:=Rb.left n listed
theorem wpAny_of_as {a0:Qbk}(hok:Ok ops a0.tmps.size) (h0:wpAs P ops C phi fx Q 0 ops.toList a0 []) (hCb:∀ w w',C w->Qbq w.heap.size w w'->C w') (hst:∀ (j:Nat) (φ:Qbf->Qbe->Prop) (x:Qbf) (w w':Qbe),phi j=some φ->φ x w->Qbq w.heap.size w w'->φ x w')
  {Q':Qbh->Qbk->Qbe->Prop} (hQ:∀ a w,Q a w->Q' .normal a w) (fuel:Nat) (listed:Array Bool) (u:Nat->Qbf) (a:Qbk) (w:Qbe) (hl:left ops.size listed<=fuel) (I:Rb.Inv (fun w w'=>Qbq w.heap.size w w') P ops C phi fx Q a0 listed u a w):wpAny P .any ops Q' fuel listed a w :=
 Rb.wpAny_of_as hok (Zhy _ _ _ [] _ (fun _ _ _=>trivial) (fun _ _=>trivial) h0) hCb hst hQ fuel listed u a w hl I
theorem wp_region_fx {id:Nat}{l:List Qbi}{a:Qbk}{w:Qbe}{Q':Qbh->Qbk->Qbe->Prop}(hm:P.follows .mixedOrders=true) (C:Qbe->Prop) (phi:Nat->Option (Qbf->Qbe->Prop)) (fx:Nat->Option Qbf) (hok:okAs l.toArray a.tmps.size=true)
  (hC:C w.drew) (hCb:∀ w w',C w->Qbq w.heap.size w w'->C w') (hst:∀ (j:Nat) (φ:Qbf->Qbe->Prop) (x:Qbf) (w w':Qbe),phi j=some φ->φ x w->Qbq w.heap.size w w'->φ x w')
  (h:wpAs P l.toArray C phi fx (fun a w=>Q' .normal a w) 0 l a []):(Code.region id l.toArray true).wp P Q' a w :=
 Rb.wp_region_fx (fun w w'=>Qbq w.heap.size w w') hm C phi fx hok hC hCb hst (Zhy _ _ _ [] _ (fun _ _ _=>trivial) (fun _ _=>trivial) h)
theorem Zm5 {id:Nat}{l:List Qbi}{a:Qbk}{w:Qbe}{Q':Qbh->Qbk->Qbe->Prop}(hm:P.follows .mixedOrders=true) (C:Qbe->Prop) (phi:Nat->Option (Qbf->Qbe->Prop)) (hok:okAs l.toArray a.tmps.size=true)
  (hC:C w.drew) (hCb:∀ w w',C w->Qbq w.heap.size w w'->C w') (hst:∀ (j:Nat) (φ:Qbf->Qbe->Prop) (x:Qbf) (w w':Qbe),phi j=some φ->φ x w->Qbq w.heap.size w w'->φ x w')
  (h:wpAs P l.toArray C phi (fun _=>none) (fun a w=>Q' .normal a w) 0 l a []):(Code.region id l.toArray true).wp P Q' a w :=
 wp_region_fx hm C phi (fun _=>none) hok hC hCb hst h
end
theorem does_enter {P:Program}{ρ:Qbj->Qbf}{o:Qbi}{w:Qbe}{R:Qbf->Qbe->Prop}{f:FuncId}{args:Array Qbf}(h:(execOp ρ o).run P w=.ok (.enter f args) w) (hc:Qbp P f args w (fun e w'=>∃ v,e=.returned v/\R v w')):doesUpon P R ((execOp ρ o).run P w):=by
 rw[h];exact hc
section
variable {P : Program}{Q Q' : Qbh -> Qbk -> Qbe -> Prop}
theorem Zbd (hQ:∀ e a w,e≠.normal->Q e a w->Q' e a w){o:Qbi}{a:Qbk}{w:Qbe}{K:Qbk->Qbe->Prop}(hh:o.wp P a w K Q):o.wp P a w K Q':=by{
 unfold Oper.wp at *;generalize (execOp a.eval o).run P w=r at *;have hout:LetsOut Q->LetsOut Q':=fun⟨a,w,h⟩=>⟨a,w,hQ _ _ _ (by simp) h⟩
 cases r with
 | ok n w' =>
  cases n <;> simp only[Oper.upon] at hh ⊢ <;>
   first
    | exact hh
    | exact Calls.mono hh (fun e w'' he=>by cases e <;> first | exact he | exact hQ _ _ _ (by simp) he | exact hout he)
    | exact Rows.mono hh (fun _ _ he=>he)
 | halt x w'=>cases x <;> simp only[Oper.upon] at hh ⊢ <;> first | exact hh | exact hQ _ _ _ (by simp) hh}
def Z4v (P:Program) (ops:Array Qbi) (m:Nat) (Q:Qbh->Qbk->Qbe->Prop):Qbh->Qbk->Qbe->Prop
 | .normal,a,w=>wpOp P ops Q m (fun a' w'=>Q .normal a' w') a w
 | e,a,w=>Q e a w
theorem Zgh {ops:Array Qbi}{m:Nat}{e:Qbh}{a:Qbk}{w:Qbe}(he:e≠.normal):Z4v P ops m Q e a w=Q e a w:=by
 cases e <;> first | rfl | exact absurd rfl he
def Zp7 (ops:Array Qbi):Bool :=
 ((Qo ops.size).all fun i=>match ops[i]? with
  | none=>true
  | some o=>(o.after.all fun e => !Region.binds .any e||decide (e.on<i))&&(match o.guard with | some (g,_)=>decide (g<i) | none=>true) &&
    (decide (i+1=ops.size)||(Qo ops.size).any fun j=>decide (i<j)&&leans ops j i))
structure Zto (ops:Array Qbi):Prop where
 less:∀ (i:Nat) (o:Qbi),ops[i]? = some o->∀ e∈o.after,Qg .any e=true->e.on<i
 guard:∀ (i:Nat) (o:Qbi) (g:Nat) (b:Bool),ops[i]? = some o->o.guard=some (g,b)->g<i
 used:∀ (i:Nat),i+1<ops.size->∃ j,i<j/\j<ops.size/\leans ops j i=true
theorem Zdr {ops:Array Qbi}(h:Zp7 ops=true):Zto ops:=by{
 unfold Zp7 at h;rw[Qp] at h;have hl:∀ {i:Nat} {o:Qbi},ops[i]? = some o->i<ops.size:=fun ho=>(Qc.1 ho).1
 refine⟨fun i o ho e he hb=> ?_,fun i o g b ho hg=> ?_,fun i hi=> ?_⟩
 ·have h1:=h i (Qr.2 (hl ho))
  simp only[ho,Qi] at h1;have:=Qaf.1 h1.1.1 e he
  simpa [hb] using this
 ·have h1:=h i (Qr.2 (hl ho))
  simp only[ho,Qi,hg] at h1
  simpa using h1.1.2
 ·have ho:ops[i]? = some (ops[i]'(by omega)):=Qt (by omega)
  have h1:=h i (Qr.2 (by omega));simp only[ho,Qi,Q6,decide_eq_true_eq] at h1;rcases h1.2 with h2 | h2
  ·omega
  ·obtain⟨j,hj,h3⟩:=List.any_eq_true.1 h2
   simp only[Qi,decide_eq_true_eq] at h3;exact⟨j,h3.1,Qr.1 hj,h3.2⟩}
theorem Zbm {l:List Qbi}{o:Qbi}{i:Nat}(hi:i<l.length):(l++[o]).toArray[i]? = l.toArray[i]? := by simp[Qa1 hi]
theorem Zac {l:List Qbi}{o:Qbi}:(l++[o]).toArray[l.length]? = some o:=by simp
theorem Zdn {b:Array Bool}{c d:Bool}{i:Nat}(hi:i<b.size):(b.push c).getD i d=b.getD i d:=by
 simp only[Pz,Array.getElem?_push_lt hi];rw[Qt hi]
theorem Zja {b:Array Bool}{c d:Bool}:(b.push c).getD b.size d=c:=by simp
theorem Zxw {b:Array Bool}{c d:Bool}{i:Nat}(hi:i<b.size):(b.push c).setIfInBounds i d=(b.setIfInBounds i d).push c:=by{
 apply Array.ext_getElem?;intro k;by_cases hk:k<b.size
 ·by_cases hki:i=k
  ·subst hki
   have e:(b.setIfInBounds i d).size=b.size:=by simp
   rw[Ps,e,if_neg (Nat.ne_of_lt hi)];simp[hi,Nat.lt_succ_of_lt hi]
  ·simp[Ps,hki,Nat.ne_of_lt hk]
 ·by_cases hk2:k=b.size
  ·subst hk2
   have:¬ i=b.size:=by omega
   have e:(b.setIfInBounds i d).size=b.size:=by simp
   rw[Qa4 this,Ps,Ps,e];simp
  ·have h1:¬ i=k:=by omega
   simp[Ps,h1,hk2]}
theorem Ziw {l:List Qbi}{o:Qbi}(hok:Zto (l++[o]).toArray):∀ (fuel:Nat) (listed:Array Bool) (a:Qbk) (w:Qbe),listed.size=l.length ->
  (∀ (i:Nat) (oi:Qbi),l.toArray[i]? = some oi->listed.getD i false=true->∀ e∈oi.after,Qg .any e=true->listed.getD e.on false=true) ->
  wpAny P .any l.toArray (Z4v P (l++[o]).toArray l.length Q) fuel listed a w->wpAny P .any (l++[o]).toArray Q (fuel+1) (listed.push false) a w:=by{
 have hsize:(l++[o]).toArray.size=l.length+1:=by simp
 have all_of_last:∀ (listed:Array Bool),listed.size=l.length->(∀ (i:Nat) (oi:Qbi),l.toArray[i]? = some oi->listed.getD i false=true->∀ e∈oi.after,Qg .any e=true->listed.getD e.on false=true) ->
   (∀ e∈o.after,Qg .any e=true->listed.getD e.on false=true)->∀ i,i<l.length->listed.getD i false=true:=by
  intro listed hs hcl hlast;have key:∀ k i,l.length-i<=k->i<l.length->listed.getD i false=true:=by
   intro k
   induction k with
   | zero=>intro i h1 h2;omega
   | succ k ih =>
    intro i h1 h2;obtain⟨j,hij,hj,hle⟩:=hok.used i (by rw[hsize];omega);rw[hsize] at hj;by_cases hjl:j<l.length
    ·obtain⟨e,he,hb,rfl⟩:=leans_spec (ops:=(l++[o]).toArray) (o:=l[j]) (by rw[Zbm hjl];simp[hjl]) hle
     exact hcl j _ (by simp[hjl]) (ih j (by omega) hjl) e he hb
    ·obtain rfl:j=l.length:=by omega
     obtain⟨e,he,hb,rfl⟩:=leans_spec (ops:=(l++[o]).toArray) (o:=o) Zac hle;exact hlast e he hb
  exact fun i hi=>key _ i (Qb _) hi
 have ready_low:∀ (listed:Array Bool),listed.size=l.length->∀ i,i<l.length->(i∈Qf .any (l++[o]).toArray (listed.push false)↔i∈Qf .any l.toArray listed):=by
  intro listed hs i hi;rw[mem_ready,mem_ready,Zdn (by omega),Zbm hi];refine and_congr_right fun _=>exists_congr fun oi=>and_congr_right fun ho=> ?_
  refine forall_congr' fun e=>forall_congr' fun he=>forall_congr' fun hb=> ?_
  have:=hok.less i oi (by rw[Zbm hi];exact ho) e he hb;rw[Zdn (by omega)]
 have ready_last:∀ (listed:Array Bool),listed.size=l.length->(l.length∈Qf .any (l++[o]).toArray (listed.push false)↔∀ e∈o.after,Qg .any e=true->listed.getD e.on false=true):=by
  intro listed hs;rw[mem_ready,<- hs,Zja,hs,Zac];constructor
  ·rintro⟨_,o',ho',h⟩ e he hb
   cases ho';have:=hok.less _ o Zac e he hb;have h2:=h e he hb
   rwa [Zdn (by omega)] at h2
  ·intro h
   refine⟨rfl,o,rfl,fun e he hb=> ?_⟩;have:=hok.less _ o Zac e he hb;rw[Zdn (by omega)];exact h e he hb
 have ready_lt:∀ (listed:Array Bool) i,i∈Qf .any (l++[o]).toArray listed->i<=l.length:=by
  intro listed i hi;obtain⟨_,o',ho',_⟩:=mem_ready.1 hi;have:=(Qc.1 ho').1;rw[hsize] at this;omega
 have ready_full:∀ (listed:Array Bool),listed.size=l.length->(∀ i,i<l.length->listed.getD i false=true)->Qf .any (l++[o]).toArray ((listed.push false).setIfInBounds l.length true)=[]:=by
  intro listed hs hall;rw[Pe];intro i hi;have hle:=ready_lt _ i hi;obtain⟨hun,_⟩:=mem_ready.1 hi;by_cases hil:i<l.length
  ·rw[getD_set_ne true (by omega),Zdn (by omega)] at hun
   have h1:=hall i hil;simp only[Pz,Qt (show i<listed.size by omega)] at hun h1;simp at hun h1;rw[h1] at hun;cases hun
  ·obtain rfl:i=l.length:=by omega
   simp[hs] at hun
 have last_step:∀ (fuel:Nat) (listed:Array Bool) (a:Qbk) (w:Qbe),listed.size=l.length->(∀ i,i<l.length->listed.getD i false=true)->Z4v P (l++[o]).toArray l.length Q .normal a w ->
   wpOp P (l++[o]).toArray Q l.length (wpAny P .any (l++[o]).toArray Q fuel ((listed.push false).setIfInBounds l.length true)) a w:=by
  intro fuel listed a w hs hall h;refine wpOp_mono (fun a' w' hq=> ?_) h;have hr:=ready_full listed hs hall;cases fuel with
  | zero=>exact⟨hr,hq⟩
  | succ f=>exact⟨fun _=>hq,fun i hi=>by rw[hr] at hi;cases hi⟩
 have none_ready:∀ (listed:Array Bool),listed.size=l.length->(∀ (i:Nat) (oi:Qbi),l.toArray[i]? = some oi->listed.getD i false=true->∀ e∈oi.after,Qg .any e=true->listed.getD e.on false=true) ->
   Qf .any (l++[o]).toArray (listed.push false)≠[]:=by
  intro listed hs hcl hnil;have all:∀ k i,i<k->i<l.length->listed.getD i false=true:=by
   intro k
   induction k with
   | zero=>intro i h;omega
   | succ k ih =>
    intro i hik hi;cases hlst:listed.getD i false with
    | true=>rfl
    | false =>
     have hmem:i∈Qf .any (l++[o]).toArray (listed.push false):=by
      refine(ready_low listed hs i hi).2 (mem_ready.2 ⟨?_,l[i],by simp[hi],fun e he hb=> ?_⟩)
      ·have:i<listed.size:=by omega
       simp only[Pz,Qt this] at hlst ⊢
       simpa using hlst
      ·have:=hok.less i l[i] (by rw[Zbm hi];simp[hi]) e he hb
       exact ih e.on (by omega) (by omega)
     rw[hnil] at hmem;cases hmem
  have hmem:=(ready_last listed hs).2 fun e he hb=>by
   have:=hok.less _ o Zac e he hb;exact all (e.on+1) e.on (by omega) this
  rw[hnil] at hmem;cases hmem
 have wpOp_low:∀ (i:Nat) (K:Qbk->Qbe->Prop) (a:Qbk) (w:Qbe),i<l.length->wpOp P l.toArray (Z4v P (l++[o]).toArray l.length Q) i K a w->wpOp P (l++[o]).toArray Q i K a w:=by
  intro i K a w hi h;have ho:l.toArray[i]? = some l[i]:=by simp[hi]
  unfold wpOp at h ⊢;rw[Zbm hi,ho];rw[ho] at h;simp only at h ⊢;have hw:Qa l[i] (yielded (l++[o]).toArray a.tmps)=Qa l[i] (yielded l.toArray a.tmps):=by
   unfold Qa;cases hg:l[i].guard with
   | none=>rfl
   | some gb =>
    obtain⟨g,b⟩:=gb;have hgl:=hok.guard i l[i] g b (by rw[Zbm hi];exact ho) hg;have:yielded (l++[o]).toArray a.tmps g=yielded l.toArray a.tmps g:=by
     unfold yielded;rw[Zbm (by omega)]
    simp only[this]
  rw[hw];split
  ·rename_i hwt
   rw[if_pos hwt] at h;refine h.imp (Zbd fun e a w he hq=>by rwa [Zgh he] at hq) (fun hx=>⟨hx.1,?_⟩);obtain⟨a1,w1,h1⟩:=hx.2;exact⟨a1,w1,by rwa [Zgh (by simp)] at h1⟩
  ·rename_i hwt
   rwa [if_neg hwt] at h
 intro fuel
 induction fuel with
 | zero =>
  intro listed a w hs hcl h;refine⟨fun hn=>absurd hn (none_ready listed hs hcl),fun i hi=> ?_⟩;have hle:=ready_lt _ i hi;by_cases hil:i<l.length
  ·have:=(ready_low listed hs i hil).1 hi
   rw[h.1] at this;cases this
  ·obtain rfl:i=l.length:=by omega
   exact last_step 0 listed a w hs (all_of_last listed hs hcl ((ready_last listed hs).1 hi)) h.2
 | succ fuel ih =>
  intro listed a w hs hcl h;refine⟨fun hn=>absurd hn (none_ready listed hs hcl),fun i hi=> ?_⟩;have hle:=ready_lt _ i hi;by_cases hil:i<l.length
  ·have hr:=(ready_low listed hs i hil).1 hi
   have h2:=wpOp_low i _ a w hil (h.2 i hr);obtain⟨hun,oi,ho,haft⟩:=mem_ready.1 hr;refine wpOp_mono (fun a' w' hk=> ?_) h2;rw[Zxw (by omega)];refine ih (listed.setIfInBounds i true) a' w' (by simpa using hs) (fun j oj hoj hj e he hb=> ?_) hk;have hje:∀ k,listed.getD k false=true->(listed.setIfInBounds i true).getD k false=true:=by
    intro k hk;by_cases hki:i=k
    ·subst hki
     have:i<listed.size:=by omega
     simp[this]
    ·rw[getD_set_ne false hki]
     exact hk
   by_cases hji:i=j
   ·subst hji
    rw[ho] at hoj;cases hoj;exact hje _ (haft e he hb)
   ·rw[getD_set_ne false hji] at hj
    exact hje _ (hcl j oj hoj hj e he hb)
  ·obtain rfl:i=l.length:=by omega
   have hall:=all_of_last listed hs hcl ((ready_last listed hs).1 hi);have hnil:Qf .any l.toArray listed=[]:=by
    rw[Pe];intro j hj;obtain⟨hun,oj,hoj,_⟩:=mem_ready.1 hj;have hjl:j<l.length:=by have:=(Qc.1 hoj).1;simpa using this
    have h1:=hall j hjl;have:j<listed.size:=by omega
    simp only[Pz,Qt this] at hun h1;simp at hun h1;rw[h1] at hun;cases hun
   exact last_step _ listed a w hs hall (h.1 hnil)}
theorem Zal {id:Nat}{ops:Array Qbi}{a:Qbk}{w:Qbe}(hm:P.follows .mixedOrders=true) (C:Qbe->Prop) (phi:Nat->Option (Qbf->Qbe->Prop)) (fx:Nat->Option Qbf) (hne:ops.toList≠[]) (hok:okAs ops.toList.dropLast.toArray a.tmps.size=true) (hlast:Zp7 ops=true) (_:(ops.toList.getLast hne).guard=none)
  (hC:C w.drew) (hCb:∀ w w',C w->Qbq w.heap.size w w'->C w') (hst:∀ (j:Nat) (φ:Qbf->Qbe->Prop) (x:Qbf) (w w':Qbe),phi j=some φ->φ x w->Qbq w.heap.size w w'->φ x w')
  (h:wpAs P ops.toList.dropLast.toArray C phi fx (fun a w=>wpList P ops Q [ops.toList.getLast hne] a w) 0 ops.toList.dropLast a []):(Code.region id ops true).wp P Q a w:=by{
 have e:(ops.toList.dropLast++[ops.toList.getLast hne]).toArray=ops:=by
  rw[List.dropLast_concat_getLast]
 refine wp_region_any hm ?_;generalize ops.toList.dropLast=l at *;generalize ops.toList.getLast hne=o at *;subst e;have e1:(l++[o]).toArray.size=l.toArray.size+1:=by simp
 have e2:Ql (l++[o]).toArray.size false=(Ql l.toArray.size false).push false:=by
  rw[e1,Q0]
 rw[e2,e1];have hg:∀ i,(Ql l.toArray.size false).getD i false=false:=fun i=>by
  by_cases hi:i<l.toArray.size
  ·simp[Qk]
  ·simp[Qk]
 refine Ziw (Zdr hlast) _ _ a w.drew (by simp) (fun i oi _ hi=>by rw[hg i] at hi;cases hi) ?_;refine wpAny_of_as (a0:=a) (ok_of hok) (by simpa using h) hCb hst (fun a w hq=> ?_) _ _ (fun _=>Qbo) a w.drew ?_ ⟨by simp,rfl,rfl,?_,?_,fun _ _=>rfl,hC,?_,?_⟩
 ·show wpOp P (l++[o]).toArray Q l.length (fun a' w'=>Q .normal a' w') a w
  unfold wpOp;rw[Zac];exact hq
 ·unfold left
  exact Qm (Pr _ _) (by simp)
 ·intro i o _ hl
  rw[hg i] at hl;cases hl
 ·intro i o d _ hl
  rw[hg i] at hl;cases hl
 ·intro c _ i hl
  rw[hg i] at hl;cases hl
 ·intro c _ i o φ _ hl
  rw[hg i] at hl;cases hl}
end
section
variable {P : Program}{Q Q' : Qbh -> Qbk -> Qbe -> Prop}
theorem Zhn {ops:Array Qbi}{i:Nat}{K:Qbk->Qbe->Prop}{a:Qbk}{w:Qbe}(hQ:∀ e a w,Q e a w->Q' e a w) (h:wpOp P ops Q i K a w):wpOp P ops Q' i K a w:=by{
 have hout:LetsOut Q->LetsOut Q':=fun⟨a,w,h⟩=>⟨a,w,hQ _ _ _ h⟩
 unfold wpOp at h ⊢;cases ho:ops[i]? with
 | none=>rw[ho] at h;exact h
 | some o =>
  rw[ho] at h;simp only at h ⊢;by_cases hw:Qa o (yielded ops a.tmps)=true
  ·rw[if_pos hw] at h ⊢
   exact h.imp (Zbd fun e a w _=>hQ e a w) (fun hx=>⟨hx.1,hout hx.2⟩)
  ·rw[if_neg hw] at h ⊢
   exact h}
theorem Uw {ops:Array Qbi}(hQ:∀ e a w,Q e a w->Q' e a w):∀ (fuel:Nat) (listed:Array Bool) (a:Qbk) (w:Qbe),wpAny P .any ops Q fuel listed a w->wpAny P .any ops Q' fuel listed a w
 | 0,_,_,_,h=>⟨h.1,hQ _ _ _ h.2⟩
 | fuel+1,_,_,_,h=>⟨fun hr=>hQ _ _ _ (h.1 hr),fun i hi=>wpOp_mono (fun a' w' hk=>Uw hQ fuel _ a' w' hk) (Zhn hQ (h.2 i hi))⟩
def Zfd (P:Program) (ops:Array Qbi) (Q:Qbh->Qbk->Qbe->Prop) (tail:List Qbi):Qbh->Qbk->Qbe->Prop
 | .normal,a,w=>wpList P ops Q tail a w
 | e,a,w=>Q e a w
theorem Zbf {ops:Array Qbi}{tail:List Qbi}{e:Qbh}{a:Qbk}{w:Qbe}(he:e≠.normal):Zfd P ops Q tail e a w=Q e a w:=by
 cases e <;> first | rfl | exact absurd rfl he
theorem Zch (ops:Array Qbi):∀ (tail l:List Qbi),(∀ j,0<j->j<=tail.length->Zto (l++tail.take j).toArray)->(∀ o∈tail,o.guard=none)->∀ (a:Qbk) (w:Qbe),
  wpAny P .any l.toArray (Zfd P ops Q tail) l.length (Ql l.length false) a w->wpAny P .any (l++tail).toArray Q (l.length+tail.length) (Ql (l.length+tail.length) false) a w
 | [],l,_,_,a,w,h=>by
  rw[Qat];exact Uw (fun e a w hq=>by cases e <;> exact hq) _ _ _ _ h
 | o::rest,l,hok,hgd,a,w,h=>by
  have hgo:=hgd o (Qs.2 (.inl rfl));have h1:wpAny P .any l.toArray (Z4v P (l++[o]).toArray l.length (Zfd P ops Q rest)) l.length (Ql l.length false) a w:=by
   refine Uw (fun e a w hq=> ?_) _ _ _ _ h;by_cases he:e=.normal
   ·subst he
    show wpOp P (l++[o]).toArray (Zfd P ops Q rest) l.length (fun a' w'=>wpList P ops Q rest a' w') a w;have hq':wpList P ops Q (o::rest) a w:=hq;unfold wpList at hq';unfold wpOp;rw[Zac];have hw:∀ ops',Qa o (yielded ops' a.tmps)=true:=fun ops'=>by simp[Qa,hgo]
    simp only[hw,if_true] at hq' ⊢;refine hq'.imp (Zbd fun e a w he hq=>by rwa [Zbf he]) (fun hx=>⟨hx.1,?_⟩);obtain⟨a1,w1,h1⟩:=hx.2;exact⟨a1,w1,h1⟩
   ·rw[Zgh he,Zbf he]
    rwa [Zbf he] at hq
  have hg:∀ i,(Ql l.length false).getD i false=false:=fun i=>by
   by_cases hi:i<l.length
   ·simp[Qk]
   ·simp[Qk]
  have h2:=Ziw (hok 1 Nat.one_pos (by simp)) l.length (Ql l.length false) a w (by simp) (fun i oi _ hi=>by rw[hg i] at hi;cases hi) h1;have e1:(Ql l.length false).push false=Ql (l++[o]).length false:=by rw[Qa2,List.length_singleton,Q0]
  rw[e1] at h2;have e2:l.length+1=(l++[o]).length:=by simp
  rw[e2] at h2
  have ih:=Zch ops rest (l++[o]) (fun j h0 hj=>by
   have:=hok (j+1) (by omega) (by simpa using hj);rw[List.take_succ_cons] at this
   simpa using this) (fun o' ho'=>hgd o' (Qs.2 (.inr ho'))) a w h2
  have e3:l++o::rest=l++[o]++rest:=by simp
  have e4:l.length+(o::rest).length=(l++[o]).length+rest.length:=by simp;omega
  rw[e3,e4];exact ih
def Zca (ops:Array Qbi) (m:Nat):Bool :=
 ((Qo (ops.size-m)).all fun j=>Zp7 (ops.toList.take (m+(j+1))).toArray)&&(ops.toList.drop m).all fun o=>o.guard.isNone
theorem Zb1 {id:Nat}{ops:Array Qbi}{a:Qbk}{w:Qbe}(hm:P.follows .mixedOrders=true) (m:Nat) (C:Qbe->Prop) (phi:Nat->Option (Qbf->Qbe->Prop)) (fx:Nat->Option Qbf) (hms:m<=ops.size) (hok:okAs (ops.toList.take m).toArray a.tmps.size=true) (hlast:Zca ops m=true)
  (hC:C w.drew) (hCb:∀ w w',C w->Qbq w.heap.size w w'->C w') (hst:∀ (j:Nat) (φ:Qbf->Qbe->Prop) (x:Qbf) (w w':Qbe),phi j=some φ->φ x w->Qbq w.heap.size w w'->φ x w')
  (h:wpAs P (ops.toList.take m).toArray C phi fx (fun a w=>wpList P ops Q (ops.toList.drop m) a w) 0 (ops.toList.take m) a []):(Code.region id ops true).wp P Q a w:=by{
 have e:(ops.toList.take m++ops.toList.drop m).toArray=ops:=by rw[Pa]
 have hl1:(ops.toList.take m).length=m:=by simp;omega
 have hl2:(ops.toList.take m).length+(ops.toList.drop m).length=ops.size:=by simp;omega
 refine wp_region_any hm ?_;unfold Zca at hlast;rw[Qi,Qp,Qp] at hlast
 have key:=Zch (P:=P) (Q:=Q) ops (ops.toList.drop m) (ops.toList.take m) (fun j h0 hj=>by
  have hj':j<=ops.size-m:=by simpa using hj
  have:=hlast.1 (j-1) (Qr.2 (by omega));rw[show m+(j-1+1)=m+j by omega,Qah] at this
  exact Zdr this) (fun o ho=>by simpa using hlast.2 o ho) a w.drew
 rw[hl2,e] at key;refine key ?_;rw[hl1];have hg:∀ i,(Ql m false).getD i false=false:=fun i=>by
  by_cases hi:i<m
  ·simp[Qk]
  ·simp[Qk]
 have hsz:(ops.toList.take m).toArray.size=m:=by simpa using hl1
 have h':wpAs P (ops.toList.take m).toArray C phi fx (fun a w=>wpList P ops Q (ops.toList.drop m) a w) 0 (ops.toList.take m).toArray.toList a []:=h;refine wpAny_of_as (Q:=fun a w=>wpList P ops Q (ops.toList.drop m) a w) (a0:=a) (ok_of hok) h' hCb hst (fun a w hq=>hq) _ _ (fun _=>Qbo) a w.drew ?_ ⟨by rw[hsz];simp,rfl,rfl,?_,?_,fun _ _=>rfl,hC,?_,?_⟩
 ·unfold left
  exact Qm (Pr _ _) (by simp;omega)
 ·intro i o _ hl
  rw[hg i] at hl;cases hl
 ·intro i o d _ hl
  rw[hg i] at hl;cases hl
 ·intro c _ i hl
  rw[hg i] at hl;cases hl
 ·intro c _ i o φ _ hl
  rw[hg i] at hl;cases hl}
end
theorem Zn5 {w:Qbe}{base n size cap:Nat}{t:Qbl}{ad:Qbg}{xs:List Qbf}(h:w.ownsRow base t size (.slice (some ad) n cap) n xs){j:Nat}(_:j<n*size) (u:Qbf):(w.setCell (ad.add j) u).ownsRow base t size (.slice (some ad) n cap) n (xs.set j u):=by{
 refine⟨by simpa using h.1,?_⟩;rcases h.2 with ⟨e,_⟩ | ⟨g,cap',cur,e,hb,hg,hnc,hm,hs,ht⟩
 ·cases e
 ·cases e
  have hadd:(⟨g,0,none⟩:Qbg).add j=⟨g,j,none⟩:=by unfold Addr.add;split <;> simp_all
  have hle:n*size<=cap*size:=Nat.mul_le_mul_right _ hnc;refine .inr ⟨g,cap,cur.setIfInBounds j u,rfl,hb,?_,hnc,hm,by simpa using hs,?_⟩
  ·rw[hadd]
   simp[Qai,Qaj,hg]
  ·rw[<- ht,Array.toList_setIfInBounds,List.take_set]}
theorem Zfu {w:Qbe}{base n size cap:Nat}{t:Qbl}{ad:Qbg}{xs:List Qbf}(h:w.ownsRow base t size (.slice (some ad) n cap) n xs) (j:Nat):w.frozen? (ad.add j)=false:=by{
 rcases h.2 with ⟨e,_⟩ | ⟨g,cap',cur,e,hb,hg,hnc,hm,hs,ht⟩
 ·cases e
 ·cases e
  simp only[Q9,Zh,hg];simp}
theorem Zxa {w:Qbe}{base n size cap:Nat}{t:Qbl}{ad:Qbg}{xs:List Qbf}(h:w.ownsRow base t size (.slice (some ad) n cap) n xs){j:Nat}{u:Qbf}(hu:xs[j]? = some u):w.cell? (ad.add j)=some u:=by{
 rcases h.2 with ⟨e,_⟩ | ⟨g,cap',cur,e,_⟩
 ·cases e
 ·cases e
  exact h.cells (g:=g) rfl j u hu}
theorem X1 {w:Qbe}{base n size cap:Nat}{t:Qbl}{ad:Qbg}{xs:List Qbf}(h:w.ownsRow base t size (.slice (some ad) n cap) n xs):base<=ad.block/\ad.block<w.heap.size/\n<=cap/\cap<=9223372036854775807:=by{
 rcases h.2 with ⟨e,_⟩ | ⟨g,cap',cur,e,hb,hg,hnc,hm,_⟩
 ·cases e
 ·cases e
  exact⟨hb,(Qc.1 hg).1,hnc,by unfold maxLen at hm;exact hm⟩}
theorem Zy {w w':Qbe}{base n size:Nat}{t:Qbl}{v:Qbf}{xs:List Qbf}(h:w.ownsRow base t size v n xs) (hb:Qbq w.heap.size w w'):w'.ownsRow base t size v n xs:=by
 refine⟨h.1,?_⟩;rcases h.2 with h | ⟨g,cap',cur,e,hb',hg,r⟩
 ·exact .inl h
 ·exact .inr ⟨g,cap',cur,e,hb',by rw[hb.block g (Qc.1 hg).1];exact hg,r⟩
theorem Yo {w:Qbe}{base n size:Nat}{t:Qbl}{v:Qbf}{xs:List Qbf}(h:w.ownsRow base t size v n xs):∃ A c,v=.slice A n c/\n<=c/\c<=9223372036854775807/\v.ownBlock=A.map (·.block)/\(0<n->∃ ad,A=some ad):=by{
 rcases h.2 with ⟨e,e2⟩ | ⟨g,cap',cur,e,hb,hg,hnc,hm,_⟩
 ·subst e2
  exact⟨none,0,e,by omega,by omega,by subst e;rfl,fun h=>by omega⟩
 ·exact⟨_,_,e,hnc,by unfold maxLen at hm;exact hm,by subst e;rfl,fun _=>⟨_,rfl⟩⟩}
theorem Vd {w0 a b:Qbe}{row:Option Nat}(h:w0.grownBy a row) (hb:Qbq a.heap.size a b):w0.grownBy b row :=
 ⟨hb.os.trans h.os,hb.tape.trans h.tape,hb.output.trans h.output,Qm h.size hb.size,fun k hk hne=>(hb.block k (Qn hk h.size)).trans (h.block k hk hne)⟩
theorem Zp {w0 a:Qbe}{row:Option Nat}(h:w0.grownBy a row){p:Qbg}(hp:row=some p.block) (u:Qbf):w0.grownBy (a.setCell p u) row :=
 ⟨h.os,h.tape,h.output,by simpa using h.size,fun k hk hne=>(Qa0 _ _ _ _ (fun e=>hne (by rw[hp,e]))).trans (h.block k hk hne)⟩
theorem Ye (w:Qbe) (row:Option Nat):w.grownBy w row:=⟨rfl,rfl,rfl,Qb _,fun _ _ _=>rfl⟩
theorem Zk6 {w:Qbe}{b b' s s' n n':Nat}{t t':Qbl}{v v':Qbf}{xs xs':List Qbf}(h:w.ownsRow b t s v n xs) (h':w.ownsRow b' t' s' v' n' xs') (ht:t≠t'):v'.ownBlock=none\/v'.ownBlock≠v.ownBlock:=by{
 rcases h'.2 with ⟨e,_⟩ | ⟨g,cap,cur,e,_,hg,_⟩
 ·subst e
  exact .inl rfl
 ·right
  subst e;rcases h.2 with ⟨e,_⟩ | ⟨g',cap',cur',e,_,hg',_⟩
  ·subst e
   simp[Value.ownBlock]
  ·subst e
   simp only[Value.ownBlock,ne_eq,Option.some.injEq];rintro rfl;rw[hg'] at hg;cases hg;exact ht rfl}
theorem Zbe {w:Qbe}{b s n:Nat}{t t':Qbl}{v:Qbf}{xs:List Qbf}{g:Nat}{cs:Array Qbf}{fr:Nat×Nat}(h:w.ownsRow b t s v n xs) (hg:w.heap[g]? = some (.cells cs t' fr)) (ht:t≠t'):some g≠v.ownBlock:=by{
 rcases h.2 with ⟨e,_⟩ | ⟨g',cap',cur',e,_,hg',_⟩
 ·subst e
  simp[Value.ownBlock]
 ·subst e
  simp only[Value.ownBlock,ne_eq,Option.some.injEq];rintro rfl;rw[hg'] at hg;cases hg;exact ht rfl}
theorem Zao {w:Qbe}{base base' n size:Nat}{t:Qbl}{v:Qbf}{xs:List Qbf}(h:w.ownsRow base t size v n xs) (hb:base'<=base):w.ownsRow base' t size v n xs:=by
 refine⟨h.1,h.2.imp id ?_⟩;rintro⟨g,cap,cur,h1,h2,h3⟩;exact⟨g,cap,cur,h1,Qm hb h2,h3⟩
theorem Vq {W:Qbe}{g:Nat}{a b u v:Qbf}{t:Qbl}(h:W.heap[g]? = some (.cells #[a,b] t (0,0))):∃ W1,(W.setCell ⟨g,0,none⟩ u).setCell ⟨g,1,none⟩ v=W1/\W1.heap[g]? = some (.cells #[u,v] t (0,0))/\W.grownBy W1 (some g)/\W1.heap.size=W.heap.size :=
 ⟨_,rfl,by simp[Qai,Qaj,h],Zp (p:=⟨g,1,none⟩) (Zp (p:=⟨g,0,none⟩) (Ye W (some g)) rfl u) rfl v,by simp⟩
theorem Z2u {W:Qbe}{g:Nat}{a b u:Qbf}{t:Qbl}(h:W.heap[g]? = some (.cells #[a,b] t (0,0))):∃ W1,W.setCell ⟨g,1,none⟩ u=W1/\W1.heap[g]? = some (.cells #[a,u] t (0,0))/\W.grownBy W1 (some g)/\W1.heap.size=W.heap.size :=
 ⟨_,rfl,by simp[Qai,Qaj,h],Zp (p:=⟨g,1,none⟩) (Ye W (some g)) rfl u,by simp⟩
theorem Zi {W:Qbe}{g:Nat}{a b:Qbf}{t:Qbl}(h:W.heap[g]? = some (.cells #[a,b] t (0,0))):W.cell? ⟨g,0,none⟩=some a/\W.cell? ⟨g,1,none⟩=some b/\(∀ o,W.frozen? ⟨g,o,none⟩=false)/\g<W.heap.size :=
 ⟨by simp[Qa9,h],by simp[Qa9,h],fun o=>by simp[Q9,h],(Qc.1 h).1⟩
theorem Xb {a b c:Qbe}{row:Option Nat}(h:a.grownBy b row) (h':b.grownBy c row):a.grownBy c row :=
 ⟨h'.os.trans h.os,h'.tape.trans h.tape,h'.output.trans h.output,Qm h.size h'.size,fun k hk hne=>(h'.block k (Qn hk h.size) hne).trans (h.block k hk hne)⟩
theorem Zav {w w':Qbe}{row:Option Nat}(h:w.grownBy w' row){p:Qbg}(hp:p.block<w.heap.size) (hne:some p.block≠row):w'.cell? p=w.cell? p:=Pu (h.block p.block hp hne)
theorem Yw {w:Qbe}{k:Nat}{o x:Obj}(h:w.heap[k]? = some o):(w.alloc x).heap[k]? = some o:=(Qba w x k (Qc.1 h).1).trans h
theorem Zje (w:Qbe) (a b:Qbf) (t:Qbl):∃ w1,w.alloc (.cells #[a,b] t)=w1/\w1.cell? ⟨w.heap.size,0,none⟩=some a/\w1.cell? ⟨w.heap.size,1,none⟩=some b/\w1.heap.size=w.heap.size+1/\Qbq w.heap.size w w1 :=
 ⟨_,rfl,by go_simp,by go_simp,by simp,(Qe _ _).alloc (Qb _) _⟩
theorem Yd (w:Qbe) (a b:Qbf) (t:Qbl):∃ w1,w.alloc (.cells #[a,b] t)=w1/\w1.heap[w.heap.size]? = some (.cells #[a,b] t (0,0))/\w1.heap.size=w.heap.size+1/\Qbq w.heap.size w w1 :=
 ⟨_,rfl,Qbn _ _,by simp,(Qe _ _).alloc (Qb _) _⟩
theorem Zkh (z:Qbf) (n:Nat):(madeCells #[z] (n*1)).toList=Pp n z:=by{
 have:madeCells #[z] (n*1)=Ql n z:=by
  apply Q7
  ·simp[madeCells]
  ·intro i h1 h2
   simp[madeCells,Nat.mod_one]
 rw[this];simp}
theorem Zmj {α:Type}{xs:List α}{k j:Nat}{x u:α}(hk:k<xs.length) (h:(xs.set k x)[j]? = some u):(j=k/\u=x)\/(j≠k/\xs[j]? = some u):=by{
 by_cases hj:k=j
 ·subst hj
  rw[Qak hk] at h;cases h;exact .inl ⟨rfl,rfl⟩
 ·rw[Pt hj] at h
  exact .inr ⟨fun e=>hj e.symm,h⟩}
theorem Zaj (v:Qbf) (xs:List UInt8) (w:Qbe) (hbig:xs.length<=140737488355328) (h:rBy (Old w) w [v] xs) :
  Qbp Tryz.prog 97 #[v] w fun e w'=>∃ u,e=.returned u/\rBy (New w.heap.size w') w' [u] xs/\Qbq w.heap.size w w':=by
 obtain⟨A,cap,rfl,hl,hc,hb⟩:=Xs (B:=w.heap.size) (fun _ h=>h) h;refine(Zdy A xs.length cap xs (Za rfl) hbig w hb).mono ?_;rintro e w' ⟨u,rfl,h1,h2⟩;exact⟨u,rfl,Zcw h1,h2⟩
def Zmp (w:Qbe) (B:Nat) (A:Option Qbg) (vs:List Qbf):Prop:=∀ j v,vs[j]? = some v->∃ ad,A=some ad/\ad.block<B/\w.cell? (ad.add j)=some v
theorem Zil:(Tryz.prog.info? 27).map (fun i=>(i.zero,i.size,i.bytes))=some (some (.slice none 0 0),1,24):=by kernel_rfl
theorem Zl7:(Tryz.prog.info? 98).map (fun i=>(i.zero,i.size,i.bytes))=some (some (.agg #[.int .i64 0,.slice none 0 0]),2,32):=by kernel_rfl
theorem Zkg (A:Option Qbg) (n cap:Nat) (vs:List Qbf) (hlen:Hid (vs.length=n)) (hone:∀ u∈vs,u.oneCell'=true) (hbig:n<=100000) (w:Qbe) (hx:Zmp w w.heap.size A vs) :
  Qbp Tryz.prog 228 #[.slice A n cap] w fun e w'=>∃ v,e=.returned v/\w'.ownsRow w.heap.size 27 1 v n vs/\Qbq w.heap.size w w':=by{
 obtain⟨i0,hi,hz0,hz1,hz2⟩:=info_parts Zil;have q22:∀ (w:Qbe) (a:Option Qbg) (n c n' c':Nat),(binOp .eql 23 (.slice a n c) (.slice none n' c')).run Tryz.prog w=.ok (.bool a.isNone) w:=fun w a n c n' c'=>Lib.run_eql_slice_nil w _ _ a n c n' c' Tryz.underlying23
 rcases A with _ | ad
 ·have h0:vs=[]:=by
   rcases vs with _ | ⟨v,r⟩
   ·rfl
   ·obtain⟨_,e,_⟩:=hx 0 v rfl
    cases e
  subst h0;obtain rfl:=hlen.out
  go_enter Tryz.func228,Tryz.ntmps228
  go_wp2
  go_ret;exact⟨_,rfl,Qab _ _ _ _,Qe _ _⟩
 ·go_enter Tryz.func228,Tryz.ntmps228
  go_wp2_with (at_builtin;refine wpList_append_own _ rfl _ _ 23 rfl w.heap.size 27 i0 (.slice none 0 0) 1 24 Tryz.underlying23 hi hz0 hz1 hz2 rfl (by decide) _ _ _ rfl (Qaa w #[] 0 (Qb _) (Pq _) rfl) ad n cap vs rfl ?qc1 ?qc2 hone ?qc4 ?qc5 ?qc6 ?_)
  case qc1=>rw[hlen.out,Qx]
  case qc2 =>
   intro j u hj;obtain⟨ad',e,hb,hc⟩:=hx j u hj;cases e;exact Lib.cell?_alloc_some _ hc
  case qc4=>unfold maxLen;omega
  case qc5=>omega
  case qc6=>simp
  intro v' w1 hown hgrow hnil
  go_wp2
  go_ret;refine⟨v',rfl,by simpa using hown,?_⟩;exact((Qe _ w).alloc (Qb _) _).grown hgrow (by simp) (by intro k hk;simp[Value.ownBlock] at hk;omega)}
theorem Zlj (A:Option Qbg) (n cap:Nat) (vs:List Qbf) (hlen:Hid (vs.length=n*2)) (hone:∀ u∈vs,u.oneCell'=true) (hbig:n<=100000) (w:Qbe) (hx:Zmp w w.heap.size A vs) :
  Qbp Tryz.prog 229 #[.slice A n cap] w fun e w'=>∃ v,e=.returned v/\w'.ownsRow w.heap.size 98 2 v n vs/\Qbq w.heap.size w w':=by{
 obtain⟨i0,hi,hz0,hz1,hz2⟩:=info_parts Zl7;have q22:∀ (w:Qbe) (a:Option Qbg) (n c n' c':Nat),(binOp .eql 24 (.slice a n c) (.slice none n' c')).run Tryz.prog w=.ok (.bool a.isNone) w:=fun w a n c n' c'=>Lib.run_eql_slice_nil w _ _ a n c n' c' Tryz.underlying24
 rcases A with _ | ad
 ·have h0:vs=[]:=by
   rcases vs with _ | ⟨v,r⟩
   ·rfl
   ·obtain⟨_,e,_⟩:=hx 0 v rfl
    cases e
  subst h0;obtain rfl:n=0:=by have:=hlen.out;simp at this;omega
  go_enter Tryz.func229,Tryz.ntmps229
  go_wp2
  go_ret;exact⟨_,rfl,Qab _ _ _ _,Qe _ _⟩
 ·go_enter Tryz.func229,Tryz.ntmps229
  go_wp2_with (at_builtin;refine wpList_append_own _ rfl _ _ 24 rfl w.heap.size 98 i0 (.agg #[.int .i64 0,.slice none 0 0]) 2 32 Tryz.underlying24 hi hz0 hz1 hz2 rfl (by decide) _ _ _ rfl (Qaa w #[] 0 (Qb _) (Pq _) rfl) ad n cap vs rfl ?qc1 ?qc2 hone ?qc4 ?qc5 ?qc6 ?_)
  case qc1=>rw[hlen.out]
  case qc2 =>
   intro j u hj;obtain⟨ad',e,hb,hc⟩:=hx j u hj;cases e;exact Lib.cell?_alloc_some _ hc
  case qc4=>unfold maxLen;omega
  case qc5=>omega
  case qc6=>simp
  intro v' w1 hown hgrow hnil
  go_wp2
  go_ret;refine⟨v',rfl,by simpa using hown,?_⟩;exact((Qe _ w).alloc (Qb _) _).grown hgrow (by simp) (by intro k hk;simp[Value.ownBlock] at hk;omega)}
theorem Ztk (n:Nat) (hn:n<=100000) (w:Qbe):∃ (ad:Qbg) (w':Qbe),(Instr.makeSlice 23 (.int .i64 n) (.int .i64 n)).run Tryz.prog w=.ok (.slice (some ad) n n) w'/\ad.block=w.heap.size /\
  w'.ownsRow w.heap.size 27 1 (.slice (some ad) n n) n (Pp n (.slice none 0 0))/\Qbq w.heap.size w w'/\w'.heap.size=w.heap.size+1:=by{
 obtain⟨i0,hi,hz0,hz1,hz2⟩:=info_parts Zil;have h1:=run_make (P:=Tryz.prog) w 23 27 i0 (.slice none 0 0) Tryz.underlying23 hi hz0 .i64 .i64 n n (by omega) (by omega) (by rw[hz2];omega) (by omega);rw[hz1,Int.toNat_natCast] at h1;refine⟨_,_,h1,rfl,⟨by simp,.inr ⟨_,n,_,rfl,Qb _,Qbn w _,Qb _,by unfold maxLen;omega,?_,?_⟩⟩,(Qe _ _).alloc (Qb _) _,by simp⟩
 ·have:=congrArg List.length (Zkh (.slice none 0 0) n)
  simpa [Value.cells] using this
 ·have:=Zkh (.slice none 0 0) n
  simp only[Value.cells];rw[this];simp}
theorem Zy8 (w:Qbe) (a b:Qbf):∃ w0,w0=w.alloc (.cells #[a,b] 26)/\w0.cell? ⟨w.heap.size,0,none⟩=some a/\w0.cell? ⟨w.heap.size,1,none⟩=some b/\w0.heap.size=w.heap.size+1/\Qbq w.heap.size w w0/\(∀ o,w0.frozen? ⟨w.heap.size,o,none⟩=false) :=
 ⟨_,rfl,by simp,by simp,by simp,Zb4 (Qe _ _) _,fun o=>by unfold Q9;rw[Qbn];simp⟩
theorem Znc (w:Qbe) (a b:Qbf) (o:Array Qbf) (t:Qbl):∃ w2,(w.alloc (.cells #[a,b] 26)).alloc (.cells o t)=w2/\w2.cell? ⟨w.heap.size,0,none⟩=some a/\w2.cell? ⟨w.heap.size,1,none⟩=some b/\w2.heap[w.heap.size+1]? = some (.cells o t (0,0))/\w2.heap.size=w.heap.size+2/\Qbq w.heap.size w w2:=by
 refine⟨_,rfl,by go_simp,by go_simp,?_,by simp,((Qe w.heap.size w).alloc (Qb _) _).alloc (by simp) _⟩;have:=Qbn (w.alloc (.cells #[a,b] 26)) (.cells o t)
 rwa [Qbb] at this
def Zrl (n:Nat):Int:=if (1000000:Int)<n then 1000000 else n
def Zhq:List (List UInt8)->Int
 | []=>0
 | x::r=>Zrl x.length+Zhq r
def Zhk:List Wt->Int
 | []=>0
 | x::r=>Zrl x.2.length+Zhk r
theorem Vr (n:Nat):0<=Zrl n/\Zrl n<=1000000:=by unfold Zrl;split <;> omega
theorem Ztl (xs:List (List UInt8)) (x:List UInt8):Zhq (xs++[x])=Zhq xs+Zrl x.length:=by
 induction xs with
 | nil=>simp[Zhq]
 | cons y r ih=>simp only[Q3,Zhq,ih];omega
theorem Zvb (xs:List Wt) (x:Wt):Zhk (xs++[x])=Zhk xs+Zrl x.2.length:=by
 induction xs with
 | nil=>simp[Zhk]
 | cons y r ih=>simp only[Q3,Zhk,ih];omega
theorem Znw (xs:List (List UInt8)):0<=Zhq xs/\Zhq xs<=1000000*xs.length:=by
 induction xs with
 | nil=>simp[Zhq]
 | cons y r ih=>have:=Vr y.length;simp only[Zhq,Qq];omega
theorem Zoj (xs:List Wt):0<=Zhk xs/\Zhk xs<=1000000*xs.length:=by
 induction xs with
 | nil=>simp[Zhk]
 | cons y r ih=>have:=Vr y.2.length;simp only[Zhk,Qq];omega
theorem Zyy {xs:List (List UInt8)}{x:List UInt8}(h:x∈xs):Zrl x.length<=Zhq xs:=by{
 induction xs with
 | nil=>cases h
 | cons y r ih =>
  have:=Vr y.length;have:=(Znw r).1;simp only[Zhq];rcases Qs.1 h with rfl | h
  ·omega
  ·have:=ih h;omega}
theorem Zzr {xs:List Wt}{x:Wt}(h:x∈xs):Zrl x.2.length<=Zhk xs:=by{
 induction xs with
 | nil=>cases h
 | cons y r ih =>
  have:=Vr y.2.length;have:=(Zoj r).1;simp only[Zhk];rcases Qs.1 h with rfl | h
  ·omega
  ·have:=ih h;omega}
def Zbu (d:Dk):Bool:=decide (300<d.1.length)||decide (5000<d.2.length)||(decide (600<d.2.length)&&decide (d.2.length<4096))||decide (800000<Zhq d.1+Zhk d.2)
structure Zw1 (d:Dk):Prop where
 rows:d.1.length<=100000
 waits:d.2.length<=100000
 block:∀ (k:Nat) (x:List UInt8),d.1[k]? = some x->x.length<=1000000
 wait:∀ (k:Nat) (x:Wt),d.2[k]? = some x->x.2.length<=1000000
theorem Ze0 {d:Dk}(h:Zap d=true):Zw1 d:=by
 obtain⟨h1,h2,h3,h4⟩:=Zg0 h;exact⟨by omega,by omega,fun k x hk=>by have:=h3 k x hk;omega,fun k x hk=>by have:=h4 k x hk;omega⟩
theorem Zxf {d:Dk}(h:Zbu d=false):Zw1 d:=by{
 simp only[Zbu,Bool.or_eq_false_iff,decide_eq_false_iff_not] at h;obtain⟨⟨⟨h1,h2⟩,_⟩,h4⟩:=h;have b1:=(Znw d.1).1;have b2:=(Zoj d.2).1;refine⟨by omega,by omega,fun k x hk=> ?_,fun k x hk=> ?_⟩
 ·have:=Zyy (Pv hk)
  unfold Zrl at this;split at this <;> omega
 ·have:=Zzr (Pv hk)
  unfold Zrl at this;split at this <;> omega}
theorem Zvl (v:Qbf) (d:Dk) (w:Qbe) (h:Dsk (Old w) w v d):Qbp Tryz.prog 78 #[v] w fun e w'=>e=.returned (.bool (Zbu d))/\Qbq w.heap.size w w':=by{
 obtain⟨A,c,B,c',rfl,l1,m1,l2,m2,hA,hB⟩:=h.open;have HA:=Za hA;have HB:=Za hB;clear hA hB h;have hg:Zbu d=(decide (300<d.1.length)||decide (5000<d.2.length)||(decide (600<d.2.length)&&decide (d.2.length<4096))||decide (800000<Zhq d.1+Zhk d.2)):=rfl;obtain⟨n,hn⟩:∃ n,d.1.length=n:=⟨_,rfl⟩
 obtain⟨m,hm⟩:∃ m,d.2.length=m:=⟨_,rfl⟩
 rw[hn] at l1 hg ⊢;rw[hm] at l2 hg ⊢;replace hn:=Za hn;replace hm:=Za hm;obtain⟨w0,e0,f1,f2,f3,hB1,_⟩:=Zy8 w (.slice A n c) (.slice B m c');by_cases h1:300<n
 ·have hbad:=Za (show Zbu d=true by rw[hg];simp[h1])
  replace h1:(300:Int)<n:=by omega
  clear hg;subst e0;clear f1 f2 f3
  go_enter Tryz.func78,Tryz.ntmps78
  go_wp2_with fail
  go_ret;exact⟨Yc hbad.out.symm,hB1⟩
 by_cases h2:5000<m
 ·have hbad:=Za (show Zbu d=true by rw[hg];simp[h2])
  replace h2:(5000:Int)<m:=by omega
  replace h1:¬ (300:Int)<n:=by omega
  clear hg;subst e0;clear f1 f2 f3
  go_enter Tryz.func78,Tryz.ntmps78
  go_wp2_with fail
  go_ret;exact⟨Yc hbad.out.symm,hB1⟩
 by_cases h3:600<m/\m<4096
 ·have hbad:=Za (show Zbu d=true by rw[hg];simp[h3])
  replace h2:¬ (5000:Int)<m:=by omega
  replace h1:¬ (300:Int)<n:=by omega
  have h3a:(600:Int)<m:=by omega
  have h3b:(m:Int)<4096:=by omega
  clear hg h3;subst e0;clear f1 f2 f3
  go_enter Tryz.func78,Tryz.ntmps78
  go_wp2_with fail
  go_ret;exact⟨Yc hbad.out.symm,hB1⟩
 have hgd:=Za (show Zbu d=decide (800000<Zhq d.1+Zhk d.2) by
  have e1:decide (300<n)=false:=by simpa using h1
  have e2:decide (5000<m)=false:=by simpa using h2
  have e3:(decide (600<m)&&decide (m<4096))=false:=by
   rw[Bool.and_eq_false_iff];simp only[decide_eq_false_iff_not];omega
  rw[hg,e1,e2,e3]
  rfl)
 clear hg;replace f3:=Za f3;have hn3:n<=300:=by omega
 have hm3:m<=5000:=by omega
 by_cases h6:600<m
 all_goals
  go_enter Tryz.func78,Tryz.ntmps78
  go_upto_region 1 with fail
  rw[<- e0];clear e0
  go_wp2_with fail
  go_loop [3,4] (fun s i=>∃ k:Nat,k<=n/\i=.int .i64 k/\s=.int .i64 (Zhq (d.1.take k))) (fun _ i=>n-(intOf i).toNat)
  case atStart=>exact⟨0,by omega,rfl,rfl⟩
  case round =>
   obtain⟨k,hk,rfl,rfl⟩:=hrel;have b1:=Znw (d.1.take k);have b2:(d.1.take k).length<=k:=Qbc _ _;by_cases hlt:k<n
   ·obtain⟨x,hx⟩:∃ x,d.1[k]? = some x:=⟨_,Qd (by rw[hn.out];exact hlt)⟩
    obtain⟨ad,v,rfl,hok,hc,hby⟩:=HA.out k x hx;have hsn:=Za (show Zhq (d.1.take (k+1))=Zhq (d.1.take k)+Zrl x.length by rw[Qad,hx];exact Ztl _ _);replace hx:=Za hx;obtain⟨E,ce,rfl,_⟩:=Zo hby
    replace hc:=(hB1.cell hok).trans hc;have b3:=Vr x.length;generalize Zhq (d.1.take k)=s at *;generalize (d.1.take k).length=q at *
    go_wp2_with fail
    go_round
    case rel=>exact⟨k+1,by omega,by go_num,by rw[hsn.out];rfl⟩
    case measure=>simp[intOf];omega
   ·have hge:n<=k:=by omega
    have hs1:Hid (d.1.take k=d.1):=Za (Qw (by rw[hn.out];exact hge));rw[hs1.out] at b1 ⊢;clear b2 hs1;replace b1:0<=Zhq d.1/\Zhq d.1<=300000000:=by have:=hn.out;omega
    replace hgd:=hgd.out;generalize Zhq d.1=s at *;replace hgd:=Za hgd
    go_wp2_with fail
    go_loop [3,5] (fun u i=>∃ k:Nat,k<=m/\i=.int .i64 k/\u=.int .i64 (s+Zhk (d.2.take k))) (fun _ i=>m-(intOf i).toNat)
    case atStart=>exact⟨0,by omega,rfl,by simp[Zhk]⟩
    case round =>
     obtain⟨k,hk,rfl,rfl⟩:=hrel;have c1:=Zoj (d.2.take k);have c2:(d.2.take k).length<=k:=Qbc _ _;by_cases hlt:k<m
     ·obtain⟨x,hx⟩:∃ x,d.2[k]? = some x:=⟨_,Qd (by rw[hm.out];exact hlt)⟩
      obtain⟨ad,v,rfl,hok,hok2,_,hc,hby,_,_⟩:=HB.out k x hx;have hsn:=Za (show Zhk (d.2.take (k+1))=Zhk (d.2.take k)+Zrl x.2.length by rw[Qad,hx];exact Zvb _ _);replace hx:=Za hx;obtain⟨E,ce,rfl,_⟩:=Zo hby
      replace hc:=(hB1.cell hok2).trans hc;rw[Zcg] at hc;have b3:=Vr x.2.length;generalize Zhk (d.2.take k)=t at *;generalize (d.2.take k).length=q at *
      go_wp2_with fail
      go_round
      case rel=>exact⟨k+1,by omega,by go_num,by rw[hsn.out,<- Int.add_assoc];rfl⟩
      case measure=>simp[intOf];omega
     ·have hge2:m<=k:=by omega
      have hs1:Hid (d.2.take k=d.2):=Za (Qw (by rw[hm.out];exact hge2));rw[hs1.out] at c1 ⊢;clear c2 hs1;replace c1:0<=Zhk d.2/\Zhk d.2<=5000000000:=by have:=hm.out;omega
      replace hgd:=hgd.out;generalize Zhk d.2=t at *;replace hgd:=Za hgd
      go_wp2_with fail
      go_ret;exact⟨Yc hgd.out.symm,hB1⟩}
def Xl (n:Int):Bool:=decide (0<=n)&&decide (n<256)
theorem Zb7 (n:Int) (w:Qbe):Qbp Tryz.prog 154 #[.int .i64 n] w fun e w'=>e=.returned (.bool (Xl n))/\w=w':=by{
 unfold Xl;by_cases h:0<=n
 ·go_enter Tryz.func154,Tryz.ntmps154
  go_wp2
  go_ret;exact⟨by simp[h],rfl⟩
 ·go_enter Tryz.func154,Tryz.ntmps154
  go_wp2
  go_ret;exact⟨by simp;omega,rfl⟩}
theorem Za1 (v:Qbf) (d:Dk) (w:Qbe) (h:Dsk (Old w) w v d):Qbp Tryz.prog 152 #[v] w fun e w'=>e=.returned (.int .i64 (chk d))/\Qbq w.heap.size w w':=by{
 obtain⟨A,c,B,c',rfl,l1,m1,l2,m2,hA,hB⟩:=h.open;have HA:=Za hA;have HB:=Za hB;clear hA hB h;obtain⟨n,hn⟩:∃ n,d.1.length=n:=⟨_,rfl⟩
 obtain⟨m,hm⟩:∃ m,d.2.length=m:=⟨_,rfl⟩
 rw[hn] at l1 ⊢;rw[hm] at l2 ⊢;replace hn:=Za hn;replace hm:=Za hm;have hB1:=Zb4 (Qe w.heap.size w) (.cells #[.slice A n c,.slice B m c'] 26);by_cases h1:n=256
 ·subst h1
  by_cases h2:m<=4096
  ·go_enter Tryz.func152,Tryz.ntmps152
   go_wp2_with fail
   go_loopw [20] (fun i wr=>∃ k:Nat,k<=256/\i=.int .i64 k/\(d.1.take k).all byB=true/\wr=w.alloc (.cells #[.slice A 256 c,.slice B m c'] 26)) (fun i _=>256-(intOf i).toNat)
   case atStart=>exact⟨0,by omega,rfl,rfl,rfl⟩
   case round =>
    obtain⟨k,hk,rfl,ha,rfl⟩:=hrel;replace ha:=Za ha;by_cases hlt:k<256
    ·obtain⟨x,hx⟩:∃ x,d.1[k]? = some x:=⟨_,Qd (by rw[hn.out];exact hlt)⟩
     replace hx:=Za hx;obtain⟨ad,v,rfl,hok,hc,hby⟩:=HA.out k x hx.out;obtain⟨E,ce,rfl,_⟩:=Zo hby
     have hc':=Lib.cell?_alloc_some (.cells #[.slice (some ad) 256 c,.slice B m c'] 26) hc;by_cases hx8:x.length=128
     ·replace hx8:=Za hx8
      have e8:((x.length:Int) != 128)=false:=by rw[hx8.out];rfl
      go_wp2_with fail
      go_roundw
      case rel=>exact⟨k+1,by omega,by go_num,Zpr ha.out hx.out (by simp[byB,hx8.out]),trivial⟩
      case measure=>simp[intOf];omega
     ·have e8:¬ (x.length:Int)=128:=by omega
      go_wp2_with fail
      go_ret;exact⟨Zw (Zc7 (Zu9 hx.out hx8)).symm,hB1⟩
    ·have hge:256<=k:=by omega
     have ha':Hid (d.1.all byB=true):=Za (by have:=ha.out;rwa [Qw (by rw[hn.out];exact hge)] at this);clear ha;obtain⟨w0,hw0⟩:∃ w0,w.alloc (.cells #[.slice A 256 c,.slice B m c'] 26)=w0:=⟨_,rfl⟩
     have f1:w0.cell? ⟨w.heap.size,0,none⟩=some (.slice A 256 c):=by rw[<- hw0];simp
     have f2:w0.cell? ⟨w.heap.size,1,none⟩=some (.slice B m c'):=by rw[<- hw0];simp
     have f3:w0.heap.size=w.heap.size+1:=by rw[<- hw0];simp
     rw[hw0] at hB1 ⊢;clear hw0;replace f3:=Za f3
     go_wp2_with fail
     go_loopw [31] (fun i wr=>∃ k:Nat,k<=m/\i=.int .i64 k/\(d.2.take k).all wtB=true/\Qbq w0.heap.size w0 wr) (fun i _=>m-(intOf i).toNat)
     case atStart=>exact⟨0,by omega,rfl,rfl,Qe _ _⟩
     case round =>
      obtain⟨k,hk,rfl,ha,hb⟩:=hrel;replace ha:=Za ha;by_cases hlt:k<m
      ·obtain⟨x,hx⟩:∃ x,d.2[k]? = some x:=⟨_,Qd (by rw[hm.out];exact hlt)⟩
       replace hx:=Za hx;obtain⟨ad,v,rfl,hok1,hok2,hc1,hc2,hby,_,_⟩:=HB.out k x hx.out;obtain⟨E,ce,rfl,_⟩:=Zo hby
       have hbw:=hB1.trans (hb.mono hB1.size);have g1:=(hbw.cell hok1).trans hc1;have g2:=(hbw.cell hok2).trans hc2;rw[Zcg] at g2;have g3:=(hb.cell (p:=⟨w.heap.size,1,none⟩) (by rw[f3.out];simp)).trans f2;by_cases ht:Xl x.1=true
       ·by_cases hx8:x.2.length=128
        ·replace hx8:=Za hx8
         have e8:((x.2.length:Int) != 128)=false:=by rw[hx8.out];rfl
         have hall:=Za (Zpr ha.out hx.out (by unfold Xl at ht;simp[wtB,hx8.out];simpa using ht))
         go_wp2_with fail
         refine(Zb7 _ _).mono ?_;rintro e w2 ⟨rfl,rfl⟩;rw[ht]
         go_wp2_with fail
         go_roundw
         case rel=>exact⟨k+1,by omega,by go_num,hall.out,hb.alloc hb.size _⟩
         case measure=>simp[intOf];omega
        ·have e8:((x.2.length:Int) != 128)=true:=by simp;omega
         have hbad:=Za (Zc7 (Zpw hx.out (show wtB x=false by simp[wtB,hx8])))
         go_wp2_with fail
         refine(Zb7 _ _).mono ?_;rintro e w2 ⟨rfl,rfl⟩;rw[ht]
         go_wp2_with fail
         go_ret;exact⟨Zw hbad.out.symm,hB1.trans ((hb.alloc hb.size _).mono hB1.size)⟩
       ·have ht':Xl x.1=false:=by simpa using ht
        have hbad:=Za (Zc7 (Zpw hx.out (show wtB x=false by unfold Xl at ht';simp[wtB,ht'])));clear ht
        go_wp2_with fail
        refine(Zb7 _ _).mono ?_;rintro e w2 ⟨rfl,rfl⟩;rw[ht']
        go_wp2_with fail
        go_ret;exact⟨Zw hbad.out.symm,hB1.trans ((hb.alloc hb.size _).mono hB1.size)⟩
      ·obtain rfl:k=m:=by omega
       have hok:=Za (Zu6 (Zw8 hn.out (by rw[hm.out];exact h2) ha'.out (by have:=ha.out;rwa [Qw (by rw[hm.out];exact Qb _)] at this)))
       go_wp2_with fail
       go_ret;exact⟨Zw hok.out.symm,hB1.trans (hb.mono hB1.size)⟩
  ·have h2':(4096:Int)<m:=by omega
   have hbad:=Za (Zc7 (Z0b (d:=d) (by rw[hm.out];omega)))
   go_enter Tryz.func152,Tryz.ntmps152
   go_wp2_with fail
   go_ret;exact⟨Zw hbad.out.symm,hB1⟩
 ·have h1':((n:Int) != 256)=true:=by simp;omega
  have hbad:=Za (Zc7 (Zx2 (d:=d) (by rw[hn.out];exact h1)))
  go_enter Tryz.func152,Tryz.ntmps152
  go_wp2_with fail
  go_ret;exact⟨Zw hbad.out.symm,hB1⟩}
def X6 (lo:Nat) (A:Option Qbg) (w:Qbe):Qbg->Prop:=fun p=>New lo w p/\A.map (·.block)≠some p.block
def Twn (lo:Nat) (w:Qbe) (u:Qbf) (d:Dk):Prop:=∃ a A c ps,u=.agg #[a,.slice A d.2.length c]/\rSl 1 rBy (X6 lo A w) w [a] d.1/\w.ownsRow lo 98 2 (.slice A d.2.length c) d.2.length (Xr ps)/\(.slice A d.2.length c:Qbf).ownBlock=A.map (·.block) /\
 ∀ (i:Nat) (p:Int×Qbf) (x:Wt),ps[i]? = some p->d.2[i]? = some x->p.1=x.1/\rBy (X6 lo A w) w [p.2] x.2 /\ -9223372036854775808<=x.1/\x.1<=9223372036854775807
theorem Twn.dsk {lo:Nat}{w:Qbe}{u:Qbf}{d:Dk}(h:Twn lo w u d):Dsk (New lo w) w u d:=by{
 obtain⟨a,A,c,ps,rfl,h1,h2,_,h3⟩:=h
 exact⟨_,_,rfl,Zv Zf _ _ _ _ _ _ (fun p v hp hc=>⟨hp.1,hc⟩) h1,Zu4 h2 rfl fun i p x hp hx=>by
  obtain⟨c1,c2,c3⟩:=h3 i p x hp hx
  exact⟨c1,Zf _ _ _ _ _ _ (fun p v hp hc=>⟨hp.1,hc⟩) c2,c3⟩⟩}
theorem Zqv (v:Qbf) (d:Dk) (w:Qbe) (hs:Zw1 d) (h:Dsk (Old w) w v d):Qbp Tryz.prog 186 #[v] w fun e w'=>∃ u,e=.returned u/\Twn w.heap.size w' u d/\Qbq w.heap.size w w':=by{
 obtain⟨A,c,B,c',rfl,l1,m1,l2,m2,hA,hB⟩:=h.open;obtain⟨vs,hvl,hvc,hvo,hvb⟩:=Zrg hA;obtain⟨ps,hpl,hpc,hpo,hpb⟩:=Zuu hB;have r1:=hs.rows;have r2:=hs.waits;have HS:=Za hs;clear hA hB h hs;obtain⟨n,hn⟩:∃ n,d.1.length=n:=⟨_,rfl⟩
 obtain⟨m,hm⟩:∃ m,d.2.length=m:=⟨_,rfl⟩
 rw[hn] at l1 hvl r1 ⊢;rw[hm] at l2 hpl r2 ⊢;replace hn:=Za hn;replace hm:=Za hm;replace hvl:=Za hvl;replace hpl:=Za hpl;replace hvc:=Za hvc;replace hpc:=Za hpc;replace hvo:=Za hvo;replace hpo:=Za hpo;replace hvb:=Za hvb;replace hpb:=Za hpb;obtain⟨w2,hw2,f1,f2,f3,hsz,hB0⟩:=Znc w (.slice A n c) (.slice B m c') #[.slice none 0 0,.slice none 0 0] 26;replace hsz:=Za hsz;replace f3:=Za f3
 go_enter Tryz.func186,Tryz.ntmps186
 go_upto_region 1 with fail
 clear hw2
 refine Zal (by kernel_rfl) (fun W=>Qbq w2.heap.size w2 W) (fun i=>match i with
   | 2=>some (fun v W=>W.ownsRow w2.heap.size 27 1 v n vs)
   | 5=>some (fun v W=>W.ownsRow w2.heap.size 98 2 v m (Xr ps))
   | 7=>some (fun v W=>∃ g,v=.pointer (some ⟨g,0,none⟩)/\w2.heap.size<=g/\W.heap[g]? = some (.cells #[.slice none 0 0,.slice none 0 0] 26 (0,0)))
   | _=>none) (fun _=>none) (Qal _ _) (by kernel_rfl) (by kernel_rfl) (by kernel_rfl) (Qe _ _).drew (fun w w' h hb=>h.trans (hb.mono h.size)) ?tst ?_
 case tst =>
  intro j φ x W W' hp hx hb
  match j,hp with
  | 2,hp=>cases hp;exact Zy hx hb
  | 5,hp=>cases hp;exact Zy hx hb
  | 7,hp =>
   cases hp;obtain⟨g,e,h1,h2⟩:=hx;exact⟨g,e,h1,by rw[hb.block g (Qc.1 h2).1];exact h2⟩
 simp only[Qam,ne_eq,reduceCtorEq,not_false_eq_true,Qan,Qao,Qap];have lt0:w.heap.size<w2.heap.size:=by rw[hsz.out];omega
 repeat (first
  | (refine wpAs_skip rfl ?_;simp only[Qh,Zb,Zc,Zd])
  | (refine wpAs_pure (v := ?_) rfl rfl ?_ ?_;rotate_left;(intro W hC hE;clear hE;(have q1:=(hC.cell (p:=⟨w.heap.size,0,none⟩) lt0).trans f1);clear hC;go_simp;first | done | with_reducible rfl);simp only[Qh,Zb,Zc,Zd]))
 refine wpAs_act rfl rfl ?_ ?_
 ·intro W hC hE
  clear hE;refine does_enter (f:=228) (args:=#[.slice A n c]) ?_ ?_
  ·go_simp
  ·refine(Zkg A n c vs hvl hvo.out r1 W (fun j v hj=> ?_)).mono ?_
   ·obtain⟨ad,e,hb,hc⟩:=hvc.out j v hj
    have hbw:=hB0.trans (hC.mono hB0.size);exact⟨ad,e,Qn hb hbw.size,(hbw.cell (p:=ad.add j) (by rw[Zh];exact hb)).trans hc⟩
   ·rintro e W' ⟨v,rfl,ho,hb⟩
    exact⟨_,rfl,Zao ho hC.size,hb⟩
 simp only[Qh,Zb,Zc,Zd,envAdd];intro x10
 repeat (first
  | (refine wpAs_skip rfl ?_;simp only[Qh,Zb,Zc,Zd])
  | (refine wpAs_pure (v := ?_) rfl rfl ?_ ?_;rotate_left;(intro W hC hE;clear hE;(have q1:=(hC.cell (p:=⟨w.heap.size,1,none⟩) lt0).trans f2);clear hC;go_simp;first | done | with_reducible rfl);simp only[Qh,Zb,Zc,Zd]))
 refine wpAs_act rfl rfl ?_ ?_
 ·intro W hC hE
  clear hE;refine does_enter (f:=229) (args:=#[.slice B m c']) ?_ ?_
  ·go_simp
  ·refine(Zlj B m c' (Xr ps) (Za (by rw[Vf,hpl.out])) hpo.out r2 W (fun j v hj=> ?_)).mono ?_
   ·obtain⟨ad,e,hb,hc⟩:=hpc.out j v hj
    have hbw:=hB0.trans (hC.mono hB0.size);exact⟨ad,e,Qn hb hbw.size,(hbw.cell (p:=ad.add j) (by rw[Zh];exact hb)).trans hc⟩
   ·rintro e W' ⟨v,rfl,ho,hb⟩
    exact⟨_,rfl,Zao ho hC.size,hb⟩
 simp only[Qh,Zb,Zc,Zd,envAdd];intro x13;refine wpAs_pure (v:=.agg #[x10,x13]) rfl rfl ?_ ?_
 ·intro W hC hE
  obtain⟨A1,c1,rfl,_⟩:=Yo (hE.2.1 rfl);obtain⟨A2,c2,rfl,_⟩:=Yo (hE.1 rfl);clear hE hC
  go_simp
 simp only[Qh,Zb,Zc,Zd];refine wpAs_act rfl rfl ?_ ?_
 ·intro W hC hE
  clear hE;have hsz':=hC.size;clear hC
  go_simp
  exact⟨⟨_,rfl,hsz',Qbn _ _⟩,(Qe _ _).alloc (Qb _) _⟩
 simp only[Qh,Zb,Zc,Zd,envAdd];intro x3;refine wpAs_end fun W hC hE=> ?_
 obtain⟨⟨g,rfl,hg,hg3⟩,ho2,ho1,_⟩:=hE;obtain⟨A1,c1,rfl,e1,e2,e3,e4⟩:=Yo ho1;obtain⟨A2,c2,rfl,e5,e6,e7,e8⟩:=Yo ho2;obtain⟨k1,k2,k3,k4⟩:=Zi hg3;obtain⟨W1,hW1,g3,gr,gs⟩:=Vq (u:=.slice A1 n c1) (v:=.slice A2 m c2) hg3;have o1:=ho1.kept gr (by rw[e3];have:=Zbe ho1 hg3 (by decide);rw[e3] at this;exact .inr (Ne.symm this));have o2:=ho2.kept gr (by rw[e7];have:=Zbe ho2 hg3 (by decide);rw[e7] at this;exact .inr (Ne.symm this));have hb2:Qbq w2.heap.size w2 W1:=hC.grown gr hC.size (fun k e=>by cases e;exact hg);have hB1:=hB0.trans (hb2.mono hB0.size);have q1:=(hb2.cell (p:=⟨w.heap.size,0,none⟩) lt0).trans f1;have q2:=(hb2.cell (p:=⟨w.heap.size,1,none⟩) lt0).trans f2;obtain⟨p1,p2,p3,p4⟩:=Zi g3;have hapart:=Zk6 o1 o2 (by decide);have hnot1:=Zbe o1 g3 (by decide);have hnot2:=Zbe o2 g3 (by decide);replace g3:=Za g3;replace hg3:=Za hg3;replace gs:=Za gs;replace e3:=Za e3;replace e7:=Za e7;replace hapart:=Za hapart;replace hnot1:=Za hnot1;replace hnot2:=Za hnot2
 go_upto_block 0 with fail
 clear hW1 ho1 ho2 k1 k2 k3 k4 hC gr;have hl1:w.heap.size<=W1.heap.size:=hB1.size;have hl2:w2.heap.size<=W1.heap.size:=hb2.size
 go_wp2_with fail
 go_loopw [18] (fun i wr=>∃ k:Nat,k<=n/\i=.int .i64 k/\W1.grownBy wr (A1.map (·.block))/\∃ us:List Qbf,wr.ownsRow w2.heap.size 27 1 (.slice A1 n c1) n us/\(∀ j u,k<=j->us[j]? = some u->vs[j]? = some u) /\
   ∀ (j:Nat) (u:Qbf) (x:List UInt8),j<k->us[j]? = some u->d.1[j]? = some x->rBy (New W1.heap.size wr) wr [u] x) (fun i _=>n-(intOf i).toNat)
 case atStart=>exact⟨0,by omega,rfl,Ye _ _,vs,o1,fun j u _ h=>h,fun j u x h=>by omega⟩
 case round =>
  obtain⟨k,hk,rfl,hgr,us,hus,hus1,hus2⟩:=hrel;replace hus1:=Za hus1;replace hus2:=Za hus2;by_cases hlt:k<n
  ·obtain⟨x,hx⟩:∃ x,d.1[k]? = some x:=⟨_,Qd (by rw[hn.out];exact hlt)⟩
   obtain⟨v,hv⟩:∃ v,vs[k]? = some v:=⟨_,Qd (by rw[hvl.out];exact hlt)⟩
   obtain⟨ad,rfl,hab,hac⟩:=hvc.out k v hv;have hby:=hvb.out k v x hv hx;have hbig:=HS.out.block k x hx;obtain⟨a1,rfl⟩:=e4 (by omega);have hbk:=X1 hus;have hcw:Qbq w.heap.size w wr:=hB1.grown hgr hl1 (fun q e=>by simp at e;omega);have hc1:wr.cell? (ad.add k)=some v:=(hcw.cell (p:=ad.add k) (by rw[Zh];exact hab)).trans hac;have hc2:wr.cell? ⟨g,0,none⟩=some (.slice (some a1) n c1):=(Zav hgr (p:=⟨g,0,none⟩) p4 (by have:=hnot1.out;rw[e3.out] at this;exact this)).trans p1;have hby':=Zf.old hby hcw;replace hx:=Za hx;replace hv:=Za hv;have hf:=Zfu hus k;have hul:us.length=n*1:=hus.1;have hcu:=Zxa hus (j:=k) (Qd (by omega));generalize us[k]=u0 at hcu;replace hul:=Za hul;replace hus:=Za hus;obtain⟨Ev,cv,rfl,_⟩:=Zo hby
   have i1:(0:Int)<=(k:Int):=by omega
   have i2:(k:Int)<(n:Int):=by omega
   go_wp2_with fail
   refine Zal (by kernel_rfl) (fun W=>Qbq wr.heap.size wr W) (fun i=>match i with
     | 4=>some (fun v W=>rBy (New wr.heap.size W) W [v] x)
     | _=>none) (fun _=>none) (Qal _ _) (by kernel_rfl) (by kernel_rfl) (by kernel_rfl) (Qe _ _).drew (fun w w' h hb=>h.trans (hb.mono h.size)) ?tst1 ?_
   case tst1 =>
    intro j φ x W W' hp hx hb
    match j,hp with
    | 4,hp=>cases hp;exact Zf.new hx (Qb _) hb
   simp only[Qam,ne_eq,reduceCtorEq,not_false_eq_true,Qan,Qao,Qap];have lt1:=Qv _ _ hc2;have lt2:=Qv _ _ hcu
   repeat (first
    | (refine wpAs_skip rfl ?_;simp only[Qh,Zb,Zc,Zd])
    | (refine wpAs_pure (v := ?_) rfl rfl ?_ ?_;rotate_left;(intro W hC hE;clear hE;(have z1:=(hC.cell lt1).trans hc2);clear hC;go_simp;first | done | with_reducible rfl);simp only[Qh,Zb,Zc,Zd]))
   refine wpAs_act rfl rfl ?_ ?_
   ·intro W hC hE
    clear hE;refine does_enter (f:=97) (args:=#[.slice Ev x.length cv]) ?_ ?_
    ·go_simp
    ·refine(Zaj _ x W (by omega) (Zf.old hby' hC)).mono ?_
     rintro e W' ⟨u,rfl,ho,hb⟩;exact⟨_,rfl,Zf.mono ho hC.size,hb⟩
   simp only[Qh,Zb,Zc,Zd,envAdd];intro x27
   repeat (first
    | (refine wpAs_skip rfl ?_;simp only[Qh,Zb,Zc,Zd])
    | (refine wpAs_pure (v := ?_) rfl rfl ?_ ?_;rotate_left;(intro W hC hE;clear hE;(have z1:=(hC.cell lt1).trans hc2);clear hC;go_simp;first | done | with_reducible rfl);simp only[Qh,Zb,Zc,Zd]))
   refine wpAs_end fun W hC hE=> ?_
   obtain⟨hE,_⟩:=hE;obtain⟨Eu,cu,rfl,_⟩:=Zo hE;have z2:=(hC.cell lt2).trans hcu;have z3:=(hC.frozen lt2).trans hf
   go_wp2_with fail
   go_roundw
   case rel =>
    have hp1:(a1.add k).block<W1.heap.size:=by rw[Zh];exact(X1 o1).2.1
    refine⟨k+1,by omega,by go_num,Zp (Vd hgr hC) (by rw[Zh];rfl) _,us.set k (.slice Eu x.length cu),Zn5 (Zy hus.out hC) (by omega) _,fun j u hj hu=> ?_,fun j u y hj hu hy=> ?_⟩
    ·rw[Pt (by omega)] at hu
     exact hus1.out j u (by omega) hu
    ·by_cases hjk:k=j
     ·subst hjk
      rw[Qak (by have:=hul.out;omega)] at hu;cases hu;rw[hx.out] at hy;cases hy;exact Zf.put (Zf.mono hE hgr.size) hp1 _
     ·rw[Pt hjk] at hu
      exact Zf.put (Zf.new (hus2.out j u y (by omega) hu hy) (Qb _) hC) hp1 _
   case measure=>simp[intOf];omega
  ·have hge:n<=k:=by omega
   have hcw:Qbq w.heap.size w wr:=hB1.grown hgr hl1 (fun q e=>by
    rcases A1 with _ | a1
    ·cases e
    ·have:=(X1 o1).1
     have h2:=hsz.out;simp only[Option.map_some,Option.some.injEq] at e
     omega)
   have hcw2:Qbq w2.heap.size w2 wr:=hb2.grown hgr hl2 (fun q e=>by
    rcases A1 with _ | a1
    ·cases e
    ·have:=(X1 o1).1
     simp only[Option.map_some,Option.some.injEq] at e
     omega)
   have o2':=o2.kept hgr (by have:=hapart.out;rwa [e3.out] at this);have p1':=(Zav hgr (p:=⟨g,0,none⟩) p4 (by have:=hnot1.out;rw[e3.out] at this;exact this)).trans p1;have p2':=(Zav hgr (p:=⟨g,1,none⟩) p4 (by have:=hnot1.out;rw[e3.out] at this;exact this)).trans p2;have q2':=(hcw2.cell (p:=⟨w.heap.size,1,none⟩) lt0).trans f2;have f3':=Za ((hcw2.block (w.heap.size+1) (by rw[hsz.out];omega)).trans f3.out);have hp4':g<wr.heap.size:=Qn p4 hgr.size;have hl3:W1.heap.size<=wr.heap.size:=hgr.size
   have hus2':Hid (∀ (j:Nat) (u:Qbf) (x:List UInt8),us[j]? = some u->d.1[j]? = some x->rBy (New W1.heap.size wr) wr [u] x):=Za fun j u x hu hx=>hus2.out j u x (by
    have:=(Qj.1 hx).1;have:=hn.out
    omega) hu hx
   have hapart2:=Zk6 o2' hus (by decide);replace hus:=Za hus;have hA2:Hid (∀ q,A2.map (·.block)=some q->q<W1.heap.size):=Za fun q e=>by
    rcases A2 with _ | a
    ·cases e
    ·have:=(X1 o2).2.1
     simp only[Option.map_some,Option.some.injEq] at e;omega
   clear hus1 hus2 hgr p1 p2 p3 p4 q1 q2 g3 hg3 gs o1 o2 hB1 hb2 hB0 hnot1 hapart;replace hapart2:=Za hapart2;obtain⟨wo,rfl⟩:∃ wo:Qbe,wo=wr:=⟨_,rfl⟩
   go_wp2_with fail
   go_loopw [33] (fun i wr=>∃ k:Nat,k<=m/\i=.int .i64 k/\wo.grownBy wr (A2.map (·.block))/\∃ qs:List (Int×Qbf),wr.ownsRow w2.heap.size 98 2 (.slice A2 m c2) m (Xr qs)/\(∀ (j:Nat) (p:Int×Qbf),k<=j->qs[j]? = some p->ps[j]? = some p) /\
     ∀ (j:Nat) (p:Int×Qbf) (x:Wt),j<k->qs[j]? = some p->d.2[j]? = some x->p.1=x.1/\rBy (New wo.heap.size wr) wr [p.2] x.2 /\ -9223372036854775808<=x.1/\x.1<=9223372036854775807) (fun i _=>m-(intOf i).toNat)
   case atStart=>exact⟨0,by omega,rfl,Ye _ _,ps,o2',fun j u _ h=>h,fun j u x h=>by omega⟩
   case round =>
    obtain⟨k,hk,rfl,hgr,qs,hqs,hqs1,hqs2⟩:=hrel;replace hqs1:=Za hqs1;replace hqs2:=Za hqs2
    have hcw':Qbq w.heap.size w wr:=hcw.grown hgr hcw.size (fun q e=>by
     rcases A2 with _ | a1
     ·cases e
     ·have:=(X1 o2').1
      have h2:=hsz.out;simp only[Option.map_some,Option.some.injEq] at e
      omega)
    by_cases hlt:k<m
    ·obtain⟨x,hx⟩:∃ x,d.2[k]? = some x:=⟨_,Qd (by rw[hm.out];exact hlt)⟩
     obtain⟨pk,hv⟩:∃ v,ps[k]? = some v:=⟨_,Qd (by rw[hpl.out];exact hlt)⟩
     obtain⟨hw1,hw2⟩:=Zcd hv;obtain⟨ad,rfl,hab,hac⟩:=hpc.out _ _ hw1;obtain⟨ad',e',hab',hac'⟩:=hpc.out _ _ hw2;cases e';obtain⟨hpx,hby,_,_⟩:=hpb.out k pk x hv hx;have hbig:=HS.out.wait k x hx;obtain⟨a2,rfl⟩:=e8 (by omega);have hbk:=X1 hqs;have hc1:wr.cell? (ad.add (k*2))=some (.int .i64 pk.1):=(hcw'.cell (p:=ad.add (k*2)) (by rw[Zh];exact hab)).trans hac;have hc1':wr.cell? (ad.add (k*2+1))=some pk.2:=(hcw'.cell (p:=ad.add (k*2+1)) (by rw[Zh];exact hab)).trans hac';rw[Zcg] at hc1';have hc2:wr.cell? ⟨g,1,none⟩=some (.slice (some a2) m c2):=(Zav hgr (p:=⟨g,1,none⟩) hp4' (by have:=hnot2.out;rw[e7.out] at this;exact this)).trans p2';have hby':=Zf.old hby hcw';have hql:qs.length=m:=by have:=hqs.1;rw[Vf] at this;omega
     obtain⟨qk,hqk⟩:∃ q,qs[k]? = some q:=⟨_,Qd (by omega)⟩
     obtain⟨hz1,hz2⟩:=Zcd hqk;have hcu:=Zxa hqs hz2;have hf:=Zfu hqs (k*2+1);have hcu':=hcu;have hf':=hf;rw[Zcg] at hcu' hf';obtain⟨pi,pv⟩:=pk;obtain⟨Ev,cv,rfl,_⟩:=Zo hby
     replace hx:=Za hx;replace hv:=Za hv;replace hqk:=Za hqk;replace hql:=Za hql;replace hqs:=Za hqs;replace hpx:=Za hpx;clear hw1 hw2 hz1 hz2 hac hac' hcu hf;have i1:(0:Int)<=(k:Int):=by omega
     have i2:(k:Int)<(m:Int):=by omega
     obtain⟨wb,hwb,b1,b2,b3,hbb⟩:=Zje wr (.int .i64 pi) (.slice Ev x.2.length cv) 98;have hby2:=Zf.old hby' hbb;replace b3:=Za b3;have lt1:=Qv _ _ hc2;have lt2:=Qv _ _ hcu';have hc3:=(hbb.cell lt1).trans hc2;have hc4:=(hbb.cell lt2).trans hcu';have hc5:=(hbb.frozen lt2).trans hf';have lt3:=Qv _ _ hc3;have lt4:=Qv _ _ hc4;have lt5:=Qv _ _ b2
     go_upto_region 10 with fail
     clear hwb
     refine Zal (by kernel_rfl) (fun W=>Qbq wb.heap.size wb W) (fun i=>match i with
       | 5=>some (fun v W=>rBy (New wb.heap.size W) W [v] x.2)
       | _=>none) (fun _=>none) (Qal _ _) (by kernel_rfl) (by kernel_rfl) (by kernel_rfl) (Qe _ _).drew (fun w w' h hb=>h.trans (hb.mono h.size)) ?tst2 ?_
     case tst2 =>
      intro j φ x W W' hp hx hb
      match j,hp with
      | 5,hp=>cases hp;exact Zf.new hx (Qb _) hb
     simp only[Qam,ne_eq,reduceCtorEq,not_false_eq_true,Qan,Qao,Qap]
     repeat (first
      | (refine wpAs_skip rfl ?_;simp only[Qh,Zb,Zc,Zd])
      | (refine wpAs_pure (v := ?_) rfl rfl ?_ ?_;rotate_left;(intro W hC hE;clear hE;(have z1:=(hC.cell lt3).trans hc3;have z2:=(hC.cell lt5).trans b2);clear hC;go_simp;first | done | with_reducible rfl);simp only[Qh,Zb,Zc,Zd]))
     refine wpAs_act rfl rfl ?_ ?_
     ·intro W hC hE
      clear hE;refine does_enter (f:=97) (args:=#[.slice Ev x.2.length cv]) ?_ ?_
      ·go_simp
      ·refine(Zaj _ x.2 W (by omega) (Zf.old hby2 hC)).mono ?_
       rintro e W' ⟨u,rfl,ho,hb⟩;exact⟨_,rfl,Zf.mono ho hC.size,hb⟩
     simp only[Qh,Zb,Zc,Zd,envAdd];intro x43
     repeat (first
      | (refine wpAs_skip rfl ?_;simp only[Qh,Zb,Zc,Zd])
      | (refine wpAs_pure (v := ?_) rfl rfl ?_ ?_;rotate_left;(intro W hC hE;clear hE;(have z1:=(hC.cell lt3).trans hc3;have z2:=(hC.cell lt5).trans b2);clear hC;go_simp;first | done | with_reducible rfl);simp only[Qh,Zb,Zc,Zd]))
     refine wpAs_end fun W hC hE=> ?_
     obtain⟨hE,_⟩:=hE;obtain⟨Eu,cu,rfl,_⟩:=Zo hE;have z2:=(hC.cell lt4).trans hc4;have z3:=(hC.frozen lt4).trans hc5
     go_wp2_with fail
     go_roundw
     case rel =>
      have hp1:(a2.add (k*2+1)).block<wo.heap.size:=by rw[Zh];exact(X1 o2').2.1
      have hbW:Qbq wr.heap.size wr W:=hbb.trans (hC.mono hbb.size);rw[<- Zcg];refine⟨k+1,by omega,by go_num,Zp (Vd hgr hbW) (by rw[Zh];rfl) _,qs.set k (qk.1,.slice Eu x.2.length cu),?_,fun j p hj hp=> ?_,fun j p y hj hp hy=> ?_⟩
      ·rw[<- Zrz hqk.out]
       exact Zn5 (Zy hqs.out hbW) (by omega) _
      ·rw[Pt (by omega)] at hp
       exact hqs1.out j p (by omega) hp
      ·by_cases hjk:k=j
       ·subst hjk
        rw[Qak (by have:=hql.out;omega)] at hp;cases hp;rw[hx.out] at hy;cases hy;have e1:=hqs1.out k qk (Qb _) hqk.out;obtain⟨e2,_,b5,b6⟩:=hpb.out k qk x e1 hx.out;exact⟨e2,Zf.put (Zf.mono hE (Qm hgr.size hbb.size)) hp1 _,b5,b6⟩
       ·rw[Pt hjk] at hp
        obtain⟨c1,c2,c3⟩:=hqs2.out j p y (by omega) hp hy;exact⟨c1,Zf.put (Zf.new c2 (Qb _) hbW) hp1 _,c3⟩
     case measure=>simp[intOf];omega
    ·have hge2:m<=k:=by omega
     have z1:=(Zav hgr (p:=⟨g,0,none⟩) hp4' (by have:=hnot2.out;rw[e7.out] at this;exact this)).trans p1';have z2:=(Zav hgr (p:=⟨g,1,none⟩) hp4' (by have:=hnot2.out;rw[e7.out] at this;exact this)).trans p2'
     have hz:wr.heap[w.heap.size+1]? = some (.cells #[.slice none 0 0,.slice none 0 0] 26 (0,0)):=(hgr.block _ (by have:=hsz.out;omega) (fun e=>by
      rcases A2 with _ | a
      ·cases e
      ·have:=(X1 o2').1
       have:=hsz.out;simp only[Option.map_some,Option.some.injEq] at e
       omega)).trans f3'.out
     obtain⟨k1,k2,k3,k4⟩:=Zi hz;obtain⟨W9,hW9,g9,gr9,gs9⟩:=Vq (u:=.slice A1 n c1) (v:=.slice A2 m c2) hz;obtain⟨k5,k6,_,_⟩:=Zi g9;have y1:=hus.out.kept hgr (by have:=hapart2.out;rwa [e7.out] at this);have y2:=Zao (y1.kept gr9 (by have:=Zbe y1 hz (by decide);exact .inr (Ne.symm this))) (show w.heap.size<=w2.heap.size by omega);have y3:=Zao (hqs.kept gr9 (by have:=Zbe hqs hz (by decide);exact .inr (Ne.symm this))) (show w.heap.size<=w2.heap.size by omega);have hB9:Qbq w.heap.size w W9:=hcw'.grown gr9 hcw'.size (fun q e=>by cases e;omega)
     have hfin:Hid (Twn w.heap.size W9 (.agg #[.slice A1 n c1,.slice A2 m c2]) d):=Za (by
      have hs2:=hsz.out;have hA2o:∀ q,A2.map (·.block)=some q->q<wo.heap.size:=fun q e=>Qn (hA2.out q e) hl3
      have hmm:=hm.out;refine⟨_,A2,c2,qs,by rw[hmm],Znp (fun p hp hq=>⟨hq,fun e=> ?_⟩) y2 hn.out fun j u x hu hx=> ?_,by rw[hmm];exact y3,by rw[hmm];exact e7.out,fun j p x hp hx=> ?_⟩
      ·have:=hapart2.out
       rw[hp,e7.out] at this;rcases this with h | h
       ·cases h
       ·exact h e.symm
      ·exact Zf _ _ _ _ _ _ (fun p v hp hc=>⟨⟨⟨Qm hl1 hp.1,hp.2⟩,fun e=>by have:=hA2.out _ e;have:=hp.1;omega⟩,hc⟩) (Zf.grown (Zf.grown (hus2'.out j u x hu hx) hgr hA2.out) gr9 (fun q e=>by cases e;omega))
      ·obtain⟨c1,c2,c3⟩:=hqs2.out j p x (by
        have:=(Qj.1 hx).1
        omega) hp hx
       exact⟨c1,Zf _ _ _ _ _ _ (fun p v hp hc=>⟨⟨⟨Qm (Qm hl1 hl3) hp.1,hp.2⟩,fun e=>by have:=hA2o _ e;have:=hp.1;omega⟩,hc⟩) (Zf.grown c2 gr9 (fun q e=>by cases e;omega)),c3⟩)
     clear y1 y2 y3 hus hqs hqs1 hqs2 hgr hz g9 gr9 o2'
     go_wp2_with fail
     trace_state
     exact Qbm (v:=.agg #[.slice A1 n c1,.slice A2 m c2]) (by simp[results,Tryz.results186,go_sem,k5,k6]) rfl ⟨_,rfl,hfin.out,hB9⟩}
theorem Z0i (v:Qbf) (d:Dk) (w:Qbe) (hs:Zw1 d) (h:Dsk (Old w) w v d):Qbp Tryz.prog 186 #[v] w fun e w'=>∃ u,e=.returned u/\Dsk (New w.heap.size w') w' u d/\Qbq w.heap.size w w' :=
 (Zqv v d w hs h).mono fun _ _ ⟨u,e,h1,h2⟩=>⟨u,e,h1.dsk,h2⟩
def Za8:Dk:=(Pp 256 (Pp 128 0),[])
theorem Z0z (w:Qbe) (xs:List UInt8) (hb:xs.length<=9223372036854775807):rBy (New w.heap.size (w.alloc (.cells (Zkt xs) 5))) (w.alloc (.cells (Zkt xs) 5)) [.slice (some ⟨w.heap.size,0,none⟩) xs.length xs.length] xs :=
 Zcw (n:=xs.length) (t:=5) ⟨by simp[u8s],.inr ⟨_,xs.length,_,rfl,Qb _,Qbn w _,Qb _,by unfold maxLen;exact hb,by simp[Zkt,u8s],by simp[Zkt,u8s];exact Qw (by simp)⟩⟩
theorem Z27 (w:Qbe):Qbp Tryz.prog 55 #[] w fun e w'=>∃ u,e=.returned u/\Dsk (New w.heap.size w') w' u Za8/\Qbq w.heap.size w w':=by{
 obtain⟨w1,hw1,a1,a2,a3,hB1⟩:=Zje w (.slice none 0 0) (.slice none 0 0) 26;have hg1:w1.heap[w.heap.size]? = some (.cells #[.slice none 0 0,.slice none 0 0] 26 (0,0)):=by rw[<- hw1];exact Qbn w _
 obtain⟨ad,w2,hmk,hada,ho,hB2,hz2⟩:=Ztk 256 (by omega) w1;replace hmk:(Instr.makeSlice 23 (.int .i64 256) (.int .i64 256)).run Tryz.prog w1=.ok (.slice (some ad) 256 256) w2:=hmk;have hg2:=Za ((hB2.block w.heap.size (by omega)).trans hg1);replace hg1:=Za hg1;have hb:=X1 ho;have hBw:=hB1.trans (hB2.mono hB1.size);replace a3:=Za a3;replace hz2:=Za hz2;replace hada:=Za hada
 go_enter Tryz.func55,Tryz.ntmps55
 go_upto_region 2 with fail
 clear hw1 hmk
 go_wp2_with fail
 go_loopw [6] (fun i wr=>∃ k:Nat,k<=256/\i=.int .i64 k/\w2.grownBy wr (some ad.block)/\∃ us:List Qbf,wr.ownsRow w1.heap.size 27 1 (.slice (some ad) 256 256) 256 us /\
   ∀ (j:Nat) (u:Qbf),j<k->us[j]? = some u->rBy (New w2.heap.size wr) wr [u] (Yj 128)) (fun i _=>256-(intOf i).toNat)
 case atStart=>exact⟨0,by omega,rfl,Ye _ _,_,ho,fun j u hj=>by omega⟩
 case round =>
  obtain⟨k,hk,rfl,hgr,us,hus,hus1⟩:=hrel;replace hus1:=Za hus1;by_cases hlt:k<256
  ·have hul:us.length=256*1:=hus.1
   have hcu:=Zxa hus (j:=k) (Qd (by omega));have hf:=Zfu hus k;generalize us[k]=u0 at hcu;have hmk2:(Instr.makeSlice 27 (.int .i64 128) (.int .i64 128)).run Tryz.prog wr=.ok (.slice (some ⟨wr.heap.size,0,none⟩) 128 128) (wr.alloc (.cells (Zkt (Yj 128)) 5)):=Zei 128 (by omega) wr;have hzb:=Z0z wr (Yj 128) (by simp[Yj]);rw[Zae] at hzb;have hBr:=Zb4 (Qe wr.heap.size wr) (.cells (Zkt (Yj 128)) 5);have lt1:=Qv _ _ hcu;have z1:=(hBr.cell lt1).trans hcu;have z2:=(hBr.frozen lt1).trans hf;replace hul:=Za hul;replace hus:=Za hus;replace hzb:=Za hzb;generalize hwq:wr.alloc (.cells (Zkt (Yj 128)) 5)=wq at *;replace hwq:=Za hwq
   go_wp2_with fail
   go_roundw
   case rel =>
    have hp1:(ad.add k).block<w2.heap.size:=by rw[Zh];exact hb.2.1
    refine⟨k+1,by omega,by go_num,Zp (Vd hgr hBr) (by rw[Zh]) _,us.set k (.slice (some ⟨wr.heap.size,0,none⟩) 128 128),Zn5 (Zy hus.out hBr) (by omega) _,fun j u hj hu=> ?_⟩;rcases Zmj (by have:=hul.out;omega) hu with ⟨_,rfl⟩ | ⟨hne,hu'⟩
    ·exact Zf.put (Zf.mono hzb.out hgr.size) hp1 _
    ·exact Zf.put (Zf.new (hus1.out j u (by omega) hu') (Qb _) hBr) hp1 _
   case measure=>simp[intOf];omega
  ·have hge:256<=k:=by omega
   have hz:wr.heap[w.heap.size]? = some (.cells #[.slice none 0 0,.slice none 0 0] 26 (0,0)):=(hgr.block _ (by have:=hz2.out;have:=a3.out;omega) (fun e=>by
    have:=hada.out;have:=a3.out;simp only[Option.some.injEq] at e
    omega)).trans hg2.out
   obtain⟨k1,k2,k3,k4⟩:=Zi hz;obtain⟨W9,hW9,g9,gr9,gs9⟩:=Vq (u:=.slice (some ad) 256 256) (v:=.slice none 0 0) hz;obtain⟨k5,k6,_,_⟩:=Zi g9
   have hBr:Qbq w.heap.size w wr:=hBw.grown hgr hBw.size (fun q e=>by
    have:=hada.out;have:=a3.out;simp only[Option.some.injEq] at e
    omega)
   have hB9:Qbq w.heap.size w W9:=hBr.grown gr9 hBr.size (fun q e=>by cases e;omega);have y1:=Zao (hus.kept gr9 (by have:=Zbe hus hz (by decide);exact .inr (Ne.symm this))) (show w.heap.size<=w1.heap.size by have:=a3.out;omega)
   have hfin:Hid (Dsk (New w.heap.size W9) W9 (.agg #[.slice (some ad) 256 256,.slice none 0 0]) Za8):=Za (by
    refine⟨_,_,rfl,Zz7 y1 (by simp[Za8]) fun j u x hu hx=> ?_,⟨none,0,rfl,by simp[Za8],by omega,fun i x hi=>by simp[Za8] at hi⟩⟩;have hx':x=Yj 128:=by
     have:=Pv hx;simp only[Za8,List.mem_replicate] at this;exact this.2
    subst hx';have hjl:j<256:=by
     have:=(Qj.1 hx).1
     simpa [Za8] using this
    exact Zf.mono (Zf.grown (hus1.out j u (by omega) hu) gr9 (fun q e=>by cases e;have:=hz2.out;have:=a3.out;omega)) hBw.size)
   clear y1 hus hus1 hgr hz g9 gr9
   go_wp2_with fail
   exact Qbm (v:=.agg #[.slice (some ad) 256 256,.slice none 0 0]) (by simp[results,Tryz.results55,go_sem,k5,k6]) rfl ⟨_,rfl,hfin.out,hB9⟩}
theorem Ztw {w:Qbe}{v:Qbf}{xs:List UInt8}(h:rBy (Old w) w [v] xs) (d:Nat):(convert 27 9 v).run Tryz.prog (w.drewN d)=.ok (.string ⟨xs.toArray⟩) (w.drewN d):=by
 obtain⟨A,cap,rfl,_,_,hb⟩:=Xs (B:=w.heap.size) (fun _ h=>h) h;exact(hb.drewN d).str (P:=Tryz.prog) 27 9 5 xs.length cap rfl Tryz.underlying27 Tryz.underlying5 Tryz.underlying9
theorem Z2v (xs ys:List UInt8):(xs==ys)=decide (xs=ys):=by rw[Bool.eq_iff_iff];simp
theorem Zw2 (v u:Qbf) (xs ys:List UInt8) (w:Qbe) (hv:rBy (Old w) w [v] xs) (hu:rBy (Old w) w [u] ys) :
  Qbp Tryz.prog 105 #[v,u] w fun e w'=>e=.returned (.bool (decide (xs=ys)))/\w=w':=by{
 have s1:(convert 27 9 v).run Tryz.prog w=.ok (.string ⟨xs.toArray⟩) w:=Ztw hv 0;have s2:(convert 27 9 u).run Tryz.prog w=.ok (.string ⟨ys.toArray⟩) w:=Ztw hu 0;obtain⟨A,a,rfl,_⟩:=Zo hv;obtain⟨B,b,rfl,_⟩:=Zo hu;clear hv hu
 go_enter Tryz.func105,Tryz.ntmps105
 go_wp2_with fail
 go_ret;exact⟨Yc (Z2v xs ys),rfl⟩}
end Go.Proofs.YtmafkphcfkhokaaGreat
namespace Go.Proofs.YtmafkphcfkhokaaGreat
open Go.RowKit
def Zn2 (s:Nat):Nat:=if s % 2=1 then s / 2 ^^^ 3988292384 else s / 2
def Zc2:Nat->Nat->Nat
 | 0,s=>s
 | k+1,s=>Zn2 (Zc2 k s)
def Zc0 (s:Nat):Nat:=Zc2 4 s
def Zz0 (s:Nat):Nat:=Zc0 (s % 16) ^^^ (s / 16)
def Z3q (s:Nat) (c:UInt8):Nat:=Zz0 (Zz0 (s ^^^ c.toNat))
def Zhs (s:Nat) (xs:List UInt8):Nat:=xs.foldl Z3q s
def crc (xs:List UInt8):Nat:=Zhs 4294967295 xs ^^^ 4294967295
theorem Zdw {a b:Nat}(ha:a<4294967296) (hb:b<4294967296):a ^^^ b<4294967296:=Nat.xor_lt_two_pow (n:=32) ha hb
theorem Zyq {s:Nat}(h:s<4294967296):Zn2 s<4294967296:=by
 unfold Zn2;split
 ·exact Zdw (by omega) (by omega)
 ·omega
theorem Zh2 (k:Nat){s:Nat}(h:s<4294967296):Zc2 k s<4294967296:=by
 induction k with
 | zero=>exact h
 | succ k ih=>exact Zyq ih
theorem Zna (k s:Nat):Zc2 (k+1) s=Zn2 (Zc2 k s):=rfl
theorem Zj6 {s:Nat}(h:s<4294967296):Zc0 s<4294967296:=Zh2 4 h
theorem Zkm {s:Nat}(h:s<4294967296):Zz0 s<4294967296:=Zdw (Zj6 (by omega)) (by omega)
theorem Z2y (c:UInt8):c.toNat<4294967296:=by have:=c.toNat_lt;omega
theorem Zyr {s:Nat}(h:s<4294967296) (c:UInt8):Z3q s c<4294967296:=Zkm (Zkm (Zdw h (Z2y c)))
theorem Zjj:∀ (xs:List UInt8){s:Nat},s<4294967296->Zhs s xs<4294967296
 | [],_,h=>h
 | c::r,_,h=>Zjj r (Zyr h c)
theorem Zp4 (xs:List UInt8):crc xs<4294967296:=Zdw (Zjj xs (by omega)) (by omega)
theorem Zr4 (s:Nat) (xs:List UInt8) (c:UInt8):Zhs s (xs++[c])=Z3q (Zhs s xs) c:=by simp[Zhs]
theorem Z6e (s:Nat) (h:s<4294967296):bits .and .u32 (s:Int) 1=((s % 2:Nat):Int):=by
 have:=u32_and_nat s 1 h (by omega)
 rwa [nat_mask1] at this
theorem Z06 (s:Nat) (h:s<4294967296):bits .and .u32 (s:Int) 15=((s % 16:Nat):Int):=by
 have:=u32_and_nat s 15 h (by omega)
 rwa [nat_mask4] at this
theorem Z4m (a b:Nat) (x y:Int) (hx:x=a) (hy:y=b) (ha:a<4294967296) (hb:b<4294967296):bits .xor .u32 x y=((a ^^^ b:Nat):Int):=by
 rw[hx,hy];exact u32_xor_nat a b ha hb
theorem Zyu (s:Nat) (h:s<4294967296) (w:Qbe) :
  Qbp Tryz.prog 244 #[.int .u32 s] w fun e w'=>e=.returned (.int .u32 (Zn2 s))/\w=w':=by{
 have hb:=Z6e s h;rcases(by omega:s % 2=1\/s % 2=0) with h1 | h1
 ·have e:Hid (Zn2 s=s / 2 ^^^ 3988292384):=Za (if_pos h1)
  rw[h1] at hb;have hx:=Z4m (s / 2) 3988292384 ((s:Int) / 2) 3988292384 (by omega) (by omega) (by omega) (by omega);clear h1
  go_enter Tryz.func244,Tryz.ntmps244
  go_wp2
  go_ret;rw[e.out];exact⟨rfl,rfl⟩
 ·have e:Hid (Zn2 s=s / 2):=Za (if_neg (by omega))
  rw[h1] at hb;clear h1
  go_enter Tryz.func244,Tryz.ntmps244
  go_wp2
  go_ret;rw[e.out];exact⟨rfl,rfl⟩}
def Zdl (k:Nat):Array Qbf:=((Qo 16).map fun i=>Value.int .u32 (if i<k then (Zc0 i:Int) else 0)).toArray
theorem Vz (k:Nat):(Zdl k).size=16:=by simp[Zdl]
theorem Zy7 (k:Nat) (_:k<16):(Zdl k).setIfInBounds k (.int .u32 (Zc0 k))=Zdl (k+1):=by{
 apply Q7
 ·simp[Zdl]
 ·intro i h1 h2
  have hi:i<16:=by simpa [Zdl] using h2
  rw[Array.getElem_setIfInBounds (by rw[Vz];exact hi)];by_cases e:k=i
  ·subst e;simp[Zdl]
  ·have:i<k+1↔i<k:=by omega
   have hk:i<(Zdl k).size:=by rw[Vz];exact hi
   simp[e,this,Zdl]}
theorem Zpm (k i:Nat) (h:i<k) (hk:k<=16):(Zdl k)[i]? = some (.int .u32 (Zc0 i)):=by
 simp[Zdl,h,show i<16 by omega]
theorem Zf9 {P:Program}{w:Qbe}{g:Nat}{t:Qbl}{cur cs:Array Qbf}(hg:w.heap[g]? = some (.cells cur t (0,0))) (hl:cs.size=cur.size) (h1:∀ v∈cs.toList,v.oneCell'=true) :
  (storeCells ⟨g,0,none⟩ cs.toList).run P w=.ok () (w.setRow g cs):=by
 have:=run_storeCells_from (P:=P) g t cs.toList 0 cur w hg (by simpa using hl) h1
 simpa using this
theorem Zpf (k:Nat):∀ v∈(Zdl k).toList,v.oneCell'=true:=by
 intro v hv;simp only[Zdl,Q5,List.toList_toArray] at hv;obtain⟨i,_,rfl⟩:=hv;rfl
theorem Zqu:(Tryz.prog.info? 300).map (·.size)=some 16:=by kernel_rfl
theorem Zkv (w:Qbe) :
  Qbp Tryz.prog 217 #[] w fun e w'=>e=.returned (.agg (Zdl 16))/\Qbq w.heap.size w w':=by{
 have h0:#[Value.int .u32 0,.int .u32 0,.int .u32 0,.int .u32 0,.int .u32 0,.int .u32 0,.int .u32 0,.int .u32 0,.int .u32 0,.int .u32 0,.int .u32 0,.int .u32 0,.int .u32 0,.int .u32 0,.int .u32 0,.int .u32 0]=Zdl 0:=by kernel_rfl
 have H0:=Za h0;clear h0
 go_enter Tryz.func217,Tryz.ntmps217
 go_wp2
 rw[H0.out]
 go_loopw [4] (fun i wr=>∃ k:Nat,k<=16/\i=.int .i64 k/\wr.heap.size=w.heap.size+2/\wr.heap[w.heap.size+1]? = some (.cells (Zdl k) 300 (0,0))/\wr.heap[w.heap.size]? = some (.cells (Zdl 0) 300 (0,0))/\Qbq w.heap.size w wr)
  (fun i _=>16-(intOf i).toNat)
 case atStart=>exact⟨0,by omega,rfl,by simp,by simpa using Qbn (w.alloc (Obj.cells (Zdl 0) 300)) (Obj.cells (Zdl 0) 300),heap_alloc2_old w _ _,Zb4 (Zb4 (Qe _ _) _) _⟩
 case round =>
  obtain⟨k,hk,rfl,hs,hT,hR,hB⟩:=hrel;by_cases hlt:k<16
  ·have hd:decide ((k:Int)<16)=true:=by simp;omega
   go_wp2
   go_loop [3,9] (fun s j=>∃ m:Nat,m<=4/\j=.int .i64 m/\s=.int .u32 (Zc2 m k)) (fun _ j=>4-(intOf j).toNat)
   case atStart=>exact⟨0,by omega,rfl,rfl⟩
   case round =>
    obtain⟨m,hm,rfl,rfl⟩:=hrel;have hl:=Zh2 m (s:=k) (by omega);by_cases hm4:m<4
    ·have hh:=Za (Zna m k)
     generalize Zc2 m k=q at *
     go_wp2_with (go_at_call 244;refine(Zyu _ hl _).mono ?_;rintro e w' ⟨rfl,rfl⟩)
     go_round
     case rel=>exact⟨m+1,by omega,by go_num,by rw[hh.out]⟩
     case measure=>simp[intOf];omega
    ·obtain rfl:m=4:=by omega
     have hc:wr.cell? ⟨w.heap.size+1,k,none⟩=some (.int .u32 0):=by rw[cell_of_row _ _ _ _ _ _ hT];simp[Zdl,hlt]
     have hf:wr.frozen? ⟨w.heap.size+1,k,none⟩=false:=frozen_of_row _ _ _ _ _ hT
     go_wp2
     go_roundw
     case rel=>exact⟨k+1,by omega,by go_num,by simpa using hs,(heap_setCell_same _ _ _ _ _ _ hT).trans (by rw[<- Zy7 k hlt];rfl),(heap_setCell_other _ _ _ _ (by simp)).trans hR,hB.setCell (by simp) _⟩
     case measure=>simp[intOf];omega
  ·obtain rfl:k=16:=by omega
   have hst:=Zf9 (P:=Tryz.prog) (cs:=Zdl 16) hR (by simp[Vz]) (Zpf 16)
   go_wp2_with (refine wpList_load_row rfl 300 _ rfl (w.heap.size+1) rfl 300 (Zdl 16) (0,0) _ hT Tryz.underlying300 rfl ((Vz 16).symm ▸ Zqu) ?_)
   refine Qbm (v:=.agg (Zdl 16)) (results_cell_row Tryz.results217 _ _ w.heap.size 300 (Zdl 16) (0,0) _ rfl (setRow_heap _ _ _ _ _ _ hR) Tryz.underlying300 rfl ((Vz 16).symm ▸ Zqu)) rfl ⟨rfl,?_⟩;exact hB.trans ⟨rfl,rfl,rfl,by simp,fun k hk=>setRow_other _ _ _ _ (by omega)⟩}
theorem Zmt (w:Qbe):(storeCells ⟨w.heap.size,0,none⟩ (Zdl 16).toList).run Tryz.prog (w.alloc (Obj.cells #[Value.int .u32 0,.int .u32 0,.int .u32 0,.int .u32 0,.int .u32 0,.int .u32 0,.int .u32 0,.int .u32 0,.int .u32 0,.int .u32 0,.int .u32 0,.int .u32 0,.int .u32 0,.int .u32 0,.int .u32 0,.int .u32 0] 300))=.ok () (w.alloc (.cells (Zdl 16) 300)):=by{
 rw[Zf9 (Qbn w _) (by rw[Vz];rfl) (Zpf 16)]
 congr 1
 unfold World.setRow World.alloc
 congr 1
 apply Q7
 ·simp
 ·intro k h1 h2
  simp only[Array.getElem_modify,Array.getElem_push];have h3:k<w.heap.size+1:=by simpa using h2
  by_cases e:k<w.heap.size
  ·rw[if_neg (by omega)]
   simp[e]
  ·rw[if_pos (by omega)]
   simp[e]}
theorem Zhp (s:Nat) (xs:List UInt8) (k:Nat) (h:k<xs.length):Zhs s (xs.take (k+1))=Zz0 (Zz0 (Zhs s (xs.take k) ^^^ (xs[k]?.getD 0).toNat)):=by
 rw[List.take_succ_eq_append_getElem h,Zr4,Qd h];rfl
theorem Z5o (A:Option Qbg) (cap:Nat) (w:Qbe) :
  Qbp Tryz.prog 157 #[.slice A 0 cap] w fun e w'=>e=.returned (.int .u32 0)/\Qbq w.heap.size w w':=by{
 have hT:=Vz 16
 go_enter Tryz.func157,Tryz.ntmps157
 go_wp2_with (go_at_call 217;refine(Zkv _).mono ?_;rintro e w1 ⟨rfl,hb1⟩;have hst:=Zmt w1)
 refine wp_loop_rounds 1 ?_;rw[rounds_succ]
 go_wp2
 go_ret;exact⟨rfl,Zb4 hb1 _⟩}
theorem Zt7 (A:Option Qbg) (len cap:Nat) (xs:List UInt8) (hlen:Hid (xs.length=len)) (hlc:len<=cap) (hcap:cap<=9223372036854775807) (w:Qbe) (hx:Byt w w.heap.size A xs) :
  Qbp Tryz.prog 157 #[.slice A len cap] w fun e w'=>e=.returned (.int .u32 (crc xs:Nat))/\Qbq w.heap.size w w':=by{
 obtain rfl:=hlen.out;rcases Pn xs.length with h0 | h0
 ·have hx0:xs=[]:=Qy h0
  subst hx0;exact Z5o A cap w
 ·have hT:=Vz 16
  obtain⟨ad,rfl,hbl,hc⟩:=hx h0
  go_enter Tryz.func157,Tryz.ntmps157
  go_wp2_with (go_at_call 217;refine(Zkv _).mono ?_;rintro e w1 ⟨rfl,hb1⟩;have hst:=Zmt w1)
  have hB:=Zb4 hb1 (Obj.cells (Zdl 16) 300);have hg:=Qbn w1 (Obj.cells (Zdl 16) 300);generalize w1.alloc (Obj.cells (Zdl 16) 300)=w2 at *;generalize w1.heap.size=g at *;clear hst hb1
  go_loop [4,10] (fun s i=>∃ k:Nat,k<=xs.length/\i=.int .i64 k/\s=.int .u32 (Zhs 4294967295 (xs.take k):Nat)) (fun _ i=>xs.length-(intOf i).toNat)
  case atStart=>exact⟨0,by omega,rfl,rfl⟩
  case round =>
   obtain⟨k,hk,rfl,rfl⟩:=hrel;have hq:=Zjj (s:=4294967295) (xs.take k) (by omega);by_cases hlt:k<xs.length
   ·have hs:=Za (Zhp 4294967295 xs k hlt)
    have hcx:=(hB.cell (p:=ad.add k) (by rw[Zh];exact hbl)).trans (hc k hlt);have hxb:=(xs[k]?.getD 0).toNat_lt;have hx1:=Z4m (Zhs 4294967295 (xs.take k)) (xs[k]?.getD 0).toNat _ _ rfl rfl hq (by omega);have hr1:=Zdw hq (by omega:(xs[k]?.getD 0).toNat<4294967296);generalize xs[k]?.getD 0=c at *;generalize Zhs 4294967295 (xs.take k)=q at *;generalize q ^^^ c.toNat=r1 at *;have ha1:=Z06 r1 hr1;have hc1:w2.cell? ⟨g,r1 % 16,none⟩=some (.int .u32 (Zc0 (r1 % 16))):=by rw[cell_of_row _ _ _ _ _ _ hg];exact Zpm 16 _ (by omega) (by omega)
    have hx2:=Z4m (Zc0 (r1 % 16)) (r1 / 16) (Zc0 (r1 % 16)) ((r1:Int) / 16) rfl (by omega) (Zj6 (by omega)) (by omega);have hr2:=Zkm hr1;have he2:Zc0 (r1 % 16) ^^^ (r1 / 16)=Zz0 r1:=rfl;rw[he2] at hx2;clear he2;generalize Zz0 r1=r2 at *;have ha2:=Z06 r2 hr2;have hc2:w2.cell? ⟨g,r2 % 16,none⟩=some (.int .u32 (Zc0 (r2 % 16))):=by rw[cell_of_row _ _ _ _ _ _ hg];exact Zpm 16 _ (by omega) (by omega)
    have hx3:=Z4m (Zc0 (r2 % 16)) (r2 / 16) (Zc0 (r2 % 16)) ((r2:Int) / 16) rfl (by omega) (Zj6 (by omega)) (by omega);have hr3:=Zkm hr2;have he3:Zc0 (r2 % 16) ^^^ (r2 / 16)=Zz0 r2:=rfl;rw[he3] at hx3;clear he3;generalize Zz0 r2=r3 at *;have hm1:r1 % 16<16:=by omega
    have hm2:r2 % 16<16:=by omega
    generalize r1 % 16=i1 at *;generalize r2 % 16=i2 at *;generalize Zc0 i1=f1 at *;generalize Zc0 i2=f2 at *;clear hB hg hc hbl
    go_wp2
    go_round
    case rel=>exact⟨k+1,by omega,by go_num,by rw[hs.out]⟩
    case measure=>simp[intOf];omega
   ·obtain rfl:k=xs.length:=by omega
    rw[List.take_length] at *;have he:=Za (Z4m _ 4294967295 _ 4294967295 rfl rfl hq (by omega))
    go_wp2
    go_ret;exact⟨Zw he.out,hB⟩}
theorem Row.own {w:Qbe}{g B:Nat}{xs:List UInt8}(h:Row w g xs) (hb:B<=g) (hm:xs.length<=9223372036854775807):w.ownsRow B 5 1 (.slice (some ⟨g,0,none⟩) xs.length xs.length) xs.length (u8s xs) :=
 ⟨by simp[u8s],.inr ⟨g,xs.length,(u8s xs).toArray,rfl,hb,h,Qb _,by unfold maxLen;omega,by simp[u8s],by simp[u8s,Qw]⟩⟩
theorem Zjy {w:Qbe}{B n:Nat}{e:Qbl}{v:Qbf}{xs:List Qbf}(h:w.ownsRow B e 1 v n xs) (h0:0<n):∃ g c,v=.slice (some ⟨g,0,none⟩) n c/\B<=g/\g<w.heap.size/\n<=c/\c<=9223372036854775807:=by
 rcases h.2 with ⟨_,h'⟩ | ⟨g,cap,cur,rfl,hb,hg,hnc,hcm,_⟩
 ·omega
 ·exact⟨g,cap,rfl,hb,(Qc.1 hg).1,hnc,by unfold maxLen at hcm;exact hcm⟩
theorem Zdt {w:Qbe}{B n g c:Nat}{xs:List UInt8}(h:w.ownsRow B 5 1 (.slice (some ⟨g,0,none⟩) n c) n (u8s xs)){j:Nat}(hj:j<n):w.cell? ⟨g,j,none⟩=some (.int .u8 ((xs[j]?.getD 0).toNat:Int)):=by
 rw[h.cellAt j (by omega)];have hl:xs.length=n:=by have:=h.1;simpa [u8s] using this
 exact Zi8 xs j (by omega)
theorem Zn6 {w:Qbe}{B n g c:Nat}{xs:List UInt8}(h:w.ownsRow B 5 1 (.slice (some ⟨g,0,none⟩) n c) n (u8s xs)) (j:Nat) (x:UInt8):(w.setCell ⟨g,j,none⟩ (.int .u8 (x.toNat:Int))).ownsRow B 5 1 (.slice (some ⟨g,0,none⟩) n c) n (u8s (xs.set j x)):=by
 have:=(h.stored j (.int .u8 (x.toNat:Int))).1
 rwa [show (u8s xs).set j (.int .u8 (x.toNat:Int))=u8s (xs.set j x) by simp[u8s,List.map_set]] at this
theorem Zel {w:Qbe}{B n:Nat}{v:Qbf}{xs:List UInt8}(h:w.ownsRow B 5 1 v n (u8s xs)):xs.length=n:=by
 have:=h.1
 simpa [u8s] using this
end Go.Proofs.YtmafkphcfkhokaaGreat
namespace Go.Proofs.YtmafkphcfkhokaaGreat
open Go.ChangeShapes Go.WideShapes Go.RowKit
def Zqf {α:Type}(P:Program) (tot:Nat) (fs:List Field) (off:Nat) (R:Rel α):Prop:=∀ {H:Type} {enc:Qbl×Qbf->H} {w:Qbe} {spare:Nat->Bool} {held:Bool} {n:Nat} {cs:List Qbf},cs.length=tot ->
 (∀ f∈fs,∃ y,DataW.trod enc P w 0 spare held n f.type ((cs.drop f.offset).take (P.cellsOf f.type))=some y)->∃ a,R (Old w) w (cs.drop off) a
theorem Zh6 {α:Type}{P:Program}{tot off:Nat}{f:Field}{R:Rel α}(h0:f.offset=off) (h1:off+P.cellsOf f.type=tot) (hR:Zbo P f.type R):Zqf P tot [f] off R:=fun {H enc w spare held n cs} hl hf=>by
 obtain⟨y,hy⟩:=hf f (List.mem_singleton.2 rfl);rw[h0,Qw (by simp;omega)] at hy;exact hR hy
theorem Vv {α β:Type}{P:Program}{tot off:Nat}{f:Field}{fs:List Field}{R:Rel α}{S:Rel β}(h0:f.offset=off) (hR:Zbo P f.type R) (hS:Zqf P tot fs (off+P.cellsOf f.type) S):Zqf P tot (f::fs) off (Zbp R S):=fun {H enc w spare held n cs} hl hf=>by
 obtain⟨y,hy⟩:=hf f (List.mem_cons_self ..);rw[h0] at hy;obtain⟨a,ha⟩:=hR hy;obtain⟨b,hb⟩:=hS hl (fun g hg=>hf g (List.mem_cons_of_mem _ hg));exact⟨(a,b),_,_,by rw[<- List.drop_drop];exact(Pa _ _).symm,ha,hb⟩
theorem Ze5 {α:Type}{P:Program}{t:Qbl}{fs:Array Field}{R:Rel α}(ht:P.underlying t=some (.struct fs)) (hS:Zqf P (P.cellsOf t) fs.toList 0 R):Zbo P t R:=fun {H enc w spare held fuel cs x} h=>by
 obtain⟨ys,n,_,_,hl,hys,hf⟩:=DataW.trod_struct ht h
 obtain⟨a,ha⟩:=hS (n:=n) (enc:=enc) (spare:=spare) (held:=held) hl (fun f hm=>by
  obtain⟨j,hj⟩:=Pd hm;have hj':fs[j]? = some f:=by rw[<- Qav];exact hj
  have h1:=hf j f hj';have hlt:j<ys.length:=by
   rw[hys];exact(Qc.1 hj').1
  exact⟨ys[j],by rw[h1,Qd hlt]⟩)
 exact⟨a,ha⟩
def Zhd:Rel (List Int):=rSl 1 (rK .i64)
theorem Zt6:Zde Zhd:=Zv (Xk _)
def Zcz (n:Int):Prop := -9223372036854775808<=n/\n<=9223372036854775807
theorem Zer {ok:Qbg->Prop}{w:Qbe}{v:Qbf}{xs:List Int}(h:Zhd ok w [v] xs):∃ A cap,v=.slice A xs.length cap/\xs.length<=cap/\cap<=9223372036854775807 /\
  ∀ i x,xs[i]? = some x->∃ ad,A=some ad/\ok (ad.add i)/\w.cell? (ad.add i)=some (.int .i64 x)/\Zcz x:=by
 obtain⟨A,cap,h1,h2,h3,h4⟩:=h;refine⟨A,cap,by simpa using h1,h2,h3,fun i x hi=> ?_⟩;obtain⟨ad,vs,e1,e2,e3,rfl,b1,b2⟩:=h4 i x hi;have:=e3 0 _ rfl;rw[Qx,Q8] at this;exact⟨ad,e1,this.1,this.2,by simpa [IntKind.min,IntKind.signed,IntKind.bits] using b1,by simpa [IntKind.max,IntKind.signed,IntKind.bits] using b2⟩
def InU (n:Int):Prop:=0<=n/\n<4294967296
theorem Zz (w:Qbe) (a b c d e:Qbf) (t:Qbl):∃ w1,w.alloc (.cells #[a,b,c,d,e] t)=w1/\w1.cell? ⟨w.heap.size,0,none⟩=some a/\w1.cell? ⟨w.heap.size,1,none⟩=some b/\w1.cell? ⟨w.heap.size,2,none⟩=some c/\w1.cell? ⟨w.heap.size,3,none⟩=some d/\w1.cell? ⟨w.heap.size,4,none⟩=some e/\w1.heap.size=w.heap.size+1/\Qbq w.heap.size w w1/\w1.heap[w.heap.size]? = some (.cells #[a,b,c,d,e] t (0,0)) :=
 ⟨_,rfl,by simp,by simp,by simp,by simp,by simp,by simp,(Qe _ _).alloc (Qb _) _,Qbn _ _⟩
theorem Zsg:Zbo Tryz.prog 31 Zhd:=Zd5 Tryz.underlying31 (by kernel_rfl) (Zf8 Tryz.underlying3)
theorem Z1y {P:Program}{ρ:Qbj->Qbf}{o:Qbi}{w w':Qbe}{R:Qbf->Qbe->Prop}(t:Qbl) (a b:Qbj) (ho:o.op=.makeSlice t a b){v:Qbf}(hrun:(Instr.makeSlice t (ρ a) (ρ b)).run P w=.ok v w') (h:R v w'):doesUpon P R ((execOp ρ o).run P w):=by
 unfold execOp;simp only[ho,Sem.run_bind,Sem.run_pure,Result.andThen_ok,hrun];exact h
section
variable {P : Program}{Q : Qbh -> Qbk -> Qbe -> Prop}
def Z7 (ops:Array Qbi) (x:List (Nat×Nat)):Array Qbi :=
 (ops.toList.mapIdx fun i o=>{ o with after:=o.after++((x.filter fun e=>e.1==i).map fun e=>({ on:=e.2,ground:=.phase }:Edge)).toArray }).toArray
theorem Zcy (ops:Array Qbi) (x:List (Nat×Nat)):(Z7 ops x).size=ops.size:=by simp[Z7]
theorem Xc (ops:Array Qbi) (x:List (Nat×Nat)) (i:Nat):(Z7 ops x)[i]? = (ops[i]?).map fun o=>{ o with after:=o.after++((x.filter fun e=>e.1==i).map fun e=>({ on:=e.2,ground:=.phase }:Edge)).toArray }:=by
 simp[Z7]
def Zy3 (o:Qbi):Bool:=o.guard.isNone&&match o.op with
 | .move _=>true
 | .extract _ _=>true
 | _=>false
def Zoz (ops:Array Qbi) (i:Nat) (p:Qbi):Bool:=(Qo ops.size).all fun j=>j==i||(p.after.any fun d=>Qg .any d&&d.on==j)||match ops[j]? with
 | some oj=>oj.after.any (fun e=>Qg .any e&&e.on==i)||p.apart ops oj
 | none=>true
def Zo1 (ops:Array Qbi) (x:List (Nat×Nat)):Bool :=
 Pw ops&&x.all fun e=>match ops[e.1]?,ops[e.2]? with
  | some t,some p=>Zy3 p&&Zoz ops e.2 p&&x.all (fun e'=>e'.1 != e.2)&&p.after.all fun d => !Region.binds .any d||t.after.any fun d'=>Qg .any d'&&d'.on==d.on
  | _,_=>false
theorem Zsq {ops ops':Array Qbi}{o:Qbi}{p:Nat}{K:Qbk->Qbe->Prop}{a:Qbk}{w:Qbe}(ho:ops'[p]? = some o) (hs:Zy3 o=true) (h:wpOp P ops' Q p K a w):∃ v,Yields P ops o v a/\K (a.put o.dst v) w:=by{
 unfold Zy3 at hs;rw[Qi] at hs;obtain⟨hg,hk⟩:=hs;have hg':o.guard=none:=by simpa using hg
 have hw:∀ q,Qa o (yielded q a.tmps)=true:=fun q=>by simp[Qa,hg']
 unfold wpOp at h;rw[ho] at h;simp only[hw,if_true] at h;cases hop:o.op with
 | move x =>
  have hr:∀ w,(execOp a.eval o).run P w=.ok (.value (a.eval x)) w:=fun w=>by unfold execOp;rw[hop];rfl
  have hT:((execOp a.eval o).runT P w #[]).2=#[]:=by unfold execOp;rw[hop];rfl
  refine⟨a.eval x,.inl ⟨hw _,hr⟩,?_⟩;rcases h with h | ⟨h,_⟩
  ·unfold Oper.wp at h
   rw[hr w] at h;exact h
  ·unfold Oper.asks at h
   rw[hT] at h;simp at h
 | extract x i =>
  have key:(∃ v,∀ w,(execOp a.eval o).run P w=.ok (.value v) w)\/(∃ m,∀ w,(execOp a.eval o).run P w=.halt (.stuck m) w):=by
   unfold execOp;rw[hop]
   dsimp only
   unfold Instr.extract;cases a.eval x with
   | tuple vs =>
    dsimp only
    cases vs[i]? with
    | none=>exact .inr ⟨_,fun _=>rfl⟩
    | some u=>exact .inl ⟨u,fun _=>rfl⟩
   | _=>exact .inr ⟨_,fun _=>rfl⟩
  have hT:((execOp a.eval o).runT P w #[]).2=#[]:=by
   unfold execOp;rw[hop]
   dsimp only
   unfold Instr.extract;cases a.eval x with
   | tuple vs =>
    dsimp only
    cases vs[i]? <;> rfl
   | _=>rfl
  rcases h with h | ⟨h,_⟩
  ·unfold Oper.wp at h
   rcases key with ⟨v,hr⟩ | ⟨m,hr⟩
   ·rw[hr w] at h
    exact⟨v,.inl ⟨hw _,hr⟩,h⟩
   ·rw[hr w] at h
    exact h.elim
  ·unfold Oper.asks at h
   rw[hT] at h;simp at h
 | _=>rw[hop] at hk;cases hk}
theorem Zk1 (ops:Array Qbi) (x:List (Nat×Nat)) (tmps:Array Qbf):yielded (Z7 ops x) tmps=yielded ops tmps:=by
 funext j
 unfold yielded;rw[Xc];cases ops[j]? <;> rfl
theorem Zup {ops:Array Qbi}{x:List (Nat×Nat)}{i:Nat}{K K':Qbk->Qbe->Prop}{a:Qbk}{w:Qbe}(hK:∀ a w,K a w->K' a w) (h:wpOp P (Z7 ops x) Q i K a w):wpOp P ops Q i K' a w:=by
 refine wpOp_mono hK ?_;unfold wpOp at h ⊢;rw[Xc,Zk1] at h;cases ho:ops[i]? with
 | none=>rw[ho] at h;exact h
 | some o=>rw[ho] at h;exact h
theorem Zzb {ops:Array Qbi}{i:Nat}{p:Qbi}(hp:ops[i]? = some p) (h:Zoz ops i p=true) (listed:Array Bool) (hl:∀ d∈p.after,Qg .any d=true->listed.getD d.on false=true):Qaq .any ops listed i=true:=by{
 unfold Qaq;unfold Zoz at h;rw[hp]
 dsimp only
 rw[Qp] at h ⊢;intro j hj;have h1:=h j hj;rw[Q6,Q6] at h1 ⊢;rcases h1 with (h1 | h1) | h1
 ·exact .inl (.inl h1)
 ·obtain⟨d,hd,hx⟩:=Px.1 h1
  simp only[Qi,beq_iff_eq] at hx;have h2:=hl d hd hx.1;rw[hx.2] at h2;refine .inl (.inr ?_);by_cases hlt:j<listed.size
  ·simpa [Qk,hlt] using h2
  ·simp[Qk,hlt]
 ·exact .inr h1}
structure Z5w (ops:Array Qbi) (x:List (Nat×Nat)):Prop where
 plain:Pw ops=true
 each:∀ e∈x,∃ t p,ops[e.1]? = some t/\ops[e.2]? = some p/\Zy3 p=true/\(∀ listed:Array Bool,(∀ d∈p.after,Qg .any d=true->listed.getD d.on false=true)->Qaq .any ops listed e.2=true)/\(∀ e'∈x,e'.1≠e.2)/\∀ d∈p.after,Qg .any d=true->∃ d'∈t.after,Qg .any d'=true/\d'.on=d.on
theorem Zvi {ops:Array Qbi}{x:List (Nat×Nat)}(h:Zo1 ops x=true):Z5w ops x:=by{
 unfold Zo1 at h;rw[Qi,Qp] at h;refine⟨h.1,fun e he=> ?_⟩;have h1:=h.2 e he;cases ht:ops[e.1]? with
 | none=>rw[ht] at h1;cases h1
 | some t =>
  cases hp:ops[e.2]? with
  | none=>rw[ht,hp] at h1;cases h1
  | some p =>
   rw[ht,hp] at h1;simp only[Qi,Qp] at h1;obtain⟨⟨⟨h2,h3⟩,h4⟩,h5⟩:=h1;refine⟨t,p,rfl,rfl,h2,Zzb hp h3,fun e' he'=>by simpa using h4 e' he',fun d hd hb=> ?_⟩;have:=Qaf.1 h5 d hd;rw[hb] at this;simp only[Bool.not_true,Bool.false_or] at this;obtain⟨d',hd',hx⟩:=Px.1 this;simp only[Qi,beq_iff_eq] at hx;exact⟨d',hd',hx.1,hx.2⟩}
theorem Zsh {ops:Array Qbi}{x:List (Nat×Nat)}{listed:Array Bool}{i:Nat}(h:i∈Qf .any (Z7 ops x) listed):i∈Qf .any ops listed:=by{
 obtain⟨h1,o',ho,h2⟩:=mem_ready.1 h;rw[Xc] at ho;cases hq:ops[i]? with
 | none=>rw[hq] at ho;cases ho
 | some o =>
  rw[hq] at ho;cases ho;exact mem_ready.2 ⟨h1,o,hq,fun e he hb=>h2 e (P5.2 (.inl he)) hb⟩}
theorem Zhw {ops:Array Qbi}{x:List (Nat×Nat)}(hx:Z5w ops x){listed:Array Bool}(hsz:listed.size=ops.size){i:Nat}(h:i∈Qf .any ops listed) (hn:i∉Qf .any (Z7 ops x) listed):∃ e∈x,e.2∈Qf .any ops listed:=by{
 obtain⟨h1,o,ho,h2⟩:=mem_ready.1 h;have h3:∃ e∈x,e.1=i/\listed.getD e.2 false≠true:=by
  refine Classical.byContradiction fun hc=>hn (mem_ready.2 ⟨h1,_,by rw[Xc,ho];rfl,fun e he hb=> ?_⟩)
  rcases P5.1 he with he | he
  ·exact h2 e he hb
  ·simp only[Qar,Q5,Py,beq_iff_eq] at he
   obtain⟨e',⟨he',hi⟩,rfl⟩:=he;exact Classical.byContradiction fun hl=>hc ⟨e',he',hi,hl⟩
 obtain⟨e,he,rfl,hl⟩:=h3;obtain⟨t,p,ht,hp,_,_,_,h5⟩:=hx.each e he;rw[ho] at ht;cases ht;refine⟨e,he,mem_ready.2 ⟨?_,p,hp,fun d hd hb=> ?_⟩⟩
 ·have hlt:e.2<ops.size:=(Qc.1 hp).1
  have hlt':e.2<listed.size:=by omega
  have e1:listed.getD e.2 false=listed[e.2]:=by simp[Qk,hlt']
  have e2:listed.getD e.2 true=listed[e.2]:=by simp[Qk,hlt']
  rw[e1] at hl;rw[e2]
  simpa using hl
 ·obtain⟨d',hd',hb',e2⟩:=h5 d hd hb
  rw[<- e2];exact h2 d' hd' hb'}
theorem Zce {ops:Array Qbi}{x:List (Nat×Nat)}(hx:Z5w ops x) (hQ:∀ d v c a w,Q (.panic c) (Qh a d v) w->Q (.panic c) a w):∀ (fuel:Nat) (listed:Array Bool) (a:Qbk) (w:Qbe),listed.size=ops.size ->
  wpAny P .any (Z7 ops x) Q fuel listed a w->wpAny P .any ops Q fuel listed a w
 | 0,listed,a,w,hsz,h=>by
  refine⟨Pe.2 fun i hi=> ?_,h.2⟩;have hno:∀ j,j∉Qf .any (Z7 ops x) listed:=fun j hj=>by rw[h.1] at hj;cases hj
  obtain⟨e,he,hr⟩:=Zhw hx hsz hi (hno i);obtain⟨_,_,_,_,_,_,h4,_⟩:=hx.each e he;refine Classical.byContradiction fun _=>hno e.2 (Classical.byContradiction fun hn=> ?_)
  obtain⟨l1,o,ho,l2⟩:=mem_ready.1 hr;refine hn (mem_ready.2 ⟨l1,_,by rw[Xc,ho];rfl,fun d hd hb=> ?_⟩);rcases P5.1 hd with hd | hd
  ·exact l2 d hd hb
  ·simp only[Qar,Q5,Py,beq_iff_eq] at hd
   obtain⟨e',⟨he',hi'⟩,rfl⟩:=hd;exact absurd hi' (h4 e' he')
 | fuel+1,listed,a,w,hsz,h=>by
  obtain⟨h1,h2⟩:=h;have hsz':∀ i,(listed.setIfInBounds i true).size=ops.size:=fun i=>by simp[hsz]
  have same:∀ e∈x,e.2∈Qf .any ops listed->e.2∈Qf .any (Z7 ops x) listed:=fun e he hr=>by
   obtain⟨_,_,_,_,_,_,h4,_⟩:=hx.each e he;obtain⟨l1,o,ho,l2⟩:=mem_ready.1 hr;refine mem_ready.2 ⟨l1,_,by rw[Xc,ho];rfl,fun d hd hb=> ?_⟩;rcases P5.1 hd with hd | hd
   ·exact l2 d hd hb
   ·simp only[Qar,Q5,Py,beq_iff_eq] at hd
    obtain⟨e',⟨he',hi'⟩,rfl⟩:=hd;exact absurd hi' (h4 e' he')
  by_cases hex:∃ e∈x,e.2∈Qf .any ops listed
  ·obtain⟨e,he,hr⟩:=hex
   obtain⟨t,p,_,hp,hs,hf,h4,_⟩:=hx.each e he;have hw:=h2 e.2 (same e he hr);have hp':(Z7 ops x)[e.2]? = some p:=by
    rw[Xc,hp];have:x.filter (fun e'=>e'.1==e.2)=[]:=List.filter_eq_nil_iff.2 fun e' he'=>by simpa using h4 e' he'
    simp[this]
   obtain⟨v,hy,hk⟩:=Zsq (ops:=ops) hp' hs hw;obtain⟨_,p',hp2,hl2⟩:=mem_ready.1 hr;rw[hp] at hp2;cases hp2;refine wpAny_take (i:=e.2) (v:=v) hp hx.plain (hf listed hl2) (by simpa using hr) (fun c a w hq=>hQ _ _ _ _ _ hq) hy ?_;exact Zce hx hQ fuel _ _ _ (hsz' _) hk
  ·have hin:∀ i,i∈Qf .any ops listed->i∈Qf .any (Z7 ops x) listed:=fun i hi =>
    Classical.byContradiction fun hn=>hex (Zhw hx hsz hi hn)
   refine⟨fun h0=>h1 (Pe.2 fun i hi=> ?_),fun i hi=> ?_⟩
   ·have:=Zsh hi
    rw[h0] at this;cases this
   ·exact Zup (fun a w hk=>Zce hx hQ fuel _ a w (hsz' i) hk) (h2 i (hin i hi))
theorem Zof {ops:Array Qbi}{a:Qbk}{w:Qbe}(m:Nat) (C:Qbe->Prop) (phi:Nat->Option (Qbf->Qbe->Prop)) (fx:Nat->Option Qbf) (hms:m<=ops.size) (hok:okAs (ops.toList.take m).toArray a.tmps.size=true) (hlast:Zca ops m=true)
  (hC:C w.drew) (hCb:∀ w w',C w->Qbq w.heap.size w w'->C w') (hst:∀ (j:Nat) (φ:Qbf->Qbe->Prop) (x:Qbf) (w w':Qbe),phi j=some φ->φ x w->Qbq w.heap.size w w'->φ x w')
  (h:wpAs P (ops.toList.take m).toArray C phi fx (fun a w=>wpList P ops Q (ops.toList.drop m) a w) 0 (ops.toList.take m) a []):wpAny P .any ops Q ops.size (Ql ops.size false) a w.drew:=by{
 have e:(ops.toList.take m++ops.toList.drop m).toArray=ops:=by rw[Pa]
 have hl1:(ops.toList.take m).length=m:=by simp;omega
 have hl2:(ops.toList.take m).length+(ops.toList.drop m).length=ops.size:=by simp;omega
 unfold Zca at hlast;rw[Qi,Qp,Qp] at hlast
 have key:=Zch (P:=P) (Q:=Q) ops (ops.toList.drop m) (ops.toList.take m) (fun j h0 hj=>by
  have hj':j<=ops.size-m:=by simpa using hj
  have:=hlast.1 (j-1) (Qr.2 (by omega));rw[show m+(j-1+1)=m+j by omega,Qah] at this
  exact Zdr this) (fun o ho=>by simpa using hlast.2 o ho) a w.drew
 rw[hl2,e] at key;refine key ?_;rw[hl1];have hg:∀ i,(Ql m false).getD i false=false:=fun i=>by
  by_cases hi:i<m
  ·simp[Qk]
  ·simp[Qk]
 have hsz:(ops.toList.take m).toArray.size=m:=by simpa using hl1
 have h':wpAs P (ops.toList.take m).toArray C phi fx (fun a w=>wpList P ops Q (ops.toList.drop m) a w) 0 (ops.toList.take m).toArray.toList a []:=h;refine wpAny_of_as (Q:=fun a w=>wpList P ops Q (ops.toList.drop m) a w) (a0:=a) (ok_of hok) h' hCb hst (fun a w hq=>hq) _ _ (fun _=>Qbo) a w.drew ?_ ⟨by rw[hsz];simp,rfl,rfl,?_,?_,fun _ _=>rfl,hC,?_,?_⟩
 ·unfold left
  exact Qm (Pr _ _) (by simp;omega)
 ·intro i o _ hl
  rw[hg i] at hl;cases hl
 ·intro i o d _ hl
  rw[hg i] at hl;cases hl
 ·intro c _ i hl
  rw[hg i] at hl;cases hl
 ·intro c _ i o φ _ hl
  rw[hg i] at hl;cases hl}
theorem Xi {id:Nat}{ops ops':Array Qbi}{a:Qbk}{w:Qbe}(hm:P.follows .mixedOrders=true) (x:List (Nat×Nat)) (he:Z7 ops x=ops') (hx:Zo1 ops x=true) (hQ:∀ d v c a w,Q (.panic c) (Qh a d v) w->Q (.panic c) a w)
  (m:Nat) (C:Qbe->Prop) (phi:Nat->Option (Qbf->Qbe->Prop)) (fx:Nat->Option Qbf) (hms:m<=ops'.size) (hok:okAs (ops'.toList.take m).toArray a.tmps.size=true) (hlast:Zca ops' m=true)
  (hC:C w.drew) (hCb:∀ w w',C w->Qbq w.heap.size w w'->C w') (hst:∀ (j:Nat) (φ:Qbf->Qbe->Prop) (x:Qbf) (w w':Qbe),phi j=some φ->φ x w->Qbq w.heap.size w w'->φ x w')
  (h:wpAs P (ops'.toList.take m).toArray C phi fx (fun a w=>wpList P ops' Q (ops'.toList.drop m) a w) 0 (ops'.toList.take m) a []):(Code.region id ops true).wp P Q a w:=by
 refine wp_region_any hm ?_;refine Zce (Zvi hx) hQ _ _ _ _ (by simp) ?_;have e2:ops'.size=ops.size:=by rw[<- he];exact Zcy _ _
 have key:=Zof m C phi fx hms hok hlast hC hCb hst h;rw[e2] at key;rw[he];exact key
end
def Zyc:Nat->List Qbi->Qbk->Qbk
 | 0,_,a=>a
 | _+1,[],a=>a
 | m+1,o::r,a=>Zyc m r (a.put o.dst Qbo)
def Zp1 (ops:Array Qbi):Nat->List Qbi->Qbk->Bool
 | 0,_,_=>true
 | _+1,[],_=>false
 | m+1,o::r,a => !Region.wanted o (yielded ops a.tmps)&&Zp1 ops m r (a.put o.dst Qbo)
section
variable {P : Program}{ops : Array Qbi}{C : Qbe -> Prop}{phi : Nat -> Option (Qbf -> Qbe -> Prop)}{fx : Nat -> Option Qbf}{Q : Qbk -> Qbe -> Prop}
theorem Zlr:∀ (m:Nat){i:Nat}{l:List Qbi}{a:Qbk}{env:Env},Zp1 ops m l a=true->wpAs P ops C phi fx Q (i+m) (l.drop m) (Zyc m l a) env->wpAs P ops C phi fx Q i l a env
 | 0,_,_,_,_,_,h=>h
 | _+1,_,[],_,_,hs,_=>by cases hs
 | m+1,i,o::r,a,env,hs,h=>by
  simp only[Zp1,Qi,Qa3] at hs;refine wpAs_skip hs.1 (Zlr m hs.2 ?_);rw[show i+1+m=i+(m+1) by omega];exact h
theorem Zhr {i:Nat}{o:Qbi}{rest:List Qbi}{a:Qbk}{env:Env}{v:Qbf}(m:Nat) (hw:Qa o (yielded ops a.tmps)=true) (hp:phi i=none) (hf:fx i=none)
  (hv:∀ w,C w->seen ops o w env->(execOp a.eval o).run P w=.ok (.value v) w) (hs:Zp1 ops m rest (a.put o.dst v)=true) (h:wpAs P ops C phi fx Q (i+1+m) (rest.drop m) (Zyc m rest (a.put o.dst v)) env):wpAs P ops C phi fx Q i (o::rest) a env :=
 wpAs_pure hw hp hv (Zlr m hs h) hf
end
structure Yf (fin:Nat->Option Obj) (w w':Qbe):Prop where
 os:w'.os=w.os
 tape:w'.tape=w.tape
 output:w'.output=w.output
 size:w.heap.size<=w'.heap.size
 block:∀ k,k<w.heap.size->w'.heap[k]? = w.heap[k]? \/ ∃ o,fin k=some o/\w'.heap[k]? = some o
theorem Yf.refl (fin:Nat->Option Obj) (w:Qbe):Yf fin w w:=⟨rfl,rfl,rfl,Qb _,fun _ _=>.inl rfl⟩
theorem Yf.trans {fin:Nat->Option Obj}{a b c:Qbe}(h:Yf fin a b) (k:Yf fin b c):Yf fin a c :=
 ⟨k.os.trans h.os,k.tape.trans h.tape,k.output.trans h.output,Qm h.size k.size,fun i hi=>by
  rcases k.block i (Qn hi h.size) with e | ⟨o,e1,e2⟩
  ·rcases h.block i hi with e' | ⟨o,e1,e2⟩
   ·exact .inl (e.trans e')
   ·exact .inr ⟨o,e1,e.trans e2⟩
  ·exact .inr ⟨o,e1,e2⟩⟩
theorem Yf.drew {fin:Nat->Option Obj}{a w:Qbe}(h:Yf fin a w):Yf fin a w.drew:=⟨h.os,h.tape,h.output,h.size,h.block⟩
theorem Yf.of_below {fin:Nat->Option Obj}{a b:Qbe}(h:Qbq a.heap.size a b):Yf fin a b:=⟨h.os,h.tape,h.output,h.size,fun k hk=>.inl (h.block k hk)⟩
theorem Yf.of_grown {fin:Nat->Option Obj}{a b:Qbe}{g:Nat}{o:Obj}(h:a.grownBy b (some g)) (hf:fin g=some o) (hg:b.heap[g]? = some o):Yf fin a b :=
 ⟨h.os,h.tape,h.output,h.size,fun k hk=>by
  by_cases e:k=g
  ·subst e
   exact .inr ⟨o,hf,hg⟩
  ·exact .inl (h.block k hk (fun e'=>e (Option.some.inj e')))⟩
theorem Yf.below {fin:Nat->Option Obj}{a b:Qbe}{lo:Nat}(h:Yf fin a b) (hl:lo<=a.heap.size) (hf:∀ k,k<lo->fin k=none):Qbq lo a b :=
 ⟨h.os,h.tape,h.output,h.size,fun k hk=>by
  rcases h.block k (Qn hk hl) with e | ⟨o,e1,_⟩
  ·exact e
  ·rw[hf k hk] at e1
   cases e1⟩
theorem Yf.other {fin:Nat->Option Obj}{a b:Qbe}{k:Nat}{o:Obj}(h:Yf fin a b) (hf:fin k=none) (ha:a.heap[k]? = some o):b.heap[k]? = some o:=by{
 rcases h.block k (Qc.1 ha).1 with e | ⟨o',e1,_⟩
 ·exact e.trans ha
 ·rw[hf] at e1
  cases e1}
theorem Yf.done {fin:Nat->Option Obj}{a b:Qbe}{k:Nat}{o:Obj}(h:Yf fin a b) (hf:fin k=some o) (ha:a.heap[k]? = some o):b.heap[k]? = some o:=by{
 rcases h.block k (Qc.1 ha).1 with e | ⟨o',e1,e2⟩
 ·exact e.trans ha
 ·rw[hf] at e1
  cases e1;exact e2}
theorem Yf.box {fin:Nat->Option Obj}{a b:Qbe}{k:Nat}{o o':Obj}(h:Yf fin a b) (hf:fin k=some o') (ha:a.heap[k]? = some o):b.heap[k]? = some o\/b.heap[k]? = some o':=by{
 rcases h.block k (Qc.1 ha).1 with e | ⟨o2,e1,e2⟩
 ·exact .inl (e.trans ha)
 ·rw[hf] at e1
  cases e1;exact .inr e2}
def Ze6 (g1:Nat) (o1:Obj) (g2:Nat) (o2:Obj):Nat->Option Obj:=fun k=>if k=g1 then some o1 else if k=g2 then some o2 else none
theorem Zeu (g1:Nat) (o1:Obj) (g2:Nat) (o2:Obj):Ze6 g1 o1 g2 o2 g1=some o1:=if_pos rfl
theorem Zeq {g1 g2:Nat}(h:g2≠g1) (o1 o2:Obj):Ze6 g1 o1 g2 o2 g2=some o2:=by rw[Ze6,if_neg h,if_pos rfl]
theorem Zc8 {g1 g2 k:Nat}(h1:k≠g1) (h2:k≠g2) (o1 o2:Obj):Ze6 g1 o1 g2 o2 k=none:=by rw[Ze6,if_neg h1,if_neg h2]
end Go.Proofs.YtmafkphcfkhokaaGreat
namespace Go.Proofs.YtmafkphcfkhokaaGreat.Rk
open Go.RowKit
structure KrT where
 rel:Qbe->Qbe->Prop
 k:Nat
 C0:Qbe->Prop
def wpAs (Kr:KrT) (P:Program) (ops:Array Qbi) (C:Qbe->Prop) (phi:Nat->Option (Qbf->Qbe->Prop)) (fx:Nat->Option Qbf) (Q:Qbk->Qbe->Prop):Nat->List Qbi->Qbk->Rb.Env->Prop
 | _,[],a,env=>∀ w,C w->Rb.holds w env->Q a w
 | i,o::rest,a,env =>
  if Qa o (yielded ops a.tmps)=true then
   match phi i with
   | none =>
    match fx i with
    | none=>∃ v,(∀ w,C w->Rb.seen ops o w env->(execOp a.eval o).run P w=.ok (.value v) w)/\wpAs Kr P ops C phi fx Q (i+1) rest (a.put o.dst v) env
    | some u=>(∀ w,C w->Rb.seen ops o w env->Rb.doesUpon P (fun v w'=>v=u/\Kr.rel w w') ((execOp a.eval o).run P w))/\wpAs Kr P ops C phi fx Q (i+1) rest (a.put o.dst u) env
   | some φ=>(∀ w,C w->(i=Kr.k->Kr.C0 w)->Rb.seen ops o w env->Rb.doesUpon P (fun v w'=>φ v w'/\Kr.rel w w') ((execOp a.eval o).run P w)) /\
     ∀ v,wpAs Kr P ops C phi fx Q (i+1) rest (a.put o.dst v) (Rb.envAdd o.dst (φ v) env)
  else wpAs Kr P ops C phi fx Q (i+1) rest (a.put o.dst Qbo) env
section
variable {Kr : KrT}{P : Program}{ops : Array Qbi}{C : Qbe -> Prop}{phi : Nat -> Option (Qbf -> Qbe -> Prop)}{fx : Nat -> Option Qbf}{Q : Qbk -> Qbe -> Prop}
theorem wpAs_skip {i:Nat}{o:Qbi}{rest:List Qbi}{a:Qbk}{env:Rb.Env}(hw:Qa o (yielded ops a.tmps)=false) (h:wpAs Kr P ops C phi fx Q (i+1) rest (a.put o.dst Qbo) env):wpAs Kr P ops C phi fx Q i (o::rest) a env:=by
 unfold wpAs;rw[if_neg (by rw[hw];exact Qae)];exact h
theorem wpAs_fixed {i:Nat}{o:Qbi}{rest:List Qbi}{a:Qbk}{env:Rb.Env}{u:Qbf}(hw:Qa o (yielded ops a.tmps)=true) (hp:phi i=none) (hf:fx i=some u)
  (hv:∀ w,C w->Rb.seen ops o w env->Rb.doesUpon P (fun v w'=>v=u/\Kr.rel w w') ((execOp a.eval o).run P w)) (h:wpAs Kr P ops C phi fx Q (i+1) rest (a.put o.dst u) env):wpAs Kr P ops C phi fx Q i (o::rest) a env:=by
 unfold wpAs;rw[if_pos hw,hp];simp only[hf];exact⟨hv,h⟩
theorem wpAs_pure {i:Nat}{o:Qbi}{rest:List Qbi}{a:Qbk}{env:Rb.Env}{v:Qbf}(hw:Qa o (yielded ops a.tmps)=true) (hp:phi i=none)
  (hv:∀ w,C w->Rb.seen ops o w env->(execOp a.eval o).run P w=.ok (.value v) w) (h:wpAs Kr P ops C phi fx Q (i+1) rest (a.put o.dst v) env) (hf:fx i=none:=by rfl):wpAs Kr P ops C phi fx Q i (o::rest) a env:=by
 unfold wpAs;rw[if_pos hw,hp];simp only[hf];exact⟨v,hv,h⟩
theorem wpAs_act {i:Nat}{o:Qbi}{rest:List Qbi}{a:Qbk}{env:Rb.Env}{φ:Qbf->Qbe->Prop}(hw:Qa o (yielded ops a.tmps)=true) (hp:phi i=some φ)
  (hv:∀ w,C w->(i=Kr.k->Kr.C0 w)->Rb.seen ops o w env->Rb.doesUpon P (fun v w'=>φ v w'/\Kr.rel w w') ((execOp a.eval o).run P w)) (h:∀ v,wpAs Kr P ops C phi fx Q (i+1) rest (a.put o.dst v) (Rb.envAdd o.dst (φ v) env)):wpAs Kr P ops C phi fx Q i (o::rest) a env:=by
 unfold wpAs;rw[if_pos hw,hp];exact⟨hv,h⟩
theorem wpAs_end {i:Nat}{a:Qbk}{env:Rb.Env}(h:∀ w,C w->Rb.holds w env->Q a w):wpAs Kr P ops C phi fx Q i [] a env:=h
open Classical in
def Uy (Kr:KrT) (P:Program) (ops:Array Qbi) (C:Qbe->Prop) (phi:Nat->Option (Qbf->Qbe->Prop)) (fx:Nat->Option Qbf) (Q:Qbk->Qbe->Prop) (c:Nat->Qbf) (i:Nat) (o:Qbi) (s:Qbk×Rb.Env):Qbf :=
 if Qa o (yielded ops s.1.tmps)=true then
  match phi i with
  | none =>
   match fx i with
   | some u=>u
   | none=>Classical.epsilon fun v=>(∀ w,C w->Rb.seen ops o w s.2->(execOp s.1.eval o).run P w=.ok (.value v) w)/\wpAs Kr P ops C phi fx Q (i+1) (ops.toList.drop (i+1)) (s.1.put o.dst v) s.2
  | some _=>c i
 else Qbo
def Ys (Kr:KrT) (P:Program) (ops:Array Qbi) (C:Qbe->Prop) (phi:Nat->Option (Qbf->Qbe->Prop)) (fx:Nat->Option Qbf) (Q:Qbk->Qbe->Prop) (a0:Qbk) (c:Nat->Qbf):Nat->Qbk×Rb.Env
 | 0=>(a0,[])
 | i+1 =>
  match ops[i]? with
  | some o=>((Ys Kr P ops C phi fx Q a0 c i).1.put o.dst (Uy Kr P ops C phi fx Q c i o (Ys Kr P ops C phi fx Q a0 c i)),Rb.envAs ops phi c i o (Ys Kr P ops C phi fx Q a0 c i))
  | none=>Ys Kr P ops C phi fx Q a0 c i
theorem Vg {a0:Qbk}(h0:wpAs Kr P ops C phi fx Q 0 ops.toList a0 []) (c:Nat->Qbf):∀ i,i<=ops.size ->
  wpAs Kr P ops C phi fx Q i (ops.toList.drop i) (Ys Kr P ops C phi fx Q a0 c i).1 (Ys Kr P ops C phi fx Q a0 c i).2:=by{
 intro i
 induction i with
 | zero=>intro _;simpa [Ys] using h0
 | succ i ih =>
  intro hi;have h:=ih (by omega);have hd:ops.toList.drop i=ops[i]'(by omega)::ops.toList.drop (i+1):=by
   rw[Qu (by simp;omega)];simp
  have ho:ops[i]? = some (ops[i]'(by omega)):=Qt (by omega);rw[hd] at h;generalize hs:Ys Kr P ops C phi fx Q a0 c i=s at *;generalize ops[i]'(by omega)=o at *;have e1:Ys Kr P ops C phi fx Q a0 c (i+1)=(s.1.put o.dst (Uy Kr P ops C phi fx Q c i o s),Rb.envAs ops phi c i o s):=by
   simp only[Ys,ho,hs]
  rw[e1];unfold wpAs at h;unfold Uy Rb.envAs;by_cases hw:Qa o (yielded ops s.1.tmps)=true
  ·simp only[if_pos hw] at h ⊢
   cases hp:phi i with
   | none =>
    cases hf:fx i with
    | none =>
     simp only[hp,hf] at h ⊢;exact(Classical.epsilon_spec h).2
    | some u =>
     simp only[hp,hf] at h ⊢;exact h.2
   | some φ =>
    simp only[hp] at h ⊢;exact h.2 _
  ·simp only[if_neg hw] at h ⊢
   exact h}
theorem Zaw {a0:Qbk}(h0:wpAs Kr P ops C phi fx Q 0 ops.toList a0 []) (c:Nat->Qbf){i:Nat}{o:Qbi}(ho:ops[i]? = some o) (hw:Qa o (yielded ops (Ys Kr P ops C phi fx Q a0 c i).1.tmps)=true) (hp:phi i=none) (hf:fx i=none) :
  ∀ w,C w->Rb.seen ops o w (Ys Kr P ops C phi fx Q a0 c i).2->(execOp (Ys Kr P ops C phi fx Q a0 c i).1.eval o).run P w=.ok (.value (Uy Kr P ops C phi fx Q c i o (Ys Kr P ops C phi fx Q a0 c i))) w:=by
 have hi:i<ops.size:=(Qc.1 ho).1;have h:=Vg h0 c i (by omega);have hd:ops.toList.drop i=o::ops.toList.drop (i+1):=by
  rw[Qu (by simp;omega)];have:=(Qc.1 ho).2;simp[this]
 rw[hd] at h;unfold wpAs at h;simp only[if_pos hw,hp,hf] at h;unfold Uy;simp only[if_pos hw,hp,hf];exact(Classical.epsilon_spec h).1
theorem Zdg {a0:Qbk}(h0:wpAs Kr P ops C phi fx Q 0 ops.toList a0 []) (c:Nat->Qbf){i:Nat}{o:Qbi}(ho:ops[i]? = some o) (hw:Qa o (yielded ops (Ys Kr P ops C phi fx Q a0 c i).1.tmps)=true) (hp:phi i=none){u:Qbf}(hf:fx i=some u) :
  ∀ w,C w->Rb.seen ops o w (Ys Kr P ops C phi fx Q a0 c i).2->Rb.doesUpon P (fun v w'=>v=u/\Kr.rel w w') ((execOp (Ys Kr P ops C phi fx Q a0 c i).1.eval o).run P w):=by
 have hi:i<ops.size:=(Qc.1 ho).1;have h:=Vg h0 c i (by omega);have hd:ops.toList.drop i=o::ops.toList.drop (i+1):=by
  rw[Qu (by simp;omega)];have:=(Qc.1 ho).2;simp[this]
 rw[hd] at h;unfold wpAs at h;simp only[if_pos hw,hp,hf] at h;exact h.1
theorem Zgx {a0:Qbk}(h0:wpAs Kr P ops C phi fx Q 0 ops.toList a0 []) (c:Nat->Qbf){i:Nat}{o:Qbi}{φ:Qbf->Qbe->Prop}(ho:ops[i]? = some o) (hw:Qa o (yielded ops (Ys Kr P ops C phi fx Q a0 c i).1.tmps)=true) (hp:phi i=some φ) :
  ∀ w,C w->(i=Kr.k->Kr.C0 w)->Rb.seen ops o w (Ys Kr P ops C phi fx Q a0 c i).2->Rb.doesUpon P (fun v w'=>φ v w'/\Kr.rel w w') ((execOp (Ys Kr P ops C phi fx Q a0 c i).1.eval o).run P w):=by
 have hi:i<ops.size:=(Qc.1 ho).1;have h:=Vg h0 c i (by omega);have hd:ops.toList.drop i=o::ops.toList.drop (i+1):=by
  rw[Qu (by simp;omega)];have:=(Qc.1 ho).2;simp[this]
 rw[hd] at h;unfold wpAs at h;simp only[if_pos hw,hp] at h;exact h.1
theorem Y2 {a0:Qbk}{c:Nat->Qbf}{i:Nat}{o:Qbi}(ho:ops[i]? = some o):Ys Kr P ops C phi fx Q a0 c (i+1)=((Ys Kr P ops C phi fx Q a0 c i).1.put o.dst (Uy Kr P ops C phi fx Q c i o (Ys Kr P ops C phi fx Q a0 c i)),Rb.envAs ops phi c i o (Ys Kr P ops C phi fx Q a0 c i)):=by
 simp only[Ys,ho]
theorem Xp (a0:Qbk) (c:Nat->Qbf):∀ i,(Ys Kr P ops C phi fx Q a0 c i).1.tmps.size=a0.tmps.size
 | 0=>rfl
 | i+1=>by
  cases ho:ops[i]? with
  | none=>simp only[Ys,ho];exact Xp a0 c i
  | some o=>rw[Y2 ho];exact(Rb.put_size _ _ _).trans (Xp a0 c i)
theorem X9 (a0:Qbk) (c:Nat->Qbf):∀ i,(Ys Kr P ops C phi fx Q a0 c i).1.defers=a0.defers
 | 0=>rfl
 | i+1=>by
  cases ho:ops[i]? with
  | none=>simp only[Ys,ho];exact X9 a0 c i
  | some o=>rw[Y2 ho];exact(Rb.put_defers' _ _ _).trans (X9 a0 c i)
theorem Uk (a0:Qbk) (c:Nat->Qbf) (t:Tmp):∀ i,(∀ j o,j<i->ops[j]? = some o->o.dst≠some t)->(Ys Kr P ops C phi fx Q a0 c i).1.tmps.getD t Qbo=a0.tmps.getD t Qbo
 | 0,_=>rfl
 | i+1,h=>by
  have ih:=Uk a0 c t i (fun j o hj ho=>h j o (by omega) ho);cases ho:ops[i]? with
  | none=>simp only[Ys,ho];exact ih
  | some o=>rw[Y2 ho];exact(Rb.put_other _ _ _ _ (h i o (by omega) ho)).trans ih
def vAs (Kr:KrT) (P:Program) (ops:Array Qbi) (C:Qbe->Prop) (phi:Nat->Option (Qbf->Qbe->Prop)) (fx:Nat->Option Qbf) (Q:Qbk->Qbe->Prop) (a0:Qbk) (c:Nat->Qbf) (i:Nat):Qbf :=
 match ops[i]? with
 | some o=>Uy Kr P ops C phi fx Q c i o (Ys Kr P ops C phi fx Q a0 c i)
 | none=>Qbo
theorem Zc1 {a0:Qbk}(hok:Rb.Ok ops a0.tmps.size) (c:Nat->Qbf){j:Nat}{o:Qbi}{d:Tmp}(ho:ops[j]? = some o) (hd:o.dst=some d):∀ i,j<i->(Ys Kr P ops C phi fx Q a0 c i).1.tmps.getD d Qbo=vAs Kr P ops C phi fx Q a0 c j
 | 0,h=>absurd h (by omega)
 | i+1,h=>by
  by_cases hji:j=i
  ·subst hji
   rw[Y2 ho,hd];unfold vAs;simp only[ho];exact Rb.put_here _ _ _ (by rw[Xp];exact hok.inb j o d ho hd)
  ·have ih:=Zc1 hok c ho hd i (by omega)
   cases ho':ops[i]? with
   | none=>simp only[Ys,ho'];exact ih
   | some o' =>
    rw[Y2 ho'];exact(Rb.put_other _ _ _ _ (fun e=>hji (hok.apart j i o o' d ho ho' hd e))).trans ih
structure Inv (Kr:KrT) (P:Program) (ops:Array Qbi) (C:Qbe->Prop) (phi:Nat->Option (Qbf->Qbe->Prop)) (fx:Nat->Option Qbf) (Q:Qbk->Qbe->Prop) (a0:Qbk) (listed:Array Bool) (u:Nat->Qbf) (a:Qbk) (w:Qbe):Prop where
 lsize:listed.size=ops.size
 size:a.tmps.size=a0.tmps.size
 defers:a.defers=a0.defers
 closed:∀ i o,ops[i]? = some o->listed.getD i false=true->∀ e∈o.after,Qg .any e=true->listed.getD e.on false=true
 new:∀ i o d,ops[i]? = some o->listed.getD i false=true->o.dst=some d->a.tmps.getD d Qbo=u i
 old:∀ t,(∀ i o,ops[i]? = some o->o.dst=some t->listed.getD i false=false)->a.tmps.getD t Qbo=a0.tmps.getD t Qbo
 world:C w
 once:listed.getD Kr.k false=false->Kr.C0 w
 val:∀ c:Nat->Qbf,(∀ j,listed.getD j false=true->(phi j).isSome=true->c j=u j)->∀ i,listed.getD i false=true->vAs Kr P ops C phi fx Q a0 c i=u i
 act:∀ c:Nat->Qbf,(∀ j,listed.getD j false=true->(phi j).isSome=true->c j=u j)->∀ i o φ,ops[i]? = some o->listed.getD i false=true->phi i=some φ ->
  Qa o (yielded ops (Ys Kr P ops C phi fx Q a0 c i).1.tmps)=true->φ (u i) w
section
variable {a0 : Qbk}{listed : Array Bool}{u : Nat -> Qbf}{a : Qbk}{w : Qbe}
theorem Inv.looks (hok:Rb.Ok ops a0.tmps.size) (I:Inv Kr P ops C phi fx Q a0 listed u a w){c:Nat->Qbf}(hc:∀ j,listed.getD j false=true->(phi j).isSome=true->c j=u j){i:Nat}{o:Qbi}(ho:ops[i]? = some o)
  (hi:listed.getD i false=false) (hr:∀ e∈o.after,Qg .any e=true->listed.getD e.on false=true) :
  ∀ t∈o.looksAt ops,a.tmps.getD t Qbo=(Ys Kr P ops C phi fx Q a0 c i).1.tmps.getD t Qbo:=by{
 intro t ht;by_cases hj:∃ (j:Nat) (o':Qbi),ops[j]? = some o'/\o'.dst=some t
 ·obtain⟨j,o',ho',hd⟩:=hj
  rcases hok.edge i j o o' t ho ho' hd ht with h | h | h
  ·obtain⟨e,he,hb,rfl⟩:=Rb.leans_spec ho h
   have hl:=hr e he hb;rw[I.new _ o' t ho' hl hd,Zc1 hok c ho' hd i (hok.less i o ho e he hb),I.val c hc _ hl]
  all_goals
   have hun:listed.getD j false=false:=by
    first
     | (subst h;exact hi)
     | (
       obtain⟨e,he,hb,rfl⟩:=Rb.leans_spec ho' h;cases hl:listed.getD j false with
       | false=>rfl
       | true =>
        have:=I.closed j o' ho' hl e he hb;rw[hi] at this
        cases this)
   have hle:i<=j:=by
    first
     | (subst h;exact Qb _)
     | (
       obtain⟨e,he,hb,rfl⟩:=Rb.leans_spec ho' h
       exact Nat.le_of_lt (hok.less j o' ho' e he hb))
   rw[I.old t (fun k ok hk hdk=>by rw[<- hok.apart j k o' ok t ho' hk hd hdk];exact hun),
    Uk a0 c t i (fun k ok hk hok' hdk=>by have:=hok.apart j k o' ok t ho' hok' hd hdk;omega)]
 ·rw[I.old t (fun k ok hk hdk=>absurd ⟨k,ok,hk,hdk⟩ hj),Uk a0 c t i (fun k ok _ hk hdk=>hj ⟨k,ok,hk,hdk⟩)]}
theorem Zf3 {o:Qbi}(c:Nat->Qbf):∀ k,(∀ (j:Nat) (oj:Qbi) (φ:Qbf->Qbe->Prop) (d:Tmp),j<k->ops[j]? = some oj->phi j=some φ->Qa oj (yielded ops (Ys Kr P ops C phi fx Q a0 c j).1.tmps)=true->oj.dst=some d->d∈o.looksAt ops->φ (c j) w) ->
  Rb.seen ops o w (Ys Kr P ops C phi fx Q a0 c k).2
 | 0,_=>trivial
 | k+1,h=>by
  have ih:=Zf3 (o:=o) c k (fun j oj φ d hj=>h j oj φ d (by omega));cases ho:ops[k]? with
  | none=>simp only[Ys,ho];exact ih
  | some ok =>
   rw[Y2 ho];unfold Rb.envAs;by_cases hw:Qa ok (yielded ops (Ys Kr P ops C phi fx Q a0 c k).1.tmps)=true
   ·simp only[if_pos hw]
    cases hp:phi k with
    | none=>exact ih
    | some φ =>
     simp only;unfold Rb.envAdd;exact⟨fun d hd hc=>h k ok φ d (by omega) ho hp hw hd (Qag.1 hc),ih⟩
   ·simp only[if_neg hw]
    exact ih
theorem Zdq (c:Nat->Qbf):∀ k,(∀ (j:Nat) (oj:Qbi) (φ:Qbf->Qbe->Prop),j<k->ops[j]? = some oj->phi j=some φ->Qa oj (yielded ops (Ys Kr P ops C phi fx Q a0 c j).1.tmps)=true->φ (c j) w) ->
  Rb.holds w (Ys Kr P ops C phi fx Q a0 c k).2
 | 0,_=>trivial
 | k+1,h=>by
  have ih:=Zdq c k (fun j oj φ hj=>h j oj φ (by omega));cases ho:ops[k]? with
  | none=>simp only[Ys,ho];exact ih
  | some ok =>
   rw[Y2 ho];unfold Rb.envAs;by_cases hw:Qa ok (yielded ops (Ys Kr P ops C phi fx Q a0 c k).1.tmps)=true
   ·simp only[if_pos hw]
    cases hp:phi k with
    | none=>exact ih
    | some φ =>
     simp only;unfold Rb.envAdd;exact⟨h k ok φ (by omega) ho hp hw,ih⟩
   ·simp only[if_neg hw]
    exact ih
def leansOn (ops:Array Qbi) (k:Nat):Nat->Nat->Bool
 | 0,_=>false
 | f+1,i=>((ops[i]?).map fun o=>o.after.any fun e=>Qg .any e&&(e.on==k||leansOn ops k f e.on)).getD false
theorem Zcs {ops:Array Qbi}{k:Nat}{listed:Array Bool}(hc:∀ i o,ops[i]? = some o->listed.getD i false=true->∀ e∈o.after,Qg .any e=true->listed.getD e.on false=true):∀ (f i:Nat) (o:Qbi),ops[i]? = some o->leansOn ops k f i=true ->
  (∀ e∈o.after,Qg .any e=true->listed.getD e.on false=true)->listed.getD k false=true
 | 0,_,_,_,h,_=>by cases h
 | f+1,i,o,ho,h,hr=>by
  unfold leansOn at h;rw[ho] at h;simp only[Option.map_some,Option.getD_some] at h;obtain⟨e,he,hx⟩:=Px.1 h;rw[Qi,Q6,beq_iff_eq] at hx;obtain⟨hb,hx⟩:=hx;rcases hx with hx | hx
  ·rw[<- hx]
   exact hr e he hb
  ·cases ho':ops[e.on]? with
   | none =>
    cases f with
    | zero=>cases hx
    | succ f =>
     unfold leansOn at hx;rw[ho'] at hx;cases hx
   | some o'=>exact Zcs hc f e.on o' ho' hx (hc e.on o' ho' (hr e he hb))
theorem Z3v {listed:Array Bool}{i k:Nat}(h:(listed.setIfInBounds i true).getD k false=false):listed.getD k false=false:=by{
 by_cases e:i=k
 ·subst e
  by_cases hl:i<listed.size
  ·simp[hl] at h
  ·simp[Qk,hl]
 ·rwa [getD_set_ne false e] at h}
theorem Inv.next (hok:Rb.Ok ops a0.tmps.size) (I:Inv Kr P ops C phi fx Q a0 listed u a w){i:Nat}{o:Qbi}{v:Qbf}{w':Qbe}(ho:ops[i]? = some o) (hi:listed.getD i false=false)
  (hr:∀ e∈o.after,Qg .any e=true->listed.getD e.on false=true) (hC:C w') (ho1:(listed.setIfInBounds i true).getD Kr.k false=false->Kr.C0 w') (hst:∀ (j:Nat) (φ:Qbf->Qbe->Prop) (x:Qbf),phi j=some φ->φ x w->φ x w')
  (hv:∀ c:Nat->Qbf,(∀ j,listed.getD j false=true->(phi j).isSome=true->c j=u j)->((phi i).isSome=true->c i=v)->vAs Kr P ops C phi fx Q a0 c i=v)
  (ha:∀ c:Nat->Qbf,(∀ j,listed.getD j false=true->(phi j).isSome=true->c j=u j)->∀ φ,phi i=some φ->Qa o (yielded ops (Ys Kr P ops C phi fx Q a0 c i).1.tmps)=true->φ v w') :
  Inv Kr P ops C phi fx Q a0 (listed.setIfInBounds i true) (fun j=>if j=i then v else u j) (a.put o.dst v) w':=by{
 have hlt:i<ops.size:=(Qc.1 ho).1;have hL:∀ j,(listed.setIfInBounds i true).getD j false=true↔j=i\/listed.getD j false=true:=by
  intro j;by_cases hji:i=j
  ·subst hji
   have:i<listed.size:=by rw[I.lsize];exact hlt
   simp[this]
  ·rw[getD_set_ne false hji]
   constructor
   ·exact .inr
   ·rintro(h | h)
    ·exact absurd h.symm hji
    ·exact h
 have hne:∀ j,listed.getD j false=true->j≠i:=fun j hj e=>by rw[e,hi] at hj;cases hj
 have hag:∀ c:Nat->Qbf,(∀ j,(listed.setIfInBounds i true).getD j false=true->(phi j).isSome=true->c j=if j=i then v else u j) ->
   (∀ j,listed.getD j false=true->(phi j).isSome=true->c j=u j)/\((phi i).isSome=true->c i=v):=fun c hc =>
  ⟨fun j hj hp=>by have:=hc j ((hL j).2 (.inr hj)) hp;rwa [if_neg (hne j hj)] at this,fun hp=>by have:=hc i ((hL i).2 (.inl rfl)) hp;rwa [if_pos rfl] at this⟩
 refine⟨by simpa using I.lsize,(Rb.put_size _ _ _).trans I.size,(Rb.put_defers' _ _ _).trans I.defers,?_,?_,?_,hC,ho1,?_,?_⟩
 ·intro j oj hoj hj e he hb
  rcases(hL j).1 hj with rfl | h
  ·rw[ho] at hoj
   cases hoj;exact(hL _).2 (.inr (hr e he hb))
  ·exact(hL _).2 (.inr (I.closed j oj hoj h e he hb))
 ·intro j oj d hoj hj hd
  rcases(hL j).1 hj with rfl | h
  ·rw[ho] at hoj
   cases hoj;rw[hd,if_pos rfl];exact Rb.put_here _ _ _ (by rw[I.size];exact hok.inb j o d ho hd)
  ·rw[if_neg (hne j h)]
   exact(Rb.put_other _ _ _ _ (fun e=>hne j h (hok.apart j i oj o d hoj ho hd e))).trans (I.new j oj d hoj h hd)
 ·intro t ht
  have hn:o.dst≠some t:=fun e=>by have:=ht i o ho e;rw[(hL i).2 (.inl rfl)] at this;cases this
  refine(Rb.put_other _ _ _ _ hn).trans (I.old t fun j oj hoj hd=> ?_);have:=ht j oj hoj hd;cases hl:listed.getD j false with
  | false=>rfl
  | true=>rw[(hL j).2 (.inr hl)] at this;cases this
 ·intro c hc j hj
  obtain⟨h1,h2⟩:=hag c hc;rcases(hL j).1 hj with rfl | h
  ·rw[if_pos rfl];exact hv c h1 h2
  ·rw[if_neg (hne j h)];exact I.val c h1 j h
 ·intro c hc j oj φ hoj hj hp hw
  obtain⟨h1,h2⟩:=hag c hc;rcases(hL j).1 hj with rfl | h
  ·rw[ho] at hoj
   cases hoj;rw[if_pos rfl];exact ha c h1 φ hp hw
  ·rw[if_neg (hne j h)]
   exact hst j φ _ hp (I.act c h1 j oj φ hoj h hp hw)}
theorem Inv.step (hok:Rb.Ok ops a0.tmps.size) (hlean:∀ i,i<ops.size->i≠Kr.k->((phi i).isSome=true\/(fx i).isSome=true)->leansOn ops Kr.k ops.size i=true) (h0:wpAs Kr P ops C phi fx Q 0 ops.toList a0 []) (hCb:∀ w w',C w->Kr.rel w w'->C w') (hst:∀ (j:Nat) (φ:Qbf->Qbe->Prop) (x:Qbf) (w w':Qbe),phi j=some φ->φ x w->Kr.rel w w'->φ x w')
  (I:Inv Kr P ops C phi fx Q a0 listed u a w) {i:Nat} (hi:i∈Qf .any ops listed) {Q':Qbh->Qbk->Qbe->Prop} :
  wpOp P ops Q' i (fun a' w'=>∃ u',Inv Kr P ops C phi fx Q a0 (listed.setIfInBounds i true) u' a' w') a w:=by{
 obtain⟨hun,o,ho,hr⟩:=mem_ready.1 hi;have hlt:i<ops.size:=(Qc.1 ho).1;have hil:listed.getD i false=false:=by
  have:i<listed.size:=by rw[I.lsize];exact hlt
  simpa [this] using hun
 have hsel:=Qa7 hok.sel;have look:∀ c:Nat->Qbf,(∀ j,listed.getD j false=true->(phi j).isSome=true->c j=u j) ->
   execOp a.eval o=execOp (Ys Kr P ops C phi fx Q a0 c i).1.eval o/\Qa o (yielded ops a.tmps)=Qa o (yielded ops (Ys Kr P ops C phi fx Q a0 c i).1.tmps):=fun c hc =>
  Rb.same_looks (fun cs b=>hsel i o cs b ho) (I.size.trans (Xp a0 c i).symm) (I.looks hok hc ho hil hr)
 have see:∀ c:Nat->Qbf,(∀ j,listed.getD j false=true->(phi j).isSome=true->c j=u j)->Rb.seen ops o w (Ys Kr P ops C phi fx Q a0 c i).2:=fun c hc =>
  Zf3 c i fun j oj φ d hj hoj hp hw hd hm=>by
   rcases hok.edge i j o oj d ho hoj hd hm with h | h | h
   ·obtain⟨e,he,hb,rfl⟩:=Rb.leans_spec ho h
    have hl:=hr e he hb;rw[hc _ hl (by rw[hp];rfl)];exact I.act c hc _ oj φ hoj hl hp hw
   ·obtain⟨e,he,hb,h'⟩:=Rb.leans_spec hoj h
    have:=hok.less j oj hoj e he hb;omega
   ·omega
 have vas:∀ c:Nat->Qbf,vAs Kr P ops C phi fx Q a0 c i=Uy Kr P ops C phi fx Q c i o (Ys Kr P ops C phi fx Q a0 c i):=fun c=>by
  unfold vAs;simp only[ho]
 have hu:∀ j,listed.getD j false=true->(phi j).isSome=true->u j=u j:=fun _ _ _=>rfl
 have acted:(phi i).isSome=true\/(fx i).isSome=true->∀ w',(listed.setIfInBounds i true).getD Kr.k false=false->Kr.C0 w':=fun hp w' h=>by
  by_cases e:i=Kr.k
  ·rw[<- e] at h
   have:i<listed.size:=by rw[I.lsize];exact hlt
   simp[this] at h
  ·have:=Zcs I.closed _ i o ho (hlean i hlt e hp) hr
   rw[Z3v h] at this;cases this
 unfold wpOp;simp only[ho];by_cases hw:Qa o (yielded ops a.tmps)=true
 ·rw[if_pos hw]
  refine .inl ?_;cases hp:phi i with
  | none =>
   cases hf:fx i with
   | none =>
    have hrun:=Zaw h0 u ho (by rw[<- (look u hu).2];exact hw) hp hf w I.world (see u hu);rw[<- (look u hu).1] at hrun;unfold Oper.wp;rw[hrun];refine⟨_,I.next hok ho hil hr I.world (fun h=>I.once (Z3v h)) (fun _ _ _ _ h=>h) (fun c hc _=> ?_) (fun c hc φ hp'=>by rw[hp] at hp';cases hp')⟩;have hrun':=Zaw h0 c ho (by rw[<- (look c hc).2];exact hw) hp hf w I.world (see c hc);rw[<- (look c hc).1,hrun] at hrun';rw[vas c]
    injection hrun' with h1 _
    injection h1 with h1
    exact h1.symm
   | some x =>
    have hrun:=Zdg h0 u ho (by rw[<- (look u hu).2];exact hw) hp hf w I.world (see u hu);rw[<- (look u hu).1] at hrun;refine Rb.wp_of_does hrun fun v w' ⟨hφ,hb⟩=>⟨_,I.next hok ho hil hr (hCb w w' I.world hb) (acted (.inr (by rw[hf];rfl)) w') (fun j φ' x hp' h=>hst j φ' x w w' hp' h hb) (fun c hc _=> ?_) (fun c hc φ' hp' _=> ?_)⟩
    ·rw[vas c]
     unfold Uy;rw[if_pos (by rw[<- (look c hc).2];exact hw)];simp only[hp,hf];exact hφ.symm
    ·rw[hp] at hp'
     cases hp'
  | some φ =>
   have hrun:=Zgx h0 u ho (by rw[<- (look u hu).2];exact hw) hp w I.world (fun e=>I.once (by rw[<- e];exact hil)) (see u hu);rw[<- (look u hu).1] at hrun;refine Rb.wp_of_does hrun fun v w' ⟨hφ,hb⟩=>⟨_,I.next hok ho hil hr (hCb w w' I.world hb) (acted (.inl (by rw[hp];rfl)) w') (fun j φ' x hp' h=>hst j φ' x w w' hp' h hb) (fun c hc hci=> ?_) (fun c hc φ' hp' _=> ?_)⟩
   ·rw[vas c]
    unfold Uy;rw[if_pos (by rw[<- (look c hc).2];exact hw)];simp only[hp];exact hci (by rw[hp];rfl)
   ·rw[hp] at hp'
    cases hp';exact hφ
 ·rw[if_neg hw]
  refine⟨_,I.next hok ho hil hr I.world (fun h=>I.once (Z3v h)) (fun _ _ _ _ h=>h) (fun c hc _=> ?_) (fun c hc φ hp' hw'=> ?_)⟩
  ·rw[vas c]
   unfold Uy;rw[if_neg (by rw[<- (look c hc).2];exact hw)]
  ·rw[<- (look c hc).2] at hw'
   exact absurd hw' hw}
theorem wpAny_of_as (hok:Rb.Ok ops a0.tmps.size) (hlean:∀ i,i<ops.size->i≠Kr.k->((phi i).isSome=true\/(fx i).isSome=true)->leansOn ops Kr.k ops.size i=true) (h0:wpAs Kr P ops C phi fx Q 0 ops.toList a0 []) (hCb:∀ w w',C w->Kr.rel w w'->C w') (hst:∀ (j:Nat) (φ:Qbf->Qbe->Prop) (x:Qbf) (w w':Qbe),phi j=some φ->φ x w->Kr.rel w w'->φ x w')
  {Q':Qbh->Qbk->Qbe->Prop} (hQ:∀ a w,Q a w->Q' .normal a w):∀ (fuel:Nat) (listed:Array Bool) (u:Nat->Qbf) (a:Qbk) (w:Qbe),Rb.left ops.size listed<=fuel->Inv Kr P ops C phi fx Q a0 listed u a w->wpAny P .any ops Q' fuel listed a w:=by{
 have fin:∀ (listed:Array Bool) (u:Nat->Qbf) (a:Qbk) (w:Qbe),Inv Kr P ops C phi fx Q a0 listed u a w->Qf .any ops listed=[]->Q' .normal a w:=by
  intro listed u a w I hr;have all:∀ n i,i<n->i<ops.size->listed.getD i false=true:=by
   intro n
   induction n with
   | zero=>intro i h;omega
   | succ n ih =>
    intro i hin hi;cases hl:listed.getD i false with
    | true=>rfl
    | false =>
     have ho:ops[i]? = some (ops[i]'hi):=Qt hi;have hmem:i∈Qf .any ops listed:=by
      refine mem_ready.2 ⟨?_,_,ho,fun e he hb=> ?_⟩
      ·have:i<listed.size:=by rw[I.lsize];exact hi
       simpa [this] using hl
      ·have:=hok.less i _ ho e he hb
       exact ih e.on (by omega) (by omega)
     rw[hr] at hmem;cases hmem
  have all':∀ i,i<ops.size->listed.getD i false=true:=fun i hi=>all (i+1) i (by omega) hi
  have hu:∀ j,listed.getD j false=true->(phi j).isSome=true->u j=u j:=fun _ _ _=>rfl
  have hend:=Vg h0 u ops.size (Qb _);have hn:ops.toList.drop ops.size=[]:=Qa8 (by simp);rw[hn] at hend;unfold wpAs at hend;have he:=hend w I.world (Zdq u ops.size fun j oj φ hj hoj hp hw=>I.act u hu j oj φ hoj (all' j hj) hp hw);have hfr:a=(Ys Kr P ops C phi fx Q a0 u ops.size).1:=by
   have hs:=I.size.trans (Xp (Kr:=Kr) (P:=P) (ops:=ops) (C:=C) (phi:=phi) (fx:=fx) (Q:=Q) a0 u ops.size).symm;have hd:=I.defers.trans (X9 (Kr:=Kr) (P:=P) (ops:=ops) (C:=C) (phi:=phi) (fx:=fx) (Q:=Q) a0 u ops.size).symm;have ht:∀ t,a.tmps.getD t Qbo=(Ys Kr P ops C phi fx Q a0 u ops.size).1.tmps.getD t Qbo:=by
    intro t;by_cases hj:∃ (j:Nat) (o':Qbi),ops[j]? = some o'/\o'.dst=some t
    ·obtain⟨j,o',ho',hd'⟩:=hj
     have hjl:=(Qc.1 ho').1;rw[I.new j o' t ho' (all' j hjl) hd',Zc1 hok u ho' hd' ops.size hjl,I.val u hu j (all' j hjl)]
    ·rw[I.old t (fun k ok hk hdk=>absurd ⟨k,ok,hk,hdk⟩ hj),Uk a0 u t ops.size (fun k ok _ hk hdk=>hj ⟨k,ok,hk,hdk⟩)]
   generalize (Ys Kr P ops C phi fx Q a0 u ops.size).1=b at *;obtain⟨at_,ad⟩:=a;obtain⟨bt,bd⟩:=b;simp only at hs hd ht;subst hd;have:at_=bt:=by
    apply Q7 hs;intro k h1 h2;have:=ht k
    simpa [Qk,h1,h2] using this
   rw[this]
  rw[hfr];exact hQ _ _ he
 intro fuel
 induction fuel with
 | zero =>
  intro listed u a w hl I;have hr:Qf .any ops listed=[]:=by
   rw[Pe];intro i hi;obtain⟨hun,o,ho,_⟩:=mem_ready.1 hi;have hlt:=(Qc.1 ho).1;have hil:listed.getD i false=false:=by
    have:i<listed.size:=by rw[I.lsize];exact hlt
    simpa [this] using hun
   have:=Rb.left_set hlt I.lsize hil;omega
  exact⟨hr,fin listed u a w I hr⟩
 | succ fuel ih =>
  intro listed u a w hl I;refine⟨fun hr=>fin listed u a w I hr,fun i hi=> ?_⟩;have hlt:i<ops.size:=by
   obtain⟨_,o,ho,_⟩:=mem_ready.1 hi;exact(Qc.1 ho).1
  have hil:listed.getD i false=false:=by
   have h1:=(mem_ready.1 hi).1;have:i<listed.size:=by rw[I.lsize];exact hlt
   simpa [this] using h1
  refine wpOp_mono (fun a' w' ⟨u',I'⟩=>ih _ u' a' w' ?_ I') (I.step hok hlean h0 hCb hst hi);have:=Rb.left_set hlt I.lsize hil;omega}
end
end
end Go.Proofs.YtmafkphcfkhokaaGreat.Rk
namespace Go.Proofs.YtmafkphcfkhokaaGreat
open Go.RowKit
theorem Zni {n:Nat}{P:Program}{row:String}{args:Array Qbf}{w:Qbe}{R:Qbf->Qbe->Prop}(h:Rows P row args w R):RowsIn Fence.wide n P row args w R :=
 fun c cs _=>let ⟨v,w',r,s⟩:=h c cs;⟨v,w',r,stepsIn_wide.2 s⟩
def Zwl (ops:Array Qbi):Bool:=ops.all fun o=>match o.op with | .defer _=>false | _=>true
section
variable {P : Program}{Q : Qbh -> Qbk -> Qbe -> Prop}
theorem Zrv {l n:Nat}{o:Qbi}(hd:∀ c,o.op≠.defer c){a:Qbk}{w:Qbe}{K:Qbk->Qbe->Prop}(h:o.wp P a w K Q):o.wpIn (Fence.wide.inRound l) n P a w K Q:=by{
 refine⟨fun _ _=>trivial,?_⟩;unfold Oper.wp at h;rw[Oper.semAt_eq _ _ _ hd];generalize (execOp a.eval o).run P w=r at *;unfold Oper.upon at h;unfold Oper.uponIn;split at h <;> first
  | exact h
  | exact⟨fun e=>(by cases e),CallsIn.inRound l (callsIn_wide.2 h)⟩
  | exact⟨fun e=>(by cases e),Zni h⟩
  | exact h.elim}
theorem Zfh {md:Region.Mode}{ops:Array Qbi}{l n:Nat}(hd:∀ (i:Nat) (o:Qbi),ops[i]? = some o->∀ c,o.op≠.defer c) (hQ:¬ LetsOut Q):∀ (fuel:Nat) (listed:Array Bool) (a:Qbk) (w:Qbe),wpAny P md ops Q fuel listed a w->wpAnyIn (Fence.wide.inRound l) n P md ops Q fuel listed a w
 | 0,_,_,_,h=>h
 | fuel+1,listed,a,w,h=>by
  refine⟨h.1,fun i hi=> ?_⟩;have h2:=h.2 i hi;unfold wpOp at h2;unfold wpOpIn;cases ho:ops[i]? with
  | none =>
   rw[ho] at h2;exact Zfh hd hQ fuel _ _ _ h2
  | some o =>
   rw[ho] at h2;simp only at h2 ⊢;split at h2
   ·rename_i hw
    rw[if_pos hw];rcases h2 with h2 | ⟨_,h2⟩
    ·exact Oper.wpIn_mono (fun a w hk=>Zfh hd hQ fuel _ a w hk) (Zrv (hd i o ho) h2)
    ·exact absurd h2 hQ
   ·rename_i hw
    rw[if_neg hw];exact⟨fun _ _=>trivial,Zfh hd hQ fuel _ _ _ h2⟩
theorem Zk3 {Kr:Rk.KrT}{ops:Array Qbi}{a:Qbk}{w:Qbe}(m:Nat) (C:Qbe->Prop) (phi:Nat->Option (Qbf->Qbe->Prop)) (fx:Nat->Option Qbf) (hms:m<=ops.size) (hok:Rb.okAs (ops.toList.take m).toArray a.tmps.size=true) (hlast:Zca ops m=true)
  (h1:Kr.C0 w.drew) (hon:((Qo m).all fun i=>i==Kr.k || !((phi i).isSome||(fx i).isSome)||Rk.leansOn (ops.toList.take m).toArray Kr.k m i)=true) (hC:C w.drew) (hCb:∀ w w',C w->Kr.rel w w'->C w') (hst:∀ (j:Nat) (φ:Qbf->Qbe->Prop) (x:Qbf) (w w':Qbe),phi j=some φ->φ x w->Kr.rel w w'->φ x w')
  (h:Rk.wpAs Kr P (ops.toList.take m).toArray C phi fx (fun a w=>wpList P ops Q (ops.toList.drop m) a w) 0 (ops.toList.take m) a []):wpAny P .any ops Q ops.size (Ql ops.size false) a w.drew:=by{
 have e:(ops.toList.take m++ops.toList.drop m).toArray=ops:=by rw[Pa]
 have hl1:(ops.toList.take m).length=m:=by simp;omega
 have hl2:(ops.toList.take m).length+(ops.toList.drop m).length=ops.size:=by simp;omega
 unfold Zca at hlast;rw[Qi,Qp,Qp] at hlast
 have key:=Zch (P:=P) (Q:=Q) ops (ops.toList.drop m) (ops.toList.take m) (fun j h0 hj=>by
  have hj':j<=ops.size-m:=by simpa using hj
  have:=hlast.1 (j-1) (Qr.2 (by omega));rw[show m+(j-1+1)=m+j by omega,Qah] at this
  exact Zdr this) (fun o ho=>by simpa using hlast.2 o ho) a w.drew
 rw[hl2,e] at key;refine key ?_;rw[hl1];have hg:∀ i,(Ql m false).getD i false=false:=fun i=>by
  by_cases hi:i<m
  ·simp[Qk]
  ·simp[Qk]
 have hsz:(ops.toList.take m).toArray.size=m:=by simpa using hl1
 have h':Rk.wpAs Kr P (ops.toList.take m).toArray C phi fx (fun a w=>wpList P ops Q (ops.toList.drop m) a w) 0 (ops.toList.take m).toArray.toList a []:=h;have hlean:∀ i,i<(ops.toList.take m).toArray.size->i≠Kr.k->((phi i).isSome=true\/(fx i).isSome=true)->Rk.leansOn (ops.toList.take m).toArray Kr.k (ops.toList.take m).toArray.size i=true:=fun i hi hne ha=>by
  rw[hsz] at hi ⊢;have:=Qp.1 hon i (Qr.2 hi);rw[Q6,Q6] at this;rcases this with (h | h) | h
  ·exact absurd (by simpa using h) hne
  ·exfalso
   rcases ha with ha | ha <;> simp[ha] at h
  ·exact h
 refine Rk.wpAny_of_as (Q:=fun a w=>wpList P ops Q (ops.toList.drop m) a w) (a0:=a) (Rb.ok_of hok) hlean h' hCb hst (fun a w hq=>hq) _ _ (fun _=>Qbo) a w.drew ?_ ⟨by rw[hsz];simp,rfl,rfl,?_,?_,fun _ _=>rfl,hC,fun _=>h1,?_,?_⟩
 ·unfold Rb.left
  exact Qm (Pr _ _) (by simp;omega)
 ·intro i o _ hl
  rw[hg i] at hl;cases hl
 ·intro i o d _ hl
  rw[hg i] at hl;cases hl
 ·intro c _ i hl
  rw[hg i] at hl;cases hl
 ·intro c _ i o φ _ hl
  rw[hg i] at hl;cases hl}
theorem Zay (Kr:Rk.KrT){l n:Nat}{id:Nat}{ops ops':Array Qbi}{a:Qbk}{w:Qbe}(hm:P.follows .mixedOrders=true) (x:List (Nat×Nat)) (he:Z7 ops x=ops') (hx:Zo1 ops x=true) (hd:Zwl ops=true) (hQ:∀ d v c a w,Q (.panic c) (Qh a d v) w->Q (.panic c) a w) (hQ2:¬ LetsOut Q)
  (m:Nat) (C:Qbe->Prop) (phi:Nat->Option (Qbf->Qbe->Prop)) (fx:Nat->Option Qbf) (hms:m<=ops'.size) (hok:Rb.okAs (ops'.toList.take m).toArray a.tmps.size=true) (hlast:Zca ops' m=true)
  (h1:Kr.C0 w.drew) (hon:((Qo m).all fun i=>i==Kr.k || !((phi i).isSome||(fx i).isSome)||Rk.leansOn (ops'.toList.take m).toArray Kr.k m i)=true) (hC:C w.drew) (hCb:∀ w w',C w->Kr.rel w w'->C w') (hst:∀ (j:Nat) (φ:Qbf->Qbe->Prop) (x:Qbf) (w w':Qbe),phi j=some φ->φ x w->Kr.rel w w'->φ x w')
  (h:Rk.wpAs Kr P (ops'.toList.take m).toArray C phi fx (fun a w=>wpList P ops' Q (ops'.toList.drop m) a w) 0 (ops'.toList.take m) a []):(Code.region id ops true).wpIn (Fence.wide.inRound l) n P Q a w:=by{
 refine wpIn_region_any hm (Zfh (fun i o ho c hc=> ?_) hQ2 _ _ _ _ ?_)
 ·unfold Zwl at hd
  rw[Array.all_eq_true'] at hd;have:=hd o (Array.mem_of_getElem? ho);rw[hc] at this;cases this
 refine Zce (Zvi hx) hQ _ _ _ _ (by simp) ?_;have e2:ops'.size=ops.size:=by rw[<- he];exact Zcy _ _
 have key:=Zk3 m C phi fx hms hok hlast h1 hon hC hCb hst h;rw[e2] at key;rw[he];exact key}
end
end Go.Proofs.YtmafkphcfkhokaaGreat
namespace Go.Proofs.YtmafkphcfkhokaaGreat
open Go.RowKit Go.Shelf
attribute [local go_sem] Oper.semAt_some
def Zd0 (n₀ Bs:Nat) (A B:Qbe):Prop:=Qbq n₀ A B/\B.cell? ⟨Bs,0,none⟩=A.cell? ⟨Bs,0,none⟩
theorem Zd0.trans {n₀ Bs:Nat}{A B C:Qbe}(h:Zd0 n₀ Bs A B) (h':Zd0 n₀ Bs B C):Zd0 n₀ Bs A C:=⟨h.1.trans h'.1,h'.2.trans h.2⟩
theorem Z1g (F:Fence) (n:Nat) (hf:F.fn 254) (hro:F.round=none) (hn:1<=n) (l Bs n₀ cap:Nat) (ad:Qbg) (xs:List UInt8) (hm:xs.length<=9223372036854775807) (hb:ad.block<n₀) (J Jx:List (Nat×UInt8)->Qbe->Prop)
  (hY:∀ pre x W,J pre W->pre.length<xs.length->YieldAt F (n-1) Tryz.prog l #[.int .i64 (x.1:Int),.int .u8 (x.2.toNat:Int)] W fun e W' =>
   (e=.returned (.bool true)/\J (pre++[x]) W'/\Zd0 n₀ Bs W W')\/(e=.returned (.bool false)/\Jx (pre++[x]) W'))
  (W:Qbe) (hBs:W.cell? ⟨Bs,0,none⟩=some (.slice (some ad) xs.length cap)) (hc:∀ j,j<xs.length->W.cell? (ad.add j)=some (.int .u8 ((xs[j]?.getD 0).toNat:Int))) (h0:J [] W) :
  CallsIn F n Tryz.prog 254 #[.func (.yield l) #[] #[],.pointer (some ⟨Bs,0,none⟩)] W fun e W'=>(∃ v,e=.returned v) /\
   ((∃ ys,ys=Zr1 xs xs.length/\J ys W')\/(∃ pre,(∃ k,k<=xs.length/\pre=Zr1 xs k)/\Jx pre W')):=by{
 refine callsIn_of_wp Tryz.func254 rfl hf ?_ hro;simp only[Tryz.ntmps254,Pf,Qq,Qz,Pg,Ph,Q0,Pi,Pj,Pk,Pm,Q3]
 gi_wp2
 gi_loopw [3] (fun i wr=>∃ k:Nat,k<=xs.length/\i=.int .i64 ((xs.length:Int)-1-k)/\J (Zr1 xs k) wr/\Qbq n₀ W wr/\wr.cell? ⟨Bs,0,none⟩=some (.slice (some ad) xs.length cap))
  (fun i _=>(intOf i+1).toNat)
 case atStart=>exact⟨0,Pq _,by simp,h0,Qe _ _,hBs⟩
 case round =>
  obtain⟨k,hk,rfl,hJs,hnx,hbs⟩:=hrel;by_cases hlt:k<xs.length
  ·have hcx:wr.cell? (ad.add (xs.length-1-k))=some (.int .u8 ((xs[xs.length-1-k]?.getD 0).toNat:Int)):=(hnx.cell (p:=ad.add (xs.length-1-k)) (by rw[Zh];exact hb)).trans (hc _ (by omega))
   obtain⟨fn,tmps,assign,body,hy,hR⟩:=hY _ (xs.length-1-k,xs[xs.length-1-k]?.getD 0) wr hJs (by rw[Znn];exact hlt)
   dsimp only at hy
   have e1:((xs.length:Int)-1-k).toNat=xs.length-1-k:=by omega
   have e2:((xs.length-1-k:Nat):Int)=(xs.length:Int)-1-k:=by omega
   rw[e2] at hy
   gi_wp2
   refine hR.mono ?_;rintro e W3 (⟨rfl,hJ3,hk3⟩ | ⟨rfl,hJx3⟩)
   ·gi_wp2
    go_roundw
    case rel=>exact⟨k+1,by omega,by go_num,by rw[Zgf];exact hJ3,hnx.trans hk3.1,hk3.2.trans hbs⟩
    case measure=>simp[intOf];omega
   ·gi_wp2
    refine Qbm (results_none rfl _ _ _) rfl ?_;exact⟨⟨_,rfl⟩,.inr ⟨_,⟨k+1,by omega,(Zgf _ _).symm⟩,hJx3⟩⟩
  ·obtain rfl:k=xs.length:=by omega
   gi_wp2
   go_end0
   exact⟨⟨_,rfl⟩,.inl ⟨_,rfl,hJs⟩⟩}
theorem Znd (F:Fence) (n:Nat) (hf:F.fn 243) (hro:F.round=none) (a:Option Qbg) (len cap:Nat) (w:Qbe) :
  CallsIn F n Tryz.prog 243 #[.slice a len cap] w fun e w'=>e=.returned (.func (.func 254) #[] #[.pointer (some ⟨w.heap.size,0,none⟩)])/\w'=w.alloc (.cells #[.slice a len cap] 27):=by
 refine callsIn_of_wp Tryz.func243 rfl hf ?_ hro;simp only[Tryz.ntmps243,Pf,Qq,Qz,Pg,Ph,Q0,Pi,Pj,Pk,Pm,Q3]
 gi_wp2
 go_ret;exact⟨rfl,rfl⟩
theorem Zhu (F:Fence) (n:Nat) (hf:F.fn 254) (hro:F.round=none) (hn:1<=n) (Bs n₀ cap:Nat) (ad:Qbg) (xs:List UInt8) (hm:xs.length<=9223372036854775807) (w:Qbe) (hBs:Bs<w.heap.size) (hn₀:n₀<=w.heap.size)
  (hc:w.cell? ⟨Bs,0,none⟩=some (.slice (some ad) xs.length cap)) (hb:ad.block<n₀) (hx:∀ j,j<xs.length->w.cell? (ad.add j)=some (.int .u8 ((xs[j]?.getD 0).toNat:Int))) :
  SeqStopsK F n Tryz.prog 254 #[.pointer (some ⟨Bs,0,none⟩)] (fun x:Nat×UInt8=>#[Value.int .i64 (x.1:Int),Value.int .u8 (x.2.toNat:Int)]) (Zd0 n₀ Bs) (fun ys=>ys=Zr1 xs xs.length)
   (fun pre=>∃ k,k<=xs.length/\pre=Zr1 xs k) xs.length w:=fun l J Jx W hW _ _ hY h0=>by
 have hc':=(hW.cell (p:=⟨Bs,0,none⟩) hBs).trans hc;exact Z1g F n hf hro hn l Bs n₀ cap ad xs hm hb J Jx hY W hc' (fun j hj=>(hW.cell (p:=ad.add j) (by rw[Zh];omega)).trans (hx j hj)) h0
theorem Zoo {W w:Qbe}{Bs n₀:Nat}(hBs:Bs<w.heap.size) (hn₀:n₀<=w.heap.size) (l:Nat) (o o':Obj) (hl:w.heap.size<=l) (h1:W.heap[l]? = some o) (h2:o.isCells=false) (h3:o.isWalk=false):Zd0 n₀ Bs W (W.putObj l o') :=
 ⟨belowK_b hn₀ W l o o' hl h1 h2 h3,Pu (World.putObj_heap_other (k:=Bs) (by omega))⟩
theorem Zu7 (F:Fence) (n:Nat) (h3:F.fn 216) (h5:F.fn 243) (h7:F.fn 254) (hro:F.round=none) (hn:3<=n)
  (ad:Qbg) (len cap m k:Nat) (ys:List UInt8) (hk:ys.length=m) (hm0:0<m) (hm:m<=4) (hle:k+m<=len) (hlc:len<=cap) (hcap:cap<=9223372036854775807) (w:Qbe)
  (hb:ad.block<w.heap.size) (hx:∀ j,j<ys.length->w.cell? ((ad.add k).add j)=some (.int .u8 ((ys[j]?.getD 0).toNat:Int))) :
  CallsIn F n Tryz.prog 216 #[.slice (some ad) len cap,.int .i64 k,.int .i64 m] w fun e W'=>e=.returned (.tuple #[.int .u32 (num ys),.int .i64 0])/\Qbq w.heap.size w W':=by{
 have h1:1<=n:=by omega
 refine callsIn_of_wp_marks Tryz.func216 rfl h3 ?_ hro;simp only[Tryz.ntmps216,Pf,Qq,Qz,Pg,Ph,Q0,Pi,Pj,Pk,Pm,Q3]
 gi_wp2_with (gi_at_call 243;refine(Znd F (n-1) h5 hro _ _ _ _).mono ?_;rintro e w' ⟨rfl,rfl⟩)
 obtain rfl:=hk;have bN:=Boxed.new w 30 (.int .u32 0);have bS:=Boxed.new (w.alloc (.cells #[.int .u32 0] 30)) 27 (.slice (some (ad.add k)) ys.length (cap-k));rw[Qbb] at bS;have hB0:Qbq w.heap.size w ((w.alloc (.cells #[.int .u32 0] 30)).alloc (.cells #[.slice (some (ad.add k)) ys.length (cap-k)] 27)):=((Qe _ w).alloc (Qb _) _).alloc (by simp) _;refine wpIn_rangeFunc_ownG hro h1 (gf:=254) (lb:=#[.pointer (some ⟨w.heap.size+1,0,none⟩)]) rfl h7 (enters_of Tryz.func254 (by kernel_rfl) rfl)
  (Zhu F (n-1) h7 hro (by omega) (w.heap.size+1) w.heap.size (cap-k) (ad.add k) ys (by omega) _ (by simp) (by simp;omega) bS.cell (by rw[Zh];exact hb) (fun j hj=>(hB0.cell (p:=(ad.add k).add j) (by rw[Zh,Zh];exact hb)).trans (hx j hj)))
  (fun h h'=>Zd0.trans h h') (fun W l o o' hl h1 h2 h3=>Zoo (by simp) (by simp;omega) l o o' hl h1 h2 h3) (Qe _ _) (fun _=>rfl)
  (fun pre W=>(W.cell? ⟨w.heap.size,0,none⟩=some (.int .u32 (val pre))/\W.frozen? ⟨w.heap.size,0,none⟩=false)/\Qbq w.heap.size w W)
  (fun _ _ _=>False)
  (OwnFrom.and (Own.from (fun s A B row hs hg hr=>⟨cell_kept hs.1 hg hr,(frozen_kept hs.1 hg hr).trans hs.2⟩) _) (ownFrom_below (Qb _) (by simp;omega)))
  (fun _ _ _ _ _ hs _ _=>hs)
  ⟨⟨(bN.alloc _).cell,(bN.alloc _).frozen⟩,hB0⟩
  (fun x=>{ tmps:=#[.slice (some ad) len cap,.int .i64 k,.int .i64 ys.length,Qbo,Qbo,Qbo,.int .u32 0,.int .i64 0,.pointer (some ⟨w.heap.size,0,none⟩),Qbo,.int .u8 (x.2.toNat:Int),.int .i64 k,.bool (decide ((k:Int)<0)),.bool (decide ((k:Int)<0)),
   .int .i64 k,.slice (some ad) len cap,.int .i64 len,.int .i64 ys.length,.int .i64 ((len:Int)-ys.length),.bool (decide ((len:Int)-ys.length<k)),.bool (decide ((k:Int)<0)||decide ((len:Int)-ys.length<k)),.slice (some ad) len cap,.int .i64 k,.int .i64 k,.int .i64 ys.length,.int .i64 ((k:Int)+ys.length),
   .slice (some (ad.add k)) ys.length (cap-k),.func (.func 254) #[] #[.pointer (some ⟨w.heap.size+1,0,none⟩)],.int .i64 (x.1:Int),.int .u8 (x.2.toNat:Int),Qbo,Qbo,Qbo,Qbo,Qbo,Qbo],defers:=[] }) ?assign ?body ?done ?stop
 case assign =>
  intro l x W K hK
  gi_wp2
  exact hK
 case body =>
  rintro l pre x W ⟨⟨hc,hf⟩,hB⟩ hlen;obtain⟨v0,v1⟩:=Zth pre (by omega);have hx2:=x.2.toNat_lt;have hor:=Z4q (val pre) x.2 v0 v1
  gi_wp2
  exact⟨(KeepsOthers.setCell _ _ _).from _,⟨(Qe w.heap.size W).setCell (p:=⟨w.heap.size,0,none⟩) (Qb _) _,World.cell?_setCell_other _ _ _ _ (by simp)⟩,
   ⟨by rw[Zqd];exact Qas _ _ _ (by rw[hc];rfl),by rw[World.frozen?_setCell];exact hf⟩,hB.setCell (p:=⟨w.heap.size,0,none⟩) (Qb _) _⟩
 case done =>
  rintro D zs W hD rfl ⟨⟨hc,_⟩,hB⟩ hK;rw[Z1n] at hc
  gi_wp2
  refine⟨by simp,.inl ⟨_,_,rfl,run_takeDeferred hK,?_⟩⟩;exact⟨_,results_tmp2 rfl _ _ _,rfl,hB.trans (belowK_b (w:=w) (Qb _) W D _ _ (by simp at hD;omega) hK rfl rfl)⟩
 case stop =>
  rintro D c pre W _ _ h _;exact h.elim}
end Go.Proofs.YtmafkphcfkhokaaGreat
namespace Go.Proofs.YtmafkphcfkhokaaGreat
open Go.RowKit Go.Shelf
attribute [local go_sem] Oper.semAt_some
def Zdm (ws:List Wt) (b:List UInt8) (n:Int):List UInt8:=ws.foldl (fun acc x=>if x.1=n then x.2 else acc) b
def Ya (d:Dk) (n:Nat):List UInt8:=Zdm d.2 (d.1[n]?.getD []) n
theorem Zir {ws:List Wt}{b:List UInt8}{n:Int}(h:∀ x∈ws,x.1≠n):Zdm ws b n=b:=by{
 induction ws generalizing b with
 | nil=>rfl
 | cons x r ih =>
  show Zdm r (if x.1=n then x.2 else b) n=b;rw[if_neg (h x (Qs.2 (.inl rfl)))];exact ih fun y hy=>h y (Qs.2 (.inr hy))}
theorem Zlf (ws vs:List Wt) (b:List UInt8) (n:Int):Zdm (ws++vs) b n=Zdm vs (Zdm ws b n) n:=by simp[Zdm]
theorem Zzt {ws:List Wt}{b:List UInt8}{n:Int}{i:Nat}{x:Wt}(hi:ws[i]? = some x) (hx:x.1=n) (h:∀ j y,i<j->ws[j]? = some y->y.1≠n):Zdm ws b n=x.2:=by{
 have hil:=(Qj.1 hi).1;have e:ws=ws.take i++(x::ws.drop (i+1)):=by
  have h1:=(Pa i ws).symm;rw[Qu hil] at h1;have h2:=(Qj.1 hi).2
  rwa [h2] at h1
 rw[e,Zlf];show Zdm (ws.drop (i+1)) (if x.1=n then x.2 else Zdm (ws.take i) b n) n=x.2;rw[if_pos hx];refine Zir fun y hy=> ?_
 obtain⟨j,hj⟩:=Pd hy;rw[List.getElem?_drop] at hj;exact h _ y (by omega) hj}
theorem Zey {ws:List Wt}{b:List UInt8}{n:Int}{k:Nat}(hb:b.length=k) (h:∀ x∈ws,x.2.length=k):(Zdm ws b n).length=k:=by{
 induction ws generalizing b with
 | nil=>exact hb
 | cons x r ih =>
  refine ih (b:=if x.1=n then x.2 else b) ?_ fun y hy=>h y (Qs.2 (.inr hy))
  split
  ·exact h x (Qs.2 (.inl rfl))
  ·exact hb}
def Vs (m k:Nat):List Nat:=(Qo k).map fun j=>m-1-j
theorem Zef (m k:Nat):Vs m (k+1)=Vs m k++[m-1-k]:=by simp[Vs,Qaz]
theorem Xo (m k:Nat):(Vs m k).length=k:=by simp[Vs]
theorem Zgw {m k i:Nat}(hk:k<=m):i∈Vs m k↔m-k<=i/\i<m:=by
 simp only[Vs,Q5,Qr];constructor
 ·rintro⟨j,hj,rfl⟩;omega
 ·intro h;exact⟨m-1-i,by omega,by omega⟩
theorem Zxi (F:Fence) (n:Nat) (hf:F.fn 215) (hro:F.round=none) (hn:1<=n) (l Bs n₀ cap m:Nat) (A:Option Qbg) (ad:Qbg) (at_:Nat->Int) (E:Nat->Option Qbg) (ln ca:Nat->Nat) (hm:m<=9223372036854775807) (hA:0<m->A=some ad/\ad.block<n₀) (J Jx:List Nat->Qbe->Prop)
  (hY:∀ (pre:List Nat) (x:Nat) (W:Qbe),J pre W->pre.length<m->YieldAt F (n-1) Tryz.prog l #[.int .i64 (x:Int),.agg #[.int .i64 (at_ x),.slice (E x) (ln x) (ca x)]] W fun e W' =>
   (e=.returned (.bool true)/\J (pre++[x]) W'/\Zd0 n₀ Bs W W')\/(e=.returned (.bool false)/\Jx (pre++[x]) W'))
  (W:Qbe) (hBs:W.cell? ⟨Bs,0,none⟩=some (.slice A m cap)) (hc:∀ j,j<m->W.cell? (ad.add (j*2))=some (.int .i64 (at_ j))/\W.cell? ⟨(ad.add (j*2)).block,(ad.add (j*2)).off+1,none⟩=some (.slice (E j) (ln j) (ca j))) (h0:J [] W) :
  CallsIn F n Tryz.prog 215 #[.func (.yield l) #[] #[],.pointer (some ⟨Bs,0,none⟩)] W fun e W'=>(∃ v,e=.returned v) /\
   ((∃ ys,ys=Vs m m/\J ys W')\/(∃ pre,(∃ k,k<=m/\pre=Vs m k)/\Jx pre W')):=by{
 refine callsIn_of_wp Tryz.func215 rfl hf ?_ hro;simp only[Tryz.ntmps215,Pf,Qq,Qz,Pg,Ph,Q0,Pi,Pj,Pk,Pm,Q3];have HC:=Za hc;clear hc;replace hA:=Za hA
 gi_wp2
 gi_loopw [3] (fun i wr=>∃ k:Nat,k<=m/\i=.int .i64 ((m:Int)-1-k)/\J (Vs m k) wr/\Qbq n₀ W wr/\wr.cell? ⟨Bs,0,none⟩=some (.slice A m cap))
  (fun i _=>(intOf i+1).toNat)
 case atStart=>exact⟨0,Pq _,by simp,h0,Qe _ _,hBs⟩
 case round =>
  obtain⟨k,hk,rfl,hJs,hnx,hbs⟩:=hrel;by_cases hlt:k<m
  ·obtain⟨rfl,hb⟩:=hA.out (by omega)
   have hx:=HC.out (m-1-k) (by omega);have hc1:wr.cell? (ad.add ((m-1-k)*2))=some (.int .i64 (at_ (m-1-k))):=(hnx.cell (p:=ad.add ((m-1-k)*2)) (by rw[Zh];exact hb)).trans hx.1;have hc2:wr.cell? ⟨(ad.add ((m-1-k)*2)).block,(ad.add ((m-1-k)*2)).off+1,none⟩=some (.slice (E (m-1-k)) (ln (m-1-k)) (ca (m-1-k))):=(hnx.cell (p:=⟨(ad.add ((m-1-k)*2)).block,(ad.add ((m-1-k)*2)).off+1,none⟩) (by rw[Zh];exact hb)).trans hx.2;clear hx;obtain⟨fn,tmps,assign,body,hy,hR⟩:=hY _ (m-1-k) wr hJs (by rw[Xo];exact hlt)
   try dsimp only at hy
   have e1:((m:Int)-1-k).toNat=m-1-k:=by omega
   have e2:((m-1-k:Nat):Int)=(m:Int)-1-k:=by omega
   rw[e2] at hy;clear e2;have hds:=Za (Zef m k);generalize at_ (m-1-k)=q1 at *;generalize E (m-1-k)=q2 at *;generalize ln (m-1-k)=q3 at *;generalize ca (m-1-k)=q4 at *
   gi_wp2
   refine hR.mono ?_;rintro e W3 (⟨rfl,hJ3,hk3⟩ | ⟨rfl,hJx3⟩)
   ·gi_wp2
    go_roundw
    case rel=>exact⟨k+1,by omega,by go_num,by rw[hds.out];exact hJ3,hnx.trans hk3.1,hk3.2.trans hbs⟩
    case measure=>simp[intOf];omega
   ·gi_wp2
    refine Qbm (results_none rfl _ _ _) rfl ?_;exact⟨⟨_,rfl⟩,.inr ⟨_,⟨k+1,by omega,hds.out.symm⟩,hJx3⟩⟩
  ·obtain rfl:k=m:=by omega
   gi_wp2
   go_end0
   exact⟨⟨_,rfl⟩,.inl ⟨_,rfl,hJs⟩⟩}
theorem Zl6 (F:Fence) (n:Nat) (hf:F.fn 155) (hro:F.round=none) (a:Option Qbg) (len cap:Nat) (w:Qbe) :
  CallsIn F n Tryz.prog 155 #[.slice a len cap] w fun e w'=>e=.returned (.func (.func 215) #[] #[.pointer (some ⟨w.heap.size,0,none⟩)])/\w'=w.alloc (.cells #[.slice a len cap] 24):=by
 refine callsIn_of_wp Tryz.func155 rfl hf ?_ hro;simp only[Tryz.ntmps155,Pf,Qq,Qz,Pg,Ph,Q0,Pi,Pj,Pk,Pm,Q3]
 gi_wp2
 go_ret;exact⟨rfl,rfl⟩
theorem Zgl (F:Fence) (n:Nat) (hf:F.fn 215) (hro:F.round=none) (hn:1<=n) (Bs n₀ cap m:Nat) (A:Option Qbg) (ad:Qbg) (at_:Nat->Int) (E:Nat->Option Qbg) (ln ca:Nat->Nat) (hm:m<=9223372036854775807) (w:Qbe) (hBs:Bs<w.heap.size) (hn₀:n₀<=w.heap.size)
  (hc:w.cell? ⟨Bs,0,none⟩=some (.slice A m cap)) (hA:0<m->A=some ad/\ad.block<n₀) (hx:∀ j,j<m->w.cell? (ad.add (j*2))=some (.int .i64 (at_ j))/\w.cell? ⟨(ad.add (j*2)).block,(ad.add (j*2)).off+1,none⟩=some (.slice (E j) (ln j) (ca j))) :
  SeqStopsK F n Tryz.prog 215 #[.pointer (some ⟨Bs,0,none⟩)] (fun x:Nat=>#[Value.int .i64 (x:Int),Value.agg #[.int .i64 (at_ x),.slice (E x) (ln x) (ca x)]]) (Zd0 n₀ Bs) (fun ys=>ys=Vs m m)
   (fun pre=>∃ k,k<=m/\pre=Vs m k) m w:=fun l J Jx W hW _ _ hY h0=>by
 have hc':=(hW.cell (p:=⟨Bs,0,none⟩) hBs).trans hc;exact Zxi F n hf hro hn l Bs n₀ cap m A ad at_ E ln ca hm hA J Jx hY W hc' (fun j hj=>⟨(hW.cell (p:=ad.add (j*2)) (by rw[Zh];have:=(hA (by omega)).2;omega)).trans (hx j hj).1,(hW.cell (p:=⟨(ad.add (j*2)).block,(ad.add (j*2)).off+1,none⟩) (by rw[Zh];have:=(hA (by omega)).2;omega)).trans (hx j hj).2⟩) h0
theorem Z5t {w:Qbe}{B:Option Qbg}{ws:List Wt}(h:∀ i x,ws[i]? = some x->∃ ad v,B=some ad/\Old w (ad.add (i*2))/\Old w (ad.add (i*2+1))/\w.cell? (ad.add (i*2))=some (.int .i64 x.1)/\w.cell? (ad.add (i*2+1))=some v/\rBy (Old w) w [v] x.2 /\ -9223372036854775808<=x.1/\x.1<=9223372036854775807) :
  ∃ (ad:Qbg) (E:Nat->Option Qbg) (ca:Nat->Nat),(0<ws.length->B=some ad/\ad.block<w.heap.size)/\∀ i x,ws[i]? = some x->w.cell? (ad.add (i*2))=some (.int .i64 x.1)/\w.cell? ⟨(ad.add (i*2)).block,(ad.add (i*2)).off+1,none⟩=some (.slice (E i) x.2.length (ca i))/\rBy (Old w) w [.slice (E i) x.2.length (ca i)] x.2:=by{
 have h2:∀ i,∃ f:Option Qbg×Nat,∀ x,ws[i]? = some x->∃ ad,B=some ad/\ad.block<w.heap.size/\w.cell? (ad.add (i*2))=some (.int .i64 x.1)/\w.cell? ⟨(ad.add (i*2)).block,(ad.add (i*2)).off+1,none⟩=some (.slice f.1 x.2.length f.2)/\rBy (Old w) w [.slice f.1 x.2.length f.2] x.2:=fun i=>by
  cases hx:ws[i]? with
  | none=>exact⟨(none,0),fun x e=>by cases e⟩
  | some x =>
   obtain⟨ad,v,rfl,o1,_,c1,c2,hv,_⟩:=h i x hx;obtain⟨E,c,rfl,_⟩:=Zo hv;rw[Zcg] at c2;exact⟨(E,c),fun y e=>by cases e;exact⟨ad,rfl,by unfold Old at o1;rwa [Zh] at o1,c1,c2,hv⟩⟩
 obtain⟨f,hf⟩:∃ f:Nat->Option Qbg×Nat,∀ i x,ws[i]? = some x->∃ ad,B=some ad/\ad.block<w.heap.size/\w.cell? (ad.add (i*2))=some (.int .i64 x.1)/\w.cell? ⟨(ad.add (i*2)).block,(ad.add (i*2)).off+1,none⟩=some (.slice (f i).1 x.2.length (f i).2)/\rBy (Old w) w [.slice (f i).1 x.2.length (f i).2] x.2 :=
  ⟨fun i=>Classical.choose (h2 i),fun i=>Classical.choose_spec (h2 i)⟩
 rcases B with _ | ad
 ·refine⟨⟨0,0,none⟩,fun i=>(f i).1,fun i=>(f i).2,fun h0=> ?_,fun i x hi=> ?_⟩
  ·obtain⟨_,e,_⟩:=hf 0 _ (Qd h0)
   cases e
  ·obtain⟨_,e,_⟩:=hf i x hi
   cases e
 ·refine⟨ad,fun i=>(f i).1,fun i=>(f i).2,fun h0=> ?_,fun i x hi=> ?_⟩
  ·obtain⟨_,e,hb,_⟩:=hf 0 _ (Qd h0)
   cases e;exact⟨rfl,hb⟩
  ·obtain⟨_,e,_,hr⟩:=hf i x hi
   cases e;exact hr}
theorem Z25 (F:Fence) (n:Nat) (h3:F.fn 98) (h5:F.fn 155) (h7:F.fn 215) (hro:F.round=none) (hn:3<=n)
  (v:Qbf) (d:Dk) (k:Nat) (hk:k<d.1.length) (w:Qbe) (h:Dsk (Old w) w v d) :
  CallsIn F n Tryz.prog 98 #[v,.int .i64 k] w fun e W'=>∃ u,e=.returned u/\rBy (Old w) w [u] (Ya d k)/\Qbq w.heap.size w W':=by{
 have h1:1<=n:=by omega
 obtain⟨A,c,B,c',rfl,l1,m1,l2,m2,hA,hB⟩:=h.open;obtain⟨ad,E,ca,had,hfn⟩:=Z5t hB;obtain⟨x,hx⟩:∃ x,d.1[k]? = some x:=⟨_,Qd hk⟩
 obtain⟨a1,v1,rfl,ho1,hc1,hby1⟩:=hA k x hx;have HF:=Za hfn;clear hA hB h hfn;have hsd:Hid (Ya d k=Zdm d.2 x k):=Za (by unfold Ya;rw[hx];rfl);replace hx:=Za hx;obtain⟨N,hN⟩:∃ N,d.1.length=N:=⟨_,rfl⟩
 obtain⟨m,hm⟩:∃ m,d.2.length=m:=⟨_,rfl⟩
 rw[hN] at l1 hk ⊢;rw[hm] at l2 had ⊢;replace hN:=Za hN;replace hm:=Za hm;have hfa:Hid (∀ j,j<m->w.cell? (ad.add (j*2))=some (.int .i64 ((d.2[j]?.getD (0,[])).1))/\w.cell? ⟨(ad.add (j*2)).block,(ad.add (j*2)).off+1,none⟩=some (.slice (E j) (d.2[j]?.getD (0,[])).2.length (ca j))):=Za fun j hj=>by
  have hj':d.2[j]? = some (d.2[j]'(by rw[hm.out];exact hj)):=Qd _;rw[hj'];exact⟨(HF.out j _ hj').1,(HF.out j _ hj').2.1⟩
 obtain⟨E1,ce1,rfl,_⟩:=Zo hby1;replace had:=Za had;refine callsIn_of_wp_marks Tryz.func98 rfl h3 ?_ hro;simp only[Tryz.ntmps98,Pf,Qq,Qz,Pg,Ph,Q0,Pi,Pj,Pk,Pm,Q3]
 gi_wp2_with (gi_at_call 155;refine(Zl6 F (n-1) h5 hro _ _ _ _).mono ?_;rintro e w' ⟨rfl,rfl⟩)
 obtain⟨W0,hW0,hB0,hs0,b0,b1,b2,b2f,b3⟩:∃ W0,(((w.alloc (.cells #[.slice (some a1) N c,.slice B m c'] 26)).alloc (.cells #[.int .i64 (k:Int)] 3)).alloc (.cells #[.slice none 0 0] 27)).alloc (.cells #[.slice B m c'] 24)=W0/\Qbq w.heap.size w W0/\W0.heap.size=w.heap.size+4 /\
   W0.cell? ⟨w.heap.size,0,none⟩=some (.slice (some a1) N c)/\W0.cell? ⟨w.heap.size+1,0,none⟩=some (.int .i64 (k:Int))/\W0.cell? ⟨w.heap.size+1+1,0,none⟩=some (.slice none 0 0)/\W0.frozen? ⟨w.heap.size+1+1,0,none⟩=false/\W0.cell? ⟨w.heap.size+1+1+1,0,none⟩=some (.slice B m c') :=
  ⟨_,rfl,((((Qe _ w).alloc (Qb _) _).alloc (by simp) _).alloc (by simp;omega) _).alloc (by simp;omega) _,by simp,by go_simp,by go_simp,by go_simp,by go_simp,by go_simp⟩
 rw[hW0];clear hW0;obtain⟨atf,hat⟩:∃ f:Nat->Int,f=fun j=>(d.2[j]?.getD (0,[])).1:=⟨_,rfl⟩
 obtain⟨lnf,hln⟩:∃ f:Nat->Nat,f=fun j=>(d.2[j]?.getD (0,[])).2.length:=⟨_,rfl⟩
 have hfb:∀ j,j<m->W0.cell? (ad.add (j*2))=some (.int .i64 (atf j))/\W0.cell? ⟨(ad.add (j*2)).block,(ad.add (j*2)).off+1,none⟩=some (.slice (E j) (lnf j) (ca j)):=fun j hj=>by
  have hb:=(had.out (by omega)).2;rw[hat,hln];exact⟨(hB0.cell (p:=ad.add (j*2)) (by rw[Zh];exact hb)).trans (hfa.out j hj).1,(hB0.cell (p:=⟨(ad.add (j*2)).block,(ad.add (j*2)).off+1,none⟩) (by rw[Zh];exact hb)).trans (hfa.out j hj).2⟩
 have hlo:w.heap.size<=W0.heap.size:=hB0.size;replace hat:=Za hat;replace hln:=Za hln;refine wpIn_rangeFunc_ownH hro h1 (gf:=215) (lb:=#[.pointer (some ⟨w.heap.size+1+1+1,0,none⟩)]) rfl h7 (enters_of Tryz.func215 (by kernel_rfl) rfl)
  (Zgl F (n-1) h7 hro (by omega) (w.heap.size+1+1+1) w.heap.size c' m B ad atf E lnf ca (by omega) W0 (by omega) hlo b3 had.out hfb)
  (fun h h'=>Zd0.trans h h') (fun W l o o' hl h1 h2 h3=>Zoo (w:=W0) (by omega) hlo l o o' hl h1 h2 h3) (Qe _ _) (fun _=>rfl)
  (fun pre W=>((∀ j∈pre,atf j≠k)/\W.cell? ⟨w.heap.size,0,none⟩=some (.slice (some a1) N c)/\W.cell? ⟨w.heap.size+1,0,none⟩=some (.int .i64 (k:Int))/\W.cell? ⟨w.heap.size+1+1,0,none⟩=some (.slice none 0 0)/\W.frozen? ⟨w.heap.size+1+1,0,none⟩=false/\W.cell? ⟨w.heap.size+1+1+1,0,none⟩=some (.slice B m c'))/\Qbq w.heap.size w W)
  (fun cd pre W=>(cd=.ret/\∃ p i,pre=p++[i]/\(∀ j∈p,atf j≠k)/\atf i=k/\W.cell? ⟨w.heap.size+1+1,0,none⟩=some (.slice (E i) (lnf i) (ca i)))/\Qbq w.heap.size w W)
  (OwnFrom.and (Own.from (fun s A B row hs hg hr=>⟨hs.1,cell_kept hs.2.1 hg hr,cell_kept hs.2.2.1 hg hr,cell_kept hs.2.2.2.1 hg hr,(frozen_kept hs.2.2.2.1 hg hr).trans hs.2.2.2.2.1,cell_kept hs.2.2.2.2.2 hg hr⟩) _) (ownFrom_below (Qb _) hlo))
  (fun cd=>OwnFrom.and (Own.from (fun s A B row hs hg hr=>by
   obtain⟨e,p,i,e2,h1,h2,hc⟩:=hs
   exact⟨e,p,i,e2,h1,h2,cell_kept hc hg hr⟩) _) (ownFrom_below (Qb _) hlo))
  ⟨⟨by simp,b0,b1,b2,b2f,b3⟩,hB0⟩
  (fun x a' W=>∃ g,a'={ tmps:=#[.agg #[.slice (some a1) N c,.slice B m c'],.int .i64 (k:Int),.pointer (some ⟨w.heap.size,0,none⟩),.pointer (some ⟨w.heap.size+1,0,none⟩),.pointer (some ⟨w.heap.size+1+1,0,none⟩),Qbo,.pointer (some ⟨g,0,none⟩),.pointer (some ⟨w.heap.size,1,none⟩),.slice B m c',
   .func (.func 215) #[] #[.pointer (some ⟨w.heap.size+1+1+1,0,none⟩)],.int .i64 (x:Int),.agg #[.int .i64 (atf x),.slice (E x) (lnf x) (ca x)],Qbo,Qbo,Qbo,Qbo,Qbo,Qbo,Qbo,Qbo,Qbo,Qbo,Qbo],defers:=[] } /\
   W.cell? ⟨g,0,none⟩=some (.int .i64 (atf x))/\W.cell? ⟨g,1,none⟩=some (.slice (E x) (lnf x) (ca x)))
  (fun x a'=>Own.from (fun s A B row hs hg hr=>by
   obtain⟨g,e,h1,h2⟩:=hs
   exact⟨g,e,cell_kept h1 hg hr,cell_kept h2 hg hr⟩) _) ?assign ?body ?done ?stop
 case assign =>
  rintro l pre x W K ⟨⟨hp,c0,c1,c2,c2f,c3⟩,hb⟩ hK;have hlW:w.heap.size+1+1<W.heap.size:=Qv _ _ c2
  gi_wp2
  exact hK _ _ ((KeepsOthers.alloc _ _).from _) ⟨(Qe _ W).alloc hb.size _,(Lib.cell?_alloc_some _ c3).trans c3.symm⟩
   ⟨⟨hp,Lib.cell?_alloc_some _ c0,Lib.cell?_alloc_some _ c1,Lib.cell?_alloc_some _ c2,(Qac (Qba W _ _ hlW)).trans c2f,Lib.cell?_alloc_some _ c3⟩,hb.alloc hb.size _⟩ ⟨W.heap.size,rfl,by go_simp,by go_simp⟩
 case body =>
  rintro l pre x a' W hl hloop ⟨⟨hp,c0,c1,c2,c2f,c3⟩,hb⟩ ⟨g,rfl,g0,g1⟩ hlen;by_cases he:atf x=k
  ·have he':(atf x==(k:Int))=true:=by simpa using he
   replace he:=Za he
   gi_wp2
   refine⟨(KeepsOthers.setCell _ _ _).from _,⟨rfl,pre,x,rfl,hp,he.out,Qas _ _ _ (by rw[c2];rfl)⟩,hb.setCell (by simp;omega) _⟩
  ·have he':(atf x==(k:Int))=false:=by simpa using he
   replace he:=Za he
   gi_wp2
   refine⟨KeepsFrom.refl _ _,⟨Qe _ _,rfl⟩,⟨fun j hj=>(Qbd.1 hj).elim (hp j) (fun e=>by simp at e;rw[e];exact he.out),c0,c1,c2,c2f,c3⟩,hb⟩
 case done =>
  rintro D zs W hD rfl ⟨⟨hp,c0,c1,c2,c2f,c3⟩,hb⟩ hK;have hcx:=(hb.cell ho1).trans hc1
  have hval:Hid (rBy (Old w) w [.slice E1 x.length ce1] (Ya d k)):=Za (by
   rw[hsd.out,Zir]
   ·exact hby1
   ·intro y hy
    obtain⟨j,hj⟩:=Pd hy;have:=hp j ((Zgw (Qb _)).2 ⟨by omega,by rw[<- hm.out];exact(Qj.1 hj).1⟩);rw[hat.out] at this
    simpa [hj] using this)
  gi_wp2
  have hK':=(KeepsOthers.setCell W ⟨w.heap.size+1+1,0,none⟩ (.slice E1 x.length ce1)).same D _ hK rfl;refine⟨by simp,.inl ⟨_,_,rfl,run_takeDeferred hK',?_⟩⟩;have hc5:=cell_kept (Qas W ⟨w.heap.size+1+1,0,none⟩ (.slice E1 x.length ce1) (by rw[c2];rfl)) (grownBy_putObj' _ D (.deferred none)) (fun r e=>by cases e;exact⟨_,hK',rfl⟩);refine⟨.slice E1 x.length ce1,?_,_,rfl,hval.out,(hb.setCell (p:=⟨w.heap.size+1+1,0,none⟩) (by simp;omega) _).trans (belowK_b hlo _ D _ _ hD hK' rfl rfl)⟩;simp[results,Tryz.f98,go_sem,hc5]
 case stop =>
  rintro D cd pre W hD ⟨q,hq,rfl⟩ ⟨⟨rfl,p,i,hpi,h1,h2,hc⟩,hb⟩ hK;have hi:i∈Vs m q:=by rw[hpi];simp
  obtain⟨hi1,hi2⟩:=(Zgw hq).1 hi
  have hval:Hid (rBy (Old w) w [.slice (E i) (lnf i) (ca i)] (Ya d k)):=Za (by
   have hx2:d.2[i]? = some (d.2[i]'(by rw[hm.out];exact hi2)):=Qd _;have e1:atf i=(d.2[i]'(by rw[hm.out];exact hi2)).1:=by rw[hat.out];simp[hx2]
   have e2:lnf i=(d.2[i]'(by rw[hm.out];exact hi2)).2.length:=by rw[hln.out];simp[hx2]
   rw[hsd.out,e2,Zzt hx2 (by rw[<- e1];exact h2)]
   ·exact(HF.out i _ hx2).2.2
   ·intro j y hij hj
    have hjm:j<m:=by rw[<- hm.out];exact(Qj.1 hj).1
    have hjd:j∈Vs m q:=(Zgw hq).2 ⟨by omega,hjm⟩;rw[hpi] at hjd;have:=h1 j ((Qbd.1 hjd).elim id (fun e=>by simp at e;omega));rw[hat.out] at this
    simpa [hj] using this)
  gi_wp2
  refine⟨by simp,.inl ⟨_,_,rfl,run_takeDeferred hK,?_⟩⟩;have hc5:=cell_kept hc (grownBy_putObj' _ D (.deferred none)) (fun r e=>by cases e;exact⟨_,hK,rfl⟩);refine⟨.slice (E i) (lnf i) (ca i),?_,_,rfl,hval.out,hb.trans (belowK_b hlo _ D _ _ hD hK rfl rfl)⟩;simp[results,Tryz.f98,go_sem,hc5]}
theorem Zyz (v:Qbf) (d:Dk) (k:Nat) (hk:k<d.1.length) (w:Qbe) (h:Dsk (Old w) w v d) :
  Qbp Tryz.prog 98 #[v,.int .i64 k] w fun e W'=>∃ u,e=.returned u/\rBy (Old w) w [u] (Ya d k)/\Qbq w.heap.size w W' :=
 callsIn_wide.1 (Z25 Fence.wide 3 trivial trivial trivial rfl (Qb _) v d k hk w h)
def Vp (d:Dk) (n:Int):Int:=if Zap d then (if Xl n then 0 else 2) else 8
theorem Zmy {d:Dk}{n:Int}(h:Zap d=false):Vp d n=8:=by simp[Vp,h]
theorem Zkw {d:Dk}{n:Int}(h:Zap d=true) (h':Xl n=false):Vp d n=2:=by simp[Vp,h,h']
theorem Zi4 {d:Dk}{n:Int}(h:Zap d=true) (h':Xl n=true):Vp d n=0:=by simp[Vp,h,h']
theorem Ziq {n:Int}(h:Xl n=true):∃ k:Nat,n=k/\k<256:=by
 simp only[Xl,Qi,decide_eq_true_eq] at h;exact⟨n.toNat,by omega,by omega⟩
theorem Zdo {k:Nat}(h:k<256):Xl (k:Int)=true:=by
 simp only[Xl,Qi,decide_eq_true_eq];omega
theorem Vn (v:Qbf) (d:Dk) (n:Int) (w:Qbe) (h:Dsk (Old w) w v d):Qbp Tryz.prog 96 #[v,.int .i64 n] w fun e w'=>e=.returned (.int .i64 (Vp d n))/\Qbq w.heap.size w w':=by{
 obtain⟨a,b,rfl,_⟩:=id h;have hB:=Zb4 (Qe w.heap.size w) (.cells #[a,b] 26);have H:=Za (h.below hB);cases hm:Zap d with
 | true =>
  have hc:=Za (Zu6 hm);cases ht:Xl n with
  | true =>
   have hr:=Za (Zi4 hm ht);replace hm:=Za hm;replace ht:=Za ht
   go_enter Tryz.func96,Tryz.ntmps96
   go_wp2_with fail
   refine(Za1 _ d _ H.out).mono ?_;rintro e w1 ⟨rfl,hb1⟩;rw[hc.out]
   go_wp2_with fail
   refine(Zb7 _ _).mono ?_;rintro e w2 ⟨rfl,rfl⟩;rw[ht.out]
   go_wp2_with fail
   go_ret;exact⟨Zw hr.out.symm,hB.trans (hb1.mono hB.size)⟩
  | false =>
   have hr:=Za (Zkw hm ht);replace hm:=Za hm;replace ht:=Za ht
   go_enter Tryz.func96,Tryz.ntmps96
   go_wp2_with fail
   refine(Za1 _ d _ H.out).mono ?_;rintro e w1 ⟨rfl,hb1⟩;rw[hc.out]
   go_wp2_with fail
   refine(Zb7 _ _).mono ?_;rintro e w2 ⟨rfl,rfl⟩;rw[ht.out]
   go_wp2_with fail
   go_ret;exact⟨Zw hr.out.symm,hB.trans (hb1.mono hB.size)⟩
 | false =>
  have hc:=Za (Zc7 hm);have hr:=Za (Zmy (n:=n) hm);replace hm:=Za hm
  go_enter Tryz.func96,Tryz.ntmps96
  go_wp2_with fail
  refine(Za1 _ d _ H.out).mono ?_;rintro e w1 ⟨rfl,hb1⟩;rw[hc.out]
  go_wp2_with fail
  go_ret;exact⟨Zw hr.out.symm,hB.trans (hb1.mono hB.size)⟩}
theorem Zx7 (v:Qbf) (d:Dk) (n:Int) (w:Qbe) (h:Dsk (Old w) w v d) (hn:¬ (Zap d=true/\Xl n=true)) :
  Qbp Tryz.prog 50 #[v,.int .i64 n] w fun e w'=>e=.returned (.tuple #[.slice none 0 0,.int .i64 (Vp d n)])/\Qbq w.heap.size w w':=by{
 obtain⟨a,b,rfl,_⟩:=id h;have hB:=Zb4 (Qe w.heap.size w) (.cells #[a,b] 26);have H:=Za (h.below hB);have hc:Vp d n=8\/Vp d n=2:=by
  cases hm:Zap d with
  | false=>exact .inl (Zmy hm)
  | true =>
   cases ht:Xl n with
   | false=>exact .inr (Zkw hm ht)
   | true=>exact absurd ⟨hm,ht⟩ hn
 clear hn;rcases hc with hc | hc
 all_goals
  rw[hc];replace hc:=Za hc
  go_enter Tryz.func50,Tryz.ntmps50
  go_wp2_with fail
  refine(Vn _ d n _ H.out).mono ?_;rintro e w1 ⟨rfl,hb1⟩;rw[hc.out]
  go_wp2_with fail
  go_ret2
  exact⟨rfl,hB.trans (hb1.mono hB.size)⟩}
theorem Z3z (v:Qbf) (d:Dk) (k:Nat) (w:Qbe) (h:Dsk (Old w) w v d) (hm:Zap d=true) (hk:k<256) :
  Qbp Tryz.prog 50 #[v,.int .i64 k] w fun e w'=>∃ u,e=.returned (.tuple #[u,.int .i64 0])/\rBy (New w.heap.size w') w' [u] (Ya d k)/\Qbq w.heap.size w w':=by{
 obtain⟨a,b,rfl,ha,hb⟩:=id h;obtain⟨w0,hw0,f1,f2,f3,hB⟩:=Zje w a b 26;have H:=Za (h.below hB);have hc:=Za (Zi4 hm (Zdo hk));have hl:k<d.1.length:=by rw[(Zg0 hm).1];exact hk
 have hbig:Hid ((Ya d k).length=128):=Za (by
  obtain⟨h1,h2,h3,h4⟩:=Zg0 hm;refine Zey ?_ fun x hx=> ?_
  ·rw[Qd hl]
   exact h3 k _ (Qd hl)
  ·obtain⟨j,hj⟩:=Pd hx
   exact(h4 j x hj).2.2)
 obtain⟨A,c,e1,_⟩:=Zad ha;obtain⟨B,e,e2,_⟩:=Zps hb;cases e1;cases e2;replace f3:=Za f3;replace hm:=Za hm
 go_enter Tryz.func50,Tryz.ntmps50
 go_upto_region 1 with fail
 clear hw0
 go_wp2_with fail
 refine(Vn _ d k _ H.out).mono ?_;rintro e w1 ⟨rfl,hb1⟩;rw[hc.out];have H1:=Za (H.out.below hb1);have g1:=(hb1.cell (p:=⟨w.heap.size,0,none⟩) (by rw[f3.out];simp)).trans f1;have g2:=(hb1.cell (p:=⟨w.heap.size,1,none⟩) (by rw[f3.out];simp)).trans f2;have hB1:=hB.trans (hb1.mono hB.size);clear f1 f2 hB hb1
 go_wp2_with fail
 refine(Zyz _ d k hl _ H1.out).mono ?_;rintro e w2 ⟨u,rfl,hu,hb2⟩;have hu2:=Zf.old hu hb2;have hB2:=hB1.trans (hb2.mono hB1.size)
 go_wp2_with fail
 refine(Zaj u _ _ (by rw[hbig.out];omega) hu2).mono ?_;rintro e w3 ⟨x,rfl,hx,hb3⟩;have hfin:=Za (Zf.mono hx hB2.size);have hB3:=hB2.trans (hb3.mono hB2.size);clear hx hu hu2
 go_wp2_with fail
 go_ret2
 exact⟨x,rfl,hfin.out,hB3⟩}
end Go.Proofs.YtmafkphcfkhokaaGreat
