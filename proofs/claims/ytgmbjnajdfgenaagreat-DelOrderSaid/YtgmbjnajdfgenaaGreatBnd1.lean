/-
  Lemmas on the program and on the document's answers, gathered: Bnd1, Bnd2, Bnd3, Bnd4, Bnd5, Bnd6. Conditions: those that each lemma states.
-/
import Derived.Test.YtgmbjnajdfgenaaGreatRows
import Derived.Test.YtgmbjnajdfgenaaGreatProg
import Derived.WalkKit
import Derived.WalkLawsBesides
import Derived.WalkSpells
import Derived.ProofKit
import Derived.OpenShut
import Derived.Carry
import Derived.Laws.IdiomStrings
import Derived.BigQuiet
import Derived.Deep.DeepCutAuto
import Derived.Deep.RegionWith
import Derived.OwnWalk
import Derived.Laws.AppendOwn
import Derived.Maps.AppendAt
import Derived.Deep.QuietTactic
import Derived.Deep.Slices
import Derived.Lib.SmallJoins
import Derived.Deep.CutBlock
import Derived.Lib.Hide
import Derived.Outline
import Derived.Laws.BitsAllLaws
import Derived.Laws.BitsLemmas
import Derived.Laws.Rows
import Derived.Laws.CopyOwn
import Derived.Laws.MakeOwn
import Derived.Orders
import Derived.Below
import Derived.Laws.World
import Derived.BigRegion
import Derived.StillTailTactics
import Derived.IntWalk
import Derived.Laws.OwnMore
import Derived.RangeFuncCalls
import Derived.OrdersIn
import Derived.AtR
import Derived.RangeFuncNested
import Derived.RangeFuncBox
import Derived.RangeFuncBound
import Derived.RangeFuncLeaves
import Derived.Shelf.Abstract
import Derived.Shelf.RegionOpen
import Derived.OwnWalkIn
import Derived.TacticsInMore
import Derived.LoopNIn
import Derived.LoopIn
import Derived.Deep.RegionHeld3
import Derived.Deep.AppendLies
import Derived.Lib.AppendZerosOnto
import Derived.Deep.CutRange
import Derived.Laws.StructEq
import Derived.Deep.RegionLaw
import Derived.Lib.Overlaps
import Derived.Sort.QuietIn
import Derived.Sort.CutIn
import Derived.Shelf.SlIterI.Keys
import Derived.Shelf.SlIterI.Stops
import Derived.Shelf.SlIterI.Sorted
import Derived.Shelf.SortM.Plain
import Derived.Shelf.SortM.SortNone
import Derived.Maps.OwnSet
import Derived.Maps.OwnIn
import Derived.Stop.RegionWithIn
import Derived.WalkMore
set_option maxRecDepth 100000
set_option maxHeartbeats 16000000
set_option maxRecDepth 100000
set_option maxHeartbeats 16000000
set_option maxRecDepth 100000
set_option maxHeartbeats 16000000
set_option maxRecDepth 100000
set_option maxHeartbeats 16000000
open Array renaming getElem?_eq_some_iff → Qe, getD → Qk, replicate → Ql, getElem?_eq_getElem → Qu, replicate_succ → Qv, ext → Q7, replicate_zero → Pe, getElem?_push → Pn, getD_eq_getD_getElem? → Ps, mem_append → Pt, all_eq_true_iff_forall_mem → P1, any_eq_true' → P3, getElem?_modify → P7, getElem?_toList → Qaj, getElem?_setIfInBounds_ne → Qaw, getElem?_eq_none → Qax
open Bool renaming and_eq_true → Qj, or_eq_true → Q8, false_ne_true → Pz
open Go renaming Q1 → Qa6, Q2 → Qa7, P2 → Qa8, Exit → Qa9, Oper → Qba, Act → Qbb, Qbk → Qbc, Qbl → Qbd, Qbm → Qbe, Qbn → Qbf, Qbo → Qbg
open Go.Act renaming put → Qh
open Go.Builtin renaming append_ → Pi, lenOf → Qal, firstCells → Qam
open Go.Region renaming wanted → Qc, ready → Qf, binds → Qg, noSelect → Pq, free → Qae, noSelect_spec → Qaz
open Go.RowKit renaming Qbp → Qbh
open Go.RowKit.Below renaming refl → Qb, heap_alloc → Qa3
open Go.World renaming block_lt_of_cell? → Qr, frozen? → Q4, ownsRow_made → Px, ownsRow_nil → Py, setCell → P5, cell?_setCell_same' → Qag, size_alloc → Qaq, cell? → Qa1, cell?_of_block → Qa2
open List renaming getElem?_eq_getElem → Qd, getElem?_eq_some_iff → Qi, all_eq_true → Qm, range → Qn, length_cons → Qo, mem_range → Qp, mem_cons → Qs, cons_append → Qw, eq_nil_of_length_eq_zero → Qx, mem_map → Qy, take_of_length_le → Qz, length_nil → Q0, take_append_drop → Q5, getElem?_of_mem → Q6, eq_nil_iff_forall_not_mem → Q9, size_toArray → Pb, push_toArray → Pf, append_toArray → Pg, nil_append → Ph, replicate → Pj, length_filter_le → Pm, getElem?_set_ne → Po, mem_filter → Pr, mem_append_left → Pu, mem_append_right → Pv, take_add_one → Pw, take_add → P4, getElem?_set_self → P8, cons_ne_nil → P9, dropLast_cons_of_ne_nil → Qaa, dropLast_singleton → Qab, getLast_cons → Qac, getLast_singleton → Qad, mem_toArray → Qaf, append_nil → Qah, getElem?_map → Qak, getElem?_append_left → Qan, mem_of_getElem? → Qao, length_append → Qap, setIfInBounds_toArray → Qar, set_cons_zero → Qas, set_cons_succ → Qat, range_succ → Qau, drop_eq_getElem_cons → Qav, drop_eq_nil_of_le → Qa0, length_take_le → Qa4, mem_append → Qa5
open Nat renaming le_refl → Qa, le_trans → Qq, mul_one → Qt, add_zero → Q3, lt_of_lt_of_le → Pa, reduceAdd → Pc, reduceSub → Pd, zero_le → Pk, eq_zero_or_pos → Pp, add_assoc → Qai, le_of_not_lt → Qay
open Go renaming Operand → Qbj
open Go.World renaming setRow → Qbi
open List renaming map_toArray → Pl, map_cons → P0, map_nil → P6
open Go renaming World → Q1, Value → Q2, Addr → P2, TypeId → Qbk, bodyPost_ret → Qbl, heap_alloc_new → Qbm, undef → Qbn, Calls → Qbo
open Go.RowKit renaming Below → Qbp
noncomputable section
namespace Go.Proofs.YtgmbjnajdfgenaaGreat
open Go.ChangeShapes Go.WideShapes Go.RowKit
section
variable {H : Type} {enc : Qbc × Qa7 -> H} {P : Program}
end
def Byt (w:Qa6) (B:Nat) (A:Option Qa8) (xs:List UInt8):Prop :=
 0<xs.length->∃ ad,A=some ad/\ad.block<B/\∀ j,j<xs.length->w.cell? (ad.add j)=some (.int .u8 ((xs[j]?.getD 0).toNat:Int))
theorem Zh (a:Qa8) (n:Nat):(a.add n).block=a.block:=by unfold Addr.add;split <;> rfl
section
variable {w w' : Qa6} {B B' : Nat} {A : Option Qa8} {xs : List UInt8}
end
theorem Ym {a b:Bool} (h:a=b):Ending.returned (.bool a)=.returned (.bool b):=by rw[h]
theorem Z1 {k:IntKind} {a b:Int} (h:a=b):Ending.returned (.int k a)=.returned (.int k b):=by rw[h]
theorem Zdi {w w1:Qa6} (h:Qbh w.heap.size w w1) (o:Obj):Qbh w.heap.size w (w1.alloc o):=h.alloc h.size o
def u8s (xs:List UInt8):List Qa7:=xs.map fun x=>Value.int .u8 (x.toNat:Int)
theorem Zp {P:Program} {w:Qa6} {ops:Array Qba} {rest:List Qba} {o:Qba} {a:Qbb} {Q:Qa9->Qbb->Qa6->Prop} (hgd:o.guard=none) (s x:Qbj) (t:Qbc)
 (ho:o.op=.call { callee:=.builtin .append,args:=#[s,x],argTypes:=#[t,t] }) {v u v':Qa7} {w':Qa6} (hs:a.eval s=v) (hx:a.eval x=u)
 (hrun:(Pi #[t,t] o.type #[v,u]).run P w=.ok v' w') (h:wpList P ops Q rest (a.put o.dst v') w'):wpList P ops Q (o::rest) a w :=
 wpList_plain hgd fun _ hK=>by
 unfold Oper.wp execOp;simp only[ho,resolve,invoke,builtin,Sem.run_bind,Sem.run_pure,Result.andThen_ok,Pl,P0,P6,hs,hx,hrun];exact hK _ _ h
end Go.Proofs.YtgmbjnajdfgenaaGreat
namespace Go.Proofs.YtgmbjnajdfgenaaGreat
open Go.ChangeShapes Go.WideShapes Go.RowKit
abbrev Rel (α:Type):=(Qa8->Prop)->Qa6->List Qa7->α->Prop
def rK (k:IntKind):Rel Int:=fun _ _ cs n=>cs=[.int k n]/\k.min<=n/\n<=k.max
def rU8:Rel UInt8:=fun _ _ cs x=>cs=[.int .u8 (x.toNat:Int)]
def rSl {α:Type} (n:Nat) (R:Rel α):Rel (List α):=fun ok w cs xs=>∃ A cap,cs=[.slice A xs.length cap]/\xs.length<=cap/\cap<=9223372036854775807 /\
 ∀ i x,xs[i]? = some x->∃ ad vs,A=some ad/\vs.length=n/\(∀ j v,vs[j]? = some v->ok (ad.add (i*n+j))/\w.cell? (ad.add (i*n+j))=some v)/\R ok w vs x
def Zjx {α β:Type} (R:Rel α) (S:Rel β):Rel (α×β):=fun ok w cs x=>∃ c d,cs=c++d/\R ok w c x.1/\S ok w d x.2
def Old (w:Qa6):Qa8->Prop:=fun p=>p.block<w.heap.size
def New (lo:Nat) (w:Qa6):Qa8->Prop:=fun p=>lo<=p.block/\p.block<w.heap.size/\w.frozen? p=false
def Ze2 {α:Type} (R:Rel α):Prop:=∀ (ok ok':Qa8->Prop) (w w':Qa6) (cs:List Qa7) (x:α),(∀ p v,ok p->w.cell? p=some v->ok' p/\w'.cell? p=some v)->R ok w cs x->R ok' w' cs x
theorem Zgb (k:IntKind):Ze2 (rK k):=fun _ _ _ _ _ _ _ h=>h
theorem Zyy:Ze2 rU8:=fun _ _ _ _ _ _ _ h=>h
theorem Uf {α:Type} {n:Nat} {R:Rel α} (h:Ze2 R):Ze2 (rSl n R):=fun ok ok' w w' cs xs hk hr=>by
 obtain⟨A,cap,h1,h2,h3,h4⟩:=hr;refine⟨A,cap,h1,h2,h3,fun i x hi => ?_⟩;obtain⟨ad,vs,e1,e2,e3,e4⟩:=h4 i x hi;exact⟨ad,vs,e1,e2,fun j v hj=>hk _ _ (e3 j v hj).1 (e3 j v hj).2,h _ _ _ _ _ _ hk e4⟩
theorem Zdr {α β:Type} {R:Rel α} {S:Rel β} (h:Ze2 R) (h':Ze2 S):Ze2 (Zjx R S):=fun ok ok' w w' cs xs hk hr=>by
 obtain⟨c,d,h1,h2,h3⟩:=hr;exact⟨c,d,h1,h _ _ _ _ _ _ hk h2,h' _ _ _ _ _ _ hk h3⟩
section
variable {α : Type} {R : Rel α} (hR : Ze2 R) {w w' : Qa6} {cs : List Qa7} {x : α}
include hR
end
theorem Zd7 (a:Qa8) (i:Nat):a.add (i+1)=⟨(a.add i).block,(a.add i).off+1,none⟩:=by
 unfold Addr.add;by_cases hi:i=0 <;> simp[hi,Qai]
def rBy:Rel (List UInt8):=rSl 1 rU8
theorem Zf:Ze2 rBy:=Uf Zyy
theorem Zt {ok:Qa8->Prop} {w:Qa6} {v:Qa7} {xs:List UInt8} (h:rBy ok w [v] xs):∃ A cap,v=.slice A xs.length cap/\xs.length<=cap/\cap<=9223372036854775807 /\
 ∀ i,i<xs.length->∃ ad,A=some ad/\ok (ad.add i)/\w.cell? (ad.add i)=some (.int .u8 ((xs[i]?.getD 0).toNat:Int)):=by
 obtain⟨A,cap,h1,h2,h3,h4⟩:=h;refine⟨A,cap,by simpa using h1,h2,h3,fun i hi => ?_⟩;obtain⟨ad,vs,e1,_,e3,e4⟩:=h4 i _ (Qd hi);unfold rU8 at e4;subst e4;have:=e3 0 _ rfl;rw[Qt,Q3] at this;exact⟨ad,e1,this.1,by rw[this.2,Qd hi];rfl⟩
theorem Ve {ok:Qa8->Prop} {w:Qa6} {B:Nat} {v:Qa7} {xs:List UInt8} (hok:∀ p,ok p->p.block<B) (h:rBy ok w [v] xs):∃ A cap,v=.slice A xs.length cap/\xs.length<=cap/\cap<=9223372036854775807/\Byt w B A xs:=by
 obtain⟨A,cap,h1,h2,h3,h4⟩:=Zt h;refine⟨A,cap,h1,h2,h3,fun hp => ?_⟩;obtain⟨ad,rfl,hb,_⟩:=h4 0 hp;refine⟨ad,rfl,by have:=hok _ hb;rwa [Zh] at this,fun j hj => ?_⟩;obtain⟨ad',e,_,hc⟩:=h4 j hj;cases e;exact hc
theorem Zhm {w:Qa6} {base n:Nat} {t:Qbc} {v:Qa7} {xs:List UInt8} (h:w.ownsRow base t 1 v n (u8s xs)):rBy (New base w) w [v] xs:=by{
have hl:xs.length=n:=by simpa [u8s] using h.1
subst hl;rcases h.2 with ⟨rfl,h0⟩ | ⟨g,cap,cur,rfl,hbg,hg,hnc,hcm,_,_⟩
·have:xs=[]:=Qx h0
subst this;exact⟨none,0,rfl,by simp,by omega,fun i x hi=>by simp at hi⟩
·refine⟨_,cap,rfl,hnc,by unfold maxLen at hcm;exact hcm,fun i x hi => ?_⟩
refine⟨_,[.int .u8 (x.toNat:Int)],rfl,rfl,fun j v hj => ?_,rfl⟩;have hj0:j=0:=by
 have:=(Qi.1 hj).1;simp at this;omega
subst hj0;cases hj;have hlt:g<w.heap.size:=(Qe.1 hg).1;rw[Qt,Q3];refine⟨⟨by rw[Zh];exact hbg,by rw[Zh];exact hlt,?_⟩,h.cells (g:=g) rfl i _ (by simp[u8s,hi])⟩;simp only[Q4,Zh,hg];simp}
theorem Zsp {α:Type} {R:Rel α} {w:Qa6} {base size n:Nat} {t:Qbc} {v:Qa7} {cs:List Qa7} {xs:List α} (h:w.ownsRow base t size v n cs) (hl:xs.length=n)
 (hx:∀ i x,xs[i]? = some x->∃ vs,vs.length=size/\(∀ j u,vs[j]? = some u->cs[i*size+j]? = some u)/\R (New base w) w vs x):rSl size R (New base w) w [v] xs:=by
 subst hl;rcases h.2 with ⟨rfl,h0⟩ | ⟨g,cap,cur,rfl,hbg,hg,hnc,hcm,_,_⟩
 ·have:xs=[]:=Qx h0
 subst this;exact⟨none,0,rfl,by simp,by omega,fun i x hi=>by simp at hi⟩
 ·refine⟨_,cap,rfl,hnc,by unfold maxLen at hcm;exact hcm,fun i x hi => ?_⟩
 obtain⟨vs,h1,h2,h3⟩:=hx i x hi;have hlt:g<w.heap.size:=(Qe.1 hg).1;refine⟨_,vs,rfl,h1,fun j u hj=>⟨⟨by rw[Zh];exact hbg,by rw[Zh];exact hlt,?_⟩,h.cells (g:=g) rfl _ u (h2 j u hj)⟩,h3⟩;simp only[Q4,Zh,hg];simp
end Go.Proofs.YtgmbjnajdfgenaaGreat
namespace Go.Proofs.YtgmbjnajdfgenaaGreat
open Go.ChangeShapes Go.WideShapes Go.RowKit
abbrev Wt:=Int×List UInt8
abbrev Dk:=List (List UInt8)×List Wt
def rWt:Rel Wt:=Zjx (rK .i64) rBy
theorem Zx4:Ze2 rWt:=Zdr (Zgb _) Zf
theorem Zul {ok:Qa8->Prop} {w:Qa6} {cs:List Qa7} {x:Wt} (h:rWt ok w cs x):∃ v,cs=[.int .i64 x.1,v] /\ -9223372036854775808<=x.1/\x.1<=9223372036854775807/\rBy ok w [v] x.2:=by
 obtain⟨c,d,rfl,⟨rfl,h1,h2⟩,h3⟩:=h;obtain⟨A,cap,rfl,h4⟩:=h3;exact⟨_,rfl,by simpa [IntKind.min,IntKind.signed,IntKind.bits] using h1,by simpa [IntKind.max,IntKind.signed,IntKind.bits] using h2,A,cap,rfl,h4⟩
theorem Zde {ok:Qa8->Prop} {w:Qa6} {cs:List Qa7} {xss:List (List UInt8)} (h:rSl 1 rBy ok w cs xss):∃ A cap,cs=[.slice A xss.length cap]/\xss.length<=cap/\cap<=9223372036854775807 /\
 ∀ i x,xss[i]? = some x->∃ ad v,A=some ad/\ok (ad.add i)/\w.cell? (ad.add i)=some v/\rBy ok w [v] x:=by
 obtain⟨A,cap,h1,h2,h3,h4⟩:=h;refine⟨A,cap,h1,h2,h3,fun i x hi => ?_⟩;obtain⟨ad,vs,e1,e2,e3,e4⟩:=h4 i x hi
 match vs,e2 with
 | [v],_ =>
 have:=e3 0 v rfl;rw[Qt,Q3] at this;exact⟨ad,v,e1,this.1,this.2,e4⟩
theorem Zts {ok:Qa8->Prop} {w:Qa6} {cs:List Qa7} {ws:List Wt} (h:rSl 2 rWt ok w cs ws):∃ A cap,cs=[.slice A ws.length cap]/\ws.length<=cap/\cap<=9223372036854775807 /\
 ∀ i x,ws[i]? = some x->∃ ad v,A=some ad/\ok (ad.add (i*2))/\ok (ad.add (i*2+1))/\w.cell? (ad.add (i*2))=some (.int .i64 x.1)/\w.cell? (ad.add (i*2+1))=some v/\rBy ok w [v] x.2 /\ -9223372036854775808<=x.1/\x.1<=9223372036854775807:=by
 obtain⟨A,cap,h1,h2,h3,h4⟩:=h;refine⟨A,cap,h1,h2,h3,fun i x hi => ?_⟩;obtain⟨ad,vs,e1,e2,e3,e4⟩:=h4 i x hi;obtain⟨v,rfl,b1,b2,hv⟩:=Zul e4;have a0:=e3 0 _ rfl;have a1:=e3 1 _ rfl;rw[Q3] at a0;exact⟨ad,v,e1,a0.1,a1.1,a0.2,a1.2,hv,b1,b2⟩
def Dsk (ok:Qa8->Prop) (w:Qa6) (v:Qa7) (d:Dk):Prop:=∃ a b,v=.agg #[a,b]/\rSl 1 rBy ok w [a] d.1/\rSl 2 rWt ok w [b] d.2
theorem Dsk.map {ok ok':Qa8->Prop} {w w':Qa6} {v:Qa7} {d:Dk} (hk:∀ p v,ok p->w.cell? p=some v->ok' p/\w'.cell? p=some v) (h:Dsk ok w v d):Dsk ok' w' v d:=by
 obtain⟨a,b,e,h1,h2⟩:=h;exact⟨a,b,e,Uf Zf _ _ _ _ _ _ hk h1,Uf Zx4 _ _ _ _ _ _ hk h2⟩
theorem Dsk.open {ok:Qa8->Prop} {w:Qa6} {v:Qa7} {d:Dk} (h:Dsk ok w v d):∃ A c B e,v=.agg #[.slice A d.1.length c,.slice B d.2.length e]/\d.1.length<=c/\c<=9223372036854775807/\d.2.length<=e/\e<=9223372036854775807 /\
 (∀ i x,d.1[i]? = some x->∃ ad v,A=some ad/\ok (ad.add i)/\w.cell? (ad.add i)=some v/\rBy ok w [v] x) /\
 (∀ i x,d.2[i]? = some x->∃ ad v,B=some ad/\ok (ad.add (i*2))/\ok (ad.add (i*2+1))/\w.cell? (ad.add (i*2))=some (.int .i64 x.1)/\w.cell? (ad.add (i*2+1))=some v/\rBy ok w [v] x.2 /\ -9223372036854775808<=x.1/\x.1<=9223372036854775807):=by
 obtain⟨a,b,rfl,h1,h2⟩:=h;obtain⟨A,c,e1,l1,m1,k1⟩:=Zde h1;obtain⟨B,e,e2,l2,m2,k2⟩:=Zts h2;cases e1;cases e2;exact⟨A,c,B,e,rfl,l1,m1,l2,m2,k1,k2⟩
def wtB (x:Wt):Bool:=decide (0<=x.1)&&decide (x.1<256)&&decide (x.2.length=128)
def byB (x:List UInt8):Bool:=decide (x.length=128)
def Zbw (d:Dk):Bool:=decide (d.1.length=256)&&decide (d.2.length<=4096)&&d.1.all byB&&d.2.all wtB
def chk (d:Dk):Int:=if Zbw d then 0 else 8
theorem Zew {d:Dk} (h:Zbw d=false):chk d=8:=by simp[chk,h]
theorem Zzi {d:Dk} (h:Zbw d=true):chk d=0:=by simp[chk,h]
theorem Zyc {α:Type} {p:α->Bool} {xs:List α} (h:xs.all p=true) {k:Nat} {x:α} (hk:xs[k]? = some x):p x=true:=Qm.1 h x (Qao hk)
theorem Z1p {α:Type} {p:α->Bool} {xs:List α} {k:Nat} {x:α} (hk:xs[k]? = some x) (h:p x=false):xs.all p=false:=by
 cases ha:xs.all p with
 | false=>rfl
 | true=>rw[Zyc ha hk] at h;cases h
theorem Zt6 {α:Type} {p:α->Bool} {xs:List α} {k:Nat} {x:α} (h:(xs.take k).all p=true) (hk:xs[k]? = some x) (hx:p x=true):(xs.take (k+1)).all p=true:=by
 rw[Pw,hk];simp[h,hx]
theorem Z35 {d:Dk} (h:d.1.length≠256):Zbw d=false:=by simp[Zbw,h]
theorem Z41 {d:Dk} (h:4096<d.2.length):Zbw d=false:=by
 have:decide (d.2.length<=4096)=false:=by simpa using h
 simp[Zbw,this]
theorem Zzh {d:Dk} {k:Nat} {x:List UInt8} (hk:d.1[k]? = some x) (h:x.length≠128):Zbw d=false:=by
 have:d.1.all byB=false:=Z1p hk (by simp[byB,h]);rw[Zbw,this];simp
theorem Zti {d:Dk} {k:Nat} {x:Wt} (hk:d.2[k]? = some x) (h:wtB x=false):Zbw d=false:=by
 have:d.2.all wtB=false:=Z1p hk h;rw[Zbw,this];simp
theorem Zy8 {d:Dk} (h1:d.1.length=256) (h2:d.2.length<=4096) (h3:d.1.all byB=true) (h4:d.2.all wtB=true):Zbw d=true:=by simp[Zbw,h1,h2,h3,h4]
theorem Za {p:Prop} (h:p):Hid p:=h
theorem Zb {α:Type _} {l:List α} {i:Nat} {a:α}:l.toArray.setIfInBounds i a=(l.set i a).toArray:=Qar _ _ _
theorem Zc {α:Type _} {x:α} {xs:List α} {a:α}:(x::xs).set 0 a=a::xs:=Qas
theorem Zd {α:Type _} {x:α} {xs:List α} {n:Nat} {a:α}:(x::xs).set (n+1) a=x::xs.set n a:=Qat
def le:Nat->Int->List UInt8
 | 0,_=>[]
 | k+1,n=>UInt8.ofNat (n % 256).toNat::le k (n / 256)
def num:List UInt8->Int
 | []=>0
 | x::r=>(x.toNat:Int)+256*num r
theorem Zgx:∀ xs:List UInt8,0<=num xs
 | []=>by simp[num]
 | x::r=>by have:=Zgx r;simp only[num];omega
theorem Zzk:∀ xs:List UInt8,num xs<(256:Int) ^ xs.length
 | []=>by simp[num]
 | x::r=>by
 have h:=Zzk r;have hx:=x.toNat_lt;have e:(256:Int) ^ (r.length+1)=256 ^ r.length*256:=Int.pow_succ ..;simp only[num,Qo,e];omega
theorem Z8c (x:UInt8) (m:Int):UInt8.ofNat (((x.toNat:Int)+256*m) % 256).toNat=x:=by
 have hx:=x.toNat_lt;have h:(((x.toNat:Int)+256*m) % 256).toNat=x.toNat:=by omega
 rw[h];simp
theorem Zzu:∀ xs:List UInt8,le xs.length (num xs)=xs
 | []=>rfl
 | x::r=>by
 have hx:=x.toNat_lt;simp only[Qo,le,num,Z8c];rw[show ((x.toNat:Int)+256*num r) / 256=num r by omega,Zzu r]
def val (pre:List (Nat×UInt8)):Int:=pre.foldl (fun n x=>n*256+(x.2.toNat:Int)) 0
theorem Zub (pre:List (Nat×UInt8)) (x:Nat×UInt8):val (pre++[x])=val pre*256+x.2.toNat:=by simp[val]
def Zuy (xs:List UInt8) (k:Nat):List (Nat×UInt8):=(Qn k).map fun j=>(xs.length-1-j,xs[xs.length-1-j]?.getD 0)
theorem Zig (xs:List UInt8) (k:Nat):Zuy xs (k+1)=Zuy xs k++[(xs.length-1-k,xs[xs.length-1-k]?.getD 0)]:=by simp[Zuy,Qau]
theorem Zq7 (xs:List UInt8) (k:Nat):(Zuy xs k).length=k:=by simp[Zuy]
theorem Z4a (xs:List UInt8):∀ k,k<=xs.length->val (Zuy xs k)=num (xs.drop (xs.length-k)):=by{
intro k
induction k with
| zero=>intro _;simp[Zuy,val,num]
| succ k ih =>
intro h;have hd:xs.drop (xs.length-(k+1))=xs[xs.length-(k+1)]'(by omega)::xs.drop (xs.length-(k+1)+1):=Qav (by omega);rw[Zig,Zub,ih (by omega),hd,show xs.length-(k+1)+1=xs.length-k by omega];have e:xs[xs.length-1-k]?.getD 0=xs[xs.length-(k+1)]'(by omega):=by
 have e':xs.length-1-k=xs.length-(k+1):=by omega
 rw[e',Qd (by omega)];rfl
simp only[num,e];omega}
theorem Z82 (xs:List UInt8):val (Zuy xs xs.length)=num xs:=by
 have:=Z4a xs xs.length (Qa _)
 simpa using this
theorem Zdf:∀ (pre:List (Nat×UInt8)) (m:Int) (k:Nat),0<=m->m<(256:Int) ^ k->0<=pre.foldl (fun n x=>n*256+(x.2.toNat:Int)) m/\pre.foldl (fun n x=>n*256+(x.2.toNat:Int)) m<(256:Int) ^ (k+pre.length)
 | [],m,k,h0,h1=>⟨h0,h1⟩
 | x::r,m,k,h0,h1=>by
 have hx:=x.2.toNat_lt;have e:(256:Int) ^ (k+1)=256 ^ k*256:=Int.pow_succ ..;have h:=Zdf r (m*256+(x.2.toNat:Int)) (k+1) (by omega) (by omega);rw[Qo,show k+(r.length+1)=k+1+r.length by omega];exact h
theorem Zwa (pre:List (Nat×UInt8)):0<=val pre/\val pre<(256:Int) ^ pre.length:=by
 have:=Zdf pre 0 0 (by omega) (by simp)
 rwa [Nat.zero_add] at this
theorem Z09 (pre:List (Nat×UInt8)) (h:pre.length<4):0<=val pre/\val pre<16777216:=by{
obtain⟨h0,h1⟩:=Zwa pre;refine⟨h0,?_⟩
match hn:pre.length,h with
| 0,_=>rw[hn] at h1;simp at h1;omega
| 1,_=>rw[hn] at h1;simp at h1;omega
| 2,_=>rw[hn] at h1;simp at h1;omega
| 3,_=>rw[hn] at h1;simp at h1;omega}
theorem Yac (a:Int) (x:UInt8) (h0:0<=a) (h1:a<16777216):bits .or .u32 (a*256) (x.toNat:Int)=a*256+x.toNat:=by
 have hx:=x.toNat_lt;obtain⟨n,rfl⟩:=Int.eq_ofNat_of_zero_le h0;have e:((n:Int)*256)=((n*256:Nat):Int):=by omega
 have hn:n*256 ||| x.toNat=n*256+x.toNat:=by
 rw[show n*256=2 ^ 8*n by omega];exact(Nat.two_pow_add_eq_or_of_lt (by omega) n).symm;rw[e,u32_or_nat _ _ (by omega) (by omega),hn];omega
theorem Zh7:(Tryz.prog.info? 5).map (fun i=>(i.zero,i.size,i.bytes))=some (some (.int .u8 0),1,1):=by kernel_rfl
def Zy (n:Nat):List UInt8:=Pj n 0
theorem Za3 (xs:List UInt8):(u8s xs).length=xs.length:=by simp[u8s]
theorem Zyo (xs:List UInt8):∀ v∈u8s xs,v.oneCell'=true:=by
 intro v hv;simp only[u8s,Qy] at hv;obtain⟨x,_,rfl⟩:=hv;rfl
theorem Znh (xs:List UInt8) (j:Nat) (h:j<xs.length):(u8s xs)[j]? = some (.int .u8 ((xs[j]?.getD 0).toNat:Int)):=by
 simp[u8s,h]
section
variable {w w' : Qa6} {g : Nat} {xs : List UInt8}
theorem Zah (g i j:Nat):(⟨g,i,none⟩:Qa8).add j=⟨g,i+j,none⟩:=by unfold Addr.add;split <;> simp_all
end
theorem Zln (ad:Qa8) (len cap:Nat) (xs:List UInt8) (hlen:Hid (xs.length=len)) (hbig:len<=140737488355328) (w:Qa6) (hx:Byt w w.heap.size (some ad) xs) :
 Qbg Tryz.prog 80 #[.slice (some ad) len cap] w fun e w'=>∃ v,e=.returned v/\w'.ownsRow w.heap.size 5 1 v len (u8s xs)/\v≠.slice none 0 0/\Qbh w.heap.size w w':=by
 obtain⟨i0,hi,hz0,hz1,hz2⟩:=info_parts Zh7;have q22:∀ (w:Qa6) (a:Option Qa8) (n c n' c':Nat),(binOp .eql 27 (.slice a n c) (.slice none n' c')).run Tryz.prog w=.ok (.bool a.isNone) w:=fun w a n c n' c'=>Lib.run_eql_slice_nil w _ _ a n c n' c' Tryz.underlying27
 go_enter Tryz.func80,Tryz.ntmps80
 go_wp2_with (at_builtin;refine wpList_append_own _ rfl _ _ 27 rfl w.heap.size 5 i0 (.int .u8 0) 1 1 Tryz.underlying27 hi hz0 hz1 hz2 rfl (by decide) _ _ _ rfl (Px w #[] 0 (Qa _) (Pk _) rfl) ad len cap (u8s xs) rfl ?qc1 ?qc2 ?qc3 ?qc4 ?qc5 ?qc6 ?_)
 case qc1=>rw[Za3,hlen.out,Qt]
 case qc2 =>
 intro j u hj;have hjn:j<xs.length:=by
 have:=(Qi.1 hj).1
 simpa [u8s] using this
 obtain⟨ad',e,hb,hc⟩:=hx (by omega);cases e;refine Lib.cell?_alloc_some _ ?_;rw[hc j hjn,<- Znh xs j hjn,hj]
 case qc3=>exact Zyo xs
 case qc4=>unfold maxLen;omega
 case qc5=>omega
 case qc6=>simp
 intro v' w1 hown hgrow hnil
 go_wp2
 go_ret;refine⟨v',rfl,by simpa using hown,hnil,?_⟩;exact((Qb _ w).alloc (Qa _) _).grown hgrow (by simp) (by intro k hk;simp[Value.ownBlock] at hk;omega)
theorem Z13 (n c:Nat) (w:Qa6) :
 Qbg Tryz.prog 80 #[.slice none n c] w fun e w'=>e=.returned (.slice none 0 0)/\w=w':=by
 have q22:∀ (w:Qa6) (a:Option Qa8) (n c n' c':Nat),(binOp .eql 27 (.slice a n c) (.slice none n' c')).run Tryz.prog w=.ok (.bool a.isNone) w:=fun w a n c n' c'=>Lib.run_eql_slice_nil w _ _ a n c n' c' Tryz.underlying27
 go_enter Tryz.func80,Tryz.ntmps80
 go_wp2
 go_ret;exact⟨rfl,rfl⟩
theorem Zf7 (A:Option Qa8) (len cap:Nat) (xs:List UInt8) (hlen:Hid (xs.length=len)) (hbig:len<=140737488355328) (w:Qa6) (hx:Byt w w.heap.size A xs) :
 Qbg Tryz.prog 80 #[.slice A len cap] w fun e w'=>∃ v,e=.returned v/\w'.ownsRow w.heap.size 5 1 v len (u8s xs)/\Qbh w.heap.size w w':=by
 rcases A with _ | ad
 ·have h0:xs=[]:=by
 rcases Pp xs.length with h | h
 ·exact Qx h
 ·obtain⟨_,e,_⟩:=hx h
 cases e;subst h0;obtain rfl:=hlen.out;refine(Z13 _ cap w).mono ?_;rintro e w' ⟨rfl,rfl⟩;exact⟨_,rfl,Py _ _ _ _,Qb _ _⟩
 ·refine(Zln ad len cap xs hlen hbig w hx).mono ?_
 rintro e w' ⟨v,rfl,h1,_,h2⟩;exact⟨v,rfl,h1,h2⟩
end Go.Proofs.YtgmbjnajdfgenaaGreat
namespace Go.Proofs.YtgmbjnajdfgenaaGreat.Rb
open Go.RowKit
theorem Zg {p : Prop} (h : p) : Hid p := h
theorem Zk {α : Type _} {l : List α} {i : Nat} {a : α} : l.toArray.setIfInBounds i a = (l.set i a).toArray := List.setIfInBounds_toArray _ _ _
theorem Zl {α : Type _} {x : α} {xs : List α} {a : α} : (x :: xs).set 0 a = a :: xs := List.set_cons_zero
theorem Zm {α : Type _} {x : α} {xs : List α} {n : Nat} {a : α} : (x :: xs).set (n + 1) a = x :: xs.set n a := List.set_cons_succ
abbrev Env:=List (Option Tmp×(Qa6->Prop))
def doesUpon (P:Program) (R:Qa7->Qa6->Prop):Result Next->Prop
 | .ok (.value v) w'=>R v w'
 | .ok .skip w'=>R Qbf w'
 | .ok (.enter f args) w'=>Qbg P f args w' (fun e w''=>∃ v,e=.returned v/\R v w'')
 | _=>False
def seen (ops:Array Qba) (o:Qba) (w:Qa6):Env->Prop
 | []=>True
 | p::r=>(∀ d,p.1=some d->(o.looksAt ops).contains d=true->p.2 w)/\seen ops o w r
def Z5 (d:Option Tmp) (p:Qa6->Prop) (env:Env):Env:=(d,p)::env
def holds (w:Qa6):Env->Prop
 | []=>True
 | p::r=>p.2 w/\holds w r
def wpAs (Kr:Qa6->Qa6->Prop) (P:Program) (ops:Array Qba) (C:Qa6->Prop) (phi:Nat->Option (Qa7->Qa6->Prop)) (fx:Nat->Option Qa7) (Q:Qbb->Qa6->Prop):Nat->List Qba->Qbb->Env->Prop
 | _,[],a,env=>∀ w,C w->holds w env->Q a w
 | i,o::rest,a,env =>
 if Qc o (yielded ops a.tmps)=true then
 match phi i with
 | none =>
 match fx i with
 | none=>∃ v,(∀ w,C w->seen ops o w env->(execOp a.eval o).run P w=.ok (.value v) w)/\wpAs Kr P ops C phi fx Q (i+1) rest (a.put o.dst v) env
 | some u=>(∀ w,C w->seen ops o w env->doesUpon P (fun v w'=>v=u/\Kr w w') ((execOp a.eval o).run P w))/\wpAs Kr P ops C phi fx Q (i+1) rest (a.put o.dst u) env
 | some φ=>(∀ w,C w->seen ops o w env->doesUpon P (fun v w'=>φ v w'/\Kr w w') ((execOp a.eval o).run P w)) /\
 ∀ v,wpAs Kr P ops C phi fx Q (i+1) rest (a.put o.dst v) (Z5 o.dst (φ v) env)
 else wpAs Kr P ops C phi fx Q (i+1) rest (a.put o.dst Qbf) env
section
variable {Kr : Qa6 -> Qa6 -> Prop} {P : Program} {ops : Array Qba} {C : Qa6 -> Prop} {phi : Nat -> Option (Qa7 -> Qa6 -> Prop)} {fx : Nat -> Option Qa7} {Q : Qbb -> Qa6 -> Prop}
def leans (ops:Array Qba) (i j:Nat):Bool:=((ops[i]?).map fun o=>o.after.any fun e=>Qg .any e&&e.on==j).getD false
def okAs (ops:Array Qba) (size:Nat):Bool :=
 Pq ops &&
 ((Qn ops.size).all fun i=>match ops[i]? with
 | none=>true
 | some o=>(o.after.all fun e => !Region.binds .any e||decide (e.on<i)) &&
 (match o.dst with | some d=>decide (d<size) | none=>true) &&
 ((Qn ops.size).all fun j=>match ops[j]? with
 | none=>true
 | some o'=>(j==i||o'.dst==none||o'.dst != o.dst) &&
 (match o'.dst with | some d => !(o.looksAt ops).contains d||leans ops i j||leans ops j i||j==i | none=>true)))
structure Ok (ops:Array Qba) (size:Nat):Prop where
 sel:Pq ops=true
 less:∀ (i:Nat) (o:Qba),ops[i]? = some o->∀ e∈o.after,Qg .any e=true->e.on<i
 inb:∀ (i:Nat) (o:Qba) (d:Tmp),ops[i]? = some o->o.dst=some d->d<size
 apart:∀ (i j:Nat) (o o':Qba) (d:Tmp),ops[i]? = some o->ops[j]? = some o'->o.dst=some d->o'.dst=some d->i=j
 edge:∀ (i j:Nat) (o o':Qba) (d:Tmp),ops[i]? = some o->ops[j]? = some o'->o'.dst=some d->d∈o.looksAt ops->leans ops i j=true\/leans ops j i=true\/j=i
theorem ok_of {size:Nat} (h:okAs ops size=true):Ok ops size:=by{
unfold okAs at h;rw[Qj,Qm] at h;obtain⟨hs,h⟩:=h;have hl:∀ {i:Nat} {o:Qba},ops[i]? = some o->i<ops.size:=fun ho=>(Qe.1 ho).1
have H:∀ (i:Nat) (o:Qba),ops[i]? = some o->(o.after.all fun e => !Region.binds .any e||decide (e.on<i))=true/\(match o.dst with | some d=>decide (d<size) | none=>true)=true /\
 ∀ (j:Nat) (o':Qba),ops[j]? = some o'->(j==i||o'.dst==none||o'.dst != o.dst)=true/\(match o'.dst with | some d => !(o.looksAt ops).contains d||leans ops i j||leans ops j i||j==i | none=>true)=true:=by
intro i o ho;have h1:=h i (Qp.2 (hl ho));simp only[ho,Qj] at h1;obtain⟨⟨ha,hb⟩,hc⟩:=h1;refine⟨ha,hb,fun j o' ho' => ?_⟩;have h2:=Qm.1 hc j (Qp.2 (hl ho'));simp only[ho',Qj] at h2;exact h2;refine⟨hs,fun i o ho e he hb => ?_,fun i o d ho hd => ?_,fun i j o o' d ho ho' hd hd' => ?_,fun i j o o' d ho ho' hd' hm => ?_⟩
·have:=P1.1 (H i o ho).1 e he
simpa [hb] using this
·have:=(H i o ho).2.1
simpa [hd] using this
·have:=((H i o ho).2.2 j o' ho').1
simp[hd,hd'] at this;exact this.symm
·have:=((H i o ho).2.2 j o' ho').2
simp only[hd',Q8,Bool.not_eq_true',beq_iff_eq] at this;rcases this with ((h1 | h1) | h1) | h1
·rw[List.contains_iff_mem.2 hm] at h1;cases h1
·exact .inl h1
·exact .inr (.inl h1)
·exact .inr (.inr h1)}
def vAs (Kr:Qa6->Qa6->Prop) (P:Program) (ops:Array Qba) (C:Qa6->Prop) (phi:Nat->Option (Qa7->Qa6->Prop)) (fx:Nat->Option Qa7) (Q:Qbb->Qa6->Prop) (a0:Qbb) (c:Nat->Qa7) (i:Nat):Qa7 :=
 match ops[i]? with
 | some o=>Za8 Kr P ops C phi fx Q c i o (Xe Kr P ops C phi fx Q a0 c i)
 | none=>Qbf
structure Inv (Kr:Qa6->Qa6->Prop) (P:Program) (ops:Array Qba) (C:Qa6->Prop) (phi:Nat->Option (Qa7->Qa6->Prop)) (fx:Nat->Option Qa7) (Q:Qbb->Qa6->Prop) (a0:Qbb) (listed:Array Bool) (u:Nat->Qa7) (a:Qbb) (w:Qa6):Prop where
 lsize:listed.size=ops.size
 size:a.tmps.size=a0.tmps.size
 defers:a.defers=a0.defers
 closed:∀ i o,ops[i]? = some o->listed.getD i false=true->∀ e∈o.after,Qg .any e=true->listed.getD e.on false=true
 new:∀ i o d,ops[i]? = some o->listed.getD i false=true->o.dst=some d->a.tmps.getD d Qbf=u i
 old:∀ t,(∀ i o,ops[i]? = some o->o.dst=some t->listed.getD i false=false)->a.tmps.getD t Qbf=a0.tmps.getD t Qbf
 world:C w
 val:∀ c:Nat->Qa7,(∀ j,listed.getD j false=true->(phi j).isSome=true->c j=u j)->∀ i,listed.getD i false=true->vAs Kr P ops C phi fx Q a0 c i=u i
 act:∀ c:Nat->Qa7,(∀ j,listed.getD j false=true->(phi j).isSome=true->c j=u j)->∀ i o φ,ops[i]? = some o->listed.getD i false=true->phi i=some φ ->
 Qc o (yielded ops (Xe Kr P ops C phi fx Q a0 c i).1.tmps)=true->φ (u i) w
section
variable {a0 : Qbb} {listed : Array Bool} {u : Nat -> Qa7} {a : Qbb} {w : Qa6}
theorem leans_spec {i j:Nat} {o:Qba} (ho:ops[i]? = some o) (h:leans ops i j=true):∃ e∈o.after,Qg .any e=true/\e.on=j:=by
 simp only[leans,ho,Option.map_some,Option.getD_some] at h;obtain⟨e,he,hb⟩:=P3.1 h;simp only[Qj,beq_iff_eq] at hb;exact⟨e,he,hb.1,hb.2⟩
theorem Inv.looks (hok:Ok ops a0.tmps.size) (I:Inv Kr P ops C phi fx Q a0 listed u a w) {c:Nat->Qa7} (hc:∀ j,listed.getD j false=true->(phi j).isSome=true->c j=u j) {i:Nat} {o:Qba} (ho:ops[i]? = some o)
 (hi:listed.getD i false=false) (hr:∀ e∈o.after,Qg .any e=true->listed.getD e.on false=true) :
 ∀ t∈o.looksAt ops,a.tmps.getD t Qbf=(Xe Kr P ops C phi fx Q a0 c i).1.tmps.getD t Qbf:=by
 intro t ht;by_cases hj:∃ (j:Nat) (o':Qba),ops[j]? = some o'/\o'.dst=some t
 ·obtain⟨j,o',ho',hd⟩:=hj
 rcases hok.edge i j o o' t ho ho' hd ht with h | h | h
 ·obtain⟨e,he,hb,rfl⟩:=leans_spec ho h
 have hl:=hr e he hb;rw[I.new _ o' t ho' hl hd,Zeu hok c ho' hd i (hok.less i o ho e he hb),I.val c hc _ hl]
 all_goals
 have hun:listed.getD j false=false:=by
 first
 | (subst h;exact hi)
 | (
 obtain⟨e,he,hb,rfl⟩:=leans_spec ho' h;cases hl:listed.getD j false with
 | false=>rfl
 | true =>
 have:=I.closed j o' ho' hl e he hb;rw[hi] at this
 cases this)
 have hle:i<=j:=by
 first
 | (subst h;exact Qa _)
 | (
 obtain⟨e,he,hb,rfl⟩:=leans_spec ho' h
 exact Nat.le_of_lt (hok.less j o' ho' e he hb))
 rw[I.old t (fun k ok hk hdk=>by rw[<- hok.apart j k o' ok t ho' hk hd hdk];exact hun),
 Zaq a0 c t i (fun k ok hk hok' hdk=>by have:=hok.apart j k o' ok t ho' hok' hd hdk;omega)]
 ·rw[I.old t (fun k ok hk hdk=>absurd ⟨k,ok,hk,hdk⟩ hj),Zaq a0 c t i (fun k ok _ hk hdk=>hj ⟨k,ok,hk,hdk⟩)]
theorem Inv.next (hok:Ok ops a0.tmps.size) (I:Inv Kr P ops C phi fx Q a0 listed u a w) {i:Nat} {o:Qba} {v:Qa7} {w':Qa6} (ho:ops[i]? = some o) (hi:listed.getD i false=false)
 (hr:∀ e∈o.after,Qg .any e=true->listed.getD e.on false=true) (hC:C w') (hst:∀ (j:Nat) (φ:Qa7->Qa6->Prop) (x:Qa7),phi j=some φ->φ x w->φ x w')
 (hv:∀ c:Nat->Qa7,(∀ j,listed.getD j false=true->(phi j).isSome=true->c j=u j)->((phi i).isSome=true->c i=v)->vAs Kr P ops C phi fx Q a0 c i=v)
 (ha:∀ c:Nat->Qa7,(∀ j,listed.getD j false=true->(phi j).isSome=true->c j=u j)->∀ φ,phi i=some φ->Qc o (yielded ops (Xe Kr P ops C phi fx Q a0 c i).1.tmps)=true->φ v w') :
 Inv Kr P ops C phi fx Q a0 (listed.setIfInBounds i true) (fun j=>if j=i then v else u j) (a.put o.dst v) w':=by
 have hlt:i<ops.size:=(Qe.1 ho).1;have hL:∀ j,(listed.setIfInBounds i true).getD j false=true↔j=i\/listed.getD j false=true:=by
 intro j;by_cases hji:i=j
 ·subst hji
 have:i<listed.size:=by rw[I.lsize];exact hlt
 simp[this]
 ·rw[getD_set_ne false hji]
 constructor
 ·exact .inr
 ·rintro(h | h)
 ·exact absurd h.symm hji
 ·exact h
 have hne:∀ j,listed.getD j false=true->j≠i:=fun j hj e=>by rw[e,hi] at hj;cases hj
 have hag:∀ c:Nat->Qa7,(∀ j,(listed.setIfInBounds i true).getD j false=true->(phi j).isSome=true->c j=if j=i then v else u j) ->
 (∀ j,listed.getD j false=true->(phi j).isSome=true->c j=u j)/\((phi i).isSome=true->c i=v):=fun c hc =>
 ⟨fun j hj hp=>by have:=hc j ((hL j).2 (.inr hj)) hp;rwa [if_neg (hne j hj)] at this,fun hp=>by have:=hc i ((hL i).2 (.inl rfl)) hp;rwa [if_pos rfl] at this⟩
 refine⟨by simpa using I.lsize,(Xk _ _ _).trans I.size,(Y1 _ _ _).trans I.defers,?_,?_,?_,hC,?_,?_⟩
 ·intro j oj hoj hj e he hb
 rcases(hL j).1 hj with rfl | h
 ·rw[ho] at hoj
 cases hoj;exact(hL _).2 (.inr (hr e he hb))
 ·exact(hL _).2 (.inr (I.closed j oj hoj h e he hb))
 ·intro j oj d hoj hj hd
 rcases(hL j).1 hj with rfl | h
 ·rw[ho] at hoj
 cases hoj;rw[hd,if_pos rfl];exact Xn _ _ _ (by rw[I.size];exact hok.inb j o d ho hd)
 ·rw[if_neg (hne j h)]
 exact(Yu _ _ _ _ (fun e=>hne j h (hok.apart j i oj o d hoj ho hd e))).trans (I.new j oj d hoj h hd)
 ·intro t ht
 have hn:o.dst≠some t:=fun e=>by have:=ht i o ho e;rw[(hL i).2 (.inl rfl)] at this;cases this
 refine(Yu _ _ _ _ hn).trans (I.old t fun j oj hoj hd => ?_);have:=ht j oj hoj hd;cases hl:listed.getD j false with
 | false=>rfl
 | true=>rw[(hL j).2 (.inr hl)] at this;cases this
 ·intro c hc j hj
 obtain⟨h1,h2⟩:=hag c hc;rcases(hL j).1 hj with rfl | h
 ·rw[if_pos rfl];exact hv c h1 h2
 ·rw[if_neg (hne j h)];exact I.val c h1 j h
 ·intro c hc j oj φ hoj hj hp hw
 obtain⟨h1,h2⟩:=hag c hc;rcases(hL j).1 hj with rfl | h
 ·rw[ho] at hoj
 cases hoj;rw[if_pos rfl];exact ha c h1 φ hp hw
 ·rw[if_neg (hne j h)]
 exact hst j φ _ hp (I.act c h1 j oj φ hoj h hp hw)
theorem Inv.step (hok:Ok ops a0.tmps.size) (h0:wpAs Kr P ops C phi fx Q 0 ops.toList a0 []) (hCb:∀ w w',C w->Kr w w'->C w') (hst:∀ (j:Nat) (φ:Qa7->Qa6->Prop) (x:Qa7) (w w':Qa6),phi j=some φ->φ x w->Kr w w'->φ x w')
 (I:Inv Kr P ops C phi fx Q a0 listed u a w) {i:Nat} (hi:i∈Qf .any ops listed) {Q':Qa9->Qbb->Qa6->Prop} :
 wpOp P ops Q' i (fun a' w'=>∃ u',Inv Kr P ops C phi fx Q a0 (listed.setIfInBounds i true) u' a' w') a w:=by
 obtain⟨hun,o,ho,hr⟩:=mem_ready.1 hi;have hlt:i<ops.size:=(Qe.1 ho).1;have hil:listed.getD i false=false:=by
 have:i<listed.size:=by rw[I.lsize];exact hlt
 simpa [this] using hun
 have hsel:=Qaz hok.sel;have look:∀ c:Nat->Qa7,(∀ j,listed.getD j false=true->(phi j).isSome=true->c j=u j) ->
 execOp a.eval o=execOp (Xe Kr P ops C phi fx Q a0 c i).1.eval o/\Qc o (yielded ops a.tmps)=Qc o (yielded ops (Xe Kr P ops C phi fx Q a0 c i).1.tmps):=fun c hc =>
 Xj (fun cs b=>hsel i o cs b ho) (I.size.trans (Vi a0 c i).symm) (I.looks hok hc ho hil hr)
 have see:∀ c:Nat->Qa7,(∀ j,listed.getD j false=true->(phi j).isSome=true->c j=u j)->seen ops o w (Xe Kr P ops C phi fx Q a0 c i).2:=fun c hc =>
 Zil c i fun j oj φ d hj hoj hp hw hd hm=>by
 rcases hok.edge i j o oj d ho hoj hd hm with h | h | h
 ·obtain⟨e,he,hb,rfl⟩:=leans_spec ho h
 have hl:=hr e he hb;rw[hc _ hl (by rw[hp];rfl)];exact I.act c hc _ oj φ hoj hl hp hw
 ·obtain⟨e,he,hb,h'⟩:=leans_spec hoj h
 have:=hok.less j oj hoj e he hb;omega
 ·omega
 have vas:∀ c:Nat->Qa7,vAs Kr P ops C phi fx Q a0 c i=Za8 Kr P ops C phi fx Q c i o (Xe Kr P ops C phi fx Q a0 c i):=fun c=>by
 unfold vAs;simp only[ho];have hu:∀ j,listed.getD j false=true->(phi j).isSome=true->u j=u j:=fun _ _ _=>rfl
 unfold wpOp;simp only[ho];by_cases hw:Qc o (yielded ops a.tmps)=true
 ·rw[if_pos hw]
 refine .inl ?_;cases hp:phi i with
 | none =>
 cases hf:fx i with
 | none =>
 have hrun:=Zb5 h0 u ho (by rw[<- (look u hu).2];exact hw) hp hf w I.world (see u hu);rw[<- (look u hu).1] at hrun;unfold Oper.wp;rw[hrun];refine⟨_,I.next hok ho hil hr I.world (fun _ _ _ _ h=>h) (fun c hc _ => ?_) (fun c hc φ hp'=>by rw[hp] at hp';cases hp')⟩;have hrun':=Zb5 h0 c ho (by rw[<- (look c hc).2];exact hw) hp hf w I.world (see c hc);rw[<- (look c hc).1,hrun] at hrun';rw[vas c]
 injection hrun' with h1 _
 injection h1 with h1
 exact h1.symm
 | some x =>
 have hrun:=Ze9 h0 u ho (by rw[<- (look u hu).2];exact hw) hp hf w I.world (see u hu);rw[<- (look u hu).1] at hrun;refine Yt hrun fun v w' ⟨hφ,hb⟩=>⟨_,I.next hok ho hil hr (hCb w w' I.world hb) (fun j φ' x hp' h=>hst j φ' x w w' hp' h hb) (fun c hc _ => ?_) (fun c hc φ' hp' _ => ?_)⟩
 ·rw[vas c]
 unfold Za8;rw[if_pos (by rw[<- (look c hc).2];exact hw)];simp only[hp,hf];exact hφ.symm
 ·rw[hp] at hp'
 cases hp'
 | some φ =>
 have hrun:=Zjd h0 u ho (by rw[<- (look u hu).2];exact hw) hp w I.world (see u hu);rw[<- (look u hu).1] at hrun;refine Yt hrun fun v w' ⟨hφ,hb⟩=>⟨_,I.next hok ho hil hr (hCb w w' I.world hb) (fun j φ' x hp' h=>hst j φ' x w w' hp' h hb) (fun c hc hci => ?_) (fun c hc φ' hp' _ => ?_)⟩
 ·rw[vas c]
 unfold Za8;rw[if_pos (by rw[<- (look c hc).2];exact hw)];simp only[hp];exact hci (by rw[hp];rfl)
 ·rw[hp] at hp'
 cases hp';exact hφ
 ·rw[if_neg hw]
 refine⟨_,I.next hok ho hil hr I.world (fun _ _ _ _ h=>h) (fun c hc _ => ?_) (fun c hc φ hp' hw' => ?_)⟩
 ·rw[vas c]
 unfold Za8;rw[if_neg (by rw[<- (look c hc).2];exact hw)]
 ·rw[<- (look c hc).2] at hw'
 exact absurd hw' hw
def left (n:Nat) (listed:Array Bool):Nat:=((Qn n).filter fun i => !listed.getD i false).length
theorem wpAny_of_as (hok:Ok ops a0.tmps.size) (h0:wpAs Kr P ops C phi fx Q 0 ops.toList a0 []) (hCb:∀ w w',C w->Kr w w'->C w') (hst:∀ (j:Nat) (φ:Qa7->Qa6->Prop) (x:Qa7) (w w':Qa6),phi j=some φ->φ x w->Kr w w'->φ x w')
 {Q':Qa9->Qbb->Qa6->Prop} (hQ:∀ a w,Q a w->Q' .normal a w):∀ (fuel:Nat) (listed:Array Bool) (u:Nat->Qa7) (a:Qbb) (w:Qa6),left ops.size listed<=fuel->Inv Kr P ops C phi fx Q a0 listed u a w->wpAny P .any ops Q' fuel listed a w:=by
 have fin:∀ (listed:Array Bool) (u:Nat->Qa7) (a:Qbb) (w:Qa6),Inv Kr P ops C phi fx Q a0 listed u a w->Qf .any ops listed=[]->Q' .normal a w:=by
 intro listed u a w I hr;have all:∀ n i,i<n->i<ops.size->listed.getD i false=true:=by
 intro n
 induction n with
 | zero=>intro i h;omega
 | succ n ih =>
 intro i hin hi;cases hl:listed.getD i false with
 | true=>rfl
 | false =>
 have ho:ops[i]? = some (ops[i]'hi):=Qu hi;have hmem:i∈Qf .any ops listed:=by
 refine mem_ready.2 ⟨?_,_,ho,fun e he hb => ?_⟩
 ·have:i<listed.size:=by rw[I.lsize];exact hi
 simpa [this] using hl
 ·have:=hok.less i _ ho e he hb
 exact ih e.on (by omega) (by omega);rw[hr] at hmem;cases hmem;have all':∀ i,i<ops.size->listed.getD i false=true:=fun i hi=>all (i+1) i (by omega) hi
 have hu:∀ j,listed.getD j false=true->(phi j).isSome=true->u j=u j:=fun _ _ _=>rfl
 have hend:=Ud h0 u ops.size (Qa _);have hn:ops.toList.drop ops.size=[]:=Qa0 (by simp);rw[hn] at hend;unfold wpAs at hend;have he:=hend w I.world (Zfl u ops.size fun j oj φ hj hoj hp hw=>I.act u hu j oj φ hoj (all' j hj) hp hw);have hfr:a=(Xe Kr P ops C phi fx Q a0 u ops.size).1:=by
 have hs:=I.size.trans (Vi (Kr:=Kr) (P:=P) (ops:=ops) (C:=C) (phi:=phi) (fx:=fx) (Q:=Q) a0 u ops.size).symm;have hd:=I.defers.trans (V0 (Kr:=Kr) (P:=P) (ops:=ops) (C:=C) (phi:=phi) (fx:=fx) (Q:=Q) a0 u ops.size).symm;have ht:∀ t,a.tmps.getD t Qbf=(Xe Kr P ops C phi fx Q a0 u ops.size).1.tmps.getD t Qbf:=by
 intro t;by_cases hj:∃ (j:Nat) (o':Qba),ops[j]? = some o'/\o'.dst=some t
 ·obtain⟨j,o',ho',hd'⟩:=hj
 have hjl:=(Qe.1 ho').1;rw[I.new j o' t ho' (all' j hjl) hd',Zeu hok u ho' hd' ops.size hjl,I.val u hu j (all' j hjl)]
 ·rw[I.old t (fun k ok hk hdk=>absurd ⟨k,ok,hk,hdk⟩ hj),Zaq a0 u t ops.size (fun k ok _ hk hdk=>hj ⟨k,ok,hk,hdk⟩)]
 generalize (Xe Kr P ops C phi fx Q a0 u ops.size).1=b at *;obtain⟨at_,ad⟩:=a;obtain⟨bt,bd⟩:=b;simp only at hs hd ht;subst hd;have:at_=bt:=by
 apply Q7 hs;intro k h1 h2;have:=ht k
 simpa [Qk,h1,h2] using this
 rw[this];rw[hfr];exact hQ _ _ he;intro fuel
 induction fuel with
 | zero =>
 intro listed u a w hl I;have hr:Qf .any ops listed=[]:=by
 rw[Q9];intro i hi;obtain⟨hun,o,ho,_⟩:=mem_ready.1 hi;have hlt:=(Qe.1 ho).1;have hil:listed.getD i false=false:=by
 have:i<listed.size:=by rw[I.lsize];exact hlt
 simpa [this] using hun
 have:=Y7 hlt I.lsize hil;omega;exact⟨hr,fin listed u a w I hr⟩
 | succ fuel ih =>
 intro listed u a w hl I;refine⟨fun hr=>fin listed u a w I hr,fun i hi => ?_⟩;have hlt:i<ops.size:=by
 obtain⟨_,o,ho,_⟩:=mem_ready.1 hi;exact(Qe.1 ho).1;have hil:listed.getD i false=false:=by
 have h1:=(mem_ready.1 hi).1;have:i<listed.size:=by rw[I.lsize];exact hlt
 simpa [this] using h1
 refine wpOp_mono (fun a' w' ⟨u',I'⟩=>ih _ u' a' w' ?_ I') (I.step hok h0 hCb hst hi);have:=Y7 hlt I.lsize hil;omega
end
theorem wp_region_fx (Kr:Qa6->Qa6->Prop) {id:Nat} {l:List Qba} {a:Qbb} {w:Qa6} {Q':Qa9->Qbb->Qa6->Prop} (hm:P.follows .mixedOrders=true) (C:Qa6->Prop) (phi:Nat->Option (Qa7->Qa6->Prop)) (fx:Nat->Option Qa7) (hok:okAs l.toArray a.tmps.size=true)
 (hC:C w.drew) (hCb:∀ w w',C w->Kr w w'->C w') (hst:∀ (j:Nat) (φ:Qa7->Qa6->Prop) (x:Qa7) (w w':Qa6),phi j=some φ->φ x w->Kr w w'->φ x w')
 (h:wpAs Kr P l.toArray C phi fx (fun a w=>Q' .normal a w) 0 l a []):(Code.region id l.toArray true).wp P Q' a w:=by
 refine wp_region_any hm ?_;have hsz:(Ql l.toArray.size false).size=l.toArray.size:=by simp
 have hg:∀ i,(Ql l.toArray.size false).getD i false=false:=fun i=>by
 by_cases hi:i<l.toArray.size
 ·simp[Qk]
 ·simp[Qk]
 refine wpAny_of_as (a0:=a) (ok_of hok) (by simpa using h) hCb hst (fun _ _ h=>h) _ _ (fun _=>Qbf) a w.drew ?_ ⟨hsz,rfl,rfl,?_,?_,fun _ _=>rfl,hC,?_,?_⟩
 ·unfold left
 exact Qq (Pm _ _) (by simp)
 ·intro i o _ hl
 rw[hg i] at hl;cases hl
 ·intro i o d _ hl
 rw[hg i] at hl;cases hl
 ·intro c _ i hl
 rw[hg i] at hl;cases hl
 ·intro c _ i o φ _ hl
 rw[hg i] at hl;cases hl
end
end Go.Proofs.YtgmbjnajdfgenaaGreat.Rb
namespace Go.Proofs.YtgmbjnajdfgenaaGreat
open Go.RowKit
abbrev Env:=List (Tmp×(Qa6->Prop))
abbrev doesUpon (P:Program) (R:Qa7->Qa6->Prop) (r:Result Next):Prop:=Rb.doesUpon P R r
def seen (ops:Array Qba) (o:Qba) (w:Qa6):Env->Prop
 | []=>True
 | p::r=>((o.looksAt ops).contains p.1=true->p.2 w)/\seen ops o w r
def Z5 (d:Option Tmp) (p:Qa6->Prop) (env:Env):Env :=
 match d with
 | some d=>(d,p)::env
 | none=>env
def holds (w:Qa6):Env->Prop
 | []=>True
 | p::r=>p.2 w/\holds w r
def wpAs (P:Program) (ops:Array Qba) (C:Qa6->Prop) (phi:Nat->Option (Qa7->Qa6->Prop)) (fx:Nat->Option Qa7) (Q:Qbb->Qa6->Prop):Nat->List Qba->Qbb->Env->Prop
 | _,[],a,env=>∀ w,C w->holds w env->Q a w
 | i,o::rest,a,env =>
 if Qc o (yielded ops a.tmps)=true then
 match phi i with
 | none =>
 match fx i with
 | none=>∃ v,(∀ w,C w->seen ops o w env->(execOp a.eval o).run P w=.ok (.value v) w)/\wpAs P ops C phi fx Q (i+1) rest (a.put o.dst v) env
 | some u=>(∀ w,C w->seen ops o w env->doesUpon P (fun v w'=>v=u/\Qbh w.heap.size w w') ((execOp a.eval o).run P w))/\wpAs P ops C phi fx Q (i+1) rest (a.put o.dst u) env
 | some φ=>(∀ w,C w->seen ops o w env->doesUpon P (fun v w'=>φ v w'/\Qbh w.heap.size w w') ((execOp a.eval o).run P w)) /\
 ∀ v,wpAs P ops C phi fx Q (i+1) rest (a.put o.dst v) (Z5 o.dst (φ v) env)
 else wpAs P ops C phi fx Q (i+1) rest (a.put o.dst Qbf) env
section
variable {P : Program} {ops : Array Qba} {C : Qa6 -> Prop} {phi : Nat -> Option (Qa7 -> Qa6 -> Prop)} {fx : Nat -> Option Qa7} {Q : Qbb -> Qa6 -> Prop}
theorem Zv {i:Nat} {o:Qba} {rest:List Qba} {a:Qbb} {env:Env} (hw:Qc o (yielded ops a.tmps)=false) (h:wpAs P ops C phi fx Q (i+1) rest (a.put o.dst Qbf) env):wpAs P ops C phi fx Q i (o::rest) a env:=by
 unfold wpAs;rw[if_neg (by rw[hw];exact Pz)];exact h
theorem Yb {i:Nat} {o:Qba} {rest:List Qba} {a:Qbb} {env:Env} {u:Qa7} (hw:Qc o (yielded ops a.tmps)=true) (hp:phi i=none) (hf:fx i=some u)
 (hv:∀ w,C w->seen ops o w env->doesUpon P (fun v w'=>v=u/\Qbh w.heap.size w w') ((execOp a.eval o).run P w)) (h:wpAs P ops C phi fx Q (i+1) rest (a.put o.dst u) env):wpAs P ops C phi fx Q i (o::rest) a env:=by
 unfold wpAs;rw[if_pos hw,hp];simp only[hf];exact⟨hv,h⟩
theorem Zr {i:Nat} {o:Qba} {rest:List Qba} {a:Qbb} {env:Env} {v:Qa7} (hw:Qc o (yielded ops a.tmps)=true) (hp:phi i=none)
 (hv:∀ w,C w->seen ops o w env->(execOp a.eval o).run P w=.ok (.value v) w) (h:wpAs P ops C phi fx Q (i+1) rest (a.put o.dst v) env) (hf:fx i=none:=by rfl):wpAs P ops C phi fx Q i (o::rest) a env:=by
 unfold wpAs;rw[if_pos hw,hp];simp only[hf];exact⟨v,hv,h⟩
theorem Z6 {i:Nat} {o:Qba} {rest:List Qba} {a:Qbb} {env:Env} {φ:Qa7->Qa6->Prop} (hw:Qc o (yielded ops a.tmps)=true) (hp:phi i=some φ)
 (hv:∀ w,C w->seen ops o w env->doesUpon P (fun v w'=>φ v w'/\Qbh w.heap.size w w') ((execOp a.eval o).run P w)) (h:∀ v,wpAs P ops C phi fx Q (i+1) rest (a.put o.dst v) (Z5 o.dst (φ v) env)):wpAs P ops C phi fx Q i (o::rest) a env:=by
 unfold wpAs;rw[if_pos hw,hp];exact⟨hv,h⟩
theorem Z7 {i:Nat} {a:Qbb} {env:Env} (h:∀ w,C w->holds w env->Q a w):wpAs P ops C phi fx Q i [] a env:=h
theorem Zli:∀ (rest:List Qba) (i:Nat) (a:Qbb) (env:Env) (env':Rb.Env),(∀ o w,Rb.seen ops o w env'->seen ops o w env)->(∀ w,Rb.holds w env'->holds w env)->wpAs P ops C phi fx Q i rest a env->Rb.wpAs (fun w w'=>Qbh w.heap.size w w') P ops C phi fx Q i rest a env'
 | [],i,a,env,env',_,hh,h=>fun w hC hE=>h w hC (hh w hE)
 | o::rest,i,a,env,env',hs,hh,h=>by
 unfold wpAs at h;unfold Rb.wpAs;by_cases hw:Qc o (yielded ops a.tmps)=true
 ·rw[if_pos hw] at h ⊢
 cases hp:phi i with
 | none =>
 rw[hp] at h;cases hf:fx i with
 | none =>
 simp only[hf] at h ⊢;obtain⟨v,h1,h2⟩:=h;exact⟨v,fun w hC hE=>h1 w hC (hs o w hE),Zli rest _ _ _ _ hs hh h2⟩
 | some u =>
 simp only[hf] at h ⊢;exact⟨fun w hC hE=>h.1 w hC (hs o w hE),Zli rest _ _ _ _ hs hh h.2⟩
 | some φ =>
 rw[hp] at h;refine⟨fun w hC hE=>h.1 w hC (hs o w hE),fun v=>Zli rest _ _ _ _ (fun o' w hE => ?_) (fun w hE => ?_) (h.2 v)⟩
 ·unfold Z5
 cases hd:o.dst with
 | none=>exact hs o' w hE.2
 | some d=>exact⟨fun hc=>hE.1 d hd hc,hs o' w hE.2⟩
 ·unfold Z5
 cases hd:o.dst with
 | none=>exact hh w hE.2
 | some d=>exact⟨hE.1,hh w hE.2⟩
 ·rw[if_neg hw] at h ⊢
 exact Zli rest _ _ _ _ hs hh h
abbrev leans (ops:Array Qba) (i j:Nat):Bool:=Rb.leans ops i j
abbrev okAs (ops:Array Qba) (size:Nat):Bool:=Rb.okAs ops size
abbrev Ok (ops:Array Qba) (size:Nat):Prop:=Rb.Ok ops size
theorem ok_of {size:Nat} (h:okAs ops size=true):Ok ops size:=Rb.ok_of h
theorem leans_spec {i j:Nat} {o:Qba} (ho:ops[i]? = some o) (h:leans ops i j=true):∃ e∈o.after,Qg .any e=true/\e.on=j:=Rb.leans_spec ho h
abbrev left (n:Nat) (listed:Array Bool):Nat:=Rb.left n listed
theorem wpAny_of_as {a0:Qbb} (hok:Ok ops a0.tmps.size) (h0:wpAs P ops C phi fx Q 0 ops.toList a0 []) (hCb:∀ w w',C w->Qbh w.heap.size w w'->C w') (hst:∀ (j:Nat) (φ:Qa7->Qa6->Prop) (x:Qa7) (w w':Qa6),phi j=some φ->φ x w->Qbh w.heap.size w w'->φ x w')
 {Q':Qa9->Qbb->Qa6->Prop} (hQ:∀ a w,Q a w->Q' .normal a w) (fuel:Nat) (listed:Array Bool) (u:Nat->Qa7) (a:Qbb) (w:Qa6) (hl:left ops.size listed<=fuel) (I:Rb.Inv (fun w w'=>Qbh w.heap.size w w') P ops C phi fx Q a0 listed u a w):wpAny P .any ops Q' fuel listed a w :=
 Rb.wpAny_of_as hok (Zli _ _ _ [] _ (fun _ _ _=>trivial) (fun _ _=>trivial) h0) hCb hst hQ fuel listed u a w hl I
theorem wp_region_fx {id:Nat} {l:List Qba} {a:Qbb} {w:Qa6} {Q':Qa9->Qbb->Qa6->Prop} (hm:P.follows .mixedOrders=true) (C:Qa6->Prop) (phi:Nat->Option (Qa7->Qa6->Prop)) (fx:Nat->Option Qa7) (hok:okAs l.toArray a.tmps.size=true)
 (hC:C w.drew) (hCb:∀ w w',C w->Qbh w.heap.size w w'->C w') (hst:∀ (j:Nat) (φ:Qa7->Qa6->Prop) (x:Qa7) (w w':Qa6),phi j=some φ->φ x w->Qbh w.heap.size w w'->φ x w')
 (h:wpAs P l.toArray C phi fx (fun a w=>Q' .normal a w) 0 l a []):(Code.region id l.toArray true).wp P Q' a w :=
 Rb.wp_region_fx (fun w w'=>Qbh w.heap.size w w') hm C phi fx hok hC hCb hst (Zli _ _ _ [] _ (fun _ _ _=>trivial) (fun _ _=>trivial) h)
end
theorem Z3 {P:Program} {ρ:Qbj->Qa7} {o:Qba} {w:Qa6} {R:Qa7->Qa6->Prop} {f:FuncId} {args:Array Qa7} (h:(execOp ρ o).run P w=.ok (.enter f args) w) (hc:Qbg P f args w (fun e w'=>∃ v,e=.returned v/\R v w')):doesUpon P R ((execOp ρ o).run P w):=by
 rw[h];exact hc
section
variable {P : Program} {Q Q' : Qa9 -> Qbb -> Qa6 -> Prop}
end
section
variable {P : Program} {Q Q' : Qa9 -> Qbb -> Qa6 -> Prop}
end
theorem Yi {w:Qa6} {base n size:Nat} {t:Qbc} {v:Qa7} {xs:List Qa7} (h:w.ownsRow base t size v n xs):∃ A c,v=.slice A n c/\n<=c/\c<=9223372036854775807/\v.ownBlock=A.map (·.block)/\(0<n->∃ ad,A=some ad):=by{
rcases h.2 with ⟨e,e2⟩ | ⟨g,cap',cur,e,hb,hg,hnc,hm,_⟩
·subst e2
exact⟨none,0,e,by omega,by omega,by subst e;rfl,fun h=>by omega⟩
·exact⟨_,_,e,hnc,by unfold maxLen at hm;exact hm,by subst e;rfl,fun _=>⟨_,rfl⟩⟩}
theorem Yr {w0 a:Qa6} {row:Option Nat} (h:w0.grownBy a row) {p:Qa8} (hp:row=some p.block) (u:Qa7):w0.grownBy (a.setCell p u) row :=
 ⟨h.os,h.tape,h.output,by simpa using h.size,fun k hk hne=>(Below.heap_setCell _ _ _ _ (fun e=>hne (by rw[hp,e]))).trans (h.block k hk hne)⟩
theorem Xc (w:Qa6) (row:Option Nat):w.grownBy w row:=⟨rfl,rfl,rfl,Qa _,fun _ _ _=>rfl⟩
theorem Yv {a b c:Qa6} {row:Option Nat} (h:a.grownBy b row) (h':b.grownBy c row):a.grownBy c row :=
 ⟨h'.os.trans h.os,h'.tape.trans h.tape,h'.output.trans h.output,Qq h.size h'.size,fun k hk hne=>(h'.block k (Pa hk h.size) hne).trans (h.block k hk hne)⟩
theorem Y8 {w:Qa6} {k:Nat} {o x:Obj} (h:w.heap[k]? = some o):(w.alloc x).heap[k]? = some o:=(Qa3 w x k (Qe.1 h).1).trans h
theorem Zar (v:Qa7) (xs:List UInt8) (w:Qa6) (hbig:xs.length<=140737488355328) (h:rBy (Old w) w [v] xs) :
 Qbg Tryz.prog 80 #[v] w fun e w'=>∃ u,e=.returned u/\rBy (New w.heap.size w') w' [u] xs/\Qbh w.heap.size w w':=by
 obtain⟨A,cap,rfl,hl,hc,hb⟩:=Ve (B:=w.heap.size) (fun _ h=>h) h;refine(Zf7 A xs.length cap xs (Za rfl) hbig w hb).mono ?_;rintro e w' ⟨u,rfl,h1,h2⟩;exact⟨u,rfl,Zhm h1,h2⟩
def Vf (n:Int):Bool:=decide (0<=n)&&decide (n<256)
theorem Zdh (n:Int) (w:Qa6):Qbg Tryz.prog 144 #[.int .i64 n] w fun e w'=>e=.returned (.bool (Vf n))/\w=w':=by{
unfold Vf;by_cases h:0<=n
·go_enter Tryz.func144,Tryz.ntmps144
go_wp2
go_ret;exact⟨by simp[h],rfl⟩
·go_enter Tryz.func144,Tryz.ntmps144
go_wp2
go_ret;exact⟨by simp;omega,rfl⟩}
theorem Zcb (v:Qa7) (d:Dk) (w:Qa6) (h:Dsk (Old w) w v d):Qbg Tryz.prog 121 #[v] w fun e w'=>e=.returned (.int .i64 (chk d))/\Qbh w.heap.size w w':=by{
obtain⟨A,c,B,c',rfl,l1,m1,l2,m2,hA,hB⟩:=h.open;have HA:=Za hA;have HB:=Za hB;clear hA hB h;obtain⟨n,hn⟩:∃ n,d.1.length=n:=⟨_,rfl⟩
obtain⟨m,hm⟩:∃ m,d.2.length=m:=⟨_,rfl⟩
rw[hn] at l1 ⊢;rw[hm] at l2 ⊢;replace hn:=Za hn;replace hm:=Za hm;have hB1:=Zdi (Qb w.heap.size w) (.cells #[.slice A n c,.slice B m c'] 26);by_cases h1:n=256
·subst h1
by_cases h2:m<=4096
·go_enter Tryz.func121,Tryz.ntmps121
 go_wp2_with fail
 go_loopw [20] (fun i wr=>∃ k:Nat,k<=256/\i=.int .i64 k/\(d.1.take k).all byB=true/\wr=w.alloc (.cells #[.slice A 256 c,.slice B m c'] 26)) (fun i _=>256-(intOf i).toNat)
 case atStart=>exact⟨0,by omega,rfl,rfl,rfl⟩
 case round =>
 obtain⟨k,hk,rfl,ha,rfl⟩:=hrel;replace ha:=Za ha;by_cases hlt:k<256
 ·obtain⟨x,hx⟩:∃ x,d.1[k]? = some x:=⟨_,Qd (by rw[hn.out];exact hlt)⟩
 replace hx:=Za hx;obtain⟨ad,v,rfl,hok,hc,hby⟩:=HA.out k x hx.out;obtain⟨E,ce,rfl,_⟩:=Zt hby
 have hc':=Lib.cell?_alloc_some (.cells #[.slice (some ad) 256 c,.slice B m c'] 26) hc;by_cases hx8:x.length=128
 ·replace hx8:=Za hx8
 have e8:((x.length:Int) != 128)=false:=by rw[hx8.out];rfl
 go_wp2_with fail
 go_roundw
 case rel=>exact⟨k+1,by omega,by go_num,Zt6 ha.out hx.out (by simp[byB,hx8.out]),trivial⟩
 case measure=>simp[intOf];omega
 ·have e8:¬ (x.length:Int)=128:=by omega
 go_wp2_with fail
 go_ret;exact⟨Z1 (Zew (Zzh hx.out hx8)).symm,hB1⟩
 ·have hge:256<=k:=by omega
 have ha':Hid (d.1.all byB=true):=Za (by have:=ha.out;rwa [Qz (by rw[hn.out];exact hge)] at this);clear ha;obtain⟨w0,hw0⟩:∃ w0,w.alloc (.cells #[.slice A 256 c,.slice B m c'] 26)=w0:=⟨_,rfl⟩
 have f1:w0.cell? ⟨w.heap.size,0,none⟩=some (.slice A 256 c):=by rw[<- hw0];simp
 have f2:w0.cell? ⟨w.heap.size,1,none⟩=some (.slice B m c'):=by rw[<- hw0];simp
 have f3:w0.heap.size=w.heap.size+1:=by rw[<- hw0];simp
 rw[hw0] at hB1 ⊢;clear hw0;replace f3:=Za f3
 go_wp2_with fail
 go_loopw [31] (fun i wr=>∃ k:Nat,k<=m/\i=.int .i64 k/\(d.2.take k).all wtB=true/\Qbh w0.heap.size w0 wr) (fun i _=>m-(intOf i).toNat)
 case atStart=>exact⟨0,by omega,rfl,rfl,Qb _ _⟩
 case round =>
 obtain⟨k,hk,rfl,ha,hb⟩:=hrel;replace ha:=Za ha;by_cases hlt:k<m
 ·obtain⟨x,hx⟩:∃ x,d.2[k]? = some x:=⟨_,Qd (by rw[hm.out];exact hlt)⟩
 replace hx:=Za hx;obtain⟨ad,v,rfl,hok1,hok2,hc1,hc2,hby,_,_⟩:=HB.out k x hx.out;obtain⟨E,ce,rfl,_⟩:=Zt hby
 have hbw:=hB1.trans (hb.mono hB1.size);have g1:=(hbw.cell hok1).trans hc1;have g2:=(hbw.cell hok2).trans hc2;rw[Zd7] at g2;have g3:=(hb.cell (p:=⟨w.heap.size,1,none⟩) (by rw[f3.out];simp)).trans f2;by_cases ht:Vf x.1=true
 ·by_cases hx8:x.2.length=128
 ·replace hx8:=Za hx8
 have e8:((x.2.length:Int) != 128)=false:=by rw[hx8.out];rfl
 have hall:=Za (Zt6 ha.out hx.out (by unfold Vf at ht;simp[wtB,hx8.out];simpa using ht))
 go_wp2_with fail
 refine(Zdh _ _).mono ?_;rintro e w2 ⟨rfl,rfl⟩;rw[ht]
 go_wp2_with fail
 go_roundw
 case rel=>exact⟨k+1,by omega,by go_num,hall.out,hb.alloc hb.size _⟩
 case measure=>simp[intOf];omega
 ·have e8:((x.2.length:Int) != 128)=true:=by simp;omega
 have hbad:=Za (Zew (Zti hx.out (show wtB x=false by simp[wtB,hx8])))
 go_wp2_with fail
 refine(Zdh _ _).mono ?_;rintro e w2 ⟨rfl,rfl⟩;rw[ht]
 go_wp2_with fail
 go_ret;exact⟨Z1 hbad.out.symm,hB1.trans ((hb.alloc hb.size _).mono hB1.size)⟩
 ·have ht':Vf x.1=false:=by simpa using ht
 have hbad:=Za (Zew (Zti hx.out (show wtB x=false by unfold Vf at ht';simp[wtB,ht'])));clear ht
 go_wp2_with fail
 refine(Zdh _ _).mono ?_;rintro e w2 ⟨rfl,rfl⟩;rw[ht']
 go_wp2_with fail
 go_ret;exact⟨Z1 hbad.out.symm,hB1.trans ((hb.alloc hb.size _).mono hB1.size)⟩
 ·obtain rfl:k=m:=by omega
 have hok:=Za (Zzi (Zy8 hn.out (by rw[hm.out];exact h2) ha'.out (by have:=ha.out;rwa [Qz (by rw[hm.out];exact Qa _)] at this)))
 go_wp2_with fail
 go_ret;exact⟨Z1 hok.out.symm,hB1.trans (hb.mono hB1.size)⟩
·have h2':(4096:Int)<m:=by omega
 have hbad:=Za (Zew (Z41 (d:=d) (by rw[hm.out];omega)))
 go_enter Tryz.func121,Tryz.ntmps121
 go_wp2_with fail
 go_ret;exact⟨Z1 hbad.out.symm,hB1⟩
·have h1':((n:Int) != 256)=true:=by simp;omega
have hbad:=Za (Zew (Z35 (d:=d) (by rw[hn.out];exact h1)))
go_enter Tryz.func121,Tryz.ntmps121
go_wp2_with fail
go_ret;exact⟨Z1 hbad.out.symm,hB1⟩}
def Xy (lo:Nat) (A:Option Qa8) (w:Qa6):Qa8->Prop:=fun p=>New lo w p/\A.map (·.block)≠some p.block
def Zbo:Dk:=(Pj 256 (Pj 128 0),[])
end Go.Proofs.YtgmbjnajdfgenaaGreat
namespace Go.Proofs.YtgmbjnajdfgenaaGreat
open Go.ChangeShapes Go.WideShapes Go.RowKit
def Zok:Rel (List Int):=rSl 1 (rK .i64)
def Zjg (n:Int):Prop := -9223372036854775808<=n/\n<=9223372036854775807
theorem Zg2 {ok:Qa8->Prop} {w:Qa6} {v:Qa7} {xs:List Int} (h:Zok ok w [v] xs):∃ A cap,v=.slice A xs.length cap/\xs.length<=cap/\cap<=9223372036854775807 /\
 ∀ i x,xs[i]? = some x->∃ ad,A=some ad/\ok (ad.add i)/\w.cell? (ad.add i)=some (.int .i64 x)/\Zjg x:=by
 obtain⟨A,cap,h1,h2,h3,h4⟩:=h;refine⟨A,cap,by simpa using h1,h2,h3,fun i x hi => ?_⟩;obtain⟨ad,vs,e1,e2,e3,rfl,b1,b2⟩:=h4 i x hi;have:=e3 0 _ rfl;rw[Qt,Q3] at this;exact⟨ad,e1,this.1,this.2,by simpa [IntKind.min,IntKind.signed,IntKind.bits] using b1,by simpa [IntKind.max,IntKind.signed,IntKind.bits] using b2⟩
def InU (n:Int):Prop:=0<=n/\n<4294967296
theorem Z8 (w:Qa6) (a b c d e:Qa7) (t:Qbc):∃ w1,w.alloc (.cells #[a,b,c,d,e] t)=w1/\w1.cell? ⟨w.heap.size,0,none⟩=some a/\w1.cell? ⟨w.heap.size,1,none⟩=some b/\w1.cell? ⟨w.heap.size,2,none⟩=some c/\w1.cell? ⟨w.heap.size,3,none⟩=some d/\w1.cell? ⟨w.heap.size,4,none⟩=some e/\w1.heap.size=w.heap.size+1/\Qbh w.heap.size w w1/\w1.heap[w.heap.size]? = some (.cells #[a,b,c,d,e] t (0,0)) :=
 ⟨_,rfl,by simp,by simp,by simp,by simp,by simp,by simp,(Qb _ _).alloc (Qa _) _,Qbe _ _⟩
def Zrk (s:Nat):Nat:=if s % 2=1 then s / 2 ^^^ 3988292384 else s / 2
def Zeq:Nat->Nat->Nat
 | 0,s=>s
 | k+1,s=>Zrk (Zeq k s)
def Zes (s:Nat):Nat:=Zeq 4 s
def Z3u (s:Nat):Nat:=Zes (s % 16) ^^^ (s / 16)
def Z9b (s:Nat) (c:UInt8):Nat:=Z3u (Z3u (s ^^^ c.toNat))
def Zkm (s:Nat) (xs:List UInt8):Nat:=xs.foldl Z9b s
def crc (xs:List UInt8):Nat:=Zkm 4294967295 xs ^^^ 4294967295
theorem Zfs {a b:Nat} (ha:a<4294967296) (hb:b<4294967296):a ^^^ b<4294967296:=Nat.xor_lt_two_pow (n:=32) ha hb
theorem Zwu (s:Nat) (xs:List UInt8) (c:UInt8):Zkm s (xs++[c])=Z9b (Zkm s xs) c:=by simp[Zkm]
section
variable {P : Program} {Q : Qa9 -> Qbb -> Qa6 -> Prop}
end
end Go.Proofs.YtgmbjnajdfgenaaGreat
namespace Go.Proofs.YtgmbjnajdfgenaaGreat.Rk
open Go.RowKit
section
variable {Kr : KrT} {P : Program} {ops : Array Qba} {C : Qa6 -> Prop} {phi : Nat -> Option (Qa7 -> Qa6 -> Prop)} {fx : Nat -> Option Qa7} {Q : Qbb -> Qa6 -> Prop}
section
variable {a0 : Qbb} {listed : Array Bool} {u : Nat -> Qa7} {a : Qbb} {w : Qa6}
end
end
end Go.Proofs.YtgmbjnajdfgenaaGreat.Rk
namespace Go.Proofs.YtgmbjnajdfgenaaGreat
open Go.RowKit
section
variable {P : Program} {Q : Qa9 -> Qbb -> Qa6 -> Prop}
end
end Go.Proofs.YtgmbjnajdfgenaaGreat
namespace Go.Proofs.YtgmbjnajdfgenaaGreat
open Go.RowKit Go.Shelf
attribute [local go_sem] Oper.semAt_some
def Zf0 (n₀ Bs:Nat) (A B:Qa6):Prop:=Qbh n₀ A B/\B.cell? ⟨Bs,0,none⟩=A.cell? ⟨Bs,0,none⟩
theorem Zf0.trans {n₀ Bs:Nat} {A B C:Qa6} (h:Zf0 n₀ Bs A B) (h':Zf0 n₀ Bs B C):Zf0 n₀ Bs A C:=⟨h.1.trans h'.1,h'.2.trans h.2⟩
theorem Z7z (F:Fence) (n:Nat) (hf:F.fn 205) (hro:F.round=none) (hn:1<=n) (l Bs n₀ cap:Nat) (ad:Qa8) (xs:List UInt8) (hm:xs.length<=9223372036854775807) (hb:ad.block<n₀) (J Jx:List (Nat×UInt8)->Qa6->Prop)
 (hY:∀ pre x W,J pre W->pre.length<xs.length->YieldAt F (n-1) Tryz.prog l #[.int .i64 (x.1:Int),.int .u8 (x.2.toNat:Int)] W fun e W' =>
 (e=.returned (.bool true)/\J (pre++[x]) W'/\Zf0 n₀ Bs W W')\/(e=.returned (.bool false)/\Jx (pre++[x]) W'))
 (W:Qa6) (hBs:W.cell? ⟨Bs,0,none⟩=some (.slice (some ad) xs.length cap)) (hc:∀ j,j<xs.length->W.cell? (ad.add j)=some (.int .u8 ((xs[j]?.getD 0).toNat:Int))) (h0:J [] W) :
 CallsIn F n Tryz.prog 205 #[.func (.yield l) #[] #[],.pointer (some ⟨Bs,0,none⟩)] W fun e W'=>(∃ v,e=.returned v) /\
 ((∃ ys,ys=Zuy xs xs.length/\J ys W')\/(∃ pre,(∃ k,k<=xs.length/\pre=Zuy xs k)/\Jx pre W')):=by
 refine callsIn_of_wp Tryz.func205 rfl hf ?_ hro;simp only[Tryz.ntmps205,Pb,Qo,Q0,Pc,Pd,Qv,Pe,Pf,Pg,Ph,Qw]
 gi_wp2
 gi_loopw [3] (fun i wr=>∃ k:Nat,k<=xs.length/\i=.int .i64 ((xs.length:Int)-1-k)/\J (Zuy xs k) wr/\Qbh n₀ W wr/\wr.cell? ⟨Bs,0,none⟩=some (.slice (some ad) xs.length cap))
 (fun i _=>(intOf i+1).toNat)
 case atStart=>exact⟨0,Pk _,by simp,h0,Qb _ _,hBs⟩
 case round =>
 obtain⟨k,hk,rfl,hJs,hnx,hbs⟩:=hrel;by_cases hlt:k<xs.length
 ·have hcx:wr.cell? (ad.add (xs.length-1-k))=some (.int .u8 ((xs[xs.length-1-k]?.getD 0).toNat:Int)):=(hnx.cell (p:=ad.add (xs.length-1-k)) (by rw[Zh];exact hb)).trans (hc _ (by omega))
 obtain⟨fn,tmps,assign,body,hy,hR⟩:=hY _ (xs.length-1-k,xs[xs.length-1-k]?.getD 0) wr hJs (by rw[Zq7];exact hlt)
 dsimp only at hy
 have e1:((xs.length:Int)-1-k).toNat=xs.length-1-k:=by omega
 have e2:((xs.length-1-k:Nat):Int)=(xs.length:Int)-1-k:=by omega
 rw[e2] at hy
 gi_wp2
 refine hR.mono ?_;rintro e W3 (⟨rfl,hJ3,hk3⟩ | ⟨rfl,hJx3⟩)
 ·gi_wp2
 go_roundw
 case rel=>exact⟨k+1,by omega,by go_num,by rw[Zig];exact hJ3,hnx.trans hk3.1,hk3.2.trans hbs⟩
 case measure=>simp[intOf];omega
 ·gi_wp2
 refine Qbd (results_none rfl _ _ _) rfl ?_;exact⟨⟨_,rfl⟩,.inr ⟨_,⟨k+1,by omega,(Zig _ _).symm⟩,hJx3⟩⟩
 ·obtain rfl:k=xs.length:=by omega
 gi_wp2
 go_end0
 exact⟨⟨_,rfl⟩,.inl ⟨_,rfl,hJs⟩⟩
theorem Zrd (F:Fence) (n:Nat) (hf:F.fn 189) (hro:F.round=none) (a:Option Qa8) (len cap:Nat) (w:Qa6) :
 CallsIn F n Tryz.prog 189 #[.slice a len cap] w fun e w'=>e=.returned (.func (.func 205) #[] #[.pointer (some ⟨w.heap.size,0,none⟩)])/\w'=w.alloc (.cells #[.slice a len cap] 27):=by
 refine callsIn_of_wp Tryz.func189 rfl hf ?_ hro;simp only[Tryz.ntmps189,Pb,Qo,Q0,Pc,Pd,Qv,Pe,Pf,Pg,Ph,Qw]
 gi_wp2
 go_ret;exact⟨rfl,rfl⟩
theorem Zku (F:Fence) (n:Nat) (hf:F.fn 205) (hro:F.round=none) (hn:1<=n) (Bs n₀ cap:Nat) (ad:Qa8) (xs:List UInt8) (hm:xs.length<=9223372036854775807) (w:Qa6) (hBs:Bs<w.heap.size) (hn₀:n₀<=w.heap.size)
 (hc:w.cell? ⟨Bs,0,none⟩=some (.slice (some ad) xs.length cap)) (hb:ad.block<n₀) (hx:∀ j,j<xs.length->w.cell? (ad.add j)=some (.int .u8 ((xs[j]?.getD 0).toNat:Int))) :
 SeqStopsK F n Tryz.prog 205 #[.pointer (some ⟨Bs,0,none⟩)] (fun x:Nat×UInt8=>#[Value.int .i64 (x.1:Int),Value.int .u8 (x.2.toNat:Int)]) (Zf0 n₀ Bs) (fun ys=>ys=Zuy xs xs.length)
 (fun pre=>∃ k,k<=xs.length/\pre=Zuy xs k) xs.length w:=fun l J Jx W hW _ _ hY h0=>by
 have hc':=(hW.cell (p:=⟨Bs,0,none⟩) hBs).trans hc;exact Z7z F n hf hro hn l Bs n₀ cap ad xs hm hb J Jx hY W hc' (fun j hj=>(hW.cell (p:=ad.add j) (by rw[Zh];omega)).trans (hx j hj)) h0
theorem Zru {W w:Qa6} {Bs n₀:Nat} (hBs:Bs<w.heap.size) (hn₀:n₀<=w.heap.size) (l:Nat) (o o':Obj) (hl:w.heap.size<=l) (h1:W.heap[l]? = some o) (h2:o.isCells=false) (h3:o.isWalk=false):Zf0 n₀ Bs W (W.putObj l o') :=
 ⟨belowK_b hn₀ W l o o' hl h1 h2 h3,Qa2 (World.putObj_heap_other (k:=Bs) (by omega))⟩
theorem Z0e (F:Fence) (n:Nat) (h3:F.fn 170) (h5:F.fn 189) (h7:F.fn 205) (hro:F.round=none) (hn:3<=n)
 (ad:Qa8) (len cap m k:Nat) (ys:List UInt8) (hk:ys.length=m) (hm0:0<m) (hm:m<=4) (hle:k+m<=len) (hlc:len<=cap) (hcap:cap<=9223372036854775807) (w:Qa6)
 (hb:ad.block<w.heap.size) (hx:∀ j,j<ys.length->w.cell? ((ad.add k).add j)=some (.int .u8 ((ys[j]?.getD 0).toNat:Int))) :
 CallsIn F n Tryz.prog 170 #[.slice (some ad) len cap,.int .i64 k,.int .i64 m] w fun e W'=>e=.returned (.tuple #[.int .u32 (num ys),.int .i64 0])/\Qbh w.heap.size w W':=by
 have h1:1<=n:=by omega
 refine callsIn_of_wp_marks Tryz.func170 rfl h3 ?_ hro;simp only[Tryz.ntmps170,Pb,Qo,Q0,Pc,Pd,Qv,Pe,Pf,Pg,Ph,Qw]
 gi_wp2_with (gi_at_call 189;refine(Zrd F (n-1) h5 hro _ _ _ _).mono ?_;rintro e w' ⟨rfl,rfl⟩)
 obtain rfl:=hk;have bN:=Boxed.new w 32 (.int .u32 0);have bS:=Boxed.new (w.alloc (.cells #[.int .u32 0] 32)) 27 (.slice (some (ad.add k)) ys.length (cap-k));rw[Qaq] at bS;have hB0:Qbh w.heap.size w ((w.alloc (.cells #[.int .u32 0] 32)).alloc (.cells #[.slice (some (ad.add k)) ys.length (cap-k)] 27)):=((Qb _ w).alloc (Qa _) _).alloc (by simp) _;refine wpIn_rangeFunc_ownG hro h1 (gf:=205) (lb:=#[.pointer (some ⟨w.heap.size+1,0,none⟩)]) rfl h7 (enters_of Tryz.func205 (by kernel_rfl) rfl)
 (Zku F (n-1) h7 hro (by omega) (w.heap.size+1) w.heap.size (cap-k) (ad.add k) ys (by omega) _ (by simp) (by simp;omega) bS.cell (by rw[Zh];exact hb) (fun j hj=>(hB0.cell (p:=(ad.add k).add j) (by rw[Zh,Zh];exact hb)).trans (hx j hj)))
 (fun h h'=>Zf0.trans h h') (fun W l o o' hl h1 h2 h3=>Zru (by simp) (by simp;omega) l o o' hl h1 h2 h3) (Qb _ _) (fun _=>rfl)
 (fun pre W=>(W.cell? ⟨w.heap.size,0,none⟩=some (.int .u32 (val pre))/\W.frozen? ⟨w.heap.size,0,none⟩=false)/\Qbh w.heap.size w W)
 (fun _ _ _=>False)
 (OwnFrom.and (Own.from (fun s A B row hs hg hr=>⟨cell_kept hs.1 hg hr,(frozen_kept hs.1 hg hr).trans hs.2⟩) _) (ownFrom_below (Qa _) (by simp;omega)))
 (fun _ _ _ _ _ hs _ _=>hs)
 ⟨⟨(bN.alloc _).cell,(bN.alloc _).frozen⟩,hB0⟩
 (fun x=>{ tmps:=#[.slice (some ad) len cap,.int .i64 k,.int .i64 ys.length,Qbf,Qbf,Qbf,.int .u32 0,.int .i64 0,.pointer (some ⟨w.heap.size,0,none⟩),Qbf,.int .u8 (x.2.toNat:Int),.int .i64 k,.bool (decide ((k:Int)<0)),.bool (decide ((k:Int)<0)),
 .int .i64 k,.slice (some ad) len cap,.int .i64 len,.int .i64 ys.length,.int .i64 ((len:Int)-ys.length),.bool (decide ((len:Int)-ys.length<k)),.bool (decide ((k:Int)<0)||decide ((len:Int)-ys.length<k)),.slice (some ad) len cap,.int .i64 k,.int .i64 k,.int .i64 ys.length,.int .i64 ((k:Int)+ys.length),
 .slice (some (ad.add k)) ys.length (cap-k),.func (.func 205) #[] #[.pointer (some ⟨w.heap.size+1,0,none⟩)],.int .i64 (x.1:Int),.int .u8 (x.2.toNat:Int),Qbf,Qbf,Qbf,Qbf,Qbf,Qbf],defers:=[] }) ?assign ?body ?done ?stop
 case assign =>
 intro l x W K hK
 gi_wp2
 exact hK
 case body =>
 rintro l pre x W ⟨⟨hc,hf⟩,hB⟩ hlen;obtain⟨v0,v1⟩:=Z09 pre (by omega);have hx2:=x.2.toNat_lt;have hor:=Yac (val pre) x.2 v0 v1
 gi_wp2
 exact⟨(KeepsOthers.setCell _ _ _).from _,⟨(Qb w.heap.size W).setCell (p:=⟨w.heap.size,0,none⟩) (Qa _) _,World.cell?_setCell_other _ _ _ _ (by simp)⟩,
 ⟨by rw[Zub];exact Qag _ _ _ (by rw[hc];rfl),by rw[World.frozen?_setCell];exact hf⟩,hB.setCell (p:=⟨w.heap.size,0,none⟩) (Qa _) _⟩
 case done =>
 rintro D zs W hD rfl ⟨⟨hc,_⟩,hB⟩ hK;rw[Z82] at hc
 gi_wp2
 refine⟨by simp,.inl ⟨_,_,rfl,run_takeDeferred hK,?_⟩⟩;exact⟨_,results_tmp2 rfl _ _ _,rfl,hB.trans (belowK_b (w:=w) (Qa _) W D _ _ (by simp at hD;omega) hK rfl rfl)⟩
 case stop =>
 rintro D c pre W _ _ h _;exact h.elim
end Go.Proofs.YtgmbjnajdfgenaaGreat
namespace Go.Proofs.YtgmbjnajdfgenaaGreat
open Go.RowKit Go.Shelf
attribute [local go_sem] Oper.semAt_some
def Zf1 (ws:List Wt) (b:List UInt8) (n:Int):List UInt8:=ws.foldl (fun acc x=>if x.1=n then x.2 else acc) b
def Zz (d:Dk) (n:Nat):List UInt8:=Zf1 d.2 (d.1[n]?.getD []) n
def Uu (d:Dk) (n:Int):Int:=if Zbw d then (if Vf n then 0 else 2) else 8
theorem Zfg {k:Nat} (h:k<256):Vf (k:Int)=true:=by
 simp only[Vf,Qj,decide_eq_true_eq];omega
end Go.Proofs.YtgmbjnajdfgenaaGreat
set_option maxRecDepth 100000
set_option maxHeartbeats 16000000
set_option maxRecDepth 100000
set_option maxHeartbeats 16000000
open Array renaming getElem?_eq_some_iff → Pa, getElem?_modify → P1, length_toList → Qaj
open Bool renaming and_eq_true → Qg, or_eq_true → P7
open Go renaming Q1 → Qal, Q2 → Qam, P2 → Qan, Oper → Qao, Qbk → Qap, Qbl → Qaq, Qbm → Qar, Qbo → Qas
open Go.Act renaming put → Qa
open Go.Builtin renaming append_ → Ql, zeroCells → Qw, lenOf → Pe, firstCells → Pf, copy_ → Qac, clear_ → Qad
open Go.IntWalk renaming i64_in → Q8
open Go.RowKit renaming Qbp → Qat
open Go.RowKit.Below renaming refl → Qb
open Go.World renaming cell?_of_block → Qr, ownsRow_nil → Qz, cell? → Q0, frozen? → Pj, news_of_block → Pu, frozen?_of_block → Pv, setCell → Pz, shape? → Qai
open List renaming getElem?_eq_getElem → Qe, take_of_length_le → Qf, length_append → Qh, getElem?_eq_some_iff → Qi, all_eq_true → Qk, append_assoc → Qn, length_take → Qo, length_drop → Qp, drop_zero → Qq, getElem?_append_right → Qt, take_add_one → Qu, take_zero → Qx, getElem?_append_left → Qy, drop_of_length_le → Q3, take_take → Q4, drop_left' → Q5, take_append_drop → Q6, take_append_of_le_length → Q9, replicate → Pb, getElem?_of_mem → Pc, mem_cons → Pg, nil_append → Ph, take_left' → Pi, drop_eq_getElem_cons → Pk, getElem?_drop → Pm, mem_iff_getElem → Pn, filter_append → Pp, toArray → Pq, mem_of_mem_drop → Pr, take_succ_cons → Ps, drop_succ_cons → Pt, length_replicate → Pw, mem_append → Px, mem_of_getElem? → Py, find?_eq_none → P3, drop_left → P4, findIdx?_eq_some_iff_getElem → P8, findIdx?_eq_none_iff → P9, getElem_mem → Qaa, length_filter_le → Qab, drop_append → Qae, take_append → Qaf, take_nil → Qag, drop_nil → Qah, append_nil → Qak
open Nat renaming le_refl → Qc, lt_of_lt_of_le → Qd, le_trans → Qj, min_eq_left → Qm, lt_or_ge → Qs, zero_add → Qv, lt_trans → Q7, eq_zero_or_pos → Pd, zero_mul → Po, add_assoc → P5
noncomputable section
namespace Go.Proofs.YtgmbjnajdfgenaaGreat
open Go.RowKit
def wrD (d:Dk) (k:Nat) (xs:List UInt8):Dk:=(d.1,d.2++[((k:Int),xs)])
def Zc5:Dk:=([],[])
def rdX (d:Dk) (n:Int):List UInt8:=if Uu d n=0 then Zz d n.toNat else []
def Yj {α:Type} (R:Rel α) (size:Nat) (t:Qap) (lo:Nat) (w:Qal) (A:Option Qan) (c:Nat) (xs:List α):Prop :=
 ∃ cs,w.ownsRow lo t size (.slice A xs.length c) xs.length cs/\∀ i x,xs[i]? = some x->∃ vs,vs.length=size/\(∀ j u,vs[j]? = some u->cs[i*size+j]? = some u)/\R (Xy lo A w) w vs x
section
variable {α : Type} {R : Rel α} {size : Nat} {t : Qap} {lo : Nat} {w w' : Qal} {A : Option Qan} {c : Nat} {xs : List α}
end
def Zf3 (F:Qal->Prop):Prop:=∀ w w',F w->Qat w.heap.size w w'->F w'
def Bag (w:Qal) (Fs:List (Qal->Prop)):Prop:=∀ F∈Fs,F w/\Zf3 F
section
variable {w w' : Qal} {Fs : List (Qal -> Prop)} {F : Qal -> Prop}
theorem Bag.nil (w:Qal):Bag w []:=fun F h=>by cases h
theorem Bag.below (h:Bag w Fs) (hb:Qat w.heap.size w w'):Bag w' Fs:=fun F hF=>⟨(h F hF).2 w w' (h F hF).1 hb,(h F hF).2⟩
theorem Bag.add (h:Bag w Fs) (hF:F w) (hk:Zf3 F):Bag w (F::Fs):=fun G hG=>by
 rcases Pg.1 hG with h1 | h1
 ·rw[h1]
 exact⟨hF,hk⟩
 ·exact h G h1
theorem Bag.at (h:Bag w Fs) (i:Nat) (hi:Fs[i]? = some F):F w:=(h F (Py hi)).1
end
theorem Zn3 (A:Option Qan) (len cap m k:Nat) (xs:List UInt8) (hlen:xs.length=len) (hm0:0<m) (hm:m<=4) (hle:k+m<=len) (hlc:len<=cap) (hcap:cap<=9223372036854775807) (w:Qal) (hx:Byt w w.heap.size A xs) :
 Qas Tryz.prog 170 #[.slice A len cap,.int .i64 k,.int .i64 m] w fun e W'=>e=.returned (.tuple #[.int .u32 (num ((xs.drop k).take m)),.int .i64 0])/\Qat w.heap.size w W':=by
 subst hlen;obtain⟨ad,rfl,hp⟩:=hx.part hle hm0;have hl:((xs.drop k).take m).length=m:=by simp;omega
 obtain⟨ad',e,hb,hc⟩:=hp (by omega);cases e;exact callsIn_wide.1 (Z0e Fence.wide 3 trivial trivial trivial rfl (Qc _) ad xs.length cap m k _ hl hm0 hm hle hlc hcap w (by rw[Zh] at hb;exact hb) hc)
theorem Zyk (A:Option Qan) (len cap k:Nat) (xs:List UInt8) (hlen:Hid (xs.length=len)) (hle:k+2<=len) (hlc:len<=cap) (hcap:cap<=9223372036854775807) (w:Qal) (hx:Byt w w.heap.size A xs) :
 Qas Tryz.prog 191 #[.slice A len cap,.int .i64 k] w fun e W'=>e=.returned (.tuple #[.int .i64 (num ((xs.drop k).take 2)),.int .i64 0])/\Qat w.heap.size w W':=by
 have h0:=Zgx ((xs.drop k).take 2);have h1:=Zzk ((xs.drop k).take 2);have hl:((xs.drop k).take 2).length=2:=by have:=hlen.out;simp;omega
 rw[hl] at h1;simp at h1;clear hl
 go_enter Tryz.func191,Tryz.ntmps191
 go_wp2_with fail
 refine(Zn3 A len cap 2 k xs hlen.out (by omega) (by omega) hle hlc hcap _ hx).mono ?_;rintro e w1 ⟨rfl,hb⟩
 go_wp2
 go_ret2
 exact⟨rfl,hb⟩
def tb (n:Int):List UInt8:=if 0<=n/\n<65536 then le 2 n else []
def gv (m:Nat) (xs:List UInt8) (k:Int):Int:=if 0<=k/\k+m<=xs.length then num ((xs.drop k.toNat).take m) else 0
theorem Zpl {m:Nat} {xs:List UInt8} {k:Int} (h:0<=k/\k+m<=xs.length):gv m xs k=num ((xs.drop k.toNat).take m):=if_pos h
theorem Z73 {m:Nat} {xs:List UInt8} {k:Int} (h:¬ (0<=k/\k+m<=xs.length)):gv m xs k=0:=if_neg h
theorem Zpo (m:Nat) (xs:List UInt8) (k:Int):0<=gv m xs k/\gv m xs k<(256:Int) ^ m:=by{
by_cases h:0<=k/\k+m<=xs.length
·rw[Zpl h]
have hl:((xs.drop k.toNat).take m).length=m:=by simp;omega
have h1:=Zzk ((xs.drop k.toNat).take m);rw[hl] at h1;exact⟨Zgx _,h1⟩
·rw[Z73 h]
exact⟨by omega,Int.pow_pos (by omega)⟩}
def Zoi (xs:List UInt8):List UInt8:=xs++Zy (124-xs.length)
def Zdk (xs:List UInt8):List UInt8:=le 4 (crc (Zoi xs):Nat)++Zoi xs
def Zu7 (xs:List UInt8):Prop:=num (xs.take 4)=(crc (xs.drop 4):Nat)
theorem Zpd {xs:List UInt8} (h:xs.length=124):Zoi xs=xs:=by simp[Zoi,Zy,h]
theorem Z0s {xs:List UInt8} (h:xs.length=128) (hf:Zu7 xs):Zdk (xs.drop 4)=xs:=by
 unfold Zu7 at hf;unfold Zdk;have e:=Zzu (xs.take 4);rw[show (xs.take 4).length=4 by simp[h]] at e;rw[Zpd (by simp[h]),<- hf,e];exact Q6 4 xs
open Classical in
def ob (xs:List UInt8):List UInt8:=if xs.length=128/\Zu7 xs then xs.drop 4 else []
open Classical in
def oe (xs:List UInt8):Int:=if xs.length=128 then (if Zu7 xs then 0 else 8) else 3
theorem Zs {W:Qal} {g:Nat} {a b c d e:Qam} {t:Qap} (h:W.heap[g]? = some (.cells #[a,b,c,d,e] t (0,0))):W.cell? ⟨g,0,none⟩=some a/\W.cell? ⟨g,1,none⟩=some b/\W.cell? ⟨g,2,none⟩=some c/\W.cell? ⟨g,3,none⟩=some d/\W.cell? ⟨g,4,none⟩=some e/\(∀ o,W.frozen? ⟨g,o,none⟩=false)/\g<W.heap.size :=
 ⟨by simp[Q0,h],by simp[Q0,h],by simp[Q0,h],by simp[Q0,h],by simp[Q0,h],fun o=>by simp[Pj,h],(Pa.1 h).1⟩
theorem Ybd (body:List UInt8) (k:Int):Zjg (gv 2 body k):=by
 have:=Zpo 2 body k;exact⟨by omega,by omega⟩
theorem Z59 (body:List UInt8) (k:Int):InU (gv 4 body k):=by
 have:=Zpo 4 body k;exact⟨by omega,by omega⟩
def orN (xs:List Int):Int:=(xs.find? fun x=>x != 0).getD 0
theorem Zu3 {xs:List Int} {k:Nat} {x:Int} (h:∀ y∈xs.take k,y=0) (hx:xs[k]? = some x) (h0:x≠0):orN xs=x:=by
 have e:xs=xs.take k++x::xs.drop (k+1):=by
 have hk:=(Qi.1 hx)
 obtain⟨hk1,hk2⟩:=hk;rw[<- hk2,<- Pk hk1,Q6];unfold orN;rw[e,List.find?_append,P3.2 (by intro y hy;simp[h y hy])];simp[h0]
theorem Zs5 {xs:List Int} (h:∀ y∈xs,y=0):orN xs=0:=by
 unfold orN;rw[P3.2 (by intro y hy;simp[h y hy])];rfl
end Go.Proofs.YtgmbjnajdfgenaaGreat
namespace Go.Proofs.YtgmbjnajdfgenaaGreat
open Go.ChangeShapes Go.WideShapes Go.RowKit
abbrev Ky:=UInt8×Int×Int
def rKy:Rel Ky:=Zjx rU8 (Zjx (rK .u32) (rK .u32))
theorem Z6v:Ze2 rKy:=Zdr Zyy (Zdr (Zgb _) (Zgb _))
structure InK (k:Ky):Prop where
 id:InU k.2.1
 off:InU k.2.2
abbrev kyV (k:Ky):Qam:=.agg #[.int .u8 (k.1.toNat:Int),.int .u32 k.2.1,.int .u32 k.2.2]
abbrev It:=Ky×Int×List UInt8
def rIt:Rel It:=Zjx rKy (Zjx (rK .i64) rBy)
theorem Z0:Ze2 rIt:=Zdr Z6v (Zdr (Zgb _) Zf)
structure InI (s:It):Prop where
 key:InK s.1
 ref:Zjg s.2.1
abbrev itV (s:It) (d:Qam):Qam:=.agg #[.int .u8 (s.1.1.toNat:Int),.int .u32 s.1.2.1,.int .u32 s.1.2.2,.int .i64 s.2.1,d]
def Itm (ok:Qan->Prop) (w:Qal) (v:Qam) (s:It):Prop:=∃ d,v=itV s d/\InI s/\rBy ok w [d] s.2.2
theorem Itm.map {ok ok':Qan->Prop} {w w':Qal} {v:Qam} {s:It} (hk:∀ p v,ok p->w.cell? p=some v->ok' p/\w'.cell? p=some v) (h:Itm ok w v s):Itm ok' w' v s:=by
 obtain⟨d,e,h1,h2⟩:=h;exact⟨d,e,h1,Zf _ _ _ _ _ _ hk h2⟩
def Zbn (s:It):Bool:=(decide (s.2.1=0)||(decide (8<=s.2.1)&&decide (s.2.1<256)))&&decide (s.2.2.length<=12)
def Z4n (s:It):Int:=if Zbn s then 0 else 8
theorem Zaj {s:It} (h:Zbn s=true):(s.2.1=0\/(8<=s.2.1/\s.2.1<256))/\s.2.2.length<=12:=by
 simpa [Zbn] using h
theorem Zr6 {s:It} (h:(s.2.1=0\/(8<=s.2.1/\s.2.1<256))/\s.2.2.length<=12):Zbn s=true:=by simpa [Zbn] using h
theorem Zdt {s:It} (h:Zbn s=true):Z4n s=0:=by simp[Z4n,h]
theorem Zat {s:It} (h:Zbn s=false):Z4n s=8:=by simp[Z4n,h]
def itB (s:It):List UInt8:=[s.1.1]++(le 4 s.1.2.1++(le 4 s.1.2.2++(le 2 s.2.1++([UInt8.ofNat s.2.2.length]++s.2.2))))
def Zer:It:=((0,0,0),0,[])
def Zo (a b:Ky):Bool:=if a.1.toNat≠b.1.toNat then decide (a.1.toNat<b.1.toNat) else if a.2.1≠b.2.1 then decide (a.2.1<b.2.1) else decide (a.2.2<b.2.2)
theorem Zze (v:Qam) (xs:List Int) (w:Qal) (h:Zok (Old w) w [v] xs) :
 Qas Tryz.prog 95 #[v] w fun e w'=>e=.returned (.int .i64 (orN xs))/\w=w':=by
 obtain⟨A,c,rfl,l1,m1,hA⟩:=Zg2 h;have HA:=Za hA;clear hA h;obtain⟨n,hn⟩:∃ n,xs.length=n:=⟨_,rfl⟩
 rw[hn] at l1 ⊢;replace hn:=Za hn
 go_enter Tryz.func95,Tryz.ntmps95
 go_wp2_with fail
 go_loop [8] (fun i=>∃ k:Nat,k<=n/\i=.int .i64 k/\∀ y∈xs.take k,y=0) (fun i=>n-(intOf i).toNat)
 case atStart=>exact⟨0,by omega,rfl,fun y hy=>by simp at hy⟩
 case round =>
 obtain⟨k,hk,rfl,ha⟩:=hrel;replace ha:=Za ha;by_cases hlt:k<n
 ·obtain⟨x,hx⟩:∃ x,xs[k]? = some x:=⟨_,Qe (by rw[hn.out];exact hlt)⟩
 obtain⟨ad,rfl,hok,hc,_⟩:=HA.out k x hx;replace hx:=Za hx;by_cases e:x=0
 ·have he:(x != 0)=false:=by simpa using e
 replace e:=Za e
 go_wp2_with fail
 go_round
 case rel=>exact⟨k+1,by omega,by go_num,fun y hy=>by
 rw[Qu,hx.out] at hy;simp at hy;rcases hy with hy | hy
 ·exact ha.out y hy
 ·rw[hy];exact e.out⟩
 case measure=>simp[intOf];omega
 ·have he:(x != 0)=true:=by simpa using e
 have hor:=Za (Zu3 ha.out hx.out e);clear e
 go_wp2_with fail
 go_ret;exact⟨Z1 hor.out.symm,rfl⟩
 ·have hge:n<=k:=by omega
 have hor:Hid (orN xs=0):=Za (Zs5 (by
 have:=ha.out
 rwa [Qf (by rw[hn.out];exact hge)] at this))
 go_wp2_with fail
 go_ret;exact⟨Z1 hor.out.symm,rfl⟩
theorem Z4i (s:It) (n:Nat) (hn:s.2.2.length=n):(s.2.1=0/\n<=12/\Zbn s=true)\/(s.2.1=0/\12<n/\Zbn s=false)\/(s.2.1≠0/\s.2.1<8/\Zbn s=false)\/(s.2.1≠0/\¬ s.2.1<8/\256<=s.2.1/\Zbn s=false)\/(s.2.1≠0/\¬ s.2.1<8/\¬ 256<=s.2.1/\n<=12/\Zbn s=true)\/(s.2.1≠0/\¬ s.2.1<8/\¬ 256<=s.2.1/\12<n/\Zbn s=false):=by{
subst hn;cases e:Zbn s with
| true =>
have:=Zaj e;simp only[and_true,reduceCtorEq,and_false,or_false,false_or];omega
| false =>
have:¬ ((s.2.1=0\/(8<=s.2.1/\s.2.1<256))/\s.2.2.length<=12):=fun h=>by rw[Zr6 h] at e;cases e
simp only[and_true,reduceCtorEq,and_false,false_or];omega}
theorem Za1 (v:Qam) (s:It) (w:Qal) (h:Itm (Old w) w v s):Qas Tryz.prog 73 #[v] w fun e w'=>e=.returned (.int .i64 (Z4n s))/\Qat w.heap.size w w':=by{
obtain⟨A,c,rfl,_,l1,m1,_⟩:=h.open;obtain⟨n,hn⟩:∃ n,s.2.2.length=n:=⟨_,rfl⟩
have hw:=Z4i s n hn;unfold itV;rw[hn] at l1 ⊢;obtain⟨w0,hw0,f1,f2,f3,f4,f5,hs0,hB0,_⟩:=Z8 w (.int .u8 (s.1.1.toNat:Int)) (.int .u32 s.1.2.1) (.int .u32 s.1.2.2) (.int .i64 s.2.1) (.slice A n c) 54;clear f1 f2 f3 hs0 hn h;have HB0:=Za hB0;clear hB0;obtain⟨r,hr⟩:∃ r,s.2.1=r:=⟨_,rfl⟩
rw[hr] at hw f4 ⊢;rw[hr] at hw0;clear hr;rcases hw with ⟨rfl,h1,hm⟩ | ⟨rfl,h1,hm⟩ | ⟨h0,h1,hm⟩ | ⟨h0,h1,h2,hm⟩ | ⟨h0,h1,h2,h3,hm⟩ | ⟨h0,h1,h2,h3,hm⟩
·have hc:=Za (Zdt hm)
have i1:¬ (12:Int)<n:=by omega
clear hm;rw[hc.out]
go_enter Tryz.func73,Tryz.ntmps73
go_upto_region 1 with fail
clear hw0
go_wp2_with fail
go_ret;exact⟨rfl,HB0.out⟩
·have hc:=Za (Zat hm)
have i1:(12:Int)<n:=by omega
clear hm;rw[hc.out]
go_enter Tryz.func73,Tryz.ntmps73
go_upto_region 1 with fail
clear hw0
go_wp2_with fail
go_ret;exact⟨rfl,HB0.out⟩
·have hc:=Za (Zat hm)
have t0:(r != 0)=true:=by simpa using h0
have t1:(r==0)=false:=by simpa using h0
clear h0;clear hm;rw[hc.out]
go_enter Tryz.func73,Tryz.ntmps73
go_upto_region 1 with fail
clear hw0
go_wp2_with fail
go_ret;exact⟨rfl,HB0.out⟩
·have hc:=Za (Zat hm)
have t0:(r != 0)=true:=by simpa using h0
have t1:(r==0)=false:=by simpa using h0
clear h0;clear hm;rw[hc.out]
go_enter Tryz.func73,Tryz.ntmps73
go_upto_region 1 with fail
clear hw0
go_wp2_with fail
go_ret;exact⟨rfl,HB0.out⟩
·have hc:=Za (Zdt hm)
have t0:(r != 0)=true:=by simpa using h0
have t1:(r==0)=false:=by simpa using h0
have i4:¬ (12:Int)<n:=by omega
clear h0;clear hm;rw[hc.out]
go_enter Tryz.func73,Tryz.ntmps73
go_upto_region 1 with fail
clear hw0
go_wp2_with fail
go_ret;exact⟨rfl,HB0.out⟩
·have hc:=Za (Zat hm)
have t0:(r != 0)=true:=by simpa using h0
have t1:(r==0)=false:=by simpa using h0
have i4:(12:Int)<n:=by omega
clear h0;clear hm;rw[hc.out]
go_enter Tryz.func73,Tryz.ntmps73
go_upto_region 1 with fail
clear hw0
go_wp2_with fail
go_ret;exact⟨rfl,HB0.out⟩}
def Zej (b:List UInt8):Nat:=(b[11]?.getD 0).toNat
def okC (b:List UInt8):Bool:=decide (12+Zej b<=b.length)
def Vo (b:List UInt8):It:=((b[0]?.getD 0,gv 4 b 1,gv 4 b 5),gv 2 b 9,(b.drop 12).take (Zej b))
def Zvq (b:List UInt8):It:=if okC b then Vo b else Zer
theorem Ze6 {b:List UInt8} (h:okC b=true):12+Zej b<=b.length:=by simpa [okC] using h
theorem Zk6 (b:List UInt8):InI (Vo b):=⟨⟨Z59 _ _,Z59 _ _⟩,Ybd _ _⟩
theorem Zkj {b:List UInt8} (h:okC b=true):(Vo b).2.2.length=Zej b:=by
 have:=Ze6 h;simp[Vo];omega
def okR (b:List UInt8):Bool:=okC b&&Zbn (Zvq b)
def itR (b:List UInt8):It:=if okR b then Vo b else Zer
def itN (b:List UInt8):Int:=if okR b then (12+Zej b:Int) else 0
theorem Zsa {e:Int} (h:e=0\/e=8):Zjg e:=by
 rcases h with rfl | rfl <;> exact⟨by decide,by decide⟩
theorem Zfj (b:Bool):b=false\/b=true:=by cases b <;> simp
theorem Zk7 {b:List UInt8} (h:okR b=true):okC b=true/\Zbn (Zvq b)=true:=by simpa [okR] using h
theorem Z7i (m:Nat) (b:List UInt8) (k:Nat) (h:k+m<=b.length):le m (gv m b k)=(b.drop k).take m:=by
 rw[Zpl (k:=(k:Int)) ⟨by omega,by omega⟩,show (k:Int).toNat=k by omega];have hl:((b.drop k).take m).length=m:=by simp;omega
 have:=Zzu ((b.drop k).take m)
 rwa [hl] at this
theorem Z57 (b:List UInt8) (k:Nat) (h:k<b.length):(b.drop k).take 1=[b[k]?.getD 0]:=by
 rw[Pk h,Qe h];rfl
theorem Zs2 {b:List UInt8} (h:okR b=true):∃ n:Nat,itN b=n/\n<=b.length/\Zbn (itR b)=true/\itB (itR b)=b.take n:=by{
obtain⟨h1,h2⟩:=Zk7 h;have h3:=Ze6 h1;have hR:itR b=Vo b:=by rw[itR,h,if_pos rfl]
have hf:Zvq b=Vo b:=by rw[Zvq,h1,if_pos rfl]
rw[hf] at h2;refine⟨12+Zej b,by rw[itN,h,if_pos rfl];simp,h3,by rw[hR];exact h2,?_⟩;rw[hR];have l0:=Z57 b 0 (by omega);rw[Qq] at l0;have l1:=Z57 b 11 (by omega);have hlen:((b.drop 12).take (Zej b)).length=Zej b:=by simp;omega
have hc:UInt8.ofNat (Zej b)=b[11]?.getD 0:=by unfold Zej;simp
have g1:=Z7i 4 b 1 (by omega);have g2:=Z7i 4 b 5 (by omega);have g3:=Z7i 2 b 9 (by omega);have ht:b.take (12+Zej b)=b.take 1++((b.drop 1).take 4++((b.drop 5).take 4++((b.drop 9).take 2++((b.drop 11).take 1++(b.drop 12).take (Zej b))))):=by
have q:∀ (j m n:Nat),(b.drop j).take m++(b.drop (j+m)).take n=(b.drop j).take (m+n):=fun j m n=>by
 rw[<- List.drop_drop,List.take_add]
rw[q 11 1,q 9 2,q 5 4,q 1 4];have:=q 0 1 (4+(4+(2+(1+Zej b))));rw[Qq,Qv] at this;rw[this]
congr 1
omega;rw[ht,l0,l1];unfold itB Vo
dsimp only
rw[hlen,hc];have c1:((1:Nat):Int)=1:=rfl;have c5:((5:Nat):Int)=5:=rfl;have c9:((9:Nat):Int)=9:=rfl;rw[c1] at g1;rw[c5] at g2;rw[c9] at g3;rw[g1,g2,g3]}
end Go.Proofs.YtgmbjnajdfgenaaGreat
namespace Go.Proofs.YtgmbjnajdfgenaaGreat
open Go.ChangeShapes Go.WideShapes Go.RowKit
abbrev Nd:=Int×List It
def U5:Rel (List It):=rSl 5 rIt
theorem Yz:Ze2 U5:=Uf Z0
def Nod (ok:Qan->Prop) (w:Qal) (v:Qam) (n:Nd):Prop:=∃ d,v=.agg #[.int .i64 n.1,d]/\Zjg n.1/\U5 ok w [d] n.2
section
variable {ok ok' : Qan -> Prop} {w w' : Qal} {v : Qam} {n : Nd} {lo lo' : Nat}
theorem Nod.map (hk:∀ p v,ok p->w.cell? p=some v->ok' p/\w'.cell? p=some v) (h:Nod ok w v n):Nod ok' w' v n:=by
 obtain⟨d,e,h1,h2⟩:=h;exact⟨d,e,h1,Yz _ _ _ _ _ _ hk h2⟩
theorem Ztu {d:Qam} {xs:List It} (h:U5 ok w [d] xs):∃ A c,d=.slice A xs.length c/\xs.length<=c/\c<=9223372036854775807:=by
 obtain⟨A,c,e,h1,h2,_⟩:=h;exact⟨A,c,by simpa using e,h1,h2⟩
theorem Nod.open (h:Nod ok w v n):∃ A c,v=.agg #[.int .i64 n.1,.slice A n.2.length c]/\Zjg n.1/\n.2.length<=c/\c<=9223372036854775807/\U5 ok w [.slice A n.2.length c] n.2:=by
 obtain⟨d,rfl,h1,h2⟩:=h;obtain⟨A,c,rfl,h3,h4⟩:=Ztu h2;exact⟨A,c,rfl,h1,h3,h4,h2⟩
end
def Ug:Nd:=(0,[])
structure At5 (w:Qal) (p:Qan) (s:It) (d:Qam):Prop where
 c0:w.cell? p=some (.int .u8 (s.1.1.toNat:Int))
 c1:w.cell? ⟨p.block,p.off+1,none⟩=some (.int .u32 s.1.2.1)
 c2:w.cell? ⟨p.block,p.off+2,none⟩=some (.int .u32 s.1.2.2)
 c3:w.cell? ⟨p.block,p.off+3,none⟩=some (.int .i64 s.2.1)
 c4:w.cell? ⟨p.block,p.off+4,none⟩=some d
def Zg3 (s:It):Bool:=decide (s.2.1≠0)&&decide (s.2.2.length=0)
def okP (l:Int) (x:It):Bool:=Zbn x&&(decide (l<=0)||Zg3 x)
def Zkh (n:Nd) (i:Nat):Bool:=match n.2[i]? with
 | none=>true
 | some x=>okP n.1 x&&(match i with
 | 0=>true
 | j+1=>match n.2[j]? with
 | none=>true
 | some p=>Zo p.1 x.1)
def Zpu (n:Nd):Bool:=(decide (0<=n.1)&&decide (n.1<6))&&decide (n.2.length<=5)&&(decide (n.1<=0)||decide (0<n.2.length))
def Yd (n:Nd):Bool:=Zpu n&&(List.range n.2.length).all (Zkh n)
theorem Zpc {n:Nd} (h:Zpu n=true):0<=n.1/\n.1<6/\n.2.length<=5/\(0<n.1->0<n.2.length):=by
 simp only[Zpu,Qg,P7,decide_eq_true_eq] at h;omega
theorem Z05 {n:Nd} (h:0<=n.1/\n.1<6/\n.2.length<=5/\(0<n.1->0<n.2.length)):Zpu n=true:=by
 simp only[Zpu,Qg,P7,decide_eq_true_eq];omega
theorem Zyz {n:Nd} (h:0<=n.1/\n.1<6/\n.2.length<=5/\(0<n.1->0<n.2.length)) (h2:∀ i,i<n.2.length->Zkh n i=true):Yd n=true:=by
 simp only[Yd,Qg,Qk];exact⟨Z05 h,fun x hx=>h2 x (by simpa using hx)⟩
theorem Zw {n:Nd} (h:Yd n=true):(0<=n.1/\n.1<6/\n.2.length<=5/\(0<n.1->0<n.2.length))/\∀ i,i<n.2.length->Zkh n i=true:=by
 simp only[Yd,Qg,Qk] at h;exact⟨Zpc h.1,fun i hi=>h.2 i (by simpa using hi)⟩
theorem Zj9 {n:Nd} {x:It} (hx:n.2[0]? = some x):Zkh n 0=okP n.1 x:=by unfold Zkh;rw[hx];simp
theorem Zfw {n:Nd} {k:Nat} {x p:It} (hx:n.2[k+1]? = some x) (hp:n.2[k]? = some p):Zkh n (k+1)=(okP n.1 x&&Zo p.1 x.1):=by
 unfold Zkh;simp only[hx,hp]
def Zdc (l:List It):List UInt8:=(l.map itB).flatten
theorem Zo2 (l:List It) (x:It):Zdc (l++[x])=Zdc l++itB x:=by simp[Zdc]
def Zwk (n:Nd):List UInt8:=[78,UInt8.ofNat n.1.toNat,UInt8.ofNat n.2.length]
def Zci (n:Nd):List UInt8:=Zwk n++Zdc n.2
def Vd (n:Nd):List UInt8:=Zdk (Zci n)
def Uz (b:List UInt8):Bool:=b.all (· == 0)
theorem Va:(Tryz.prog.info? 54).map (fun i=>(i.zero,i.size,i.bytes))=some (some (.agg #[.int .u8 0,.int .u32 0,.int .u32 0,.int .i64 0,.slice none 0 0]),5,48):=by kernel_rfl
def Zaa (b:List UInt8):Nat->Option (List It×List UInt8)
 | 0=>some ([],b)
 | k+1=>match Zaa b k with
 | none=>none
 | some (l,r)=>if okR r then some (l++[itR r],r.drop (itN r).toNat) else none
theorem Zi1 {b:List UInt8} {k:Nat} {l:List It} {r:List UInt8} (h:Zaa b k=some (l,r)) (h':okR r=true):Zaa b (k+1)=some (l++[itR r],r.drop (itN r).toNat):=by
 simp only[Zaa,h,h',if_true]
theorem Zvb {b:List UInt8} {k:Nat} {l:List It} {r:List UInt8} (h:Zaa b k=some (l,r)) (h':okR r=false):Zaa b (k+1)=none:=by
 simp only[Zaa,h,h'];rfl
theorem Zi5 {b:List UInt8}:∀ {k:Nat} {l:List It} {r:List UInt8},Zaa b k=some (l,r)->b=Zdc l++r/\l.length=k/\(∀ x∈l,Zbn x=true/\InI x)
 | 0,l,r,h=>by
 simp only[Zaa,Option.some.injEq,Prod.mk.injEq] at h;obtain⟨rfl,rfl⟩:=h;exact⟨by simp[Zdc],rfl,fun x hx=>by simp at hx⟩
 | k+1,l,r,h=>by
 cases e:Zaa b k with
 | none=>simp[Zaa,e] at h
 | some p =>
 obtain⟨l',r'⟩:=p;obtain⟨h1,h2,h3⟩:=Zi5 e;rcases Zfj (okR r') with ho | ho
 ·rw[Zvb e ho] at h
 cases h
 ·rw[Zi1 e ho] at h
 simp only[Option.some.injEq,Prod.mk.injEq] at h;obtain⟨rfl,rfl⟩:=h;obtain⟨n,e1,e2,e3,e4⟩:=Zs2 ho;have hn:(itN r').toNat=n:=by rw[e1];omega
 refine⟨?_,by simp[h2],fun x hx => ?_⟩
 ·rw[Zo2,e4,hn,Qn,Q6]
 exact h1
 ·rcases Px.1 hx with hx | hx
 ·exact h3 x hx
 ·simp at hx
 subst hx;exact⟨e3,by rw[itR,ho,if_pos rfl];exact Zk6 _⟩
def Z15 (b:List UInt8) (k:Nat):List It:=((Zaa b k).map (·.1)).getD []
def Zzs (b:List UInt8) (k:Nat):List UInt8:=((Zaa b k).map (·.2)).getD []
abbrev Iv:=It×Qam
def Zbp (p:Iv):List Qam:=[.int .u8 (p.1.1.1.toNat:Int),.int .u32 p.1.1.2.1,.int .u32 p.1.1.2.2,.int .i64 p.1.2.1,p.2]
def Zj (ps:List Iv):List Qam:=(ps.map Zbp).flatten
theorem Y0:∀ ps:List Iv,(Zj ps).length=ps.length*5
 | []=>rfl
 | p::r=>by
 have:=Y0 r;simp[Zj,Zbp] at this ⊢;omega
theorem Xh {ps:List Iv} (h:∀ p∈ps,p.2.oneCell'=true):∀ u∈Zj ps,u.oneCell'=true:=fun u hu=>by
 unfold Zj at hu;rw[List.mem_flatten] at hu;obtain⟨l,hl,hul⟩:=hu;obtain⟨p,hp,rfl⟩:=List.mem_map.1 hl;simp[Zbp] at hul;rcases hul with rfl | rfl | rfl | rfl | rfl
 ·rfl
 ·rfl
 ·rfl
 ·rfl
 ·exact h p hp
theorem Zcn (b:Bool):b=false\/b=true:=by cases b <;> simp
def Z39 (body:List UInt8):Int:=((body[1]?.getD 0).toNat:Int)
def Zez (body:List UInt8):Nat:=(body[2]?.getD 0).toNat
theorem Z0x (body:List UInt8):Zjg (Z39 body):=by
 have:=(body[1]?.getD 0).toNat_lt;unfold Z39;exact⟨by omega,by omega⟩
def ndN (body:List UInt8):Nd:=(Z39 body,Z15 (body.drop 3) (Zez body))
def rdN (body:List UInt8):Bool:=decide (body[0]?.getD 0=78)&&((Zaa (body.drop 3) (Zez body)).isSome&&(Yd (ndN body)&&Uz (Zzs (body.drop 3) (Zez body))))
def reN (b:List UInt8):Int:=if oe b=0 then (if rdN (ob b) then 0 else 8) else oe b
def reV (b:List UInt8):Nd:=if oe b=0 then (if rdN (ob b) then ndN (ob b) else Ug) else Ug
theorem Zt3 {b:List UInt8} (h:oe b=0):b.length=128/\Zu7 b/\ob b=b.drop 4/\(ob b).length=124:=by{
unfold oe at h;by_cases h1:b.length=128
·rw[if_pos h1] at h
by_cases h2:Zu7 b
·have:ob b=b.drop 4:=by unfold ob;rw[if_pos ⟨h1,h2⟩]
 exact⟨h1,h2,this,by rw[this];simp[h1]⟩
·rw[if_neg h2] at h;cases h
·rw[if_neg h1] at h;cases h}
theorem Zh0 {b:List UInt8} (h:oe b=0) (h':rdN (ob b)=true):reN b=0/\reV b=ndN (ob b):=by
 unfold reN reV;rw[if_pos h,if_pos h,h'];exact⟨rfl,rfl⟩
def Zfe (l:List It) (k:Ky):Nat:=(l.filter fun x=>Zo x.1 k).length
def Z2 (n:Nd) (k:Ky):Nat:=Zfe n.2 k
def Yn (n:Nd) (k:Ky):Bool:=match n.2[Z2 n k]? with
 | none=>false
 | some x=>decide (x.1=k)
structure InN (n:Nd):Prop where
 lv:Zjg n.1
 it:∀ x∈n.2,InI x
theorem Znb {b:List UInt8} (h:Uz b=true):b=Zy b.length:=by
 simp only[Uz,Qk,beq_iff_eq] at h;exact List.eq_replicate_iff.2 ⟨rfl,h⟩
theorem Zlf (n:Nd):Zci n=[78,UInt8.ofNat n.1.toNat,UInt8.ofNat n.2.length]++Zdc n.2:=rfl
theorem Zfx {b:List UInt8} (h:reN b=0):Yd (reV b)=true/\Vd (reV b)=b/\InN (reV b):=by{
have hoe:oe b=0:=by
unfold reN at h;by_cases e:oe b=0
·exact e
·rw[if_neg e] at h;exact absurd h e
have hrd:rdN (ob b)=true:=by
unfold reN at h;rw[if_pos hoe] at h;cases e:rdN (ob b) with
| true=>rfl
| false=>rw[e] at h;cases h
obtain⟨e1,e2⟩:=Zh0 hoe hrd;obtain⟨hlen,hfits,hob,h124⟩:=Zt3 hoe;rw[e2];obtain⟨bd,hbd⟩:∃ bd,ob b=bd:=⟨_,rfl⟩
rw[hbd] at hrd h124 ⊢;unfold rdN at hrd;simp only[Qg,decide_eq_true_eq] at hrd;obtain⟨h78,hs,hm,hn⟩:=hrd;cases hc:Zaa (bd.drop 3) (Zez bd) with
| none=>rw[hc] at hs;cases hs
| some p =>
obtain⟨l,r⟩:=p;have hL:Z15 (bd.drop 3) (Zez bd)=l:=by simp[Z15,hc]
have hR:Zzs (bd.drop 3) (Zez bd)=r:=by simp[Zzs,hc]
obtain⟨c1,c2,c3⟩:=Zi5 hc;rw[hR] at hn;have hnd:ndN bd=(Z39 bd,l):=by rw[ndN,hL]
have hin:InN (ndN bd):=by
 rw[hnd];exact⟨Z0x bd,fun x hx=>(c3 x hx).2⟩
refine⟨hm,?_,hin⟩;have hsplit:bd=[78,bd[1]?.getD 0,bd[2]?.getD 0]++bd.drop 3:=by
 match bd,h124,h78 with
 | x::y::z::q,_,h78 =>
 simp at h78;simp[h78]
have hT:Zci (ndN bd)=[78,bd[1]?.getD 0,bd[2]?.getD 0]++Zdc l:=by
 rw[hnd,Zlf,c2];have e1:UInt8.ofNat (Z39 bd).toNat=bd[1]?.getD 0:=by simp[Z39]
 have e2:UInt8.ofNat (Zez bd)=bd[2]?.getD 0:=by simp[Zez]
 show [78,UInt8.ofNat (Z39 bd).toNat,UInt8.ofNat (Zez bd)]++Zdc l=_;rw[e1,e2]
have hbody:bd=Zci (ndN bd)++r:=by
 rw[hT,Qn,<- c1];exact hsplit
have hpad:Zoi (Zci (ndN bd))=bd:=by
 have hl2:(Zci (ndN bd)).length+r.length=124:=by
 have:=congrArg List.length hbody;rw[Qh,h124] at this;omega;rw[Zoi,show 124-(Zci (ndN bd)).length=r.length by omega,<- Znb hn];exact hbody.symm
show Zdk (Zci (ndN bd))=b;have hs:Zdk (Zci (ndN bd))=Zdk bd:=by
 unfold Zdk;rw[hpad,Zpd h124]
rw[hs,<- hbd,hob];exact Z0s hlen hfits}
theorem Zdg {w:Qal} {g:Nat} (cs:Array Qam):w.grownBy (w.setRow g cs) (some g) :=
 ⟨rfl,rfl,rfl,by simp[Qbi],fun k _ hne=>setRow_other w g k cs (fun e=>hne (by rw[e]))⟩
theorem Xz {w w2:Qal} {r:Option Nat} (h:w.drew.grownBy w2 r):w.grownBy w2 r:=⟨h.os,h.tape,h.output,h.size,h.block⟩
theorem Zbq {C Y:List Qam} {a:Nat} (h:a<=C.length):(splice C a Y).take (a+Y.length)=C.take a++Y:=by
 unfold splice;rw[<- Qn,Q9 (by simp;omega)];exact Qf (by simp;omega)
theorem Yl:∀ (a b:List Iv),Zj (a++b)=Zj a++Zj b
 | [],_=>rfl
 | x::r,b=>by
 show Zbp x++Zj (r++b)=(Zbp x++Zj r)++Zj b;rw[Yl r b,Qn]
theorem Ze7 (x:Iv) (r:List Iv):Zj (x::r)=Zbp x++Zj r:=rfl
theorem X4:∀ (ps:List Iv) (k:Nat),Zj (ps.take k)=(Zj ps).take (k*5)
 | [],k=>by
 rw[Qag];exact Qag.symm
 | x::r,0=>by
 rw[Po,Qx,Qx];rfl
 | x::r,k+1=>by
 rw[Ps,Ze7,Ze7,X4 r k,Qaf,show (Zbp x).length=5 from rfl,show (k+1)*5-5=k*5 by omega,Qf (show (Zbp x).length<=(k+1)*5 by show 5<=_;omega)]
theorem Zjo:∀ (ps:List Iv) (k:Nat),Zj (ps.drop k)=(Zj ps).drop (k*5)
 | [],k=>by
 rw[Qah];exact Qah.symm
 | x::r,0=>by
 rw[Po,Qq,Qq]
 | x::r,k+1=>by
 rw[Pt,Ze7,Zjo r k,Qae,show (Zbp x).length=5 from rfl,show (k+1)*5-5=k*5 by omega,Q3 (show (Zbp x).length<=(k+1)*5 by show 5<=_;omega),Ph]
theorem Yg {w:Qal} {lo n c:Nat} {ad:Qan} {t:Qap} {xs:List Qam} (h:w.ownsRow lo t 5 (.slice (some ad) n c) n xs) :
 ∃ b C,ad=⟨b,0,none⟩/\lo<=b/\b<w.heap.size/\w.heap[b]? = some (.cells (Pq C) t (0,0))/\n<=c/\c<=maxLen/\C.length=c*5/\C.take (n*5)=xs:=by
 rcases h.2 with ⟨e,_⟩ | ⟨g,cap,cur,e,hb,hg,h1,h2,h3,h4⟩
 ·cases e
 ·cases e
 exact⟨g,cur.toList,rfl,hb,(Pa.1 hg).1,by simpa using hg,h1,h2,by simpa using h3,h4⟩
theorem Xq {w:Qal} {lo b n c:Nat} {t:Qap} {C xs:List Qam} (hb:lo<=b) (hg:w.heap[b]? = some (.cells C.toArray t (0,0))) (h1:n<=c) (h2:c<=maxLen) (h3:C.length=c*5) (h4:C.take (n*5)=xs):w.ownsRow lo t 5 (.slice (some ⟨b,0,none⟩) n c) n xs :=
 ⟨by rw[<- h4,Qo,h3];omega,.inr ⟨b,c,C.toArray,rfl,hb,hg,h1,h2,by simpa using h3,by simpa using h4⟩⟩
theorem Zbd {w:Qal} {lo n c:Nat} {b:Nat} {t:Qap} {ps:List Iv} (h:w.ownsRow lo t 5 (.slice (some ⟨b,0,none⟩) n c) n (Zj ps)) (k:Nat):∀ j v,(Zj (ps.drop k))[j]? = some v->w.cell? ((⟨b,k*5,none⟩:Qan).add j)=some v:=fun j v hj=>by
 rw[Zjo,Pm] at hj;have:=h.cells (g:=b) rfl _ _ hj;rw[Zah] at this ⊢
 rwa [Qv] at this
theorem Zb1 {ps:List Iv} {n:Nat} {w:Qal} {lo:Nat} {t:Qap} {v:Qam} (h:w.ownsRow lo t 5 v n (Zj ps)):ps.length=n:=by
 have:=h.1;rw[Y0] at this;omega
def Zbs (t:List UInt8):Bool:=decide (t.length=256)&&(t.take 8).all (· == 0)
def Z3x (t:List UInt8):Int:=if Zbs t then 0 else 8
theorem Zje {t:List UInt8} (h:Zbs t=true):Z3x t=0:=by simp[Z3x,h]
theorem Zh4 {t:List UInt8} (h:Zbs t=false):Z3x t=8:=by simp[Z3x,h]
theorem Yx {t:List UInt8} (h:Zbs t=true):t.length=256:=by
 simp only[Zbs,Qg,decide_eq_true_eq] at h;exact h.1
theorem Zvi {t:List UInt8} (h:t.length≠256):Zbs t=false:=by simp[Zbs,h]
theorem Zht {t:List UInt8} (h:t.length=256) (ha:∀ j,j<8->t[j]?.getD 0=0):Zbs t=true:=by
 simp only[Zbs,Qg,decide_eq_true_eq,Qk];refine⟨h,fun x hx => ?_⟩;obtain⟨j,hj,rfl⟩:=Pn.1 hx;have hj8:j<8:=by simp at hj;omega
 have:=ha j hj8;rw[Qe (by omega)] at this
 simpa using this
theorem Zmr {t:List UInt8} (h:Zbs t=true) {j:Nat} (hj:j<8):t[j]?.getD 0=0:=by
 have hl:=Yx h;simp only[Zbs,Qg,Qk] at h;have:=h.2 (t[j]'(by omega)) (Pn.2 ⟨j,by simp;omega,by simp⟩);rw[Qe (by omega)]
 simpa using this
theorem Z8g {t:List UInt8} {k:Nat} (hk:k<8) (h:t[k]?.getD 0≠0):Zbs t=false:=by
 cases hm:Zbs t with
 | false=>rfl
 | true=>exact absurd (Zmr hm hk) h
theorem Z62 {x:UInt8} (h:¬ (x.toNat:Int)=0):x≠0:=fun e=>h (by rw[e];rfl)
theorem Z72 {x:UInt8} (h:(x.toNat:Int)=0):x=0:=UInt8.toNat.inj (by simpa using h)
theorem Zr2 {b:List UInt8} {k:Nat} (ha:∀ j,j<k->b[j]?.getD 0=0) (h:b[k]?.getD 0=0):∀ j,j<k+1->b[j]?.getD 0=0:=fun j hj=>by
 rcases Qs j k with h1 | h1
 ·exact ha j h1
 ·obtain rfl:j=k:=by omega
 exact h
theorem Zay (A:Option Qan) (n c:Nat) (t:List UInt8) (hn:Hid (t.length=n)) (l1:n<=c) (m1:c<=9223372036854775807) (w:Qal) (h:Byt w w.heap.size A t) :
 Qas Tryz.prog 122 #[.slice A n c] w fun e w'=>e=.returned (.int .i64 (Z3x t))/\w=w':=by
 have HY:=Za h;clear h;by_cases h256:n=256
 ·obtain⟨ad,rfl,_,hc⟩:=HY.out (by rw[hn.out];omega)
 subst h256;replace hc:=Za hc
 go_enter Tryz.func122,Tryz.ntmps122
 go_wp2_with fail
 go_loop [11] (fun i=>∃ k:Nat,k<=8/\i=.int .i64 k/\∀ j,j<k->t[j]?.getD 0=0) (fun i=>8-(intOf i).toNat)
 case atStart=>exact⟨0,by omega,rfl,fun j hj=>by omega⟩
 case round =>
 obtain⟨k,hk,rfl,ha⟩:=hrel;replace ha:=Za ha;by_cases hlt:k<8
 ·have hcell:=hc.out k (by rw[hn.out];omega)
 have hyes:=Za (fun h=>Z8g (t:=t) hlt h);have hno:=Za (fun h=>Zr2 (b:=t) (k:=k) ha.out h);obtain⟨x,hx⟩:∃ x,t[k]?.getD 0=x:=⟨_,rfl⟩
 rw[hx] at hcell hyes hno;replace hx:=Za hx;by_cases h0:(x.toNat:Int)=0
 ·have t0:((x.toNat:Int) != 0)=false:=by simpa using h0
 have hall:=Za (hno.out (Z72 h0));replace h0:=Za h0
 go_wp2_with fail
 go_round
 case rel=>exact⟨k+1,by omega,by go_num,hall.out⟩
 case measure=>simp[intOf];omega
 ·have t0:((x.toNat:Int) != 0)=true:=by simpa using h0
 have hr:=Za (Zh4 (hyes.out (Z62 h0)));replace h0:=Za h0
 go_wp2_with fail
 go_ret;exact⟨Z1 hr.out.symm,rfl⟩
 ·have hr:=Za (Zje (Zht (t:=t) hn.out fun j hj=>ha.out j (by omega)))
 go_wp2_with fail
 go_ret;exact⟨Z1 hr.out.symm,rfl⟩
 ·have hr:=Za (Zh4 (Zvi (t:=t) (by rw[hn.out];exact h256)))
 have i1:((n:Int) != 256)=true:=by simp;omega
 go_enter Tryz.func122,Tryz.ntmps122
 go_wp2_with fail
 go_ret;exact⟨Z1 hr.out.symm,rfl⟩
def inT (n:Int):Bool:=decide (8<=n)&&decide (n<256)
theorem Znj {n:Int} (h:inT n=true):∃ k:Nat,n=k/\8<=k/\k<256:=by
 simp only[inT,Qg,decide_eq_true_eq] at h;exact⟨n.toNat,by omega,by omega,by omega⟩
theorem Zol {k:Nat} (h:8<=k) (h':k<256):inT (k:Int)=true:=by
 simp only[inT,Qg,decide_eq_true_eq];omega
theorem Zxw {n:Int} (h:inT n=false):n<8\/256<=n:=by
 simp only[inT,Bool.and_eq_false_iff,decide_eq_false_iff_not] at h;omega
theorem Vl {x y:UInt8} {q:Int} (hy:(y.toNat:Int)=q) (h:x=y):((x.toNat:Int)==q)=true:=by subst h;simpa using hy
theorem Xt {x y:UInt8} {q:Int} (hy:(y.toNat:Int)=q) (h:x≠y):((x.toNat:Int)==q)=false:=by
 cases he:(x.toNat:Int)==q with
 | false=>rfl
 | true=>exact absurd (UInt8.toNat.inj (by have:=beq_iff_eq.1 he;omega)) h
theorem Z8q (a:Int):(a<8/\inT a=false)\/(8<=a/\a<256/\inT a=true)\/(8<=a/\256<=a/\inT a=false):=by{
cases h:inT a with
| true =>
obtain⟨k,rfl,h1,h2⟩:=Znj h;exact .inr (.inl ⟨by omega,by omega,rfl⟩)
| false =>
rcases Zxw h with h1 | h1
·exact .inl ⟨h1,rfl⟩
·exact .inr (.inr ⟨by omega,h1,rfl⟩)}
abbrev Rm:=Dk×List UInt8×List UInt8
def Zi:Rm:=(Zc5,[],[])
def Xl (s:Rm):Bool:=Zbw s.1&&Zbs s.2.1&&Zbs s.2.2
def Z44 (s:Rm):Int:=if Xl s then 0 else 8
theorem Yf {s:Rm} (h:Xl s=true):Zbw s.1=true/\Zbs s.2.1=true/\Zbs s.2.2=true:=by
 unfold Xl at h;simp only[Qg] at h;exact⟨h.1.1,h.1.2,h.2⟩
theorem Zc0 {s:Rm} (h:Xl s=true):Z44 s=0:=by simp[Z44,h]
theorem Zec {s:Rm} (h:Xl s=false):Z44 s=8:=by simp[Z44,h]
def Zad (s:Rm) (i:Nat):Bool:=decide (s.2.1[i]?.getD 0=0)&&decide (s.2.2[i]?.getD 0=0)
def Zby (s:Rm) (k:Nat):List Nat:=(List.range' 8 k).filter (Zad s)
def Xv (s:Rm):List Nat:=Zby s 248
def tkE (s:Rm) (b:List UInt8):Int:=if Xl s then (if b.length=128 then (if (Xv s).isEmpty||decide (4096<=s.1.2.length) then 9 else 0) else 3) else 8
def tkK (s:Rm):Nat:=(Xv s)[0]?.getD 0
def tkN (s:Rm) (b:List UInt8):Int:=if tkE s b=0 then (tkK s:Int) else 0
def tkV (s:Rm) (b:List UInt8):Rm:=if tkE s b=0 then (wrD s.1 (tkK s) b,s.2.1.set (tkK s) 1,s.2.2) else Zi
def asE (s:Rm) (n:Int):Int:=if Xl s then (if inT n then (if s.2.1[n.toNat]?.getD 0=0 then 6 else 0) else 2) else 8
theorem Ziu (s:Rm) (n:Int):(Xl s=false/\asE s n=8)\/(Xl s=true/\(n<8\/256<=n)/\asE s n=2)\/(∃ k:Nat,Xl s=true/\n=k/\8<=k/\k<256/\s.2.1[k]?.getD 0=0/\asE s n=6) \/
 (∃ k:Nat,Xl s=true/\n=k/\8<=k/\k<256/\s.2.1[k]?.getD 0≠0/\asE s n=0):=by
 cases hm:Xl s with
 | false=>exact .inl ⟨rfl,by simp[asE,hm]⟩
 | true =>
 cases hi:inT n with
 | false=>exact .inr (.inl ⟨rfl,Zxw hi,by simp[asE,hm,hi]⟩)
 | true =>
 obtain⟨k,rfl,h8,h256⟩:=Znj hi;by_cases hx:s.2.1[k]?.getD 0=0
 ·exact .inr (.inr (.inl ⟨k,rfl,rfl,h8,h256,hx,by simp[asE,hm,hi,hx]⟩))
 ·exact .inr (.inr (.inr ⟨k,rfl,rfl,h8,h256,hx,by simp[asE,hm,hi,hx]⟩))
end Go.Proofs.YtgmbjnajdfgenaaGreat
set_option maxRecDepth 100000
set_option maxHeartbeats 16000000
set_option maxRecDepth 100000
set_option maxHeartbeats 16000000
set_option maxRecDepth 100000
set_option maxHeartbeats 16000000
open Array renaming getElem?_eq_some_iff → Qt, replicate_succ → Q5, replicate_zero → Q6, getElem?_modify → Py
open Bool renaming and_eq_true → Qd, or_eq_true → Qag
open Go renaming Q1 → Qax, Q2 → Qay, P2 → Qaz, Qbk → Qa0, Pl → Qa1, P0 → Qa2, Qbn → Qa3, Qbo → Qa4
open Go.Act renaming put → Qh
open Go.RowKit renaming Qbp → Qa5
open Go.RowKit.Below renaming refl → Qb, heap_alloc → Pv
open Go.World renaming cell? → Qo, size_alloc → Qr, frozen? → Pw, setCell → Px, cell?_of_block → Qas
open List renaming getElem?_eq_getElem → Qc, mem_cons → Qe, mem_cons_of_mem → Qf, mem_cons_self → Qg, getElem?_eq_some_iff → Qi, mem_flatMap → Qj, mem_filter → Qk, mem_singleton → Ql, getElem?_of_mem → Qm, cons_append → Qn, length_cons → Qp, mem_append → Qq, mem_of_getElem? → Qs, pairwise_cons → Qu, flatMap_cons → Qv, all_eq_true → Qw, take_append_drop → Qx, size_toArray → Qz, length_nil → Q0, push_toArray → Q7, append_toArray → Q8, nil_append → Q9, length_set → Pa, getElem?_drop → Pb, mem_reverse → Pd, mem_map → Pe, mem_append_right → Pf, map_cons → Pg, pairwise_append → Ph, take_append_getElem → Pi, mem_of_mem_take → Pj, getElem?_eq_none → Pk, mem_of_find?_eq_some → Pm, mem_of_getLast? → Pn, length_take → Pp, filter_eq_self → Pq, mem_append_left → Pr, exists_cons_of_ne_nil → Ps, flatMap_append → Pt, length_drop → Pu, length_append → Pz, filter_congr → P1, getLast?_eq_some_getLast → P3, Pairwise → P4, mem_of_mem_drop → P5, length_map → P7, sum_cons → P8, take_succ_cons → P9, take_zero → Qaa, drop_succ_cons → Qab, drop_zero → Qac, find?_append → Qad, find?_cons → Qae, ext_getElem → Qaf, filter_append → Qah, filter_eq_nil_iff → Qai, mem_iff_getElem? → Qaj, reverse_append → Qak, take_of_length_le → Qal, eq_nil_of_length_eq_zero → Qam, nodup_cons → Qan, filter_cons_of_pos → Qao, filter_filter → Qap, drop_eq_getElem_cons → Qaq, append_nil → Qar, ext_getElem? → Qat, getElem?_map → Qau, map_append → Qav, map_nil → Qaw
open Nat renaming le_refl → Qa, lt_of_lt_of_le → Qy, reduceAdd → Q3, reduceSub → Q4, le_trans → Pc, lt_or_ge → Po
noncomputable section
open Go renaming Qbl → Pl, Qbm → P0
noncomputable section
namespace Go.Proofs.YtgmbjnajdfgenaaGreat
open Go.ChangeShapes Go.WideShapes Go.RowKit
def Sto (ok:Qaz->Prop) (w:Qax) (v:Qay) (s:Rm):Prop:=∃ a b n l,v=.agg #[a,b,n,l]/\Dsk ok w (.agg #[a,b]) s.1/\rBy ok w [n] s.2.1/\rBy ok w [l] s.2.2
section
variable {ok ok' : Qaz -> Prop} {w w' : Qax} {v : Qay} {s : Rm} {lo lo' : Nat}
theorem Sto.map (hk:∀ p v,ok p->w.cell? p=some v->ok' p/\w'.cell? p=some v) (h:Sto ok w v s):Sto ok' w' v s:=by
 obtain⟨a,b,n,l,e,h1,h2,h3⟩:=h;exact⟨a,b,n,l,e,h1.map hk,Zf _ _ _ _ _ _ hk h2,Zf _ _ _ _ _ _ hk h3⟩
theorem Sto.drop (h:Sto (New lo w) w v s):Sto (Old w) w v s:=h.map fun _ _ hp hc=>⟨hp.2.1,hc⟩
theorem Sto.open (h:Sto ok w v s):∃ A ca B cb N cn L cl,v=.agg #[.slice A s.1.1.length ca,.slice B s.1.2.length cb,.slice N s.2.1.length cn,.slice L s.2.2.length cl]/\Dsk ok w (.agg #[.slice A s.1.1.length ca,.slice B s.1.2.length cb]) s.1 /\
 rBy ok w [.slice N s.2.1.length cn] s.2.1/\rBy ok w [.slice L s.2.2.length cl] s.2.2:=by
 obtain⟨a,b,n,l,rfl,h1,h2,h3⟩:=h;obtain⟨A,ca,B,cb,e,_⟩:=h1.open;cases e;obtain⟨N,cn,rfl,_⟩:=Zt h2;obtain⟨L,cl,rfl,_⟩:=Zt h3;exact⟨A,ca,B,cb,N,cn,L,cl,rfl,h1,h2,h3⟩
theorem Sto.mk {a b n l:Qay} (h1:Dsk ok w (.agg #[a,b]) s.1) (h2:rBy ok w [n] s.2.1) (h3:rBy ok w [l] s.2.2):Sto ok w (.agg #[a,b,n,l]) s:=⟨a,b,n,l,rfl,h1,h2,h3⟩
end
theorem X5 (w:Qax) (a b c d:Qay) (t:Qa0):∃ w1,w.alloc (.cells #[a,b,c,d] t)=w1/\w1.heap[w.heap.size]? = some (.cells #[a,b,c,d] t (0,0))/\w1.heap.size=w.heap.size+1/\Qa5 w.heap.size w w1 :=
 ⟨_,rfl,Qa2 _ _,by simp,(Qb _ _).alloc (Qa _) _⟩
theorem Ze {W:Qax} {g:Nat} {a b c d:Qay} {t:Qa0} (h:W.heap[g]? = some (.cells #[a,b,c,d] t (0,0))):W.cell? ⟨g,0,none⟩=some a/\W.cell? ⟨g,1,none⟩=some b/\W.cell? ⟨g,2,none⟩=some c/\W.cell? ⟨g,3,none⟩=some d/\(∀ o,W.frozen? ⟨g,o,none⟩=false)/\g<W.heap.size :=
 ⟨by simp[Qo,h],by simp[Qo,h],by simp[Qo,h],by simp[Qo,h],fun o=>by simp[Pw,h],(Qt.1 h).1⟩
theorem Zu {W:Qax} {g:Nat} {a b c d a' b' c' d':Qay} {t:Qa0} (h:W.heap[g]? = some (.cells #[a,b,c,d] t (0,0))):∃ W1,(((W.setCell ⟨g,0,none⟩ a').setCell ⟨g,1,none⟩ b').setCell ⟨g,2,none⟩ c').setCell ⟨g,3,none⟩ d'=W1 /\
 W1.heap[g]? = some (.cells #[a',b',c',d'] t (0,0))/\W.grownBy W1 (some g)/\W1.heap.size=W.heap.size :=
 ⟨_,rfl,by simp[Px,Py,h],Yr (p:=⟨g,3,none⟩) (Yr (p:=⟨g,2,none⟩) (Yr (p:=⟨g,1,none⟩) (Yr (p:=⟨g,0,none⟩) (Xc W (some g)) rfl a') rfl b') rfl c') rfl d',by simp⟩
theorem Zjl (v:Qay) (t:List UInt8) (w:Qax) (h:rBy (Old w) w [v] t):Qa4 Tryz.prog 122 #[v] w fun e w'=>e=.returned (.int .i64 (Z3x t))/\w=w':=by
 obtain⟨A,c,rfl,l1,m1,hb⟩:=Ve (B:=w.heap.size) (fun _ h=>h) h;exact Zay A t.length c t (Za rfl) l1 m1 w hb
theorem Zl5 {w:Qax} {v:Qay} {s:Rm} (h:Sto (Old w) w v s):∃ A ca B cb N cn L cl w1,v=.agg #[.slice A s.1.1.length ca,.slice B s.1.2.length cb,.slice N s.2.1.length cn,.slice L s.2.2.length cl] /\
 w.alloc (.cells #[.slice A s.1.1.length ca,.slice B s.1.2.length cb,.slice N s.2.1.length cn,.slice L s.2.2.length cl] 29)=w1/\w1.heap[w.heap.size]? = some (.cells #[.slice A s.1.1.length ca,.slice B s.1.2.length cb,.slice N s.2.1.length cn,.slice L s.2.2.length cl] 29 (0,0))/\w1.heap.size=w.heap.size+1/\Qa5 w.heap.size w w1 /\
 Hid (Dsk (Old w1) w1 (.agg #[.slice A s.1.1.length ca,.slice B s.1.2.length cb]) s.1)/\Hid (rBy (Old w1) w1 [.slice N s.2.1.length cn] s.2.1)/\Hid (rBy (Old w1) w1 [.slice L s.2.2.length cl] s.2.2):=by
 obtain⟨A,ca,B,cb,N,cn,L,cl,rfl,hd,hN,hL⟩:=h.open;obtain⟨w1,hw1,f,hs,hB⟩:=X5 w (.slice A s.1.1.length ca) (.slice B s.1.2.length cb) (.slice N s.2.1.length cn) (.slice L s.2.2.length cl) 29;exact⟨A,ca,B,cb,N,cn,L,cl,w1,rfl,hw1,f,hs,hB,Za (hd.below hB),Za (Zf.old hN hB),Za (Zf.old hL hB)⟩
theorem Xg (v:Qay) (s:Rm) (w:Qax) (h:Sto (Old w) w v s):Qa4 Tryz.prog 78 #[v] w fun e w'=>e=.returned (.int .i64 (Z44 s))/\Qa5 w.heap.size w w':=by{
obtain⟨A,ca,B,cb,N,cn,L,cl,w1,rfl,hw1,f,hsz,hB,D,NN,LL⟩:=Zl5 h;clear h;obtain⟨k0,k1,k2,k3,_,kg⟩:=Ze f;replace hsz:=Za hsz;cases h1:Zbw s.1 with
| false =>
have hr:Hid (Z44 s=8):=Za (Zec (by simp[Xl,h1]));have e1:=Zew h1
go_enter Tryz.func78,Tryz.ntmps78
go_upto_region 1 with fail
clear hw1
go_wp2_with fail
with_reducible refine(Zcb _ s.1 _ D.out).mono ?_;rintro e w2 ⟨rfl,hb2⟩;rw[e1]
go_wp2_with fail
go_ret;exact⟨Z1 hr.out.symm,hB.trans (hb2.mono hB.size)⟩
| true =>
have e1:=Zzi h1;cases h2:Zbs s.2.1 with
| false =>
 have hr:Hid (Z44 s=8):=Za (Zec (by simp[Xl,h2]));have e2:=Zh4 h2
 go_enter Tryz.func78,Tryz.ntmps78
 go_upto_region 1 with fail
 clear hw1
 go_wp2_with fail
 with_reducible refine(Zcb _ s.1 _ D.out).mono ?_;rintro e w2 ⟨rfl,hb2⟩;rw[e1];replace k2:=(hb2.cell (p:=⟨w.heap.size,2,none⟩) kg).trans k2;have N2:=Za (Zf.old NN.out hb2);replace hb2:=Za (hB.trans (hb2.mono hB.size))
 go_wp2_with fail
 with_reducible refine(Zjl _ s.2.1 _ N2.out).mono ?_;rintro e w3 ⟨rfl,rfl⟩;rw[e2]
 go_wp2_with fail
 go_ret;exact⟨Z1 hr.out.symm,hb2.out⟩
| true =>
 have e2:=Zje h2;obtain⟨q,hq,hr⟩:∃ q,Z3x s.2.2=q/\Hid (Z44 s=q):=⟨_,rfl,Za (by simp[Z44,Z3x,Xl,h1,h2])⟩
 obtain⟨p,hp1,hp2⟩:∃ p,(q != 0)=p/\(p=true->q=8)/\(p=false->q=0):=⟨_,rfl,by
 rw[<- hq];unfold Z3x
 split <;> simp⟩
 go_enter Tryz.func78,Tryz.ntmps78
 go_upto_region 1 with fail
 clear hw1
 go_wp2_with fail
 with_reducible refine(Zcb _ s.1 _ D.out).mono ?_;rintro e w2 ⟨rfl,hb2⟩;rw[e1];replace k2:=(hb2.cell (p:=⟨w.heap.size,2,none⟩) kg).trans k2;replace k3:=(hb2.cell (p:=⟨w.heap.size,3,none⟩) kg).trans k3;have N2:=Za (Zf.old NN.out hb2);have L2:=Za (Zf.old LL.out hb2);replace hb2:=Za (hB.trans (hb2.mono hB.size))
 go_wp2_with fail
 with_reducible refine(Zjl _ s.2.1 _ N2.out).mono ?_;rintro e w3 ⟨rfl,rfl⟩;rw[e2]
 go_wp2_with fail
 with_reducible refine(Zjl _ s.2.2 _ L2.out).mono ?_;rintro e w3 ⟨rfl,rfl⟩;rw[hq];replace hq:=Za hq;cases p with
 | true =>
 have h8:=Za (hp2.1 rfl);clear hp2
 go_wp2_with fail
 go_ret;exact⟨Z1 (by rw[hr.out,h8.out]),hb2.out⟩
 | false =>
 have h0:=Za (hp2.2 rfl);clear hp2
 go_wp2_with fail
 go_ret;exact⟨Z1 (by rw[hr.out,h0.out]),hb2.out⟩}
theorem Zhj (n:Int) (w:Qax):Qa4 Tryz.prog 110 #[.int .i64 n] w fun e w'=>e=.returned (.bool (inT n))/\w=w':=by{
rcases Z8q n with ⟨h,hr⟩ | ⟨h,h2,hr⟩ | ⟨h,h2,hr⟩
all_goals
replace hr:=Za hr
go_enter Tryz.func110,Tryz.ntmps110
go_wp2_with fail
go_ret;exact⟨Ym (by first | exact hr.out.symm | (rw[hr.out];simp;omega)),rfl⟩}
theorem Uh (v:Qay) (s:Rm) (n:Int) (w:Qax) (h:Sto (Old w) w v s):Qa4 Tryz.prog 66 #[v,.int .i64 n] w fun e w'=>e=.returned (.int .i64 (asE s n))/\Qa5 w.heap.size w w':=by{
have H0:=Za h;obtain⟨A,ca,B,cb,N,cn,L,cl,w1,rfl,hw1,f,hsz,hB,_,NN,_⟩:=Zl5 h;have H:=Za (h.below hB);clear h H0;obtain⟨k0,k1,k2,k3,_,kg⟩:=Ze f;replace hsz:=Za hsz;rcases Ziu s n with ⟨hm,he⟩ | ⟨hm,hn,he⟩ | ⟨k,hm,rfl,h8,h256,hx,he⟩ | ⟨k,hm,rfl,h8,h256,hx,he⟩
·replace he:=Za he
have e1:=Zec hm
go_enter Tryz.func66,Tryz.ntmps66
go_upto_region 1 with fail
clear hw1
go_wp2_with fail
with_reducible refine(Xg _ s _ H.out).mono ?_;rintro e w2 ⟨rfl,hb2⟩;rw[e1];replace hb2:=Za (hB.trans (hb2.mono hB.size))
go_wp2_with fail
go_ret;exact⟨Z1 he.out.symm,hb2.out⟩
·replace he:=Za he
have e1:=Zc0 hm;have hi:inT n=false:=by
 cases hi:inT n with
 | false=>rfl
 | true=>obtain⟨k,rfl,h8,h256⟩:=Znj hi;omega
go_enter Tryz.func66,Tryz.ntmps66
go_upto_region 1 with fail
clear hw1
go_wp2_with fail
with_reducible refine(Xg _ s _ H.out).mono ?_;rintro e w2 ⟨rfl,hb2⟩;rw[e1];replace hb2:=Za (hB.trans (hb2.mono hB.size))
go_wp2_with fail
with_reducible refine(Zhj n _).mono ?_;rintro e w3 ⟨rfl,rfl⟩;rw[hi]
go_wp2_with fail
go_ret;exact⟨Z1 he.out.symm,hb2.out⟩
all_goals
replace he:=Za he;have e1:=Zc0 hm;have hi:=Zol h8 h256;have hlen:=Yx (Yf hm).2.1;obtain⟨A',c',e2,l1,m1,hby⟩:=Ve (B:=w1.heap.size) (fun _ h=>h) NN.out;cases e2;obtain⟨ad,rfl,hbk,hc⟩:=hby (by omega)
have hcell:=hc k (by omega);replace hbk:(ad.add k).block<w1.heap.size:=by rw[Zh];exact hbk
obtain⟨x,hx2⟩:∃ x,s.2.1[k]?.getD 0=x:=⟨_,rfl⟩
rw[hx2] at hcell hx;have hlt:k<s.2.1.length:=by omega
first
 | have t0:=Vl (y:=0) (q:=0) rfl hx
 | have t0:=Xt (y:=0) (q:=0) rfl hx
replace hx2:=Za hx2;replace hx:=Za hx;replace hlen:=Za hlen;clear hc hby
go_enter Tryz.func66,Tryz.ntmps66
go_upto_region 1 with fail
clear hw1
go_wp2_with fail
with_reducible refine(Xg _ s _ H.out).mono ?_;rintro e w2 ⟨rfl,hb2⟩;rw[e1];replace k2:=(hb2.cell (p:=⟨w.heap.size,2,none⟩) kg).trans k2;replace hcell:=(hb2.cell hbk).trans hcell;replace hb2:=Za (hB.trans (hb2.mono hB.size))
go_wp2_with fail
with_reducible refine(Zhj (k:Int) _).mono ?_;rintro e w3 ⟨rfl,rfl⟩;rw[hi]
go_wp2_with fail
go_ret;exact⟨Z1 he.out.symm,hb2.out⟩}
end Go.Proofs.YtgmbjnajdfgenaaGreat
namespace Go.Proofs.YtgmbjnajdfgenaaGreat
open Go.RowKit Go.Shelf
attribute [local go_sem] Oper.semAt_some
def rmE (s:Rm) (n:Int):Int:=if asE s n=0 then reN (Zz s.1 n.toNat) else asE s n
def rmV (s:Rm) (n:Int):Nd:=if asE s n=0 then reV (Zz s.1 n.toNat) else Ug
theorem Z1s {s:Rm} {n:Int} (h:asE s n≠0):rmE s n=asE s n/\rmV s n=Ug:=⟨by rw[rmE,if_neg h],by rw[rmV,if_neg h]⟩
theorem Y5 {s:Rm} {n:Int} (h:asE s n=0):∃ k:Nat,n=k/\Xl s=true/\8<=k/\k<256/\Uu s.1 n=0/\rdX s.1 n=Zz s.1 k/\rmE s n=reN (Zz s.1 k)/\rmV s n=reV (Zz s.1 k)/\s.2.1[k]?.getD 0≠0:=by{
rcases Ziu s n with ⟨_,e⟩ | ⟨_,_,e⟩ | ⟨k,_,_,_,_,_,e⟩ | ⟨k,hm,rfl,h8,h256,hx,e⟩
·rw[e] at h;cases h
·rw[e] at h;cases h
·rw[e] at h;cases h
·have hmd:=(Yf hm).1
have ht:=Zfg h256;exact⟨k,rfl,hm,h8,h256,by simp[Uu,hmd,ht],by simp[rdX,Uu,hmd,ht],by rw[rmE,if_pos h];rfl,by rw[rmV,if_pos h];rfl,hx⟩}
def Zbm:Ky:=(0,0,0)
def Yw (s:Rm) (l:List It):Bool:=l.all fun x=>decide (x.2.1=0)||decide (s.2.1[x.2.1.toNat]?.getD 0≠0)
def Zae (f:Int->Ky->Ky->Bool->Bool):List It->Ky->Bool->Bool
 | [],_,_=>true
 | [x],tb,ends=>f x.2.1 x.1 tb ends
 | x::y::r,tb,ends=>f x.2.1 x.1 y.1 true&&Zae f (y::r) tb ends
def Zex (l:List It) (k tb:Ky) (ends:Bool):Bool:=(match l[0]? with | none=>false | some x=>decide (x.1=k))&&(!ends||(match l.getLast? with | none=>false | some y=>Zo y.1 tb))
def Zx (s:Rm):Nat->Int->Ky->Ky->Bool->Bool
 | 0,a,k,tb,ends=>(decide (rmE s a=0)&&decide ((rmV s a).1=0))&&(Zex (rmV s a).2 k tb ends&&Yw s (rmV s a).2)
 | l+1,a,k,tb,ends=>(decide (rmE s a=0)&&decide ((rmV s a).1=((l+1:Nat):Int)))&&(Zex (rmV s a).2 k tb ends&&Zae (Zx s l) (rmV s a).2 tb ends)
def Uk (s:Rm) (n:Nd) (tb:Ky) (ends:Bool):Bool:=match n.1.toNat with
 | 0=>Yw s n.2
 | l+1=>Zae (Zx s l) n.2 tb ends
def Ys (s:Rm) (a:Int):Bool:=decide (rmE s a=0)&&Uk s (rmV s a) Zbm false
def ckE (s:Rm) (a:Int):Int:=if asE s a=0 then (if Ys s a then 0 else 8) else asE s a
def ckH (s:Rm) (a:Int):Int:=if ckE s a=0 then (rmV s a).1+1 else 0
def X7 (s:Rm):Nat->Int->List It
 | 0,a=>(rmV s a).2
 | l+1,a=>(rmV s a).2.flatMap fun x=>X7 s l x.2.1
def Zc7 (s:Rm):Nat->Int->Ky->Option It
 | 0,a,k=>(rmV s a).2.reverse.find? fun x=>decide (x.1=k)
 | l+1,a,k=>((rmV s a).2.reverse.find? fun x => !Zo k x.1).bind fun x=>Zc7 s l x.2.1 k
def Zbl (s:Rm) (a:Int):List It:=X7 s (rmV s a).1.toNat a
def Zga (s:Rm) (a:Int) (k:Ky):Option It:=Zc7 s (rmV s a).1.toNat a k
def Up (l:List It):Prop:=l.Pairwise fun x y=>Zo x.1 y.1=true
theorem Ya {s:Rm} {a:Int} (h:rmE s a=0):Yd (rmV s a)=true/\asE s a=0:=by{
by_cases ha:asE s a=0
·obtain⟨k,_,_,_,_,_,_,hE,hV,_⟩:=Y5 ha
rw[hE] at h;rw[hV];exact⟨(Zfx h).1,ha⟩
·rw[(Z1s ha).1] at h
exact absurd h ha}
theorem Z9 {s:Rm} {l:Nat} {a:Int} {k tb:Ky} {ends:Bool} (h:Zx s l a k tb ends=true):rmE s a=0/\(rmV s a).1=l/\Zex (rmV s a).2 k tb ends=true/\(match l with | 0=>Yw s (rmV s a).2 | l'+1=>Zae (Zx s l') (rmV s a).2 tb ends)=true:=by{
cases l with
| zero =>
simp only[Zx,Qd,decide_eq_true_eq] at h;exact⟨h.1.1,h.1.2,h.2.1,h.2.2⟩
| succ l =>
simp only[Zx,Qd,decide_eq_true_eq] at h;exact⟨h.1.1,h.1.2,h.2.1,h.2.2⟩}
theorem Y4 {s:Rm} {a:Int} (h:Ys s a=true):rmE s a=0/\asE s a=0/\Yd (rmV s a)=true/\0<=(rmV s a).1/\(rmV s a).1<6/\Uk s (rmV s a) Zbm false=true:=by
 simp only[Ys,Qd,decide_eq_true_eq] at h;obtain⟨hm,ha⟩:=Ya h.1;exact⟨h.1,ha,hm,(Zw hm).1.1,(Zw hm).1.2.1,h.2⟩
def nxO (r:List It) (tb:Ky):Ky:=match r with | []=>tb | y::_=>y.1
def bxO (r:List It) (ends:Bool):Bool:=match r with | []=>ends | _::_=>true
theorem Xx (f:Int->Ky->Ky->Bool->Bool) (x:It) (r:List It) (tb:Ky) (ends:Bool):Zae f (x::r) tb ends=(f x.2.1 x.1 (nxO r tb) (bxO r ends)&&Zae f r tb ends):=by
 cases r with
 | nil=>simp[Zae,nxO,bxO]
 | cons y r=>rfl
def Xf:List It->Nat->Nat
 | [],_=>0
 | x::l,i=>(if x.2.1=(i:Int) then (if x.2.1=0 then 0 else 1) else 0)+Xf l i
def Zba (l:List It):Prop:=∀ x∈l,x.2.1=0\/(8<=x.2.1/\x.2.1<256)
theorem Vz {n:Nd} (h:Yd n=true):Zba n.2:=fun x hx=>by
 obtain⟨i,hi⟩:=Qm hx;have hk:=(Qi.1 hi).1;simp only[Yd,Qd,Qw] at h;have h1:=h.2 i (by simpa using hk);simp only[Zkh,hi,okP,Qd] at h1;exact(Zaj h1.1.1).1
def ctE:List UInt8->List It->Int
 | _,[]=>0
 | t,x::l=>if x.2.1=0 then ctE t l else if t[x.2.1.toNat]?.getD 0=0 then 6 else if t[x.2.1.toNat]?.getD 0=255 then 70 else ctE (t.set x.2.1.toNat (t[x.2.1.toNat]?.getD 0+1)) l
def ctV:List UInt8->List It->List UInt8
 | t,[]=>t
 | t,x::l=>if x.2.1=0 then ctV t l else ctV (t.set x.2.1.toNat (t[x.2.1.toNat]?.getD 0+1)) l
def ctS (s:Rm) (n:Nd):Rm:=(s.1,ctV s.2.1 n.2,s.2.2)
def mkE (s:Rm) (n:Nd):Int:=if Xl s&&Yd n then (if ctE s.2.1 n.2=0 then tkE (ctS s n) (Vd n) else ctE s.2.1 n.2) else 8
def mkN (s:Rm) (n:Nd):Int:=if mkE s n=0 then tkN (ctS s n) (Vd n) else 0
def mkV (s:Rm) (n:Nd):Rm:=if mkE s n=0 then tkV (ctS s n) (Vd n) else Zi
def dnO (t:List UInt8) (a:Nat):Option (List UInt8):=if t[a]?.getD 0=0 then none else some (t.set a (t[a]?.getD 0-1))
def Vc (f:List UInt8->Nat->Option (List UInt8)):List UInt8->List It->Option (List UInt8)
 | t,[]=>some t
 | t,x::l=>if x.2.1=0 then Vc f t l else (f t x.2.1.toNat).bind fun t'=>Vc f t' l
def lvS (d:Dk) (l:Nat) (f:List UInt8->Nat->Option (List UInt8)) (t:List UInt8) (a:Nat):Option (List UInt8) :=
 (dnO t a).bind fun t'=>if 1<(t[a]?.getD 0).toNat then some t' else if reN (Zz d a)=0/\(reV (Zz d a)).1=(l:Int) then Vc f t' (reV (Zz d a)).2 else none
def lvF (d:Dk):Nat->List UInt8->Nat->Option (List UInt8)
 | 0=>dnO
 | l+1=>lvS d l (lvF d l)
def lfO (d:Dk) (t:List UInt8) (a:Nat):Option (List UInt8) :=
 (dnO t a).bind fun t'=>if 1<(t[a]?.getD 0).toNat then some t' else if reN (Zz d a)=0 then Vc (lvF d (reV (Zz d a)).1.toNat) t' (reV (Zz d a)).2 else none
def loV (s:Rm) (n:Int):Rm:=if asE s n=0 then (s.1,s.2.1.set n.toNat (s.2.1[n.toNat]?.getD 0-1),s.2.2) else Zi
structure Xw (s t:Rm):Prop where
 may:Xl t=true
 held:∀ k:Nat,s.2.1[k]?.getD 0≠0->t.2.1[k]?.getD 0≠0
 seen:∀ k:Nat,s.2.1[k]?.getD 0≠0->Zz t.1 k=Zz s.1 k
theorem Xm {f:Int->Ky->Ky->Bool->Bool}:∀ {l:List It} {tb:Ky} {e:Bool},Zae f l tb e=true->∀ x∈l,∃ t e,f x.2.1 x.1 t e=true
 | [],_,_,_,x,hx=>by simp at hx
 | y::r,tb,e,hf,x,hx=>by
 rw[Xx,Qd] at hf;rcases Qe.1 hx with rfl | hx
 ·exact⟨_,_,hf.1⟩
 ·exact Xm hf.2 x hx
def Y9 (g:Int->Option (Ky×Ky)):List It->Option (Ky×Ky)
 | []=>none
 | [x]=>(g x.2.1).bind fun p=>if p.1=x.1 then some p else none
 | x::y::r=>(g x.2.1).bind fun p=>(Y9 g (y::r)).bind fun q=>if p.1=x.1/\Zo p.2 y.1=true then some (p.1,q.2) else none
def Zbi (s:Rm):Nat->Int->Option (Ky×Ky)
 | 0,a=>if rmE s a=0/\(rmV s a).1=0/\Yw s (rmV s a).2=true then ((rmV s a).2[0]?).bind fun x=>((rmV s a).2.getLast?).map fun y=>(x.1,y.1) else none
 | l+1,a=>if rmE s a=0/\(rmV s a).1=((l+1:Nat):Int) then Y9 (Zbi s l) (rmV s a).2 else none
def Zcs (s:Rm) (n:Nd):Option (Ky×Ky):=match n.1.toNat with
 | 0=>if Yw s n.2=true then (n.2[0]?).bind fun x=>(n.2.getLast?).map fun y=>(x.1,y.1) else none
 | l+1=>Y9 (Zbi s l) n.2
def Z56 (f t:Ky) (x:It):Bool := !Zo x.1 f && !Zo t x.1
def Zhi (s:Rm) (a:Int) (f t:Ky):List It:=(Zbl s a).filter (Z56 f t)
def raV (s:Rm) (a:Int) (f t:Ky):List It:=if ckE s a=0 then Zhi s a f t else []
theorem Z4e {f t:Ky} {x:It}:Z56 f t x=true↔Zo x.1 f=false/\Zo t x.1=false:=by
 unfold Z56;simp
def ndD (d:Dk) (n:Int):Nd:=reV (Zz d n.toNat)
def Zcl (d:Dk):List Int->Nat->Nat
 | [],_=>0
 | n::r,k=>Xf (ndD d n).2 k+Zcl d r k
def Yy (t:List UInt8) (k:Nat):Nat:=(t[k]?.getD 0).toNat
theorem Zgg {d:Dk} {k:Nat} {n:Int}:∀ {N:List Int},n∈N->Xf (ndD d n).2 k<=Zcl d N k
 | m::r,h=>by
 unfold Zcl;rcases Qe.1 h with rfl | h
 ·omega
 ·have:=Zgg (k:=k) (d:=d) h
 omega
def Xd (n:Nd) (k:Ky):Nat:=if Yn n k=true then Z2 n k else Z2 n k-1
def Znt (l:List It):Ky:=match l with | []=>Zbm | x::_=>x.1
def upI (l:List It) (k:Int):It:=(Znt l,k,[])
def Zq (s:Rm) (lv:Int) (l:List It):Int×Rm×List It :=
 if l.length<=5 then
 if mkE s (lv,l)=0 then (0,mkV s (lv,l),[upI l (mkN s (lv,l))]) else (mkE s (lv,l),Zi,[])
 else if mkE s (lv,l.take 3)=0 then
 if mkE (mkV s (lv,l.take 3)) (lv,l.drop 3)=0 then (0,mkV (mkV s (lv,l.take 3)) (lv,l.drop 3),[upI (l.take 3) (mkN s (lv,l.take 3)),upI (l.drop 3) (mkN (mkV s (lv,l.take 3)) (lv,l.drop 3))])
 else (mkE (mkV s (lv,l.take 3)) (lv,l.drop 3),Zi,[])
 else (mkE s (lv,l.take 3),Zi,[])
def Vm (s:Rm) (a:Int):Rm:=(s.1,s.2.1.set a.toNat (s.2.1[a.toNat]?.getD 0-1),s.2.2)
def Zns (s:Rm) (l:List It):Rm:=l.foldl (fun u x=>Vm u x.2.1) s
def Zav (l:List It) (p many:Nat) (up:List It):List It:=l.take p++(up++l.drop (p+many))
def Zbk (n:Nd) (k:Ky):Int:=((n.2[Xd n k]?).map fun y=>y.2.1).getD 0
def Zn (x:It):Nat->Rm->Int->Int×Rm×List It
 | 0,s,a =>
 if (Zq s 0 (Zav (rmV s a).2 (Z2 (rmV s a) x.1) (if Yn (rmV s a) x.1=true then 1 else 0) [x])).1=0 then
 (0,(if x.2.1=0 then (Zq s 0 (Zav (rmV s a).2 (Z2 (rmV s a) x.1) (if Yn (rmV s a) x.1=true then 1 else 0) [x])).2.1 else Vm (Zq s 0 (Zav (rmV s a).2 (Z2 (rmV s a) x.1) (if Yn (rmV s a) x.1=true then 1 else 0) [x])).2.1 x.2.1),(Zq s 0 (Zav (rmV s a).2 (Z2 (rmV s a) x.1) (if Yn (rmV s a) x.1=true then 1 else 0) [x])).2.2)
 else ((Zq s 0 (Zav (rmV s a).2 (Z2 (rmV s a) x.1) (if Yn (rmV s a) x.1=true then 1 else 0) [x])).1,Zi,[])
 | l+1,s,a =>
 if (Zn x l s (Zbk (rmV s a) x.1)).1=0 then
 if (Zq (Zn x l s (Zbk (rmV s a) x.1)).2.1 ((l+1:Nat):Int) (Zav (rmV s a).2 (Xd (rmV s a) x.1) 1 (Zn x l s (Zbk (rmV s a) x.1)).2.2)).1=0 then
 (0,Zns (Zq (Zn x l s (Zbk (rmV s a) x.1)).2.1 ((l+1:Nat):Int) (Zav (rmV s a).2 (Xd (rmV s a) x.1) 1 (Zn x l s (Zbk (rmV s a) x.1)).2.2)).2.1 (Zn x l s (Zbk (rmV s a) x.1)).2.2,
 (Zq (Zn x l s (Zbk (rmV s a) x.1)).2.1 ((l+1:Nat):Int) (Zav (rmV s a).2 (Xd (rmV s a) x.1) 1 (Zn x l s (Zbk (rmV s a) x.1)).2.2)).2.2)
 else ((Zq (Zn x l s (Zbk (rmV s a) x.1)).2.1 ((l+1:Nat):Int) (Zav (rmV s a).2 (Xd (rmV s a) x.1) 1 (Zn x l s (Zbk (rmV s a) x.1)).2.2)).1,Zi,[])
 else ((Zn x l s (Zbk (rmV s a) x.1)).1,Zi,[])
def Zq9 (s:Rm):Nat->Int->Ky->Bool
 | 0,a,k=>decide (5<=(rmV s a).2.length) && !Yn (rmV s a) k
 | l+1,a,k=>decide (5<=(rmV s a).2.length)&&Zq9 s l (Zbk (rmV s a) k) k
def Zqy (s:Rm) (a:Int) (k:Ky):Bool:=decide ((rmV s a).1=5)&&Zq9 s 5 a k
def Vp (s:Rm) (lv:Int) (up:List It):Int×Rm×List It :=
 if 1<up.length then
 if (Zq s (lv+1) up).1=0 then (0,Zns (Zq s (lv+1) up).2.1 up,(Zq s (lv+1) up).2.2) else ((Zq s (lv+1) up).1,Zi,[])
 else (0,s,up)
def Zb3 (up:List It):Int:=match up with | []=>0 | z::_=>z.2.1
def Zl0 (s:Rm) (a:Int) (x:It):Int×Rm×Int :=
 if Zqy s a x.1 then (120,Zi,0)
 else if (Zn x (rmV s a).1.toNat s a).1=0 then
 if (Vp (Zn x (rmV s a).1.toNat s a).2.1 (rmV s a).1 (Zn x (rmV s a).1.toNat s a).2.2).1=0 then
 match lfO (Vp (Zn x (rmV s a).1.toNat s a).2.1 (rmV s a).1 (Zn x (rmV s a).1.toNat s a).2.2).2.1.1 (Vp (Zn x (rmV s a).1.toNat s a).2.1 (rmV s a).1 (Zn x (rmV s a).1.toNat s a).2.2).2.1.2.1 a.toNat with
 | none=>(8,Zi,0)
 | some v=>(0,((Vp (Zn x (rmV s a).1.toNat s a).2.1 (rmV s a).1 (Zn x (rmV s a).1.toNat s a).2.2).2.1.1,v,(Vp (Zn x (rmV s a).1.toNat s a).2.1 (rmV s a).1 (Zn x (rmV s a).1.toNat s a).2.2).2.1.2.2),Zb3 (Vp (Zn x (rmV s a).1.toNat s a).2.1 (rmV s a).1 (Zn x (rmV s a).1.toNat s a).2.2).2.2)
 else ((Vp (Zn x (rmV s a).1.toNat s a).2.1 (rmV s a).1 (Zn x (rmV s a).1.toNat s a).2.2).1,Zi,0)
 else ((Zn x (rmV s a).1.toNat s a).1,Zi,0)
def Zkl:Rm:=(Zbo,Zy 256,Zy 256)
end Go.Proofs.YtgmbjnajdfgenaaGreat
namespace Go.Proofs.YtgmbjnajdfgenaaGreat
open Go.RowKit Go.Shelf
attribute [local go_sem] Oper.semAt_some
def Off (g:Nat) (w:Qax):Qaz->Prop:=fun p=>p.block<w.heap.size/\p.block≠g
end Go.Proofs.YtgmbjnajdfgenaaGreat
namespace Go.Proofs.YtgmbjnajdfgenaaGreat
open Go.RowKit Go.Shelf Go.Maps
attribute [local go_sem] Oper.semAt_some
end Go.Proofs.YtgmbjnajdfgenaaGreat
namespace Go.Proofs.YtgmbjnajdfgenaaGreat
open Go.RowKit Go.Shelf Go.Maps
attribute [local go_sem] Oper.semAt_some
end Go.Proofs.YtgmbjnajdfgenaaGreat
set_option maxRecDepth 100000
set_option maxHeartbeats 16000000
set_option maxRecDepth 100000
set_option maxHeartbeats 16000000
open Array renaming getElem?_eq_some_iff → Qd, replicate_succ → Q4, replicate_zero → Q5
open Bool renaming and_eq_true → Pp
open Go renaming Q1 → Qah, Q2 → Qai, P2 → Qaj, Qbk → Qak, Pl → Qal, P0 → Qam, Qbn → Qan, Qbo → Qao, Ending → Qap
open Go.Act renaming put → Qs
open Go.Builtin renaming append_ → Qv
open Go.IntWalk renaming i64_in → Ps
open Go.RowKit renaming Qbp → Qaq
open Go.RowKit.Below renaming refl → Qc
open Go.World renaming cell?_of_block → Qg, size_alloc → Qw, putObj_heap_other → Qx, putObj_size → Pm, block_lt_of_cell? → P1, putObj_heap_same → P3, alloc_heap_new → P4, frozen?_of_block → P7, news_of_block → Qab
open List renaming map_append → Qe, getElem?_eq_getElem → Qf, length_append → Qh, filter_append → Qj, mem_singleton → Qk, getElem?_eq_some_iff → Ql, mem_cons → Qm, mem_append → Qn, length_cons → Qo, mem_flatMap → Qp, append_assoc → Qq, mem_map → Qr, getElem?_append_right → Qt, filter_cons_of_neg → Qu, size_toArray → Qy, length_nil → Qz, push_toArray → Q6, append_toArray → Q7, nil_append → Q8, cons_append → Q9, flatMap_cons → Pa, drop_eq_getElem_cons → Pb, length_take → Pc, pairwise_cons → Pd, mem_filter → Pe, length_map → Pf, getElem?_append_left → Pg, mem_of_getElem? → Ph, length_drop → Pj, drop_of_length_le → Pk, nodup_cons → Pn, Pairwise → Po, pairwise_append → Pq, filter_cons_of_pos → Pr, eq_nil_of_length_eq_zero → Pw, getElem_map → Px, reverse_append → Py, length_reverse → Pz, flatMap_append → P5, filter_congr → P8, append_nil → P9, countP_eq_length_filter → Qaa, take_of_length_le → Qac, IsPrefix → Qad, prefix_append_right_inj → Qae, length_filter_le → Qaf
open Nat renaming le_trans → Qa, le_refl → Qb, lt_of_lt_of_le → Qi, reduceAdd → Q0, reduceSub → Q3, lt_or_ge → Pi, le_of_lt → Pt, zero_add → Pu, min_eq_left → Pv, pow_le_pow_right → Qag
noncomputable section
namespace Go.Proofs.YtgmbjnajdfgenaaGreat
open Go.RowKit
structure Vs (M:Nat->Prop) (o o':Option Nat) (W W':Qah):Prop where
 size:W.heap.size<=W'.heap.size
 same:∀ k,k<W.heap.size->¬ M k->o≠some k->W'.heap[k]? = W.heap[k]? /\ o'≠some k
def Z5w {α:Type} (M:Nat->Prop) (J Jx:List α×Option Nat->Qah->Prop) (xs:List α) (o:Option Nat) (W:Qah):Qap->Qah->Prop:=fun e W' =>
 ∃ o',Vs M o o' W W'/\((e=.returned (.bool true)/\J (xs,o') W')\/(e=.returned (.bool false)/\Jx (xs,o') W'))
def Ybr {α:Type} (P:Program) (g:Nat) (lb:Array Qai) (encs:α->Array Qai) (T:Nat->List α->α->Option Nat->Qah->Prop) (End:List α->Prop) (Z:Nat->Prop) (w:Qah):Prop :=
 ∀ (l:Nat) (M:Nat->Prop) (J Jx:List α×Option Nat->Qah->Prop) (o:Option Nat) (W:Qah),Qaq w.heap.size w W->OwnFrom W.heap.size J->OwnFrom W.heap.size Jx ->
 (∀ k,M k->k<W.heap.size)->(∀ s W1,J s W1->W.heap.size<=W1.heap.size/\∀ k,s.2=some k->k<W1.heap.size)->(∀ k,Z k->¬ M k/\o≠some k) ->
 (∀ pre q x W1,J (pre,q) W1->T W.heap.size pre x q W1->YieldAt Fence.wide 0 P l (encs x) W1 (Z5w M J Jx (pre++[x]) q W1)) ->
 J ([],o) W->Qao P g (#[.func (.yield l) #[] #[]]++lb) W fun e W'=>(∃ v,e=.returned v)/\((∃ xs q,End xs/\J (xs,q) W')\/(∃ pre q,Jx (pre,q) W'))
end Go.Proofs.YtgmbjnajdfgenaaGreat
namespace Go.Proofs.YtgmbjnajdfgenaaGreat
open Go.RowKit Go.Shelf
attribute [local go_sem] Oper.semAt_some
structure Sv where
 nd:Nd
 pl:Nat
 inst:Bool
 A:Option Qaj
 c:Nat
 lo:Nat
 hi:Nat
section
variable {α : Type} {R : Rel α} {size : Nat} {t : Qak} {lo : Nat} {w w' : Qah} {A : Option Qaj} {c : Nat} {xs : List α}
end
section
variable {g : Int -> Option (Ky × Ky)} {l : List It} {k : Nat} {x : It} {p : Ky × Ky} {t : Ky}
end
theorem Zvg {s:Rm} {n:Nd} (h:n.2.length=0):Zcs s n=none:=by
 have e:n.2=[]:=Pw h;unfold Zcs;rw[e];cases n.1.toNat with
 | zero=>simp[Yw]
 | succ l=>rfl
end Go.Proofs.YtgmbjnajdfgenaaGreat
namespace Go.Proofs.YtgmbjnajdfgenaaGreat
open Go.RowKit Go.Shelf
attribute [local go_sem] Oper.semAt_some
theorem Z8y {n0:Nat} {A:Qah} (hn:n0<=A.heap.size) {p:Qaj} {v:Qai} (hp:p.block<n0) (hc:A.cell? p=some v):Old A p/\A.cell? p=some v:=⟨Qi hp hn,hc⟩
end Go.Proofs.YtgmbjnajdfgenaaGreat
namespace Go.Proofs.YtgmbjnajdfgenaaGreat
open Go.RowKit Go.Shelf
attribute [local go_sem] Oper.semAt_some
end Go.Proofs.YtgmbjnajdfgenaaGreat
namespace Go.Proofs.YtgmbjnajdfgenaaGreat
open Go.RowKit Go.Shelf
attribute [local go_sem] Oper.semAt_some
end Go.Proofs.YtgmbjnajdfgenaaGreat
namespace Go.Proofs.YtgmbjnajdfgenaaGreat
open Go.RowKit Go.Shelf
attribute [local go_sem] Oper.semAt_some
def Zfz (w:Qah) (q:Sv):Prop:=∃ w0:Qah,w0.heap.size=q.hi/\Yj rIt 5 54 q.lo w0 q.A q.c q.nd.2/\∀ k,q.lo<=k->k<q.hi->w.heap[k]? = w0.heap[k]?
structure Rows (lo hi:Nat) (w:Qah) (l:List Sv):Prop where
 ok:∀ q∈l,lo<=q.lo/\q.lo<=q.hi/\q.hi<=hi/\Zfz w q
 apart:l.Pairwise fun p q=>p.hi<=q.lo
end Go.Proofs.YtgmbjnajdfgenaaGreat
namespace Go.Proofs.YtgmbjnajdfgenaaGreat
open Go.Shelf Go.RowKit Go.Lib Go.Sort
def Zoj:Go.Shelf.Ren:=⟨fun | 7=>118 | 10=>154 | n=>n,fun | 23=>139 | 26=>3 | 3=>137 | 28=>188 | 0=>0 | 27=>187 | 33=>180 | 4=>4 | n=>n,fun | n=>n⟩
theorem Yao:Go.Proofs.SlLaysZI.n7 Tryz.prog Zoj:={
 mixed:=by kernel_rfl,
 f7:=⟨Tryz.f118.name,by decide,Tryz.func118.trans (congrArg some (by kernel_rfl))⟩,
 f10:=⟨Tryz.f154.name,by decide,Tryz.func154.trans (congrArg some (by kernel_rfl))⟩,
 t0:=Tryz.underlying0,
 a0:=Tryz.isAgg0,
 z0:=Tryz.sizeOf0,
 v0:=Tryz.zeroValue0,
 t4:=Tryz.underlying4,
 a4:=Tryz.isAgg4,
 z4:=Tryz.sizeOf4,
 v4:=Tryz.zeroValue4,
 t23:=Tryz.underlying139,
 a23:=Tryz.isAgg139,
 z23:=Tryz.sizeOf139,
 v23:=Tryz.zeroValue139,
 t26:=Tryz.underlying3,
 a26:=Tryz.isAgg3,
 z26:=Tryz.sizeOf3,
 v26:=Tryz.zeroValue3,
 t27:=Tryz.underlying187,
 a27:=Tryz.isAgg187,
 z27:=Tryz.sizeOf187,
 v27:=Tryz.zeroValue187,
 t28:=Tryz.underlying188,
 a28:=Tryz.isAgg188,
 z28:=Tryz.sizeOf188,
 v28:=Tryz.zeroValue188,
 t33:=Tryz.underlying180,
 a33:=Tryz.isAgg180,
 z33:=Tryz.sizeOf180,
 v33:=Tryz.zeroValue180 }
end Go.Proofs.YtgmbjnajdfgenaaGreat
namespace Go.Proofs.YtgmbjnajdfgenaaGreat
open Go.RowKit Go.Maps Go.Sort Go.Shelf
end Go.Proofs.YtgmbjnajdfgenaaGreat
set_option maxRecDepth 100000
set_option maxHeartbeats 16000000
set_option maxRecDepth 100000
set_option maxHeartbeats 16000000
open Array renaming getElem?_eq_some_iff → Qc, replicate_succ → Ps, replicate_zero → Pt, ext_getElem? → Pw
open Bool renaming and_eq_true → Qg, eq_iff_iff → P4
open Go renaming Q1 → Qaf, Q2 → Qag, P2 → Qah, Pl → Qai, P0 → Qaj, Qbn → Qak, Qbo → Qal
open Go.Act renaming put → Qa
open Go.RowKit renaming Qbp → Qam
open Go.RowKit.Below renaming refl → Qb
open Go.World renaming cell?_of_block → Qp, cell? → Qz, grownBy_alloc → Q8, size_alloc → Q9, frozen? → Qab
open List renaming mem_cons_self → Qd, mem_append → Qf, getElem?_eq_getElem → Qh, length_cons → Qi, mem_of_mem_take → Qk, mem_append_right → Ql, length_append → Qm, mem_cons_of_mem → Qn, mem_singleton → Qo, getElem?_eq_some_iff → Qr, mem_of_mem_drop → Qs, flatMap_cons → Qt, flatMap_append → Qu, length_nil → Qv, mem_of_getElem? → Qw, mem_append_left → Qx, cons_append → Qy, drop_zero → Q0, drop_eq_getElem_cons → Q3, exists_cons_of_ne_nil → Q4, length_take → Q5, nil_append → Q7, map_append → Pb, getElem_mem → Pc, getElem?_take_of_lt → Pd, take_succ_cons → Pe, take_zero → Pf, drop_succ_cons → Pg, drop_of_length_le → Ph, length_drop → Pi, all_eq_true → Pj, take_add_one → Pk, mem_filter → Pm, flatMap_nil → Pn, append_nil → Po, size_toArray → Pp, push_toArray → Pu, append_toArray → Pv, pairwise_iff_getElem → Px, length_reverse → Py, getElem?_drop → Pz, reverse_singleton → P1, reverse_cons → P3, mem_cons → P5, mem_flatMap → P7, filter_eq_self → P8, take_of_length_le → P9, nodup_cons → Qaa, Pairwise → Qac, pairwise_cons → Qad, pairwise_append → Qae
open Nat renaming le_refl → Qe, lt_of_lt_of_le → Qj, le_trans → Qq, lt_or_ge → Q6, le_of_lt → Pa, reduceAdd → Pq, reduceSub → Pr
noncomputable section
namespace Go.Proofs.YtgmbjnajdfgenaaGreat
open Go.RowKit Go.Shelf Go.Maps
attribute [local go_sem] Oper.semAt_some
end Go.Proofs.YtgmbjnajdfgenaaGreat
namespace Go.Proofs.YtgmbjnajdfgenaaGreat
open Go.RowKit Go.Shelf
attribute [local go_sem] Oper.semAt_some
def Zh3 (x:Int):Ky:=(2,0,x)
def kx (n:Nat):It:=(Zh3 n,0,[])
def Ls:Nat->List It
 | 0=>[]
 | n+1=>Ls n++[kx (n+1)]
def gS:Nat->Rm×Int
 | 0=>(mkV Zkl Ug,8)
 | n+1=>((Zl0 (gS n).1 (gS n).2 (kx (n+1))).2.1,(Zl0 (gS n).1 (gS n).2 (kx (n+1))).2.2)
def gA (n:Nat):Nat:=if n % 2=0 then 8 else 9
attribute [irreducible] gS
def Zxb:Ky:=(255,4294967295,4294967295)
def fdE (s:Rm) (a:Int) (k:Ky):Int:=if ckE s a=0 then (if (Zga s a k).isSome=true then 0 else 6) else ckE s a
def fdV (s:Rm) (a:Int) (k:Ky):It:=if ckE s a=0 then (Zga s a k).getD Zer else Zer
end Go.Proofs.YtgmbjnajdfgenaaGreat
set_option maxRecDepth 100000
set_option maxHeartbeats 16000000
set_option maxRecDepth 100000
set_option maxHeartbeats 16000000
open Array renaming getElem?_eq_some_iff → Qd, replicate_succ → Ps, replicate_zero → Pt, getElem?_replicate → Qab
open Bool renaming and_eq_true → Q3
open Go renaming Q1 → Qac, Q2 → Qad, P2 → Qae, Qbk → Qaf, Pl → Qag, P0 → Qah, Qbn → Qai, Qbo → Qaj, Ending → Qak
open Go.Act renaming put → Qa
open Go.Builtin renaming append_ → Q6, clear_ → P3
open Go.RowKit renaming Qbp → Qal
open Go.RowKit.Below renaming refl → Qb
open Go.World renaming cell?_of_block → Qg, block_lt_of_cell? → Pc, ownsRow_nil → Pp, cell? → P5, setCell → Qaa
open List renaming mem_append → Qf, getElem?_eq_getElem → Qh, mem_of_getElem? → Qi, length_append → Qj, mem_singleton → Qk, getElem?_eq_some_iff → Qm, mem_of_mem_take → Qn, length_take → Qo, mem_of_mem_drop → Qp, take_zero → Qq, take_succ_cons → Qr, drop_succ_cons → Qs, drop_zero → Qt, take_add_one → Qu, getElem?_set_ne → Qv, not_mem_nil → Qw, length_drop → Qx, map_append → Qy, mem_cons → Qz, getElem?_of_mem → Q0, length_pos_iff → Q4, getElem?_take_of_lt → Q5, length_cons → Q7, length_nil → Q8, take_take → Pa, length_map → Pb, size_toArray → Pd, getElem?_set_self → Pg, length_set → Ph, take_of_length_le → Pi, getElem?_drop → Pj, mem_cons_self → Pk, getElem?_append_left → Pn, getElem?_append_right → Po, push_toArray → Pu, append_toArray → Pv, nil_append → Pw, cons_append → Px, mem_append_left → Py, mem_append_right → Pz, exists_mem_of_ne_nil → P1, drop_of_length_le → P4, map_take → P8, map_drop → P9
open Nat renaming le_refl → Qc, le_trans → Qe, lt_of_lt_of_le → Ql, sub_self → Q9, zero_add → Pe, min_eq_left → Pf, eq_zero_or_pos → Pm, reduceAdd → Pq, reduceSub → Pr, lt_succ_self → P7
noncomputable section
namespace Go.Proofs.YtgmbjnajdfgenaaGreat
open Go.RowKit
end Go.Proofs.YtgmbjnajdfgenaaGreat
namespace Go.Proofs.YtgmbjnajdfgenaaGreat
open Go.RowKit Go.Shelf
attribute [local go_sem] Oper.semAt_some
def Kn (K:Nat->Prop) (W:Qac):Qae->Prop:=fun p=>K p.block/\p.block<W.heap.size
end Go.Proofs.YtgmbjnajdfgenaaGreat
namespace Go.Proofs.YtgmbjnajdfgenaaGreat
open Go.RowKit Go.Shelf
end Go.Proofs.YtgmbjnajdfgenaaGreat
namespace Go.Proofs.YtgmbjnajdfgenaaGreat
open Go.RowKit Go.Shelf
attribute [local go_sem] Oper.semAt_some
end Go.Proofs.YtgmbjnajdfgenaaGreat
set_option maxRecDepth 100000
set_option maxHeartbeats 16000000
namespace Go.Proofs.YtgmbjnajdfgenaaGreat
open Go.RowKit
end Go.Proofs.YtgmbjnajdfgenaaGreat
set_option maxRecDepth 100000
set_option maxHeartbeats 16000000
set_option maxRecDepth 100000
set_option maxHeartbeats 16000000
open Array renaming getElem?_eq_some_iff → Qt, replicate_succ → Q5, replicate_zero → Q6, getElem?_modify → Py
open Bool renaming and_eq_true → Qd, or_eq_true → Qag
open Go renaming Q1 → Qax, Q2 → Qay, P2 → Qaz, Qbk → Qa0, Qbl → Qa1, Qbm → Qa2, Qbn → Qa3, Qbo → Qa4
open Go.Act renaming put → Qh
open Go.RowKit renaming Qbp → Qa5
open Go.RowKit.Below renaming refl → Qb, heap_alloc → Pv
open Go.World renaming cell? → Qo, size_alloc → Qr, frozen? → Pw, setCell → Px, cell?_of_block → Qas
open List renaming getElem?_eq_getElem → Qc, mem_cons → Qe, mem_cons_of_mem → Qf, mem_cons_self → Qg, getElem?_eq_some_iff → Qi, mem_flatMap → Qj, mem_filter → Qk, mem_singleton → Ql, getElem?_of_mem → Qm, cons_append → Qn, length_cons → Qp, mem_append → Qq, mem_of_getElem? → Qs, pairwise_cons → Qu, flatMap_cons → Qv, all_eq_true → Qw, take_append_drop → Qx, size_toArray → Qz, length_nil → Q0, push_toArray → Q7, append_toArray → Q8, nil_append → Q9, length_set → Pa, getElem?_drop → Pb, mem_reverse → Pd, mem_map → Pe, mem_append_right → Pf, map_cons → Pg, pairwise_append → Ph, take_append_getElem → Pi, mem_of_mem_take → Pj, getElem?_eq_none → Pk, mem_of_find?_eq_some → Pm, mem_of_getLast? → Pn, length_take → Pp, filter_eq_self → Pq, mem_append_left → Pr, exists_cons_of_ne_nil → Ps, flatMap_append → Pt, length_drop → Pu, length_append → Pz, filter_congr → P1, getLast?_eq_some_getLast → P3, Pairwise → P4, mem_of_mem_drop → P5, length_map → P7, sum_cons → P8, take_succ_cons → P9, take_zero → Qaa, drop_succ_cons → Qab, drop_zero → Qac, find?_append → Qad, find?_cons → Qae, ext_getElem → Qaf, filter_append → Qah, filter_eq_nil_iff → Qai, mem_iff_getElem? → Qaj, reverse_append → Qak, take_of_length_le → Qal, eq_nil_of_length_eq_zero → Qam, nodup_cons → Qan, filter_cons_of_pos → Qao, filter_filter → Qap, drop_eq_getElem_cons → Qaq, append_nil → Qar, ext_getElem? → Qat, getElem?_map → Qau, map_append → Qav, map_nil → Qaw
open Nat renaming le_refl → Qa, lt_of_lt_of_le → Qy, reduceAdd → Q3, reduceSub → Q4, le_trans → Pc, lt_or_ge → Po
noncomputable section
namespace Go.Proofs.YtgmbjnajdfgenaaGreat
open Go.ChangeShapes Go.WideShapes Go.RowKit
def Sto (ok:Qaz->Prop) (w:Qax) (v:Qay) (s:Rm):Prop:=∃ a b n l,v=.agg #[a,b,n,l]/\Dsk ok w (.agg #[a,b]) s.1/\rBy ok w [n] s.2.1/\rBy ok w [l] s.2.2
section
variable {ok ok' : Qaz -> Prop} {w w' : Qax} {v : Qay} {s : Rm} {lo lo' : Nat}
theorem Sto.map (hk:∀ p v,ok p->w.cell? p=some v->ok' p/\w'.cell? p=some v) (h:Sto ok w v s):Sto ok' w' v s:=by
 obtain⟨a,b,n,l,e,h1,h2,h3⟩:=h;exact⟨a,b,n,l,e,h1.map hk,Zf _ _ _ _ _ _ hk h2,Zf _ _ _ _ _ _ hk h3⟩
theorem Sto.drop (h:Sto (New lo w) w v s):Sto (Old w) w v s:=h.map fun _ _ hp hc=>⟨hp.2.1,hc⟩
theorem Sto.open (h:Sto ok w v s):∃ A ca B cb N cn L cl,v=.agg #[.slice A s.1.1.length ca,.slice B s.1.2.length cb,.slice N s.2.1.length cn,.slice L s.2.2.length cl]/\Dsk ok w (.agg #[.slice A s.1.1.length ca,.slice B s.1.2.length cb]) s.1 /\
 rBy ok w [.slice N s.2.1.length cn] s.2.1/\rBy ok w [.slice L s.2.2.length cl] s.2.2:=by
 obtain⟨a,b,n,l,rfl,h1,h2,h3⟩:=h;obtain⟨A,ca,B,cb,e,_⟩:=h1.open;cases e;obtain⟨N,cn,rfl,_⟩:=Zt h2;obtain⟨L,cl,rfl,_⟩:=Zt h3;exact⟨A,ca,B,cb,N,cn,L,cl,rfl,h1,h2,h3⟩
theorem Sto.mk {a b n l:Qay} (h1:Dsk ok w (.agg #[a,b]) s.1) (h2:rBy ok w [n] s.2.1) (h3:rBy ok w [l] s.2.2):Sto ok w (.agg #[a,b,n,l]) s:=⟨a,b,n,l,rfl,h1,h2,h3⟩
end
theorem Yt (ok:Qaz->Prop) (w:Qax):Sto ok w (.agg #[.slice none 0 0,.slice none 0 0,.slice none 0 0,.slice none 0 0]) Zi :=
 ⟨_,_,_,_,rfl,⟨_,_,rfl,⟨none,0,rfl,by simp[Zi,Zc5],by omega,fun i x h=>by simp[Zi,Zc5] at h⟩,⟨none,0,rfl,by simp[Zi,Zc5],by omega,fun i x h=>by simp[Zi,Zc5] at h⟩⟩,
 ⟨none,0,rfl,by simp[Zi],by omega,fun i x h=>by simp[Zi] at h⟩,⟨none,0,rfl,by simp[Zi],by omega,fun i x h=>by simp[Zi] at h⟩⟩
theorem X5 (w:Qax) (a b c d:Qay) (t:Qa0):∃ w1,w.alloc (.cells #[a,b,c,d] t)=w1/\w1.heap[w.heap.size]? = some (.cells #[a,b,c,d] t (0,0))/\w1.heap.size=w.heap.size+1/\Qa5 w.heap.size w w1 :=
 ⟨_,rfl,Qa2 _ _,by simp,(Qb _ _).alloc (Qa _) _⟩
theorem Ze {W:Qax} {g:Nat} {a b c d:Qay} {t:Qa0} (h:W.heap[g]? = some (.cells #[a,b,c,d] t (0,0))):W.cell? ⟨g,0,none⟩=some a/\W.cell? ⟨g,1,none⟩=some b/\W.cell? ⟨g,2,none⟩=some c/\W.cell? ⟨g,3,none⟩=some d/\(∀ o,W.frozen? ⟨g,o,none⟩=false)/\g<W.heap.size :=
 ⟨by simp[Qo,h],by simp[Qo,h],by simp[Qo,h],by simp[Qo,h],fun o=>by simp[Pw,h],(Qt.1 h).1⟩
theorem Zu {W:Qax} {g:Nat} {a b c d a' b' c' d':Qay} {t:Qa0} (h:W.heap[g]? = some (.cells #[a,b,c,d] t (0,0))):∃ W1,(((W.setCell ⟨g,0,none⟩ a').setCell ⟨g,1,none⟩ b').setCell ⟨g,2,none⟩ c').setCell ⟨g,3,none⟩ d'=W1 /\
 W1.heap[g]? = some (.cells #[a',b',c',d'] t (0,0))/\W.grownBy W1 (some g)/\W1.heap.size=W.heap.size :=
 ⟨_,rfl,by simp[Px,Py,h],Yr (p:=⟨g,3,none⟩) (Yr (p:=⟨g,2,none⟩) (Yr (p:=⟨g,1,none⟩) (Yr (p:=⟨g,0,none⟩) (Xc W (some g)) rfl a') rfl b') rfl c') rfl d',by simp⟩
theorem Zjl (v:Qay) (t:List UInt8) (w:Qax) (h:rBy (Old w) w [v] t):Qa4 Tryz.prog 122 #[v] w fun e w'=>e=.returned (.int .i64 (Z3x t))/\w=w':=by
 obtain⟨A,c,rfl,l1,m1,hb⟩:=Ve (B:=w.heap.size) (fun _ h=>h) h;exact Zay A t.length c t (Za rfl) l1 m1 w hb
theorem Zl5 {w:Qax} {v:Qay} {s:Rm} (h:Sto (Old w) w v s):∃ A ca B cb N cn L cl w1,v=.agg #[.slice A s.1.1.length ca,.slice B s.1.2.length cb,.slice N s.2.1.length cn,.slice L s.2.2.length cl] /\
 w.alloc (.cells #[.slice A s.1.1.length ca,.slice B s.1.2.length cb,.slice N s.2.1.length cn,.slice L s.2.2.length cl] 29)=w1/\w1.heap[w.heap.size]? = some (.cells #[.slice A s.1.1.length ca,.slice B s.1.2.length cb,.slice N s.2.1.length cn,.slice L s.2.2.length cl] 29 (0,0))/\w1.heap.size=w.heap.size+1/\Qa5 w.heap.size w w1 /\
 Hid (Dsk (Old w1) w1 (.agg #[.slice A s.1.1.length ca,.slice B s.1.2.length cb]) s.1)/\Hid (rBy (Old w1) w1 [.slice N s.2.1.length cn] s.2.1)/\Hid (rBy (Old w1) w1 [.slice L s.2.2.length cl] s.2.2):=by
 obtain⟨A,ca,B,cb,N,cn,L,cl,rfl,hd,hN,hL⟩:=h.open;obtain⟨w1,hw1,f,hs,hB⟩:=X5 w (.slice A s.1.1.length ca) (.slice B s.1.2.length cb) (.slice N s.2.1.length cn) (.slice L s.2.2.length cl) 29;exact⟨A,ca,B,cb,N,cn,L,cl,w1,rfl,hw1,f,hs,hB,Za (hd.below hB),Za (Zf.old hN hB),Za (Zf.old hL hB)⟩
theorem Xg (v:Qay) (s:Rm) (w:Qax) (h:Sto (Old w) w v s):Qa4 Tryz.prog 78 #[v] w fun e w'=>e=.returned (.int .i64 (Z44 s))/\Qa5 w.heap.size w w':=by{
obtain⟨A,ca,B,cb,N,cn,L,cl,w1,rfl,hw1,f,hsz,hB,D,NN,LL⟩:=Zl5 h;clear h;obtain⟨k0,k1,k2,k3,_,kg⟩:=Ze f;replace hsz:=Za hsz;cases h1:Zbw s.1 with
| false =>
have hr:Hid (Z44 s=8):=Za (Zec (by simp[Xl,h1]));have e1:=Zew h1
go_enter Tryz.func78,Tryz.ntmps78
go_upto_region 1 with fail
clear hw1
go_wp2_with fail
with_reducible refine(Zcb _ s.1 _ D.out).mono ?_;rintro e w2 ⟨rfl,hb2⟩;rw[e1]
go_wp2_with fail
go_ret;exact⟨Z1 hr.out.symm,hB.trans (hb2.mono hB.size)⟩
| true =>
have e1:=Zzi h1;cases h2:Zbs s.2.1 with
| false =>
 have hr:Hid (Z44 s=8):=Za (Zec (by simp[Xl,h2]));have e2:=Zh4 h2
 go_enter Tryz.func78,Tryz.ntmps78
 go_upto_region 1 with fail
 clear hw1
 go_wp2_with fail
 with_reducible refine(Zcb _ s.1 _ D.out).mono ?_;rintro e w2 ⟨rfl,hb2⟩;rw[e1];replace k2:=(hb2.cell (p:=⟨w.heap.size,2,none⟩) kg).trans k2;have N2:=Za (Zf.old NN.out hb2);replace hb2:=Za (hB.trans (hb2.mono hB.size))
 go_wp2_with fail
 with_reducible refine(Zjl _ s.2.1 _ N2.out).mono ?_;rintro e w3 ⟨rfl,rfl⟩;rw[e2]
 go_wp2_with fail
 go_ret;exact⟨Z1 hr.out.symm,hb2.out⟩
| true =>
 have e2:=Zje h2;obtain⟨q,hq,hr⟩:∃ q,Z3x s.2.2=q/\Hid (Z44 s=q):=⟨_,rfl,Za (by simp[Z44,Z3x,Xl,h1,h2])⟩
 obtain⟨p,hp1,hp2⟩:∃ p,(q != 0)=p/\(p=true->q=8)/\(p=false->q=0):=⟨_,rfl,by
 rw[<- hq];unfold Z3x
 split <;> simp⟩
 go_enter Tryz.func78,Tryz.ntmps78
 go_upto_region 1 with fail
 clear hw1
 go_wp2_with fail
 with_reducible refine(Zcb _ s.1 _ D.out).mono ?_;rintro e w2 ⟨rfl,hb2⟩;rw[e1];replace k2:=(hb2.cell (p:=⟨w.heap.size,2,none⟩) kg).trans k2;replace k3:=(hb2.cell (p:=⟨w.heap.size,3,none⟩) kg).trans k3;have N2:=Za (Zf.old NN.out hb2);have L2:=Za (Zf.old LL.out hb2);replace hb2:=Za (hB.trans (hb2.mono hB.size))
 go_wp2_with fail
 with_reducible refine(Zjl _ s.2.1 _ N2.out).mono ?_;rintro e w3 ⟨rfl,rfl⟩;rw[e2]
 go_wp2_with fail
 with_reducible refine(Zjl _ s.2.2 _ L2.out).mono ?_;rintro e w3 ⟨rfl,rfl⟩;rw[hq];replace hq:=Za hq;cases p with
 | true =>
 have h8:=Za (hp2.1 rfl);clear hp2
 go_wp2_with fail
 go_ret;exact⟨Z1 (by rw[hr.out,h8.out]),hb2.out⟩
 | false =>
 have h0:=Za (hp2.2 rfl);clear hp2
 go_wp2_with fail
 go_ret;exact⟨Z1 (by rw[hr.out,h0.out]),hb2.out⟩}
def Ztw (s:Rm):Bool:=Zc8 s.1||decide (10000<s.2.1.length)||decide (10000<s.2.2.length)
theorem Zhj (n:Int) (w:Qax):Qa4 Tryz.prog 110 #[.int .i64 n] w fun e w'=>e=.returned (.bool (inT n))/\w=w':=by{
rcases Z8q n with ⟨h,hr⟩ | ⟨h,h2,hr⟩ | ⟨h,h2,hr⟩
all_goals
replace hr:=Za hr
go_enter Tryz.func110,Tryz.ntmps110
go_wp2_with fail
go_ret;exact⟨Ym (by first | exact hr.out.symm | (rw[hr.out];simp;omega)),rfl⟩}
theorem Uh (v:Qay) (s:Rm) (n:Int) (w:Qax) (h:Sto (Old w) w v s):Qa4 Tryz.prog 66 #[v,.int .i64 n] w fun e w'=>e=.returned (.int .i64 (asE s n))/\Qa5 w.heap.size w w':=by{
have H0:=Za h;obtain⟨A,ca,B,cb,N,cn,L,cl,w1,rfl,hw1,f,hsz,hB,_,NN,_⟩:=Zl5 h;have H:=Za (h.below hB);clear h H0;obtain⟨k0,k1,k2,k3,_,kg⟩:=Ze f;replace hsz:=Za hsz;rcases Ziu s n with ⟨hm,he⟩ | ⟨hm,hn,he⟩ | ⟨k,hm,rfl,h8,h256,hx,he⟩ | ⟨k,hm,rfl,h8,h256,hx,he⟩
·replace he:=Za he
have e1:=Zec hm
go_enter Tryz.func66,Tryz.ntmps66
go_upto_region 1 with fail
clear hw1
go_wp2_with fail
with_reducible refine(Xg _ s _ H.out).mono ?_;rintro e w2 ⟨rfl,hb2⟩;rw[e1];replace hb2:=Za (hB.trans (hb2.mono hB.size))
go_wp2_with fail
go_ret;exact⟨Z1 he.out.symm,hb2.out⟩
·replace he:=Za he
have e1:=Zc0 hm;have hi:inT n=false:=by
 cases hi:inT n with
 | false=>rfl
 | true=>obtain⟨k,rfl,h8,h256⟩:=Znj hi;omega
go_enter Tryz.func66,Tryz.ntmps66
go_upto_region 1 with fail
clear hw1
go_wp2_with fail
with_reducible refine(Xg _ s _ H.out).mono ?_;rintro e w2 ⟨rfl,hb2⟩;rw[e1];replace hb2:=Za (hB.trans (hb2.mono hB.size))
go_wp2_with fail
with_reducible refine(Zhj n _).mono ?_;rintro e w3 ⟨rfl,rfl⟩;rw[hi]
go_wp2_with fail
go_ret;exact⟨Z1 he.out.symm,hb2.out⟩
all_goals
replace he:=Za he;have e1:=Zc0 hm;have hi:=Zol h8 h256;have hlen:=Yx (Yf hm).2.1;obtain⟨A',c',e2,l1,m1,hby⟩:=Ve (B:=w1.heap.size) (fun _ h=>h) NN.out;cases e2;obtain⟨ad,rfl,hbk,hc⟩:=hby (by omega)
have hcell:=hc k (by omega);replace hbk:(ad.add k).block<w1.heap.size:=by rw[Zh];exact hbk
obtain⟨x,hx2⟩:∃ x,s.2.1[k]?.getD 0=x:=⟨_,rfl⟩
rw[hx2] at hcell hx;have hlt:k<s.2.1.length:=by omega
first
 | have t0:=Vl (y:=0) (q:=0) rfl hx
 | have t0:=Xt (y:=0) (q:=0) rfl hx
replace hx2:=Za hx2;replace hx:=Za hx;replace hlen:=Za hlen;clear hc hby
go_enter Tryz.func66,Tryz.ntmps66
go_upto_region 1 with fail
clear hw1
go_wp2_with fail
with_reducible refine(Xg _ s _ H.out).mono ?_;rintro e w2 ⟨rfl,hb2⟩;rw[e1];replace k2:=(hb2.cell (p:=⟨w.heap.size,2,none⟩) kg).trans k2;replace hcell:=(hb2.cell hbk).trans hcell;replace hb2:=Za (hB.trans (hb2.mono hB.size))
go_wp2_with fail
with_reducible refine(Zhj (k:Int) _).mono ?_;rintro e w3 ⟨rfl,rfl⟩;rw[hi]
go_wp2_with fail
go_ret;exact⟨Z1 he.out.symm,hb2.out⟩}
end Go.Proofs.YtgmbjnajdfgenaaGreat
namespace Go.Proofs.YtgmbjnajdfgenaaGreat
open Go.RowKit Go.Shelf
attribute [local go_sem] Oper.semAt_some
theorem Zf9 {w:Qax} {v:Qay} {s:Rm} (h:Sto (Old w) w v s):∃ A ca B cb N cn L cl w1,v=.agg #[.slice A s.1.1.length ca,.slice B s.1.2.length cb,.slice N s.2.1.length cn,.slice L s.2.2.length cl] /\
 (w.alloc (.cells #[.slice A s.1.1.length ca,.slice B s.1.2.length cb,.slice N s.2.1.length cn,.slice L s.2.2.length cl] 29)).alloc (.cells #[.slice none 0 0,.slice none 0 0,.slice none 0 0,.slice none 0 0] 29)=w1 /\
 w1.heap[w.heap.size]? = some (.cells #[.slice A s.1.1.length ca,.slice B s.1.2.length cb,.slice N s.2.1.length cn,.slice L s.2.2.length cl] 29 (0,0))/\w1.heap[w.heap.size+1]? = some (.cells #[.slice none 0 0,.slice none 0 0,.slice none 0 0,.slice none 0 0] 29 (0,0))/\w1.heap.size=w.heap.size+2/\Qa5 w.heap.size w w1 /\
 Hid (Sto (Old w1) w1 (.agg #[.slice A s.1.1.length ca,.slice B s.1.2.length cb,.slice N s.2.1.length cn,.slice L s.2.2.length cl]) s):=by
 obtain⟨A,ca,B,cb,N,cn,L,cl,rfl,_,_,_⟩:=h.open;have hb:Qa5 w.heap.size w ((w.alloc (.cells #[.slice A s.1.1.length ca,.slice B s.1.2.length cb,.slice N s.2.1.length cn,.slice L s.2.2.length cl] 29)).alloc (.cells #[.slice none 0 0,.slice none 0 0,.slice none 0 0,.slice none 0 0] 29)):=((Qb _ w).alloc (Qa _) _).alloc (by simp) _;refine⟨A,ca,B,cb,N,cn,L,cl,_,rfl,rfl,Y8 (Qa2 _ _),?_,by simp,hb,Za (h.below hb)⟩;have:=Qa2 (w.alloc (.cells #[.slice A s.1.1.length ca,.slice B s.1.2.length cb,.slice N s.2.1.length cn,.slice L s.2.2.length cl] 29)) (.cells #[.slice none 0 0,.slice none 0 0,.slice none 0 0,.slice none 0 0] 29)
 rwa [Qr] at this
theorem Zyv {s:Rm} {n:Int} (h:asE s n≠0):shE s n=asE s n:=by simp[shE,h]
theorem Ybx {s:Rm} {n:Int} (h:asE s n=0):Xl s=true/\upE s.2.1 n=shE s n/\(shE s n=0->shV s n=(s.1,upV s.2.1 n,s.2.2)):=by{
rcases Ziu s n with ⟨_,e⟩ | ⟨_,_,e⟩ | ⟨k,_,_,_,_,_,e⟩ | ⟨k,hm,rfl,h8,h256,hx,e⟩
·rw[e] at h;cases h
·rw[e] at h;cases h
·rw[e] at h;cases h
·have hi:=Zol h8 h256
have hmt:=(Yf hm).2.1;have h1:upE s.2.1 (k:Int)=shE s (k:Int):=by simp[upE,Zdx,shE,e,hmt,hi]
exact⟨hm,h1,fun h0=>by rw[shV,if_pos h0,upV,if_pos (by rw[h1];exact h0)]⟩}
theorem Zwl (v:Qay) (s:Rm) (n:Int) (w:Qax) (h:Sto (Old w) w v s) :
 Qa4 Tryz.prog 53 #[v,.int .i64 n] w fun e w'=>∃ t,e=.returned (.tuple #[t,.int .i64 (shE s n)])/\Sto (New w.heap.size w') w' t (shV s n)/\Qa5 w.heap.size w w':=by
 obtain⟨A,ca,B,cb,N,cn,L,cl,w1,rfl,hw1,f1,f2,hsz,hB,H⟩:=Zf9 h;clear h;obtain⟨k0,k1,k2,k3,_,kg⟩:=Ze f1;replace hsz:=Za hsz;replace f2:=Za f2;obtain⟨q,hq⟩:∃ q,shE s n=q:=⟨_,rfl⟩
 by_cases ha:asE s n=0
 ·obtain⟨hm,hup,hsv⟩:=Ybx ha
 rw[hq] at hup hsv;have hll:=Za (Yx (Yf hm).2.2);have hsm:=Za (Zdb (Yf hm).1);obtain⟨T,hT⟩:∃ T,upV s.2.1 n=T:=⟨_,rfl⟩
 rw[hT] at hsv;have hq0:q≠0->shV s n=Zi:=fun h=>Ybk (by rw[hq];exact h)
 have hq9:=hq;replace hq:=Za hq9;replace ha:=Za ha;replace hup:=Za hup;replace hT:=Za hT;replace hsv:=Za hsv;clear hq9
 go_enter Tryz.func53,Tryz.ntmps53
 go_upto_region 1 with fail
 clear hw1
 go_wp2_with fail
 with_reducible refine(Uh _ s n _ H.out).mono ?_;rintro e w2 ⟨rfl,hb2⟩;rw[ha.out];have G2:=(hb2.block w.heap.size kg).trans f1;obtain⟨m0,m1,m2,m3,_,mg⟩:=Ze G2;have F2:=Za ((hb2.block (w.heap.size+1) (by rw[hsz.out];omega)).trans f2.out);have H2:=Za (H.out.below hb2);have s2:Hid (w.heap.size+2<=w2.heap.size):=Za (by have:=hb2.size;have:=hsz.out;omega);replace hb2:=Za (hB.trans (hb2.mono hB.size));replace G2:=Za G2;clear k0 k1 k2 k3 kg f1 hB
 go_wp2_with fail
 with_reducible refine(Zz1 _ s.2.1 n _ H2.out.parts.2.1).mono ?_;rintro e w3 ⟨E3,c3,rfl,h3,hb3⟩;rw[hup.out,hT.out];rw[hT.out] at h3;have F3:=Za ((hb3.block (w.heap.size+1) (by have:=s2.out;omega)).trans F2.out);have G3:=(hb3.block w.heap.size mg).trans G2.out;have H3:=Za (H2.out.below hb3);have T3:=Za h3;have B3:=Za (hb2.out.trans (hb3.mono hb2.out.size));have s3:Hid (w.heap.size+2<=w3.heap.size):=Za (by have:=hb3.size;have:=s2.out;omega);clear hb3 h3 m0 m1 m2 m3 mg F2;obtain⟨m0,m1,m2,m3,_,mg⟩:=Ze G3;replace G3:=Za G3;by_cases hqz:q=0
 ·subst hqz
 have hV:=Za (hsv.out rfl);clear hq0 hsv
 go_upto_region 7 with fail
 refine Ue (by kernel_rfl) 8 (fun W=>Qa5 w3.heap.size w3 W) (fun i=>match i with
  | 2=>some (fun v W=>Dsk (New w3.heap.size W) W v s.1)
  | 6=>some (fun v W=>rBy (New w3.heap.size W) W [v] s.2.2)
  | 7=>some (fun v W=>∃ P p Q r X x,v=.agg #[.slice P s.1.1.length p,.slice Q s.1.2.length r,.slice E3 T.length c3,.slice X s.2.2.length x]/\Dsk (New w3.heap.size W) W (.agg #[.slice P s.1.1.length p,.slice Q s.1.2.length r]) s.1/\rBy (New w3.heap.size W) W [.slice X s.2.2.length x] s.2.2)
  | _=>none) (fun _=>none) (by decide) (by kernel_rfl) (by kernel_rfl) (Qb _ _).drew (fun w w' h hb=>h.trans (hb.mono h.size)) ?tst ?_
 case tst =>
 intro j φ x W W' hp hx hb
 match j,hp with
 | 2,hp=>cases hp;exact hx.new (Qa _) hb
 | 6,hp=>cases hp;exact Zf.new hx (Qa _) hb
 | 7,hp =>
  cases hp;obtain⟨P,p,Q,r,X,x,e1,e2,e3⟩:=hx;exact⟨P,p,Q,r,X,x,e1,e2.new (Qa _) hb,Zf.new e3 (Qa _) hb⟩
 simp only[P9,Qaa,Qab,Qac]
 repeat (first
 | (refine Zv rfl ?_;simp only[Qh,Zb,Zc,Zd])
 | (refine Zr (v := ?_) rfl rfl ?_ ?_;rotate_left;(intro W hC hE;clear hE;(have z0:=(hC.cell (p:=⟨w.heap.size,0,none⟩) mg).trans m0;have z1:=(hC.cell (p:=⟨w.heap.size,1,none⟩) mg).trans m1);clear hC;go_simp;first | done | with_reducible rfl);simp only[Qh,Zb,Zc,Zd]))
 refine Z6 rfl rfl ?_ ?_
 ·intro W hC hE
 clear hE;refine Z3 (f:=90) (args:=#[.agg #[.slice A s.1.1.length ca,.slice B s.1.2.length cb]]) ?_ ?_
 ·go_simp
 ·refine(Zur _ s.1 W hsm.out (H3.out.below hC).parts.1).mono ?_
  rintro e W' ⟨u,rfl,hu,hb⟩;exact⟨_,rfl,hu.new hC.size (Qb _ _),hb⟩
 simp only[Qh,Zb,Zc,Zd,Z5];intro x29
 repeat (first
 | (refine Zv rfl ?_;simp only[Qh,Zb,Zc,Zd])
 | (refine Zr (v := ?_) rfl rfl ?_ ?_;rotate_left;(intro W hC hE;clear hE;(have z3:=(hC.cell (p:=⟨w.heap.size,3,none⟩) mg).trans m3);clear hC;go_simp;first | done | with_reducible rfl);simp only[Qh,Zb,Zc,Zd]))
 refine Z6 rfl rfl ?_ ?_
 ·intro W hC hE
 clear hE;refine Z3 (f:=80) (args:=#[.slice L s.2.2.length cl]) ?_ ?_
 ·go_simp
 ·refine(Zar _ s.2.2 W (by rw[hll.out];omega) (H3.out.below hC).parts.2.2).mono ?_
  rintro e W' ⟨u,rfl,ho,hb⟩;exact⟨_,rfl,Zf.new ho hC.size (Qb _ _),hb⟩
 simp only[Qh,Zb,Zc,Zd,Z5];intro x33;refine Z6 rfl rfl ?_ ?_
 ·intro W hC hE
 have h33:=hE.1 rfl;have h29:=hE.2.1 rfl;obtain⟨X,x,rfl,_⟩:=Zt h33;obtain⟨P,p,Q,r,rfl,_⟩:=h29.open;have h33':=Za h33;have h29':=Za h29;clear hE hC h33 h29
 go_simp
 exact⟨⟨P,p,Q,r,X,x,rfl,h29'.out,h33'.out⟩,Qb _ _⟩;simp only[Qh,Zb,Zc,Zd,Z5];intro x34;refine Z7 fun W hC hE => ?_;obtain⟨⟨P,p,Q,r,X,x,rfl,hd,hx⟩,_⟩:=hE;have bW:=(hC.block (w.heap.size+1) (by have:=s3.out;omega)).trans F3.out;obtain⟨c0,c1,c2,c3',c4,c5⟩:=Ze bW;obtain⟨W9,hW9,g9,gr9,gs9⟩:=Zu (a':=.slice P s.1.1.length p) (b':=.slice Q s.1.2.length r) (c':=.slice E3 T.length c3) (d':=.slice X s.2.2.length x) bW;obtain⟨n0,n1,n2,n3,_,_⟩:=Ze g9;have BW:=B3.out.trans (hC.mono B3.out.size);have r3:=s3.out;have l2:=hb2.out.size;have l3:=B3.out.size
 have hfin:=Za (show Sto (New w.heap.size W9) W9 (.agg #[.slice P s.1.1.length p,.slice Q s.1.2.length r,.slice E3 T.length c3,.slice X s.2.2.length x]) (shV s n) from by
 rw[hV.out]
 exact Sto.mk ((hd.grown gr9 (fun q e=>by cases e;omega)).new l3 (Qb _ _)) (Zf.new (Zf.grown (Zf.new T3.out (Qa _) hC) gr9 (fun q e=>by cases e;have:=s2.out;omega)) l2 (Qb _ _)) (Zf.new (Zf.grown hx gr9 (fun q e=>by cases e;omega)) l3 (Qb _ _)))
 have hB9:=Za (BW.grown gr9 BW.size (fun q e=>by cases e;omega));clear hd hx gr9 gs9 BW r3 l2 l3;replace bW:=Za bW;replace g9:=Za g9
 go_wp2_with fail
 refine Qa1 (v:=.tuple #[.agg #[.slice P s.1.1.length p,.slice Q s.1.2.length r,.slice E3 T.length c3,.slice X s.2.2.length x],.int .i64 0]) (by simp[results,Tryz.results53,go_sem,n0,n1,n2,n3]) rfl ?_;rw[hq.out];exact⟨_,rfl,hfin.out,hB9.out⟩
 ·have hV:=Za (hq0 hqz)
 have hq1:(q != 0)=true:=by simpa using hqz
 clear hq0 hqz hsv;replace F3:=F3.out;obtain⟨k0,k1,k2,k3,k4,k5⟩:=Ze F3;obtain⟨W9,hW9,g9,gr9,gs9⟩:=Zu (a':=.slice none 0 0) (b':=.slice none 0 0) (c':=.slice none 0 0) (d':=.slice none 0 0) F3;obtain⟨n0,n1,n2,n3,_,_⟩:=Ze g9;have hB9:=Za ((B3).out.grown gr9 (B3).out.size (fun q e=>by cases e;omega));replace g9:=Za g9;replace F3:=Za F3;clear gr9 gs9
 go_wp2_with fail
 refine Qa1 (v:=.tuple #[.agg #[.slice none 0 0,.slice none 0 0,.slice none 0 0,.slice none 0 0],.int .i64 q]) (by simp[results,Tryz.results53,go_sem,n0,n1,n2,n3]) rfl ?_;rw[hV.out,hq.out];exact⟨_,rfl,Yt _ _,hB9.out⟩
 ·have hV:=Za (Ybk (s:=s) (n:=n) (by rw[Zyv ha];exact ha))
 rw[Zyv ha] at hq;have hq1:(q != 0)=true:=by rw[<- hq];simpa using ha
 have hq2:Hid (asE s n=q):=Za hq;replace hq:Hid (shE s n=q):=Za (by rw[Zyv ha];exact hq);clear ha
 go_enter Tryz.func53,Tryz.ntmps53
 go_upto_region 1 with fail
 clear hw1
 go_wp2_with fail
 with_reducible refine(Uh _ s n _ H.out).mono ?_;rintro e w2 ⟨rfl,hb2⟩;rw[hq2.out];have F2:=(hb2.block (w.heap.size+1) (by rw[hsz.out];omega)).trans f2.out;replace hb2:=Za (hB.trans (hb2.mono hB.size));obtain⟨k0,k1,k2,k3,k4,k5⟩:=Ze F2;obtain⟨W9,hW9,g9,gr9,gs9⟩:=Zu (a':=.slice none 0 0) (b':=.slice none 0 0) (c':=.slice none 0 0) (d':=.slice none 0 0) F2;obtain⟨n0,n1,n2,n3,_,_⟩:=Ze g9;have hB9:=Za ((hb2).out.grown gr9 (hb2).out.size (fun q e=>by cases e;omega));replace g9:=Za g9;replace F2:=Za F2;clear gr9 gs9
 go_wp2_with fail
 refine Qa1 (v:=.tuple #[.agg #[.slice none 0 0,.slice none 0 0,.slice none 0 0,.slice none 0 0],.int .i64 q]) (by simp[results,Tryz.results53,go_sem,n0,n1,n2,n3]) rfl ?_;rw[hV.out,hq.out];exact⟨_,rfl,Yt _ _,hB9.out⟩
def rmE (s:Rm) (n:Int):Int:=if asE s n=0 then reN (Zz s.1 n.toNat) else asE s n
def rmV (s:Rm) (n:Int):Nd:=if asE s n=0 then reV (Zz s.1 n.toNat) else Ug
theorem Z1s {s:Rm} {n:Int} (h:asE s n≠0):rmE s n=asE s n/\rmV s n=Ug:=⟨by rw[rmE,if_neg h],by rw[rmV,if_neg h]⟩
theorem Y5 {s:Rm} {n:Int} (h:asE s n=0):∃ k:Nat,n=k/\Xl s=true/\8<=k/\k<256/\Uu s.1 n=0/\rdX s.1 n=Zz s.1 k/\rmE s n=reN (Zz s.1 k)/\rmV s n=reV (Zz s.1 k)/\s.2.1[k]?.getD 0≠0:=by{
rcases Ziu s n with ⟨_,e⟩ | ⟨_,_,e⟩ | ⟨k,_,_,_,_,_,e⟩ | ⟨k,hm,rfl,h8,h256,hx,e⟩
·rw[e] at h;cases h
·rw[e] at h;cases h
·rw[e] at h;cases h
·have hmd:=(Yf hm).1
have ht:=Zfg h256;exact⟨k,rfl,hm,h8,h256,by simp[Uu,hmd,ht],by simp[rdX,Uu,hmd,ht],by rw[rmE,if_pos h];rfl,by rw[rmV,if_pos h];rfl,hx⟩}
def Zbm:Ky:=(0,0,0)
def Yw (s:Rm) (l:List It):Bool:=l.all fun x=>decide (x.2.1=0)||decide (s.2.1[x.2.1.toNat]?.getD 0≠0)
def Zae (f:Int->Ky->Ky->Bool->Bool):List It->Ky->Bool->Bool
 | [],_,_=>true
 | [x],tb,ends=>f x.2.1 x.1 tb ends
 | x::y::r,tb,ends=>f x.2.1 x.1 y.1 true&&Zae f (y::r) tb ends
def Zex (l:List It) (k tb:Ky) (ends:Bool):Bool:=(match l[0]? with | none=>false | some x=>decide (x.1=k))&&(!ends||(match l.getLast? with | none=>false | some y=>Zo y.1 tb))
def Zx (s:Rm):Nat->Int->Ky->Ky->Bool->Bool
 | 0,a,k,tb,ends=>(decide (rmE s a=0)&&decide ((rmV s a).1=0))&&(Zex (rmV s a).2 k tb ends&&Yw s (rmV s a).2)
 | l+1,a,k,tb,ends=>(decide (rmE s a=0)&&decide ((rmV s a).1=((l+1:Nat):Int)))&&(Zex (rmV s a).2 k tb ends&&Zae (Zx s l) (rmV s a).2 tb ends)
def Uk (s:Rm) (n:Nd) (tb:Ky) (ends:Bool):Bool:=match n.1.toNat with
 | 0=>Yw s n.2
 | l+1=>Zae (Zx s l) n.2 tb ends
def Ys (s:Rm) (a:Int):Bool:=decide (rmE s a=0)&&Uk s (rmV s a) Zbm false
def ckE (s:Rm) (a:Int):Int:=if asE s a=0 then (if Ys s a then 0 else 8) else asE s a
def ckH (s:Rm) (a:Int):Int:=if ckE s a=0 then (rmV s a).1+1 else 0
def X7 (s:Rm):Nat->Int->List It
 | 0,a=>(rmV s a).2
 | l+1,a=>(rmV s a).2.flatMap fun x=>X7 s l x.2.1
def Zc7 (s:Rm):Nat->Int->Ky->Option It
 | 0,a,k=>(rmV s a).2.reverse.find? fun x=>decide (x.1=k)
 | l+1,a,k=>((rmV s a).2.reverse.find? fun x => !Zo k x.1).bind fun x=>Zc7 s l x.2.1 k
def Zbl (s:Rm) (a:Int):List It:=X7 s (rmV s a).1.toNat a
def Zga (s:Rm) (a:Int) (k:Ky):Option It:=Zc7 s (rmV s a).1.toNat a k
def Up (l:List It):Prop:=l.Pairwise fun x y=>Zo x.1 y.1=true
theorem Ya {s:Rm} {a:Int} (h:rmE s a=0):mayN (rmV s a)=true/\asE s a=0:=by{
by_cases ha:asE s a=0
·obtain⟨k,_,_,_,_,_,_,hE,hV,_⟩:=Y5 ha
rw[hE] at h;rw[hV];exact⟨(Zfx h).1,ha⟩
·rw[(Z1s ha).1] at h
exact absurd h ha}
theorem Z9 {s:Rm} {l:Nat} {a:Int} {k tb:Ky} {ends:Bool} (h:Zx s l a k tb ends=true):rmE s a=0/\(rmV s a).1=l/\Zex (rmV s a).2 k tb ends=true/\(match l with | 0=>Yw s (rmV s a).2 | l'+1=>Zae (Zx s l') (rmV s a).2 tb ends)=true:=by{
cases l with
| zero =>
simp only[Zx,Qd,decide_eq_true_eq] at h;exact⟨h.1.1,h.1.2,h.2.1,h.2.2⟩
| succ l =>
simp only[Zx,Qd,decide_eq_true_eq] at h;exact⟨h.1.1,h.1.2,h.2.1,h.2.2⟩}
theorem Y4 {s:Rm} {a:Int} (h:Ys s a=true):rmE s a=0/\asE s a=0/\mayN (rmV s a)=true/\0<=(rmV s a).1/\(rmV s a).1<6/\Uk s (rmV s a) Zbm false=true:=by
 simp only[Ys,Qd,decide_eq_true_eq] at h;obtain⟨hm,ha⟩:=Ya h.1;exact⟨h.1,ha,hm,(Zw hm).1.1,(Zw hm).1.2.1,h.2⟩
def nxO (r:List It) (tb:Ky):Ky:=match r with | []=>tb | y::_=>y.1
def bxO (r:List It) (ends:Bool):Bool:=match r with | []=>ends | _::_=>true
theorem Xx (f:Int->Ky->Ky->Bool->Bool) (x:It) (r:List It) (tb:Ky) (ends:Bool):Zae f (x::r) tb ends=(f x.2.1 x.1 (nxO r tb) (bxO r ends)&&Zae f r tb ends):=by
 cases r with
 | nil=>simp[Zae,nxO,bxO]
 | cons y r=>rfl
def Xf:List It->Nat->Nat
 | [],_=>0
 | x::l,i=>(if x.2.1=(i:Int) then (if x.2.1=0 then 0 else 1) else 0)+Xf l i
def Zba (l:List It):Prop:=∀ x∈l,x.2.1=0\/(8<=x.2.1/\x.2.1<256)
theorem Zbc {x:It} {l:List It} (h:Zba (x::l)):(x.2.1=0\/∃ k:Nat,x.2.1=k/\8<=k/\k<256)/\Zba l:=by
 refine⟨?_,fun y hy=>h y (Qf _ hy)⟩;rcases h x Qg with h1 | ⟨h1,h2⟩
 ·exact .inl h1
 ·exact .inr ⟨x.2.1.toNat,by omega,by omega,by omega⟩
theorem Vz {n:Nd} (h:mayN n=true):Zba n.2:=fun x hx=>by
 obtain⟨i,hi⟩:=Qm hx;have hk:=(Qi.1 hi).1;simp only[mayN,Qd,Qw] at h;have h1:=h.2 i (by simpa using hk);simp only[Zkh,hi,okP,Qd] at h1;exact(Zaj h1.1.1).1
theorem Za7 {x:It} {l:List It} (h:x.2.1=0) (i:Nat):Xf (x::l) i=Xf l i:=by
 simp only[Xf,h,if_true];split <;> simp
theorem Za9 {x:It} {l:List It} {k:Nat} (h:x.2.1=k) (h8:8<=k) (i:Nat):Xf (x::l) i=(if i=k then 1 else 0)+Xf l i:=by{
simp only[Xf,h];by_cases e:i=k
·subst e
rw[if_pos rfl,if_neg (by omega),if_pos rfl]
·rw[if_neg (by omega),if_neg e]}
theorem Z3h {l:List It} (h:Zba l) {i:Nat} (hi:i<8\/256<=i):Xf l i=0:=by{
induction l with
| nil=>rfl
| cons x l ih =>
obtain⟨h1,h2⟩:=Zbc h;rcases h1 with h1 | ⟨k,h1,h8,h256⟩
·rw[Za7 h1,ih h2]
·rw[Za9 h1 h8,ih h2,if_neg (by omega)]}
def ctE:List UInt8->List It->Int
 | _,[]=>0
 | t,x::l=>if x.2.1=0 then ctE t l else if t[x.2.1.toNat]?.getD 0=0 then 6 else if t[x.2.1.toNat]?.getD 0=255 then 70 else ctE (t.set x.2.1.toNat (t[x.2.1.toNat]?.getD 0+1)) l
def ctV:List UInt8->List It->List UInt8
 | t,[]=>t
 | t,x::l=>if x.2.1=0 then ctV t l else ctV (t.set x.2.1.toNat (t[x.2.1.toNat]?.getD 0+1)) l
theorem Ze8:∀ (l:List It) (t:List UInt8),(ctV t l).length=t.length
 | [],_=>rfl
 | x::l,t=>by
 unfold ctV;split
 ·exact Ze8 l t
 ·rw[Ze8 l,Pa]
theorem Zty {x:UInt8} (h:x≠255):(x+1).toNat=x.toNat+1:=by
 have:=(Zj8 h).1;omega
theorem Zjc {x:UInt8} (h:x≠0):(x-1).toNat+1=x.toNat:=by
 have h1:=(Zj8 (x:=x-1) (Zv1 h)).1;rw[Zxh.2] at h1;omega
theorem Vy {x:UInt8}:x.toNat=0↔x=0:=⟨fun h=>UInt8.toNat_inj.1 (by rw[h];rfl),fun h=>by rw[h];rfl⟩
theorem Zdd:∀ (l:List It) (t:List UInt8),Zba l->t.length=256->ctE t l=0 ->
 (∀ i,((ctV t l)[i]?.getD 0).toNat=(t[i]?.getD 0).toNat+Xf l i)/\(∀ i,Xf l i≠0->t[i]?.getD 0≠0)
 | [],t,_,_,_=>⟨fun i=>by simp[ctV,Xf],fun i h=>absurd rfl h⟩
 | x::l,t,hr,hl,h=>by
 obtain⟨h1,h2⟩:=Zbc hr;unfold ctE at h;unfold ctV;rcases h1 with h1 | ⟨k,h1,h8,h256⟩
 ·rw[if_pos h1] at h ⊢
 obtain⟨c1,c2⟩:=Zdd l t h2 hl h;exact⟨fun i=>by rw[c1 i,Za7 h1],fun i hi=>c2 i (by rwa [Za7 h1] at hi)⟩
 ·have e0:¬ x.2.1=0:=by omega
 have ek:x.2.1.toNat=k:=by omega
 rw[if_neg e0,ek] at h;rw[if_neg e0,ek];by_cases hz:t[k]?.getD 0=0
 ·rw[if_pos hz] at h;cases h
 ·by_cases hm:t[k]?.getD 0=255
 ·rw[if_neg hz,if_pos hm] at h;cases h
 ·rw[if_neg hz,if_neg hm] at h
  obtain⟨c1,c2⟩:=Zdd l (t.set k (t[k]?.getD 0+1)) h2 (by rw[Pa,hl]) h;refine⟨fun i => ?_,fun i hi => ?_⟩
  ·rw[c1 i,Za9 h1 h8]
  by_cases e:i=k
  ·subst e
  rw[Zb0 (by omega),Zty hm,if_pos rfl];omega
  ·rw[Vr e,if_neg e]
  omega
  ·by_cases e:i=k
  ·subst e;exact hz
  ·rw[Za9 h1 h8,if_neg e,Nat.zero_add] at hi
  have:=c2 i hi
  rwa [Vr e] at this
theorem Ybm {t:List UInt8} {l:List It} (hm:Zbs t=true) (hr:Zba l) (h:ctE t l=0):Zbs (ctV t l)=true:=by
 have hl:=Yx hm;obtain⟨c1,_⟩:=Zdd l t hr hl h;refine Zht (by rw[Ze8,hl]) fun j hj=>Vy.1 ?_
 rw[c1 j,Z3h hr (.inl hj),Zmr hm hj];rfl
theorem Zxg {t:List UInt8} {l:List It} (hl:t.length=256) (hr:Zba l) (h:ctE t l=0) (i:Nat):(ctV t l)[i]?.getD 0=0↔t[i]?.getD 0=0:=by
 obtain⟨c1,c2⟩:=Zdd l t hr hl h;rw[<- Vy,c1 i,<- Vy (x:=t[i]?.getD 0)];refine⟨fun h=>by omega,fun h => ?_⟩;by_cases e:Xf l i=0
 ·omega
 ·exact absurd (Vy.1 h) (c2 i e)
def ctS (s:Rm) (n:Nd):Rm:=(s.1,ctV s.2.1 n.2,s.2.2)
def mkE (s:Rm) (n:Nd):Int:=if Xl s&&mayN n then (if ctE s.2.1 n.2=0 then tkE (ctS s n) (Vd n) else ctE s.2.1 n.2) else 8
def mkN (s:Rm) (n:Nd):Int:=if mkE s n=0 then tkN (ctS s n) (Vd n) else 0
def mkV (s:Rm) (n:Nd):Rm:=if mkE s n=0 then tkV (ctS s n) (Vd n) else Zi
theorem Z0c {s:Rm} {n:Nd} (hm:Xl s=true) (hn:mayN n=true) (h:ctE s.2.1 n.2=0):Xl (ctS s n)=true:=by
 obtain⟨m1,m2,m3⟩:=Yf hm;exact Zag m1 (Ybm m2 (Vz hn) h) m3
theorem Zwq {s:Rm} {n:Nd} (h:mkE s n=0):Xl s=true/\mayN n=true/\ctE s.2.1 n.2=0/\tkE (ctS s n) (Vd n)=0/\mkN s n=tkN (ctS s n) (Vd n)/\mkV s n=tkV (ctS s n) (Vd n):=by{
have hN:mkN s n=tkN (ctS s n) (Vd n):=by rw[mkN,if_pos h]
have hV:mkV s n=tkV (ctS s n) (Vd n):=by rw[mkV,if_pos h]
unfold mkE at h;cases hm:Xl s with
| false=>rw[hm] at h;simp at h
| true =>
cases hn:mayN n with
| false=>rw[hm,hn] at h;simp at h
| true =>
 rw[hm,hn] at h;simp only[Bool.and_self,if_true] at h;by_cases hc:ctE s.2.1 n.2=0
 ·rw[if_pos hc] at h
 exact⟨rfl,rfl,hc,h,hN,hV⟩
 ·rw[if_neg hc] at h
 exact absurd h hc}
theorem X2 {s:Rm} {n:Nd} (h:mkE s n=0):∃ k:Nat,mkN s n=k/\8<=k/\k<256/\s.2.1[k]?.getD 0=0/\s.2.2[k]?.getD 0=0/\Xf n.2 k=0/\mkV s n=(wrD s.1 k (Vd n),(ctV s.2.1 n.2).set k 1,s.2.2)/\Xl (mkV s n)=true /\
 (mkV s n).2.1[k]?.getD 0=1/\(∀ i,i≠k->((mkV s n).2.1[i]?.getD 0).toNat=(s.2.1[i]?.getD 0).toNat+Xf n.2 i)/\(∀ i,Xf n.2 i≠0->s.2.1[i]?.getD 0≠0)/\(mkV s n).2.1.length=256/\s.2.1.length=256:=by
 obtain⟨hm,hn,hc,ht,e1,e2⟩:=Zwq h;obtain⟨_,_,_,_,h8,h256,hz,hz2,hN,hV⟩:=Z1m ht;have hl:=Yx (Yf hm).2.1;have hr:=Vz hn;obtain⟨c1,c2⟩:=Zdd n.2 s.2.1 hr hl hc;generalize tkK (ctS s n)=k at *;have z1:s.2.1[k]?.getD 0=0:=(Zxg hl hr hc k).1 hz;have z2:Xf n.2 k=0:=by
 by_cases e:Xf n.2 k=0
 ·exact e
 ·exact absurd z1 (c2 k e)
 have hV':mkV s n=(wrD s.1 k (Vd n),(ctV s.2.1 n.2).set k 1,s.2.2):=by rw[e2,hV];rfl
 refine⟨k,by rw[e1,hN],h8,h256,z1,hz2,z2,hV',by rw[e2];exact Ya8 ht,?_,fun i hi => ?_,c2,?_,hl⟩
 ·rw[hV'];exact Zb0 (by rw[Ze8];omega)
 ·rw[hV']
 show (((ctV s.2.1 n.2).set k 1)[i]?.getD 0).toNat=_;rw[Vr hi];exact c1 i
 ·rw[hV']
 show ((ctV s.2.1 n.2).set k 1).length=_;rw[Pa,Ze8,hl]
def dnO (t:List UInt8) (a:Nat):Option (List UInt8):=if t[a]?.getD 0=0 then none else some (t.set a (t[a]?.getD 0-1))
def Vc (f:List UInt8->Nat->Option (List UInt8)):List UInt8->List It->Option (List UInt8)
 | t,[]=>some t
 | t,x::l=>if x.2.1=0 then Vc f t l else (f t x.2.1.toNat).bind fun t'=>Vc f t' l
def lvS (d:Dk) (l:Nat) (f:List UInt8->Nat->Option (List UInt8)) (t:List UInt8) (a:Nat):Option (List UInt8) :=
 (dnO t a).bind fun t'=>if 1<(t[a]?.getD 0).toNat then some t' else if reN (Zz d a)=0/\(reV (Zz d a)).1=(l:Int) then Vc f t' (reV (Zz d a)).2 else none
def lvF (d:Dk):Nat->List UInt8->Nat->Option (List UInt8)
 | 0=>dnO
 | l+1=>lvS d l (lvF d l)
def lfO (d:Dk) (t:List UInt8) (a:Nat):Option (List UInt8) :=
 (dnO t a).bind fun t'=>if 1<(t[a]?.getD 0).toNat then some t' else if reN (Zz d a)=0 then Vc (lvF d (reV (Zz d a)).1.toNat) t' (reV (Zz d a)).2 else none
def loV (s:Rm) (n:Int):Rm:=if asE s n=0 then (s.1,s.2.1.set n.toNat (s.2.1[n.toNat]?.getD 0-1),s.2.2) else Zi
structure LeT (u t:List UInt8):Prop where
 len:u.length=t.length
 le:∀ i:Nat,(u[i]?.getD 0).toNat<=(t[i]?.getD 0).toNat
theorem Zd1 {t u:List UInt8} {a:Nat} (h:dnO t a=some u):t[a]?.getD 0≠0/\u=t.set a (t[a]?.getD 0-1)/\LeT u t/\(u[a]?.getD 0).toNat+1=(t[a]?.getD 0).toNat:=by{
unfold dnO at h;by_cases hz:t[a]?.getD 0=0
·rw[if_pos hz] at h;cases h
·rw[if_neg hz] at h
cases h;have ha:a<t.length:=by
 by_cases e:a<t.length
 ·exact e
 ·exact absurd (by rw[Pk (by omega)];rfl) hz
refine⟨hz,rfl,⟨Pa,fun i => ?_⟩,?_⟩
·by_cases e:i=a
 ·subst e
 rw[Zb0 ha];have:=Zjc hz;omega
 ·rw[Vr e]
 exact Qa _
·rw[Zb0 ha]
 exact Zjc hz}
structure Xw (s t:Rm):Prop where
 may:Xl t=true
 held:∀ k:Nat,s.2.1[k]?.getD 0≠0->t.2.1[k]?.getD 0≠0
 seen:∀ k:Nat,s.2.1[k]?.getD 0≠0->Zz t.1 k=Zz s.1 k
theorem U0 {f g:Int->Ky->Ky->Bool->Bool} (h:∀ a k tb e,f a k tb e=true->g a k tb e=true):∀ (l:List It) (tb:Ky) (e:Bool),Zae f l tb e=true->Zae g l tb e=true
 | [],_,_,_=>rfl
 | x::r,tb,e,hf=>by
 rw[Xx,Qd] at hf ⊢;exact⟨h _ _ _ _ hf.1,U0 h r tb e hf.2⟩
theorem Xm {f:Int->Ky->Ky->Bool->Bool}:∀ {l:List It} {tb:Ky} {e:Bool},Zae f l tb e=true->∀ x∈l,∃ t e,f x.2.1 x.1 t e=true
 | [],_,_,_,x,hx=>by simp at hx
 | y::r,tb,e,hf,x,hx=>by
 rw[Xx,Qd] at hf;rcases Qe.1 hx with rfl | hx
 ·exact⟨_,_,hf.1⟩
 ·exact Xm hf.2 x hx
def Y9 (g:Int->Option (Ky×Ky)):List It->Option (Ky×Ky)
 | []=>none
 | [x]=>(g x.2.1).bind fun p=>if p.1=x.1 then some p else none
 | x::y::r=>(g x.2.1).bind fun p=>(Y9 g (y::r)).bind fun q=>if p.1=x.1/\Zo p.2 y.1=true then some (p.1,q.2) else none
def Zbi (s:Rm):Nat->Int->Option (Ky×Ky)
 | 0,a=>if rmE s a=0/\(rmV s a).1=0/\Yw s (rmV s a).2=true then ((rmV s a).2[0]?).bind fun x=>((rmV s a).2.getLast?).map fun y=>(x.1,y.1) else none
 | l+1,a=>if rmE s a=0/\(rmV s a).1=((l+1:Nat):Int) then Y9 (Zbi s l) (rmV s a).2 else none
def Zcs (s:Rm) (n:Nd):Option (Ky×Ky):=match n.1.toNat with
 | 0=>if Yw s n.2=true then (n.2[0]?).bind fun x=>(n.2.getLast?).map fun y=>(x.1,y.1) else none
 | l+1=>Y9 (Zbi s l) n.2
def Z56 (f t:Ky) (x:It):Bool := !Zo x.1 f && !Zo t x.1
def Zhi (s:Rm) (a:Int) (f t:Ky):List It:=(Zbl s a).filter (Z56 f t)
def raV (s:Rm) (a:Int) (f t:Ky):List It:=if ckE s a=0 then Zhi s a f t else []
theorem Z4e {f t:Ky} {x:It}:Z56 f t x=true↔Zo x.1 f=false/\Zo t x.1=false:=by
 unfold Z56;simp
def Y7 (s:Rm):Nat->Int->List Int
 | 0,a=>[a]
 | l+1,a=>a::(rmV s a).2.flatMap fun x=>Y7 s l x.2.1
def Vu (s:Rm):Nat->Int->List Int
 | 0,a=>((rmV s a).2.map fun x=>x.2.1).filter fun r=>decide (r≠0)
 | l+1,a=>(rmV s a).2.flatMap fun x=>Vu s l x.2.1
def Xj (s:Rm) (a:Int):List Int:=Y7 s (rmV s a).1.toNat a
def Ze1 (s:Rm) (a:Int):List Int:=Vu s (rmV s a).1.toNat a
structure Blk (s:Rm) (l:Nat) (a:Int) (N R:List Int):Prop where
 root:a∈N
 node:∀ n∈N,rmE s n=0
 sub:∀ n∈N,∀ x∈(rmV s n).2,((rmV s n).1≠0->x.2.1∈N)/\((rmV s n).1=0->x.2.1≠0->x.2.1∈R)
 held:∀ r∈R,r≠0/\s.2.1[r.toNat]?.getD 0≠0/\8<=r/\r<256
theorem Zx9 {s:Rm} {l:List It} (h:Yw s l=true) {x:It} (hx:x∈l):x.2.1=0\/s.2.1[x.2.1.toNat]?.getD 0≠0:=by
 unfold Yw at h;rw[Qw] at h;have:=h x hx
 simpa using this
theorem Z7b {n:Nd} (h:mayN n=true) {x:It} (hx:x∈n.2):x.2.1=0\/(8<=x.2.1/\x.2.1<256):=by
 obtain⟨i,hi⟩:=Qm hx;exact(Zaj (Zq1 (Zfc h hi))).1
theorem Zu5 {s:Rm} {a:Int} (h1:rmE s a=0) (h2:(rmV s a).1=0) (h3:Yw s (rmV s a).2=true):Blk s 0 a (Y7 s 0 a) (Vu s 0 a):=by{
have hm:=(Ya h1).1;refine⟨by simp[Y7],fun n hn => ?_,fun n hn x hx => ?_,fun r hr => ?_⟩
·simp only[Y7,Ql] at hn
subst hn;exact h1
·simp only[Y7,Ql] at hn
subst hn;refine⟨fun h=>absurd h2 h,fun _ h0 => ?_⟩;simp only[Vu,Qk,Pe,decide_eq_true_eq];exact⟨⟨x,hx,rfl⟩,h0⟩
·simp only[Vu,Qk,Pe,decide_eq_true_eq] at hr
obtain⟨⟨x,hx,rfl⟩,h0⟩:=hr;rcases Z7b hm hx with e | e
·exact absurd e h0
·rcases Zx9 h3 hx with e' | e'
 ·exact absurd e' h0
 ·exact⟨h0,e',e.1,e.2⟩}
theorem Z6j {s:Rm} {l:Nat} {a:Int} (h1:rmE s a=0) (h2:(rmV s a).1=((l+1:Nat):Int)) (h3:∀ x∈(rmV s a).2,Blk s l x.2.1 (Y7 s l x.2.1) (Vu s l x.2.1)):Blk s (l+1) a (Y7 s (l+1) a) (Vu s (l+1) a):=by{
refine⟨by simp[Y7],fun n hn => ?_,fun n hn x hx => ?_,fun r hr => ?_⟩
·simp only[Y7,Qe,Qj] at hn
rcases hn with rfl | ⟨y,hy,hn⟩
·exact h1
·exact(h3 y hy).node n hn
·simp only[Y7,Qe,Qj] at hn ⊢
simp only[Vu,Qj];rcases hn with rfl | ⟨y,hy,hn⟩
·exact⟨fun _=>.inr ⟨x,hx,(h3 x hx).root⟩,fun h=>by rw[h2] at h;omega⟩
·obtain⟨e1,e2⟩:=(h3 y hy).sub n hn x hx
 exact⟨fun h=>.inr ⟨y,hy,e1 h⟩,fun h h'=>⟨y,hy,e2 h h'⟩⟩
·simp only[Vu,Qj] at hr
obtain⟨y,hy,hr⟩:=hr;exact(h3 y hy).held r hr}
theorem Zpw (s:Rm):∀ (l:Nat) (a:Int) (k tb:Ky) (e:Bool),Zx s l a k tb e=true->Blk s l a (Y7 s l a) (Vu s l a)
 | 0,a,k,tb,e,h=>by
 obtain⟨h1,h2,_,h4⟩:=Z9 h;exact Zu5 h1 h2 h4
 | l+1,a,k,tb,e,h=>by
 obtain⟨h1,h2,_,h4⟩:=Z9 h;exact Z6j h1 h2 fun x hx=>by
 obtain⟨t',e',hf⟩:=Xm h4 x hx;exact Zpw s l _ _ _ _ hf
theorem Zam {s:Rm} {a:Int} (h:Ys s a=true):Blk s (rmV s a).1.toNat a (Xj s a) (Ze1 s a):=by{
obtain⟨h1,_,_,l0,_,hi⟩:=Y4 h;unfold Xj Ze1;unfold Uk at hi;cases hl:(rmV s a).1.toNat with
| zero =>
rw[hl] at hi;exact Zu5 h1 (by omega) hi
| succ l =>
rw[hl] at hi;exact Z6j h1 (by omega) fun x hx=>by
 obtain⟨t',e',hf⟩:=Xm hi x hx;exact Zpw s l _ _ _ _ hf}
theorem Y1 {s:Rm} {n:Int} (h:rmE s n=0):8<=n/\n<256/\s.2.1[n.toNat]?.getD 0≠0:=by
 obtain⟨k,rfl,_,h8,h256,_,_,_,_,hx⟩:=Y5 (Ya h).2;exact⟨by omega,by omega,by rw[show ((k:Int)).toNat=k by omega];exact hx⟩
def ndD (d:Dk) (n:Int):Nd:=reV (Zz d n.toNat)
def Zcl (d:Dk):List Int->Nat->Nat
 | [],_=>0
 | n::r,k=>Xf (ndD d n).2 k+Zcl d r k
def Yy (t:List UInt8) (k:Nat):Nat:=(t[k]?.getD 0).toNat
structure Enf (d:Dk) (t:List UInt8) (P:Nat->Nat) (N:List Int):Prop where
 once:N.Nodup
 node:∀ n∈N,0<=n/\n<256/\reN (Zz d n.toNat)=0/\Yy t n.toNat≠0
 shut:∀ n∈N,(ndD d n).1≠0->∀ x∈(ndD d n).2,x.2.1∈N/\x.2.1≠0/\(ndD d x.2.1).1+1=(ndD d n).1
 refs:∀ n∈N,Zba (ndD d n).2
 enough:∀ k,P k+Zcl d N k<=Yy t k
theorem Zo3 (d:Dk) (p:Int->Bool) (k:Nat):∀ N:List Int,Zcl d (N.filter p) k<=Zcl d N k
 | []=>Qa _
 | n::r=>by
 have:=Zo3 d p k r;rw[List.filter_cons];split
 ·unfold Zcl;omega
 ·show Zcl d (r.filter p) k<=Xf (ndD d n).2 k+Zcl d r k
 omega
theorem Zgg {d:Dk} {k:Nat} {n:Int}:∀ {N:List Int},n∈N->Xf (ndD d n).2 k<=Zcl d N k
 | m::r,h=>by
 unfold Zcl;rcases Qe.1 h with rfl | h
 ·omega
 ·have:=Zgg (k:=k) (d:=d) h
 omega
theorem Zau {l:List It} {x:It} (hx:x∈l) {k:Nat} (hk:x.2.1=(k:Int)) (h0:x.2.1≠0):1<=Xf l k:=by{
induction l with
| nil=>cases hx
| cons y r ih =>
unfold Xf;rcases Qe.1 hx with rfl | hx
·rw[if_pos hk,if_neg h0]
 omega
·have:=ih hx
 omega}
theorem Zhk {t u:List UInt8} {a:Nat} (h:dnO t a=some u):Yy t a=Yy u a+1/\(∀ k,k≠a->Yy u k=Yy t k):=by
 obtain⟨h1,h2,h3,h4⟩:=Zd1 h;refine⟨h4.symm,fun k hk => ?_⟩;unfold Yy;rw[h2,List.getElem?_set_ne (Ne.symm hk)]
def Ul (u:List UInt8) (N:List Int):List Int:=N.filter fun n=>decide (Yy u n.toNat≠0)
theorem Zm8 {d:Dk} {t u:List UInt8} {P:Nat->Nat} {N:List Int} {a:Nat} (h:Enf d t (fun k=>P k+if k=a then 1 else 0) N) (hd:dnO t a=some u):Enf d u P (Ul u N):=by{
obtain⟨c1,c2⟩:=Zhk hd;refine h.part _ (fun n hn hp=>by simpa using hp) (fun n hn hp x hx hxN hx0 => ?_) (fun k => ?_)
·simp only[decide_eq_true_eq] at hp ⊢
intro h0;obtain⟨g1,_,_,g4⟩:=h.node _ hxN;have hxa:x.2.1.toNat=a:=by
 by_cases e:x.2.1.toNat=a
 ·exact e
 ·rw[c2 _ e] at h0
 exact absurd h0 g4
have h1:=h.enough a;rw[hxa] at h0;have h2:=Zau hx (k:=a) (by omega) hx0;have h3:=Zgg (d:=d) (k:=a) hn;simp only[if_true] at h1;omega
·have h1:=h.enough k
have h2:=Zo3 d (fun n=>decide (Yy u n.toNat≠0)) k N;by_cases e:k=a
·subst e
 simp only[if_true] at h1;omega
·rw[c2 k e]
 simp only[if_neg e] at h1;omega}
theorem Vq {t:List UInt8} {k:Nat}:Yy t k≠0↔t[k]?.getD 0≠0:=by
 unfold Yy;rw[ne_eq,Vy]
theorem Uc {s:Rm} {n:Nd} (h:mkE s n=0):Xw s (mkV s n):=by{
obtain⟨k,e1,h8,h256,hz,_,hc,hV,hm,c1,c2,_⟩:=X2 h;have hne:∀ i:Nat,s.2.1[i]?.getD 0≠0->i≠k:=fun i hi e=>hi (by rw[e];exact hz)
refine⟨hm,fun i hi => ?_,fun i hi => ?_⟩
·rw[<- Vq]
have h1:=c2 i (hne i hi);have h2:=Vq.2 hi;unfold Yy at h2 ⊢;omega
·rw[hV]
exact Z4 (hne i hi)}
def Xd (n:Nd) (k:Ky):Nat:=if Yn n k=true then Z2 n k else Z2 n k-1
theorem Yu (f:Int->Ky->Ky->Bool->Bool):∀ (A B:List It) (tb:Ky) (e:Bool),Zae f (A++B) tb e=(Zae f A (nxO B tb) (bxO B e)&&Zae f B tb e)
 | [],B,tb,e=>by
 show Zae f B tb e=(true&&Zae f B tb e);simp
 | x::r,B,tb,e=>by
 rw[Qn,Xx,Yu f r B tb e,Xx];have e1:nxO (r++B) tb=nxO r (nxO B tb):=by cases r <;> rfl
 have e2:bxO (r++B) e=bxO r (bxO B e):=by cases r <;> rfl
 rw[e1,e2,Bool.and_assoc]
def Znt (l:List It):Ky:=match l with | []=>Zbm | x::_=>x.1
def upI (l:List It) (k:Int):It:=(Znt l,k,[])
def Zq (s:Rm) (lv:Int) (l:List It):Int×Rm×List It :=
 if l.length<=5 then
 if mkE s (lv,l)=0 then (0,mkV s (lv,l),[upI l (mkN s (lv,l))]) else (mkE s (lv,l),Zi,[])
 else if mkE s (lv,l.take 3)=0 then
 if mkE (mkV s (lv,l.take 3)) (lv,l.drop 3)=0 then (0,mkV (mkV s (lv,l.take 3)) (lv,l.drop 3),[upI (l.take 3) (mkN s (lv,l.take 3)),upI (l.drop 3) (mkN (mkV s (lv,l.take 3)) (lv,l.drop 3))])
 else (mkE (mkV s (lv,l.take 3)) (lv,l.drop 3),Zi,[])
 else (mkE s (lv,l.take 3),Zi,[])
def Vm (s:Rm) (a:Int):Rm:=(s.1,s.2.1.set a.toNat (s.2.1[a.toNat]?.getD 0-1),s.2.2)
def Zns (s:Rm) (l:List It):Rm:=l.foldl (fun u x=>Vm u x.2.1) s
def Zav (l:List It) (p many:Nat) (up:List It):List It:=l.take p++(up++l.drop (p+many))
def Zbk (n:Nd) (k:Ky):Int:=((n.2[Xd n k]?).map fun y=>y.2.1).getD 0
def Zn (x:It):Nat->Rm->Int->Int×Rm×List It
 | 0,s,a =>
 if (Zq s 0 (Zav (rmV s a).2 (Z2 (rmV s a) x.1) (if Yn (rmV s a) x.1=true then 1 else 0) [x])).1=0 then
 (0,(if x.2.1=0 then (Zq s 0 (Zav (rmV s a).2 (Z2 (rmV s a) x.1) (if Yn (rmV s a) x.1=true then 1 else 0) [x])).2.1 else Vm (Zq s 0 (Zav (rmV s a).2 (Z2 (rmV s a) x.1) (if Yn (rmV s a) x.1=true then 1 else 0) [x])).2.1 x.2.1),(Zq s 0 (Zav (rmV s a).2 (Z2 (rmV s a) x.1) (if Yn (rmV s a) x.1=true then 1 else 0) [x])).2.2)
 else ((Zq s 0 (Zav (rmV s a).2 (Z2 (rmV s a) x.1) (if Yn (rmV s a) x.1=true then 1 else 0) [x])).1,Zi,[])
 | l+1,s,a =>
 if (Zn x l s (Zbk (rmV s a) x.1)).1=0 then
 if (Zq (Zn x l s (Zbk (rmV s a) x.1)).2.1 ((l+1:Nat):Int) (Zav (rmV s a).2 (Xd (rmV s a) x.1) 1 (Zn x l s (Zbk (rmV s a) x.1)).2.2)).1=0 then
 (0,Zns (Zq (Zn x l s (Zbk (rmV s a) x.1)).2.1 ((l+1:Nat):Int) (Zav (rmV s a).2 (Xd (rmV s a) x.1) 1 (Zn x l s (Zbk (rmV s a) x.1)).2.2)).2.1 (Zn x l s (Zbk (rmV s a) x.1)).2.2,
  (Zq (Zn x l s (Zbk (rmV s a) x.1)).2.1 ((l+1:Nat):Int) (Zav (rmV s a).2 (Xd (rmV s a) x.1) 1 (Zn x l s (Zbk (rmV s a) x.1)).2.2)).2.2)
 else ((Zq (Zn x l s (Zbk (rmV s a) x.1)).2.1 ((l+1:Nat):Int) (Zav (rmV s a).2 (Xd (rmV s a) x.1) 1 (Zn x l s (Zbk (rmV s a) x.1)).2.2)).1,Zi,[])
 else ((Zn x l s (Zbk (rmV s a) x.1)).1,Zi,[])
def Zq9 (s:Rm):Nat->Int->Ky->Bool
 | 0,a,k=>decide (5<=(rmV s a).2.length) && !Yn (rmV s a) k
 | l+1,a,k=>decide (5<=(rmV s a).2.length)&&Zq9 s l (Zbk (rmV s a) k) k
def Zqy (s:Rm) (a:Int) (k:Ky):Bool:=decide ((rmV s a).1=5)&&Zq9 s 5 a k
def Vp (s:Rm) (lv:Int) (up:List It):Int×Rm×List It :=
 if 1<up.length then
 if (Zq s (lv+1) up).1=0 then (0,Zns (Zq s (lv+1) up).2.1 up,(Zq s (lv+1) up).2.2) else ((Zq s (lv+1) up).1,Zi,[])
 else (0,s,up)
def Zb3 (up:List It):Int:=match up with | []=>0 | z::_=>z.2.1
def Zl0 (s:Rm) (a:Int) (x:It):Int×Rm×Int :=
 if Zqy s a x.1 then (120,Zi,0)
 else if (Zn x (rmV s a).1.toNat s a).1=0 then
 if (Vp (Zn x (rmV s a).1.toNat s a).2.1 (rmV s a).1 (Zn x (rmV s a).1.toNat s a).2.2).1=0 then
 match lfO (Vp (Zn x (rmV s a).1.toNat s a).2.1 (rmV s a).1 (Zn x (rmV s a).1.toNat s a).2.2).2.1.1 (Vp (Zn x (rmV s a).1.toNat s a).2.1 (rmV s a).1 (Zn x (rmV s a).1.toNat s a).2.2).2.1.2.1 a.toNat with
 | none=>(8,Zi,0)
 | some v=>(0,((Vp (Zn x (rmV s a).1.toNat s a).2.1 (rmV s a).1 (Zn x (rmV s a).1.toNat s a).2.2).2.1.1,v,(Vp (Zn x (rmV s a).1.toNat s a).2.1 (rmV s a).1 (Zn x (rmV s a).1.toNat s a).2.2).2.1.2.2),Zb3 (Vp (Zn x (rmV s a).1.toNat s a).2.1 (rmV s a).1 (Zn x (rmV s a).1.toNat s a).2.2).2.2)
 else ((Vp (Zn x (rmV s a).1.toNat s a).2.1 (rmV s a).1 (Zn x (rmV s a).1.toNat s a).2.2).1,Zi,0)
 else ((Zn x (rmV s a).1.toNat s a).1,Zi,0)
def Zkl:Rm:=(Zbo,Zy 256,Zy 256)
end Go.Proofs.YtgmbjnajdfgenaaGreat
namespace Go.Proofs.YtgmbjnajdfgenaaGreat
open Go.RowKit Go.Shelf
attribute [local go_sem] Oper.semAt_some
theorem Zrw (v:Qay) (s:Rm) (n:Int) (w:Qax) (h:Sto (Old w) w v s) :
 Qa4 Tryz.prog 53 #[v,.int .i64 n] w fun e W'=>∃ A ca B cb N cn L cl,e=.returned (.tuple #[.agg #[.slice A (shV s n).1.1.length ca,.slice B (shV s n).1.2.length cb,.slice N (shV s n).2.1.length cn,.slice L (shV s n).2.2.length cl],.int .i64 (shE s n)]) /\
 Sto (New w.heap.size W') W' (.agg #[.slice A (shV s n).1.1.length ca,.slice B (shV s n).1.2.length cb,.slice N (shV s n).2.1.length cn,.slice L (shV s n).2.2.length cl]) (shV s n)/\Qa5 w.heap.size w W':=by
 refine(Zwl v s n w h).mono ?_;rintro e W' ⟨t,rfl,ht,hb⟩;obtain⟨A,ca,B,cb,N,cn,L,cl,rfl,_⟩:=id ht.open;exact⟨A,ca,B,cb,N,cn,L,cl,rfl,ht,hb⟩
def Zlt (s:Rm) (x:It):Int:=if Zbn x then if x.2.1≠0/\s.2.1[x.2.1.toNat]?.getD 0=0 then 6 else 0 else 8
theorem Zmu (v u:Qay) (s:Rm) (x:It) (w:Qax) (hm:Xl s=true) (h:Sto (Old w) w v s) (hu:Itm (Old w) w u x) :
 Qa4 Tryz.prog 41 #[v,u] w fun e w'=>e=.returned (.int .i64 (Zlt s x))/\Qa5 w.heap.size w w':=by
 obtain⟨A,ca,B,cb,N,cn,L,cl,rfl,_⟩:=id h.open;obtain⟨D,dc,rfl,_,_,_,_⟩:=id hu.open;obtain⟨w1,hw1,b1,hs1,hB1⟩:=X5 w (.slice A s.1.1.length ca) (.slice B s.1.2.length cb) (.slice N s.2.1.length cn) (.slice L s.2.2.length cl) 29;obtain⟨w2,hw2,-,-,-,-,-,hs2,hB2,b2⟩:=Z8 w1 (.int .u8 (x.1.1.toNat:Int)) (.int .u32 x.1.2.1) (.int .u32 x.1.2.2) (.int .i64 x.2.1) (.slice D x.2.2.length dc) 54;have hb1:=(hB2.block w.heap.size (by omega)).trans b1;have B2:=Za (hB1.trans (hB2.mono hB1.size));have hC:=Za (Za1 _ x w2 (hu.map fun p v hp hc=>⟨Qy hp B2.out.size,(B2.out.cell hp).trans hc⟩));have HS:=Za (h.below B2.out);have hl:=Yx (Yf hm).2.1;have hcit:Hid (Zlt s x=if Zbn x then if x.2.1≠0/\s.2.1[x.2.1.toNat]?.getD 0=0 then 6 else 0 else 8):=Za rfl;have hmw:Zbn x=true->x.2.1=0\/∃ k:Nat,x.2.1=k/\8<=k/\k<256:=fun h=>by
 rcases(Zaj h).1 with e | e
 ·exact .inl e
 ·exact .inr ⟨x.2.1.toNat,by omega,by omega,by omega⟩
 obtain⟨z,hz⟩:∃ z,x.2.1=z:=⟨_,rfl⟩
 obtain⟨ev,hev⟩:∃ q,Z4n x=q:=⟨_,rfl⟩
 rw[hl] at b1 hb1 hw1 HS ⊢;rw[hz] at hw2 b2 hcit hmw;unfold itV at hC;rw[hz] at hC;rw[hev] at hC;change Qa4 _ _ #[_,.agg #[.int .u8 (x.1.1.toNat:Int),.int .u32 x.1.2.1,.int .u32 x.1.2.2,.int .i64 x.2.1,.slice D x.2.2.length dc]] _ _;rw[hz];replace hz:=Za hz;replace hl:=Za hl;replace hs1:=Za hs1;replace hs2:=Za hs2;obtain⟨p0,p1,p2,p3,_⟩:=Ze hb1;obtain⟨q0,q1,q2,q3,q4,_⟩:=Zs b2;have G1:=Za hb1;have G2:=Za b2;have S:=Za (show w.heap.size<w2.heap.size/\w1.heap.size<w2.heap.size from ⟨by have:=hs1.out;have:=hs2.out;omega,by have:=hs2.out;omega⟩);clear h hu hB1 hB2 b1 b2 hb1
 go_enter Tryz.func41,Tryz.ntmps41
 go_upto_region 1 with fail
 clear hw1 hw2
 go_wp2_with fail
 with_reducible refine(hC.out).mono ?_;rintro e w3 ⟨rfl,hb3⟩;have g1:=(hb3.block w.heap.size S.out.1).trans G1.out;have g2:=(hb3.block w1.heap.size S.out.2).trans G2.out;have B3:=Za (B2.out.trans (hb3.mono B2.out.size));have H3:=Za (HS.out.below hb3);obtain⟨p0,p1,p2,p3,_⟩:=Ze g1;obtain⟨q0,q1,q2,q3,q4,_⟩:=Zs g2;clear hb3 g1 g2 hC;rcases Zcn (Zbn x) with hb | hb
 ·have he8:ev=8:=by rw[<- hev];simp[Z4n,hb]
 subst he8;have hr:=Za (show Zlt s x=8 by rw[hcit.out,hb];rfl);replace hev:=Za hev;replace hb:=Za hb;clear hmw
 go_wp2_with fail
 go_ret;exact⟨Z1 hr.out.symm,B3.out⟩;have he0:ev=0:=by rw[<- hev];simp[Z4n,hb]
 subst he0;have hw:=hmw hb;rw[hb,if_pos rfl] at hcit;replace hev:=Za hev;replace hb:=Za hb;clear hmw;rcases hw with h0 | ⟨k,hk,h8,h256⟩
 ·subst h0
 have hr:=Za (show Zlt s x=0 by rw[hcit.out,if_neg (by simp)]);clear hcit
 go_wp2_with fail
 go_ret;exact⟨Z1 hr.out.symm,B3.out⟩
 ·subst hk
 have j0:((k:Int) != 0)=true:=by simp;omega
 have i1:(0:Int)<=(k:Int):=by omega
 have i2:(k:Int)<256:=by omega
 obtain⟨A2,c2,e2,n1,n2,hc2⟩:=Zt H3.out.parts.2.1;rw[hl.out] at e2 hc2;cases e2;obtain⟨ad,rfl,_,hck⟩:=hc2 k h256;obtain⟨y,hy⟩:∃ y,s.2.1[k]?.getD 0=y:=⟨_,rfl⟩
 rw[hy] at hck;rw[Int.toNat_natCast,hy] at hcit;replace hy:=Za hy;clear hc2 n1 n2;by_cases hy0:y=0
 ·have t1:=Vl (y:=0) (q:=0) rfl hy0
 have hr:=Za (show Zlt s x=6 by rw[hcit.out,if_pos ⟨by omega,hy0⟩]);replace hy0:=Za hy0;clear hcit
 go_wp2_with fail
 go_ret;exact⟨Z1 hr.out.symm,B3.out⟩
 ·have t1:=Xt (y:=0) (q:=0) rfl hy0
 have hr:=Za (show Zlt s x=0 by rw[hcit.out,if_neg (fun h=>hy0 h.2)]);replace hy0:=Za hy0;clear hcit
 go_wp2_with fail
 go_ret;exact⟨Z1 hr.out.symm,B3.out⟩
def Off (g:Nat) (w:Qax):Qaz->Prop:=fun p=>p.block<w.heap.size/\p.block≠g
end Go.Proofs.YtgmbjnajdfgenaaGreat
namespace Go.Proofs.YtgmbjnajdfgenaaGreat
open Go.RowKit Go.Shelf Go.Maps
attribute [local go_sem] Oper.semAt_some
end Go.Proofs.YtgmbjnajdfgenaaGreat
namespace Go.Proofs.YtgmbjnajdfgenaaGreat
open Go.RowKit Go.Shelf Go.Maps
attribute [local go_sem] Oper.semAt_some
end Go.Proofs.YtgmbjnajdfgenaaGreat
set_option maxRecDepth 100000
set_option maxHeartbeats 16000000
set_option maxRecDepth 100000
set_option maxHeartbeats 16000000
open Array renaming getElem?_eq_some_iff → Qd, replicate_succ → Q4, replicate_zero → Q5
open Bool renaming and_eq_true → Pp
open Go renaming Q1 → Qah, Q2 → Qai, P2 → Qaj, Qbk → Qak, Qbl → Qal, Qbm → Qam, Qbn → Qan, Qbo → Qao, Ending → Qap
open Go.Act renaming put → Qs
open Go.Builtin renaming append_ → Qv
open Go.IntWalk renaming i64_in → Ps
open Go.RowKit renaming Qbp → Qaq
open Go.RowKit.Below renaming refl → Qc
open Go.World renaming cell?_of_block → Qg, size_alloc → Qw, putObj_heap_other → Qx, putObj_size → Pm, block_lt_of_cell? → P1, putObj_heap_same → P3, alloc_heap_new → P4, frozen?_of_block → P7, news_of_block → Qab
open List renaming map_append → Qe, getElem?_eq_getElem → Qf, length_append → Qh, filter_append → Qj, mem_singleton → Qk, getElem?_eq_some_iff → Ql, mem_cons → Qm, mem_append → Qn, length_cons → Qo, mem_flatMap → Qp, append_assoc → Qq, mem_map → Qr, getElem?_append_right → Qt, filter_cons_of_neg → Qu, size_toArray → Qy, length_nil → Qz, push_toArray → Q6, append_toArray → Q7, nil_append → Q8, cons_append → Q9, flatMap_cons → Pa, drop_eq_getElem_cons → Pb, length_take → Pc, pairwise_cons → Pd, mem_filter → Pe, length_map → Pf, getElem?_append_left → Pg, mem_of_getElem? → Ph, length_drop → Pj, drop_of_length_le → Pk, nodup_cons → Pn, Pairwise → Po, pairwise_append → Pq, filter_cons_of_pos → Pr, eq_nil_of_length_eq_zero → Pw, getElem_map → Px, reverse_append → Py, length_reverse → Pz, flatMap_append → P5, filter_congr → P8, append_nil → P9, countP_eq_length_filter → Qaa, take_of_length_le → Qac, IsPrefix → Qad, prefix_append_right_inj → Qae, length_filter_le → Qaf
open Nat renaming le_trans → Qa, le_refl → Qb, lt_of_lt_of_le → Qi, reduceAdd → Q0, reduceSub → Q3, lt_or_ge → Pi, le_of_lt → Pt, zero_add → Pu, min_eq_left → Pv, pow_le_pow_right → Qag
noncomputable section
namespace Go.Proofs.YtgmbjnajdfgenaaGreat
open Go.RowKit
def Zkn:List It->Rm->Int×Rm
 | [],s=>(0,s)
 | x::r,s=>if x.2.1=0 then Zkn r s else if asE s x.2.1=0 then Zkn r (loV s x.2.1) else (asE s x.2.1,Zi)
def Ui (s:Rm) (lv:Int) (L F:List It):Int×Rm×List It :=
 if (Zq s lv L).1=0 then (if (Zkn F (Zq s lv L).2.1).1=0 then (0,(Zkn F (Zq s lv L).2.1).2,(Zq s lv L).2.2) else ((Zkn F (Zq s lv L).2.1).1,Zi,[])) else ((Zq s lv L).1,Zi,[])
theorem Yb9 {s u:Rm} {lv:Int} {L F up:List It} {er:Int} (h:Zq s lv L=(0,u,up)) (h1:Zkn F u=(er,Zi)) (h0:er≠0):Ui s lv L F=(er,Zi,[]):=by
 unfold Ui;rw[h,if_pos rfl,h1,if_neg h0]
structure Vs (M:Nat->Prop) (o o':Option Nat) (W W':Qah):Prop where
 size:W.heap.size<=W'.heap.size
 same:∀ k,k<W.heap.size->¬ M k->o≠some k->W'.heap[k]? = W.heap[k]? /\ o'≠some k
def Z5w {α:Type} (M:Nat->Prop) (J Jx:List α×Option Nat->Qah->Prop) (xs:List α) (o:Option Nat) (W:Qah):Qap->Qah->Prop:=fun e W' =>
 ∃ o',Vs M o o' W W'/\((e=.returned (.bool true)/\J (xs,o') W')\/(e=.returned (.bool false)/\Jx (xs,o') W'))
def Ybr {α:Type} (P:Program) (g:Nat) (lb:Array Qai) (encs:α->Array Qai) (T:Nat->List α->α->Option Nat->Qah->Prop) (End:List α->Prop) (Z:Nat->Prop) (w:Qah):Prop :=
 ∀ (l:Nat) (M:Nat->Prop) (J Jx:List α×Option Nat->Qah->Prop) (o:Option Nat) (W:Qah),Qaq w.heap.size w W->OwnFrom W.heap.size J->OwnFrom W.heap.size Jx ->
 (∀ k,M k->k<W.heap.size)->(∀ s W1,J s W1->W.heap.size<=W1.heap.size/\∀ k,s.2=some k->k<W1.heap.size)->(∀ k,Z k->¬ M k/\o≠some k) ->
 (∀ pre q x W1,J (pre,q) W1->T W.heap.size pre x q W1->YieldAt Fence.wide 0 P l (encs x) W1 (Z5w M J Jx (pre++[x]) q W1)) ->
 J ([],o) W->Qao P g (#[.func (.yield l) #[] #[]]++lb) W fun e W'=>(∃ v,e=.returned v)/\((∃ xs q,End xs/\J (xs,q) W')\/(∃ pre q,Jx (pre,q) W'))
end Go.Proofs.YtgmbjnajdfgenaaGreat
namespace Go.Proofs.YtgmbjnajdfgenaaGreat
open Go.RowKit Go.Shelf
attribute [local go_sem] Oper.semAt_some
structure Sv where
 nd:Nd
 pl:Nat
 inst:Bool
 A:Option Qaj
 c:Nat
 lo:Nat
 hi:Nat
theorem Zf5 (a:Option Qaj) (len cap:Nat) (w:Qah) :
 Qao Tryz.prog 75 #[.slice a len cap] w fun e w'=>e=.returned (.func (.func 119) #[] #[.pointer (some ⟨w.heap.size,0,none⟩)])/\w'=w.alloc (.cells #[.slice a len cap] 93):=by
 go_enter Tryz.func75,Tryz.ntmps75
 go_wp2_with fail
 go_ret;exact⟨rfl,rfl⟩
section
variable {α : Type} {R : Rel α} {size : Nat} {t : Qak} {lo : Nat} {w w' : Qah} {A : Option Qaj} {c : Nat} {xs : List α}
end
section
variable {g : Int -> Option (Ky × Ky)} {l : List It} {k : Nat} {x : It} {p : Ky × Ky} {t : Ky}
end
theorem Zvg {s:Rm} {n:Nd} (h:n.2.length=0):Zcs s n=none:=by
 have e:n.2=[]:=Pw h;unfold Zcs;rw[e];cases n.1.toNat with
 | zero=>simp[Yw]
 | succ l=>rfl
end Go.Proofs.YtgmbjnajdfgenaaGreat
namespace Go.Proofs.YtgmbjnajdfgenaaGreat
open Go.RowKit Go.Shelf
attribute [local go_sem] Oper.semAt_some
theorem Z8y {n0:Nat} {A:Qah} (hn:n0<=A.heap.size) {p:Qaj} {v:Qai} (hp:p.block<n0) (hc:A.cell? p=some v):Old A p/\A.cell? p=some v:=⟨Qi hp hn,hc⟩
end Go.Proofs.YtgmbjnajdfgenaaGreat
namespace Go.Proofs.YtgmbjnajdfgenaaGreat
open Go.RowKit Go.Shelf
attribute [local go_sem] Oper.semAt_some
end Go.Proofs.YtgmbjnajdfgenaaGreat
namespace Go.Proofs.YtgmbjnajdfgenaaGreat
open Go.RowKit Go.Shelf
attribute [local go_sem] Oper.semAt_some
end Go.Proofs.YtgmbjnajdfgenaaGreat
namespace Go.Proofs.YtgmbjnajdfgenaaGreat
open Go.RowKit Go.Shelf
attribute [local go_sem] Oper.semAt_some
def Zfz (w:Qah) (q:Sv):Prop:=∃ w0:Qah,w0.heap.size=q.hi/\Yj rIt 5 54 q.lo w0 q.A q.c q.nd.2/\∀ k,q.lo<=k->k<q.hi->w.heap[k]? = w0.heap[k]?
structure Rows (lo hi:Nat) (w:Qah) (l:List Sv):Prop where
 ok:∀ q∈l,lo<=q.lo/\q.lo<=q.hi/\q.hi<=hi/\Zfz w q
 apart:l.Pairwise fun p q=>p.hi<=q.lo
end Go.Proofs.YtgmbjnajdfgenaaGreat
namespace Go.Proofs.YtgmbjnajdfgenaaGreat
open Go.Shelf Go.RowKit Go.Lib Go.Sort
def Zoj:Go.Shelf.Ren:=⟨fun | 7=>118 | 10=>154 | n=>n,fun | 23=>139 | 26=>3 | 3=>137 | 28=>188 | 0=>0 | 27=>187 | 33=>180 | 4=>4 | n=>n,fun | n=>n⟩
theorem Yao:Go.Proofs.SlLaysZI.n7 Tryz.prog Zoj:={
 mixed:=by kernel_rfl,
 f7:=⟨Tryz.f118.name,by decide,Tryz.func118.trans (congrArg some (by kernel_rfl))⟩,
 f10:=⟨Tryz.f154.name,by decide,Tryz.func154.trans (congrArg some (by kernel_rfl))⟩,
 t0:=Tryz.underlying0,
 a0:=Tryz.isAgg0,
 z0:=Tryz.sizeOf0,
 v0:=Tryz.zeroValue0,
 t4:=Tryz.underlying4,
 a4:=Tryz.isAgg4,
 z4:=Tryz.sizeOf4,
 v4:=Tryz.zeroValue4,
 t23:=Tryz.underlying139,
 a23:=Tryz.isAgg139,
 z23:=Tryz.sizeOf139,
 v23:=Tryz.zeroValue139,
 t26:=Tryz.underlying3,
 a26:=Tryz.isAgg3,
 z26:=Tryz.sizeOf3,
 v26:=Tryz.zeroValue3,
 t27:=Tryz.underlying187,
 a27:=Tryz.isAgg187,
 z27:=Tryz.sizeOf187,
 v27:=Tryz.zeroValue187,
 t28:=Tryz.underlying188,
 a28:=Tryz.isAgg188,
 z28:=Tryz.sizeOf188,
 v28:=Tryz.zeroValue188,
 t33:=Tryz.underlying180,
 a33:=Tryz.isAgg180,
 z33:=Tryz.sizeOf180,
 v33:=Tryz.zeroValue180 }
def Zin:Go.Shelf.Ren:=⟨fun | 6=>117 | 8=>152 | 9=>153 | 11=>175 | 13=>177 | 12=>176 | 23=>203 | 24=>204 | 14=>194 | 15=>195 | 16=>196 | 17=>197 | 18=>198 | 19=>199 | 20=>200 | 21=>201 | 22=>202 | 25=>206 | 26=>207 | 27=>208 | 28=>209 | 29=>210 | 30=>211 | 31=>212 | n=>n,fun | 26=>3 | 28=>188 | 24=>52 | 0=>0 | 3=>3 | 37=>245 | 48=>32 | 50=>275 | 4=>4 | 40=>267 | 39=>266 | 45=>89 | 5=>5 | 9=>9 | 51=>278 | 55=>282 | 57=>284 | 58=>75 | 33=>180 | n=>n,fun | n=>n⟩
theorem Z85:Go.Proofs.SlLaysZI.n6 Tryz.prog Zin:={
 mixed:=by kernel_rfl,
 f6:=⟨Tryz.f117.name,by decide,Tryz.func117.trans (congrArg some (by kernel_rfl))⟩,
 f8:=⟨Tryz.f152.name,by decide,Tryz.func152.trans (congrArg some (by kernel_rfl))⟩,
 f11:=⟨Tryz.f175.name,by decide,Tryz.func175.trans (congrArg some (by kernel_rfl))⟩,
 t0:=Tryz.underlying0,
 a0:=Tryz.isAgg0,
 z0:=Tryz.sizeOf0,
 v0:=Tryz.zeroValue0,
 t24:=Tryz.underlying52,
 a24:=Tryz.isAgg52,
 z24:=Tryz.sizeOf52,
 v24:=Tryz.zeroValue52,
 t26:=Tryz.underlying3,
 a26:=Tryz.isAgg3,
 z26:=Tryz.sizeOf3,
 v26:=Tryz.zeroValue3,
 t28:=Tryz.underlying188,
 a28:=Tryz.isAgg188,
 z28:=Tryz.sizeOf188,
 v28:=Tryz.zeroValue188,
 i26:=by kernel_rfl }
def Z03:Go.Shelf.Ren:=⟨fun | 5=>153 | 8=>177 | 7=>176 | 19=>203 | 20=>204 | 10=>194 | 11=>195 | 12=>196 | 13=>197 | 14=>198 | 15=>199 | 16=>200 | 17=>201 | 18=>202 | 30=>206 | 31=>207 | 32=>208 | 33=>209 | 34=>210 | 35=>211 | 40=>212 | n=>n,fun | 23=>52 | 25=>3 | 3=>3 | 32=>245 | 22=>52 | 0=>0 | 44=>32 | 46=>275 | 4=>4 | 36=>267 | 35=>266 | 41=>89 | 5=>5 | 9=>9 | 53=>278 | 57=>282 | 63=>284 | 64=>75 | n=>n,fun | n=>n⟩
theorem Ybb:Go.Proofs.SlLaysM.n5 Tryz.prog Z03:={
 mixed:=by kernel_rfl,
 f5:=⟨Tryz.f153.name,by decide,Tryz.func153.trans (congrArg some (by kernel_rfl))⟩,
 f7:=⟨Tryz.f176.name,by decide,Tryz.func176.trans (congrArg some (by kernel_rfl))⟩,
 f8:=Tryz.func177.trans (congrArg some (by kernel_rfl)),
 f10:=⟨Tryz.f194.name,by decide,Tryz.func194.trans (congrArg some (by kernel_rfl))⟩,
 f11:=⟨Tryz.f195.name,by decide,Tryz.func195.trans (congrArg some (by kernel_rfl))⟩,
 f12:=⟨Tryz.f196.name,by decide,Tryz.func196.trans (congrArg some (by kernel_rfl))⟩,
 f13:=⟨Tryz.f197.name,by decide,Tryz.func197.trans (congrArg some (by kernel_rfl))⟩,
 f14:=⟨Tryz.f198.name,by decide,Tryz.func198.trans (congrArg some (by kernel_rfl))⟩,
 f15:=⟨Tryz.f199.name,by decide,Tryz.func199.trans (congrArg some (by kernel_rfl))⟩,
 f16:=⟨Tryz.f200.name,by decide,Tryz.func200.trans (congrArg some (by kernel_rfl))⟩,
 f17:=⟨Tryz.f201.name,by decide,Tryz.func201.trans (congrArg some (by kernel_rfl))⟩,
 f18:=⟨Tryz.f202.name,by decide,Tryz.func202.trans (congrArg some (by kernel_rfl))⟩,
 f19:=Tryz.func203.trans (congrArg some (by kernel_rfl)),
 f20:=Tryz.func204.trans (congrArg some (by kernel_rfl)),
 f30:=⟨Tryz.f206.name,by decide,Tryz.func206.trans (congrArg some (by kernel_rfl))⟩,
 f31:=Tryz.func207.trans (congrArg some (by kernel_rfl)),
 f32:=Tryz.func208.trans (congrArg some (by kernel_rfl)),
 f33:=⟨Tryz.f209.name,by decide,Tryz.func209.trans (congrArg some (by kernel_rfl))⟩,
 f34:=⟨Tryz.f210.name,by decide,Tryz.func210.trans (congrArg some (by kernel_rfl))⟩,
 f35:=⟨Tryz.f211.name,by decide,Tryz.func211.trans (congrArg some (by kernel_rfl))⟩,
 f40:=⟨Tryz.f212.name,by decide,Tryz.func212.trans (congrArg some (by kernel_rfl))⟩,
 t0:=Tryz.underlying0,
 a0:=Tryz.isAgg0,
 z0:=Tryz.sizeOf0,
 v0:=Tryz.zeroValue0,
 t3:=Tryz.underlying3,
 a3:=Tryz.isAgg3,
 z3:=Tryz.sizeOf3,
 v3:=Tryz.zeroValue3,
 t4:=Tryz.underlying4,
 a4:=Tryz.isAgg4,
 z4:=Tryz.sizeOf4,
 v4:=Tryz.zeroValue4,
 t5:=Tryz.underlying5,
 a5:=Tryz.isAgg5,
 z5:=Tryz.sizeOf5,
 v5:=Tryz.zeroValue5,
 t9:=Tryz.underlying9,
 a9:=Tryz.isAgg9,
 z9:=Tryz.sizeOf9,
 v9:=Tryz.zeroValue9,
 t22:=Tryz.underlying52,
 a22:=Tryz.isAgg52,
 z22:=Tryz.sizeOf52,
 v22:=Tryz.zeroValue52,
 t23:=Tryz.underlying52,
 a23:=Tryz.isAgg52,
 z23:=Tryz.sizeOf52,
 v23:=Tryz.zeroValue52,
 t25:=Tryz.underlying3,
 a25:=Tryz.isAgg3,
 z25:=Tryz.sizeOf3,
 v25:=Tryz.zeroValue3,
 t32:=Tryz.underlying245,
 a32:=Tryz.isAgg245,
 z32:=Tryz.sizeOf245,
 v32:=Tryz.zeroValue245,
 t35:=Tryz.underlying266,
 a35:=Tryz.isAgg266,
 z35:=Tryz.sizeOf266,
 v35:=Tryz.zeroValue266,
 t36:=Tryz.underlying267,
 a36:=Tryz.isAgg267,
 z36:=Tryz.sizeOf267,
 v36:=Tryz.zeroValue267,
 t41:=Tryz.underlying89,
 a41:=Tryz.isAgg89,
 z41:=Tryz.sizeOf89,
 v41:=Tryz.zeroValue89,
 t44:=Tryz.underlying32,
 a44:=Tryz.isAgg32,
 z44:=Tryz.sizeOf32,
 v44:=Tryz.zeroValue32,
 t46:=Tryz.underlying275,
 a46:=Tryz.isAgg275,
 z46:=Tryz.sizeOf275,
 v46:=Tryz.zeroValue275,
 t53:=Tryz.underlying278,
 a53:=Tryz.isAgg278,
 z53:=Tryz.sizeOf278,
 v53:=Tryz.zeroValue278,
 t57:=Tryz.underlying282,
 a57:=Tryz.isAgg282,
 z57:=Tryz.sizeOf282,
 v57:=Tryz.zeroValue282,
 t63:=Tryz.underlying284,
 a63:=Tryz.isAgg284,
 z63:=Tryz.sizeOf284,
 v63:=Tryz.zeroValue284,
 t64:=Tryz.underlying75,
 a64:=Tryz.isAgg75,
 z64:=Tryz.sizeOf75,
 v64:=Tryz.zeroValue75 }
end Go.Proofs.YtgmbjnajdfgenaaGreat
namespace Go.Proofs.YtgmbjnajdfgenaaGreat
open Go.RowKit Go.Maps Go.Sort Go.Shelf
def Zcm (W:Qah) (b:Nat) (K:List Int):Prop:=∃ (n:Nat) (D:DataW Unit),W.ownsMap Tryz.prog 3 unitElem b n D/\n<=K.length/\∀ x,has D (.int .i64 x)=true↔x∈K
theorem Xk {W W':Qah} {b:Nat} {K:List Int} {row:Option Nat} (h:Zcm W b K) (hg:W.grownBy W' row) (hne:some b≠row):Zcm W' b K:=by
 obtain⟨n,D,h1,h2,h3⟩:=h;exact⟨n,D,h1.kept hg hne,h2,h3⟩
theorem Z98 (m:Nat):AnyZI.SortsIn Tryz.prog Zin Fence.wide m :=
 ⟨fun blk off cap ss W hH hblk hsz=>callsIn_wide.2 (AnyM.slices_Sort_int Ybb blk off cap ss W hH hblk hsz),fun p cap W=>callsIn_wide.2 (AnyM.slices_Sort_int_none Ybb p cap W)⟩
theorem Zrm (b nn:Nat) (D0:DataW Unit) (w:Qah) (hown:w.ownsMap Tryz.prog 3 unitElem b nn D0) (hmax:Maps.size D0<=1000000) :
 Qao Tryz.prog 71 #[.map (some b)] w fun e w'=>∃ (v:Qai) (ss:List Int),e=.returned v/\ss.Perm (intKeys D0)/\w'.ownsRow w.heap.size 3 1 v ss.length ((ss.mergeSort (fun x y=>decide (x<=y))).map encZ)/\Qaq w.heap.size w w':=by
 refine(callsIn_wide (n:=6)).1 ?_;have hbl:=hown.lt;have hseq:SeqGives Fence.wide 2 Tryz.prog 154 #[.pointer (some ⟨w.heap.size,0,none⟩)] encZ (fun ss=>ss.Perm (intKeys D0)) (Maps.size D0) (w.alloc (.cells #[.map (some b)] 139)) :=
 AnyZI.keys_gives (ρ:=Zoj) { Yao with } Fence.wide _ trivial rfl (by omega) w.heap.size b nn D0 _ (by simp) (by simp) (hown.alloc _)
 have cK:∀ mb W,CallsIn Fence.wide 5 Tryz.prog 118 #[.map mb] W fun e w'=>e=.returned (.func (.func 154) #[] #[.pointer (some ⟨W.heap.size,0,none⟩)])/\w'=W.alloc (.cells #[.map mb] 139):=fun mb W=>AnyZI.keys_in Yao Fence.wide 5 trivial rfl mb W
 have cS:=AnyZI.sorted_in Z85 Fence.wide 5 trivial trivial trivial trivial rfl (by omega) (Z98 _) (enters_of Tryz.func153 (by kernel_rfl) rfl) 154 #[.pointer (some ⟨w.heap.size,0,none⟩)] trivial (enters_of Tryz.func154 (by kernel_rfl) rfl) _ _ (by unfold maxLen;omega) (by omega) _ hseq;change CallsIn _ _ Tryz.prog 117 _ _ _ at cS;replace cS:=Za cS;replace cK:=Za cK;clear hseq hown;refine callsIn_of_wp Tryz.func71 rfl trivial ?_ rfl;simp only[Tryz.ntmps71,Qy,Qo,Qz,Q0,Q3,Q4,Q5,Q6,Q7,Q8,Q9]
 gi_wp2_with fail
 refine⟨trivial,?_⟩
 gi_at_call 118
 refine(cK.out _ _).mono ?_;rintro e w1 ⟨rfl,rfl⟩
 gi_wp2_with fail
 refine⟨trivial,?_⟩
 gi_at_call 117
 refine cS.out.mono ?_;rintro e w2 ⟨v,ss,rfl,hS,hrow,_,hb⟩;replace hrow:=Za hrow;replace hb:=Za hb
 gi_wp2_with fail
 go_ret;exact⟨v,ss,rfl,hS,ownsRow_base_a hrow.out (by simp),((Qc _ w).alloc (Qb _) _).trans (hb.out.mono (by simp))⟩
end Go.Proofs.YtgmbjnajdfgenaaGreat
set_option maxRecDepth 100000
set_option maxHeartbeats 16000000
set_option maxRecDepth 100000
set_option maxHeartbeats 16000000
open Array renaming getElem?_eq_some_iff → Qc, replicate_succ → Ps, replicate_zero → Pt, ext_getElem? → Pw
open Bool renaming and_eq_true → Qg, eq_iff_iff → P4
open Go renaming Q1 → Qaf, Q2 → Qag, P2 → Qah, Qbl → Qai, Qbm → Qaj, Qbn → Qak, Qbo → Qal
open Go.Act renaming put → Qa
open Go.RowKit renaming Qbp → Qam
open Go.RowKit.Below renaming refl → Qb
open Go.World renaming cell?_of_block → Qp, cell? → Qz, grownBy_alloc → Q8, size_alloc → Q9, frozen? → Qab
open List renaming mem_cons_self → Qd, mem_append → Qf, getElem?_eq_getElem → Qh, length_cons → Qi, mem_of_mem_take → Qk, mem_append_right → Ql, length_append → Qm, mem_cons_of_mem → Qn, mem_singleton → Qo, getElem?_eq_some_iff → Qr, mem_of_mem_drop → Qs, flatMap_cons → Qt, flatMap_append → Qu, length_nil → Qv, mem_of_getElem? → Qw, mem_append_left → Qx, cons_append → Qy, drop_zero → Q0, drop_eq_getElem_cons → Q3, exists_cons_of_ne_nil → Q4, length_take → Q5, nil_append → Q7, map_append → Pb, getElem_mem → Pc, getElem?_take_of_lt → Pd, take_succ_cons → Pe, take_zero → Pf, drop_succ_cons → Pg, drop_of_length_le → Ph, length_drop → Pi, all_eq_true → Pj, take_add_one → Pk, mem_filter → Pm, flatMap_nil → Pn, append_nil → Po, size_toArray → Pp, push_toArray → Pu, append_toArray → Pv, pairwise_iff_getElem → Px, length_reverse → Py, getElem?_drop → Pz, reverse_singleton → P1, reverse_cons → P3, mem_cons → P5, mem_flatMap → P7, filter_eq_self → P8, take_of_length_le → P9, nodup_cons → Qaa, Pairwise → Qac, pairwise_cons → Qad, pairwise_append → Qae
open Nat renaming le_refl → Qe, lt_of_lt_of_le → Qj, le_trans → Qq, lt_or_ge → Q6, le_of_lt → Pa, reduceAdd → Pq, reduceSub → Pr
noncomputable section
namespace Go.Proofs.YtgmbjnajdfgenaaGreat
open Go.RowKit Go.Shelf Go.Maps
attribute [local go_sem] Oper.semAt_some
end Go.Proofs.YtgmbjnajdfgenaaGreat
namespace Go.Proofs.YtgmbjnajdfgenaaGreat
open Go.RowKit Go.Shelf
attribute [local go_sem] Oper.semAt_some
def Zh3 (x:Int):Ky:=(2,0,x)
def kx (n:Nat):It:=(Zh3 n,0,[])
def Ls:Nat->List It
 | 0=>[]
 | n+1=>Ls n++[kx (n+1)]
theorem Z6f:∀ n:Nat,n<=5->mayN (0,Ls n)=true
 | 0,_ | 1,_ | 2,_ | 3,_ | 4,_ | 5,_=>by decide +kernel
 | n+6,h=>absurd h (by omega)
def gS:Nat->Rm×Int
 | 0=>(mkV Zkl Ug,8)
 | n+1=>((Zl0 (gS n).1 (gS n).2 (kx (n+1))).2.1,(Zl0 (gS n).1 (gS n).2 (kx (n+1))).2.2)
def gA (n:Nat):Nat:=if n % 2=0 then 8 else 9
attribute [irreducible] gS
def Zxb:Ky:=(255,4294967295,4294967295)
theorem Z2h {x:It} (h:InI x):Z56 Zbm Zxb x=true:=by{
obtain⟨⟨⟨i0,i1⟩,o0,o1⟩,_⟩:=h;obtain⟨⟨k,i,o⟩,r,v⟩:=x
dsimp only at i0 i1 o0 o1
have hk:=k.toNat_lt;rw[Z4e];unfold Zo Zbm Zxb
dsimp only
constructor
·split
·exact decide_eq_false (by have:(0:UInt8).toNat=0:=rfl;omega)
·split
 ·exact decide_eq_false (by omega)
 ·exact decide_eq_false (by omega)
·split
·exact decide_eq_false (by have:(255:UInt8).toNat=255:=rfl;omega)
·split
 ·exact decide_eq_false (by omega)
 ·exact decide_eq_false (by omega)}
def fdE (s:Rm) (a:Int) (k:Ky):Int:=if ckE s a=0 then (if (Zga s a k).isSome=true then 0 else 6) else ckE s a
def fdV (s:Rm) (a:Int) (k:Ky):It:=if ckE s a=0 then (Zga s a k).getD Zer else Zer
theorem Zkr (v:Qag) (n:Nd) (key:Ky) (w:Qaf) (h:Nod (Old w) w v n) :
 Qal Tryz.prog 39 #[v,kyV key] w fun e w'=>e=.returned (.tuple #[.int .i64 (Z2 n key:Nat),.bool (Yn n key)])/\Qam w.heap.size w w':=Zc3 v n key w h
theorem Zzd:∀ (l:List It) (t:List UInt8),(∀ x∈l,x.2.1≠0->t[x.2.1.toNat]?.getD 0≠0)->ctE t l≠0->ctE t l=70
 | [],_,_,h=>absurd rfl h
 | x::l,t,hr,h=>by
 have hr':∀ y∈l,y.2.1≠0->t[y.2.1.toNat]?.getD 0≠0:=fun y hy=>hr y (Qn _ hy)
 unfold ctE at h ⊢;by_cases h0:x.2.1=0
 ·rw[if_pos h0] at h ⊢
 exact Zzd l t hr' h
 ·have hx:=hr x Qd h0
 rw[if_neg h0,if_neg hx] at h ⊢;by_cases h2:t[x.2.1.toNat]?.getD 0=255
 ·rw[if_pos h2]
 ·rw[if_neg h2] at h ⊢
 refine Zzd l _ (fun y hy hy0 => ?_) h;by_cases e:y.2.1.toNat=x.2.1.toNat
 ·have hin:x.2.1.toNat<t.length:=by
  rcases Q6 x.2.1.toNat t.length with hl | hl
  ·exact hl
  ·rw[List.getElem?_eq_none hl] at hx
  exact absurd rfl hx;rw[e,Zb0 hin];intro hz;have:=Zty h2;rw[hz] at this;simp at this
 ·rw[Vr e]
  exact hr' y hy hy0
theorem Ztb {s:Rm} {n:Nd} (hm:Xl s=true) (hn:mayN n=true) (hr:∀ x∈n.2,x.2.1≠0->s.2.1[x.2.1.toNat]?.getD 0≠0) (h:mkE s n≠0):mkE s n=9\/mkE s n=70:=by{
have e:mkE s n=if ctE s.2.1 n.2=0 then tkE (ctS s n) (Vd n) else ctE s.2.1 n.2:=by
unfold mkE;rw[hm,hn];rfl;rw[e] at h ⊢;by_cases hc:ctE s.2.1 n.2=0
·rw[if_pos hc] at h ⊢
exact .inl (Z9h (Z0c hm hn hc) (Zcu hn) h).1
·rw[if_neg hc]
exact .inr (Zzd _ _ hr hc)}
theorem Zrx {lv:Int} {L:List It} (h0:0<=lv) (h6:lv<6) (h5:L.length<=5) (hne:0<L.length) (hu:Up L) (hk:∀ x∈L,okP lv x=true):mayN (lv,L)=true:=by{
refine Zyz ⟨h0,h6,h5,fun _=>hne⟩ fun i hi => ?_
have hi':i<L.length:=hi;have hx:(lv,L).2[i]? = some L[i]:=Qh hi';cases i with
| zero=>rw[Zj9 hx];exact hk _ (Pc hi')
| succ j =>
have hj:j<L.length:=by omega
rw[Zfw hx (Qh hj),hk _ (Pc hi'),Bool.true_and];exact Px.1 hu j (j+1) hj hi' (by omega)}
theorem Zqe {s u:Rm} {lv e:Int} {L up:List It} (h0:0<=lv) (h6:lv<6) (hl:L.length<=6) (hne:0<L.length) (hu:Up L) (hk:∀ x∈L,okP lv x=true) (hm:Xl s=true) (hr:∀ x∈L,x.2.1≠0->s.2.1[x.2.1.toNat]?.getD 0≠0) (h:Zq s lv L=(e,u,up)) (he:e≠0):(e=9\/e=70)/\u=Zi/\up=[]:=by{
unfold Zq at h;split at h
·rename_i h5
split at h
·cases h;exact absurd rfl he
·cases h
 exact⟨Ztb hm (Zrx h0 h6 h5 hne hu hk) hr he,rfl,rfl⟩
·rename_i h5
have ht:mayN (lv,L.take 3)=true:=Zrx h0 h6 (by rw[Q5];omega) (by rw[Q5];omega) (hu.sublist (List.take_sublist _ _)) fun x hx=>hk x (Qk hx)
have hd:mayN (lv,L.drop 3)=true:=Zrx h0 h6 (by rw[Pi];omega) (by rw[Pi];omega) (hu.sublist (List.drop_sublist _ _)) fun x hx=>hk x (Qs hx)
split at h
·rename_i h1
 split at h
 ·cases h;exact absurd rfl he
 ·cases h
 have hkp:=Uc h1;exact⟨Ztb hkp.may hd (fun x hx hx0=>hkp.held _ (hr x (Qs hx) hx0)) he,rfl,rfl⟩
·cases h
 exact⟨Ztb hm ht (fun x hx=>hr x (Qk hx)) he,rfl,rfl⟩}
end Go.Proofs.YtgmbjnajdfgenaaGreat
set_option maxRecDepth 100000
set_option maxHeartbeats 16000000
set_option maxRecDepth 100000
set_option maxHeartbeats 16000000
open Array renaming getElem?_eq_some_iff → Qd, replicate_succ → Ps, replicate_zero → Pt, getElem?_replicate → Qab
open Bool renaming and_eq_true → Q3
open Go renaming Q1 → Qac, Q2 → Qad, P2 → Qae, Qbk → Qaf, Qbl → Qag, Qbm → Qah, Qbn → Qai, Qbo → Qaj, Ending → Qak
open Go.Act renaming put → Qa
open Go.Builtin renaming append_ → Q6, clear_ → P3
open Go.RowKit renaming Qbp → Qal
open Go.RowKit.Below renaming refl → Qb
open Go.World renaming cell?_of_block → Qg, block_lt_of_cell? → Pc, ownsRow_nil → Pp, cell? → P5, setCell → Qaa
open List renaming mem_append → Qf, getElem?_eq_getElem → Qh, mem_of_getElem? → Qi, length_append → Qj, mem_singleton → Qk, getElem?_eq_some_iff → Qm, mem_of_mem_take → Qn, length_take → Qo, mem_of_mem_drop → Qp, take_zero → Qq, take_succ_cons → Qr, drop_succ_cons → Qs, drop_zero → Qt, take_add_one → Qu, getElem?_set_ne → Qv, not_mem_nil → Qw, length_drop → Qx, map_append → Qy, mem_cons → Qz, getElem?_of_mem → Q0, length_pos_iff → Q4, getElem?_take_of_lt → Q5, length_cons → Q7, length_nil → Q8, take_take → Pa, length_map → Pb, size_toArray → Pd, getElem?_set_self → Pg, length_set → Ph, take_of_length_le → Pi, getElem?_drop → Pj, mem_cons_self → Pk, getElem?_append_left → Pn, getElem?_append_right → Po, push_toArray → Pu, append_toArray → Pv, nil_append → Pw, cons_append → Px, mem_append_left → Py, mem_append_right → Pz, exists_mem_of_ne_nil → P1, drop_of_length_le → P4, map_take → P8, map_drop → P9
open Nat renaming le_refl → Qc, le_trans → Qe, lt_of_lt_of_le → Ql, sub_self → Q9, zero_add → Pe, min_eq_left → Pf, eq_zero_or_pos → Pm, reduceAdd → Pq, reduceSub → Pr, lt_succ_self → P7
noncomputable section
namespace Go.Proofs.YtgmbjnajdfgenaaGreat
open Go.RowKit
end Go.Proofs.YtgmbjnajdfgenaaGreat
namespace Go.Proofs.YtgmbjnajdfgenaaGreat
open Go.RowKit Go.Shelf
attribute [local go_sem] Oper.semAt_some
def Kn (K:Nat->Prop) (W:Qac):Qae->Prop:=fun p=>K p.block/\p.block<W.heap.size
theorem Zel {K:Nat->Prop} {W:Qac} {v:Qad} {s:Rm} (h:Sto (Kn K W) W v s):Sto (Old W) W v s:=h.map fun _ _ hp hc=>⟨hp.2,hc⟩
theorem Ze5 {C Y:List Qad} {a:Nat} (h:a<=C.length):(splice C a Y).take a=C.take a:=by
 unfold splice;rw[List.take_append_of_le_length (by rw[Qo];omega),Pa,Nat.min_self]
def Z5t (lo:Nat) (w:Qac) (A:Option Qae) (c:Nat) (L:List Iv) (e:Qak) (w':Qac):Prop:=e=.returned (.slice A L.length c)/\w'.ownsRow lo 54 5 (.slice A L.length c) L.length (Zj L)/\w.grownBy w' (A.map (·.block))
def Zkq:List Qad:=[.int .u8 0,.int .u32 0,.int .u32 0,.int .i64 0,.slice none 0 0]
theorem Zwp {w:Qac} (ty:Qaf) (g o c:Nat) (C:List Qad) (t:Qaf) (hg:w.heap[g]? = some (.cells C.toArray t (0,0))) (hfit:o+5<=C.length) :
 (P3 #[39] ty #[.slice (some ⟨g,o,none⟩) 1 c]).run Tryz.prog w=.ok (.tuple #[]) (w.setRow g (splice C o Zkq).toArray):=by
 have hst:=run_storeCells_at Tryz.prog g o t Zkq 0 C.toArray w hg (by simpa [Zkq] using hfit) (by intro v hv;simp[Zkq] at hv;rcases hv with rfl | rfl | rfl | rfl | rfl <;> rfl);have hz:(Builtin.zeroCells (Value.agg #[.int .u8 0,.int .u32 0,.int .u32 0,.int .i64 0,.slice none 0 0]).cells 1).toList=Zkq:=by kernel_rfl
 simp only[Nat.add_zero] at hst;simp[P3,run_underlying Tryz.underlying39,hz,hst,splice]
theorem Zap {w:Qac} {ops:Array Oper} {rest:List Oper} {o:Oper} {a:Act} {Q:Exit->Act->Qac->Prop} (hgd:o.guard=none) (x:Operand)
 (ho:o.op=.call { callee:=.builtin .clear,args:=#[x],argTypes:=#[39] }) (A:Option Qae) (m c:Nat) (hx:a.eval x=.slice A m c) (hm:m=1) (g off:Nat) (hA:A=some ⟨g,off,none⟩) (C:List Qad) (t:Qaf) (hg:w.heap[g]? = some (.cells C.toArray t (0,0))) (hfit:off+5<=C.length)
 (h:∀ w',Hid (w'.heap[g]? = some (.cells (splice C off Zkq).toArray t (0,0)))->Hid (w.grownBy w' (some g))->wpList Tryz.prog ops Q rest (a.put o.dst (.tuple #[])) w'):wpList Tryz.prog ops Q (o::rest) a w:=by
 subst hm;subst hA;refine wpList_plain hgd fun K hK => ?_
 have hrun:=Zwp (w:=w) o.type g off c C t hg hfit;unfold Oper.wp;simp[execOp,ho,resolve,invoke,builtin,hx,hrun,Result.andThen];exact hK _ _ (h _ (show _=_ by simpa using setRow_heap w g _ _ t _ hg) (Zdg _))
theorem Zqg {w:Qac} {b i c m cc:Nat} {C:List Qad} {ad:Qae} {cs:List Qad} (hg:w.heap[b]? = some (.cells (List.toArray C) 54 (0,0))) (hC5:C.length=c*5) (hfit:i+m<=c) (hl:cs.length=m*5) (hcs:∀ k v,cs[k]? = some v->w.cell? (ad.add k)=some v) (h1:∀ v∈cs,v.oneCell'=true) :
 ∃ w2,(Q6 #[39,39] 39 #[.slice (some ⟨b,0,none⟩) i c,.slice (some ad) m cc]).run Tryz.prog w=.ok (.slice (some ⟨b,0,none⟩) (i+m) c) w2/\w2.heap[b]? = some (.cells (splice C (i*5) cs).toArray 54 (0,0))/\w.grownBy w2 (some b):=by
 obtain⟨i0,hi0,hz0,hz1,hz2⟩:=info_parts Va;have hr:=run_append_room (P:=Tryz.prog) w 39 39 54 i0 Tryz.underlying39 hi0 b i c C.toArray hg ad m cc cs (by rw[hl,hz1]) hcs h1 hfit (by rw[hz1,hl,Pd,hC5];omega);rw[hz1] at hr;refine⟨_,hr,?_,Zdg _⟩;have:=setRow_heap w b C.toArray (C.toArray.toList.take (i*5)++cs++C.toArray.toList.drop (i*5+cs.length)).toArray 54 (0,0) hg
 simpa [splice] using this
theorem Zvp (A:Option Qae) (lo n c i j:Nat) (ps:List Iv) (w:Qac) (h:w.ownsRow lo 54 5 (.slice A n c) n (Zj ps)) (hj:j=i+1) (hi:j<=n) (hbig:n<=1000) (hp1:∀ p∈ps,p.2.oneCell'=true) :
 Qaj Tryz.prog 49 #[.slice A n c,.int .i64 i,.int .i64 j] w (Z5t lo w A c (ps.take i++ps.drop j)):=by
 have hpl:=Zb1 h;have hone:=Xh hp1;obtain⟨ad,rfl⟩:∃ ad,A=some ad:=by
 obtain⟨_,_,e,_,_,_,h5⟩:=Yi h;cases e;exact h5 (by omega);obtain⟨b,C,rfl,hbl,hbs,hg,hnc,hcM,hC5,hC⟩:=Yg h;have hcm:c<=9223372036854775807:=by unfold maxLen at hcM;exact hcM
 have a1:¬ ((i:Int)=(j:Int)):=by omega
 have a2:(i:Int)<=(j:Int):=by omega
 have a3:(j:Int)<=(n:Int):=by omega
 have a4:(j:Int)<=(c:Int):=by omega
 have a5:(n:Int)<=(c:Int):=by omega
 have a6:(i:Int)<=(c:Int):=by omega
 have a7:¬ c=i:=by omega
 obtain⟨tot,htot⟩:∃ tot,tot=i+(n-j):=⟨_,rfl⟩
 have b1:(tot:Int)<=(n:Int):=by omega
 have b2:¬ c=tot:=by omega
 have b3:(tot:Int)<=(c:Int):=by omega
 have hd:(Zj (ps.drop j)).length=(n-j)*5:=by rw[Y0,Qx,hpl]
 have HO:=Xh (ps:=ps.drop j) fun p hp=>hp1 p (Qp hp)
 have el:(ps.take i++ps.drop j).length=tot:=by rw[Qj,Qo,Qx,hpl];omega
 have hrun:Hid (∀ (ad:Qae) (cc:Nat),(∀ k v,(Zj (ps.drop j))[k]? = some v->w.drew.cell? (ad.add k)=some v)->∃ w2,(Q6 #[39,39] 39 #[.slice (some ⟨b,0,none⟩) i c,.slice (some ad) (n-j) cc]).run Tryz.prog w.drew=.ok (.slice (some ⟨b,0,none⟩) tot c) w2/\w2.heap[b]? = some (.cells (splice C (i*5) (Zj (ps.drop j))).toArray 54 (0,0))/\w.drew.grownBy w2 (some b)):=Za fun ad cc hcs=>by
 have:=Zqg (w:=w.drew) (b:=b) (i:=i) (c:=c) (m:=n-j) (cc:=cc) (ad:=ad) (show w.drew.heap[b]? = _ from hg) hC5 (by omega) hd hcs HO;rw[<- htot] at this;exact this;have S1:Hid ((splice C (i*5) (Zj (ps.drop j))).length=C.length):=Za (length_splice _ _ _ (by rw[hd,hC5];omega));have hfin:Hid (∀ (w2 W:Qac),w.drew.grownBy w2 (some b)->W.heap[b]? = some (.cells (splice (splice C (i*5) (Zj (ps.drop j))) (tot*5) Zkq).toArray 54 (0,0))->w2.grownBy W (some b)->Z5t lo w (some ⟨b,0,none⟩) c (ps.take i++ps.drop j) (.returned (.slice (some ⟨b,0,none⟩) tot c)) W):=Za fun w2 W h0 h1 h2=>by
 refine⟨by rw[el],?_,Xz (Yv h0 h2)⟩;rw[el];refine Xq hbl h1 (by omega) hcM (by rw[length_splice _ _ _ (by rw[S1.out,hC5];show tot*5+5<=c*5;omega),S1.out,hC5]) ?_;rw[Ze5 (by rw[S1.out,hC5];omega),show tot*5=i*5+(Zj (ps.drop j)).length by rw[hd];omega,Zbq (by rw[hC5];omega),Yl,X4,<- hC,Pa,Pf (by omega)];have P0:Hid (∀ k v,(Zj (ps.drop j))[k]? = some v->w.drew.cell? ((⟨b,j*5,none⟩:Qae).add k)=some v):=Za (Zbd h j);have hnil:Hid (j=n->∀ (ad:Qae) k v,(Zj (ps.drop j))[k]? = some v->w.drew.cell? (ad.add k)=some v):=Za fun e ad k v hv=>by
 rw[P4 (by omega)] at hv;cases hv;have hfit:Hid (tot*5+5<=(splice C (i*5) (Zj (ps.drop j))).length):=Za (by rw[S1.out,hC5];omega);have h1:Hid (n-tot=1):=Za (by omega);have hcn:Hid (c=j->j=n):=Za (by omega);replace hj:=Za hj;replace htot:=Za htot;clear h hp1 hone HO hd el hC hC5 hg hpl S1
 go_enter Tryz.func49,Tryz.ntmps49
 by_cases hcj:c=j
 ·obtain⟨w2,hr2,hg2,hb2⟩:=hrun.out ⟨b,0,none⟩ 0 (hnil.out (hcn.out hcj) _)
 have hjn:=hcn.out hcj;subst hcj;subst hjn;rw[Q9] at hr2;have HR:=Za hr2;have HG:=Za hg2;have HB:=Za hb2;clear hr2 hg2 hb2
 go_upto_region 5 with fail
 go_still_tail 6,(by kernel_rfl)
 refine Zp rfl _ _ _ rfl rfl rfl HR.out ?_
 go_wp2_with (refine Zap rfl _ rfl _ _ _ rfl h1.out b (tot*5) rfl _ _ HG.out hfit.out ?_;intro w3 hg3 hb3)
 go_ret;exact hfin.out w2 _ HB.out hg3.out hb3.out
 ·obtain⟨w2,hr2,hg2,hb2⟩:=hrun.out ⟨b,j*5,none⟩ (c-j) P0.out
 have HR:=Za hr2;have HG:=Za hg2;have HB:=Za hb2;clear hr2 hg2 hb2
 go_upto_region 5 with fail
 go_still_tail 6,(by kernel_rfl)
 refine Zp rfl _ _ _ rfl rfl rfl HR.out ?_
 go_wp2_with (refine Zap rfl _ rfl _ _ _ rfl h1.out b (tot*5) rfl _ _ HG.out hfit.out ?_;intro w3 hg3 hb3)
 go_ret;exact hfin.out w2 _ HB.out hg3.out hb3.out
end Go.Proofs.YtgmbjnajdfgenaaGreat
namespace Go.Proofs.YtgmbjnajdfgenaaGreat
open Go.RowKit Go.Shelf
end Go.Proofs.YtgmbjnajdfgenaaGreat
namespace Go.Proofs.YtgmbjnajdfgenaaGreat
open Go.RowKit Go.Shelf
attribute [local go_sem] Oper.semAt_some
theorem Zsh (v:Qad) (s:Rm) (n:Int) (w:Qac) (h:Sto (Old w) w v s) :
 Qaj Tryz.prog 53 #[v,.int .i64 n] w fun e W'=>∃ qa qb qc qd:Option Qae×Nat×Nat,e=.returned (.tuple #[.agg #[.slice qa.1 qa.2.1 qa.2.2,.slice qb.1 qb.2.1 qb.2.2,.slice qc.1 qc.2.1 qc.2.2,.slice qd.1 qd.2.1 qd.2.2],.int .i64 (shE s n)])/\Sto (New w.heap.size W') W' (.agg #[.slice qa.1 qa.2.1 qa.2.2,.slice qb.1 qb.2.1 qb.2.2,.slice qc.1 qc.2.1 qc.2.2,.slice qd.1 qd.2.1 qd.2.2]) (shV s n)/\Qal w.heap.size w W' :=
 (Zrw v s n w h).mono fun _ _ ⟨A,ca,B,cb,N,cn,L,cl,h1,h2,h3⟩=>⟨(A,_,ca),(B,_,cb),(N,_,cn),(L,_,cl),h1,h2,h3⟩
end Go.Proofs.YtgmbjnajdfgenaaGreat
set_option maxRecDepth 100000
set_option maxHeartbeats 16000000
namespace Go.Proofs.YtgmbjnajdfgenaaGreat
open Go.RowKit
end Go.Proofs.YtgmbjnajdfgenaaGreat
