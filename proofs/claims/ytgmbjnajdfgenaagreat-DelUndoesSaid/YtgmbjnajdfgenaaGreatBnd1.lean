/-
  Lemmas on the program and on the document's answers, gathered: Bnd1, Bnd2. Conditions: those that each lemma states.
-/
import Derived.Test.YtgmbjnajdfgenaaGreatRows
import Derived.WalkKit
import Derived.WalkLawsBesides
import Derived.WalkSpells
import Derived.ProofKit
import Derived.OpenShut
import Derived.Carry
import Derived.Laws.IdiomStrings
import Derived.BigQuiet
import Derived.Deep.DeepCutAuto
import Derived.Deep.RegionWith
import Derived.OwnWalk
import Derived.Laws.AppendOwn
import Derived.Maps.AppendAt
import Derived.Deep.QuietTactic
import Derived.Deep.Slices
import Derived.Lib.SmallJoins
import Derived.Deep.CutBlock
import Derived.Lib.Hide
import Derived.Outline
import Derived.Laws.BitsAllLaws
import Derived.Laws.BitsLemmas
import Derived.Laws.Rows
import Derived.Laws.CopyOwn
import Derived.Laws.MakeOwn
import Derived.Orders
import Derived.Below
import Derived.Laws.World
import Derived.BigRegion
import Derived.StillTailTactics
import Derived.IntWalk
import Derived.Laws.OwnMore
import Derived.RangeFuncCalls
import Derived.OrdersIn
import Derived.AtR
import Derived.RangeFuncNested
import Derived.RangeFuncBox
import Derived.RangeFuncBound
import Derived.RangeFuncLeaves
import Derived.Shelf.Abstract
import Derived.Shelf.RegionOpen
import Derived.OwnWalkIn
import Derived.TacticsInMore
import Derived.LoopNIn
import Derived.LoopIn
import Derived.Deep.RegionHeld3
import Derived.Deep.AppendLies
import Derived.Lib.AppendZerosOnto
import Derived.Deep.CutRange
import Derived.Laws.StructEq
import Derived.Deep.RegionLaw
import Derived.Lib.Overlaps
set_option maxRecDepth 100000
set_option maxHeartbeats 16000000
set_option maxRecDepth 100000
set_option maxHeartbeats 16000000
set_option maxRecDepth 100000
set_option maxHeartbeats 16000000
open Array renaming getElem?_eq_some_iff → Qe, getD → Qk, replicate → Ql, getElem?_eq_getElem → Qu, replicate_succ → Qv, ext → Q7, replicate_zero → Pe, getElem?_push → Pn, getD_eq_getD_getElem? → Ps, mem_append → Pt, all_eq_true_iff_forall_mem → P1, any_eq_true' → P3, getElem?_modify → P7, getElem?_toList → Qaj, getElem?_setIfInBounds_ne → Qaw, getElem?_eq_none → Qax
open Bool renaming and_eq_true → Qj, or_eq_true → Q8, false_ne_true → Pz
open Go renaming World → Qa6, Value → Qa7, Addr → Qa8, Exit → Qa9, Oper → Qba, Act → Qbb, TypeId → Qbc, bodyPost_ret → Qbd, heap_alloc_new → Qbe, undef → Qbf, Calls → Qbg
open Go.Act renaming put → Qh
open Go.Builtin renaming append_ → Pi, lenOf → Qal, firstCells → Qam
open Go.Region renaming wanted → Qc, ready → Qf, binds → Qg, noSelect → Pq, free → Qae, noSelect_spec → Qaz
open Go.RowKit renaming Below → Qbh
open Go.RowKit.Below renaming refl → Qb, heap_alloc → Qa3
open Go.World renaming block_lt_of_cell? → Qr, frozen? → Q4, ownsRow_made → Px, ownsRow_nil → Py, setCell → P5, cell?_setCell_same' → Qag, size_alloc → Qaq, cell? → Qa1, cell?_of_block → Qa2
open List renaming getElem?_eq_getElem → Qd, getElem?_eq_some_iff → Qi, all_eq_true → Qm, range → Qn, length_cons → Qo, mem_range → Qp, mem_cons → Qs, cons_append → Qw, eq_nil_of_length_eq_zero → Qx, mem_map → Qy, take_of_length_le → Qz, length_nil → Q0, take_append_drop → Q5, getElem?_of_mem → Q6, eq_nil_iff_forall_not_mem → Q9, size_toArray → Pb, push_toArray → Pf, append_toArray → Pg, nil_append → Ph, replicate → Pj, length_filter_le → Pm, getElem?_set_ne → Po, mem_filter → Pr, mem_append_left → Pu, mem_append_right → Pv, take_add_one → Pw, take_add → P4, getElem?_set_self → P8, cons_ne_nil → P9, dropLast_cons_of_ne_nil → Qaa, dropLast_singleton → Qab, getLast_cons → Qac, getLast_singleton → Qad, mem_toArray → Qaf, append_nil → Qah, getElem?_map → Qak, getElem?_append_left → Qan, mem_of_getElem? → Qao, length_append → Qap, setIfInBounds_toArray → Qar, set_cons_zero → Qas, set_cons_succ → Qat, range_succ → Qau, drop_eq_getElem_cons → Qav, drop_eq_nil_of_le → Qa0, length_take_le → Qa4, mem_append → Qa5
open Nat renaming le_refl → Qa, le_trans → Qq, mul_one → Qt, add_zero → Q3, lt_of_lt_of_le → Pa, reduceAdd → Pc, reduceSub → Pd, zero_le → Pk, eq_zero_or_pos → Pp, add_assoc → Qai, le_of_not_lt → Qay
open Go renaming Operand → Qbj
open Go.World renaming setRow → Qbi
open List renaming map_toArray → Pl, map_cons → P0, map_nil → P6
namespace Go.Proofs.YtgmbjnajdfgenaaGreat
open Go.ChangeShapes Go.WideShapes Go.RowKit
section
variable {H : Type} {enc : Qbc × Qa7 -> H} {P : Program}
end
def Byt (w:Qa6) (B:Nat) (A:Option Qa8) (xs:List UInt8):Prop :=
 0<xs.length->∃ ad,A=some ad/\ad.block<B/\∀ j,j<xs.length->w.cell? (ad.add j)=some (.int .u8 ((xs[j]?.getD 0).toNat:Int))
theorem Zbh {B:Nat} {a w:Qa6} (h:Qbh B a w) (n:Nat):Qbh B a (w.drewN n):=⟨h.os,h.tape,h.output,h.size,h.block⟩
theorem Zh (a:Qa8) (n:Nat):(a.add n).block=a.block:=by unfold Addr.add;split <;> rfl
theorem Zm9 (a:Qa8) (i j:Nat):(a.add i).add j=a.add (i+j):=by
 unfold Addr.add;by_cases hi:i=0 <;> by_cases hj:j=0 <;> simp[hi,hj,Qai]
section
variable {w w' : Qa6} {B B' : Nat} {A : Option Qa8} {xs : List UInt8}
end
theorem Ym {a b:Bool} (h:a=b):Ending.returned (.bool a)=.returned (.bool b):=by rw[h]
theorem Z1 {k:IntKind} {a b:Int} (h:a=b):Ending.returned (.int k a)=.returned (.int k b):=by rw[h]
theorem Z4q {w w1 w2:Qa6} (h:Qbh w.heap.size w w1) (h2:Qbh w1.heap.size w1 w2):Qbh w.heap.size w w2:=h.trans (h2.mono h.size)
theorem Zdi {w w1:Qa6} (h:Qbh w.heap.size w w1) (o:Obj):Qbh w.heap.size w (w1.alloc o):=h.alloc h.size o
def u8s (xs:List UInt8):List Qa7:=xs.map fun x=>Value.int .u8 (x.toNat:Int)
theorem Zp {P:Program} {w:Qa6} {ops:Array Qba} {rest:List Qba} {o:Qba} {a:Qbb} {Q:Qa9->Qbb->Qa6->Prop} (hgd:o.guard=none) (s x:Qbj) (t:Qbc)
 (ho:o.op=.call { callee:=.builtin .append,args:=#[s,x],argTypes:=#[t,t] }) {v u v':Qa7} {w':Qa6} (hs:a.eval s=v) (hx:a.eval x=u)
 (hrun:(Pi #[t,t] o.type #[v,u]).run P w=.ok v' w') (h:wpList P ops Q rest (a.put o.dst v') w'):wpList P ops Q (o::rest) a w :=
 wpList_plain hgd fun _ hK=>by
 unfold Oper.wp execOp;simp only[ho,resolve,invoke,builtin,Sem.run_bind,Sem.run_pure,Result.andThen_ok,Pl,P0,P6,hs,hx,hrun];exact hK _ _ h
end Go.Proofs.YtgmbjnajdfgenaaGreat
namespace Go.Proofs.YtgmbjnajdfgenaaGreat
open Go.ChangeShapes Go.WideShapes Go.RowKit
abbrev Rel (α:Type):=(Qa8->Prop)->Qa6->List Qa7->α->Prop
def rK (k:IntKind):Rel Int:=fun _ _ cs n=>cs=[.int k n]/\k.min<=n/\n<=k.max
def rU8:Rel UInt8:=fun _ _ cs x=>cs=[.int .u8 (x.toNat:Int)]
def rSl {α:Type} (n:Nat) (R:Rel α):Rel (List α):=fun ok w cs xs=>∃ A cap,cs=[.slice A xs.length cap]/\xs.length<=cap/\cap<=9223372036854775807 /\
 ∀ i x,xs[i]? = some x->∃ ad vs,A=some ad/\vs.length=n/\(∀ j v,vs[j]? = some v->ok (ad.add (i*n+j))/\w.cell? (ad.add (i*n+j))=some v)/\R ok w vs x
def Zjx {α β:Type} (R:Rel α) (S:Rel β):Rel (α×β):=fun ok w cs x=>∃ c d,cs=c++d/\R ok w c x.1/\S ok w d x.2
def Old (w:Qa6):Qa8->Prop:=fun p=>p.block<w.heap.size
def New (lo:Nat) (w:Qa6):Qa8->Prop:=fun p=>lo<=p.block/\p.block<w.heap.size/\w.frozen? p=false
def Ze2 {α:Type} (R:Rel α):Prop:=∀ (ok ok':Qa8->Prop) (w w':Qa6) (cs:List Qa7) (x:α),(∀ p v,ok p->w.cell? p=some v->ok' p/\w'.cell? p=some v)->R ok w cs x->R ok' w' cs x
theorem Zgb (k:IntKind):Ze2 (rK k):=fun _ _ _ _ _ _ _ h=>h
theorem Zyy:Ze2 rU8:=fun _ _ _ _ _ _ _ h=>h
theorem Uf {α:Type} {n:Nat} {R:Rel α} (h:Ze2 R):Ze2 (rSl n R):=fun ok ok' w w' cs xs hk hr=>by
 obtain⟨A,cap,h1,h2,h3,h4⟩:=hr;refine⟨A,cap,h1,h2,h3,fun i x hi => ?_⟩;obtain⟨ad,vs,e1,e2,e3,e4⟩:=h4 i x hi;exact⟨ad,vs,e1,e2,fun j v hj=>hk _ _ (e3 j v hj).1 (e3 j v hj).2,h _ _ _ _ _ _ hk e4⟩
theorem Zdr {α β:Type} {R:Rel α} {S:Rel β} (h:Ze2 R) (h':Ze2 S):Ze2 (Zjx R S):=fun ok ok' w w' cs xs hk hr=>by
 obtain⟨c,d,h1,h2,h3⟩:=hr;exact⟨c,d,h1,h _ _ _ _ _ _ hk h2,h' _ _ _ _ _ _ hk h3⟩
section
variable {α : Type} {R : Rel α} (hR : Ze2 R) {w w' : Qa6} {cs : List Qa7} {x : α}
include hR
end
theorem Zd7 (a:Qa8) (i:Nat):a.add (i+1)=⟨(a.add i).block,(a.add i).off+1,none⟩:=by
 unfold Addr.add;by_cases hi:i=0 <;> simp[hi,Qai]
def rBy:Rel (List UInt8):=rSl 1 rU8
theorem Zf:Ze2 rBy:=Uf Zyy
theorem Zt {ok:Qa8->Prop} {w:Qa6} {v:Qa7} {xs:List UInt8} (h:rBy ok w [v] xs):∃ A cap,v=.slice A xs.length cap/\xs.length<=cap/\cap<=9223372036854775807 /\
 ∀ i,i<xs.length->∃ ad,A=some ad/\ok (ad.add i)/\w.cell? (ad.add i)=some (.int .u8 ((xs[i]?.getD 0).toNat:Int)):=by
 obtain⟨A,cap,h1,h2,h3,h4⟩:=h;refine⟨A,cap,by simpa using h1,h2,h3,fun i hi => ?_⟩;obtain⟨ad,vs,e1,_,e3,e4⟩:=h4 i _ (Qd hi);unfold rU8 at e4;subst e4;have:=e3 0 _ rfl;rw[Qt,Q3] at this;exact⟨ad,e1,this.1,by rw[this.2,Qd hi];rfl⟩
theorem Ve {ok:Qa8->Prop} {w:Qa6} {B:Nat} {v:Qa7} {xs:List UInt8} (hok:∀ p,ok p->p.block<B) (h:rBy ok w [v] xs):∃ A cap,v=.slice A xs.length cap/\xs.length<=cap/\cap<=9223372036854775807/\Byt w B A xs:=by
 obtain⟨A,cap,h1,h2,h3,h4⟩:=Zt h;refine⟨A,cap,h1,h2,h3,fun hp => ?_⟩;obtain⟨ad,rfl,hb,_⟩:=h4 0 hp;refine⟨ad,rfl,by have:=hok _ hb;rwa [Zh] at this,fun j hj => ?_⟩;obtain⟨ad',e,_,hc⟩:=h4 j hj;cases e;exact hc
theorem Zhm {w:Qa6} {base n:Nat} {t:Qbc} {v:Qa7} {xs:List UInt8} (h:w.ownsRow base t 1 v n (u8s xs)):rBy (New base w) w [v] xs:=by{
have hl:xs.length=n:=by simpa [u8s] using h.1
subst hl;rcases h.2 with ⟨rfl,h0⟩ | ⟨g,cap,cur,rfl,hbg,hg,hnc,hcm,_,_⟩
·have:xs=[]:=Qx h0
subst this;exact⟨none,0,rfl,by simp,by omega,fun i x hi=>by simp at hi⟩
·refine⟨_,cap,rfl,hnc,by unfold maxLen at hcm;exact hcm,fun i x hi => ?_⟩
refine⟨_,[.int .u8 (x.toNat:Int)],rfl,rfl,fun j v hj => ?_,rfl⟩;have hj0:j=0:=by
 have:=(Qi.1 hj).1;simp at this;omega
subst hj0;cases hj;have hlt:g<w.heap.size:=(Qe.1 hg).1;rw[Qt,Q3];refine⟨⟨by rw[Zh];exact hbg,by rw[Zh];exact hlt,?_⟩,h.cells (g:=g) rfl i _ (by simp[u8s,hi])⟩;simp only[Q4,Zh,hg];simp}
theorem Zsp {α:Type} {R:Rel α} {w:Qa6} {base size n:Nat} {t:Qbc} {v:Qa7} {cs:List Qa7} {xs:List α} (h:w.ownsRow base t size v n cs) (hl:xs.length=n)
 (hx:∀ i x,xs[i]? = some x->∃ vs,vs.length=size/\(∀ j u,vs[j]? = some u->cs[i*size+j]? = some u)/\R (New base w) w vs x):rSl size R (New base w) w [v] xs:=by
 subst hl;rcases h.2 with ⟨rfl,h0⟩ | ⟨g,cap,cur,rfl,hbg,hg,hnc,hcm,_,_⟩
 ·have:xs=[]:=Qx h0
 subst this;exact⟨none,0,rfl,by simp,by omega,fun i x hi=>by simp at hi⟩
 ·refine⟨_,cap,rfl,hnc,by unfold maxLen at hcm;exact hcm,fun i x hi => ?_⟩
 obtain⟨vs,h1,h2,h3⟩:=hx i x hi;have hlt:g<w.heap.size:=(Qe.1 hg).1;refine⟨_,vs,rfl,h1,fun j u hj=>⟨⟨by rw[Zh];exact hbg,by rw[Zh];exact hlt,?_⟩,h.cells (g:=g) rfl _ u (h2 j u hj)⟩,h3⟩;simp only[Q4,Zh,hg];simp
end Go.Proofs.YtgmbjnajdfgenaaGreat
namespace Go.Proofs.YtgmbjnajdfgenaaGreat
open Go.ChangeShapes Go.WideShapes Go.RowKit
abbrev Wt:=Int×List UInt8
abbrev Dk:=List (List UInt8)×List Wt
def rWt:Rel Wt:=Zjx (rK .i64) rBy
theorem Zx4:Ze2 rWt:=Zdr (Zgb _) Zf
theorem Zul {ok:Qa8->Prop} {w:Qa6} {cs:List Qa7} {x:Wt} (h:rWt ok w cs x):∃ v,cs=[.int .i64 x.1,v] /\ -9223372036854775808<=x.1/\x.1<=9223372036854775807/\rBy ok w [v] x.2:=by
 obtain⟨c,d,rfl,⟨rfl,h1,h2⟩,h3⟩:=h;obtain⟨A,cap,rfl,h4⟩:=h3;exact⟨_,rfl,by simpa [IntKind.min,IntKind.signed,IntKind.bits] using h1,by simpa [IntKind.max,IntKind.signed,IntKind.bits] using h2,A,cap,rfl,h4⟩
theorem Zde {ok:Qa8->Prop} {w:Qa6} {cs:List Qa7} {xss:List (List UInt8)} (h:rSl 1 rBy ok w cs xss):∃ A cap,cs=[.slice A xss.length cap]/\xss.length<=cap/\cap<=9223372036854775807 /\
 ∀ i x,xss[i]? = some x->∃ ad v,A=some ad/\ok (ad.add i)/\w.cell? (ad.add i)=some v/\rBy ok w [v] x:=by
 obtain⟨A,cap,h1,h2,h3,h4⟩:=h;refine⟨A,cap,h1,h2,h3,fun i x hi => ?_⟩;obtain⟨ad,vs,e1,e2,e3,e4⟩:=h4 i x hi
 match vs,e2 with
 | [v],_ =>
 have:=e3 0 v rfl;rw[Qt,Q3] at this;exact⟨ad,v,e1,this.1,this.2,e4⟩
theorem Zts {ok:Qa8->Prop} {w:Qa6} {cs:List Qa7} {ws:List Wt} (h:rSl 2 rWt ok w cs ws):∃ A cap,cs=[.slice A ws.length cap]/\ws.length<=cap/\cap<=9223372036854775807 /\
 ∀ i x,ws[i]? = some x->∃ ad v,A=some ad/\ok (ad.add (i*2))/\ok (ad.add (i*2+1))/\w.cell? (ad.add (i*2))=some (.int .i64 x.1)/\w.cell? (ad.add (i*2+1))=some v/\rBy ok w [v] x.2 /\ -9223372036854775808<=x.1/\x.1<=9223372036854775807:=by
 obtain⟨A,cap,h1,h2,h3,h4⟩:=h;refine⟨A,cap,h1,h2,h3,fun i x hi => ?_⟩;obtain⟨ad,vs,e1,e2,e3,e4⟩:=h4 i x hi;obtain⟨v,rfl,b1,b2,hv⟩:=Zul e4;have a0:=e3 0 _ rfl;have a1:=e3 1 _ rfl;rw[Q3] at a0;exact⟨ad,v,e1,a0.1,a1.1,a0.2,a1.2,hv,b1,b2⟩
def Dsk (ok:Qa8->Prop) (w:Qa6) (v:Qa7) (d:Dk):Prop:=∃ a b,v=.agg #[a,b]/\rSl 1 rBy ok w [a] d.1/\rSl 2 rWt ok w [b] d.2
theorem Dsk.map {ok ok':Qa8->Prop} {w w':Qa6} {v:Qa7} {d:Dk} (hk:∀ p v,ok p->w.cell? p=some v->ok' p/\w'.cell? p=some v) (h:Dsk ok w v d):Dsk ok' w' v d:=by
 obtain⟨a,b,e,h1,h2⟩:=h;exact⟨a,b,e,Uf Zf _ _ _ _ _ _ hk h1,Uf Zx4 _ _ _ _ _ _ hk h2⟩
theorem Dsk.open {ok:Qa8->Prop} {w:Qa6} {v:Qa7} {d:Dk} (h:Dsk ok w v d):∃ A c B e,v=.agg #[.slice A d.1.length c,.slice B d.2.length e]/\d.1.length<=c/\c<=9223372036854775807/\d.2.length<=e/\e<=9223372036854775807 /\
 (∀ i x,d.1[i]? = some x->∃ ad v,A=some ad/\ok (ad.add i)/\w.cell? (ad.add i)=some v/\rBy ok w [v] x) /\
 (∀ i x,d.2[i]? = some x->∃ ad v,B=some ad/\ok (ad.add (i*2))/\ok (ad.add (i*2+1))/\w.cell? (ad.add (i*2))=some (.int .i64 x.1)/\w.cell? (ad.add (i*2+1))=some v/\rBy ok w [v] x.2 /\ -9223372036854775808<=x.1/\x.1<=9223372036854775807):=by
 obtain⟨a,b,rfl,h1,h2⟩:=h;obtain⟨A,c,e1,l1,m1,k1⟩:=Zde h1;obtain⟨B,e,e2,l2,m2,k2⟩:=Zts h2;cases e1;cases e2;exact⟨A,c,B,e,rfl,l1,m1,l2,m2,k1,k2⟩
def wtB (x:Wt):Bool:=decide (0<=x.1)&&decide (x.1<256)&&decide (x.2.length=128)
def byB (x:List UInt8):Bool:=decide (x.length=128)
def Zbw (d:Dk):Bool:=decide (d.1.length=256)&&decide (d.2.length<=4096)&&d.1.all byB&&d.2.all wtB
def chk (d:Dk):Int:=if Zbw d then 0 else 8
theorem Zew {d:Dk} (h:Zbw d=false):chk d=8:=by simp[chk,h]
theorem Zzi {d:Dk} (h:Zbw d=true):chk d=0:=by simp[chk,h]
theorem Zyc {α:Type} {p:α->Bool} {xs:List α} (h:xs.all p=true) {k:Nat} {x:α} (hk:xs[k]? = some x):p x=true:=Qm.1 h x (Qao hk)
theorem Z1p {α:Type} {p:α->Bool} {xs:List α} {k:Nat} {x:α} (hk:xs[k]? = some x) (h:p x=false):xs.all p=false:=by
 cases ha:xs.all p with
 | false=>rfl
 | true=>rw[Zyc ha hk] at h;cases h
theorem Zt6 {α:Type} {p:α->Bool} {xs:List α} {k:Nat} {x:α} (h:(xs.take k).all p=true) (hk:xs[k]? = some x) (hx:p x=true):(xs.take (k+1)).all p=true:=by
 rw[Pw,hk];simp[h,hx]
theorem Z35 {d:Dk} (h:d.1.length≠256):Zbw d=false:=by simp[Zbw,h]
theorem Z41 {d:Dk} (h:4096<d.2.length):Zbw d=false:=by
 have:decide (d.2.length<=4096)=false:=by simpa using h
 simp[Zbw,this]
theorem Zzh {d:Dk} {k:Nat} {x:List UInt8} (hk:d.1[k]? = some x) (h:x.length≠128):Zbw d=false:=by
 have:d.1.all byB=false:=Z1p hk (by simp[byB,h]);rw[Zbw,this];simp
theorem Zti {d:Dk} {k:Nat} {x:Wt} (hk:d.2[k]? = some x) (h:wtB x=false):Zbw d=false:=by
 have:d.2.all wtB=false:=Z1p hk h;rw[Zbw,this];simp
theorem Zy8 {d:Dk} (h1:d.1.length=256) (h2:d.2.length<=4096) (h3:d.1.all byB=true) (h4:d.2.all wtB=true):Zbw d=true:=by simp[Zbw,h1,h2,h3,h4]
theorem Zff {d:Dk} (h:Zbw d=true):d.1.length=256/\d.2.length<=4096/\(∀ (k:Nat) (x:List UInt8),d.1[k]? = some x->x.length=128)/\∀ (k:Nat) (x:Wt),d.2[k]? = some x->0<=x.1/\x.1<256/\x.2.length=128:=by
 simp only[Zbw,Qj,decide_eq_true_eq] at h;obtain⟨⟨⟨h1,h2⟩,h3⟩,h4⟩:=h;refine⟨h1,h2,fun k x hk=>by simpa [byB] using Zyc h3 hk,fun k x hk => ?_⟩;have:=Zyc h4 hk;simp only[wtB,Qj,decide_eq_true_eq] at this;exact⟨this.1.1,this.1.2,this.2⟩
theorem Z4k {w:Qa6} {base n:Nat} {t:Qbc} {v:Qa7} {vs:List Qa7} {xss:List (List UInt8)} (h:w.ownsRow base t 1 v n vs) (hl:xss.length=n) (hx:∀ (i:Nat) (u:Qa7) (x:List UInt8),vs[i]? = some u->xss[i]? = some x->rBy (New base w) w [u] x):rSl 1 rBy (New base w) w [v] xss:=by{
refine Zsp h hl fun i x hi => ?_
have hil:i<vs.length:=by rw[h.1,Qt,<- hl];exact(Qi.1 hi).1
refine⟨[vs[i]],rfl,fun j u hj => ?_,hx i _ x (Qd hil) hi⟩;have hj0:j=0:=by
have:=(Qi.1 hj).1;simp at this;omega;subst hj0;cases hj;simp}
theorem Za {p:Prop} (h:p):Hid p:=h
theorem Zb {α:Type _} {l:List α} {i:Nat} {a:α}:l.toArray.setIfInBounds i a=(l.set i a).toArray:=Qar _ _ _
theorem Zc {α:Type _} {x:α} {xs:List α} {a:α}:(x::xs).set 0 a=a::xs:=Qas
theorem Zd {α:Type _} {x:α} {xs:List α} {n:Nat} {a:α}:(x::xs).set (n+1) a=x::xs.set n a:=Qat
def le:Nat->Int->List UInt8
 | 0,_=>[]
 | k+1,n=>UInt8.ofNat (n % 256).toNat::le k (n / 256)
def num:List UInt8->Int
 | []=>0
 | x::r=>(x.toNat:Int)+256*num r
theorem Yp (k:Nat):∀ n:Int,(le k n).length=k:=by
 induction k with
 | zero=>intro n;rfl
 | succ k ih=>intro n;simp[le,ih]
theorem Zk0 (n:Int):((UInt8.ofNat (n % 256).toNat).toNat:Int)=n % 256:=by
 have h:(n % 256).toNat<256:=by omega
 rw[UInt8.toNat_ofNat',Nat.mod_eq_of_lt (by simpa using h)];omega
theorem Zgx:∀ xs:List UInt8,0<=num xs
 | []=>by simp[num]
 | x::r=>by have:=Zgx r;simp only[num];omega
theorem Z5q (k:Nat):∀ n:Int,0<=n->n<(256:Int) ^ k->num (le k n)=n:=by{
induction k with
| zero=>intro n h0 h1;simp at h1;simp[le,num];omega
| succ k ih =>
intro n h0 h1;have e:(256:Int) ^ (k+1)=256 ^ k*256:=Int.pow_succ ..;rw[e] at h1;simp only[le,num];rw[ih (n / 256) (by omega) (by omega),Zk0];omega}
theorem Zzk:∀ xs:List UInt8,num xs<(256:Int) ^ xs.length
 | []=>by simp[num]
 | x::r=>by
 have h:=Zzk r;have hx:=x.toNat_lt;have e:(256:Int) ^ (r.length+1)=256 ^ r.length*256:=Int.pow_succ ..;simp only[num,Qo,e];omega
theorem Z8c (x:UInt8) (m:Int):UInt8.ofNat (((x.toNat:Int)+256*m) % 256).toNat=x:=by
 have hx:=x.toNat_lt;have h:(((x.toNat:Int)+256*m) % 256).toNat=x.toNat:=by omega
 rw[h];simp
theorem Zzu:∀ xs:List UInt8,le xs.length (num xs)=xs
 | []=>rfl
 | x::r=>by
 have hx:=x.toNat_lt;simp only[Qo,le,num,Z8c];rw[show ((x.toNat:Int)+256*num r) / 256=num r by omega,Zzu r]
def val (pre:List (Nat×UInt8)):Int:=pre.foldl (fun n x=>n*256+(x.2.toNat:Int)) 0
theorem Zub (pre:List (Nat×UInt8)) (x:Nat×UInt8):val (pre++[x])=val pre*256+x.2.toNat:=by simp[val]
def Zuy (xs:List UInt8) (k:Nat):List (Nat×UInt8):=(Qn k).map fun j=>(xs.length-1-j,xs[xs.length-1-j]?.getD 0)
theorem Zig (xs:List UInt8) (k:Nat):Zuy xs (k+1)=Zuy xs k++[(xs.length-1-k,xs[xs.length-1-k]?.getD 0)]:=by simp[Zuy,Qau]
theorem Zq7 (xs:List UInt8) (k:Nat):(Zuy xs k).length=k:=by simp[Zuy]
theorem Z4a (xs:List UInt8):∀ k,k<=xs.length->val (Zuy xs k)=num (xs.drop (xs.length-k)):=by{
intro k
induction k with
| zero=>intro _;simp[Zuy,val,num]
| succ k ih =>
intro h;have hd:xs.drop (xs.length-(k+1))=xs[xs.length-(k+1)]'(by omega)::xs.drop (xs.length-(k+1)+1):=Qav (by omega);rw[Zig,Zub,ih (by omega),hd,show xs.length-(k+1)+1=xs.length-k by omega];have e:xs[xs.length-1-k]?.getD 0=xs[xs.length-(k+1)]'(by omega):=by
 have e':xs.length-1-k=xs.length-(k+1):=by omega
 rw[e',Qd (by omega)];rfl
simp only[num,e];omega}
theorem Z82 (xs:List UInt8):val (Zuy xs xs.length)=num xs:=by
 have:=Z4a xs xs.length (Qa _)
 simpa using this
theorem Zdf:∀ (pre:List (Nat×UInt8)) (m:Int) (k:Nat),0<=m->m<(256:Int) ^ k->0<=pre.foldl (fun n x=>n*256+(x.2.toNat:Int)) m/\pre.foldl (fun n x=>n*256+(x.2.toNat:Int)) m<(256:Int) ^ (k+pre.length)
 | [],m,k,h0,h1=>⟨h0,h1⟩
 | x::r,m,k,h0,h1=>by
 have hx:=x.2.toNat_lt;have e:(256:Int) ^ (k+1)=256 ^ k*256:=Int.pow_succ ..;have h:=Zdf r (m*256+(x.2.toNat:Int)) (k+1) (by omega) (by omega);rw[Qo,show k+(r.length+1)=k+1+r.length by omega];exact h
theorem Zwa (pre:List (Nat×UInt8)):0<=val pre/\val pre<(256:Int) ^ pre.length:=by
 have:=Zdf pre 0 0 (by omega) (by simp)
 rwa [Nat.zero_add] at this
theorem Z09 (pre:List (Nat×UInt8)) (h:pre.length<4):0<=val pre/\val pre<16777216:=by{
obtain⟨h0,h1⟩:=Zwa pre;refine⟨h0,?_⟩
match hn:pre.length,h with
| 0,_=>rw[hn] at h1;simp at h1;omega
| 1,_=>rw[hn] at h1;simp at h1;omega
| 2,_=>rw[hn] at h1;simp at h1;omega
| 3,_=>rw[hn] at h1;simp at h1;omega}
theorem Yac (a:Int) (x:UInt8) (h0:0<=a) (h1:a<16777216):bits .or .u32 (a*256) (x.toNat:Int)=a*256+x.toNat:=by
 have hx:=x.toNat_lt;obtain⟨n,rfl⟩:=Int.eq_ofNat_of_zero_le h0;have e:((n:Int)*256)=((n*256:Nat):Int):=by omega
 have hn:n*256 ||| x.toNat=n*256+x.toNat:=by
 rw[show n*256=2 ^ 8*n by omega];exact(Nat.two_pow_add_eq_or_of_lt (by omega) n).symm;rw[e,u32_or_nat _ _ (by omega) (by omega),hn];omega
theorem Zh7:(Tryz.prog.info? 5).map (fun i=>(i.zero,i.size,i.bytes))=some (some (.int .u8 0),1,1):=by kernel_rfl
def Znu (xs:List UInt8):Array Qa7:=(u8s xs).toArray
def Zy (n:Nat):List UInt8:=Pj n 0
theorem Zbt (n:Nat):(Zy n).length=n:=by simp[Zy]
theorem Za3 (xs:List UInt8):(u8s xs).length=xs.length:=by simp[u8s]
theorem Zyo (xs:List UInt8):∀ v∈u8s xs,v.oneCell'=true:=by
 intro v hv;simp only[u8s,Qy] at hv;obtain⟨x,_,rfl⟩:=hv;rfl
theorem Znh (xs:List UInt8) (j:Nat) (h:j<xs.length):(u8s xs)[j]? = some (.int .u8 ((xs[j]?.getD 0).toNat:Int)):=by
 simp[u8s,h]
theorem Zvo (n:Nat):madeCells (Value.int .u8 0).cells (n*1)=Znu (Zy n):=by{
have hc:(Value.int .u8 0).cells=#[.int .u8 0]:=rfl;apply Q7
·simp[madeCells,Znu,u8s,Zy]
·intro i h1 h2
simp[madeCells,Znu,u8s,Zy,hc,Nat.mod_one]}
theorem Zgw (n:Nat) (h:n<=281474976710656) (w:Qa6) :
 (Instr.makeSlice 27 (.int .i64 n) (.int .i64 n)).run Tryz.prog w=.ok (.slice (some ⟨w.heap.size,0,none⟩) n n) (w.alloc (.cells (Znu (Zy n)) 5)):=by
 obtain⟨i0,hi,hz0,hz1,hz2⟩:=info_parts Zh7;have:=run_make (P:=Tryz.prog) w 27 5 i0 (.int .u8 0) Tryz.underlying27 hi hz0 .i64 .i64 n n (by omega) (by omega) (by rw[hz2];omega) (by omega);rw[hz1,Int.toNat_natCast,Zvo] at this;exact this
section
variable {w w' : Qa6} {g : Nat} {xs : List UInt8}
theorem Zah (g i j:Nat):(⟨g,i,none⟩:Qa8).add j=⟨g,i+j,none⟩:=by unfold Addr.add;split <;> simp_all
end
theorem Zln (ad:Qa8) (len cap:Nat) (xs:List UInt8) (hlen:Hid (xs.length=len)) (hbig:len<=140737488355328) (w:Qa6) (hx:Byt w w.heap.size (some ad) xs) :
 Qbg Tryz.prog 80 #[.slice (some ad) len cap] w fun e w'=>∃ v,e=.returned v/\w'.ownsRow w.heap.size 5 1 v len (u8s xs)/\v≠.slice none 0 0/\Qbh w.heap.size w w':=by
 obtain⟨i0,hi,hz0,hz1,hz2⟩:=info_parts Zh7;have q22:∀ (w:Qa6) (a:Option Qa8) (n c n' c':Nat),(binOp .eql 27 (.slice a n c) (.slice none n' c')).run Tryz.prog w=.ok (.bool a.isNone) w:=fun w a n c n' c'=>Lib.run_eql_slice_nil w _ _ a n c n' c' Tryz.underlying27
 go_enter Tryz.func80,Tryz.ntmps80
 go_wp2_with (at_builtin;refine wpList_append_own _ rfl _ _ 27 rfl w.heap.size 5 i0 (.int .u8 0) 1 1 Tryz.underlying27 hi hz0 hz1 hz2 rfl (by decide) _ _ _ rfl (Px w #[] 0 (Qa _) (Pk _) rfl) ad len cap (u8s xs) rfl ?qc1 ?qc2 ?qc3 ?qc4 ?qc5 ?qc6 ?_)
 case qc1=>rw[Za3,hlen.out,Qt]
 case qc2 =>
 intro j u hj;have hjn:j<xs.length:=by
 have:=(Qi.1 hj).1
 simpa [u8s] using this
 obtain⟨ad',e,hb,hc⟩:=hx (by omega);cases e;refine Lib.cell?_alloc_some _ ?_;rw[hc j hjn,<- Znh xs j hjn,hj]
 case qc3=>exact Zyo xs
 case qc4=>unfold maxLen;omega
 case qc5=>omega
 case qc6=>simp
 intro v' w1 hown hgrow hnil
 go_wp2
 go_ret;refine⟨v',rfl,by simpa using hown,hnil,?_⟩;exact((Qb _ w).alloc (Qa _) _).grown hgrow (by simp) (by intro k hk;simp[Value.ownBlock] at hk;omega)
theorem Z13 (n c:Nat) (w:Qa6) :
 Qbg Tryz.prog 80 #[.slice none n c] w fun e w'=>e=.returned (.slice none 0 0)/\w=w':=by
 have q22:∀ (w:Qa6) (a:Option Qa8) (n c n' c':Nat),(binOp .eql 27 (.slice a n c) (.slice none n' c')).run Tryz.prog w=.ok (.bool a.isNone) w:=fun w a n c n' c'=>Lib.run_eql_slice_nil w _ _ a n c n' c' Tryz.underlying27
 go_enter Tryz.func80,Tryz.ntmps80
 go_wp2
 go_ret;exact⟨rfl,rfl⟩
theorem Zf7 (A:Option Qa8) (len cap:Nat) (xs:List UInt8) (hlen:Hid (xs.length=len)) (hbig:len<=140737488355328) (w:Qa6) (hx:Byt w w.heap.size A xs) :
 Qbg Tryz.prog 80 #[.slice A len cap] w fun e w'=>∃ v,e=.returned v/\w'.ownsRow w.heap.size 5 1 v len (u8s xs)/\Qbh w.heap.size w w':=by
 rcases A with _ | ad
 ·have h0:xs=[]:=by
 rcases Pp xs.length with h | h
 ·exact Qx h
 ·obtain⟨_,e,_⟩:=hx h
 cases e;subst h0;obtain rfl:=hlen.out;refine(Z13 _ cap w).mono ?_;rintro e w' ⟨rfl,rfl⟩;exact⟨_,rfl,Py _ _ _ _,Qb _ _⟩
 ·refine(Zln ad len cap xs hlen hbig w hx).mono ?_
 rintro e w' ⟨v,rfl,h1,_,h2⟩;exact⟨v,rfl,h1,h2⟩
end Go.Proofs.YtgmbjnajdfgenaaGreat
namespace Go.Proofs.YtgmbjnajdfgenaaGreat.Rb
open Go.RowKit
theorem Zm {p : Prop} (h : p) : Hid p := h
theorem Z3 {α : Type _} {l : List α} {i : Nat} {a : α} : l.toArray.setIfInBounds i a = (l.set i a).toArray := List.setIfInBounds_toArray _ _ _
theorem Z4 {α : Type _} {x : α} {xs : List α} {a : α} : (x :: xs).set 0 a = a :: xs := List.set_cons_zero
theorem Yb {α : Type _} {x : α} {xs : List α} {n : Nat} {a : α} : (x :: xs).set (n + 1) a = x :: xs.set n a := List.set_cons_succ
abbrev Env:=List (Option Tmp×(Qa6->Prop))
def doesUpon (P:Program) (R:Qa7->Qa6->Prop):Result Next->Prop
 | .ok (.value v) w'=>R v w'
 | .ok .skip w'=>R Qbf w'
 | .ok (.enter f args) w'=>Qbg P f args w' (fun e w''=>∃ v,e=.returned v/\R v w'')
 | _=>False
def seen (ops:Array Qba) (o:Qba) (w:Qa6):Env->Prop
 | []=>True
 | p::r=>(∀ d,p.1=some d->(o.looksAt ops).contains d=true->p.2 w)/\seen ops o w r
def envAdd (d:Option Tmp) (p:Qa6->Prop) (env:Env):Env:=(d,p)::env
def holds (w:Qa6):Env->Prop
 | []=>True
 | p::r=>p.2 w/\holds w r
def wpAs (Kr:Qa6->Qa6->Prop) (P:Program) (ops:Array Qba) (C:Qa6->Prop) (phi:Nat->Option (Qa7->Qa6->Prop)) (fx:Nat->Option Qa7) (Q:Qbb->Qa6->Prop):Nat->List Qba->Qbb->Env->Prop
 | _,[],a,env=>∀ w,C w->holds w env->Q a w
 | i,o::rest,a,env =>
 if Qc o (yielded ops a.tmps)=true then
 match phi i with
 | none =>
 match fx i with
 | none=>∃ v,(∀ w,C w->seen ops o w env->(execOp a.eval o).run P w=.ok (.value v) w)/\wpAs Kr P ops C phi fx Q (i+1) rest (a.put o.dst v) env
 | some u=>(∀ w,C w->seen ops o w env->doesUpon P (fun v w'=>v=u/\Kr w w') ((execOp a.eval o).run P w))/\wpAs Kr P ops C phi fx Q (i+1) rest (a.put o.dst u) env
 | some φ=>(∀ w,C w->seen ops o w env->doesUpon P (fun v w'=>φ v w'/\Kr w w') ((execOp a.eval o).run P w)) /\
  ∀ v,wpAs Kr P ops C phi fx Q (i+1) rest (a.put o.dst v) (envAdd o.dst (φ v) env)
 else wpAs Kr P ops C phi fx Q (i+1) rest (a.put o.dst Qbf) env
section
variable {Kr : Qa6 -> Qa6 -> Prop} {P : Program} {ops : Array Qba} {C : Qa6 -> Prop} {phi : Nat -> Option (Qa7 -> Qa6 -> Prop)} {fx : Nat -> Option Qa7} {Q : Qbb -> Qa6 -> Prop}
theorem wpAs_skip {i:Nat} {o:Qba} {rest:List Qba} {a:Qbb} {env:Env} (hw:Qc o (yielded ops a.tmps)=false) (h:wpAs Kr P ops C phi fx Q (i+1) rest (a.put o.dst Qbf) env):wpAs Kr P ops C phi fx Q i (o::rest) a env:=by
 unfold wpAs;rw[if_neg (by rw[hw];exact Pz)];exact h
theorem wpAs_fixed {i:Nat} {o:Qba} {rest:List Qba} {a:Qbb} {env:Env} {u:Qa7} (hw:Qc o (yielded ops a.tmps)=true) (hp:phi i=none) (hf:fx i=some u)
 (hv:∀ w,C w->seen ops o w env->doesUpon P (fun v w'=>v=u/\Kr w w') ((execOp a.eval o).run P w)) (h:wpAs Kr P ops C phi fx Q (i+1) rest (a.put o.dst u) env):wpAs Kr P ops C phi fx Q i (o::rest) a env:=by
 unfold wpAs;rw[if_pos hw,hp];simp only[hf];exact⟨hv,h⟩
theorem wpAs_pure {i:Nat} {o:Qba} {rest:List Qba} {a:Qbb} {env:Env} {v:Qa7} (hw:Qc o (yielded ops a.tmps)=true) (hp:phi i=none)
 (hv:∀ w,C w->seen ops o w env->(execOp a.eval o).run P w=.ok (.value v) w) (h:wpAs Kr P ops C phi fx Q (i+1) rest (a.put o.dst v) env) (hf:fx i=none:=by rfl):wpAs Kr P ops C phi fx Q i (o::rest) a env:=by
 unfold wpAs;rw[if_pos hw,hp];simp only[hf];exact⟨v,hv,h⟩
theorem wpAs_act {i:Nat} {o:Qba} {rest:List Qba} {a:Qbb} {env:Env} {φ:Qa7->Qa6->Prop} (hw:Qc o (yielded ops a.tmps)=true) (hp:phi i=some φ)
 (hv:∀ w,C w->seen ops o w env->doesUpon P (fun v w'=>φ v w'/\Kr w w') ((execOp a.eval o).run P w)) (h:∀ v,wpAs Kr P ops C phi fx Q (i+1) rest (a.put o.dst v) (envAdd o.dst (φ v) env)):wpAs Kr P ops C phi fx Q i (o::rest) a env:=by
 unfold wpAs;rw[if_pos hw,hp];exact⟨hv,h⟩
theorem wpAs_end {i:Nat} {a:Qbb} {env:Env} (h:∀ w,C w->holds w env->Q a w):wpAs Kr P ops C phi fx Q i [] a env:=h
def leans (ops:Array Qba) (i j:Nat):Bool:=((ops[i]?).map fun o=>o.after.any fun e=>Qg .any e&&e.on==j).getD false
def okAs (ops:Array Qba) (size:Nat):Bool :=
 Pq ops &&
 ((Qn ops.size).all fun i=>match ops[i]? with
 | none=>true
 | some o=>(o.after.all fun e => !Region.binds .any e||decide (e.on<i)) &&
 (match o.dst with | some d=>decide (d<size) | none=>true) &&
 ((Qn ops.size).all fun j=>match ops[j]? with
 | none=>true
 | some o'=>(j==i||o'.dst==none||o'.dst != o.dst) &&
  (match o'.dst with | some d => !(o.looksAt ops).contains d||leans ops i j||leans ops j i||j==i | none=>true)))
structure Ok (ops:Array Qba) (size:Nat):Prop where
 sel:Pq ops=true
 less:∀ (i:Nat) (o:Qba),ops[i]? = some o->∀ e∈o.after,Qg .any e=true->e.on<i
 inb:∀ (i:Nat) (o:Qba) (d:Tmp),ops[i]? = some o->o.dst=some d->d<size
 apart:∀ (i j:Nat) (o o':Qba) (d:Tmp),ops[i]? = some o->ops[j]? = some o'->o.dst=some d->o'.dst=some d->i=j
 edge:∀ (i j:Nat) (o o':Qba) (d:Tmp),ops[i]? = some o->ops[j]? = some o'->o'.dst=some d->d∈o.looksAt ops->leans ops i j=true\/leans ops j i=true\/j=i
theorem ok_of {size:Nat} (h:okAs ops size=true):Ok ops size:=by{
unfold okAs at h;rw[Qj,Qm] at h;obtain⟨hs,h⟩:=h;have hl:∀ {i:Nat} {o:Qba},ops[i]? = some o->i<ops.size:=fun ho=>(Qe.1 ho).1
have H:∀ (i:Nat) (o:Qba),ops[i]? = some o->(o.after.all fun e => !Region.binds .any e||decide (e.on<i))=true/\(match o.dst with | some d=>decide (d<size) | none=>true)=true /\
 ∀ (j:Nat) (o':Qba),ops[j]? = some o'->(j==i||o'.dst==none||o'.dst != o.dst)=true/\(match o'.dst with | some d => !(o.looksAt ops).contains d||leans ops i j||leans ops j i||j==i | none=>true)=true:=by
intro i o ho;have h1:=h i (Qp.2 (hl ho));simp only[ho,Qj] at h1;obtain⟨⟨ha,hb⟩,hc⟩:=h1;refine⟨ha,hb,fun j o' ho' => ?_⟩;have h2:=Qm.1 hc j (Qp.2 (hl ho'));simp only[ho',Qj] at h2;exact h2;refine⟨hs,fun i o ho e he hb => ?_,fun i o d ho hd => ?_,fun i j o o' d ho ho' hd hd' => ?_,fun i j o o' d ho ho' hd' hm => ?_⟩
·have:=P1.1 (H i o ho).1 e he
simpa [hb] using this
·have:=(H i o ho).2.1
simpa [hd] using this
·have:=((H i o ho).2.2 j o' ho').1
simp[hd,hd'] at this;exact this.symm
·have:=((H i o ho).2.2 j o' ho').2
simp only[hd',Q8,Bool.not_eq_true',beq_iff_eq] at this;rcases this with ((h1 | h1) | h1) | h1
·rw[List.contains_iff_mem.2 hm] at h1;cases h1
·exact .inl h1
·exact .inr (.inl h1)
·exact .inr (.inr h1)}
theorem Xk (a:Qbb) (d:Option Tmp) (v:Qa7):(a.put d v).tmps.size=a.tmps.size:=by
 cases d <;> simp[Qh]
theorem Y1 (a:Qbb) (d:Option Tmp) (v:Qa7):(a.put d v).defers=a.defers:=by
 cases d <;> rfl
theorem Yu (a:Qbb) (d:Option Tmp) (v:Qa7) (t:Tmp) (h:d≠some t):(a.put d v).tmps.getD t Qbf=a.tmps.getD t Qbf:=by{
cases d with
| none=>rfl
| some d =>
have hne:d≠t:=fun e=>h (by rw[e])
simp[Qh,Qaw hne]}
theorem Xn (a:Qbb) (d:Tmp) (v:Qa7) (h:d<a.tmps.size):(a.put (some d) v).tmps.getD d Qbf=v:=by
 simp[Qh,h]
noncomputable def vAs (Kr:Qa6->Qa6->Prop) (P:Program) (ops:Array Qba) (C:Qa6->Prop) (phi:Nat->Option (Qa7->Qa6->Prop)) (fx:Nat->Option Qa7) (Q:Qbb->Qa6->Prop) (a0:Qbb) (c:Nat->Qa7) (i:Nat):Qa7 :=
 match ops[i]? with
 | some o=>Za8 Kr P ops C phi fx Q c i o (Xe Kr P ops C phi fx Q a0 c i)
 | none=>Qbf
theorem Xj {o:Qba} (hs:∀ cs b,o.op≠.select cs b) {a b:Qbb} (hsz:a.tmps.size=b.tmps.size) (h:∀ t∈o.looksAt ops,a.tmps.getD t Qbf=b.tmps.getD t Qbf) :
 execOp a.eval o=execOp b.eval o/\Qc o (yielded ops a.tmps)=Qc o (yielded ops b.tmps):=by
 constructor
 ·refine execOp_congr o hs fun x hx => ?_
 cases x with
 | tmp t=>exact h t (Pu _ (List.mem_filterMap.2 ⟨.tmp t,by simpa using hx,rfl⟩))
 | _=>rfl
 ·unfold Qc
 cases hg:o.guard with
 | none=>rfl
 | some gw =>
 obtain⟨g,want⟩:=gw;have hy:yielded ops a.tmps g=yielded ops b.tmps g:=by
 unfold yielded;cases ht:(ops[g]?).bind (·.dst) with
 | none=>rfl
 | some t =>
  have h1:=h t (Pv _ (by simp[hg,ht]));have h2:a.tmps[t]? = b.tmps[t]? := by
  by_cases hlt:t<a.tmps.size
  ·have hlt':t<b.tmps.size:=hsz ▸ hlt
  rw[Qu hlt,Qu hlt'];simp only[Qk,hlt,hlt',dite_true] at h1;exact congrArg some h1
  ·rw[Qax (Qay hlt),Qax (Qay (hsz ▸ hlt))]
  simp only[Option.bind_some,h2]
 simp only[hy]
theorem Yt {o:Qba} {a:Qbb} {w:Qa6} {K:Qbb->Qa6->Prop} {Q':Qa9->Qbb->Qa6->Prop} {R:Qa7->Qa6->Prop} (h:doesUpon P R ((execOp a.eval o).run P w)) (hk:∀ v w',R v w'->K (a.put o.dst v) w'):o.wp P a w K Q':=by{
unfold Oper.wp;generalize (execOp a.eval o).run P w=r at *;cases r with
| halt x w'=>exact h.elim
| ok n w' =>
cases n <;> simp only[doesUpon] at h <;> simp only[Oper.upon]
case value v=>exact hk _ _ h
case skip=>exact hk _ _ h
case enter f args =>
 refine h.mono fun e w'' he => ?_
 obtain⟨v,rfl,hr⟩:=he;exact hk _ _ hr}
structure Inv (Kr:Qa6->Qa6->Prop) (P:Program) (ops:Array Qba) (C:Qa6->Prop) (phi:Nat->Option (Qa7->Qa6->Prop)) (fx:Nat->Option Qa7) (Q:Qbb->Qa6->Prop) (a0:Qbb) (listed:Array Bool) (u:Nat->Qa7) (a:Qbb) (w:Qa6):Prop where
 lsize:listed.size=ops.size
 size:a.tmps.size=a0.tmps.size
 defers:a.defers=a0.defers
 closed:∀ i o,ops[i]? = some o->listed.getD i false=true->∀ e∈o.after,Qg .any e=true->listed.getD e.on false=true
 new:∀ i o d,ops[i]? = some o->listed.getD i false=true->o.dst=some d->a.tmps.getD d Qbf=u i
 old:∀ t,(∀ i o,ops[i]? = some o->o.dst=some t->listed.getD i false=false)->a.tmps.getD t Qbf=a0.tmps.getD t Qbf
 world:C w
 val:∀ c:Nat->Qa7,(∀ j,listed.getD j false=true->(phi j).isSome=true->c j=u j)->∀ i,listed.getD i false=true->vAs Kr P ops C phi fx Q a0 c i=u i
 act:∀ c:Nat->Qa7,(∀ j,listed.getD j false=true->(phi j).isSome=true->c j=u j)->∀ i o φ,ops[i]? = some o->listed.getD i false=true->phi i=some φ ->
 Qc o (yielded ops (Xe Kr P ops C phi fx Q a0 c i).1.tmps)=true->φ (u i) w
section
variable {a0 : Qbb} {listed : Array Bool} {u : Nat -> Qa7} {a : Qbb} {w : Qa6}
theorem leans_spec {i j:Nat} {o:Qba} (ho:ops[i]? = some o) (h:leans ops i j=true):∃ e∈o.after,Qg .any e=true/\e.on=j:=by
 simp only[leans,ho,Option.map_some,Option.getD_some] at h;obtain⟨e,he,hb⟩:=P3.1 h;simp only[Qj,beq_iff_eq] at hb;exact⟨e,he,hb.1,hb.2⟩
theorem Inv.looks (hok:Ok ops a0.tmps.size) (I:Inv Kr P ops C phi fx Q a0 listed u a w) {c:Nat->Qa7} (hc:∀ j,listed.getD j false=true->(phi j).isSome=true->c j=u j) {i:Nat} {o:Qba} (ho:ops[i]? = some o)
 (hi:listed.getD i false=false) (hr:∀ e∈o.after,Qg .any e=true->listed.getD e.on false=true) :
 ∀ t∈o.looksAt ops,a.tmps.getD t Qbf=(Xe Kr P ops C phi fx Q a0 c i).1.tmps.getD t Qbf:=by
 intro t ht;by_cases hj:∃ (j:Nat) (o':Qba),ops[j]? = some o'/\o'.dst=some t
 ·obtain⟨j,o',ho',hd⟩:=hj
 rcases hok.edge i j o o' t ho ho' hd ht with h | h | h
 ·obtain⟨e,he,hb,rfl⟩:=leans_spec ho h
 have hl:=hr e he hb;rw[I.new _ o' t ho' hl hd,Zeu hok c ho' hd i (hok.less i o ho e he hb),I.val c hc _ hl]
 all_goals
 have hun:listed.getD j false=false:=by
 first
  | (subst h;exact hi)
  | (
  obtain⟨e,he,hb,rfl⟩:=leans_spec ho' h;cases hl:listed.getD j false with
  | false=>rfl
  | true =>
  have:=I.closed j o' ho' hl e he hb;rw[hi] at this
  cases this)
 have hle:i<=j:=by
 first
  | (subst h;exact Qa _)
  | (
  obtain⟨e,he,hb,rfl⟩:=leans_spec ho' h
  exact Nat.le_of_lt (hok.less j o' ho' e he hb))
 rw[I.old t (fun k ok hk hdk=>by rw[<- hok.apart j k o' ok t ho' hk hd hdk];exact hun),
 Zaq a0 c t i (fun k ok hk hok' hdk=>by have:=hok.apart j k o' ok t ho' hok' hd hdk;omega)]
 ·rw[I.old t (fun k ok hk hdk=>absurd ⟨k,ok,hk,hdk⟩ hj),Zaq a0 c t i (fun k ok _ hk hdk=>hj ⟨k,ok,hk,hdk⟩)]
theorem Inv.next (hok:Ok ops a0.tmps.size) (I:Inv Kr P ops C phi fx Q a0 listed u a w) {i:Nat} {o:Qba} {v:Qa7} {w':Qa6} (ho:ops[i]? = some o) (hi:listed.getD i false=false)
 (hr:∀ e∈o.after,Qg .any e=true->listed.getD e.on false=true) (hC:C w') (hst:∀ (j:Nat) (φ:Qa7->Qa6->Prop) (x:Qa7),phi j=some φ->φ x w->φ x w')
 (hv:∀ c:Nat->Qa7,(∀ j,listed.getD j false=true->(phi j).isSome=true->c j=u j)->((phi i).isSome=true->c i=v)->vAs Kr P ops C phi fx Q a0 c i=v)
 (ha:∀ c:Nat->Qa7,(∀ j,listed.getD j false=true->(phi j).isSome=true->c j=u j)->∀ φ,phi i=some φ->Qc o (yielded ops (Xe Kr P ops C phi fx Q a0 c i).1.tmps)=true->φ v w') :
 Inv Kr P ops C phi fx Q a0 (listed.setIfInBounds i true) (fun j=>if j=i then v else u j) (a.put o.dst v) w':=by
 have hlt:i<ops.size:=(Qe.1 ho).1;have hL:∀ j,(listed.setIfInBounds i true).getD j false=true↔j=i\/listed.getD j false=true:=by
 intro j;by_cases hji:i=j
 ·subst hji
 have:i<listed.size:=by rw[I.lsize];exact hlt
 simp[this]
 ·rw[getD_set_ne false hji]
 constructor
 ·exact .inr
 ·rintro(h | h)
 ·exact absurd h.symm hji
 ·exact h
 have hne:∀ j,listed.getD j false=true->j≠i:=fun j hj e=>by rw[e,hi] at hj;cases hj
 have hag:∀ c:Nat->Qa7,(∀ j,(listed.setIfInBounds i true).getD j false=true->(phi j).isSome=true->c j=if j=i then v else u j) ->
 (∀ j,listed.getD j false=true->(phi j).isSome=true->c j=u j)/\((phi i).isSome=true->c i=v):=fun c hc =>
 ⟨fun j hj hp=>by have:=hc j ((hL j).2 (.inr hj)) hp;rwa [if_neg (hne j hj)] at this,fun hp=>by have:=hc i ((hL i).2 (.inl rfl)) hp;rwa [if_pos rfl] at this⟩
 refine⟨by simpa using I.lsize,(Xk _ _ _).trans I.size,(Y1 _ _ _).trans I.defers,?_,?_,?_,hC,?_,?_⟩
 ·intro j oj hoj hj e he hb
 rcases(hL j).1 hj with rfl | h
 ·rw[ho] at hoj
 cases hoj;exact(hL _).2 (.inr (hr e he hb))
 ·exact(hL _).2 (.inr (I.closed j oj hoj h e he hb))
 ·intro j oj d hoj hj hd
 rcases(hL j).1 hj with rfl | h
 ·rw[ho] at hoj
 cases hoj;rw[hd,if_pos rfl];exact Xn _ _ _ (by rw[I.size];exact hok.inb j o d ho hd)
 ·rw[if_neg (hne j h)]
 exact(Yu _ _ _ _ (fun e=>hne j h (hok.apart j i oj o d hoj ho hd e))).trans (I.new j oj d hoj h hd)
 ·intro t ht
 have hn:o.dst≠some t:=fun e=>by have:=ht i o ho e;rw[(hL i).2 (.inl rfl)] at this;cases this
 refine(Yu _ _ _ _ hn).trans (I.old t fun j oj hoj hd => ?_);have:=ht j oj hoj hd;cases hl:listed.getD j false with
 | false=>rfl
 | true=>rw[(hL j).2 (.inr hl)] at this;cases this
 ·intro c hc j hj
 obtain⟨h1,h2⟩:=hag c hc;rcases(hL j).1 hj with rfl | h
 ·rw[if_pos rfl];exact hv c h1 h2
 ·rw[if_neg (hne j h)];exact I.val c h1 j h
 ·intro c hc j oj φ hoj hj hp hw
 obtain⟨h1,h2⟩:=hag c hc;rcases(hL j).1 hj with rfl | h
 ·rw[ho] at hoj
 cases hoj;rw[if_pos rfl];exact ha c h1 φ hp hw
 ·rw[if_neg (hne j h)]
 exact hst j φ _ hp (I.act c h1 j oj φ hoj h hp hw)
theorem Inv.step (hok:Ok ops a0.tmps.size) (h0:wpAs Kr P ops C phi fx Q 0 ops.toList a0 []) (hCb:∀ w w',C w->Kr w w'->C w') (hst:∀ (j:Nat) (φ:Qa7->Qa6->Prop) (x:Qa7) (w w':Qa6),phi j=some φ->φ x w->Kr w w'->φ x w')
 (I:Inv Kr P ops C phi fx Q a0 listed u a w) {i:Nat} (hi:i∈Qf .any ops listed) {Q':Qa9->Qbb->Qa6->Prop} :
 wpOp P ops Q' i (fun a' w'=>∃ u',Inv Kr P ops C phi fx Q a0 (listed.setIfInBounds i true) u' a' w') a w:=by
 obtain⟨hun,o,ho,hr⟩:=mem_ready.1 hi;have hlt:i<ops.size:=(Qe.1 ho).1;have hil:listed.getD i false=false:=by
 have:i<listed.size:=by rw[I.lsize];exact hlt
 simpa [this] using hun
 have hsel:=Qaz hok.sel;have look:∀ c:Nat->Qa7,(∀ j,listed.getD j false=true->(phi j).isSome=true->c j=u j) ->
 execOp a.eval o=execOp (Xe Kr P ops C phi fx Q a0 c i).1.eval o/\Qc o (yielded ops a.tmps)=Qc o (yielded ops (Xe Kr P ops C phi fx Q a0 c i).1.tmps):=fun c hc =>
 Xj (fun cs b=>hsel i o cs b ho) (I.size.trans (Vi a0 c i).symm) (I.looks hok hc ho hil hr)
 have see:∀ c:Nat->Qa7,(∀ j,listed.getD j false=true->(phi j).isSome=true->c j=u j)->seen ops o w (Xe Kr P ops C phi fx Q a0 c i).2:=fun c hc =>
 Zil c i fun j oj φ d hj hoj hp hw hd hm=>by
 rcases hok.edge i j o oj d ho hoj hd hm with h | h | h
 ·obtain⟨e,he,hb,rfl⟩:=leans_spec ho h
 have hl:=hr e he hb;rw[hc _ hl (by rw[hp];rfl)];exact I.act c hc _ oj φ hoj hl hp hw
 ·obtain⟨e,he,hb,h'⟩:=leans_spec hoj h
 have:=hok.less j oj hoj e he hb;omega
 ·omega
 have vas:∀ c:Nat->Qa7,vAs Kr P ops C phi fx Q a0 c i=Za8 Kr P ops C phi fx Q c i o (Xe Kr P ops C phi fx Q a0 c i):=fun c=>by
 unfold vAs;simp only[ho];have hu:∀ j,listed.getD j false=true->(phi j).isSome=true->u j=u j:=fun _ _ _=>rfl
 unfold wpOp;simp only[ho];by_cases hw:Qc o (yielded ops a.tmps)=true
 ·rw[if_pos hw]
 refine .inl ?_;cases hp:phi i with
 | none =>
 cases hf:fx i with
 | none =>
 have hrun:=Zb5 h0 u ho (by rw[<- (look u hu).2];exact hw) hp hf w I.world (see u hu);rw[<- (look u hu).1] at hrun;unfold Oper.wp;rw[hrun];refine⟨_,I.next hok ho hil hr I.world (fun _ _ _ _ h=>h) (fun c hc _ => ?_) (fun c hc φ hp'=>by rw[hp] at hp';cases hp')⟩;have hrun':=Zb5 h0 c ho (by rw[<- (look c hc).2];exact hw) hp hf w I.world (see c hc);rw[<- (look c hc).1,hrun] at hrun';rw[vas c]
 injection hrun' with h1 _
 injection h1 with h1
 exact h1.symm
 | some x =>
 have hrun:=Ze9 h0 u ho (by rw[<- (look u hu).2];exact hw) hp hf w I.world (see u hu);rw[<- (look u hu).1] at hrun;refine Yt hrun fun v w' ⟨hφ,hb⟩=>⟨_,I.next hok ho hil hr (hCb w w' I.world hb) (fun j φ' x hp' h=>hst j φ' x w w' hp' h hb) (fun c hc _ => ?_) (fun c hc φ' hp' _ => ?_)⟩
 ·rw[vas c]
  unfold Za8;rw[if_pos (by rw[<- (look c hc).2];exact hw)];simp only[hp,hf];exact hφ.symm
 ·rw[hp] at hp'
  cases hp'
 | some φ =>
 have hrun:=Zjd h0 u ho (by rw[<- (look u hu).2];exact hw) hp w I.world (see u hu);rw[<- (look u hu).1] at hrun;refine Yt hrun fun v w' ⟨hφ,hb⟩=>⟨_,I.next hok ho hil hr (hCb w w' I.world hb) (fun j φ' x hp' h=>hst j φ' x w w' hp' h hb) (fun c hc hci => ?_) (fun c hc φ' hp' _ => ?_)⟩
 ·rw[vas c]
 unfold Za8;rw[if_pos (by rw[<- (look c hc).2];exact hw)];simp only[hp];exact hci (by rw[hp];rfl)
 ·rw[hp] at hp'
 cases hp';exact hφ
 ·rw[if_neg hw]
 refine⟨_,I.next hok ho hil hr I.world (fun _ _ _ _ h=>h) (fun c hc _ => ?_) (fun c hc φ hp' hw' => ?_)⟩
 ·rw[vas c]
 unfold Za8;rw[if_neg (by rw[<- (look c hc).2];exact hw)]
 ·rw[<- (look c hc).2] at hw'
 exact absurd hw' hw
def left (n:Nat) (listed:Array Bool):Nat:=((Qn n).filter fun i => !listed.getD i false).length
theorem Y7 {n:Nat} {listed:Array Bool} {i:Nat} (hi:i<n) (hs:listed.size=n) (hl:listed.getD i false=false):left n (listed.setIfInBounds i true)<left n listed:=by{
unfold left;have hsub:((Qn n).filter fun j => !(listed.setIfInBounds i true).getD j false)=((Qn n).filter fun j => !listed.getD j false).filter (fun j=>j != i):=by
rw[List.filter_filter];refine List.filter_congr fun j _ => ?_
by_cases hji:i=j
·subst hji
 have:i<listed.size:=by omega
 simp[this]
·rw[getD_set_ne false hji]
 have:(j != i)=true:=by simpa using fun e:j=i=>hji e.symm
 simp[this]
rw[hsub];refine List.length_filter_lt_length_iff_exists.2 ⟨i,?_,by simp⟩;rw[Pr,Qp];exact⟨hi,by rw[hl];rfl⟩}
theorem wpAny_of_as (hok:Ok ops a0.tmps.size) (h0:wpAs Kr P ops C phi fx Q 0 ops.toList a0 []) (hCb:∀ w w',C w->Kr w w'->C w') (hst:∀ (j:Nat) (φ:Qa7->Qa6->Prop) (x:Qa7) (w w':Qa6),phi j=some φ->φ x w->Kr w w'->φ x w')
 {Q':Qa9->Qbb->Qa6->Prop} (hQ:∀ a w,Q a w->Q' .normal a w):∀ (fuel:Nat) (listed:Array Bool) (u:Nat->Qa7) (a:Qbb) (w:Qa6),left ops.size listed<=fuel->Inv Kr P ops C phi fx Q a0 listed u a w->wpAny P .any ops Q' fuel listed a w:=by
 have fin:∀ (listed:Array Bool) (u:Nat->Qa7) (a:Qbb) (w:Qa6),Inv Kr P ops C phi fx Q a0 listed u a w->Qf .any ops listed=[]->Q' .normal a w:=by
 intro listed u a w I hr;have all:∀ n i,i<n->i<ops.size->listed.getD i false=true:=by
 intro n
 induction n with
 | zero=>intro i h;omega
 | succ n ih =>
 intro i hin hi;cases hl:listed.getD i false with
 | true=>rfl
 | false =>
  have ho:ops[i]? = some (ops[i]'hi):=Qu hi;have hmem:i∈Qf .any ops listed:=by
  refine mem_ready.2 ⟨?_,_,ho,fun e he hb => ?_⟩
  ·have:i<listed.size:=by rw[I.lsize];exact hi
  simpa [this] using hl
  ·have:=hok.less i _ ho e he hb
  exact ih e.on (by omega) (by omega);rw[hr] at hmem;cases hmem
 have all':∀ i,i<ops.size->listed.getD i false=true:=fun i hi=>all (i+1) i (by omega) hi
 have hu:∀ j,listed.getD j false=true->(phi j).isSome=true->u j=u j:=fun _ _ _=>rfl
 have hend:=Ud h0 u ops.size (Qa _);have hn:ops.toList.drop ops.size=[]:=Qa0 (by simp);rw[hn] at hend;unfold wpAs at hend;have he:=hend w I.world (Zfl u ops.size fun j oj φ hj hoj hp hw=>I.act u hu j oj φ hoj (all' j hj) hp hw);have hfr:a=(Xe Kr P ops C phi fx Q a0 u ops.size).1:=by
 have hs:=I.size.trans (Vi (Kr:=Kr) (P:=P) (ops:=ops) (C:=C) (phi:=phi) (fx:=fx) (Q:=Q) a0 u ops.size).symm;have hd:=I.defers.trans (V0 (Kr:=Kr) (P:=P) (ops:=ops) (C:=C) (phi:=phi) (fx:=fx) (Q:=Q) a0 u ops.size).symm;have ht:∀ t,a.tmps.getD t Qbf=(Xe Kr P ops C phi fx Q a0 u ops.size).1.tmps.getD t Qbf:=by
 intro t;by_cases hj:∃ (j:Nat) (o':Qba),ops[j]? = some o'/\o'.dst=some t
 ·obtain⟨j,o',ho',hd'⟩:=hj
  have hjl:=(Qe.1 ho').1;rw[I.new j o' t ho' (all' j hjl) hd',Zeu hok u ho' hd' ops.size hjl,I.val u hu j (all' j hjl)]
 ·rw[I.old t (fun k ok hk hdk=>absurd ⟨k,ok,hk,hdk⟩ hj),Zaq a0 u t ops.size (fun k ok _ hk hdk=>hj ⟨k,ok,hk,hdk⟩)]
 generalize (Xe Kr P ops C phi fx Q a0 u ops.size).1=b at *;obtain⟨at_,ad⟩:=a;obtain⟨bt,bd⟩:=b;simp only at hs hd ht;subst hd;have:at_=bt:=by
 apply Q7 hs;intro k h1 h2;have:=ht k
 simpa [Qk,h1,h2] using this
 rw[this];rw[hfr];exact hQ _ _ he;intro fuel
 induction fuel with
 | zero =>
 intro listed u a w hl I;have hr:Qf .any ops listed=[]:=by
 rw[Q9];intro i hi;obtain⟨hun,o,ho,_⟩:=mem_ready.1 hi;have hlt:=(Qe.1 ho).1;have hil:listed.getD i false=false:=by
 have:i<listed.size:=by rw[I.lsize];exact hlt
 simpa [this] using hun
 have:=Y7 hlt I.lsize hil;omega;exact⟨hr,fin listed u a w I hr⟩
 | succ fuel ih =>
 intro listed u a w hl I;refine⟨fun hr=>fin listed u a w I hr,fun i hi => ?_⟩;have hlt:i<ops.size:=by
 obtain⟨_,o,ho,_⟩:=mem_ready.1 hi;exact(Qe.1 ho).1;have hil:listed.getD i false=false:=by
 have h1:=(mem_ready.1 hi).1;have:i<listed.size:=by rw[I.lsize];exact hlt
 simpa [this] using h1
 refine wpOp_mono (fun a' w' ⟨u',I'⟩=>ih _ u' a' w' ?_ I') (I.step hok h0 hCb hst hi);have:=Y7 hlt I.lsize hil;omega
end
theorem wp_region_fx (Kr:Qa6->Qa6->Prop) {id:Nat} {l:List Qba} {a:Qbb} {w:Qa6} {Q':Qa9->Qbb->Qa6->Prop} (hm:P.follows .mixedOrders=true) (C:Qa6->Prop) (phi:Nat->Option (Qa7->Qa6->Prop)) (fx:Nat->Option Qa7) (hok:okAs l.toArray a.tmps.size=true)
 (hC:C w.drew) (hCb:∀ w w',C w->Kr w w'->C w') (hst:∀ (j:Nat) (φ:Qa7->Qa6->Prop) (x:Qa7) (w w':Qa6),phi j=some φ->φ x w->Kr w w'->φ x w')
 (h:wpAs Kr P l.toArray C phi fx (fun a w=>Q' .normal a w) 0 l a []):(Code.region id l.toArray true).wp P Q' a w:=by
 refine wp_region_any hm ?_;have hsz:(Ql l.toArray.size false).size=l.toArray.size:=by simp
 have hg:∀ i,(Ql l.toArray.size false).getD i false=false:=fun i=>by
 by_cases hi:i<l.toArray.size
 ·simp[Qk]
 ·simp[Qk]
 refine wpAny_of_as (a0:=a) (ok_of hok) (by simpa using h) hCb hst (fun _ _ h=>h) _ _ (fun _=>Qbf) a w.drew ?_ ⟨hsz,rfl,rfl,?_,?_,fun _ _=>rfl,hC,?_,?_⟩
 ·unfold left
 exact Qq (Pm _ _) (by simp)
 ·intro i o _ hl
 rw[hg i] at hl;cases hl
 ·intro i o d _ hl
 rw[hg i] at hl;cases hl
 ·intro c _ i hl
 rw[hg i] at hl;cases hl
 ·intro c _ i o φ _ hl
 rw[hg i] at hl;cases hl
end
theorem does_enter {P:Program} {ρ:Qbj->Qa7} {o:Qba} {w:Qa6} {R:Qa7->Qa6->Prop} {f:FuncId} {args:Array Qa7} (h:(execOp ρ o).run P w=.ok (.enter f args) w) (hc:Qbg P f args w (fun e w'=>∃ v,e=.returned v/\R v w')):doesUpon P R ((execOp ρ o).run P w):=by
 rw[h];exact hc
end Go.Proofs.YtgmbjnajdfgenaaGreat.Rb
namespace Go.Proofs.YtgmbjnajdfgenaaGreat
open Go.RowKit
abbrev Env:=List (Tmp×(Qa6->Prop))
abbrev doesUpon (P:Program) (R:Qa7->Qa6->Prop) (r:Result Next):Prop:=Rb.doesUpon P R r
def seen (ops:Array Qba) (o:Qba) (w:Qa6):Env->Prop
 | []=>True
 | p::r=>((o.looksAt ops).contains p.1=true->p.2 w)/\seen ops o w r
def envAdd (d:Option Tmp) (p:Qa6->Prop) (env:Env):Env :=
 match d with
 | some d=>(d,p)::env
 | none=>env
def holds (w:Qa6):Env->Prop
 | []=>True
 | p::r=>p.2 w/\holds w r
def wpAs (P:Program) (ops:Array Qba) (C:Qa6->Prop) (phi:Nat->Option (Qa7->Qa6->Prop)) (fx:Nat->Option Qa7) (Q:Qbb->Qa6->Prop):Nat->List Qba->Qbb->Env->Prop
 | _,[],a,env=>∀ w,C w->holds w env->Q a w
 | i,o::rest,a,env =>
 if Qc o (yielded ops a.tmps)=true then
 match phi i with
 | none =>
 match fx i with
 | none=>∃ v,(∀ w,C w->seen ops o w env->(execOp a.eval o).run P w=.ok (.value v) w)/\wpAs P ops C phi fx Q (i+1) rest (a.put o.dst v) env
 | some u=>(∀ w,C w->seen ops o w env->doesUpon P (fun v w'=>v=u/\Qbh w.heap.size w w') ((execOp a.eval o).run P w))/\wpAs P ops C phi fx Q (i+1) rest (a.put o.dst u) env
 | some φ=>(∀ w,C w->seen ops o w env->doesUpon P (fun v w'=>φ v w'/\Qbh w.heap.size w w') ((execOp a.eval o).run P w)) /\
  ∀ v,wpAs P ops C phi fx Q (i+1) rest (a.put o.dst v) (envAdd o.dst (φ v) env)
 else wpAs P ops C phi fx Q (i+1) rest (a.put o.dst Qbf) env
section
variable {P : Program} {ops : Array Qba} {C : Qa6 -> Prop} {phi : Nat -> Option (Qa7 -> Qa6 -> Prop)} {fx : Nat -> Option Qa7} {Q : Qbb -> Qa6 -> Prop}
theorem wpAs_skip {i:Nat} {o:Qba} {rest:List Qba} {a:Qbb} {env:Env} (hw:Qc o (yielded ops a.tmps)=false) (h:wpAs P ops C phi fx Q (i+1) rest (a.put o.dst Qbf) env):wpAs P ops C phi fx Q i (o::rest) a env:=by
 unfold wpAs;rw[if_neg (by rw[hw];exact Pz)];exact h
theorem wpAs_fixed {i:Nat} {o:Qba} {rest:List Qba} {a:Qbb} {env:Env} {u:Qa7} (hw:Qc o (yielded ops a.tmps)=true) (hp:phi i=none) (hf:fx i=some u)
 (hv:∀ w,C w->seen ops o w env->doesUpon P (fun v w'=>v=u/\Qbh w.heap.size w w') ((execOp a.eval o).run P w)) (h:wpAs P ops C phi fx Q (i+1) rest (a.put o.dst u) env):wpAs P ops C phi fx Q i (o::rest) a env:=by
 unfold wpAs;rw[if_pos hw,hp];simp only[hf];exact⟨hv,h⟩
theorem wpAs_pure {i:Nat} {o:Qba} {rest:List Qba} {a:Qbb} {env:Env} {v:Qa7} (hw:Qc o (yielded ops a.tmps)=true) (hp:phi i=none)
 (hv:∀ w,C w->seen ops o w env->(execOp a.eval o).run P w=.ok (.value v) w) (h:wpAs P ops C phi fx Q (i+1) rest (a.put o.dst v) env) (hf:fx i=none:=by rfl):wpAs P ops C phi fx Q i (o::rest) a env:=by
 unfold wpAs;rw[if_pos hw,hp];simp only[hf];exact⟨v,hv,h⟩
theorem wpAs_act {i:Nat} {o:Qba} {rest:List Qba} {a:Qbb} {env:Env} {φ:Qa7->Qa6->Prop} (hw:Qc o (yielded ops a.tmps)=true) (hp:phi i=some φ)
 (hv:∀ w,C w->seen ops o w env->doesUpon P (fun v w'=>φ v w'/\Qbh w.heap.size w w') ((execOp a.eval o).run P w)) (h:∀ v,wpAs P ops C phi fx Q (i+1) rest (a.put o.dst v) (envAdd o.dst (φ v) env)):wpAs P ops C phi fx Q i (o::rest) a env:=by
 unfold wpAs;rw[if_pos hw,hp];exact⟨hv,h⟩
theorem wpAs_end {i:Nat} {a:Qbb} {env:Env} (h:∀ w,C w->holds w env->Q a w):wpAs P ops C phi fx Q i [] a env:=h
theorem Zli:∀ (rest:List Qba) (i:Nat) (a:Qbb) (env:Env) (env':Rb.Env),(∀ o w,Rb.seen ops o w env'->seen ops o w env)->(∀ w,Rb.holds w env'->holds w env)->wpAs P ops C phi fx Q i rest a env->Rb.wpAs (fun w w'=>Qbh w.heap.size w w') P ops C phi fx Q i rest a env'
 | [],i,a,env,env',_,hh,h=>fun w hC hE=>h w hC (hh w hE)
 | o::rest,i,a,env,env',hs,hh,h=>by
 unfold wpAs at h;unfold Rb.wpAs;by_cases hw:Qc o (yielded ops a.tmps)=true
 ·rw[if_pos hw] at h ⊢
 cases hp:phi i with
 | none =>
 rw[hp] at h;cases hf:fx i with
 | none =>
  simp only[hf] at h ⊢;obtain⟨v,h1,h2⟩:=h;exact⟨v,fun w hC hE=>h1 w hC (hs o w hE),Zli rest _ _ _ _ hs hh h2⟩
 | some u =>
  simp only[hf] at h ⊢;exact⟨fun w hC hE=>h.1 w hC (hs o w hE),Zli rest _ _ _ _ hs hh h.2⟩
 | some φ =>
 rw[hp] at h;refine⟨fun w hC hE=>h.1 w hC (hs o w hE),fun v=>Zli rest _ _ _ _ (fun o' w hE => ?_) (fun w hE => ?_) (h.2 v)⟩
 ·unfold envAdd
  cases hd:o.dst with
  | none=>exact hs o' w hE.2
  | some d=>exact⟨fun hc=>hE.1 d hd hc,hs o' w hE.2⟩
 ·unfold envAdd
  cases hd:o.dst with
  | none=>exact hh w hE.2
  | some d=>exact⟨hE.1,hh w hE.2⟩
 ·rw[if_neg hw] at h ⊢
 exact Zli rest _ _ _ _ hs hh h
abbrev leans (ops:Array Qba) (i j:Nat):Bool:=Rb.leans ops i j
abbrev okAs (ops:Array Qba) (size:Nat):Bool:=Rb.okAs ops size
abbrev Ok (ops:Array Qba) (size:Nat):Prop:=Rb.Ok ops size
theorem ok_of {size:Nat} (h:okAs ops size=true):Ok ops size:=Rb.ok_of h
theorem leans_spec {i j:Nat} {o:Qba} (ho:ops[i]? = some o) (h:leans ops i j=true):∃ e∈o.after,Qg .any e=true/\e.on=j:=Rb.leans_spec ho h
abbrev left (n:Nat) (listed:Array Bool):Nat:=Rb.left n listed
theorem wpAny_of_as {a0:Qbb} (hok:Ok ops a0.tmps.size) (h0:wpAs P ops C phi fx Q 0 ops.toList a0 []) (hCb:∀ w w',C w->Qbh w.heap.size w w'->C w') (hst:∀ (j:Nat) (φ:Qa7->Qa6->Prop) (x:Qa7) (w w':Qa6),phi j=some φ->φ x w->Qbh w.heap.size w w'->φ x w')
 {Q':Qa9->Qbb->Qa6->Prop} (hQ:∀ a w,Q a w->Q' .normal a w) (fuel:Nat) (listed:Array Bool) (u:Nat->Qa7) (a:Qbb) (w:Qa6) (hl:left ops.size listed<=fuel) (I:Rb.Inv (fun w w'=>Qbh w.heap.size w w') P ops C phi fx Q a0 listed u a w):wpAny P .any ops Q' fuel listed a w :=
 Rb.wpAny_of_as hok (Zli _ _ _ [] _ (fun _ _ _=>trivial) (fun _ _=>trivial) h0) hCb hst hQ fuel listed u a w hl I
theorem wp_region_fx {id:Nat} {l:List Qba} {a:Qbb} {w:Qa6} {Q':Qa9->Qbb->Qa6->Prop} (hm:P.follows .mixedOrders=true) (C:Qa6->Prop) (phi:Nat->Option (Qa7->Qa6->Prop)) (fx:Nat->Option Qa7) (hok:okAs l.toArray a.tmps.size=true)
 (hC:C w.drew) (hCb:∀ w w',C w->Qbh w.heap.size w w'->C w') (hst:∀ (j:Nat) (φ:Qa7->Qa6->Prop) (x:Qa7) (w w':Qa6),phi j=some φ->φ x w->Qbh w.heap.size w w'->φ x w')
 (h:wpAs P l.toArray C phi fx (fun a w=>Q' .normal a w) 0 l a []):(Code.region id l.toArray true).wp P Q' a w :=
 Rb.wp_region_fx (fun w w'=>Qbh w.heap.size w w') hm C phi fx hok hC hCb hst (Zli _ _ _ [] _ (fun _ _ _=>trivial) (fun _ _=>trivial) h)
end
theorem does_enter {P:Program} {ρ:Qbj->Qa7} {o:Qba} {w:Qa6} {R:Qa7->Qa6->Prop} {f:FuncId} {args:Array Qa7} (h:(execOp ρ o).run P w=.ok (.enter f args) w) (hc:Qbg P f args w (fun e w'=>∃ v,e=.returned v/\R v w')):doesUpon P R ((execOp ρ o).run P w):=by
 rw[h];exact hc
section
variable {P : Program} {Q Q' : Qa9 -> Qbb -> Qa6 -> Prop}
theorem Zc1 (hQ:∀ e a w,e≠.normal->Q e a w->Q' e a w) {o:Qba} {a:Qbb} {w:Qa6} {K:Qbb->Qa6->Prop} (hh:o.wp P a w K Q):o.wp P a w K Q':=by{
unfold Oper.wp at *;generalize (execOp a.eval o).run P w=r at *;have hout:LetsOut Q->LetsOut Q':=fun⟨a,w,h⟩=>⟨a,w,hQ _ _ _ (by simp) h⟩
cases r with
| ok n w' =>
cases n <;> simp only[Oper.upon] at hh ⊢ <;>
 first
 | exact hh
 | exact Calls.mono hh (fun e w'' he=>by cases e <;> first | exact he | exact hQ _ _ _ (by simp) he | exact hout he)
 | exact Rows.mono hh (fun _ _ he=>he)
| halt x w'=>cases x <;> simp only[Oper.upon] at hh ⊢ <;> first | exact hh | exact hQ _ _ _ (by simp) hh}
def Yba (P:Program) (ops:Array Qba) (m:Nat) (Q:Qa9->Qbb->Qa6->Prop):Qa9->Qbb->Qa6->Prop
 | .normal,a,w=>wpOp P ops Q m (fun a' w'=>Q .normal a' w') a w
 | e,a,w=>Q e a w
theorem Zi0 {ops:Array Qba} {m:Nat} {e:Qa9} {a:Qbb} {w:Qa6} (he:e≠.normal):Yba P ops m Q e a w=Q e a w:=by
 cases e <;> first | rfl | exact absurd rfl he
def Zud (ops:Array Qba):Bool :=
 ((Qn ops.size).all fun i=>match ops[i]? with
 | none=>true
 | some o=>(o.after.all fun e => !Region.binds .any e||decide (e.on<i))&&(match o.guard with | some (g,_)=>decide (g<i) | none=>true) &&
 (decide (i+1=ops.size)||(Qn ops.size).any fun j=>decide (i<j)&&leans ops j i))
structure Zyp (ops:Array Qba):Prop where
 less:∀ (i:Nat) (o:Qba),ops[i]? = some o->∀ e∈o.after,Qg .any e=true->e.on<i
 guard:∀ (i:Nat) (o:Qba) (g:Nat) (b:Bool),ops[i]? = some o->o.guard=some (g,b)->g<i
 used:∀ (i:Nat),i+1<ops.size->∃ j,i<j/\j<ops.size/\leans ops j i=true
theorem Zfb {ops:Array Qba} (h:Zud ops=true):Zyp ops:=by{
unfold Zud at h;rw[Qm] at h;have hl:∀ {i:Nat} {o:Qba},ops[i]? = some o->i<ops.size:=fun ho=>(Qe.1 ho).1
refine⟨fun i o ho e he hb => ?_,fun i o g b ho hg => ?_,fun i hi => ?_⟩
·have h1:=h i (Qp.2 (hl ho))
simp only[ho,Qj] at h1;have:=P1.1 h1.1.1 e he
simpa [hb] using this
·have h1:=h i (Qp.2 (hl ho))
simp only[ho,Qj,hg] at h1
simpa using h1.1.2
·have ho:ops[i]? = some (ops[i]'(by omega)):=Qu (by omega)
have h1:=h i (Qp.2 (by omega));simp only[ho,Qj,Q8,decide_eq_true_eq] at h1;rcases h1.2 with h2 | h2
·omega
·obtain⟨j,hj,h3⟩:=List.any_eq_true.1 h2
 simp only[Qj,decide_eq_true_eq] at h3;exact⟨j,h3.1,Qp.1 hj,h3.2⟩}
theorem Zcr {l:List Qba} {o:Qba} {i:Nat} (hi:i<l.length):(l++[o]).toArray[i]? = l.toArray[i]? := by simp[Qan hi]
theorem Za6 {l:List Qba} {o:Qba}:(l++[o]).toArray[l.length]? = some o:=by simp
theorem Zfm {b:Array Bool} {c d:Bool} {i:Nat} (hi:i<b.size):(b.push c).getD i d=b.getD i d:=by
 simp only[Ps,Array.getElem?_push_lt hi];rw[Qu hi]
theorem Zml {b:Array Bool} {c d:Bool}:(b.push c).getD b.size d=c:=by simp
theorem Z3k {b:Array Bool} {c d:Bool} {i:Nat} (hi:i<b.size):(b.push c).setIfInBounds i d=(b.setIfInBounds i d).push c:=by{
apply Array.ext_getElem?;intro k;by_cases hk:k<b.size
·by_cases hki:i=k
·subst hki
 have e:(b.setIfInBounds i d).size=b.size:=by simp
 rw[Pn,e,if_neg (Nat.ne_of_lt hi)];simp[hi,Nat.lt_succ_of_lt hi]
·simp[Pn,hki,Nat.ne_of_lt hk]
·by_cases hk2:k=b.size
·subst hk2
 have:¬ i=b.size:=by omega
 have e:(b.setIfInBounds i d).size=b.size:=by simp
 rw[Qaw this,Pn,Pn,e];simp
·have h1:¬ i=k:=by omega
 simp[Pn,h1,hk2]}
theorem Zkw {l:List Qba} {o:Qba} (hok:Zyp (l++[o]).toArray):∀ (fuel:Nat) (listed:Array Bool) (a:Qbb) (w:Qa6),listed.size=l.length ->
 (∀ (i:Nat) (oi:Qba),l.toArray[i]? = some oi->listed.getD i false=true->∀ e∈oi.after,Qg .any e=true->listed.getD e.on false=true) ->
 wpAny P .any l.toArray (Yba P (l++[o]).toArray l.length Q) fuel listed a w->wpAny P .any (l++[o]).toArray Q (fuel+1) (listed.push false) a w:=by
 have hsize:(l++[o]).toArray.size=l.length+1:=by simp
 have all_of_last:∀ (listed:Array Bool),listed.size=l.length->(∀ (i:Nat) (oi:Qba),l.toArray[i]? = some oi->listed.getD i false=true->∀ e∈oi.after,Qg .any e=true->listed.getD e.on false=true) ->
 (∀ e∈o.after,Qg .any e=true->listed.getD e.on false=true)->∀ i,i<l.length->listed.getD i false=true:=by
 intro listed hs hcl hlast;have key:∀ k i,l.length-i<=k->i<l.length->listed.getD i false=true:=by
 intro k
 induction k with
 | zero=>intro i h1 h2;omega
 | succ k ih =>
 intro i h1 h2;obtain⟨j,hij,hj,hle⟩:=hok.used i (by rw[hsize];omega);rw[hsize] at hj;by_cases hjl:j<l.length
 ·obtain⟨e,he,hb,rfl⟩:=leans_spec (ops:=(l++[o]).toArray) (o:=l[j]) (by rw[Zcr hjl];simp[hjl]) hle
  exact hcl j _ (by simp[hjl]) (ih j (by omega) hjl) e he hb
 ·obtain rfl:j=l.length:=by omega
  obtain⟨e,he,hb,rfl⟩:=leans_spec (ops:=(l++[o]).toArray) (o:=o) Za6 hle;exact hlast e he hb
 exact fun i hi=>key _ i (Qa _) hi
 have ready_low:∀ (listed:Array Bool),listed.size=l.length->∀ i,i<l.length->(i∈Qf .any (l++[o]).toArray (listed.push false)↔i∈Qf .any l.toArray listed):=by
 intro listed hs i hi;rw[mem_ready,mem_ready,Zfm (by omega),Zcr hi];refine and_congr_right fun _=>exists_congr fun oi=>and_congr_right fun ho => ?_
 refine forall_congr' fun e=>forall_congr' fun he=>forall_congr' fun hb => ?_
 have:=hok.less i oi (by rw[Zcr hi];exact ho) e he hb;rw[Zfm (by omega)];have ready_last:∀ (listed:Array Bool),listed.size=l.length->(l.length∈Qf .any (l++[o]).toArray (listed.push false)↔∀ e∈o.after,Qg .any e=true->listed.getD e.on false=true):=by
 intro listed hs;rw[mem_ready,<- hs,Zml,hs,Za6];constructor
 ·rintro⟨_,o',ho',h⟩ e he hb
 cases ho';have:=hok.less _ o Za6 e he hb;have h2:=h e he hb
 rwa [Zfm (by omega)] at h2
 ·intro h
 refine⟨rfl,o,rfl,fun e he hb => ?_⟩;have:=hok.less _ o Za6 e he hb;rw[Zfm (by omega)];exact h e he hb;have ready_lt:∀ (listed:Array Bool) i,i∈Qf .any (l++[o]).toArray listed->i<=l.length:=by
 intro listed i hi;obtain⟨_,o',ho',_⟩:=mem_ready.1 hi;have:=(Qe.1 ho').1;rw[hsize] at this;omega;have ready_full:∀ (listed:Array Bool),listed.size=l.length->(∀ i,i<l.length->listed.getD i false=true)->Qf .any (l++[o]).toArray ((listed.push false).setIfInBounds l.length true)=[]:=by
 intro listed hs hall;rw[Q9];intro i hi;have hle:=ready_lt _ i hi;obtain⟨hun,_⟩:=mem_ready.1 hi;by_cases hil:i<l.length
 ·rw[getD_set_ne true (by omega),Zfm (by omega)] at hun
 have h1:=hall i hil;simp only[Ps,Qu (show i<listed.size by omega)] at hun h1;simp at hun h1;rw[h1] at hun;cases hun
 ·obtain rfl:i=l.length:=by omega
 simp[hs] at hun;have last_step:∀ (fuel:Nat) (listed:Array Bool) (a:Qbb) (w:Qa6),listed.size=l.length->(∀ i,i<l.length->listed.getD i false=true)->Yba P (l++[o]).toArray l.length Q .normal a w ->
 wpOp P (l++[o]).toArray Q l.length (wpAny P .any (l++[o]).toArray Q fuel ((listed.push false).setIfInBounds l.length true)) a w:=by
 intro fuel listed a w hs hall h;refine wpOp_mono (fun a' w' hq => ?_) h;have hr:=ready_full listed hs hall;cases fuel with
 | zero=>exact⟨hr,hq⟩
 | succ f=>exact⟨fun _=>hq,fun i hi=>by rw[hr] at hi;cases hi⟩
 have none_ready:∀ (listed:Array Bool),listed.size=l.length->(∀ (i:Nat) (oi:Qba),l.toArray[i]? = some oi->listed.getD i false=true->∀ e∈oi.after,Qg .any e=true->listed.getD e.on false=true) ->
 Qf .any (l++[o]).toArray (listed.push false)≠[]:=by
 intro listed hs hcl hnil;have all:∀ k i,i<k->i<l.length->listed.getD i false=true:=by
 intro k
 induction k with
 | zero=>intro i h;omega
 | succ k ih =>
 intro i hik hi;cases hlst:listed.getD i false with
 | true=>rfl
 | false =>
  have hmem:i∈Qf .any (l++[o]).toArray (listed.push false):=by
  refine(ready_low listed hs i hi).2 (mem_ready.2 ⟨?_,l[i],by simp[hi],fun e he hb => ?_⟩)
  ·have:i<listed.size:=by omega
  simp only[Ps,Qu this] at hlst ⊢
  simpa using hlst
  ·have:=hok.less i l[i] (by rw[Zcr hi];simp[hi]) e he hb
  exact ih e.on (by omega) (by omega);rw[hnil] at hmem;cases hmem
 have hmem:=(ready_last listed hs).2 fun e he hb=>by
 have:=hok.less _ o Za6 e he hb;exact all (e.on+1) e.on (by omega) this;rw[hnil] at hmem;cases hmem;have wpOp_low:∀ (i:Nat) (K:Qbb->Qa6->Prop) (a:Qbb) (w:Qa6),i<l.length->wpOp P l.toArray (Yba P (l++[o]).toArray l.length Q) i K a w->wpOp P (l++[o]).toArray Q i K a w:=by
 intro i K a w hi h;have ho:l.toArray[i]? = some l[i]:=by simp[hi]
 unfold wpOp at h ⊢;rw[Zcr hi,ho];rw[ho] at h;simp only at h ⊢;have hw:Qc l[i] (yielded (l++[o]).toArray a.tmps)=Qc l[i] (yielded l.toArray a.tmps):=by
 unfold Qc;cases hg:l[i].guard with
 | none=>rfl
 | some gb =>
 obtain⟨g,b⟩:=gb;have hgl:=hok.guard i l[i] g b (by rw[Zcr hi];exact ho) hg;have:yielded (l++[o]).toArray a.tmps g=yielded l.toArray a.tmps g:=by
  unfold yielded;rw[Zcr (by omega)]
 simp only[this];rw[hw];split
 ·rename_i hwt
 rw[if_pos hwt] at h;refine h.imp (Zc1 fun e a w he hq=>by rwa [Zi0 he] at hq) (fun hx=>⟨hx.1,?_⟩);obtain⟨a1,w1,h1⟩:=hx.2;exact⟨a1,w1,by rwa [Zi0 (by simp)] at h1⟩
 ·rename_i hwt
 rwa [if_neg hwt] at h
 intro fuel
 induction fuel with
 | zero =>
 intro listed a w hs hcl h;refine⟨fun hn=>absurd hn (none_ready listed hs hcl),fun i hi => ?_⟩;have hle:=ready_lt _ i hi;by_cases hil:i<l.length
 ·have:=(ready_low listed hs i hil).1 hi
 rw[h.1] at this;cases this
 ·obtain rfl:i=l.length:=by omega
 exact last_step 0 listed a w hs (all_of_last listed hs hcl ((ready_last listed hs).1 hi)) h.2
 | succ fuel ih =>
 intro listed a w hs hcl h;refine⟨fun hn=>absurd hn (none_ready listed hs hcl),fun i hi => ?_⟩;have hle:=ready_lt _ i hi;by_cases hil:i<l.length
 ·have hr:=(ready_low listed hs i hil).1 hi
 have h2:=wpOp_low i _ a w hil (h.2 i hr);obtain⟨hun,oi,ho,haft⟩:=mem_ready.1 hr;refine wpOp_mono (fun a' w' hk => ?_) h2;rw[Z3k (by omega)];refine ih (listed.setIfInBounds i true) a' w' (by simpa using hs) (fun j oj hoj hj e he hb => ?_) hk;have hje:∀ k,listed.getD k false=true->(listed.setIfInBounds i true).getD k false=true:=by
 intro k hk;by_cases hki:i=k
 ·subst hki
  have:i<listed.size:=by omega
  simp[this]
 ·rw[getD_set_ne false hki]
  exact hk
 by_cases hji:i=j
 ·subst hji
 rw[ho] at hoj;cases hoj;exact hje _ (haft e he hb)
 ·rw[getD_set_ne false hji] at hj
 exact hje _ (hcl j oj hoj hj e he hb)
 ·obtain rfl:i=l.length:=by omega
 have hall:=all_of_last listed hs hcl ((ready_last listed hs).1 hi);have hnil:Qf .any l.toArray listed=[]:=by
 rw[Q9];intro j hj;obtain⟨hun,oj,hoj,_⟩:=mem_ready.1 hj;have hjl:j<l.length:=by have:=(Qe.1 hoj).1;simpa using this
 have h1:=hall j hjl;have:j<listed.size:=by omega
 simp only[Ps,Qu this] at hun h1;simp at hun h1;rw[h1] at hun;cases hun;exact last_step _ listed a w hs hall (h.1 hnil)
end
section
variable {P : Program} {Q Q' : Qa9 -> Qbb -> Qa6 -> Prop}
theorem Zks {ops:Array Qba} {i:Nat} {K:Qbb->Qa6->Prop} {a:Qbb} {w:Qa6} (hQ:∀ e a w,Q e a w->Q' e a w) (h:wpOp P ops Q i K a w):wpOp P ops Q' i K a w:=by{
have hout:LetsOut Q->LetsOut Q':=fun⟨a,w,h⟩=>⟨a,w,hQ _ _ _ h⟩
unfold wpOp at h ⊢;cases ho:ops[i]? with
| none=>rw[ho] at h;exact h
| some o =>
rw[ho] at h;simp only at h ⊢;by_cases hw:Qc o (yielded ops a.tmps)=true
·rw[if_pos hw] at h ⊢
 exact h.imp (Zc1 fun e a w _=>hQ e a w) (fun hx=>⟨hx.1,hout hx.2⟩)
·rw[if_neg hw] at h ⊢
 exact h}
theorem Zbf {ops:Array Qba} (hQ:∀ e a w,Q e a w->Q' e a w):∀ (fuel:Nat) (listed:Array Bool) (a:Qbb) (w:Qa6),wpAny P .any ops Q fuel listed a w->wpAny P .any ops Q' fuel listed a w
 | 0,_,_,_,h=>⟨h.1,hQ _ _ _ h.2⟩
 | fuel+1,_,_,_,h=>⟨fun hr=>hQ _ _ _ (h.1 hr),fun i hi=>wpOp_mono (fun a' w' hk=>Zbf hQ fuel _ a' w' hk) (Zks hQ (h.2 i hi))⟩
def Zhu (P:Program) (ops:Array Qba) (Q:Qa9->Qbb->Qa6->Prop) (tail:List Qba):Qa9->Qbb->Qa6->Prop
 | .normal,a,w=>wpList P ops Q tail a w
 | e,a,w=>Q e a w
theorem Zc4 {ops:Array Qba} {tail:List Qba} {e:Qa9} {a:Qbb} {w:Qa6} (he:e≠.normal):Zhu P ops Q tail e a w=Q e a w:=by
 cases e <;> first | rfl | exact absurd rfl he
theorem Zea (ops:Array Qba):∀ (tail l:List Qba),(∀ j,0<j->j<=tail.length->Zyp (l++tail.take j).toArray)->(∀ o∈tail,o.guard=none)->∀ (a:Qbb) (w:Qa6),
 wpAny P .any l.toArray (Zhu P ops Q tail) l.length (Ql l.length false) a w->wpAny P .any (l++tail).toArray Q (l.length+tail.length) (Ql (l.length+tail.length) false) a w
 | [],l,_,_,a,w,h=>by
 rw[Qah];exact Zbf (fun e a w hq=>by cases e <;> exact hq) _ _ _ _ h
 | o::rest,l,hok,hgd,a,w,h=>by
 have hgo:=hgd o (Qs.2 (.inl rfl));have h1:wpAny P .any l.toArray (Yba P (l++[o]).toArray l.length (Zhu P ops Q rest)) l.length (Ql l.length false) a w:=by
 refine Zbf (fun e a w hq => ?_) _ _ _ _ h;by_cases he:e=.normal
 ·subst he
 show wpOp P (l++[o]).toArray (Zhu P ops Q rest) l.length (fun a' w'=>wpList P ops Q rest a' w') a w;have hq':wpList P ops Q (o::rest) a w:=hq;unfold wpList at hq';unfold wpOp;rw[Za6];have hw:∀ ops',Qc o (yielded ops' a.tmps)=true:=fun ops'=>by simp[Qc,hgo]
 simp only[hw,if_true] at hq' ⊢;refine hq'.imp (Zc1 fun e a w he hq=>by rwa [Zc4 he]) (fun hx=>⟨hx.1,?_⟩);obtain⟨a1,w1,h1⟩:=hx.2;exact⟨a1,w1,h1⟩
 ·rw[Zi0 he,Zc4 he]
 rwa [Zc4 he] at hq
 have hg:∀ i,(Ql l.length false).getD i false=false:=fun i=>by
 by_cases hi:i<l.length
 ·simp[Qk]
 ·simp[Qk]
 have h2:=Zkw (hok 1 Nat.one_pos (by simp)) l.length (Ql l.length false) a w (by simp) (fun i oi _ hi=>by rw[hg i] at hi;cases hi) h1;have e1:(Ql l.length false).push false=Ql (l++[o]).length false:=by rw[Qap,List.length_singleton,Qv]
 rw[e1] at h2;have e2:l.length+1=(l++[o]).length:=by simp
 rw[e2] at h2
 have ih:=Zea ops rest (l++[o]) (fun j h0 hj=>by
 have:=hok (j+1) (by omega) (by simpa using hj);rw[List.take_succ_cons] at this
 simpa using this) (fun o' ho'=>hgd o' (Qs.2 (.inr ho'))) a w h2
 have e3:l++o::rest=l++[o]++rest:=by simp
 have e4:l.length+(o::rest).length=(l++[o]).length+rest.length:=by simp;omega
 rw[e3,e4];exact ih
def Zcq (ops:Array Qba) (m:Nat):Bool :=
 ((Qn (ops.size-m)).all fun j=>Zud (ops.toList.take (m+(j+1))).toArray)&&(ops.toList.drop m).all fun o=>o.guard.isNone
end
theorem Zsf {w:Qa6} {base n size cap:Nat} {t:Qbc} {ad:Qa8} {xs:List Qa7} (h:w.ownsRow base t size (.slice (some ad) n cap) n xs) {j:Nat} (_:j<n*size) (u:Qa7):(w.setCell (ad.add j) u).ownsRow base t size (.slice (some ad) n cap) n (xs.set j u):=by{
refine⟨by simpa using h.1,?_⟩;rcases h.2 with ⟨e,_⟩ | ⟨g,cap',cur,e,hb,hg,hnc,hm,hs,ht⟩
·cases e
·cases e
have hadd:(⟨g,0,none⟩:Qa8).add j=⟨g,j,none⟩:=by unfold Addr.add;split <;> simp_all
have hle:n*size<=cap*size:=Nat.mul_le_mul_right _ hnc;refine .inr ⟨g,cap,cur.setIfInBounds j u,rfl,hb,?_,hnc,hm,by simpa using hs,?_⟩
·rw[hadd]
 simp[P5,P7,hg]
·rw[<- ht,Array.toList_setIfInBounds,List.take_set]}
theorem Zh9 {w:Qa6} {base n size cap:Nat} {t:Qbc} {ad:Qa8} {xs:List Qa7} (h:w.ownsRow base t size (.slice (some ad) n cap) n xs) (j:Nat):w.frozen? (ad.add j)=false:=by{
rcases h.2 with ⟨e,_⟩ | ⟨g,cap',cur,e,hb,hg,hnc,hm,hs,ht⟩
·cases e
·cases e
simp only[Q4,Zh,hg];simp}
theorem Z1i {w:Qa6} {base n size cap:Nat} {t:Qbc} {ad:Qa8} {xs:List Qa7} (h:w.ownsRow base t size (.slice (some ad) n cap) n xs) {j:Nat} {u:Qa7} (hu:xs[j]? = some u):w.cell? (ad.add j)=some u:=by{
rcases h.2 with ⟨e,_⟩ | ⟨g,cap',cur,e,_⟩
·cases e
·cases e
exact h.cells (g:=g) rfl j u hu}
theorem Vv {w:Qa6} {base n size cap:Nat} {t:Qbc} {ad:Qa8} {xs:List Qa7} (h:w.ownsRow base t size (.slice (some ad) n cap) n xs):base<=ad.block/\ad.block<w.heap.size/\n<=cap/\cap<=9223372036854775807:=by{
rcases h.2 with ⟨e,_⟩ | ⟨g,cap',cur,e,hb,hg,hnc,hm,_⟩
·cases e
·cases e
exact⟨hb,(Qe.1 hg).1,hnc,by unfold maxLen at hm;exact hm⟩}
theorem Zv {w w':Qa6} {base n size:Nat} {t:Qbc} {v:Qa7} {xs:List Qa7} (h:w.ownsRow base t size v n xs) (hb:Qbh w.heap.size w w'):w'.ownsRow base t size v n xs:=by
 refine⟨h.1,?_⟩;rcases h.2 with h | ⟨g,cap',cur,e,hb',hg,r⟩
 ·exact .inl h
 ·exact .inr ⟨g,cap',cur,e,hb',by rw[hb.block g (Qe.1 hg).1];exact hg,r⟩
theorem Yi {w:Qa6} {base n size:Nat} {t:Qbc} {v:Qa7} {xs:List Qa7} (h:w.ownsRow base t size v n xs):∃ A c,v=.slice A n c/\n<=c/\c<=9223372036854775807/\v.ownBlock=A.map (·.block)/\(0<n->∃ ad,A=some ad):=by{
rcases h.2 with ⟨e,e2⟩ | ⟨g,cap',cur,e,hb,hg,hnc,hm,_⟩
·subst e2
exact⟨none,0,e,by omega,by omega,by subst e;rfl,fun h=>by omega⟩
·exact⟨_,_,e,hnc,by unfold maxLen at hm;exact hm,by subst e;rfl,fun _=>⟨_,rfl⟩⟩}
theorem V6 {w0 a b:Qa6} {row:Option Nat} (h:w0.grownBy a row) (hb:Qbh a.heap.size a b):w0.grownBy b row :=
 ⟨hb.os.trans h.os,hb.tape.trans h.tape,hb.output.trans h.output,Qq h.size hb.size,fun k hk hne=>(hb.block k (Pa hk h.size)).trans (h.block k hk hne)⟩
theorem Yr {w0 a:Qa6} {row:Option Nat} (h:w0.grownBy a row) {p:Qa8} (hp:row=some p.block) (u:Qa7):w0.grownBy (a.setCell p u) row :=
 ⟨h.os,h.tape,h.output,by simpa using h.size,fun k hk hne=>(Below.heap_setCell _ _ _ _ (fun e=>hne (by rw[hp,e]))).trans (h.block k hk hne)⟩
theorem Xc (w:Qa6) (row:Option Nat):w.grownBy w row:=⟨rfl,rfl,rfl,Qa _,fun _ _ _=>rfl⟩
theorem Zcw {w:Qa6} {b s n:Nat} {t t':Qbc} {v:Qa7} {xs:List Qa7} {g:Nat} {cs:Array Qa7} {fr:Nat×Nat} (h:w.ownsRow b t s v n xs) (hg:w.heap[g]? = some (.cells cs t' fr)) (ht:t≠t'):some g≠v.ownBlock:=by{
rcases h.2 with ⟨e,_⟩ | ⟨g',cap',cur',e,_,hg',_⟩
·subst e
simp[Value.ownBlock]
·subst e
simp only[Value.ownBlock,ne_eq,Option.some.injEq];rintro rfl;rw[hg'] at hg;cases hg;exact ht rfl}
theorem Zck {w:Qa6} {base base' n size:Nat} {t:Qbc} {v:Qa7} {xs:List Qa7} (h:w.ownsRow base t size v n xs) (hb:base'<=base):w.ownsRow base' t size v n xs:=by
 refine⟨h.1,h.2.imp id ?_⟩;rintro⟨g,cap,cur,h1,h2,h3⟩;exact⟨g,cap,cur,h1,Qq hb h2,h3⟩
theorem Xs {W:Qa6} {g:Nat} {a b u v:Qa7} {t:Qbc} (h:W.heap[g]? = some (.cells #[a,b] t (0,0))):∃ W1,(W.setCell ⟨g,0,none⟩ u).setCell ⟨g,1,none⟩ v=W1/\W1.heap[g]? = some (.cells #[u,v] t (0,0))/\W.grownBy W1 (some g)/\W1.heap.size=W.heap.size :=
 ⟨_,rfl,by simp[P5,P7,h],Yr (p:=⟨g,1,none⟩) (Yr (p:=⟨g,0,none⟩) (Xc W (some g)) rfl u) rfl v,by simp⟩
theorem Zg {W:Qa6} {g:Nat} {a b:Qa7} {t:Qbc} (h:W.heap[g]? = some (.cells #[a,b] t (0,0))):W.cell? ⟨g,0,none⟩=some a/\W.cell? ⟨g,1,none⟩=some b/\(∀ o,W.frozen? ⟨g,o,none⟩=false)/\g<W.heap.size :=
 ⟨by simp[Qa1,h],by simp[Qa1,h],fun o=>by simp[Q4,h],(Qe.1 h).1⟩
theorem Yv {a b c:Qa6} {row:Option Nat} (h:a.grownBy b row) (h':b.grownBy c row):a.grownBy c row :=
 ⟨h'.os.trans h.os,h'.tape.trans h.tape,h'.output.trans h.output,Qq h.size h'.size,fun k hk hne=>(h'.block k (Pa hk h.size) hne).trans (h.block k hk hne)⟩
theorem Y8 {w:Qa6} {k:Nat} {o x:Obj} (h:w.heap[k]? = some o):(w.alloc x).heap[k]? = some o:=(Qa3 w x k (Qe.1 h).1).trans h
theorem Zm4 (w:Qa6) (a b:Qa7) (t:Qbc):∃ w1,w.alloc (.cells #[a,b] t)=w1/\w1.cell? ⟨w.heap.size,0,none⟩=some a/\w1.cell? ⟨w.heap.size,1,none⟩=some b/\w1.heap.size=w.heap.size+1/\Qbh w.heap.size w w1 :=
 ⟨_,rfl,by go_simp,by go_simp,by simp,(Qb _ _).alloc (Qa _) _⟩
theorem Yc (w:Qa6) (a b:Qa7) (t:Qbc):∃ w1,w.alloc (.cells #[a,b] t)=w1/\w1.heap[w.heap.size]? = some (.cells #[a,b] t (0,0))/\w1.heap.size=w.heap.size+1/\Qbh w.heap.size w w1 :=
 ⟨_,rfl,Qbe _ _,by simp,(Qb _ _).alloc (Qa _) _⟩
theorem Zt2 (z:Qa7) (n:Nat):(madeCells #[z] (n*1)).toList=Pj n z:=by{
have:madeCells #[z] (n*1)=Ql n z:=by
apply Q7
·simp[madeCells]
·intro i h1 h2
 simp[madeCells,Nat.mod_one]
rw[this];simp}
theorem Zny {α:Type} {xs:List α} {k j:Nat} {x u:α} (hk:k<xs.length) (h:(xs.set k x)[j]? = some u):(j=k/\u=x)\/(j≠k/\xs[j]? = some u):=by{
by_cases hj:k=j
·subst hj
rw[P8 hk] at h;cases h;exact .inl ⟨rfl,rfl⟩
·rw[Po hj] at h
exact .inr ⟨fun e=>hj e.symm,h⟩}
theorem Zar (v:Qa7) (xs:List UInt8) (w:Qa6) (hbig:xs.length<=140737488355328) (h:rBy (Old w) w [v] xs) :
 Qbg Tryz.prog 80 #[v] w fun e w'=>∃ u,e=.returned u/\rBy (New w.heap.size w') w' [u] xs/\Qbh w.heap.size w w':=by
 obtain⟨A,cap,rfl,hl,hc,hb⟩:=Ve (B:=w.heap.size) (fun _ h=>h) h;refine(Zf7 A xs.length cap xs (Za rfl) hbig w hb).mono ?_;rintro e w' ⟨u,rfl,h1,h2⟩;exact⟨u,rfl,Zhm h1,h2⟩
theorem Zlm:(Tryz.prog.info? 27).map (fun i=>(i.zero,i.size,i.bytes))=some (some (.slice none 0 0),1,24):=by kernel_rfl
theorem Zp2:(Tryz.prog.info? 47).map (fun i=>(i.zero,i.size,i.bytes))=some (some (.agg #[.int .i64 0,.slice none 0 0]),2,32):=by kernel_rfl
theorem Zxk (n:Nat) (hn:n<=100000) (w:Qa6):∃ (ad:Qa8) (w':Qa6),(Instr.makeSlice 23 (.int .i64 n) (.int .i64 n)).run Tryz.prog w=.ok (.slice (some ad) n n) w'/\ad.block=w.heap.size /\
 w'.ownsRow w.heap.size 27 1 (.slice (some ad) n n) n (Pj n (.slice none 0 0))/\Qbh w.heap.size w w'/\w'.heap.size=w.heap.size+1:=by
 obtain⟨i0,hi,hz0,hz1,hz2⟩:=info_parts Zlm;have h1:=run_make (P:=Tryz.prog) w 23 27 i0 (.slice none 0 0) Tryz.underlying23 hi hz0 .i64 .i64 n n (by omega) (by omega) (by rw[hz2];omega) (by omega);rw[hz1,Int.toNat_natCast] at h1;refine⟨_,_,h1,rfl,⟨by simp,.inr ⟨_,n,_,rfl,Qa _,Qbe w _,Qa _,by unfold maxLen;omega,?_,?_⟩⟩,(Qb _ _).alloc (Qa _) _,by simp⟩
 ·have:=congrArg List.length (Zt2 (.slice none 0 0) n)
 simpa [Value.cells] using this
 ·have:=Zt2 (.slice none 0 0) n
 simp only[Value.cells];rw[this];simp
def Vf (n:Int):Bool:=decide (0<=n)&&decide (n<256)
theorem Zdh (n:Int) (w:Qa6):Qbg Tryz.prog 144 #[.int .i64 n] w fun e w'=>e=.returned (.bool (Vf n))/\w=w':=by{
unfold Vf;by_cases h:0<=n
·go_enter Tryz.func144,Tryz.ntmps144
go_wp2
go_ret;exact⟨by simp[h],rfl⟩
·go_enter Tryz.func144,Tryz.ntmps144
go_wp2
go_ret;exact⟨by simp;omega,rfl⟩}
theorem Zcb (v:Qa7) (d:Dk) (w:Qa6) (h:Dsk (Old w) w v d):Qbg Tryz.prog 121 #[v] w fun e w'=>e=.returned (.int .i64 (chk d))/\Qbh w.heap.size w w':=by{
obtain⟨A,c,B,c',rfl,l1,m1,l2,m2,hA,hB⟩:=h.open;have HA:=Za hA;have HB:=Za hB;clear hA hB h;obtain⟨n,hn⟩:∃ n,d.1.length=n:=⟨_,rfl⟩
obtain⟨m,hm⟩:∃ m,d.2.length=m:=⟨_,rfl⟩
rw[hn] at l1 ⊢;rw[hm] at l2 ⊢;replace hn:=Za hn;replace hm:=Za hm;have hB1:=Zdi (Qb w.heap.size w) (.cells #[.slice A n c,.slice B m c'] 26);by_cases h1:n=256
·subst h1
by_cases h2:m<=4096
·go_enter Tryz.func121,Tryz.ntmps121
 go_wp2_with fail
 go_loopw [20] (fun i wr=>∃ k:Nat,k<=256/\i=.int .i64 k/\(d.1.take k).all byB=true/\wr=w.alloc (.cells #[.slice A 256 c,.slice B m c'] 26)) (fun i _=>256-(intOf i).toNat)
 case atStart=>exact⟨0,by omega,rfl,rfl,rfl⟩
 case round =>
 obtain⟨k,hk,rfl,ha,rfl⟩:=hrel;replace ha:=Za ha;by_cases hlt:k<256
 ·obtain⟨x,hx⟩:∃ x,d.1[k]? = some x:=⟨_,Qd (by rw[hn.out];exact hlt)⟩
 replace hx:=Za hx;obtain⟨ad,v,rfl,hok,hc,hby⟩:=HA.out k x hx.out;obtain⟨E,ce,rfl,_⟩:=Zt hby
 have hc':=Lib.cell?_alloc_some (.cells #[.slice (some ad) 256 c,.slice B m c'] 26) hc;by_cases hx8:x.length=128
 ·replace hx8:=Za hx8
 have e8:((x.length:Int) != 128)=false:=by rw[hx8.out];rfl
 go_wp2_with fail
 go_roundw
 case rel=>exact⟨k+1,by omega,by go_num,Zt6 ha.out hx.out (by simp[byB,hx8.out]),trivial⟩
 case measure=>simp[intOf];omega
 ·have e8:¬ (x.length:Int)=128:=by omega
 go_wp2_with fail
 go_ret;exact⟨Z1 (Zew (Zzh hx.out hx8)).symm,hB1⟩
 ·have hge:256<=k:=by omega
 have ha':Hid (d.1.all byB=true):=Za (by have:=ha.out;rwa [Qz (by rw[hn.out];exact hge)] at this);clear ha;obtain⟨w0,hw0⟩:∃ w0,w.alloc (.cells #[.slice A 256 c,.slice B m c'] 26)=w0:=⟨_,rfl⟩
 have f1:w0.cell? ⟨w.heap.size,0,none⟩=some (.slice A 256 c):=by rw[<- hw0];simp
 have f2:w0.cell? ⟨w.heap.size,1,none⟩=some (.slice B m c'):=by rw[<- hw0];simp
 have f3:w0.heap.size=w.heap.size+1:=by rw[<- hw0];simp
 rw[hw0] at hB1 ⊢;clear hw0;replace f3:=Za f3
 go_wp2_with fail
 go_loopw [31] (fun i wr=>∃ k:Nat,k<=m/\i=.int .i64 k/\(d.2.take k).all wtB=true/\Qbh w0.heap.size w0 wr) (fun i _=>m-(intOf i).toNat)
 case atStart=>exact⟨0,by omega,rfl,rfl,Qb _ _⟩
 case round =>
 obtain⟨k,hk,rfl,ha,hb⟩:=hrel;replace ha:=Za ha;by_cases hlt:k<m
 ·obtain⟨x,hx⟩:∃ x,d.2[k]? = some x:=⟨_,Qd (by rw[hm.out];exact hlt)⟩
  replace hx:=Za hx;obtain⟨ad,v,rfl,hok1,hok2,hc1,hc2,hby,_,_⟩:=HB.out k x hx.out;obtain⟨E,ce,rfl,_⟩:=Zt hby
  have hbw:=hB1.trans (hb.mono hB1.size);have g1:=(hbw.cell hok1).trans hc1;have g2:=(hbw.cell hok2).trans hc2;rw[Zd7] at g2;have g3:=(hb.cell (p:=⟨w.heap.size,1,none⟩) (by rw[f3.out];simp)).trans f2;by_cases ht:Vf x.1=true
  ·by_cases hx8:x.2.length=128
  ·replace hx8:=Za hx8
  have e8:((x.2.length:Int) != 128)=false:=by rw[hx8.out];rfl
  have hall:=Za (Zt6 ha.out hx.out (by unfold Vf at ht;simp[wtB,hx8.out];simpa using ht))
  go_wp2_with fail
  refine(Zdh _ _).mono ?_;rintro e w2 ⟨rfl,rfl⟩;rw[ht]
  go_wp2_with fail
  go_roundw
  case rel=>exact⟨k+1,by omega,by go_num,hall.out,hb.alloc hb.size _⟩
  case measure=>simp[intOf];omega
  ·have e8:((x.2.length:Int) != 128)=true:=by simp;omega
  have hbad:=Za (Zew (Zti hx.out (show wtB x=false by simp[wtB,hx8])))
  go_wp2_with fail
  refine(Zdh _ _).mono ?_;rintro e w2 ⟨rfl,rfl⟩;rw[ht]
  go_wp2_with fail
  go_ret;exact⟨Z1 hbad.out.symm,hB1.trans ((hb.alloc hb.size _).mono hB1.size)⟩
  ·have ht':Vf x.1=false:=by simpa using ht
  have hbad:=Za (Zew (Zti hx.out (show wtB x=false by unfold Vf at ht';simp[wtB,ht'])));clear ht
  go_wp2_with fail
  refine(Zdh _ _).mono ?_;rintro e w2 ⟨rfl,rfl⟩;rw[ht']
  go_wp2_with fail
  go_ret;exact⟨Z1 hbad.out.symm,hB1.trans ((hb.alloc hb.size _).mono hB1.size)⟩
 ·obtain rfl:k=m:=by omega
  have hok:=Za (Zzi (Zy8 hn.out (by rw[hm.out];exact h2) ha'.out (by have:=ha.out;rwa [Qz (by rw[hm.out];exact Qa _)] at this)))
  go_wp2_with fail
  go_ret;exact⟨Z1 hok.out.symm,hB1.trans (hb.mono hB1.size)⟩
·have h2':(4096:Int)<m:=by omega
 have hbad:=Za (Zew (Z41 (d:=d) (by rw[hm.out];omega)))
 go_enter Tryz.func121,Tryz.ntmps121
 go_wp2_with fail
 go_ret;exact⟨Z1 hbad.out.symm,hB1⟩
·have h1':((n:Int) != 256)=true:=by simp;omega
have hbad:=Za (Zew (Z35 (d:=d) (by rw[hn.out];exact h1)))
go_enter Tryz.func121,Tryz.ntmps121
go_wp2_with fail
go_ret;exact⟨Z1 hbad.out.symm,hB1⟩}
def Xy (lo:Nat) (A:Option Qa8) (w:Qa6):Qa8->Prop:=fun p=>New lo w p/\A.map (·.block)≠some p.block
def Zbo:Dk:=(Pj 256 (Pj 128 0),[])
theorem Z6c (w:Qa6) (xs:List UInt8) (hb:xs.length<=9223372036854775807):rBy (New w.heap.size (w.alloc (.cells (Znu xs) 5))) (w.alloc (.cells (Znu xs) 5)) [.slice (some ⟨w.heap.size,0,none⟩) xs.length xs.length] xs :=
 Zhm (n:=xs.length) (t:=5) ⟨by simp[u8s],.inr ⟨_,xs.length,_,rfl,Qa _,Qbe w _,Qa _,by unfold maxLen;exact hb,by simp[Znu,u8s],by simp[Znu,u8s];exact Qz (by simp)⟩⟩
theorem Z60 (w:Qa6):Qbg Tryz.prog 46 #[] w fun e w'=>∃ u,e=.returned u/\Dsk (New w.heap.size w') w' u Zbo/\Qbh w.heap.size w w':=by{
obtain⟨w1,hw1,a1,a2,a3,hB1⟩:=Zm4 w (.slice none 0 0) (.slice none 0 0) 26;have hg1:w1.heap[w.heap.size]? = some (.cells #[.slice none 0 0,.slice none 0 0] 26 (0,0)):=by rw[<- hw1];exact Qbe w _
obtain⟨ad,w2,hmk,hada,ho,hB2,hz2⟩:=Zxk 256 (by omega) w1;replace hmk:(Instr.makeSlice 23 (.int .i64 256) (.int .i64 256)).run Tryz.prog w1=.ok (.slice (some ad) 256 256) w2:=hmk;have hg2:=Za ((hB2.block w.heap.size (by omega)).trans hg1);replace hg1:=Za hg1;have hb:=Vv ho;have hBw:=hB1.trans (hB2.mono hB1.size);replace a3:=Za a3;replace hz2:=Za hz2;replace hada:=Za hada
go_enter Tryz.func46,Tryz.ntmps46
go_upto_region 2 with fail
clear hw1 hmk
go_wp2_with fail
go_loopw [6] (fun i wr=>∃ k:Nat,k<=256/\i=.int .i64 k/\w2.grownBy wr (some ad.block)/\∃ us:List Qa7,wr.ownsRow w1.heap.size 27 1 (.slice (some ad) 256 256) 256 us /\
 ∀ (j:Nat) (u:Qa7),j<k->us[j]? = some u->rBy (New w2.heap.size wr) wr [u] (Zy 128)) (fun i _=>256-(intOf i).toNat)
case atStart=>exact⟨0,by omega,rfl,Xc _ _,_,ho,fun j u hj=>by omega⟩
case round =>
obtain⟨k,hk,rfl,hgr,us,hus,hus1⟩:=hrel;replace hus1:=Za hus1;by_cases hlt:k<256
·have hul:us.length=256*1:=hus.1
 have hcu:=Z1i hus (j:=k) (Qd (by omega));have hf:=Zh9 hus k;generalize us[k]=u0 at hcu;have hmk2:(Instr.makeSlice 27 (.int .i64 128) (.int .i64 128)).run Tryz.prog wr=.ok (.slice (some ⟨wr.heap.size,0,none⟩) 128 128) (wr.alloc (.cells (Znu (Zy 128)) 5)):=Zgw 128 (by omega) wr;have hzb:=Z6c wr (Zy 128) (by simp[Zy]);rw[Zbt] at hzb;have hBr:=Zdi (Qb wr.heap.size wr) (.cells (Znu (Zy 128)) 5);have lt1:=Qr _ _ hcu;have z1:=(hBr.cell lt1).trans hcu;have z2:=(hBr.frozen lt1).trans hf;replace hul:=Za hul;replace hus:=Za hus;replace hzb:=Za hzb;generalize hwq:wr.alloc (.cells (Znu (Zy 128)) 5)=wq at *;replace hwq:=Za hwq
 go_wp2_with fail
 go_roundw
 case rel =>
 have hp1:(ad.add k).block<w2.heap.size:=by rw[Zh];exact hb.2.1
 refine⟨k+1,by omega,by go_num,Yr (V6 hgr hBr) (by rw[Zh]) _,us.set k (.slice (some ⟨wr.heap.size,0,none⟩) 128 128),Zsf (Zv hus.out hBr) (by omega) _,fun j u hj hu => ?_⟩;rcases Zny (by have:=hul.out;omega) hu with ⟨_,rfl⟩ | ⟨hne,hu'⟩
 ·exact Zf.put (Zf.mono hzb.out hgr.size) hp1 _
 ·exact Zf.put (Zf.new (hus1.out j u (by omega) hu') (Qa _) hBr) hp1 _
 case measure=>simp[intOf];omega
·have hge:256<=k:=by omega
 have hz:wr.heap[w.heap.size]? = some (.cells #[.slice none 0 0,.slice none 0 0] 26 (0,0)):=(hgr.block _ (by have:=hz2.out;have:=a3.out;omega) (fun e=>by
 have:=hada.out;have:=a3.out;simp only[Option.some.injEq] at e
 omega)).trans hg2.out
 obtain⟨k1,k2,k3,k4⟩:=Zg hz;obtain⟨W9,hW9,g9,gr9,gs9⟩:=Xs (u:=.slice (some ad) 256 256) (v:=.slice none 0 0) hz;obtain⟨k5,k6,_,_⟩:=Zg g9
 have hBr:Qbh w.heap.size w wr:=hBw.grown hgr hBw.size (fun q e=>by
 have:=hada.out;have:=a3.out;simp only[Option.some.injEq] at e
 omega)
 have hB9:Qbh w.heap.size w W9:=hBr.grown gr9 hBr.size (fun q e=>by cases e;omega);have y1:=Zck (hus.kept gr9 (by have:=Zcw hus hz (by decide);exact .inr (Ne.symm this))) (show w.heap.size<=w1.heap.size by have:=a3.out;omega)
 have hfin:Hid (Dsk (New w.heap.size W9) W9 (.agg #[.slice (some ad) 256 256,.slice none 0 0]) Zbo):=Za (by
 refine⟨_,_,rfl,Z4k y1 (by simp[Zbo]) fun j u x hu hx => ?_,⟨none,0,rfl,by simp[Zbo],by omega,fun i x hi=>by simp[Zbo] at hi⟩⟩;have hx':x=Zy 128:=by
 have:=Qao hx;simp only[Zbo,List.mem_replicate] at this;exact this.2;subst hx';have hjl:j<256:=by
 have:=(Qi.1 hx).1
 simpa [Zbo] using this
 exact Zf.mono (Zf.grown (hus1.out j u (by omega) hu) gr9 (fun q e=>by cases e;have:=hz2.out;have:=a3.out;omega)) hBw.size)
 clear y1 hus hus1 hgr hz g9 gr9
 go_wp2_with fail
 exact Qbd (v:=.agg #[.slice (some ad) 256 256,.slice none 0 0]) (by simp[results,Tryz.results46,go_sem,k5,k6]) rfl ⟨_,rfl,hfin.out,hB9⟩}
end Go.Proofs.YtgmbjnajdfgenaaGreat
namespace Go.Proofs.YtgmbjnajdfgenaaGreat
open Go.ChangeShapes Go.WideShapes Go.RowKit
def Zok:Rel (List Int):=rSl 1 (rK .i64)
theorem Zyg:Ze2 Zok:=Uf (Zgb _)
def Zjg (n:Int):Prop := -9223372036854775808<=n/\n<=9223372036854775807
theorem Zg2 {ok:Qa8->Prop} {w:Qa6} {v:Qa7} {xs:List Int} (h:Zok ok w [v] xs):∃ A cap,v=.slice A xs.length cap/\xs.length<=cap/\cap<=9223372036854775807 /\
 ∀ i x,xs[i]? = some x->∃ ad,A=some ad/\ok (ad.add i)/\w.cell? (ad.add i)=some (.int .i64 x)/\Zjg x:=by
 obtain⟨A,cap,h1,h2,h3,h4⟩:=h;refine⟨A,cap,by simpa using h1,h2,h3,fun i x hi => ?_⟩;obtain⟨ad,vs,e1,e2,e3,rfl,b1,b2⟩:=h4 i x hi;have:=e3 0 _ rfl;rw[Qt,Q3] at this;exact⟨ad,e1,this.1,this.2,by simpa [IntKind.min,IntKind.signed,IntKind.bits] using b1,by simpa [IntKind.max,IntKind.signed,IntKind.bits] using b2⟩
def InU (n:Int):Prop:=0<=n/\n<4294967296
theorem Z8 (w:Qa6) (a b c d e:Qa7) (t:Qbc):∃ w1,w.alloc (.cells #[a,b,c,d,e] t)=w1/\w1.cell? ⟨w.heap.size,0,none⟩=some a/\w1.cell? ⟨w.heap.size,1,none⟩=some b/\w1.cell? ⟨w.heap.size,2,none⟩=some c/\w1.cell? ⟨w.heap.size,3,none⟩=some d/\w1.cell? ⟨w.heap.size,4,none⟩=some e/\w1.heap.size=w.heap.size+1/\Qbh w.heap.size w w1/\w1.heap[w.heap.size]? = some (.cells #[a,b,c,d,e] t (0,0)) :=
 ⟨_,rfl,by simp,by simp,by simp,by simp,by simp,by simp,(Qb _ _).alloc (Qa _) _,Qbe _ _⟩
def Zrk (s:Nat):Nat:=if s % 2=1 then s / 2 ^^^ 3988292384 else s / 2
def Zeq:Nat->Nat->Nat
 | 0,s=>s
 | k+1,s=>Zrk (Zeq k s)
def Zes (s:Nat):Nat:=Zeq 4 s
def Z3u (s:Nat):Nat:=Zes (s % 16) ^^^ (s / 16)
def Z9b (s:Nat) (c:UInt8):Nat:=Z3u (Z3u (s ^^^ c.toNat))
def Zkm (s:Nat) (xs:List UInt8):Nat:=xs.foldl Z9b s
def crc (xs:List UInt8):Nat:=Zkm 4294967295 xs ^^^ 4294967295
theorem Zfs {a b:Nat} (ha:a<4294967296) (hb:b<4294967296):a ^^^ b<4294967296:=Nat.xor_lt_two_pow (n:=32) ha hb
theorem Z4z {s:Nat} (h:s<4294967296):Zrk s<4294967296:=by
 unfold Zrk;split
 ·exact Zfs (by omega) (by omega)
 ·omega
theorem Zlr (k:Nat) {s:Nat} (h:s<4294967296):Zeq k s<4294967296:=by
 induction k with
 | zero=>exact h
 | succ k ih=>exact Z4z ih
theorem Zox (k s:Nat):Zeq (k+1) s=Zrk (Zeq k s):=rfl
theorem Znc {s:Nat} (h:s<4294967296):Zes s<4294967296:=Zlr 4 h
theorem Zmv {s:Nat} (h:s<4294967296):Z3u s<4294967296:=Zfs (Znc (by omega)) (by omega)
theorem Z7g (c:UInt8):c.toNat<4294967296:=by have:=c.toNat_lt;omega
theorem Z3y {s:Nat} (h:s<4294967296) (c:UInt8):Z9b s c<4294967296:=Zmv (Zmv (Zfs h (Z7g c)))
theorem Zm7:∀ (xs:List UInt8) {s:Nat},s<4294967296->Zkm s xs<4294967296
 | [],_,h=>h
 | c::r,_,h=>Zm7 r (Z3y h c)
theorem Zsv (xs:List UInt8):crc xs<4294967296:=Zfs (Zm7 xs (by omega)) (by omega)
theorem Zwu (s:Nat) (xs:List UInt8) (c:UInt8):Zkm s (xs++[c])=Z9b (Zkm s xs) c:=by simp[Zkm]
theorem Ybw (s:Nat) (h:s<4294967296):bits .and .u32 (s:Int) 1=((s % 2:Nat):Int):=by
 have:=u32_and_nat s 1 h (by omega)
 rwa [nat_mask1] at this
theorem Z5y (s:Nat) (h:s<4294967296):bits .and .u32 (s:Int) 15=((s % 16:Nat):Int):=by
 have:=u32_and_nat s 15 h (by omega)
 rwa [nat_mask4] at this
theorem Yaq (a b:Nat) (x y:Int) (hx:x=a) (hy:y=b) (ha:a<4294967296) (hb:b<4294967296):bits .xor .u32 x y=((a ^^^ b:Nat):Int):=by
 rw[hx,hy];exact u32_xor_nat a b ha hb
theorem Z5e (s:Nat) (h:s<4294967296) (w:Qa6) :
 Qbg Tryz.prog 190 #[.int .u32 s] w fun e w'=>e=.returned (.int .u32 (Zrk s))/\w=w':=by
 have hb:=Ybw s h;rcases(by omega:s % 2=1\/s % 2=0) with h1 | h1
 ·have e:Hid (Zrk s=s / 2 ^^^ 3988292384):=Za (if_pos h1)
 rw[h1] at hb;have hx:=Yaq (s / 2) 3988292384 ((s:Int) / 2) 3988292384 (by omega) (by omega) (by omega) (by omega);clear h1
 go_enter Tryz.func190,Tryz.ntmps190
 go_wp2
 go_ret;rw[e.out];exact⟨rfl,rfl⟩
 ·have e:Hid (Zrk s=s / 2):=Za (if_neg (by omega))
 rw[h1] at hb;clear h1
 go_enter Tryz.func190,Tryz.ntmps190
 go_wp2
 go_ret;rw[e.out];exact⟨rfl,rfl⟩
def Zfn (k:Nat):Array Qa7:=((Qn 16).map fun i=>Value.int .u32 (if i<k then (Zes i:Int) else 0)).toArray
theorem U8 (k:Nat):(Zfn k).size=16:=by simp[Zfn]
theorem Z2r (k:Nat) (_:k<16):(Zfn k).setIfInBounds k (.int .u32 (Zes k))=Zfn (k+1):=by{
apply Q7
·simp[Zfn]
·intro i h1 h2
have hi:i<16:=by simpa [Zfn] using h2
rw[Array.getElem_setIfInBounds (by rw[U8];exact hi)];by_cases e:k=i
·subst e;simp[Zfn]
·have:i<k+1↔i<k:=by omega
 have hk:i<(Zfn k).size:=by rw[U8];exact hi
 simp[e,this,Zfn]}
theorem Zs7 (k i:Nat) (h:i<k) (hk:k<=16):(Zfn k)[i]? = some (.int .u32 (Zes i)):=by
 simp[Zfn,h,show i<16 by omega]
theorem Zij {P:Program} {w:Qa6} {g:Nat} {t:Qbc} {cur cs:Array Qa7} (hg:w.heap[g]? = some (.cells cur t (0,0))) (hl:cs.size=cur.size) (h1:∀ v∈cs.toList,v.oneCell'=true) :
 (storeCells ⟨g,0,none⟩ cs.toList).run P w=.ok () (w.setRow g cs):=by
 have:=run_storeCells_from (P:=P) g t cs.toList 0 cur w hg (by simpa using hl) h1
 simpa using this
theorem Zuz (k:Nat):∀ v∈(Zfn k).toList,v.oneCell'=true:=by
 intro v hv;simp only[Zfn,Qy,List.toList_toArray] at hv;obtain⟨i,_,rfl⟩:=hv;rfl
theorem Ztf:(Tryz.prog.info? 243).map (·.size)=some 16:=by kernel_rfl
theorem Zqb (w:Qa6) :
 Qbg Tryz.prog 171 #[] w fun e w'=>e=.returned (.agg (Zfn 16))/\Qbh w.heap.size w w':=by
 have h0:#[Value.int .u32 0,.int .u32 0,.int .u32 0,.int .u32 0,.int .u32 0,.int .u32 0,.int .u32 0,.int .u32 0,.int .u32 0,.int .u32 0,.int .u32 0,.int .u32 0,.int .u32 0,.int .u32 0,.int .u32 0,.int .u32 0]=Zfn 0:=by kernel_rfl
 have H0:=Za h0;clear h0
 go_enter Tryz.func171,Tryz.ntmps171
 go_wp2
 rw[H0.out]
 go_loopw [4] (fun i wr=>∃ k:Nat,k<=16/\i=.int .i64 k/\wr.heap.size=w.heap.size+2/\wr.heap[w.heap.size+1]? = some (.cells (Zfn k) 243 (0,0))/\wr.heap[w.heap.size]? = some (.cells (Zfn 0) 243 (0,0))/\Qbh w.heap.size w wr)
 (fun i _=>16-(intOf i).toNat)
 case atStart=>exact⟨0,by omega,rfl,by simp,by simpa using Qbe (w.alloc (Obj.cells (Zfn 0) 243)) (Obj.cells (Zfn 0) 243),heap_alloc2_old w _ _,Zdi (Zdi (Qb _ _) _) _⟩
 case round =>
 obtain⟨k,hk,rfl,hs,hT,hR,hB⟩:=hrel;by_cases hlt:k<16
 ·have hd:decide ((k:Int)<16)=true:=by simp;omega
 go_wp2
 go_loop [3,9] (fun s j=>∃ m:Nat,m<=4/\j=.int .i64 m/\s=.int .u32 (Zeq m k)) (fun _ j=>4-(intOf j).toNat)
 case atStart=>exact⟨0,by omega,rfl,rfl⟩
 case round =>
 obtain⟨m,hm,rfl,rfl⟩:=hrel;have hl:=Zlr m (s:=k) (by omega);by_cases hm4:m<4
 ·have hh:=Za (Zox m k)
  generalize Zeq m k=q at *
  go_wp2_with (go_at_call 190;refine(Z5e _ hl _).mono ?_;rintro e w' ⟨rfl,rfl⟩)
  go_round
  case rel=>exact⟨m+1,by omega,by go_num,by rw[hh.out]⟩
  case measure=>simp[intOf];omega
 ·obtain rfl:m=4:=by omega
  have hc:wr.cell? ⟨w.heap.size+1,k,none⟩=some (.int .u32 0):=by rw[cell_of_row _ _ _ _ _ _ hT];simp[Zfn,hlt]
  have hf:wr.frozen? ⟨w.heap.size+1,k,none⟩=false:=frozen_of_row _ _ _ _ _ hT
  go_wp2
  go_roundw
  case rel=>exact⟨k+1,by omega,by go_num,by simpa using hs,(heap_setCell_same _ _ _ _ _ _ hT).trans (by rw[<- Z2r k hlt];rfl),(heap_setCell_other _ _ _ _ (by simp)).trans hR,hB.setCell (by simp) _⟩
  case measure=>simp[intOf];omega
 ·obtain rfl:k=16:=by omega
 have hst:=Zij (P:=Tryz.prog) (cs:=Zfn 16) hR (by simp[U8]) (Zuz 16)
 go_wp2_with (refine wpList_load_row rfl 243 _ rfl (w.heap.size+1) rfl 243 (Zfn 16) (0,0) _ hT Tryz.underlying243 rfl ((U8 16).symm ▸ Ztf) ?_)
 refine Qbd (v:=.agg (Zfn 16)) (results_cell_row Tryz.results171 _ _ w.heap.size 243 (Zfn 16) (0,0) _ rfl (setRow_heap _ _ _ _ _ _ hR) Tryz.underlying243 rfl ((U8 16).symm ▸ Ztf)) rfl ⟨rfl,?_⟩;exact hB.trans ⟨rfl,rfl,rfl,by simp,fun k hk=>setRow_other _ _ _ _ (by omega)⟩
theorem Zp1 (w:Qa6):(storeCells ⟨w.heap.size,0,none⟩ (Zfn 16).toList).run Tryz.prog (w.alloc (Obj.cells #[Value.int .u32 0,.int .u32 0,.int .u32 0,.int .u32 0,.int .u32 0,.int .u32 0,.int .u32 0,.int .u32 0,.int .u32 0,.int .u32 0,.int .u32 0,.int .u32 0,.int .u32 0,.int .u32 0,.int .u32 0,.int .u32 0] 243))=.ok () (w.alloc (.cells (Zfn 16) 243)):=by{
rw[Zij (Qbe w _) (by rw[U8];rfl) (Zuz 16)]
congr 1
unfold Qbi World.alloc
congr 1
apply Q7
·simp
·intro k h1 h2
simp only[Array.getElem_modify,Array.getElem_push];have h3:k<w.heap.size+1:=by simpa using h2
by_cases e:k<w.heap.size
·rw[if_neg (by omega)]
 simp[e]
·rw[if_pos (by omega)]
 simp[e]}
theorem Zkk (s:Nat) (xs:List UInt8) (k:Nat) (h:k<xs.length):Zkm s (xs.take (k+1))=Z3u (Z3u (Zkm s (xs.take k) ^^^ (xs[k]?.getD 0).toNat)):=by
 rw[List.take_succ_eq_append_getElem h,Zwu,Qd h];rfl
theorem Z93 (A:Option Qa8) (cap:Nat) (w:Qa6) :
 Qbg Tryz.prog 147 #[.slice A 0 cap] w fun e w'=>e=.returned (.int .u32 0)/\Qbh w.heap.size w w':=by
 have hT:=U8 16
 go_enter Tryz.func147,Tryz.ntmps147
 go_wp2_with (go_at_call 171;refine(Zqb _).mono ?_;rintro e w1 ⟨rfl,hb1⟩;have hst:=Zp1 w1)
 refine wp_loop_rounds 1 ?_;rw[rounds_succ]
 go_wp2
 go_ret;exact⟨rfl,Zdi hb1 _⟩
theorem Z1t (A:Option Qa8) (len cap:Nat) (xs:List UInt8) (hlen:Hid (xs.length=len)) (hlc:len<=cap) (hcap:cap<=9223372036854775807) (w:Qa6) (hx:Byt w w.heap.size A xs) :
 Qbg Tryz.prog 147 #[.slice A len cap] w fun e w'=>e=.returned (.int .u32 (crc xs:Nat))/\Qbh w.heap.size w w':=by
 obtain rfl:=hlen.out;rcases Pp xs.length with h0 | h0
 ·have hx0:xs=[]:=Qx h0
 subst hx0;exact Z93 A cap w
 ·have hT:=U8 16
 obtain⟨ad,rfl,hbl,hc⟩:=hx h0
 go_enter Tryz.func147,Tryz.ntmps147
 go_wp2_with (go_at_call 171;refine(Zqb _).mono ?_;rintro e w1 ⟨rfl,hb1⟩;have hst:=Zp1 w1)
 have hB:=Zdi hb1 (Obj.cells (Zfn 16) 243);have hg:=Qbe w1 (Obj.cells (Zfn 16) 243);generalize w1.alloc (Obj.cells (Zfn 16) 243)=w2 at *;generalize w1.heap.size=g at *;clear hst hb1
 go_loop [4,10] (fun s i=>∃ k:Nat,k<=xs.length/\i=.int .i64 k/\s=.int .u32 (Zkm 4294967295 (xs.take k):Nat)) (fun _ i=>xs.length-(intOf i).toNat)
 case atStart=>exact⟨0,by omega,rfl,rfl⟩
 case round =>
 obtain⟨k,hk,rfl,rfl⟩:=hrel;have hq:=Zm7 (s:=4294967295) (xs.take k) (by omega);by_cases hlt:k<xs.length
 ·have hs:=Za (Zkk 4294967295 xs k hlt)
 have hcx:=(hB.cell (p:=ad.add k) (by rw[Zh];exact hbl)).trans (hc k hlt);have hxb:=(xs[k]?.getD 0).toNat_lt;have hx1:=Yaq (Zkm 4294967295 (xs.take k)) (xs[k]?.getD 0).toNat _ _ rfl rfl hq (by omega);have hr1:=Zfs hq (by omega:(xs[k]?.getD 0).toNat<4294967296);generalize xs[k]?.getD 0=c at *;generalize Zkm 4294967295 (xs.take k)=q at *;generalize q ^^^ c.toNat=r1 at *;have ha1:=Z5y r1 hr1;have hc1:w2.cell? ⟨g,r1 % 16,none⟩=some (.int .u32 (Zes (r1 % 16))):=by rw[cell_of_row _ _ _ _ _ _ hg];exact Zs7 16 _ (by omega) (by omega)
 have hx2:=Yaq (Zes (r1 % 16)) (r1 / 16) (Zes (r1 % 16)) ((r1:Int) / 16) rfl (by omega) (Znc (by omega)) (by omega);have hr2:=Zmv hr1;have he2:Zes (r1 % 16) ^^^ (r1 / 16)=Z3u r1:=rfl;rw[he2] at hx2;clear he2;generalize Z3u r1=r2 at *;have ha2:=Z5y r2 hr2;have hc2:w2.cell? ⟨g,r2 % 16,none⟩=some (.int .u32 (Zes (r2 % 16))):=by rw[cell_of_row _ _ _ _ _ _ hg];exact Zs7 16 _ (by omega) (by omega)
 have hx3:=Yaq (Zes (r2 % 16)) (r2 / 16) (Zes (r2 % 16)) ((r2:Int) / 16) rfl (by omega) (Znc (by omega)) (by omega);have hr3:=Zmv hr2;have he3:Zes (r2 % 16) ^^^ (r2 / 16)=Z3u r2:=rfl;rw[he3] at hx3;clear he3;generalize Z3u r2=r3 at *;have hm1:r1 % 16<16:=by omega
 have hm2:r2 % 16<16:=by omega
 generalize r1 % 16=i1 at *;generalize r2 % 16=i2 at *;generalize Zes i1=f1 at *;generalize Zes i2=f2 at *;clear hB hg hc hbl
 go_wp2
 go_round
 case rel=>exact⟨k+1,by omega,by go_num,by rw[hs.out]⟩
 case measure=>simp[intOf];omega
 ·obtain rfl:k=xs.length:=by omega
 rw[List.take_length] at *;have he:=Za (Yaq _ 4294967295 _ 4294967295 rfl rfl hq (by omega))
 go_wp2
 go_ret;exact⟨Z1 he.out,hB⟩
section
variable {P : Program} {Q : Qa9 -> Qbb -> Qa6 -> Prop}
theorem Zrl {ops:Array Qba} {a:Qbb} {w:Qa6} (m:Nat) (C:Qa6->Prop) (phi:Nat->Option (Qa7->Qa6->Prop)) (fx:Nat->Option Qa7) (hms:m<=ops.size) (hok:okAs (ops.toList.take m).toArray a.tmps.size=true) (hlast:Zcq ops m=true)
 (hC:C w.drew) (hCb:∀ w w',C w->Qbh w.heap.size w w'->C w') (hst:∀ (j:Nat) (φ:Qa7->Qa6->Prop) (x:Qa7) (w w':Qa6),phi j=some φ->φ x w->Qbh w.heap.size w w'->φ x w')
 (h:wpAs P (ops.toList.take m).toArray C phi fx (fun a w=>wpList P ops Q (ops.toList.drop m) a w) 0 (ops.toList.take m) a []):wpAny P .any ops Q ops.size (Ql ops.size false) a w.drew:=by
 have e:(ops.toList.take m++ops.toList.drop m).toArray=ops:=by rw[Q5]
 have hl1:(ops.toList.take m).length=m:=by simp;omega
 have hl2:(ops.toList.take m).length+(ops.toList.drop m).length=ops.size:=by simp;omega
 unfold Zcq at hlast;rw[Qj,Qm,Qm] at hlast
 have key:=Zea (P:=P) (Q:=Q) ops (ops.toList.drop m) (ops.toList.take m) (fun j h0 hj=>by
 have hj':j<=ops.size-m:=by simpa using hj
 have:=hlast.1 (j-1) (Qp.2 (by omega));rw[show m+(j-1+1)=m+j by omega,P4] at this
 exact Zfb this) (fun o ho=>by simpa using hlast.2 o ho) a w.drew
 rw[hl2,e] at key;refine key ?_;rw[hl1];have hg:∀ i,(Ql m false).getD i false=false:=fun i=>by
 by_cases hi:i<m
 ·simp[Qk]
 ·simp[Qk]
 have hsz:(ops.toList.take m).toArray.size=m:=by simpa using hl1
 have h':wpAs P (ops.toList.take m).toArray C phi fx (fun a w=>wpList P ops Q (ops.toList.drop m) a w) 0 (ops.toList.take m).toArray.toList a []:=h;refine wpAny_of_as (Q:=fun a w=>wpList P ops Q (ops.toList.drop m) a w) (a0:=a) (ok_of hok) h' hCb hst (fun a w hq=>hq) _ _ (fun _=>Qbf) a w.drew ?_ ⟨by rw[hsz];simp,rfl,rfl,?_,?_,fun _ _=>rfl,hC,?_,?_⟩
 ·unfold left
 exact Qq (Pm _ _) (by simp;omega)
 ·intro i o _ hl
 rw[hg i] at hl;cases hl
 ·intro i o d _ hl
 rw[hg i] at hl;cases hl
 ·intro c _ i hl
 rw[hg i] at hl;cases hl
 ·intro c _ i o φ _ hl
 rw[hg i] at hl;cases hl
end
structure Yq (fin:Nat->Option Obj) (w w':Qa6):Prop where
 os:w'.os=w.os
 tape:w'.tape=w.tape
 output:w'.output=w.output
 size:w.heap.size<=w'.heap.size
 block:∀ k,k<w.heap.size->w'.heap[k]? = w.heap[k]? \/ ∃ o,fin k=some o/\w'.heap[k]? = some o
theorem Yq.refl (fin:Nat->Option Obj) (w:Qa6):Yq fin w w:=⟨rfl,rfl,rfl,Qa _,fun _ _=>.inl rfl⟩
theorem Yq.of_below {fin:Nat->Option Obj} {a b:Qa6} (h:Qbh a.heap.size a b):Yq fin a b:=⟨h.os,h.tape,h.output,h.size,fun k hk=>.inl (h.block k hk)⟩
theorem Yq.of_grown {fin:Nat->Option Obj} {a b:Qa6} {g:Nat} {o:Obj} (h:a.grownBy b (some g)) (hf:fin g=some o) (hg:b.heap[g]? = some o):Yq fin a b :=
 ⟨h.os,h.tape,h.output,h.size,fun k hk=>by
 by_cases e:k=g
 ·subst e
 exact .inr ⟨o,hf,hg⟩
 ·exact .inl (h.block k hk (fun e'=>e (Option.some.inj e')))⟩
def Zhe (g1:Nat) (o1:Obj) (g2:Nat) (o2:Obj):Nat->Option Obj:=fun k=>if k=g1 then some o1 else if k=g2 then some o2 else none
theorem Zhb (g1:Nat) (o1:Obj) (g2:Nat) (o2:Obj):Zhe g1 o1 g2 o2 g1=some o1:=if_pos rfl
theorem Zgz {g1 g2:Nat} (h:g2≠g1) (o1 o2:Obj):Zhe g1 o1 g2 o2 g2=some o2:=by rw[Zhe,if_neg h,if_pos rfl]
theorem Zev {g1 g2 k:Nat} (h1:k≠g1) (h2:k≠g2) (o1 o2:Obj):Zhe g1 o1 g2 o2 k=none:=by rw[Zhe,if_neg h1,if_neg h2]
end Go.Proofs.YtgmbjnajdfgenaaGreat
namespace Go.Proofs.YtgmbjnajdfgenaaGreat.Rk
open Go.RowKit
section
variable {Kr : KrT} {P : Program} {ops : Array Qba} {C : Qa6 -> Prop} {phi : Nat -> Option (Qa7 -> Qa6 -> Prop)} {fx : Nat -> Option Qa7} {Q : Qbb -> Qa6 -> Prop}
section
variable {a0 : Qbb} {listed : Array Bool} {u : Nat -> Qa7} {a : Qbb} {w : Qa6}
end
end
end Go.Proofs.YtgmbjnajdfgenaaGreat.Rk
namespace Go.Proofs.YtgmbjnajdfgenaaGreat
open Go.RowKit
section
variable {P : Program} {Q : Qa9 -> Qbb -> Qa6 -> Prop}
end
end Go.Proofs.YtgmbjnajdfgenaaGreat
namespace Go.Proofs.YtgmbjnajdfgenaaGreat
open Go.RowKit Go.Shelf
attribute [local go_sem] Oper.semAt_some
def Zf0 (n₀ Bs:Nat) (A B:Qa6):Prop:=Qbh n₀ A B/\B.cell? ⟨Bs,0,none⟩=A.cell? ⟨Bs,0,none⟩
theorem Zf0.trans {n₀ Bs:Nat} {A B C:Qa6} (h:Zf0 n₀ Bs A B) (h':Zf0 n₀ Bs B C):Zf0 n₀ Bs A C:=⟨h.1.trans h'.1,h'.2.trans h.2⟩
theorem Z7z (F:Fence) (n:Nat) (hf:F.fn 205) (hro:F.round=none) (hn:1<=n) (l Bs n₀ cap:Nat) (ad:Qa8) (xs:List UInt8) (hm:xs.length<=9223372036854775807) (hb:ad.block<n₀) (J Jx:List (Nat×UInt8)->Qa6->Prop)
 (hY:∀ pre x W,J pre W->pre.length<xs.length->YieldAt F (n-1) Tryz.prog l #[.int .i64 (x.1:Int),.int .u8 (x.2.toNat:Int)] W fun e W' =>
 (e=.returned (.bool true)/\J (pre++[x]) W'/\Zf0 n₀ Bs W W')\/(e=.returned (.bool false)/\Jx (pre++[x]) W'))
 (W:Qa6) (hBs:W.cell? ⟨Bs,0,none⟩=some (.slice (some ad) xs.length cap)) (hc:∀ j,j<xs.length->W.cell? (ad.add j)=some (.int .u8 ((xs[j]?.getD 0).toNat:Int))) (h0:J [] W) :
 CallsIn F n Tryz.prog 205 #[.func (.yield l) #[] #[],.pointer (some ⟨Bs,0,none⟩)] W fun e W'=>(∃ v,e=.returned v) /\
 ((∃ ys,ys=Zuy xs xs.length/\J ys W')\/(∃ pre,(∃ k,k<=xs.length/\pre=Zuy xs k)/\Jx pre W')):=by
 refine callsIn_of_wp Tryz.func205 rfl hf ?_ hro;simp only[Tryz.ntmps205,Pb,Qo,Q0,Pc,Pd,Qv,Pe,Pf,Pg,Ph,Qw]
 gi_wp2
 gi_loopw [3] (fun i wr=>∃ k:Nat,k<=xs.length/\i=.int .i64 ((xs.length:Int)-1-k)/\J (Zuy xs k) wr/\Qbh n₀ W wr/\wr.cell? ⟨Bs,0,none⟩=some (.slice (some ad) xs.length cap))
 (fun i _=>(intOf i+1).toNat)
 case atStart=>exact⟨0,Pk _,by simp,h0,Qb _ _,hBs⟩
 case round =>
 obtain⟨k,hk,rfl,hJs,hnx,hbs⟩:=hrel;by_cases hlt:k<xs.length
 ·have hcx:wr.cell? (ad.add (xs.length-1-k))=some (.int .u8 ((xs[xs.length-1-k]?.getD 0).toNat:Int)):=(hnx.cell (p:=ad.add (xs.length-1-k)) (by rw[Zh];exact hb)).trans (hc _ (by omega))
 obtain⟨fn,tmps,assign,body,hy,hR⟩:=hY _ (xs.length-1-k,xs[xs.length-1-k]?.getD 0) wr hJs (by rw[Zq7];exact hlt)
 dsimp only at hy
 have e1:((xs.length:Int)-1-k).toNat=xs.length-1-k:=by omega
 have e2:((xs.length-1-k:Nat):Int)=(xs.length:Int)-1-k:=by omega
 rw[e2] at hy
 gi_wp2
 refine hR.mono ?_;rintro e W3 (⟨rfl,hJ3,hk3⟩ | ⟨rfl,hJx3⟩)
 ·gi_wp2
 go_roundw
 case rel=>exact⟨k+1,by omega,by go_num,by rw[Zig];exact hJ3,hnx.trans hk3.1,hk3.2.trans hbs⟩
 case measure=>simp[intOf];omega
 ·gi_wp2
 refine Qbd (results_none rfl _ _ _) rfl ?_;exact⟨⟨_,rfl⟩,.inr ⟨_,⟨k+1,by omega,(Zig _ _).symm⟩,hJx3⟩⟩
 ·obtain rfl:k=xs.length:=by omega
 gi_wp2
 go_end0
 exact⟨⟨_,rfl⟩,.inl ⟨_,rfl,hJs⟩⟩
theorem Zrd (F:Fence) (n:Nat) (hf:F.fn 189) (hro:F.round=none) (a:Option Qa8) (len cap:Nat) (w:Qa6) :
 CallsIn F n Tryz.prog 189 #[.slice a len cap] w fun e w'=>e=.returned (.func (.func 205) #[] #[.pointer (some ⟨w.heap.size,0,none⟩)])/\w'=w.alloc (.cells #[.slice a len cap] 27):=by
 refine callsIn_of_wp Tryz.func189 rfl hf ?_ hro;simp only[Tryz.ntmps189,Pb,Qo,Q0,Pc,Pd,Qv,Pe,Pf,Pg,Ph,Qw]
 gi_wp2
 go_ret;exact⟨rfl,rfl⟩
theorem Zku (F:Fence) (n:Nat) (hf:F.fn 205) (hro:F.round=none) (hn:1<=n) (Bs n₀ cap:Nat) (ad:Qa8) (xs:List UInt8) (hm:xs.length<=9223372036854775807) (w:Qa6) (hBs:Bs<w.heap.size) (hn₀:n₀<=w.heap.size)
 (hc:w.cell? ⟨Bs,0,none⟩=some (.slice (some ad) xs.length cap)) (hb:ad.block<n₀) (hx:∀ j,j<xs.length->w.cell? (ad.add j)=some (.int .u8 ((xs[j]?.getD 0).toNat:Int))) :
 SeqStopsK F n Tryz.prog 205 #[.pointer (some ⟨Bs,0,none⟩)] (fun x:Nat×UInt8=>#[Value.int .i64 (x.1:Int),Value.int .u8 (x.2.toNat:Int)]) (Zf0 n₀ Bs) (fun ys=>ys=Zuy xs xs.length)
 (fun pre=>∃ k,k<=xs.length/\pre=Zuy xs k) xs.length w:=fun l J Jx W hW _ _ hY h0=>by
 have hc':=(hW.cell (p:=⟨Bs,0,none⟩) hBs).trans hc;exact Z7z F n hf hro hn l Bs n₀ cap ad xs hm hb J Jx hY W hc' (fun j hj=>(hW.cell (p:=ad.add j) (by rw[Zh];omega)).trans (hx j hj)) h0
theorem Zru {W w:Qa6} {Bs n₀:Nat} (hBs:Bs<w.heap.size) (hn₀:n₀<=w.heap.size) (l:Nat) (o o':Obj) (hl:w.heap.size<=l) (h1:W.heap[l]? = some o) (h2:o.isCells=false) (h3:o.isWalk=false):Zf0 n₀ Bs W (W.putObj l o') :=
 ⟨belowK_b hn₀ W l o o' hl h1 h2 h3,Qa2 (World.putObj_heap_other (k:=Bs) (by omega))⟩
theorem Z0e (F:Fence) (n:Nat) (h3:F.fn 170) (h5:F.fn 189) (h7:F.fn 205) (hro:F.round=none) (hn:3<=n)
 (ad:Qa8) (len cap m k:Nat) (ys:List UInt8) (hk:ys.length=m) (hm0:0<m) (hm:m<=4) (hle:k+m<=len) (hlc:len<=cap) (hcap:cap<=9223372036854775807) (w:Qa6)
 (hb:ad.block<w.heap.size) (hx:∀ j,j<ys.length->w.cell? ((ad.add k).add j)=some (.int .u8 ((ys[j]?.getD 0).toNat:Int))) :
 CallsIn F n Tryz.prog 170 #[.slice (some ad) len cap,.int .i64 k,.int .i64 m] w fun e W'=>e=.returned (.tuple #[.int .u32 (num ys),.int .i64 0])/\Qbh w.heap.size w W':=by
 have h1:1<=n:=by omega
 refine callsIn_of_wp_marks Tryz.func170 rfl h3 ?_ hro;simp only[Tryz.ntmps170,Pb,Qo,Q0,Pc,Pd,Qv,Pe,Pf,Pg,Ph,Qw]
 gi_wp2_with (gi_at_call 189;refine(Zrd F (n-1) h5 hro _ _ _ _).mono ?_;rintro e w' ⟨rfl,rfl⟩)
 obtain rfl:=hk;have bN:=Boxed.new w 32 (.int .u32 0);have bS:=Boxed.new (w.alloc (.cells #[.int .u32 0] 32)) 27 (.slice (some (ad.add k)) ys.length (cap-k));rw[Qaq] at bS;have hB0:Qbh w.heap.size w ((w.alloc (.cells #[.int .u32 0] 32)).alloc (.cells #[.slice (some (ad.add k)) ys.length (cap-k)] 27)):=((Qb _ w).alloc (Qa _) _).alloc (by simp) _;refine wpIn_rangeFunc_ownG hro h1 (gf:=205) (lb:=#[.pointer (some ⟨w.heap.size+1,0,none⟩)]) rfl h7 (enters_of Tryz.func205 (by kernel_rfl) rfl)
 (Zku F (n-1) h7 hro (by omega) (w.heap.size+1) w.heap.size (cap-k) (ad.add k) ys (by omega) _ (by simp) (by simp;omega) bS.cell (by rw[Zh];exact hb) (fun j hj=>(hB0.cell (p:=(ad.add k).add j) (by rw[Zh,Zh];exact hb)).trans (hx j hj)))
 (fun h h'=>Zf0.trans h h') (fun W l o o' hl h1 h2 h3=>Zru (by simp) (by simp;omega) l o o' hl h1 h2 h3) (Qb _ _) (fun _=>rfl)
 (fun pre W=>(W.cell? ⟨w.heap.size,0,none⟩=some (.int .u32 (val pre))/\W.frozen? ⟨w.heap.size,0,none⟩=false)/\Qbh w.heap.size w W)
 (fun _ _ _=>False)
 (OwnFrom.and (Own.from (fun s A B row hs hg hr=>⟨cell_kept hs.1 hg hr,(frozen_kept hs.1 hg hr).trans hs.2⟩) _) (ownFrom_below (Qa _) (by simp;omega)))
 (fun _ _ _ _ _ hs _ _=>hs)
 ⟨⟨(bN.alloc _).cell,(bN.alloc _).frozen⟩,hB0⟩
 (fun x=>{ tmps:=#[.slice (some ad) len cap,.int .i64 k,.int .i64 ys.length,Qbf,Qbf,Qbf,.int .u32 0,.int .i64 0,.pointer (some ⟨w.heap.size,0,none⟩),Qbf,.int .u8 (x.2.toNat:Int),.int .i64 k,.bool (decide ((k:Int)<0)),.bool (decide ((k:Int)<0)),
 .int .i64 k,.slice (some ad) len cap,.int .i64 len,.int .i64 ys.length,.int .i64 ((len:Int)-ys.length),.bool (decide ((len:Int)-ys.length<k)),.bool (decide ((k:Int)<0)||decide ((len:Int)-ys.length<k)),.slice (some ad) len cap,.int .i64 k,.int .i64 k,.int .i64 ys.length,.int .i64 ((k:Int)+ys.length),
 .slice (some (ad.add k)) ys.length (cap-k),.func (.func 205) #[] #[.pointer (some ⟨w.heap.size+1,0,none⟩)],.int .i64 (x.1:Int),.int .u8 (x.2.toNat:Int),Qbf,Qbf,Qbf,Qbf,Qbf,Qbf],defers:=[] }) ?assign ?body ?done ?stop
 case assign =>
 intro l x W K hK
 gi_wp2
 exact hK
 case body =>
 rintro l pre x W ⟨⟨hc,hf⟩,hB⟩ hlen;obtain⟨v0,v1⟩:=Z09 pre (by omega);have hx2:=x.2.toNat_lt;have hor:=Yac (val pre) x.2 v0 v1
 gi_wp2
 exact⟨(KeepsOthers.setCell _ _ _).from _,⟨(Qb w.heap.size W).setCell (p:=⟨w.heap.size,0,none⟩) (Qa _) _,World.cell?_setCell_other _ _ _ _ (by simp)⟩,
 ⟨by rw[Zub];exact Qag _ _ _ (by rw[hc];rfl),by rw[World.frozen?_setCell];exact hf⟩,hB.setCell (p:=⟨w.heap.size,0,none⟩) (Qa _) _⟩
 case done =>
 rintro D zs W hD rfl ⟨⟨hc,_⟩,hB⟩ hK;rw[Z82] at hc
 gi_wp2
 refine⟨by simp,.inl ⟨_,_,rfl,run_takeDeferred hK,?_⟩⟩;exact⟨_,results_tmp2 rfl _ _ _,rfl,hB.trans (belowK_b (w:=w) (Qa _) W D _ _ (by simp at hD;omega) hK rfl rfl)⟩
 case stop =>
 rintro D c pre W _ _ h _;exact h.elim
end Go.Proofs.YtgmbjnajdfgenaaGreat
namespace Go.Proofs.YtgmbjnajdfgenaaGreat
open Go.RowKit Go.Shelf
attribute [local go_sem] Oper.semAt_some
def Zf1 (ws:List Wt) (b:List UInt8) (n:Int):List UInt8:=ws.foldl (fun acc x=>if x.1=n then x.2 else acc) b
def Zz (d:Dk) (n:Nat):List UInt8:=Zf1 d.2 (d.1[n]?.getD []) n
theorem Zll {ws:List Wt} {b:List UInt8} {n:Int} (h:∀ x∈ws,x.1≠n):Zf1 ws b n=b:=by{
induction ws generalizing b with
| nil=>rfl
| cons x r ih =>
show Zf1 r (if x.1=n then x.2 else b) n=b;rw[if_neg (h x (Qs.2 (.inl rfl)))];exact ih fun y hy=>h y (Qs.2 (.inr hy))}
theorem Zp9 (ws vs:List Wt) (b:List UInt8) (n:Int):Zf1 (ws++vs) b n=Zf1 vs (Zf1 ws b n) n:=by simp[Zf1]
theorem Z34 {ws:List Wt} {b:List UInt8} {n:Int} {i:Nat} {x:Wt} (hi:ws[i]? = some x) (hx:x.1=n) (h:∀ j y,i<j->ws[j]? = some y->y.1≠n):Zf1 ws b n=x.2:=by{
have hil:=(Qi.1 hi).1;have e:ws=ws.take i++(x::ws.drop (i+1)):=by
have h1:=(Q5 i ws).symm;rw[Qav hil] at h1;have h2:=(Qi.1 hi).2
rwa [h2] at h1
rw[e,Zp9];show Zf1 (ws.drop (i+1)) (if x.1=n then x.2 else Zf1 (ws.take i) b n) n=x.2;rw[if_pos hx];refine Zll fun y hy => ?_
obtain⟨j,hj⟩:=Q6 hy;rw[List.getElem?_drop] at hj;exact h _ y (by omega) hj}
theorem Zhh {ws:List Wt} {b:List UInt8} {n:Int} {k:Nat} (hb:b.length=k) (h:∀ x∈ws,x.2.length=k):(Zf1 ws b n).length=k:=by{
induction ws generalizing b with
| nil=>exact hb
| cons x r ih =>
refine ih (b:=if x.1=n then x.2 else b) ?_ fun y hy=>h y (Qs.2 (.inr hy))
split
·exact h x (Qs.2 (.inl rfl))
·exact hb}
def V8 (m k:Nat):List Nat:=(Qn k).map fun j=>m-1-j
theorem Zdy (m k:Nat):V8 m (k+1)=V8 m k++[m-1-k]:=by simp[V8,Qau]
theorem Xb (m k:Nat):(V8 m k).length=k:=by simp[V8]
theorem Zit {m k i:Nat} (hk:k<=m):i∈V8 m k↔m-k<=i/\i<m:=by
 simp only[V8,Qy,Qp];constructor
 ·rintro⟨j,hj,rfl⟩;omega
 ·intro h;exact⟨m-1-i,by omega,by omega⟩
theorem Z4b (F:Fence) (n:Nat) (hf:F.fn 169) (hro:F.round=none) (hn:1<=n) (l Bs n₀ cap m:Nat) (A:Option Qa8) (ad:Qa8) (at_:Nat->Int) (E:Nat->Option Qa8) (ln ca:Nat->Nat) (hm:m<=9223372036854775807) (hA:0<m->A=some ad/\ad.block<n₀) (J Jx:List Nat->Qa6->Prop)
 (hY:∀ (pre:List Nat) (x:Nat) (W:Qa6),J pre W->pre.length<m->YieldAt F (n-1) Tryz.prog l #[.int .i64 (x:Int),.agg #[.int .i64 (at_ x),.slice (E x) (ln x) (ca x)]] W fun e W' =>
 (e=.returned (.bool true)/\J (pre++[x]) W'/\Zf0 n₀ Bs W W')\/(e=.returned (.bool false)/\Jx (pre++[x]) W'))
 (W:Qa6) (hBs:W.cell? ⟨Bs,0,none⟩=some (.slice A m cap)) (hc:∀ j,j<m->W.cell? (ad.add (j*2))=some (.int .i64 (at_ j))/\W.cell? ⟨(ad.add (j*2)).block,(ad.add (j*2)).off+1,none⟩=some (.slice (E j) (ln j) (ca j))) (h0:J [] W) :
 CallsIn F n Tryz.prog 169 #[.func (.yield l) #[] #[],.pointer (some ⟨Bs,0,none⟩)] W fun e W'=>(∃ v,e=.returned v) /\
 ((∃ ys,ys=V8 m m/\J ys W')\/(∃ pre,(∃ k,k<=m/\pre=V8 m k)/\Jx pre W')):=by
 refine callsIn_of_wp Tryz.func169 rfl hf ?_ hro;simp only[Tryz.ntmps169,Pb,Qo,Q0,Pc,Pd,Qv,Pe,Pf,Pg,Ph,Qw];have HC:=Za hc;clear hc;replace hA:=Za hA
 gi_wp2
 gi_loopw [3] (fun i wr=>∃ k:Nat,k<=m/\i=.int .i64 ((m:Int)-1-k)/\J (V8 m k) wr/\Qbh n₀ W wr/\wr.cell? ⟨Bs,0,none⟩=some (.slice A m cap))
 (fun i _=>(intOf i+1).toNat)
 case atStart=>exact⟨0,Pk _,by simp,h0,Qb _ _,hBs⟩
 case round =>
 obtain⟨k,hk,rfl,hJs,hnx,hbs⟩:=hrel;by_cases hlt:k<m
 ·obtain⟨rfl,hb⟩:=hA.out (by omega)
 have hx:=HC.out (m-1-k) (by omega);have hc1:wr.cell? (ad.add ((m-1-k)*2))=some (.int .i64 (at_ (m-1-k))):=(hnx.cell (p:=ad.add ((m-1-k)*2)) (by rw[Zh];exact hb)).trans hx.1;have hc2:wr.cell? ⟨(ad.add ((m-1-k)*2)).block,(ad.add ((m-1-k)*2)).off+1,none⟩=some (.slice (E (m-1-k)) (ln (m-1-k)) (ca (m-1-k))):=(hnx.cell (p:=⟨(ad.add ((m-1-k)*2)).block,(ad.add ((m-1-k)*2)).off+1,none⟩) (by rw[Zh];exact hb)).trans hx.2;clear hx;obtain⟨fn,tmps,assign,body,hy,hR⟩:=hY _ (m-1-k) wr hJs (by rw[Xb];exact hlt)
 try dsimp only at hy
 have e1:((m:Int)-1-k).toNat=m-1-k:=by omega
 have e2:((m-1-k:Nat):Int)=(m:Int)-1-k:=by omega
 rw[e2] at hy;clear e2;have hds:=Za (Zdy m k);generalize at_ (m-1-k)=q1 at *;generalize E (m-1-k)=q2 at *;generalize ln (m-1-k)=q3 at *;generalize ca (m-1-k)=q4 at *
 gi_wp2
 refine hR.mono ?_;rintro e W3 (⟨rfl,hJ3,hk3⟩ | ⟨rfl,hJx3⟩)
 ·gi_wp2
 go_roundw
 case rel=>exact⟨k+1,by omega,by go_num,by rw[hds.out];exact hJ3,hnx.trans hk3.1,hk3.2.trans hbs⟩
 case measure=>simp[intOf];omega
 ·gi_wp2
 refine Qbd (results_none rfl _ _ _) rfl ?_;exact⟨⟨_,rfl⟩,.inr ⟨_,⟨k+1,by omega,hds.out.symm⟩,hJx3⟩⟩
 ·obtain rfl:k=m:=by omega
 gi_wp2
 go_end0
 exact⟨⟨_,rfl⟩,.inl ⟨_,rfl,hJs⟩⟩
theorem Zo0 (F:Fence) (n:Nat) (hf:F.fn 145) (hro:F.round=none) (a:Option Qa8) (len cap:Nat) (w:Qa6) :
 CallsIn F n Tryz.prog 145 #[.slice a len cap] w fun e w'=>e=.returned (.func (.func 169) #[] #[.pointer (some ⟨w.heap.size,0,none⟩)])/\w'=w.alloc (.cells #[.slice a len cap] 24):=by
 refine callsIn_of_wp Tryz.func145 rfl hf ?_ hro;simp only[Tryz.ntmps145,Pb,Qo,Q0,Pc,Pd,Qv,Pe,Pf,Pg,Ph,Qw]
 gi_wp2
 go_ret;exact⟨rfl,rfl⟩
theorem Zix (F:Fence) (n:Nat) (hf:F.fn 169) (hro:F.round=none) (hn:1<=n) (Bs n₀ cap m:Nat) (A:Option Qa8) (ad:Qa8) (at_:Nat->Int) (E:Nat->Option Qa8) (ln ca:Nat->Nat) (hm:m<=9223372036854775807) (w:Qa6) (hBs:Bs<w.heap.size) (hn₀:n₀<=w.heap.size)
 (hc:w.cell? ⟨Bs,0,none⟩=some (.slice A m cap)) (hA:0<m->A=some ad/\ad.block<n₀) (hx:∀ j,j<m->w.cell? (ad.add (j*2))=some (.int .i64 (at_ j))/\w.cell? ⟨(ad.add (j*2)).block,(ad.add (j*2)).off+1,none⟩=some (.slice (E j) (ln j) (ca j))) :
 SeqStopsK F n Tryz.prog 169 #[.pointer (some ⟨Bs,0,none⟩)] (fun x:Nat=>#[Value.int .i64 (x:Int),Value.agg #[.int .i64 (at_ x),.slice (E x) (ln x) (ca x)]]) (Zf0 n₀ Bs) (fun ys=>ys=V8 m m)
 (fun pre=>∃ k,k<=m/\pre=V8 m k) m w:=fun l J Jx W hW _ _ hY h0=>by
 have hc':=(hW.cell (p:=⟨Bs,0,none⟩) hBs).trans hc;exact Z4b F n hf hro hn l Bs n₀ cap m A ad at_ E ln ca hm hA J Jx hY W hc' (fun j hj=>⟨(hW.cell (p:=ad.add (j*2)) (by rw[Zh];have:=(hA (by omega)).2;omega)).trans (hx j hj).1,(hW.cell (p:=⟨(ad.add (j*2)).block,(ad.add (j*2)).off+1,none⟩) (by rw[Zh];have:=(hA (by omega)).2;omega)).trans (hx j hj).2⟩) h0
theorem Ya2 {w:Qa6} {B:Option Qa8} {ws:List Wt} (h:∀ i x,ws[i]? = some x->∃ ad v,B=some ad/\Old w (ad.add (i*2))/\Old w (ad.add (i*2+1))/\w.cell? (ad.add (i*2))=some (.int .i64 x.1)/\w.cell? (ad.add (i*2+1))=some v/\rBy (Old w) w [v] x.2 /\ -9223372036854775808<=x.1/\x.1<=9223372036854775807) :
 ∃ (ad:Qa8) (E:Nat->Option Qa8) (ca:Nat->Nat),(0<ws.length->B=some ad/\ad.block<w.heap.size)/\∀ i x,ws[i]? = some x->w.cell? (ad.add (i*2))=some (.int .i64 x.1)/\w.cell? ⟨(ad.add (i*2)).block,(ad.add (i*2)).off+1,none⟩=some (.slice (E i) x.2.length (ca i))/\rBy (Old w) w [.slice (E i) x.2.length (ca i)] x.2:=by
 have h2:∀ i,∃ f:Option Qa8×Nat,∀ x,ws[i]? = some x->∃ ad,B=some ad/\ad.block<w.heap.size/\w.cell? (ad.add (i*2))=some (.int .i64 x.1)/\w.cell? ⟨(ad.add (i*2)).block,(ad.add (i*2)).off+1,none⟩=some (.slice f.1 x.2.length f.2)/\rBy (Old w) w [.slice f.1 x.2.length f.2] x.2:=fun i=>by
 cases hx:ws[i]? with
 | none=>exact⟨(none,0),fun x e=>by cases e⟩
 | some x =>
 obtain⟨ad,v,rfl,o1,_,c1,c2,hv,_⟩:=h i x hx;obtain⟨E,c,rfl,_⟩:=Zt hv;rw[Zd7] at c2;exact⟨(E,c),fun y e=>by cases e;exact⟨ad,rfl,by unfold Old at o1;rwa [Zh] at o1,c1,c2,hv⟩⟩;obtain⟨f,hf⟩:∃ f:Nat->Option Qa8×Nat,∀ i x,ws[i]? = some x->∃ ad,B=some ad/\ad.block<w.heap.size/\w.cell? (ad.add (i*2))=some (.int .i64 x.1)/\w.cell? ⟨(ad.add (i*2)).block,(ad.add (i*2)).off+1,none⟩=some (.slice (f i).1 x.2.length (f i).2)/\rBy (Old w) w [.slice (f i).1 x.2.length (f i).2] x.2 :=
 ⟨fun i=>Classical.choose (h2 i),fun i=>Classical.choose_spec (h2 i)⟩
 rcases B with _ | ad
 ·refine⟨⟨0,0,none⟩,fun i=>(f i).1,fun i=>(f i).2,fun h0 => ?_,fun i x hi => ?_⟩
 ·obtain⟨_,e,_⟩:=hf 0 _ (Qd h0)
 cases e
 ·obtain⟨_,e,_⟩:=hf i x hi
 cases e
 ·refine⟨ad,fun i=>(f i).1,fun i=>(f i).2,fun h0 => ?_,fun i x hi => ?_⟩
 ·obtain⟨_,e,hb,_⟩:=hf 0 _ (Qd h0)
 cases e;exact⟨rfl,hb⟩
 ·obtain⟨_,e,_,hr⟩:=hf i x hi
 cases e;exact hr
theorem Z6w (F:Fence) (n:Nat) (h3:F.fn 112) (h5:F.fn 145) (h7:F.fn 169) (hro:F.round=none) (hn:3<=n)
 (v:Qa7) (d:Dk) (k:Nat) (hk:k<d.1.length) (w:Qa6) (h:Dsk (Old w) w v d) :
 CallsIn F n Tryz.prog 112 #[v,.int .i64 k] w fun e W'=>∃ u,e=.returned u/\rBy (Old w) w [u] (Zz d k)/\Qbh w.heap.size w W':=by
 have h1:1<=n:=by omega
 obtain⟨A,c,B,c',rfl,l1,m1,l2,m2,hA,hB⟩:=h.open;obtain⟨ad,E,ca,had,hfn⟩:=Ya2 hB;obtain⟨x,hx⟩:∃ x,d.1[k]? = some x:=⟨_,Qd hk⟩
 obtain⟨a1,v1,rfl,ho1,hc1,hby1⟩:=hA k x hx;have HF:=Za hfn;clear hA hB h hfn;have hsd:Hid (Zz d k=Zf1 d.2 x k):=Za (by unfold Zz;rw[hx];rfl);replace hx:=Za hx;obtain⟨N,hN⟩:∃ N,d.1.length=N:=⟨_,rfl⟩
 obtain⟨m,hm⟩:∃ m,d.2.length=m:=⟨_,rfl⟩
 rw[hN] at l1 hk ⊢;rw[hm] at l2 had ⊢;replace hN:=Za hN;replace hm:=Za hm;have hfa:Hid (∀ j,j<m->w.cell? (ad.add (j*2))=some (.int .i64 ((d.2[j]?.getD (0,[])).1))/\w.cell? ⟨(ad.add (j*2)).block,(ad.add (j*2)).off+1,none⟩=some (.slice (E j) (d.2[j]?.getD (0,[])).2.length (ca j))):=Za fun j hj=>by
 have hj':d.2[j]? = some (d.2[j]'(by rw[hm.out];exact hj)):=Qd _;rw[hj'];exact⟨(HF.out j _ hj').1,(HF.out j _ hj').2.1⟩;obtain⟨E1,ce1,rfl,_⟩:=Zt hby1;replace had:=Za had;refine callsIn_of_wp_marks Tryz.func112 rfl h3 ?_ hro;simp only[Tryz.ntmps112,Pb,Qo,Q0,Pc,Pd,Qv,Pe,Pf,Pg,Ph,Qw]
 gi_wp2_with (gi_at_call 145;refine(Zo0 F (n-1) h5 hro _ _ _ _).mono ?_;rintro e w' ⟨rfl,rfl⟩)
 obtain⟨W0,hW0,hB0,hs0,b0,b1,b2,b2f,b3⟩:∃ W0,(((w.alloc (.cells #[.slice (some a1) N c,.slice B m c'] 26)).alloc (.cells #[.int .i64 (k:Int)] 3)).alloc (.cells #[.slice none 0 0] 27)).alloc (.cells #[.slice B m c'] 24)=W0/\Qbh w.heap.size w W0/\W0.heap.size=w.heap.size+4 /\
 W0.cell? ⟨w.heap.size,0,none⟩=some (.slice (some a1) N c)/\W0.cell? ⟨w.heap.size+1,0,none⟩=some (.int .i64 (k:Int))/\W0.cell? ⟨w.heap.size+1+1,0,none⟩=some (.slice none 0 0)/\W0.frozen? ⟨w.heap.size+1+1,0,none⟩=false/\W0.cell? ⟨w.heap.size+1+1+1,0,none⟩=some (.slice B m c') :=
 ⟨_,rfl,((((Qb _ w).alloc (Qa _) _).alloc (by simp) _).alloc (by simp;omega) _).alloc (by simp;omega) _,by simp,by go_simp,by go_simp,by go_simp,by go_simp,by go_simp⟩
 rw[hW0];clear hW0;obtain⟨atf,hat⟩:∃ f:Nat->Int,f=fun j=>(d.2[j]?.getD (0,[])).1:=⟨_,rfl⟩
 obtain⟨lnf,hln⟩:∃ f:Nat->Nat,f=fun j=>(d.2[j]?.getD (0,[])).2.length:=⟨_,rfl⟩
 have hfb:∀ j,j<m->W0.cell? (ad.add (j*2))=some (.int .i64 (atf j))/\W0.cell? ⟨(ad.add (j*2)).block,(ad.add (j*2)).off+1,none⟩=some (.slice (E j) (lnf j) (ca j)):=fun j hj=>by
 have hb:=(had.out (by omega)).2;rw[hat,hln];exact⟨(hB0.cell (p:=ad.add (j*2)) (by rw[Zh];exact hb)).trans (hfa.out j hj).1,(hB0.cell (p:=⟨(ad.add (j*2)).block,(ad.add (j*2)).off+1,none⟩) (by rw[Zh];exact hb)).trans (hfa.out j hj).2⟩;have hlo:w.heap.size<=W0.heap.size:=hB0.size;replace hat:=Za hat;replace hln:=Za hln;refine wpIn_rangeFunc_ownH hro h1 (gf:=169) (lb:=#[.pointer (some ⟨w.heap.size+1+1+1,0,none⟩)]) rfl h7 (enters_of Tryz.func169 (by kernel_rfl) rfl)
 (Zix F (n-1) h7 hro (by omega) (w.heap.size+1+1+1) w.heap.size c' m B ad atf E lnf ca (by omega) W0 (by omega) hlo b3 had.out hfb)
 (fun h h'=>Zf0.trans h h') (fun W l o o' hl h1 h2 h3=>Zru (w:=W0) (by omega) hlo l o o' hl h1 h2 h3) (Qb _ _) (fun _=>rfl)
 (fun pre W=>((∀ j∈pre,atf j≠k)/\W.cell? ⟨w.heap.size,0,none⟩=some (.slice (some a1) N c)/\W.cell? ⟨w.heap.size+1,0,none⟩=some (.int .i64 (k:Int))/\W.cell? ⟨w.heap.size+1+1,0,none⟩=some (.slice none 0 0)/\W.frozen? ⟨w.heap.size+1+1,0,none⟩=false/\W.cell? ⟨w.heap.size+1+1+1,0,none⟩=some (.slice B m c'))/\Qbh w.heap.size w W)
 (fun cd pre W=>(cd=.ret/\∃ p i,pre=p++[i]/\(∀ j∈p,atf j≠k)/\atf i=k/\W.cell? ⟨w.heap.size+1+1,0,none⟩=some (.slice (E i) (lnf i) (ca i)))/\Qbh w.heap.size w W)
 (OwnFrom.and (Own.from (fun s A B row hs hg hr=>⟨hs.1,cell_kept hs.2.1 hg hr,cell_kept hs.2.2.1 hg hr,cell_kept hs.2.2.2.1 hg hr,(frozen_kept hs.2.2.2.1 hg hr).trans hs.2.2.2.2.1,cell_kept hs.2.2.2.2.2 hg hr⟩) _) (ownFrom_below (Qa _) hlo))
 (fun cd=>OwnFrom.and (Own.from (fun s A B row hs hg hr=>by
 obtain⟨e,p,i,e2,h1,h2,hc⟩:=hs
 exact⟨e,p,i,e2,h1,h2,cell_kept hc hg hr⟩) _) (ownFrom_below (Qa _) hlo))
 ⟨⟨by simp,b0,b1,b2,b2f,b3⟩,hB0⟩
 (fun x a' W=>∃ g,a'={ tmps:=#[.agg #[.slice (some a1) N c,.slice B m c'],.int .i64 (k:Int),.pointer (some ⟨w.heap.size,0,none⟩),.pointer (some ⟨w.heap.size+1,0,none⟩),.pointer (some ⟨w.heap.size+1+1,0,none⟩),Qbf,.pointer (some ⟨g,0,none⟩),.pointer (some ⟨w.heap.size,1,none⟩),.slice B m c',
 .func (.func 169) #[] #[.pointer (some ⟨w.heap.size+1+1+1,0,none⟩)],.int .i64 (x:Int),.agg #[.int .i64 (atf x),.slice (E x) (lnf x) (ca x)],Qbf,Qbf,Qbf,Qbf,Qbf,Qbf,Qbf,Qbf,Qbf,Qbf,Qbf],defers:=[] } /\
 W.cell? ⟨g,0,none⟩=some (.int .i64 (atf x))/\W.cell? ⟨g,1,none⟩=some (.slice (E x) (lnf x) (ca x)))
 (fun x a'=>Own.from (fun s A B row hs hg hr=>by
 obtain⟨g,e,h1,h2⟩:=hs
 exact⟨g,e,cell_kept h1 hg hr,cell_kept h2 hg hr⟩) _) ?assign ?body ?done ?stop
 case assign =>
 rintro l pre x W K ⟨⟨hp,c0,c1,c2,c2f,c3⟩,hb⟩ hK;have hlW:w.heap.size+1+1<W.heap.size:=Qr _ _ c2
 gi_wp2
 exact hK _ _ ((KeepsOthers.alloc _ _).from _) ⟨(Qb _ W).alloc hb.size _,(Lib.cell?_alloc_some _ c3).trans c3.symm⟩
 ⟨⟨hp,Lib.cell?_alloc_some _ c0,Lib.cell?_alloc_some _ c1,Lib.cell?_alloc_some _ c2,(World.frozen?_of_block (Qa3 W _ _ hlW)).trans c2f,Lib.cell?_alloc_some _ c3⟩,hb.alloc hb.size _⟩ ⟨W.heap.size,rfl,by go_simp,by go_simp⟩
 case body =>
 rintro l pre x a' W hl hloop ⟨⟨hp,c0,c1,c2,c2f,c3⟩,hb⟩ ⟨g,rfl,g0,g1⟩ hlen;by_cases he:atf x=k
 ·have he':(atf x==(k:Int))=true:=by simpa using he
 replace he:=Za he
 gi_wp2
 refine⟨(KeepsOthers.setCell _ _ _).from _,⟨rfl,pre,x,rfl,hp,he.out,Qag _ _ _ (by rw[c2];rfl)⟩,hb.setCell (by simp;omega) _⟩
 ·have he':(atf x==(k:Int))=false:=by simpa using he
 replace he:=Za he
 gi_wp2
 refine⟨KeepsFrom.refl _ _,⟨Qb _ _,rfl⟩,⟨fun j hj=>(Qa5.1 hj).elim (hp j) (fun e=>by simp at e;rw[e];exact he.out),c0,c1,c2,c2f,c3⟩,hb⟩
 case done =>
 rintro D zs W hD rfl ⟨⟨hp,c0,c1,c2,c2f,c3⟩,hb⟩ hK;have hcx:=(hb.cell ho1).trans hc1
 have hval:Hid (rBy (Old w) w [.slice E1 x.length ce1] (Zz d k)):=Za (by
 rw[hsd.out,Zll]
 ·exact hby1
 ·intro y hy
 obtain⟨j,hj⟩:=Q6 hy;have:=hp j ((Zit (Qa _)).2 ⟨by omega,by rw[<- hm.out];exact(Qi.1 hj).1⟩);rw[hat.out] at this
 simpa [hj] using this)
 gi_wp2
 have hK':=(KeepsOthers.setCell W ⟨w.heap.size+1+1,0,none⟩ (.slice E1 x.length ce1)).same D _ hK rfl;refine⟨by simp,.inl ⟨_,_,rfl,run_takeDeferred hK',?_⟩⟩;have hc5:=cell_kept (Qag W ⟨w.heap.size+1+1,0,none⟩ (.slice E1 x.length ce1) (by rw[c2];rfl)) (grownBy_putObj' _ D (.deferred none)) (fun r e=>by cases e;exact⟨_,hK',rfl⟩);refine⟨.slice E1 x.length ce1,?_,_,rfl,hval.out,(hb.setCell (p:=⟨w.heap.size+1+1,0,none⟩) (by simp;omega) _).trans (belowK_b hlo _ D _ _ hD hK' rfl rfl)⟩;simp[results,Tryz.f112,go_sem,hc5]
 case stop =>
 rintro D cd pre W hD ⟨q,hq,rfl⟩ ⟨⟨rfl,p,i,hpi,h1,h2,hc⟩,hb⟩ hK;have hi:i∈V8 m q:=by rw[hpi];simp
 obtain⟨hi1,hi2⟩:=(Zit hq).1 hi
 have hval:Hid (rBy (Old w) w [.slice (E i) (lnf i) (ca i)] (Zz d k)):=Za (by
 have hx2:d.2[i]? = some (d.2[i]'(by rw[hm.out];exact hi2)):=Qd _;have e1:atf i=(d.2[i]'(by rw[hm.out];exact hi2)).1:=by rw[hat.out];simp[hx2]
 have e2:lnf i=(d.2[i]'(by rw[hm.out];exact hi2)).2.length:=by rw[hln.out];simp[hx2]
 rw[hsd.out,e2,Z34 hx2 (by rw[<- e1];exact h2)]
 ·exact(HF.out i _ hx2).2.2
 ·intro j y hij hj
 have hjm:j<m:=by rw[<- hm.out];exact(Qi.1 hj).1
 have hjd:j∈V8 m q:=(Zit hq).2 ⟨by omega,hjm⟩;rw[hpi] at hjd;have:=h1 j ((Qa5.1 hjd).elim id (fun e=>by simp at e;omega));rw[hat.out] at this
 simpa [hj] using this)
 gi_wp2
 refine⟨by simp,.inl ⟨_,_,rfl,run_takeDeferred hK,?_⟩⟩;have hc5:=cell_kept hc (grownBy_putObj' _ D (.deferred none)) (fun r e=>by cases e;exact⟨_,hK,rfl⟩);refine⟨.slice (E i) (lnf i) (ca i),?_,_,rfl,hval.out,hb.trans (belowK_b hlo _ D _ _ hD hK rfl rfl)⟩;simp[results,Tryz.f112,go_sem,hc5]
theorem Z32 (v:Qa7) (d:Dk) (k:Nat) (hk:k<d.1.length) (w:Qa6) (h:Dsk (Old w) w v d) :
 Qbg Tryz.prog 112 #[v,.int .i64 k] w fun e W'=>∃ u,e=.returned u/\rBy (Old w) w [u] (Zz d k)/\Qbh w.heap.size w W' :=
 callsIn_wide.1 (Z6w Fence.wide 3 trivial trivial trivial rfl (Qa _) v d k hk w h)
def Uu (d:Dk) (n:Int):Int:=if Zbw d then (if Vf n then 0 else 2) else 8
theorem Zpv {d:Dk} {n:Int} (h:Zbw d=false):Uu d n=8:=by simp[Uu,h]
theorem Zph {d:Dk} {n:Int} (h:Zbw d=true) (h':Vf n=false):Uu d n=2:=by simp[Uu,h,h']
theorem Zmn {d:Dk} {n:Int} (h:Zbw d=true) (h':Vf n=true):Uu d n=0:=by simp[Uu,h,h']
theorem Zk2 {n:Int} (h:Vf n=true):∃ k:Nat,n=k/\k<256:=by
 simp only[Vf,Qj,decide_eq_true_eq] at h;exact⟨n.toNat,by omega,by omega⟩
theorem Zfg {k:Nat} (h:k<256):Vf (k:Int)=true:=by
 simp only[Vf,Qj,decide_eq_true_eq];omega
theorem Uq (v:Qa7) (d:Dk) (n:Int) (w:Qa6) (h:Dsk (Old w) w v d):Qbg Tryz.prog 111 #[v,.int .i64 n] w fun e w'=>e=.returned (.int .i64 (Uu d n))/\Qbh w.heap.size w w':=by{
obtain⟨a,b,rfl,_⟩:=id h;have hB:=Zdi (Qb w.heap.size w) (.cells #[a,b] 26);have H:=Za (h.below hB);cases hm:Zbw d with
| true =>
have hc:=Za (Zzi hm);cases ht:Vf n with
| true =>
 have hr:=Za (Zmn hm ht);replace hm:=Za hm;replace ht:=Za ht
 go_enter Tryz.func111,Tryz.ntmps111
 go_wp2_with fail
 refine(Zcb _ d _ H.out).mono ?_;rintro e w1 ⟨rfl,hb1⟩;rw[hc.out]
 go_wp2_with fail
 refine(Zdh _ _).mono ?_;rintro e w2 ⟨rfl,rfl⟩;rw[ht.out]
 go_wp2_with fail
 go_ret;exact⟨Z1 hr.out.symm,hB.trans (hb1.mono hB.size)⟩
| false =>
 have hr:=Za (Zph hm ht);replace hm:=Za hm;replace ht:=Za ht
 go_enter Tryz.func111,Tryz.ntmps111
 go_wp2_with fail
 refine(Zcb _ d _ H.out).mono ?_;rintro e w1 ⟨rfl,hb1⟩;rw[hc.out]
 go_wp2_with fail
 refine(Zdh _ _).mono ?_;rintro e w2 ⟨rfl,rfl⟩;rw[ht.out]
 go_wp2_with fail
 go_ret;exact⟨Z1 hr.out.symm,hB.trans (hb1.mono hB.size)⟩
| false =>
have hc:=Za (Zew hm);have hr:=Za (Zpv (n:=n) hm);replace hm:=Za hm
go_enter Tryz.func111,Tryz.ntmps111
go_wp2_with fail
refine(Zcb _ d _ H.out).mono ?_;rintro e w1 ⟨rfl,hb1⟩;rw[hc.out]
go_wp2_with fail
go_ret;exact⟨Z1 hr.out.symm,hB.trans (hb1.mono hB.size)⟩}
theorem Z3f (v:Qa7) (d:Dk) (n:Int) (w:Qa6) (h:Dsk (Old w) w v d) (hn:¬ (Zbw d=true/\Vf n=true)) :
 Qbg Tryz.prog 67 #[v,.int .i64 n] w fun e w'=>e=.returned (.tuple #[.slice none 0 0,.int .i64 (Uu d n)])/\Qbh w.heap.size w w':=by
 obtain⟨a,b,rfl,_⟩:=id h;have hB:=Zdi (Qb w.heap.size w) (.cells #[a,b] 26);have H:=Za (h.below hB);have hc:Uu d n=8\/Uu d n=2:=by
 cases hm:Zbw d with
 | false=>exact .inl (Zpv hm)
 | true =>
 cases ht:Vf n with
 | false=>exact .inr (Zph hm ht)
 | true=>exact absurd ⟨hm,ht⟩ hn
 clear hn;rcases hc with hc | hc
 all_goals
 rw[hc];replace hc:=Za hc
 go_enter Tryz.func67,Tryz.ntmps67
 go_wp2_with fail
 refine(Uq _ d n _ H.out).mono ?_;rintro e w1 ⟨rfl,hb1⟩;rw[hc.out]
 go_wp2_with fail
 go_ret2
 exact⟨rfl,hB.trans (hb1.mono hB.size)⟩
theorem Z6x (v:Qa7) (d:Dk) (k:Nat) (w:Qa6) (h:Dsk (Old w) w v d) (hm:Zbw d=true) (hk:k<256) :
 Qbg Tryz.prog 67 #[v,.int .i64 k] w fun e w'=>∃ u,e=.returned (.tuple #[u,.int .i64 0])/\rBy (New w.heap.size w') w' [u] (Zz d k)/\Qbh w.heap.size w w':=by
 obtain⟨a,b,rfl,ha,hb⟩:=id h;obtain⟨w0,hw0,f1,f2,f3,hB⟩:=Zm4 w a b 26;have H:=Za (h.below hB);have hc:=Za (Zmn hm (Zfg hk));have hl:k<d.1.length:=by rw[(Zff hm).1];exact hk
 have hbig:Hid ((Zz d k).length=128):=Za (by
 obtain⟨h1,h2,h3,h4⟩:=Zff hm;refine Zhh ?_ fun x hx => ?_
 ·rw[Qd hl]
 exact h3 k _ (Qd hl)
 ·obtain⟨j,hj⟩:=Q6 hx
 exact(h4 j x hj).2.2)
 obtain⟨A,c,e1,_⟩:=Zde ha;obtain⟨B,e,e2,_⟩:=Zts hb;cases e1;cases e2;replace f3:=Za f3;replace hm:=Za hm
 go_enter Tryz.func67,Tryz.ntmps67
 go_upto_region 1 with fail
 clear hw0
 go_wp2_with fail
 refine(Uq _ d k _ H.out).mono ?_;rintro e w1 ⟨rfl,hb1⟩;rw[hc.out];have H1:=Za (H.out.below hb1);have g1:=(hb1.cell (p:=⟨w.heap.size,0,none⟩) (by rw[f3.out];simp)).trans f1;have g2:=(hb1.cell (p:=⟨w.heap.size,1,none⟩) (by rw[f3.out];simp)).trans f2;have hB1:=hB.trans (hb1.mono hB.size);clear f1 f2 hB hb1
 go_wp2_with fail
 refine(Z32 _ d k hl _ H1.out).mono ?_;rintro e w2 ⟨u,rfl,hu,hb2⟩;have hu2:=Zf.old hu hb2;have hB2:=hB1.trans (hb2.mono hB1.size)
 go_wp2_with fail
 refine(Zar u _ _ (by rw[hbig.out];omega) hu2).mono ?_;rintro e w3 ⟨x,rfl,hx,hb3⟩;have hfin:=Za (Zf.mono hx hB2.size);have hB3:=hB2.trans (hb3.mono hB2.size);clear hx hu hu2
 go_wp2_with fail
 go_ret2
 exact⟨x,rfl,hfin.out,hB3⟩
end Go.Proofs.YtgmbjnajdfgenaaGreat
set_option maxRecDepth 100000
set_option maxHeartbeats 16000000
set_option maxRecDepth 100000
set_option maxHeartbeats 16000000
open Array renaming getElem?_eq_some_iff → Pa, getElem?_modify → P1, length_toList → Qaj
open Bool renaming and_eq_true → Qg, or_eq_true → P7
open Go renaming World → Qal, Value → Qam, Addr → Qan, Oper → Qao, TypeId → Qap, bodyPost_ret → Qaq, heap_alloc_new → Qar, Calls → Qas
open Go.Act renaming put → Qa
open Go.Builtin renaming append_ → Ql, zeroCells → Qw, lenOf → Pe, firstCells → Pf, copy_ → Qac, clear_ → Qad
open Go.IntWalk renaming i64_in → Q8
open Go.RowKit renaming Below → Qat
open Go.RowKit.Below renaming refl → Qb
open Go.World renaming cell?_of_block → Qr, ownsRow_nil → Qz, cell? → Q0, frozen? → Pj, news_of_block → Pu, frozen?_of_block → Pv, setCell → Pz, shape? → Qai
open List renaming getElem?_eq_getElem → Qe, take_of_length_le → Qf, length_append → Qh, getElem?_eq_some_iff → Qi, all_eq_true → Qk, append_assoc → Qn, length_take → Qo, length_drop → Qp, drop_zero → Qq, getElem?_append_right → Qt, take_add_one → Qu, take_zero → Qx, getElem?_append_left → Qy, drop_of_length_le → Q3, take_take → Q4, drop_left' → Q5, take_append_drop → Q6, take_append_of_le_length → Q9, replicate → Pb, getElem?_of_mem → Pc, mem_cons → Pg, nil_append → Ph, take_left' → Pi, drop_eq_getElem_cons → Pk, getElem?_drop → Pm, mem_iff_getElem → Pn, filter_append → Pp, toArray → Pq, mem_of_mem_drop → Pr, take_succ_cons → Ps, drop_succ_cons → Pt, length_replicate → Pw, mem_append → Px, mem_of_getElem? → Py, find?_eq_none → P3, drop_left → P4, findIdx?_eq_some_iff_getElem → P8, findIdx?_eq_none_iff → P9, getElem_mem → Qaa, length_filter_le → Qab, drop_append → Qae, take_append → Qaf, take_nil → Qag, drop_nil → Qah, append_nil → Qak
open Nat renaming le_refl → Qc, lt_of_lt_of_le → Qd, le_trans → Qj, min_eq_left → Qm, lt_or_ge → Qs, zero_add → Qv, lt_trans → Q7, eq_zero_or_pos → Pd, zero_mul → Po, add_assoc → P5
noncomputable section
namespace Go.Proofs.YtgmbjnajdfgenaaGreat
open Go.RowKit
def wrD (d:Dk) (k:Nat) (xs:List UInt8):Dk:=(d.1,d.2++[((k:Int),xs)])
def Zc5:Dk:=([],[])
def rdX (d:Dk) (n:Int):List UInt8:=if Uu d n=0 then Zz d n.toNat else []
theorem Zco {P:Program} {w:Qal} (base:Nat) (t ty e:Qap) (i:TypeInfo) (z:Qam) (size bytes:Nat) (ht:P.underlying t=some (.slice e)) (hi:P.info? e=some i) (hz:i.zero=some z)
 (hsize:i.size=size) (hby:i.bytes=bytes) (hzs:z.cells.size=size) (hsz:0<size)
 (v:Qam) (n:Nat) (xs:List Qam) (hown:w.ownsRow base e size v n xs)
 (ad:Qan) (m c:Nat) (news:List Qam) (hl:news.length=m*size) (hnews:∀ j u,news[j]? = some u->w.cell? (ad.add j)=some u) (h1:∀ u∈news,u.oneCell'=true)
 (h63:n+m<=maxLen) (hbytes:(n+m)*bytes<=140737488355328) (hbase:base<=w.heap.size) :
 ∃ v' w',(Ql #[t,t] ty #[v,.slice (some ad) m c]).run P w=.ok v' w'/\w'.ownsRow base e size v' (n+m) (xs++news)/\w.grownBy w' v.ownBlock/\Qat base w w'/\(v'.ownBlock=v.ownBlock\/v'.ownBlock=some w.heap.size):=by
 obtain⟨v',w',hr,h2,h3,_,h5⟩:=run_append_own_at (P:=P) w base t ty e i z size bytes ht hi hz hsize hby hzs hsz v n xs hown ad m c news hl hnews h1 h63 hbytes hbase;exact⟨v',w',hr,h2,h3,(Qb base w).grown h3 hbase (fun k hk=>(hown.lt k hk).1),h5⟩
theorem Xy.below {lo:Nat} {A:Option Qan} {w w':Qal} {p:Qan} {v:Qam} (hb:Qat w.heap.size w w') (hp:Xy lo A w p) (hc:w.cell? p=some v):Xy lo A w' p/\w'.cell? p=some v :=
 ⟨⟨⟨hp.1.1,Qd hp.1.2.1 hb.size,(hb.frozen hp.1.2.1).trans hp.1.2.2⟩,hp.2⟩,(hb.cell hp.1.2.1).trans hc⟩
def Yj {α:Type} (R:Rel α) (size:Nat) (t:Qap) (lo:Nat) (w:Qal) (A:Option Qan) (c:Nat) (xs:List α):Prop :=
 ∃ cs,w.ownsRow lo t size (.slice A xs.length c) xs.length cs/\∀ i x,xs[i]? = some x->∃ vs,vs.length=size/\(∀ j u,vs[j]? = some u->cs[i*size+j]? = some u)/\R (Xy lo A w) w vs x
section
variable {α : Type} {R : Rel α} {size : Nat} {t : Qap} {lo : Nat} {w w' : Qal} {A : Option Qan} {c : Nat} {xs : List α}
theorem Yj.nil (R:Rel α) (size:Nat) (t:Qap) (lo:Nat) (w:Qal):Yj R size t lo w none 0 []:=⟨[],Qz _ _ _ _,fun i x h=>by simp at h⟩
theorem Yj.below (hR:Ze2 R) (h:Yj R size t lo w A c xs) (hb:Qat w.heap.size w w'):Yj R size t lo w' A c xs:=by
 obtain⟨cs,h1,h2⟩:=h;refine⟨cs,Zv h1 hb,fun i x hi => ?_⟩;obtain⟨vs,e1,e2,e3⟩:=h2 i x hi;exact⟨vs,e1,e2,hR _ _ _ _ _ _ (fun p v hp hc=>Xy.below hb hp hc) e3⟩
theorem Yj.rel (hR:Ze2 R) (h:Yj R size t lo w A c xs):rSl size R (New lo w) w [.slice A xs.length c] xs:=by
 obtain⟨cs,h1,h2⟩:=h;refine Zsp h1 rfl fun i x hi => ?_
 obtain⟨vs,e1,e2,e3⟩:=h2 i x hi;exact⟨vs,e1,e2,hR _ _ _ _ _ _ (fun p v hp hc=>⟨hp.1,hc⟩) e3⟩
theorem Yj.push {P:Program} (hR:Ze2 R) (h:Yj R size t lo w A c xs) (st ty:Qap) (i:TypeInfo) (z:Qam) (bytes:Nat) (ht:P.underlying st=some (.slice t)) (hi:P.info? t=some i) (hz:i.zero=some z)
 (hsize:i.size=size) (hby:i.bytes=bytes) (hzs:z.cells.size=size) (hsz:0<size) (ad:Qan) (m:Nat) (news:List Qam) (x:α) (hl:news.length=size) (hnews:∀ j u,news[j]? = some u->w.cell? (ad.add j)=some u) (h1:∀ u∈news,u.oneCell'=true)
 (h63:xs.length+1<=maxLen) (hbytes:(xs.length+1)*bytes<=140737488355328) (hbase:lo<=w.heap.size) (hx:R (Xy lo A w) w news x) :
 ∃ A' c' w',(Ql #[st,st] ty #[.slice A xs.length c,.slice (some ad) 1 m]).run P w=.ok (.slice A' (xs.length+1) c') w'/\Yj R size t lo w' A' c' (xs++[x])/\w.grownBy w' (A.map (·.block))/\Qat lo w w':=by
 obtain⟨cs,ho,hcs⟩:=h;obtain⟨A1,c1,e,_,_,e4,_⟩:=Yi ho;cases e;obtain⟨v',w',hr,o1,g1,b1,k1⟩:=Zco (P:=P) (w:=w) lo st ty t i z size bytes ht hi hz hsize hby hzs hsz _ _ cs ho ad 1 m news (by omega) hnews h1 h63 hbytes hbase;obtain⟨A2,c2,rfl,_,_,e5,_⟩:=Yi o1;rw[e4] at g1 k1;rw[e5] at k1;have mp:∀ p v,Xy lo A w p->w.cell? p=some v->Xy lo A2 w' p/\w'.cell? p=some v:=fun p v hp hc=>by
 have hb:=g1.block p.block hp.1.2.1 (fun e=>hp.2 e.symm);refine⟨⟨⟨hp.1.1,Qd hp.1.2.1 g1.size,(Pv hb).trans hp.1.2.2⟩,fun e => ?_⟩,(Qr hb).trans hc⟩;rcases k1 with k | k
 ·exact hp.2 (k ▸ e)
 ·rw[k] at e
 simp only[Option.some.injEq] at e;have:=hp.1.2.1;omega;refine⟨A2,c2,w',hr,⟨cs++news,by rw[Qh];exact o1,fun j y hj => ?_⟩,g1,b1⟩;have hcl:cs.length=xs.length*size:=ho.1;rcases Qs j xs.length with hjl | hjl
 ·rw[Qy hjl] at hj
 obtain⟨vs,e1,e2,e3⟩:=hcs j y hj;refine⟨vs,e1,fun k u hk => ?_,hR _ _ _ _ _ _ mp e3⟩;have hcu:=e2 k u hk;rw[Qy (Qi.1 hcu).1];exact hcu
 ·rw[Qt hjl] at hj
 have hj0:j=xs.length:=by
 have:=(Qi.1 hj).1;simp at this;omega;subst hj0;simp at hj;subst hj;refine⟨news,hl,fun k u hk => ?_,hR _ _ _ _ _ _ mp hx⟩;rw[Qt (by omega),hcl,Nat.add_sub_cancel_left];exact hk
end
theorem Zhl (lo:Nat) (w:Qal):rBy (New lo w) w [.slice none 0 0] []:=⟨none,0,rfl,by simp,by omega,fun i x h=>by simp at h⟩
theorem Z5a (v:Qam) (d:Dk) (n:Int) (w:Qal) (h:Dsk (Old w) w v d) :
 Qas Tryz.prog 67 #[v,.int .i64 n] w fun e w'=>∃ u,e=.returned (.tuple #[u,.int .i64 (Uu d n)])/\rBy (New w.heap.size w') w' [u] (rdX d n)/\Qat w.heap.size w w':=by
 by_cases hn:Zbw d=true/\Vf n=true
 ·obtain⟨hm,ht⟩:=hn
 have e0:Uu d n=0:=by simp[Uu,hm,ht]
 obtain⟨k,rfl,hk⟩:=Zk2 ht;refine(Z6x v d k w h hm hk).mono ?_;rintro e w' ⟨u,rfl,hu,hb⟩;have e1:rdX d (k:Int)=Zz d k:=by simp[rdX,e0]
 rw[e0,e1];exact⟨u,rfl,hu,hb⟩
 ·refine(Z3f v d n w h hn).mono ?_
 rintro e w' ⟨rfl,hb⟩;have e0:Uu d n≠0:=by
 unfold Uu;cases h1:Zbw d <;> cases h2:Vf n <;> simp_all
 have e1:rdX d n=[]:=by simp[rdX,e0]
 rw[e1];exact⟨_,rfl,Zhl _ _,hb⟩
def Zf3 (F:Qal->Prop):Prop:=∀ w w',F w->Qat w.heap.size w w'->F w'
def Bag (w:Qal) (Fs:List (Qal->Prop)):Prop:=∀ F∈Fs,F w/\Zf3 F
section
variable {w w' : Qal} {Fs : List (Qal -> Prop)} {F : Qal -> Prop}
theorem Bag.nil (w:Qal):Bag w []:=fun F h=>by cases h
theorem Bag.below (h:Bag w Fs) (hb:Qat w.heap.size w w'):Bag w' Fs:=fun F hF=>⟨(h F hF).2 w w' (h F hF).1 hb,(h F hF).2⟩
theorem Bag.add (h:Bag w Fs) (hF:F w) (hk:Zf3 F):Bag w (F::Fs):=fun G hG=>by
 rcases Pg.1 hG with h1 | h1
 ·rw[h1]
 exact⟨hF,hk⟩
 ·exact h G h1
theorem Bag.at (h:Bag w Fs) (i:Nat) (hi:Fs[i]? = some F):F w:=(h F (Py hi)).1
end
def Yce (g:Nat) (a b:Qam):Qal->Prop:=fun w=>w.cell? ⟨g,0,none⟩=some a/\w.cell? ⟨g,1,none⟩=some b/\g<w.heap.size
theorem Z1b (g:Nat) (a b:Qam):Zf3 (Yce g a b):=fun _ _ h hb=>⟨(hb.cell (p:=⟨g,0,none⟩) h.2.2).trans h.1,(hb.cell (p:=⟨g,1,none⟩) h.2.2).trans h.2.1,Qd h.2.2 hb.size⟩
theorem Zn3 (A:Option Qan) (len cap m k:Nat) (xs:List UInt8) (hlen:xs.length=len) (hm0:0<m) (hm:m<=4) (hle:k+m<=len) (hlc:len<=cap) (hcap:cap<=9223372036854775807) (w:Qal) (hx:Byt w w.heap.size A xs) :
 Qas Tryz.prog 170 #[.slice A len cap,.int .i64 k,.int .i64 m] w fun e W'=>e=.returned (.tuple #[.int .u32 (num ((xs.drop k).take m)),.int .i64 0])/\Qat w.heap.size w W':=by
 subst hlen;obtain⟨ad,rfl,hp⟩:=hx.part hle hm0;have hl:((xs.drop k).take m).length=m:=by simp;omega
 obtain⟨ad',e,hb,hc⟩:=hp (by omega);cases e;exact callsIn_wide.1 (Z0e Fence.wide 3 trivial trivial trivial rfl (Qc _) ad xs.length cap m k _ hl hm0 hm hle hlc hcap w (by rw[Zh] at hb;exact hb) hc)
theorem Zn4 (A:Option Qan) (len cap:Nat) (k:Int) (m:Nat) (hm:m<=4) (hl:len<=9223372036854775807) (h:k<0\/(len:Int)-m<k) (w:Qal) :
 Qas Tryz.prog 170 #[.slice A len cap,.int .i64 k,.int .i64 m] w fun e W'=>e=.returned (.tuple #[.int .u32 0,.int .i64 8])/\w=W':=by
 by_cases h':k<0
 ·go_enter Tryz.func170,Tryz.ntmps170
 go_wp2
 go_ret2
 exact⟨rfl,rfl⟩
 ·have h2:(len:Int)-m<k:=by omega
 go_enter Tryz.func170,Tryz.ntmps170
 go_wp2
 go_ret2
 exact⟨rfl,rfl⟩
theorem Zyk (A:Option Qan) (len cap k:Nat) (xs:List UInt8) (hlen:Hid (xs.length=len)) (hle:k+2<=len) (hlc:len<=cap) (hcap:cap<=9223372036854775807) (w:Qal) (hx:Byt w w.heap.size A xs) :
 Qas Tryz.prog 191 #[.slice A len cap,.int .i64 k] w fun e W'=>e=.returned (.tuple #[.int .i64 (num ((xs.drop k).take 2)),.int .i64 0])/\Qat w.heap.size w W':=by
 have h0:=Zgx ((xs.drop k).take 2);have h1:=Zzk ((xs.drop k).take 2);have hl:((xs.drop k).take 2).length=2:=by have:=hlen.out;simp;omega
 rw[hl] at h1;simp at h1;clear hl
 go_enter Tryz.func191,Tryz.ntmps191
 go_wp2_with fail
 refine(Zn3 A len cap 2 k xs hlen.out (by omega) (by omega) hle hlc hcap _ hx).mono ?_;rintro e w1 ⟨rfl,hb⟩
 go_wp2
 go_ret2
 exact⟨rfl,hb⟩
theorem Z10 (A:Option Qan) (len cap:Nat) (k:Int) (hl:len<=9223372036854775807) (h:k<0\/(len:Int)-2<k) (w:Qal) :
 Qas Tryz.prog 191 #[.slice A len cap,.int .i64 k] w fun e W'=>e=.returned (.tuple #[.int .i64 0,.int .i64 8])/\w=W':=by
 go_enter Tryz.func191,Tryz.ntmps191
 go_wp2_with fail
 refine(Zn4 A len cap k 2 (by omega) hl h _).mono ?_;rintro e w1 ⟨rfl,rfl⟩
 go_wp2
 go_ret2
 exact⟨rfl,rfl⟩
theorem Zgf (A:Option Qan) (len cap k:Nat) (xs:List UInt8) (hlen:Hid (xs.length=len)) (hle:k+4<=len) (hlc:len<=cap) (hcap:cap<=9223372036854775807) (w:Qal) (hx:Byt w w.heap.size A xs) :
 Qas Tryz.prog 146 #[.slice A len cap,.int .i64 k] w fun e W'=>e=.returned (.tuple #[.int .u32 (num ((xs.drop k).take 4)),.int .i64 0])/\Qat w.heap.size w W':=by
 go_enter Tryz.func146,Tryz.ntmps146
 go_wp2_with fail
 refine(Zn3 A len cap 4 k xs hlen.out (by omega) (by omega) hle hlc hcap _ hx).mono ?_;rintro e w1 ⟨rfl,hb⟩
 go_wp2
 go_ret2
 exact⟨rfl,hb⟩
theorem Zw5 (A:Option Qan) (len cap:Nat) (k:Int) (hl:len<=9223372036854775807) (h:k<0\/(len:Int)-4<k) (w:Qal) :
 Qas Tryz.prog 146 #[.slice A len cap,.int .i64 k] w fun e W'=>e=.returned (.tuple #[.int .u32 0,.int .i64 8])/\w=W':=by
 go_enter Tryz.func146,Tryz.ntmps146
 go_wp2_with fail
 refine(Zn4 A len cap k 4 (by omega) hl h _).mono ?_;rintro e w1 ⟨rfl,rfl⟩
 go_wp2
 go_ret2
 exact⟨rfl,rfl⟩
def tb (n:Int):List UInt8:=if 0<=n/\n<65536 then le 2 n else []
def ge (m:Nat) (len:Nat) (k:Int):Int:=if 0<=k/\k+m<=len then 0 else 8
def gv (m:Nat) (xs:List UInt8) (k:Int):Int:=if 0<=k/\k+m<=xs.length then num ((xs.drop k.toNat).take m) else 0
theorem Zor {m len:Nat} {k:Int} (h:0<=k/\k+m<=len):ge m len k=0:=if_pos h
theorem Z9z {m len:Nat} {k:Int} (h:¬ (0<=k/\k+m<=len)):ge m len k=8:=if_neg h
theorem Zpl {m:Nat} {xs:List UInt8} {k:Int} (h:0<=k/\k+m<=xs.length):gv m xs k=num ((xs.drop k.toNat).take m):=if_pos h
theorem Z73 {m:Nat} {xs:List UInt8} {k:Int} (h:¬ (0<=k/\k+m<=xs.length)):gv m xs k=0:=if_neg h
theorem Zpo (m:Nat) (xs:List UInt8) (k:Int):0<=gv m xs k/\gv m xs k<(256:Int) ^ m:=by{
by_cases h:0<=k/\k+m<=xs.length
·rw[Zpl h]
have hl:((xs.drop k.toNat).take m).length=m:=by simp;omega
have h1:=Zzk ((xs.drop k.toNat).take m);rw[hl] at h1;exact⟨Zgx _,h1⟩
·rw[Z73 h]
exact⟨by omega,Int.pow_pos (by omega)⟩}
theorem Zvw (A:Option Qan) (len cap:Nat) (k:Int) (xs:List UInt8) (hlen:Hid (xs.length=len)) (hlc:len<=cap) (hcap:cap<=9223372036854775807) (w:Qal) (hx:Byt w w.heap.size A xs) :
 Qas Tryz.prog 191 #[.slice A len cap,.int .i64 k] w fun e W'=>e=.returned (.tuple #[.int .i64 (gv 2 xs k),.int .i64 (ge 2 len k)])/\Qat w.heap.size w W':=by
 obtain rfl:=hlen.out;by_cases h:0<=k/\k+(2:Nat)<=xs.length
 ·rw[Zor h,Zpl h]
 obtain⟨n,rfl⟩:=Int.eq_ofNat_of_zero_le h.1;rw[Int.toNat_natCast];exact Zyk A _ cap n xs hlen (by omega) hlc hcap w hx
 ·rw[Z9z h,Z73 h]
 exact(Z10 A xs.length cap k (by omega) (by omega) w).mono fun e w' ⟨he,hw⟩=>⟨he,hw ▸ Qb _ _⟩
theorem Zio (A:Option Qan) (len cap:Nat) (k:Int) (xs:List UInt8) (hlen:Hid (xs.length=len)) (hlc:len<=cap) (hcap:cap<=9223372036854775807) (w:Qal) (hx:Byt w w.heap.size A xs) :
 Qas Tryz.prog 146 #[.slice A len cap,.int .i64 k] w fun e W'=>e=.returned (.tuple #[.int .u32 (gv 4 xs k),.int .i64 (ge 4 len k)])/\Qat w.heap.size w W':=by
 obtain rfl:=hlen.out;by_cases h:0<=k/\k+(4:Nat)<=xs.length
 ·rw[Zor h,Zpl h]
 obtain⟨n,rfl⟩:=Int.eq_ofNat_of_zero_le h.1;rw[Int.toNat_natCast];exact Zgf A _ cap n xs hlen (by omega) hlc hcap w hx
 ·rw[Z9z h,Z73 h]
 exact(Zw5 A xs.length cap k (by omega) (by omega) w).mono fun e w' ⟨he,hw⟩=>⟨he,hw ▸ Qb _ _⟩
def Zoi (xs:List UInt8):List UInt8:=xs++Zy (124-xs.length)
def Zdk (xs:List UInt8):List UInt8:=le 4 (crc (Zoi xs):Nat)++Zoi xs
theorem Z7k (A:Option Qan) (len cap:Nat) (hl:len≠128) (w:Qal) :
 Qas Tryz.prog 113 #[.slice A len cap] w fun e w'=>e=.returned (.tuple #[.slice none 0 0,.int .i64 3])/\w=w':=by
 go_enter Tryz.func113,Tryz.ntmps113
 go_wp2
 go_ret2
 exact⟨rfl,rfl⟩
def Zu7 (xs:List UInt8):Prop:=num (xs.take 4)=(crc (xs.drop 4):Nat)
theorem Z31 (ad:Qan) (cap:Nat) (xs:List UInt8) (hlen:Hid (xs.length=128)) (hlc:128<=cap) (hcap:cap<=9223372036854775807) (w:Qal) (hx:Byt w w.heap.size (some ad) xs) (hn:¬ Zu7 xs) :
 Qas Tryz.prog 113 #[.slice (some ad) 128 cap] w fun e w'=>e=.returned (.tuple #[.slice none 0 0,.int .i64 8])/\Qat w.heap.size w w':=by
 have hp:Byt w w.heap.size (some (ad.add 4)) (xs.drop 4):=by
 obtain⟨ad',e,hp⟩:=hx.part (k:=4) (n:=124) (by rw[hlen.out];omega) (by omega);cases e
 rwa [Qf (by simp[hlen.out])] at hp
 have hpl:Hid ((xs.drop 4).length=124):=Za (by simp[hlen.out]);have hb:=Zsv (xs.drop 4);have hd:((num (xs.take 4):Int)==(crc (xs.drop 4):Nat))=false:=by simpa [Zu7] using hn
 have hd':((num (xs.take 4):Int) != (crc (xs.drop 4):Nat))=true:=by simpa [Zu7] using hn
 have HD:=Za hd;have HD':=Za hd';clear hn hd hd'
 go_enter Tryz.func113,Tryz.ntmps113
 go_wp2_with fail
 refine(Zgf _ _ cap 0 xs hlen (by omega) (by omega) (by omega) _ hx).mono ?_;rintro e w1 ⟨rfl,hb1⟩;rw[Qq];have hp1:=(hp.below hb1).more hb1.size
 go_wp2_with fail
 refine(Z1t _ _ _ _ hpl (by omega) (by omega) _ hp1).mono ?_;rintro e w2 ⟨rfl,hb2⟩;generalize num (xs.take 4)=q at *;generalize crc (xs.drop 4)=r at *;have hd:=HD.out;have hd':=HD'.out
 go_wp2_with fail
 go_ret2
 exact⟨rfl,Z4q hb1 hb2⟩
theorem Z3p {w:Qal} {B B':Nat} {e:Qap} {v:Qam} {n:Nat} {xs:List Qam} (h:w.ownsRow B e 1 v n xs) (hb:B'<=B):w.ownsRow B' e 1 v n xs:=by
 refine⟨h.1,h.2.imp id ?_⟩;rintro⟨g,cap,cur,h1,h2,h3⟩;exact⟨g,cap,cur,h1,Qj hb h2,h3⟩
theorem Z84 (ad:Qan) (cap:Nat) (xs:List UInt8) (hlen:Hid (xs.length=128)) (hlc:128<=cap) (hcap:cap<=9223372036854775807) (w:Qal) (hx:Byt w w.heap.size (some ad) xs) (hn:Zu7 xs) :
 Qas Tryz.prog 113 #[.slice (some ad) 128 cap] w fun e w'=>∃ v,e=.returned (.tuple #[v,.int .i64 0])/\w'.ownsRow w.heap.size 5 1 v 124 (u8s (xs.drop 4))/\Qat w.heap.size w w':=by
 have hp:Byt w w.heap.size (some (ad.add 4)) (xs.drop 4):=by
 obtain⟨ad',e,hp⟩:=hx.part (k:=4) (n:=124) (by rw[hlen.out];omega) (by omega);cases e
 rwa [Qf (by simp[hlen.out])] at hp
 have hpl:Hid ((xs.drop 4).length=124):=Za (by simp[hlen.out]);have hb:=Zsv (xs.drop 4);have HN:Hid (num (xs.take 4)=(crc (xs.drop 4):Nat)):=Za hn;clear hn
 go_enter Tryz.func113,Tryz.ntmps113
 go_wp2_with fail
 refine(Zgf _ _ cap 0 xs hlen (by omega) (by omega) (by omega) _ hx).mono ?_;rintro e w1 ⟨rfl,hb1⟩;rw[Qq,HN.out];have hp1:=(hp.below hb1).more hb1.size
 go_wp2_with fail
 refine(Z1t _ _ _ _ hpl (by omega) (by omega) _ hp1).mono ?_;rintro e w2 ⟨rfl,hb2⟩;generalize crc (xs.drop 4)=r at *;have hp2:=(hp1.below hb2).more hb2.size
 go_wp2_with fail
 refine(Zln _ _ _ _ hpl (by omega) _ hp2).mono ?_;rintro e w3 ⟨v,rfl,hown,_,hb3⟩;have hB:=Z4q (Z4q hb1 hb2) hb3;have hsz:=Qj hb1.size hb2.size;have HO:=Za (Z3p hown hsz);clear hown hp hp1 hp2 hx hb1 hb2 hb3 hsz
 go_wp2_with fail
 go_ret2
 exact⟨v,rfl,HO.out,hB⟩
theorem Zpd {xs:List UInt8} (h:xs.length=124):Zoi xs=xs:=by simp[Zoi,Zy,h]
theorem Z0s {xs:List UInt8} (h:xs.length=128) (hf:Zu7 xs):Zdk (xs.drop 4)=xs:=by
 unfold Zu7 at hf;unfold Zdk;have e:=Zzu (xs.take 4);rw[show (xs.take 4).length=4 by simp[h]] at e;rw[Zpd (by simp[h]),<- hf,e];exact Q6 4 xs
theorem Zlz {a:Qam} {k:IntKind} {x y:Int} (h:x=y):Ending.returned (.tuple #[a,.int k x])=.returned (.tuple #[a,.int k y]):=by rw[h]
theorem Vg {P:Program} {w:Qal} {ops:Array Qao} {rest:List Qao} {o:Qao} {a:Act} {Q:Exit->Act->Qal->Prop} (hgd:o.guard=none) (s x:Qbj) (t tn:Qap)
 (ho:o.op=.call { callee:=.builtin .append,args:=#[s,x],argTypes:=#[t,tn] }) {v u v':Qam} {w':Qal} (hs:a.eval s=v) (hx:a.eval x=u)
 (hrun:(Ql #[t,tn] o.type #[v,u]).run P w=.ok v' w') (h:wpList P ops Q rest (a.put o.dst v') w'):wpList P ops Q (o::rest) a w :=
 wpList_plain hgd fun _ hK=>by
 unfold Oper.wp execOp;simp only[ho,resolve,invoke,builtin,Sem.run_bind,Sem.run_pure,Result.andThen_ok,Pl,P0,P6,hs,hx,hrun];exact hK _ _ h
def sb (xs:List UInt8):List UInt8:=if xs.length<=124 then Zdk xs else []
open Classical in
def ob (xs:List UInt8):List UInt8:=if xs.length=128/\Zu7 xs then xs.drop 4 else []
open Classical in
def oe (xs:List UInt8):Int:=if xs.length=128 then (if Zu7 xs then 0 else 8) else 3
theorem Z2i (A:Option Qan) (len cap:Nat) (xs:List UInt8) (hlen:Hid (xs.length=len)) (hlc:len<=cap) (hcap:cap<=9223372036854775807) (w:Qal) (hx:Byt w w.heap.size A xs) :
 Qas Tryz.prog 113 #[.slice A len cap] w fun e w'=>∃ v,e=.returned (.tuple #[v,.int .i64 (oe xs)])/\w'.ownsRow w.heap.size 5 1 v (ob xs).length (u8s (ob xs))/\Qat w.heap.size w w':=by
 by_cases h:len=128
 ·subst h
 obtain⟨ad,rfl,_,_⟩:=hx (by rw[hlen.out];omega);by_cases hf:Zu7 xs
 ·have h1:oe xs=0:=by unfold oe;rw[if_pos hlen.out,if_pos hf]
 have h2:ob xs=xs.drop 4:=by unfold ob;rw[if_pos ⟨hlen.out,hf⟩]
 rw[h1,h2,show (xs.drop 4).length=124 by simp[hlen.out]];exact Z84 ad cap xs hlen hlc hcap w hx hf
 ·have h1:oe xs=8:=by unfold oe;rw[if_pos hlen.out,if_neg hf]
 have h2:ob xs=[]:=by unfold ob;rw[if_neg (fun h=>hf h.2)]
 rw[h1,h2];refine(Z31 ad cap xs hlen hlc hcap w hx hf).mono ?_;rintro e w' ⟨rfl,hb⟩;exact⟨_,rfl,Qz _ _ _ _,hb⟩
 ·have h1:oe xs=3:=by unfold oe;rw[if_neg (by rw[hlen.out];exact h)]
 have h2:ob xs=[]:=by unfold ob;rw[if_neg (fun h'=>h (by rw[<- hlen.out];exact h'.1))]
 rw[h1,h2];refine(Z7k A len cap h w).mono ?_;rintro e w' ⟨rfl,rfl⟩;exact⟨_,rfl,Qz _ _ _ _,Qb _ _⟩
theorem Uy {W:Qal} {g:Nat} {a b c d e u0 u1 u2 u3 u4:Qam} {t:Qap} (h:W.heap[g]? = some (.cells #[a,b,c,d,e] t (0,0))):∃ W1,((((W.setCell ⟨g,0,none⟩ u0).setCell ⟨g,1,none⟩ u1).setCell ⟨g,2,none⟩ u2).setCell ⟨g,3,none⟩ u3).setCell ⟨g,4,none⟩ u4=W1 /\
 W1.heap[g]? = some (.cells #[u0,u1,u2,u3,u4] t (0,0))/\W.grownBy W1 (some g)/\W1.heap.size=W.heap.size :=
 ⟨_,rfl,by simp[Pz,P1,h],Yr (p:=⟨g,4,none⟩) (Yr (p:=⟨g,3,none⟩) (Yr (p:=⟨g,2,none⟩) (Yr (p:=⟨g,1,none⟩) (Yr (p:=⟨g,0,none⟩) (Xc W (some g)) rfl u0) rfl u1) rfl u2) rfl u3) rfl u4,by simp⟩
theorem Zs {W:Qal} {g:Nat} {a b c d e:Qam} {t:Qap} (h:W.heap[g]? = some (.cells #[a,b,c,d,e] t (0,0))):W.cell? ⟨g,0,none⟩=some a/\W.cell? ⟨g,1,none⟩=some b/\W.cell? ⟨g,2,none⟩=some c/\W.cell? ⟨g,3,none⟩=some d/\W.cell? ⟨g,4,none⟩=some e/\(∀ o,W.frozen? ⟨g,o,none⟩=false)/\g<W.heap.size :=
 ⟨by simp[Q0,h],by simp[Q0,h],by simp[Q0,h],by simp[Q0,h],by simp[Q0,h],fun o=>by simp[Pj,h],(Pa.1 h).1⟩
theorem Zy4 {ok:Qan->Prop} {w:Qal} {n:Int} (h:Zjg n):rK .i64 ok w [.int .i64 n] n:=⟨rfl,by simpa [IntKind.min,IntKind.signed,IntKind.bits] using h.1,by simpa [IntKind.max,IntKind.signed,IntKind.bits] using h.2⟩
theorem Ybd (body:List UInt8) (k:Int):Zjg (gv 2 body k):=by
 have:=Zpo 2 body k;exact⟨by omega,by omega⟩
theorem Z59 (body:List UInt8) (k:Int):InU (gv 4 body k):=by
 have:=Zpo 4 body k;exact⟨by omega,by omega⟩
def orN (xs:List Int):Int:=(xs.find? fun x=>x != 0).getD 0
theorem Zu3 {xs:List Int} {k:Nat} {x:Int} (h:∀ y∈xs.take k,y=0) (hx:xs[k]? = some x) (h0:x≠0):orN xs=x:=by
 have e:xs=xs.take k++x::xs.drop (k+1):=by
 have hk:=(Qi.1 hx)
 obtain⟨hk1,hk2⟩:=hk;rw[<- hk2,<- Pk hk1,Q6];unfold orN;rw[e,List.find?_append,P3.2 (by intro y hy;simp[h y hy])];simp[h0]
theorem Zs5 {xs:List Int} (h:∀ y∈xs,y=0):orN xs=0:=by
 unfold orN;rw[P3.2 (by intro y hy;simp[h y hy])];rfl
theorem Z5v (v:Qam) (xs:List Int) (w:Qal) (h:Zok (Old w) w [v] xs) :
 Qas Tryz.prog 193 #[v] w fun e w'=>e=.returned (.int .i64 (orN xs))/\w=w':=by
 obtain⟨A,c,rfl,l1,m1,hA⟩:=Zg2 h;have HA:=Za hA;clear hA h;obtain⟨n,hn⟩:∃ n,xs.length=n:=⟨_,rfl⟩
 rw[hn] at l1 ⊢;replace hn:=Za hn
 go_enter Tryz.func193,Tryz.ntmps193
 go_wp2_with fail
 go_loop [8] (fun i=>∃ k:Nat,k<=n/\i=.int .i64 k/\∀ y∈xs.take k,y=0) (fun i=>n-(intOf i).toNat)
 case atStart=>exact⟨0,by omega,rfl,fun y hy=>by simp at hy⟩
 case round =>
 obtain⟨k,hk,rfl,ha⟩:=hrel;replace ha:=Za ha;by_cases hlt:k<n
 ·obtain⟨x,hx⟩:∃ x,xs[k]? = some x:=⟨_,Qe (by rw[hn.out];exact hlt)⟩
 obtain⟨ad,rfl,hok,hc,_⟩:=HA.out k x hx;replace hx:=Za hx;by_cases e:x=0
 ·have he:(x != 0)=false:=by simpa using e
 replace e:=Za e
 go_wp2_with fail
 go_round
 case rel=>exact⟨k+1,by omega,by go_num,fun y hy=>by
  rw[Qu,hx.out] at hy;simp at hy;rcases hy with hy | hy
  ·exact ha.out y hy
  ·rw[hy];exact e.out⟩
 case measure=>simp[intOf];omega
 ·have he:(x != 0)=true:=by simpa using e
 have hor:=Za (Zu3 ha.out hx.out e);clear e
 go_wp2_with fail
 go_ret;exact⟨Z1 hor.out.symm,rfl⟩
 ·have hge:n<=k:=by omega
 have hor:Hid (orN xs=0):=Za (Zs5 (by
 have:=ha.out
 rwa [Qf (by rw[hn.out];exact hge)] at this))
 go_wp2_with fail
 go_ret;exact⟨Z1 hor.out.symm,rfl⟩
theorem Zmf (w:Qal) (t:Qap) (xs:List Int) (cs:Array Qam) (hc:cs.toList=xs.map fun x=>Value.int .i64 x) (hb:xs.length<=1000) (h:∀ x∈xs,Zjg x) :
 Zok (Old (w.alloc (.cells cs t))) (w.alloc (.cells cs t)) [.slice (some ⟨w.heap.size,0,none⟩) xs.length xs.length] xs:=by
 refine⟨_,_,rfl,Qc _,by omega,fun i x hi => ?_⟩;refine⟨_,[.int .i64 x],rfl,rfl,fun j v hj => ?_,Zy4 (h x (Py hi))⟩;have hj0:j=0:=by
 have:=(Qi.1 hj).1;simp at this;omega;subst hj0;cases hj;have e:(⟨w.heap.size,0,none⟩:Qan).add (i*1+0)=⟨w.heap.size,i,none⟩:=by rw[Zah];simp
 rw[e];have hci:cs[i]? = some (.int .i64 x):=by rw[<- Array.getElem?_toList,hc,List.getElem?_map,hi];rfl
 refine⟨by simp[Old],?_⟩;rw[<- hci];simp
def Ycc (g:Nat) (a b c d e:Qam):Qal->Prop:=fun w=>w.cell? ⟨g,0,none⟩=some a/\w.cell? ⟨g,1,none⟩=some b/\w.cell? ⟨g,2,none⟩=some c/\w.cell? ⟨g,3,none⟩=some d/\w.cell? ⟨g,4,none⟩=some e/\g<w.heap.size
theorem Zw2 (g:Nat) (a b c d e:Qam):Zf3 (Ycc g a b c d e):=fun _ _ h hb=>⟨(hb.cell (p:=⟨g,0,none⟩) h.2.2.2.2.2).trans h.1,(hb.cell (p:=⟨g,1,none⟩) h.2.2.2.2.2).trans h.2.1,(hb.cell (p:=⟨g,2,none⟩) h.2.2.2.2.2).trans h.2.2.1,(hb.cell (p:=⟨g,3,none⟩) h.2.2.2.2.2).trans h.2.2.2.1,(hb.cell (p:=⟨g,4,none⟩) h.2.2.2.2.2).trans h.2.2.2.2.1,Qd h.2.2.2.2.2 hb.size⟩
end Go.Proofs.YtgmbjnajdfgenaaGreat
namespace Go.Proofs.YtgmbjnajdfgenaaGreat
open Go.ChangeShapes Go.WideShapes Go.RowKit
abbrev Ky:=UInt8×Int×Int
def rKy:Rel Ky:=Zjx rU8 (Zjx (rK .u32) (rK .u32))
theorem Z6v:Ze2 rKy:=Zdr Zyy (Zdr (Zgb _) (Zgb _))
structure InK (k:Ky):Prop where
 id:InU k.2.1
 off:InU k.2.2
abbrev kyV (k:Ky):Qam:=.agg #[.int .u8 (k.1.toNat:Int),.int .u32 k.2.1,.int .u32 k.2.2]
theorem Ztd {ok:Qan->Prop} {w:Qal} {cs:List Qam} {k:Ky} (h:rKy ok w cs k):cs=[.int .u8 (k.1.toNat:Int),.int .u32 k.2.1,.int .u32 k.2.2]/\InK k:=by
 obtain⟨_,_,rfl,rfl,_,_,rfl,⟨rfl,a1,a2⟩,⟨rfl,b1,b2⟩⟩:=h;simp[IntKind.min,IntKind.max,IntKind.signed,IntKind.bits] at a1 a2 b1 b2;exact⟨rfl,⟨⟨a1,by omega⟩,⟨b1,by omega⟩⟩⟩
theorem Ya1 {ok:Qan->Prop} {w:Qal} {k:Ky} (h:InK k):rKy ok w [.int .u8 (k.1.toNat:Int),.int .u32 k.2.1,.int .u32 k.2.2] k:=by
 obtain⟨⟨a1,a2⟩,⟨b1,b2⟩⟩:=h;refine⟨[_],_,rfl,rfl,[_],_,rfl,⟨rfl,?_,?_⟩,rfl,?_,?_⟩ <;> simp[IntKind.min,IntKind.max,IntKind.signed,IntKind.bits] <;> omega
abbrev It:=Ky×Int×List UInt8
def rIt:Rel It:=Zjx rKy (Zjx (rK .i64) rBy)
theorem Z0:Ze2 rIt:=Zdr Z6v (Zdr (Zgb _) Zf)
structure InI (s:It):Prop where
 key:InK s.1
 ref:Zjg s.2.1
abbrev itV (s:It) (d:Qam):Qam:=.agg #[.int .u8 (s.1.1.toNat:Int),.int .u32 s.1.2.1,.int .u32 s.1.2.2,.int .i64 s.2.1,d]
def Itm (ok:Qan->Prop) (w:Qal) (v:Qam) (s:It):Prop:=∃ d,v=itV s d/\InI s/\rBy ok w [d] s.2.2
theorem Ztm {ok:Qan->Prop} {w:Qal} {cs:List Qam} {s:It} (h:rIt ok w cs s):∃ d,cs=[.int .u8 (s.1.1.toNat:Int),.int .u32 s.1.2.1,.int .u32 s.1.2.2,.int .i64 s.2.1,d]/\InI s/\rBy ok w [d] s.2.2:=by
 obtain⟨_,_,rfl,hk,_,_,rfl,⟨rfl,a1,a2⟩,hd⟩:=h;obtain⟨rfl,hi⟩:=Ztd hk;obtain⟨A,cap,rfl,hd'⟩:=hd;simp[IntKind.min,IntKind.max,IntKind.signed,IntKind.bits] at a1 a2;exact⟨_,rfl,⟨hi,⟨a1,a2⟩⟩,A,cap,rfl,hd'⟩
theorem Zs8 {ok:Qan->Prop} {w:Qal} {d:Qam} {s:It} (h:InI s) (hd:rBy ok w [d] s.2.2):rIt ok w [.int .u8 (s.1.1.toNat:Int),.int .u32 s.1.2.1,.int .u32 s.1.2.2,.int .i64 s.2.1,d] s:=by
 obtain⟨hk,⟨a1,a2⟩⟩:=h;refine⟨[_,_,_],_,rfl,Ya1 hk,[_],_,rfl,⟨rfl,?_,?_⟩,hd⟩ <;> simp[IntKind.min,IntKind.max,IntKind.signed,IntKind.bits] <;> omega
theorem Itm.map {ok ok':Qan->Prop} {w w':Qal} {v:Qam} {s:It} (hk:∀ p v,ok p->w.cell? p=some v->ok' p/\w'.cell? p=some v) (h:Itm ok w v s):Itm ok' w' v s:=by
 obtain⟨d,e,h1,h2⟩:=h;exact⟨d,e,h1,Zf _ _ _ _ _ _ hk h2⟩
theorem Xa (w:Qal) (a b c:Qam) (t:Qap):∃ w1,w.alloc (.cells #[a,b,c] t)=w1/\w1.cell? ⟨w.heap.size,0,none⟩=some a/\w1.cell? ⟨w.heap.size,1,none⟩=some b/\w1.cell? ⟨w.heap.size,2,none⟩=some c/\w1.heap.size=w.heap.size+1/\Qat w.heap.size w w1/\w1.heap[w.heap.size]? = some (.cells #[a,b,c] t (0,0)) :=
 ⟨_,rfl,by simp,by simp,by simp,by simp,(Qb _ _).alloc (Qc _) _,Qar _ _⟩
def Zbn (s:It):Bool:=(decide (s.2.1=0)||(decide (8<=s.2.1)&&decide (s.2.1<256)))&&decide (s.2.2.length<=12)
def Z4n (s:It):Int:=if Zbn s then 0 else 8
theorem Zaj {s:It} (h:Zbn s=true):(s.2.1=0\/(8<=s.2.1/\s.2.1<256))/\s.2.2.length<=12:=by
 simpa [Zbn] using h
theorem Zr6 {s:It} (h:(s.2.1=0\/(8<=s.2.1/\s.2.1<256))/\s.2.2.length<=12):Zbn s=true:=by simpa [Zbn] using h
theorem Zdt {s:It} (h:Zbn s=true):Z4n s=0:=by simp[Z4n,h]
theorem Zat {s:It} (h:Zbn s=false):Z4n s=8:=by simp[Z4n,h]
def itB (s:It):List UInt8:=[s.1.1]++(le 4 s.1.2.1++(le 4 s.1.2.2++(le 2 s.2.1++([UInt8.ofNat s.2.2.length]++s.2.2))))
def Zer:It:=((0,0,0),0,[])
theorem Z30:InI Zer:=⟨⟨⟨by decide,by decide⟩,⟨by decide,by decide⟩⟩,⟨by decide,by decide⟩⟩
theorem Zee (ok:Qan->Prop) (w:Qal):Itm ok w (.agg #[.int .u8 0,.int .u32 0,.int .u32 0,.int .i64 0,.slice none 0 0]) Zer:=⟨_,rfl,Z30,none,0,rfl,by simp[Zer],by omega,fun i x h=>by simp[Zer] at h⟩
def Zsk (a b:Int):Int:=if a<b then -1 else if b<a then 1 else 0
theorem Zid {a b:Int} (h:a<b):Zsk a b = -1:=if_pos h
theorem Zjt {a b:Int} (h:b<a):Zsk a b=1:=by unfold Zsk;rw[if_neg (by omega),if_pos h]
theorem Zi8 {a b:Int} (h:a=b):Zsk a b=0:=by subst h;simp[Zsk]
theorem Zq8 (a b:Int):Zjg (Zsk a b):=by
 unfold Zsk;split
 ·exact⟨by decide,by decide⟩
 ·split <;> exact⟨by decide,by decide⟩
def Zo (a b:Ky):Bool:=if a.1.toNat≠b.1.toNat then decide (a.1.toNat<b.1.toNat) else if a.2.1≠b.2.1 then decide (a.2.1<b.2.1) else decide (a.2.2<b.2.2)
theorem Z02 (a b c:Int):orN [a,b,c]=if a≠0 then a else if b≠0 then b else c:=by{
unfold orN;by_cases h:a=0
·subst h
by_cases h:b=0
·subst h
 by_cases h:c=0
 ·subst h;rfl
 ·simp[h]
·simp[h]
·simp[h]}
theorem Z7y (a b:Ky):decide (orN [Zsk a.1.toNat b.1.toNat,Zsk a.2.1 b.2.1,Zsk a.2.2 b.2.2]<0)=Zo a b:=by{
rw[Z02];unfold Zo;have z:¬ (0:Int)≠0:=by omega
have m1:(-1:Int)≠0:=by omega
have p1:(1:Int)≠0:=by omega
rcases Nat.lt_trichotomy a.1.toNat b.1.toNat with h | h | h
·rw[Zid (by omega),if_pos m1,if_pos (show a.1.toNat≠b.1.toNat by omega)];simp[h]
·rw[Zi8 (show (a.1.toNat:Int)=b.1.toNat by omega),if_neg z,if_neg (show ¬ a.1.toNat≠b.1.toNat by omega)]
rcases Int.lt_trichotomy a.2.1 b.2.1 with h1 | h1 | h1
·rw[Zid h1,if_pos m1,if_pos (show a.2.1≠b.2.1 by omega)];simp[h1]
·rw[Zi8 h1,if_neg z,if_neg (show ¬ a.2.1≠b.2.1 by omega)]
 rcases Int.lt_trichotomy a.2.2 b.2.2 with h2 | h2 | h2
 ·rw[Zid h2];simp[h2]
 ·rw[Zi8 h2];simp[h2]
 ·rw[Zjt h2,decide_eq_false (show ¬ (1:Int)<0 by omega),decide_eq_false (show ¬ a.2.2<b.2.2 by omega)]
·rw[Zjt h1,if_pos p1,if_pos (show a.2.1≠b.2.1 by omega),decide_eq_false (show ¬ (1:Int)<0 by omega),decide_eq_false (show ¬ a.2.1<b.2.1 by omega)]
·rw[Zjt (show (b.1.toNat:Int)<a.1.toNat by omega),if_pos p1,if_pos (show a.1.toNat≠b.1.toNat by omega),decide_eq_false (show ¬ (1:Int)<0 by omega),decide_eq_false (show ¬ a.1.toNat<b.1.toNat by omega)]}
theorem Zlb (a:Int) (w:Qal):Qas Tryz.prog 133 #[.int .u8 a] w fun e w'=>e=.returned (.bool false)/\w=w':=by
 go_enter Tryz.func133,Tryz.ntmps133
 go_wp2_with fail
 go_ret;exact⟨Ym (by simp),rfl⟩
theorem Zgj (a:Int) (w:Qal):Qas Tryz.prog 134 #[.int .u32 a] w fun e w'=>e=.returned (.bool false)/\w=w':=by
 go_enter Tryz.func134,Tryz.ntmps134
 go_wp2_with fail
 go_ret;exact⟨Ym (by simp),rfl⟩
theorem Z5g (a b:Int) (w:Qal):Qas Tryz.prog 96 #[.int .u8 a,.int .u8 b] w fun e w'=>e=.returned (.int .i64 (Zsk a b))/\w=w':=by{
rcases Int.lt_trichotomy a b with h | h | h
·rw[Zid h]
go_enter Tryz.func96,Tryz.ntmps96
go_wp2_with fail
with_reducible refine(Zlb a _).mono ?_;rintro e w1 ⟨rfl,rfl⟩
go_wp2_with fail
with_reducible refine(Zlb b _).mono ?_;rintro e w1 ⟨rfl,rfl⟩
go_wp2_with fail
go_ret;exact⟨rfl,rfl⟩
·rw[Zi8 h]
subst h
go_enter Tryz.func96,Tryz.ntmps96
go_wp2_with fail
with_reducible refine(Zlb a _).mono ?_;rintro e w1 ⟨rfl,rfl⟩
go_wp2_with fail
with_reducible refine(Zlb a _).mono ?_;rintro e w1 ⟨rfl,rfl⟩
go_wp2_with fail
go_ret;exact⟨rfl,rfl⟩
·rw[Zjt h]
have h2:¬ a<b:=by omega
go_enter Tryz.func96,Tryz.ntmps96
go_wp2_with fail
with_reducible refine(Zlb a _).mono ?_;rintro e w1 ⟨rfl,rfl⟩
go_wp2_with fail
with_reducible refine(Zlb b _).mono ?_;rintro e w1 ⟨rfl,rfl⟩
go_wp2_with fail
go_ret;exact⟨rfl,rfl⟩}
theorem Zou (a b:Int) (w:Qal):Qas Tryz.prog 97 #[.int .u32 a,.int .u32 b] w fun e w'=>e=.returned (.int .i64 (Zsk a b))/\w=w':=by{
rcases Int.lt_trichotomy a b with h | h | h
·rw[Zid h]
go_enter Tryz.func97,Tryz.ntmps97
go_wp2_with fail
with_reducible refine(Zgj a _).mono ?_;rintro e w1 ⟨rfl,rfl⟩
go_wp2_with fail
with_reducible refine(Zgj b _).mono ?_;rintro e w1 ⟨rfl,rfl⟩
go_wp2_with fail
go_ret;exact⟨rfl,rfl⟩
·rw[Zi8 h]
subst h
go_enter Tryz.func97,Tryz.ntmps97
go_wp2_with fail
with_reducible refine(Zgj a _).mono ?_;rintro e w1 ⟨rfl,rfl⟩
go_wp2_with fail
with_reducible refine(Zgj a _).mono ?_;rintro e w1 ⟨rfl,rfl⟩
go_wp2_with fail
go_ret;exact⟨rfl,rfl⟩
·rw[Zjt h]
have h2:¬ a<b:=by omega
go_enter Tryz.func97,Tryz.ntmps97
go_wp2_with fail
with_reducible refine(Zgj a _).mono ?_;rintro e w1 ⟨rfl,rfl⟩
go_wp2_with fail
with_reducible refine(Zgj b _).mono ?_;rintro e w1 ⟨rfl,rfl⟩
go_wp2_with fail
go_ret;exact⟨rfl,rfl⟩}
theorem Zze (v:Qam) (xs:List Int) (w:Qal) (h:Zok (Old w) w [v] xs) :
 Qas Tryz.prog 95 #[v] w fun e w'=>e=.returned (.int .i64 (orN xs))/\w=w':=by
 obtain⟨A,c,rfl,l1,m1,hA⟩:=Zg2 h;have HA:=Za hA;clear hA h;obtain⟨n,hn⟩:∃ n,xs.length=n:=⟨_,rfl⟩
 rw[hn] at l1 ⊢;replace hn:=Za hn
 go_enter Tryz.func95,Tryz.ntmps95
 go_wp2_with fail
 go_loop [8] (fun i=>∃ k:Nat,k<=n/\i=.int .i64 k/\∀ y∈xs.take k,y=0) (fun i=>n-(intOf i).toNat)
 case atStart=>exact⟨0,by omega,rfl,fun y hy=>by simp at hy⟩
 case round =>
 obtain⟨k,hk,rfl,ha⟩:=hrel;replace ha:=Za ha;by_cases hlt:k<n
 ·obtain⟨x,hx⟩:∃ x,xs[k]? = some x:=⟨_,Qe (by rw[hn.out];exact hlt)⟩
 obtain⟨ad,rfl,hok,hc,_⟩:=HA.out k x hx;replace hx:=Za hx;by_cases e:x=0
 ·have he:(x != 0)=false:=by simpa using e
 replace e:=Za e
 go_wp2_with fail
 go_round
 case rel=>exact⟨k+1,by omega,by go_num,fun y hy=>by
  rw[Qu,hx.out] at hy;simp at hy;rcases hy with hy | hy
  ·exact ha.out y hy
  ·rw[hy];exact e.out⟩
 case measure=>simp[intOf];omega
 ·have he:(x != 0)=true:=by simpa using e
 have hor:=Za (Zu3 ha.out hx.out e);clear e
 go_wp2_with fail
 go_ret;exact⟨Z1 hor.out.symm,rfl⟩
 ·have hge:n<=k:=by omega
 have hor:Hid (orN xs=0):=Za (Zs5 (by
 have:=ha.out
 rwa [Qf (by rw[hn.out];exact hge)] at this))
 go_wp2_with fail
 go_ret;exact⟨Z1 hor.out.symm,rfl⟩
theorem Zdz (a b:Ky) (w:Qal) :
 Qas Tryz.prog 56 #[kyV a,kyV b] w fun e w'=>e=.returned (.bool (Zo a b))/\Qat w.heap.size w w':=by
 have hfin:=Za (Z7y a b);obtain⟨ak,ai,ao⟩:=a;obtain⟨bk,bi,bo⟩:=b;unfold kyV
 dsimp only at hfin ⊢
 generalize Zo (ak,ai,ao) (bk,bi,bo)=res at hfin ⊢;obtain⟨p,hp⟩:∃ p:Int,(ak.toNat:Int)=p:=⟨_,rfl⟩
 obtain⟨q,hq⟩:∃ q:Int,(bk.toNat:Int)=q:=⟨_,rfl⟩
 rw[hp,hq] at hfin ⊢;clear hp hq;obtain⟨w1,hw1,f1,f2,f3,hs1,hB1,_⟩:=Xa w (.int .u8 p) (.int .u32 ai) (.int .u32 ao) 37;obtain⟨w2,hw2,g1,g2,g3,hs2,hB2,_⟩:=Xa w1 (.int .u8 q) (.int .u32 bi) (.int .u32 bo) 37;have hB:=Za (hB1.trans (hB2.mono hB1.size));have k1:=(hB2.cell (p:=⟨w.heap.size,0,none⟩) (show w.heap.size<_ by omega)).trans f1;have k2:=(hB2.cell (p:=⟨w.heap.size,1,none⟩) (show w.heap.size<_ by omega)).trans f2;have k3:=(hB2.cell (p:=⟨w.heap.size,2,none⟩) (show w.heap.size<_ by omega)).trans f3;have lt1:w.heap.size<w2.heap.size:=by omega
 have lt2:w1.heap.size<w2.heap.size:=by omega
 have i1:=Za (Zq8 p q);have i2:=Za (Zq8 ai bi);have i3:=Za (Zq8 ao bo);obtain⟨c1,h1⟩:∃ c,Zsk p q=c:=⟨_,rfl⟩
 obtain⟨c2,h2⟩:∃ c,Zsk ai bi=c:=⟨_,rfl⟩
 obtain⟨c3,h3⟩:∃ c,Zsk ao bo=c:=⟨_,rfl⟩
 rw[h1] at i1 hfin;rw[h2] at i2 hfin;rw[h3] at i3 hfin;replace h1:=Za h1;replace h2:=Za h2;replace h3:=Za h3;obtain⟨c,hc⟩:∃ c,orN [c1,c2,c3]=c:=⟨_,rfl⟩
 rw[hc] at hfin;replace hc:=Za hc;clear f1 f2 f3 hB1 hB2;replace hs1:=Za hs1;replace hs2:=Za hs2
 go_enter Tryz.func56,Tryz.ntmps56
 go_upto_region 1 with fail
 clear hw1 hw2
 refine wp_region_fx (by kernel_rfl) (fun W=>Qat w2.heap.size w2 W) (fun i=>match i with
 | 15=>some (fun v W=>Zok (Old W) W [v] [c1,c2,c3])
 | _=>none) (fun i=>match i with
 | 4=>some (.int .i64 c1)
 | 9=>some (.int .i64 c2)
 | 14=>some (.int .i64 c3)
 | 16=>some (.int .i64 c)
 | _=>none) (by kernel_rfl) (Qb _ _).drew (fun w w' h hb=>h.trans (hb.mono h.size)) ?tst ?_
 case tst =>
 intro j φ x W W' hp hx hb
 match j,hp with
 | 15,hp=>cases hp;exact Zyg.old hx hb
 repeat (first
 | (refine wpAs_skip rfl ?_;simp only[Qa,Zb,Zc,Zd])
 | (refine wpAs_pure (v := ?_) rfl rfl ?_ ?_;rotate_left;(intro W hC hE;clear hE;(have z1:=(hC.cell (p:=⟨w.heap.size,0,none⟩) lt1).trans k1;have z2:=(hC.cell (p:=⟨w1.heap.size,0,none⟩) lt2).trans g1);clear hC;go_simp;first | done | with_reducible rfl);simp only[Qa,Zb,Zc,Zd]))
 refine wpAs_fixed rfl rfl rfl ?_ ?_
 ·intro W hC hE
 refine does_enter (f:=96) (args:=#[.int .u8 p,.int .u8 q]) ?_ ?_
 ·go_simp
 ·refine(Z5g p q W).mono ?_
 rintro e w' ⟨rfl,rfl⟩;rw[h1.out];have hg:=Qb W.heap.size W;exact⟨_,rfl,rfl,hg⟩;simp only[Qa,Zb,Zc,Zd]
 repeat (first
 | (refine wpAs_skip rfl ?_;simp only[Qa,Zb,Zc,Zd])
 | (refine wpAs_pure (v := ?_) rfl rfl ?_ ?_;rotate_left;(intro W hC hE;clear hE;(have z1:=(hC.cell (p:=⟨w.heap.size,1,none⟩) lt1).trans k2;have z2:=(hC.cell (p:=⟨w1.heap.size,1,none⟩) lt2).trans g2);clear hC;go_simp;first | done | with_reducible rfl);simp only[Qa,Zb,Zc,Zd]))
 refine wpAs_fixed rfl rfl rfl ?_ ?_
 ·intro W hC hE
 refine does_enter (f:=97) (args:=#[.int .u32 ai,.int .u32 bi]) ?_ ?_
 ·go_simp
 ·refine(Zou ai bi W).mono ?_
 rintro e w' ⟨rfl,rfl⟩;rw[h2.out];have hg:=Qb W.heap.size W;exact⟨_,rfl,rfl,hg⟩;simp only[Qa,Zb,Zc,Zd]
 repeat (first
 | (refine wpAs_skip rfl ?_;simp only[Qa,Zb,Zc,Zd])
 | (refine wpAs_pure (v := ?_) rfl rfl ?_ ?_;rotate_left;(intro W hC hE;clear hE;(have z1:=(hC.cell (p:=⟨w.heap.size,2,none⟩) lt1).trans k3;have z2:=(hC.cell (p:=⟨w1.heap.size,2,none⟩) lt2).trans g3);clear hC;go_simp;first | done | with_reducible rfl);simp only[Qa,Zb,Zc,Zd]))
 refine wpAs_fixed rfl rfl rfl ?_ ?_
 ·intro W hC hE
 refine does_enter (f:=97) (args:=#[.int .u32 ao,.int .u32 bo]) ?_ ?_
 ·go_simp
 ·refine(Zou ao bo W).mono ?_
 rintro e w' ⟨rfl,rfl⟩;rw[h3.out];have hg:=Qb W.heap.size W;exact⟨_,rfl,rfl,hg⟩;simp only[Qa,Zb,Zc,Zd];refine wpAs_act rfl rfl ?_ ?_
 ·intro W hC hE
 clear hE
 have hl:=Za (Zmf W 3 [c1,c2,c3] #[.int .i64 c1,.int .i64 c2,.int .i64 c3] rfl (by simp) (fun x hx=>by
 simp at hx;rcases hx with rfl | rfl | rfl
 ·exact i1.out
 ·exact i2.out
 ·exact i3.out))
 clear hC
 go_simp
 exact⟨hl.out,(Qb _ _).alloc (Qc _) _⟩;simp only[Qa,Zb,Zc,Zd,envAdd];intro x20;refine wpAs_fixed rfl rfl rfl ?_ ?_
 ·intro W hC hE
 have y20:=hE.1 rfl;refine does_enter (f:=95) (args:=#[x20]) ?_ ?_
 ·clear hE hC
 obtain⟨_,_,e,_⟩:=Zg2 y20;cases e;clear y20
 go_simp
 ·refine(Zze x20 _ W y20).mono ?_
 rintro e w' ⟨rfl,rfl⟩;rw[hc.out];exact⟨_,rfl,rfl,Qb _ _⟩;simp only[Qa,Zb,Zc,Zd]
 repeat (first
 | (refine wpAs_skip rfl ?_;simp only[Qa,Zb,Zc,Zd])
 | (refine wpAs_pure (v := ?_) rfl rfl ?_ ?_;rotate_left;(intro W hC hE;clear hE;skip;clear hC;go_simp;first | done | with_reducible rfl);simp only[Qa,Zb,Zc,Zd]))
 refine wpAs_end fun W hC hE => ?_
 clear hE
 go_wp2
 go_ret;exact⟨Ym (by rw[<- hfin.out]),hB.out.trans (hC.mono hB.out.size)⟩
theorem Z4i (s:It) (n:Nat) (hn:s.2.2.length=n):(s.2.1=0/\n<=12/\Zbn s=true)\/(s.2.1=0/\12<n/\Zbn s=false)\/(s.2.1≠0/\s.2.1<8/\Zbn s=false)\/(s.2.1≠0/\¬ s.2.1<8/\256<=s.2.1/\Zbn s=false)\/(s.2.1≠0/\¬ s.2.1<8/\¬ 256<=s.2.1/\n<=12/\Zbn s=true)\/(s.2.1≠0/\¬ s.2.1<8/\¬ 256<=s.2.1/\12<n/\Zbn s=false):=by{
subst hn;cases e:Zbn s with
| true =>
have:=Zaj e;simp only[and_true,reduceCtorEq,and_false,or_false,false_or];omega
| false =>
have:¬ ((s.2.1=0\/(8<=s.2.1/\s.2.1<256))/\s.2.2.length<=12):=fun h=>by rw[Zr6 h] at e;cases e
simp only[and_true,reduceCtorEq,and_false,false_or];omega}
theorem Za1 (v:Qam) (s:It) (w:Qal) (h:Itm (Old w) w v s):Qas Tryz.prog 73 #[v] w fun e w'=>e=.returned (.int .i64 (Z4n s))/\Qat w.heap.size w w':=by{
obtain⟨A,c,rfl,_,l1,m1,_⟩:=h.open;obtain⟨n,hn⟩:∃ n,s.2.2.length=n:=⟨_,rfl⟩
have hw:=Z4i s n hn;unfold itV;rw[hn] at l1 ⊢;obtain⟨w0,hw0,f1,f2,f3,f4,f5,hs0,hB0,_⟩:=Z8 w (.int .u8 (s.1.1.toNat:Int)) (.int .u32 s.1.2.1) (.int .u32 s.1.2.2) (.int .i64 s.2.1) (.slice A n c) 54;clear f1 f2 f3 hs0 hn h;have HB0:=Za hB0;clear hB0;obtain⟨r,hr⟩:∃ r,s.2.1=r:=⟨_,rfl⟩
rw[hr] at hw f4 ⊢;rw[hr] at hw0;clear hr;rcases hw with ⟨rfl,h1,hm⟩ | ⟨rfl,h1,hm⟩ | ⟨h0,h1,hm⟩ | ⟨h0,h1,h2,hm⟩ | ⟨h0,h1,h2,h3,hm⟩ | ⟨h0,h1,h2,h3,hm⟩
·have hc:=Za (Zdt hm)
have i1:¬ (12:Int)<n:=by omega
clear hm;rw[hc.out]
go_enter Tryz.func73,Tryz.ntmps73
go_upto_region 1 with fail
clear hw0
go_wp2_with fail
go_ret;exact⟨rfl,HB0.out⟩
·have hc:=Za (Zat hm)
have i1:(12:Int)<n:=by omega
clear hm;rw[hc.out]
go_enter Tryz.func73,Tryz.ntmps73
go_upto_region 1 with fail
clear hw0
go_wp2_with fail
go_ret;exact⟨rfl,HB0.out⟩
·have hc:=Za (Zat hm)
have t0:(r != 0)=true:=by simpa using h0
have t1:(r==0)=false:=by simpa using h0
clear h0;clear hm;rw[hc.out]
go_enter Tryz.func73,Tryz.ntmps73
go_upto_region 1 with fail
clear hw0
go_wp2_with fail
go_ret;exact⟨rfl,HB0.out⟩
·have hc:=Za (Zat hm)
have t0:(r != 0)=true:=by simpa using h0
have t1:(r==0)=false:=by simpa using h0
clear h0;clear hm;rw[hc.out]
go_enter Tryz.func73,Tryz.ntmps73
go_upto_region 1 with fail
clear hw0
go_wp2_with fail
go_ret;exact⟨rfl,HB0.out⟩
·have hc:=Za (Zdt hm)
have t0:(r != 0)=true:=by simpa using h0
have t1:(r==0)=false:=by simpa using h0
have i4:¬ (12:Int)<n:=by omega
clear h0;clear hm;rw[hc.out]
go_enter Tryz.func73,Tryz.ntmps73
go_upto_region 1 with fail
clear hw0
go_wp2_with fail
go_ret;exact⟨rfl,HB0.out⟩
·have hc:=Za (Zat hm)
have t0:(r != 0)=true:=by simpa using h0
have t1:(r==0)=false:=by simpa using h0
have i4:(12:Int)<n:=by omega
clear h0;clear hm;rw[hc.out]
go_enter Tryz.func73,Tryz.ntmps73
go_upto_region 1 with fail
clear hw0
go_wp2_with fail
go_ret;exact⟨rfl,HB0.out⟩}
theorem Z40 {W:Qal} {g:Nat} {a b c d e u:Qam} {t:Qap} (h:W.heap[g]? = some (.cells #[a,b,c,d,e] t (0,0))):∃ W1,W.setCell ⟨g,4,none⟩ u=W1/\W1.heap[g]? = some (.cells #[a,b,c,d,u] t (0,0))/\W.grownBy W1 (some g)/\W1.heap.size=W.heap.size :=
 ⟨_,rfl,by simp[Pz,P1,h],Yr (p:=⟨g,4,none⟩) (Xc W (some g)) rfl u,by simp⟩
theorem Z1u (v:Qam) (s:It) (w:Qal) (hbig:s.2.2.length<=1000000000) (h:Itm (Old w) w v s) :
 Qas Tryz.prog 173 #[v] w fun e w'=>∃ u,e=.returned u/\Itm (New w.heap.size w') w' u s/\Qat w.heap.size w w':=by
 obtain⟨A,c,rfl,hin,_,_,rv⟩:=h.open;obtain⟨⟨a1,a2,a3⟩,a4,a5⟩:=s;unfold itV
 dsimp only at *
 obtain⟨w1,hw1,f1,f2,f3,f4,f5,hs1,hB1,b1⟩:=Z8 w (.int .u8 (a1.toNat:Int)) (.int .u32 a2) (.int .u32 a3) (.int .i64 a4) (.slice A a5.length c) 54;obtain⟨w2,hw2,_,_,_,_,_,hs2,hB2,b2⟩:=Z8 w1 (.int .u8 0) (.int .u32 0) (.int .u32 0) (.int .i64 0) (.slice none 0 0) 54;have hB:=hB1.trans (hB2.mono hB1.size);have lt1:w.heap.size<w1.heap.size:=by omega
 have lt2:w1.heap.size<w2.heap.size:=by omega
 have b1':=Za ((hB2.block w.heap.size lt1).trans b1);have k5:=(hB2.cell (p:=⟨w.heap.size,4,none⟩) lt1).trans f5;have xv:=Za (Zf.old rv hB);clear f1 f2 f3 f4 f5 h rv hB1 hB2 b1;replace hB:=Za hB;replace hs1:=Za hs1;replace hs2:=Za hs2;replace b2:=Za b2;replace hw2:=Za hw2;replace hbig:=Za hbig
 go_enter Tryz.func173,Tryz.ntmps173
 go_upto_region 1 with fail
 rw[hw2.out];clear hw1 hw2
 go_wp2_with fail
 with_reducible refine(Zar _ a5 _ (by have:=hbig.out;omega) xv.out).mono ?_;rintro e w3 ⟨u,rfl,hu,hb3⟩;have lt3:w2.heap.size<=w3.heap.size:=hb3.size;have c1:=(hb3.block w.heap.size (by omega)).trans b1'.out;have c2:=(hb3.block w1.heap.size (by omega)).trans b2.out;obtain⟨k0,k1,k2,k3,_,kf,_⟩:=Zs c1;obtain⟨w4,hw4,d1,gr4,gs4⟩:=Z40 (u:=u) c1;obtain⟨l0,l1,l2,l3,l4,_,_⟩:=Zs d1;have d2:=(gr4.block w1.heap.size (by omega) (by simp;omega)).trans c2;obtain⟨W9,hW9,g9,gr9,gs9⟩:=Uy (u0:=.int .u8 (a1.toNat:Int)) (u1:=.int .u32 a2) (u2:=.int .u32 a3) (u3:=.int .i64 a4) (u4:=u) d2;obtain⟨m0,m1,m2,m3,m4,_,_⟩:=Zs g9;obtain⟨n0,n1,n2,n3,n4,nf,_⟩:=Zs d2;have B3:=hB.out.trans (hb3.mono hB.out.size);have B4:=B3.grown gr4 B3.size (fun q e=>by cases e;omega);have B9:=Za (B4.grown gr9 B4.size (fun q e=>by cases e;omega))
 have hfin:Hid (Itm (New w.heap.size W9) W9 (.agg #[.int .u8 (a1.toNat:Int),.int .u32 a2,.int .u32 a3,.int .i64 a4,u]) ((a1,a2,a3),a4,a5)):=Za ⟨u,rfl,hin,by
 have h1:=Zf.grown hu gr4 (fun q e=>by cases e;omega);have h2:=Zf.grown h1 gr9 (fun q e=>by cases e;omega)
 exact Zf.mono h2 (by omega)⟩
 obtain⟨_,_,rfl,_⟩:=id (Zt hu);clear c1 c2 d1 d2 g9 gr4 gr9 hu B3 B4 hb3 lt3;replace hs1:=Za lt1;replace hs2:=Za lt2;clear lt1 lt2
 go_wp2_with fail
 exact Qaq (v:=.agg #[.int .u8 (a1.toNat:Int),.int .u32 a2,.int .u32 a3,.int .i64 a4,.slice _ _ _]) (by simp[results,Tryz.results173,go_sem,m0,m1,m2,m3,m4]) rfl ⟨_,rfl,hfin.out,B9.out⟩
def Zej (b:List UInt8):Nat:=(b[11]?.getD 0).toNat
theorem Z0u (b:List UInt8):Zej b<256:=(b[11]?.getD 0).toNat_lt
def okC (b:List UInt8):Bool:=decide (12+Zej b<=b.length)
def Z7u (b:List UInt8):List UInt8:=if okC b then (b.drop 12).take (Zej b) else []
def Zve (b:List UInt8):Int:=if okC b then 0 else 8
def Vo (b:List UInt8):It:=((b[0]?.getD 0,gv 4 b 1,gv 4 b 5),gv 2 b 9,(b.drop 12).take (Zej b))
def Zvq (b:List UInt8):It:=if okC b then Vo b else Zer
theorem Ze6 {b:List UInt8} (h:okC b=true):12+Zej b<=b.length:=by simpa [okC] using h
theorem Yan {b:List UInt8} (h:okC b=false):¬ 12+Zej b<=b.length:=by simpa [okC] using h
theorem Zk6 (b:List UInt8):InI (Vo b):=⟨⟨Z59 _ _,Z59 _ _⟩,Ybd _ _⟩
theorem Zkj {b:List UInt8} (h:okC b=true):(Vo b).2.2.length=Zej b:=by
 have:=Ze6 h;simp[Vo];omega
def okR (b:List UInt8):Bool:=okC b&&Zbn (Zvq b)
def itR (b:List UInt8):It:=if okR b then Vo b else Zer
def itN (b:List UInt8):Int:=if okR b then (12+Zej b:Int) else 0
def itE (b:List UInt8):Int:=if okR b then 0 else 8
theorem Zva {ok:Qan->Prop} {w:Qal} {ad:Qan} {n c:Nat} {b:List UInt8} (h:rBy ok w [.slice (some ad) n c] b) (k m cap:Nat) (hk:k+m<=b.length) (hm:m<=cap) (hc:cap<=9223372036854775807):rBy ok w [.slice (some (ad.add k)) m cap] ((b.drop k).take m):=by{
obtain⟨A,c',e,_,_,h4⟩:=h;cases e;have hl:((b.drop k).take m).length=m:=by simp;omega
refine⟨some (ad.add k),cap,by rw[hl],by rw[hl];exact hm,hc,fun i x hi => ?_⟩;have him:i<m:=by rw[<- hl];exact(Qi.1 hi).1
have hi':b[k+i]? = some x:=by
rw[List.getElem?_take_of_lt him,Pm] at hi;exact hi;obtain⟨ad',vs,e1,e2,e3,e4⟩:=h4 (k+i) x hi';cases e1;refine⟨ad.add k,vs,rfl,e2,fun j v hj => ?_,e4⟩;have:=e3 j v hj;rw[Zm9,show k+(i*1+j)=(k+i)*1+j by omega];exact this}
theorem Zac (ok:Qan->Prop) (w:Qal) (A:Option Qan):rBy ok w [.slice A 0 0] []:=⟨A,0,rfl,by simp,by omega,fun i x h=>by simp at h⟩
theorem Z8s (ok:Qan->Prop) (v:Qam) (b:List UInt8) (w:Qal) (h:rBy ok w [v] b) :
 Qas Tryz.prog 192 #[v] w fun e w'=>∃ u,e=.returned (.tuple #[u,.int .i64 (Zve b)])/\rBy ok w' [u] (Z7u b)/\w=w':=by
 obtain⟨A,c,rfl,l1,m1,hy⟩:=Zt h;obtain⟨n,hn⟩:∃ n,b.length=n:=⟨_,rfl⟩
 have hcn:=Z0u b;cases hok:okC b with
 | false =>
 have hno:=Yan hok;have hE:=Za (show Zve b=8 by simp[Zve,hok]);have hV:=Za (show Z7u b=[] by simp[Z7u,hok]);rw[hE.out,hV.out];by_cases h12:n<12
 ·have i1:(n:Int)<12:=by omega
 rw[hn] at l1 ⊢;clear hok hno hn hy h
 go_enter Tryz.func192,Tryz.ntmps192
 go_wp2_with fail
 go_ret2
 exact⟨_,rfl,Zac _ _ _,rfl⟩
 ·obtain⟨ad,rfl,_,hc⟩:=hy 11 (by omega)
 have h11:w.cell? ⟨ad.block,ad.off+11,none⟩=some (.int .u8 (Zej b:Int)):=by simpa [Addr.add,Zej] using hc
 obtain⟨k,hk⟩:∃ k,Zej b=k:=⟨_,rfl⟩
 rw[hk] at h11 hno hcn;rw[hn] at l1 hno ⊢;have i1:¬ (n:Int)<12:=by omega
 have i2:(n:Int)<12+k:=by omega
 clear hok hno hn hy h hc hk
 go_enter Tryz.func192,Tryz.ntmps192
 go_wp2_with fail
 go_ret2
 exact⟨_,rfl,Zac _ _ _,rfl⟩
 | true =>
 have hyes:=Ze6 hok;have hE:=Za (show Zve b=0 by simp[Zve,hok]);have hV:=Za (show Z7u b=(b.drop 12).take (Zej b) by simp[Z7u,hok]);rw[hE.out,hV.out];obtain⟨ad,rfl,_,hc⟩:=hy 11 (by omega);have h11:w.cell? ⟨ad.block,ad.off+11,none⟩=some (.int .u8 (Zej b:Int)):=by simpa [Addr.add,Zej] using hc
 obtain⟨k,hk⟩:∃ k,Zej b=k:=⟨_,rfl⟩
 rw[hk] at h11 hyes hcn ⊢;rw[hn] at l1 hyes ⊢;have i1:¬ (n:Int)<12:=by omega
 have i2:¬ (n:Int)<12+k:=by omega
 clear hok hE hV hc;rcases Pd k with h0 | h0
 ·subst h0
 rw[Qx]
 go_enter Tryz.func192,Tryz.ntmps192
 go_wp2_with fail
 go_ret2
 exact⟨_,rfl,Zac _ _ _,rfl⟩
 ·have hfin:Hid (rBy ok w [.slice (some ⟨ad.block,ad.off+12,none⟩) k k] ((b.drop 12).take k)):=Za (by
 have h1:ad.add 12=⟨ad.block,ad.off+12,none⟩:=by simp[Addr.add]
 have h2:=Zva h 12 k k (by omega) (Qc _) (by omega)
 rwa [h1] at h2)
 have h0':¬ k=0:=by omega
 clear hy h hn hk
 go_enter Tryz.func192,Tryz.ntmps192
 go_wp2_with fail
 go_ret2
 exact⟨_,rfl,hfin.out,rfl⟩
theorem Ya5 {a b c:Int} (ha:a=0\/a=8) (hb:b=0\/b=8) (hc:c=0\/c=8):orN [a,b,c,8]=8:=by
 rcases ha with rfl | rfl <;> rcases hb with rfl | rfl <;> rcases hc with rfl | rfl <;> rfl
theorem Zqn (m n:Nat) (k:Int):ge m n k=0\/ge m n k=8:=by
 unfold ge;split
 ·exact Or.inl rfl
 ·exact Or.inr rfl
theorem Zsa {e:Int} (h:e=0\/e=8):Zjg e:=by
 rcases h with rfl | rfl <;> exact⟨by decide,by decide⟩
theorem Zr1 (ok:Qan->Prop) (v:Qam) (b:List UInt8) (w:Qal) (hok0:∀ p,ok p->p.block<w.heap.size) (h:rBy ok w [v] b) :
 Qas Tryz.prog 172 #[v] w fun e w'=>∃ u,e=.returned (.tuple #[u,.int .i64 (Zve b)])/\Itm ok w' u (Zvq b)/\Qat w.heap.size w w':=by
 obtain⟨A,c,rfl,l1,m1,hy⟩:=Ve (B:=w.heap.size) hok0 h;obtain⟨n,hn⟩:∃ n,b.length=n:=⟨_,rfl⟩
 have hin:=Za (Zk6 b);have HO:=Za hok0;have hhead:okC b=true->∃ ad,A=some ad/\Old w ad/\w.cell? ad=some (.int .u8 ((b[0]?.getD 0).toNat:Int)):=fun hk=>by
 have:=Ze6 hk;obtain⟨ad,rfl,hb,hc⟩:=hy (by omega);exact⟨ad,rfl,hb,by have:=hc 0 (by omega);simpa [Addr.add] using this⟩;replace hhead:=Za hhead;have hF:Hid (Zvq b=if okC b then Vo b else Zer):=Za rfl;have hE:Hid (Zve b=if okC b then 0 else 8):=Za rfl;have hV:Hid (Z7u b=if okC b then (b.drop 12).take (Zej b) else []):=Za rfl;have hg1:=Zqn 4 n 1;have hg2:=Zqn 4 n 5;have hg3:=Zqn 2 n 9
 have hgy:Hid (okC b=true->ge 4 n 1=0/\ge 4 n 5=0/\ge 2 n 9=0):=Za (fun hk=>by
 have:=Ze6 hk
 exact⟨Zor (by omega),Zor (by omega),Zor (by omega)⟩)
 rw[hn] at l1 h ⊢;have HL:=Za hn;have HY:=Za hy;have HV:=Za h;obtain⟨w0,hw0,_,_,_,_,_,hs0,hB0,b0⟩:=Z8 w (.int .u8 0) (.int .u32 0) (.int .u32 0) (.int .i64 0) (.slice none 0 0) 54;have lt0:w.heap.size<w0.heap.size:=by omega
 have HB0:=Za hB0;replace b0:=Za b0;replace hw0:=Za hw0;obtain⟨x0,hx0⟩:∃ x,b[0]?.getD 0=x:=⟨_,rfl⟩
 obtain⟨x1,hx1⟩:∃ x,gv 4 b 1=x:=⟨_,rfl⟩
 obtain⟨x2,hx2⟩:∃ x,gv 4 b 5=x:=⟨_,rfl⟩
 obtain⟨x3,hx3⟩:∃ x,gv 2 b 9=x:=⟨_,rfl⟩
 obtain⟨e1,he1⟩:∃ x,ge 4 n 1=x:=⟨_,rfl⟩
 obtain⟨e2,he2⟩:∃ x,ge 4 n 5=x:=⟨_,rfl⟩
 obtain⟨e3,he3⟩:∃ x,ge 2 n 9=x:=⟨_,rfl⟩
 rw[hx0] at hhead;rw[he1] at hg1 hgy;rw[he2] at hg2 hgy;rw[he3] at hg3 hgy;have hFE:=Za (show Vo b=((x0,x1,x2),x3,(b.drop 12).take (Zej b)) by rw[<- hx0,<- hx1,<- hx2,<- hx3];rfl);replace hx0:=Za hx0;replace hx1:=Za hx1;replace hx2:=Za hx2;replace hx3:=Za hx3;replace he1:=Za he1;replace he2:=Za he2;replace he3:=Za he3;replace hg1:=Za hg1;replace hg2:=Za hg2;replace hg3:=Za hg3;clear hB0 hs0 h hy hn hok0
 go_enter Tryz.func172,Tryz.ntmps172
 go_upto_region 1 with fail
 rw[hw0.out];clear hw0
 go_wp2_with fail
 with_reducible refine(Zio _ n c 1 b HL l1 m1 _ ((HY.out.below HB0.out).more HB0.out.size)).mono ?_;rintro f1 w1 ⟨rfl,hb1⟩;rw[he1.out,hx1.out];have B1:=Za (HB0.out.trans (hb1.mono HB0.out.size));have C1:=Za hb1;clear hb1
 go_wp2_with fail
 with_reducible refine(Zio _ n c 5 b HL l1 m1 _ ((HY.out.below B1.out).more B1.out.size)).mono ?_;rintro f2 w2 ⟨rfl,hb2⟩;rw[he2.out,hx2.out];have B2:=Za (B1.out.trans (hb2.mono B1.out.size));have C2:=Za (C1.out.trans (hb2.mono C1.out.size));clear hb2
 go_wp2_with fail
 with_reducible refine(Zvw _ n c 9 b HL l1 m1 _ ((HY.out.below B2.out).more B2.out.size)).mono ?_;rintro f3 w3 ⟨rfl,hb3⟩;rw[he3.out,hx3.out];have B3:=Za (B2.out.trans (hb3.mono B2.out.size));have C3:=Za (C2.out.trans (hb3.mono C2.out.size));clear hb3
 go_wp2_with fail
 have hv3:Hid (rBy ok w3 [.slice A n c] b):=Za (Zf _ _ _ _ _ _ (fun p v hp hc=>⟨hp,(B3.out.cell (HO.out p hp)).trans hc⟩) HV.out);with_reducible refine(Z8s ok _ b _ hv3.out).mono ?_;rintro f4 w4 ⟨u,rfl,hu,rfl⟩;cases hok:okC b with
 | false =>
 have hq:=Za (show Zve b=8 by rw[hE.out,hok];rfl);have hz:=Za (show Zvq b=Zer by rw[hF.out,hok];rfl);rw[hq.out];obtain⟨w6,hw6,h6⟩:∃ w6,w3.alloc (.cells #[.int .i64 e1,.int .i64 e2,.int .i64 e3,.int .i64 8] 33)=w6/\Zok (Old w6) w6 [.slice (some ⟨w3.heap.size,0,none⟩) 4 4] [e1,e2,e3,8] :=
 ⟨_,rfl,Zmf w3 33 [e1,e2,e3,8] _ rfl (by simp) (fun x hx=>by
 simp at hx;rcases hx with rfl | rfl | rfl | rfl
 ·exact Zsa hg1.out
 ·exact Zsa hg2.out
 ·exact Zsa hg3.out
 ·exact⟨by decide,by decide⟩)⟩
 have b6:Qat w3.heap.size w3 w6:=by rw[<- hw6];exact(Qb _ _).alloc (Qc _) _
 have B6:=Za (B3.out.trans (b6.mono B3.out.size));have C6:=Za (C3.out.trans (b6.mono C3.out.size));have hor:=Za (Ya5 hg1.out hg2.out hg3.out);replace h6:=Za h6;replace hok:=Za hok;obtain⟨_,_,rfl,_⟩:=id (Zt hu);clear b6 hu
 go_wp2_with fail
 with_reducible refine(Z5v _ [e1,e2,e3,8] _ h6.out).mono ?_;rintro f7 w7 ⟨rfl,rfl⟩;rw[hor.out];clear hw6;have b9:=(C6.out.block w.heap.size lt0).trans b0.out;obtain⟨W9,hW9,g9,gr9,gs9⟩:=Uy (u0:=.int .u8 0) (u1:=.int .u32 0) (u2:=.int .u32 0) (u3:=.int .i64 0) (u4:=.slice none 0 0) b9;obtain⟨k0,k1,k2,k3,k4,_,_⟩:=Zs g9;obtain⟨a0,a1,a2,a3,a4,af,_⟩:=Zs b9;have B9:=Za (B6.out.grown gr9 B6.out.size (fun q e=>by cases e;omega));replace b9:=Za b9;clear g9 gr9
 go_wp2_with fail
 exact Qaq (v:=.tuple #[.agg #[.int .u8 0,.int .u32 0,.int .u32 0,.int .i64 0,.slice none 0 0],.int .i64 8]) (by simp[results,Tryz.results172,go_sem,k0,k1,k2,k3,k4]) rfl ⟨_,Zlz hq.out.symm,by rw[hz.out];exact Zee _ _,B9.out⟩
 | true =>
 have hq:=Za (show Zve b=0 by rw[hE.out,hok];rfl);have hz:=Za (show Zvq b=Vo b by rw[hF.out,hok];rfl);have hv:=Za (show Z7u b=(b.drop 12).take (Zej b) by rw[hV.out,hok];rfl);obtain⟨rfl,rfl,rfl⟩:=hgy.out hok;obtain⟨ad,rfl,Zbj,hcell⟩:=hhead.out hok;rw[hq.out];rw[hv.out] at hu;obtain⟨L,hL⟩:∃ L,(b.drop 12).take (Zej b)=L:=⟨_,rfl⟩
 rw[hL] at hu;have hFL:=hFE.out;rw[hL] at hFL;replace hFL:=Za hFL;replace hL:=Za hL;obtain⟨w6,hw6,h6⟩:∃ w6,w3.alloc (.cells #[.int .i64 0,.int .i64 0,.int .i64 0,.int .i64 0] 33)=w6/\Zok (Old w6) w6 [.slice (some ⟨w3.heap.size,0,none⟩) 4 4] [0,0,0,0] :=
 ⟨_,rfl,Zmf w3 33 [0,0,0,0] _ rfl (by simp) (fun x hx=>by
 simp at hx;subst hx
 exact⟨by decide,by decide⟩)⟩
 have b6:Qat w3.heap.size w3 w6:=by rw[<- hw6];exact(Qb _ _).alloc (Qc _) _
 have B6:=Za (B3.out.trans (b6.mono B3.out.size));have C6:=Za (C3.out.trans (b6.mono C3.out.size));have hor:Hid (orN [0,0,0,0]=0):=Za rfl;have hu6:Hid (rBy ok w6 _ L):=Za (Zf _ _ _ _ _ _ (fun p v hp hc=>⟨hp,(b6.cell (Qd (HO.out p hp) B3.out.size)).trans hc⟩) hu);have hn0:=Ze6 hok;have hnn:0<n:=by have:=HL.out;omega
 replace h6:=Za h6;replace hok:=Za hok;obtain⟨D,dc,rfl,_⟩:=id (Zt hu);clear b6 hu hn0
 go_wp2_with fail
 with_reducible refine(Z5v _ [0,0,0,0] _ h6.out).mono ?_;rintro f7 w7 ⟨rfl,rfl⟩;rw[hor.out];clear hw6;have c0:=(B6.out.cell Zbj).trans hcell;have b9:=(C6.out.block w.heap.size lt0).trans b0.out;obtain⟨W9,hW9,g9,gr9,gs9⟩:=Uy (u0:=.int .u8 (x0.toNat:Int)) (u1:=.int .u32 x1) (u2:=.int .u32 x2) (u3:=.int .i64 x3) (u4:=.slice D L.length dc) b9;obtain⟨k0,k1,k2,k3,k4,_,_⟩:=Zs g9;obtain⟨a0,a1,a2,a3,a4,af,_⟩:=Zs b9;have B9:=Za (B6.out.grown gr9 B6.out.size (fun q e=>by cases e;omega))
 have hfin:Hid (Itm ok W9 (.agg #[.int .u8 (x0.toNat:Int),.int .u32 x1,.int .u32 x2,.int .i64 x3,.slice D L.length dc]) (Zvq b)):=Za (by
 have h2:=hin.out;rw[hFL.out] at h2;rw[hz.out,hFL.out];refine⟨_,rfl,h2,Zf _ _ _ _ _ _ (fun p v hp hc=>⟨hp,?_⟩) hu6.out⟩;have hb:=gr9.block p.block (Qd (HO.out p hp) B6.out.size) (fun e=>by have h1:=Option.some.inj e;have h2:p.block<w.heap.size:=HO.out p hp;omega)
 exact(Qr hb).trans hc)
 replace b9:=Za b9;replace Zbj:=Za Zbj;clear g9 gr9 hcell
 go_wp2_with fail
 exact Qaq (v:=.tuple #[.agg #[.int .u8 (x0.toNat:Int),.int .u32 x1,.int .u32 x2,.int .i64 x3,.slice D L.length dc],.int .i64 0]) (by simp[results,Tryz.results172,go_sem,k0,k1,k2,k3,k4]) rfl ⟨_,Zlz hq.out.symm,hfin.out,B9.out⟩
theorem Zfj (b:Bool):b=false\/b=true:=by cases b <;> simp
theorem Zk7 {b:List UInt8} (h:okR b=true):okC b=true/\Zbn (Zvq b)=true:=by simpa [okR] using h
theorem Zvv (v:Qam) (b:List UInt8) (w:Qal) (h:rBy (Old w) w [v] b) :
 Qas Tryz.prog 148 #[v] w fun e w'=>∃ u,e=.returned (.tuple #[u,.int .i64 (itN b),.int .i64 (itE b)])/\Itm (New w.heap.size w') w' u (itR b)/\Qat w.heap.size w w':=by
 obtain⟨A,c,rfl,_⟩:=id (Zt h);obtain⟨n,hn⟩:∃ n,b.length=n:=⟨_,rfl⟩
 have hE:Hid (itE b=if okR b then 0 else 8):=Za rfl;have hN:Hid (itN b=if okR b then (12+Zej b:Int) else 0):=Za rfl;have hR:Hid (itR b=if okR b then Vo b else Zer):=Za rfl;have hO:Hid (okR b=(okC b&&Zbn (Zvq b))):=Za rfl;obtain⟨w0,hw0,_,_,_,_,_,hs0,hB0,b0⟩:=Z8 w (.int .u8 0) (.int .u32 0) (.int .u32 0) (.int .i64 0) (.slice none 0 0) 54;have lt0:w.heap.size<w0.heap.size:=by omega
 have HV:Hid (rBy (Old w) w0 [.slice A b.length c] b):=Za (Zf _ _ _ _ _ _ (fun p v hp hc=>⟨hp,(hB0.cell hp).trans hc⟩) h);have HB0:=Za hB0;replace b0:=Za b0;replace hw0:=Za hw0;rw[hn] at HV ⊢;replace hn:=Za hn;clear hB0 hs0 h
 go_enter Tryz.func148,Tryz.ntmps148
 go_upto_region 1 with fail
 rw[hw0.out];clear hw0
 go_wp2_with fail
 with_reducible refine(Zr1 (Old w) _ b _ (fun p hp=>Q7 hp lt0) HV.out).mono ?_;rintro f1 w1 ⟨u,rfl,hu,hb1⟩;have B1:=Za (HB0.out.trans (hb1.mono HB0.out.size));have C1:=Za hb1;have b1:=(hb1.block w.heap.size lt0).trans b0.out;have lt1:w.heap.size<w1.heap.size:=Qd lt0 hb1.size;have hF:Hid (Zvq b=if okC b then Vo b else Zer):=Za rfl;obtain⟨s,hs⟩:∃ s,Zvq b=s:=⟨_,rfl⟩
 rw[hs] at hu hO hF;replace hs:=Za hs;have hin:=hu.open;obtain⟨D,dc,rfl,hin,d1,d2,hu2⟩:=hin;obtain⟨W2,hW2,g2,gr2,gs2⟩:=Uy (u0:=.int .u8 (s.1.1.toNat:Int)) (u1:=.int .u32 s.1.2.1) (u2:=.int .u32 s.1.2.2) (u3:=.int .i64 s.2.1) (u4:=.slice D s.2.2.length dc) b1;obtain⟨a0,a1,a2,a3,a4,af,_⟩:=Zs b1;obtain⟨k0,k1,k2,k3,k4,kf,_⟩:=Zs g2;have B2:=Za (B1.out.grown gr2 B1.out.size (fun q e=>by cases e;omega))
 have hu3:Hid (Itm (Old w) W2 (itV s (.slice D s.2.2.length dc)) s):=Za (by
 refine⟨_,rfl,hin,Zf _ _ _ _ _ _ (fun p v hp hc=>⟨hp,?_⟩) hu2⟩
 exact(Qr (gr2.block p.block (Q7 hp lt1) (fun e=>by have h1:=Option.some.inj e;have h2:p.block<w.heap.size:=hp;omega))).trans hc)
 have hfinB:∀ (W:Qal),Qat W2.heap.size W2 W->okR b=false->∃ W9:Qal,(((((W.setCell ⟨w.heap.size,0,none⟩ (.int .u8 0)).setCell ⟨w.heap.size,1,none⟩ (.int .u32 0)).setCell ⟨w.heap.size,2,none⟩ (.int .u32 0)).setCell ⟨w.heap.size,3,none⟩ (.int .i64 0)).setCell ⟨w.heap.size,4,none⟩ (.slice none 0 0))=W9 /\
 W9.heap[w.heap.size]? = some (.cells #[.int .u8 0,.int .u32 0,.int .u32 0,.int .i64 0,.slice none 0 0] 54 (0,0))/\Hid (itE b=8/\itN b=0/\itR b=Zer/\Qat w.heap.size w W9):=fun W hW hno=>by
 obtain⟨W9,hW9,g9,gr9,gs9⟩:=Uy (u0:=.int .u8 0) (u1:=.int .u32 0) (u2:=.int .u32 0) (u3:=.int .i64 0) (u4:=.slice none 0 0) ((hW.block w.heap.size (by omega)).trans g2);have B:=B2.out.trans (hW.mono B2.out.size);exact⟨W9,hW9,g9,Za ⟨by rw[hE.out,hno];rfl,by rw[hN.out,hno];rfl,by rw[hR.out,hno];rfl,B.grown gr9 B.size (fun q e=>by cases e;omega)⟩⟩;replace hfinB:=Za hfinB;replace b1:=Za b1;replace g2:=Za g2;replace gs2:=Za gs2;replace gr2:=Za gr2;clear hu hu2 hb1;rcases Zfj (okC b) with hok | hok
 ·skip
 have hq:=Za (show Zve b=8 by simp[Zve,hok]);have hno:okR b=false:=by simp[okR,hok]
 obtain⟨W9,hW9,g9,hz⟩:=hfinB.out W2 (Qb _ _) hno;obtain⟨m0,m1,m2,m3,m4,_,_⟩:=Zs g9;rw[hq.out];replace hok:=Za hok;replace hno:=Za hno;replace g9:=Za g9
 go_wp2_with fail
 exact Qaq (v:=.tuple #[.agg #[.int .u8 0,.int .u32 0,.int .u32 0,.int .i64 0,.slice none 0 0],.int .i64 0,.int .i64 8]) (by simp[results,Tryz.results148,go_sem,m0,m1,m2,m3,m4]) rfl ⟨_,by rw[hz.out.1,hz.out.2.1],by rw[hz.out.2.2.1];exact Zee _ _,hz.out.2.2.2⟩
 ·skip
 have hq:=Za (show Zve b=0 by simp[Zve,hok]);have hsf:=Za (show s=Vo b by rw[hF.out,hok];rfl);have hcl:s.2.2.length=Zej b:=by rw[hsf.out];exact Zkj hok
 have hcn:=Z0u b;rw[hq.out];have hO2:=Za (show okR b=Zbn s by rw[hO.out,hok];rfl);replace hok:=Za hok;replace hcl:=Za hcl
 go_wp2_with fail
 with_reducible refine(Za1 _ s _ (hu3.out.map fun p v hp hc=>⟨Q7 hp (by have:=gs2.out;have:=C1.out.size;omega),hc⟩)).mono ?_;rintro f2 w3 ⟨rfl,hb3⟩;have C3:=Za hb3;have lt2:w.heap.size<W2.heap.size:=by have:=gs2.out;omega
 have b3:=(hb3.block w.heap.size lt2).trans g2.out;obtain⟨q0,q1,q2,q3,q4,qf,_⟩:=Zs b3;clear k0 k1 k2 k3 k4 kf;have B3:=Za (B2.out.trans (hb3.mono B2.out.size));rcases Zfj (Zbn s) with hm | hm
 ·skip
 obtain⟨W9,hW9,g9,hz⟩:=hfinB.out w3 C3.out (by rw[hO2.out,hm]);obtain⟨m0,m1,m2,m3,m4,_,_⟩:=Zs g9;have hck:=Za (Zat hm);rw[hck.out];replace hm:=Za hm;replace g9:=Za g9;replace b3:=Za b3;clear hb3
 go_wp2_with fail
 exact Qaq (v:=.tuple #[.agg #[.int .u8 0,.int .u32 0,.int .u32 0,.int .i64 0,.slice none 0 0],.int .i64 0,.int .i64 8]) (by simp[results,Tryz.results148,go_sem,m0,m1,m2,m3,m4]) rfl ⟨_,by rw[hz.out.1,hz.out.2.1],by rw[hz.out.2.2.1];exact Zee _ _,hz.out.2.2.2⟩
 ·skip
 have hck:=Za (Zdt hm);have hyes:okR b=true:=by rw[hO2.out,hm]
 have hE9:=Za (show itE b=0 by rw[hE.out,hyes];rfl);have hN9:=Za (show itN b=12+s.2.2.length by rw[hN.out,hyes,hcl.out];rfl);have hR9:=Za (show itR b=s by rw[hR.out,hyes,hsf.out];rfl);have h12:s.2.2.length<=12:=(Zaj hm).2
 have hu4:Hid (Itm (Old w3) w3 (itV s (.slice D s.2.2.length dc)) s):=Za (hu3.out.map fun p v hp hc=>by
 have h1:p.block<W2.heap.size:=Q7 hp (by have:=gs2.out;have:=C1.out.size;omega)
 exact⟨Qd h1 hb3.size,(hb3.cell h1).trans hc⟩)
 have lt3:w.heap.size<w3.heap.size:=Qd lt2 hb3.size;rw[hck.out];replace hm:=Za hm;replace hyes:=Za hyes;replace b3:=Za b3;clear hb3 a0 a1 a2 a3 a4 af
 go_wp2_with fail
 have HT:Hid (∀ W,Qat w3.heap.size w3 W->Qas Tryz.prog 173 #[itV s (.slice D s.2.2.length dc)] W fun e w'=>∃ X xc,e=.returned (itV s (.slice X s.2.2.length xc))/\Itm (New w3.heap.size w') w' (itV s (.slice X s.2.2.length xc)) s/\Qat w3.heap.size w3 w'):=Za fun W hC=>by
 refine(Z1u _ s W (by omega) (hu4.out.below hC)).mono ?_;rintro e W' ⟨x,rfl,hx,hb⟩;obtain⟨X,xc,rfl,_⟩:=id hx.open;exact⟨X,xc,rfl,hx.map fun p v hp hc=>⟨⟨Qj hC.size hp.1,hp.2⟩,hc⟩,hC.trans (hb.mono hC.size)⟩;have hdr:Qat w3.heap.size w3 w3.drew:=(Qb _ _).drew;have hwr:IntKind.i64.wrap (12+(s.2.2.length:Int))=12+s.2.2.length:=by rw[IntKind.wrap_i64];omega
 go_region_with (first
 | (go_at_call 173;refine(HT.out _ hdr).mono ?_;rintro e' wm ⟨X,xc,rfl,hx,hw⟩;have bW:=(hw.block w.heap.size lt3).trans b3.out;obtain⟨c0,c1,c2,c3,c4,cf,_⟩:=Zs bW))
 all_goals
 (go_wp2_with fail
  obtain⟨W9,hW9,g9,gr9,gs9⟩:=Uy (u0:=.int .u8 (s.1.1.toNat:Int)) (u1:=.int .u32 s.1.2.1) (u2:=.int .u32 s.1.2.2) (u3:=.int .i64 s.2.1) (u4:=.slice X s.2.2.length xc) bW;obtain⟨m0,m1,m2,m3,m4,_,_⟩:=Zs g9;rw[hW9];have BW:=B3.out.trans (hw.mono B3.out.size)
  exact Qaq (v:=.tuple #[.agg #[.int .u8 (s.1.1.toNat:Int),.int .u32 s.1.2.1,.int .u32 s.1.2.2,.int .i64 s.2.1,.slice X s.2.2.length xc],.int .i64 (12+s.2.2.length),.int .i64 0]) (by simp[results,Tryz.results148,go_sem,m0,m1,m2,m3,m4]) rfl ⟨_,by rw[hE9.out,hN9.out],by
  rw[hR9.out]
  exact(hx.grown gr9 (fun q e=>by cases e;omega)).map fun p v hp hc=>⟨⟨Qj B3.out.size hp.1,hp.2⟩,hc⟩,BW.grown gr9 BW.size (fun q e=>by cases e;omega)⟩)
theorem Z87 (m:Nat) (n:Int) (xs ys:List UInt8) (k:Nat) (hk:xs.length=k) (h0:0<=n) (h1:n<256 ^ m):gv m (xs++(le m n++ys)) k=n:=by
 have h:=Zpl (m:=m) (xs:=xs++(le m n++ys)) (k:=(k:Int)) ⟨by omega,by simp[Yp,hk];omega⟩;rw[h];have e:(k:Int).toNat=xs.length:=by omega
 rw[e,P4,Pi (Yp m n)];exact Z5q m n h0 h1
theorem Zr7 (s:It) (xs:List UInt8) (h:s.2.2.length<=12):Zej (itB s++xs)=s.2.2.length:=by
 have e:(itB s++xs)[11]? = some (UInt8.ofNat s.2.2.length):=by
 have:itB s++xs=([s.1.1]++(le 4 s.1.2.1++(le 4 s.1.2.2++le 2 s.2.1)))++(UInt8.ofNat s.2.2.length::(s.2.2++xs)):=by simp[itB]
 rw[this,Qt (by simp[Yp])];simp[Yp];unfold Zej;rw[e];simp only[Option.getD_some,UInt8.toNat_ofNat'];omega
theorem Zwe (s:It) (xs:List UInt8) (hi:InI s) (h:Zbn s=true):Vo (itB s++xs)=s:=by{
obtain⟨hr,hl⟩:=Zaj h;obtain⟨⟨⟨i0,i1⟩,⟨o0,o1⟩⟩,_⟩:=hi;obtain⟨⟨k,i,o⟩,r,v⟩:=s
dsimp only at *
have e0:(itB ((k,i,o),r,v)++xs)[0]?.getD 0=k:=by simp[itB]
have e1:gv 4 (itB ((k,i,o),r,v)++xs) 1=i:=by
have:itB ((k,i,o),r,v)++xs=[k]++(le 4 i++(le 4 o++(le 2 r++([UInt8.ofNat v.length]++(v++xs))))):=by simp[itB]
rw[this];exact Z87 4 i [k] _ 1 rfl i0 (by simpa using i1);have e2:gv 4 (itB ((k,i,o),r,v)++xs) 5=o:=by
have:itB ((k,i,o),r,v)++xs=([k]++le 4 i)++(le 4 o++(le 2 r++([UInt8.ofNat v.length]++(v++xs)))):=by simp[itB]
rw[this];exact Z87 4 o ([k]++le 4 i) _ 5 (by simp[Yp]) o0 (by simpa using o1);have e3:gv 2 (itB ((k,i,o),r,v)++xs) 9=r:=by
have:itB ((k,i,o),r,v)++xs=([k]++(le 4 i++le 4 o))++(le 2 r++([UInt8.ofNat v.length]++(v++xs))):=by simp[itB]
rw[this];exact Z87 2 r ([k]++(le 4 i++le 4 o)) _ 9 (by simp[Yp]) (by omega) (by simp;omega);have e4:((itB ((k,i,o),r,v)++xs).drop 12).take (Zej (itB ((k,i,o),r,v)++xs))=v:=by
rw[Zr7 ((k,i,o),r,v) xs hl];have:itB ((k,i,o),r,v)++xs=([k]++(le 4 i++(le 4 o++(le 2 r++[UInt8.ofNat v.length]))))++(v++xs):=by simp[itB]
rw[this,show (12:Nat)=([k]++(le 4 i++(le 4 o++(le 2 r++[UInt8.ofNat v.length])))).length by simp[Yp],P4];exact Pi rfl;unfold Vo;rw[e0,e1,e2,e3,e4]}
theorem Z7i (m:Nat) (b:List UInt8) (k:Nat) (h:k+m<=b.length):le m (gv m b k)=(b.drop k).take m:=by
 rw[Zpl (k:=(k:Int)) ⟨by omega,by omega⟩,show (k:Int).toNat=k by omega];have hl:((b.drop k).take m).length=m:=by simp;omega
 have:=Zzu ((b.drop k).take m)
 rwa [hl] at this
theorem Z57 (b:List UInt8) (k:Nat) (h:k<b.length):(b.drop k).take 1=[b[k]?.getD 0]:=by
 rw[Pk h,Qe h];rfl
theorem Zs2 {b:List UInt8} (h:okR b=true):∃ n:Nat,itN b=n/\n<=b.length/\Zbn (itR b)=true/\itB (itR b)=b.take n:=by{
obtain⟨h1,h2⟩:=Zk7 h;have h3:=Ze6 h1;have hR:itR b=Vo b:=by rw[itR,h,if_pos rfl]
have hf:Zvq b=Vo b:=by rw[Zvq,h1,if_pos rfl]
rw[hf] at h2;refine⟨12+Zej b,by rw[itN,h,if_pos rfl];simp,h3,by rw[hR];exact h2,?_⟩;rw[hR];have l0:=Z57 b 0 (by omega);rw[Qq] at l0;have l1:=Z57 b 11 (by omega);have hlen:((b.drop 12).take (Zej b)).length=Zej b:=by simp;omega
have hc:UInt8.ofNat (Zej b)=b[11]?.getD 0:=by unfold Zej;simp
have g1:=Z7i 4 b 1 (by omega);have g2:=Z7i 4 b 5 (by omega);have g3:=Z7i 2 b 9 (by omega);have ht:b.take (12+Zej b)=b.take 1++((b.drop 1).take 4++((b.drop 5).take 4++((b.drop 9).take 2++((b.drop 11).take 1++(b.drop 12).take (Zej b))))):=by
have q:∀ (j m n:Nat),(b.drop j).take m++(b.drop (j+m)).take n=(b.drop j).take (m+n):=fun j m n=>by
 rw[<- List.drop_drop,List.take_add]
rw[q 11 1,q 9 2,q 5 4,q 1 4];have:=q 0 1 (4+(4+(2+(1+Zej b))));rw[Qq,Qv] at this;rw[this]
congr 1
omega;rw[ht,l0,l1];unfold itB Vo
dsimp only
rw[hlen,hc];have c1:((1:Nat):Int)=1:=rfl;have c5:((5:Nat):Int)=5:=rfl;have c9:((9:Nat):Int)=9:=rfl;rw[c1] at g1;rw[c5] at g2;rw[c9] at g3;rw[g1,g2,g3]}
def Ybz (g:Nat) (a b c:Qam):Qal->Prop:=fun w=>w.cell? ⟨g,0,none⟩=some a/\w.cell? ⟨g,1,none⟩=some b/\w.cell? ⟨g,2,none⟩=some c/\g<w.heap.size
theorem Zlg (g:Nat) (a b c:Qam):Zf3 (Ybz g a b c):=fun _ _ h hb=>⟨(hb.cell (p:=⟨g,0,none⟩) h.2.2.2).trans h.1,(hb.cell (p:=⟨g,1,none⟩) h.2.2.2).trans h.2.1,(hb.cell (p:=⟨g,2,none⟩) h.2.2.2).trans h.2.2.1,Qd h.2.2.2 hb.size⟩
theorem Zr3 {w w1:Qal} {Fs:List (Qal->Prop)} (h:Bag w Fs) (hb:Qat w.heap.size w w1) (a b c:Qam):∃ w',w1.alloc (.cells #[a,b,c] 37)=w'/\Bag w' (Ybz w1.heap.size a b c::Fs)/\Qat w.heap.size w w'/\Qat w1.heap.size w1 w'/\w1.heap.size<w'.heap.size:=by
 obtain⟨w2,e2,k1,k2,k3,k4,k5,_⟩:=Xa w1 a b c 37;exact⟨w2,e2,((h.below hb).below k5).add ⟨k1,k2,k3,by omega⟩ (Zlg _ _ _ _),hb.trans (k5.mono hb.size),k5,by omega⟩
theorem Z5f {w w1:Qal} {Fs:List (Qal->Prop)} (h:Bag w Fs) (hb:Qat w.heap.size w w1) (a b c d e:Qam):∃ w',w1.alloc (.cells #[a,b,c,d,e] 54)=w'/\Bag w' (Ycc w1.heap.size a b c d e::Fs)/\Qat w.heap.size w w'/\Qat w1.heap.size w1 w'/\w1.heap.size<w'.heap.size:=by
 obtain⟨w2,e2,k1,k2,k3,k4,k5,k6,k7,_⟩:=Z8 w1 a b c d e 54;exact⟨w2,e2,((h.below hb).below k7).add ⟨k1,k2,k3,k4,k5,by omega⟩ (Zw2 _ _ _ _ _ _),hb.trans (k7.mono hb.size),k7,by omega⟩
theorem Xi (a:Ky):Zo a a=false:=by simp[Zo]
theorem Vt {a b:Ky} (h:Zo a b=true):Zo b a=false:=by{
unfold Zo at *;by_cases h1:a.1.toNat=b.1.toNat
·rw[if_neg (by simpa using h1)] at h
rw[if_neg (by simpa using h1.symm)];by_cases h2:a.2.1=b.2.1
·rw[if_neg (by simpa using h2)] at h
 rw[if_neg (by simpa using h2.symm)];simp at h ⊢;omega
·rw[if_pos h2] at h
 rw[if_pos (fun e=>h2 e.symm)];simp at h ⊢;omega
·rw[if_pos h1] at h
rw[if_pos (fun e=>h1 e.symm)];simp at h ⊢;omega}
theorem Zb8 {a b:Ky} (h:a≠b) (h':Zo a b=false):Zo b a=true:=by{
unfold Zo at *;by_cases h1:a.1.toNat=b.1.toNat
·rw[if_neg (by simpa using h1)] at h'
rw[if_neg (by simpa using h1.symm)];by_cases h2:a.2.1=b.2.1
·rw[if_neg (by simpa using h2)] at h'
 rw[if_neg (by simpa using h2.symm)];have h3:a.2.2≠b.2.2:=fun e=>h (Prod.ext (UInt8.toNat.inj h1) (Prod.ext h2 e))
 simp at h' ⊢;omega
·rw[if_pos h2] at h'
 rw[if_pos (fun e=>h2 e.symm)];simp at h' ⊢;omega
·rw[if_pos h1] at h'
rw[if_pos (fun e=>h1 e.symm)];simp at h' ⊢;omega}
theorem Zgk {a b:Ky} (h:Zo a b=true):a.1.toNat<b.1.toNat\/(a.1.toNat=b.1.toNat/\(a.2.1<b.2.1\/(a.2.1=b.2.1/\a.2.2<b.2.2))):=by{
unfold Zo at h;by_cases h1:a.1.toNat=b.1.toNat
·rw[if_neg (by simpa using h1)] at h
by_cases h2:a.2.1=b.2.1
·rw[if_neg (by simpa using h2)] at h
 exact Or.inr ⟨h1,Or.inr ⟨h2,by simpa using h⟩⟩
·rw[if_pos h2] at h
 exact Or.inr ⟨h1,Or.inl (by simpa using h)⟩
·rw[if_pos h1] at h
exact Or.inl (by simpa using h)}
theorem Z9g {a b:Ky} (h:a.1.toNat<b.1.toNat\/(a.1.toNat=b.1.toNat/\(a.2.1<b.2.1\/(a.2.1=b.2.1/\a.2.2<b.2.2)))):Zo a b=true:=by{
cases e:Zo a b with
| true=>rfl
| false =>
by_cases hab:a=b
·subst hab;omega
·have:=Zgk (Zb8 hab e)
 omega}
theorem Yo {a b c:Ky} (h:Zo a b=true) (h':Zo b c=true):Zo a c=true:=by
 have h1:=Zgk h;have h2:=Zgk h';exact Z9g (by omega)
end Go.Proofs.YtgmbjnajdfgenaaGreat
namespace Go.Proofs.YtgmbjnajdfgenaaGreat
open Go.ChangeShapes Go.WideShapes Go.RowKit
abbrev Nd:=Int×List It
def U5:Rel (List It):=rSl 5 rIt
theorem Yz:Ze2 U5:=Uf Z0
def Nod (ok:Qan->Prop) (w:Qal) (v:Qam) (n:Nd):Prop:=∃ d,v=.agg #[.int .i64 n.1,d]/\Zjg n.1/\U5 ok w [d] n.2
section
variable {ok ok' : Qan -> Prop} {w w' : Qal} {v : Qam} {n : Nd} {lo lo' : Nat}
theorem Nod.map (hk:∀ p v,ok p->w.cell? p=some v->ok' p/\w'.cell? p=some v) (h:Nod ok w v n):Nod ok' w' v n:=by
 obtain⟨d,e,h1,h2⟩:=h;exact⟨d,e,h1,Yz _ _ _ _ _ _ hk h2⟩
theorem Ztu {d:Qam} {xs:List It} (h:U5 ok w [d] xs):∃ A c,d=.slice A xs.length c/\xs.length<=c/\c<=9223372036854775807:=by
 obtain⟨A,c,e,h1,h2,_⟩:=h;exact⟨A,c,by simpa using e,h1,h2⟩
theorem Nod.open (h:Nod ok w v n):∃ A c,v=.agg #[.int .i64 n.1,.slice A n.2.length c]/\Zjg n.1/\n.2.length<=c/\c<=9223372036854775807/\U5 ok w [.slice A n.2.length c] n.2:=by
 obtain⟨d,rfl,h1,h2⟩:=h;obtain⟨A,c,rfl,h3,h4⟩:=Ztu h2;exact⟨A,c,rfl,h1,h3,h4,h2⟩
end
theorem Z1o (ok:Qan->Prop) (w:Qal):U5 ok w [.slice none 0 0] []:=⟨none,0,rfl,by simp,by omega,fun i x h=>by simp at h⟩
def Ug:Nd:=(0,[])
theorem Z6r (ad:Qan) (n j:Nat):ad.add (n+(j+1))=⟨(ad.add n).block,(ad.add n).off+(j+1),none⟩:=by{
unfold Addr.add;rw[if_neg (by omega)];by_cases h:n=0
·subst h
simp
·rw[if_neg h]
simp[P5]}
structure At5 (w:Qal) (p:Qan) (s:It) (d:Qam):Prop where
 c0:w.cell? p=some (.int .u8 (s.1.1.toNat:Int))
 c1:w.cell? ⟨p.block,p.off+1,none⟩=some (.int .u32 s.1.2.1)
 c2:w.cell? ⟨p.block,p.off+2,none⟩=some (.int .u32 s.1.2.2)
 c3:w.cell? ⟨p.block,p.off+3,none⟩=some (.int .i64 s.2.1)
 c4:w.cell? ⟨p.block,p.off+4,none⟩=some d
theorem U7 {ok:Qan->Prop} {w:Qal} {A:Option Qan} {n c k:Nat} {xs:List It} {s:It} (h:U5 ok w [.slice A n c] xs) (hk:xs[k]? = some s) :
 ∃ ad E ce,A=some ad/\(∀ j,j<5->ok (ad.add (k*5+j)))/\At5 w (ad.add (k*5)) s (.slice E s.2.2.length ce)/\Itm ok w (itV s (.slice E s.2.2.length ce)) s/\s.2.2.length<=ce/\ce<=9223372036854775807/\InI s:=by
 obtain⟨_,_,e,_,_,h4⟩:=h;cases e;obtain⟨ad,vs,rfl,e5,q,r⟩:=h4 k s hk;obtain⟨d,rfl,hin,hd⟩:=Ztm r;obtain⟨E,ce,rfl,l1,l2,_⟩:=id (Zt hd);have q0:=q 0 _ rfl;have t1:=q 1 _ rfl;have t2:=q 2 _ rfl;have t3:=q 3 _ rfl;have t4:=q 4 _ rfl;refine⟨ad,E,ce,rfl,fun j hj => ?_,?_,⟨_,rfl,hin,hd⟩,l1,l2,hin⟩
 ·rcases(by omega:j=0\/j=1\/j=2\/j=3\/j=4) with rfl | rfl | rfl | rfl | rfl
 ·exact q0.1
 ·exact t1.1
 ·exact t2.1
 ·exact t3.1
 ·exact t4.1
 ·have u1:=t1.2
 have u2:=t2.2;have u3:=t3.2;have u4:=t4.2;rw[Z6r] at u1 u2 u3 u4;exact⟨q0.2,u1,u2,u3,u4⟩
theorem V4 {w:Qal} {A:Option Qan} {n c k:Nat} {xs:List It} {s:It} (h:U5 (Old w) w [.slice A n c] xs) (hk:xs[k]? = some s) :
 ∃ ad E ce,A=some ad/\s.2.2.length<=ce/\ce<=9223372036854775807/\InI s/\∀ W,Qat w.heap.size w W->At5 W (ad.add (k*5)) s (.slice E s.2.2.length ce)/\Itm (Old W) W (itV s (.slice E s.2.2.length ce)) s:=by
 obtain⟨ad,E,ce,rfl,_,h5,hi,l1,l2,hin⟩:=U7 h hk;exact⟨ad,E,ce,rfl,l1,l2,hin,fun W hW=>⟨h5.below hW,hi.below hW⟩⟩
def Zg3 (s:It):Bool:=decide (s.2.1≠0)&&decide (s.2.2.length=0)
def okP (l:Int) (x:It):Bool:=Zbn x&&(decide (l<=0)||Zg3 x)
def Zkh (n:Nd) (i:Nat):Bool:=match n.2[i]? with
 | none=>true
 | some x=>okP n.1 x&&(match i with
 | 0=>true
 | j+1=>match n.2[j]? with
 | none=>true
 | some p=>Zo p.1 x.1)
def Zpu (n:Nd):Bool:=(decide (0<=n.1)&&decide (n.1<6))&&decide (n.2.length<=5)&&(decide (n.1<=0)||decide (0<n.2.length))
def Yd (n:Nd):Bool:=Zpu n&&(List.range n.2.length).all (Zkh n)
def Z2d (n:Nd):Int:=if Yd n then 0 else 8
theorem Zpc {n:Nd} (h:Zpu n=true):0<=n.1/\n.1<6/\n.2.length<=5/\(0<n.1->0<n.2.length):=by
 simp only[Zpu,Qg,P7,decide_eq_true_eq] at h;omega
theorem Z05 {n:Nd} (h:0<=n.1/\n.1<6/\n.2.length<=5/\(0<n.1->0<n.2.length)):Zpu n=true:=by
 simp only[Zpu,Qg,P7,decide_eq_true_eq];omega
theorem Zwx {n:Nd} (h:¬ (0<=n.1/\n.1<6/\n.2.length<=5/\(0<n.1->0<n.2.length))):Yd n=false:=by{
cases e:Yd n with
| false=>rfl
| true =>
simp only[Yd,Qg] at e;exact absurd (Zpc e.1) h}
theorem Z75 {n:Nd} {k:Nat} (hk:k<n.2.length) (h:Zkh n k=false):Yd n=false:=by{
cases e:Yd n with
| false=>rfl
| true =>
simp only[Yd,Qg,Qk] at e;have:=e.2 k (by simpa using hk);rw[h] at this;cases this}
theorem Zyz {n:Nd} (h:0<=n.1/\n.1<6/\n.2.length<=5/\(0<n.1->0<n.2.length)) (h2:∀ i,i<n.2.length->Zkh n i=true):Yd n=true:=by
 simp only[Yd,Qg,Qk];exact⟨Z05 h,fun x hx=>h2 x (by simpa using hx)⟩
theorem Zw {n:Nd} (h:Yd n=true):(0<=n.1/\n.1<6/\n.2.length<=5/\(0<n.1->0<n.2.length))/\∀ i,i<n.2.length->Zkh n i=true:=by
 simp only[Yd,Qg,Qk] at h;exact⟨Zpc h.1,fun i hi=>h.2 i (by simpa using hi)⟩
theorem Zj9 {n:Nd} {x:It} (hx:n.2[0]? = some x):Zkh n 0=okP n.1 x:=by unfold Zkh;rw[hx];simp
theorem Zfw {n:Nd} {k:Nat} {x p:It} (hx:n.2[k+1]? = some x) (hp:n.2[k]? = some p):Zkh n (k+1)=(okP n.1 x&&Zo p.1 x.1):=by
 unfold Zkh;simp only[hx,hp]
theorem Zl7 {n:Nd} {k:Nat} {x:It} (hx:n.2[k]? = some x) (h:okP n.1 x=false):Zkh n k=false:=by
 unfold Zkh;simp only[hx,h,Bool.false_and]
theorem Zj2 {n:Nd} (h:Yd n=true) {k:Nat} {x y:It} (hx:n.2[k]? = some x) (hy:n.2[k+1]? = some y):Zo x.1 y.1=true:=by
 have:=(Zw h).2 (k+1) (Qi.1 hy).1;rw[Zfw hy hx,Qg] at this;exact this.2
theorem Zaz {n:Nd} (h:Yd n=true):∀ {k j:Nat} {x y:It},k<j->n.2[k]? = some x->n.2[j]? = some y->Zo x.1 y.1=true:=by{
intro k j x y hkj
induction j generalizing y with
| zero=>omega
| succ j ih =>
intro hx hy;rcases Qs k j with h1 | h1
·have hjl:j<n.2.length:=by have:=(Qi.1 hy).1;omega
 exact Yo (ih h1 hx (Qe hjl)) (Zj2 h (Qe hjl) hy)
·have:k=j:=by omega
 subst this;exact Zj2 h hx hy}
theorem Zrv {n:Nd} (h:Yd n=true):Z2d n=0:=by simp[Z2d,h]
theorem Zh5 {n:Nd} (h:Yd n=false):Z2d n=8:=by simp[Z2d,h]
def Zdc (l:List It):List UInt8:=(l.map itB).flatten
theorem Zo2 (l:List It) (x:It):Zdc (l++[x])=Zdc l++itB x:=by simp[Zdc]
def Zwk (n:Nd):List UInt8:=[78,UInt8.ofNat n.1.toNat,UInt8.ofNat n.2.length]
def Zci (n:Nd):List UInt8:=Zwk n++Zdc n.2
def Vd (n:Nd):List UInt8:=Zdk (Zci n)
theorem Zlo (a:Int) (w:Qal):Qas Tryz.prog 151 #[.int .u8 a] w fun e w'=>e=.returned (.bool (a != 0))/\w=w':=by
 go_enter Tryz.func151,Tryz.ntmps151
 go_wp2_with fail
 go_ret;exact⟨rfl,rfl⟩
def Z51 (b:List UInt8):Int:=match b.findIdx? (· ≠ 0) with
 | none => -1
 | some k=>k
theorem Z8m {b:List UInt8} {k:Nat} (hk:k<b.length) (ha:∀ j,j<k->b[j]?.getD 0=0) (h:b[k]?.getD 0≠0):Z51 b=k:=by{
have e:b.findIdx? (· ≠ 0)=some k:=by
rw[P8];refine⟨hk,by simpa [Qe hk] using h,fun j hj => ?_⟩;have:=ha j hj
simpa [Qe (show j<b.length by omega)] using this
unfold Z51;rw[e]}
theorem Z08 {b:List UInt8} (ha:∀ j,j<b.length->b[j]?.getD 0=0):Z51 b = -1:=by{
have e:b.findIdx? (· ≠ 0)=none:=by
rw[P9];intro x hx;obtain⟨j,hj,rfl⟩:=Pn.1 hx;have:=ha j hj
simpa [Qe hj] using this
unfold Z51;rw[e]}
def Uz (b:List UInt8):Bool:=b.all (· == 0)
theorem Zq6 (b:List UInt8):(!decide (0<=Z51 b))=Uz b:=by{
unfold Z51 Uz;cases e:b.findIdx? (· ≠ 0) with
| none =>
rw[P9] at e;have:(b.all fun x=>x==0)=true:=by
 rw[Qk];intro x hx
 simpa using e x hx
rw[this];simp
| some k =>
rw[P8] at e;obtain⟨hk,h1,_⟩:=e;have:(b.all fun x=>x==0)=false:=by
 rw[List.all_eq_false];exact⟨b[k],Qaa hk,by simpa using h1⟩
rw[this];simp}
theorem Zxp (A:Option Qan) (n c:Nat) (b:List UInt8) (hn:Hid (b.length=n)) (l1:n<=c) (m1:c<=9223372036854775807) (w:Qal) (h:Byt w w.heap.size A b) :
 Qas Tryz.prog 174 #[.slice A n c,.func (.func 151) #[] #[]] w fun e w'=>e=.returned (.int .i64 (Z51 b))/\w=w':=by
 have HY:=Za h;clear h
 go_enter Tryz.func174,Tryz.ntmps174
 go_wp2_with fail
 go_loop [8] (fun i=>∃ k:Nat,k<=n/\i=.int .i64 k/\∀ j,j<k->b[j]?.getD 0=0) (fun i=>n-(intOf i).toNat)
 case atStart=>exact⟨0,by omega,rfl,fun j hj=>by omega⟩
 case round =>
 obtain⟨k,hk,rfl,ha⟩:=hrel;replace ha:=Za ha;by_cases hlt:k<n
 ·obtain⟨ad,rfl,_,hc⟩:=HY.out (by rw[hn.out];omega)
 replace hc:=hc k (by rw[hn.out];exact hlt);have hyes:=Za (fun h=>Z8m (b:=b) (k:=k) (by rw[hn.out];exact hlt) ha.out h);have hno:Hid (b[k]?.getD 0=0->∀ j,j<k+1->b[j]?.getD 0=0):=Za fun h j hj=>by
 rcases Qs j k with h1 | h1
 ·exact ha.out j h1
 ·obtain rfl:j=k:=by omega
  exact h
 obtain⟨x,hx⟩:∃ x,b[k]?.getD 0=x:=⟨_,rfl⟩
 rw[hx] at hc hyes hno;replace hx:=Za hx;by_cases h0:(x.toNat:Int)=0
 ·have t0:((x.toNat:Int) != 0)=false:=by simpa using h0
 have hall:=Za (hno.out (UInt8.toNat.inj (by simpa using h0)));replace h0:=Za h0
 go_wp2_with fail
 with_reducible refine(Zlo _ _).mono ?_;rintro e3 w3 ⟨rfl,rfl⟩;rw[t0]
 go_wp2_with fail
 go_round
 case rel=>exact⟨k+1,by omega,by go_num,hall.out⟩
 case measure=>simp[intOf];omega
 ·have t0:((x.toNat:Int) != 0)=true:=by simpa using h0
 have hr:=Za (hyes.out (fun e=>h0 (by rw[e];rfl)));replace h0:=Za h0
 go_wp2_with fail
 with_reducible refine(Zlo _ _).mono ?_;rintro e3 w3 ⟨rfl,rfl⟩;rw[t0]
 go_wp2_with fail
 go_ret;exact⟨Z1 hr.out.symm,rfl⟩
 ·have hr:=Za (Z08 (b:=b) fun j hj=>ha.out j (by have:=hn.out;omega))
 go_wp2_with fail
 go_ret;exact⟨Z1 hr.out.symm,rfl⟩
theorem Zrh (A:Option Qan) (n c:Nat) (b:List UInt8) (hn:Hid (b.length=n)) (l1:n<=c) (m1:c<=9223372036854775807) (w:Qal) (h:Byt w w.heap.size A b) :
 Qas Tryz.prog 116 #[.slice A n c] w fun e w'=>e=.returned (.bool (Uz b))/\w=w':=by
 have HY:=Za h;have hi:=Za (Zq6 b);have hx:Hid (∀ W,Byt W W.heap.size A b->Qas Tryz.prog 150 #[.slice A n c,.func (.func 151) #[] #[]] W fun e w'=>e=.returned (.bool (decide (0<=Z51 b)))/\W=w'):=Za fun W hW=>by
 have HW:=Za hW;clear hW
 go_enter Tryz.func150,Tryz.ntmps150
 go_wp2_with fail
 with_reducible refine(Zxp A n c b hn l1 m1 _ HW.out).mono ?_;rintro e3 w3 ⟨rfl,rfl⟩
 go_wp2_with fail
 go_ret;exact⟨rfl,rfl⟩;clear h
 go_enter Tryz.func116,Tryz.ntmps116
 go_wp2_with fail
 with_reducible refine(hx.out _ HY.out).mono ?_;rintro e3 w3 ⟨rfl,rfl⟩
 go_wp2_with fail
 go_ret;exact⟨Ym hi.out,rfl⟩
theorem Va:(Tryz.prog.info? 54).map (fun i=>(i.zero,i.size,i.bytes))=some (some (.agg #[.int .u8 0,.int .u32 0,.int .u32 0,.int .i64 0,.slice none 0 0]),5,48):=by kernel_rfl
theorem Ztk {w:Qal} {lo:Nat} {A:Option Qan} {c:Nat} {xs:List It} (h:Yj rIt 5 54 lo w A c xs) (g:Nat) (s:It) (d:Qam) (m n:Nat) (hn:xs.length=n) (hg:w.heap[g]? = some (.cells #[.int .u8 (s.1.1.toNat:Int),.int .u32 s.1.2.1,.int .u32 s.1.2.2,.int .i64 s.2.1,d] 54 (0,0))) (hs:n<100000) (hbase:lo<=w.heap.size) (hin:InI s) (hx:rBy (Xy lo A w) w [d] s.2.2) :
 ∃ A' c' w',(Ql #[39,39] 39 #[.slice A n c,.slice (some ⟨g,0,none⟩) 1 m]).run Tryz.prog w=.ok (.slice A' (n+1) c') w'/\Yj rIt 5 54 lo w' A' c' (xs++[s])/\w.grownBy w' (A.map (·.block))/\Qat lo w w':=by
 subst hn;obtain⟨i0,hi,hz0,hz1,hz2⟩:=info_parts Va;obtain⟨E,ce,rfl,_⟩:=id (Zt hx)
 exact Yj.push Z0 h 39 39 i0 (.agg #[.int .u8 0,.int .u32 0,.int .u32 0,.int .i64 0,.slice none 0 0]) 48 Tryz.underlying39 hi hz0 hz1 hz2 rfl (by decide) ⟨g,0,none⟩ m _ s rfl (Pu (cs:=#[.int .u8 (s.1.1.toNat:Int),.int .u32 s.1.2.1,.int .u32 s.1.2.2,.int .i64 s.2.1,.slice E s.2.2.length ce]) hg) (fun u hu=>by
 simp at hu
 rcases hu with rfl | rfl | rfl | rfl | rfl <;> rfl) (by unfold maxLen;omega) (by omega) hbase (Zs8 hin hx)
def Zaa (b:List UInt8):Nat->Option (List It×List UInt8)
 | 0=>some ([],b)
 | k+1=>match Zaa b k with
 | none=>none
 | some (l,r)=>if okR r then some (l++[itR r],r.drop (itN r).toNat) else none
theorem Zi1 {b:List UInt8} {k:Nat} {l:List It} {r:List UInt8} (h:Zaa b k=some (l,r)) (h':okR r=true):Zaa b (k+1)=some (l++[itR r],r.drop (itN r).toNat):=by
 simp only[Zaa,h,h',if_true]
theorem Zvb {b:List UInt8} {k:Nat} {l:List It} {r:List UInt8} (h:Zaa b k=some (l,r)) (h':okR r=false):Zaa b (k+1)=none:=by
 simp only[Zaa,h,h'];rfl
theorem Zw0 {b:List UInt8} {k j:Nat} (h:Zaa b k=none) (hj:k<=j):Zaa b j=none:=by{
induction j with
| zero =>
have:k=0:=by omega
rw[this] at h;exact h
| succ j ih =>
rcases Qs k (j+1) with h1 | h1
·simp only[Zaa,ih (by omega)]
·have:k=j+1:=by omega
 rw[this] at h;exact h}
theorem Zi5 {b:List UInt8}:∀ {k:Nat} {l:List It} {r:List UInt8},Zaa b k=some (l,r)->b=Zdc l++r/\l.length=k/\(∀ x∈l,Zbn x=true/\InI x)
 | 0,l,r,h=>by
 simp only[Zaa,Option.some.injEq,Prod.mk.injEq] at h;obtain⟨rfl,rfl⟩:=h;exact⟨by simp[Zdc],rfl,fun x hx=>by simp at hx⟩
 | k+1,l,r,h=>by
 cases e:Zaa b k with
 | none=>simp[Zaa,e] at h
 | some p =>
 obtain⟨l',r'⟩:=p;obtain⟨h1,h2,h3⟩:=Zi5 e;rcases Zfj (okR r') with ho | ho
 ·rw[Zvb e ho] at h
 cases h
 ·rw[Zi1 e ho] at h
 simp only[Option.some.injEq,Prod.mk.injEq] at h;obtain⟨rfl,rfl⟩:=h;obtain⟨n,e1,e2,e3,e4⟩:=Zs2 ho;have hn:(itN r').toNat=n:=by rw[e1];omega
 refine⟨?_,by simp[h2],fun x hx => ?_⟩
 ·rw[Zo2,e4,hn,Qn,Q6]
  exact h1
 ·rcases Px.1 hx with hx | hx
  ·exact h3 x hx
  ·simp at hx
  subst hx;exact⟨e3,by rw[itR,ho,if_pos rfl];exact Zk6 _⟩
def Z15 (b:List UInt8) (k:Nat):List It:=((Zaa b k).map (·.1)).getD []
def Zzs (b:List UInt8) (k:Nat):List UInt8:=((Zaa b k).map (·.2)).getD []
def Z6p (b:List UInt8) (k:Nat):Int:=if (Zaa b k).isSome then 0 else 8
theorem Zs4 {ok:Qan->Prop} {w:Qal} {ad:Qan} {n c:Nat} {b:List UInt8} (h:rBy ok w [.slice (some ad) n c] b) (k:Nat) (hk:k<=b.length):rBy ok w [.slice (some (ad.add k)) (n-k) (c-k)] (b.drop k):=by
 obtain⟨A,c',e,l1,l2,_⟩:=id h;cases e;have:=Zva h k (b.length-k) (c-k) (by omega) (by omega) (by omega)
 rwa [Qf (by simp)] at this
theorem Zr5 (v:Qam) (b:List UInt8) (many:Nat) (hm:many<256) (w:Qal) (h:rBy (Old w) w [v] b) :
 Qas Tryz.prog 114 #[v,.int .i64 many] w fun e w'=>∃ A c u,e=.returned (.tuple #[.slice A (Z15 b many).length c,u,.int .i64 (Z6p b many)])/\Yj rIt 5 54 w.heap.size w' A c (Z15 b many)/\rBy (Old w') w' [u] (Zzs b many)/\Qat w.heap.size w w':=by
 have HV:=Za h;clear h
 go_enter Tryz.func114,Tryz.ntmps114
 go_wp2_with fail
 go_loopw [0,7,12] (fun q it i wr=>∃ (k:Nat) (l:List It) (r:List UInt8) (A:Option Qan) (c:Nat),k<=many/\i=.int .i64 k/\it=.slice A k c/\l.length=k/\Zaa b k=some (l,r)/\rBy (Old w) w [q] r/\Yj rIt 5 54 w.heap.size wr A c l/\Qat w.heap.size w wr) (fun _ _ i _=>many-(intOf i).toNat)
 case atStart=>exact⟨0,[],b,none,0,by omega,rfl,rfl,rfl,rfl,HV.out,Yj.nil _ _ _ _ _,Qb _ _⟩
 case round =>
 obtain⟨k,l,r,A,c,hk,rfl,rfl,hl,hcut,hq,hrow,hb⟩:=hrel;replace hrow:=Za hrow;replace hcut:=Za hcut;replace hl:=Za hl;replace hb:=Za hb;obtain⟨Q,cq,rfl,n1,n2,_⟩:=id (Zt hq);obtain⟨nq,hnq⟩:∃ n,r.length=n:=⟨_,rfl⟩
 rw[hnq] at n1 hq ⊢;replace hnq:=Za hnq;replace hq:=Za hq;have hqr:=Za (Zf.old hq.out hb.out);by_cases hlt:k<many
 case neg =>
 have hkm:k=many:=by omega
 have hL:=Za (show Z15 b many=l by rw[<- hkm];simp[Z15,hcut.out]);have hR:=Za (show Zzs b many=r by rw[<- hkm];simp[Zzs,hcut.out]);have hF:=Za (show Z6p b many=0 by rw[<- hkm];simp[Z6p,hcut.out]);replace hkm:=Za hkm
 go_wp2_with fail
 exact Qaq (v:=.tuple #[.slice A k c,.slice Q nq cq,.int .i64 0]) (by simp[results,Tryz.results114,go_sem]) rfl ⟨A,c,_,by rw[hL.out,hF.out,hl.out],by rw[hL.out];exact hrow.out,by rw[hR.out];exact hqr.out,hb.out⟩
 go_wp2_with fail
 with_reducible refine(Zvv _ r _ hqr.out).mono ?_;rintro e3 w3 ⟨u3,rfl,hu3,hb3⟩;obtain⟨D,dc,rfl,hin,_,_,hby⟩:=id hu3.open;obtain⟨w4,hw4,s0,s1,s2,s3,s4,hs4,hb4,b4⟩:=Z8 w3 (.int .u8 ((itR r).1.1.toNat:Int)) (.int .u32 (itR r).1.2.1) (.int .u32 (itR r).1.2.2) (.int .i64 (itR r).2.1) (.slice D (itR r).2.2.length dc) 54;have C4:=Za (hb3.trans (hb4.mono hb3.size));have B4:=Za (hb.out.trans (C4.out.mono hb.out.size));have hI4:=Za (hu3.new (Qc _) hb4);obtain⟨x,hx⟩:∃ x,itR r=x:=⟨_,rfl⟩
 rw[hx] at hin s0 s1 s2 s3 s4 b4 hI4 hw4 ⊢;replace hs4:=Za hs4;replace hx:=Za hx;clear hb3 hb4 hu3 hby
 unfold itV at *
 go_upto_region 5 with fail
 clear hw4;rcases Zfj (okR r) with hok | hok
 ·have hE:=Za (show itE r=8 by simp[itE,hok])
 have hno:=Za (Zw0 (Zvb hcut.out hok) (show k+1<=many by omega));have hL:=Za (show Z15 b many=[] by simp[Z15,hno.out]);have hR:=Za (show Zzs b many=[] by simp[Zzs,hno.out]);have hF:=Za (show Z6p b many=8 by simp[Z6p,hno.out]);rw[hE.out];replace hok:=Za hok
 go_wp2_with fail
 exact Qaq (v:=.tuple #[.slice none 0 0,.slice none 0 0,.int .i64 8]) (by simp[results,Tryz.results114,go_sem]) rfl ⟨none,0,_,by rw[hL.out,hF.out];rfl,by rw[hL.out];exact Yj.nil _ _ _ _ _,by rw[hR.out];exact Zac _ _ none,B4.out⟩;have hE:=Za (show itE r=0 by simp[itE,hok]);obtain⟨m,hm1,hm2,hm3,hm4⟩:=Zs2 hok;have hyes:=Zi1 hcut.out hok;rw[hm1,show ((m:Int)).toNat=m by omega,hx.out] at hyes;have hrl:12<=nq:=by have:=Ze6 (Zk7 hok).1;have:=hnq.out;omega
 rw[hnq.out] at hm2;rw[hE.out,hm1];replace hyes:=Za hyes;replace hok:=Za hok;clear hm1 hm3 hm4;obtain⟨w5,hw5,_,_,_,_,_,hs5,hb5,b5⟩:=Z8 w4 (.int .u8 (x.1.1.toNat:Int)) (.int .u32 x.1.2.1) (.int .u32 x.1.2.2) (.int .i64 x.2.1) (.slice D x.2.2.length dc) 54;have C5:=C4.out.trans (hb5.mono C4.out.size);have hI5:=hI4.out.new (Qc _) hb5;have hx5:rBy (Xy w.heap.size A w5) w5 [.slice D x.2.2.length dc] x.2.2:=by
 obtain⟨d,e,_,hd⟩:=hI5;have ed:d=.slice D x.2.2.length dc:=by injection e with e;simpa using e.symm
 subst ed;exact Zf _ _ _ _ _ _ (fun p v hp hc=>⟨hrow.out.but (Qc _) hb.out.size hp,hc⟩) hd;have row5:=Yj.below Z0 hrow.out C5;have hb5':=hb.out.trans (C5.mono hb.out.size);have hk5:l.length<100000:=by have:=hl.out;omega
 obtain⟨A6,c6,w6,hr6,row6,_,hb6⟩:=Ztk row5 w4.heap.size x _ 1 k hl.out b5 (by omega) hb5'.size hin hx5;have B6:=Za (hb5'.trans hb6);have H6:=Za hr6;replace row6:=Za row6;have hll:=Za (show (l++[x]).length=k+1 by simp[hl.out]);obtain⟨qa,rfl⟩:∃ qa,Q=some qa:=by
 obtain⟨_,_,e,_,_,h4⟩:=Zt hq.out;cases e;obtain⟨qa,e,_⟩:=h4 0 (by have:=hnq.out;omega);exact⟨qa,e⟩;have hrest:=Za (Zs4 hq.out m (by rw[hnq.out];exact hm2));have hnil:Hid (m=nq->∀ W,rBy (Old W) W [.slice (some qa) 0 0] (r.drop m)):=Za fun e W=>by
 rw[Q3 (by rw[hnq.out];omega)];exact Zac _ _ _;replace hs5:=Za hs5;replace b5:=Za b5;replace hI5:=Za hI5;clear hr6 hb6 hx5 row5 C5 hb5 hb5' hin;by_cases hmc:m=cq
 ·have c1:(0:Int)<=(m:Int):=by omega
 have c2:(m:Int)<=cq:=by omega
 have c3:(m:Int)<=nq:=by omega
 go_wp2_with (at_builtin;refine Zp rfl _ _ _ rfl rfl rfl H6.out ?_;clear H6)
 go_roundw
 case rel=>exact⟨k+1,l++[x],r.drop m,A6,c6,by omega,by go_num,rfl,hll.out,hyes.out,hnil.out (by omega) w,row6.out,B6.out⟩
 case measure=>simp[intOf];omega
 ·have c1:(0:Int)<=(m:Int):=by omega
 have c2:(m:Int)<=cq:=by omega
 have c3:(m:Int)<=nq:=by omega
 go_wp2_with (at_builtin;refine Zp rfl _ _ _ rfl rfl rfl H6.out ?_;clear H6)
 go_roundw
 case rel=>exact⟨k+1,l++[x],r.drop m,A6,c6,by omega,by go_num,rfl,hll.out,hyes.out,hrest.out,row6.out,B6.out⟩
 case measure=>simp[intOf];omega
abbrev Iv:=It×Qam
def Zbp (p:Iv):List Qam:=[.int .u8 (p.1.1.1.toNat:Int),.int .u32 p.1.1.2.1,.int .u32 p.1.1.2.2,.int .i64 p.1.2.1,p.2]
def Zj (ps:List Iv):List Qam:=(ps.map Zbp).flatten
theorem Y0:∀ ps:List Iv,(Zj ps).length=ps.length*5
 | []=>rfl
 | p::r=>by
 have:=Y0 r;simp[Zj,Zbp] at this ⊢;omega
theorem Xh {ps:List Iv} (h:∀ p∈ps,p.2.oneCell'=true):∀ u∈Zj ps,u.oneCell'=true:=fun u hu=>by
 unfold Zj at hu;rw[List.mem_flatten] at hu;obtain⟨l,hl,hul⟩:=hu;obtain⟨p,hp,rfl⟩:=List.mem_map.1 hl;simp[Zbp] at hul;rcases hul with rfl | rfl | rfl | rfl | rfl
 ·rfl
 ·rfl
 ·rfl
 ·rfl
 ·exact h p hp
theorem Zvu (v:Qam) (s:It) (w:Qal) (h:Itm (Old w) w v s):Qas Tryz.prog 149 #[v] w fun e w'=>e=.returned (.bool (Zg3 s))/\Qat w.heap.size w w':=by{
obtain⟨A,c,rfl,_,l1,m1,_⟩:=h.open;have hw:Zg3 s=(decide (s.2.1≠0)&&decide (s.2.2.length=0)):=rfl;obtain⟨n,hn⟩:∃ n,s.2.2.length=n:=⟨_,rfl⟩
unfold itV;rw[hn] at l1 hw ⊢;obtain⟨w0,hw0,f1,f2,f3,f4,f5,hs0,hB0,_⟩:=Z8 w (.int .u8 (s.1.1.toNat:Int)) (.int .u32 s.1.2.1) (.int .u32 s.1.2.2) (.int .i64 s.2.1) (.slice A n c) 54;clear f1 f2 f3 hs0 hn h;replace hB0:=Za hB0;obtain⟨r,hr⟩:∃ r,s.2.1=r:=⟨_,rfl⟩
rw[hr] at hw f4 hw0 ⊢;clear hr;generalize Zg3 s=res at hw ⊢;replace hw:=Za hw;by_cases h0:r=0
·have t0:(r != 0)=false:=by simpa using h0
have hr:=Za (show res=false by rw[hw.out];simp[h0]);replace h0:=Za h0
go_enter Tryz.func149,Tryz.ntmps149
go_upto_region 1 with fail
clear hw0
go_wp2_with fail
go_ret;exact⟨Ym hr.out.symm,hB0.out⟩
·have t0:(r != 0)=true:=by simpa using h0
by_cases h1:n=0
·have t1:((n:Int)==0)=true:=by simp;omega
 have hr:=Za (show res=true by rw[hw.out];simp[h0,h1]);replace h0:=Za h0;replace h1:=Za h1
 go_enter Tryz.func149,Tryz.ntmps149
 go_upto_region 1 with fail
 clear hw0
 go_wp2_with fail
 go_ret;exact⟨Ym hr.out.symm,hB0.out⟩
·have t1:((n:Int)==0)=false:=by simp;omega
 have hr:=Za (show res=false by rw[hw.out];simp[h1]);replace h0:=Za h0;replace h1:=Za h1
 go_enter Tryz.func149,Tryz.ntmps149
 go_upto_region 1 with fail
 clear hw0
 go_wp2_with fail
 go_ret;exact⟨Ym hr.out.symm,hB0.out⟩}
theorem Zcn (b:Bool):b=false\/b=true:=by cases b <;> simp
theorem Zgt (v:Qam) (n:Nd) (w:Qal) (h:Nod (Old w) w v n):Qas Tryz.prog 115 #[v] w fun e w'=>e=.returned (.int .i64 (Z2d n))/\Qat w.heap.size w w':=by{
obtain⟨A,c,rfl,hin,l1,m1,hA⟩:=h.open;have hbad0:=Za (fun hh=>Zh5 (Zwx (n:=n) hh));have hbad1:Hid (∀ k,k<n.2.length->Zkh n k=false->Z2d n=8):=Za fun k hk hh=>Zh5 (Z75 hk hh)
have hgood:=Za (fun hh h2=>Zrv (Zyz (n:=n) hh h2));have HA:=Za hA;clear h hA;obtain⟨m,hm⟩:∃ m,n.2.length=m:=⟨_,rfl⟩
obtain⟨l,hl⟩:∃ l,n.1=l:=⟨_,rfl⟩
rw[hm] at l1 hbad0 hbad1 hgood HA ⊢;rw[hl] at hbad0 hgood hin ⊢;obtain⟨i1,i2⟩:=hin;replace hm:=Za hm;replace hl:=Za hl;obtain⟨w0,hw0,b0,hs0,hB0⟩:=Yc w (.int .i64 l) (.slice A m c) 81;obtain⟨f1,f2,_,lt0⟩:=Zg b0;replace hB0:=Za hB0;replace b0:=Za b0;replace hs0:=Za hs0;by_cases h1:l<0
·have hr:=Za (hbad0.out (by omega))
rw[hr.out]
go_enter Tryz.func115,Tryz.ntmps115
go_upto_region 1 with fail
clear hw0
go_wp2_with fail
go_ret;exact⟨rfl,hB0.out⟩;by_cases h2:6<=l
·have hr:=Za (hbad0.out (by omega))
rw[hr.out]
go_enter Tryz.func115,Tryz.ntmps115
go_upto_region 1 with fail
clear hw0
go_wp2_with fail
go_ret;exact⟨rfl,hB0.out⟩;by_cases h3:5<m
·have hr:=Za (hbad0.out (by omega))
have h3':(5:Int)<m:=by omega
rw[hr.out]
go_enter Tryz.func115,Tryz.ntmps115
go_upto_region 1 with fail
clear hw0
go_wp2_with fail
go_ret;exact⟨rfl,hB0.out⟩;have h3':¬ (5:Int)<m:=by omega
by_cases h4:0<l/\m=0
·have hr:=Za (hbad0.out (by omega))
obtain⟨h4a,h4b⟩:=h4;have h4c:((m:Int)==0)=true:=by simp;omega
replace h4b:=Za h4b;rw[hr.out]
go_enter Tryz.func115,Tryz.ntmps115
go_upto_region 1 with fail
clear hw0
go_wp2_with fail
go_ret;exact⟨rfl,hB0.out⟩;have hgood2:=Za (hgood.out (by omega));have hB:=Za (fun wr (hb:Qat w0.heap.size w0 wr)=>hB0.out.trans (hb.mono hB0.out.size));clear hgood hbad0;rcases(by omega:l<=0\/(0<l/\m≠0)) with h5 | ⟨h5,h6⟩
rotate_left
·have h6':((m:Int)==0)=false:=by simp;omega
replace h6:=Za h6;replace h4:=Za h4
go_enter Tryz.func115,Tryz.ntmps115
go_upto_region 1 with fail
clear hw0
go_wp2_with fail
go_loopw [31] (fun i wr=>∃ k:Nat,k<=m/\i=.int .i64 k/\(∀ j,j<k->Zkh n j=true)/\Qat w0.heap.size w0 wr) (fun i _=>m-(intOf i).toNat)
case atStart=>exact⟨0,by omega,rfl,fun j hj=>by omega,Qb _ _⟩
case round =>
 obtain⟨k,hk,rfl,ha,hb⟩:=hrel;replace ha:=Za ha;replace hb:=Za hb;have p1:=(hb.out.cell (p:=⟨w.heap.size,0,none⟩) lt0).trans f1;have p2:=(hb.out.cell (p:=⟨w.heap.size,1,none⟩) lt0).trans f2;by_cases hlt:k<m
 case neg =>
 have hfin:=Za (hgood2.out fun i hi=>ha.out i (by omega));have BF:=Za (hB.out _ hb.out)
 go_wp2_with fail
 go_ret;exact⟨Z1 hfin.out.symm,BF.out⟩;obtain⟨x,hx⟩:∃ x,n.2[k]? = some x:=⟨_,Qe (by rw[hm.out];exact hlt)⟩
 obtain⟨ad,E,ce,rfl,q1,q2,hinx,FX⟩:=V4 HA.out hx;have FX':=Za (fun W (hW:Qat wr.heap.size wr W)=>FX W ((hB.out _ hb.out).trans (hW.mono (hB.out _ hb.out).size)));obtain⟨⟨z0,z1,z2,z3,z4⟩,hIx⟩:=FX'.out wr (Qb _ _);obtain⟨w2,hw2,g0,g1,g2,g3,g4,hs2,hB2,_⟩:=Z8 wr (.int .u8 (x.1.1.toNat:Int)) (.int .u32 x.1.2.1) (.int .u32 x.1.2.2) (.int .i64 x.2.1) (.slice E x.2.2.length ce) 54;have HI:=Za (hIx.below hB2);have lt2:wr.heap.size<w2.heap.size:=by omega
 have B2:=Za (hb.out.trans (hB2.mono hb.out.size));have C2:=Za hB2;replace hx:=Za hx;replace hs2:=Za hs2;have hbk:=Za (hbad1.out k hlt);clear FX hIx hB2 hinx;unfold itV at *
 go_upto_region 8 with fail
 clear hw2
 go_wp2_with fail
 with_reducible refine(Za1 _ x _ HI.out).mono ?_;rintro e3 w3 ⟨rfl,hb3⟩;have B3:=Za (B2.out.trans (hb3.mono B2.out.size));have C3:=Za (C2.out.trans (hb3.mono C2.out.size));have r0:=(hb3.cell (p:=⟨wr.heap.size,0,none⟩) lt2).trans g0;have r1:=(hb3.cell (p:=⟨wr.heap.size,1,none⟩) lt2).trans g1;have r2:=(hb3.cell (p:=⟨wr.heap.size,2,none⟩) lt2).trans g2;have r3:=(hb3.cell (p:=⟨wr.heap.size,3,none⟩) lt2).trans g3;have r4:=(hb3.cell (p:=⟨wr.heap.size,4,none⟩) lt2).trans g4;have p3:=(hb3.cell (p:=⟨w.heap.size,0,none⟩) (Qd lt0 B2.out.size)).trans ((C2.out.cell (p:=⟨w.heap.size,0,none⟩) (Qd lt0 hb.out.size)).trans p1);have p4:=(hb3.cell (p:=⟨w.heap.size,1,none⟩) (Qd lt0 B2.out.size)).trans ((C2.out.cell (p:=⟨w.heap.size,1,none⟩) (Qd lt0 hb.out.size)).trans p2);replace HI:=Za (HI.out.below hb3);have lt3:wr.heap.size<w3.heap.size:=Qd lt2 hb3.size;clear hb3 g0 g1 g2 g3 g4 z0 z1 z2 z3 z4 p1 p2;rcases Zcn (Zbn x) with hmx | hmx
 ·have hr:=Za (hbk.out (Zl7 hx.out (by rw[okP,hmx];rfl)))
 have hc:=Za (Zat hmx);have BF:=Za (hB.out _ B3.out);replace hmx:=Za hmx;rw[hc.out]
 go_wp2_with fail
 go_ret;exact⟨Z1 hr.out.symm,BF.out⟩;have hc:=Za (Zdt hmx);replace hmx:=Za hmx;rw[hc.out]
 go_wp2_with fail
 with_reducible refine(Zvu _ x _ HI.out).mono ?_;rintro e4 w4 ⟨rfl,hb4⟩;have B4:=Za (B3.out.trans (hb4.mono B3.out.size));have C4:=Za (C3.out.trans (hb4.mono C3.out.size));have t0:=(hb4.cell (p:=⟨wr.heap.size,0,none⟩) lt3).trans r0;have t1:=(hb4.cell (p:=⟨wr.heap.size,1,none⟩) lt3).trans r1;have t2:=(hb4.cell (p:=⟨wr.heap.size,2,none⟩) lt3).trans r2;have p5:=(hb4.cell (p:=⟨w.heap.size,1,none⟩) (Qd lt0 B3.out.size)).trans p4;have lt4:wr.heap.size<w4.heap.size:=Qd lt3 hb4.size;have lt0':w.heap.size<w4.heap.size:=Qd lt0 B4.out.size;clear hb4 r0 r1 r2 r3 r4 p3 p4;rcases Zcn (Zg3 x) with hrx | hrx
 ·have hr:=Za (hbk.out (Zl7 hx.out (by rw[okP,hmx.out,hrx,hl.out];simp;omega)))
 have BF:=Za (hB.out _ B4.out);rw[hrx];replace hrx:=Za hrx
 go_wp2_with fail
 go_ret;exact⟨Z1 hr.out.symm,BF.out⟩;have hP:=Za (show okP n.1 x=true by rw[okP,hmx.out,hrx];simp);rw[hrx];replace hrx:=Za hrx;rcases(by rcases k with _ | j;exact Or.inl rfl;exact Or.inr ⟨j,rfl⟩:k=0\/∃ j,k=j+1) with hk0 | ⟨j,hkj⟩
 ·have hall:=Za (show ∀ j,j<k+1->Zkh n j=true from fun j hj=>by
 obtain rfl:j=0:=by omega
 subst hk0
 rw[Zj9 hx.out,hP.out])
 subst hk0
 go_wp2_with fail
 go_quiet (fail)
 go_wp2_with fail
 go_roundw
 case rel=>exact⟨0+1,by omega,by go_num,hall.out,Zbh B4.out _⟩
 case measure=>simp[intOf];omega
 ·obtain⟨y,hy⟩:∃ y,n.2[j]? = some y:=⟨_,Qe (by rw[hm.out];omega)⟩
 obtain⟨ad',E',ce',e',_,_,_,FY⟩:=V4 HA.out hy;have e'':=Option.some.inj e';subst e'';clear e';have BW4:=Za (hB.out _ B4.out);have FYY:=Za fun W (hW:Qat _ _ W)=>(FY W (BW4.out.trans (hW.mono BW4.out.size))).1
 have hsucc:=Za (show Zkh n k=Zo y.1 x.1 by subst hkj;rw[Zfw hx.out hy,hP.out];simp);have hj1:(k:Int)-1=(j:Int):=by omega
 replace hy:=Za hy;obtain⟨s,hs⟩:∃ s,Zo y.1 x.1=s:=⟨_,rfl⟩
 rw[hs] at hsucc;replace hs:=Za hs;have hwj:IntKind.i64.wrap (j:Int)=(j:Int):=Q8 _ (by omega);have hj0:(0:Int)<=(j:Int):=by omega
 have kpos:(0:Int)<(k:Int):=by omega
 have hjm:(j:Int)<(m:Int):=by omega
 clear FY
 go_wp2_with fail
 refine wp_region_fx (by kernel_rfl) (fun W=>Qat _ _ W) (fun _=>none) (fun i=>match i with
 | 12=>some (.bool s)
 | _=>none) (by kernel_rfl) (Qb _ _).drew (fun w w' h hb=>h.trans (hb.mono h.size)) (fun j φ x W W' hp=>by cases hp) ?_
 repeat (first
 | (refine wpAs_skip rfl ?_;simp only[Qa,Zb,Zc,Zd])
 | (refine wpAs_pure (v := ?_) rfl rfl ?_ ?_;rotate_left;(intro W hC hE;clear hE;(obtain⟨y0,y1,y2,y3,y4⟩:=FYY.out W hC;have x0:=(hC.cell (p:=⟨wr.heap.size,0,none⟩) lt4).trans t0;have x1:=(hC.cell (p:=⟨wr.heap.size,1,none⟩) lt4).trans t1;have x2:=(hC.cell (p:=⟨wr.heap.size,2,none⟩) lt4).trans t2;have p6:=(hC.cell (p:=⟨w.heap.size,1,none⟩) lt0').trans p5);clear hC;go_simp;first | done | with_reducible rfl);simp only[Qa,Zb,Zc,Zd]))
 refine wpAs_fixed rfl rfl rfl ?_ ?_
 ·intro W hC hE
 refine does_enter (f:=56) (args:=#[kyV y.1,kyV x.1]) ?_ ?_
 ·go_simp
 ·refine(Zdz y.1 x.1 W).mono ?_
 rintro e W' ⟨rfl,hg⟩;rw[hs.out];exact⟨_,rfl,rfl,hg⟩;simp only[Qa,Zb,Zc,Zd]
 repeat (first
 | (refine wpAs_skip rfl ?_;simp only[Qa,Zb,Zc,Zd])
 | (refine wpAs_pure (v := ?_) rfl rfl ?_ ?_;rotate_left;(intro W hC hE;clear hE;skip;clear hC;go_simp;first | done | with_reducible rfl);simp only[Qa,Zb,Zc,Zd]))
 refine wpAs_end fun W hC hE => ?_
 have BW:=Za (B4.out.trans (hC.mono B4.out.size));clear hE hC;cases s with
 | true =>
 have hall:=Za (show ∀ j,j<k+1->Zkh n j=true from fun j hj=>by
 rcases Qs j k with h | h
 ·exact ha.out j h
 ·obtain rfl:j=k:=by omega
  exact hsucc.out)
 go_wp2_with fail
 go_roundw
 case rel=>exact⟨k+1,by omega,by go_num,hall.out,BW.out⟩
 case measure=>simp[intOf];omega
 | false =>
 have hr:=Za (hbk.out hsucc.out);have BF:=Za (hB.out _ BW.out)
 go_wp2_with fail
 go_ret;exact⟨Z1 hr.out.symm,BF.out⟩
·replace h4:=Za h4
go_enter Tryz.func115,Tryz.ntmps115
go_upto_region 1 with fail
clear hw0
go_wp2_with fail
go_loopw [31] (fun i wr=>∃ k:Nat,k<=m/\i=.int .i64 k/\(∀ j,j<k->Zkh n j=true)/\Qat w0.heap.size w0 wr) (fun i _=>m-(intOf i).toNat)
case atStart=>exact⟨0,by omega,rfl,fun j hj=>by omega,Qb _ _⟩
case round =>
 obtain⟨k,hk,rfl,ha,hb⟩:=hrel;replace ha:=Za ha;replace hb:=Za hb;have p1:=(hb.out.cell (p:=⟨w.heap.size,0,none⟩) lt0).trans f1;have p2:=(hb.out.cell (p:=⟨w.heap.size,1,none⟩) lt0).trans f2;by_cases hlt:k<m
 case neg =>
 have hfin:=Za (hgood2.out fun i hi=>ha.out i (by omega));have BF:=Za (hB.out _ hb.out)
 go_wp2_with fail
 go_ret;exact⟨Z1 hfin.out.symm,BF.out⟩;obtain⟨x,hx⟩:∃ x,n.2[k]? = some x:=⟨_,Qe (by rw[hm.out];exact hlt)⟩
 obtain⟨ad,E,ce,rfl,q1,q2,hinx,FX⟩:=V4 HA.out hx;have FX':=Za (fun W (hW:Qat wr.heap.size wr W)=>FX W ((hB.out _ hb.out).trans (hW.mono (hB.out _ hb.out).size)));obtain⟨⟨z0,z1,z2,z3,z4⟩,hIx⟩:=FX'.out wr (Qb _ _);obtain⟨w2,hw2,g0,g1,g2,g3,g4,hs2,hB2,_⟩:=Z8 wr (.int .u8 (x.1.1.toNat:Int)) (.int .u32 x.1.2.1) (.int .u32 x.1.2.2) (.int .i64 x.2.1) (.slice E x.2.2.length ce) 54;have HI:=Za (hIx.below hB2);have lt2:wr.heap.size<w2.heap.size:=by omega
 have B2:=Za (hb.out.trans (hB2.mono hb.out.size));have C2:=Za hB2;replace hx:=Za hx;replace hs2:=Za hs2;have hbk:=Za (hbad1.out k hlt);clear FX hIx hB2 hinx;unfold itV at *
 go_upto_region 8 with fail
 clear hw2
 go_wp2_with fail
 with_reducible refine(Za1 _ x _ HI.out).mono ?_;rintro e3 w3 ⟨rfl,hb3⟩;have B3:=Za (B2.out.trans (hb3.mono B2.out.size));have C3:=Za (C2.out.trans (hb3.mono C2.out.size));have r0:=(hb3.cell (p:=⟨wr.heap.size,0,none⟩) lt2).trans g0;have r1:=(hb3.cell (p:=⟨wr.heap.size,1,none⟩) lt2).trans g1;have r2:=(hb3.cell (p:=⟨wr.heap.size,2,none⟩) lt2).trans g2;have r3:=(hb3.cell (p:=⟨wr.heap.size,3,none⟩) lt2).trans g3;have r4:=(hb3.cell (p:=⟨wr.heap.size,4,none⟩) lt2).trans g4;have p3:=(hb3.cell (p:=⟨w.heap.size,0,none⟩) (Qd lt0 B2.out.size)).trans ((C2.out.cell (p:=⟨w.heap.size,0,none⟩) (Qd lt0 hb.out.size)).trans p1);have p4:=(hb3.cell (p:=⟨w.heap.size,1,none⟩) (Qd lt0 B2.out.size)).trans ((C2.out.cell (p:=⟨w.heap.size,1,none⟩) (Qd lt0 hb.out.size)).trans p2);replace HI:=Za (HI.out.below hb3);have lt3:wr.heap.size<w3.heap.size:=Qd lt2 hb3.size;clear hb3 g0 g1 g2 g3 g4 z0 z1 z2 z3 z4 p1 p2;rcases Zcn (Zbn x) with hmx | hmx
 ·have hr:=Za (hbk.out (Zl7 hx.out (by rw[okP,hmx];rfl)))
 have hc:=Za (Zat hmx);have BF:=Za (hB.out _ B3.out);replace hmx:=Za hmx;rw[hc.out]
 go_wp2_with fail
 go_ret;exact⟨Z1 hr.out.symm,BF.out⟩;have hc:=Za (Zdt hmx);replace hmx:=Za hmx;rw[hc.out];have h5q:¬ (0:Int)<l:=by omega
 have hP:=Za (show okP n.1 x=true by rw[okP,hmx.out,hl.out];simp;omega);obtain⟨w4,hw4⟩:∃ w4,w3=w4:=⟨_,rfl⟩
 subst hw4;have B4:=B3;have C4:=C3;have t0:=r0;have t1:=r1;have t2:=r2;have p5:=p4;have lt4:=lt3;have lt0':w.heap.size<w3.heap.size:=Qd lt0 B4.out.size;clear r0 r1 r2 r3 r4 lt3;rcases(by rcases k with _ | j;exact Or.inl rfl;exact Or.inr ⟨j,rfl⟩:k=0\/∃ j,k=j+1) with hk0 | ⟨j,hkj⟩
 ·have hall:=Za (show ∀ j,j<k+1->Zkh n j=true from fun j hj=>by
 obtain rfl:j=0:=by omega
 subst hk0
 rw[Zj9 hx.out,hP.out])
 subst hk0
 go_wp2_with fail
 go_quiet (fail)
 go_wp2_with fail
 go_roundw
 case rel=>exact⟨0+1,by omega,by go_num,hall.out,Zbh B4.out _⟩
 case measure=>simp[intOf];omega
 ·obtain⟨y,hy⟩:∃ y,n.2[j]? = some y:=⟨_,Qe (by rw[hm.out];omega)⟩
 obtain⟨ad',E',ce',e',_,_,_,FY⟩:=V4 HA.out hy;have e'':=Option.some.inj e';subst e'';clear e';have BW4:=Za (hB.out _ B4.out);have FYY:=Za fun W (hW:Qat _ _ W)=>(FY W (BW4.out.trans (hW.mono BW4.out.size))).1
 have hsucc:=Za (show Zkh n k=Zo y.1 x.1 by subst hkj;rw[Zfw hx.out hy,hP.out];simp);have hj1:(k:Int)-1=(j:Int):=by omega
 replace hy:=Za hy;obtain⟨s,hs⟩:∃ s,Zo y.1 x.1=s:=⟨_,rfl⟩
 rw[hs] at hsucc;replace hs:=Za hs;have hwj:IntKind.i64.wrap (j:Int)=(j:Int):=Q8 _ (by omega);have hj0:(0:Int)<=(j:Int):=by omega
 have kpos:(0:Int)<(k:Int):=by omega
 have hjm:(j:Int)<(m:Int):=by omega
 clear FY
 go_wp2_with fail
 refine wp_region_fx (by kernel_rfl) (fun W=>Qat _ _ W) (fun _=>none) (fun i=>match i with
 | 12=>some (.bool s)
 | _=>none) (by kernel_rfl) (Qb _ _).drew (fun w w' h hb=>h.trans (hb.mono h.size)) (fun j φ x W W' hp=>by cases hp) ?_
 repeat (first
 | (refine wpAs_skip rfl ?_;simp only[Qa,Zb,Zc,Zd])
 | (refine wpAs_pure (v := ?_) rfl rfl ?_ ?_;rotate_left;(intro W hC hE;clear hE;(obtain⟨y0,y1,y2,y3,y4⟩:=FYY.out W hC;have x0:=(hC.cell (p:=⟨wr.heap.size,0,none⟩) lt4).trans t0;have x1:=(hC.cell (p:=⟨wr.heap.size,1,none⟩) lt4).trans t1;have x2:=(hC.cell (p:=⟨wr.heap.size,2,none⟩) lt4).trans t2;have p6:=(hC.cell (p:=⟨w.heap.size,1,none⟩) lt0').trans p5);clear hC;go_simp;first | done | with_reducible rfl);simp only[Qa,Zb,Zc,Zd]))
 refine wpAs_fixed rfl rfl rfl ?_ ?_
 ·intro W hC hE
 refine does_enter (f:=56) (args:=#[kyV y.1,kyV x.1]) ?_ ?_
 ·go_simp
 ·refine(Zdz y.1 x.1 W).mono ?_
 rintro e W' ⟨rfl,hg⟩;rw[hs.out];exact⟨_,rfl,rfl,hg⟩;simp only[Qa,Zb,Zc,Zd]
 repeat (first
 | (refine wpAs_skip rfl ?_;simp only[Qa,Zb,Zc,Zd])
 | (refine wpAs_pure (v := ?_) rfl rfl ?_ ?_;rotate_left;(intro W hC hE;clear hE;skip;clear hC;go_simp;first | done | with_reducible rfl);simp only[Qa,Zb,Zc,Zd]))
 refine wpAs_end fun W hC hE => ?_
 have BW:=Za (B4.out.trans (hC.mono B4.out.size));clear hE hC;cases s with
 | true =>
 have hall:=Za (show ∀ j,j<k+1->Zkh n j=true from fun j hj=>by
 rcases Qs j k with h | h
 ·exact ha.out j h
 ·obtain rfl:j=k:=by omega
  exact hsucc.out)
 go_wp2_with fail
 go_roundw
 case rel=>exact⟨k+1,by omega,by go_num,hall.out,BW.out⟩
 case measure=>simp[intOf];omega
 | false =>
 have hr:=Za (hbk.out hsucc.out);have BF:=Za (hB.out _ BW.out)
 go_wp2_with fail
 go_ret;exact⟨Z1 hr.out.symm,BF.out⟩}
def Z39 (body:List UInt8):Int:=((body[1]?.getD 0).toNat:Int)
def Zez (body:List UInt8):Nat:=(body[2]?.getD 0).toNat
theorem Z47 (body:List UInt8):Zez body<256:=(body[2]?.getD 0).toNat_lt
theorem Z0x (body:List UInt8):Zjg (Z39 body):=by
 have:=(body[1]?.getD 0).toNat_lt;unfold Z39;exact⟨by omega,by omega⟩
def ndN (body:List UInt8):Nd:=(Z39 body,Z15 (body.drop 3) (Zez body))
def rdN (body:List UInt8):Bool:=decide (body[0]?.getD 0=78)&&((Zaa (body.drop 3) (Zez body)).isSome&&(Yd (ndN body)&&Uz (Zzs (body.drop 3) (Zez body))))
def reN (b:List UInt8):Int:=if oe b=0 then (if rdN (ob b) then 0 else 8) else oe b
def reV (b:List UInt8):Nd:=if oe b=0 then (if rdN (ob b) then ndN (ob b) else Ug) else Ug
theorem Zt3 {b:List UInt8} (h:oe b=0):b.length=128/\Zu7 b/\ob b=b.drop 4/\(ob b).length=124:=by{
unfold oe at h;by_cases h1:b.length=128
·rw[if_pos h1] at h
by_cases h2:Zu7 b
·have:ob b=b.drop 4:=by unfold ob;rw[if_pos ⟨h1,h2⟩]
 exact⟨h1,h2,this,by rw[this];simp[h1]⟩
·rw[if_neg h2] at h;cases h
·rw[if_neg h1] at h;cases h}
theorem Zut {b:List UInt8} (h:oe b≠0):reN b=oe b/\reV b=Ug:=by
 unfold reN reV;rw[if_neg h,if_neg h];exact⟨rfl,rfl⟩
theorem Zzm {b:List UInt8} (h:oe b=0) (h':rdN (ob b)=false):reN b=8/\reV b=Ug:=by
 unfold reN reV;rw[if_pos h,if_pos h,h'];exact⟨rfl,rfl⟩
theorem Zh0 {b:List UInt8} (h:oe b=0) (h':rdN (ob b)=true):reN b=0/\reV b=ndN (ob b):=by
 unfold reN reV;rw[if_pos h,if_pos h,h'];exact⟨rfl,rfl⟩
def Zke (lo:Nat) (w:Qal) (u:Qam) (n:Nd):Prop:=∃ A c,u=.agg #[.int .i64 n.1,.slice A n.2.length c]/\Zjg n.1/\Yj rIt 5 54 lo w A c n.2
theorem Zke.zero (lo:Nat) (w:Qal):Zke lo w (.agg #[.int .i64 0,.slice none 0 0]) Ug:=⟨none,0,rfl,⟨by decide,by decide⟩,Yj.nil _ _ _ _ _⟩
theorem Zon (v:Qam) (b:List UInt8) (w:Qal) (h:rBy (Old w) w [v] b) :
 Qas Tryz.prog 68 #[v] w fun e w'=>∃ u,e=.returned (.tuple #[u,.int .i64 (reN b)])/\Zke w.heap.size w' u (reV b)/\Qat w.heap.size w w':=by
 obtain⟨A,c,rfl,l1,m1,hy⟩:=Ve (B:=w.heap.size) (fun p hp=>hp) h;obtain⟨n,hn⟩:∃ n,b.length=n:=⟨_,rfl⟩
 rw[hn] at l1 ⊢;replace hn:=Za hn;obtain⟨w0,hw0,b0,hs0,hB0⟩:=Yc w (.int .i64 0) (.slice none 0 0) 81;have lt0:w.heap.size<w0.heap.size:=by omega
 have HB0:=Za hB0;have HY:=Za ((hy.below hB0).more hB0.size)
 have hzero:Hid (∀ (er:Int) (W:Qal),reN b=er/\reV b=Ug->Qat w0.heap.size w0 W->∃ W9,(W.setCell ⟨w.heap.size,0,none⟩ (.int .i64 0)).setCell ⟨w.heap.size,1,none⟩ (.slice none 0 0)=W9/\W9.cell? ⟨w.heap.size,0,none⟩=some (.int .i64 0)/\W9.cell? ⟨w.heap.size,1,none⟩=some (.slice none 0 0)/\(∀ o,W.frozen? ⟨w.heap.size,o,none⟩=false)/\W.cell? ⟨w.heap.size,0,none⟩=some (.int .i64 0)/\W.cell? ⟨w.heap.size,1,none⟩=some (.slice none 0 0) /\
 (∃ u,Ending.returned (.tuple #[.agg #[.int .i64 0,.slice none 0 0],.int .i64 er])=.returned (.tuple #[u,.int .i64 (reN b)])/\Zke w.heap.size W9 u (reV b)/\Qat w.heap.size w W9)):=Za fun er W hre hW=>by
 have bW:=(hW.block w.heap.size lt0).trans b0;obtain⟨W9,e9,g9,gr9,gs9⟩:=Xs (u:=.int .i64 0) (v:=.slice none 0 0) bW;obtain⟨k0,k1,kf,_⟩:=Zg g9;obtain⟨y0,y1,yf,_⟩:=Zg bW;have hBW:=HB0.out.trans (hW.mono HB0.out.size);exact⟨W9,e9,k0,k1,yf,y0,y1,_,by rw[hre.1],by rw[hre.2];exact Zke.zero _ _,hBW.grown gr9 hBW.size (fun q e=>by cases e;omega)⟩;replace b0:=Za b0;replace hw0:=Za hw0;clear hB0 hs0 h hy
 go_enter Tryz.func68,Tryz.ntmps68
 go_upto_region 1 with fail
 rw[hw0.out];clear hw0
 go_wp2_with fail
 with_reducible refine(Z2i A n c b hn l1 m1 _ HY.out).mono ?_;rintro e1 w1 ⟨v1,rfl,ho1,hb1⟩;have B1:=Za hb1;have hBW1:=Za (show w.heap.size<=w1.heap.size from Qj (Nat.le_of_lt lt0) hb1.size);obtain⟨er,hoe⟩:∃ er,oe b=er:=⟨_,rfl⟩
 rw[hoe];by_cases h0:er=0
 case neg =>
 have t0:(er != 0)=true:=by simpa using h0
 obtain⟨W9,e9,k0,k1,yf,y0,y1,hfin⟩:=hzero.out er w1 (by rw[<- hoe];exact Zut (by rw[hoe];exact h0)) B1.out;replace hfin:=Za hfin;replace h0:=Za h0;replace hoe:=Za hoe;clear ho1 hb1
 go_wp2_with fail
 exact Qaq (v:=.tuple #[.agg #[.int .i64 0,.slice none 0 0],.int .i64 er]) (by simp[results,Tryz.results68,go_sem,k0,k1]) rfl hfin.out;subst h0;obtain⟨hlen,hfits,hob,hl124⟩:=Zt3 hoe;have HZ:=Za (fun W h hW=>hzero.out 8 W (Zzm hoe h) hW);have HG:=Za (fun h=>Zh0 hoe h);have hr1:=Zhm ho1;obtain⟨bd,hbd⟩:∃ bd,ob b=bd:=⟨_,rfl⟩
 rw[hbd] at hr1 HZ HG hl124;replace hbd:=Za hbd;obtain⟨Q,cq,rfl,n1,n2,hcell⟩:=Zt hr1;rw[hl124] at n1 hcell hr1 ⊢;obtain⟨ad,rfl,hn0,hc0⟩:=hcell 0 (by omega);obtain⟨_,e,hn1',hc1⟩:=hcell 1 (by omega);cases e;obtain⟨_,e,hn2',hc2⟩:=hcell 2 (by omega);cases e;have z0:w1.cell? ad=some (.int .u8 ((bd[0]?.getD 0).toNat:Int)):=by simpa [Addr.add] using hc0
 have z1:w1.cell? ⟨ad.block,ad.off+1,none⟩=some (.int .u8 ((bd[1]?.getD 0).toNat:Int)):=by simpa [Addr.add] using hc1
 have z2:w1.cell? ⟨ad.block,ad.off+2,none⟩=some (.int .u8 ((bd[2]?.getD 0).toNat:Int)):=by simpa [Addr.add] using hc2
 have ltb:ad.block<w1.heap.size:=World.block_lt_of_cell? _ _ z0;have hrest:=Za (Zs4 (Zf.drop hr1) 3 (by omega));have hl:=Za hl124;replace hoe:=Za hoe;clear hfits hob hlen hc0 hc1 hc2 hn0 hn1' hn2' ho1 hb1 hcell hl124 hzero;have hrd:Hid (rdN bd=(decide (bd[0]?.getD 0=78)&&((Zaa (bd.drop 3) (Zez bd)).isSome&&(Yd (ndN bd)&&Uz (Zzs (bd.drop 3) (Zez bd)))))):=Za rfl;obtain⟨x0,hx0⟩:∃ x,bd[0]?.getD 0=x:=⟨_,rfl⟩
 rw[hx0] at z0 hrd;replace hx0:=Za hx0;by_cases h78:(x0.toNat:Int)=78
 case neg =>
 have t0:((x0.toNat:Int) != 78)=true:=by simpa using h78
 obtain⟨W9,e9,k0,k1,yf,y0,y1,hfin⟩:=HZ.out w1 (by rw[hrd.out];simp;intro e;exact absurd (by rw[e];rfl) h78) B1.out;replace hfin:=Za hfin;replace h78:=Za h78;clear hr1
 go_wp2_with fail
 exact Qaq (v:=.tuple #[.agg #[.int .i64 0,.slice none 0 0],.int .i64 8]) (by simp[results,Tryz.results68,go_sem,k0,k1]) rfl hfin.out;have t0:((x0.toNat:Int) != 78)=false:=by simpa using h78
 have h78':=Za (show x0=78 from UInt8.toNat.inj (by show x0.toNat=78;omega));replace h78:=Za h78;obtain⟨mn,hmn⟩:∃ m,Zez bd=m:=⟨_,rfl⟩
 have hmlt:=Z47 bd;rw[hmn] at hmlt hrd;have z2':w1.cell? ⟨ad.block,ad.off+2,none⟩=some (.int .u8 (mn:Int)):=by rw[<- hmn];exact z2
 have hmn':=Za hmn;clear z2 hr1 hmn;have had3:ad.add 3=⟨ad.block,ad.off+3,none⟩:=by simp[Addr.add]
 rw[had3] at hrest;have hres:=Za (fun W (hW:Qat w1.heap.size w1 W)=>Zr5 _ (bd.drop 3) mn hmlt W (Zf.old hrest.out hW))
 go_upto_region 6 with fail
 obtain⟨L,hL⟩:∃ L,Z15 (bd.drop 3) mn=L:=⟨_,rfl⟩
 obtain⟨R,hR⟩:∃ R,Zzs (bd.drop 3) mn=R:=⟨_,rfl⟩
 obtain⟨F,hF⟩:∃ F,Z6p (bd.drop 3) mn=F:=⟨_,rfl⟩
 rw[hL,hR,hF] at hres;have c3:¬ cq=3:=by omega
 have c4:(3:Int)<=cq:=by omega
 have hwm:IntKind.i64.wrap (mn:Int)=(mn:Int):=Q8 _ (by omega)
 refine wp_region_fx (by kernel_rfl) (fun W=>Qat w1.heap.size w1 W) (fun i=>match i with
 | 6=>some (fun v W=>∃ A c u,v=.tuple #[.slice A L.length c,u,.int .i64 F]/\Yj rIt 5 54 w1.heap.size W A c L/\rBy (Old W) W [u] R)
 | 7=>some (fun v W=>∃ A c u,v=.tuple #[.slice A L.length c,u,.int .i64 F]/\Yj rIt 5 54 w1.heap.size W A c L/\rBy (Old W) W [u] R)
 | 8=>some (fun v W=>∃ A c,v=.slice A L.length c/\Yj rIt 5 54 w1.heap.size W A c L)
 | 9=>some (fun v W=>rBy (Old W) W [v] R)
 | _=>none) (fun i=>match i with
 | 10=>some (.int .i64 F)
 | _=>none) (by kernel_rfl) (Qb _ _).drew (fun w w' h hb=>h.trans (hb.mono h.size)) ?tst ?_
 case tst =>
 intro j φ x W W' hp hx hb
 match j,hp with
 | 6,hp =>
 cases hp;obtain⟨A,c,u,e,h1,h2⟩:=hx;exact⟨A,c,u,e,h1.below Z0 hb,Zf.old h2 hb⟩
 | 7,hp =>
 cases hp;obtain⟨A,c,u,e,h1,h2⟩:=hx;exact⟨A,c,u,e,h1.below Z0 hb,Zf.old h2 hb⟩
 | 8,hp =>
 cases hp;obtain⟨A,c,e,h1⟩:=hx;exact⟨A,c,e,h1.below Z0 hb⟩
 | 9,hp=>cases hp;exact Zf.old hx hb
 repeat (first
 | (refine wpAs_skip rfl ?_;simp only[Qa,Zb,Zc,Zd])
 | (refine wpAs_pure (v := ?_) rfl rfl ?_ ?_;rotate_left;(intro W hC hE;clear hE;(have y2:=(hC.cell (p:=⟨ad.block,ad.off+2,none⟩) ltb).trans z2');clear hC;go_simp;first | done | with_reducible rfl);simp only[Qa,Zb,Zc,Zd]))
 refine wpAs_act rfl rfl ?_ ?_
 ·intro W hC hE
 refine does_enter (f:=114) (args:=#[.slice (some ⟨ad.block,ad.off+3,none⟩) 121 (cq-3),.int .i64 mn]) ?_ ?_
 ·go_simp
 ·refine(hres.out W hC).mono ?_
 rintro e W' ⟨A,c,u,rfl,h1,h2,hw⟩;exact⟨_,rfl,⟨A,c,u,rfl,h1.low Z0 hC.size,h2⟩,hw⟩;simp only[Qa,Zb,Zc,Zd,envAdd];intro x30;refine wpAs_act rfl rfl ?_ ?_
 ·intro W hC hE
 have hx:=hE.1 rfl;clear hE
 go_simp
 exact⟨hx,Qb _ _⟩;simp only[Qa,Zb,Zc,Zd,envAdd];intro x23;refine wpAs_act rfl rfl ?_ ?_
 ·intro W hC hE
 obtain⟨A,c,u,rfl,h1,h2⟩:=hE.1 rfl;clear hE;have H1:=Za h1;clear h1 h2
 go_simp
 exact⟨⟨_,_,rfl,H1.out⟩,Qb _ _⟩;simp only[Qa,Zb,Zc,Zd,envAdd];intro x31;refine wpAs_act rfl rfl ?_ ?_
 ·intro W hC hE
 obtain⟨A,c,u,rfl,h1,h2⟩:=hE.2.1 rfl;clear hE;have H2:=Za h2;clear h1 h2
 go_simp
 exact⟨H2.out,Qb _ _⟩;simp only[Qa,Zb,Zc,Zd,envAdd];intro x32;refine wpAs_fixed rfl rfl rfl ?_ ?_
 ·intro W hC hE
 obtain⟨A,c,u,rfl,h1,h2⟩:=hE.2.2.1 rfl;clear hE h1 h2
 go_simp
 exact⟨rfl,Qb _ _⟩;simp only[Qa,Zb,Zc,Zd]
 repeat (first
 | (refine wpAs_skip rfl ?_;simp only[Qa,Zb,Zc,Zd])
 | (refine wpAs_pure (v := ?_) rfl rfl ?_ ?_;rotate_left;(intro W hC hE;clear hE;skip;clear hC;go_simp;first | done | with_reducible rfl);simp only[Qa,Zb,Zc,Zd]))
 refine wpAs_end fun wc hC hE => ?_
 have H31:=hE.2.1;have H32:=hE.1;clear hE;have BC:=Za (B1.out.trans (hC.mono B1.out.size));have y1:=(hC.cell (p:=⟨ad.block,ad.off+1,none⟩) ltb).trans z1;clear hC;obtain⟨X,cx,rfl,R31⟩:=H31;have H31:=R31.rel Z0;obtain⟨n3,n4,_,_⟩:=R31.form;replace R31:=Za R31;obtain⟨Y,cy,rfl,n5,n6,hy32⟩:=Ve (B:=wc.heap.size) (fun p hp=>hp) H32;cases hct:Zaa (bd.drop 3) mn with
 | none =>
 have hF8:F=8:=by rw[<- hF];simp[Z6p,hct]
 subst hF8;obtain⟨W9,e9,k0,k1,yf,u0,u1,hfin⟩:=HZ.out wc (by rw[hrd.out,hct];simp) BC.out;replace hfin:=Za hfin;replace hct:=Za hct;replace hF:=Za hF;clear H31 H32 hy32
 go_wp2_with fail
 exact Qaq (v:=.tuple #[.agg #[.int .i64 0,.slice none 0 0],.int .i64 8]) (by simp[results,Tryz.results68,go_sem,k0,k1]) rfl hfin.out
 | some p =>
 obtain⟨l',r'⟩:=p;have hF0:F=0:=by rw[<- hF];simp[Z6p,hct]
 subst hF0;have hsome:=Za (show (Zaa (bd.drop 3) mn).isSome=true by rw[hct];rfl);replace hct:=Za hct;replace hF:=Za hF;replace hL:=Za hL;replace hR:=Za hR;obtain⟨lv,hlv⟩:∃ lv,Z39 bd=lv:=⟨_,rfl⟩
 have hlin:=Za (Z0x bd);have hnd:=Za (show ndN bd=(lv,L) by rw[ndN,hlv,hmn'.out,hL.out]);rw[hlv] at hlin;have y1':wc.cell? ⟨ad.block,ad.off+1,none⟩=some (.int .u8 lv):=by rw[<- hlv];exact y1
 have hlw:IntKind.i64.wrap lv=lv:=Q8 _ (by have:=hlin.out;exact⟨this.1,this.2⟩);replace hlv:=Za hlv;clear y1;obtain⟨w2,hw2,b2,hs2,hB2⟩:=Yc wc (.int .i64 lv) (.slice X L.length cx) 81;obtain⟨f1,f2,_,lt2⟩:=Zg b2;have N2:Nod (New w1.heap.size w2) w2 (.agg #[.int .i64 lv,.slice X L.length cx]) (lv,L):=⟨_,rfl,hlin.out,Yz.new H31 (Qc _) hB2⟩
 have HN2:=Za N2;have HR2:=Za (show Zke w1.heap.size w2 (.agg #[.int .i64 lv,.slice X L.length cx]) (lv,L) from ⟨X,cx,rfl,hlin.out,R31.out.below Z0 hB2⟩);have B2:=Za (BC.out.trans (hB2.mono BC.out.size));have HY2:=Za ((hy32.below hB2).more hB2.size);replace hs2:=Za hs2;replace b2:=Za b2;clear H31 H32 hy32 N2 hB2
 go_upto_region 10 with fail
 clear hw2 y1'
 go_wp2_with fail
 with_reducible refine(Zgt _ (lv,L) _ HN2.out.drop).mono ?_;rintro e3 w3 ⟨rfl,hb3⟩;have B3:=Za (B2.out.trans (hb3.mono B2.out.size));have HN3:=Za (HR2.out.new (Qc _) hb3);have g1:=(hb3.cell (p:=⟨wc.heap.size,0,none⟩) lt2).trans f1;have g2:=(hb3.cell (p:=⟨wc.heap.size,1,none⟩) lt2).trans f2;have HY3:=Za ((HY2.out.below hb3).more hb3.size);have lt3:wc.heap.size<w3.heap.size:=Qd lt2 hb3.size;clear hb3 f1 f2;rcases Zcn (Yd (lv,L)) with hm | hm
 ·have hc:=Za (Zh5 hm)
 obtain⟨W9,e9,k0,k1,yf,u0,u1,hfin⟩:=HZ.out w3 (by rw[hrd.out,hnd.out,hm];simp) B3.out;replace hfin:=Za hfin;replace hm:=Za hm;rw[hc.out]
 go_wp2_with fail
 exact Qaq (v:=.tuple #[.agg #[.int .i64 0,.slice none 0 0],.int .i64 8]) (by simp[results,Tryz.results68,go_sem,k0,k1]) rfl hfin.out;have hc:=Za (Zrv hm);rw[hc.out];obtain⟨rl,hrl⟩:∃ n,R.length=n:=⟨_,rfl⟩
 rw[hrl] at n5 ⊢;replace hrl:=Za hrl
 go_wp2_with fail
 with_reducible refine(Zrh Y rl cy R hrl n5 n6 _ HY3.out).mono ?_;rintro e4 w4 ⟨rfl,rfl⟩;rcases Zcn (Uz R) with hz | hz
 ·obtain⟨W9,e9,k0,k1,yf,u0,u1,hfin⟩:=HZ.out w3 (by rw[hrd.out,hnd.out,hR.out,hz];simp) B3.out
 replace hfin:=Za hfin;rw[hz];replace hz:=Za hz;replace hm:=Za hm
 go_wp2_with fail
 exact Qaq (v:=.tuple #[.agg #[.int .i64 0,.slice none 0 0],.int .i64 8]) (by simp[results,Tryz.results68,go_sem,k0,k1]) rfl hfin.out
 ·have hgood:=Za (HG.out (by rw[hrd.out,hnd.out,hR.out,hz,hm,hsome.out,h78'.out];rfl))
 have bW:=(B3.out.block w.heap.size lt0).trans b0.out;obtain⟨W9,e9,g9,gr9,gs9⟩:=Xs (u:=.int .i64 lv) (v:=.slice X L.length cx) bW;obtain⟨k0,k1,kf,_⟩:=Zg g9;obtain⟨u0,u1,yf,_⟩:=Zg bW;have hBW:=HB0.out.trans (B3.out.mono HB0.out.size)
 have hfin:Hid (Zke w.heap.size W9 (.agg #[.int .i64 lv,.slice X L.length cx]) (reV b)/\Qat w.heap.size w W9):=Za ⟨by
 rw[hgood.out.2,hnd.out]
 exact(HN3.out.grown gr9 (fun q e=>by cases e;exact Qd lt0 B1.out.size)).new hBW1.out (Qb _ _),hBW.grown gr9 hBW.size (fun q e=>by cases e;omega)⟩
 rw[hz];replace hz:=Za hz;replace hm:=Za hm;replace bW:=Za bW;replace g9:=Za g9;clear gr9
 go_wp2_with fail
 exact Qaq (v:=.tuple #[.agg #[.int .i64 lv,.slice X L.length cx],.int .i64 0]) (by simp[results,Tryz.results68,go_sem,k0,k1]) rfl ⟨_,by rw[hgood.out.1],hfin.out.1,hfin.out.2⟩
def Zfe (l:List It) (k:Ky):Nat:=(l.filter fun x=>Zo x.1 k).length
def Z2 (n:Nd) (k:Ky):Nat:=Zfe n.2 k
def Yn (n:Nd) (k:Ky):Bool:=match n.2[Z2 n k]? with
 | none=>false
 | some x=>decide (x.1=k)
theorem Zji:Tryz.prog.eqGuardType Tryz.prog.depth 37=false:=by kernel_rfl
theorem Z1c (a b:Ky) (w:Qal):(Op.equalIn 10000 37 (kyV a) (kyV b)).run Tryz.prog w=.ok (decide (a=b)) w:=by{
have hS:Tryz.prog.underlying 37=some (.struct (Tryz.prog.fieldsOf 37)):=by kernel_rfl
have hp:Tryz.prog.stoodInHeld 37=false:=by kernel_rfl
have u3:=Tryz.underlying5;have u4:=Tryz.underlying32;have a3:=Tryz.isAgg5;have z3:=Tryz.sizeOf5;have a4:=Tryz.isAgg32;have z4:=Tryz.sizeOf32;obtain⟨a1,a2,a3⟩:=a;obtain⟨b1,b2,b3⟩:=b;have h:a1=b1↔(a1.toNat:Int)=b1.toNat:=⟨fun h=>by rw[h],fun h=>UInt8.toNat.inj (by omega)⟩
simp only[Prod.mk.injEq,h];unfold kyV;rw[show (10000:Nat)=9999+1 from rfl,run_equalIn_agg w 9999 37 _ _ hS hp];simp only[Program.fieldsOf,Tryz.underlying37]
go_simp
by_cases h1:(a1.toNat:Int)=b1.toNat <;> by_cases h2:a2=b2 <;> by_cases h3:a3=b3 <;> simp[h1,h2,h3]}
structure InN (n:Nd):Prop where
 lv:Zjg n.1
 it:∀ x∈n.2,InI x
theorem Znb {b:List UInt8} (h:Uz b=true):b=Zy b.length:=by
 simp only[Uz,Qk,beq_iff_eq] at h;exact List.eq_replicate_iff.2 ⟨rfl,h⟩
theorem Zlf (n:Nd):Zci n=[78,UInt8.ofNat n.1.toNat,UInt8.ofNat n.2.length]++Zdc n.2:=rfl
theorem Zfx {b:List UInt8} (h:reN b=0):Yd (reV b)=true/\Vd (reV b)=b/\InN (reV b):=by{
have hoe:oe b=0:=by
unfold reN at h;by_cases e:oe b=0
·exact e
·rw[if_neg e] at h;exact absurd h e
have hrd:rdN (ob b)=true:=by
unfold reN at h;rw[if_pos hoe] at h;cases e:rdN (ob b) with
| true=>rfl
| false=>rw[e] at h;cases h
obtain⟨e1,e2⟩:=Zh0 hoe hrd;obtain⟨hlen,hfits,hob,h124⟩:=Zt3 hoe;rw[e2];obtain⟨bd,hbd⟩:∃ bd,ob b=bd:=⟨_,rfl⟩
rw[hbd] at hrd h124 ⊢;unfold rdN at hrd;simp only[Qg,decide_eq_true_eq] at hrd;obtain⟨h78,hs,hm,hn⟩:=hrd;cases hc:Zaa (bd.drop 3) (Zez bd) with
| none=>rw[hc] at hs;cases hs
| some p =>
obtain⟨l,r⟩:=p;have hL:Z15 (bd.drop 3) (Zez bd)=l:=by simp[Z15,hc]
have hR:Zzs (bd.drop 3) (Zez bd)=r:=by simp[Zzs,hc]
obtain⟨c1,c2,c3⟩:=Zi5 hc;rw[hR] at hn;have hnd:ndN bd=(Z39 bd,l):=by rw[ndN,hL]
have hin:InN (ndN bd):=by
 rw[hnd];exact⟨Z0x bd,fun x hx=>(c3 x hx).2⟩
refine⟨hm,?_,hin⟩;have hsplit:bd=[78,bd[1]?.getD 0,bd[2]?.getD 0]++bd.drop 3:=by
 match bd,h124,h78 with
 | x::y::z::q,_,h78 =>
 simp at h78;simp[h78]
have hT:Zci (ndN bd)=[78,bd[1]?.getD 0,bd[2]?.getD 0]++Zdc l:=by
 rw[hnd,Zlf,c2];have e1:UInt8.ofNat (Z39 bd).toNat=bd[1]?.getD 0:=by simp[Z39]
 have e2:UInt8.ofNat (Zez bd)=bd[2]?.getD 0:=by simp[Zez]
 show [78,UInt8.ofNat (Z39 bd).toNat,UInt8.ofNat (Zez bd)]++Zdc l=_;rw[e1,e2]
have hbody:bd=Zci (ndN bd)++r:=by
 rw[hT,Qn,<- c1];exact hsplit
have hpad:Zoi (Zci (ndN bd))=bd:=by
 have hl2:(Zci (ndN bd)).length+r.length=124:=by
 have:=congrArg List.length hbody;rw[Qh,h124] at this;omega;rw[Zoi,show 124-(Zci (ndN bd)).length=r.length by omega,<- Znb hn];exact hbody.symm
show Zdk (Zci (ndN bd))=b;have hs:Zdk (Zci (ndN bd))=Zdk bd:=by
 unfold Zdk;rw[hpad,Zpd h124]
rw[hs,<- hbd,hob];exact Z0s hlen hfits}
theorem Ya9 {ok:Qan->Prop} {w:Qal} {d:Qam} {xs:List UInt8} (h:rBy ok w [d] xs):d.oneCell'=true:=by
 obtain⟨_,_,rfl,_⟩:=Zt h;rfl
theorem Z0i {P:Program} {w:Qal} (dT sT ty elem:Qap) (g o dLen dCap:Nat) (a:Qan) (sLen sCap:Nat) (C:List Qam) (t:Qap) (cs:List Qam) (k:Nat)
 (hu:P.underlying dT=some (.slice elem)) (hs:(P.info? elem).map (·.size)=some 5)
 (hg:w.heap[g]? = some (.cells C.toArray t (0,0))) (hk:Nat.min sLen dLen=k) (hn:cs.length=k*5)
 (hsrc:∀ j v,cs[j]? = some v->w.cell? (a.add j)=some v) (hfit:o+cs.length<=C.length) (h1:∀ v∈cs,v.oneCell'=true) :
 (Qac #[dT,sT] ty #[.slice (some ⟨g,o,none⟩) dLen dCap,.slice (some a) sLen sCap]).run P w=.ok (goInt k) (w.setRow g (splice C o cs).toArray):=by
 have hl:=run_loadCells_list (P:=P) w a cs hsrc;have hst:=run_storeCells_at P g o t cs 0 C.toArray w hg (by simpa using hfit) h1;have hf:(Pf 5 k (.slice (some a) sLen sCap)).run P w=.ok cs.toArray w:=by
 have:=run_firstCells_some (P:=P) w 5 k a sLen sCap cs (by omega) hsrc;exact this;cases hq:P.info? elem with
 | none=>simp[hq] at hs
 | some i =>
 have hi:i.size=5:=by simpa [hq] using hs
 simp only[Nat.add_zero] at hst;simp[Qac,run_underlying hu,Pe,sizeOf,typeInfo,hq,hi,hk,hf,hst,splice]
theorem Zdg {w:Qal} {g:Nat} (cs:Array Qam):w.grownBy (w.setRow g cs) (some g) :=
 ⟨rfl,rfl,rfl,by simp[Qbi],fun k _ hne=>setRow_other w g k cs (fun e=>hne (by rw[e]))⟩
theorem Xz {w w2:Qal} {r:Option Nat} (h:w.drew.grownBy w2 r):w.grownBy w2 r:=⟨h.os,h.tape,h.output,h.size,h.block⟩
theorem Y3 {P:Program} {w:Qal} {ops:Array Qao} {rest:List Qao} {o:Qao} {a:Act} {Q:Exit->Act->Qal->Prop} (hgd:o.guard=none) (d s:Qbj) (dT sT:Qap)
 (ho:o.op=.call { callee:=.builtin .copy,args:=#[d,s],argTypes:=#[dT,sT] }) (elem:Qap) (hu:P.underlying dT=some (.slice elem)) (hsz:(P.info? elem).map (·.size)=some 5)
 (dp sp:Option Qan) (dLen dCap sLen sCap:Nat) (hd:a.eval d=.slice dp dLen dCap) (hs:a.eval s=.slice sp sLen sCap)
 (g off:Nat) (C:List Qam) (t:Qap) (hg:w.heap[g]? = some (.cells C.toArray t (0,0))) (cs:List Qam) (k:Nat) (hk:Nat.min sLen dLen=k) (hn:cs.length=k*5)
 (hdp:dp=some ⟨g,off,none⟩) (ad:Qan) (hsp:sp=some ad) (hsrc:∀ j v,cs[j]? = some v->w.cell? (ad.add j)=some v)
 (hfit:off+cs.length<=C.length) (h1:∀ v∈cs,v.oneCell'=true)
 (h:∀ w',Hid (w'.heap[g]? = some (.cells (splice C off cs).toArray t (0,0)))->Hid (w.grownBy w' (some g))->wpList P ops Q rest (a.put o.dst (goInt k)) w') :
 wpList P ops Q (o::rest) a w:=by
 subst hdp;subst hsp;refine wpList_plain hgd fun K hK => ?_
 have hrun:=Z0i (P:=P) dT sT o.type elem g off dLen dCap ad sLen sCap C t cs k hu hsz hg hk hn hsrc hfit h1;unfold Oper.wp;simp[execOp,ho,resolve,invoke,builtin,hd,hs,hrun,Result.andThen];exact hK _ _ (h _ (show _=_ by simpa using setRow_heap w g _ _ t _ hg) (Zdg _))
theorem Zbq {C Y:List Qam} {a:Nat} (h:a<=C.length):(splice C a Y).take (a+Y.length)=C.take a++Y:=by
 unfold splice;rw[<- Qn,Q9 (by simp;omega)];exact Qf (by simp;omega)
theorem Zd0 {C Y X:List Qam} {a b:Nat} (hb:b=a+Y.length) (h:b+X.length<=C.length):(splice (splice C a Y) b X).take (b+X.length)=C.take a++(Y++X):=by
 subst hb;have hl:(splice C a Y).length=C.length:=length_splice C a Y (by omega);rw[Zbq (by rw[hl];omega),Zbq (by omega),Qn]
theorem Zi4 {C Y X:List Qam} {a b:Nat} (hb:b=a+Y.length) (h:b+X.length<=C.length):(splice (splice C b X) a Y).take (b+X.length)=C.take a++(Y++X):=by{
subst hb;have hl:(splice C (a+Y.length) X).length=C.length:=length_splice C _ X (by omega);have e1:(splice C (a+Y.length) X).take a=C.take a:=by
unfold splice;rw[Q9 (by simp;omega),Q4,Qm (by omega)];have e2:((splice C (a+Y.length) X).drop (a+Y.length)).take X.length=X:=by
unfold splice;rw[Qae,Q3 (by rw[Qo];exact Nat.min_le_left _ _),Qo,Qm (by omega),Nat.sub_self,Qq,Ph,Q9 (by simp),Qf (by simp)];generalize splice C (a+Y.length) X=S at *;unfold splice;rw[e1,<- Qn,Qaf,Qf (by simp;omega),Qn]
congr 2
rw[show a+Y.length+X.length-(C.take a++Y).length=X.length by simp;omega];exact e2}
theorem Yl:∀ (a b:List Iv),Zj (a++b)=Zj a++Zj b
 | [],_=>rfl
 | x::r,b=>by
 show Zbp x++Zj (r++b)=(Zbp x++Zj r)++Zj b;rw[Yl r b,Qn]
theorem Ze7 (x:Iv) (r:List Iv):Zj (x::r)=Zbp x++Zj r:=rfl
theorem X4:∀ (ps:List Iv) (k:Nat),Zj (ps.take k)=(Zj ps).take (k*5)
 | [],k=>by
 rw[Qag];exact Qag.symm
 | x::r,0=>by
 rw[Po,Qx,Qx];rfl
 | x::r,k+1=>by
 rw[Ps,Ze7,Ze7,X4 r k,Qaf,show (Zbp x).length=5 from rfl,show (k+1)*5-5=k*5 by omega,Qf (show (Zbp x).length<=(k+1)*5 by show 5<=_;omega)]
theorem Zjo:∀ (ps:List Iv) (k:Nat),Zj (ps.drop k)=(Zj ps).drop (k*5)
 | [],k=>by
 rw[Qah];exact Qah.symm
 | x::r,0=>by
 rw[Po,Qq,Qq]
 | x::r,k+1=>by
 rw[Pt,Ze7,Zjo r k,Qae,show (Zbp x).length=5 from rfl,show (k+1)*5-5=k*5 by omega,Q3 (show (Zbp x).length<=(k+1)*5 by show 5<=_;omega),Ph]
theorem Yg {w:Qal} {lo n c:Nat} {ad:Qan} {t:Qap} {xs:List Qam} (h:w.ownsRow lo t 5 (.slice (some ad) n c) n xs) :
 ∃ b C,ad=⟨b,0,none⟩/\lo<=b/\b<w.heap.size/\w.heap[b]? = some (.cells (Pq C) t (0,0))/\n<=c/\c<=maxLen/\C.length=c*5/\C.take (n*5)=xs:=by
 rcases h.2 with ⟨e,_⟩ | ⟨g,cap,cur,e,hb,hg,h1,h2,h3,h4⟩
 ·cases e
 ·cases e
 exact⟨g,cur.toList,rfl,hb,(Pa.1 hg).1,by simpa using hg,h1,h2,by simpa using h3,h4⟩
theorem Xq {w:Qal} {lo b n c:Nat} {t:Qap} {C xs:List Qam} (hb:lo<=b) (hg:w.heap[b]? = some (.cells C.toArray t (0,0))) (h1:n<=c) (h2:c<=maxLen) (h3:C.length=c*5) (h4:C.take (n*5)=xs):w.ownsRow lo t 5 (.slice (some ⟨b,0,none⟩) n c) n xs :=
 ⟨by rw[<- h4,Qo,h3];omega,.inr ⟨b,c,C.toArray,rfl,hb,hg,h1,h2,by simpa using h3,by simpa using h4⟩⟩
theorem Zpk {w:Qal} {lo n c k:Nat} {ad:Qan} {t:Qap} {xs:List Qam} (h:w.ownsRow lo t 5 (.slice (some ad) n c) n xs) (hk:k<=n):w.ownsRow lo t 5 (.slice (some ad) k c) k (xs.take (k*5)):=by
 obtain⟨b,C,rfl,hb,_,hg,h1,h2,h3,h4⟩:=Yg h;refine Xq hb hg (by omega) h2 h3 ?_;rw[<- h4,Q4,Qm (by omega)]
theorem Zbd {w:Qal} {lo n c:Nat} {b:Nat} {t:Qap} {ps:List Iv} (h:w.ownsRow lo t 5 (.slice (some ⟨b,0,none⟩) n c) n (Zj ps)) (k:Nat):∀ j v,(Zj (ps.drop k))[j]? = some v->w.cell? ((⟨b,k*5,none⟩:Qan).add j)=some v:=fun j v hj=>by
 rw[Zjo,Pm] at hj;have:=h.cells (g:=b) rfl _ _ hj;rw[Zah] at this ⊢
 rwa [Qv] at this
theorem Zb1 {ps:List Iv} {n:Nat} {w:Qal} {lo:Nat} {t:Qap} {v:Qam} (h:w.ownsRow lo t 5 v n (Zj ps)):ps.length=n:=by
 have:=h.1;rw[Y0] at this;omega
theorem X9:(Tryz.prog.info? 54).map (·.size)=some 5:=by kernel_rfl
theorem Vx {a b k:Nat} (h:(a<=b/\k=a)\/(b<=a/\k=b)):Nat.min a b=k:=by
 rcases h with ⟨h1,rfl⟩ | ⟨h1,rfl⟩
 ·exact Qm h1
 ·exact Nat.min_eq_right h1
theorem Zjv {w:Qal} {a b oa ob la ca lb cb:Nat} {Ca Cb:List Qam} {ta tb:Qap} (ha:w.heap[a]? = some (.cells Ca.toArray ta (0,0))) (hb:w.heap[b]? = some (.cells Cb.toArray tb (0,0))) (hne:a≠b) (h0:Cb.length≠0) :
 (callFunc 86 #[.slice (some ⟨a,oa,none⟩) la ca,.slice (some ⟨b,ob,none⟩) lb cb]).run Tryz.prog w=.ok (.value (.bool false)) w:=by
 obtain⟨i0,hi,hz0,hz1,hz2⟩:=info_parts Va
 rw[run_callFunc_extern Tryz.func86 (by kernel_rfl) (by kernel_rfl) (by kernel_rfl) (e:=Extern.SlicesOverlaps.overlaps #[39,39] #[4]) (by kernel_rfl),
 Lib.run_overlaps_apart w 39 4 54 Tryz.underlying39 5 (fun w=>by simp[sizeOf,typeInfo,hi,hz1]) ⟨a,oa,none⟩ ⟨b,ob,none⟩ la ca lb cb hne ta tb Ca.length Cb.length (by simp[Qai,ha]) (by simp[Qai,hb]) h0 (by simp[Pj,ha]) (by simp[Pj,ha])]
 rfl
theorem Zqa {w:Qal} {lo n c i k:Nat} {ad:Qan} {ps:List Iv} (h:w.ownsRow lo 54 5 (.slice (some ad) n c) n (Zj ps)) (hi:i<=n) (hk:0<k) (hc:c<i+k) (hb:i+k<=1000) :
 ∃ c' w1 Z,(Ql #[39,3] 39 #[.slice (some ad) i c,.int .i64 (k:Int)]).run Tryz.prog w=.ok (.slice (some ⟨w.heap.size,0,none⟩) (i+k) c') w1 /\
 w1.heap[w.heap.size]? = some (.cells (Pq Z) 54 (0,0))/\Z.length=c'*5/\i+k<=c'/\c'<=maxLen/\Z.take (i*5)=Zj (ps.take i)/\Qat w.heap.size w w1/\w1.heap.size=w.heap.size+1:=by
 obtain⟨i0,hi0,hz0,hz1,hz2⟩:=info_parts Va;have hl:=Zpk h hi;obtain⟨b,C,rfl,_,hbs,hg,_,_,h3,h4⟩:=Yg hl;have hc1:∀ j v,((Zj ps).take (i*5))[j]? = some v->w.drew.cell? ((⟨b,0,none⟩:Qan).add j)=some v:=fun j v hj=>hl.cells (g:=b) rfl j v hj
 have hlen:((Zj ps).take (i*5)).length=i*i0.size:=by rw[hz1];exact hl.1
 have Zbj:=run_firstCells_some (P:=Tryz.prog) w.drew i0.size i ⟨b,0,none⟩ i c _ hlen hc1;have hn:=nextslicecap_le (need:=i+k) (old:=c) hc;have hr:=Lib.run_append_grow_zeros (P:=Tryz.prog) w 39 3 39 54 i0 (.agg #[.int .u8 0,.int .u32 0,.int .u32 0,.int .i64 0,.slice none 0 0]) .i64 .i64 Tryz.underlying39 Tryz.underlying3 hi0 hz0
 (some ⟨b,0,none⟩) i c _ Zbj k hk (by omega) hc (by omega) (by rw[hz2];omega) (by rw[hz2];omega)
 have hge:=grownCap_ge w (i+k) c 54;have s1:=size_zeroCells (Value.agg #[.int .u8 0,.int .u32 0,.int .u32 0,.int .i64 0,.slice none 0 0]).cells k;have s2:=size_zeroCells (Value.agg #[.int .u8 0,.int .u32 0,.int .u32 0,.int .i64 0,.slice none 0 0]).cells (grownCap w (i+k) c 54-(i+k));rw[show (Value.agg #[Value.int .u8 0,Value.int .u32 0,Value.int .u32 0,Value.int .i64 0,Value.slice none 0 0]).cells.size=5 from rfl] at s1 s2;generalize Qw (Value.agg #[.int .u8 0,.int .u32 0,.int .u32 0,.int .i64 0,.slice none 0 0]).cells k=z1 at *;generalize Qw (Value.agg #[.int .u8 0,.int .u32 0,.int .u32 0,.int .i64 0,.slice none 0 0]).cells (grownCap w (i+k) c 54-(i+k))=z2 at *;have hcm:=grownCap_le_maxLen w (i+k) c 54 (by unfold maxLen;omega);have h5:((Zj ps).take (i*5)).length=i*5:=by rw[hlen,hz1]
 generalize hX:(Zj ps).take (i*5)=X at *;refine⟨_,_,X++z1.toList++z2.toList,hr,?_,?_,hge,hcm,?_,((Qb _ w).drew).alloc (Qc _) _,by simp⟩
 ·have:=Qar w.drew (.cells (X.toArray++z1++z2) 54)
 refine this.trans ?_;rw[show (X++z1.toList++z2.toList).toArray=X.toArray++z1++z2 from Array.ext' (by simp)]
 ·rw[Qh,Qh,h5,Qaj,Qaj,s1,s2]
 omega
 ·rw[Qn,Q9 (by omega),Qf (by omega),X4,hX]
def Zrj (lo:Nat) (w:Qal) (A:Option Qan) (L:List Iv) (e:Ending) (w':Qal):Prop:=∃ A' c',e=.returned (.slice A' L.length c')/\w'.ownsRow lo 54 5 (.slice A' L.length c') L.length (Zj L)/\w.grownBy w' (A.map (·.block))
theorem Zwi (A:Option Qan) (lo lf n c fb m fc i:Nat) (ps qs:List Iv) (w:Qal) (h:w.ownsRow lo 54 5 (.slice A n c) n (Zj ps)) (hf:w.ownsRow lf 54 5 (.slice (some ⟨fb,0,none⟩) m fc) m (Zj qs))
 (hne:A.map (·.block)≠some fb) (hi:i<=n) (hm:0<m) (hbig:n+m<=1000) (hp1:∀ p∈ps,p.2.oneCell'=true) (hq1:∀ p∈qs,p.2.oneCell'=true) (hlo:lo<=w.heap.size) :
 Qas Tryz.prog 85 #[.slice A n c,.int .i64 i,.slice (some ⟨fb,0,none⟩) m fc] w (Zrj lo w A (ps.take i++(qs++ps.drop i))):=by
 have hpl:=Zb1 h;have hql:=Zb1 hf;obtain⟨i0,hi0,hz0,hz1,hz2⟩:=info_parts Va;have hqc:∀ j v,(Zj qs)[j]? = some v->w.cell? ((⟨fb,0,none⟩:Qan).add j)=some v:=fun j v hj=>hf.cells (g:=fb) rfl j v hj
 have hq5:(Zj qs).length=m*5:=hf.1;have hone:=Xh hp1;have honq:=Xh hq1;have ec:∃ A1 c1,Value.slice A n c=.slice A1 n c1/\n<=c1/\c1<=9223372036854775807:=by
 obtain⟨A1,c1,e,h1,h2,_⟩:=Yi h;exact⟨A1,c1,e,h1,h2⟩;obtain⟨A1,c1,e,hnc,hcm⟩:=ec;cases e;have hm0:¬ ((m:Int)=0):=by omega
 have hin:(i:Int)<=n:=by omega
 have hic:(i:Int)<=c:=by omega
 by_cases hie:i=n
 ·subst hie
 obtain⟨v',w',hr,o1,g1,b1,k1⟩:=Zco (P:=Tryz.prog) (w:=w) lo 39 39 54 i0 (.agg #[.int .u8 0,.int .u32 0,.int .u32 0,.int .i64 0,.slice none 0 0]) 5 48 Tryz.underlying39 hi0 hz0 hz1 hz2 rfl (by decide) _ _ (Zj ps) h ⟨fb,0,none⟩ m fc (Zj qs) hq5 hqc honq (by unfold maxLen;omega) (by omega) hlo;obtain⟨A2,c2,rfl,_⟩:=Yi o1;have eL:ps.take i++(qs++ps.drop i)=ps++qs:=by rw[Qf (by omega),Q3 (by omega),Qak]
 have hfin:Hid (Zrj lo w A (ps.take i++(qs++ps.drop i)) (.returned (.slice A2 (i+m) c2)) w'):=Za (by
 rw[eL];refine⟨A2,c2,by rw[Qh,hpl,hql],?_,?_⟩
 ·rw[Yl,Qh,hpl,hql]
 exact o1
 ·have e4:(Value.slice A i c).ownBlock=A.map (·.block):=by cases A <;> rfl
 rw[<- e4]
 exact g1)
 have H:=Za hr;clear hr o1 g1 b1 k1 h hf hqc hone honq hp1 hq1 hne;by_cases hcc:i=c
 ·subst hcc
 go_enter Tryz.func85,Tryz.ntmps85
 go_wp2_with (at_builtin;refine Zp rfl _ _ _ rfl rfl rfl H.out ?_;clear H)
 go_ret;exact hfin.out
 ·have hcc':¬ c=i:=fun e=>hcc e.symm
 cases A with
 | none =>
 go_enter Tryz.func85,Tryz.ntmps85
 go_wp2_with (at_builtin;refine Zp rfl _ _ _ rfl rfl rfl H.out ?_;clear H)
 go_ret;exact hfin.out
 | some ad =>
 go_enter Tryz.func85,Tryz.ntmps85
 go_wp2_with (at_builtin;refine Zp rfl _ _ _ rfl rfl rfl H.out ?_;clear H)
 go_ret;exact hfin.out;have hin':i<n:=by omega
 obtain⟨ad,rfl⟩:∃ ad,A=some ad:=by
 obtain⟨_,_,e,_,_,_,h5⟩:=Yi h;cases e;exact h5 (by omega);obtain⟨b,C,rfl,hbl,hbs,hg,_,hcM,hC5,hC⟩:=Yg h;have hbf:b≠fb:=fun e=>hne (by rw[e];rfl)
 obtain⟨fb',Cf,e,_,hfs,hgf,_,_,hCf5,hCf⟩:=Yg hf;obtain rfl:fb=fb':=by cases e;rfl
 have hni:¬ ((i:Int)=(n:Int)):=by omega
 have hw1:IntKind.i64.wrap ((n:Int)+(m:Int))=(n:Int)+(m:Int):=by rw[IntKind.wrap_i64];omega
 have hw2:IntKind.i64.wrap ((n:Int)+(m:Int)-(i:Int))=(n:Int)+(m:Int)-(i:Int):=by rw[IntKind.wrap_i64];omega
 have hw3:IntKind.i64.wrap ((i:Int)+(m:Int))=(i:Int)+(m:Int):=by rw[IntKind.wrap_i64];omega
 have hic':¬ c=i:=by omega
 have hcn:c<=9223372036854775807:=hcm;by_cases hroom:n+m<=c
 ·have hgt:¬ ((c:Int)<(n:Int)+(m:Int)):=by omega
 have hov:∀ lb cb ob,(callFunc 86 #[.slice (some ⟨fb,0,none⟩) m fc,.slice (some ⟨b,ob,none⟩) lb cb]).run Tryz.prog w=.ok (.value (.bool false)) w:=fun lb cb ob=>Zjv hgf hg (fun e=>hbf e.symm) (by omega)
 have r1:(n:Int)+(m:Int)<=c:=by omega
 have r2:¬ c=i+m:=by omega
 have r3:(i:Int)+(m:Int)<=(n:Int)+(m:Int):=by omega
 have r6:(i:Int)<=(n:Int)+(m:Int):=by omega
 have r7:(0:Int)<=(i:Int)+(m:Int):=by omega
 have HO:=Za (Xh (ps:=ps.drop i) fun p hp=>hp1 p (Pr hp));have HQ:=Za honq;have r4:((i:Int)+(m:Int)).toNat=i+m:=by omega
 have r5:((n:Int)+(m:Int)).toNat=n+m:=by omega
 replace hov:=Za hov;replace hgf:=Za hgf;replace hg:=Za hg;replace hC:=Za hC;replace hCf:=Za hCf;replace hpl:=Za hpl;replace hql:=Za hql;replace hC5:=Za hC5;replace hCf5:=Za hCf5;clear hqc hone honq hp1 hq1 hne
 go_enter Tryz.func85,Tryz.ntmps85
 go_upto_region 15 with (simp only[hov.out])
 go_still_tail 8,(by kernel_rfl)
 change wpList _ _ _ _ _ w.drew;refine Y3 rfl _ _ 39 39 rfl 54 Tryz.underlying39 X9 _ _ _ _ _ _ rfl rfl b ((i+m)*5) C 54 hg.out (Zj (ps.drop i)) (n-i) (Vx (by omega)) (by rw[Y0,Qp,hpl.out]) rfl ⟨b,i*5,none⟩ rfl (Zbd (w:=w) h i) (by rw[Y0,Qp,hpl.out,hC5.out];omega) HO.out ?_;intro w2 hg2 hb2;have S1:=Za (length_splice C ((i+m)*5) (Zj (ps.drop i)) (by rw[Y0,Qp,hpl.out,hC5.out];omega));have Q2:Hid (∀ j v,(Zj qs)[j]? = some v->w2.cell? ((⟨fb,0,none⟩:Qan).add j)=some v):=Za fun j v hj=>by
 have hc:=hf.cells (g:=fb) rfl j v hj;refine(Qr ?_).trans hc;rw[Zh];exact hb2.out.block fb hfs (fun e=>hbf (by cases e;rfl));have hfin:∀ W,W.heap[b]? = some (.cells (splice (splice C ((i+m)*5) (Zj (ps.drop i))) (i*5) (Zj qs)).toArray 54 (0,0))->w2.grownBy W (some b)->Zrj lo w (some ⟨b,0,none⟩) (ps.take i++(qs++ps.drop i)) (.returned (.slice (some ⟨b,0,none⟩) (n+m) c)) W:=fun W h1 h2=>by
 have el:(ps.take i++(qs++ps.drop i)).length=n+m:=by rw[Qh,Qh,Qo,Qp,hpl.out,hql.out];omega
 refine⟨_,c,by rw[el],?_,Yv (Xz hb2.out) h2⟩;rw[el];refine Xq hbl h1 hroom hcM (by rw[length_splice _ _ _ (by rw[S1.out,hq5,hC5.out];omega),S1.out,hC5.out]) ?_;rw[Yl,Yl,X4,<- hC.out,Q4,Qm (by omega)];have hd:(Zj (ps.drop i)).length=(n-i)*5:=by rw[Y0,Qp,hpl.out]
 have:=Zi4 (C:=C) (Y:=Zj qs) (X:=Zj (ps.drop i)) (a:=i*5) (b:=(i+m)*5) (by rw[hq5];omega) (by rw[hd,hC5.out];omega);rw[hd,show (i+m)*5+(n-i)*5=(n+m)*5 by omega] at this;exact this;replace hfin:=Za hfin;have hroom':=Za hroom;clear h hf hC hCf hCf5 hpl hql
 go_wp2_with (refine Y3 rfl _ _ 39 39 rfl 54 Tryz.underlying39 X9 _ _ _ _ _ _ rfl rfl b (i*5) _ 54 hg2.out (Zj qs) m (Vx (by omega)) hq5 rfl ⟨fb,0,none⟩ rfl Q2.out (by rw[S1.out,hq5,hC5.out];have:=hroom'.out;omega) HQ.out ?_;intro w3 hg3 hb3)
 go_ret;exact hfin.out _ hg3.out hb3.out
 ·have hgt:((c:Int)<(n:Int)+(m:Int)):=by omega
 obtain⟨c',w1,Z,hr,hg1,hZ5,hZc,hZm,hZt,hB1,hs1⟩:=Zqa (i:=i) (k:=n+m-i) h hi (by omega) (by omega) (by omega);rw[show i+(n+m-i)=n+m by omega] at hr hZc;rw[show ((n+m-i:Nat):Int)=(n:Int)+(m:Int)-(i:Int) by omega] at hr;have r1:(0:Int)<=(i:Int)+(m:Int):=by omega
 have r2:¬ c'=i+m:=by omega
 have r3:(i:Int)+(m:Int)<=(n:Int)+(m:Int):=by omega
 have r4:((i:Int)+(m:Int)).toNat=i+m:=by omega
 have r5:¬ c'=i:=by omega
 have r6:(i:Int)<=(n:Int)+(m:Int):=by omega
 have HO:=Za (Xh (ps:=ps.drop i) fun p hp=>hp1 p (Pr hp));have HQ:=Za honq;have Q1:Hid (∀ j v,(Zj qs)[j]? = some v->w1.cell? ((⟨fb,0,none⟩:Qan).add j)=some v):=Za fun j v hj=>(hB1.cell (by rw[Zh];exact hfs)).trans (hf.cells (g:=fb) rfl j v hj)
 have S1:=Za (length_splice Z (i*5) (Zj qs) (by rw[hq5,hZ5];omega));have G1:=Za hg1;have HR:=Za hr;have hd:Hid ((Zj (ps.drop i)).length=(n-i)*5):=Za (by rw[Y0,Qp,hpl]);have hz5:=Za hZ5;have P2:Hid (∀ w2,w1.grownBy w2 (some w.heap.size)->∀ j v,(Zj (ps.drop i))[j]? = some v->w2.cell? ((⟨b,i*5,none⟩:Qan).add j)=some v):=Za fun w2 hb2 j v hj=>by
 refine(Qr ?_).trans ((hB1.cell (by rw[Zh];exact hbs)).trans (Zbd h i j v hj));rw[Zh];exact hb2.block b (by omega) (fun e=>by cases e;omega);have hfin:∀ W w2,w1.grownBy w2 (some w.heap.size)->W.heap[w.heap.size]? = some (.cells (splice (splice Z (i*5) (Zj qs)) ((i+m)*5) (Zj (ps.drop i))).toArray 54 (0,0))->w2.grownBy W (some w.heap.size)->Zrj lo w (some ⟨b,0,none⟩) (ps.take i++(qs++ps.drop i)) (.returned (.slice (some ⟨w.heap.size,0,none⟩) (n+m) c')) W:=fun W w2 h0 h1 h2=>by
 have el:(ps.take i++(qs++ps.drop i)).length=n+m:=by rw[Qh,Qh,Qo,Qp,hpl,hql];omega
 have hB:Qat w.heap.size w W:=(hB1.grown h0 hB1.size (fun k e=>by cases e;exact Qc _)).grown h2 (by have:=h0.size;omega) (fun k e=>by cases e;exact Qc _);refine⟨_,c',by rw[el],?_,⟨hB.os,hB.tape,hB.output,hB.size,fun k hk _=>hB.block k hk⟩⟩;rw[el];refine Xq hlo h1 hZc hZm (by rw[length_splice _ _ _ (by rw[S1.out,hd.out,hZ5];omega),S1.out,hZ5]) ?_;rw[Yl,Yl,<- hZt];have:=Zd0 (C:=Z) (Y:=Zj qs) (X:=Zj (ps.drop i)) (a:=i*5) (b:=(i+m)*5) (by rw[hq5];omega) (by rw[hd.out,hZ5];omega);rw[hd.out,show (i+m)*5+(n-i)*5=(n+m)*5 by omega] at this;exact this;replace hfin:=Za hfin;replace hZc:=Za hZc;replace hs1:=Za hs1;clear hqc hone honq hp1 hq1 hne h hf hC hC5 hCf hCf5 hpl hql hr hg1 hZ5 hZt hB1 hg hgf
 go_enter Tryz.func85,Tryz.ntmps85
 go_upto_region 11 with (first | (at_builtin;refine Vg rfl _ _ _ _ rfl rfl rfl HR.out ?_) | (refine Y3 rfl _ _ 39 39 rfl 54 Tryz.underlying39 X9 _ _ _ _ _ _ rfl rfl w.heap.size (i*5) _ 54 G1.out (Zj qs) m (Vx (by omega)) hq5 rfl ⟨fb,0,none⟩ rfl Q1.out (by rw[hz5.out,hq5];have:=hZc.out;omega) HQ.out ?_;intro w2 hg2 hb2))
 go_still_tail 8,(by kernel_rfl)
 refine Y3 rfl _ _ 39 39 rfl 54 Tryz.underlying39 X9 _ _ _ _ _ _ rfl rfl w.heap.size ((i+m)*5) _ 54 hg2.out (Zj (ps.drop i)) (n-i) (Vx (by omega)) hd.out rfl ⟨b,i*5,none⟩ rfl (P2.out w2 hb2.out) (by rw[S1.out,hd.out,hz5.out];have:=hZc.out;omega) HO.out ?_;intro w3 hg3 hb3
 go_wp2_with fail
 go_ret;exact hfin.out _ _ hb2.out hg3.out (Xz hb3.out)
def Zbs (t:List UInt8):Bool:=decide (t.length=256)&&(t.take 8).all (· == 0)
def Z3x (t:List UInt8):Int:=if Zbs t then 0 else 8
theorem Zje {t:List UInt8} (h:Zbs t=true):Z3x t=0:=by simp[Z3x,h]
theorem Zh4 {t:List UInt8} (h:Zbs t=false):Z3x t=8:=by simp[Z3x,h]
theorem Yx {t:List UInt8} (h:Zbs t=true):t.length=256:=by
 simp only[Zbs,Qg,decide_eq_true_eq] at h;exact h.1
theorem Zvi {t:List UInt8} (h:t.length≠256):Zbs t=false:=by simp[Zbs,h]
theorem Zht {t:List UInt8} (h:t.length=256) (ha:∀ j,j<8->t[j]?.getD 0=0):Zbs t=true:=by
 simp only[Zbs,Qg,decide_eq_true_eq,Qk];refine⟨h,fun x hx => ?_⟩;obtain⟨j,hj,rfl⟩:=Pn.1 hx;have hj8:j<8:=by simp at hj;omega
 have:=ha j hj8;rw[Qe (by omega)] at this
 simpa using this
theorem Zmr {t:List UInt8} (h:Zbs t=true) {j:Nat} (hj:j<8):t[j]?.getD 0=0:=by
 have hl:=Yx h;simp only[Zbs,Qg,Qk] at h;have:=h.2 (t[j]'(by omega)) (Pn.2 ⟨j,by simp;omega,by simp⟩);rw[Qe (by omega)]
 simpa using this
theorem Z8g {t:List UInt8} {k:Nat} (hk:k<8) (h:t[k]?.getD 0≠0):Zbs t=false:=by
 cases hm:Zbs t with
 | false=>rfl
 | true=>exact absurd (Zmr hm hk) h
theorem Z62 {x:UInt8} (h:¬ (x.toNat:Int)=0):x≠0:=fun e=>h (by rw[e];rfl)
theorem Z72 {x:UInt8} (h:(x.toNat:Int)=0):x=0:=UInt8.toNat.inj (by simpa using h)
theorem Zr2 {b:List UInt8} {k:Nat} (ha:∀ j,j<k->b[j]?.getD 0=0) (h:b[k]?.getD 0=0):∀ j,j<k+1->b[j]?.getD 0=0:=fun j hj=>by
 rcases Qs j k with h1 | h1
 ·exact ha j h1
 ·obtain rfl:j=k:=by omega
 exact h
theorem Zay (A:Option Qan) (n c:Nat) (t:List UInt8) (hn:Hid (t.length=n)) (l1:n<=c) (m1:c<=9223372036854775807) (w:Qal) (h:Byt w w.heap.size A t) :
 Qas Tryz.prog 122 #[.slice A n c] w fun e w'=>e=.returned (.int .i64 (Z3x t))/\w=w':=by
 have HY:=Za h;clear h;by_cases h256:n=256
 ·obtain⟨ad,rfl,_,hc⟩:=HY.out (by rw[hn.out];omega)
 subst h256;replace hc:=Za hc
 go_enter Tryz.func122,Tryz.ntmps122
 go_wp2_with fail
 go_loop [11] (fun i=>∃ k:Nat,k<=8/\i=.int .i64 k/\∀ j,j<k->t[j]?.getD 0=0) (fun i=>8-(intOf i).toNat)
 case atStart=>exact⟨0,by omega,rfl,fun j hj=>by omega⟩
 case round =>
 obtain⟨k,hk,rfl,ha⟩:=hrel;replace ha:=Za ha;by_cases hlt:k<8
 ·have hcell:=hc.out k (by rw[hn.out];omega)
 have hyes:=Za (fun h=>Z8g (t:=t) hlt h);have hno:=Za (fun h=>Zr2 (b:=t) (k:=k) ha.out h);obtain⟨x,hx⟩:∃ x,t[k]?.getD 0=x:=⟨_,rfl⟩
 rw[hx] at hcell hyes hno;replace hx:=Za hx;by_cases h0:(x.toNat:Int)=0
 ·have t0:((x.toNat:Int) != 0)=false:=by simpa using h0
  have hall:=Za (hno.out (Z72 h0));replace h0:=Za h0
  go_wp2_with fail
  go_round
  case rel=>exact⟨k+1,by omega,by go_num,hall.out⟩
  case measure=>simp[intOf];omega
 ·have t0:((x.toNat:Int) != 0)=true:=by simpa using h0
  have hr:=Za (Zh4 (hyes.out (Z62 h0)));replace h0:=Za h0
  go_wp2_with fail
  go_ret;exact⟨Z1 hr.out.symm,rfl⟩
 ·have hr:=Za (Zje (Zht (t:=t) hn.out fun j hj=>ha.out j (by omega)))
 go_wp2_with fail
 go_ret;exact⟨Z1 hr.out.symm,rfl⟩
 ·have hr:=Za (Zh4 (Zvi (t:=t) (by rw[hn.out];exact h256)))
 have i1:((n:Int) != 256)=true:=by simp;omega
 go_enter Tryz.func122,Tryz.ntmps122
 go_wp2_with fail
 go_ret;exact⟨Z1 hr.out.symm,rfl⟩
theorem Zwr (w:Qal):Qas Tryz.prog 47 #[] w fun e w'=>e=.returned (.slice (some ⟨w.heap.size,0,none⟩) 256 256)/\w'=w.alloc (.cells (Znu (Zy 256)) 5):=by{
have hmk:(Instr.makeSlice 27 (.int .i64 256) (.int .i64 256)).run Tryz.prog w=.ok (.slice (some ⟨w.heap.size,0,none⟩) 256 256) (w.alloc (.cells (Znu (Zy 256)) 5)):=Zgw 256 (by omega) w
go_enter Tryz.func47,Tryz.ntmps47
go_wp2
go_ret;exact⟨rfl,rfl⟩}
def inT (n:Int):Bool:=decide (8<=n)&&decide (n<256)
theorem Znj {n:Int} (h:inT n=true):∃ k:Nat,n=k/\8<=k/\k<256:=by
 simp only[inT,Qg,decide_eq_true_eq] at h;exact⟨n.toNat,by omega,by omega,by omega⟩
theorem Zol {k:Nat} (h:8<=k) (h':k<256):inT (k:Int)=true:=by
 simp only[inT,Qg,decide_eq_true_eq];omega
theorem Zxw {n:Int} (h:inT n=false):n<8\/256<=n:=by
 simp only[inT,Bool.and_eq_false_iff,decide_eq_false_iff_not] at h;omega
theorem Vl {x y:UInt8} {q:Int} (hy:(y.toNat:Int)=q) (h:x=y):((x.toNat:Int)==q)=true:=by subst h;simpa using hy
theorem Xt {x y:UInt8} {q:Int} (hy:(y.toNat:Int)=q) (h:x≠y):((x.toNat:Int)==q)=false:=by
 cases he:(x.toNat:Int)==q with
 | false=>rfl
 | true=>exact absurd (UInt8.toNat.inj (by have:=beq_iff_eq.1 he;omega)) h
theorem Yax (w:Qal):rBy (New w.heap.size (w.alloc (.cells (Znu (Zy 256)) 5))) (w.alloc (.cells (Znu (Zy 256)) 5)) [.slice (some ⟨w.heap.size,0,none⟩) 256 256] (Zy 256):=by
 have:=Z6c w (Zy 256) (by rw[Zbt];omega)
 rwa [Zbt] at this
theorem Zp0 (w:Qal):Qas Tryz.prog 47 #[] w fun e w'=>∃ g,e=.returned (.slice (some ⟨g,0,none⟩) 256 256)/\rBy (New w.heap.size w') w' [.slice (some ⟨g,0,none⟩) 256 256] (Zy 256)/\Qat w.heap.size w w':=by
 refine(Zwr w).mono ?_;rintro e w' ⟨rfl,rfl⟩;exact⟨_,rfl,Yax w,Zdi (Qb _ _) _⟩
theorem Z8q (a:Int):(a<8/\inT a=false)\/(8<=a/\a<256/\inT a=true)\/(8<=a/\256<=a/\inT a=false):=by{
cases h:inT a with
| true =>
obtain⟨k,rfl,h1,h2⟩:=Znj h;exact .inr (.inl ⟨by omega,by omega,rfl⟩)
| false =>
rcases Zxw h with h1 | h1
·exact .inl ⟨h1,rfl⟩
·exact .inr (.inr ⟨by omega,h1,rfl⟩)}
abbrev Rm:=Dk×List UInt8×List UInt8
def Zi:Rm:=(Zc5,[],[])
def Xl (s:Rm):Bool:=Zbw s.1&&Zbs s.2.1&&Zbs s.2.2
def Z44 (s:Rm):Int:=if Xl s then 0 else 8
theorem Yf {s:Rm} (h:Xl s=true):Zbw s.1=true/\Zbs s.2.1=true/\Zbs s.2.2=true:=by
 unfold Xl at h;simp only[Qg] at h;exact⟨h.1.1,h.1.2,h.2⟩
theorem Zc0 {s:Rm} (h:Xl s=true):Z44 s=0:=by simp[Z44,h]
theorem Zec {s:Rm} (h:Xl s=false):Z44 s=8:=by simp[Z44,h]
def Zad (s:Rm) (i:Nat):Bool:=decide (s.2.1[i]?.getD 0=0)&&decide (s.2.2[i]?.getD 0=0)
def Zby (s:Rm) (k:Nat):List Nat:=(List.range' 8 k).filter (Zad s)
def Xv (s:Rm):List Nat:=Zby s 248
theorem Zzy {s:Rm} {i:Nat} (h:i∈Xv s):8<=i/\i<256/\s.2.1[i]?.getD 0=0/\s.2.2[i]?.getD 0=0:=by
 unfold Xv Zby at h;rw[List.mem_filter,List.mem_range'_1] at h;obtain⟨⟨h1,h2⟩,h3⟩:=h;simp only[Zad,Qg,decide_eq_true_eq] at h3;exact⟨h1,h2,h3.1,h3.2⟩
def tkE (s:Rm) (b:List UInt8):Int:=if Xl s then (if b.length=128 then (if (Xv s).isEmpty||decide (4096<=s.1.2.length) then 9 else 0) else 3) else 8
def tkK (s:Rm):Nat:=(Xv s)[0]?.getD 0
def tkN (s:Rm) (b:List UInt8):Int:=if tkE s b=0 then (tkK s:Int) else 0
def tkV (s:Rm) (b:List UInt8):Rm:=if tkE s b=0 then (wrD s.1 (tkK s) b,s.2.1.set (tkK s) 1,s.2.2) else Zi
theorem Zv2 {s:Rm} {b:List UInt8} (h:tkE s b≠0):tkN s b=0/\tkV s b=Zi:=⟨by rw[tkN,if_neg h],by rw[tkV,if_neg h]⟩
def asE (s:Rm) (n:Int):Int:=if Xl s then (if inT n then (if s.2.1[n.toNat]?.getD 0=0 then 6 else 0) else 2) else 8
theorem Ziu (s:Rm) (n:Int):(Xl s=false/\asE s n=8)\/(Xl s=true/\(n<8\/256<=n)/\asE s n=2)\/(∃ k:Nat,Xl s=true/\n=k/\8<=k/\k<256/\s.2.1[k]?.getD 0=0/\asE s n=6) \/
 (∃ k:Nat,Xl s=true/\n=k/\8<=k/\k<256/\s.2.1[k]?.getD 0≠0/\asE s n=0):=by
 cases hm:Xl s with
 | false=>exact .inl ⟨rfl,by simp[asE,hm]⟩
 | true =>
 cases hi:inT n with
 | false=>exact .inr (.inl ⟨rfl,Zxw hi,by simp[asE,hm,hi]⟩)
 | true =>
 obtain⟨k,rfl,h8,h256⟩:=Znj hi;by_cases hx:s.2.1[k]?.getD 0=0
 ·exact .inr (.inr (.inl ⟨k,rfl,rfl,h8,h256,hx,by simp[asE,hm,hi,hx]⟩))
 ·exact .inr (.inr (.inr ⟨k,rfl,rfl,h8,h256,hx,by simp[asE,hm,hi,hx]⟩))
end Go.Proofs.YtgmbjnajdfgenaaGreat
