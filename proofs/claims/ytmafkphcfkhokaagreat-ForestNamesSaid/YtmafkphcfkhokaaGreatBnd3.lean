/-
  Lemmas on the program and on the document's answers, gathered: FnPlain, Spoil05, NdBag, RmSame, CntWrite, RmAlive, DrPlain, FnLeaf, FnHeld, FnKeep, FnSpan, FnPlace, FnChain, RmRefN, FnInner, FnTree, FnOne, FnEnds, FnStands, WkPlain, WkMarks, FrPlain, WkTold, FrBase, FrRead, FrHang, FoVol, FrVol, FrVol2, NdTwin, NdTwin2, WkApp, PuCopy, FmPlain, FrItems, FrLook, FrVols, FrCnt, MrkNew. Conditions: those that each lemma states.
-/
import Derived.Test.YtmafkphcfkhokaaGreatBnd2
import Derived.WalkLawsBesides
import Derived.Sort.QuietIn
import Derived.Sort.CutIn
import Derived.RangeFuncNested
import Derived.Maps.OwnSet
import Derived.Laws.CopyOwn
import Derived.Deep.RegionLaw
import Derived.Lib.Overlaps
import Derived.Lib.AppendZerosOnto
set_option maxRecDepth 100000
set_option maxHeartbeats 16000000
open Array renaming getElem?_eq_some_iff → Qa, getElem?_modify → Qaq
open Bool renaming and_eq_true → Qi, or_eq_true → Qas
open Go renaming World → Qbh, Value → Qbi, Addr → Qbj, TypeId → Qbk, bodyPost_ret → Qbl, heap_alloc_new → Qbm, Calls → Qbn, Ending → Qbo
open Go.Act renaming put → Qc
open Go.Builtin renaming append_ → Pr, firstCells → Qae, lenOf → Qaf, copy_ → Qa6, clear_ → Qa7
open Go.IntWalk renaming i64_in → Qo
open Go.RowKit renaming Below → Qbp
open Go.RowKit.Below renaming refl → Qb
open Go.World renaming cell? → Qx, frozen? → Pg, putObj_heap_other → Pk, cell?_of_block → Qaa, putObj_size → Qab, setCell → Qap, putObj_heap_same → Qa0, alloc_heap_new → Qa1
open List renaming getElem?_eq_getElem → Qf, getElem?_eq_some_iff → Qg, mem_append → Qh, take_of_length_le → Qj, mem_singleton → Qk, mem_cons → Ql, length_take → Qn, length_map → Qp, flatMap_cons → Qq, length_append → Qr, mem_cons_of_mem → Qs, take_append_getElem → Qt, length_set → Qu, all_eq_true → Qw, mem_cons_self → Qy, drop_zero → Qz, pairwise_cons → Q0, length_cons → Q3, getElem?_drop → Q5, getElem?_of_mem → Q6, take_zero → Q7, append_assoc → Q8, mem_reverse → Pa, mem_flatMap → Pd, take_append_drop → Pe, cons_append → Ph, mem_of_getElem? → Pi, nil_append → Pj, length_drop → Pn, take_succ_cons → Po, drop_succ_cons → Pp, mem_of_find?_eq_some → Pt, mem_of_mem_take → Pu, mem_of_getLast? → Pw, range → Py, nodup_cons → Pz, foldl_cons → P5, length_singleton → P7, getElem?_append_right → Qad, take_append_of_le_length → Qag, length_nil → Qah, getElem?_replicate → Qai, pairwise_append → Qaj, find?_append → Qak, find?_cons → Qal, filter_eq_nil_iff → Qan, mem_iff_getElem? → Qao, getElem?_eq_none → Qar, getLast?_eq_some_getLast → Qat, reverse_append → Qau, eq_nil_of_length_eq_zero → Qav, nodup_append → Qaw, mem_append_left → Qax, mem_append_right → Qaz, length_take_le → Qa2, getElem_cons_drop → Qa3, mem_map → Qa4, getElem?_map → Qa5, take_take → Qa8, drop_append → Qa9, drop_of_length_le → Qba, take_append → Qbb, take_nil → Qbc, drop_nil → Qbd, replicate → Qbe, length_replicate → Qbf, mem_range → Qbg
open Nat renaming le_trans → Qd, le_refl → Qe, lt_of_lt_of_le → Qm, pow_le_pow_right → Qv, pow_succ → Q9, lt_or_ge → Pf, add_zero → Pm, min_eq_left → Pq, mul_le_mul_left → Ps, zero_add → Pv, strongRecOn → Px, mul_le_mul_right → P8, zero_mul → Qac, mul_le_mul → Qam, one_le_pow → Qay
noncomputable section
namespace Go.Proofs.YtmafkphcfkhokaaGreat
open Go.RowKit
def Zeb:Ky:=(0,0,0)
def Y6 (s:Rm) (l:List It):Bool:=l.all fun x=>decide (x.2.1=0)||decide (s.2.1[x.2.1.toNat]?.getD 0≠0)
def Zbn (f:Int->Ky->Ky->Bool->Bool):List It->Ky->Bool->Bool
 | [],_,_=>true
 | [x],tb,ends=>f x.2.1 x.1 tb ends
 | x::y::r,tb,ends=>f x.2.1 x.1 y.1 true&&Zbn f (y::r) tb ends
def Ze7 (l:List It) (k tb:Ky) (ends:Bool):Bool:=(match l[0]? with | none=>false | some x=>decide (x.1=k))&&(!ends||(match l.getLast? with | none=>false | some y=>Zr y.1 tb))
def Yy (s:Rm):Nat->Int->Ky->Ky->Bool->Bool
 | 0,a,k,tb,ends=>(decide (rmE s a=0)&&decide ((rmV s a).1=0))&&(Ze7 (rmV s a).2 k tb ends&&Y6 s (rmV s a).2)
 | l+1,a,k,tb,ends=>(decide (rmE s a=0)&&decide ((rmV s a).1=((l+1:Nat):Int)))&&(Ze7 (rmV s a).2 k tb ends&&Zbn (Yy s l) (rmV s a).2 tb ends)
def Ze4 (s:Rm) (n:Nd) (tb:Ky) (ends:Bool):Bool:=match n.1.toNat with
 | 0=>Y6 s n.2
 | l+1=>Zbn (Yy s l) n.2 tb ends
def Ub (s:Rm) (a:Int):Bool:=decide (rmE s a=0)&&Ze4 s (rmV s a) Zeb false
def ckE (s:Rm) (a:Int):Int:=if asE s a=0 then (if Ub s a then 0 else 8) else asE s a
def ckH (s:Rm) (a:Int):Int:=if ckE s a=0 then (rmV s a).1+1 else 0
def Ud (s:Rm):Nat->Int->List It
 | 0,a=>(rmV s a).2
 | l+1,a=>(rmV s a).2.flatMap fun x=>Ud s l x.2.1
def Zj1 (s:Rm):Nat->Int->Ky->Option It
 | 0,a,k=>(rmV s a).2.reverse.find? fun x=>decide (x.1=k)
 | l+1,a,k=>((rmV s a).2.reverse.find? fun x => !Zr k x.1).bind fun x=>Zj1 s l x.2.1 k
def Zc7 (s:Rm) (a:Int):List It:=Ud s (rmV s a).1.toNat a
def Zwq (s:Rm) (a:Int) (k:Ky):Option It:=Zj1 s (rmV s a).1.toNat a k
def Up (l:List It):Prop:=l.Pairwise fun x y=>Zr x.1 y.1=true
theorem Xe {s:Rm}{a:Int}(h:rmE s a=0):mayN (rmV s a)=true/\asE s a=0:=by{
 by_cases ha:asE s a=0
 ·obtain⟨k,_,_,_,_,_,_,hE,hV,_⟩:=Vy ha
  rw[hE] at h;rw[hV];exact⟨(Zdk h).1,ha⟩
 ·rw[(Zwo ha).1] at h
  exact absurd h ha}
theorem Zaq {n:Nd}(h:mayN n=true):Up n.2:=by
 rw[Up,List.pairwise_iff_getElem];intro i j hi hj hij;exact Ui h hij (Qf hi) (Qf hj)
theorem Ziu {x:It}{l:List It}(h:Up (x::l)):∀ y∈x::l,y.1=x.1\/Zr x.1 y.1=true:=fun y hy=>by
 rcases Ql.1 hy with rfl | hy
 ·exact .inl rfl
 ·exact .inr ((Q0.1 h).1 y hy)
theorem Zjc {l:List It}{z:It}{tb:Ky}(h:Up l) (hl:l.getLast? = some z) (hz:Zr z.1 tb=true):∀ y∈l,Zr y.1 tb=true:=fun y hy=>by
 obtain⟨r,rfl⟩:=List.getLast?_eq_some_iff.1 hl;rcases Qh.1 hy with hy | hy
 ·exact Y0 ((Qaj.1 h).2.2 y hy z (by simp)) hz
 ·rw[Qk.1 hy]
  exact hz
theorem Zb2 {l:List It}{k tb:Ky}{ends:Bool}(h:Ze7 l k tb ends=true):∃ x r,l=x::r/\x.1=k/\(ends=true->∃ z,l.getLast? = some z/\Zr z.1 tb=true):=by{
 unfold Ze7 at h;rw[Qi] at h;obtain⟨h1,h2⟩:=h;cases l with
 | nil=>simp at h1
 | cons x r =>
  refine⟨x,r,rfl,by simpa using h1,fun he=> ?_⟩;rw[he] at h2;cases hz:(x::r).getLast? with
  | none=>rw[hz] at h2;simp at h2
  | some z=>rw[hz] at h2;exact⟨z,rfl,by simpa using h2⟩}
structure Z26 (M:List It) (k tb:Ky) (ends:Bool) (N:Nat):Prop where
 first:∃ x r,M=x::r/\x.1=k
 up:Up M
 bound:ends=true->∀ y∈M,Zr y.1 tb=true
 few:M.length<=N
theorem Z26.ge {M:List It}{k tb:Ky}{ends:Bool}{N:Nat}(h:Z26 M k tb ends N):∀ y∈M,y.1=k\/Zr k y.1=true:=by
 obtain⟨x,r,rfl,rfl⟩:=h.first;exact Ziu h.up
theorem Zbg {f:Int->Ky->Ky->Bool->Bool}{g:Int->List It}{N:Nat}(hf:∀ a k tb ends,f a k tb ends=true->Z26 (g a) k tb ends N):∀ (L:List It) (tb:Ky) (ends:Bool),L≠[]->Zbn f L tb ends=true ->
  ∃ x r,L=x::r/\Z26 (L.flatMap fun x=>g x.2.1) x.1 tb ends (N*L.length)
 | [],_,_,h,_=>absurd rfl h
 | [x],tb,ends,_,h=>by
  refine⟨x,[],rfl,?_⟩;have:=hf _ _ _ _ h
  simpa using this
 | x::y::r,tb,ends,_,h=>by
  refine⟨x,y::r,rfl,?_⟩;unfold Zbn at h;rw[Qi] at h;have hx:=hf _ _ _ _ h.1;obtain⟨y',r',e,hy⟩:=Zbg hf (y::r) tb ends (by simp) h.2;cases e;have e2:(x::y::r).flatMap (fun x=>g x.2.1)=g x.2.1++(y::r).flatMap fun x=>g x.2.1:=Qq
  rw[e2];have hb:=hx.bound rfl;have hlt:∀ p∈g x.2.1,∀ q∈(y::r).flatMap (fun x=>g x.2.1),Zr p.1 q.1=true:=fun p hp q hq=>by
   rcases hy.ge q hq with e | e
   ·rw[e];exact hb p hp
   ·exact Y0 (hb p hp) e
  refine⟨?_,?_,fun he p hp=> ?_,?_⟩
  ·obtain⟨z,q,ez,kz⟩:=hx.first
   exact⟨z,_,by rw[ez];rfl,kz⟩
  ·exact Qaj.2 ⟨hx.up,hy.up,hlt⟩
  ·rcases Qh.1 hp with hp | hp
   ·obtain⟨z,q,ez,kz⟩:=hy.first
    have hz:=hlt p hp z (by rw[ez];simp);exact Y0 hz (hy.bound he z (by rw[ez];simp))
   ·exact hy.bound he p hp
  ·have h1:=hx.few
   have h2:=hy.few;rw[Qr];have e3:N*(x::y::r).length=N+N*(y::r).length:=by rw[Q3,Nat.mul_succ,Nat.add_comm]
   omega
theorem Xx {s:Rm}{l:Nat}{a:Int}{k tb:Ky}{ends:Bool}(h:Yy s l a k tb ends=true):rmE s a=0/\(rmV s a).1=l/\Ze7 (rmV s a).2 k tb ends=true/\(match l with | 0=>Y6 s (rmV s a).2 | l'+1=>Zbn (Yy s l') (rmV s a).2 tb ends)=true:=by{
 cases l with
 | zero =>
  simp only[Yy,Qi,decide_eq_true_eq] at h;exact⟨h.1.1,h.1.2,h.2.1,h.2.2⟩
 | succ l =>
  simp only[Yy,Qi,decide_eq_true_eq] at h;exact⟨h.1.1,h.1.2,h.2.1,h.2.2⟩}
theorem Xg (s:Rm):∀ (l:Nat) (a:Int) (k tb:Ky) (ends:Bool),Yy s l a k tb ends=true->Z26 (Ud s l a) k tb ends (5 ^ (l+1))
 | 0,a,k,tb,ends,h=>by
  obtain⟨h1,h2,h3,h4⟩:=Xx h;obtain⟨hm,_⟩:=Xe h1;obtain⟨x,r,e,ek,hz⟩:=Zb2 h3;refine⟨⟨x,r,e,ek⟩,Zaq hm,fun he=> ?_,?_⟩
  ·obtain⟨z,e1,e2⟩:=hz he
   exact Zjc (Zaq hm) e1 e2
  ·exact(Z1 hm).1.2.2.1
 | l+1,a,k,tb,ends,h=>by
  obtain⟨h1,h2,h3,h4⟩:=Xx h;obtain⟨hm,_⟩:=Xe h1;obtain⟨x,r,e,ek,hz⟩:=Zb2 h3;obtain⟨x',r',e',hp⟩:=Zbg (Xg s l) (rmV s a).2 tb ends (by rw[e];simp) h4;rw[e] at e';cases e';rw[ek] at hp;refine⟨hp.first,hp.up,hp.bound,Qd hp.few ?_⟩;have h5:=(Z1 hm).1.2.2.1;rw[Q9 5 (l+1)];exact Ps _ h5
theorem Zz5 (s:Rm):∀ (l:Nat) (a:Int) (k:Ky) (x:It),Zj1 s l a k=some x->x∈Ud s l a/\x.1=k
 | 0,a,k,x,h=>by
  have h':(rmV s a).2.reverse.find? (fun x=>decide (x.1=k))=some x:=h;exact⟨Pa.1 (Pt h'),by simpa using List.find?_some h'⟩
 | l+1,a,k,x,h=>by
  unfold Zj1 at h;cases hf:(rmV s a).2.reverse.find? (fun x => !Zr k x.1) with
  | none=>rw[hf] at h;cases h
  | some y =>
   rw[hf] at h;obtain⟨h1,h2⟩:=Zz5 s l y.2.1 k x h;exact⟨Pd.2 ⟨y,Pa.1 (Pt hf),h1⟩,h2⟩
theorem Zp8 {p:It->Bool}(x:It) (l:List It):(x::l).reverse.find? p=match l.reverse.find? p with | some y=>some y | none=>if p x then some x else none:=by{
 rw[List.reverse_cons,Qak];cases l.reverse.find? p with
 | some y=>rfl
 | none =>
  simp only[Option.none_or,Qal,List.find?_nil];cases p x <;> rfl}
theorem Zbp {p:It->Bool}{l:List It}(h:∀ x∈l,p x=false):l.reverse.find? p=none:=by
 rw[List.find?_eq_none];intro x hx;rw[h x (Pa.1 hx)];simp
theorem Zkb {f:Int->Ky->Ky->Bool->Bool}{g:Int->List It}{N:Nat}(hf:∀ a k tb ends,f a k tb ends=true->Z26 (g a) k tb ends N):∀ (L:List It) (tb:Ky) (ends:Bool),Up L->Zbn f L tb ends=true->∀ x∈L.flatMap (fun x=>g x.2.1),
  ∃ y∈L,x∈g y.2.1/\(L.reverse.find? fun z => !Zr x.1 z.1)=some y/\∃ t e,f y.2.1 y.1 t e=true
 | [],_,_,_,_,x,hx=>by simp at hx
 | [y],tb,ends,_,h,x,hx=>by
  have hx':x∈g y.2.1:=by simpa using hx
  refine⟨y,by simp,hx',?_,tb,ends,h⟩;have hp:=hf _ _ _ _ h;have:Zr x.1 y.1=false:=by
   rcases hp.ge x hx' with e | e
   ·rw[e];exact Xf _
   ·exact V6 e
  simp[this]
 | y::z::r,tb,ends,hu,h,x,hx=>by
  unfold Zbn at h;rw[Qi] at h;have hy:=hf _ _ _ _ h.1;have e2:(y::z::r).flatMap (fun x=>g x.2.1)=g y.2.1++(z::r).flatMap fun x=>g x.2.1:=Qq
  rw[e2] at hx;rw[Zp8];rcases Qh.1 hx with hx | hx
  ·have hb:=hy.bound rfl x hx
   have hge:Zr x.1 y.1=false:=by
    rcases hy.ge x hx with e | e
    ·rw[e];exact Xf _
    ·exact V6 e
   have hno:(z::r).reverse.find? (fun w => !Zr x.1 w.1)=none:=Zbp fun w hw=>by
    rcases Ziu (Q0.1 hu).2 w hw with e | e
    ·rw[e,hb];rfl
    ·rw[Y0 hb e];rfl
   refine⟨y,by simp,hx,?_,_,_,h.1⟩;rw[hno];simp[hge]
  ·obtain⟨w,hw,h1,h2,h3⟩:=Zkb hf (z::r) tb ends (Q0.1 hu).2 h.2 x hx
   exact⟨w,Qs _ hw,h1,by rw[h2],h3⟩
theorem Zh2 {l:List It}(hu:Up l){x:It}(hx:x∈l):(l.reverse.find? fun y=>decide (y.1=x.1))=some x:=by{
 induction l with
 | nil=>simp at hx
 | cons y r ih =>
  rw[Zp8];rcases Ql.1 hx with rfl | hx
  ·have hno:r.reverse.find? (fun y=>decide (y.1=x.1))=none:=Zbp fun z hz=>by
    have h1:=(Q0.1 hu).1 z hz;have:z.1≠x.1:=fun e=>by rw[e,Xf] at h1;cases h1
    simpa using this
   rw[hno];simp
  ·rw[ih (Q0.1 hu).2 hx]}
theorem Zge (s:Rm):∀ (l:Nat) (a:Int) (k tb:Ky) (ends:Bool),Yy s l a k tb ends=true->∀ x∈Ud s l a,Zj1 s l a x.1=some x
 | 0,a,k,tb,ends,h,x,hx=>Zh2 (Zaq (Xe (Xx h).1).1) hx
 | l+1,a,k,tb,ends,h,x,hx=>by
  obtain⟨h1,h2,h3,h4⟩:=Xx h;obtain⟨y,hy,h5,h6,t,e,h7⟩:=Zkb (Xg s l) (rmV s a).2 tb ends (Zaq (Xe h1).1) h4 x hx;unfold Zj1;rw[h6];exact Zge s l y.2.1 y.1 t e h7 x h5
theorem Ur {s:Rm}{a:Int}(h:Ub s a=true):rmE s a=0/\asE s a=0/\mayN (rmV s a)=true/\0<=(rmV s a).1/\(rmV s a).1<6/\Ze4 s (rmV s a) Zeb false=true:=by
 simp only[Ub,Qi,decide_eq_true_eq] at h;obtain⟨hm,ha⟩:=Xe h.1;exact⟨h.1,ha,hm,(Z1 hm).1.1,(Z1 hm).1.2.1,h.2⟩
theorem Zyi {s:Rm}{a:Int}(h:Ub s a=true):Up (Zc7 s a)/\(Zc7 s a).length<=15625/\(∀ x∈Zc7 s a,Zwq s a x.1=some x):=by{
 obtain⟨h1,_,hm,l0,l6,hi⟩:=Ur h;unfold Zc7 Zwq;unfold Ze4 at hi;have hl:(rmV s a).1.toNat<=5:=by omega
 generalize hl0:(rmV s a).1.toNat=l at hi hl ⊢;cases l with
 | zero =>
  refine⟨Zaq hm,Qd (Z1 hm).1.2.2.1 (by decide),fun x hx=>Zh2 (Zaq hm) hx⟩
 | succ l =>
  have hne:(rmV s a).2≠[]:=fun e=>by
   have:=(Z1 hm).1.2.2.2 (by omega);rw[e] at this;simp at this
  obtain⟨x,r,e,hp⟩:=Zbg (Xg s l) (rmV s a).2 Zeb false hne hi;refine⟨hp.up,Qd hp.few ?_,fun x hx=> ?_⟩
  ·have h5:=(Z1 hm).1.2.2.1
   have hpw:5 ^ (l+1)<=5 ^ 5:=Qv (by decide) (by omega);have:=Qam hpw h5;omega
  ·obtain⟨y,hy,h5,h6,t,e,h7⟩:=Zkb (Xg s l) (rmV s a).2 Zeb false (Zaq hm) hi x hx
   unfold Zj1;rw[h6];exact Zge s l y.2.1 y.1 t e h7 x h5}
theorem Z4w {s:Rm}{a:Int}{k:Ky}{x:It}(h:Zwq s a k=some x):x∈Zc7 s a/\x.1=k:=Zz5 s _ a k x h
theorem Zx7 {s:Rm}{a:Int}{k:Ky}(h:Ub s a=true):Zwq s a k=none↔∀ x∈Zc7 s a,x.1≠k:=by{
 refine⟨fun hn x hx e=> ?_,fun hn=> ?_⟩
 ·rw[<- e,(Zyi h).2.2 x hx] at hn
  cases hn
 ·cases ht:Zwq s a k with
  | none=>rfl
  | some x =>
   obtain⟨h1,h2⟩:=Z4w ht;exact absurd h2 (hn x h1)}
theorem Zlt {s:Rm}{l:List It}{i:Nat}{x:It}(hx:l[i]? = some x):Y6 s (l.take (i+1))=(Y6 s (l.take i)&&(decide (x.2.1=0)||decide (s.2.1[x.2.1.toNat]?.getD 0≠0))):=by
 have hk:=(Qg.1 hx).1;have hg:l[i]=x:=(Qg.1 hx).2;rw[<- Qt hk,hg];simp[Y6]
theorem Zyf {s:Rm}{l:List It}{i:Nat}(h:Y6 s (l.take i)=false):Y6 s l=false:=by{
 cases e:Y6 s l with
 | false=>rfl
 | true =>
  unfold Y6 at e h;rw[Qw] at e;rw[<- h]
  symm
  rw[Qw];exact fun x hx=>e x (Pu hx)}
def nxO (r:List It) (tb:Ky):Ky:=match r with | []=>tb | y::_=>y.1
def bxO (r:List It) (ends:Bool):Bool:=match r with | []=>ends | _::_=>true
theorem Zae (f:Int->Ky->Ky->Bool->Bool) (x:It) (r:List It) (tb:Ky) (ends:Bool):Zbn f (x::r) tb ends=(f x.2.1 x.1 (nxO r tb) (bxO r ends)&&Zbn f r tb ends):=by
 cases r with
 | nil=>simp[Zbn,nxO,bxO]
 | cons y r=>rfl
def In (lo hi:Nat):Qbj->Prop:=fun p=>lo<=p.block/\p.block<hi
theorem Zdb {w w1:Qbh}{Fs:List (Qbh->Prop)}(h:Bag w Fs) (hb:Qbp w.heap.size w w1) (a b:Qbi):∃ w',w1.alloc (.cells #[a,b] 59)=w'/\Bag w' (Z5k w1.heap.size a b::Fs)/\Qbp w.heap.size w w'/\Qbp w1.heap.size w1 w'/\w1.heap.size<w'.heap.size:=by
 obtain⟨w2,e2,b2,k4,k5⟩:=Yf w1 a b 59;obtain⟨k1,k2,_,k3⟩:=Zi b2;exact⟨w2,e2,((h.below hb).below k5).add ⟨k1,k2,k3⟩ (Zwm _ _ _),hb.trans (k5.mono hb.size),k5,by omega⟩
def Zzx (v:Qbi) (n:Nd):Qbh->Prop:=fun w=>Nod (Old w) w v n
theorem Za5 (v:Qbi) (n:Nd):Zep (Zzx v n):=fun _ _ h hb=>h.below hb
def Zsu (v:Qbi) (l:List It):Qbh->Prop:=fun w=>Zaa (Old w) w [v] l
theorem Zg0 (v:Qbi) (l:List It):Zep (Zsu v l):=fun _ _ h hb=>Xn.old h hb
theorem Zop {l:List It}{k:Ky}:∀ {i:Nat},i<=l.length->(∀ j x,j<i->l[j]? = some x->Zr x.1 k=true)->Zdy (l.take i) k=i
 | 0,_,_=>rfl
 | i+1,hi,h=>by
  have hx:l[i]? = some l[i]:=Qf hi;rw[Zpa hx (h i _ (by omega) hx),Zop (by omega) (fun j x hj=>h j x (by omega))]
theorem Z1t (l:List It) (k:Ky) (i:Nat):Zdy (l.take i) k<=Zdy l k:=by
 unfold Zdy;exact((List.take_sublist i l).filter _).length_le
theorem Zu2 {l:List It}{k:Ky}{i:Nat}(h:∀ j x,i<=j->l[j]? = some x->Zr x.1 k=false):Zdy l k=Zdy (l.take i) k:=by{
 have e:Zdy l k=Zdy (l.take i) k+Zdy (l.drop i) k:=by
  unfold Zdy;rw[<- Qr,<- List.filter_append,Pe]
 have z:Zdy (l.drop i) k=0:=by
  unfold Zdy;rw[List.length_eq_zero_iff,Qan];intro x hx;obtain⟨j,hj⟩:=Qao.1 hx;rw[Q5] at hj;rw[h (i+j) x (by omega) hj];simp
 omega}
theorem Vu {n:Nd}(h:mayN n=true){k:Ky}{i:Nat}{x:It}(hx:n.2[i]? = some x):Zr x.1 k=decide (i<Z4 n k):=by{
 have hi:=(Qg.1 hx).1;cases e:Zr x.1 k with
 | true =>
  have h1:Zdy (n.2.take (i+1)) k=i+1:=Zop (by omega) (fun j y hj hy=>by
   rcases Pf j i with h2 | h2
   ·exact Y0 (Ui h h2 hy hx) e
   ·obtain rfl:j=i:=by omega
    rw[hx] at hy;cases hy
    exact e)
  have h2:=Z1t n.2 k (i+1);have h3:Z4 n k=Zdy n.2 k:=rfl;have:i<Z4 n k:=by omega
  simp[this]
 | false =>
  have h1:Zdy n.2 k=Zdy (n.2.take i) k:=Zu2 (fun j y hj hy=>by
   rcases Pf i j with h2 | h2
   ·cases e2:Zr y.1 k with
    | false=>rfl
    | true =>
     have:=Y0 (Ui h h2 hx hy) e2;rw[e] at this;cases this
   ·obtain rfl:i=j:=by omega
    rw[hx] at hy;cases hy
    exact e)
  have h2:=Zms n.2 k i;have h3:Z4 n k=Zdy n.2 k:=rfl;have:¬ i<Z4 n k:=by omega
  simp[this]}
theorem Zdn (n:Nd) (k:Ky):Z4 n k<=n.2.length:=Zuo _ _
theorem Zln {n:Nd}(h:mayN n=true){i:Nat}{x:It}(hx:n.2[i]? = some x):Z4 n x.1=i/\Yo n x.1=true:=by{
 have hi:=(Qg.1 hx).1;have h1:¬ i<Z4 n x.1:=fun h2=>by
  have:=Vu h (k:=x.1) hx;rw[Xf] at this;simp[h2] at this
 have h2:Z4 n x.1=i:=by
  rcases Nat.eq_zero_or_pos i with h0 | h0
  ·omega
  ·obtain⟨j,rfl⟩:∃ j,i=j+1:=⟨i-1,by omega⟩
   have hy:n.2[j]? = some n.2[j]:=Qf (by omega);have h3:=Vu h (k:=x.1) hy;rw[Zf7 h hy hx] at h3;have:j<Z4 n x.1:=by simpa using h3.symm
   omega
 exact⟨h2,by rw[Zgq (by rw[h2];exact hx)];simp⟩}
def Zhe:Rm:=(Zap,Yh 256,Yh 256)
theorem Zw1 (w:Qbh):Qbn Tryz.prog 27 #[] w fun e w'=>∃ t,e=.returned t/\Sto (New w.heap.size w') w' t Zhe/\Qbp w.heap.size w w':=by{
 obtain⟨w1,hw1,f1,hsz,hB⟩:=Xp w (.slice none 0 0) (.slice none 0 0) (.slice none 0 0) (.slice none 0 0) 29;have hz:Hid ((Yh 256).length=256):=Za (Zab 256);replace hsz:=Za hsz
 go_enter Tryz.func27,Tryz.ntmps27
 go_upto_region 1 with fail
 clear hw1
 go_wp2_with fail
 with_reducible refine(Z1p _).mono ?_
 rintro e w2 ⟨u,rfl,h2,hb2⟩;obtain⟨P,p,Q,r,rfl,_⟩:=id h2.open;have H2:=Za h2;have F2:=(hb2.block w.heap.size (by rw[hsz.out];omega)).trans f1;have B2:=Za (hB.trans (hb2.mono hB.size));have s2:Hid (w.heap.size+1<=w1.heap.size/\w1.heap.size<=w2.heap.size):=Za ⟨by rw[hsz.out];omega,hb2.size⟩;clear h2 hb2 f1
 go_wp2_with fail
 with_reducible refine(Zlr _).mono ?_
 rintro e w3 ⟨g3,rfl,h3,hb3⟩;have H3:=Za h3;have D3:=Za (H2.out.new (Qe _) hb3);have F3:=(hb3.block w.heap.size (by have:=s2.out;omega)).trans F2;have B3:=Za (B2.out.trans (hb3.mono B2.out.size));have s3:Hid (w2.heap.size<=w3.heap.size):=Za hb3.size;clear h3 hb3 F2 H2
 go_wp2_with fail
 with_reducible refine(Zlr _).mono ?_
 rintro e w4 ⟨g4,rfl,h4,hb4⟩;have D4:=D3.out.new (Qe _) hb4;have N4:=Zf.new H3.out (Qe _) hb4;have F4:=(hb4.block w.heap.size (by have:=s2.out;have:=s3.out;omega)).trans F3;have B4:=B3.out.trans (hb4.mono B3.out.size);obtain⟨c0,c1,c2,c3,c4,c5⟩:=Ze F4;obtain⟨W9,hW9,g9,gr9,gs9⟩:=Zt (a':=.slice P Zap.1.length p) (b':=.slice Q Zap.2.length r) (c':=.slice (some ⟨g3,0,none⟩) 256 256) (d':=.slice (some ⟨g4,0,none⟩) 256 256) F4;obtain⟨n0,n1,n2,n3,_,_⟩:=Ze g9;have q2:=s2.out;have q3:=s3.out;have l2:=B2.out.size;have l3:=B3.out.size
 have hfin:=Za (show Sto (New w.heap.size W9) W9 (.agg #[.slice P Zap.1.length p,.slice Q Zap.2.length r,.slice (some ⟨g3,0,none⟩) 256 256,.slice (some ⟨g4,0,none⟩) 256 256]) Zhe from
  Sto.mk ((D4.grown gr9 (fun q e=>by cases e;omega)).new (by omega) (Qb _ _)) (Zf.new (Zf.grown N4 gr9 (fun q e=>by cases e;omega)) (by omega) (Qb _ _)) (Zf.new (Zf.grown h4 gr9 (fun q e=>by cases e;omega)) (by omega) (Qb _ _)))
 have hB9:=Za (B4.grown gr9 B4.size (fun q e=>by cases e;omega));clear D4 N4 gr9 gs9 B4 q2 q3 l2 l3 h4 hb4;replace F4:=Za F4;replace F3:=Za F3;replace g9:=Za g9
 go_wp2_with fail
 refine Qbl (v:=.agg #[.slice P Zap.1.length p,.slice Q Zap.2.length r,.slice (some ⟨g3,0,none⟩) 256 256,.slice (some ⟨g4,0,none⟩) 256 256]) (by simp[results,Tryz.results27,go_sem,n0,n1,n2,n3]) rfl ?_;exact⟨_,rfl,hfin.out,hB9.out⟩}
end Go.Proofs.YtmafkphcfkhokaaGreat
namespace Go.Proofs.YtmafkphcfkhokaaGreat
open Go.RowKit Go.Shelf
attribute [local go_sem] Oper.semAt_some
theorem U1 {W:Qbh}{g:Nat}{a u:Qbi}{t:Qbk}(h:W.heap[g]? = some (.cells #[a] t (0,0))):∃ W1,W.setCell ⟨g,0,none⟩ u=W1/\W1.heap[g]? = some (.cells #[u] t (0,0))/\W.grownBy W1 (some g)/\W1.heap.size=W.heap.size :=
 ⟨_,rfl,by simp[Qap,Qaq,h],Zq (p:=⟨g,0,none⟩) (Ye W (some g)) rfl u,by simp⟩
theorem Zv {W:Qbh}{g:Nat}{a:Qbi}{t:Qbk}(h:W.heap[g]? = some (.cells #[a] t (0,0))):W.cell? ⟨g,0,none⟩=some a/\W.frozen? ⟨g,0,none⟩=false/\g<W.heap.size :=
 ⟨by simp[Qx,h],by simp[Pg,h],(Qa.1 h).1⟩
theorem Zs {W W':Qbh}{row:Option Nat}{g:Nat}{cs:Array Qbi}{t:Qbk}(h:W.heap[g]? = some (.cells cs t (0,0))) (hg:W.grownBy W' row) (hrow:∀ r,row=some r->∃ o:Obj,W.heap[r]? = some o/\o.isCells=false):W'.heap[g]? = some (.cells cs t (0,0)) :=
 (grownBy_keeps_cells hg hrow h rfl).trans h
theorem Zwv:(Y9 Zhe).length=248/\Y9 Zhe=8::9::(Y9 Zhe).drop 2:=by decide +kernel
theorem Z16:Xz Zhe=true:=Zeu Zwu Zkt Zkt
def Xj:List It->Nat->Nat
 | [],_=>0
 | x::l,i=>(if x.2.1=(i:Int) then (if x.2.1=0 then 0 else 1) else 0)+Xj l i
def Zco (l:List It):Prop:=∀ x∈l,x.2.1=0\/(8<=x.2.1/\x.2.1<256)
theorem Zdl {x:It}{l:List It}(h:Zco (x::l)):(x.2.1=0\/∃ k:Nat,x.2.1=k/\8<=k/\k<256)/\Zco l:=by
 refine⟨?_,fun y hy=>h y (Qs _ hy)⟩;rcases h x Qy with h1 | ⟨h1,h2⟩
 ·exact .inl h1
 ·exact .inr ⟨x.2.1.toNat,by omega,by omega,by omega⟩
theorem Zac {n:Nd}(h:mayN n=true):Zco n.2:=fun x hx=>by
 obtain⟨i,hi⟩:=Q6 hx;have hk:=(Qg.1 hi).1;simp only[mayN,Qi,Qw] at h;have h1:=h.2 i (by simpa using hk);simp only[Zhb,hi,okP,Qi] at h1;exact(Uc h1.1.1).1
theorem Zbw {x:It}{l:List It}(h:x.2.1=0) (i:Nat):Xj (x::l) i=Xj l i:=by
 simp only[Xj,h,if_true];split <;> simp
theorem Ut {x:It}{l:List It}{k:Nat}(h:x.2.1=k) (h8:8<=k) (i:Nat):Xj (x::l) i=(if i=k then 1 else 0)+Xj l i:=by{
 simp only[Xj,h];by_cases e:i=k
 ·subst e
  rw[if_pos rfl,if_neg (by omega),if_pos rfl]
 ·rw[if_neg (by omega),if_neg e]}
theorem Zxs {l:List It}(h:Zco l){i:Nat}(hi:i<8\/256<=i):Xj l i=0:=by{
 induction l with
 | nil=>rfl
 | cons x l ih =>
  obtain⟨h1,h2⟩:=Zdl h;rcases h1 with h1 | ⟨k,h1,h8,h256⟩
  ·rw[Zbw h1,ih h2]
  ·rw[Ut h1 h8,ih h2,if_neg (by omega)]}
def ctE:List UInt8->List It->Int
 | _,[]=>0
 | t,x::l=>if x.2.1=0 then ctE t l else if t[x.2.1.toNat]?.getD 0=0 then 6 else if t[x.2.1.toNat]?.getD 0=255 then 70 else ctE (t.set x.2.1.toNat (t[x.2.1.toNat]?.getD 0+1)) l
def ctV:List UInt8->List It->List UInt8
 | t,[]=>t
 | t,x::l=>if x.2.1=0 then ctV t l else ctV (t.set x.2.1.toNat (t[x.2.1.toNat]?.getD 0+1)) l
theorem Zc5:∀ (l:List It) (t:List UInt8),(ctV t l).length=t.length
 | [],_=>rfl
 | x::l,t=>by
  unfold ctV;split
  ·exact Zc5 l t
  ·rw[Zc5 l,Qu]
theorem Zje:∀ (a b:List It) (t:List UInt8),ctE t (a++b)=if ctE t a=0 then ctE (ctV t a) b else ctE t a
 | [],b,t=>by simp[ctE,ctV]
 | x::a,b,t=>by
  simp only[Ph,ctE,ctV];split
  ·exact Zje a b t
  ·split
   ·simp
   ·split
    ·simp
    ·exact Zje a b _
theorem Zof:∀ (a b:List It) (t:List UInt8),ctV t (a++b)=ctV (ctV t a) b
 | [],b,t=>rfl
 | x::a,b,t=>by
  simp only[Ph,ctV];split
  ·exact Zof a b t
  ·exact Zof a b _
theorem Z4k {x:UInt8}(h:x≠255):(x+1).toNat=x.toNat+1:=by
 have:=(Zi3 h).1;omega
theorem Zmr {x:UInt8}(h:x≠0):(x-1).toNat+1=x.toNat:=by
 have h1:=(Zi3 (x:=x-1) (Zrq h)).1;rw[Zu1.2] at h1;omega
theorem X8 {x:UInt8}:x.toNat=0↔x=0:=⟨fun h=>UInt8.toNat_inj.1 (by rw[h];rfl),fun h=>by rw[h];rfl⟩
theorem Zbz:∀ (l:List It) (t:List UInt8),Zco l->t.length=256->ctE t l=0 ->
  (∀ i,((ctV t l)[i]?.getD 0).toNat=(t[i]?.getD 0).toNat+Xj l i)/\(∀ i,Xj l i≠0->t[i]?.getD 0≠0)
 | [],t,_,_,_=>⟨fun i=>by simp[ctV,Xj],fun i h=>absurd rfl h⟩
 | x::l,t,hr,hl,h=>by
  obtain⟨h1,h2⟩:=Zdl hr;unfold ctE at h;unfold ctV;rcases h1 with h1 | ⟨k,h1,h8,h256⟩
  ·rw[if_pos h1] at h ⊢
   obtain⟨c1,c2⟩:=Zbz l t h2 hl h;exact⟨fun i=>by rw[c1 i,Zbw h1],fun i hi=>c2 i (by rwa [Zbw h1] at hi)⟩
  ·have e0:¬ x.2.1=0:=by omega
   have ek:x.2.1.toNat=k:=by omega
   rw[if_neg e0,ek] at h;rw[if_neg e0,ek];by_cases hz:t[k]?.getD 0=0
   ·rw[if_pos hz] at h;cases h
   ·by_cases hm:t[k]?.getD 0=255
    ·rw[if_neg hz,if_pos hm] at h;cases h
    ·rw[if_neg hz,if_neg hm] at h
     obtain⟨c1,c2⟩:=Zbz l (t.set k (t[k]?.getD 0+1)) h2 (by rw[Qu,hl]) h;refine⟨fun i=> ?_,fun i hi=> ?_⟩
     ·rw[c1 i,Ut h1 h8]
      by_cases e:i=k
      ·subst e
       rw[Zcv (by omega),Z4k hm,if_pos rfl];omega
      ·rw[Uz e,if_neg e]
       omega
     ·by_cases e:i=k
      ·subst e;exact hz
      ·rw[Ut h1 h8,if_neg e,Pv] at hi
       have:=c2 i hi
       rwa [Uz e] at this
theorem Zum {a b:List UInt8}(hl:a.length=b.length) (h:∀ i:Nat,(a[i]?.getD 0).toNat=(b[i]?.getD 0).toNat):a=b:=by
 refine List.ext_getElem hl fun i h1 h2=> ?_
 have:=UInt8.toNat_inj.1 (h i)
 rwa [Qf h1,Qf h2] at this
theorem Z3c {t:List UInt8}{l:List It}(hm:Za6 t=true) (hr:Zco l) (h:ctE t l=0):Za6 (ctV t l)=true:=by
 have hl:=Yl hm;obtain⟨c1,_⟩:=Zbz l t hr hl h;refine Zff (by rw[Zc5,hl]) fun j hj=>X8.1 ?_
 rw[c1 j,Zxs hr (.inl hj),Zjy hm hj];rfl
theorem Zvv {t:List UInt8}{l:List It}(hl:t.length=256) (hr:Zco l) (h:ctE t l=0) (i:Nat):(ctV t l)[i]?.getD 0=0↔t[i]?.getD 0=0:=by
 obtain⟨c1,c2⟩:=Zbz l t hr hl h;rw[<- X8,c1 i,<- X8 (x:=t[i]?.getD 0)];refine⟨fun h=>by omega,fun h=> ?_⟩;by_cases e:Xj l i=0
 ·omega
 ·exact absurd (X8.1 h) (c2 i e)
def ctS (s:Rm) (n:Nd):Rm:=(s.1,ctV s.2.1 n.2,s.2.2)
def mkE (s:Rm) (n:Nd):Int:=if Xz s&&mayN n then (if ctE s.2.1 n.2=0 then tkE (ctS s n) (Uf n) else ctE s.2.1 n.2) else 8
def mkN (s:Rm) (n:Nd):Int:=if mkE s n=0 then tkN (ctS s n) (Uf n) else 0
def mkV (s:Rm) (n:Nd):Rm:=if mkE s n=0 then tkV (ctS s n) (Uf n) else Zo
theorem Zx1 {s:Rm}{n:Nd}(h:mkE s n≠0):mkN s n=0/\mkV s n=Zo:=⟨by rw[mkN,if_neg h],by rw[mkV,if_neg h]⟩
theorem Z0s {s:Rm}{n:Nd}(hm:Xz s=true) (hn:mayN n=true) (h:ctE s.2.1 n.2=0):Xz (ctS s n)=true:=by
 obtain⟨m1,m2,m3⟩:=Yr hm;exact Zeu m1 (Z3c m2 (Zac hn) h) m3
theorem Zzn {s:Rm}{n:Nd}(hm:Xz s=true) (hn:mayN n=true) (h:ctE s.2.1 n.2=0):Y9 (ctS s n)=Y9 s:=by
 unfold Y9 Zak;refine List.filter_congr fun i _=> ?_
 have:=Zvv (Yl (Yr hm).2.1) (Zac hn) h i;show (decide ((ctV s.2.1 n.2)[i]?.getD 0=0)&&_)=(decide (s.2.1[i]?.getD 0=0)&&_);rw[decide_eq_decide.2 this];rfl
theorem Zx8 {s:Rm}{n:Nd}(h:mkE s n=0):Xz s=true/\mayN n=true/\ctE s.2.1 n.2=0/\tkE (ctS s n) (Uf n)=0/\mkN s n=tkN (ctS s n) (Uf n)/\mkV s n=tkV (ctS s n) (Uf n):=by{
 have hN:mkN s n=tkN (ctS s n) (Uf n):=by rw[mkN,if_pos h]
 have hV:mkV s n=tkV (ctS s n) (Uf n):=by rw[mkV,if_pos h]
 unfold mkE at h;cases hm:Xz s with
 | false=>rw[hm] at h;simp at h
 | true =>
  cases hn:mayN n with
  | false=>rw[hm,hn] at h;simp at h
  | true =>
   rw[hm,hn] at h;simp only[Bool.and_self,if_true] at h;by_cases hc:ctE s.2.1 n.2=0
   ·rw[if_pos hc] at h
    exact⟨rfl,rfl,hc,h,hN,hV⟩
   ·rw[if_neg hc] at h
    exact absurd h hc}
theorem Uq {s:Rm}{n:Nd}(h:mkE s n=0):∃ k:Nat,mkN s n=k/\8<=k/\k<256/\s.2.1[k]?.getD 0=0/\s.2.2[k]?.getD 0=0/\Xj n.2 k=0/\mkV s n=(wrD s.1 k (Uf n),(ctV s.2.1 n.2).set k 1,s.2.2)/\Xz (mkV s n)=true /\
  (mkV s n).2.1[k]?.getD 0=1/\(∀ i,i≠k->((mkV s n).2.1[i]?.getD 0).toNat=(s.2.1[i]?.getD 0).toNat+Xj n.2 i)/\(∀ i,Xj n.2 i≠0->s.2.1[i]?.getD 0≠0)/\(mkV s n).2.1.length=256/\s.2.1.length=256:=by{
 obtain⟨hm,hn,hc,ht,e1,e2⟩:=Zx8 h;obtain⟨_,_,_,_,h8,h256,hz,hz2,hN,hV⟩:=Zuq ht;have hl:=Yl (Yr hm).2.1;have hr:=Zac hn;obtain⟨c1,c2⟩:=Zbz n.2 s.2.1 hr hl hc;generalize tkK (ctS s n)=k at *;have z1:s.2.1[k]?.getD 0=0:=(Zvv hl hr hc k).1 hz;have z2:Xj n.2 k=0:=by
  by_cases e:Xj n.2 k=0
  ·exact e
  ·exact absurd z1 (c2 k e)
 have hV':mkV s n=(wrD s.1 k (Uf n),(ctV s.2.1 n.2).set k 1,s.2.2):=by rw[e2,hV];rfl
 refine⟨k,by rw[e1,hN],h8,h256,z1,hz2,z2,hV',by rw[e2];exact Z3i ht,?_,fun i hi=> ?_,c2,?_,hl⟩
 ·rw[hV'];exact Zcv (by rw[Zc5];omega)
 ·rw[hV']
  show (((ctV s.2.1 n.2).set k 1)[i]?.getD 0).toNat=_;rw[Uz hi];exact c1 i
 ·rw[hV']
  show ((ctV s.2.1 n.2).set k 1).length=_;rw[Qu,Zc5,hl]}
def dnO (t:List UInt8) (a:Nat):Option (List UInt8):=if t[a]?.getD 0=0 then none else some (t.set a (t[a]?.getD 0-1))
def Za9 (f:List UInt8->Nat->Option (List UInt8)):List UInt8->List It->Option (List UInt8)
 | t,[]=>some t
 | t,x::l=>if x.2.1=0 then Za9 f t l else (f t x.2.1.toNat).bind fun t'=>Za9 f t' l
def lvS (d:Dk) (l:Nat) (f:List UInt8->Nat->Option (List UInt8)) (t:List UInt8) (a:Nat):Option (List UInt8) :=
 (dnO t a).bind fun t'=>if 1<(t[a]?.getD 0).toNat then some t' else if reN (Yb d a)=0/\(reV (Yb d a)).1=(l:Int) then Za9 f t' (reV (Yb d a)).2 else none
def lvF (d:Dk):Nat->List UInt8->Nat->Option (List UInt8)
 | 0=>dnO
 | l+1=>lvS d l (lvF d l)
def lfO (d:Dk) (t:List UInt8) (a:Nat):Option (List UInt8) :=
 (dnO t a).bind fun t'=>if 1<(t[a]?.getD 0).toNat then some t' else if reN (Yb d a)=0 then Za9 (lvF d (reV (Yb d a)).1.toNat) t' (reV (Yb d a)).2 else none
def lvE (s:Rm) (n:Int):Int:=if asE s n=0 then (match lfO s.1 s.2.1 n.toNat with | some _=>0 | none=>8) else asE s n
def lvV (s:Rm) (n:Int):Rm:=if asE s n=0 then (match lfO s.1 s.2.1 n.toNat with | some t=>(s.1,t,s.2.2) | none=>Zo) else Zo
def loV (s:Rm) (n:Int):Rm:=if asE s n=0 then (s.1,s.2.1.set n.toNat (s.2.1[n.toNat]?.getD 0-1),s.2.2) else Zo
structure LeT (u t:List UInt8):Prop where
 len:u.length=t.length
 le:∀ i:Nat,(u[i]?.getD 0).toNat<=(t[i]?.getD 0).toNat
theorem LeT.refl (t:List UInt8):LeT t t:=⟨rfl,fun _=>Qe _⟩
theorem LeT.trans {a b c:List UInt8}(h:LeT a b) (h':LeT b c):LeT a c:=⟨h.len.trans h'.len,fun i=>Qd (h.le i) (h'.le i)⟩
theorem Zb9 {t u:List UInt8}{a:Nat}(h:dnO t a=some u):t[a]?.getD 0≠0/\u=t.set a (t[a]?.getD 0-1)/\LeT u t/\(u[a]?.getD 0).toNat+1=(t[a]?.getD 0).toNat:=by{
 unfold dnO at h;by_cases hz:t[a]?.getD 0=0
 ·rw[if_pos hz] at h;cases h
 ·rw[if_neg hz] at h
  cases h;have ha:a<t.length:=by
   by_cases e:a<t.length
   ·exact e
   ·exact absurd (by rw[Qar (by omega)];rfl) hz
  refine⟨hz,rfl,⟨Qu,fun i=> ?_⟩,?_⟩
  ·by_cases e:i=a
   ·subst e
    rw[Zcv ha];have:=Zmr hz;omega
   ·rw[Uz e]
    exact Qe _
  ·rw[Zcv ha]
   exact Zmr hz}
theorem Zjj {f:List UInt8->Nat->Option (List UInt8)}(hf:∀ t a u,f t a=some u->LeT u t):∀ (l:List It) (t u:List UInt8),Za9 f t l=some u->LeT u t
 | [],t,u,h=>by cases h;exact LeT.refl _
 | x::l,t,u,h=>by
  unfold Za9 at h;split at h
  ·exact Zjj hf l t u h
  ·cases hx:f t x.2.1.toNat with
   | none=>rw[hx] at h;cases h
   | some v =>
    rw[hx] at h;exact(Zjj hf l v u h).trans (hf _ _ _ hx)
theorem Z3d {d:Dk}{l:Nat}{f:List UInt8->Nat->Option (List UInt8)}(hf:∀ t a u,f t a=some u->LeT u t) (t:List UInt8) (a:Nat) (u:List UInt8) (h:lvS d l f t a=some u):LeT u t:=by{
 unfold lvS at h;cases hd:dnO t a with
 | none=>rw[hd] at h;cases h
 | some v =>
  rw[hd] at h;have h':(if 1<(t[a]?.getD 0).toNat then some v else if reN (Yb d a)=0/\(reV (Yb d a)).1=(l:Int) then Za9 f v (reV (Yb d a)).2 else none)=some u:=h;have hv:=(Zb9 hd).2.2.1;split at h'
  ·cases h';exact hv
  ·split at h'
   ·exact(Zjj hf _ _ _ h').trans hv
   ·cases h'}
theorem Zuk (d:Dk):∀ (l:Nat) (t:List UInt8) (a:Nat) (u:List UInt8),lvF d l t a=some u->LeT u t
 | 0,_,_,_,h=>(Zb9 h).2.2.1
 | l+1,t,a,u,h=>Z3d (Zuk d l) t a u h
theorem Z2e {d:Dk}{t u:List UInt8}{a:Nat}(h:lfO d t a=some u):t[a]?.getD 0≠0/\LeT u t/\(u[a]?.getD 0).toNat+1<=(t[a]?.getD 0).toNat/\(1<(t[a]?.getD 0).toNat->u=t.set a (t[a]?.getD 0-1)):=by{
 unfold lfO at h;cases hd:dnO t a with
 | none=>rw[hd] at h;cases h
 | some v =>
  rw[hd] at h;have h':(if 1<(t[a]?.getD 0).toNat then some v else if reN (Yb d a)=0 then Za9 (lvF d (reV (Yb d a)).1.toNat) v (reV (Yb d a)).2 else none)=some u:=h;obtain⟨h1,h2,hv,h3⟩:=Zb9 hd;split at h'
  ·cases h'
   exact⟨h1,hv,by omega,fun _=>h2⟩
  ·rename_i hn
   split at h'
   ·have:=Zjj (Zuk d _) _ _ _ h'
    have h4:=this.le a;exact⟨h1,this.trans hv,by omega,fun hc=>absurd hc hn⟩
   ·cases h'}
theorem LeT.may {u t:List UInt8}(h:LeT u t) (hm:Za6 t=true):Za6 u=true :=
 Zff (by rw[h.len];exact Yl hm) fun j hj=>by
  have h1:=h.le j;rw[Zjy hm hj] at h1;exact X8.1 (by simpa using h1)
def Z5l (f:List UInt8->Nat->Option (List UInt8)):Prop:=∀ t a,1<(t[a]?.getD 0).toNat->f t a=some (t.set a (t[a]?.getD 0-1))
theorem Zel {t:List UInt8}{a:Nat}(h:t[a]?.getD 0≠0):dnO t a=some (t.set a (t[a]?.getD 0-1)):=by rw[dnO,if_neg h]
theorem Zjz {x:UInt8}(h:1<x.toNat):x≠0:=fun e=>by
 rw[X8.2 e] at h;omega
theorem Zqg (d:Dk):∀ l,Z5l (lvF d l)
 | 0=>fun t a h=>Zel (Zjz h)
 | l+1=>fun t a h=>by
  show lvS d l (lvF d l) t a=_;unfold lvS;rw[Zel (Zjz h)];show (if 1<(t[a]?.getD 0).toNat then _ else _)=_;rw[if_pos h]
theorem Zgl {f:List UInt8->Nat->Option (List UInt8)}(hf:Z5l f):∀ (l:List It) (u v:List UInt8),Zco l->u.length=256->v.length=256->(∀ i,(u[i]?.getD 0).toNat=(v[i]?.getD 0).toNat+Xj l i)->(∀ i,Xj l i≠0->v[i]?.getD 0≠0)->Za9 f u l=some v
 | [],u,v,_,h1,h2,h,_=>congrArg some (Zum (by omega) h)
 | x::l,u,v,hr,h1,h2,h,h'=>by
  obtain⟨r1,r2⟩:=Zdl hr;unfold Za9;rcases r1 with r1 | ⟨k,r1,h8,h256⟩
  ·rw[if_pos r1]
   exact Zgl hf l u v r2 h1 h2 (fun i=>by rw[h i,Zbw r1]) (fun i hi=>h' i (by rwa [Zbw r1]))
  ·have e0:¬ x.2.1=0:=by omega
   have ek:x.2.1.toNat=k:=by omega
   have hk:=h k;rw[Ut r1 h8,if_pos rfl] at hk;have hv:=h' k (by rw[Ut r1 h8,if_pos rfl];omega);have hv':(v[k]?.getD 0).toNat≠0:=fun e=>hv (X8.1 e)
   have hu:1<(u[k]?.getD 0).toNat:=by omega
   rw[if_neg e0,ek,hf u k hu];show Za9 f (u.set k (u[k]?.getD 0-1)) l=some v;refine Zgl hf l _ v r2 (by rw[Qu,h1]) h2 (fun i=> ?_) (fun i hi=>h' i (by rw[Ut r1 h8];omega));by_cases e:i=k
   ·subst e
    rw[Zcv (by omega)];have:=Zmr (Zjz hu);omega
   ·rw[Uz e,h i,Ut r1 h8,if_neg e]
    omega
theorem Z01 {d:Dk}{u v:List UInt8}{k:Nat}{n:Nd}(hb:Yb d k=Uf n) (hn:mayN n=true) (hi:InN n) (h1:u.length=256) (h2:v.length=256) (hk:k<256) (hu:u[k]?.getD 0=1) (hv:v[k]?.getD 0=0) (hz:Xj n.2 k=0)
  (h:∀ i,i≠k->(u[i]?.getD 0).toNat=(v[i]?.getD 0).toNat+Xj n.2 i) (h':∀ i,Xj n.2 i≠0->v[i]?.getD 0≠0):lfO d u k=some v:=by{
 obtain⟨r1,r2⟩:=Zbq hn hi;unfold lfO;rw[Zel (by rw[hu];decide),hu,hb,r1,r2];show Za9 (lvF d n.1.toNat) (u.set k (1-1)) n.2=some v;refine Zgl (Zqg d _) n.2 _ v (Zac hn) (by rw[Qu,h1]) h2 (fun i=> ?_) h';by_cases e:i=k
 ·subst e
  rw[Zcv (by omega),hv,hz];rfl
 ·rw[Uz e,h i e]}
theorem Zh8 {s:Rm}{k:Nat}(hm:Xz s=true) (h8:8<=k) (h:k<256) (hx:s.2.1[k]?.getD 0≠0):asE s k=0:=by
 have hin:=Zt7 h8 h;have h1:¬ s.2.1[((k:Int)).toNat]?.getD 0=0:=by
  rw[show ((k:Int)).toNat=k by omega];exact hx
 rw[asE,hm,if_pos rfl,hin,if_pos rfl,if_neg h1]
theorem Z38 {s:Rm}{k:Nat}{v:List UInt8}(ha:asE s k=0) (hf:lfO s.1 s.2.1 k=some v):lvE s k=0/\lvV s k=(s.1,v,s.2.2):=by
 constructor
 ·rw[lvE,if_pos ha,show ((k:Int)).toNat=k by omega,hf]
 ·rw[lvV,if_pos ha,show ((k:Int)).toNat=k by omega,hf]
theorem Zty {s:Rm}{k:Nat}{n:Nd}(ha:asE s k=0) (hb:Yb s.1 k=Uf n) (hn:mayN n=true) (hi:InN n):rmE s k=0/\rmV s k=n:=by
 obtain⟨r1,r2⟩:=Zbq hn hi;constructor
 ·rw[rmE,if_pos ha,show ((k:Int)).toNat=k by omega,hb,r1]
 ·rw[rmV,if_pos ha,show ((k:Int)).toNat=k by omega,hb,r2]
theorem Z2x {s:Rm}{n:Nd}(hi:InN n) (h:mkE s n=0):∃ k:Nat,mkN s n=k/\8<=k/\k<256/\s.2.1[k]?.getD 0=0/\s.2.2[k]?.getD 0=0/\rmE (mkV s n) k=0/\rmV (mkV s n) k=n/\lvE (mkV s n) k=0/\lvV (mkV s n) k=(wrD s.1 k (Uf n),s.2.1,s.2.2):=by
 obtain⟨_,hn,_⟩:=Zx8 h;obtain⟨k,e1,h8,h256,hz,hz2,hc,hV,hm,c1,c2,c3,hl,hl0⟩:=Uq h;have ha:asE (mkV s n) k=0:=Zh8 hm h8 h256 (by rw[c1];decide);have hb:Yb (mkV s n).1 k=Uf n:=by rw[hV];exact Us
 have hf:lfO (mkV s n).1 (mkV s n).2.1 k=some s.2.1:=Z01 (n:=n) hb hn hi hl hl0 h256 c1 hz hc c2 c3;obtain⟨r1,r2⟩:=Zty ha hb hn hi;obtain⟨l1,l2⟩:=Z38 ha hf;exact⟨k,e1,h8,h256,hz,hz2,r1,r2,l1,by rw[l2,hV]⟩
theorem Zyt {s:Rm}{l:List It}{i:Nat}{x:It}{r:Nat}{y:UInt8}(hx:l[i]? = some x) (hr:x.2.1=(r:Int)) (h0:r≠0) (hy:s.2.1[r]?.getD 0=y):Y6 s (l.take (i+1))=(Y6 s (l.take i)&&decide (y≠0)):=by
 rw[Zlt hx,hr];have:¬ ((r:Nat):Int)=0:=by omega
 rw[decide_eq_false this,Bool.false_or,show ((r:Nat):Int).toNat=r by omega,hy]
theorem Zsf {s:Rm}{l:List It}{i:Nat}{x:It}(hx:l[i]? = some x) (hr:x.2.1=0):Y6 s (l.take (i+1))=Y6 s (l.take i):=by
 rw[Zlt hx,hr];simp
theorem Zd4 {w:Qbh}{A:Option Qbj}{n c:Nat}{xs:List It}{s:It}(h:Zaa (Old w) w [.slice A n c] xs) (hk:xs[0]? = some s) :
  ∃ ad E ce,A=some ad/\InI s/\∀ W,Qbp w.heap.size w W->At5 W ad s (.slice E s.2.2.length ce)/\Itm (Old W) W (itV s (.slice E s.2.2.length ce)) s:=by
 obtain⟨ad,E,ce,e,_,_,h1,F⟩:=Vi h hk;have e0:ad.add (0*5)=ad:=by simp[Addr.add]
 rw[e0] at F;exact⟨ad,E,ce,e,h1,F⟩
theorem Zxr (v u:Qbi) (s:Rm) (hm:Xz s=true) (n:Nd) (hn:mayN n=true) (w:Qbh) (h:Sto (Old w) w v s) (hu:Nod (Old w) w u n) :
  Qbn Tryz.prog 174 #[v,u] w fun e w'=>e=.returned (.bool (Y6 s n.2))/\Qbp w.heap.size w w':=by{
 have hrf:=Za (Zac hn);have hls:=Za (Yl (Yr hm).2.1);obtain⟨A,ca,B,cb,N,cn,L,cl,rfl,_⟩:=id h.open;obtain⟨I,ci,rfl,-,-,-,hI⟩:=id hu.open;obtain⟨lw,hlw⟩:∃ q,n.1=q:=⟨_,rfl⟩
 obtain⟨l,hl⟩:∃ q,n.2=q:=⟨_,rfl⟩
 obtain⟨m,hlm⟩:∃ q,l.length=q:=⟨_,rfl⟩
 rw[hl] at hrf;rw[hl,hlm] at hI;rw[hl,hlw,hlm];have hm5:m<=5:=by
  have:=(Z1 hn).1.2.2.1;rw[hl,hlm] at this;exact this
 obtain⟨ad,ld,rfl,rfl,-,-,-,-,had,-,hc⟩:=Zkx hm h.parts.2.1 h.parts.2.2;have HG0:Bag w [Zsu (.slice I m ci) l,Zu0 (.agg #[.slice A s.1.1.length ca,.slice B s.1.2.length cb,.slice (some ad) s.2.1.length cn,.slice (some ld) s.2.2.length cl]) s]:=((Bag.nil w).add (F:=Zu0 _ s) h (Za1 _ _)).add (F:=Zsu _ l) hI (Zg0 _ _);obtain⟨w0,hw0,hg0,hB0,_,hs0⟩:=Zfi HG0 (Qb _ _) (.slice A s.1.1.length ca) (.slice B s.1.2.length cb) (.slice (some ad) s.2.1.length cn) (.slice (some ld) s.2.2.length cl) 29;obtain⟨w1,hw1,hg1,hB1,_,hs1⟩:=Zdb hg0 (Qb _ _) (.int .i64 lw) (.slice I m ci);have HG:=Za hg1;have BB:=Za (hB0.trans (hB1.mono hB0.size));have cS:Hid (∀ j,j<256->∀ W,Qbp w1.heap.size w1 W->W.cell? (ad.add j)=some (.int .u8 ((s.2.1[j]?.getD 0).toNat:Int))):=Za fun j hj W hW =>
  ((BB.out.trans (hW.mono BB.out.size)).cell (by rw[Zh];exact had)).trans (hc j hj).1
 obtain⟨y0,y1,_⟩:=hg1.at 0 rfl;replace hs1:=Za hs1;replace hs0:=Za hs0;replace hlw:=Za hlw;replace hl:=Za hl;replace hlm:=Za hlm;clear HG0 hg1 hg0 h hu hB1 hB0 hc hI
 go_enter Tryz.func174,Tryz.ntmps174
 go_upto_region 1 with fail
 clear hw1 hw0
 go_wp2_with fail
 clear y0 y1
 go_loopw [10] (fun vi wr=>∃ k:Nat,k<=m/\vi=.int .i64 k/\Y6 s (l.take k)=true/\Qbp w1.heap.size w1 wr) (fun vi _=>m-(intOf vi).toNat)
 case atStart=>exact⟨0,by omega,rfl,rfl,Qb _ _⟩
 case round =>
  obtain⟨k,hk,rfl,hE,hbr⟩:=hrel;have HR:=Za (HG.out.below hbr);have BR:=Za (BB.out.trans (hbr.mono BB.out.size));by_cases hlt:k<m
  case neg =>
   have hf:Hid (Y6 s l=true):=Za (by rw[<- hE,Qj (by rw[hlm.out];omega)]);clear hE hbr
   go_wp2_with fail
   go_ret;exact⟨Y3 hf.out.symm,BR.out⟩
  obtain⟨x,hx⟩:∃ x,l[k]? = some x:=⟨_,Qf (by rw[hlm.out];exact hlt)⟩
  have hxr:=hrf.out x (Pi hx);have hIt:Zaa (Old wr) wr [.slice I m ci] l:=HR.out.at 2 rfl;obtain⟨a5,E5,ce5,rfl,_,_,_,FX⟩:=Vi hIt hx;obtain⟨⟨z0,z1,z2,z3,z4⟩,_⟩:=FX wr (Qb _ _);obtain⟨w2,hw2,r0,r1,r2,r3,r4,hs2,hB2,_⟩:=Z0 wr (.int .u8 (x.1.1.toNat:Int)) (.int .u32 x.1.2.1) (.int .u32 x.1.2.2) (.int .i64 x.2.1) (.slice E5 x.2.2.length ce5) 79;have B2:=Za (hbr.trans (hB2.mono hbr.size));have H2:=Za (HR.out.below hB2);have BF:=Za (BB.out.trans (B2.out.mono BB.out.size));replace hs2:=Za hs2;clear FX hIt hB2
  go_upto_region 4 with fail
  clear hw2 z0 z1 z2 z3 z4;obtain⟨k0,k1,k2,k3,_⟩:=H2.out.at 1 rfl;rw[hls.out] at k2;have i4:(0:Int)<=(k:Int):=by omega
  have i5:(k:Int)<(m:Int):=by omega
  obtain⟨z,hzz⟩:∃ z,x.2.1=z:=⟨_,rfl⟩
  rw[hzz] at r3 hxr;by_cases hz0:z=0
  ·subst hz0
   have hst:Hid (Y6 s (l.take (k+1))=true):=Za (by rw[Zsf hx hzz,hE]);replace hx:=Za hx;replace hzz:=Za hzz;clear hE hxr;replace hbr:=Za hbr
   go_wp2_with fail
   go_roundw
   case rel=>exact⟨k+1,by omega,by go_num,hst.out,B2.out⟩
   case measure=>simp[intOf];omega
  ·obtain⟨r,hr,r8,r256⟩:∃ r:Nat,z=r/\8<=r/\r<256:=⟨z.toNat,by omega,by omega,by omega⟩
   subst hr;have hcell:=cS.out r r256 w2 B2.out;obtain⟨y,hy⟩:∃ y,s.2.1[r]?.getD 0=y:=⟨_,rfl⟩
   have hst:=Zyt hx hzz (by omega) hy;rw[hE,Bool.true_and] at hst;rw[hy] at hcell;have j0:(0:Int)<=(r:Int):=by omega
   have j1:r<256:=r256;have j2:¬ r=0:=by omega
   replace hbr:=Za hbr;replace hzz:=Za hzz;replace hy:=Za hy;clear hE hxr hz0;by_cases hy0:y=0
   ·have t0:=Xv (y:=0) (q:=0) rfl hy0
    have hf:Hid (Y6 s l=false):=Za (Zyf (i:=k+1) (by rw[hst];simp[hy0]));replace hx:=Za hx;clear hst hy0
    go_wp2_with fail
    go_ret;exact⟨Y3 hf.out.symm,BF.out⟩
   ·have t0:=Y8 (y:=0) (q:=0) rfl hy0
    replace hst:Hid (Y6 s (l.take (k+1))=true):=Za (by rw[hst];simpa using hy0);replace hx:=Za hx;clear hy0
    go_wp2_with fail
    go_roundw
    case rel=>exact⟨k+1,by omega,by go_num,hst.out,B2.out⟩
    case measure=>simp[intOf];omega}
structure Zbi (s t:Rm):Prop where
 may:Xz t=true
 held:∀ k:Nat,s.2.1[k]?.getD 0≠0->t.2.1[k]?.getD 0≠0
 seen:∀ k:Nat,s.2.1[k]?.getD 0≠0->Yb t.1 k=Yb s.1 k
theorem Zga {s t:Rm}(h:Zbi s t){a:Int}(ha:asE s a=0):asE t a=0/\rmE t a=rmE s a/\rmV t a=rmV s a:=by
 obtain⟨k,rfl,hm,h8,h256,_,_,hE,hV,hx⟩:=Vy ha;have ht:asE t (k:Int)=0:=Zh8 h.may h8 h256 (h.held k hx);refine⟨ht,?_,?_⟩
 ·rw[hE,rmE,if_pos ht,show ((k:Int)).toNat=k by omega,h.seen k hx]
 ·rw[hV,rmV,if_pos ht,show ((k:Int)).toNat=k by omega,h.seen k hx]
theorem Zli {s t:Rm}(h:Zbi s t){l:List It}(hl:Y6 s l=true):Y6 t l=true:=by
 unfold Y6 at hl ⊢;rw[Qw] at hl ⊢;intro x hx;have h1:=hl x hx;simp only[Qas,decide_eq_true_eq] at h1 ⊢;exact h1.imp id (h.held _)
theorem Zdh {f g:Int->Ky->Ky->Bool->Bool}(h:∀ a k tb e,f a k tb e=true->g a k tb e=true):∀ (l:List It) (tb:Ky) (e:Bool),Zbn f l tb e=true->Zbn g l tb e=true
 | [],_,_,_=>rfl
 | x::r,tb,e,hf=>by
  rw[Zae,Qi] at hf ⊢;exact⟨h _ _ _ _ hf.1,Zdh h r tb e hf.2⟩
theorem Uy {f:Int->Ky->Ky->Bool->Bool}:∀ {l:List It}{tb:Ky}{e:Bool},Zbn f l tb e=true->∀ x∈l,∃ t e,f x.2.1 x.1 t e=true
 | [],_,_,_,x,hx=>by simp at hx
 | y::r,tb,e,hf,x,hx=>by
  rw[Zae,Qi] at hf;rcases Ql.1 hx with rfl | hx
  ·exact⟨_,_,hf.1⟩
  ·exact Uy hf.2 x hx
theorem U6 {g g':Int->List It}:∀ {l:List It},(∀ x∈l,g x.2.1=g' x.2.1)->l.flatMap (fun x=>g x.2.1)=l.flatMap fun x=>g' x.2.1
 | [],_=>rfl
 | x::r,h=>by
  rw[Qq,Qq,h x Qy,U6 fun y hy=>h y (Qs _ hy)]
theorem Yw {s t:Rm}(h:Zbi s t):∀ (l:Nat) (a:Int) (k tb:Ky) (e:Bool),Yy s l a k tb e=true->Yy t l a k tb e=true/\Ud t l a=Ud s l a/\∀ q,Zj1 t l a q=Zj1 s l a q
 | 0,a,k,tb,e,hr=>by
  obtain⟨h1,h2,h3,h4⟩:=Xx hr;obtain⟨_,k1,k2⟩:=Zga h (Xe h1).2;refine⟨?_,by unfold Ud;rw[k2],fun q=>by unfold Zj1;rw[k2]⟩;unfold Yy;rw[k1,k2,h1,h2,h3,Zli h h4];rfl
 | l+1,a,k,tb,e,hr=>by
  obtain⟨h1,h2,h3,h4⟩:=Xx hr;obtain⟨_,k1,k2⟩:=Zga h (Xe h1).2;have hm:=Uy h4;refine⟨?_,?_,fun q=> ?_⟩
  ·unfold Yy
   rw[k1,k2,h1,h2,h3,Zdh (fun a k tb e hf=>(Yw h l a k tb e hf).1) _ _ _ h4];simp
  ·unfold Ud
   rw[k2];exact U6 fun x hx=>by
    obtain⟨t',e',hf⟩:=hm x hx;exact(Yw h l _ _ _ _ hf).2.1
  ·unfold Zj1
   rw[k2];cases hf:(rmV s a).2.reverse.find? (fun x => !Zr q x.1) with
   | none=>rfl
   | some y =>
    obtain⟨t',e',hf'⟩:=hm y (Pa.1 (Pt hf));exact(Yw h l _ _ _ _ hf').2.2 q
def Yp (g:Int->Option (Ky×Ky)):List It->Option (Ky×Ky)
 | []=>none
 | [x]=>(g x.2.1).bind fun p=>if p.1=x.1 then some p else none
 | x::y::r=>(g x.2.1).bind fun p=>(Yp g (y::r)).bind fun q=>if p.1=x.1/\Zr p.2 y.1=true then some (p.1,q.2) else none
def U5 (s:Rm):Nat->Int->Option (Ky×Ky)
 | 0,a=>if rmE s a=0/\(rmV s a).1=0/\Y6 s (rmV s a).2=true then ((rmV s a).2[0]?).bind fun x=>((rmV s a).2.getLast?).map fun y=>(x.1,y.1) else none
 | l+1,a=>if rmE s a=0/\(rmV s a).1=((l+1:Nat):Int) then Yp (U5 s l) (rmV s a).2 else none
def LeK (a b:Ky):Prop:=a=b\/Zr a b=true
theorem LeK.lt {a b c:Ky}(h:LeK a b) (h':Zr b c=true):Zr a c=true:=h.elim (fun e=>by rw[e];exact h') fun h=>Y0 h h'
theorem LeK.trans {a b c:Ky}(h:LeK a b) (h':LeK b c):LeK a c:=h'.elim (fun e=>e ▸ h) fun h'=>.inr (h.lt h')
theorem Uv {g:Int->Option (Ky×Ky)}(hg:∀ a p,g a=some p->LeK p.1 p.2):∀ {l:List It}{p:Ky×Ky},Yp g l=some p->LeK p.1 p.2/\∃ x r,l=x::r/\p.1=x.1
 | [],_,h=>by cases h
 | [x],p,h=>by
  unfold Yp at h;cases hx:g x.2.1 with
  | none=>rw[hx] at h;cases h
  | some q =>
   rw[hx] at h;have h':(if q.1=x.1 then some q else none)=some p:=h;split at h'
   ·rename_i e
    cases h';exact⟨hg _ _ hx,x,[],rfl,e⟩
   ·cases h'
 | x::y::r,p,h=>by
  unfold Yp at h;cases hx:g x.2.1 with
  | none=>rw[hx] at h;cases h
  | some q =>
   rw[hx] at h;cases hc:Yp g (y::r) with
   | none=>rw[hc] at h;cases h
   | some q' =>
    rw[hc] at h;have h':(if q.1=x.1/\Zr q.2 y.1=true then some (q.1,q'.2) else none)=some p:=h;obtain⟨i1,y',r',e',i2⟩:=Uv hg hc;cases e';split at h'
    ·rename_i e
     cases h';refine⟨.inr ?_,x,y::r,rfl,e.1⟩;have h1:Zr q.1 y.1=true:=(hg _ _ hx).lt e.2;rw[<- i2] at h1;exact i1.elim (fun e=>e ▸ h1) fun h2=>Y0 h1 h2
    ·cases h'
theorem Zc4 (s:Rm):∀ (l:Nat) (a:Int) (p:Ky×Ky),U5 s l a=some p->LeK p.1 p.2
 | 0,a,p,h=>by
  unfold U5 at h;split at h
  ·rename_i hc
   have hu:=Zaq (Xe hc.1).1;cases hl:(rmV s a).2 with
   | nil=>rw[hl] at h;cases h
   | cons x r =>
    rw[hl] at h hu;cases hz:(x::r).getLast? with
    | none=>rw[hz] at h;cases h
    | some z =>
     rw[hz] at h;cases h;rcases Ziu hu z (Pw hz) with e | e
     ·exact .inl e.symm
     ·exact .inr e
  ·cases h
 | l+1,a,p,h=>by
  unfold U5 at h;split at h
  ·exact(Uv (Zc4 s l) h).1
  ·cases h
theorem Zdm {f:Int->Ky->Ky->Bool->Bool}{g:Int->Option (Ky×Ky)}(hle:∀ a p,g a=some p->LeK p.1 p.2) (hfg:∀ a k tb e,f a k tb e=true↔∃ t,g a=some (k,t)/\(e=true->Zr t tb=true)):∀ (l:List It) (tb:Ky) (e:Bool),l≠[] ->
  (Zbn f l tb e=true↔∃ p,Yp g l=some p/\(e=true->Zr p.2 tb=true))
 | [],_,_,h=>absurd rfl h
 | [x],tb,e,_=>by
  show f x.2.1 x.1 tb e=true↔_;rw[hfg];unfold Yp;constructor
  ·rintro⟨t,h1,h2⟩
   exact⟨(x.1,t),by rw[h1];simp,h2⟩
  ·rintro⟨p,h1,h2⟩
   cases hx:g x.2.1 with
   | none=>rw[hx] at h1;cases h1
   | some q =>
    rw[hx] at h1;have h':(if q.1=x.1 then some q else none)=some p:=h1;split at h'
    ·rename_i e1
     cases h';exact⟨p.2,by rw[<- e1],h2⟩
    ·cases h'
 | x::y::r,tb,e,_=>by
  have ih:=Zdm hle hfg (y::r) tb e (by simp);show (f x.2.1 x.1 y.1 true&&Zbn f (y::r) tb e)=true↔_;rw[Qi,hfg,ih];constructor
  ·rintro⟨⟨t,h1,h2⟩,p,h3,h4⟩
   refine⟨(x.1,p.2),?_,h4⟩;unfold Yp;rw[h1,h3];simp[h2 rfl]
  ·rintro⟨p,h1,h2⟩
   unfold Yp at h1;cases hx:g x.2.1 with
   | none=>rw[hx] at h1;cases h1
   | some q =>
    rw[hx] at h1;cases hc:Yp g (y::r) with
    | none=>rw[hc] at h1;cases h1
    | some q' =>
     rw[hc] at h1;have h':(if q.1=x.1/\Zr q.2 y.1=true then some (q.1,q'.2) else none)=some p:=h1;split at h'
     ·rename_i e1
      cases h';exact⟨⟨q.2,by rw[<- e1.1],fun _=>e1.2⟩,q',rfl,h2⟩
     ·cases h'
theorem Zer (s:Rm):∀ (l:Nat) (a:Int) (k tb:Ky) (e:Bool),Yy s l a k tb e=true↔∃ t,U5 s l a=some (k,t)/\(e=true->Zr t tb=true)
 | 0,a,k,tb,e=>by
  constructor
  ·intro h
   obtain⟨h1,h2,h3,h4⟩:=Xx h;obtain⟨x,r,hl,ek,hz⟩:=Zb2 h3;obtain⟨z,hz1⟩:∃ z,(rmV s a).2.getLast? = some z:=by
    rw[hl];exact⟨_,Qat (by simp)⟩
   refine⟨z.1,?_,fun he=> ?_⟩
   ·unfold U5
    rw[if_pos ⟨h1,h2,h4⟩,hz1,show (rmV s a).2[0]? = some x by rw[hl];rfl,<- ek];rfl
   ·obtain⟨z',e1,e2⟩:=hz he
    rw[hz1] at e1;cases e1;exact e2
  ·rintro⟨t,h1,h2⟩
   unfold U5 at h1;split at h1
   ·rename_i hc
    unfold Yy;cases hx:(rmV s a).2[0]? with
    | none=>rw[hx] at h1;cases h1
    | some x =>
     cases hz:(rmV s a).2.getLast? with
     | none=>rw[hx,hz] at h1;cases h1
     | some z =>
      rw[hx,hz] at h1;have h1':(some (x.1,z.1):Option (Ky×Ky))=some (k,t):=h1;simp only[Option.some.injEq,Prod.mk.injEq] at h1';have hh:Ze7 (rmV s a).2 k tb e=true:=by
       unfold Ze7;rw[hx,hz];cases e with
       | false=>simp[h1'.1]
       | true=>simp[h1'.1,h1'.2,h2 rfl]
      rw[hc.1,hc.2.1,hc.2.2,hh]
      decide
   ·cases h1
 | l+1,a,k,tb,e=>by
  have hc:=Zdm (Zc4 s l) (fun a k tb e=>Zer s l a k tb e) (rmV s a).2 tb e;constructor
  ·intro h
   obtain⟨h1,h2,h3,h4⟩:=Xx h;obtain⟨x,r,hl,ek,_⟩:=Zb2 h3;obtain⟨p,hp,hb⟩:=(hc (by rw[hl];simp)).1 h4;obtain⟨_,x',r',e',hf⟩:=Uv (Zc4 s l) hp;rw[hl] at e';cases e';refine⟨p.2,?_,hb⟩;unfold U5;rw[if_pos ⟨h1,h2⟩,hp,<- ek,<- hf]
  ·rintro⟨t,h1,h2⟩
   unfold U5 at h1;split at h1
   ·rename_i hcond
    obtain⟨_,x,r,hl,hf⟩:=Uv (Zc4 s l) h1;have hi:=(hc (by rw[hl];simp)).2 ⟨(k,t),h1,h2⟩;have hh:Ze7 (rmV s a).2 k tb e=true:=by
     cases e with
     | false =>
      unfold Ze7;rw[hl];simp[<- hf]
     | true =>
      obtain⟨x',r',e',hp⟩:=Zbg (Xg s l) (rmV s a).2 tb true (by rw[hl];simp) hi;obtain⟨z,hz1⟩:∃ z,(rmV s a).2.getLast? = some z:=by
       rw[hl];exact⟨_,Qat (by simp)⟩
      obtain⟨t',e2,hf2⟩:=Uy hi z (Pw hz1);obtain⟨y,r2,ey,ky⟩:=(Xg s l _ _ _ _ hf2).first;have hy:=hp.bound rfl y (Pd.2 ⟨z,Pw hz1,by rw[ey];simp⟩);rw[ky] at hy;unfold Ze7;rw[hz1,show (rmV s a).2[0]? = some x by rw[hl];rfl];simp[<- hf,hy]
    unfold Yy;rw[hcond.1,hcond.2,hh,hi];simp
   ·cases h1
theorem Zs4 (s:Rm) (a:Int):Ub s a=true↔rmE s a=0/\(match (rmV s a).1.toNat with | 0=>Y6 s (rmV s a).2=true | l+1=>∃ p,Yp (U5 s l) (rmV s a).2=some p):=by{
 constructor
 ·intro h
  obtain⟨h1,_,hm,l0,_,hi⟩:=Ur h;refine⟨h1,?_⟩;unfold Ze4 at hi;cases hl:(rmV s a).1.toNat with
  | zero=>rw[hl] at hi;exact hi
  | succ l =>
   rw[hl] at hi;have hne:(rmV s a).2≠[]:=fun e=>by
    have:=(Z1 hm).1.2.2.2 (by omega);rw[e] at this;simp at this
   obtain⟨p,hp,_⟩:=(Zdm (Zc4 s l) (fun a k tb e=>Zer s l a k tb e) _ Zeb false hne).1 hi;exact⟨p,hp⟩
 ·rintro⟨h1,h2⟩
  unfold Ub;rw[h1];unfold Ze4;cases hl:(rmV s a).1.toNat with
  | zero=>rw[hl] at h2;simp only[h2];rfl
  | succ l =>
   rw[hl] at h2;obtain⟨p,hp⟩:=h2;obtain⟨_,x,r,e,_⟩:=Uv (Zc4 s l) hp;have:=(Zdm (Zc4 s l) (fun a k tb e=>Zer s l a k tb e) (rmV s a).2 Zeb false (by rw[e];simp)).2 ⟨p,hp,fun h=>by cases h⟩;simp only[this];rfl}
theorem Zyb {p:It->Bool}{l:List It}{k:Nat}{x:It}(hx:l[k]? = some x):(l.take (k+1)).reverse.find? p=if p x=true then some x else (l.take k).reverse.find? p:=by
 have hk:=(Qg.1 hx).1;have hg:l[k]=x:=(Qg.1 hx).2;rw[<- Qt hk,hg,Qau,List.reverse_singleton,List.singleton_append,Qal];cases p x <;> rfl
theorem Zvx {p:It->Bool}{l:List It}{j:Nat}{x:It}(hx:l[j]? = some x) (h1:p x=true) (h2:∀ i y,j<i->l[i]? = some y->p y=false):l.reverse.find? p=some x:=by{
 have e:l.reverse.find? p=(l.take (j+1)).reverse.find? p:=by
  conv=>lhs;rw[<- Pe (j+1) l,Qau,Qak]
  rw[Zbp (l:=l.drop (j+1)) fun y hy=>by
   obtain⟨i,hi⟩:=Q6 hy;rw[Q5] at hi
   exact h2 (j+1+i) y (by omega) hi]
  rfl
 rw[e,Zyb hx,if_pos h1]}
theorem Zbj {n:Nd}(h:mayN n=true){k:Ky}{x:It}(ht:Yo n k=true) (hx:n.2[Z4 n k]? = some x):x.1=k/\(n.2.reverse.find? fun x => !Zr k x.1)=some x/\(n.2.reverse.find? fun x=>decide (x.1=k))=some x:=by{
 have e:x.1=k:=by
  rw[Zgq hx] at ht
  simpa using ht
 have hup:∀ i y,Z4 n k<i->n.2[i]? = some y->Zr k y.1=true:=fun i y hi hy=>by
  rw[<- e];exact Ui h hi hx hy
 refine⟨e,Zvx hx (by rw[e,Xf];rfl) fun i y hi hy=>by rw[hup i y hi hy];rfl,Zvx hx (by simpa using e) fun i y hi hy=> ?_⟩;have h1:=hup i y hi hy;have:y.1≠k:=fun e2=>by rw[e2,Xf] at h1;cases h1
 simpa using this}
theorem Zhm {n:Nd}(h:mayN n=true){k:Ky}(ht:Yo n k=false):(n.2.reverse.find? fun x=>decide (x.1=k))=none:=Zbp fun x hx=>by
 obtain⟨i,hi⟩:=Q6 hx;have:x.1≠k:=fun e=>by
  have:=(Zln h hi).2;rw[e,ht] at this;cases this
 simpa using this
theorem Zad {n:Nd}(h:mayN n=true){k:Ky}(ht:Yo n k=false){i:Nat}{y:It}(hi:Z4 n k<=i) (hy:n.2[i]? = some y):Zr k y.1=true:=by
 have h1:=Vu h (k:=k) hy;rw[decide_eq_false (by omega)] at h1;have hne:y.1≠k:=fun e=>by
  have:=(Zln h hy).2;rw[e,ht] at this;cases this
 exact Za3 hne h1
theorem Znz {n:Nd}(h:mayN n=true){k:Ky}{j:Nat}{x:It}(ht:Yo n k=false) (hj:Z4 n k=j+1) (hx:n.2[j]? = some x):(n.2.reverse.find? fun x => !Zr k x.1)=some x:=by
 have h1:=Vu h (k:=k) hx;rw[decide_eq_true (by omega)] at h1;refine Zvx hx (by rw[V6 h1];rfl) fun i y hi hy=> ?_
 rw[Zad h ht (by omega) hy];rfl
theorem Zq2 {n:Nd}(h:mayN n=true){k:Ky}(ht:Yo n k=false) (hj:Z4 n k=0):(n.2.reverse.find? fun x => !Zr k x.1)=none:=Zbp fun y hy=>by
 obtain⟨i,hi⟩:=Q6 hy;rw[Zad h ht (by omega) hi];rfl
theorem Zdr {n:Nd}{k:Ky}(ht:Yo n k=true):Z4 n k<n.2.length:=by{
 rcases Pf (Z4 n k) n.2.length with h | h
 ·exact h
 ·rw[Zhr h] at ht
  cases ht}
structure AtT (s:Rm) (l:Nat) (a:Int):Prop where
 ok:rmE s a=0
 lvl:(rmV s a).1=(l:Int)
 below:∀ j,l=j+1->∀ x∈(rmV s a).2,∃ t e,Yy s j x.2.1 x.1 t e=true
theorem AtT.may {s:Rm}{l:Nat}{a:Int}(h:AtT s l a):mayN (rmV s a)=true:=(Xe h.ok).1
theorem Zy2 {s:Rm}{l:Nat}{a:Int}{k tb:Ky}{e:Bool}(h:Yy s l a k tb e=true):AtT s l a:=by
 obtain⟨h1,h2,_,h4⟩:=Xx h;refine⟨h1,h2,fun j hj x hx=> ?_⟩;subst hj;exact Uy h4 x hx
theorem AtT.down {s:Rm}{j:Nat}{a:Int}(h:AtT s (j+1) a){x:It}(hx:x∈(rmV s a).2):AtT s j x.2.1:=by
 obtain⟨t,e,hr⟩:=h.below j rfl x hx;exact Zy2 hr
theorem Zi5 {s:Rm}{a:Int}(h:Ub s a=true):AtT s (rmV s a).1.toNat a:=by
 obtain⟨h1,_,_,l0,_,hi⟩:=Ur h;refine⟨h1,by omega,fun j hj x hx=> ?_⟩;unfold Ze4 at hi;rw[hj] at hi;exact Uy hi x hx
theorem Zv9 (s:Rm) (a:Int) (k:Ky):Zj1 s 0 a k=(rmV s a).2.reverse.find? fun x=>decide (x.1=k):=rfl
theorem Zug (s:Rm) (l:Nat) (a:Int) (k:Ky):Zj1 s (l+1) a k=((rmV s a).2.reverse.find? fun x => !Zr k x.1).bind fun x=>Zj1 s l x.2.1 k:=rfl
def Zbk (s:Rm) (n:Nd):Option (Ky×Ky):=match n.1.toNat with
 | 0=>if Y6 s n.2=true then (n.2[0]?).bind fun x=>(n.2.getLast?).map fun y=>(x.1,y.1) else none
 | l+1=>Yp (U5 s l) n.2
theorem Zk8 (s:Rm) (l:Nat) (a:Int):U5 s l a=if rmE s a=0/\(rmV s a).1=(l:Int) then Zbk s (rmV s a) else none:=by{
 cases l with
 | zero =>
  unfold U5;by_cases h1:rmE s a=0/\(rmV s a).1=((0:Nat):Int)
  ·rw[if_pos h1]
   unfold Zbk;rw[h1.2];by_cases h2:Y6 s (rmV s a).2=true
   ·rw[if_pos ⟨h1.1,rfl,h2⟩]
    show _=if Y6 s (rmV s a).2=true then _ else none
    rw[if_pos h2]
   ·rw[if_neg (fun h=>h2 h.2.2)]
    show _=if Y6 s (rmV s a).2=true then _ else none
    rw[if_neg h2]
  ·rw[if_neg h1,if_neg (fun h=>h1 ⟨h.1,h.2.1⟩)]
 | succ l =>
  unfold U5;by_cases h1:rmE s a=0/\(rmV s a).1=((l+1:Nat):Int)
  ·rw[if_pos h1,if_pos h1]
   unfold Zbk;rw[h1.2,show ((l+1:Nat):Int).toNat=l+1 by omega]
  ·rw[if_neg h1,if_neg h1]}
theorem Zkw {s:Rm}{n:Nd}{x y:It}{j:Nat}(h:n.1=0) (hx:n.2[0]? = some x) (hj:n.2.length=j+1) (hy:n.2[j]? = some y):Zbk s n=if Y6 s n.2=true then some (x.1,y.1) else none:=by
 have hl:n.2.getLast? = some y:=by rw[List.getLast?_eq_getElem?,hj];exact hy
 unfold Zbk;rw[h];show (if Y6 s n.2=true then _ else none)=_;rw[hx,hl];rfl
theorem Zmb {s:Rm}{n:Nd}{l:Nat}(h:n.1=((l+1:Nat):Int)):Zbk s n=Yp (U5 s l) n.2:=by
 unfold Zbk;rw[h,show ((l+1:Nat):Int).toNat=l+1 by omega]
theorem Zdj {g:Int->Option (Ky×Ky)}{l:List It}{x:It}(hx:l[0]? = some x):Yp g (l.take 1)=(g x.2.1).bind fun p=>if p.1=x.1 then some p else none:=by{
 cases l with
 | nil=>cases hx
 | cons y r =>
  cases hx;rfl}
theorem Zlu {g:Int->Option (Ky×Ky)}(x:It):∀ (l:List It),l≠[]->Yp g (l++[x])=(Yp g l).bind fun q=>(g x.2.1).bind fun p=>if p.1=x.1/\Zr q.2 x.1=true then some (q.1,p.2) else none
 | [],h=>absurd rfl h
 | [y],_=>by
  show (g y.2.1).bind _=_;unfold Yp;cases g y.2.1 with
  | none=>rfl
  | some p =>
   show ((Yp g [x]).bind _)=((if p.1=y.1 then some p else none):Option (Ky×Ky)).bind _;unfold Yp;cases g x.2.1 with
   | none =>
    by_cases h1:p.1=y.1 <;> simp[h1]
   | some q =>
    by_cases h1:p.1=y.1 <;> by_cases h2:q.1=x.1 <;> by_cases h3:Zr p.2 x.1=true <;> simp[h1,h2,h3]
 | y::z::r,_=>by
  have ih:=Zlu (g:=g) x (z::r) (by simp);show (g y.2.1).bind (fun p=>(Yp g (z::r++[x])).bind _)=_;rw[ih]
  conv=>rhs;unfold Yp
  cases g y.2.1 with
  | none=>rfl
  | some p =>
   cases Yp g (z::r) with
   | none=>rfl
   | some q =>
    cases g x.2.1 with
    | none =>
     by_cases h1:p.1=y.1/\Zr p.2 z.1=true <;> simp[h1]
    | some q' =>
     by_cases h1:p.1=y.1/\Zr p.2 z.1=true <;> by_cases h2:q'.1=x.1/\Zr q.2 x.1=true <;> simp[h1,h2]
theorem Um {g:Int->Option (Ky×Ky)}{l:List It}{k:Nat}{x:It}(hx:l[k]? = some x) (hk:0<k):Yp g (l.take (k+1))=(Yp g (l.take k)).bind fun q=>(g x.2.1).bind fun p=>if p.1=x.1/\Zr q.2 x.1=true then some (q.1,p.2) else none:=by
 have hl:=(Qg.1 hx).1;have hg:l[k]=x:=(Qg.1 hx).2;rw[<- Qt hl,hg];exact Zlu x _ fun e=>by
  have h0:(l.take k).length=0:=by rw[e];rfl
  rw[Qn] at h0;omega
theorem Zg6 {g:Int->Option (Ky×Ky)}{l:List It}:∀ {k:Nat},0<k->Yp g (l.take k)=none->Yp g l=none:=fun {k} hk h=>by
 induction hn:l.length-k generalizing k with
 | zero=>rwa [Qj (by omega)] at h
 | succ n ih =>
  obtain⟨x,hx⟩:∃ x,l[k]? = some x:=⟨_,Qf (by omega)⟩
  exact ih (k:=k+1) (by omega) (by rw[Um hx hk,h];rfl) (by omega)
theorem Zsx {g:Int->Option (Ky×Ky)}{l:List It}{x:It}(hx:l[0]? = some x):∀ {k:Nat}{q:Ky×Ky},0<k->k<=l.length->Yp g (l.take k)=some q->q.1=x.1:=fun {k} {q} hk hl h=>by
 induction k generalizing q with
 | zero=>omega
 | succ k ih =>
  by_cases h0:k=0
  ·subst h0
   rw[Zdj hx] at h;cases hg:g x.2.1 with
   | none=>rw[hg] at h;cases h
   | some p =>
    rw[hg] at h;have h':(if p.1=x.1 then some p else none)=some q:=h;split at h'
    ·rename_i e;cases h';exact e
    ·cases h'
  ·obtain⟨y,hy⟩:∃ y,l[k]? = some y:=⟨_,Qf (by omega)⟩
   rw[Um hy (by omega)] at h;cases hc:Yp g (l.take k) with
   | none=>rw[hc] at h;cases h
   | some q' =>
    have e:=ih (by omega) (by omega) hc;rw[hc] at h;cases hg:g y.2.1 with
    | none=>rw[hg] at h;cases h
    | some p =>
     rw[hg] at h;have h':(if p.1=y.1/\Zr q'.2 y.1=true then some (q'.1,p.2) else none)=some q:=h;split at h'
     ·cases h';exact e
     ·cases h'
def Zbe (s:Rm) (n:Nd):Bool:=decide (n.2.length=0)||(Zbk s n).isSome
theorem Zon {s:Rm}{a:Int}(h:rmE s a=0):Zbe s (rmV s a)=Ub s a:=by{
 have hm:=(Xe h).1;have hsh:=(Z1 hm).1;have e:Ub s a=true↔Zbe s (rmV s a)=true:=by
  rw[Zs4];unfold Zbe;rw[Qas,decide_eq_true_eq];cases hl:(rmV s a).1.toNat with
  | zero =>
   have h0:(rmV s a).1=0:=by omega
   simp only;by_cases hz:(rmV s a).2.length=0
   ·have:(rmV s a).2=[]:=Qav hz
    rw[this];simp[h,Y6]
   ·obtain⟨j,hj⟩:∃ j,(rmV s a).2.length=j+1:=⟨(rmV s a).2.length-1,by omega⟩
    obtain⟨x,hx⟩:∃ x,(rmV s a).2[0]? = some x:=⟨_,Qf (by omega)⟩
    obtain⟨y,hy⟩:∃ y,(rmV s a).2[j]? = some y:=⟨_,Qf (by omega)⟩
    rw[Zkw h0 hx hj hy];by_cases h2:Y6 s (rmV s a).2=true <;> simp[h,h2,hz]
  | succ l =>
   have h1:(rmV s a).1=((l+1:Nat):Int):=by omega
   have hz:¬ (rmV s a).2.length=0:=by have:=hsh.2.2.2 (by omega);omega
   rw[Zmb h1];simp only;constructor
   ·rintro⟨_,p,hp⟩
    rw[hp];exact .inr rfl
   ·rintro(h3 | h3)
    ·exact absurd h3 hz
    ·exact⟨h,Option.isSome_iff_exists.1 h3⟩
 cases h1:Ub s a with
 | true=>exact e.1 h1
 | false =>
  cases h2:Zbe s (rmV s a) with
  | false=>rfl
  | true=>rw[e.2 h2] at h1;cases h1}
def StC (g:Int->Option (Ky×Ky)) (l:List It) (k:Nat) (t:Ky):Prop:=k=0\/∃ f,Yp g (l.take k)=some (f,t)
section
variable {g : Int -> Option (Ky × Ky)}{l : List It}{k : Nat}{x : It}{p : Ky × Ky}{t : Ky}
theorem Zu4 (hx:l[k]? = some x) (h:g x.2.1=none):Yp g l=none:=by{
 refine Zg6 (k:=k+1) (by omega) ?_;by_cases h0:k=0
 ·subst h0
  rw[Zdj hx,h];rfl
 ·rw[Um hx (by omega),h]
  cases Yp g (l.take k) <;> rfl}
theorem Zue (hx:l[k]? = some x) (h:g x.2.1=some p) (hp:p.1≠x.1):Yp g l=none:=by{
 refine Zg6 (k:=k+1) (by omega) ?_;by_cases h0:k=0
 ·subst h0
  rw[Zdj hx,h];simp[hp]
 ·rw[Um hx (by omega),h]
  cases Yp g (l.take k) <;> simp[hp]}
theorem Zwk (hx:l[k]? = some x) (h0:k≠0) (hs:StC g l k t) (hl:Zr t x.1=false):Yp g l=none:=by
 rcases hs with hs | ⟨f,hs⟩
 ·exact absurd hs h0
 refine Zg6 (k:=k+1) (by omega) ?_;rw[Um hx (by omega),hs];cases g x.2.1 <;> simp[hl]
theorem Ztx (hx:l[k]? = some x) (hs:StC g l k t) (hl:k≠0->Zr t x.1=true) (h:g x.2.1=some p) (hp:p.1=x.1):StC g l (k+1) p.2:=by{
 refine .inr ?_;by_cases h0:k=0
 ·subst h0
  rw[Zdj hx,h]
  exact⟨p.1,by
   show (if p.1=x.1 then some p else none)=some (p.1,p.2)
   rw[if_pos hp]⟩
 ·rcases hs with hs | ⟨f,hs⟩
  ·exact absurd hs h0
  rw[Um hx (by omega),hs,h];exact⟨f,by simp[hp,hl h0]⟩}
end
theorem Zq5 {s:Rm}{n:Nd}(h:n.2.length=0):Zbk s n=none:=by
 have e:n.2=[]:=Qav h;unfold Zbk;rw[e];cases n.1.toNat with
 | zero=>simp[Y6]
 | succ l=>rfl
theorem Z11 {s:Rm}{l:Nat}{a:Int}(h:¬ (rmE s a=0/\(rmV s a).1=(l:Int)/\(rmV s a).2.length≠0)):U5 s l a=none:=by{
 rw[Zk8];by_cases h1:rmE s a=0/\(rmV s a).1=(l:Int)
 ·rw[if_pos h1]
  by_cases h2:(rmV s a).2.length=0
  ·exact Zq5 h2
  ·exact absurd ⟨h1.1,h1.2,h2⟩ h
 ·rw[if_neg h1]}
theorem Zzk {s:Rm}{l:Nat}{a:Int}(h1:rmE s a=0) (h2:(rmV s a).1=(l:Int)):U5 s l a=Zbk s (rmV s a):=by
 rw[Zk8,if_pos ⟨h1,h2⟩]
theorem Zyo {d:Dk}{k:Nat}(hm:Zan d=true) (hk:k<256):(Yb d k).length=128:=by
 obtain⟨h1,_,h3,h4⟩:=Zgv hm;unfold Yb;have e:d.1[k]? = some (d.1[k]'(by omega)):=Qf _;refine Zex (h3 k _ (by rw[e];rfl)) fun x hx=> ?_
 obtain⟨i,hi⟩:=Q6 hx;exact(h4 i x hi).2.2
theorem Yg {W:Qbh}{g:Nat}{a b c a' b' c':Qbi}{t:Qbk}(h:W.heap[g]? = some (.cells #[a,b,c] t (0,0))):∃ W1,((W.setCell ⟨g,0,none⟩ a').setCell ⟨g,1,none⟩ b').setCell ⟨g,2,none⟩ c'=W1 /\
  W1.heap[g]? = some (.cells #[a',b',c'] t (0,0))/\W.grownBy W1 (some g)/\W1.heap.size=W.heap.size :=
 ⟨_,rfl,by simp[Qap,Qaq,h],Zq (p:=⟨g,2,none⟩) (Zq (p:=⟨g,1,none⟩) (Zq (p:=⟨g,0,none⟩) (Ye W (some g)) rfl a') rfl b') rfl c',by simp⟩
theorem Zj {W:Qbh}{g:Nat}{a b c:Qbi}{t:Qbk}(h:W.heap[g]? = some (.cells #[a,b,c] t (0,0))):W.cell? ⟨g,0,none⟩=some a/\W.cell? ⟨g,1,none⟩=some b/\W.cell? ⟨g,2,none⟩=some c/\(∀ o,W.frozen? ⟨g,o,none⟩=false)/\g<W.heap.size :=
 ⟨by simp[Qx,h],by simp[Qx,h],by simp[Qx,h],fun o=>by simp[Pg,h],(Qa.1 h).1⟩
theorem Zej (v:Qbi) (s:Rm) (a:Int) (w:Qbh) (h:Sto (Old w) w v s) :
  Qbn Tryz.prog 23 #[v,.int .i64 a] w fun e w'=>∃ Z zc,e=.returned (.tuple #[.agg #[.int .i64 (rmV s a).1,.slice Z (rmV s a).2.length zc],.int .i64 (rmE s a)])/\Zaa (Old w') w' [.slice Z (rmV s a).2.length zc] (rmV s a).2 /\
   Nod (New w.heap.size w') w' (.agg #[.int .i64 (rmV s a).1,.slice Z (rmV s a).2.length zc]) (rmV s a)/\Qbp w.heap.size w w':=by
 refine(Zf4 v s a w h).mono ?_;rintro e w' ⟨u,rfl,hu,hb'⟩;have hu2:=hu;obtain⟨Z,zc,rfl,_,_,_,hA⟩:=hu.drop.open;exact⟨Z,zc,rfl,hA,hu2,hb'⟩
theorem Z08 {s:Rm}{a:Int}(h:rmE s a≠0):Ub s a=false:=by simp[Ub,h]
theorem Z4g {s:Rm}{a:Int}(h:asE s a≠0):ckE s a=asE s a/\ckH s a=0:=by
 have e:ckE s a=asE s a:=by rw[ckE,if_neg h]
 exact⟨e,by rw[ckH,e,if_neg h]⟩
theorem Zp0 {s:Rm}{a:Int}(h:asE s a=0) (ht:Ub s a=false):ckE s a=8/\ckH s a=0:=by
 have e:ckE s a=8:=by rw[ckE,if_pos h,ht];rfl
 exact⟨e,by rw[ckH,e,if_neg (by decide)]⟩
theorem Zww {s:Rm}{a:Int}(h:asE s a=0) (ht:Ub s a=true):ckE s a=0/\ckH s a=(rmV s a).1+1:=by
 have e:ckE s a=0:=by rw[ckE,if_pos h,ht];rfl
 exact⟨e,by rw[ckH,e,if_pos rfl]⟩
theorem Zn5 {s:Rm}{a:Int}(h:ckE s a=0):Ub s a=true/\asE s a=0/\ckH s a=(rmV s a).1+1:=by{
 by_cases ha:asE s a=0
 ·cases ht:Ub s a with
  | false=>rw[(Zp0 ha ht).1] at h;cases h
  | true=>exact⟨rfl,ha,(Zww ha ht).2⟩
 ·rw[(Z4g ha).1] at h
  exact absurd h ha}
theorem Zns {lo:Nat}{w:Qbh}{A:Option Qbj}{n c k:Nat}{xs:List It}{s:It}(h:Zaa (New lo w) w [.slice A n c] xs) (hk:xs[k]? = some s) :
  ∃ ad E ce,A=some ad/\InI s/\∀ W,Qbp w.heap.size w W->At5 W (ad.add (k*5)) s (.slice E s.2.2.length ce)/\Itm (New lo W) W (itV s (.slice E s.2.2.length ce)) s:=by
 obtain⟨ad,E,ce,rfl,_,h5,hi,_,_,hin⟩:=Zd7 h hk;exact⟨ad,E,ce,rfl,hin,fun W hW=>⟨h5.below hW,hi.new (Qe _) hW⟩⟩
def Z4a (lo:Nat) (v:Qbi) (l:List It):Qbh->Prop:=fun w=>Zaa (New lo w) w [v] l
theorem Zm9 (lo:Nat) (v:Qbi) (l:List It):Zep (Z4a lo v l):=fun _ _ h hb=>Xn.new h (Qe _) hb
def Xs (g:Nat) (cs:Array Qbi) (t:Qbk):Qbh->Prop:=fun w=>w.heap[g]? = some (.cells cs t (0,0))
theorem Yu (g:Nat) (cs:Array Qbi) (t:Qbk):Zep (Xs g cs t):=fun _ _ h hb=>(hb.block g (Qa.1 h).1).trans h
abbrev Z4q (Bs Be:Nat):Qbi:=.func (.func 173) #[] #[.pointer (some ⟨Bs,0,none⟩),.pointer (some ⟨Be,0,none⟩)]
def Z27 (g:Nat) (v:Qbi):Qbh->Prop:=fun w=>w.cell? ⟨g,0,none⟩=some v/\g<w.heap.size
theorem Zig (g:Nat) (v:Qbi):Zep (Z27 g v):=fun _ _ h hb=>⟨(hb.cell (p:=⟨g,0,none⟩) h.2).trans h.1,Qm h.2 hb.size⟩
def Z3w (s:Rm) (n:Nd) (w:Qbh):Qbo->Qbh->Prop:=fun e w'=>∃ f t ok,e=.returned (.tuple #[kyV f,kyV t,.bool ok])/\Zbk s n=(if ok=true then some (f,t) else none)/\Qbp w.heap.size w w'
theorem Zag {s:Rm}{n:Nd}{w w':Qbh}(f t:Ky) (ok:Bool) (h:Zbk s n=if ok=true then some (f,t) else none) (hb:Qbp w.heap.size w w'):Z3w s n w (.returned (.tuple #[kyV f,kyV t,.bool ok])) w':=⟨f,t,ok,rfl,h,hb⟩
def Ztz (s:Rm) (l:Nat):Prop:=∀ (u v0 v1 v2 v3:Qbi) (n:Nd) (Bs Be:Nat) (w:Qbh),mayN n=true->n.1=(l:Int)->n.2.length≠0->Nod (Old w) w u n->Sto (Old w) w (.agg #[v0,v1,v2,v3]) s->Z3h Bs v0 v1 v2 v3 w->Z27 Be (Z4q Bs Be) w ->
  Qbn Tryz.prog 173 #[u,.pointer (some ⟨Bs,0,none⟩),.pointer (some ⟨Be,0,none⟩)] w (Z3w s n w)
theorem Zuw (s:Rm) (hm:Xz s=true) (l0:Nat) (hr0:∀ j,l0=j+1->Ztz s j):Ztz s l0:=by{
 intro u v0 v1 v2 v3 n Bs Be w hmn0 hlv hne hu h hBs hBe;have hmn:=Za hmn0;obtain⟨I,ci,rfl,-,-,-,hI⟩:=id hu.open;obtain⟨lw,hlw⟩:∃ q,n.1=q:=⟨_,rfl⟩
 obtain⟨l,hl⟩:∃ q,n.2=q:=⟨_,rfl⟩
 obtain⟨m,hlm⟩:∃ q,l.length=q:=⟨_,rfl⟩
 obtain⟨R,hR⟩:∃ R,Zbk s n=R:=⟨_,rfl⟩
 have hR0:=Za (fun(x y:It) (j:Nat) (h1:n.1=0) (h2:n.2[0]? = some x) (h3:n.2.length=j+1) (h4:n.2[j]? = some y)=>Zkw (s:=s) h1 h2 h3 h4);have hR1:=Za (fun(j:Nat) (hj:n.1=((j+1:Nat):Int))=>Zmb (s:=s) hj);rw[hR] at hR0 hR1;have hu':=hu;rw[hl,hlm] at hI;rw[hlw,hl,hlm] at hu';rw[hlw,hl,hlm] at hR0;rw[hlw,hl] at hR1;rw[hl,hlw,hlm];rw[hlw] at hlv;rw[hl,hlm] at hne;have hm5:m<=5:=by
  have:=(Z1 hmn.out).1.2.2.1;rw[hl,hlm] at this;exact this
 have HG0:Bag w [Z27 Be (Z4q Bs Be),Z3h Bs v0 v1 v2 v3,Zzx (.agg #[.int .i64 lw,.slice I m ci]) n,Zsu (.slice I m ci) l,Zu0 (.agg #[v0,v1,v2,v3]) s] :=
  (((((Bag.nil w).add (F:=Zu0 _ s) h (Za1 _ _)).add (F:=Zsu _ l) hI (Zg0 _ _)).add (F:=Zzx _ n) hu' (Za5 _ _)).add (F:=Z3h _ _ _ _ _) hBs (Zii _ _ _ _ _)).add (F:=Z27 _ _) hBe (Zig _ _)
 obtain⟨w0,hw0,b0,hs0,hB0⟩:=Yf w (.int .i64 lw) (.slice I m ci) 59;obtain⟨w1,hw1,_,_,_,hs1,hB1,b1⟩:=Xb w0 (.int .u8 0) (.int .u32 0) (.int .u32 0) 77;obtain⟨w2,hw2,_,_,_,hs2,hB2,b2⟩:=Xb w1 (.int .u8 0) (.int .u32 0) (.int .u32 0) 77;have HG:=Za HG0;have BB:=Za ((hB0.trans (hB1.mono hB0.size)).trans (hB2.mono (hB0.trans (hB1.mono hB0.size)).size));have G0:Xs w.heap.size #[.int .i64 lw,.slice I m ci] 59 w2:=Yu _ _ _ _ _ (Yu _ _ _ _ _ b0 hB1) hB2;have G1:Xs w0.heap.size #[.int .u8 0,.int .u32 0,.int .u32 0] 77 w2:=Yu _ _ _ _ _ b1 hB2;have G2:Xs w1.heap.size #[.int .u8 0,.int .u32 0,.int .u32 0] 77 w2:=b2;have lo:Hid (w.heap.size<w0.heap.size/\w0.heap.size<w1.heap.size/\w1.heap.size<w2.heap.size):=Za ⟨by omega,by omega,by omega⟩;obtain⟨y0,y1,_⟩:=Zi G0;replace hs2:=Za hs2;replace hs1:=Za hs1;replace hs0:=Za hs0;replace hlw:=Za hlw;replace hl:=Za hl;replace hlm:=Za hlm;replace hlv:=Za hlv;replace hR:=Za hR;replace G0:=Za G0;replace G1:=Za G1;replace G2:=Za G2;clear HG0 h hu hu' hB2 hB1 hB0 hI hBs hBe b0 b1 b2 hmn0;obtain⟨m1,hm1⟩:∃ j,m=j+1:=⟨m-1,by omega⟩
 obtain⟨x0,hx0⟩:∃ x,l[0]? = some x:=⟨_,Qf (by rw[hlm.out];omega)⟩
 obtain⟨yl,hyl⟩:∃ x,l[m1]? = some x:=⟨_,Qf (by rw[hlm.out];omega)⟩
 have hx0':=Za hx0;have hyl':=Za hyl;have HW2:=Za (HG.out.below BB.out);obtain⟨ad,E0,ce0,rfl,_,FX0⟩:=Zd4 (HW2.out.at 3 rfl:Zaa (Old w2) w2 [.slice I m ci] l) hx0;have FX:=Za (fun W (hW:Qbp w2.heap.size w2 W)=>(FX0 W hW).1);have iz:0<m:=by omega
 cases l0 with
 | zero =>
  obtain⟨ad',E6,ce6,e6,_,_,_,FY0⟩:=Vi (HW2.out.at 3 rfl:Zaa (Old w2) w2 [.slice (some ad) m ci] l) hyl;cases e6;have FY:=Za (fun W (hW:Qbp w2.heap.size w2 W)=>(FY0 W hW).1);have e0:lw=0:=hlv.out;subst e0;obtain⟨b,hb⟩:∃ b,Y6 s l=b:=⟨_,rfl⟩
  have hfin:=Za (hR0.out x0 yl m1 rfl hx0 hm1 hyl);rw[hb] at hfin;replace hb:=Za hb;have i6:(m:Int)-1=(m1:Int):=by omega
  have i7:(m1:Int)<(m:Int):=by omega
  have i8:(0:Int)<=(m1:Int):=by omega
  have i9:IntKind.i64.wrap (m1:Int)=(m1:Int):=Qo _ (by omega);have i0:(0:Int)<(m:Int):=by omega
  replace hm1:=Za hm1;clear hR0 hR1 hx0 hyl FX0 FY0
  go_enter Tryz.func173,Tryz.ntmps173
  go_upto_region 1 with fail
  clear hw0 hw1 hw2
  go_wp2_with fail
  clear y0 y1;obtain⟨o4,ho4⟩:∃ o,(Obj.cells #[.int .u8 (x0.1.1.toNat:Int),.int .u32 x0.1.2.1,.int .u32 x0.1.2.2] 77 (0,0))=o:=⟨_,rfl⟩
  obtain⟨o5,ho5⟩:∃ o,(Obj.cells #[.int .u8 (yl.1.1.toNat:Int),.int .u32 yl.1.2.1,.int .u32 yl.1.2.2] 77 (0,0))=o:=⟨_,rfl⟩
  obtain⟨fin,hfn⟩:∃ f,Ze3 w0.heap.size o4 w1.heap.size o5=f:=⟨_,rfl⟩
  have fn4:Hid (fin w0.heap.size=some o4):=Za (by rw[<- hfn];exact Zeh _ _ _ _);have fn5:Hid (fin w1.heap.size=some o5):=Za (by rw[<- hfn];exact Zew (by have:=lo.out;omega) _ _);have fnl:Hid (∀ k,k<w0.heap.size->fin k=none):=Za fun k hk=>by rw[<- hfn];exact Zcs (by omega) (by have:=lo.out;omega) _ _
  replace ho4:=Za ho4;replace ho5:=Za ho5;replace hfn:=Za hfn;have HW0:=Za (fun W (hK:Yd fin w2 W)=>BB.out.trans (hK.below BB.out.size (fun k hk=>fnl.out k (by have:=lo.out;omega))));have hcl:Hid (∀ W,Yd fin w2 W->Qbn Tryz.prog 174 #[.agg #[v0,v1,v2,v3],.agg #[.int .i64 0,.slice (some ad) m ci]] W fun e W'=>e=.returned (.bool b)/\Qbp W.heap.size W W'):=Za fun W hK=>by
   have HW:=HG.out.below (HW0.out W hK);have:=Zxr _ _ s hm n hmn.out W (HW.at 4 rfl) (HW.at 2 rfl);rw[hl.out,hb.out] at this;exact this
  have FXK:Hid (∀ W,Yd fin w2 W->∃ d,At5 W ad x0 d):=Za fun W hK=>by
   obtain⟨_,_,_,e,_,F⟩:=Zd4 ((HG.out.below (HW0.out W hK)).at 3 rfl:Zaa (Old W) W [.slice (some ad) m ci] l) hx0'.out;cases e;exact⟨_,(F W (Qb _ _)).1⟩
  have FYK:Hid (∀ W,Yd fin w2 W->∃ d,At5 W (ad.add (m1*5)) yl d):=Za fun W hK=>by
   obtain⟨_,_,_,e,_,_,_,F⟩:=Vi ((HG.out.below (HW0.out W hK)).at 3 rfl:Zaa (Old W) W [.slice (some ad) m ci] l) hyl'.out;cases e;exact⟨_,(F W (Qb _ _)).1⟩
  have KS:Hid (∀ W,Yd fin w2 W->W.heap[w.heap.size]? = some (.cells #[.int .i64 0,.slice (some ad) m ci] 59 (0,0))):=Za fun W hK=>hK.other (fnl.out _ lo.out.1) G0.out
  have K4:Hid (∀ W,Yd fin w2 W->∃ a b c,W.heap[w0.heap.size]? = some (.cells #[a,b,c] 77 (0,0))):=Za fun W hK=>by
   rcases hK.box fn4.out G1.out with e | e
   ·exact⟨_,_,_,e⟩
   ·rw[<- ho4.out] at e;exact⟨_,_,_,e⟩
  have K5:Hid (∀ W,Yd fin w2 W->∃ a b c,W.heap[w1.heap.size]? = some (.cells #[a,b,c] 77 (0,0))):=Za fun W hK=>by
   rcases hK.box fn5.out G2.out with e | e
   ·exact⟨_,_,_,e⟩
   ·rw[<- ho5.out] at e;exact⟨_,_,_,e⟩
  refine Rb.wp_region_fx (Yd fin) (by kernel_rfl) (fun W=>Yd fin w2 W) (fun i=>match i with
   | 17=>some (fun _ W=>W.heap[w0.heap.size]? = some o4)
   | 18=>some (fun _ W=>W.heap[w1.heap.size]? = some o5)
   | _=>none) (fun i=>match i with
   | 16=>some (.bool b)
   | _=>none) (by kernel_rfl) (Yd.refl _ _).drew (fun w w' h hb=>h.trans hb) ?tst ?_
  case tst =>
   intro j φ x W W' hp hx hb
   match j,hp with
   | 17,hp=>cases hp;exact hb.done fn4.out hx
   | 18,hp=>cases hp;exact hb.done fn5.out hx
  repeat (first
   | (refine Rb.wpAs_skip rfl ?_;simp only[Qc,Zb,Zc,Zd])
   | (refine Rb.wpAs_pure (v := ?_) rfl rfl ?_ ?_;rotate_left;(intro W hC hE;clear hE;(obtain⟨y0,y1,_⟩:=Zi (KS.out W hC);obtain⟨_,z0,z1,z2,_,_⟩:=FXK.out W hC;obtain⟨_,u0,u1,u2,_,_⟩:=FYK.out W hC;obtain⟨k0,k1,k2,k3,_⟩:=(HG.out.below (HW0.out W hC)).at 1 rfl);clear hC;go_simp;first | done | with_reducible rfl);simp only[Qc,Zb,Zc,Zd]))
  refine Rb.wpAs_fixed rfl rfl rfl ?_ ?_
  ·intro W hC hE
   clear hE;refine Rb.does_enter (f:=174) (args:=#[.agg #[v0,v1,v2,v3],.agg #[.int .i64 0,.slice (some ad) m ci]]) ?_ ?_
   ·go_simp
   ·refine(hcl.out W hC).mono ?_
    rintro e W' ⟨rfl,hg⟩;exact⟨_,rfl,rfl,Yd.of_below hg⟩
  simp only[Qc,Zb,Zc,Zd];refine Rb.wpAs_act rfl rfl ?_ ?_
  ·intro W hC hE
   clear hE;obtain⟨a,b,c,G⟩:=K4.out W hC;obtain⟨q0,q1,q2,q3,_⟩:=Zj G;obtain⟨W1,hW1,g1,gr1,_⟩:=Yg (a':=.int .u8 (x0.1.1.toNat:Int)) (b':=.int .u32 x0.1.2.1) (c':=.int .u32 x0.1.2.2) G;rw[ho4.out] at g1;have hk:=Za (Yd.of_grown gr1 fn4.out g1);replace g1:=Za g1;clear gr1 G hC
   go_simp
   exact⟨g1.out,hk.out⟩
  simp only[Qc,Rb.envAdd];intro _;refine Rb.wpAs_act rfl rfl ?_ ?_
  ·intro W hC hE
   clear hE;obtain⟨a,b,c,G⟩:=K5.out W hC;obtain⟨q0,q1,q2,q3,_⟩:=Zj G;obtain⟨W1,hW1,g1,gr1,_⟩:=Yg (a':=.int .u8 (yl.1.1.toNat:Int)) (b':=.int .u32 yl.1.2.1) (c':=.int .u32 yl.1.2.2) G;rw[ho5.out] at g1;have hk:=Za (Yd.of_grown gr1 fn5.out g1);replace g1:=Za g1;clear gr1 G hC
   go_simp
   exact⟨g1.out,hk.out⟩
  simp only[Qc,Rb.envAdd];intro _
  repeat (first
   | (refine Rb.wpAs_skip rfl ?_;simp only[Qc,Zb,Zc,Zd])
   | (refine Rb.wpAs_pure (v := ?_) rfl rfl ?_ ?_;rotate_left;(intro W hC hE;clear hE;skip;clear hC;go_simp;first | done | with_reducible rfl);simp only[Qc,Zb,Zc,Zd]))
  refine Rb.wpAs_end fun W hC hE=> ?_
  have e5:=hE.1;have e4:=hE.2.1;have hB9:=Za (HW0.out W hC);rw[<- ho4.out] at e4;rw[<- ho5.out] at e5;obtain⟨n0,n1,n2,_⟩:=Zj e4;obtain⟨q0,q1,q2,_⟩:=Zj e5;replace e4:=Za e4;replace e5:=Za e5;clear hE hC
  go_wp2_with fail
  refine Qbl (v:=.tuple #[kyV x0.1,kyV yl.1,.bool b]) (by simp[results,go_sem,n0,n1,n2,q0,q1,q2]) rfl ?_;exact Zag (x0.1) (yl.1) b (hR.out.trans hfin.out) hB9.out
 | succ l1 =>
  have hrec:=Za (hr0 l1 rfl);have c0:(lw==0)=false:=by have:=hlv.out;simp;omega
  have c1:lw-1=(l1:Int):=by have:=hlv.out;omega
  have c2:IntKind.i64.wrap (l1:Int)=(l1:Int):=by
   have:=(Z1 hmn.out).1.2.1;rw[hlw.out,hlv.out] at this;exact Qo _ (by omega)
  have hRC:Hid (R=Yp (U5 s l1) l):=Za (hR1.out l1 hlv.out);replace hm1:=Za hm1;clear hR0 hR1 hx0 hyl FX0
  go_enter Tryz.func173,Tryz.ntmps173
  go_upto_region 1 with fail
  clear hw0 hw1 hw2
  go_wp2_with fail
  clear y0 y1
  go_loopw [37] (fun vi wr=>∃ (k:Nat) (t:Ky),k<=m/\vi=.int .i64 k/\StC (U5 s l1) l k t/\Qbp w.heap.size w wr/\w2.heap.size<=wr.heap.size/\Xs w.heap.size #[.int .i64 lw,.slice (some ad) m ci] 59 wr/\Xs w0.heap.size #[.int .u8 0,.int .u32 0,.int .u32 0] 77 wr/\Xs w1.heap.size #[.int .u8 (t.1.toNat:Int),.int .u32 t.2.1,.int .u32 t.2.2] 77 wr) (fun vi _=>m-(intOf vi).toNat)
  case atStart=>exact⟨0,Zeb,by omega,rfl,.inl rfl,BB.out,Qe _,G0.out,G1.out,G2.out⟩
  case round =>
   obtain⟨k,t,hk,rfl,hst,hbr,hsz,g0,g1,g2⟩:=hrel;have HR:=Za (HG.out.below hbr);have BR:=Za hbr;have SZ:=Za hsz;clear hbr hsz;by_cases hlt:k<m
   case neg =>
    have hkm:k=m:=by omega
    have hf:Hid (R=some (x0.1,t)):=Za (by
     subst hkm;rcases hst with e | ⟨f,e⟩
     ·omega
     ·have e1:=Zsx hx0'.out (by omega) (by rw[hlm.out];omega) e
      rw[Qj (by rw[hlm.out];omega)] at e
      rw[hRC.out,e,<- e1])
    have i0:(0:Int)<(m:Int):=by omega
    have FXr:=Za (fun W (hW:Qbp wr.heap.size wr W)=>(Zd4 (HR.out.at 3 rfl:Zaa (Old wr) wr [.slice (some ad) m ci] l) hx0'.out));obtain⟨ad',E6,ce6,e6,_,FZ⟩:=Zd4 (HR.out.at 3 rfl:Zaa (Old wr) wr [.slice (some ad) m ci] l) hx0'.out;cases e6;have FZ':=Za (fun W (hW:Qbp wr.heap.size wr W)=>(FZ W hW).1);replace hst:=Za hst;replace g0:=Za g0;replace g1:=Za g1;replace g2:=Za g2;clear FXr FZ hkm
    go_upto_region 14 with fail
    obtain⟨y0,y1,_⟩:=Zi g0.out;obtain⟨z0,z1,z2,_,_⟩:=FZ'.out wr (Qb _ _);have G4:wr.heap[w0.heap.size]? = _:=g1.out;have G5:wr.heap[w1.heap.size]? = _:=g2.out;obtain⟨q0,q1,q2,q3,_⟩:=Zj G5;have BW:=Za BR.out;obtain⟨W8,hW8,g8,gr8,gs8⟩:=Yg (a':=.int .u8 ((x0.1).1.toNat:Int)) (b':=.int .u32 (x0.1).2.1) (c':=.int .u32 (x0.1).2.2) G4;have G8:W8.heap[w1.heap.size]? = _:=(gr8.block w1.heap.size (Qa.1 G5).1 (by simp;have:=lo.out;omega)).trans G5;obtain⟨W9,hW9,g9,gr9,gs9⟩:=Yg (a':=.int .u8 ((t).1.toNat:Int)) (b':=.int .u32 (t).2.1) (c':=.int .u32 (t).2.2) G8;have g8':W9.heap[w0.heap.size]? = _:=(gr9.block w0.heap.size (Qa.1 g8).1 (by simp;have:=lo.out;omega)).trans g8;obtain⟨f4,f5,f6,f7,_⟩:=Zj G4;obtain⟨j4,j5,j6,j7,_⟩:=Zj G8;obtain⟨n0,n1,n2,_,_⟩:=Zj g8';obtain⟨o0,o1,o2,_,_⟩:=Zj g9;have hB9:=Za ((BW.out.grown gr8 BW.out.size (fun q e=>by cases e;have:=lo.out;omega)).grown gr9 (Qd BW.out.size gr8.size) (fun q e=>by cases e;have:=lo.out;omega));replace G4:=Za G4;replace G5:=Za G5;replace G8:=Za G8;replace g8:=Za g8;replace g8':=Za g8';replace g9:=Za g9;clear gr8 gr9 gs8 gs9
    go_region
    all_goals
     go_wp2_with fail
     refine Qbl (v:=.tuple #[kyV x0.1,kyV t,.bool true]) (by simp[results,go_sem,n0,n1,n2,o0,o1,o2]) rfl ?_;exact Zag (x0.1) (t) true (hR.out.trans hf.out) (Vr hB9.out _)
   obtain⟨x,hx⟩:∃ x,l[k]? = some x:=⟨_,Qf (by rw[hlm.out];exact hlt)⟩
   obtain⟨ad',E5,ce5,e5,_,_,_,FZ⟩:=Vi (HR.out.at 3 rfl:Zaa (Old wr) wr [.slice (some ad) m ci] l) hx;cases e5;obtain⟨⟨z0,z1,z2,z3,z4⟩,_⟩:=FZ wr (Qb _ _);have hno1:=Za (fun h1=>hRC.out.trans (Zu4 (g:=U5 s l1) hx h1));have hno2:=Za (fun p h1 h2=>hRC.out.trans (Zue (g:=U5 s l1) (p:=p) hx h1 h2));have hno3:=Za (fun h1 h2=>hRC.out.trans (Zwk (g:=U5 s l1) hx h1 hst h2));have hyes:=Za (fun p h1 h2 h3=>Ztx (g:=U5 s l1) (p:=p) hx hst h1 h2 h3);have i4:(0:Int)<=(k:Int):=by omega
   have i5:(k:Int)<(m:Int):=by omega
   replace hst:=Za hst;replace hx:=Za hx;obtain⟨w3,hw3,hg3,hB3,-,hs3⟩:=Zzo (((HR.out.add (F:=Xs _ _ _) g2 (Yu _ _ _)).add (F:=Xs _ _ _) g1 (Yu _ _ _)).add (F:=Xs _ _ _) g0 (Yu _ _ _)) (Qb _ _) (.int .u8 (x.1.1.toNat:Int)) (.int .u32 x.1.2.1) (.int .u32 x.1.2.2) (.int .i64 x.2.1) (.slice E5 x.2.2.length ce5);have H3:=Za hg3;have B3:=Za (BR.out.trans (hB3.mono BR.out.size));have S3:=Za (Qd SZ.out hB3.size);replace hs3:=Za hs3;clear FZ hg3 hB3 g0 g1 g2 HR BR SZ
   go_upto_region 6 with fail
   clear hw3 z0 z1 z2 z3 z4;obtain⟨k0,k1,k2,k3,_⟩:=H3.out.at 5 rfl;obtain⟨r0,r1,r2,r3,r4,_⟩:=H3.out.at 0 rfl;have hNd:=Za (fun v W hW=>Zej v s x.2.1 W hW);have hmy:=Za (fun hh=>(Xe (s:=s) (a:=x.2.1) hh).1);have hsn:=Za (fun hh=>hno1.out (Z11 (s:=s) (l:=l1) (a:=x.2.1) hh));have hsy:=Za (fun h1 h2=>Zzk (s:=s) (l:=l1) (a:=x.2.1) h1 h2);obtain⟨nb,hnb⟩:∃ q,rmV s x.2.1=q:=⟨_,rfl⟩
   obtain⟨eb,heb⟩:∃ q,rmE s x.2.1=q:=⟨_,rfl⟩
   rw[hnb,heb] at hNd hsn hsy;rw[hnb,heb] at hmy;obtain⟨lb,hlb⟩:∃ q,nb.1=q:=⟨_,rfl⟩
   obtain⟨mb,hmb⟩:∃ q,nb.2.length=q:=⟨_,rfl⟩
   rw[hlb,hmb] at hNd hsn;rw[hlb] at hsy;replace hnb:=Za hnb;replace heb:=Za heb;replace hlb:=Za hlb;replace hmb:=Za hmb
   go_wp2_with fail
   with_reducible refine(hNd.out _ _ (H3.out.at 8 rfl)).mono ?_
   rintro e w4 ⟨Z,zc,rfl,-,h4n,hb4⟩;obtain⟨w5,hw5,hg5,hB5,-,hs5⟩:=Zdb ((H3.out.below hb4).add (F:=Zzx _ nb) h4n.drop (Za5 _ _)) (Qb _ _) (.int .i64 lb) (.slice Z mb zc);have H5:=Za hg5;have B5:=Za (B3.out.trans ((hb4.trans (hB5.mono hb4.size)).mono B3.out.size));have S5:=Za (Qd S3.out (hb4.trans (hB5.mono hb4.size)).size);replace hs5:=Za hs5;clear k0 k1 k2 k3 r0 r1 r2 r3 r4 hg5 hB5 hb4 h4n H3 B3 S3 hNd
   go_upto_region 7 with fail
   clear hw5;obtain⟨y0,y1,_⟩:=H5.out.at 0 rfl;obtain⟨f0,f1,_⟩:=Zi (H5.out.at 3 rfl);by_cases he:eb=0
   case neg =>
    have e1:(eb != 0)=true:=by simpa using he
    have hf:=Za (hsn.out (fun hh=>he hh.1));clear he;have G4:w5.heap[w0.heap.size]? = _:=H5.out.at 4 rfl;have G5:w5.heap[w1.heap.size]? = _:=H5.out.at 5 rfl;have BW:=Za B5.out;obtain⟨W8,hW8,g8,gr8,gs8⟩:=Yg (a':=.int .u8 0) (b':=.int .u32 0) (c':=.int .u32 0) G4;have G8:W8.heap[w1.heap.size]? = _:=(gr8.block w1.heap.size (Qa.1 G5).1 (by simp;have:=lo.out;omega)).trans G5;obtain⟨W9,hW9,g9,gr9,gs9⟩:=Yg (a':=.int .u8 0) (b':=.int .u32 0) (c':=.int .u32 0) G8;have g8':W9.heap[w0.heap.size]? = _:=(gr9.block w0.heap.size (Qa.1 g8).1 (by simp;have:=lo.out;omega)).trans g8;obtain⟨f4,f5,f6,f7,_⟩:=Zj G4;obtain⟨j4,j5,j6,j7,_⟩:=Zj G8;obtain⟨n0,n1,n2,_,_⟩:=Zj g8';obtain⟨o0,o1,o2,_,_⟩:=Zj g9;have hB9:=Za ((BW.out.grown gr8 BW.out.size (fun q e=>by cases e;have:=lo.out;omega)).grown gr9 (Qd BW.out.size gr8.size) (fun q e=>by cases e;have:=lo.out;omega));replace G4:=Za G4;replace G5:=Za G5;replace G8:=Za G8;replace g8:=Za g8;replace g8':=Za g8';replace g9:=Za g9;clear gr8 gr9 gs8 gs9
    go_wp2_with fail
    refine Qbl (v:=.tuple #[.agg #[.int .u8 0,.int .u32 0,.int .u32 0],.agg #[.int .u8 0,.int .u32 0,.int .u32 0],.bool false]) (by simp[results,go_sem,n0,n1,n2,o0,o1,o2]) rfl ?_;exact Zag (Zeb) (Zeb) false (hR.out.trans hf.out) hB9.out
   subst he;by_cases hv:lb=(l1:Int)
   case neg =>
    have e1:(lb != (l1:Int))=true:=by simpa using hv
    have hf:=Za (hsn.out (fun hh=>hv hh.2.1));clear hv;have G4:w5.heap[w0.heap.size]? = _:=H5.out.at 4 rfl;have G5:w5.heap[w1.heap.size]? = _:=H5.out.at 5 rfl;have BW:=Za B5.out;obtain⟨W8,hW8,g8,gr8,gs8⟩:=Yg (a':=.int .u8 0) (b':=.int .u32 0) (c':=.int .u32 0) G4;have G8:W8.heap[w1.heap.size]? = _:=(gr8.block w1.heap.size (Qa.1 G5).1 (by simp;have:=lo.out;omega)).trans G5;obtain⟨W9,hW9,g9,gr9,gs9⟩:=Yg (a':=.int .u8 0) (b':=.int .u32 0) (c':=.int .u32 0) G8;have g8':W9.heap[w0.heap.size]? = _:=(gr9.block w0.heap.size (Qa.1 g8).1 (by simp;have:=lo.out;omega)).trans g8;obtain⟨f4,f5,f6,f7,_⟩:=Zj G4;obtain⟨j4,j5,j6,j7,_⟩:=Zj G8;obtain⟨n0,n1,n2,_,_⟩:=Zj g8';obtain⟨o0,o1,o2,_,_⟩:=Zj g9;have hB9:=Za ((BW.out.grown gr8 BW.out.size (fun q e=>by cases e;have:=lo.out;omega)).grown gr9 (Qd BW.out.size gr8.size) (fun q e=>by cases e;have:=lo.out;omega));replace G4:=Za G4;replace G5:=Za G5;replace G8:=Za G8;replace g8:=Za g8;replace g8':=Za g8';replace g9:=Za g9;clear gr8 gr9 gs8 gs9
    go_wp2_with fail
    refine Qbl (v:=.tuple #[.agg #[.int .u8 0,.int .u32 0,.int .u32 0],.agg #[.int .u8 0,.int .u32 0,.int .u32 0],.bool false]) (by simp[results,go_sem,n0,n1,n2,o0,o1,o2]) rfl ?_;exact Zag (Zeb) (Zeb) false (hR.out.trans hf.out) hB9.out
   have e1:(lb != (l1:Int))=false:=by simp[hv]
   replace hv:=Za hv;by_cases hz:mb=0
   ·have e2:((mb:Int)==0)=true:=by simp[hz]
    have hf:=Za (hsn.out (fun hh=>hh.2.2 hz));replace hz:=Za hz;have G4:w5.heap[w0.heap.size]? = _:=H5.out.at 4 rfl;have G5:w5.heap[w1.heap.size]? = _:=H5.out.at 5 rfl;have BW:=Za B5.out;obtain⟨W8,hW8,g8,gr8,gs8⟩:=Yg (a':=.int .u8 0) (b':=.int .u32 0) (c':=.int .u32 0) G4;have G8:W8.heap[w1.heap.size]? = _:=(gr8.block w1.heap.size (Qa.1 G5).1 (by simp;have:=lo.out;omega)).trans G5;obtain⟨W9,hW9,g9,gr9,gs9⟩:=Yg (a':=.int .u8 0) (b':=.int .u32 0) (c':=.int .u32 0) G8;have g8':W9.heap[w0.heap.size]? = _:=(gr9.block w0.heap.size (Qa.1 g8).1 (by simp;have:=lo.out;omega)).trans g8;obtain⟨f4,f5,f6,f7,_⟩:=Zj G4;obtain⟨j4,j5,j6,j7,_⟩:=Zj G8;obtain⟨n0,n1,n2,_,_⟩:=Zj g8';obtain⟨o0,o1,o2,_,_⟩:=Zj g9;have hB9:=Za ((BW.out.grown gr8 BW.out.size (fun q e=>by cases e;have:=lo.out;omega)).grown gr9 (Qd BW.out.size gr8.size) (fun q e=>by cases e;have:=lo.out;omega));replace G4:=Za G4;replace G5:=Za G5;replace G8:=Za G8;replace g8:=Za g8;replace g8':=Za g8';replace g9:=Za g9;clear gr8 gr9 gs8 gs9
    go_wp2_with fail
    refine Qbl (v:=.tuple #[.agg #[.int .u8 0,.int .u32 0,.int .u32 0],.agg #[.int .u8 0,.int .u32 0,.int .u32 0],.bool false]) (by simp[results,go_sem,n0,n1,n2,o0,o1,o2]) rfl ?_;exact Zag (Zeb) (Zeb) false (hR.out.trans hf.out) hB9.out
   have e2:((mb:Int)==0)=false:=by simpa using hz
   replace hz:=Za hz;have hspan:=Za (hsy.out rfl hv.out);have hmb':=Za (hmy.out rfl);obtain⟨c3,c4⟩:=(H5.out.at 6 rfl:Z27 Be (Z4q Bs Be) w5)
   have hcall:=Za (hrec.out (.agg #[.int .i64 lb,.slice Z mb zc]) v0 v1 v2 v3 nb Bs Be w5 hmb'.out (by rw[hlb.out,hv.out]) (by rw[hmb.out];exact hz.out) (H5.out.at 1 rfl) (H5.out.at 10 rfl) (H5.out.at 7 rfl) (H5.out.at 6 rfl));clear hsn hsy hmy
   go_upto_region 9 with fail
   clear e1 e2 f0 f1
   go_wp2_with fail
   with_reducible refine hcall.out.mono ?_
   rintro e w6 ⟨f',t',ok,rfl,hsp,hb6⟩;obtain⟨w7,hw7,p0,p1,p2,hs7,hB7,_⟩:=Xb w6 (.int .u8 (f'.1.toNat:Int)) (.int .u32 f'.2.1) (.int .u32 f'.2.2) 77;have hg7:=((H5.out.below hb6).below hB7).add (F:=Z45 w6.heap.size _ _ _) ⟨p0,p1,p2,by omega⟩ (Zin _ _ _ _);obtain⟨w8,hw8,hg8,hB8,hB8',hs8⟩:=Zt1 hg7 (Qb _ _) (.int .u8 (t'.1.toNat:Int)) (.int .u32 t'.2.1) (.int .u32 t'.2.2);have H8:=Za hg8;have hb8:=hb6.trans ((hB7.trans (hB8.mono hB7.size)).mono hb6.size);have B8:=Za (B5.out.trans (hb8.mono B5.out.size));have S8:=Za (Qd S5.out hb8.size);replace hs8:=Za hs8;clear p0 p1 p2 hg7 hg8 hB7 hB8 hB8' hb6 hb8 y0 y1 c3 c4 hcall H5 B5 S5
   go_upto_region 10 with fail
   clear hw7 hw8;obtain⟨p0,p1,p2,_⟩:=H8.out.at 1 rfl;obtain⟨q0,q1,q2,_⟩:=H8.out.at 0 rfl;rw[hs7] at q0 q1 q2;replace hs7:=Za hs7;obtain⟨r0,r1,r2,r3,r4,_⟩:=H8.out.at 4 rfl;have hg2:w8.heap[w1.heap.size]? = _:=H8.out.at 7 rfl;obtain⟨d0,d1,d2,d3,_⟩:=Zj hg2;have G4:w8.heap[w0.heap.size]? = _:=H8.out.at 6 rfl;have G5:w8.heap[w1.heap.size]? = _:=H8.out.at 7 rfl;have BW:=Za B8.out;replace hg2:=Za hg2;cases ok with
   | false =>
    have hf:=Za (hno1.out (hspan.out.trans hsp));clear d3 hno2 hno3 hyes;obtain⟨W8,hW8,g8,gr8,gs8⟩:=Yg (a':=.int .u8 0) (b':=.int .u32 0) (c':=.int .u32 0) G4;have G8:W8.heap[w1.heap.size]? = _:=(gr8.block w1.heap.size (Qa.1 G5).1 (by simp;have:=lo.out;omega)).trans G5;obtain⟨W9,hW9,g9,gr9,gs9⟩:=Yg (a':=.int .u8 0) (b':=.int .u32 0) (c':=.int .u32 0) G8;have g8':W9.heap[w0.heap.size]? = _:=(gr9.block w0.heap.size (Qa.1 g8).1 (by simp;have:=lo.out;omega)).trans g8;obtain⟨f4,f5,f6,f7,_⟩:=Zj G4;obtain⟨j4,j5,j6,j7,_⟩:=Zj G8;obtain⟨n0,n1,n2,_,_⟩:=Zj g8';obtain⟨o0,o1,o2,_,_⟩:=Zj g9;have hB9:=Za ((BW.out.grown gr8 BW.out.size (fun q e=>by cases e;have:=lo.out;omega)).grown gr9 (Qd BW.out.size gr8.size) (fun q e=>by cases e;have:=lo.out;omega));replace G4:=Za G4;replace G5:=Za G5;replace G8:=Za G8;replace g8:=Za g8;replace g8':=Za g8';replace g9:=Za g9;clear gr8 gr9 gs8 gs9
    go_wp2_with fail
    refine Qbl (v:=.tuple #[.agg #[.int .u8 0,.int .u32 0,.int .u32 0],.agg #[.int .u8 0,.int .u32 0,.int .u32 0],.bool false]) (by simp[results,go_sem,n0,n1,n2,o0,o1,o2]) rfl ?_;exact Zag (Zeb) (Zeb) false (hR.out.trans hf.out) hB9.out
   | true =>
   have hsp':=Za (hspan.out.trans (hsp.trans (if_pos rfl)));have hke:=Zz3 f' x.1;have hkg:=Zle;unfold kyV at hke;by_cases hkk:f'=x.1
   case neg =>
    have g3:decide (f'=x.1)=false:=by simpa using hkk
    rw[g3] at hke;have hf:=Za (hno2.out _ hsp'.out hkk);clear d3 hkk hno1 hno2 hno3 hyes;obtain⟨W8,hW8,g8,gr8,gs8⟩:=Yg (a':=.int .u8 0) (b':=.int .u32 0) (c':=.int .u32 0) G4;have G8:W8.heap[w1.heap.size]? = _:=(gr8.block w1.heap.size (Qa.1 G5).1 (by simp;have:=lo.out;omega)).trans G5;obtain⟨W9,hW9,g9,gr9,gs9⟩:=Yg (a':=.int .u8 0) (b':=.int .u32 0) (c':=.int .u32 0) G8;have g8':W9.heap[w0.heap.size]? = _:=(gr9.block w0.heap.size (Qa.1 g8).1 (by simp;have:=lo.out;omega)).trans g8;obtain⟨f4,f5,f6,f7,_⟩:=Zj G4;obtain⟨j4,j5,j6,j7,_⟩:=Zj G8;obtain⟨n0,n1,n2,_,_⟩:=Zj g8';obtain⟨o0,o1,o2,_,_⟩:=Zj g9;have hB9:=Za ((BW.out.grown gr8 BW.out.size (fun q e=>by cases e;have:=lo.out;omega)).grown gr9 (Qd BW.out.size gr8.size) (fun q e=>by cases e;have:=lo.out;omega));replace G4:=Za G4;replace G5:=Za G5;replace G8:=Za G8;replace g8:=Za g8;replace g8':=Za g8';replace g9:=Za g9;clear gr8 gr9 gs8 gs9
    go_wp2_with fail
    refine Qbl (v:=.tuple #[.agg #[.int .u8 0,.int .u32 0,.int .u32 0],.agg #[.int .u8 0,.int .u32 0,.int .u32 0],.bool false]) (by simp[results,go_sem,n0,n1,n2,o0,o1,o2]) rfl ?_;exact Zag (Zeb) (Zeb) false (hR.out.trans hf.out) hB9.out
   have g3:decide (f'=x.1)=true:=by simpa using hkk
   rw[g3] at hke;have hkk':=Za hkk;clear hkk hno1 hno2 hsp;by_cases hk0:k=0
   ·have i0:¬ (0:Int)<(k:Int):=by omega
    have hn:=Za (hyes.out (f',t') (fun hh=>absurd hk0 hh) hsp'.out hkk'.out);have hk0':=Za hk0;clear hk0;obtain⟨W9,hW9,g9,gr9,gs9⟩:=Yg (a':=.int .u8 (t'.1.toNat:Int)) (b':=.int .u32 t'.2.1) (c':=.int .u32 t'.2.2) hg2.out;have hB9:=Za (BW.out.grown gr9 BW.out.size (fun q e=>by cases e;have:=lo.out;omega));have S9:=Za (Qd S8.out gr9.size);have b9:=Za ((gr9.block w.heap.size (by have:=lo.out;have:=S8.out;omega) (by simp;have:=lo.out;omega)).trans (H8.out.at 5 rfl));have c9:=Za ((gr9.block w0.heap.size (by have:=lo.out;have:=S8.out;omega) (by simp;have:=lo.out;omega)).trans (H8.out.at 6 rfl));replace g9:=Za g9;clear gr9 gs9
    go_wp2_with fail
    go_roundw
    case rel=>exact⟨k+1,t',by omega,by go_num,hn.out,hB9.out,S9.out,b9.out,c9.out,g9.out⟩
    case measure=>simp[intOf];omega
   ·have i0:(0:Int)<(k:Int):=by omega
    obtain⟨q,hq⟩:∃ q,Zr t x.1=q:=⟨_,rfl⟩
    have hls:=Za (Zfo t x.1 w8);rw[hq] at hls
    go_wp2_with fail
    with_reducible refine hls.out.mono ?_
    rintro e w9 ⟨rfl,hb9⟩;cases q with
    | false =>
     have hf:=Za (hno3.out hk0 hq);replace G4:=(hb9.block w0.heap.size (by have:=lo.out;have:=S8.out;omega)).trans G4;replace G5:=(hb9.block w1.heap.size (by have:=lo.out;have:=S8.out;omega)).trans G5;replace BW:=Za (B8.out.trans (hb9.mono B8.out.size));replace hq:=Za hq;clear d0 d1 d2 d3 hb9 hno3 hyes hk0;obtain⟨W8,hW8,g8,gr8,gs8⟩:=Yg (a':=.int .u8 0) (b':=.int .u32 0) (c':=.int .u32 0) G4;have G8:W8.heap[w1.heap.size]? = _:=(gr8.block w1.heap.size (Qa.1 G5).1 (by simp;have:=lo.out;omega)).trans G5;obtain⟨W9,hW9,g9,gr9,gs9⟩:=Yg (a':=.int .u8 0) (b':=.int .u32 0) (c':=.int .u32 0) G8;have g8':W9.heap[w0.heap.size]? = _:=(gr9.block w0.heap.size (Qa.1 g8).1 (by simp;have:=lo.out;omega)).trans g8;obtain⟨f4,f5,f6,f7,_⟩:=Zj G4;obtain⟨j4,j5,j6,j7,_⟩:=Zj G8;obtain⟨n0,n1,n2,_,_⟩:=Zj g8';obtain⟨o0,o1,o2,_,_⟩:=Zj g9;have hB9:=Za ((BW.out.grown gr8 BW.out.size (fun q e=>by cases e;have:=lo.out;omega)).grown gr9 (Qd BW.out.size gr8.size) (fun q e=>by cases e;have:=lo.out;omega));replace G4:=Za G4;replace G5:=Za G5;replace G8:=Za G8;replace g8:=Za g8;replace g8':=Za g8';replace g9:=Za g9;clear gr8 gr9 gs8 gs9
     go_wp2_with fail
     refine Qbl (v:=.tuple #[.agg #[.int .u8 0,.int .u32 0,.int .u32 0],.agg #[.int .u8 0,.int .u32 0,.int .u32 0],.bool false]) (by simp[results,go_sem,n0,n1,n2,o0,o1,o2]) rfl ?_;exact Zag (Zeb) (Zeb) false (hR.out.trans hf.out) hB9.out
    | true =>
     have hn:=Za (hyes.out (f',t') (fun _=>hq) hsp'.out hkk'.out);replace H8:=Za (H8.out.below hb9);replace B8:=Za (B8.out.trans (hb9.mono B8.out.size));replace S8:=Za (Qd S8.out hb9.size);replace BW:=Za B8.out;replace hq:=Za hq;replace hg2:Hid (w9.heap[w1.heap.size]? = _):=Za (H8.out.at 7 rfl);clear hb9 p0 p1 p2 q0 q1 q2 r0 r1 r2 r3 r4 d0 d1 d2 d3 G4 G5 hno3 hyes hk0;obtain⟨q0,q1,q2,_⟩:=H8.out.at 0 rfl;rw[hs7.out] at q0 q1 q2;obtain⟨d0,d1,d2,d3,_⟩:=Zj hg2.out;obtain⟨W9,hW9,g9,gr9,gs9⟩:=Yg (a':=.int .u8 (t'.1.toNat:Int)) (b':=.int .u32 t'.2.1) (c':=.int .u32 t'.2.2) hg2.out;have hB9:=Za (BW.out.grown gr9 BW.out.size (fun q e=>by cases e;have:=lo.out;omega));have S9:=Za (Qd S8.out gr9.size);have b9:=Za ((gr9.block w.heap.size (by have:=lo.out;have:=S8.out;omega) (by simp;have:=lo.out;omega)).trans (H8.out.at 5 rfl));have c9:=Za ((gr9.block w0.heap.size (by have:=lo.out;have:=S8.out;omega) (by simp;have:=lo.out;omega)).trans (H8.out.at 6 rfl));replace g9:=Za g9;clear gr9 gs9
     go_wp2_with fail
     go_roundw
     case rel=>exact⟨k+1,t',by omega,by go_num,hn.out,hB9.out,S9.out,b9.out,c9.out,g9.out⟩
     case measure=>simp[intOf];omega}
theorem Zxj (s:Rm) (hm:Xz s=true):∀ l:Nat,Ztz s l:=by
 intro l
 induction l using Px with
 | ind l ih=>exact Zuw s hm l fun j hj=>ih j (by omega)
theorem Zsj {b:List UInt8}(h:b.length=128) (hr:reN b≠0):reN b=8:=by{
 by_cases ho:oe b=0
 ·cases h1:rdN (ob b) with
  | false=>exact(Zs1 ho h1).1
  | true=>exact absurd (Zfk ho h1).1 hr
 ·have h8:oe b=8:=by
   unfold oe at ho ⊢;rw[if_pos h] at ho ⊢;split at ho
   ·exact absurd rfl ho
   ·rename_i hf
    rw[if_neg hf]
  rw[(Zpp ho).1,h8]}
theorem Zm8 (w:Qbh) (v:Qbi) (t:Qbk):∃ w1,w.alloc (.cells #[v] t)=w1/\w1.cell? ⟨w.heap.size,0,none⟩=some v/\w1.heap.size=w.heap.size+1/\Qbp w.heap.size w w1 :=
 ⟨_,rfl,by simp,by simp,(Qb _ _).alloc (Qe _) _⟩
theorem Zio (v u:Qbi) (s:Rm) (hm:Xz s=true) (n:Nd) (hn:mayN n=true) (w:Qbh) (h:Sto (Old w) w v s) (hu:Nod (Old w) w u n) :
  Qbn Tryz.prog 112 #[v,u] w fun e w'=>e=.returned (.bool (Zbe s n))/\Qbp w.heap.size w w':=by{
 have hmf:∀ (fn:Fn) (first cap:Array Qbi) (w:Qbh),(Instr.makeFunc fn first cap).run Tryz.prog w=.ok (.func fn first cap) w:=fun _ _ _ _=>rfl
 have hsf:∀ (a:Qbj) (fn:Fn) (x y:Array Qbi) (w:Qbh),(store a (.func fn x y)).run Tryz.prog w=stored Tryz.prog w a (.func fn x y) .plain:=fun _ _ _ _ _=>run_store _ _ _ _ _ rfl
 obtain⟨A,ca,B,cb,N,cn,L,cl,rfl,_⟩:=id h.open;obtain⟨I,ci,rfl,-,-,-,hI⟩:=id hu.open;obtain⟨lw,hlw⟩:∃ q,n.1=q:=⟨_,rfl⟩
 obtain⟨m,hlm⟩:∃ q,n.2.length=q:=⟨_,rfl⟩
 have hlv:0<=lw:=by rw[<- hlw];exact(Z1 hn).1.1
 have hst:Zbe s n=(decide (m=0)||(Zbk s n).isSome):=by rw[Zbe,hlm]
 have hu':=hu;rw[hlw,hlm] at hu';rw[hlw,hlm,hst];clear hI hst;have HG0:Bag w [Zzx (.agg #[.int .i64 lw,.slice I m ci]) n,Zu0 (.agg #[.slice A s.1.1.length ca,.slice B s.1.2.length cb,.slice N s.2.1.length cn,.slice L s.2.2.length cl]) s]:=((Bag.nil w).add (F:=Zu0 _ s) h (Za1 _ _)).add (F:=Zzx _ n) hu' (Za5 _ _);obtain⟨w0,hw0,hg0,hB0,_,hs0⟩:=Zfi HG0 (Qb _ _) (.slice A s.1.1.length ca) (.slice B s.1.2.length cb) (.slice N s.2.1.length cn) (.slice L s.2.2.length cl) 29;obtain⟨w1,hw1,hg1,hB1,_,hs1⟩:=Zdb hg0 (Qb _ _) (.int .i64 lw) (.slice I m ci);obtain⟨w2,hw2,q0,hs2,hB2⟩:=Zm8 w1 (Z4q w.heap.size w1.heap.size) 261;have HG:=Za ((hg1.below hB2).add (F:=Z27 w1.heap.size (Z4q w.heap.size w1.heap.size)) ⟨q0,by omega⟩ (Zig _ _));have BB:=Za ((hB0.trans (hB1.mono hB0.size)).trans (hB2.mono (hB0.trans (hB1.mono hB0.size)).size));replace hs2:=Za hs2;replace hs1:=Za hs1;replace hs0:=Za hs0;replace hlw:=Za hlw;replace hlm:=Za hlm;clear HG0 hg1 hg0 h hu hu' hB2 hB1 hB0 q0
 go_enter Tryz.func112,Tryz.ntmps112
 go_upto_region 3 with fail
 clear hw0 hw1 hw2;obtain⟨q0,_⟩:=HG.out.at 0 rfl;obtain⟨y0,y1,_⟩:=HG.out.at 1 rfl;by_cases hm0:m=0
 ·have c0:((m:Int)==0)=true:=by simp[hm0]
  have hf:Hid ((decide (m=0)||(Zbk s n).isSome)=true):=Za (by simp[hm0]);replace hm0:=Za hm0
  go_wp2_with fail
  go_ret;exact⟨Y3 hf.out.symm,BB.out⟩
 have c0:((m:Int)==0)=false:=by simpa using hm0
 have hf:Hid ((decide (m=0)||(Zbk s n).isSome)=(Zbk s n).isSome):=Za (by simp[hm0]);have hcall:=Za (Zxj s hm lw.toNat (.agg #[.int .i64 lw,.slice I m ci]) _ _ _ _ n w.heap.size w1.heap.size w2 hn (by rw[hlw.out];omega) (by rw[hlm.out];exact hm0) (HG.out.at 3 rfl) (HG.out.at 4 rfl) (HG.out.at 2 rfl) (HG.out.at 0 rfl));replace hm0:=Za hm0
 go_wp2_with fail
 with_reducible refine hcall.out.mono ?_
 rintro e w3 ⟨f,t,ok,rfl,hsp,hb3⟩;have B3:=Za (BB.out.trans (hb3.mono BB.out.size));obtain⟨w4,hw4,p0,p1,p2,hs4,hB4,_⟩:=Xb w3 (.int .u8 (f.1.toNat:Int)) (.int .u32 f.2.1) (.int .u32 f.2.2) 77;obtain⟨w5,hw5,r0,r1,r2,hs5,hB5,_⟩:=Xb w4 (.int .u8 (t.1.toNat:Int)) (.int .u32 t.2.1) (.int .u32 t.2.2) 77;have B5:=Za (B3.out.trans ((hB4.trans (hB5.mono hB4.size)).mono B3.out.size));have hfin:Hid ((Zbk s n).isSome=ok):=Za (by rw[hsp];cases ok <;> rfl);replace hsp:=Za hsp;replace hs5:=Za hs5;clear hB4 hB5 hb3 p0 p1 p2 r0 r1 r2
 go_upto_region 6 with fail
 clear hw4 hw5
 go_wp2_with fail
 go_ret;exact⟨Y3 (by rw[hf.out,hfin.out]),B5.out⟩}
theorem Vj (v:Qbi) (s:Rm) (a:Int) (w:Qbh) (h:Sto (Old w) w v s) :
  Qbn Tryz.prog 64 #[v,.int .i64 a] w fun e w'=>e=.returned (.tuple #[.int .i64 (ckH s a),.int .i64 (ckE s a)])/\Qbp w.heap.size w w':=by{
 obtain⟨A,ca,B,cb,N,cn,L,cl,rfl,_⟩:=id h.open;have hNd:=Za (fun v W hW=>Zej v s a W hW)
 have hway:Hid ((rmE s a≠0/\ckE s a=rmE s a/\ckH s a=0)\/(rmE s a=0/\Xz s=true/\mayN (rmV s a)=true/\0<=(rmV s a).1/\(rmV s a).1<6/\Zbe s (rmV s a)=false/\ckE s a=8/\ckH s a=0) \/
   (rmE s a=0/\Xz s=true/\mayN (rmV s a)=true/\0<=(rmV s a).1/\(rmV s a).1<6/\Zbe s (rmV s a)=true/\ckE s a=0/\ckH s a=(rmV s a).1+1)):=Za (by
  by_cases ha:asE s a=0
  ·by_cases hr:rmE s a=0
   ·obtain⟨hmn,_⟩:=Xe hr
    have hst:=Zon hr;obtain⟨k,_,hm,_⟩:=Vy ha;have hsh:=(Z1 hmn).1;cases ht:Ub s a with
    | false=>exact .inr (.inl ⟨hr,hm,hmn,hsh.1,hsh.2.1,hst.trans ht,(Zp0 ha ht).1,(Zp0 ha ht).2⟩)
    | true=>exact .inr (.inr ⟨hr,hm,hmn,hsh.1,hsh.2.1,hst.trans ht,(Zww ha ht).1,(Zww ha ht).2⟩)
   ·obtain⟨k,_,hm,_,h256,_,_,hE,_,_⟩:=Vy ha
    have h8:rmE s a=8:=by
     rw[hE] at hr ⊢;exact Zsj (Zyo (Yr hm).1 h256) hr
    obtain⟨h1,h2⟩:=Zp0 ha (Z08 hr);exact .inl ⟨hr,h1.trans h8.symm,h2⟩
  ·obtain⟨hE,_⟩:=Zwo ha
   obtain⟨h1,h2⟩:=Z4g ha
   exact .inl ⟨by rw[hE];exact ha,h1.trans hE.symm,h2⟩)
 obtain⟨nd,hnd⟩:∃ q,rmV s a=q:=⟨_,rfl⟩
 obtain⟨E0,hE0⟩:∃ q,rmE s a=q:=⟨_,rfl⟩
 obtain⟨cE,hcE⟩:∃ q,ckE s a=q:=⟨_,rfl⟩
 obtain⟨cH,hcH⟩:∃ q,ckH s a=q:=⟨_,rfl⟩
 rw[hnd,hE0] at hNd hway;rw[hcE,hcH] at hway ⊢;obtain⟨lw,hlw⟩:∃ q,nd.1=q:=⟨_,rfl⟩
 obtain⟨m,hlm⟩:∃ q,nd.2.length=q:=⟨_,rfl⟩
 rw[hlw,hlm] at hNd;rw[hlw] at hway;have HG0:Bag w [Zu0 (.agg #[.slice A s.1.1.length ca,.slice B s.1.2.length cb,.slice N s.2.1.length cn,.slice L s.2.2.length cl]) s]:=(Bag.nil w).add (F:=Zu0 _ s) h (Za1 _ _);obtain⟨w0,hw0,hg0,hB0,_,hs0⟩:=Zfi HG0 (Qb _ _) (.slice A s.1.1.length ca) (.slice B s.1.2.length cb) (.slice N s.2.1.length cn) (.slice L s.2.2.length cl) 29;have HG:=Za hg0;have BB:=Za hB0;obtain⟨s0,s1,s2,s3,_⟩:=HG.out.at 0 rfl;replace hs0:=Za hs0;replace hnd:=Za hnd;replace hE0:=Za hE0;replace hcE:=Za hcE;replace hcH:=Za hcH;replace hlw:=Za hlw;replace hlm:=Za hlm;clear HG0 hg0 h hB0
 go_enter Tryz.func64,Tryz.ntmps64
 go_upto_region 1 with fail
 clear hw0
 go_wp2_with fail
 with_reducible refine(hNd.out _ _ (HG.out.at 1 rfl)).mono ?_
 rintro e w3 ⟨Z,zc,rfl,-,h3n,hb3⟩;obtain⟨w4,hw4,hg4,hb4,-,hs4⟩:=Zdb ((HG.out.below hb3).add (F:=Zzx _ nd) h3n.drop (Za5 _ _)) (Qb _ _) (.int .i64 lw) (.slice Z m zc);replace HG:=Za hg4;replace BB:=Za (BB.out.trans ((hb3.trans (hb4.mono hb3.size)).mono BB.out.size));replace hs4:=Za hs4;clear hg4 hb4 hb3 h3n s0 s1 s2 s3 hNd
 go_upto_region 2 with fail
 clear hw4;rcases hway.out with ⟨he,h1,h2⟩ | ⟨he,hm,hmn,l0,l6,hst,h1,h2⟩ | ⟨he,hm,hmn,l0,l6,hst,h1,h2⟩
 ·have e1:(E0 != 0)=true:=by simpa using he
  replace h1:=Za h1;replace h2:=Za h2;clear he hway
  go_wp2_with fail
  go_ret2
  exact⟨by rw[h1.out,h2.out];rfl,BB.out⟩
 ·have hcall:=Za (Zio _ _ s hm nd hmn w4 (HG.out.at 3 rfl) (HG.out.at 1 rfl))
  rw[hst] at hcall;subst he;obtain⟨y0,y1,_⟩:=HG.out.at 0 rfl;obtain⟨s0,s1,s2,s3,_⟩:=HG.out.at 2 rfl;replace h1:=Za h1;replace h2:=Za h2;clear hway hst hm hmn l0 l6
  go_wp2_with fail
  with_reducible refine hcall.out.mono ?_
  rintro e w5 ⟨rfl,hb5⟩;have B5:=Za (BB.out.trans (hb5.mono BB.out.size));clear hb5
  go_wp2_with fail
  go_ret2
  exact⟨by rw[h1.out,h2.out];rfl,B5.out⟩
 ·have hcall:=Za (Zio _ _ s hm nd hmn w4 (HG.out.at 3 rfl) (HG.out.at 1 rfl))
  rw[hst] at hcall;subst he;obtain⟨y0,y1,_⟩:=HG.out.at 0 rfl;obtain⟨s0,s1,s2,s3,_⟩:=HG.out.at 2 rfl;have i9:IntKind.i64.wrap (lw+1)=lw+1:=Qo _ (by omega);replace h1:=Za h1;replace h2:=Za h2;clear hway hst hm hmn l0 l6
  go_wp2_with fail
  with_reducible refine hcall.out.mono ?_
  rintro e w5 ⟨rfl,hb5⟩;have B5:=Za (BB.out.trans (hb5.mono BB.out.size));have HG5:=HG.out.below hb5;clear hb5 y0 y1;obtain⟨y0,y1,_⟩:=HG5.at 0 rfl;clear HG5
  go_wp2_with fail
  go_ret2
  exact⟨by rw[h1.out,h2.out];rfl,B5.out⟩}
theorem Z22 {a b c:Ky}(h:Zr a b=true) (h':Zr c b=false):Zr a c=true:=by
 by_cases e:c=b
 ·rw[e];exact h
 ·exact Y0 h (Za3 e h')
theorem U9 {p:It->Bool}{L:List It}(h:∀ x∈L,p x=false):L.filter p=[]:=by
 rw[Qan];intro x hx;rw[h x hx];simp
def Y4 (s:Rm):Nat->Int->List Int
 | 0,a=>[a]
 | l+1,a=>a::(rmV s a).2.flatMap fun x=>Y4 s l x.2.1
def Zql (s:Rm) (a:Int):List Int:=Y4 s (rmV s a).1.toNat a
def Z5i (L:List Int):List Nat:=(Py 256).filter fun k=>decide ((k:Int)∈L)
theorem Zao {s:Rm}{n:Int}(h:rmE s n=0):8<=n/\n<256/\s.2.1[n.toNat]?.getD 0≠0:=by
 obtain⟨k,rfl,_,h8,h256,_,_,_,_,hx⟩:=Vy (Xe h).2;exact⟨by omega,by omega,by rw[show ((k:Int)).toNat=k by omega];exact hx⟩
def fkN (s:Rm) (n:Int):Option Ky:=((rmV s n).2[0]?).map (·.1)
theorem LeK.not_less {a b:Ky}(h:LeK a b):Zr b a=false:=by
 rcases h with rfl | h
 ·exact Xf _
 ·exact V6 h
structure Nds (s:Rm) (l:Nat) (N:List Int) (k tb:Ky) (e:Bool):Prop where
 key:∀ n∈N,∃ f,fkN s n=some f/\LeK k f/\(e=true->Zr f tb=true)
 lvl:∀ n∈N,(rmV s n).1<=(l:Int)
 once:N.Nodup
theorem Zn8 {s:Rm}{l:Nat}{f:Int->Ky->Ky->Bool->Bool}{g:Int->List Int}(hg:∀ a,a∈g a) (hf:∀ a k tb e,f a k tb e=true->Nds s l (g a) k tb e):∀ (L:List It) (x:It) (r:List It) (tb:Ky) (e:Bool),L=x::r->Zbn f L tb e=true->Nds s l (L.flatMap fun x=>g x.2.1) x.1 tb e
 | [x],_,_,tb,e,rfl,h=>by
  have:=hf _ _ _ _ h
  simpa using this
 | x::y::r,_,_,tb,e,rfl,h=>by
  unfold Zbn at h;rw[Qi] at h;have hx:=hf _ _ _ _ h.1;have hy:=Zn8 hg hf (y::r) y r tb e rfl h.2;have e2:(x::y::r).flatMap (fun x=>g x.2.1)=g x.2.1++(y::r).flatMap fun x=>g x.2.1:=Qq
  rw[e2];have hyin:y.2.1∈(y::r).flatMap fun x=>g x.2.1:=Pd.2 ⟨y,by simp,hg _⟩
  have hxy:Zr x.1 y.1=true:=by
   obtain⟨q,_,h1,h2⟩:=hx.key x.2.1 (hg _);exact h1.lt (h2 rfl)
  refine⟨fun n hn=> ?_,fun n hn=> ?_,?_⟩
  ·rcases Qh.1 hn with hn | hn
   ·obtain⟨q,e1,h1,h2⟩:=hx.key n hn
    refine⟨q,e1,h1,fun he=> ?_⟩;obtain⟨q',_,h3,h4⟩:=hy.key y.2.1 hyin;exact Y0 (h2 rfl) (h3.lt (h4 he))
   ·obtain⟨q,e1,h1,h2⟩:=hy.key n hn
    exact⟨q,e1,LeK.trans (.inr hxy) h1,h2⟩
  ·rcases Qh.1 hn with hn | hn
   ·exact hx.lvl n hn
   ·exact hy.lvl n hn
  ·refine Qaw.2 ⟨hx.once,hy.once,fun a ha b hb e=> ?_⟩
   subst e;obtain⟨q,e1,_,h2⟩:=hx.key a ha;obtain⟨q',e1',h1',_⟩:=hy.key a hb;rw[e1] at e1';cases e1';have:=h1'.not_less;rw[h2 rfl] at this;cases this
theorem Zl9 (s:Rm):∀ (l:Nat) (a:Int),a∈Y4 s l a
 | 0,a=>by simp[Y4]
 | l+1,a=>by simp[Y4]
theorem Zlk (s:Rm):∀ (l:Nat) (a:Int) (k tb:Ky) (e:Bool),Yy s l a k tb e=true->Nds s l (Y4 s l a) k tb e
 | 0,a,k,tb,e,h=>by
  obtain⟨h1,h2,h3,_⟩:=Xx h;obtain⟨x,r,ex,ek,hz⟩:=Zb2 h3;have hu:=Zaq (Xe h1).1;refine⟨fun n hn=> ?_,fun n hn=> ?_,by simp[Y4]⟩
  ·simp only[Y4,Qk] at hn
   subst hn;refine⟨k,by rw[fkN,ex,<- ek];rfl,.inl rfl,fun he=> ?_⟩;obtain⟨z,e1,e2⟩:=hz he;have:=Zjc hu e1 e2 x (by rw[ex];simp)
   rwa [ek] at this
  ·simp only[Y4,Qk] at hn
   subst hn;omega
 | l+1,a,k,tb,e,h=>by
  obtain⟨h1,h2,h3,h4⟩:=Xx h;obtain⟨x,r,ex,ek,hz⟩:=Zb2 h3;have hu:=Zaq (Xe h1).1;have hn:=Zn8 (Zl9 s l) (Zlk s l) (rmV s a).2 x r tb e ex h4;have hno:a∉(rmV s a).2.flatMap fun x=>Y4 s l x.2.1:=fun ha=>by
   have:=hn.lvl a ha;omega
  refine⟨fun n hn'=> ?_,fun n hn'=> ?_,?_⟩
  ·simp only[Y4,Ql] at hn'
   rcases hn' with rfl | hn'
   ·refine⟨k,by rw[fkN,ex,<- ek];rfl,.inl rfl,fun he=> ?_⟩
    obtain⟨z,e1,e2⟩:=hz he;have:=Zjc hu e1 e2 x (by rw[ex];simp)
    rwa [ek] at this
   ·rw[<- ek]
    exact hn.key n hn'
  ·simp only[Y4,Ql] at hn'
   rcases hn' with rfl | hn'
   ·omega
   ·have:=hn.lvl n hn'
    omega
  ·exact Pz.2 ⟨hno,hn.once⟩
theorem Zs3 {s:Rm}{a:Int}(h:Ub s a=true):(Zql s a).Nodup:=by{
 obtain⟨h1,_,hm,l0,_,hi⟩:=Ur h;unfold Zql;unfold Ze4 at hi;cases hl:(rmV s a).1.toNat with
 | zero=>simp[Y4]
 | succ l =>
  rw[hl] at hi;have hne:(rmV s a).2≠[]:=fun e=>by
   have:=(Z1 hm).1.2.2.2 (by omega);rw[e] at this;simp at this
  obtain⟨x,r,ex⟩:=List.exists_cons_of_ne_nil hne;have hn:=Zn8 (Zl9 s l) (Zlk s l) (rmV s a).2 x r Zeb false ex hi;have hno:a∉(rmV s a).2.flatMap fun x=>Y4 s l x.2.1:=fun ha=>by
   have:=hn.lvl a ha;omega
  exact Pz.2 ⟨hno,hn.once⟩}
abbrev Sg:=List Int×List Int
def frU (R:List Int) (i:Int):List Int:=R.set i.toNat (R[i.toNat]?.getD 0+1)
def X1 (f:Int->Sg->Sg) (g:Sg) (x:It):Sg:=if x.2.1=0 then g else f x.2.1 (g.1,frU g.2 x.2.1)
def Vp (s:Rm):Nat->Int->Sg->Sg
 | 0,a,g=>if a∈g.1 then g else (rmV s a).2.foldl (X1 fun _ g=>g) (g.1++[a],g.2)
 | l+1,a,g=>if a∈g.1 then g else (rmV s a).2.foldl (X1 (Vp s l)) (g.1++[a],g.2)
def frB (s:Rm):Nat->Int->Sg->Sg
 | 0=>fun _ g=>g
 | l+1=>Vp s l
theorem Zjh {s:Rm}{l:Nat}{a:Int}{g:Sg}(h:a∈g.1):Vp s l a g=g:=by
 cases l <;> (unfold Vp;rw[if_pos h])
theorem Zas {s:Rm}{l:Nat}{a:Int}{g:Sg}(h:a∉g.1):Vp s l a g=(rmV s a).2.foldl (X1 (frB s l)) (g.1++[a],g.2):=by{
 cases l with
 | zero=>unfold Vp;rw[if_neg h];rfl
 | succ l=>
  conv=>lhs;unfold Vp
  rw[if_neg h];rfl}
structure Gg (s:Rm) (g:Sg) (n:Nat):Prop where
 len:g.2.length=256
 few:∀ k:Nat,0<=g.2[k]?.getD 0/\g.2[k]?.getD 0<=(n:Int)
 many:g.1.length<=n
 keys:∀ m∈g.1,rmE s m=0/\1<=g.2[m.toNat]?.getD 0
theorem Gg.mono {s:Rm}{g:Sg}{n m:Nat}(h:Gg s g n) (hn:n<=m):Gg s g m :=
 ⟨h.len,fun k=>⟨(h.few k).1,by have:=(h.few k).2;omega⟩,Qd h.many hn,h.keys⟩
structure Mor (g g':Sg):Prop where
 keys:∀ m∈g.1,m∈g'.1
 refs:∀ k:Nat,g.2[k]?.getD 0<=g'.2[k]?.getD 0
theorem Mor.refl (g:Sg):Mor g g:=⟨fun _ h=>h,fun _=>Int.le_refl _⟩
theorem Mor.trans {a b c:Sg}(h:Mor a b) (h':Mor b c):Mor a c:=⟨fun m hm=>h'.keys m (h.keys m hm),fun k=>Int.le_trans (h.refs k) (h'.refs k)⟩
theorem Zwh {R:List Int}{i:Int}(hi:0<=i) (hl:i<(R.length:Int)) (k:Nat):(frU R i)[k]?.getD 0=R[k]?.getD 0+if k=i.toNat then 1 else 0:=by{
 unfold frU;by_cases e:k=i.toNat
 ·subst e
  rw[if_pos rfl,List.getElem?_set_self (by omega)];rfl
 ·rw[if_neg e,List.getElem?_set_ne (fun h=>e h.symm),Int.add_zero]}
theorem Z2v {s:Rm}{g:Sg}{n:Nat}(h:Gg s g n){i:Int}(h0:0<=i) (h1:i<256):Gg s (g.1,frU g.2 i) (n+1)/\Mor g (g.1,frU g.2 i)/\1<=(frU g.2 i)[i.toNat]?.getD 0:=by{
 have hg:=Zwh (R:=g.2) h0 (by rw[h.len];omega);refine⟨⟨by unfold frU;rw[Qu];exact h.len,fun k=> ?_,Nat.le_succ_of_le h.many,fun m hm=>⟨(h.keys m hm).1,?_⟩⟩,⟨fun _ h=>h,fun k=> ?_⟩,?_⟩
 ·have:=h.few k
  show 0<=(frU g.2 i)[k]?.getD 0/\(frU g.2 i)[k]?.getD 0<=_;rw[hg k];split <;> omega
 ·have:=(h.keys m hm).2
  show 1<=(frU g.2 i)[m.toNat]?.getD 0;rw[hg];split <;> omega
 ·show g.2[k]?.getD 0<=(frU g.2 i)[k]?.getD 0
  rw[hg];split <;> omega
 ·have:=h.few i.toNat
  rw[hg,if_pos rfl];omega}
theorem Zz7 {s:Rm}{a:Int}(h:rmE s a=0){x:It}(hx:x∈(rmV s a).2):0<=x.2.1/\x.2.1<256:=by
 obtain⟨i,hi,rfl⟩:=List.mem_iff_getElem.1 hx;have h1:=(Z1 (Xe h).1).2 i hi;have h2:=Z0b (Qf hi) h1;have h3:=(Uc (Zn2 h2)).1;omega
def Zzi (s:Rm) (l:Nat) (r:Int):Prop:=∀ (g:Sg) (n:Nat),Gg s g n->1<=g.2[r.toNat]?.getD 0->Gg s (frB s l r g) (n+3*7 ^ l)/\Mor g (frB s l r g)
theorem Z1u {s:Rm}{l:Nat}{x:It}(hx:x.2.1=0\/(0<=x.2.1/\x.2.1<256/\Zzi s l x.2.1)){g:Sg}{n:Nat}(h:Gg s g n):Gg s (X1 (frB s l) g x) (n+(1+3*7 ^ l))/\Mor g (X1 (frB s l) g x):=by{
 unfold X1;by_cases h0:x.2.1=0
 ·rw[if_pos h0]
  exact⟨h.mono (by omega),Mor.refl g⟩
 ·rw[if_neg h0]
  obtain⟨a0,a1,hb⟩:=hx.resolve_left h0;obtain⟨g1,g2,g3⟩:=Z2v h a0 a1;obtain⟨b1,b2⟩:=hb _ _ g1 g3;exact⟨b1.mono (by omega),g2.trans b2⟩}
theorem Zj2 {s:Rm}{l:Nat}:∀ (L:List It) (g:Sg) (n:Nat),(∀ x∈L,x.2.1=0\/(0<=x.2.1/\x.2.1<256/\Zzi s l x.2.1))->Gg s g n->Gg s (L.foldl (X1 (frB s l)) g) (n+L.length*(1+3*7 ^ l))/\Mor g (L.foldl (X1 (frB s l)) g)
 | [],g,n,_,h=>⟨h.mono (by simp),Mor.refl g⟩
 | x::r,g,n,hx,h=>by
  obtain⟨h1,h2⟩:=Z1u (hx x Qy) h;obtain⟨h3,h4⟩:=Zj2 r _ _ (fun y hy=>hx y (Qs _ hy)) h1;rw[P5,Q3,Nat.add_mul,Nat.one_mul];exact⟨h3.mono (by omega),h2.trans h4⟩
theorem Z07 {s:Rm}{g:Sg}{n:Nat}(h:Gg s g n){a:Int}(he:rmE s a=0) (h1:1<=g.2[a.toNat]?.getD 0):Gg s (g.1++[a],g.2) (n+1)/\Mor g (g.1++[a],g.2) :=
 ⟨⟨h.len,(h.mono (Nat.le_succ n)).few,by rw[Qr,P7];have:=h.many;omega,fun m hm=>by
  rcases Qh.1 hm with hm | hm
  ·exact h.keys m hm
  ·rw[Qk.1 hm];exact⟨he,h1⟩⟩,⟨fun _ hm=>Qax _ hm,fun _=>Int.le_refl _⟩⟩
theorem Zwe (s:Rm):∀ (l:Nat) (r:Int),(∀ j,l=j+1->AtT s j r)->Zzi s l r
 | 0,r,_=>fun g n h _=>⟨h.mono (by omega),Mor.refl g⟩
 | l+1,r,hat=>fun g n h h1=>by
  have hA:=hat l rfl;show Gg s (Vp s l r g) _/\Mor g (Vp s l r g);by_cases hin:r∈g.1
  ·rw[Zjh hin]
   exact⟨h.mono (by omega),Mor.refl g⟩
  ·rw[Zas hin]
   obtain⟨k1,k2⟩:=Z07 h hA.ok h1
   obtain⟨k3,k4⟩:=Zj2 (rmV s r).2 _ _ (fun x hx=>by
    obtain⟨x0,x1⟩:=Zz7 hA.ok hx
    exact .inr ⟨x0,x1,Zwe s l x.2.1 fun j hj=>by subst hj;exact hA.down hx⟩) k1
   refine⟨k3.mono ?_,k2.trans k4⟩;have h5:=(Z1 hA.may).1.2.2.1;have:=P8 (1+3*7 ^ l) h5;have h7:1<=7 ^ l:=Qay _ _ (by decide);rw[Q9];omega
theorem Ztd {s:Rm}{l:Nat}{a:Int}(h:AtT s l a){x:It}(hx:x∈(rmV s a).2):x.2.1=0\/(0<=x.2.1/\x.2.1<256/\Zzi s l x.2.1):=by
 obtain⟨x0,x1⟩:=Zz7 h.ok hx;exact .inr ⟨x0,x1,Zwe s l x.2.1 fun j hj=>by subst hj;exact h.down hx⟩
theorem Zv1 {s:Rm}{l:Nat}{a:Int}{g:Sg}{n:Nat}(hA:a∈g.1\/AtT s l a) (h:Gg s g n) (h1:1<=g.2[a.toNat]?.getD 0):Gg s (Vp s l a g) (n+3*7 ^ (l+1))/\Mor g (Vp s l a g)/\a∈(Vp s l a g).1:=by{
 by_cases hin:a∈g.1
 ·rw[Zjh hin]
  exact⟨h.mono (by omega),Mor.refl g,hin⟩
 ·obtain⟨b1,b2⟩:=Zwe s (l+1) a (fun j hj=>by cases hj;exact hA.resolve_left hin) g n h h1
  refine⟨b1,b2,?_⟩;rw[Zas hin];have hat:=hA.resolve_left hin;obtain⟨k1,_⟩:=Z07 h hat.ok h1;obtain⟨_,k4⟩:=Zj2 (rmV s a).2 _ _ (fun x hx=>Ztd hat hx) k1;exact k4.keys a (Qaz _ (Qk.2 rfl))}
theorem Zo7 {s:Rm}{l:Nat}(hr:∀ (a:Int) (g:Sg),AtT s l a->(Y4 s l a).Nodup->(∀ b∈Y4 s l a,b∉g.1)->∀ m,m∈(Vp s l a g).1↔m∈g.1\/m∈Y4 s l a) :
  ∀ (L:List It) (g:Sg),(∀ x∈L,AtT s l x.2.1)->(L.flatMap fun x=>Y4 s l x.2.1).Nodup->(∀ b∈L.flatMap fun x=>Y4 s l x.2.1,b∉g.1)->∀ m,m∈(L.foldl (X1 (Vp s l)) g).1↔m∈g.1\/m∈L.flatMap fun x=>Y4 s l x.2.1
 | [],g,_,_,_,m=>by simp
 | x::r,g,hA,hn,ho,m=>by
  rw[Qq] at hn ho ⊢;obtain⟨n1,n2,n3⟩:=Qaw.1 hn;have hx:=hA x Qy;have h0:x.2.1≠0:=by have:=Zao hx.ok;omega
  have e:=hr x.2.1 (g.1,frU g.2 x.2.1) hx n1 (fun b hb=>ho b (Qax _ hb));have es:X1 (Vp s l) g x=Vp s l x.2.1 (g.1,frU g.2 x.2.1):=if_neg h0
  rw[P5,es,Zo7 hr r _ (fun y hy=>hA y (Qs _ hy)) n2 (fun b hb hin=>by
   rcases(e b).1 hin with h | h
   ·exact ho b (Qaz _ hb) h
   ·exact n3 b h b hb rfl) m,e m,Qh,or_assoc]
theorem Zpy (s:Rm):∀ (l:Nat) (a:Int) (g:Sg),AtT s l a->(Y4 s l a).Nodup->(∀ b∈Y4 s l a,b∉g.1)->∀ m,m∈(Vp s l a g).1↔m∈g.1\/m∈Y4 s l a
 | 0,a,g,_,_,ho,m=>by
  have hf:∀ (L:List It) (g:Sg),(L.foldl (X1 (frB s 0)) g).1=g.1:=fun L=>by
   induction L with
   | nil=>intro g;rfl
   | cons x r ih =>
    intro g;rw[P5,ih];unfold X1;split <;> rfl
  rw[Zas (ho a (by unfold Y4;simp)),hf];unfold Y4;rw[Qh]
 | l+1,a,g,hA,hn,ho,m=>by
  unfold Y4 at hn ho ⊢;obtain⟨n1,n2⟩:=Pz.1 hn
  rw[Zas (ho a Qy),show frB s (l+1)=Vp s l from rfl,Zo7 (Zpy s l) _ _ (fun x hx=>hA.down hx) n2 (fun b hb hin=>by
   rcases Qh.1 hin with h | h
   ·exact ho b (Qs _ hb) h
   ·rw[Qk.1 h] at hb
    exact n1 hb) m,Qh,Qk,Ql,or_assoc]
def Z8 (s:Rm):List Int->Sg->Bool×Sg
 | [],g=>(true,g)
 | a::r,g=>by
  classical
  exact if a∈g.1\/ckE s a=0 then Z8 s r (Vp s (rmV s a).1.toNat a (g.1,frU g.2 a)) else (false,g)
theorem Zb8 {s:Rm}{a:Int}{r:List Int}{g:Sg}(h:a∈g.1\/ckE s a=0):Z8 s (a::r) g=Z8 s r (Vp s (rmV s a).1.toNat a (g.1,frU g.2 a)):=by
 unfold Z8;rw[if_pos h];cases r <;> rfl
theorem Zgz {s:Rm}{a:Int}{r:List Int}{g:Sg}(h:¬ (a∈g.1\/ckE s a=0)):(Z8 s (a::r) g).1=false:=by
 unfold Z8;rw[if_neg h]
theorem Zcb {s:Rm}:∀ (L M:List Int) (g:Sg),Z8 s (L++M) g=if (Z8 s L g).1=true then Z8 s M (Z8 s L g).2 else Z8 s L g
 | [],M,g=>by
  have:Z8 s [] g=(true,g):=rfl;rw[Pj,this];rfl
 | a::r,M,g=>by
  rw[Ph];by_cases h:a∈g.1\/ckE s a=0
  ·rw[Zb8 h,Zb8 h]
   exact Zcb r M _
  ·conv=>lhs;unfold Z8
   conv=>rhs;unfold Z8
   rw[if_neg h,if_neg h];rfl
theorem Zdi {s:Rm}{a:Int}(h:ckE s a=0):AtT s (rmV s a).1.toNat a/\(rmV s a).1.toNat<=5:=by
 obtain⟨htr,_,_⟩:=Zn5 h;obtain⟨_,_,_,l0,l6,_⟩:=Ur htr;exact⟨Zi5 htr,by omega⟩
theorem Zj9 {s:Rm}{a:Int}{g:Sg}{n:Nat}(h:a∈g.1\/ckE s a=0) (hg:Gg s g n):8<=a/\a<256/\Gg s (g.1,frU g.2 a) (n+1)/\1<=(frU g.2 a)[a.toNat]?.getD 0/\(a∈g.1\/AtT s (rmV s a).1.toNat a)/\(rmV s a).1.toNat<=5 /\
  Gg s (Vp s (rmV s a).1.toNat a (g.1,frU g.2 a)) (n+400000)/\Mor g (Vp s (rmV s a).1.toNat a (g.1,frU g.2 a))/\a∈(Vp s (rmV s a).1.toNat a (g.1,frU g.2 a)).1:=by{
 have he:rmE s a=0:=by
  rcases h with h | h
  ·exact(hg.keys a h).1
  ·exact(Zdi h).1.ok
 obtain⟨h8,h256,_⟩:=Zao he;have hlv:(rmV s a).1.toNat<=5:=by
  have:=(Z1 (Xe he).1).1;omega
 obtain⟨u1,u2,u3⟩:=Z2v hg (by omega:0<=a) h256;have hA:a∈g.1\/AtT s (rmV s a).1.toNat a:=h.imp id fun h=>(Zdi h).1
 obtain⟨r1,r2,r3⟩:=Zv1 (g:=(g.1,frU g.2 a)) hA u1 u3;refine⟨h8,h256,u1,u3,hA,hlv,r1.mono ?_,u2.trans r2,r3⟩;have:7 ^ ((rmV s a).1.toNat+1)<=7 ^ 6:=Qv (by decide) (by omega);omega}
theorem Zbs {s:Rm}:∀ (L:List Int) (g g':Sg) (n:Nat),Gg s g n->Z8 s L g=(true,g')->Gg s g' (n+L.length*400000)/\Mor g g'/\∀ r∈L,r∈g'.1
 | [],g,g',n,hg,h=>by
  cases h;exact⟨hg.mono (by simp),Mor.refl _,fun r hr=>by cases hr⟩
 | a::r,g,g',n,hg,h=>by
  by_cases hc:a∈g.1\/ckE s a=0
  ·rw[Zb8 hc] at h
   obtain⟨_,_,_,_,_,_,k1,k2,k3⟩:=Zj9 hc hg;obtain⟨m1,m2,m3⟩:=Zbs r _ g' _ k1 h;refine⟨m1.mono (by rw[Q3,Nat.add_mul,Nat.one_mul];omega),k2.trans m2,fun q hq=> ?_⟩;rcases Ql.1 hq with rfl | hq
   ·exact m2.keys _ k3
   ·exact m3 q hq
  ·have:=Zgz (r:=r) hc
   rw[h] at this;cases this
structure Zca (M:Nat->Prop) (o o':Option Nat) (W W':Qbh):Prop where
 size:W.heap.size<=W'.heap.size
 same:∀ k,k<W.heap.size->¬ M k->o≠some k->W'.heap[k]? = W.heap[k]? /\ o'≠some k
theorem Zca.refl (M:Nat->Prop) (o:Option Nat) (W:Qbh):Zca M o o W W:=⟨Qe _,fun _ _ _ h=>⟨rfl,h⟩⟩
theorem Zca.trans {M:Nat->Prop}{o o' q:Option Nat}{A B C:Qbh}(h:Zca M o o' A B) (h':Zca M o' q B C):Zca M o q A C :=
 ⟨Qd h.size h'.size,fun k hk hm ho=>by
  obtain⟨e,n⟩:=h.same k hk hm ho;obtain⟨e',n'⟩:=h'.same k (Qm hk h.size) hm n
  exact⟨e'.trans e,n'⟩⟩
theorem Zca.grown {M:Nat->Prop}{o q:Option Nat}{A B C:Qbh}{row:Option Nat}(h:Zca M o q A B) (hg:B.grownBy C row) (hr:∀ r,row=some r->A.heap.size<=r\/M r):Zca M o q A C :=
 ⟨Qd h.size hg.size,fun k hk hm ho=>by
  obtain⟨e,n⟩:=h.same k hk hm ho;refine⟨(hg.block k (Qm hk h.size) (fun e'=> ?_)).trans e,n⟩;rcases hr k e'.symm with h1 | h1
  ·omega
  ·exact hm h1⟩
theorem Zca.wide {M M':Nat->Prop}{o q:Option Nat}{A B:Qbh}(h:Zca M o q A B) (hM:∀ k,k<A.heap.size->M k->M' k):Zca M' o q A B :=
 ⟨h.size,fun k hk hm ho=>h.same k hk (fun h1=>hm (hM k hk h1)) ho⟩
theorem Zca.cell {M:Nat->Prop}{o q:Option Nat}{A B:Qbh}(h:Zca M o q A B){p:Qbj}(hp:p.block<A.heap.size) (hm:¬ M p.block) (ho:o≠some p.block):B.cell? p=A.cell? p:=Qaa (h.same _ hp hm ho).1
theorem Zbd {W W':Qbh}(h:Qbp W.heap.size W W'):W.grownBy W' none:=⟨h.os,h.tape,h.output,h.size,fun k hk _=>h.block k hk⟩
def Zzs {α:Type}(M:Nat->Prop) (J Jx:List α×Option Nat->Qbh->Prop) (xs:List α) (o:Option Nat) (W:Qbh):Qbo->Qbh->Prop:=fun e W' =>
 ∃ o',Zca M o o' W W'/\((e=.returned (.bool true)/\J (xs,o') W')\/(e=.returned (.bool false)/\Jx (xs,o') W'))
def Z5m {α:Type}(P:Program) (g:Nat) (lb:Array Qbi) (encs:α->Array Qbi) (T:Nat->List α->α->Option Nat->Qbh->Prop) (End:List α->Prop) (Z:Nat->Prop) (w:Qbh):Prop :=
 ∀ (l:Nat) (M:Nat->Prop) (J Jx:List α×Option Nat->Qbh->Prop) (o:Option Nat) (W:Qbh),Qbp w.heap.size w W->OwnFrom W.heap.size J->OwnFrom W.heap.size Jx ->
  (∀ k,M k->k<W.heap.size)->(∀ s W1,J s W1->W.heap.size<=W1.heap.size/\∀ k,s.2=some k->k<W1.heap.size)->(∀ k,Z k->¬ M k/\o≠some k) ->
  (∀ pre q x W1,J (pre,q) W1->T W.heap.size pre x q W1->YieldAt Fence.wide 0 P l (encs x) W1 (Zzs M J Jx (pre++[x]) q W1)) ->
  J ([],o) W->Qbn P g (#[.func (.yield l) #[] #[]]++lb) W fun e W'=>(∃ v,e=.returned v)/\((∃ xs q,End xs/\J (xs,q) W')\/(∃ pre q,Jx (pre,q) W'))
theorem Zq7 {P:Program}{l f m:Nat}{tmps:Array Qbi}{assign body:Code}{w:Qbh}{R:Qbo->Qbh->Prop}(h:RoundIn Fence.wide 0 P l f tmps assign body w R):RoundIn Fence.wide m P l f tmps assign body w R :=
 ⟨h.1,fun c cs _=>h.2 c cs (room_wide _)⟩
def Zyh {α:Type}(M:Nat->Prop) (I:List α×Option Nat->Qbh->Prop) (Ix:Code->List α×Option Nat->Qbh->Prop) (xs:List α) (o:Option Nat) (W:Qbh):Exit->Act->Qbh->Prop
 | .normal,_,W'=>∃ q,Zca M o q W W'/\I (xs,q) W'
 | .ret,_,W'=>∃ q,Zca M o q W W'/\Ix .ret (xs,q) W'
 | .exit id,_,W'=>∃ q,Zca M o q W W'/\Ix (.exit id) (xs,q) W'
 | .goto t,_,W'=>∃ q,Zca M o q W W'/\Ix (.goto t) (xs,q) W'
 | .panic _,_,_=>False
 | .outgrown,_,_=>False
theorem Zvr {α:Type}{P:Program}{M:Nat->Prop}{I J Jx:List α×Option Nat->Qbh->Prop}{B D L:Nat}{rec:LoopState->Option Code->Loop}(hrec:∀ s c,{ rec s c with state:=.ready,pending:=none }=rec .ready none/\∀ s' c',{ rec s c with state:=s',pending:=c' }=rec s' c')
  {W W':Qbh} {xs:List α} {o q:Option Nat} (jump:Option Code) (hL:W.heap[L]? = some (.loop (rec .busy none))) (hD:W.heap[D]? = some (.deferred (some []))) (hDL:D≠L) (hBL:B<=L) (hML:¬ M L) (hMD:¬ M D) (hoL:o≠some L) (hoD:o≠some D)
  (hk:Zca M o q W W') (hI:OwnFrom B I) (hi:I (xs,q) W')
  (hfin:∀ W2,I (xs,q) W2->W2.heap[L]? = some (.loop (rec (if jump.isNone then .ready else .done) jump))->W2.heap[D]? = some (.deferred (some []))->q≠some L->q≠some D->if jump.isNone then J (xs,q) W2 else Jx (xs,q) W2) :
  ∃ v W2,(Instr.endRound L jump).run P W'=.ok v W2/\Zca (fun k=>M k\/k=L) o q W W2/\((v=.bool true/\J (xs,q) W2)\/(v=.bool false/\Jx (xs,q) W2)):=by{
 obtain⟨e1,n1⟩:=hk.same L (Qa.1 hL).1 hML hoL;obtain⟨e2,n2⟩:=hk.same D (Qa.1 hD).1 hMD hoD;have hL3:=e1.trans hL;have hD3:=e2.trans hD;have hrun:=run_endRound (P:=P) jump hL3;rw[(hrec .busy none).2] at hrun;have hf:=hfin _ (hI.putObj (.loop (rec (if jump.isNone then .ready else .done) jump)) hi hBL hL3 rfl) (Qa0 (Qa.1 hL3).1) ((Pk hDL).trans hD3) n1 n2;refine⟨_,_,hrun,?_,?_⟩
 ·exact(hk.wide fun _ _ h=>.inl h).grown (grownBy_putObj' _ _ _) fun r e=>by cases e;exact .inr (.inr rfl)
 ·cases jump with
  | none=>exact .inl ⟨rfl,by simpa using hf⟩
  | some c=>exact .inr ⟨rfl,by simpa using hf⟩}
theorem Zh4 {α:Type}{P:Program}{g:Operand}{ps:Array Tmp}{assign body:Code}{Q:Exit->Act->Qbh->Prop}{a:Act}{w:Qbh}{m:Nat}{gf:Nat}{lb:Array Qbi}
  (hg:a.eval g=.func (.func gf) #[] lb) (eg:∀ args w,(callFunc gf args).run P w=.ok (.enter gf args) w)
  {encs:α->Array Qbi} {T:Nat->List α->α->Option Nat->Qbh->Prop} {End:List α->Prop} {Z:Nat->Prop} (hseq:Z5m P gf lb encs T End Z w) (hps:∀ x,(encs x).size=ps.size)
  (M:Nat->Prop) (hM:∀ k,M k->k<w.heap.size) (o:Option Nat) (hZ:∀ k,Z k->k<w.heap.size/\¬ M k/\o≠some k)
  (I:List α×Option Nat->Qbh->Prop) (Ix:Code->List α×Option Nat->Qbh->Prop) (hI:OwnFrom w.heap.size I) (hIx:∀ c,OwnFrom w.heap.size (Ix c)) (hIo:∀ s W,I s W->∀ k,s.2=some k->k<W.heap.size) (h0:I ([],o) w)
  (Ax:α->Act->Qbh->Prop) (hAx:∀ x a',OwnFrom w.heap.size (fun(_:Unit) W=>Ax x a' W)) (hT:∀ pre x q,OwnFrom w.heap.size (fun(_:Unit) W=>T (w.heap.size+2) pre x q W))
  (hassign:∀ (l:Nat) (pre:List α) (q:Option Nat) (x:α) (W:Qbh) (K:Act->Qbh->Prop),I (pre,q) W->T (w.heap.size+2) pre x q W->(∀ a' W',W.grownBy W' none->Ax x a' W'->K a' W') ->
   assign.wpIn (Fence.wide.inRound l) 0 P (Exit.then K (fun _ _ _=>False)) { tmps:=(ps.zip (encs x)).foldl (fun t (p,v)=>t.setIfInBounds p v) a.tmps,defers:=[] } W)
  (hbody:∀ (l:Nat) (pre:List α) (q:Option Nat) (x:α) (a':Act) (W:Qbh),w.heap.size+2<=W.heap.size->I (pre,q) W->Ax x a' W->T (w.heap.size+2) pre x q W->body.wpIn (Fence.wide.inRound l) 0 P (Zyh M I Ix (pre++[x]) q W) a' W)
  (hdone:∀ (xs:List α) (q:Option Nat) (W:Qbh),w.heap.size<W.heap.size->End xs->I (xs,q) W->W.heap[w.heap.size]? = some (.deferred (some []))->q≠some w.heap.size->Q .normal { a with defers:={ target:=.collected w.heap.size,args:=#[] }::a.defers } W)
  (hstop:∀ (c:Code) (pre:List α) (q:Option Nat) (W:Qbh),w.heap.size<W.heap.size->Ix c (pre,q) W->W.heap[w.heap.size]? = some (.deferred (some []))->q≠some w.heap.size->c.wpIn Fence.wide m P Q { a with defers:={ target:=.collected w.heap.size,args:=#[] }::a.defers } W) :
  (Code.rangeFunc g ps assign body).wpIn Fence.wide m P Q a w:=by{
 refine wpIn_rangeFunc fun fn hfn=> ?_
 obtain⟨rec,hrec⟩:∃ rec:LoopState->Option Code->Loop,rec=fun st pe=>{ state:=st,pending:=pe,fn,tmps:=a.tmps,params:=ps,assign,body,defers:=w.heap.size }:=⟨_,rfl⟩
 have hrec':∀ s c,{ rec s c with state:=.ready,pending:=none }=rec .ready none/\∀ s' c',{ rec s c with state:=s',pending:=c' }=rec s' c':=fun s c=>by rw[hrec];exact⟨rfl,fun _ _=>rfl⟩
 obtain⟨D,hDe⟩:∃ D,w.heap.size=D:=⟨_,rfl⟩
 obtain⟨V,hV⟩:∃ V,(w.alloc (.deferred (some []))).alloc (.loop (rec .ready none))=V:=⟨_,rfl⟩
 have hVs:V.heap.size=D+2:=by rw[<- hV,<- hDe];simp
 have hVL:V.heap[D+1]? = some (.loop (rec .ready none)):=by
  rw[<- hV,<- hDe];have:=Qa1 (w.alloc (.deferred (some []))) (.loop (rec .ready none))
  rwa [World.size_alloc] at this
 have hVD:V.heap[D]? = some (.deferred (some [])):=by
  rw[<- hV,<- hDe];exact(Below.heap_alloc _ _ _ (by simp)).trans (Qa1 w _)
 have hVb:Qbp w.heap.size w V:=by rw[<- hV];exact((Qb _ w).alloc (Qe _) _).alloc (by simp) _
 have hVI:I ([],o) V:=by rw[<- hV];exact hI.alloc _ (hI.alloc _ h0)
 have hoD:o≠some D/\o≠some (D+1):=⟨fun e=>by have:=hIo _ _ h0 D e;omega,fun e=>by have:=hIo _ _ h0 (D+1) e;omega⟩
 have hMD:¬ M D/\¬ M (D+1):=⟨fun e=>by have:=hM _ e;omega,fun e=>by have:=hM _ e;omega⟩
 have hnw:∀ {A:Qbh} {row:Option Nat},(∀ r,row=some r->V.heap.size<=r/\∃ o:Obj,A.heap[r]? = some o/\o.isCells=false)->∀ r,row=some r->w.heap.size<=r/\∃ o:Obj,A.heap[r]? = some o/\o.isCells=false :=
  fun hr r e=>⟨by have:=(hr r e).1;omega,(hr r e).2⟩
 have hkeep:∀ {A B:Qbh} {row:Option Nat} {k:Nat} {x:Obj},A.grownBy B row->(∀ r,row=some r->V.heap.size<=r/\∃ o:Obj,A.heap[r]? = some o/\o.isCells=false)->k<D+2->A.heap[k]? = some x->B.heap[k]? = some x:=fun {A B row k x} hg' hr hk hx =>
  (hg'.block k (Qa.1 hx).1 (fun e=>by have:=(hr k e.symm).1;omega)).trans hx
 refine⟨D+1,[{ target:=.collected D,args:=#[] }],V,{ target:=.fn (.func gf) lb,args:=#[.func (.yield (D+1)) #[] #[]] },V,gf,#[.func (.yield (D+1)) #[] #[]]++lb,V,?_,?_,fun _ _=>trivial,?_,fun h=>(by cases h),?_⟩
 ·rw[<- hV,hrec,<- hDe]
  exact run_enterLoop_outer _ _ _ _ _
 ·simp only[resolve,hg]
  simp[go_sem]
 ·simp[invoke,go_sem,eg]
 refine callsIn_wide.2 ((hseq (D+1) (fun k=>M k\/k=D+1)
  (fun s W=>(I s W/\V.heap.size<=W.heap.size)/\(W.heap[D+1]? = some (.loop (rec .ready none))/\W.heap[D]? = some (.deferred (some [])))/\s.2≠some (D+1)/\s.2≠some D)
  (fun s W=>∃ c,(Ix c s W/\V.heap.size<=W.heap.size)/\(W.heap[D+1]? = some (.loop (rec .done (some c)))/\W.heap[D]? = some (.deferred (some [])))/\s.2≠some (D+1)/\s.2≠some D) o V hVb ?_ ?_ ?_ ?_ ?_ ?_ ⟨⟨hVI,Qe _⟩,⟨hVL,hVD⟩,hoD.2,hoD.1⟩).mono ?_)
 ·intro s A B row hs hg' hr
  exact⟨⟨hI s A B row hs.1.1 hg' (hnw hr),Qd hs.1.2 hg'.size⟩,⟨hkeep hg' hr (by omega) hs.2.1.1,hkeep hg' hr (by omega) hs.2.1.2⟩,hs.2.2⟩
 ·rintro s A B row ⟨c,hs⟩ hg' hr
  exact⟨c,⟨hIx c s A B row hs.1.1 hg' (hnw hr),Qd hs.1.2 hg'.size⟩,⟨hkeep hg' hr (by omega) hs.2.1.1,hkeep hg' hr (by omega) hs.2.1.2⟩,hs.2.2⟩
 ·rintro k (h | h)
  ·have:=hM k h
   omega
  ·omega
 ·intro s W1 hs
  exact⟨hs.1.2,hIo s W1 hs.1.1⟩
 ·intro k hk
  obtain⟨h1,h2,h3⟩:=hZ k hk;exact⟨fun h=>h.elim h2 fun e=>by omega,h3⟩
 ·
  rintro pre q x W ⟨⟨hi,hsz⟩,⟨hl,hd⟩,nL,nD⟩ htold;rw[hVs] at htold hsz;rw[<- hDe] at htold;have hy:=run_yield (P:=P) (args:=encs x) hl (by rw[hrec];exact hps x);rw[hrec] at hy;refine⟨fn,_,assign,body,hy,roundIn_of_wpIn hfn (hassign _ pre q x W _ hi htold fun a' Wa hga hax=> ?_)⟩;clear hy;have hla:Wa.heap[D+1]? = some (.loop (rec .ready none)):=(hga.block _ (Qa.1 hl).1 (by simp)).trans hl;have hda:Wa.heap[D]? = some (.deferred (some [])):=(hga.block _ (Qa.1 hd).1 (by simp)).trans hd;have hia:=hI _ _ _ none hi hga (by simp);have hta:=hT pre x q () _ _ none htold hga (by simp);have hbeg:=run_beginRound (P:=P) hla (by rw[hrec]);rw[show ({ rec .ready none with state:=.busy }:Loop)=rec .busy none by rw[hrec]] at hbeg;refine⟨_,hbeg,?_⟩;have hlb:=(Qa0 (w:=Wa) (o:=.loop (rec .busy none)) (Qa.1 hla).1)
  have hdb:=(Pk (w:=Wa) (r:=D+1) (k:=D) (o:=.loop (rec .busy none)) (by omega)).trans hda;have hib:=hI.putObj (.loop (rec .busy none)) hia (by omega:w.heap.size<=D+1) hla rfl;have haxb:=(hAx x a').putObj (s:=()) (.loop (rec .busy none)) hax (by omega:w.heap.size<=D+1) hla rfl;have htb:=(hT pre x q).putObj (s:=()) (.loop (rec .busy none)) hta (by omega:w.heap.size<=D+1) hla rfl;have hkb:Zca (fun k=>M k\/k=D+1) q q W (Wa.putObj (D+1) (.loop (rec .busy none))):=((Zca.refl _ _ _).grown hga (by simp)).grown (grownBy_putObj' _ _ _) fun r e=>by cases e;exact .inr (.inr rfl)
  have hszb:w.heap.size+2<=(Wa.putObj (D+1) (.loop (rec .busy none))).heap.size:=by rw[Qab];have:=hga.size;omega
  refine wpIn_mono (hbody _ pre q x a' _ hszb hib haxb htb) ?_;have fin:∀ (jump:Option Code) (Y:List α×Option Nat->Qbh->Prop) (q':Option Nat) (W3:Qbh),OwnFrom w.heap.size Y->Y (pre++[x],q') W3->Zca M q q' (Wa.putObj (D+1) (.loop (rec .busy none))) W3->(match jump with | none=>Y=I | some c=>Y=Ix c) ->
    ∃ v W4,(Instr.endRound (D+1) jump).run P W3=.ok v W4/\Zzs (fun k=>M k\/k=D+1) (fun s W=>(I s W/\V.heap.size<=W.heap.size)/\(W.heap[D+1]? = some (.loop (rec .ready none))/\W.heap[D]? = some (.deferred (some [])))/\s.2≠some (D+1)/\s.2≠some D)
     (fun s W=>∃ c,(Ix c s W/\V.heap.size<=W.heap.size)/\(W.heap[D+1]? = some (.loop (rec .done (some c)))/\W.heap[D]? = some (.deferred (some [])))/\s.2≠some (D+1)/\s.2≠some D) (pre++[x]) q W (.returned v) W4:=by
   intro jump Y q' W3 hY hy3 hk3 hJ;obtain⟨v,W4,hr,hk4,hv⟩:=Zvr (P:=P) (J:=fun s W=>(I s W/\V.heap.size<=W.heap.size)/\(W.heap[D+1]? = some (.loop (rec .ready none))/\W.heap[D]? = some (.deferred (some [])))/\s.2≠some (D+1)/\s.2≠some D)
    (Jx:=fun s W=>∃ c,(Ix c s W/\V.heap.size<=W.heap.size)/\(W.heap[D+1]? = some (.loop (rec .done (some c)))/\W.heap[D]? = some (.deferred (some [])))/\s.2≠some (D+1)/\s.2≠some D) hrec' jump hlb hdb (by omega) (by omega:w.heap.size<=D+1) hMD.2 hMD.1 nL nD hk3 (hY.and (I':=fun _ W=>V.heap.size<=W.heap.size) fun _ _ _ _ hs hg _=>Qd hs hg.size)
    ⟨hy3,by have:=hk3.size;omega⟩ (fun W2 hy2 hl2 hd2 n1 n2=>by
     cases jump with
     | none =>
      cases hJ;exact⟨hy2,⟨hl2,hd2⟩,n1,n2⟩
     | some c =>
      cases hJ
      exact⟨c,hy2,⟨hl2,hd2⟩,n1,n2⟩)
   exact⟨v,W4,hr,q',hkb.trans hk4,hv.imp (fun h=>⟨by rw[h.1],h.2⟩) fun h=>⟨by rw[h.1],h.2⟩⟩
  rintro e a3 W3 hp;cases e with
  | normal =>
   obtain⟨q',hk3,hi3⟩:=hp;exact fin none I q' W3 hI hi3 hk3 rfl
  | ret =>
   obtain⟨q',hk3,hi3⟩:=hp;exact fin (some .ret) _ q' W3 (hIx _) hi3 hk3 rfl
  | exit id =>
   obtain⟨q',hk3,hi3⟩:=hp;exact fin (some (.exit id)) _ q' W3 (hIx _) hi3 hk3 rfl
  | goto t =>
   obtain⟨q',hk3,hi3⟩:=hp;exact fin (some (.goto t)) _ q' W3 (hIx _) hi3 hk3 rfl
  | panic ch=>exact hp.elim
  | outgrown=>exact hp.elim
 ·
  rintro e W2 ⟨⟨v,rfl⟩,⟨xs,q,hE,⟨hi,hsz⟩,⟨hl,hd⟩,nL,nD⟩ | ⟨pre,q,c,⟨hi,hsz⟩,⟨hl,hd⟩,nL,nD⟩⟩
  ·have:=run_endLoop (P:=P) hl (by rw[hrec];simp)
   rw[hrec] at this;refine⟨none,_,this,?_⟩;have h1:=hdone xs q (W2.putObj (D+1) (.loop { rec .ready none with state:=.exhausted })) (by rw[Qab];omega) hE (hI.putObj _ hi (by omega) hl rfl) (by rw[hDe];exact(Pk (by omega)).trans hd) (by rw[hDe];exact nD);rw[hDe,hrec] at h1;exact h1
  ·have:=run_endLoop (P:=P) hl (by rw[hrec];simp)
   rw[hrec] at this;refine⟨some c,_,this,?_⟩;have h1:=hstop c pre q (W2.putObj (D+1) (.loop { rec .done (some c) with state:=.exhausted })) (by rw[Qab];omega) ((hIx c).putObj _ hi (by omega) hl rfl) (by rw[hDe];exact(Pk (by omega)).trans hd) (by rw[hDe];exact nD);rw[hDe,hrec] at h1;exact h1}
end Go.Proofs.YtmafkphcfkhokaaGreat
namespace Go.Proofs.YtmafkphcfkhokaaGreat
open Go.RowKit Go.Maps
theorem Zbm (w:Qbh) (a b c d e f g h:Qbi) (t:Qbk):∃ w1,w.alloc (.cells #[a,b,c,d,e,f,g,h] t)=w1/\w1.heap[w.heap.size]? = some (.cells #[a,b,c,d,e,f,g,h] t (0,0))/\w1.heap.size=w.heap.size+1/\Qbp w.heap.size w w1 :=
 ⟨_,rfl,Qbm _ _,by simp,(Qb _ _).alloc (Qe _) _⟩
theorem Zk {W:Qbh}{o:Nat}{a b c d e f g h:Qbi}{t:Qbk}(hz:W.heap[o]? = some (.cells #[a,b,c,d,e,f,g,h] t (0,0))):W.cell? ⟨o,0,none⟩=some a/\W.cell? ⟨o,1,none⟩=some b/\W.cell? ⟨o,2,none⟩=some c/\W.cell? ⟨o,3,none⟩=some d/\W.cell? ⟨o,4,none⟩=some e/\W.cell? ⟨o,5,none⟩=some f/\W.cell? ⟨o,6,none⟩=some g/\W.cell? ⟨o,7,none⟩=some h/\(∀ k,W.frozen? ⟨o,k,none⟩=false)/\o<W.heap.size:=by
 have hl:=(Qa.1 hz).1;refine⟨?_,?_,?_,?_,?_,?_,?_,?_,fun k=> ?_,hl⟩ <;> simp[Qx,Pg,hz]
theorem Ue (w:Qbh) (a b c d e f g h i j k:Qbi) (t:Qbk):∃ w1,w.alloc (.cells #[a,b,c,d,e,f,g,h,i,j,k] t)=w1/\w1.heap[w.heap.size]? = some (.cells #[a,b,c,d,e,f,g,h,i,j,k] t (0,0))/\w1.heap.size=w.heap.size+1/\Qbp w.heap.size w w1 :=
 ⟨_,rfl,Qbm _ _,by simp,(Qb _ _).alloc (Qe _) _⟩
theorem Zg {W:Qbh}{o:Nat}{a b c d e f g h i j k:Qbi}{t:Qbk}(hz:W.heap[o]? = some (.cells #[a,b,c,d,e,f,g,h,i,j,k] t (0,0))):W.cell? ⟨o,0,none⟩=some a/\W.cell? ⟨o,1,none⟩=some b/\W.cell? ⟨o,2,none⟩=some c/\W.cell? ⟨o,3,none⟩=some d/\W.cell? ⟨o,4,none⟩=some e/\W.cell? ⟨o,5,none⟩=some f/\W.cell? ⟨o,6,none⟩=some g/\W.cell? ⟨o,7,none⟩=some h /\
  W.cell? ⟨o,8,none⟩=some i/\W.cell? ⟨o,9,none⟩=some j/\W.cell? ⟨o,10,none⟩=some k/\(∀ k,W.frozen? ⟨o,k,none⟩=false)/\o<W.heap.size:=by
 have hl:=(Qa.1 hz).1;refine⟨?_,?_,?_,?_,?_,?_,?_,?_,?_,?_,?_,fun k=> ?_,hl⟩ <;> simp[Qx,Pg,hz]
def Z43 (v:Qbi):Option (DataW Qbi×List MemPlace):=some (.held v,[])
def NMp (s:Rm) (lo g:Nat) (K:List Int) (W:Qbh):Prop:=∃ (n:Nat) (D:DataW Qbi),W.ownsMap Tryz.prog 3 Z43 g n D/\n<=K.length/\(∀ x,has D (.int .i64 x)=true↔x∈K)/\∀ x∈K,∃ u,(∀ z,D.atKey (.int .i64 x) z=.held u)/\Nod (New lo W) W u (rmV s x)
section
variable {s : Rm}{lo g : Nat}{K : List Int}{W W' : Qbh}
theorem Zu8 (s:Rm) (lo:Nat) (h:W.heap[g]? = some (.map #[] 0)):NMp s lo g [] W:=⟨0,.map [],⟨#[],0,h,⟨by simp,MapKept.stamped_empty 0,by simp⟩,Qe _,rfl⟩,by simp,fun x=>by simp[has],fun x hx=>by cases hx⟩
theorem NMp.kept {row:Option Nat}(h:NMp s lo g K W) (hg:W.grownBy W' row) (hne:some g≠row) (hr:∀ q,row=some q->q<lo):NMp s lo g K W':=by
 obtain⟨n,D,h1,h2,h3,h4⟩:=h;refine⟨n,D,h1.kept hg hne,h2,h3,fun x hx=> ?_⟩;obtain⟨u,e1,e2⟩:=h4 x hx;exact⟨u,e1,e2.grown hg hr⟩
theorem NMp.below (h:NMp s lo g K W) (hb:Qbp W.heap.size W W'):NMp s lo g K W':=h.kept (Zbd hb) (by simp) (by simp)
theorem Z1o (h:NMp s lo g K W) (hlo:g<lo){x:Int}(hx:(Lit.int .i64 x).wf=true) (hl:K.length<=1000000000){u:Qbi}(hu:Nod (New lo W) W u (rmV s x)) :
  ∃ W',Sem.run Tryz.prog (Instr.mapUpdate 69 (.map (some g)) (.int .i64 x) u) W=.ok () W'/\NMp s lo g (K++[x]) W'/\W.grownBy W' (some g):=by{
 obtain⟨n,D,h1,h2,h3,h4⟩:=h;obtain⟨W',hr,ho,hg⟩:=h1.update (int_keyed Tryz.underlying3) Tryz.underlying69 (by unfold maxLen;omega) (keyOf_int_mk Tryz.underlying3 hx) (d:=.held u) (ps:=[]) rfl;refine⟨W',hr,⟨n+1,_,ho,by rw[Qr,P7];omega,fun y=> ?_,fun y hy=> ?_⟩,hg⟩
 ·rw[Qh,Qk]
  by_cases e:y=x
  ·subst e
   simp[has_put_same h1.isMap (show WideAt.IsKeyLit (.int .i64 y) from trivial)]
  ·rw[has_put_other (fun e'=>e (by simpa using e')),h3 y]
   simp[e]
 ·by_cases e:y=x
  ·subst e
   exact⟨u,fun z=>atKey_put_same h1.isMap (show WideAt.IsKeyLit (.int .i64 y) from trivial) _ z,hu.grown hg (fun q e=>by cases e;exact hlo)⟩
  ·obtain⟨v,e1,e2⟩:=h4 y ((Qh.1 hy).resolve_right fun h=>e (Qk.1 h))
   exact⟨v,fun z=>(atKey_put_other (fun e'=>e (by simpa using e')) _ z).trans (e1 z),e2.grown hg (fun q e=>by cases e;exact hlo)⟩}
theorem Zjw {ok:Qbj->Prop}{v:Qbi}{n:Nd}(h:Nod ok W v n):∃ U c,v=.agg #[.int .i64 n.1,.slice U n.2.length c]:=by
 obtain⟨d,rfl,_,A,c,e,_⟩:=h;simp only[List.cons.injEq,and_true] at e;exact⟨A,c,by rw[e]⟩
theorem Zqi (h:NMp s lo g K W){x:Int}(hx:(Lit.int .i64 x).wf=true) :
  ∃ lv U m c,Sem.run Tryz.prog (Instr.lookup 69 (.map (some g)) (.int .i64 x) true) W=.ok (.tuple #[.agg #[.int .i64 lv,.slice U m c],.bool (decide (x∈K))]) W:=by{
 obtain⟨n,D,h1,h2,h3,h4⟩:=h;obtain⟨v,ps,e1,e2⟩:=h1.look_ok (int_keyed Tryz.underlying3) Tryz.underlying69 (z:=.agg #[.int .i64 0,.slice none 0 0]) (by kernel_rfl) (zd:=.held (.agg #[.int .i64 0,.slice none 0 0])) (zp:=[]) rfl (keyOf_int_mk Tryz.underlying3 hx);have hd:has D (.int .i64 x)=decide (x∈K):=Bool.eq_iff_iff.2 ((h3 x).trans decide_eq_true_iff.symm);rw[hd] at e1;by_cases hm:x∈K
 ·obtain⟨u,a1,a2⟩:=h4 x hm
  rw[a1] at e2;obtain⟨U,c,rfl⟩:=Zjw a2;cases e2;exact⟨_,U,_,c,e1⟩
 ·rw[atKey_of_not_has (by rw[hd];simpa using hm)] at e2
  cases e2;exact⟨0,none,0,0,e1⟩}
end
theorem Zd3 {g:Nat}{X:List Int}{W W':Qbh}{row:Option Nat}(h:Mrk g X W) (hg:W.grownBy W' row) (hne:some g≠row):Mrk g X W':=by
 obtain⟨vs,h1,h2⟩:=h;exact⟨vs,(hg.block g (Qa.1 h1).1 hne).trans h1,h2⟩
theorem Z1k {g1 g2 g:Nat}{w w':Qbh}(h:w.grownBy w' (some g)) (hg:g=g1\/g=g2):Zcy g1 g2 w w' :=
 ⟨h.size,fun k hk h1 h2=>h.block k hk fun e=>by cases e;rcases hg with rfl | rfl <;> contradiction⟩
structure FrE (s:Rm) (w0:Qbh) (v:Qbi) (g1 g2 lo:Nat):Prop where
 sto:Sto (Old w0) w0 v s
 from1:w0.heap.size<=g1
 from2:w0.heap.size<=g2
 lt1:g1<lo
 lt2:g2<lo
 ne:g1≠g2
structure FrW (s:Rm) (w0:Qbh) (g1 g2 lo:Nat) (g:Sg) (w:Qbh):Prop where
 size:lo<=w.heap.size
 bel:Qbp w0.heap.size w0 w
 map:NMp s lo g1 g.1 w
 mrk:Mrk g2 g.2 w
section
variable {s : Rm}{w0 w w' : Qbh}{v : Qbi}{g1 g2 lo : Nat}{g : Sg}
theorem FrW.below (h:FrW s w0 g1 g2 lo g w) (hb:Qbp w.heap.size w w'):FrW s w0 g1 g2 lo g w' :=
 ⟨Qd h.size hb.size,h.bel.trans (hb.mono h.bel.size),h.map.below hb,Zbu _ _ _ _ h.mrk hb⟩
theorem FrW.sto (h:FrW s w0 g1 g2 lo g w) (he:FrE s w0 v g1 g2 lo):Sto (Old w) w v s:=he.sto.below h.bel
theorem FrW.put (h:FrW s w0 g1 g2 lo g w) (he:FrE s w0 v g1 g2 lo){x:Int}(hx:(Lit.int .i64 x).wf=true) (hl:g.1.length<=1000000000){u:Qbi}(hu:Nod (New lo w) w u (rmV s x)) :
  ∃ W',Sem.run Tryz.prog (Instr.mapUpdate 69 (.map (some g1)) (.int .i64 x) u) w=.ok () W'/\FrW s w0 g1 g2 lo (g.1++[x],g.2) W'/\Zcy g1 g2 w W':=by
 obtain⟨W',e,h1,h2⟩:=Z1o h.map he.lt1 hx hl hu;exact⟨W',e,⟨Qd h.size h2.size,h.bel.grown h2 h.bel.size (fun k e=>by cases e;exact he.from1),h1,Zd3 h.mrk h2 (fun e=>he.ne (Option.some.inj e).symm)⟩,Z1k h2 (.inl rfl)⟩
theorem FrW.up (h:FrW s w0 g1 g2 lo g w) (he:FrE s w0 v g1 g2 lo){q:Nat}{y:Int}(hy:g.2[q]?.getD 0+1=y):FrW s w0 g1 g2 lo (g.1,frU g.2 q) (w.setCell ⟨g2,q,none⟩ (.int .i64 y))/\Zcy g1 g2 w (w.setCell ⟨g2,q,none⟩ (.int .i64 y)):=by
 subst hy;have hg:w.grownBy (w.setCell ⟨g2,q,none⟩ (.int .i64 (g.2[q]?.getD 0+1))) (some g2):=Zq (p:=⟨g2,q,none⟩) (Ye w (some g2)) rfl _;exact⟨⟨Qd h.size hg.size,h.bel.grown hg h.bel.size (fun k e=>by cases e;exact he.from2),h.map.kept hg (fun e=>he.ne (Option.some.inj e)) (fun k e=>by cases e;exact he.lt2),Z00 h.mrk q _⟩,Zy4 (.inr rfl) q _⟩
theorem Zpz {x:Int}(h0:0<=x) (h:x<256):(Lit.int .i64 x).wf=true:=by
 simp[Lit.wf,IntKind.min,IntKind.max,IntKind.signed,IntKind.bits];omega
theorem Zwc {lo:Nat}{a:List Qbi}{l:List It}(h1:g1<lo) (h2:g2<lo) (h:Zaa (New lo w) w a l) (hr:Zcy g1 g2 w w'):Zaa (New lo w') w' a l :=
 Xn _ _ _ _ _ _ (fun p v hq hc=>by
  have e:=hr.2 p.block hq.2.1 (by have:=hq.1;omega) (by have:=hq.1;omega)
  exact⟨⟨hq.1,Qm hq.2.1 hr.1,(World.frozen?_of_block e).trans hq.2.2⟩,(Qaa e).trans hc⟩) h
end
theorem Zul {α β:Type}(f:β->α->β) (b:β){L:List α}{i:Nat}{x:α}(hx:L[i]? = some x):(L.take (i+1)).foldl f b=f ((L.take i).foldl f b) x:=by
 obtain⟨h1,e1⟩:=Qg.1 hx;rw[<- Qt h1,e1,List.foldl_append];rfl
def Z47 (s:Rm) (l:Nat) (a:Int) (g:Sg) (w0:Qbh) (g1 g2 lo:Nat) (w:Qbh):Qbo->Qbh->Prop:=fun e w'=>e=.returned (.bool true)/\FrW s w0 g1 g2 lo (Vp s l a g) w'/\Zcy g1 g2 w w'
def Zsi (s:Rm) (l:Nat):Prop:=∀ (a:Int) (g:Sg) (n:Nat) (w0:Qbh) (q0 q1 q2 q3 q4 q5 q6 q7 q8:Qbi) (g1 g2 lo:Nat) (w:Qbh),(a∈g.1\/AtT s l a)->Gg s g n->n+3*7 ^ (l+1)<=900000000->1<=g.2[a.toNat]?.getD 0->FrE s w0 (.agg #[q0,q1,q2,q3]) g1 g2 lo->FrW s w0 g1 g2 lo g w ->
 Qbn Tryz.prog 109 #[.agg #[q0,q1,q2,q3,q4,q5,q6,q7,.map (some g1),.slice (some ⟨g2,0,none⟩) 256 256,q8],.int .i64 a] w (Z47 s l a g w0 g1 g2 lo w)
theorem Zs6 (s:Rm) (l0:Nat) (hl5:l0<=5) (hr0:∀ j,l0=j+1->Zsi s j):Zsi s l0:=by{
 intro a g n w0 q0 q1 q2 q3 q4 q5 q6 q7 q8 g1 g2 lo w hA hG hn h1 hE hW;have he:rmE s a=0:=by
  rcases hA with h | h
  ·exact(hG.keys a h).1
  ·exact h.ok
 obtain⟨h8,h256,_⟩:=Zao he;have hwf:=Zpz (show 0<=a by omega) h256;have hin:=Za (fun(h:a∈g.1)=>Zjh (s:=s) (l:=l0) h);have hout:=Za (fun(h:a∉g.1)=>Zas (s:=s) (l:=l0) h);have hat:Hid (a∉g.1->AtT s l0 a):=Za fun h=>hA.resolve_left h
 obtain⟨w1,hw1,k1,hs1,hB1⟩:=Ue w q0 q1 q2 q3 q4 q5 q6 q7 (.map (some g1)) (.slice (some ⟨g2,0,none⟩) 256 256) q8 71;have W1:=hW.below hB1;obtain⟨lv,U,m0,c0,hlk⟩:=Zqi W1.map hwf;obtain⟨bb,hbb⟩:∃ q,decide (a∈g.1)=q:=⟨_,rfl⟩
 rw[hbb] at hlk;obtain⟨w2,hw2,b2,hs2,hB2⟩:=Yf w1 (.int .i64 lv) (.slice U m0 c0) 59;have W2:=Za (W1.below hB2);have K2:=Za ((hB2.block _ (Qa.1 k1).1).trans k1);have R2:=Za (Xy (g1:=g1) (g2:=g2) (hB1.trans (hB2.mono hB1.size)):Zcy g1 g2 w w2);obtain⟨s0,s1,s2,s3,s4,s5,s6,s7,s8,s9,s10,_⟩:=Zg k1;have hlo:=Za (show lo<=w.heap.size from hW.size);have hNd:=Za (fun v W hW=>Zf4 v s a W hW);have hmany:=Za (show g.1.length<=1000000000 by have:=hG.many;omega);have hn9:=Za hn;have E0:=Za hE;have G0:=Za hG;replace hs1:=Za hs1;replace hs2:=Za hs2;have h1':=Za h1;have hwf':=Za hwf;clear hW hE hG hA hB1 hB2 W1 k1 b2 h1
 go_enter Tryz.func109,Tryz.ntmps109
 go_upto_region 1 with fail
 clear hw1
 go_upto_region 2 with fail
 clear hw2 hlk s0 s1 s2 s3 s4 s5 s6 s7 s8 s9 s10;cases bb with
 | true =>
  have hf:=Za (hin.out (of_decide_eq_true hbb));clear hbb hout
  go_wp2_with fail
  go_ret;exact⟨rfl,by rw[hf.out];exact W2.out,R2.out⟩
 | false =>
 have hk:=of_decide_eq_false hbb;have hT:=hat.out hk;have hf:=Za (hout.out hk);obtain⟨N1,_⟩:=Z07 G0.out he h1'.out;have hitm:=Za (fun x (hx:x∈(rmV s a).2)=>Ztd hT hx);have hdn:=Za (fun(j:Nat) (hj:l0=j+1) (x:It) (hx:x∈(rmV s a).2)=>(by subst hj;exact hT.down hx:AtT s j x.2.1));have hm5:=(Z1 hT.may).1.2.2.1;have hlv:=hT.lvl;have hfd:=Za (fun(L:List It) (hL:∀ x∈L,x∈(rmV s a).2)=>(Zj2 L _ _ (fun x hx=>hitm.out x (hL x hx)) N1).1);rw[he] at hNd;clear hk hbb hin hout hat G0 h1' hT N1;obtain⟨nd,hnd⟩:∃ q,rmV s a=q:=⟨_,rfl⟩
 have hnd':=Za hnd;rw[hnd] at hNd hf hitm hdn hm5 hlv hfd;obtain⟨lw,hlw⟩:∃ q,nd.1=q:=⟨_,rfl⟩
 obtain⟨l,hl⟩:∃ q,nd.2=q:=⟨_,rfl⟩
 obtain⟨m,hlm⟩:∃ q,l.length=q:=⟨_,rfl⟩
 rw[hl] at hf hitm hdn hm5 hfd;rw[hlm] at hm5;rw[hlw] at hlv;have e2:(rmE s a != 0)=false:=by rw[he];rfl
 replace hnd:=Za hnd;replace hlw:=Za hlw;replace hl:=Za hl;replace hlm:=Za hlm;replace hlv:=Za hlv;replace he:=Za he;obtain⟨s0,s1,s2,s3,s4,s5,s6,s7,s8,s9,s10,_⟩:=Zg K2.out;have S2:=Za (W2.out.sto E0.out)
 go_upto_region 4 with fail
 go_wp2_with fail
 with_reducible refine(hNd.out _ _ S2.out).mono ?_
 rintro e w3 ⟨u,rfl,h3n,hb3⟩;obtain⟨Z,zc,rfl⟩:=Zjw h3n;rw[hlw.out,hl.out,hlm.out];rw[hlw.out,hl.out,hlm.out] at h3n;obtain⟨w4,hw4,b4,hs4,hb4⟩:=Yf w3 (.int .i64 lw) (.slice Z m zc) 59;have hb34:=hb3.trans (hb4.mono hb3.size);have N4:Nod (New lo w4) w4 (.agg #[.int .i64 lw,.slice Z m zc]) (rmV s a):=by
  rw[hnd'.out];exact h3n.new W2.out.size hb4
 obtain⟨w5,hmu,W5,R45⟩:=(W2.out.below hb34).put E0.out hwf'.out hmany.out N4;have I4:Zaa (New lo w4) w4 [.slice Z m zc] l:=by
  obtain⟨_,e,_,h⟩:=N4;cases e;rw[hnd'.out,hl.out] at h;exact h
 have I5:=Za (Zwc E0.out.lt1 E0.out.lt2 I4 R45);have b5:=Ya R45 b4 (by have:=E0.out.lt1;have:=W2.out.size;have:=hb3.size;omega) (by have:=E0.out.lt2;have:=W2.out.size;have:=hb3.size;omega);have k5:=Ya R45 ((hb34.block _ (Qa.1 K2.out).1).trans K2.out) (by have:=E0.out.lt1;have:=hlo.out;omega) (by have:=E0.out.lt2;have:=hlo.out;omega);have X5:=Za W5;have R5:=Za (Z5 R2.out (Z5 (Xy hb34) R45):Zcy g1 g2 w w5);have hsz:=Za (show lo<=w3.heap.size from Qd W2.out.size hb3.size);replace hs4:=Za hs4;obtain⟨y0,y1,_⟩:=Zi b4;have k4:=(hb34.block _ (Qa.1 K2.out).1).trans K2.out;have b5':=Za b5;have k5':=Za k5;clear s0 s1 s2 s3 s4 s5 s6 s7 s8 s9 s10;obtain⟨s0,s1,s2,s3,s4,s5,s6,s7,s8,s9,s10,_⟩:=Zg k4;clear hb34 hb3 hb4 h3n b4 N4 I4 W5 R45 hNd K2 S2 W2 b5 k5 k4
 go_upto_region 5 with fail
 clear hw4
 go_upto_region 8 with fail
 clear hmu s0 s1 s2 s3 s4 s5 s6 s7 s8 s9 s10 y0 y1;obtain⟨y0,y1,_⟩:=Zi b5'.out
 go_wp2_with fail
 clear y0 y1
 go_loopw [36] (fun vi wr=>∃ k:Nat,k<=m/\vi=.int .i64 k/\FrW s w0 g1 g2 lo ((l.take k).foldl (X1 (frB s l0)) (g.1++[a],g.2)) wr/\Zcy g1 g2 w5 wr) (fun vi _=>m-(intOf vi).toNat)
 case atStart=>exact⟨0,by omega,rfl,X5.out,Zf0 _ _ _⟩
 case round =>
 obtain⟨k,hk,rfl,hw,hrs⟩:=hrel;have b6:=Ya hrs b5'.out (by have:=hsz.out;have:=E0.out.lt1;omega) (by have:=hsz.out;have:=E0.out.lt2;omega);have k6:=Ya hrs k5'.out (by have:=hlo.out;have:=E0.out.lt1;omega) (by have:=hlo.out;have:=E0.out.lt2;omega);have I6:=Zwc E0.out.lt1 E0.out.lt2 I5.out hrs;obtain⟨y0,y1,_⟩:=Zi b6;obtain⟨G,hG⟩:∃ q,(l.take k).foldl (X1 (frB s l0)) (g.1++[a],g.2)=q:=⟨_,rfl⟩
 have hGg:=hfd.out (l.take k) (fun x hx=>Pu hx);have htk:=fun x (hx:l[k]? = some x)=>Zul (X1 (frB s l0)) (g.1++[a],g.2) hx
 rw[hG] at hw hGg htk;have WR:=Za hw;have RS:=Za hrs;replace htk:=Za htk;clear hw hrs;by_cases hlt:k<m
 case neg =>
  have he1:Hid (FrW s w0 g1 g2 lo (Vp s l0 a g) wr):=Za (by
   rw[hf.out];have:=WR.out;rw[<- hG,Qj (by rw[hlm.out];omega)] at this
   exact this)
  have RF:=Za (Z5 R5.out RS.out);clear b6 k6 I6 hGg;replace hG:=Za hG
  go_wp2_with fail
  go_ret;exact⟨rfl,he1.out,RF.out⟩
 obtain⟨x,hx⟩:∃ x,l[k]? = some x:=⟨_,Qf (by rw[hlm.out];exact hlt)⟩
 obtain⟨ad,E5,ce5,rfl,_,FX⟩:=Zns I6 hx;obtain⟨⟨z0,z1,z2,z3,z4⟩,_⟩:=FX _ (Qb _ _);have hxm:=Pi hx;have ht:=htk.out x hx;have htake:=Qa2 k l;replace hx:=Za hx;replace hG:=Za hG;have hfx:=hitm.out x hxm;obtain⟨r,hr⟩:∃ r,x.2.1=r:=⟨_,rfl⟩
 have hst:X1 (frB s l0) G x=if r=0 then G else frB s l0 r (G.1,frU G.2 r):=by unfold X1;rw[hr]
 rw[hst] at ht;have hdx:=Za (fun j hj=>hdn.out j hj x hxm);rw[hr] at hfx z3 hdx;obtain⟨w6,hw6,c0',c1',c2',c3',c4',hs6,hB6,hg6⟩:=Z0 wr (.int .u8 (x.1.1.toNat:Int)) (.int .u32 x.1.2.1) (.int .u32 x.1.2.2) (.int .i64 r) (.slice E5 x.2.2.length ce5) 79;have W6:=Za (WR.out.below hB6);have b7:=Za ((hB6.block _ (Qa.1 b6).1).trans b6);have k7:=Za ((hB6.block _ (Qa.1 k6).1).trans k6);have R6:=Za (Z5 RS.out (Xy hB6):Zcy g1 g2 w5 w6);have i4:(0:Int)<=(k:Int):=by omega
 have i5:(k:Int)<(m:Int):=by omega
 have hs6':=Za hs6;replace hg6:=Za hg6;clear hr hst I6 b6 k6 FX hB6 hs6 hxm
 go_upto_region 11 with fail
 clear hw6 z0 z1 z2 z3 z4 y0 y1;by_cases hr0':r=0
 ·subst hr0'
  have hA:Hid (FrW s w0 g1 g2 lo ((l.take (k+1)).foldl (X1 (frB s l0)) (g.1++[a],g.2)) w6):=Za (by
   rw[ht,if_pos rfl]
   exact W6.out)
  clear ht hfx hGg
  go_wp2_with fail
  go_roundw
  case rel=>exact⟨k+1,by omega,by go_num,hA.out,R6.out⟩
  case measure=>simp[intOf];omega
 rw[if_neg hr0'] at ht;obtain⟨r0,r1,hblw⟩:=hfx.resolve_left hr0';obtain⟨q,rfl⟩:∃ q:Nat,r=q:=⟨r.toNat,by omega⟩
 have q256:q<256:=by omega
 obtain⟨u1,u2,u3⟩:=Z2v hGg r0 r1;have hfew:=hGg.few q;have hpow:7 ^ l0<=7 ^ 5:=Qv (by decide) hl5;have hmul:=Qam (show (l.take k).length<=5 by omega) (show 1+3*7 ^ l0<=1+3*7 ^ 5 by omega);obtain⟨zz,hzz⟩:∃ z,G.2[q]?.getD 0=z:=⟨_,rfl⟩
 have hc:=Zch W6.out.mrk q256;have hfr:=Znb W6.out.mrk q;obtain⟨W7,R67⟩:=W6.out.up E0.out (q:=q) (y:=zz+1) (by rw[hzz]);rw[hzz] at hc hfew;have hn9':=hn9.out
 have hbud:Hid (n+1+(l.take k).length*(1+3*7 ^ l0)+1+3*7 ^ l0<=900000000):=Za (by
  have e1:=P8 (1+3*7 ^ l0) (show (l.take k).length<=4 by omega);have e2:1<=7 ^ l0:=Qay _ _ (by decide);rw[Q9] at hn9'
  omega)
 have wrap1:IntKind.i64.wrap (zz+1)=zz+1:=Qo _ (by omega);obtain⟨w7,hw7⟩:∃ w7,w6.setCell ⟨g2,q,none⟩ (.int .i64 (zz+1))=w7:=⟨_,rfl⟩
 rw[hw7] at W7 R67;have X7:=Za W7;have R7:=Za (Z5 R6.out R67:Zcy g1 g2 w5 w7);have hsr:=Za (show lo<=wr.heap.size from WR.out.size);have g7:=Ya R67 hg6.out (by have:=hsr.out;have:=E0.out.lt1;omega) (by have:=hsr.out;have:=E0.out.lt2;omega);have b8:=Ya R67 b7.out (by have:=hsz.out;have:=E0.out.lt1;omega) (by have:=hsz.out;have:=E0.out.lt2;omega);have k8:=Ya R67 k7.out (by have:=hlo.out;have:=E0.out.lt1;omega) (by have:=hlo.out;have:=E0.out.lt2;omega);obtain⟨s0,s1,s2,s3,s4,s5,s6,s7,s8,s9,s10,_⟩:=Zg k7.out;obtain⟨f0,f1,f2,f3,f4,_⟩:=Zn g7;obtain⟨y0,y1,_⟩:=Zi b8;have j1:(0:Int)<=(q:Int):=by omega
 have j2:(q:Int)<256:=by omega
 have j3:¬ (q:Int)=0:=hr0';have j4:¬ q=0:=by omega
 have ht':=Za ht;have u1':=Za u1;have u3':=Za u3;have hb':=Za hblw;have hfin:Hid (∀ W',FrW s w0 g1 g2 lo (frB s l0 (q:Int) (G.1,frU G.2 q)) W'->FrW s w0 g1 g2 lo ((l.take (k+1)).foldl (X1 (frB s l0)) (g.1++[a],g.2)) W'):=Za fun W' h=>by rw[ht];exact h
 replace hzz:=Za hzz;clear ht u1 u2 u3 hblw hfx hfew hpow hmul hn9' r0 r1 W7 R67 g7 b8 hr0' hGg
 go_upto_region 13 with fail
 clear hw7 hc hfr s0 s1 s2 s3 s4 s5 s6 s7 s8 s9 s10 c0' c1' c2' c3' c4';cases l0 with
 | zero =>
  have v1:¬ (0:Int)<lw:=by rw[hlv.out];simp
  have hA:=Za (hfin.out w7 X7.out)
  go_wp2_with fail
  go_roundw
  case rel=>exact⟨k+1,by omega,by go_num,hA.out,R7.out⟩
  case measure=>simp[intOf];omega
 | succ l1 =>
  have v1:(0:Int)<lw:=by rw[hlv.out];omega
  have hrec:=Za (hr0 l1 rfl (q:Int) (G.1,frU G.2 q) _ w0 q0 q1 q2 q3 q4 q5 q6 q7 q8 g1 g2 lo w7 (.inr (hdx.out l1 rfl)) u1'.out hbud.out u3'.out E0.out X7.out);obtain⟨s0,s1,s2,s3,s4,s5,s6,s7,s8,s9,s10,_⟩:=Zg k8;clear k8
  go_wp2_with fail
  with_reducible refine hrec.out.mono ?_
  rintro e w8 ⟨rfl,hW8,hR8⟩;have hA:=Za (hfin.out w8 hW8);have hR:=Za (Z5 R7.out hR8);clear hW8 hR8
  go_wp2_with fail
  go_roundw
  case rel=>exact⟨k+1,by omega,by go_num,hA.out,hR.out⟩
  case measure=>simp[intOf];omega}
theorem Zvt (s:Rm):∀ l:Nat,l<=5->Zsi s l:=by
 intro l
 induction l using Px with
 | ind l ih=>exact fun hl=>Zs6 s l hl fun j hj=>ih j (by omega) (by omega)
def Z04 (g1 g2:Nat) (w:Qbh):Qbj->Prop:=fun p=>p.block<w.heap.size/\p.block≠g1/\p.block≠g2
theorem Z3x {g1 g2:Nat}{w:Qbh}{U:Option Qbj}{n c:Nat}{l:List Int}(h:rSl 1 (rK .i64) (Z04 g1 g2 w) w [.slice U n c] l){k:Nat}{x:Int}(hx:l[k]? = some x) :
  ∃ ad,U=some ad/\(Lit.int .i64 x).wf=true/\∀ W,Zcy g1 g2 w W->W.cell? (ad.add k)=some (.int .i64 x):=by
 obtain⟨A,cap,e,_,_,h2⟩:=h;simp only[List.cons.injEq,Value.slice.injEq,and_true] at e;obtain⟨rfl,_,_⟩:=e;obtain⟨ad,vs,rfl,_,e3,e4⟩:=h2 k x hx;obtain⟨rfl,e5,e6⟩:=e4;have:=e3 0 _ rfl;simp only[Nat.mul_one,Pm] at this;obtain⟨⟨a1,a2,a3⟩,a4⟩:=this;refine⟨ad,rfl,?_,fun W hW=>(Qaa (hW.2 _ a1 a2 a3)).trans a4⟩;simp[IntKind.min,IntKind.max,IntKind.signed,IntKind.bits] at e5 e6;simp[Lit.wf,IntKind.min,IntKind.max,IntKind.signed,IntKind.bits];omega
theorem Zuu {s:Rm}{L:List Int}{g G:Sg}{k:Nat}{a:Int}(hk:L[k]? = some a) (h:Z8 s (L.take k) g=(true,G)) :
  (¬ (a∈G.1\/ckE s a=0)->(Z8 s L g).1=false)/\(a∈G.1\/ckE s a=0->Z8 s (L.take (k+1)) g=(true,Vp s (rmV s a).1.toNat a (G.1,frU G.2 a))):=by{
 obtain⟨h1,e1⟩:=Qg.1 hk;refine⟨fun hn=> ?_,fun hy=> ?_⟩
 ·have e:L=L.take k++(a::L.drop (k+1)):=by
   rw[<- e1,Qa3,Pe]
  rw[e,Zcb,h];exact Zgz hn
 ·rw[<- Qt h1,e1,Zcb,h]
  show Z8 s [a] G=_;rw[Zb8 hy];rfl}
def Zqq (s:Rm) (L:List Int) (g:Sg) (w0:Qbh) (g1 g2 lo:Nat) (w:Qbh):Qbo->Qbh->Prop:=fun e w'=>e=.returned (.bool (Z8 s L g).1)/\((Z8 s L g).1=true->FrW s w0 g1 g2 lo (Z8 s L g).2 w')/\Qbp w0.heap.size w0 w'/\Zcy g1 g2 w w'
theorem Zzq (s:Rm) (L:List Int) (g:Sg) (n:Nat) (w0:Qbh) (q0 q1 q2 q3 q4 q5 q6 q7 q8:Qbi) (g1 g2 lo:Nat) (Q:Option Qbj) (c:Nat) (w:Qbh) (hG:Gg s g n) (hn:n+L.length*400000<=800000000) (hE:FrE s w0 (.agg #[q0,q1,q2,q3]) g1 g2 lo) (hW:FrW s w0 g1 g2 lo g w) (hL:rSl 1 (rK .i64) (Z04 g1 g2 w) w [.slice Q L.length c] L) :
  Qbn Tryz.prog 57 #[.agg #[q0,q1,q2,q3,q4,q5,q6,q7,.map (some g1),.slice (some ⟨g2,0,none⟩) 256 256,q8],.slice Q L.length c] w (Zqq s L g w0 g1 g2 lo w):=by{
 obtain⟨m,hm⟩:∃ q,L.length=q:=⟨_,rfl⟩
 rw[hm] at hn hL ⊢;obtain⟨w1,hw1,k1,hs1,hB1⟩:=Ue w q0 q1 q2 q3 q4 q5 q6 q7 (.map (some g1)) (.slice (some ⟨g2,0,none⟩) 256 256) q8 71;have W1:=Za (hW.below hB1);have K1:=Za k1;have R1:=Za (Xy (g1:=g1) (g2:=g2) hB1:Zcy g1 g2 w w1);have hlo:=Za (show lo<=w.heap.size from hW.size);have hCk:=Za (fun v a W hW=>Vj v s a W hW);have hat:=Za (fun k a (hk:L[k]? = some a)=>Z3x hL hk);have hok:=Za (fun k G (h:Z8 s (L.take k) g=(true,G))=>(Zbs _ _ _ _ hG h).1);have htk:=Za (fun k a G (hk:L[k]? = some a) (h:Z8 s (L.take k) g=(true,G))=>Zuu hk h);have E0:=Za hE;have hn':=Za hn;have m2:m<=2000:=by omega
 replace hs1:=Za hs1;replace hm:=Za hm;clear hG hE hW hB1 hL k1 hn
 go_enter Tryz.func57,Tryz.ntmps57
 go_upto_region 1 with fail
 clear hw1
 go_wp2_with fail
 go_loopw [13] (fun vi wr=>∃ (k:Nat) (G:Sg),k<=m/\vi=.int .i64 k/\Z8 s (L.take k) g=(true,G)/\FrW s w0 g1 g2 lo G wr/\Zcy g1 g2 w1 wr) (fun vi _=>m-(intOf vi).toNat)
 case atStart=>exact⟨0,g,by omega,rfl,rfl,W1.out,Zf0 _ _ _⟩
 case round =>
 obtain⟨k,G,hk,rfl,hG,hw,hrs⟩:=hrel;have RS:=Za hrs;by_cases hlt:k<m
 case neg =>
  have hall:Z8 s L g=(true,G):=by rw[<- hG,Qj (by rw[hm.out];omega)]
  have he1:Hid (Zqq s L g w0 g1 g2 lo w (.returned (.bool true)) wr):=Za (by
   unfold Zqq;rw[hall]
   exact⟨rfl,fun _=>hw,hw.bel,Z5 R1.out hrs⟩)
  clear hw hrs hG hall
  go_wp2_with fail
  go_ret;exact he1.out
 obtain⟨a,ha⟩:∃ a,L[k]? = some a:=⟨_,Qf (by rw[hm.out];exact hlt)⟩
 obtain⟨ad,rfl,hwf,hcl⟩:=hat.out k a ha;have ca:=hcl wr (Z5 R1.out hrs);obtain⟨lv,U,m0,c0,hlk⟩:=Zqi hw.map hwf;obtain⟨bb,hbb⟩:∃ q,decide (a∈G.1)=q:=⟨_,rfl⟩
 rw[hbb] at hlk;obtain⟨w3,hw3,b3,hs3,hB3⟩:=Yf wr (.int .i64 lv) (.slice U m0 c0) 59;obtain⟨hno,hyes⟩:=htk.out k a G ha hG;have k3:=Ya hrs K1.out (by have:=hlo.out;have:=E0.out.lt1;omega) (by have:=hlo.out;have:=E0.out.lt2;omega);have K3:=Za ((hB3.block _ (Qa.1 k3).1).trans k3);have W3:=Za (hw.below hB3);have R3:=Za (Z5 hrs (Xy hB3):Zcy g1 g2 w1 w3);have hGg:=Za (hok.out k G hG)
 have hbud:=Za (show n+(L.take k).length*400000+400000<=800000000 by
  have h1:=hn'.out;have h2:=Qa2 k L;have h3:=hm.out;have:=P8 400000 (show (L.take k).length+1<=m by omega)
  omega)
 obtain⟨s0,s1,s2,s3,s4,s5,s6,s7,s8,s9,s10,_⟩:=Zg k3;have hnext:=Za hyes;have hbad:=Za hno;have i4:(0:Int)<=(k:Int):=by omega
 have i5:(k:Int)<(m:Int):=by omega
 replace hs3:=Za hs3;clear hw hrs hB3 b3 k3 hno hyes hwf hcl hG ha
 go_upto_region 4 with fail
 clear ca
 go_upto_region 5 with fail
 clear hlk hw3 s0 s1 s2 s3 s4 s5 s6 s7 s8 s9 s10;cases bb with
 | true =>
  have hway:Hid (a∈G.1\/ckE s a=0):=Za (.inl (of_decide_eq_true hbb));have W4:=W3;have R4:=R3;have K4:=K3;clear hbb W3 R3 K3;obtain⟨w4,rfl⟩:∃ w4:Qbh,w4=w3:=⟨_,rfl⟩
  go_upto_region 9 with fail
  have hgo:a∈G.1\/ckE s a=0:=hway.out;obtain⟨h8,h256,v1,v2,v3,v4,v5,_,_⟩:=Zj9 hgo hGg.out;have hnx:=Za (hnext.out hgo);obtain⟨q,rfl⟩:∃ q:Nat,a=q:=⟨a.toNat,by omega⟩
  have q256:q<256:=by omega
  have hfew:=hGg.out.few q;have hbd:=hbud.out;obtain⟨zz,hzz⟩:∃ z,G.2[q]?.getD 0=z:=⟨_,rfl⟩
  have hc:=Zch W4.out.mrk q256;have hfr:=Znb W4.out.mrk q;obtain⟨W5,R45⟩:=W4.out.up E0.out (q:=q) (y:=zz+1) (by rw[hzz]);rw[hzz] at hc hfew;have wrap1:IntKind.i64.wrap (zz+1)=zz+1:=Qo _ (by omega);obtain⟨w5,hw5⟩:∃ w5,w4.setCell ⟨g2,q,none⟩ (.int .i64 (zz+1))=w5:=⟨_,rfl⟩
  rw[hw5] at W5 R45;have X5:=Za W5;have R5:=Za (Z5 R4.out R45:Zcy g1 g2 w1 w5);have k5:=Ya R45 K4.out (by have:=hlo.out;have:=E0.out.lt1;omega) (by have:=hlo.out;have:=E0.out.lt2;omega);obtain⟨s0,s1,s2,s3,s4,s5,s6,s7,s8,s9,s10,_⟩:=Zg K4.out;have j1:(0:Int)<=(q:Int):=by omega
  have j2:(q:Int)<256:=by omega
  have hpow:7 ^ ((rmV s (q:Int)).1.toNat+1)<=7 ^ 6:=Qv (by decide) (by omega);have hrec:=Za (Zvt s (rmV s (q:Int)).1.toNat v4 (q:Int) (G.1,frU G.2 q) _ w0 q0 q1 q2 q3 q4 q5 q6 q7 q8 g1 g2 lo w5 v3 v1 (by omega) v2 E0.out X5.out);replace hzz:=Za hzz;clear hgo h8 h256 v1 v2 v3 v4 v5 hfew hbd W5 R45 hpow
  go_upto_region 10 with fail
  clear hw5 hc hfr s0 s1 s2 s3 s4 s5 s6 s7 s8 s9 s10;obtain⟨s0,s1,s2,s3,s4,s5,s6,s7,s8,s9,s10,_⟩:=Zg k5;clear k5
  go_wp2_with fail
  with_reducible refine hrec.out.mono ?_
  rintro e w6 ⟨rfl,hW6,hR6⟩;have hA:=Za hW6;have hR:=Za (Z5 R5.out hR6);clear hW6 hR6
  go_wp2_with fail
  go_roundw
  case rel=>exact⟨k+1,_,by omega,by go_num,hnx.out,hA.out,hR.out⟩
  case measure=>simp[intOf];omega
 | false =>
  have hna:=Za (of_decide_eq_false hbb);have S3:=Za (W3.out.sto E0.out);obtain⟨s0,s1,s2,s3,s4,s5,s6,s7,s8,s9,s10,_⟩:=Zg K3.out;obtain⟨E1,hE1⟩:∃ q,ckE s a=q:=⟨_,rfl⟩
  obtain⟨H1,hH1⟩:∃ q,ckH s a=q:=⟨_,rfl⟩
  have hcall:=hCk.out _ a w3 S3.out;rw[hE1,hH1] at hcall;replace hcall:=Za hcall;clear hbb
  go_upto_region 6 with fail
  go_wp2_with fail
  with_reducible refine hcall.out.mono ?_
  rintro e w4 ⟨rfl,hb4⟩;have W4:=Za (W3.out.below hb4);have R4:=Za (Z5 R3.out (Xy hb4):Zcy g1 g2 w1 w4);have K4:=Za ((hb4.block _ (Qa.1 K3.out).1).trans K3.out);clear hb4 S3 hcall s0 s1 s2 s3 s4 s5 s6 s7 s8 s9 s10 K3 R3 W3;by_cases he:E1=0
  ·subst he
   have hway:Hid (a∈G.1\/ckE s a=0):=Za (.inr hE1);replace hE1:=Za hE1
   go_upto_region 9 with fail
   have hgo:a∈G.1\/ckE s a=0:=hway.out;obtain⟨h8,h256,v1,v2,v3,v4,v5,_,_⟩:=Zj9 hgo hGg.out;have hnx:=Za (hnext.out hgo);obtain⟨q,rfl⟩:∃ q:Nat,a=q:=⟨a.toNat,by omega⟩
   have q256:q<256:=by omega
   have hfew:=hGg.out.few q;have hbd:=hbud.out;obtain⟨zz,hzz⟩:∃ z,G.2[q]?.getD 0=z:=⟨_,rfl⟩
   have hc:=Zch W4.out.mrk q256;have hfr:=Znb W4.out.mrk q;obtain⟨W5,R45⟩:=W4.out.up E0.out (q:=q) (y:=zz+1) (by rw[hzz]);rw[hzz] at hc hfew;have wrap1:IntKind.i64.wrap (zz+1)=zz+1:=Qo _ (by omega);obtain⟨w5,hw5⟩:∃ w5,w4.setCell ⟨g2,q,none⟩ (.int .i64 (zz+1))=w5:=⟨_,rfl⟩
   rw[hw5] at W5 R45;have X5:=Za W5;have R5:=Za (Z5 R4.out R45:Zcy g1 g2 w1 w5);have k5:=Ya R45 K4.out (by have:=hlo.out;have:=E0.out.lt1;omega) (by have:=hlo.out;have:=E0.out.lt2;omega);obtain⟨s0,s1,s2,s3,s4,s5,s6,s7,s8,s9,s10,_⟩:=Zg K4.out;have j1:(0:Int)<=(q:Int):=by omega
   have j2:(q:Int)<256:=by omega
   have hpow:7 ^ ((rmV s (q:Int)).1.toNat+1)<=7 ^ 6:=Qv (by decide) (by omega);have hrec:=Za (Zvt s (rmV s (q:Int)).1.toNat v4 (q:Int) (G.1,frU G.2 q) _ w0 q0 q1 q2 q3 q4 q5 q6 q7 q8 g1 g2 lo w5 v3 v1 (by omega) v2 E0.out X5.out);replace hzz:=Za hzz;clear hgo h8 h256 v1 v2 v3 v4 v5 hfew hbd W5 R45 hpow
   go_upto_region 10 with fail
   clear hw5 hc hfr s0 s1 s2 s3 s4 s5 s6 s7 s8 s9 s10;obtain⟨s0,s1,s2,s3,s4,s5,s6,s7,s8,s9,s10,_⟩:=Zg k5;clear k5
   go_wp2_with fail
   with_reducible refine hrec.out.mono ?_
   rintro e w6 ⟨rfl,hW6,hR6⟩;have hA:=Za hW6;have hR:=Za (Z5 R5.out hR6);clear hW6 hR6
   go_wp2_with fail
   go_roundw
   case rel=>exact⟨k+1,_,by omega,by go_num,hnx.out,hA.out,hR.out⟩
   case measure=>simp[intOf];omega
  ·have e1:(E1 != 0)=true:=by simpa using he
   have hF:=hbad.out (fun h=>h.elim hna.out fun h=>he (hE1 ▸ h))
   have he1:Hid (Zqq s L g w0 g1 g2 lo w (.returned (.bool false)) w4):=Za (by
    unfold Zqq;rw[hF]
    exact⟨rfl,fun h=>(by cases h),W4.out.bel,Z5 R1.out R4.out⟩)
   replace hE1:=Za hE1;clear hF he
   go_wp2_with fail
   go_ret;exact he1.out}
abbrev Vl:=Int×Int×Bool×Int
def Ym (v:Vl):It:=((1,v.1,0),0,le 2 v.2.1++([if v.2.2.1 then 1 else 0]++le 4 v.2.2.2))
def Zeg (x:It):Option Vl :=
 if x.2.2.length=7/\Ym (x.1.2.1,num (x.2.2.take 2),decide (x.2.2[2]?.getD 0=1),num (x.2.2.drop 3))=x then some (x.1.2.1,num (x.2.2.take 2),decide (x.2.2[2]?.getD 0=1),num (x.2.2.drop 3)) else none
theorem Zgd (v:Vl):(Ym v).2.2.length=7:=by simp[Ym,Z7]
theorem Zow {x:It}{v:Vl}(h:Zeg x=some v):Ym v=x:=by{
 unfold Zeg at h;split at h
 ·rename_i hh
  cases h;exact hh.2
 ·cases h}
theorem Z4p {x:It}{v:Vl}(hx:InI x) (h:Zeg x=some v):0<=v.1/\v.1<4294967296/\0<=v.2.1/\v.2.1<65536/\0<=v.2.2.2/\v.2.2.2<4294967296:=by{
 have hk:=Zow h;unfold Zeg at h;split at h
 ·rename_i hh
  cases h;obtain⟨⟨⟨i0,i1⟩,_⟩,_⟩:=hx;have a1:=Za2 (x.2.2.take 2);have a2:=Zlx (x.2.2.take 2);have a3:=Za2 (x.2.2.drop 3);have a4:=Zlx (x.2.2.drop 3);rw[Qn,hh.1] at a2;rw[Pn,hh.1] at a4;exact⟨i0,by omega,a1,a2,a3,a4⟩
 ·cases h}
abbrev vlV (v:Vl):Qbi:=.agg #[.int .u32 v.1,.int .i64 v.2.1,.bool v.2.2.1,.int .u32 v.2.2.2]
structure InV (v:Vl):Prop where
 id:InU v.1
 root:0<=v.2.1/\v.2.1<65536
 from_:InU v.2.2.2
theorem Zja (x:Int) (w:Qbh):Qbn Tryz.prog 35 #[.int .u32 x] w fun e w'=>e=.returned (.agg #[.int .u8 1,.int .u32 x,.int .u32 0])/\Qbp w.heap.size w w':=by{
 obtain⟨w1,hw1,_,_,_,hs1,hB1,b1⟩:=Xb w (.int .u8 0) (.int .u32 0) (.int .u32 0) 77;obtain⟨k0,k1,k2,kf,_⟩:=Zj b1;obtain⟨w2,hw2,g2,gr2,_⟩:=Yg (a':=.int .u8 1) (b':=.int .u32 x) (c':=.int .u32 0) b1;obtain⟨f1,f2,f3,_⟩:=Zj g2;have hB2:=Za (hB1.grown gr2 hB1.size (fun k e=>by cases e;exact Qe _));clear b1 g2 gr2 hB1
 go_enter Tryz.func35,Tryz.ntmps35
 go_upto_region 1 with fail
 clear hw1
 go_wp2_with fail
 exact Qbl (v:=.agg #[.int .u8 1,.int .u32 x,.int .u32 0]) (by simp[results,Tryz.results35,go_sem,f1,f2,f3]) rfl ⟨rfl,hB2.out⟩}
theorem Zso {v:Vl}(h:InV v):InI (Ym v):=⟨⟨h.id,Int.le_refl 0,show (0:Int)<4294967296 by decide⟩,show (-9223372036854775808:Int)<=0 by decide,show (0:Int)<=9223372036854775807 by decide⟩
theorem Zrg (v:Vl) (hv:InV v) (w:Qbh) :
  Qbn Tryz.prog 31 #[vlV v] w fun e w'=>∃ A c,e=.returned (.tuple #[itV (Ym v) (.slice A 7 c),.int .i64 0])/\Itm (New w.heap.size w') w' (itV (Ym v) (.slice A 7 c)) (Ym v)/\Qbp w.heap.size w w':=by{
 obtain⟨i,r,f,o⟩:=v;obtain⟨⟨i0,i1⟩,⟨r0,r1⟩,⟨o0,o1⟩⟩:=id hv
 dsimp only at i0 i1 r0 r1 o0 o1
 have hin:=Za (Zso hv);obtain⟨w1,hw1,b1,hs1,hB1⟩:=Xp w (.int .u32 i) (.int .i64 r) (.bool f) (.int .u32 o) 40;obtain⟨w2,hw2,_,_,_,_,_,hs2,hB2,b2⟩:=Z0 w1 (.int .u8 0) (.int .u32 0) (.int .u32 0) (.int .i64 0) (.slice none 0 0) 79;have K1:=Za ((hB2.block _ (Qa.1 b1).1).trans b1);have K2:=Za b2;have B2:=Za (hB1.trans (hB2.mono hB1.size));have hs1':=Za hs1;have hs2':=Za hs2;obtain⟨k0,k1,k2,k3,_⟩:=Ze K1.out;clear b1 b2 hB1 hB2 hs1 hs2
 go_enter Tryz.func31,Tryz.ntmps31
 go_upto_region 1 with fail
 clear hw2 hw1
 go_wp2_with fail
 with_reducible refine(Zzz r r0 r1 _).mono ?_
 rintro e w3 ⟨A3,rfl,y3,hb3⟩;have y3':=Za y3;have l3:=Za hb3.size;have K1':=Za ((hb3.block _ (Qa.1 K1.out).1).trans K1.out);have K2':=Za ((hb3.block _ (Qa.1 K2.out).1).trans K2.out);have B3:=Za (B2.out.trans (hb3.mono B2.out.size));clear k0 k1 k2 k3 y3 hb3 K1 K2 B2;obtain⟨k0,k1,k2,k3,_⟩:=Ze K1'.out;obtain⟨fz,hfz⟩:∃ q:UInt8,(if f then (1:UInt8) else 0)=q:=⟨_,rfl⟩
 obtain⟨fn,hfn⟩:∃ q:Int,(fz.toNat:Int)=q:=⟨_,rfl⟩
 have hval:Hid (Ym (i,r,f,o)=((1,i,0),0,[le 2 r,[fz],le 4 o].flatten)):=Za (by
  rw[<- hfz];unfold Ym
  cases f <;> simp)
 have hlen:Hid (Zg9 [le 2 r,[fz],le 4 o]=7):=Za (by simp[Zg9,Z7]);cases f with
 | true =>
  simp only[if_true] at hfz;subst hfz;obtain rfl:fn=1:=by rw[<- hfn];rfl
  have HU:=Za hfn;clear hfn
  go_upto_region 7 with fail
  refine Xh (ops' := ?opsLatea) (by kernel_rfl) [] ?hea (by kernel_rfl) (fun d _ _ _ _ h=>by cases d <;> exact h) 12 (fun W=>Qbp w3.heap.size w3 W) (fun j=>match j with
    | 5=>some (fun v W=>rBy (Old W) W [v] [1])
    | 8=>some (fun v W=>rBy (Old W) W [v] (le 4 o))
    | 9=>some (fun v W=>rSl 1 rBy (Old W) W [v] [le 2 r,[1],le 4 o])
    | 10=>some (fun v W=>W.ownsRow w3.heap.size 5 1 v 7 (u8s [le 2 r,[1],le 4 o].flatten))
    | _=>none) (fun j=>match j with
    | 2=>some (.agg #[.int .u8 1,.int .u32 i,.int .u32 0])
    | _=>none) ?h1 ?h2 ?h3 (Qb _ _).drew (fun w w' h hb=>h.trans (hb.mono h.size)) ?tst ?_
  case hea =>
   simp[Z9];rfl
  case h1=>decide
  case h2=>kernel_rfl
  case h3=>kernel_rfl
  case tst =>
   intro j φ x W W' hp hx hb
   match j,hp with
   | 5,hp=>cases hp;exact Zf.old hx hb
   | 8,hp=>cases hp;exact Zf.old hx hb
   | 9,hp=>cases hp;exact(Zz Zf).old hx hb
   | 10,hp=>cases hp;exact Zx hx hb
  simp only[Po,Q7,Pp,Qz]
  repeat (first
   | (refine wpAs_skip rfl ?_;simp only[Qc,Zb,Zc,Zd])
   | (refine wpAs_pure (v := ?_) rfl rfl ?_ ?_;rotate_left;(intro W hC hE;clear hE;(obtain⟨z0,z1,z2,z3,_⟩:=Ze ((hC.block _ (Qa.1 K1'.out).1).trans K1'.out));clear hC;go_simp;first | done | with_reducible rfl);simp only[Qc,Zb,Zc,Zd]))
  refine wpAs_fixed rfl rfl rfl ?_ ?_
  ·intro W hC hE
   refine does_enter (f:=35) (args:=#[.int .u32 i]) ?_ ?_
   ·go_simp
   ·refine(Zja i W).mono ?_
    (rintro e W' ⟨rfl,hg⟩)
    exact⟨_,rfl,rfl,hg⟩
  simp only[Qc,Zb,Zc,Zd]
  repeat (first
   | (refine wpAs_skip rfl ?_;simp only[Qc,Zb,Zc,Zd])
   | (refine wpAs_pure (v := ?_) rfl rfl ?_ ?_;rotate_left;(intro W hC hE;clear hE;skip;clear hC;go_simp;first | done | with_reducible rfl);simp only[Qc,Zb,Zc,Zd]))
  refine wpAs_act rfl rfl ?_ ?_
  ·intro W hC hE
   clear hE hC;have hy2:=Za (Zfn W 5 (1:UInt8) (1:Int) rfl)
   go_simp
   exact⟨hy2.out,(Qb _ _).alloc (Qe _) _⟩
  simp only[Qc,Zb,Zc,Zd,envAdd];intro x5
  repeat (first
   | (refine wpAs_skip rfl ?_;simp only[Qc,Zb,Zc,Zd])
   | (refine wpAs_pure (v := ?_) rfl rfl ?_ ?_;rotate_left;(intro W hC hE;clear hE;(obtain⟨z0,z1,z2,z3,_⟩:=Ze ((hC.block _ (Qa.1 K1'.out).1).trans K1'.out));clear hC;go_simp;first | done | with_reducible rfl);simp only[Qc,Zb,Zc,Zd]))
  refine wpAs_act rfl rfl ?_ ?_
  ·intro W hC hE
   clear hE;refine does_enter (f:=67) (args:=#[.int .u32 o]) ?_ ?_
   ·go_simp
   ·refine(Zjf o o0 o1 W).mono ?_
    rintro e W' ⟨_,_,rfl,hy,hb⟩;exact⟨_,rfl,hy,hb⟩
  simp only[Qc,Zb,Zc,Zd,envAdd];intro x8;refine wpAs_act rfl rfl ?_ ?_
  ·intro W hC hE
   have y8:=hE.1 rfl;have y5:=hE.2.1 rfl
   have hl5:=Za (Zjo W 27 [.slice A3 2 2,x5,x8] [le 2 r,[1],le 4 o] rfl (by simp) (fun j v x h1 h2=>by
    match j,h1,h2 with
    | 0,h1,h2=>cases h1;cases h2;exact Zf.old y3'.out hC
    | 1,h1,h2=>cases h1;cases h2;exact y5
    | 2,h1,h2=>cases h1;cases h2;exact y8))
   obtain⟨_,_,rfl,_⟩:=Zp y5;obtain⟨_,_,rfl,_⟩:=Zp y8;clear hE hC y5 y8
   go_simp
   exact⟨hl5.out,(Qb _ _).alloc (Qe _) _⟩
  simp only[Qc,Zb,Zc,Zd,envAdd];intro x9;refine wpAs_act rfl rfl ?_ ?_
  ·intro W hC hE
   have y9:=hE.1 rfl;refine does_enter (f:=66) (args:=#[x9]) ?_ ?_
   ·clear hE hC
    obtain⟨_,_,e,_⟩:=U7 y9;cases e;clear y9
    go_simp
   ·refine(Zek x9 _ W (by rw[hlen.out];omega) y9).mono ?_
    rintro e W' ⟨u,rfl,ho,hb⟩;rw[hlen.out] at ho;exact⟨_,rfl,Zai ho hC.size,hb⟩
  simp only[Qc,Zb,Zc,Zd,envAdd];intro x10;refine wpAs_pure (v:=.agg #[.int .u8 1,.int .u32 i,.int .u32 0,.int .i64 0,x10]) rfl rfl ?_ ?_
  ·intro W hC hE
   obtain⟨_,_,rfl,_⟩:=Yj (hE.1 rfl);clear hE hC
   go_simp
  simp only[Qc,Zb,Zc,Zd];refine wpAs_end fun W hC hE=> ?_
  have o10:=hE.1;obtain⟨A,c,rfl,_⟩:=Yj o10;have hb10:=Zcm o10;have K2w:=(hC.block _ (Qa.1 K2'.out).1).trans K2'.out;obtain⟨z0,z1,z2,z3,z4,zf,_⟩:=Zn K2w;obtain⟨W9,hW9,g9,gr9,gs9⟩:=X9 (u0:=.int .u8 1) (u1:=.int .u32 i) (u2:=.int .u32 0) (u3:=.int .i64 0) (u4:=.slice A 7 c) K2w;obtain⟨f0,f1,f2,f3,f4,_⟩:=Zn g9;have BW:=B3.out.trans (hC.mono B3.out.size);have hle:w.heap.size<=w1.heap.size:=by have:=hs1'.out;omega
  have hB9:=Za (BW.grown gr9 BW.size (fun q e=>by cases e;exact hle));have hlt:w1.heap.size<w3.heap.size:=by have:=hs2'.out;have:=l3.out;omega
  have hfin:Hid (Itm (New w.heap.size W9) W9 (itV (Ym (i,r,_,o)) (.slice A 7 c)) (Ym (i,r,_,o))):=Za ⟨_,rfl,hin.out,by
   rw[hval.out]
   exact Zf.mono (Zf.grown hb10 gr9 (fun q e=>by cases e;exact hlt)) (Qd hle (Nat.le_of_lt hlt))⟩
  clear o10 hb10 K2w g9 gr9 gs9 BW hC hE k0 k1 k2 k3
  go_wp2_with fail
  exact Qbl (v:=.tuple #[itV (Ym (i,r,_,o)) (.slice A 7 c),.int .i64 0]) (by simp[results,Tryz.results31,go_sem,f0,f1,f2,f3,f4,Ym,itV]) rfl ⟨A,c,rfl,hfin.out,hB9.out⟩
 | false =>
  simp only[Bool.false_eq_true,if_false] at hfz;subst hfz;obtain rfl:fn=0:=by rw[<- hfn];rfl
  have HU:=Za hfn;clear hfn
  go_upto_region 7 with fail
  refine Xh (ops' := ?opsLateb) (by kernel_rfl) [] ?heb (by kernel_rfl) (fun d _ _ _ _ h=>by cases d <;> exact h) 12 (fun W=>Qbp w3.heap.size w3 W) (fun j=>match j with
    | 5=>some (fun v W=>rBy (Old W) W [v] [0])
    | 8=>some (fun v W=>rBy (Old W) W [v] (le 4 o))
    | 9=>some (fun v W=>rSl 1 rBy (Old W) W [v] [le 2 r,[0],le 4 o])
    | 10=>some (fun v W=>W.ownsRow w3.heap.size 5 1 v 7 (u8s [le 2 r,[0],le 4 o].flatten))
    | _=>none) (fun j=>match j with
    | 2=>some (.agg #[.int .u8 1,.int .u32 i,.int .u32 0])
    | _=>none) ?h1 ?h2 ?h3 (Qb _ _).drew (fun w w' h hb=>h.trans (hb.mono h.size)) ?tst ?_
  case heb =>
   simp[Z9];rfl
  case h1=>decide
  case h2=>kernel_rfl
  case h3=>kernel_rfl
  case tst =>
   intro j φ x W W' hp hx hb
   match j,hp with
   | 5,hp=>cases hp;exact Zf.old hx hb
   | 8,hp=>cases hp;exact Zf.old hx hb
   | 9,hp=>cases hp;exact(Zz Zf).old hx hb
   | 10,hp=>cases hp;exact Zx hx hb
  simp only[Po,Q7,Pp,Qz]
  repeat (first
   | (refine wpAs_skip rfl ?_;simp only[Qc,Zb,Zc,Zd])
   | (refine wpAs_pure (v := ?_) rfl rfl ?_ ?_;rotate_left;(intro W hC hE;clear hE;(obtain⟨z0,z1,z2,z3,_⟩:=Ze ((hC.block _ (Qa.1 K1'.out).1).trans K1'.out));clear hC;go_simp;first | done | with_reducible rfl);simp only[Qc,Zb,Zc,Zd]))
  refine wpAs_fixed rfl rfl rfl ?_ ?_
  ·intro W hC hE
   refine does_enter (f:=35) (args:=#[.int .u32 i]) ?_ ?_
   ·go_simp
   ·refine(Zja i W).mono ?_
    (rintro e W' ⟨rfl,hg⟩)
    exact⟨_,rfl,rfl,hg⟩
  simp only[Qc,Zb,Zc,Zd]
  repeat (first
   | (refine wpAs_skip rfl ?_;simp only[Qc,Zb,Zc,Zd])
   | (refine wpAs_pure (v := ?_) rfl rfl ?_ ?_;rotate_left;(intro W hC hE;clear hE;skip;clear hC;go_simp;first | done | with_reducible rfl);simp only[Qc,Zb,Zc,Zd]))
  refine wpAs_act rfl rfl ?_ ?_
  ·intro W hC hE
   clear hE hC;have hy2:=Za (Zfn W 5 (0:UInt8) (0:Int) rfl)
   go_simp
   exact⟨hy2.out,(Qb _ _).alloc (Qe _) _⟩
  simp only[Qc,Zb,Zc,Zd,envAdd];intro x5
  repeat (first
   | (refine wpAs_skip rfl ?_;simp only[Qc,Zb,Zc,Zd])
   | (refine wpAs_pure (v := ?_) rfl rfl ?_ ?_;rotate_left;(intro W hC hE;clear hE;(obtain⟨z0,z1,z2,z3,_⟩:=Ze ((hC.block _ (Qa.1 K1'.out).1).trans K1'.out));clear hC;go_simp;first | done | with_reducible rfl);simp only[Qc,Zb,Zc,Zd]))
  refine wpAs_act rfl rfl ?_ ?_
  ·intro W hC hE
   clear hE;refine does_enter (f:=67) (args:=#[.int .u32 o]) ?_ ?_
   ·go_simp
   ·refine(Zjf o o0 o1 W).mono ?_
    rintro e W' ⟨_,_,rfl,hy,hb⟩;exact⟨_,rfl,hy,hb⟩
  simp only[Qc,Zb,Zc,Zd,envAdd];intro x8;refine wpAs_act rfl rfl ?_ ?_
  ·intro W hC hE
   have y8:=hE.1 rfl;have y5:=hE.2.1 rfl
   have hl5:=Za (Zjo W 27 [.slice A3 2 2,x5,x8] [le 2 r,[0],le 4 o] rfl (by simp) (fun j v x h1 h2=>by
    match j,h1,h2 with
    | 0,h1,h2=>cases h1;cases h2;exact Zf.old y3'.out hC
    | 1,h1,h2=>cases h1;cases h2;exact y5
    | 2,h1,h2=>cases h1;cases h2;exact y8))
   obtain⟨_,_,rfl,_⟩:=Zp y5;obtain⟨_,_,rfl,_⟩:=Zp y8;clear hE hC y5 y8
   go_simp
   exact⟨hl5.out,(Qb _ _).alloc (Qe _) _⟩
  simp only[Qc,Zb,Zc,Zd,envAdd];intro x9;refine wpAs_act rfl rfl ?_ ?_
  ·intro W hC hE
   have y9:=hE.1 rfl;refine does_enter (f:=66) (args:=#[x9]) ?_ ?_
   ·clear hE hC
    obtain⟨_,_,e,_⟩:=U7 y9;cases e;clear y9
    go_simp
   ·refine(Zek x9 _ W (by rw[hlen.out];omega) y9).mono ?_
    rintro e W' ⟨u,rfl,ho,hb⟩;rw[hlen.out] at ho;exact⟨_,rfl,Zai ho hC.size,hb⟩
  simp only[Qc,Zb,Zc,Zd,envAdd];intro x10;refine wpAs_pure (v:=.agg #[.int .u8 1,.int .u32 i,.int .u32 0,.int .i64 0,x10]) rfl rfl ?_ ?_
  ·intro W hC hE
   obtain⟨_,_,rfl,_⟩:=Yj (hE.1 rfl);clear hE hC
   go_simp
  simp only[Qc,Zb,Zc,Zd];refine wpAs_end fun W hC hE=> ?_
  have o10:=hE.1;obtain⟨A,c,rfl,_⟩:=Yj o10;have hb10:=Zcm o10;have K2w:=(hC.block _ (Qa.1 K2'.out).1).trans K2'.out;obtain⟨z0,z1,z2,z3,z4,zf,_⟩:=Zn K2w;obtain⟨W9,hW9,g9,gr9,gs9⟩:=X9 (u0:=.int .u8 1) (u1:=.int .u32 i) (u2:=.int .u32 0) (u3:=.int .i64 0) (u4:=.slice A 7 c) K2w;obtain⟨f0,f1,f2,f3,f4,_⟩:=Zn g9;have BW:=B3.out.trans (hC.mono B3.out.size);have hle:w.heap.size<=w1.heap.size:=by have:=hs1'.out;omega
  have hB9:=Za (BW.grown gr9 BW.size (fun q e=>by cases e;exact hle));have hlt:w1.heap.size<w3.heap.size:=by have:=hs2'.out;have:=l3.out;omega
  have hfin:Hid (Itm (New w.heap.size W9) W9 (itV (Ym (i,r,_,o)) (.slice A 7 c)) (Ym (i,r,_,o))):=Za ⟨_,rfl,hin.out,by
   rw[hval.out]
   exact Zf.mono (Zf.grown hb10 gr9 (fun q e=>by cases e;exact hlt)) (Qd hle (Nat.le_of_lt hlt))⟩
  clear o10 hb10 K2w g9 gr9 gs9 BW hC hE k0 k1 k2 k3
  go_wp2_with fail
  exact Qbl (v:=.tuple #[itV (Ym (i,r,_,o)) (.slice A 7 c),.int .i64 0]) (by simp[results,Tryz.results31,go_sem,f0,f1,f2,f3,f4,Ym,itV]) rfl ⟨A,c,rfl,hfin.out,hB9.out⟩}
theorem Zif {i r o:Int}{f:Bool}(hv:InV (i,r,f,o)) (w:Qbh) :
  Qbn Tryz.prog 31 #[.agg #[.int .u32 i,.int .i64 r,.bool f,.int .u32 o]] w fun e w'=>∃ A c,e=.returned (.tuple #[.agg #[.int .u8 1,.int .u32 i,.int .u32 0,.int .i64 0,.slice A 7 c],.int .i64 0])/\Itm (New w.heap.size w') w' (.agg #[.int .u8 1,.int .u32 i,.int .u32 0,.int .i64 0,.slice A 7 c]) (Ym (i,r,f,o))/\Qbp w.heap.size w w':=Zrg _ hv w
def Vf:Vl:=(0,0,false,0)
def Zt6 (x:It):Int:=if (Zeg x).isSome then 0 else 8
def Ztq (x:It):Vl:=(Zeg x).getD Vf
theorem Zv3 {x:It}(h:x.2.2.length<7):Zeg x=none:=by
 unfold Zeg;rw[if_neg (fun e=>by omega)]
theorem Zxg {x:It}(h:7<=x.2.2.length){f:Bool}(hf:decide (x.2.2[2]?.getD 0=1)=f):Zeg x=if Ym (x.1.2.1,gv 2 x.2.2 0,f,gv 4 x.2.2 3)=x then some (x.1.2.1,gv 2 x.2.2 0,f,gv 4 x.2.2 3) else none:=by{
 subst hf;have e2:gv 2 x.2.2 0=num (x.2.2.take 2):=by rw[Zgg ⟨by omega,by omega⟩];rfl
 have e4:gv 4 x.2.2 3=num ((x.2.2.drop 3).take 4):=by rw[Zgg ⟨by omega,by omega⟩];rfl
 rw[e2,e4];by_cases h7:x.2.2.length=7
 ·rw[Qj (l:=x.2.2.drop 3) (by rw[Pn];omega)]
  unfold Zeg;by_cases e:Ym (x.1.2.1,num (x.2.2.take 2),decide (x.2.2[2]?.getD 0=1),num (x.2.2.drop 3))=x
  ·rw[if_pos ⟨h7,e⟩,if_pos e]
  ·rw[if_neg (fun hh=>e hh.2),if_neg e]
 ·rw[if_neg (fun e=>h7 (by rw[<- e,Zgd]))]
  unfold Zeg;rw[if_neg (fun e=>h7 e.1)]}
theorem Zmg (v:Qbi) (x:It) (w:Qbh) (hx:Itm (Old w) w v x) :
  Qbn Tryz.prog 111 #[v] w fun e w'=>e=.returned (.tuple #[vlV (Ztq x),.int .i64 (Zt6 x)])/\Qbp w.heap.size w w':=by{
 obtain⟨A,c,rfl,hin,l1,m1,hb⟩:=hx.open;obtain⟨n,hn⟩:∃ n,x.2.2.length=n:=⟨_,rfl⟩
 have hn':=Za hn;obtain⟨_,_,e,_,_,hbyt⟩:=Xt (B:=w.heap.size) (fun p hp=>hp) hb;cases e;have hbad:Hid (n<7->Zt6 x=8/\Ztq x=Vf):=Za fun h=>by
  have:=Zv3 (x:=x) (by omega);unfold Zt6 Ztq;rw[this];exact⟨rfl,rfl⟩
 have hgood:Hid (7<=n->∀ f,decide (x.2.2[2]?.getD 0=1)=f->Zeg x=if Ym (x.1.2.1,gv 2 x.2.2 0,f,gv 4 x.2.2 3)=x then some (x.1.2.1,gv 2 x.2.2 0,f,gv 4 x.2.2 3) else none):=Za fun h f hf=>Zxg (by omega) hf
 have hg2:Hid (0<=gv 2 x.2.2 0/\gv 2 x.2.2 0<65536):=Za (Zdt 2 x.2.2 0);have hg4:Hid (0<=gv 4 x.2.2 3/\gv 4 x.2.2 3<4294967296):=Za (Zdt 4 x.2.2 3);have hge2:Hid (ge 2 n 0=if 2<=n then 0 else 8):=Za (by unfold ge;congr 1;apply propext;omega);have hge4:Hid (ge 4 n 3=if 7<=n then 0 else 8):=Za (by unfold ge;congr 1;apply propext;omega);obtain⟨w1,hw1,_,_,_,_,_,hs1,hB1,b1⟩:=Z0 w (.int .u8 (x.1.1.toNat:Int)) (.int .u32 x.1.2.1) (.int .u32 x.1.2.2) (.int .i64 x.2.1) (.slice A x.2.2.length c) 79;obtain⟨w2,hw2,b2,hs2,hB2⟩:=Xp w1 (.int .u32 0) (.int .i64 0) (.bool false) (.int .u32 0) 40;have K1:=(hB2.block _ (Qa.1 b1).1).trans b1;have K2:=Za b2;have B2:=Za (hB1.trans (hB2.mono hB1.size));have HY:=Za hbyt;have HX:=Za hx;have HIN:=Za hin;rw[hn] at l1 hw1 K1 HX ⊢;have K1:=Za K1;obtain⟨k0,k1,k2,k3,k4,_⟩:=Zn K1.out;have hs1':=Za hs1;have hs2':=Za hs2;obtain⟨rt,hrt⟩:∃ q,gv 2 x.2.2 0=q:=⟨_,rfl⟩
 obtain⟨fm,hfm⟩:∃ q,gv 4 x.2.2 3=q:=⟨_,rfl⟩
 rw[hrt] at hg2;rw[hfm] at hg4;rw[hrt,hfm] at hgood;obtain⟨E1,hE1⟩:∃ q,ge 2 n 0=q:=⟨_,rfl⟩
 obtain⟨E2,hE2⟩:∃ q,ge 4 n 3=q:=⟨_,rfl⟩
 rw[hE1] at hge2;rw[hE2] at hge4;obtain⟨OR,hOR⟩:∃ q,orN [E1,E2]=q:=⟨_,rfl⟩
 have hor:Hid ((7<=n->OR=0)/\(n<7->OR=8)):=Za (by
  rw[<- hOR,hge2.out,hge4.out];refine⟨fun h=> ?_,fun h=> ?_⟩
  ·rw[if_pos (by omega),if_pos h];rfl
  ·rw[if_neg (show ¬ 7<=n by omega)]
   split <;> rfl)
 have hEin:Hid (∀ y∈[E1,E2],Zdg y):=Za fun y hy=>by
  rw[hge2.out,hge4.out] at hy;simp only[Ql,List.not_mem_nil,or_false] at hy;rcases hy with rfl | rfl <;> (split <;> exact⟨by decide,by decide⟩)
 replace hn:=Za hn;replace hrt:=Za hrt;replace hfm:=Za hfm;replace hE1:=Za hE1;replace hE2:=Za hE2;replace hOR:=Za hOR;clear hx hb hbyt hin hs1 hs2 hB1 hB2 b1 b2
 go_enter Tryz.func111,Tryz.ntmps111
 go_upto_region 1 with fail
 clear hw1 hw2
 go_wp2_with fail
 with_reducible refine(Zhq A n c 0 x.2.2 hn' l1 m1 w2 ((HY.out.below B2.out).more B2.out.size)).mono ?_
 rintro e w3 ⟨rfl,hb3⟩;rw[hrt.out,hE1.out];have B3:=Za (B2.out.trans (hb3.mono B2.out.size));have J1:=Za ((hb3.block _ (Qa.1 K1.out).1).trans K1.out);have J2:=Za ((hb3.block _ (Qa.1 K2.out).1).trans K2.out);clear k0 k1 k2 k3 k4 hb3 K1 K2;obtain⟨k0,k1,k2,k3,k4,_⟩:=Zn J1.out
 go_wp2_with fail
 with_reducible refine(Zc0 A n c 3 x.2.2 hn' l1 m1 w3 ((HY.out.below B3.out).more B3.out.size)).mono ?_
 rintro e w4 ⟨rfl,hb4⟩;rw[hfm.out,hE2.out];have B4:=Za (B3.out.trans (hb4.mono B3.out.size));have L1:=(hb4.block _ (Qa.1 J1.out).1).trans J1.out;have L2:=(hb4.block _ (Qa.1 J2.out).1).trans J2.out;obtain⟨w5,hw5,h5⟩:∃ w5,w4.alloc (.cells #[.int .i64 E1,.int .i64 E2] 36)=w5/\Ziw (Old w5) w5 [.slice (some ⟨w4.heap.size,0,none⟩) 2 2] [E1,E2] :=
  ⟨_,rfl,Zfe w4 36 [E1,E2] _ rfl (by simp) hEin.out⟩
 have b5:Qbp w4.heap.size w4 w5:=by rw[<- hw5];exact(Qb _ _).alloc (Qe _) _
 have B5:=Za (B4.out.trans (b5.mono B4.out.size));have M1:=Za ((b5.block _ (Qa.1 L1).1).trans L1);have M2:=Za ((b5.block _ (Qa.1 L2).1).trans L2);replace h5:=Za h5;clear k0 k1 k2 k3 k4 hb4 J1 J2 L1 L2 b5
 go_wp2_with fail
 with_reducible refine(Zwl _ [E1,E2] _ h5.out).mono ?_
 rintro e w6 ⟨rfl,rfl⟩;rw[hOR.out];clear hw5;by_cases h7:7<=n
 case neg =>
  obtain rfl:OR=8:=hor.out.2 (by omega);obtain⟨v1,v2⟩:=hbad.out (by omega);obtain⟨u0,u1,u2,u3,uf,_⟩:=Ze M2.out;have v1':=Za v1;have v2':=Za v2;obtain⟨W9,hW9,g9,gr9,gs9⟩:=Zt (a':=.int .u32 0) (b':=.int .i64 0) (c':=.bool false) (d':=.int .u32 0) M2.out;obtain⟨f0,f1,f2,f3,_⟩:=Ze g9;have hB9:=Za (B5.out.grown gr9 B5.out.size (fun q e=>by cases e;have:=hs1'.out;omega));clear v1 v2 g9 gr9 gs9
  go_wp2_with fail
  refine Qbl (v:=.tuple #[vlV Vf,.int .i64 8]) (by simp[results,Tryz.results111,go_sem,f0,f1,f2,f3,vlV,Vf]) rfl ?_;rw[v1'.out,v2'.out];exact⟨rfl,hB9.out⟩
 obtain rfl:OR=0:=hor.out.1 h7;have hy5:=HX.out.below B5.out;obtain⟨_,_,_,_,_,hcl⟩:=Zp (by obtain⟨_,e,_,h⟩:=hy5;cases e;exact h:rBy (Old w5) w5 [.slice A n c] x.2.2);obtain⟨ad,rfl,_,hc2⟩:=hcl 2 (by have:=hn.out;omega);obtain⟨bv,hbv⟩:∃ q:UInt8,x.2.2[2]?.getD 0=q:=⟨_,rfl⟩
 rw[hbv,show ad.add 2=⟨ad.block,ad.off+2,none⟩ from rfl] at hc2;obtain⟨fb,hfb⟩:∃ q,((bv.toNat:Int)==1)=q:=⟨_,rfl⟩
 have hvol:=hgood.out h7 fb (by
  rw[hbv,<- hfb];by_cases e:bv=1
  ·subst e;rfl
  ·have:¬ ((bv.toNat:Int)=1):=fun h=>e (UInt8.toNat_inj.1 (by show bv.toNat=1;omega))
   rw[decide_eq_false e]
   exact(beq_false_of_ne this).symm)
 have HV:=Za hvol;have hiv:InV (x.1.2.1,rt,fb,fm):=⟨HIN.out.key.id,hg2.out,hg4.out⟩
 have HI:=Za hiv;have i2:(2:Int)<(n:Int):=by omega
 replace hbv:=Za hbv;replace hfb0:=Za hfb;clear hy5 hcl hvol hiv
 go_upto_region 6 with fail
 obtain⟨k0,k1,k2,k3,k4,_⟩:=Zn M1.out
 refine Xh (ops' := ?opsLate) (by kernel_rfl) [] ?he (by kernel_rfl) (fun d _ _ _ _ h=>by cases d <;> exact h) 12 (fun W=>Qbp w5.heap.size w5 W) (fun j=>match j with
   | 11=>some (fun v W=>∃ g,v=.pointer (some ⟨g,0,none⟩)/\w5.heap.size<=g/\W.heap[g]? = some (.cells #[.int .u32 0,.int .i64 0,.bool false,.int .u32 0] 40 (0,0)))
   | _=>none) (fun _=>none) ?h1 ?h2 ?h3 (Qb _ _).drew (fun w w' h hb=>h.trans (hb.mono h.size)) ?tst ?_
 case he =>
  simp[Z9];rfl
 case h1=>decide
 case h2=>kernel_rfl
 case h3=>kernel_rfl
 case tst =>
  intro j φ y W W' hp hy hb
  match j,hp with
  | 11,hp=>cases hp;obtain⟨g,e,h1,h2⟩:=hy;exact⟨g,e,h1,(hb.block g (Qa.1 h2).1).trans h2⟩
 simp only[Po,Q7,Pp,Qz]
 repeat (first
  | (refine wpAs_skip rfl ?_;simp only[Qc,Zb,Zc,Zd])
  | (refine wpAs_pure (v := ?_) rfl rfl ?_ ?_;rotate_left;(intro W hC hE;clear hE;(obtain⟨z0,z1,z2,z3,z4,_⟩:=Zn ((hC.block _ (Qa.1 M1.out).1).trans M1.out);have z9:=(hC.cell (World.block_lt_of_cell? _ _ hc2)).trans hc2);clear hC;go_simp;first | done | with_reducible rfl);simp only[Qc,Zb,Zc,Zd]))
 refine wpAs_act rfl rfl ?_ ?_
 ·intro W hC hE
  have hs:=hC.size;clear hE hC
  go_simp
  exact⟨⟨W.heap.size,rfl,hs,Qbm _ _⟩,(Qb _ _).alloc (Qe _) _⟩
 simp only[Qc,Zb,Zc,Zd,envAdd];intro x11;refine wpAs_end fun W hC hE=> ?_
 obtain⟨⟨g,rfl,hg,hz⟩,_⟩:=hE;obtain⟨u0,u1,u2,u3,uf,_⟩:=Ze hz;obtain⟨w7,hw7,g7,gr7,gs7⟩:=Zt (a':=.int .u32 x.1.2.1) (b':=.int .i64 rt) (c':=.bool fb) (d':=.int .u32 fm) hz;have B7:=Za ((B5.out.trans (hC.mono B5.out.size)).grown gr7 (Qd B5.out.size hC.size) (fun q e=>by cases e;exact Qd B5.out.size hg));have N1:=Za ((gr7.block _ (Qm (Qa.1 M1.out).1 hC.size) (fun e=>by cases e;have:=(Qa.1 M1.out).1;omega)).trans ((hC.block _ (Qa.1 M1.out).1).trans M1.out));have N2:=Za ((gr7.block _ (Qm (Qa.1 M2.out).1 hC.size) (fun e=>by cases e;have:=(Qa.1 M2.out).1;omega)).trans ((hC.block _ (Qa.1 M2.out).1).trans M2.out));have N3:=Za g7;have hcal:=Za (Zif HI.out w7);replace hz:=Za hz;clear g7 gr7 gs7 hC hg M1 M2 k0 k1 k2 k3 k4 hc2
 go_upto_region 7 with fail
 clear hw7 u0 u1 u2 u3 uf hz;obtain⟨t0,t1,t2,t3,_⟩:=Ze N3.out
 go_wp2_with fail
 with_reducible refine hcal.out.mono ?_
 rintro e w8 ⟨A8,c8,rfl,hI8,hb8⟩;obtain⟨w9,hw9,_,_,_,_,_,hs9,hB9,b9⟩:=Z0 w8 (.int .u8 1) (.int .u32 x.1.2.1) (.int .u32 0) (.int .i64 0) (.slice A8 7 c8) 79;have hb79:=hb8.trans (hB9.mono hb8.size);have B9:=Za (B7.out.trans (hb79.mono B7.out.size));have P1:=Za ((hb79.block _ (Qa.1 N1.out).1).trans N1.out);have P2:=Za ((hb79.block _ (Qa.1 N2.out).1).trans N2.out);have P3:=Za ((hb79.block _ (Qa.1 N3.out).1).trans N3.out);have P4:=Za b9;have Q1:=Za (hI8.drop.below hB9);have Q2:=Za (HX.out.below B9.out);obtain⟨sm,hsm⟩:∃ q,Zkd (Ym (x.1.2.1,rt,fb,fm)) x=q:=⟨_,rfl⟩
 have hcs:=Zvu _ _ _ _ w9 Q1.out Q2.out;rw[hsm] at hcs;replace hcs:=Za hcs;replace hs9:=Za hs9;clear hI8 hb8 hB9 b9 hb79 N1 N2 N3 t0 t1 t2 t3
 go_upto_region 8 with fail
 clear hw9;obtain⟨k0,k1,k2,k3,k4,_⟩:=Zn P1.out;obtain⟨y0,y1,y2,y3,y4,_⟩:=Zn P4.out
 go_wp2_with fail
 with_reducible refine hcs.out.mono ?_
 rintro e wa ⟨rfl,hba⟩;have Ba:=Za (B9.out.trans (hba.mono B9.out.size));have Z2:=(hba.block _ (Qa.1 P2.out).1).trans P2.out;have Z3:=(hba.block _ (Qa.1 P3.out).1).trans P3.out;obtain⟨u0,u1,u2,u3,uf,_⟩:=Ze Z2;clear k0 k1 k2 k3 k4 y0 y1 y2 y3 y4 hba;cases sm with
 | true =>
  have hvi:Zeg x=some (x.1.2.1,rt,fb,fm):=by rw[HV.out,if_pos (Zyy hsm)]
  have hve:Hid (Zt6 x=0/\Ztq x=(x.1.2.1,rt,fb,fm)):=Za (by unfold Zt6 Ztq;rw[hvi];exact⟨rfl,rfl⟩);obtain⟨t0,t1,t2,t3,_⟩:=Ze Z3;obtain⟨wb,hwb,gb,grb,gsb⟩:=Zt (a':=.int .u32 x.1.2.1) (b':=.int .i64 rt) (c':=.bool fb) (d':=.int .u32 fm) Z2;obtain⟨f0,f1,f2,f3,_⟩:=Ze gb;have hBb:=Za (Ba.out.grown grb Ba.out.size (fun q e=>by cases e;have:=hs1'.out;omega));replace Z2:=Za Z2;replace Z3:=Za Z3;replace hsm:=Za hsm;clear hvi gb grb gsb
  go_wp2_with fail
  refine Qbl (v:=.tuple #[.agg #[.int .u32 x.1.2.1,.int .i64 rt,.bool fb,.int .u32 fm],.int .i64 0]) (by simp[results,Tryz.results111,go_sem,f0,f1,f2,f3]) rfl ?_;rw[hve.out.1,hve.out.2];exact⟨rfl,hBb.out⟩
 | false =>
  have hvi:Zeg x=none:=by
   rw[HV.out,if_neg fun e=> ?_];rw[e] at hsm;rw[Zr1] at hsm;cases hsm
  have hve:Hid (Zt6 x=8/\Ztq x=Vf):=Za (by unfold Zt6 Ztq;rw[hvi];exact⟨rfl,rfl⟩);obtain⟨wb,hwb,gb,grb,gsb⟩:=Zt (a':=.int .u32 0) (b':=.int .i64 0) (c':=.bool false) (d':=.int .u32 0) Z2;obtain⟨f0,f1,f2,f3,_⟩:=Ze gb;have hBb:=Za (Ba.out.grown grb Ba.out.size (fun q e=>by cases e;have:=hs1'.out;omega));replace Z2:=Za Z2;replace Z3:=Za Z3;replace hsm:=Za hsm;clear hvi gb grb gsb
  go_wp2_with fail
  refine Qbl (v:=.tuple #[vlV Vf,.int .i64 8]) (by simp[results,Tryz.results111,go_sem,f0,f1,f2,f3,vlV,Vf]) rfl ?_;rw[hve.out.1,hve.out.2];exact⟨rfl,hBb.out⟩}
abbrev Iv:=It×Qbi
def Zah (p:Iv):List Qbi:=[.int .u8 (p.1.1.1.toNat:Int),.int .u32 p.1.1.2.1,.int .u32 p.1.1.2.2,.int .i64 p.1.2.1,p.2]
def Zl (ps:List Iv):List Qbi:=(ps.map Zah).flatten
theorem Yi:∀ ps:List Iv,(Zl ps).length=ps.length*5
 | []=>rfl
 | p::r=>by
  have:=Yi r;simp[Zl,Zah] at this ⊢;omega
theorem Za4:∀ {ps:List Iv}{k:Nat}{p:Iv},ps[k]? = some p->∀ j v,(Zah p)[j]? = some v->(Zl ps)[k*5+j]? = some v
 | q::r,0,p,h,j,v,hv=>by
  simp at h;subst h;have hj:j<(Zah q).length:=(Qg.1 hv).1;show ((Zah q)++Zl r)[0*5+j]? = some v;rw[Qac,Pv,List.getElem?_append_left hj,hv]
 | q::r,k+1,p,h,j,v,hv=>by
  have h':r[k]? = some p:=by simpa using h
  have:=Za4 h' j v hv;show ((Zah q)++Zl r)[(k+1)*5+j]? = some v;have hl:(Zah q).length=5:=rfl;rw[Qad (by omega),hl,show (k+1)*5+j-5=k*5+j by omega];exact this
theorem Ve {ps:List Iv}(h:∀ p∈ps,p.2.oneCell'=true):∀ u∈Zl ps,u.oneCell'=true:=fun u hu=>by
 unfold Zl at hu;rw[List.mem_flatten] at hu;obtain⟨l,hl,hul⟩:=hu;obtain⟨p,hp,rfl⟩:=Qa4.1 hl;simp[Zah] at hul;rcases hul with rfl | rfl | rfl | rfl | rfl
 ·rfl
 ·rfl
 ·rfl
 ·rfl
 ·exact h p hp
theorem Zzt {ok:Qbj->Prop}{w:Qbh}{d:Qbi}{xs:List UInt8}(h:rBy ok w [d] xs):d.oneCell'=true:=by
 obtain⟨_,_,rfl,_⟩:=Zp h;rfl
theorem Zrw {ok:Qbj->Prop}{w:Qbh}(hok:∀ p,ok p->p.block<w.heap.size){A:Option Qbj}{n c:Nat}{xs:List It}(h:Zaa ok w [.slice A n c] xs):∃ ps:List Iv,ps.map (·.1)=xs/\Zmd w w.heap.size A (Zl ps)/\(∀ p∈ps,InI p.1/\rBy ok w [p.2] p.1.2.2):=by{
 obtain⟨ps,hl,hps⟩:=Zg4 (n:=xs.length) (p:=fun i (p:Iv)=>xs[i]? = some p.1/\∃ ad,A=some ad/\(∀ j v,(Zah p)[j]? = some v->ad.block<w.heap.size/\w.cell? (ad.add (i*5+j))=some v)/\InI p.1/\rBy ok w [p.2] p.1.2.2) (fun i hi=>by
  have hx:xs[i]? = some xs[i]:=Qf hi;obtain⟨_,_,e,_,_,h4⟩:=id h;cases e;obtain⟨ad,vs,rfl,e5,q,r⟩:=h4 i _ hx;obtain⟨d,rfl,hin,hd⟩:=Zjn r
  exact⟨(xs[i],d),hx,ad,rfl,fun j v hj=>⟨by have:=hok _ (q j v hj).1;rwa [Zh] at this,(q j v hj).2⟩,hin,hd⟩)
 refine⟨ps,?_,?_,fun p hp=> ?_⟩
 ·apply List.ext_getElem?
  intro i;rw[Qa5];cases e:ps[i]? with
  | none =>
   have:xs.length<=i:=by rw[<- hl];exact List.getElem?_eq_none_iff.1 e
   rw[Qar this];rfl
  | some p=>exact(hps i p e).1.symm
 ·intro j v hj
  have hlt:=(Qg.1 hj).1;rw[Yi] at hlt;obtain⟨p,hp⟩:∃ p,ps[j / 5]? = some p:=⟨_,Qf (by omega)⟩
  obtain⟨_,ad,rfl,hc,_⟩:=hps _ p hp;obtain⟨u,hu⟩:∃ u,(Zah p)[j % 5]? = some u:=⟨_,Qf (by show j % 5<5;omega)⟩
  have h1:=Za4 hp _ _ hu;rw[show j / 5*5+j % 5=j by omega,hj] at h1;cases h1;have:=hc _ _ hu;rw[show j / 5*5+j % 5=j by omega] at this;exact⟨ad,rfl,this.1,this.2⟩
 ·obtain⟨i,hi⟩:=Qao.1 hp
  obtain⟨_,_,_,_,h1,h2⟩:=hps i p hi;exact⟨h1,h2⟩}
theorem Zyl {ok:Qbj->Prop}{w:Qbh}{ad:Qbj}{n c:Nat}{b:List It}(h:Zaa ok w [.slice (some ad) n c] b) (k:Nat) (hk:k<=b.length):Zaa ok w [.slice (some (ad.add (k*5))) (n-k) (c-k)] (b.drop k):=by
 obtain⟨A,cap,e,h2,h3,h4⟩:=h;cases e;refine⟨some (ad.add (k*5)),c-k,by rw[Pn],by rw[Pn];omega,by omega,fun i x hi=> ?_⟩;rw[Q5] at hi;obtain⟨ad',vs,e1,e2,e3,e4⟩:=h4 (k+i) x hi;cases e1;refine⟨ad.add (k*5),vs,rfl,e2,fun j v hj=> ?_,e4⟩;have:=e3 j v hj;rw[Zi8,show k*5+(i*5+j)=(k+i)*5+j by omega];exact this
theorem Zub {P:Program}{w:Qbh}(dT sT ty elem:Qbk) (g o dLen dCap:Nat) (a:Qbj) (sLen sCap:Nat) (C:List Qbi) (t:Qbk) (cs:List Qbi) (k:Nat)
  (hu:P.underlying dT=some (.slice elem)) (hs:(P.info? elem).map (·.size)=some 5)
  (hg:w.heap[g]? = some (.cells C.toArray t (0,0))) (hk:Nat.min sLen dLen=k) (hn:cs.length=k*5)
  (hsrc:∀ j v,cs[j]? = some v->w.cell? (a.add j)=some v) (hfit:o+cs.length<=C.length) (h1:∀ v∈cs,v.oneCell'=true) :
  (Qa6 #[dT,sT] ty #[.slice (some ⟨g,o,none⟩) dLen dCap,.slice (some a) sLen sCap]).run P w=.ok (goInt k) (w.setRow g (splice C o cs).toArray):=by{
 have hl:=run_loadCells_list (P:=P) w a cs hsrc;have hst:=run_storeCells_at P g o t cs 0 C.toArray w hg (by simpa using hfit) h1;have hf:(Qae 5 k (.slice (some a) sLen sCap)).run P w=.ok cs.toArray w:=by
  have:=run_firstCells_some (P:=P) w 5 k a sLen sCap cs (by omega) hsrc;exact this
 cases hq:P.info? elem with
 | none=>simp[hq] at hs
 | some i =>
  have hi:i.size=5:=by simpa [hq] using hs
  simp only[Pm] at hst;simp[Qa6,run_underlying hu,Qaf,sizeOf,typeInfo,hq,hi,hk,hf,hst,splice]}
theorem Zl1 {w:Qbh}{g:Nat}(cs:Array Qbi):w.grownBy (w.setRow g cs) (some g) :=
 ⟨rfl,rfl,rfl,by simp[World.setRow],fun k _ hne=>setRow_other w g k cs (fun e=>hne (by rw[e]))⟩
theorem Zyq (w:Qbh) (n:Nat) (row:Option Nat):w.grownBy (w.drewN n) row:=⟨rfl,rfl,rfl,Qe _,fun _ _ _=>rfl⟩
theorem Zhx {w w2:Qbh}{n:Nat}{r:Option Nat}(h:(w.drewN n).grownBy w2 r):w.grownBy w2 r:=⟨h.os,h.tape,h.output,h.size,h.block⟩
theorem Uo {w w2:Qbh}{r:Option Nat}(h:w.drew.grownBy w2 r):w.grownBy w2 r:=⟨h.os,h.tape,h.output,h.size,h.block⟩
theorem Yz {P:Program}{w:Qbh}{ops:Array Oper}{rest:List Oper}{o:Oper}{a:Act}{Q:Exit->Act->Qbh->Prop}(hgd:o.guard=none) (d s:Operand) (dT sT:Qbk)
  (ho:o.op=.call { callee:=.builtin .copy,args:=#[d,s],argTypes:=#[dT,sT] }) (elem:Qbk) (hu:P.underlying dT=some (.slice elem)) (hsz:(P.info? elem).map (·.size)=some 5)
  (dp sp:Option Qbj) (dLen dCap sLen sCap:Nat) (hd:a.eval d=.slice dp dLen dCap) (hs:a.eval s=.slice sp sLen sCap)
  (g off:Nat) (C:List Qbi) (t:Qbk) (hg:w.heap[g]? = some (.cells C.toArray t (0,0))) (cs:List Qbi) (k:Nat) (hk:Nat.min sLen dLen=k) (hn:cs.length=k*5)
  (hdp:dp=some ⟨g,off,none⟩) (ad:Qbj) (hsp:sp=some ad) (hsrc:∀ j v,cs[j]? = some v->w.cell? (ad.add j)=some v)
  (hfit:off+cs.length<=C.length) (h1:∀ v∈cs,v.oneCell'=true)
  (h:∀ w',Hid (w'.heap[g]? = some (.cells (splice C off cs).toArray t (0,0)))->Hid (w.grownBy w' (some g))->wpList P ops Q rest (a.put o.dst (goInt k)) w') :
  wpList P ops Q (o::rest) a w:=by
 subst hdp;subst hsp;refine wpList_plain hgd fun K hK=> ?_
 have hrun:=Zub (P:=P) dT sT o.type elem g off dLen dCap ad sLen sCap C t cs k hu hsz hg hk hn hsrc hfit h1;unfold Oper.wp;simp[execOp,ho,resolve,invoke,builtin,hd,hs,hrun,Result.andThen];exact hK _ _ (h _ (show _=_ by simpa using setRow_heap w g _ _ t _ hg) (Zl1 _))
theorem Zdz {P:Program}{w:Qbh}{ops:Array Oper}{rest:List Oper}{o:Oper}{a:Act}{Q:Exit->Act->Qbh->Prop}(hgd:o.guard=none) (x:Operand) (t:Qbk)
  (ho:o.op=.call { callee:=.builtin .clear,args:=#[x],argTypes:=#[t] }) (elem:Qbk) (hu:P.underlying t=some (.slice elem)) (A:Option Qbj) (c:Nat) (hx:a.eval x=.slice A 0 c)
  (h:wpList P ops Q rest (a.put o.dst (.tuple #[])) w):wpList P ops Q (o::rest) a w:=by{
 refine wpList_plain hgd fun K hK=> ?_
 have hrun:(Qa7 #[t] o.type #[.slice A 0 c]).run P w=.ok (.tuple #[]) w:=by
  cases A <;> simp[Qa7,run_underlying hu]
 unfold Oper.wp;simp[execOp,ho,resolve,invoke,builtin,hx,hrun,Result.andThen];exact hK _ _ h}
theorem Ze1 {C Y:List Qbi}{a:Nat}(h:a<=C.length):(splice C a Y).take (a+Y.length)=C.take a++Y:=by
 unfold splice;rw[<- Q8,Qag (by simp;omega)];exact Qj (by simp;omega)
theorem Zna {C Y:List Qbi}{a k:Nat}(h:a+Y.length<=C.length) (hk:a+Y.length<=k):(splice C a Y)[k]? = C[k]? := by
 unfold splice;rw[Qad (by rw[Qn];omega),Qn,Pq (by omega),Qad (by omega),Q5]
 congr 1
 omega
theorem Zfz {w:Qbh}{b k:Nat}{C:List Qbi}{t:Qbk}(h:w.heap[b]? = some (.cells C.toArray t (0,0))):w.cell? ⟨b,k,none⟩=C[k]? := by
 rw[cell_of_row w b k _ _ _ h];simp
theorem Zef {C Y X:List Qbi}{a b:Nat}(hb:b=a+Y.length) (h:b+X.length<=C.length):(splice (splice C a Y) b X).take (b+X.length)=C.take a++(Y++X):=by
 subst hb;have hl:(splice C a Y).length=C.length:=length_splice C a Y (by omega);rw[Ze1 (by rw[hl];omega),Ze1 (by omega),Q8]
theorem Zgp {C Y X:List Qbi}{a b:Nat}(hb:b=a+Y.length) (h:b+X.length<=C.length):(splice (splice C b X) a Y).take (b+X.length)=C.take a++(Y++X):=by{
 subst hb;have hl:(splice C (a+Y.length) X).length=C.length:=length_splice C _ X (by omega);have e1:(splice C (a+Y.length) X).take a=C.take a:=by
  unfold splice;rw[Qag (by simp;omega),Qa8,Pq (by omega)]
 have e2:((splice C (a+Y.length) X).drop (a+Y.length)).take X.length=X:=by
  unfold splice;rw[Qa9,Qba (by rw[Qn];exact Nat.min_le_left _ _),Qn,Pq (by omega),Nat.sub_self,Qz,Pj,Qag (by simp),Qj (by simp)]
 generalize splice C (a+Y.length) X=S at *;unfold splice;rw[e1,<- Q8,Qbb,Qj (by simp;omega),Q8]
 congr 2
 rw[show a+Y.length+X.length-(C.take a++Y).length=X.length by simp;omega];exact e2}
theorem Yv:∀ (a b:List Iv),Zl (a++b)=Zl a++Zl b
 | [],_=>rfl
 | x::r,b=>by
  show Zah x++Zl (r++b)=(Zah x++Zl r)++Zl b;rw[Yv r b,Q8]
theorem Zc2 (x:Iv) (r:List Iv):Zl (x::r)=Zah x++Zl r:=rfl
theorem Vw:∀ (ps:List Iv) (k:Nat),Zl (ps.take k)=(Zl ps).take (k*5)
 | [],k=>by
  rw[Qbc];exact Qbc.symm
 | x::r,0=>by
  rw[Qac,Q7,Q7];rfl
 | x::r,k+1=>by
  rw[Po,Zc2,Zc2,Vw r k,Qbb,show (Zah x).length=5 from rfl,show (k+1)*5-5=k*5 by omega,Qj (show (Zah x).length<=(k+1)*5 by show 5<=_;omega)]
theorem Zfw:∀ (ps:List Iv) (k:Nat),Zl (ps.drop k)=(Zl ps).drop (k*5)
 | [],k=>by
  rw[Qbd];exact Qbd.symm
 | x::r,0=>by
  rw[Qac,Qz,Qz]
 | x::r,k+1=>by
  rw[Pp,Zc2,Zfw r k,Qa9,show (Zah x).length=5 from rfl,show (k+1)*5-5=k*5 by omega,Qba (show (Zah x).length<=(k+1)*5 by show 5<=_;omega),Pj]
theorem Xi {w:Qbh}{lo n c:Nat}{ad:Qbj}{t:Qbk}{xs:List Qbi}(h:w.ownsRow lo t 5 (.slice (some ad) n c) n xs) :
  ∃ b C,ad=⟨b,0,none⟩/\lo<=b/\b<w.heap.size/\w.heap[b]? = some (.cells (List.toArray C) t (0,0))/\n<=c/\c<=maxLen/\C.length=c*5/\C.take (n*5)=xs:=by{
 rcases h.2 with ⟨e,_⟩ | ⟨g,cap,cur,e,hb,hg,h1,h2,h3,h4⟩
 ·cases e
 ·cases e
  exact⟨g,cur.toList,rfl,hb,(Qa.1 hg).1,by simpa using hg,h1,h2,by simpa using h3,h4⟩}
theorem V5 {w:Qbh}{lo b n c:Nat}{t:Qbk}{C xs:List Qbi}(hb:lo<=b) (hg:w.heap[b]? = some (.cells C.toArray t (0,0))) (h1:n<=c) (h2:c<=maxLen) (h3:C.length=c*5) (h4:C.take (n*5)=xs):w.ownsRow lo t 5 (.slice (some ⟨b,0,none⟩) n c) n xs :=
 ⟨by rw[<- h4,Qn,h3];omega,.inr ⟨b,c,C.toArray,rfl,hb,hg,h1,h2,by simpa using h3,by simpa using h4⟩⟩
theorem Zly {w:Qbh}{lo n c k:Nat}{ad:Qbj}{t:Qbk}{xs:List Qbi}(h:w.ownsRow lo t 5 (.slice (some ad) n c) n xs) (hk:k<=n):w.ownsRow lo t 5 (.slice (some ad) k c) k (xs.take (k*5)):=by
 obtain⟨b,C,rfl,hb,_,hg,h1,h2,h3,h4⟩:=Xi h;refine V5 hb hg (by omega) h2 h3 ?_;rw[<- h4,Qa8,Pq (by omega)]
theorem Zbx {w:Qbh}{lo n c:Nat}{b:Nat}{t:Qbk}{ps:List Iv}(h:w.ownsRow lo t 5 (.slice (some ⟨b,0,none⟩) n c) n (Zl ps)) (k:Nat):∀ j v,(Zl (ps.drop k))[j]? = some v->w.cell? ((⟨b,k*5,none⟩:Qbj).add j)=some v:=fun j v hj=>by
 rw[Zfw,Q5] at hj;have:=h.cells (g:=b) rfl _ _ hj;rw[Zbc] at this ⊢
 rwa [Pv] at this
theorem Zgk {ps:List Iv}{n:Nat}{w:Qbh}{lo:Nat}{t:Qbk}{v:Qbi}(h:w.ownsRow lo t 5 v n (Zl ps)):ps.length=n:=by
 have:=h.1;rw[Yi] at this;omega
theorem Zv2 {f:It->List It}{N:Nat}:∀ {L:List It},(∀ x∈L,(f x).length<=N)->(L.flatMap f).length<=N*L.length
 | [],_=>by simp
 | x::r,h=>by
  rw[Qq,Qr,Q3,Nat.mul_succ];have h1:=h x (by simp);have h2:=Zv2 (L:=r) fun y hy=>h y (by simp[hy])
  omega
theorem Z0l {f:It->List It}{L:List It}{i:Nat}{x:It}(hx:L[i]? = some x):(L.take (i+1)).flatMap f=(L.take i).flatMap f++f x:=by
 obtain⟨h1,e1⟩:=Qg.1 hx;rw[<- Qt h1,e1,List.flatMap_append,List.flatMap_singleton]
theorem Zzv (s:Rm):∀ (l:Nat) (a:Int),AtT s l a->(Ud s l a).length<=5 ^ (l+1)
 | 0,a,h=>by
  unfold Ud;exact(Z1 h.may).1.2.2.1
 | l+1,a,h=>by
  unfold Ud;have h5:=(Z1 h.may).1.2.2.1;refine Qd (Zv2 (N:=5 ^ (l+1)) fun x hx=>Zzv s l x.2.1 (h.down hx)) ?_;rw[Q9 5 (l+1)];exact Ps _ h5
end Go.Proofs.YtmafkphcfkhokaaGreat
namespace Go.Proofs.YtmafkphcfkhokaaGreat
open Go.RowKit Go.Maps
theorem Zw5 {s:Rm}{lo g:Nat}{K:List Int}{w1 w:Qbh}(h:NMp s lo g K w1) (hb:Qbp w1.heap.size w1 w){x:Int}(hx:(Lit.int .i64 x).wf=true) (hm:x∈K) :
  ∃ U c,Sem.run Tryz.prog (Instr.lookup 69 (.map (some g)) (.int .i64 x) false) w=.ok (.agg #[.int .i64 (rmV s x).1,.slice U (rmV s x).2.length c]) w/\Zaa (New lo w1) w1 [.slice U (rmV s x).2.length c] (rmV s x).2:=by
 obtain⟨n,D,h1,h2,h3,h4⟩:=h;obtain⟨v,ps,e1,e2⟩:=(h1.kept (Zbd hb) (by simp)).lookup (int_keyed Tryz.underlying3) Tryz.underlying69 (z:=.agg #[.int .i64 0,.slice none 0 0]) (by kernel_rfl) (zd:=.held (.agg #[.int .i64 0,.slice none 0 0])) (zp:=[]) rfl (keyOf_int_mk Tryz.underlying3 hx);obtain⟨u,a1,a2⟩:=h4 x hm;rw[a1] at e2;obtain⟨U,c,rfl⟩:=Zjw a2;cases e2;refine⟨U,c,e1,?_⟩;obtain⟨d,e,_,h⟩:=a2;cases e;exact h
theorem Z3v {w:Qbh}{lo:Nat}{A B:Option Qbj}{c n m d:Nat}{ps qs:List Iv}(hn:ps.length=n) (hm:qs.length=m) (ho:w.ownsRow lo 79 5 (.slice A n c) n (Zl ps)) (hC:Zmd w w.heap.size B (Zl qs)) (hone:∀ p∈qs,p.2.oneCell'=true) (hb:n+m<=100000) (hbase:lo<=w.heap.size) :
  ∃ A' c' w',(Pr #[57,57] 57 #[.slice A n c,.slice B m d]).run Tryz.prog w=.ok (.slice A' (n+m) c') w'/\w'.ownsRow lo 79 5 (.slice A' (n+m) c') (n+m) (Zl (ps++qs))/\Qbp lo w w':=by{
 subst hn hm;obtain⟨i0,hi,hz0,hz1,hz2⟩:=info_parts Uk;have hone':∀ u∈Zl qs,u.oneCell'=true:=Ve hone;rcases B with _ | bd
 ·have h0:qs=[]:=by
   cases qs with
   | nil=>rfl
   | cons p r =>
    obtain⟨_,e,_⟩:=hC 0 _ (show (Zl (p::r))[0]? = some (Value.int .u8 (p.1.1.1.toNat:Int)) from rfl);cases e
  subst h0;refine⟨A,c,w,?_,by simpa using ho,Qb _ _⟩;rcases ho.2 with ⟨e,e2⟩ | ⟨g,cap,cur,e,_,_,hnc,_⟩
  ·rw[Qah,Pm,e]
   simp[Pr,run_underlying Tryz.underlying57,sizeOf,typeInfo,hi,Qaf,Qae]
  ·rw[Qah,Pm,e]
   simp[Pr,run_underlying Tryz.underlying57,sizeOf,typeInfo,hi,Qaf,Qae,hnc,storeCells]
 ·obtain⟨v',w',hr,o1,g1,b1,k1⟩:=Zgy (P:=Tryz.prog) (w:=w) lo 57 57 79 i0 (.agg #[.int .u8 0,.int .u32 0,.int .u32 0,.int .i64 0,.slice none 0 0]) 5 48 Tryz.underlying57 hi hz0 hz1 hz2 rfl (by decide) _ _ _ ho bd qs.length d (Zl qs) (Yi qs) (fun j u hj=>by
   obtain⟨_,e,_,h⟩:=hC j u hj;cases e
   exact h) hone' (by unfold maxLen;omega) (by omega) hbase
  obtain⟨A2,c2,rfl,_⟩:=Yj o1;rw[<- Yv] at o1;exact⟨A2,c2,w',hr,o1,b1⟩}
theorem Zrk {w:Qbh}{lo:Nat}{A:Option Qbj}{n c:Nat}{ps:List Iv}(ho:w.ownsRow lo 79 5 (.slice A n c) n (Zl ps)):Zmd w w.heap.size A (Zl ps)/\n<=c/\c<=9223372036854775807:=by{
 obtain⟨A1,c1,e,h1,h2,_⟩:=Yj ho;cases e;refine⟨fun j v hj=> ?_,h1,h2⟩;have hlt:=(Qg.1 hj).1;have hl:=ho.1;rcases ho.2 with ⟨e,e2⟩ | ⟨g,cap,cur,e,_,hg,_⟩
 ·omega
 ·cases e
  refine⟨_,rfl,(Qa.1 hg).1,?_⟩;have:=ho.cellAt j (by omega);rw[hj] at this;have e:((⟨g,0,none⟩:Qbj).add j)=⟨g,j,none⟩:=by unfold Addr.add;split <;> simp_all
  rw[e];exact this}
def FiR (s:Rm) (l:Nat) (a:Int) (lo:Nat) (w1 w:Qbh):Qbo->Qbh->Prop:=fun e w'=>∃ (u:Option Qbj) (n c:Nat) (ps:List Iv),e=.returned (.slice u n c)/\ps.length=n/\ps.map (·.1)=Ud s l a/\(∀ p∈ps,InI p.1/\rBy (New lo w1) w1 [p.2] p.1.2.2)/\Zmd w' w'.heap.size u (Zl ps)/\(n<=c/\c<=9223372036854775807)/\Qbp w.heap.size w w'
def Z5c (s:Rm) (l:Nat):Prop:=∀ (a:Int) (K:List Int) (q0 q1 q2 q3 q4 q5 q6 q7 q8 q9:Qbi) (g1 lo:Nat) (w1 w:Qbh),AtT s l a->(∀ b∈Y4 s l a,b∈K)->NMp s lo g1 K w1->Qbp w1.heap.size w1 w ->
 Qbn Tryz.prog 110 #[.agg #[q0,q1,q2,q3,q4,q5,q6,q7,.map (some g1),q8,q9],.int .i64 a] w (FiR s l a lo w1 w)
theorem Z2r (s:Rm) (l0:Nat) (hl5:l0<=5) (hr0:∀ j,l0=j+1->Z5c s j):Z5c s l0:=by{
 intro a K q0 q1 q2 q3 q4 q5 q6 q7 q8 q9 g1 lo w1 w hat hK hN hb;obtain⟨h8,h256,_⟩:=Zao hat.ok;have hwf:=Zpz (show 0<=a by omega) h256;have haK:a∈K:=hK a (by cases l0 <;> (unfold Y4;exact Qy));have hz:=Za (fun(h0:l0=0)=>(by subst h0;unfold Ud;rfl:Ud s l0 a=(rmV s a).2));have hsu:=Za (fun(j:Nat) (hj:l0=j+1)=>(by subst hj;conv=>lhs;unfold Ud:Ud s l0 a=(rmV s a).2.flatMap fun x=>Ud s j x.2.1));have hdn:=Za (fun(j:Nat) (hj:l0=j+1) (x:It) (hx:x∈(rmV s a).2)=>(by subst hj;exact hat.down hx:AtT s j x.2.1))
 have hKd:=Za (fun(j:Nat) (hj:l0=j+1) (x:It) (hx:x∈(rmV s a).2) (b:Int) (hb:b∈Y4 s j x.2.1)=>(by
  subst hj;refine hK b ?_
  conv=>rhs;unfold Y4
  exact Qs _ (Pd.2 ⟨x,hx,hb⟩):b∈K))
 have hmn:=Za hat.may;have hlv:=hat.lvl;obtain⟨w2,hw2,k2,hs2,hB2⟩:=Ue w q0 q1 q2 q3 q4 q5 q6 q7 (.map (some g1)) q8 q9 71;have hb2:=hb.trans (hB2.mono hb.size);obtain⟨Z,zc,hlk,hI⟩:=Zw5 hN hb2 hwf haK;obtain⟨nd,hnd⟩:∃ q,rmV s a=q:=⟨_,rfl⟩
 rw[hnd] at hz hsu hdn hKd hmn hlv hlk hI;obtain⟨lw,hlw⟩:∃ q,nd.1=q:=⟨_,rfl⟩
 obtain⟨l,hl⟩:∃ q,nd.2=q:=⟨_,rfl⟩
 obtain⟨m,hlm⟩:∃ q,l.length=q:=⟨_,rfl⟩
 rw[hl] at hz hsu hdn hKd;rw[hlw] at hlv;rw[hlw,hl,hlm] at hlk;rw[hl,hlm] at hI;have hm5:m<=5:=by
  have:=(Z1 hmn.out).1.2.2.1;rw[hl,hlm] at this;exact this
 obtain⟨w4,hw4,b4,hs4,hB4⟩:=Yf w2 (.int .i64 lw) (.slice Z m zc) 59;have B14:=Za (hb2.trans (hB4.mono hb2.size));have B4:=Za (hB2.trans (hB4.mono hB2.size));have K4:=Za ((hB4.block _ (Qa.1 k2).1).trans k2);have N4:=Za b4;have HN:=Za hN;have HI:=Za hI;obtain⟨s0,s1,s2,s3,s4,s5,s6,s7,s8,s9,s10,_⟩:=Zg k2;replace hs2:=Za hs2;replace hs4:=Za hs4;replace hnd:=Za hnd;replace hlw:=Za hlw;replace hl:=Za hl;replace hlm:=Za hlm;replace hlv:=Za hlv;clear hat hK hN hb hB2 hb2 hB4 k2 b4 hI h8 h256 haK
 go_enter Tryz.func110,Tryz.ntmps110
 go_upto_region 1 with fail
 clear hw2
 go_upto_region 2 with fail
 clear hw4 hlk s0 s1 s2 s3 s4 s5 s6 s7 s8 s9 s10;obtain⟨y0,y1,_⟩:=Zi N4.out;cases l0 with
 | zero =>
  have hf:=Za (hz.out rfl);have e1:(lw==0)=true:=by simp[hlv.out]
  go_wp2_with fail
  go_ret;obtain⟨ps,hp1,hp2,hp3⟩:=Zrw (fun p hp=>hp.2.1) HI.out;obtain⟨A',c',e,_,_,_⟩:=id HI.out;simp only[List.cons.injEq,Value.slice.injEq,and_true] at e;obtain⟨rfl,_,rfl⟩:=e;have hpl:ps.length=m:=by rw[<- hlm.out,<- hp1,Qp]
  refine⟨Z,m,zc,ps,rfl,hpl,by rw[hf.out,hp1],hp3,fun j v hj=> ?_,⟨by have:=hlm.out;omega,by assumption⟩,B4.out⟩;obtain⟨ad,e,h1,h2⟩:=hp2 j v hj;exact⟨ad,e,Qm h1 B14.out.size,(B14.out.cell (p:=ad.add j) (by rw[Zh];exact h1)).trans h2⟩
 | succ l1 =>
  have hrec:=Za (hr0 l1 rfl);have c0:(lw==0)=false:=by rw[hlv.out];simp;omega
  obtain⟨F,hF⟩:∃ F:It->List It,(fun x=>Ud s l1 x.2.1)=F:=⟨_,rfl⟩
  have hfl:Hid (Ud s (l1+1) a=l.flatMap F):=Za (by rw[hsu.out l1 rfl,hF])
  have hlen:=Za (fun x (hx:x∈l)=>(show (F x).length<=5 ^ 5 by
   rw[<- hF]
   exact Qd (Zzv s l1 x.2.1 (hdn.out l1 rfl x hx)) (Qv (by decide) (by omega))))
  have hd:=Za (fun x (hx:x∈l)=>hdn.out l1 rfl x hx);have hk1:=Za (fun x (hx:x∈l) b hb=>hKd.out l1 rfl x hx b hb);have HI4:Hid (Zaa (Old w4) w4 [.slice Z m zc] l):=Za (Xn _ _ _ _ _ _ (fun p v hp hc=>⟨Qm hp.2.1 B14.out.size,(B14.out.cell hp.2.1).trans hc⟩) HI.out);replace hF:=Za hF;clear hz hsu hdn hKd HI
  go_upto_region 5 with fail
  go_wp2_with fail
  clear y0 y1 c0
  go_loopw [21,6] (fun vi vo wr=>∃ (k n:Nat) (Q:Option Qbj) (c:Nat) (ps:List Iv),k<=m/\vi=.int .i64 k/\vo=.slice Q n c/\ps.length=n/\ps.map (·.1)=(l.take k).flatMap F/\(∀ p∈ps,InI p.1/\rBy (New lo w1) w1 [p.2] p.1.2.2)/\wr.ownsRow w4.heap.size 79 5 (.slice Q n c) n (Zl ps)/\Qbp w4.heap.size w4 wr) (fun vi _ _=>m-(intOf vi).toNat)
  case atStart=>exact⟨0,0,none,0,[],by omega,rfl,rfl,rfl,rfl,(fun p hp=>by cases hp),World.ownsRow_nil _ _ _ _,Qb _ _⟩
  case round =>
   obtain⟨k,n,Q,c,ps,hk,rfl,rfl,hpn,hpf,hpi,hrow,hbr⟩:=hrel;have BR:=Za hbr;have hrow':=Za hrow;have hpn':=Za hpn;have hpi':=Za hpi;have n4:=(hbr.block _ (Qa.1 N4.out).1).trans N4.out;have k4:=(hbr.block _ (Qa.1 K4.out).1).trans K4.out;have HR:Zaa (Old wr) wr [.slice Z m zc] l:=Xn.old HI4.out hbr;clear hbr hrow hpn hpi;by_cases hlt:k<m
   case neg =>
    have hf:Hid (ps.map (·.1)=Ud s (l1+1) a):=Za (by
     rw[hfl.out,hpf,Qj (by rw[hlm.out];omega)])
    have B5:=Za (B4.out.trans (BR.out.mono B4.out.size));obtain⟨hcs,hc1,hc2⟩:=Zrk hrow'.out;have hcs':=Za hcs;replace hpf:=Za hpf;clear n4 k4 HR hcs
    go_wp2_with fail
    go_ret;exact⟨Q,n,c,ps,rfl,hpn'.out,hf.out,hpi'.out,hcs'.out,⟨hc1,hc2⟩,B5.out⟩
   obtain⟨x,hx⟩:∃ x,l[k]? = some x:=⟨_,Qf (by rw[hlm.out];exact hlt)⟩
   obtain⟨ad,E5,ce5,rfl,_,_,_,FX⟩:=Vi HR hx;obtain⟨⟨z0,z1,z2,z3,z4⟩,_⟩:=FX _ (Qb _ _);have hxm:=Pi hx;obtain⟨w5,hw5,c0',c1',c2',c3',c4',hs5,hB5,hg5⟩:=Z0 wr (.int .u8 (x.1.1.toNat:Int)) (.int .u32 x.1.2.1) (.int .u32 x.1.2.2) (.int .i64 x.2.1) (.slice E5 x.2.2.length ce5) 79;have i4:(0:Int)<=(k:Int):=by omega
   have i5:(k:Int)<(m:Int):=by omega
   have hft:=Z0l (f:=F) hx;rw[<- hpf] at hft;have hq5:ps.length<=5 ^ 5*(l.take k).length:=by
    have:(ps.map (·.1)).length<=5 ^ 5*(l.take k).length:=by
     rw[hpf];exact Zv2 fun y hy=>hlen.out y (Pu hy)
    rwa [Qp] at this
   have htk:(l.take k).length<=5:=by rw[Qn];have:=hlm.out;omega
   have hny:=hlen.out x hxm
   have hnq:=Za (show n+(F x).length<=100000 by
    have:=Ps (5 ^ 5) htk;have:=hpn'.out
    omega)
   have hft':=Za hft;have hFx:Hid (Ud s l1 x.2.1=F x):=Za (by rw[<- hF.out]);have B15:=Za (B14.out.trans ((BR.out.trans (hB5.mono BR.out.size)).mono B14.out.size));have hcl:=Za (hrec.out x.2.1 K q0 q1 q2 q3 q4 q5 q6 q7 q8 q9 g1 lo w1 w5 (hd.out x hxm) (hk1.out x hxm) HN.out B15.out);have BR5:=Za (BR.out.trans (hB5.mono BR.out.size));have R5:=Za (Zx hrow'.out hB5);have k5:=(hB5.block _ (Qa.1 k4).1).trans k4;replace hx:=Za hx;replace hpf:=Za hpf;replace hs5:=Za hs5;clear FX HR hft hq5 htk hny hB5 hg5 hrow' BR n4 k4 hxm
   go_upto_region 8 with fail
   clear hw5 z0 z1 z2 z3 z4;obtain⟨s0,s1,s2,s3,s4,s5,s6,s7,s8,s9,s10,_⟩:=Zg k5;clear k5
   go_wp2_with fail
   with_reducible refine hcl.out.mono ?_
   rintro e w6 ⟨U,ym,uc,qs,rfl,hqn,hqm,hqi,hqc,_,hb6⟩;have hnm:n+ym<=100000:=by
    have hyl:ym=(F x).length:=by rw[<- hqn,<- hFx.out,<- hqm,Qp]
    have:=hnq.out;omega
   obtain⟨A',c',w',hap,hrow2,hlb⟩:=Z3v (d:=uc) hpn'.out hqn (Zx R5.out hb6) hqc (fun p hp=>Zzt (hqi p hp).2) hnm (by have:=(BR5.out.trans (hb6.mono BR5.out.size)).size;omega);have hgb:=Za ((BR5.out.trans (hb6.mono BR5.out.size)).trans hlb);have hr2:=Za hrow2;have hps:Hid ((ps++qs).length=n+ym):=Za (by rw[Qr,hpn'.out,hqn]);have hpm:Hid ((ps++qs).map (·.1)=(l.take (k+1)).flatMap F):=Za (by rw[hft'.out,List.map_append,hqm,hFx.out]);have hpj:Hid (∀ p∈ps++qs,InI p.1/\rBy (New lo w1) w1 [p.2] p.1.2.2):=Za fun p hp=>(Qh.1 hp).elim (hpi'.out p) (hqi p)
   replace hqn:=Za hqn;replace hnm:=Za hnm;clear hqm hqi hqc hb6 hrow2 hlb s0 s1 s2 s3 s4 s5 s6 s7 s8 s9 s10 c0' c1' c2' c3' c4'
   go_wp2_with (at_builtin;refine Zu rfl _ _ 57 rfl rfl rfl hap ?_)
   go_roundw
   case rel=>exact⟨k+1,n+ym,A',c',ps++qs,by omega,by go_num,rfl,hps.out,hpm.out,hpj.out,hr2.out,hgb.out⟩
   case measure=>simp[intOf];omega}
theorem Z46 (s:Rm):∀ l:Nat,l<=5->Z5c s l:=by
 intro l
 induction l using Px with
 | ind l ih=>exact fun hl=>Z2r s l hl fun j hj=>ih j (by omega) (by omega)
def Zot (nx:Int) (x:It):Option Vl:=match Zeg x with
 | none=>none
 | some v=>if 0<v.1/\v.1<nx then some v else none
theorem Zuz {nx:Int}{x:It}{v:Vl}(h:Zot nx x=some v):Zeg x=some v/\0<v.1/\v.1<nx:=by{
 unfold Zot at h;cases hv:Zeg x with
 | none=>rw[hv] at h;cases h
 | some u =>
  rw[hv] at h
  dsimp only at h
  split at h
  ·cases h
   rename_i hh
   exact⟨rfl,hh⟩
  ·cases h}
theorem Zyw {nx:Int}{x:It}(h:Zeg x=none):Zot nx x=none:=by
 unfold Zot;rw[h]
theorem Zyr {nx:Int}{x:It}{v:Vl}(h:Zeg x=some v) (hn:¬ (0<v.1/\v.1<nx)):Zot nx x=none:=by
 unfold Zot;rw[h];exact if_neg hn
theorem Zte {nx:Int}{x:It}{v:Vl}(h:Zeg x=some v) (hn:0<v.1/\v.1<nx):Zot nx x=some v:=by
 unfold Zot;rw[h];exact if_pos hn
def Xk (nx:Int):List It->Option (List Vl)
 | []=>some []
 | x::r=>match Zot nx x with
  | none=>none
  | some v=>match Xk nx r with
   | none=>none
   | some vs=>some (v::vs)
theorem Zh9 (nx:Int) (x:It) (r:List It):Xk nx (x::r)=match Zot nx x with
  | none=>none
  | some v=>match Xk nx r with
   | none=>none
   | some vs=>some (v::vs):=rfl
theorem Zgj (nx:Int):∀ (P Q:List It),Xk nx (P++Q)=match Xk nx P with
  | none=>none
  | some a=>match Xk nx Q with
   | none=>none
   | some b=>some (a++b)
 | [],Q=>by
  rw[Pj];show _=match Xk nx Q with | none=>none | some b=>some ([]++b)
  cases Xk nx Q <;> rfl
 | x::r,Q=>by
  rw[Ph,Zh9,Zh9];cases Zot nx x with
  | none=>rfl
  | some v =>
   dsimp only
   rw[Zgj nx r Q];cases Xk nx r with
   | none=>rfl
   | some a =>
    dsimp only
    cases Xk nx Q <;> rfl
theorem Zmn {nx:Int}{P:List It}{vs:List Vl}{x:It}{v:Vl}(h:Xk nx P=some vs) (hx:Zot nx x=some v):Xk nx (P++[x])=some (vs++[v]):=by
 have:Xk nx [x]=some [v]:=by
  unfold Xk;rw[hx];rfl
 rw[Zgj,h,this]
theorem Zhp {nx:Int}{L:List It}{k:Nat}{x:It}(hk:L[k]? = some x) (hx:Zot nx x=none):Xk nx L=none:=by{
 obtain⟨h1,e1⟩:=Qg.1 hk;have e:L=L.take k++(x::L.drop (k+1)):=by
  rw[<- e1,Qa3,Pe]
 have:Xk nx (x::L.drop (k+1))=none:=by
  unfold Xk;rw[hx]
 rw[e,Zgj,this];cases Xk nx (L.take k) <;> rfl}
theorem Ziy {nx:Int}:∀ {L:List It}{vs:List Vl},Xk nx L=some vs->L=vs.map Ym/\∀ v∈vs,Zeg (Ym v)=some v/\0<v.1/\v.1<nx
 | [],vs,h=>by
  unfold Xk at h;cases h;exact⟨rfl,fun v hv=>by cases hv⟩
 | x::r,vs,h=>by
  unfold Xk at h;cases h1:Zot nx x with
  | none=>rw[h1] at h;cases h
  | some v =>
   rw[h1] at h
   dsimp only at h
   cases h2:Xk nx r with
   | none=>rw[h2] at h;cases h
   | some ws =>
    rw[h2] at h;cases h;obtain⟨e1,e2⟩:=Ziy h2;obtain⟨q1,q2⟩:=Zuz h1;have e:=Zow q1;refine⟨by rw[List.map_cons,e,<- e1],fun u hu=> ?_⟩;rcases Ql.1 hu with rfl | hu
    ·rw[e];exact⟨q1,q2⟩
    ·exact e2 u hu
abbrev Pl:=Rm×Int×Int×Int×List Int
def Zy:List Int:=Qbe 256 0
def Z0t (s:Rm) (R:List Int):Bool:=(Py 256).all fun i=>decide (R[i]?.getD 0<=((s.2.1[i]?.getD 0).toNat:Int))
def Y7 (p:Pl):Option (List Vl×Sg) :=
 if 40<p.2.2.2.2.length then none else
  if (Z8 p.1 [p.2.2.1] ([],Zy)).1=false then none else
   if 16<(Zc7 p.1 p.2.2.1).length then none else
    match Xk p.2.2.2.1 (Zc7 p.1 p.2.2.1) with
    | none=>none
    | some vs =>
     if (Z8 p.1 (vs.map fun v=>v.2.1) (Z8 p.1 [p.2.2.1] ([],Zy)).2).1=false then none else
      if (Z8 p.1 p.2.2.2.2 (Z8 p.1 (vs.map fun v=>v.2.1) (Z8 p.1 [p.2.2.1] ([],Zy)).2).2).1=false then none else
       if Z0t p.1 (Z8 p.1 p.2.2.2.2 (Z8 p.1 (vs.map fun v=>v.2.1) (Z8 p.1 [p.2.2.1] ([],Zy)).2).2).2.2=true then
        some (vs,(Z8 p.1 p.2.2.2.2 (Z8 p.1 (vs.map fun v=>v.2.1) (Z8 p.1 [p.2.2.1] ([],Zy)).2).2).2) else none
def Zd6 (p:Pl):Int:=if (Y7 p).isSome then 0 else 8
theorem Znm (s:Rm):Gg s ([],Zy) 0:=by
 refine⟨Qbf,fun k=> ?_,Qe _,fun m hm=>by cases hm⟩;have:Zy[k]?.getD 0=0:=by
  unfold Zy;rw[Qai];split <;> rfl
 show 0<=Zy[k]?.getD 0/\Zy[k]?.getD 0<=((0:Nat):Int);rw[this];omega
structure Z4m (p:Pl) (vs:List Vl) (g:Sg):Prop where
 gg:Gg p.1 g 100000000
 may:ckE p.1 p.2.2.1=0
 all:Zc7 p.1 p.2.2.1=vs.map Ym
 vols:∀ v∈vs,Zeg (Ym v)=some v/\0<v.1/\v.1<p.2.2.2.1
 few:vs.length<=16
 dead:p.2.2.2.2.length<=40
 root:p.2.2.1∈g.1
 roots:∀ v∈vs,v.2.1∈g.1
 cnt:Z0t p.1 g.2=true
theorem Zoc {s:Rm}{L:List Int}{g:Sg}(h:¬ (Z8 s L g).1=false):Z8 s L g=(true,(Z8 s L g).2):=by
 rcases hh:Z8 s L g with ⟨b,q⟩;rw[hh] at h;cases b
 ·exact absurd rfl h
 ·rfl
theorem look_ok {p:Pl}{vs:List Vl}{g:Sg}(h:Y7 p=some (vs,g)):Z4m p vs g:=by{
 unfold Y7 at h;split at h
 ·cases h
 rename_i h1
 split at h
 ·cases h
 rename_i h2
 split at h
 ·cases h
 rename_i h3
 split at h
 ·cases h
 rename_i ws h4
 split at h
 ·cases h
 rename_i h5
 split at h
 ·cases h
 rename_i h6
 split at h
 ·rename_i h7
  have e1:=Zoc h2;have e2:=Zoc h5;have e3:=Zoc h6;generalize (Z8 p.1 [p.2.2.1] ([],Zy)).2=g1 at *;generalize (Z8 p.1 (ws.map fun v=>v.2.1) g1).2=g2 at *;generalize (Z8 p.1 p.2.2.2.2 g2).2=g3 at *;cases h;obtain⟨a1,a2,a3⟩:=Zbs _ _ _ _ (Znm p.1) e1;obtain⟨b1,b2,b3⟩:=Zbs _ _ _ _ a1 e2;obtain⟨c1,c2,c3⟩:=Zbs _ _ _ _ b1 e3;obtain⟨v1,v2⟩:=Ziy h4;have hl:vs.length<=16:=by rw[v1,Qp] at h3;omega
  refine⟨c1.mono ?_,?_,v1,v2,hl,by omega,c2.keys _ (b2.keys _ (a3 _ (Qk.2 rfl))),fun v hv=>c2.keys _ (b3 _ (Qa4.2 ⟨v,hv,rfl⟩)),h7⟩
  ·rw[Qp]
   simp only[Q3,Qah];omega
  ·by_cases hc:p.2.2.1∈(([],Zy):Sg).1\/ckE p.1 p.2.2.1=0
   ·exact hc.resolve_left (fun h=>by cases h)
   ·have:=Zgz (r:=[]) hc
    rw[e1] at this;cases this
 ·cases h}
section
variable {s : Rm}{gen root next : Int}{dead : List Int}{G1 G2 G3 : Sg}{vs : List Vl}
theorem Z02 (h:40<dead.length):Y7 (s,gen,root,next,dead)=none:=by
 unfold Y7;rw[if_pos h]
theorem Zv7 (h:(Z8 s [root] ([],Zy)).1=false):Y7 (s,gen,root,next,dead)=none:=by
 unfold Y7;split
 ·rfl
 ·first | rfl | rw[if_pos h]
theorem Z4n (h:16<(Zc7 s root).length):Y7 (s,gen,root,next,dead)=none:=by{
 unfold Y7;split
 ·rfl
 ·split
  ·rfl
  ·first | rfl | rw[if_pos h]}
theorem Z1i (h:Xk next (Zc7 s root)=none):Y7 (s,gen,root,next,dead)=none:=by{
 unfold Y7;split
 ·rfl
 ·split
  ·rfl
  ·split
   ·rfl
   ·rw[h]}
theorem Z1r (h1:Z8 s [root] ([],Zy)=(true,G1)) (hv:Xk next (Zc7 s root)=some vs) (h:(Z8 s (vs.map fun v=>v.2.1) G1).1=false):Y7 (s,gen,root,next,dead)=none:=by{
 unfold Y7
 dsimp only
 rw[hv,h1];split
 ·rfl
 ·split
  ·rfl
  ·split
   ·rfl
   ·dsimp only
    rw[if_pos h]}
theorem Zxz (h1:Z8 s [root] ([],Zy)=(true,G1)) (hv:Xk next (Zc7 s root)=some vs) (h2:Z8 s (vs.map fun v=>v.2.1) G1=(true,G2)) (h:(Z8 s dead G2).1=false):Y7 (s,gen,root,next,dead)=none:=by{
 unfold Y7
 dsimp only
 rw[hv,h1]
 dsimp only
 rw[h2]
 dsimp only
 rw[if_pos h];simp}
theorem Zp9 (hd:¬ 40<dead.length) (h16:¬ 16<(Zc7 s root).length) (h1:Z8 s [root] ([],Zy)=(true,G1)) (hv:Xk next (Zc7 s root)=some vs) (h2:Z8 s (vs.map fun v=>v.2.1) G1=(true,G2)) (h3:Z8 s dead G2=(true,G3)):Y7 (s,gen,root,next,dead)=if Z0t s G3.2=true then some (vs,G3) else none:=by{
 unfold Y7
 dsimp only
 rw[hv,h1]
 dsimp only
 rw[h2]
 dsimp only
 rw[h3,if_neg hd,if_neg (by simp),if_neg h16,if_neg (by simp),if_neg (by simp)]}
end
def rVl:Rel Vl:=Zjl (rK .u32) (Zjl (rK .i64) (Zjl Z3y (rK .u32)))
theorem Yq:Zc3 rVl:=V9 (Xm _) (V9 (Xm _) (V9 Ztm (Xm _)))
theorem Z4v {ok:Qbj->Prop}{w:Qbh}{v:Vl}(h:InV v):rVl ok w [.int .u32 v.1,.int .i64 v.2.1,.bool v.2.2.1,.int .u32 v.2.2.2] v:=by
 obtain⟨⟨a0,a1⟩,⟨b0,b1⟩,c0,c1⟩:=h;refine⟨[_],_,rfl,⟨rfl,?_,?_⟩,[_],_,rfl,⟨rfl,?_,?_⟩,[_],_,rfl,rfl,⟨rfl,?_,?_⟩⟩ <;> simp[IntKind.min,IntKind.max,IntKind.signed,IntKind.bits] <;> omega
theorem Zyd {ok:Qbj->Prop}{w:Qbh}{cs:List Qbi}{v:Vl}(h:rVl ok w cs v):cs=[.int .u32 v.1,.int .i64 v.2.1,.bool v.2.2.1,.int .u32 v.2.2.2]:=by
 obtain⟨_,_,rfl,⟨rfl,_⟩,_,_,rfl,⟨rfl,_⟩,_,_,rfl,rfl,⟨rfl,_⟩⟩:=h;rfl
theorem Zvp:(Tryz.prog.info? 40).map (fun i=>(i.zero,i.size,i.bytes))=some (some (.agg #[.int .u32 0,.int .i64 0,.bool false,.int .u32 0]),4,24):=by kernel_rfl
theorem Zze {w:Qbh}{lo:Nat}{A:Option Qbj}{c:Nat}{xs:List Vl}(h:Yn rVl 4 40 lo w A c xs) (g:Nat) (v:Vl) (m n:Nat) (hn:xs.length=n) (hg:w.heap[g]? = some (.cells #[.int .u32 v.1,.int .i64 v.2.1,.bool v.2.2.1,.int .u32 v.2.2.2] 40 (0,0))) (hs:n<100000) (hbase:lo<=w.heap.size) (hin:InV v) :
  ∃ A' c' w',(Pr #[35,35] 35 #[.slice A n c,.slice (some ⟨g,0,none⟩) 1 m]).run Tryz.prog w=.ok (.slice A' (n+1) c') w'/\Yn rVl 4 40 lo w' A' c' (xs++[v])/\w.grownBy w' (A.map (·.block))/\Qbp lo w w':=by{
 subst hn;obtain⟨i0,hi,hz0,hz1,hz2⟩:=info_parts Zvp
 exact Yn.push Yq h 35 35 i0 (.agg #[.int .u32 0,.int .i64 0,.bool false,.int .u32 0]) 24 Tryz.underlying35 hi hz0 hz1 hz2 rfl (by decide) ⟨g,0,none⟩ m _ v rfl (World.news_of_block (cs:=#[.int .u32 v.1,.int .i64 v.2.1,.bool v.2.2.1,.int .u32 v.2.2.2]) hg) (fun u hu=>by
  simp at hu
  rcases hu with rfl | rfl | rfl | rfl <;> rfl) (by unfold maxLen;omega) (by omega) hbase (Z4v hin)}
theorem Z4b {lo:Nat}{w1 w':Qbh}{u:Option Qbj}{n c:Nat}{ps:List Iv}{L:List It}(hn:ps.length=n) (hL:ps.map (·.1)=L) (hi:∀ p∈ps,InI p.1/\rBy (New lo w1) w1 [p.2] p.1.2.2) (hC:Zmd w' w'.heap.size u (Zl ps)) (hc:n<=c/\c<=9223372036854775807) (hb:Qbp w1.heap.size w1 w'):Zaa (Old w') w' [.slice u n c] L:=by
 subst hL;refine⟨u,c,by rw[Qp,hn],by rw[Qp,hn];exact hc.1,hc.2,fun i x hx=> ?_⟩;rw[Qa5] at hx;obtain⟨p,hp,rfl⟩:=Option.map_eq_some_iff.1 hx;obtain⟨h1,h2⟩:=hi p (Pi hp);obtain⟨ad,rfl,_,_⟩:=hC _ _ (Za4 hp 0 _ rfl);refine⟨ad,Zah p,rfl,rfl,fun j v hj=> ?_,Zwd h1 (Zf _ _ _ _ _ _ (fun q v hq hc=>⟨Qm hq.2.1 hb.size,(hb.cell hq.2.1).trans hc⟩) h2)⟩;obtain⟨ad',e,h3,h4⟩:=hC _ _ (Za4 hp j v hj);cases e;exact⟨by show (ad.add _).block<_;rw[Zh];exact h3,h4⟩
theorem Zky (q0 q1 q2 q3 q4 q5 q7 q8 q9 q10:Qbi) (nx i:Int) (w:Qbh) :
  Qbn Tryz.prog 62 #[.agg #[q0,q1,q2,q3,q4,q5,.int .u32 nx,q7,q8,q9,q10],.int .u32 i] w fun e w'=>e=.returned (.bool (decide (0<i/\i<nx)))/\Qbp w.heap.size w w':=by{
 obtain⟨w1,hw1,k1,hs1,hB1⟩:=Ue w q0 q1 q2 q3 q4 q5 (.int .u32 nx) q7 q8 q9 q10 71;obtain⟨s0,s1,s2,s3,s4,s5,s6,s7,s8,s9,s10,_⟩:=Zg k1;have B1:=Za hB1;clear hB1 k1 hs1;obtain⟨bq,hbq⟩:∃ q,decide (0<i/\i<nx)=q:=⟨_,rfl⟩
 rw[hbq];by_cases h0:0<i
 ·by_cases h1:i<nx
  ·obtain rfl:bq=true:=by rw[<- hbq];exact decide_eq_true ⟨h0,h1⟩
   clear hbq
   go_enter Tryz.func62,Tryz.ntmps62
   go_upto_region 1 with fail
   clear hw1
   go_wp2_with fail
   go_ret;exact⟨rfl,B1.out⟩
  ·obtain rfl:bq=false:=by rw[<- hbq];exact decide_eq_false (by omega)
   clear hbq
   go_enter Tryz.func62,Tryz.ntmps62
   go_upto_region 1 with fail
   clear hw1
   go_wp2_with fail
   go_ret;exact⟨rfl,B1.out⟩
 ·obtain rfl:bq=false:=by rw[<- hbq];exact decide_eq_false (by omega)
  clear hbq
  go_enter Tryz.func62,Tryz.ntmps62
  go_upto_region 1 with fail
  clear hw1
  go_wp2_with fail
  go_ret;exact⟨rfl,B1.out⟩}
def vsE (nx:Int) (L:List It):Int:=if 16<L.length then 8 else if (Xk nx L).isSome then 0 else 8
def vsL (nx:Int) (L:List It):List Vl:=if 16<L.length then [] else (Xk nx L).getD []
theorem Zjr (ok:Qbj->Prop) (w:Qbh):rSl 4 rVl ok w [.slice none 0 0] []:=⟨none,0,rfl,by simp,by omega,fun i x h=>by simp at h⟩
theorem Z4j {x:It}{v:Vl}(hx:InI x) (h:Zeg x=some v):InV v:=by
 obtain⟨a,b,c,d,e,f⟩:=Z4p hx h;exact⟨⟨a,b⟩,⟨c,d⟩,e,f⟩
theorem Z0r {x:It}{v:Vl}(h:Zeg x=some v):Zt6 x=0/\Ztq x=v:=by
 unfold Zt6 Ztq;rw[h];exact⟨rfl,rfl⟩
theorem Z3b {x:It}(h:Zeg x=none):Zt6 x=8/\Ztq x=Vf:=by
 unfold Zt6 Ztq;rw[h];exact⟨rfl,rfl⟩
def Z4e (nx:Int) (L:List It) (w:Qbh):Qbo->Qbh->Prop:=fun e w'=>∃ (A:Option Qbj) (n c:Nat),e=.returned (.tuple #[.slice A n c,.int .i64 (vsE nx L)])/\rSl 4 rVl (New w.heap.size w') w' [.slice A n c] (vsL nx L)/\Qbp w.heap.size w w'
theorem Zod (s:Rm) (a nx:Int) (q0 q1 q2 q3 q4 q7 q9 q10:Qbi) (K:List Int) (g1 lo:Nat) (w:Qbh) (hT:ckE s a=0) (hK:∀ b∈Zql s a,b∈K) (hN:NMp s lo g1 K w) :
  Qbn Tryz.prog 58 #[.agg #[q0,q1,q2,q3,q4,.int .i64 a,.int .u32 nx,q7,.map (some g1),q9,q10]] w (Z4e nx (Zc7 s a) w):=by{
 obtain⟨hat,hl5⟩:=Zdi hT;obtain⟨w1,hw1,k1,hs1,hB1⟩:=Ue w q0 q1 q2 q3 q4 (.int .i64 a) (.int .u32 nx) q7 (.map (some g1)) q9 q10 71;have hIt:=Za (Z46 s _ hl5 a K q0 q1 q2 q3 q4 (.int .i64 a) (.int .u32 nx) q7 q9 q10 g1 lo w w1 hat hK hN hB1);unfold FiR at hIt;obtain⟨L,hL⟩:∃ q,Ud s (rmV s a).1.toNat a=q:=⟨_,rfl⟩
 rw[hL] at hIt;rw[show Zc7 s a=L from hL];have K1:=Za k1;have B1:=Za hB1;obtain⟨s0,s1,s2,s3,s4,s5,s6,s7,s8,s9,s10,_⟩:=Zg k1;replace hs1:=Za hs1;replace hL:=Za hL;clear k1 hB1 hN hK hT hat hl5
 go_enter Tryz.func58,Tryz.ntmps58
 go_upto_region 1 with fail
 clear hw1
 go_wp2_with fail
 with_reducible refine hIt.out.mono ?_
 rintro e w3 ⟨U,n,c,ps,rfl,hpn,hpm,hpi,hpc,hnc,hb3⟩;have B3:=Za (B1.out.trans (hb3.mono B1.out.size));have hR:=Za (Z4b hpn hpm hpi hpc hnc B3.out);have K3:=Za ((hb3.block _ (Qa.1 K1.out).1).trans K1.out);have hLn:L.length=n:=by rw[<- hpm,Qp,hpn]
 have hn63:n<=9223372036854775807:=by omega
 have hln:=Za hLn;clear hpn hpm hpi hpc hnc hb3 hIt K1 s0 s1 s2 s3 s4 s5 s6 s7 s8 s9 s10;by_cases h16:16<n
 ·have hE:Hid (vsE nx L=8/\vsL nx L=[]):=Za ⟨if_pos (by omega),if_pos (by omega)⟩
  clear hLn
  go_wp2_with fail
  go_ret2
  exact⟨none,0,0,by rw[hE.out.1];rfl,by rw[hE.out.2];exact Zjr _ _,B3.out⟩
 have hE:Hid (∀ o,Xk nx L=o->vsE nx L=(if o.isSome then 0 else 8)/\vsL nx L=o.getD []):=Za fun o ho=>by
  subst ho;exact⟨if_neg (by omega),if_neg (by omega)⟩
 clear hLn
 go_wp2_with fail
 go_loopw [20,5] (fun vi vo wr=>∃ (k:Nat) (Q:Option Qbj) (qc:Nat) (vs:List Vl),k<=n/\vi=.int .i64 k/\vo=.slice Q k qc/\vs.length=k/\Xk nx (L.take k)=some vs/\Yn rVl 4 40 w3.heap.size wr Q qc vs/\Qbp w3.heap.size w3 wr) (fun vi _ _=>n-(intOf vi).toNat)
 case atStart=>exact⟨0,none,0,[],by omega,rfl,rfl,rfl,rfl,Yn.nil _ _ _ _ _,Qb _ _⟩
 case round =>
 obtain⟨k,Q,qc,vs,hk,rfl,rfl,hvl,hvs,hrow,hbr⟩:=hrel;have BR:=Za hbr;have RW:=Za hrow;have k3:=Za ((hbr.block _ (Qa.1 K3.out).1).trans K3.out);have hRr:=Xn.old hR.out hbr;have HV:=Za hvl;have HG:=Za hvs;clear hbr hrow hvl hvs;by_cases hlt:k<n
 case neg =>
  obtain rfl:k=n:=by omega
  obtain⟨e1,e2⟩:=hE.out (some vs) (by
   have:=HG.out;rw[Qj (by rw[hln.out];exact Qe _)] at this
   exact this)
  have e1':Hid (vsE nx L=0):=Za e1;have e2':Hid (vsL nx L=vs):=Za e2;have hrel:=(Yn.low Yq RW.out B3.out.size).rel Yq;rw[HV.out] at hrel;have hr':=Za hrel;have BF:=Za (B3.out.trans (BR.out.mono B3.out.size));clear e1 e2 hrel hRr
  go_wp2_with fail
  go_ret2
  exact⟨Q,k,qc,by rw[e1'.out];rfl,by rw[e2'.out];exact hr'.out,BF.out⟩
 obtain⟨x,hx⟩:∃ x,L[k]? = some x:=⟨_,Qf (by rw[hln.out];exact hlt)⟩
 obtain⟨ad,E5,ce5,rfl,_,_,hxi,FX⟩:=Vi hRr hx;obtain⟨⟨z0,z1,z2,z3,z4⟩,_⟩:=FX _ (Qb _ _);obtain⟨w5,hw5,c0',c1',c2',c3',c4',hs5,hB5,hg5⟩:=Z0 wr (.int .u8 (x.1.1.toNat:Int)) (.int .u32 x.1.2.1) (.int .u32 x.1.2.2) (.int .i64 x.2.1) (.slice E5 x.2.2.length ce5) 79;have HC:=Za (Zmg _ x w5 (FX w5 hB5).2);have hxi':=Za hxi;have hx':=Za hx;have i4:(0:Int)<=(k:Int):=by omega
 have i5:(k:Int)<(n:Int):=by omega
 have BR5:=Za (BR.out.trans (hB5.mono BR.out.size));have k5:=Za ((hB5.block _ (Qa.1 k3.out).1).trans k3.out);have R5:=Za (Yn.below Yq RW.out hB5)
 have htk:=Za (show L.take (k+1)=L.take k++[x] by
  obtain⟨h1,e1⟩:=Qg.1 hx
  rw[<- Qt h1,e1])
 replace hs5:=Za hs5;clear FX hRr hx hxi hB5 hg5 k3 RW BR
 go_upto_region 8 with fail
 clear hw5 z0 z1 z2 z3 z4
 go_wp2_with fail
 with_reducible refine HC.out.mono ?_
 rintro e w6 ⟨rfl,hb6⟩;have B36:=Za (BR5.out.trans (hb6.mono BR5.out.size));have k6:=Za ((hb6.block _ (Qa.1 k5.out).1).trans k5.out);have R6:=Za (Yn.below Yq R5.out hb6);clear hb6 HC k5 R5 BR5 c0' c1' c2' c3' c4';cases hv:Zeg x with
 | none =>
  obtain⟨v1,v2⟩:=Z3b hv;have hnone:=Zhp hx'.out (Zyw (nx:=nx) hv);obtain⟨e1,e2⟩:=hE.out none hnone;have e1':Hid (vsE nx L=8):=Za e1;have e2':Hid (vsL nx L=[]):=Za e2;have BF:Hid (∀ o,Qbp w.heap.size w (w6.alloc o)):=Za fun o=>(B3.out.trans (B36.out.mono B3.out.size)).alloc (B3.out.trans (B36.out.mono B3.out.size)).size o
  rw[v1,v2];unfold vlV Vf;clear e1 e2 v1 v2 hnone hv
  go_wp2_with fail
  go_ret2
  exact⟨none,0,0,by rw[e1'.out];rfl,by rw[e2'.out];exact Zjr _ _,BF.out _⟩
 | some v =>
  obtain⟨v1,v2⟩:=Z0r hv;have hin:=Z4j hxi'.out hv;rw[v1,v2];have HI:=Za hin;have hv':=Za hv;obtain⟨vi,vr,vf,vo⟩:=v;obtain⟨w7,hw7,b7,hs7,hB7⟩:=Xp w6 (.int .u32 vi) (.int .i64 vr) (.bool vf) (.int .u32 vo) 40;have k7:=(hB7.block _ (Qa.1 k6.out).1).trans k6.out;have B37:=Za (B36.out.trans (hB7.mono B36.out.size));have R7:=Za (Yn.below Yq R6.out hB7);have N7:=Za b7;obtain⟨gb,hgb⟩:∃ q,decide (0<vi/\vi<nx)=q:=⟨_,rfl⟩
  have hcg:=Zky q0 q1 q2 q3 q4 (.int .i64 a) q7 (.map (some g1)) q9 q10 nx vi w7;rw[hgb] at hcg;have hcg':=Za hcg;replace hs7:=Za hs7;clear v1 v2 hin hv hB7 b7 hcg k6 R6 B36;unfold vlV
  go_upto_region 9 with fail
  clear hw7;obtain⟨s0,s1,s2,s3,s4,s5,s6,s7,s8,s9,s10,_⟩:=Zg k7;obtain⟨t0,t1,t2,t3,_⟩:=Ze N7.out;have k7':=Za k7;clear k7
  go_wp2_with fail
  with_reducible refine hcg'.out.mono ?_
  rintro e w8 ⟨rfl,hb8⟩;have n8:=(hb8.block _ (Qa.1 N7.out).1).trans N7.out;have B38:=B37.out.trans (hb8.mono B37.out.size);have R8:=Yn.below Yq R7.out hb8;clear s0 s1 s2 s3 s4 s5 s6 s7 s8 s9 s10 t0 t1 t2 t3 k7' hb8;cases gb with
  | false =>
   have hnone:=Zhp hx'.out (Zyr (nx:=nx) hv'.out (of_decide_eq_false hgb));obtain⟨e1,e2⟩:=hE.out none hnone;have e1':Hid (vsE nx L=8):=Za e1;have e2':Hid (vsL nx L=[]):=Za e2;have BF:=Za (B3.out.trans (B38.mono B3.out.size));replace hgb:=Za hgb;clear e1 e2 hnone n8 B38 R8
   go_wp2_with fail
   go_ret2
   exact⟨none,0,0,by rw[e1'.out];rfl,by rw[e2'.out];exact Zjr _ _,BF.out⟩
  | true =>
   have hone:=Za (Zmn HG.out (Zte (nx:=nx) hv'.out (of_decide_eq_true hgb)));obtain⟨t0,t1,t2,t3,_⟩:=Ze n8;obtain⟨w9,hw9,b9,hs9,hB9⟩:=Xp w8 (.int .u32 vi) (.int .i64 vr) (.bool vf) (.int .u32 vo) 40;have hB39:=B38.trans (hB9.mono B38.size);obtain⟨A',c',w',hap,hrow2,_,hlb⟩:=Zze (Yn.below Yq R8 hB9) w8.heap.size (vi,vr,vf,vo) 1 k HV.out b9 (by have:=hln.out;omega) hB39.size HI.out;have hgbB:=Za (hB39.trans hlb);have hr2:=Za hrow2;replace hgb:=Za hgb;replace hs9:=Za hs9;have hlen:Hid ((vs++[(vi,vr,vf,vo)]).length=k+1):=Za (by rw[Qr,HV.out,P7]);have hone':Hid (Xk nx (L.take (k+1))=some (vs++[(vi,vr,vf,vo)])):=Za (by rw[htk.out];exact hone.out);clear n8 B38 R8 hB9 b9 hB39 hrow2 hlb
   go_wp2_with (at_builtin;refine Zu rfl _ _ 35 rfl rfl rfl hap ?_)
   go_roundw
   case rel=>exact⟨k+1,A',c',vs++[(vi,vr,vf,vo)],by omega,by go_num,rfl,hlen.out,hone'.out,hr2.out,hgbB.out⟩
   case measure=>simp[intOf];omega}
def Zwr (nw:List UInt8) (X:List Int):Bool:=(Py 256).all fun i=>decide (X[i]?.getD 0<=((nw[i]?.getD 0).toNat:Int))
theorem Z2i {nw:List UInt8}{X:List Int}{k:Nat}(hk:k<256) (h:((nw[k]?.getD 0).toNat:Int)<X[k]?.getD 0):Zwr nw X=false:=by{
 cases e:Zwr nw X with
 | false=>rfl
 | true =>
  unfold Zwr at e;rw[Qw] at e;have:=of_decide_eq_true (e k (Qbg.2 hk));omega}
theorem Zyj {nw:List UInt8}{X:List Int}(h:∀ k,k<256->X[k]?.getD 0<=((nw[k]?.getD 0).toNat:Int)):Zwr nw X=true:=by
 unfold Zwr;rw[Qw];exact fun k hk=>decide_eq_true (h k (Qbg.1 hk))
theorem Zob (nw:List UInt8) (X:List Int) (q0 q1 q3 q4 q5 q6 q7 q8 q10:Qbi) (N:Option Qbj) (cn g2:Nat) (w:Qbh) (hl:nw.length=256) (hN:rBy (Old w) w [.slice N 256 cn] nw) (hM:Mrk g2 X w) (hX:∀ k:Nat,0<=X[k]?.getD 0) :
  Qbn Tryz.prog 59 #[.agg #[q0,q1,.slice N 256 cn,q3,q4,q5,q6,q7,q8,.slice (some ⟨g2,0,none⟩) 256 256,q10]] w fun e w'=>e=.returned (.bool (Zwr nw X))/\Qbp w.heap.size w w':=by{
 obtain⟨w1,hw1,k1,hs1,hB1⟩:=Ue w q0 q1 (.slice N 256 cn) q3 q4 q5 q6 q7 q8 (.slice (some ⟨g2,0,none⟩) 256 256) q10 71;have hM1:=Za (Zbu _ _ _ _ hM hB1);obtain⟨_,_,e,_,_,hc⟩:=Zp (Zf.old hN hB1);have hcell:=Za (fun i (hi:i<256)=>hc i (by omega));obtain⟨s0,s1,s2,s3,s4,s5,s6,s7,s8,s9,s10,_⟩:=Zg k1;have K1:=Za k1;have B1:=Za hB1;rw[hl] at e;cases e;obtain⟨bq,hbq⟩:∃ q,Zwr nw X=q:=⟨_,rfl⟩
 rw[hbq];have hno:=Za (fun k (hk:k<256) (h:((nw[k]?.getD 0).toNat:Int)<X[k]?.getD 0)=>hbq.symm.trans (Z2i hk h));have hyes:=Za (fun(h:∀ k,k<256->X[k]?.getD 0<=((nw[k]?.getD 0).toNat:Int))=>hbq.symm.trans (Zyj h));replace hbq:=Za hbq;replace hs1:=Za hs1;replace hX:=Za hX;clear hN hM hB1 hc k1 hl
 go_enter Tryz.func59,Tryz.ntmps59
 go_upto_region 1 with fail
 clear hw1
 go_wp2_with fail
 clear s0 s1 s2 s3 s4 s5 s6 s7 s8 s9 s10
 go_loopw [8] (fun vi wr=>∃ k:Nat,k<=256/\vi=.int .i64 k/\(∀ i,i<k->X[i]?.getD 0<=((nw[i]?.getD 0).toNat:Int))/\Qbp w1.heap.size w1 wr) (fun vi _=>256-(intOf vi).toNat)
 case atStart=>exact⟨0,by omega,rfl,fun i hi=>by omega,Qb _ _⟩
 case round =>
 obtain⟨k,hk,rfl,hall,hbr⟩:=hrel;have BR:=Za hbr;have HA:=Za hall;by_cases hlt:k<256
 case neg =>
  obtain rfl:bq=true:=hyes.out fun i hi=>hall i (by omega)
  have BF:=Za (B1.out.trans (hbr.mono B1.out.size));clear hall hbr
  go_wp2_with fail
  go_ret;exact⟨rfl,BF.out⟩
 have hm:=Zbu _ _ _ _ hM1.out hbr;have hc2:=Zch hm hlt;obtain⟨ad,rfl,ho,hc1⟩:=hcell.out k hlt;have hc1':=(hbr.cell ho).trans hc1;obtain⟨zz,hzz⟩:∃ z,X[k]?.getD 0=z:=⟨_,rfl⟩
 obtain⟨yy,hyy⟩:∃ z,((nw[k]?.getD 0).toNat:Int)=z:=⟨_,rfl⟩
 rw[hzz] at hc2;rw[hyy] at hc1';have hy0:0<=yy/\yy<256:=by
  have:=(nw[k]?.getD 0).toNat_lt;omega
 have wr1:IntKind.i64.wrap yy=yy:=Qo _ (by omega);obtain⟨s0,s1,s2,s3,s4,s5,s6,s7,s8,s9,s10,_⟩:=Zg ((hbr.block _ (Qa.1 K1.out).1).trans K1.out);have i4:(0:Int)<=(k:Int):=by omega
 have i5:(k:Int)<256:=by omega
 have hzz':=Za hzz;have hyy':=Za hyy;have BF:=Za (B1.out.trans (hbr.mono B1.out.size));by_cases hlt2:yy<zz
 ·obtain rfl:bq=false:=hno.out k hlt (by rw[hzz,hyy];exact hlt2)
  clear hm hall hbr hc1 ho hzz hyy
  go_wp2_with fail
  go_ret;exact⟨rfl,BF.out⟩
 ·have hA:Hid (∀ i,i<k+1->X[i]?.getD 0<=((nw[i]?.getD 0).toNat:Int)):=Za fun i hi=>by
   rcases Pf i k with h | h
   ·exact hall i h
   ·obtain rfl:i=k:=by omega
    rw[hzz,hyy];omega
  clear hm hall hbr hc1 ho hzz hyy
  go_wp2_with fail
  go_roundw
  case rel=>exact⟨k+1,by omega,by go_num,hA.out,BR.out⟩
  case measure=>simp[intOf];omega}
theorem Zk0 (nw:List UInt8) (X:List Int) (q0 q1 q3 q4 q5 q6 q7 q8 q10:Qbi) (N:Option Qbj) (cn g2:Nat) (a:Nat) (w:Qbh) (hl:nw.length=256) (hN:rBy (Old w) w [.slice N 256 cn] nw) (hM:Mrk g2 X w) (ha:a<256) :
  Qbn Tryz.prog 63 #[.agg #[q0,q1,.slice N 256 cn,q3,q4,q5,q6,q7,q8,.slice (some ⟨g2,0,none⟩) 256 256,q10],.int .i64 a] w fun e w'=>e=.returned (.bool (decide (X[a]?.getD 0<((nw[a]?.getD 0).toNat:Int))))/\Qbp w.heap.size w w':=by{
 obtain⟨w1,hw1,k1,hs1,hB1⟩:=Ue w q0 q1 (.slice N 256 cn) q3 q4 q5 q6 q7 q8 (.slice (some ⟨g2,0,none⟩) 256 256) q10 71;have hm:=Zbu _ _ _ _ hM hB1;obtain⟨_,_,e,_,_,hc⟩:=Zp (Zf.old hN hB1);rw[hl] at e;cases e;obtain⟨ad,rfl,_,hc1⟩:=hc a (by omega);have hc2:=Zch hm ha;obtain⟨zz,hzz⟩:∃ z,X[a]?.getD 0=z:=⟨_,rfl⟩
 obtain⟨yy,hyy⟩:∃ z,((nw[a]?.getD 0).toNat:Int)=z:=⟨_,rfl⟩
 rw[hzz] at hc2;rw[hyy] at hc1;rw[hzz,hyy];have hy0:0<=yy/\yy<256:=by
  have:=(nw[a]?.getD 0).toNat_lt;omega
 have wr1:IntKind.i64.wrap yy=yy:=Qo _ (by omega);obtain⟨s0,s1,s2,s3,s4,s5,s6,s7,s8,s9,s10,_⟩:=Zg k1;have i4:(0:Int)<=(a:Int):=by omega
 have i5:(a:Int)<256:=by omega
 have B1:=Za hB1;replace hzz:=Za hzz;replace hyy:=Za hyy;replace hs1:=Za hs1;clear hN hM hB1 hc k1 hl hm
 go_enter Tryz.func63,Tryz.ntmps63
 go_upto_region 1 with fail
 clear hw1
 go_quiet (fail)
 go_wp2_with fail
 go_ret;exact⟨by simp,Vr B1.out _⟩}
theorem Zv6:∃ vs:Array Qbi,(∀ k,k<256->vs[k]? = some (.int .i64 0))/\∀ W:Qbh,(Instr.makeSlice 31 (.int .i64 256) (.int .i64 256)).run Tryz.prog W=.ok (.slice (some ⟨W.heap.size,0,none⟩) 256 256) (W.alloc (.cells vs 3)):=by{
 obtain⟨i0,hi,hz0,hz1,hz2⟩:=info_parts Zlo;refine⟨madeCells #[.int .i64 0] (256*1),fun k hk=> ?_,fun W=> ?_⟩
 ·have:=Zjk (.int .i64 0) 256
  rw[<- Array.getElem?_toList,this,Qai,if_pos hk]
 ·have h1:=run_make (P:=Tryz.prog) W 31 3 i0 (.int .i64 0) Tryz.underlying31 hi hz0 .i64 .i64 256 256 (by omega) (by omega) (by rw[hz2];omega) (by omega)
  rw[hz1] at h1;exact h1}
theorem Z10 {vs:Array Qbi}(hv:∀ k,k<256->vs[k]? = some (.int .i64 0)) (W:Qbh):Mrk W.heap.size (Qbe 256 0) (W.alloc (.cells vs 3)) :=
 ⟨vs,Qbm _ _,Qbf,fun k hk=>by rw[hv k hk,Qai,if_pos hk];rfl⟩
theorem Z4s {g:Nat}{X:List Int}{W:Qbh}(h:Mrk g X W) (hb:∀ k:Nat,Zdg (X[k]?.getD 0)):rSl 1 (rK .i64) (Old W) W [.slice (some ⟨g,0,none⟩) 256 256] X:=by{
 have hlt:=Z0g h;have hl:X.length=256:=by
  obtain⟨_,_,h1,_⟩:=h;exact h1
 refine⟨some ⟨g,0,none⟩,256,by rw[hl],by omega,by omega,fun i x hx=>⟨⟨g,0,none⟩,[.int .i64 x],rfl,rfl,fun j u hj=> ?_,?_⟩⟩
 ·have hi:i<256:=by
   have:=(Qg.1 hx).1;omega
  have hj0:j=0:=by
   have:=(Qg.1 hj).1;simp at this;exact this
  subst hj0;cases hj;have ea:(⟨g,0,none⟩:Qbj).add (i*1+0)=⟨g,i,none⟩:=by
   unfold Addr.add;split
   ·rename_i e
    have:i=0:=by omega
    subst this;rfl
   ·simp
  rw[ea];refine⟨hlt,?_⟩;rw[Zch h hi,hx];rfl
 ·have:=hb i
  rw[hx] at this;exact Zjx this}
end Go.Proofs.YtmafkphcfkhokaaGreat
