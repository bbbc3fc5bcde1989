/-
  Lemmas on the program and on the document's answers, gathered: DrStack, RmTwin, DrHold, DrRefer, DrRefs, DrRefs2, DrLower, DrGo, DrGo2, DrMk, DrLaw, PuLay, DfPut, DfWay, DfFree, WkTold, PuBack, FnHeld, FnChain, FnEnds, FnStands, PuParts, PuGrow, PuWay, WkNodes, PuGrow2, FnMade, PuSix, FnRef, DlEnd, DfShr, DeLay, DeLow, DeLower. Conditions: those that each lemma states.
-/
import Derived.Test.YtgmbjnajdfgenaaGreatBnd4
import Derived.Test.YtgmbjnajdfgenaaGreatProg
import Derived.RangeFuncNested
import Derived.Shelf.SlIterI.Keys
import Derived.Shelf.SlIterI.Stops
import Derived.Shelf.SlIterI.Sorted
import Derived.Shelf.SortM.Plain
import Derived.Shelf.SortM.SortNone
import Derived.Maps.OwnSet
import Derived.Maps.OwnIn
import Derived.Stop.RegionWithIn
set_option maxRecDepth 100000
set_option maxHeartbeats 16000000
open Array renaming getElem?_eq_some_iff → Qe, replicate_succ → Q9, replicate_zero → Pa, ext_getElem? → P7
open Go renaming World → P9, Value → Qaa, Addr → Qab, TypeId → Qac, bodyPost_ret → Qad, heap_alloc_new → Qae, undef → Qaf, Calls → Qag, Ending → Qah
open Go.Act renaming put → Qb
open Go.Builtin renaming append_ → Qx, lenOf → Py, firstCells → Pz
open Go.IntWalk renaming i64_in → Qn
open Go.RowKit renaming Below → Qai
open Go.RowKit.Below renaming refl → Qa, heap_alloc → Qs, heap_setCell → Pp
open Go.World renaming size_alloc → Qh, putObj_heap_other → Qy, cell?_of_block → Pg, putObj_size → Ph, putObj_heap_same → P3, alloc_heap_new → P4
open List renaming getElem?_eq_getElem → Qf, length_append → Qg, take_succ_cons → Qi, take_zero → Qj, drop_succ_cons → Qk, drop_zero → Ql, length_set → Qo, getElem?_set_ne → Qp, map_cons → Qq, length_cons → Qr, length_take → Qt, cons_append → Qu, take_of_length_le → Qv, nil_append → Qw, length_map → Qz, sum_cons → Q3, mem_of_getElem? → Q4, size_toArray → Q5, length_nil → Q6, push_toArray → Pb, append_toArray → Pc, map_append → Pd, getElem_map → Pe, getElem?_set_self → Pi, length_filter_le → Pj, map_nil → Pk, append_nil → Pm, ext_getElem → Pn, getElem_range → Po, length_reverse → Pq, eq_nil_of_length_eq_zero → Ps, mem_singleton → Pt, reverse_append → Pu, getElem?_append_right → Pv, mem_append → Pw, getElem?_eq_none → Px
open Nat renaming le_trans → Qc, le_refl → Qd, lt_of_lt_of_le → Qm, reduceAdd → Q7, reduceSub → Q8, zero_add → Pf, min_eq_left → Pr, strongRecOn → P5, lt_succ_self → P8
noncomputable section
namespace Go.Proofs.YtgmbjnajdfgenaaGreat
open Go.RowKit
abbrev Rf:=Int×Int
def Rfd (x:Rf):Prop:=8<=x.1/\x.1<256 /\ -1<=x.2/\x.2<=6
def wkF (d:Dk) (lv:Int) (t:List UInt8) (a:Nat):Option (List UInt8):=if lv=6 then lfO d t a else lvF d (lv+1).toNat t a
def runT (d:Dk):List UInt8->List Rf->Option (List UInt8)
 | t,[]=>some t
 | t,x::l=>(wkF d x.2 t x.1.toNat).bind fun u=>runT d u l
theorem Zq5 (d:Dk):∀ (a b:List Rf) (t:List UInt8),runT d t (a++b)=(runT d t a).bind fun u=>runT d u b
 | [],b,t=>rfl
 | x::a,b,t=>by
  simp only[Qu,runT];cases wkF d x.2 t x.1.toNat with
  | none=>rfl
  | some u=>exact Zq5 d a b u
def Zi3 (lv:Int) (l:List It):List Rf:=(l.filter fun x=>decide (x.2.1≠0)).map fun x=>(x.2.1,lv)
def Zul (n:Nd):List Rf:=Zi3 (n.1-1) n.2
theorem Zr6 (lv:Int):Zi3 lv []=[]:=rfl
theorem Zhv {lv:Int}{x:It}{l:List It}(h:x.2.1=0):Zi3 lv (x::l)=Zi3 lv l:=by simp[Zi3,h]
theorem Zhh {lv:Int}{x:It}{l:List It}(h:x.2.1≠0):Zi3 lv (x::l)=(x.2.1,lv)::Zi3 lv l:=by simp[Zi3,h]
theorem Zsj (lv:Int) (a b:List It):Zi3 lv (a++b)=Zi3 lv a++Zi3 lv b:=by simp[Zi3]
theorem Zsl (lv:Int) (l:List It):(Zi3 lv l).length<=l.length:=by
 rw[Zi3,Qz];exact Pj _ _
theorem Zqi {lv:Int}(h1 : -1<=lv) (h6:lv<=6):∀ {l:List It},Zgp l->∀ x∈Zi3 lv l,Rfd x
 | [],_,x,hx=>by simp[Zi3] at hx
 | y::l,h,x,hx=>by
  obtain⟨r1,r2⟩:=Zia h;rcases r1 with r1 | ⟨k,r1,r8,r256⟩
  ·rw[Zhv r1] at hx
   exact Zqi h1 h6 r2 x hx
  ·rw[Zhh (by omega)] at hx
   rcases List.mem_cons.1 hx with rfl | hx
   ·exact⟨by show 8<=y.2.1;omega,by show y.2.1<256;omega,h1,h6⟩
   ·exact Zqi h1 h6 r2 x hx
theorem Zgv (d:Dk){k:Nat}(hk:k<=6):∀ (l:List It) (t:List UInt8),Xi (lvF d k) t l=runT d t (Zi3 ((k:Int)-1) l)
 | [],t=>rfl
 | x::l,t=>by
  unfold Xi;by_cases h:x.2.1=0
  ·rw[if_pos h,Zhv h]
   exact Zgv d hk l t
  ·rw[if_neg h,Zhh h]
   have e:wkF d ((k:Int)-1) t x.2.1.toNat=lvF d k t x.2.1.toNat:=by
    rw[wkF,if_neg (by omega),show ((k:Int)-1+1).toNat=k by omega]
   show (lvF d k t x.2.1.toNat).bind _=(wkF d ((k:Int)-1) t x.2.1.toNat).bind _;rw[e];cases lvF d k t x.2.1.toNat with
   | none=>rfl
   | some u=>exact Zgv d hk l u
theorem Z2m {d:Dk}{lv:Int}{t:List UInt8}{a:Nat}(h:t[a]?.getD 0=0):wkF d lv t a=none:=by{
 have hd:dnO t a=none:=by rw[dnO,if_pos h]
 unfold wkF;split
 ·rw[lfO,hd];rfl
 ·cases (lv+1).toNat with
  | zero=>exact hd
  | succ l =>
   show lvS d l (lvF d l) t a=none;rw[lvS,hd];rfl}
theorem Zq4 {x:UInt8}(h:x≠0):x-1≠0↔1<x.toNat:=by{
 have h1:=Zj5 h;refine⟨fun e=> ?_,fun e e0=> ?_⟩
 ·have:(x-1).toNat≠0:=fun e'=>e (X7.1 e')
  omega
 ·have:=X7.2 e0
  omega}
def Rdn (d:Dk) (lv:Int) (a:Nat):Prop:=reN (Z4 d a)=0/\(lv=6\/(reV (Z4 d a)).1=lv)
theorem Z3w {d:Dk}{lv:Int}{t:List UInt8}{a:Nat}(h1 : -1<=lv) (h6:lv<=6) (h:t[a]?.getD 0≠0) :
  ((t[a]?.getD 0-1≠0\/lv = -1)/\wkF d lv t a=some (t.set a (t[a]?.getD 0-1))) \/
  (t[a]?.getD 0-1=0/\lv ≠ -1/\¬ Rdn d lv a/\wkF d lv t a=none) \/
  (t[a]?.getD 0-1=0/\lv ≠ -1/\Rdn d lv a/\wkF d lv t a=runT d (t.set a (t[a]?.getD 0-1)) (Zul (reV (Z4 d a)))):=by{
 have hd:=Zfx h;have hlow:reN (Z4 d a)=0->0<=(reV (Z4 d a)).1/\(reV (Z4 d a)).1<6:=fun hr=>by
  obtain⟨⟨s1,s2,_⟩,_⟩:=Zs (Zcz hr).1;exact⟨s1,s2⟩
 by_cases hc:t[a]?.getD 0-1=0
 case neg =>
  refine .inl ⟨.inl hc,?_⟩;have hm:=(Zq4 h).1 hc;unfold wkF;split
  ·rw[lfO,hd]
   show (if 1<(t[a]?.getD 0).toNat then _ else _)=_;rw[if_pos hm]
  ·exact Zrt d _ t a hm
 have hm:¬ 1<(t[a]?.getD 0).toNat:=fun e=>(Zq4 h).2 e hc
 by_cases hl:lv = -1
 ·refine .inl ⟨.inr hl,?_⟩
  subst hl;exact hd
 right
 by_cases h0:lv=6
 ·subst h0
  have e:wkF d 6 t a=if reN (Z4 d a)=0 then Xi (lvF d (reV (Z4 d a)).1.toNat) (t.set a (t[a]?.getD 0-1)) (reV (Z4 d a)).2 else none:=by
   rw[wkF,if_pos rfl,lfO,hd];show (if 1<(t[a]?.getD 0).toNat then _ else _)=_;rw[if_neg hm]
  by_cases hr:reN (Z4 d a)=0
  ·refine .inr ⟨hc,by decide,⟨hr,.inl rfl⟩,?_⟩
   have hq:=hlow hr;rw[e,if_pos hr,Zgv d (by omega),Zul,show (((reV (Z4 d a)).1.toNat:Nat):Int)=(reV (Z4 d a)).1 by omega]
  ·exact .inl ⟨hc,by decide,fun h=>hr h.1,by rw[e,if_neg hr]⟩
 ·obtain⟨l,rfl⟩:∃ l:Nat,lv=l:=⟨lv.toNat,by omega⟩
  have e:wkF d l t a=if reN (Z4 d a)=0/\(reV (Z4 d a)).1=(l:Int) then Xi (lvF d l) (t.set a (t[a]?.getD 0-1)) (reV (Z4 d a)).2 else none:=by
   rw[wkF,if_neg h0,show ((l:Int)+1).toNat=l+1 by omega];show lvS d l (lvF d l) t a=_;rw[lvS,hd];show (if 1<(t[a]?.getD 0).toNat then _ else _)=_;rw[if_neg hm]
  by_cases hr:reN (Z4 d a)=0/\(reV (Z4 d a)).1=(l:Int)
  ·refine .inr ⟨hc,hl,⟨hr.1,.inr hr.2⟩,?_⟩
   rw[e,if_pos hr,Zgv d (by omega),Zul,hr.2]
  ·exact .inl ⟨hc,hl,fun h=>hr ⟨h.1,h.2.resolve_left h0⟩,by rw[e,if_neg hr]⟩}
def Zp6 (t:List UInt8):Nat:=(t.map (·.toNat)).sum
theorem Zx9:∀ t:List UInt8,Zp6 t<=255*t.length
 | []=>by simp[Zp6]
 | x::t=>by
  have h1:=Zx9 t;have h2:=x.toNat_lt;simp only[Zp6,Qq,Q3,Qr] at h1 ⊢;omega
theorem Zxy:∀ {t:List UInt8}{a:Nat},t[a]?.getD 0≠0->Zp6 (t.set a (t[a]?.getD 0-1))+1=Zp6 t
 | [],a,h=>absurd (by simp) h
 | x::t,0,h=>by
  have h':x≠0:=by simpa using h
  have:=Zj5 h';simp only[List.set_cons_zero,Zp6,Qq,Q3,List.getElem?_cons_zero,Option.getD_some];omega
 | x::t,a+1,h=>by
  have h':t[a]?.getD 0≠0:=by simpa using h
  have:=Zxy h';simp only[List.set_cons_succ,Zp6,Qq,Q3,List.getElem?_cons_succ] at this ⊢;omega
def Zrh (s:Rm):Prop:=Zpu s.1/\s.2.1.length<=10000/\s.2.2.length<=10000
theorem Zh8 {s:Rm}(h:Zi0 s=false):Zrh s:=by
 obtain⟨h1,h2,h3⟩:=Zvd h;exact⟨Zji h1,h2,h3⟩
theorem Ztd {s:Rm}(h:Yp s=true):Zrh s:=by
 obtain⟨h1,h2,h3⟩:=Zw h;exact⟨Zcp h1,by rw[Z0 h2];omega,by rw[Z0 h3];omega⟩
theorem Zv4 {lo:Nat}{w1 W W9:P9}{P Q N L:Qaa}{s:Rm}{g:Nat}(hd:Dsk (New w1.heap.size W) W (.agg #[P,Q]) s.1) (hn:rBy (New w1.heap.size W) W [N] s.2.1) (hl:rBy (New w1.heap.size W) W [L] s.2.2) (hg:g<w1.heap.size) (hlo:lo<=w1.heap.size) (gr:W.grownBy W9 (some g)):Sto (New lo W9) W9 (.agg #[P,Q,N,L]) s :=
 Sto.mk ((hd.grown gr (fun q e=>by cases e;exact hg)).new hlo (Qa _ _)) (Zf.new (Zf.grown hn gr (fun q e=>by cases e;exact hg)) hlo (Qa _ _)) (Zf.new (Zf.grown hl gr (fun q e=>by cases e;exact hg)) hlo (Qa _ _))
theorem Zvt (v:Qaa) (s:Rm) (hsm:Zrh s) (w:P9) (h:Sto (Old w) w v s) :
  Qag Tryz.prog 93 #[v] w fun e w'=>∃ A ca B cb N cn L cl,e=.returned (.agg #[.slice A s.1.1.length ca,.slice B s.1.2.length cb,.slice N s.2.1.length cn,.slice L s.2.2.length cl])/\Sto (New w.heap.size w') w' (.agg #[.slice A s.1.1.length ca,.slice B s.1.2.length cb,.slice N s.2.1.length cn,.slice L s.2.2.length cl]) s/\Qai w.heap.size w w':=by{
 obtain⟨A,ca,B,cb,N,cn,L,cl,w1,rfl,hw1,f1,f2,hsz,hB,H⟩:=V3 h;clear h;obtain⟨m0,m1,m2,m3,_,mg⟩:=Ze f1;replace hsz:=Za hsz;replace f1:=Za f1;replace f2:=Za f2;replace hsm:=Za hsm
 go_enter Tryz.func93,Tryz.ntmps93
 go_upto_region 1 with fail
 clear hw1
 refine Z1 (by kernel_rfl) 10 (fun W=>Qai w1.heap.size w1 W) (fun i=>match i with
   | 2=>some (fun v W=>Dsk (New w1.heap.size W) W v s.1)
   | 5=>some (fun v W=>rBy (New w1.heap.size W) W [v] s.2.1)
   | 8=>some (fun v W=>rBy (New w1.heap.size W) W [v] s.2.2)
   | 9=>some (fun v W=>∃ P p Q r Y y X x,v=.agg #[.slice P s.1.1.length p,.slice Q s.1.2.length r,.slice Y s.2.1.length y,.slice X s.2.2.length x]/\Dsk (New w1.heap.size W) W (.agg #[.slice P s.1.1.length p,.slice Q s.1.2.length r]) s.1/\rBy (New w1.heap.size W) W [.slice Y s.2.1.length y] s.2.1/\rBy (New w1.heap.size W) W [.slice X s.2.2.length x] s.2.2)
   | _=>none) (fun _=>none) (by decide) (by kernel_rfl) (by kernel_rfl) (Qa _ _).drew (fun w w' h hb=>h.trans (hb.mono h.size)) ?tst ?_
 case tst =>
  intro j φ x W W' hp hx hb
  match j,hp with
  | 2,hp=>cases hp;exact hx.new (Qd _) hb
  | 5,hp=>cases hp;exact Zf.new hx (Qd _) hb
  | 8,hp=>cases hp;exact Zf.new hx (Qd _) hb
  | 9,hp =>
   cases hp;obtain⟨P,p,Q,r,Y,y,X,x,e1,e2,e3,e4⟩:=hx;exact⟨P,p,Q,r,Y,y,X,x,e1,e2.new (Qd _) hb,Zf.new e3 (Qd _) hb,Zf.new e4 (Qd _) hb⟩
 simp only[Qi,Qj,Qk,Ql]
 repeat (first
  | (refine wpAs_skip rfl ?_;simp only[Qb,Zb,Zc,Zd])
  | (refine wpAs_pure (v := ?_) rfl rfl ?_ ?_;rotate_left;(intro W hC hE;clear hE;(have z0:=(hC.cell (p:=⟨w.heap.size,0,none⟩) mg).trans m0;have z1:=(hC.cell (p:=⟨w.heap.size,1,none⟩) mg).trans m1);clear hC;go_simp;first | done | with_reducible rfl);simp only[Qb,Zb,Zc,Zd]))
 refine wpAs_act rfl rfl ?_ ?_
 ·intro W hC hE
  clear hE;refine does_enter (f:=90) (args:=#[.agg #[.slice A s.1.1.length ca,.slice B s.1.2.length cb]]) ?_ ?_
  ·go_simp
  ·refine(Zq0 _ s.1 W hsm.out.1 (H.out.below hC).parts.1).mono ?_
   rintro e W' ⟨u,rfl,hu,hb⟩;exact⟨_,rfl,hu.new hC.size (Qa _ _),hb⟩
 simp only[Qb,Zb,Zc,Zd,envAdd];intro x5
 repeat (first
  | (refine wpAs_skip rfl ?_;simp only[Qb,Zb,Zc,Zd])
  | (refine wpAs_pure (v := ?_) rfl rfl ?_ ?_;rotate_left;(intro W hC hE;clear hE;(have z2:=(hC.cell (p:=⟨w.heap.size,2,none⟩) mg).trans m2);clear hC;go_simp;first | done | with_reducible rfl);simp only[Qb,Zb,Zc,Zd]))
 refine wpAs_act rfl rfl ?_ ?_
 ·intro W hC hE
  clear hE;refine does_enter (f:=80) (args:=#[.slice N s.2.1.length cn]) ?_ ?_
  ·go_simp
  ·refine(Ui _ s.2.1 W (by have:=hsm.out.2.1;omega) (H.out.below hC).parts.2.1).mono ?_
   rintro e W' ⟨u,rfl,ho,hb⟩;exact⟨_,rfl,Zf.new ho hC.size (Qa _ _),hb⟩
 simp only[Qb,Zb,Zc,Zd,envAdd];intro x8
 repeat (first
  | (refine wpAs_skip rfl ?_;simp only[Qb,Zb,Zc,Zd])
  | (refine wpAs_pure (v := ?_) rfl rfl ?_ ?_;rotate_left;(intro W hC hE;clear hE;(have z3:=(hC.cell (p:=⟨w.heap.size,3,none⟩) mg).trans m3);clear hC;go_simp;first | done | with_reducible rfl);simp only[Qb,Zb,Zc,Zd]))
 refine wpAs_act rfl rfl ?_ ?_
 ·intro W hC hE
  clear hE;refine does_enter (f:=80) (args:=#[.slice L s.2.2.length cl]) ?_ ?_
  ·go_simp
  ·refine(Ui _ s.2.2 W (by have:=hsm.out.2.2;omega) (H.out.below hC).parts.2.2).mono ?_
   rintro e W' ⟨u,rfl,ho,hb⟩;exact⟨_,rfl,Zf.new ho hC.size (Qa _ _),hb⟩
 simp only[Qb,Zb,Zc,Zd,envAdd];intro x11;refine wpAs_act rfl rfl ?_ ?_
 ·intro W hC hE
  have h11:=hE.1 rfl;have h8:=hE.2.1 rfl;have h5:=hE.2.2.1 rfl;obtain⟨X,x,rfl,_⟩:=Zm h11;obtain⟨Y,y,rfl,_⟩:=Zm h8;obtain⟨P,p,Q,r,rfl,_⟩:=h5.open;have h11':=Za h11;have h8':=Za h8;have h5':=Za h5;clear hE hC h11 h8 h5
  go_simp
  exact⟨⟨P,p,Q,r,Y,y,X,x,rfl,h5'.out,h8'.out,h11'.out⟩,Qa _ _⟩
 simp only[Qb,Zb,Zc,Zd,envAdd];intro x12;refine wpAs_end fun W hC hE=> ?_
 obtain⟨⟨P,p,Q,r,Y,y,X,x,rfl,hd,hn,hl⟩,_⟩:=hE;have bW:=(hC.block (w.heap.size+1) (by rw[hsz.out];omega)).trans f2.out;obtain⟨c0,c1,c2,c3,c4,c5⟩:=Ze bW;obtain⟨W9,hW9,g9,gr9,gs9⟩:=Zo (a':=.slice P s.1.1.length p) (b':=.slice Q s.1.2.length r) (c':=.slice Y s.2.1.length y) (d':=.slice X s.2.2.length x) bW;obtain⟨n0,n1,n2,n3,_,_⟩:=Ze g9;have BW:=hB.trans (hC.mono hB.size);have hfin:=Za (Zv4 (lo:=w.heap.size) hd hn hl (by rw[hsz.out];omega) hB.size gr9);have hB9:=Za (BW.grown gr9 BW.size (fun q e=>by cases e;omega));clear hd hn hl gr9 gs9 BW hC;replace bW:=Za bW;replace g9:=Za g9
 go_wp2_with fail
 refine Qad (v:=.agg #[.slice P s.1.1.length p,.slice Q s.1.2.length r,.slice Y s.2.1.length y,.slice X s.2.2.length x]) (by simp[results,Tryz.results93,go_sem,n0,n1,n2,n3]) rfl ?_;exact⟨_,_,_,_,_,_,_,_,rfl,hfin.out,hB9.out⟩}
theorem Znx (v:Qaa) (s:Rm) (hsm:Zrh s) (w:P9) (h:Sto (Old w) w v s) :
  Qag Tryz.prog 15 #[v] w fun e w'=>∃ A ca B cb N cn L cl,e=.returned (.agg #[.slice A s.1.1.length ca,.slice B s.1.2.length cb,.slice N s.2.1.length cn,.slice L s.2.2.length cl])/\Sto (New w.heap.size w') w' (.agg #[.slice A s.1.1.length ca,.slice B s.1.2.length cb,.slice N s.2.1.length cn,.slice L s.2.2.length cl]) s/\Qai w.heap.size w w':=by{
 obtain⟨A,ca,B,cb,N,cn,L,cl,w1,rfl,hw1,f1,f2,hsz,hB,H⟩:=V3 h;clear h;obtain⟨m0,m1,m2,m3,_,mg⟩:=Ze f1;replace hsz:=Za hsz;replace f1:=Za f1;replace f2:=Za f2;replace hsm:=Za hsm
 go_enter Tryz.func15,Tryz.ntmps15
 go_upto_region 1 with fail
 clear hw1
 refine Z1 (by kernel_rfl) 10 (fun W=>Qai w1.heap.size w1 W) (fun i=>match i with
   | 2=>some (fun v W=>Dsk (New w1.heap.size W) W v s.1)
   | 5=>some (fun v W=>rBy (New w1.heap.size W) W [v] s.2.1)
   | 8=>some (fun v W=>rBy (New w1.heap.size W) W [v] s.2.2)
   | 9=>some (fun v W=>∃ P p Q r Y y X x,v=.agg #[.slice P s.1.1.length p,.slice Q s.1.2.length r,.slice Y s.2.1.length y,.slice X s.2.2.length x]/\Dsk (New w1.heap.size W) W (.agg #[.slice P s.1.1.length p,.slice Q s.1.2.length r]) s.1/\rBy (New w1.heap.size W) W [.slice Y s.2.1.length y] s.2.1/\rBy (New w1.heap.size W) W [.slice X s.2.2.length x] s.2.2)
   | _=>none) (fun _=>none) (by decide) (by kernel_rfl) (by kernel_rfl) (Qa _ _).drew (fun w w' h hb=>h.trans (hb.mono h.size)) ?tst ?_
 case tst =>
  intro j φ x W W' hp hx hb
  match j,hp with
  | 2,hp=>cases hp;exact hx.new (Qd _) hb
  | 5,hp=>cases hp;exact Zf.new hx (Qd _) hb
  | 8,hp=>cases hp;exact Zf.new hx (Qd _) hb
  | 9,hp =>
   cases hp;obtain⟨P,p,Q,r,Y,y,X,x,e1,e2,e3,e4⟩:=hx;exact⟨P,p,Q,r,Y,y,X,x,e1,e2.new (Qd _) hb,Zf.new e3 (Qd _) hb,Zf.new e4 (Qd _) hb⟩
 simp only[Qi,Qj,Qk,Ql]
 repeat (first
  | (refine wpAs_skip rfl ?_;simp only[Qb,Zb,Zc,Zd])
  | (refine wpAs_pure (v := ?_) rfl rfl ?_ ?_;rotate_left;(intro W hC hE;clear hE;(have z0:=(hC.cell (p:=⟨w.heap.size,0,none⟩) mg).trans m0;have z1:=(hC.cell (p:=⟨w.heap.size,1,none⟩) mg).trans m1);clear hC;go_simp;first | done | with_reducible rfl);simp only[Qb,Zb,Zc,Zd]))
 refine wpAs_act rfl rfl ?_ ?_
 ·intro W hC hE
  clear hE;refine does_enter (f:=31) (args:=#[.agg #[.slice A s.1.1.length ca,.slice B s.1.2.length cb]]) ?_ ?_
  ·go_simp
  ·refine(Zpn _ s.1 W hsm.out.1 (H.out.below hC).parts.1).mono ?_
   rintro e W' ⟨u,rfl,hu,hb⟩;exact⟨_,rfl,hu.new hC.size (Qa _ _),hb⟩
 simp only[Qb,Zb,Zc,Zd,envAdd];intro x5
 repeat (first
  | (refine wpAs_skip rfl ?_;simp only[Qb,Zb,Zc,Zd])
  | (refine wpAs_pure (v := ?_) rfl rfl ?_ ?_;rotate_left;(intro W hC hE;clear hE;(have z2:=(hC.cell (p:=⟨w.heap.size,2,none⟩) mg).trans m2);clear hC;go_simp;first | done | with_reducible rfl);simp only[Qb,Zb,Zc,Zd]))
 refine wpAs_act rfl rfl ?_ ?_
 ·intro W hC hE
  clear hE;obtain⟨v',W',hr,hy,hb⟩:=Zet (.slice N s.2.1.length cn) s.2.1 W (by have:=hsm.out.2.1;omega) (H.out.below hC).parts.2.1;exact U9 _ _ _ rfl rfl rfl hr ⟨Zf.new hy hC.size (Qa _ _),hb⟩
 simp only[Qb,Zb,Zc,Zd,envAdd];intro x8
 repeat (first
  | (refine wpAs_skip rfl ?_;simp only[Qb,Zb,Zc,Zd])
  | (refine wpAs_pure (v := ?_) rfl rfl ?_ ?_;rotate_left;(intro W hC hE;clear hE;(have z3:=(hC.cell (p:=⟨w.heap.size,3,none⟩) mg).trans m3);clear hC;go_simp;first | done | with_reducible rfl);simp only[Qb,Zb,Zc,Zd]))
 refine wpAs_act rfl rfl ?_ ?_
 ·intro W hC hE
  clear hE;obtain⟨v',W',hr,hy,hb⟩:=Zet (.slice L s.2.2.length cl) s.2.2 W (by have:=hsm.out.2.2;omega) (H.out.below hC).parts.2.2;exact U9 _ _ _ rfl rfl rfl hr ⟨Zf.new hy hC.size (Qa _ _),hb⟩
 simp only[Qb,Zb,Zc,Zd,envAdd];intro x11;refine wpAs_act rfl rfl ?_ ?_
 ·intro W hC hE
  have h11:=hE.1 rfl;have h8:=hE.2.1 rfl;have h5:=hE.2.2.1 rfl;obtain⟨X,x,rfl,_⟩:=Zm h11;obtain⟨Y,y,rfl,_⟩:=Zm h8;obtain⟨P,p,Q,r,rfl,_⟩:=h5.open;have h11':=Za h11;have h8':=Za h8;have h5':=Za h5;clear hE hC h11 h8 h5
  go_simp
  exact⟨⟨P,p,Q,r,Y,y,X,x,rfl,h5'.out,h8'.out,h11'.out⟩,Qa _ _⟩
 simp only[Qb,Zb,Zc,Zd,envAdd];intro x12;refine wpAs_end fun W hC hE=> ?_
 obtain⟨⟨P,p,Q,r,Y,y,X,x,rfl,hd,hn,hl⟩,_⟩:=hE;have bW:=(hC.block (w.heap.size+1) (by rw[hsz.out];omega)).trans f2.out;obtain⟨c0,c1,c2,c3,c4,c5⟩:=Ze bW;obtain⟨W9,hW9,g9,gr9,gs9⟩:=Zo (a':=.slice P s.1.1.length p) (b':=.slice Q s.1.2.length r) (c':=.slice Y s.2.1.length y) (d':=.slice X s.2.2.length x) bW;obtain⟨n0,n1,n2,n3,_,_⟩:=Ze g9;have BW:=hB.trans (hC.mono hB.size);have hfin:=Za (Zv4 (lo:=w.heap.size) hd hn hl (by rw[hsz.out];omega) hB.size gr9);have hB9:=Za (BW.grown gr9 BW.size (fun q e=>by cases e;omega));clear hd hn hl gr9 gs9 BW hC;replace bW:=Za bW;replace g9:=Za g9
 go_wp2_with fail
 refine Qad (v:=.agg #[.slice P s.1.1.length p,.slice Q s.1.2.length r,.slice Y s.2.1.length y,.slice X s.2.2.length x]) (by simp[results,Tryz.results15,go_sem,n0,n1,n2,n3]) rfl ?_;exact⟨_,_,_,_,_,_,_,_,rfl,hfin.out,hB9.out⟩}
theorem Zop (v:Qaa) (s:Rm) (n:Int) (w:P9) (h:Sto (Old w) w v s):Qag Tryz.prog 91 #[v,.int .i64 n] w fun e w'=>e=.returned (.int .i64 (asE s n))/\Qai w.heap.size w w':=by{
 obtain⟨A,ca,B,cb,N,cn,L,cl,w1,rfl,hw1,f,hsz,hB,_,NN,_⟩:=Zfm h;have H:=Za (h.below hB);clear h;obtain⟨k0,k1,k2,k3,_,kg⟩:=Ze f;replace hsz:=Za hsz;rcases Zcu s n with ⟨hm,he⟩ | ⟨hm,hn,he⟩ | ⟨k,hm,rfl,h8,h256,hx,he⟩ | ⟨k,hm,rfl,h8,h256,hx,he⟩
 ·replace he:=Za he
  have e1:=Zc1 hm
  go_enter Tryz.func91,Tryz.ntmps91
  go_upto_region 1 with fail
  clear hw1
  go_wp2_with fail
  with_reducible refine(Yy _ s _ H.out).mono ?_
  rintro e w2 ⟨rfl,hb2⟩;rw[e1];replace hb2:=Za (hB.trans (hb2.mono hB.size))
  go_wp2_with fail
  go_ret;exact⟨Zv he.out.symm,hb2.out⟩
 ·replace he:=Za he
  have e1:=Zbl hm;by_cases h8:n<8
  ·clear hn
   go_enter Tryz.func91,Tryz.ntmps91
   go_upto_region 1 with fail
   clear hw1
   go_wp2_with fail
   with_reducible refine(Yy _ s _ H.out).mono ?_
   rintro e w2 ⟨rfl,hb2⟩;rw[e1];replace hb2:=Za (hB.trans (hb2.mono hB.size))
   go_wp2_with fail
   go_ret;exact⟨Zv he.out.symm,hb2.out⟩
  ·have h9:256<=n:=by omega
   clear hn
   go_enter Tryz.func91,Tryz.ntmps91
   go_upto_region 1 with fail
   clear hw1
   go_wp2_with fail
   with_reducible refine(Yy _ s _ H.out).mono ?_
   rintro e w2 ⟨rfl,hb2⟩;rw[e1];replace hb2:=Za (hB.trans (hb2.mono hB.size))
   go_wp2_with fail
   go_ret;exact⟨Zv he.out.symm,hb2.out⟩
 all_goals
  replace he:=Za he;have e1:=Zbl hm;have hlen:=Z0 (Zw hm).2.1;obtain⟨A',c',e2,l1,m1,hby⟩:=Yq (B:=w1.heap.size) (fun _ h=>h) NN.out;cases e2;obtain⟨ad,rfl,hbk,hc⟩:=hby (by omega)
  have hcell:=hc k (by omega);replace hbk:(ad.add k).block<w1.heap.size:=by rw[Zh];exact hbk
  obtain⟨x,hx2⟩:∃ x,s.2.1[k]?.getD 0=x:=⟨_,rfl⟩
  rw[hx2] at hcell hx;have hlt:k<s.2.1.length:=by omega
  first
   | have t0:=Y0 (y:=0) (q:=0) rfl hx
   | have t0:=Yf (y:=0) (q:=0) rfl hx
  have i1:¬ (k:Int)<8:=by omega
  have i2:¬ 256<=(k:Int):=by omega
  replace hx2:=Za hx2;replace hx:=Za hx;replace hlen:=Za hlen;clear hc hby
  go_enter Tryz.func91,Tryz.ntmps91
  go_upto_region 1 with fail
  clear hw1
  go_wp2_with fail
  with_reducible refine(Yy _ s _ H.out).mono ?_
  rintro e w2 ⟨rfl,hb2⟩;rw[e1];replace k2:=(hb2.cell (p:=⟨w.heap.size,2,none⟩) kg).trans k2;replace hcell:=(hb2.cell hbk).trans hcell;replace hb2:=Za (hB.trans (hb2.mono hB.size))
  go_wp2_with fail
  go_ret;exact⟨Zv he.out.symm,hb2.out⟩}
theorem Z5d (w:P9) (a b c d e f:Qaa):∃ w1,((w.alloc (.cells #[a,b,c,d] 29)).alloc (.cells #[e,f] 115)).alloc (.cells #[.int .i64 0,.slice none 0 0] 81)=w1 /\
  w1.heap[w.heap.size]? = some (.cells #[a,b,c,d] 29 (0,0))/\w1.heap[w.heap.size+1]? = some (.cells #[e,f] 115 (0,0))/\w1.heap[w.heap.size+2]? = some (.cells #[.int .i64 0,.slice none 0 0] 81 (0,0))/\w1.heap.size=w.heap.size+3/\Qai w.heap.size w w1:=by{
 refine⟨_,rfl,Yk (Yk (Qae _ _)),Yk ?_,?_,by simp,(((Qa _ w).alloc (Qd _) _).alloc (by simp) _).alloc (by simp;omega) _⟩
 ·have:=Qae (w.alloc (.cells #[a,b,c,d] 29)) (.cells #[e,f] 115)
  rwa [Qh] at this
 ·have:=Qae ((w.alloc (.cells #[a,b,c,d] 29)).alloc (.cells #[e,f] 115)) (.cells #[.int .i64 0,.slice none 0 0] 81)
  rwa [Qh,Qh] at this}
def RdP (s:Rm) (k:Nat) (lv:Int) (w w':P9) (e:Qah):Prop:=∃ (u:Qaa) (q:Int) (nd:Nd),e=.returned (.tuple #[u,.int .i64 q])/\((Rdn s.1 lv k/\q=0/\nd=reV (Z4 s.1 k))\/(¬ Rdn s.1 lv k/\q=8/\nd=Zd6))/\Nod (New w.heap.size w') w' u nd/\Qai w.heap.size w w'
theorem Znk (v:Qaa) (s:Rm) (k:Nat) (lv:Int) (ha:asE s k=0) (w:P9) (h:Sto (Old w) w v s) :
  Qag Tryz.prog 131 #[v,.agg #[.int .i64 k,.int .i64 lv]] w fun e w'=>RdP s k lv w w' e:=by{
 obtain⟨A,ca,B,cb,N,cn,L,cl,rfl,_,_,_⟩:=h.open;obtain⟨w1,hw1,f1,f2,f3,hsz,hB⟩:=Z5d w (.slice A s.1.1.length ca) (.slice B s.1.2.length cb) (.slice N s.2.1.length cn) (.slice L s.2.2.length cl) (.int .i64 k) (.int .i64 lv);have H:=Za (h.below hB);clear h;obtain⟨k0,k1,k2,k3,_,kg⟩:=Ze f1;obtain⟨j0,j1,_,jg⟩:=Zg f2;obtain⟨k',e',_,_,_,_,_,hE,hV,-⟩:=Xb ha;have hkk:k'=k:=by omega
 subst hkk;clear e';obtain⟨b,hb⟩:∃ b,Z4 s.1 k'=b:=⟨_,rfl⟩
 rw[hb] at hE hV;obtain⟨q,hq⟩:∃ q,reN b=q:=⟨_,rfl⟩
 obtain⟨nd,hnd⟩:∃ nd,reV b=nd:=⟨_,rfl⟩
 rw[hq] at hE;rw[hnd] at hV;obtain⟨lw,hlw⟩:∃ q,nd.1=q:=⟨_,rfl⟩
 have hR:Hid (Rdn s.1 lv k'↔(q=0/\(lv=6\/lw=lv))):=Za (by unfold Rdn;rw[hb,hq,hnd,hlw]);have hND:Hid (nd=reV (Z4 s.1 k')):=Za (by rw[hb,hnd]);replace hsz:=Za hsz;replace f3:=Za f3;replace hb:=Za hb;replace hq:=Za hq;replace hnd:=Za hnd;replace hE:=Za hE;replace hV:=Za hV;clear f1 ha
 go_enter Tryz.func131,Tryz.ntmps131
 go_upto_region 1 with fail
 clear hw1
 go_wp2_with fail
 with_reducible refine(Zm7 _ s (k':Int) _ H.out).mono ?_
 rintro e w2 ⟨u,rfl,hu,hb2⟩;rw[hE.out];rw[hV.out] at hu;obtain⟨P,pc,rfl,_⟩:=id hu.open;rw[hlw];obtain⟨w3,hw3,g3,hs3,hb3⟩:=Zy w2 (.int .i64 lw) (.slice P nd.2.length pc) 81;have F3:=(hb3.block (w.heap.size+2) (by have:=hb2.size;have:=hsz.out;omega)).trans ((hb2.block (w.heap.size+2) (by have:=hsz.out;omega)).trans f3.out);have G2:=(hb3.block (w.heap.size+1) (by have:=hb2.size;have:=hsz.out;omega)).trans ((hb2.block (w.heap.size+1) (by have:=hsz.out;omega)).trans f2);obtain⟨m0,m1,_,_⟩:=Zg g3;obtain⟨n0,n1,_,_⟩:=Zg G2;obtain⟨x0,x1,x2,_⟩:=Zg F3;have B3:=Za (hB.trans ((hb2.trans (hb3.mono hb2.size)).mono hB.size));have U3:=Za (hu.new (Qd _) hb3);have s3:Hid (w.heap.size+3<=w1.heap.size):=Za (by have:=hsz.out;omega);rw[hlw] at U3;clear hu hb2 hb3 hB k0 k1 k2 k3 kg j0 j1 jg f2;replace hs3:=Za hs3;replace g3:=Za g3;replace G2:=Za G2
 go_upto_region 2 with fail
 clear hw3;by_cases hok:q=0/\(lv=6\/lw=lv)
 ·obtain⟨W9,hW9,g9,gr9,gs9⟩:=Ys (u:=.int .i64 lw) (v:=.slice P nd.2.length pc) F3
  obtain⟨o0,o1,_,_⟩:=Zg g9
  have hfin:=Za (show Nod (New w.heap.size W9) W9 (.agg #[.int .i64 lw,.slice P nd.2.length pc]) nd from
   (U3.out.grown gr9 (fun q e=>by cases e;have:=s3.out;omega)).new (by have:=s3.out;omega) (Qa _ _))
  have hB9:=Za (B3.out.grown gr9 B3.out.size (fun q e=>by cases e;omega));have hq0:=hok.1;have hok':=Za hok;subst hq0;replace F3:=Za F3;replace g9:=Za g9;clear gr9 gs9;by_cases h6:lv=6
  ·have c1:(lv != 6)=false:=by simp[h6]
   clear hok h6
   go_wp2_with fail
   refine Qad (v:=.tuple #[.agg #[.int .i64 lw,.slice P nd.2.length pc],.int .i64 0]) (by simp[results,Tryz.results131,go_sem,o0,o1]) rfl ?_;exact⟨_,0,nd,rfl,.inl ⟨hR.out.2 hok'.out,rfl,hND.out⟩,hfin.out,hB9.out⟩
  ·have c1:(lv != 6)=true:=by simpa using h6
   have c2:(lw != lv)=false:=by
    rcases hok.2 with h | h
    ·exact absurd h h6
    ·simp[h]
   clear hok
   go_wp2_with fail
   refine Qad (v:=.tuple #[.agg #[.int .i64 lw,.slice P nd.2.length pc],.int .i64 0]) (by simp[results,Tryz.results131,go_sem,o0,o1]) rfl ?_;exact⟨_,0,nd,rfl,.inl ⟨hR.out.2 hok'.out,rfl,hND.out⟩,hfin.out,hB9.out⟩
 ·obtain⟨W9,hW9,g9,gr9,gs9⟩:=Ys (u:=.int .i64 0) (v:=.slice none 0 0) F3
  obtain⟨o0,o1,_,_⟩:=Zg g9;have hfin:=Za (Zk6 (New w.heap.size W9) W9);have hB9:=Za (B3.out.grown gr9 B3.out.size (fun q e=>by cases e;omega));have hok':=Za hok;replace F3:=Za F3;replace g9:=Za g9;clear gr9 gs9;by_cases hq0:q=0
  ·have c1:(lv != 6)=true:=by
    have:¬ lv=6:=fun h=>hok ⟨hq0,.inl h⟩
    simpa using this
   have c2:(lw != lv)=true:=by
    have:¬ lw=lv:=fun h=>hok ⟨hq0,.inr h⟩
    simpa using this
   clear hok;subst hq0
   go_wp2_with fail
   refine Qad (v:=.tuple #[.agg #[.int .i64 0,.slice none 0 0],.int .i64 8]) (by simp[results,Tryz.results131,go_sem,o0,o1]) rfl ?_;exact⟨_,8,Zd6,rfl,.inr ⟨fun h=>hok'.out (hR.out.1 h),rfl,rfl⟩,hfin.out,hB9.out⟩
  ·have c0:(q != 0)=true:=by simpa using hq0
   clear hok
   go_wp2_with fail
   refine Qad (v:=.tuple #[.agg #[.int .i64 0,.slice none 0 0],.int .i64 8]) (by simp[results,Tryz.results131,go_sem,o0,o1]) rfl ?_;exact⟨_,8,Zd6,rfl,.inr ⟨fun h=>hok'.out (hR.out.1 h),rfl,rfl⟩,hfin.out,hB9.out⟩}
theorem Zpv {a b:P9}{row:Option Nat}(h:Qai a.heap.size a b):a.grownBy b row:=X6 (Yh a row) h
theorem Zx4 (g c lo:Nat) (t0:List UInt8) (u:Qaa) (n:Nd) (hn:Xn n=true) (hl0:t0.length=256) (w:P9) (hown:w.ownsRow lo 5 1 (.slice (some ⟨g,0,none⟩) 256 c) 256 (u8s t0)) (hu:Nod (Off g w) w u n) :
  Qag Tryz.prog 81 #[.slice (some ⟨g,0,none⟩) 256 c,u] w fun e w'=>e=.returned (.int .i64 (ctE t0 n.2))/\w.grownBy w' (some g)/\(ctE t0 n.2=0->w'.ownsRow lo 5 1 (.slice (some ⟨g,0,none⟩) 256 c) 256 (u8s (ctV t0 n.2))):=by{
 obtain⟨I,ci,rfl,_,_,_,hI⟩:=hu.open;obtain⟨lw,hlw⟩:∃ q,n.1=q:=⟨_,rfl⟩
 obtain⟨l,hl⟩:∃ q,n.2=q:=⟨_,rfl⟩
 obtain⟨m,hlm⟩:∃ q,l.length=q:=⟨_,rfl⟩
 have hrf:=Za (V4 hn);obtain⟨⟨_,_,s3,_⟩,_⟩:=Zs hn;rw[hl,hlm] at s3 hI;rw[hl] at hrf ⊢;rw[hlw,hlm];have hg0:g<w.heap.size:=((hown.lt g rfl).2)
 obtain⟨w1,hw1,b1,hs1,hB1⟩:=Zy w (.int .i64 lw) (.slice I m ci) 81;have HI:=Za (Z5 _ _ _ _ _ _ (fun _ _ hp hc=>Za4 (g:=g) hB1 hp hc) hI);have HO:=Za (Zr hown hB1);have GB:=Za (Zpv (row:=some g) hB1);obtain⟨p0,p1,_,pg⟩:=Zg b1;have hgs:Hid (g≠w.heap.size):=Za (by omega);have b1h:=Za b1;replace hl0:=Za hl0;replace hl:=Za hl;replace hlw:=Za hlw;replace hlm:=Za hlm;replace hs1:=Za hs1;clear hown hu hI b1 hB1
 go_enter Tryz.func81,Tryz.ntmps81
 go_upto_region 1 with fail
 clear hw1
 go_wp2_with fail
 clear p0 p1
 go_loopw [10] (fun vi wr=>∃ i:Nat,i<=m/\vi=.int .i64 i/\ctE t0 (l.take i)=0/\wr.ownsRow lo 5 1 (.slice (some ⟨g,0,none⟩) 256 c) 256 (u8s (ctV t0 (l.take i)))/\w1.grownBy wr (some g)) (fun vi _=>m-(intOf vi).toNat)
 case atStart=>exact⟨0,by omega,rfl,rfl,HO.out,Yh _ _⟩
 case round =>
  obtain⟨i,hi,rfl,hE,hown,hgr⟩:=hrel;have GF:=Za (Xc GB.out hgr);by_cases hlt:i<m
  case neg =>
   have hlast:Hid (l.take i=l):=Za (Qv (by rw[hlm.out];omega));have hEl:Hid (ctE t0 l=0):=Za (by rw[<- hE,hlast.out]);rw[hlast.out] at hown;have HO2:=Za hown;clear hown hgr hE
   go_wp2_with fail
   go_ret;exact⟨Zv hEl.out.symm,GF.out,fun _=>HO2.out⟩
  obtain⟨x,hx⟩:∃ x,l[i]? = some x:=⟨_,Qf (by rw[hlm.out];exact hlt)⟩
  have hsp:=Za (Zsa hE hx);have hnx:=Za (Zvy hE hx);have hxr:=hrf.out x (Q4 hx);have hIr:=Z5 _ _ _ _ _ _ (fun _ _ hp hc=>Zbk (g:=g) hgr hp hc) HI.out;obtain⟨ad5,E5,ce5,rfl,_,⟨z0,z1,z2,z3,z4⟩,_⟩:=Zao hIr hx;clear hIr;obtain⟨w5,hw5,y0,y1,y2,y3,y4,hs5,hB5,_⟩:=Z6 wr (.int .u8 (x.1.1.toNat:Int)) (.int .u32 x.1.2.1) (.int .u32 x.1.2.2) (.int .i64 x.2.1) (.slice E5 x.2.2.length ce5) 54;have hown5:=Zr hown hB5;have hgr5:=Za (X6 hgr (hB5.mono hgr.size));have GF5:=Za (Xc GB.out hgr5.out);replace hs5:=Za hs5;have i4:(0:Int)<=(i:Int):=by omega
  have i5:(i:Int)<(m:Int):=by omega
  obtain⟨z,hzz⟩:∃ z,x.2.1=z:=⟨_,rfl⟩
  have hc1:∀ T,ctE T (x::l.drop (i+1))=if z=0 then ctE T (l.drop (i+1)) else if T[z.toNat]?.getD 0=0 then 6 else if T[z.toNat]?.getD 0=255 then 70 else ctE (T.set z.toNat (T[z.toNat]?.getD 0+1)) (l.drop (i+1)):=fun T=>by rw[<- hzz];rfl
  have hc2:∀ T,ctE T [x]=if z=0 then 0 else if T[z.toNat]?.getD 0=0 then 6 else if T[z.toNat]?.getD 0=255 then 70 else 0:=fun T=>by rw[<- hzz];rfl
  have hc3:∀ T,ctV T [x]=if z=0 then T else T.set z.toNat (T[z.toNat]?.getD 0+1):=fun T=>by rw[<- hzz];rfl
  rw[hzz] at z3 hxr hw5 y3;replace hx:=Za hx;replace hzz:=Za hzz;obtain⟨T,hT⟩:∃ T,ctV t0 (l.take i)=T:=⟨_,rfl⟩
  have hTl:Hid (T.length=256):=Za (by rw[<- hT,Zbs,hl0.out]);rw[hT] at hown5 hsp hnx;replace hT:=Za hT;replace hE:=Za hE;clear hown hgr hB5
  go_upto_region 4 with fail
  clear hw5 z0 z1 z2 z3 z4;by_cases hz0:z=0
  ·have hn1:Hid (ctE t0 (l.take (i+1))=0/\ctV t0 (l.take (i+1))=T):=Za ⟨by rw[hnx.out.1,hc2,if_pos hz0],by rw[hnx.out.2,hc3,if_pos hz0]⟩
   subst hz0;have HO:=Za hown5;clear hc1 hc2 hc3 hxr hown5 hE hsp hnx
   go_wp2_with fail
   go_roundw
   case rel=>exact⟨i+1,by omega,by go_num,hn1.out.1,by rw[hn1.out.2];exact HO.out,hgr5.out⟩
   case measure=>simp[intOf];omega
  obtain⟨r,hr,r8,r256⟩:∃ r:Nat,z=r/\8<=r/\r<256:=⟨z.toNat,by omega,by omega,by omega⟩
  rw[hc1,if_neg hz0,show z.toNat=r by omega] at hsp;rw[hc2,hc3,if_neg hz0,if_neg hz0,show z.toNat=r by omega] at hnx;have j3:(z==0)=false:=by simpa using hz0
  subst hr;have hcell:=Zbr hown5 (j:=r) r256;obtain⟨y,hy⟩:∃ y,T[r]?.getD 0=y:=⟨_,rfl⟩
  rw[hy] at hsp hnx hcell;replace hy:=Za hy;by_cases hy0:y=0
  ·have t1:=Y0 (y:=0) (q:=0) rfl hy0
   have hEl:Hid (ctE t0 l=6):=Za (by rw[hsp.out,if_pos hy0]);clear hc1 hc2 hc3 hxr hown5 hE hsp hnx hz0
   go_wp2_with fail
   go_ret;exact⟨Zv hEl.out.symm,GF5.out,fun h=>by rw[hEl.out] at h;cases h⟩
  have t1:=Yf (y:=0) (q:=0) rfl hy0;by_cases hy5:y=255
  ·have t2:=Y0 (y:=255) (q:=255) rfl hy5
   have hEl:Hid (ctE t0 l=70):=Za (by rw[hsp.out,if_neg hy0,if_pos hy5]);clear hc1 hc2 hc3 hxr hown5 hE hsp hnx hz0
   go_wp2_with fail
   go_ret;exact⟨Zv hEl.out.symm,GF5.out,fun h=>by rw[hEl.out] at h;cases h⟩
  have t2:=Yf (y:=255) (q:=255) rfl hy5;have hfr:w5.frozen? ⟨g,r,none⟩=false:=hown5.frozenAt r;obtain⟨hu1,hu2,hu3⟩:=Zd1 hy5;have hset:=Zhf hown5 r (y+1);have hn1:Hid (ctE t0 (l.take (i+1))=0/\ctV t0 (l.take (i+1))=T.set r (y+1)):=Za ⟨by rw[hnx.out.1,if_neg hy0,if_neg hy5],hnx.out.2⟩;rw[<- hu1] at hset;replace hset:=Za hset;replace hu1:=Za hu1;have hgn:=Za (Z7 hgr5.out (p:=⟨g,r,none⟩) rfl (.int .u8 ((y.toNat:Int)+1)));clear hc1 hc2 hc3 hxr hown5 hE hsp hnx hz0
  go_wp2_with fail
  go_roundw
  case rel=>exact⟨i+1,by omega,by go_num,hn1.out.1,by rw[hn1.out.2];exact hset.out,hgn.out⟩
  case measure=>simp[intOf];omega}
end Go.Proofs.YtgmbjnajdfgenaaGreat
namespace Go.Proofs.YtgmbjnajdfgenaaGreat
open Go.RowKit Go.Shelf Go.Maps
attribute [local go_sem] Oper.semAt_some
theorem Zrb:(Tryz.prog.info? 115).map (fun i=>(i.zero,i.size,i.bytes))=some (some (.agg #[.int .i64 0,.int .i64 0]),2,16):=by kernel_rfl
def rfV (l:List Rf):List Qaa:=l.flatMap fun x=>[.int .i64 x.1,.int .i64 x.2]
theorem Z33 (l:List Rf):(rfV l).length=l.length*2:=by{
 induction l with
 | nil=>rfl
 | cons x l ih =>
  show (rfV l).length+2=_;rw[ih,Qr];omega}
theorem Zqk (a b:List Rf):rfV (a++b)=rfV a++rfV b:=by simp[rfV]
theorem Z29 (l:List Rf):∀ v∈rfV l,v.oneCell'=true:=by
 intro v hv;simp only[rfV,List.mem_flatMap] at hv;obtain⟨x,_,hx⟩:=hv;simp at hx;rcases hx with rfl | rfl <;> rfl
theorem Z05 (F:Fence) (n:Nat) (hf:F.fn 180) (hro:F.round=none) (hn:1<=n) (l Bs n₀ cap m:Nat) (A:Option Qab) (ad:Qab) (f:Nat->It) (E:Nat->Option Qab) (ca:Nat->Nat) (hm:m<=9223372036854775807) (hA:0<m->A=some ad/\ad.block<n₀) (J Jx:List Nat->P9->Prop)
  (hY:∀ (pre:List Nat) (x:Nat) (W:P9),J pre W->pre.length<m->YieldAt F (n-1) Tryz.prog l #[.int .i64 (x:Int),.agg #[.int .u8 ((f x).1.1.toNat:Int),.int .u32 (f x).1.2.1,.int .u32 (f x).1.2.2,.int .i64 (f x).2.1,.slice (E x) (f x).2.2.length (ca x)]] W fun e W' =>
   (e=.returned (.bool true)/\J (pre++[x]) W'/\Ze4 n₀ Bs W W')\/(e=.returned (.bool false)/\Jx (pre++[x]) W'))
  (W:P9) (hBs:W.cell? ⟨Bs,0,none⟩=some (.slice A m cap)) (hc:∀ j,j<m->At5 W (ad.add (j*5)) (f j) (.slice (E j) (f j).2.2.length (ca j))) (h0:J [] W) :
  CallsIn F n Tryz.prog 180 #[.func (.yield l) #[] #[],.pointer (some ⟨Bs,0,none⟩)] W fun e W'=>(∃ v,e=.returned v) /\
   ((∃ ys,ys=Vu m m/\J ys W')\/(∃ pre,(∃ k,k<=m/\pre=Vu m k)/\Jx pre W')):=by{
 refine callsIn_of_wp Tryz.func180 rfl hf ?_ hro;simp only[Tryz.ntmps180,Q5,Qr,Q6,Q7,Q8,Q9,Pa,Pb,Pc,Qw,Qu];have HC:=Za hc;clear hc;replace hA:=Za hA
 gi_wp2
 gi_loopw [3] (fun i wr=>∃ k:Nat,k<=m/\i=.int .i64 ((m:Int)-1-k)/\J (Vu m k) wr/\Qai n₀ W wr/\wr.cell? ⟨Bs,0,none⟩=some (.slice A m cap))
  (fun i _=>(intOf i+1).toNat)
 case atStart=>exact⟨0,Nat.zero_le _,by simp,h0,Qa _ _,hBs⟩
 case round =>
  obtain⟨k,hk,rfl,hJs,hnx,hbs⟩:=hrel;by_cases hlt:k<m
  ·obtain⟨rfl,hb⟩:=hA.out (by omega)
   have hx:=HC.out (m-1-k) (by omega);have g1:=(hnx.cell (p:=ad.add ((m-1-k)*5)) (by rw[Zh];exact hb)).trans hx.c0;have g2:=(hnx.cell (p:=⟨(ad.add ((m-1-k)*5)).block,(ad.add ((m-1-k)*5)).off+1,none⟩) (by rw[Zh];exact hb)).trans hx.c1;have g3:=(hnx.cell (p:=⟨(ad.add ((m-1-k)*5)).block,(ad.add ((m-1-k)*5)).off+2,none⟩) (by rw[Zh];exact hb)).trans hx.c2;have g4:=(hnx.cell (p:=⟨(ad.add ((m-1-k)*5)).block,(ad.add ((m-1-k)*5)).off+3,none⟩) (by rw[Zh];exact hb)).trans hx.c3;have g5:=(hnx.cell (p:=⟨(ad.add ((m-1-k)*5)).block,(ad.add ((m-1-k)*5)).off+4,none⟩) (by rw[Zh];exact hb)).trans hx.c4;clear hx;obtain⟨fn,tmps,assign,body,hy,hR⟩:=hY _ (m-1-k) wr hJs (by rw[Vi];exact hlt)
   try dsimp only at hy
   have e1:((m:Int)-1-k).toNat=m-1-k:=by omega
   have e2:((m-1-k:Nat):Int)=(m:Int)-1-k:=by omega
   rw[e2] at hy;clear e2;have hds:=Za (Zfv m k);generalize ((f (m-1-k)).1.1.toNat:Int)=q1 at *;generalize (f (m-1-k)).1.2.1=q2 at *;generalize (f (m-1-k)).1.2.2=q3 at *;generalize (f (m-1-k)).2.1=q4 at *;generalize (f (m-1-k)).2.2.length=q5 at *;generalize E (m-1-k)=q6 at *;generalize ca (m-1-k)=q7 at *
   gi_wp2
   refine hR.mono ?_;rintro e W3 (⟨rfl,hJ3,hk3⟩ | ⟨rfl,hJx3⟩)
   ·gi_wp2
    go_roundw
    case rel=>exact⟨k+1,by omega,by go_num,by rw[hds.out];exact hJ3,hnx.trans hk3.1,hk3.2.trans hbs⟩
    case measure=>simp[intOf];omega
   ·gi_wp2
    refine Qad (results_none rfl _ _ _) rfl ?_;exact⟨⟨_,rfl⟩,.inr ⟨_,⟨k+1,by omega,hds.out.symm⟩,hJx3⟩⟩
  ·obtain rfl:k=m:=by omega
   gi_wp2
   go_end0
   exact⟨⟨_,rfl⟩,.inl ⟨_,rfl,hJs⟩⟩}
theorem Zob (F:Fence) (n:Nat) (hf:F.fn 160) (hro:F.round=none) (a:Option Qab) (len cap:Nat) (w:P9) :
  CallsIn F n Tryz.prog 160 #[.slice a len cap] w fun e w'=>e=.returned (.func (.func 180) #[] #[.pointer (some ⟨w.heap.size,0,none⟩)])/\w'=w.alloc (.cells #[.slice a len cap] 39):=by
 refine callsIn_of_wp Tryz.func160 rfl hf ?_ hro;simp only[Tryz.ntmps160,Q5,Qr,Q6,Q7,Q8,Q9,Pa,Pb,Pc,Qw,Qu]
 gi_wp2
 go_ret;exact⟨rfl,rfl⟩
theorem Zhr (F:Fence) (n:Nat) (hf:F.fn 180) (hro:F.round=none) (hn:1<=n) (Bs n₀ cap m:Nat) (A:Option Qab) (ad:Qab) (f:Nat->It) (E:Nat->Option Qab) (ca:Nat->Nat) (hm:m<=9223372036854775807) (w:P9) (hBs:Bs<w.heap.size) (_hn₀:n₀<=w.heap.size)
  (hc:w.cell? ⟨Bs,0,none⟩=some (.slice A m cap)) (hA:0<m->A=some ad/\ad.block<n₀) (hx:∀ j,j<m->At5 w (ad.add (j*5)) (f j) (.slice (E j) (f j).2.2.length (ca j))) :
  SeqStopsK F n Tryz.prog 180 #[.pointer (some ⟨Bs,0,none⟩)] (fun x:Nat=>#[Value.int .i64 (x:Int),Value.agg #[.int .u8 ((f x).1.1.toNat:Int),.int .u32 (f x).1.2.1,.int .u32 (f x).1.2.2,.int .i64 (f x).2.1,.slice (E x) (f x).2.2.length (ca x)]]) (Ze4 n₀ Bs) (fun ys=>ys=Vu m m)
   (fun pre=>∃ k,k<=m/\pre=Vu m k) m w:=fun l J Jx W hW _ _ hY h0=>by
 have hc':=(hW.cell (p:=⟨Bs,0,none⟩) hBs).trans hc;exact Z05 F n hf hro hn l Bs n₀ cap m A ad f E ca hm hA J Jx hY W hc' (fun j hj=>(hx j hj).below hW) h0
theorem Z5v {w:P9}{A:Option Qab}{n c:Nat}{xs:List It}(h:Y6 (Old w) w [.slice A n c] xs) (hn:xs.length=n) :
  ∃ (ad:Qab) (f:Nat->It) (E:Nat->Option Qab) (ca:Nat->Nat),(0<n->A=some ad/\ad.block<w.heap.size)/\(∀ i x,xs[i]? = some x->f i=x)/\∀ i,i<n->At5 w (ad.add (i*5)) (f i) (.slice (E i) (f i).2.2.length (ca i)):=by{
 subst hn;have h2:∀ i,∃ g:It×Option Qab×Nat,∀ x,xs[i]? = some x->g.1=x/\∃ ad,A=some ad/\ad.block<w.heap.size/\At5 w (ad.add (i*5)) x (.slice g.2.1 x.2.2.length g.2.2):=fun i=>by
  cases hx:xs[i]? with
  | none=>exact⟨(((0,0,0),0,[]),none,0),fun x e=>by cases e⟩
  | some x =>
   obtain⟨ad,E,ce,rfl,hok,h5,_⟩:=Zao h hx;exact⟨(x,E,ce),fun y e=>by cases e;exact⟨rfl,ad,rfl,by have:=h5.lt;rwa [Zh] at this,h5⟩⟩
 obtain⟨g,hg⟩:∃ g:Nat->It×Option Qab×Nat,∀ i x,xs[i]? = some x->(g i).1=x/\∃ ad,A=some ad/\ad.block<w.heap.size/\At5 w (ad.add (i*5)) x (.slice (g i).2.1 x.2.2.length (g i).2.2) :=
  ⟨fun i=>Classical.choose (h2 i),fun i=>Classical.choose_spec (h2 i)⟩
 rcases A with _ | ad
 ·refine⟨⟨0,0,none⟩,fun i=>(g i).1,fun i=>(g i).2.1,fun i=>(g i).2.2,fun h0=> ?_,fun i x hi=>(hg i x hi).1,fun i hi=> ?_⟩
  ·obtain⟨_,_,e,_⟩:=hg 0 _ (Qf h0)
   cases e
  ·obtain⟨_,_,e,_⟩:=hg i _ (Qf hi)
   cases e
 ·refine⟨ad,fun i=>(g i).1,fun i=>(g i).2.1,fun i=>(g i).2.2,fun h0=> ?_,fun i x hi=>(hg i x hi).1,fun i hi=> ?_⟩
  ·obtain⟨_,_,e,hb,_⟩:=hg 0 _ (Qf h0)
   cases e;exact⟨rfl,hb⟩
  ·obtain⟨e1,_,e,_,h5⟩:=hg i _ (Qf hi)
   cases e;rw[<- e1] at h5;exact h5}
def Zk0 (lv:Int) (f:Nat->It) (pre:List Nat):List Rf:=Zi3 lv (pre.map f)
theorem Zu6 {lv:Int}{f:Nat->It}{pre:List Nat}{x:Nat}(h:(f x).2.1=0):Zk0 lv f (pre++[x])=Zk0 lv f pre:=by
 rw[Zk0,Pd,Zsj,Qq,Pk,Zhv h,Zr6,Pm];rfl
theorem Zvg {lv:Int}{f:Nat->It}{pre:List Nat}{x:Nat}(h:(f x).2.1≠0):Zk0 lv f (pre++[x])=Zk0 lv f pre++[((f x).2.1,lv)]:=by
 rw[Zk0,Pd,Zsj,Qq,Pk,Zhh h,Zr6];rfl
theorem Zxn {f:Nat->It}{xs:List It}(h:∀ i x,xs[i]? = some x->f i=x):(Vu xs.length xs.length).map f=xs.reverse:=by
 refine Pn (by simp[Vu]) fun i h1 h2=> ?_
 have hi:i<xs.length:=by simpa using h2
 simp only[Vu,List.map_map,Pe,Po,Function.comp,List.getElem_reverse];exact h _ _ (Qf (by omega))
theorem Zzp (lv:Int) (l:List It):Zi3 lv l.reverse=(Zi3 lv l).reverse:=by simp[Zi3,List.filter_reverse]
theorem Zzj {lv:Int}{f:Nat->It}{xs:List It}(h:∀ i x,xs[i]? = some x->f i=x):Zk0 lv f (Vu xs.length xs.length)=(Zi3 lv xs).reverse:=by
 rw[Zk0,Zxn h,Zzp]
end Go.Proofs.YtgmbjnajdfgenaaGreat
namespace Go.Proofs.YtgmbjnajdfgenaaGreat
open Go.RowKit Go.Shelf Go.Maps
attribute [local go_sem] Oper.semAt_some
theorem Zwg {w:P9}{a b:Qaa}{t:Qac}:∀ j u,([a,b]:List Qaa)[j]? = some u->(w.alloc (.cells #[a,b] t)).cell? ((⟨w.heap.size,0,none⟩:Qab).add j)=some u:=by
 intro j u hj;rw[Uq,Pf,cell_of_row _ _ _ #[a,b] t _ (Qae w _)]
 simpa using hj
theorem Zdi {W w1:P9}{g B base size k:Nat}{cs:Array Qaa}{t e:Qac}{tmp:Obj}{v v':Qaa}{xs:List Qaa}(h:W.heap[g]? = some (.cells cs t (0,0))) (hte:t≠e) (hr:W.ownsRow base e size v k xs) (hg:(W.alloc tmp).grownBy w1 v.ownBlock) (hB:g≠B) :
  (w1.setCell ⟨B,0,none⟩ v').heap[g]? = some (.cells cs t (0,0)):=by{
 have hlt:g<W.heap.size:=(Qe.1 h).1;have hne:some g≠v.ownBlock:=by
  rcases hr.2 with ⟨rfl,_⟩ | ⟨q,cap,cur,rfl,_,hq,_⟩
  ·simp[Value.ownBlock]
  ·intro e'
   obtain rfl:g=q:=by simpa [Value.ownBlock] using e'
   rw[h] at hq;simp at hq;exact hte hq.2
 rw[Pp w1 ⟨B,0,none⟩ v' g hB,hg.block g (by simp;omega) hne,Qs W tmp g hlt,h]}
theorem Z2l (F:Fence) (n:Nat) (h3:F.fn 132) (h5:F.fn 160) (h7:F.fn 180) (hro:F.round=none) (hn:3<=n)
  (v:Qaa) (nd:Nd) (h0:0<=nd.1) (h6:nd.1<6) (hl5:nd.2.length<=5) (w:P9) (h:Nod (Old w) w v nd) :
  CallsIn F n Tryz.prog 132 #[v] w fun e W'=>∃ u,e=.returned u/\W'.ownsRow w.heap.size 115 2 u (Zul nd).length (rfV (Zul nd).reverse)/\Qai w.heap.size w W':=by{
 have h1:1<=n:=by omega
 obtain⟨i0,hi,hz0,hz1,hz2⟩:=info_parts Zrb;obtain⟨A,c,rfl,_,l1,m1,hI⟩:=h.open;obtain⟨m,hm⟩:∃ m,nd.2.length=m:=⟨_,rfl⟩
 obtain⟨lv,hlv⟩:∃ lv,nd.1=lv:=⟨_,rfl⟩
 rw[hm] at l1 hI hl5 ⊢;obtain⟨ad,f,E,ca,hA,hf,hc⟩:=Z5v hI hm;have hcol:Hid (Zk0 (lv-1) f (Vu m m)=(Zul nd).reverse):=Za (by rw[<- hm,Zzj hf,Zul,hlv]);rw[hlv] at h0 h6 ⊢;replace hlv:=Za hlv;replace hm:=Za hm;replace hc:=Za hc;replace hA:=Za hA;replace hf:=Za hf;clear hI h;refine callsIn_of_wp_marks Tryz.func132 rfl h3 ?_ hro;simp only[Tryz.ntmps132,Q5,Qr,Q6,Q7,Q8,Q9,Pa,Pb,Pc,Qw,Qu]
 gi_wp2_with (gi_at_call 160;refine(Zob F (n-1) h5 hro _ _ _ _).mono ?_;rintro e w' ⟨rfl,rfl⟩)
 obtain⟨W0,hW0,hB0,hs0,b0,bx,b3⟩:∃ W0,((w.alloc (.cells #[.int .i64 lv,.slice A m c] 81)).alloc (.cells #[.slice none 0 0] 203)).alloc (.cells #[.slice A m c] 39)=W0/\Qai w.heap.size w W0/\W0.heap.size=w.heap.size+3 /\
   W0.heap[w.heap.size]? = some (.cells #[.int .i64 lv,.slice A m c] 81 (0,0))/\Boxed W0 (w.heap.size+1) 203 (.slice none 0 0)/\Boxed W0 (w.heap.size+1+1) 39 (.slice A m c) :=
  ⟨_,rfl,(((Qa _ w).alloc (Qd _) _).alloc (by simp) _).alloc (by simp;omega) _,by simp,(Qs _ _ _ (by simp;omega)).trans ((Qs _ _ _ (by simp)).trans (Qae w _)),((by have:=Boxed.new (w.alloc (.cells #[.int .i64 lv,.slice A m c] 81)) 203 (.slice none 0 0);simpa using this:Boxed ((w.alloc (.cells #[.int .i64 lv,.slice A m c] 81)).alloc (.cells #[.slice none 0 0] 203)) (w.heap.size+1) 203 (.slice none 0 0))).alloc _,by have:=Boxed.new ((w.alloc (.cells #[.int .i64 lv,.slice A m c] 81)).alloc (.cells #[.slice none 0 0] 203)) 39 (.slice A m c);simpa using this⟩
 rw[hW0];clear hW0;have hlo:w.heap.size<=W0.heap.size:=hB0.size;have hA0:0<m->A=some ad/\ad.block<w.heap.size:=hA.out;refine wpIn_rangeFunc_ownH hro h1 (gf:=180) (lb:=#[.pointer (some ⟨w.heap.size+1+1,0,none⟩)]) rfl h7 (enters_of Tryz.func180 (by kernel_rfl) rfl)
  (Zhr F (n-1) h7 hro (by omega) (w.heap.size+1+1) w.heap.size c m A ad f E ca (by omega) W0 (by omega) hlo b3.cell hA0 (fun j hj=>(hc.out j hj).below hB0))
  (fun h h'=>Ze4.trans h h') (fun W l o o' hl h1 h2 h3=>Zp3 (w:=W0) (by omega) hlo l o o' hl h1 h2 h3) (Qa _ _) (fun _=>rfl)
  (fun pre W=>((∃ v,Boxed W (w.heap.size+1) 203 v/\W.ownsRow w.heap.size 115 2 v (Zk0 (lv-1) f pre).length (rfV (Zk0 (lv-1) f pre))/\True)/\(W.heap[w.heap.size]? = some (.cells #[.int .i64 lv,.slice A m c] 81 (0,0))/\Boxed W (w.heap.size+1+1) 39 (.slice A m c)))/\Qai w.heap.size w W)
  (fun _ _ _=>False)
  (OwnFrom.and (OwnFrom.and (Own.from (holdsRow_own w.heap.size (w.heap.size+1) 203 115 2 (fun pre:List Nat=>(Zk0 (lv-1) f pre).length) (fun pre=>rfV (Zk0 (lv-1) f pre)) (fun _ _=>True)) _) (Own.from (fun s A B row hs hg hr=>⟨Z8 hs.1 hg hr,Z8 hs.2 hg hr⟩) _)) (ownFrom_below (Qd _) hlo))
  (fun _ _ _ _ _ hs _ _=>hs)
  ⟨⟨⟨_,bx,World.ownsRow_nil _ _ _ _,trivial⟩,b0,b3⟩,hB0⟩
  (fun x a' W=>∃ g,a'={ tmps:=#[.agg #[.int .i64 lv,.slice A m c],.pointer (some ⟨w.heap.size,0,none⟩),.slice none 0 0,.pointer (some ⟨w.heap.size+1,0,none⟩),Qaf,.pointer (some ⟨g,0,none⟩),.pointer (some ⟨w.heap.size,1,none⟩),.slice A m c,
   .func (.func 180) #[] #[.pointer (some ⟨w.heap.size+1+1,0,none⟩)],.int .i64 (x:Int),.agg #[.int .u8 ((f x).1.1.toNat:Int),.int .u32 (f x).1.2.1,.int .u32 (f x).1.2.2,.int .i64 (f x).2.1,.slice (E x) (f x).2.2.length (ca x)],Qaf,Qaf,Qaf,Qaf,Qaf,Qaf,Qaf,Qaf,Qaf,Qaf,Qaf,Qaf,Qaf],defers:=[] } /\
   W.cell? ⟨g,3,none⟩=some (.int .i64 (f x).2.1))
  (fun x a'=>Own.from (fun s A B row hs hg hr=>by
   obtain⟨g,e,h1⟩:=hs
   exact⟨g,e,cell_kept h1 hg hr⟩) _) ?assign ?body ?done ?stop
 case assign =>
  rintro l pre x W K ⟨⟨⟨v,hv,hrow,_⟩,c0,c3⟩,hb⟩ hK;have c3':=c3.cell
  gi_wp2
  exact hK _ _ ((KeepsOthers.alloc _ _).from _) ⟨(Qa _ W).alloc hb.size _,(Lib.cell?_alloc_some _ c3').trans c3'.symm⟩
   ⟨⟨⟨v,hv.alloc _,hrow.alloc _,trivial⟩,(Qs W _ _ (Qe.1 c0).1).trans c0,c3.alloc _⟩,hb.alloc hb.size _⟩ ⟨W.heap.size,rfl,by go_simp⟩
 case body =>
  rintro l pre x a' W hl hloop ⟨⟨⟨v,hv,hrow,_⟩,c0,c3⟩,hb⟩ ⟨g,rfl,g3⟩ hlen;obtain⟨q,hq⟩:∃ q,(f x).2.1=q:=⟨_,rfl⟩
  rw[hq] at g3;have d0:W.cell? ⟨w.heap.size,0,none⟩=some (.int .i64 lv):=by rw[cell_of_row _ _ _ _ _ _ c0];rfl
  by_cases he:q=0
  ·have he':(q != 0)=false:=by simp[he]
   have hcz:Hid (Zk0 (lv-1) f (pre++[x])=Zk0 (lv-1) f pre):=Za (Zu6 (by rw[hq,he]));replace hq:=Za hq;replace he:=Za he
   gi_wp2
   refine⟨KeepsFrom.refl _ _,⟨Qa _ _,rfl⟩,⟨⟨v,hv,?_,trivial⟩,c0,c3⟩,hb⟩;rw[hcz.out];exact hrow
  ·have he':(q != 0)=true:=by simpa using he
   have hcm:Hid (Zk0 (lv-1) f (pre++[x])=Zk0 (lv-1) f pre++[(q,lv-1)]):=Za (by rw[Zvg (by rw[hq];exact he),hq]);have hle:w.heap.size<=w.heap.size+1:=by omega
   have hcell:=hv.cell
   have hkl:Hid ((Zk0 (lv-1) f pre).length<=1000000):=Za (by
    have:=Zsl (lv-1) (pre.map f);rw[Qz] at this
    exact Qc this (by omega))
   obtain⟨k,hk⟩:∃ k,(Zk0 (lv-1) f pre).length=k:=⟨_,rfl⟩
   rw[hk] at hrow hkl;replace hk:=Za hk;have hwr:IntKind.i64.wrap (lv-1)=lv-1:=by rw[IntKind.wrap_i64];omega
   replace hq:=Za hq;replace he:=Za he
   gi_wp2_with (gi_at_builtin;refine wpListIn_append_own _ rfl _ _ 203 rfl w.heap.size 115 i0 (.agg #[.int .i64 0,.int .i64 0]) 2 16 Tryz.underlying203 hi hz0 hz1 hz2 rfl (by decide) _ _ _ rfl (hrow.alloc _) ⟨W.heap.size,0,none⟩ 1 1 [.int .i64 q,.int .i64 (lv-1)] rfl rfl Zwg (by simp[Value.oneCell']) (by unfold maxLen;have:=hkl.out;omega) (by have:=hkl.out;omega) (by have:=hb.size;simp;omega) ?_;intro v' w1 hown' hgrow _;obtain⟨g',cap',rfl⟩:=ownsRow_succ hown';obtain⟨hv1,hv2,hr2,hk2,hb2⟩:=hv.appended (by decide) hrow hb.size hle hown' hgrow;have hc1:=hv1.cell;have hf1:=hv1.frozen)
   have e0:=Zdi (v':=.slice (some ⟨g',0,none⟩) (k+1) cap') c0 (by decide) hrow hgrow (B:=w.heap.size+1) (by omega);have e3:Boxed _ (w.heap.size+1+1) 39 (.slice A m c):=Zdi (v':=.slice (some ⟨g',0,none⟩) (k+1) cap') c3 (by decide) hrow hgrow (B:=w.heap.size+1) (by omega);refine⟨hk2.from _,⟨hb2,e3.cell.trans c3.cell.symm⟩,⟨⟨_,hv2,?_,trivial⟩,e0,e3⟩,hb.trans hb2⟩;rw[hcm.out,Qg,hk.out,Zqk];exact hr2
 case done =>
  rintro D zs W hD rfl ⟨⟨⟨v,hv,hrow,_⟩,c0,c3⟩,hb⟩ hK;have hcell:=hv.cell;rw[hcol.out,Pq] at hrow
  gi_wp2
  refine⟨by simp,.inl ⟨_,_,rfl,run_takeDeferred hK,?_⟩⟩;have hrow':=ownsRow_putObj hrow (.deferred none) hK rfl;refine⟨_,results_tmp rfl _ _ _,v,rfl,hrow',hb.trans (belowK_b hlo _ D _ _ hD hK rfl rfl)⟩
 case stop =>
  rintro D c pre W _ _ h _;exact h.elim}
theorem Zzc (v:Qaa) (nd:Nd) (h0:0<=nd.1) (h6:nd.1<6) (hl5:nd.2.length<=5) (w:P9) (h:Nod (Old w) w v nd) :
  Qag Tryz.prog 132 #[v] w fun e W'=>∃ u,e=.returned u/\W'.ownsRow w.heap.size 115 2 u (Zul nd).length (rfV (Zul nd).reverse)/\Qai w.heap.size w W' :=
 callsIn_wide.1 (Z2l Fence.wide 3 trivial trivial trivial rfl (Qd _) v nd h0 h6 hl5 w h)
theorem Zwl {w w':P9}{B base g n c:Nat}{e:Qac}{size:Nat}{xs:List Qaa}(h:w.ownsRow base e size (.slice (some ⟨g,0,none⟩) n c) n xs) (hb:Qai B w w') (hg:g<B):w'.ownsRow base e size (.slice (some ⟨g,0,none⟩) n c) n xs:=by
 refine⟨h.1,h.2.imp id ?_⟩;rintro⟨q,cap,cur,e1,h1,h2,h3⟩;have hq:g=q:=by
  simp only[Value.slice.injEq,Option.some.injEq,Addr.mk.injEq,and_true,true_and] at e1;exact e1.1
 exact⟨q,cap,cur,e1,h1,(hb.block q (by omega)).trans h2,h3⟩
theorem Z2j {w:P9}{base g n c:Nat}{e:Qac}{size:Nat}{xs ys:List Qaa}(h:w.ownsRow base e size (.slice (some ⟨g,0,none⟩) (n+1) c) (n+1) (xs++ys)) (hx:xs.length=n*size):w.ownsRow base e size (.slice (some ⟨g,0,none⟩) n c) n xs:=by{
 refine⟨hx,.inr ?_⟩;rcases h.2 with ⟨e1,_⟩ | ⟨q,cap,cur,e1,h1,h2,h3,h4,h5,h6⟩
 ·simp at e1
 ·simp only[Value.slice.injEq,Option.some.injEq,Addr.mk.injEq,and_true,true_and] at e1
  obtain⟨rfl,rfl⟩:=e1;refine⟨g,c,cur,rfl,h1,h2,by omega,h4,h5,?_⟩;have:(cur.toList.take ((n+1)*size)).take (n*size)=(xs++ys).take (n*size):=by rw[h6]
  rw[List.take_take,Pr (Nat.mul_le_mul_right _ (by omega))] at this;rw[this,<- hx];exact List.take_left}
theorem Z5c {w:P9}{base base' n m:Nat}{ty:Qac}{v u:Qaa}{a b:List Rf}(hown:w.ownsRow base 115 2 v n (rfV a)) (hu:w.ownsRow base' 115 2 u m (rfV b)) (h:n+m<=1000000) (hbase:base<=w.heap.size) :
  ∃ v' w',(Qx #[203,203] ty #[v,u]).run Tryz.prog w=.ok v' w'/\w'.ownsRow base 115 2 v' (n+m) (rfV (a++b))/\w.grownBy w' v.ownBlock/\Qai base w w':=by{
 obtain⟨i0,hi,hz0,hz1,hz2⟩:=info_parts Zrb;obtain⟨A,c,rfl,_,_,ho,_⟩:=Yr hu;have hcs:=fun g=>hu.cells (g:=g)
 rw[Zqk];refine Zma base _ ty 115 i0 (.agg #[.int .i64 0,.int .i64 0]) 2 16 Tryz.underlying203 hi hz0 hz1 hz2 rfl (by decide) v n (rfV a) hown A m c (rfV b) hu.1 (fun j x hj=> ?_) (Z29 b) (by unfold maxLen;omega) (by omega) hbase;rcases hu.2 with ⟨e,rfl⟩ | ⟨g,cap,cur,e,_⟩
 ·have:=hu.1
  rw[Nat.zero_mul] at this;rw[Ps this] at hj;simp at hj
 ·cases e
  exact⟨_,rfl,hcs _ rfl j x hj⟩}
theorem Z21 (l:List Rf):l=[]\/∃ a x,l=a++[x]:=by
 rcases List.eq_nil_or_concat l with h | ⟨a,x,h⟩
 ·exact .inl h
 ·exact .inr ⟨a,x,by rw[h,List.concat_eq_append]⟩
def msr (w:P9) (g:Nat):Nat:=((List.range 256).map fun j=>match w.cell? ⟨g,j,none⟩ with
 | some (.int _ n)=>n.toNat
 | _=>0).sum
theorem Zle {w:P9}{base g c:Nat}{T:List UInt8}(h:w.ownsRow base 5 1 (.slice (some ⟨g,0,none⟩) 256 c) 256 (u8s T)):msr w g=Zp6 T:=by{
 have hl:T.length=256:=Zf4 h;unfold msr Zp6
 congr 1
 refine Pn (by simp[hl]) fun i h1 h2=> ?_
 have hi:i<256:=by simpa using h1
 rw[Pe,Pe,Po];rw[Zbr h hi];show ((T[i]?.getD 0).toNat:Int).toNat=_;rw[Qf (by omega)];rfl}
def LwP (s:Rm) (x:Rf) (t0:List UInt8) (g c lo:Nat) (w w':P9) (e:Qah):Prop:=∃ q:Int,e=.returned (.int .i64 q)/\w.grownBy w' (some g) /\
 ((wkF s.1 x.2 t0 x.1.toNat=none/\q=8)\/(∃ t,wkF s.1 x.2 t0 x.1.toNat=some t/\q=0/\w'.ownsRow lo 5 1 (.slice (some ⟨g,0,none⟩) 256 c) 256 (u8s t)))
theorem Z5w (w:P9) (a b c d e f:Qaa):∃ w1,(w.alloc (.cells #[a,b,c,d] 29)).alloc (.cells #[e,f] 115)=w1 /\
  w1.heap[w.heap.size]? = some (.cells #[a,b,c,d] 29 (0,0))/\w1.heap[w.heap.size+1]? = some (.cells #[e,f] 115 (0,0))/\w1.heap.size=w.heap.size+2/\Qai w.heap.size w w1:=by
 refine⟨_,rfl,Yk (Qae _ _),?_,by simp,((Qa _ w).alloc (Qd _) _).alloc (by simp) _⟩;have:=Qae (w.alloc (.cells #[a,b,c,d] 29)) (.cells #[e,f] 115)
 rwa [Qh] at this
def LwR (s:Rm) (t0:List UInt8) (R:Option (List UInt8)) (g c lo:Nat) (w1:P9) (v:Qaa) (wr:P9):Prop:=∃ (st:List Rf) (T:List UInt8) (A:Option Qab) (sc:Nat),v=.slice A st.length sc /\
 wr.ownsRow w1.heap.size 115 2 (.slice A st.length sc) st.length (rfV st)/\wr.ownsRow lo 5 1 (.slice (some ⟨g,0,none⟩) 256 c) 256 (u8s T)/\w1.grownBy wr (some g) /\
 runT s.1 T st.reverse=R/\LeT T t0/\(∀ x∈st,Rfd x)/\st.length+5*Zp6 T<=400000
theorem Zx7 (g c lo:Nat) (t0:List UInt8) (v:Qaa) (s:Rm) (hm:Yp s=true) (a0 lv0:Int) (hx0:Rfd (a0,lv0)) (hle0:LeT t0 s.2.1) (w:P9) (hown:w.ownsRow lo 5 1 (.slice (some ⟨g,0,none⟩) 256 c) 256 (u8s t0)) (h:Sto (Off g w) w v s) :
  Qag Tryz.prog 92 #[.slice (some ⟨g,0,none⟩) 256 c,v,.agg #[.int .i64 a0,.int .i64 lv0]] w fun e w'=>LwP s (a0,lv0) t0 g c lo w w' e:=by{
 obtain⟨A,ca,B,cb,N,cn,L,cl,rfl,_⟩:=id h.open;have hl0:t0.length=256:=Zf4 hown;have hg0:g<w.heap.size:=((hown.lt g rfl).2)
 obtain⟨w1,hw1,f1,f2,hsz,hB⟩:=Z5w w (.slice A s.1.1.length ca) (.slice B s.1.2.length cb) (.slice N s.2.1.length cn) (.slice L s.2.2.length cl) (.int .i64 a0) (.int .i64 lv0);have H:=Za (show Sto (Off g w1) w1 _ s from h.map fun _ _ hp hc=>Za4 hB hp hc);have HO:=Za (Zr hown hB);have GB:=Za (Zpv (row:=some g) hB);obtain⟨k0,k1,k2,k3,_,kg⟩:=Ze f1;obtain⟨j0,j1,_,jg⟩:=Zg f2;have f1h:=Za f1;obtain⟨R,hR⟩:∃ R,wkF s.1 lv0 t0 a0.toNat=R:=⟨_,rfl⟩
 have hgs:Hid (g<w.heap.size):=Za hg0;have hsz':=Za hsz;replace hl0:=Za hl0;replace hle0:=Za hle0
 have hL1:Hid (LwR s t0 R g c lo w1 (.slice (some ⟨w1.heap.size,0,none⟩) 1 1) (w1.alloc (.cells #[.int .i64 a0,.int .i64 lv0] 115))):=Za (by
  refine⟨[(a0,lv0)],t0,some ⟨w1.heap.size,0,none⟩,1,rfl,?_,Zr HO.out ((Qa _ _).alloc (Qd _) _),Zpv ((Qa _ _).alloc (Qd _) _),?_,LeT.refl _,?_,?_⟩
  ·exact World.ownsRow_lit w1 #[.int .i64 a0,.int .i64 lv0] 1 (Qd _) (by unfold maxLen;omega) rfl
  ·show (wkF s.1 lv0 t0 a0.toNat).bind _=R
   rw[hR];cases R <;> rfl
  ·intro x hx
   rw[Pt] at hx;rw[hx];exact hx0
  ·have:=Zx9 t0
   rw[hl0.out] at this;show 1+5*Zp6 t0<=400000
   omega)
 replace hR:=Za hR;clear hown h f1 f2 hB hg0 hsz hx0
 go_enter Tryz.func92,Tryz.ntmps92
 go_upto_region 1 with fail
 clear hw1
 go_upto_region 2 with fail
 obtain⟨W2,hW2⟩:∃ W2,w1.alloc (.cells #[.int .i64 a0,.int .i64 lv0] 115)=W2:=⟨_,rfl⟩
 rw[hW2] at hL1 ⊢;clear hW2 k0 k1 k2 k3 j0 j1 jg
 go_loopw [7] (fun vs wr=>LwR s t0 R g c lo w1 vs wr) (fun _ wr=>msr wr g)
 case atStart=>exact hL1.out
 case round =>
  obtain⟨st,T,E,sc,rfl,hst,hown,hgr,hrun,hle,hrf,hbd⟩:=hrel;have GF:=Za (Xc GB.out hgr);rcases Z21 st with rfl | ⟨st',x,rfl⟩
  ·have hfin:Hid (R=some T):=Za hrun.symm
   have HO2:=Za hown;clear hst hown hgr hrun hle hrf hbd
   go_wp2_with fail
   go_ret;exact⟨0,rfl,GF.out,.inr ⟨T,hR.out.trans hfin.out,rfl,HO2.out⟩⟩
  obtain⟨a,lv⟩:=x;have hxd:=hrf (a,lv) (by simp);obtain⟨k,rfl⟩:∃ k:Nat,a=k:=⟨a.toNat,by have:=hxd.1;dsimp only at this;omega⟩
  obtain⟨h8,h256,hm1,h6⟩:=hxd
  dsimp only at h8 h256 hm1 h6
  have hrf':Hid (∀ x∈st',Rfd x):=Za fun x hx=>hrf x (by simp[hx])
  rw[Pu] at hrun;replace hrun:(wkF s.1 lv T ((k:Int)).toNat).bind (fun u=>runT s.1 u st'.reverse)=R:=hrun;rw[show ((k:Int)).toNat=k by omega] at hrun;rw[Zqk,Qg] at hst;rw[Qg] at hbd;obtain⟨n,hn⟩:∃ n,st'.length=n:=⟨_,rfl⟩
  have e1:(st'++[((k:Int),lv)]).length=n+1:=by rw[Qg,hn];rfl
  rw[e1];replace hst:wr.ownsRow w1.heap.size 115 2 (.slice E (n+1) sc) (n+1) (rfV st'++[.int .i64 (k:Int),.int .i64 lv]):=by
   rw[hn] at hst;exact hst
  rw[hn] at hbd;replace hbd:n+1+5*Zp6 T<=400000:=hbd;obtain⟨gs,cap,e2⟩:=ownsRow_succ hst;cases e2;have hrl:(rfV st').length=n*2:=by rw[Z33,hn]
  have hc0:wr.cell? ⟨gs,n*2,none⟩=some (.int .i64 (k:Int)):=by
   rw[hst.cellAt (n*2) (by omega),Pv (by omega),hrl,Nat.sub_self];rfl
  have hc1:wr.cell? ⟨gs,n*2+1,none⟩=some (.int .i64 lv):=by
   rw[hst.cellAt (n*2+1) (by omega),Pv (by omega),hrl,show n*2+1-n*2=1 by omega];rfl
  have hpop:=Z2j hst hrl
  have hsc0:Hid (n+1<=sc):=Za (by
   obtain⟨_,_,e,hs,_⟩:=Yr hst;cases e
   exact hs)
  clear hst e1 hrf;obtain⟨w5,hw5,b5,hs5,hB5⟩:=Zy wr (.int .i64 (k:Int)) (.int .i64 lv) 115;have hown5:=Zr hown hB5;have hpop5:=Zr hpop hB5;have hgr5:=X6 hgr (hB5.mono hgr.size);have hms:Hid (msr wr g=Zp6 T):=Za (Zle hown);obtain⟨q0,q1,_,qg⟩:=Zg b5;have hrs:Hid (w1.heap.size<=wr.heap.size):=Za hgr.size;clear hown hpop hgr hB5;have n1:IntKind.i64.wrap ((n:Int)+1-1)=n:=by rw[IntKind.wrap_i64];omega
  go_upto_region 4 with fail
  clear hw5 hc0 hc1;replace hs5:=Za hs5;have hsc:n+1<=sc:=by
   have:=hsc0.out;exact this
  have hs0:(0:Int)<=(n:Int):=by omega
  have hs2:¬ sc=0:=by omega
  have hs3:¬ 0=sc:=by omega
  have hs4:0<sc:=by omega
  have hs5':n<=sc:=by omega
  clear hsc;have hs1:(n:Int)<=(sc:Int):=by omega
  clear hrl
  go_upto_region 5 with fail
  clear hs0 hs1 hs2 hs3 hs4 hs5' n1
  have hle0':Hid (T[k]?.getD 0≠0->asE s (k:Int)=0):=Za fun hz=>Zj6 hm (by omega) (by omega) (fun e=>hz (X7.1 (by
   have h1:=(hle.trans hle0.out).le k;rw[e] at h1
   exact Nat.le_zero.1 h1)))
  have hways:=Za (fun hz=>Z3w (d:=s.1) (lv:=lv) (t:=T) (a:=k) hm1 h6 hz);have hnone:=Za (fun hz=>Z2m (d:=s.1) (lv:=lv) (t:=T) (a:=k) hz);have hdn:=Za (fun hz=>Zxy (t:=T) (a:=k) hz);have hTl:Hid (T.length=256):=Za (Zf4 hown5);have hcell:=Zbr hown5 (j:=k) (by omega);have hfr:w5.frozen? ⟨g,k,none⟩=false:=hown5.frozenAt k;have k256:k<256:=by omega
  obtain⟨y,hy⟩:∃ y,T[k]?.getD 0=y:=⟨_,rfl⟩
  rw[hy] at hcell hle0' hways hnone hdn;replace hy:=Za hy;have hgr5':=Za hgr5;replace hrun:=Za hrun;replace hle:=Za hle;replace hbd:=Za hbd;replace hn:=Za hn;clear hgr5;by_cases hy0:y=0
  ·have t1:=Y0 (y:=0) (q:=0) rfl hy0
   have hN:Hid (R=none):=Za (by rw[<- hrun.out,hnone.out hy0];rfl);have GF5:=Za (Xc GB.out hgr5'.out);clear hown5 hpop5 b5 hy0
   go_wp2_with fail
   go_ret;exact⟨8,rfl,GF5.out,.inl ⟨hR.out.trans hN.out,rfl⟩⟩
  have t1:=Yf (y:=0) (q:=0) rfl hy0;obtain⟨hu1,hu2,hu3⟩:=Zl0 hy0;have hset:=Zhf hown5 k (y-1);rw[<- hu1] at hset;have hg6:=Z7 (Yh w5 (some g)) (p:=⟨g,k,none⟩) rfl (.int .u8 ((y.toNat:Int)-1))
  have hpop6:=hpop5.kept hg6 (.inr (fun e=>by
   have:=(hpop5.lt gs rfl).1;have h0:=hgs.out;have h1:=hsz'.out;have e':gs=g:=by simpa [Value.ownBlock] using e
   omega))
  have hgr6:=Z7 hgr5'.out (p:=⟨g,k,none⟩) rfl (.int .u8 ((y.toNat:Int)-1))
  have b6:=(hg6.block wr.heap.size qg (fun e=>by
   have:=hgr5'.out.size;have h0:=hgs.out;have h1:=hsz'.out;have h2:=hgr5'.out.size;have h4:wr.heap.size=g:=by simpa using e
   have h5:=hrs.out
   omega)).trans b5
  obtain⟨w6,hw6⟩:∃ w6,w5.setCell ⟨g,k,none⟩ (.int .u8 ((y.toNat:Int)-1))=w6:=⟨_,rfl⟩
  rw[hw6] at hset hg6 hpop6 hgr6 b6;clear hown5 hpop5 b5;replace hset:=Za hset;replace hpop6:=Za hpop6;replace hgr6:=Za hgr6;replace b6:=Za b6;replace hu1:=Za hu1;clear hg6
  go_upto_region 8 with fail
  clear hw6 hcell hfr q0 q1;have c6:=Zbr hset.out (j:=k) k256;rw[Zf8 (by rw[hTl.out];exact k256)] at c6;obtain⟨q0,q1,_,_⟩:=Zg b6.out
  have hF1:=(hgr6.out.block w.heap.size kg (by
   have h0:=hgs.out;simp
   omega)).trans f1h.out
  obtain⟨k0,k1,k2,k3,_,_⟩:=Ze hF1;clear hF1;have hS6:Hid (Sto (Old w6) w6 (.agg #[.slice A s.1.1.length ca,.slice B s.1.2.length cb,.slice N s.2.1.length cn,.slice L s.2.2.length cl]) s):=Za ((H.out.map fun _ _ hp hc=>Zbk hgr6.out hp hc).map fun _ _ hp hc=>Zd5 hp hc)
  have hms6:Hid (msr w6 g<msr wr g):=Za (by
   rw[Zle hset.out,hms.out];have:=hdn.out hy0
   omega)
  have hle6:Hid (LeT (T.set k (y-1)) t0):=Za ((Zbv (by rw[dnO,hy.out,if_neg hy0])).2.2.1.trans hle.out);have hal6:Hid (Zp6 (T.set k (y-1))+1=Zp6 T):=Za (hdn.out hy0);have hT6:Hid (∀ t,wkF s.1 lv T k=t->t.bind (fun u=>runT s.1 u st'.reverse)=R):=Za fun t ht=>by rw[<- ht];exact hrun.out
  obtain⟨T',hT'⟩:∃ T',T.set k (y-1)=T':=⟨_,rfl⟩
  obtain⟨z,hz⟩:∃ z,y-1=z:=⟨_,rfl⟩
  have hw2:=hways.out hy0;rw[hT',hz] at hw2;rw[hz] at c6;rw[hT'] at hset hle6 hal6;clear hT' hways hnone hdn;rcases hw2 with ⟨hc,hF⟩ | ⟨hz0,hl,hnr,hF⟩ | ⟨hz0,hl,hr,hF⟩
  ·have hrel6:Hid (LwR s t0 R g c lo w1 (.slice (some ⟨gs,0,none⟩) n sc) w6):=Za ⟨st',T',some ⟨gs,0,none⟩,sc,by rw[hn.out],by rw[hn.out];exact hpop6.out,hset.out,hgr6.out,hT6.out _ hF,hle6.out,hrf'.out,by have:=hal6.out;have:=hbd.out;have:=hn.out;omega⟩
   replace hz:=Za hz;replace hF:=Za hF;clear hy0 t1;by_cases hz0:z=0
   ·have hlv:=hc.resolve_left (fun h=>h hz0)
    subst hz0;subst hlv;replace c6:w6.cell? ⟨g,k,none⟩=some (.int .u8 0):=c6;clear hc
    go_wp2_with fail
    go_roundw
    case rel=>exact hrel6.out
    case measure=>exact hms6.out
   ·have hz1:0<z.toNat:=by
     have:z.toNat≠0:=fun e=>hz0 (X7.1 e);omega
    clear hc hz0
    go_wp2_with fail
    go_roundw
    case rel=>exact hrel6.out
    case measure=>exact hms6.out
  ·have hN:Hid (R=none):=Za (hT6.out _ hF).symm
   have has:=Za (hle0'.out hy0);have c7:(lv == -1)=false:=by simpa using hl
   subst hz0;replace c6:w6.cell? ⟨g,k,none⟩=some (.int .u8 0):=c6;replace hz:=Za hz;replace hF:=Za hF;replace hnr:=Za hnr;clear hy0 t1 hl
   go_wp2_with fail
   with_reducible refine(Znk _ s k lv has.out _ hS6.out).mono ?_
   rintro e w7 ⟨u,q,nd,rfl,hq,hu,hb7⟩;rcases hq with ⟨hr,_⟩ | ⟨_,rfl,_⟩
   ·exact absurd hr hnr.out
   obtain⟨P,pc,rfl,_⟩:=id hu.open;obtain⟨pl,hpl⟩:∃ pl,nd.2.length=pl:=⟨_,rfl⟩
   obtain⟨pv,hpv⟩:∃ pv,nd.1=pv:=⟨_,rfl⟩
   rw[hpl,hpv];obtain⟨w8,hw8,b8,hs8,hB8⟩:=Zy w7 (.int .i64 pv) (.slice P pl pc) 81;have G8:=Za (Xc GB.out (X6 hgr6.out ((hb7.trans (hB8.mono hb7.size)).mono hgr6.out.size)));replace hs8:=Za hs8;clear hu hpl hpv hb7 hB8 b8 q0 q1 c6 k0 k1 k2 k3
   go_upto_region 10 with fail
   clear hw8
   go_wp2_with fail
   go_ret;exact⟨8,rfl,G8.out,.inl ⟨hR.out.trans hN.out,rfl⟩⟩
  ·have has:=Za (hle0'.out hy0)
   have c7:(lv == -1)=false:=by simpa using hl
   subst hz0;replace c6:w6.cell? ⟨g,k,none⟩=some (.int .u8 0):=c6;replace hz:=Za hz;replace hF:=Za hF;replace hr:=Za hr;clear hy0 t1 hl
   go_wp2_with fail
   with_reducible refine(Znk _ s k lv has.out _ hS6.out).mono ?_
   rintro e w7 ⟨u,q,nd,rfl,hq,hu,hb7⟩;rcases hq with ⟨_,rfl,hnd⟩ | ⟨hnr,_⟩
   case inr=>exact absurd hr.out hnr
   obtain⟨P,pc,rfl,_⟩:=id hu.open;obtain⟨pl,hpl⟩:∃ pl,nd.2.length=pl:=⟨_,rfl⟩
   obtain⟨pv,hpv⟩:∃ pv,nd.1=pv:=⟨_,rfl⟩
   rw[hpl,hpv] at hu ⊢;obtain⟨w8,hw8,b8,hs8,hB8⟩:=Zy w7 (.int .i64 pv) (.slice P pl pc) 81;have G8:=Za (X6 hgr6.out ((hb7.trans (hB8.mono hb7.size)).mono hgr6.out.size));have N8:=Za (hu.drop.below hB8);have own8:=Za (Zr (Zr hset.out hb7) hB8);have pop8:=Za (Zr (Zr hpop6.out hb7) hB8);have hmn:=(Zcz hr.out.1).1;rw[<- hnd] at hF hmn;obtain⟨⟨s1,s2,s3,_⟩,_⟩:=Zs hmn;have hrfs:=Za (V4 hmn);replace hs8:=Za hs8;obtain⟨q0,q1,_,_⟩:=Zg b8;have b8h:=Za b8;clear hu hb7 hB8 b8 c6 k0 k1 k2 k3
   go_upto_region 10 with fail
   clear hw8
   go_wp2_with fail
   with_reducible refine(Zzc (.agg #[.int .i64 pv,.slice P pl pc]) nd s1 s2 s3 _ N8.out).mono ?_
   rintro e w9 ⟨u9,rfl,hu9,hb9⟩;obtain⟨m,hm9⟩:∃ m,(Zul nd).length=m:=⟨_,rfl⟩
   have hm5:m<=5:=by
    rw[<- hm9];exact Qc (Zsl _ _) s3
   rw[hm9] at hu9;have own9:=Zr own8.out hb9;have pop9:=Zr pop8.out hb9;have G9:=X6 G8.out (hb9.mono G8.out.size);obtain⟨v',w10,hr10,ho10,_,hb10⟩:=Z5c (ty:=203) pop9 hu9 (by have:=hbd.out;omega) G9.size;obtain⟨A10,c10,rfl,_⟩:=Yr ho10;have H10:=Za hr10;have hl10:(st'++(Zul nd).reverse).length=n+m:=by rw[Qg,Pq,hn.out,hm9]
   have own10:=Zwl own9 hb10 (by have h0:=hgs.out;have h1:=hsz'.out;omega)
   have hrel10:Hid (LwR s t0 R g c lo w1 (.slice A10 (n+m) c10) w10):=Za ⟨st'++(Zul nd).reverse,T',A10,c10,by rw[hl10],by rw[hl10];exact ho10,own10,X6 G9 hb10,(by
    rw[Pu,List.reverse_reverse,Zq5]
    exact hT6.out _ hF.out),hle6.out,fun x hx=>(Pw.1 hx).elim (hrf'.out x) (fun h=>Zqi (by omega) (by omega) hrfs.out x (List.mem_reverse.1 h)),(by rw[hl10];have:=hal6.out;have:=hbd.out;omega)⟩
   have hms10:Hid (msr w10 g<msr wr g):=Za (by
    have:=hms6.out
    rwa [Zle hset.out,<- Zle own10] at this)
   clear hr10 ho10 hb10 own9 pop9 G9 hu9 hb9 own10 hl10 hm9 hm5
   go_wp2_with (at_builtin;refine Zi rfl _ _ _ rfl rfl rfl H10.out ?_;clear H10)
   go_roundw
   case rel=>exact hrel10.out
   case measure=>exact hms10.out}
def gdE (s:Rm) (lv a:Int):Int:=if asE s a=0 then (match wkF s.1 lv s.2.1 a.toNat with | some _=>0 | none=>8) else asE s a
def gdV (s:Rm) (lv a:Int):Rm:=if asE s a=0 then (match wkF s.1 lv s.2.1 a.toNat with | some t=>(s.1,t,s.2.2) | none=>Zn) else Zn
theorem Z6o {s:Rm}{lv a:Int}(h:asE s a≠0):gdE s lv a=asE s a/\gdV s lv a=Zn:=⟨by rw[gdE,if_neg h],by rw[gdV,if_neg h]⟩
theorem Z58 {s:Rm}{lv a:Int}(h:asE s a=0) (h':wkF s.1 lv s.2.1 a.toNat=none):gdE s lv a=8/\gdV s lv a=Zn:=⟨by rw[gdE,if_pos h,h'],by rw[gdV,if_pos h,h']⟩
theorem Z6m {s:Rm}{lv a:Int}{t:List UInt8}(h:asE s a=0) (h':wkF s.1 lv s.2.1 a.toNat=some t):gdE s lv a=0/\gdV s lv a=(s.1,t,s.2.2):=⟨by rw[gdE,if_pos h,h'],by rw[gdV,if_pos h,h']⟩
theorem Z53 (d:Dk) (t:List UInt8) (a:Nat):wkF d 6 t a=lfO d t a:=by rw[wkF,if_pos rfl]
theorem Z52 (d:Dk) (t:List UInt8) (a:Nat):wkF d (-1) t a=dnO t a:=by
 rw[wkF,if_neg (by decide)];rfl
theorem Z1i {s:Rm}{n:Int}(h:asE s n=0):∃ k:Nat,n=k/\Yp s=true/\8<=k/\k<256/\s.2.1[k]?.getD 0≠0:=by
 obtain⟨k,e,hm,h8,h256,_,_,_,_,hx⟩:=Xb h;exact⟨k,e,hm,h8,h256,hx⟩
theorem Zgy (s:Rm) (a:Int):gdE s 6 a=lvE s a/\gdV s 6 a=lvV s a:=by
 unfold gdE gdV lvE lvV;rw[Z53];exact⟨rfl,rfl⟩
theorem Zhb (s:Rm) (a:Int):gdE s (-1) a=asE s a/\gdV s (-1) a=loV s a:=by{
 unfold gdE gdV loV;rw[Z52];by_cases h:asE s a=0
 ·obtain⟨k,rfl,_,_,_,hx⟩:=Z1i h
  rw[show ((k:Int)).toNat=k by omega,Zfx hx];exact⟨by rw[if_pos h,h],rfl⟩
 ·exact⟨by rw[if_neg h],by rw[if_neg h,if_neg h]⟩}
theorem Z6n {d:Dk}{lv:Int}{t u:List UInt8}{a:Nat}(h:wkF d lv t a=some u):LeT u t:=by
 unfold wkF at h;split at h
 ·exact(Zos h).2.1
 ·exact Zq9 d _ t a u h
theorem Z5f (w:P9) (a b c d e f:Qaa):∃ w1,((w.alloc (.cells #[a,b,c,d] 29)).alloc (.cells #[e,f] 115)).alloc (.cells #[.slice none 0 0,.slice none 0 0,.slice none 0 0,.slice none 0 0] 29)=w1 /\
  w1.heap[w.heap.size]? = some (.cells #[a,b,c,d] 29 (0,0))/\w1.heap[w.heap.size+1]? = some (.cells #[e,f] 115 (0,0))/\w1.heap[w.heap.size+2]? = some (.cells #[.slice none 0 0,.slice none 0 0,.slice none 0 0,.slice none 0 0] 29 (0,0))/\w1.heap.size=w.heap.size+3/\Qai w.heap.size w w1:=by{
 refine⟨_,rfl,Yk (Yk (Qae _ _)),Yk ?_,?_,by simp,(((Qa _ w).alloc (Qd _) _).alloc (by simp) _).alloc (by simp;omega) _⟩
 ·have:=Qae (w.alloc (.cells #[a,b,c,d] 29)) (.cells #[e,f] 115)
  rwa [Qh] at this
 ·have:=Qae ((w.alloc (.cells #[a,b,c,d] 29)).alloc (.cells #[e,f] 115)) (.cells #[.slice none 0 0,.slice none 0 0,.slice none 0 0,.slice none 0 0] 29)
  rwa [Qh,Qh] at this}
theorem Zkg (v:Qaa) (s:Rm) (a lv:Int) (hlv : -1<=lv/\lv<=6) (w:P9) (h:Sto (Old w) w v s) :
  Qag Tryz.prog 54 #[v,.agg #[.int .i64 a,.int .i64 lv]] w fun e w'=>∃ u,e=.returned (.tuple #[u,.int .i64 (gdE s lv a)])/\Sto (New w.heap.size w') w' u (gdV s lv a)/\Qai w.heap.size w w':=by{
 obtain⟨A,ca,B,cb,N,cn,L,cl,rfl,_⟩:=id h.open;obtain⟨w1,hw1,f1,f2,f3,hsz,hB⟩:=Z5f w (.slice A s.1.1.length ca) (.slice B s.1.2.length cb) (.slice N s.2.1.length cn) (.slice L s.2.2.length cl) (.int .i64 a) (.int .i64 lv);have H:=Za (h.below hB);clear h;obtain⟨k0,k1,k2,k3,_,kg⟩:=Ze f1;obtain⟨j0,j1,_,jg⟩:=Zg f2;replace hsz:=Za hsz;replace f3:=Za f3;by_cases ha:asE s a=0
 case neg =>
  obtain⟨hE,hV⟩:=Z6o (lv:=lv) ha;obtain⟨q,hq⟩:∃ q,asE s a=q:=⟨_,rfl⟩
  rw[hq] at ha hE;have hq1:(q != 0)=true:=by simpa using ha
  replace hq:=Za hq;replace hE:=Za hE;replace hV:=Za hV;clear ha
  go_enter Tryz.func54,Tryz.ntmps54
  go_upto_region 1 with fail
  clear hw1
  go_wp2_with fail
  with_reducible refine(Zop _ s a _ H.out).mono ?_
  rintro e w2 ⟨rfl,hb2⟩;rw[hq.out];have F2:=(hb2.block (w.heap.size+2) (by rw[hsz.out];omega)).trans f3.out;replace hb2:=Za (hB.trans (hb2.mono hB.size));clear k0 k1 k2 k3 kg j0 j1 jg f1 f2 hB;obtain⟨k0,k1,k2,k3,k4,k5⟩:=Ze F2;obtain⟨W9,hW9,g9,gr9,gs9⟩:=Zo (a':=.slice none 0 0) (b':=.slice none 0 0) (c':=.slice none 0 0) (d':=.slice none 0 0) F2;obtain⟨n0,n1,n2,n3,_,_⟩:=Ze g9;have hB9:=Za ((hb2).out.grown gr9 (hb2).out.size (fun q e=>by cases e;omega));replace g9:=Za g9;replace F2:=Za F2;clear gr9 gs9
  go_wp2_with fail
  refine Qad (v:=.tuple #[.agg #[.slice none 0 0,.slice none 0 0,.slice none 0 0,.slice none 0 0],.int .i64 q]) (by simp[results,Tryz.results54,go_sem,n0,n1,n2,n3]) rfl ?_;rw[hE.out,hV.out];exact⟨_,rfl,Zu _ _,hB9.out⟩
 obtain⟨k,hk,hm,h8,h256,hx⟩:=Z1i ha;subst hk;have hax:=Za ha;have hlen:=Za (Z0 (Zw hm).2.1);obtain⟨R,hR⟩:∃ R,wkF s.1 lv s.2.1 ((k:Int)).toNat=R:=⟨_,rfl⟩
 have hrd:Hid (Rfd ((k:Int),lv)):=Za ⟨by show (8:Int)<=k;omega,by show (k:Int)<256;omega,hlv.1,hlv.2⟩;replace hR:=Za hR;replace hx:=Za hx;clear ha hlv h8 h256
 go_enter Tryz.func54,Tryz.ntmps54
 go_upto_region 1 with fail
 clear hw1
 go_wp2_with fail
 with_reducible refine(Zop _ s (k:Int) _ H.out).mono ?_
 rintro e w2 ⟨rfl,hb2⟩;rw[hax.out];have F1:=(hb2.block w.heap.size kg).trans f1;have F2:=(hb2.block (w.heap.size+1) jg).trans f2;have F3:=Za ((hb2.block (w.heap.size+2) (by rw[hsz.out];omega)).trans f3.out);have H2:=Za (H.out.below hb2);have s2:Hid (w.heap.size+3<=w2.heap.size):=Za (by have:=hb2.size;have:=hsz.out;omega);have B2:=Za (hB.trans (hb2.mono hB.size));clear k0 k1 k2 k3 kg j0 j1 jg f1 f2 hb2 hB;obtain⟨k0,k1,k2,k3,_,kg⟩:=Ze F1;obtain⟨j0,j1,_,jg⟩:=Zg F2
 go_wp2_with fail
 obtain⟨_,_,e9,l1,m1,hby⟩:=Yq (B:=w2.heap.size) (fun _ h=>h) H2.out.parts.2.1;cases e9;with_reducible refine(Ze8 N s.2.1.length cn s.2.1 (Za rfl) (by rw[hlen.out];omega) _ hby).mono ?_
 rintro e w3 ⟨u,rfl,hu3,hb3⟩;obtain⟨g,c2,rfl,hg1,hg2,hg3,hg4⟩:=Ze1 hu3 (by rw[hlen.out];omega);rw[hlen.out] at hu3 ⊢;have G1:=(hb3.block w.heap.size kg).trans F1;have G2:=(hb3.block (w.heap.size+1) jg).trans F2;have G3:=Za ((hb3.block (w.heap.size+2) (by have:=s2.out;omega)).trans F3.out);have H3:=Za (show Sto (Off g w3) w3 _ s from H2.out.map fun _ _ hp hc=>Zk9 hb3 hg1 hp hc);have O3:=Za hu3;have B3:=Za (B2.out.trans (hb3.mono B2.out.size));have hgw:Hid (w.heap.size+3<=g):=Za (by have:=s2.out;omega);clear k0 k1 k2 k3 kg j0 j1 jg F1 F2 F3 hb3 B2 H2 hby l1 m1 hu3 hg1;obtain⟨k0,k1,k2,k3,_,kg⟩:=Ze G1;obtain⟨j0,j1,_,jg⟩:=Zg G2
 go_wp2_with fail
 with_reducible refine(Zx7 g c2 w2.heap.size s.2.1 _ s hm (k:Int) lv hrd.out (LeT.refl _) _ O3.out H3.out).mono ?_
 rintro e w4 ⟨q,rfl,hgr,hq⟩;have E1:=(hgr.block w.heap.size kg (by have:=hgw.out;simp;omega)).trans G1;have E3:=(hgr.block (w.heap.size+2) (by have:=G3.out;exact(Qe.1 this).1) (by have:=hgw.out;simp;omega)).trans G3.out;have B4:=Za (B3.out.grown hgr B3.out.size (fun q e=>by cases e;have:=hgw.out;omega));have H4:=Za (show Sto (Old w4) w4 _ s from (H3.out.map fun _ _ hp hc=>Zbk hgr hp hc).map fun _ _ hp hc=>Zd5 hp hc);clear k0 k1 k2 k3 kg j0 j1 jg G1 G2 G3 B3 H3 O3 hgr;rcases hq with ⟨hN,rfl⟩ | ⟨t,hS,rfl,hown⟩
 ·obtain⟨hE,hV⟩:=Z58 hax.out hN
  replace hE:=Za hE;replace hV:=Za hV;replace hN:=Za hN;clear E1;obtain⟨k0,k1,k2,k3,k4,k5⟩:=Ze E3;obtain⟨W9,hW9,g9,gr9,gs9⟩:=Zo (a':=.slice none 0 0) (b':=.slice none 0 0) (c':=.slice none 0 0) (d':=.slice none 0 0) E3;obtain⟨n0,n1,n2,n3,_,_⟩:=Ze g9;have hB9:=Za ((B4).out.grown gr9 (B4).out.size (fun q e=>by cases e;omega));replace g9:=Za g9;replace E3:=Za E3;clear gr9 gs9
  go_wp2_with fail
  refine Qad (v:=.tuple #[.agg #[.slice none 0 0,.slice none 0 0,.slice none 0 0,.slice none 0 0],.int .i64 8]) (by simp[results,Tryz.results54,go_sem,n0,n1,n2,n3]) rfl ?_;rw[hE.out,hV.out];exact⟨_,rfl,Zu _ _,hB9.out⟩
 ·obtain⟨hE,hV⟩:=Z6m hax.out hS
  have hle:=Z6n hS;have htl:t.length=256:=hle.len.trans hlen.out;have hmS:Yp (s.1,t,s.2.2)=true:=Zdp (Zw hm).1 (hle.may (Zw hm).2.1) (Zw hm).2.2;have hsm:=Za (Ztd hmS);have T4:Hid (Sto (Old w4) w4 (.agg #[.slice A s.1.1.length ca,.slice B s.1.2.length cb,.slice (some ⟨g,0,none⟩) 256 c2,.slice L s.2.2.length cl]) (s.1,t,s.2.2)):=Za (Sto.mk H4.out.parts.1 (Zf.drop (Zal hown)) H4.out.parts.2.2);replace hE:=Za hE;replace hV:=Za hV;replace hS:=Za hS;obtain⟨k0,k1,k2,k3,_,kg⟩:=Ze E1;replace E3:=Za E3;clear hown hle
  go_wp2_with fail
  with_reducible refine(Zvt _ (s.1,t,s.2.2) hsm.out _ T4.out).mono ?_
  rintro e w5 ⟨A5,a5,B5,b5,N5,n5,L5,l5,rfl,h5,hb5⟩;have F5:=(hb5.block (w.heap.size+2) (by have:=B4.out.size;have:=(Qe.1 E3.out).1;omega)).trans E3.out;have s5:Hid (w.heap.size+2<w4.heap.size):=Za (Qe.1 E3.out).1;obtain⟨o0,o1,o2,o3,_,_⟩:=Ze F5;obtain⟨W9,hW9,g9,gr9,gs9⟩:=Zo (a':=.slice A5 s.1.1.length a5) (b':=.slice B5 s.1.2.length b5) (c':=.slice N5 t.length n5) (d':=.slice L5 s.2.2.length l5) F5;obtain⟨n0,n1,n2,n3,_,_⟩:=Ze g9
  have hfin:=Za (show Sto (New w.heap.size W9) W9 (.agg #[.slice A5 s.1.1.length a5,.slice B5 s.1.2.length b5,.slice N5 t.length n5,.slice L5 s.2.2.length l5]) (s.1,t,s.2.2) from
   (h5.grown gr9 (fun q e=>by cases e;exact s5.out)).new B4.out.size (Qa _ _))
  have hB9:=Za ((B4.out.trans (hb5.mono B4.out.size)).grown gr9 (Qc B4.out.size hb5.size) (fun q e=>by cases e;omega));replace F5:=Za F5;replace g9:=Za g9;replace htl:=Za htl;clear gr9 gs9 h5 hb5 k0 k1 k2 k3 kg E1
  go_wp2_with fail
  refine Qad (v:=.tuple #[.agg #[.slice A5 s.1.1.length a5,.slice B5 s.1.2.length b5,.slice N5 t.length n5,.slice L5 s.2.2.length l5],.int .i64 0]) (by simp[results,Tryz.results54,go_sem,n0,n1,n2,n3]) rfl ?_;rw[hE.out,hV.out];exact⟨_,rfl,hfin.out,hB9.out⟩}
theorem Zst (v:Qaa) (s:Rm) (n:Int) (w:P9) (h:Sto (Old w) w v s) :
  Qag Tryz.prog 28 #[v,.int .i64 n] w fun e w'=>∃ u,e=.returned (.tuple #[u,.int .i64 (lvE s n)])/\Sto (New w.heap.size w') w' u (lvV s n)/\Qai w.heap.size w w':=by{
 obtain⟨A,ca,B,cb,N,cn,L,cl,w1,rfl,hw1,f1,f2,hsz,hB,H⟩:=V3 h;clear h;obtain⟨k0,k1,k2,k3,_,kg⟩:=Ze f1;replace hsz:=Za hsz;replace f2:=Za f2
 go_enter Tryz.func28,Tryz.ntmps28
 go_upto_region 1 with fail
 clear hw1
 go_wp2_with fail
 with_reducible refine(Zkg _ s n 6 (by decide) _ H.out).mono ?_
 rintro e w2 ⟨u,rfl,hu,hb2⟩;rw[(Zgy s n).1];rw[(Zgy s n).2] at hu;obtain⟨q,hq⟩:∃ q,gdE s 6 n=q:=⟨_,rfl⟩
 have hq':=Za ((Zgy s n).1.symm.trans hq);clear hq;rw[hq'.out];obtain⟨V,hV⟩:∃ V,gdV s 6 n=V:=⟨_,rfl⟩
 have hV':=Za ((Zgy s n).2.symm.trans hV);clear hV;rw[hV'.out] at hu;obtain⟨P,p,Q,r,Y,y,X,x,rfl,_⟩:=id hu.open;have F2:=(hb2.block (w.heap.size+1) (by rw[hsz.out];omega)).trans f2.out;obtain⟨o0,o1,o2,o3,_,_⟩:=Ze F2;obtain⟨W9,hW9,g9,gr9,gs9⟩:=Zo (a':=.slice P V.1.1.length p) (b':=.slice Q V.1.2.length r) (c':=.slice Y V.2.1.length y) (d':=.slice X V.2.2.length x) F2;obtain⟨n0,n1,n2,n3,_,_⟩:=Ze g9;have hfin:=Za (show Sto (New w.heap.size W9) W9 _ V from (hu.grown gr9 (fun q e=>by cases e;rw[hsz.out];omega)).new hB.size (Qa _ _));have hB9:=Za ((hB.trans (hb2.mono hB.size)).grown gr9 (Qc hB.size hb2.size) (fun q e=>by cases e;omega));replace F2:=Za F2;replace g9:=Za g9;clear gr9 gs9 hu hb2 k0 k1 k2 k3 kg f1
 go_wp2_with fail
 refine Qad (v:=.tuple #[.agg #[.slice P V.1.1.length p,.slice Q V.1.2.length r,.slice Y V.2.1.length y,.slice X V.2.2.length x],.int .i64 q]) (by simp[results,Tryz.results28,go_sem,n0,n1,n2,n3]) rfl ?_;rw[hq'.out,hV'.out];exact⟨_,rfl,hfin.out,hB9.out⟩}
theorem Zs1 (v:Qaa) (s:Rm) (n:Int) (w:P9) (h:Sto (Old w) w v s) :
  Qag Tryz.prog 84 #[v,.int .i64 n] w fun e w'=>∃ u,e=.returned (.tuple #[u,.int .i64 (asE s n)])/\Sto (New w.heap.size w') w' u (loV s n)/\Qai w.heap.size w w':=by{
 obtain⟨A,ca,B,cb,N,cn,L,cl,w1,rfl,hw1,f1,f2,hsz,hB,H⟩:=V3 h;clear h;obtain⟨k0,k1,k2,k3,_,kg⟩:=Ze f1;replace hsz:=Za hsz;replace f2:=Za f2
 go_enter Tryz.func84,Tryz.ntmps84
 go_upto_region 1 with fail
 clear hw1
 go_wp2_with fail
 with_reducible refine(Zkg _ s n (-1) (by decide) _ H.out).mono ?_
 rintro e w2 ⟨u,rfl,hu,hb2⟩;rw[(Zhb s n).1];rw[(Zhb s n).2] at hu;obtain⟨q,hq⟩:∃ q,gdE s (-1) n=q:=⟨_,rfl⟩
 have hq':=Za ((Zhb s n).1.symm.trans hq);clear hq;rw[hq'.out];obtain⟨V,hV⟩:∃ V,gdV s (-1) n=V:=⟨_,rfl⟩
 have hV':=Za ((Zhb s n).2.symm.trans hV);clear hV;rw[hV'.out] at hu;obtain⟨P,p,Q,r,Y,y,X,x,rfl,_⟩:=id hu.open;have F2:=(hb2.block (w.heap.size+1) (by rw[hsz.out];omega)).trans f2.out;obtain⟨o0,o1,o2,o3,_,_⟩:=Ze F2;obtain⟨W9,hW9,g9,gr9,gs9⟩:=Zo (a':=.slice P V.1.1.length p) (b':=.slice Q V.1.2.length r) (c':=.slice Y V.2.1.length y) (d':=.slice X V.2.2.length x) F2;obtain⟨n0,n1,n2,n3,_,_⟩:=Ze g9;have hfin:=Za (show Sto (New w.heap.size W9) W9 _ V from (hu.grown gr9 (fun q e=>by cases e;rw[hsz.out];omega)).new hB.size (Qa _ _));have hB9:=Za ((hB.trans (hb2.mono hB.size)).grown gr9 (Qc hB.size hb2.size) (fun q e=>by cases e;omega));replace F2:=Za F2;replace g9:=Za g9;clear gr9 gs9 hu hb2 k0 k1 k2 k3 kg f1
 go_wp2_with fail
 refine Qad (v:=.tuple #[.agg #[.slice P V.1.1.length p,.slice Q V.1.2.length r,.slice Y V.2.1.length y,.slice X V.2.2.length x],.int .i64 q]) (by simp[results,Tryz.results84,go_sem,n0,n1,n2,n3]) rfl ?_;rw[hq'.out,hV'.out];exact⟨_,rfl,hfin.out,hB9.out⟩}
theorem Zur {s:Rm}{n:Nd}(h:Yp s=false):mkE s n=8:=by rw[mkE,h];rfl
theorem Zys {s:Rm}{n:Nd}(h:Xn n=false):mkE s n=8:=by rw[mkE,h];simp
theorem Zvm (v u:Qaa) (s:Rm) (n:Nd) (w:P9) (h:Sto (Old w) w v s) (hu:Nod (Old w) w u n) :
  Qag Tryz.prog 45 #[v,u] w fun e w'=>∃ t,e=.returned (.tuple #[t,.int .i64 (mkN s n),.int .i64 (mkE s n)])/\Sto (New w.heap.size w') w' t (mkV s n)/\Qai w.heap.size w w':=by{
 obtain⟨A,ca,B,cb,N,cn,L,cl,rfl,_⟩:=id h.open;obtain⟨I,ci,rfl,_⟩:=id hu.open;obtain⟨w1,hw1,f1,fn,f2,hsz,hB⟩:=Zf9 (w:=w) (.slice A s.1.1.length ca) (.slice B s.1.2.length cb) (.slice N s.2.1.length cn) (.slice L s.2.2.length cl) (.int .i64 n.1) (.slice I n.2.length ci);have H:=Za (h.below hB);have U:=Za (hu.below hB);clear h hu;obtain⟨k0,k1,k2,k3,_,kg⟩:=Ze f1;obtain⟨p0,p1,_,pg⟩:=Zg fn;replace hsz:=Za hsz;replace f2:=Za f2;cases hm:Yp s with
 | false =>
  have hE:=Zur (n:=n) hm;obtain⟨hN,hV⟩:=Zlj (s:=s) (n:=n) (by rw[hE];decide);have e1:=Zc1 hm;replace hE:=Za hE;replace hN:=Za hN;replace hV:=Za hV
  go_enter Tryz.func45,Tryz.ntmps45
  go_upto_region 1 with fail
  clear hw1
  go_wp2_with fail
  with_reducible refine(Yy _ s _ H.out).mono ?_
  rintro e w2 ⟨rfl,hb2⟩;rw[e1];have F2:=(hb2.block (w.heap.size+2) (by rw[hsz.out];omega)).trans f2.out;replace hb2:=Za (hB.trans (hb2.mono hB.size));clear k0 k1 k2 k3 kg p0 p1 pg f1 fn hB e1 hm;obtain⟨k0,k1,k2,k3,k4,k5⟩:=Ze F2;obtain⟨W9,hW9,g9,gr9,gs9⟩:=Zo (a':=.slice none 0 0) (b':=.slice none 0 0) (c':=.slice none 0 0) (d':=.slice none 0 0) F2;obtain⟨n0,n1,n2,n3,_,_⟩:=Ze g9;have hB9:=Za ((hb2).out.grown gr9 (hb2).out.size (fun q e=>by cases e;omega));replace g9:=Za g9;replace F2:=Za F2;clear gr9 gs9
  go_wp2_with fail
  refine Qad (v:=.tuple #[.agg #[.slice none 0 0,.slice none 0 0,.slice none 0 0,.slice none 0 0],.int .i64 0,.int .i64 8]) (by simp[results,Tryz.results45,go_sem,n0,n1,n2,n3]) rfl ?_;rw[hE.out,hN.out,hV.out];exact⟨_,rfl,Zu _ _,hB9.out⟩
 | true =>
 have e1:=Zbl hm;obtain⟨b,hb⟩:∃ b,wrN n=b:=⟨_,rfl⟩
 obtain⟨q,hq⟩:∃ q,Zyo n=q:=⟨_,rfl⟩
 replace hb:=Za hb;replace hq:=Za hq;have hlen:=Za (Z0 (Zw hm).2.1)
 go_enter Tryz.func45,Tryz.ntmps45
 go_upto_region 1 with fail
 clear hw1
 go_wp2_with fail
 with_reducible refine(Yy _ s _ H.out).mono ?_
 rintro e w2 ⟨rfl,hb2⟩;rw[e1];have F1:=(hb2.block w.heap.size kg).trans f1;have Fn:=(hb2.block (w.heap.size+1) pg).trans fn;have F2:=(hb2.block (w.heap.size+2) (by rw[hsz.out];omega)).trans f2.out;have H2:=H.out.below hb2;have U2:=U.out.below hb2;have s2:Hid (w.heap.size+3<=w2.heap.size):=Za (by have:=hb2.size;have:=hsz.out;omega);have B2:=Za (hB.trans (hb2.mono hB.size));clear k0 k1 k2 k3 kg p0 p1 pg f1 fn hb2 hB f2 e1 H U;obtain⟨k0,k1,k2,k3,_,kg⟩:=Ze F1;obtain⟨p0,p1,_,pg⟩:=Zg Fn;replace F2:=Za F2;replace H2:=Za H2;replace U2:=Za U2
 go_wp2_with fail
 with_reducible refine(Zk1 _ n _ U2.out).mono ?_
 rintro e w3 ⟨u3,rfl,h3,hb3⟩;rw[hq.out];rw[hb.out] at h3;obtain⟨E,ce,rfl,_⟩:=id (Zm h3);have G1:=(hb3.block w.heap.size kg).trans F1;have Gn:=(hb3.block (w.heap.size+1) pg).trans Fn;have G2:=(hb3.block (w.heap.size+2) (by have:=s2.out;omega)).trans F2.out;have H3:=H2.out.below hb3;have U3:=U2.out.below hb3;have s3:Hid (w.heap.size+3<=w3.heap.size):=Za (by have:=hb3.size;have:=s2.out;omega);have B3:=Za (B2.out.trans (hb3.mono B2.out.size));have R3:=Za (Zf.drop h3);clear k0 k1 k2 k3 kg p0 p1 pg F1 Fn hb3 F2 H2 U2 B2 h3 s2;cases hn:Xn n with
 | false =>
  have hE:=Zys (s:=s) hn;obtain⟨hN,hV⟩:=Zlj (s:=s) (n:=n) (by rw[hE];decide);have hq8:q=8:=by rw[<- hq.out,Zyo,hn];rfl
  subst hq8;replace hE:=Za hE;replace hN:=Za hN;replace hV:=Za hV;clear H3 U3 G1 Gn hn hm;obtain⟨k0,k1,k2,k3,k4,k5⟩:=Ze G2;obtain⟨W9,hW9,g9,gr9,gs9⟩:=Zo (a':=.slice none 0 0) (b':=.slice none 0 0) (c':=.slice none 0 0) (d':=.slice none 0 0) G2;obtain⟨n0,n1,n2,n3,_,_⟩:=Ze g9;have hB9:=Za ((B3).out.grown gr9 (B3).out.size (fun q e=>by cases e;omega));replace g9:=Za g9;replace G2:=Za G2;clear gr9 gs9
  go_wp2_with fail
  refine Qad (v:=.tuple #[.agg #[.slice none 0 0,.slice none 0 0,.slice none 0 0,.slice none 0 0],.int .i64 0,.int .i64 8]) (by simp[results,Tryz.results45,go_sem,n0,n1,n2,n3]) rfl ?_;rw[hE.out,hN.out,hV.out];exact⟨_,rfl,Zu _ _,hB9.out⟩
 | true =>
 have hq0:q=0:=by rw[<- hq.out,Zyo,hn];rfl
 subst hq0;have hbk:Hid (Zb5 n=b):=Za (by rw[<- hb.out,wrN,hn];rfl);have hways:=Za (Zxd hm hn);obtain⟨k0,k1,k2,k3,_,kg⟩:=Ze G1;obtain⟨p0,p1,_,pg⟩:=Zg Gn;replace G2:=Za G2;replace H3:=Za H3;replace U3:=Za U3
 go_wp2_with fail
 obtain⟨_,_,e9,l1,m1,hby⟩:=Yq (B:=w3.heap.size) (fun _ h=>h) H3.out.parts.2.1;cases e9;with_reducible refine(Ze8 N s.2.1.length cn s.2.1 (Za rfl) (by rw[hlen.out];omega) _ hby).mono ?_
 rintro e w4 ⟨u4,rfl,hu4,hb4⟩;obtain⟨g,c2,rfl,hg1,hg2,hg3,hg4⟩:=Ze1 hu4 (by rw[hlen.out];omega);rw[hlen.out] at hu4 ⊢;have F1:=(hb4.block w.heap.size kg).trans G1;have Fn:=(hb4.block (w.heap.size+1) pg).trans Gn;have F2:=Za ((hb4.block (w.heap.size+2) (by have:=s3.out;omega)).trans G2.out);have H4:=Za (show Sto (Off g w4) w4 _ s from H3.out.map fun _ _ hp hc=>Zk9 hb4 hg1 hp hc);have U4:=Za (show Nod (Off g w4) w4 _ n from U3.out.map fun _ _ hp hc=>Zk9 hb4 hg1 hp hc);have R4:=Za (show rBy (Off g w4) w4 _ b from Zf _ _ _ _ _ _ (fun _ _ hp hc=>Zk9 hb4 hg1 hp hc) R3.out);have O4:=Za hu4;have B4:=Za (B3.out.trans (hb4.mono B3.out.size));have hgw:Hid (w.heap.size+3<=g):=Za (by have:=s3.out;omega);clear k0 k1 k2 k3 kg p0 p1 pg G1 Gn G2 hb4 H3 U3 R3 B3 hby l1 m1 hu4 hg1 s3;obtain⟨k0,k1,k2,k3,_,kg⟩:=Ze F1;obtain⟨p0,p1,_,pg⟩:=Zg Fn;obtain⟨r,hr⟩:∃ r,ctE s.2.1 n.2=r:=⟨_,rfl⟩
 go_wp2_with fail
 with_reducible refine(Zx4 g c2 w3.heap.size s.2.1 _ n hn hlen.out _ O4.out U4.out).mono ?_
 rintro e w5 ⟨rfl,hgr,hown⟩;rw[hr] at hown ⊢;have E1:=(hgr.block w.heap.size kg (by have:=hgw.out;simp;omega)).trans F1;have E3:=(hgr.block (w.heap.size+2) (by have:=F2.out;exact(Qe.1 this).1) (by have:=hgw.out;simp;omega)).trans F2.out;have B5:=Za (B4.out.grown hgr B4.out.size (fun q e=>by cases e;have:=hgw.out;omega));have H5:=Za (show Sto (Old w5) w5 _ s from (H4.out.map fun _ _ hp hc=>Zbk hgr hp hc).map fun _ _ hp hc=>Zd5 hp hc);have R5:=Za (show rBy (Old w5) w5 _ b from Zf _ _ _ _ _ _ (fun _ _ hp hc=>Zd5 hp hc) (Zf _ _ _ _ _ _ (fun _ _ hp hc=>Zbk hgr hp hc) R4.out));clear k0 k1 k2 k3 kg p0 p1 pg F1 Fn F2 B4 H4 U4 R4 O4 hgr;rcases hways.out with ⟨hc,hE,hN,hV⟩ | ⟨hc,hE,hN,hV⟩
 ·rw[hr] at hc hE
  have hr1:(r != 0)=true:=by simpa using hc
  replace hE:=Za hE;replace hN:=Za hN;replace hV:=Za hV;replace hr:=Za hr;clear E1 hown hc hm hn hways;obtain⟨k0,k1,k2,k3,k4,k5⟩:=Ze E3;obtain⟨W9,hW9,g9,gr9,gs9⟩:=Zo (a':=.slice none 0 0) (b':=.slice none 0 0) (c':=.slice none 0 0) (d':=.slice none 0 0) E3;obtain⟨n0,n1,n2,n3,_,_⟩:=Ze g9;have hB9:=Za ((B5).out.grown gr9 (B5).out.size (fun q e=>by cases e;omega));replace g9:=Za g9;replace E3:=Za E3;clear gr9 gs9
  go_wp2_with fail
  refine Qad (v:=.tuple #[.agg #[.slice none 0 0,.slice none 0 0,.slice none 0 0,.slice none 0 0],.int .i64 0,.int .i64 r]) (by simp[results,Tryz.results45,go_sem,n0,n1,n2,n3]) rfl ?_;rw[hE.out,hN.out,hV.out];exact⟨_,rfl,Zu _ _,hB9.out⟩
 ·rw[hr] at hc
  subst hc;rw[hbk.out] at hE hN hV;have hctl:(ctV s.2.1 n.2).length=256:=by rw[Zbs,hlen.out]
  have T5:Hid (Sto (Old w5) w5 (.agg #[.slice A s.1.1.length ca,.slice B s.1.2.length cb,.slice (some ⟨g,0,none⟩) 256 c2,.slice L s.2.2.length cl]) (ctS s n)):=Za (Sto.mk H5.out.parts.1 (Zf.drop (Zal (hown rfl))) H5.out.parts.2.2);obtain⟨S,hS⟩:∃ S,ctS s n=S:=⟨_,rfl⟩
  rw[hS] at T5 hE hN hV;obtain⟨V,hVV⟩:∃ V,tkV S b=V:=⟨_,rfl⟩
  obtain⟨x,hx⟩:∃ x,tkN S b=x:=⟨_,rfl⟩
  obtain⟨y,hy⟩:∃ y,tkE S b=y:=⟨_,rfl⟩
  rw[hVV] at hV;rw[hx] at hN;rw[hy] at hE;replace hE:=Za hE;replace hN:=Za hN;replace hV:=Za hV;replace hr:=Za hr;replace hS:=Za hS;replace hVV:=Za hVV;replace hx:=Za hx;replace hy:=Za hy;obtain⟨k0,k1,k2,k3,_,kg⟩:=Ze E1;replace E3:=Za E3;clear hown hm hn hways hctl
  go_wp2_with fail
  with_reducible refine(Zwe _ _ S b _ T5.out R5.out).mono ?_
  rintro e w6 ⟨t6,rfl,h6,hb6⟩;rw[hx.out,hy.out];rw[hVV.out] at h6;obtain⟨A6,a6,B6,b6,N6,n6,L6,l6,rfl,_⟩:=id h6.open;have F6:=(hb6.block (w.heap.size+2) (by exact(Qe.1 E3.out).1)).trans E3.out;have s6:Hid (w.heap.size+2<w5.heap.size):=Za (Qe.1 E3.out).1;obtain⟨o0,o1,o2,o3,_,_⟩:=Ze F6;obtain⟨W9,hW9,g9,gr9,gs9⟩:=Zo (a':=.slice A6 V.1.1.length a6) (b':=.slice B6 V.1.2.length b6) (c':=.slice N6 V.2.1.length n6) (d':=.slice L6 V.2.2.length l6) F6;obtain⟨n0,n1,n2,n3,_,_⟩:=Ze g9;have hfin:=Za (show Sto (New w.heap.size W9) W9 _ V from (h6.grown gr9 (fun q e=>by cases e;exact s6.out)).new B5.out.size (Qa _ _));have hB9:=Za ((B5.out.trans (hb6.mono B5.out.size)).grown gr9 (Qc B5.out.size hb6.size) (fun q e=>by cases e;omega));replace F6:=Za F6;replace g9:=Za g9;clear gr9 gs9 h6 hb6 k0 k1 k2 k3 kg E1
  go_wp2_with fail
  refine Qad (v:=.tuple #[.agg #[.slice A6 V.1.1.length a6,.slice B6 V.1.2.length b6,.slice N6 V.2.1.length n6,.slice L6 V.2.2.length l6],.int .i64 x,.int .i64 y]) (by simp[results,Tryz.results45,go_sem,n0,n1,n2,n3]) rfl ?_;rw[hE.out,hN.out,hV.out];exact⟨_,rfl,hfin.out,hB9.out⟩}
theorem Zs0 (v u:Qaa) (s:Rm) (n:Nd) (w:P9) (h:Sto (Old w) w v s) (hu:Nod (Old w) w u n) :
  Qag Tryz.prog 45 #[v,u] w fun e W'=>∃ A ca B cb N cn L cl,e=.returned (.tuple #[.agg #[.slice A (mkV s n).1.1.length ca,.slice B (mkV s n).1.2.length cb,.slice N (mkV s n).2.1.length cn,.slice L (mkV s n).2.2.length cl],.int .i64 (mkN s n),.int .i64 (mkE s n)]) /\
   Sto (New w.heap.size W') W' (.agg #[.slice A (mkV s n).1.1.length ca,.slice B (mkV s n).1.2.length cb,.slice N (mkV s n).2.1.length cn,.slice L (mkV s n).2.2.length cl]) (mkV s n)/\Qai w.heap.size w W':=by
 refine(Zvm v u s n w h hu).mono ?_;rintro e W' ⟨t,rfl,ht,hb⟩;obtain⟨A,ca,B,cb,N,cn,L,cl,rfl,_⟩:=id ht.open;exact⟨A,ca,B,cb,N,cn,L,cl,rfl,ht,hb⟩
theorem Zqn (v:Qaa) (s:Rm) (n:Int) (w:P9) (h:Sto (Old w) w v s) :
  Qag Tryz.prog 28 #[v,.int .i64 n] w fun e W'=>∃ A ca B cb N cn L cl,e=.returned (.tuple #[.agg #[.slice A (lvV s n).1.1.length ca,.slice B (lvV s n).1.2.length cb,.slice N (lvV s n).2.1.length cn,.slice L (lvV s n).2.2.length cl],.int .i64 (lvE s n)]) /\
   Sto (New w.heap.size W') W' (.agg #[.slice A (lvV s n).1.1.length ca,.slice B (lvV s n).1.2.length cb,.slice N (lvV s n).2.1.length cn,.slice L (lvV s n).2.2.length cl]) (lvV s n)/\Qai w.heap.size w W':=by
 refine(Zst v s n w h).mono ?_;rintro e W' ⟨t,rfl,ht,hb⟩;obtain⟨A,ca,B,cb,N,cn,L,cl,rfl,_⟩:=id ht.open;exact⟨A,ca,B,cb,N,cn,L,cl,rfl,ht,hb⟩
theorem Zpk (v:Qaa) (s:Rm) (n:Int) (w:P9) (h:Sto (Old w) w v s) :
  Qag Tryz.prog 84 #[v,.int .i64 n] w fun e W'=>∃ A ca B cb N cn L cl,e=.returned (.tuple #[.agg #[.slice A (loV s n).1.1.length ca,.slice B (loV s n).1.2.length cb,.slice N (loV s n).2.1.length cn,.slice L (loV s n).2.2.length cl],.int .i64 (asE s n)]) /\
   Sto (New w.heap.size W') W' (.agg #[.slice A (loV s n).1.1.length ca,.slice B (loV s n).1.2.length cb,.slice N (loV s n).2.1.length cn,.slice L (loV s n).2.2.length cl]) (loV s n)/\Qai w.heap.size w W':=by
 refine(Zs1 v s n w h).mono ?_;rintro e W' ⟨t,rfl,ht,hb⟩;obtain⟨A,ca,B,cb,N,cn,L,cl,rfl,_⟩:=id ht.open;exact⟨A,ca,B,cb,N,cn,L,cl,rfl,ht,hb⟩
theorem Zyt {ok:Qab->Prop}{w:P9}{A:Option Qab}{n c:Nat}{L:List It}(h:Y6 ok w [.slice A n c] L) (k:Nat) (hk:k<=L.length):Y6 ok w [.slice A k c] (L.take k):=by{
 obtain⟨A',c',e,h1,h2,h3⟩:=h;cases e;refine⟨A,c,by rw[Qt,Pr hk],by rw[Qt];omega,h2,fun i x hi=> ?_⟩;rcases Nat.lt_or_ge i k with hik | hik
 ·rw[List.getElem?_take_of_lt hik] at hi
  exact h3 i x hi
 ·rw[Px (by rw[Qt];omega)] at hi
  cases hi}
theorem Zui (v u:Qaa) (s:Rm) (n:Nd) (w:P9) (h:Sto (Old w) w v s) (hu:Nod (Old w) w u n) :
  Qag Tryz.prog 45 #[v,u] w fun e W'=>∃ qa qb qc qd:Option Qab×Nat×Nat,e=.returned (.tuple #[.agg #[.slice qa.1 qa.2.1 qa.2.2,.slice qb.1 qb.2.1 qb.2.2,.slice qc.1 qc.2.1 qc.2.2,.slice qd.1 qd.2.1 qd.2.2],.int .i64 (mkN s n),.int .i64 (mkE s n)])/\Sto (New w.heap.size W') W' (.agg #[.slice qa.1 qa.2.1 qa.2.2,.slice qb.1 qb.2.1 qb.2.2,.slice qc.1 qc.2.1 qc.2.2,.slice qd.1 qd.2.1 qd.2.2]) (mkV s n)/\Qai w.heap.size w W' :=
 (Zs0 v u s n w h hu).mono fun _ _ ⟨A,ca,B,cb,N,cn,L,cl,h1,h2,h3⟩=>⟨(A,_,ca),(B,_,cb),(N,_,cn),(L,_,cl),h1,h2,h3⟩
theorem Zpb (v:Qaa) (s:Rm) (n:Int) (w:P9) (h:Sto (Old w) w v s) :
  Qag Tryz.prog 84 #[v,.int .i64 n] w fun e W'=>∃ qa qb qc qd:Option Qab×Nat×Nat,e=.returned (.tuple #[.agg #[.slice qa.1 qa.2.1 qa.2.2,.slice qb.1 qb.2.1 qb.2.2,.slice qc.1 qc.2.1 qc.2.2,.slice qd.1 qd.2.1 qd.2.2],.int .i64 (asE s n)])/\Sto (New w.heap.size W') W' (.agg #[.slice qa.1 qa.2.1 qa.2.2,.slice qb.1 qb.2.1 qb.2.2,.slice qc.1 qc.2.1 qc.2.2,.slice qd.1 qd.2.1 qd.2.2]) (loV s n)/\Qai w.heap.size w W' :=
 (Zpk v s n w h).mono fun _ _ ⟨A,ca,B,cb,N,cn,L,cl,h1,h2,h3⟩=>⟨(A,_,ca),(B,_,cb),(N,_,cn),(L,_,cl),h1,h2,h3⟩
theorem Zim (v:Qaa) (s:Rm) (n:Int) (w:P9) (h:Sto (Old w) w v s) :
  Qag Tryz.prog 28 #[v,.int .i64 n] w fun e W'=>∃ qa qb qc qd:Option Qab×Nat×Nat,e=.returned (.tuple #[.agg #[.slice qa.1 qa.2.1 qa.2.2,.slice qb.1 qb.2.1 qb.2.2,.slice qc.1 qc.2.1 qc.2.2,.slice qd.1 qd.2.1 qd.2.2],.int .i64 (lvE s n)])/\Sto (New w.heap.size W') W' (.agg #[.slice qa.1 qa.2.1 qa.2.2,.slice qb.1 qb.2.1 qb.2.2,.slice qc.1 qc.2.1 qc.2.2,.slice qd.1 qd.2.1 qd.2.2]) (lvV s n)/\Qai w.heap.size w W' :=
 (Zqn v s n w h).mono fun _ _ ⟨A,ca,B,cb,N,cn,L,cl,h1,h2,h3⟩=>⟨(A,_,ca),(B,_,cb),(N,_,cn),(L,_,cl),h1,h2,h3⟩
theorem Zb6.app {lo:Nat}{w:P9}{A B:Option Qab}{n c m d:Nat}{xs ys:List It}(h:Zb6 lo w A n c xs) (hy:Y6 (Z0o lo) w [.slice B m d] ys) (hs:n+m<=100000) :
  ∃ A' c' w',(Qx #[39,39] 39 #[.slice A n c,.slice B m d]).run Tryz.prog w=.ok (.slice A' (n+m) c') w'/\Zb6 lo w' A' (n+m) c' (xs++ys)/\Qai lo w w':=by{
 obtain⟨h0,ps,h1,h2,h3,h4⟩:=h;obtain⟨i0,hi,hz0,hz1,hz2⟩:=info_parts Ul;obtain⟨qs,hq,hC,hin⟩:=Zuc (fun p (hp:Z0o lo p)=>Qm hp h0) hy;have hml:ys.length=m:=by
  obtain⟨_,_,e,_⟩:=Zmj hy;cases e;rfl
 have hpl:qs.length=m:=by rw[<- hml,<- hq,Qz]
 have hone:∀ u∈Zp qs,u.oneCell'=true:=Vj fun p hp=>Z15 (hin p hp).2
 rcases B with _ | bd
 ·have e0:qs=[]:=by
   cases qs with
   | nil=>rfl
   | cons p r =>
    obtain⟨_,e,_⟩:=hC 0 _ (show (Zp (p::r))[0]? = some (Value.int .u8 (p.1.1.1.toNat:Int)) from rfl);cases e
  subst e0;obtain rfl:m=0:=by simpa using hpl.symm
  subst hq;refine⟨A,c,w,?_,⟨h0,ps,by simpa using h1,h2,h3,h4⟩,Qa _ _⟩;rcases h3.2 with ⟨e,e2⟩ | ⟨g,cap,cur,e,_,_,hnc,_⟩
  ·rw[Nat.add_zero,e]
   simp[Qx,run_underlying Tryz.underlying39,sizeOf,typeInfo,hi,Py,Pz]
  ·rw[Nat.add_zero,e]
   simp[Qx,run_underlying Tryz.underlying39,sizeOf,typeInfo,hi,Py,Pz,hnc,storeCells]
 ·obtain⟨v',w',hr,o1,_,b1,_⟩:=Zfi (P:=Tryz.prog) (w:=w) lo 39 39 54 i0 (.agg #[.int .u8 0,.int .u32 0,.int .u32 0,.int .i64 0,.slice none 0 0]) 5 48 Tryz.underlying39 hi hz0 hz1 hz2 rfl (by decide) _ _ _ h3 bd m d (Zp qs) (by rw[Xp,hpl]) (fun j u hj=>by
   obtain⟨_,e,_,h⟩:=hC j u hj;cases e
   exact h) hone (by unfold maxLen;omega) (by omega) h0
  obtain⟨A',c',rfl,_⟩:=Yr o1;refine⟨A',c',w',hr,⟨Qc h0 b1.size,ps++qs,by rw[Pd,h1,hq],by simp[h2,hpl],by rw[Vk];exact o1,fun p hp=> ?_⟩,b1⟩;rcases Pw.1 hp with hp | hp
  ·exact⟨(h4 p hp).1,Zbb (h4 p hp).2 b1 h0⟩
  ·exact⟨(hin p hp).1,Zbb (hin p hp).2 b1 h0⟩}
theorem Zlm {w W:P9}{v:Qaa}{l:List It}(h:Y6 (Old w) w [v] l) (hb:Qai w.heap.size w W):Y6 (Z0o w.heap.size) W [v] l :=
 Z5 _ _ _ _ _ _ (fun _ _ hp hc=>⟨hp,(hb.cell hp).trans hc⟩) h
theorem Zbn (A B:Option Qab) (n c m d p q:Nat) (l b:List It) (w:P9) (hl:Y6 (Old w) w [.slice A n c] l) (hb:Y6 (Old w) w [.slice B m d] b) (hn:l.length=n) (hm:b.length=m) (h0:0<n) (hpq:p+q<=n) (h100:n<=1000) (m100:m<=1000) :
  Qag Tryz.prog 104 #[.slice A n c,.int .i64 p,.int .i64 q,.slice B m d] w fun e w'=>∃ A' c' n',e=.returned (.slice A' n' c')/\n'=(Vx l p q b).length/\Y6 (Old w') w' [.slice A' n' c'] (Vx l p q b)/\Qai w.heap.size w w':=by{
 obtain⟨z,hz⟩:∃ z,l[0]? = some z:=⟨_,Qf (by omega)⟩
 obtain⟨ad,-,-,rfl,-⟩:=Zao hl hz;clear hz;have hc:n<=c/\c<=9223372036854775807:=by
  obtain⟨_,_,e,h1,h2⟩:=Zmj hl;cases e;exact⟨by omega,h2⟩
 obtain⟨r,hr⟩:∃ r,p+q=r:=⟨_,rfl⟩
 have H1:=Za (fun W (hW:Qai w.heap.size w W)=>Zlm (Zyt hl p (by omega)) hW);have H2:=Za (fun W (hW:Qai w.heap.size w W)=>Zlm hb hW)
 have H3:Hid (∀ W,Qai w.heap.size w W->Y6 (Z0o w.heap.size) W [.slice (if c=r then some ad else some (ad.add (r*5))) (n-r) (c-r)] (l.drop r)):=Za (fun W (hW:Qai w.heap.size w W)=>by
  by_cases e:c=r
  ·rw[if_pos e,show n-r=0 by omega,show l.drop r=[] from List.drop_eq_nil_of_le (by omega)]
   exact Zgx (by omega)
  ·rw[if_neg e]
   exact Zlm (Zzn hl r (by omega)) hW)
 have hlen:Hid (p+m+(n-r)=(Vx l p q b).length):=Za (by
  unfold Vx;rw[Qg,Qg,Qt,List.length_drop,hm]
  omega)
 have hfin:Hid (([]++l.take p++b)++l.drop r=Vx l p q b):=Za (by unfold Vx;rw[hr,Qw,List.append_assoc]);have i1:(0:Int)<=(p:Int):=by omega
 have i2:(p:Int)<=(c:Int):=by omega
 have i3:IntKind.i64.wrap ((p:Int)+(q:Int))=(r:Int):=by rw[Qn _ (by omega)];omega
 have i4:(0:Int)<=(r:Int):=by omega
 have i5:(r:Int)<=(n:Int):=by omega
 have i6:(n:Int)<=(c:Int):=by omega
 have hm':=Za hm;have hn':=Za hn;replace hr:=Za hr;clear hl hb hm hn;obtain⟨A1,c1,w1,hr1,st1,b1⟩:=(Zb6.nil w.heap.size w (Qd _)).app (H1.out w (Qa _ _)) (by omega);obtain⟨A2,c2,w2,hr2,st2,b2⟩:=st1.app (H2.out w1 b1) (by omega);have b12:=b1.trans b2;obtain⟨A3,c3,w3,hr3,st3,b3⟩:=st2.app (H3.out w2 b12) (by omega);have HB:=Za (b12.trans b3)
 have HS:=Za (show Y6 (Old w3) w3 [.slice A3 (p+m+(n-r)) c3] (Vx l p q b) by
  have:=st3.its;rw[hfin.out,Pf] at this
  exact this)
 rw[Pf] at hr1 hr2 hr3;have HR1:=Za hr1;have HR2:=Za hr2;have HR3:=Za hr3;clear hr1 hr2 hr3 st1 st2 st3 b1 b2 b3 b12
 go_enter Tryz.func104,Tryz.ntmps104
 go_upto_region 2 with fail
 go_upto_region 3 with (at_builtin;refine Yw rfl _ _ _ _ rfl rfl rfl HR1.out ?_;clear HR1)
 go_upto_region 4 with (at_builtin;refine Yw rfl _ _ _ _ rfl rfl rfl HR2.out ?_;clear HR2)
 go_wp2_with (at_builtin;refine Yw rfl _ _ _ _ rfl rfl rfl HR3.out ?_;clear HR3)
 all_goals (go_ret;exact⟨A3,c3,_,rfl,hlen.out,HS.out,HB.out⟩)}
theorem Z45 {n:Nd}(h:Xn n=true){k:Ky}{j:Nat}{y:It}(hy:n.2[j]? = some y) (h1:1<=j):Zq k y.1 = !decide (j<=Xg n k):=by{
 by_cases hj:j<=Xg n k
 ·rw[decide_eq_true hj]
  rcases Nat.lt_or_ge j (Xg n k) with hlt | hge
  ·have hp:Xg n k<=Yi n k:=by unfold Xg;split <;> omega
   have:=Vt h (k:=k) hy;rw[decide_eq_true (by omega)] at this;exact Zcd this
  ·obtain rfl:j=Xg n k:=by omega
   exact Z3f h hy (by omega)
 ·rw[decide_eq_false hj]
  exact Zue h (by omega) hy}
theorem Zm2 (v:Qaa) (n:Nd) (k:Ky) (hn:Xn n=true) (w:P9) (h:Nod (Old w) w v n) :
  Qag Tryz.prog 103 #[v,kyV k] w fun e w'=>e=.returned (.int .i64 (Xg n k:Int))/\Qai w.heap.size w w':=by{
 obtain⟨A,c,rfl,-,-,-,hA⟩:=h.open;have h5:n.2.length<=5:=(Zs hn).1.2.2.1;have hp:=Zcs n k;have hw5:Xg n k<=n.2.length/\(0<n.2.length->Xg n k<n.2.length):=⟨by unfold Xg;split <;> omega,Zch k⟩
 have HW:=Za (fun j (y:It) (hy:n.2[j]? = some y) (h1:1<=j)=>Z45 (k:=k) hn hy h1);obtain⟨W0,hW0⟩:∃ q,Xg n k=q:=⟨_,rfl⟩
 rw[hW0] at hw5 HW;rw[hW0];have HG0:Bag w [Zb8 (.slice A n.2.length c) n.2]:=(Bag.nil w).add (F:=Zb8 _ n.2) hA (Yz _ _);obtain⟨w1,hw1,hg1,hB1,-,hs1⟩:=Xa HG0 (Qa _ _) (.int .i64 n.1) (.slice A n.2.length c);obtain⟨w2,hw2,hg2,hB2,-,hs2⟩:=V9 hg1 (Qa _ _) (.int .u8 (k.1.toNat:Int)) (.int .u32 k.2.1) (.int .u32 k.2.2);have HG:=Za hg2;have BB:=Za (hB1.trans (hB2.mono hB1.size));have HI:=Za (fun j (z:It) (hz:n.2[j]? = some z)=>Y4 (hg2.at 2 rfl:Y6 (Old w2) w2 [.slice A n.2.length c] n.2) hz);obtain⟨m,hm⟩:∃ q,n.2.length=q:=⟨_,rfl⟩
 rw[hm] at HG h5 hw5;rw[hm] at hp;rw[hm];obtain⟨lv,hlv⟩:∃ q,n.1=q:=⟨_,rfl⟩
 rw[hlv] at HG;rw[hlv];have hm':=Za hm;rw[hlv] at hw1;rw[hm] at hw1;replace hlv:=Za hlv;replace hW0:=Za hW0;replace hs1:=Za hs1;replace hs2:=Za hs2;clear h hA HG0 hg1 hg2 hB1 hB2 hm hp;unfold kyV
 go_enter Tryz.func103,Tryz.ntmps103
 go_upto_region 1 with fail
 clear hw1 hw2
 go_wp2_with fail
 go_loopw [5,6] (fun av iv wr=>∃ j:Nat,1<=j/\iv=.int .i64 (j:Int)/\av=.int .i64 ((min W0 (j-1):Nat):Int)/\Qai w2.heap.size w2 wr) (fun _ iv _=>m-(intOf iv).toNat)
 case atStart=>exact⟨1,by omega,rfl,by simp,Qa _ _⟩
 case round =>
  obtain⟨j,hj1,rfl,rfl,hB⟩:=hrel;have BR:=Za hB;have HGr:=Za (HG.out.below hB);clear hB;obtain⟨y0,y1,-⟩:=HGr.out.at 1 rfl;by_cases hjm:j<m
  case neg =>
   have i5:¬ ((j:Int)<(m:Int)):=by omega
   have hmin:Hid (min W0 (j-1)=W0):=Za (by omega)
   go_wp2_with fail
   go_ret;exact⟨by rw[hmin.out];rfl,BB.out.trans (BR.out.mono BB.out.size)⟩
  have i5:(j:Int)<(m:Int):=by omega
  have i4:(0:Int)<=(j:Int):=by omega
  obtain⟨z,hz⟩:∃ z,n.2[j]? = some z:=⟨_,Qf (by have:=hm'.out;omega)⟩
  have hls:=HW.out j z hz hj1;obtain⟨ad,E5,ce5,rfl,-,-,-,FZ0⟩:=HI.out j z hz;have FZ:=Za FZ0;clear FZ0;obtain⟨bl,hbl⟩:∃ q,Zq k z.1=q:=⟨_,rfl⟩
  have hbl':=Za hbl;rw[hbl] at hls;have hls':=Za hls;replace hz:=Za hz;clear hls hbl
  go_upto_region 5 with fail
  clear y0 y1
  refine wp_region_fx (by kernel_rfl) (fun W=>Qai wr.heap.size wr W) (fun _=>none) (fun i=>match i with
   | 7=>some (.bool bl)
   | _=>none) (by kernel_rfl) (Qa _ _).drew (fun w w' h hb=>h.trans (hb.mono h.size)) (fun j φ x W W' hp=>by cases hp) ?_
  repeat (first
   | (refine wpAs_skip rfl ?_;simp only[Qb,Zb,Zc,Zd])
   | (refine wpAs_pure (v := ?_) rfl rfl ?_ ?_;rotate_left;(intro W hC hE;clear hE;(obtain⟨⟨z0,z1,z2,z3,z4⟩,_⟩:=FZ.out W (BR.out.trans (hC.mono BR.out.size));obtain⟨t0,t1,t2,tg⟩:=(HGr.out.below hC).at 0 rfl;obtain⟨y0,y1,_⟩:=(HGr.out.below hC).at 1 rfl);clear hC;go_simp;first | done | with_reducible rfl);simp only[Qb,Zb,Zc,Zd]))
  refine wpAs_fixed rfl rfl rfl ?_ ?_
  ·intro W hC hE
   refine does_enter (f:=60) (args:=#[kyV k,kyV z.1]) ?_ ?_
   ·go_simp
   ·refine(Uo k z.1 W).mono ?_
    (rintro e W' ⟨rfl,hg⟩;rw[hbl'.out])
    exact⟨_,rfl,rfl,hg⟩
  simp only[Qb,Zb,Zc,Zd]
  repeat (first
   | (refine wpAs_skip rfl ?_;simp only[Qb,Zb,Zc,Zd])
   | (refine wpAs_pure (v := ?_) rfl rfl ?_ ?_;rotate_left;(intro W hC hE;clear hE;skip;clear hC;go_simp;first | done | with_reducible rfl);simp only[Qb,Zb,Zc,Zd]))
  refine wpAs_end fun W hC hE=> ?_
  have BW:=Za (BR.out.trans (hC.mono BR.out.size));clear hE hC;cases bl with
  | true =>
   have hmin:Hid (min W0 (j-1)=min W0 (j+1-1)):=Za (by
    have:¬ j<=W0:=fun h=>by have:=hls'.out;rw[decide_eq_true h] at this;cases this
    omega)
   go_wp2_with fail
   go_roundw
   case rel=>exact⟨j+1,by omega,by go_num,by rw[hmin.out],BW.out⟩
   case measure=>simp[intOf];omega
  | false =>
   have hmin:Hid (j=min W0 (j+1-1)):=Za (by
    have:j<=W0:=Decidable.byContradiction fun h=>by have:=hls'.out;rw[decide_eq_false h] at this;cases this
    omega)
   go_wp2_with fail
   go_roundw
   case rel=>exact⟨j+1,by omega,by go_num,by rw[<- hmin.out],BW.out⟩
   case measure=>simp[intOf];omega}
theorem Zla (v:Qaa) (s:Rm) (k:Nat) (hm:Yp s=true) (h256:k<256) (hk:s.2.1[k]?.getD 0≠0) (w:P9) (h:Sto (Old w) w v s) :
  Qag Tryz.prog 108 #[v,.int .i64 k] w fun e w'=>∃ t,e=.returned t/\Sto (Old w') w' t (Zaf s k)/\Qai w.heap.size w w':=by{
 have H0:=Za h;obtain⟨A,ca,B,cb,N,cn,L,cl,w1,rfl,hw1,f1,f2,hsz,hB,H⟩:=V3 h;clear h;obtain⟨m0,m1,m2,m3,mf,mg⟩:=Ze f1;replace hsz:=Za hsz;have F2:=Za f2;obtain⟨ad,bd,rfl,rfl,hl1,hl2,-,-,had,-,hc⟩:=Vr hm H.out.parts.2.1 H.out.parts.2.2;have hcell:=(hc k h256).1;obtain⟨x,hx⟩:∃ x,s.2.1[k]?.getD 0=x:=⟨_,rfl⟩
 rw[hx] at hcell hk;have hV:Hid (Zaf s (k:Int)=(s.1,s.2.1.set k (x-1),s.2.2)):=Za (by unfold Zaf;rw[Int.toNat_natCast,hx]);have hfu:=Za (Va hm:U1 s);have i3:k<s.2.1.length:=by rw[hl1];exact h256
 replace hl1:=Za hl1;replace hl2:=Za hl2;replace hx:=Za hx;have hcb:(ad.add k).block<w1.heap.size:=World.block_lt_of_cell? _ _ hcell;have hb2:=Za hB;have G2h:=Za f1;have hcl:=Za hcell;obtain⟨hu,hu1,hu2⟩:=Zl0 hk;have hwr:Hid (IntKind.u8.wrap ((x.toNat:Int)-1)=((x-1).toNat:Int)):=Za (by rw[<- hu];simp only[IntKind.wrap,IntKind.signed,IntKind.bits];simp;omega);have i3h:=Za i3;have hlb:Hid (s.2.1.length<=1000000):=Za (by have:=hl1.out;omega);replace hu:=Za hu;clear hu1 hu2 hk hc f1 f2 hB hcell
 go_enter Tryz.func108,Tryz.ntmps108
 go_upto_region 1 with fail
 clear hw1
 refine Z1 (by kernel_rfl) 11 (fun W=>Qai w1.heap.size w1 W) (fun i=>match i with
   | 9=>some (fun v W=>∃ Y y,v=.slice Y s.2.1.length y/\rBy (Off w.heap.size W) W [.slice Y s.2.1.length y] (s.2.1.set k (x-1)))
   | _=>none) (fun i=>match i with
   | 8=>some (.int .u8 ((x-1).toNat:Int))
   | _=>none) (by decide) (by kernel_rfl) (by kernel_rfl) (Qa _ _).drew (fun w w' h hb=>h.trans (hb.mono h.size)) ?tst ?_
 case tst =>
  intro j φ x W W' hp hx hb
  match j,hp with
  | 9,hp =>
   cases hp;obtain⟨Y,y,e,hy⟩:=hx;exact⟨Y,y,e,Zf _ _ _ _ _ _ (fun _ _ hp hc=>Za4 hb hp hc) hy⟩
 simp only[Qi,Qj,Qk,Ql]
 repeat (first
  | (refine wpAs_skip rfl ?_;simp only[Qb,Zb,Zc,Zd])
  | (refine wpAs_pure (v := ?_) rfl rfl ?_ ?_;rotate_left;(intro W hC hE;clear hE;(have i3':=i3h.out;have z2:=(hC.cell (p:=⟨w.heap.size,2,none⟩) mg).trans m2;have zx:=(hC.cell (p:=ad.add k) hcb).trans hcl.out);clear hC;go_simp;first | done | with_reducible rfl);simp only[Qb,Zb,Zc,Zd]))
 refine wpAs_fixed rfl rfl rfl ?_ ?_
 ·intro W hC hE
  have hwr':=hwr.out;clear hE hC
  go_simp
  exact⟨rfl,Qa _ _⟩
 simp only[Qb,Zb,Zc,Zd];refine wpAs_act rfl rfl ?_ ?_
 ·intro W hC hE
  clear hE;refine does_enter (f:=107) (args:=#[.slice (some ad) s.2.1.length cn,.int .i64 (k:Int),.int .u8 ((x-1).toNat:Int)]) ?_ ?_
  ·go_simp
  ·refine(Zaj _ s.2.1 k (x-1) _ rfl i3h.out hlb.out W (H0.out.below (hb2.out.trans (hC.mono hb2.out.size))).parts.2.1).mono ?_
   rintro e W' ⟨z,rfl,hz,hb⟩;obtain⟨Y,y,rfl,_⟩:=id (Zm hz);rw[Qo] at hz;rw[Qo];exact⟨_,rfl,⟨Y,y,rfl,Zf _ _ _ _ _ _ (fun _ _ hp hc=>Zux (by have:=hC.size;have:=hsz.out;omega) hp hc) hz⟩,hb⟩
 simp only[Qb,Zb,Zc,Zd,envAdd];intro x30
 repeat (first
  | (refine wpAs_skip rfl ?_;simp only[Qb,Zb,Zc,Zd])
  | (refine wpAs_pure (v := ?_) rfl rfl ?_ ?_;rotate_left;(intro W hC hE;clear hE;skip;clear hC;go_simp;first | done | with_reducible rfl);simp only[Qb,Zb,Zc,Zd]))
 refine wpAs_end fun W hC hE=> ?_
 obtain⟨⟨Y,y,rfl,hy⟩,_⟩:=hE;have bW:=(hC.block w.heap.size mg).trans G2h.out;obtain⟨c0,c1,c2,c3,c4,c5⟩:=Ze bW;obtain⟨W5,hW5,g5,gr5,gs5⟩:=Zcg (c':=.slice Y s.2.1.length y) bW;have hy5:=Za (Zf _ _ _ _ _ _ (fun _ _ hp hc=>Zbk gr5 hp hc) hy);have F5:=(gr5.block (w.heap.size+1) (by have:=hC.size;have:=hsz.out;omega) (by simp)).trans ((hC.block (w.heap.size+1) (by have:=hsz.out;omega)).trans F2.out);have B5:=Za ((hb2.out.trans (hC.mono hb2.out.size)).grown gr5 (Qc hb2.out.size hC.size) (fun q e=>by cases e;omega));have G5:=Za g5;replace bW:=Za bW;replace g5:=Za g5;clear hy gr5 gs5 hC m0 m1 m2 m3 mg mf
 go_upto_region 2 with fail
 clear hW5 c0 c1 c2 c3 c4 c5;obtain⟨w5,rfl⟩:∃ w5:P9,w5=W5:=⟨_,rfl⟩
 obtain⟨m0,m1,m2,m3,_,mg⟩:=Ze G5.out;obtain⟨c0,c1,c2,c3,c4,c5⟩:=Ze F5;obtain⟨W9,hW9,g9,gr9,gs9⟩:=Zo (a':=.slice A s.1.1.length ca) (b':=.slice B s.1.2.length cb) (c':=.slice Y s.2.1.length y) (d':=.slice (some bd) s.2.2.length cl) F5;obtain⟨o0,o1,o2,o3,_,_⟩:=Ze g9;have hB9:=Za (B5.out.grown gr9 B5.out.size (fun q e=>by cases e;omega))
 have hs9:Hid (Sto (Old W9) W9 (.agg #[.slice A s.1.1.length ca,.slice B s.1.2.length cb,.slice Y s.2.1.length y,.slice (some bd) s.2.2.length cl]) (s.1,s.2.1.set k (x-1),s.2.2)):=Za (by
  have h5:Sto (Old w5) w5 (.agg #[.slice A s.1.1.length ca,.slice B s.1.2.length cb,.slice Y s.2.1.length y,.slice (some bd) s.2.2.length cl]) (s.1,s.2.1.set k (x-1),s.2.2) :=
   Sto.mk (H0.out.below B5.out).parts.1 (Zf _ _ _ _ _ _ (fun _ _ hp hc=>Zd5 hp hc) hy5.out) (H0.out.below B5.out).parts.2.2
  exact Z9 h5 hfu.out F5 (by simp) gr9)
 replace g9:=Za g9;replace F5:=Za F5;clear gr9 gs9
 go_wp2_with fail
 refine Qad (v:=.agg #[.slice A s.1.1.length ca,.slice B s.1.2.length cb,.slice Y s.2.1.length y,.slice (some bd) s.2.2.length cl]) (by simp[results,Tryz.results108,go_sem,o0,o1,o2,o3]) rfl ?_;rw[hV.out];exact⟨_,rfl,hs9.out,hB9.out⟩}
theorem Zro {s:Rm}(hm:Yp s=true) (k:Int):U1 (Zaf s k):=(Va hm:U1 s)
theorem Zgi (v:Qaa) (s:Rm) (k:Int) (hm:Yp s=true) (hk:k=0\/(0<=k/\k<256/\s.2.1[k.toNat]?.getD 0≠0)) (w:P9) (h:Sto (Old w) w v s) :
  Qag Tryz.prog 64 #[v,.int .i64 k] w fun e w'=>∃ t,e=.returned t/\Sto (Old w') w' t (if k=0 then s else Zaf s k)/\Qai w.heap.size w w':=by{
 obtain⟨T,hT⟩:∃ T,(if k=0 then s else Zaf s k)=T:=⟨_,rfl⟩
 rw[hT];replace hT:=Za hT;obtain⟨A,ca,B,cb,N,cn,L,cl,w1,rfl,hw1,f1,f2,hsz,hB,H⟩:=V3 h;clear h;obtain⟨k0,k1,k2,k3,_,kg⟩:=Ze f1;replace hsz:=Za hsz;have F2:=Za f2;have BB:=Za hB;by_cases h0:k=0
 ·have t0:(k==0)=true:=by simpa using h0
  have h0h:=Za h0;obtain⟨c0,c1,c2,c3,c4,c5⟩:=Ze f2;obtain⟨W9,hW9,g9,gr9,gs9⟩:=Zo (a':=.slice A s.1.1.length ca) (b':=.slice B s.1.2.length cb) (c':=.slice N s.2.1.length cn) (d':=.slice L s.2.2.length cl) f2;obtain⟨o0,o1,o2,o3,_,_⟩:=Ze g9;have hB9:=Za (hB.grown gr9 hB.size (fun q e=>by cases e;omega));have hs9:=Za (Z9 H.out (Va hm:U1 s) f2 (by simp) gr9);replace g9:=Za g9;clear gr9 gs9 f1 f2 hB h0 hk
  go_enter Tryz.func64,Tryz.ntmps64
  go_upto_region 1 with fail
  clear hw1
  go_wp2_with fail
  refine Qad (v:=.agg #[.slice A s.1.1.length ca,.slice B s.1.2.length cb,.slice N s.2.1.length cn,.slice L s.2.2.length cl]) (by simp[results,Tryz.results64,go_sem,o0,o1,o2,o3]) rfl ?_;exact⟨_,rfl,by rw[<- hT.out,if_pos h0h.out];exact hs9.out,hB9.out⟩
 ·obtain⟨p0,p256,hp⟩:=hk.resolve_left h0
  obtain⟨j,rfl⟩:∃ j:Nat,k=(j:Int):=⟨k.toNat,by omega⟩
  rw[Int.toNat_natCast] at hp;have hfr:=Za (Zla _ s j hm (by omega) hp w1 H.out);have t0:((j:Int)==0)=false:=by simpa using h0
  have hne:=Za h0;clear f1 f2 hB hp h0 hk
  go_enter Tryz.func64,Tryz.ntmps64
  go_upto_region 1 with fail
  clear hw1
  go_wp2_with fail
  with_reducible refine hfr.out.mono ?_
  rintro e w2 ⟨t,rfl,hS,hb⟩;obtain⟨P,p,Q,q,R,r,K,k9,rfl,_⟩:=id hS.open;have F5:=(hb.block (w.heap.size+1) (by have:=hsz.out;omega)).trans F2.out;obtain⟨c0,c1,c2,c3,c4,c5⟩:=Ze F5;obtain⟨W9,hW9,g9,gr9,gs9⟩:=Zo (a':=.slice P (Zaf s j).1.1.length p) (b':=.slice Q (Zaf s j).1.2.length q) (c':=.slice R (Zaf s j).2.1.length r) (d':=.slice K (Zaf s j).2.2.length k9) F5;obtain⟨o0,o1,o2,o3,_,_⟩:=Ze g9;have hB9:=Za ((BB.out.trans (hb.mono BB.out.size)).grown gr9 (BB.out.trans (hb.mono BB.out.size)).size (fun q e=>by cases e;omega));have hs9:=Za (Z9 hS (Zro hm _) F5 (by simp) gr9);replace g9:=Za g9;clear gr9 gs9 hb hS F5
  go_wp2_with fail
  refine Qad (v:=.agg #[.slice P (Zaf s j).1.1.length p,.slice Q (Zaf s j).1.2.length q,.slice R (Zaf s j).2.1.length r,.slice K (Zaf s j).2.2.length k9]) (by simp[results,Tryz.results64,go_sem,o0,o1,o2,o3]) rfl ?_;exact⟨_,rfl,by rw[<- hT.out,if_neg hne.out];exact hs9.out,hB9.out⟩}
structure Zdn (M:Nat->Prop) (o o':Option Nat) (W W':P9):Prop where
 size:W.heap.size<=W'.heap.size
 same:∀ k,k<W.heap.size->¬ M k->o≠some k->W'.heap[k]? = W.heap[k]? /\ o'≠some k
theorem Zdn.refl (M:Nat->Prop) (o:Option Nat) (W:P9):Zdn M o o W W:=⟨Qd _,fun _ _ _ h=>⟨rfl,h⟩⟩
theorem Zdn.trans {M:Nat->Prop}{o o' q:Option Nat}{A B C:P9}(h:Zdn M o o' A B) (h':Zdn M o' q B C):Zdn M o q A C :=
 ⟨Qc h.size h'.size,fun k hk hm ho=>by
  obtain⟨e,n⟩:=h.same k hk hm ho;obtain⟨e',n'⟩:=h'.same k (Qm hk h.size) hm n
  exact⟨e'.trans e,n'⟩⟩
theorem Zdn.grown {M:Nat->Prop}{o q:Option Nat}{A B C:P9}{row:Option Nat}(h:Zdn M o q A B) (hg:B.grownBy C row) (hr:∀ r,row=some r->A.heap.size<=r\/M r):Zdn M o q A C :=
 ⟨Qc h.size hg.size,fun k hk hm ho=>by
  obtain⟨e,n⟩:=h.same k hk hm ho;refine⟨(hg.block k (Qm hk h.size) (fun e'=> ?_)).trans e,n⟩;rcases hr k e'.symm with h1 | h1
  ·omega
  ·exact hm h1⟩
theorem Zdn.wide {M M':Nat->Prop}{o q:Option Nat}{A B:P9}(h:Zdn M o q A B) (hM:∀ k,k<A.heap.size->M k->M' k):Zdn M' o q A B :=
 ⟨h.size,fun k hk hm ho=>h.same k hk (fun h1=>hm (hM k hk h1)) ho⟩
theorem Zdn.cell {M:Nat->Prop}{o q:Option Nat}{A B:P9}(h:Zdn M o q A B){p:Qab}(hp:p.block<A.heap.size) (hm:¬ M p.block) (ho:o≠some p.block):B.cell? p=A.cell? p:=Pg (h.same _ hp hm ho).1
theorem Zbg {W W':P9}(h:Qai W.heap.size W W'):W.grownBy W' none:=⟨h.os,h.tape,h.output,h.size,fun k hk _=>h.block k hk⟩
def Z10 {α:Type}(M:Nat->Prop) (J Jx:List α×Option Nat->P9->Prop) (xs:List α) (o:Option Nat) (W:P9):Qah->P9->Prop:=fun e W' =>
 ∃ o',Zdn M o o' W W'/\((e=.returned (.bool true)/\J (xs,o') W')\/(e=.returned (.bool false)/\Jx (xs,o') W'))
def Z6y {α:Type}(P:Program) (g:Nat) (lb:Array Qaa) (encs:α->Array Qaa) (T:Nat->List α->α->Option Nat->P9->Prop) (End:List α->Prop) (Z:Nat->Prop) (w:P9):Prop :=
 ∀ (l:Nat) (M:Nat->Prop) (J Jx:List α×Option Nat->P9->Prop) (o:Option Nat) (W:P9),Qai w.heap.size w W->OwnFrom W.heap.size J->OwnFrom W.heap.size Jx ->
  (∀ k,M k->k<W.heap.size)->(∀ s W1,J s W1->W.heap.size<=W1.heap.size/\∀ k,s.2=some k->k<W1.heap.size)->(∀ k,Z k->¬ M k/\o≠some k) ->
  (∀ pre q x W1,J (pre,q) W1->T W.heap.size pre x q W1->YieldAt Fence.wide 0 P l (encs x) W1 (Z10 M J Jx (pre++[x]) q W1)) ->
  J ([],o) W->Qag P g (#[.func (.yield l) #[] #[]]++lb) W fun e W'=>(∃ v,e=.returned v)/\((∃ xs q,End xs/\J (xs,q) W')\/(∃ pre q,Jx (pre,q) W'))
theorem Ztp {P:Program}{l f m:Nat}{tmps:Array Qaa}{assign body:Code}{w:P9}{R:Qah->P9->Prop}(h:RoundIn Fence.wide 0 P l f tmps assign body w R):RoundIn Fence.wide m P l f tmps assign body w R :=
 ⟨h.1,fun c cs _=>h.2 c cs (room_wide _)⟩
def Zy1 {α:Type}(M:Nat->Prop) (I:List α×Option Nat->P9->Prop) (Ix:Code->List α×Option Nat->P9->Prop) (xs:List α) (o:Option Nat) (W:P9):Exit->Act->P9->Prop
 | .normal,_,W'=>∃ q,Zdn M o q W W'/\I (xs,q) W'
 | .ret,_,W'=>∃ q,Zdn M o q W W'/\Ix .ret (xs,q) W'
 | .exit id,_,W'=>∃ q,Zdn M o q W W'/\Ix (.exit id) (xs,q) W'
 | .goto t,_,W'=>∃ q,Zdn M o q W W'/\Ix (.goto t) (xs,q) W'
 | .panic _,_,_=>False
 | .outgrown,_,_=>False
theorem Zxs {α:Type}{P:Program}{M:Nat->Prop}{I J Jx:List α×Option Nat->P9->Prop}{B D L:Nat}{rec:LoopState->Option Code->Loop}(hrec:∀ s c,{ rec s c with state:=.ready,pending:=none }=rec .ready none/\∀ s' c',{ rec s c with state:=s',pending:=c' }=rec s' c')
  {W W':P9} {xs:List α} {o q:Option Nat} (jump:Option Code) (hL:W.heap[L]? = some (.loop (rec .busy none))) (hD:W.heap[D]? = some (.deferred (some []))) (hDL:D≠L) (hBL:B<=L) (hML:¬ M L) (hMD:¬ M D) (hoL:o≠some L) (hoD:o≠some D)
  (hk:Zdn M o q W W') (hI:OwnFrom B I) (hi:I (xs,q) W')
  (hfin:∀ W2,I (xs,q) W2->W2.heap[L]? = some (.loop (rec (if jump.isNone then .ready else .done) jump))->W2.heap[D]? = some (.deferred (some []))->q≠some L->q≠some D->if jump.isNone then J (xs,q) W2 else Jx (xs,q) W2) :
  ∃ v W2,(Instr.endRound L jump).run P W'=.ok v W2/\Zdn (fun k=>M k\/k=L) o q W W2/\((v=.bool true/\J (xs,q) W2)\/(v=.bool false/\Jx (xs,q) W2)):=by{
 obtain⟨e1,n1⟩:=hk.same L (Qe.1 hL).1 hML hoL;obtain⟨e2,n2⟩:=hk.same D (Qe.1 hD).1 hMD hoD;have hL3:=e1.trans hL;have hD3:=e2.trans hD;have hrun:=run_endRound (P:=P) jump hL3;rw[(hrec .busy none).2] at hrun;have hf:=hfin _ (hI.putObj (.loop (rec (if jump.isNone then .ready else .done) jump)) hi hBL hL3 rfl) (P3 (Qe.1 hL3).1) ((Qy hDL).trans hD3) n1 n2;refine⟨_,_,hrun,?_,?_⟩
 ·exact(hk.wide fun _ _ h=>.inl h).grown (grownBy_putObj' _ _ _) fun r e=>by cases e;exact .inr (.inr rfl)
 ·cases jump with
  | none=>exact .inl ⟨rfl,by simpa using hf⟩
  | some c=>exact .inr ⟨rfl,by simpa using hf⟩}
theorem Ztt {α:Type}{P:Program}{g:Operand}{ps:Array Tmp}{assign body:Code}{Q:Exit->Act->P9->Prop}{a:Act}{w:P9}{m:Nat}{gf:Nat}{lb:Array Qaa}
  (hg:a.eval g=.func (.func gf) #[] lb) (eg:∀ args w,(callFunc gf args).run P w=.ok (.enter gf args) w)
  {encs:α->Array Qaa} {T:Nat->List α->α->Option Nat->P9->Prop} {End:List α->Prop} {Z:Nat->Prop} (hseq:Z6y P gf lb encs T End Z w) (hps:∀ x,(encs x).size=ps.size)
  (M:Nat->Prop) (hM:∀ k,M k->k<w.heap.size) (o:Option Nat) (hZ:∀ k,Z k->k<w.heap.size/\¬ M k/\o≠some k)
  (I:List α×Option Nat->P9->Prop) (Ix:Code->List α×Option Nat->P9->Prop) (hI:OwnFrom w.heap.size I) (hIx:∀ c,OwnFrom w.heap.size (Ix c)) (hIo:∀ s W,I s W->∀ k,s.2=some k->k<W.heap.size) (h0:I ([],o) w)
  (Ax:α->Act->P9->Prop) (hAx:∀ x a',OwnFrom w.heap.size (fun(_:Unit) W=>Ax x a' W)) (hT:∀ pre x q,OwnFrom w.heap.size (fun(_:Unit) W=>T (w.heap.size+2) pre x q W))
  (hassign:∀ (l:Nat) (pre:List α) (q:Option Nat) (x:α) (W:P9) (K:Act->P9->Prop),I (pre,q) W->T (w.heap.size+2) pre x q W->(∀ a' W',W.grownBy W' none->Ax x a' W'->K a' W') ->
   assign.wpIn (Fence.wide.inRound l) 0 P (Exit.then K (fun _ _ _=>False)) { tmps:=(ps.zip (encs x)).foldl (fun t (p,v)=>t.setIfInBounds p v) a.tmps,defers:=[] } W)
  (hbody:∀ (l:Nat) (pre:List α) (q:Option Nat) (x:α) (a':Act) (W:P9),w.heap.size+2<=W.heap.size->I (pre,q) W->Ax x a' W->T (w.heap.size+2) pre x q W->body.wpIn (Fence.wide.inRound l) 0 P (Zy1 M I Ix (pre++[x]) q W) a' W)
  (hdone:∀ (xs:List α) (q:Option Nat) (W:P9),w.heap.size<W.heap.size->End xs->I (xs,q) W->W.heap[w.heap.size]? = some (.deferred (some []))->q≠some w.heap.size->Q .normal { a with defers:={ target:=.collected w.heap.size,args:=#[] }::a.defers } W)
  (hstop:∀ (c:Code) (pre:List α) (q:Option Nat) (W:P9),w.heap.size<W.heap.size->Ix c (pre,q) W->W.heap[w.heap.size]? = some (.deferred (some []))->q≠some w.heap.size->c.wpIn Fence.wide m P Q { a with defers:={ target:=.collected w.heap.size,args:=#[] }::a.defers } W) :
  (Code.rangeFunc g ps assign body).wpIn Fence.wide m P Q a w:=by{
 refine wpIn_rangeFunc fun fn hfn=> ?_
 obtain⟨rec,hrec⟩:∃ rec:LoopState->Option Code->Loop,rec=fun st pe=>{ state:=st,pending:=pe,fn,tmps:=a.tmps,params:=ps,assign,body,defers:=w.heap.size }:=⟨_,rfl⟩
 have hrec':∀ s c,{ rec s c with state:=.ready,pending:=none }=rec .ready none/\∀ s' c',{ rec s c with state:=s',pending:=c' }=rec s' c':=fun s c=>by rw[hrec];exact⟨rfl,fun _ _=>rfl⟩
 obtain⟨D,hDe⟩:∃ D,w.heap.size=D:=⟨_,rfl⟩
 obtain⟨V,hV⟩:∃ V,(w.alloc (.deferred (some []))).alloc (.loop (rec .ready none))=V:=⟨_,rfl⟩
 have hVs:V.heap.size=D+2:=by rw[<- hV,<- hDe];simp
 have hVL:V.heap[D+1]? = some (.loop (rec .ready none)):=by
  rw[<- hV,<- hDe];have:=P4 (w.alloc (.deferred (some []))) (.loop (rec .ready none))
  rwa [Qh] at this
 have hVD:V.heap[D]? = some (.deferred (some [])):=by
  rw[<- hV,<- hDe];exact(Qs _ _ _ (by simp)).trans (P4 w _)
 have hVb:Qai w.heap.size w V:=by rw[<- hV];exact((Qa _ w).alloc (Qd _) _).alloc (by simp) _
 have hVI:I ([],o) V:=by rw[<- hV];exact hI.alloc _ (hI.alloc _ h0)
 have hoD:o≠some D/\o≠some (D+1):=⟨fun e=>by have:=hIo _ _ h0 D e;omega,fun e=>by have:=hIo _ _ h0 (D+1) e;omega⟩
 have hMD:¬ M D/\¬ M (D+1):=⟨fun e=>by have:=hM _ e;omega,fun e=>by have:=hM _ e;omega⟩
 have hnw:∀ {A:P9} {row:Option Nat},(∀ r,row=some r->V.heap.size<=r/\∃ o:Obj,A.heap[r]? = some o/\o.isCells=false)->∀ r,row=some r->w.heap.size<=r/\∃ o:Obj,A.heap[r]? = some o/\o.isCells=false :=
  fun hr r e=>⟨by have:=(hr r e).1;omega,(hr r e).2⟩
 have hkeep:∀ {A B:P9} {row:Option Nat} {k:Nat} {x:Obj},A.grownBy B row->(∀ r,row=some r->V.heap.size<=r/\∃ o:Obj,A.heap[r]? = some o/\o.isCells=false)->k<D+2->A.heap[k]? = some x->B.heap[k]? = some x:=fun {A B row k x} hg' hr hk hx =>
  (hg'.block k (Qe.1 hx).1 (fun e=>by have:=(hr k e.symm).1;omega)).trans hx
 refine⟨D+1,[{ target:=.collected D,args:=#[] }],V,{ target:=.fn (.func gf) lb,args:=#[.func (.yield (D+1)) #[] #[]] },V,gf,#[.func (.yield (D+1)) #[] #[]]++lb,V,?_,?_,fun _ _=>trivial,?_,fun h=>(by cases h),?_⟩
 ·rw[<- hV,hrec,<- hDe]
  exact run_enterLoop_outer _ _ _ _ _
 ·simp only[resolve,hg]
  simp[go_sem]
 ·simp[invoke,go_sem,eg]
 refine callsIn_wide.2 ((hseq (D+1) (fun k=>M k\/k=D+1)
  (fun s W=>(I s W/\V.heap.size<=W.heap.size)/\(W.heap[D+1]? = some (.loop (rec .ready none))/\W.heap[D]? = some (.deferred (some [])))/\s.2≠some (D+1)/\s.2≠some D)
  (fun s W=>∃ c,(Ix c s W/\V.heap.size<=W.heap.size)/\(W.heap[D+1]? = some (.loop (rec .done (some c)))/\W.heap[D]? = some (.deferred (some [])))/\s.2≠some (D+1)/\s.2≠some D) o V hVb ?_ ?_ ?_ ?_ ?_ ?_ ⟨⟨hVI,Qd _⟩,⟨hVL,hVD⟩,hoD.2,hoD.1⟩).mono ?_)
 ·intro s A B row hs hg' hr
  exact⟨⟨hI s A B row hs.1.1 hg' (hnw hr),Qc hs.1.2 hg'.size⟩,⟨hkeep hg' hr (by omega) hs.2.1.1,hkeep hg' hr (by omega) hs.2.1.2⟩,hs.2.2⟩
 ·rintro s A B row ⟨c,hs⟩ hg' hr
  exact⟨c,⟨hIx c s A B row hs.1.1 hg' (hnw hr),Qc hs.1.2 hg'.size⟩,⟨hkeep hg' hr (by omega) hs.2.1.1,hkeep hg' hr (by omega) hs.2.1.2⟩,hs.2.2⟩
 ·rintro k (h | h)
  ·have:=hM k h
   omega
  ·omega
 ·intro s W1 hs
  exact⟨hs.1.2,hIo s W1 hs.1.1⟩
 ·intro k hk
  obtain⟨h1,h2,h3⟩:=hZ k hk;exact⟨fun h=>h.elim h2 fun e=>by omega,h3⟩
 ·
  rintro pre q x W ⟨⟨hi,hsz⟩,⟨hl,hd⟩,nL,nD⟩ htold;rw[hVs] at htold hsz;rw[<- hDe] at htold;have hy:=run_yield (P:=P) (args:=encs x) hl (by rw[hrec];exact hps x);rw[hrec] at hy;refine⟨fn,_,assign,body,hy,roundIn_of_wpIn hfn (hassign _ pre q x W _ hi htold fun a' Wa hga hax=> ?_)⟩;clear hy;have hla:Wa.heap[D+1]? = some (.loop (rec .ready none)):=(hga.block _ (Qe.1 hl).1 (by simp)).trans hl;have hda:Wa.heap[D]? = some (.deferred (some [])):=(hga.block _ (Qe.1 hd).1 (by simp)).trans hd;have hia:=hI _ _ _ none hi hga (by simp);have hta:=hT pre x q () _ _ none htold hga (by simp);have hbeg:=run_beginRound (P:=P) hla (by rw[hrec]);rw[show ({ rec .ready none with state:=.busy }:Loop)=rec .busy none by rw[hrec]] at hbeg;refine⟨_,hbeg,?_⟩;have hlb:=(P3 (w:=Wa) (o:=.loop (rec .busy none)) (Qe.1 hla).1)
  have hdb:=(Qy (w:=Wa) (r:=D+1) (k:=D) (o:=.loop (rec .busy none)) (by omega)).trans hda;have hib:=hI.putObj (.loop (rec .busy none)) hia (by omega:w.heap.size<=D+1) hla rfl;have haxb:=(hAx x a').putObj (s:=()) (.loop (rec .busy none)) hax (by omega:w.heap.size<=D+1) hla rfl;have htb:=(hT pre x q).putObj (s:=()) (.loop (rec .busy none)) hta (by omega:w.heap.size<=D+1) hla rfl;have hkb:Zdn (fun k=>M k\/k=D+1) q q W (Wa.putObj (D+1) (.loop (rec .busy none))):=((Zdn.refl _ _ _).grown hga (by simp)).grown (grownBy_putObj' _ _ _) fun r e=>by cases e;exact .inr (.inr rfl)
  have hszb:w.heap.size+2<=(Wa.putObj (D+1) (.loop (rec .busy none))).heap.size:=by rw[Ph];have:=hga.size;omega
  refine wpIn_mono (hbody _ pre q x a' _ hszb hib haxb htb) ?_;have fin:∀ (jump:Option Code) (Y:List α×Option Nat->P9->Prop) (q':Option Nat) (W3:P9),OwnFrom w.heap.size Y->Y (pre++[x],q') W3->Zdn M q q' (Wa.putObj (D+1) (.loop (rec .busy none))) W3->(match jump with | none=>Y=I | some c=>Y=Ix c) ->
    ∃ v W4,(Instr.endRound (D+1) jump).run P W3=.ok v W4/\Z10 (fun k=>M k\/k=D+1) (fun s W=>(I s W/\V.heap.size<=W.heap.size)/\(W.heap[D+1]? = some (.loop (rec .ready none))/\W.heap[D]? = some (.deferred (some [])))/\s.2≠some (D+1)/\s.2≠some D)
     (fun s W=>∃ c,(Ix c s W/\V.heap.size<=W.heap.size)/\(W.heap[D+1]? = some (.loop (rec .done (some c)))/\W.heap[D]? = some (.deferred (some [])))/\s.2≠some (D+1)/\s.2≠some D) (pre++[x]) q W (.returned v) W4:=by
   intro jump Y q' W3 hY hy3 hk3 hJ;obtain⟨v,W4,hr,hk4,hv⟩:=Zxs (P:=P) (J:=fun s W=>(I s W/\V.heap.size<=W.heap.size)/\(W.heap[D+1]? = some (.loop (rec .ready none))/\W.heap[D]? = some (.deferred (some [])))/\s.2≠some (D+1)/\s.2≠some D)
    (Jx:=fun s W=>∃ c,(Ix c s W/\V.heap.size<=W.heap.size)/\(W.heap[D+1]? = some (.loop (rec .done (some c)))/\W.heap[D]? = some (.deferred (some [])))/\s.2≠some (D+1)/\s.2≠some D) hrec' jump hlb hdb (by omega) (by omega:w.heap.size<=D+1) hMD.2 hMD.1 nL nD hk3 (hY.and (I':=fun _ W=>V.heap.size<=W.heap.size) fun _ _ _ _ hs hg _=>Qc hs hg.size)
    ⟨hy3,by have:=hk3.size;omega⟩ (fun W2 hy2 hl2 hd2 n1 n2=>by
     cases jump with
     | none =>
      cases hJ;exact⟨hy2,⟨hl2,hd2⟩,n1,n2⟩
     | some c =>
      cases hJ
      exact⟨c,hy2,⟨hl2,hd2⟩,n1,n2⟩)
   exact⟨v,W4,hr,q',hkb.trans hk4,hv.imp (fun h=>⟨by rw[h.1],h.2⟩) fun h=>⟨by rw[h.1],h.2⟩⟩
  rintro e a3 W3 hp;cases e with
  | normal =>
   obtain⟨q',hk3,hi3⟩:=hp;exact fin none I q' W3 hI hi3 hk3 rfl
  | ret =>
   obtain⟨q',hk3,hi3⟩:=hp;exact fin (some .ret) _ q' W3 (hIx _) hi3 hk3 rfl
  | exit id =>
   obtain⟨q',hk3,hi3⟩:=hp;exact fin (some (.exit id)) _ q' W3 (hIx _) hi3 hk3 rfl
  | goto t =>
   obtain⟨q',hk3,hi3⟩:=hp;exact fin (some (.goto t)) _ q' W3 (hIx _) hi3 hk3 rfl
  | panic ch=>exact hp.elim
  | outgrown=>exact hp.elim
 ·
  rintro e W2 ⟨⟨v,rfl⟩,⟨xs,q,hE,⟨hi,hsz⟩,⟨hl,hd⟩,nL,nD⟩ | ⟨pre,q,c,⟨hi,hsz⟩,⟨hl,hd⟩,nL,nD⟩⟩
  ·have:=run_endLoop (P:=P) hl (by rw[hrec];simp)
   rw[hrec] at this;refine⟨none,_,this,?_⟩;have h1:=hdone xs q (W2.putObj (D+1) (.loop { rec .ready none with state:=.exhausted })) (by rw[Ph];omega) hE (hI.putObj _ hi (by omega) hl rfl) (by rw[hDe];exact(Qy (by omega)).trans hd) (by rw[hDe];exact nD);rw[hDe,hrec] at h1;exact h1
  ·have:=run_endLoop (P:=P) hl (by rw[hrec];simp)
   rw[hrec] at this;refine⟨some c,_,this,?_⟩;have h1:=hstop c pre q (W2.putObj (D+1) (.loop { rec .done (some c) with state:=.exhausted })) (by rw[Ph];omega) ((hIx c).putObj _ hi (by omega) hl rfl) (by rw[hDe];exact(Qy (by omega)).trans hd) (by rw[hDe];exact nD);rw[hDe,hrec] at h1;exact h1}
end Go.Proofs.YtgmbjnajdfgenaaGreat
namespace Go.Proofs.YtgmbjnajdfgenaaGreat
open Go.RowKit Go.Shelf
attribute [local go_sem] Oper.semAt_some
structure Sv where
 nd:Nd
 pl:Nat
 inst:Bool
 A:Option Qab
 c:Nat
 lo:Nat
 hi:Nat
theorem Zzr (v u:Qaa) (s:Rm) (hm:Yp s=true) (n:Nd) (hn:Xn n=true) (w:P9) (h:Sto (Old w) w v s) (hu:Nod (Old w) w u n) :
  Qag Tryz.prog 70 #[v,u] w fun e w'=>e=.returned (.bool (Xk s n.2))/\Qai w.heap.size w w':=by{
 have hrf:=Za (V4 hn);have hls:=Za (Z0 (Zw hm).2.1);obtain⟨A,ca,B,cb,N,cn,L,cl,rfl,_⟩:=id h.open;obtain⟨I,ci,rfl,-,-,-,hI⟩:=id hu.open;obtain⟨lw,hlw⟩:∃ q,n.1=q:=⟨_,rfl⟩
 obtain⟨l,hl⟩:∃ q,n.2=q:=⟨_,rfl⟩
 obtain⟨m,hlm⟩:∃ q,l.length=q:=⟨_,rfl⟩
 rw[hl] at hrf;rw[hl,hlm] at hI;rw[hl,hlw,hlm];have hm5:m<=5:=by
  have:=(Zs hn).1.2.2.1;rw[hl,hlm] at this;exact this
 obtain⟨ad,ld,rfl,rfl,-,-,-,-,had,-,hc⟩:=Vr hm h.parts.2.1 h.parts.2.2;have HG0:Bag w [Zb8 (.slice I m ci) l,Zbu (.agg #[.slice A s.1.1.length ca,.slice B s.1.2.length cb,.slice (some ad) s.2.1.length cn,.slice (some ld) s.2.2.length cl]) s]:=((Bag.nil w).add (F:=Zbu _ s) h (Yj _ _)).add (F:=Zb8 _ l) hI (Yz _ _);obtain⟨w0,hw0,hg0,hB0,_,hs0⟩:=Xd HG0 (Qa _ _) (.slice A s.1.1.length ca) (.slice B s.1.2.length cb) (.slice (some ad) s.2.1.length cn) (.slice (some ld) s.2.2.length cl) 29;obtain⟨w1,hw1,hg1,hB1,_,hs1⟩:=Xa hg0 (Qa _ _) (.int .i64 lw) (.slice I m ci);have HG:=Za hg1;have BB:=Za (hB0.trans (hB1.mono hB0.size));have cS:Hid (∀ j,j<256->∀ W,Qai w1.heap.size w1 W->W.cell? (ad.add j)=some (.int .u8 ((s.2.1[j]?.getD 0).toNat:Int))):=Za fun j hj W hW =>
  ((BB.out.trans (hW.mono BB.out.size)).cell (by rw[Zh];exact had)).trans (hc j hj).1
 obtain⟨y0,y1,_⟩:=hg1.at 0 rfl;replace hs1:=Za hs1;replace hs0:=Za hs0;replace hlw:=Za hlw;replace hl:=Za hl;replace hlm:=Za hlm;clear HG0 hg1 hg0 h hu hB1 hB0 hc hI
 go_enter Tryz.func70,Tryz.ntmps70
 go_upto_region 1 with fail
 clear hw1 hw0
 go_wp2_with fail
 clear y0 y1
 go_loopw [10] (fun vi wr=>∃ k:Nat,k<=m/\vi=.int .i64 k/\Xk s (l.take k)=true/\Qai w1.heap.size w1 wr) (fun vi _=>m-(intOf vi).toNat)
 case atStart=>exact⟨0,by omega,rfl,rfl,Qa _ _⟩
 case round =>
  obtain⟨k,hk,rfl,hE,hbr⟩:=hrel;have HR:=Za (HG.out.below hbr);have BR:=Za (BB.out.trans (hbr.mono BB.out.size));by_cases hlt:k<m
  case neg =>
   have hf:Hid (Xk s l=true):=Za (by rw[<- hE,Qv (by rw[hlm.out];omega)]);clear hE hbr
   go_wp2_with fail
   go_ret;exact⟨Zk hf.out.symm,BR.out⟩
  obtain⟨x,hx⟩:∃ x,l[k]? = some x:=⟨_,Qf (by rw[hlm.out];exact hlt)⟩
  have hxr:=hrf.out x (Q4 hx);have hIt:Y6 (Old wr) wr [.slice I m ci] l:=HR.out.at 2 rfl;obtain⟨a5,E5,ce5,rfl,_,_,_,FX⟩:=Y4 hIt hx;obtain⟨⟨z0,z1,z2,z3,z4⟩,_⟩:=FX wr (Qa _ _);obtain⟨w2,hw2,r0,r1,r2,r3,r4,hs2,hB2,_⟩:=Z6 wr (.int .u8 (x.1.1.toNat:Int)) (.int .u32 x.1.2.1) (.int .u32 x.1.2.2) (.int .i64 x.2.1) (.slice E5 x.2.2.length ce5) 54;have B2:=Za (hbr.trans (hB2.mono hbr.size));have H2:=Za (HR.out.below hB2);have BF:=Za (BB.out.trans (B2.out.mono BB.out.size));replace hs2:=Za hs2;clear FX hIt hB2
  go_upto_region 4 with fail
  clear hw2 z0 z1 z2 z3 z4;obtain⟨k0,k1,k2,k3,_⟩:=H2.out.at 1 rfl;rw[hls.out] at k2;have i4:(0:Int)<=(k:Int):=by omega
  have i5:(k:Int)<(m:Int):=by omega
  obtain⟨z,hzz⟩:∃ z,x.2.1=z:=⟨_,rfl⟩
  rw[hzz] at r3 hxr;by_cases hz0:z=0
  ·subst hz0
   have hst:Hid (Xk s (l.take (k+1))=true):=Za (by rw[Zn8 hx hzz,hE]);replace hx:=Za hx;replace hzz:=Za hzz;clear hE hxr;replace hbr:=Za hbr
   go_wp2_with fail
   go_roundw
   case rel=>exact⟨k+1,by omega,by go_num,hst.out,B2.out⟩
   case measure=>simp[intOf];omega
  ·obtain⟨r,hr,r8,r256⟩:∃ r:Nat,z=r/\8<=r/\r<256:=⟨z.toNat,by omega,by omega,by omega⟩
   subst hr;have hcell:=cS.out r r256 w2 B2.out;obtain⟨y,hy⟩:∃ y,s.2.1[r]?.getD 0=y:=⟨_,rfl⟩
   have hst:=Zrq hx hzz (by omega) hy;rw[hE,Bool.true_and] at hst;rw[hy] at hcell;have j0:(0:Int)<=(r:Int):=by omega
   have j1:r<256:=r256;have j2:¬ r=0:=by omega
   replace hbr:=Za hbr;replace hzz:=Za hzz;replace hy:=Za hy;clear hE hxr hz0;by_cases hy0:y=0
   ·have t0:=Y0 (y:=0) (q:=0) rfl hy0
    have hf:Hid (Xk s l=false):=Za (Zrc (i:=k+1) (by rw[hst];simp[hy0]));replace hx:=Za hx;clear hst hy0
    go_wp2_with fail
    go_ret;exact⟨Zk hf.out.symm,BF.out⟩
   ·have t0:=Yf (y:=0) (q:=0) rfl hy0
    replace hst:Hid (Xk s (l.take (k+1))=true):=Za (by rw[hst];simpa using hy0);replace hx:=Za hx;clear hy0
    go_wp2_with fail
    go_roundw
    case rel=>exact⟨k+1,by omega,by go_num,hst.out,B2.out⟩
    case measure=>simp[intOf];omega}
def StC (g:Int->Option (Ky×Ky)) (l:List It) (k:Nat) (t:Ky):Prop:=k=0\/∃ f,Yt g (l.take k)=some (f,t)
section
variable {g : Int -> Option (Ky × Ky)}{l : List It}{k : Nat}{x : It}{p : Ky × Ky}{t : Ky}
theorem Zwt (hx:l[k]? = some x) (h:g x.2.1=none):Yt g l=none:=by{
 refine Zi1 (k:=k+1) (by omega) ?_;by_cases h0:k=0
 ·subst h0
  rw[Zeb hx,h];rfl
 ·rw[Uj hx (by omega),h]
  cases Yt g (l.take k) <;> rfl}
theorem Zv2 (hx:l[k]? = some x) (h:g x.2.1=some p) (hp:p.1≠x.1):Yt g l=none:=by{
 refine Zi1 (k:=k+1) (by omega) ?_;by_cases h0:k=0
 ·subst h0
  rw[Zeb hx,h];simp[hp]
 ·rw[Uj hx (by omega),h]
  cases Yt g (l.take k) <;> simp[hp]}
theorem Zvp (hx:l[k]? = some x) (h0:k≠0) (hs:StC g l k t) (hl:Zq t x.1=false):Yt g l=none:=by
 rcases hs with hs | ⟨f,hs⟩
 ·exact absurd hs h0
 refine Zi1 (k:=k+1) (by omega) ?_;rw[Uj hx (by omega),hs];cases g x.2.1 <;> simp[hl]
theorem Zw6 (hx:l[k]? = some x) (hs:StC g l k t) (hl:k≠0->Zq t x.1=true) (h:g x.2.1=some p) (hp:p.1=x.1):StC g l (k+1) p.2:=by{
 refine .inr ?_;by_cases h0:k=0
 ·subst h0
  rw[Zeb hx,h]
  exact⟨p.1,by
   show (if p.1=x.1 then some p else none)=some (p.1,p.2)
   rw[if_pos hp]⟩
 ·rcases hs with hs | ⟨f,hs⟩
  ·exact absurd hs h0
  rw[Uj hx (by omega),hs,h];exact⟨f,by simp[hp,hl h0]⟩}
end
theorem Ztm {s:Rm}{n:Nd}(h:n.2.length=0):Zb1 s n=none:=by
 have e:n.2=[]:=Ps h;unfold Zb1;rw[e];cases n.1.toNat with
 | zero=>simp[Xk]
 | succ l=>rfl
theorem Z4k {s:Rm}{l:Nat}{a:Int}(h:¬ (rmE s a=0/\(rmV s a).1=(l:Int)/\(rmV s a).2.length≠0)):U7 s l a=none:=by{
 rw[Znl];by_cases h1:rmE s a=0/\(rmV s a).1=(l:Int)
 ·rw[if_pos h1]
  by_cases h2:(rmV s a).2.length=0
  ·exact Ztm h2
  ·exact absurd ⟨h1.1,h1.2,h2⟩ h
 ·rw[if_neg h1]}
theorem Z0z {s:Rm}{l:Nat}{a:Int}(h1:rmE s a=0) (h2:(rmV s a).1=(l:Int)):U7 s l a=Zb1 s (rmV s a):=by
 rw[Znl,if_pos ⟨h1,h2⟩]
abbrev Z5i (Bs Be:Nat):Qaa:=.func (.func 69) #[] #[.pointer (some ⟨Bs,0,none⟩),.pointer (some ⟨Be,0,none⟩)]
def Z4n (g:Nat) (v:Qaa):P9->Prop:=fun w=>w.cell? ⟨g,0,none⟩=some v/\g<w.heap.size
theorem Zkn (g:Nat) (v:Qaa):Zd3 (Z4n g v):=fun _ _ h hb=>⟨(hb.cell (p:=⟨g,0,none⟩) h.2).trans h.1,Qm h.2 hb.size⟩
def Z44 (s:Rm) (n:Nd) (w:P9):Qah->P9->Prop:=fun e w'=>∃ f t ok,e=.returned (.tuple #[kyV f,kyV t,.bool ok])/\Zb1 s n=(if ok=true then some (f,t) else none)/\Qai w.heap.size w w'
theorem Zap {s:Rm}{n:Nd}{w w':P9}(f t:Ky) (ok:Bool) (h:Zb1 s n=if ok=true then some (f,t) else none) (hb:Qai w.heap.size w w'):Z44 s n w (.returned (.tuple #[kyV f,kyV t,.bool ok])) w':=⟨f,t,ok,rfl,h,hb⟩
def Zwk (s:Rm) (l:Nat):Prop:=∀ (u v0 v1 v2 v3:Qaa) (n:Nd) (Bs Be:Nat) (w:P9),Xn n=true->n.1=(l:Int)->n.2.length≠0->Nod (Old w) w u n->Sto (Old w) w (.agg #[v0,v1,v2,v3]) s->Z4l Bs v0 v1 v2 v3 w->Z4n Be (Z5i Bs Be) w ->
  Qag Tryz.prog 69 #[u,.pointer (some ⟨Bs,0,none⟩),.pointer (some ⟨Be,0,none⟩)] w (Z44 s n w)
theorem Zw8 (s:Rm) (hm:Yp s=true) (l0:Nat) (hr0:∀ j,l0=j+1->Zwk s j):Zwk s l0:=by{
 intro u v0 v1 v2 v3 n Bs Be w hmn0 hlv hne hu h hBs hBe;have hmn:=Za hmn0;obtain⟨I,ci,rfl,-,-,-,hI⟩:=id hu.open;obtain⟨lw,hlw⟩:∃ q,n.1=q:=⟨_,rfl⟩
 obtain⟨l,hl⟩:∃ q,n.2=q:=⟨_,rfl⟩
 obtain⟨m,hlm⟩:∃ q,l.length=q:=⟨_,rfl⟩
 obtain⟨R,hR⟩:∃ R,Zb1 s n=R:=⟨_,rfl⟩
 have hR0:=Za (fun(x y:It) (j:Nat) (h1:n.1=0) (h2:n.2[0]? = some x) (h3:n.2.length=j+1) (h4:n.2[j]? = some y)=>Zng (s:=s) h1 h2 h3 h4);have hR1:=Za (fun(j:Nat) (hj:n.1=((j+1:Nat):Int))=>Zmy (s:=s) hj);rw[hR] at hR0 hR1;have hu':=hu;rw[hl,hlm] at hI;rw[hlw,hl,hlm] at hu';rw[hlw,hl,hlm] at hR0;rw[hlw,hl] at hR1;rw[hl,hlw,hlm];rw[hlw] at hlv;rw[hl,hlm] at hne;have hm5:m<=5:=by
  have:=(Zs hmn.out).1.2.2.1;rw[hl,hlm] at this;exact this
 have HG0:Bag w [Z4n Be (Z5i Bs Be),Z4l Bs v0 v1 v2 v3,Zuk (.agg #[.int .i64 lw,.slice I m ci]) n,Zb8 (.slice I m ci) l,Zbu (.agg #[v0,v1,v2,v3]) s] :=
  (((((Bag.nil w).add (F:=Zbu _ s) h (Yj _ _)).add (F:=Zb8 _ l) hI (Yz _ _)).add (F:=Zuk _ n) hu' (Vh _ _)).add (F:=Z4l _ _ _ _ _) hBs (Zf5 _ _ _ _ _)).add (F:=Z4n _ _) hBe (Zkn _ _)
 obtain⟨w0,hw0,b0,hs0,hB0⟩:=Zy w (.int .i64 lw) (.slice I m ci) 81;obtain⟨w1,hw1,_,_,_,hs1,hB1,b1⟩:=Xf w0 (.int .u8 0) (.int .u32 0) (.int .u32 0) 37;obtain⟨w2,hw2,_,_,_,hs2,hB2,b2⟩:=Xf w1 (.int .u8 0) (.int .u32 0) (.int .u32 0) 37;have HG:=Za HG0;have BB:=Za ((hB0.trans (hB1.mono hB0.size)).trans (hB2.mono (hB0.trans (hB1.mono hB0.size)).size));have G0:Xu w.heap.size #[.int .i64 lw,.slice I m ci] 81 w2:=Yb _ _ _ _ _ (Yb _ _ _ _ _ b0 hB1) hB2;have G1:Xu w0.heap.size #[.int .u8 0,.int .u32 0,.int .u32 0] 37 w2:=Yb _ _ _ _ _ b1 hB2;have G2:Xu w1.heap.size #[.int .u8 0,.int .u32 0,.int .u32 0] 37 w2:=b2;have lo:Hid (w.heap.size<w0.heap.size/\w0.heap.size<w1.heap.size/\w1.heap.size<w2.heap.size):=Za ⟨by omega,by omega,by omega⟩;obtain⟨y0,y1,_⟩:=Zg G0;replace hs2:=Za hs2;replace hs1:=Za hs1;replace hs0:=Za hs0;replace hlw:=Za hlw;replace hl:=Za hl;replace hlm:=Za hlm;replace hlv:=Za hlv;replace hR:=Za hR;replace G0:=Za G0;replace G1:=Za G1;replace G2:=Za G2;clear HG0 h hu hu' hB2 hB1 hB0 hI hBs hBe b0 b1 b2 hmn0;obtain⟨m1,hm1⟩:∃ j,m=j+1:=⟨m-1,by omega⟩
 obtain⟨x0,hx0⟩:∃ x,l[0]? = some x:=⟨_,Qf (by rw[hlm.out];omega)⟩
 obtain⟨yl,hyl⟩:∃ x,l[m1]? = some x:=⟨_,Qf (by rw[hlm.out];omega)⟩
 have hx0':=Za hx0;have hyl':=Za hyl;have HW2:=Za (HG.out.below BB.out);obtain⟨ad,E0,ce0,rfl,_,FX0⟩:=Za3 (HW2.out.at 3 rfl:Y6 (Old w2) w2 [.slice I m ci] l) hx0;have FX:=Za (fun W (hW:Qai w2.heap.size w2 W)=>(FX0 W hW).1);have iz:0<m:=by omega
 cases l0 with
 | zero =>
  obtain⟨ad',E6,ce6,e6,_,_,_,FY0⟩:=Y4 (HW2.out.at 3 rfl:Y6 (Old w2) w2 [.slice (some ad) m ci] l) hyl;cases e6;have FY:=Za (fun W (hW:Qai w2.heap.size w2 W)=>(FY0 W hW).1);have e0:lw=0:=hlv.out;subst e0;obtain⟨b,hb⟩:∃ b,Xk s l=b:=⟨_,rfl⟩
  have hfin:=Za (hR0.out x0 yl m1 rfl hx0 hm1 hyl);rw[hb] at hfin;replace hb:=Za hb;have i6:(m:Int)-1=(m1:Int):=by omega
  have i7:(m1:Int)<(m:Int):=by omega
  have i8:(0:Int)<=(m1:Int):=by omega
  have i9:IntKind.i64.wrap (m1:Int)=(m1:Int):=Qn _ (by omega);have i0:(0:Int)<(m:Int):=by omega
  replace hm1:=Za hm1;clear hR0 hR1 hx0 hyl FX0 FY0
  go_enter Tryz.func69,Tryz.ntmps69
  go_upto_region 1 with fail
  clear hw0 hw1 hw2
  go_wp2_with fail
  clear y0 y1;obtain⟨o4,ho4⟩:∃ o,(Obj.cells #[.int .u8 (x0.1.1.toNat:Int),.int .u32 x0.1.2.1,.int .u32 x0.1.2.2] 37 (0,0))=o:=⟨_,rfl⟩
  obtain⟨o5,ho5⟩:∃ o,(Obj.cells #[.int .u8 (yl.1.1.toNat:Int),.int .u32 yl.1.2.1,.int .u32 yl.1.2.2] 37 (0,0))=o:=⟨_,rfl⟩
  obtain⟨fin,hfn⟩:∃ f,Zh3 w0.heap.size o4 w1.heap.size o5=f:=⟨_,rfl⟩
  have fn4:Hid (fin w0.heap.size=some o4):=Za (by rw[<- hfn];exact Zjl _ _ _ _);have fn5:Hid (fin w1.heap.size=some o5):=Za (by rw[<- hfn];exact Zke (by have:=lo.out;omega) _ _);have fnl:Hid (∀ k,k<w0.heap.size->fin k=none):=Za fun k hk=>by rw[<- hfn];exact Zh1 (by omega) (by have:=lo.out;omega) _ _
  replace ho4:=Za ho4;replace ho5:=Za ho5;replace hfn:=Za hfn;have HW0:=Za (fun W (hK:Xe fin w2 W)=>BB.out.trans (hK.below BB.out.size (fun k hk=>fnl.out k (by have:=lo.out;omega))));have hcl:Hid (∀ W,Xe fin w2 W->Qag Tryz.prog 70 #[.agg #[v0,v1,v2,v3],.agg #[.int .i64 0,.slice (some ad) m ci]] W fun e W'=>e=.returned (.bool b)/\Qai W.heap.size W W'):=Za fun W hK=>by
   have HW:=HG.out.below (HW0.out W hK);have:=Zzr _ _ s hm n hmn.out W (HW.at 4 rfl) (HW.at 2 rfl);rw[hl.out,hb.out] at this;exact this
  have FXK:Hid (∀ W,Xe fin w2 W->∃ d,At5 W ad x0 d):=Za fun W hK=>by
   obtain⟨_,_,_,e,_,F⟩:=Za3 ((HG.out.below (HW0.out W hK)).at 3 rfl:Y6 (Old W) W [.slice (some ad) m ci] l) hx0'.out;cases e;exact⟨_,(F W (Qa _ _)).1⟩
  have FYK:Hid (∀ W,Xe fin w2 W->∃ d,At5 W (ad.add (m1*5)) yl d):=Za fun W hK=>by
   obtain⟨_,_,_,e,_,_,_,F⟩:=Y4 ((HG.out.below (HW0.out W hK)).at 3 rfl:Y6 (Old W) W [.slice (some ad) m ci] l) hyl'.out;cases e;exact⟨_,(F W (Qa _ _)).1⟩
  have KS:Hid (∀ W,Xe fin w2 W->W.heap[w.heap.size]? = some (.cells #[.int .i64 0,.slice (some ad) m ci] 81 (0,0))):=Za fun W hK=>hK.other (fnl.out _ lo.out.1) G0.out
  have K4:Hid (∀ W,Xe fin w2 W->∃ a b c,W.heap[w0.heap.size]? = some (.cells #[a,b,c] 37 (0,0))):=Za fun W hK=>by
   rcases hK.box fn4.out G1.out with e | e
   ·exact⟨_,_,_,e⟩
   ·rw[<- ho4.out] at e;exact⟨_,_,_,e⟩
  have K5:Hid (∀ W,Xe fin w2 W->∃ a b c,W.heap[w1.heap.size]? = some (.cells #[a,b,c] 37 (0,0))):=Za fun W hK=>by
   rcases hK.box fn5.out G2.out with e | e
   ·exact⟨_,_,_,e⟩
   ·rw[<- ho5.out] at e;exact⟨_,_,_,e⟩
  refine Rb.wp_region_fx (Xe fin) (by kernel_rfl) (fun W=>Xe fin w2 W) (fun i=>match i with
   | 17=>some (fun _ W=>W.heap[w0.heap.size]? = some o4)
   | 18=>some (fun _ W=>W.heap[w1.heap.size]? = some o5)
   | _=>none) (fun i=>match i with
   | 16=>some (.bool b)
   | _=>none) (by kernel_rfl) (Xe.refl _ _).drew (fun w w' h hb=>h.trans hb) ?tst ?_
  case tst =>
   intro j φ x W W' hp hx hb
   match j,hp with
   | 17,hp=>cases hp;exact hb.done fn4.out hx
   | 18,hp=>cases hp;exact hb.done fn5.out hx
  repeat (first
   | (refine Rb.wpAs_skip rfl ?_;simp only[Qb,Zb,Zc,Zd])
   | (refine Rb.wpAs_pure (v := ?_) rfl rfl ?_ ?_;rotate_left;(intro W hC hE;clear hE;(obtain⟨y0,y1,_⟩:=Zg (KS.out W hC);obtain⟨_,z0,z1,z2,_,_⟩:=FXK.out W hC;obtain⟨_,u0,u1,u2,_,_⟩:=FYK.out W hC;obtain⟨k0,k1,k2,k3,_⟩:=(HG.out.below (HW0.out W hC)).at 1 rfl);clear hC;go_simp;first | done | with_reducible rfl);simp only[Qb,Zb,Zc,Zd]))
  refine Rb.wpAs_fixed rfl rfl rfl ?_ ?_
  ·intro W hC hE
   clear hE;refine Rb.does_enter (f:=70) (args:=#[.agg #[v0,v1,v2,v3],.agg #[.int .i64 0,.slice (some ad) m ci]]) ?_ ?_
   ·go_simp
   ·refine(hcl.out W hC).mono ?_
    rintro e W' ⟨rfl,hg⟩;exact⟨_,rfl,rfl,Xe.of_below hg⟩
  simp only[Qb,Zb,Zc,Zd];refine Rb.wpAs_act rfl rfl ?_ ?_
  ·intro W hC hE
   clear hE;obtain⟨a,b,c,G⟩:=K4.out W hC;obtain⟨q0,q1,q2,q3,_⟩:=Zj G;obtain⟨W1,hW1,g1,gr1,_⟩:=Yo (a':=.int .u8 (x0.1.1.toNat:Int)) (b':=.int .u32 x0.1.2.1) (c':=.int .u32 x0.1.2.2) G;rw[ho4.out] at g1;have hk:=Za (Xe.of_grown gr1 fn4.out g1);replace g1:=Za g1;clear gr1 G hC
   go_simp
   exact⟨g1.out,hk.out⟩
  simp only[Qb,Rb.envAdd];intro _;refine Rb.wpAs_act rfl rfl ?_ ?_
  ·intro W hC hE
   clear hE;obtain⟨a,b,c,G⟩:=K5.out W hC;obtain⟨q0,q1,q2,q3,_⟩:=Zj G;obtain⟨W1,hW1,g1,gr1,_⟩:=Yo (a':=.int .u8 (yl.1.1.toNat:Int)) (b':=.int .u32 yl.1.2.1) (c':=.int .u32 yl.1.2.2) G;rw[ho5.out] at g1;have hk:=Za (Xe.of_grown gr1 fn5.out g1);replace g1:=Za g1;clear gr1 G hC
   go_simp
   exact⟨g1.out,hk.out⟩
  simp only[Qb,Rb.envAdd];intro _
  repeat (first
   | (refine Rb.wpAs_skip rfl ?_;simp only[Qb,Zb,Zc,Zd])
   | (refine Rb.wpAs_pure (v := ?_) rfl rfl ?_ ?_;rotate_left;(intro W hC hE;clear hE;skip;clear hC;go_simp;first | done | with_reducible rfl);simp only[Qb,Zb,Zc,Zd]))
  refine Rb.wpAs_end fun W hC hE=> ?_
  have e5:=hE.1;have e4:=hE.2.1;have hB9:=Za (HW0.out W hC);rw[<- ho4.out] at e4;rw[<- ho5.out] at e5;obtain⟨n0,n1,n2,_⟩:=Zj e4;obtain⟨q0,q1,q2,_⟩:=Zj e5;replace e4:=Za e4;replace e5:=Za e5;clear hE hC
  go_wp2_with fail
  refine Qad (v:=.tuple #[kyV x0.1,kyV yl.1,.bool b]) (by simp[results,go_sem,n0,n1,n2,q0,q1,q2]) rfl ?_;exact Zap (x0.1) (yl.1) b (hR.out.trans hfin.out) hB9.out
 | succ l1 =>
  have hrec:=Za (hr0 l1 rfl);have c0:(lw==0)=false:=by have:=hlv.out;simp;omega
  have c1:lw-1=(l1:Int):=by have:=hlv.out;omega
  have c2:IntKind.i64.wrap (l1:Int)=(l1:Int):=by
   have:=(Zs hmn.out).1.2.1;rw[hlw.out,hlv.out] at this;exact Qn _ (by omega)
  have hRC:Hid (R=Yt (U7 s l1) l):=Za (hR1.out l1 hlv.out);replace hm1:=Za hm1;clear hR0 hR1 hx0 hyl FX0
  go_enter Tryz.func69,Tryz.ntmps69
  go_upto_region 1 with fail
  clear hw0 hw1 hw2
  go_wp2_with fail
  clear y0 y1
  go_loopw [37] (fun vi wr=>∃ (k:Nat) (t:Ky),k<=m/\vi=.int .i64 k/\StC (U7 s l1) l k t/\Qai w.heap.size w wr/\w2.heap.size<=wr.heap.size/\Xu w.heap.size #[.int .i64 lw,.slice (some ad) m ci] 81 wr/\Xu w0.heap.size #[.int .u8 0,.int .u32 0,.int .u32 0] 37 wr/\Xu w1.heap.size #[.int .u8 (t.1.toNat:Int),.int .u32 t.2.1,.int .u32 t.2.2] 37 wr) (fun vi _=>m-(intOf vi).toNat)
  case atStart=>exact⟨0,Zgt,by omega,rfl,.inl rfl,BB.out,Qd _,G0.out,G1.out,G2.out⟩
  case round =>
   obtain⟨k,t,hk,rfl,hst,hbr,hsz,g0,g1,g2⟩:=hrel;have HR:=Za (HG.out.below hbr);have BR:=Za hbr;have SZ:=Za hsz;clear hbr hsz;by_cases hlt:k<m
   case neg =>
    have hkm:k=m:=by omega
    have hf:Hid (R=some (x0.1,t)):=Za (by
     subst hkm;rcases hst with e | ⟨f,e⟩
     ·omega
     ·have e1:=Zwy hx0'.out (by omega) (by rw[hlm.out];omega) e
      rw[Qv (by rw[hlm.out];omega)] at e
      rw[hRC.out,e,<- e1])
    have i0:(0:Int)<(m:Int):=by omega
    have FXr:=Za (fun W (hW:Qai wr.heap.size wr W)=>(Za3 (HR.out.at 3 rfl:Y6 (Old wr) wr [.slice (some ad) m ci] l) hx0'.out));obtain⟨ad',E6,ce6,e6,_,FZ⟩:=Za3 (HR.out.at 3 rfl:Y6 (Old wr) wr [.slice (some ad) m ci] l) hx0'.out;cases e6;have FZ':=Za (fun W (hW:Qai wr.heap.size wr W)=>(FZ W hW).1);replace hst:=Za hst;replace g0:=Za g0;replace g1:=Za g1;replace g2:=Za g2;clear FXr FZ hkm
    go_upto_region 14 with fail
    obtain⟨y0,y1,_⟩:=Zg g0.out;obtain⟨z0,z1,z2,_,_⟩:=FZ'.out wr (Qa _ _);have G4:wr.heap[w0.heap.size]? = _:=g1.out;have G5:wr.heap[w1.heap.size]? = _:=g2.out;obtain⟨q0,q1,q2,q3,_⟩:=Zj G5;have BW:=Za BR.out;obtain⟨W8,hW8,g8,gr8,gs8⟩:=Yo (a':=.int .u8 ((x0.1).1.toNat:Int)) (b':=.int .u32 (x0.1).2.1) (c':=.int .u32 (x0.1).2.2) G4;have G8:W8.heap[w1.heap.size]? = _:=(gr8.block w1.heap.size (Qe.1 G5).1 (by simp;have:=lo.out;omega)).trans G5;obtain⟨W9,hW9,g9,gr9,gs9⟩:=Yo (a':=.int .u8 ((t).1.toNat:Int)) (b':=.int .u32 (t).2.1) (c':=.int .u32 (t).2.2) G8;have g8':W9.heap[w0.heap.size]? = _:=(gr9.block w0.heap.size (Qe.1 g8).1 (by simp;have:=lo.out;omega)).trans g8;obtain⟨f4,f5,f6,f7,_⟩:=Zj G4;obtain⟨j4,j5,j6,j7,_⟩:=Zj G8;obtain⟨n0,n1,n2,_,_⟩:=Zj g8';obtain⟨o0,o1,o2,_,_⟩:=Zj g9;have hB9:=Za ((BW.out.grown gr8 BW.out.size (fun q e=>by cases e;have:=lo.out;omega)).grown gr9 (Qc BW.out.size gr8.size) (fun q e=>by cases e;have:=lo.out;omega));replace G4:=Za G4;replace G5:=Za G5;replace G8:=Za G8;replace g8:=Za g8;replace g8':=Za g8';replace g9:=Za g9;clear gr8 gr9 gs8 gs9
    go_region
    all_goals
     go_wp2_with fail
     refine Qad (v:=.tuple #[kyV x0.1,kyV t,.bool true]) (by simp[results,go_sem,n0,n1,n2,o0,o1,o2]) rfl ?_;exact Zap (x0.1) (t) true (hR.out.trans hf.out) (Z3 hB9.out _)
   obtain⟨x,hx⟩:∃ x,l[k]? = some x:=⟨_,Qf (by rw[hlm.out];exact hlt)⟩
   obtain⟨ad',E5,ce5,e5,_,_,_,FZ⟩:=Y4 (HR.out.at 3 rfl:Y6 (Old wr) wr [.slice (some ad) m ci] l) hx;cases e5;obtain⟨⟨z0,z1,z2,z3,z4⟩,_⟩:=FZ wr (Qa _ _);have hno1:=Za (fun h1=>hRC.out.trans (Zwt (g:=U7 s l1) hx h1));have hno2:=Za (fun p h1 h2=>hRC.out.trans (Zv2 (g:=U7 s l1) (p:=p) hx h1 h2));have hno3:=Za (fun h1 h2=>hRC.out.trans (Zvp (g:=U7 s l1) hx h1 hst h2));have hyes:=Za (fun p h1 h2 h3=>Zw6 (g:=U7 s l1) (p:=p) hx hst h1 h2 h3);have i4:(0:Int)<=(k:Int):=by omega
   have i5:(k:Int)<(m:Int):=by omega
   replace hst:=Za hst;replace hx:=Za hx;obtain⟨w3,hw3,hg3,hB3,-,hs3⟩:=Zsm (((HR.out.add (F:=Xu _ _ _) g2 (Yb _ _ _)).add (F:=Xu _ _ _) g1 (Yb _ _ _)).add (F:=Xu _ _ _) g0 (Yb _ _ _)) (Qa _ _) (.int .u8 (x.1.1.toNat:Int)) (.int .u32 x.1.2.1) (.int .u32 x.1.2.2) (.int .i64 x.2.1) (.slice E5 x.2.2.length ce5);have H3:=Za hg3;have B3:=Za (BR.out.trans (hB3.mono BR.out.size));have S3:=Za (Qc SZ.out hB3.size);replace hs3:=Za hs3;clear FZ hg3 hB3 g0 g1 g2 HR BR SZ
   go_upto_region 6 with fail
   clear hw3 z0 z1 z2 z3 z4;obtain⟨k0,k1,k2,k3,_⟩:=H3.out.at 5 rfl;obtain⟨r0,r1,r2,r3,r4,_⟩:=H3.out.at 0 rfl;have hNd:=Za (fun v W hW=>Zfu v s x.2.1 W hW);have hmy:=Za (fun hh=>(Yu (s:=s) (a:=x.2.1) hh).1);have hsn:=Za (fun hh=>hno1.out (Z4k (s:=s) (l:=l1) (a:=x.2.1) hh));have hsy:=Za (fun h1 h2=>Z0z (s:=s) (l:=l1) (a:=x.2.1) h1 h2);obtain⟨nb,hnb⟩:∃ q,rmV s x.2.1=q:=⟨_,rfl⟩
   obtain⟨eb,heb⟩:∃ q,rmE s x.2.1=q:=⟨_,rfl⟩
   rw[hnb,heb] at hNd hsn hsy;rw[hnb,heb] at hmy;obtain⟨lb,hlb⟩:∃ q,nb.1=q:=⟨_,rfl⟩
   obtain⟨mb,hmb⟩:∃ q,nb.2.length=q:=⟨_,rfl⟩
   rw[hlb,hmb] at hNd hsn;rw[hlb] at hsy;replace hnb:=Za hnb;replace heb:=Za heb;replace hlb:=Za hlb;replace hmb:=Za hmb
   go_wp2_with fail
   with_reducible refine(hNd.out _ _ (H3.out.at 8 rfl)).mono ?_
   rintro e w4 ⟨Z,zc,rfl,-,h4n,hb4⟩;obtain⟨w5,hw5,hg5,hB5,-,hs5⟩:=Xa ((H3.out.below hb4).add (F:=Zuk _ nb) h4n.drop (Vh _ _)) (Qa _ _) (.int .i64 lb) (.slice Z mb zc);have H5:=Za hg5;have B5:=Za (B3.out.trans ((hb4.trans (hB5.mono hb4.size)).mono B3.out.size));have S5:=Za (Qc S3.out (hb4.trans (hB5.mono hb4.size)).size);replace hs5:=Za hs5;clear k0 k1 k2 k3 r0 r1 r2 r3 r4 hg5 hB5 hb4 h4n H3 B3 S3 hNd
   go_upto_region 7 with fail
   clear hw5;obtain⟨y0,y1,_⟩:=H5.out.at 0 rfl;obtain⟨f0,f1,_⟩:=Zg (H5.out.at 3 rfl);by_cases he:eb=0
   case neg =>
    have e1:(eb != 0)=true:=by simpa using he
    have hf:=Za (hsn.out (fun hh=>he hh.1));clear he;have G4:w5.heap[w0.heap.size]? = _:=H5.out.at 4 rfl;have G5:w5.heap[w1.heap.size]? = _:=H5.out.at 5 rfl;have BW:=Za B5.out;obtain⟨W8,hW8,g8,gr8,gs8⟩:=Yo (a':=.int .u8 0) (b':=.int .u32 0) (c':=.int .u32 0) G4;have G8:W8.heap[w1.heap.size]? = _:=(gr8.block w1.heap.size (Qe.1 G5).1 (by simp;have:=lo.out;omega)).trans G5;obtain⟨W9,hW9,g9,gr9,gs9⟩:=Yo (a':=.int .u8 0) (b':=.int .u32 0) (c':=.int .u32 0) G8;have g8':W9.heap[w0.heap.size]? = _:=(gr9.block w0.heap.size (Qe.1 g8).1 (by simp;have:=lo.out;omega)).trans g8;obtain⟨f4,f5,f6,f7,_⟩:=Zj G4;obtain⟨j4,j5,j6,j7,_⟩:=Zj G8;obtain⟨n0,n1,n2,_,_⟩:=Zj g8';obtain⟨o0,o1,o2,_,_⟩:=Zj g9;have hB9:=Za ((BW.out.grown gr8 BW.out.size (fun q e=>by cases e;have:=lo.out;omega)).grown gr9 (Qc BW.out.size gr8.size) (fun q e=>by cases e;have:=lo.out;omega));replace G4:=Za G4;replace G5:=Za G5;replace G8:=Za G8;replace g8:=Za g8;replace g8':=Za g8';replace g9:=Za g9;clear gr8 gr9 gs8 gs9
    go_wp2_with fail
    refine Qad (v:=.tuple #[.agg #[.int .u8 0,.int .u32 0,.int .u32 0],.agg #[.int .u8 0,.int .u32 0,.int .u32 0],.bool false]) (by simp[results,go_sem,n0,n1,n2,o0,o1,o2]) rfl ?_;exact Zap (Zgt) (Zgt) false (hR.out.trans hf.out) hB9.out
   subst he;by_cases hv:lb=(l1:Int)
   case neg =>
    have e1:(lb != (l1:Int))=true:=by simpa using hv
    have hf:=Za (hsn.out (fun hh=>hv hh.2.1));clear hv;have G4:w5.heap[w0.heap.size]? = _:=H5.out.at 4 rfl;have G5:w5.heap[w1.heap.size]? = _:=H5.out.at 5 rfl;have BW:=Za B5.out;obtain⟨W8,hW8,g8,gr8,gs8⟩:=Yo (a':=.int .u8 0) (b':=.int .u32 0) (c':=.int .u32 0) G4;have G8:W8.heap[w1.heap.size]? = _:=(gr8.block w1.heap.size (Qe.1 G5).1 (by simp;have:=lo.out;omega)).trans G5;obtain⟨W9,hW9,g9,gr9,gs9⟩:=Yo (a':=.int .u8 0) (b':=.int .u32 0) (c':=.int .u32 0) G8;have g8':W9.heap[w0.heap.size]? = _:=(gr9.block w0.heap.size (Qe.1 g8).1 (by simp;have:=lo.out;omega)).trans g8;obtain⟨f4,f5,f6,f7,_⟩:=Zj G4;obtain⟨j4,j5,j6,j7,_⟩:=Zj G8;obtain⟨n0,n1,n2,_,_⟩:=Zj g8';obtain⟨o0,o1,o2,_,_⟩:=Zj g9;have hB9:=Za ((BW.out.grown gr8 BW.out.size (fun q e=>by cases e;have:=lo.out;omega)).grown gr9 (Qc BW.out.size gr8.size) (fun q e=>by cases e;have:=lo.out;omega));replace G4:=Za G4;replace G5:=Za G5;replace G8:=Za G8;replace g8:=Za g8;replace g8':=Za g8';replace g9:=Za g9;clear gr8 gr9 gs8 gs9
    go_wp2_with fail
    refine Qad (v:=.tuple #[.agg #[.int .u8 0,.int .u32 0,.int .u32 0],.agg #[.int .u8 0,.int .u32 0,.int .u32 0],.bool false]) (by simp[results,go_sem,n0,n1,n2,o0,o1,o2]) rfl ?_;exact Zap (Zgt) (Zgt) false (hR.out.trans hf.out) hB9.out
   have e1:(lb != (l1:Int))=false:=by simp[hv]
   replace hv:=Za hv;by_cases hz:mb=0
   ·have e2:((mb:Int)==0)=true:=by simp[hz]
    have hf:=Za (hsn.out (fun hh=>hh.2.2 hz));replace hz:=Za hz;have G4:w5.heap[w0.heap.size]? = _:=H5.out.at 4 rfl;have G5:w5.heap[w1.heap.size]? = _:=H5.out.at 5 rfl;have BW:=Za B5.out;obtain⟨W8,hW8,g8,gr8,gs8⟩:=Yo (a':=.int .u8 0) (b':=.int .u32 0) (c':=.int .u32 0) G4;have G8:W8.heap[w1.heap.size]? = _:=(gr8.block w1.heap.size (Qe.1 G5).1 (by simp;have:=lo.out;omega)).trans G5;obtain⟨W9,hW9,g9,gr9,gs9⟩:=Yo (a':=.int .u8 0) (b':=.int .u32 0) (c':=.int .u32 0) G8;have g8':W9.heap[w0.heap.size]? = _:=(gr9.block w0.heap.size (Qe.1 g8).1 (by simp;have:=lo.out;omega)).trans g8;obtain⟨f4,f5,f6,f7,_⟩:=Zj G4;obtain⟨j4,j5,j6,j7,_⟩:=Zj G8;obtain⟨n0,n1,n2,_,_⟩:=Zj g8';obtain⟨o0,o1,o2,_,_⟩:=Zj g9;have hB9:=Za ((BW.out.grown gr8 BW.out.size (fun q e=>by cases e;have:=lo.out;omega)).grown gr9 (Qc BW.out.size gr8.size) (fun q e=>by cases e;have:=lo.out;omega));replace G4:=Za G4;replace G5:=Za G5;replace G8:=Za G8;replace g8:=Za g8;replace g8':=Za g8';replace g9:=Za g9;clear gr8 gr9 gs8 gs9
    go_wp2_with fail
    refine Qad (v:=.tuple #[.agg #[.int .u8 0,.int .u32 0,.int .u32 0],.agg #[.int .u8 0,.int .u32 0,.int .u32 0],.bool false]) (by simp[results,go_sem,n0,n1,n2,o0,o1,o2]) rfl ?_;exact Zap (Zgt) (Zgt) false (hR.out.trans hf.out) hB9.out
   have e2:((mb:Int)==0)=false:=by simpa using hz
   replace hz:=Za hz;have hspan:=Za (hsy.out rfl hv.out);have hmb':=Za (hmy.out rfl);obtain⟨c3,c4⟩:=(H5.out.at 6 rfl:Z4n Be (Z5i Bs Be) w5)
   have hcall:=Za (hrec.out (.agg #[.int .i64 lb,.slice Z mb zc]) v0 v1 v2 v3 nb Bs Be w5 hmb'.out (by rw[hlb.out,hv.out]) (by rw[hmb.out];exact hz.out) (H5.out.at 1 rfl) (H5.out.at 10 rfl) (H5.out.at 7 rfl) (H5.out.at 6 rfl));clear hsn hsy hmy
   go_upto_region 9 with fail
   clear e1 e2 f0 f1
   go_wp2_with fail
   with_reducible refine hcall.out.mono ?_
   rintro e w6 ⟨f',t',ok,rfl,hsp,hb6⟩;obtain⟨w7,hw7,p0,p1,p2,hs7,hB7,_⟩:=Xf w6 (.int .u8 (f'.1.toNat:Int)) (.int .u32 f'.2.1) (.int .u32 f'.2.2) 37;have hg7:=((H5.out.below hb6).below hB7).add (F:=Z5e w6.heap.size _ _ _) ⟨p0,p1,p2,by omega⟩ (Zdd _ _ _ _);obtain⟨w8,hw8,hg8,hB8,hB8',hs8⟩:=V9 hg7 (Qa _ _) (.int .u8 (t'.1.toNat:Int)) (.int .u32 t'.2.1) (.int .u32 t'.2.2);have H8:=Za hg8;have hb8:=hb6.trans ((hB7.trans (hB8.mono hB7.size)).mono hb6.size);have B8:=Za (B5.out.trans (hb8.mono B5.out.size));have S8:=Za (Qc S5.out hb8.size);replace hs8:=Za hs8;clear p0 p1 p2 hg7 hg8 hB7 hB8 hB8' hb6 hb8 y0 y1 c3 c4 hcall H5 B5 S5
   go_upto_region 10 with fail
   clear hw7 hw8;obtain⟨p0,p1,p2,_⟩:=H8.out.at 1 rfl;obtain⟨q0,q1,q2,_⟩:=H8.out.at 0 rfl;rw[hs7] at q0 q1 q2;replace hs7:=Za hs7;obtain⟨r0,r1,r2,r3,r4,_⟩:=H8.out.at 4 rfl;have hg2:w8.heap[w1.heap.size]? = _:=H8.out.at 7 rfl;obtain⟨d0,d1,d2,d3,_⟩:=Zj hg2;have G4:w8.heap[w0.heap.size]? = _:=H8.out.at 6 rfl;have G5:w8.heap[w1.heap.size]? = _:=H8.out.at 7 rfl;have BW:=Za B8.out;replace hg2:=Za hg2;cases ok with
   | false =>
    have hf:=Za (hno1.out (hspan.out.trans hsp));clear d3 hno2 hno3 hyes;obtain⟨W8,hW8,g8,gr8,gs8⟩:=Yo (a':=.int .u8 0) (b':=.int .u32 0) (c':=.int .u32 0) G4;have G8:W8.heap[w1.heap.size]? = _:=(gr8.block w1.heap.size (Qe.1 G5).1 (by simp;have:=lo.out;omega)).trans G5;obtain⟨W9,hW9,g9,gr9,gs9⟩:=Yo (a':=.int .u8 0) (b':=.int .u32 0) (c':=.int .u32 0) G8;have g8':W9.heap[w0.heap.size]? = _:=(gr9.block w0.heap.size (Qe.1 g8).1 (by simp;have:=lo.out;omega)).trans g8;obtain⟨f4,f5,f6,f7,_⟩:=Zj G4;obtain⟨j4,j5,j6,j7,_⟩:=Zj G8;obtain⟨n0,n1,n2,_,_⟩:=Zj g8';obtain⟨o0,o1,o2,_,_⟩:=Zj g9;have hB9:=Za ((BW.out.grown gr8 BW.out.size (fun q e=>by cases e;have:=lo.out;omega)).grown gr9 (Qc BW.out.size gr8.size) (fun q e=>by cases e;have:=lo.out;omega));replace G4:=Za G4;replace G5:=Za G5;replace G8:=Za G8;replace g8:=Za g8;replace g8':=Za g8';replace g9:=Za g9;clear gr8 gr9 gs8 gs9
    go_wp2_with fail
    refine Qad (v:=.tuple #[.agg #[.int .u8 0,.int .u32 0,.int .u32 0],.agg #[.int .u8 0,.int .u32 0,.int .u32 0],.bool false]) (by simp[results,go_sem,n0,n1,n2,o0,o1,o2]) rfl ?_;exact Zap (Zgt) (Zgt) false (hR.out.trans hf.out) hB9.out
   | true =>
   have hsp':=Za (hspan.out.trans (hsp.trans (if_pos rfl)));have hke:=Zmr f' x.1;have hkg:=Zcv;unfold kyV at hke;by_cases hkk:f'=x.1
   case neg =>
    have g3:decide (f'=x.1)=false:=by simpa using hkk
    rw[g3] at hke;have hf:=Za (hno2.out _ hsp'.out hkk);clear d3 hkk hno1 hno2 hno3 hyes;obtain⟨W8,hW8,g8,gr8,gs8⟩:=Yo (a':=.int .u8 0) (b':=.int .u32 0) (c':=.int .u32 0) G4;have G8:W8.heap[w1.heap.size]? = _:=(gr8.block w1.heap.size (Qe.1 G5).1 (by simp;have:=lo.out;omega)).trans G5;obtain⟨W9,hW9,g9,gr9,gs9⟩:=Yo (a':=.int .u8 0) (b':=.int .u32 0) (c':=.int .u32 0) G8;have g8':W9.heap[w0.heap.size]? = _:=(gr9.block w0.heap.size (Qe.1 g8).1 (by simp;have:=lo.out;omega)).trans g8;obtain⟨f4,f5,f6,f7,_⟩:=Zj G4;obtain⟨j4,j5,j6,j7,_⟩:=Zj G8;obtain⟨n0,n1,n2,_,_⟩:=Zj g8';obtain⟨o0,o1,o2,_,_⟩:=Zj g9;have hB9:=Za ((BW.out.grown gr8 BW.out.size (fun q e=>by cases e;have:=lo.out;omega)).grown gr9 (Qc BW.out.size gr8.size) (fun q e=>by cases e;have:=lo.out;omega));replace G4:=Za G4;replace G5:=Za G5;replace G8:=Za G8;replace g8:=Za g8;replace g8':=Za g8';replace g9:=Za g9;clear gr8 gr9 gs8 gs9
    go_wp2_with fail
    refine Qad (v:=.tuple #[.agg #[.int .u8 0,.int .u32 0,.int .u32 0],.agg #[.int .u8 0,.int .u32 0,.int .u32 0],.bool false]) (by simp[results,go_sem,n0,n1,n2,o0,o1,o2]) rfl ?_;exact Zap (Zgt) (Zgt) false (hR.out.trans hf.out) hB9.out
   have g3:decide (f'=x.1)=true:=by simpa using hkk
   rw[g3] at hke;have hkk':=Za hkk;clear hkk hno1 hno2 hsp;by_cases hk0:k=0
   ·have i0:¬ (0:Int)<(k:Int):=by omega
    have hn:=Za (hyes.out (f',t') (fun hh=>absurd hk0 hh) hsp'.out hkk'.out);have hk0':=Za hk0;clear hk0;obtain⟨W9,hW9,g9,gr9,gs9⟩:=Yo (a':=.int .u8 (t'.1.toNat:Int)) (b':=.int .u32 t'.2.1) (c':=.int .u32 t'.2.2) hg2.out;have hB9:=Za (BW.out.grown gr9 BW.out.size (fun q e=>by cases e;have:=lo.out;omega));have S9:=Za (Qc S8.out gr9.size);have b9:=Za ((gr9.block w.heap.size (by have:=lo.out;have:=S8.out;omega) (by simp;have:=lo.out;omega)).trans (H8.out.at 5 rfl));have c9:=Za ((gr9.block w0.heap.size (by have:=lo.out;have:=S8.out;omega) (by simp;have:=lo.out;omega)).trans (H8.out.at 6 rfl));replace g9:=Za g9;clear gr9 gs9
    go_wp2_with fail
    go_roundw
    case rel=>exact⟨k+1,t',by omega,by go_num,hn.out,hB9.out,S9.out,b9.out,c9.out,g9.out⟩
    case measure=>simp[intOf];omega
   ·have i0:(0:Int)<(k:Int):=by omega
    obtain⟨q,hq⟩:∃ q,Zq t x.1=q:=⟨_,rfl⟩
    have hls:=Za (Zg8 t x.1 w8);rw[hq] at hls
    go_wp2_with fail
    with_reducible refine hls.out.mono ?_
    rintro e w9 ⟨rfl,hb9⟩;cases q with
    | false =>
     have hf:=Za (hno3.out hk0 hq);replace G4:=(hb9.block w0.heap.size (by have:=lo.out;have:=S8.out;omega)).trans G4;replace G5:=(hb9.block w1.heap.size (by have:=lo.out;have:=S8.out;omega)).trans G5;replace BW:=Za (B8.out.trans (hb9.mono B8.out.size));replace hq:=Za hq;clear d0 d1 d2 d3 hb9 hno3 hyes hk0;obtain⟨W8,hW8,g8,gr8,gs8⟩:=Yo (a':=.int .u8 0) (b':=.int .u32 0) (c':=.int .u32 0) G4;have G8:W8.heap[w1.heap.size]? = _:=(gr8.block w1.heap.size (Qe.1 G5).1 (by simp;have:=lo.out;omega)).trans G5;obtain⟨W9,hW9,g9,gr9,gs9⟩:=Yo (a':=.int .u8 0) (b':=.int .u32 0) (c':=.int .u32 0) G8;have g8':W9.heap[w0.heap.size]? = _:=(gr9.block w0.heap.size (Qe.1 g8).1 (by simp;have:=lo.out;omega)).trans g8;obtain⟨f4,f5,f6,f7,_⟩:=Zj G4;obtain⟨j4,j5,j6,j7,_⟩:=Zj G8;obtain⟨n0,n1,n2,_,_⟩:=Zj g8';obtain⟨o0,o1,o2,_,_⟩:=Zj g9;have hB9:=Za ((BW.out.grown gr8 BW.out.size (fun q e=>by cases e;have:=lo.out;omega)).grown gr9 (Qc BW.out.size gr8.size) (fun q e=>by cases e;have:=lo.out;omega));replace G4:=Za G4;replace G5:=Za G5;replace G8:=Za G8;replace g8:=Za g8;replace g8':=Za g8';replace g9:=Za g9;clear gr8 gr9 gs8 gs9
     go_wp2_with fail
     refine Qad (v:=.tuple #[.agg #[.int .u8 0,.int .u32 0,.int .u32 0],.agg #[.int .u8 0,.int .u32 0,.int .u32 0],.bool false]) (by simp[results,go_sem,n0,n1,n2,o0,o1,o2]) rfl ?_;exact Zap (Zgt) (Zgt) false (hR.out.trans hf.out) hB9.out
    | true =>
     have hn:=Za (hyes.out (f',t') (fun _=>hq) hsp'.out hkk'.out);replace H8:=Za (H8.out.below hb9);replace B8:=Za (B8.out.trans (hb9.mono B8.out.size));replace S8:=Za (Qc S8.out hb9.size);replace BW:=Za B8.out;replace hq:=Za hq;replace hg2:Hid (w9.heap[w1.heap.size]? = _):=Za (H8.out.at 7 rfl);clear hb9 p0 p1 p2 q0 q1 q2 r0 r1 r2 r3 r4 d0 d1 d2 d3 G4 G5 hno3 hyes hk0;obtain⟨q0,q1,q2,_⟩:=H8.out.at 0 rfl;rw[hs7.out] at q0 q1 q2;obtain⟨d0,d1,d2,d3,_⟩:=Zj hg2.out;obtain⟨W9,hW9,g9,gr9,gs9⟩:=Yo (a':=.int .u8 (t'.1.toNat:Int)) (b':=.int .u32 t'.2.1) (c':=.int .u32 t'.2.2) hg2.out;have hB9:=Za (BW.out.grown gr9 BW.out.size (fun q e=>by cases e;have:=lo.out;omega));have S9:=Za (Qc S8.out gr9.size);have b9:=Za ((gr9.block w.heap.size (by have:=lo.out;have:=S8.out;omega) (by simp;have:=lo.out;omega)).trans (H8.out.at 5 rfl));have c9:=Za ((gr9.block w0.heap.size (by have:=lo.out;have:=S8.out;omega) (by simp;have:=lo.out;omega)).trans (H8.out.at 6 rfl));replace g9:=Za g9;clear gr9 gs9
     go_wp2_with fail
     go_roundw
     case rel=>exact⟨k+1,t',by omega,by go_num,hn.out,hB9.out,S9.out,b9.out,c9.out,g9.out⟩
     case measure=>simp[intOf];omega}
theorem Z0p (s:Rm) (hm:Yp s=true):∀ l:Nat,Zwk s l:=by
 intro l
 induction l using P5 with
 | ind l ih=>exact Zw8 s hm l fun j hj=>ih j (by omega)
theorem Zvi {b:List UInt8}(h:b.length=128) (hr:reN b≠0):reN b=8:=by{
 by_cases ho:oe b=0
 ·cases h1:rdN (ob b) with
  | false=>exact(Zmc ho h1).1
  | true=>exact absurd (Zdb ho h1).1 hr
 ·have h8:oe b=8:=by
   unfold oe at ho ⊢;rw[if_pos h] at ho ⊢;split at ho
   ·exact absurd rfl ho
   ·rename_i hf
    rw[if_neg hf]
  rw[(Zk5 ho).1,h8]}
theorem Zut (w:P9) (v:Qaa) (t:Qac):∃ w1,w.alloc (.cells #[v] t)=w1/\w1.cell? ⟨w.heap.size,0,none⟩=some v/\w1.heap.size=w.heap.size+1/\Qai w.heap.size w w1 :=
 ⟨_,rfl,by simp,by simp,(Qa _ _).alloc (Qd _) _⟩
theorem Zj4 (v u:Qaa) (s:Rm) (hm:Yp s=true) (n:Nd) (hn:Xn n=true) (w:P9) (h:Sto (Old w) w v s) (hu:Nod (Old w) w u n) :
  Qag Tryz.prog 37 #[v,u] w fun e w'=>e=.returned (.bool (Zbi s n))/\Qai w.heap.size w w':=by{
 have hmf:∀ (fn:Fn) (first cap:Array Qaa) (w:P9),(Instr.makeFunc fn first cap).run Tryz.prog w=.ok (.func fn first cap) w:=fun _ _ _ _=>rfl
 have hsf:∀ (a:Qab) (fn:Fn) (x y:Array Qaa) (w:P9),(store a (.func fn x y)).run Tryz.prog w=stored Tryz.prog w a (.func fn x y) .plain:=fun _ _ _ _ _=>run_store _ _ _ _ _ rfl
 obtain⟨A,ca,B,cb,N,cn,L,cl,rfl,_⟩:=id h.open;obtain⟨I,ci,rfl,-,-,-,hI⟩:=id hu.open;obtain⟨lw,hlw⟩:∃ q,n.1=q:=⟨_,rfl⟩
 obtain⟨m,hlm⟩:∃ q,n.2.length=q:=⟨_,rfl⟩
 have hlv:0<=lw:=by rw[<- hlw];exact(Zs hn).1.1
 have hst:Zbi s n=(decide (m=0)||(Zb1 s n).isSome):=by rw[Zbi,hlm]
 have hu':=hu;rw[hlw,hlm] at hu';rw[hlw,hlm,hst];clear hI hst;have HG0:Bag w [Zuk (.agg #[.int .i64 lw,.slice I m ci]) n,Zbu (.agg #[.slice A s.1.1.length ca,.slice B s.1.2.length cb,.slice N s.2.1.length cn,.slice L s.2.2.length cl]) s]:=((Bag.nil w).add (F:=Zbu _ s) h (Yj _ _)).add (F:=Zuk _ n) hu' (Vh _ _);obtain⟨w0,hw0,hg0,hB0,_,hs0⟩:=Xd HG0 (Qa _ _) (.slice A s.1.1.length ca) (.slice B s.1.2.length cb) (.slice N s.2.1.length cn) (.slice L s.2.2.length cl) 29;obtain⟨w1,hw1,hg1,hB1,_,hs1⟩:=Xa hg0 (Qa _ _) (.int .i64 lw) (.slice I m ci);obtain⟨w2,hw2,q0,hs2,hB2⟩:=Zut w1 (Z5i w.heap.size w1.heap.size) 135;have HG:=Za ((hg1.below hB2).add (F:=Z4n w1.heap.size (Z5i w.heap.size w1.heap.size)) ⟨q0,by omega⟩ (Zkn _ _));have BB:=Za ((hB0.trans (hB1.mono hB0.size)).trans (hB2.mono (hB0.trans (hB1.mono hB0.size)).size));replace hs2:=Za hs2;replace hs1:=Za hs1;replace hs0:=Za hs0;replace hlw:=Za hlw;replace hlm:=Za hlm;clear HG0 hg1 hg0 h hu hu' hB2 hB1 hB0 q0
 go_enter Tryz.func37,Tryz.ntmps37
 go_upto_region 3 with fail
 clear hw0 hw1 hw2;obtain⟨q0,_⟩:=HG.out.at 0 rfl;obtain⟨y0,y1,_⟩:=HG.out.at 1 rfl;by_cases hm0:m=0
 ·have c0:((m:Int)==0)=true:=by simp[hm0]
  have hf:Hid ((decide (m=0)||(Zb1 s n).isSome)=true):=Za (by simp[hm0]);replace hm0:=Za hm0
  go_wp2_with fail
  go_ret;exact⟨Zk hf.out.symm,BB.out⟩
 have c0:((m:Int)==0)=false:=by simpa using hm0
 have hf:Hid ((decide (m=0)||(Zb1 s n).isSome)=(Zb1 s n).isSome):=Za (by simp[hm0]);have hcall:=Za (Z0p s hm lw.toNat (.agg #[.int .i64 lw,.slice I m ci]) _ _ _ _ n w.heap.size w1.heap.size w2 hn (by rw[hlw.out];omega) (by rw[hlm.out];exact hm0) (HG.out.at 3 rfl) (HG.out.at 4 rfl) (HG.out.at 2 rfl) (HG.out.at 0 rfl));replace hm0:=Za hm0
 go_wp2_with fail
 with_reducible refine hcall.out.mono ?_
 rintro e w3 ⟨f,t,ok,rfl,hsp,hb3⟩;have B3:=Za (BB.out.trans (hb3.mono BB.out.size));obtain⟨w4,hw4,p0,p1,p2,hs4,hB4,_⟩:=Xf w3 (.int .u8 (f.1.toNat:Int)) (.int .u32 f.2.1) (.int .u32 f.2.2) 37;obtain⟨w5,hw5,r0,r1,r2,hs5,hB5,_⟩:=Xf w4 (.int .u8 (t.1.toNat:Int)) (.int .u32 t.2.1) (.int .u32 t.2.2) 37;have B5:=Za (B3.out.trans ((hB4.trans (hB5.mono hB4.size)).mono B3.out.size));have hfin:Hid ((Zb1 s n).isSome=ok):=Za (by rw[hsp];cases ok <;> rfl);replace hsp:=Za hsp;replace hs5:=Za hs5;clear hB4 hB5 hb3 p0 p1 p2 r0 r1 r2
 go_upto_region 6 with fail
 clear hw4 hw5
 go_wp2_with fail
 go_ret;exact⟨Zk (by rw[hf.out,hfin.out]),B5.out⟩}
theorem Zmf (v:Qaa) (s:Rm) (a:Int) (w:P9) (h:Sto (Old w) w v s) :
  Qag Tryz.prog 18 #[v,.int .i64 a] w fun e w'=>e=.returned (.tuple #[.int .i64 (ckH s a),.int .i64 (ckE s a)])/\Qai w.heap.size w w':=by{
 obtain⟨A,ca,B,cb,N,cn,L,cl,rfl,_⟩:=id h.open;have hNd:=Za (fun v W hW=>Zfu v s a W hW)
 have hway:Hid ((rmE s a≠0/\ckE s a=rmE s a/\ckH s a=0)\/(rmE s a=0/\Yp s=true/\Xn (rmV s a)=true/\0<=(rmV s a).1/\(rmV s a).1<6/\Zbi s (rmV s a)=false/\ckE s a=8/\ckH s a=0) \/
   (rmE s a=0/\Yp s=true/\Xn (rmV s a)=true/\0<=(rmV s a).1/\(rmV s a).1<6/\Zbi s (rmV s a)=true/\ckE s a=0/\ckH s a=(rmV s a).1+1)):=Za (by
  by_cases ha:asE s a=0
  ·by_cases hr:rmE s a=0
   ·obtain⟨hmn,_⟩:=Yu hr
    have hst:=Zo6 hr;obtain⟨k,_,hm,_⟩:=Xb ha;have hsh:=(Zs hmn).1;cases ht:Vb s a with
    | false=>exact .inr (.inl ⟨hr,hm,hmn,hsh.1,hsh.2.1,hst.trans ht,(Zn0 ha ht).1,(Zn0 ha ht).2⟩)
    | true=>exact .inr (.inr ⟨hr,hm,hmn,hsh.1,hsh.2.1,hst.trans ht,(Zz0 ha ht).1,(Zz0 ha ht).2⟩)
   ·obtain⟨k,_,hm,_,h256,_,_,hE,_,_⟩:=Xb ha
    have h8:rmE s a=8:=by
     rw[hE] at hr ⊢;exact Zvi (Zzm (Zw hm).1 h256) hr
    obtain⟨h1,h2⟩:=Zn0 ha (Zyf hr);exact .inl ⟨hr,h1.trans h8.symm,h2⟩
  ·obtain⟨hE,_⟩:=Zrl ha
   obtain⟨h1,h2⟩:=Z3k ha
   exact .inl ⟨by rw[hE];exact ha,h1.trans hE.symm,h2⟩)
 obtain⟨nd,hnd⟩:∃ q,rmV s a=q:=⟨_,rfl⟩
 obtain⟨E0,hE0⟩:∃ q,rmE s a=q:=⟨_,rfl⟩
 obtain⟨cE,hcE⟩:∃ q,ckE s a=q:=⟨_,rfl⟩
 obtain⟨cH,hcH⟩:∃ q,ckH s a=q:=⟨_,rfl⟩
 rw[hnd,hE0] at hNd hway;rw[hcE,hcH] at hway ⊢;obtain⟨lw,hlw⟩:∃ q,nd.1=q:=⟨_,rfl⟩
 obtain⟨m,hlm⟩:∃ q,nd.2.length=q:=⟨_,rfl⟩
 rw[hlw,hlm] at hNd;rw[hlw] at hway;have HG0:Bag w [Zbu (.agg #[.slice A s.1.1.length ca,.slice B s.1.2.length cb,.slice N s.2.1.length cn,.slice L s.2.2.length cl]) s]:=(Bag.nil w).add (F:=Zbu _ s) h (Yj _ _);obtain⟨w0,hw0,hg0,hB0,_,hs0⟩:=Xd HG0 (Qa _ _) (.slice A s.1.1.length ca) (.slice B s.1.2.length cb) (.slice N s.2.1.length cn) (.slice L s.2.2.length cl) 29;have HG:=Za hg0;have BB:=Za hB0;obtain⟨s0,s1,s2,s3,_⟩:=HG.out.at 0 rfl;replace hs0:=Za hs0;replace hnd:=Za hnd;replace hE0:=Za hE0;replace hcE:=Za hcE;replace hcH:=Za hcH;replace hlw:=Za hlw;replace hlm:=Za hlm;clear HG0 hg0 h hB0
 go_enter Tryz.func18,Tryz.ntmps18
 go_upto_region 1 with fail
 clear hw0
 go_wp2_with fail
 with_reducible refine(hNd.out _ _ (HG.out.at 1 rfl)).mono ?_
 rintro e w3 ⟨Z,zc,rfl,-,h3n,hb3⟩;obtain⟨w4,hw4,hg4,hb4,-,hs4⟩:=Xa ((HG.out.below hb3).add (F:=Zuk _ nd) h3n.drop (Vh _ _)) (Qa _ _) (.int .i64 lw) (.slice Z m zc);replace HG:=Za hg4;replace BB:=Za (BB.out.trans ((hb3.trans (hb4.mono hb3.size)).mono BB.out.size));replace hs4:=Za hs4;clear hg4 hb4 hb3 h3n s0 s1 s2 s3 hNd
 go_upto_region 2 with fail
 clear hw4;rcases hway.out with ⟨he,h1,h2⟩ | ⟨he,hm,hmn,l0,l6,hst,h1,h2⟩ | ⟨he,hm,hmn,l0,l6,hst,h1,h2⟩
 ·have e1:(E0 != 0)=true:=by simpa using he
  replace h1:=Za h1;replace h2:=Za h2;clear he hway
  go_wp2_with fail
  go_ret2
  exact⟨by rw[h1.out,h2.out];rfl,BB.out⟩
 ·have hcall:=Za (Zj4 _ _ s hm nd hmn w4 (HG.out.at 3 rfl) (HG.out.at 1 rfl))
  rw[hst] at hcall;subst he;obtain⟨y0,y1,_⟩:=HG.out.at 0 rfl;obtain⟨s0,s1,s2,s3,_⟩:=HG.out.at 2 rfl;replace h1:=Za h1;replace h2:=Za h2;clear hway hst hm hmn l0 l6
  go_wp2_with fail
  with_reducible refine hcall.out.mono ?_
  rintro e w5 ⟨rfl,hb5⟩;have B5:=Za (BB.out.trans (hb5.mono BB.out.size));clear hb5
  go_wp2_with fail
  go_ret2
  exact⟨by rw[h1.out,h2.out];rfl,B5.out⟩
 ·have hcall:=Za (Zj4 _ _ s hm nd hmn w4 (HG.out.at 3 rfl) (HG.out.at 1 rfl))
  rw[hst] at hcall;subst he;obtain⟨y0,y1,_⟩:=HG.out.at 0 rfl;obtain⟨s0,s1,s2,s3,_⟩:=HG.out.at 2 rfl;have i9:IntKind.i64.wrap (lw+1)=lw+1:=Qn _ (by omega);replace h1:=Za h1;replace h2:=Za h2;clear hway hst hm hmn l0 l6
  go_wp2_with fail
  with_reducible refine hcall.out.mono ?_
  rintro e w5 ⟨rfl,hb5⟩;have B5:=Za (BB.out.trans (hb5.mono BB.out.size));have HG5:=HG.out.below hb5;clear hb5 y0 y1;obtain⟨y0,y1,_⟩:=HG5.at 0 rfl;clear HG5
  go_wp2_with fail
  go_ret2
  exact⟨by rw[h1.out,h2.out];rfl,B5.out⟩}
end Go.Proofs.YtgmbjnajdfgenaaGreat
namespace Go.Proofs.YtgmbjnajdfgenaaGreat
open Go.RowKit Go.Shelf
attribute [local go_sem] Oper.semAt_some
def svZ:Sv:=⟨(0,[]),0,false,none,0,0,0⟩
end Go.Proofs.YtgmbjnajdfgenaaGreat
namespace Go.Proofs.YtgmbjnajdfgenaaGreat
open Go.RowKit Go.Shelf
attribute [local go_sem] Oper.semAt_some
def Out (lo hi:Nat) (w:P9):Qab->Prop:=fun p=>(p.block<lo\/hi<=p.block)/\p.block<w.heap.size
def Zhm (w:P9) (q:Sv):Prop:=∃ w0:P9,w0.heap.size=q.hi/\Ya rIt 5 54 q.lo w0 q.A q.c q.nd.2/\∀ k,q.lo<=k->k<q.hi->w.heap[k]? = w0.heap[k]?
theorem Zhm.use {w:P9}{q:Sv}(h:Zhm w q) (hh:q.hi<=w.heap.size):Ya rIt 5 54 q.lo w q.A q.c q.nd.2:=by{
 obtain⟨w0,h0,⟨cs,h1,h2⟩,h3⟩:=h;refine⟨cs,⟨h1.1,?_⟩,fun i x hi=> ?_⟩
 ·rcases h1.2 with e | ⟨g,cap,cur,e,hb,hg,r⟩
  ·exact .inl e
  ·have hlt:=(Qe.1 hg).1
   exact .inr ⟨g,cap,cur,e,hb,(h3 g hb (by omega)).trans hg,r⟩
 ·obtain⟨vs,e1,e2,e3⟩:=h2 i x hi
  refine⟨vs,e1,e2,Yl _ _ _ _ _ _ (fun p v hp hc=> ?_) e3⟩;have hb:=h3 p.block hp.1.1 (by have:=hp.1.2.1;omega);exact⟨⟨⟨hp.1.1,by have:=hp.1.2.1;omega,(World.frozen?_of_block hb).trans hp.1.2.2⟩,hp.2⟩,(Pg hb).trans hc⟩}
theorem Zhm.same {w w':P9}{q:Sv}(h:Zhm w q) (e:∀ k,q.lo<=k->k<q.hi->w'.heap[k]? = w.heap[k]?):Zhm w' q:=by
 obtain⟨w0,h0,h1,h3⟩:=h;exact⟨w0,h0,h1,fun k h4 h5=>(e k h4 h5).trans (h3 k h4 h5)⟩
structure Rows (lo hi:Nat) (w:P9) (l:List Sv):Prop where
 ok:∀ q∈l,lo<=q.lo/\q.lo<=q.hi/\q.hi<=hi/\Zhm w q
 apart:l.Pairwise fun p q=>p.hi<=q.lo
theorem Zee {w:P9}{q:Sv}(h:Zhm w q):∀ g,q.A.map (·.block)=some g->q.lo<=g/\g<q.hi:=fun g e=>by
 obtain⟨w0,h0,⟨cs,ho,_⟩,_⟩:=h;have:=ho.lt g (by rw[<- e];cases q.A <;> rfl);exact⟨this.1,by omega⟩
def atW (s:Rm) (k:Ky) (a:Int):Nat->Int
 | 0=>a
 | j+1=>Zb3 (rmV s (atW s k a j)) k
theorem Zwc {n:Nd}{k:Ky}{y:It}(h:n.2[Xg n k]? = some y):Zb3 n k=y.2.1:=by
 unfold Zb3;rw[h];rfl
theorem Zct {s:Rm}{k:Ky}{a:Int}{l:Nat}(h:AtT s l a):∀ j,j<=l->AtT s (l-j) (atW s k a j)
 | 0,_=>h
 | j+1,hj=>by
  have h1:=Zct (k:=k) h j (by omega);obtain⟨d,hd⟩:∃ d,l-j=d+1:=⟨l-j-1,by omega⟩
  rw[hd] at h1;have hne:0<(rmV s (atW s k a j)).2.length:=(Zs h1.may).1.2.2.2 (by rw[h1.lvl];omega);obtain⟨y,hy⟩:∃ y,(rmV s (atW s k a j)).2[Xg (rmV s (atW s k a j)) k]? = some y:=⟨_,Qf (Zch k hne)⟩
  have h2:=h1.down (Q4 hy);show AtT s (l-(j+1)) (Zb3 (rmV s (atW s k a j)) k);rw[Zwc hy,show l-(j+1)=d by omega];exact h2
end Go.Proofs.YtgmbjnajdfgenaaGreat
namespace Go.Proofs.YtgmbjnajdfgenaaGreat
open Go.RowKit Go.Shelf Go.Maps
attribute [local go_sem] Oper.semAt_some
def Z5l (X:Act->P9->Prop):Exit->Act->P9->Prop
 | .normal,a,w=>X a w
 | _,_,_=>False
end Go.Proofs.YtgmbjnajdfgenaaGreat
namespace Go.Proofs.YtgmbjnajdfgenaaGreat
open Go.RowKit Go.Shelf
attribute [local go_sem] Oper.semAt_some
theorem Zvb {V V':P9}{q:Sv}{row:Option Nat}(h:Zhm V q) (hh:q.hi<=V.heap.size) (hg:V.grownBy V' row) (hr:∀ r,row=some r->V.heap.size<=r\/q.hi<=r):Zhm V' q :=
 h.same fun k h1 h2=>hg.block k (by omega) (fun e=>by rcases hr k e.symm with h | h <;> omega)
theorem Vl {W:P9}{g i:Nat}{cs:Array Qaa}{t:Qac}{v:Qaa}(h:W.heap[g]? = some (.cells cs t (0,0))) (hv:cs[i]? = some v):W.setCell ⟨g,i,none⟩ v=W:=by{
 have hh:(W.setCell ⟨g,i,none⟩ v).heap=W.heap:=by
  apply P7;intro k;by_cases e:k=g
  ·subst e
   rw[heap_setCell_same W k i _ _ v h,h]
   congr 2
   apply P7;intro j;obtain⟨hi,hv'⟩:=Qe.1 hv;by_cases ej:i=j
   ·subst ej
    simp[hi,hv']
   ·rw[Array.getElem?_setIfInBounds_ne ej]
  ·exact Pp W ⟨g,i,none⟩ v k e
 have:W.setCell ⟨g,i,none⟩ v={ W with heap:=(W.setCell ⟨g,i,none⟩ v).heap }:=rfl;rw[this,hh]}
def Z66 (x:Int):Ky:=(2,0,x)
def kx (n:Nat):It:=(Z66 n,0,[])
def Ls:Nat->List It
 | 0=>[]
 | n+1=>Ls n++[kx (n+1)]
def gS:Nat->Rm×Int
 | 0=>(mkV Z62 Zd6,8)
 | n+1=>((Z6t (gS n).1 (gS n).2 (kx (n+1))).2.1,(Z6t (gS n).1 (gS n).2 (kx (n+1))).2.2)
def gA (n:Nat):Nat:=if n % 2=0 then 8 else 9
attribute [irreducible] gS
def fdE (s:Rm) (a:Int) (k:Ky):Int:=if ckE s a=0 then (if (Zu2 s a k).isSome=true then 0 else 6) else ckE s a
def fdV (s:Rm) (a:Int) (k:Ky):It:=if ckE s a=0 then (Zu2 s a k).getD Zaw else Zaw
theorem Z1f {s:Rm}{a:Int}{k:Ky}(h:ckE s a≠0):fdE s a k=ckE s a/\fdV s a k=Zaw:=⟨by rw[fdE,if_neg h],by rw[fdV,if_neg h]⟩
theorem Zyj {s:Rm}{a:Int}{k:Ky}{x:It}(h:ckE s a=0) (hx:Zu2 s a k=some x):fdE s a k=0/\fdV s a k=x:=⟨by rw[fdE,if_pos h,hx];rfl,by rw[fdV,if_pos h,hx];rfl⟩
theorem Zuo {s:Rm}{a:Int}{k:Ky}(h:ckE s a=0) (hx:Zu2 s a k=none):fdE s a k=6/\fdV s a k=Zaw:=⟨by rw[fdE,if_pos h,hx];rfl,by rw[fdV,if_pos h,hx];rfl⟩
theorem Zr7 {s:Rm}{a:Int}(h:Vb s a=true):Yp s=true:=by
 obtain⟨k,_,hm,_⟩:=Xb (Zby h).2.1;exact hm
def Zja (s:Rm) (a:Int) (k:Ky):Int×Rm×Int :=
 if ckE s a≠0 then (ckE s a,Zn,0) else if (Zu2 s a k).isSome=true then Zje s a k else (6,Zn,0)
theorem Zu1 {s:Rm}{a:Int}{k:Ky}(h:ckE s a=0){x:It}(hx:Zu2 s a k=some x):Zja s a k=Zje s a k:=by
 unfold Zja;rw[if_neg (fun e=>e h),hx];rfl
theorem Zze (k:Ky) (L:List It) (y:It):Zhx k (L++[y])=Zhx k L++if y.1=k then [] else [y]:=by
 unfold Zhx;rw[List.filter_append]
 congr 1
 by_cases e:y.1=k <;> simp[e]
def Z37 (g:Int×Rm×List It×Int) (w:P9) (e:Qah) (w':P9):Prop:=∃ (qa qb qc qd:Option Qab×Nat×Nat) (P:Option Qab) (pc:Nat),
 e=.returned (.tuple #[.agg #[.slice qa.1 qa.2.1 qa.2.2,.slice qb.1 qb.2.1 qb.2.2,.slice qc.1 qc.2.1 qc.2.2,.slice qd.1 qd.2.1 qd.2.2],.slice P g.2.2.1.length pc,.int .i64 g.2.2.2,.int .i64 g.1]) /\
 Sto (Old w') w' (.agg #[.slice qa.1 qa.2.1 qa.2.2,.slice qb.1 qb.2.1 qb.2.2,.slice qc.1 qc.2.1 qc.2.2,.slice qd.1 qd.2.1 qd.2.2]) g.2.1/\Y6 (Old w') w' [.slice P g.2.2.1.length pc] g.2.2.1/\Qai w.heap.size w w'
def Z2c (s:Rm) (k:Ky) (l:Nat):Prop:=∀ (v:Qaa) (a:Int) (tb:Ky) (e:Bool) (w:P9),l<6->Zwo s l a tb e->Sto (Old w) w v s ->
  Qag Tryz.prog 61 #[v,.int .i64 a,kyV k] w (Z37 (Zt k l s a) w)
theorem Zsb (s:Rm) (kk:Ky) (hm:Yp s=true) (l0:Nat) (hr0:∀ j,l0=j+1->Z2c s kk j):Z2c s kk l0:=by{
 intro v a tb e0 w h6 hat h;obtain⟨qa,qb,qc,qd,rfl⟩:=Vs h;have hRd:=Za (fun v a W hW=>V7 v s a hm W hW);have hok:(rmE s a==0)=true:=by rw[hat.ok];rfl
 have hmn:=Za (Yu hat.ok).1;have hlv:=hat.lv;have hfu:=Za (Va hm:U1 s);have hR0:=Za (fun(h0:l0=0)=>(by subst h0;rfl:Zt kk l0 s a=(0,s,Zhx kk (rmV s a).2,0)));obtain⟨G,hG⟩:∃ G,Zt kk l0 s a=G:=⟨_,rfl⟩
 rw[hG] at hR0 ⊢;obtain⟨QQ,hQQ⟩:∃ QQ,Z37 G w=QQ:=⟨_,rfl⟩
 rw[hQQ];obtain⟨nd,hnd⟩:∃ q,rmV s a=q:=⟨_,rfl⟩
 have hRa:=Za (hRd.out · a);rw[hok,hnd] at hRa;rw[hnd] at hmn hlv hR0;obtain⟨lw,hlw⟩:∃ q,nd.1=q:=⟨_,rfl⟩
 obtain⟨l,hl⟩:∃ q,nd.2=q:=⟨_,rfl⟩
 obtain⟨m,hlm⟩:∃ q,l.length=q:=⟨_,rfl⟩
 rw[hlw,hl,hlm] at hRa;rw[hl] at hR0;rw[hlw] at hlv;have hm5:m<=5:=by
  have:=(Zs hmn.out).1.2.2.1;rw[hl,hlm] at this;exact this
 have HG0:Bag w [Zbu (.agg #[.slice qa.1 qa.2.1 qa.2.2,.slice qb.1 qb.2.1 qb.2.2,.slice qc.1 qc.2.1 qc.2.2,.slice qd.1 qd.2.1 qd.2.2]) s]:=(Bag.nil w).add (F:=Zbu _ s) h (Yj _ _);obtain⟨w0,hw0,hg0,hB0,_,hs0⟩:=Xd HG0 (Qa _ _) (.slice qa.1 qa.2.1 qa.2.2) (.slice qb.1 qb.2.1 qb.2.2) (.slice qc.1 qc.2.1 qc.2.2) (.slice qd.1 qd.2.1 qd.2.2) 29;obtain⟨w1,hw1,hg1,hB1,_,hs1⟩:=V9 hg0 (Qa _ _) (.int .u8 (kk.1.toNat:Int)) (.int .u32 kk.2.1) (.int .u32 kk.2.2);obtain⟨w2,hw2,b2,hs2,hB2⟩:=Vm w1 (.slice none 0 0) (.slice none 0 0) (.slice none 0 0) (.slice none 0 0) 29;have HG:=Za ((hg1.below hB2).add (F:=Xu w1.heap.size _ _) b2 (Yb _ _ _));have BB:=Za ((hB0.trans (hB1.mono hB0.size)).trans (hB2.mono (hB0.trans (hB1.mono hB0.size)).size));have lo1:Hid (w.heap.size<=w1.heap.size/\w1.heap.size<w2.heap.size):=Za ⟨(hB0.trans (hB1.mono hB0.size)).size,by omega⟩;have k2:Hid (Sto (Old w2) w2 (.agg #[.slice qa.1 qa.2.1 qa.2.2,.slice qb.1 qb.2.1 qb.2.2,.slice qc.1 qc.2.1 qc.2.2,.slice qd.1 qd.2.1 qd.2.2]) s):=Za (HG.out.at 3 rfl);obtain⟨s0,s1,s2,s3,_⟩:=HG.out.at 2 rfl;replace hs2:=Za hs2;replace hs1:=Za hs1;replace hs0:=Za hs0;replace hG:=Za hG;replace hQQ:=Za hQQ;replace hnd:=Za hnd;replace hlw:=Za hlw;replace hl:=Za hl;replace hlm:=Za hlm;replace hlv:=Za hlv;replace hat:=Za hat;clear HG0 hg1 hg0 h hB2 hB1 hB0 b2 hok;unfold kyV
 go_enter Tryz.func61,Tryz.ntmps61
 go_upto_region 1 with fail
 clear hw0 hw1 hw2
 go_wp2_with fail
 with_reducible refine(hRa.out _ _ k2.out).mono ?_
 rintro e w3 ⟨Z,zc,rfl,h3s,-,hb3⟩;obtain⟨w4,hw4,hg4,hb4,-,hs4⟩:=Xa ((HG.out.below hb3).add (F:=Zb8 _ l) h3s (Yz _ _)) (Qa _ _) (.int .i64 lw) (.slice Z m zc);replace HG:=Za hg4;replace BB:=Za (BB.out.trans ((hb3.trans (hb4.mono hb3.size)).mono BB.out.size));have lo4:Hid (w2.heap.size<=w3.heap.size/\w3.heap.size<=w4.heap.size):=Za ⟨hb3.size,hb4.size⟩;replace hs4:=Za hs4;clear hg4 hb4 hb3 h3s k2 s0 s1 s2 s3 hRa
 go_upto_region 2 with fail
 clear hw4;obtain⟨y0,y1,_⟩:=HG.out.at 0 rfl;cases l0 with
 | zero =>
  have e0:lw=0:=hlv.out;subst e0;obtain rfl:G=_:=hR0.out rfl;clear hR0 hlv hRd;have c1:((0:Int)==0)=true:=rfl
  go_wp2_with fail
  clear y0 y1 c1
  go_loopw [12,13] (fun vo vi wr=>∃ (j:Nat) (A:Option Qab) (n c:Nat),j<=m/\vi=.int .i64 (j:Int)/\vo=.slice A n c/\Zb6 w4.heap.size wr A n c (Zhx kk (l.take j))/\Qai w4.heap.size w4 wr) (fun _ vi _=>m-(intOf vi).toNat)
  case atStart=>exact⟨0,none,0,0,by omega,rfl,rfl,Zb6.nil _ _ (Qd _),Qa _ _⟩
  case round =>
   obtain⟨j,A,n,c,hj,rfl,rfl,hST,hbr⟩:=hrel;have HR:=Za (HG.out.below hbr);have BR:=Za hbr;have ST:=Za hST;have hn5:n<=j:=by
    rw[<- hST.len];exact Qc (Pj _ _) (by rw[Qt];omega)
   clear hbr hST;obtain⟨y0,y1,_⟩:=HR.out.at 0 rfl;by_cases hjm:j<m
   case neg =>
    have i5:¬ ((j:Int)<(m:Int)):=by omega
    obtain⟨k0,k1,k2,k3,_⟩:=HR.out.at 4 rfl;have F5:wr.heap[w1.heap.size]? = _:=HR.out.at 2 rfl;obtain⟨u0,u1,u2,u3,u4,_⟩:=Ze F5;obtain⟨W9,hW9,g9,gr9,gs9⟩:=Zo (a':=.slice qa.1 qa.2.1 qa.2.2) (b':=.slice qb.1 qb.2.1 qb.2.2) (c':=.slice qc.1 qc.2.1 qc.2.2) (d':=.slice qd.1 qd.2.1 qd.2.2) F5;obtain⟨n0,n1,n2,n3,_,_⟩:=Ze g9;have htk:l.take j=l:=Qv (by rw[hlm.out];omega);rw[htk] at ST;have hlen:=ST.out.len
    have hfin:=Za (show Z37 (0,s,Zhx kk l,0) w (.returned (.tuple #[.agg #[.slice qa.1 qa.2.1 qa.2.2,.slice qb.1 qb.2.1 qb.2.2,.slice qc.1 qc.2.1 qc.2.2,.slice qd.1 qd.2.1 qd.2.2],.slice A n c,.int .i64 0,.int .i64 0])) W9 by
     refine⟨qa,qb,qc,qd,A,c,by rw[<- hlen],Z9 (HR.out.at 5 rfl) hfu.out F5 (by simp) gr9,?_,(BB.out.trans (BR.out.mono BB.out.size)).grown gr9 (BB.out.trans (BR.out.mono BB.out.size)).size (fun q e=>by cases e;exact lo1.out.1)⟩;show Y6 (Old W9) W9 [.slice A (Zhx kk l).length c] (Zhx kk l);rw[hlen]
     exact Zam ST.out.its (by simp) F5 gr9)
    replace F5:=Za F5;replace g9:=Za g9;clear gr9 gs9
    go_wp2_with fail
    refine Qad (v:=.tuple #[.agg #[.slice qa.1 qa.2.1 qa.2.2,.slice qb.1 qb.2.1 qb.2.2,.slice qc.1 qc.2.1 qc.2.2,.slice qd.1 qd.2.1 qd.2.2],.slice A n c,.int .i64 0,.int .i64 0]) (by simp[results,Tryz.results61,go_sem,n0,n1,n2,n3]) rfl ?_;rw[<- hQQ.out];exact hfin.out
   obtain⟨z,hz⟩:∃ z,l[j]? = some z:=⟨_,Qf (by rw[hlm.out];exact hjm)⟩
   obtain⟨ad,E5,ce5,rfl,hin5,FZ0⟩:=Zo3 (HG.out.at 1 rfl:Y6 (Old w4) w4 [.slice Z m zc] l) hz;have FZ:=Za FZ0;have hsnoc:=Za (Zze kk (l.take j) z);have htk:Hid (l.take (j+1)=l.take j++[z]):=Za (by rw[List.take_add_one,hz];rfl);rw[<- htk.out] at hsnoc;obtain⟨M,hM⟩:∃ q,Zhx kk (l.take j)=q:=⟨_,rfl⟩
   rw[hM] at ST hsnoc;replace hM:=Za hM;have i4:(0:Int)<=(j:Int):=by omega
   have i5:(j:Int)<(m:Int):=by omega
   have hin5':=Za hin5;replace hz:=Za hz;clear FZ0 hin5;have hke:=Zmr z.1 kk;have hkg:=Zcv;unfold kyV at hke;obtain⟨b3,hb3⟩:∃ b,decide (z.1=kk)=b:=⟨_,rfl⟩
   rw[hb3] at hke;replace hb3:=Za hb3
   go_upto_region 7 with fail
   go_cut [50] from 43 to 50 (fun xc wx=>xc=.bool (!b3)/\Qai wr.heap.size wr wx)
   case first =>
    clear y0 y1;refine wp_region_fx (by kernel_rfl) (fun W=>Qai wr.heap.size wr W) (fun _=>none) (fun _=>none) (by kernel_rfl) (Qa _ _).drew (fun w w' h hb=>h.trans (hb.mono h.size)) (fun j φ x W W' hp=>by cases hp) ?_
    repeat (first
     | (refine wpAs_skip rfl ?_;simp only[Qb,Zb,Zc,Zd])
     | (refine wpAs_pure (v := ?_) rfl rfl ?_ ?_;rotate_left;(intro W hC hE;clear hE;(obtain⟨⟨z0,z1,z2,z3,z4⟩,_⟩:=FZ.out W (BR.out.trans (hC.mono BR.out.size));obtain⟨t0,t1,t2,tg⟩:=(HR.out.below hC).at 3 rfl;obtain⟨y0,y1,_⟩:=(HR.out.below hC).at 0 rfl);clear hC;go_simp;first | done | with_reducible rfl);simp only[Qb,Zb,Zc,Zd]))
    refine wpAs_end fun W hC hE=> ?_
    have hC':=Za hC;clear hE hC
    go_wp2_with fail
    go_meet;exact⟨rfl,hC'.out⟩
   case rest =>
   obtain⟨rfl,hbZ⟩:=hcut;obtain⟨wZ,rfl⟩:∃ wZ:P9,wZ=wc:=⟨_,rfl⟩
   have BZ:=Za (BR.out.trans (hbZ.mono BR.out.size));have SZ:=Za (ST.out.below hbZ);have HZ:=Za (HR.out.below hbZ);clear hbZ ST hke hkg y0 y1;obtain⟨b4,hb4⟩:∃ q,(!b3)=q:=⟨_,rfl⟩
   rw[hb4];obtain⟨y0,y1,_⟩:=HZ.out.at 0 rfl
   go_upto_if 50 with fail
   cases b4 with
   | false =>
    have hpv:Hid (z.1=kk):=Za (of_decide_eq_true (by rw[hb3.out];revert hb4;cases b3 <;> simp));replace hb4:=Za hb4;rw[if_pos hpv.out,Pm] at hsnoc
    go_wp2_with fail
    go_roundw
    case rel=>exact⟨j+1,A,n,c,by omega,by go_num,rfl,by rw[hsnoc.out];exact SZ.out,BZ.out⟩
    case measure=>simp[intOf];omega
   | true =>
    have hpv:Hid (¬ z.1=kk):=Za (of_decide_eq_false (by rw[hb3.out];revert hb4;cases b3 <;> simp));replace hb4:=Za hb4;rw[if_neg hpv.out] at hsnoc;obtain⟨wA,hwA,-,-,-,-,-,hsA,hBA,gA⟩:=Z6 wZ (.int .u8 (z.1.1.toNat:Int)) (.int .u32 z.1.2.1) (.int .u32 z.1.2.2) (.int .i64 z.2.1) (.slice E5 z.2.2.length ce5) 54;obtain⟨⟨z0,z1,z2,z3,z4⟩,_⟩:=FZ.out wZ BZ.out;obtain⟨A',c',w',hrun,hst,hb⟩:=(SZ.out.below hBA).push wZ.heap.size z (.slice E5 z.2.2.length ce5) 1 gA (by omega) hin5'.out (FZ.out wA (BZ.out.trans (hBA.mono BZ.out.size))).2;have HR':=Za hrun;have HS:=Za hst;have HB:=Za ((BZ.out.trans (hBA.mono BZ.out.size)).trans hb);replace hsA:=Za hsA;clear hrun hst hb hBA gA
    go_wp2_with (at_builtin;refine Yw rfl _ _ _ _ rfl rfl rfl HR'.out ?_;clear HR' hwA)
    go_roundw
    case rel=>exact⟨j+1,A',n+1,c',by omega,by go_num,rfl,by rw[hsnoc.out];exact HS.out,HB.out⟩
    case measure=>simp[intOf];omega
 | succ l1 =>
  have hrec:=Za (hr0 l1 rfl);clear hR0 hr0;have hne0:0<m:=by
   have:=(Zs hmn.out).1.2.2.2 (by rw[hlw.out,hlv.out];omega);rw[hl.out,hlm.out] at this;exact this
  obtain⟨p,hpw⟩:∃ q,Xg nd kk=q:=⟨_,rfl⟩
  have hpm:p<m:=by
   rw[<- hpw,<- hlm.out,<- hl.out];exact Zch kk (by rw[hl.out,hlm.out];exact hne0)
  have hWy:=Za (fun W (hW:Qai w4.heap.size w4 W)=>by
   have:=Zm2 (.agg #[.int .i64 lw,.slice Z m zc]) nd kk hmn.out W (by
    have h2:Y6 (Old W) W [.slice Z m zc] l:=(HG.out.below hW).at 1 rfl;rw[<- hlw.out]
    exact⟨_,rfl,(Zs hmn.out).1.1 |> fun _=>by rw[hlw.out,hlv.out];exact⟨by omega,by omega⟩,by rw[hl.out];exact h2⟩)
   rw[hpw] at this
   exact this)
  have hinn:Zb9 (Yn s l1) l tb e0=true:=by
   have:=hat.out.inn;rw[hnd.out,hl.out] at this;exact this
  obtain⟨cp,hcp⟩:∃ c,l[p]? = some c:=⟨_,Qf (by rw[hlm.out];exact hpm)⟩
  obtain⟨htc,hbc,-⟩:=Zc6 hinn hcp;obtain⟨g1,hg1⟩:∃ g,Zt kk l1 s cp.2.1=g:=⟨_,rfl⟩
  have hrf:Zb3 nd kk=cp.2.1:=by
   unfold Zb3;rw[hpw,hl.out,hcp];rfl
  have hCl:=Za (fun v W hW=>hrec.out v cp.2.1 _ _ W (by omega) htc hW);rw[hg1] at hCl;obtain⟨er1,T1,L1,held1⟩:=g1;unfold Z37 at hCl
  dsimp only at hCl
  unfold kyV at hWy hCl;have c0:(lw==0)=false:=by rw[hlv.out];simp;omega
  have i4:(0:Int)<=(p:Int):=by omega
  have i5:(p:Int)<(m:Int):=by omega
  have hz5:=Zo3 (HG.out.at 1 rfl:Y6 (Old w4) w4 [.slice Z m zc] l) hcp;obtain⟨ad,E5,ce5,rfl,-,FZ0⟩:=hz5;have FZ:=Za FZ0
  have hfT:Hid (U1 T1):=Za (by
   by_cases he:er1=0
   ·subst he
    exact Va (X8 (by omega) (Zdj htc) hg1).keep.may
   ·have:=Zju hg1 he
    rw[this.1]
    exact Vg)
  replace hinn:=Za hinn;replace hcp:=Za hcp;replace htc:=Za htc;replace hbc:=Za hbc;replace hg1:=Za hg1;replace hrf:=Za hrf;replace hpw:=Za hpw;replace hne0:=Za hne0;clear FZ0 hrec;obtain⟨t0,t1,t2,tg⟩:=HG.out.at 3 rfl
  go_wp2_with fail
  with_reducible refine(hWy.out _ (Qa _ _)).mono ?_
  rintro e w5 ⟨rfl,hb5⟩;have B5:=Za hb5;clear hb5 y0 y1 hWy t0 t1 t2 tg
  go_upto_region 11 with fail
  refine Xh (ops' := ?opsLate) (by kernel_rfl) [(15,11),(15,12),(15,13),(16,12),(16,13),(17,13)] ?he (by kernel_rfl) (fun d _ _ _ _ h=>by cases d <;> exact h) 15 (fun W=>Qai w5.heap.size w5 W) (fun i=>match i with
   | 8=>some (fun v W=>∃ t P pc,v=.tuple #[t,.slice P L1.length pc,.int .i64 held1,.int .i64 er1]/\Sto (Old W) W t T1/\Y6 (Old W) W [.slice P L1.length pc] L1)
   | 9=>some (fun v W=>∃ t P pc,v=.tuple #[t,.slice P L1.length pc,.int .i64 held1,.int .i64 er1]/\Sto (Old W) W t T1/\Y6 (Old W) W [.slice P L1.length pc] L1)
   | 10=>some (fun v W=>Sto (Old W) W v T1)
   | 11=>some (fun v W=>∃ P pc,v=.slice P L1.length pc/\Y6 (Old W) W [.slice P L1.length pc] L1)
   | 14=>some (fun v W=>∃ g,v=.pointer (some ⟨g,0,none⟩)/\w5.heap.size<=g/\W.heap[g]? = some (.cells #[.slice none 0 0,.slice none 0 0,.slice none 0 0,.slice none 0 0] 29 (0,0)))
   | _=>none) (fun i=>match i with
   | 12=>some (.int .i64 held1)
   | 13=>some (.int .i64 er1)
   | _=>none) ?h1 ?h2 ?h3 (Qa _ _).drew (fun w w' h hb=>h.trans (hb.mono h.size)) ?tst ?_
  case he =>
   simp[Yg];rfl
  case h1=>decide
  case h2=>kernel_rfl
  case h3=>kernel_rfl
  case tst =>
   intro j φ x W W' hp hx hb
   match j,hp with
   | 8,hp=>cases hp;obtain⟨t,P,pc,e,h1,h2⟩:=hx;exact⟨t,P,pc,e,h1.below hb,Z5.old h2 hb⟩
   | 9,hp=>cases hp;obtain⟨t,P,pc,e,h1,h2⟩:=hx;exact⟨t,P,pc,e,h1.below hb,Z5.old h2 hb⟩
   | 10,hp=>cases hp;exact Sto.below hx hb
   | 11,hp=>cases hp;obtain⟨P,pc,e,h2⟩:=hx;exact⟨P,pc,e,Z5.old h2 hb⟩
   | 14,hp=>cases hp;obtain⟨g,e,h1,h2⟩:=hx;exact⟨g,e,h1,(hb.block g (Qe.1 h2).1).trans h2⟩
  simp only[Qi,Qj,Qk,Ql]
  repeat (first
   | (refine wpAs_skip rfl ?_;simp only[Qb,Zb,Zc,Zd])
   | (refine wpAs_pure (v := ?_) rfl rfl ?_ ?_;rotate_left;(intro W hC hE;clear hE;(obtain⟨⟨z0,z1,z2,z3,z4⟩,_⟩:=FZ.out W (B5.out.trans (hC.mono B5.out.size));have HW:=HG.out.below (B5.out.trans (hC.mono B5.out.size));obtain⟨t0,t1,t2,tg⟩:=HW.at 3 rfl;obtain⟨k0,k1,k2,k3,_⟩:=HW.at 4 rfl;obtain⟨y0,y1,_⟩:=HW.at 0 rfl);clear hC;go_simp;first | done | with_reducible rfl);simp only[Qb,Zb,Zc,Zd]))
  refine wpAs_act rfl rfl ?_ ?_
  ·intro W hC hE
   clear hE;refine does_enter (f:=61) (args:=#[.agg #[.slice qa.1 qa.2.1 qa.2.2,.slice qb.1 qb.2.1 qb.2.2,.slice qc.1 qc.2.1 qc.2.2,.slice qd.1 qd.2.1 qd.2.2],.int .i64 cp.2.1,.agg #[.int .u8 (kk.1.toNat:Int),.int .u32 kk.2.1,.int .u32 kk.2.2]]) ?_ ?_
   ·go_simp
   ·refine(hCl.out _ W ((HG.out.below (B5.out.trans (hC.mono B5.out.size))).at 5 rfl)).mono ?_
    rintro e W' ⟨ra,rb,rc,rd,P,pc,rfl,hs,hi,hb⟩;exact⟨_,rfl,⟨_,P,pc,rfl,hs,hi⟩,hb⟩
  simp only[Qb,Zb,Zc,Zd,envAdd];intro x8;refine wpAs_act rfl rfl ?_ ?_
  ·intro W hC hE
   have h7:=Za (hE.1 rfl);clear hE hC
   go_simp
   exact⟨h7.out,Qa _ _⟩
  simp only[Qb,Zb,Zc,Zd,envAdd];intro x9;refine wpAs_act rfl rfl ?_ ?_
  ·intro W hC hE
   obtain⟨t,P,pc,rfl,hs,-⟩:=hE.1 rfl;have hs':=Za hs;clear hE hC hs
   go_simp
   exact⟨hs'.out,Qa _ _⟩
  simp only[Qb,Zb,Zc,Zd,envAdd];intro x10;refine wpAs_act rfl rfl ?_ ?_
  ·intro W hC hE
   obtain⟨t,P,pc,rfl,-,hi⟩:=hE.2.1 rfl;have hi':=Za hi;clear hE hC hi
   go_simp
   exact⟨⟨P,pc,rfl,hi'.out⟩,Qa _ _⟩
  simp only[Qb,Zb,Zc,Zd,envAdd];intro x11;refine wpAs_fixed rfl rfl rfl ?_ ?_
  ·intro W hC hE
   obtain⟨t,P,pc,rfl,-,-⟩:=hE.2.2.1 rfl;clear hE hC
   go_simp
   exact⟨rfl,Qa _ _⟩
  simp only[Qb,Zb,Zc,Zd];refine wpAs_fixed rfl rfl rfl ?_ ?_
  ·intro W hC hE
   obtain⟨t,P,pc,rfl,-,-⟩:=hE.2.2.1 rfl;clear hE hC
   go_simp
   exact⟨rfl,Qa _ _⟩
  simp only[Qb,Zb,Zc,Zd];refine wpAs_act rfl rfl ?_ ?_
  ·intro W hC hE
   have hs:=hC.size;clear hE hC
   go_simp
   exact⟨⟨W.heap.size,rfl,hs,Qae _ _⟩,(Qa _ _).alloc (Qd _) _⟩
  simp only[Qb,Zb,Zc,Zd,envAdd];intro x14;refine wpAs_end fun W hC hE=> ?_
  obtain⟨⟨g,rfl,hg,hz⟩,⟨P,pc,rfl,hI⟩,hSt,_⟩:=hE;replace hSt:Sto (Old W) W x10 T1:=hSt;obtain⟨ra,rb,rc,rd,rfl⟩:=Vs hSt;obtain⟨u0,u1,u2,u3,uf,_⟩:=Ze hz;obtain⟨w6,hW6,g6,gr6,gs6⟩:=Zo (a':=.slice ra.1 ra.2.1 ra.2.2) (b':=.slice rb.1 rb.2.1 rb.2.2) (c':=.slice rc.1 rc.2.1 rc.2.2) (d':=.slice rd.1 rd.2.1 rd.2.2) hz;have B6:=Za ((B5.out.trans (hC.mono B5.out.size)).grown gr6 (Qc B5.out.size hC.size) (fun q e=>by cases e;exact Qc B5.out.size hg));have S6:=Za (Z9 hSt hfT.out hz (by simp) gr6);have I6:=Za (Zam hI (by simp) hz gr6);have hgl:=Za (show w4.heap.size<=g/\g<w6.heap.size from ⟨Qc B5.out.size hg,by rw[gs6];exact(Qe.1 hz).1⟩);have G6:=Za g6;replace hz:=Za hz;clear hC hSt gr6 gs6 g6 hg hI
  go_upto_region 12 with fail
  clear hW6 u0 u1 u2 u3 uf hCl;have BB6:=Za (BB.out.trans (B6.out.mono BB.out.size));have HG6:=Za (HG.out.below B6.out);have szl:=lo1.out.1;by_cases he:er1=0
  case neg =>
   have t0:(er1 != 0)=true:=by simpa using he
   have hfin:Hid (G=(er1,Zn,[],0)):=Za (by rw[<- hG.out];exact Zzt hg1.out (by rw[hnd.out];exact hrf.out) he);have F5:w6.heap[w1.heap.size]? = _:=HG6.out.at 2 rfl;replace he:=Za he;obtain⟨k0,k1,k2,k3,k4,k5⟩:=Ze F5;obtain⟨W9,hW9,g9,gr9,gs9⟩:=Zo (a':=.slice none 0 0) (b':=.slice none 0 0) (c':=.slice none 0 0) (d':=.slice none 0 0) F5;obtain⟨n0,n1,n2,n3,_,_⟩:=Ze g9;have hB9:=Za ((BB6).out.grown gr9 (BB6).out.size (fun q e=>by cases e;omega));replace g9:=Za g9;replace F5:=Za F5;clear gr9 gs9
   go_wp2_with fail
   refine Qad (v:=.tuple #[.agg #[.slice none 0 0,.slice none 0 0,.slice none 0 0,.slice none 0 0],.slice none 0 0,.int .i64 0,.int .i64 er1]) (by simp[results,Tryz.results61,go_sem,n0,n1,n2,n3]) rfl ?_;rw[<- hQQ.out,hfin.out];exact⟨(none,0,0),(none,0,0),(none,0,0),(none,0,0),none,0,rfl,Zu _ _,Zgx (by omega),hB9.out⟩
  subst he;have HS:=Za (X8 (by omega) (Zdj htc.out) hg1.out);obtain⟨n1,hn1⟩:∃ q,L1.length=q:=⟨_,rfl⟩
  rw[hn1] at I6 ⊢;have hll:=hlm.out;by_cases hL:L1=[]
  case pos =>
   subst hL;obtain rfl:n1=0:=hn1.symm
   have hfin:Hid (G=(0,T1,Vx l p 1 [],0)):=Za (by
    rw[<- hG.out,Z0h hg1.out (by rw[hnd.out];exact hrf.out),hnd.out,hl.out,hpw.out])
   have hIn:=Za (fun W (hW:Qai w6.heap.size w6 W)=>Zbn (some ad) none m zc 0 0 p 1 l [] W ((HG6.out.below hW).at 1 rfl) (Zgx (by omega)) hll rfl (by omega) (by omega) (by omega) (by omega));have c1:(((0:Nat):Int)==0)=true:=rfl;obtain⟨nn,hnn⟩:∃ q,(Vx l p 1 []).length=q:=⟨_,rfl⟩
   rw[hnn] at hIn;replace hnn:=Za hnn
   go_upto_region 15 with fail
   refine Z1 (by kernel_rfl) 5 (fun W=>Qai w6.heap.size w6 W) (fun i=>match i with
     | 4=>some (fun v W=>∃ A' c',v=.slice A' nn c'/\Y6 (Old W) W [.slice A' nn c'] (Vx l p 1 []))
     | _=>none) (fun i=>match i with
     | _=>none) (by decide) (by kernel_rfl) (by kernel_rfl) (Qa _ _).drew (fun w w' h hb=>h.trans (hb.mono h.size)) ?tst ?_
   case tst =>
    intro j φ x W W' hp hx hb
    match j,hp with
    | 4,hp =>
     cases hp;obtain⟨Y,y,e,hy⟩:=hx;exact⟨Y,y,e,Z5.old hy hb⟩
   simp only[Qi,Qj,Qk,Ql]
   repeat (first
    | (refine wpAs_skip rfl ?_;simp only[Qb,Zb,Zc,Zd])
    | (refine wpAs_pure (v := ?_) rfl rfl ?_ ?_;rotate_left;(intro W hC hE;clear hE;(obtain⟨u0,u1,u2,u3,_⟩:=Ze ((hC.block g hgl.out.2).trans G6.out);obtain⟨y0,y1,_⟩:=(HG6.out.below hC).at 0 rfl);clear hC;go_simp;first | done | with_reducible rfl);simp only[Qb,Zb,Zc,Zd]))
   refine wpAs_act rfl rfl ?_ ?_
   ·intro W hC hE
    clear hE;refine does_enter (f:=104) (args:=#[.slice (some ad) m zc,.int .i64 p,.int .i64 1,.slice none 0 0]) ?_ ?_
    ·go_simp
    ·refine(hIn.out W hC).mono ?_
     rintro e W' ⟨A',c',n',rfl,rfl,hi,hb⟩;exact⟨_,rfl,⟨A',c',rfl,hi⟩,hb⟩
   simp only[Qb,Zb,Zc,Zd,envAdd];intro x4
   repeat (first
    | (refine wpAs_skip rfl ?_;simp only[Qb,Zb,Zc,Zd])
    | (refine wpAs_pure (v := ?_) rfl rfl ?_ ?_;rotate_left;(intro W hC hE;clear hE;skip;clear hC;go_simp;first | done | with_reducible rfl);simp only[Qb,Zb,Zc,Zd]))
   refine wpAs_end fun W hC hE=> ?_
   obtain⟨⟨A',c',rfl,hI⟩,_⟩:=hE;have F5:W.heap[w1.heap.size]? = _:=(HG6.out.below hC).at 2 rfl;obtain⟨u0,u1,u2,u3,u4,_⟩:=Ze F5;obtain⟨W9,hW9,g9,gr9,gs9⟩:=Zo (a':=.slice ra.1 ra.2.1 ra.2.2) (b':=.slice rb.1 rb.2.1 rb.2.2) (c':=.slice rc.1 rc.2.1 rc.2.2) (d':=.slice rd.1 rd.2.1 rd.2.2) F5;obtain⟨n0,n1,n2,n3,_,_⟩:=Ze g9;have BW:=BB6.out.trans (hC.mono BB6.out.size)
   have hend:=Za (show Z37 G w (.returned (.tuple #[.agg #[.slice ra.1 ra.2.1 ra.2.2,.slice rb.1 rb.2.1 rb.2.2,.slice rc.1 rc.2.1 rc.2.2,.slice rd.1 rd.2.1 rd.2.2],.slice A' nn c',.int .i64 0,.int .i64 0])) W9 by
    rw[hfin.out];refine⟨ra,rb,rc,rd,A',c',by rw[<- hnn.out],Z9 (S6.out.below hC) hfT.out F5 (by simp) gr9,?_,BW.grown gr9 BW.size (fun q e=>by cases e;exact szl)⟩;show Y6 (Old W9) W9 [.slice A' (Vx l p 1 []).length c'] (Vx l p 1 []);rw[hnn.out]
    exact Zam hI (by simp) F5 gr9)
   replace F5:=Za F5;replace g9:=Za g9;clear gr9 gs9 hC BW hI
   go_wp2_with fail
   refine Qad (v:=.tuple #[.agg #[.slice ra.1 ra.2.1 ra.2.2,.slice rb.1 rb.2.1 rb.2.2,.slice rc.1 rc.2.1 rc.2.2,.slice rd.1 rd.2.1 rd.2.2],.slice A' nn c',.int .i64 0,.int .i64 0]) (by simp[results,Tryz.results61,go_sem,n0,n1,n2,n3]) rfl ?_;rw[<- hQQ.out];exact hend.out
  have hM0:Hid (∀ j c2,l[j]? = some c2->Zwo s l1 c2.2.1 (nxO (l.drop (j+1)) tb) (bxO (l.drop (j+1)) e0)/\0<(rmV s c2.2.1).2.length):=Za fun j c2 h2=>by
   obtain⟨h1,_,y,r,e,_⟩:=Zc6 hinn.out h2;exact⟨h1,by rw[e];exact Nat.succ_pos _⟩
  have hMI:=Zru (p:=p) HS.out (by rw[hll];exact hpm) (M:=l) (fun q hq=>by
   have:=(Zdj hat.out).down (x:=q) (by rw[hnd.out,hl.out];exact hq)
   exact Zns this)
  have hMay:=Zm4 h6 hat.out (by rw[hnd.out,hrf.out];exact hg1.out) hL;rw[hnd.out,hl.out,hpw.out] at hMay;have hGm:=Z0s (L':=(Zz s l p L1).2.2) (f:=(Zz s l p L1).1) (m:=(Zz s l p L1).2.1) hg1.out (by rw[hnd.out];exact hrf.out) hL (by rw[hnd.out,hl.out,hpw.out]) hMI.few;rw[hG.out,hnd.out,hl.out] at hGm;obtain⟨hfew,hinI,_,_,hfit,hm1,hm2⟩:=hMI;have hmn0:=fun h=>Ztw (s:=s) (M:=l) (p:=p) (L:=L1) h
  have hmj0:=fun j c2 h1 h2=>Zta (s:=s) (M:=l) (p:=p) (j:=j) (L:=L1) (c:=c2) h1 h2
  rw[hll] at hmn0 hfit;rw[hll] at hmj0;obtain⟨mg,hmg⟩:∃ q,Zz s l p L1=q:=⟨_,rfl⟩
  rw[hmg] at hfew hinI hfit hm1 hm2 hMay hGm hmn0 hmj0;obtain⟨f0,m0,L2⟩:=mg
  dsimp only at hfew hinI hfit hm1 hm2 hMay hGm hmn0 hmj0
  replace hmg:=Za hmg;replace hmn0:=Za hmn0;replace hmj0:=Za hmj0;replace hGm:=Za hGm;replace hMay:=Za hMay;replace hinI:=Za hinI;have hn1p:0<n1:=by rw[<- hn1];exact List.length_pos_iff.2 hL
  have hn15:n1<=5:=by rw[<- hn1];exact HS.out.few
  have c1:((n1:Int)==0)=false:=by simp;omega
  replace hL:=Za hL;replace hn1:=Za hn1;have hNx:=Za (fun W=>Zpr lw (some ad) m zc p W (by omega) hpm);obtain⟨nx,hnx⟩:∃ q,Zhq m p=q:=⟨_,rfl⟩
  have hnxi:=Z4j hpm;rw[hnx] at hNx hnxi hmn0;replace hnx:=Za hnx;obtain⟨y0,y1,_⟩:=HG6.out.at 0 rfl
  go_wp2_with fail
  with_reducible refine(hNx.out _).mono ?_
  rintro e w7 ⟨rfl,hb7⟩;have B7:=Za hb7;clear hb7 y0 y1 hNx c1
  go_upto_if 95 with fail
  go_cut [16,19,20] from 21 to 130 (fun xl xf xm wx=>∃ (P':Option Qab) (c':Nat),xl=.slice P' L2.length c'/\xf=.int .i64 (f0:Int)/\xm=.int .i64 (m0:Int)/\Y6 (Old wx) wx [.slice P' L2.length c'] L2/\Qai w7.heap.size w7 wx)
  case first =>
   have hI7:=Za (Z5.old I6.out B7.out);rcases hnxi with hneg | ⟨j,hj,hjm,hjp⟩
   ·have i6:¬ (nx>=0):=by omega
    have he3:=hmn0.out hneg;simp only[Prod.mk.injEq] at he3;obtain⟨rfl,rfl,rfl⟩:=he3
    go_wp2_with fail
    go_meet;rw[<- hn1.out] at hI7;exact⟨P,pc,by rw[hn1.out],rfl,rfl,hI7.out,Qa _ _⟩
   subst hj;have i6:(j:Int)>=0:=by omega
   have i7:(0:Int)<=(j:Int):=by omega
   have i8:(j:Int)<(m:Int):=by omega
   obtain⟨c3,hc3⟩:∃ c,l[j]? = some c:=⟨_,Qf (by rw[hlm.out];exact hjm)⟩
   have hmj:=Za (hmj0.out j c3 hnx.out hc3);obtain⟨htj,hj0⟩:=hM0.out j c3 hc3;obtain⟨_,E6,ce6,e6,-,FZ6⟩:=Zo3 (HG.out.at 1 rfl:Y6 (Old w4) w4 [.slice (some ad) m zc] l) hc3;cases e6;have FY:=Za FZ6;have hok2:(rmE s c3.2.1==0)=true:=by rw[htj.ok];rfl
   have hR2:=Za (hRd.out · c3.2.1);rw[hok2] at hR2;have hm25:(rmV s c3.2.1).2.length<=5:=(Zs (Yu htj.ok).1).1.2.2.1;obtain⟨l2,hl2⟩:∃ q,(rmV s c3.2.1).2=q:=⟨_,rfl⟩
   obtain⟨lv2,hlv2⟩:∃ q,(rmV s c3.2.1).1=q:=⟨_,rfl⟩
   rw[hl2] at hj0 hm25 hmj;rw[hl2,hlv2] at hR2;obtain⟨m2,hlm2⟩:∃ q,l2.length=q:=⟨_,rfl⟩
   rw[hlm2] at hj0 hm25 hR2;have hmj':=hmj.out;rw[hlm2,hn1.out] at hmj';replace hl2:=Za hl2;replace hlv2:=Za hlv2;replace hc3:=Za hc3;replace htj:=Za htj;replace hmj':=Za hmj';clear hok2 FZ6 hmj
   go_upto_region 19 with fail
   refine Xh (ops' := ?opsLate2) (by kernel_rfl) [(12,10)] ?he (by kernel_rfl) (fun d _ _ _ _ h=>by cases d <;> exact h) 12 (fun W=>Qai w7.heap.size w7 W) (fun i=>match i with
    | 7=>some (fun v W=>∃ Z2 zc2,v=.tuple #[.agg #[.int .i64 lv2,.slice Z2 m2 zc2],.bool true]/\Y6 (Old W) W [.slice Z2 m2 zc2] l2)
    | 8=>some (fun v W=>∃ Z2 zc2,v=.tuple #[.agg #[.int .i64 lv2,.slice Z2 m2 zc2],.bool true]/\Y6 (Old W) W [.slice Z2 m2 zc2] l2)
    | 9=>some (fun v W=>∃ Z2 zc2,v=.agg #[.int .i64 lv2,.slice Z2 m2 zc2]/\Y6 (Old W) W [.slice Z2 m2 zc2] l2)
    | 11=>some (fun v W=>∃ g,v=.pointer (some ⟨g,0,none⟩)/\w7.heap.size<=g/\W.heap[g]? = some (.cells #[.int .i64 0,.slice none 0 0] 81 (0,0)))
    | _=>none) (fun i=>match i with
    | 10=>some (.bool true)
    | _=>none) ?h1 ?h2 ?h3 (Qa _ _).drew (fun w w' h hb=>h.trans (hb.mono h.size)) ?tst ?_
   case he =>
    simp[Yg];rfl
   case h1=>decide
   case h2=>kernel_rfl
   case h3=>kernel_rfl
   case tst =>
    intro j φ x W W' hp hx hb
    match j,hp with
    | 7,hp=>cases hp;obtain⟨P,pc,e,h2⟩:=hx;exact⟨P,pc,e,Z5.old h2 hb⟩
    | 8,hp=>cases hp;obtain⟨P,pc,e,h2⟩:=hx;exact⟨P,pc,e,Z5.old h2 hb⟩
    | 9,hp=>cases hp;obtain⟨P,pc,e,h2⟩:=hx;exact⟨P,pc,e,Z5.old h2 hb⟩
    | 11,hp=>cases hp;obtain⟨g,e,h1,h2⟩:=hx;exact⟨g,e,h1,(hb.block g (Qe.1 h2).1).trans h2⟩
   simp only[Qi,Qj,Qk,Ql]
   repeat (first
    | (refine wpAs_skip rfl ?_;simp only[Qb,Zb,Zc,Zd])
    | (refine wpAs_pure (v := ?_) rfl rfl ?_ ?_;rotate_left;(intro W hC hE;clear hE;(have HW:=HG6.out.below (B7.out.trans (hC.mono B7.out.size));obtain⟨⟨z0,z1,z2,z3,z4⟩,_⟩:=FY.out W (B6.out.trans ((B7.out.trans (hC.mono B7.out.size)).mono B6.out.size));obtain⟨k0,k1,k2,k3,_⟩:=HW.at 4 rfl;obtain⟨y0,y1,_⟩:=HW.at 0 rfl);clear hC;go_simp;first | done | with_reducible rfl);simp only[Qb,Zb,Zc,Zd]))
   refine wpAs_act rfl rfl ?_ ?_
   ·intro W hC hE
    clear hE;refine does_enter (f:=59) (args:=#[.agg #[.slice qa.1 qa.2.1 qa.2.2,.slice qb.1 qb.2.1 qb.2.2,.slice qc.1 qc.2.1 qc.2.2,.slice qd.1 qd.2.1 qd.2.2],.int .i64 c3.2.1]) ?_ ?_
    ·go_simp
    ·refine(hR2.out _ W ((HG6.out.below (B7.out.trans (hC.mono B7.out.size))).at 5 rfl)).mono ?_
     rintro e W' ⟨Z2,zc2,rfl,hi,-,hb⟩;exact⟨_,rfl,⟨Z2,zc2,rfl,hi⟩,hb⟩
   simp only[Qb,Zb,Zc,Zd,envAdd];intro x7;refine wpAs_act rfl rfl ?_ ?_
   ·intro W hC hE
    have h7:=Za (hE.1 rfl);clear hE hC
    go_simp
    exact⟨h7.out,Qa _ _⟩
   simp only[Qb,Zb,Zc,Zd,envAdd];intro x8;refine wpAs_act rfl rfl ?_ ?_
   ·intro W hC hE
    obtain⟨Z2,zc2,rfl,hi⟩:=hE.1 rfl;have hi':=Za hi;clear hE hC hi
    go_simp
    exact⟨⟨Z2,zc2,rfl,hi'.out⟩,Qa _ _⟩
   simp only[Qb,Zb,Zc,Zd,envAdd];intro x9;refine wpAs_fixed rfl rfl rfl ?_ ?_
   ·intro W hC hE
    obtain⟨Z2,zc2,rfl,hi⟩:=hE.2.1 rfl;clear hE hC hi
    go_simp
    exact⟨rfl,Qa _ _⟩
   simp only[Qb,Zb,Zc,Zd];refine wpAs_act rfl rfl ?_ ?_
   ·intro W hC hE
    have hs:=hC.size;clear hE hC
    go_simp
    exact⟨⟨W.heap.size,rfl,hs,Qae _ _⟩,(Qa _ _).alloc (Qd _) _⟩
   simp only[Qb,Zb,Zc,Zd,envAdd];intro x11;refine wpAs_end fun W hC hE=> ?_
   obtain⟨⟨g2,rfl,hg2,hz⟩,⟨Z2,zc2,rfl,hI2⟩,_⟩:=hE;obtain⟨u0,u1,uf,_⟩:=Zg hz;obtain⟨w8,hW8,g8,gr8,gs8⟩:=Ys (u:=.int .i64 lv2) (v:=.slice Z2 m2 zc2) hz;have B8:=Za (hC.grown gr8 hC.size (fun q e=>by cases e;exact hg2));have I8:=Za (Zam hI2 (by simp) hz gr8);have I1:=Za (Z5.old hI7.out B8.out);have i9:IntKind.i64.wrap ((m2:Int)+(n1:Int))=((m2+n1:Nat):Int):=by rw[Qn _ (by omega)];omega
   obtain⟨y0,y1,-⟩:=Zg g8;have G8:=Za g8;replace hz:=Za hz;clear hC gr8 gs8 hg2 g8 hI2;by_cases h25:m2+n1<=5
   case neg =>
    have i10:¬ (((m2+n1:Nat):Int)<=5):=by omega
    have he3:=hmj'.out;rw[if_neg h25] at he3;simp only[Prod.mk.injEq] at he3;obtain⟨rfl,rfl,rfl⟩:=he3
    go_wp2_with fail
    go_meet;rw[<- hn1.out] at I1;exact⟨P,pc,by rw[hn1.out],rfl,rfl,I1.out,B8.out⟩
   have i10:((m2+n1:Nat):Int)<=5:=by omega
   by_cases hjp':j<p
   ·have i11:(j:Int)<(p:Int):=by omega
    have he3:=hmj'.out;rw[if_pos h25,if_pos hjp'] at he3;simp only[Prod.mk.injEq] at he3;obtain⟨rfl,rfl,rfl⟩:=he3;have hIn:=Za (Zbn Z2 P m2 zc2 n1 pc m2 0 l2 L1 w8 I8.out I1.out hlm2 hn1.out hj0 (by omega) (by omega) (by omega));have hend:=Za (Zxx l2 L1);rw[hlm2] at hend;rw[hend.out] at hIn
    go_wp2_with fail
    refine hIn.out.mono ?_;rintro e w9 ⟨A',c',n',rfl,rfl,hi,hb⟩;have hi':=Za hi;have hb':=Za (B8.out.trans (hb.mono B8.out.size));clear hi hb hIn
    go_wp2_with fail
    go_meet;exact⟨A',c',by rw[Qg,hlm2],rfl,rfl,hi'.out,hb'.out⟩
   ·have i11:¬ ((j:Int)<(p:Int)):=by omega
    have he3:=hmj'.out;rw[if_pos h25,if_neg hjp'] at he3;simp only[Prod.mk.injEq] at he3;obtain⟨rfl,rfl,rfl⟩:=he3;have hIn:=Za (Zbn P Z2 n1 pc m2 zc2 n1 0 L1 l2 w8 I1.out I8.out hn1.out hlm2 hn1p (by omega) (by omega) (by omega));have hend:=Za (Zxx L1 l2);rw[hn1.out] at hend;rw[hend.out] at hIn
    go_wp2_with fail
    refine hIn.out.mono ?_;rintro e w9 ⟨A',c',n',rfl,rfl,hi,hb⟩;have hi':=Za hi;have hb':=Za (B8.out.trans (hb.mono B8.out.size));clear hi hb hIn
    go_wp2_with fail
    go_meet;exact⟨A',c',by rw[Qg,hlm2],rfl,rfl,hi'.out,hb'.out⟩
  case rest =>
  obtain⟨P2,c2,rfl,rfl,rfl,hI2,hBc⟩:=hcut;obtain⟨wc0,rfl⟩:∃ wx:P9,wx=wc:=⟨_,rfl⟩
  have Bc:=Za (B7.out.trans (hBc.mono B7.out.size));have HGc:=Za (HG6.out.below Bc.out);have BBc:=Za (BB6.out.trans (Bc.out.mono BB6.out.size));have Ic:=Za hI2;have hmT:Hid (Yp T1=true):=Za HS.out.keep.may;have hmd:=Za (Ze9 (.agg #[.slice ra.1 ra.2.1 ra.2.2,.slice rb.1 rb.2.1 rb.2.2,.slice rc.1 rc.2.1 rc.2.2,.slice rd.1 rd.2.1 rd.2.2]) T1 (l1:Int) P2 L2.length c2 L2 hmT.out hMay.out ⟨by omega,by omega⟩ rfl wc0 (S6.out.below Bc.out) hI2);have i12:IntKind.i64.wrap (lw-1)=(l1:Int):=by
   rw[Qn _ (by rw[hlv.out];omega),hlv.out];omega
  obtain⟨y0,y1,_⟩:=HGc.out.at 0 rfl;have Gc:=(Bc.out.block g hgl.out.2).trans G6.out;obtain⟨u0,u1,u2,u3,-⟩:=Ze Gc;unfold Z6c at hmd;obtain⟨xm,hxm⟩:∃ q,Zwq T1 (l1:Int) L2=q:=⟨_,rfl⟩
  obtain⟨er2,her2⟩:∃ q,mkE T1 ((l1:Int),L2)=q:=⟨_,rfl⟩
  obtain⟨V2,hV2⟩:∃ q,mkV T1 ((l1:Int),L2)=q:=⟨_,rfl⟩
  rw[hxm,her2,hV2] at hmd;have hfV:Hid (U1 V2):=Za (by rw[<- hV2];exact Zx1 _ _);replace hxm:=Za hxm;replace her2:=Za her2;replace hV2:=Za hV2;replace Gc:=Za Gc;clear hI2 hBc hMay hM0
  go_wp2_with fail
  refine hmd.out.mono ?_;rintro e w9 ⟨sa,sb,sc,sd,D,dc,rfl,hS9,hD9,hb9⟩;clear u0 u1 u2 u3 y0 y1 i12 hmd
  go_upto_region 27 with fail
  obtain⟨w10,hw10,b10,hs10,hB10⟩:=Vm w9 (.slice sa.1 sa.2.1 sa.2.2) (.slice sb.1 sb.2.1 sb.2.2) (.slice sc.1 sc.2.1 sc.2.2) (.slice sd.1 sd.2.1 sd.2.2) 29;obtain⟨w11,hw11,_,_,_,_,_,hs11,hB11,b11⟩:=Z6 w10 (.int .u8 (xm.1.1.toNat:Int)) (.int .u32 xm.1.2.1) (.int .u32 xm.1.2.2) (.int .i64 xm.2.1) (.slice D 0 dc) 54;rw[hw10,hw11,<- hs10];have h911:=hB10.trans (hB11.mono hB10.size);have B11:=Za (hb9.trans (h911.mono hb9.size));have H11:=Za (HGc.out.below B11.out);have BB11:=Za (BBc.out.trans (B11.out.mono BBc.out.size));have S11:=Za (hS9.below h911);have D11:=Za hD9;have b10':=Za ((hB11.block w9.heap.size (by omega)).trans b10);have b11':=Za b11;have lo11:Hid (w4.heap.size<=w9.heap.size/\w10.heap.size=w9.heap.size+1/\w11.heap.size=w10.heap.size+1):=Za ⟨Qc (Qc B6.out.size Bc.out.size) hb9.size,hs10,hs11⟩;clear hs10 hs11 hB10 hB11 h911 b10 b11 hb9 hS9 hD9 hw10 hw11;by_cases he2:er2=0
  case neg =>
   have t0:(er2 != 0)=true:=by simpa using he2
   have hfin:Hid (G=(er2,Zn,[],0)):=Za (by rw[hGm.out,if_neg (by rw[her2.out];exact he2),her2.out]);have F5:w11.heap[w1.heap.size]? = _:=H11.out.at 2 rfl;replace he2:=Za he2;obtain⟨k0,k1,k2,k3,k4,k5⟩:=Ze F5;obtain⟨W9,hW9,g9,gr9,gs9⟩:=Zo (a':=.slice none 0 0) (b':=.slice none 0 0) (c':=.slice none 0 0) (d':=.slice none 0 0) F5;obtain⟨n0,n1,n2,n3,_,_⟩:=Ze g9;have hB9:=Za ((BB11).out.grown gr9 (BB11).out.size (fun q e=>by cases e;omega));replace g9:=Za g9;replace F5:=Za F5;clear gr9 gs9
   go_wp2_with fail
   refine Qad (v:=.tuple #[.agg #[.slice none 0 0,.slice none 0 0,.slice none 0 0,.slice none 0 0],.slice none 0 0,.int .i64 0,.int .i64 er2]) (by simp[results,Tryz.results61,go_sem,n0,n1,n2,n3]) rfl ?_;rw[<- hQQ.out,hfin.out];exact⟨(none,0,0),(none,0,0),(none,0,0),(none,0,0),none,0,rfl,Zu _ _,Zgx (by omega),hB9.out⟩
  subst he2;have hkm:=Zie her2.out;rw[hV2.out] at hkm;have hx0:xm=upI L2 (mkN T1 ((l1:Int),L2)):=by rw[<- hxm.out];unfold Zwq;rw[if_pos her2.out]
  have hxin:=Za (show InI xm by rw[hx0];exact Z4o her2.out hinI.out);have hx22:xm.2.2=[]:=by rw[hx0];rfl
  have hheld:Hid (held1=0\/(0<=held1/\held1<256/\V2.2.1[held1.toNat]?.getD 0≠0)):=Za (by
   rcases HS.out.own with h | ⟨h8,_,hc,_⟩
   ·exact .inl h
   ·have h1:=hkm.held _ (Zak.1 hc)
    have hl:=Z0 (Zw hkm.may).2.1;refine .inr ⟨by omega,?_,h1⟩;refine Decidable.byContradiction fun hn=>h1 ?_
    rw[Px (by omega)]
    rfl)
  obtain⟨U2,hU2⟩:∃ q,(if held1=0 then V2 else Zaf V2 held1)=q:=⟨_,rfl⟩
  have hfU:Hid (U1 U2):=Za (by
   rw[<- hU2];split
   ·exact hfV.out
   ·exact Zro hkm.may _)
  have hlU:Hid (0<U2.2.1.length):=Za (by
   have hl:=Z0 (Zw hkm.may).2.1;rw[<- hU2];split
   ·omega
   ·unfold Zaf
    rw[Qo]
    omega)
  have hGf:Hid (G=(0,U2,Vx l f0 m0 [xm],xm.2.1)):=Za (by
   rw[hGm.out,if_pos her2.out,hV2.out,hU2,<- hx0,hx0]
   rfl)
  have hmU:Hid (Yp U2=true):=Za (X8 h6 (Zdj hat.out) (hG.out.trans hGf.out)).keep.may;have hfr:=Za (fun W hW=>Zgi (.agg #[.slice sa.1 sa.2.1 sa.2.2,.slice sb.1 sb.2.1 sb.2.2,.slice sc.1 sc.2.1 sc.2.2,.slice sd.1 sd.2.1 sd.2.2]) V2 held1 hkm.may hheld.out W hW);rw[hU2] at hfr;have hmV:=Za hkm.may;replace hU2:=Za hU2;replace hx0:=Za hx0;have lo1':=lo1.out;have lo4':=lo4.out;have lo11':=lo11.out;obtain⟨nn,hnn⟩:∃ q,(Vx l f0 m0 [xm]).length=q:=⟨_,rfl⟩
  have hIn:=Za (fun W gg (hO:Xm w1.heap.size U2 w11 W) (hgg:W.heap[gg]? = some (.cells #[.int .u8 (xm.1.1.toNat:Int),.int .u32 xm.1.2.1,.int .u32 xm.1.2.2,.int .i64 xm.2.1,.slice D 0 dc] 54 (0,0))) =>
   Zbn (some ad) (some ⟨gg,0,none⟩) m zc 1 1 f0 m0 l [xm] W (hO.its (H11.out.at 1 rfl:Y6 (Old w11) w11 [.slice (some ad) m zc] l)) (Z3y hgg hxin.out (by rw[hx22];exact Z5q D11.out)) hll rfl (by omega) hfit (by omega) (by omega))
  rw[hnn] at hIn;have F4:Hid (Zw2 w1.heap.size w11):=Za ⟨(none,0,0),(none,0,0),(none,0,0),(none,0,0),H11.out.at 2 rfl⟩;have FK:Hid (∀ W,Xm w1.heap.size U2 w11 W->W.heap[w9.heap.size]? = some (.cells #[.slice sa.1 sa.2.1 sa.2.2,.slice sb.1 sb.2.1 sb.2.2,.slice sc.1 sc.2.1 sc.2.2,.slice sd.1 sd.2.1 sd.2.2] 29 (0,0))/\W.heap[w10.heap.size]? = some (.cells #[.int .u8 (xm.1.1.toNat:Int),.int .u32 xm.1.2.1,.int .u32 xm.1.2.2,.int .i64 xm.2.1,.slice D 0 dc] 54 (0,0))/\W.cell? ⟨w3.heap.size,0,none⟩=some (.int .i64 lw)/\W.cell? ⟨w3.heap.size,1,none⟩=some (.slice (some ad) m zc)):=Za fun W hO=>by
   obtain⟨y0,y1,_⟩:=H11.out.at 0 rfl;exact⟨hO.blk (by omega) b10'.out,hO.blk (by omega) b11'.out,hO.cell (by show w3.heap.size≠w1.heap.size;omega) y0,hO.cell (by show w3.heap.size≠w1.heap.size;omega) y1⟩
  have hSW:Hid (∀ W,Xm w1.heap.size U2 w11 W->Sto (Old W) W (.agg #[.slice sa.1 sa.2.1 sa.2.2,.slice sb.1 sb.2.1 sb.2.2,.slice sc.1 sc.2.1 sc.2.2,.slice sd.1 sd.2.1 sd.2.2]) V2):=Za fun W hO=>hO.sto S11.out hmV.out
  have hlow:Hid (∀ W,Xm w1.heap.size U2 w11 W->Qai w.heap.size w W/\w1.heap.size<W.heap.size):=Za fun W hO=>⟨BB11.out.trans (hO.low BB11.out.size lo1.out.1),by have:=hO.size;omega⟩
  replace hnn:=Za hnn;clear lo1' lo4' lo11' hkm
  go_upto_region 29 with fail
  refine Rb.wp_region_fx (Xm w1.heap.size U2) (by kernel_rfl) (fun W=>Xm w1.heap.size U2 w11 W) (fun i=>match i with
   | 2=>some (PhF U2)
   | 8=>some (fun v W=>∃ gg,v=.slice (some ⟨gg,0,none⟩) 1 1/\w11.heap.size<=gg/\W.heap[gg]? = some (.cells #[.int .u8 (xm.1.1.toNat:Int),.int .u32 xm.1.2.1,.int .u32 xm.1.2.2,.int .i64 xm.2.1,.slice D 0 dc] 54 (0,0)))
   | 9=>some (fun v W=>∃ A' c',v=.slice A' nn c'/\Y6 (Old W) W [.slice A' nn c'] (Vx l f0 m0 [xm]))
   | 12=>some (fun _ W=>PhG w1.heap.size U2 W)
   | _=>none) (fun i=>match i with
   | _=>none) (by kernel_rfl) (Xm.refl _ _ _).drew (fun w w' h hb=>h.trans hb) ?tst ?_
  case tst =>
   intro j φ x W W' hp hx hb
   match j,hp with
   | 2,hp=>cases hp;exact hb.phF hmU.out hx
   | 8,hp=>cases hp;obtain⟨gg,e,h1,h2⟩:=hx;exact⟨gg,e,h1,hb.blk (by have:=lo1.out;have:=lo4.out;have:=lo11.out;omega) h2⟩
   | 9,hp=>cases hp;obtain⟨A',c',e,h⟩:=hx;exact⟨A',c',e,hb.its h⟩
   | 12,hp=>cases hp;exact hb.phG hx
  repeat (first
   | (refine Rb.wpAs_skip rfl ?_;simp only[Qb,Zb,Zc,Zd])
   | (refine Rb.wpAs_pure (v := ?_) rfl rfl ?_ ?_;rotate_left;(intro W hC hE;clear hE;(obtain⟨bb,bi,y0,y1⟩:=FK.out W hC;obtain⟨v0,v1,v2,v3,-⟩:=Ze bb;obtain⟨o0,o1,o2,o3,o4,-⟩:=Zl bi);clear hC;go_simp;first | done | with_reducible rfl);simp only[Qb,Zb,Zc,Zd]))
  refine Rb.wpAs_act rfl rfl ?_ ?_
  ·intro W hC hE
   clear hE;refine Rb.does_enter (f:=64) (args:=#[.agg #[.slice sa.1 sa.2.1 sa.2.2,.slice sb.1 sb.2.1 sb.2.2,.slice sc.1 sc.2.1 sc.2.2,.slice sd.1 sd.2.1 sd.2.2],.int .i64 held1]) ?_ ?_
   ·go_simp
   ·refine(hfr.out W (hSW.out W hC)).mono ?_
    rintro e W' ⟨t,rfl,hs,hb⟩;obtain⟨ta,tb,tc,td,rfl⟩:=Vs hs;exact⟨_,rfl,⟨ta,tb,tc,td,rfl,hs⟩,Xm.of_below hb (hlow.out W hC).2⟩
  simp only[Qb,Zb,Zc,Zd,Rb.envAdd];intro x2
  repeat (first
   | (refine Rb.wpAs_skip rfl ?_;simp only[Qb,Zb,Zc,Zd])
   | (refine Rb.wpAs_pure (v := ?_) rfl rfl ?_ ?_;rotate_left;(intro W hC hE;clear hE;(obtain⟨bb,bi,y0,y1⟩:=FK.out W hC;obtain⟨v0,v1,v2,v3,-⟩:=Ze bb;obtain⟨o0,o1,o2,o3,o4,-⟩:=Zl bi);clear hC;go_simp;first | done | with_reducible rfl);simp only[Qb,Zb,Zc,Zd]))
  refine Rb.wpAs_act rfl rfl ?_ ?_
  ·intro W hC hE
   clear hE;have hs:=hC.size;have hl:=(hlow.out W hC).2;clear hC
   go_simp
   exact⟨⟨W.heap.size,rfl,hs,Qae _ _⟩,Xm.of_below ((Qa _ _).alloc (Qd _) _) hl⟩
  simp only[Qb,Zb,Zc,Zd,Rb.envAdd];intro x8;refine Rb.wpAs_act rfl rfl ?_ ?_
  ·intro W hC hE
   obtain⟨gg,rfl,hgl,hgg⟩:=hE.1 _ rfl rfl;clear hE;refine Rb.does_enter (f:=104) (args:=#[.slice (some ad) m zc,.int .i64 f0,.int .i64 m0,.slice (some ⟨gg,0,none⟩) 1 1]) ?_ ?_
   ·clear hgg hgl hC
    go_simp
   ·refine(hIn.out W gg hC hgg).mono ?_
    rintro e W' ⟨A',c',n',rfl,rfl,hi,hb⟩;exact⟨_,rfl,⟨A',c',rfl,hi⟩,Xm.of_below hb (hlow.out W hC).2⟩
  simp only[Qb,Zb,Zc,Zd,Rb.envAdd];intro x9
  repeat (first
   | (refine Rb.wpAs_skip rfl ?_;simp only[Qb,Zb,Zc,Zd])
   | (refine Rb.wpAs_pure (v := ?_) rfl rfl ?_ ?_;rotate_left;(intro W hC hE;clear hE;(obtain⟨bb,bi,y0,y1⟩:=FK.out W hC;obtain⟨v0,v1,v2,v3,-⟩:=Ze bb;obtain⟨o0,o1,o2,o3,o4,-⟩:=Zl bi);clear hC;go_simp;first | done | with_reducible rfl);simp only[Qb,Zb,Zc,Zd]))
  refine Rb.wpAs_act rfl rfl ?_ ?_
  ·intro W hC hE
   obtain⟨ta,tb',tc,td,rfl,hs⟩:=hE.2.2.1 _ rfl rfl;clear hE;have hf:=hC.four F4.out;obtain⟨qa',qb',qc',qd',hfe⟩:=id hf;obtain⟨q0,q1,q2,q3,q4,_⟩:=Ze hfe;obtain⟨W1,hW1,g1,gr1⟩:=Z0a hf hmU.out hs;have hk:=Za gr1;replace g1:=Za g1;clear gr1 hC hs hf hfe
   go_simp
   exact⟨g1.out,hk.out⟩
  simp only[Qb,Rb.envAdd];intro _
  repeat (first
   | (refine Rb.wpAs_skip rfl ?_;simp only[Qb,Zb,Zc,Zd])
   | (refine Rb.wpAs_pure (v := ?_) rfl rfl ?_ ?_;rotate_left;(intro W hC hE;clear hE;skip;clear hC;go_simp;first | done | with_reducible rfl);simp only[Qb,Zb,Zc,Zd]))
  refine Rb.wpAs_end fun W hC hE=> ?_
  obtain⟨hG12,⟨A',c',rfl,hI9⟩,_⟩:=hE;obtain⟨ta,tb',tc,td,ge,hsE⟩:PhG w1.heap.size U2 W:=hG12;obtain⟨n0,n1',n2,n3,-⟩:=Ze ge
  have hend:=Za (show Z37 G w (.returned (.tuple #[.agg #[.slice ta.1 ta.2.1 ta.2.2,.slice tb'.1 tb'.2.1 tb'.2.2,.slice tc.1 tc.2.1 tc.2.2,.slice td.1 td.2.1 td.2.2],.slice A' nn c',.int .i64 xm.2.1,.int .i64 0])) W by
   rw[hGf.out];refine⟨ta,tb',tc,td,A',c',by rw[<- hnn.out],hsE,?_,(hlow.out W hC).1⟩;show Y6 (Old W) W [.slice A' (Vx l f0 m0 [xm]).length c'] (Vx l f0 m0 [xm]);rw[hnn.out]
   exact hI9)
  replace ge:=Za ge;clear hC hI9 hsE
  go_wp2_with fail
  refine Qad (v:=.tuple #[.agg #[.slice ta.1 ta.2.1 ta.2.2,.slice tb'.1 tb'.2.1 tb'.2.2,.slice tc.1 tc.2.1 tc.2.2,.slice td.1 td.2.1 td.2.2],.slice A' nn c',.int .i64 xm.2.1,.int .i64 0]) (by simp[results,Tryz.results61,go_sem,n0,n1',n2,n3]) rfl ?_;rw[<- hQQ.out];exact hend.out}
theorem Zcm (s:Rm) (kk:Ky) (hm:Yp s=true):∀ l,Z2c s kk l
 | 0=>Zsb s kk hm 0 fun j hj=>by cases hj
 | l+1=>Zsb s kk hm (l+1) fun j hj=>by cases hj;exact Zcm s kk hm l
def Kn (K:Nat->Prop) (W:P9):Qab->Prop:=fun p=>K p.block/\p.block<W.heap.size
theorem Zel {K:Nat->Prop}{W:P9}{v:Qaa}{s:Rm}(h:Sto (Kn K W) W v s):Sto (Old W) W v s:=h.map fun _ _ hp hc=>⟨hp.2,hc⟩
theorem Zbq {K K':Nat->Prop}{W W':P9}{v:Qaa}{s:Rm}(h:Sto (Kn K W) W v s) (hK:∀ k,K k->K' k) (hb:Qai W.heap.size W W'):Sto (Kn K' W') W' v s:=h.map fun _ _ hp hc=>⟨⟨hK _ hp.1,Qm hp.2 hb.size⟩,(hb.cell hp.2).trans hc⟩
theorem Zq8 {K:Nat->Prop}{lo:Nat}{W:P9}{v:Qaa}{s:Rm}(h:Sto (New lo W) W v s) (hK:∀ k,lo<=k->K k):Sto (Kn K W) W v s:=h.map fun _ _ hp hc=>⟨⟨hK _ hp.1,hp.2.1⟩,hc⟩
theorem Z0b {K:Nat->Prop}{W W':P9}{v:Qaa}{s:Rm}{b:Nat}(h:Sto (Kn K W) W v s) (hb:¬ K b) (hg:W.grownBy W' (some b)):Sto (Kn K W') W' v s:=h.map fun p v hp hc=>by
 have hk:=hg.block p.block hp.2 (fun e=>hb (by have:=Option.some.inj e;rw[<- this];exact hp.1));exact⟨⟨hp.1,Qm hp.2 hg.size⟩,(Pg hk).trans hc⟩
def Zyp (K:Nat->Prop) (w:P9) (g:Int×Rm×Int) (e:Qah) (w':P9):Prop:=∃ qa qb qc qd:Option Qab×Nat×Nat,e=.returned (.tuple #[.agg #[.slice qa.1 qa.2.1 qa.2.2,.slice qb.1 qb.2.1 qb.2.2,.slice qc.1 qc.2.1 qc.2.2,.slice qd.1 qd.2.1 qd.2.2],.int .i64 g.2.2,.int .i64 g.1]) /\
 Sto (Kn K w') w' (.agg #[.slice qa.1 qa.2.1 qa.2.2,.slice qb.1 qb.2.1 qb.2.2,.slice qc.1 qc.2.1 qc.2.2,.slice qd.1 qd.2.1 qd.2.2]) g.2.1/\Qai w.heap.size w w'
theorem Zyp.mono {K K':Nat->Prop}{w w':P9}{g:Int×Rm×Int}{e:Qah}(h:Zyp K w g e w') (hK:∀ k,K k->K' k):Zyp K' w g e w':=by
 obtain⟨qa,qb,qc,qd,e,h1,h2⟩:=h;exact⟨qa,qb,qc,qd,e,Zbq h1 hK (Qa _ _),h2⟩
theorem V8 {K:Nat->Prop}{w W:P9}{b:Nat}{p0 p1 p2 p3:Qaa}{ra rb rc rd:Option Qab×Nat×Nat}{er nn:Int}{S:Rm}(hb:w.heap.size<=b) (hK:¬ K b) (hg:W.heap[b]? = some (.cells #[p0,p1,p2,p3] 29 (0,0))) (hB:Qai w.heap.size w W)
  (hS:Sto (Kn K W) W (.agg #[.slice ra.1 ra.2.1 ra.2.2,.slice rb.1 rb.2.1 rb.2.2,.slice rc.1 rc.2.1 rc.2.2,.slice rd.1 rd.2.1 rd.2.2]) S) :
  ∃ W9,(((W.setCell ⟨b,0,none⟩ (.slice ra.1 ra.2.1 ra.2.2)).setCell ⟨b,1,none⟩ (.slice rb.1 rb.2.1 rb.2.2)).setCell ⟨b,2,none⟩ (.slice rc.1 rc.2.1 rc.2.2)).setCell ⟨b,3,none⟩ (.slice rd.1 rd.2.1 rd.2.2)=W9 /\
   W9.cell? ⟨b,0,none⟩=some (.slice ra.1 ra.2.1 ra.2.2)/\W9.cell? ⟨b,1,none⟩=some (.slice rb.1 rb.2.1 rb.2.2)/\W9.cell? ⟨b,2,none⟩=some (.slice rc.1 rc.2.1 rc.2.2)/\W9.cell? ⟨b,3,none⟩=some (.slice rd.1 rd.2.1 rd.2.2) /\
   (∀ o,W9.frozen? ⟨b,o,none⟩=false)/\Hid (W9.heap[b]? = some (.cells #[.slice ra.1 ra.2.1 ra.2.2,.slice rb.1 rb.2.1 rb.2.2,.slice rc.1 rc.2.1 rc.2.2,.slice rd.1 rd.2.1 rd.2.2] 29 (0,0)))/\Hid (Qai w.heap.size w W9/\W.grownBy W9 (some b))/\Hid (W9.heap.size=W.heap.size) /\
   Hid (Sto (Kn K W9) W9 (.agg #[.slice ra.1 ra.2.1 ra.2.2,.slice rb.1 rb.2.1 rb.2.2,.slice rc.1 rc.2.1 rc.2.2,.slice rd.1 rd.2.1 rd.2.2]) S) /\
   Hid (Zyp K w (er,S,nn) (.returned (.tuple #[.agg #[.slice ra.1 ra.2.1 ra.2.2,.slice rb.1 rb.2.1 rb.2.2,.slice rc.1 rc.2.1 rc.2.2,.slice rd.1 rd.2.1 rd.2.2],.int .i64 nn,.int .i64 er])) W9):=by
 obtain⟨W9,e9,g9,gr9,gs9⟩:=Zo (a':=.slice ra.1 ra.2.1 ra.2.2) (b':=.slice rb.1 rb.2.1 rb.2.2) (c':=.slice rc.1 rc.2.1 rc.2.2) (d':=.slice rd.1 rd.2.1 rd.2.2) hg;obtain⟨k0,k1,k2,k3,kf,_⟩:=Ze g9;have hS9:=Z0b hS hK gr9;have hB9:=hB.grown gr9 hB.size (fun q e=>by cases e;exact hb);exact⟨W9,e9,k0,k1,k2,k3,kf,Za g9,Za ⟨hB9,gr9⟩,Za gs9,Za hS9,Za ⟨ra,rb,rc,rd,rfl,hS9,hB9⟩⟩
theorem Zlv (qa qb qc qd:Option Qab×Nat×Nat) (s:Rm) (I:Option Qab) (ci:Nat) (n:Nd) (held:Int) (w:P9) (h:Sto (Old w) w (.agg #[.slice qa.1 qa.2.1 qa.2.2,.slice qb.1 qb.2.1 qb.2.2,.slice qc.1 qc.2.1 qc.2.2,.slice qd.1 qd.2.1 qd.2.2]) s)
  (hu:Nod (Old w) w (.agg #[.int .i64 n.1,.slice I n.2.length ci]) n) :
  Qag Tryz.prog 51 #[.agg #[.slice qa.1 qa.2.1 qa.2.2,.slice qb.1 qb.2.1 qb.2.2,.slice qc.1 qc.2.1 qc.2.2,.slice qd.1 qd.2.1 qd.2.2],.agg #[.int .i64 n.1,.slice I n.2.length ci],.int .i64 held] w (Zyp (fun k=>w.heap.size<=k) w (Zpo s n held)):=by{
 obtain⟨w1,hw1,b1,hs1,hB1⟩:=Vm w (.slice qa.1 qa.2.1 qa.2.2) (.slice qb.1 qb.2.1 qb.2.2) (.slice qc.1 qc.2.1 qc.2.2) (.slice qd.1 qd.2.1 qd.2.2) 29;obtain⟨w2,hw2,b2,hs2,hB2⟩:=Zy w1 (.int .i64 n.1) (.slice I n.2.length ci) 81;obtain⟨w3,hw3,b3,hs3,hB3⟩:=Vm w2 (.slice none 0 0) (.slice none 0 0) (.slice none 0 0) (.slice none 0 0) 29;have hB23:=hB2.trans (hB3.mono hB2.size);have hB13:=hB1.trans (hB23.mono hB1.size);have B3:=Za hB13;have SZ:=Za (show w1.heap.size=w.heap.size+1/\w2.heap.size=w.heap.size+2/\w3.heap.size=w.heap.size+3 from by omega);have HM:=Za (Zui (.agg #[.slice qa.1 qa.2.1 qa.2.2,.slice qb.1 qb.2.1 qb.2.2,.slice qc.1 qc.2.1 qc.2.2,.slice qd.1 qd.2.1 qd.2.2]) (.agg #[.int .i64 n.1,.slice I n.2.length ci]) s n w3 (h.below hB13) (hu.below hB13));have G3:=Za b3;obtain⟨k0,k1,k2,k3,_⟩:=Ze ((hB23.block w.heap.size (by omega)).trans b1);obtain⟨n0,n1,_⟩:=Zg ((hB3.block w1.heap.size (by omega)).trans b2);replace hs1:=Za hs1;replace hs2:=Za hs2;replace hs3:=Za hs3;have hL:Hid (Zpo s n held=if mkE s n=0 then (if held=0 then (0,mkV s n,mkN s n) else if asE (mkV s n) held=0 then (0,loV (mkV s n) held,mkN s n) else (asE (mkV s n) held,Zn,0)) else (mkE s n,Zn,0)):=Za rfl;have hno:=Za (Zlj (s:=s) (n:=n));obtain⟨mn,hmn⟩:∃ q,mkN s n=q:=⟨_,rfl⟩
 obtain⟨me,hme⟩:∃ q,mkE s n=q:=⟨_,rfl⟩
 obtain⟨mv,hmv⟩:∃ q,mkV s n=q:=⟨_,rfl⟩
 rw[hmn,hme,hmv] at HM hL hno;obtain⟨ld,hld⟩:∃ q,Zpo s n held=q:=⟨_,rfl⟩
 rw[hld] at hL ⊢;generalize n.1=lw at *;generalize n.2.length=nl at *;replace hmn:=Za hmn;replace hme:=Za hme;replace hmv:=Za hmv;replace hld:=Za hld;clear h hu hB1 hB2 hB3 hB23 hB13 b1 b2 b3
 go_enter Tryz.func51,Tryz.ntmps51
 go_upto_region 1 with fail
 clear hw1 hw2 hw3
 go_wp2_with fail
 with_reducible refine(HM.out).mono ?_
 rintro e w4 ⟨ra,rb,rc,rd,rfl,hS4,hb4⟩;have hc4:=(hb4.block w2.heap.size (by have:=SZ.out;omega)).trans G3.out;obtain⟨u0,u1,u2,u3,uf,_⟩:=Ze hc4;have hnK:¬ (fun k=>w3.heap.size<=k) w2.heap.size:=by have:=SZ.out;show ¬ w3.heap.size<=w2.heap.size;omega
 have hKw:Hid (∀ k,(fun k=>w3.heap.size<=k) k->(fun k=>w.heap.size<=k) k):=Za fun k h=>Qc B3.out.size h
 obtain⟨w5,e5,y0,y1,y2,y3,yf,g5,B5,sz5,S5,-⟩:=V8 (K:=fun k=>w3.heap.size<=k) (w:=w) (er:=0) (nn:=0) (by have:=SZ.out;omega) hnK hc4 (B3.out.trans (hb4.mono B3.out.size)) (Zq8 hS4 fun _ h=>h);obtain⟨w6,e6,z0,z1,z2,z3,-,-,-,-,-,hfin⟩:=V8 (K:=fun k=>w3.heap.size<=k) (w:=w) (er:=me) (nn:=mn) (by have:=SZ.out;omega) hnK g5.out B5.out.1 S5.out;replace hfin:=Za (hfin.out.mono hKw.out);replace hnK:=Za hnK;replace hb4:=Za hb4;clear hS4 hc4 HM k0 k1 k2 k3 n0 n1
 go_upto_region 2 with fail
 clear u0 u1 u2 u3 uf e5;by_cases hk:me=0
 case neg =>
  have t0:(me != 0)=true:=by simpa using hk
  obtain⟨hn0,hv0⟩:=hno.out hk;have he:Hid (ld=(me,mv,mn)):=Za (by rw[hL.out,if_neg hk,hn0,hv0]);clear hn0 hv0
  go_wp2_with fail
  rw[he.out];exact Qad (v:=.tuple #[.agg #[.slice ra.1 ra.2.1 ra.2.2,.slice rb.1 rb.2.1 rb.2.2,.slice rc.1 rc.2.1 rc.2.2,.slice rd.1 rd.2.1 rd.2.2],.int .i64 mn,.int .i64 me]) (by simp[results,Tryz.results51,go_sem,z0,z1,z2,z3]) rfl hfin.out
 subst hk;by_cases h0:held=0
 ·subst h0
  have he:Hid (ld=(0,mv,mn)):=Za (by rw[hL.out,if_pos rfl,if_pos rfl])
  go_wp2_with fail
  rw[he.out];exact Qad (v:=.tuple #[.agg #[.slice ra.1 ra.2.1 ra.2.2,.slice rb.1 rb.2.1 rb.2.2,.slice rc.1 rc.2.1 rc.2.2,.slice rd.1 rd.2.1 rd.2.2],.int .i64 mn,.int .i64 0]) (by simp[results,Tryz.results51,go_sem,z0,z1,z2,z3]) rfl hfin.out
 clear e6 z0 z1 z2 z3 hfin;have t1:(held==0)=false:=by simpa using h0
 have HL:=Za (Zpb (.agg #[.slice ra.1 ra.2.1 ra.2.2,.slice rb.1 rb.2.1 rb.2.2,.slice rc.1 rc.2.1 rc.2.2,.slice rd.1 rd.2.1 rd.2.2]) mv held w5 (Zel S5.out));obtain⟨le,hle⟩:∃ q,asE mv held=q:=⟨_,rfl⟩
 obtain⟨lv,hlv⟩:∃ q,loV mv held=q:=⟨_,rfl⟩
 have hL2:Hid (ld=if le=0 then (0,lv,mn) else (le,Zn,0)):=Za (by rw[hL.out,if_pos rfl,if_neg h0,hle,hlv]);rw[hle,hlv] at HL;replace hle:=Za hle;replace hlv:=Za hlv;replace h0:=Za h0
 go_upto_region 4 with fail
 go_wp2_with fail
 with_reducible refine(HL.out).mono ?_
 rintro e w7 ⟨pa,pb,pc,pd,rfl,hS7,hb7⟩;have hlt5:=Za (show w3.heap.size<=w5.heap.size from by rw[sz5.out];exact hb4.out.size);have hc7:=(hb7.block w2.heap.size (by have:=SZ.out;have:=hlt5.out;omega)).trans g5.out;obtain⟨u0,u1,u2,u3,uf,_⟩:=Ze hc7;obtain⟨w8,e8,x0,x1,x2,x3,xf,g8,B8,sz8,S8,-⟩:=V8 (K:=fun k=>w3.heap.size<=k) (w:=w) (er:=0) (nn:=0) (by have:=SZ.out;omega) hnK.out hc7 (B5.out.1.trans (hb7.mono B5.out.1.size)) (Zq8 hS7 fun k h=>by have:=hlt5.out;show w3.heap.size<=k;omega);clear hS7 hc7 hb7 HL y0 y1 y2 y3 yf
 go_upto_region 5 with fail
 clear u0 u1 u2 u3 uf e8;by_cases hl0:le=0
 ·subst hl0
  obtain⟨w6,e6,z0,z1,z2,z3,-,-,-,-,-,hfin⟩:=V8 (K:=fun k=>w3.heap.size<=k) (w:=w) (er:=0) (nn:=mn) (by have:=SZ.out;omega) hnK.out g8.out B8.out.1 S8.out;replace hfin:=Za (hfin.out.mono hKw.out);have he:Hid (ld=(0,lv,mn)):=Za (by rw[hL2.out,if_pos rfl])
  go_wp2_with fail
  rw[he.out];exact Qad (v:=.tuple #[.agg #[.slice pa.1 pa.2.1 pa.2.2,.slice pb.1 pb.2.1 pb.2.2,.slice pc.1 pc.2.1 pc.2.2,.slice pd.1 pd.2.1 pd.2.2],.int .i64 mn,.int .i64 0]) (by simp[results,Tryz.results51,go_sem,z0,z1,z2,z3]) rfl hfin.out
 ·have t0:(le != 0)=true:=by simpa using hl0
  obtain⟨w6,e6,z0,z1,z2,z3,-,-,-,-,-,hfin⟩:=V8 (K:=fun k=>w3.heap.size<=k) (w:=w) (ra:=(none,0,0)) (rb:=(none,0,0)) (rc:=(none,0,0)) (rd:=(none,0,0)) (S:=Zn) (er:=le) (nn:=0) (by have:=SZ.out;omega) hnK.out g8.out B8.out.1 (Zu _ _)
  dsimp only at e6 z0 z1 z2 z3
  replace hfin:=Za (hfin.out.mono hKw.out);have he:Hid (ld=(le,Zn,0)):=Za (by rw[hL2.out,if_neg hl0])
  go_wp2_with fail
  rw[he.out];exact Qad (v:=.tuple #[.agg #[.slice none 0 0,.slice none 0 0,.slice none 0 0,.slice none 0 0],.int .i64 0,.int .i64 le]) (by simp[results,Tryz.results51,go_sem,z0,z1,z2,z3]) rfl hfin.out}
theorem Z4d {s0 t u:Rm}{r:Int}{L:Nat}(hm:Yp u=true) (hd:u.1=t.1) (hr:Zi6 s0 t L r) (hh:∀ i:Nat,i≠r.toNat->t.2.1[i]?.getD 0≠0->u.2.1[i]?.getD 0≠0) (hmo:∀ x:Int,x.toNat≠r.toNat->Zdz s0 t x->Zdz s0 u x):∀ {l:Nat}{a:Int},l<L->Zi6 s0 t l a->Zi6 s0 u l a:=by{
 have hnode:∀ {l:Nat} {a:Int},l<L->Zi6 s0 t l a->a.toNat≠r.toNat/\rmE u a=rmE t a/\rmV u a=rmV t a:=fun {l a} hl h=>by
  have h1:=h.ok;have h2:=hr.ok;obtain⟨k,rfl,_,h8,h256,_,_,hE,hV,hx⟩:=Xb (Yu h1.1).2;obtain⟨j,rfl,_,_,_,_,_,_,hV2,_⟩:=Xb (Yu h2.1).2;have hne:k≠j:=fun e=>by
   subst e;rw[h1.2] at h2;omega
  have hne':((k:Int)).toNat≠((j:Int)).toNat:=by omega
  have ha:asE u (k:Int)=0:=Zj6 hm h8 h256 (hh k (by omega) hx);refine⟨hne',?_,?_⟩
  ·rw[hE,rmE,if_pos ha,hd,show ((k:Int)).toNat=k by omega]
  ·rw[hV,rmV,if_pos ha,hd,show ((k:Int)).toNat=k by omega]
 intro l
 induction l with
 | zero =>
  intro a hl h;obtain⟨_,e1,e2⟩:=hnode hl h;exact⟨e1.trans h.1,by rw[e2];exact h.2⟩
 | succ l ih =>
  intro a hl h;obtain⟨_,e1,e2⟩:=hnode hl h;refine⟨e1.trans h.1,by rw[e2];exact h.2.1,fun x hx=> ?_⟩;rw[e2] at hx;obtain⟨g1,g2⟩:=h.2.2 x hx;exact⟨ih (by omega) g1,fun h0=>hmo _ (hnode (by omega) g1).1 (g2 h0)⟩}
structure Zmk (s0 s:Rm) (l:Nat) (r:Int):Prop where
 keep:Zav s0 s
 lev:Zi6 s0 s l r
 more:Zdz s0 s r
theorem Zvj {s:Rm}{r:Int}(h:(rmV s r).2.length=1):∃ x,(rmV s r).2=[x]/\Zmn (rmV s r).2=x.2.1:=by
 match he:(rmV s r).2,h with
 | [x],_=>exact⟨x,rfl,rfl⟩
theorem Zsd {s0 s:Rm}{l:Nat}{r:Int}(h:Zmk s0 s (l+1) r) (h1:(rmV s r).2.length=1) :
  asE s (Zmn (rmV s r).2)=0/\asE s r=0/\(s.2.1[(Zmn (rmV s r).2).toNat]?.getD 0≠255->shE s (Zmn (rmV s r).2)=0/\shV s (Zmn (rmV s r).2)=upR s (Zmn (rmV s r).2)/\asE (upR s (Zmn (rmV s r).2)) r=0 /\
   ∀ v,lfO (upR s (Zmn (rmV s r).2)).1 (upR s (Zmn (rmV s r).2)).2.1 r.toNat=some v->Zmk s0 ((upR s (Zmn (rmV s r).2)).1,v,(upR s (Zmn (rmV s r).2)).2.2) l (Zmn (rmV s r).2)):=by{
 obtain⟨x,hx,ho⟩:=Zvj h1;rw[ho];have hxm:x∈(rmV s r).2:=by rw[hx];exact Pt.2 rfl
 have hlr:=h.lev.ok;obtain⟨lb,mb⟩:=h.lev.2.2 x hxm;have hab:=(Yu lb.ok.1).2;have har:=(Yu hlr.1).2;refine⟨hab,har,fun h255=> ?_⟩;have hsh:shE s x.2.1=0:=by unfold shE;rw[if_pos hab,if_neg h255]
 have hsv:shV s x.2.1=upR s x.2.1:=if_pos hsh;have hk:=Zj0 hsh;rw[hsv] at hk;have har2:=(V5 hk har).1;refine⟨hsh,hsv,har2,fun v hv=> ?_⟩;have hlb:=lb.ok;have hlvl:=hlr.2;obtain⟨j,hj,hmr,j8,j256,_,_,_,hVr,hzr⟩:=Xb har;obtain⟨k,hk',_,k8,k256,_,_,_,hVb,hzb⟩:=Xb hab;have hne:k≠j:=fun e=>by
  rw[hk',e,<- hj] at hlb;rw[hlb.2] at hlvl;omega
 have hlen:=Z0 (Zw hmr).2.1;have hkt:x.2.1.toNat=k:=by omega
 have hjt:r.toNat=j:=by omega
 have hU:(upR s x.2.1).2.1=s.2.1.set k (s.2.1[k]?.getD 0+1):=by unfold upR;rw[hkt]
 have hU1:(upR s x.2.1).1=s.1:=rfl;have hU2:(upR s x.2.1).2.2=s.2.2:=rfl;have hkl:k<s.2.1.length:=by omega
 have uk:Xw (upR s x.2.1).2.1 k=Xw s.2.1 k+1:=by
  unfold Xw;rw[hU,Pi hkl];exact Z1l (by rw[<- hkt];exact h255)
 have uo:∀ i,i≠k->(upR s x.2.1).2.1[i]?.getD 0=s.2.1[i]?.getD 0:=fun i hi=>by rw[hU,Qp (Ne.symm hi)]
 have uo8:∀ i,i≠k->Xw (upR s x.2.1).2.1 i=Xw s.2.1 i:=fun i hi=>by unfold Xw;rw[uo i hi]
 generalize hue:upR s x.2.1=U at *;obtain⟨_,hle,_,hmany⟩:=Zos hv;have hseen:Z4 U.1 j=Z4 s.1 j:=by rw[hU1]
 have hmu:Yp (U.1,v,U.2.2)=true:=by
  obtain⟨m1,m2,m3⟩:=Zw hk.may;exact Zdp m1 (LeT.may hle m2) m3
 have hzb':1<=Xw s.2.1 k:=by have:=Zak.2 hzb;omega
 have hmoreb:∀ x':Int,x'.toNat=k->Zdz s0 s x'->Zdz s0 (U.1,v,U.2.2) x'->True:=fun _ _ _ _=>trivial
 have hv2:(∀ i,i≠j->i≠k->v[i]?.getD 0=s.2.1[i]?.getD 0)/\(Xw s.2.1 j=1->Xw v k=Xw s.2.1 k)/\(1<Xw s.2.1 j->Xw v k=Xw s.2.1 k+1/\Xw v j+1=Xw s.2.1 j):=by
  rw[hjt] at hv hmany;by_cases hc:1<Xw s.2.1 j
  ·have hc':1<(U.2.1[j]?.getD 0).toNat:=by rw[uo j (Ne.symm hne)];exact hc
   have e:=hmany hc';have hjl:j<U.2.1.length:=by rw[hU,Qo];omega
   refine⟨fun i h2 h3=>by rw[e,Qp (Ne.symm h2),uo i h3],fun h2=>by omega,fun _=>⟨?_,?_⟩⟩
   ·have:Xw v k=Xw U.2.1 k:=by unfold Xw;rw[e,Qp (Ne.symm hne)]
    rw[this,uk]
   ·have:Xw v j=(U.2.1[j]?.getD 0-1).toNat:=by unfold Xw;rw[e,Pi hjl];rfl
    rw[this,uo j (Ne.symm hne)];exact Zj5 hzr
  ·have hc1:Xw s.2.1 j=1:=by have:=Zak.2 hzr;omega
   refine⟨?_,fun _=> ?_,fun h2=>absurd h2 hc⟩
   all_goals
    unfold lfO at hv;have hd:dnO U.2.1 j=some (U.2.1.set j (U.2.1[j]?.getD 0-1)):=Zfx (by rw[uo j (Ne.symm hne)];exact hzr);rw[hd,hseen] at hv;have hn1:¬ 1<(U.2.1[j]?.getD 0).toNat:=by rw[uo j (Ne.symm hne)];exact hc
    have hv':(if 1<(U.2.1[j]?.getD 0).toNat then some (U.2.1.set j (U.2.1[j]?.getD 0-1)) else if reN (Z4 s.1 j)=0 then Xi (lvF U.1 (reV (Z4 s.1 j)).1.toNat) (U.2.1.set j (U.2.1[j]?.getD 0-1)) (reV (Z4 s.1 j)).2 else none)=some v:=hv;rw[if_neg hn1] at hv';split at hv'
    ·rw[<- hVr,hx] at hv'
     have hx0:¬ x.2.1=0:=by omega
     simp only[Xi,if_neg hx0,hkt] at hv';have hkl':k<(U.2.1.set j (U.2.1[j]?.getD 0-1)).length:=by rw[Qo,hU,Qo];omega
     have hck:(U.2.1.set j (U.2.1[j]?.getD 0-1))[k]?.getD 0=U.2.1[k]?.getD 0:=by rw[Qp hne.symm]
     have h2k:1<((U.2.1.set j (U.2.1[j]?.getD 0-1))[k]?.getD 0).toNat:=by
      rw[hck];have:=uk;unfold Xw at this hzb';omega
     rw[Zrt U.1 _ _ _ h2k] at hv';have hve:v=(U.2.1.set j (U.2.1[j]?.getD 0-1)).set k ((U.2.1.set j (U.2.1[j]?.getD 0-1))[k]?.getD 0-1):=by
      have:some ((U.2.1.set j (U.2.1[j]?.getD 0-1)).set k ((U.2.1.set j (U.2.1[j]?.getD 0-1))[k]?.getD 0-1))=some v:=hv';exact(Option.some.inj this).symm
     first
      | exact fun i h2 h3=>by rw[hve,Qp (Ne.symm h3),Qp (Ne.symm h2),uo i h3]
      | (
        have h3:Xw v k=((U.2.1.set j (U.2.1[j]?.getD 0-1))[k]?.getD 0-1).toNat:=by unfold Xw;rw[hve,Pi hkl'];rfl
        have h4:=Zj5 (Zlz h2k);rw[h3];rw[hck] at h4 ⊢;unfold Xw at uk ⊢
        omega)
    ·cases hv'
 obtain⟨v1,v2,v3⟩:=hv2;have hcase:Xw s.2.1 j=1\/1<Xw s.2.1 j:=by have:=Zak.2 hzr;omega
 have hmj:=h.more;unfold Zdz at hmj;rw[hjt] at hmj;have Zno:s0.2.1[j]?.getD 0≠0->1<Xw s.2.1 j:=fun h0=>by rw[if_pos h0] at hmj;omega
 have hvk:Xw s.2.1 k<=Xw v k:=by
  rcases hcase with c | c
  ·rw[v2 c];exact Qd _
  ·rw[(v3 c).1];omega
 have hkeep:Zav s0 (U.1,v,U.2.2):=by
  refine⟨hmu,fun i hi=> ?_,fun i hi=>by show Z4 U.1 i=_;rw[hU1];exact h.keep.seen i hi⟩;have h0:=h.keep.held i hi;by_cases e1:i=k
  ·subst e1
   exact Zak.1 (by show Xw v i≠0;omega)
  ·by_cases e2:i=j
   ·subst e2
    have:=(v3 (Zno hi)).2;exact Zak.1 (by show Xw v i≠0;have:=Zno hi;omega)
   ·show v[i]?.getD 0≠0
    rw[v1 i e2 e1];exact h0
 have hmono:∀ x':Int,x'.toNat≠r.toNat->Zdz s0 s x'->Zdz s0 (U.1,v,U.2.2) x':=fun x' h2 h3=>by
  refine Zl5 ?_ h3;show Xw s.2.1 x'.toNat<=Xw v x'.toNat;by_cases e:x'.toNat=k
  ·rw[e];exact hvk
  ·rw[hjt] at h2
   unfold Xw;rw[v1 _ h2 e];exact Qd _
 refine⟨hkeep,Z4d hmu hU1 h.lev (fun i h2 h3=> ?_) hmono (P8 l) lb,?_⟩
 ·rw[hjt] at h2
  by_cases e:i=k
  ·subst e
   exact Zak.1 (by show Xw v i≠0;omega)
  ·show v[i]?.getD 0≠0
   rw[v1 i h2 e];exact h3
 ·by_cases h0:s0.2.1[j]?.getD 0=0
  ·exact hmono _ (by omega) (mb (by rw[hjt];exact h0))
  ·have:=(v3 (Zno h0)).1
   unfold Zdz;show _<=Xw v x.2.1.toNat;rw[hkt];split <;> omega}
theorem Zpx {s0 s:Rm}{l:Nat}{r:Int}(h:Zmk s0 s l r) (h1:(rmV s r).1=0\/1<(rmV s r).2.length):Yc l s r=(0,s,r):=by{
 cases l with
 | zero=>rfl
 | succ l =>
  have:=h.lev.ok.2;unfold Yc;rw[if_neg (by rcases h1 with h1 | h1 <;> omega)]}
theorem Zqf {s:Rm}{n:Int}{v:List UInt8}(ha:asE s n=0) (h:lfO s.1 s.2.1 n.toNat=some v):lvE s n=0/\lvV s n=(s.1,v,s.2.2):=by
 unfold lvE lvV;rw[if_pos ha,if_pos ha,h];exact⟨rfl,rfl⟩
theorem Zym {s:Rm}{n:Int}(ha:asE s n=0) (h:lfO s.1 s.2.1 n.toNat=none):lvE s n=8:=by
 unfold lvE;rw[if_pos ha,h]
theorem Z1g {s0 s:Rm}{l:Nat}{r:Int}(h:Zmk s0 s l r) (h1:¬ ((rmV s r).1=0\/1<(rmV s r).2.length)):∃ j y,l=j+1/\(rmV s r).2=[y] /\
  ((shE s y.2.1=70/\Yc l s r=(70,Zn,0))\/(shE s y.2.1=0/\lvE (shV s y.2.1) r=8/\Yc l s r=(8,Zn,0)) \/
   (shE s y.2.1=0/\lvE (shV s y.2.1) r=0/\Yc l s r=Yc j (lvV (shV s y.2.1) r) y.2.1/\Zmk s0 (lvV (shV s y.2.1) r) j y.2.1)):=by{
 have hlv:=h.lev.ok;cases l with
 | zero=>exact absurd (.inl (by rw[hlv.2];rfl)) h1
 | succ j =>
  have hne:0<(rmV s r).2.length:=(Zs (Yu hlv.1).1).1.2.2.2 (by rw[hlv.2];omega);have hl:(rmV s r).2.length=1:=by
   have:¬ 1<(rmV s r).2.length:=fun h=>h1 (.inr h)
   omega
  obtain⟨y,hy,ho⟩:=Zvj hl;obtain⟨g1,g2,g3⟩:=Zsd h hl;rw[ho] at g1 g3;refine⟨j,y,rfl,hy,?_⟩;have hun:Yc (j+1) s r=(if s.2.1[y.2.1.toNat]?.getD 0=255 then (70,Zn,0) else match lfO (upR s y.2.1).1 (upR s y.2.1).2.1 r.toNat with | none=>(8,Zn,0) | some v=>Yc j ((upR s y.2.1).1,v,(upR s y.2.1).2.2) y.2.1):=by
   conv=>lhs;unfold Yc
   rw[if_pos hl,ho];rfl
  rw[hun];by_cases h255:s.2.1[y.2.1.toNat]?.getD 0=255
  ·rw[if_pos h255]
   exact .inl ⟨by unfold shE;rw[if_pos g1,if_pos h255],rfl⟩
  ·rw[if_neg h255]
   obtain⟨e1,e2,e3,e4⟩:=g3 h255;rw[e2];cases hf:lfO (upR s y.2.1).1 (upR s y.2.1).2.1 r.toNat with
   | none=>exact .inr (.inl ⟨e1,Zym e3 hf,rfl⟩)
   | some v =>
    obtain⟨f1,f2⟩:=Zqf e3 hf;exact .inr (.inr ⟨e1,f1,by rw[f2],by rw[f2];exact e4 v hf⟩)}
theorem Zlp {P:Nat->Prop}(h:∃ j,P j):∃ j,P j/\∀ i,P i->j<=i:=by{
 obtain⟨j,hj⟩:=h
 induction j using P5 with
 | ind j ih =>
  by_cases hs:∃ i,i<j/\P i
  ·obtain⟨i,hi,hp⟩:=hs
   exact ih i hi hp
  ·exact⟨j,hj,fun i hi=>Nat.le_of_not_lt fun h=>hs ⟨i,h,hi⟩⟩}
open Classical in
def Ziz (P:Nat->Prop):Nat:=if h:∃ j,P j then Classical.choose (Zlp h) else 0
theorem Zvk {P:Nat->Prop}(h:∃ j,P j):P (Ziz P):=by
 unfold Ziz;rw[dif_pos h];exact(Classical.choose_spec (Zlp h)).1
theorem Zol {P:Nat->Prop}{j:Nat}(h:P j):Ziz P<=j:=by
 unfold Ziz;rw[dif_pos ⟨j,h⟩];exact(Classical.choose_spec (Zlp ⟨j,h⟩)).2 j h
theorem Znc {P:Nat->Prop}(h:∃ j,P j):∃ j,Ziz P=j/\P j:=⟨_,rfl,Zvk h⟩
theorem Zpz (v:Qaa) (s:Rm) (n:Int) (w:P9) (h:Sto (Old w) w v s) :
  Qag Tryz.prog 53 #[v,.int .i64 n] w fun e W'=>∃ qa qb qc qd:Option Qab×Nat×Nat,e=.returned (.tuple #[.agg #[.slice qa.1 qa.2.1 qa.2.2,.slice qb.1 qb.2.1 qb.2.2,.slice qc.1 qc.2.1 qc.2.2,.slice qd.1 qd.2.1 qd.2.2],.int .i64 (shE s n)])/\Sto (New w.heap.size W') W' (.agg #[.slice qa.1 qa.2.1 qa.2.2,.slice qb.1 qb.2.1 qb.2.2,.slice qc.1 qc.2.1 qc.2.2,.slice qd.1 qd.2.1 qd.2.2]) (shV s n)/\Qai w.heap.size w W' :=
 (Zp8 v s n w h).mono fun _ _ ⟨A,ca,B,cb,N,cn,L,cl,h1,h2,h3⟩=>⟨(A,_,ca),(B,_,cb),(N,_,cn),(L,_,cl),h1,h2,h3⟩
def LwJ (K:Nat->Prop) (s0:Rm) (w w1 w2:P9) (g:Int×Rm×Int) (rv:Qaa) (wr:P9) (j:Nat):Prop:=∃ (S:Rm) (r:Int) (qa qb qc qd:Option Qab×Nat×Nat),rv=.int .i64 r/\g=Yc j S r/\Zmk s0 S j r/\Qai w.heap.size w wr/\w2.heap.size<=wr.heap.size /\
 wr.heap[w.heap.size]? = some (.cells #[.slice qa.1 qa.2.1 qa.2.2,.slice qb.1 qb.2.1 qb.2.2,.slice qc.1 qc.2.1 qc.2.2,.slice qd.1 qd.2.1 qd.2.2] 29 (0,0)) /\
 Sto (Kn (fun k=>K k/\(k<w.heap.size\/w2.heap.size<=k)) wr) wr (.agg #[.slice qa.1 qa.2.1 qa.2.2,.slice qb.1 qb.2.1 qb.2.2,.slice qc.1 qc.2.1 qc.2.2,.slice qd.1 qd.2.1 qd.2.2]) S /\
 wr.heap[w1.heap.size]? = some (.cells #[.slice none 0 0,.slice none 0 0,.slice none 0 0,.slice none 0 0] 29 (0,0))
theorem Zmq (K:Nat->Prop) (qa qb qc qd:Option Qab×Nat×Nat) (s0 s:Rm) (l:Nat) (r:Int) (hI:Zmk s0 s l r) (w:P9) (hK:∀ k,w.heap.size<=k->K k) (h:Sto (Kn K w) w (.agg #[.slice qa.1 qa.2.1 qa.2.2,.slice qb.1 qb.2.1 qb.2.2,.slice qc.1 qc.2.1 qc.2.2,.slice qd.1 qd.2.1 qd.2.2]) s) :
  Qag Tryz.prog 27 #[.agg #[.slice qa.1 qa.2.1 qa.2.2,.slice qb.1 qb.2.1 qb.2.2,.slice qc.1 qc.2.1 qc.2.2,.slice qd.1 qd.2.1 qd.2.2],.int .i64 r] w (Zyp K w (Yc l s r)):=by{
 obtain⟨w1,hw1,b1,hs1,hB1⟩:=Vm w (.slice qa.1 qa.2.1 qa.2.2) (.slice qb.1 qb.2.1 qb.2.2) (.slice qc.1 qc.2.1 qc.2.2) (.slice qd.1 qd.2.1 qd.2.2) 29;obtain⟨w2,hw2,b2,hs2,hB2⟩:=Vm w1 (.slice none 0 0) (.slice none 0 0) (.slice none 0 0) (.slice none 0 0) 29;have hB12:=hB1.trans (hB2.mono hB1.size);obtain⟨g,hg⟩:∃ q,Yc l s r=q:=⟨_,rfl⟩
 rw[hg];have hJ0:Hid (LwJ K s0 w w1 w2 g (.int .i64 r) w2 l):=Za ⟨s,r,qa,qb,qc,qd,rfl,hg.symm,hI,hB12,Qd _,(hB2.block _ (by omega)).trans b1,h.map fun p v hp hc=>⟨⟨⟨hp.1,.inl hp.2⟩,by have:=hp.2;omega⟩,(hB12.cell hp.2).trans hc⟩,b2⟩;have SZ:=Za (show w1.heap.size=w.heap.size+1/\w2.heap.size=w.heap.size+2 from by omega);obtain⟨KX,hKX⟩:∃ KX:Nat->Prop,KX=fun k=>K k/\(k<w.heap.size\/w2.heap.size<=k):=⟨_,rfl⟩
 have hX:Hid ((¬ KX w.heap.size)/\(¬ KX w1.heap.size)/\(∀ k,KX k->K k)/\∀ k,w2.heap.size<=k->KX k):=Za (by
  rw[hKX];refine⟨fun h=> ?_,fun h=> ?_,fun k h=>h.1,fun k h=>⟨hK k (by omega),.inr h⟩⟩
  ·rcases h.2 with h | h <;> omega
  ·rcases h.2 with h | h <;> omega)
 have hgo:=Za (fun(S:Rm) (j:Nat) (x:Int)=>@Z1g s0 S j x);have hend:=Za (fun(S:Rm) (j:Nat) (x:Int)=>@Zpx s0 S j x);replace hg:=Za hg;replace hKX:=Za hKX;replace hs1:=Za hs1;replace hs2:=Za hs2;clear h hB1 hB2 hB12 b1 b2 hI
 go_enter Tryz.func27,Tryz.ntmps27
 go_wp2_with fail
 clear hw1 hw2
 go_loopw [1] (fun rv wr=>∃ j,LwJ K s0 w w1 w2 g rv wr j) (fun rv wr=>Ziz (LwJ K s0 w w1 w2 g rv wr))
 case atStart=>exact⟨l,hJ0.out⟩
 case round =>
  obtain⟨j,hj,S,x,pa,pb,pc,pd,rfl,hgj,hIj,hBw,hsz,hbx,hS,hrb⟩:=Znc hrel;rw[<- hKX.out] at hS;clear hrel;have hN:=Zeo _ S x wr (Zel hS);have hlv:=hIj.lev.ok;have hEnd:=Za (hend.out S j x hIj);have hGo:=Za (hgo.out S j x hIj);rw[hlv.1] at hN;clear hlv hIj;obtain⟨nd,hnd⟩:∃ q,rmV S x=q:=⟨_,rfl⟩
  rw[hnd] at hN hEnd hGo;replace hnd:=Za hnd;obtain⟨lw,hlw⟩:∃ q,nd.1=q:=⟨_,rfl⟩
  obtain⟨nl,hnl⟩:∃ q,nd.2.length=q:=⟨_,rfl⟩
  obtain⟨k0,k1,k2,k3,kf,_⟩:=Ze hbx;have hbx':=Za hbx;have hrb':=Za hrb;have hS':=Za hS;have hBw':=Za hBw;have hsz':=Za hsz;replace hgj:=Za hgj;replace hj:=Za hj;clear hbx hrb hS hBw hsz
  go_upto_region 1 with fail
  go_wp2_with fail
  with_reducible refine hN.mono ?_
  rintro e W1 ⟨u,rfl,⟨Z,zc,rfl,hin,hrow⟩,hb1⟩;rw[hnl,hlw];clear hN k0 k1 k2 k3 kf hin;obtain⟨w3,hw3,b3,hs3,hB3⟩:=Zy W1 (.int .i64 lw) (.slice Z nl zc) 81;have B13:=Za (hb1.trans (hB3.mono hb1.size));obtain⟨n0,n1,_⟩:=Zg b3;have c3:=Za ((B13.out.block w.heap.size (by have:=hsz'.out;have:=SZ.out;omega)).trans hbx'.out);have r3:=Za ((B13.out.block w1.heap.size (by have:=hsz'.out;have:=SZ.out;omega)).trans hrb'.out);have B3:=Za (hBw'.out.trans (B13.out.mono hBw'.out.size));have S3:=Za (Zbq (K':=KX) hS'.out (fun _ h=>h) B13.out);obtain⟨k0,k1,k2,k3,kf,_⟩:=Ze c3.out;obtain⟨u0,u1,u2,u3,uf,_⟩:=Ze r3.out;have hrow3:=Za ((hrow.below Yl hB3).rel Yl);obtain⟨cs,ho,_⟩:=hrow.below Yl hB3;have HO:=Za ho;clear ho;have hz3:=Za (show w2.heap.size<=w3.heap.size from Qc hsz'.out B13.out.size);replace hs3:=Za hs3;replace b3:=Za b3;clear hb1 hB3 hrow
  go_upto_region 4 with fail
  clear hw3;by_cases he:lw=0\/1<nl
  ·obtain⟨w6,e6,z0,z1,z2,z3,-,-,-,-,-,hfin⟩:=V8 (K:=KX) (w:=w) (er:=0) (nn:=x) (by have:=SZ.out;omega) hX.out.2.1 r3.out B3.out S3.out
   have hfin:Hid (Zyp K w g (.returned (.tuple #[.agg #[.slice pa.1 pa.2.1 pa.2.2,.slice pb.1 pb.2.1 pb.2.2,.slice pc.1 pc.2.1 pc.2.2,.slice pd.1 pd.2.1 pd.2.2],.int .i64 x,.int .i64 0])) w6):=Za (by
    rw[hgj.out,hEnd.out (by rw[hlw,hnl];exact he)]
    exact hfin.out.mono hX.out.2.2.1)
   replace hlw:=Za hlw;replace hnl:=Za hnl;by_cases h0:lw=0
   ·subst h0
    clear he
    go_wp2_with fail
    exact Qad (v:=.tuple #[.agg #[.slice pa.1 pa.2.1 pa.2.2,.slice pb.1 pb.2.1 pb.2.2,.slice pc.1 pc.2.1 pc.2.2,.slice pd.1 pd.2.1 pd.2.2],.int .i64 x,.int .i64 0]) (by simp[results,Tryz.results27,go_sem,z0,z1,z2,z3]) rfl hfin.out
   ·have t0:(lw==0)=false:=by simpa using h0
    have t1:(1:Int)<(nl:Int):=by omega
    have t2:1<nl:=by omega
    clear he
    go_wp2_with fail
    exact Qad (v:=.tuple #[.agg #[.slice pa.1 pa.2.1 pa.2.2,.slice pb.1 pb.2.1 pb.2.2,.slice pc.1 pc.2.1 pc.2.2,.slice pd.1 pd.2.1 pd.2.2],.int .i64 x,.int .i64 0]) (by simp[results,Tryz.results27,go_sem,z0,z1,z2,z3]) rfl hfin.out
  obtain⟨i,y,hij,hy,hways⟩:=hGo.out (by rw[hlw,hnl];exact he);have t0:(lw==0)=false:=by
   have:¬ lw=0:=fun h=>he (.inl h)
   simpa using this
  obtain rfl:nl=1:=by rw[<- hnl,hy];rfl
  obtain⟨ad,E,ce,e0,_,⟨_,_,_,t3,_⟩,_⟩:=Zao hrow3.out (show nd.2[0]? = some y by rw[hy];rfl);subst e0;obtain⟨zb,C,rfl,_⟩:=Xs HO.out;replace HO:=Za HO;have t3':w3.cell? ⟨zb,3,none⟩=some (.int .i64 y.2.1):=by simpa [Addr.add] using t3
  obtain⟨b,hb⟩:∃ b,y.2.1=b:=⟨_,rfl⟩
  rw[hb] at hways t3 t3';obtain⟨se,hse⟩:∃ q,shE S b=q:=⟨_,rfl⟩
  obtain⟨sv,hsv⟩:∃ q,shV S b=q:=⟨_,rfl⟩
  have HS:=Za (Zpz _ S b w3 (Zel S3.out));rw[hse,hsv] at HS hways;replace hways:=Za hways;replace hy:=Za hy;replace hb:=Za hb;replace hse:=Za hse;replace hsv:=Za hsv;replace hlw:=Za hlw;replace hnl:=Za hnl;replace he:=Za he;replace hij:=Za hij;clear u0 u1 u2 u3 uf
  go_upto_region 7 with fail
  go_wp2_with fail
  with_reducible refine(HS.out).mono ?_
  rintro e w4 ⟨ra,rb,rc,rd,rfl,hS4,hb4⟩;have c4:=(hb4.block w.heap.size (by have:=SZ.out;have:=hz3.out;omega)).trans c3.out;have r4:=Za ((hb4.block w1.heap.size (by have:=SZ.out;have:=hz3.out;omega)).trans r3.out);have n4:=(hb4.block W1.heap.size (by have:=hs3.out;omega)).trans b3.out;obtain⟨v0,v1,v2,v3,vf,_⟩:=Ze c4;obtain⟨w5,e5,y0,y1,y2,y3,yf,g5,B5,sz5,S5,-⟩:=V8 (K:=KX) (w:=w) (er:=0) (nn:=0) (Qd _) hX.out.1 c4 (B3.out.trans (hb4.mono B3.out.size)) (Zq8 hS4 fun k h=>hX.out.2.2.2 k (Qc hz3.out h));have r5:=Za ((B5.out.2.block w1.heap.size (by have:=SZ.out;have:=hz3.out;have:=hb4.size;omega) (fun e=>by have:=Option.some.inj e;have:=SZ.out;omega)).trans r4.out);have hz5:=Za (show w2.heap.size<=w5.heap.size from by rw[sz5.out];exact Qc hz3.out hb4.size);clear hS4 hb4 c4 HS k0 k1 k2 k3 kf n0 n1 n4 t3 t3'
  go_upto_region 8 with fail
  clear v0 v1 v2 v3 vf e5;by_cases hs0:se=0
  case neg =>
   have t1:(se != 0)=true:=by simpa using hs0
   obtain⟨u0,u1,u2,u3,uf,_⟩:=Ze r5.out;obtain⟨w6,e6,z0,z1,z2,z3,-,-,-,-,-,hfin⟩:=V8 (K:=KX) (w:=w) (ra:=(none,0,0)) (rb:=(none,0,0)) (rc:=(none,0,0)) (rd:=(none,0,0)) (S:=Zn) (er:=se) (nn:=0) (by have:=SZ.out;omega) hX.out.2.1 r5.out B5.out.1 (Zu _ _)
   dsimp only at e6 z0 z1 z2 z3
   have hfin:Hid (Zyp K w g (.returned (.tuple #[.agg #[.slice none 0 0,.slice none 0 0,.slice none 0 0,.slice none 0 0],.int .i64 0,.int .i64 se])) w6):=Za (by
    rcases hways.out with ⟨h1,h2⟩ | ⟨h1,_⟩ | ⟨h1,_⟩
    ·rw[hgj.out,h2,<- h1]
     exact hfin.out.mono hX.out.2.2.1
    ·exact absurd h1 hs0
    ·exact absurd h1 hs0)
   go_wp2_with fail
   exact Qad (v:=.tuple #[.agg #[.slice none 0 0,.slice none 0 0,.slice none 0 0,.slice none 0 0],.int .i64 0,.int .i64 se]) (by simp[results,Tryz.results27,go_sem,z0,z1,z2,z3]) rfl hfin.out
  subst hs0;obtain⟨le,hle⟩:∃ q,lvE sv x=q:=⟨_,rfl⟩
  obtain⟨lv,hlv⟩:∃ q,lvV sv x=q:=⟨_,rfl⟩
  have HL:=Za (Zim _ sv x w5 (Zel S5.out))
  have hways2:Hid ((le=8/\Yc j S x=(8,Zn,0))\/(le=0/\Yc j S x=Yc i lv b/\Zmk s0 lv i b)):=Za (by
   rcases hways.out with ⟨h1,_⟩ | ⟨_,h2,h3⟩ | ⟨_,h2,h3,h4⟩
   ·exact absurd h1 (by decide)
   ·exact .inl ⟨hle ▸ h2,h3⟩
   ·exact .inr ⟨hle ▸ h2,hlv ▸ h3,hlv ▸ h4⟩)
  rw[hle,hlv] at HL;replace hle:=Za hle;replace hlv:=Za hlv
  go_upto_region 10 with fail
  go_wp2_with fail
  with_reducible refine(HL.out).mono ?_
  rintro e w6 ⟨ra',rb',rc',rd',rfl,hS6,hb6⟩;have c6:=(hb6.block w.heap.size (by have:=SZ.out;have:=hz5.out;omega)).trans g5.out;have r6:=Za ((hb6.block w1.heap.size (by have:=SZ.out;have:=hz5.out;omega)).trans r5.out);obtain⟨v0,v1,v2,v3,vf,_⟩:=Ze c6;obtain⟨w7,e7,x0,x1,x2,x3,xf,g7,B7,sz7,S7,-⟩:=V8 (K:=KX) (w:=w) (er:=0) (nn:=0) (Qd _) hX.out.1 c6 (B5.out.1.trans (hb6.mono B5.out.1.size)) (Zq8 hS6 fun k h=>hX.out.2.2.2 k (Qc hz5.out h));have r7:=Za ((B7.out.2.block w1.heap.size (by have:=SZ.out;have:=hz5.out;have:=hb6.size;omega) (fun e=>by have:=Option.some.inj e;have:=SZ.out;omega)).trans r6.out);have hz7:=Za (show w2.heap.size<=w7.heap.size from by rw[sz7.out];exact Qc hz5.out hb6.size);clear hS6 hb6 c6 HL y0 y1 y2 y3 yf
  go_upto_region 11 with fail
  clear v0 v1 v2 v3 vf e7;by_cases hl0:le=0
  case neg =>
   have t1:(le != 0)=true:=by simpa using hl0
   obtain⟨u0,u1,u2,u3,uf,_⟩:=Ze r7.out;obtain⟨w8,e8,z0,z1,z2,z3,-,-,-,-,-,hfin⟩:=V8 (K:=KX) (w:=w) (ra:=(none,0,0)) (rb:=(none,0,0)) (rc:=(none,0,0)) (rd:=(none,0,0)) (S:=Zn) (er:=le) (nn:=0) (by have:=SZ.out;omega) hX.out.2.1 r7.out B7.out.1 (Zu _ _)
   dsimp only at e8 z0 z1 z2 z3
   have hfin:Hid (Zyp K w g (.returned (.tuple #[.agg #[.slice none 0 0,.slice none 0 0,.slice none 0 0,.slice none 0 0],.int .i64 0,.int .i64 le])) w8):=Za (by
    rcases hways2.out with ⟨h1,h2⟩ | ⟨h1,_⟩
    ·rw[hgj.out,h2,<- h1]
     exact hfin.out.mono hX.out.2.2.1
    ·exact absurd h1 hl0)
   go_wp2_with fail
   exact Qad (v:=.tuple #[.agg #[.slice none 0 0,.slice none 0 0,.slice none 0 0,.slice none 0 0],.int .i64 0,.int .i64 le]) (by simp[results,Tryz.results27,go_sem,z0,z1,z2,z3]) rfl hfin.out
  subst hl0
  have hnew:Hid (LwJ K s0 w w1 w2 g (.int .i64 b) w7 i):=Za (by
   rcases hways2.out with ⟨h1,_⟩ | ⟨_,h2,h3⟩
   ·exact absurd h1 (by decide)
   ·exact⟨lv,b,ra',rb',rc',rd',rfl,by rw[hgj.out,h2],h3,B7.out.1,hz7.out,g7.out,by rw[<- hKX.out];exact S7.out,r7.out⟩)
  go_wp2_with fail
  go_roundw
  case rel=>exact⟨i,hnew.out⟩
  case measure=>exact Nat.lt_of_le_of_lt (Zol hnew.out) (by rw[hj.out,hij.out];exact P8 _)}
end Go.Proofs.YtgmbjnajdfgenaaGreat
