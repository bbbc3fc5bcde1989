/-
  Lemmas on the program and on the document's answers, gathered: DeEnough, PuHeld. Conditions: those that each lemma states.
-/
import Derived.Test.YtgmbjnajdfgenaaGreatBnd6
set_option maxRecDepth 100000
set_option maxHeartbeats 16000000
open Array renaming getElem?_eq_some_iff → Qo
open Go.Act renaming put → Qa
open Go.RowKit renaming Below → Qp
open Go.RowKit.Below renaming refl → Qb
open List renaming mem_of_getElem? → Qd, mem_append → Qe, getElem?_eq_getElem → Qf, mem_singleton → Qg, length_take → Qh, take_add_one → Qi, take_of_length_le → Qj, take_succ_cons → Qk, take_zero → Ql, drop_succ_cons → Qm, drop_zero → Qn
open Nat renaming le_refl → Qc
namespace Go.Proofs.YtgmbjnajdfgenaaGreat
open Go.RowKit
theorem Zhe (qa qb qc qd:Option Addr×Nat×Nat) (s:Rm) (R:Option Addr) (nr cr:Nat) (roots:List Int) (w:World) (h:Sto (Old w) w (.agg #[.slice qa.1 qa.2.1 qa.2.2,.slice qb.1 qb.2.1 qb.2.2,.slice qc.1 qc.2.1 qc.2.2,.slice qd.1 qd.2.1 qd.2.2]) s)
  (hr:rSl 1 (rK .i64) (Old w) w [.slice R nr cr] roots) (hrn:roots.length=nr) (hr4:nr<=4) (hr0:0<nr) (ht:∀ r∈roots,ckE s r=0) :
  Calls Tryz.prog 19 #[.agg #[.slice qa.1 qa.2.1 qa.2.2,.slice qb.1 qb.2.1 qb.2.2,.slice qc.1 qc.2.1 qc.2.2,.slice qd.1 qd.2.1 qd.2.2],.slice R nr cr] w (Ybu s roots [] w):=by{
 obtain⟨held,hheld⟩:∃ held:List Int,[]=held:=⟨_,rfl⟩
 rw[hheld];obtain⟨w1,hw1,b1,hs1,hB1⟩:=X3 w (.slice qa.1 qa.2.1 qa.2.2) (.slice qb.1 qb.2.1 qb.2.2) (.slice qc.1 qc.2.1 qc.2.2) (.slice qd.1 qd.2.1 qd.2.2) 29;obtain⟨w2,hw2,hbt,hct,hB2,hs2⟩:=Z2y w1;have hB12:=hB1.trans (hB2.mono hB1.size);have SZ:=Za (show w1.heap.size=w.heap.size+1/\w2.heap.size=w.heap.size+3 from ⟨hs1,by omega⟩);have B2:=Za hB12;have HS:=Za (fun W (hW:Qp w1.heap.size w2 W)=>And.intro (Ze ((hW.block w.heap.size (by omega)).trans ((hB2.block w.heap.size (by omega)).trans b1))) (h.below (hB12.trans (hW.mono hB1.size))));have HR:=Za (fun j (x:Int) (hx:roots[j]? = some x)=>Yb8 hr hx);have E2:=Za (show EnS w1.heap.size w1.heap.size w2 (fun _=>0) [] w2 from ⟨Qb _ _,hct,hbt⟩);have LR:=Za hrn;have LH:=Za (show held.length=0 by rw[<- hheld];rfl);have hT:=Za ht
 have hlen:Hid (s.2.1.length=256):=Za (by
  obtain⟨x,hx⟩:∃ x,roots[0]? = some x:=⟨_,Qf (by omega)⟩
  obtain⟨-,-,hm,-⟩:=Y4 (Zah (ht x (Qd hx))).2.1
  exact Yx (Yf hm).2.1)
 replace hs1:=Za hs1;replace hs2:=Za hs2;have hE1:Hid (EnS w1.heap.size w1.heap.size w2 (fun i=>((Zcj held i:Nat):Int)) [] w2):=Za (by rw[<- hheld];exact E2.out);replace hheld:=Za hheld;clear h hr hrn ht hB1 hB2 hB12 b1 hbt hct
 go_enter Tryz.func19,Tryz.ntmps19
 go_upto_region 3 with fail
 clear hw1 hw2
 go_wp2_with fail
 go_loopw [7] (fun iv wr=>∃ (j:Nat) (V:List Int),j<=nr/\iv=.int .i64 (j:Int)/\EnS w1.heap.size w1.heap.size w2 (Zcg s held (roots.take j) V) V wr/\V.Nodup/\∀ n,n∈V↔∃ r∈roots.take j,n∈Xj s r) (fun iv _=>nr-(intOf iv).toNat)
 case atStart=>exact⟨0,[],by omega,rfl,by
  have:=hE1.out;have e:Zcg s held (roots.take 0) []=fun i=>((Zcj held i:Nat):Int):=by
   funext i
   unfold Zcg;simp[Zcj,Zqk]
  rw[e]
  exact this,List.nodup_nil,fun n=>by simp⟩
 case round =>
  obtain⟨j',V,hj,rfl,hE,hVd,hVm⟩:=hrel
  have hVr:Hid (∀ n∈V,rmE s n=0):=Za (fun n hn=>by
   obtain⟨r,hr,hnr⟩:=(hVm n).1 hn
   exact(Zar (Zah (hT.out r (List.mem_of_mem_take hr))).1).node n hnr)
  by_cases hlt':j'<nr
  case neg =>
   obtain rfl:j'=nr:=by omega
   have i3:¬ ((j':Int)<(j':Int)):=by omega
   have eR:roots.take j'=roots:=Qj (by rw[LR.out];exact Qc _);rw[eR] at hE hVm;have HE:=Za hE;have HV:=Za hVm;have HN:=Za (fun W (hW:Qp w1.heap.size w2 W)=>(HS.out W hW).2.parts.2.1);clear hE hVm eR
   go_wp2_with fail
   obtain⟨v3,rfl⟩:∃ v3:World,v3=wr:=⟨_,rfl⟩
   have hn0:w1.heap.size+1<v3.heap.size:=Zt5 HE.out.cnt;have B3:=Za (B2.out.trans (HE.out.low.mono (by have:=SZ.out;omega)))
   go_loopw [15] (fun iv wz=>∃ (i:Nat),1<=i/\i<=256/\iv=.int .i64 (i:Int)/\Qp v3.heap.size v3 wz/\∀ t:Nat,1<=t->t<i->Zcj held t+Zcj roots t+Zqk s V t<=Yy s.2.1 t) (fun iv _=>256-(intOf iv).toNat)
   case atStart=>exact⟨1,by omega,by omega,rfl,Qb _ _,fun t h1 h2=>by omega⟩
   case round =>
    obtain⟨i,hi1,hi2,rfl,hB,hall⟩:=hrel;have BB:=Za (B3.out.trans (hB.mono B3.out.size));by_cases hi:i<256
    case neg =>
     have i4:¬ ((i:Int)<256):=by omega
     have hfin:Hid (Ybu s roots held w (.returned (.bool true)) wr):=Za ⟨V,true,hVd,HV.out,⟨fun _ t h1 h2=>by rw[<- Zl6 h1 V hVr.out];exact hall t h1 (by omega),fun _=>rfl⟩,rfl,BB.out⟩;clear hall hB
     go_wp2_with fail
     exact bodyPost_ret (v:=.bool true) (by simp[results,Tryz.results19,go_sem]) rfl hfin.out
    obtain⟨y,hy⟩:∃ y,s.2.1[i]? = some y:=⟨_,Qf (by rw[hlen.out];exact hi)⟩
    have hw2r:Qp w1.heap.size w2 wr:=HE.out.low.trans (hB.mono (by omega));have hby:=HN.out wr hw2r;obtain⟨A',cap',e,_,_,hbt⟩:=Vd (B:=wr.heap.size) (fun p hp=>hp) hby
    obtain⟨nd,hnd,hndl,hcb⟩:=hbt.at_ (by rw[hlen.out];omega);simp only[Value.slice.injEq] at e;obtain⟨e1,e2,_⟩:=e;rw[hlen.out] at e2;have hq1:qc.1=some nd:=e1.trans hnd;obtain⟨fi,hfi⟩:∃ fi,Zcj held i+Zcj roots i+Zqk s V i=fi:=⟨_,rfl⟩
    have KI:=Za (fun W' (hW:Qp wr.heap.size wr W')=>And.intro (HS.out W' (hw2r.trans (hW.mono (by have:=hB.size;omega)))).1 (And.intro (show W'.cell? ⟨w1.heap.size+1,i,none⟩=some (.int .i64 (fi:Int)) by
      have:=Zmr ((HE.out.below (by omega) hB).below (by have:=hB.size;omega) hW).cnt hi;unfold Zcg at this
      rwa [hfi] at this) ((hW.cell (p:=nd.add i) (by rw[Zh];exact hndl)).trans (hcb i y hy))))
    have hcy:Yy s.2.1 i=y.toNat:=by unfold Yy;rw[hy];rfl
    have y255:=y.toNat_lt;have iwy:IntKind.i64.wrap (y.toNat:Int)=(y.toNat:Int):=by rw[IntKind.wrap_i64];omega
    have i4:((i:Int)<256):=by omega
    have hall':=Za hall;have hB':=Za hB;obtain⟨yn,hyn⟩:∃ yn,y.toNat=yn:=⟨_,rfl⟩
    rw[hyn] at KI hcy y255 iwy;replace hy:=Za hy;replace hyn:=Za hyn;replace hfi:=Za hfi;replace hcy:=Za hcy;obtain⟨q1,q2,q3⟩:=qc
    dsimp only at hq1 e2
    subst hq1;subst e2;clear hall hB hby hbt hcb hw2r e1 hnd
    go_upto_region 24 with fail
    by_cases hgt:yn<fi
    ·have hd:decide ((fi:Int)>(yn:Int))=true:=decide_eq_true (by omega)
     refine wp_region_fx (by kernel_rfl) (fun W=>Qp wr.heap.size wr W) (fun _=>none) (fun _=>none) (by kernel_rfl) (Qb _ _).drew (fun w w' h hb=>h.trans (hb.mono h.size)) (fun j φ x W W' hp=>by cases hp) ?_
     repeat (first
      | (refine wpAs_skip rfl ?_;simp only[Qa,Zb,Zc,Zd])
      | (refine wpAs_pure (v := ?_) rfl rfl ?_ ?_;rotate_left;(intro W hC hE;clear hE;(obtain⟨⟨k0,k1,k2,k3,_⟩,hci,hcn⟩:=KI.out W hC);clear hC;go_simp;first | done | with_reducible rfl);simp only[Qa,Zb,Zc,Zd]))
     refine wpAs_end fun W hC hE=> ?_
     have hfin:Hid (Ybu s roots held w (.returned (.bool false)) W):=Za ⟨V,false,hVd,HV.out,⟨(nomatch ·),fun h=>by
      have h1:=h i hi1 hi;rw[<- Zl6 hi1 V hVr.out,hfi.out,hcy.out] at h1
      omega⟩,rfl,BB.out.trans (hC.mono BB.out.size)⟩
     clear hE hC
     go_wp2_with fail
     exact bodyPost_ret (v:=.bool false) (by simp[results,Tryz.results19,go_sem]) rfl hfin.out
    ·have hd:decide ((fi:Int)>(yn:Int))=false:=decide_eq_false (by omega)
     refine wp_region_fx (by kernel_rfl) (fun W=>Qp wr.heap.size wr W) (fun _=>none) (fun _=>none) (by kernel_rfl) (Qb _ _).drew (fun w w' h hb=>h.trans (hb.mono h.size)) (fun j φ x W W' hp=>by cases hp) ?_
     repeat (first
      | (refine wpAs_skip rfl ?_;simp only[Qa,Zb,Zc,Zd])
      | (refine wpAs_pure (v := ?_) rfl rfl ?_ ?_;rotate_left;(intro W hC hE;clear hE;(obtain⟨⟨k0,k1,k2,k3,_⟩,hci,hcn⟩:=KI.out W hC);clear hC;go_simp;first | done | with_reducible rfl);simp only[Qa,Zb,Zc,Zd]))
     refine wpAs_end fun W hC hE=> ?_
     have hB9:=Za (hB'.out.trans (hC.mono hB'.out.size));clear hE hC
     go_wp2_with fail
     go_roundw
     case rel=>exact⟨i+1,by omega,by omega,by go_num,hB9.out,fun t h1 h2=>by
      by_cases e:t=i
      ·subst e
       rw[hfi.out,hcy.out];omega
      ·exact hall'.out t h1 (by omega)⟩
     case measure=>simp[intOf];omega
  obtain⟨x,hx⟩:∃ x,roots[j']? = some x:=⟨_,Qf (by rw[LR.out];exact hlt')⟩
  have hck:=hT.out x (Qd hx);obtain⟨k,rfl,_,k8,k256,-⟩:=Y4 (Zah hck).2.1;obtain⟨ad,rfl,hc⟩:=HR.out j' _ hx;have hcx:=Za (fun W (hW:Qp wr.heap.size wr W)=>hc W (B2.out.trans ((hE.low.mono (by have:=SZ.out;omega)).trans (hW.mono (by have:=SZ.out;have:=hE.low.size;omega)))));have hc0:=hcx.out wr (Qb _ _);have hcell:=Zmr hE.cnt k256;have hfrz:=Zzq hE.cnt k;have hle:=Zsr (held:=held) (pre:=roots.take j') (by rw[LH.out];omega) (by rw[Qh,LR.out];omega) hVd hVr.out k;obtain⟨m,hm⟩:∃ m,Zcj held k+Zcj (roots.take j') k+Zqk s V k=m:=⟨_,rfl⟩
  unfold Zcg at hcell;rw[hm] at hcell hle;have i3:(j':Int)<(nr:Int):=by omega
  have iw:IntKind.i64.wrap ((m:Int)+1)=(m:Int)+1:=by rw[IntKind.wrap_i64];omega
  obtain⟨W9,hW9⟩:∃ W9,wr.setCell ⟨w1.heap.size+1,k,none⟩ (.int .i64 ((m:Int)+1))=W9:=⟨_,rfl⟩
  have hE9:Hid (EnS w1.heap.size w1.heap.size w2 (Zcg s held (roots.take (j'+1)) V) V W9):=Za (by
   have:=hE.up (Qc _) k;rw[show (Zcg s held (roots.take j') V) k=(m:Int) by unfold Zcg;rw[hm],hW9] at this;have e:=Zx8 (s:=s) (held:=held) (V:=V) hx (by omega);rw[show ((k:Int)).toNat=k by omega] at e
   rwa [e] at this)
  have hNd:=Za (fun v W hlo hW=>Z3p hck W9.heap.size v W hlo hW);obtain⟨L,hL⟩:∃ L,Zat (Xj s (k:Int))=L:=⟨_,rfl⟩
  rw[hL] at hNd;obtain⟨nl,hnl⟩:∃ q,L.length=q:=⟨_,rfl⟩
  rw[hnl] at hNd;have hn256:nl<=256:=by
   have hbd:∀ z∈Xj s (k:Int),0<=z/\z<256:=fun z hz=>by
    have:=Y2 ((Zar (Zah hck).1).node z hz);omega
   rw[<- hnl,<- hL];exact Zj2 256 _ ((Zmw _).imp fun h=>by omega) fun n hn=>by
    have:=hbd n ((Zfh hbd).1 hn);omega
  have KR:=Za (fun W (hW:Qp W9.heap.size W9 W)=>And.intro (HS.out W (hE9.out.low.trans (hW.mono (by have:=SZ.out;have:=hE9.out.low.size;omega)))) (hc W (B2.out.trans ((hE9.out.low.mono (by have:=SZ.out;omega)).trans (hW.mono (by have:=SZ.out;have:=hE9.out.low.size;omega))))));replace hm:=Za hm;replace hx:=Za hx;replace hL:=Za hL;replace hnl:=Za hnl;replace hVm:=Za hVm;clear hE hc hle hck hcx
  go_upto_region 7 with fail
  clear hc0 hcell hfrz hW9
  refine Vb (ops' := ?opsLate) (by kernel_rfl) [(10,8),(10,9),(11,9)] ?he (by kernel_rfl) (fun d _ _ _ _ h=>by cases d <;> exact h) 10 (fun W=>Qp W9.heap.size W9 W) (fun i=>match i with
   | 5=>some (fun v W=>PhD W9.heap.size nl L v W)
   | 6=>some (fun v W=>PhD W9.heap.size nl L v W)
   | 7=>some (fun v W=>PhU W9.heap.size nl L v W)
   | 8=>some (fun v _=>∃ (p:Option Addr) (q d:Nat),v=.slice p q d)
   | _=>none) (fun i=>match i with
   | 9=>some (.int .i64 0)
   | _=>none) ?h1 ?h2 ?h3 (Qb _ _).drew (fun w w' h hb=>h.trans (hb.mono h.size)) ?tst ?_
  case he =>
   simp[Yc];rfl
  case h1=>decide
  case h2=>kernel_rfl
  case h3=>kernel_rfl
  case tst =>
   intro j φ x W W' hp hx hb
   match j,hp with
   | 5,hp=>cases hp;exact hx.below hb
   | 6,hp=>cases hp;exact hx.below hb
   | 7,hp=>cases hp;exact hx.below hb
   | 8,hp=>cases hp;exact hx
  simp only[Qk,Ql,Qm,Qn]
  repeat (first
   | (refine wpAs_skip rfl ?_;simp only[Qa,Zb,Zc,Zd])
   | (refine wpAs_pure (v := ?_) rfl rfl ?_ ?_;rotate_left;(intro W hC hE;clear hE;(obtain⟨⟨⟨k0,k1,k2,k3,_⟩,_⟩,hcw⟩:=KR.out W hC);clear hC;go_simp;first | done | with_reducible rfl);simp only[Qa,Zb,Zc,Zd]))
  refine wpAs_act rfl rfl ?_ ?_
  ·intro W hC hE
   clear hE;refine does_enter (f:=38) (args:=#[.agg #[.slice qa.1 qa.2.1 qa.2.2,.slice qb.1 qb.2.1 qb.2.2,.slice qc.1 qc.2.1 qc.2.2,.slice qd.1 qd.2.1 qd.2.2],.int .i64 k]) ?_ ?_
   ·go_simp
   ·refine(hNd.out _ W hC.size (KR.out W hC).1.2).mono ?_
    rintro e W' ⟨v,rfl,hv,hb⟩;exact⟨_,rfl,hv,hb⟩
  simp only[Qa,Zb,Zc,Zd,envAdd];intro x5;refine wpAs_act rfl rfl ?_ ?_
  ·intro W hC hE
   have h7:=hE.1 rfl;clear hE hC
   go_simp
   exact⟨h7,Qb _ _⟩
  simp only[Qa,Zb,Zc,Zd,envAdd];intro x6;refine wpAs_act rfl rfl ?_ ?_
  ·intro W hC hE
   obtain⟨u,c,p,q,d,rfl,hz⟩:=hE.1 rfl;have hz':=Za hz;clear hE hz hC
   go_simp
   exact⟨⟨u,c,rfl,hz'.out⟩,Qb _ _⟩
  simp only[Qa,Zb,Zc,Zd,envAdd];intro x7;refine wpAs_act rfl rfl ?_ ?_
  ·intro W hC hE
   obtain⟨u,c,p,q,d,rfl,hz⟩:=hE.2.1 rfl;clear hE hz hC
   go_simp
   exact⟨⟨p,q,d,rfl⟩,Qb _ _⟩
  simp only[Qa,Zb,Zc,Zd,envAdd];intro x8;refine wpAs_fixed rfl rfl rfl ?_ ?_
  ·intro W hC hE
   obtain⟨u,c,p,q,d,rfl,hz⟩:=hE.2.2.1 rfl;clear hE hz hC
   go_simp
   exact⟨rfl,Qb _ _⟩
  simp only[Qa,Zb,Zc,Zd];refine wpAs_end fun W hC hE=> ?_
  obtain⟨⟨p,q,d,rfl⟩,h7,_⟩:=hE;obtain⟨u,c,rfl,hu⟩:=h7;have hw9:w1.heap.size+1<W9.heap.size:=by have:=Zt5 hE9.out.cnt;omega
  have HU:=Za (fun p (y:Int) (hy:L[p]? = some y)=>Z8r hu hw9 hy);have EW:=Za (hE9.out.below (by omega) hC);have hCW:=Za hC;clear hu hC hw9
  go_upto_region 8 with fail
  go_upto_region 10 with fail
  go_wp2_with fail
  go_loopw [11] (fun iv wz=>∃ (p:Nat) (V':List Int),p<=nl/\iv=.int .i64 (p:Int)/\EnS w1.heap.size w1.heap.size w2 (Zcg s held (roots.take (j'+1)) V') V' wz/\Znw w1.heap.size (w1.heap.size+1) W wz/\V'.Nodup/\(∀ n∈V',rmE s n=0)/\∀ n,n∈V'↔n∈V\/n∈L.take p) (fun iv _=>nl-(intOf iv).toNat)
  case atStart=>exact⟨0,V,by omega,rfl,EW.out,Zf0 _ _ _,hVd,hVr.out,fun n=>by simp⟩
  case round =>
   obtain⟨p',V',hp,rfl,hE,hRs,hVd',hVr',hVm'⟩:=hrel;by_cases hpl:p'<nl
   case neg =>
    obtain rfl:p'=nl:=by omega
    have i9:¬ ((p':Int)<(p':Int)):=by omega
    have eL:L.take p'=L:=Qj (by rw[hnl.out];exact Qc _)
    have hfin:Hid (EnS w1.heap.size w1.heap.size w2 (Zcg s held (roots.take (j'+1)) V') V' wr/\∀ n,n∈V'↔∃ r∈roots.take (j'+1),n∈Xj s r):=Za ⟨hE,fun n=>by
     rw[hVm' n,hVm.out n,eL,<- hL.out,Zfh (fun y hy=>by
      have:=Y2 ((Zar (Zah (hT.out _ (Qd hx.out))).1).node y hy)
      omega),Qi,hx.out]
     simp only[Option.toList_some,Qe,Qg];constructor
     ·rintro(⟨r,h1,h2⟩ | h)
      ·exact⟨r,.inl h1,h2⟩
      ·exact⟨_,.inr rfl,h⟩
     ·rintro⟨r,h1 | rfl,h2⟩
      ·exact .inl ⟨r,h1,h2⟩
      ·exact .inr h2⟩
    clear hE hRs hVm'
    go_wp2_with fail
    go_roundw
    case rel=>exact⟨j'+1,V',by omega,by go_num,hfin.out.1,hVd',hfin.out.2⟩
    case measure=>simp[intOf];omega
   obtain⟨y,hy⟩:∃ y,L[p']? = some y:=⟨_,Qf (by rw[hnl.out];exact hpl)⟩
   have hyr:rmE s y=0:=(Zar (Zah (hT.out _ (Qd hx.out))).1).node y (by
    have:=Qd hy
    rw[<- hL.out,Zfh (fun z hz=>by
     have:=Y2 ((Zar (Zah (hT.out _ (Qd hx.out))).1).node z hz)
     omega)] at this
    exact this)
   obtain⟨yk,rfl,_,y8,y256,-⟩:=Y4 (Ya hyr).2;obtain⟨ud,rfl,hud⟩:=HU.out p' _ hy;have hNo:=Za (fun v W hlo hW=>Z85 hyr wr.heap.size v W hlo hW);have hit5:=(Zw (Ya hyr).1).1.2.2.1;obtain⟨I,hI⟩:∃ I,(rmV s (yk:Int)).2=I:=⟨_,rfl⟩
   obtain⟨ni,hni⟩:∃ q,I.length=q:=⟨_,rfl⟩
   obtain⟨lv,hlv⟩:∃ q,(rmV s (yk:Int)).1=q:=⟨_,rfl⟩
   rw[hI,hni,hlv] at hNo;rw[hI,hni] at hit5;have KN:=Za (fun W' (hW:Qp wr.heap.size wr W')=>And.intro (HS.out W' (hE.low.trans (hW.mono (by have:=SZ.out;have:=hE.low.size;omega)))) (hud W' (Uw hRs (Zk0 hW))));have i4:(p':Int)<(nl:Int):=by omega
   have hcl:w1.heap.size+1<wr.heap.size:=Zt5 hE.cnt;have hRs':=Za hRs;have hE':=Za hE;have hVm2:=Za hVm';have hVr2:=Za hVr';replace hI:=Za hI;replace hni:=Za hni;replace hy:=Za hy;replace hyr:=Za hyr;replace hlv:=Za hlv;have hud2:=Za hud;clear hud hE hRs hVm' hVr'
   go_upto_region 13 with fail
   refine Vb (ops' := ?opsLateb) (by kernel_rfl) [(10,8)] ?heb (by kernel_rfl) (fun d _ _ _ _ h=>by cases d <;> exact h) 10 (fun W=>Qp wr.heap.size wr W) (fun i=>match i with
    | 5=>some (fun v W=>PhQ wr.heap.size lv ni I v W)
    | 6=>some (fun v W=>PhQ wr.heap.size lv ni I v W)
    | 7=>some (fun v W=>Ybq wr.heap.size lv ni I v W)
    | 9=>some (fun v W=>∃ g,v=.pointer (some ⟨g,0,none⟩)/\wr.heap.size<=g/\W.heap[g]? = some (.cells #[.int .i64 0,.slice none 0 0] 81 (0,0)))
    | _=>none) (fun i=>match i with
    | 8=>some (.int .i64 0)
    | _=>none) ?h1b ?h2b ?h3b (Qb _ _).drew (fun w w' h hb=>h.trans (hb.mono h.size)) ?tstb ?_
   case heb =>
    simp[Yc];rfl
   case h1b=>decide
   case h2b=>kernel_rfl
   case h3b=>kernel_rfl
   case tstb =>
    intro j φ x W W' hp hx hb
    match j,hp with
    | 5,hp=>cases hp;exact hx.below hb
    | 6,hp=>cases hp;exact hx.below hb
    | 7,hp=>cases hp;exact hx.below hb
    | 9,hp=>cases hp;obtain⟨g,e,h1,h2⟩:=hx;exact⟨g,e,h1,(hb.block g (Qo.1 h2).1).trans h2⟩
   simp only[Qk,Ql,Qm,Qn]
   repeat (first
    | (refine wpAs_skip rfl ?_;simp only[Qa,Zb,Zc,Zd])
    | (refine wpAs_pure (v := ?_) rfl rfl ?_ ?_;rotate_left;(intro W hC hE;clear hE;(obtain⟨⟨⟨k0,k1,k2,k3,_⟩,_⟩,hcw⟩:=KN.out W hC);clear hC;go_simp;first | done | with_reducible rfl);simp only[Qa,Zb,Zc,Zd]))
   refine wpAs_act rfl rfl ?_ ?_
   ·intro W hC hE
    clear hE;refine does_enter (f:=36) (args:=#[.agg #[.slice qa.1 qa.2.1 qa.2.2,.slice qb.1 qb.2.1 qb.2.2,.slice qc.1 qc.2.1 qc.2.2,.slice qd.1 qd.2.1 qd.2.2],.int .i64 yk]) ?_ ?_
    ·go_simp
    ·refine(hNo.out _ W hC.size (KN.out W hC).1.2).mono ?_
     rintro e W' ⟨v,rfl,hv,hb⟩;exact⟨_,rfl,hv,hb⟩
   simp only[Qa,Zb,Zc,Zd,envAdd];intro v5;refine wpAs_act rfl rfl ?_ ?_
   ·intro W hC hE
    have h7:=hE.1 rfl;clear hE hC
    go_simp
    exact⟨h7,Qb _ _⟩
   simp only[Qa,Zb,Zc,Zd,envAdd];intro v6;refine wpAs_act rfl rfl ?_ ?_
   ·intro W hC hE
    obtain⟨A,c,rfl,hz⟩:=hE.1 rfl;have hz':=Za hz;clear hE hz hC
    go_simp
    exact⟨⟨A,c,rfl,hz'.out⟩,Qb _ _⟩
   simp only[Qa,Zb,Zc,Zd,envAdd];intro v7;refine wpAs_fixed rfl rfl rfl ?_ ?_
   ·intro W hC hE
    obtain⟨A,c,rfl,hz⟩:=hE.2.1 rfl;clear hE hz hC
    go_simp
    exact⟨rfl,Qb _ _⟩
   simp only[Qa,Zb,Zc,Zd];refine wpAs_act rfl rfl ?_ ?_
   ·intro W hC hE
    have hs:=hC.size;clear hE hC
    go_simp
    exact⟨⟨W.heap.size,rfl,hs,heap_alloc_new _ _⟩,(Qb _ _).alloc (Qc _) _⟩
   simp only[Qa,Zb,Zc,Zd,envAdd];intro v9;refine wpAs_end fun W2 hC hE=> ?_
   obtain⟨⟨g,rfl,hg,hz⟩,h7,_⟩:=hE;obtain⟨A,c,rfl,hrw⟩:=h7;obtain⟨u0,u1,uf,_⟩:=Zg hz;obtain⟨w5,hW5,g5,gr5,gs5⟩:=Xu (u:=.int .i64 lv) (v:=.slice A ni c) hz;have E5:=Za ((hE'.out.below (by omega) hC).box (Qc _) (by omega) gr5);have R5:=Za (Zwb (Uw hRs'.out (Zk0 hC)) gr5 (by have:=hRs'.out.1;omega));have HI:=Za (fun q (z:It) (hq:I[q]? = some z)=>Z4l hrw hcl hz (by decide) gr5 hq);have KG:=Za (fun W' (hW:Znw w1.heap.size (w1.heap.size+1) w5 W')=>Zg (Zwm hW g5 (by omega) (by omega)));have KS:=Za (fun W' (hW:Znw w1.heap.size (w1.heap.size+1) w5 W')=>hud2.out W' (Uw R5.out hW));have g5':=Za g5;replace hz:=Za hz;clear hC hg hrw gr5 gs5 g5
   go_upto_region 14 with fail
   clear hW5 u0 u1 uf
   go_upto_region 16 with fail
   by_cases hmet:(yk:Int)∈V'
   ·have hbt:inB V' yk=true:=decide_eq_true hmet
    obtain⟨m0,m1,mf,_⟩:=KG.out w5 (Zf0 _ _ _);have hud5:=KS.out w5 (Zf0 _ _ _);have hcell:=Ziq E5.out.bits y256;rw[hbt] at hcell;have hfrz:=Zsz E5.out.bits yk;obtain⟨W6,hW6⟩:∃ W6,w5.setCell ⟨w1.heap.size,yk,none⟩ (.bool true)=W6:=⟨_,rfl⟩
    have E6:Hid (EnS w1.heap.size w1.heap.size w2 (Zcg s held (roots.take (j'+1)) V') V' W6):=Za (by
     have:=(E5.out.met (Qc _) yk).same (V':=V') (fun k=>by
      simp only[Qe,Qg]
      exact⟨fun h=>h.elim id (fun e=>e ▸ hmet),.inl⟩)
     rwa [hW6] at this)
    have R6:=Za (hW6 ▸ Uw R5.out (Zmq (.inl rfl) yk (.bool true)):Znw w1.heap.size (w1.heap.size+1) W W6)
    have hVn:Hid (∀ n,n∈V'↔n∈V\/n∈L.take (p'+1)):=Za (fun n=>by
     rw[Qi,hy.out,Option.toList_some,Qe,Qg,<- or_assoc,<- hVm2.out n]
     exact⟨.inl,fun h=>h.elim id (fun e=>e ▸ hmet)⟩)
    go_wp2_with fail
    go_loopw [14] (fun iv wz=>iv=.int .i64 0/\wz=w5) (fun _ _=>0)
    case atStart=>exact⟨rfl,rfl⟩
    case round =>
     obtain⟨rfl,rfl⟩:=hrel;by_cases hn0:0<ni
     ·have i5:(0:Int)<(ni:Int):=by omega
      go_wp2_with fail
      go_roundw
      case rel=>exact⟨p'+1,V',by omega,by go_num,E6.out,R6.out,hVd',hVr2.out,hVn.out⟩
      case measure=>simp[intOf];omega
     ·have i5:¬ ((0:Int)<(ni:Int)):=by omega
      go_wp2_with fail
      go_roundw
      case rel=>exact⟨p'+1,V',by omega,by go_num,E6.out,R6.out,hVd',hVr2.out,hVn.out⟩
      case measure=>simp[intOf];omega
   ·have hbt:inB V' yk=false:=decide_eq_false hmet
    go_wp2_with fail
    go_loopw [14] (fun iv wz=>∃ (q:Nat),q<=ni/\iv=.int .i64 (q:Int)/\EnS w1.heap.size w1.heap.size w2 (Zjm s held (roots.take (j'+1)) V' I q) V' wz/\Znw w1.heap.size (w1.heap.size+1) w5 wz) (fun iv _=>ni-(intOf iv).toNat)
    case atStart=>exact⟨0,by omega,rfl,by rw[Zvf];exact E5.out,Zf0 _ _ _⟩
    case round =>
     obtain⟨q,hq,rfl,hEq,hRq⟩:=hrel;obtain⟨m0,m1,mf,_⟩:=KG.out _ hRq;have hudq:=KS.out _ hRq;by_cases hqn:q<ni
     case neg =>
      obtain rfl:q=ni:=by omega
      have i5:¬ ((q:Int)<(q:Int)):=by omega
      have hcell:=Ziq hEq.bits y256;rw[hbt] at hcell;have hfrz:=Zsz hEq.bits yk;obtain⟨W6,hW6⟩:∃ W6,wr.setCell ⟨w1.heap.size,yk,none⟩ (.bool true)=W6:=⟨_,rfl⟩
      have E6:Hid (EnS w1.heap.size w1.heap.size w2 (Zcg s held (roots.take (j'+1)) (V'++[(yk:Int)])) (V'++[(yk:Int)]) W6):=Za (by
       have:=hEq.met (Qc _) yk;rw[<- hI.out,Zxu (by rw[hI.out,hni.out];exact Qc _),hW6] at this
       exact this)
      have R6:=Za (hW6 ▸ Uw (Uw R5.out hRq) (Zmq (.inl rfl) yk (.bool true)):Znw w1.heap.size (w1.heap.size+1) W W6)
      have hVn:Hid (∀ n,n∈V'++[(yk:Int)]↔n∈V\/n∈L.take (p'+1)):=Za (fun n=>by
       rw[Qi,hy.out,Option.toList_some,Qe,Qe,<- or_assoc,<- hVm2.out n])
      have hVd6:Hid ((V'++[(yk:Int)]).Nodup):=Za (by
       rw[List.nodup_append]
       exact⟨hVd',by simp,fun a ha b hb e=>hmet (by rw[Qg.1 hb] at e;exact e ▸ ha)⟩)
      have hVr6:Hid (∀ n∈V'++[(yk:Int)],rmE s n=0):=Za (fun n hn=>by
       rcases Qe.1 hn with hn | hn
       ·exact hVr2.out n hn
       ·rw[Qg.1 hn];exact hyr.out)
      clear hEq hRq
      go_wp2_with fail
      go_roundw
      case rel=>exact⟨p'+1,V'++[(yk:Int)],by omega,by go_num,E6.out,R6.out,hVd6.out,hVr6.out,hVn.out⟩
      case measure=>simp[intOf];omega
     obtain⟨z,hz⟩:∃ z,I[q]? = some z:=⟨_,Qf (by rw[hni.out];exact hqn)⟩
     obtain⟨ad5,rfl,hcz⟩:=HI.out q z hz;have hcz':=hcz _ hRq;have hrz:=Vx (Ya hyr.out).1 z (by rw[hI.out];exact Qd hz);obtain⟨rk,hrk⟩:∃ rk:Nat,z.2.1=(rk:Int):=⟨z.2.1.toNat,by omega⟩
     have r256:rk<256:=by omega
     rw[hrk] at hcz';have hbc:=Ziq hEq.bits y256;rw[hbt] at hbc;have hcell:=Zmr hEq.cnt r256;have hfrz:=Zzq hEq.cnt rk;have hle:=Zsr (held:=held) (pre:=roots.take (j'+1)) (by rw[LH.out];omega) (by rw[Qh,LR.out];omega) hVd' hVr2.out rk;have hle2:=Zmo rk (I.take q);rw[Qh] at hle2;obtain⟨mm,hmm⟩:∃ mm,Zcj held rk+Zcj (roots.take (j'+1)) rk+Zqk s V' rk+Zu1 (I.take q) rk=mm:=⟨_,rfl⟩
     have hval:Zjm s held (roots.take (j'+1)) V' I q rk=(mm:Int):=by unfold Zjm Zcg;omega
     rw[hval] at hcell;have i5:(q:Int)<(ni:Int):=by omega
     have iw2:IntKind.i64.wrap ((mm:Int)+1)=(mm:Int)+1:=by rw[IntKind.wrap_i64];omega
     obtain⟨W6,hW6⟩:∃ W6,wr.setCell ⟨w1.heap.size+1,rk,none⟩ (.int .i64 ((mm:Int)+1))=W6:=⟨_,rfl⟩
     have E6:Hid (EnS w1.heap.size w1.heap.size w2 (Zjm s held (roots.take (j'+1)) V' I (q+1)) V' W6):=Za (by
      have:=hEq.up (Qc _) rk;have e:=Z2h (s:=s) (held:=held) (pre:=roots.take (j'+1)) (V:=V') hz (by omega);rw[hrk,show ((rk:Int)).toNat=rk by omega] at e;rw[hval,hW6,e] at this
      exact this)
     have R6:=Za (hW6 ▸ Uw hRq (Zmq (.inr rfl) rk (.int .i64 ((mm:Int)+1))):Znw w1.heap.size (w1.heap.size+1) w5 W6);replace hmm:=Za hmm;replace hz:=Za hz;clear hEq hRq hcz hle hle2 hval hrz
     go_wp2_with fail
     go_roundw
     case rel=>exact⟨q+1,by omega,by go_num,E6.out,R6.out⟩
     case measure=>simp[intOf];omega}
theorem Z45 {w:World}{g:Nat}{l:List Int}(hg:w.heap[g]? = some (.cells (l.map fun n=>Value.int .i64 n).toArray 3 (0,0))) (hl:∀ n∈l,Zik n) (hn:l.length<1000):rSl 1 (rK .i64) (Old w) w [.slice (some ⟨g,0,none⟩) l.length l.length] l:=by{
 have hlt:=(Qo.1 hg).1;refine⟨some ⟨g,0,none⟩,l.length,rfl,by omega,by omega,fun i x hx=>⟨⟨g,0,none⟩,[.int .i64 x],rfl,rfl,fun j u hj=> ?_,Z0m (hl x (Qd hx))⟩⟩;have hj0:j=0:=by
  have:=(List.getElem?_eq_some_iff.1 hj).1;simp at this;exact this
 subst hj0;cases hj;refine⟨by unfold Old;rw[Zh];exact hlt,?_⟩;have e:(⟨g,0,none⟩:Addr).add (i*1+0)=⟨g,i,none⟩:=by simp[Addr.add];omega
 rw[e];simp[World.cell?,hg,hx]}
theorem Zsp {w:World}{g:Nat}{a b:Int}(hg:w.heap[g]? = some (.cells #[.int .i64 a,.int .i64 b] 3 (0,0))) (ha:Zik a) (hb:Zik b):rSl 1 (rK .i64) (Old w) w [.slice (some ⟨g,0,none⟩) 2 2] [a,b] :=
 Z45 (l:=[a,b]) hg (fun n hn=>by
  simp only[List.mem_cons,List.not_mem_nil,or_false] at hn
  rcases hn with rfl | rfl <;> assumption) (by simp)
end Go.Proofs.YtgmbjnajdfgenaaGreat
