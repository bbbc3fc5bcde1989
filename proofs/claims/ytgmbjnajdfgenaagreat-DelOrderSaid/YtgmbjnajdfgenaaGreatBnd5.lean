/-
  Lemmas on the program and on the document's answers, gathered: WkNodes, PuGrow2, PuPut, PtItems, PuPlain, FnMade, PuSix, PuNew, PuLaw, PuAll, FnRef, FnFind, PtWant, WkBits, PuCnt, PuWant, PuEnd, DlRow, DlShrunk, DlOut, DlTwo, DlEnd, DeSix. Conditions: those that each lemma states.
-/
import Derived.Test.YtgmbjnajdfgenaaGreatBnd4
import Derived.Maps.OwnIn
import Derived.Stop.RegionWithIn
import Derived.WalkMore
set_option maxRecDepth 100000
set_option maxHeartbeats 16000000
open Array renaming getElem?_eq_some_iff → Qc, getElem?_modify → Q9, replicate_succ → Ps, replicate_zero → Pt, ext_getElem? → Pw, getElem?_setIfInBounds → Qab
open Bool renaming and_eq_true → Qh, eq_iff_iff → P4, and_comm → P5
open Go renaming World → Qaf, Value → Qag, Addr → Qah, bodyPost_ret → Qai, heap_alloc_new → Qaj, undef → Qak, Calls → Qal
open Go.Act renaming put → Qa
open Go.RowKit renaming Below → Qam
open Go.RowKit.Below renaming refl → Qb
open Go.World renaming cell?_of_block → Qq, cell? → Q0, setCell → Q8, grownBy_alloc → Pb, size_alloc → Pc, frozen? → Qaa
open List renaming mem_cons_self → Qe, mem_append → Qf, mem_singleton → Qg, length_cons → Qi, getElem?_eq_getElem → Qk, mem_append_right → Ql, length_append → Qm, mem_of_mem_take → Qn, mem_cons_of_mem → Qo, mem_of_mem_drop → Qr, getElem?_eq_some_iff → Qs, flatMap_cons → Qt, mem_cons → Qu, flatMap_append → Qv, length_nil → Qw, mem_of_getElem? → Qx, mem_append_left → Qy, cons_append → Qz, pairwise_cons → Q3, drop_zero → Q4, drop_eq_getElem_cons → Q5, all_eq_true → Q6, exists_cons_of_ne_nil → Q7, nil_append → Pa, map_append → Pe, getElem?_take_of_lt → Pf, take_succ_cons → Pg, take_zero → Ph, drop_succ_cons → Pi, drop_of_length_le → Pj, take_add_one → Pm, flatMap_nil → Pn, append_nil → Po, size_toArray → Pp, push_toArray → Pu, append_toArray → Pv, length_take → Px, length_reverse → Py, getElem?_drop → Pz, reverse_singleton → P1, reverse_cons → P3, mem_flatMap → P7, filter_eq_self → P8, take_of_length_le → P9, mem_filter → Qac, pairwise_append → Qad, filter_filter → Qae
open Nat renaming le_refl → Qd, lt_of_lt_of_le → Qj, le_trans → Qp, le_of_lt → Pd, lt_or_ge → Pk, reduceAdd → Pq, reduceSub → Pr
noncomputable section
namespace Go.Proofs.YtgmbjnajdfgenaaGreat
open Go.RowKit Go.Shelf Go.Maps
attribute [local go_sem] Oper.semAt_some
def Z7j (s:Rm) (a:Int):List Int:=if ckE s a=0 then Zaq (Xo s a) else []
def Z9g (s:Rm) (a:Int):List Int:=if ckE s a=0 then Zaq (Zev s a) else []
def Yag (s:Rm) (a:Int) (w:Qaf):Ending->Qaf->Prop:=fun e w'=>∃ u c v d,e=.returned (.tuple #[.slice u (Z7j s a).length c,.slice v (Z9g s a).length d,.int .i64 (ckE s a)]) /\
 rSl 1 (rK .i64) (New w.heap.size w') w' [.slice u (Z7j s a).length c] (Z7j s a)/\rSl 1 (rK .i64) (New w.heap.size w') w' [.slice v (Z9g s a).length d] (Z9g s a)/\Qam w.heap.size w w'
def NdI (n0:Qaf) (b1 b2 B1 B2 lo':Nat) (a:Int) (r:List Wk×Option Nat) (V:Qaf):Prop :=
 (Qam n0.heap.size n0 V/\lo'<=V.heap.size)/\(Zc3 V b1 ([a]++Zhg (r.1.map Za1))/\Zc3 V b2 (Zhy (r.1.map Za1)))/\(Boxed V B1 139 (.map (some b1))/\Boxed V B2 139 (.map (some b2)))/\r.2=none
theorem Z6p {n0:Qaf}{b1 b2 B1 B2 lo':Nat}{a:Int}{B:Nat}(hB:n0.heap.size<=B) (h1:b1<B) (h2:b2<B):OwnFrom B (NdI n0 b1 b2 B1 B2 lo' a):=fun r V V' row hs hg hr=>by
 obtain⟨⟨h3,h4⟩,⟨h5,h6⟩,⟨h7,h8⟩,h9⟩:=hs;have hn:=fun r e=>(hr r e).2
 exact⟨⟨ownFrom_below (Qd _) hB () V V' row h3 hg hr,Qp h4 hg.size⟩,⟨Xg h5 hg fun e=>by have:=(hr _ e.symm).1;omega,Xg h6 hg fun e=>by have:=(hr _ e.symm).1;omega⟩,⟨Zl h7 hg hn,Zl h8 hg hn⟩,h9⟩
theorem Ycd {x:Int}(h : -9223372036854775808<=x/\x<=9223372036854775807):(Lit.int .i64 x).wf=true:=by
 simp[Lit.wf,IntKind.min,IntKind.max,IntKind.signed,IntKind.bits];omega
theorem Z4r {s:Rm}{a:Int}(h:Yo s a=true){M:List (Int×It)}(hM:M=Vd s (rmV s a).1.toNat a) :
  (Zaq ([a]++Zhg M)=Zaq (Xo s a)/\∀ x∈[a]++Zhg M,0<=x/\x<256)/\(Zaq (Zhy M)=Zaq (Zev s a)/\∀ x∈Zhy M,0<=x/\x<256):=by{
 have hb:=Zau h;subst hM;have h1:∀ x,x∈[a]++Zhg (Vd s (rmV s a).1.toNat a)↔x∈Xo s a:=fun x=>by
  rw[Qf,Qg];exact Zlx s _ a x
 have h2:∀ x,x∈Zhy (Vd s (rmV s a).1.toNat a)↔x∈Zev s a:=fun x=>Znf s _ a x
 refine⟨⟨by unfold Zaq;rw[Zp5 h1],fun x hx=> ?_⟩,by unfold Zaq;rw[Zp5 h2],fun x hx=> ?_⟩
 ·obtain⟨h3,h4,_⟩:=Xh (hb.node x ((h1 x).1 hx))
  omega
 ·obtain⟨_,_,h3,h4⟩:=hb.held x ((h2 x).1 hx)
  omega}
def Zwv (X:Act->Qaf->Prop):Exit->Act->Qaf->Prop
 | .normal,a,w=>X a w
 | _,_,_=>False
theorem Zgy {F:Fence}{n:Nat}{P:Program}{c:Code}{K:Act->Qaf->Prop}{Q:Exit->Act->Qaf->Prop}{a:Act}{w:Qaf}(h:c.wpIn F n P (Zwv K) a w):c.wpIn F n P (Exit.then K Q) a w :=
 wpIn_mono h fun e a w h=>by
  cases e <;> first
   | exact h
   | exact h.elim
theorem Zlp (v:Qag) (s:Rm) (a:Int) (w:Qaf) (h:Sto (Old w) w v s) :
  Qal Tryz.prog 38 #[v,.int .i64 a] w (Yag s a w):=by{
 obtain⟨A,ca,B,cb,N,cn,L,cl,rfl,_⟩:=id h.open;obtain⟨v0,hv0⟩:∃ q,(Value.slice A s.1.1.length ca)=q:=⟨_,rfl⟩
 obtain⟨v1,hv1⟩:∃ q,(Value.slice B s.1.2.length cb)=q:=⟨_,rfl⟩
 obtain⟨v2,hv2⟩:∃ q,(Value.slice N s.2.1.length cn)=q:=⟨_,rfl⟩
 obtain⟨v3,hv3⟩:∃ q,(Value.slice L s.2.2.length cl)=q:=⟨_,rfl⟩
 rw[hv0,hv1,hv2,hv3] at h ⊢;replace hv0:=Za hv0;replace hv1:=Za hv1;replace hv2:=Za hv2;replace hv3:=Za hv3;have hmm:=@run_makeMap Tryz.prog;obtain⟨w1,hw1,k1,hs1,hB1⟩:=X4 w v0 v1 v2 v3 29;have K1:Hid (Yg w.heap.size #[v0,v1,v2,v3] 29 w1):=Za k1;have B1:Hid (Qam w.heap.size w w1):=Za hB1;have hck:=Za (Ud (.agg #[v0,v1,v2,v3]) s a w1 (h.below B1.out));have hcb:=Za (fun hh:ckE s a≠0=>(⟨if_neg hh,if_neg hh⟩:Z7j s a=[]/\Z9g s a=[]));obtain⟨E0,hE0⟩:∃ q,ckE s a=q:=⟨_,rfl⟩
 obtain⟨H0,hH0⟩:∃ q,ckH s a=q:=⟨_,rfl⟩
 rw[hE0,hH0] at hck;obtain⟨s0,s1,s2,s3,_⟩:=Ze K1.out;replace h:=Za h;replace hE0:=Za hE0;replace hs1:=Za hs1;clear k1 hB1;refine callsIn_wide.1 (callsIn_of_wp_marks (n:=5) Tryz.func38 rfl trivial ?_ rfl);simp only[Tryz.ntmps38,Pp,Qi,Qw,Pq,Pr,Ps,Pt,Pu,Pv,Pa,Qz]
 gi_wp2_with fail
 refine⟨trivial,?_⟩
 gi_at_call 18
 refine(callsIn_wide.2 hck.out).mono ?_;rintro e w4 ⟨rfl,hB4⟩;have B4:=Za (B1.out.trans (hB4.mono B1.out.size));replace K1:Hid (Yg w.heap.size #[v0,v1,v2,v3] 29 w4):=Za (Zr _ _ _ _ _ K1.out hB4);have l14:=Za (show w.heap.size<w4.heap.size by have:=hs1.out;have:=hB4.size;omega);clear hw1 s0 s1 s2 s3 hck hB4;by_cases he:E0=0
 case neg =>
  have e1:(E0 != 0)=true:=by simpa using he
  have hne:Hid (ckE s a≠0):=Za (by rw[hE0.out];exact he);obtain⟨c1,c2⟩:=hcb.out hne.out;replace c1:=Za c1;replace c2:=Za c2;clear he hcb
  gi_wp2_with fail
  refine⟨_,results_tmp3 rfl _ _ _,none,0,none,0,?_,?_,?_,B4.out⟩
  ·rw[c1.out,c2.out,hE0.out]
   rfl
  ·rw[c1.out]
   exact⟨none,0,rfl,by simp,by omega,fun i x h=>by simp at h⟩
  ·rw[c2.out]
   exact⟨none,0,rfl,by simp,by omega,fun i x h=>by simp at h⟩
 subst he;obtain⟨htree,_,_⟩:=Zam hE0.out;obtain⟨s0,s1,s2,s3,_⟩:=Ze K1.out;obtain⟨ha8,ha256,_⟩:=Xh (Xf htree).1;have hwfa:(Lit.int .i64 a).wf=true:=by
  simp[Lit.wf,IntKind.min,IntKind.max,IntKind.signed,IntKind.bits];omega
 obtain⟨wA,hrA,hMA,hgA⟩:=Zic (Zox w4) hwfa (by simp);obtain⟨w5,hw5,hM1,hM2,K5,K6,hs5,hB5⟩:∃ w5,((wA.alloc (.map #[] 0)).alloc (.cells #[.map (some w4.heap.size)] 139)).alloc (.cells #[.map (some wA.heap.size)] 139)=w5/\Zc3 w5 w4.heap.size [a]/\Zc3 w5 wA.heap.size [] /\
   Boxed w5 (wA.heap.size+1) 139 (.map (some w4.heap.size))/\Boxed w5 (wA.heap.size+1+1) 139 (.map (some wA.heap.size))/\w5.heap.size=wA.heap.size+3/\Qam w4.heap.size w4 w5:=by
  have hlt:=Zuq hMA;have b1:Qam w4.heap.size w4 wA:=((Qb _ w4).alloc (Qd _) _).grown hgA (by simp) (fun k e=>by cases e;exact Qd _);have g1:=Pb wA (.map #[] 0) none;have g2:=Pb (wA.alloc (.map #[] 0)) (.cells #[.map (some w4.heap.size)] 139) none;have g3:=Pb ((wA.alloc (.map #[] 0)).alloc (.cells #[.map (some w4.heap.size)] 139)) (.cells #[.map (some wA.heap.size)] 139) none;have n1:=Boxed.new (wA.alloc (.map #[] 0)) 139 (.map (some w4.heap.size));have n2:=Boxed.new ((wA.alloc (.map #[] 0)).alloc (.cells #[.map (some w4.heap.size)] 139)) 139 (.map (some wA.heap.size));rw[Pc] at n1;rw[Pc,Pc] at n2;exact⟨_,rfl,Xg (Xg (Xg hMA g1 (by simp)) g2 (by simp)) g3 (by simp),Xg (Xg (Zox wA) g2 (by simp)) g3 (by simp),n1.alloc _,n2,by simp,((b1.alloc b1.size _).alloc (by simp;have:=b1.size;omega) _).alloc (by simp;have:=b1.size;omega) _⟩
 have lA:=Za (show w4.heap.size<wA.heap.size from Zuq hMA);have s0':=(hB5.cell (p:=⟨w.heap.size,0,none⟩) l14.out).trans s0;have s1':=(hB5.cell (p:=⟨w.heap.size,1,none⟩) l14.out).trans s1;have s2':=(hB5.cell (p:=⟨w.heap.size,2,none⟩) l14.out).trans s2;have s3':=(hB5.cell (p:=⟨w.heap.size,3,none⟩) l14.out).trans s3;have hIt:=Za (Zjr v0 v1 v2 v3 a w5);obtain⟨w6,hw6,g6,b6,hs6,hB6⟩:∃ w6,(w5.alloc (.cells #[v0,v1,v2,v3] 29)).alloc (.cells #[.int .i64 a] 3)=w6/\Z4w w5.heap.size v0 v1 v2 v3 w6/\Z1y (w5.heap.size+1) (.int .i64 a) w6/\w6.heap.size=w5.heap.size+2/\Qam w5.heap.size w5 w6:=by
  obtain⟨wa,ha,ga,sa,ba⟩:=X4 w5 v0 v1 v2 v3 29;obtain⟨wb,hb,gb,sb,bb⟩:=Zdk wa (.int .i64 a) 3;obtain⟨k0,k1,k2,k3,_⟩:=Ze ga;exact⟨wb,by rw[ha,hb],V6 _ _ _ _ _ _ _ ⟨k0,k1,k2,k3,by omega⟩ bb,⟨by rw[<- sa];exact gb,by omega⟩,by omega,ba.trans (bb.mono ba.size)⟩
 rw[hw6] at hIt;replace hMA:=Za hMA;replace hgA:=Za hgA;replace hM1:=Za hM1;replace hM2:=Za hM2;replace K5:=Za K5;replace K6:=Za K6;replace hs5:=Za hs5;replace hs6:=Za hs6;clear hwfa s0 s1 s2 s3 hw6
 gi_wp2_with fail
 refine⟨trivial,?_⟩
 gi_at_call 55
 refine(callsIn_wide.2 hIt.out).mono ?_;rintro e w6 ⟨rfl,rfl⟩;clear hw5 hrA hmm
 gi_wp2_with fail
 have lz:Hid (w.heap.size<w4.heap.size/\w4.heap.size<wA.heap.size/\w5.heap.size=wA.heap.size+3/\w6.heap.size=w5.heap.size+2):=Za ⟨l14.out,lA.out,hs5.out,hs6.out⟩;have B6:Hid (Qam w.heap.size w w6):=Za (B4.out.trans ((hB5.trans (hB6.mono hB5.size)).mono (Pd l14.out)));have hg56:=Z5 hB6;have hI0:NdI w w4.heap.size wA.heap.size (wA.heap.size+1) (wA.heap.size+1+1) w6.heap.size a ([],none) w6:=⟨⟨B6.out,Qd _⟩,⟨Xg hM1.out hg56 (by simp),Xg hM2.out hg56 (by simp)⟩,⟨Boxed.kept K5.out hg56 (by simp),Boxed.kept K6.out hg56 (by simp)⟩,rfl⟩
 have S6:Sto (fun p=>p.block<w.heap.size) w6 (.agg #[v0,v1,v2,v3]) s:=h.out.map fun p v hp hc=>Zd7 (fun k hk=>B6.out.block k hk) hp hc
 have hit6:=Zgk s (rmV s a).1.toNat a (Zbt htree) w.heap.size w5.heap.size (w5.heap.size+1) v0 v1 v2 v3 w6 (by have:=lz.out;omega) g6 b6 S6;have hend6:=Za (fun(M:List (Int×It)) hM=>Z4r htree (M:=M) hM);have hlen6:=Zzf htree;obtain⟨LL,hLL⟩:∃ q,Vd s (rmV s a).1.toNat a=q:=⟨_,rfl⟩
 rw[hLL] at hit6 hend6 hlen6;have hpl:Hid (∀ M:List (Int×It),M <+: LL->(Zhg M).length<=279936/\(Zhy M).length<=279936):=Za fun M hM=>by
  have h1:=hM.length_le;have h2:=Z7s M;omega
 replace hlen6:=Za hlen6;replace hLL:=Za hLL;replace htree:=Za htree;clear s0' s1' s2' s3' g6 b6 S6 hIt hB5 hB6 hg56
 refine Za0 (m:=5) (gf:=94) (lb:=#[.pointer (some ⟨w5.heap.size,0,none⟩),.pointer (some ⟨w5.heap.size+1,0,none⟩)]) rfl (enters_of Tryz.func94 (by kernel_rfl) rfl) hit6 (fun _=>rfl) (fun k=>k=w4.heap.size\/k=wA.heap.size) (fun k e=>by have:=lz.out;omega) none (fun k hk=>by
   rcases hk with h | rfl | rfl
   ·exact⟨by have:=lz.out;omega,by have:=lz.out;omega,by simp⟩
   ·exact⟨by have:=lz.out;omega,by have:=lz.out;omega,by simp⟩
   ·exact⟨by have:=lz.out;omega,by have:=lz.out;omega,by simp⟩)
  (NdI w w4.heap.size wA.heap.size (wA.heap.size+1) (wA.heap.size+1+1) w6.heap.size a) (fun _ _ _=>False)
  (Z6p (by have:=lz.out;omega) (by have:=lz.out;omega) (by have:=lz.out;omega)) (fun c _ _ _ _ hs _ _=>hs)
  (fun r V hr k e=>by rw[hr.2.2.2] at e;cases e) hI0
  (fun y a' V=>∃ (g:Nat) (d:Qag),a'={ tmps:=#[.agg #[v0,v1,v2,v3],.int .i64 a,.pointer (some ⟨w.heap.size,0,none⟩),Qak,.slice none 0 0,.slice none 0 0,.int .i64 0,.int .i64 H0,.int .i64 0,.pointer (some ⟨wA.heap.size+1,0,none⟩),.pointer (some ⟨wA.heap.size+1+1,0,none⟩),.int .i64 y.1,.pointer (some ⟨g,0,none⟩),
    .tuple #[.int .i64 H0,.int .i64 0],.agg #[v0,v1,v2,v3],.int .i64 a,.tuple #[.int .i64 H0,.int .i64 0],.int .i64 H0,.int .i64 0,.int .i64 0,.bool false,Qak,.map (some w4.heap.size),.int .i64 a,.agg #[],.map (some w4.heap.size),.map (some wA.heap.size),
    .agg #[v0,v1,v2,v3],.int .i64 a,.func (.func 94) #[] #[.pointer (some ⟨w5.heap.size,0,none⟩),.pointer (some ⟨w5.heap.size+1,0,none⟩)],.int .i64 y.1,.agg #[.int .u8 (y.2.1.1.1.toNat:Int),.int .u32 y.2.1.1.2.1,.int .u32 y.2.1.1.2.2,.int .i64 y.2.1.2.1,d],Qak,Qak,Qak,Qak,Qak,Qak,Qak,Qak,Qak,Qak,Qak,Qak,Qak,Qak,Qak,Qak,Qak],defers:=[] }/\y.2.2=itV y.2.1 d /\
   Yg g #[.int .u8 (y.2.1.1.1.toNat:Int),.int .u32 y.2.1.1.2.1,.int .u32 y.2.1.1.2.2,.int .i64 y.2.1.2.1,d] 54 V)
  (fun y a' _ A B row hs hg hr=>by
   obtain⟨g,d,e1,e2,h0⟩:=hs
   exact⟨g,d,e1,e2,Zl h0 hg fun r e=>(hr r e).2⟩)
  (fun pre x q=>Znd _ _ _ _ _ _) ?assign ?body ?done ?stop
 case assign =>
  rintro l' pre' q' ⟨lv',it',val'⟩ V K hi ⟨_,hit⟩ hK;obtain⟨A',c',hd,-⟩:=hit.open
  dsimp only at hd
  subst hd;obtain⟨V1,hV1,v0',v1',v2',v3',v4',hVs,hVB,hVg⟩:=Z7 V (.int .u8 (it'.1.1.toNat:Int)) (.int .u32 it'.1.2.1) (.int .u32 it'.1.2.2) (.int .i64 it'.2.1) (.slice A' it'.2.2.length c') 54;replace hVs:=Za hVs;clear hit hi hI0;simp only[Ybd,itV]
  gi_wp2_with fail
  exact hK _ _ (Z5 hVB) ⟨V.heap.size,_,rfl,rfl,hVg⟩
 case body =>
  rintro l' pre' q' ⟨lv',it',val'⟩ a' V hVs ⟨⟨hIb,hIs⟩,⟨hm1,hm2⟩,⟨hx1,hx2⟩,hq⟩ ⟨g,d,rfl,hd,hg⟩ ⟨hpf,hit⟩
  dsimp only at hd hit hg hq hm1 hm2
  subst hd hq;obtain⟨_,-,hin,-⟩:=hit;obtain⟨v0',v1',v2',v3',v4',_⟩:=Zs hg;have hc1:=hx1.cell;have hc2:=hx2.cell;have hwf:=Ycd hin.2;have hmk:Hid ((pre'++[((lv',it',itV it' d):Wk)]).map Za1=pre'.map Za1++[(lv',it')]):=Za (by rw[Pe];rfl);obtain⟨hl1,hl2⟩:=hpl.out (pre'.map Za1) (by rw[hmk.out] at hpf;exact(List.prefix_append _ _).trans hpf);obtain⟨V1,hr1,hm1',hg1⟩:=Zic hm1 hwf (by simp;omega);obtain⟨V2,hr2,hm2',hg2⟩:=Zic hm2 hwf (by omega);obtain⟨lt1,lt2⟩:wA.heap.size+1+1<V.heap.size/\w4.heap.size≠wA.heap.size:=⟨hx2.lt,by have:=lz.out;omega⟩
  have hkr:Hid (∀ (Vn:Qaf) (b:Nat),V.grownBy Vn (some b)->(b=w4.heap.size\/b=wA.heap.size)->(Qam w.heap.size w Vn/\w6.heap.size<=Vn.heap.size)/\(Boxed Vn (wA.heap.size+1) 139 (.map (some w4.heap.size))/\Boxed Vn (wA.heap.size+1+1) 139 (.map (some wA.heap.size)))/\Vq (fun k=>k=w4.heap.size\/k=wA.heap.size) none none V Vn):=Za fun Vn b hgn hb=>by
   refine⟨⟨hIb.grown hgn hIb.size (fun k e=>by cases e;have:=lz.out;omega),Qp hIs hgn.size⟩,⟨Boxed.kept hx1 hgn (fun e=>by cases e;have:=lz.out;omega),Boxed.kept hx2 hgn (fun e=>by cases e;have:=lz.out;omega)⟩,Vq.row hgn (fun r e=>by cases e;exact .inr hb) (fun r e=>by cases e)⟩
  have hI:Hid ((Qam w.heap.size w V/\w6.heap.size<=V.heap.size)/\(Zc3 V w4.heap.size ([a]++Zhg (pre'.map Za1))/\Zc3 V wA.heap.size (Zhy (pre'.map Za1)))/\Boxed V (wA.heap.size+1) 139 (.map (some w4.heap.size))/\Boxed V (wA.heap.size+1+1) 139 (.map (some wA.heap.size))):=Za ⟨⟨hIb,hIs⟩,⟨hm1,hm2⟩,hx1,hx2⟩;clear hIb hIs hm1 hm2 hx1 hx2 hg hpf hin hl1 hl2 hwf lt1 hI0;by_cases hlv:0<lv'
  ·have he1:Hid (NdI w w4.heap.size wA.heap.size (wA.heap.size+1) (wA.heap.size+1+1) w6.heap.size a (pre'++[((lv',it',itV it' d):Wk)],none) V1):=Za (by
    obtain⟨e1,e2,_⟩:=hkr.out V1 _ hg1 (.inl rfl);obtain⟨u1,u2⟩:=Z8i (M:=pre'.map Za1) (p:=(lv',it')) hlv;refine⟨e1,⟨?_,?_⟩,e2,rfl⟩
    ·show Zc3 _ _ ([a]++Zhg ((pre'++[((lv',it',itV it' d):Wk)]).map Za1))
     rw[hmk.out,u1,<- List.append_assoc];exact hm1'
    ·show Zc3 _ _ (Zhy ((pre'++[((lv',it',itV it' d):Wk)]).map Za1))
     rw[hmk.out,u2]
     exact Xg hI.out.2.1.2 hg1 (fun e=>lt2 (Option.some.inj e).symm))
   have hk1:=Za (hkr.out V1 _ hg1 (.inl rfl)).2.2;clear hm1' hm2' hg1 hg2 hr2 hI hkr lt2
   gi_wp2_with fail
   exact⟨none,hk1.out,he1.out⟩
  by_cases hz:it'.2.1=0
  ·have hzb:(it'.2.1 != 0)=false:=by simp[hz]
   have he1:Hid (NdI w w4.heap.size wA.heap.size (wA.heap.size+1) (wA.heap.size+1+1) w6.heap.size a (pre'++[((lv',it',itV it' d):Wk)],none) V):=Za (by
    obtain⟨u1,u2⟩:=Yae (M:=pre'.map Za1) (p:=(lv',it')) hlv hz;refine⟨hI.out.1,⟨?_,?_⟩,hI.out.2.2,rfl⟩
    ·show Zc3 _ _ ([a]++Zhg ((pre'++[((lv',it',itV it' d):Wk)]).map Za1))
     rw[hmk.out,u1];exact hI.out.2.1.1
    ·show Zc3 _ _ (Zhy ((pre'++[((lv',it',itV it' d):Wk)]).map Za1))
     rw[hmk.out,u2]
     exact hI.out.2.1.2)
   replace hz:=Za hz;clear hm1' hm2' hg1 hg2 hr1 hr2 hI hkr lt2
   gi_wp2_with fail
   exact⟨none,Vq.refl _ _ _,he1.out⟩
  ·have hzb:(it'.2.1 != 0)=true:=by simp[hz]
   have he1:Hid (NdI w w4.heap.size wA.heap.size (wA.heap.size+1) (wA.heap.size+1+1) w6.heap.size a (pre'++[((lv',it',itV it' d):Wk)],none) V2):=Za (by
    obtain⟨e1,e2,_⟩:=hkr.out V2 _ hg2 (.inr rfl);obtain⟨u1,u2⟩:=Z75 (M:=pre'.map Za1) (p:=(lv',it')) hlv hz;refine⟨e1,⟨?_,?_⟩,e2,rfl⟩
    ·show Zc3 _ _ ([a]++Zhg ((pre'++[((lv',it',itV it' d):Wk)]).map Za1))
     rw[hmk.out,u1];exact Xg hI.out.2.1.1 hg2 (fun e=>lt2 (Option.some.inj e))
    ·show Zc3 _ _ (Zhy ((pre'++[((lv',it',itV it' d):Wk)]).map Za1))
     rw[hmk.out,u2]
     exact hm2')
   have hk1:=Za (hkr.out V2 _ hg2 (.inr rfl)).2.2;replace hz:=Za hz;clear hm1' hm2' hg1 hg2 hr1 hI hkr lt2
   gi_wp2_with fail
   exact⟨none,hk1.out,he1.out⟩
 case done =>
  rintro xs q' V hVs hE ⟨⟨hb,_⟩,⟨hm1,hm2⟩,⟨hx1,hx2⟩,hq⟩ hDV hqV;obtain⟨⟨e1,r1⟩,e2,r2⟩:=hend6.out (xs.map Za1) hE;have hl:=hpl.out (xs.map Za1) (by rw[show xs.map Za1=LL from hE];exact List.prefix_refl _)
  dsimp only at hm1 hm2 hq
  obtain⟨K1',hK1⟩:∃ q,[a]++Zhg (xs.map Za1)=q:=⟨_,rfl⟩
  obtain⟨K2',hK2⟩:∃ q,Zhy (xs.map Za1)=q:=⟨_,rfl⟩
  have hlk1:K1'.length<=1000000:=by rw[<- hK1,Qm,List.length_singleton];omega
  have hlk2:K2'.length<=1000000:=by rw[<- hK2];omega
  rw[hK1] at hm1 e1 r1;rw[hK2] at hm2 e2 r2;have hR1:=Za (fun W (hW:Qam V.heap.size V W)=>Zkr w4.heap.size K1' r1 hlk1 W (Xg hm1 (Z5 hW) (by simp)));have hR2:=Za (fun W (hW:Qam V.heap.size V W)=>Zkr wA.heap.size K2' r2 hlk2 W (Xg hm2 (Z5 hW) (by simp)));rw[e1] at hR1;rw[e2] at hR2;have hc1:=hx1.cell;have hc2:=hx2.cell;have hD1:=Za hDV;have lD:=Za hVs;replace hb:=Za hb;clear hm1 hm2 hx1 e1 e2 r1 r2 hl hlk1 hlk2 hK1 hK2 hDV hqV hVs hI0 hE hq;have lB:=Za (show wA.heap.size+1+1<V.drew.heap.size from hx2.lt);clear hx2
  gi_wp2_with fail
  refine Zgy ?_
  gi_region_with (first
   | (refine⟨trivial,?_⟩;gi_at_call 71;refine(callsIn_wide.2 (hR1.out V.drew (Qb _ V).drew)).mono ?_;rintro e V1 ⟨U1,d1,rfl,hr1,hb1⟩;have hc3:=(hb1.cell (p:=⟨wA.heap.size+1+1,0,none⟩) lB.out).trans hc2)
   | (refine⟨trivial,?_⟩;gi_at_call 71;refine(callsIn_wide.2 (hR2.out V1 ((Qb _ V).drew.trans hb1))).mono ?_;rintro e V2 ⟨U2,d2,rfl,hr2,hb2⟩))
  all_goals
   have hst:Zeo (rSl 1 (rK .i64)):=Uh (Zfu _);have hb12:=(Qb V.heap.size V).drew.trans (hb1.trans (hb2.mono hb1.size));have hD2:V2.heap[w6.heap.size]? = some (.deferred (some [])):=(hb12.block _ lD.out).trans hD1.out;have hgp:=grownBy_putObj' V2 w6.heap.size (.deferred none);have hw:w.heap.size<=V.heap.size:=by have:=lD.out;have:=lz.out;omega
   have n1:=hst.mono (hst.grown (hst.new hr1 (Qd _) hb2) hgp (fun q e=>by cases e;exact lD.out)) hw;have n2:=hst.mono (hst.grown hr2 hgp (fun q e=>by cases e;exact Qj lD.out hb1.size)) (Qp hw hb1.size);have n3:=(hb.out.trans (hb12.mono hw)).grown hgp (Qp hw hb12.size) (fun k e=>by cases e;have:=lz.out;omega);replace n1:=Za n1;replace n2:=Za n2;replace n3:=Za n3;replace hD2:=Za hD2;clear hst hb12 hgp hr1 hr2 hb1 hb2 hc1 hc2 hw;simp only[Zwv]
   gi_wp2_with fail
   refine⟨by simp,.inl ⟨_,_,rfl,run_takeDeferred hD2.out,_,results_tmp3 rfl _ _ _,U1,d1,U2,d2,?_,?_,?_,n3.out⟩⟩
   ·rw[Z7j,Z9g,if_pos hE0.out,if_pos hE0.out,hE0.out]
    rfl
   ·rw[Z7j,if_pos hE0.out]
    exact n1.out
   ·rw[Z9g,if_pos hE0.out]
    exact n2.out
 case stop =>
  rintro c pre' q' V hVs hf;exact hf.elim}
end Go.Proofs.YtgmbjnajdfgenaaGreat
namespace Go.Proofs.YtgmbjnajdfgenaaGreat
open Go.RowKit Go.Shelf
attribute [local go_sem] Oper.semAt_some
def GrI (l0 lo hr hi B3 B6 B7 B8 B9:Nat) (n0:Qaf) (s:Rm) (x:It) (l:List Sv) (r:List Nat×Option Nat) (V:Qaf):Prop :=
 r.2=none/\(Qam lo n0 V/\hi<=V.heap.size)/\(Yg B6 #[.slice none 0 0,.slice none 0 0,.slice none 0 0,.slice none 0 0] 29 V/\Yg B7 #[.int .i64 0] 3 V/\Yg B8 #[.int .i64 0] 33 V) /\
 ∃ (sk:Rm) (F:List It) (qa qb qc qd:Option Qah×Nat×Nat) (fb m fc:Nat),Xy l.reverse s [x]=Xy (l.reverse.drop r.1.length) sk F/\Yg B3 #[.slice qa.1 qa.2.1 qa.2.2,.slice qb.1 qb.2.1 qb.2.2,.slice qc.1 qc.2.1 qc.2.2,.slice qd.1 qd.2.1 qd.2.2] 29 V/\Sto (Out l0 hi V) V (.agg #[.slice qa.1 qa.2.1 qa.2.2,.slice qb.1 qb.2.1 qb.2.2,.slice qc.1 qc.2.1 qc.2.2,.slice qd.1 qd.2.1 qd.2.2]) sk /\
  Yg B9 #[.slice (some ⟨fb,0,none⟩) m fc] 39 V/\FrB l0 hr hi V fb m fc F/\∀ q∈l.take (l.length-r.1.length),Zfr V q
def GrX (lo hi B6 B7 B8:Nat) (n0:Qaf) (s:Rm) (x:It) (l:List Sv) (c:Code) (r:List Nat×Option Nat) (V:Qaf):Prop :=
 c=.ret/\r.2=none/\(Qam lo n0 V/\hi<=V.heap.size)/\∃ er:Int,Yg B6 #[.slice none 0 0,.slice none 0 0,.slice none 0 0,.slice none 0 0] 29 V/\Yg B7 #[.int .i64 0] 3 V/\Yg B8 #[.int .i64 er] 33 V/\Xy l.reverse s [x]=(er,Zj,[])/\er≠0
theorem Zyx {lo hi:Nat}{V V':Qaf}{row:Option Nat}(hg:V.grownBy V' row) (hr:∀ r,row=some r->∃ o:Obj,V.heap[r]? = some o/\o.isCells=false){p:Qah}{v:Qag}(hp:Out lo hi V p) (hc:V.cell? p=some v):Out lo hi V' p/\V'.cell? p=some v :=
 ⟨⟨hp.1,Qj hp.2 hg.size⟩,cell_kept hc hg hr⟩
theorem Znp {V V':Qaf}{q:Sv}{row:Option Nat}(h:Zfr V q) (hh:q.hi<=V.heap.size) (hg:V.grownBy V' row) (hr:∀ r,row=some r->V.heap.size<=r\/q.hi<=r):Zfr V' q :=
 h.same fun k h1 h2=>hg.block k (by omega) (fun e=>by rcases hr k e.symm with h | h <;> omega)
theorem Z7w {lo hr hi fb m fc:Nat}{V V':Qaf}{F:List It}{row:Option Nat}(h:FrB lo hr hi V fb m fc F) (hg:V.grownBy V' row) (hrow:∀ r,row=some r->∃ o:Obj,V.heap[r]? = some o/\o.isCells=false):FrB lo hr hi V' fb m fc F:=by
 obtain⟨h1,h2,h3,h4,ps,h5,h6,h7⟩:=h;refine⟨h1,h2,h3,h4,ps,h5,⟨h6.1,?_⟩,fun p hp=>⟨(h7 p hp).1,Zf _ _ _ _ _ _ (fun a v ha hc=>Zyx hg hrow ha hc) (h7 p hp).2⟩⟩;rcases h6.2 with e' | ⟨g,cap,cur,e',hb,hgg,r⟩
 ·exact .inl e'
 ·exact .inr ⟨g,cap,cur,e',hb,Zl hgg hg hrow,r⟩
theorem Z7u {l0 lo hr hi B3 B6 B7 B8 B9:Nat}{n0:Qaf}{s:Rm}{x:It}{l:List Sv}{B:Nat}(hlh:lo<=hi) (hB:lo<=B) (hq:∀ q∈l,q.hi<=B/\q.hi<=hi):OwnFrom B (GrI l0 lo hr hi B3 B6 B7 B8 B9 n0 s x l):=fun r V V' row hs hg hrr=>by
 obtain⟨h0,⟨h1,h2⟩,⟨h3,h4,h5⟩,sk,F,qa,qb,qc,qd,fb,m,fc,e1,e2,e3,e4,e5,e6⟩:=hs;have hn:=fun r e=>(hrr r e).2
 refine⟨h0,⟨h1.grown hg (by omega) (fun r e=>by have:=(hrr r e).1;omega),Qp h2 hg.size⟩,⟨Zl h3 hg hn,Zl h4 hg hn,Zl h5 hg hn⟩,sk,F,qa,qb,qc,qd,fb,m,fc,e1,Zl e2 hg hn,e3.map fun p v hp hc=>Zyx hg hn hp hc,Zl e4 hg hn,Z7w e5 hg hn,fun q hm=> ?_⟩;have:=hq q (Qn hm);exact Znp (e6 q hm) (by omega) hg fun r e=>.inr (by have:=(hrr r e).1;omega)
theorem Z7o {lo hi B6 B7 B8:Nat}{n0:Qaf}{s:Rm}{x:It}{l:List Sv}{c:Code}{B:Nat}(hlh:lo<=hi) (hB:lo<=B):OwnFrom B (GrX lo hi B6 B7 B8 n0 s x l c):=fun r V V' row hs hg hrr=>by
 obtain⟨hc,h0,⟨h1,h2⟩,er,h3,h4,h5,h6⟩:=hs;have hn:=fun r e=>(hrr r e).2
 exact⟨hc,h0,⟨h1.grown hg (by omega) (fun r e=>by have:=(hrr r e).1;omega),Qp h2 hg.size⟩,er,Zl h3 hg hn,Zl h4 hg hn,Zl h5 hg hn,h6⟩
def Ybo (l0 lo:Nat) (s:Rm) (l:List Sv) (x:It) (w:Qaf) (e:Ending) (w':Qaf):Prop:=∃ qa qb qc qd:Option Qah×Nat×Nat,e=.returned (.tuple #[.agg #[.slice qa.1 qa.2.1 qa.2.2,.slice qb.1 qb.2.1 qb.2.2,.slice qc.1 qc.2.1 qc.2.2,.slice qd.1 qd.2.1 qd.2.2],.int .i64 (Xl s l x).2.2,.int .i64 (Xl s l x).1])/\Sto (Out l0 w.heap.size w') w' (.agg #[.slice qa.1 qa.2.1 qa.2.2,.slice qb.1 qb.2.1 qb.2.2,.slice qc.1 qc.2.1 qc.2.2,.slice qd.1 qd.2.1 qd.2.2]) (Xl s l x).2.1/\Qam lo w w'
theorem Z3 {W:Qaf}{g i:Nat}{cs:Array Qag}{t:TypeId}{v:Qag}(h:W.heap[g]? = some (.cells cs t (0,0))) (hv:cs[i]? = some v):W.setCell ⟨g,i,none⟩ v=W:=by{
 have hh:(W.setCell ⟨g,i,none⟩ v).heap=W.heap:=by
  apply Pw;intro k;by_cases e:k=g
  ·subst e
   rw[heap_setCell_same W k i _ _ v h,h]
   congr 2
   apply Pw;intro j;obtain⟨hi,hv'⟩:=Qc.1 hv;by_cases ej:i=j
   ·subst ej
    simp[hi,hv']
   ·rw[Array.getElem?_setIfInBounds_ne ej]
  ·exact Below.heap_setCell W ⟨g,i,none⟩ v k e
 have:W.setCell ⟨g,i,none⟩ v={ W with heap:=(W.setCell ⟨g,i,none⟩ v).heap }:=rfl;rw[this,hh]}
def PhI (V:Qaf) (len:Nat) (LL:List It) (v:Qag) (W:Qaf):Prop:=V.heap.size<W.heap.size/\∃ A' c',v=.slice A' len c'/\Zae (Old W) W [.slice A' len c'] LL
def PhL (V:Qaf) (nu:Nat) (er:Int) (S':Rm) (up:List It) (v:Qag) (W:Qaf):Prop:=V.heap.size<W.heap.size/\∃ (qa qb qc qd:Option Qah×Nat×Nat) (M:Option Qah) (mc:Nat),v=.tuple #[.agg #[.slice qa.1 qa.2.1 qa.2.2,.slice qb.1 qb.2.1 qb.2.2,.slice qc.1 qc.2.1 qc.2.2,.slice qd.1 qd.2.1 qd.2.2],.slice M nu mc,.int .i64 er]/\Sto (New V.heap.size W) W (.agg #[.slice qa.1 qa.2.1 qa.2.2,.slice qb.1 qb.2.1 qb.2.2,.slice qc.1 qc.2.1 qc.2.2,.slice qd.1 qd.2.1 qd.2.2]) S'/\Yh rIt 5 54 V.heap.size W M mc up
def PhS (V:Qaf) (S':Rm) (v:Qag) (W:Qaf):Prop:=V.heap.size<W.heap.size/\∃ (qa qb qc qd:Option Qah×Nat×Nat),v=.agg #[.slice qa.1 qa.2.1 qa.2.2,.slice qb.1 qb.2.1 qb.2.2,.slice qc.1 qc.2.1 qc.2.2,.slice qd.1 qd.2.1 qd.2.2]/\Sto (New V.heap.size W) W (.agg #[.slice qa.1 qa.2.1 qa.2.2,.slice qb.1 qb.2.1 qb.2.2,.slice qc.1 qc.2.1 qc.2.2,.slice qd.1 qd.2.1 qd.2.2]) S'
def PhM (V:Qaf) (nu:Nat) (up:List It) (v:Qag) (W:Qaf):Prop:=V.heap.size<W.heap.size/\∃ (M:Option Qah) (mc:Nat),v=.slice M nu mc/\Yh rIt 5 54 V.heap.size W M mc up
theorem Zso (l0 lo:Nat) (hl0:l0<=lo) (qa qb qc qd:Option Qah×Nat×Nat) (s:Rm) (A:Option Qah) (m c:Nat) (l:List Sv) (E:Option Qah) (ce:Nat) (x:It) (w:Qaf) (hlo:lo<=w.heap.size) (h:Sto (fun p=>p.block<l0) w (.agg #[.slice qa.1 qa.2.1 qa.2.2,.slice qb.1 qb.2.1 qb.2.2,.slice qc.1 qc.2.1 qc.2.2,.slice qd.1 qd.2.1 qd.2.2]) s)
  (hst:w.ownsRow lo 144 4 (.slice A m c) m (svs l)) (hl:l.length=m) (hm:m<=6) (hR:Rows lo w.heap.size w l) (hA:∀ g q,A.map (·.block)=some g->q∈l->g<q.lo\/q.hi<=g)
  (hq:∀ q∈l,Zka q.nd.1/\q.nd.2.length<=5/\q.pl+(if q.inst=true then 1 else 0)<=q.nd.2.length) (hx:Itm (fun p=>p.block<l0) w (itV x (.slice E x.2.2.length ce)) x) :
  Qal Tryz.prog 44 #[.agg #[.slice qa.1 qa.2.1 qa.2.2,.slice qb.1 qb.2.1 qb.2.2,.slice qc.1 qc.2.1 qc.2.2,.slice qd.1 qd.2.1 qd.2.2],.slice A m c,itV x (.slice E x.2.2.length ce)] w (Ybo l0 lo s l x w):=by{
 obtain⟨w1,hw1,b1,hs1,hB1⟩:=X4 w (.slice qa.1 qa.2.1 qa.2.2) (.slice qb.1 qb.2.1 qb.2.2) (.slice qc.1 qc.2.1 qc.2.2) (.slice qd.1 qd.2.1 qd.2.2) 29;obtain⟨w2,hw2,-,-,-,-,-,hs2,hB2,b2⟩:=Z7 w1 (.int .u8 (x.1.1.toNat:Int)) (.int .u32 x.1.2.1) (.int .u32 x.1.2.2) (.int .i64 x.2.1) (.slice E x.2.2.length ce) 54;obtain⟨w3,hw3,b3,hs3,hB3⟩:=X4 w2 (.slice none 0 0) (.slice none 0 0) (.slice none 0 0) (.slice none 0 0) 29;obtain⟨w4,hw4,b4,hs4,hB4⟩:∃ w4,w3.alloc (.cells #[.int .i64 0] 3)=w4/\Yg w3.heap.size #[.int .i64 0] 3 w4/\w4.heap.size=w3.heap.size+1/\Qam w3.heap.size w3 w4:=⟨_,rfl,Qaj w3 _,by simp,(Qb _ _).alloc (Qd _) _⟩
 obtain⟨w5,hw5,b5,hs5,hB5⟩:∃ w5,w4.alloc (.cells #[.int .i64 0] 33)=w5/\Yg w4.heap.size #[.int .i64 0] 33 w5/\w5.heap.size=w4.heap.size+1/\Qam w4.heap.size w4 w5:=⟨_,rfl,Qaj w4 _,by simp,(Qb _ _).alloc (Qd _) _⟩
 obtain⟨w6,hw6,-,-,-,-,-,hs6,hB6,b6⟩:=Z7 w5 (.int .u8 (x.1.1.toNat:Int)) (.int .u32 x.1.2.1) (.int .u32 x.1.2.2) (.int .i64 x.2.1) (.slice E x.2.2.length ce) 54;obtain⟨w7,hw7,b7,hs7,hB7⟩:∃ w7,w6.alloc (.cells #[.slice (some ⟨w5.heap.size,0,none⟩) 1 1] 39)=w7/\Yg w6.heap.size #[.slice (some ⟨w5.heap.size,0,none⟩) 1 1] 39 w7/\w7.heap.size=w6.heap.size+1/\Qam w6.heap.size w6 w7:=⟨_,rfl,Qaj w6 _,by simp,(Qb _ _).alloc (Qd _) _⟩
 obtain⟨w8,hw8,b8,hs8,hB8⟩:=Zdk w7 (.slice A m c) 93;have hbw:=Za (Ze8 A m c w7);rw[hw8] at hbw;have k78:=hB7.trans (hB8.mono hB7.size);have k68:=hB6.trans (k78.mono hB6.size);have k58:=hB5.trans (k68.mono hB5.size);have k48:=hB4.trans (k58.mono hB4.size);have k38:=hB3.trans (k48.mono hB3.size);have k28:=hB2.trans (k38.mono hB2.size);have k18:=hB1.trans (k28.mono hB1.size);have BW:=Za k18;obtain⟨i0,i1,i2,i3,i4,_⟩:=Zs ((((hB3.trans (hB4.mono hB3.size)).trans (hB5.mono (hB3.trans (hB4.mono hB3.size)).size)).block w1.heap.size (by omega)).trans b2);have SZ:=Za (show w1.heap.size=w.heap.size+1/\w2.heap.size=w.heap.size+2/\w3.heap.size=w.heap.size+3/\w4.heap.size=w.heap.size+4/\w5.heap.size=w.heap.size+5/\w6.heap.size=w.heap.size+6/\w7.heap.size=w.heap.size+7/\w8.heap.size=w.heap.size+8 from by omega);obtain⟨ad,had,hat⟩:=Zth (by rw[hl];exact hst);rw[hl] at had hat;obtain⟨f,hf⟩:∃ f:Nat->Sv,f=fun j=>l[j]?.getD svZ:=⟨_,rfl⟩
 have hff:Hid (∀ k,k<m->l.reverse[k]? = some (f (m-1-k))/\f (m-1-k)∈l/\l[m-1-k]? = some (f (m-1-k))):=Za fun k hk=>by
  have e:l.reverse[k]? = some l[m-1-k]:=by
   rw[List.getElem?_reverse (by omega),show l.length-1-k=m-1-k by omega];exact Qk _
  have e2:f (m-1-k)=l[m-1-k]:=by
   rw[hf];simp[Qk (show m-1-k<l.length by omega)]
  rw[e2];exact⟨e,List.getElem_mem _,Qk _⟩
 have htold:=Zku w7.heap.size c m A ad f w8 b8 (fun h=>⟨(had h).1,by have:=(had h).2.2;omega⟩) (by omega) (fun j hj=>by rw[hf];exact(hat j hj).same (k18.block _ (by rw[Zh];exact(had (by omega)).2.2)));have hin:InI x:=by
  obtain⟨_,_,hi,_⟩:=hx;exact hi
 have hfr:FrB l0 w.heap.size w8.heap.size w8 w5.heap.size 1 1 [x]:=by
  refine⟨rfl,by omega,by omega,by omega,[(x,.slice E x.2.2.length ce)],rfl,?_,fun p hp=> ?_⟩
  ·exact Xq (b:=w5.heap.size) (C:=Zi [(x,.slice E x.2.2.length ce)]) (by omega) ((k78.block _ (by omega)).trans b6) (Qd _) (by decide) rfl (by rfl)
  ·rw[Qg.1 hp]
   obtain⟨d,e,h1,h2⟩:=hx;have ed:d=.slice E x.2.2.length ce:=by
    unfold itV at e;simp at e;exact e.symm
   subst ed;exact⟨h1,Zf _ _ _ _ _ _ (fun a v ha hc=>⟨⟨.inl ha,by have:=hlo;omega⟩,(k18.cell (by omega)).trans hc⟩) h2⟩
 have hI0:GrI l0 lo w.heap.size w8.heap.size w.heap.size w2.heap.size w3.heap.size w4.heap.size w6.heap.size w s x l ([],none) w8 :=
  ⟨rfl,⟨k18.mono hlo,Qd _⟩,⟨(k48.block _ (by omega)).trans b3,(k58.block _ (by omega)).trans b4,(k68.block _ (by omega)).trans b5⟩,s,[x],qa,qb,qc,qd,w5.heap.size,1,1,rfl,(k28.block _ (by omega)).trans b1,h.map fun p v hp hc=>⟨⟨.inl hp,by omega⟩,(k18.cell (by omega)).trans hc⟩,
   (hB8.block _ (by omega)).trans b7,hfr,fun q hqm=>(hR.ok q (Qn hqm)).2.2.2.same fun k h1 h2=>k18.block k (by have:=(hR.ok q (Qn hqm)).2.2.1;omega)⟩
 have hlt:=Za (fun h:0<m=>(had h).2);have hAA:=Za (fun h:0<m=>(had h).1);replace hf:=Za hf;replace hl:=Za hl;replace hA:=Za hA;replace hR:=Za hR;replace hq:=Za hq;replace hfr:=Za hfr;replace hin:=Za hin;replace hs1:=Za hs1;replace hs2:=Za hs2;replace hs3:=Za hs3;replace hs4:=Za hs4;replace hs5:=Za hs5;replace hs6:=Za hs6;replace hs7:=Za hs7;replace hs8:=Za hs8;replace hI0:=Za hI0;clear h hst had hat b1 b2 b3 b4 b5 b6 b7 b8 hB1 hB2 hB3 hB4 hB5 hB6 hB7 hB8 k78 k68 k58 k48 k38 k28 k18 hx hw8;refine callsIn_wide.1 (callsIn_of_wp_marks (n:=5) Tryz.func44 rfl trivial ?_ rfl);simp only[Tryz.ntmps44,Pp,Qi,Qw,Pq,Pr,Ps,Pt,Pu,Pv,Pa,Qz]
 gi_wp2_with fail
 refine⟨trivial,?_⟩
 gi_at_call 75
 refine(callsIn_wide.2 hbw.out).mono ?_;rintro e w8 ⟨rfl,rfl⟩;clear i0 i1 i2 i3 i4
 gi_wp2_with fail
 refine Za0 (m:=5) (gf:=119) (lb:=#[.pointer (some ⟨w7.heap.size,0,none⟩)]) rfl (enters_of Tryz.func119 (by kernel_rfl) rfl) htold (fun _=>rfl)
  (fun k=>k=w.heap.size\/k=w2.heap.size\/k=w3.heap.size\/k=w4.heap.size\/k=w6.heap.size\/∃ q∈l,q.A.map (·.block)=some k) (fun k e=>by
   rcases e with e | e | e | e | e | ⟨q,hq,e⟩
   ·have:=SZ.out;omega
   ·have:=SZ.out;omega
   ·have:=SZ.out;omega
   ·have:=SZ.out;omega
   ·have:=SZ.out;omega
   ·have h1:=hR.out.ok q hq
    have:=U9 h1.2.2.2 k e
    have:=SZ.out;omega) none (fun k hk=>by
   rcases hk with rfl | ⟨h0,rfl⟩
   ·refine⟨by have:=SZ.out;omega,?_,by simp⟩
    rintro(e | e | e | e | e | ⟨q,hq,e⟩)
    ·have:=SZ.out;omega
    ·have:=SZ.out;omega
    ·have:=SZ.out;omega
    ·have:=SZ.out;omega
    ·have:=SZ.out;omega
    ·have h1:=hR.out.ok q hq
     have:=U9 h1.2.2.2 _ e;have:=SZ.out;omega
   ·have:=hlt.out h0
    refine⟨by have:=SZ.out;omega,?_,by simp⟩;rintro(e | e | e | e | e | ⟨q,hq,e⟩)
    ·have:=SZ.out;omega
    ·have:=SZ.out;omega
    ·have:=SZ.out;omega
    ·have:=SZ.out;omega
    ·have:=SZ.out;omega
    ·have h1:=hR.out.ok q hq
     have:=U9 h1.2.2.2 _ e;have:=hA.out ad.block q (by rw[hAA.out h0];rfl) hq
     omega)
  (GrI l0 lo w.heap.size w8.heap.size w.heap.size w2.heap.size w3.heap.size w4.heap.size w6.heap.size w s x l) (GrX lo w8.heap.size w2.heap.size w3.heap.size w4.heap.size w s x l)
  (Z7u (by have:=SZ.out;omega) (by have:=SZ.out;omega) (fun q hq=>by have:=(hR.out.ok q hq).2.2.1;have:=SZ.out;omega)) (fun c=>Z7o (by have:=SZ.out;omega) (by have:=SZ.out;omega))
  (fun r V hr k e=>by rw[hr.1] at e;cases e) hI0.out
  (fun x' a' V=>∃ g:Nat,a'={ tmps:=#[.agg #[.slice qa.1 qa.2.1 qa.2.2,.slice qb.1 qb.2.1 qb.2.2,.slice qc.1 qc.2.1 qc.2.2,.slice qd.1 qd.2.1 qd.2.2],.slice A m c,itV x (.slice E x.2.2.length ce),.pointer (some ⟨w.heap.size,0,none⟩),Qak,.pointer (some ⟨w1.heap.size,0,none⟩),.pointer (some ⟨w2.heap.size,0,none⟩),.pointer (some ⟨w3.heap.size,0,none⟩),.pointer (some ⟨w4.heap.size,0,none⟩),.pointer (some ⟨w6.heap.size,0,none⟩),Qak,.pointer (some ⟨g,0,none⟩),.agg #[.int .u8 (x.1.1.toNat:Int),.int .u32 x.1.2.1,.int .u32 x.1.2.2,.int .i64 x.2.1,.slice E x.2.2.length ce],.slice (some ⟨w5.heap.size,0,none⟩) 1 1,.slice A m c,.func (.func 119) #[] #[.pointer (some ⟨w7.heap.size,0,none⟩)],.int .i64 (x':Int),.agg #[.int .i64 (f x').nd.1,.slice (f x').A (f x').nd.2.length (f x').c,.int .i64 ((f x').pl:Int),.bool (f x').inst],Qak,Qak,Qak,Qak,Qak,Qak,Qak,Qak,Qak,Qak,Qak,Qak,Qak,Qak,Qak,Qak,Qak,Qak,Qak,Qak,Qak,Qak,Qak,Qak,Qak,Qak,Qak,Qak,Qak,Qak,Qak,Qak,Qak,Qak,Qak,Qak,Qak,Qak,Qak],defers:=[] }/\Yg g #[.int .i64 (f x').nd.1,.slice (f x').A (f x').nd.2.length (f x').c,.int .i64 ((f x').pl:Int),.bool (f x').inst] 144 V)
  (fun y a' _ A B row hs hg hr=>by
   obtain⟨g,e1,h0⟩:=hs
   exact⟨g,e1,Zl h0 hg fun r e=>(hr r e).2⟩)
  (fun pre x q=>fun _ _ _ _ hs _ _=>hs) ?assign ?body ?done ?stop
 case assign =>
  rintro l' pre' q' x' V K hi hT hK;obtain⟨V1,hV1,bV,hVs,hVB⟩:=X4 V (.int .i64 (f x').nd.1) (.slice (f x').A (f x').nd.2.length (f x').c) (.int .i64 ((f x').pl:Int)) (.bool (f x').inst) 144;replace hVs:=Za hVs;clear hi hT;simp only[Ybe]
  gi_wp2_with fail
  exact hK _ _ (Z5 hVB) ⟨V.heap.size,rfl,bV⟩
 case body =>
  rintro l' pre' q' x' a' V hVs hI ⟨g,rfl,hg⟩ ⟨hp1,hp2,hp3⟩;obtain⟨hqn,⟨hIb,hIs⟩,⟨hB6,hB7,hB8⟩,sk,F,pa,pb,pc,pd,fb,mf,fc,hgr,hB3,hSto,hB9,hFr,hrows⟩:=hI
  dsimp only at hqn
  subst hqn;have hk:pre'.length<m:=hp2;clear hp1;obtain⟨hrv,hqm,hqi⟩:=hff.out _ hk;rw[<- hp3] at hrv hqm hqi;have hst:=Zwl (s:=sk) (F:=F) hrv;have hidx:Hid (∀ q∈l.take (l.length-(pre'++[x']).length),q.hi<=(f x').lo/\q∈l.take (l.length-pre'.length)):=Za fun q hqm'=>by
   obtain⟨i,hi⟩:=List.getElem?_of_mem hqm';have hil:=(Qs.1 hi).1;rw[Px,Qm,hl.out] at hil;simp only[Qi,Qw] at hil;rw[Pf (by rw[hl.out,Qm];simp only[Qi,Qw];omega)] at hi;refine⟨?_,Qx (i:=i) (by rw[Pf (by rw[hl.out];omega)];exact hi)⟩;obtain⟨h1,e1⟩:=Qs.1 hi;obtain⟨h2,e2⟩:=Qs.1 hqi;have:=List.pairwise_iff_getElem.1 hR.out.apart i x' h1 h2 (by omega);rw[e1,e2] at this;exact this
  have hRA:Zfr V (f x'):=hrows _ (Qx (i:=m-1-pre'.length) (by rw[Pf (by rw[hl.out];show m-1-pre'.length<m-pre'.length;omega),<- hp3];exact hqi));have hpl:(pre'++[x']).length=pre'.length+1:=by rw[Qm];rfl
  clear hp3;generalize f x'=q at *;obtain⟨hlv,hq5,hqpl⟩:=hq.out q hqm;obtain⟨hql1,hql2,hql3,_⟩:=hR.out.ok q hqm;have hrow:=hRA.use (by have:=SZ.out;have:=hIs;omega);obtain⟨ps,hps,hpo,hpi⟩:=Uu hrow;have hrb:=U9 hRA;have hrbw:∀ r,q.A.map (·.block)=some r->r<w.heap.size:=fun r e=>by have:=hrb r e;omega
  have hgb:q.A.map (·.block)≠some g:=fun e=>by
   cases hA':q.A with
   | none=>rw[hA'] at e;cases e
   | some a0 =>
    rw[hA'] at e hpo;obtain⟨b,C,rfl,_,_,hgg,_⟩:=Yd hpo;obtain rfl:b=g:=Option.some.inj e;unfold Yg at hg;rw[hg] at hgg;simp at hgg
  obtain⟨qs,hqs,hqo,hqi'⟩:=hFr.row;have hfb:=hFr.at_;have hmf:=hFr.pos;have hm2:=hFr.few;have hFl:=hFr.len;obtain⟨rb,hrbe⟩:∃ rb,q.A.map (·.block)=rb:=⟨_,rfl⟩
  rw[hrbe] at hgb hrb hrbw;have hgV:∀ W,V.grownBy W rb->∀ k,k<V.heap.size->rb≠some k->W.heap[k]? = V.heap[k]? := fun W hW k h1 h2=>hW.block k h1 (fun e=>h2 e.symm)
  have bne:∀ k,w.heap.size<=k->rb≠some k:=fun k h e=>by have:=hrbw k e;omega
  have HB3:=Za (fun W (hW:V.grownBy W rb)=>(hgV W hW _ (Qc.1 hB3).1 (bne _ (Qd _))).trans hB3);have HB9:=Za (fun W (hW:V.grownBy W rb)=>(hgV W hW _ (Qc.1 hB9).1 (bne _ (by have:=SZ.out;omega))).trans hB9);have HG:=Za (fun W (hW:V.grownBy W rb)=>(hgV W hW _ (Qc.1 hg).1 hgb).trans hg);have HOut:Hid (∀ W,V.grownBy W rb->∀ p v,Out l0 w8.heap.size V p->V.cell? p=some v->Out l0 w8.heap.size W p/\W.cell? p=some v):=Za fun W hW p v hp hc=>by
   have hb:=hgV W hW p.block hp.2 (fun e=>by have h1:=hrb _ e;have h2:=hrbw _ e;rcases hp.1 with h | h <;> have:=SZ.out <;> omega);exact⟨⟨hp.1,by have:=hp.2;have:=hW.size;omega⟩,(Qq hb).trans hc⟩
  have HF:Hid (∀ W,V.grownBy W rb->Zae (Old W) W [.slice (some ⟨fb,0,none⟩) mf fc] F):=Za fun W hW=>by
   have hF2:=hFr.same (w':=W) hW.size fun k h1 h2=>hgV W hW k h1 (fun e=>by have h3:=hrb _ e;have h4:=hrbw _ e;rcases h2 with h | h | h <;> have:=SZ.out <;> omega)
   obtain⟨zs,e1,e2,e3⟩:=hF2.row;have:=Zem e2 (fun p hp=>⟨(e3 p hp).1,Zf _ _ _ _ _ _ (fun a v ha hc=>⟨ha.2,hc⟩) (e3 p hp).2⟩)
   rwa [e1] at this
  have HS:=Za (fun W (hW:V.grownBy W rb)=>(hSto.map fun p v hp hc=>⟨((HOut.out W hW p v hp hc).1).2,(HOut.out W hW p v hp hc).2⟩:Sto (Old W) W (.agg #[.slice pa.1 pa.2.1 pa.2.2,.slice pb.1 pb.2.1 pb.2.2,.slice pc.1 pc.2.1 pc.2.2,.slice pd.1 pd.2.1 pd.2.2]) sk));obtain⟨LL,hLL⟩:∃ LL,Vi q F=LL:=⟨_,rfl⟩
  have hmap:(ps.take q.pl++(qs++ps.drop (q.pl+if q.inst=true then 1 else 0))).map (·.1)=LL:=by
   rw[<- hLL,Pe,Pe,List.map_take,List.map_drop,hps,hqs];rfl
  have hLlen:(ps.take q.pl++(qs++ps.drop (q.pl+if q.inst=true then 1 else 0))).length=LL.length:=by rw[<- hmap,List.length_map]
  have HI:Hid (Qal Tryz.prog 77 #[.agg #[.int .i64 q.nd.1,.slice q.A q.nd.2.length q.c,.int .i64 (q.pl:Int),.bool q.inst],.slice (some ⟨fb,0,none⟩) mf fc] V.drew fun e W=>V.grownBy W rb/\V.heap.size<W.heap.size/\∃ A' c',e=.returned (.slice A' LL.length c')/\Zae (Old W) W [.slice A' LL.length c'] LL):=Za (by
   refine(Zm2 q.A q.lo w.heap.size q.nd.2.length q.c fb mf fc q.pl q.nd.1 q.inst ps qs V.drew hpo hqo (by rw[hrbe];exact bne _ hfb) hqpl hmf (by omega) (Zf8 hpi) (Zf8 hqi') (by have:=SZ.out;have:=hIs;show q.lo<=V.heap.size;omega)).mono ?_;rintro e W ⟨⟨A',c',rfl,ho,hgW⟩,hsz⟩;rw[hLlen] at ho ⊢;have hgW':V.grownBy W rb:=by rw[<- hrbe];exact Xx hgW
   refine⟨hgW',hsz,A',c',rfl,?_⟩;have:=Zem ho (fun p hp=> ?_)
   ·rwa [hmap] at this
   ·have hnb:∀ a:Qah,∀ v,Xw q.lo q.A V a->V.cell? a=some v->Old W a/\W.cell? a=some v:=fun a v ha hc=>by
     have hb:=hgV W hgW' a.block ha.1.2.1 (fun e=>ha.2 (by rw[hrbe];exact e));exact⟨by unfold Old;have:=ha.1.2.1;have:=hgW'.size;omega,(Qq hb).trans hc⟩
    rcases Qf.1 hp with hp | hp
    ·exact⟨(hpi p (Qn hp)).1,Zf _ _ _ _ _ _ hnb (hpi p (Qn hp)).2⟩
    ·rcases Qf.1 hp with hp | hp
     ·exact⟨(hqi' p hp).1,Zf _ _ _ _ _ _ (fun a v ha hc=>⟨((HOut.out W hgW' a v ha hc).1).2,(HOut.out W hgW' a v ha hc).2⟩) (hqi' p hp).2⟩
     ·exact⟨(hpi p (Qr hp)).1,Zf _ _ _ _ _ _ hnb (hpi p (Qr hp)).2⟩)
  have hL0:0<LL.length:=by
   rw[<- hLL];unfold Vi;simp only[Qm];omega
  have HL:Hid (∀ W A' c',V.grownBy W rb->Zae (Old W) W [.slice A' LL.length c'] LL->Qal Tryz.prog 76 #[.agg #[.slice pa.1 pa.2.1 pa.2.2,.slice pb.1 pb.2.1 pb.2.2,.slice pc.1 pc.2.1 pc.2.2,.slice pd.1 pd.2.1 pd.2.2],.int .i64 q.nd.1,.slice A' LL.length c',.slice (some ⟨fb,0,none⟩) mf fc] W (Z9h sk q.nd.1 LL F W)):=Za fun W A' c' hW hI=>Zzu pa pb pc pd sk q.nd.1 hlv A' LL.length c' LL (some ⟨fb,0,none⟩) mf fc F W (HS.out W hW) hI (HF.out W hW) rfl hL0 hFl (by omega)
  rw[hLL] at hst;have hsm:=Za (fun h:(Uj sk q.nd.1 LL F).1=0=>Zsn h);obtain⟨er,her⟩:∃ e,(Uj sk q.nd.1 LL F).1=e:=⟨_,rfl⟩
  obtain⟨S',hS'⟩:∃ e,(Uj sk q.nd.1 LL F).2.1=e:=⟨_,rfl⟩
  obtain⟨up,hup⟩:∃ e,(Uj sk q.nd.1 LL F).2.2=e:=⟨_,rfl⟩
  unfold Z9h at HL;rw[her,hS',hup] at hst HL;rw[her,hup] at hsm;obtain⟨len,hlen⟩:∃ e,LL.length=e:=⟨_,rfl⟩
  rw[hlen] at HI HL hL0;obtain⟨nu,hnu⟩:∃ e,up.length=e:=⟨_,rfl⟩
  rw[hnu] at HL hsm;have hqr:=Za hrows;have hIb':=Za hIb;have hIs':=Za hIs;have hrb':=Za hrb;have hrbw':=Za hrbw;have hgV':=Za hgV;have hb6:=Za hB6;have hb7:=Za hB7;have hb8:=Za hB8;replace hst:=Za hst;replace hgr:=Za hgr;replace hpl:=Za hpl;replace her:=Za her;replace hS':=Za hS';replace hup:=Za hup;replace hlen:=Za hlen;replace hnu:=Za hnu;replace hrbe:=Za hrbe;replace hrv:=Za hrv;replace hqm:=Za hqm;replace hk:=Za hk;replace hlv:=Za hlv;clear hrows hIb hIs hrb hrbw hgV hB6 hB7 hB8 hB3 hB9 hg hSto hFr hqs hqo hqi' hps hpo hpi hmap hLlen hLL hRA hrow hgb bne hqpl hq5 hqi hfb hmf hm2 hFl hL0;generalize q.nd.1=q1 at *;generalize q.nd.2.length=q3 at *
  gi_wp2_with fail
  refine Zgy ?_
  refine Us ⟨fun W W'=>Qam W.heap.size W W'\/(W=V.drew/\V.grownBy W' rb/\V.heap.size<W'.heap.size),6,fun W=>W=V.drew⟩ (ops' := ?opsLate) (by kernel_rfl) [(13,11),(13,12),(14,12)] ?he (by kernel_rfl) (by kernel_rfl) (fun _ _ _ _ _ h=>h) (fun⟨_,_,h⟩=>h) 13 (fun W=>V.grownBy W rb) (fun i=>match i with
   | 6=>some (PhI V len LL)
   | 8=>some (PhL V nu er S' up)
   | 9=>some (PhL V nu er S' up)
   | 10=>some (PhS V S')
   | 11=>some (PhM V nu up)
   | _=>none) (fun i=>match i with
   | 12=>some (.int .i64 er)
   | _=>none) ?h1 ?h2 ?h3 rfl ?hon ⟨rfl,rfl,rfl,Qd _,fun _ _ _=>rfl⟩ ?hcb ?tst ?_
  case he =>
   simp[Yb];rfl
  case h1=>decide
  case h2=>kernel_rfl
  case h3=>kernel_rfl
  case hon=>kernel_rfl
  case hcb =>
   intro W W' h hr;rcases hr with hb | ⟨_,hg,_⟩
   ·exact V5 h hb
   ·exact hg
  case tst =>
   intro j φ v W W' hp hx hr;have hbl:V.heap.size<W.heap.size->Qam W.heap.size W W':=fun h=>by
    rcases hr with hb | ⟨rfl,_⟩
    ·exact hb
    ·exact absurd h (Nat.lt_irrefl _)
   match j,hp with
   | 6,hp =>
    cases hp;obtain⟨h0,A',c',e,h1⟩:=hx;exact⟨Qj h0 (hbl h0).size,A',c',e,Y8.old h1 (hbl h0)⟩
   | 8,hp =>
    cases hp;obtain⟨h0,qa,qb,qc,qd,M,mc,e,h1,h2⟩:=hx;exact⟨Qj h0 (hbl h0).size,qa,qb,qc,qd,M,mc,e,h1.new (Qd _) (hbl h0),h2.below Z0 (hbl h0)⟩
   | 9,hp =>
    cases hp;obtain⟨h0,qa,qb,qc,qd,M,mc,e,h1,h2⟩:=hx;exact⟨Qj h0 (hbl h0).size,qa,qb,qc,qd,M,mc,e,h1.new (Qd _) (hbl h0),h2.below Z0 (hbl h0)⟩
   | 10,hp =>
    cases hp;obtain⟨h0,qa,qb,qc,qd,e,h1⟩:=hx;exact⟨Qj h0 (hbl h0).size,qa,qb,qc,qd,e,h1.new (Qd _) (hbl h0)⟩
   | 11,hp =>
    cases hp;obtain⟨h0,M,mc,e,h2⟩:=hx;exact⟨Qj h0 (hbl h0).size,M,mc,e,h2.below Z0 (hbl h0)⟩
  simp only[Pg,Ph,Pi,Q4]
  repeat (first
   | (refine Rk.wpAs_skip rfl ?_;simp only[Qa,Zb,Zc,Zd])
   | (refine Rk.wpAs_pure (v := ?_) rfl rfl ?_ ?_;rotate_left;(intro W hC hE;clear hE;(obtain⟨k0,k1,k2,k3,_⟩:=Ze (HB3.out W hC);obtain⟨g0,g1,g2,g3,_⟩:=Ze (HG.out W hC);obtain⟨n0,_⟩:=Zn (HB9.out W hC));clear hC;go_simp;first | done | with_reducible rfl);simp only[Qa,Zb,Zc,Zd]))
  refine Rk.wpAs_act rfl rfl ?_ ?_
  ·intro W hC hk6 hE
   obtain rfl:=hk6 rfl;clear hE;refine Rb.does_enter (f:=77) (args:=#[.agg #[.int .i64 q1,.slice q.A q3 q.c,.int .i64 (q.pl:Int),.bool q.inst],.slice (some ⟨fb,0,none⟩) mf fc]) ?_ ?_
   ·go_simp
   ·refine(HI.out).mono ?_
    rintro e W' ⟨h1,h2,A',c',rfl,h3⟩;exact⟨_,rfl,⟨h2,A',c',rfl,h3⟩,.inr ⟨rfl,h1,h2⟩⟩
  simp only[Qa,Zb,Zc,Zd,Rb.envAdd];intro x25
  repeat (first
   | (refine Rk.wpAs_skip rfl ?_;simp only[Qa,Zb,Zc,Zd])
   | (refine Rk.wpAs_pure (v := ?_) rfl rfl ?_ ?_;rotate_left;(intro W hC hE;clear hE;(obtain⟨n0,_⟩:=Zn (HB9.out W hC));clear hC;go_simp;first | done | with_reducible rfl);simp only[Qa,Zb,Zc,Zd]))
  refine Rk.wpAs_act rfl rfl ?_ ?_
  ·intro W hC _ hE
   obtain⟨h0,A',c',rfl,hI⟩:=hE.1 _ rfl rfl;clear hE;refine Rb.does_enter (f:=76) (args:=#[.agg #[.slice pa.1 pa.2.1 pa.2.2,.slice pb.1 pb.2.1 pb.2.2,.slice pc.1 pc.2.1 pc.2.2,.slice pd.1 pd.2.1 pd.2.2],.int .i64 q1,.slice A' len c',.slice (some ⟨fb,0,none⟩) mf fc]) ?_ ?_
   ·clear hI
    go_simp
   ·refine(HL.out W A' c' hC hI).mono ?_
    rintro e W' ⟨qa,qb,qc,qd,M,mc,rfl,h1,h2,hb⟩;exact⟨_,rfl,⟨Qj h0 hb.size,qa,qb,qc,qd,M,mc,rfl,h1.new (Pd h0) (Qb _ _),h2.low Z0 (Pd h0)⟩,.inl hb⟩
  simp only[Qa,Zb,Zc,Zd,Rb.envAdd];intro x27;refine Rk.wpAs_act rfl rfl ?_ ?_
  ·intro W hC _ hE
   have hx:Hid (PhL V nu er S' up x27 W):=Za (hE.1 _ rfl rfl);clear hE
   go_simp
   exact⟨hx.out,.inl (Qb _ _)⟩
  simp only[Qa,Zb,Zc,Zd,Rb.envAdd];intro x18;refine Rk.wpAs_act rfl rfl ?_ ?_
  ·intro W hC _ hE
   obtain⟨h0,qa,qb,qc,qd,M,mc,rfl,h1,h2⟩:=hE.1 _ rfl rfl;clear hE;have H1:=Za h1;have H0:=Za h0;clear h1 h2 h0
   go_simp
   exact⟨⟨H0.out,qa,qb,qc,qd,rfl,H1.out⟩,.inl (Qb _ _)⟩
  simp only[Qa,Zb,Zc,Zd,Rb.envAdd];intro x28;refine Rk.wpAs_act rfl rfl ?_ ?_
  ·intro W hC _ hE
   obtain⟨h0,qa,qb,qc,qd,M,mc,rfl,h1,h2⟩:=hE.2.1 _ rfl rfl;clear hE;have H2:=Za h2;have H0:=Za h0;clear h1 h2 h0
   go_simp
   exact⟨⟨H0.out,M,mc,rfl,H2.out⟩,.inl (Qb _ _)⟩
  simp only[Qa,Zb,Zc,Zd,Rb.envAdd];intro x29;refine Rk.wpAs_fixed rfl rfl rfl ?_ ?_
  ·intro W hC hE
   obtain⟨h0,qa,qb,qc,qd,M,mc,rfl,h1,h2⟩:=hE.2.2.1 _ rfl rfl;clear hE h0 h1 h2
   go_simp
   exact⟨rfl,.inl (Qb _ _)⟩
  simp only[Qa,Zb,Zc,Zd]
  repeat (first
   | (refine Rk.wpAs_skip rfl ?_;simp only[Qa,Zb,Zc,Zd])
   | (refine Rk.wpAs_pure (v := ?_) rfl rfl ?_ ?_;rotate_left;(intro W hC hE;clear hE;skip;clear hC;go_simp;first | done | with_reducible rfl);simp only[Qa,Zb,Zc,Zd]))
  refine Rk.wpAs_end fun W hC hE=> ?_
  obtain⟨⟨h0,M,mc,rfl,hrow⟩,⟨_,va,vb,vc,vd,rfl,hS⟩,_⟩:=hE;have hWs:=hC.size;have keep:∀ k,w.heap.size<=k->k<V.heap.size->W.heap[k]? = V.heap[k]? := fun k h1 h2=>hgV'.out W hC k h2 (fun e=>by have:=hrbw'.out k e;omega)
  have c3:=HB3.out W hC;have c9:=HB9.out W hC;have c8:Yg w4.heap.size #[.int .i64 0] 33 W:=(keep _ (by have:=SZ.out;omega) (Qc.1 hb8.out).1).trans hb8.out;have c6:Yg w2.heap.size #[.slice none 0 0,.slice none 0 0,.slice none 0 0,.slice none 0 0] 29 W:=(keep _ (by have:=SZ.out;omega) (Qc.1 hb6.out).1).trans hb6.out;have c7:Yg w3.heap.size #[.int .i64 0] 3 W:=(keep _ (by have:=SZ.out;omega) (Qc.1 hb7.out).1).trans hb7.out;obtain⟨W1,hW1,d3,gr1,gs1⟩:=Zu (a':=.slice va.1 va.2.1 va.2.2) (b':=.slice vb.1 vb.2.1 vb.2.2) (c':=.slice vc.1 vc.2.1 vc.2.2) (d':=.slice vd.1 vd.2.1 vd.2.2) c3;have c91:Yg w6.heap.size _ 39 W1:=(gr1.block _ (Qc.1 c9).1 (fun e=>by have:=Option.some.inj e;have:=SZ.out;omega)).trans c9;obtain⟨W2,hW2,d9,gr2,gs2⟩:=X1 (u:=.slice M nu mc) c91;have c82:Yg w4.heap.size #[.int .i64 0] 33 W2:=(gr2.block _ (by rw[gs1];exact(Qc.1 c8).1) (fun e=>by have:=Option.some.inj e;have:=SZ.out;omega)).trans ((gr1.block _ (Qc.1 c8).1 (fun e=>by have:=Option.some.inj e;have:=SZ.out;omega)).trans c8);obtain⟨W3,hW3,d8,gr3,gs3⟩:=X1 (u:=.int .i64 er) c82;obtain⟨m0,m1,m2,m3,mf,_⟩:=Ze c3;obtain⟨n0,nf,_⟩:=Zn c91;obtain⟨y0,yf,_⟩:=Zn c82;obtain⟨y3,_,_⟩:=Zn d8;have all3:∀ k,k<W.heap.size->k≠w.heap.size->k≠w6.heap.size->k≠w4.heap.size->W3.heap[k]? = W.heap[k]? := fun k h1 h2 h3 h4 =>
   (gr3.block k (by omega) (fun e=>h4 (Option.some.inj e))).trans ((gr2.block k (by omega) (fun e=>h3 (Option.some.inj e))).trans (gr1.block k h1 (fun e=>h2 (Option.some.inj e))))
  have hs3':W3.heap.size=W.heap.size:=by omega
  have kpt:Hid (Vq (fun k=>k=w.heap.size\/k=w2.heap.size\/k=w3.heap.size\/k=w4.heap.size\/k=w6.heap.size\/∃ q∈l,q.A.map (·.block)=some k) none none V W3):=Za ((((Vq.refl _ _ _).grown hC fun r e=>.inr (.inr (.inr (.inr (.inr (.inr ⟨q,hqm.out,by rw[hrbe.out,e]⟩)))))).grown gr1 fun r e=>by cases e;exact .inr (.inl rfl)).grown gr2 (fun r e=>by cases e;exact .inr (.inr (.inr (.inr (.inr (.inl rfl)))))) |>.grown gr3 fun r e=>by cases e;exact .inr (.inr (.inr (.inr (.inl rfl)))));have hrlo:∀ r,rb=some r->lo<=r:=fun r e=>by have:=hrb'.out r e;omega
  have hb3:Hid (Qam lo w W3/\w8.heap.size<=W3.heap.size):=Za ⟨(((hIb'.out.grown hC (by have:=hIs'.out;have:=SZ.out;omega) hrlo).grown gr1 (by have:=hIs'.out;have:=SZ.out;omega) (fun k e=>by cases e;omega)).grown gr2 (by have:=hIs'.out;have:=SZ.out;omega) (fun k e=>by cases e;have:=SZ.out;omega)).grown gr3 (by have:=hIs'.out;have:=SZ.out;omega) (fun k e=>by cases e;have:=SZ.out;omega),by have:=hIs'.out;omega⟩;have z6:Hid (Yg w2.heap.size #[.slice none 0 0,.slice none 0 0,.slice none 0 0,.slice none 0 0] 29 W3):=Za ((all3 _ (Qc.1 c6).1 (by have:=SZ.out;omega) (by have:=SZ.out;omega) (by have:=SZ.out;omega)).trans c6);have z7:Hid (Yg w3.heap.size #[.int .i64 0] 3 W3):=Za ((all3 _ (Qc.1 c7).1 (by have:=SZ.out;omega) (by have:=SZ.out;omega) (by have:=SZ.out;omega)).trans c7);have z8:Hid (Yg w4.heap.size #[.int .i64 er] 33 W3):=Za d8;have z3:Hid (Yg w.heap.size #[.slice va.1 va.2.1 va.2.2,.slice vb.1 vb.2.1 vb.2.2,.slice vc.1 vc.2.1 vc.2.2,.slice vd.1 vd.2.1 vd.2.2] 29 W3):=Za ((gr3.block _ (by have:=SZ.out;have:=hIs'.out;omega) (fun e=>by have:=Option.some.inj e;have:=SZ.out;omega)).trans ((gr2.block _ (by have:=SZ.out;have:=hIs'.out;omega) (fun e=>by have:=Option.some.inj e;have:=SZ.out;omega)).trans d3));have z9:Hid (Yg w6.heap.size #[.slice M nu mc] 39 W3):=Za ((gr3.block _ (by have:=SZ.out;have:=hIs'.out;omega) (fun e=>by have:=Option.some.inj e;have:=SZ.out;omega)).trans d9);have big:∀ k,V.heap.size<=k->k<W.heap.size->W3.heap[k]? = W.heap[k]? := fun k h1 h2=>all3 k h2 (by have:=hIs'.out;have:=SZ.out;omega) (by have:=hIs'.out;have:=SZ.out;omega) (by have:=hIs'.out;have:=SZ.out;omega)
  have hS3:Hid (Sto (Out l0 w8.heap.size W3) W3 (.agg #[.slice va.1 va.2.1 va.2.2,.slice vb.1 vb.2.1 vb.2.2,.slice vc.1 vc.2.1 vc.2.2,.slice vd.1 vd.2.1 vd.2.2]) S'):=Za (hS.map fun p v hp hc=>⟨⟨.inr (by have:=hIs'.out;have:=hp.1;omega),by have:=hp.2.1;omega⟩,(Qq (big _ hp.1 hp.2.1)).trans hc⟩);have hF3:Hid (0<nu->nu<=2->∃ fb',M=some ⟨fb',0,none⟩/\FrB l0 w.heap.size w8.heap.size W3 fb' nu mc up):=Za fun h1 h2=>by
   obtain⟨zs,e1,e2,e3⟩:=Uu hrow;rw[hnu.out] at e2;obtain⟨ad',rfl⟩:∃ ad',M=some ad':=by
    obtain⟨_,_,e,_,_,_,h5⟩:=Yj e2;cases e;exact h5 h1
   obtain⟨b,C,rfl,hb1,hb2,hg1,hn1,hn2,hn3,hn4⟩:=Yd e2;refine⟨b,rfl,hnu.out,h1,h2,by have:=hIs'.out;have:=SZ.out;omega,zs,e1,Xq (by have:=hIs'.out;have:=SZ.out;omega) ((big b hb1 hb2).trans hg1) hn1 hn2 hn3 hn4,fun p hp=>⟨(e3 p hp).1,Zf _ _ _ _ _ _ (fun a v ha hc=>⟨⟨.inr (by have:=hIs'.out;have:=ha.1.1;omega),by have:=ha.1.2.1;omega⟩,(Qq (big _ ha.1.1 ha.1.2.1)).trans hc⟩) (e3 p hp).2⟩⟩
  have hR3:Hid (∀ q'∈l.take (l.length-(pre'++[x']).length),Zfr W3 q'):=Za fun q' hq'=>by
   obtain⟨h1,h2⟩:=hidx.out q' hq';refine(hqr.out q' h2).same fun k h3 h4=> ?_;have h5:=(hR.out.ok q' (Qn h2)).2.2.1;rw[all3 k (by have:=SZ.out;have:=hIs'.out;omega) (by omega) (by have:=SZ.out;omega) (by have:=SZ.out;omega)];exact hgV'.out W hC k (by have:=SZ.out;have:=hIs'.out;omega) (fun e=>by have:=hrb'.out k e;omega)
  have hgA:Hid (Xy l.reverse s [x]=if er=0 then Xy (l.reverse.drop (pre'++[x']).length) S' up else (er,Zj,[])):=Za (by rw[hpl.out,hgr.out,hst.out]);replace all3:=Za all3;replace hs3':=Za hs3';replace d3:=Za d3;replace d8:=Za d8;replace d9:=Za d9;replace gr1:=Za gr1;replace gr2:=Za gr2;replace gr3:=Za gr3;replace hWs:=Za hWs;replace gs1:=Za gs1;replace gs2:=Za gs2;replace gs3:=Za gs3;clear keep c3 c9 c8 c6 c7 c91 c82 big hrow hS h0 hrlo hC
  go_wp2_with fail
  simp only[Zwv];by_cases he0:er=0
  ·have hgo:Hid (Xy l.reverse s [x]=Xy (l.reverse.drop (pre'++[x']).length) S' up):=Za (by rw[hgA.out,if_pos he0])
   obtain⟨hu1,hu2⟩:=hsm.out he0;obtain⟨fb',rfl,hfr'⟩:=hF3.out hu1 hu2;have hfin:Hid (GrI l0 lo w.heap.size w8.heap.size w.heap.size w2.heap.size w3.heap.size w4.heap.size w6.heap.size w s x l (pre'++[x'],none) W3):=Za ⟨rfl,hb3.out,⟨z6.out,z7.out,by have:=z8.out;rwa [he0] at this⟩,S',up,va,vb,vc,vd,fb',nu,mc,hgo.out,z3.out,hS3.out,z9.out,hfr',hR3.out⟩;subst he0;clear hfr'
   gi_wp2_with fail
   exact⟨none,kpt.out.wide fun k _ h=>by simpa using h,hfin.out⟩
  ·have t0:(er != 0)=true:=by simpa using he0
   have hgo:Hid (Xy l.reverse s [x]=(er,Zj,[])):=Za (by rw[hgA.out,if_neg he0]);replace he0:=Za he0;have e6:=z6.out;have e7:=z7.out;have e8:=z8.out;obtain⟨m0,m1,m2,m3,mf,_⟩:=Ze e6;obtain⟨n0,nf,_⟩:=Zn e7;obtain⟨y0,yf,_⟩:=Zn e8
   have S6:=Za (show ∀ W:Qaf,W=W3.drew->(((W.setCell ⟨w2.heap.size,0,none⟩ (.slice none 0 0)).setCell ⟨w2.heap.size,1,none⟩ (.slice none 0 0)).setCell ⟨w2.heap.size,2,none⟩ (.slice none 0 0)).setCell ⟨w2.heap.size,3,none⟩ (.slice none 0 0)=W from fun W e=>by
    subst e
    rw[Z3 (W:=W3.drew) e6 rfl,Z3 (W:=W3.drew) e6 rfl,Z3 (W:=W3.drew) e6 rfl,Z3 (W:=W3.drew) e6 rfl])
   have S7:=Za (show ∀ W:Qaf,W=W3.drew->W.setCell ⟨w3.heap.size,0,none⟩ (.int .i64 0)=W from fun W e=>by subst e;exact Z3 (W:=W3.drew) e7 rfl);have S8:=Za (show ∀ W:Qaf,W=W3.drew->W.setCell ⟨w4.heap.size,0,none⟩ (.int .i64 er)=W from fun W e=>by subst e;exact Z3 (W:=W3.drew) e8 rfl);have hfin:Hid (GrX lo w8.heap.size w2.heap.size w3.heap.size w4.heap.size w s x l .ret (pre'++[x'],none) W3.drew):=Za ⟨rfl,rfl,⟨hb3.out.1.drew,hb3.out.2⟩,er,e6,e7,e8,hgo.out,he0.out⟩;have kp3:Hid (Vq (fun k=>k=w.heap.size\/k=w2.heap.size\/k=w3.heap.size\/k=w4.heap.size\/k=w6.heap.size\/∃ q∈l,q.A.map (·.block)=some k) none none V W3.drew):=Za ⟨kpt.out.size,kpt.out.same⟩;clear e6 e7 e8
   gi_wp2_with fail
   refine Zgy ?_;clear m0 m1 m2 m3 mf n0 nf y0 yf
   refine Us ⟨fun W W'=>W'=W,2,fun _=>True⟩ (ops' := ?opsLate6) (by kernel_rfl) [] ?he6 (by kernel_rfl) (by kernel_rfl) (fun _ _ _ _ _ h=>h) (fun⟨_,_,h⟩=>h) 5 (fun W=>W=W3.drew) (fun _=>none) (fun i=>match i with
    | 2=>some Qak
    | 3=>some Qak
    | 4=>some Qak
    | _=>none) ?h61 ?h62 ?h63 trivial ?hon6 rfl (fun _ _ h e=>e.trans h) (fun _ _ _ _ _ hp=>by cases hp) ?_
   case he6 =>
    simp[Yb];rfl
   case h61=>decide
   case h62=>kernel_rfl
   case h63=>kernel_rfl
   case hon6=>kernel_rfl
   simp only[Pg,Ph,Pi,Q4]
   repeat (first
    | (refine Rk.wpAs_skip rfl ?_;simp only[Qa,Zb,Zc,Zd])
    | (refine Rk.wpAs_pure (v := ?_) rfl rfl ?_ ?_;rotate_left;(intro W hC hE;clear hE;(have hC':=hC;subst hC';obtain⟨y0,yf,_⟩:=Zn z8.out);clear hC;go_simp;first | done | with_reducible rfl);simp only[Qa,Zb,Zc,Zd]))
   refine Rk.wpAs_fixed rfl rfl rfl ?_ ?_
   ·intro W hC hE
    clear hE;have hh:=Za (S6.out W hC);have e6:Yg w2.heap.size #[.slice none 0 0,.slice none 0 0,.slice none 0 0,.slice none 0 0] 29 W:=by rw[hC];exact z6.out
    obtain⟨m0,m1,m2,m3,mf,_⟩:=Ze e6;clear hC e6
    go_simp
    first | exact⟨rfl,hh.out⟩ | exact hh.out
   simp only[Qa];refine Rk.wpAs_fixed rfl rfl rfl ?_ ?_
   ·intro W hC hE
    clear hE;have hh:=Za (S7.out W hC);have e6:Yg w3.heap.size #[.int .i64 0] 3 W:=by rw[hC];exact z7.out
    obtain⟨m0,mf,_⟩:=Zn e6;clear hC e6
    go_simp
    first | exact⟨rfl,hh.out⟩ | exact hh.out
   simp only[Qa];refine Rk.wpAs_fixed rfl rfl rfl ?_ ?_
   ·intro W hC hE
    clear hE;have hh:=Za (S8.out W hC);have e6:Yg w4.heap.size #[.int .i64 er] 33 W:=by rw[hC];exact z8.out
    obtain⟨m0,mf,_⟩:=Zn e6;clear hC e6
    go_simp
    first | exact⟨rfl,hh.out⟩ | exact hh.out
   simp only[Qa];refine Rk.wpAs_end fun W hC hE=> ?_
   subst hC
   go_wp2_with fail
   simp only[Zwv]
   gi_wp2_with fail
   exact⟨none,kp3.out.wide fun k _ h=>by simpa using h,hfin.out⟩
 case done =>
  rintro xs q' V hVs rfl ⟨_,⟨hIb,hIs⟩,⟨hB6,hB7,hB8⟩,sk,F,pa,pb,pc,pd,fb,mf,fc,hgr,hB3,hSto,hB9,hFr,_⟩ hDV hqV
  have hgA:Hid (Xy l.reverse s [x]=(0,sk,F)):=Za (by
   rw[hgr,Xb,Pj (by rw[Py,hl.out];exact Qd _)]
   rfl)
  have hmf:=hFr.pos;have hm2:=hFr.few;have hFl:=hFr.len;have hD1:=Za hDV;have hIts:Zae (Old V) V [.slice (some ⟨fb,0,none⟩) mf fc] F:=by
   obtain⟨zs,e1,e2,e3⟩:=hFr.row;have:=Zem e2 (fun p hp=>⟨(e3 p hp).1,Zf _ _ _ _ _ _ (fun a v ha hc=>⟨ha.2,hc⟩) (e3 p hp).2⟩)
   rwa [e1] at this
  have hSV:Sto (Old V) V (.agg #[.slice pa.1 pa.2.1 pa.2.2,.slice pb.1 pb.2.1 pb.2.2,.slice pc.1 pc.2.1 pc.2.2,.slice pd.1 pd.2.1 pd.2.2]) sk:=hSto.map fun p v hp hc=>⟨hp.2,hc⟩
  obtain⟨k0,k1,k2,k3,kf,_⟩:=Ze hB3;obtain⟨n0,nf,_⟩:=Zn hB9;obtain⟨y0,yf,_⟩:=Zn hB8;replace hgA:=hgA;have hidx:∃ x0 r0,F=x0::r0:=by
   cases F with
   | nil=>simp at hFl;omega
   | cons a b=>exact⟨a,b,rfl⟩
  obtain⟨x0,r0,hF0⟩:=hidx;obtain⟨ad0,E0,ce0,e0,_,⟨_,_,_,z3,_⟩,_⟩:=Zao hIts (show F[0]? = some x0 by rw[hF0];rfl);cases e0;have hnow:Zch F=x0.2.1:=by rw[hF0];rfl
  have z3':V.cell? ⟨fb,3,none⟩=some (.int .i64 x0.2.1):=by simpa [Addr.add] using z3
  have hfbh:=hFr.at_;have g6:=Za hB6;have g7:=Za hB7;by_cases h1:mf=1
  ·subst h1
   obtain⟨ref,href⟩:∃ r,x0.2.1=r:=⟨_,rfl⟩
   have hcell:=Za (href ▸ z3');obtain⟨S9,hSk⟩:∃ S,sk=S:=⟨_,rfl⟩
   have hO:Hid (Xl s l x=(0,S9,ref)):=Za (by unfold Xl;rw[hgA.out,if_pos rfl,if_neg (by rw[hFl];decide),hnow,href,hSk]);have g3:=Za hB3;have g9:=Za hB9;have g8:=Za hB8;have hD9:=hD1;have hB9':=Za hIb;have hS9:=Za (hSk ▸ hSto)
   have hfbn:Hid (fb≠w2.heap.size/\fb≠w3.heap.size):=Za (by
    have hne:∀ (k:Nat) (cs:Array Qag) (t:TypeId),t≠54->V.heap[k]? = some (.cells cs t (0,0))->fb≠k:=fun k cs t ht hk e=>by
     subst e;obtain⟨zs,_,e2,_⟩:=hFr.row;obtain⟨b,C,eb,_,_,hgg,_⟩:=Yd e2;cases eb;rw[hk] at hgg;simp at hgg;exact ht hgg.2
    exact⟨hne _ _ _ (by decide) hB6,hne _ _ _ (by decide) hB7⟩)
   replace hSk:=Za hSk;replace href:=Za href;replace hnow:=Za hnow;replace hF0:=Za hF0;replace hFl:=Za hFl;clear hgr z3 z3' hIts hSV hSto hFr hB3 hB9 hB8 hB6 hB7 hDV hqV hIb hmf hm2
   gi_wp2_with fail
   clear k0 k1 k2 k3 kf n0 nf y0 yf;obtain⟨o6,ho6⟩:∃ o:Obj,o=.cells #[.slice pa.1 pa.2.1 pa.2.2,.slice pb.1 pb.2.1 pb.2.2,.slice pc.1 pc.2.1 pc.2.2,.slice pd.1 pd.2.1 pd.2.2] 29 (0,0):=⟨_,rfl⟩
   obtain⟨o7,ho7⟩:∃ o:Obj,o=.cells #[.int .i64 ref] 3 (0,0):=⟨_,rfl⟩
   obtain⟨fin,hfn⟩:∃ fin,fin=Zg4 w2.heap.size o6 w3.heap.size o7:=⟨_,rfl⟩
   have fn6:fin w2.heap.size=some o6:=by rw[hfn];exact Zgp _ _ _ _
   have fn7:fin w3.heap.size=some o7:=by rw[hfn];exact Zf9 (by have:=SZ.out;omega) _ _
   have fnn:∀ k,k≠w2.heap.size->k≠w3.heap.size->fin k=none:=fun k h1 h2=>by rw[hfn];exact Zez h1 h2 _ _
   have K3:=Za (fun W (hW:Yp fin V.drew W)=>(hW.other (fnn w.heap.size (by have:=SZ.out;omega) (by have:=SZ.out;omega)) (show V.drew.heap[w.heap.size]? = _ from g3.out):Yg w.heap.size #[.slice pa.1 pa.2.1 pa.2.2,.slice pb.1 pb.2.1 pb.2.2,.slice pc.1 pc.2.1 pc.2.2,.slice pd.1 pd.2.1 pd.2.2] 29 W));have K9:=Za (fun W (hW:Yp fin V.drew W)=>(hW.other (fnn w6.heap.size (by have:=SZ.out;omega) (by have:=SZ.out;omega)) (show V.drew.heap[w6.heap.size]? = _ from g9.out):Yg w6.heap.size #[.slice (some ⟨fb,0,none⟩) 1 fc] 39 W));have K8:=Za (fun W (hW:Yp fin V.drew W)=>(hW.other (fnn w4.heap.size (by have:=SZ.out;omega) (by have:=SZ.out;omega)) (show V.drew.heap[w4.heap.size]? = _ from g8.out):Yg w4.heap.size #[.int .i64 0] 33 W));have KD:=Za (fun W (hW:Yp fin V.drew W)=>(hW.other (fnn w8.heap.size (by have:=SZ.out;omega) (by have:=SZ.out;omega)) (show V.drew.heap[w8.heap.size]? = _ from hD9.out):W.heap[w8.heap.size]? = some (.deferred (some []))));have KF:Hid (∀ W,Yp fin V.drew W->W.cell? ⟨fb,3,none⟩=some (.int .i64 ref)):=Za fun W hW=>by
    have hc:=hcell.out;unfold Q0 at hc;split at hc
    ·rename_i cs ty fz hb
     have:=hW.other (fnn fb hfbn.out.1 hfbn.out.2) (show V.drew.heap[fb]? = _ from hb);unfold Q0;simp only[this];exact hc
    ·cases hc
   have K6:Hid (∀ W,Yp fin V.drew W->∃ a b c d,W.heap[w2.heap.size]? = some (.cells #[a,b,c,d] 29 (0,0))):=Za fun W hW=>by
    rcases hW.box fn6 (show V.drew.heap[w2.heap.size]? = _ from g6.out) with e | e
    ·exact⟨_,_,_,_,e⟩
    ·rw[ho6] at e;exact⟨_,_,_,_,e⟩
   have K7:Hid (∀ W,Yp fin V.drew W->∃ a,W.heap[w3.heap.size]? = some (.cells #[a] 3 (0,0))):=Za fun W hW=>by
    rcases hW.box fn7 (show V.drew.heap[w3.heap.size]? = _ from g7.out) with e | e
    ·exact⟨_,e⟩
    ·rw[ho7] at e;exact⟨_,e⟩
   have KB:=Za (fun W (hW:Yp fin V.drew W)=>(⟨hW.os.trans hB9'.out.os,hW.tape.trans hB9'.out.tape,hW.output.trans hB9'.out.output,Qp hB9'.out.size hW.size,fun k hk=>by
    rcases hW.block k (by have:=hB9'.out.size;show k<V.heap.size;omega) with e | ⟨o,e,_⟩
    ·exact e.trans (hB9'.out.block k hk)
    ·rw[fnn k (by have:=SZ.out;omega) (by have:=SZ.out;omega)] at e
     cases e⟩:Qam lo w W))
   have KS:=Za (fun W (hW:Yp fin V.drew W)=>(hS9.out.map fun p v hp hc=>(show Out l0 w8.heap.size W p/\W.cell? p=some v from by
    rcases hW.block p.block hp.2 with e | ⟨o,e,_⟩
    ·exact⟨⟨hp.1,Qj hp.2 hW.size⟩,(Qq (w:=V) e).trans hc⟩
    ·rw[fnn p.block (by have:=SZ.out;rcases hp.1 with h | h <;> omega) (by have:=SZ.out;rcases hp.1 with h | h <;> omega)] at e
     cases e):Sto (Out l0 w8.heap.size W) W (.agg #[.slice pa.1 pa.2.1 pa.2.2,.slice pb.1 pb.2.1 pb.2.2,.slice pc.1 pc.2.1 pc.2.2,.slice pd.1 pd.2.1 pd.2.2]) S9))
   replace fnn:=Za fnn;replace fn6:=Za fn6;replace fn7:=Za fn7;replace ho6:=Za ho6;replace ho7:=Za ho7;replace hfn:=Za hfn;refine wpIn_wide.2 ?_
   refine Rb.wp_region_fx (Yp fin) (by kernel_rfl) (fun W=>Yp fin V.drew W) (fun i=>match i with
    | 5=>some (fun _ W=>W.heap[w2.heap.size]? = some o6)
    | 6=>some (fun _ W=>W.heap[w3.heap.size]? = some o7)
    | _=>none) (fun i=>match i with
    | 7=>some Qak
    | _=>none) (by kernel_rfl) (Yp.refl _ _) (fun w w' h hb=>h.trans hb) ?tsta ?_
   case tsta =>
    intro j φ x W W' hp hx hb
    match j,hp with
    | 5,hp=>cases hp;exact hb.done fn6.out hx
    | 6,hp=>cases hp;exact hb.done fn7.out hx
   repeat (first
    | (refine Rb.wpAs_skip rfl ?_;simp only[Qa,Zb,Zc,Zd])
    | (refine Rb.wpAs_pure (v := ?_) rfl rfl ?_ ?_;rotate_left;(intro W hC hE;clear hE;(obtain⟨k0,k1,k2,k3,_⟩:=Ze (K3.out W hC);obtain⟨n0,_⟩:=Zn (K9.out W hC);have cf:=KF.out W hC);clear hC;go_simp;first | done | with_reducible rfl);simp only[Qa,Zb,Zc,Zd]))
   refine Rb.wpAs_act rfl rfl ?_ ?_
   ·intro W hC hE
    clear hE;obtain⟨a,b,c,d,G⟩:=K6.out W hC;obtain⟨q0,q1,q2,q3,qf,_⟩:=Ze G;obtain⟨W1,hW1,e1,gr1,_⟩:=Zu (a':=.slice pa.1 pa.2.1 pa.2.2) (b':=.slice pb.1 pb.2.1 pb.2.2) (c':=.slice pc.1 pc.2.1 pc.2.2) (d':=.slice pd.1 pd.2.1 pd.2.2) G;rw[<- ho6.out] at e1;have hk:=Za (Yp.of_grown gr1 fn6.out e1);replace e1:=Za e1;clear gr1 G hC
    go_simp
    exact⟨e1.out,hk.out⟩
   simp only[Qa,Rb.envAdd];intro _;refine Rb.wpAs_act rfl rfl ?_ ?_
   ·intro W hC hE
    clear hE;obtain⟨a,G⟩:=K7.out W hC;obtain⟨q0,qf,_⟩:=Zn G;obtain⟨W1,hW1,e1,gr1,_⟩:=X1 (u:=.int .i64 ref) G;rw[<- ho7.out] at e1;have hk:=Za (Yp.of_grown gr1 fn7.out e1);replace e1:=Za e1;clear gr1 G hC
    go_simp
    exact⟨e1.out,hk.out⟩
   simp only[Qa,Rb.envAdd];intro _;refine Rb.wpAs_fixed rfl rfl rfl ?_ ?_
   ·intro W hC hE
    clear hE;have G:=K8.out W hC;obtain⟨q0,qf,_⟩:=Zn G;have hs:=Za (Z3 (i:=0) (v:=.int .i64 0) G rfl);clear G hC
    go_simp
    rw[hs.out];exact⟨rfl,Yp.refl _ _⟩
   simp only[Qa];refine Rb.wpAs_end fun W hC hE=> ?_
   have e7:=hE.1;have e6:=hE.2.1;rw[ho7.out] at e7;rw[ho6.out] at e6;have hD5:=Za (KD.out W hC);have e8:=Za (K8.out W hC);have hBe:=Za (KB.out W hC);have hSe:=Za (KS.out W hC);replace e6:=Za e6;replace e7:=Za e7;have hWs:=Za (show V.heap.size<=W.heap.size from hC.size);clear hE hC;simp only[Exit.then]
   gi_wp2_with fail
   refine⟨by simp,.inl ⟨_,_,rfl,run_takeDeferred hD5.out,?_⟩⟩;have hgp:=grownBy_putObj' W w8.heap.size (.deferred none);have hnp:∀ r,some w8.heap.size=some r->∃ o:Obj,W.heap[r]? = some o/\o.isCells=false:=fun r e=>by cases e;exact⟨_,hD5.out,rfl⟩
   obtain⟨m0,m1,m2,m3,_⟩:=Ze (Zl e6.out hgp hnp);obtain⟨n0,_⟩:=Zn (Zl e7.out hgp hnp);obtain⟨y0,_⟩:=Zn (Zl e8.out hgp hnp);refine⟨.tuple #[.agg #[.slice pa.1 pa.2.1 pa.2.2,.slice pb.1 pb.2.1 pb.2.2,.slice pc.1 pc.2.1 pc.2.2,.slice pd.1 pd.2.1 pd.2.2],.int .i64 ref,.int .i64 0],by simp[results,Tryz.f44,go_sem,m0,m1,m2,m3,n0,y0],pa,pb,pc,pd,by rw[hO.out],by rw[hO.out];exact hSe.out.map fun p v hp hc=>⟨⟨by have:=SZ.out;rcases hp.1 with h | h <;> omega,Qj hp.2 hgp.size⟩,cell_kept hc hgp hnp⟩,hBe.out.grown hgp (by have:=SZ.out;have:=hBe.out.size;omega) (fun k e=>by cases e;have:=SZ.out;omega)⟩
  ·have h2:mf=2:=by omega
   subst h2;have HL:=Za (Zzu pa pb pc pd sk ((m:Nat):Int) ⟨by omega,by omega⟩ (some ⟨fb,0,none⟩) 2 fc F (some ⟨fb,0,none⟩) 2 fc F V hSV hIts hIts hFl (by decide) hFl (by decide));have hsm:=Za (fun h:(Uj sk ((m:Nat):Int) F F).1=0=>Zsn h);have hO0:Xl s l x=if (Uj sk ((m:Nat):Int) F F).1=0 then (0,(Uj sk ((m:Nat):Int) F F).2.1,Zch (Uj sk ((m:Nat):Int) F F).2.2) else ((Uj sk ((m:Nat):Int) F F).1,Zj,0):=by
    unfold Xl;rw[hgA.out,if_pos rfl,if_pos (by rw[hFl];decide),hl.out]
   obtain⟨er,her⟩:∃ e,(Uj sk ((m:Nat):Int) F F).1=e:=⟨_,rfl⟩
   obtain⟨S9,hS'⟩:∃ e,(Uj sk ((m:Nat):Int) F F).2.1=e:=⟨_,rfl⟩
   obtain⟨up,hup⟩:∃ e,(Uj sk ((m:Nat):Int) F F).2.2=e:=⟨_,rfl⟩
   unfold Z9h at HL;rw[her,hS',hup] at hO0 HL;rw[her,hup] at hsm;obtain⟨nu,hnu⟩:∃ e,up.length=e:=⟨_,rfl⟩
   rw[hnu] at HL hsm;have hIb':=Za hIb;have g3:=Za hB3;have g9:=Za hB9;have g8:=Za hB8;replace hO0:=Za hO0;replace her:=Za her;replace hS':=Za hS';replace hup:=Za hup;replace hnu:=Za hnu;replace hnow:=Za hnow;replace hF0:=Za hF0;replace hFl:=Za hFl;have hw1:(1:Int)<((2:Nat):Int):=by decide
   clear hgr z3 z3' hIts hSV hSto hFr hB3 hB9 hB8 hB6 hB7 hDV hqV hIb hmf hm2 h1
   gi_wp2_with fail
   refine⟨trivial,?_⟩
   gi_at_call 76
   refine(callsIn_wide.2 HL.out).mono ?_;rintro e W ⟨va,vb,vc,vd,M,mc,rfl,hS,hrow,hbW⟩;have c3:=(Zr _ _ _ _ _ g3.out hbW:Yg w.heap.size _ _ W)
   have c9:=(Zr _ _ _ _ _ g9.out hbW:Yg w6.heap.size _ _ W)
   have c8:=(Zr _ _ _ _ _ g8.out hbW:Yg w4.heap.size _ _ W)
   have c6:=(Zr _ _ _ _ _ g6.out hbW:Yg w2.heap.size _ _ W)
   have c7:=(Zr _ _ _ _ _ g7.out hbW:Yg w3.heap.size _ _ W)
   have cD:=(hbW.block w8.heap.size (Qc.1 hD1.out).1).trans hD1.out;have hWs:=hbW.size;obtain⟨W1,hW1,d3,gr1,gs1⟩:=Zu (a':=.slice va.1 va.2.1 va.2.2) (b':=.slice vb.1 vb.2.1 vb.2.2) (c':=.slice vc.1 vc.2.1 vc.2.2) (d':=.slice vd.1 vd.2.1 vd.2.2) c3;have c91:Yg w6.heap.size _ 39 W1:=(gr1.block _ (Qc.1 c9).1 (fun e=>by have:=Option.some.inj e;have:=SZ.out;omega)).trans c9;obtain⟨W2,hW2,d9,gr2,gs2⟩:=X1 (u:=.slice M nu mc) c91;have c82:Yg w4.heap.size #[.int .i64 0] 33 W2:=(gr2.block _ (by rw[gs1];exact(Qc.1 c8).1) (fun e=>by have:=Option.some.inj e;have:=SZ.out;omega)).trans ((gr1.block _ (Qc.1 c8).1 (fun e=>by have:=Option.some.inj e;have:=SZ.out;omega)).trans c8);obtain⟨W3,hW3,d8,gr3,gs3⟩:=X1 (u:=.int .i64 er) c82;obtain⟨m0,m1,m2,m3,mf9,_⟩:=Ze c3;obtain⟨n0',nf',_⟩:=Zn c91;obtain⟨y0',yf',_⟩:=Zn c82;obtain⟨y3,_,_⟩:=Zn d8;have all3:∀ k,k<W.heap.size->k≠w.heap.size->k≠w6.heap.size->k≠w4.heap.size->W3.heap[k]? = W.heap[k]? := fun k h1 h2 h3 h4 =>
    (gr3.block k (by omega) (fun e=>h4 (Option.some.inj e))).trans ((gr2.block k (by omega) (fun e=>h3 (Option.some.inj e))).trans (gr1.block k h1 (fun e=>h2 (Option.some.inj e))))
   have hs3':W3.heap.size=W.heap.size:=by omega
   have big:∀ k,V.heap.size<=k->k<W.heap.size->W3.heap[k]? = W.heap[k]? := fun k h1 h2=>all3 k h2 (by have:=SZ.out;omega) (by have:=SZ.out;omega) (by have:=SZ.out;omega)
   have hB9':Hid (Qam lo w W3):=Za (((((hIb'.out.trans (hbW.mono (by have:=SZ.out;omega))).grown gr1 (by have:=SZ.out;omega) (fun k e=>by cases e;omega)).grown gr2 (by have:=SZ.out;omega) (fun k e=>by cases e;have:=SZ.out;omega)).grown gr3 (by have:=SZ.out;omega) (fun k e=>by cases e;have:=SZ.out;omega)));have z6:Hid (Yg w2.heap.size #[.slice none 0 0,.slice none 0 0,.slice none 0 0,.slice none 0 0] 29 W3):=Za ((all3 _ (Qc.1 c6).1 (by have:=SZ.out;omega) (by have:=SZ.out;omega) (by have:=SZ.out;omega)).trans c6);have z7:Hid (Yg w3.heap.size #[.int .i64 0] 3 W3):=Za ((all3 _ (Qc.1 c7).1 (by have:=SZ.out;omega) (by have:=SZ.out;omega) (by have:=SZ.out;omega)).trans c7);have z8:Hid (Yg w4.heap.size #[.int .i64 er] 33 W3):=Za d8;have z3:Hid (Yg w.heap.size #[.slice va.1 va.2.1 va.2.2,.slice vb.1 vb.2.1 vb.2.2,.slice vc.1 vc.2.1 vc.2.2,.slice vd.1 vd.2.1 vd.2.2] 29 W3):=Za ((gr3.block _ (by have:=SZ.out;omega) (fun e=>by have:=Option.some.inj e;have:=SZ.out;omega)).trans ((gr2.block _ (by have:=SZ.out;omega) (fun e=>by have:=Option.some.inj e;have:=SZ.out;omega)).trans d3));have z9:Hid (Yg w6.heap.size #[.slice M nu mc] 39 W3):=Za ((gr3.block _ (by have:=SZ.out;omega) (fun e=>by have:=Option.some.inj e;have:=SZ.out;omega)).trans d9);have zD:Hid (W3.heap[w8.heap.size]? = some (.deferred (some []))):=Za ((all3 _ (Qc.1 cD).1 (by have:=SZ.out;omega) (by have:=SZ.out;omega) (by have:=SZ.out;omega)).trans cD);have hS9:Hid (Sto (Out l0 w8.heap.size W3) W3 (.agg #[.slice va.1 va.2.1 va.2.2,.slice vb.1 vb.2.1 vb.2.2,.slice vc.1 vc.2.1 vc.2.2,.slice vd.1 vd.2.1 vd.2.2]) S9):=Za (hS.map fun p v hp hc=>⟨⟨.inr (by have:=hp.1;omega),by have:=hp.2.1;omega⟩,(Qq (big _ hp.1 hp.2.1)).trans hc⟩);have hcl:Hid (0<nu->∃ fb' x1 r1,M=some ⟨fb',0,none⟩/\V.heap.size<=fb'/\up=x1::r1/\W3.cell? ⟨fb',3,none⟩=some (.int .i64 x1.2.1)):=Za fun hn=>by
    obtain⟨zs,e1,e2,e3⟩:=Uu hrow;rw[hnu.out] at e2;obtain⟨ad',rfl⟩:∃ ad',M=some ad':=by
     obtain⟨_,_,e,_,_,_,h5⟩:=Yj e2;cases e;exact h5 hn
    obtain⟨b,C,rfl,hb1,hb2,_⟩:=Yd e2;obtain⟨x1,r1,hu⟩:∃ x1 r1,up=x1::r1:=by
     cases up with
     | nil=>have:=hnu.out;simp at this;omega
     | cons a b=>exact⟨a,b,rfl⟩
    refine⟨b,x1,r1,rfl,hb1,hu,?_⟩;have hr2:=hrow.rel Z0;obtain⟨ad2,E2,ce2,e2',_,⟨_,_,_,z3',_⟩,_⟩:=Zao hr2 (show up[0]? = some x1 by rw[hu];rfl);cases e2';rw[Qq (big _ hb1 hb2)]
    simpa [Addr.add] using z3'
   replace all3:=Za all3;replace hs3':=Za hs3';replace d3:=Za d3;replace d8:=Za d8;replace d9:=Za d9;replace gr1:=Za gr1;replace gr2:=Za gr2;replace gr3:=Za gr3;replace hWs:=Za hWs;replace gs1:=Za gs1;replace gs2:=Za gs2;replace gs3:=Za gs3;clear c3 c9 c8 c6 c7 c91 c82 cD big hrow hS hbW k0 k1 k2 k3 kf n0 nf y0 yf g3 g9 g8 g6 g7;by_cases he0:er=0
   ·subst he0
    obtain⟨hu1,hu2⟩:=hsm.out rfl;obtain⟨fb',x1,r1,rfl,hfb',hu,hc1⟩:=hcl.out hu1;obtain⟨ref,href⟩:∃ r,x1.2.1=r:=⟨_,rfl⟩
    rw[href] at hc1;have hcell:=Za hc1;have hO:Hid (Xl s l x=(0,S9,ref)):=Za (by rw[hO0.out,if_pos rfl,hu];show (0,S9,x1.2.1)=_;rw[href]);have g3:=z3;have g9:=z9;have g8:=z8;have g6:=z6;have g7:=z7;have hD9:=zD;have hfbn:Hid (fb'≠w2.heap.size/\fb'≠w3.heap.size):=Za ⟨by have:=SZ.out;omega,by have:=SZ.out;omega⟩;have hIs9:=Za (show w8.heap.size<=W3.heap.size from by have:=hs3'.out;have:=hWs.out;omega);replace hu:=Za hu;replace href:=Za href;replace hfb':=Za hfb';have i0:(0:Int)<(nu:Int):=by omega
    clear hc1
    gi_wp2_with fail
    clear m0 m1 m2 m3 mf9 n0' nf' y0' yf' y3;obtain⟨o6,ho6⟩:∃ o:Obj,o=.cells #[.slice va.1 va.2.1 va.2.2,.slice vb.1 vb.2.1 vb.2.2,.slice vc.1 vc.2.1 vc.2.2,.slice vd.1 vd.2.1 vd.2.2] 29 (0,0):=⟨_,rfl⟩
    obtain⟨o7,ho7⟩:∃ o:Obj,o=.cells #[.int .i64 ref] 3 (0,0):=⟨_,rfl⟩
    obtain⟨fin,hfn⟩:∃ fin,fin=Zg4 w2.heap.size o6 w3.heap.size o7:=⟨_,rfl⟩
    have fn6:fin w2.heap.size=some o6:=by rw[hfn];exact Zgp _ _ _ _
    have fn7:fin w3.heap.size=some o7:=by rw[hfn];exact Zf9 (by have:=SZ.out;omega) _ _
    have fnn:∀ k,k≠w2.heap.size->k≠w3.heap.size->fin k=none:=fun k h1 h2=>by rw[hfn];exact Zez h1 h2 _ _
    have K3:=Za (fun W (hW:Yp fin W3.drew W)=>(hW.other (fnn w.heap.size (by have:=SZ.out;omega) (by have:=SZ.out;omega)) (show W3.drew.heap[w.heap.size]? = _ from g3.out):Yg w.heap.size #[.slice va.1 va.2.1 va.2.2,.slice vb.1 vb.2.1 vb.2.2,.slice vc.1 vc.2.1 vc.2.2,.slice vd.1 vd.2.1 vd.2.2] 29 W));have K9:=Za (fun W (hW:Yp fin W3.drew W)=>(hW.other (fnn w6.heap.size (by have:=SZ.out;omega) (by have:=SZ.out;omega)) (show W3.drew.heap[w6.heap.size]? = _ from g9.out):Yg w6.heap.size #[.slice (some ⟨fb',0,none⟩) nu mc] 39 W));have K8:=Za (fun W (hW:Yp fin W3.drew W)=>(hW.other (fnn w4.heap.size (by have:=SZ.out;omega) (by have:=SZ.out;omega)) (show W3.drew.heap[w4.heap.size]? = _ from g8.out):Yg w4.heap.size #[.int .i64 0] 33 W));have KD:=Za (fun W (hW:Yp fin W3.drew W)=>(hW.other (fnn w8.heap.size (by have:=SZ.out;omega) (by have:=SZ.out;omega)) (show W3.drew.heap[w8.heap.size]? = _ from hD9.out):W.heap[w8.heap.size]? = some (.deferred (some []))));have KF:Hid (∀ W,Yp fin W3.drew W->W.cell? ⟨fb',3,none⟩=some (.int .i64 ref)):=Za fun W hW=>by
     have hc:=hcell.out;unfold Q0 at hc;split at hc
     ·rename_i cs ty fz hb
      have:=hW.other (fnn fb' hfbn.out.1 hfbn.out.2) (show W3.drew.heap[fb']? = _ from hb);unfold Q0;simp only[this];exact hc
     ·cases hc
    have K6:Hid (∀ W,Yp fin W3.drew W->∃ a b c d,W.heap[w2.heap.size]? = some (.cells #[a,b,c,d] 29 (0,0))):=Za fun W hW=>by
     rcases hW.box fn6 (show W3.drew.heap[w2.heap.size]? = _ from g6.out) with e | e
     ·exact⟨_,_,_,_,e⟩
     ·rw[ho6] at e;exact⟨_,_,_,_,e⟩
    have K7:Hid (∀ W,Yp fin W3.drew W->∃ a,W.heap[w3.heap.size]? = some (.cells #[a] 3 (0,0))):=Za fun W hW=>by
     rcases hW.box fn7 (show W3.drew.heap[w3.heap.size]? = _ from g7.out) with e | e
     ·exact⟨_,e⟩
     ·rw[ho7] at e;exact⟨_,e⟩
    have KB:=Za (fun W (hW:Yp fin W3.drew W)=>(⟨hW.os.trans hB9'.out.os,hW.tape.trans hB9'.out.tape,hW.output.trans hB9'.out.output,Qp hB9'.out.size hW.size,fun k hk=>by
     rcases hW.block k (by have:=hB9'.out.size;show k<W3.heap.size;omega) with e | ⟨o,e,_⟩
     ·exact e.trans (hB9'.out.block k hk)
     ·rw[fnn k (by have:=SZ.out;omega) (by have:=SZ.out;omega)] at e
      cases e⟩:Qam lo w W))
    have KS:=Za (fun W (hW:Yp fin W3.drew W)=>(hS9.out.map fun p v hp hc=>(show Out l0 w8.heap.size W p/\W.cell? p=some v from by
     rcases hW.block p.block hp.2 with e | ⟨o,e,_⟩
     ·exact⟨⟨hp.1,Qj hp.2 hW.size⟩,(Qq (w:=W3) e).trans hc⟩
     ·rw[fnn p.block (by have:=SZ.out;rcases hp.1 with h | h <;> omega) (by have:=SZ.out;rcases hp.1 with h | h <;> omega)] at e
      cases e):Sto (Out l0 w8.heap.size W) W (.agg #[.slice va.1 va.2.1 va.2.2,.slice vb.1 vb.2.1 vb.2.2,.slice vc.1 vc.2.1 vc.2.2,.slice vd.1 vd.2.1 vd.2.2]) S9))
    replace fnn:=Za fnn;replace fn6:=Za fn6;replace fn7:=Za fn7;replace ho6:=Za ho6;replace ho7:=Za ho7;replace hfn:=Za hfn;refine wpIn_wide.2 ?_
    refine Rb.wp_region_fx (Yp fin) (by kernel_rfl) (fun W=>Yp fin W3.drew W) (fun i=>match i with
     | 5=>some (fun _ W=>W.heap[w2.heap.size]? = some o6)
     | 6=>some (fun _ W=>W.heap[w3.heap.size]? = some o7)
     | _=>none) (fun i=>match i with
     | 7=>some Qak
     | _=>none) (by kernel_rfl) (Yp.refl _ _) (fun w w' h hb=>h.trans hb) ?tstb ?_
    case tstb =>
     intro j φ x W W' hp hx hb
     match j,hp with
     | 5,hp=>cases hp;exact hb.done fn6.out hx
     | 6,hp=>cases hp;exact hb.done fn7.out hx
    repeat (first
     | (refine Rb.wpAs_skip rfl ?_;simp only[Qa,Zb,Zc,Zd])
     | (refine Rb.wpAs_pure (v := ?_) rfl rfl ?_ ?_;rotate_left;(intro W hC hE;clear hE;(obtain⟨k0,k1,k2,k3,_⟩:=Ze (K3.out W hC);obtain⟨n0,_⟩:=Zn (K9.out W hC);have cf:=KF.out W hC);clear hC;go_simp;first | done | with_reducible rfl);simp only[Qa,Zb,Zc,Zd]))
    refine Rb.wpAs_act rfl rfl ?_ ?_
    ·intro W hC hE
     clear hE;obtain⟨a,b,c,d,G⟩:=K6.out W hC;obtain⟨q0,q1,q2,q3,qf,_⟩:=Ze G;obtain⟨W1,hW1,e1,gr1,_⟩:=Zu (a':=.slice va.1 va.2.1 va.2.2) (b':=.slice vb.1 vb.2.1 vb.2.2) (c':=.slice vc.1 vc.2.1 vc.2.2) (d':=.slice vd.1 vd.2.1 vd.2.2) G;rw[<- ho6.out] at e1;have hk:=Za (Yp.of_grown gr1 fn6.out e1);replace e1:=Za e1;clear gr1 G hC
     go_simp
     exact⟨e1.out,hk.out⟩
    simp only[Qa,Rb.envAdd];intro _;refine Rb.wpAs_act rfl rfl ?_ ?_
    ·intro W hC hE
     clear hE;obtain⟨a,G⟩:=K7.out W hC;obtain⟨q0,qf,_⟩:=Zn G;obtain⟨W1,hW1,e1,gr1,_⟩:=X1 (u:=.int .i64 ref) G;rw[<- ho7.out] at e1;have hk:=Za (Yp.of_grown gr1 fn7.out e1);replace e1:=Za e1;clear gr1 G hC
     go_simp
     exact⟨e1.out,hk.out⟩
    simp only[Qa,Rb.envAdd];intro _;refine Rb.wpAs_fixed rfl rfl rfl ?_ ?_
    ·intro W hC hE
     clear hE;have G:=K8.out W hC;obtain⟨q0,qf,_⟩:=Zn G;have hs:=Za (Z3 (i:=0) (v:=.int .i64 0) G rfl);clear G hC
     go_simp
     rw[hs.out];exact⟨rfl,Yp.refl _ _⟩
    simp only[Qa];refine Rb.wpAs_end fun W hC hE=> ?_
    have e7:=hE.1;have e6:=hE.2.1;rw[ho7.out] at e7;rw[ho6.out] at e6;have hD5:=Za (KD.out W hC);have e8:=Za (K8.out W hC);have hBe:=Za (KB.out W hC);have hSe:=Za (KS.out W hC);replace e6:=Za e6;replace e7:=Za e7;have hWs:=Za (show W3.heap.size<=W.heap.size from hC.size);clear hE hC;simp only[Exit.then]
    gi_wp2_with fail
    refine⟨by simp,.inl ⟨_,_,rfl,run_takeDeferred hD5.out,?_⟩⟩;have hgp:=grownBy_putObj' W w8.heap.size (.deferred none);have hnp:∀ r,some w8.heap.size=some r->∃ o:Obj,W.heap[r]? = some o/\o.isCells=false:=fun r e=>by cases e;exact⟨_,hD5.out,rfl⟩
    obtain⟨m0,m1,m2,m3,_⟩:=Ze (Zl e6.out hgp hnp);obtain⟨n0,_⟩:=Zn (Zl e7.out hgp hnp);obtain⟨y0,_⟩:=Zn (Zl e8.out hgp hnp);refine⟨.tuple #[.agg #[.slice va.1 va.2.1 va.2.2,.slice vb.1 vb.2.1 vb.2.2,.slice vc.1 vc.2.1 vc.2.2,.slice vd.1 vd.2.1 vd.2.2],.int .i64 ref,.int .i64 0],by simp[results,Tryz.f44,go_sem,m0,m1,m2,m3,n0,y0],va,vb,vc,vd,by rw[hO.out],by rw[hO.out];exact hSe.out.map fun p v hp hc=>⟨⟨by have:=SZ.out;rcases hp.1 with h | h <;> omega,Qj hp.2 hgp.size⟩,cell_kept hc hgp hnp⟩,hBe.out.grown hgp (by have:=SZ.out;have:=hBe.out.size;omega) (fun k e=>by cases e;have:=SZ.out;omega)⟩
   ·have t0:(er != 0)=true:=by simpa using he0
    have hO:Hid (Xl s l x=(er,Zj,0)):=Za (by rw[hO0.out,if_neg he0]);replace he0:=Za he0
    have S6:=Za (show ∀ W:Qaf,W=W3.drew->(((W.setCell ⟨w2.heap.size,0,none⟩ (.slice none 0 0)).setCell ⟨w2.heap.size,1,none⟩ (.slice none 0 0)).setCell ⟨w2.heap.size,2,none⟩ (.slice none 0 0)).setCell ⟨w2.heap.size,3,none⟩ (.slice none 0 0)=W from fun W e=>by
     subst e;have e6:Yg w2.heap.size #[.slice none 0 0,.slice none 0 0,.slice none 0 0,.slice none 0 0] 29 W3.drew:=z6.out
     rw[Z3 (W:=W3.drew) e6 rfl,Z3 (W:=W3.drew) e6 rfl,Z3 (W:=W3.drew) e6 rfl,Z3 (W:=W3.drew) e6 rfl])
    have S7:=Za (show ∀ W:Qaf,W=W3.drew->W.setCell ⟨w3.heap.size,0,none⟩ (.int .i64 0)=W from fun W e=>by subst e;exact Z3 (W:=W3.drew) z7.out rfl);have S8:=Za (show ∀ W:Qaf,W=W3.drew->W.setCell ⟨w4.heap.size,0,none⟩ (.int .i64 er)=W from fun W e=>by subst e;exact Z3 (W:=W3.drew) z8.out rfl)
    gi_wp2_with fail
    clear m0 m1 m2 m3 mf9 n0' nf' y0' yf' y3;refine wpIn_wide.2 ?_
    refine Rb.wp_region_fx (fun W W'=>W'=W) (by kernel_rfl) (fun W=>W=W3.drew) (fun _=>none) (fun i=>match i with
     | 2=>some Qak
     | 3=>some Qak
     | 4=>some Qak
     | _=>none) (by kernel_rfl) rfl (fun _ _ h e=>e.trans h) (fun _ _ _ _ _ hp=>by cases hp) ?_
    repeat (first
     | (refine Rb.wpAs_skip rfl ?_;simp only[Qa,Zb,Zc,Zd])
     | (refine Rb.wpAs_pure (v := ?_) rfl rfl ?_ ?_;rotate_left;(intro W hC hE;clear hE;(have hC':=hC;subst hC';obtain⟨y0,yf,_⟩:=Zn z8.out);clear hC;go_simp;first | done | with_reducible rfl);simp only[Qa,Zb,Zc,Zd]))
    refine Rb.wpAs_fixed rfl rfl rfl ?_ ?_
    ·intro W hC hE
     clear hE;have hh:=Za (S6.out W hC);have e6:Yg w2.heap.size #[.slice none 0 0,.slice none 0 0,.slice none 0 0,.slice none 0 0] 29 W:=by rw[hC];exact z6.out
     obtain⟨m0,m1,m2,m3,mf,_⟩:=Ze e6;clear hC e6
     go_simp
     first | exact⟨rfl,hh.out⟩ | exact hh.out
    simp only[Qa];refine Rb.wpAs_fixed rfl rfl rfl ?_ ?_
    ·intro W hC hE
     clear hE;have hh:=Za (S7.out W hC);have e6:Yg w3.heap.size #[.int .i64 0] 3 W:=by rw[hC];exact z7.out
     obtain⟨m0,mf,_⟩:=Zn e6;clear hC e6
     go_simp
     first | exact⟨rfl,hh.out⟩ | exact hh.out
    simp only[Qa];refine Rb.wpAs_fixed rfl rfl rfl ?_ ?_
    ·intro W hC hE
     clear hE;have hh:=Za (S8.out W hC);have e6:Yg w4.heap.size #[.int .i64 er] 33 W:=by rw[hC];exact z8.out
     obtain⟨m0,mf,_⟩:=Zn e6;clear hC e6
     go_simp
     first | exact⟨rfl,hh.out⟩ | exact hh.out
    simp only[Qa];refine Rb.wpAs_end fun W hC hE=> ?_
    subst hC;clear hE;simp only[Exit.then];have hD5:Hid (W3.drew.heap[w8.heap.size]? = some (.deferred (some []))):=zD
    gi_wp2_with fail
    refine⟨by simp,.inl ⟨_,_,rfl,run_takeDeferred hD5.out,?_⟩⟩;have hgp:=grownBy_putObj' W3.drew w8.heap.size (.deferred none);have hnp:∀ r,some w8.heap.size=some r->∃ o:Obj,W3.drew.heap[r]? = some o/\o.isCells=false:=fun r e=>by cases e;exact⟨_,hD5.out,rfl⟩
    obtain⟨m0,m1,m2,m3,_⟩:=Ze (Zl (show W3.drew.heap[w2.heap.size]? = _ from z6.out) hgp hnp);obtain⟨n0,_⟩:=Zn (Zl (show W3.drew.heap[w3.heap.size]? = _ from z7.out) hgp hnp);obtain⟨y0,_⟩:=Zn (Zl (show W3.drew.heap[w4.heap.size]? = _ from z8.out) hgp hnp);refine⟨.tuple #[.agg #[.slice none 0 0,.slice none 0 0,.slice none 0 0,.slice none 0 0],.int .i64 0,.int .i64 er],by simp[results,Tryz.f44,go_sem,m0,m1,m2,m3,n0,y0],(none,0,0),(none,0,0),(none,0,0),(none,0,0),by rw[hO.out],by rw[hO.out];exact Yv _ _,hB9'.out.drew.grown hgp (by have:=SZ.out;have:=hB9'.out.size;show lo<=W3.heap.size;omega) (fun k e=>by cases e;have:=SZ.out;omega)⟩
 case stop =>
  rintro c pre' q' V hVs ⟨rfl,_,⟨hIb,hIs⟩,er,hB6,hB7,hB8,hgA,he0⟩ hDV hqV;have hD1:=Za hDV;have z6:=Za hB6;have z7:=Za hB7;have z8:=Za hB8;have hb:=Za hIb;have hO:Hid (Xl s l x=(er,Zj,0)):=Za (by unfold Xl;rw[hgA,if_neg he0]);clear hB6 hB7 hB8 hgA he0 hDV hqV hIb
  gi_wp2_with fail
  refine⟨by simp,.inl ⟨_,_,rfl,run_takeDeferred hD1.out,?_⟩⟩;have hgp:=grownBy_putObj' V w8.heap.size (.deferred none);have hnp:∀ r,some w8.heap.size=some r->∃ o:Obj,V.heap[r]? = some o/\o.isCells=false:=fun r e=>by cases e;exact⟨_,hD1.out,rfl⟩
  obtain⟨m0,m1,m2,m3,_⟩:=Ze (Zl z6.out hgp hnp);obtain⟨n0,_⟩:=Zn (Zl z7.out hgp hnp);obtain⟨y0,_⟩:=Zn (Zl z8.out hgp hnp);refine⟨.tuple #[.agg #[.slice none 0 0,.slice none 0 0,.slice none 0 0,.slice none 0 0],.int .i64 0,.int .i64 er],by simp[results,Tryz.f44,go_sem,m0,m1,m2,m3,n0,y0],(none,0,0),(none,0,0),(none,0,0),(none,0,0),by rw[hO.out],by rw[hO.out];exact Yv _ _,hb.out.grown hgp (by have:=SZ.out;omega) (fun k e=>by cases e;have:=SZ.out;omega)⟩}
def Z5e (s:Rm) (k:Ky) (a:Int) (l:List Sv):Prop:=l.length=(rmV s a).1.toNat+1/\∀ i q,l[i]? = some q->q.nd=rmV s (atW s k a i)/\(q.pl,q.inst)=Zho q.nd k
def Zhd (s:Rm) (a:Int) (x:It) (l:List Sv):Int×Rm×Int :=
 if ckE s a≠0 then (ckE s a,Zj,0)
 else if Zil s x≠0 then (Zil s x,Zj,0)
 else if (rmV s a).1=5/\Zdt l.reverse 1=true then (120,Zj,0)
 else if (Xl s l x).1≠0 then ((Xl s l x).1,Zj,0)
 else if lvE (Xl s l x).2.1 a≠0 then (lvE (Xl s l x).2.1 a,Zj,0)
 else (0,lvV (Xl s l x).2.1 a,(Xl s l x).2.2)
def Ybi (s:Rm) (a:Int) (x:It) (w:Qaf) (e:Ending) (w':Qaf):Prop:=∃ (l:List Sv) (qa qb qc qd:Option Qah×Nat×Nat),(ckE s a=0->Zil s x=0->Z5e s x.1 a l) /\
 e=.returned (.tuple #[.agg #[.slice qa.1 qa.2.1 qa.2.2,.slice qb.1 qb.2.1 qb.2.2,.slice qc.1 qc.2.1 qc.2.2,.slice qd.1 qd.2.1 qd.2.2],.int .i64 (Zhd s a x l).2.2,.int .i64 (Zhd s a x l).1]) /\
 Sto (New w.heap.size w') w' (.agg #[.slice qa.1 qa.2.1 qa.2.2,.slice qb.1 qb.2.1 qb.2.2,.slice qc.1 qc.2.1 qc.2.2,.slice qd.1 qd.2.1 qd.2.2]) (Zhd s a x l).2.1/\Qam w.heap.size w w'
theorem Zkm.below {lo:Nat}{s:Rm}{k:Ky}{a:Int}{W W':Qaf}{A:Option Qah}{c:Nat}{l:List Sv}(h:Zkm lo s k a W A c l) (hb:Qam W.heap.size W W'):Zkm lo s k a W' A c l :=
 ⟨Zw h.row hb,⟨fun q hq=>by
  obtain⟨h1,h2,h3,h4⟩:=h.rows.ok q hq
  exact⟨h1,h2,Qp h3 hb.size,h4.same fun k k1 k2=>hb.block k (by omega)⟩,h.rows.apart⟩,h.off,h.are⟩
theorem Yak {s:Rm}{k:Ky}{a:Int}{lv:Nat}{l:List Sv}(hT:AtT s lv a) (hl:l.length=lv+1) (_:lv<6) (are:∀ i q,l[i]? = some q->q.nd=rmV s (atW s k a i)/\(q.pl,q.inst)=Zho q.nd k):∀ q∈l,Zka q.nd.1/\q.nd.2.length<=5/\q.pl+(if q.inst=true then 1 else 0)<=q.nd.2.length:=by{
 intro q hq;obtain⟨i,hi,rfl⟩:=List.getElem_of_mem hq;obtain⟨e1,e2⟩:=are i _ (Qk hi);have hA:=Zak (k:=k) hT i (by omega);have hlv:=hA.lvl;have hm:=hA.may;rw[<- e1] at hlv hm;obtain⟨⟨_,_,h5,hne⟩,_⟩:=Zx hm;refine⟨⟨by omega,by omega⟩,h5,?_⟩;generalize l[i]=q at *;unfold Zho at e2;split at e2
 ·simp only[Prod.mk.injEq] at e2
  rw[e2.1,e2.2];split
  ·rename_i ht
   exact Zbi ht
  ·exact Zcb _ _
 ·simp only[Prod.mk.injEq] at e2
  rw[e2.1,e2.2];exact Zc4 k (hne (by omega))}
theorem Zlg (qa qb qc qd:Option Qah×Nat×Nat) (s:Rm) (a:Int) (x:It) (E:Option Qah) (ce:Nat) (w:Qaf) (h:Sto (Old w) w (.agg #[.slice qa.1 qa.2.1 qa.2.2,.slice qb.1 qb.2.1 qb.2.2,.slice qc.1 qc.2.1 qc.2.2,.slice qd.1 qd.2.1 qd.2.2]) s) (hx:Itm (Old w) w (itV x (.slice E x.2.2.length ce)) x) :
  Qal Tryz.prog 22 #[.agg #[.slice qa.1 qa.2.1 qa.2.2,.slice qb.1 qb.2.1 qb.2.2,.slice qc.1 qc.2.1 qc.2.2,.slice qd.1 qd.2.1 qd.2.2],.int .i64 a,itV x (.slice E x.2.2.length ce)] w (Ybi s a x w):=by{
 obtain⟨w1,hw1,b1,hs1,hB1⟩:=X4 w (.slice qa.1 qa.2.1 qa.2.2) (.slice qb.1 qb.2.1 qb.2.2) (.slice qc.1 qc.2.1 qc.2.2) (.slice qd.1 qd.2.1 qd.2.2) 29;obtain⟨w2,hw2,-,-,-,-,-,hs2,hB2,b2⟩:=Z7 w1 (.int .u8 (x.1.1.toNat:Int)) (.int .u32 x.1.2.1) (.int .u32 x.1.2.2) (.int .i64 x.2.1) (.slice E x.2.2.length ce) 54;obtain⟨w3,hw3,b3,hs3,hB3⟩:=X4 w2 (.slice none 0 0) (.slice none 0 0) (.slice none 0 0) (.slice none 0 0) 29;have hB12:=hB1.trans (hB2.mono hB1.size);have hB13:=hB12.trans (hB3.mono hB12.size);have B3:=Za hB13;have SZ:=Za (show w1.heap.size=w.heap.size+1/\w2.heap.size=w.heap.size+2/\w3.heap.size=w.heap.size+3 from by omega);have G1:=Za ((hB3.block w.heap.size (by omega)).trans ((hB2.block w.heap.size (by omega)).trans b1));have G2:=Za ((hB3.block w1.heap.size (by omega)).trans b2);have G3:=Za b3;have hS0:=Za h;have hX0:=Za hx;have HS:=Za (fun W (hW:Qam w3.heap.size w3 W)=>h.below (hB13.trans (hW.mono hB13.size)));have HX:=Za (fun W (hW:Qam w3.heap.size w3 W)=>hx.below (hB13.trans (hW.mono hB13.size)));have KC:=Za (fun W (hW:Qam w3.heap.size w3 W)=>And.intro ((hW.block w.heap.size (by omega)).trans G1.out) (And.intro ((hW.block w1.heap.size (by omega)).trans G2.out) ((hW.block w2.heap.size (by omega)).trans G3.out)))
 have hzero:Hid (∀ (er:Int) (W:Qaf) (v0 v1 v2 v3:Qag) (l:List Sv),W.heap[w2.heap.size]? = some (.cells #[v0,v1,v2,v3] 29 (0,0))->Qam w.heap.size w W->(ckE s a=0->Zil s x=0->Z5e s x.1 a l)->Zhd s a x l=(er,Zj,0) ->
   ∃ W9,(((W.setCell ⟨w2.heap.size,0,none⟩ (.slice none 0 0)).setCell ⟨w2.heap.size,1,none⟩ (.slice none 0 0)).setCell ⟨w2.heap.size,2,none⟩ (.slice none 0 0)).setCell ⟨w2.heap.size,3,none⟩ (.slice none 0 0)=W9 /\
   W9.cell? ⟨w2.heap.size,0,none⟩=some (.slice none 0 0)/\W9.cell? ⟨w2.heap.size,1,none⟩=some (.slice none 0 0)/\W9.cell? ⟨w2.heap.size,2,none⟩=some (.slice none 0 0)/\W9.cell? ⟨w2.heap.size,3,none⟩=some (.slice none 0 0) /\
   Ybi s a x w (.returned (.tuple #[.agg #[.slice none 0 0,.slice none 0 0,.slice none 0 0,.slice none 0 0],.int .i64 0,.int .i64 er])) W9):=Za fun er W v0 v1 v2 v3 l bW hW hl he=>by
  obtain⟨W9,e9,g9,gr9,_⟩:=Zu (a':=.slice none 0 0) (b':=.slice none 0 0) (c':=.slice none 0 0) (d':=.slice none 0 0) bW;obtain⟨k0,k1,k2,k3,_⟩:=Ze g9;exact⟨W9,e9,k0,k1,k2,k3,l,(none,0,0),(none,0,0),(none,0,0),(none,0,0),hl,by rw[he],by rw[he];exact Yv _ _,hW.grown gr9 hW.size (fun q e=>by cases e;omega)⟩
 have hC3:=KC.out w3 (Qb _ _);obtain⟨k0,k1,k2,k3,_⟩:=Ze hC3.1;replace hs1:=Za hs1;replace hs2:=Za hs2;replace hs3:=Za hs3;clear h hx hB1 hB2 hB3 hB12 hB13 b1 b2 b3 hC3;unfold itV
 go_enter Tryz.func22,Tryz.ntmps22
 go_upto_region 1 with fail
 clear hw1 hw2 hw3
 go_wp2_with fail
 with_reducible refine(Ud _ s a w3 (HS.out w3 (Qb _ _))).mono ?_
 rintro e w4 ⟨rfl,hb4⟩;clear k0 k1 k2 k3;obtain⟨c4a,c4b,c4c⟩:=KC.out w4 hb4;obtain⟨k0,k1,k2,k3,_⟩:=Ze c4a;obtain⟨n0,n1,n2,n3,n4,_⟩:=Zs c4b;obtain⟨u0,u1,u2,u3,uf,_⟩:=Ze c4c;have hckh:Hid (ckE s a=0->ckH s a=(rmV s a).1+1/\Yo s a=true/\asE s a=0):=Za fun h=>by
  obtain⟨h1,h2,h3⟩:=Zam h;exact⟨h3,h1,h2⟩
 have hpl0:Hid (ckE s a≠0->∀ l,Zhd s a x l=(ckE s a,Zj,0)):=Za fun h l=>by unfold Zhd;rw[if_pos h]
 have hc0:Hid (ckE s a≠0->∀ l,ckE s a=0->Zil s x=0->Z5e s x.1 a l):=Za fun h l h'=>absurd h' h
 obtain⟨ck,hck⟩:∃ q,ckE s a=q:=⟨_,rfl⟩
 obtain⟨Hh,hH⟩:∃ q,ckH s a=q:=⟨_,rfl⟩
 rw[hck,hH]
 go_upto_region 2 with fail
 by_cases hk:ck=0
 case neg =>
  have t0:(ck != 0)=true:=by simpa using hk
  obtain⟨W9,e9,y0,y1,y2,y3,hfin⟩:=hzero.out ck w4 _ _ _ _ [] c4c (B3.out.trans (hb4.mono B3.out.size)) (hc0.out (by rw[hck];exact hk) []) (by rw[hpl0.out (by rw[hck];exact hk),hck]);replace hfin:=Za hfin
  go_wp2_with fail
  exact Qai (v:=.tuple #[.agg #[.slice none 0 0,.slice none 0 0,.slice none 0 0,.slice none 0 0],.int .i64 0,.int .i64 ck]) (by simp[results,Tryz.results22,go_sem,y0,y1,y2,y3]) rfl hfin.out
 subst hk;obtain⟨eH,htr,has⟩:=hckh.out hck;obtain⟨-,-,hmr,-⟩:=Y6 has;obtain⟨-,-,-,l0,l6,-⟩:=Xf htr;have hT:=Za (Zbt htr);have hci:=Zmy (.agg #[.slice qa.1 qa.2.1 qa.2.2,.slice qb.1 qb.2.1 qb.2.2,.slice qc.1 qc.2.1 qc.2.2,.slice qd.1 qd.2.1 qd.2.2]) (itV x (.slice E x.2.2.length ce)) s x w4 hmr (HS.out w4 hb4) (HX.out w4 hb4);have hci':=Za hci;have hlv:=Za (show ∃ lv:Nat,(rmV s a).1=(lv:Int)/\(rmV s a).1.toNat=lv/\lv<6 from ⟨(rmV s a).1.toNat,by omega,rfl,by omega⟩);have hB4:=Za hb4;have hck':=Za hck
 have hdone:Hid (∀ l,Zhd s a x l=if Zil s x≠0 then (Zil s x,Zj,0)
  else if (rmV s a).1=5/\Zdt l.reverse 1=true then (120,Zj,0)
  else if (Xl s l x).1≠0 then ((Xl s l x).1,Zj,0)
  else if lvE (Xl s l x).2.1 a≠0 then (lvE (Xl s l x).2.1 a,Zj,0)
  else (0,lvV (Xl s l x).2.1 a,(Xl s l x).2.2)):=Za fun l=>by
  unfold Zhd;rw[if_neg (by rw[hck];decide)]
 clear hci l0 l6 hmr has htr hb4 hck c4a c4b;unfold itV at hci';obtain⟨ci,hcie⟩:∃ q,Zil s x=q:=⟨_,rfl⟩
 rw[hcie] at hci'
 go_upto_region 4 with fail
 go_wp2_with fail
 with_reducible refine hci'.out.mono ?_
 rintro e w5 ⟨rfl,hb5⟩;clear k0 k1 k2 k3 n0 n1 n2 n3 n4 u0 u1 u2 u3 uf hci';have B5:=Za (hB4.out.trans (hb5.mono hB4.out.size));clear hb5;obtain⟨c5a,c5b,c5c⟩:=KC.out w5 B5.out;obtain⟨k0,k1,k2,k3,_⟩:=Ze c5a;obtain⟨n0,n1,n2,n3,n4,_⟩:=Zs c5b;obtain⟨u0,u1,u2,u3,uf,_⟩:=Ze c5c;clear c5a c5b
 go_upto_region 5 with fail
 by_cases hk:ci=0
 case neg =>
  have t0:(ci != 0)=true:=by simpa using hk
  obtain⟨W9,e9,y0,y1,y2,y3,hfin⟩:=hzero.out ci w5 _ _ _ _ [] c5c (B3.out.trans (B5.out.mono B3.out.size)) (fun _ h=>absurd (hcie ▸ h) hk) (by rw[hdone.out,hcie,if_pos hk]);replace hfin:=Za hfin
  go_wp2_with fail
  exact Qai (v:=.tuple #[.agg #[.slice none 0 0,.slice none 0 0,.slice none 0 0,.slice none 0 0],.int .i64 0,.int .i64 ci]) (by simp[results,Tryz.results22,go_sem,y0,y1,y2,y3]) rfl hfin.out
 subst hk;obtain⟨lv,elv,enat,lv6⟩:=hlv.out
 have hdone2:Hid (∀ l,Zhd s a x l=if (rmV s a).1=5/\Zdt l.reverse 1=true then (120,Zj,0)
  else if (Xl s l x).1≠0 then ((Xl s l x).1,Zj,0)
  else if lvE (Xl s l x).2.1 a≠0 then (lvE (Xl s l x).2.1 a,Zj,0)
  else (0,lvV (Xl s l x).2.1 a,(Xl s l x).2.2)):=Za fun l=>by
  rw[hdone.out,if_neg (by rw[hcie];decide)]
 rw[enat] at hT;have eH':(lv:Int)+1=Hh:=by omega
 have hway:=Z8q qa qb qc qd s a lv lv6 x.1 w5 (HS.out w5 B5.out) hT.out;rw[eH'] at hway;unfold kyV at hway;have hway':=Za hway;have elv':=Za elv;have enat':=Za enat;have eH2:=Za eH';clear hway elv enat hlv hdone hcie eH eH' c5c;replace hH:=Za hH
 go_upto_region 7 with fail
 go_wp2_with fail
 with_reducible refine hway'.out.mono ?_
 rintro e w6 ⟨A,c,l,rfl,hll,hW,hb6⟩;clear k0 k1 k2 k3 n0 n1 n2 n3 n4 u0 u1 u2 u3 uf hway';have B6:=Za (B5.out.trans (hb6.mono B5.out.size));obtain⟨m,hm⟩:∃ q,l.length=q:=⟨_,rfl⟩
 have hW':=Za hW;have hB56:=Za hb6;rw[hm];have hwl:Hid (Z5e s x.1 a l):=Za ⟨by rw[enat'.out];exact hll,hW.are⟩;have hm6:m<=6:=by omega
 have hq:=Za (Yak hT.out hll lv6 hW.are);replace hm:=Za hm;have hll:=Za hll;clear hW hb6;obtain⟨c6a,c6b,c6c⟩:=KC.out w6 B6.out;obtain⟨k0,k1,k2,k3,_⟩:=Ze c6a;obtain⟨n0,n1,n2,n3,n4,_⟩:=Zs c6b;obtain⟨u0,u1,u2,u3,uf,_⟩:=Ze c6c;clear c6a c6b
 go_upto_region 10 with fail
 have hpl2:Hid ((rmV s a).1=5↔Hh=6):=Za (by have:=eH2.out;have:=elv'.out;omega);by_cases h6:Hh=6
 case neg =>
  have t6:(Hh==6)=false:=by simpa using h6
  have hpart:Hid (Zhd s a x l=if (Xl s l x).1≠0 then ((Xl s l x).1,Zj,0)
   else if lvE (Xl s l x).2.1 a≠0 then (lvE (Xl s l x).2.1 a,Zj,0)
   else (0,lvV (Xl s l x).2.1 a,(Xl s l x).2.2)):=Za (by rw[hdone2.out,if_neg (fun h=>h6 (hpl2.out.1 h.1))])
  have BW:Hid (Qam w6.heap.size w6 w6):=Za (Qb _ _)
  have hgrw:=Za (Zso w.heap.size w5.heap.size (by have:=B3.out.size;have:=B5.out.size;omega) qa qb qc qd s A m c l E ce x w6 (by have:=hB56.out.size;have:=BW.out.size;omega)
   (hS0.out.map fun p v hp hc=>⟨hp,((B3.out.trans (B6.out.mono B3.out.size)).trans (BW.out.mono (B3.out.trans (B6.out.mono B3.out.size)).size)).cell hp |>.trans hc⟩)
   (by have:=(hW'.out.below BW.out).row;rw[hm.out] at this;exact this) hm.out hm6 (hW'.out.below BW.out).rows hW'.out.off hq.out
   (hX0.out.map fun p v hp hc=>⟨hp,((B3.out.trans (B6.out.mono B3.out.size)).trans (BW.out.mono (B3.out.trans (B6.out.mono B3.out.size)).size)).cell hp |>.trans hc⟩))
  have hgrw':=hgrw.out;unfold itV at hgrw';have hgrw:=Za hgrw';clear hgrw'
  go_upto_region 12 with fail
  go_wp2_with fail
  with_reducible refine hgrw.out.mono ?_
  rintro e w8 ⟨pa,pb,pc,pd,rfl,hS8,hb8⟩;clear k0 k1 k2 k3 n0 n1 n2 n3 n4 u0 u1 u2 u3 uf hgrw;have hc8:=Za ((hb8.block w2.heap.size (by have:=SZ.out;have:=B5.out.size;omega)).trans (KC.out w6 (B6.out.trans (BW.out.mono B6.out.size))).2.2);have BwW:=(B3.out.trans (B6.out.mono B3.out.size)).trans (BW.out.mono (B3.out.trans (B6.out.mono B3.out.size)).size);have B8:=Za (BwW.trans (hb8.mono (by have:=B3.out.size;have:=B5.out.size;omega)));clear BwW;obtain⟨G,hG⟩:∃ q,Xl s l x=q:=⟨_,rfl⟩
  obtain⟨ge,gs,gn⟩:=G;rw[hG] at hS8 ⊢;obtain⟨u0,u1,u2,u3,uf,_⟩:=Ze hc8.out;obtain⟨w9,hw9,g9,gr9,gs9⟩:=Zu (a':=.slice pa.1 pa.2.1 pa.2.2) (b':=.slice pb.1 pb.2.1 pb.2.2) (c':=.slice pc.1 pc.2.1 pc.2.2) (d':=.slice pd.1 pd.2.1 pd.2.2) hc8.out;have B9:=Za (B8.out.grown gr9 B8.out.size (fun q e=>by cases e;have:=SZ.out;omega))
  have S9:Hid (Sto (Old w9) w9 (.agg #[.slice pa.1 pa.2.1 pa.2.2,.slice pb.1 pb.2.1 pb.2.2,.slice pc.1 pc.2.1 pc.2.2,.slice pd.1 pd.2.1 pd.2.2]) gs):=Za (hS8.map fun p v hp hc=>by
   have hb:=gr9.block p.block hp.2 (fun e=>by have:=Option.some.inj e;have:=SZ.out;have:=B6.out.size;have:=BW.out.size;rcases hp.1 with h | h <;> omega)
   exact⟨Qj hp.2 gr9.size,(Qq hb).trans hc⟩)
  have hG':=Za hG;obtain⟨k0,k1,k2,k3,kf,_⟩:=Ze g9;have g9':=Za g9;have hgs:=Za gs9;clear hS8 hb8 hG gr9 gs9 g9;replace hc8:=Za hc8
  go_upto_region 13 with fail
  clear u0 u1 u2 u3 uf hw9;by_cases hge:ge=0
  case neg =>
   have t0:(ge != 0)=true:=by simpa using hge
   obtain⟨W9,e9,y0,y1,y2,y3,hfin⟩:=hzero.out ge w9 _ _ _ _ l g9'.out (B9.out) (fun _ _=>hwl.out) (by rw[hpart.out,hG'.out,if_pos hge]);replace hfin:=Za hfin
   go_wp2_with fail
   exact Qai (v:=.tuple #[.agg #[.slice none 0 0,.slice none 0 0,.slice none 0 0,.slice none 0 0],.int .i64 0,.int .i64 ge]) (by simp[results,Tryz.results22,go_sem,y0,y1,y2,y3]) rfl hfin.out
  subst hge;have hlv:=Zcz _ gs a w9 S9.out;obtain⟨le,hle⟩:∃ q,lvE gs a=q:=⟨_,rfl⟩
  rw[hle] at hlv
  go_upto_region 15 with fail
  go_wp2_with fail
  with_reducible refine hlv.mono ?_
  rintro e w10 ⟨ra,rb,rc,rd,rfl,hS10,hb10⟩;clear k0 k1 k2 k3 kf hlv;have hc10:=(hb10.block w2.heap.size (by have:=SZ.out;have:=B9.out.size;have:=hgs.out;have:=(Qc.1 g9'.out).1;omega)).trans g9'.out;obtain⟨u0,u1,u2,u3,uf,_⟩:=Ze hc10;obtain⟨w11,hw11,g11,gr11,gs11⟩:=Zu (a':=.slice ra.1 ra.2.1 ra.2.2) (b':=.slice rb.1 rb.2.1 rb.2.2) (c':=.slice rc.1 rc.2.1 rc.2.2) (d':=.slice rd.1 rd.2.1 rd.2.2) hc10;have B11:=Za ((B9.out.trans (hb10.mono B9.out.size)).grown gr11 (B9.out.trans (hb10.mono B9.out.size)).size (fun q e=>by cases e;have:=SZ.out;omega));have hlt9:=Za (show w2.heap.size<w9.heap.size from (Qc.1 g9'.out).1);have S11:=Za (hS10.grown gr11 (fun q e=>by cases e;exact hlt9.out));obtain⟨k0,k1,k2,k3,kf,_⟩:=Ze g11;have g11':=Za g11;clear hS10 hb10 hc10 gr11 gs11 g11
  go_upto_region 16 with fail
  clear u0 u1 u2 u3 uf hw11;by_cases hle0:le=0
  case neg =>
   have t0:(le != 0)=true:=by simpa using hle0
   obtain⟨W9,e9,y0,y1,y2,y3,hfin⟩:=hzero.out le w11 _ _ _ _ l g11'.out (B11.out) (fun _ _=>hwl.out) (by rw[hpart.out,hG'.out,if_neg (fun h=>h rfl),hle,if_pos hle0]);replace hfin:=Za hfin
   go_wp2_with fail
   exact Qai (v:=.tuple #[.agg #[.slice none 0 0,.slice none 0 0,.slice none 0 0,.slice none 0 0],.int .i64 0,.int .i64 le]) (by simp[results,Tryz.results22,go_sem,y0,y1,y2,y3]) rfl hfin.out
  subst hle0;obtain⟨W9,hW9,g12,gr12,gs12⟩:=Zu (a':=.slice ra.1 ra.2.1 ra.2.2) (b':=.slice rb.1 rb.2.1 rb.2.2) (c':=.slice rc.1 rc.2.1 rc.2.2) (d':=.slice rd.1 rd.2.1 rd.2.2) g11'.out;obtain⟨y0,y1,y2,y3,_,_⟩:=Ze g12
  have hfin:Hid (Ybi s a x w (.returned (.tuple #[.agg #[.slice ra.1 ra.2.1 ra.2.2,.slice rb.1 rb.2.1 rb.2.2,.slice rc.1 rc.2.1 rc.2.2,.slice rd.1 rd.2.1 rd.2.2],.int .i64 gn,.int .i64 0])) W9):=Za (by
   have hp:Zhd s a x l=(0,lvV gs a,gn):=by rw[hpart.out,hG'.out,if_neg (fun h=>h rfl),hle,if_neg (fun h=>h rfl)]
   exact⟨l,ra,rb,rc,rd,fun _ _=>hwl.out,by rw[hp],by rw[hp];exact(S11.out.grown gr12 (fun q e=>by cases e;exact hlt9.out)).new B9.out.size (Qb _ _),B11.out.grown gr12 B11.out.size (fun q e=>by cases e;have:=SZ.out;omega)⟩)
  replace g12:=Za g12;clear gr12 gs12
  go_wp2_with fail
  exact Qai (v:=.tuple #[.agg #[.slice ra.1 ra.2.1 ra.2.2,.slice rb.1 rb.2.1 rb.2.2,.slice rc.1 rc.2.1 rc.2.2,.slice rd.1 rd.2.1 rd.2.2],.int .i64 gn,.int .i64 0]) (by simp[results,Tryz.results22,go_sem,y0,y1,y2,y3]) rfl hfin.out
 subst h6;have hpa:=Z0y A m c l w5.heap.size w6 (by have:=hW'.out.row;rw[hm.out] at this;exact this) hm.out (by omega) (fun q hq'=>(hq.out q hq').2.1);obtain⟨pf,hpf⟩:∃ q,Zdt l.reverse 1=q:=⟨_,rfl⟩
 rw[hpf] at hpa
 go_wp2_with fail
 with_reducible refine hpa.mono ?_
 rintro e w7 ⟨rfl,hb7⟩;have BW:=Za hb7;clear hb7 hpa k0 k1 k2 k3 n0 n1 n2 n3 n4 u0 u1 u2 u3 uf c6c;obtain⟨c7a,c7b,c7c⟩:=KC.out w7 (B6.out.trans (BW.out.mono B6.out.size));obtain⟨k0,k1,k2,k3,_⟩:=Ze c7a;obtain⟨n0,n1,n2,n3,n4,_⟩:=Zs c7b;obtain⟨u0,u1,u2,u3,uf,_⟩:=Ze c7c;clear c7a c7b;cases pf with
 | true =>
  obtain⟨W9,e9,y0,y1,y2,y3,hfin⟩:=hzero.out 120 w7 _ _ _ _ l c7c ((B3.out.trans (B6.out.mono B3.out.size)).trans (BW.out.mono (B3.out.trans (B6.out.mono B3.out.size)).size)) (fun _ _=>hwl.out) (by rw[hdone2.out,if_pos ⟨hpl2.out.2 (by trivial),hpf⟩]);replace hfin:=Za hfin
  go_wp2_with fail
  exact Qai (v:=.tuple #[.agg #[.slice none 0 0,.slice none 0 0,.slice none 0 0,.slice none 0 0],.int .i64 0,.int .i64 120]) (by simp[results,Tryz.results22,go_sem,y0,y1,y2,y3]) rfl hfin.out
 | false =>
  have hpart:Hid (Zhd s a x l=if (Xl s l x).1≠0 then ((Xl s l x).1,Zj,0)
   else if lvE (Xl s l x).2.1 a≠0 then (lvE (Xl s l x).2.1 a,Zj,0)
   else (0,lvV (Xl s l x).2.1 a,(Xl s l x).2.2)):=Za (by rw[hdone2.out,if_neg (fun h=>by rw[hpf] at h;cases h.2)])
  have hgrw:=Za (Zso w.heap.size w5.heap.size (by have:=B3.out.size;have:=B5.out.size;omega) qa qb qc qd s A m c l E ce x w7 (by have:=hB56.out.size;have:=BW.out.size;omega)
   (hS0.out.map fun p v hp hc=>⟨hp,((B3.out.trans (B6.out.mono B3.out.size)).trans (BW.out.mono (B3.out.trans (B6.out.mono B3.out.size)).size)).cell hp |>.trans hc⟩)
   (by have:=(hW'.out.below BW.out).row;rw[hm.out] at this;exact this) hm.out hm6 (hW'.out.below BW.out).rows hW'.out.off hq.out
   (hX0.out.map fun p v hp hc=>⟨hp,((B3.out.trans (B6.out.mono B3.out.size)).trans (BW.out.mono (B3.out.trans (B6.out.mono B3.out.size)).size)).cell hp |>.trans hc⟩))
  have hgrw':=hgrw.out;unfold itV at hgrw';have hgrw:=Za hgrw';clear hgrw'
  go_upto_region 12 with fail
  go_wp2_with fail
  with_reducible refine hgrw.out.mono ?_
  rintro e w8 ⟨pa,pb,pc,pd,rfl,hS8,hb8⟩;clear k0 k1 k2 k3 n0 n1 n2 n3 n4 u0 u1 u2 u3 uf hgrw;have hc8:=Za ((hb8.block w2.heap.size (by have:=SZ.out;have:=B5.out.size;omega)).trans (KC.out w7 (B6.out.trans (BW.out.mono B6.out.size))).2.2);have BwW:=(B3.out.trans (B6.out.mono B3.out.size)).trans (BW.out.mono (B3.out.trans (B6.out.mono B3.out.size)).size);have B8:=Za (BwW.trans (hb8.mono (by have:=B3.out.size;have:=B5.out.size;omega)));clear BwW;obtain⟨G,hG⟩:∃ q,Xl s l x=q:=⟨_,rfl⟩
  obtain⟨ge,gs,gn⟩:=G;rw[hG] at hS8 ⊢;obtain⟨u0,u1,u2,u3,uf,_⟩:=Ze hc8.out;obtain⟨w9,hw9,g9,gr9,gs9⟩:=Zu (a':=.slice pa.1 pa.2.1 pa.2.2) (b':=.slice pb.1 pb.2.1 pb.2.2) (c':=.slice pc.1 pc.2.1 pc.2.2) (d':=.slice pd.1 pd.2.1 pd.2.2) hc8.out;have B9:=Za (B8.out.grown gr9 B8.out.size (fun q e=>by cases e;have:=SZ.out;omega))
  have S9:Hid (Sto (Old w9) w9 (.agg #[.slice pa.1 pa.2.1 pa.2.2,.slice pb.1 pb.2.1 pb.2.2,.slice pc.1 pc.2.1 pc.2.2,.slice pd.1 pd.2.1 pd.2.2]) gs):=Za (hS8.map fun p v hp hc=>by
   have hb:=gr9.block p.block hp.2 (fun e=>by have:=Option.some.inj e;have:=SZ.out;have:=B6.out.size;have:=BW.out.size;rcases hp.1 with h | h <;> omega)
   exact⟨Qj hp.2 gr9.size,(Qq hb).trans hc⟩)
  have hG':=Za hG;obtain⟨k0,k1,k2,k3,kf,_⟩:=Ze g9;have g9':=Za g9;have hgs:=Za gs9;clear hS8 hb8 hG gr9 gs9 g9;replace hc8:=Za hc8
  go_upto_region 13 with fail
  clear u0 u1 u2 u3 uf hw9;by_cases hge:ge=0
  case neg =>
   have t0:(ge != 0)=true:=by simpa using hge
   obtain⟨W9,e9,y0,y1,y2,y3,hfin⟩:=hzero.out ge w9 _ _ _ _ l g9'.out (B9.out) (fun _ _=>hwl.out) (by rw[hpart.out,hG'.out,if_pos hge]);replace hfin:=Za hfin
   go_wp2_with fail
   exact Qai (v:=.tuple #[.agg #[.slice none 0 0,.slice none 0 0,.slice none 0 0,.slice none 0 0],.int .i64 0,.int .i64 ge]) (by simp[results,Tryz.results22,go_sem,y0,y1,y2,y3]) rfl hfin.out
  subst hge;have hlv:=Zcz _ gs a w9 S9.out;obtain⟨le,hle⟩:∃ q,lvE gs a=q:=⟨_,rfl⟩
  rw[hle] at hlv
  go_upto_region 15 with fail
  go_wp2_with fail
  with_reducible refine hlv.mono ?_
  rintro e w10 ⟨ra,rb,rc,rd,rfl,hS10,hb10⟩;clear k0 k1 k2 k3 kf hlv;have hc10:=(hb10.block w2.heap.size (by have:=SZ.out;have:=B9.out.size;have:=hgs.out;have:=(Qc.1 g9'.out).1;omega)).trans g9'.out;obtain⟨u0,u1,u2,u3,uf,_⟩:=Ze hc10;obtain⟨w11,hw11,g11,gr11,gs11⟩:=Zu (a':=.slice ra.1 ra.2.1 ra.2.2) (b':=.slice rb.1 rb.2.1 rb.2.2) (c':=.slice rc.1 rc.2.1 rc.2.2) (d':=.slice rd.1 rd.2.1 rd.2.2) hc10;have B11:=Za ((B9.out.trans (hb10.mono B9.out.size)).grown gr11 (B9.out.trans (hb10.mono B9.out.size)).size (fun q e=>by cases e;have:=SZ.out;omega));have hlt9:=Za (show w2.heap.size<w9.heap.size from (Qc.1 g9'.out).1);have S11:=Za (hS10.grown gr11 (fun q e=>by cases e;exact hlt9.out));obtain⟨k0,k1,k2,k3,kf,_⟩:=Ze g11;have g11':=Za g11;clear hS10 hb10 hc10 gr11 gs11 g11
  go_upto_region 16 with fail
  clear u0 u1 u2 u3 uf hw11;by_cases hle0:le=0
  case neg =>
   have t0:(le != 0)=true:=by simpa using hle0
   obtain⟨W9,e9,y0,y1,y2,y3,hfin⟩:=hzero.out le w11 _ _ _ _ l g11'.out (B11.out) (fun _ _=>hwl.out) (by rw[hpart.out,hG'.out,if_neg (fun h=>h rfl),hle,if_pos hle0]);replace hfin:=Za hfin
   go_wp2_with fail
   exact Qai (v:=.tuple #[.agg #[.slice none 0 0,.slice none 0 0,.slice none 0 0,.slice none 0 0],.int .i64 0,.int .i64 le]) (by simp[results,Tryz.results22,go_sem,y0,y1,y2,y3]) rfl hfin.out
  subst hle0;obtain⟨W9,hW9,g12,gr12,gs12⟩:=Zu (a':=.slice ra.1 ra.2.1 ra.2.2) (b':=.slice rb.1 rb.2.1 rb.2.2) (c':=.slice rc.1 rc.2.1 rc.2.2) (d':=.slice rd.1 rd.2.1 rd.2.2) g11'.out;obtain⟨y0,y1,y2,y3,_,_⟩:=Ze g12
  have hfin:Hid (Ybi s a x w (.returned (.tuple #[.agg #[.slice ra.1 ra.2.1 ra.2.2,.slice rb.1 rb.2.1 rb.2.2,.slice rc.1 rc.2.1 rc.2.2,.slice rd.1 rd.2.1 rd.2.2],.int .i64 gn,.int .i64 0])) W9):=Za (by
   have hp:Zhd s a x l=(0,lvV gs a,gn):=by rw[hpart.out,hG'.out,if_neg (fun h=>h rfl),hle,if_neg (fun h=>h rfl)]
   exact⟨l,ra,rb,rc,rd,fun _ _=>hwl.out,by rw[hp],by rw[hp];exact(S11.out.grown gr12 (fun q e=>by cases e;exact hlt9.out)).new B9.out.size (Qb _ _),B11.out.grown gr12 B11.out.size (fun q e=>by cases e;have:=SZ.out;omega)⟩)
  replace g12:=Za g12;clear gr12 gs12
  go_wp2_with fail
  exact Qai (v:=.tuple #[.agg #[.slice ra.1 ra.2.1 ra.2.2,.slice rb.1 rb.2.1 rb.2.2,.slice rc.1 rc.2.1 rc.2.2,.slice rd.1 rd.2.1 rd.2.2],.int .i64 gn,.int .i64 0]) (by simp[results,Tryz.results22,go_sem,y0,y1,y2,y3]) rfl hfin.out}
theorem Zlq {z:It}{i:Nat}(h:8<=z.2.1):Xj [z] i=if i=z.2.1.toNat then 1 else 0:=by
 show (if z.2.1=(i:Int) then (if z.2.1=0 then 0 else 1) else 0)+0=_;by_cases e:i=z.2.1.toNat
 ·rw[if_pos (show z.2.1=(i:Int) by omega),if_neg (show ¬ z.2.1=0 by omega),if_pos e]
 ·rw[if_neg (show ¬ z.2.1=(i:Int) by omega),if_neg e]
theorem Zpe:∀ (l:List It) (v:Rm),(Znk v l).1=v.1
 | [],_=>rfl
 | q::r,v=>by rw[Zo0,Zpe r];rfl
theorem Zzg {s u1 T:Rm}{a:Int}{x:It}{up top:List It}{l:Nat}{P:Nat->Nat}{N N1:List Int}(hl:l<6) (G:Zjd s u1 P N N1 l a up x Zbh false) (h:Vg u1 (l:Int) up=(0,T,top)) :
  ∃ (L:Nat) (z:It) (N2:List Int),Zch top=z.2.1/\Xv s T/\Zy T L z.2.1 z.1 Zbh false=true/\X2 T L z.2.1=Vu (X2 s l a) x/\Enf T.1 T.2.1 (fun i=>P i+if i=z.2.1.toNat then 1 else 0) N2/\(∀ m∈N,m∈N2)/\z.2.1∈N2/\8<=z.2.1/\T.1.2.length<=s.1.2.length+2*(l+1)+1/\l<=L/\L<=l+1:=by{
 obtain⟨z,r,ez,_⟩:=G.first;rcases Z1m h with ⟨h1,rfl,rfl⟩ | ⟨h1,u0,h2,rfl⟩
 ·have hr:r=[]:=by
   rw[ez] at h1;cases r with
   | nil=>rfl
   | cons _ _=>simp at h1
  subst hr;obtain⟨f1,f2,f3,f4⟩:=G.ups z (by rw[ez];exact Qe);have hi:=G.its;have ha:=G.all;rw[ez] at hi ha;refine⟨l,z,N1,by rw[ez];rfl,G.keep,hi,?_,G.enf.same fun i=>by rw[ez,Zlq f2],G.more,f1,f2,?_,Qd _,by omega⟩
  ·rw[<- ha,Qt]
   simp
  ·have:=G.writes
   omega
 ·have hne:up≠[]:=by rw[ez];simp
  have hfew:=G.few;rcases X9 h2 with ⟨m1,em,et⟩ | ⟨m0,_⟩
  ·have m2:=(Zx (Zvy m1).2.1).1.2.1
   have hin:InN ((l:Int)+1,up):=⟨⟨by show (-9223372036854775808:Int)<=(l:Int)+1;omega,by show (l:Int)+1<=9223372036854775807;omega⟩,G.inI⟩
   have hrow:Zkq u1 (l+1) up Zbh false (Vu (X2 s l a) x):=⟨G.its,G.all.symm⟩
   have ec:((l:Int)+1)=((l+1:Nat):Int):=by omega
   obtain⟨N2,e1,k2,e3,e4,e5,e6,_,_⟩:=Zac h2 hin G.enf fun _ q hq=>by
    obtain⟨f1,f2,_,f4⟩:=G.ups q hq;exact⟨f1,by omega,by omega⟩
   obtain⟨k3,e9⟩:=Zlu up (s:=u0) (P:=fun i=>P i+Xj top i) (N:=N2) k2.may (e1.same fun i=>by show P i+Xj top i+Xj up i=P i+Xj up i+Xj top i;omega) fun q hq=>by
    obtain⟨_,f2,_,_⟩:=G.ups q hq;obtain⟨n,hn,hqn⟩:=e6 q hq;exact⟨by omega,n,hn,q,hqn,rfl⟩
   rw[ec] at m1 em et hin;obtain⟨g1,g2⟩:=Za5 m1 hin hne hrow;rw[<- em] at g1 g2;obtain⟨f1,f2,f3,f4⟩:=e5 (upI up (mkN u1 (((l+1:Nat):Int),up))) (by rw[et];exact Qe);obtain⟨g3,g4,_⟩:=Z8 k3 (l+1) _ _ _ _ g1;refine⟨l+1,upI up (mkN u1 (((l+1:Nat):Int),up)),N2,by rw[et];rfl,Xp (Xp G.keep k2) k3,g3,g4.trans g2,e9.same fun i=>by rw[et,Zlq f2],fun m hm=>e3 m (G.more m hm),f1,f2,?_,by omega,Qd _⟩;rw[Zpe,em];obtain⟨k,_,_,_,_,_,_,hV,_⟩:=X5 m1;rw[hV];have:=G.writes;simp only[wrD,Qm,Qi,Qw];omega
  ·omega}
structure Z7h (s u:Rm) (P:Nat->Nat) (N M:List Int) (a now:Int) (x:It):Prop where
 tree:Yo u now=true
 all:Vo u now=Vu (Vo s a) x
 enf:Enf u.1 u.2.1 (fun i=>P i+if i=now.toNat then 1 else 0) M
 root:now∈M
 place:8<=now/\now<256
 tall:(rmV s a).1<=(rmV u now).1/\(rmV u now).1<=(rmV s a).1+1
 writes:(u.1.2.length:Int)<=s.1.2.length+2*((rmV s a).1+1)+1
 other:∀ b,Yo s b=true->b∈N->1<=P b.toNat->b∈M/\Yo u b=true/\rmV u b=rmV s b/\Vo u b=Vo s b/\∀ q,Zdv u b q=Zdv s b q
theorem Z9p {s u:Rm}{a now:Int}{x:It}{P:Nat->Nat}{N:List Int}(hx:InI x) (ht:Yo s a=true) (ha:a∈N) (hr:x.2.1=0\/(0<x.2.1/\s.2.1[x.2.1.toNat]?.getD 0≠0))
  (hE:Enf s.1 s.2.1 (fun i=>P i+(if i=a.toNat then 1 else 0)+Zaf x i) N) (h:Zhb s a x=(0,u,now)):∃ M,Z7h s u P N M a now x:=by{
 obtain⟨u1,up,T,top,v,h1,h2,hv,rfl,rfl⟩:=Z4u h;obtain⟨r1,ra,_,l0,l6,_⟩:=Xf ht;obtain⟨N1,G⟩:=Zf4 hx hr hE _ (by omega) (Zfe ht) (fun he=>by cases he) ha h1;have hlv:(rmV s a).1=(((rmV s a).1.toNat:Nat):Int):=by omega
 rw[hlv] at h2;obtain⟨L,z,N2,en,k,g1,g2,e1,e2,z1,z8,hw,L1,L2⟩:=Zzg (by omega) G h2;obtain⟨t1,t2,t3⟩:=Zf6 g1;have hz256:=(e1.node _ z1).2.1;obtain⟨a0,_,_,_⟩:=hE.node a ha;have ha0:0<a:=by have:=(Xh r1).1;omega
 have hnda:ndD T.1 a=rmV s a:=(Zet k hE ha).trans (Zab r1)
 have hE2:=Zia (P:=fun i=>P i+if i=z.2.1.toNat then 1 else 0) (e2 a ha) ha0 (by rw[hnda];exact l0) (e1.same fun i=>by
  show P i+(if i=z.2.1.toNat then 1 else 0)+(if i=a.toNat then 1 else 0)=P i+(if i=a.toNat then 1 else 0)+(if i=z.2.1.toNat then 1 else 0)
  omega) hv
 obtain⟨_,b1,b2,b3,b4,_⟩:=Zb1 k.may hv hE2 z1 (by simp) t1;rw[en];refine⟨Zah v N2,b2,?_,hE2,b1,⟨z8,hz256⟩,by rw[b3,t3];omega,?_,fun b hb hbN hP=> ?_⟩
 ·rw[b4,t2,g2];rfl
 ·show (T.1.2.length:Int)<=_
  omega
 ·obtain⟨c1,_,c3,c4,c5⟩:=Zb4 k hb
  obtain⟨_,d1,d2,d3,d4,d5,_⟩:=Zb1 k.may hv hE2 (e2 b hbN) (by show 1<=P b.toNat+_;omega) c1;exact⟨d1,d2,d3.trans c3,d4.trans c4,fun q=>(d5 q).trans (c5 q)⟩}
theorem Z5o {s:Rm}{P:Nat->Nat}{N:List Int}(hm:Xm s=true) (hE:Enf s.1 s.2.1 P N){i n:Int}{z:It}(h8:8<=i) (h256:i<256) (hn:n∈N) (hz:z∈(ndD s.1 n).2) (e:z.2.1=i):asE s i=0:=by
 have h1:=hE.enough i.toNat;have h2:=Zbr hz (k:=i.toNat) (by omega) (by omega);have h3:=Zgv (d:=s.1) (k:=i.toNat) hn;have h4:=Zcf (s:=s) (k:=i.toNat) hm (by omega) (by omega) (V4.1 (by omega))
 rwa [show ((i.toNat:Nat):Int)=i by omega] at h4
theorem Z55 {s:Rm}{i:Int}(h:asE s i=0):loV s i=Vw s i:=by
 unfold loV;rw[if_pos h];rfl
theorem Zsd:∀ (l:List It){s:Rm}{P:Nat->Nat}{N:List Int},Xm s=true->Enf s.1 s.2.1 (fun i=>P i+Xj l i) N->(∀ x∈l,(8<=x.2.1/\x.2.1<256)/\∃ n∈N,∃ z∈(ndD s.1 n).2,z.2.1=x.2.1)->Zki l s=(0,Znk s l)
 | [],_,_,_,_,_,_=>rfl
 | x::l,s,P,N,hm,hE,hr=>by
  obtain⟨h0,n,hn,z,hz,e⟩:=hr x Qe;have ha:=Z5o hm hE h0.1 h0.2 hn hz e
  obtain⟨k1,e1⟩:=Zjl (P:=fun i=>P i+Xj l i) hm (hE.same fun i=>by
   have ec:Xj (x::l) i=(if x.2.1=(i:Int) then (if x.2.1=0 then 0 else 1) else 0)+Xj l i:=rfl;show P i+Xj l i+(if i=x.2.1.toNat then 1 else 0)=P i+Xj (x::l) i;rw[ec];by_cases e:x.2.1=(i:Int)
   ·rw[if_pos e,if_neg (show ¬ x.2.1=0 by omega),if_pos (show i=x.2.1.toNat by omega)];omega
   ·rw[if_neg e,if_neg (show ¬ i=x.2.1.toNat by omega)];omega) (a:=x.2.1) (by omega) ⟨n,hn,z,hz,e⟩
  have e2:=Zsd l (s:=Vw s x.2.1) (P:=P) (N:=N) k1.may e1 fun y hy=>hr y (Qo _ hy)
  unfold Zki;rw[if_neg (by omega),if_pos ha,Z55 ha,e2];rfl
theorem Zob:∀ (A:List Sv) (q:Sv) (s:Rm) (F:List It),Xy (A++[q]) s F=if (Xy A s F).1=0 then Xy [q] (Xy A s F).2.1 (Xy A s F).2.2 else ((Xy A s F).1,Zj,[])
 | [],q,s,F=>by
  rw[Pa];show _=if (0:Int)=0 then Xy [q] s F else _
  rw[if_pos rfl]
 | p::A,q,s,F=>by
  have e:∀ B,Xy (p::B) s F=if (Uj s p.nd.1 (Vi p F) F).1=0 then Xy B (Uj s p.nd.1 (Vi p F) F).2.1 (Uj s p.nd.1 (Vi p F) F).2.2 else ((Uj s p.nd.1 (Vi p F) F).1,Zj,[]):=fun _=>rfl
  rw[Qz,e,e];by_cases h:(Uj s p.nd.1 (Vi p F) F).1=0
  ·rw[if_pos h,if_pos h]
   exact Zob A q _ _
  ·rw[if_neg h,if_neg h,if_neg h]
theorem Zp9 (q:Sv) (s:Rm) (F:List It):Xy [q] s F=if (Uj s q.nd.1 (Vi q F) F).1=0 then (0,(Uj s q.nd.1 (Vi q F) F).2.1,(Uj s q.nd.1 (Vi q F) F).2.2) else ((Uj s q.nd.1 (Vi q F) F).1,Zj,[]):=rfl
theorem Zo8:∀ (A:List Sv) (q:Sv) (m:Nat),A≠[]->Zdt (A++[q]) m=(Zdt A m&&decide (5<Zt8 q 2))
 | [],_,_,h=>absurd rfl h
 | [p],q,m,_=>by
  show (if Zt8 p m<=5 then false else if Zt8 q 2<=5 then false else true)=((if Zt8 p m<=5 then false else true)&&decide (5<Zt8 q 2));split
  ·rfl
  ·by_cases h:Zt8 q 2<=5
   ·rw[if_pos h];simp;omega
   ·rw[if_neg h];simp;omega
 | p::p'::A,q,m,_=>by
  rw[Qz];unfold Zdt;split
  ·rfl
  ·exact Zo8 (p'::A) q 2 (List.cons_ne_nil _ _)
theorem Zus {s:Rm}{l:Nat}{a:Int}{tb:Ky}{e:Bool}{x:It}{N:List Int}{Q:Nat->Nat}(ht:Znj s (l+1) a tb e) (hb:e=true->Zo x.1 tb=true) (ha:a∈N) (hE:Enf s.1 s.2.1 Q N) :
  ∃ tb' e',Znj s l (Zci (rmV s a) x.1) tb' e'/\(e'=true->Zo x.1 tb'=true)/\Zci (rmV s a) x.1∈N:=by{
 have hm:=(Z9 ht.ok).1;have hne:0<(rmV s a).2.length:=(Zx hm).1.2.2.2 (by rw[ht.lv];omega);obtain⟨y,hy⟩:∃ y,(rmV s a).2[Xk (rmV s a) x.1]? = some y:=⟨_,Qk (Zc4 x.1 hne)⟩
 have hw:=Zhl hy;have hyin:y∈(rmV s a).2:=Qx hy;rw[Zoq hy];have hbe:=fun(i:Nat) (c:It) (hi:Xk (rmV s a) x.1<i) (hc:(rmV s a).2[i]? = some c)=>Zgn hm hi hc
 have hCk:∀ c r,(rmV s a).2.drop (Xk (rmV s a) x.1+1)=c::r->Zo x.1 c.1=true:=fun c r hc=>by
  refine hbe (Xk (rmV s a) x.1+1) c (by omega) ?_;have:=congrArg (fun l=>l[0]?) hc
  simpa [Pz] using this
 generalize hAe:(rmV s a).2.take (Xk (rmV s a) x.1)=A at *;generalize hCe:(rmV s a).2.drop (Xk (rmV s a) x.1+1)=C at *;have hinn:Zax (Zy s l) (rmV s a).2 tb e=true:=ht.inn;rw[hw] at hinn;rw[Y3,Qh,Vl,Qh] at hinn;obtain⟨iA,iy,iC⟩:=hinn;obtain⟨hty,_⟩:=Ziy iy;refine⟨_,_,hty,fun he=> ?_,?_⟩
 ·cases hC:C with
  | nil=>rw[hC] at he;exact hb he
  | cons c r=>exact hCk c r hC
 ·have hnd:ndD s.1 a=rmV s a:=Zab ht.ok
  exact(hE.shut a ha (by rw[hnd,ht.lv];omega) y (by rw[hnd];exact hyin)).1}
theorem Zq0 {s:Rm}{a:Int}{x:It}{N:List Int}{Q:Nat->Nat}{l0:Nat}(ht:Znj s l0 a Zbh false) (ha:a∈N) (hE:Enf s.1 s.2.1 Q N):∀ j,j<=l0->∃ tb e,Znj s (l0-j) (atW s x.1 a j) tb e/\(e=true->Zo x.1 tb=true)/\atW s x.1 a j∈N
 | 0,_=>⟨Zbh,false,ht,(nomatch ·),ha⟩
 | j+1,hj=>by
  obtain⟨tb,e,h1,h2,h3⟩:=Zq0 ht ha hE j (by omega);rw[show l0-j=(l0-(j+1))+1 by omega] at h1;exact Zus h1 h2 h3 hE
theorem Z10 {x:It}(hx:InI x) (hmx:Zbp x=true){s:Rm}{a:Int}{tb:Ky}{e:Bool}{P:Nat->Nat}{N:List Int}(ht:Znj s 0 a tb e) (hE:Enf s.1 s.2.1 (fun i=>P i+Zaf x i) N){q:Sv}(hq:q.nd=rmV s a) (hst:(q.pl,q.inst)=Zho q.nd x.1) :
  Xy [q] s [x]=Zm x 0 s a:=by{
 have h0:q.nd.1=0:=by rw[hq,ht.lv];rfl
 have eL:Vi q [x]=Zbb (rmV s a).2 (Z2 (rmV s a) x.1) (if Yl (rmV s a) x.1=true then 1 else 0) [x]:=by
  unfold Zho at hst;rw[if_pos h0] at hst;simp only[Prod.mk.injEq] at hst;unfold Vi Zbb;rw[hst.1,hst.2,hq]
 rw[Zp9,h0,eL];unfold Zm Uj;by_cases hb:(Zq s 0 (Zbb (rmV s a).2 (Z2 (rmV s a) x.1) (if Yl (rmV s a) x.1=true then 1 else 0) [x])).1=0
 ·rw[if_pos hb,if_pos hb]
  generalize hbb:Zq s 0 (Zbb (rmV s a).2 (Z2 (rmV s a) x.1) (if Yl (rmV s a) x.1=true then 1 else 0) [x])=b at hb;obtain⟨z,u0,up⟩:=b;obtain rfl:z=0:=hb;have hm:=(Z9 ht.ok).1;have el:Zbb (rmV s a).2 (Z2 (rmV s a) x.1) (if Yl (rmV s a) x.1=true then 1 else 0) [x]=Vu (rmV s a).2 x:=Zhx hm x;rw[el] at hbb
  have hi:InN ((0:Int),Vu (rmV s a).2 x):=⟨⟨by simp,by simp⟩,fun y hy=>by
   rcases Zct.1 hy with rfl | ⟨hy,_⟩
   ·exact hx
   ·exact(Ze5 ht.ok).it y hy⟩
  obtain⟨N',e1,k1,e3,e4,e5,e6,e7,e8⟩:=Zac hbb hi hE fun h0=>absurd rfl h0;have hlo:Zki [x] u0=(0,if x.2.1=0 then u0 else Vw u0 x.2.1):=by
   by_cases hx0:x.2.1=0
   ·rw[if_pos hx0]
    unfold Zki;rw[if_pos hx0];rfl
   ·rw[if_neg hx0]
    obtain⟨n,hn,hxn⟩:=e6 x (Zct.2 (.inl rfl));have hr:=(Zaj hmx).1;have ha:=Z5o k1.may e1 (i:=x.2.1) (by omega) (by omega) hn hxn rfl;unfold Zki;rw[if_neg hx0,if_pos ha,Z55 ha];rfl
  rw[hlo];rfl
 ·rw[if_neg hb,if_neg hb,if_neg hb]}
theorem Ztp {x:It}(hx:InI x) (hmx:Zbp x=true){s:Rm}{a:Int}{P:Nat->Nat}{N:List Int}{l0:Nat}(h6:l0<6) (ht:Znj s l0 a Zbh false) (ha:a∈N) (hr:x.2.1=0\/(0<x.2.1/\s.2.1[x.2.1.toNat]?.getD 0≠0))
  (hE:Enf s.1 s.2.1 (fun i=>P i+Zaf x i) N) {l:List Sv} (hll:l.length=l0+1) (are:∀ i q,l[i]? = some q->q.nd=rmV s (atW s x.1 a i)/\(q.pl,q.inst)=Zho q.nd x.1) :
  ∀ (d j:Nat),j+d=l0->Xy (l.drop j).reverse s [x]=Zm x d s (atW s x.1 a j)
 | 0,j,hj=>by
  obtain⟨tb,e,h1,h2,h3⟩:=Zq0 (x:=x) ht ha hE j (by omega);have hjl:j<l.length:=by omega
  obtain⟨q,hq⟩:∃ q,l[j]? = some q:=⟨_,Qk hjl⟩
  have hd:l.drop j=[q]:=by
   rw[Q5 hjl,(Qs.1 hq).2,Pj (by omega)]
  rw[hd,P1];rw[show l0-j=0 by omega] at h1;exact Z10 hx hmx h1 hE (are j q hq).1 (are j q hq).2
 | d+1,j,hj=>by
  obtain⟨tb,e,h1,h2,h3⟩:=Zq0 (x:=x) ht ha hE j (by omega);have hjl:j<l.length:=by omega
  obtain⟨q,hq⟩:∃ q,l[j]? = some q:=⟨_,Qk hjl⟩
  have hd:(l.drop j).reverse=(l.drop (j+1)).reverse++[q]:=by
   rw[Q5 hjl,(Qs.1 hq).2,P3]
  obtain⟨a1,a2⟩:=are j q hq;rw[show l0-j=d+1 by omega] at h1;have ih:=Ztp hx hmx h6 ht ha hr hE hll are d (j+1) (by omega);have hat:atW s x.1 a (j+1)=Zci (rmV s (atW s x.1 a j)) x.1:=rfl;generalize atW s x.1 a j=b at *;rw[hat] at ih;have hq1:q.nd.1=((d+1:Nat):Int):=by rw[a1,h1.lv]
  have eL:∀ F,Vi q F=Zbb (rmV s b).2 (Xk (rmV s b) x.1) 1 F:=fun F=>by
   unfold Zho at a2;rw[if_neg (by omega)] at a2;simp only[Prod.mk.injEq] at a2;unfold Vi Zbb;rw[a2.1,a2.2,a1];rfl
  rw[hd,Zob,ih]
  conv=>rhs;unfold Zm
  by_cases hg:(Zm x d s (Zci (rmV s b) x.1)).1=0
  ·rw[if_pos hg,if_pos hg]
   obtain⟨tb',e',h1',h2',h3'⟩:=Zus h1 h2 h3 hE;generalize hgg:Zm x d s (Zci (rmV s b) x.1)=g at hg;obtain⟨z,u1,up1⟩:=g;obtain rfl:z=0:=hg;obtain⟨N1,G⟩:=Zf4 hx hr hE d (by omega) h1' h2' h3' hgg;rw[Zp9,eL,hq1];unfold Uj;by_cases hb:(Zq u1 ((d+1:Nat):Int) (Zbb (rmV s b).2 (Xk (rmV s b) x.1) 1 up1)).1=0
   ·rw[if_pos hb,if_pos hb]
    generalize hbb:Zq u1 ((d+1:Nat):Int) (Zbb (rmV s b).2 (Xk (rmV s b) x.1) 1 up1)=bb at hb;obtain⟨z,u2,up⟩:=bb;obtain rfl:z=0:=hb;have hm:=(Z9 h1.ok).1
    have hin:InN (((d+1:Nat):Int),Zbb (rmV s b).2 (Xk (rmV s b) x.1) 1 up1):=⟨⟨by show (-9223372036854775808:Int)<=((d+1:Nat):Int);omega,by show ((d+1:Nat):Int)<=9223372036854775807;omega⟩,fun p hp=>by
     have hN:=(Ze5 h1.ok).it;rcases Qf.1 hp with hp | hp
     ·exact hN p (Qn hp)
     ·rcases Qf.1 hp with hp | hp
      ·exact G.inI p hp
      ·exact hN p (Qr hp)⟩
    have hnd:ndD s.1 b=rmV s b:=Zab h1.ok;have hsh:∀ p∈(rmV s b).2,p.2.1∈N1/\p.2.1≠0/\(ndD u1.1 p.2.1).1+1=((d+1:Nat):Int):=fun p hp=>by
     have:=hE.shut b h3 (by rw[hnd,h1.lv];omega) p (by rw[hnd];exact hp);rw[hnd,h1.lv] at this;exact⟨G.more _ this.1,this.2.1,by rw[Zet G.keep hE this.1];exact this.2.2⟩
    obtain⟨N2,e1,k2,e3,e4,e5,e6,e7,e8⟩:=Zac hbb hin G.enf fun _ p hp=>by
     rcases Qf.1 hp with hp | hp
     ·exact hsh p (Qn hp)
     ·rcases Qf.1 hp with hp | hp
      ·obtain⟨f1,f2,f3,f4⟩:=G.ups p hp
       exact⟨f1,by omega,by rw[f4];omega⟩
      ·exact hsh p (Qr hp)
    have hlo:=Zsd up1 (s:=u2) (P:=fun i=>P i+Xj up i) (N:=N2) k2.may (e1.same fun i=>by show P i+Xj up i+Xj up1 i=P i+Xj up1 i+Xj up i;omega) fun p hp=>by
     obtain⟨_,f2,f3,_⟩:=G.ups p hp;obtain⟨n,hn,hpn⟩:=e6 p (Ql _ (Qy _ hp));exact⟨⟨f2,f3⟩,n,hn,p,hpn,rfl⟩
    rw[hlo];rfl
   ·rw[if_neg hb,if_neg hb,if_neg hb]
  ·rw[if_neg hg,if_neg hg]
theorem Zug {x:It}{s:Rm}{a:Int}{l0:Nat}(hT:AtT s l0 a){l:List Sv}(hll:l.length=l0+1) (are:∀ i q,l[i]? = some q->q.nd=rmV s (atW s x.1 a i)/\(q.pl,q.inst)=Zho q.nd x.1) :
  ∀ (d j:Nat),j+d=l0->Zdt (l.drop j).reverse 1=Zrk s d (atW s x.1 a j) x.1
 | 0,j,hj=>by
  have h1:=Zak (k:=x.1) hT j (by omega);have hjl:j<l.length:=by omega
  obtain⟨q,hq⟩:∃ q,l[j]? = some q:=⟨_,Qk hjl⟩
  have hd:l.drop j=[q]:=by
   rw[Q5 hjl,(Qs.1 hq).2,Pj (by omega)]
  obtain⟨a1,a2⟩:=are j q hq;have h5:=(Zx h1.may).1.2.2.1;have h0:q.nd.1=0:=by rw[a1,h1.lvl,show l0-j=0 by omega];rfl
  unfold Zho at a2;rw[if_pos h0] at a2;simp only[Prod.mk.injEq] at a2;rw[hd,P1];unfold Zrk;rw[<- a1] at h5 ⊢;show (if Zt8 q 1<=5 then false else true)=_;unfold Zt8;rw[a2.2];cases hth:Yl q.nd x.1 with
  | true=>simp;omega
  | false =>
   rw[P4];simp;omega
 | d+1,j,hj=>by
  have h1:=Zak (k:=x.1) hT j (by omega);have hjl:j<l.length:=by omega
  obtain⟨q,hq⟩:∃ q,l[j]? = some q:=⟨_,Qk hjl⟩
  have hd:(l.drop j).reverse=(l.drop (j+1)).reverse++[q]:=by
   rw[Q5 hjl,(Qs.1 hq).2,P3]
  obtain⟨a1,a2⟩:=are j q hq;have h0:q.nd.1≠0:=by rw[a1,h1.lvl];omega
  unfold Zho at a2;rw[if_neg h0] at a2;simp only[Prod.mk.injEq] at a2;have ih:=Zug hT hll are d (j+1) (by omega)
  rw[hd,Zo8 _ _ _ (by
   intro e;have:=congrArg List.length e;rw[Py,List.length_drop] at this;simp at this
   omega),ih]
  have hat:atW s x.1 a (j+1)=Zci (rmV s (atW s x.1 a j)) x.1:=rfl;rw[hat]
  conv=>rhs;unfold Zrk
  rw[P5]
  congr 1
  unfold Zt8;rw[a2.2,a1];simp;omega
theorem Z4x {x:It}(hx:InI x) (hmx:Zbp x=true){s:Rm}{a:Int}{P:Nat->Nat}{N:List Int}(ht:Yo s a=true) (ha:a∈N) (hr:x.2.1=0\/(0<x.2.1/\s.2.1[x.2.1.toNat]?.getD 0≠0))
  (hE:Enf s.1 s.2.1 (fun i=>P i+Zaf x i) N) {l:List Sv} (hl:Z5e s x.1 a l) :
  Xl s l x=(if (Zm x (rmV s a).1.toNat s a).1=0 then
   (if (Vg (Zm x (rmV s a).1.toNat s a).2.1 (rmV s a).1 (Zm x (rmV s a).1.toNat s a).2.2).1=0 then
    (0,(Vg (Zm x (rmV s a).1.toNat s a).2.1 (rmV s a).1 (Zm x (rmV s a).1.toNat s a).2.2).2.1,Zch (Vg (Zm x (rmV s a).1.toNat s a).2.1 (rmV s a).1 (Zm x (rmV s a).1.toNat s a).2.2).2.2)
    else ((Vg (Zm x (rmV s a).1.toNat s a).2.1 (rmV s a).1 (Zm x (rmV s a).1.toNat s a).2.2).1,Zj,0))
   else ((Zm x (rmV s a).1.toNat s a).1,Zj,0)):=by{
 obtain⟨r1,ra,_,l0,l6,_⟩:=Xf ht;have hg:=Ztp hx hmx (by omega) (Zfe ht) ha hr hE hl.1 hl.2 (rmV s a).1.toNat 0 (by omega);rw[Q4] at hg;have ell:((l.length:Nat):Int)=(rmV s a).1+1:=by rw[hl.1];omega
 unfold Xl;rw[hg,ell];show (if (Zm x (rmV s a).1.toNat s a).1=0 then _ else _)=_;by_cases h0:(Zm x (rmV s a).1.toNat s a).1=0
 ·rw[if_pos h0,if_pos h0]
  show (if 1<(Zm x (rmV s a).1.toNat s a).2.2.length then _ else (0,(Zm x (rmV s a).1.toNat s a).2.1,Zch (Zm x (rmV s a).1.toNat s a).2.2))=_;show (if 1<(Zm x (rmV s a).1.toNat s a).2.2.length then (if (Uj (Zm x (rmV s a).1.toNat s a).2.1 ((rmV s a).1+1) (Zm x (rmV s a).1.toNat s a).2.2 (Zm x (rmV s a).1.toNat s a).2.2).1=0 then (0,(Uj (Zm x (rmV s a).1.toNat s a).2.1 ((rmV s a).1+1) (Zm x (rmV s a).1.toNat s a).2.2 (Zm x (rmV s a).1.toNat s a).2.2).2.1,Zch (Uj (Zm x (rmV s a).1.toNat s a).2.1 ((rmV s a).1+1) (Zm x (rmV s a).1.toNat s a).2.2 (Zm x (rmV s a).1.toNat s a).2.2).2.2) else ((Uj (Zm x (rmV s a).1.toNat s a).2.1 ((rmV s a).1+1) (Zm x (rmV s a).1.toNat s a).2.2 (Zm x (rmV s a).1.toNat s a).2.2).1,Zj,0)) else (0,(Zm x (rmV s a).1.toNat s a).2.1,Zch (Zm x (rmV s a).1.toNat s a).2.2))=_;generalize hgg:Zm x (rmV s a).1.toNat s a=g at h0;obtain⟨z,u1,up⟩:=g;obtain rfl:z=0:=h0;obtain⟨N1,G⟩:=Zf4 hx hr hE _ (by omega) (Zfe ht) (fun he=>by cases he) ha hgg;unfold Vg;by_cases h1:1<up.length
  ·rw[if_pos h1,if_pos h1]
   unfold Uj;by_cases hb:(Zq u1 ((rmV s a).1+1) up).1=0
   ·rw[if_pos hb,if_pos hb]
    generalize hbb:Zq u1 ((rmV s a).1+1) up=b at hb;obtain⟨z,u0,top⟩:=b;obtain rfl:z=0:=hb;have hin:InN ((rmV s a).1+1,up):=⟨⟨by show (-9223372036854775808:Int)<=(rmV s a).1+1;omega,by show (rmV s a).1+1<=9223372036854775807;omega⟩,G.inI⟩
    obtain⟨N2,e1,k2,e3,e4,e5,e6,_,_⟩:=Zac hbb hin G.enf fun _ q hq=>by
     obtain⟨f1,f2,_,f4⟩:=G.ups q hq;exact⟨f1,by omega,by omega⟩
    have hlo:=Zsd up (s:=u0) (P:=fun i=>P i+Xj top i) (N:=N2) k2.may (e1.same fun i=>by show P i+Xj top i+Xj up i=P i+Xj up i+Xj top i;omega) fun p hp=>by
     obtain⟨_,f2,f3,_⟩:=G.ups p hp;obtain⟨n,hn,hpn⟩:=e6 p hp;exact⟨⟨f2,f3⟩,n,hn,p,hpn,rfl⟩
    rw[hlo];rfl
   ·rw[if_neg hb,if_neg hb,if_neg hb]
    first | done | exact(if_neg hb).symm
  ·rw[if_neg h1,if_neg h1]
   rfl
 ·rw[if_neg h0,if_neg h0]
  rfl}
theorem Zsh {x:It}(hx:InI x){s:Rm}{a:Int}{P:Nat->Nat}{N:List Int}(ht:Yo s a=true) (ha:a∈N) (hr:x.2.1=0\/(0<x.2.1/\s.2.1[x.2.1.toNat]?.getD 0≠0)) (hE:Enf s.1 s.2.1 (fun i=>P i+Zaf x i) N):∀ {G:Int×Rm×Int},
  G=(if (Zm x (rmV s a).1.toNat s a).1=0 then
   (if (Vg (Zm x (rmV s a).1.toNat s a).2.1 (rmV s a).1 (Zm x (rmV s a).1.toNat s a).2.2).1=0 then
    (0,(Vg (Zm x (rmV s a).1.toNat s a).2.1 (rmV s a).1 (Zm x (rmV s a).1.toNat s a).2.2).2.1,Zch (Vg (Zm x (rmV s a).1.toNat s a).2.1 (rmV s a).1 (Zm x (rmV s a).1.toNat s a).2.2).2.2)
    else ((Vg (Zm x (rmV s a).1.toNat s a).2.1 (rmV s a).1 (Zm x (rmV s a).1.toNat s a).2.2).1,Zj,0))
   else ((Zm x (rmV s a).1.toNat s a).1,Zj,0)) ->
  (if G.1≠0 then (G.1,Zj,0) else if lvE G.2.1 a≠0 then (lvE G.2.1 a,Zj,0) else (0,lvV G.2.1 a,G.2.2)) =
  (if (Zm x (rmV s a).1.toNat s a).1=0 then
  if (Vg (Zm x (rmV s a).1.toNat s a).2.1 (rmV s a).1 (Zm x (rmV s a).1.toNat s a).2.2).1=0 then
   match lfO (Vg (Zm x (rmV s a).1.toNat s a).2.1 (rmV s a).1 (Zm x (rmV s a).1.toNat s a).2.2).2.1.1 (Vg (Zm x (rmV s a).1.toNat s a).2.1 (rmV s a).1 (Zm x (rmV s a).1.toNat s a).2.2).2.1.2.1 a.toNat with
   | none=>(8,Zj,0)
   | some v=>(0,((Vg (Zm x (rmV s a).1.toNat s a).2.1 (rmV s a).1 (Zm x (rmV s a).1.toNat s a).2.2).2.1.1,v,(Vg (Zm x (rmV s a).1.toNat s a).2.1 (rmV s a).1 (Zm x (rmV s a).1.toNat s a).2.2).2.1.2.2),Zch (Vg (Zm x (rmV s a).1.toNat s a).2.1 (rmV s a).1 (Zm x (rmV s a).1.toNat s a).2.2).2.2)
  else ((Vg (Zm x (rmV s a).1.toNat s a).2.1 (rmV s a).1 (Zm x (rmV s a).1.toNat s a).2.2).1,Zj,0)
 else ((Zm x (rmV s a).1.toNat s a).1,Zj,0)):=fun {G} hG=>by
 obtain⟨r1,ra,_,l0,l6,_⟩:=Xf ht;by_cases h0:(Zm x (rmV s a).1.toNat s a).1=0
 ·rw[if_pos h0] at hG ⊢
  generalize hgg:Zm x (rmV s a).1.toNat s a=g at h0 hG;obtain⟨z,u1,up⟩:=g;obtain rfl:z=0:=h0;obtain⟨N1,W⟩:=Zf4 hx hr hE _ (by omega) (Zfe ht) (fun he=>by cases he) ha hgg;by_cases h1:(Vg u1 (rmV s a).1 up).1=0
  ·rw[if_pos h1] at hG
   rw[if_pos h1];generalize hrr:Vg u1 (rmV s a).1 up=r at h1 hG;obtain⟨z,T,top⟩:=r;obtain rfl:z=0:=h1;have hlv:(rmV s a).1=(((rmV s a).1.toNat:Nat):Int):=by omega
   rw[hlv] at hrr;obtain⟨L,z,N2,en,k,_⟩:=Zzg (by omega) W hrr;have haT:=(Vr k ra).1;subst hG;show (if (0:Int)≠0 then _ else if lvE T a≠0 then (lvE T a,Zj,0) else (0,lvV T a,Zch top))=(match lfO T.1 T.2.1 a.toNat with | none=>(8,Zj,0) | some v=>(0,(T.1,v,T.2.2),Zch top));rw[if_neg (fun h=>h rfl)];unfold lvE lvV;rw[if_pos haT,if_pos haT];cases lfO T.1 T.2.1 a.toNat with
   | none=>rfl
   | some v=>rfl
  ·rw[if_neg h1] at hG
   rw[if_neg h1];subst hG;exact if_pos h1
 ·rw[if_neg h0] at hG ⊢
  subst hG;exact if_pos h0
theorem Zxf {x:It}(hx:InI x){s:Rm}{a:Int}{P:Nat->Nat}{N:List Int}(hck:ckE s a=0) (hci:Zil s x=0) (ha:a∈N) (hE:Enf s.1 s.2.1 (fun i=>P i+Zaf x i) N){l:List Sv}(hl:Z5e s x.1 a l):Zhd s a x l=Zhb s a x/\Yb6 s a x=Zhb s a x:=by{
 obtain⟨ht,hasE,_⟩:=Zam hck;obtain⟨r1,ra,_,l0,l6,_⟩:=Xf ht;have hmx:Zbp x=true:=by
  unfold Zil at hci;split at hci
  ·rename_i h;exact h
  ·cases hci
 have hnr:¬ (x.2.1≠0/\s.2.1[x.2.1.toNat]?.getD 0=0):=fun h=>by
  unfold Zil at hci;rw[if_pos hmx,if_pos h] at hci;cases hci
 have hr:x.2.1=0\/(0<x.2.1/\s.2.1[x.2.1.toNat]?.getD 0≠0):=by
  by_cases h0:x.2.1=0
  ·exact .inl h0
  ·have:=(Zaj hmx).1
   exact .inr ⟨by omega,fun h=>hnr ⟨h0,h⟩⟩
 refine⟨?_,by unfold Yb6;rw[if_pos hck,if_pos hmx,if_neg hnr]⟩;have hp:=Zug (x:=x) (Zbt ht) hl.1 hl.2 (rmV s a).1.toNat 0 (by omega);rw[Q4] at hp;have hp':Zdt l.reverse 1=Zrk s (rmV s a).1.toNat a x.1:=hp;unfold Zhd Zhb;rw[if_neg (fun h=>h hck),if_neg (fun h=>h hci),hp',Z4x hx hmx ht ha hr hE hl];unfold Zqv;by_cases h5:(rmV s a).1=5
 ·have e5:(rmV s a).1.toNat=5:=by omega
  by_cases hT:Zrk s 5 a x.1=true
  ·rw[if_pos ⟨h5,by rw[e5];exact hT⟩,if_pos (by rw[h5,hT];rfl)]
  ·refine(if_neg (fun h=>hT (by rw[<- e5];exact h.2))).trans (Eq.trans ?_ (if_neg (fun h=>hT (by simpa [h5] using h))).symm)
   exact Zsh hx ht ha hr hE rfl
 ·refine(if_neg (fun h=>h5 h.1)).trans (Eq.trans ?_ (if_neg (fun h=>h5 (by simp at h;exact h.1))).symm)
  exact Zsh hx ht ha hr hE rfl}
def Zh3 (x:Int):Ky:=(2,0,x)
theorem Zja:∀ (l:List It) (t:List UInt8),(∀ y∈l,y.2.1=0)->ctE t l=0/\ctV t l=t
 | [],_,_=>⟨rfl,rfl⟩
 | x::l,t,h=>by
  obtain⟨h1,h2⟩:=Zja l t fun y hy=>h y (Qo _ hy);have h0:=h x Qe;exact⟨by rw[ctE,if_pos h0];exact h1,by rw[ctV,if_pos h0];exact h2⟩
theorem Zcn {s:Rm}{n:Nd}(hm:Xm s=true) (hn:mayN n=true) (hc:ctE s.2.1 n.2=0){k:Nat}(hf:(Xz s)[0]? = some k) (hw:s.1.2.length<4096):mkE s n=0/\mkN s n=k/\mkV s n=(wrD s.1 k (Va n),(ctV s.2.1 n.2).set k 1,s.2.2)/\Xm (mkV s n)=true/\k<256:=by{
 have hfs:=Z29 hm hn hc;have hms:=Z8c hm hn hc;have hT:tkE (ctS s n) (Va n)=0:=Z58 hms (Zex hn) (fun e=>by rw[hfs] at e;rw[e] at hf;cases hf) hw;have hK:tkK (ctS s n)=k:=by rw[tkK,hfs,hf];rfl
 obtain⟨_,_,_,_,_,_,_,_,hN,_⟩:=Z0c hT;rcases Z0q hm hn with ⟨hc',_⟩ | ⟨_,e,e2,_⟩
 ·exact absurd hc hc'
 have hE:=e.trans hT;have hNk:mkN s n=k:=by rw[e2,hN,hK]
 obtain⟨k',e1,_,h256,_,_,_,hV,hmT,_⟩:=X5 hE;have hk:k'=k:=by omega
 subst hk;exact⟨hE,hNk,hV,hmT,h256⟩}
theorem Zgb (d:Dk) (T Z:List UInt8):Xz (d,T,Z)=Xz (Zbg,T,Z):=by
 unfold Xz Zbw U5;rfl
structure Lf (s:Rm) (a:Nat) (L:List It) (m:Nat):Prop where
 may:Xm s=true
 now:s.2.1=(Zv 256).set a 1
 last:s.2.2=Zv 256
 seen:Z1 s.1 a=Va (0,L)
 mayN:mayN (0,L)=true
 inN:InN (0,L)
 at_:a=8\/a=9
 few:s.1.2.length<=m
 refs:∀ y∈L,y.2.1=0
theorem Lf.cnt {s:Rm}{a:Nat}{L:List It}{m:Nat}(h:Lf s a L m):s.2.1[a]?.getD 0=1:=by
 rw[h.now];rcases h.at_ with rfl | rfl <;> decide +kernel
theorem Lf.as {s:Rm}{a:Nat}{L:List It}{m:Nat}(h:Lf s a L m):asE s (a:Int)=0 :=
 Zcf h.may (by rcases h.at_ with rfl | rfl <;> decide) (by rcases h.at_ with rfl | rfl <;> decide) (by rw[h.cnt];decide)
theorem Lf.rm {s:Rm}{a:Nat}{L:List It}{m:Nat}(h:Lf s a L m):rmE s (a:Int)=0/\rmV s (a:Int)=(0,L):=Zj5 h.as h.seen h.mayN h.inN
theorem Lf.tree {s:Rm}{a:Nat}{L:List It}{m:Nat}(h:Lf s a L m):Yo s (a:Int)=true/\Vo s (a:Int)=L/\ckE s (a:Int)=0/\ckH s (a:Int)=1:=by
 obtain⟨r1,r2⟩:=h.rm;have ht:Yo s (a:Int)=true:=by
  unfold Yo;rw[r1,r2];show (true&&Yr s L)=true;unfold Yr;rw[Bool.true_and,Q6];intro y hy;simp[h.refs y hy]
 refine⟨ht,?_,(Zjc h.as ht).1,by rw[(Zjc h.as ht).2,r2];rfl⟩;unfold Vo;rw[r2];show X2 s 0 a=L;unfold X2;rw[r2]
theorem Zp0:∀ (l:List It) (k:Nat),(∀ y∈l,y.2.1=0)->Xj l k=0
 | [],_,_=>rfl
 | x::l,k,h=>by
  show (if x.2.1=(k:Int) then (if x.2.1=0 then 0 else 1) else 0)+Xj l k=0;rw[Zp0 l k fun y hy=>h y (Qo _ hy),if_pos (h x Qe)];split <;> rfl
theorem Lf.enf {s:Rm}{a:Nat}{L:List It}{m:Nat}(h:Lf s a L m):Enf s.1 s.2.1 (fun i=>if i=a then 1 else 0) [(a:Int)]:=by{
 obtain⟨r1,r2⟩:=h.rm;have hnd:ndD s.1 (a:Int)=(0,L):=(Zab r1).trans r2;obtain⟨q1,_⟩:=Zb6 h.mayN h.inN;have ha:a=8\/a=9:=h.at_;refine⟨by simp,fun n hn=> ?_,fun n hn h0=> ?_,fun n hn=> ?_,fun k=> ?_⟩
 ·rw[Qg.1 hn]
  refine⟨by omega,by omega,?_,?_⟩
  ·rw[show ((a:Int)).toNat=a by omega,h.seen,q1]
  ·rw[show ((a:Int)).toNat=a by omega,V4,h.cnt]
   decide
 ·rw[Qg.1 hn,hnd] at h0
  exact absurd rfl h0
 ·rw[Qg.1 hn,hnd]
  exact fun y hy=>.inl (h.refs y hy)
 ·show (if k=a then 1 else 0)+(Xj (ndD s.1 (a:Int)).2 k+0)<=_
  rw[hnd,Zp0 L k h.refs];by_cases e:k=a
  ·subst e
   unfold Yy;rw[if_pos rfl,h.cnt]
   decide
  ·rw[if_neg e]
   omega}
theorem Zt6 {d:Dk}{t:List UInt8}{a:Nat}{L:List It}(hs:Z1 d a=Va (0,L)) (hn:mayN (0,L)=true) (hi:InN (0,L)) (h1:t[a]?.getD 0=1) (hr:∀ y∈L,y.2.1=0):lfO d t a=some (t.set a 0):=by{
 have he:∀ (f:List UInt8->Nat->Option (List UInt8)) (l:List It) (t:List UInt8),(∀ y∈l,y.2.1=0)->Vm f t l=some t:=fun f l=>by
  induction l with
  | nil=>intro t _;rfl
  | cons x l ih =>
   intro t h;rw[Vm,if_pos (h x Qe)];exact ih t fun y hy=>h y (Qo _ hy)
 obtain⟨r1,r2⟩:=Zb6 hn hi;unfold lfO;rw[Zdl (by rw[h1];decide),h1,hs,r1,r2];show (if 1<(1:UInt8).toNat then some (t.set a (1-1)) else if (0:Int)=0 then Vm (lvF d 0) (t.set a (1-1)) L else none)=_;rw[if_neg (by decide),if_pos rfl,he _ _ _ hr];rfl}
theorem Lf.put {s:Rm}{a:Nat}{L:List It}{m:Nat}(h:Lf s a L m) (hm:m<100){x:It}(hx:InI x) (hx0:x.2.1=0) (hn:Go.Proofs.YtgmbjnajdfgenaaGreat.mayN (0,Vu L x)=true):∃ s',Zhb s (a:Int) x=(0,s',((17-a:Nat):Int))/\Lf s' (17-a) (Vu L x) (m+1):=by{
 obtain⟨r1,r2⟩:=h.rm;have ha:a=8\/a=9:=h.at_;have hl5:(Vu L x).length<=5:=(Zx hn).1.2.2.1;have hrf:∀ y∈Vu L x,y.2.1=0:=fun y hy=>by
  rcases Zct.1 hy with rfl | ⟨hy,_⟩
  ·exact hx0
  ·exact h.refs y hy
 have hin:InN ((0:Int),Vu L x):=⟨⟨by simp,by simp⟩,fun y hy=>by
  rcases Zct.1 hy with rfl | ⟨hy,_⟩
  ·exact hx
  ·exact h.inN.it y hy⟩
 obtain⟨c1,c2⟩:=Zja (Vu L x) s.2.1 hrf;have hfr:(Xz s)[0]? = some (17-a):=by
  have e:s=(s.1,(Zv 256).set a 1,Zv 256):=by rw[<- h.now,<- h.last]
  rw[e,Zgb];rcases ha with rfl | rfl <;> decide +kernel
 obtain⟨m1,m2,m3,m4,_⟩:=Zcn h.may hn c1 hfr (by have:=h.few;omega);have hb:Zq s 0 (Vu L x)=(0,mkV s (0,Vu L x),[upI (Vu L x) ((17-a:Nat):Int)]):=by
  unfold Zq;rw[if_pos hl5,if_pos m1,m2]
 have eL:Zbb (rmV s (a:Int)).2 (Z2 (rmV s (a:Int)) x.1) (if Yl (rmV s (a:Int)) x.1=true then 1 else 0) [x]=Vu (rmV s (a:Int)).2 x:=Zhx (by rw[r2];exact h.mayN) x;have hg:Zm x 0 s (a:Int)=(0,mkV s (0,Vu L x),[upI (Vu L x) ((17-a:Nat):Int)]):=by
  unfold Zm;rw[eL,r2,hb,if_pos rfl,if_pos hx0]
 have hne:a≠17-a:=by omega
 have hlf:lfO (mkV s (0,Vu L x)).1 (mkV s (0,Vu L x)).2.1 a=some ((mkV s (0,Vu L x)).2.1.set a 0):=by
  refine Zt6 (L:=L) ?_ h.mayN h.inN ?_ h.refs
  ·rw[m3]
   exact(Z4 hne).trans h.seen
  ·rw[m3]
   show (List.set (ctV s.2.1 (Vu L x)) (17-a) 1)[a]?.getD 0=1;rw[c2,h.now];rcases ha with rfl | rfl <;> decide +kernel
 have hT:(mkV s (0,Vu L x)).2.1.set a 0=(Zv 256).set (17-a) 1:=by
  rw[m3];show (List.set (ctV s.2.1 (Vu L x)) (17-a) 1).set a 0=_;rw[c2,h.now];rcases ha with rfl | rfl <;> decide +kernel
 have hZ:(mkV s (0,Vu L x)).2.2=Zv 256:=by rw[m3];exact h.last
 refine⟨((mkV s (0,Vu L x)).1,(Zv 256).set (17-a) 1,Zv 256),?_,⟨?_,rfl,rfl,?_,hn,hin,by omega,?_,hrf⟩⟩
 ·unfold Zhb
  have ht:Zqv s (a:Int) x.1=false:=by unfold Zqv;rw[r2];rfl
  have e0:(rmV s (a:Int)).1.toNat=0:=by rw[r2];rfl
  have hro:Vg (mkV s (0,Vu L x)) (rmV s (a:Int)).1 [upI (Vu L x) ((17-a:Nat):Int)]=(0,mkV s (0,Vu L x),[upI (Vu L x) ((17-a:Nat):Int)]):=by
   unfold Vg;rw[if_neg (by simp)]
  rw[ht,e0,hg,if_neg (by decide),if_pos rfl];show (if (Vg (mkV s (0,Vu L x)) (rmV s (a:Int)).1 [upI (Vu L x) ((17-a:Nat):Int)]).1=0 then _ else _)=_;rw[hro,if_pos rfl]
  dsimp only
  rw[show ((a:Int)).toNat=a by omega,hlf]
  dsimp only
  rw[hT,hZ];rfl
 ·exact Zag (Ye m4).1 (show Zbj ((Zv 256).set (17-a) 1)=true by rcases ha with rfl | rfl <;> decide +kernel) Zca
 ·show Z1 (mkV s (0,Vu L x)).1 (17-a)=_
  rw[m3];exact Xr
 ·show (mkV s (0,Vu L x)).1.2.length<=m+1
  rw[m3];show (wrD s.1 (17-a) (Va (0,Vu L x))).2.length<=m+1;rw[Zbv];have:=h.few;omega}
def kx (n:Nat):It:=(Zh3 n,0,[])
def Ls:Nat->List It
 | 0=>[]
 | n+1=>Ls n++[kx (n+1)]
theorem Ztu:∀ n:Nat,n<=5->Vu (Ls n) (kx (n+1))=Ls (n+1)
 | 0,_ | 1,_ | 2,_ | 3,_ | 4,_ | 5,_=>by decide +kernel
 | n+6,h=>absurd h (by omega)
theorem Z5l:∀ n:Nat,n<=5->mayN (0,Ls n)=true
 | 0,_ | 1,_ | 2,_ | 3,_ | 4,_ | 5,_=>by decide +kernel
 | n+6,h=>absurd h (by omega)
theorem Zh4 (n:Nat) (hn:n<=6):∀ x∈Ls n,InI x/\x.2.1=0:=by{
 induction n with
 | zero=>intro x hx;cases hx
 | succ n ih =>
  intro x hx;rcases Qf.1 hx with hx | hx
  ·exact ih (by omega) x hx
  ·rw[Qg.1 hx]
   exact⟨⟨⟨⟨by show (0:Int)<=0;omega,by show (0:Int)<4294967296;omega⟩,by show (0:Int)<=((n+1:Nat):Int);omega,by show ((n+1:Nat):Int)<4294967296;omega⟩,by show (-9223372036854775808:Int)<=0;omega,by show (0:Int)<=9223372036854775807;omega⟩,rfl⟩}
def gS:Nat->Rm×Int
 | 0=>(mkV Zkf V8,8)
 | n+1=>((Zhb (gS n).1 (gS n).2 (kx (n+1))).2.1,(Zhb (gS n).1 (gS n).2 (kx (n+1))).2.2)
def gA (n:Nat):Nat:=if n % 2=0 then 8 else 9
theorem Z51:mkE Zkf V8=0/\mkN Zkf V8=8/\Lf (mkV Zkf V8) 8 [] 1:=by{
 have hn:mayN V8=true:=by decide +kernel
 obtain⟨m1,m2,m3,m4,_⟩:=Zcn Z70 hn (by generalize Zkf.2.1=z;rfl) (k:=8) (by rw[Z15.2];rfl) (by rw[Zkf,Zo1];omega);refine⟨m1,m2,m4,?_,?_,?_,hn,⟨⟨by decide,by decide⟩,fun x hx=>by cases hx⟩,.inl rfl,?_,fun y hy=>by cases hy⟩
 ·rw[m3]
  have e:ctV Zkf.2.1 V8.2=Zv 256:=by
   have e0:Zkf.2.1=Zv 256:=rfl;rw[e0];generalize Zv 256=z;rfl
  show (ctV Zkf.2.1 V8.2).set 8 1=_;rw[e]
 ·rw[m3]
  unfold Zkf;rfl
 ·rw[m3];exact Xr
 ·rw[m3]
  show (wrD Zkf.1 8 (Va V8)).2.length<=1;rw[Zbv];exact Qd _}
theorem Zxp:∀ n,n<=5->Lf (gS n).1 (gA n) (Ls n) (n+1)/\(gS n).2=(gA n:Int)
 | 0,_=>by
  have e0:gS 0=(mkV Zkf V8,8):=by rw[gS]
  have e1:gA 0=8:=rfl;have e2:Ls 0=[]:=rfl;rw[e0,e1,e2]
  dsimp only
  refine⟨?_,by decide⟩;rw[Nat.zero_add];exact Z51.2.2
 | n+1,h=>by
  obtain⟨h1,h2⟩:=Zxp n (by omega);obtain⟨hi,hz⟩:=Zh4 (n+1) (by omega) (kx (n+1)) (Ql _ (Qg.2 rfl));obtain⟨s',e,h3⟩:=h1.put (by omega) hi hz (by rw[Ztu n (by omega)];exact Z5l (n+1) h);rw[Ztu n (by omega)] at h3;have ea:17-gA n=gA (n+1):=by
   unfold gA;by_cases he:n % 2=0
   ·rw[if_pos he,if_neg (by omega)]
   ·rw[if_neg he,if_pos (by omega)]
  rw[ea] at h3 e;have e1:gS (n+1)=(s',(gA (n+1):Int)):=by
   show ((Zhb (gS n).1 (gS n).2 (kx (n+1))).2.1,(Zhb (gS n).1 (gS n).2 (kx (n+1))).2.2)=_;rw[h2,e]
  rw[e1];exact⟨h3,rfl⟩
theorem Z9n (n:Nat) (h:n<5):Zhb (gS n).1 (gS n).2 (kx (n+1))=(0,(gS (n+1)).1,(gS (n+1)).2):=by
 obtain⟨h1,h2⟩:=Zxp n (by omega);obtain⟨hi,hz⟩:=Zh4 (n+1) (by omega) (kx (n+1)) (Ql _ (Qg.2 rfl));obtain⟨s',e,_⟩:=h1.put (by omega) hi hz (by rw[Ztu n (by omega)];exact Z5l (n+1) (by omega));show _=(0,(Zhb (gS n).1 (gS n).2 (kx (n+1))).2.1,(Zhb (gS n).1 (gS n).2 (kx (n+1))).2.2);rw[h2,e]
theorem Zq6 (n:Nat):gS (n+1)=((Zhb (gS n).1 (gS n).2 (kx (n+1))).2.1,(Zhb (gS n).1 (gS n).2 (kx (n+1))).2.2):=by rw[gS]
attribute [irreducible] gS
def upS:List It:=[(Zh3 1,8,[]),(Zh3 4,10,[])]
def Zni:List UInt8:=(((((((((Zv 256).set 9 1).set 8 1).set 10 1).set 8 2).set 10 2).set 11 1).set 8 1).set 10 1).set 9 0
theorem Zmd:∃ T,Zhb (gS 5).1 (gS 5).2 (kx 6)=(0,T,11)/\Xm T=true/\rmE T 11=0/\rmV T 11=(1,upS)/\rmE T 8=0/\rmV T 8=(0,(Ls 6).take 3)/\rmE T 10=0/\rmV T 10=(0,(Ls 6).drop 3)/\T.2.1=Zni/\T.2.2=Zv 256/\T.1.2.length<100:=by{
 obtain⟨h,h2⟩:=Zxp 5 (by omega);rw[h2];generalize (gS 5).1=s at h;obtain⟨r1,r2⟩:=h.rm;have e9:gA 5=9:=rfl;rw[e9] at h r1 r2 ⊢;have e9i:((9:Nat):Int)=9:=rfl;rw[e9i] at r1 r2 ⊢;have hrf:∀ y∈Ls 6,y.2.1=0:=fun y hy=>(Zh4 6 (by omega) y hy).2
 have hin3:InN ((0:Int),(Ls 6).take 3):=⟨⟨by simp,by simp⟩,fun y hy=>(Zh4 6 (by omega) y (Qn hy)).1⟩
 have hin4:InN ((0:Int),(Ls 6).drop 3):=⟨⟨by simp,by simp⟩,fun y hy=>(Zh4 6 (by omega) y (Qr hy)).1⟩
 have hn3:mayN (0,(Ls 6).take 3)=true:=by decide +kernel
 have hn4:mayN (0,(Ls 6).drop 3)=true:=by decide +kernel
 have hnu:mayN (1,upS)=true:=by decide +kernel
 have hinu:InN ((1:Int),upS):=⟨⟨by simp,by simp⟩,fun y hy=>by
  simp only[upS,Qu,List.not_mem_nil,or_false] at hy
  rcases hy with rfl | rfl <;> exact⟨⟨⟨by decide,by decide⟩,by decide,by decide⟩,by decide,by decide⟩⟩
 obtain⟨a1,a2⟩:=Zja ((Ls 6).take 3) s.2.1 fun y hy=>hrf y (Qn hy)
 have hs:s=(s.1,(Zv 256).set 9 1,Zv 256):=by rw[<- h.now,<- h.last]
 obtain⟨m1,m2,m3,m4,_⟩:=Zcn h.may hn3 a1 (k:=8) (by rw[hs,Zgb];decide +kernel) (by have:=h.few;omega);obtain⟨U,hU⟩:∃ U,mkV s (0,(Ls 6).take 3)=U:=⟨_,rfl⟩
 rw[hU] at m3 m4;have hU2:U=(wrD s.1 8 (Va (0,(Ls 6).take 3)),((Zv 256).set 9 1).set 8 1,Zv 256):=by
  rw[m3];show (_,(ctV s.2.1 ((Ls 6).take 3)).set 8 1,s.2.2)=_;rw[a2,h.now,h.last]
 obtain⟨b1,b2⟩:=Zja ((Ls 6).drop 3) U.2.1 fun y hy=>hrf y (Qr hy)
 obtain⟨n1,n2,n3,n4,_⟩:=Zcn m4 hn4 b1 (k:=10) (by rw[hU2,Zgb];decide +kernel) (by rw[hU2];show (wrD s.1 8 _).2.length<4096;rw[Zbv];have:=h.few;omega);obtain⟨V,hV⟩:∃ V,mkV U (0,(Ls 6).drop 3)=V:=⟨_,rfl⟩
 rw[hV] at n3 n4;have hV2:V=(wrD (wrD s.1 8 (Va (0,(Ls 6).take 3))) 10 (Va (0,(Ls 6).drop 3)),(((Zv 256).set 9 1).set 8 1).set 10 1,Zv 256):=by
  rw[n3];show (_,(ctV U.2.1 ((Ls 6).drop 3)).set 10 1,U.2.2)=_;rw[b2,hU2]
 have hVn:V.2.1=(((Zv 256).set 9 1).set 8 1).set 10 1:=by rw[hV2]
 have c1:ctE V.2.1 upS=0:=by rw[hVn];decide +kernel
 obtain⟨o1,o2,o3,o4,_⟩:=Zcn n4 hnu c1 (k:=11) (by rw[hV2,Zgb];decide +kernel) (by rw[hV2];show (wrD (wrD s.1 8 _) 10 _).2.length<4096;rw[Zbv,Zbv];have:=h.few;omega);obtain⟨W,hW⟩:∃ W,mkV V (1,upS)=W:=⟨_,rfl⟩
 rw[hW] at o3 o4;have hW2:W=(wrD (wrD (wrD s.1 8 (Va (0,(Ls 6).take 3))) 10 (Va (0,(Ls 6).drop 3))) 11 (Va (1,upS)),((((((Zv 256).set 9 1).set 8 1).set 10 1).set 8 2).set 10 2).set 11 1,Zv 256):=by
  rw[o3];show (_,(ctV V.2.1 upS).set 11 1,V.2.2)=_;rw[hV2];have:ctV ((((Zv 256).set 9 1).set 8 1).set 10 1) upS=(((((Zv 256).set 9 1).set 8 1).set 10 1).set 8 2).set 10 2:=by decide +kernel
  show (_,(ctV ((((Zv 256).set 9 1).set 8 1).set 10 1) upS).set 11 1,_)=_;rw[this]
 have hb:Zq s 0 (Ls 6)=(0,V,upS):=by
  unfold Zq;rw[if_neg (by decide),if_pos m1,hU,if_pos n1,hV,m2,n2];rfl
 have hb2:Zq V ((0:Int)+1) upS=(0,W,[upI upS 11]):=by
  unfold Zq;rw[if_pos (by decide)];show (if mkE V (1,upS)=0 then (0,mkV V (1,upS),[upI upS (mkN V (1,upS))]) else (mkE V (1,upS),Zj,[]))=_;rw[if_pos o1,hW,o2];rfl
 have eL:Zbb (rmV s 9).2 (Z2 (rmV s 9) (kx 6).1) (if Yl (rmV s 9) (kx 6).1=true then 1 else 0) [kx 6]=Vu (rmV s 9).2 (kx 6):=Zhx (by
  have:=h.mayN;rw[show rmV s 9=(0,Ls 5) from r2]
  exact this) _
 have hg:Zm (kx 6) 0 s 9=(0,V,upS):=by
  unfold Zm;rw[eL,show rmV s 9=(0,Ls 5) from r2];show (if (Zq s 0 (Vu (Ls 5) (kx 6))).1=0 then (0,(if (kx 6).2.1=0 then (Zq s 0 (Vu (Ls 5) (kx 6))).2.1 else Vw (Zq s 0 (Vu (Ls 5) (kx 6))).2.1 (kx 6).2.1),(Zq s 0 (Vu (Ls 5) (kx 6))).2.2) else ((Zq s 0 (Vu (Ls 5) (kx 6))).1,Zj,[]))=_;rw[Ztu 5 (by omega),hb,if_pos rfl,if_pos (show (kx 6).2.1=0 from rfl)]
 obtain⟨F,hF⟩:∃ F,Znk W upS=F:=⟨_,rfl⟩
 have hF2:F=(wrD (wrD (wrD s.1 8 (Va (0,(Ls 6).take 3))) 10 (Va (0,(Ls 6).drop 3))) 11 (Va (1,upS)),(((((((Zv 256).set 9 1).set 8 1).set 10 1).set 8 2).set 10 2).set 11 1 |>.set 8 1).set 10 1,Zv 256):=by
  rw[<- hF,hW2];have e:Znk (wrD (wrD (wrD s.1 8 (Va (0,(Ls 6).take 3))) 10 (Va (0,(Ls 6).drop 3))) 11 (Va (1,upS)),((((((Zv 256).set 9 1).set 8 1).set 10 1).set 8 2).set 10 2).set 11 1,Zv 256) upS=(wrD (wrD (wrD s.1 8 (Va (0,(Ls 6).take 3))) 10 (Va (0,(Ls 6).drop 3))) 11 (Va (1,upS)),(Znk (Zbg,((((((Zv 256).set 9 1).set 8 1).set 10 1).set 8 2).set 10 2).set 11 1,Zv 256) upS).2.1,Zv 256):=rfl;rw[e];have:(Znk (Zbg,((((((Zv 256).set 9 1).set 8 1).set 10 1).set 8 2).set 10 2).set 11 1,Zv 256) upS).2.1=(((((((Zv 256).set 9 1).set 8 1).set 10 1).set 8 2).set 10 2).set 11 1 |>.set 8 1).set 10 1:=by decide +kernel
  rw[this]
 have hFn:F.2.1=((((((((Zv 256).set 9 1).set 8 1).set 10 1).set 8 2).set 10 2).set 11 1).set 8 1).set 10 1:=by rw[hF2]
 have hFz:F.2.2=Zv 256:=by rw[hF2]
 have hro:Vg V 0 upS=(0,F,[upI upS 11]):=by
  unfold Vg;rw[if_pos (by decide),hb2,if_pos rfl];show (0,Znk W upS,_)=_;rw[hF]
 have hlf:lfO F.1 F.2.1 9=some (F.2.1.set 9 0):=by
  refine Zt6 (L:=Ls 5) ?_ h.mayN h.inN ?_ h.refs
  ·rw[hF2]
   show Z1 (wrD (wrD (wrD s.1 8 _) 10 _) 11 _) 9=_;rw[Z4 (by decide),Z4 (by decide),Z4 (by decide)];exact h.seen
  ·rw[hFn]
   decide +kernel
 have hm:Xm (F.1,F.2.1.set 9 0,F.2.2)=true:=Zag (by rw[hF2,show (wrD (wrD (wrD s.1 8 (Va (0,(Ls 6).take 3))) 10 (Va (0,(Ls 6).drop 3))) 11 (Va (1,upS)))=W.1 by rw[hW2]];exact(Ye o4).1) (show Zbj (F.2.1.set 9 0)=true by rw[hFn];decide +kernel) (show Zbj F.2.2=true by rw[hFz];exact Zca);have hseen:∀ k n,Z1 F.1 k=Va n->mayN n=true->InN n->8<=k->k<256->(F.2.1.set 9 0)[k]?.getD 0≠0->rmE (F.1,F.2.1.set 9 0,F.2.2) (k:Int)=0/\rmV (F.1,F.2.1.set 9 0,F.2.2) (k:Int)=n:=fun k n h1 h2 h3 h8 h256 h4=>Zj5 (Zcf hm h8 h256 h4) h1 h2 h3
 have s11:Z1 F.1 11=Va (1,upS):=by rw[hF2];exact Xr
 have s10:Z1 F.1 10=Va (0,(Ls 6).drop 3):=by rw[hF2];show Z1 (wrD (wrD (wrD s.1 8 _) 10 _) 11 _) 10=_;rw[Z4 (by decide)];exact Xr
 have s8:Z1 F.1 8=Va (0,(Ls 6).take 3):=by rw[hF2];show Z1 (wrD (wrD (wrD s.1 8 _) 10 _) 11 _) 8=_;rw[Z4 (by decide),Z4 (by decide)];exact Xr
 obtain⟨t1,t2⟩:=hseen 11 _ s11 hnu hinu (by omega) (by omega) (by rw[hFn];decide +kernel);obtain⟨t3,t4⟩:=hseen 10 _ s10 hn4 hin4 (by omega) (by omega) (by rw[hFn];decide +kernel);obtain⟨t5,t6⟩:=hseen 8 _ s8 hn3 hin3 (by omega) (by omega) (by rw[hFn];decide +kernel)
 refine⟨(F.1,F.2.1.set 9 0,F.2.2),?_,hm,t1,t2,t5,t6,t3,t4,by rw[hFn];rfl,hFz,by
  rw[hF2];show (wrD (wrD (wrD s.1 8 _) 10 _) 11 _).2.length<100;rw[Zbv,Zbv,Zbv];have:=h.few
  omega⟩
 unfold Zhb;have ht:Zqv s 9 (kx 6).1=false:=by unfold Zqv;rw[show rmV s 9=(0,Ls 5) from r2];rfl
 have e0:(rmV s 9).1=0:=by rw[show rmV s 9=(0,Ls 5) from r2]
 show (if Zqv s 9 (kx 6).1=true then _ else _)=_;rw[ht];show (if (Zm (kx 6) (rmV s 9).1.toNat s 9).1=0 then _ else _)=_;rw[e0,show ((0:Int)).toNat=0 from rfl,hg,if_pos rfl]
 try dsimp only
 rw[hro,if_pos rfl]
 try dsimp only
 rw[show ((9:Int)).toNat=9 from rfl,hlf];rfl}
theorem Zsw {T:Rm}(r1:rmE T 11=0) (r2:rmV T 11=(1,upS)) (r3:rmE T 8=0) (r4:rmV T 8=(0,(Ls 6).take 3)) (r5:rmE T 10=0) (r6:rmV T 10=(0,(Ls 6).drop 3)):ckE T 11=0/\ckH T 11=2:=by{
 have h1:Yr T ((Ls 6).take 3)=true:=by
  unfold Yr;rw[Q6];intro y hy;simp[(Zh4 6 (by omega) y (Qn hy)).2]
 have h2:Yr T ((Ls 6).drop 3)=true:=by
  unfold Yr;rw[Q6];intro y hy;simp[(Zh4 6 (by omega) y (Qr hy)).2]
 have ht:Yo T 11=true:=by
  unfold Yo;rw[r1,r2];show (true&&(Zy T 0 8 (Zh3 1) (Zh3 4) true&&Zy T 0 10 (Zh3 4) Zbh false))=true;unfold Zy;rw[r3,r4,r5,r6,h1,h2]
  decide
 have ha:asE T 11=0:=(Z9 r1).2;exact⟨(Zjc ha ht).1,by rw[(Zjc ha ht).2,r2];rfl⟩}
theorem Zu3 (qa qb qc qd:Option Qah×Nat×Nat) (s:Rm) (w:Qaf) (h:Sto (Old w) w (.agg #[.slice qa.1 qa.2.1 qa.2.2,.slice qb.1 qb.2.1 qb.2.2,.slice qc.1 qc.2.1 qc.2.2,.slice qd.1 qd.2.1 qd.2.2]) s) :
  Qal Tryz.prog 23 #[.agg #[.slice qa.1 qa.2.1 qa.2.2,.slice qb.1 qb.2.1 qb.2.2,.slice qc.1 qc.2.1 qc.2.2,.slice qd.1 qd.2.1 qd.2.2]] w fun e W'=>∃ qa qb qc qd:Option Qah×Nat×Nat,e=.returned (.tuple #[.agg #[.slice qa.1 qa.2.1 qa.2.2,.slice qb.1 qb.2.1 qb.2.2,.slice qc.1 qc.2.1 qc.2.2,.slice qd.1 qd.2.1 qd.2.2],.int .i64 (mkN s V8),.int .i64 (mkE s V8)]) /\
   Sto (New w.heap.size W') W' (.agg #[.slice qa.1 qa.2.1 qa.2.2,.slice qb.1 qb.2.1 qb.2.2,.slice qc.1 qc.2.1 qc.2.2,.slice qd.1 qd.2.1 qd.2.2]) (mkV s V8)/\Qam w.heap.size w W':=by{
 obtain⟨w1,hw1,b1,hs1,hB1⟩:=X4 w (.slice qa.1 qa.2.1 qa.2.2) (.slice qb.1 qb.2.1 qb.2.2) (.slice qc.1 qc.2.1 qc.2.2) (.slice qd.1 qd.2.1 qd.2.2) 29;obtain⟨w2,hw2,b2,hs2,hB2⟩:=X4 w1 (.slice none 0 0) (.slice none 0 0) (.slice none 0 0) (.slice none 0 0) 29;have hB12:=hB1.trans (hB2.mono hB1.size);have B2:=Za hB12;have HM:=Za (Zgu (.agg #[.slice qa.1 qa.2.1 qa.2.2,.slice qb.1 qb.2.1 qb.2.2,.slice qc.1 qc.2.1 qc.2.2,.slice qd.1 qd.2.1 qd.2.2]) (.agg #[.int .i64 0,.slice none 0 0]) s V8 w2 (h.below hB12) (Zj8.zero w.heap.size w2).nod.drop);have SZ:=Za (show w1.heap.size=w.heap.size+1/\w2.heap.size=w.heap.size+2 from ⟨hs1,by omega⟩);have G2:=Za b2;obtain⟨k0,k1,k2,k3,_⟩:=Ze ((hB2.block w.heap.size (by omega)).trans b1);replace hs1:=Za hs1;replace hs2:=Za hs2;obtain⟨mn,hmn⟩:∃ q,mkN s V8=q:=⟨_,rfl⟩
 obtain⟨me,hme⟩:∃ q,mkE s V8=q:=⟨_,rfl⟩
 obtain⟨mv,hmv⟩:∃ q,mkV s V8=q:=⟨_,rfl⟩
 rw[hmn,hme,hmv] at HM ⊢;clear h hB1 hB2 hB12 b1 b2
 go_enter Tryz.func23,Tryz.ntmps23
 go_upto_region 1 with fail
 clear hw1 hw2
 go_wp2_with fail
 with_reducible refine(HM.out).mono ?_
 rintro e w3 ⟨ra,rb,rc,rd,rfl,hS3,hb3⟩;have hc3:=(hb3.block w1.heap.size (by have:=SZ.out;omega)).trans G2.out;obtain⟨u0,u1,u2,u3,uf,_⟩:=Ze hc3;obtain⟨W9,hW9,g9,gr9,gs9⟩:=Zu (a':=.slice ra.1 ra.2.1 ra.2.2) (b':=.slice rb.1 rb.2.1 rb.2.2) (c':=.slice rc.1 rc.2.1 rc.2.2) (d':=.slice rd.1 rd.2.1 rd.2.2) hc3;obtain⟨y0,y1,y2,y3,_,_⟩:=Ze g9;have hfin:=Za (show Sto (New w.heap.size W9) W9 (.agg #[.slice ra.1 ra.2.1 ra.2.2,.slice rb.1 rb.2.1 rb.2.2,.slice rc.1 rc.2.1 rc.2.2,.slice rd.1 rd.2.1 rd.2.2]) mv from (hS3.grown gr9 (fun q e=>by cases e;have:=SZ.out;omega)).new (by have:=SZ.out;omega) (Qb _ _));have hB9:=Za ((B2.out.trans (hb3.mono B2.out.size)).grown gr9 (B2.out.trans (hb3.mono B2.out.size)).size (fun q e=>by cases e;have:=SZ.out;omega));replace g9:=Za g9;clear hS3 hb3 hc3 gr9 gs9 k0 k1 k2 k3 HM
 go_wp2_with fail
 exact Qai (v:=.tuple #[.agg #[.slice ra.1 ra.2.1 ra.2.2,.slice rb.1 rb.2.1 rb.2.2,.slice rc.1 rc.2.1 rc.2.2,.slice rd.1 rd.2.1 rd.2.2],.int .i64 mn,.int .i64 me]) (by simp[results,Tryz.results23,go_sem,y0,y1,y2,y3]) rfl ⟨ra,rb,rc,rd,rfl,hfin.out,hB9.out⟩}
theorem Zur (x:Int) (w:Qaf):Qal Tryz.prog 12 #[.int .u32 x] w fun e w'=>e=.returned (.agg #[.int .u8 2,.int .u32 0,.int .u32 x])/\Qam w.heap.size w w':=by{
 obtain⟨w1,hw1,f1,f2,f3,hs1,hB1,_⟩:=Y9 w (.int .u8 2) (.int .u32 0) (.int .u32 x) 37
 go_enter Tryz.func12,Tryz.ntmps12
 go_wp2_with fail
 exact Qai (v:=.agg #[.int .u8 2,.int .u32 0,.int .u32 x]) (by simp[results,Tryz.results12,go_sem,f1,f2,f3]) rfl ⟨rfl,hB1⟩}
theorem Z9o (n:Nat) (h:n<=5):Zhb (gS n).1 (gS n).2 (kx (n+1))=(0,(gS (n+1)).1,(gS (n+1)).2):=by{
 rcases Pk n 5 with h5 | h5
 ·exact Z9n n h5
 ·obtain rfl:n=5:=by omega
  obtain⟨T,e,_⟩:=Zmd;rw[Zq6 5,e]}
theorem Yap {s:Rm}{a:Nat}{L:List It}{m:Nat}(h:Lf s a L m){x:It}(hx:InI x) (hm:Zbp x=true) (h0:x.2.1=0){l:List Sv}(hl:ckE s (a:Int)=0->Zil s x=0->Z5e s x.1 (a:Int) l):Zhd s (a:Int) x l=Zhb s (a:Int) x:=by{
 have hck:=h.tree.2.2.1;have hci:Zil s x=0:=by
  unfold Zil;rw[if_pos hm,if_neg (fun h=>h.1 h0)]
 refine(Zxf (P:=fun i=>if i=a then 1 else 0) hx hck hci (Qg.2 rfl) (h.enf.same fun i=> ?_) (hl hck hci)).1;have hh:Zaf x i=0:=by unfold Zaf;rw[if_neg (fun h=>h.1 h0)]
 show (if i=a then 1 else 0)+Zaf x i=_;rw[hh];rfl}
theorem Yba (n:Nat) (h:n<=5) (qa qb qc qd:Option Qah×Nat×Nat) (w:Qaf) (hS:Sto (Old w) w (.agg #[.slice qa.1 qa.2.1 qa.2.2,.slice qb.1 qb.2.1 qb.2.2,.slice qc.1 qc.2.1 qc.2.2,.slice qd.1 qd.2.1 qd.2.2]) (gS n).1) :
  Qal Tryz.prog 22 #[.agg #[.slice qa.1 qa.2.1 qa.2.2,.slice qb.1 qb.2.1 qb.2.2,.slice qc.1 qc.2.1 qc.2.2,.slice qd.1 qd.2.1 qd.2.2],.int .i64 (gS n).2,.agg #[.int .u8 2,.int .u32 0,.int .u32 ((n+1:Nat):Int),.int .i64 0,.slice none 0 0]] w fun e w'=>∃ qa qb qc qd:Option Qah×Nat×Nat,
   e=.returned (.tuple #[.agg #[.slice qa.1 qa.2.1 qa.2.2,.slice qb.1 qb.2.1 qb.2.2,.slice qc.1 qc.2.1 qc.2.2,.slice qd.1 qd.2.1 qd.2.2],.int .i64 (gS (n+1)).2,.int .i64 0])/\Sto (New w.heap.size w') w' (.agg #[.slice qa.1 qa.2.1 qa.2.2,.slice qb.1 qb.2.1 qb.2.2,.slice qc.1 qc.2.1 qc.2.2,.slice qd.1 qd.2.1 qd.2.2]) (gS (n+1)).1/\Qam w.heap.size w w':=by
 obtain⟨h1,h2⟩:=Zxp n h;obtain⟨hi,hz⟩:=Zh4 (n+1) (by omega) (kx (n+1)) (Ql _ (Qg.2 rfl));refine(Zlg qa qb qc qd (gS n).1 (gS n).2 (kx (n+1)) none 0 w hS ⟨_,rfl,hi,U8 _ _ none⟩).mono ?_;rintro e w' ⟨l,ra,rb,rc,rd,hl,rfl,hs,hb⟩;have hm:Zbp (kx (n+1))=true:=Z0s ⟨.inl rfl,by show (0:Nat)<=12;omega⟩;have hp:Zhd (gS n).1 (gS n).2 (kx (n+1)) l=(0,(gS (n+1)).1,(gS (n+1)).2):=by
  rw[<- Z9o n h];rw[h2] at hl ⊢;exact Yap h1 hi hm hz hl
 rw[hp] at hs ⊢;exact⟨ra,rb,rc,rd,rfl,hs,hb⟩
def PhT (lo:Nat) (R:Int) (s:Rm) (v:Qag) (W:Qaf):Prop:=∃ pa pb pc pd:Option Qah×Nat×Nat,v=.tuple #[.agg #[.slice pa.1 pa.2.1 pa.2.2,.slice pb.1 pb.2.1 pb.2.2,.slice pc.1 pc.2.1 pc.2.2,.slice pd.1 pd.2.1 pd.2.2],.int .i64 R,.int .i64 0]/\Sto (New lo W) W (.agg #[.slice pa.1 pa.2.1 pa.2.2,.slice pb.1 pb.2.1 pb.2.2,.slice pc.1 pc.2.1 pc.2.2,.slice pd.1 pd.2.1 pd.2.2]) s
def PhA (lo:Nat) (s:Rm) (v:Qag) (W:Qaf):Prop:=∃ pa pb pc pd:Option Qah×Nat×Nat,v=.agg #[.slice pa.1 pa.2.1 pa.2.2,.slice pb.1 pb.2.1 pb.2.2,.slice pc.1 pc.2.1 pc.2.2,.slice pd.1 pd.2.1 pd.2.2]/\Sto (New lo W) W (.agg #[.slice pa.1 pa.2.1 pa.2.2,.slice pb.1 pb.2.1 pb.2.2,.slice pc.1 pc.2.1 pc.2.2,.slice pd.1 pd.2.1 pd.2.2]) s
theorem PhT.below {lo:Nat}{R:Int}{s:Rm}{v:Qag}{W W':Qaf}(h:PhT lo R s v W) (hb:Qam W.heap.size W W'):PhT lo R s v W':=by
 obtain⟨pa,pb,pc,pd,e,h⟩:=h;exact⟨pa,pb,pc,pd,e,h.new (Qd _) hb⟩
theorem PhA.below {lo:Nat}{s:Rm}{v:Qag}{W W':Qaf}(h:PhA lo s v W) (hb:Qam W.heap.size W W'):PhA lo s v W':=by
 obtain⟨pa,pb,pc,pd,e,h⟩:=h;exact⟨pa,pb,pc,pd,e,h.new (Qd _) hb⟩
def Ybu (s:Rm) (R:Int) (w:Qaf) (e:Ending) (w':Qaf):Prop:=∃ qa qb qc qd:Option Qah×Nat×Nat,
   e=.returned (.tuple #[.agg #[.slice qa.1 qa.2.1 qa.2.2,.slice qb.1 qb.2.1 qb.2.2,.slice qc.1 qc.2.1 qc.2.2,.slice qd.1 qd.2.1 qd.2.2],.int .i64 R,.bool true])/\Sto (Old w') w' (.agg #[.slice qa.1 qa.2.1 qa.2.2,.slice qb.1 qb.2.1 qb.2.2,.slice qc.1 qc.2.1 qc.2.2,.slice qd.1 qd.2.1 qd.2.2]) s/\Qam w.heap.size w w'
theorem Z1u (many:Nat) (hmany:many<=6) (w:Qaf):Qal Tryz.prog 10 #[.int .u32 (many:Int)] w (Ybu (gS many).1 (gS many).2 w):=by{
 obtain⟨w1,hw1,b1,hs1,hB1⟩:=X4 w (.slice none 0 0) (.slice none 0 0) (.slice none 0 0) (.slice none 0 0) 29;obtain⟨e1,e2,hlf⟩:=Z51;have hr0:(gS 0).2=(8:Int):=by rw[(Zxp 0 (by omega)).2];rfl
 have hv0:mkV Zkf V8=(gS 0).1:=by unfold gS;rfl
 have hPut:=Za Yba;have B1:=Za hB1;have G1:=Za b1;have SZ:=Za hs1;have hNew:Hid (∀ v W,Sto (Old W) W v Zkf->∃ qa qb qc qd:Option Qah×Nat×Nat,v=.agg #[.slice qa.1 qa.2.1 qa.2.2,.slice qb.1 qb.2.1 qb.2.2,.slice qc.1 qc.2.1 qc.2.2,.slice qd.1 qd.2.1 qd.2.2]):=Za fun v W h=>by
  obtain⟨A,ca,B,cb,N,cn,L,cl,rfl,_⟩:=h.open;exact⟨(A,_,ca),(B,_,cb),(N,_,cn),(L,_,cl),rfl⟩
 replace hs1:=Za hs1;replace hr0:=Za hr0;replace hv0:=Za hv0;replace e1:=Za e1;replace e2:=Za e2;clear hlf hB1 b1
 go_enter Tryz.func10,Tryz.ntmps10
 go_upto_region 1 with fail
 clear hw1
 go_wp2_with fail
 with_reducible refine(Z2p _).mono ?_
 rintro e w2 ⟨t,rfl,ht,hb2⟩;obtain⟨pa,pb,pc,pd,rfl⟩:=hNew.out t w2 ht.drop;have hN2:=Za (Zu3 pa pb pc pd Zkf w2 ht.drop);have B2:=Za hb2;clear ht hb2
 go_wp2_with fail
 with_reducible refine(hN2.out).mono ?_
 rintro e w3 ⟨ra,rb,rc,rd,rfl,hS3,hb3⟩;rw[e1.out,e2.out];rw[hv0.out] at hS3;obtain⟨w4,hw4,b4,hs4,hB4⟩:=X4 w3 (.slice ra.1 ra.2.1 ra.2.2) (.slice rb.1 rb.2.1 rb.2.2) (.slice rc.1 rc.2.1 rc.2.2) (.slice rd.1 rd.2.1 rd.2.2) 29;have B14:=Za (B2.out.trans ((hb3.trans (hB4.mono hb3.size)).mono B2.out.size));have S4:=Za ((hS3.new (lo':=w1.heap.size) B2.out.size (hB4.mono (Qd _))));have G4:=Za b4;have sz3:=Za (show w1.heap.size<=w3.heap.size from Qp B2.out.size hb3.size);replace hs4:=Za hs4;clear hS3 hb3 hB4 b4 hN2
 go_upto_region 2 with fail
 clear hw4
 go_wp2_with fail
 go_loopw [6,7,8] (fun rv ev nv wr=>∃ (n:Nat) (qa qb qc qd:Option Qah×Nat×Nat),n<=many/\rv=.int .i64 (gS n).2/\ev=.int .i64 0/\nv=.int .u32 ((n+1:Nat):Int)/\wr.heap[w3.heap.size]? = some (.cells #[.slice qa.1 qa.2.1 qa.2.2,.slice qb.1 qb.2.1 qb.2.2,.slice qc.1 qc.2.1 qc.2.2,.slice qd.1 qd.2.1 qd.2.2] 29 (0,0)) /\
  Sto (New w1.heap.size wr) wr (.agg #[.slice qa.1 qa.2.1 qa.2.2,.slice qb.1 qb.2.1 qb.2.2,.slice qc.1 qc.2.1 qc.2.2,.slice qd.1 qd.2.1 qd.2.2]) (gS n).1/\Qam w1.heap.size w1 wr) (fun _ _ nv _=>10-(intOf nv).toNat)
 case atStart=>exact⟨0,ra,rb,rc,rd,by omega,by rw[hr0.out],rfl,rfl,G4.out,S4.out,B14.out⟩
 case round =>
  obtain⟨n,qa,qb,qc,qd,hn,rfl,rfl,rfl,hbx,hS,hB⟩:=hrel;obtain⟨k0,k1,k2,k3,kf,_⟩:=Ze hbx;have hn63:((n+1:Nat):Int)<4294967296:=by omega
  by_cases hlt:n<many
  case neg =>
   obtain rfl:n=many:=by omega
   have hle:¬ (((n+1:Nat):Int)<=(n:Int)):=by omega
   obtain⟨W9,hW9,g9,gr9,gs9⟩:=Zu (a':=.slice qa.1 qa.2.1 qa.2.2) (b':=.slice qb.1 qb.2.1 qb.2.2) (c':=.slice qc.1 qc.2.1 qc.2.2) (d':=.slice qd.1 qd.2.1 qd.2.2) ((hB.block w.heap.size (by have:=SZ.out;omega)).trans G1.out);obtain⟨y0,y1,y2,y3,_,_⟩:=Ze g9;obtain⟨u0,u1,u2,u3,uf,_⟩:=Ze ((hB.block w.heap.size (by have:=SZ.out;omega)).trans G1.out);have hfin:=Za (show Sto (Old W9) W9 (.agg #[.slice qa.1 qa.2.1 qa.2.2,.slice qb.1 qb.2.1 qb.2.2,.slice qc.1 qc.2.1 qc.2.2,.slice qd.1 qd.2.1 qd.2.2]) (gS n).1 from (hS.grown gr9 (fun q e=>by cases e;have:=SZ.out;omega)).drop);have hB9:=Za ((B1.out.trans (hB.mono B1.out.size)).grown gr9 (B1.out.trans (hB.mono B1.out.size)).size (fun q e=>by cases e;omega));obtain⟨R,hR⟩:∃ q,(gS n).2=q:=⟨_,rfl⟩
   have hfin2:Hid (Ybu (gS n).1 (gS n).2 w (.returned (.tuple #[.agg #[.slice qa.1 qa.2.1 qa.2.2,.slice qb.1 qb.2.1 qb.2.2,.slice qc.1 qc.2.1 qc.2.2,.slice qd.1 qd.2.1 qd.2.2],.int .i64 R,.bool true])) W9):=Za ⟨qa,qb,qc,qd,by rw[hR],hfin.out,hB9.out⟩;obtain⟨X,hX⟩:∃ q:Int,((n+1:Nat):Int)=q:=⟨_,rfl⟩
   rw[hX] at hle hn63;rw[hR,hX];replace hR:=Za hR;replace hX:=Za hX;replace g9:=Za g9;clear gr9 gs9 hS hB hbx
   go_wp2_with fail
   exact Qai (v:=.tuple #[.agg #[.slice qa.1 qa.2.1 qa.2.2,.slice qb.1 qb.2.1 qb.2.2,.slice qc.1 qc.2.1 qc.2.2,.slice qd.1 qd.2.1 qd.2.2],.int .i64 R,.bool true]) (by simp[results,Tryz.results10,go_sem,y0,y1,y2,y3]) rfl hfin2.out
  have hle:((n+1:Nat):Int)<=(many:Int):=by omega
  have hPn:=Za (hPut.out n (by omega));obtain⟨R,hR⟩:∃ q,(gS n).2=q:=⟨_,rfl⟩
  obtain⟨R',hR'⟩:∃ q,(gS (n+1)).2=q:=⟨_,rfl⟩
  obtain⟨s0,hs0⟩:∃ q,(gS n).1=q:=⟨_,rfl⟩
  obtain⟨s1,hs1'⟩:∃ q,(gS (n+1)).1=q:=⟨_,rfl⟩
  obtain⟨X,hX⟩:∃ q:Int,((n+1:Nat):Int)=q:=⟨_,rfl⟩
  rw[hR,hR',hs0,hs1',hX] at hPn;rw[hs0] at hS;rw[hX] at hle hn63;rw[hR,hX];replace hR:=Za hR;replace hR':=Za hR';replace hs0:=Za hs0;replace hs1':=Za hs1';have hX1:1<=X:=by omega
  replace hX:=Za hX;have hS':=Za hS;have hB':=Za hB;have hbx':=Za hbx;have KB:=Za (fun W (hW:Qam wr.heap.size wr W)=>Ze ((hW.block w3.heap.size (Qc.1 hbx'.out).1).trans hbx'.out));clear hS hB hbx k0 k1 k2 k3 kf hPut
  go_upto_region 5 with fail
  refine X8 (ops' := ?opsLate) (by kernel_rfl) [(10,8),(10,9),(11,9)] ?he (by kernel_rfl) (fun d _ _ _ _ h=>by cases d <;> exact h) 10 (fun W=>Qam wr.heap.size wr W) (fun i=>match i with
    | 5=>some (fun v W=>PhT wr.heap.size R' s1 v W)
    | 6=>some (fun v W=>PhT wr.heap.size R' s1 v W)
    | 7=>some (fun v W=>PhA wr.heap.size s1 v W)
    | _=>none) (fun i=>match i with
    | 3=>some (.agg #[.int .u8 2,.int .u32 0,.int .u32 X])
    | 8=>some (.int .i64 R')
    | 9=>some (.int .i64 0)
    | _=>none) ?h1 ?h2 ?h3 (Qb _ _).drew (fun w w' h hb=>h.trans (hb.mono h.size)) ?tst ?_
  case he =>
   simp[Yb];rfl
  case h1=>decide
  case h2=>kernel_rfl
  case h3=>kernel_rfl
  case tst =>
   intro j φ x W W' hp hx hb
   match j,hp with
   | 5,hp=>cases hp;exact hx.below hb
   | 6,hp=>cases hp;exact hx.below hb
   | 7,hp=>cases hp;exact hx.below hb
  simp only[Pg,Ph,Pi,Q4]
  repeat (first
   | (refine wpAs_skip rfl ?_;simp only[Qa,Zb,Zc,Zd])
   | (refine wpAs_pure (v := ?_) rfl rfl ?_ ?_;rotate_left;(intro W hC hE;clear hE;(obtain⟨k0,k1,k2,k3,_⟩:=KB.out W hC);clear hC;go_simp;first | done | with_reducible rfl);simp only[Qa,Zb,Zc,Zd]))
  refine wpAs_fixed rfl rfl rfl ?_ ?_
  ·intro W hC hE
   refine does_enter (f:=12) (args:=#[.int .u32 X]) ?_ ?_
   ·go_simp
   ·refine(Zur X W).mono ?_
    (rintro e W' ⟨rfl,hg⟩)
    exact⟨_,rfl,rfl,hg⟩
  simp only[Qa,Zb,Zc,Zd]
  repeat (first
   | (refine wpAs_skip rfl ?_;simp only[Qa,Zb,Zc,Zd])
   | (refine wpAs_pure (v := ?_) rfl rfl ?_ ?_;rotate_left;(intro W hC hE;clear hE;skip;clear hC;go_simp;first | done | with_reducible rfl);simp only[Qa,Zb,Zc,Zd]))
  refine wpAs_act rfl rfl ?_ ?_
  ·intro W hC hE
   clear hE;refine does_enter (f:=22) (args:=#[.agg #[.slice qa.1 qa.2.1 qa.2.2,.slice qb.1 qb.2.1 qb.2.2,.slice qc.1 qc.2.1 qc.2.2,.slice qd.1 qd.2.1 qd.2.2],.int .i64 R,.agg #[.int .u8 2,.int .u32 0,.int .u32 X,.int .i64 0,.slice none 0 0]]) ?_ ?_
   ·go_simp
   ·refine(hPn.out qa qb qc qd W (hS'.out.drop.below hC)).mono ?_
    rintro e W' ⟨pa,pb,pc,pd,rfl,hz,hb⟩;exact⟨_,rfl,⟨pa,pb,pc,pd,rfl,hz.new hC.size (Qb _ _)⟩,hb⟩
  simp only[Qa,Zb,Zc,Zd,envAdd];intro x5;refine wpAs_act rfl rfl ?_ ?_
  ·intro W hC hE
   have h7:=hE.1 rfl;clear hE hC
   go_simp
   exact⟨h7,Qb _ _⟩
  simp only[Qa,Zb,Zc,Zd,envAdd];intro x6;refine wpAs_act rfl rfl ?_ ?_
  ·intro W hC hE
   obtain⟨pa,pb,pc,pd,rfl,hz⟩:=hE.1 rfl;have hz':=Za hz;clear hE hz hC
   go_simp
   exact⟨⟨pa,pb,pc,pd,rfl,hz'.out⟩,Qb _ _⟩
  simp only[Qa,Zb,Zc,Zd,envAdd];intro x7;refine wpAs_fixed rfl rfl rfl ?_ ?_
  ·intro W hC hE
   obtain⟨pa,pb,pc,pd,rfl,hz⟩:=hE.2.1 rfl;clear hE hz hC
   go_simp
   exact⟨rfl,Qb _ _⟩
  simp only[Qa,Zb,Zc,Zd];refine wpAs_fixed rfl rfl rfl ?_ ?_
  ·intro W hC hE
   obtain⟨pa,pb,pc,pd,rfl,hz⟩:=hE.2.1 rfl;clear hE hz hC
   go_simp
   exact⟨rfl,Qb _ _⟩
  simp only[Qa,Zb,Zc,Zd];refine wpAs_end fun W hC hE=> ?_
  obtain⟨h7,_⟩:=hE;obtain⟨pa,pb,pc,pd,rfl,hz⟩:=h7;obtain⟨u0,u1,u2,u3,uf,_⟩:=KB.out W hC;obtain⟨W9,hW9,g9,gr9,gs9⟩:=Zu (a':=.slice pa.1 pa.2.1 pa.2.2) (b':=.slice pb.1 pb.2.1 pb.2.2) (c':=.slice pc.1 pc.2.1 pc.2.2) (d':=.slice pd.1 pd.2.1 pd.2.2) ((hC.block w3.heap.size (Qc.1 hbx'.out).1).trans hbx'.out);have S9:=Za ((hz.grown gr9 (fun q e=>by cases e;exact(Qc.1 hbx'.out).1)).new (lo':=w1.heap.size) hB'.out.size (Qb _ _));have BW:=Za ((hB'.out.trans (hC.mono hB'.out.size)).grown gr9 (hB'.out.trans (hC.mono hB'.out.size)).size (fun q e=>by cases e;exact sz3.out));have g9':=Za g9;clear hC hz gr9 gs9 g9
  go_wp2_with fail
  go_roundw
  case rel=>exact⟨n+1,pa,pb,pc,pd,by omega,by rw[hR'.out],rfl,by have:=hX.out;go_num,g9'.out,by rw[hs1'.out];exact S9.out,BW.out⟩
  case measure=>have:=hX.out;simp[intOf];omega}
theorem Z9y:(gS 6).2=11/\Xm (gS 6).1=true/\rmE (gS 6).1 11=0/\rmV (gS 6).1 11=(1,upS)/\rmE (gS 6).1 8=0/\rmV (gS 6).1 8=(0,(Ls 6).take 3)/\ckE (gS 6).1 11=0/\ckH (gS 6).1 11=2:=by
 obtain⟨T,e,h1,h2,h3,h4,h5,h6,h7,_⟩:=Zmd;have eg:gS 6=(T,11):=by rw[Zq6 5,e]
 rw[eg];exact⟨rfl,h1,h2,h3,h4,h5,Zsw h2 h3 h4 h5 h6 h7⟩
theorem Zxv (w:Qaf):Qal Tryz.prog 10 #[.int .u32 6] w (Ybu (gS 6).1 11 w):=by
 have:=Z1u 6 (Qd _) w;rw[Z9y.1] at this;exact this
def Zwx:Ky:=(255,4294967295,4294967295)
theorem Z35 {x:It}(h:InI x):Z6e Zbh Zwx x=true:=by{
 obtain⟨⟨⟨i0,i1⟩,o0,o1⟩,_⟩:=h;obtain⟨⟨k,i,o⟩,r,v⟩:=x
 dsimp only at i0 i1 o0 o1
 have hk:=k.toNat_lt;rw[Z2j];unfold Zo Zbh Zwx
 dsimp only
 constructor
 ·split
  ·exact decide_eq_false (by have:(0:UInt8).toNat=0:=rfl;omega)
  ·split
   ·exact decide_eq_false (by omega)
   ·exact decide_eq_false (by omega)
 ·split
  ·exact decide_eq_false (by have:(255:UInt8).toNat=255:=rfl;omega)
  ·split
   ·exact decide_eq_false (by omega)
   ·exact decide_eq_false (by omega)}
theorem Zxd {s:Rm}:∀ (l:Nat) (a:Int),AtT s l a->∀ x∈X2 s l a,InI x
 | 0,a,h,x,hx=>(Ze5 h.ok).it x hx
 | l+1,a,h,x,hx=>by
  obtain⟨y,hy,hx⟩:=P7.1 hx;exact Zxd l _ (h.down hy) x hx
theorem Zek {s:Rm}{a:Int}(h:ckE s a=0):raV s a Zbh Zwx=Vo s a:=by
 rw[Zxg h];unfold Zg9;exact P8.2 fun x hx=>Z35 (Zxd _ _ (Zbt (Zam h).1) x hx)
theorem Ztb (qa qb qc qd:Option Qah×Nat×Nat) (s:Rm) (a:Int) (w:Qaf) (h:Sto (Old w) w (.agg #[.slice qa.1 qa.2.1 qa.2.2,.slice qb.1 qb.2.1 qb.2.2,.slice qc.1 qc.2.1 qc.2.2,.slice qd.1 qd.2.1 qd.2.2]) s) :
  Qal Tryz.prog 13 #[.agg #[.slice qa.1 qa.2.1 qa.2.2,.slice qb.1 qb.2.1 qb.2.2,.slice qc.1 qc.2.1 qc.2.2,.slice qd.1 qd.2.1 qd.2.2],.int .i64 a] w fun e w'=>∃ u c,e=.returned (.slice u (raV s a Zbh Zwx).length c)/\Zae (New w.heap.size w') w' [.slice u (raV s a Zbh Zwx).length c] (raV s a Zbh Zwx)/\Qam w.heap.size w w':=by{
 obtain⟨w1,hw1,b1,hs1,hB1⟩:=X4 w (.slice qa.1 qa.2.1 qa.2.2) (.slice qb.1 qb.2.1 qb.2.2) (.slice qc.1 qc.2.1 qc.2.2) (.slice qd.1 qd.2.1 qd.2.2) 29;have HR:Hid (Qal Tryz.prog 29 #[.agg #[.slice qa.1 qa.2.1 qa.2.2,.slice qb.1 qb.2.1 qb.2.2,.slice qc.1 qc.2.1 qc.2.2,.slice qd.1 qd.2.1 qd.2.2],.int .i64 a,.agg #[.int .u8 0,.int .u32 0,.int .u32 0],.agg #[.int .u8 255,.int .u32 4294967295,.int .u32 4294967295]] w1 (Zs1 s a Zbh Zwx w1)):=Za (Zmv _ s a Zbh Zwx w1 (h.below hB1));obtain⟨k0,k1,k2,k3,_⟩:=Ze b1;have B1:=Za hB1;replace hs1:=Za hs1;clear h hB1 b1;obtain⟨M,hM⟩:∃ q,raV s a Zbh Zwx=q:=⟨_,rfl⟩
 unfold Zs1 at HR;rw[hM] at HR ⊢
 go_enter Tryz.func13,Tryz.ntmps13
 go_upto_region 1 with fail
 clear hw1
 go_wp2_with fail
 with_reducible refine(HR.out).mono ?_
 rintro e w2 ⟨u,c,rfl,hr,hb2⟩;have R2:=Za (Y8.new (lo':=w.heap.size) hr B1.out.size (Qb _ _));have B2:=Za (B1.out.trans (hb2.mono B1.out.size));obtain⟨n,hn⟩:∃ q,M.length=q:=⟨_,rfl⟩
 rw[hn] at R2 ⊢;clear hr hb2 HR k0 k1 k2 k3;replace hn:=Za hn
 go_wp2_with fail
 exact Qai (v:=.slice u n c) (by simp[results,Tryz.results13,go_sem]) rfl ⟨u,c,by rw[hn.out],by rw[hn.out];exact R2.out,B2.out⟩}
theorem Zzz (A:Option Qah) (n ca:Nat) (B:Option Qah) (m cb:Nat) (xs ys:List It) (hn:xs.length=n) (hm:ys.length=m) (hn1:n<1000000) (hm1:m<1000000) (w:Qaf) (hx:Zae (Old w) w [.slice A n ca] xs) (hy:Zae (Old w) w [.slice B m cb] ys) :
  Qal Tryz.prog 21 #[.slice A n ca,.slice B m cb] w fun e w'=>e=.returned (.bool (decide (xs=ys)))/\Qam w.heap.size w w':=by{
 have HX:=Za (fun k (x:It) (hk:xs[k]? = some x)=>Vz hx hk);have HY:=Za (fun k (x:It) (hk:ys[k]? = some x)=>Vz hy hk);obtain⟨res,hres⟩:∃ r,decide (xs=ys)=r:=⟨_,rfl⟩
 rw[hres];have hR:=Za hres;have hN:=Za hn;have hM:=Za hm;clear hx hy hres hn hm
 go_enter Tryz.func21,Tryz.ntmps21
 go_upto_region 1 with fail
 go_wp2_with fail
 go_loopw [5] (fun iv wr=>∃ (j:Nat),j<=n/\j<=m/\iv=.int .i64 (j:Int)/\xs.take j=ys.take j/\Qam w.heap.size w wr) (fun iv _=>n-(intOf iv).toNat)
 case atStart=>exact⟨0,by omega,by omega,rfl,rfl,Qb _ _⟩
 case round =>
  obtain⟨j,hj1,hj2,rfl,htk,hB⟩:=hrel;have ht:=Za htk;have BR:=Za hB;clear htk hB;by_cases hjn:j<n
  case neg =>
   obtain rfl:j=n:=by omega
   have hc0:¬ ((j:Int)<(j:Int)):=by omega
   have hfin:Hid (res=decide (j=m)):=Za (by
    have h1:=ht.out;rw[P9 (by have:=hN.out;omega)] at h1;rw[<- hR.out,P4];simp only[decide_eq_true_eq]
    exact⟨fun h=>by rw[h,hM.out] at hN;exact hN.out.symm,fun h=>by rw[h1,P9 (by have:=hM.out;omega)]⟩)
   by_cases hjm:j=m
   ·subst hjm
    obtain rfl:res=true:=by rw[hfin.out];simp
    go_wp2_with fail
    go_ret;exact⟨rfl,BR.out⟩
   ·have hne:((j:Int)==(m:Int))=false:=by simp;omega
    obtain rfl:res=false:=by rw[hfin.out];simp[hjm]
    go_wp2_with fail
    go_ret;exact⟨rfl,BR.out⟩
  have i1:(j:Int)<(n:Int):=by omega
  by_cases hjm:j<m
  case neg =>
   obtain rfl:j=m:=by omega
   have i2:¬ ((j:Int)<(j:Int)):=by omega
   obtain rfl:res=false:=by
    rw[<- hR.out];exact decide_eq_false fun h=>by have h1:=hN.out;have h2:=hM.out;rw[h] at h1;omega
   have hne:((n:Int)==(j:Int))=false:=by simp;omega
   go_wp2_with fail
   go_ret;exact⟨rfl,BR.out⟩
  have i2:(j:Int)<(m:Int):=by omega
  obtain⟨x,hxj⟩:∃ x,xs[j]? = some x:=⟨_,Qk (by rw[hN.out];exact hjn)⟩
  obtain⟨y,hyj⟩:∃ y,ys[j]? = some y:=⟨_,Qk (by rw[hM.out];exact hjm)⟩
  obtain⟨ad,E,ce,rfl,_,_,_,hFx⟩:=HX.out j x hxj;obtain⟨bd,F,cf,rfl,_,_,_,hFy⟩:=HY.out j y hyj;have FX:=Za (fun W (hW:Qam wr.heap.size wr W)=>hFx W (BR.out.trans (hW.mono BR.out.size)));have FY:=Za (fun W (hW:Qam wr.heap.size wr W)=>hFy W (BR.out.trans (hW.mono BR.out.size)));have hSm:=Za (fun W (hW:Qam wr.heap.size wr W)=>Zyn _ _ x y W (FX.out W hW).2 (FY.out W hW).2);obtain⟨sm,hsm⟩:∃ r,Zmj x y=r:=⟨_,rfl⟩
  rw[hsm] at hSm;have hsm':=Za hsm;have hxj':=Za hxj;have hyj':=Za hyj;clear hFx hFy hsm hxj hyj;unfold itV at hSm
  go_upto_region 4 with fail
  refine wp_region_fx (by kernel_rfl) (fun W=>Qam wr.heap.size wr W) (fun _=>none) (fun i=>match i with
    | 8=>some (.bool sm)
    | _=>none) (by kernel_rfl) (Qb _ _).drew (fun w w' h hb=>h.trans (hb.mono h.size)) (fun j φ x W W' hp=>by cases hp) ?_
  repeat (first
   | (refine wpAs_skip rfl ?_;simp only[Qa,Zb,Zc,Zd])
   | (refine wpAs_pure (v := ?_) rfl rfl ?_ ?_;rotate_left;(intro W hC hE;clear hE;(obtain⟨z0,z1,z2,z3,z4⟩:=(FX.out W hC).1;obtain⟨y0,y1,y2,y3,y4⟩:=(FY.out W hC).1);clear hC;go_simp;first | done | with_reducible rfl);simp only[Qa,Zb,Zc,Zd]))
  refine wpAs_fixed rfl rfl rfl ?_ ?_
  ·intro W hC hE
   refine does_enter (f:=40) (args:=#[.agg #[.int .u8 (x.1.1.toNat:Int),.int .u32 x.1.2.1,.int .u32 x.1.2.2,.int .i64 x.2.1,.slice E x.2.2.length ce],.agg #[.int .u8 (y.1.1.toNat:Int),.int .u32 y.1.2.1,.int .u32 y.1.2.2,.int .i64 y.2.1,.slice F y.2.2.length cf]]) ?_ ?_
   ·go_simp
   ·refine(hSm.out W hC).mono ?_
    (rintro e W' ⟨rfl,hg⟩)
    exact⟨_,rfl,rfl,hg⟩
  simp only[Qa,Zb,Zc,Zd]
  repeat (first
   | (refine wpAs_skip rfl ?_;simp only[Qa,Zb,Zc,Zd])
   | (refine wpAs_pure (v := ?_) rfl rfl ?_ ?_;rotate_left;(intro W hC hE;clear hE;skip;clear hC;go_simp;first | done | with_reducible rfl);simp only[Qa,Zb,Zc,Zd]))
  refine wpAs_end fun W hC hE=> ?_
  have BW:=Za (BR.out.trans (hC.mono BR.out.size));clear hE hC;cases sm with
  | false =>
   obtain rfl:res=false:=by
    rw[<- hR.out];refine decide_eq_false fun h=> ?_
    have h1:=hxj'.out;rw[h,hyj'.out] at h1;cases h1;have:=hsm'.out;rw[Zvp] at this;cases this
   go_wp2_with fail
   go_ret;exact⟨rfl,BW.out⟩
  | true =>
   have htk:Hid (xs.take (j+1)=ys.take (j+1)):=Za (by
    have e:=Z3c hsm'.out;subst e;have h1:=ht.out
    rw[Pm,Pm,hxj'.out,hyj'.out,h1])
   go_wp2_with fail
   go_roundw
   case rel=>exact⟨j+1,by omega,by omega,by go_num,htk.out,BW.out⟩
   case measure=>simp[intOf];omega}
def fdE (s:Rm) (a:Int) (k:Ky):Int:=if ckE s a=0 then (if (Zdv s a k).isSome=true then 0 else 6) else ckE s a
def fdV (s:Rm) (a:Int) (k:Ky):It:=if ckE s a=0 then (Zdv s a k).getD Zes else Zes
theorem Z0e {s:Rm}{a:Int}{k:Ky}(h:ckE s a≠0):fdE s a k=ckE s a/\fdV s a k=Zes:=⟨by rw[fdE,if_neg h],by rw[fdV,if_neg h]⟩
theorem Zrb {s:Rm}{a:Int}{k:Ky}{x:It}(h:ckE s a=0) (hx:Zdv s a k=some x):fdE s a k=0/\fdV s a k=x:=⟨by rw[fdE,if_pos h,hx];rfl,by rw[fdV,if_pos h,hx];rfl⟩
theorem Zqn {s:Rm}{a:Int}{k:Ky}(h:ckE s a=0) (hx:Zdv s a k=none):fdE s a k=6/\fdV s a k=Zes:=⟨by rw[fdE,if_pos h,hx];rfl,by rw[fdV,if_pos h,hx];rfl⟩
theorem Zkn (v:Qag) (n:Nd) (key:Ky) (w:Qaf) (h:Nod (Old w) w v n) :
  Qal Tryz.prog 39 #[v,kyV key] w fun e w'=>e=.returned (.tuple #[.int .i64 (Z2 n key:Nat),.bool (Yl n key)])/\Qam w.heap.size w w':=Zcp v n key w h
theorem Zoo (v:Qag) (s:Rm) (a:Int) (key:Ky) (w:Qaf) (h:Sto (Old w) w v s) :
  Qal Tryz.prog 20 #[v,.int .i64 a,kyV key] w fun e w'=>∃ u,e=.returned (.tuple #[u,.int .i64 (fdE s a key)])/\Itm (New w.heap.size w') w' u (fdV s a key)/\Qam w.heap.size w w':=by{
 obtain⟨A,ca,B,cb,N,cn,L,cl,rfl,_⟩:=id h.open;have hCk:=Za (fun v W hW=>Ud v s a W hW);have hct:=Za (fun hh=>Zam (s:=s) (a:=a) hh);have hta:=Za (fun ht=>Zbt (s:=s) (a:=a) ht);have htl:=Za (fun ht=>Xf (s:=s) (a:=a) ht);have hfb:=Za (fun hh=>Z0e (s:=s) (a:=a) (k:=key) hh);have hfs:=Za (fun x hh hx=>Zrb (s:=s) (a:=a) (k:=key) (x:=x) hh hx);have hfn:=Za (fun hh hx=>Zqn (s:=s) (a:=a) (k:=key) hh hx);obtain⟨T,hT⟩:∃ T,Zdv s a key=T:=⟨_,rfl⟩
 have hT':Hid (Zcl s (rmV s a).1.toNat a key=T):=Za hT;rw[hT] at hfs hfn;obtain⟨E0,hE0⟩:∃ q,ckE s a=q:=⟨_,rfl⟩
 obtain⟨H0,hH0⟩:∃ q,ckH s a=q:=⟨_,rfl⟩
 rw[hE0] at hCk hct hfb hfs hfn;rw[hH0] at hCk hct;obtain⟨E1,hE1⟩:∃ q,fdE s a key=q:=⟨_,rfl⟩
 obtain⟨V1,hV1⟩:∃ q,fdV s a key=q:=⟨_,rfl⟩
 rw[hE1,hV1] at hfb hfs hfn ⊢;have HG0:Bag w [Zl2 (.agg #[.slice A s.1.1.length ca,.slice B s.1.2.length cb,.slice N s.2.1.length cn,.slice L s.2.2.length cl]) s]:=(Bag.nil w).add (F:=Zl2 _ s) h (Xn _ _);obtain⟨w0,hw0,hg0,hB0,_,hs0⟩:=Uc HG0 (Qb _ _) (.slice A s.1.1.length ca) (.slice B s.1.2.length cb) (.slice N s.2.1.length cn) (.slice L s.2.2.length cl) 29;obtain⟨w1,hw1,hg1,hB1,_,hs1⟩:=Zna hg0 (Qb _ _) (.int .u8 (key.1.toNat:Int)) (.int .u32 key.2.1) (.int .u32 key.2.2);obtain⟨w2,hw2,_,_,_,_,_,hs2,hB2,G2⟩:=Z7 w1 (.int .u8 0) (.int .u32 0) (.int .u32 0) (.int .i64 0) (.slice none 0 0) 54;have HG:=Za ((hg1.below hB2).add (F:=Yg w1.heap.size _ _) G2 (Zr _ _ _));have BB:=Za ((hB0.trans (hB1.mono hB0.size)).trans (hB2.mono (hB0.trans (hB1.mono hB0.size)).size));have lo1:Hid (w.heap.size<=w1.heap.size/\w1.heap.size<w2.heap.size):=Za ⟨(hB0.trans (hB1.mono hB0.size)).size,by omega⟩;obtain⟨s0,s1,s2,s3,_⟩:=HG.out.at 2 rfl;replace hs2:=Za hs2;replace hs1:=Za hs1;replace hs0:=Za hs0;replace hE0:=Za hE0;replace hH0:=Za hH0;replace hE1:=Za hE1;replace hV1:=Za hV1;replace hT:=Za hT;clear HG0 hg1 hg0 h hB2 hB1 hB0 G2;unfold kyV
 go_enter Tryz.func20,Tryz.ntmps20
 go_wp2_with fail
 go_step3
 go_upto_region 1 with fail
 clear hw0 hw1 hw2
 go_wp2_with fail
 with_reducible refine(hCk.out _ _ (HG.out.at 3 rfl)).mono ?_
 rintro e w3 ⟨rfl,hb3⟩;have HR:=Za (HG.out.below hb3);have BR:=Za (BB.out.trans (hb3.mono BB.out.size));have lo3:Hid (w1.heap.size<w3.heap.size/\w.heap.size<=w3.heap.size):=Za ⟨by have:=lo1.out;have:=hb3.size;omega,BR.out.size⟩;clear hb3 s0 s1 s2 s3 hCk HG;by_cases he:E0=0
 case neg =>
  have hq1:(E0 != 0)=true:=by simpa using he
  have hf:=Za (hfb.out he);have G5:w3.heap[w1.heap.size]? = _:=HR.out.at 0 rfl;obtain⟨W9,hW9,g9,gr9,gs9⟩:=Uy (u0:=.int .u8 0) (u1:=.int .u32 0) (u2:=.int .u32 0) (u3:=.int .i64 0) (u4:=.slice none 0 0) G5;obtain⟨n0,n1,n2,n3,n4,_⟩:=Zs g9;obtain⟨f0,f1,f2,f3,f4,f5,_⟩:=Zs G5;have hB9:=Za (BR.out.grown gr9 BR.out.size (fun q e=>by cases e;exact lo1.out.1));replace G5:=Za G5;replace g9:=Za g9;clear gr9 gs9 he
  go_wp2_with fail
  rw[Exit.noGoto_ret];refine Qai (v:=.tuple #[.agg #[.int .u8 0,.int .u32 0,.int .u32 0,.int .i64 0,.slice none 0 0],.int .i64 E0]) (by simp[results,Tryz.results20,go_sem,n0,n1,n2,n3,n4]) rfl ?_;rw[hf.out.1,hf.out.2];exact⟨_,rfl,Zd9 _ _,hB9.out⟩
 obtain⟨ht,_,hh⟩:=hct.out he;have hat:=Za (hta.out ht);obtain⟨_,_,_,l0,l6,_⟩:=htl.out ht;have hfs':=Za (fun x hx=>hfs.out x he hx);have hfn':=Za (fun hx=>hfn.out he hx);subst he;obtain⟨M,hM⟩:∃ M,(rmV s a).1.toNat=M:=⟨_,rfl⟩
 rw[hM] at hat hT';have hHM:Hid (H0=(M:Int)+1):=Za (by omega);have hM6:Hid (M<6):=Za (by omega);replace hM:=Za hM;clear ht hh l0 l6 hct hta htl hfs hfn hfb
 go_wp2_with fail
 go_step3
 go_wp2_with fail
 go_loopw [27,10] (fun vi va wr=>∃ (i l:Nat) (b:Int),i+l=M/\vi=.int .i64 (i:Int)/\va=.int .i64 b/\AtT s l b/\Zcl s l b key=T/\Qam w3.heap.size w3 wr) (fun vi _ _=>7-(intOf vi).toNat)
 case atStart=>exact⟨0,M,a,by omega,rfl,rfl,hat.out,hT'.out,Qb _ _⟩
 case round =>
  obtain⟨i,l,b,hil,rfl,rfl,hab,hone,hbr⟩:=hrel;have HQ:=Za (HR.out.below hbr);have BQ:=Za hbr;have hi5:i<=5:=by have:=hM6.out;omega
  have i0:(i:Int)<H0:=by have:=hHM.out;have:=hM6.out;omega
  have hNd:=Za (fun v W hW=>Zd5 v s b W hW);have hok:=hab.ok;have hmn:=Za hab.may;have hlv:=Za hab.lvl;have hdn:=Za (fun(j:Nat) (hj:l=j+1) (x:It) (hx:x∈(rmV s b).2)=>(by subst hj;exact hab.down hx:AtT s j x.2.1));have hz:=Za (fun(h0:l=0)=>(by subst h0;exact hone.symm.trans (Zi0 s b key):T=(rmV s b).2.reverse.find? fun x=>decide (x.1=key)));have hsu:=Za (fun(j:Nat) (hj:l=j+1)=>(by subst hj;exact hone.symm.trans (Zjx s j b key):T=((rmV s b).2.reverse.find? fun x => !Zo key x.1).bind fun x=>Zcl s j x.2.1 key));obtain⟨nd,hnd⟩:∃ q,rmV s b=q:=⟨_,rfl⟩
  rw[hok,hnd] at hNd;rw[hnd] at hmn hlv hdn hz hsu;have hPl:=Za (fun v W hW=>Zkn v nd key W hW);obtain⟨p,hp⟩:∃ p,Z2 nd key=p:=⟨_,rfl⟩
  obtain⟨t,htt⟩:∃ t,Yl nd key=t:=⟨_,rfl⟩
  rw[hp,htt] at hPl;obtain⟨lw,hlw⟩:∃ q,nd.1=q:=⟨_,rfl⟩
  obtain⟨ll,hl⟩:∃ q,nd.2=q:=⟨_,rfl⟩
  obtain⟨m,hlm⟩:∃ q,ll.length=q:=⟨_,rfl⟩
  rw[hlw,hl,hlm] at hNd;rw[hl] at hdn hz hsu;rw[hlw] at hlv;replace hnd:=Za hnd;replace hlw:=Za hlw;replace hl:=Za hl;replace hlm:=Za hlm;replace hp:=Za hp;replace htt:=Za htt;replace hone:=Za hone;replace hil:=Za hil;have hm5:m<=5:=by
   have:=(Zx hmn.out).1.2.2.1;rw[hl.out,hlm.out] at this;exact this
  clear hok hab hbr;obtain⟨s0,s1,s2,s3,_⟩:=HQ.out.at 2 rfl
  go_wp2_with fail
  with_reducible refine(hNd.out _ _ (HQ.out.at 3 rfl)).mono ?_
  rintro e w4 ⟨Z,zc,rfl,-,h4n,hb4⟩;have h4s:Zae (New wr.heap.size w4) w4 [.slice Z m zc] ll:=by
   obtain⟨_,e,_,h⟩:=h4n;cases e;rw[hl.out] at h;exact h
  obtain⟨w5,hw5,hg5,hB5,-,hs5⟩:=Zfa (((HQ.out.below hb4).add (F:=Z59 _ nd) h4n.drop (Zb3 _ _)).add (F:=Yas wr.heap.size _ ll) h4s (Zqg _ _ _)) (Qb _ _) (.int .i64 lw) (.slice Z m zc);have H5:=Za hg5;have B5:=Za (BQ.out.trans ((hb4.trans (hB5.mono hb4.size)).mono BQ.out.size));replace hs5:=Za hs5;clear s0 s1 s2 s3 hg5 hB5 hb4 h4n h4s hNd
  go_upto_region 8 with fail
  clear hw5;obtain⟨y0,y1,_⟩:=H5.out.at 0 rfl;obtain⟨t0,t1,t2,_⟩:=H5.out.at 4 rfl
  go_upto_region 10 with fail
  go_wp2_with fail
  with_reducible refine(hPl.out _ _ (H5.out.at 2 rfl)).mono ?_
  rintro e w6 ⟨rfl,hb6⟩;have H6:=Za (H5.out.below hb6);have B6:=Za (B5.out.trans (hb6.mono B5.out.size));clear hb6 y0 y1 t0 t1 t2 hPl H5 B5;obtain⟨y0,y1,_⟩:=H6.out.at 0 rfl;cases t with
  | true =>
   have hpm:p<m:=by
    have:=Zbi htt.out;rw[hp.out,hl.out,hlm.out] at this;exact this
   obtain⟨x,hx⟩:∃ x,ll[p]? = some x:=⟨_,Qk (by rw[hlm.out];exact hpm)⟩
   obtain⟨hxk,hf1,hf2⟩:=Ut hmn.out htt.out (x:=x) (by rw[hp.out,hl.out];exact hx);rw[hl.out] at hf1 hf2;obtain⟨ad,E5,ce5,rfl,-,FX⟩:=Zyh (H6.out.at 1 rfl:Zae (New wr.heap.size w6) w6 [.slice Z m zc] ll) hx;obtain⟨⟨z0,z1,z2,z3,z4⟩,hit⟩:=FX w6 (Qb _ _);have i4:(0:Int)<=(p:Int):=by omega
   have i5:(p:Int)<(m:Int):=by omega
   have hxm:=Za (Qx hx);replace hx:=Za hx;replace hxk:=Za hxk;cases l with
   | zero =>
    have e0:lw=0:=hlv.out;have hf:=Za (hfs'.out x ((hz.out rfl).trans hf2));replace e0:=Za e0;have c0:(lw==0)=true:=by rw[e0.out];rfl
    have G5:w6.heap[w1.heap.size]? = _:=H6.out.at 3 rfl;obtain⟨f0,f1,f2,f3,f4,f5,_⟩:=Zs G5;obtain⟨W9,hW9,g9,gr9,gs9⟩:=Uy (u0:=.int .u8 (x.1.1.toNat:Int)) (u1:=.int .u32 x.1.2.1) (u2:=.int .u32 x.1.2.2) (u3:=.int .i64 x.2.1) (u4:=.slice E5 x.2.2.length ce5) G5;obtain⟨n0,n1,n2,n3,n4,_⟩:=Zs g9;have hfin:=Za (show Itm (New w.heap.size W9) W9 (itV x (.slice E5 x.2.2.length ce5)) x from (hit.grown gr9 (fun q e=>by cases e;have:=lo3.out;have:=BQ.out.size;omega)).new (by have:=lo3.out;have:=BQ.out.size;omega) (Qb _ _));have B9:=BR.out.trans (B6.out.mono BR.out.size);have hB9:=Za (B9.grown gr9 B9.size (fun q e=>by cases e;exact lo1.out.1));replace G5:=Za G5;replace g9:=Za g9;clear gr9 gs9 hit FX hf1 hf2 B9
    go_wp2_with fail
    rw[Exit.noGoto_ret];refine Qai (v:=.tuple #[itV x (.slice E5 x.2.2.length ce5),.int .i64 0]) (by simp[results,Tryz.results20,go_sem,n0,n1,n2,n3,n4]) rfl ?_;rw[hf.out.1,hf.out.2];exact⟨_,rfl,hfin.out,hB9.out⟩
   | succ l1 =>
    have c0:(lw==0)=false:=by have:=hlv.out;simp;omega
    have hn1:=Za (hdn.out l1 rfl x hxm.out);have hn2:Hid (Zcl s l1 x.2.1 key=T):=Za (by rw[hsu.out l1 rfl,hf1];rfl);clear FX hf1 hf2 hit
    go_wp2_with fail
    go_roundw
    case rel=>exact⟨i+1,l1,x.2.1,by have:=hil.out;omega,by go_num,rfl,hn1.out,hn2.out,B6.out⟩
    case measure=>have:=hil.out;simp[intOf];omega
  | false =>
   by_cases hp0:0<p
   ·have i6:(0:Int)<(p:Int):=by omega
    cases l with
    | zero =>
     have e0:lw=0:=hlv.out;have c0:¬ (0:Int)<lw:=by omega
     have hf:=Za (hfn'.out ((hz.out rfl).trans (by
      have:=Zgl hmn.out htt.out;rw[hl.out] at this
      exact this)))
     replace e0:=Za e0;have G5:w6.heap[w1.heap.size]? = _:=H6.out.at 3 rfl;obtain⟨f0,f1,f2,f3,f4,f5,_⟩:=Zs G5;obtain⟨W9,hW9,g9,gr9,gs9⟩:=Uy (u0:=.int .u8 0) (u1:=.int .u32 0) (u2:=.int .u32 0) (u3:=.int .i64 0) (u4:=.slice none 0 0) G5;obtain⟨n0,n1,n2,n3,n4,_⟩:=Zs g9;have B9:=BR.out.trans (B6.out.mono BR.out.size);have hB9:=Za (B9.grown gr9 B9.size (fun q e=>by cases e;exact lo1.out.1));replace G5:=Za G5;replace g9:=Za g9;clear gr9 gs9 B9
     go_wp2_with fail
     rw[Exit.noGoto_ret];refine Qai (v:=.tuple #[.agg #[.int .u8 0,.int .u32 0,.int .u32 0,.int .i64 0,.slice none 0 0],.int .i64 6]) (by simp[results,Tryz.results20,go_sem,n0,n1,n2,n3,n4]) rfl ?_;rw[hf.out.1,hf.out.2];exact⟨_,rfl,Zd9 _ _,hB9.out⟩
    | succ l1 =>
     have c0:(0:Int)<lw:=by have:=hlv.out;omega
     obtain⟨j,hj⟩:∃ j,p=j+1:=⟨p-1,by omega⟩
     have hpm:p<=m:=by
      have:=Zcb nd key;rw[hp.out,hl.out,hlm.out] at this;exact this
     obtain⟨x,hx⟩:∃ x,ll[j]? = some x:=⟨_,Qk (by rw[hlm.out];omega)⟩
     have hf1:=Zjb hmn.out (x:=x) htt.out (by rw[hp.out,hj]) (by rw[hl.out];exact hx);rw[hl.out] at hf1;obtain⟨ad,E5,ce5,rfl,-,FX⟩:=Zyh (H6.out.at 1 rfl:Zae (New wr.heap.size w6) w6 [.slice Z m zc] ll) hx;obtain⟨⟨z0,z1,z2,z3,z4⟩,hit⟩:=FX w6 (Qb _ _);have i4:(0:Int)<=(j:Int):=by omega
     have i5:(j:Int)<(m:Int):=by omega
     have i7:(p:Int)-1=(j:Int):=by omega
     have i8:IntKind.i64.wrap (j:Int)=(j:Int):=IntWalk.i64_in _ (by omega);have hxm:=Za (Qx hx);have hn1:=Za (hdn.out l1 rfl x hxm.out);have hn2:Hid (Zcl s l1 x.2.1 key=T):=Za (by rw[hsu.out l1 rfl,hf1];rfl);replace hx:=Za hx;replace hj:=Za hj;clear FX hf1 hit
     go_wp2_with fail
     go_roundw
     case rel=>exact⟨i+1,l1,x.2.1,by have:=hil.out;omega,by go_num,rfl,hn1.out,hn2.out,B6.out⟩
     case measure=>have:=hil.out;simp[intOf];omega
   ·have i6:¬ (0:Int)<(p:Int):=by omega
    have hf:=Za (hfn'.out (by
     cases l with
     | zero =>
      refine(hz.out rfl).trans ?_;have:=Zgl hmn.out htt.out;rw[hl.out] at this;exact this
     | succ l1 =>
      have h1:=Zk6 hmn.out htt.out (by rw[hp.out];omega);rw[hl.out] at h1;rw[hsu.out l1 rfl,h1]
      rfl))
    have G5:w6.heap[w1.heap.size]? = _:=H6.out.at 3 rfl;obtain⟨f0,f1,f2,f3,f4,f5,_⟩:=Zs G5;obtain⟨W9,hW9,g9,gr9,gs9⟩:=Uy (u0:=.int .u8 0) (u1:=.int .u32 0) (u2:=.int .u32 0) (u3:=.int .i64 0) (u4:=.slice none 0 0) G5;obtain⟨n0,n1,n2,n3,n4,_⟩:=Zs g9;have B9:=BR.out.trans (B6.out.mono BR.out.size);have hB9:=Za (B9.grown gr9 B9.size (fun q e=>by cases e;exact lo1.out.1));replace G5:=Za G5;replace g9:=Za g9;clear gr9 gs9 B9
    go_wp2_with fail
    rw[Exit.noGoto_ret];refine Qai (v:=.tuple #[.agg #[.int .u8 0,.int .u32 0,.int .u32 0,.int .i64 0,.slice none 0 0],.int .i64 6]) (by simp[results,Tryz.results20,go_sem,n0,n1,n2,n3,n4]) rfl ?_;rw[hf.out.1,hf.out.2];exact⟨_,rfl,Zd9 _ _,hB9.out⟩}
theorem Z2f {l:List It}{k:Nat}(hr:Zbo l) (hk:k<8\/256<=k):Xj l k=0:=by{
 induction l with
 | nil=>rfl
 | cons x r ih =>
  obtain⟨h1,h2⟩:=Zbz hr;unfold Xj;rw[ih h2];by_cases e:x.2.1=(k:Int)
  ·rw[if_pos e,if_pos (by omega)]
  ·rw[if_neg e]}
theorem Znb {d:Dk}{k:Nat}(hk:k<8\/256<=k):∀ {V:List Int},(∀ n∈V,Zbo (ndD d n).2)->Ze6 d V k=0
 | [],_=>rfl
 | n::r,h=>by
  unfold Ze6;rw[Z2f (h n Qe) hk,Znb hk fun m hm=>h m (Qo _ hm)]
theorem Zsq {s:Rm}:∀ (l:Nat) (a:Int),AtT s l a->∀ n∈Y1 s l a,∃ j,AtT s j n
 | 0,a,h,n,hn=>by
  simp only[Y1,Qg] at hn;exact⟨0,hn ▸ h⟩
 | l+1,a,h,n,hn=>by
  simp only[Y1,Qu,P7] at hn;rcases hn with rfl | ⟨x,hx,hn⟩
  ·exact⟨_,h⟩
  ·exact Zsq l x.2.1 (h.down hx) n hn
theorem Zwq {s:Rm}{P:Nat->Nat}{V roots:List Int}(h1:V.Nodup) (h2:∀ n,n∈V↔∃ r∈roots,n∈Xo s r) (ht:∀ r∈roots,Yo s r=true) (hP:∀ k,k<8\/256<=k->P k=0) (h:∀ k,8<=k->k<256->P k+Ze6 s.1 V k<=Yy s.2.1 k):Enf s.1 s.2.1 P V:=by{
 have hn:∀ n∈V,∃ r∈roots,n∈Xo s r/\rmE s n=0/\ndD s.1 n=rmV s n:=fun n hn=>by
  obtain⟨r,hr,hnr⟩:=(h2 n).1 hn;have he:=(Zau (ht r hr)).node n hnr;exact⟨r,hr,hnr,he,Zab he⟩
 have hrf:∀ n∈V,Zbo (ndD s.1 n).2:=fun n hv=>by
  obtain⟨_,_,_,he,e⟩:=hn n hv;rw[e];exact Vx (Z9 he).1
 refine⟨h1,fun n hv=> ?_,fun n hv h0 x hx=> ?_,hrf,fun k=> ?_⟩
 ·obtain⟨_,_,_,he,_⟩:=hn n hv
  obtain⟨p1,p2,p3⟩:=Xh he;obtain⟨k,rfl,_,_,_,_,_,hE,_,_⟩:=Y6 (Z9 he).2;exact⟨by omega,p2,by rw[show ((k:Int)).toNat=k by omega,<- hE];exact he,V4.2 p3⟩
 ·obtain⟨r,hr,hnr,he,e⟩:=hn n hv
  rw[e] at h0 hx ⊢;have hx1:=((Zau (ht r hr)).sub n hnr x hx).1 h0;have hxV:=(h2 x.2.1).2 ⟨r,hr,hx1⟩;obtain⟨_,_,_,he',e'⟩:=hn _ hxV;obtain⟨j,hj⟩:=Zsq _ _ (Zbt (ht r hr)) n hnr;refine⟨hxV,by have:=(Xh he').1;omega,?_⟩;rw[e'];have hl:=hj.lvl;cases j with
  | zero=>exact absurd hl h0
  | succ i =>
   have:=(hj.down hx).lvl;omega
 ·rcases Pk k 8 with h8 | h8
  ·rw[hP k (.inl h8),Znb (.inl h8) hrf]
   omega
  ·rcases Pk k 256 with h9 | h9
   ·exact h k h8 h9
   ·rw[hP k (.inr h9),Znb (.inr h9) hrf]
    omega}
theorem Z0z {s:Rm}{a:Int}(h:Yo s a=true){k:Ky}{y:It}:Zdv s a k=some y↔y∈Vo s a/\y.1=k:=by{
 constructor
 ·exact Ya8
 ·rintro⟨h1,rfl⟩
  exact(Zhf h).2.2 y h1}
theorem Z5n:∀ {L M:List It},Up L->Up M->(∀ y,y∈L↔y∈M)->L=M
 | [],[],_,_,_=>rfl
 | [],y::r,_,_,h=>by have:=(h y).2 Qe;cases this
 | y::r,[],_,_,h=>by have:=(h y).1 Qe;cases this
 | y::r,z::q,hL,hM,h=>by
  have hyz:y=z:=by
   rcases Qu.1 ((h y).1 Qe) with e | hy
   ·exact e
   ·rcases Qu.1 ((h z).2 Qe) with e | hz
    ·exact e.symm
    ·have h1:=(Q3.1 hM).1 y hy
     have h2:=(Q3.1 hL).1 z hz;rw[Ve h1] at h2;cases h2
  subst hyz;obtain⟨hL1,hL2⟩:=Q3.1 hL;obtain⟨hM1,hM2⟩:=Q3.1 hM
  congr 1
  refine Z5n hL2 hM2 fun w=>⟨fun hw=> ?_,fun hw=> ?_⟩
  ·rcases Qu.1 ((h w).1 (Qo _ hw)) with e | hw'
   ·have:=hL1 w hw
    rw[e,Y2] at this;cases this
   ·exact hw'
  ·rcases Qu.1 ((h w).2 (Qo _ hw)) with e | hw'
   ·have:=hM1 w hw
    rw[e,Y2] at this;cases this
   ·exact hw'
def inB (l:List Int) (k:Nat):Bool:=decide ((k:Int)∈l)
def Z1w (b:Nat) (l:List Int):Qaf->Prop:=fun W=>∃ vs:Array Qag,W.heap[b]? = some (.cells vs 85 (0,0))/\∀ k,k<256->vs[k]? = some (.bool (inB l k))
theorem Zv9 (b:Nat) (l:List Int):Ze0 (Z1w b l):=fun _ _ h hb=>by
 obtain⟨vs,h1,h2⟩:=h;exact⟨vs,(hb.block b (Qc.1 h1).1).trans h1,h2⟩
theorem Z78 {b:Nat}{l:List Int}{W:Qaf}(h:Z1w b l W):b<W.heap.size:=by
 obtain⟨vs,h1,_⟩:=h;exact(Qc.1 h1).1
theorem Ziz {b:Nat}{l:List Int}{W:Qaf}(h:Z1w b l W){k:Nat}(hk:k<256):W.cell? ⟨b,k,none⟩=some (.bool (inB l k)):=by
 obtain⟨vs,h1,h2⟩:=h;simp[Q0,h1,h2 k hk]
theorem Zsr {b:Nat}{l:List Int}{W:Qaf}(h:Z1w b l W) (k:Nat):W.frozen? ⟨b,k,none⟩=false:=by
 obtain⟨vs,h1,_⟩:=h;simp[Qaa,h1]
theorem Z23 {b:Nat}{l:List Int}{W:Qaf}(h:Z1w b l W) (k:Nat):Z1w b (l++[(k:Int)]) (W.setCell ⟨b,k,none⟩ (.bool true)):=by{
 obtain⟨vs,h1,h2⟩:=h;refine⟨vs.setIfInBounds k (.bool true),by simp[Q8,Q9,h1],fun j hj=> ?_⟩;rw[Qab];have hs:j<vs.size:=(Qc.1 (h2 j hj)).1;by_cases e:k=j
 ·subst e
  simp[inB,hs]
 ·have hi:inB (l++[(k:Int)]) j=inB l j:=decide_eq_decide.2 (by
   rw[Qf,Qg]
   exact⟨fun h=>h.resolve_right (by omega),Or.inl⟩)
  rw[if_neg e,h2 j hj,hi]}
theorem Zwi {b:Nat}{l:List Int}{W:Qaf}(h:Z1w b l W){c:Nat}(hne:c≠b) (k:Nat) (v:Qag):Z1w b l (W.setCell ⟨c,k,none⟩ v):=by
 obtain⟨vs,h1,h2⟩:=h;exact⟨vs,by simp[Q8,Q9,h1,hne],h2⟩
theorem Z1j:Tryz.zeroCells85=Array.replicate 256 (.bool false):=by kernel_rfl
theorem Ybm {w:Qaf}{U:Option Qah}{n c:Nat}{l:List Int}(h:rSl 1 (rK .i64) (Old w) w [.slice U n c] l){k:Nat}{x:Int}(hx:l[k]? = some x) :
  ∃ ad,U=some ad/\∀ W,Qam w.heap.size w W->W.cell? (ad.add k)=some (.int .i64 x):=by
 obtain⟨A,cap,e,_,_,h2⟩:=h;simp only[List.cons.injEq,Value.slice.injEq,and_true] at e;obtain⟨rfl,_,_⟩:=e;obtain⟨ad,vs,rfl,_,e3,e4⟩:=h2 k x hx;obtain⟨rfl,_,_⟩:=e4;have:=e3 0 _ rfl;simp only[Nat.mul_one,Nat.add_zero] at this;exact⟨ad,rfl,fun W hW=>(hW.cell (p:=ad.add k) this.1).trans this.2⟩
def Cnt (g:Nat) (f:Nat->Int):Qaf->Prop:=fun W=>∃ vs:Array Qag,W.heap[g]? = some (.cells vs 86 (0,0))/\∀ k,k<256->vs[k]? = some (.int .i64 (f k))
theorem Zy7 (g:Nat) (f:Nat->Int):Ze0 (Cnt g f):=fun _ _ h hb=>by
 obtain⟨vs,h1,h2⟩:=h;exact⟨vs,(hb.block g (Qc.1 h1).1).trans h1,h2⟩
theorem Zsi {g:Nat}{f:Nat->Int}{W:Qaf}(h:Cnt g f W):g<W.heap.size:=by
 obtain⟨vs,h1,_⟩:=h;exact(Qc.1 h1).1
theorem Zmq {g:Nat}{f:Nat->Int}{W:Qaf}(h:Cnt g f W){k:Nat}(hk:k<256):W.cell? ⟨g,k,none⟩=some (.int .i64 (f k)):=by
 obtain⟨vs,h1,h2⟩:=h;simp[Q0,h1,h2 k hk]
theorem Z0o {g:Nat}{f:Nat->Int}{W:Qaf}(h:Cnt g f W) (k:Nat):W.frozen? ⟨g,k,none⟩=false:=by
 obtain⟨vs,h1,_⟩:=h;simp[Qaa,h1]
def upF (f:Nat->Int) (k:Nat):Nat->Int:=fun i=>if i=k then f i+1 else f i
theorem Z7d {g:Nat}{f:Nat->Int}{W:Qaf}(h:Cnt g f W) (k:Nat):Cnt g (upF f k) (W.setCell ⟨g,k,none⟩ (.int .i64 (f k+1))):=by{
 obtain⟨vs,h1,h2⟩:=h;refine⟨vs.setIfInBounds k (.int .i64 (f k+1)),by simp[Q8,Q9,h1],fun j hj=> ?_⟩;unfold upF;rw[Qab];have hlt:j<vs.size:=(Qc.1 (h2 j hj)).1;by_cases e:k=j
 ·subst e
  rw[if_pos rfl,if_pos rfl];simp[hlt]
 ·rw[if_neg e,if_neg (fun e'=>e e'.symm)]
  exact h2 j hj}
theorem Zz6 {g:Nat}{f:Nat->Int}{W:Qaf}(h:Cnt g f W){c:Nat}(hne:c≠g) (k:Nat) (v:Qag):Cnt g f (W.setCell ⟨c,k,none⟩ v):=by
 obtain⟨vs,h1,h2⟩:=h;exact⟨vs,by simp[Q8,Q9,h1,hne],h2⟩
def Zc7:List Int->Nat->Nat
 | [],_=>0
 | n::r,i=>(if n=(i:Int) then 1 else 0)+Zc7 r i
theorem Zi1 (n:Int) (i:Nat):∀ l:List Int,Zc7 (l++[n]) i=Zc7 l i+if n=(i:Int) then 1 else 0
 | []=>by simp[Zc7]
 | m::r=>by
  rw[Qz];unfold Zc7;rw[Zi1 n i r];omega
theorem Zmb (i:Nat):∀ l:List Int,Zc7 l i<=l.length
 | []=>Qd _
 | m::r=>by
  unfold Zc7;have:=Zmb i r;rw[Qi];split <;> omega
def Zui:List It->Nat->Nat
 | [],_=>0
 | x::r,i=>(if x.2.1=(i:Int) then 1 else 0)+Zui r i
theorem Zn7 (x:It) (i:Nat):∀ l:List It,Zui (l++[x]) i=Zui l i+if x.2.1=(i:Int) then 1 else 0
 | []=>by simp[Zui]
 | m::r=>by
  rw[Qz];unfold Zui;rw[Zn7 x i r];omega
theorem Zl0 (i:Nat):∀ l:List It,Zui l i<=l.length
 | []=>Qd _
 | m::r=>by
  unfold Zui;have:=Zl0 i r;rw[Qi];split <;> omega
theorem Ztc {i:Nat}(hi:1<=i):∀ l:List It,Zui l i=Xj l i
 | []=>rfl
 | x::r=>by
  unfold Zui Xj;rw[Ztc hi r];by_cases e:x.2.1=(i:Int)
  ·rw[if_pos e,if_pos e,if_neg (by omega)]
  ·rw[if_neg e,if_neg e]
def Zqc (s:Rm):List Int->Nat->Nat
 | [],_=>0
 | n::r,i=>Zui (rmV s n).2 i+Zqc s r i
theorem Zn2 (s:Rm) (n:Int) (i:Nat):∀ l:List Int,Zqc s (l++[n]) i=Zqc s l i+Zui (rmV s n).2 i
 | []=>by simp[Zqc]
 | m::r=>by
  rw[Qz];unfold Zqc;rw[Zn2 s n i r];omega
theorem Zs3 (s:Rm) (i:Nat):∀ l:List Int,(∀ n∈l,rmE s n=0)->Zqc s l i<=5*l.length
 | [],_=>Nat.zero_le _
 | m::r,h=>by
  unfold Zqc;have h1:=Zs3 s i r fun n hn=>h n (Qo _ hn)
  have h2:=Zl0 i (rmV s m).2;have h3:=(Zx (Z9 (h m Qe)).1).1.2.2.1;rw[Qi];omega
theorem Zme {s:Rm}{i:Nat}(hi:1<=i):∀ l:List Int,(∀ n∈l,rmE s n=0)->Zqc s l i=Ze6 s.1 l i
 | [],_=>rfl
 | m::r,h=>by
  unfold Zqc Ze6;rw[Zme hi r fun n hn=>h n (Qo _ hn),Ztc hi,Zab (h m Qe)]
theorem Zjm:∀ (k:Nat) (l:List Int),l.Nodup->(∀ n∈l,0<=n/\n<(k:Int))->l.length<=k
 | 0,l,_,h=>by
  cases l with
  | nil=>exact Qd _
  | cons n r =>
   have:=h n Qe;omega
 | k+1,l,hd,h=>by
  have h1:=Zjm k (l.filter fun n=>decide (n≠(k:Int))) (hd.filter _) fun n hn=>by
   obtain⟨hn,hne⟩:=Qac.1 hn;have:=h n hn;have hne:n≠(k:Int):=by simpa using hne
   omega
  have h2:l.length<=(l.filter fun n=>decide (n≠(k:Int))).length+1:=by
   clear h h1
   induction l with
   | nil=>simp
   | cons m r ih =>
    obtain⟨h3,h4⟩:=List.nodup_cons.1 hd;by_cases e:m=(k:Int)
    ·have:(r.filter fun n=>decide (n≠(k:Int)))=r:=P8.2 fun n hn=>by
      simp;intro e';exact h3 (by rw[e,<- e'];exact hn)
     rw[List.filter_cons_of_neg (by simpa using e),this,Qi];omega
    ·rw[List.filter_cons_of_pos (by simpa using e),Qi,Qi]
     have:=ih h4;omega
  omega
theorem Zh6 {i:Nat}:∀ {l:List Int},(∀ n∈l,n≠(i:Int))->Zc7 l i=0
 | [],_=>rfl
 | m::r,h=>by
  unfold Zc7;rw[Zh6 fun n hn=>h n (Qo _ hn),if_neg (h m Qe)]
theorem Zz4 (s:Rm) (r:Int):r∈Xo s r:=by
 unfold Xo;rw[Y1.eq_def];split
 ·exact Qg.2 rfl
 ·exact Qe
theorem Zqp {s:Rm}{r:Int}(h:ckE s r=0):8<=r/\r<256:=by
 have:=Xh (Xf (Zam h).1).1;omega
theorem Z71 {s:Rm}{roots held V:List Int}(ht:∀ r∈roots,ckE s r=0) (h1:V.Nodup) (h2:∀ n,n∈V↔∃ r∈roots,n∈Xo s r) (h3:∀ x∈held,8<=x/\x<256) (h:∀ i:Nat,1<=i->i<256->Zc7 held i+Zc7 roots i+Ze6 s.1 V i<=Yy s.2.1 i) :
  Enf s.1 s.2.1 (fun i=>Zc7 held i+Zc7 roots i) V/\∀ r∈roots,r∈V:=by
 refine⟨Zwq h1 h2 (fun r hr=>(Zam (ht r hr)).1) (fun k hk=> ?_) (fun k h8 h256=>h k (by omega) h256),fun r hr=>(h2 r).2 ⟨r,hr,Zz4 s r⟩⟩;have e1:Zc7 held k=0:=Zh6 fun n hn=>by have:=h3 n hn;omega
 have e2:Zc7 roots k=0:=Zh6 fun n hn=>by have:=Zqp (ht n hn);omega
 rw[e1,e2]
theorem Zqj {s:Rm}{a:Int}{x:It}{l:List Sv}(h:(Zhd s a x l).1=0):ckE s a=0/\Zil s x=0:=by{
 unfold Zhd at h;by_cases h1:ckE s a=0
 ·rw[if_neg (fun h=>h h1)] at h
  by_cases h2:Zil s x=0
  ·exact⟨h1,h2⟩
  ·rw[if_pos h2] at h
   exact absurd h h2
 ·rw[if_pos h1] at h
  exact absurd h h1}
theorem Ybt (w:Qaf) (v:Qag) (t:TypeId):∃ w1,w.alloc (.cells #[v] t)=w1/\w1.heap[w.heap.size]? = some (.cells #[v] t (0,0))/\w1.heap.size=w.heap.size+1/\Qam w.heap.size w w1 :=
 ⟨_,rfl,Qaj _ _,by simp,(Qb _ _).alloc (Qd _) _⟩
theorem Ybz {s:Rm}{a:Int}(h:ckE s a=0):Zka a:=by
 have:=Zqp h;exact⟨by omega,by omega⟩
theorem Z2n {s u:Rm}{P:Nat->Nat}{N M:List Int}{a now:Int}{x:It}(hck:ckE s a=0) (H:Z7h s u P N M a now x):ckE u now=0/\ckH s a<=ckH u now/\ckH u now<=ckH s a+1:=by
 obtain⟨_,_,h1⟩:=Zam hck;obtain⟨h2,h3⟩:=Zjc (Xf H.tree).2.1 H.tree;have:=H.tall;exact⟨h2,by omega,by omega⟩
structure Z5g (s:Rm) (a:Int):Prop where
 ck:ckE s a=0
 enf:∃ M,a∈M/\Enf s.1 s.2.1 (fun i=>if i=a.toNat then 1 else 0) M
theorem Z79 {s u:Rm}{N M:List Int}{a now:Int}{x:It}(hck:ckE s a=0) (H:Z7h s u (fun _=>0) N M a now x):Z5g u now :=
 ⟨(Z2n hck H).1,M,H.root,H.enf.same fun i=>by show (if i=now.toNat then 1 else 0)=0+if i=now.toNat then 1 else 0;omega⟩
theorem Zrq {s:Rm}{a:Int}{V:List Int}(hck:ckE s a=0) (h1:V.Nodup) (h2:∀ n,n∈V↔∃ r∈[a],n∈Xo s r) (h:∀ i:Nat,1<=i->i<256->Zc7 [] i+Zc7 [a] i+Ze6 s.1 V i<=Yy s.2.1 i):Z5g s a:=by
 obtain⟨hE,hin⟩:=Z71 (fun r hr=>by rw[Qg.1 hr];exact hck) h1 h2 (fun x hx=>by cases hx) h;have ha8:=Zqp hck;refine⟨hck,V,hin a (Qg.2 rfl),hE.same fun i=> ?_⟩;show (if i=a.toNat then 1 else 0)=0+((if a=(i:Int) then 1 else 0)+0);by_cases e:i=a.toNat
 ·rw[if_pos e,if_pos (show a=(i:Int) by omega)]
 ·rw[if_neg e,if_neg (show ¬ a=(i:Int) by omega)]
theorem Z28 {s:Rm}{a:Int}{x:It}{l:List Sv}(hx:InI x) (h0:x.2.1=0) (h:Z5g s a) (hp:(Zhd s a x l).1=0) (hl:ckE s a=0->Zil s x=0->Z5e s x.1 a l):Z5g (Zhd s a x l).2.1 (Zhd s a x l).2.2/\Vo (Zhd s a x l).2.1 (Zhd s a x l).2.2=Vu (Vo s a) x:=by
 obtain⟨hck,hci⟩:=Zqj hp;obtain⟨_,M,ha,hE⟩:=h;have hh:∀ i,Zaf x i=0:=fun i=>by unfold Zaf;rw[if_neg (fun h=>h.1 h0)]
 have hS:=(Zxf (P:=fun i=>if i=a.toNat then 1 else 0) hx hck hci ha (hE.same fun i=>by show (if i=a.toNat then 1 else 0)+Zaf x i=_;rw[hh];rfl) (hl hck hci)).1;rw[hS] at hp ⊢;obtain⟨M',H⟩:=Z9p (P:=fun _=>0) hx (Zam hck).1 ha (.inl h0) (hE.same fun i=>by show 0+(if i=a.toNat then 1 else 0)+Zaf x i=(if i=a.toNat then 1 else 0);rw[hh];omega) (Prod.ext hp rfl:Zhb s a x=(0,(Zhb s a x).2.1,(Zhb s a x).2.2));exact⟨Z79 hck H,H.all⟩
theorem Z7y {s:Rm}{a:Int}(h:Z5g s a):Up (Vo s a):=(Zhf (Zam h.ck).1).1
theorem Zft {s:Rm}{a:Int}(h:Z5g s a):(Vo s a).length<=15625:=(Zhf (Zam h.ck).1).2.1
def Zkk (lo n:Nat) (L:List It) (v:Qag) (W:Qaf):Prop:=∃ (u:Option Qah) (c:Nat),v=.slice u n c/\Zae (New lo W) W [.slice u n c] L
theorem Zkk.below {lo n:Nat}{L:List It}{v:Qag}{W W':Qaf}(h:Zkk lo n L v W) (hb:Qam W.heap.size W W'):Zkk lo n L v W':=by
 obtain⟨u,c,e,h⟩:=h;exact⟨u,c,e,Y8.new h (Qd _) hb⟩
theorem Zud (qa qb qc qd:Option Qah×Nat×Nat){s:Rm}{a:Int}{L:List It}{n:Nat}(hL:raV s a Zbh Zwx=L) (hn:L.length=n) (lo:Nat) (w:Qaf) (hlo:lo<=w.heap.size) (h:Sto (Old w) w (.agg #[.slice qa.1 qa.2.1 qa.2.2,.slice qb.1 qb.2.1 qb.2.2,.slice qc.1 qc.2.1 qc.2.2,.slice qd.1 qd.2.1 qd.2.2]) s) :
  Qal Tryz.prog 13 #[.agg #[.slice qa.1 qa.2.1 qa.2.2,.slice qb.1 qb.2.1 qb.2.2,.slice qc.1 qc.2.1 qc.2.2,.slice qd.1 qd.2.1 qd.2.2],.int .i64 a] w fun e w'=>∃ v,e=.returned v/\Zkk lo n L v w'/\Qam w.heap.size w w':=by
 refine(Ztb qa qb qc qd s a w h).mono ?_;rintro e w' ⟨u,c,rfl,h1,hb⟩;rw[hL,hn] at h1 ⊢;exact⟨_,rfl,⟨u,c,rfl,Y8.new (lo':=lo) h1 hlo (Qb _ _)⟩,hb⟩
theorem Z0a {lo lo' n m:Nat}{L M:List It}{v u:Qag}{b:Bool}{w:Qaf}(hv:Zkk lo n L v w) (hu:Zkk lo' m M u w) (hn:L.length=n) (hm:M.length=m) (hn1:n<1000000) (hm1:m<1000000) (hb:decide (L=M)=b) :
  Qal Tryz.prog 21 #[v,u] w fun e w'=>e=.returned (.bool b)/\Qam w.heap.size w w':=by
 obtain⟨A,ca,rfl,h1⟩:=hv;obtain⟨B,cb,rfl,h2⟩:=hu;rw[<- hb];exact Zzz A n ca B m cb L M hn hm hn1 hm1 w (Y8.drop h1) (Y8.drop h2)
def Yab (tb:Ky) (e:Bool) (tb':Ky) (e':Bool):Prop:=e'=true->e=true/\Zo tb' tb=false
theorem Zot {a b c:Ky}(h:Zo a b=true) (h':Zo c b=false):Zo a c=true:=Zq5 h h'
theorem Zn1 {l:List It}{k tb tb':Ky}{e e':Bool}(h:Zel l k tb e=true) (hw:Yab tb e tb' e'):Zel l k tb' e'=true:=by{
 unfold Zel at h ⊢;rw[Qh] at h ⊢;refine⟨h.1,?_⟩;cases he:e' with
 | false=>rfl
 | true =>
  obtain⟨e1,e2⟩:=hw he;have h2:=h.2;rw[e1] at h2;cases hz:l.getLast? with
  | none=>rw[hz] at h2;simp at h2
  | some z =>
   rw[hz] at h2;have h3:Zo z.1 tb=true:=by simpa using h2
   simp[Zot h3 e2]}
theorem Zfp {f:Int->Ky->Ky->Bool->Bool}(hf:∀ a k tb e tb' e',f a k tb e=true->Yab tb e tb' e'->f a k tb' e'=true):∀ (l:List It) (tb tb':Ky) (e e':Bool),Zax f l tb e=true->Yab tb e tb' e'->Zax f l tb' e'=true
 | [],_,_,_,_,_,_=>rfl
 | [x],tb,tb',e,e',h,hw=>hf _ _ _ _ _ _ h hw
 | x::y::r,tb,tb',e,e',h,hw=>by
  rw[Vl,Qh] at h ⊢;exact⟨h.1,Zfp hf (y::r) tb tb' e e' h.2 hw⟩
theorem Zd6 {s:Rm}:∀ (l:Nat) (a:Int) (k tb:Ky) (e:Bool) (tb':Ky) (e':Bool),Zy s l a k tb e=true->Yab tb e tb' e'->Zy s l a k tb' e'=true
 | 0,a,k,tb,e,tb',e',h,hw=>by
  obtain⟨h1,h2,h3,h4⟩:=Ya h;unfold Zy;rw[h1,h2,Zn1 h3 hw,show Yr s (rmV s a).2=true from h4];rfl
 | l+1,a,k,tb,e,tb',e',h,hw=>by
  obtain⟨h1,h2,h3,h4⟩:=Ya h;unfold Zy;rw[h1,h2,Zn1 h3 hw,Zfp (fun a k tb e tb' e' h hw=>Zd6 l a k tb e tb' e' h hw) _ _ _ _ _ h4 hw];simp
theorem Z22 {s:Rm}{lv:Nat}{L M:List It}{tb tb':Ky}{e e':Bool}(h:Zkq s lv L tb e M) (hw:Yab tb e tb' e'):Zkq s lv L tb' e' M:=by
 cases lv with
 | zero=>exact⟨h.1,h.2.1,fun he y hy=>Zot (h.2.2.1 (hw he).1 y hy) (hw he).2,h.2.2.2⟩
 | succ l=>exact⟨Zfp (Zd6 l) _ _ _ _ _ h.1 hw,h.2⟩
theorem Zxe {s:Rm}{lv:Nat}{M:List It}{tb:Ky}{e:Bool}(h:Zkq s lv [] tb e M):M=[]:=by
 cases lv with
 | zero=>exact h.2.2.2
 | succ l=>exact h.2
theorem Zzi {s:Rm}{lv:Nat}{A B M1 M2:List It}{tb:Ky}{e:Bool}(hB:B≠[]) (h1:Zkq s lv A (Zns B) true M1) (h2:Zkq s lv B tb e M2):Zkq s lv (A++B) tb e (M1++M2):=by{
 obtain⟨y,r,rfl⟩:=Q7 hB;cases lv with
 | zero =>
  obtain⟨u1,l1,b1,rfl⟩:=h1;obtain⟨u2,l2,b2,rfl⟩:=h2;have hAy:∀ a∈M1,∀ b∈y::r,Zo a.1 b.1=true:=fun a ha b hb=>by
   have h1:Zo a.1 y.1=true:=b1 rfl a ha;rcases Zdw u2 b hb with e1 | e1
   ·rw[e1];exact h1
   ·exact Yt h1 e1
  refine⟨Qad.2 ⟨u1,u2,hAy⟩,?_,fun he a ha=> ?_,rfl⟩
  ·unfold Yr at l1 l2 ⊢
   rw[List.all_append,l1,l2];rfl
  ·rcases Qf.1 ha with ha | ha
   ·exact Yt (hAy a ha y Qe) (b2 he y Qe)
   ·exact b2 he a ha
 | succ l =>
  obtain⟨i1,rfl⟩:=h1;obtain⟨i2,rfl⟩:=h2;refine⟨?_,by rw[Qv]⟩;rw[Y3,Qh];exact⟨i1,i2⟩}
theorem Zps {s:Rm}{l:Nat}{a:Int}{k tb:Ky}{e:Bool}(h:Zy s l a k tb e=true):Zkq s l (rmV s a).2 tb e (X2 s l a)/\(rmV s a).2≠[]/\Zns (rmV s a).2=k:=by{
 obtain⟨h1,h2,h3,h4⟩:=Ya h;obtain⟨x,r,e1,e2,e3⟩:=Zbs h3;refine⟨?_,by rw[e1];simp,by rw[e1];exact e2⟩;cases l with
 | zero =>
  refine⟨Uk (Z9 h1).1,h4,fun he y hy=> ?_,rfl⟩;obtain⟨z,hz,hb⟩:=e3 he;exact Zq8 (Uk (Z9 h1).1) hz hb y hy
 | succ l=>exact⟨h4,rfl⟩}
def Zd2 (k:Ky) (M:List It):List It:=M.filter fun y=>decide (y.1≠k)
theorem Zeq (k:Ky) (A B:List It):Zd2 k (A++B)=Zd2 k A++Zd2 k B:=List.filter_append ..
theorem Zds {k:Ky}{M:List It}(h:∀ y∈M,y.1≠k):Zd2 k M=M:=Zgc fun y hy=>by simpa using h y hy
theorem Z5t {k:Ky}{M:List It}(h:Up M):Up (Zd2 k M):=List.Pairwise.filter _ h
theorem Zij {k:Ky}{M:List It}{y:It}:y∈Zd2 k M↔y∈M/\y.1≠k:=by
 unfold Zd2;rw[Qac,decide_eq_true_eq]
theorem Zq4 {a b:Ky}(h:Zo a b=true):a≠b:=fun e=>by rw[e,Y2] at h;cases h
theorem Zmm {a b:Ky}(h:Zo a b=true):b≠a:=fun e=>Zq4 h e.symm
def Yk (s:Rm) (M:List It) (p:Nat) (L:List It):Nat×Nat×List It :=
 match M[p+1]? with
 | some c=>if (rmV s c.2.1).2.length+L.length<=5 then (p,2,L++(rmV s c.2.1).2) else (p,1,L)
 | none=>if p=0 then (p,1,L) else match M[p-1]? with
  | some b=>if (rmV s b.2.1).2.length+L.length<=5 then (p-1,2,(rmV s b.2.1).2++L) else (p,1,L)
  | none=>(p,1,L)
def Yf (k:Ky):Nat->Rm->Int->Int×Rm×List It×Int
 | 0,s,a=>(0,s,Zd2 k (rmV s a).2,0)
 | l+1,s,a =>
  match Yf k l s (Zci (rmV s a) k) with
  | (e,t,L,held) =>
   if e=0 then
    if L=[] then (0,t,Zbb (rmV s a).2 (Xk (rmV s a) k) 1 [],0)
    else match Yk s (rmV s a).2 (Xk (rmV s a) k) L with
     | (first,many,L')=>match Zq t (l:Int) L' with
      | (f,u,up)=>if f=0 then (0,(if held=0 then u else Vw u held),Zbb (rmV s a).2 first many (up.take 1),Zch up) else (f,Zj,[],0)
   else (e,Zj,[],0)
def Zdd (a:Int) (i:Nat):Nat:=if a≠0/\i=a.toNat then 1 else 0
structure Zcw (k:Ky) (s t:Rm) (P:Nat->Nat) (N N':List Int) (l:Nat) (a:Int) (L:List It) (held:Int) (tb:Ky) (e:Bool):Prop where
 keep:Xv s t
 row:Zkq t l L tb e (Zd2 k (X2 s l a))
 up:L≠[]->∀ y q,(rmV s a).2=y::q->Zo (Zns L) y.1=false
 enf:Enf t.1 t.2.1 (fun i=>P i+Zdd held i) N'
 more:∀ m∈N,m∈N'
 sub:l≠0->∀ q∈L,q.2.1∈N'/\q.2.1≠0/\(ndD t.1 q.2.1).1+1=(l:Int)
 own:held=0\/(8<=held/\∃ q∈L,q.2.1=held)
 inI:∀ q∈L,InI q
 few:L.length<=(rmV s a).2.length
 writes:t.1.2.length<=s.1.2.length+l
theorem Zpk {l:Nat}(h:l<6){L:List It}(hi:∀ q∈L,InI q):InN ((l:Int),L):=⟨⟨by show (-9223372036854775808:Int)<=(l:Int);omega,by show (l:Int)<=9223372036854775807;omega⟩,hi⟩
theorem Zgx {k:Ky}{l:Nat}(h6:l+1<6){s t u:Rm}{P Q:Nat->Nat}{N N1:List Int}{a:Int}{tb:Ky}{e:Bool}{A mid C L up:List It}{y0:It}{mr:List It}{held:Int}
  (ht:Znj s (l+1) a tb e) (ha:a∈N) (hE:Enf s.1 s.2.1 Q N) (hw:(rmV s a).2=A++(mid++C)) (hm:mid=y0::mr)
  (hA:∀ q∈A.flatMap (fun x=>X2 s l x.2.1),q.1≠k) (hC:∀ q∈C.flatMap (fun x=>X2 s l x.2.1),q.1≠k)
  (kt:Xv s t) (hrow:Zkq t l L (nxO C tb) (bxO C e) (Zd2 k (mid.flatMap fun x=>X2 s l x.2.1))) (hne:L≠[]) (hlow:Zo (Zns L) y0.1=false)
  (hEt:Enf t.1 t.2.1 (fun i=>P i+Zdd held i) N1) (more:∀ m∈N,m∈N1) (hsub:l≠0->∀ q∈L,q.2.1∈N1/\q.2.1≠0/\(ndD t.1 q.2.1).1+1=(l:Int)) (hown:held=0\/(8<=held/\∃ q∈L,q.2.1=held))
  (hin:∀ q∈L,InI q) (hwr:t.1.2.length<=s.1.2.length+l) (h5:L.length<=5) (hb:Zq t (l:Int) L=(0,u,up)) :
  ∃ N2,Zcw k s (if held=0 then u else Vw u held) P N N2 (l+1) a (A++(up.take 1++C)) (Zch up) tb e:=by{
 have hiL:=Zpk (by omega:l<6) hin;obtain⟨N2,e1,k1,e3,e4,e5,e6,_,_⟩:=Zac hb hiL hEt fun h0=>hsub (by omega);have hkey:=Zj0 hb hne;rcases X9 hb with ⟨h1,hu,hup⟩ | ⟨h0,_⟩
 ·obtain⟨g1,g2⟩:=Za5 h1 hiL hne hrow
  rw[<- hu] at g1 g2;generalize hz:upI L (mkN t ((l:Int),L))=z at *;have hzr:mkN t ((l:Int),L)=z.2.1:=by rw[<- hz];rfl
  have hzk:Zns L=z.1:=by rw[<- hz];rfl
  rw[hzr,hzk] at g1;rw[hzr] at g2;subst hup;obtain⟨z1,z8,z256,zl⟩:=e5 z Qe;have hK:Xv u (if held=0 then u else Vw u held)/\Enf (if held=0 then u else Vw u held).1 (if held=0 then u else Vw u held).2.1 (fun i=>P i+Zdd z.2.1 i) N2/\(if held=0 then u else Vw u held).1=u.1:=by
   have hzc:∀ i,Zdd z.2.1 i=Xj [z] i:=fun i=>by
    rw[Zlq z8];unfold Zdd;by_cases ei:i=z.2.1.toNat
    ·rw[if_pos ⟨by omega,ei⟩,if_pos ei]
    ·rw[if_neg (fun h=>ei h.2),if_neg ei]
   by_cases h0:held=0
   ·rw[if_pos h0]
    exact⟨Zeb k1.may,e1.same fun i=>by rw[hzc];simp[Zdd,h0],rfl⟩
   ·rw[if_neg h0]
    obtain⟨h8,q,hq,hqh⟩:8<=held/\∃ q∈L,q.2.1=held:=by
     rcases hown with h | h
     ·exact absurd h h0
     ·exact h
    obtain⟨n,hn,hqn⟩:=e6 q hq
    obtain⟨f1,f2⟩:=Zjl (a:=held) (P:=fun i=>P i+Zdd z.2.1 i) k1.may (e1.same fun i=>by
     show P i+Zdd z.2.1 i+(if i=held.toNat then 1 else 0)=P i+Zdd held i+Xj [z] i;rw[hzc];unfold Zdd;by_cases ei:i=held.toNat
     ·rw[if_pos ei,if_pos ⟨h0,ei⟩];omega
     ·rw[if_neg ei,if_neg fun h=>ei h.2];omega) (by omega) ⟨n,hn,q,hqn,hqh⟩
    exact⟨f1,f2,rfl⟩
  obtain⟨k2,e7,hd⟩:=hK;generalize (if held=0 then u else Vw u held)=v at *;have ksv:Xv s v:=Xp (Xp kt k1) k2;have hinn:Zax (Zy s l) (rmV s a).2 tb e=true:=ht.inn;rw[hw,Y3,Y3,Qh,Qh] at hinn;obtain⟨iA,iM,iC⟩:=hinn;have hkf:∀ a k tb e,Zy s l a k tb e=true->Zy v l a k tb e=true:=fun a k tb e hf=>(Z8 ksv l a k tb e hf).1
  obtain⟨g3,g4,_⟩:=Z8 k2 l _ _ _ _ g1;have hits:Zax (Zy v l) (A++([z]++C)) tb e=true:=by
   rw[Y3,Qh];refine⟨?_,?_⟩
   ·subst hm
    refine Zfp (Zd6 l) _ y0.1 _ true _ (Ux hkf _ _ _ iA) fun _=>⟨rfl,?_⟩
    show Zo z.1 y0.1=false;rw[<- hzk];exact hlow
   ·show Zax (Zy v l) (z::C) tb e=true
    rw[Vl,Qh];exact⟨g3,Ux hkf _ _ _ iC⟩
  have hfl:∀ {B:List It} {tb:Ky} {e:Bool},Zax (Zy s l) B tb e=true->(B.flatMap fun x=>X2 v l x.2.1)=B.flatMap fun x=>X2 s l x.2.1:=fun {B tb e} hB=>X7 fun q hq=>by
   obtain⟨t',e',hf⟩:=Xu hB q hq;exact(Z8 ksv l _ _ _ _ hf).2.1
  have hall:Zd2 k (X2 s (l+1) a)=(A++([z]++C)).flatMap fun x=>X2 v l x.2.1:=by
   have e0:X2 s (l+1) a=(rmV s a).2.flatMap fun q=>X2 s l q.2.1:=rfl
   rw[e0,hw,Qv,Qv,Zeq,Zeq,Zds hA,Zds hC,Qv,Qv,hfl iA,hfl iC,<- g2,<- g4];simp
  have hnd:ndD s.1 a=rmV s a:=Zab ht.ok;have Zaf:∀ q∈(rmV s a).2,q.2.1∈N2/\q.2.1≠0/\(ndD v.1 q.2.1).1+1=((l+1:Nat):Int):=fun q hq=>by
   have:=hE.shut a ha (by rw[hnd,ht.lv];omega) q (by rw[hnd];exact hq);rw[hnd,ht.lv] at this;obtain⟨f1,f2,f3⟩:=this;exact⟨e3 _ (more _ f1),f2,by rw[Zet ksv hE f1];exact f3⟩
  have hNI:=(Ze5 ht.ok).it;rw[hw] at Zaf hNI;refine⟨N2,ksv,⟨hits,hall⟩,fun _ y q ey=> ?_,e7,fun m hm=>e3 m (more m hm),fun _ q hq=> ?_,.inr ⟨z8,z,Ql _ (Qy _ Qe),rfl⟩,fun q hq=> ?_,?_,?_⟩
  ·rw[hw] at ey
   cases A with
   | nil =>
    subst hm;cases ey;show Zo z.1 y0.1=false;rw[<- hzk];exact hlow
   | cons c r =>
    cases ey;exact Y2 _
  ·rcases Qf.1 hq with hq | hq
   ·exact Zaf q (Qy _ hq)
   ·rcases Qf.1 hq with hq | hq
    ·rw[Qg.1 hq]
     exact⟨z1,by omega,by rw[hd,zl];omega⟩
    ·exact Zaf q (Ql _ (Ql _ hq))
  ·rcases Qf.1 hq with hq | hq
   ·exact hNI q (Qy _ hq)
   ·rcases Qf.1 hq with hq | hq
    ·rw[Qg.1 hq]
     obtain⟨p,hp,ep⟩:=hkey z Qe;exact⟨by rw[ep];exact(hin p hp).key,⟨by omega,by omega⟩⟩
    ·exact hNI q (Ql _ (Ql _ hq))
  ·rw[hw,hm]
   simp only[Qm,Qi,Px,Qw];omega
  ·rw[hd,hu]
   obtain⟨_,_,_,_,_,_,_,hV,_⟩:=X5 h1;rw[hV];simp only[wrD,Qm,Qi,Qw];omega
 ·omega}
theorem Zrg {k:Ky}{l:Nat}{s t:Rm}{P Q:Nat->Nat}{N N1:List Int}{a:Int}{tb:Ky}{e:Bool}{A C:List It}{y:It}
  (ht:Znj s (l+1) a tb e) (ha:a∈N) (hE:Enf s.1 s.2.1 Q N) (hw:(rmV s a).2=A++(y::C))
  (hA:∀ q∈A.flatMap (fun x=>X2 s l x.2.1),q.1≠k) (hC:∀ q∈C.flatMap (fun x=>X2 s l x.2.1),q.1≠k)
  (kt:Xv s t) (hy:Zd2 k (X2 s l y.2.1)=[]) (hEt:Enf t.1 t.2.1 (fun i=>P i+Zdd 0 i) N1) (more:∀ m∈N,m∈N1) (hwr:t.1.2.length<=s.1.2.length+l):Zcw k s t P N N1 (l+1) a (A++C) 0 tb e:=by{
 have hup:=Uk (Z9 ht.ok).1;have hlow:=ht.low;have hinn:Zax (Zy s l) (rmV s a).2 tb e=true:=ht.inn;rw[hw,Y3,Vl,Qh,Qh] at hinn;obtain⟨iA,iy,iC⟩:=hinn;have hkf:∀ a k tb e,Zy s l a k tb e=true->Zy t l a k tb e=true:=fun a k tb e hf=>(Z8 kt l a k tb e hf).1
 have hits:Zax (Zy t l) (A++C) tb e=true:=by
  rw[Y3,Qh];refine⟨Zfp (Zd6 l) _ y.1 _ true _ (Ux hkf _ _ _ iA) fun hb=>⟨rfl,Ve ?_⟩,Ux hkf _ _ _ iC⟩;rw[hw] at hup hlow;cases C with
  | nil=>exact hlow hb y (by simp)
  | cons c r=>exact(Q3.1 (Qad.1 hup).2.1).1 c Qe
 have hfl:∀ {B:List It} {tb:Ky} {e:Bool},Zax (Zy s l) B tb e=true->(B.flatMap fun x=>X2 t l x.2.1)=B.flatMap fun x=>X2 s l x.2.1:=fun {B tb e} hB=>X7 fun q hq=>by
  obtain⟨t',e',hf⟩:=Xu hB q hq;exact(Z8 kt l _ _ _ _ hf).2.1
 have hall:Zd2 k (X2 s (l+1) a)=(A++C).flatMap fun x=>X2 t l x.2.1:=by
  have e0:X2 s (l+1) a=(rmV s a).2.flatMap fun q=>X2 s l q.2.1:=rfl
  rw[e0,hw,Qv,Qt,Zeq,Zeq,Zds hA,Zds hC,hy,Qv,hfl iA,hfl iC];rfl
 have hnd:ndD s.1 a=rmV s a:=Zab ht.ok;have Zaf:∀ q∈(rmV s a).2,q.2.1∈N1/\q.2.1≠0/\(ndD t.1 q.2.1).1+1=((l+1:Nat):Int):=fun q hq=>by
  have:=hE.shut a ha (by rw[hnd,ht.lv];omega) q (by rw[hnd];exact hq);rw[hnd,ht.lv] at this;obtain⟨f1,f2,f3⟩:=this;exact⟨more _ f1,f2,by rw[Zet kt hE f1];exact f3⟩
 have hNI:=(Ze5 ht.ok).it;have hsubl:∀ q∈A++C,q∈(rmV s a).2:=fun q hq=>by
  rw[hw];rcases Qf.1 hq with hq | hq
  ·exact Qy _ hq
  ·exact Ql _ (Qo _ hq)
 refine⟨kt,⟨hits,hall⟩,fun hne y' q ey=> ?_,hEt,more,fun _ q hq=>Zaf q (hsubl q hq),.inl rfl,fun q hq=>hNI q (hsubl q hq),by rw[hw];simp only[Qm,Qi];omega,by omega⟩;rw[ey] at hup hsubl;obtain⟨c,r,ec⟩:=Q7 hne;rw[ec];have:=Zdw hup c (hsubl c (by rw[ec];exact Qe));show Zo c.1 y'.1=false;rcases this with e1 | e1
 ·rw[e1];exact Y2 _
 ·exact Ve e1}
theorem Zqs {k:Ky}{s:Rm}{P:Nat->Nat}{N:List Int}{a:Int}{tb:Ky}{e:Bool}(ht:Znj s 0 a tb e) (hm:Xm s=true) (hE:Enf s.1 s.2.1 P N):Zcw k s s P N N 0 a (Zd2 k (rmV s a).2) 0 tb e:=by{
 have hmn:=(Z9 ht.ok).1;have hlf:Yr s (rmV s a).2=true:=ht.inn;refine⟨Zeb hm,⟨Z5t (Uk hmn),?_,fun he y hy=>ht.low he y (Zij.1 hy).1,rfl⟩,fun hne y q ey=> ?_,hE.same fun i=>by simp[Zdd],fun _ h=>h,fun h=>absurd rfl h,.inl rfl,fun q hq=>(Ze5 ht.ok).it q (Zij.1 hq).1,List.length_filter_le ..,by omega⟩
 ·unfold Yr at hlf ⊢
  rw[Q6] at hlf ⊢;exact fun y hy=>hlf y (Zij.1 hy).1
 ·obtain⟨c,r,ec⟩:=Q7 hne
  rw[ec];have hc:=(Zij.1 (by rw[ec];exact Qe:c∈Zd2 k (rmV s a).2)).1;have hu:=Uk hmn;rw[ey] at hu hc;show Zo c.1 y.1=false;rcases Zdw hu c hc with e1 | e1
  ·rw[e1];exact Y2 _
  ·exact Ve e1}
theorem Zii {k:Ky}{l:Nat}{s t:Rm}{a held:Int}{L:List It}(h:Yf k (l+1) s a=(0,t,L,held)):∃ t1 L1 held1,Yf k l s (Zci (rmV s a) k)=(0,t1,L1,held1) /\
  ((L1=[]/\t=t1/\L=Zbb (rmV s a).2 (Xk (rmV s a) k) 1 []/\held=0)\/(L1≠[]/\∃ u up,Zq t1 (l:Int) (Yk s (rmV s a).2 (Xk (rmV s a) k) L1).2.2=(0,u,up)/\t=(if held1=0 then u else Vw u held1) /\
   L=Zbb (rmV s a).2 (Yk s (rmV s a).2 (Xk (rmV s a) k) L1).1 (Yk s (rmV s a).2 (Xk (rmV s a) k) L1).2.1 (up.take 1)/\held=Zch up)):=by{
 unfold Yf at h;generalize hg:Yf k l s (Zci (rmV s a) k)=g at h;obtain⟨ge,t1,L1,held1⟩:=g;simp only at h;split at h
 ·rename_i h0
  subst h0;refine⟨t1,L1,held1,rfl,?_⟩;split at h
  ·rename_i h1
   cases h;exact .inl ⟨h1,rfl,rfl,rfl⟩
  ·rename_i h1
   generalize hm:Yk s (rmV s a).2 (Xk (rmV s a) k) L1=m at h;obtain⟨first,many,L'⟩:=m;simp only at h;generalize hb:Zq t1 (l:Int) L'=b at h;obtain⟨f,u,up⟩:=b;simp only at h;split at h
   ·rename_i h2
    subst h2;cases h;exact .inr ⟨h1,u,up,rfl,rfl,rfl,rfl⟩
   ·rename_i h2
    simp only[Prod.mk.injEq] at h;exact absurd h.1 h2
 ·rename_i h0
  simp only[Prod.mk.injEq] at h;exact absurd h.1 h0}
theorem Zlh (s:Rm) (M:List It) (p:Nat) (L:List It):(Yk s M p L=(p,1,L))\/(∃ c,M[p+1]? = some c/\(rmV s c.2.1).2.length+L.length<=5/\Yk s M p L=(p,2,L++(rmV s c.2.1).2))\/(∃ b j,p=j+1/\M[j]? = some b/\(rmV s b.2.1).2.length+L.length<=5/\Yk s M p L=(j,2,(rmV s b.2.1).2++L)):=by{
 unfold Yk;cases h1:M[p+1]? with
 | some c =>
  by_cases h2:(rmV s c.2.1).2.length+L.length<=5
  ·exact .inr (.inl ⟨c,rfl,h2,by simp only[if_pos h2]⟩)
  ·exact .inl (by simp only[if_neg h2])
 | none =>
  cases p with
  | zero=>exact .inl rfl
  | succ j =>
   simp only[show ¬ (j+1=0) by omega,if_false,show j+1-1=j by omega];cases h2:M[j]? with
   | none=>exact .inl rfl
   | some b =>
    by_cases h3:(rmV s b.2.1).2.length+L.length<=5
    ·exact .inr (.inr ⟨b,j,rfl,h2,h3,by simp only[if_pos h3]⟩)
    ·exact .inl (by simp only[if_neg h3])}
theorem Zov {k:Ky}{l:Nat}(h6:l+1<6){s t:Rm}{P:Nat->Nat}{N:List Int}{a held:Int}{tb:Ky}{e:Bool}{L:List It}
  (ih:∀ {t:Rm} {a held:Int} {tb:Ky} {e:Bool} {L:List It},Znj s l a tb e->a∈N->Yf k l s a=(0,t,L,held)->∃ N',Zcw k s t P N N' l a L held tb e)
  (ht:Znj s (l+1) a tb e) (ha:a∈N) (hE:Enf s.1 s.2.1 P N) (h:Yf k (l+1) s a=(0,t,L,held)):∃ N',Zcw k s t P N N' (l+1) a L held tb e:=by{
 obtain⟨t1,L1,held1,h1,hways⟩:=Zii h;have hm:=(Z9 ht.ok).1;have hne:0<(rmV s a).2.length:=(Zx hm).1.2.2.2 (by rw[ht.lv];omega);obtain⟨y,hy⟩:∃ y,(rmV s a).2[Xk (rmV s a) k]? = some y:=⟨_,Qk (Zc4 k hne)⟩
 have hw:=Zhl hy;have hyin:y∈(rmV s a).2:=Qx hy;have hir:Zci (rmV s a) k=y.2.1:=by unfold Zci;rw[hy];rfl
 rw[hir] at h1;have hown:=Zyt hm hy;have hA0:(rmV s a).2.take (Xk (rmV s a) k)≠[]->Zo k y.1=false:=fun hA=>hown fun e=>hA (by rw[e];rfl)
 have hCk:∀ c r,(rmV s a).2.drop (Xk (rmV s a) k+1)=c::r->Zo k c.1=true:=fun c r hc=>by
  refine Zgn hm (i:=Xk (rmV s a) k+1) (by omega) ?_;have:=congrArg (fun l=>l[0]?) hc
  simpa [Pz] using this
 have hwl:=Zc4 k hne;generalize hpe:Xk (rmV s a) k=p at *;have hinn:Zax (Zy s l) (rmV s a).2 tb e=true:=ht.inn;rw[hw] at hinn;have hsp:=hinn;rw[Y3,Qh,Vl,Qh] at hsp;obtain⟨iA,iy,iC⟩:=hsp;obtain⟨hty,htk⟩:=Ziy iy;have hnd:ndD s.1 a=rmV s a:=Zab ht.ok;have hsh:∀ q∈(rmV s a).2,q.2.1∈N:=fun q hq=>(hE.shut a ha (by rw[hnd,ht.lv];omega) q (by rw[hnd];exact hq)).1
 obtain⟨N1,G⟩:=ih hty (hsh y hyin) h1;have hlow:L1≠[]->Zo (Zns L1) y.1=false:=fun hL=>by
  obtain⟨_,_,r3,_⟩:=Ya iy;obtain⟨y0,q0,e0,_⟩:=Zbs r3;have:=G.up hL y0 q0 e0
  rwa [htk y0 q0 e0] at this
 have hpA:∀ q∈((rmV s a).2.take p).flatMap (fun x=>X2 s l x.2.1),q.1≠k:=fun q hq=>by
  by_cases hA:(rmV s a).2.take p=[]
  ·rw[hA] at hq;cases hq
  ·obtain⟨_,_,_,hp⟩:=Zaw (Y4 s l) ((rmV s a).2.take p) y.1 true hA iA
   exact Zq4 (Zq5 (hp.bound rfl q hq) (hA0 hA))
 have hpC:∀ q∈((rmV s a).2.drop (p+1)).flatMap (fun x=>X2 s l x.2.1),q.1≠k:=fun q hq=>by
  by_cases hC:(rmV s a).2.drop (p+1)=[]
  ·rw[hC] at hq;cases hq
  ·obtain⟨c,r,ec,hp⟩:=Zaw (Y4 s l) ((rmV s a).2.drop (p+1)) tb e hC iC
   have hc:=hCk c r ec;rcases hp.ge q hq with e1 | e1
   ·rw[e1];exact Zmm hc
   ·exact Zmm (Yt hc e1)
 have h5:∀ {q:It} {kk tb:Ky} {e:Bool},Zy s l q.2.1 kk tb e=true->(rmV s q.2.1).2.length<=5:=fun hq=>Zlm (Z9 (Ya hq).1).1
 have hsubm:∀ {q:It} {kk tb:Ky} {e:Bool},q∈(rmV s a).2->Zy s l q.2.1 kk tb e=true->l≠0->∀ z∈(rmV s q.2.1).2,z.2.1∈N1/\z.2.1≠0/\(ndD t1.1 z.2.1).1+1=(l:Int):=fun {q kk tb e} hq hr hl z hz=>by
  obtain⟨r1,r2,_,_⟩:=Ya hr;have hd:ndD s.1 q.2.1=rmV s q.2.1:=Zab r1;have:=hE.shut _ (hsh q hq) (by rw[hd,r2];omega) z (by rw[hd];exact hz);rw[hd,r2] at this;obtain⟨f1,f2,f3⟩:=this;exact⟨G.more _ f1,f2,by rw[Zet G.keep hE f1];exact f3⟩
 rcases hways with ⟨hL,rfl,rfl,rfl⟩ | ⟨hL,u,up,hb,rfl,rfl,rfl⟩
 ·subst hL
  have hz:held1=0:=by
   rcases G.own with h | ⟨_,q,hq,_⟩
   ·exact h
   ·cases hq
  have hEn:=G.enf;rw[hz] at hEn;exact⟨N1,Zrg ht ha hE hw hpA hpC G.keep (Zxe G.row) hEn G.more G.writes⟩
 ·rcases Zlh s (rmV s a).2 p L1 with em | ⟨c,hc,hcl,em⟩ | ⟨b,j,ep,hbj,hbl,em⟩
  ·rw[em] at hb ⊢
   exact Zgx h6 ht ha hE (mid:=[y]) hw rfl hpA hpC G.keep (by rw[Qt,Pn,Po];exact G.row) hL (hlow hL) G.enf G.more G.sub G.own G.inI G.writes (by have:=G.few;have:=h5 iy;omega) hb
  ·rw[em] at hb ⊢
   obtain⟨hp1,hg1⟩:=Qs.1 hc;have hCe:(rmV s a).2.drop (p+1)=c::(rmV s a).2.drop (p+2):=by rw[Q5 hp1,hg1]
   have hcin:c∈(rmV s a).2:=Qx hc;have hrowG:=G.row;rw[hCe] at hw iC hpC hrowG;rw[Vl,Qh] at iC;obtain⟨rw1,rw2,rw3⟩:=Zps iC.1;have hpc:∀ q∈X2 s l c.2.1,q.1≠k:=fun q hq=>hpC q (by rw[Qt];exact Qy _ hq)
   have hrow2:=Zzi rw2 (by rw[rw3];exact hrowG) (Zhu G.keep rw1);refine Zgx h6 ht ha hE (mid:=[y,c]) (A:=(rmV s a).2.take p) (C:=(rmV s a).2.drop (p+2)) hw rfl hpA (fun q hq=>hpC q (by rw[Qt];exact Ql _ hq)) G.keep ?_ (by simp[hL]) ?_ G.enf G.more (fun hl q hq=> ?_) ?_ (fun q hq=> ?_) G.writes (by rw[Qm];omega) hb
   ·rw[Qt,Qt,Pn,Po,Zeq,Zds hpc]
    exact hrow2
   ·obtain⟨z,r,ez⟩:=Q7 hL
    have:=hlow hL;rw[ez] at this ⊢;exact this
   ·rcases Qf.1 hq with hq | hq
    ·exact G.sub hl q hq
    ·exact hsubm hcin iC.1 hl q hq
   ·rcases G.own with h | ⟨h,q,hq,e1⟩
    ·exact .inl h
    ·exact .inr ⟨h,q,Qy _ hq,e1⟩
   ·rcases Qf.1 hq with hq | hq
    ·exact G.inI q hq
    ·exact(Ze5 (Ya iC.1).1).it q hq
  ·rw[em] at hb ⊢
   subst ep;obtain⟨hp1,hg1⟩:=Qs.1 hbj;have hAe:(rmV s a).2.take (j+1)=(rmV s a).2.take j++[b]:=by rw[Pm,hbj];rfl
   have hbin:b∈(rmV s a).2:=Qx hbj;rw[hAe] at iA hpA hw;rw[Y3,Qh] at iA;have ib:Zy s l b.2.1 b.1 y.1 true=true:=iA.2;obtain⟨rw1,rw2,rw3⟩:=Zps ib;have hpb:∀ q∈X2 s l b.2.1,q.1≠k:=fun q hq=>hpA q (by rw[Qv];exact Ql _ (by simpa using hq))
   have hrow2:=Zzi hL (Z22 (Zhu G.keep rw1) fun _=>⟨rfl,hlow hL⟩) G.row;have hw2:(rmV s a).2=(rmV s a).2.take j++([b,y]++(rmV s a).2.drop (j+1+1)):=by
    conv=>lhs;rw[hw]
    simp
   refine Zgx h6 ht ha hE (mid:=[b,y]) (A:=(rmV s a).2.take j) (C:=(rmV s a).2.drop (j+1+1)) hw2 rfl (fun q hq=>hpA q (by rw[Qv];exact Qy _ hq)) hpC G.keep ?_ (by simp[hL]) ?_ G.enf G.more (fun hl q hq=> ?_) ?_ (fun q hq=> ?_) G.writes (by rw[Qm];omega) hb
   ·rw[Qt,Qt,Pn,Po,Zeq,Zds hpb]
    exact hrow2
   ·obtain⟨z,r,ez⟩:=Q7 rw2
    rw[ez] at rw3 ⊢;show Zo z.1 b.1=false;rw[show z.1=b.1 from rw3];exact Y2 _
   ·rcases Qf.1 hq with hq | hq
    ·exact hsubm hbin ib hl q hq
    ·exact G.sub hl q hq
   ·rcases G.own with h | ⟨h,q,hq,e1⟩
    ·exact .inl h
    ·exact .inr ⟨h,q,Ql _ hq,e1⟩
   ·rcases Qf.1 hq with hq | hq
    ·exact(Ze5 (Ya ib).1).it q hq
    ·exact G.inI q hq}
theorem Znw {k:Ky}{s:Rm}(hm:Xm s=true){P:Nat->Nat}{N:List Int}(hE:Enf s.1 s.2.1 P N):∀ (l:Nat),l<6->∀ {t:Rm}{a held:Int}{tb:Ky}{e:Bool}{L:List It},Znj s l a tb e->a∈N->Yf k l s a=(0,t,L,held)->∃ N',Zcw k s t P N N' l a L held tb e
 | 0,_,_,_,_,_,_,_,ht,_,h=>by
  unfold Yf at h;cases h;exact⟨N,Zqs ht hm hE⟩
 | l+1,h6,_,_,_,_,_,_,ht,ha,h=>Zov h6 (fun ht ha h=>Znw hm hE l (by omega) ht ha h) ht ha hE h
def Zl7 (M:List It):Int:=match M with | []=>0 | q::_=>q.2.1
def upR (s:Rm) (b:Int):Rm:=(s.1,s.2.1.set b.toNat (s.2.1[b.toNat]?.getD 0+1),s.2.2)
def Yu:Nat->Rm->Int->Int×Rm×Int
 | 0,s,a=>(0,s,a)
 | l+1,s,a =>
  if (rmV s a).2.length=1 then
   if s.2.1[(Zl7 (rmV s a).2).toNat]?.getD 0=255 then (70,Zj,0)
   else match lfO (upR s (Zl7 (rmV s a).2)).1 (upR s (Zl7 (rmV s a).2)).2.1 a.toNat with
    | none=>(8,Zj,0)
    | some v=>Yu l ((upR s (Zl7 (rmV s a).2)).1,v,(upR s (Zl7 (rmV s a).2)).2.2) (Zl7 (rmV s a).2)
  else (0,s,a)
structure Yal (s u:Rm) (P:Nat->Nat) (N M:List Int) (a now:Int):Prop where
 tree:Yo u now=true
 all:Vo u now=Vo s a
 enf:Enf u.1 u.2.1 (fun i=>P i+if i=now.toNat then 1 else 0) M
 root:now∈M
 may:Xm u=true
 disk:u.1=s.1
 lv:(rmV u now).1<=(rmV s a).1
 other:∀ b,Yo s b=true->b∈N->1<=P b.toNat->b∈M/\Yo u b=true/\rmV u b=rmV s b/\Vo u b=Vo s b/\∀ q,Zdv u b q=Zdv s b q
theorem Zta {s:Rm}{P:Nat->Nat}{N:List Int}{a:Int}(hm:Xm s=true) (ht:Yo s a=true) (ha:a∈N) (hE:Enf s.1 s.2.1 (fun i=>P i+if i=a.toNat then 1 else 0) N):Yal s s P N N a a :=
 ⟨ht,rfl,hE,ha,hm,rfl,Int.le_refl _,fun _ h1 h2 _=>⟨h2,h1,rfl,rfl,fun _=>rfl⟩⟩
theorem Yax {s:Rm}{P:Nat->Nat}{N:List Int}{b:Int}(hm:Xm s=true) (hE:Enf s.1 s.2.1 P N) (h8:8<=b) (h256:b<256) (hz:s.2.1[b.toNat]?.getD 0≠0) (h255:s.2.1[b.toNat]?.getD 0≠255):Xv s (upR s b)/\Enf (upR s b).1 (upR s b).2.1 (fun i=>P i+if i=b.toNat then 1 else 0) N:=by{
 obtain⟨k,rfl⟩:∃ k:Nat,b=k:=⟨b.toNat,by omega⟩
 rw[show ((k:Int)).toNat=k by omega] at hz h255;have hs:=Yat hm (by omega) (by omega) hz h255;obtain⟨j,ej,_,_,_,_,_,hl,hV⟩:=Z74 hs;have hkp:=Zky hs;have ek:j=k:=by omega
 subst ek;have eV:upR s (j:Int)=shV s (j:Int):=by
  rw[hV];unfold upR;rw[show ((j:Int)).toNat=j by omega]
 refine⟨by rw[eV];exact hkp,hE.once,fun n hn=> ?_,hE.shut,hE.refs,fun i=> ?_⟩
 ·obtain⟨g1,g2,g3,g4⟩:=hE.node n hn
  refine⟨g1,g2,g3,?_⟩;rw[V4,eV];exact hkp.held _ (V4.1 g4)
 ·have h1:=hE.enough i
  show P i+(if i=((j:Int)).toNat then 1 else 0)+Ze6 s.1 N i<=Yy (s.2.1.set ((j:Int)).toNat (s.2.1[((j:Int)).toNat]?.getD 0+1)) i;rw[show ((j:Int)).toNat=j by omega];unfold Yy at h1 ⊢;by_cases e:i=j
  ·subst e
   rw[if_pos rfl,Zcu (by rw[hl];omega),Zxt h255];omega
  ·rw[if_neg e,Ub e]
   omega}
theorem Z5k:∀ (l:Nat){s u:Rm}{P:Nat->Nat}{N:List Int}{a now:Int},Xm s=true->Yo s a=true->(rmV s a).1=(l:Int)->a∈N->Enf s.1 s.2.1 (fun i=>P i+if i=a.toNat then 1 else 0) N->Yu l s a=(0,u,now)->∃ M,Yal s u P N M a now
 | 0,s,u,P,N,a,now,hm,ht,hl,ha,hE,h=>by
  unfold Yu at h;cases h;exact⟨N,Zta hm ht ha hE⟩
 | l+1,s,u,P,N,a,now,hm,ht,hl,ha,hE,h=>by
  unfold Yu at h;obtain⟨r1,_,_,_,_,hi⟩:=Xf ht;split at h
  ·rename_i h1
   obtain⟨q,eq⟩:∃ q,(rmV s a).2=[q]:=List.length_eq_one_iff.1 h1;have eb:Zl7 (rmV s a).2=q.2.1:=by rw[eq];rfl
   rw[eb] at h;have hnd:ndD s.1 a=rmV s a:=Zab r1;have hqN:=(hE.shut a ha (by rw[hnd,hl];omega) q (by rw[hnd,eq];exact Qe)).1;unfold U6 at hi;rw[show (rmV s a).1.toNat=l+1 by omega,eq] at hi;have hir:Zy s l q.2.1 q.1 Zbh false=true:=hi;obtain⟨t1,t2,t3⟩:=Zf6 hir;obtain⟨p8,p256,pz⟩:=Xh (Ya hir).1;have ha0:0<a:=by have:=(Xh r1).1;omega
   split at h
   ·simp only[Prod.mk.injEq] at h
    exact absurd h.1 (by decide)
   ·rename_i h255
    obtain⟨k1,e1⟩:=Yax hm hE p8 p256 pz h255;split at h
    ·simp only[Prod.mk.injEq] at h
     exact absurd h.1 (by decide)
    ·rename_i v hv
     have hE2:=Zia (P:=fun i=>P i+if i=q.2.1.toNat then 1 else 0) ha ha0 (by rw[Zet k1 hE ha,hnd,hl];omega) (e1.same fun i=>by
      show P i+(if i=q.2.1.toNat then 1 else 0)+(if i=a.toNat then 1 else 0)=P i+(if i=a.toNat then 1 else 0)+(if i=q.2.1.toNat then 1 else 0)
      omega) hv
     obtain⟨c1,c0,c2,c3,c4⟩:=Zb4 k1 t1;obtain⟨d0,d1,d2,d3,d4,d5,_⟩:=Zb1 k1.may hv hE2 hqN (by simp) c1;obtain⟨M,W⟩:=Z5k l d0 d2 (by rw[d3,c2,t3]) d1 hE2 h;have eall:Vo s a=X2 s l q.2.1:=by
      unfold Vo;rw[show (rmV s a).1.toNat=l+1 by omega];show (rmV s a).2.flatMap (fun x=>X2 s l x.2.1)=_;rw[eq];simp
     refine⟨M,W.tree,by rw[W.all,d4,c3,t2,eall],W.enf,W.root,W.may,W.disk,by have:=W.lv;rw[d3,c2,t3] at this;omega,fun b hb hbN hP=> ?_⟩;obtain⟨f1,_,f3,f4,f5⟩:=Zb4 k1 hb;obtain⟨_,g1,g2,g3,g4,g5,_⟩:=Zb1 k1.may hv hE2 hbN (by show 1<=P b.toNat+_;omega) f1;obtain⟨w1,w2,w3,w4,w5⟩:=W.other b g2 g1 hP;exact⟨w1,w2,w3.trans (g3.trans f3),w4.trans (g4.trans f4),fun q=>(w5 q).trans ((g5 q).trans (f5 q))⟩
  ·cases h
   exact⟨N,Zta hm ht ha hE⟩
theorem Zx1 {u:Rm}{P:Nat->Nat}{N2:List Int}{held z:Int}{L:List It}(hm:Xm u=true) (e1:Enf u.1 u.2.1 (fun i=>P i+Zdd held i+if i=z.toNat then 1 else 0) N2) (hown:held=0\/(8<=held/\∃ q∈L,q.2.1=held)) (e6:∀ x∈L,∃ n∈N2,x∈(ndD u.1 n).2) :
  Xv u (if held=0 then u else Vw u held)/\Enf (if held=0 then u else Vw u held).1 (if held=0 then u else Vw u held).2.1 (fun i=>P i+if i=z.toNat then 1 else 0) N2/\(if held=0 then u else Vw u held).1=u.1:=by{
 by_cases h0:held=0
 ·rw[if_pos h0]
  exact⟨Zeb hm,e1.same fun i=>by simp[Zdd,h0],rfl⟩
 ·rw[if_neg h0]
  obtain⟨h8,q,hq,hqh⟩:8<=held/\∃ q∈L,q.2.1=held:=by
   rcases hown with h | h
   ·exact absurd h h0
   ·exact h
  obtain⟨n,hn,hqn⟩:=e6 q hq
  obtain⟨f1,f2⟩:=Zjl (a:=held) (P:=fun i=>P i+if i=z.toNat then 1 else 0) hm (e1.same fun i=>by
   show P i+(if i=z.toNat then 1 else 0)+(if i=held.toNat then 1 else 0)=P i+Zdd held i+if i=z.toNat then 1 else 0
   unfold Zdd;by_cases ei:i=held.toNat
   ·rw[if_pos ei,if_pos (show held≠0/\i=held.toNat from ⟨h0,ei⟩)];omega
   ·rw[if_neg ei,if_neg (show ¬ (held≠0/\i=held.toNat) from fun h=>ei h.2)];omega) (by omega) ⟨n,hn,q,hqn,hqh⟩
  exact⟨f1,f2,rfl⟩}
theorem Zwh {k:Ky}{l:Nat}(h6:l<6){s t u:Rm}{P:Nat->Nat}{N N1:List Int}{a held:Int}{L up:List It}(G:Zcw k s t P N N1 l a L held Zbh false) (h5:L.length<=5) (hb:Zq t (if L=[] then 0 else (l:Int)) L=(0,u,up)) :
  ∃ N2,Xv s (if held=0 then u else Vw u held)/\Yo (if held=0 then u else Vw u held) (Zch up)=true/\Vo (if held=0 then u else Vw u held) (Zch up)=Zd2 k (X2 s l a)/\(rmV (if held=0 then u else Vw u held) (Zch up)).1=(if L=[] then 0 else (l:Int)) /\
   Enf (if held=0 then u else Vw u held).1 (if held=0 then u else Vw u held).2.1 (fun i=>P i+if i=(Zch up).toNat then 1 else 0) N2/\(∀ m∈N,m∈N2)/\Zch up∈N2/\(if held=0 then u else Vw u held).1.2.length<=s.1.2.length+l+1:=by{
 have hlv:∀ {lv:Int},lv=(if L=[] then 0 else (l:Int))->InN (lv,L):=fun {lv} e=>by
  refine⟨?_,G.inI⟩;rw[e];split
  ·exact⟨by simp,by simp⟩
  ·exact(Zpk h6 G.inI).1
 obtain⟨N2,e1,k1,e3,e4,e5,e6,_,_⟩:=Zac hb (hlv rfl) G.enf fun h0=>by
  by_cases hL:L=[]
  ·rw[if_pos hL] at h0;exact absurd rfl h0
  ·rw[if_neg hL] at h0 ⊢
   exact G.sub (by omega)
 rcases X9 hb with ⟨h1,hu,hup⟩ | ⟨h0,_⟩
 ·have hz:Zch up=mkN t ((if L=[] then 0 else (l:Int)),L):=by rw[hup];rfl
  obtain⟨z1,z8,z256,_⟩:=e5 (upI L (mkN t ((if L=[] then 0 else (l:Int)),L))) (by rw[hup];exact Qe);rw[show (upI L (mkN t ((if L=[] then 0 else (l:Int)),L))).2.1=Zch up from hz.symm] at z1 z8 z256;have hE2:Enf u.1 u.2.1 (fun i=>P i+Zdd held i+if i=(Zch up).toNat then 1 else 0) N2:=e1.same fun i=>by
   rw[hup,Zlq (by show 8<=mkN t _;rw[<- hz];exact z8)];rfl
  obtain⟨k2,e7,hd⟩:=Zx1 k1.may hE2 G.own e6;have hT:Yo u (Zch up)=true/\Vo u (Zch up)=Zd2 k (X2 s l a)/\(rmV u (Zch up)).1=(if L=[] then 0 else (l:Int)):=by
   by_cases hL:L=[]
   ·rw[if_pos hL] at h1 hu hz ⊢
    have hrow:=G.row;subst hL;rw[Zxe hrow];obtain⟨j,e1,_,_,_,_,r1,r2,_⟩:=Zzk (hlv (by rw[if_pos rfl])) h1;rw[<- hu,<- e1,<- hz] at r1 r2;refine⟨?_,?_,by rw[r2]⟩
    ·unfold Yo U6
     rw[r1,r2];rfl
    ·unfold Vo
     rw[r2];show (rmV u (Zch up)).2=[];rw[r2]
   ·rw[if_neg hL] at h1 hu hz ⊢
    obtain⟨g1,g2⟩:=Za5 h1 (Zpk h6 G.inI) hL G.row;rw[<- hu,<- hz] at g1 g2;obtain⟨t1,t2,t3⟩:=Zf6 g1;exact⟨t1,t2.trans g2,t3⟩
  obtain⟨c1,_,c2,c3,_⟩:=Zb4 k2 hT.1;refine⟨N2,Xp (Xp G.keep k1) k2,c1,c3.trans hT.2.1,by rw[c2];exact hT.2.2,e7,fun m hm=>e3 m (G.more m hm),z1,?_⟩;rw[hd,hu];obtain⟨_,_,_,_,_,_,_,hV,_⟩:=X5 h1;rw[hV];have:=G.writes;simp only[wrD,Qm,Qi,Qw];omega
 ·omega}
def Zqb (s:Rm) (a:Int) (k:Ky):Int×Rm×Int :=
 match Yf k (rmV s a).1.toNat s a with
 | (e,t,L,held) =>
  if e=0 then
   match Zq t (if L=[] then 0 else (rmV s a).1) L with
   | (f,u,up) =>
    if f=0 then
     match Yu (if L=[] then 0 else (rmV s a).1.toNat) (if held=0 then u else Vw u held) (Zch up) with
     | (g,w,now) =>
      if g=0 then
       match lfO w.1 w.2.1 a.toNat with
       | none=>(8,Zj,0)
       | some v=>(0,(w.1,v,w.2.2),now)
      else (g,Zj,0)
    else (f,Zj,0)
  else (e,Zj,0)
theorem Z2m {s u:Rm}{a now:Int}{k:Ky}(h:Zqb s a k=(0,u,now)):∃ t L held u1 up w v,Yf k (rmV s a).1.toNat s a=(0,t,L,held)/\Zq t (if L=[] then 0 else (rmV s a).1) L=(0,u1,up) /\
  Yu (if L=[] then 0 else (rmV s a).1.toNat) (if held=0 then u1 else Vw u1 held) (Zch up)=(0,w,now)/\lfO w.1 w.2.1 a.toNat=some v/\u=(w.1,v,w.2.2):=by{
 unfold Zqb at h;generalize hg:Yf k (rmV s a).1.toNat s a=g at h;obtain⟨e,t,L,held⟩:=g;simp only at h;generalize hb:Zq t (if L=[] then 0 else (rmV s a).1) L=b at h;obtain⟨f,u1,up⟩:=b;simp only at h;generalize hc:Yu (if L=[] then 0 else (rmV s a).1.toNat) (if held=0 then u1 else Vw u1 held) (Zch up)=c at h;obtain⟨g,w,now'⟩:=c;simp only at h;split at h
 ·rename_i h0
  split at h
  ·rename_i h1
   split at h
   ·rename_i h2
    split at h
    ·simp only[Prod.mk.injEq] at h
     exact absurd h.1 (by decide)
    ·rename_i v hv
     subst h0 h1 h2;cases h;exact⟨t,L,held,u1,up,w,v,rfl,hb,hc,hv,rfl⟩
   ·rename_i h2
    simp only[Prod.mk.injEq] at h;exact absurd h.1 h2
  ·rename_i h1
   simp only[Prod.mk.injEq] at h;exact absurd h.1 h1
 ·rename_i h0
  simp only[Prod.mk.injEq] at h;exact absurd h.1 h0}
structure Ybk (s u:Rm) (P:Nat->Nat) (N M:List Int) (a now:Int) (k:Ky):Prop where
 tree:Yo u now=true
 all:Vo u now=Zd2 k (Vo s a)
 enf:Enf u.1 u.2.1 (fun i=>P i+if i=now.toNat then 1 else 0) M
 root:now∈M
 lv:(rmV u now).1<=(rmV s a).1
 writes:(u.1.2.length:Int)<=s.1.2.length+((rmV s a).1+1)
 other:∀ b,Yo s b=true->b∈N->1<=P b.toNat->b∈M/\Yo u b=true/\rmV u b=rmV s b/\Vo u b=Vo s b/\∀ q,Zdv u b q=Zdv s b q
theorem Ya6 {s u:Rm}{a now:Int}{k:Ky}{P:Nat->Nat}{N:List Int}(ht:Yo s a=true) (ha:a∈N) (hE:Enf s.1 s.2.1 (fun i=>P i+if i=a.toNat then 1 else 0) N) (h:Zqb s a k=(0,u,now)):∃ M,Ybk s u P N M a now k:=by{
 obtain⟨t,L,held,u1,up,w,v,h1,h2,h3,hv,rfl⟩:=Z2m h;obtain⟨r1,ra,hmn,l0,l6,_⟩:=Xf ht;have hm:Xm s=true:=by
  obtain⟨k,_,hm,_⟩:=Y6 ra;exact hm
 obtain⟨N1,G⟩:=Znw hm hE _ (by omega) (Zfe ht) ha h1;have hlv:(rmV s a).1=(((rmV s a).1.toNat:Nat):Int):=by omega
 have h2':Zq t (if L=[] then 0 else (((rmV s a).1.toNat:Nat):Int)) L=(0,u1,up):=by rw[<- hlv];exact h2
 obtain⟨N2,k1,t1,t2,t3,e1,e2,z1,hw⟩:=Zwh (by omega) G (by have:=G.few;have:=Zlm hmn;omega) h2';obtain⟨M,W⟩:=Z5k _ k1.may t1 (by rw[t3];split <;> simp) z1 e1 h3;have ha0:0<a:=by have:=(Xh r1).1;omega
 obtain⟨c1,_,c2,c3,c4⟩:=Zb4 k1 ht;obtain⟨w1,w2,w3,w4,w5⟩:=W.other a c1 (e2 a ha) (by simp);have hnda:ndD w.1 a=rmV s a:=(Zab (Xf w2).1).trans (w3.trans c2)
 have hE2:=Zia (P:=fun i=>P i+if i=now.toNat then 1 else 0) w1 ha0 (by rw[hnda];exact l0) (W.enf.same fun i=>by
  show P i+(if i=now.toNat then 1 else 0)+(if i=a.toNat then 1 else 0)=P i+(if i=a.toNat then 1 else 0)+(if i=now.toNat then 1 else 0)
  omega) hv
 obtain⟨_,b1,b2,b3,b4,_⟩:=Zb1 W.may hv hE2 W.root (by simp) W.tree;refine⟨Zah v M,b2,by rw[b4,W.all,t2];rfl,hE2,b1,?_,?_,fun b hb hbN hP=> ?_⟩
 ·rw[b3]
  have:=W.lv;rw[t3] at this;split at this <;> omega
 ·show (w.1.2.length:Int)<=_
  rw[W.disk];omega
 ·obtain⟨d1,_,d3,d4,d5⟩:=Zb4 k1 hb
  obtain⟨f1,f2,f3,f4,f5⟩:=W.other b d1 (e2 b hbN) (by show 1<=P b.toNat+_;omega);obtain⟨_,g1,g2,g3,g4,g5,_⟩:=Zb1 W.may hv hE2 f1 (by show 1<=P b.toNat+_;omega) f2;exact⟨g1,g2,g3.trans (f3.trans d3),g4.trans (f4.trans d4),fun q=>(g5 q).trans ((f5 q).trans (d5 q))⟩}
theorem Z7f (k l:Ky) (L:List It):Zd2 k (Zd2 l L)=Zd2 l (Zd2 k L):=by
 unfold Zd2;rw[Qae,Qae];exact List.filter_congr fun y _=>P5 ..
theorem Z3p {k:Ky}{L:List It}:∀ y∈Zd2 k L,y.1≠k:=fun _ hy=>(Zij.1 hy).2
theorem Z56:∀ {L:List It},Up L->∀ {x y:It},x∈L->y∈L->x.1=y.1->x=y
 | z::r,h,x,y,hx,hy,e=>by
  obtain⟨h1,h2⟩:=Q3.1 h;rcases Qu.1 hx with e1 | hx'
  ·rcases Qu.1 hy with e2 | hy'
   ·exact e1.trans e2.symm
   ·exact absurd (e1 ▸ e) (Zq4 (h1 y hy'))
  ·rcases Qu.1 hy with e2 | hy'
   ·exact absurd (e2 ▸ e) (Zmm (h1 x hx'))
   ·exact Z56 h2 hx' hy' e
theorem Z8b {L:List It}(h:Up L){x:It}(hx:x∈L):Vu (Zd2 x.1 L) x=L:=by{
 refine Z5n (Zzs (Z5t h) x) h fun y=> ?_
 rw[Zct,Zij];constructor
 ·rintro(rfl | ⟨⟨h1,_⟩,_⟩)
  ·exact hx
  ·exact h1
 ·intro h1
  by_cases e:y.1=x.1
  ·left
   exact Z56 h h1 hx e
  ·exact .inr ⟨⟨h1,e⟩,e⟩}
def Zf5 (s:Rm) (a:Int) (k:Ky):Int×Rm×Int :=
 if ckE s a≠0 then (ckE s a,Zj,0) else if (Zdv s a k).isSome=true then Zqb s a k else (6,Zj,0)
theorem Z8w {s:Rm}{a:Int}{k:Ky}(h:ckE s a≠0):(Zf5 s a k).1=ckE s a:=by
 unfold Zf5;rw[if_pos h]
theorem Zum {s:Rm}{a:Int}{k:Ky}(h:ckE s a=0) (hf:Zdv s a k=none):(Zf5 s a k).1=6:=by
 unfold Zf5;rw[if_neg (fun e=>e h),hf];rfl
theorem Zjf {s:Rm}{a:Int}{k:Ky}(h:ckE s a=0){x:It}(hx:Zdv s a k=some x):Zf5 s a k=Zqb s a k:=by
 unfold Zf5;rw[if_neg (fun e=>e h),hx];rfl
theorem Yaz {s:Rm}{a:Int}{k:Ky}(h:(Zf5 s a k).1=0):ckE s a=0/\∃ x,Zdv s a k=some x:=by{
 by_cases hc:ckE s a=0
 ·refine⟨hc,?_⟩
  cases hx:Zdv s a k with
  | none=>rw[Zum hc hx] at h;cases h
  | some x=>exact⟨x,rfl⟩
 ·rw[Z8w hc] at h
  exact absurd h hc}
theorem Zh0 {s:Rm}{a:Int}{k:Ky}(h:Z5g s a) (hd:(Zf5 s a k).1=0):Z5g (Zf5 s a k).2.1 (Zf5 s a k).2.2/\Vo (Zf5 s a k).2.1 (Zf5 s a k).2.2=Zd2 k (Vo s a)/\ckH (Zf5 s a k).2.1 (Zf5 s a k).2.2<=ckH s a:=by
 obtain⟨hck,M,ha,hE⟩:=h;obtain⟨_,x,hx⟩:=Yaz hd;rw[Zjf hck hx] at hd ⊢;obtain⟨M',H⟩:=Ya6 (P:=fun _=>0) (Zam hck).1 ha (hE.same fun i=>by show 0+(if i=a.toNat then 1 else 0)=_;omega) (Prod.ext hd rfl:Zqb s a k=(0,(Zqb s a k).2.1,(Zqb s a k).2.2));obtain⟨c1,c2⟩:=Zjc (Xf H.tree).2.1 H.tree;refine⟨⟨c1,M',H.root,H.enf.same fun i=>by show (if i=(Zqb s a k).2.2.toNat then 1 else 0)=0+if i=(Zqb s a k).2.2.toNat then 1 else 0;omega⟩,H.all,?_⟩;rw[c2,(Zam hck).2.2];have:=H.lv;omega
def u9:It:=(Zh3 2,9,[])
theorem Z6o {T:Rm}(hm:Xm T=true) (r1:rmE T 11=0) (r2:rmV T 11=(1,upS)) (r3:rmE T 8=0) (r4:rmV T 8=(0,(Ls 6).take 3)) (r5:rmE T 10=0) (r6:rmV T 10=(0,(Ls 6).drop 3)) (hn:T.2.1=Zni) (hz:T.2.2=Zv 256) (hl:T.1.2.length<100) :
  ∃ W,Zqb T 11 (Zh3 1)=(0,W,9)/\ckE W 9=0/\ckH W 9=1/\Vo W 9=(Ls 6).drop 1:=by{
 have hT:T=(T.1,Zni,Zv 256):=by rw[<- hn,<- hz]
 have hin:InN ((0:Int),(Ls 6).drop 1):=⟨⟨by simp,by simp⟩,fun y hy=>(Zh4 6 (by omega) y (Qr hy)).1⟩
 have hmn:mayN (0,(Ls 6).drop 1)=true:=by decide +kernel
 have hmu:mayN (1,[u9])=true:=by decide +kernel
 have hinu:InN ((1:Int),[u9]):=⟨⟨by simp,by simp⟩,fun y hy=>by
  rw[Qg.1 hy]
  exact⟨⟨⟨by decide,by decide⟩,by decide,by decide⟩,by decide,by decide⟩⟩
 obtain⟨a1,a2⟩:=Zja ((Ls 6).drop 1) T.2.1 fun y hy=>(Zh4 6 (by omega) y (Qr hy)).2
 obtain⟨m1,m2,m3,m4,_⟩:=Zcn hm hmn a1 (k:=9) (by rw[hT,Zgb];decide +kernel) (by omega);obtain⟨U,hU⟩:∃ U,mkV T (0,(Ls 6).drop 1)=U:=⟨_,rfl⟩
 rw[hU] at m3 m4;have hU2:U=(wrD T.1 9 (Va (0,(Ls 6).drop 1)),Zni.set 9 1,Zv 256):=by
  rw[m3];show (_,(ctV T.2.1 ((Ls 6).drop 1)).set 9 1,T.2.2)=_;rw[a2,hn,hz]
 have hUn:U.2.1=Zni.set 9 1:=by rw[hU2]
 have c1:ctE U.2.1 [u9]=0:=by rw[hUn];decide +kernel
 obtain⟨o1,o2,o3,o4,_⟩:=Zcn m4 hmu c1 (k:=12) (by rw[hU2,Zgb];decide +kernel) (by rw[hU2];show (wrD T.1 9 _).2.length<4096;rw[Zbv];omega);obtain⟨V,hV⟩:∃ V,mkV U (1,[u9])=V:=⟨_,rfl⟩
 rw[hV] at o3 o4;have hV2:V=(wrD (wrD T.1 9 (Va (0,(Ls 6).drop 1))) 12 (Va (1,[u9])),((Zni.set 9 1).set 9 2).set 12 1,Zv 256):=by
  rw[o3];show (_,(ctV U.2.1 [u9]).set 12 1,U.2.2)=_;rw[hU2];have:ctV (Zni.set 9 1) [u9]=(Zni.set 9 1).set 9 2:=by decide +kernel
  show (_,(ctV (Zni.set 9 1) [u9]).set 12 1,_)=_;rw[this]
 obtain⟨D,hD⟩:∃ D,wrD (wrD T.1 9 (Va (0,(Ls 6).drop 1))) 12 (Va (1,[u9]))=D:=⟨_,rfl⟩
 rw[hD] at hV2;have s9:Z1 D 9=Va (0,(Ls 6).drop 1):=by rw[<- hD,Z4 (by decide)];exact Xr
 have s12:Z1 D 12=Va (1,[u9]):=by rw[<- hD];exact Xr
 have s11:Z1 D 11=Z1 T.1 11:=by rw[<- hD,Z4 (by decide),Z4 (by decide)]
 have s8:Z1 D 8=Z1 T.1 8:=by rw[<- hD,Z4 (by decide),Z4 (by decide)]
 have s10:Z1 D 10=Z1 T.1 10:=by rw[<- hD,Z4 (by decide),Z4 (by decide)]
 have hmD:Zbm D=true:=by rw[<- show V.1=D by rw[hV2]];exact(Ye o4).1
 have hsee:∀ {k:Nat} {n:Nd},rmE T (k:Int)=0->rmV T (k:Int)=n->reN (Z1 T.1 k)=0/\reV (Z1 T.1 k)=n:=fun {k n} h1 h2=>by
  obtain⟨j,e,_,_,_,_,_,hE,hV,_⟩:=Y6 (Z9 h1).2;obtain rfl:k=j:=by omega
  exact⟨hE ▸ h1,hV ▸ h2⟩
 have hb1:Zq T 0 ((Ls 6).drop 1)=(0,U,[u9]):=by
  unfold Zq;rw[if_pos (by decide),if_pos m1,hU,m2];rfl
 have hb2:Zq U 1 [u9]=(0,V,[upI [u9] 12]):=by
  unfold Zq;rw[if_pos (by decide),if_pos o1,hV,o2];rfl
 have hs0:Yf (Zh3 1) 0 T 8=(0,T,((Ls 6).take 3).drop 1,0):=by
  unfold Yf;rw[r4];have:Zd2 (Zh3 1) (0,(Ls 6).take 3).2=((Ls 6).take 3).drop 1:=by decide +kernel
  rw[this]
 have hmg:Yk T upS 0 (((Ls 6).take 3).drop 1)=(0,2,(Ls 6).drop 1):=by
  have h1:upS[0+1]? = some (Zh3 4,10,[]):=rfl;unfold Yk;rw[h1];show (if (rmV T 10).2.length+(((Ls 6).take 3).drop 1).length<=5 then _ else _)=_;rw[r6,if_pos (by decide)];rfl
 have hs1:Yf (Zh3 1) 1 T 11=(0,U,[u9],9):=by
  have hr:Zci (1,upS) (Zh3 1)=8:=by decide +kernel
  have hw:Xk (1,upS) (Zh3 1)=0:=by decide +kernel
  unfold Yf;rw[r2,hr,hs0,hw];show (if (0:Int)=0 then _ else _)=_;rw[if_pos rfl,if_neg (by decide)];show (match Yk T upS 0 (((Ls 6).take 3).drop 1) with | (first,many,L')=>match Zq T ((0:Nat):Int) L' with | (f,u,up)=>if f=0 then (0,(if (0:Int)=0 then u else Vw u 0),Zbb upS first many (up.take 1),Zch up) else (f,Zj,[],0))=_;rw[hmg];show (match Zq T 0 ((Ls 6).drop 1) with | (f,u,up)=>if f=0 then (0,(if (0:Int)=0 then u else Vw u 0),Zbb upS 0 2 (up.take 1),Zch up) else (f,Zj,[],0))=_;rw[hb1];rfl
 have hF:Vw V 9=(D,(((Zni.set 9 1).set 9 2).set 12 1).set 9 1,Zv 256):=by
  rw[hV2];have:((((Zni.set 9 1).set 9 2).set 12 1).set ((9:Int)).toNat (((((Zni.set 9 1).set 9 2).set 12 1))[((9:Int)).toNat]?.getD 0-1))=(((Zni.set 9 1).set 9 2).set 12 1).set 9 1:=by decide +kernel
  show (D,((((Zni.set 9 1).set 9 2).set 12 1).set ((9:Int)).toNat (((((Zni.set 9 1).set 9 2).set 12 1))[((9:Int)).toNat]?.getD 0-1)),Zv 256)=_;rw[this]
 obtain⟨cF,hcF⟩:∃ c,(((Zni.set 9 1).set 9 2).set 12 1).set 9 1=c:=⟨_,rfl⟩
 have hmF:Xm (D,cF,Zv 256)=true:=Zag hmD (show Zbj cF=true by rw[<- hcF];decide +kernel) Zca;have hm12:rmV (D,cF,Zv 256) 12=(1,[u9]):=(Zj5 (Zcf hmF (by omega) (by omega) (show cF[12]?.getD 0≠0 by rw[<- hcF];decide +kernel)) s12 hmu hinu).2;have r12:=Zb6 hmu hinu;have hlo:Yu 1 (D,cF,Zv 256) 12=(0,(D,((cF.set 9 2).set 12 0).set 9 1,Zv 256),9):=by
  unfold Yu;rw[hm12];show (if (1:Nat)=1 then (if cF[9]?.getD 0=255 then (70,Zj,0) else match lfO D (upR (D,cF,Zv 256) 9).2.1 12 with | none=>(8,Zj,0) | some v=>Yu 0 (D,v,Zv 256) 9) else _)=_;have h1:¬ cF[9]?.getD 0=255:=by rw[<- hcF];decide +kernel
  have h2:(upR (D,cF,Zv 256) 9).2.1=cF.set 9 2:=by
   show cF.set ((9:Int)).toNat (cF[((9:Int)).toNat]?.getD 0+1)=_;rw[<- hcF]
   decide +kernel
  have h3:lfO D (cF.set 9 2) 12=some (((cF.set 9 2).set 12 0).set 9 1):=by
   unfold lfO;rw[s12,r12.1,r12.2];have e1:dnO (cF.set 9 2) 12=some ((cF.set 9 2).set 12 0):=by rw[<- hcF];decide +kernel
   rw[e1];show (if 1<((cF.set 9 2)[12]?.getD 0).toNat then _ else _)=_;rw[if_neg (by rw[<- hcF];decide +kernel),if_pos rfl];show Vm (lvF D 1) ((cF.set 9 2).set 12 0) [u9]=_;show (if (9:Int)=0 then Vm (lvF D 1) ((cF.set 9 2).set 12 0) [] else (lvF D 1 ((cF.set 9 2).set 12 0) 9).bind fun t'=>Vm (lvF D 1) t' [])=_;rw[if_neg (by decide)];show ((lvF D 1 ((cF.set 9 2).set 12 0) 9).bind fun t'=>Vm (lvF D 1) t' [])=_;rw[Zhh D 1 _ _ (by rw[<- hcF];decide +kernel)];show some (((cF.set 9 2).set 12 0).set 9 (((cF.set 9 2).set 12 0)[9]?.getD 0-1))=_;have:((cF.set 9 2).set 12 0).set 9 (((cF.set 9 2).set 12 0)[9]?.getD 0-1)=((cF.set 9 2).set 12 0).set 9 1:=by rw[<- hcF];decide +kernel
   rw[this]
  rw[if_pos rfl,if_neg h1,h2,h3];rfl
 obtain⟨cG,hcG⟩:∃ c,((cF.set 9 2).set 12 0).set 9 1=c:=⟨_,rfl⟩
 rw[hcG] at hlo;have hcG':cG=((((((Zni.set 9 1).set 9 2).set 12 1).set 9 1).set 9 2).set 12 0).set 9 1:=by rw[<- hcG,<- hcF]
 have hleaf:∀ {k:Nat} {t:List UInt8},t[k]?.getD 0≠0->lvF D 0 t k=some (t.set k (t[k]?.getD 0-1)):=fun h=>Zdl h
 obtain⟨q1,q2⟩:=hsee (k:=11) r1 r2;have hlf:lfO D cG 11=some (((cG.set 11 0).set 8 0).set 10 0):=by
  unfold lfO;rw[s11,q1,q2];have e1:dnO cG 11=some (cG.set 11 0):=by rw[hcG'];decide +kernel
  rw[e1];show (if 1<(cG[11]?.getD 0).toNat then _ else _)=_;rw[if_neg (by rw[hcG'];decide +kernel),if_pos rfl];obtain⟨p1,p2⟩:=hsee (k:=8) r3 r4;obtain⟨p3,p4⟩:=hsee (k:=10) r5 r6;have l8:lvF D 1 (cG.set 11 0) 8=some ((cG.set 11 0).set 8 0):=by
   show lvS D 0 (lvF D 0) (cG.set 11 0) 8=_;unfold lvS;have e2:dnO (cG.set 11 0) 8=some ((cG.set 11 0).set 8 0):=by rw[hcG'];decide +kernel
   rw[e2,s8,p1,p2];show (if 1<((cG.set 11 0)[8]?.getD 0).toNat then _ else _)=_;rw[if_neg (by rw[hcG'];decide +kernel),if_pos ⟨rfl,rfl⟩];rfl
  have l10:lvF D 1 ((cG.set 11 0).set 8 0) 10=some (((cG.set 11 0).set 8 0).set 10 0):=by
   show lvS D 0 (lvF D 0) ((cG.set 11 0).set 8 0) 10=_;unfold lvS;have e2:dnO ((cG.set 11 0).set 8 0) 10=some (((cG.set 11 0).set 8 0).set 10 0):=by rw[hcG'];decide +kernel
   rw[e2,s10,p3,p4];show (if 1<(((cG.set 11 0).set 8 0)[10]?.getD 0).toNat then _ else _)=_;rw[if_neg (by rw[hcG'];decide +kernel),if_pos ⟨rfl,rfl⟩];rfl
  show Vm (lvF D 1) (cG.set 11 0) upS=_;show (if (8:Int)=0 then Vm (lvF D 1) (cG.set 11 0) [(Zh3 4,10,[])] else (lvF D 1 (cG.set 11 0) 8).bind fun t'=>Vm (lvF D 1) t' [(Zh3 4,10,[])])=_;rw[if_neg (by decide),l8];show (if (10:Int)=0 then Vm (lvF D 1) ((cG.set 11 0).set 8 0) [] else (lvF D 1 ((cG.set 11 0).set 8 0) 10).bind fun t'=>Vm (lvF D 1) t' [])=_;rw[if_neg (by decide),l10];rfl
 obtain⟨cW,hcW⟩:∃ c,((cG.set 11 0).set 8 0).set 10 0=c:=⟨_,rfl⟩
 rw[hcW] at hlf;have hcW':cW=((((((((((Zni.set 9 1).set 9 2).set 12 1).set 9 1).set 9 2).set 12 0).set 9 1).set 11 0).set 8 0).set 10 0):=by rw[<- hcW,hcG']
 have hmW:Xm (D,cW,Zv 256)=true:=Zag hmD (show Zbj cW=true by rw[hcW'];decide +kernel) Zca;have ha9:asE (D,cW,Zv 256) 9=0:=Zcf (k:=9) hmW (by omega) (by omega) (show cW[9]?.getD 0≠0 by rw[hcW'];decide +kernel);obtain⟨v1,v2⟩:=Zj5 (k:=9) ha9 s9 hmn hin;have v1':rmE (D,cW,Zv 256) 9=0:=v1;have v2':rmV (D,cW,Zv 256) 9=(0,(Ls 6).drop 1):=v2;have hlfO:Yr (D,cW,Zv 256) ((Ls 6).drop 1)=true:=by
  unfold Yr;rw[Q6];intro y hy;simp[(Zh4 6 (by omega) y (Qr hy)).2]
 have ht:Yo (D,cW,Zv 256) 9=true:=by
  unfold Yo;rw[v1',v2'];show (true&&Yr (D,cW,Zv 256) ((Ls 6).drop 1))=true;rw[hlfO];rfl
 refine⟨(D,cW,Zv 256),?_,(Zjc ha9 ht).1,by rw[(Zjc ha9 ht).2,v2'];rfl,?_⟩
 ·unfold Zqb
  rw[r2];show (match Yf (Zh3 1) 1 T 11 with | (e,t,L,held)=>if e=0 then (match Zq t (if L=[] then 0 else 1) L with | (f,u,up)=>if f=0 then (match Yu (if L=[] then 0 else 1) (if held=0 then u else Vw u held) (Zch up) with | (g,w,now)=>if g=0 then (match lfO w.1 w.2.1 11 with | none=>((8:Int),Zj,(0:Int)) | some v=>((0:Int),(w.1,v,w.2.2),now)) else (g,Zj,(0:Int))) else (f,Zj,(0:Int))) else (e,Zj,(0:Int)))=_;rw[hs1];show (match Zq U 1 [u9] with | (f,u,up)=>if f=0 then (match Yu 1 (Vw u 9) (Zch up) with | (g,w,now)=>if g=0 then (match lfO w.1 w.2.1 11 with | none=>((8:Int),Zj,(0:Int)) | some v=>((0:Int),(w.1,v,w.2.2),now)) else (g,Zj,(0:Int))) else (f,Zj,(0:Int)))=_;rw[hb2];show (match Yu 1 (Vw V 9) 12 with | (g,w,now)=>if g=0 then (match lfO w.1 w.2.1 11 with | none=>((8:Int),Zj,(0:Int)) | some v=>((0:Int),(w.1,v,w.2.2),now)) else (g,Zj,(0:Int)))=_;rw[hF,hcF,hlo];show (match lfO D cG 11 with | none=>((8:Int),Zj,(0:Int)) | some v=>((0:Int),(D,v,Zv 256),(9:Int)))=_;rw[hlf]
 ·unfold Vo
  rw[v2'];show X2 (D,cW,Zv 256) 0 9=_;unfold X2;rw[v2']}
theorem Z8z:∃ W,Zf5 (gS 6).1 11 (Zh3 1)=(0,W,9)/\ckE W 9=0/\ckH W 9=1/\(raV W 9 Zbh Zwx).length=5:=by{
 obtain⟨T,e,h1,h2,h3,h4,h5,h6,h7,h8,h9,h10⟩:=Zmd;have eg:(gS 6).1=T:=by rw[Zq6 5,e]
 rw[eg];obtain⟨W,f1,f2,f3,f4⟩:=Z6o h1 h2 h3 h4 h5 h6 h7 h8 h9 h10;refine⟨W,?_,f2,f3,?_⟩
 ·have hx:Zdv T 11 (Zh3 1)=some (kx 1):=by
   unfold Zdv;rw[h3];show Zcl T 1 11 (Zh3 1)=_;rw[Zjx,h3];have e1:((1,upS).2.reverse.find? fun x => !Zo (Zh3 1) x.1)=some (Zh3 1,8,[]):=by decide +kernel
   have e2:((0,(Ls 6).take 3).2.reverse.find? fun x=>decide (x.1=Zh3 1))=some (kx 1):=by decide +kernel
   rw[e1];show Zcl T 0 8 (Zh3 1)=_;rw[Zi0,h5];exact e2
  rw[Zjf (Zsw h2 h3 h4 h5 h6 h7).1 hx,f1]
 ·rw[Zek f2,f4]
  rfl}
end Go.Proofs.YtgmbjnajdfgenaaGreat
