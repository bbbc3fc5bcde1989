/-
  Lemmas on the program and on the document's answers, gathered: PuLay, PuBack, PuParts, PuGrow, PuWay, WkNodes, PuGrow2, PuPut, FrSet, PtItems, PuPlain, FnMade, PuSix, FrVolF, FrAl, PuNew, FrAlive, FrArg, FrEq, WkBits. Conditions: those that each lemma states.
-/
import Derived.Test.YtmafkphcfkhokaaGreatBnd4
import Derived.Maps.OwnIn
import Derived.Stop.RegionWithIn
set_option maxRecDepth 100000
set_option maxHeartbeats 16000000
open Array renaming getElem?_eq_some_iff → Qa, replicate_succ → Q9, replicate_zero → Pa, ext_getElem? → Pn, getElem?_modify → Pw
open Bool renaming and_eq_true → Ps
open Go renaming World → Px, Value → Py, Addr → Pz, TypeId → P5, bodyPost_ret → P7, heap_alloc_new → P8, undef → Qaa, Calls → Qab
open Go.Act renaming put → Qc
open Go.RowKit renaming Below → Qac
open Go.RowKit.Below renaming refl → Qd
open Go.World renaming cell?_of_block → Qf, block_lt_of_cell? → Qq, cell? → Q5, setCell → Pv
open List renaming getElem?_eq_getElem → Qg, getElem?_eq_some_iff → Qh, length_append → Qj, drop_eq_getElem_cons → Qk, mem_append → Ql, mem_singleton → Qm, mem_of_mem_take → Qn, mem_cons_self → Qo, drop_of_length_le → Qp, length_cons → Qr, length_nil → Qs, length_take → Qt, cons_append → Qu, mem_cons_of_mem → Qv, getElem?_take_of_lt → Qw, length_drop → Qx, nil_append → Qy, mem_of_getElem? → Qz, mem_of_mem_drop → Q0, drop_zero → Q3, size_toArray → Q6, push_toArray → Pd, append_toArray → Pe, length_reverse → Pg, getElem?_append_left → Pi, getElem?_append_right → Pj, getElem?_reverse → Pk, getElem_mem → Pm, map_append → Po, take_succ_cons → Pp, take_zero → Pq, drop_succ_cons → Pr, reverse_singleton → Pt, reverse_cons → Pu
open Nat renaming le_refl → Qb, lt_of_lt_of_le → Qe, le_trans → Qi, reduceAdd → Q7, reduceSub → Q8, zero_add → Pf, le_of_lt → Ph
noncomputable section
namespace Go.Proofs.YtmafkphcfkhokaaGreat
open Go.RowKit
def Zd2 (L:List It):List (List It):=if L.length<=5 then [L] else [L.take 3,L.drop 3]
def mkA (lv:Int):Rm->List It->List (List It)->Int×Rm×List It
 | s,M,[]=>(0,s,M)
 | s,M,l::r=>if mkE s (lv,l)=0 then mkA lv (mkV s (lv,l)) (M++[upI l (mkN s (lv,l))]) r else (mkE s (lv,l),Zn,[])
theorem Zzd {lv:Int}{s:Rm}{M l:List It}{P:List (List It)}{k:Nat}(h:P[k]? = some l):mkA lv s M (P.drop k)=if mkE s (lv,l)=0 then mkA lv (mkV s (lv,l)) (M++[upI l (mkN s (lv,l))]) (P.drop (k+1)) else (mkE s (lv,l),Zn,[]):=by
 obtain⟨hl,e⟩:=Qh.1 h;rw[Qk hl,e];rfl
theorem Zuj (lv:Int) (s:Rm) (L:List It):mkA lv s [] (Zd2 L)=Z5 s lv L:=by{
 unfold Zd2 Z5;split
 ·simp only[mkA]
  split <;> rfl
 ·simp only[mkA]
  split
  ·split <;> rfl
  ·rfl}
def Zht:List It->Rm->Int×Rm
 | [],s=>(0,s)
 | x::r,s=>if x.2.1=0 then Zht r s else if asE s x.2.1=0 then Zht r (loV s x.2.1) else (asE s x.2.1,Zn)
theorem Zux {s:Rm}{F:List It}{k:Nat}{x:It}(h:F[k]? = some x):Zht (F.drop k) s=if x.2.1=0 then Zht (F.drop (k+1)) s else if asE s x.2.1=0 then Zht (F.drop (k+1)) (loV s x.2.1) else (asE s x.2.1,Zn):=by
 obtain⟨hl,e⟩:=Qh.1 h;rw[Qk hl,e];rfl
def Vk (s:Rm) (lv:Int) (L F:List It):Int×Rm×List It :=
 if (Z5 s lv L).1=0 then (if (Zht F (Z5 s lv L).2.1).1=0 then (0,(Zht F (Z5 s lv L).2.1).2,(Z5 s lv L).2.2) else ((Zht F (Z5 s lv L).2.1).1,Zn,[])) else ((Z5 s lv L).1,Zn,[])
theorem Zx4 {ok:Pz->Prop}{w:Px}{A:Option Pz}{n c:Nat}{L:List It}(h:Zar ok w [.slice A n c] L) (k:Nat) (hk:k<=L.length):Zar ok w [.slice A k c] (L.take k):=by{
 obtain⟨A',c',e,h1,h2,h3⟩:=h;cases e;refine⟨A,c,by rw[Qt,Nat.min_eq_left hk],by rw[Qt];omega,h2,fun i x hi=> ?_⟩;rcases Nat.lt_or_ge i k with hik | hik
 ·rw[Qw hik] at hi
  exact h3 i x hi
 ·rw[List.getElem?_eq_none (by rw[Qt];omega)] at hi
  cases hi}
theorem Zon (A:Option Pz) (n c:Nat) (L:List It) (w0 w:Px) (h:Zar (Old w0) w0 [.slice A n c] L) (hn:L.length=n) (h0:0<n) :
  Qab Tryz.prog 176 #[.slice A n c] w fun e w'=>∃ PV:List Py,e=.returned (.slice (some ⟨w.heap.size,0,none⟩) PV.length PV.length)/\PV.length=(Zd2 L).length/\PV.length<=2/\0<PV.length/\w'.heap[w.heap.size]? = some (.cells PV.toArray 57 (0,0)) /\
   (∀ (k:Nat) (l:List It),(Zd2 L)[k]? = some l->∃ (ad:Pz) (d:Nat),PV[k]? = some (Value.slice (some ad) l.length d)/\Zar (Old w0) w0 [.slice (some ad) l.length d] l/\0<l.length)/\Qac w.heap.size w w':=by{
 subst hn;obtain⟨A',c',e,h1,h2⟩:=Zq4 h;cases e;have hA:0<L.length->∃ ad,A=some ad:=fun hp=>by
  obtain⟨_,_,e,_,_,h4⟩:=id h;cases e;obtain⟨ad,_,e,_⟩:=h4 0 _ (Qg hp);exact⟨ad,e⟩
 refine(Zvw A L.length c w h1 h2 hA).mono ?_;rintro e w' ⟨hb,⟨h5,rfl,hg⟩ | ⟨h5,ad,rfl,rfl,hg⟩⟩
 ·obtain⟨ad,rfl⟩:=hA h0
  refine⟨[.slice (some ad) L.length c],rfl,by unfold Zd2;rw[if_pos h5];rfl,by simp,by simp,hg,fun k l hl=> ?_,hb⟩;unfold Zd2 at hl;rw[if_pos h5] at hl
  match k,hl with
  | 0,hl =>
   cases hl;exact⟨ad,c,rfl,h,h0⟩
  | k+1,hl=>simp at hl
 ·refine⟨[.slice (some ad) 3 c,.slice (some (ad.add (3*5))) (L.length-3) (c-3)],rfl,by unfold Zd2;rw[if_neg (by omega)];rfl,by simp,by simp,hg,fun k l hl=> ?_,hb⟩
  unfold Zd2 at hl;rw[if_neg (by omega)] at hl;have ht:(L.take 3).length=3:=by rw[Qt];omega
  match k,hl with
  | 0,hl =>
   cases hl;exact⟨ad,c,by rw[ht];rfl,by rw[ht];exact Zx4 h 3 (by omega),by omega⟩
  | 1,hl =>
   cases hl;exact⟨ad.add (3*5),c-3,by rw[Qx];rfl,by rw[Qx];exact Zz1 h 3 (by omega),by rw[Qx];omega⟩
  | k+2,hl=>simp at hl}
theorem Ziv (v u:Py) (s:Rm) (n:Nd) (w:Px) (h:Sto (Old w) w v s) (hu:Nod (Old w) w u n) :
  Qab Tryz.prog 54 #[v,u] w fun e W'=>∃ qa qb qc qd:Option Pz×Nat×Nat,e=.returned (.tuple #[.agg #[.slice qa.1 qa.2.1 qa.2.2,.slice qb.1 qb.2.1 qb.2.2,.slice qc.1 qc.2.1 qc.2.2,.slice qd.1 qd.2.1 qd.2.2],.int .i64 (mkN s n),.int .i64 (mkE s n)])/\Sto (New w.heap.size W') W' (.agg #[.slice qa.1 qa.2.1 qa.2.2,.slice qb.1 qb.2.1 qb.2.2,.slice qc.1 qc.2.1 qc.2.2,.slice qd.1 qd.2.1 qd.2.2]) (mkV s n)/\Qac w.heap.size w W' :=
 (Zse v u s n w h hu).mono fun _ _ ⟨A,ca,B,cb,N,cn,L,cl,h1,h2,h3⟩=>⟨(A,_,ca),(B,_,cb),(N,_,cn),(L,_,cl),h1,h2,h3⟩
theorem Zod (v:Py) (s:Rm) (n:Int) (w:Px) (h:Sto (Old w) w v s) :
  Qab Tryz.prog 177 #[v,.int .i64 n] w fun e W'=>∃ qa qb qc qd:Option Pz×Nat×Nat,e=.returned (.tuple #[.agg #[.slice qa.1 qa.2.1 qa.2.2,.slice qb.1 qb.2.1 qb.2.2,.slice qc.1 qc.2.1 qc.2.2,.slice qd.1 qd.2.1 qd.2.2],.int .i64 (asE s n)])/\Sto (New w.heap.size W') W' (.agg #[.slice qa.1 qa.2.1 qa.2.2,.slice qb.1 qb.2.1 qb.2.2,.slice qc.1 qc.2.1 qc.2.2,.slice qd.1 qd.2.1 qd.2.2]) (loV s n)/\Qac w.heap.size w W' :=
 (Zn9 v s n w h).mono fun _ _ ⟨A,ca,B,cb,N,cn,L,cl,h1,h2,h3⟩=>⟨(A,_,ca),(B,_,cb),(N,_,cn),(L,_,cl),h1,h2,h3⟩
theorem Zg7 (v:Py) (s:Rm) (n:Int) (w:Px) (h:Sto (Old w) w v s) :
  Qab Tryz.prog 72 #[v,.int .i64 n] w fun e W'=>∃ qa qb qc qd:Option Pz×Nat×Nat,e=.returned (.tuple #[.agg #[.slice qa.1 qa.2.1 qa.2.2,.slice qb.1 qb.2.1 qb.2.2,.slice qc.1 qc.2.1 qc.2.2,.slice qd.1 qd.2.1 qd.2.2],.int .i64 (lvE s n)])/\Sto (New w.heap.size W') W' (.agg #[.slice qa.1 qa.2.1 qa.2.2,.slice qb.1 qb.2.1 qb.2.2,.slice qc.1 qc.2.1 qc.2.2,.slice qd.1 qd.2.1 qd.2.2]) (lvV s n)/\Qac w.heap.size w W' :=
 (Znk v s n w h).mono fun _ _ ⟨A,ca,B,cb,N,cn,L,cl,h1,h2,h3⟩=>⟨(A,_,ca),(B,_,cb),(N,_,cn),(L,_,cl),h1,h2,h3⟩
def Z37 (s:Rm) (lv:Int) (L F:List It) (w:Px) (e:Ending) (w':Px):Prop:=∃ (qa qb qc qd:Option Pz×Nat×Nat) (M:Option Pz) (mc:Nat),e=.returned (.tuple #[.agg #[.slice qa.1 qa.2.1 qa.2.2,.slice qb.1 qb.2.1 qb.2.2,.slice qc.1 qc.2.1 qc.2.2,.slice qd.1 qd.2.1 qd.2.2],.slice M (Vk s lv L F).2.2.length mc,.int .i64 (Vk s lv L F).1]) /\
 Sto (New w.heap.size w') w' (.agg #[.slice qa.1 qa.2.1 qa.2.2,.slice qb.1 qb.2.1 qb.2.2,.slice qc.1 qc.2.1 qc.2.2,.slice qd.1 qd.2.1 qd.2.2]) (Vk s lv L F).2.1/\Yp rIt 5 79 w.heap.size w' M mc (Vk s lv L F).2.2/\Qac w.heap.size w w'
theorem Z6d {s:Rm}{lv:Int}{L F:List It}{er:Int}(h:Z5 s lv L=(er,Zn,[])) (h0:er≠0):Vk s lv L F=(er,Zn,[]):=by
 unfold Vk;rw[h,if_neg h0]
theorem Z54 {s u:Rm}{lv:Int}{L F up:List It}{er:Int}(h:Z5 s lv L=(0,u,up)) (h1:Zht F u=(er,Zn)) (h0:er≠0):Vk s lv L F=(er,Zn,[]):=by
 unfold Vk;rw[h,if_pos rfl,h1,if_neg h0]
theorem Z4d {s u v:Rm}{lv:Int}{L F up:List It}(h:Z5 s lv L=(0,u,up)) (h1:Zht F u=(0,v)):Vk s lv L F=(0,v,up):=by
 unfold Vk;rw[h,if_pos rfl,h1,if_pos rfl]
theorem Zvt (qa qb qc qd:Option Pz×Nat×Nat) (s:Rm) (lv:Int) (hlv:Zcz lv) (A:Option Pz) (n cA:Nat) (L:List It) (B:Option Pz) (m cB:Nat) (F:List It) (w:Px) (h:Sto (Old w) w (.agg #[.slice qa.1 qa.2.1 qa.2.2,.slice qb.1 qb.2.1 qb.2.2,.slice qc.1 qc.2.1 qc.2.2,.slice qd.1 qd.2.1 qd.2.2]) s)
  (hL:Zar (Old w) w [.slice A n cA] L) (hF:Zar (Old w) w [.slice B m cB] F) (hn:L.length=n) (h0:0<n) (hm:F.length=m) (hm1:m<=1000) :
  Qab Tryz.prog 117 #[.agg #[.slice qa.1 qa.2.1 qa.2.2,.slice qb.1 qb.2.1 qb.2.2,.slice qc.1 qc.2.1 qc.2.2,.slice qd.1 qd.2.1 qd.2.2],.int .i64 lv,.slice A n cA,.slice B m cB] w (Z37 s lv L F w):=by{
 obtain⟨w1,hw1,b1,hs1,hB1⟩:=Xy w (.slice qa.1 qa.2.1 qa.2.2) (.slice qb.1 qb.2.1 qb.2.2) (.slice qc.1 qc.2.1 qc.2.2) (.slice qd.1 qd.2.1 qd.2.2) 29;obtain⟨w2,hw2,b2,hs2,hB2⟩:=Xy w1 (.slice none 0 0) (.slice none 0 0) (.slice none 0 0) (.slice none 0 0) 29;have hB12:=hB1.trans (hB2.mono hB1.size);have hb1:=(hB2.block w.heap.size (by omega)).trans b1;have HP:=Za (Zon A n cA L w w2 hL hn h0);have HS:=Za (h.below hB12);have HF:=Za hF;have B2:=Za hB12;have G1:=Za hb1;have G2:=Za b2;have hbu:=Za (Zuj lv s L);have SZ:=Za (show w1.heap.size=w.heap.size+1/\w2.heap.size=w.heap.size+2 from ⟨hs1,by omega⟩);replace hn:=Za hn;replace hm:=Za hm;replace hlv:=Za hlv;replace hs1:=Za hs1;replace hs2:=Za hs2;clear h hL hF hB1 hB2 hB12 b1 b2 hb1
 go_enter Tryz.func117,Tryz.ntmps117
 go_upto_region 1 with fail
 clear hw1 hw2
 go_wp2_with fail
 with_reducible refine(HP.out).mono ?_
 rintro e w3 ⟨PV,rfl,hPl,hP2,hP0,hg3,hpv,hb3⟩;have B3:=Za (B2.out.trans (hb3.mono B2.out.size));have H3:=Za (HS.out.below hb3);have g1:=Za ((hb3.block w.heap.size (by have:=SZ.out;omega)).trans G1.out);have g2:=Za ((hb3.block w1.heap.size (by have:=SZ.out;omega)).trans G2.out);have s3:=Za (show w2.heap.size<w3.heap.size from (Qa.1 hg3).1);obtain⟨K,hK⟩:∃ K,PV.length=K:=⟨_,rfl⟩
 obtain⟨P,hP⟩:∃ P,Zd2 L=P:=⟨_,rfl⟩
 rw[hK] at hPl hP2 hP0 ⊢;rw[hP] at hPl hpv hbu;have hg3:=Za hg3;have hpv:=Za hpv;replace hPl:=Za hPl;replace hK:=Za hK;replace hP:=Za hP
 have hzero:Hid (∀ (er:Int) (W:Px),Vk s lv L F=(er,Zn,[])->w3.grownBy W (some w.heap.size)->∃ W9,(((W.setCell ⟨w1.heap.size,0,none⟩ (.slice none 0 0)).setCell ⟨w1.heap.size,1,none⟩ (.slice none 0 0)).setCell ⟨w1.heap.size,2,none⟩ (.slice none 0 0)).setCell ⟨w1.heap.size,3,none⟩ (.slice none 0 0)=W9 /\
   W9.cell? ⟨w1.heap.size,0,none⟩=some (.slice none 0 0)/\W9.cell? ⟨w1.heap.size,1,none⟩=some (.slice none 0 0)/\W9.cell? ⟨w1.heap.size,2,none⟩=some (.slice none 0 0)/\W9.cell? ⟨w1.heap.size,3,none⟩=some (.slice none 0 0) /\
   W.cell? ⟨w1.heap.size,0,none⟩=some (.slice none 0 0)/\W.cell? ⟨w1.heap.size,1,none⟩=some (.slice none 0 0)/\W.cell? ⟨w1.heap.size,2,none⟩=some (.slice none 0 0)/\W.cell? ⟨w1.heap.size,3,none⟩=some (.slice none 0 0)/\(∀ o,W.frozen? ⟨w1.heap.size,o,none⟩=false) /\
   Z37 s lv L F w (.returned (.tuple #[.agg #[.slice none 0 0,.slice none 0 0,.slice none 0 0,.slice none 0 0],.slice none 0 0,.int .i64 er])) W9):=Za fun er W he hW=>by
  have bW:=(hW.block w1.heap.size (by have:=s3.out;have:=SZ.out;omega) (by have:=SZ.out;intro e;have:=Option.some.inj e;omega)).trans g2.out;obtain⟨W9,e9,g9,gr9,_⟩:=Zt (a':=.slice none 0 0) (b':=.slice none 0 0) (c':=.slice none 0 0) (d':=.slice none 0 0) bW;obtain⟨k0,k1,k2,k3,_⟩:=Ze g9;obtain⟨y0,y1,y2,y3,yf,_⟩:=Ze bW;have hBW:=(B3.out.grown hW B3.out.size (fun q e=>by cases e;exact Qb _)).grown gr9 (by have:=hW.size;have:=B3.out.size;omega) (fun q e=>by cases e;have:=SZ.out;omega);refine⟨W9,e9,k0,k1,k2,k3,y0,y1,y2,y3,yf,(none,0,0),(none,0,0),(none,0,0),(none,0,0),none,0,by rw[he];rfl,by rw[he];exact Y1 _ _,by rw[he];exact Yp.nil _ _ _ _ _,hBW⟩
 clear hb3
 go_wp2_with fail
 go_loopw [9,19] (fun mv iv wr=>∃ (k:Nat) (M:Option Pz) (mc:Nat) (made:List It) (sk:Rm) (qa qb qc qd:Option Pz×Nat×Nat),k<=K/\iv=.int .i64 (k:Int)/\mv=.slice M made.length mc/\made.length=k/\mkA lv s [] P=mkA lv sk made (P.drop k)/\wr.heap[w.heap.size]? = some (.cells #[.slice qa.1 qa.2.1 qa.2.2,.slice qb.1 qb.2.1 qb.2.2,.slice qc.1 qc.2.1 qc.2.2,.slice qd.1 qd.2.1 qd.2.2] 29 (0,0)) /\
   Sto (Old wr) wr (.agg #[.slice qa.1 qa.2.1 qa.2.2,.slice qb.1 qb.2.1 qb.2.2,.slice qc.1 qc.2.1 qc.2.2,.slice qd.1 qd.2.1 qd.2.2]) sk/\(0<k->Sto (New w3.heap.size wr) wr (.agg #[.slice qa.1 qa.2.1 qa.2.2,.slice qb.1 qb.2.1 qb.2.2,.slice qc.1 qc.2.1 qc.2.2,.slice qd.1 qd.2.1 qd.2.2]) sk)/\Yp rIt 5 79 w3.heap.size wr M mc made/\w3.grownBy wr (some w.heap.size)) (fun _ iv _=>K-(intOf iv).toNat)
 case atStart=>exact⟨0,none,0,[],s,qa,qb,qc,qd,by omega,rfl,rfl,rfl,rfl,g1.out,H3.out,fun h=>by omega,Yp.nil _ _ _ _ _,Ye _ _⟩
 case round =>
  obtain⟨k,M,mc,made,sk,pa,pb,pc,pd,hk,rfl,rfl,hml,hmk,hbx,hsto,hnew,hrow,hgr⟩:=hrel;replace hmk:=Za hmk;replace hnew:=Za hnew;replace hgr:=Za hgr;by_cases hlt:k<K
  case neg =>
   have hkK:k=K:=by omega
   subst hkK;have hst4:=hnew.out hP0;have hbe:Hid (Z5 s lv L=(0,sk,made)):=Za (by rw[<- hbu.out,hmk.out,Qp (by have:=hPl.out;omega)];rfl);have hBr:=Za (B3.out.grown hgr.out B3.out.size (fun q e=>by cases e;exact Qb _));obtain⟨mm,hmm⟩:∃ q,made.length=q:=⟨_,rfl⟩
   rw[hmm] at hml;have g4:=Za hbx;have h4:=Za hst4;have row4:=Za hrow;have hlt34:=Za (show w3.heap.size<=wr.heap.size from hgr.out.size);rw[hmm];have hm1':=hm1;replace hmm:=Za hmm;replace hml:=Za hml;clear hsto hnew hst4 hbx hrow hmk hlt
   go_wp2_with fail
   go_loopw [9,48] (fun mv iv wz=>∃ (j:Nat) (sz:Rm) (ra rb rc rd:Option Pz×Nat×Nat),j<=m/\mv=.slice M mm mc/\iv=.int .i64 (j:Int)/\Zht F sk=Zht (F.drop j) sz/\wz.heap[w.heap.size]? = some (.cells #[.slice ra.1 ra.2.1 ra.2.2,.slice rb.1 rb.2.1 rb.2.2,.slice rc.1 rc.2.1 rc.2.2,.slice rd.1 rd.2.1 rd.2.2] 29 (0,0)) /\
    Sto (New w3.heap.size wz) wz (.agg #[.slice ra.1 ra.2.1 ra.2.2,.slice rb.1 rb.2.1 rb.2.2,.slice rc.1 rc.2.1 rc.2.2,.slice rd.1 rd.2.1 rd.2.2]) sz/\Yp rIt 5 79 w3.heap.size wz M mc made/\w3.grownBy wz (some w.heap.size)) (fun _ iv _=>m-(intOf iv).toNat)
   case atStart=>exact⟨0,sk,pa,pb,pc,pd,by omega,rfl,rfl,rfl,g4.out,h4.out,row4.out,hgr.out⟩
   case round =>
    obtain⟨j,sz,ra,rb,rc,rd,hj,rfl,rfl,hlo,hbz,hsz,hrz,hgz⟩:=hrel;replace hlo:=Za hlo;replace hgz:=Za hgz;replace hrz:=Za hrz;have hBz:=Za (B3.out.grown hgz.out B3.out.size (fun q e=>by cases e;exact Qb _));have hlt3z:=Za (show w3.heap.size<=wr.heap.size from hgz.out.size);obtain⟨k0,k1,k2,k3,kf,kg⟩:=Ze hbz;by_cases hjm:j<m
    case neg =>
     have hjm':j=m:=by omega
     subst hjm';have hlay:Hid (Vk s lv L F=(0,sz,made)):=Za (Z4d hbe.out (by rw[hlo.out,Qp (by rw[hm.out];exact Qb _)];rfl));have bW:=(hgz.out.block w1.heap.size (by have:=s3.out;have:=SZ.out;omega) (by have:=SZ.out;intro e;have:=Option.some.inj e;omega)).trans g2.out;obtain⟨W9,e9,g9,gr9,_⟩:=Zt (a':=.slice ra.1 ra.2.1 ra.2.2) (b':=.slice rb.1 rb.2.1 rb.2.2) (c':=.slice rc.1 rc.2.1 rc.2.2) (d':=.slice rd.1 rd.2.1 rd.2.2) bW;obtain⟨n0,n1,n2,n3,_⟩:=Ze g9;obtain⟨y0,y1,y2,y3,yf,_⟩:=Ze bW;have hq1:∀ q,(some w1.heap.size:Option Nat)=some q->q<w3.heap.size:=fun q e=>by cases e;have:=s3.out;have:=SZ.out;omega
     have hfin:Hid (Z37 s lv L F w (.returned (.tuple #[.agg #[.slice ra.1 ra.2.1 ra.2.2,.slice rb.1 rb.2.1 rb.2.2,.slice rc.1 rc.2.1 rc.2.2,.slice rd.1 rd.2.1 rd.2.2],.slice M mm mc,.int .i64 0])) W9):=Za ⟨ra,rb,rc,rd,M,mc,by rw[hlay.out,hmm.out],by rw[hlay.out];exact(hsz.grown gr9 hq1).new B3.out.size (Qd _ _),by rw[hlay.out];exact(hrz.out.grown Yn gr9 hq1).low Yn B3.out.size,hBz.out.grown gr9 (by have:=hlt3z.out;have:=B3.out.size;omega) (fun q e=>by cases e;have:=SZ.out;omega)⟩;replace g9:=Za g9;replace bW:=Za bW;replace hbz:=Za hbz;replace hsz:=Za hsz;clear gr9 hzero
     go_wp2_with fail
     exact P7 (v:=.tuple #[.agg #[.slice ra.1 ra.2.1 ra.2.2,.slice rb.1 rb.2.1 rb.2.2,.slice rc.1 rc.2.1 rc.2.2,.slice rd.1 rd.2.1 rd.2.2],.slice M mm mc,.int .i64 0]) (by simp[results,Tryz.results117,go_sem,n0,n1,n2,n3]) rfl hfin.out
    obtain⟨x,hx⟩:∃ x,F[j]? = some x:=⟨_,Qg (by rw[hm.out];exact hjm)⟩
    have hst:=Zux (s:=sz) hx;obtain⟨ad5,E5,ce5,rfl,_,⟨z0,z1,z2,z3,z4⟩,_⟩:=Zdu (Xv.old HF.out hBz.out) hx;have hLo:=Za (fun v W hW=>Zod v sz x.2.1 W hW);obtain⟨z,hzz⟩:∃ z,x.2.1=z:=⟨_,rfl⟩
    obtain⟨w5,hw5,-,-,-,y3,-,hs5,hB5,g5⟩:=Zz wr (.int .u8 (x.1.1.toNat:Int)) (.int .u32 x.1.2.1) (.int .u32 x.1.2.2) (.int .i64 x.2.1) (.slice E5 x.2.2.length ce5) 79;rw[hzz] at z3 hst hLo hw5 y3 g5;have i4:(0:Int)<=(j:Int):=by omega
    have i5:(j:Int)<(m:Int):=by omega
    have i9:IntKind.i64.wrap ((j:Int)+1)=((j+1:Nat):Int):=by rw[IntKind.wrap_i64];omega
    have S5:=Za (hsz.new (Qb _) hB5);have R5:=Za (hrz.out.below Yn hB5);have G5:=Za (Vd hgz.out hB5);have hbz5:=(hB5.block w.heap.size kg).trans hbz;have lt5:=Za (show wr.heap.size<w5.heap.size by omega);replace hs5:=Za hs5;replace hx:=Za hx;replace hzz:=Za hzz;replace hsz:=Za hsz;have hbzh:=Za hbz;clear hbz hB5
    go_upto_region 13 with fail
    clear hw5 z0 z1 z2 z3 z4 k0 k1 k2 k3 kf;obtain⟨k0,k1,k2,k3,kf,kg5⟩:=Ze hbz5;by_cases hz0:z=0
    ·have hn:Hid (Zht F sk=Zht (F.drop (j+1)) sz):=Za (by rw[hlo.out,hst,if_pos hz0])
     subst hz0;have hbz5h:=Za hbz5;clear hst hbz5 hLo hzero
     go_wp2_with fail
     go_roundw
     case rel=>exact⟨j+1,sz,ra,rb,rc,rd,by omega,rfl,by go_num,hn.out,hbz5h.out,S5.out,R5.out,G5.out⟩
     case measure=>simp[intOf];omega
    have hz1:(z==0)=false:=by simpa using hz0
    rw[if_neg hz0] at hst;obtain⟨er,her⟩:∃ q,asE sz z=q:=⟨_,rfl⟩
    obtain⟨V,hV⟩:∃ q,loV sz z=q:=⟨_,rfl⟩
    rw[her,hV] at hst hLo;replace her:=Za her;replace hV:=Za hV;replace hz0:=Za hz0;have hbz5h:=Za hbz5;clear hbz5
    go_wp2_with fail
    with_reducible refine(hLo.out _ _ S5.out.drop).mono ?_
    rintro e w6 ⟨va,vb,vc,vd,rfl,h6,hb6⟩;obtain⟨w7,hw7,g7,gr7,gs7⟩:=Zt (a':=.slice va.1 va.2.1 va.2.2) (b':=.slice vb.1 vb.2.1 vb.2.2) (c':=.slice vc.1 vc.2.1 vc.2.2) (d':=.slice vd.1 vd.2.1 vd.2.2) ((hb6.block w.heap.size kg5).trans hbz5h.out);obtain⟨m0,m1,m2,m3,mf,mg⟩:=Ze ((hb6.block w.heap.size kg5).trans hbz5h.out);have gr7':Hid (w3.grownBy w7 (some w.heap.size)):=Za (Xb (Vd G5.out hb6) gr7);have hq:∀ q,(some w.heap.size:Option Nat)=some q->q<w3.heap.size:=fun q e=>by cases e;have:=s3.out;have:=SZ.out;omega
    have h7:Hid (Sto (New w3.heap.size w7) w7 (.agg #[.slice va.1 va.2.1 va.2.2,.slice vb.1 vb.2.1 vb.2.2,.slice vc.1 vc.2.1 vc.2.2,.slice vd.1 vd.2.1 vd.2.2]) V):=Za ((h6.grown gr7 (fun q e=>Qe (hq q e) (by have:=lt5.out;have:=hlt3z.out;omega))).new (by have:=lt5.out;have:=hlt3z.out;omega) (Qd _ _));have R7:=Za ((R5.out.below Yn hb6).grown Yn gr7 hq);have g7h:=Za g7;replace gs7:=Za gs7;clear h6 hb6 gr7 g7 hLo k0 k1 k2 k3 kf y3 g5
    go_upto_region 15 with fail
    by_cases he0:er=0
    ·have hn:Hid (Zht F sk=Zht (F.drop (j+1)) V):=Za (by rw[hlo.out,hst,if_pos he0])
     subst he0;clear hst hzero
     go_wp2_with fail
     go_roundw
     case rel=>exact⟨j+1,V,va,vb,vc,vd,by omega,rfl,by go_num,hn.out,g7h.out,h7.out,R7.out,gr7'.out⟩
     case measure=>simp[intOf];omega
    ·have t0:(er != 0)=true:=by simpa using he0
     have hE:Vk s lv L F=(er,Zn,[]):=Z54 hbe.out (by rw[hlo.out,hst,if_neg he0]) he0;obtain⟨W9,e9,n0,n1,n2,n3,u0,u1,u2,u3,uf,hfin⟩:=hzero.out er w7 hE gr7'.out;replace hfin:=Za hfin;replace he0:=Za he0;clear hst hzero hE
     go_wp2_with fail
     exact P7 (v:=.tuple #[.agg #[.slice none 0 0,.slice none 0 0,.slice none 0 0,.slice none 0 0],.slice none 0 0,.int .i64 er]) (by simp[results,Tryz.results117,go_sem,n0,n1,n2,n3]) rfl hfin.out
  obtain⟨l,hl⟩:∃ l,P[k]? = some l:=⟨_,Qg (by have:=hPl.out;omega)⟩
  obtain⟨ad,dl,hpk,hits,hl0⟩:=hpv.out k l hl;have hst:=Zzd (lv:=lv) (s:=sk) (M:=made) hl;have i1:(0:Int)<=(k:Int):=by omega
  have i2:(k:Int)<(K:Int):=by omega
  have hBr:=Za (B3.out.grown hgr.out B3.out.size (fun q e=>by cases e;exact Qb _));have cPk:wr.cell? ⟨w2.heap.size,k,none⟩=some (.slice (some ad) l.length dl):=by
   rw[Qf (hgr.out.block w2.heap.size s3.out (by have:=SZ.out;intro e;have:=Option.some.inj e;omega)),cell_of_row w3 _ k _ _ _ hg3.out]
   simpa using hpk
  have hitr:=Xv.old hits hBr.out;obtain⟨x0,r0,hx0⟩:∃ x0 r0,l=x0::r0:=by
   cases l with
   | nil=>simp at hl0
   | cons y r=>exact⟨y,r,rfl⟩
  have hx:l[0]? = some x0:=by rw[hx0];rfl
  obtain⟨ad0,E0,ce0,e0,_,⟨z0,z1,z2,_,_⟩,hit0,_⟩:=Zdu hitr hx;cases e0;have hkey:Zvu l=x0.1:=by rw[hx0];rfl
  have hNod:Nod (Old wr) wr (.agg #[.int .i64 lv,.slice (some ad) l.length dl]) (lv,l):=⟨_,rfl,hlv.out,hitr⟩
  have HM:=Za (Ziv (.agg #[.slice pa.1 pa.2.1 pa.2.2,.slice pb.1 pb.2.1 pb.2.2,.slice pc.1 pc.2.1 pc.2.2,.slice pd.1 pd.2.1 pd.2.2]) _ sk (lv,l) wr hsto hNod);obtain⟨k0,k1,k2,k3,kf,kg⟩:=Ze hbx;obtain⟨ln,hln⟩:∃ q,l.length=q:=⟨_,rfl⟩
  obtain⟨mkn,hmkn⟩:∃ q,mkN sk (lv,l)=q:=⟨_,rfl⟩
  obtain⟨mke,hmke⟩:∃ q,mkE sk (lv,l)=q:=⟨_,rfl⟩
  obtain⟨V,hV⟩:∃ q,mkV sk (lv,l)=q:=⟨_,rfl⟩
  rw[hln] at cPk hl0 HM;rw[hmkn,hmke,hV] at HM hst;have hitr':=Za hitr;have hbx':=Za hbx;have i3:(0:Int)<(ln:Int):=by omega
  have z0':wr.cell? ad=some (.int .u8 (x0.1.1.toNat:Int)):=by simpa [Addr.add] using z0
  have z1':wr.cell? ⟨ad.block,ad.off+1,none⟩=some (.int .u32 x0.1.2.1):=by simpa [Addr.add] using z1
  have z2':wr.cell? ⟨ad.block,ad.off+2,none⟩=some (.int .u32 x0.1.2.2):=by simpa [Addr.add] using z2
  have zlt:ad.block<wr.heap.size:=Qq _ _ z0'
  have zold:Hid (ad.block≠w.heap.size):=Za (by
   obtain⟨_,_,e,_,_,h4⟩:=hits;cases e;obtain⟨_,vs,e,hv5,hh,_⟩:=h4 0 _ hx;cases e;obtain⟨v,hv⟩:∃ v,vs[0]? = some v:=⟨_,Qg (by omega)⟩
   have:=(hh 0 v hv).1;unfold Old at this;rw[Zh] at this
   omega)
  have hin0:=Za (show InK x0.1 from by
   obtain⟨_,_,hi,_⟩:=hit0
   exact hi.key)
  replace hsto:=Za hsto;replace hl:=Za hl;replace hpk:=Za hpk;replace hln:=Za hln;replace hmkn:=Za hmkn;replace hmke:=Za hmke;replace hV:=Za hV;replace hrow:=Za hrow;replace hml:=Za hml;replace hx0:=Za hx0;replace hkey:=Za hkey;clear hits hitr hNod hit0 z0 z1 z2 hx hbx
  go_wp2_with fail
  with_reducible refine(HM.out).mono ?_
  rintro e w4 ⟨va,vb,vc,vd,rfl,h4,hb4⟩;obtain⟨w5,hw5,g5,gr5,gs5⟩:=Zt (a':=.slice va.1 va.2.1 va.2.2) (b':=.slice vb.1 vb.2.1 vb.2.2) (c':=.slice vc.1 vc.2.1 vc.2.2) (d':=.slice vd.1 vd.2.1 vd.2.2) ((hb4.block w.heap.size kg).trans hbx'.out);obtain⟨m0,m1,m2,m3,mf,mg⟩:=Ze ((hb4.block w.heap.size kg).trans hbx'.out);obtain⟨n0,n1,n2,n3,nf,ng⟩:=Ze g5;have hlt34:=Za (show w3.heap.size<=wr.heap.size from hgr.out.size);have gr45:Hid (w3.grownBy w5 (some w.heap.size)):=Za (Xb (Vd hgr.out hb4) gr5);have h5r:Hid (Sto (New wr.heap.size w5) w5 (.agg #[.slice va.1 va.2.1 va.2.2,.slice vb.1 vb.2.1 vb.2.2,.slice vc.1 vc.2.1 vc.2.2,.slice vd.1 vd.2.1 vd.2.2]) V):=Za (h4.grown gr5 (fun q e=>by cases e;exact kg));have hMlt:Hid (∀ q,M.map (·.block)=some q->q<wr.heap.size):=Za fun q e=>by
   obtain⟨cs,ho,_⟩:=hrow.out;exact(ho.lt q (by rw[<- e];cases M <;> rfl)).2
  have h5:Hid (Sto (New w3.heap.size w5) w5 (.agg #[.slice va.1 va.2.1 va.2.2,.slice vb.1 vb.2.1 vb.2.2,.slice vc.1 vc.2.1 vc.2.2,.slice vd.1 vd.2.1 vd.2.2]) V):=Za (by
   have h4':=h4.grown gr5 (fun q e=>by cases e;have:=hlt34.out;have:=s3.out;have:=SZ.out;omega)
   exact h4'.new hlt34.out (Qd _ _))
  have row5:=Za ((hrow.out.below Yn hb4).grown Yn gr5 (fun q e=>by cases e;have:=s3.out;have:=SZ.out;omega));have y0:w5.cell? ad=some (.int .u8 (x0.1.1.toNat:Int)):=(Qf (gr5.block ad.block (Qe zlt hb4.size) (fun e=>zold.out (Option.some.inj e)))).trans ((hb4.cell zlt).trans z0');have y1:w5.cell? ⟨ad.block,ad.off+1,none⟩=some (.int .u32 x0.1.2.1):=(Qf (a:=⟨ad.block,ad.off+1,none⟩) (gr5.block ad.block (Qe zlt hb4.size) (fun e=>zold.out (Option.some.inj e)))).trans ((hb4.cell (p:=⟨ad.block,ad.off+1,none⟩) zlt).trans z1');have y2:w5.cell? ⟨ad.block,ad.off+2,none⟩=some (.int .u32 x0.1.2.2):=(Qf (a:=⟨ad.block,ad.off+2,none⟩) (gr5.block ad.block (Qe zlt hb4.size) (fun e=>zold.out (Option.some.inj e)))).trans ((hb4.cell (p:=⟨ad.block,ad.off+2,none⟩) zlt).trans z2');replace gr5:=Za gr5;replace g5:=Za g5;replace gs5:=Za gs5;replace mf:=mf;clear z0' z1' z2' hb4 h4 HM k0 k1 k2 k3 kf hitr'
  go_upto_region 6 with fail
  by_cases hme:mke=0
  case neg =>
   have t0:(mke != 0)=true:=by simpa using hme
   have hE:Vk s lv L F=(mke,Zn,[]):=by
    rw[if_neg hme] at hst;exact Z6d (by rw[<- hbu.out,hmk.out,hst]) hme
   obtain⟨W9,e9,k0,k1,k2,k3,u0,u1,u2,u3,uf,hfin⟩:=hzero.out mke w5 hE gr45.out;replace hfin:=Za hfin;replace hme:=Za hme;clear hst hzero hE
   go_wp2_with fail
   exact P7 (v:=.tuple #[.agg #[.slice none 0 0,.slice none 0 0,.slice none 0 0,.slice none 0 0],.slice none 0 0,.int .i64 mke]) (by simp[results,Tryz.results117,go_sem,k0,k1,k2,k3]) rfl hfin.out
  subst hme;rw[if_pos rfl] at hst;obtain⟨kk,ek,e8,e256,_⟩:=U7 hmke.out;rw[hmkn.out] at ek;have hin:InI (x0.1,mkn,[]):=⟨hin0.out,show Zcz mkn from ⟨by omega,by omega⟩⟩
  obtain⟨w6,hw6,-,-,-,-,-,hs6,hb6,b6⟩:=Zz w5 (.int .u8 (x0.1.1.toNat:Int)) (.int .u32 x0.1.2.1) (.int .u32 x0.1.2.2) (.int .i64 mkn) (.slice none 0 0) 79;have row6:=row5.out.below Yn hb6;obtain⟨A7,c7,w7,hr7,row7,gr7,hb7⟩:=Zqb row6 w5.heap.size (x0.1,mkn,[]) (.slice none 0 0) 1 made.length rfl b6 (by have:=hml.out;omega) (by have:=hlt34.out;have:=gr45.out.size;omega) hin (Zat _ _ none);have g7:Hid (w7.heap[w.heap.size]? = some (.cells #[.slice va.1 va.2.1 va.2.2,.slice vb.1 vb.2.1 vb.2.2,.slice vc.1 vc.2.1 vc.2.2,.slice vd.1 vd.2.1 vd.2.2] 29 (0,0))):=Za ((hb7.block w.heap.size (by have:=s3.out;have:=SZ.out;omega)).trans ((hb6.block w.heap.size ng).trans g5.out))
  have gr47:Hid (w3.grownBy w7 (some w.heap.size)):=Za (by
   have h46:=Vd gr45.out hb6
   refine⟨gr7.os.trans h46.os,gr7.tape.trans h46.tape,gr7.output.trans h46.output,Qi h46.size gr7.size,fun q hq hne=>(hb7.block q hq).trans (h46.block q hq hne)⟩)
  have h7:Hid (Sto (New w3.heap.size w7) w7 (.agg #[.slice va.1 va.2.1 va.2.2,.slice vb.1 vb.2.1 vb.2.2,.slice vc.1 vc.2.1 vc.2.2,.slice vd.1 vd.2.1 vd.2.2]) V):=Za (by
   have h6:=h5r.out.new (Qb _) hb6
   exact(h6.grown gr7 (fun q e=>hMlt.out q e)).new hlt34.out (Qd _ _))
  have hmk7:Hid (mkA lv s [] P=mkA lv V (made++[(x0.1,mkn,[])]) (P.drop (k+1))):=Za (by
   rw[hmk.out,hst]
   congr 3
   unfold upI
   rw[hkey.out])
  have H7:=Za hr7;have hl7:Hid ((made++[((x0.1,mkn,[]):It)]).length=k+1):=Za (by rw[Qj,hml.out];rfl);have hl8:Hid ((made++[((x0.1,mkn,[]):It)]).length=made.length+1):=Za (by rw[Qj];rfl);obtain⟨mm,hmm⟩:∃ q,made.length=q:=⟨_,rfl⟩
  rw[hmm] at H7 hl8;obtain⟨MM,hMM⟩:∃ q,made++[((x0.1,mkn,[]):It)]=q:=⟨_,rfl⟩
  rw[hMM] at row7 hmk7 hl7 hl8;replace hMM:=Za hMM;replace row7:=Za row7;replace hs6:=Za hs6;replace b6:=Za b6;replace ek:=Za ek;clear hin hr7 gr7 hb7 hb6 row6 hst hzero;rw[hmm];replace hmm:=Za hmm;have i9:IntKind.i64.wrap ((k:Int)+1)=((k+1:Nat):Int):=by rw[IntKind.wrap_i64];have:=hPl.out;omega
  go_wp2_with (at_builtin;refine Zu rfl _ _ _ rfl rfl rfl H7.out ?_;clear H7)
  go_roundw
  case rel=>exact⟨k+1,A7,c7,MM,V,va,vb,vc,vd,by omega,by go_num,by rw[hl8.out],hl7.out,hmk7.out,g7.out,h7.out.drop,fun _=>h7.out,row7.out,gr47.out⟩
  case measure=>simp[intOf];omega}
end Go.Proofs.YtmafkphcfkhokaaGreat
namespace Go.Proofs.YtmafkphcfkhokaaGreat
open Go.RowKit Go.Shelf
attribute [local go_sem] Oper.semAt_some
structure Sv where
 nd:Nd
 pl:Nat
 inst:Bool
 A:Option Pz
 c:Nat
 lo:Nat
 hi:Nat
def svV (q:Sv):List Py:=[.int .i64 q.nd.1,.slice q.A q.nd.2.length q.c,.int .i64 (q.pl:Int),.bool q.inst]
def svs (l:List Sv):List Py:=l.flatMap svV
abbrev Z5x (f:Nat->Sv) (x:Nat):Array Py:=#[.int .i64 (x:Int),.agg #[.int .i64 (f x).nd.1,.slice (f x).A (f x).nd.2.length (f x).c,.int .i64 ((f x).pl:Int),.bool (f x).inst]]
structure At4 (w:Px) (p:Pz) (q:Sv):Prop where
 c0:w.cell? p=some (.int .i64 q.nd.1)
 c1:w.cell? ⟨p.block,p.off+1,none⟩=some (.slice q.A q.nd.2.length q.c)
 c2:w.cell? ⟨p.block,p.off+2,none⟩=some (.int .i64 (q.pl:Int))
 c3:w.cell? ⟨p.block,p.off+3,none⟩=some (.bool q.inst)
theorem At4.same {w w':Px}{p:Pz}{q:Sv}(h:At4 w p q) (e:w'.heap[p.block]? = w.heap[p.block]?):At4 w' p q :=
 ⟨(Qf e).trans h.c0,(Qf (a:=⟨p.block,p.off+1,none⟩) e).trans h.c1,(Qf (a:=⟨p.block,p.off+2,none⟩) e).trans h.c2,(Qf (a:=⟨p.block,p.off+3,none⟩) e).trans h.c3⟩
theorem Zh7 (Bs cap m:Nat) (A:Option Pz) (ad:Pz) (f:Nat->Sv) (w:Px) (hBs:w.cell? ⟨Bs,0,none⟩=some (.slice A m cap)) (hA:0<m->A=some ad/\ad.block<w.heap.size) (hm:m<=1000) (hc:∀ j,j<m->At4 w (ad.add (j*4)) (f j)) :
  Z6n Tryz.prog 175 #[.pointer (some ⟨Bs,0,none⟩)] (Z5x f) (fun _ pre x _ _=>pre=Vs m pre.length/\pre.length<m/\x=m-1-pre.length) (fun xs=>xs=Vs m m) (fun k=>k=Bs\/(0<m/\k=ad.block)) w:=by{
 intro l M J Jx o W hW hJ hJx hM hJs hZ hY h0;have hBl:Bs<w.heap.size:=Qq _ _ hBs;have hzB:=Za (hZ Bs (.inl rfl));have hzA:=Za (fun h:0<m=>hZ ad.block (.inr ⟨h,rfl⟩));have hcW:=Za (fun j (hj:j<m)=>(hc j hj).same (hW.block _ (by rw[Zh];exact(hA (by omega)).2)));have hBW:=Za ((hW.cell (p:=⟨Bs,0,none⟩) hBl).trans hBs);have hlt:=Za (show Bs<W.heap.size/\(0<m->ad.block<W.heap.size) from ⟨Qe hBl hW.size,fun h=>Qe (hA h).2 hW.size⟩);have hAA:=Za (fun h=>(hA h).1);have b0:=hBW.out;replace hY:=Za hY;replace hM:=Za hM;replace hJs:=Za hJs;replace hZ:=Za hZ;clear hc hBs hA hW;refine callsIn_wide.1 (callsIn_of_wp (n:=5) Tryz.func175 rfl trivial ?_ rfl);simp only[Tryz.ntmps175,Q6,Qr,Qs,Q7,Q8,Q9,Pa,Pd,Pe,Qy,Qu]
 gi_wp2
 clear b0
 gi_loopw [3] (fun i wr=>∃ (k:Nat) (q:Option Nat),k<=m/\i=.int .i64 ((m:Int)-1-k)/\J (Vs m k,q) wr/\Zcq M o q W wr)
  (fun i _=>(intOf i+1).toNat)
 case atStart=>exact⟨0,o,Nat.zero_le _,by simp,h0,Zcq.refl _ _ _⟩
 case round =>
  obtain⟨k,q,hk,rfl,hJr,hKr⟩:=hrel;have hbr:wr.cell? ⟨Bs,0,none⟩=some (.slice A m cap):=(hKr.cell (p:=⟨Bs,0,none⟩) hlt.out.1 hzB.out.1 hzB.out.2).trans hBW.out;by_cases hkm:k<m
  ·obtain rfl:=hAA.out (by omega)
   obtain⟨g1,g2,g3,g4⟩:=(hcW.out (m-1-k) (by omega)).same (w':=wr) (by rw[Zh];exact(hKr.same ad.block (hlt.out.2 (by omega)) (hzA.out (by omega)).1 (hzA.out (by omega)).2).1);obtain⟨fn,tmps,assign,body,hy,hR⟩:=hY.out _ q (m-1-k) wr hJr ⟨by rw[Xo],by rw[Xo];exact hkm,by rw[Xo]⟩;unfold Z5x at hy;have e1:((m:Int)-1-k).toNat=m-1-k:=by omega
   have e2:((m-1-k:Nat):Int)=(m:Int)-1-k:=by omega
   rw[e2] at hy;clear e2;have hds:=Za (Zef m k);replace hR:=Za hR;replace hKr:=Za hKr;replace hJr:=Za hJr;generalize (f (m-1-k)).nd.1=q1 at *;generalize (f (m-1-k)).A=q2 at *;generalize (f (m-1-k)).nd.2.length=q3 at *;generalize (f (m-1-k)).c=q4 at *;generalize ((f (m-1-k)).pl:Int)=q5 at *;generalize (f (m-1-k)).inst=q6 at *
   gi_wp2
   refine(Zro hR.out).mono ?_;rintro e w5 ⟨q5',hk5,⟨rfl,J5⟩ | ⟨rfl,J5⟩⟩
   ·have hK5:=Za (hKr.out.trans hk5)
    clear hk5
    gi_wp2
    go_roundw
    case rel=>exact⟨k+1,q5',by omega,by go_num,by rw[hds.out];exact J5,hK5.out⟩
    case measure=>simp[intOf];omega
   ·gi_wp2
    refine P7 (results_none rfl _ _ _) rfl ?_;exact⟨⟨_,rfl⟩,.inr ⟨_,_,J5⟩⟩
  ·obtain rfl:k=m:=by omega
   gi_wp2
   go_end0
   exact⟨⟨_,rfl⟩,.inl ⟨_,_,rfl,hJr⟩⟩}
theorem Zdk (a:Option Pz) (len cap:Nat) (w:Px) :
  Qab Tryz.prog 116 #[.slice a len cap] w fun e w'=>e=.returned (.func (.func 175) #[] #[.pointer (some ⟨w.heap.size,0,none⟩)])/\w'=w.alloc (.cells #[.slice a len cap] 125):=by
 go_enter Tryz.func116,Tryz.ntmps116
 go_wp2_with fail
 go_ret;exact⟨rfl,rfl⟩
end Go.Proofs.YtmafkphcfkhokaaGreat
namespace Go.Proofs.YtmafkphcfkhokaaGreat
open Go.RowKit Go.Shelf
attribute [local go_sem] Oper.semAt_some
def Zpu (q:Sv) (many:Nat):Nat:=many+q.nd.2.length-(if q.inst=true then 1 else 0)
def Zcb:List Sv->Nat->Bool
 | [],_=>true
 | q::r,many=>if Zpu q many<=5 then false else Zcb r 2
theorem Zq6 {l:List Sv}{k many:Nat}{q:Sv}(h:l[k]? = some q):Zcb (l.drop k) many=if Zpu q many<=5 then false else Zcb (l.drop (k+1)) 2:=by
 obtain⟨hl,e⟩:=Qh.1 h;rw[Qk hl,e];rfl
def svZ:Sv:=⟨(0,[]),0,false,none,0,0,0⟩
theorem Z5g {l:List Sv}{i:Nat}{x:Sv}(h:l[i]? = some x):∀ j u,(svV x)[j]? = some u->(svs l)[i*4+j]? = some u:=by{
 induction l generalizing i with
 | nil=>simp at h
 | cons y l ih =>
  intro j u hj;have hj4:j<4:=(Qh.1 hj).1;cases i with
  | zero =>
   simp at h;subst h;show (svV y++svs l)[0*4+j]? = _;rw[Pi (by show 0*4+j<4;omega),Nat.zero_mul,Pf];exact hj
  | succ i =>
   show (svV y++svs l)[(i+1)*4+j]? = _;rw[Pj (by show 4<=_;omega),show (i+1)*4+j-(svV y).length=i*4+j by show _-4=_;omega];exact ih (by simpa using h) j u hj}
theorem Zq1 {w:Px}{lo c:Nat}{A:Option Pz}{l:List Sv}(h:w.ownsRow lo 181 4 (.slice A l.length c) l.length (svs l)):∃ ad:Pz,(0<l.length->A=some ad/\lo<=ad.block/\ad.block<w.heap.size)/\∀ j,j<l.length->At4 w (ad.add (j*4)) (l[j]?.getD svZ):=by{
 rcases Nat.eq_zero_or_pos l.length with h0 | h0
 ·exact⟨⟨0,0,none⟩,fun h=>by omega,fun j hj=>by omega⟩
 rcases h.2 with ⟨_,e⟩ | ⟨g,cap,cur,e,hb,hg,_⟩
 ·omega
 ·cases e
  refine⟨⟨g,0,none⟩,fun _=>⟨rfl,hb,(Qa.1 hg).1⟩,fun j hj=> ?_⟩;have hx:l[j]? = some l[j]:=Qg hj;have hc:=fun i u hu=>h.cells (g:=g) rfl _ u (Z5g hx i u hu)
  rw[hx];have e0:=hc 0 _ rfl;have e1:=hc 1 _ rfl;have e2:=hc 2 _ rfl;have e3:=hc 3 _ rfl;rw[Zbj,Pf] at e0 e1 e2 e3;rw[Zbj,Pf];exact⟨e0,e1,e2,e3⟩}
def PaI (n0:Px) (b1 b2 lo':Nat) (l:List Sv) (r:List Nat×Option Nat) (V:Px):Prop :=
 r.2=none/\(Qac n0.heap.size n0 V/\lo'<=V.heap.size)/\Xu b1 #[.bool false] 4 V/\∃ many:Nat,1<=many/\many<=2/\Xu b2 #[.int .i64 (many:Int)] 3 V/\Zcb l.reverse 1=Zcb (l.reverse.drop r.1.length) many
def PaX (n0:Px) (b1 lo':Nat) (l:List Sv) (c:Code) (r:List Nat×Option Nat) (V:Px):Prop :=
 c=.ret/\r.2=none/\(Qac n0.heap.size n0 V/\lo'<=V.heap.size)/\Xu b1 #[.bool false] 4 V/\Zcb l.reverse 1=false
theorem Z21 {n0:Px}{b1 b2 lo':Nat}{l:List Sv}{B:Nat}(hB:n0.heap.size<=B):OwnFrom B (PaI n0 b1 b2 lo' l):=fun r V V' row hs hg hr=>by
 obtain⟨h0,⟨h1,h2⟩,h3,many,m1,m2,h4,h5⟩:=hs;have hn:=fun r e=>(hr r e).2
 exact⟨h0,⟨ownFrom_below (Qb _) hB () V V' row h1 hg hr,Qi h2 hg.size⟩,Zs h3 hg hn,many,m1,m2,Zs h4 hg hn,h5⟩
theorem Z14 {n0:Px}{b1 lo':Nat}{l:List Sv}{c:Code}{B:Nat}(hB:n0.heap.size<=B):OwnFrom B (PaX n0 b1 lo' l c):=fun r V V' row hs hg hr=>by
 obtain⟨hc,h0,⟨h1,h2⟩,h3,h5⟩:=hs;have hn:=fun r e=>(hr r e).2
 exact⟨hc,h0,⟨ownFrom_below (Qb _) hB () V V' row h1 hg hr,Qi h2 hg.size⟩,Zs h3 hg hn,h5⟩
theorem Zvn (A:Option Pz) (m c:Nat) (l:List Sv) (lo:Nat) (w:Px) (h:w.ownsRow lo 181 4 (.slice A m c) m (svs l)) (hl:l.length=m) (hm:m<=100) (h5:∀ q∈l,q.nd.2.length<=5) :
  Qab Tryz.prog 70 #[.slice A m c] w fun e w'=>e=.returned (.bool (Zcb l.reverse 1))/\Qac w.heap.size w w':=by{
 obtain⟨ad,had,hat⟩:=Zq1 (by rw[hl];exact h);rw[hl] at had hat;obtain⟨f,hf⟩:∃ f:Nat->Sv,f=fun j=>l[j]?.getD svZ:=⟨_,rfl⟩
 have hff:Hid (∀ k,k<m->l.reverse[k]? = some (f (m-1-k))/\(f (m-1-k)).nd.2.length<=5):=Za fun k hk=>by
  have e:l.reverse[k]? = some l[m-1-k]:=by
   rw[Pk (by omega),show l.length-1-k=m-1-k by omega];exact Qg _
  have e2:f (m-1-k)=l[m-1-k]:=by
   rw[hf];simp[Qg (show m-1-k<l.length by omega)]
  rw[e2];exact⟨e,h5 _ (Pm _)⟩
 obtain⟨w1,hw1,b1,hs1,hB1⟩:∃ w1,w.alloc (.cells #[.bool false] 4)=w1/\Xu w.heap.size #[.bool false] 4 w1/\w1.heap.size=w.heap.size+1/\Qac w.heap.size w w1:=⟨_,rfl,P8 w _,by simp,(Qd _ _).alloc (Qb _) _⟩
 obtain⟨w2,hw2,b2,hs2,hB2⟩:∃ w2,w1.alloc (.cells #[.int .i64 1] 3)=w2/\Xu w1.heap.size #[.int .i64 1] 3 w2/\w2.heap.size=w1.heap.size+1/\Qac w1.heap.size w1 w2:=⟨_,rfl,P8 w1 _,by simp,(Qd _ _).alloc (Qb _) _⟩
 obtain⟨w3,hw3,b3,hs3,hB3⟩:=Zn1 w2 (.slice A m c) 125;have hbw:=Za (Zdk A m c w2);rw[hw3] at hbw;have hB23:=hB2.trans (hB3.mono hB2.size);have B3:=Za (hB1.trans (hB23.mono hB1.size));have B31:=Za (show Xu w.heap.size #[.bool false] 4 w3 from Y0 _ _ _ _ _ b1 hB23);have B32:=Za (show Xu w1.heap.size #[.int .i64 1] 3 w3 from Y0 _ _ _ _ _ b2 hB3);have SZ:=Za (show w1.heap.size=w.heap.size+1/\w2.heap.size=w.heap.size+2/\w3.heap.size=w.heap.size+3 from ⟨hs1,by omega,by omega⟩);have htold:=Zh7 w2.heap.size c m A ad f w3 b3 (fun h=>⟨(had h).1,Qe (had h).2.2 B3.out.size⟩) (by omega) (fun j hj=>by rw[hf];exact(hat j hj).same (B3.out.block _ (by rw[Zh];exact(had (by omega)).2.2)));have hlt:=Za (fun h:0<m=>(had h).2.2);have hI0:PaI w w.heap.size w1.heap.size w3.heap.size l ([],none) w3:=⟨rfl,⟨B3.out,Qb _⟩,B31.out,1,by omega,by omega,B32.out,rfl⟩
 replace hf:=Za hf;replace hl:=Za hl;replace hs1:=Za hs1;replace hs2:=Za hs2;replace hs3:=Za hs3;clear h had hat b1 b2 b3 hB1 hB2 hB3 hB23 h5 hw3;refine callsIn_wide.1 (callsIn_of_wp_marks (n:=5) Tryz.func70 rfl trivial ?_ rfl);simp only[Tryz.ntmps70,Q6,Qr,Qs,Q7,Q8,Q9,Pa,Pd,Pe,Qy,Qu]
 gi_wp2_with fail
 refine⟨trivial,?_⟩
 gi_at_call 116
 refine(callsIn_wide.2 hbw.out).mono ?_;rintro e w3 ⟨rfl,rfl⟩
 gi_wp2_with fail
 refine Zij (m:=5) (gf:=175) (lb:=#[.pointer (some ⟨w2.heap.size,0,none⟩)]) rfl (enters_of Tryz.func175 (by kernel_rfl) rfl) htold (fun _=>rfl) (fun k=>k=w.heap.size\/k=w1.heap.size) (fun k e=>by have:=SZ.out;omega) none (fun k hk=>by
   rcases hk with rfl | ⟨h0,rfl⟩
   ·exact⟨by have:=SZ.out;omega,by have:=SZ.out;omega,by simp⟩
   ·have:=hlt.out h0
    exact⟨by have:=SZ.out;omega,by have:=SZ.out;omega,by simp⟩)
  (PaI w w.heap.size w1.heap.size w3.heap.size l) (PaX w w.heap.size w3.heap.size l)
  (Z21 (by have:=SZ.out;omega)) (fun c=>Z14 (by have:=SZ.out;omega))
  (fun r V hr k e=>by rw[hr.1] at e;cases e) hI0
  (fun x a' V=>∃ g:Nat,a'={ tmps:=#[.slice A m c,Qaa,.pointer (some ⟨w.heap.size,0,none⟩),.pointer (some ⟨w1.heap.size,0,none⟩),Qaa,.pointer (some ⟨g,0,none⟩),.slice A m c,.func (.func 175) #[] #[.pointer (some ⟨w2.heap.size,0,none⟩)],.int .i64 (x:Int),.agg #[.int .i64 (f x).nd.1,.slice (f x).A (f x).nd.2.length (f x).c,.int .i64 ((f x).pl:Int),.bool (f x).inst],
    Qaa,Qaa,Qaa,Qaa,Qaa,Qaa,Qaa,Qaa,Qaa,Qaa,Qaa,Qaa],defers:=[] }/\Xu g #[.int .i64 (f x).nd.1,.slice (f x).A (f x).nd.2.length (f x).c,.int .i64 ((f x).pl:Int),.bool (f x).inst] 181 V)
  (fun y a' _ A B row hs hg hr=>by
   obtain⟨g,e1,h0⟩:=hs
   exact⟨g,e1,Zs h0 hg fun r e=>(hr r e).2⟩)
  (fun pre x q=>fun _ _ _ _ hs _ _=>hs) ?assign ?body ?done ?stop
 case assign =>
  rintro l' pre' q' x V K hi hT hK;obtain⟨V1,hV1,bV,hVs,hVB⟩:=Xy V (.int .i64 (f x).nd.1) (.slice (f x).A (f x).nd.2.length (f x).c) (.int .i64 ((f x).pl:Int)) (.bool (f x).inst) 181;replace hVs:=Za hVs;clear hi hI0 hT;simp only[Z5x]
  gi_wp2_with fail
  exact hK _ _ (Zbb hVB) ⟨V.heap.size,rfl,bV⟩
 case body =>
  rintro l' pre' q' x a' V hVs hI ⟨g,rfl,hg⟩ ⟨hp1,hp2,hp3⟩;obtain⟨hq,⟨hIb,hIs⟩,hB1,many,hm1,hm2,hB2,hpf⟩:=hI
  dsimp only at hq
  subst hq;have hk:pre'.length<m:=hp2;clear hp1;obtain⟨hrv,hl5⟩:=hff.out _ hk;rw[<- hp3] at hrv hl5;clear hp3;have hst:=Zq6 (many:=many) hrv;have hpl:(pre'++[x]).length=pre'.length+1:=by rw[Qj];rfl
  obtain⟨g0,g1,g2,g3,gf,gl⟩:=Ze hg;obtain⟨m0,mf,ml⟩:=Zx hB2;generalize f x=q at *;obtain⟨n,hn⟩:∃ n,q.nd.2.length=n:=⟨_,rfl⟩
  have hls:Zpu q many=many+n-(if q.inst=true then 1 else 0):=by unfold Zpu;rw[hn]
  rw[hn] at g1 hl5 ⊢;generalize q.nd.1=q1 at *;generalize q.A=q2 at *;generalize q.c=q4 at *;generalize (q.pl:Int)=q5 at *;have hw1':IntKind.i64.wrap ((many:Int)+(n:Int))=(many:Int)+(n:Int):=by rw[IntKind.wrap_i64];omega
  have hw2':IntKind.i64.wrap ((many:Int)+(n:Int)-1)=(many:Int)+(n:Int)-1:=by rw[IntKind.wrap_i64];omega
  obtain⟨V1,hV1,h1,gr1,hs1'⟩:=U1 (u:=.int .i64 ((many:Int)+(n:Int))) hB2;have hne:g≠w1.heap.size:=fun e=>by
   subst e;unfold Xu at hg hB2;rw[hg] at hB2;simp at hB2
  have g3':V1.cell? ⟨g,3,none⟩=some (.bool q.inst):=(Qf (a:=⟨g,3,none⟩) (gr1.block g gl (by simpa using hne))).trans g3;obtain⟨u0,uf,ul⟩:=Zx h1;have hB11:Xu w.heap.size #[.bool false] 4 V1:=(gr1.block _ (Qa.1 hB1).1 (by have:=SZ.out;intro e;have:=Option.some.inj e;omega)).trans hB1;have hb1:=hIb.grown gr1 (by have:=hIs;have:=SZ.out;omega) (fun k e=>by cases e;have:=SZ.out;omega);have hs1:w3.heap.size<=V1.heap.size:=by omega
  have kp1:Zcq (fun k=>k=w.heap.size\/k=w1.heap.size) none none V V1:=(Zcq.refl _ _ _).grown gr1 fun r e=>by cases e;exact .inr (.inr rfl)
  have hfin:∀ (t:Int) (V2:Px),V2.heap[w1.heap.size]? = some (.cells #[.int .i64 t] 3 (0,0))->Xu w.heap.size #[.bool false] 4 V2->Qac w.heap.size w V2->w3.heap.size<=V2.heap.size->Zcq (fun k=>k=w.heap.size\/k=w1.heap.size) none none V V2->t=(Zpu q many:Nat) ->
    (t<=5->∃ V3,V2.setCell ⟨w.heap.size,0,none⟩ (.bool false)=V3/\V2.cell? ⟨w.heap.size,0,none⟩=some (.bool false)/\V2.frozen? ⟨w.heap.size,0,none⟩=false/\(∃ q',Zcq (fun k=>k=w.heap.size\/k=w1.heap.size) none q' V V3/\PaX w w.heap.size w3.heap.size l .ret (pre'++[x],q') V3)) /\
    (¬ t<=5->∃ V3,V2.setCell ⟨w1.heap.size,0,none⟩ (.int .i64 2)=V3/\(∃ q',Zcq (fun k=>k=w.heap.size\/k=w1.heap.size) none q' V V3/\PaI w w.heap.size w1.heap.size w3.heap.size l (pre'++[x],q') V3)):=fun t V2 c1 c2 c3 c4 c5 c6=>by
   refine⟨fun h5=> ?_,fun h5=> ?_⟩
   ·obtain⟨V3,e3,d1,d2,d3⟩:=U1 (u:=.bool false) c2
    obtain⟨y0,yf,_⟩:=Zx c2;exact⟨V3,e3,y0,yf,none,c5.grown d2 (fun r e=>by cases e;exact .inr (.inl rfl)),rfl,rfl,⟨c3.grown d2 (by have:=SZ.out;omega) (fun k e=>by cases e;exact Qb _),by omega⟩,d1,by rw[hpf,hst,if_pos (by omega)]⟩
   ·obtain⟨V3,e3,d1,d2,d3⟩:=U1 (u:=.int .i64 2) c1
    exact⟨V3,e3,none,c5.grown d2 (fun r e=>by cases e;exact .inr (.inr rfl)),rfl,⟨c3.grown d2 (by have:=SZ.out;omega) (fun k e=>by cases e;have:=SZ.out;omega),by omega⟩,(d2.block _ (Qa.1 c2).1 (by have:=SZ.out;intro e;have:=Option.some.inj e;omega)).trans c2,2,by omega,by omega,d1,by rw[hpf,hst,if_neg (by omega),hpl]⟩
  cases hins:q.inst with
  | true =>
   rw[hins] at g3' hls;rw[if_pos rfl] at hls;obtain⟨V2,hV2,h2,gr2,hs2'⟩:=U1 (u:=.int .i64 ((many:Int)+(n:Int)-1)) h1;obtain⟨x0,xf,_⟩:=Zx h2;have hB12:Xu w.heap.size #[.bool false] 4 V2:=(gr2.block _ (Qa.1 hB11).1 (by have:=SZ.out;intro e;have:=Option.some.inj e;omega)).trans hB11;obtain⟨f1,f2⟩:=hfin ((many:Int)+(n:Int)-1) V2 h2 hB12 (hb1.grown gr2 (by have:=SZ.out;omega) (fun k e=>by cases e;have:=SZ.out;omega)) (by omega) (kp1.grown gr2 fun r e=>by cases e;exact .inr (.inr rfl)) (by rw[hls];omega);clear hfin hst hI0 hpf;by_cases h5:(many:Int)+(n:Int)-1<=5
   ·obtain⟨V3,e3,y0,yf,q',hq1,hq2⟩:=f1 h5
    replace hq1:=Za hq1;replace hq2:=Za hq2;clear f1 f2
    gi_wp2_with fail
    exact⟨q',hq1.out,hq2.out⟩
   ·obtain⟨V3,e3,q',hq1,hq2⟩:=f2 h5
    replace hq1:=Za hq1;replace hq2:=Za hq2;clear f1 f2
    gi_wp2_with fail
    exact⟨q',hq1.out,hq2.out⟩
  | false =>
   rw[hins] at g3' hls;rw[if_neg (by decide),Nat.sub_zero] at hls;obtain⟨f1,f2⟩:=hfin ((many:Int)+(n:Int)) V1 h1 hB11 hb1 hs1 kp1 (by rw[hls];omega);clear hfin hst hI0 hpf;by_cases h5:(many:Int)+(n:Int)<=5
   ·obtain⟨V3,e3,y0,yf,q',hq1,hq2⟩:=f1 h5
    replace hq1:=Za hq1;replace hq2:=Za hq2;clear f1 f2
    gi_wp2_with fail
    exact⟨q',hq1.out,hq2.out⟩
   ·obtain⟨V3,e3,q',hq1,hq2⟩:=f2 h5
    replace hq1:=Za hq1;replace hq2:=Za hq2;clear f1 f2
    gi_wp2_with fail
    exact⟨q',hq1.out,hq2.out⟩
 case done =>
  rintro xs q' V hVs rfl ⟨_,⟨hb,hs⟩,hB1,many,_,_,_,hpf⟩ hDV hqV
  have hpt:Hid (Zcb l.reverse 1=true):=Za (by
   rw[hpf,Xo,Qp (by rw[Pg,hl.out];exact Qb _)]
   rfl)
  obtain⟨V3,hV3,h3,gr3,hs3'⟩:=U1 (u:=.bool true) hB1;obtain⟨m0,mf,ml⟩:=Zx hB1;have hD1:=Za ((gr3.block _ (Qa.1 hDV).1 (by have:=SZ.out;intro e;have:=Option.some.inj e;omega)).trans hDV);have hb3:=Za (hb.grown gr3 (by have:=SZ.out;omega) (fun k e=>by cases e;exact Qb _));have h3h:=Za h3;clear hpf hI0 hDV hB1 h3 gr3 hqV hb
  gi_wp2_with fail
  refine⟨by simp,.inl ⟨_,_,rfl,run_takeDeferred hD1.out,?_⟩⟩;have hgp:=grownBy_putObj' V3 w3.heap.size (.deferred none);have hnp:∀ r,some w3.heap.size=some r->∃ o:Obj,V3.heap[r]? = some o/\o.isCells=false:=fun r e=>by cases e;exact⟨_,hD1.out,rfl⟩
  have h9:=Zs h3h.out hgp hnp;obtain⟨n0,_,_⟩:=Zx h9;exact⟨.bool true,by simp[results,Tryz.f70,go_sem,n0],by rw[hpt.out],hb3.out.grown hgp (by have:=hb3.out.size;omega) (fun k e=>by cases e;have:=SZ.out;omega)⟩
 case stop =>
  rintro c pre' q' V hVs ⟨rfl,_,⟨hb,hs⟩,hB1,hpf⟩ hDV hqV;have hD1:=Za hDV;have hb3:=Za hb;have h3h:=Za hB1;have hpt:=Za hpf;clear hpf hI0 hDV hB1 hqV hb
  gi_wp2_with fail
  refine⟨by simp,.inl ⟨_,_,rfl,run_takeDeferred hD1.out,?_⟩⟩;have hgp:=grownBy_putObj' V w3.heap.size (.deferred none);have hnp:∀ r,some w3.heap.size=some r->∃ o:Obj,V.heap[r]? = some o/\o.isCells=false:=fun r e=>by cases e;exact⟨_,hD1.out,rfl⟩
  have h9:=Zs h3h.out hgp hnp;obtain⟨n0,_,_⟩:=Zx h9;exact⟨.bool false,by simp[results,Tryz.f70,go_sem,n0],by rw[hpt.out],hb3.out.grown hgp (by have:=hb3.out.size;omega) (fun k e=>by cases e;have:=SZ.out;omega)⟩}
end Go.Proofs.YtmafkphcfkhokaaGreat
namespace Go.Proofs.YtmafkphcfkhokaaGreat
open Go.RowKit Go.Shelf
attribute [local go_sem] Oper.semAt_some
def Xt (q:Sv) (F:List It):List It:=q.nd.2.take q.pl++(F++q.nd.2.drop (q.pl+if q.inst=true then 1 else 0))
def Xa:List Sv->Rm->List It->Int×Rm×List It
 | [],s,F=>(0,s,F)
 | q::r,s,F=>if (Vk s q.nd.1 (Xt q F) F).1=0 then Xa r (Vk s q.nd.1 (Xt q F) F).2.1 (Vk s q.nd.1 (Xt q F) F).2.2 else ((Vk s q.nd.1 (Xt q F) F).1,Zn,[])
theorem Zsw {l:List Sv}{k:Nat}{q:Sv}{s:Rm}{F:List It}(h:l[k]? = some q):Xa (l.drop k) s F=if (Vk s q.nd.1 (Xt q F) F).1=0 then Xa (l.drop (k+1)) (Vk s q.nd.1 (Xt q F) F).2.1 (Vk s q.nd.1 (Xt q F) F).2.2 else ((Vk s q.nd.1 (Xt q F) F).1,Zn,[]):=by
 obtain⟨hl,e⟩:=Qh.1 h;rw[Qk hl,e];rfl
def Y5 (s:Rm) (l:List Sv) (x:It):Int×Rm×Int :=
 if (Xa l.reverse s [x]).1=0 then
  (if 1<(Xa l.reverse s [x]).2.2.length then
   (if (Vk (Xa l.reverse s [x]).2.1 (l.length:Nat) (Xa l.reverse s [x]).2.2 (Xa l.reverse s [x]).2.2).1=0 then
    (0,(Vk (Xa l.reverse s [x]).2.1 (l.length:Nat) (Xa l.reverse s [x]).2.2 (Xa l.reverse s [x]).2.2).2.1,Zqg (Vk (Xa l.reverse s [x]).2.1 (l.length:Nat) (Xa l.reverse s [x]).2.2 (Xa l.reverse s [x]).2.2).2.2)
    else ((Vk (Xa l.reverse s [x]).2.1 (l.length:Nat) (Xa l.reverse s [x]).2.2 (Xa l.reverse s [x]).2.2).1,Zn,0))
   else (0,(Xa l.reverse s [x]).2.1,Zqg (Xa l.reverse s [x]).2.2))
 else ((Xa l.reverse s [x]).1,Zn,0)
theorem Zq9 {s:Rm}{lv:Int}{L:List It}(h:(Z5 s lv L).1=0):0<(Z5 s lv L).2.2.length/\(Z5 s lv L).2.2.length<=2:=by
 obtain⟨u,up,e⟩:∃ u up,Z5 s lv L=(0,u,up):=⟨_,_,Prod.ext h rfl⟩
 rw[e];rcases Za7 e with ⟨_,_,rfl⟩ | ⟨_,_,_,_,rfl⟩ <;> simp
theorem Zo5 {s:Rm}{lv:Int}{L F:List It}(h:(Vk s lv L F).1=0):0<(Vk s lv L F).2.2.length/\(Vk s lv L F).2.2.length<=2:=by{
 unfold Vk at h ⊢;split
 ·rename_i h1
  rw[if_pos h1] at h;split
  ·exact Zq9 h1
  ·rename_i h2
   rw[if_neg h2] at h;exact absurd h h2
 ·rename_i h1
  rw[if_neg h1] at h;exact absurd h h1}
def Out (lo hi:Nat) (w:Px):Pz->Prop:=fun p=>(p.block<lo\/hi<=p.block)/\p.block<w.heap.size
def Zfa (w:Px) (q:Sv):Prop:=∃ w0:Px,w0.heap.size=q.hi/\Yp rIt 5 79 q.lo w0 q.A q.c q.nd.2/\∀ k,q.lo<=k->k<q.hi->w.heap[k]? = w0.heap[k]?
theorem Zfa.use {w:Px}{q:Sv}(h:Zfa w q) (hh:q.hi<=w.heap.size):Yp rIt 5 79 q.lo w q.A q.c q.nd.2:=by{
 obtain⟨w0,h0,⟨cs,h1,h2⟩,h3⟩:=h;refine⟨cs,⟨h1.1,?_⟩,fun i x hi=> ?_⟩
 ·rcases h1.2 with e | ⟨g,cap,cur,e,hb,hg,r⟩
  ·exact .inl e
  ·have hlt:=(Qa.1 hg).1
   exact .inr ⟨g,cap,cur,e,hb,(h3 g hb (by omega)).trans hg,r⟩
 ·obtain⟨vs,e1,e2,e3⟩:=h2 i x hi
  refine⟨vs,e1,e2,Yn _ _ _ _ _ _ (fun p v hp hc=> ?_) e3⟩;have hb:=h3 p.block hp.1.1 (by have:=hp.1.2.1;omega);exact⟨⟨⟨hp.1.1,by have:=hp.1.2.1;omega,(World.frozen?_of_block hb).trans hp.1.2.2⟩,hp.2⟩,(Qf hb).trans hc⟩}
theorem Zfa.same {w w':Px}{q:Sv}(h:Zfa w q) (e:∀ k,q.lo<=k->k<q.hi->w'.heap[k]? = w.heap[k]?):Zfa w' q:=by
 obtain⟨w0,h0,h1,h3⟩:=h;exact⟨w0,h0,h1,fun k h4 h5=>(e k h4 h5).trans (h3 k h4 h5)⟩
structure Rows (lo hi:Nat) (w:Px) (l:List Sv):Prop where
 ok:∀ q∈l,lo<=q.lo/\q.lo<=q.hi/\q.hi<=hi/\Zfa w q
 apart:l.Pairwise fun p q=>p.hi<=q.lo
theorem Zd8 {w:Px}{q:Sv}(h:Zfa w q):∀ g,q.A.map (·.block)=some g->q.lo<=g/\g<q.hi:=fun g e=>by
 obtain⟨w0,h0,⟨cs,ho,_⟩,_⟩:=h;have:=ho.lt g (by rw[<- e];cases q.A <;> rfl);exact⟨this.1,by omega⟩
structure FrB (lo hr hi:Nat) (w:Px) (fb m fc:Nat) (F:List It):Prop where
 len:F.length=m
 pos:0<m
 few:m<=2
 at_:hr<=fb
 row:∃ ps:List Iv,ps.map (·.1)=F/\w.ownsRow hr 79 5 (.slice (some ⟨fb,0,none⟩) m fc) m (Zj ps)/\∀ p∈ps,InI p.1/\rBy (Out lo hi w) w [p.2] p.1.2.2
theorem FrB.same {lo hr hi fb m fc:Nat}{w w':Px}{F:List It}(h:FrB lo hr hi w fb m fc F) (hs:w.heap.size<=w'.heap.size) (e:∀ k,k<w.heap.size->(k<lo\/hi<=k\/k=fb)->w'.heap[k]? = w.heap[k]?):FrB lo hr hi w' fb m fc F:=by{
 obtain⟨h1,h2,h3,h4,ps,h5,h6,h7⟩:=h;refine⟨h1,h2,h3,h4,ps,h5,⟨h6.1,?_⟩,fun p hp=>⟨(h7 p hp).1,Zf _ _ _ _ _ _ (fun a v ha hc=> ?_) (h7 p hp).2⟩⟩
 ·rcases h6.2 with e' | ⟨g,cap,cur,e',hb,hg,r⟩
  ·exact .inl e'
  ·cases e'
   exact .inr ⟨_,_,cur,rfl,hb,(e _ (Qa.1 hg).1 (.inr (.inr rfl))).trans hg,r⟩
 ·have hb:=e a.block ha.2 (by rcases ha.1 with h | h <;> omega)
  exact⟨⟨ha.1,by have:=ha.2;omega⟩,(Qf hb).trans hc⟩}
def atW (s:Rm) (k:Ky) (a:Int):Nat->Int
 | 0=>a
 | j+1=>Ze4 (rmV s (atW s k a j)) k
theorem Zv8 {n:Nd}{k:Ky}{y:It}(h:n.2[Zaq n k]? = some y):Ze4 n k=y.2.1:=by
 unfold Ze4;rw[h];rfl
theorem Zhe {s:Rm}{k:Ky}{a:Int}{l:Nat}(h:AtT s l a):∀ j,j<=l->AtT s (l-j) (atW s k a j)
 | 0,_=>h
 | j+1,hj=>by
  have h1:=Zhe (k:=k) h j (by omega);obtain⟨d,hd⟩:∃ d,l-j=d+1:=⟨l-j-1,by omega⟩
  rw[hd] at h1;have hne:0<(rmV s (atW s k a j)).2.length:=(Z0 h1.may).1.2.2.2 (by rw[h1.lvl];omega);obtain⟨y,hy⟩:∃ y,(rmV s (atW s k a j)).2[Zaq (rmV s (atW s k a j)) k]? = some y:=⟨_,Qg (Zle k hne)⟩
  have h2:=h1.down (Qz hy);show AtT s (l-(j+1)) (Ze4 (rmV s (atW s k a j)) k);rw[Zv8 hy,show l-(j+1)=d by omega];exact h2
theorem Zrh:(Tryz.prog.info? 181).map (fun i=>(i.zero,i.size,i.bytes))=some (some (.agg #[.int .i64 0,.slice none 0 0,.int .i64 0,.bool false]),4,48):=by kernel_rfl
theorem Z1u (a b:List Sv):svs (a++b)=svs a++svs b:=by simp[svs]
structure Zhm (lo:Nat) (s:Rm) (k:Ky) (a:Int) (W:Px) (A:Option Pz) (c:Nat) (l:List Sv):Prop where
 row:W.ownsRow lo 181 4 (.slice A l.length c) l.length (svs l)
 rows:Rows lo W.heap.size W l
 off:∀ g q,A.map (·.block)=some g->q∈l->g<q.lo\/q.hi<=g
 are:∀ i q,l[i]? = some q->q.nd=rmV s (atW s k a i)/\(q.pl,q.inst)=Zfq q.nd k
theorem Zsi {w:Px}{lo:Nat}{A:Option Pz}{c:Nat}{l:List Sv}(h:w.ownsRow lo 181 4 (.slice A l.length c) l.length (svs l)) (q:Sv) (g m n:Nat) (hg:w.heap[g]? = some (.cells #[.int .i64 q.nd.1,.slice q.A q.nd.2.length q.c,.int .i64 (q.pl:Int),.bool q.inst] 181 (0,0))) (hn:l.length=n) (hs:n<100) (hbase:lo<=w.heap.size) :
  ∃ A' c' w',(Builtin.append_ #[125,125] 125 #[.slice A n c,.slice (some ⟨g,0,none⟩) 1 m]).run Tryz.prog w=.ok (.slice A' (n+1) c') w'/\w'.ownsRow lo 181 4 (.slice A' (l++[q]).length c') (l++[q]).length (svs (l++[q]))/\w.grownBy w' (A.map (·.block))/\Qac lo w w'/\(A'.map (·.block)=A.map (·.block)\/A'.map (·.block)=some w.heap.size):=by{
 subst hn;obtain⟨i0,hi,hz0,hz1,hz2⟩:=info_parts Zrh;obtain⟨A1,c1,e,_,_,e4,_⟩:=Yo h;cases e
 obtain⟨v',w',hr,o1,g1,b1,k1⟩:=Zgy (P:=Tryz.prog) (w:=w) lo 125 125 181 i0 (.agg #[.int .i64 0,.slice none 0 0,.int .i64 0,.bool false]) 4 48 Tryz.underlying125 hi hz0 hz1 hz2 rfl (by decide) _ _ _ h ⟨g,0,none⟩ 1 m (svV q) rfl (World.news_of_block (cs:=#[.int .i64 q.nd.1,.slice q.A q.nd.2.length q.c,.int .i64 (q.pl:Int),.bool q.inst]) hg) (fun u hu=>by
  simp[svV] at hu
  rcases hu with rfl | rfl | rfl | rfl <;> rfl) (by unfold maxLen;omega) (by omega) hbase
 obtain⟨A2,c2,rfl,_,_,e5,_⟩:=Yo o1;rw[e4] at g1 k1;rw[e5] at k1;refine⟨A2,c2,w',hr,?_,g1,b1,k1⟩;rw[Z1u,Qj]
 simpa [svs] using o1}
theorem Zhm.push {lo:Nat}{s:Rm}{k:Ky}{a:Int}{wr W1 w6 w7:Px}{A A':Option Pz}{c c':Nat}{l:List Sv}(h:Zhm lo s k a wr A c l) (q:Sv) (hlo:q.lo=wr.heap.size) (hhi:q.hi=W1.heap.size) (hrow:Yp rIt 5 79 wr.heap.size W1 q.A q.c q.nd.2)
  (hb1:Qac wr.heap.size wr W1) (h16:Qac W1.heap.size W1 w6) (g67:w6.grownBy w7 (A.map (·.block))) (row:w7.ownsRow lo 181 4 (.slice A' (l++[q]).length c') (l++[q]).length (svs (l++[q]))) (k1:A'.map (·.block)=A.map (·.block)\/A'.map (·.block)=some w6.heap.size)
  (hnd:q.nd=rmV s (atW s k a l.length)) (hst:(q.pl,q.inst)=Zfq q.nd k) (hl:lo<=wr.heap.size):Zhm lo s k a w7 A' c' (l++[q]):=by{
 have hA:∀ g,A.map (·.block)=some g->g<wr.heap.size:=fun g e=>(h.row.lt g (by rw[<- e];cases A <;> rfl)).2
 have s1:=hb1.size;have s6:=h16.size;have s7:=g67.size;have Zcx:∀ x∈l,∀ k,x.lo<=k->k<x.hi->w7.heap[k]? = wr.heap[k]? := fun x hx k h1 h2=>by
  obtain⟨_,_,h3,_⟩:=h.rows.ok x hx;rw[g67.block k (by omega) (fun e=>by rcases h.off _ x e.symm hx with h4 | h4 <;> omega),h16.block k (by omega),hb1.block k (by omega)]
 refine⟨row,⟨fun x hx=> ?_,?_⟩,fun g x e hx=> ?_,fun i x e=> ?_⟩
 ·rcases Ql.1 hx with hx | hx
  ·obtain⟨h1,h2,h3,h4⟩:=h.rows.ok x hx
   exact⟨h1,h2,by omega,h4.same (Zcx x hx)⟩
  ·obtain rfl:=Qm.1 hx
   refine⟨by omega,by omega,by omega,W1,hhi.symm,by rw[hlo];exact hrow,fun k h1 h2=> ?_⟩;rw[g67.block k (by omega) (fun e=>by have:=hA _ e.symm;omega),h16.block k (by omega)]
 ·rw[List.pairwise_append]
  refine⟨h.rows.apart,List.pairwise_singleton _ _,fun x hx y hy=> ?_⟩;obtain rfl:=Qm.1 hy;have:=(h.rows.ok x hx).2.2.1;omega
 ·have hg:A.map (·.block)=some g\/g=w6.heap.size:=by
   rcases k1 with k1 | k1
   ·exact .inl (by rw[<- k1,e])
   ·rw[e] at k1
    exact .inr (by simpa using k1)
  rcases Ql.1 hx with hx | hx
  ·rcases hg with hg | hg
   ·exact h.off g x hg hx
   ·have:=(h.rows.ok x hx).2.2.1
    omega
  ·obtain rfl:=Qm.1 hx
   rcases hg with hg | hg
   ·have:=hA g hg
    omega
   ·omega
 ·rcases Nat.lt_or_ge i l.length with hi | hi
  ·rw[Pi hi] at e
   exact h.are i x e
  ·rw[Pj hi] at e
   have hi0:i=l.length:=by
    have:=(Qh.1 e).1;simp at this;omega
   subst hi0;simp at e;subst e;exact⟨hnd,hst⟩}
theorem Z29 (qa qb qc qd:Option Pz×Nat×Nat) (s:Rm) (a:Int) (lv:Nat) (hlv:lv<6) (k:Ky) (w:Px) (h:Sto (Old w) w (.agg #[.slice qa.1 qa.2.1 qa.2.2,.slice qb.1 qb.2.1 qb.2.2,.slice qc.1 qc.2.1 qc.2.2,.slice qd.1 qd.2.1 qd.2.2]) s) (hT:AtT s lv a) :
  Qab Tryz.prog 69 #[.agg #[.slice qa.1 qa.2.1 qa.2.2,.slice qb.1 qb.2.1 qb.2.2,.slice qc.1 qc.2.1 qc.2.2,.slice qd.1 qd.2.1 qd.2.2],.int .i64 a,.int .i64 ((lv:Int)+1),kyV k] w fun e w'=>∃ A c l,e=.returned (.tuple #[.slice A l.length c,.int .i64 0])/\l.length=lv+1/\Zhm w.heap.size s k a w' A c l/\Qac w.heap.size w w':=by{
 obtain⟨w1,hw1,b1,hs1,hB1⟩:=Xy w (.slice qa.1 qa.2.1 qa.2.2) (.slice qb.1 qb.2.1 qb.2.2) (.slice qc.1 qc.2.1 qc.2.2) (.slice qd.1 qd.2.1 qd.2.2) 29;obtain⟨w2,hw2,-,-,-,hs2,hB2,b2⟩:=Xd w1 (.int .u8 (k.1.toNat:Int)) (.int .u32 k.2.1) (.int .u32 k.2.2) 77;have hB12:=hB1.trans (hB2.mono hB1.size);have G1:=Za ((hB2.block w.heap.size (by omega)).trans b1);have G2:=Za b2;have B2:=Za hB12;have SZ:=Za (show w1.heap.size=w.heap.size+1/\w2.heap.size=w.heap.size+2 from ⟨hs1,by omega⟩);have HS:=Za h;have hdn:=Za (fun j hj=>Zhe (k:=k) hT j hj);have i0:(0:Int)<=(lv:Int)+1:=by omega
 replace hs1:=Za hs1;replace hs2:=Za hs2;replace hT:=Za hT;clear h hB1 hB2 hB12 b1 b2;unfold kyV
 go_enter Tryz.func69,Tryz.ntmps69
 go_upto_region 1 with fail
 clear hw1 hw2
 go_wp2_with fail
 go_loopw [10,11,17] (fun sv av iv wr=>∃ (j:Nat) (A:Option Pz) (c:Nat) (l:List Sv),j<=lv+1/\iv=.int .i64 (j:Int)/\l.length=j/\sv=.slice A l.length c/\(j<=lv->av=.int .i64 (atW s k a j))/\(∃ z:Int,av=.int .i64 z)/\Zhm w2.heap.size s k a wr A c l/\Qac w2.heap.size w2 wr) (fun _ _ iv _=>lv+1-(intOf iv).toNat)
 case atStart=>exact⟨0,none,0,[],by omega,rfl,rfl,rfl,fun _=>rfl,⟨_,rfl⟩,⟨World.ownsRow_nil ..,⟨fun _ h=>(List.not_mem_nil h).elim,List.Pairwise.nil⟩,fun _ _ e=>(nomatch e),fun _ _ e=>(nomatch e)⟩,Qd _ _⟩
 case round =>
  obtain⟨j,A,c,l,hj,rfl,hll,rfl,hav,⟨zv,rfl⟩,hW,hb⟩:=hrel;obtain⟨ml,hml⟩:∃ q,l.length=q:=⟨_,rfl⟩
  by_cases hlt:j<lv+1
  case neg =>
   have hc0:¬ ((j:Int)<(lv:Int)+1):=by omega
   have hfin:Hid (∃ A' c' l',Ending.returned (.tuple #[.slice A ml c,.int .i64 0])=.returned (.tuple #[.slice A' l'.length c',.int .i64 0])/\l'.length=lv+1/\Zhm w.heap.size s k a wr A' c' l'/\Qac w.heap.size w wr):=Za
    ⟨A,c,l,by rw[hml],by omega,⟨Zao hW.row (by have:=SZ.out;omega),⟨fun q hq=>by
     obtain⟨h1,h2,h3,h4⟩:=hW.rows.ok q hq
     exact⟨by have:=SZ.out;omega,h2,h3,h4⟩,hW.rows.apart⟩,hW.off,hW.are⟩,B2.out.trans (hb.mono B2.out.size)⟩
   rw[hml];replace hml:=Za hml;replace hll:=Za hll;replace hW:=Za hW;clear hav
   go_wp2_with fail
   exact P7 (v:=.tuple #[.slice A ml c,.int .i64 0]) (by simp[results,Tryz.results69,go_sem]) rfl hfin.out
  have hc0:((j:Int)<(lv:Int)+1):=by omega
  obtain rfl:zv=atW s k a j:=by
   have:=hav (by omega)
   simpa using this
  have hA:=hdn.out j (by omega);have hok:=hA.ok;have hlv:=hA.lvl;have hmay:=hA.may;have hBr:=Za (B2.out.trans (hb.mono B2.out.size));have hN:=Zmk _ s (atW s k a j) wr (HS.out.below hBr.out);have hne:=(Z0 hmay).1.2.2.2;have hfive:=Za (Z0 hmay).1.2.2.1;obtain⟨nd,hnd⟩:∃ q,rmV s (atW s k a j)=q:=⟨_,rfl⟩
  have hnext:Hid (nd.1≠0->∃ y,nd.2[(Zfq nd k).1]? = some y/\y.2.1=atW s k a (j+1)):=Za (fun h0=>by
   have hw:(Zfq nd k).1=Zaq nd k:=by unfold Zfq;rw[if_neg h0]
   rw[hnd] at hne;rw[hnd] at hlv;have hlt:=Zle k (hne (by omega));refine⟨_,by rw[hw];exact Qg hlt,?_⟩;show _=Ze4 (rmV s (atW s k a j)) k
   rw[hnd,Zv8 (Qg hlt)])
  rw[hok,hnd] at hN;rw[hnd] at hlv hfive;clear hmay hne hok;have hlv0:nd.1=0->j=lv:=fun h0=>by omega
  obtain⟨lw,hlw⟩:∃ q,nd.1=q:=⟨_,rfl⟩
  obtain⟨nl,hnl⟩:∃ q,nd.2.length=q:=⟨_,rfl⟩
  obtain⟨pl,hpl⟩:∃ q,(Zfq nd k).1=q:=⟨_,rfl⟩
  obtain⟨ins,hins⟩:∃ q,(Zfq nd k).2=q:=⟨_,rfl⟩
  have g1:=Za ((hb.block w.heap.size (by have:=SZ.out;omega)).trans G1.out);have g2:=Za ((hb.block w1.heap.size (by have:=SZ.out;omega)).trans G2.out);obtain⟨k0,k1,k2,k3,_⟩:=Ze g1.out;have hW':=Za hW;have hb':=Za hb;have hnd':=Za hnd;clear hA hW hb hnd hav
  go_upto_region 5 with fail
  go_wp2_with fail
  with_reducible refine hN.mono ?_
  rintro e W1 ⟨u,rfl,⟨Z,zc,rfl,hin,hrow⟩,hb1⟩;rw[hnl,hlw];clear hN k0 k1 k2 k3;obtain⟨w3,hw3,b3,hs3,hB3⟩:=Yd W1 (.int .i64 lw) (.slice Z nl zc) 59;have g23:=(hB3.block w1.heap.size (by have:=hb1.size;have:=hb'.out.size;have:=SZ.out;omega)).trans ((hb1.block w1.heap.size (by have:=hb'.out.size;have:=SZ.out;omega)).trans g2.out);obtain⟨y0,y1,_⟩:=Zi b3;obtain⟨z0,z1,z2,_⟩:=Zk g23;have hst:=Zrb Z zc nd k w3 ((Zit.nod ⟨Z,zc,rfl,hin,hrow⟩).drop.below hB3);rw[hnl,hlw,hpl,hins] at hst;have B13:=Za hB3;have hrow1:=Za hrow;have B1:=Za hb1;have b3':=Za b3;clear hb1 hB3 hrow hin b3 g23;replace hs3:=Za hs3
  go_upto_region 8 with fail
  clear hw3;unfold kyV at hst
  go_wp2_with fail
  with_reducible refine hst.mono ?_
  rintro e w4 ⟨rfl,hb4⟩;clear hst y0 y1 z0 z1 z2;obtain⟨w5,hw5,b5,hs5,hB5⟩:=Xy w4 (.int .i64 lw) (.slice Z nl zc) (.int .i64 (pl:Int)) (.bool ins) 181;obtain⟨y0,y1,y2,y3,_⟩:=Ze b5;have hsz4:=Za hb4.size;have B35:=Za (hb4.trans (hB5.mono hb4.size));have b5':=Za b5;clear hb4 hB5 b5;replace hs5:=Za hs5
  go_upto_region 9 with fail
  clear hw5;obtain⟨w6,hw6,b6,hs6,hB6⟩:=Xy w5 (.int .i64 lw) (.slice Z nl zc) (.int .i64 (pl:Int)) (.bool ins) 181;have B16:Hid (Qac W1.heap.size W1 w6):=Za (B13.out.trans ((B35.out.mono B13.out.size).trans (hB6.mono (Qi B13.out.size B35.out.size))));have B26:Hid (Qac w2.heap.size w2 w6):=Za (hb'.out.trans ((B1.out.mono hb'.out.size).trans (B16.out.mono (Qi hb'.out.size B1.out.size))));have row6:=Zy (Zy hW'.out.row B1.out) B16.out;obtain⟨A',c',w7,hr7,row7,gr7,hb7,k7⟩:=Zsi row6 ⟨nd,pl,ins,Z,zc,wr.heap.size,W1.heap.size⟩ w5.heap.size 1 j (by rw[hlw,hnl];exact b6) hll (by omega) B26.out.size;have hW7:=Za (Zhm.push hW'.out ⟨nd,pl,ins,Z,zc,wr.heap.size,W1.heap.size⟩ rfl rfl hrow1.out B1.out B16.out gr7 row7 k7 (by rw[hll];exact hnd'.out.symm) (by rw[<- hpl,<- hins]) hb'.out.size);have hB27:=Za (B26.out.trans hb7);have hAlt:∀ g,A.map (·.block)=some g->g<wr.heap.size:=fun g e=>(hW'.out.row.lt g (by rw[<- e];cases A <;> rfl)).2
  have f3:=(gr7.block W1.heap.size (by have:=B16.out.size;have:=B13.out.size;have:=hs3.out;have:=hs5.out;have:=B35.out.size;have:=hB6.size;omega) (fun e=>by have:=hAlt _ e.symm;have:=B1.out.size;omega)).trans ((hB6.block W1.heap.size (by have:=hs3.out;have:=B35.out.size;omega)).trans ((B35.out.block W1.heap.size (by have:=hs3.out;omega)).trans b3'.out));have f5:=(gr7.block w4.heap.size (by have:=hs5.out;have:=hB6.size;omega) (fun e=>by have:=hAlt _ e.symm;have:=B1.out.size;have:=hs3.out;have:=hsz4.out;omega)).trans ((hB6.block w4.heap.size (by have:=hs5.out;omega)).trans b5'.out);have H7:=Za hr7;have hl7:Hid (j+1=(l++[(⟨nd,pl,ins,Z,zc,wr.heap.size,W1.heap.size⟩:Sv)]).length):=Za (by rw[Qj,hll];rfl);obtain⟨l',hl'⟩:∃ q,l++[(⟨nd,pl,ins,Z,zc,wr.heap.size,W1.heap.size⟩:Sv)]=q:=⟨_,rfl⟩
  have hrow7:Hid (Yp rIt 5 79 wr.heap.size w7 Z zc nd.2):=Za (by
   obtain⟨_,_,h3,h4⟩:=hW7.out.rows.ok ⟨nd,pl,ins,Z,zc,wr.heap.size,W1.heap.size⟩ (by simp)
   exact h4.use h3)
  rw[hl'] at hW7 hl7;replace hl':=Za hl';obtain⟨n0,n1,_⟩:=Zi f3;obtain⟨s0,s1,s2,s3,_⟩:=Ze f5;replace f3:=Za f3;replace f5:=Za f5;replace hs6:=Za hs6;replace b6:=Za b6;clear hr7 gr7 hb7 row7 row6 k7 hB6 hAlt hW';have i7:IntKind.i64.wrap ((j:Int)+1)=((j+1:Nat):Int):=by rw[IntKind.wrap_i64];omega
  by_cases h0:lw=0
  ·subst h0
   have hjl:=Za (hlv0 hlw);replace hlw:=Za hlw;replace hnl:=Za hnl;replace hpl:=Za hpl;replace hins:=Za hins;clear hlv hlv0
   go_wp2_with (at_builtin;refine Zu rfl _ _ _ rfl rfl rfl H7.out ?_;clear H7)
   go_roundw
   case rel=>exact⟨j+1,A',c',l',by omega,by go_num,hl7.out.symm,by rw[<- hl7.out],fun h=>by have:=hjl.out;omega,⟨_,rfl⟩,hW7.out,hB27.out⟩
   case measure=>simp[intOf];omega
  ·have hgt:decide (lw>0)=true:=by simp;omega
   obtain⟨y,hy,hyn⟩:=hnext.out (by omega);rw[hpl] at hy;obtain⟨ad,E,ce,e0,_,⟨_,_,_,t3,_⟩,_⟩:=Zdu (hrow7.out.rel Yn) hy;have hpn:pl<nl:=by rw[<- hnl];exact(Qh.1 hy).1
   subst e0;have hn5:nl<=5:=by rw[<- hnl];exact hfive.out
   replace hy:=Za hy;replace hyn:=Za hyn;replace hlw:=Za hlw;replace hnl:=Za hnl;replace hpl:=Za hpl;replace hins:=Za hins;clear hlv hlv0
   go_wp2_with (at_builtin;refine Zu rfl _ _ _ rfl rfl rfl H7.out ?_;clear H7)
   go_roundw
   case rel=>exact⟨j+1,A',c',l',by omega,by go_num,hl7.out.symm,by rw[<- hl7.out],fun _=>by rw[hyn.out],⟨_,rfl⟩,hW7.out,hB27.out⟩
   case measure=>simp[intOf];omega}
end Go.Proofs.YtmafkphcfkhokaaGreat
namespace Go.Proofs.YtmafkphcfkhokaaGreat
open Go.RowKit Go.Shelf Go.Maps
attribute [local go_sem] Oper.semAt_some
def Z1d (X:Act->Px->Prop):Exit->Act->Px->Prop
 | .normal,a,w=>X a w
 | _,_,_=>False
theorem Zii {F:Fence}{n:Nat}{P:Program}{c:Code}{K:Act->Px->Prop}{Q:Exit->Act->Px->Prop}{a:Act}{w:Px}(h:c.wpIn F n P (Z1d K) a w):c.wpIn F n P (Exit.then K Q) a w :=
 wpIn_mono h fun e a w h=>by
  cases e <;> first
   | exact h
   | exact h.elim
end Go.Proofs.YtmafkphcfkhokaaGreat
namespace Go.Proofs.YtmafkphcfkhokaaGreat
open Go.RowKit Go.Shelf
attribute [local go_sem] Oper.semAt_some
def GrI (l0 lo hr hi B3 B6 B7 B8 B9:Nat) (n0:Px) (s:Rm) (x:It) (l:List Sv) (r:List Nat×Option Nat) (V:Px):Prop :=
 r.2=none/\(Qac lo n0 V/\hi<=V.heap.size)/\(Xu B6 #[.slice none 0 0,.slice none 0 0,.slice none 0 0,.slice none 0 0] 29 V/\Xu B7 #[.int .i64 0] 3 V/\Xu B8 #[.int .i64 0] 36 V) /\
 ∃ (sk:Rm) (F:List It) (qa qb qc qd:Option Pz×Nat×Nat) (fb m fc:Nat),Xa l.reverse s [x]=Xa (l.reverse.drop r.1.length) sk F/\Xu B3 #[.slice qa.1 qa.2.1 qa.2.2,.slice qb.1 qb.2.1 qb.2.2,.slice qc.1 qc.2.1 qc.2.2,.slice qd.1 qd.2.1 qd.2.2] 29 V/\Sto (Out l0 hi V) V (.agg #[.slice qa.1 qa.2.1 qa.2.2,.slice qb.1 qb.2.1 qb.2.2,.slice qc.1 qc.2.1 qc.2.2,.slice qd.1 qd.2.1 qd.2.2]) sk /\
  Xu B9 #[.slice (some ⟨fb,0,none⟩) m fc] 57 V/\FrB l0 hr hi V fb m fc F/\∀ q∈l.take (l.length-r.1.length),Zfa V q
def GrX (lo hi B6 B7 B8:Nat) (n0:Px) (s:Rm) (x:It) (l:List Sv) (c:Code) (r:List Nat×Option Nat) (V:Px):Prop :=
 c=.ret/\r.2=none/\(Qac lo n0 V/\hi<=V.heap.size)/\∃ er:Int,Xu B6 #[.slice none 0 0,.slice none 0 0,.slice none 0 0,.slice none 0 0] 29 V/\Xu B7 #[.int .i64 0] 3 V/\Xu B8 #[.int .i64 er] 36 V/\Xa l.reverse s [x]=(er,Zn,[])/\er≠0
theorem Zwa {lo hi:Nat}{V V':Px}{row:Option Nat}(hg:V.grownBy V' row) (hr:∀ r,row=some r->∃ o:Obj,V.heap[r]? = some o/\o.isCells=false){p:Pz}{v:Py}(hp:Out lo hi V p) (hc:V.cell? p=some v):Out lo hi V' p/\V'.cell? p=some v :=
 ⟨⟨hp.1,Qe hp.2 hg.size⟩,cell_kept hc hg hr⟩
theorem Zvc {V V':Px}{q:Sv}{row:Option Nat}(h:Zfa V q) (hh:q.hi<=V.heap.size) (hg:V.grownBy V' row) (hr:∀ r,row=some r->V.heap.size<=r\/q.hi<=r):Zfa V' q :=
 h.same fun k h1 h2=>hg.block k (by omega) (fun e=>by rcases hr k e.symm with h | h <;> omega)
theorem Z3l {lo hr hi fb m fc:Nat}{V V':Px}{F:List It}{row:Option Nat}(h:FrB lo hr hi V fb m fc F) (hg:V.grownBy V' row) (hrow:∀ r,row=some r->∃ o:Obj,V.heap[r]? = some o/\o.isCells=false):FrB lo hr hi V' fb m fc F:=by
 obtain⟨h1,h2,h3,h4,ps,h5,h6,h7⟩:=h;refine⟨h1,h2,h3,h4,ps,h5,⟨h6.1,?_⟩,fun p hp=>⟨(h7 p hp).1,Zf _ _ _ _ _ _ (fun a v ha hc=>Zwa hg hrow ha hc) (h7 p hp).2⟩⟩;rcases h6.2 with e' | ⟨g,cap,cur,e',hb,hgg,r⟩
 ·exact .inl e'
 ·exact .inr ⟨g,cap,cur,e',hb,Zs hgg hg hrow,r⟩
theorem Z3n {l0 lo hr hi B3 B6 B7 B8 B9:Nat}{n0:Px}{s:Rm}{x:It}{l:List Sv}{B:Nat}(hlh:lo<=hi) (hB:lo<=B) (hq:∀ q∈l,q.hi<=B/\q.hi<=hi):OwnFrom B (GrI l0 lo hr hi B3 B6 B7 B8 B9 n0 s x l):=fun r V V' row hs hg hrr=>by
 obtain⟨h0,⟨h1,h2⟩,⟨h3,h4,h5⟩,sk,F,qa,qb,qc,qd,fb,m,fc,e1,e2,e3,e4,e5,e6⟩:=hs;have hn:=fun r e=>(hrr r e).2
 refine⟨h0,⟨h1.grown hg (by omega) (fun r e=>by have:=(hrr r e).1;omega),Qi h2 hg.size⟩,⟨Zs h3 hg hn,Zs h4 hg hn,Zs h5 hg hn⟩,sk,F,qa,qb,qc,qd,fb,m,fc,e1,Zs e2 hg hn,e3.map fun p v hp hc=>Zwa hg hn hp hc,Zs e4 hg hn,Z3l e5 hg hn,fun q hm=> ?_⟩;have:=hq q (Qn hm);exact Zvc (e6 q hm) (by omega) hg fun r e=>.inr (by have:=(hrr r e).1;omega)
theorem Z17 {lo hi B6 B7 B8:Nat}{n0:Px}{s:Rm}{x:It}{l:List Sv}{c:Code}{B:Nat}(hlh:lo<=hi) (hB:lo<=B):OwnFrom B (GrX lo hi B6 B7 B8 n0 s x l c):=fun r V V' row hs hg hrr=>by
 obtain⟨hc,h0,⟨h1,h2⟩,er,h3,h4,h5,h6⟩:=hs;have hn:=fun r e=>(hrr r e).2
 exact⟨hc,h0,⟨h1.grown hg (by omega) (fun r e=>by have:=(hrr r e).1;omega),Qi h2 hg.size⟩,er,Zs h3 hg hn,Zs h4 hg hn,Zs h5 hg hn,h6⟩
def Z53 (l0 lo:Nat) (s:Rm) (l:List Sv) (x:It) (w:Px) (e:Ending) (w':Px):Prop:=∃ qa qb qc qd:Option Pz×Nat×Nat,e=.returned (.tuple #[.agg #[.slice qa.1 qa.2.1 qa.2.2,.slice qb.1 qb.2.1 qb.2.2,.slice qc.1 qc.2.1 qc.2.2,.slice qd.1 qd.2.1 qd.2.2],.int .i64 (Y5 s l x).2.2,.int .i64 (Y5 s l x).1])/\Sto (Out l0 w.heap.size w') w' (.agg #[.slice qa.1 qa.2.1 qa.2.2,.slice qb.1 qb.2.1 qb.2.2,.slice qc.1 qc.2.1 qc.2.2,.slice qd.1 qd.2.1 qd.2.2]) (Y5 s l x).2.1/\Qac lo w w'
theorem Yb {W:Px}{g i:Nat}{cs:Array Py}{t:P5}{v:Py}(h:W.heap[g]? = some (.cells cs t (0,0))) (hv:cs[i]? = some v):W.setCell ⟨g,i,none⟩ v=W:=by{
 have hh:(W.setCell ⟨g,i,none⟩ v).heap=W.heap:=by
  apply Pn;intro k;by_cases e:k=g
  ·subst e
   rw[heap_setCell_same W k i _ _ v h,h]
   congr 2
   apply Pn;intro j;obtain⟨hi,hv'⟩:=Qa.1 hv;by_cases ej:i=j
   ·subst ej
    simp[hi,hv']
   ·rw[Array.getElem?_setIfInBounds_ne ej]
  ·exact Below.heap_setCell W ⟨g,i,none⟩ v k e
 have:W.setCell ⟨g,i,none⟩ v={ W with heap:=(W.setCell ⟨g,i,none⟩ v).heap }:=rfl;rw[this,hh]}
def PhI (V:Px) (len:Nat) (LL:List It) (v:Py) (W:Px):Prop:=V.heap.size<W.heap.size/\∃ A' c',v=.slice A' len c'/\Zar (Old W) W [.slice A' len c'] LL
def PhL (V:Px) (nu:Nat) (er:Int) (S':Rm) (up:List It) (v:Py) (W:Px):Prop:=V.heap.size<W.heap.size/\∃ (qa qb qc qd:Option Pz×Nat×Nat) (M:Option Pz) (mc:Nat),v=.tuple #[.agg #[.slice qa.1 qa.2.1 qa.2.2,.slice qb.1 qb.2.1 qb.2.2,.slice qc.1 qc.2.1 qc.2.2,.slice qd.1 qd.2.1 qd.2.2],.slice M nu mc,.int .i64 er]/\Sto (New V.heap.size W) W (.agg #[.slice qa.1 qa.2.1 qa.2.2,.slice qb.1 qb.2.1 qb.2.2,.slice qc.1 qc.2.1 qc.2.2,.slice qd.1 qd.2.1 qd.2.2]) S'/\Yp rIt 5 79 V.heap.size W M mc up
def PhS (V:Px) (S':Rm) (v:Py) (W:Px):Prop:=V.heap.size<W.heap.size/\∃ (qa qb qc qd:Option Pz×Nat×Nat),v=.agg #[.slice qa.1 qa.2.1 qa.2.2,.slice qb.1 qb.2.1 qb.2.2,.slice qc.1 qc.2.1 qc.2.2,.slice qd.1 qd.2.1 qd.2.2]/\Sto (New V.heap.size W) W (.agg #[.slice qa.1 qa.2.1 qa.2.2,.slice qb.1 qb.2.1 qb.2.2,.slice qc.1 qc.2.1 qc.2.2,.slice qd.1 qd.2.1 qd.2.2]) S'
def PhM (V:Px) (nu:Nat) (up:List It) (v:Py) (W:Px):Prop:=V.heap.size<W.heap.size/\∃ (M:Option Pz) (mc:Nat),v=.slice M nu mc/\Yp rIt 5 79 V.heap.size W M mc up
theorem Zqo (l0 lo:Nat) (hl0:l0<=lo) (qa qb qc qd:Option Pz×Nat×Nat) (s:Rm) (A:Option Pz) (m c:Nat) (l:List Sv) (E:Option Pz) (ce:Nat) (x:It) (w:Px) (hlo:lo<=w.heap.size) (h:Sto (fun p=>p.block<l0) w (.agg #[.slice qa.1 qa.2.1 qa.2.2,.slice qb.1 qb.2.1 qb.2.2,.slice qc.1 qc.2.1 qc.2.2,.slice qd.1 qd.2.1 qd.2.2]) s)
  (hst:w.ownsRow lo 181 4 (.slice A m c) m (svs l)) (hl:l.length=m) (hm:m<=6) (hR:Rows lo w.heap.size w l) (hA:∀ g q,A.map (·.block)=some g->q∈l->g<q.lo\/q.hi<=g)
  (hq:∀ q∈l,Zcz q.nd.1/\q.nd.2.length<=5/\q.pl+(if q.inst=true then 1 else 0)<=q.nd.2.length) (hx:Itm (fun p=>p.block<l0) w (itV x (.slice E x.2.2.length ce)) x) :
  Qab Tryz.prog 71 #[.agg #[.slice qa.1 qa.2.1 qa.2.2,.slice qb.1 qb.2.1 qb.2.2,.slice qc.1 qc.2.1 qc.2.2,.slice qd.1 qd.2.1 qd.2.2],.slice A m c,itV x (.slice E x.2.2.length ce)] w (Z53 l0 lo s l x w):=by{
 obtain⟨w1,hw1,b1,hs1,hB1⟩:=Xy w (.slice qa.1 qa.2.1 qa.2.2) (.slice qb.1 qb.2.1 qb.2.2) (.slice qc.1 qc.2.1 qc.2.2) (.slice qd.1 qd.2.1 qd.2.2) 29;obtain⟨w2,hw2,-,-,-,-,-,hs2,hB2,b2⟩:=Zz w1 (.int .u8 (x.1.1.toNat:Int)) (.int .u32 x.1.2.1) (.int .u32 x.1.2.2) (.int .i64 x.2.1) (.slice E x.2.2.length ce) 79;obtain⟨w3,hw3,b3,hs3,hB3⟩:=Xy w2 (.slice none 0 0) (.slice none 0 0) (.slice none 0 0) (.slice none 0 0) 29;obtain⟨w4,hw4,b4,hs4,hB4⟩:∃ w4,w3.alloc (.cells #[.int .i64 0] 3)=w4/\Xu w3.heap.size #[.int .i64 0] 3 w4/\w4.heap.size=w3.heap.size+1/\Qac w3.heap.size w3 w4:=⟨_,rfl,P8 w3 _,by simp,(Qd _ _).alloc (Qb _) _⟩
 obtain⟨w5,hw5,b5,hs5,hB5⟩:∃ w5,w4.alloc (.cells #[.int .i64 0] 36)=w5/\Xu w4.heap.size #[.int .i64 0] 36 w5/\w5.heap.size=w4.heap.size+1/\Qac w4.heap.size w4 w5:=⟨_,rfl,P8 w4 _,by simp,(Qd _ _).alloc (Qb _) _⟩
 obtain⟨w6,hw6,-,-,-,-,-,hs6,hB6,b6⟩:=Zz w5 (.int .u8 (x.1.1.toNat:Int)) (.int .u32 x.1.2.1) (.int .u32 x.1.2.2) (.int .i64 x.2.1) (.slice E x.2.2.length ce) 79;obtain⟨w7,hw7,b7,hs7,hB7⟩:∃ w7,w6.alloc (.cells #[.slice (some ⟨w5.heap.size,0,none⟩) 1 1] 57)=w7/\Xu w6.heap.size #[.slice (some ⟨w5.heap.size,0,none⟩) 1 1] 57 w7/\w7.heap.size=w6.heap.size+1/\Qac w6.heap.size w6 w7:=⟨_,rfl,P8 w6 _,by simp,(Qd _ _).alloc (Qb _) _⟩
 obtain⟨w8,hw8,b8,hs8,hB8⟩:=Zn1 w7 (.slice A m c) 125;have hbw:=Za (Zdk A m c w7);rw[hw8] at hbw;have k78:=hB7.trans (hB8.mono hB7.size);have k68:=hB6.trans (k78.mono hB6.size);have k58:=hB5.trans (k68.mono hB5.size);have k48:=hB4.trans (k58.mono hB4.size);have k38:=hB3.trans (k48.mono hB3.size);have k28:=hB2.trans (k38.mono hB2.size);have k18:=hB1.trans (k28.mono hB1.size);have BW:=Za k18;obtain⟨i0,i1,i2,i3,i4,_⟩:=Zq ((((hB3.trans (hB4.mono hB3.size)).trans (hB5.mono (hB3.trans (hB4.mono hB3.size)).size)).block w1.heap.size (by omega)).trans b2);have SZ:=Za (show w1.heap.size=w.heap.size+1/\w2.heap.size=w.heap.size+2/\w3.heap.size=w.heap.size+3/\w4.heap.size=w.heap.size+4/\w5.heap.size=w.heap.size+5/\w6.heap.size=w.heap.size+6/\w7.heap.size=w.heap.size+7/\w8.heap.size=w.heap.size+8 from by omega);obtain⟨ad,had,hat⟩:=Zq1 (by rw[hl];exact hst);rw[hl] at had hat;obtain⟨f,hf⟩:∃ f:Nat->Sv,f=fun j=>l[j]?.getD svZ:=⟨_,rfl⟩
 have hff:Hid (∀ k,k<m->l.reverse[k]? = some (f (m-1-k))/\f (m-1-k)∈l/\l[m-1-k]? = some (f (m-1-k))):=Za fun k hk=>by
  have e:l.reverse[k]? = some l[m-1-k]:=by
   rw[Pk (by omega),show l.length-1-k=m-1-k by omega];exact Qg _
  have e2:f (m-1-k)=l[m-1-k]:=by
   rw[hf];simp[Qg (show m-1-k<l.length by omega)]
  rw[e2];exact⟨e,Pm _,Qg _⟩
 have htold:=Zh7 w7.heap.size c m A ad f w8 b8 (fun h=>⟨(had h).1,by have:=(had h).2.2;omega⟩) (by omega) (fun j hj=>by rw[hf];exact(hat j hj).same (k18.block _ (by rw[Zh];exact(had (by omega)).2.2)));have hin:InI x:=by
  obtain⟨_,_,hi,_⟩:=hx;exact hi
 have hfr:FrB l0 w.heap.size w8.heap.size w8 w5.heap.size 1 1 [x]:=by
  refine⟨rfl,by omega,by omega,by omega,[(x,.slice E x.2.2.length ce)],rfl,?_,fun p hp=> ?_⟩
  ·exact V8 (b:=w5.heap.size) (C:=Zj [(x,.slice E x.2.2.length ce)]) (by omega) ((k78.block _ (by omega)).trans b6) (Qb _) (by decide) rfl (by rfl)
  ·rw[Qm.1 hp]
   obtain⟨d,e,h1,h2⟩:=hx;have ed:d=.slice E x.2.2.length ce:=by
    unfold itV at e;simp at e;exact e.symm
   subst ed;exact⟨h1,Zf _ _ _ _ _ _ (fun a v ha hc=>⟨⟨.inl ha,by have:=hlo;omega⟩,(k18.cell (by omega)).trans hc⟩) h2⟩
 have hI0:GrI l0 lo w.heap.size w8.heap.size w.heap.size w2.heap.size w3.heap.size w4.heap.size w6.heap.size w s x l ([],none) w8 :=
  ⟨rfl,⟨k18.mono hlo,Qb _⟩,⟨(k48.block _ (by omega)).trans b3,(k58.block _ (by omega)).trans b4,(k68.block _ (by omega)).trans b5⟩,s,[x],qa,qb,qc,qd,w5.heap.size,1,1,rfl,(k28.block _ (by omega)).trans b1,h.map fun p v hp hc=>⟨⟨.inl hp,by omega⟩,(k18.cell (by omega)).trans hc⟩,
   (hB8.block _ (by omega)).trans b7,hfr,fun q hqm=>(hR.ok q (Qn hqm)).2.2.2.same fun k h1 h2=>k18.block k (by have:=(hR.ok q (Qn hqm)).2.2.1;omega)⟩
 have hlt:=Za (fun h:0<m=>(had h).2);have hAA:=Za (fun h:0<m=>(had h).1);replace hf:=Za hf;replace hl:=Za hl;replace hA:=Za hA;replace hR:=Za hR;replace hq:=Za hq;replace hfr:=Za hfr;replace hin:=Za hin;replace hs1:=Za hs1;replace hs2:=Za hs2;replace hs3:=Za hs3;replace hs4:=Za hs4;replace hs5:=Za hs5;replace hs6:=Za hs6;replace hs7:=Za hs7;replace hs8:=Za hs8;replace hI0:=Za hI0;clear h hst had hat b1 b2 b3 b4 b5 b6 b7 b8 hB1 hB2 hB3 hB4 hB5 hB6 hB7 hB8 k78 k68 k58 k48 k38 k28 k18 hx hw8;refine callsIn_wide.1 (callsIn_of_wp_marks (n:=5) Tryz.func71 rfl trivial ?_ rfl);simp only[Tryz.ntmps71,Q6,Qr,Qs,Q7,Q8,Q9,Pa,Pd,Pe,Qy,Qu]
 gi_wp2_with fail
 refine⟨trivial,?_⟩
 gi_at_call 116
 refine(callsIn_wide.2 hbw.out).mono ?_;rintro e w8 ⟨rfl,rfl⟩;clear i0 i1 i2 i3 i4
 gi_wp2_with fail
 refine Zij (m:=5) (gf:=175) (lb:=#[.pointer (some ⟨w7.heap.size,0,none⟩)]) rfl (enters_of Tryz.func175 (by kernel_rfl) rfl) htold (fun _=>rfl)
  (fun k=>k=w.heap.size\/k=w2.heap.size\/k=w3.heap.size\/k=w4.heap.size\/k=w6.heap.size\/∃ q∈l,q.A.map (·.block)=some k) (fun k e=>by
   rcases e with e | e | e | e | e | ⟨q,hq,e⟩
   ·have:=SZ.out;omega
   ·have:=SZ.out;omega
   ·have:=SZ.out;omega
   ·have:=SZ.out;omega
   ·have:=SZ.out;omega
   ·have h1:=hR.out.ok q hq
    have:=Zd8 h1.2.2.2 k e
    have:=SZ.out;omega) none (fun k hk=>by
   rcases hk with rfl | ⟨h0,rfl⟩
   ·refine⟨by have:=SZ.out;omega,?_,by simp⟩
    rintro(e | e | e | e | e | ⟨q,hq,e⟩)
    ·have:=SZ.out;omega
    ·have:=SZ.out;omega
    ·have:=SZ.out;omega
    ·have:=SZ.out;omega
    ·have:=SZ.out;omega
    ·have h1:=hR.out.ok q hq
     have:=Zd8 h1.2.2.2 _ e;have:=SZ.out;omega
   ·have:=hlt.out h0
    refine⟨by have:=SZ.out;omega,?_,by simp⟩;rintro(e | e | e | e | e | ⟨q,hq,e⟩)
    ·have:=SZ.out;omega
    ·have:=SZ.out;omega
    ·have:=SZ.out;omega
    ·have:=SZ.out;omega
    ·have:=SZ.out;omega
    ·have h1:=hR.out.ok q hq
     have:=Zd8 h1.2.2.2 _ e;have:=hA.out ad.block q (by rw[hAA.out h0];rfl) hq
     omega)
  (GrI l0 lo w.heap.size w8.heap.size w.heap.size w2.heap.size w3.heap.size w4.heap.size w6.heap.size w s x l) (GrX lo w8.heap.size w2.heap.size w3.heap.size w4.heap.size w s x l)
  (Z3n (by have:=SZ.out;omega) (by have:=SZ.out;omega) (fun q hq=>by have:=(hR.out.ok q hq).2.2.1;have:=SZ.out;omega)) (fun c=>Z17 (by have:=SZ.out;omega) (by have:=SZ.out;omega))
  (fun r V hr k e=>by rw[hr.1] at e;cases e) hI0.out
  (fun x' a' V=>∃ g:Nat,a'={ tmps:=#[.agg #[.slice qa.1 qa.2.1 qa.2.2,.slice qb.1 qb.2.1 qb.2.2,.slice qc.1 qc.2.1 qc.2.2,.slice qd.1 qd.2.1 qd.2.2],.slice A m c,itV x (.slice E x.2.2.length ce),.pointer (some ⟨w.heap.size,0,none⟩),Qaa,.pointer (some ⟨w1.heap.size,0,none⟩),.pointer (some ⟨w2.heap.size,0,none⟩),.pointer (some ⟨w3.heap.size,0,none⟩),.pointer (some ⟨w4.heap.size,0,none⟩),.pointer (some ⟨w6.heap.size,0,none⟩),Qaa,.pointer (some ⟨g,0,none⟩),.agg #[.int .u8 (x.1.1.toNat:Int),.int .u32 x.1.2.1,.int .u32 x.1.2.2,.int .i64 x.2.1,.slice E x.2.2.length ce],.slice (some ⟨w5.heap.size,0,none⟩) 1 1,.slice A m c,.func (.func 175) #[] #[.pointer (some ⟨w7.heap.size,0,none⟩)],.int .i64 (x':Int),.agg #[.int .i64 (f x').nd.1,.slice (f x').A (f x').nd.2.length (f x').c,.int .i64 ((f x').pl:Int),.bool (f x').inst],Qaa,Qaa,Qaa,Qaa,Qaa,Qaa,Qaa,Qaa,Qaa,Qaa,Qaa,Qaa,Qaa,Qaa,Qaa,Qaa,Qaa,Qaa,Qaa,Qaa,Qaa,Qaa,Qaa,Qaa,Qaa,Qaa,Qaa,Qaa,Qaa,Qaa,Qaa,Qaa,Qaa,Qaa,Qaa,Qaa,Qaa,Qaa,Qaa],defers:=[] }/\Xu g #[.int .i64 (f x').nd.1,.slice (f x').A (f x').nd.2.length (f x').c,.int .i64 ((f x').pl:Int),.bool (f x').inst] 181 V)
  (fun y a' _ A B row hs hg hr=>by
   obtain⟨g,e1,h0⟩:=hs
   exact⟨g,e1,Zs h0 hg fun r e=>(hr r e).2⟩)
  (fun pre x q=>fun _ _ _ _ hs _ _=>hs) ?assign ?body ?done ?stop
 case assign =>
  rintro l' pre' q' x' V K hi hT hK;obtain⟨V1,hV1,bV,hVs,hVB⟩:=Xy V (.int .i64 (f x').nd.1) (.slice (f x').A (f x').nd.2.length (f x').c) (.int .i64 ((f x').pl:Int)) (.bool (f x').inst) 181;replace hVs:=Za hVs;clear hi hT;simp only[Z5x]
  gi_wp2_with fail
  exact hK _ _ (Zbb hVB) ⟨V.heap.size,rfl,bV⟩
 case body =>
  rintro l' pre' q' x' a' V hVs hI ⟨g,rfl,hg⟩ ⟨hp1,hp2,hp3⟩;obtain⟨hqn,⟨hIb,hIs⟩,⟨hB6,hB7,hB8⟩,sk,F,pa,pb,pc,pd,fb,mf,fc,hgr,hB3,hSto,hB9,hFr,hrows⟩:=hI
  dsimp only at hqn
  subst hqn;have hk:pre'.length<m:=hp2;clear hp1;obtain⟨hrv,hqm,hqi⟩:=hff.out _ hk;rw[<- hp3] at hrv hqm hqi;have hst:=Zsw (s:=sk) (F:=F) hrv;have hidx:Hid (∀ q∈l.take (l.length-(pre'++[x']).length),q.hi<=(f x').lo/\q∈l.take (l.length-pre'.length)):=Za fun q hqm'=>by
   obtain⟨i,hi⟩:=List.getElem?_of_mem hqm';have hil:=(Qh.1 hi).1;rw[Qt,Qj,hl.out] at hil;simp only[Qr,Qs] at hil;rw[Qw (by rw[hl.out,Qj];simp only[Qr,Qs];omega)] at hi;refine⟨?_,Qz (i:=i) (by rw[Qw (by rw[hl.out];omega)];exact hi)⟩;obtain⟨h1,e1⟩:=Qh.1 hi;obtain⟨h2,e2⟩:=Qh.1 hqi;have:=List.pairwise_iff_getElem.1 hR.out.apart i x' h1 h2 (by omega);rw[e1,e2] at this;exact this
  have hRA:Zfa V (f x'):=hrows _ (Qz (i:=m-1-pre'.length) (by rw[Qw (by rw[hl.out];show m-1-pre'.length<m-pre'.length;omega),<- hp3];exact hqi));have hpl:(pre'++[x']).length=pre'.length+1:=by rw[Qj];rfl
  clear hp3;generalize f x'=q at *;obtain⟨hlv,hq5,hqpl⟩:=hq.out q hqm;obtain⟨hql1,hql2,hql3,_⟩:=hR.out.ok q hqm;have hrow:=hRA.use (by have:=SZ.out;have:=hIs;omega);obtain⟨ps,hps,hpo,hpi⟩:=Zdh hrow;have hrb:=Zd8 hRA;have hrbw:∀ r,q.A.map (·.block)=some r->r<w.heap.size:=fun r e=>by have:=hrb r e;omega
  have hgb:q.A.map (·.block)≠some g:=fun e=>by
   cases hA':q.A with
   | none=>rw[hA'] at e;cases e
   | some a0 =>
    rw[hA'] at e hpo;obtain⟨b,C,rfl,_,_,hgg,_⟩:=Xj hpo;obtain rfl:b=g:=Option.some.inj e;unfold Xu at hg;rw[hg] at hgg;simp at hgg
  obtain⟨qs,hqs,hqo,hqi'⟩:=hFr.row;have hfb:=hFr.at_;have hmf:=hFr.pos;have hm2:=hFr.few;have hFl:=hFr.len;obtain⟨rb,hrbe⟩:∃ rb,q.A.map (·.block)=rb:=⟨_,rfl⟩
  rw[hrbe] at hgb hrb hrbw;have hgV:∀ W,V.grownBy W rb->∀ k,k<V.heap.size->rb≠some k->W.heap[k]? = V.heap[k]? := fun W hW k h1 h2=>hW.block k h1 (fun e=>h2 e.symm)
  have bne:∀ k,w.heap.size<=k->rb≠some k:=fun k h e=>by have:=hrbw k e;omega
  have HB3:=Za (fun W (hW:V.grownBy W rb)=>(hgV W hW _ (Qa.1 hB3).1 (bne _ (Qb _))).trans hB3);have HB9:=Za (fun W (hW:V.grownBy W rb)=>(hgV W hW _ (Qa.1 hB9).1 (bne _ (by have:=SZ.out;omega))).trans hB9);have HG:=Za (fun W (hW:V.grownBy W rb)=>(hgV W hW _ (Qa.1 hg).1 hgb).trans hg);have HOut:Hid (∀ W,V.grownBy W rb->∀ p v,Out l0 w8.heap.size V p->V.cell? p=some v->Out l0 w8.heap.size W p/\W.cell? p=some v):=Za fun W hW p v hp hc=>by
   have hb:=hgV W hW p.block hp.2 (fun e=>by have h1:=hrb _ e;have h2:=hrbw _ e;rcases hp.1 with h | h <;> have:=SZ.out <;> omega);exact⟨⟨hp.1,by have:=hp.2;have:=hW.size;omega⟩,(Qf hb).trans hc⟩
  have HF:Hid (∀ W,V.grownBy W rb->Zar (Old W) W [.slice (some ⟨fb,0,none⟩) mf fc] F):=Za fun W hW=>by
   have hF2:=hFr.same (w':=W) hW.size fun k h1 h2=>hgV W hW k h1 (fun e=>by have h3:=hrb _ e;have h4:=hrbw _ e;rcases h2 with h | h | h <;> have:=SZ.out <;> omega)
   obtain⟨zs,e1,e2,e3⟩:=hF2.row;have:=Znv e2 (fun p hp=>⟨(e3 p hp).1,Zf _ _ _ _ _ _ (fun a v ha hc=>⟨ha.2,hc⟩) (e3 p hp).2⟩)
   rwa [e1] at this
  have HS:=Za (fun W (hW:V.grownBy W rb)=>(hSto.map fun p v hp hc=>⟨((HOut.out W hW p v hp hc).1).2,(HOut.out W hW p v hp hc).2⟩:Sto (Old W) W (.agg #[.slice pa.1 pa.2.1 pa.2.2,.slice pb.1 pb.2.1 pb.2.2,.slice pc.1 pc.2.1 pc.2.2,.slice pd.1 pd.2.1 pd.2.2]) sk));obtain⟨LL,hLL⟩:∃ LL,Xt q F=LL:=⟨_,rfl⟩
  have hmap:(ps.take q.pl++(qs++ps.drop (q.pl+if q.inst=true then 1 else 0))).map (·.1)=LL:=by
   rw[<- hLL,Po,Po,List.map_take,List.map_drop,hps,hqs];rfl
  have hLlen:(ps.take q.pl++(qs++ps.drop (q.pl+if q.inst=true then 1 else 0))).length=LL.length:=by rw[<- hmap,List.length_map]
  have HI:Hid (Qab Tryz.prog 118 #[.agg #[.int .i64 q.nd.1,.slice q.A q.nd.2.length q.c,.int .i64 (q.pl:Int),.bool q.inst],.slice (some ⟨fb,0,none⟩) mf fc] V.drew fun e W=>V.grownBy W rb/\V.heap.size<W.heap.size/\∃ A' c',e=.returned (.slice A' LL.length c')/\Zar (Old W) W [.slice A' LL.length c'] LL):=Za (by
   refine(Zj8 q.A q.lo w.heap.size q.nd.2.length q.c fb mf fc q.pl q.nd.1 q.inst ps qs V.drew hpo hqo (by rw[hrbe];exact bne _ hfb) hqpl hmf (by omega) (Zuc hpi) (Zuc hqi') (by have:=SZ.out;have:=hIs;show q.lo<=V.heap.size;omega)).mono ?_;rintro e W ⟨⟨A',c',rfl,ho,hgW⟩,hsz⟩;rw[hLlen] at ho ⊢;have hgW':V.grownBy W rb:=by rw[<- hrbe];exact Um hgW
   refine⟨hgW',hsz,A',c',rfl,?_⟩;have:=Znv ho (fun p hp=> ?_)
   ·rwa [hmap] at this
   ·have hnb:∀ a:Pz,∀ v,X6 q.lo q.A V a->V.cell? a=some v->Old W a/\W.cell? a=some v:=fun a v ha hc=>by
     have hb:=hgV W hgW' a.block ha.1.2.1 (fun e=>ha.2 (by rw[hrbe];exact e));exact⟨by unfold Old;have:=ha.1.2.1;have:=hgW'.size;omega,(Qf hb).trans hc⟩
    rcases Ql.1 hp with hp | hp
    ·exact⟨(hpi p (Qn hp)).1,Zf _ _ _ _ _ _ hnb (hpi p (Qn hp)).2⟩
    ·rcases Ql.1 hp with hp | hp
     ·exact⟨(hqi' p hp).1,Zf _ _ _ _ _ _ (fun a v ha hc=>⟨((HOut.out W hgW' a v ha hc).1).2,(HOut.out W hgW' a v ha hc).2⟩) (hqi' p hp).2⟩
     ·exact⟨(hpi p (Q0 hp)).1,Zf _ _ _ _ _ _ hnb (hpi p (Q0 hp)).2⟩)
  have hL0:0<LL.length:=by
   rw[<- hLL];unfold Xt;simp only[Qj];omega
  have HL:Hid (∀ W A' c',V.grownBy W rb->Zar (Old W) W [.slice A' LL.length c'] LL->Qab Tryz.prog 117 #[.agg #[.slice pa.1 pa.2.1 pa.2.2,.slice pb.1 pb.2.1 pb.2.2,.slice pc.1 pc.2.1 pc.2.2,.slice pd.1 pd.2.1 pd.2.2],.int .i64 q.nd.1,.slice A' LL.length c',.slice (some ⟨fb,0,none⟩) mf fc] W (Z37 sk q.nd.1 LL F W)):=Za fun W A' c' hW hI=>Zvt pa pb pc pd sk q.nd.1 hlv A' LL.length c' LL (some ⟨fb,0,none⟩) mf fc F W (HS.out W hW) hI (HF.out W hW) rfl hL0 hFl (by omega)
  rw[hLL] at hst;have hsm:=Za (fun h:(Vk sk q.nd.1 LL F).1=0=>Zo5 h);obtain⟨er,her⟩:∃ e,(Vk sk q.nd.1 LL F).1=e:=⟨_,rfl⟩
  obtain⟨S',hS'⟩:∃ e,(Vk sk q.nd.1 LL F).2.1=e:=⟨_,rfl⟩
  obtain⟨up,hup⟩:∃ e,(Vk sk q.nd.1 LL F).2.2=e:=⟨_,rfl⟩
  unfold Z37 at HL;rw[her,hS',hup] at hst HL;rw[her,hup] at hsm;obtain⟨len,hlen⟩:∃ e,LL.length=e:=⟨_,rfl⟩
  rw[hlen] at HI HL hL0;obtain⟨nu,hnu⟩:∃ e,up.length=e:=⟨_,rfl⟩
  rw[hnu] at HL hsm;have hqr:=Za hrows;have hIb':=Za hIb;have hIs':=Za hIs;have hrb':=Za hrb;have hrbw':=Za hrbw;have hgV':=Za hgV;have hb6:=Za hB6;have hb7:=Za hB7;have hb8:=Za hB8;replace hst:=Za hst;replace hgr:=Za hgr;replace hpl:=Za hpl;replace her:=Za her;replace hS':=Za hS';replace hup:=Za hup;replace hlen:=Za hlen;replace hnu:=Za hnu;replace hrbe:=Za hrbe;replace hrv:=Za hrv;replace hqm:=Za hqm;replace hk:=Za hk;replace hlv:=Za hlv;clear hrows hIb hIs hrb hrbw hgV hB6 hB7 hB8 hB3 hB9 hg hSto hFr hqs hqo hqi' hps hpo hpi hmap hLlen hLL hRA hrow hgb bne hqpl hq5 hqi hfb hmf hm2 hFl hL0;generalize q.nd.1=q1 at *;generalize q.nd.2.length=q3 at *
  gi_wp2_with fail
  refine Zii ?_
  refine Zay ⟨fun W W'=>Qac W.heap.size W W'\/(W=V.drew/\V.grownBy W' rb/\V.heap.size<W'.heap.size),6,fun W=>W=V.drew⟩ (ops' := ?opsLate) (by kernel_rfl) [(13,11),(13,12),(14,12)] ?he (by kernel_rfl) (by kernel_rfl) (fun _ _ _ _ _ h=>h) (fun⟨_,_,h⟩=>h) 13 (fun W=>V.grownBy W rb) (fun i=>match i with
   | 6=>some (PhI V len LL)
   | 8=>some (PhL V nu er S' up)
   | 9=>some (PhL V nu er S' up)
   | 10=>some (PhS V S')
   | 11=>some (PhM V nu up)
   | _=>none) (fun i=>match i with
   | 12=>some (.int .i64 er)
   | _=>none) ?h1 ?h2 ?h3 rfl ?hon ⟨rfl,rfl,rfl,Qb _,fun _ _ _=>rfl⟩ ?hcb ?tst ?_
  case he =>
   simp[Z7];rfl
  case h1=>decide
  case h2=>kernel_rfl
  case h3=>kernel_rfl
  case hon=>kernel_rfl
  case hcb =>
   intro W W' h hr;rcases hr with hb | ⟨_,hg,_⟩
   ·exact Vd h hb
   ·exact hg
  case tst =>
   intro j φ v W W' hp hx hr;have hbl:V.heap.size<W.heap.size->Qac W.heap.size W W':=fun h=>by
    rcases hr with hb | ⟨rfl,_⟩
    ·exact hb
    ·exact absurd h (Nat.lt_irrefl _)
   match j,hp with
   | 6,hp =>
    cases hp;obtain⟨h0,A',c',e,h1⟩:=hx;exact⟨Qe h0 (hbl h0).size,A',c',e,Xv.old h1 (hbl h0)⟩
   | 8,hp =>
    cases hp;obtain⟨h0,qa,qb,qc,qd,M,mc,e,h1,h2⟩:=hx;exact⟨Qe h0 (hbl h0).size,qa,qb,qc,qd,M,mc,e,h1.new (Qb _) (hbl h0),h2.below Yn (hbl h0)⟩
   | 9,hp =>
    cases hp;obtain⟨h0,qa,qb,qc,qd,M,mc,e,h1,h2⟩:=hx;exact⟨Qe h0 (hbl h0).size,qa,qb,qc,qd,M,mc,e,h1.new (Qb _) (hbl h0),h2.below Yn (hbl h0)⟩
   | 10,hp =>
    cases hp;obtain⟨h0,qa,qb,qc,qd,e,h1⟩:=hx;exact⟨Qe h0 (hbl h0).size,qa,qb,qc,qd,e,h1.new (Qb _) (hbl h0)⟩
   | 11,hp =>
    cases hp;obtain⟨h0,M,mc,e,h2⟩:=hx;exact⟨Qe h0 (hbl h0).size,M,mc,e,h2.below Yn (hbl h0)⟩
  simp only[Pp,Pq,Pr,Q3]
  repeat (first
   | (refine Rk.wpAs_skip rfl ?_;simp only[Qc,Zb,Zc,Zd])
   | (refine Rk.wpAs_pure (v := ?_) rfl rfl ?_ ?_;rotate_left;(intro W hC hE;clear hE;(obtain⟨k0,k1,k2,k3,_⟩:=Ze (HB3.out W hC);obtain⟨g0,g1,g2,g3,_⟩:=Ze (HG.out W hC);obtain⟨n0,_⟩:=Zx (HB9.out W hC));clear hC;go_simp;first | done | with_reducible rfl);simp only[Qc,Zb,Zc,Zd]))
  refine Rk.wpAs_act rfl rfl ?_ ?_
  ·intro W hC hk6 hE
   obtain rfl:=hk6 rfl;clear hE;refine Rb.does_enter (f:=118) (args:=#[.agg #[.int .i64 q1,.slice q.A q3 q.c,.int .i64 (q.pl:Int),.bool q.inst],.slice (some ⟨fb,0,none⟩) mf fc]) ?_ ?_
   ·go_simp
   ·refine(HI.out).mono ?_
    rintro e W' ⟨h1,h2,A',c',rfl,h3⟩;exact⟨_,rfl,⟨h2,A',c',rfl,h3⟩,.inr ⟨rfl,h1,h2⟩⟩
  simp only[Qc,Zb,Zc,Zd,Rb.envAdd];intro x25
  repeat (first
   | (refine Rk.wpAs_skip rfl ?_;simp only[Qc,Zb,Zc,Zd])
   | (refine Rk.wpAs_pure (v := ?_) rfl rfl ?_ ?_;rotate_left;(intro W hC hE;clear hE;(obtain⟨n0,_⟩:=Zx (HB9.out W hC));clear hC;go_simp;first | done | with_reducible rfl);simp only[Qc,Zb,Zc,Zd]))
  refine Rk.wpAs_act rfl rfl ?_ ?_
  ·intro W hC _ hE
   obtain⟨h0,A',c',rfl,hI⟩:=hE.1 _ rfl rfl;clear hE;refine Rb.does_enter (f:=117) (args:=#[.agg #[.slice pa.1 pa.2.1 pa.2.2,.slice pb.1 pb.2.1 pb.2.2,.slice pc.1 pc.2.1 pc.2.2,.slice pd.1 pd.2.1 pd.2.2],.int .i64 q1,.slice A' len c',.slice (some ⟨fb,0,none⟩) mf fc]) ?_ ?_
   ·clear hI
    go_simp
   ·refine(HL.out W A' c' hC hI).mono ?_
    rintro e W' ⟨qa,qb,qc,qd,M,mc,rfl,h1,h2,hb⟩;exact⟨_,rfl,⟨Qe h0 hb.size,qa,qb,qc,qd,M,mc,rfl,h1.new (Ph h0) (Qd _ _),h2.low Yn (Ph h0)⟩,.inl hb⟩
  simp only[Qc,Zb,Zc,Zd,Rb.envAdd];intro x27;refine Rk.wpAs_act rfl rfl ?_ ?_
  ·intro W hC _ hE
   have hx:Hid (PhL V nu er S' up x27 W):=Za (hE.1 _ rfl rfl);clear hE
   go_simp
   exact⟨hx.out,.inl (Qd _ _)⟩
  simp only[Qc,Zb,Zc,Zd,Rb.envAdd];intro x18;refine Rk.wpAs_act rfl rfl ?_ ?_
  ·intro W hC _ hE
   obtain⟨h0,qa,qb,qc,qd,M,mc,rfl,h1,h2⟩:=hE.1 _ rfl rfl;clear hE;have H1:=Za h1;have H0:=Za h0;clear h1 h2 h0
   go_simp
   exact⟨⟨H0.out,qa,qb,qc,qd,rfl,H1.out⟩,.inl (Qd _ _)⟩
  simp only[Qc,Zb,Zc,Zd,Rb.envAdd];intro x28;refine Rk.wpAs_act rfl rfl ?_ ?_
  ·intro W hC _ hE
   obtain⟨h0,qa,qb,qc,qd,M,mc,rfl,h1,h2⟩:=hE.2.1 _ rfl rfl;clear hE;have H2:=Za h2;have H0:=Za h0;clear h1 h2 h0
   go_simp
   exact⟨⟨H0.out,M,mc,rfl,H2.out⟩,.inl (Qd _ _)⟩
  simp only[Qc,Zb,Zc,Zd,Rb.envAdd];intro x29;refine Rk.wpAs_fixed rfl rfl rfl ?_ ?_
  ·intro W hC hE
   obtain⟨h0,qa,qb,qc,qd,M,mc,rfl,h1,h2⟩:=hE.2.2.1 _ rfl rfl;clear hE h0 h1 h2
   go_simp
   exact⟨rfl,.inl (Qd _ _)⟩
  simp only[Qc,Zb,Zc,Zd]
  repeat (first
   | (refine Rk.wpAs_skip rfl ?_;simp only[Qc,Zb,Zc,Zd])
   | (refine Rk.wpAs_pure (v := ?_) rfl rfl ?_ ?_;rotate_left;(intro W hC hE;clear hE;skip;clear hC;go_simp;first | done | with_reducible rfl);simp only[Qc,Zb,Zc,Zd]))
  refine Rk.wpAs_end fun W hC hE=> ?_
  obtain⟨⟨h0,M,mc,rfl,hrow⟩,⟨_,va,vb,vc,vd,rfl,hS⟩,_⟩:=hE;have hWs:=hC.size;have keep:∀ k,w.heap.size<=k->k<V.heap.size->W.heap[k]? = V.heap[k]? := fun k h1 h2=>hgV'.out W hC k h2 (fun e=>by have:=hrbw'.out k e;omega)
  have c3:=HB3.out W hC;have c9:=HB9.out W hC;have c8:Xu w4.heap.size #[.int .i64 0] 36 W:=(keep _ (by have:=SZ.out;omega) (Qa.1 hb8.out).1).trans hb8.out;have c6:Xu w2.heap.size #[.slice none 0 0,.slice none 0 0,.slice none 0 0,.slice none 0 0] 29 W:=(keep _ (by have:=SZ.out;omega) (Qa.1 hb6.out).1).trans hb6.out;have c7:Xu w3.heap.size #[.int .i64 0] 3 W:=(keep _ (by have:=SZ.out;omega) (Qa.1 hb7.out).1).trans hb7.out;obtain⟨W1,hW1,d3,gr1,gs1⟩:=Zt (a':=.slice va.1 va.2.1 va.2.2) (b':=.slice vb.1 vb.2.1 vb.2.2) (c':=.slice vc.1 vc.2.1 vc.2.2) (d':=.slice vd.1 vd.2.1 vd.2.2) c3;have c91:Xu w6.heap.size _ 57 W1:=(gr1.block _ (Qa.1 c9).1 (fun e=>by have:=Option.some.inj e;have:=SZ.out;omega)).trans c9;obtain⟨W2,hW2,d9,gr2,gs2⟩:=U1 (u:=.slice M nu mc) c91;have c82:Xu w4.heap.size #[.int .i64 0] 36 W2:=(gr2.block _ (by rw[gs1];exact(Qa.1 c8).1) (fun e=>by have:=Option.some.inj e;have:=SZ.out;omega)).trans ((gr1.block _ (Qa.1 c8).1 (fun e=>by have:=Option.some.inj e;have:=SZ.out;omega)).trans c8);obtain⟨W3,hW3,d8,gr3,gs3⟩:=U1 (u:=.int .i64 er) c82;obtain⟨m0,m1,m2,m3,mf,_⟩:=Ze c3;obtain⟨n0,nf,_⟩:=Zx c91;obtain⟨y0,yf,_⟩:=Zx c82;obtain⟨y3,_,_⟩:=Zx d8;have all3:∀ k,k<W.heap.size->k≠w.heap.size->k≠w6.heap.size->k≠w4.heap.size->W3.heap[k]? = W.heap[k]? := fun k h1 h2 h3 h4 =>
   (gr3.block k (by omega) (fun e=>h4 (Option.some.inj e))).trans ((gr2.block k (by omega) (fun e=>h3 (Option.some.inj e))).trans (gr1.block k h1 (fun e=>h2 (Option.some.inj e))))
  have hs3':W3.heap.size=W.heap.size:=by omega
  have kpt:Hid (Zcq (fun k=>k=w.heap.size\/k=w2.heap.size\/k=w3.heap.size\/k=w4.heap.size\/k=w6.heap.size\/∃ q∈l,q.A.map (·.block)=some k) none none V W3):=Za ((((Zcq.refl _ _ _).grown hC fun r e=>.inr (.inr (.inr (.inr (.inr (.inr ⟨q,hqm.out,by rw[hrbe.out,e]⟩)))))).grown gr1 fun r e=>by cases e;exact .inr (.inl rfl)).grown gr2 (fun r e=>by cases e;exact .inr (.inr (.inr (.inr (.inr (.inl rfl)))))) |>.grown gr3 fun r e=>by cases e;exact .inr (.inr (.inr (.inr (.inl rfl)))));have hrlo:∀ r,rb=some r->lo<=r:=fun r e=>by have:=hrb'.out r e;omega
  have hb3:Hid (Qac lo w W3/\w8.heap.size<=W3.heap.size):=Za ⟨(((hIb'.out.grown hC (by have:=hIs'.out;have:=SZ.out;omega) hrlo).grown gr1 (by have:=hIs'.out;have:=SZ.out;omega) (fun k e=>by cases e;omega)).grown gr2 (by have:=hIs'.out;have:=SZ.out;omega) (fun k e=>by cases e;have:=SZ.out;omega)).grown gr3 (by have:=hIs'.out;have:=SZ.out;omega) (fun k e=>by cases e;have:=SZ.out;omega),by have:=hIs'.out;omega⟩;have z6:Hid (Xu w2.heap.size #[.slice none 0 0,.slice none 0 0,.slice none 0 0,.slice none 0 0] 29 W3):=Za ((all3 _ (Qa.1 c6).1 (by have:=SZ.out;omega) (by have:=SZ.out;omega) (by have:=SZ.out;omega)).trans c6);have z7:Hid (Xu w3.heap.size #[.int .i64 0] 3 W3):=Za ((all3 _ (Qa.1 c7).1 (by have:=SZ.out;omega) (by have:=SZ.out;omega) (by have:=SZ.out;omega)).trans c7);have z8:Hid (Xu w4.heap.size #[.int .i64 er] 36 W3):=Za d8;have z3:Hid (Xu w.heap.size #[.slice va.1 va.2.1 va.2.2,.slice vb.1 vb.2.1 vb.2.2,.slice vc.1 vc.2.1 vc.2.2,.slice vd.1 vd.2.1 vd.2.2] 29 W3):=Za ((gr3.block _ (by have:=SZ.out;have:=hIs'.out;omega) (fun e=>by have:=Option.some.inj e;have:=SZ.out;omega)).trans ((gr2.block _ (by have:=SZ.out;have:=hIs'.out;omega) (fun e=>by have:=Option.some.inj e;have:=SZ.out;omega)).trans d3));have z9:Hid (Xu w6.heap.size #[.slice M nu mc] 57 W3):=Za ((gr3.block _ (by have:=SZ.out;have:=hIs'.out;omega) (fun e=>by have:=Option.some.inj e;have:=SZ.out;omega)).trans d9);have big:∀ k,V.heap.size<=k->k<W.heap.size->W3.heap[k]? = W.heap[k]? := fun k h1 h2=>all3 k h2 (by have:=hIs'.out;have:=SZ.out;omega) (by have:=hIs'.out;have:=SZ.out;omega) (by have:=hIs'.out;have:=SZ.out;omega)
  have hS3:Hid (Sto (Out l0 w8.heap.size W3) W3 (.agg #[.slice va.1 va.2.1 va.2.2,.slice vb.1 vb.2.1 vb.2.2,.slice vc.1 vc.2.1 vc.2.2,.slice vd.1 vd.2.1 vd.2.2]) S'):=Za (hS.map fun p v hp hc=>⟨⟨.inr (by have:=hIs'.out;have:=hp.1;omega),by have:=hp.2.1;omega⟩,(Qf (big _ hp.1 hp.2.1)).trans hc⟩);have hF3:Hid (0<nu->nu<=2->∃ fb',M=some ⟨fb',0,none⟩/\FrB l0 w.heap.size w8.heap.size W3 fb' nu mc up):=Za fun h1 h2=>by
   obtain⟨zs,e1,e2,e3⟩:=Zdh hrow;rw[hnu.out] at e2;obtain⟨ad',rfl⟩:∃ ad',M=some ad':=by
    obtain⟨_,_,e,_,_,_,h5⟩:=Yo e2;cases e;exact h5 h1
   obtain⟨b,C,rfl,hb1,hb2,hg1,hn1,hn2,hn3,hn4⟩:=Xj e2;refine⟨b,rfl,hnu.out,h1,h2,by have:=hIs'.out;have:=SZ.out;omega,zs,e1,V8 (by have:=hIs'.out;have:=SZ.out;omega) ((big b hb1 hb2).trans hg1) hn1 hn2 hn3 hn4,fun p hp=>⟨(e3 p hp).1,Zf _ _ _ _ _ _ (fun a v ha hc=>⟨⟨.inr (by have:=hIs'.out;have:=ha.1.1;omega),by have:=ha.1.2.1;omega⟩,(Qf (big _ ha.1.1 ha.1.2.1)).trans hc⟩) (e3 p hp).2⟩⟩
  have hR3:Hid (∀ q'∈l.take (l.length-(pre'++[x']).length),Zfa W3 q'):=Za fun q' hq'=>by
   obtain⟨h1,h2⟩:=hidx.out q' hq';refine(hqr.out q' h2).same fun k h3 h4=> ?_;have h5:=(hR.out.ok q' (Qn h2)).2.2.1;rw[all3 k (by have:=SZ.out;have:=hIs'.out;omega) (by omega) (by have:=SZ.out;omega) (by have:=SZ.out;omega)];exact hgV'.out W hC k (by have:=SZ.out;have:=hIs'.out;omega) (fun e=>by have:=hrb'.out k e;omega)
  have hgA:Hid (Xa l.reverse s [x]=if er=0 then Xa (l.reverse.drop (pre'++[x']).length) S' up else (er,Zn,[])):=Za (by rw[hpl.out,hgr.out,hst.out]);replace all3:=Za all3;replace hs3':=Za hs3';replace d3:=Za d3;replace d8:=Za d8;replace d9:=Za d9;replace gr1:=Za gr1;replace gr2:=Za gr2;replace gr3:=Za gr3;replace hWs:=Za hWs;replace gs1:=Za gs1;replace gs2:=Za gs2;replace gs3:=Za gs3;clear keep c3 c9 c8 c6 c7 c91 c82 big hrow hS h0 hrlo hC
  go_wp2_with fail
  simp only[Z1d];by_cases he0:er=0
  ·have hgo:Hid (Xa l.reverse s [x]=Xa (l.reverse.drop (pre'++[x']).length) S' up):=Za (by rw[hgA.out,if_pos he0])
   obtain⟨hu1,hu2⟩:=hsm.out he0;obtain⟨fb',rfl,hfr'⟩:=hF3.out hu1 hu2;have hfin:Hid (GrI l0 lo w.heap.size w8.heap.size w.heap.size w2.heap.size w3.heap.size w4.heap.size w6.heap.size w s x l (pre'++[x'],none) W3):=Za ⟨rfl,hb3.out,⟨z6.out,z7.out,by have:=z8.out;rwa [he0] at this⟩,S',up,va,vb,vc,vd,fb',nu,mc,hgo.out,z3.out,hS3.out,z9.out,hfr',hR3.out⟩;subst he0;clear hfr'
   gi_wp2_with fail
   exact⟨none,kpt.out.wide fun k _ h=>by simpa using h,hfin.out⟩
  ·have t0:(er != 0)=true:=by simpa using he0
   have hgo:Hid (Xa l.reverse s [x]=(er,Zn,[])):=Za (by rw[hgA.out,if_neg he0]);replace he0:=Za he0;have e6:=z6.out;have e7:=z7.out;have e8:=z8.out;obtain⟨m0,m1,m2,m3,mf,_⟩:=Ze e6;obtain⟨n0,nf,_⟩:=Zx e7;obtain⟨y0,yf,_⟩:=Zx e8
   have S6:=Za (show ∀ W:Px,W=W3.drew->(((W.setCell ⟨w2.heap.size,0,none⟩ (.slice none 0 0)).setCell ⟨w2.heap.size,1,none⟩ (.slice none 0 0)).setCell ⟨w2.heap.size,2,none⟩ (.slice none 0 0)).setCell ⟨w2.heap.size,3,none⟩ (.slice none 0 0)=W from fun W e=>by
    subst e
    rw[Yb (W:=W3.drew) e6 rfl,Yb (W:=W3.drew) e6 rfl,Yb (W:=W3.drew) e6 rfl,Yb (W:=W3.drew) e6 rfl])
   have S7:=Za (show ∀ W:Px,W=W3.drew->W.setCell ⟨w3.heap.size,0,none⟩ (.int .i64 0)=W from fun W e=>by subst e;exact Yb (W:=W3.drew) e7 rfl);have S8:=Za (show ∀ W:Px,W=W3.drew->W.setCell ⟨w4.heap.size,0,none⟩ (.int .i64 er)=W from fun W e=>by subst e;exact Yb (W:=W3.drew) e8 rfl);have hfin:Hid (GrX lo w8.heap.size w2.heap.size w3.heap.size w4.heap.size w s x l .ret (pre'++[x'],none) W3.drew):=Za ⟨rfl,rfl,⟨hb3.out.1.drew,hb3.out.2⟩,er,e6,e7,e8,hgo.out,he0.out⟩;have kp3:Hid (Zcq (fun k=>k=w.heap.size\/k=w2.heap.size\/k=w3.heap.size\/k=w4.heap.size\/k=w6.heap.size\/∃ q∈l,q.A.map (·.block)=some k) none none V W3.drew):=Za ⟨kpt.out.size,kpt.out.same⟩;clear e6 e7 e8
   gi_wp2_with fail
   refine Zii ?_;clear m0 m1 m2 m3 mf n0 nf y0 yf
   refine Zay ⟨fun W W'=>W'=W,2,fun _=>True⟩ (ops' := ?opsLate6) (by kernel_rfl) [] ?he6 (by kernel_rfl) (by kernel_rfl) (fun _ _ _ _ _ h=>h) (fun⟨_,_,h⟩=>h) 5 (fun W=>W=W3.drew) (fun _=>none) (fun i=>match i with
    | 2=>some Qaa
    | 3=>some Qaa
    | 4=>some Qaa
    | _=>none) ?h61 ?h62 ?h63 trivial ?hon6 rfl (fun _ _ h e=>e.trans h) (fun _ _ _ _ _ hp=>by cases hp) ?_
   case he6 =>
    simp[Z7];rfl
   case h61=>decide
   case h62=>kernel_rfl
   case h63=>kernel_rfl
   case hon6=>kernel_rfl
   simp only[Pp,Pq,Pr,Q3]
   repeat (first
    | (refine Rk.wpAs_skip rfl ?_;simp only[Qc,Zb,Zc,Zd])
    | (refine Rk.wpAs_pure (v := ?_) rfl rfl ?_ ?_;rotate_left;(intro W hC hE;clear hE;(have hC':=hC;subst hC';obtain⟨y0,yf,_⟩:=Zx z8.out);clear hC;go_simp;first | done | with_reducible rfl);simp only[Qc,Zb,Zc,Zd]))
   refine Rk.wpAs_fixed rfl rfl rfl ?_ ?_
   ·intro W hC hE
    clear hE;have hh:=Za (S6.out W hC);have e6:Xu w2.heap.size #[.slice none 0 0,.slice none 0 0,.slice none 0 0,.slice none 0 0] 29 W:=by rw[hC];exact z6.out
    obtain⟨m0,m1,m2,m3,mf,_⟩:=Ze e6;clear hC e6
    go_simp
    first | exact⟨rfl,hh.out⟩ | exact hh.out
   simp only[Qc];refine Rk.wpAs_fixed rfl rfl rfl ?_ ?_
   ·intro W hC hE
    clear hE;have hh:=Za (S7.out W hC);have e6:Xu w3.heap.size #[.int .i64 0] 3 W:=by rw[hC];exact z7.out
    obtain⟨m0,mf,_⟩:=Zx e6;clear hC e6
    go_simp
    first | exact⟨rfl,hh.out⟩ | exact hh.out
   simp only[Qc];refine Rk.wpAs_fixed rfl rfl rfl ?_ ?_
   ·intro W hC hE
    clear hE;have hh:=Za (S8.out W hC);have e6:Xu w4.heap.size #[.int .i64 er] 36 W:=by rw[hC];exact z8.out
    obtain⟨m0,mf,_⟩:=Zx e6;clear hC e6
    go_simp
    first | exact⟨rfl,hh.out⟩ | exact hh.out
   simp only[Qc];refine Rk.wpAs_end fun W hC hE=> ?_
   subst hC
   go_wp2_with fail
   simp only[Z1d]
   gi_wp2_with fail
   exact⟨none,kp3.out.wide fun k _ h=>by simpa using h,hfin.out⟩
 case done =>
  rintro xs q' V hVs rfl ⟨_,⟨hIb,hIs⟩,⟨hB6,hB7,hB8⟩,sk,F,pa,pb,pc,pd,fb,mf,fc,hgr,hB3,hSto,hB9,hFr,_⟩ hDV hqV
  have hgA:Hid (Xa l.reverse s [x]=(0,sk,F)):=Za (by
   rw[hgr,Xo,Qp (by rw[Pg,hl.out];exact Qb _)]
   rfl)
  have hmf:=hFr.pos;have hm2:=hFr.few;have hFl:=hFr.len;have hD1:=Za hDV;have hIts:Zar (Old V) V [.slice (some ⟨fb,0,none⟩) mf fc] F:=by
   obtain⟨zs,e1,e2,e3⟩:=hFr.row;have:=Znv e2 (fun p hp=>⟨(e3 p hp).1,Zf _ _ _ _ _ _ (fun a v ha hc=>⟨ha.2,hc⟩) (e3 p hp).2⟩)
   rwa [e1] at this
  have hSV:Sto (Old V) V (.agg #[.slice pa.1 pa.2.1 pa.2.2,.slice pb.1 pb.2.1 pb.2.2,.slice pc.1 pc.2.1 pc.2.2,.slice pd.1 pd.2.1 pd.2.2]) sk:=hSto.map fun p v hp hc=>⟨hp.2,hc⟩
  obtain⟨k0,k1,k2,k3,kf,_⟩:=Ze hB3;obtain⟨n0,nf,_⟩:=Zx hB9;obtain⟨y0,yf,_⟩:=Zx hB8;replace hgA:=hgA;have hidx:∃ x0 r0,F=x0::r0:=by
   cases F with
   | nil=>simp at hFl;omega
   | cons a b=>exact⟨a,b,rfl⟩
  obtain⟨x0,r0,hF0⟩:=hidx;obtain⟨ad0,E0,ce0,e0,_,⟨_,_,_,z3,_⟩,_⟩:=Zdu hIts (show F[0]? = some x0 by rw[hF0];rfl);cases e0;have hnow:Zqg F=x0.2.1:=by rw[hF0];rfl
  have z3':V.cell? ⟨fb,3,none⟩=some (.int .i64 x0.2.1):=by simpa [Addr.add] using z3
  have hfbh:=hFr.at_;have g6:=Za hB6;have g7:=Za hB7;by_cases h1:mf=1
  ·subst h1
   obtain⟨ref,href⟩:∃ r,x0.2.1=r:=⟨_,rfl⟩
   have hcell:=Za (href ▸ z3');obtain⟨S9,hSk⟩:∃ S,sk=S:=⟨_,rfl⟩
   have hO:Hid (Y5 s l x=(0,S9,ref)):=Za (by unfold Y5;rw[hgA.out,if_pos rfl,if_neg (by rw[hFl];decide),hnow,href,hSk]);have g3:=Za hB3;have g9:=Za hB9;have g8:=Za hB8;have hD9:=hD1;have hB9':=Za hIb;have hS9:=Za (hSk ▸ hSto)
   have hfbn:Hid (fb≠w2.heap.size/\fb≠w3.heap.size):=Za (by
    have hne:∀ (k:Nat) (cs:Array Py) (t:P5),t≠79->V.heap[k]? = some (.cells cs t (0,0))->fb≠k:=fun k cs t ht hk e=>by
     subst e;obtain⟨zs,_,e2,_⟩:=hFr.row;obtain⟨b,C,eb,_,_,hgg,_⟩:=Xj e2;cases eb;rw[hk] at hgg;simp at hgg;exact ht hgg.2
    exact⟨hne _ _ _ (by decide) hB6,hne _ _ _ (by decide) hB7⟩)
   replace hSk:=Za hSk;replace href:=Za href;replace hnow:=Za hnow;replace hF0:=Za hF0;replace hFl:=Za hFl;clear hgr z3 z3' hIts hSV hSto hFr hB3 hB9 hB8 hB6 hB7 hDV hqV hIb hmf hm2
   gi_wp2_with fail
   clear k0 k1 k2 k3 kf n0 nf y0 yf;obtain⟨o6,ho6⟩:∃ o:Obj,o=.cells #[.slice pa.1 pa.2.1 pa.2.2,.slice pb.1 pb.2.1 pb.2.2,.slice pc.1 pc.2.1 pc.2.2,.slice pd.1 pd.2.1 pd.2.2] 29 (0,0):=⟨_,rfl⟩
   obtain⟨o7,ho7⟩:∃ o:Obj,o=.cells #[.int .i64 ref] 3 (0,0):=⟨_,rfl⟩
   obtain⟨fin,hfn⟩:∃ fin,fin=Ze6 w2.heap.size o6 w3.heap.size o7:=⟨_,rfl⟩
   have fn6:fin w2.heap.size=some o6:=by rw[hfn];exact Zeu _ _ _ _
   have fn7:fin w3.heap.size=some o7:=by rw[hfn];exact Zeq (by have:=SZ.out;omega) _ _
   have fnn:∀ k,k≠w2.heap.size->k≠w3.heap.size->fin k=none:=fun k h1 h2=>by rw[hfn];exact Zc8 h1 h2 _ _
   have K3:=Za (fun W (hW:Yf fin V.drew W)=>(hW.other (fnn w.heap.size (by have:=SZ.out;omega) (by have:=SZ.out;omega)) (show V.drew.heap[w.heap.size]? = _ from g3.out):Xu w.heap.size #[.slice pa.1 pa.2.1 pa.2.2,.slice pb.1 pb.2.1 pb.2.2,.slice pc.1 pc.2.1 pc.2.2,.slice pd.1 pd.2.1 pd.2.2] 29 W));have K9:=Za (fun W (hW:Yf fin V.drew W)=>(hW.other (fnn w6.heap.size (by have:=SZ.out;omega) (by have:=SZ.out;omega)) (show V.drew.heap[w6.heap.size]? = _ from g9.out):Xu w6.heap.size #[.slice (some ⟨fb,0,none⟩) 1 fc] 57 W));have K8:=Za (fun W (hW:Yf fin V.drew W)=>(hW.other (fnn w4.heap.size (by have:=SZ.out;omega) (by have:=SZ.out;omega)) (show V.drew.heap[w4.heap.size]? = _ from g8.out):Xu w4.heap.size #[.int .i64 0] 36 W));have KD:=Za (fun W (hW:Yf fin V.drew W)=>(hW.other (fnn w8.heap.size (by have:=SZ.out;omega) (by have:=SZ.out;omega)) (show V.drew.heap[w8.heap.size]? = _ from hD9.out):W.heap[w8.heap.size]? = some (.deferred (some []))));have KF:Hid (∀ W,Yf fin V.drew W->W.cell? ⟨fb,3,none⟩=some (.int .i64 ref)):=Za fun W hW=>by
    have hc:=hcell.out;unfold Q5 at hc;split at hc
    ·rename_i cs ty fz hb
     have:=hW.other (fnn fb hfbn.out.1 hfbn.out.2) (show V.drew.heap[fb]? = _ from hb);unfold Q5;simp only[this];exact hc
    ·cases hc
   have K6:Hid (∀ W,Yf fin V.drew W->∃ a b c d,W.heap[w2.heap.size]? = some (.cells #[a,b,c,d] 29 (0,0))):=Za fun W hW=>by
    rcases hW.box fn6 (show V.drew.heap[w2.heap.size]? = _ from g6.out) with e | e
    ·exact⟨_,_,_,_,e⟩
    ·rw[ho6] at e;exact⟨_,_,_,_,e⟩
   have K7:Hid (∀ W,Yf fin V.drew W->∃ a,W.heap[w3.heap.size]? = some (.cells #[a] 3 (0,0))):=Za fun W hW=>by
    rcases hW.box fn7 (show V.drew.heap[w3.heap.size]? = _ from g7.out) with e | e
    ·exact⟨_,e⟩
    ·rw[ho7] at e;exact⟨_,e⟩
   have KB:=Za (fun W (hW:Yf fin V.drew W)=>(⟨hW.os.trans hB9'.out.os,hW.tape.trans hB9'.out.tape,hW.output.trans hB9'.out.output,Qi hB9'.out.size hW.size,fun k hk=>by
    rcases hW.block k (by have:=hB9'.out.size;show k<V.heap.size;omega) with e | ⟨o,e,_⟩
    ·exact e.trans (hB9'.out.block k hk)
    ·rw[fnn k (by have:=SZ.out;omega) (by have:=SZ.out;omega)] at e
     cases e⟩:Qac lo w W))
   have KS:=Za (fun W (hW:Yf fin V.drew W)=>(hS9.out.map fun p v hp hc=>(show Out l0 w8.heap.size W p/\W.cell? p=some v from by
    rcases hW.block p.block hp.2 with e | ⟨o,e,_⟩
    ·exact⟨⟨hp.1,Qe hp.2 hW.size⟩,(Qf (w:=V) e).trans hc⟩
    ·rw[fnn p.block (by have:=SZ.out;rcases hp.1 with h | h <;> omega) (by have:=SZ.out;rcases hp.1 with h | h <;> omega)] at e
     cases e):Sto (Out l0 w8.heap.size W) W (.agg #[.slice pa.1 pa.2.1 pa.2.2,.slice pb.1 pb.2.1 pb.2.2,.slice pc.1 pc.2.1 pc.2.2,.slice pd.1 pd.2.1 pd.2.2]) S9))
   replace fnn:=Za fnn;replace fn6:=Za fn6;replace fn7:=Za fn7;replace ho6:=Za ho6;replace ho7:=Za ho7;replace hfn:=Za hfn;refine wpIn_wide.2 ?_
   refine Rb.wp_region_fx (Yf fin) (by kernel_rfl) (fun W=>Yf fin V.drew W) (fun i=>match i with
    | 5=>some (fun _ W=>W.heap[w2.heap.size]? = some o6)
    | 6=>some (fun _ W=>W.heap[w3.heap.size]? = some o7)
    | _=>none) (fun i=>match i with
    | 7=>some Qaa
    | _=>none) (by kernel_rfl) (Yf.refl _ _) (fun w w' h hb=>h.trans hb) ?tsta ?_
   case tsta =>
    intro j φ x W W' hp hx hb
    match j,hp with
    | 5,hp=>cases hp;exact hb.done fn6.out hx
    | 6,hp=>cases hp;exact hb.done fn7.out hx
   repeat (first
    | (refine Rb.wpAs_skip rfl ?_;simp only[Qc,Zb,Zc,Zd])
    | (refine Rb.wpAs_pure (v := ?_) rfl rfl ?_ ?_;rotate_left;(intro W hC hE;clear hE;(obtain⟨k0,k1,k2,k3,_⟩:=Ze (K3.out W hC);obtain⟨n0,_⟩:=Zx (K9.out W hC);have cf:=KF.out W hC);clear hC;go_simp;first | done | with_reducible rfl);simp only[Qc,Zb,Zc,Zd]))
   refine Rb.wpAs_act rfl rfl ?_ ?_
   ·intro W hC hE
    clear hE;obtain⟨a,b,c,d,G⟩:=K6.out W hC;obtain⟨q0,q1,q2,q3,qf,_⟩:=Ze G;obtain⟨W1,hW1,e1,gr1,_⟩:=Zt (a':=.slice pa.1 pa.2.1 pa.2.2) (b':=.slice pb.1 pb.2.1 pb.2.2) (c':=.slice pc.1 pc.2.1 pc.2.2) (d':=.slice pd.1 pd.2.1 pd.2.2) G;rw[<- ho6.out] at e1;have hk:=Za (Yf.of_grown gr1 fn6.out e1);replace e1:=Za e1;clear gr1 G hC
    go_simp
    exact⟨e1.out,hk.out⟩
   simp only[Qc,Rb.envAdd];intro _;refine Rb.wpAs_act rfl rfl ?_ ?_
   ·intro W hC hE
    clear hE;obtain⟨a,G⟩:=K7.out W hC;obtain⟨q0,qf,_⟩:=Zx G;obtain⟨W1,hW1,e1,gr1,_⟩:=U1 (u:=.int .i64 ref) G;rw[<- ho7.out] at e1;have hk:=Za (Yf.of_grown gr1 fn7.out e1);replace e1:=Za e1;clear gr1 G hC
    go_simp
    exact⟨e1.out,hk.out⟩
   simp only[Qc,Rb.envAdd];intro _;refine Rb.wpAs_fixed rfl rfl rfl ?_ ?_
   ·intro W hC hE
    clear hE;have G:=K8.out W hC;obtain⟨q0,qf,_⟩:=Zx G;have hs:=Za (Yb (i:=0) (v:=.int .i64 0) G rfl);clear G hC
    go_simp
    rw[hs.out];exact⟨rfl,Yf.refl _ _⟩
   simp only[Qc];refine Rb.wpAs_end fun W hC hE=> ?_
   have e7:=hE.1;have e6:=hE.2.1;rw[ho7.out] at e7;rw[ho6.out] at e6;have hD5:=Za (KD.out W hC);have e8:=Za (K8.out W hC);have hBe:=Za (KB.out W hC);have hSe:=Za (KS.out W hC);replace e6:=Za e6;replace e7:=Za e7;have hWs:=Za (show V.heap.size<=W.heap.size from hC.size);clear hE hC;simp only[Exit.then]
   gi_wp2_with fail
   refine⟨by simp,.inl ⟨_,_,rfl,run_takeDeferred hD5.out,?_⟩⟩;have hgp:=grownBy_putObj' W w8.heap.size (.deferred none);have hnp:∀ r,some w8.heap.size=some r->∃ o:Obj,W.heap[r]? = some o/\o.isCells=false:=fun r e=>by cases e;exact⟨_,hD5.out,rfl⟩
   obtain⟨m0,m1,m2,m3,_⟩:=Ze (Zs e6.out hgp hnp);obtain⟨n0,_⟩:=Zx (Zs e7.out hgp hnp);obtain⟨y0,_⟩:=Zx (Zs e8.out hgp hnp);refine⟨.tuple #[.agg #[.slice pa.1 pa.2.1 pa.2.2,.slice pb.1 pb.2.1 pb.2.2,.slice pc.1 pc.2.1 pc.2.2,.slice pd.1 pd.2.1 pd.2.2],.int .i64 ref,.int .i64 0],by simp[results,Tryz.f71,go_sem,m0,m1,m2,m3,n0,y0],pa,pb,pc,pd,by rw[hO.out],by rw[hO.out];exact hSe.out.map fun p v hp hc=>⟨⟨by have:=SZ.out;rcases hp.1 with h | h <;> omega,Qe hp.2 hgp.size⟩,cell_kept hc hgp hnp⟩,hBe.out.grown hgp (by have:=SZ.out;have:=hBe.out.size;omega) (fun k e=>by cases e;have:=SZ.out;omega)⟩
  ·have h2:mf=2:=by omega
   subst h2;have HL:=Za (Zvt pa pb pc pd sk ((m:Nat):Int) ⟨by omega,by omega⟩ (some ⟨fb,0,none⟩) 2 fc F (some ⟨fb,0,none⟩) 2 fc F V hSV hIts hIts hFl (by decide) hFl (by decide));have hsm:=Za (fun h:(Vk sk ((m:Nat):Int) F F).1=0=>Zo5 h);have hO0:Y5 s l x=if (Vk sk ((m:Nat):Int) F F).1=0 then (0,(Vk sk ((m:Nat):Int) F F).2.1,Zqg (Vk sk ((m:Nat):Int) F F).2.2) else ((Vk sk ((m:Nat):Int) F F).1,Zn,0):=by
    unfold Y5;rw[hgA.out,if_pos rfl,if_pos (by rw[hFl];decide),hl.out]
   obtain⟨er,her⟩:∃ e,(Vk sk ((m:Nat):Int) F F).1=e:=⟨_,rfl⟩
   obtain⟨S9,hS'⟩:∃ e,(Vk sk ((m:Nat):Int) F F).2.1=e:=⟨_,rfl⟩
   obtain⟨up,hup⟩:∃ e,(Vk sk ((m:Nat):Int) F F).2.2=e:=⟨_,rfl⟩
   unfold Z37 at HL;rw[her,hS',hup] at hO0 HL;rw[her,hup] at hsm;obtain⟨nu,hnu⟩:∃ e,up.length=e:=⟨_,rfl⟩
   rw[hnu] at HL hsm;have hIb':=Za hIb;have g3:=Za hB3;have g9:=Za hB9;have g8:=Za hB8;replace hO0:=Za hO0;replace her:=Za her;replace hS':=Za hS';replace hup:=Za hup;replace hnu:=Za hnu;replace hnow:=Za hnow;replace hF0:=Za hF0;replace hFl:=Za hFl;have hw1:(1:Int)<((2:Nat):Int):=by decide
   clear hgr z3 z3' hIts hSV hSto hFr hB3 hB9 hB8 hB6 hB7 hDV hqV hIb hmf hm2 h1
   gi_wp2_with fail
   refine⟨trivial,?_⟩
   gi_at_call 117
   refine(callsIn_wide.2 HL.out).mono ?_;rintro e W ⟨va,vb,vc,vd,M,mc,rfl,hS,hrow,hbW⟩;have c3:=(Y0 _ _ _ _ _ g3.out hbW:Xu w.heap.size _ _ W)
   have c9:=(Y0 _ _ _ _ _ g9.out hbW:Xu w6.heap.size _ _ W)
   have c8:=(Y0 _ _ _ _ _ g8.out hbW:Xu w4.heap.size _ _ W)
   have c6:=(Y0 _ _ _ _ _ g6.out hbW:Xu w2.heap.size _ _ W)
   have c7:=(Y0 _ _ _ _ _ g7.out hbW:Xu w3.heap.size _ _ W)
   have cD:=(hbW.block w8.heap.size (Qa.1 hD1.out).1).trans hD1.out;have hWs:=hbW.size;obtain⟨W1,hW1,d3,gr1,gs1⟩:=Zt (a':=.slice va.1 va.2.1 va.2.2) (b':=.slice vb.1 vb.2.1 vb.2.2) (c':=.slice vc.1 vc.2.1 vc.2.2) (d':=.slice vd.1 vd.2.1 vd.2.2) c3;have c91:Xu w6.heap.size _ 57 W1:=(gr1.block _ (Qa.1 c9).1 (fun e=>by have:=Option.some.inj e;have:=SZ.out;omega)).trans c9;obtain⟨W2,hW2,d9,gr2,gs2⟩:=U1 (u:=.slice M nu mc) c91;have c82:Xu w4.heap.size #[.int .i64 0] 36 W2:=(gr2.block _ (by rw[gs1];exact(Qa.1 c8).1) (fun e=>by have:=Option.some.inj e;have:=SZ.out;omega)).trans ((gr1.block _ (Qa.1 c8).1 (fun e=>by have:=Option.some.inj e;have:=SZ.out;omega)).trans c8);obtain⟨W3,hW3,d8,gr3,gs3⟩:=U1 (u:=.int .i64 er) c82;obtain⟨m0,m1,m2,m3,mf9,_⟩:=Ze c3;obtain⟨n0',nf',_⟩:=Zx c91;obtain⟨y0',yf',_⟩:=Zx c82;obtain⟨y3,_,_⟩:=Zx d8;have all3:∀ k,k<W.heap.size->k≠w.heap.size->k≠w6.heap.size->k≠w4.heap.size->W3.heap[k]? = W.heap[k]? := fun k h1 h2 h3 h4 =>
    (gr3.block k (by omega) (fun e=>h4 (Option.some.inj e))).trans ((gr2.block k (by omega) (fun e=>h3 (Option.some.inj e))).trans (gr1.block k h1 (fun e=>h2 (Option.some.inj e))))
   have hs3':W3.heap.size=W.heap.size:=by omega
   have big:∀ k,V.heap.size<=k->k<W.heap.size->W3.heap[k]? = W.heap[k]? := fun k h1 h2=>all3 k h2 (by have:=SZ.out;omega) (by have:=SZ.out;omega) (by have:=SZ.out;omega)
   have hB9':Hid (Qac lo w W3):=Za (((((hIb'.out.trans (hbW.mono (by have:=SZ.out;omega))).grown gr1 (by have:=SZ.out;omega) (fun k e=>by cases e;omega)).grown gr2 (by have:=SZ.out;omega) (fun k e=>by cases e;have:=SZ.out;omega)).grown gr3 (by have:=SZ.out;omega) (fun k e=>by cases e;have:=SZ.out;omega)));have z6:Hid (Xu w2.heap.size #[.slice none 0 0,.slice none 0 0,.slice none 0 0,.slice none 0 0] 29 W3):=Za ((all3 _ (Qa.1 c6).1 (by have:=SZ.out;omega) (by have:=SZ.out;omega) (by have:=SZ.out;omega)).trans c6);have z7:Hid (Xu w3.heap.size #[.int .i64 0] 3 W3):=Za ((all3 _ (Qa.1 c7).1 (by have:=SZ.out;omega) (by have:=SZ.out;omega) (by have:=SZ.out;omega)).trans c7);have z8:Hid (Xu w4.heap.size #[.int .i64 er] 36 W3):=Za d8;have z3:Hid (Xu w.heap.size #[.slice va.1 va.2.1 va.2.2,.slice vb.1 vb.2.1 vb.2.2,.slice vc.1 vc.2.1 vc.2.2,.slice vd.1 vd.2.1 vd.2.2] 29 W3):=Za ((gr3.block _ (by have:=SZ.out;omega) (fun e=>by have:=Option.some.inj e;have:=SZ.out;omega)).trans ((gr2.block _ (by have:=SZ.out;omega) (fun e=>by have:=Option.some.inj e;have:=SZ.out;omega)).trans d3));have z9:Hid (Xu w6.heap.size #[.slice M nu mc] 57 W3):=Za ((gr3.block _ (by have:=SZ.out;omega) (fun e=>by have:=Option.some.inj e;have:=SZ.out;omega)).trans d9);have zD:Hid (W3.heap[w8.heap.size]? = some (.deferred (some []))):=Za ((all3 _ (Qa.1 cD).1 (by have:=SZ.out;omega) (by have:=SZ.out;omega) (by have:=SZ.out;omega)).trans cD);have hS9:Hid (Sto (Out l0 w8.heap.size W3) W3 (.agg #[.slice va.1 va.2.1 va.2.2,.slice vb.1 vb.2.1 vb.2.2,.slice vc.1 vc.2.1 vc.2.2,.slice vd.1 vd.2.1 vd.2.2]) S9):=Za (hS.map fun p v hp hc=>⟨⟨.inr (by have:=hp.1;omega),by have:=hp.2.1;omega⟩,(Qf (big _ hp.1 hp.2.1)).trans hc⟩);have hcl:Hid (0<nu->∃ fb' x1 r1,M=some ⟨fb',0,none⟩/\V.heap.size<=fb'/\up=x1::r1/\W3.cell? ⟨fb',3,none⟩=some (.int .i64 x1.2.1)):=Za fun hn=>by
    obtain⟨zs,e1,e2,e3⟩:=Zdh hrow;rw[hnu.out] at e2;obtain⟨ad',rfl⟩:∃ ad',M=some ad':=by
     obtain⟨_,_,e,_,_,_,h5⟩:=Yo e2;cases e;exact h5 hn
    obtain⟨b,C,rfl,hb1,hb2,_⟩:=Xj e2;obtain⟨x1,r1,hu⟩:∃ x1 r1,up=x1::r1:=by
     cases up with
     | nil=>have:=hnu.out;simp at this;omega
     | cons a b=>exact⟨a,b,rfl⟩
    refine⟨b,x1,r1,rfl,hb1,hu,?_⟩;have hr2:=hrow.rel Yn;obtain⟨ad2,E2,ce2,e2',_,⟨_,_,_,z3',_⟩,_⟩:=Zdu hr2 (show up[0]? = some x1 by rw[hu];rfl);cases e2';rw[Qf (big _ hb1 hb2)]
    simpa [Addr.add] using z3'
   replace all3:=Za all3;replace hs3':=Za hs3';replace d3:=Za d3;replace d8:=Za d8;replace d9:=Za d9;replace gr1:=Za gr1;replace gr2:=Za gr2;replace gr3:=Za gr3;replace hWs:=Za hWs;replace gs1:=Za gs1;replace gs2:=Za gs2;replace gs3:=Za gs3;clear c3 c9 c8 c6 c7 c91 c82 cD big hrow hS hbW k0 k1 k2 k3 kf n0 nf y0 yf g3 g9 g8 g6 g7;by_cases he0:er=0
   ·subst he0
    obtain⟨hu1,hu2⟩:=hsm.out rfl;obtain⟨fb',x1,r1,rfl,hfb',hu,hc1⟩:=hcl.out hu1;obtain⟨ref,href⟩:∃ r,x1.2.1=r:=⟨_,rfl⟩
    rw[href] at hc1;have hcell:=Za hc1;have hO:Hid (Y5 s l x=(0,S9,ref)):=Za (by rw[hO0.out,if_pos rfl,hu];show (0,S9,x1.2.1)=_;rw[href]);have g3:=z3;have g9:=z9;have g8:=z8;have g6:=z6;have g7:=z7;have hD9:=zD;have hfbn:Hid (fb'≠w2.heap.size/\fb'≠w3.heap.size):=Za ⟨by have:=SZ.out;omega,by have:=SZ.out;omega⟩;have hIs9:=Za (show w8.heap.size<=W3.heap.size from by have:=hs3'.out;have:=hWs.out;omega);replace hu:=Za hu;replace href:=Za href;replace hfb':=Za hfb';have i0:(0:Int)<(nu:Int):=by omega
    clear hc1
    gi_wp2_with fail
    clear m0 m1 m2 m3 mf9 n0' nf' y0' yf' y3;obtain⟨o6,ho6⟩:∃ o:Obj,o=.cells #[.slice va.1 va.2.1 va.2.2,.slice vb.1 vb.2.1 vb.2.2,.slice vc.1 vc.2.1 vc.2.2,.slice vd.1 vd.2.1 vd.2.2] 29 (0,0):=⟨_,rfl⟩
    obtain⟨o7,ho7⟩:∃ o:Obj,o=.cells #[.int .i64 ref] 3 (0,0):=⟨_,rfl⟩
    obtain⟨fin,hfn⟩:∃ fin,fin=Ze6 w2.heap.size o6 w3.heap.size o7:=⟨_,rfl⟩
    have fn6:fin w2.heap.size=some o6:=by rw[hfn];exact Zeu _ _ _ _
    have fn7:fin w3.heap.size=some o7:=by rw[hfn];exact Zeq (by have:=SZ.out;omega) _ _
    have fnn:∀ k,k≠w2.heap.size->k≠w3.heap.size->fin k=none:=fun k h1 h2=>by rw[hfn];exact Zc8 h1 h2 _ _
    have K3:=Za (fun W (hW:Yf fin W3.drew W)=>(hW.other (fnn w.heap.size (by have:=SZ.out;omega) (by have:=SZ.out;omega)) (show W3.drew.heap[w.heap.size]? = _ from g3.out):Xu w.heap.size #[.slice va.1 va.2.1 va.2.2,.slice vb.1 vb.2.1 vb.2.2,.slice vc.1 vc.2.1 vc.2.2,.slice vd.1 vd.2.1 vd.2.2] 29 W));have K9:=Za (fun W (hW:Yf fin W3.drew W)=>(hW.other (fnn w6.heap.size (by have:=SZ.out;omega) (by have:=SZ.out;omega)) (show W3.drew.heap[w6.heap.size]? = _ from g9.out):Xu w6.heap.size #[.slice (some ⟨fb',0,none⟩) nu mc] 57 W));have K8:=Za (fun W (hW:Yf fin W3.drew W)=>(hW.other (fnn w4.heap.size (by have:=SZ.out;omega) (by have:=SZ.out;omega)) (show W3.drew.heap[w4.heap.size]? = _ from g8.out):Xu w4.heap.size #[.int .i64 0] 36 W));have KD:=Za (fun W (hW:Yf fin W3.drew W)=>(hW.other (fnn w8.heap.size (by have:=SZ.out;omega) (by have:=SZ.out;omega)) (show W3.drew.heap[w8.heap.size]? = _ from hD9.out):W.heap[w8.heap.size]? = some (.deferred (some []))));have KF:Hid (∀ W,Yf fin W3.drew W->W.cell? ⟨fb',3,none⟩=some (.int .i64 ref)):=Za fun W hW=>by
     have hc:=hcell.out;unfold Q5 at hc;split at hc
     ·rename_i cs ty fz hb
      have:=hW.other (fnn fb' hfbn.out.1 hfbn.out.2) (show W3.drew.heap[fb']? = _ from hb);unfold Q5;simp only[this];exact hc
     ·cases hc
    have K6:Hid (∀ W,Yf fin W3.drew W->∃ a b c d,W.heap[w2.heap.size]? = some (.cells #[a,b,c,d] 29 (0,0))):=Za fun W hW=>by
     rcases hW.box fn6 (show W3.drew.heap[w2.heap.size]? = _ from g6.out) with e | e
     ·exact⟨_,_,_,_,e⟩
     ·rw[ho6] at e;exact⟨_,_,_,_,e⟩
    have K7:Hid (∀ W,Yf fin W3.drew W->∃ a,W.heap[w3.heap.size]? = some (.cells #[a] 3 (0,0))):=Za fun W hW=>by
     rcases hW.box fn7 (show W3.drew.heap[w3.heap.size]? = _ from g7.out) with e | e
     ·exact⟨_,e⟩
     ·rw[ho7] at e;exact⟨_,e⟩
    have KB:=Za (fun W (hW:Yf fin W3.drew W)=>(⟨hW.os.trans hB9'.out.os,hW.tape.trans hB9'.out.tape,hW.output.trans hB9'.out.output,Qi hB9'.out.size hW.size,fun k hk=>by
     rcases hW.block k (by have:=hB9'.out.size;show k<W3.heap.size;omega) with e | ⟨o,e,_⟩
     ·exact e.trans (hB9'.out.block k hk)
     ·rw[fnn k (by have:=SZ.out;omega) (by have:=SZ.out;omega)] at e
      cases e⟩:Qac lo w W))
    have KS:=Za (fun W (hW:Yf fin W3.drew W)=>(hS9.out.map fun p v hp hc=>(show Out l0 w8.heap.size W p/\W.cell? p=some v from by
     rcases hW.block p.block hp.2 with e | ⟨o,e,_⟩
     ·exact⟨⟨hp.1,Qe hp.2 hW.size⟩,(Qf (w:=W3) e).trans hc⟩
     ·rw[fnn p.block (by have:=SZ.out;rcases hp.1 with h | h <;> omega) (by have:=SZ.out;rcases hp.1 with h | h <;> omega)] at e
      cases e):Sto (Out l0 w8.heap.size W) W (.agg #[.slice va.1 va.2.1 va.2.2,.slice vb.1 vb.2.1 vb.2.2,.slice vc.1 vc.2.1 vc.2.2,.slice vd.1 vd.2.1 vd.2.2]) S9))
    replace fnn:=Za fnn;replace fn6:=Za fn6;replace fn7:=Za fn7;replace ho6:=Za ho6;replace ho7:=Za ho7;replace hfn:=Za hfn;refine wpIn_wide.2 ?_
    refine Rb.wp_region_fx (Yf fin) (by kernel_rfl) (fun W=>Yf fin W3.drew W) (fun i=>match i with
     | 5=>some (fun _ W=>W.heap[w2.heap.size]? = some o6)
     | 6=>some (fun _ W=>W.heap[w3.heap.size]? = some o7)
     | _=>none) (fun i=>match i with
     | 7=>some Qaa
     | _=>none) (by kernel_rfl) (Yf.refl _ _) (fun w w' h hb=>h.trans hb) ?tstb ?_
    case tstb =>
     intro j φ x W W' hp hx hb
     match j,hp with
     | 5,hp=>cases hp;exact hb.done fn6.out hx
     | 6,hp=>cases hp;exact hb.done fn7.out hx
    repeat (first
     | (refine Rb.wpAs_skip rfl ?_;simp only[Qc,Zb,Zc,Zd])
     | (refine Rb.wpAs_pure (v := ?_) rfl rfl ?_ ?_;rotate_left;(intro W hC hE;clear hE;(obtain⟨k0,k1,k2,k3,_⟩:=Ze (K3.out W hC);obtain⟨n0,_⟩:=Zx (K9.out W hC);have cf:=KF.out W hC);clear hC;go_simp;first | done | with_reducible rfl);simp only[Qc,Zb,Zc,Zd]))
    refine Rb.wpAs_act rfl rfl ?_ ?_
    ·intro W hC hE
     clear hE;obtain⟨a,b,c,d,G⟩:=K6.out W hC;obtain⟨q0,q1,q2,q3,qf,_⟩:=Ze G;obtain⟨W1,hW1,e1,gr1,_⟩:=Zt (a':=.slice va.1 va.2.1 va.2.2) (b':=.slice vb.1 vb.2.1 vb.2.2) (c':=.slice vc.1 vc.2.1 vc.2.2) (d':=.slice vd.1 vd.2.1 vd.2.2) G;rw[<- ho6.out] at e1;have hk:=Za (Yf.of_grown gr1 fn6.out e1);replace e1:=Za e1;clear gr1 G hC
     go_simp
     exact⟨e1.out,hk.out⟩
    simp only[Qc,Rb.envAdd];intro _;refine Rb.wpAs_act rfl rfl ?_ ?_
    ·intro W hC hE
     clear hE;obtain⟨a,G⟩:=K7.out W hC;obtain⟨q0,qf,_⟩:=Zx G;obtain⟨W1,hW1,e1,gr1,_⟩:=U1 (u:=.int .i64 ref) G;rw[<- ho7.out] at e1;have hk:=Za (Yf.of_grown gr1 fn7.out e1);replace e1:=Za e1;clear gr1 G hC
     go_simp
     exact⟨e1.out,hk.out⟩
    simp only[Qc,Rb.envAdd];intro _;refine Rb.wpAs_fixed rfl rfl rfl ?_ ?_
    ·intro W hC hE
     clear hE;have G:=K8.out W hC;obtain⟨q0,qf,_⟩:=Zx G;have hs:=Za (Yb (i:=0) (v:=.int .i64 0) G rfl);clear G hC
     go_simp
     rw[hs.out];exact⟨rfl,Yf.refl _ _⟩
    simp only[Qc];refine Rb.wpAs_end fun W hC hE=> ?_
    have e7:=hE.1;have e6:=hE.2.1;rw[ho7.out] at e7;rw[ho6.out] at e6;have hD5:=Za (KD.out W hC);have e8:=Za (K8.out W hC);have hBe:=Za (KB.out W hC);have hSe:=Za (KS.out W hC);replace e6:=Za e6;replace e7:=Za e7;have hWs:=Za (show W3.heap.size<=W.heap.size from hC.size);clear hE hC;simp only[Exit.then]
    gi_wp2_with fail
    refine⟨by simp,.inl ⟨_,_,rfl,run_takeDeferred hD5.out,?_⟩⟩;have hgp:=grownBy_putObj' W w8.heap.size (.deferred none);have hnp:∀ r,some w8.heap.size=some r->∃ o:Obj,W.heap[r]? = some o/\o.isCells=false:=fun r e=>by cases e;exact⟨_,hD5.out,rfl⟩
    obtain⟨m0,m1,m2,m3,_⟩:=Ze (Zs e6.out hgp hnp);obtain⟨n0,_⟩:=Zx (Zs e7.out hgp hnp);obtain⟨y0,_⟩:=Zx (Zs e8.out hgp hnp);refine⟨.tuple #[.agg #[.slice va.1 va.2.1 va.2.2,.slice vb.1 vb.2.1 vb.2.2,.slice vc.1 vc.2.1 vc.2.2,.slice vd.1 vd.2.1 vd.2.2],.int .i64 ref,.int .i64 0],by simp[results,Tryz.f71,go_sem,m0,m1,m2,m3,n0,y0],va,vb,vc,vd,by rw[hO.out],by rw[hO.out];exact hSe.out.map fun p v hp hc=>⟨⟨by have:=SZ.out;rcases hp.1 with h | h <;> omega,Qe hp.2 hgp.size⟩,cell_kept hc hgp hnp⟩,hBe.out.grown hgp (by have:=SZ.out;have:=hBe.out.size;omega) (fun k e=>by cases e;have:=SZ.out;omega)⟩
   ·have t0:(er != 0)=true:=by simpa using he0
    have hO:Hid (Y5 s l x=(er,Zn,0)):=Za (by rw[hO0.out,if_neg he0]);replace he0:=Za he0
    have S6:=Za (show ∀ W:Px,W=W3.drew->(((W.setCell ⟨w2.heap.size,0,none⟩ (.slice none 0 0)).setCell ⟨w2.heap.size,1,none⟩ (.slice none 0 0)).setCell ⟨w2.heap.size,2,none⟩ (.slice none 0 0)).setCell ⟨w2.heap.size,3,none⟩ (.slice none 0 0)=W from fun W e=>by
     subst e;have e6:Xu w2.heap.size #[.slice none 0 0,.slice none 0 0,.slice none 0 0,.slice none 0 0] 29 W3.drew:=z6.out
     rw[Yb (W:=W3.drew) e6 rfl,Yb (W:=W3.drew) e6 rfl,Yb (W:=W3.drew) e6 rfl,Yb (W:=W3.drew) e6 rfl])
    have S7:=Za (show ∀ W:Px,W=W3.drew->W.setCell ⟨w3.heap.size,0,none⟩ (.int .i64 0)=W from fun W e=>by subst e;exact Yb (W:=W3.drew) z7.out rfl);have S8:=Za (show ∀ W:Px,W=W3.drew->W.setCell ⟨w4.heap.size,0,none⟩ (.int .i64 er)=W from fun W e=>by subst e;exact Yb (W:=W3.drew) z8.out rfl)
    gi_wp2_with fail
    clear m0 m1 m2 m3 mf9 n0' nf' y0' yf' y3;refine wpIn_wide.2 ?_
    refine Rb.wp_region_fx (fun W W'=>W'=W) (by kernel_rfl) (fun W=>W=W3.drew) (fun _=>none) (fun i=>match i with
     | 2=>some Qaa
     | 3=>some Qaa
     | 4=>some Qaa
     | _=>none) (by kernel_rfl) rfl (fun _ _ h e=>e.trans h) (fun _ _ _ _ _ hp=>by cases hp) ?_
    repeat (first
     | (refine Rb.wpAs_skip rfl ?_;simp only[Qc,Zb,Zc,Zd])
     | (refine Rb.wpAs_pure (v := ?_) rfl rfl ?_ ?_;rotate_left;(intro W hC hE;clear hE;(have hC':=hC;subst hC';obtain⟨y0,yf,_⟩:=Zx z8.out);clear hC;go_simp;first | done | with_reducible rfl);simp only[Qc,Zb,Zc,Zd]))
    refine Rb.wpAs_fixed rfl rfl rfl ?_ ?_
    ·intro W hC hE
     clear hE;have hh:=Za (S6.out W hC);have e6:Xu w2.heap.size #[.slice none 0 0,.slice none 0 0,.slice none 0 0,.slice none 0 0] 29 W:=by rw[hC];exact z6.out
     obtain⟨m0,m1,m2,m3,mf,_⟩:=Ze e6;clear hC e6
     go_simp
     first | exact⟨rfl,hh.out⟩ | exact hh.out
    simp only[Qc];refine Rb.wpAs_fixed rfl rfl rfl ?_ ?_
    ·intro W hC hE
     clear hE;have hh:=Za (S7.out W hC);have e6:Xu w3.heap.size #[.int .i64 0] 3 W:=by rw[hC];exact z7.out
     obtain⟨m0,mf,_⟩:=Zx e6;clear hC e6
     go_simp
     first | exact⟨rfl,hh.out⟩ | exact hh.out
    simp only[Qc];refine Rb.wpAs_fixed rfl rfl rfl ?_ ?_
    ·intro W hC hE
     clear hE;have hh:=Za (S8.out W hC);have e6:Xu w4.heap.size #[.int .i64 er] 36 W:=by rw[hC];exact z8.out
     obtain⟨m0,mf,_⟩:=Zx e6;clear hC e6
     go_simp
     first | exact⟨rfl,hh.out⟩ | exact hh.out
    simp only[Qc];refine Rb.wpAs_end fun W hC hE=> ?_
    subst hC;clear hE;simp only[Exit.then];have hD5:Hid (W3.drew.heap[w8.heap.size]? = some (.deferred (some []))):=zD
    gi_wp2_with fail
    refine⟨by simp,.inl ⟨_,_,rfl,run_takeDeferred hD5.out,?_⟩⟩;have hgp:=grownBy_putObj' W3.drew w8.heap.size (.deferred none);have hnp:∀ r,some w8.heap.size=some r->∃ o:Obj,W3.drew.heap[r]? = some o/\o.isCells=false:=fun r e=>by cases e;exact⟨_,hD5.out,rfl⟩
    obtain⟨m0,m1,m2,m3,_⟩:=Ze (Zs (show W3.drew.heap[w2.heap.size]? = _ from z6.out) hgp hnp);obtain⟨n0,_⟩:=Zx (Zs (show W3.drew.heap[w3.heap.size]? = _ from z7.out) hgp hnp);obtain⟨y0,_⟩:=Zx (Zs (show W3.drew.heap[w4.heap.size]? = _ from z8.out) hgp hnp);refine⟨.tuple #[.agg #[.slice none 0 0,.slice none 0 0,.slice none 0 0,.slice none 0 0],.int .i64 0,.int .i64 er],by simp[results,Tryz.f71,go_sem,m0,m1,m2,m3,n0,y0],(none,0,0),(none,0,0),(none,0,0),(none,0,0),by rw[hO.out],by rw[hO.out];exact Y1 _ _,hB9'.out.drew.grown hgp (by have:=SZ.out;have:=hB9'.out.size;show lo<=W3.heap.size;omega) (fun k e=>by cases e;have:=SZ.out;omega)⟩
 case stop =>
  rintro c pre' q' V hVs ⟨rfl,_,⟨hIb,hIs⟩,er,hB6,hB7,hB8,hgA,he0⟩ hDV hqV;have hD1:=Za hDV;have z6:=Za hB6;have z7:=Za hB7;have z8:=Za hB8;have hb:=Za hIb;have hO:Hid (Y5 s l x=(er,Zn,0)):=Za (by unfold Y5;rw[hgA,if_neg he0]);clear hB6 hB7 hB8 hgA he0 hDV hqV hIb
  gi_wp2_with fail
  refine⟨by simp,.inl ⟨_,_,rfl,run_takeDeferred hD1.out,?_⟩⟩;have hgp:=grownBy_putObj' V w8.heap.size (.deferred none);have hnp:∀ r,some w8.heap.size=some r->∃ o:Obj,V.heap[r]? = some o/\o.isCells=false:=fun r e=>by cases e;exact⟨_,hD1.out,rfl⟩
  obtain⟨m0,m1,m2,m3,_⟩:=Ze (Zs z6.out hgp hnp);obtain⟨n0,_⟩:=Zx (Zs z7.out hgp hnp);obtain⟨y0,_⟩:=Zx (Zs z8.out hgp hnp);refine⟨.tuple #[.agg #[.slice none 0 0,.slice none 0 0,.slice none 0 0,.slice none 0 0],.int .i64 0,.int .i64 er],by simp[results,Tryz.f71,go_sem,m0,m1,m2,m3,n0,y0],(none,0,0),(none,0,0),(none,0,0),(none,0,0),by rw[hO.out],by rw[hO.out];exact Y1 _ _,hb.out.grown hgp (by have:=SZ.out;omega) (fun k e=>by cases e;have:=SZ.out;omega)⟩}
def Zzq (s:Rm) (k:Ky) (a:Int) (l:List Sv):Prop:=l.length=(rmV s a).1.toNat+1/\∀ i q,l[i]? = some q->q.nd=rmV s (atW s k a i)/\(q.pl,q.inst)=Zfq q.nd k
def Zci (s:Rm) (a:Int) (x:It) (l:List Sv):Int×Rm×Int :=
 if ckE s a≠0 then (ckE s a,Zn,0)
 else if Zhg s x≠0 then (Zhg s x,Zn,0)
 else if (rmV s a).1=5/\Zcb l.reverse 1=true then (120,Zn,0)
 else if (Y5 s l x).1≠0 then ((Y5 s l x).1,Zn,0)
 else if lvE (Y5 s l x).2.1 a≠0 then (lvE (Y5 s l x).2.1 a,Zn,0)
 else (0,lvV (Y5 s l x).2.1 a,(Y5 s l x).2.2)
def Z4l (s:Rm) (a:Int) (x:It) (w:Px) (e:Ending) (w':Px):Prop:=∃ (l:List Sv) (qa qb qc qd:Option Pz×Nat×Nat),(ckE s a=0->Zhg s x=0->Zzq s x.1 a l) /\
 e=.returned (.tuple #[.agg #[.slice qa.1 qa.2.1 qa.2.2,.slice qb.1 qb.2.1 qb.2.2,.slice qc.1 qc.2.1 qc.2.2,.slice qd.1 qd.2.1 qd.2.2],.int .i64 (Zci s a x l).2.2,.int .i64 (Zci s a x l).1]) /\
 Sto (New w.heap.size w') w' (.agg #[.slice qa.1 qa.2.1 qa.2.2,.slice qb.1 qb.2.1 qb.2.2,.slice qc.1 qc.2.1 qc.2.2,.slice qd.1 qd.2.1 qd.2.2]) (Zci s a x l).2.1/\Qac w.heap.size w w'
theorem Zhm.below {lo:Nat}{s:Rm}{k:Ky}{a:Int}{W W':Px}{A:Option Pz}{c:Nat}{l:List Sv}(h:Zhm lo s k a W A c l) (hb:Qac W.heap.size W W'):Zhm lo s k a W' A c l :=
 ⟨Zy h.row hb,⟨fun q hq=>by
  obtain⟨h1,h2,h3,h4⟩:=h.rows.ok q hq
  exact⟨h1,h2,Qi h3 hb.size,h4.same fun k k1 k2=>hb.block k (by omega)⟩,h.rows.apart⟩,h.off,h.are⟩
theorem Z5l {s:Rm}{k:Ky}{a:Int}{lv:Nat}{l:List Sv}(hT:AtT s lv a) (hl:l.length=lv+1) (_:lv<6) (are:∀ i q,l[i]? = some q->q.nd=rmV s (atW s k a i)/\(q.pl,q.inst)=Zfq q.nd k):∀ q∈l,Zcz q.nd.1/\q.nd.2.length<=5/\q.pl+(if q.inst=true then 1 else 0)<=q.nd.2.length:=by{
 intro q hq;obtain⟨i,hi,rfl⟩:=List.getElem_of_mem hq;obtain⟨e1,e2⟩:=are i _ (Qg hi);have hA:=Zhe (k:=k) hT i (by omega);have hlv:=hA.lvl;have hm:=hA.may;rw[<- e1] at hlv hm;obtain⟨⟨_,_,h5,hne⟩,_⟩:=Z0 hm;refine⟨⟨by omega,by omega⟩,h5,?_⟩;generalize l[i]=q at *;unfold Zfq at e2;split at e2
 ·simp only[Prod.mk.injEq] at e2
  rw[e2.1,e2.2];split
  ·rename_i ht
   exact Zfn ht
  ·exact Zgc _ _
 ·simp only[Prod.mk.injEq] at e2
  rw[e2.1,e2.2];exact Zle k (hne (by omega))}
theorem Zsx (qa qb qc qd:Option Pz×Nat×Nat) (s:Rm) (a:Int) (x:It) (E:Option Pz) (ce:Nat) (w:Px) (h:Sto (Old w) w (.agg #[.slice qa.1 qa.2.1 qa.2.2,.slice qb.1 qb.2.1 qb.2.2,.slice qc.1 qc.2.1 qc.2.2,.slice qd.1 qd.2.1 qd.2.2]) s) (hx:Itm (Old w) w (itV x (.slice E x.2.2.length ce)) x) :
  Qab Tryz.prog 32 #[.agg #[.slice qa.1 qa.2.1 qa.2.2,.slice qb.1 qb.2.1 qb.2.2,.slice qc.1 qc.2.1 qc.2.2,.slice qd.1 qd.2.1 qd.2.2],.int .i64 a,itV x (.slice E x.2.2.length ce)] w (Z4l s a x w):=by{
 obtain⟨w1,hw1,b1,hs1,hB1⟩:=Xy w (.slice qa.1 qa.2.1 qa.2.2) (.slice qb.1 qb.2.1 qb.2.2) (.slice qc.1 qc.2.1 qc.2.2) (.slice qd.1 qd.2.1 qd.2.2) 29;obtain⟨w2,hw2,-,-,-,-,-,hs2,hB2,b2⟩:=Zz w1 (.int .u8 (x.1.1.toNat:Int)) (.int .u32 x.1.2.1) (.int .u32 x.1.2.2) (.int .i64 x.2.1) (.slice E x.2.2.length ce) 79;obtain⟨w3,hw3,b3,hs3,hB3⟩:=Xy w2 (.slice none 0 0) (.slice none 0 0) (.slice none 0 0) (.slice none 0 0) 29;have hB12:=hB1.trans (hB2.mono hB1.size);have hB13:=hB12.trans (hB3.mono hB12.size);have B3:=Za hB13;have SZ:=Za (show w1.heap.size=w.heap.size+1/\w2.heap.size=w.heap.size+2/\w3.heap.size=w.heap.size+3 from by omega);have G1:=Za ((hB3.block w.heap.size (by omega)).trans ((hB2.block w.heap.size (by omega)).trans b1));have G2:=Za ((hB3.block w1.heap.size (by omega)).trans b2);have G3:=Za b3;have hS0:=Za h;have hX0:=Za hx;have HS:=Za (fun W (hW:Qac w3.heap.size w3 W)=>h.below (hB13.trans (hW.mono hB13.size)));have HX:=Za (fun W (hW:Qac w3.heap.size w3 W)=>hx.below (hB13.trans (hW.mono hB13.size)));have KC:=Za (fun W (hW:Qac w3.heap.size w3 W)=>And.intro ((hW.block w.heap.size (by omega)).trans G1.out) (And.intro ((hW.block w1.heap.size (by omega)).trans G2.out) ((hW.block w2.heap.size (by omega)).trans G3.out)))
 have hzero:Hid (∀ (er:Int) (W:Px) (v0 v1 v2 v3:Py) (l:List Sv),W.heap[w2.heap.size]? = some (.cells #[v0,v1,v2,v3] 29 (0,0))->Qac w.heap.size w W->(ckE s a=0->Zhg s x=0->Zzq s x.1 a l)->Zci s a x l=(er,Zn,0) ->
   ∃ W9,(((W.setCell ⟨w2.heap.size,0,none⟩ (.slice none 0 0)).setCell ⟨w2.heap.size,1,none⟩ (.slice none 0 0)).setCell ⟨w2.heap.size,2,none⟩ (.slice none 0 0)).setCell ⟨w2.heap.size,3,none⟩ (.slice none 0 0)=W9 /\
   W9.cell? ⟨w2.heap.size,0,none⟩=some (.slice none 0 0)/\W9.cell? ⟨w2.heap.size,1,none⟩=some (.slice none 0 0)/\W9.cell? ⟨w2.heap.size,2,none⟩=some (.slice none 0 0)/\W9.cell? ⟨w2.heap.size,3,none⟩=some (.slice none 0 0) /\
   Z4l s a x w (.returned (.tuple #[.agg #[.slice none 0 0,.slice none 0 0,.slice none 0 0,.slice none 0 0],.int .i64 0,.int .i64 er])) W9):=Za fun er W v0 v1 v2 v3 l bW hW hl he=>by
  obtain⟨W9,e9,g9,gr9,_⟩:=Zt (a':=.slice none 0 0) (b':=.slice none 0 0) (c':=.slice none 0 0) (d':=.slice none 0 0) bW;obtain⟨k0,k1,k2,k3,_⟩:=Ze g9;exact⟨W9,e9,k0,k1,k2,k3,l,(none,0,0),(none,0,0),(none,0,0),(none,0,0),hl,by rw[he],by rw[he];exact Y1 _ _,hW.grown gr9 hW.size (fun q e=>by cases e;omega)⟩
 have hC3:=KC.out w3 (Qd _ _);obtain⟨k0,k1,k2,k3,_⟩:=Ze hC3.1;replace hs1:=Za hs1;replace hs2:=Za hs2;replace hs3:=Za hs3;clear h hx hB1 hB2 hB3 hB12 hB13 b1 b2 b3 hC3;unfold itV
 go_enter Tryz.func32,Tryz.ntmps32
 go_upto_region 1 with fail
 clear hw1 hw2 hw3
 go_wp2_with fail
 with_reducible refine(Ug _ s a w3 (HS.out w3 (Qd _ _))).mono ?_
 rintro e w4 ⟨rfl,hb4⟩;clear k0 k1 k2 k3;obtain⟨c4a,c4b,c4c⟩:=KC.out w4 hb4;obtain⟨k0,k1,k2,k3,_⟩:=Ze c4a;obtain⟨n0,n1,n2,n3,n4,_⟩:=Zq c4b;obtain⟨u0,u1,u2,u3,uf,_⟩:=Ze c4c;have hckh:Hid (ckE s a=0->ckH s a=(rmV s a).1+1/\Ue s a=true/\asE s a=0):=Za fun h=>by
  obtain⟨h1,h2,h3⟩:=Zlv h;exact⟨h3,h1,h2⟩
 have hpl0:Hid (ckE s a≠0->∀ l,Zci s a x l=(ckE s a,Zn,0)):=Za fun h l=>by unfold Zci;rw[if_pos h]
 have hc0:Hid (ckE s a≠0->∀ l,ckE s a=0->Zhg s x=0->Zzq s x.1 a l):=Za fun h l h'=>absurd h' h
 obtain⟨ck,hck⟩:∃ q,ckE s a=q:=⟨_,rfl⟩
 obtain⟨Hh,hH⟩:∃ q,ckH s a=q:=⟨_,rfl⟩
 rw[hck,hH]
 go_upto_region 2 with fail
 by_cases hk:ck=0
 case neg =>
  have t0:(ck != 0)=true:=by simpa using hk
  obtain⟨W9,e9,y0,y1,y2,y3,hfin⟩:=hzero.out ck w4 _ _ _ _ [] c4c (B3.out.trans (hb4.mono B3.out.size)) (hc0.out (by rw[hck];exact hk) []) (by rw[hpl0.out (by rw[hck];exact hk),hck]);replace hfin:=Za hfin
  go_wp2_with fail
  exact P7 (v:=.tuple #[.agg #[.slice none 0 0,.slice none 0 0,.slice none 0 0,.slice none 0 0],.int .i64 0,.int .i64 ck]) (by simp[results,Tryz.results32,go_sem,y0,y1,y2,y3]) rfl hfin.out
 subst hk;obtain⟨eH,htr,has⟩:=hckh.out hck;obtain⟨-,-,hmr,-⟩:=Vh has;obtain⟨-,-,-,l0,l6,-⟩:=Zak htr;have hT:=Za (Znf htr);have hci:=Zjt (.agg #[.slice qa.1 qa.2.1 qa.2.2,.slice qb.1 qb.2.1 qb.2.2,.slice qc.1 qc.2.1 qc.2.2,.slice qd.1 qd.2.1 qd.2.2]) (itV x (.slice E x.2.2.length ce)) s x w4 hmr (HS.out w4 hb4) (HX.out w4 hb4);have hci':=Za hci;have hlv:=Za (show ∃ lv:Nat,(rmV s a).1=(lv:Int)/\(rmV s a).1.toNat=lv/\lv<6 from ⟨(rmV s a).1.toNat,by omega,rfl,by omega⟩);have hB4:=Za hb4;have hck':=Za hck
 have hdone:Hid (∀ l,Zci s a x l=if Zhg s x≠0 then (Zhg s x,Zn,0)
  else if (rmV s a).1=5/\Zcb l.reverse 1=true then (120,Zn,0)
  else if (Y5 s l x).1≠0 then ((Y5 s l x).1,Zn,0)
  else if lvE (Y5 s l x).2.1 a≠0 then (lvE (Y5 s l x).2.1 a,Zn,0)
  else (0,lvV (Y5 s l x).2.1 a,(Y5 s l x).2.2)):=Za fun l=>by
  unfold Zci;rw[if_neg (by rw[hck];decide)]
 clear hci l0 l6 hmr has htr hb4 hck c4a c4b;unfold itV at hci';obtain⟨ci,hcie⟩:∃ q,Zhg s x=q:=⟨_,rfl⟩
 rw[hcie] at hci'
 go_upto_region 4 with fail
 go_wp2_with fail
 with_reducible refine hci'.out.mono ?_
 rintro e w5 ⟨rfl,hb5⟩;clear k0 k1 k2 k3 n0 n1 n2 n3 n4 u0 u1 u2 u3 uf hci';have B5:=Za (hB4.out.trans (hb5.mono hB4.out.size));clear hb5;obtain⟨c5a,c5b,c5c⟩:=KC.out w5 B5.out;obtain⟨k0,k1,k2,k3,_⟩:=Ze c5a;obtain⟨n0,n1,n2,n3,n4,_⟩:=Zq c5b;obtain⟨u0,u1,u2,u3,uf,_⟩:=Ze c5c;clear c5a c5b
 go_upto_region 5 with fail
 by_cases hk:ci=0
 case neg =>
  have t0:(ci != 0)=true:=by simpa using hk
  obtain⟨W9,e9,y0,y1,y2,y3,hfin⟩:=hzero.out ci w5 _ _ _ _ [] c5c (B3.out.trans (B5.out.mono B3.out.size)) (fun _ h=>absurd (hcie ▸ h) hk) (by rw[hdone.out,hcie,if_pos hk]);replace hfin:=Za hfin
  go_wp2_with fail
  exact P7 (v:=.tuple #[.agg #[.slice none 0 0,.slice none 0 0,.slice none 0 0,.slice none 0 0],.int .i64 0,.int .i64 ci]) (by simp[results,Tryz.results32,go_sem,y0,y1,y2,y3]) rfl hfin.out
 subst hk;obtain⟨lv,elv,enat,lv6⟩:=hlv.out
 have hdone2:Hid (∀ l,Zci s a x l=if (rmV s a).1=5/\Zcb l.reverse 1=true then (120,Zn,0)
  else if (Y5 s l x).1≠0 then ((Y5 s l x).1,Zn,0)
  else if lvE (Y5 s l x).2.1 a≠0 then (lvE (Y5 s l x).2.1 a,Zn,0)
  else (0,lvV (Y5 s l x).2.1 a,(Y5 s l x).2.2)):=Za fun l=>by
  rw[hdone.out,if_neg (by rw[hcie];decide)]
 rw[enat] at hT;have eH':(lv:Int)+1=Hh:=by omega
 have hway:=Z29 qa qb qc qd s a lv lv6 x.1 w5 (HS.out w5 B5.out) hT.out;rw[eH'] at hway;unfold kyV at hway;have hway':=Za hway;have elv':=Za elv;have enat':=Za enat;have eH2:=Za eH';clear hway elv enat hlv hdone hcie eH eH' c5c;replace hH:=Za hH
 go_upto_region 7 with fail
 go_wp2_with fail
 with_reducible refine hway'.out.mono ?_
 rintro e w6 ⟨A,c,l,rfl,hll,hW,hb6⟩;clear k0 k1 k2 k3 n0 n1 n2 n3 n4 u0 u1 u2 u3 uf hway';have B6:=Za (B5.out.trans (hb6.mono B5.out.size));obtain⟨m,hm⟩:∃ q,l.length=q:=⟨_,rfl⟩
 have hW':=Za hW;have hB56:=Za hb6;rw[hm];have hwl:Hid (Zzq s x.1 a l):=Za ⟨by rw[enat'.out];exact hll,hW.are⟩;have hm6:m<=6:=by omega
 have hq:=Za (Z5l hT.out hll lv6 hW.are);replace hm:=Za hm;have hll:=Za hll;clear hW hb6;obtain⟨c6a,c6b,c6c⟩:=KC.out w6 B6.out;obtain⟨k0,k1,k2,k3,_⟩:=Ze c6a;obtain⟨n0,n1,n2,n3,n4,_⟩:=Zq c6b;obtain⟨u0,u1,u2,u3,uf,_⟩:=Ze c6c;clear c6a c6b
 go_upto_region 10 with fail
 have hpl2:Hid ((rmV s a).1=5↔Hh=6):=Za (by have:=eH2.out;have:=elv'.out;omega);by_cases h6:Hh=6
 case neg =>
  have t6:(Hh==6)=false:=by simpa using h6
  have hpart:Hid (Zci s a x l=if (Y5 s l x).1≠0 then ((Y5 s l x).1,Zn,0)
   else if lvE (Y5 s l x).2.1 a≠0 then (lvE (Y5 s l x).2.1 a,Zn,0)
   else (0,lvV (Y5 s l x).2.1 a,(Y5 s l x).2.2)):=Za (by rw[hdone2.out,if_neg (fun h=>h6 (hpl2.out.1 h.1))])
  have BW:Hid (Qac w6.heap.size w6 w6):=Za (Qd _ _)
  have hgrw:=Za (Zqo w.heap.size w5.heap.size (by have:=B3.out.size;have:=B5.out.size;omega) qa qb qc qd s A m c l E ce x w6 (by have:=hB56.out.size;have:=BW.out.size;omega)
   (hS0.out.map fun p v hp hc=>⟨hp,((B3.out.trans (B6.out.mono B3.out.size)).trans (BW.out.mono (B3.out.trans (B6.out.mono B3.out.size)).size)).cell hp |>.trans hc⟩)
   (by have:=(hW'.out.below BW.out).row;rw[hm.out] at this;exact this) hm.out hm6 (hW'.out.below BW.out).rows hW'.out.off hq.out
   (hX0.out.map fun p v hp hc=>⟨hp,((B3.out.trans (B6.out.mono B3.out.size)).trans (BW.out.mono (B3.out.trans (B6.out.mono B3.out.size)).size)).cell hp |>.trans hc⟩))
  have hgrw':=hgrw.out;unfold itV at hgrw';have hgrw:=Za hgrw';clear hgrw'
  go_upto_region 12 with fail
  go_wp2_with fail
  with_reducible refine hgrw.out.mono ?_
  rintro e w8 ⟨pa,pb,pc,pd,rfl,hS8,hb8⟩;clear k0 k1 k2 k3 n0 n1 n2 n3 n4 u0 u1 u2 u3 uf hgrw;have hc8:=Za ((hb8.block w2.heap.size (by have:=SZ.out;have:=B5.out.size;omega)).trans (KC.out w6 (B6.out.trans (BW.out.mono B6.out.size))).2.2);have BwW:=(B3.out.trans (B6.out.mono B3.out.size)).trans (BW.out.mono (B3.out.trans (B6.out.mono B3.out.size)).size);have B8:=Za (BwW.trans (hb8.mono (by have:=B3.out.size;have:=B5.out.size;omega)));clear BwW;obtain⟨G,hG⟩:∃ q,Y5 s l x=q:=⟨_,rfl⟩
  obtain⟨ge,gs,gn⟩:=G;rw[hG] at hS8 ⊢;obtain⟨u0,u1,u2,u3,uf,_⟩:=Ze hc8.out;obtain⟨w9,hw9,g9,gr9,gs9⟩:=Zt (a':=.slice pa.1 pa.2.1 pa.2.2) (b':=.slice pb.1 pb.2.1 pb.2.2) (c':=.slice pc.1 pc.2.1 pc.2.2) (d':=.slice pd.1 pd.2.1 pd.2.2) hc8.out;have B9:=Za (B8.out.grown gr9 B8.out.size (fun q e=>by cases e;have:=SZ.out;omega))
  have S9:Hid (Sto (Old w9) w9 (.agg #[.slice pa.1 pa.2.1 pa.2.2,.slice pb.1 pb.2.1 pb.2.2,.slice pc.1 pc.2.1 pc.2.2,.slice pd.1 pd.2.1 pd.2.2]) gs):=Za (hS8.map fun p v hp hc=>by
   have hb:=gr9.block p.block hp.2 (fun e=>by have:=Option.some.inj e;have:=SZ.out;have:=B6.out.size;have:=BW.out.size;rcases hp.1 with h | h <;> omega)
   exact⟨Qe hp.2 gr9.size,(Qf hb).trans hc⟩)
  have hG':=Za hG;obtain⟨k0,k1,k2,k3,kf,_⟩:=Ze g9;have g9':=Za g9;have hgs:=Za gs9;clear hS8 hb8 hG gr9 gs9 g9;replace hc8:=Za hc8
  go_upto_region 13 with fail
  clear u0 u1 u2 u3 uf hw9;by_cases hge:ge=0
  case neg =>
   have t0:(ge != 0)=true:=by simpa using hge
   obtain⟨W9,e9,y0,y1,y2,y3,hfin⟩:=hzero.out ge w9 _ _ _ _ l g9'.out (B9.out) (fun _ _=>hwl.out) (by rw[hpart.out,hG'.out,if_pos hge]);replace hfin:=Za hfin
   go_wp2_with fail
   exact P7 (v:=.tuple #[.agg #[.slice none 0 0,.slice none 0 0,.slice none 0 0,.slice none 0 0],.int .i64 0,.int .i64 ge]) (by simp[results,Tryz.results32,go_sem,y0,y1,y2,y3]) rfl hfin.out
  subst hge;have hlv:=Zg7 _ gs a w9 S9.out;obtain⟨le,hle⟩:∃ q,lvE gs a=q:=⟨_,rfl⟩
  rw[hle] at hlv
  go_upto_region 15 with fail
  go_wp2_with fail
  with_reducible refine hlv.mono ?_
  rintro e w10 ⟨ra,rb,rc,rd,rfl,hS10,hb10⟩;clear k0 k1 k2 k3 kf hlv;have hc10:=(hb10.block w2.heap.size (by have:=SZ.out;have:=B9.out.size;have:=hgs.out;have:=(Qa.1 g9'.out).1;omega)).trans g9'.out;obtain⟨u0,u1,u2,u3,uf,_⟩:=Ze hc10;obtain⟨w11,hw11,g11,gr11,gs11⟩:=Zt (a':=.slice ra.1 ra.2.1 ra.2.2) (b':=.slice rb.1 rb.2.1 rb.2.2) (c':=.slice rc.1 rc.2.1 rc.2.2) (d':=.slice rd.1 rd.2.1 rd.2.2) hc10;have B11:=Za ((B9.out.trans (hb10.mono B9.out.size)).grown gr11 (B9.out.trans (hb10.mono B9.out.size)).size (fun q e=>by cases e;have:=SZ.out;omega));have hlt9:=Za (show w2.heap.size<w9.heap.size from (Qa.1 g9'.out).1);have S11:=Za (hS10.grown gr11 (fun q e=>by cases e;exact hlt9.out));obtain⟨k0,k1,k2,k3,kf,_⟩:=Ze g11;have g11':=Za g11;clear hS10 hb10 hc10 gr11 gs11 g11
  go_upto_region 16 with fail
  clear u0 u1 u2 u3 uf hw11;by_cases hle0:le=0
  case neg =>
   have t0:(le != 0)=true:=by simpa using hle0
   obtain⟨W9,e9,y0,y1,y2,y3,hfin⟩:=hzero.out le w11 _ _ _ _ l g11'.out (B11.out) (fun _ _=>hwl.out) (by rw[hpart.out,hG'.out,if_neg (fun h=>h rfl),hle,if_pos hle0]);replace hfin:=Za hfin
   go_wp2_with fail
   exact P7 (v:=.tuple #[.agg #[.slice none 0 0,.slice none 0 0,.slice none 0 0,.slice none 0 0],.int .i64 0,.int .i64 le]) (by simp[results,Tryz.results32,go_sem,y0,y1,y2,y3]) rfl hfin.out
  subst hle0;obtain⟨W9,hW9,g12,gr12,gs12⟩:=Zt (a':=.slice ra.1 ra.2.1 ra.2.2) (b':=.slice rb.1 rb.2.1 rb.2.2) (c':=.slice rc.1 rc.2.1 rc.2.2) (d':=.slice rd.1 rd.2.1 rd.2.2) g11'.out;obtain⟨y0,y1,y2,y3,_,_⟩:=Ze g12
  have hfin:Hid (Z4l s a x w (.returned (.tuple #[.agg #[.slice ra.1 ra.2.1 ra.2.2,.slice rb.1 rb.2.1 rb.2.2,.slice rc.1 rc.2.1 rc.2.2,.slice rd.1 rd.2.1 rd.2.2],.int .i64 gn,.int .i64 0])) W9):=Za (by
   have hp:Zci s a x l=(0,lvV gs a,gn):=by rw[hpart.out,hG'.out,if_neg (fun h=>h rfl),hle,if_neg (fun h=>h rfl)]
   exact⟨l,ra,rb,rc,rd,fun _ _=>hwl.out,by rw[hp],by rw[hp];exact(S11.out.grown gr12 (fun q e=>by cases e;exact hlt9.out)).new B9.out.size (Qd _ _),B11.out.grown gr12 B11.out.size (fun q e=>by cases e;have:=SZ.out;omega)⟩)
  replace g12:=Za g12;clear gr12 gs12
  go_wp2_with fail
  exact P7 (v:=.tuple #[.agg #[.slice ra.1 ra.2.1 ra.2.2,.slice rb.1 rb.2.1 rb.2.2,.slice rc.1 rc.2.1 rc.2.2,.slice rd.1 rd.2.1 rd.2.2],.int .i64 gn,.int .i64 0]) (by simp[results,Tryz.results32,go_sem,y0,y1,y2,y3]) rfl hfin.out
 subst h6;have hpa:=Zvn A m c l w5.heap.size w6 (by have:=hW'.out.row;rw[hm.out] at this;exact this) hm.out (by omega) (fun q hq'=>(hq.out q hq').2.1);obtain⟨pf,hpf⟩:∃ q,Zcb l.reverse 1=q:=⟨_,rfl⟩
 rw[hpf] at hpa
 go_wp2_with fail
 with_reducible refine hpa.mono ?_
 rintro e w7 ⟨rfl,hb7⟩;have BW:=Za hb7;clear hb7 hpa k0 k1 k2 k3 n0 n1 n2 n3 n4 u0 u1 u2 u3 uf c6c;obtain⟨c7a,c7b,c7c⟩:=KC.out w7 (B6.out.trans (BW.out.mono B6.out.size));obtain⟨k0,k1,k2,k3,_⟩:=Ze c7a;obtain⟨n0,n1,n2,n3,n4,_⟩:=Zq c7b;obtain⟨u0,u1,u2,u3,uf,_⟩:=Ze c7c;clear c7a c7b;cases pf with
 | true =>
  obtain⟨W9,e9,y0,y1,y2,y3,hfin⟩:=hzero.out 120 w7 _ _ _ _ l c7c ((B3.out.trans (B6.out.mono B3.out.size)).trans (BW.out.mono (B3.out.trans (B6.out.mono B3.out.size)).size)) (fun _ _=>hwl.out) (by rw[hdone2.out,if_pos ⟨hpl2.out.2 (by trivial),hpf⟩]);replace hfin:=Za hfin
  go_wp2_with fail
  exact P7 (v:=.tuple #[.agg #[.slice none 0 0,.slice none 0 0,.slice none 0 0,.slice none 0 0],.int .i64 0,.int .i64 120]) (by simp[results,Tryz.results32,go_sem,y0,y1,y2,y3]) rfl hfin.out
 | false =>
  have hpart:Hid (Zci s a x l=if (Y5 s l x).1≠0 then ((Y5 s l x).1,Zn,0)
   else if lvE (Y5 s l x).2.1 a≠0 then (lvE (Y5 s l x).2.1 a,Zn,0)
   else (0,lvV (Y5 s l x).2.1 a,(Y5 s l x).2.2)):=Za (by rw[hdone2.out,if_neg (fun h=>by rw[hpf] at h;cases h.2)])
  have hgrw:=Za (Zqo w.heap.size w5.heap.size (by have:=B3.out.size;have:=B5.out.size;omega) qa qb qc qd s A m c l E ce x w7 (by have:=hB56.out.size;have:=BW.out.size;omega)
   (hS0.out.map fun p v hp hc=>⟨hp,((B3.out.trans (B6.out.mono B3.out.size)).trans (BW.out.mono (B3.out.trans (B6.out.mono B3.out.size)).size)).cell hp |>.trans hc⟩)
   (by have:=(hW'.out.below BW.out).row;rw[hm.out] at this;exact this) hm.out hm6 (hW'.out.below BW.out).rows hW'.out.off hq.out
   (hX0.out.map fun p v hp hc=>⟨hp,((B3.out.trans (B6.out.mono B3.out.size)).trans (BW.out.mono (B3.out.trans (B6.out.mono B3.out.size)).size)).cell hp |>.trans hc⟩))
  have hgrw':=hgrw.out;unfold itV at hgrw';have hgrw:=Za hgrw';clear hgrw'
  go_upto_region 12 with fail
  go_wp2_with fail
  with_reducible refine hgrw.out.mono ?_
  rintro e w8 ⟨pa,pb,pc,pd,rfl,hS8,hb8⟩;clear k0 k1 k2 k3 n0 n1 n2 n3 n4 u0 u1 u2 u3 uf hgrw;have hc8:=Za ((hb8.block w2.heap.size (by have:=SZ.out;have:=B5.out.size;omega)).trans (KC.out w7 (B6.out.trans (BW.out.mono B6.out.size))).2.2);have BwW:=(B3.out.trans (B6.out.mono B3.out.size)).trans (BW.out.mono (B3.out.trans (B6.out.mono B3.out.size)).size);have B8:=Za (BwW.trans (hb8.mono (by have:=B3.out.size;have:=B5.out.size;omega)));clear BwW;obtain⟨G,hG⟩:∃ q,Y5 s l x=q:=⟨_,rfl⟩
  obtain⟨ge,gs,gn⟩:=G;rw[hG] at hS8 ⊢;obtain⟨u0,u1,u2,u3,uf,_⟩:=Ze hc8.out;obtain⟨w9,hw9,g9,gr9,gs9⟩:=Zt (a':=.slice pa.1 pa.2.1 pa.2.2) (b':=.slice pb.1 pb.2.1 pb.2.2) (c':=.slice pc.1 pc.2.1 pc.2.2) (d':=.slice pd.1 pd.2.1 pd.2.2) hc8.out;have B9:=Za (B8.out.grown gr9 B8.out.size (fun q e=>by cases e;have:=SZ.out;omega))
  have S9:Hid (Sto (Old w9) w9 (.agg #[.slice pa.1 pa.2.1 pa.2.2,.slice pb.1 pb.2.1 pb.2.2,.slice pc.1 pc.2.1 pc.2.2,.slice pd.1 pd.2.1 pd.2.2]) gs):=Za (hS8.map fun p v hp hc=>by
   have hb:=gr9.block p.block hp.2 (fun e=>by have:=Option.some.inj e;have:=SZ.out;have:=B6.out.size;have:=BW.out.size;rcases hp.1 with h | h <;> omega)
   exact⟨Qe hp.2 gr9.size,(Qf hb).trans hc⟩)
  have hG':=Za hG;obtain⟨k0,k1,k2,k3,kf,_⟩:=Ze g9;have g9':=Za g9;have hgs:=Za gs9;clear hS8 hb8 hG gr9 gs9 g9;replace hc8:=Za hc8
  go_upto_region 13 with fail
  clear u0 u1 u2 u3 uf hw9;by_cases hge:ge=0
  case neg =>
   have t0:(ge != 0)=true:=by simpa using hge
   obtain⟨W9,e9,y0,y1,y2,y3,hfin⟩:=hzero.out ge w9 _ _ _ _ l g9'.out (B9.out) (fun _ _=>hwl.out) (by rw[hpart.out,hG'.out,if_pos hge]);replace hfin:=Za hfin
   go_wp2_with fail
   exact P7 (v:=.tuple #[.agg #[.slice none 0 0,.slice none 0 0,.slice none 0 0,.slice none 0 0],.int .i64 0,.int .i64 ge]) (by simp[results,Tryz.results32,go_sem,y0,y1,y2,y3]) rfl hfin.out
  subst hge;have hlv:=Zg7 _ gs a w9 S9.out;obtain⟨le,hle⟩:∃ q,lvE gs a=q:=⟨_,rfl⟩
  rw[hle] at hlv
  go_upto_region 15 with fail
  go_wp2_with fail
  with_reducible refine hlv.mono ?_
  rintro e w10 ⟨ra,rb,rc,rd,rfl,hS10,hb10⟩;clear k0 k1 k2 k3 kf hlv;have hc10:=(hb10.block w2.heap.size (by have:=SZ.out;have:=B9.out.size;have:=hgs.out;have:=(Qa.1 g9'.out).1;omega)).trans g9'.out;obtain⟨u0,u1,u2,u3,uf,_⟩:=Ze hc10;obtain⟨w11,hw11,g11,gr11,gs11⟩:=Zt (a':=.slice ra.1 ra.2.1 ra.2.2) (b':=.slice rb.1 rb.2.1 rb.2.2) (c':=.slice rc.1 rc.2.1 rc.2.2) (d':=.slice rd.1 rd.2.1 rd.2.2) hc10;have B11:=Za ((B9.out.trans (hb10.mono B9.out.size)).grown gr11 (B9.out.trans (hb10.mono B9.out.size)).size (fun q e=>by cases e;have:=SZ.out;omega));have hlt9:=Za (show w2.heap.size<w9.heap.size from (Qa.1 g9'.out).1);have S11:=Za (hS10.grown gr11 (fun q e=>by cases e;exact hlt9.out));obtain⟨k0,k1,k2,k3,kf,_⟩:=Ze g11;have g11':=Za g11;clear hS10 hb10 hc10 gr11 gs11 g11
  go_upto_region 16 with fail
  clear u0 u1 u2 u3 uf hw11;by_cases hle0:le=0
  case neg =>
   have t0:(le != 0)=true:=by simpa using hle0
   obtain⟨W9,e9,y0,y1,y2,y3,hfin⟩:=hzero.out le w11 _ _ _ _ l g11'.out (B11.out) (fun _ _=>hwl.out) (by rw[hpart.out,hG'.out,if_neg (fun h=>h rfl),hle,if_pos hle0]);replace hfin:=Za hfin
   go_wp2_with fail
   exact P7 (v:=.tuple #[.agg #[.slice none 0 0,.slice none 0 0,.slice none 0 0,.slice none 0 0],.int .i64 0,.int .i64 le]) (by simp[results,Tryz.results32,go_sem,y0,y1,y2,y3]) rfl hfin.out
  subst hle0;obtain⟨W9,hW9,g12,gr12,gs12⟩:=Zt (a':=.slice ra.1 ra.2.1 ra.2.2) (b':=.slice rb.1 rb.2.1 rb.2.2) (c':=.slice rc.1 rc.2.1 rc.2.2) (d':=.slice rd.1 rd.2.1 rd.2.2) g11'.out;obtain⟨y0,y1,y2,y3,_,_⟩:=Ze g12
  have hfin:Hid (Z4l s a x w (.returned (.tuple #[.agg #[.slice ra.1 ra.2.1 ra.2.2,.slice rb.1 rb.2.1 rb.2.2,.slice rc.1 rc.2.1 rc.2.2,.slice rd.1 rd.2.1 rd.2.2],.int .i64 gn,.int .i64 0])) W9):=Za (by
   have hp:Zci s a x l=(0,lvV gs a,gn):=by rw[hpart.out,hG'.out,if_neg (fun h=>h rfl),hle,if_neg (fun h=>h rfl)]
   exact⟨l,ra,rb,rc,rd,fun _ _=>hwl.out,by rw[hp],by rw[hp];exact(S11.out.grown gr12 (fun q e=>by cases e;exact hlt9.out)).new B9.out.size (Qd _ _),B11.out.grown gr12 B11.out.size (fun q e=>by cases e;have:=SZ.out;omega)⟩)
  replace g12:=Za g12;clear gr12 gs12
  go_wp2_with fail
  exact P7 (v:=.tuple #[.agg #[.slice ra.1 ra.2.1 ra.2.2,.slice rb.1 rb.2.1 rb.2.2,.slice rc.1 rc.2.1 rc.2.2,.slice rd.1 rd.2.1 rd.2.2],.int .i64 gn,.int .i64 0]) (by simp[results,Tryz.results32,go_sem,y0,y1,y2,y3]) rfl hfin.out}
def Zhv:Pl:=(Zn,0,0,0,[])
def Z19 (p:Pl) (v:Vl) (E:Int) (P:Pl):Prop :=
 (Y6 p=none/\E=8/\P=Zhv)\/∃ vs g,Y6 p=some (vs,g)/\((tkF p.1 vs g.2 p.2.2.2.1 v.1 v.2.1≠0/\E=tkF p.1 vs g.2 p.2.2.2.1 v.1 v.2.1/\P=Zhv)\/(tkF p.1 vs g.2 p.2.2.2.1 v.1 v.2.1=0 /\
  ∃ l,(ckE p.1 p.2.2.1=0->Zhg p.1 (Ym v)=0->Zzq p.1 (Ym v).1 p.2.2.1 l)/\(((Zci p.1 p.2.2.1 (Ym v) l).1≠0/\E=(Zci p.1 p.2.2.1 (Ym v) l).1/\P=Zhv)\/((Zci p.1 p.2.2.1 (Ym v) l).1=0 /\
   ((Zdb ((Zci p.1 p.2.2.1 (Ym v) l).2.1,p.2.1,(Zci p.1 p.2.2.1 (Ym v) l).2.2,p.2.2.2.1,p.2.2.2.2)≠0/\E=Zdb ((Zci p.1 p.2.2.1 (Ym v) l).2.1,p.2.1,(Zci p.1 p.2.2.1 (Ym v) l).2.2,p.2.2.2.1,p.2.2.2.2)/\P=Zhv) \/
    (Zdb ((Zci p.1 p.2.2.1 (Ym v) l).2.1,p.2.1,(Zci p.1 p.2.2.1 (Ym v) l).2.2,p.2.2.2.1,p.2.2.2.2)=0/\E=0/\P=((Zci p.1 p.2.2.1 (Ym v) l).2.1,p.2.1,(Zci p.1 p.2.2.1 (Ym v) l).2.2,p.2.2.2.1,p.2.2.2.2)))))))
structure Zua (qa qb qc qd:Option Pz×Nat×Nat) (D:Option Pz) (dl dc:Nat) (s:Rm) (dead:List Int) (lo:Nat) (w:Px):Prop where
 sto:Sto (New lo w) w (.agg #[.slice qa.1 qa.2.1 qa.2.2,.slice qb.1 qb.2.1 qb.2.2,.slice qc.1 qc.2.1 qc.2.2,.slice qd.1 qd.2.1 qd.2.2]) s
 dead:rSl 1 (rK .i64) (New lo w) w [.slice D dl dc] dead
theorem Zua.below {qa qb qc qd:Option Pz×Nat×Nat}{D:Option Pz}{dl dc:Nat}{s:Rm}{dead:List Int}{lo:Nat}{w w':Px}(h:Zua qa qb qc qd D dl dc s dead lo w) (hb:Qac w.heap.size w w'):Zua qa qb qc qd D dl dc s dead lo w':=⟨h.sto.new (Qb _) hb,(Zv (Xk _)).new h.dead (Qb _) hb⟩
theorem Zua.grown {qa qb qc qd:Option Pz×Nat×Nat}{D:Option Pz}{dl dc:Nat}{s:Rm}{dead:List Int}{lo:Nat}{w w':Px}{row:Option Nat}(h:Zua qa qb qc qd D dl dc s dead lo w) (hg:w.grownBy w' row) (hr:∀ q,row=some q->q<lo):Zua qa qb qc qd D dl dc s dead lo w':=⟨h.sto.grown hg hr,(Zv (Xk _)).grown h.dead hg hr⟩
theorem Zua.pol {qa qb qc qd:Option Pz×Nat×Nat}{D:Option Pz}{dl dc:Nat}{s:Rm}{gen root next:Int}{dead:List Int}{lo:Nat}{w:Px}(h:Zua qa qb qc qd D dl dc s dead lo w) (hi:InU gen/\Zcz root/\InU next):Zhi qa qb qc qd D dl dc s gen root next dead w:=⟨h.sto.drop,hi,Zv (Xk _) _ _ _ _ _ _ (fun _ _ hp hc=>⟨hp.2.1,hc⟩) h.dead⟩
def Z6i (p:Pl) (v:Vl) (w:Px):Ending->Px->Prop:=fun e w'=>∃ (E:Int) (P:Pl) (ra rb rc rd:Option Pz×Nat×Nat) (U:Option Pz) (ul uc:Nat),e=.returned (.tuple #[.agg #[.slice ra.1 ra.2.1 ra.2.2,.slice rb.1 rb.2.1 rb.2.2,.slice rc.1 rc.2.1 rc.2.2,.slice rd.1 rd.2.1 rd.2.2,.int .u32 P.2.1,.int .i64 P.2.2.1,.int .u32 P.2.2.2.1,.slice U ul uc],.int .i64 E])/\Z19 p v E P/\Zhi ra rb rc rd U ul uc P.1 P.2.1 P.2.2.1 P.2.2.2.1 P.2.2.2.2 w'/\Zua ra rb rc rd U ul uc P.1 P.2.2.2.2 w.heap.size w'/\Qac w.heap.size w w'
theorem Zv2 (w:Px):Zhi (none,0,0) (none,0,0) (none,0,0) (none,0,0) none 0 0 Zn 0 0 0 [] w:=⟨Y1 _ _,⟨⟨by decide,by decide⟩,⟨by decide,by decide⟩,⟨by decide,by decide⟩⟩,Zfo _ _⟩
theorem Zj0 {p:Pl}{v:Vl}{E:Int}{w w':Px}(h:Z19 p v E Zhv) (hb:Qac w.heap.size w w'):Z6i p v w (.returned (.tuple #[.agg #[.slice none 0 0,.slice none 0 0,.slice none 0 0,.slice none 0 0,.int .u32 0,.int .i64 0,.int .u32 0,.slice none 0 0],.int .i64 E])) w' :=
 ⟨E,Zhv,(none,0,0),(none,0,0),(none,0,0),(none,0,0),none,0,0,rfl,h,Zv2 _,⟨Y1 _ _,Zfo _ _⟩,hb⟩
theorem Z2d {qa qb qc qd:Option Pz×Nat×Nat}{s:Rm}{a:Int}{i r o:Int}{f:Bool}{E:Option Pz}{ce:Nat}{w:Px}(h:Sto (Old w) w (.agg #[.slice qa.1 qa.2.1 qa.2.2,.slice qb.1 qb.2.1 qb.2.2,.slice qc.1 qc.2.1 qc.2.2,.slice qd.1 qd.2.1 qd.2.2]) s) (hx:Itm (Old w) w (.agg #[.int .u8 1,.int .u32 i,.int .u32 0,.int .i64 0,.slice E 7 ce]) (Ym (i,r,f,o))) :
  Qab Tryz.prog 32 #[.agg #[.slice qa.1 qa.2.1 qa.2.2,.slice qb.1 qb.2.1 qb.2.2,.slice qc.1 qc.2.1 qc.2.2,.slice qd.1 qd.2.1 qd.2.2],.int .i64 a,.agg #[.int .u8 1,.int .u32 i,.int .u32 0,.int .i64 0,.slice E 7 ce]] w (Z4l s a (Ym (i,r,f,o)) w):=by
 have:=Zsx qa qb qc qd s a (Ym (i,r,f,o)) E ce w h (by rw[Zgj];exact hx);rw[Zgj] at this;exact this
theorem Zyx (qa qb qc qd:Option Pz×Nat×Nat) (s:Rm) (gen root next:Int) (dead:List Int) (D:Option Pz) (dl dc:Nat) (i r o:Int) (f:Bool) (w:Px) (hP:Zhi qa qb qc qd D dl dc s gen root next dead w) (hi:InU i) (ho:InU o)
  (hroot:∀ vs g,Y6 (s,gen,root,next,dead)=some (vs,g)->tkF s vs g.2 next i r=0->∀ l,(ckE s root=0->Zhg s (Ym (i,r,f,o))=0->Zzq s (Ym (i,r,f,o)).1 root l)->(Zci s root (Ym (i,r,f,o)) l).1=0->Zcz (Zci s root (Ym (i,r,f,o)) l).2.2) :
  Qab Tryz.prog 12 #[.agg #[.slice qa.1 qa.2.1 qa.2.2,.slice qb.1 qb.2.1 qb.2.2,.slice qc.1 qc.2.1 qc.2.2,.slice qd.1 qd.2.1 qd.2.2,.int .u32 gen,.int .i64 root,.int .u32 next,.slice D dl dc],.agg #[.int .u32 i,.int .i64 r,.bool f,.int .u32 o]] w (Z6i (s,gen,root,next,dead) (i,r,f,o) w):=by{
 obtain⟨w0,hw0,b0,hs0,hB0⟩:=Zb6 w (.slice qa.1 qa.2.1 qa.2.2) (.slice qb.1 qb.2.1 qb.2.2) (.slice qc.1 qc.2.1 qc.2.2) (.slice qd.1 qd.2.1 qd.2.2) (.int .u32 gen) (.int .i64 root) (.int .u32 next) (.slice D dl dc) 33;obtain⟨w1,hw1,b1,hs1,hB1⟩:=Xy w0 (.int .u32 i) (.int .i64 r) (.bool f) (.int .u32 o) 40;obtain⟨w2,hw2,b2,hs2,hB2⟩:=Zb6 w1 (.slice none 0 0) (.slice none 0 0) (.slice none 0 0) (.slice none 0 0) (.int .u32 0) (.int .i64 0) (.int .u32 0) (.slice none 0 0) 33;have hb12:=hB1.trans (hB2.mono hB1.size);have hb02:=hB0.trans (hb12.mono hB0.size);have C0:=Za ((hb12.block _ (Qa.1 b0).1).trans b0);have C1:=Za ((hB2.block _ (Qa.1 b1).1).trans b1);have C2:=Za b2;have B2:=Za hb02;have HP:=Za hP;have hlo:=Za (show w.heap.size<=w1.heap.size by omega);have hlt:=Za (show w1.heap.size<w2.heap.size by omega);have H2:=hP.below hb02;have hcal:=Za (Zdp s gen root next dead qa qb qc qd D dl dc w2 H2.sto H2.inn H2.dead);have hR:=Za hroot;have HI:=Za (And.intro hi ho);obtain⟨p0,p1,p2,p3,p4,p5,p6,p7,_⟩:=Zm C0.out;replace hs0:=Za hs0;replace hs1:=Za hs1;replace hs2:=Za hs2;clear hB0 hB1 hB2 hb12 hb02 b0 b1 b2 H2 hP hroot hi ho
 go_enter Tryz.func12,Tryz.ntmps12
 go_upto_region 1 with fail
 clear hw0 hw1 hw2
 go_wp2_with fail
 with_reducible refine hcal.out.mono ?_
 rintro e w3 (⟨hno,rfl,hb3⟩ | ⟨vs,g,g1,g2,lo,A,n,c,hyes,rfl,hn,hE,hF,hr⟩)
 ·have hW:Hid (Z19 (s,gen,root,next,dead) (i,r,f,o) 8 Zhv):=Za (.inl ⟨hno,rfl,rfl⟩)
  have c2:=(hb3.block _ (Qa.1 C2.out).1).trans C2.out;have hb23:=B2.out.trans (hb3.mono B2.out.size);have c2':=Za c2;have B3:=Za hb23;clear hno hb3 hb23 c2 p0 p1 p2 p3 p4 p5 p6 p7
  go_upto_region 2 with fail
  obtain⟨w4,hw4,b4,hs4,hB4⟩:=Uf w3 (.slice none 0 0) (.slice none 0 0) (.slice none 0 0) (.slice none 0 0) (.int .u32 0) (.int .i64 0) (.int .u32 0) (.slice none 0 0) (.map none) (.slice none 0 0) (.slice none 0 0) 71;rw[hw4];have BF:=Za (B3.out.trans (hB4.mono B3.out.size));have cz:=(hB4.block _ (Qa.1 c2'.out).1).trans c2'.out;replace hw4:=Za hw4;clear b4 hs4 hB4;obtain⟨u0,u1,u2,u3,u4,u5,u6,u7,uf,_⟩:=Zm cz;obtain⟨wz,hwz,bz,grz,gsz⟩:=Ua (a':=.slice none 0 0) (b':=.slice none 0 0) (c':=.slice none 0 0) (d':=.slice none 0 0) (e':=.int .u32 0) (f':=.int .i64 0) (g':=.int .u32 0) (h':=.slice none 0 0) cz;obtain⟨f0,f1,f2,f3,f4,f5,f6,f7,_⟩:=Zm bz;have hBz:=Za (BF.out.grown grz BF.out.size (fun q e=>by cases e;exact hlo.out));have cz':=Za cz;clear cz bz grz gsz
  go_wp2_with fail
  refine P7 (v:=.tuple #[.agg #[.slice none 0 0,.slice none 0 0,.slice none 0 0,.slice none 0 0,.int .u32 0,.int .i64 0,.int .u32 0,.slice none 0 0],.int .i64 (8)]) (by simp[results,Tryz.results12,go_sem,f0,f1,f2,f3,f4,f5,f6,f7]) rfl ?_;exact Zj0 hW.out hBz.out
 have hsn:=look_ok hyes
 have hl256:Hid (s.2.1.length=256):=Za (by
  obtain⟨_,_,hm,_⟩:=Vh (Zlv hsn.may).2.1
  exact Yi (Yq hm).2.1)
 have hyes':=Za hyes;have E3:=Za hE;have F3:=Za hF;have R3:=Za hr;have hb3:=hF.bel;have D0:=Za ((hb3.block _ (Qa.1 C0.out).1).trans C0.out);have D1:=Za ((hb3.block _ (Qa.1 C1.out).1).trans C1.out);have D2:=Za ((hb3.block _ (Qa.1 C2.out).1).trans C2.out);clear hyes hn hE hF hr hb3 hsn C0 C1 C2 p0 p1 p2 p3 p4 p5 p6 p7 hcal
 go_upto_region 2 with fail
 obtain⟨w4,hw4,b4,hs4,hB4⟩:=Uf w3 (.slice qa.1 qa.2.1 qa.2.2) (.slice qb.1 qb.2.1 qb.2.2) (.slice qc.1 qc.2.1 qc.2.2) (.slice qd.1 qd.2.1 qd.2.2) (.int .u32 gen) (.int .i64 root) (.int .u32 next) (.slice D dl dc) (.map (some g1)) (.slice (some ⟨g2,0,none⟩) 256 256) (.slice A n c) 71;rw[hw4];have F4:=Za (F3.out.below hB4);have R4:=Za (Zv Yk _ _ _ _ _ _ (fun p v hp hc=>⟨hp.2.1,hc⟩) ((Zv Yk).new R3.out (Qb _) hB4):rSl 4 rVl (Old w4) w4 [.slice A n c] vs);have G0:=Za ((hB4.block _ (Qa.1 D0.out).1).trans D0.out);have G1:=Za ((hB4.block _ (Qa.1 D1.out).1).trans D1.out);have G2:=Za ((hB4.block _ (Qa.1 D2.out).1).trans D2.out);have B4:=Za (B2.out.trans (F4.out.bel.mono B2.out.size));obtain⟨s0,s1,s2,s3,s4,s5,s6,s7,s8,s9,s10,_⟩:=Zg b4;obtain⟨t0,t1,t2,t3,_⟩:=Ze G1.out;have htk:=Zrs qa qb qc qd (.int .u32 gen) (.int .i64 root) (.slice D dl dc) s vs g next g1 g2 lo A n c i r o f w2 w4 E3.out F4.out R4.out hl256.out;obtain⟨TE,hTE⟩:∃ q,tkF s vs g.2 next i r=q:=⟨_,rfl⟩
 rw[hTE] at htk;have htk':=Za htk;have hTE':=Za hTE;replace hw4:=Za hw4;replace hs4:=Za hs4;clear htk hTE hB4 b4 D0 D1 D2 F3 R3
 go_wp2_with fail
 with_reducible refine htk'.out.mono ?_
 rintro e w5 ⟨rfl,hb5⟩;have J0:=Za ((hb5.block _ (Qa.1 G0.out).1).trans G0.out);have J1:=Za ((hb5.block _ (Qa.1 G1.out).1).trans G1.out);have J2:=Za ((hb5.block _ (Qa.1 G2.out).1).trans G2.out);have B5:=Za (B4.out.trans (hb5.mono B4.out.size));have hlo5:=Za (show w2.heap.size<=w5.heap.size from Qi F4.out.bel.size hb5.size);clear hb5 s0 s1 s2 s3 s4 s5 s6 s7 s8 s9 s10 t0 t1 t2 t3 G0 G1 G2 F4 R4 B4 E3;by_cases hT0:TE=0
 case neg =>
  have e1:(TE != 0)=true:=by simpa using hT0
  have hW:Hid (Z19 (s,gen,root,next,dead) (i,r,f,o) TE Zhv):=Za (.inr ⟨vs,g,hyes'.out,.inl ⟨by rw[hTE'.out];exact hT0,hTE'.out.symm,rfl⟩⟩);have BF:=B5;have cz:=J2.out;clear hT0;obtain⟨u0,u1,u2,u3,u4,u5,u6,u7,uf,_⟩:=Zm cz;obtain⟨wz,hwz,bz,grz,gsz⟩:=Ua (a':=.slice none 0 0) (b':=.slice none 0 0) (c':=.slice none 0 0) (d':=.slice none 0 0) (e':=.int .u32 0) (f':=.int .i64 0) (g':=.int .u32 0) (h':=.slice none 0 0) cz;obtain⟨f0,f1,f2,f3,f4,f5,f6,f7,_⟩:=Zm bz;have hBz:=Za (BF.out.grown grz BF.out.size (fun q e=>by cases e;exact hlo.out));have cz':=Za cz;clear cz bz grz gsz
  go_wp2_with fail
  refine P7 (v:=.tuple #[.agg #[.slice none 0 0,.slice none 0 0,.slice none 0 0,.slice none 0 0,.int .u32 0,.int .i64 0,.int .u32 0,.slice none 0 0],.int .i64 (TE)]) (by simp[results,Tryz.results12,go_sem,f0,f1,f2,f3,f4,f5,f6,f7]) rfl ?_;exact Zj0 hW.out hBz.out
 subst hT0;have hrng:8<=r/\r<256:=by
  have h:=hTE'.out;unfold tkF at h;split at h
  ·cases h
  ·omega
 have hiv:InV (i,r,f,o):=⟨HI.out.1,⟨by show 0<=r;omega,by show r<65536;omega⟩,HI.out.2⟩
 have hio:=Za (Zhx hiv w5);obtain⟨t0,t1,t2,t3,_⟩:=Ze J1.out;clear hrng hiv
 go_upto_region 7 with fail
 go_wp2_with fail
 with_reducible refine hio.out.mono ?_
 rintro e w6 ⟨A6,c6,rfl,hI6,hb6⟩;obtain⟨w7,hw7,_,_,_,_,_,hs7,hB7,b7⟩:=Zz w6 (.int .u8 1) (.int .u32 i) (.int .u32 0) (.int .i64 0) (.slice A6 7 c6) 79;have hb57:=hb6.trans (hB7.mono hb6.size);have L0:=Za ((hb57.block _ (Qa.1 J0.out).1).trans J0.out);have L2:=Za ((hb57.block _ (Qa.1 J2.out).1).trans J2.out);have B7:=Za (B5.out.trans (hb57.mono B5.out.size))
 have hlo7:=Za (show w2.heap.size<=w7.heap.size by
  have:=(Qa.1 L2.out).1;have:=hb57.size;have:=hlo5.out
  omega)
 have hpc:=Za (Z2d (a:=root) (HP.out.sto.below B7.out) (hI6.drop.below hB7));obtain⟨y0,y1,y2,y3,y4,_⟩:=Zq b7;obtain⟨p0,p1,p2,p3,p4,p5,p6,p7,_⟩:=Zm L0.out;replace hs7:=Za hs7;clear hI6 hb6 hB7 b7 hb57 t0 t1 t2 t3 J0 J1 J2 B5 hio
 go_upto_region 8 with fail
 clear hw7
 go_upto_region 10 with fail
 go_wp2_with fail
 with_reducible refine hpc.out.mono ?_
 rintro e w8 ⟨l,ra,rb,rc,rd,hl,rfl,hs,hb8⟩;obtain⟨E8,hE8⟩:∃ q,(Zci s root (Ym (i,r,f,o)) l).1=q:=⟨_,rfl⟩
 obtain⟨T8,hT8⟩:∃ q,(Zci s root (Ym (i,r,f,o)) l).2.1=q:=⟨_,rfl⟩
 obtain⟨N8,hN8⟩:∃ q,(Zci s root (Ym (i,r,f,o)) l).2.2=q:=⟨_,rfl⟩
 have hr8:=Za (hR.out vs g hyes'.out hTE'.out l hl);rw[hE8,hN8] at hr8;rw[hE8,hN8];rw[hT8] at hs;obtain⟨w9,hw9,b9,hs9,hB9⟩:=Xy w8 (.slice ra.1 ra.2.1 ra.2.2) (.slice rb.1 rb.2.1 rb.2.2) (.slice rc.1 rc.2.1 rc.2.2) (.slice rd.1 rd.2.1 rd.2.2) 29;have hb79:=hb8.trans (hB9.mono hb8.size);have M0:=Za ((hb79.block _ (Qa.1 L0.out).1).trans L0.out);have M2:=Za ((hb79.block _ (Qa.1 L2.out).1).trans L2.out);have B9:=Za (B7.out.trans (hb79.mono B7.out.size));have T9:=Za (hs.drop.below hB9);have TS9:=Za (hs.new (lo':=w2.heap.size) hlo7.out hB9);have lo9:=Za (show w2.heap.size<=w9.heap.size from Qi hlo7.out hb79.size);have N9:=Za b9;have hl':=Za hl;have hE8':=Za hE8;have hT8':=Za hT8;have hN8':=Za hN8;replace hs9:=Za hs9;clear hl hs hb8 hB9 b9 hb79 hE8 hT8 hN8 hpc y0 y1 y2 y3 y4 p0 p1 p2 p3 p4 p5 p6 p7 L0 L2 B7
 go_upto_region 11 with fail
 clear hw9;by_cases h80:E8=0
 case neg =>
  have e1:(E8 != 0)=true:=by simpa using h80
  have hW:Hid (Z19 (s,gen,root,next,dead) (i,r,f,o) E8 Zhv):=Za (.inr ⟨vs,g,hyes'.out,.inr ⟨hTE'.out,l,hl'.out,.inl ⟨by rw[hE8'.out];exact h80,hE8'.out.symm,rfl⟩⟩⟩);have BF:=B9;have cz:=M2.out;clear h80;obtain⟨u0,u1,u2,u3,u4,u5,u6,u7,uf,_⟩:=Zm cz;obtain⟨wz,hwz,bz,grz,gsz⟩:=Ua (a':=.slice none 0 0) (b':=.slice none 0 0) (c':=.slice none 0 0) (d':=.slice none 0 0) (e':=.int .u32 0) (f':=.int .i64 0) (g':=.int .u32 0) (h':=.slice none 0 0) cz;obtain⟨f0,f1,f2,f3,f4,f5,f6,f7,_⟩:=Zm bz;have hBz:=Za (BF.out.grown grz BF.out.size (fun q e=>by cases e;exact hlo.out));have cz':=Za cz;clear cz bz grz gsz
  go_wp2_with fail
  refine P7 (v:=.tuple #[.agg #[.slice none 0 0,.slice none 0 0,.slice none 0 0,.slice none 0 0,.int .u32 0,.int .i64 0,.int .u32 0,.slice none 0 0],.int .i64 (E8)]) (by simp[results,Tryz.results12,go_sem,f0,f1,f2,f3,f4,f5,f6,f7]) rfl ?_;exact Zj0 hW.out hBz.out
 subst h80;have hdl:dl<=100000:=by
  have h1:=(look_ok hyes'.out).dead;obtain⟨_,_,e,_⟩:=HP.out.dead;cases e;exact Qi h1 (by omega)
 have hgw:=Za (Zrp qa qb qc qd s gen root next dead D dl dc ra rb rc rd T8 N8 w9 (HP.out.below B9.out) T9.out (hr8.out rfl) hdl);obtain⟨p0,p1,p2,p3,p4,p5,p6,p7,_⟩:=Zm M0.out;obtain⟨z0,z1,z2,z3,_⟩:=Ze N9.out;clear hdl
 go_upto_region 13 with fail
 go_wp2_with fail
 with_reducible refine hgw.out.mono ?_
 rintro e wa ⟨U,uc,rfl,hPa,hdn,hba⟩;obtain⟨wb,hwb,bb,hsb,hBb⟩:=Zb6 wa (.slice ra.1 ra.2.1 ra.2.2) (.slice rb.1 rb.2.1 rb.2.2) (.slice rc.1 rc.2.1 rc.2.2) (.slice rd.1 rd.2.1 rd.2.2) (.int .u32 gen) (.int .i64 N8) (.int .u32 next) (.slice U dl uc) 33;have hb9b:=hba.trans (hBb.mono hba.size);have Q2:=Za ((hb9b.block _ (Qa.1 M2.out).1).trans M2.out);have Bb:=Za (B9.out.trans (hb9b.mono B9.out.size));have Pb:=Za (hPa.below hBb);have TSb:=Za (TS9.out.new (Qb _) hb9b);have Dnb:=Za ((Zv (Xk _)).new hdn lo9.out hBb);have Nb:=Za bb;have hck:=Zr2 ra rb rc rd T8 gen N8 next dead U dl uc wb Pb.out;obtain⟨KE,hKE⟩:∃ q,Zdb (T8,gen,N8,next,dead)=q:=⟨_,rfl⟩
 rw[hKE] at hck;have hck':=Za hck;have hKE':=Za hKE;replace hsb:=Za hsb;clear hPa hdn hba hBb bb hb9b hck hKE p0 p1 p2 p3 p4 p5 p6 p7 z0 z1 z2 z3 M0 M2 B9 T9 N9 hgw
 go_upto_region 14 with fail
 clear hwb;obtain⟨p0,p1,p2,p3,p4,p5,p6,p7,_⟩:=Zm Nb.out
 go_wp2_with fail
 with_reducible refine hck'.out.mono ?_
 rintro e wc ⟨rfl,hbc⟩;have cz:=(hbc.block _ (Qa.1 Q2.out).1).trans Q2.out;have BF:=Za (Bb.out.trans (hbc.mono Bb.out.size));have Pc:=Za (Pb.out.below hbc);have TSc:=Za (TSb.out.new (Qb _) hbc);have Dnc:=Za ((Zv (Xk _)).new Dnb.out (Qb _) hbc);have nc:=(hbc.block _ (Qa.1 Nb.out).1).trans Nb.out;clear hbc p0 p1 p2 p3 p4 p5 p6 p7;by_cases hk0:KE=0
 case neg =>
  have e1:(KE != 0)=true:=by simpa using hk0
  have hW:Hid (Z19 (s,gen,root,next,dead) (i,r,f,o) KE Zhv):=Za (.inr ⟨vs,g,hyes'.out,.inr ⟨hTE'.out,l,hl'.out,.inr ⟨hE8'.out,.inl ⟨by rw[hT8'.out,hN8'.out,hKE'.out];exact hk0,by rw[hT8'.out,hN8'.out];exact hKE'.out.symm,rfl⟩⟩⟩⟩);clear hk0 nc;obtain⟨u0,u1,u2,u3,u4,u5,u6,u7,uf,_⟩:=Zm cz;obtain⟨wz,hwz,bz,grz,gsz⟩:=Ua (a':=.slice none 0 0) (b':=.slice none 0 0) (c':=.slice none 0 0) (d':=.slice none 0 0) (e':=.int .u32 0) (f':=.int .i64 0) (g':=.int .u32 0) (h':=.slice none 0 0) cz;obtain⟨f0,f1,f2,f3,f4,f5,f6,f7,_⟩:=Zm bz;have hBz:=Za (BF.out.grown grz BF.out.size (fun q e=>by cases e;exact hlo.out));have cz':=Za cz;clear cz bz grz gsz
  go_wp2_with fail
  refine P7 (v:=.tuple #[.agg #[.slice none 0 0,.slice none 0 0,.slice none 0 0,.slice none 0 0,.int .u32 0,.int .i64 0,.int .u32 0,.slice none 0 0],.int .i64 (KE)]) (by simp[results,Tryz.results12,go_sem,f0,f1,f2,f3,f4,f5,f6,f7]) rfl ?_;exact Zj0 hW.out hBz.out
 subst hk0;have hW:Hid (Z19 (s,gen,root,next,dead) (i,r,f,o) 0 (T8,gen,N8,next,dead)):=Za (.inr ⟨vs,g,hyes'.out,.inr ⟨hTE'.out,l,hl'.out,.inr ⟨hE8'.out,.inr ⟨by rw[hT8'.out,hN8'.out];exact hKE'.out,rfl,by rw[hT8'.out,hN8'.out]⟩⟩⟩⟩);obtain⟨p0,p1,p2,p3,p4,p5,p6,p7,_⟩:=Zm nc;obtain⟨u0,u1,u2,u3,u4,u5,u6,u7,uf,_⟩:=Zm cz;obtain⟨wz,hwz,bz,grz,gsz⟩:=Ua (a':=.slice ra.1 ra.2.1 ra.2.2) (b':=.slice rb.1 rb.2.1 rb.2.2) (c':=.slice rc.1 rc.2.1 rc.2.2) (d':=.slice rd.1 rd.2.1 rd.2.2) (e':=.int .u32 gen) (f':=.int .i64 N8) (g':=.int .u32 next) (h':=.slice U dl uc) cz;obtain⟨f0,f1,f2,f3,f4,f5,f6,f7,_⟩:=Zm bz;have hBz:=Za (BF.out.grown grz BF.out.size (fun q e=>by cases e;exact hlo.out));have hNz:Hid (Zua ra rb rc rd U dl uc T8 dead w.heap.size wz):=Za ⟨(TSc.out.grown grz (fun q e=>by cases e;exact hlt.out)).new B2.out.size (Qd _ _),(Zv (Xk _)).mono ((Zv (Xk _)).grown Dnc.out grz (fun q e=>by cases e;exact hlt.out)) B2.out.size⟩;have hPz:Hid (Zhi ra rb rc rd U dl uc T8 gen N8 next dead wz):=Za (hNz.out.pol Pc.out.inn);have cz':=Za cz;have nc':=Za nc;clear cz nc bz grz gsz
 go_wp2_with fail
 refine P7 (v:=.tuple #[.agg #[.slice ra.1 ra.2.1 ra.2.2,.slice rb.1 rb.2.1 rb.2.2,.slice rc.1 rc.2.1 rc.2.2,.slice rd.1 rd.2.1 rd.2.2,.int .u32 gen,.int .i64 N8,.int .u32 next,.slice U dl uc],.int .i64 0]) (by simp[results,Tryz.results12,go_sem,f0,f1,f2,f3,f4,f5,f6,f7]) rfl ?_;exact⟨0,(T8,gen,N8,next,dead),ra,rb,rc,rd,U,dl,uc,rfl,hW.out,hPz.out,hNz.out,hBz.out⟩}
theorem Zu8 {z:It}{i:Nat}(h:8<=z.2.1):Xh [z] i=if i=z.2.1.toNat then 1 else 0:=by
 show (if z.2.1=(i:Int) then (if z.2.1=0 then 0 else 1) else 0)+0=_;by_cases e:i=z.2.1.toNat
 ·rw[if_pos (show z.2.1=(i:Int) by omega),if_neg (show ¬ z.2.1=0 by omega),if_pos e]
 ·rw[if_neg (show ¬ z.2.1=(i:Int) by omega),if_neg e]
theorem Zmu:∀ (l:List It) (v:Rm),(Zsv v l).1=v.1
 | [],_=>rfl
 | q::r,v=>by rw[Zlq,Zmu r];rfl
theorem Z2b {s u1 T:Rm}{a:Int}{x:It}{up top:List It}{l:Nat}{P:Nat->Nat}{N N1:List Int}(hl:l<6) (G:Zgo s u1 P N N1 l a up x Zed false) (h:Va u1 (l:Int) up=(0,T,top)) :
  ∃ (L:Nat) (z:It) (N2:List Int),Zqg top=z.2.1/\Zbl s T/\Yx T L z.2.1 z.1 Zed false=true/\Uh T L z.2.1=Uc (Uh s l a) x/\Enf T.1 T.2.1 (fun i=>P i+if i=z.2.1.toNat then 1 else 0) N2/\(∀ m∈N,m∈N2)/\z.2.1∈N2/\8<=z.2.1/\T.1.2.length<=s.1.2.length+2*(l+1)+1/\l<=L/\L<=l+1:=by{
 obtain⟨z,r,ez,_⟩:=G.first;rcases Zuy h with ⟨h1,rfl,rfl⟩ | ⟨h1,u0,h2,rfl⟩
 ·have hr:r=[]:=by
   rw[ez] at h1;cases r with
   | nil=>rfl
   | cons _ _=>simp at h1
  subst hr;obtain⟨f1,f2,f3,f4⟩:=G.ups z (by rw[ez];exact Qo);have hi:=G.its;have ha:=G.all;rw[ez] at hi ha;refine⟨l,z,N1,by rw[ez];rfl,G.keep,hi,?_,G.enf.same fun i=>by rw[ez,Zu8 f2],G.more,f1,f2,?_,Qb _,by omega⟩
  ·rw[<- ha,List.flatMap_cons]
   simp
  ·have:=G.writes
   omega
 ·have hne:up≠[]:=by rw[ez];simp
  have hfew:=G.few;rcases Za7 h2 with ⟨m1,em,et⟩ | ⟨m0,_⟩
  ·have m2:=(Z0 (Zx6 m1).2.1).1.2.1
   have hin:InN ((l:Int)+1,up):=⟨⟨by show (-9223372036854775808:Int)<=(l:Int)+1;omega,by show (l:Int)+1<=9223372036854775807;omega⟩,G.inI⟩
   have hrow:Zsz u1 (l+1) up Zed false (Uc (Uh s l a) x):=⟨G.its,G.all.symm⟩
   have ec:((l:Int)+1)=((l+1:Nat):Int):=by omega
   obtain⟨N2,e1,k2,e3,e4,e5,e6,_,_⟩:=Za0 h2 hin G.enf fun _ q hq=>by
    obtain⟨f1,f2,_,f4⟩:=G.ups q hq;exact⟨f1,by omega,by omega⟩
   obtain⟨k3,e9⟩:=Zkk up (s:=u0) (P:=fun i=>P i+Xh top i) (N:=N2) k2.may (e1.same fun i=>by show P i+Xh top i+Xh up i=P i+Xh up i+Xh top i;omega) fun q hq=>by
    obtain⟨_,f2,_,_⟩:=G.ups q hq;obtain⟨n,hn,hqn⟩:=e6 q hq;exact⟨by omega,n,hn,q,hqn,rfl⟩
   rw[ec] at m1 em et hin;obtain⟨g1,g2⟩:=Zck m1 hin hne hrow;rw[<- em] at g1 g2;obtain⟨f1,f2,f3,f4⟩:=e5 (upI up (mkN u1 (((l+1:Nat):Int),up))) (by rw[et];exact Qo);obtain⟨g3,g4,_⟩:=Yu k3 (l+1) _ _ _ _ g1;refine⟨l+1,upI up (mkN u1 (((l+1:Nat):Int),up)),N2,by rw[et];rfl,Uu (Uu G.keep k2) k3,g3,g4.trans g2,e9.same fun i=>by rw[et,Zu8 f2],fun m hm=>e3 m (G.more m hm),f1,f2,?_,by omega,Qb _⟩;rw[Zmu,em];obtain⟨k,_,_,_,_,_,_,hV,_⟩:=U7 m1;rw[hV];have:=G.writes;simp only[wrD,Qj,Qr,Qs];omega
  ·omega}
theorem Z03 {s:Rm}{P:Nat->Nat}{N:List Int}(hm:Xz s=true) (hE:Enf s.1 s.2.1 P N){i n:Int}{z:It}(h8:8<=i) (h256:i<256) (hn:n∈N) (hz:z∈(ndD s.1 n).2) (e:z.2.1=i):asE s i=0:=by
 have h1:=hE.enough i.toNat;have h2:=Zi6 hz (k:=i.toNat) (by omega) (by omega);have h3:=Zjp (d:=s.1) (k:=i.toNat) hn;have h4:=Zh1 (s:=s) (k:=i.toNat) hm (by omega) (by omega) (Zf1.1 (by omega))
 rwa [show ((i.toNat:Nat):Int)=i by omega] at h4
theorem Z0y {s:Rm}{i:Int}(h:asE s i=0):loV s i=Zkj s i:=by
 unfold loV;rw[if_pos h];rfl
theorem Znl:∀ (l:List It){s:Rm}{P:Nat->Nat}{N:List Int},Xz s=true->Enf s.1 s.2.1 (fun i=>P i+Xh l i) N->(∀ x∈l,(8<=x.2.1/\x.2.1<256)/\∃ n∈N,∃ z∈(ndD s.1 n).2,z.2.1=x.2.1)->Zht l s=(0,Zsv s l)
 | [],_,_,_,_,_,_=>rfl
 | x::l,s,P,N,hm,hE,hr=>by
  obtain⟨h0,n,hn,z,hz,e⟩:=hr x Qo;have ha:=Z03 hm hE h0.1 h0.2 hn hz e
  obtain⟨k1,e1⟩:=Zou (P:=fun i=>P i+Xh l i) hm (hE.same fun i=>by
   have ec:Xh (x::l) i=(if x.2.1=(i:Int) then (if x.2.1=0 then 0 else 1) else 0)+Xh l i:=rfl;show P i+Xh l i+(if i=x.2.1.toNat then 1 else 0)=P i+Xh (x::l) i;rw[ec];by_cases e:x.2.1=(i:Int)
   ·rw[if_pos e,if_neg (show ¬ x.2.1=0 by omega),if_pos (show i=x.2.1.toNat by omega)];omega
   ·rw[if_neg e,if_neg (show ¬ i=x.2.1.toNat by omega)];omega) (a:=x.2.1) (by omega) ⟨n,hn,z,hz,e⟩
  have e2:=Znl l (s:=Zkj s x.2.1) (P:=P) (N:=N) k1.may e1 fun y hy=>hr y (Qv _ hy)
  unfold Zht;rw[if_neg (by omega),if_pos ha,Z0y ha,e2];rfl
theorem Zlw:∀ (A:List Sv) (q:Sv) (s:Rm) (F:List It),Xa (A++[q]) s F=if (Xa A s F).1=0 then Xa [q] (Xa A s F).2.1 (Xa A s F).2.2 else ((Xa A s F).1,Zn,[])
 | [],q,s,F=>by
  rw[Qy];show _=if (0:Int)=0 then Xa [q] s F else _
  rw[if_pos rfl]
 | p::A,q,s,F=>by
  have e:∀ B,Xa (p::B) s F=if (Vk s p.nd.1 (Xt p F) F).1=0 then Xa B (Vk s p.nd.1 (Xt p F) F).2.1 (Vk s p.nd.1 (Xt p F) F).2.2 else ((Vk s p.nd.1 (Xt p F) F).1,Zn,[]):=fun _=>rfl
  rw[Qu,e,e];by_cases h:(Vk s p.nd.1 (Xt p F) F).1=0
  ·rw[if_pos h,if_pos h]
   exact Zlw A q _ _
  ·rw[if_neg h,if_neg h,if_neg h]
theorem Zk0 (q:Sv) (s:Rm) (F:List It):Xa [q] s F=if (Vk s q.nd.1 (Xt q F) F).1=0 then (0,(Vk s q.nd.1 (Xt q F) F).2.1,(Vk s q.nd.1 (Xt q F) F).2.2) else ((Vk s q.nd.1 (Xt q F) F).1,Zn,[]):=rfl
theorem Zmh:∀ (A:List Sv) (q:Sv) (m:Nat),A≠[]->Zcb (A++[q]) m=(Zcb A m&&decide (5<Zpu q 2))
 | [],_,_,h=>absurd rfl h
 | [p],q,m,_=>by
  show (if Zpu p m<=5 then false else if Zpu q 2<=5 then false else true)=((if Zpu p m<=5 then false else true)&&decide (5<Zpu q 2));split
  ·rfl
  ·by_cases h:Zpu q 2<=5
   ·rw[if_pos h];simp;omega
   ·rw[if_neg h];simp;omega
 | p::p'::A,q,m,_=>by
  rw[Qu];unfold Zcb;split
  ·rfl
  ·exact Zmh (p'::A) q 2 (List.cons_ne_nil _ _)
theorem Zpc {s:Rm}{l:Nat}{a:Int}{tb:Ky}{e:Bool}{x:It}{N:List Int}{Q:Nat->Nat}(ht:Zsy s (l+1) a tb e) (hb:e=true->Zr x.1 tb=true) (ha:a∈N) (hE:Enf s.1 s.2.1 Q N) :
  ∃ tb' e',Zsy s l (Ze4 (rmV s a) x.1) tb' e'/\(e'=true->Zr x.1 tb'=true)/\Ze4 (rmV s a) x.1∈N:=by{
 have hm:=(Xf ht.ok).1;have hne:0<(rmV s a).2.length:=(Z0 hm).1.2.2.2 (by rw[ht.lv];omega);obtain⟨y,hy⟩:∃ y,(rmV s a).2[Zaq (rmV s a) x.1]? = some y:=⟨_,Qg (Zle x.1 hne)⟩
 have hw:=Zq0 hy;have hyin:y∈(rmV s a).2:=Qz hy;rw[Zv8 hy];have hbe:=fun(i:Nat) (c:It) (hi:Zaq (rmV s a) x.1<i) (hc:(rmV s a).2[i]? = some c)=>Zic hm hi hc
 have hCk:∀ c r,(rmV s a).2.drop (Zaq (rmV s a) x.1+1)=c::r->Zr x.1 c.1=true:=fun c r hc=>by
  refine hbe (Zaq (rmV s a) x.1+1) c (by omega) ?_;have:=congrArg (fun l=>l[0]?) hc
  simpa [List.getElem?_drop] using this
 generalize hAe:(rmV s a).2.take (Zaq (rmV s a) x.1)=A at *;generalize hCe:(rmV s a).2.drop (Zaq (rmV s a) x.1+1)=C at *;have hinn:Zbq (Yx s l) (rmV s a).2 tb e=true:=ht.inn;rw[hw] at hinn;rw[Vm,Ps,Zaf,Ps] at hinn;obtain⟨iA,iy,iC⟩:=hinn;obtain⟨hty,_⟩:=Zlk iy;refine⟨_,_,hty,fun he=> ?_,?_⟩
 ·cases hC:C with
  | nil=>rw[hC] at he;exact hb he
  | cons c r=>exact hCk c r hC
 ·have hnd:ndD s.1 a=rmV s a:=Zmg ht.ok
  exact(hE.shut a ha (by rw[hnd,ht.lv];omega) y (by rw[hnd];exact hyin)).1}
theorem Zoa {s:Rm}{a:Int}{x:It}{N:List Int}{Q:Nat->Nat}{l0:Nat}(ht:Zsy s l0 a Zed false) (ha:a∈N) (hE:Enf s.1 s.2.1 Q N):∀ j,j<=l0->∃ tb e,Zsy s (l0-j) (atW s x.1 a j) tb e/\(e=true->Zr x.1 tb=true)/\atW s x.1 a j∈N
 | 0,_=>⟨Zed,false,ht,(nomatch ·),ha⟩
 | j+1,hj=>by
  obtain⟨tb,e,h1,h2,h3⟩:=Zoa ht ha hE j (by omega);rw[show l0-j=(l0-(j+1))+1 by omega] at h1;exact Zpc h1 h2 h3 hE
theorem Zyh {x:It}(hx:InI x) (hmx:Zas x=true){s:Rm}{a:Int}{tb:Ky}{e:Bool}{P:Nat->Nat}{N:List Int}(ht:Zsy s 0 a tb e) (hE:Enf s.1 s.2.1 (fun i=>P i+Zcx x i) N){q:Sv}(hq:q.nd=rmV s a) (hst:(q.pl,q.inst)=Zfq q.nd x.1) :
  Xa [q] s [x]=Zl x 0 s a:=by{
 have h0:q.nd.1=0:=by rw[hq,ht.lv];rfl
 have eL:Xt q [x]=Zft (rmV s a).2 (Z4 (rmV s a) x.1) (if Y3 (rmV s a) x.1=true then 1 else 0) [x]:=by
  unfold Zfq at hst;rw[if_pos h0] at hst;simp only[Prod.mk.injEq] at hst;unfold Xt Zft;rw[hst.1,hst.2,hq]
 rw[Zk0,h0,eL];unfold Zl Vk;by_cases hb:(Z5 s 0 (Zft (rmV s a).2 (Z4 (rmV s a) x.1) (if Y3 (rmV s a) x.1=true then 1 else 0) [x])).1=0
 ·rw[if_pos hb,if_pos hb]
  generalize hbb:Z5 s 0 (Zft (rmV s a).2 (Z4 (rmV s a) x.1) (if Y3 (rmV s a) x.1=true then 1 else 0) [x])=b at hb;obtain⟨z,u0,up⟩:=b;obtain rfl:z=0:=hb;have hm:=(Xf ht.ok).1;have el:Zft (rmV s a).2 (Z4 (rmV s a) x.1) (if Y3 (rmV s a) x.1=true then 1 else 0) [x]=Uc (rmV s a).2 x:=Zkc hm x;rw[el] at hbb
  have hi:InN ((0:Int),Uc (rmV s a).2 x):=⟨⟨by simp,by simp⟩,fun y hy=>by
   rcases Zby.1 hy with rfl | ⟨hy,_⟩
   ·exact hx
   ·exact(Zzi ht.ok).it y hy⟩
  obtain⟨N',e1,k1,e3,e4,e5,e6,e7,e8⟩:=Za0 hbb hi hE fun h0=>absurd rfl h0;have hlo:Zht [x] u0=(0,if x.2.1=0 then u0 else Zkj u0 x.2.1):=by
   by_cases hx0:x.2.1=0
   ·rw[if_pos hx0]
    unfold Zht;rw[if_pos hx0];rfl
   ·rw[if_neg hx0]
    obtain⟨n,hn,hxn⟩:=e6 x (Zby.2 (.inl rfl));have hr:=(Ud hmx).1;have ha:=Z03 k1.may e1 (i:=x.2.1) (by omega) (by omega) hn hxn rfl;unfold Zht;rw[if_neg hx0,if_pos ha,Z0y ha];rfl
  rw[hlo];rfl
 ·rw[if_neg hb,if_neg hb,if_neg hb]}
theorem Zpt {x:It}(hx:InI x) (hmx:Zas x=true){s:Rm}{a:Int}{P:Nat->Nat}{N:List Int}{l0:Nat}(h6:l0<6) (ht:Zsy s l0 a Zed false) (ha:a∈N) (hr:x.2.1=0\/(0<x.2.1/\s.2.1[x.2.1.toNat]?.getD 0≠0))
  (hE:Enf s.1 s.2.1 (fun i=>P i+Zcx x i) N) {l:List Sv} (hll:l.length=l0+1) (are:∀ i q,l[i]? = some q->q.nd=rmV s (atW s x.1 a i)/\(q.pl,q.inst)=Zfq q.nd x.1) :
  ∀ (d j:Nat),j+d=l0->Xa (l.drop j).reverse s [x]=Zl x d s (atW s x.1 a j)
 | 0,j,hj=>by
  obtain⟨tb,e,h1,h2,h3⟩:=Zoa (x:=x) ht ha hE j (by omega);have hjl:j<l.length:=by omega
  obtain⟨q,hq⟩:∃ q,l[j]? = some q:=⟨_,Qg hjl⟩
  have hd:l.drop j=[q]:=by
   rw[Qk hjl,(Qh.1 hq).2,Qp (by omega)]
  rw[hd,Pt];rw[show l0-j=0 by omega] at h1;exact Zyh hx hmx h1 hE (are j q hq).1 (are j q hq).2
 | d+1,j,hj=>by
  obtain⟨tb,e,h1,h2,h3⟩:=Zoa (x:=x) ht ha hE j (by omega);have hjl:j<l.length:=by omega
  obtain⟨q,hq⟩:∃ q,l[j]? = some q:=⟨_,Qg hjl⟩
  have hd:(l.drop j).reverse=(l.drop (j+1)).reverse++[q]:=by
   rw[Qk hjl,(Qh.1 hq).2,Pu]
  obtain⟨a1,a2⟩:=are j q hq;rw[show l0-j=d+1 by omega] at h1;have ih:=Zpt hx hmx h6 ht ha hr hE hll are d (j+1) (by omega);have hat:atW s x.1 a (j+1)=Ze4 (rmV s (atW s x.1 a j)) x.1:=rfl;generalize atW s x.1 a j=b at *;rw[hat] at ih;have hq1:q.nd.1=((d+1:Nat):Int):=by rw[a1,h1.lv]
  have eL:∀ F,Xt q F=Zft (rmV s b).2 (Zaq (rmV s b) x.1) 1 F:=fun F=>by
   unfold Zfq at a2;rw[if_neg (by omega)] at a2;simp only[Prod.mk.injEq] at a2;unfold Xt Zft;rw[a2.1,a2.2,a1];rfl
  rw[hd,Zlw,ih]
  conv=>rhs;unfold Zl
  by_cases hg:(Zl x d s (Ze4 (rmV s b) x.1)).1=0
  ·rw[if_pos hg,if_pos hg]
   obtain⟨tb',e',h1',h2',h3'⟩:=Zpc h1 h2 h3 hE;generalize hgg:Zl x d s (Ze4 (rmV s b) x.1)=g at hg;obtain⟨z,u1,up1⟩:=g;obtain rfl:z=0:=hg;obtain⟨N1,G⟩:=Zfx hx hr hE d (by omega) h1' h2' h3' hgg;rw[Zk0,eL,hq1];unfold Vk;by_cases hb:(Z5 u1 ((d+1:Nat):Int) (Zft (rmV s b).2 (Zaq (rmV s b) x.1) 1 up1)).1=0
   ·rw[if_pos hb,if_pos hb]
    generalize hbb:Z5 u1 ((d+1:Nat):Int) (Zft (rmV s b).2 (Zaq (rmV s b) x.1) 1 up1)=bb at hb;obtain⟨z,u2,up⟩:=bb;obtain rfl:z=0:=hb;have hm:=(Xf h1.ok).1
    have hin:InN (((d+1:Nat):Int),Zft (rmV s b).2 (Zaq (rmV s b) x.1) 1 up1):=⟨⟨by show (-9223372036854775808:Int)<=((d+1:Nat):Int);omega,by show ((d+1:Nat):Int)<=9223372036854775807;omega⟩,fun p hp=>by
     have hN:=(Zzi h1.ok).it;rcases Ql.1 hp with hp | hp
     ·exact hN p (Qn hp)
     ·rcases Ql.1 hp with hp | hp
      ·exact G.inI p hp
      ·exact hN p (Q0 hp)⟩
    have hnd:ndD s.1 b=rmV s b:=Zmg h1.ok;have hsh:∀ p∈(rmV s b).2,p.2.1∈N1/\p.2.1≠0/\(ndD u1.1 p.2.1).1+1=((d+1:Nat):Int):=fun p hp=>by
     have:=hE.shut b h3 (by rw[hnd,h1.lv];omega) p (by rw[hnd];exact hp);rw[hnd,h1.lv] at this;exact⟨G.more _ this.1,this.2.1,by rw[Ztr G.keep hE this.1];exact this.2.2⟩
    obtain⟨N2,e1,k2,e3,e4,e5,e6,e7,e8⟩:=Za0 hbb hin G.enf fun _ p hp=>by
     rcases Ql.1 hp with hp | hp
     ·exact hsh p (Qn hp)
     ·rcases Ql.1 hp with hp | hp
      ·obtain⟨f1,f2,f3,f4⟩:=G.ups p hp
       exact⟨f1,by omega,by rw[f4];omega⟩
      ·exact hsh p (Q0 hp)
    have hlo:=Znl up1 (s:=u2) (P:=fun i=>P i+Xh up i) (N:=N2) k2.may (e1.same fun i=>by show P i+Xh up i+Xh up1 i=P i+Xh up1 i+Xh up i;omega) fun p hp=>by
     obtain⟨_,f2,f3,_⟩:=G.ups p hp;obtain⟨n,hn,hpn⟩:=e6 p (List.mem_append_right _ (List.mem_append_left _ hp));exact⟨⟨f2,f3⟩,n,hn,p,hpn,rfl⟩
    rw[hlo];rfl
   ·rw[if_neg hb,if_neg hb,if_neg hb]
  ·rw[if_neg hg,if_neg hg]
theorem Zp6 {x:It}{s:Rm}{a:Int}{l0:Nat}(hT:AtT s l0 a){l:List Sv}(hll:l.length=l0+1) (are:∀ i q,l[i]? = some q->q.nd=rmV s (atW s x.1 a i)/\(q.pl,q.inst)=Zfq q.nd x.1) :
  ∀ (d j:Nat),j+d=l0->Zcb (l.drop j).reverse 1=Zov s d (atW s x.1 a j) x.1
 | 0,j,hj=>by
  have h1:=Zhe (k:=x.1) hT j (by omega);have hjl:j<l.length:=by omega
  obtain⟨q,hq⟩:∃ q,l[j]? = some q:=⟨_,Qg hjl⟩
  have hd:l.drop j=[q]:=by
   rw[Qk hjl,(Qh.1 hq).2,Qp (by omega)]
  obtain⟨a1,a2⟩:=are j q hq;have h5:=(Z0 h1.may).1.2.2.1;have h0:q.nd.1=0:=by rw[a1,h1.lvl,show l0-j=0 by omega];rfl
  unfold Zfq at a2;rw[if_pos h0] at a2;simp only[Prod.mk.injEq] at a2;rw[hd,Pt];unfold Zov;rw[<- a1] at h5 ⊢;show (if Zpu q 1<=5 then false else true)=_;unfold Zpu;rw[a2.2];cases hth:Y3 q.nd x.1 with
  | true=>simp;omega
  | false =>
   rw[Bool.eq_iff_iff];simp;omega
 | d+1,j,hj=>by
  have h1:=Zhe (k:=x.1) hT j (by omega);have hjl:j<l.length:=by omega
  obtain⟨q,hq⟩:∃ q,l[j]? = some q:=⟨_,Qg hjl⟩
  have hd:(l.drop j).reverse=(l.drop (j+1)).reverse++[q]:=by
   rw[Qk hjl,(Qh.1 hq).2,Pu]
  obtain⟨a1,a2⟩:=are j q hq;have h0:q.nd.1≠0:=by rw[a1,h1.lvl];omega
  unfold Zfq at a2;rw[if_neg h0] at a2;simp only[Prod.mk.injEq] at a2;have ih:=Zp6 hT hll are d (j+1) (by omega)
  rw[hd,Zmh _ _ _ (by
   intro e;have:=congrArg List.length e;rw[Pg,Qx] at this;simp at this
   omega),ih]
  have hat:atW s x.1 a (j+1)=Ze4 (rmV s (atW s x.1 a j)) x.1:=rfl;rw[hat]
  conv=>rhs;unfold Zov
  rw[Bool.and_comm]
  congr 1
  unfold Zpu;rw[a2.2,a1];simp;omega
theorem Zzw {x:It}(hx:InI x) (hmx:Zas x=true){s:Rm}{a:Int}{P:Nat->Nat}{N:List Int}(ht:Ue s a=true) (ha:a∈N) (hr:x.2.1=0\/(0<x.2.1/\s.2.1[x.2.1.toNat]?.getD 0≠0))
  (hE:Enf s.1 s.2.1 (fun i=>P i+Zcx x i) N) {l:List Sv} (hl:Zzq s x.1 a l) :
  Y5 s l x=(if (Zl x (rmV s a).1.toNat s a).1=0 then
   (if (Va (Zl x (rmV s a).1.toNat s a).2.1 (rmV s a).1 (Zl x (rmV s a).1.toNat s a).2.2).1=0 then
    (0,(Va (Zl x (rmV s a).1.toNat s a).2.1 (rmV s a).1 (Zl x (rmV s a).1.toNat s a).2.2).2.1,Zqg (Va (Zl x (rmV s a).1.toNat s a).2.1 (rmV s a).1 (Zl x (rmV s a).1.toNat s a).2.2).2.2)
    else ((Va (Zl x (rmV s a).1.toNat s a).2.1 (rmV s a).1 (Zl x (rmV s a).1.toNat s a).2.2).1,Zn,0))
   else ((Zl x (rmV s a).1.toNat s a).1,Zn,0)):=by{
 obtain⟨r1,ra,_,l0,l6,_⟩:=Zak ht;have hg:=Zpt hx hmx (by omega) (Zkr ht) ha hr hE hl.1 hl.2 (rmV s a).1.toNat 0 (by omega);rw[Q3] at hg;have ell:((l.length:Nat):Int)=(rmV s a).1+1:=by rw[hl.1];omega
 unfold Y5;rw[hg,ell];show (if (Zl x (rmV s a).1.toNat s a).1=0 then _ else _)=_;by_cases h0:(Zl x (rmV s a).1.toNat s a).1=0
 ·rw[if_pos h0,if_pos h0]
  show (if 1<(Zl x (rmV s a).1.toNat s a).2.2.length then _ else (0,(Zl x (rmV s a).1.toNat s a).2.1,Zqg (Zl x (rmV s a).1.toNat s a).2.2))=_;show (if 1<(Zl x (rmV s a).1.toNat s a).2.2.length then (if (Vk (Zl x (rmV s a).1.toNat s a).2.1 ((rmV s a).1+1) (Zl x (rmV s a).1.toNat s a).2.2 (Zl x (rmV s a).1.toNat s a).2.2).1=0 then (0,(Vk (Zl x (rmV s a).1.toNat s a).2.1 ((rmV s a).1+1) (Zl x (rmV s a).1.toNat s a).2.2 (Zl x (rmV s a).1.toNat s a).2.2).2.1,Zqg (Vk (Zl x (rmV s a).1.toNat s a).2.1 ((rmV s a).1+1) (Zl x (rmV s a).1.toNat s a).2.2 (Zl x (rmV s a).1.toNat s a).2.2).2.2) else ((Vk (Zl x (rmV s a).1.toNat s a).2.1 ((rmV s a).1+1) (Zl x (rmV s a).1.toNat s a).2.2 (Zl x (rmV s a).1.toNat s a).2.2).1,Zn,0)) else (0,(Zl x (rmV s a).1.toNat s a).2.1,Zqg (Zl x (rmV s a).1.toNat s a).2.2))=_;generalize hgg:Zl x (rmV s a).1.toNat s a=g at h0;obtain⟨z,u1,up⟩:=g;obtain rfl:z=0:=h0;obtain⟨N1,G⟩:=Zfx hx hr hE _ (by omega) (Zkr ht) (fun he=>by cases he) ha hgg;unfold Va;by_cases h1:1<up.length
  ·rw[if_pos h1,if_pos h1]
   unfold Vk;by_cases hb:(Z5 u1 ((rmV s a).1+1) up).1=0
   ·rw[if_pos hb,if_pos hb]
    generalize hbb:Z5 u1 ((rmV s a).1+1) up=b at hb;obtain⟨z,u0,top⟩:=b;obtain rfl:z=0:=hb;have hin:InN ((rmV s a).1+1,up):=⟨⟨by show (-9223372036854775808:Int)<=(rmV s a).1+1;omega,by show (rmV s a).1+1<=9223372036854775807;omega⟩,G.inI⟩
    obtain⟨N2,e1,k2,e3,e4,e5,e6,_,_⟩:=Za0 hbb hin G.enf fun _ q hq=>by
     obtain⟨f1,f2,_,f4⟩:=G.ups q hq;exact⟨f1,by omega,by omega⟩
    have hlo:=Znl up (s:=u0) (P:=fun i=>P i+Xh top i) (N:=N2) k2.may (e1.same fun i=>by show P i+Xh top i+Xh up i=P i+Xh up i+Xh top i;omega) fun p hp=>by
     obtain⟨_,f2,f3,_⟩:=G.ups p hp;obtain⟨n,hn,hpn⟩:=e6 p hp;exact⟨⟨f2,f3⟩,n,hn,p,hpn,rfl⟩
    rw[hlo];rfl
   ·rw[if_neg hb,if_neg hb,if_neg hb]
    first | done | exact(if_neg hb).symm
  ·rw[if_neg h1,if_neg h1]
   rfl
 ·rw[if_neg h0,if_neg h0]
  rfl}
theorem Zo3 {x:It}(hx:InI x){s:Rm}{a:Int}{P:Nat->Nat}{N:List Int}(ht:Ue s a=true) (ha:a∈N) (hr:x.2.1=0\/(0<x.2.1/\s.2.1[x.2.1.toNat]?.getD 0≠0)) (hE:Enf s.1 s.2.1 (fun i=>P i+Zcx x i) N):∀ {G:Int×Rm×Int},
  G=(if (Zl x (rmV s a).1.toNat s a).1=0 then
   (if (Va (Zl x (rmV s a).1.toNat s a).2.1 (rmV s a).1 (Zl x (rmV s a).1.toNat s a).2.2).1=0 then
    (0,(Va (Zl x (rmV s a).1.toNat s a).2.1 (rmV s a).1 (Zl x (rmV s a).1.toNat s a).2.2).2.1,Zqg (Va (Zl x (rmV s a).1.toNat s a).2.1 (rmV s a).1 (Zl x (rmV s a).1.toNat s a).2.2).2.2)
    else ((Va (Zl x (rmV s a).1.toNat s a).2.1 (rmV s a).1 (Zl x (rmV s a).1.toNat s a).2.2).1,Zn,0))
   else ((Zl x (rmV s a).1.toNat s a).1,Zn,0)) ->
  (if G.1≠0 then (G.1,Zn,0) else if lvE G.2.1 a≠0 then (lvE G.2.1 a,Zn,0) else (0,lvV G.2.1 a,G.2.2)) =
  (if (Zl x (rmV s a).1.toNat s a).1=0 then
  if (Va (Zl x (rmV s a).1.toNat s a).2.1 (rmV s a).1 (Zl x (rmV s a).1.toNat s a).2.2).1=0 then
   match lfO (Va (Zl x (rmV s a).1.toNat s a).2.1 (rmV s a).1 (Zl x (rmV s a).1.toNat s a).2.2).2.1.1 (Va (Zl x (rmV s a).1.toNat s a).2.1 (rmV s a).1 (Zl x (rmV s a).1.toNat s a).2.2).2.1.2.1 a.toNat with
   | none=>(8,Zn,0)
   | some v=>(0,((Va (Zl x (rmV s a).1.toNat s a).2.1 (rmV s a).1 (Zl x (rmV s a).1.toNat s a).2.2).2.1.1,v,(Va (Zl x (rmV s a).1.toNat s a).2.1 (rmV s a).1 (Zl x (rmV s a).1.toNat s a).2.2).2.1.2.2),Zqg (Va (Zl x (rmV s a).1.toNat s a).2.1 (rmV s a).1 (Zl x (rmV s a).1.toNat s a).2.2).2.2)
  else ((Va (Zl x (rmV s a).1.toNat s a).2.1 (rmV s a).1 (Zl x (rmV s a).1.toNat s a).2.2).1,Zn,0)
 else ((Zl x (rmV s a).1.toNat s a).1,Zn,0)):=fun {G} hG=>by
 obtain⟨r1,ra,_,l0,l6,_⟩:=Zak ht;by_cases h0:(Zl x (rmV s a).1.toNat s a).1=0
 ·rw[if_pos h0] at hG ⊢
  generalize hgg:Zl x (rmV s a).1.toNat s a=g at h0 hG;obtain⟨z,u1,up⟩:=g;obtain rfl:z=0:=h0;obtain⟨N1,W⟩:=Zfx hx hr hE _ (by omega) (Zkr ht) (fun he=>by cases he) ha hgg;by_cases h1:(Va u1 (rmV s a).1 up).1=0
  ·rw[if_pos h1] at hG
   rw[if_pos h1];generalize hrr:Va u1 (rmV s a).1 up=r at h1 hG;obtain⟨z,T,top⟩:=r;obtain rfl:z=0:=h1;have hlv:(rmV s a).1=(((rmV s a).1.toNat:Nat):Int):=by omega
   rw[hlv] at hrr;obtain⟨L,z,N2,en,k,_⟩:=Z2b (by omega) W hrr;have haT:=(Zf2 k ra).1;subst hG;show (if (0:Int)≠0 then _ else if lvE T a≠0 then (lvE T a,Zn,0) else (0,lvV T a,Zqg top))=(match lfO T.1 T.2.1 a.toNat with | none=>(8,Zn,0) | some v=>(0,(T.1,v,T.2.2),Zqg top));rw[if_neg (fun h=>h rfl)];unfold lvE lvV;rw[if_pos haT,if_pos haT];cases lfO T.1 T.2.1 a.toNat with
   | none=>rfl
   | some v=>rfl
  ·rw[if_neg h1] at hG
   rw[if_neg h1];subst hG;exact if_pos h1
 ·rw[if_neg h0] at hG ⊢
  subst hG;exact if_pos h0
theorem Z3k {x:It}(hx:InI x){s:Rm}{a:Int}{P:Nat->Nat}{N:List Int}(hck:ckE s a=0) (hci:Zhg s x=0) (ha:a∈N) (hE:Enf s.1 s.2.1 (fun i=>P i+Zcx x i) N){l:List Sv}(hl:Zzq s x.1 a l):Zci s a x l=Zs1 s a x/\Z6m s a x=Zs1 s a x:=by{
 obtain⟨ht,hasE,_⟩:=Zlv hck;obtain⟨r1,ra,_,l0,l6,_⟩:=Zak ht;have hmx:Zas x=true:=by
  unfold Zhg at hci;split at hci
  ·rename_i h;exact h
  ·cases hci
 have hnr:¬ (x.2.1≠0/\s.2.1[x.2.1.toNat]?.getD 0=0):=fun h=>by
  unfold Zhg at hci;rw[if_pos hmx,if_pos h] at hci;cases hci
 have hr:x.2.1=0\/(0<x.2.1/\s.2.1[x.2.1.toNat]?.getD 0≠0):=by
  by_cases h0:x.2.1=0
  ·exact .inl h0
  ·have:=(Ud hmx).1
   exact .inr ⟨by omega,fun h=>hnr ⟨h0,h⟩⟩
 refine⟨?_,by unfold Z6m;rw[if_pos hck,if_pos hmx,if_neg hnr]⟩;have hp:=Zp6 (x:=x) (Znf ht) hl.1 hl.2 (rmV s a).1.toNat 0 (by omega);rw[Q3] at hp;have hp':Zcb l.reverse 1=Zov s (rmV s a).1.toNat a x.1:=hp;unfold Zci Zs1;rw[if_neg (fun h=>h hck),if_neg (fun h=>h hci),hp',Zzw hx hmx ht ha hr hE hl];unfold Zyw;by_cases h5:(rmV s a).1=5
 ·have e5:(rmV s a).1.toNat=5:=by omega
  by_cases hT:Zov s 5 a x.1=true
  ·rw[if_pos ⟨h5,by rw[e5];exact hT⟩,if_pos (by rw[h5,hT];rfl)]
  ·refine(if_neg (fun h=>hT (by rw[<- e5];exact h.2))).trans (Eq.trans ?_ (if_neg (fun h=>hT (by simpa [h5] using h))).symm)
   exact Zo3 hx ht ha hr hE rfl
 ·refine(if_neg (fun h=>h5 h.1)).trans (Eq.trans ?_ (if_neg (fun h=>h5 (by simp at h;exact h.1))).symm)
  exact Zo3 hx ht ha hr hE rfl}
def Z6q (x:Int):Ky:=(2,0,x)
theorem Znq:∀ (l:List It) (t:List UInt8),(∀ y∈l,y.2.1=0)->ctE t l=0/\ctV t l=t
 | [],_,_=>⟨rfl,rfl⟩
 | x::l,t,h=>by
  obtain⟨h1,h2⟩:=Znq l t fun y hy=>h y (Qv _ hy);have h0:=h x Qo;exact⟨by rw[ctE,if_pos h0];exact h1,by rw[ctV,if_pos h0];exact h2⟩
theorem Zj2 {s:Rm}{n:Nd}(hm:Xz s=true) (hn:mayN n=true) (hc:ctE s.2.1 n.2=0){k:Nat}(hf:(Y9 s)[0]? = some k) (hw:s.1.2.length<4096):mkE s n=0/\mkN s n=k/\mkV s n=(wrD s.1 k (Ui n),(ctV s.2.1 n.2).set k 1,s.2.2)/\Xz (mkV s n)=true/\k<256:=by{
 have hfs:=Zyp hm hn hc;have hms:=Z1w hm hn hc;have hT:tkE (ctS s n) (Ui n)=0:=Z0q hms (Zdf hn) (fun e=>by rw[hfs] at e;rw[e] at hf;cases hf) hw;have hK:tkK (ctS s n)=k:=by rw[tkK,hfs,hf];rfl
 obtain⟨_,_,_,_,_,_,_,_,hN,_⟩:=Zt0 hT;rcases Zve hm hn with ⟨hc',_⟩ | ⟨_,e,e2,_⟩
 ·exact absurd hc hc'
 have hE:=e.trans hT;have hNk:mkN s n=k:=by rw[e2,hN,hK]
 obtain⟨k',e1,_,h256,_,_,_,hV,hmT,_⟩:=U7 hE;have hk:k'=k:=by omega
 subst hk;exact⟨hE,hNk,hV,hmT,h256⟩}
theorem Zte (d:Dk) (T Z:List UInt8):Y9 (d,T,Z)=Y9 (Za8,T,Z):=by
 unfold Y9 Zan V0;rfl
structure Lf (s:Rm) (a:Nat) (L:List It) (m:Nat):Prop where
 may:Xz s=true
 now:s.2.1=(Yj 256).set a 1
 last:s.2.2=Yj 256
 seen:Ya s.1 a=Ui (0,L)
 mayN:mayN (0,L)=true
 inN:InN (0,L)
 at_:a=8\/a=9
 few:s.1.2.length<=m
 refs:∀ y∈L,y.2.1=0
theorem Lf.cnt {s:Rm}{a:Nat}{L:List It}{m:Nat}(h:Lf s a L m):s.2.1[a]?.getD 0=1:=by
 rw[h.now];rcases h.at_ with rfl | rfl <;> decide +kernel
theorem Zk7:∀ (l:List It) (k:Nat),(∀ y∈l,y.2.1=0)->Xh l k=0
 | [],_,_=>rfl
 | x::l,k,h=>by
  show (if x.2.1=(k:Int) then (if x.2.1=0 then 0 else 1) else 0)+Xh l k=0;rw[Zk7 l k fun y hy=>h y (Qv _ hy),if_pos (h x Qo)];split <;> rfl
theorem Zym {d:Dk}{t:List UInt8}{a:Nat}{L:List It}(hs:Ya d a=Ui (0,L)) (hn:mayN (0,L)=true) (hi:InN (0,L)) (h1:t[a]?.getD 0=1) (hr:∀ y∈L,y.2.1=0):lfO d t a=some (t.set a 0):=by{
 have he:∀ (f:List UInt8->Nat->Option (List UInt8)) (l:List It) (t:List UInt8),(∀ y∈l,y.2.1=0)->Zbg f t l=some t:=fun f l=>by
  induction l with
  | nil=>intro t _;rfl
  | cons x l ih =>
   intro t h;rw[Zbg,if_pos (h x Qo)];exact ih t fun y hy=>h y (Qv _ hy)
 obtain⟨r1,r2⟩:=Zb2 hn hi;unfold lfO;rw[Zeo (by rw[h1];decide),h1,hs,r1,r2];show (if 1<(1:UInt8).toNat then some (t.set a (1-1)) else if (0:Int)=0 then Zbg (lvF d 0) (t.set a (1-1)) L else none)=_;rw[if_neg (by decide),if_pos rfl,he _ _ _ hr];rfl}
def kx (n:Nat):It:=(Z6q n,0,[])
def Ls:Nat->List It
 | 0=>[]
 | n+1=>Ls n++[kx (n+1)]
def gS:Nat->Rm×Int
 | 0=>(mkV Zhl Xn,8)
 | n+1=>((Zs1 (gS n).1 (gS n).2 (kx (n+1))).2.1,(Zs1 (gS n).1 (gS n).2 (kx (n+1))).2.2)
theorem Z5d:mkE Zhl Xn=0/\mkN Zhl Xn=8/\Lf (mkV Zhl Xn) 8 [] 1:=by{
 have hn:mayN Xn=true:=by decide +kernel
 obtain⟨m1,m2,m3,m4,_⟩:=Zj2 Z16 hn (by generalize Zhl.2.1=z;rfl) (k:=8) (by rw[Zx8.2];rfl) (by rw[Zhl,Zmr];omega);refine⟨m1,m2,m4,?_,?_,?_,hn,⟨⟨by decide,by decide⟩,fun x hx=>by cases hx⟩,.inl rfl,?_,fun y hy=>by cases hy⟩
 ·rw[m3]
  have e:ctV Zhl.2.1 Xn.2=Yj 256:=by
   have e0:Zhl.2.1=Yj 256:=rfl;rw[e0];generalize Yj 256=z;rfl
  show (ctV Zhl.2.1 Xn.2).set 8 1=_;rw[e]
 ·rw[m3]
  unfold Zhl;rfl
 ·rw[m3];exact U9
 ·rw[m3]
  show (wrD Zhl.1 8 (Ui Xn)).2.length<=1;rw[Zn8];exact Qb _}
attribute [irreducible] gS
def Zxh (p:Pl) (id:Int):Int×Vl:=match Y6 p with
 | none=>(8,Vi)
 | some q=>match q.1.find? (Zbr id) with
  | none=>(6,Vi)
  | some v=>(0,v)
theorem Zqa {p:Pl}{id:Int}(h:Y6 p=none):Zxh p id=(8,Vi):=by
 unfold Zxh;rw[h]
theorem Zlu {p:Pl}{id:Int}{vs:List Vl}{g:Sg}(h:Y6 p=some (vs,g)) (hf:vs.find? (Zbr id)=none):Zxh p id=(6,Vi):=by
 unfold Zxh;rw[h]
 dsimp only
 rw[hf]
theorem Zdz {p:Pl}{id:Int}{vs:List Vl}{g:Sg}{v:Vl}(h:Y6 p=some (vs,g)) (hf:vs.find? (Zbr id)=some v):Zxh p id=(0,v):=by
 unfold Zxh;rw[h]
 dsimp only
 rw[hf]
theorem Zju (qa qb qc qd:Option Pz×Nat×Nat) (s:Rm) (gen root next:Int) (dead:List Int) (D:Option Pz) (dl dc:Nat) (id:Int) (w:Px) (hP:Zhi qa qb qc qd D dl dc s gen root next dead w) :
  Qab Tryz.prog 11 #[.agg #[.slice qa.1 qa.2.1 qa.2.2,.slice qb.1 qb.2.1 qb.2.2,.slice qc.1 qc.2.1 qc.2.2,.slice qd.1 qd.2.1 qd.2.2,.int .u32 gen,.int .i64 root,.int .u32 next,.slice D dl dc],.int .u32 id] w fun e w'=>e=.returned (.tuple #[vlV (Zxh (s,gen,root,next,dead) id).2,.int .i64 (Zxh (s,gen,root,next,dead) id).1])/\Qac w.heap.size w w':=by{
 obtain⟨w0,hw0,b0,hs0,hB0⟩:=Zb6 w (.slice qa.1 qa.2.1 qa.2.2) (.slice qb.1 qb.2.1 qb.2.2) (.slice qc.1 qc.2.1 qc.2.2) (.slice qd.1 qd.2.1 qd.2.2) (.int .u32 gen) (.int .i64 root) (.int .u32 next) (.slice D dl dc) 33;obtain⟨w1,hw1,b1,hs1,hB1⟩:=Xy w0 (.int .u32 0) (.int .i64 0) (.bool false) (.int .u32 0) 40;have hB01:=hB0.trans (hB1.mono hB0.size);have H1:=hP.below hB01;have hcal:=Za (Zdp s gen root next dead qa qb qc qd D dl dc w1 H1.sto H1.inn H1.dead);obtain⟨p0,p1,p2,p3,p4,p5,p6,p7,_⟩:=Zm ((hB1.block _ (Qa.1 b0).1).trans b0);have B1:=Za hB01;have C1:=Za b1;have hs0':=Za hs0;replace hs0:=Za hs0;replace hs1:=Za hs1;clear hB0 hB1 hB01 b0 b1 H1 hP
 go_enter Tryz.func11,Tryz.ntmps11
 go_upto_region 1 with fail
 clear hw0 hw1
 go_wp2_with fail
 with_reducible refine hcal.out.mono ?_
 rintro e w2 (⟨hno,rfl,hb2⟩ | ⟨vs,g,g1,g2,lo,A,n,c,hyes,rfl,hn,hE,hF,hr⟩)
 ·have e1:=Za (Zqa (id:=id) hno)
  have B2:=Za (B1.out.trans (hb2.mono B1.out.size));have c2:=Za ((hb2.block _ (Qa.1 C1.out).1).trans C1.out);clear hno hb2
  go_upto_region 2 with fail
  obtain⟨w3,hw3,b3,hs3,hB3⟩:=Uf w2 (.slice none 0 0) (.slice none 0 0) (.slice none 0 0) (.slice none 0 0) (.int .u32 0) (.int .i64 0) (.int .u32 0) (.slice none 0 0) (.map none) (.slice none 0 0) (.slice none 0 0) 71;rw[hw3];have c3:=(hB3.block _ (Qa.1 c2.out).1).trans c2.out;have B3:=Za (B2.out.trans (hB3.mono B2.out.size));replace hw3:=Za hw3;clear b3 hs3 hB3;obtain⟨u0,u1,u2,u3,uf,_⟩:=Ze c3;obtain⟨wz,hwz,gz,grz,gsz⟩:=Zt (a':=.int .u32 0) (b':=.int .i64 0) (c':=.bool false) (d':=.int .u32 0) c3;obtain⟨f0,f1,f2,f3,_⟩:=Ze gz;have hBz:=Za (B3.out.grown grz B3.out.size (fun q e=>by cases e;have:=hs0'.out;omega));have c3':=Za c3;clear gz grz gsz c3
  go_wp2_with fail
  refine P7 (v:=.tuple #[vlV Vi,.int .i64 8]) (by simp[results,Tryz.results11,go_sem,f0,f1,f2,f3,vlV,Vi]) rfl ?_;rw[e1.out];exact⟨rfl,hBz.out⟩
 ·have hff:=hn
  have F2:=Za hF;have R2:=Za hr;have c2:=Za ((hF.bel.block _ (Qa.1 C1.out).1).trans C1.out);have B2:=Za (B1.out.trans (hF.bel.mono B1.out.size));have hyes':=Za hyes;clear hff hn hE hF hr hyes
  go_upto_region 2 with fail
  obtain⟨w3,hw3,b3,hs3,hB3⟩:=Uf w2 (.slice qa.1 qa.2.1 qa.2.2) (.slice qb.1 qb.2.1 qb.2.2) (.slice qc.1 qc.2.1 qc.2.2) (.slice qd.1 qd.2.1 qd.2.2) (.int .u32 gen) (.int .i64 root) (.int .u32 next) (.slice D dl dc) (.map (some g1)) (.slice (some ⟨g2,0,none⟩) 256 256) (.slice A n c) 71;rw[hw3];have c3:=Za ((hB3.block _ (Qa.1 c2.out).1).trans c2.out);have B3:=Za (B2.out.trans (hB3.mono B2.out.size));have R3:=Za (Zv Yk _ _ _ _ _ _ (fun p v hp hc=>⟨hp.2.1,hc⟩) ((Zv Yk).new R2.out (Qb _) hB3):rSl 4 rVl (Old w3) w3 [.slice A n c] vs);have S3:=Za b3;replace hw3:=Za hw3;obtain⟨s0,s1,s2,s3,s4,s5,s6,s7,s8,s9,s10,_⟩:=Zg b3;clear b3 hs3 hB3;have hpl:=Za (Zm9 vs A n c id (.slice qa.1 qa.2.1 qa.2.2) (.slice qb.1 qb.2.1 qb.2.2) (.slice qc.1 qc.2.1 qc.2.2) (.slice qd.1 qd.2.1 qd.2.2) (.int .u32 gen) (.int .i64 root) (.int .u32 next) (.slice D dl dc) (.map (some g1)) (.slice (some ⟨g2,0,none⟩) 256 256) w3 R3.out)
  go_wp2_with fail
  with_reducible refine hpl.out.mono ?_
  rintro e w4 ⟨rfl,hb4⟩;have c4:=(hb4.block _ (Qa.1 c3.out).1).trans c3.out;have S4:=(hb4.block _ (Qa.1 S3.out).1).trans S3.out;have R4:=Za ((Zv Yk).old R3.out hb4);have B4:=Za (B3.out.trans (hb4.mono B3.out.size));clear hb4 hpl s0 s1 s2 s3 s4 s5 s6 s7 s8 s9 s10 S3 c3 c2 B2 F2 R2 B3 R3;rcases Zpd id vs with ⟨hi,hf⟩ | ⟨k,⟨vi,vr,vf,vo⟩,hi,hk,_,hf⟩
  ·rw[hi]
   have e1:=Za (Zlu (id:=id) hyes'.out hf);have B3:=B4;have c3:=c4;obtain⟨w3,rfl⟩:∃ w3:Px,w3=w4:=⟨_,rfl⟩
   clear hi hf S4 R4 B4 c4;obtain⟨u0,u1,u2,u3,uf,_⟩:=Ze c3;obtain⟨wz,hwz,gz,grz,gsz⟩:=Zt (a':=.int .u32 0) (b':=.int .i64 0) (c':=.bool false) (d':=.int .u32 0) c3;obtain⟨f0,f1,f2,f3,_⟩:=Ze gz;have hBz:=Za (B3.out.grown grz B3.out.size (fun q e=>by cases e;have:=hs0'.out;omega));have c3':=Za c3;clear gz grz gsz c3
   go_wp2_with fail
   refine P7 (v:=.tuple #[vlV Vi,.int .i64 6]) (by simp[results,Tryz.results11,go_sem,f0,f1,f2,f3,vlV,Vi]) rfl ?_;rw[e1.out];exact⟨rfl,hBz.out⟩
  ·rw[hi]
   have e1:=Za (Zdz (id:=id) hyes'.out hf);obtain⟨ad,rfl,z0,z1,z2,z3,_⟩:=Zo8 R4.out hk;have hkl:(k:Int)<(n:Int):=by
    have:=(Qh.1 hk).1;obtain⟨_,_,e,_⟩:=R4.out;cases e;omega
   have hk0:¬ (k:Int)<0:=by omega
   have i4:(0:Int)<=(k:Int):=by omega
   obtain⟨s0,s1,s2,s3,s4,s5,s6,s7,s8,s9,s10,_⟩:=Zg S4;obtain⟨u0,u1,u2,u3,uf,_⟩:=Ze c4;obtain⟨wz,hwz,gz,grz,gsz⟩:=Zt (a':=.int .u32 vi) (b':=.int .i64 vr) (c':=.bool vf) (d':=.int .u32 vo) c4;obtain⟨f0,f1,f2,f3,_⟩:=Ze gz;have hBz:=Za (B4.out.grown grz B4.out.size (fun q e=>by cases e;have:=hs0'.out;omega));replace hk:=Za hk;clear hi hf S4 c4 gz grz gsz
   go_wp2_with fail
   refine P7 (v:=.tuple #[.agg #[.int .u32 vi,.int .i64 vr,.bool vf,.int .u32 vo],.int .i64 0]) (by simp[results,Tryz.results11,go_sem,f0,f1,f2,f3]) rfl ?_;rw[e1.out];exact⟨rfl,hBz.out⟩}
structure Lg (s:Rm) (a:Nat) (L:List It):Prop where
 may:Xz s=true
 one:s.2.1[a]?.getD 0=1
 seen:Ya s.1 a=Ui (0,L)
 mayN:mayN (0,L)=true
 inN:InN (0,L)
 lo:8<=a
 hi:a<256
 refs:∀ y∈L,y.2.1=0
theorem Lg.as {s:Rm}{a:Nat}{L:List It}(h:Lg s a L):asE s (a:Int)=0:=Zh1 h.may h.lo h.hi (by rw[h.one];decide)
theorem Lg.rm {s:Rm}{a:Nat}{L:List It}(h:Lg s a L):rmE s (a:Int)=0/\rmV s (a:Int)=(0,L):=Zw4 h.as h.seen h.mayN h.inN
theorem Lg.tree {s:Rm}{a:Nat}{L:List It}(h:Lg s a L):Ue s (a:Int)=true/\Zem s (a:Int)=L/\ckE s (a:Int)=0:=by
 obtain⟨r1,r2⟩:=h.rm;have ht:Ue s (a:Int)=true:=by
  unfold Ue;rw[r1,r2];show (true&&Y7 s L)=true;unfold Y7;rw[Bool.true_and,List.all_eq_true];intro y hy;simp[h.refs y hy]
 refine⟨ht,?_,(Zz5 h.as ht).1⟩;unfold Zem;rw[r2];show Uh s 0 a=L;unfold Uh;rw[r2]
theorem Lg.enf {s:Rm}{a:Nat}{L:List It}(h:Lg s a L):Enf s.1 s.2.1 (fun i=>if i=a then 1 else 0) [(a:Int)]:=by{
 obtain⟨r1,r2⟩:=h.rm;have hnd:ndD s.1 (a:Int)=(0,L):=(Zmg r1).trans r2;obtain⟨q1,_⟩:=Zb2 h.mayN h.inN;have h8:=h.lo;have h256:=h.hi;refine⟨by simp,fun n hn=> ?_,fun n hn h0=> ?_,fun n hn=> ?_,fun k=> ?_⟩
 ·rw[Qm.1 hn]
  refine⟨by omega,by omega,?_,?_⟩
  ·rw[show ((a:Int)).toNat=a by omega,h.seen,q1]
  ·rw[show ((a:Int)).toNat=a by omega,Zf1,h.one]
   decide
 ·rw[Qm.1 hn,hnd] at h0
  exact absurd rfl h0
 ·rw[Qm.1 hn,hnd]
  exact fun y hy=>.inl (h.refs y hy)
 ·show (if k=a then 1 else 0)+(Xh (ndD s.1 (a:Int)).2 k+0)<=_
  rw[hnd,Zk7 L k h.refs];by_cases e:k=a
  ·subst e
   unfold Zec;rw[if_pos rfl,h.one]
   decide
  ·rw[if_neg e]
   omega}
theorem Zlg {s:Rm}{f:Int->Sg->Sg}:∀ (L:List It) (g:Sg),(∀ y∈L,y.2.1=0)->L.foldl (X4 f) g=g
 | [],_,_=>rfl
 | x::r,g,h=>by
  rw[List.foldl_cons];unfold X4;rw[if_pos (h x Qo)];exact Zlg (s:=s) r g fun y hy=>h y (Qv _ hy)
theorem Lg.hang {s:Rm}{a:Nat}{L:List It}(h:Lg s a L){g:Sg}(hg:(a:Int)∉g.1):Z8 s [(a:Int)] g=(true,(g.1++[(a:Int)],frU g.2 a)):=by
 obtain⟨r1,r2⟩:=h.rm;rw[Zcj (.inr h.tree.2.2)];show (true,Vw s (rmV s (a:Int)).1.toNat (a:Int) (g.1,frU g.2 a))=_;rw[Za6 (g:=(g.1,frU g.2 a)) hg,r2,Zlg (s:=s) L _ h.refs]
theorem Lg.put {s:Rm}{a k:Nat}{L:List It}(h:Lg s a L) (hfr:(Y9 s)[0]? = some k) (hne:a≠k) (hw:s.1.2.length<4096){x:It}(hx:InI x) (hx0:x.2.1=0) (hn:Go.Proofs.YtmafkphcfkhokaaGreat.mayN (0,Uc L x)=true) :
  Zs1 s (a:Int) x=(0,(wrD s.1 k (Ui (0,Uc L x)),(s.2.1.set k 1).set a 0,s.2.2),(k:Int))/\Xz (wrD s.1 k (Ui (0,Uc L x)),s.2.1.set k 1,s.2.2)=true/\InN ((0:Int),Uc L x)/\∀ y∈Uc L x,y.2.1=0:=by{
 obtain⟨r1,r2⟩:=h.rm;have hl5:(Uc L x).length<=5:=(Z0 hn).1.2.2.1;have hrf:∀ y∈Uc L x,y.2.1=0:=fun y hy=>by
  rcases Zby.1 hy with rfl | ⟨hy,_⟩
  ·exact hx0
  ·exact h.refs y hy
 have hin:InN ((0:Int),Uc L x):=⟨⟨by simp,by simp⟩,fun y hy=>by
  rcases Zby.1 hy with rfl | ⟨hy,_⟩
  ·exact hx
  ·exact h.inN.it y hy⟩
 obtain⟨c1,c2⟩:=Znq (Uc L x) s.2.1 hrf;obtain⟨m1,m2,m3,m4,_⟩:=Zj2 h.may hn c1 hfr hw;have hb:Z5 s 0 (Uc L x)=(0,mkV s (0,Uc L x),[upI (Uc L x) (k:Int)]):=by
  unfold Z5;rw[if_pos hl5,if_pos m1,m2]
 have eL:Zft (rmV s (a:Int)).2 (Z4 (rmV s (a:Int)) x.1) (if Y3 (rmV s (a:Int)) x.1=true then 1 else 0) [x]=Uc (rmV s (a:Int)).2 x:=Zkc (by rw[r2];exact h.mayN) x;have hg:Zl x 0 s (a:Int)=(0,mkV s (0,Uc L x),[upI (Uc L x) (k:Int)]):=by
  unfold Zl;rw[eL,r2,hb,if_pos rfl,if_pos hx0]
 have h256:=h.hi;have hlf:lfO (mkV s (0,Uc L x)).1 (mkV s (0,Uc L x)).2.1 a=some ((mkV s (0,Uc L x)).2.1.set a 0):=by
  refine Zym (L:=L) ?_ h.mayN h.inN ?_ h.refs
  ·rw[m3]
   exact(X2 hne).trans h.seen
  ·rw[m3]
   show (List.set (ctV s.2.1 (Uc L x)) k 1)[a]?.getD 0=1;rw[c2,List.getElem?_set_ne (fun e=>hne e.symm)];exact h.one
 have hV:mkV s (0,Uc L x)=(wrD s.1 k (Ui (0,Uc L x)),s.2.1.set k 1,s.2.2):=by rw[m3,c2]
 refine⟨?_,by rw[<- hV];exact m4,hin,hrf⟩;unfold Zs1;have ht:Zyw s (a:Int) x.1=false:=by unfold Zyw;rw[r2];rfl
 have e0:(rmV s (a:Int)).1.toNat=0:=by rw[r2];rfl
 have hro:Va (mkV s (0,Uc L x)) (rmV s (a:Int)).1 [upI (Uc L x) (k:Int)]=(0,mkV s (0,Uc L x),[upI (Uc L x) (k:Int)]):=by
  unfold Va;rw[if_neg (by simp)]
 rw[ht,e0,hg,if_neg (by decide),if_pos rfl];show (if (Va (mkV s (0,Uc L x)) (rmV s (a:Int)).1 [upI (Uc L x) (k:Int)]).1=0 then _ else _)=_;rw[hro,if_pos rfl]
 dsimp only
 rw[show ((a:Int)).toNat=a by omega,hlf]
 dsimp only
 rw[hV];rfl}
def fT1:Rm:=mkV Zhl Xn
def fT2:Rm:=mkV fT1 Xn
def fV:Vl:=(1,9,false,0)
def fX:It:=((1,1,0),0,[9,0,0,0,0,0,0])
theorem Z6a:Ym fV=fX:=by decide +kernel
theorem Z4i:Zee fX=some fV:=by decide +kernel
theorem Z4u:InI fX:=⟨⟨⟨by decide,by decide⟩,by decide,by decide⟩,by decide,by decide⟩
def fN2:List UInt8:=((Yj 256).set 8 1).set 9 1
def fN3:List UInt8:=((Yj 256).set 9 1).set 10 1
theorem Z07:mkE Zhl Xn=0/\mkN Zhl Xn=8/\Lg fT1 8 []/\fT1.2.1=(Yj 256).set 8 1/\fT1.2.2=Yj 256/\fT1.1.2.length<=1:=by
 obtain⟨h1,h2,h3⟩:=Z5d;exact⟨h1,h2,⟨h3.may,h3.cnt,h3.seen,h3.mayN,h3.inN,by decide,by decide,h3.refs⟩,h3.now,h3.last,h3.few⟩
theorem Zpn:mkE fT1 Xn=0/\mkN fT1 Xn=9/\Lg fT2 8 []/\Lg fT2 9 []/\fT2.2.1=fN2/\fT2.2.2=Yj 256/\fT2.1.2.length<=2:=by{
 obtain⟨_,_,h,hn,hz,hl⟩:=Z07;have hm:mayN Xn=true:=by decide +kernel
 have hfr:(Y9 fT1)[0]? = some 9:=by
  have e:fT1=(fT1.1,(Yj 256).set 8 1,Yj 256):=by rw[<- hn,<- hz]
  rw[e,Zte]
  decide +kernel
 obtain⟨c1,c2⟩:=Znq ([]:List It) fT1.2.1 fun y hy=>by cases hy
 obtain⟨m1,m2,m3,m4,_⟩:=Zj2 h.may hm c1 (k:=9) hfr (by omega);have e:fT2=(wrD fT1.1 9 (Ui Xn),fT1.2.1.set 9 1,fT1.2.2):=by
  show mkV fT1 Xn=_;rw[m3];show (_,(ctV fT1.2.1 []).set 9 1,_)=_;rw[c2]
 have e2:fT2.2.1=fN2:=by rw[e,hn];rfl
 refine⟨m1,m2,⟨m4,by rw[e2];decide +kernel,?_,h.mayN,h.inN,by decide,by decide,h.refs⟩,⟨m4,by rw[e2];decide +kernel,?_,h.mayN,h.inN,by decide,by decide,h.refs⟩,e2,by rw[e,hz],?_⟩
 ·rw[e];exact(X2 (by decide)).trans h.seen
 ·rw[e];exact U9
 ·rw[e]
  show (wrD fT1.1 9 _).2.length<=2;rw[Zn8];omega}
theorem Z5i:∃ T3,Zs1 fT2 8 fX=(0,T3,10)/\Lg T3 9 []/\Lg T3 10 [fX]/\T3.2.1=fN3:=by{
 obtain⟨_,_,h,h9,hn,hz,hl⟩:=Zpn;have hfr:(Y9 fT2)[0]? = some 10:=by
  have e:fT2=(fT2.1,fN2,Yj 256):=by rw[<- hn,<- hz]
  rw[e,Zte]
  decide +kernel
 have hp:Uc [] fX=[fX]:=by decide +kernel
 obtain⟨h1,h2,h3,h4⟩:=h.put hfr (by decide) (by omega) Z4u rfl (by rw[hp];decide +kernel);rw[hp] at h1 h2 h3 h4;have e3:(fT2.2.1.set 10 1).set 8 0=fN3:=by rw[hn];decide +kernel
 have hm3:Xz (wrD fT2.1 10 (Ui (0,[fX])),(fT2.2.1.set 10 1).set 8 0,fT2.2.2)=true :=
  Zet (Yq h2).1 (by show Za9 ((fT2.2.1.set 10 1).set 8 0)=true;rw[e3];decide +kernel) (Yq h2).2.2
 refine⟨_,h1,⟨hm3,by show ((fT2.2.1.set 10 1).set 8 0)[9]?.getD 0=1;rw[e3];decide +kernel,(X2 (by decide)).trans h9.seen,h9.mayN,h9.inN,by decide,by decide,h9.refs⟩,⟨hm3,by show ((fT2.2.1.set 10 1).set 8 0)[10]?.getD 0=1;rw[e3];decide +kernel,U9,by decide +kernel,h3,by decide,by decide,h4⟩,e3⟩}
theorem Zqw:Y6 (fT2,0,8,2,[])=some ([],([8],frU Yg 8)):=by{
 obtain⟨_,_,h,_,hn,_,_⟩:=Zpn;have h1:Z8 fT2 [8] ([],Yg)=(true,([8],frU Yg 8)):=h.hang (g:=([],Yg)) (by simp);have ha:Zem fT2 8=[]:=h.tree.2.1;have hv:Xm 2 (Zem fT2 8)=some []:=by rw[ha];rfl
 rw[Zv4 (by simp) (by rw[ha];simp) h1 hv (G2:=([8],frU Yg 8)) rfl (G3:=([8],frU Yg 8)) rfl];have:Z2q fT2 (frU Yg 8)=true:=by
  show Z0f fT2.2.1 (frU Yg 8)=true;rw[hn]
  decide +kernel
 rw[if_pos this]}
theorem Zif {T3:Rm}(h9:Lg T3 9 []) (h10:Lg T3 10 [fX]) (hn:T3.2.1=fN3):Y6 (T3,0,10,2,[])=some ([fV],([10,9],frU (frU Yg 10) 9)):=by{
 have h1:Z8 T3 [10] ([],Yg)=(true,([10],frU Yg 10)):=h10.hang (g:=([],Yg)) (by simp);have h2:Z8 T3 [9] ([10],frU Yg 10)=(true,([10,9],frU (frU Yg 10) 9)):=h9.hang (g:=([10],frU Yg 10)) (by simp);have ha:Zem T3 10=[fX]:=h10.tree.2.1;have hv:Xm 2 (Zem T3 10)=some [fV]:=by
  rw[ha];exact Zm8 (P:=[]) rfl (Zvd Z4i (by decide))
 rw[Zv4 (by simp) (by rw[ha];simp) h1 hv h2 (G3:=([10,9],frU (frU Yg 10) 9)) rfl];have:Z2q T3 (frU (frU Yg 10) 9)=true:=by
  show Z0f T3.2.1 (frU (frU Yg 10) 9)=true;rw[hn]
  decide +kernel
 rw[if_pos this]}
theorem Zhz (qa qb qc qd:Option Pz×Nat×Nat) (s:Rm) (w:Px) (h:Sto (Old w) w (.agg #[.slice qa.1 qa.2.1 qa.2.2,.slice qb.1 qb.2.1 qb.2.2,.slice qc.1 qc.2.1 qc.2.2,.slice qd.1 qd.2.1 qd.2.2]) s) :
  Qab Tryz.prog 26 #[.agg #[.slice qa.1 qa.2.1 qa.2.2,.slice qb.1 qb.2.1 qb.2.2,.slice qc.1 qc.2.1 qc.2.2,.slice qd.1 qd.2.1 qd.2.2]] w fun e W'=>∃ qa qb qc qd:Option Pz×Nat×Nat,e=.returned (.tuple #[.agg #[.slice qa.1 qa.2.1 qa.2.2,.slice qb.1 qb.2.1 qb.2.2,.slice qc.1 qc.2.1 qc.2.2,.slice qd.1 qd.2.1 qd.2.2],.int .i64 (mkN s Xn),.int .i64 (mkE s Xn)]) /\
   Sto (New w.heap.size W') W' (.agg #[.slice qa.1 qa.2.1 qa.2.2,.slice qb.1 qb.2.1 qb.2.2,.slice qc.1 qc.2.1 qc.2.2,.slice qd.1 qd.2.1 qd.2.2]) (mkV s Xn)/\Qac w.heap.size w W':=by{
 obtain⟨w1,hw1,b1,hs1,hB1⟩:=Xy w (.slice qa.1 qa.2.1 qa.2.2) (.slice qb.1 qb.2.1 qb.2.2) (.slice qc.1 qc.2.1 qc.2.2) (.slice qd.1 qd.2.1 qd.2.2) 29;obtain⟨w2,hw2,b2,hs2,hB2⟩:=Xy w1 (.slice none 0 0) (.slice none 0 0) (.slice none 0 0) (.slice none 0 0) 29;have hB12:=hB1.trans (hB2.mono hB1.size);have B2:=Za hB12;have HM:=Za (Ziv (.agg #[.slice qa.1 qa.2.1 qa.2.2,.slice qb.1 qb.2.1 qb.2.2,.slice qc.1 qc.2.1 qc.2.2,.slice qd.1 qd.2.1 qd.2.2]) (.agg #[.int .i64 0,.slice none 0 0]) s Xn w2 (h.below hB12) (Zit.zero w.heap.size w2).nod.drop);have SZ:=Za (show w1.heap.size=w.heap.size+1/\w2.heap.size=w.heap.size+2 from ⟨hs1,by omega⟩);have G2:=Za b2;obtain⟨k0,k1,k2,k3,_⟩:=Ze ((hB2.block w.heap.size (by omega)).trans b1);replace hs1:=Za hs1;replace hs2:=Za hs2;obtain⟨mn,hmn⟩:∃ q,mkN s Xn=q:=⟨_,rfl⟩
 obtain⟨me,hme⟩:∃ q,mkE s Xn=q:=⟨_,rfl⟩
 obtain⟨mv,hmv⟩:∃ q,mkV s Xn=q:=⟨_,rfl⟩
 rw[hmn,hme,hmv] at HM ⊢;clear h hB1 hB2 hB12 b1 b2
 go_enter Tryz.func26,Tryz.ntmps26
 go_upto_region 1 with fail
 clear hw1 hw2
 go_wp2_with fail
 with_reducible refine(HM.out).mono ?_
 rintro e w3 ⟨ra,rb,rc,rd,rfl,hS3,hb3⟩;have hc3:=(hb3.block w1.heap.size (by have:=SZ.out;omega)).trans G2.out;obtain⟨u0,u1,u2,u3,uf,_⟩:=Ze hc3;obtain⟨W9,hW9,g9,gr9,gs9⟩:=Zt (a':=.slice ra.1 ra.2.1 ra.2.2) (b':=.slice rb.1 rb.2.1 rb.2.2) (c':=.slice rc.1 rc.2.1 rc.2.2) (d':=.slice rd.1 rd.2.1 rd.2.2) hc3;obtain⟨y0,y1,y2,y3,_,_⟩:=Ze g9;have hfin:=Za (show Sto (New w.heap.size W9) W9 (.agg #[.slice ra.1 ra.2.1 ra.2.2,.slice rb.1 rb.2.1 rb.2.2,.slice rc.1 rc.2.1 rc.2.2,.slice rd.1 rd.2.1 rd.2.2]) mv from (hS3.grown gr9 (fun q e=>by cases e;have:=SZ.out;omega)).new (by have:=SZ.out;omega) (Qd _ _));have hB9:=Za ((B2.out.trans (hb3.mono B2.out.size)).grown gr9 (B2.out.trans (hb3.mono B2.out.size)).size (fun q e=>by cases e;have:=SZ.out;omega));replace g9:=Za g9;clear hS3 hb3 hc3 gr9 gs9 k0 k1 k2 k3 HM
 go_wp2_with fail
 exact P7 (v:=.tuple #[.agg #[.slice ra.1 ra.2.1 ra.2.2,.slice rb.1 rb.2.1 rb.2.2,.slice rc.1 rc.2.1 rc.2.2,.slice rd.1 rd.2.1 rd.2.2],.int .i64 mn,.int .i64 me]) (by simp[results,Tryz.results26,go_sem,y0,y1,y2,y3]) rfl ⟨ra,rb,rc,rd,rfl,hfin.out,hB9.out⟩}
abbrev Q4:=Option Pz×Nat×Nat
theorem Z59 {W:Px}{o:Nat}{a b c d e f g h a' b' c' d':Py}{t:P5}(hz:W.heap[o]? = some (.cells #[a,b,c,d,e,f,g,h] t (0,0))) :
  ∃ W1,(((W.setCell ⟨o,0,none⟩ a').setCell ⟨o,1,none⟩ b').setCell ⟨o,2,none⟩ c').setCell ⟨o,3,none⟩ d'=W1/\W1.heap[o]? = some (.cells #[a',b',c',d',e,f,g,h] t (0,0))/\W.grownBy W1 (some o)/\W1.heap.size=W.heap.size :=
 ⟨_,rfl,by simp[Pv,Pw,hz],Zp (p:=⟨o,3,none⟩) (Zp (p:=⟨o,2,none⟩) (Zp (p:=⟨o,1,none⟩) (Zp (p:=⟨o,0,none⟩) (Ye W (some o)) rfl a') rfl b') rfl c') rfl d',by simp⟩
theorem Z52 {W:Px}{o:Nat}{a b c d e f g h g':Py}{t:P5}(hz:W.heap[o]? = some (.cells #[a,b,c,d,e,f,g,h] t (0,0))) :
  ∃ W1,W.setCell ⟨o,6,none⟩ g'=W1/\W1.heap[o]? = some (.cells #[a,b,c,d,e,f,g',h] t (0,0))/\W.grownBy W1 (some o)/\W1.heap.size=W.heap.size :=
 ⟨_,rfl,by simp[Pv,Pw,hz],Zp (p:=⟨o,6,none⟩) (Ye W (some o)) rfl g',by simp⟩
theorem Z4a {ok:Pz->Prop}{w:Px}{v:Py}{s:Rm}(h:Sto ok w v s):∃ qa qb qc qd:Q4,v=.agg #[.slice qa.1 qa.2.1 qa.2.2,.slice qb.1 qb.2.1 qb.2.2,.slice qc.1 qc.2.1 qc.2.2,.slice qd.1 qd.2.1 qd.2.2]:=by
 obtain⟨A,ca,B,cb,N,cn,L,cl,rfl,_⟩:=h.open;exact⟨(A,_,ca),(B,_,cb),(N,_,cn),(L,_,cl),rfl⟩
theorem Zsd {qa qb qc qd:Q4}{s:Rm}{gen root next:Int}{w:Px}(h:Sto (Old w) w (.agg #[.slice qa.1 qa.2.1 qa.2.2,.slice qb.1 qb.2.1 qb.2.2,.slice qc.1 qc.2.1 qc.2.2,.slice qd.1 qd.2.1 qd.2.2]) s) (h1:InU gen) (h2:Zcz root) (h3:InU next):Zhi qa qb qc qd none 0 0 s gen root next [] w:=⟨h,⟨h1,h2,h3⟩,Zfo _ _⟩
theorem Zya (w:Px):Qab Tryz.prog 9 #[] w fun e w'=>∃ qa qb qc qd:Q4,e=.returned (.agg #[.slice qa.1 qa.2.1 qa.2.2,.slice qb.1 qb.2.1 qb.2.2,.slice qc.1 qc.2.1 qc.2.2,.slice qd.1 qd.2.1 qd.2.2,.int .u32 0,.int .i64 8,.int .u32 1,.slice none 0 0])/\Sto (New w.heap.size w') w' (.agg #[.slice qa.1 qa.2.1 qa.2.2,.slice qb.1 qb.2.1 qb.2.2,.slice qc.1 qc.2.1 qc.2.2,.slice qd.1 qd.2.1 qd.2.2]) fT1/\Qac w.heap.size w w':=by{
 obtain⟨w1,hw1,b1,hs1,hB1⟩:=Zb6 w (.slice none 0 0) (.slice none 0 0) (.slice none 0 0) (.slice none 0 0) (.int .u32 0) (.int .i64 0) (.int .u32 0) (.slice none 0 0) 33;obtain⟨m1,m2,_⟩:=Z07;have C1:=Za b1;have B1:=Za hB1;have M1:=Za m1;have M2:=Za m2;have hlt:=Za (show w.heap.size<w1.heap.size by omega);replace hs1:=Za hs1;clear b1 hB1 m1 m2
 go_enter Tryz.func9,Tryz.ntmps9
 go_upto_region 1 with fail
 clear hw1
 go_wp2_with fail
 with_reducible refine(Zyk _).mono ?_
 rintro e w2 ⟨t,rfl,ht,hb2⟩;obtain⟨pa,pb,pc,pd,rfl⟩:=Z4a ht;have hNew:=Za (Zhz pa pb pc pd Zhl w2 ht.drop);have B2:=Za hb2;clear ht hb2
 go_wp2_with fail
 with_reducible refine hNew.out.mono ?_
 rintro e w3 ⟨qa,qb,qc,qd,rfl,hS,hb3⟩;rw[M1.out,M2.out];have hS':Sto (New w2.heap.size w3) w3 (.agg #[.slice qa.1 qa.2.1 qa.2.2,.slice qb.1 qb.2.1 qb.2.2,.slice qc.1 qc.2.1 qc.2.2,.slice qd.1 qd.2.1 qd.2.2]) fT1:=hS;obtain⟨w4,hw4,b4,hs4,hB4⟩:=Xy w3 (.slice qa.1 qa.2.1 qa.2.2) (.slice qb.1 qb.2.1 qb.2.2) (.slice qc.1 qc.2.1 qc.2.2) (.slice qd.1 qd.2.1 qd.2.2) 29;have hb24:=B2.out.trans ((hb3.trans (hB4.mono hb3.size)).mono B2.out.size);have S4:=Za (hS'.new (lo':=w1.heap.size) B2.out.size hB4);have c1:=(hb24.block _ (Qa.1 C1.out).1).trans C1.out;have B4:=Za (B1.out.trans (hb24.mono B1.out.size));obtain⟨t0,t1,t2,t3,_⟩:=Ze b4;obtain⟨u0,u1,u2,u3,u4,u5,u6,u7,uf,_⟩:=Zm c1;obtain⟨wz,hwz,bz,grz,gsz⟩:=Ua (a':=.slice qa.1 qa.2.1 qa.2.2) (b':=.slice qb.1 qb.2.1 qb.2.2) (c':=.slice qc.1 qc.2.1 qc.2.2) (d':=.slice qd.1 qd.2.1 qd.2.2) (e':=.int .u32 0) (f':=.int .i64 8) (g':=.int .u32 1) (h':=.slice none 0 0) c1;obtain⟨f0,f1,f2,f3,f4,f5,f6,f7,_⟩:=Zm bz;have hBz:=Za (B4.out.grown grz B4.out.size (fun q e=>by cases e;exact Qb _));have hSz:=Za ((S4.out.grown grz (fun q e=>by cases e;exact hlt.out)).new (Ph hlt.out) (Qd _ _));replace hs4:=Za hs4;have b4':=Za b4;have c1':=Za c1;clear hS hS' hb3 hB4 hb24 b4 c1 bz grz gsz hNew
 go_upto_region 2 with fail
 clear hw4
 go_wp2_with fail
 refine P7 (v:=.agg #[.slice qa.1 qa.2.1 qa.2.2,.slice qb.1 qb.2.1 qb.2.2,.slice qc.1 qc.2.1 qc.2.2,.slice qd.1 qd.2.1 qd.2.2,.int .u32 0,.int .i64 8,.int .u32 1,.slice none 0 0]) (by simp[results,Tryz.results9,go_sem,f0,f1,f2,f3,f4,f5,f6,f7]) rfl ?_;exact⟨qa,qb,qc,qd,rfl,hSz.out,hBz.out⟩}
theorem Zxo {T3:Rm}(hT:Zs1 fT2 8 fX=(0,T3,10)) (h9:Lg T3 9 []) (h10:Lg T3 10 [fX]) (hn:T3.2.1=fN3) (qa qb qc qd:Q4) (D:Option Pz) (dl dc:Nat) (w:Px) (hP:Zhi qa qb qc qd D dl dc fT2 0 8 2 [] w) :
  Qab Tryz.prog 12 #[.agg #[.slice qa.1 qa.2.1 qa.2.2,.slice qb.1 qb.2.1 qb.2.2,.slice qc.1 qc.2.1 qc.2.2,.slice qd.1 qd.2.1 qd.2.2,.int .u32 0,.int .i64 8,.int .u32 2,.slice D dl dc],.agg #[.int .u32 1,.int .i64 9,.bool false,.int .u32 0]] w fun e w'=>∃ (ra rb rc rd:Q4) (U:Option Pz) (ul uc:Nat),e=.returned (.tuple #[.agg #[.slice ra.1 ra.2.1 ra.2.2,.slice rb.1 rb.2.1 rb.2.2,.slice rc.1 rc.2.1 rc.2.2,.slice rd.1 rd.2.1 rd.2.2,.int .u32 0,.int .i64 10,.int .u32 2,.slice U ul uc],.int .i64 0])/\Zua ra rb rc rd U ul uc T3 [] w.heap.size w'/\Qac w.heap.size w w':=by{
 obtain⟨_,_,h8,h9',hn2,_⟩:=Zpn;have hck:=h8.tree.2.2;have hx:Ym (1,9,false,0)=fX:=Z6a;have hci:Zhg fT2 fX=0:=by
  unfold Zhg;rw[if_pos (by decide +kernel),if_neg (fun h=>h.1 rfl)]
 have hput:∀ l,(ckE fT2 8=0->Zhg fT2 (Ym (1,9,false,0))=0->Zzq fT2 (Ym (1,9,false,0)).1 8 l)->Zci fT2 8 (Ym (1,9,false,0)) l=(0,T3,10):=fun l hl=>by
  rw[hx] at hl ⊢
  have h:=(Z3k (P:=fun i=>if i=8 then 1 else 0) Z4u hck hci (Qm.2 rfl) (h8.enf.same fun i=>by
   have hh:Zcx fX i=0:=by unfold Zcx;rw[if_neg (fun h=>h.1 rfl)]
   show (if i=8 then 1 else 0)+Zcx fX i=_;rw[hh]
   rfl) (hl hck hci)).1
  exact(show Zci fT2 8 fX l=Zs1 fT2 8 fX from h).trans hT
 have htk:tkF fT2 [] (frU Yg 8) 2 1 9=0:=by
  have e1:(frU Yg 8)[((9:Int)).toNat]?.getD 0<((fT2.2.1[((9:Int)).toNat]?.getD 0).toNat:Int):=by
   rw[hn2]
   decide +kernel
  unfold tkF;rw[if_neg (by decide),if_neg (by simp),if_pos e1];exact h9'.tree.2.2
 have hl3:=Zif h9 h10 hn;refine(Zyx qa qb qc qd fT2 0 8 2 [] D dl dc 1 9 0 false w hP ⟨by decide,by decide⟩ ⟨by decide,by decide⟩ (fun vs g _ _ l hl _=>by rw[hput l hl];exact⟨show (-9223372036854775808:Int)<=10 by decide,show (10:Int)<=9223372036854775807 by decide⟩)).mono ?_;rintro e w' ⟨E,P,ra,rb,rc,rd,U,ul,uc,rfl,hW,_,hQ,hb⟩;have key:E=0/\P=(T3,0,10,2,[]):=by
  rcases hW with ⟨h,_⟩ | ⟨vs,g,h,hW⟩
  ·rw[Zqw] at h
   cases h
  ·rw[Zqw] at h
   cases h;rcases hW with ⟨h,_⟩ | ⟨_,l,hl,hW⟩
   ·exact absurd htk h
   ·have hp:=hput l hl
    have hp1:Zci (fT2,(0:Int),(8:Int),(2:Int),([]:List Int)).1 (fT2,(0:Int),(8:Int),(2:Int),([]:List Int)).2.2.1 (Ym (1,9,false,0)) l=(0,T3,10):=hp;rw[hp1] at hW;have hle:Zdb (T3,0,10,2,[])=0:=(Zgu hl3).1;rcases hW with ⟨h,_⟩ | ⟨_,⟨h,_⟩ | ⟨_,h1,h2⟩⟩
    ·exact absurd rfl h
    ·exact absurd hle h
    ·exact⟨h1,h2⟩
 obtain⟨rfl,rfl⟩:=key;exact⟨ra,rb,rc,rd,U,ul,uc,rfl,hQ,hb⟩}
theorem Z0o {T3:Rm}(hT:Zs1 fT2 8 fX=(0,T3,10)) (h9:Lg T3 9 []) (h10:Lg T3 10 [fX]) (hn:T3.2.1=fN3) (w:Px) :
  Qab Tryz.prog 25 #[] w fun e w'=>∃ (ra rb rc rd:Q4) (U:Option Pz) (ul uc:Nat),e=.returned (.tuple #[.agg #[.slice ra.1 ra.2.1 ra.2.2,.slice rb.1 rb.2.1 rb.2.2,.slice rc.1 rc.2.1 rc.2.2,.slice rd.1 rd.2.1 rd.2.2,.int .u32 0,.int .i64 10,.int .u32 2,.slice U ul uc],.bool true])/\Zhi ra rb rc rd U ul uc T3 0 10 2 [] w'/\Qac w.heap.size w w':=by{
 obtain⟨w1,hw1,b1,hs1,hB1⟩:=Zb6 w (.slice none 0 0) (.slice none 0 0) (.slice none 0 0) (.slice none 0 0) (.int .u32 0) (.int .i64 0) (.int .u32 0) (.slice none 0 0) 33;obtain⟨m1,m2,_⟩:=Zpn;have C1:=Za b1;have B1:=Za hB1;have M1:=Za m1;have M2:=Za m2;have hlt:=Za (show w.heap.size<w1.heap.size by omega);have hSet:=Za (fun qa qb qc qd D dl dc W hP=>Zxo hT h9 h10 hn qa qb qc qd D dl dc W hP);replace hs1:=Za hs1;clear b1 hB1 m1 m2
 go_enter Tryz.func25,Tryz.ntmps25
 go_upto_region 1 with fail
 clear hw1
 go_wp2_with fail
 with_reducible refine(Zya _).mono ?_
 rintro e w2 ⟨qa,qb,qc,qd,rfl,hS2,hb2⟩;have hS2':=Za hS2;have hb2':=Za hb2;clear hS2 hb2
 go_upto_region 2 with fail
 obtain⟨w3,hw3,b3,hs3,hB3⟩:=Zb6 w2 (.slice qa.1 qa.2.1 qa.2.2) (.slice qb.1 qb.2.1 qb.2.2) (.slice qc.1 qc.2.1 qc.2.2) (.slice qd.1 qd.2.1 qd.2.2) (.int .u32 0) (.int .i64 8) (.int .u32 1) (.slice none 0 0) 33;rw[hw3];have hS2:=hS2'.out;have hb2:=hb2'.out;have hb13:=hb2.trans (hB3.mono hb2.size);have S3:=Za (hS2.drop.below hB3);have C3:=Za b3;have D1:=Za ((hb13.block _ (Qa.1 C1.out).1).trans C1.out);have B13:=Za hb13;have hg23:=Za (show w1.heap.size<=w2.heap.size from hb2.size);obtain⟨p0,p1,p2,p3,p4,p5,p6,p7,_⟩:=Zm b3;replace hs3:=Za hs3;replace hw3:=Za hw3;clear hS2 hb2 hB3 b3 hb13 C1
 go_wp2_with fail
 with_reducible refine(Zhz qa qb qc qd fT1 w3 S3.out).mono ?_
 rintro e w4 ⟨ra,rb,rc,rd,rfl,hS4,hb4⟩;rw[M1.out,M2.out];have hS4':Sto (New w3.heap.size w4) w4 (.agg #[.slice ra.1 ra.2.1 ra.2.2,.slice rb.1 rb.2.1 rb.2.2,.slice rc.1 rc.2.1 rc.2.2,.slice rd.1 rd.2.1 rd.2.2]) fT2:=hS4;obtain⟨w5,hw5,b5,hs5,hB5⟩:=Xy w4 (.slice ra.1 ra.2.1 ra.2.2) (.slice rb.1 rb.2.1 rb.2.2) (.slice rc.1 rc.2.1 rc.2.2) (.slice rd.1 rd.2.1 rd.2.2) 29;have hb35:=hb4.trans (hB5.mono hb4.size);have S5:=hS4'.new (lo':=w3.heap.size) (Qb _) hB5;have c3:=(hb35.block _ (Qa.1 C3.out).1).trans C3.out;have d1:=(hb35.block _ (Qa.1 D1.out).1).trans D1.out;obtain⟨w6,hw6,b6,gr6,gs6⟩:=Z59 (a':=.slice ra.1 ra.2.1 ra.2.2) (b':=.slice rb.1 rb.2.1 rb.2.2) (c':=.slice rc.1 rc.2.1 rc.2.2) (d':=.slice rd.1 rd.2.1 rd.2.2) c3;obtain⟨w7,hw7,b7,gr7,gs7⟩:=Z52 (g':=.int .u32 2) b6;have hc3:w2.heap.size<w3.heap.size:=by have:=hs3.out;omega
 have S7:=Za ((S5.grown gr6 (fun q e=>by cases e;exact hc3)).grown gr7 (fun q e=>by cases e;exact hc3));have hb15:=B13.out.trans (hb35.mono B13.out.size);have hb17:=Za ((hb15.grown gr6 hb15.size (fun q e=>by cases e;exact hg23.out)).grown gr7 (by have:=hb15.size;omega) (fun q e=>by cases e;exact hg23.out));have n1:(some w.heap.size:Option Nat)≠some w2.heap.size:=fun e=>by have:=Option.some.inj e;have:=hlt.out;have:=hg23.out;omega
 have D7:=Za ((gr7.block _ (by have:=(Qa.1 d1).1;omega) n1).trans ((gr6.block _ (Qa.1 d1).1 n1).trans d1));have C7:=Za b7;obtain⟨p0,p1,p2,p3,p4,p5,p6,p7,pf,_⟩:=Zm c3;obtain⟨t0,t1,t2,t3,_⟩:=Ze b5;obtain⟨y0,y1,y2,y3,y4,y5,y6,y7,yf,_⟩:=Zm b6;replace hs5:=Za hs5;have b5':=Za b5;have c3':=Za c3;have b6':=Za b6;clear hS4 hS4' hb4 hB5 b5 hb35 S5 c3 d1 b6 gr6 gr7 b7 hb15 n1 D1 C3
 go_upto_region 3 with fail
 clear hw5
 go_upto_region 4 with fail
 clear hw6 p0 p1 p2 p3 p4 p5 p6 p7 pf t0 t1 t2 t3
 go_upto_region 5 with fail
 clear hw7 y0 y1 y2 y3 y4 y5 y6 y7 yf;obtain⟨p0,p1,p2,p3,p4,p5,p6,p7,pf,_⟩:=Zm C7.out;have hset:=Za (hSet.out ra rb rc rd none 0 0 w7 (Zsd S7.out.drop ⟨by decide,by decide⟩ ⟨by decide,by decide⟩ ⟨by decide,by decide⟩))
 go_wp2_with fail
 with_reducible refine hset.out.mono ?_
 rintro e w8 ⟨sa,sb,sc,sd,U,ul,uc,rfl,hP8,hb8⟩;obtain⟨w9,hw9,b9,hs9,hB9⟩:=Zb6 w8 (.slice sa.1 sa.2.1 sa.2.2) (.slice sb.1 sb.2.1 sb.2.2) (.slice sc.1 sc.2.1 sc.2.2) (.slice sd.1 sd.2.1 sd.2.2) (.int .u32 0) (.int .i64 10) (.int .u32 2) (.slice U ul uc) 33;have hb79:=hb8.trans (hB9.mono hb8.size);have d9:=(hb79.block _ (Qa.1 D7.out).1).trans D7.out;have B9:=Za (B1.out.trans ((hb17.out.trans (hb79.mono hb17.out.size)).mono B1.out.size));have P9:=Za (hP8.below hB9);have hl7:=Za (show w.heap.size<w7.heap.size from Qe hlt.out hb17.out.size);have C9:=Za b9;obtain⟨z0,z1,z2,z3,z4,z5,z6,z7,_⟩:=Zm b9;obtain⟨u0,u1,u2,u3,u4,u5,u6,u7,uf,_⟩:=Zm d9;obtain⟨wz,hwz,bz,grz,gsz⟩:=Ua (a':=.slice sa.1 sa.2.1 sa.2.2) (b':=.slice sb.1 sb.2.1 sb.2.2) (c':=.slice sc.1 sc.2.1 sc.2.2) (d':=.slice sd.1 sd.2.1 sd.2.2) (e':=.int .u32 0) (f':=.int .i64 10) (g':=.int .u32 2) (h':=.slice U ul uc) d9;obtain⟨f0,f1,f2,f3,f4,f5,f6,f7,_⟩:=Zm bz;have hBz:=Za (B9.out.grown grz B9.out.size (fun q e=>by cases e;exact Qb _));have hPz:Hid (Zhi sa sb sc sd U ul uc T3 0 10 2 [] wz):=Za ((P9.out.grown grz (fun q e=>by cases e;exact hl7.out)).pol ⟨⟨by decide,by decide⟩,⟨by decide,by decide⟩,⟨by decide,by decide⟩⟩);replace hs9:=Za hs9;have d9':=Za d9;clear hP8 hb8 hB9 b9 hb79 d9 bz grz gsz p0 p1 p2 p3 p4 p5 p6 p7 pf hset
 go_upto_region 6 with fail
 clear hw9
 go_wp2_with fail
 refine P7 (v:=.tuple #[.agg #[.slice sa.1 sa.2.1 sa.2.2,.slice sb.1 sb.2.1 sb.2.2,.slice sc.1 sc.2.1 sc.2.2,.slice sd.1 sd.2.1 sd.2.2,.int .u32 0,.int .i64 10,.int .u32 2,.slice U ul uc],.bool true]) (by simp[results,Tryz.results25,go_sem,f0,f1,f2,f3,f4,f5,f6,f7]) rfl ?_;exact⟨sa,sb,sc,sd,U,ul,uc,rfl,hPz.out,hBz.out⟩}
theorem Z3r (w:Px):Qab Tryz.prog 8 #[] w fun e w'=>e=.returned (.bool true)/\Qac w.heap.size w w':=by{
 obtain⟨T3,hT,h9,h10,hn⟩:=Z5i;have hW:=Za (Z0o hT h9 h10 hn w);have hv:Zxh (T3,0,10,2,[]) 1=(0,fV):=Zdz (Zif h9 h10 hn) (by decide +kernel);have hvol:=Za (fun qa qb qc qd D dl dc W hP=>Zju qa qb qc qd T3 0 10 2 [] D dl dc 1 W hP);rw[hv] at hvol;unfold vlV fV at hvol;clear hT h9 h10 hn hv
 go_enter Tryz.func8,Tryz.ntmps8
 go_wp2_with fail
 with_reducible refine hW.out.mono ?_
 rintro e w1 ⟨ra,rb,rc,rd,U,ul,uc,rfl,hP,hb1⟩;obtain⟨w2,hw2,b2,hs2,hB2⟩:=Zb6 w1 (.slice ra.1 ra.2.1 ra.2.2) (.slice rb.1 rb.2.1 rb.2.2) (.slice rc.1 rc.2.1 rc.2.2) (.slice rd.1 rd.2.1 rd.2.2) (.int .u32 0) (.int .i64 10) (.int .u32 2) (.slice U ul uc) 33;have B2:=Za (hb1.trans (hB2.mono hb1.size));have hc:=Za (hvol.out ra rb rc rd U ul uc w2 (hP.below hB2));obtain⟨p0,p1,p2,p3,p4,p5,p6,p7,pf,_⟩:=Zm b2;replace hs2:=Za hs2;clear hP hb1 hB2 b2
 go_upto_region 2 with fail
 clear hw2
 go_wp2_with fail
 with_reducible refine hc.out.mono ?_
 rintro e w3 ⟨rfl,hb3⟩;have hb3':=Za hb3;clear hb3 p0 p1 p2 p3 p4 p5 p6 p7 pf
 go_upto_region 3 with fail
 obtain⟨w4,hw4,b4,hs4,hB4⟩:=Xy w3 (.int .u32 1) (.int .i64 9) (.bool false) (.int .u32 0) 40;rw[hw4];have hb3:=hb3'.out;have B4:=Za (B2.out.trans ((hb3.trans (hB4.mono hb3.size)).mono B2.out.size));obtain⟨t0,t1,t2,t3,_⟩:=Ze b4;replace hs4:=Za hs4;replace hw4:=Za hw4;clear hb3 hB4 b4
 go_wp2_with fail
 go_ret;exact⟨rfl,B4.out⟩}
end Go.Proofs.YtmafkphcfkhokaaGreat
namespace Go.Proofs.YtmafkphcfkhokaaGreat
open Go.RowKit Go.ChangeShapes Go.WideShapes
def rPl:Rel Pl:=Zbp Z5y (Zbp (rK .u32) (Zbp (rK .i64) (Zbp (rK .u32) Zhd)))
theorem Zri:Zbo Tryz.prog 33 rPl:=Ze5 Tryz.underlying33 (Vv rfl Zom (Vv (by kernel_rfl) (Zf8 Tryz.underlying30) (Vv (by kernel_rfl) (Zf8 Tryz.underlying3) (Vv (by kernel_rfl) (Zf8 Tryz.underlying30) (Zh6 (by kernel_rfl) (by kernel_rfl) Zsg)))))
theorem Zyo {ok:Pz->Prop}{w:Px}{cs:List Py}{p:Pl}(h:rPl ok w cs p):∃ a b n l d,cs=[a,b,n,l,.int .u32 p.2.1,.int .i64 p.2.2.1,.int .u32 p.2.2.2.1,d]/\Sto ok w (.agg #[a,b,n,l]) p.1/\(InU p.2.1/\Zcz p.2.2.1/\InU p.2.2.2.1)/\rSl 1 (rK .i64) ok w [d] p.2.2.2.2:=by
 obtain⟨_,_,rfl,hs,_,_,rfl,⟨rfl,a1,a2⟩,_,_,rfl,⟨rfl,b1,b2⟩,_,_,rfl,⟨rfl,c1,c2⟩,hd⟩:=h;obtain⟨a,b,n,l,rfl,h1,h2,h3⟩:=Zvg hs;obtain⟨A,cap,rfl,hd'⟩:=hd;simp[IntKind.min,IntKind.max,IntKind.signed,IntKind.bits] at a1 a2 b1 b2 c1 c2;exact⟨a,b,n,l,_,rfl,⟨_,_,_,_,rfl,h1,h2,h3⟩,⟨⟨a1,by omega⟩,⟨b1,b2⟩,⟨c1,by omega⟩⟩,A,cap,rfl,hd'⟩
theorem Zwj {H:Type}{enc:P5×Py->H}{w:Px}{b0:Nat}{spare:Nat->Bool}{held:Bool}{r:Reach}{v:Py}{x:DataW H}{ps:List MemPlace}(hval:Value.okWide Tryz.prog w r b0 33 v) (hd:DataW.Trod enc Tryz.prog w 0 spare held 33 v x ps) :
  ∃ p,Pol (Old w) w v p:=by
 obtain⟨cs,rfl,_⟩:=okWide_struct Tryz.underlying33 hval;obtain⟨p,hs⟩:=Zyd Zri hd;obtain⟨a,b,n,l,d,h1,h2,h3,h4⟩:=Zyo hs;exact⟨p,a,b,n,l,d,by obtain⟨cs⟩:=cs;simp[Value.cells] at h1;rw[h1],h2,h3,h4⟩
def Zph (s:Rm) (dead:List Int):Bool:=Zl0 s||decide (1000<dead.length)
theorem Zrx (qa qb qc qd:Option Pz×Nat×Nat) (s:Rm) (gen root next:Int) (dead:List Int) (D:Option Pz) (dl dc:Nat) (w:Px) (hP:Zhi qa qb qc qd D dl dc s gen root next dead w) :
  Qab Tryz.prog 16 #[.agg #[.slice qa.1 qa.2.1 qa.2.2,.slice qb.1 qb.2.1 qb.2.2,.slice qc.1 qc.2.1 qc.2.2,.slice qd.1 qd.2.1 qd.2.2,.int .u32 gen,.int .i64 root,.int .u32 next,.slice D dl dc]] w fun e w'=>e=.returned (.bool (Zph s dead))/\Qac w.heap.size w w':=by{
 obtain⟨w1,hw1,b1,hs1,hB1⟩:=Zb6 w (.slice qa.1 qa.2.1 qa.2.2) (.slice qb.1 qb.2.1 qb.2.2) (.slice qc.1 qc.2.1 qc.2.2) (.slice qd.1 qd.2.1 qd.2.2) (.int .u32 gen) (.int .i64 root) (.int .u32 next) (.slice D dl dc) 33;have hg:=Za (Zr3 _ s w1 (hP.below hB1).sto);obtain⟨hdl,hd63⟩:dead.length=dl/\dl<=9223372036854775807:=by
  obtain⟨_,_,e,h1,h2,_⟩:=hP.dead;cases e;exact⟨rfl,by omega⟩
 obtain⟨gb,hgb⟩:∃ q,Zl0 s=q:=⟨_,rfl⟩
 obtain⟨gd,hgd⟩:∃ q,decide ((1000:Int)<(dl:Int))=q:=⟨_,rfl⟩
 have hfin:Hid (Zph s dead=(gb||gd)):=Za (by unfold Zph;rw[hgb,hdl,<- hgd];congr 1;exact decide_eq_decide.2 (by omega));rw[hgb] at hg;have C1:=Za b1;have B1:=Za hB1;obtain⟨p0,p1,p2,p3,p4,p5,p6,p7,_⟩:=Zm b1;replace hs1:=Za hs1;replace hgb:=Za hgb;clear hP b1 hB1 hdl
 go_enter Tryz.func16,Tryz.ntmps16
 go_upto_region 1 with fail
 clear hw1
 go_wp2_with fail
 with_reducible refine hg.out.mono ?_
 rintro e w2 ⟨rfl,hb2⟩;have BF:=Za (B1.out.trans (hb2.mono B1.out.size));clear p0 p1 p2 p3 p4 p5 p6 p7;obtain⟨p0,p1,p2,p3,p4,p5,p6,p7,_⟩:=Zm ((hb2.block _ (Qa.1 C1.out).1).trans C1.out);clear hb2;cases gb with
 | true =>
  go_wp2_with fail
  go_ret;exact⟨by rw[hfin.out];rfl,BF.out⟩
 | false =>
  go_wp2_with fail
  go_ret;exact⟨by rw[hfin.out];rfl,BF.out⟩}
theorem Zun {w:Px}{A:Option Pz}{n c:Nat}{vs:List Vl}(h:rSl 4 rVl (Old w) w [.slice A n c] vs){k:Nat}{i r o:Int}{f:Bool}(hk:vs[k]? = some (i,r,f,o)) :
  ∃ ad,A=some ad/\∀ W,Qac w.heap.size w W->W.cell? (ad.add (k*4))=some (.int .u32 i)/\W.cell? ⟨(ad.add (k*4)).block,(ad.add (k*4)).off+1,none⟩=some (.int .i64 r)/\W.cell? ⟨(ad.add (k*4)).block,(ad.add (k*4)).off+2,none⟩=some (.bool f)/\W.cell? ⟨(ad.add (k*4)).block,(ad.add (k*4)).off+3,none⟩=some (.int .u32 o):=by
 obtain⟨ad,rfl,y0,y1,y2,y3,_⟩:=Zo8 h hk;exact⟨ad,rfl,fun W hW=>⟨(hW.cell (Qq _ _ y0)).trans y0,(hW.cell (Qq _ _ y1)).trans y1,(hW.cell (Qq _ _ y2)).trans y2,(hW.cell (Qq _ _ y3)).trans y3⟩⟩
theorem Zq3 {ok:Pz->Prop}{w:Px}{α:Type}{R:Rel α}{m:Nat}{A:Option Pz}{n c:Nat}{l:List α}(h:rSl m R ok w [.slice A n c] l):l.length=n/\n<=9223372036854775807:=by
 obtain⟨_,_,e,h1,h2,_⟩:=h;cases e;exact⟨rfl,by omega⟩
theorem Zli:Tryz.prog.eqGuardType Tryz.prog.depth 40=false:=by kernel_rfl
theorem Zpl (i r o:Int) (f:Bool) (w:Px):(Op.equalIn 10000 40 (.agg #[.int .u32 i,.int .i64 r,.bool f,.int .u32 o]) (.agg #[.int .u32 i,.int .i64 r,.bool f,.int .u32 o])).run Tryz.prog w=.ok true w:=by{
 have hS:Tryz.prog.underlying 40=some (.struct (Tryz.prog.fieldsOf 40)):=by kernel_rfl
 have hp:Tryz.prog.stoodInHeld 40=false:=by kernel_rfl
 have u3:=Tryz.underlying4;have u4:=Tryz.underlying30;have u5:=Tryz.underlying3;have a3:=Tryz.isAgg4;have z3:=Tryz.sizeOf4;have a4:=Tryz.isAgg30;have z4:=Tryz.sizeOf30;have a5:=Tryz.isAgg3;have z5:=Tryz.sizeOf3;rw[show (10000:Nat)=9999+1 from rfl,run_equalIn_agg w 9999 40 _ _ hS hp];simp only[Program.fieldsOf,Tryz.underlying40]
 go_simp}
theorem Z48 {w:Px}{U:Option Pz}{n c:Nat}{l:List Int}(h:rSl 1 (rK .i64) (Old w) w [.slice U n c] l){k:Nat}{x:Int}(hx:l[k]? = some x) :
  ∃ ad,U=some ad/\∀ W,Qac w.heap.size w W->W.cell? (ad.add k)=some (.int .i64 x):=by
 obtain⟨A,cap,e,_,_,h2⟩:=h;simp only[List.cons.injEq,Value.slice.injEq,and_true] at e;obtain⟨rfl,_,_⟩:=e;obtain⟨ad,vs,rfl,_,e3,e4⟩:=h2 k x hx;obtain⟨rfl,_,_⟩:=e4;have:=e3 0 _ rfl;simp only[Nat.mul_one,Nat.add_zero] at this;exact⟨ad,rfl,fun W hW=>(hW.cell (p:=ad.add k) this.1).trans this.2⟩
end Go.Proofs.YtmafkphcfkhokaaGreat
