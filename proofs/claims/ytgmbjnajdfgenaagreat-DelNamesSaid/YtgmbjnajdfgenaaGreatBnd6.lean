/-
  Lemmas on the program and on the document's answers, gathered: DeJoin, DeShI, DeLow, DeOut, DeShrink, DeLower, FnLaws, DeDel, DeAlive. Conditions: those that each lemma states.
-/
import Derived.Test.YtgmbjnajdfgenaaGreatBnd5
import Derived.WalkMore
set_option maxRecDepth 100000
set_option maxHeartbeats 16000000
namespace Go.Proofs.YtgmbjnajdfgenaaGreat
open Go.RowKit
theorem Zd4 {W W9:World} {g lo size n:Nat} {t t':TypeId} {v:Value} {xs:List Value} {cs:Array Value} (h:W.ownsRow lo t size v n xs) (hz:W.heap[g]? = some (.cells cs t' (0,0))) (ht:t≠t') (hg:W.grownBy W9 (some g)):W9.ownsRow lo t size v n xs:=by
 refine⟨h.1,?_⟩
 rcases h.2 with e | ⟨b,cap,cur,e,hb,hgg,r⟩
 ·exact .inl e
 ·have hne:b≠g:=fun e'=>by
   rw[e',hz] at hgg
   simp at hgg
   exact ht hgg.2.symm
  exact .inr ⟨b,cap,cur,e,hb,(hg.block b (Array.getElem?_eq_some_iff.1 hgg).1 (fun e'=>hne (Option.some.inj e'))).trans hgg,r⟩
theorem Z0e {W:World} {g:Nat} {t:TypeId} {ok:Addr→Prop} {cs:List Value} {b:List UInt8} (h:rBy ok W cs b) (hz:W.heap[g]? = some (.cells #[.int .i64 0,.slice none 0 0] t (0,0))):rBy (fun p=>ok p∧p.block≠g) W cs b:=by
 have h8:∀ (p:Addr) (x:Int),W.cell? p=some (.int .u8 x)→p.block≠g:=fun p x hc e=>by
  unfold World.cell? at hc
  rw[e,hz] at hc
  dsimp only at hc
  split at hc
  ·cases hc
  ·obtain⟨hlt,hu⟩:=Array.getElem?_eq_some_iff.1 hc
   have:=Array.getElem_mem hlt
   rw[hu] at this
   simp at this
 have hab:∀ (a:Addr) (n:Nat),(a.add n).block=a.block:=fun a n=>by unfold Addr.add;split <;> rfl
 obtain⟨A,cap,e,l1,l2,h4⟩:=h
 refine⟨A,cap,e,l1,l2,fun i x hx => ?_⟩
 obtain⟨ad,vs,eA,hv,hc,hu⟩:=h4 i x hx
 unfold rU8 at hu
 subst hu
 exact⟨ad,_,eA,hv,fun j v hj=>by
  obtain⟨h1,h2⟩:=hc j v hj
  refine⟨⟨h1,?_⟩,h2⟩
  have h0:=(hc 0 _ rfl).2
  have:=h8 _ _ h0
  rw[hab] at this ⊢
  exact this,rfl⟩
theorem Zfr {P:Program} {Q:Exit→Act→World→Prop} (Kr:Rk.KrT) {id:Nat} {ops:Array Oper} {a:Act} {w:World} (hm:P.follows .mixedOrders=true) (m:Nat) (C:World→Prop) (phi:Nat→Option (Value→World→Prop)) (fx:Nat→Option Value) (hms:m≤ops.size) (hok:Rb.okAs (ops.toList.take m).toArray a.tmps.size=true) (hlast:Zbt ops m=true)
  (h1:Kr.C0 w.drew) (hon:((List.range m).all fun i=>i==Kr.k || !((phi i).isSome||(fx i).isSome)||Rk.leansOn (ops.toList.take m).toArray Kr.k m i)=true) (hC:C w.drew) (hCb:∀ w w',C w→Kr.rel w w'→C w') (hst:∀ (j:Nat) (φ:Value→World→Prop) (x:Value) (w w':World),phi j=some φ→φ x w→Kr.rel w w'→φ x w')
  (h:Rk.wpAs Kr P (ops.toList.take m).toArray C phi fx (fun a w=>wpList P ops Q (ops.toList.drop m) a w) 0 (ops.toList.take m) a []):(Code.region id ops true).wp P Q a w :=
 wp_region_any hm (Zfe m C phi fx hms hok hlast h1 hon hC hCb hst h)
theorem Zmc {P:Program} {w w':World} {o:Oper} {a:Act} {R:Value→World→Prop} (s x:Operand) (t:TypeId)
  (ho:o.op=.call { callee:=.builtin .append,args:=#[s,x],argTypes:=#[t,t] }) {v u v':Value} (hs:a.eval s=v) (hx:a.eval x=u)
  (hrun:(Builtin.append_ #[t,t] o.type #[v,u]).run P w=.ok v' w') (h:R v' w'):Rb.doesUpon P R ((execOp a.eval o).run P w):=by
 unfold execOp
 simp only[ho,resolve,invoke,builtin,Sem.run_bind,Sem.run_pure,Result.andThen_ok,List.map_toArray,List.map_cons,List.map_nil,hs,hx,hrun]
 exact h
def Z00 (t:Rm) (M:List It) (p:Nat) (L1:List It) (F:Option Addr) (w:World) (e:Ending) (w':World):Prop:=∃ b c',e=.returned (.tuple #[.agg #[.int .i64 ((Yf t M p L1).1:Int),.int .i64 ((Yf t M p L1).2.1:Int)],.slice (some ⟨b,0,none⟩) (Yf t M p L1).2.2.length c',.int .i64 0]) ∧
 Uo (Old w') w' [.slice (some ⟨b,0,none⟩) (Yf t M p L1).2.2.length c'] (Yf t M p L1).2.2∧w.grownBy w' (F.map (·.block))
theorem Zwy (qa qb qc qd:Option Addr×Nat×Nat) (t:Rm) (lw:Int) (A:Option Addr) (n c p:Nat) (M:List It) (F:Option Addr) (lf m fc:Nat) (qs:List Iv) (L1:List It) (w:World) (h:Sto (Old w) w (.agg #[.slice qa.1 qa.2.1 qa.2.2,.slice qb.1 qb.2.1 qb.2.2,.slice qc.1 qc.2.1 qc.2.2,.slice qd.1 qd.2.1 qd.2.2]) t)
  (hM:Uo (Old w) w [.slice A n c] M) (hn:M.length=n) (hp:p<n) (hn5:n≤5) (hR:∀ q∈M,rmE t q.2.1=0∧0<(rmV t q.2.1).2.length) (hF:w.ownsRow lf 54 5 (.slice F m fc) m (Zi qs)) (hqs:qs.map (·.1)=L1) (hm0:0<m) (hm5:m≤5)
  (hqi:∀ p∈qs,InI p.1∧rBy (fun a=>a.block<w.heap.size∧F.map (·.block)≠some a.block) w [p.2] p.1.2.2) (hlf:lf≤w.heap.size) :
  Calls Tryz.prog 50 #[.agg #[.int .i64 lw,.slice A n c,.int .i64 (p:Int)],.agg #[.slice qa.1 qa.2.1 qa.2.2,.slice qb.1 qb.2.1 qb.2.2,.slice qc.1 qc.2.1 qc.2.2,.slice qd.1 qd.2.1 qd.2.2],.slice F m fc] w (Z00 t M p L1 F w):=by
 obtain⟨ad,rfl⟩:∃ ad,A=some ad:=by
  obtain⟨ad,_,_,e,_⟩:=Zaj hM (List.getElem?_eq_getElem (show p<M.length by omega))
  exact⟨ad,e⟩
 obtain⟨fa,rfl⟩:∃ fa,F=some fa:=by
  obtain⟨_,_,e,_,_,_,h5⟩:=Ye hF
  cases e
  exact h5 hm0
 obtain⟨fb,Cf,rfl,hfl,hfs,_⟩:=Z9 hF
 obtain⟨w1,hw1,-,-,-,hs1,hB1,b1⟩:=Yw w (.int .i64 lw) (.slice (some ad) n c) (.int .i64 (p:Int)) 102
 obtain⟨w2,hw2,b2,hs2,hB2⟩:=Xt w1 (.slice qa.1 qa.2.1 qa.2.2) (.slice qb.1 qb.2.1 qb.2.2) (.slice qc.1 qc.2.1 qc.2.2) (.slice qd.1 qd.2.1 qd.2.2) 29
 obtain⟨w3,hw3,b3,hs3,hB3⟩:=Z7 w2 (.int .i64 0) (.int .i64 0) 108
 obtain⟨w4,hw4,b4,hs4,hB4⟩:=Z7 w3 (.int .i64 (p:Int)) (.int .i64 1) 108
 have hB34:=hB3.trans (hB4.mono hB3.size)
 have hB24:=hB2.trans (hB34.mono hB2.size)
 have hB14:=hB1.trans (hB24.mono hB1.size)
 have B4:=Za hB14
 have SZ:=Za (show w1.heap.size=w.heap.size+1∧w2.heap.size=w.heap.size+2∧w3.heap.size=w.heap.size+3∧w4.heap.size=w.heap.size+4 from by omega)
 have G1:=(hB24.block w.heap.size (by omega)).trans b1
 have G2:=(hB34.block w1.heap.size (by omega)).trans b2
 have G3:=(hB4.block w2.heap.size (by omega)).trans b3
 have KB1:=Za (fun W (hW:Below w4.heap.size w4 W)=>(hW.block w.heap.size (by omega)).trans G1)
 have KB2:=Za (fun W (hW:Below w4.heap.size w4 W)=>(hW.block w1.heap.size (by omega)).trans G2)
 have KB6:=Za (fun W (hW:Below w4.heap.size w4 W)=>(hW.block w2.heap.size (by omega)).trans G3)
 have KB9:=Za (fun W (hW:Below w4.heap.size w4 W)=>(hW.block w3.heap.size (by omega)).trans b4)
 have hS4:=Za (fun W (hW:Below w4.heap.size w4 W)=>h.below (hB14.trans (hW.mono hB14.size)))
 have hM':=Za hM
 have hnb:Hid (∀ bs c0,M[bs]? = some c0→∃ (x lv:Int) (nl:Nat) (L5:List It),c0.2.1=x∧rmV t x=(lv,L5)∧Hid (L5.length=nl∧nl≤5∧0<nl)∧Hid (∀ W,Below w4.heap.size w4 W→W.cell? ⟨(ad.add (bs*5)).block,(ad.add (bs*5)).off+3,none⟩=some (.int .i64 x)) ∧
   Hid (∀ W,Below w4.heap.size w4 W→Calls Tryz.prog 36 #[.agg #[.slice qa.1 qa.2.1 qa.2.2,.slice qb.1 qb.2.1 qb.2.2,.slice qc.1 qc.2.1 qc.2.2,.slice qd.1 qd.2.1 qd.2.2],.int .i64 x] W fun e W'=>∃ Z zc,e=.returned (.tuple #[.agg #[.int .i64 lv,.slice Z nl zc],.int .i64 0])∧Yd rIt 5 54 w4.heap.size W' Z zc L5∧Below W.heap.size W W')):=Za fun bs c0 hc0=>by
  obtain⟨ad',E,ce,e,_,_,_,h5⟩:=Vv hM hc0
  cases e
  obtain⟨h0,hpos⟩:=hR c0 (List.mem_of_getElem? hc0)
  refine⟨c0.2.1,(rmV t c0.2.1).1,(rmV t c0.2.1).2.length,(rmV t c0.2.1).2,rfl,rfl,Za ⟨rfl,(Z2 (Ys h0).1).1.2.2.1,hpos⟩,Za fun W hW=>(h5 W (hB14.trans (hW.mono hB14.size))).1.c3,Za fun W hW => ?_⟩
  refine(Zch _ t c0.2.1 W (h.below (hB14.trans (hW.mono hB14.size)))).mono ?_
  rintro e W' ⟨u,rfl,⟨Z,zc,rfl,_,hr⟩,hb⟩
  rw[h0]
  exact⟨Z,zc,rfl,hr.low Z3 hW.size,hb⟩
 have hF':=Za hF
 have hqi':=Za hqi
 have hqm:Hid (qs.length=m):=Za (Zaw hF)
 have hL1:Hid (L1.length=m):=Za (by rw[← hqs,List.length_map,Zaw hF])
 have hqs':=Za hqs
 have hnn:=Za hn
 obtain⟨g0,g1,g2,_⟩:=Zk G1
 obtain⟨f0,f1,f2,_⟩:=Zk ((hB3.block w.heap.size (by omega)).trans ((hB2.block w.heap.size (by omega)).trans b1))
 obtain⟨u0,u1,uf,_⟩:=Zg G3
 obtain⟨v0,v1,vf,_⟩:=Zg b4
 obtain⟨R,hRe⟩:∃ R,Yf t M p L1=R:=⟨_,rfl⟩
 unfold Z00
 rw[hRe]
 have hMe:Hid (Yf t M p L1=match M[p+1]? with
  | some c=>if (rmV t c.2.1).2.length+L1.length≤5 then (p,2,L1++(rmV t c.2.1).2) else (p,1,L1)
  | none=>if p=0 then (p,1,L1) else match M[p-1]? with
   | some b=>if (rmV t b.2.1).2.length+L1.length≤5 then (p-1,2,(rmV t b.2.1).2++L1) else (p,1,L1)
   | none=>(p,1,L1)):=Za rfl
 rw[hRe] at hMe
 replace hRe:=Za hRe
 replace hs1:=Za hs1
 replace hs2:=Za hs2
 replace hs3:=Za hs3
 replace hs4:=Za hs4
 have halone:Hid (∀ W,Below w.heap.size w W→R=(p,1,L1)→∃ b c',Ending.returned (.tuple #[.agg #[.int .i64 (p:Int),.int .i64 1],.slice (some ⟨fb,0,none⟩) m fc,.int .i64 0])=.returned (.tuple #[.agg #[.int .i64 (R.1:Int),.int .i64 (R.2.1:Int)],.slice (some ⟨b,0,none⟩) R.2.2.length c',.int .i64 0])∧Uo (Old W) W [.slice (some ⟨b,0,none⟩) R.2.2.length c'] R.2.2∧w.grownBy W ((some (⟨fb,0,none⟩:Addr)).map (·.block))):=Za fun W hb he=>by
  rw[he]
  refine⟨fb,fc,by rw[hL1.out];rfl,?_,⟨hb.os,hb.tape,hb.output,hb.size,fun k hk _=>hb.block k hk⟩⟩
  rw[hL1.out]
  have:=Zdr (Zw hF'.out hb) (fun p hp=>⟨(hqi'.out p hp).1,Zf _ _ _ _ _ _ (fun a v ha hc=>⟨Nat.lt_of_lt_of_le ha.1 hb.size,(hb.cell ha.1).trans hc⟩) (hqi'.out p hp).2⟩)
  rwa [hqs'.out] at this
 have honq:=Za (Zeu hqi)
 have i1:IntKind.i64.wrap ((p:Int)+1)=((p+1:Nat):Int):=by rw[IntKind.wrap_i64];omega
 clear h hM hR hF hqi hqs hn hB1 hB2 hB3 hB4 hB34 hB24 hB14 b1 b2 b3 b4 G1 G2 G3
 go_enter Tryz.func50,Tryz.ntmps50
 by_cases hA:p+1<n
 ·obtain⟨bs,hbs⟩:∃ bs,bs=p+1:=⟨_,rfl⟩
  rw[← hbs] at i1
  have t0:((bs:Int)==(n:Int))=false:=by simp;omega
  have t1:¬ ((bs:Int)<0):=by omega
  have t2:(0:Int)≤(bs:Int):=by omega
  have t3:(bs:Int)<(n:Int):=by omega
  have t4:bs<n:=by omega
  have t5:¬ ((bs:Int)<(p:Int)):=by omega
  have t6:¬ (bs<p):=by omega
  obtain⟨c0,hc0⟩:∃ c0,M[bs]? = some c0:=⟨_,List.getElem?_eq_getElem (by rw[hnn.out];omega)⟩
  obtain⟨x,lv,nl,L5,hx,hx5,hL5l,hcf,HN⟩:=hnb.out bs c0 hc0
  have hR2:Hid (R=if L5.length+L1.length≤5 then (p,2,L1++L5) else (p,1,L1)):=Za (by
   rw[hMe.out,← hbs,hc0]
   simp only[hx,hx5])
  have hn5':nl≤5:=hL5l.out.2.1
  have hn0':=Za hL5l.out.2.2
  replace hL5l:=Za hL5l.out.1
  have i3:IntKind.i64.wrap ((m:Int)+(nl:Int))=(m:Int)+(nl:Int):=by rw[IntKind.wrap_i64];omega
  replace hx:=Za hx
  replace hx5:=Za hx5
  replace hc0:=Za hc0
  replace hbs:=Za hbs
  clear hnb
  go_upto_region 7 with fail
  refine Xf (ops' := ?opsLateA) (by kernel_rfl) [(13,11)] ?heA (by kernel_rfl) (fun d _ _ _ _ h=>by cases d <;> exact h) 13 (fun W=>Below w4.heap.size w4 W) (fun i=>match i with
   | 8=>some (fun v W=>∃ Z zc,v=.tuple #[.agg #[.int .i64 lv,.slice Z nl zc],.int .i64 0]∧Yd rIt 5 54 w4.heap.size W Z zc L5)
   | 9=>some (fun v W=>∃ Z zc,v=.tuple #[.agg #[.int .i64 lv,.slice Z nl zc],.int .i64 0]∧Yd rIt 5 54 w4.heap.size W Z zc L5)
   | 10=>some (fun v W=>∃ Z zc,v=.agg #[.int .i64 lv,.slice Z nl zc]∧Yd rIt 5 54 w4.heap.size W Z zc L5)
   | 12=>some (fun v W=>∃ g,v=.pointer (some ⟨g,0,none⟩)∧w4.heap.size≤g∧W.heap[g]? = some (.cells #[.int .i64 0,.slice none 0 0] 81 (0,0)))
   | _=>none) (fun i=>match i with
   | 11=>some (.int .i64 0)
   | _=>none) ?h1A ?h2A ?h3A (Below.refl _ _).drew (fun w w' h hb=>h.trans (hb.mono h.size)) ?tstA ?_
  case heA =>
   simp[Z4]
   rfl
  case h1A=>decide
  case h2A=>kernel_rfl
  case h3A=>kernel_rfl
  case tstA =>
   intro j φ x W W' hp hx hb
   match j,hp with
   | 8,hp=>cases hp;obtain⟨Z,zc,e,h⟩:=hx;exact⟨Z,zc,e,h.below Z3 hb⟩
   | 9,hp=>cases hp;obtain⟨Z,zc,e,h⟩:=hx;exact⟨Z,zc,e,h.below Z3 hb⟩
   | 10,hp=>cases hp;obtain⟨Z,zc,e,h⟩:=hx;exact⟨Z,zc,e,h.below Z3 hb⟩
   | 12,hp=>cases hp;obtain⟨g,e,h1,h2⟩:=hx;exact⟨g,e,h1,(hb.block g (Array.getElem?_eq_some_iff.1 h2).1).trans h2⟩
  simp only[List.take_succ_cons,List.take_zero,List.drop_succ_cons,List.drop_zero]
  repeat (first
   | (refine wpAs_skip rfl ?_;simp only[Act.put,Zb,Zc,Zd])
   | (refine wpAs_pure (v := ?_) rfl rfl ?_ ?_;rotate_left;(intro W hC hE;clear hE;(obtain⟨k0,k1,k2,k3,_⟩:=Ze (KB2.out W hC);obtain⟨p0,p1,p2,_⟩:=Zk (KB1.out W hC);have cf:=hcf.out W hC);clear hC;go_simp;first | done | with_reducible rfl);simp only[Act.put,Zb,Zc,Zd]))
  refine wpAs_act rfl rfl ?_ ?_
  ·intro W hC hE
   clear hE
   refine does_enter (f:=36) (args:=#[.agg #[.slice qa.1 qa.2.1 qa.2.2,.slice qb.1 qb.2.1 qb.2.2,.slice qc.1 qc.2.1 qc.2.2,.slice qd.1 qd.2.1 qd.2.2],.int .i64 x]) ?_ ?_
   ·go_simp
   ·refine(HN.out W hC).mono ?_
    rintro e W' ⟨Z,zc,rfl,hI,hb⟩
    exact⟨_,rfl,⟨Z,zc,rfl,hI⟩,hb⟩
  simp only[Act.put,Zb,Zc,Zd,envAdd]
  intro x2
  refine wpAs_act rfl rfl ?_ ?_
  ·intro W hC hE
   have h7:=hE.1 rfl
   clear hE hC
   go_simp
   exact⟨h7,Below.refl _ _⟩
  simp only[Act.put,Zb,Zc,Zd,envAdd]
  intro x3
  refine wpAs_act rfl rfl ?_ ?_
  ·intro W hC hE
   obtain⟨Z,zc,rfl,hI⟩:=hE.1 rfl
   have hI':=Za hI
   clear hE hC hI
   go_simp
   exact⟨⟨Z,zc,rfl,hI'.out⟩,Below.refl _ _⟩
  simp only[Act.put,Zb,Zc,Zd,envAdd]
  intro x4
  refine wpAs_fixed rfl rfl rfl ?_ ?_
  ·intro W hC hE
   obtain⟨Z,zc,rfl,hI⟩:=hE.2.1 rfl
   clear hE hC hI
   go_simp
   exact⟨rfl,Below.refl _ _⟩
  simp only[Act.put,Zb,Zc,Zd]
  refine wpAs_act rfl rfl ?_ ?_
  ·intro W hC hE
   have hs:=hC.size
   clear hE hC
   go_simp
   exact⟨⟨W.heap.size,rfl,hs,heap_alloc_new _ _⟩,(Below.refl _ _).alloc (Nat.le_refl _) _⟩
  simp only[Act.put,Zb,Zc,Zd,envAdd]
  intro x6
  refine wpAs_end fun W hC hE => ?_
  obtain⟨⟨g,rfl,hg,hzz⟩,⟨Z,zc,rfl,hI⟩,_⟩:=hE
  obtain⟨c0,c1,c2,_⟩:=Zg hzz
  obtain⟨w8,hW9,g9,gr9,gs9⟩:=Xk (u:=.int .i64 lv) (v:=.slice Z nl zc) hzz
  have hb9:=hC.grown gr9 hC.size (fun q e=>by cases e;exact hg)
  obtain⟨zs,e1,e2,e3⟩:=Vw hI
  rw[hL5l.out] at e2
  have e2':=Zd4 e2 hzz (by decide) gr9
  have HZ:=Za (show (∀ p∈zs,InI p.1∧rBy (fun a=>w4.heap.size≤a.block∧a.block<w8.heap.size∧Z.map (·.block)≠some a.block) w8 [p.2] p.1.2.2) from fun p hp=>⟨(e3 p hp).1,Zf _ _ _ _ _ _ (fun a v ha hc=>⟨⟨ha.1.1.1,Nat.lt_of_lt_of_le ha.1.1.2.1 gr9.size,ha.1.2⟩,(World.cell?_of_block (gr9.block a.block ha.1.1.2.1 (fun e=>ha.2 (Option.some.inj e)))).trans hc⟩) (Z0e (e3 p hp).2 hzz)⟩)
  have HO:=Za e2'
  have HB:=Za hb9
  have HL:=Za e1
  have G9:=Za g9
  have a1:=KB1.out w8 hb9
  have a6:=KB6.out w8 hb9
  have a9:=KB9.out w8 hb9
  obtain⟨p0,p1,p2,_⟩:=Zk a1
  obtain⟨m0,m1,mf,_⟩:=Zg a6
  obtain⟨d0,d1,df,_⟩:=Zg a9
  obtain⟨n0,n1,_⟩:=Zg g9
  replace a6:=Za a6
  replace gr9:=Za gr9
  replace gs9:=Za gs9
  replace hg:=Za hg
  clear hC hI hzz hb9 e1 e2 e2' e3 a1 a9
  replace g9:=Za g9
  go_upto_region 10 with fail
  clear hW9 c0 c1 c2
  by_cases hmany:5<m+nl
  ·have j1:(5:Int)<(m:Int)+(nl:Int):=by omega
   obtain⟨W9,hW9,g10,gr10,gs10⟩:=Xk (u:=.int .i64 (p:Int)) (v:=.int .i64 1) a6.out
   have hfin:=Za (halone.out W9 ((B4.out.trans (HB.out.mono B4.out.size)).grown gr10 (B4.out.trans (HB.out.mono B4.out.size)).size (fun q e=>by cases e;have:=SZ.out;omega)) (by rw[hR2.out,if_neg (by rw[hL5l.out,hL1.out];omega)]))
   obtain⟨y0,y1,_⟩:=Zg g10
   clear g10 gr10 gs10
   go_wp2_with fail
   exact bodyPost_ret (v:=.tuple #[.agg #[.int .i64 (p:Int),.int .i64 1],.slice (some ⟨fb,0,none⟩) m fc,.int .i64 0]) (by simp[results,Tryz.results50,go_sem,y0,y1]) rfl hfin.out
  have j1:¬ ((5:Int)<(m:Int)+(nl:Int)):=by omega
  obtain⟨zad,rfl⟩:∃ zad,Z=some zad:=by
   obtain⟨_,_,e,_,_,_,h5⟩:=Ye HO.out
   cases e
   exact h5 hn0'.out
  obtain⟨zb,CZ,rfl,hzl,hzs,_⟩:=Z9 HO.out
  obtain⟨i0,hi0,hz0,hz1,hz2⟩:=info_parts X1
  have hFw:=Zw (Zw hF'.out B4.out) HB.out
  obtain⟨v',W1,hr,o1,gg1,bb1,kk1⟩:=Zcj (P:=Tryz.prog) (w:=w8.drew) lf 39 39 54 i0 (.agg #[.int .u8 0,.int .u32 0,.int .u32 0,.int .i64 0,.slice none 0 0]) 5 48 Tryz.underlying39 hi0 hz0 hz1 hz2 rfl (by decide) _ _ _ (show w8.drew.ownsRow lf 54 5 (.slice (some ⟨fb,0,none⟩) m fc) m (Zi qs) from hFw) ⟨zb,0,none⟩ nl zc (Zi zs) HO.out.1 (fun j u hj=>HO.out.cells (g:=zb) rfl j u hj) (Yz (Zeu HZ.out)) (by unfold maxLen;omega) (by omega) (show lf≤w8.heap.size from Nat.le_trans hlf (Nat.le_trans B4.out.size HB.out.size))
  obtain⟨A2,c2,rfl,_,_,_,h5⟩:=Ye o1
  obtain⟨ad2,rfl⟩:=h5 (by omega)
  obtain⟨b2,_,rfl,_⟩:=Z9 o1
  have hgb:w8.grownBy W1 (some fb):=Xj gg1
  have hBw:Below w.heap.size w w8:=B4.out.trans (HB.out.mono B4.out.size)
  have hsz8:=hBw.size
  have ka:∀ k,k<w8.heap.size→k≠fb→W1.heap[k]? = w8.heap[k]? := fun k h1 h2=>hgb.block k h1 (fun e=>h2 (Option.some.inj e))
  have z1:W1.heap[w.heap.size]? = w8.heap[w.heap.size]? := ka _ (by have:=HB.out.size;have:=SZ.out;omega) (by omega)
  have z6:W1.heap[w2.heap.size]? = some (.cells #[.int .i64 0,.int .i64 0] 108 (0,0)):=(ka _ (by have:=HB.out.size;have:=SZ.out;omega) (by have:=SZ.out;omega)).trans a6.out
  have zg:W1.heap[g]? = w8.heap[g]? := ka _ (Array.getElem?_eq_some_iff.1 G9.out).1 (by have:=hg.out;have:=SZ.out;omega)
  have K1:=Za (fun W (hW:W=w8.drew∨W=W1)=>(show W.heap[w.heap.size]? = _ from by
   rcases hW with rfl | rfl
   ·exact KB1.out w8 HB.out
   ·exact z1.trans (KB1.out w8 HB.out)))
  have KG:=Za (fun W (hW:W=w8.drew∨W=W1)=>(show W.heap[g]? = _ from by
   rcases hW with rfl | rfl
   ·exact G9.out
   ·exact zg.trans G9.out))
  obtain⟨W9,hW9,g10,gr10,gs10⟩:=Xk (u:=.int .i64 (p:Int)) (v:=.int .i64 2) z6
  obtain⟨y0,y1,_⟩:=Zg g10
  obtain⟨x0,x1,xf,_⟩:=Zg z6
  have hfin:Hid (∃ b c',Ending.returned (.tuple #[.agg #[.int .i64 (p:Int),.int .i64 2],.slice (some ⟨b2,0,none⟩) (m+nl) c2,.int .i64 0])=.returned (.tuple #[.agg #[.int .i64 (R.1:Int),.int .i64 (R.2.1:Int)],.slice (some ⟨b,0,none⟩) R.2.2.length c',.int .i64 0])∧Uo (Old W9) W9 [.slice (some ⟨b,0,none⟩) R.2.2.length c'] R.2.2∧w.grownBy W9 ((some (⟨fb,0,none⟩:Addr)).map (·.block))):=Za (by
   have eR:R=(p,2,L1++L5):=by rw[hR2.out,if_pos (by rw[hL5l.out,hL1.out];omega)]
   have el:(L1++L5).length=m+nl:=by rw[List.length_append,hL5l.out,hL1.out]
   have hgA:w.grownBy W9 (some fb):=by
    have h1:=Yl ⟨hBw.os,hBw.tape,hBw.output,hBw.size,fun k hk _=>hBw.block k hk⟩ hgb
    refine⟨gr10.os.trans h1.os,gr10.tape.trans h1.tape,gr10.output.trans h1.output,Nat.le_trans h1.size gr10.size,fun k hk hne=>(gr10.block k (Nat.lt_of_lt_of_le hk h1.size) (fun e => ?_)).trans (h1.block k hk hne)⟩
    have:=Option.some.inj e
    have:=SZ.out
    omega
   rw[eR]
   refine⟨b2,c2,by rw[el];rfl,?_,hgA⟩
   rw[el]
   have hco:Zi (qs++zs)=Zi qs++Zi zs:=Yc _ _
   have hO9:W9.ownsRow lf 54 5 (.slice (some ⟨b2,0,none⟩) (m+nl) c2) (m+nl) (Zi (qs++zs)):=Zd4 (by rw[hco];exact o1) z6 (by decide) gr10
   have:=Zdr hO9 (fun q hq => ?_)
   ·rwa [List.map_append,hqs'.out,HL.out] at this
   ·rcases List.mem_append.1 hq with hq | hq
    ·refine⟨(hqi'.out q hq).1,Zf _ _ _ _ _ _ (fun a v ha hc => ?_) (hqi'.out q hq).2⟩
     have h1:a.block≠fb:=fun e=>ha.2 (by rw[e];rfl)
     have hb:=(gr10.block a.block (by have:=ha.1;have:=hgb.size;omega) (fun e=>by have:=Option.some.inj e;have:=ha.1;have:=SZ.out;omega)).trans ((ka a.block (by have:=ha.1;omega) h1).trans (hBw.block a.block ha.1))
     exact⟨Nat.lt_of_lt_of_le ha.1 (Nat.le_trans hsz8 (Nat.le_trans hgb.size gr10.size)),(World.cell?_of_block hb).trans hc⟩
    ·refine⟨(HZ.out q hq).1,Zf _ _ _ _ _ _ (fun a v ha hc => ?_) (HZ.out q hq).2⟩
     have hb:=(gr10.block a.block (by have:=ha.2.1;have:=hgb.size;omega) (fun e=>by have:=Option.some.inj e;have:=ha.1;have:=SZ.out;omega)).trans (ka a.block ha.2.1 (by have:=ha.1;have:=SZ.out;omega))
     exact⟨Nat.lt_of_lt_of_le ha.2.1 (Nat.le_trans hgb.size gr10.size),(World.cell?_of_block hb).trans hc⟩)
  have HR:=Za hr
  clear hr o1 gg1 bb1 kk1 hgb ka z1 zg g10 gr10 gs10 hFw hi0 hz0 hz1 hz2 hBw hzl hzs
  replace z6:=Za z6
  go_upto_region 14 with fail
  clear p0 p1 p2 n0 n1 d0 d1 df m0 m1 mf
  refine Zfr ⟨fun W W'=>W'=W∨(W=w8.drew∧W'=W1),6,fun W=>W=w8.drew⟩ (by kernel_rfl) 7 (fun W=>W=w8.drew∨W=W1) (fun i=>match i with
   | 6=>some (fun v W=>v=.slice (some ⟨b2,0,none⟩) (m+nl) c2∧W=W1)
   | _=>none) (fun _=>none) ?h1J ?h2J ?h3J rfl ?honJ (.inl rfl) (fun W W' h hr => ?hcbJ) ?tstJ ?_
  case h1J=>decide
  case h2J=>kernel_rfl
  case h3J=>kernel_rfl
  case honJ=>kernel_rfl
  case hcbJ =>
   rcases hr with rfl | ⟨_,rfl⟩
   ·exact h
   ·exact .inr rfl
  case tstJ =>
   intro j φ v W W' hp hx hr
   match j,hp with
   | 6,hp =>
    cases hp
    obtain⟨e1,e2⟩:=hx
    rcases hr with rfl | ⟨_,rfl⟩
    ·exact⟨e1,e2⟩
    ·exact⟨e1,rfl⟩
  simp only[List.take_succ_cons,List.take_zero,List.drop_succ_cons,List.drop_zero]
  repeat (first
   | (refine Rk.wpAs_skip rfl ?_;simp only[Act.put,Zb,Zc,Zd])
   | (refine Rk.wpAs_pure (v := ?_) rfl rfl ?_ ?_;rotate_left;(intro W hC hE;clear hE;(obtain⟨p0,p1,p2,_⟩:=Zk (K1.out W hC);obtain⟨n0,n1,_⟩:=Zg (KG.out W hC));clear hC;go_simp;first | done | with_reducible rfl);simp only[Act.put,Zb,Zc,Zd]))
  refine Rk.wpAs_act rfl rfl ?_ ?_
  ·intro W hC hk hE
   obtain rfl:=hk rfl
   clear hE hC
   exact Zmc _ _ _ rfl rfl rfl HR.out ⟨⟨rfl,rfl⟩,.inr ⟨rfl,rfl⟩⟩
  simp only[Act.put,Zb,Zc,Zd,Rb.envAdd]
  intro x9
  repeat (first
   | (refine Rk.wpAs_skip rfl ?_;simp only[Act.put,Zb,Zc,Zd])
   | (refine Rk.wpAs_pure (v := ?_) rfl rfl ?_ ?_;rotate_left;(intro W hC hE;clear hE;skip;clear hC;go_simp;first | done | with_reducible rfl);simp only[Act.put,Zb,Zc,Zd]))
  refine Rk.wpAs_end fun W hC hE => ?_
  obtain⟨⟨rfl,rfl⟩,_⟩:=hE
  go_wp2_with fail
  exact bodyPost_ret (v:=.tuple #[.agg #[.int .i64 (p:Int),.int .i64 2],.slice (some ⟨b2,0,none⟩) (m+nl) c2,.int .i64 0]) (by simp[results,Tryz.results50,go_sem,y0,y1]) rfl hfin.out
 ·have hpn:p+1=n:=by omega
  rw[hpn] at i1
  have hMn:Hid (M[p+1]? = none):=Za (List.getElem?_eq_none (by rw[hnn.out];omega))
  by_cases h0:p=0
  ·have i2:IntKind.i64.wrap ((p:Int)-1) = -1:=by rw[IntKind.wrap_i64];omega
   have a6:=KB6.out w4 (Below.refl _ _)
   obtain⟨W9,hW9,g10,gr10,gs10⟩:=Xk (u:=.int .i64 (p:Int)) (v:=.int .i64 1) a6
   have hfin:=Za (halone.out W9 (B4.out.grown gr10 B4.out.size (fun q e=>by cases e;have:=SZ.out;omega)) (by rw[hMe.out,hMn.out];simp only[if_pos h0]))
   obtain⟨y0,y1,_⟩:=Zg g10
   replace h0:=Za h0
   replace hpn:=Za hpn
   clear g10 gr10 gs10 a6
   go_wp2_with fail
   exact bodyPost_ret (v:=.tuple #[.agg #[.int .i64 (p:Int),.int .i64 1],.slice (some ⟨fb,0,none⟩) m fc,.int .i64 0]) (by simp[results,Tryz.results50,go_sem,y0,y1]) rfl hfin.out
  ·obtain⟨bs,hbs⟩:∃ bs,bs=p-1:=⟨_,rfl⟩
   have i2:IntKind.i64.wrap ((p:Int)-1)=(bs:Int):=by rw[IntKind.wrap_i64];omega
   have t1:¬ ((bs:Int)<0):=by omega
   have t2:(0:Int)≤(bs:Int):=by omega
   have t3:(bs:Int)<(n:Int):=by omega
   have t4:bs<n:=by omega
   have t5:((bs:Int)<(p:Int)):=by omega
   have t6:(bs<p):=by omega
   obtain⟨c0,hc0⟩:∃ c0,M[bs]? = some c0:=⟨_,List.getElem?_eq_getElem (by rw[hnn.out];omega)⟩
   obtain⟨x,lv,nl,L5,hx,hx5,hL5l,hcf,HN⟩:=hnb.out bs c0 hc0
   have hR2:Hid (R=if L5.length+L1.length≤5 then (bs,2,L5++L1) else (p,1,L1)):=Za (by
    rw[hMe.out,hMn.out]
    simp only[if_neg h0]
    rw[← hbs,hc0]
    simp only[hx,hx5])
   have hn5':nl≤5:=hL5l.out.2.1
   have hn0':=Za hL5l.out.2.2
   replace hL5l:=Za hL5l.out.1
   have i3:IntKind.i64.wrap ((m:Int)+(nl:Int))=(m:Int)+(nl:Int):=by rw[IntKind.wrap_i64];omega
   replace hx:=Za hx
   replace hx5:=Za hx5
   replace hc0:=Za hc0
   replace hbs:=Za hbs
   replace h0:=Za h0
   replace hpn:=Za hpn
   clear hnb
   go_upto_region 7 with fail
   refine Xf (ops' := ?opsLateC) (by kernel_rfl) [(13,11)] ?heC (by kernel_rfl) (fun d _ _ _ _ h=>by cases d <;> exact h) 13 (fun W=>Below w4.heap.size w4 W) (fun i=>match i with
    | 8=>some (fun v W=>∃ Z zc,v=.tuple #[.agg #[.int .i64 lv,.slice Z nl zc],.int .i64 0]∧Yd rIt 5 54 w4.heap.size W Z zc L5)
    | 9=>some (fun v W=>∃ Z zc,v=.tuple #[.agg #[.int .i64 lv,.slice Z nl zc],.int .i64 0]∧Yd rIt 5 54 w4.heap.size W Z zc L5)
    | 10=>some (fun v W=>∃ Z zc,v=.agg #[.int .i64 lv,.slice Z nl zc]∧Yd rIt 5 54 w4.heap.size W Z zc L5)
    | 12=>some (fun v W=>∃ g,v=.pointer (some ⟨g,0,none⟩)∧w4.heap.size≤g∧W.heap[g]? = some (.cells #[.int .i64 0,.slice none 0 0] 81 (0,0)))
    | _=>none) (fun i=>match i with
    | 11=>some (.int .i64 0)
    | _=>none) ?h1C ?h2C ?h3C (Below.refl _ _).drew (fun w w' h hb=>h.trans (hb.mono h.size)) ?tstC ?_
   case heC =>
    simp[Z4]
    rfl
   case h1C=>decide
   case h2C=>kernel_rfl
   case h3C=>kernel_rfl
   case tstC =>
    intro j φ x W W' hp hx hb
    match j,hp with
    | 8,hp=>cases hp;obtain⟨Z,zc,e,h⟩:=hx;exact⟨Z,zc,e,h.below Z3 hb⟩
    | 9,hp=>cases hp;obtain⟨Z,zc,e,h⟩:=hx;exact⟨Z,zc,e,h.below Z3 hb⟩
    | 10,hp=>cases hp;obtain⟨Z,zc,e,h⟩:=hx;exact⟨Z,zc,e,h.below Z3 hb⟩
    | 12,hp=>cases hp;obtain⟨g,e,h1,h2⟩:=hx;exact⟨g,e,h1,(hb.block g (Array.getElem?_eq_some_iff.1 h2).1).trans h2⟩
   simp only[List.take_succ_cons,List.take_zero,List.drop_succ_cons,List.drop_zero]
   repeat (first
    | (refine wpAs_skip rfl ?_;simp only[Act.put,Zb,Zc,Zd])
    | (refine wpAs_pure (v := ?_) rfl rfl ?_ ?_;rotate_left;(intro W hC hE;clear hE;(obtain⟨k0,k1,k2,k3,_⟩:=Ze (KB2.out W hC);obtain⟨p0,p1,p2,_⟩:=Zk (KB1.out W hC);have cf:=hcf.out W hC);clear hC;go_simp;first | done | with_reducible rfl);simp only[Act.put,Zb,Zc,Zd]))
   refine wpAs_act rfl rfl ?_ ?_
   ·intro W hC hE
    clear hE
    refine does_enter (f:=36) (args:=#[.agg #[.slice qa.1 qa.2.1 qa.2.2,.slice qb.1 qb.2.1 qb.2.2,.slice qc.1 qc.2.1 qc.2.2,.slice qd.1 qd.2.1 qd.2.2],.int .i64 x]) ?_ ?_
    ·go_simp
    ·refine(HN.out W hC).mono ?_
     rintro e W' ⟨Z,zc,rfl,hI,hb⟩
     exact⟨_,rfl,⟨Z,zc,rfl,hI⟩,hb⟩
   simp only[Act.put,Zb,Zc,Zd,envAdd]
   intro x2
   refine wpAs_act rfl rfl ?_ ?_
   ·intro W hC hE
    have h7:=hE.1 rfl
    clear hE hC
    go_simp
    exact⟨h7,Below.refl _ _⟩
   simp only[Act.put,Zb,Zc,Zd,envAdd]
   intro x3
   refine wpAs_act rfl rfl ?_ ?_
   ·intro W hC hE
    obtain⟨Z,zc,rfl,hI⟩:=hE.1 rfl
    have hI':=Za hI
    clear hE hC hI
    go_simp
    exact⟨⟨Z,zc,rfl,hI'.out⟩,Below.refl _ _⟩
   simp only[Act.put,Zb,Zc,Zd,envAdd]
   intro x4
   refine wpAs_fixed rfl rfl rfl ?_ ?_
   ·intro W hC hE
    obtain⟨Z,zc,rfl,hI⟩:=hE.2.1 rfl
    clear hE hC hI
    go_simp
    exact⟨rfl,Below.refl _ _⟩
   simp only[Act.put,Zb,Zc,Zd]
   refine wpAs_act rfl rfl ?_ ?_
   ·intro W hC hE
    have hs:=hC.size
    clear hE hC
    go_simp
    exact⟨⟨W.heap.size,rfl,hs,heap_alloc_new _ _⟩,(Below.refl _ _).alloc (Nat.le_refl _) _⟩
   simp only[Act.put,Zb,Zc,Zd,envAdd]
   intro x6
   refine wpAs_end fun W hC hE => ?_
   obtain⟨⟨g,rfl,hg,hzz⟩,⟨Z,zc,rfl,hI⟩,_⟩:=hE
   obtain⟨c0,c1,c2,_⟩:=Zg hzz
   obtain⟨w8,hW9,g9,gr9,gs9⟩:=Xk (u:=.int .i64 lv) (v:=.slice Z nl zc) hzz
   have hb9:=hC.grown gr9 hC.size (fun q e=>by cases e;exact hg)
   obtain⟨zs,e1,e2,e3⟩:=Vw hI
   rw[hL5l.out] at e2
   have e2':=Zd4 e2 hzz (by decide) gr9
   have HZ:=Za (show (∀ p∈zs,InI p.1∧rBy (fun a=>w4.heap.size≤a.block∧a.block<w8.heap.size∧Z.map (·.block)≠some a.block) w8 [p.2] p.1.2.2) from fun p hp=>⟨(e3 p hp).1,Zf _ _ _ _ _ _ (fun a v ha hc=>⟨⟨ha.1.1.1,Nat.lt_of_lt_of_le ha.1.1.2.1 gr9.size,ha.1.2⟩,(World.cell?_of_block (gr9.block a.block ha.1.1.2.1 (fun e=>ha.2 (Option.some.inj e)))).trans hc⟩) (Z0e (e3 p hp).2 hzz)⟩)
   have HO:=Za e2'
   have HB:=Za hb9
   have HL:=Za e1
   have G9:=Za g9
   have a1:=KB1.out w8 hb9
   have a6:=KB6.out w8 hb9
   have a9:=KB9.out w8 hb9
   obtain⟨p0,p1,p2,_⟩:=Zk a1
   obtain⟨m0,m1,mf,_⟩:=Zg a6
   obtain⟨d0,d1,df,_⟩:=Zg a9
   obtain⟨n0,n1,_⟩:=Zg g9
   replace a6:=Za a6
   replace gr9:=Za gr9
   replace gs9:=Za gs9
   replace hg:=Za hg
   clear hC hI hzz hb9 e1 e2 e2' e3 a1 a9
   replace g9:=Za g9
   go_upto_region 10 with fail
   clear hW9 c0 c1 c2
   by_cases hmany:5<m+nl
   ·have j1:(5:Int)<(m:Int)+(nl:Int):=by omega
    obtain⟨W9,hW9,g10,gr10,gs10⟩:=Xk (u:=.int .i64 (p:Int)) (v:=.int .i64 1) a6.out
    have hfin:=Za (halone.out W9 ((B4.out.trans (HB.out.mono B4.out.size)).grown gr10 (B4.out.trans (HB.out.mono B4.out.size)).size (fun q e=>by cases e;have:=SZ.out;omega)) (by rw[hR2.out,if_neg (by rw[hL5l.out,hL1.out];omega)]))
    obtain⟨y0,y1,_⟩:=Zg g10
    clear g10 gr10 gs10
    go_wp2_with fail
    exact bodyPost_ret (v:=.tuple #[.agg #[.int .i64 (p:Int),.int .i64 1],.slice (some ⟨fb,0,none⟩) m fc,.int .i64 0]) (by simp[results,Tryz.results50,go_sem,y0,y1]) rfl hfin.out
   have j1:¬ ((5:Int)<(m:Int)+(nl:Int)):=by omega
   obtain⟨zad,rfl⟩:∃ zad,Z=some zad:=by
    obtain⟨_,_,e,_,_,_,h5⟩:=Ye HO.out
    cases e
    exact h5 hn0'.out
   obtain⟨zb,CZ,rfl,hzl,hzs,_⟩:=Z9 HO.out
   obtain⟨i0,hi0,hz0,hz1,hz2⟩:=info_parts X1
   have hFw:=Zw (Zw hF'.out B4.out) HB.out
   obtain⟨v',W1,hr,o1,gg1,bb1,kk1⟩:=Zcj (P:=Tryz.prog) (w:=w8) w4.heap.size 39 39 54 i0 (.agg #[.int .u8 0,.int .u32 0,.int .u32 0,.int .i64 0,.slice none 0 0]) 5 48 Tryz.underlying39 hi0 hz0 hz1 hz2 rfl (by decide) _ _ _ HO.out ⟨fb,0,none⟩ m fc (Zi qs) hFw.1 (fun j u hj=>hFw.cells (g:=fb) rfl j u hj) (Yz honq.out) (by unfold maxLen;omega) (by omega) (Nat.le_trans (Nat.le_refl _) HB.out.size)
   obtain⟨A2,c2,rfl,_,_,_,h5⟩:=Ye o1
   obtain⟨ad2,rfl⟩:=h5 (by omega)
   obtain⟨b2,_,rfl,_⟩:=Z9 o1
   have hgb:w8.grownBy W1 (some zb):=gg1
   have hBw:Below w.heap.size w w8:=B4.out.trans (HB.out.mono B4.out.size)
   have hsz8:=hBw.size
   have ka:∀ k,k<w8.heap.size→k≠zb→W1.heap[k]? = w8.heap[k]? := fun k h1 h2=>hgb.block k h1 (fun e=>h2 (Option.some.inj e))
   have z6:W1.heap[w2.heap.size]? = some (.cells #[.int .i64 0,.int .i64 0] 108 (0,0)):=(ka _ (by have:=HB.out.size;have:=SZ.out;omega) (by have:=SZ.out;omega)).trans a6.out
   obtain⟨W9,hW9',g10,gr10,gs10⟩:=Xk (u:=.int .i64 (bs:Int)) (v:=.int .i64 2) z6
   obtain⟨y0,y1,_⟩:=Zg g10
   obtain⟨x0,x1,xf,_⟩:=Zg z6
   have hfin:Hid (∃ b c',Ending.returned (.tuple #[.agg #[.int .i64 (bs:Int),.int .i64 2],.slice (some ⟨b2,0,none⟩) (nl+m) c2,.int .i64 0])=.returned (.tuple #[.agg #[.int .i64 (R.1:Int),.int .i64 (R.2.1:Int)],.slice (some ⟨b,0,none⟩) R.2.2.length c',.int .i64 0])∧Uo (Old W9) W9 [.slice (some ⟨b,0,none⟩) R.2.2.length c'] R.2.2∧w.grownBy W9 ((some (⟨fb,0,none⟩:Addr)).map (·.block))):=Za (by
    have eR:R=(bs,2,L5++L1):=by rw[hR2.out,if_pos (by rw[hL5l.out,hL1.out];omega)]
    have el:(L5++L1).length=nl+m:=by rw[List.length_append,hL5l.out,hL1.out]
    have hB1:=hBw.grown hgb hBw.size (fun q e=>by cases e;have:=SZ.out;omega)
    have hB9:=hB1.grown gr10 hB1.size (fun q e=>by cases e;have:=SZ.out;omega)
    rw[eR]
    refine⟨b2,c2,by rw[el];rfl,?_,⟨hB9.os,hB9.tape,hB9.output,hB9.size,fun k hk _=>hB9.block k hk⟩⟩
    rw[el]
    have hco:Zi (zs++qs)=Zi zs++Zi qs:=Yc _ _
    have hO9:W9.ownsRow w4.heap.size 54 5 (.slice (some ⟨b2,0,none⟩) (nl+m) c2) (nl+m) (Zi (zs++qs)):=Zd4 (by rw[hco];exact o1) z6 (by decide) gr10
    have:=Zdr hO9 (fun q hq => ?_)
    ·rwa [List.map_append,hqs'.out,HL.out] at this
    ·rcases List.mem_append.1 hq with hq | hq
     ·refine⟨(HZ.out q hq).1,Zf _ _ _ _ _ _ (fun a v ha hc => ?_) (HZ.out q hq).2⟩
      have h1:a.block≠zb:=fun e=>ha.2.2 (by rw[e];rfl)
      have hb:=(gr10.block a.block (by have:=ha.2.1;have:=hgb.size;omega) (fun e=>by have:=Option.some.inj e;have:=ha.1;have:=SZ.out;omega)).trans (ka a.block ha.2.1 h1)
      exact⟨Nat.lt_of_lt_of_le ha.2.1 (Nat.le_trans hgb.size gr10.size),(World.cell?_of_block hb).trans hc⟩
     ·refine⟨(hqi'.out q hq).1,Zf _ _ _ _ _ _ (fun a v ha hc => ?_) (hqi'.out q hq).2⟩
      exact⟨Nat.lt_of_lt_of_le ha.1 hB9.size,(World.cell?_of_block (hB9.block a.block ha.1)).trans hc⟩)
   have HR:=Za hr
   clear hr o1 gg1 bb1 kk1 hgb ka g10 gr10 gs10 hFw hi0 hz0 hz1 hz2 hBw hzl hzs z6
   go_upto_region 13 with fail
   go_wp2_with (at_builtin;refine Zo rfl _ _ _ rfl rfl rfl HR.out ?_;clear HR)
   exact bodyPost_ret (v:=.tuple #[.agg #[.int .i64 (bs:Int),.int .i64 2],.slice (some ⟨b2,0,none⟩) (nl+m) c2,.int .i64 0]) (by simp[results,Tryz.results50,go_sem,y0,y1]) rfl hfin.out
end Go.Proofs.YtgmbjnajdfgenaaGreat
namespace Go.Proofs.YtgmbjnajdfgenaaGreat
open Go.RowKit Go.Shelf
structure Zdq (lo hi:Nat) (V:World) (A:Option Addr) (c:Nat) (L:List It):Prop where
 le:lo≤hi
 blk:∀ g,A.map (·.block)=some g→lo≤g∧g<hi
 row:∃ ps:List Iv,ps.map (·.1)=L∧V.ownsRow lo 54 5 (.slice A L.length c) L.length (Zi ps)∧∀ p∈ps,InI p.1∧rBy (fun ad=>lo≤ad.block∧ad.block<hi∧A.map (·.block)≠some ad.block) V [p.2] p.1.2.2
theorem Zwl {lo hi:Nat} (h:lo≤hi) (V:World):Zdq lo hi V none 0 []:=⟨h,fun g e=>(by cases e),[],rfl,World.ownsRow_nil ..,fun p hp=>(List.not_mem_nil hp).elim⟩
theorem Zb6 {lo size n:Nat} {t:TypeId} {A:Option Addr} {c:Nat} {V V':World} {xs:List Value} (h:V.ownsRow lo t size (.slice A n c) n xs) (e:∀ k,A.map (·.block)=some k→V'.heap[k]? = V.heap[k]?):V'.ownsRow lo t size (.slice A n c) n xs:=by
 refine⟨h.1,?_⟩
 rcases h.2 with e' | ⟨b,cap,cur,e',hb,hgg,r⟩
 ·exact .inl e'
 ·cases e'
  exact .inr ⟨b,_,cur,rfl,hb,(e b rfl).trans hgg,r⟩
theorem Zdq.same {lo hi:Nat} {V V':World} {A:Option Addr} {c:Nat} {L:List It} (h:Zdq lo hi V A c L) (e:∀ k,lo≤k→k<hi→V'.heap[k]? = V.heap[k]?):Zdq lo hi V' A c L:=by
 obtain⟨ps,h1,h2,h3⟩:=h.row
 exact⟨h.le,h.blk,ps,h1,Zb6 h2 fun k hk=>e k (h.blk k hk).1 (h.blk k hk).2,fun p hp=>⟨(h3 p hp).1,Zf _ _ _ _ _ _ (fun a v ha hc=>⟨ha,(World.cell?_of_block (e a.block ha.1 ha.2.1)).trans hc⟩) (h3 p hp).2⟩⟩
theorem Zdq.kept {lo hi:Nat} {V V':World} {A:Option Addr} {c:Nat} {L:List It} {row:Option Nat} (h:Zdq lo hi V A c L) (hg:V.grownBy V' row) (hr:∀ r,row=some r→∃ o:Obj,V.heap[r]? = some o∧o.isCells=false):Zdq lo hi V' A c L:=by
 obtain⟨ps,h1,h2,h3⟩:=h.row
 refine⟨h.le,h.blk,ps,h1,⟨h2.1,?_⟩,fun p hp=>⟨(h3 p hp).1,Zf _ _ _ _ _ _ (fun a v ha hc=>⟨ha,cell_kept hc hg hr⟩) (h3 p hp).2⟩⟩
 rcases h2.2 with e' | ⟨b,cap,cur,e',hb,hgg,r⟩
 ·exact .inl e'
 ·exact .inr ⟨b,cap,cur,e',hb,Zl hgg hg hr,r⟩
theorem Zdq.wide {lo hi hi':Nat} {V:World} {A:Option Addr} {c:Nat} {L:List It} (h:Zdq lo hi V A c L) (hh:hi≤hi'):Zdq lo hi' V A c L:=by
 obtain⟨ps,h1,h2,h3⟩:=h.row
 exact⟨Nat.le_trans h.le hh,fun g e=>⟨(h.blk g e).1,Nat.lt_of_lt_of_le (h.blk g e).2 hh⟩,ps,h1,h2,fun p hp=>⟨(h3 p hp).1,Zf _ _ _ _ _ _ (fun a v ha hc=>⟨⟨ha.1,Nat.lt_of_lt_of_le ha.2.1 hh,ha.2.2⟩,hc⟩) (h3 p hp).2⟩⟩
theorem Zdq.its {lo hi:Nat} {V:World} {A:Option Addr} {c:Nat} {L:List It} (h:Zdq lo hi V A c L) (hh:hi≤V.heap.size):Uo (Old V) V [.slice A L.length c] L:=by
 obtain⟨ps,h1,h2,h3⟩:=h.row
 have:=Zdr h2 (fun p hp=>⟨(h3 p hp).1,Zf _ _ _ _ _ _ (fun a v ha hc=>⟨Nat.lt_of_lt_of_le ha.2.1 hh,hc⟩) (h3 p hp).2⟩)
 rwa [h1] at this
theorem Zxv {V:World} {q:Sv} (h:Zed V q) (hq:q.lo≤q.hi):Zdq q.lo q.hi V q.A q.c q.nd.2:=by
 obtain⟨w0,h0,h1,h3⟩:=h
 obtain⟨ps,e1,e2,e3⟩:=Vw h1
 have hb:∀ g,q.A.map (·.block)=some g→q.lo≤g∧g<q.hi:=fun g e=>by
  have:=e2.lt g (by rw[← e];cases q.A <;> rfl)
  exact⟨this.1,by omega⟩
 exact⟨hq,hb,ps,e1,Zb6 e2 fun k hk=>h3 k (hb k hk).1 (hb k hk).2,fun p hp=>⟨(e3 p hp).1,Zf _ _ _ _ _ _ (fun a v ha hc=>⟨⟨ha.1.1,by have:=ha.1.2.1;omega,ha.2⟩,(World.cell?_of_block (h3 a.block ha.1.1 (by have:=ha.1.2.1;omega))).trans hc⟩) (e3 p hp).2⟩⟩
theorem Z0i {lo hi:Nat} {V W:World} {A:Option Addr} {c:Nat} {L:List Iv} {e:Ending} (hl:lo≤hi) (hb:∀ g,A.map (·.block)=some g→lo≤g∧g<hi) (hi':hi≤V.heap.size) (h:Zzs lo V A c L e W) (hL:∀ p∈L,InI p.1∧rBy (fun ad=>lo≤ad.block∧ad.block<hi∧A.map (·.block)≠some ad.block) V [p.2] p.1.2.2):Zdq lo hi W A c (L.map (·.1)):=by
 obtain⟨_,h2,h3⟩:=h
 refine⟨hl,hb,L,rfl,by rw[List.length_map];exact h2,fun p hp=>⟨(hL p hp).1,Zf _ _ _ _ _ _ (fun a v ha hc=>⟨ha,?_⟩) (hL p hp).2⟩⟩
 exact(World.cell?_of_block (h3.block a.block (by omega) (fun e=>ha.2.2 e.symm))).trans hc
def ShI (l0 lo hi B2 B4 B5 B6 B7 B8:Nat) (A0:Option Addr) (c0:Nat) (n0:World) (s:Rm) (k:Ky) (a:Int) (lv:Nat) (l:List Sv) (r:List Nat×Option Nat) (V:World):Prop :=
 r.2=none∧(Below lo n0 V∧hi≤V.heap.size∧V.ownsRow lo 102 3 (.slice A0 l.length c0) l.length (dvs l))∧(Ya B4 #[.slice none 0 0,.slice none 0 0,.slice none 0 0,.slice none 0 0] 29 V∧Ya B5 #[.int .i64 0] 3 V∧Ya B6 #[.int .i64 0] 33 V) ∧
 ∃ (t:Rm) (L:List It) (held:Int) (qa qb qc qd:Option Addr×Nat×Nat) (A:Option Addr) (c bnd:Nat),stO k s a lv r.1.length=(0,t,L,held)∧Ya B2 #[.slice qa.1 qa.2.1 qa.2.2,.slice qb.1 qb.2.1 qb.2.2,.slice qc.1 qc.2.1 qc.2.2,.slice qd.1 qd.2.1 qd.2.2] 29 V ∧
  Sto (Kn (fun k=>k<l0∨hi≤k) V) V (.agg #[.slice qa.1 qa.2.1 qa.2.2,.slice qb.1 qb.2.1 qb.2.2,.slice qc.1 qc.2.1 qc.2.2,.slice qd.1 qd.2.1 qd.2.2]) t∧Ya B7 #[.slice A L.length c] 39 V∧Ya B8 #[.int .i64 held] 3 V ∧
  (lo≤bnd∧Zdq bnd n0.heap.size V A c L∧(A=none∨∃ q∈l,q.A=A))∧∀ q∈l.take (l.length-r.1.length),q.hi≤bnd∧Zed V q
def ShX (lo hi B4 B5 B6:Nat) (n0:World) (s:Rm) (k:Ky) (a:Int) (lv:Nat) (c:Code) (r:List Nat×Option Nat) (V:World):Prop :=
 c=.ret∧r.2=none∧(Below lo n0 V∧hi≤V.heap.size)∧∃ er:Int,Ya B4 #[.slice none 0 0,.slice none 0 0,.slice none 0 0,.slice none 0 0] 29 V∧Ya B5 #[.int .i64 0] 3 V∧Ya B6 #[.int .i64 er] 33 V∧stO k s a lv (lv+1)=(er,Zh,[],0)∧er≠0
theorem Zvt {K:Nat→Prop} {V V':World} {v:Value} {s:Rm} {row:Option Nat} (h:Sto (Kn K V) V v s) (hg:V.grownBy V' row) (hr:∀ r,row=some r→∃ o:Obj,V.heap[r]? = some o∧o.isCells=false):Sto (Kn K V') V' v s :=
 h.map fun _ _ hp hc=>⟨⟨hp.1,Nat.lt_of_lt_of_le hp.2 hg.size⟩,cell_kept hc hg hr⟩
theorem Zy7 {lo size n:Nat} {t:TypeId} {v:Value} {V V':World} {xs:List Value} {row:Option Nat} (h:V.ownsRow lo t size v n xs) (hg:V.grownBy V' row) (hr:∀ r,row=some r→∃ o:Obj,V.heap[r]? = some o∧o.isCells=false):V'.ownsRow lo t size v n xs:=by
 refine⟨h.1,?_⟩
 rcases h.2 with e' | ⟨b,cap,cur,e',hb,hgg,r⟩
 ·exact .inl e'
 ·exact .inr ⟨b,cap,cur,e',hb,Zl hgg hg hr,r⟩
theorem Z1q {l0 lo hi B2 B4 B5 B6 B7 B8:Nat} {A0:Option Addr} {c0:Nat} {n0:World} {s:Rm} {k:Ky} {a:Int} {lv:Nat} {l:List Sv} {B:Nat} (hlh:lo≤hi) (hB:lo≤B) (hq:∀ q∈l,q.hi≤B∧q.hi≤hi):OwnFrom B (ShI l0 lo hi B2 B4 B5 B6 B7 B8 A0 c0 n0 s k a lv l):=fun r V V' row hs hg hrr=>by
 obtain⟨h0,⟨h1,h2,h2o⟩,⟨h3,h4,h5⟩,t,L,held,qa,qb,qc,qd,A,c,bnd,e1,e2,e3,e4,e5,⟨e6,e7,e8⟩,e9⟩:=hs
 have hn:=fun r e=>(hrr r e).2
 refine⟨h0,⟨h1.grown hg (by omega) (fun r e=>by have:=(hrr r e).1;omega),Nat.le_trans h2 hg.size,Zy7 h2o hg hn⟩,⟨Zl h3 hg hn,Zl h4 hg hn,Zl h5 hg hn⟩,t,L,held,qa,qb,qc,qd,A,c,bnd,e1,Zl e2 hg hn,Zvt e3 hg hn,Zl e4 hg hn,Zl e5 hg hn,⟨e6,e7.kept hg hn,e8⟩,fun q hm=>⟨(e9 q hm).1,?_⟩⟩
 have:=hq q (List.mem_of_mem_take hm)
 exact Zmi (e9 q hm).2 (by omega) hg fun r e=>.inr (by have:=(hrr r e).1;omega)
theorem Z0z {lo hi B4 B5 B6:Nat} {n0:World} {s:Rm} {k:Ky} {a:Int} {lv:Nat} {c:Code} {B:Nat} (hlh:lo≤hi) (hB:lo≤B):OwnFrom B (ShX lo hi B4 B5 B6 n0 s k a lv c):=fun r V V' row hs hg hrr=>by
 obtain⟨hc,h0,⟨h1,h2⟩,er,h3,h4,h5,h6⟩:=hs
 have hn:=fun r e=>(hrr r e).2
 exact⟨hc,h0,⟨h1.grown hg (by omega) (fun r e=>by have:=(hrr r e).1;omega),Nat.le_trans h2 hg.size⟩,er,Zl h3 hg hn,Zl h4 hg hn,Zl h5 hg hn,h6⟩
noncomputable def Z1o (s:Rm) (a:Int) (lv:Nat) (k:Ky):Int×Rm×Int :=
 if (stO k s a lv (lv+1)).1=0 then Zm8 (stO k s a lv (lv+1)).2.1 ((if (stO k s a lv (lv+1)).2.2.1=[] then 0 else (rmV s a).1),(stO k s a lv (lv+1)).2.2.1) (stO k s a lv (lv+1)).2.2.2 else ((stO k s a lv (lv+1)).1,Zh,0)
def Z49 (l0 lo:Nat) (g:Int×Rm×Int) (w:World) (e:Ending) (w':World):Prop:=∃ qa qb qc qd:Option Addr×Nat×Nat,e=.returned (.tuple #[.agg #[.slice qa.1 qa.2.1 qa.2.2,.slice qb.1 qb.2.1 qb.2.2,.slice qc.1 qc.2.1 qc.2.2,.slice qd.1 qd.2.1 qd.2.2],.int .i64 g.2.2,.int .i64 g.1]) ∧
 Sto (Kn (fun k=>k<l0∨w.heap.size≤k) w') w' (.agg #[.slice qa.1 qa.2.1 qa.2.2,.slice qb.1 qb.2.1 qb.2.2,.slice qc.1 qc.2.1 qc.2.2,.slice qd.1 qd.2.1 qd.2.2]) g.2.1∧Below lo w w'
theorem Z2n {s0 t u:Rm} {r:Int} {L:Nat} (hm:Xq u=true) (hd:u.1=t.1) (hr:Zhs s0 t L r) (hh:∀ i:Nat,i≠r.toNat→t.2.1[i]?.getD 0≠0→u.2.1[i]?.getD 0≠0) (hmo:∀ x:Int,x.toNat≠r.toNat→Zdv s0 t x→Zdv s0 u x):∀ {l:Nat} {a:Int},l<L→Zhs s0 t l a→Zhs s0 u l a:=by
 have hnode:∀ {l:Nat} {a:Int},l<L→Zhs s0 t l a→a.toNat≠r.toNat∧rmE u a=rmE t a∧rmV u a=rmV t a:=fun {l a} hl h=>by
  have h1:=h.ok
  have h2:=hr.ok
  obtain⟨k,rfl,_,h8,h256,_,_,hE,hV,hx⟩:=Xi (Ys h1.1).2
  obtain⟨j,rfl,_,_,_,_,_,_,hV2,_⟩:=Xi (Ys h2.1).2
  have hne:k≠j:=fun e=>by
   subst e
   rw[h1.2] at h2
   omega
  have hne':((k:Int)).toNat≠((j:Int)).toNat:=by omega
  have ha:asE u (k:Int)=0:=Zby hm h8 h256 (hh k (by omega) hx)
  refine⟨hne',?_,?_⟩
  ·rw[hE,rmE,if_pos ha,hd,show ((k:Int)).toNat=k by omega]
  ·rw[hV,rmV,if_pos ha,hd,show ((k:Int)).toNat=k by omega]
 intro l
 induction l with
 | zero =>
  intro a hl h
  obtain⟨_,e1,e2⟩:=hnode hl h
  exact⟨e1.trans h.1,by rw[e2];exact h.2⟩
 | succ l ih =>
  intro a hl h
  obtain⟨_,e1,e2⟩:=hnode hl h
  refine⟨e1.trans h.1,by rw[e2];exact h.2.1,fun x hx => ?_⟩
  rw[e2] at hx
  obtain⟨g1,g2⟩:=h.2.2 x hx
  exact⟨ih (by omega) g1,fun h0=>hmo _ (hnode (by omega) g1).1 (g2 h0)⟩
structure Zsm (s0 s:Rm) (l:Nat) (r:Int):Prop where
 keep:X3 s0 s
 lev:Zhs s0 s l r
 more:Zdv s0 s r
theorem Zzp {s:Rm} {r:Int} (h:(rmV s r).2.length=1):∃ x,(rmV s r).2=[x]∧Zkl (rmV s r).2=x.2.1:=by
 match he:(rmV s r).2,h with
 | [x],_=>exact⟨x,rfl,rfl⟩
theorem Zzi {s0 s:Rm} {l:Nat} {r:Int} (h:Zsm s0 s (l+1) r) (h1:(rmV s r).2.length=1) :
  asE s (Zkl (rmV s r).2)=0∧asE s r=0∧(s.2.1[(Zkl (rmV s r).2).toNat]?.getD 0≠255→shE s (Zkl (rmV s r).2)=0∧shV s (Zkl (rmV s r).2)=upR s (Zkl (rmV s r).2)∧asE (upR s (Zkl (rmV s r).2)) r=0 ∧
   ∀ v,lfO (upR s (Zkl (rmV s r).2)).1 (upR s (Zkl (rmV s r).2)).2.1 r.toNat=some v→Zsm s0 ((upR s (Zkl (rmV s r).2)).1,v,(upR s (Zkl (rmV s r).2)).2.2) l (Zkl (rmV s r).2)):=by
 obtain⟨x,hx,ho⟩:=Zzp h1
 rw[ho]
 have hxm:x∈(rmV s r).2:=by rw[hx];exact List.mem_singleton.2 rfl
 have hlr:=h.lev.ok
 obtain⟨lb,mb⟩:=h.lev.2.2 x hxm
 have hab:=(Ys lb.ok.1).2
 have har:=(Ys hlr.1).2
 refine⟨hab,har,fun h255 => ?_⟩
 have hsh:shE s x.2.1=0:=by unfold shE;rw[if_pos hab,if_neg h255]
 have hsv:shV s x.2.1=upR s x.2.1:=if_pos hsh
 have hk:=Zsa hsh
 rw[hsv] at hk
 have har2:=(Vm hk har).1
 refine⟨hsh,hsv,har2,fun v hv => ?_⟩
 have hlb:=lb.ok
 have hlvl:=hlr.2
 obtain⟨j,hj,hmr,j8,j256,_,_,_,hVr,hzr⟩:=Xi har
 obtain⟨k,hk',_,k8,k256,_,_,_,hVb,hzb⟩:=Xi hab
 have hne:k≠j:=fun e=>by
  rw[hk',e,← hj] at hlb
  rw[hlb.2] at hlvl
  omega
 have hlen:=Yn (Yb hmr).2.1
 have hkt:x.2.1.toNat=k:=by omega
 have hjt:r.toNat=j:=by omega
 have hU:(upR s x.2.1).2.1=s.2.1.set k (s.2.1[k]?.getD 0+1):=by unfold upR;rw[hkt]
 have hU1:(upR s x.2.1).1=s.1:=rfl
 have hU2:(upR s x.2.1).2.2=s.2.2:=rfl
 have hkl:k<s.2.1.length:=by omega
 have uk:Y9 (upR s x.2.1).2.1 k=Y9 s.2.1 k+1:=by
  unfold Y9
  rw[hU,List.getElem?_set_self hkl]
  exact Zzn (by rw[← hkt];exact h255)
 have uo:∀ i,i≠k→(upR s x.2.1).2.1[i]?.getD 0=s.2.1[i]?.getD 0:=fun i hi=>by rw[hU,List.getElem?_set_ne (Ne.symm hi)]
 have uo8:∀ i,i≠k→Y9 (upR s x.2.1).2.1 i=Y9 s.2.1 i:=fun i hi=>by unfold Y9;rw[uo i hi]
 generalize hue:upR s x.2.1=U at *
 obtain⟨_,hle,_,hmany⟩:=Zti hv
 have hseen:Z1 U.1 j=Z1 s.1 j:=by rw[hU1]
 have hmu:Xq (U.1,v,U.2.2)=true:=by
  obtain⟨m1,m2,m3⟩:=Yb hk.may
  exact Uj m1 (LeT.may hle m2) m3
 have hzb':1≤Y9 s.2.1 k:=by have:=Zag.2 hzb;omega
 have hmoreb:∀ x':Int,x'.toNat=k→Zdv s0 s x'→Zdv s0 (U.1,v,U.2.2) x'→True:=fun _ _ _ _=>trivial
 have hv2:(∀ i,i≠j→i≠k→v[i]?.getD 0=s.2.1[i]?.getD 0)∧(Y9 s.2.1 j=1→Y9 v k=Y9 s.2.1 k)∧(1<Y9 s.2.1 j→Y9 v k=Y9 s.2.1 k+1∧Y9 v j+1=Y9 s.2.1 j):=by
  rw[hjt] at hv hmany
  by_cases hc:1<Y9 s.2.1 j
  ·have hc':1<(U.2.1[j]?.getD 0).toNat:=by rw[uo j (Ne.symm hne)];exact hc
   have e:=hmany hc'
   have hjl:j<U.2.1.length:=by rw[hU,List.length_set];omega
   refine⟨fun i h2 h3=>by rw[e,List.getElem?_set_ne (Ne.symm h2),uo i h3],fun h2=>by omega,fun _=>⟨?_,?_⟩⟩
   ·have:Y9 v k=Y9 U.2.1 k:=by unfold Y9;rw[e,List.getElem?_set_ne (Ne.symm hne)]
    rw[this,uk]
   ·have:Y9 v j=(U.2.1[j]?.getD 0-1).toNat:=by unfold Y9;rw[e,List.getElem?_set_self hjl];rfl
    rw[this,uo j (Ne.symm hne)]
    exact Zgx hzr
  ·have hc1:Y9 s.2.1 j=1:=by have:=Zag.2 hzr;omega
   refine⟨?_,fun _ => ?_,fun h2=>absurd h2 hc⟩
   all_goals
    unfold lfO at hv
    have hd:dnO U.2.1 j=some (U.2.1.set j (U.2.1[j]?.getD 0-1)):=Zb3 (by rw[uo j (Ne.symm hne)];exact hzr)
    rw[hd,hseen] at hv
    have hn1:¬ 1<(U.2.1[j]?.getD 0).toNat:=by rw[uo j (Ne.symm hne)];exact hc
    have hv':(if 1<(U.2.1[j]?.getD 0).toNat then some (U.2.1.set j (U.2.1[j]?.getD 0-1)) else if reN (Z1 s.1 j)=0 then Vj (lvF U.1 (reV (Z1 s.1 j)).1.toNat) (U.2.1.set j (U.2.1[j]?.getD 0-1)) (reV (Z1 s.1 j)).2 else none)=some v:=hv
    rw[if_neg hn1] at hv'
    split at hv'
    ·rw[← hVr,hx] at hv'
     have hx0:¬ x.2.1=0:=by omega
     simp only[Vj,if_neg hx0,hkt] at hv'
     have hkl':k<(U.2.1.set j (U.2.1[j]?.getD 0-1)).length:=by rw[List.length_set,hU,List.length_set];omega
     have hck:(U.2.1.set j (U.2.1[j]?.getD 0-1))[k]?.getD 0=U.2.1[k]?.getD 0:=by rw[List.getElem?_set_ne hne.symm]
     have h2k:1<((U.2.1.set j (U.2.1[j]?.getD 0-1))[k]?.getD 0).toNat:=by
      rw[hck]
      have:=uk
      unfold Y9 at this hzb'
      omega
     rw[Zf1 U.1 _ _ _ h2k] at hv'
     have hve:v=(U.2.1.set j (U.2.1[j]?.getD 0-1)).set k ((U.2.1.set j (U.2.1[j]?.getD 0-1))[k]?.getD 0-1):=by
      have:some ((U.2.1.set j (U.2.1[j]?.getD 0-1)).set k ((U.2.1.set j (U.2.1[j]?.getD 0-1))[k]?.getD 0-1))=some v:=hv'
      exact(Option.some.inj this).symm
     first
      | exact fun i h2 h3=>by rw[hve,List.getElem?_set_ne (Ne.symm h3),List.getElem?_set_ne (Ne.symm h2),uo i h3]
      | (
        have h3:Y9 v k=((U.2.1.set j (U.2.1[j]?.getD 0-1))[k]?.getD 0-1).toNat:=by unfold Y9;rw[hve,List.getElem?_set_self hkl'];rfl
        have h4:=Zgx (Zf4 h2k)
        rw[h3]
        rw[hck] at h4 ⊢
        unfold Y9 at uk ⊢
        omega)
    ·cases hv'
 obtain⟨v1,v2,v3⟩:=hv2
 have hcase:Y9 s.2.1 j=1∨1<Y9 s.2.1 j:=by have:=Zag.2 hzr;omega
 have hmj:=h.more
 unfold Zdv at hmj
 rw[hjt] at hmj
 have Zbh:s0.2.1[j]?.getD 0≠0→1<Y9 s.2.1 j:=fun h0=>by rw[if_pos h0] at hmj;omega
 have hvk:Y9 s.2.1 k≤Y9 v k:=by
  rcases hcase with c | c
  ·rw[v2 c];exact Nat.le_refl _
  ·rw[(v3 c).1];omega
 have hkeep:X3 s0 (U.1,v,U.2.2):=by
  refine⟨hmu,fun i hi => ?_,fun i hi=>by show Z1 U.1 i=_;rw[hU1];exact h.keep.seen i hi⟩
  have h0:=h.keep.held i hi
  by_cases e1:i=k
  ·subst e1
   exact Zag.1 (by show Y9 v i≠0;omega)
  ·by_cases e2:i=j
   ·subst e2
    have:=(v3 (Zbh hi)).2
    exact Zag.1 (by show Y9 v i≠0;have:=Zbh hi;omega)
   ·show v[i]?.getD 0≠0
    rw[v1 i e2 e1]
    exact h0
 have hmono:∀ x':Int,x'.toNat≠r.toNat→Zdv s0 s x'→Zdv s0 (U.1,v,U.2.2) x':=fun x' h2 h3=>by
  refine Zj9 ?_ h3
  show Y9 s.2.1 x'.toNat≤Y9 v x'.toNat
  by_cases e:x'.toNat=k
  ·rw[e];exact hvk
  ·rw[hjt] at h2
   unfold Y9
   rw[v1 _ h2 e]
   exact Nat.le_refl _
 refine⟨hkeep,Z2n hmu hU1 h.lev (fun i h2 h3 => ?_) hmono (Nat.lt_succ_self l) lb,?_⟩
 ·rw[hjt] at h2
  by_cases e:i=k
  ·subst e
   exact Zag.1 (by show Y9 v i≠0;omega)
  ·show v[i]?.getD 0≠0
   rw[v1 i h2 e]
   exact h3
 ·by_cases h0:s0.2.1[j]?.getD 0=0
  ·exact hmono _ (by omega) (mb (by rw[hjt];exact h0))
  ·have:=(v3 (Zbh h0)).1
   unfold Zdv
   show _≤Y9 v x.2.1.toNat
   rw[hkt]
   split <;> omega
theorem Ztk {s0 s:Rm} {l:Nat} {r:Int} (h:Zsm s0 s l r) (h1:(rmV s r).1=0∨1<(rmV s r).2.length):Yp l s r=(0,s,r):=by
 cases l with
 | zero=>rfl
 | succ l =>
  have:=h.lev.ok.2
  unfold Yp
  rw[if_neg (by rcases h1 with h1 | h1 <;> omega)]
theorem Ztm {s:Rm} {n:Int} {v:List UInt8} (ha:asE s n=0) (h:lfO s.1 s.2.1 n.toNat=some v):lvE s n=0∧lvV s n=(s.1,v,s.2.2):=by
 unfold lvE lvV
 rw[if_pos ha,if_pos ha,h]
 exact⟨rfl,rfl⟩
theorem Zvn {s:Rm} {n:Int} (ha:asE s n=0) (h:lfO s.1 s.2.1 n.toNat=none):lvE s n=8:=by
 unfold lvE
 rw[if_pos ha,h]
theorem Zzx {s0 s:Rm} {l:Nat} {r:Int} (h:Zsm s0 s l r) (h1:¬ ((rmV s r).1=0∨1<(rmV s r).2.length)):∃ j y,l=j+1∧(rmV s r).2=[y] ∧
  ((shE s y.2.1=70∧Yp l s r=(70,Zh,0))∨(shE s y.2.1=0∧lvE (shV s y.2.1) r=8∧Yp l s r=(8,Zh,0)) ∨
   (shE s y.2.1=0∧lvE (shV s y.2.1) r=0∧Yp l s r=Yp j (lvV (shV s y.2.1) r) y.2.1∧Zsm s0 (lvV (shV s y.2.1) r) j y.2.1)):=by
 have hlv:=h.lev.ok
 cases l with
 | zero=>exact absurd (.inl (by rw[hlv.2];rfl)) h1
 | succ j =>
  have hne:0<(rmV s r).2.length:=(Z2 (Ys hlv.1).1).1.2.2.2 (by rw[hlv.2];omega)
  have hl:(rmV s r).2.length=1:=by
   have:¬ 1<(rmV s r).2.length:=fun h=>h1 (.inr h)
   omega
  obtain⟨y,hy,ho⟩:=Zzp hl
  obtain⟨g1,g2,g3⟩:=Zzi h hl
  rw[ho] at g1 g3
  refine⟨j,y,rfl,hy,?_⟩
  have hun:Yp (j+1) s r=(if s.2.1[y.2.1.toNat]?.getD 0=255 then (70,Zh,0) else match lfO (upR s y.2.1).1 (upR s y.2.1).2.1 r.toNat with | none=>(8,Zh,0) | some v=>Yp j ((upR s y.2.1).1,v,(upR s y.2.1).2.2) y.2.1):=by
   conv=>lhs;unfold Yp
   rw[if_pos hl,ho]
   rfl
  rw[hun]
  by_cases h255:s.2.1[y.2.1.toNat]?.getD 0=255
  ·rw[if_pos h255]
   exact .inl ⟨by unfold shE;rw[if_pos g1,if_pos h255],rfl⟩
  ·rw[if_neg h255]
   obtain⟨e1,e2,e3,e4⟩:=g3 h255
   rw[e2]
   cases hf:lfO (upR s y.2.1).1 (upR s y.2.1).2.1 r.toNat with
   | none=>exact .inr (.inl ⟨e1,Zvn e3 hf,rfl⟩)
   | some v =>
    obtain⟨f1,f2⟩:=Ztm e3 hf
    exact .inr (.inr ⟨e1,f1,by rw[f2],by rw[f2];exact e4 v hf⟩)
theorem Zpu {s0:Rm}:∀ {l:Nat} {s u:Rm} {r now:Int},Zsm s0 s l r→Yp l s r=(0,u,now)→X3 s0 u
 | 0,s,u,r,now,h,e=>by
  cases e
  exact h.keep
 | l+1,s,u,r,now,h,e=>by
  by_cases h1:(rmV s r).1=0∨1<(rmV s r).2.length
  ·rw[Ztk h h1] at e
   cases e
   exact h.keep
  ·obtain⟨j,y,hj,hy,h2⟩:=Zzx h h1
   obtain rfl:l=j:=by omega
   rcases h2 with ⟨_,e2⟩ | ⟨_,_,e2⟩ | ⟨_,_,e2,h3⟩
   ·rw[e2] at e
    cases e
   ·rw[e2] at e
    cases e
   ·rw[e2] at e
    exact Zpu h3 e
structure Z5g (s:Rm) (a:Int) (o g:Int×Rm×Int):Prop where
 bad:g.1≠0→o=(g.1,Zh,0)
 good:g.1=0→∃ l,Zsm s g.2.1 l g.2.2∧((Yp l g.2.1 g.2.2).1≠0→o=((Yp l g.2.1 g.2.2).1,Zh,0)) ∧
  ((Yp l g.2.1 g.2.2).1=0→(lvE (Yp l g.2.1 g.2.2).2.1 a≠0→o=(lvE (Yp l g.2.1 g.2.2).2.1 a,Zh,0))∧(lvE (Yp l g.2.1 g.2.2).2.1 a=0→o=(0,lvV (Yp l g.2.1 g.2.2).2.1 a,(Yp l g.2.1 g.2.2).2.2)))
theorem Z3e {s:Rm} {a:Int} {k:Ky} (ht:X2 s a=true):Z5g s a (Zwr s a k) (Z1o s a (rmV s a).1.toNat k):=by
 obtain⟨r1,ra,_,l0,l6,_⟩:=Uh ht
 have hT:=Zdn ht
 obtain⟨lv,hlv⟩:∃ lv,(rmV s a).1.toNat=lv:=⟨_,rfl⟩
 have hlvi:(rmV s a).1=(lv:Int):=by omega
 rw[hlv] at hT ⊢
 have hst:stO k s a lv (lv+1)=Yh k lv s a:=by
  show Yh k lv s (atW s k a (lv-lv))=_
  rw[Nat.sub_self]
  rfl
 have hun:Zwr s a k=match Yh k lv s a with
  | (e,t,L,held)=>if e=0 then (match Zq t (if L=[] then 0 else (lv:Int)) L with
   | (f,u,up)=>if f=0 then (match Yp (if L=[] then 0 else lv) (if held=0 then u else Zak u held) (Zfk up) with
    | (g,w,now)=>if g=0 then (match lfO w.1 w.2.1 a.toNat with | none=>(8,Zh,0) | some v=>(0,(w.1,v,w.2.2),now)) else (g,Zh,0)) else (f,Zh,0)) else (e,Zh,0):=by
  unfold Zwr
  rw[hlv,hlvi]
  rfl
 rw[hun]
 unfold Z1o
 rw[hst,hlvi]
 obtain⟨e,t,L,held,hs⟩:∃ e t L held,Yh k lv s a=(e,t,L,held):=⟨_,_,_,_,rfl⟩
 rw[hs]
 dsimp only
 by_cases he:e=0
 ·subst he
  rw[if_pos rfl,if_pos rfl]
  have G:=Ze7 (by omega) hT hs
  obtain⟨l',hl'⟩:∃ l':Nat,(if L=[] then 0 else lv)=l':=⟨_,rfl⟩
  have hl'i:(if L=[] then (0:Int) else (lv:Int))=(l':Int):=by
   rw[← hl']
   split <;> rfl
  rw[hl',hl'i]
  have G':Z22 s t l' L held:=by
   by_cases hL:L=[]
   ·rw[if_pos hL] at hl'
    subst hl'
    exact⟨G.keep,G.few,G.inI,fun j hj=>(by cases hj),G.own,G.none,G.more⟩
   ·rw[if_neg hL] at hl'
    subst hl'
    exact G
  have hl6:l'<6:=by
   rw[← hl']
   split <;> omega
  have hlay:=Zug (s:=t) (lv:=(l':Int)) (held:=held) G.few (by
   rcases G.own with h | ⟨_,_,_,q,hq,hqe⟩
   ·exact .inl h
   ·exact .inr ⟨q,hq,hqe⟩)
  by_cases hb:(Zq t (l':Int) L).1=0
  ·obtain⟨u,up,e⟩:∃ u up,Zq t (l':Int) L=(0,u,up):=⟨_,_,Prod.ext hb rfl⟩
   rw[hlay,e]
   dsimp only
   rw[if_pos rfl,if_pos rfl]
   obtain⟨z,rfl,z8,zn,k1,k2,k3,k4,k5,k6⟩:=Zmx G' G.few (Zzr hl6 G.inI) (fun _ h=>h) G'.lev e
   have hnow:Zfk [upI L z]=z:=rfl
   rw[hnow]
   have hlow:Zsm s (if held=0 then u else Zak u held) l' z:=⟨k1,k5,by
    unfold Zdv
    rw[if_neg (fun h=>h zn),k4]
    exact Nat.le_refl _⟩
   generalize (if held=0 then u else Zak u held)=u1 at *
   refine⟨fun h=>absurd rfl h,fun _=>⟨l',hlow,fun hw => ?_,fun hw => ?_⟩⟩
   ·generalize Yp l' u1 z=lo at hw ⊢
    obtain⟨g,w,now⟩:=lo
    exact if_neg hw
   ·obtain⟨w,now,e3⟩:∃ w now,Yp l' u1 z=(0,w,now):=⟨_,_,Prod.ext hw rfl⟩
    have hk:=Zpu hlow e3
    have ha:=(Vm hk ra).1
    rw[e3]
    dsimp only
    rw[if_pos rfl]
    cases hf:lfO w.1 w.2.1 a.toNat with
    | none =>
     have:=Zvn ha hf
     exact⟨fun _=>by rw[this],fun h=>by rw[this] at h;cases h⟩
    | some v =>
     obtain⟨h1,h2⟩:=Ztm ha hf
     exact⟨fun h=>absurd h1 h,fun _=>by rw[h2]⟩
  ·rw[if_neg hb] at hlay
   rw[hlay]
   refine⟨fun _ => ?_,fun h=>absurd h hb⟩
   generalize Zq t (l':Int) L=b at hb ⊢
   obtain⟨f,u,up⟩:=b
   exact if_neg hb
 ·rw[if_neg he,if_neg he]
  exact⟨fun _=>rfl,fun h=>absurd h he⟩
end Go.Proofs.YtgmbjnajdfgenaaGreat
namespace Go.Proofs.YtgmbjnajdfgenaaGreat
open Go.RowKit Go.Shelf
attribute [local go_sem] Oper.semAt_some
def PhK (K:Nat→Prop) (z er:Int) (S:Rm) (v:Value) (W:World):Prop:=∃ va vb vc vd:Option Addr×Nat×Nat,v=.tuple #[.agg #[.slice va.1 va.2.1 va.2.2,.slice vb.1 vb.2.1 vb.2.2,.slice vc.1 vc.2.1 vc.2.2,.slice vd.1 vd.2.1 vd.2.2],.int .i64 z,.int .i64 er]∧Sto (Kn K W) W (.agg #[.slice va.1 va.2.1 va.2.2,.slice vb.1 vb.2.1 vb.2.2,.slice vc.1 vc.2.1 vc.2.2,.slice vd.1 vd.2.1 vd.2.2]) S
def Z3g (K:Nat→Prop) (S:Rm) (v:Value) (W:World):Prop:=∃ va vb vc vd:Option Addr×Nat×Nat,v=.agg #[.slice va.1 va.2.1 va.2.2,.slice vb.1 vb.2.1 vb.2.2,.slice vc.1 vc.2.1 vc.2.2,.slice vd.1 vd.2.1 vd.2.2]∧Sto (Kn K W) W (.agg #[.slice va.1 va.2.1 va.2.2,.slice vb.1 vb.2.1 vb.2.2,.slice vc.1 vc.2.1 vc.2.2,.slice vd.1 vd.2.1 vd.2.2]) S
theorem Zu3 {F:Fence} {n:Nat} {P:Program} {c:Code} {Q:Exit→Act→World→Prop} {a:Act} {w:World} (h:c.wpIn F n P (Ztt (Q .normal)) a w):c.wpIn F n P Q a w :=
 wpIn_mono h fun e a w h=>by
  cases e <;> first
   | exact h
   | exact h.elim
theorem Zj6 (l0 lo:Nat) (hl0:l0≤lo) (qa qb qc qd:Option Addr×Nat×Nat) (s:Rm) (k:Ky) (a:Int) (lv:Nat) (h6:lv<6) (hT:AtT s lv a) (x:It) (hx:Zdl s lv a k=some x) (A:Option Addr) (m c:Nat) (l:List Sv) (w:World) (hlo:lo≤w.heap.size) (h:Sto (fun p=>p.block<l0) w (.agg #[.slice qa.1 qa.2.1 qa.2.2,.slice qb.1 qb.2.1 qb.2.2,.slice qc.1 qc.2.1 qc.2.2,.slice qd.1 qd.2.1 qd.2.2]) s)
  (hst:w.ownsRow lo 102 3 (.slice A m c) m (dvs l)) (hl:l.length=m) (hm:m=lv+1) (hR:Rows lo w.heap.size w l) (hA:∀ g q,A.map (·.block)=some g→q∈l→g<q.lo∨q.hi≤g)
  (hq:∀ i q,l[i]? = some q→q.nd=rmV s (atW s k a i)∧q.pl=Xb q.nd k) :
  Calls Tryz.prog 26 #[.agg #[.slice qa.1 qa.2.1 qa.2.2,.slice qb.1 qb.2.1 qb.2.2,.slice qc.1 qc.2.1 qc.2.2,.slice qd.1 qd.2.1 qd.2.2],.slice A m c] w (Z49 l0 lo (Z1o s a lv k) w):=by
 obtain⟨w1,hw1,b1,hs1,hB1⟩:=Xt w (.slice qa.1 qa.2.1 qa.2.2) (.slice qb.1 qb.2.1 qb.2.2) (.slice qc.1 qc.2.1 qc.2.2) (.slice qd.1 qd.2.1 qd.2.2) 29
 obtain⟨w2,hw2,b2,hs2,hB2⟩:=Xt w1 (.slice none 0 0) (.slice none 0 0) (.slice none 0 0) (.slice none 0 0) 29
 obtain⟨w3,hw3,b3,hs3,hB3⟩:∃ w3,w2.alloc (.cells #[.int .i64 0] 3)=w3∧Ya w2.heap.size #[.int .i64 0] 3 w3∧w3.heap.size=w2.heap.size+1∧Below w2.heap.size w2 w3:=⟨_,rfl,heap_alloc_new w2 _,by simp,(Below.refl _ _).alloc (Nat.le_refl _) _⟩
 obtain⟨w4,hw4,b4,hs4,hB4⟩:∃ w4,w3.alloc (.cells #[.int .i64 0] 33)=w4∧Ya w3.heap.size #[.int .i64 0] 33 w4∧w4.heap.size=w3.heap.size+1∧Below w3.heap.size w3 w4:=⟨_,rfl,heap_alloc_new w3 _,by simp,(Below.refl _ _).alloc (Nat.le_refl _) _⟩
 obtain⟨w5,hw5,b5,hs5,hB5⟩:∃ w5,w4.alloc (.cells #[.slice none 0 0] 39)=w5∧Ya w4.heap.size #[.slice none 0 0] 39 w5∧w5.heap.size=w4.heap.size+1∧Below w4.heap.size w4 w5:=⟨_,rfl,heap_alloc_new w4 _,by simp,(Below.refl _ _).alloc (Nat.le_refl _) _⟩
 obtain⟨w6,hw6,b6,hs6,hB6⟩:∃ w6,w5.alloc (.cells #[.int .i64 0] 3)=w6∧Ya w5.heap.size #[.int .i64 0] 3 w6∧w6.heap.size=w5.heap.size+1∧Below w5.heap.size w5 w6:=⟨_,rfl,heap_alloc_new w5 _,by simp,(Below.refl _ _).alloc (Nat.le_refl _) _⟩
 obtain⟨w7,hw7,b7,hs7,hB7⟩:=Zdt w6 (.slice A m c) 64
 have hbw:=Za (Zkj A m c w6)
 rw[hw7] at hbw
 have k67:=hB6.trans (hB7.mono hB6.size)
 have k57:=hB5.trans (k67.mono hB5.size)
 have k47:=hB4.trans (k57.mono hB4.size)
 have k37:=hB3.trans (k47.mono hB3.size)
 have k27:=hB2.trans (k37.mono hB2.size)
 have k17:=hB1.trans (k27.mono hB1.size)
 have BW:=Za k17
 have SZ:=Za (show w1.heap.size=w.heap.size+1∧w2.heap.size=w.heap.size+2∧w3.heap.size=w.heap.size+3∧w4.heap.size=w.heap.size+4∧w5.heap.size=w.heap.size+5∧w6.heap.size=w.heap.size+6∧w7.heap.size=w.heap.size+7 from by omega)
 obtain⟨ad,had,hat⟩:=Ztg (by rw[hl];exact hst)
 rw[hl] at had hat
 obtain⟨f,hf⟩:∃ f:Nat→Sv,f=fun j=>l[j]?.getD svZ:=⟨_,rfl⟩
 have hff:Hid (∀ j,j<m→f (m-1-j)∈l∧l[m-1-j]? = some (f (m-1-j))):=Za fun j hj=>by
  have e2:f (m-1-j)=l[m-1-j]:=by
   rw[hf]
   simp[List.getElem?_eq_getElem (show m-1-j<l.length by omega)]
  rw[e2]
  exact⟨List.getElem_mem _,List.getElem?_eq_getElem _⟩
 have htold:=Zrw w6.heap.size c m A ad f w7 b7 (fun h=>⟨(had h).1,by have:=(had h).2.2;omega⟩) (by omega) (fun j hj=>by rw[hf];exact(hat j hj).same (k17.block _ (by rw[Zj];exact(had (by omega)).2.2)))
 have hI0:ShI l0 lo w7.heap.size w.heap.size w1.heap.size w2.heap.size w3.heap.size w4.heap.size w5.heap.size A c w s k a lv l ([],none) w7 :=
  ⟨rfl,⟨k17.mono hlo,Nat.le_refl _,Zw (by rw[hl];exact hst) k17⟩,⟨(k37.block _ (by omega)).trans b2,(k47.block _ (by omega)).trans b3,(k57.block _ (by omega)).trans b4⟩,s,[],0,qa,qb,qc,qd,none,0,w.heap.size,rfl,(k27.block _ (by omega)).trans b1,h.map fun p v hp hc=>⟨⟨.inl hp,by omega⟩,(k17.cell (by omega)).trans hc⟩,
   (k67.block _ (by omega)).trans b5,(hB7.block _ (by omega)).trans b6,⟨hlo,Zwl (Nat.le_refl _) _,.inl rfl⟩,fun q hqm=>⟨(hR.ok q (List.mem_of_mem_take hqm)).2.2.1,(hR.ok q (List.mem_of_mem_take hqm)).2.2.2.same fun k h1 h2=>k17.block k (by have:=(hR.ok q (List.mem_of_mem_take hqm)).2.2.1;omega)⟩⟩
 have hlt:=Za (fun h:0<m=>(had h).2)
 have hAA:=Za (fun h:0<m=>(had h).1)
 have hAst:=Za (show ∀ kk,A.map (·.block)=some kk→kk<w.heap.size from fun kk e=>(hst.lt kk (by rw[← e];cases A <;> rfl)).2)
 obtain⟨g,hg⟩:∃ g,Z1o s a lv k=g:=⟨_,rfl⟩
 rw[hg]
 obtain⟨QQ,hQQ⟩:∃ QQ,Z49 l0 lo g w=QQ:=⟨_,rfl⟩
 rw[hQQ]
 replace hQQ:=Za hQQ
 replace hg:=Za hg
 obtain⟨z0,zf,_⟩:=Zm b6
 have hself:=Z0 (i:=0) (v:=.int .i64 0) b6 rfl
 replace hm:=Za hm
 replace hf:=Za hf
 replace hl:=Za hl
 replace hA:=Za hA
 replace hR:=Za hR
 replace hq:=Za hq
 replace hx:=Za hx
 replace hT:=Za hT
 replace hs1:=Za hs1
 replace hs2:=Za hs2
 replace hs3:=Za hs3
 replace hs4:=Za hs4
 replace hs5:=Za hs5
 replace hs6:=Za hs6
 replace hs7:=Za hs7
 replace hI0:=Za hI0
 clear h hst had hat b1 b2 b3 b4 b5 b6 b7 hB1 hB2 hB3 hB4 hB5 hB6 hB7 k67 k57 k47 k37 k27 k17 hw7
 refine callsIn_wide.1 (callsIn_of_wp_marks (n:=5) Tryz.func26 rfl trivial ?_ rfl)
 simp only[Tryz.ntmps26,List.size_toArray,List.length_cons,List.length_nil,Nat.reduceAdd,Nat.reduceSub,Array.replicate_succ,Array.replicate_zero,List.push_toArray,List.append_toArray,List.nil_append,List.cons_append]
 gi_wp2_with fail
 refine wpIn_wide.2 (wp_scope_straight ?_)
 refine(wpIn_wide (n:=5)).1 ?_
 gi_wp2_with fail
 refine wpIn_label ?_
 gi_wp2_with fail
 clear hw1 hw2 hw3 hw4 hw5 hw6 z0 zf hself
 refine⟨trivial,?_⟩
 gi_at_call 48
 refine(callsIn_wide.2 hbw.out).mono ?_
 rintro e w7 ⟨rfl,rfl⟩
 gi_wp2_with fail
 refine Za9 (m:=5) (gf:=83) (lb:=#[.pointer (some ⟨w6.heap.size,0,none⟩)]) rfl (enters_of Tryz.func83 (by kernel_rfl) rfl) htold (fun _=>rfl)
  (fun k=>k=w.heap.size∨k=w2.heap.size∨k=w3.heap.size∨k=w1.heap.size∨k=w4.heap.size∨k=w5.heap.size∨∃ q∈l,q.A.map (·.block)=some k) (fun k e=>by
   rcases e with e | e | e | e | e | e | ⟨q,hq,e⟩
   ·have:=SZ.out;omega
   ·have:=SZ.out;omega
   ·have:=SZ.out;omega
   ·have:=SZ.out;omega
   ·have:=SZ.out;omega
   ·have:=SZ.out;omega
   ·have h1:=hR.out.ok q hq
    have:=Uc h1.2.2.2 k e
    have:=SZ.out;omega) none (fun k hk=>by
   rcases hk with rfl | ⟨h0,rfl⟩
   ·refine⟨by have:=SZ.out;omega,?_,by simp⟩
    rintro(e | e | e | e | e | e | ⟨q,hq,e⟩)
    ·have:=SZ.out;omega
    ·have:=SZ.out;omega
    ·have:=SZ.out;omega
    ·have:=SZ.out;omega
    ·have:=SZ.out;omega
    ·have:=SZ.out;omega
    ·have h1:=hR.out.ok q hq
     have:=Uc h1.2.2.2 _ e
     have:=SZ.out;omega
   ·have:=hlt.out h0
    refine⟨by have:=SZ.out;omega,?_,by simp⟩
    rintro(e | e | e | e | e | e | ⟨q,hq,e⟩)
    ·have:=SZ.out;omega
    ·have:=SZ.out;omega
    ·have:=SZ.out;omega
    ·have:=SZ.out;omega
    ·have:=SZ.out;omega
    ·have:=SZ.out;omega
    ·have h1:=hR.out.ok q hq
     have:=Uc h1.2.2.2 _ e
     have:=hA.out ad.block q (by rw[hAA.out h0];rfl) hq
     omega)
  (ShI l0 lo w7.heap.size w.heap.size w1.heap.size w2.heap.size w3.heap.size w4.heap.size w5.heap.size A c w s k a lv l) (ShX lo w7.heap.size w1.heap.size w2.heap.size w3.heap.size w s k a lv)
  (Z1q (by have:=SZ.out;omega) (by have:=SZ.out;omega) (fun q hq=>by have:=(hR.out.ok q hq).2.2.1;have:=SZ.out;omega)) (fun c=>Z0z (by have:=SZ.out;omega) (by have:=SZ.out;omega))
  (fun r V hr k e=>by rw[hr.1] at e;cases e) hI0.out
  (fun x' a' V=>∃ g:Nat,a'={ tmps:=#[.agg #[.slice qa.1 qa.2.1 qa.2.2,.slice qb.1 qb.2.1 qb.2.2,.slice qc.1 qc.2.1 qc.2.2,.slice qd.1 qd.2.1 qd.2.2],.slice A m c,.pointer (some ⟨w.heap.size,0,none⟩),undef,.pointer (some ⟨w1.heap.size,0,none⟩),.pointer (some ⟨w2.heap.size,0,none⟩),.pointer (some ⟨w3.heap.size,0,none⟩),.pointer (some ⟨w4.heap.size,0,none⟩),.pointer (some ⟨w5.heap.size,0,none⟩),undef,.pointer (some ⟨g,0,none⟩),undef,undef,undef,.slice A m c,.func (.func 83) #[] #[.pointer (some ⟨w6.heap.size,0,none⟩)],.int .i64 (x':Int),.agg #[.int .i64 (f x').nd.1,.slice (f x').A (f x').nd.2.length (f x').c,.int .i64 ((f x').pl:Int)],undef,undef,undef,undef,undef,undef,undef,undef,undef,undef,undef,undef,undef,undef,undef,undef,undef,undef,undef,undef,undef,undef,undef,undef,undef,undef,undef,undef,undef,undef,undef,undef,undef,undef,undef,undef,undef,undef,undef,undef,undef,undef,undef,undef,undef,undef,undef,undef,undef,undef,undef,undef,undef,undef,undef,undef,undef,undef,undef,undef,undef,undef,undef,undef,undef,undef,undef,undef,undef,undef,undef,undef,undef,undef,undef,undef,undef,undef,undef,undef,undef,undef],defers:=[] }∧Ya g #[.int .i64 (f x').nd.1,.slice (f x').A (f x').nd.2.length (f x').c,.int .i64 ((f x').pl:Int)] 102 V)
  (fun y a' _ A B row hs hg hr=>by
   obtain⟨g,e1,h0⟩:=hs
   exact⟨g,e1,Zl h0 hg fun r e=>(hr r e).2⟩)
  (fun pre x q=>fun _ _ _ _ hs _ _=>hs) ?assign ?body ?done ?stop
 case assign =>
  rintro l' pre' q' x' V K hi hT hK
  obtain⟨V1,hV1,bV,hVs,hVB⟩:∃ V1,V.alloc (.cells #[.int .i64 (f x').nd.1,.slice (f x').A (f x').nd.2.length (f x').c,.int .i64 ((f x').pl:Int)] 102)=V1∧V1.heap[V.heap.size]? = some (.cells #[.int .i64 (f x').nd.1,.slice (f x').A (f x').nd.2.length (f x').c,.int .i64 ((f x').pl:Int)] 102 (0,0))∧V1.heap.size=V.heap.size+1∧Below V.heap.size V V1:=⟨_,rfl,heap_alloc_new _ _,by simp,(Below.refl _ _).alloc (Nat.le_refl _) _⟩
  replace hVs:=Za hVs
  clear hi hT
  simp only[Z4w]
  gi_wp2_with fail
  exact hK _ _ (Z5 hVB) ⟨V.heap.size,rfl,bV⟩
 case body =>
  rintro l' pre' q' x' a' V hVs hI ⟨g1,rfl,hg1⟩ ⟨hp1,hp2,hp3⟩
  obtain⟨hqn,⟨hIb,hIs,hIo⟩,⟨hB4,hB5,hB6⟩,t,L,held,pa,pb,pc,pd,F,fc,bnd,hst,hB2,hSto,hB7,hB8,⟨hbl,hrow,hFq⟩,hrows⟩:=hI
  dsimp only at hqn
  subst hqn
  have hk:pre'.length<m:=hp2
  clear hp1
  obtain⟨hqm,hqi⟩:=hff.out _ hk
  rw[← hp3] at hqm hqi
  have hidx:Hid (∀ q∈l.take (l.length-(pre'++[x']).length),q.hi≤(f x').lo∧q∈l.take (l.length-pre'.length)):=Za fun q hqm'=>by
   obtain⟨i,hi⟩:=List.getElem?_of_mem hqm'
   have hil:=(List.getElem?_eq_some_iff.1 hi).1
   rw[List.length_take,List.length_append,hl.out] at hil
   simp only[List.length_cons,List.length_nil] at hil
   rw[List.getElem?_take_of_lt (by rw[hl.out,List.length_append];simp only[List.length_cons,List.length_nil];omega)] at hi
   refine⟨?_,List.mem_of_getElem? (i:=i) (by rw[List.getElem?_take_of_lt (by rw[hl.out];omega)];exact hi)⟩
   obtain⟨h1,e1⟩:=List.getElem?_eq_some_iff.1 hi
   obtain⟨h2,e2⟩:=List.getElem?_eq_some_iff.1 hqi
   have:=List.pairwise_iff_getElem.1 hR.out.apart i x' h1 h2 (by omega)
   rw[e1,e2] at this
   exact this
  obtain⟨hqh,hRA⟩:=hrows _ (List.mem_of_getElem? (i:=m-1-pre'.length) (by rw[List.getElem?_take_of_lt (by rw[hl.out];show m-1-pre'.length<m-pre'.length;omega),← hp3];exact hqi))
  have hpl:(pre'++[x']).length=pre'.length+1:=by rw[List.length_append];rfl
  obtain⟨hnd,hpw⟩:=hq.out x' _ hqi
  have hxl:x'=lv-pre'.length:=by have:=hm.out;omega
  have hdn:=Um (k:=k) hT.out x' (by omega)
  have hwl:=Z3f hdn (Zjx hT.out hx.out x' (by omega))
  rw[← hnd,← hpw] at hwl
  obtain⟨hplt,hq5,hql64⟩:=hwl
  clear hp3 hdn
  generalize f x'=q at *
  obtain⟨hql1,hql2,hql3,_⟩:=hR.out.ok q hqm
  have hrin:=Zxv hRA hql2
  obtain⟨ps,hps,hpo,hpi⟩:=hrin.row
  obtain⟨rb,hrbe⟩:∃ rb,q.A.map (·.block)=rb:=⟨_,rfl⟩
  have hrb:=hrin.blk
  rw[hrbe] at hrb hpi
  by_cases hL:L=[]
  ·subst hL
   obtain⟨hh,hst2⟩:=Z0r h6 hT.out hx.out (show pre'.length≤lv by have:=hm.out;omega) hst
   rw[← hxl,← hnd,← hpw] at hst2
   subst hh
   have HD:=Zr7 q.A q.lo q.nd.2.length q.c q.pl (q.pl+1) ps V hpo rfl (by omega) (by omega) (Zeu hpi)
   obtain⟨Ls,hLs⟩:∃ Ls,ps.take q.pl++ps.drop (q.pl+1)=Ls:=⟨_,rfl⟩
   have hmap:Ls.map (·.1)=Zai q.nd.2 q.pl 1 []:=by
    rw[← hLs,List.map_append,List.map_take,List.map_drop,hps]
    rfl
   have hLi:∀ p∈Ls,InI p.1∧rBy (fun ad=>q.lo≤ad.block∧ad.block<q.hi∧rb≠some ad.block) V [p.2] p.1.2.2:=fun p hp=>by
    rw[← hLs] at hp
    rcases List.mem_append.1 hp with hp | hp
    ·exact hpi p (List.mem_of_mem_take hp)
    ·exact hpi p (List.mem_of_mem_drop hp)
   rw[hLs] at HD
   obtain⟨len,hlen⟩:∃ len,Ls.length=len:=⟨_,rfl⟩
   have hins:(Zai q.nd.2 q.pl 1 []).length=len:=by rw[← hmap,List.length_map,hlen]
   have i1:IntKind.i64.wrap ((q.pl:Int)+1)=(q.pl:Int)+1:=by rw[IntKind.wrap_i64];omega
   obtain⟨n0,nf,_⟩:=Zm hB7
   obtain⟨y0,y1,y2,_⟩:=Zk hg1
   rw[show ((q.pl+1:Nat):Int)=(q.pl:Int)+1 by omega] at HD
   have hHD:=Za HD
   have HB2:=Za hB2
   have HB4:=Za hB4
   have HB5:=Za hB5
   have HB6:=Za hB6
   have HB7:=Za hB7
   have HB8:=Za hB8
   have HIb:=Za hIb
   have HIs:=Za hIs
   have HSto:=Za hSto
   have HIo:=Za hIo
   have HRows:=Za hrows
   have Hrb:=Za hrb
   have HLi:=Za hLi
   replace hst2:=Za hst2
   replace hmap:=Za hmap
   replace hlen:=Za hlen
   replace hins:=Za hins
   replace hqm:=Za hqm
   replace hrbe:=Za hrbe
   replace hLs:=Za hLs
   replace hxl:=Za hxl
   replace hnd:=Za hnd
   replace hpw:=Za hpw
   replace hpl:=Za hpl
   clear hIo HD hB2 hB4 hB5 hB6 hB7 hB8 hIb hIs hSto hrows hrb hLi hrow hrin hRA hg1 hps hpo hpi hst
   generalize q.nd.1=q1 at *
   generalize q.nd.2.length=q3 at *
   gi_wp2_with fail
   refine⟨trivial,rfl,?_⟩
   refine(CallsIn.inRound _ (callsIn_wide.2 hHD.out)).mono ?_
   rintro e W hrep
   have hrep':=Za hrep
   obtain⟨rfl,ho,hgr⟩:=hrep
   rw[hrbe.out] at hgr
   rw[hlen.out]
   have keep:∀ k,w.heap.size≤k→k<V.heap.size→W.heap[k]? = V.heap[k]? := fun k h1 h2=>hgr.block k h2 (fun e=>by have:=Hrb.out k e.symm;omega)
   have c7:Ya w4.heap.size _ 39 W:=(keep _ (by have:=SZ.out;omega) (Array.getElem?_eq_some_iff.1 HB7.out).1).trans HB7.out
   obtain⟨W1,hW1,d7,gr1,gs1⟩:=Xo (u:=.slice q.A len q.c) c7
   obtain⟨m0,mf,_⟩:=Zm c7
   have all1:∀ k,k<W.heap.size→k≠w4.heap.size→W1.heap[k]? = W.heap[k]? := fun k h1 h2=>gr1.block k h1 (fun e=>h2 (Option.some.inj e))
   have hsz:=hgr.size
   have kpt:Hid (Vg (fun k=>k=w.heap.size∨k=w2.heap.size∨k=w3.heap.size∨k=w1.heap.size∨k=w4.heap.size∨k=w5.heap.size∨∃ q∈l,q.A.map (·.block)=some k) none none V W1):=Za (((Vg.refl _ _ _).grown hgr fun r e=>.inr (.inr (.inr (.inr (.inr (.inr (.inr ⟨q,hqm.out,by rw[hrbe.out,e]⟩))))))).grown gr1 fun r e=>by cases e;exact .inr (.inr (.inr (.inr (.inr (.inl rfl))))))
   have hfin:Hid (ShI l0 lo w7.heap.size w.heap.size w1.heap.size w2.heap.size w3.heap.size w4.heap.size w5.heap.size A c w s k a lv l (pre'++[x'],none) W1):=Za (by
    have kb:∀ k,w.heap.size≤k→k<V.heap.size→k≠w4.heap.size→W1.heap[k]? = V.heap[k]? := fun k h1 h2 h3=>(all1 k (by omega) h3).trans (keep k h1 h2)
    have bx:∀ {k:Nat} {cs:Array Value} {t:TypeId},Ya k cs t V→w.heap.size≤k→k≠w4.heap.size→Ya k cs t W1:=fun h h1 h2=>(kb _ h1 (Array.getElem?_eq_some_iff.1 h).1 h2).trans h
    have hlo':∀ r,rb=some r→lo≤r:=fun r e=>by have:=Hrb.out r e;omega
    refine⟨rfl,⟨(HIb.out.grown hgr (by have:=HIs.out;have:=SZ.out;omega) hlo').grown gr1 (by have:=HIs.out;have:=SZ.out;omega) (fun k e=>by cases e;have:=SZ.out;omega),by have:=HIs.out;omega,Zb6 HIo.out fun kk e => ?_⟩,⟨bx HB4.out (by have:=SZ.out;omega) (by have:=SZ.out;omega),bx HB5.out (by have:=SZ.out;omega) (by have:=SZ.out;omega),bx HB6.out (by have:=SZ.out;omega) (by have:=SZ.out;omega)⟩,t,Zai q.nd.2 q.pl 1 [],0,pa,pb,pc,pd,q.A,q.c,q.lo,?_,bx HB2.out (Nat.le_refl _) (by have:=SZ.out;omega),?_,?_,bx HB8.out (by have:=SZ.out;omega) (by have:=SZ.out;omega),⟨hql1,?_,.inr ⟨q,hqm.out,rfl⟩⟩,fun q2 hq2 => ?_⟩
    ·have h1:=hAst.out kk e
     have h2:=hA.out kk q e hqm.out
     rw[all1 kk (by have:=HIs.out;have:=SZ.out;omega) (by have:=SZ.out;omega)]
     exact hgr.block kk (by have:=HIs.out;have:=SZ.out;omega) (fun e=>by have:=Hrb.out kk e.symm;omega)
    ·show stO k s a lv (pre'++[x']).length=_
     rw[hpl.out]
     exact hst2.out
    ·refine HSto.out.map fun p v hp hc => ?_
     have h1:p.block<V.heap.size:=hp.2
     have h2:W.heap[p.block]? = V.heap[p.block]? := hgr.block p.block h1 (fun e=>by have:=Hrb.out _ e.symm;have:=SZ.out;rcases hp.1 with h | h <;> omega)
     have h3:=all1 p.block (by omega) (by have:=SZ.out;rcases hp.1 with h | h <;> omega)
     exact⟨⟨hp.1,by omega⟩,(World.cell?_of_block (h3.trans h2)).trans hc⟩
    ·rw[hins.out]
     exact d7
    ·have:=(Z0i (hi:=q.hi) hql2 (by rw[hrbe.out];exact Hrb.out) (by have:=HIs.out;have:=SZ.out;omega) hrep'.out (by rw[hrbe.out];exact HLi.out)).wide hql3
     rw[hmap.out] at this
     exact this.same fun k h1 h2=>all1 k (by have:=HIs.out;have:=SZ.out;omega) (by have:=SZ.out;omega)
    ·obtain⟨h1,h2⟩:=hidx.out q2 hq2
     refine⟨h1,(HRows.out q2 h2).2.same fun k h3 h4 => ?_⟩
     have h5:=(hR.out.ok q2 (List.mem_of_mem_take h2)).2.2.1
     rw[all1 k (by have:=HIs.out;have:=SZ.out;omega) (by have:=SZ.out;omega)]
     exact hgr.block k (by have:=HIs.out;have:=SZ.out;omega) (fun e=>by have:=Hrb.out k e.symm;omega))
   clear keep all1 d7 gr1 gs1 hgr ho c7
   gi_wp2_with fail
   exact⟨none,kpt.out.wide fun k _ h=>by simpa using h,hfin.out⟩
  ·obtain⟨d,hd⟩:∃ d,pre'.length=d+1:=by
    cases hp:pre'.length with
    | zero =>
     rw[hp] at hst
     unfold stO at hst
     cases hst
     exact absurd rfl hL
    | succ d=>exact⟨d,rfl⟩
   rw[hd] at hst
   have hdl:d+1≤lv:=by have:=hm.out;omega
   have GG:=Ztf h6 hT.out (show d≤lv by omega) hst
   obtain⟨m1,m2,m3,m4,m5,m6,m7⟩:=Z17 h6 hT.out hdl hL hst
   rw[show lv-(d+1)=x' by omega,← hnd] at m1 m2 m3 m4 m5 m6 m7
   rw[← hpw] at m2 m3 m5 m7
   have mfew:=m2.few
   have minI:=m2.inI
   have mfit:=m2.fit
   have msub:=m2.sub
   obtain⟨qs,hqs,hFo,hFi⟩:=hrow.row
   have hL0:0<L.length:=List.length_pos_iff.2 hL
   have HJ:=Zwy pa pb pc pd t q.nd.1 q.A q.nd.2.length q.c q.pl q.nd.2 F bnd L.length fc qs L V (Zcg hSto) (hrin.its (by have:=SZ.out;have:=hIs;omega)) rfl hplt hq5 m1 hFo hqs hL0 GG.few (fun p hp=>⟨(hFi p hp).1,Zf _ _ _ _ _ _ (fun a v ha hc=>⟨⟨by have:=ha.2.1;have:=SZ.out;have:=hIs;omega,ha.2.2⟩,hc⟩) (hFi p hp).2⟩) (by have:=hrow.le;have:=SZ.out;have:=hIs;omega)
   unfold Z00 at HJ
   obtain⟨R,hRe⟩:∃ R,Yf s q.nd.2 q.pl L=R:=⟨_,rfl⟩
   rw[m3,hRe] at HJ
   rw[hRe] at mfew minI mfit msub m7
   obtain⟨first,many,L'⟩:=R
   dsimp only at HJ mfew minI mfit msub m7
   obtain⟨y0,r0,hy0⟩:∃ y0 r0,L'=y0::r0:=by
    obtain⟨z0,hz0⟩:=List.exists_mem_of_ne_nil _ hL
    have:=msub z0 hz0
    cases L' with
    | nil=>cases this
    | cons a b=>exact⟨a,b,rfl⟩
   obtain⟨fa,rfl⟩:∃ fa,F=some fa:=by
    obtain⟨_,_,e,_,_,_,h5⟩:=Ye hFo
    cases e
    exact h5 hL0
   obtain⟨fb,Cf,rfl,hfl,hfs,hfg,_⟩:=Z9 hFo
   obtain⟨q2,hq2,hq2A⟩:∃ q2∈l,q2.A=some ⟨fb,0,none⟩:=hFq.resolve_left (by simp)
   have hfbw:fb<w.heap.size:=(hrow.blk fb rfl).2
   have hfbq:q.hi≤fb:=Nat.le_trans hqh hfl
   have hgb:g1≠fb:=fun e=>by
    unfold Ya at hg1
    rw[e,hfg] at hg1
    simp at hg1
   have HL:=fun(b c':Nat) (W:World) (hs:Sto (Old W) W (.agg #[.slice pa.1 pa.2.1 pa.2.2,.slice pb.1 pb.2.1 pb.2.2,.slice pc.1 pc.2.1 pc.2.2,.slice pd.1 pd.2.1 pd.2.2]) t) (hi:Uo (Old W) W [.slice (some ⟨b,0,none⟩) L'.length c'] L')=>Zjp pa pb pc pd t (some ⟨b,0,none⟩) c' ((d:Int),L') held W hs ⟨_,rfl,⟨by omega,by omega⟩,hi⟩
   obtain⟨LD,hLD⟩:∃ LD,Zm8 t ((d:Int),L') held=LD:=⟨_,rfl⟩
   rw[hLD] at m7 HL
   obtain⟨er,S',z⟩:=LD
   dsimp only at m7 HL
   have hz64:er=0→Zkb z:=fun h0=>by
    have:=Zug (s:=t) (lv:=(d:Int)) (L:=L') (held:=held) mfew (by
     rcases GG.own with h | ⟨_,_,_,q,hq,hqe⟩
     ·exact .inl h
     ·exact .inr ⟨q,msub q hq,hqe⟩)
    rw[hLD] at this
    by_cases hb:(Zq t (d:Int) L').1=0
    ·rw[if_pos hb] at this
     obtain⟨u,up,e⟩:∃ u up,Zq t (d:Int) L'=(0,u,up):=⟨_,_,Prod.ext hb rfl⟩
     rw[e] at this
     rcases Vf e with ⟨hmk,_,rfl⟩ | ⟨h6',_⟩
     ·obtain⟨kk,e1,k8,k256,_⟩:=X6 hmk
      have hz:z=mkN t ((d:Int),L'):=by
       have:=congrArg (fun g:Int×Rm×Int=>g.2.2) this
       exact this
      rw[hz,e1]
      exact⟨by omega,by omega⟩
     ·omega
    ·rw[if_neg hb] at this
     have:=congrArg (fun g:Int×Rm×Int=>g.1) this
     exact absurd (this.symm.trans h0) hb
   have hFit:=Za mfit
   have i5:IntKind.i64.wrap (q.nd.1-1)=(d:Int):=by rw[m4,IntKind.wrap_i64];omega
   have i6:IntKind.i64.wrap ((first:Int)+(many:Int))=(first:Int)+(many:Int):=by rw[IntKind.wrap_i64];omega
   have hmk:=Za (show ∀ L2:List Iv,L2=ps.take first++([(upI L' z,.slice none 0 0)]++ps.drop (first+many))→L2.map (·.1)=Zai q.nd.2 first many [upI L' z] from fun L2 e=>by
    rw[e,List.map_append,List.map_append,List.map_take,List.map_drop,hps]
    rfl)
   have t0:((L.length:Int)==0)=false:=by simp;omega
   obtain⟨ml,hml⟩:∃ ml,L.length=ml:=⟨_,rfl⟩
   obtain⟨nl',hnl'⟩:∃ nl',L'.length=nl':=⟨_,rfl⟩
   rw[hml] at HJ hB7 t0
   rw[hnl'] at HJ HL
   obtain⟨n0,nf,_⟩:=Zm hB7
   obtain⟨u0,u1,u2,_⟩:=Zk hg1
   obtain⟨k0,k1,k2,k3,kf,_⟩:=Ze hB2
   have hHJ:=Za HJ
   have hHL:=Za HL
   have HB2:=Za hB2
   have HB4:=Za hB4
   have HB5:=Za hB5
   have HB6:=Za hB6
   have HB7:=Za hB7
   have HB8:=Za hB8
   have HG1:=Za hg1
   have HIb:=Za hIb
   have HIs:=Za hIs
   have HSto:=Za hSto
   have HIo:=Za hIo
   have HRows:=Za hrows
   have Hrb:=Za hrb
   have HPO:=Za hpo
   have HPI:=Za hpi
   replace m7:=Za m7
   replace minI:=Za minI
   replace hml:=Za hml
   replace hnl':=Za hnl'
   replace hLD:=Za hLD
   replace hRe:=Za hRe
   replace hy0:=Za hy0
   replace hqm:=Za hqm
   replace hrbe:=Za hrbe
   replace hxl:=Za hxl
   replace hnd:=Za hnd
   replace hpw:=Za hpw
   replace hpl:=Za hpl
   replace hd:=Za hd
   replace hz64:=Za hz64
   replace hL:=Za hL
   clear hIo HJ HL hB2 hB4 hB5 hB6 hB7 hB8 hIb hIs hSto hrows hrb hrow hrin hRA hg1 hps hpo hpi hst m1 m2 m3 m4 m5 m6 mfew mfit msub GG hqs hFo hFi hfg
   have hq64:=Za hql64
   clear hql64
   obtain⟨q1,hq1⟩:∃ q1,q.nd.1=q1:=⟨_,rfl⟩
   obtain⟨q3,hq3⟩:∃ q3,q.nd.2.length=q3:=⟨_,rfl⟩
   rw[hq1] at i5 u0 hHJ HG1
   rw[hq3] at u1 hHJ HPO HG1 hplt hq5 hFit
   rw[hq1,hq3]
   replace hq1:=Za hq1
   replace hq3:=Za hq3
   gi_wp2_with fail
   refine⟨trivial,rfl,?_⟩
   refine(CallsIn.inRound _ (callsIn_wide.2 hHJ.out)).mono ?_
   rintro e W2 ⟨b,c',rfl,hits,hgr⟩
   have keep2:∀ k,k<V.heap.size→k≠fb→W2.heap[k]? = V.heap[k]? := fun k h1 h2=>hgr.block k h1 (fun e=>h2 (Option.some.inj e))
   have hsz2:=hgr.size
   obtain⟨W3,hW3,i3,hs3',hB3'⟩:=Z7 W2 (.int .i64 (first:Int)) (.int .i64 (many:Int)) 108
   have keep3:∀ k,k<V.heap.size→k≠fb→W3.heap[k]? = V.heap[k]? := fun k h1 h2=>(hB3'.block k (by omega)).trans (keep2 k h1 h2)
   have bx3:∀ {k:Nat} {cs:Array Value} {t:TypeId},Ya k cs t V→w.heap.size≤k→Ya k cs t W3:=fun h h1=>(keep3 _ (Array.getElem?_eq_some_iff.1 h).1 (by omega)).trans h
   have c2:=bx3 HB2.out (Nat.le_refl _)
   have c8:=bx3 HB8.out (by have:=SZ.out;omega)
   have cg:Ya g1 _ 102 W3:=(keep3 g1 (Array.getElem?_eq_some_iff.1 HG1.out).1 hgb).trans HG1.out
   have hS3:Sto (Kn (fun k=>k<l0∨w7.heap.size≤k) W3) W3 (.agg #[.slice pa.1 pa.2.1 pa.2.2,.slice pb.1 pb.2.1 pb.2.2,.slice pc.1 pc.2.1 pc.2.2,.slice pd.1 pd.2.1 pd.2.2]) t:=HSto.out.map fun p v hp hc=>by
    have h1:p.block<V.heap.size:=hp.2
    have h2:=keep3 p.block h1 (by have:=SZ.out;rcases hp.1 with h | h <;> omega)
    exact⟨⟨hp.1,by omega⟩,(World.cell?_of_block h2).trans hc⟩
   have HLc:=Za (hHL.out b c' W3 (Zcg hS3) (Xc.old hits hB3'))
   clear n0 nf u0 u1 u2 k0 k1 k2 k3 kf
   obtain⟨k0,k1,k2,k3,kf,_⟩:=Ze c2
   obtain⟨u0,u1,u2,_⟩:=Zk cg
   obtain⟨o0,_⟩:=Zm c8
   have hIts:=Za hits
   have K3:=Za keep3
   have C2:=Za c2
   have C8:=Za c8
   have CG:=Za cg
   have I3:=Za i3
   have HGR:=Za hgr
   have B23:=Za hB3'
   have S23:=Za hs3'
   replace hsz2:=Za hsz2
   clear hits keep2 keep3 bx3 c2 c8 cg hS3 i3 hgr hB3' hs3' hHL hHJ
   gi_wp2_with fail
   clear hW3
   refine⟨trivial,rfl,?_⟩
   refine(CallsIn.inRound _ (callsIn_wide.2 HLc.out)).mono ?_
   rintro e W4 ⟨va,vb,vc,vd,rfl,hS4,hb4⟩
   clear k0 k1 k2 k3 kf u0 u1 u2 o0 HLc
   have hV3:V.heap.size<W3.heap.size:=by have:=hsz2.out;have:=S23.out;omega
   have hszw:w7.heap.size≤V.heap.size:=HIs.out
   have c24:Ya w.heap.size _ 29 W4:=(hb4.block _ (by have:=SZ.out;omega)).trans C2.out
   obtain⟨W5,hW5,g5,gr5,gs5⟩:=Zs (a':=.slice va.1 va.2.1 va.2.2) (b':=.slice vb.1 vb.2.1 vb.2.2) (c':=.slice vc.1 vc.2.1 vc.2.2) (d':=.slice vd.1 vd.2.1 vd.2.2) c24
   have c85:Ya w5.heap.size _ 3 W5:=(gr5.block _ (by have:=SZ.out;have:=hb4.size;omega) (fun e=>by have:=Option.some.inj e;have:=SZ.out;omega)).trans ((hb4.block _ (by have:=SZ.out;omega)).trans C8.out)
   obtain⟨W6,hW6,g6,gr6,gs6⟩:=Xo (u:=.int .i64 z) c85
   obtain⟨k0,k1,k2,k3,kf,_⟩:=Ze c24
   obtain⟨o0,of,_⟩:=Zm c85
   have all6:∀ k,k<W4.heap.size→k≠w.heap.size→k≠w5.heap.size→W6.heap[k]? = W4.heap[k]? := fun k h1 h2 h3=>(gr6.block k (by omega) (fun e=>h3 (Option.some.inj e))).trans (gr5.block k h1 (fun e=>h2 (Option.some.inj e)))
   have keep6:∀ k,k<V.heap.size→k≠fb→k≠w.heap.size→k≠w5.heap.size→W6.heap[k]? = V.heap[k]? := fun k h1 h2 h3 h4=>(all6 k (by have:=hb4.size;omega) h3 h4).trans ((hb4.block k (by omega)).trans (K3.out k h1 h2))
   have bx6:∀ {k:Nat} {cs:Array Value} {t:TypeId},Ya k cs t V→w.heap.size<k→k≠w5.heap.size→Ya k cs t W6:=fun h h1 h2=>(keep6 _ (Array.getElem?_eq_some_iff.1 h).1 (by omega) (by omega) h2).trans h
   have hfbl:∀ r,(some fb:Option Nat)=some r→lo≤r:=fun r e=>by cases e;omega
   have kpt:Hid (Vg (fun k=>k=w.heap.size∨k=w2.heap.size∨k=w3.heap.size∨k=w1.heap.size∨k=w4.heap.size∨k=w5.heap.size∨∃ q∈l,q.A.map (·.block)=some k) none none V W6):=Za (((((Vg.refl _ _ _).grown HGR.out fun r e=>.inr (.inr (.inr (.inr (.inr (.inr (.inr ⟨q2,hq2,by rw[hq2A];exact e⟩))))))).grown (Z5 B23.out) fun r e=>by cases e).grown (Z5 hb4) fun r e=>by cases e).grown gr5 fun r e=>by cases e;exact .inr (.inl rfl)).grown gr6 fun r e=>by cases e;exact .inr (.inr (.inr (.inr (.inr (.inr (.inl rfl))))))
   have hb6:Hid (Below lo w W6∧w7.heap.size≤W6.heap.size):=Za ⟨((((HIb.out.grown HGR.out (by have:=SZ.out;omega) hfbl).trans (B23.out.mono (by have:=SZ.out;have:=hsz2.out;omega))).trans (hb4.mono (by have:=SZ.out;omega))).grown gr5 (by have:=SZ.out;have:=hb4.size;omega) (fun k e=>by cases e;omega)).grown gr6 (by have:=SZ.out;have:=hb4.size;omega) (fun k e=>by cases e;have:=SZ.out;omega),by have:=hb4.size;omega⟩
   have z4:Hid (Ya w1.heap.size #[.slice none 0 0,.slice none 0 0,.slice none 0 0,.slice none 0 0] 29 W6):=Za (bx6 HB4.out (by have:=SZ.out;omega) (by have:=SZ.out;omega))
   have z5:Hid (Ya w2.heap.size #[.int .i64 0] 3 W6):=Za (bx6 HB5.out (by have:=SZ.out;omega) (by have:=SZ.out;omega))
   have z6:Hid (Ya w3.heap.size #[.int .i64 0] 33 W6):=Za (bx6 HB6.out (by have:=SZ.out;omega) (by have:=SZ.out;omega))
   have hS6:Hid (Sto (Kn (fun k=>k<l0∨w7.heap.size≤k) W6) W6 (.agg #[.slice va.1 va.2.1 va.2.2,.slice vb.1 vb.2.1 vb.2.2,.slice vc.1 vc.2.1 vc.2.2,.slice vd.1 vd.2.1 vd.2.2]) S'):=Za (hS4.map fun p v hp hc=>by
    have h1:W3.heap.size≤p.block:=hp.1
    have h2:p.block<W4.heap.size:=hp.2
    have h3:=all6 p.block h2 (by have:=SZ.out;omega) (by have:=SZ.out;omega)
    exact⟨⟨.inr (by omega),by omega⟩,(World.cell?_of_block h3).trans hc⟩)
   by_cases he0:er=0
   case neg =>
    have t1:(er != 0)=true:=by simpa using he0
    obtain⟨W7,hW7,g7,gr7,gs7⟩:=Xo (u:=.int .i64 er) z6.out
    have e4:=z4.out
    have e5:=z5.out
    obtain⟨m0,m1,m2,m3,mf,_⟩:=Ze e4
    obtain⟨p0,pf,_⟩:=Zm e5
    obtain⟨y0',yf,_⟩:=Zm z6.out
    have S4:=Z0 (W:=W6) (i:=0) (v:=.slice none 0 0) e4 rfl
    have S4b:=Z0 (W:=W6) (i:=1) (v:=.slice none 0 0) e4 rfl
    have S4c:=Z0 (W:=W6) (i:=2) (v:=.slice none 0 0) e4 rfl
    have S4d:=Z0 (W:=W6) (i:=3) (v:=.slice none 0 0) e4 rfl
    have S5:=Z0 (W:=W6) (i:=0) (v:=.int .i64 0) e5 rfl
    have hfin:Hid (ShX lo w7.heap.size w1.heap.size w2.heap.size w3.heap.size w s k a lv .ret (pre'++[x'],none) W7):=Za (by
     have b7:∀ {k:Nat} {cs:Array Value} {t:TypeId},Ya k cs t W6→k≠w3.heap.size→Ya k cs t W7:=fun h h1=>(gr7.block _ (Array.getElem?_eq_some_iff.1 h).1 (fun e=>h1 (Option.some.inj e))).trans h
     refine⟨rfl,rfl,⟨hb6.out.1.grown gr7 (by have:=hb6.out.2;have:=SZ.out;omega) (fun k e=>by cases e;have:=SZ.out;omega),by have:=hb6.out.2;omega⟩,er,b7 z4.out (by have:=SZ.out;omega),b7 z5.out (by have:=SZ.out;omega),g7,?_,he0⟩
     exact Z0j (i:=d+1+1) (by rw[m7.out,if_neg he0]) he0 (lv+1) (by omega) (Nat.le_refl _))
    have kp7:Hid (Vg (fun k=>k=w.heap.size∨k=w2.heap.size∨k=w3.heap.size∨k=w1.heap.size∨k=w4.heap.size∨k=w5.heap.size∨∃ q∈l,q.A.map (·.block)=some k) none none V W7):=Za (kpt.out.grown gr7 fun r e=>by cases e;exact .inr (.inr (.inr (.inl rfl))))
    clear g7 gr7 gs7 e4 e5 all6 keep6 bx6 hfbl g5 gr5 gs5 g6 gr6 gs6 c24 c85 hS4 hb4
    replace he0:=Za he0
    gi_wp2_with fail
    exact⟨none,kp7.out.wide fun k _ h=>by simpa using h,hfin.out⟩
   subst he0
   obtain⟨ad0,E0,ce0,e0,_,hAt,_⟩:=Zaj hIts.out (show L'[0]? = some y0 by rw[hy0.out];rfl)
   cases e0
   obtain⟨a0,a1,a2,_,_⟩:=hAt
   have a0':W2.cell? ⟨b,0,none⟩=some (.int .u8 (y0.1.1.toNat:Int)):=by simpa [Addr.add] using a0
   have a1':W2.cell? ⟨b,1,none⟩=some (.int .u32 y0.1.2.1):=by simpa [Addr.add] using a1
   have a2':W2.cell? ⟨b,2,none⟩=some (.int .u32 y0.1.2.2):=by simpa [Addr.add] using a2
   have hbW2:b<W2.heap.size:=World.block_lt_of_cell? _ ⟨b,0,none⟩ a0'
   have hbn:b≠w.heap.size∧b≠w5.heap.size:=by
    have h1:W2.heap[w.heap.size]? = W3.heap[w.heap.size]? := (B23.out.block _ (by have:=hsz2.out;have:=SZ.out;omega)).symm
    have h2:W2.heap[w5.heap.size]? = W3.heap[w5.heap.size]? := (B23.out.block _ (by have:=hsz2.out;have:=SZ.out;omega)).symm
    refine⟨fun e => ?_,fun e => ?_⟩
    ·rw[e,(Ze (h1.trans C2.out)).1] at a0'
     cases a0'
    ·rw[e,(Zm (h2.trans C8.out)).1] at a0'
     cases a0'
   have kb:W6.heap[b]? = W2.heap[b]? := (all6 b (by have:=hb4.size;have:=S23.out;omega) hbn.1 hbn.2).trans ((hb4.block b (by have:=S23.out;omega)).trans (B23.out.block b hbW2))
   have KD:=Za (fun W (hW:Below W6.heap.size W6 W)=>(show W.cell? ⟨b,0,none⟩=some (.int .u8 (y0.1.1.toNat:Int))∧W.cell? ⟨b,1,none⟩=some (.int .u32 y0.1.2.1)∧W.cell? ⟨b,2,none⟩=some (.int .u32 y0.1.2.2) from by
    have hb:=(hW.block b (by have:=hb4.size;have:=S23.out;omega)).trans kb
    exact⟨(World.cell?_of_block (a:=⟨b,0,none⟩) hb).trans a0',(World.cell?_of_block (a:=⟨b,1,none⟩) hb).trans a1',(World.cell?_of_block (a:=⟨b,2,none⟩) hb).trans a2'⟩))
   have ig:Ya W2.heap.size #[.int .i64 (first:Int),.int .i64 (many:Int)] 108 W6:=(all6 _ (by have:=hb4.size;have:=S23.out;omega) (by have:=hsz2.out;have:=SZ.out;omega) (by have:=hsz2.out;have:=SZ.out;omega)).trans ((hb4.block _ (by have:=S23.out;omega)).trans I3.out)
   have KI:=Za (fun W (hW:Below W6.heap.size W6 W)=>(hW.block _ (Array.getElem?_eq_some_iff.1 ig).1).trans ig)
   have pg:Ya g1 #[.int .i64 q1,.slice q.A q3 q.c,.int .i64 (q.pl:Int)] 102 W6:=by
    have h1:g1≠w.heap.size∧g1≠w5.heap.size:=by
     refine⟨fun e => ?_,fun e => ?_⟩
     ·have h2:=HB2.out
      have h3:=HG1.out
      unfold Ya at h2 h3
      rw[e,h2] at h3
      simp at h3
     ·have h2:=HB8.out
      have h3:=HG1.out
      unfold Ya at h2 h3
      rw[e,h2] at h3
      simp at h3
    exact(keep6 g1 (Array.getElem?_eq_some_iff.1 HG1.out).1 hgb h1.1 h1.2).trans HG1.out
   have KP:=Za (fun W (hW:Below W6.heap.size W6 W)=>(hW.block _ (Array.getElem?_eq_some_iff.1 pg).1).trans pg)
   have KZ:=Za (fun W (hW:Below W6.heap.size W6 W)=>(hW.block _ (Array.getElem?_eq_some_iff.1 g6).1).trans g6)
   have g7:=bx6 HB7.out (by have:=SZ.out;omega) (by have:=SZ.out;omega)
   have K7:=Za (fun W (hW:Below W6.heap.size W6 W)=>(hW.block _ (Array.getElem?_eq_some_iff.1 g7).1).trans g7)
   have g2b:Ya w.heap.size #[.slice va.1 va.2.1 va.2.2,.slice vb.1 vb.2.1 vb.2.2,.slice vc.1 vc.2.1 vc.2.2,.slice vd.1 vd.2.1 vd.2.2] 29 W6:=(gr6.block _ (by rw[gs5];exact(Array.getElem?_eq_some_iff.1 c24).1) (fun e=>by have:=Option.some.inj e;have:=SZ.out;omega)).trans g5
   have H2b:=Za g2b
   have H8b:=Za g6
   have hz:=hz64.out rfl
   have hnp:0<nl':=by rw[← hnl'.out,hy0.out];exact Nat.succ_pos _
   have hnp2:(0:Int)<(nl':Int):=by omega
   have hKeep6:=Za keep6
   have hlt6:=Za (show V.heap.size≤W6.heap.size by have:=hb4.size;omega)
   have hnd0:Hid (∀ kk,q.lo≤kk→kk<q.hi→W6.heap[kk]? = V.heap[kk]?):=Za fun kk h1 h2=>keep6 kk (by omega) (by omega) (by omega) (by have:=SZ.out;omega)
   clear all6 keep6 bx6 hfbl g5 gr5 gs5 g6 gr6 gs6 c24 c85 hS4 hb4 a0 a1 a2 a0' a1' a2' kb ig pg g7 g2b hbn
   gi_wp2_with fail
   clear hW5 hW6 k0 k1 k2 k3 kf o0 of
   refine Zu3 ?_
   refine V0 ⟨fun W W'=>Below W.heap.size W W',16,fun _=>True⟩ (ops' := ?opsLate) (by kernel_rfl) [] ?he (by kernel_rfl) (by kernel_rfl) (fun _ _ _ _ _ h=>h) (fun⟨_,_,h⟩=>h) 17 (fun W=>Below W6.heap.size W6 W) (fun i=>match i with
    | 16=>some (fun v W=>∃ g2,v=.slice (some ⟨g2,0,none⟩) 1 1∧W6.heap.size≤g2∧Ya g2 #[.int .u8 (y0.1.1.toNat:Int),.int .u32 y0.1.2.1,.int .u32 y0.1.2.2,.int .i64 z,.slice none 0 0] 54 W)
    | _=>none) (fun _=>none) ?h1 ?h2 ?h3 trivial ?hon (Below.refl _ _).drew (fun w w' h hb=>h.trans (hb.mono h.size)) ?tst ?_
   case he =>
    simp[Z4]
    rfl
   case h1=>decide
   case h2=>kernel_rfl
   case h3=>kernel_rfl
   case hon=>kernel_rfl
   case tst =>
    intro j φ v W W' hp hx hr
    match j,hp with
    | 16,hp =>
     cases hp
     obtain⟨g2,e,h1,h2⟩:=hx
     exact⟨g2,e,h1,(hr.block g2 (Array.getElem?_eq_some_iff.1 h2).1).trans h2⟩
   simp only[List.take_succ_cons,List.take_zero,List.drop_succ_cons,List.drop_zero]
   repeat (first
    | (refine Rk.wpAs_skip rfl ?_;simp only[Act.put,Zb,Zc,Zd])
    | (refine Rk.wpAs_pure (v := ?_) rfl rfl ?_ ?_;rotate_left;(intro W hC hE;clear hE;(obtain⟨u0,u1,u2,_⟩:=Zk (KP.out W hC);obtain⟨i0,i1,_⟩:=Zg (KI.out W hC);obtain⟨z0,_⟩:=Zm (KZ.out W hC);obtain⟨d0,d1,d2⟩:=KD.out W hC);clear hC;go_simp;first | done | with_reducible rfl);simp only[Act.put,Zb,Zc,Zd]))
   refine Rk.wpAs_act rfl rfl ?_ ?_
   ·intro W hC _ hE
    have hs:=hC.size
    clear hE hC
    go_simp
    exact⟨⟨W.heap.size,rfl,hs,heap_alloc_new _ _⟩,(Below.refl _ _).alloc (Nat.le_refl _) _⟩
   simp only[Act.put,Zb,Zc,Zd,Rb.envAdd]
   intro x16
   refine Rk.wpAs_end fun W hC hE => ?_
   obtain⟨⟨g2,rfl,hg2,hbx⟩,_⟩:=hE
   have hsW:=hC.size
   have hup:upI L' z=(y0.1,z,[]):=by rw[hy0.out];rfl
   have hqw:q.hi≤w.heap.size:=hql3
   have hV7:w.heap.size+7≤V.heap.size:=by have:=SZ.out;have:=HIs.out;omega
   have hV6:=hlt6.out
   have ho9:W.ownsRow q.lo 54 5 (.slice q.A q3 q.c) q3 (Zi ps):=Zb6 HPO.out fun kk hk=>by
    have:=Hrb.out kk (by rw[← hrbe.out];exact hk)
    exact(hC.block kk (by omega)).trans (hnd0.out kk this.1 this.2)
   have hf9:W.ownsRow W6.heap.size 54 5 (.slice (some ⟨g2,0,none⟩) 1 1) 1 (Zi [((y0.1,z,[]),.slice none 0 0)]):=Xd (C:=Zi [((y0.1,z,[]),.slice none 0 0)]) hg2 hbx (Nat.le_refl _) (by decide) rfl rfl
   have HRp:=Zkq q.A q.lo W6.heap.size q3 q.c g2 1 first (first+many) ps [((y0.1,z,[]),.slice none 0 0)] W ho9 hf9 (fun e=>by have:=Hrb.out g2 (by rw[← hrbe.out];exact e);omega) (by have:=hFit.out;omega) hFit.out.1 (by omega) (Zeu HPI.out) (fun p hp=>by rw[List.mem_singleton.1 hp];rfl)
   rw[show ((first+many:Nat):Int)=(first:Int)+(many:Int) by omega] at HRp
   obtain⟨Ls,hLs⟩:∃ Ls,ps.take first++([((y0.1,z,[]),.slice none 0 0)]++ps.drop (first+many))=Ls:=⟨_,rfl⟩
   rw[hLs] at HRp
   have hmap:Ls.map (·.1)=Zai q.nd.2 first many [upI L' z]:=hmk.out Ls (by rw[hup,hLs])
   have hLi:∀ p∈Ls,InI p.1∧rBy (fun ad=>q.lo≤ad.block∧ad.block<q.hi∧rb≠some ad.block) W [p.2] p.1.2.2:=fun p hp=>by
    have Zbh:p∈ps→InI p.1∧rBy (fun ad=>q.lo≤ad.block∧ad.block<q.hi∧rb≠some ad.block) W [p.2] p.1.2.2:=fun hp=>⟨(HPI.out p hp).1,Zf _ _ _ _ _ _ (fun a v ha hc=>⟨ha,(World.cell?_of_block ((hC.block a.block (by omega)).trans (hnd0.out a.block ha.1 ha.2.1))).trans hc⟩) (HPI.out p hp).2⟩
    rw[← hLs] at hp
    rcases List.mem_append.1 hp with hp | hp
    ·exact Zbh (List.mem_of_mem_take hp)
    ·rcases List.mem_append.1 hp with hp | hp
     ·rw[List.mem_singleton.1 hp]
      exact⟨by rw[← hup];exact Zzv (by rw[hy0.out];simp) minI.out hz,Ua _ _ none⟩
     ·exact Zbh (List.mem_of_mem_drop hp)
   obtain⟨len,hlen⟩:∃ len,Ls.length=len:=⟨_,rfl⟩
   have hins:(Zai q.nd.2 first many [upI L' z]).length=len:=by rw[← hmap,List.length_map,hlen]
   have HRh:=Za HRp
   have HC:=Za hC
   replace hLi:=Za hLi
   replace hmap:=Za hmap
   replace hins:=Za hins
   replace hlen:=Za hlen
   replace hLs:=Za hLs
   replace hup:=Za hup
   clear HRp ho9 hf9 hbx hC
   go_wp2_with fail
   with_reducible refine HRh.out.mono ?_
   rintro e W9 hrep
   have hrep':=Za hrep
   obtain⟨rfl,ho,hgr9⟩:=hrep
   rw[hrbe.out] at hgr9
   rw[hlen.out]
   have hsz9:=hgr9.size
   have c7:Ya w4.heap.size _ 39 W9:=(hgr9.block _ (by have:=SZ.out;omega) (fun e=>by have:=Hrb.out _ e.symm;have:=SZ.out;omega)).trans (K7.out W HC.out)
   obtain⟨W10,hW10,d7,gr10,gs10⟩:=Xo (u:=.slice q.A len q.c) c7
   obtain⟨m0,mf,_⟩:=Zm c7
   have kb:∀ kk,kk<W6.heap.size→rb≠some kk→kk≠w4.heap.size→W10.heap[kk]? = W6.heap[kk]? := fun kk h1 h2 h3=>(gr10.block kk (by omega) (fun e=>h3 (Option.some.inj e))).trans ((hgr9.block kk (by omega) (fun e=>h2 e.symm)).trans (HC.out.block kk h1))
   have hrw:∀ kk,q.hi≤kk→rb≠some kk:=fun kk h1 e=>by have:=Hrb.out kk e;omega
   have bx:∀ {k:Nat} {cs:Array Value} {t:TypeId},Ya k cs t W6→w.heap.size≤k→k≠w4.heap.size→Ya k cs t W10:=fun h h1 h2=>(kb _ (Array.getElem?_eq_some_iff.1 h).1 (hrw _ (by omega)) h2).trans h
   have kp10:Hid (Vg (fun k=>k=w.heap.size∨k=w2.heap.size∨k=w3.heap.size∨k=w1.heap.size∨k=w4.heap.size∨k=w5.heap.size∨∃ q∈l,q.A.map (·.block)=some k) none none V W10):=Za (((kpt.out.grown (Z5 HC.out) fun r e=>by cases e).grown hgr9 fun r e=>.inr (.inr (.inr (.inr (.inr (.inr (.inr ⟨q,hqm.out,by rw[hrbe.out,e]⟩))))))).grown gr10 fun r e=>by cases e;exact .inr (.inr (.inr (.inr (.inr (.inl rfl))))))
   have hfin:Hid (ShI l0 lo w7.heap.size w.heap.size w1.heap.size w2.heap.size w3.heap.size w4.heap.size w5.heap.size A c w s k a lv l (pre'++[x'],none) W10):=Za (by
    refine⟨rfl,⟨((hb6.out.1.trans (HC.out.mono (by omega))).grown hgr9 (by omega) (fun r e=>by have:=Hrb.out r e;omega)).grown gr10 (by omega) (fun k e=>by cases e;have:=SZ.out;omega),by have:=SZ.out;omega,Zb6 HIo.out fun kk e => ?_⟩,⟨bx z4.out (by have:=SZ.out;omega) (by have:=SZ.out;omega),bx z5.out (by have:=SZ.out;omega) (by have:=SZ.out;omega),bx z6.out (by have:=SZ.out;omega) (by have:=SZ.out;omega)⟩,S',Zai q.nd.2 first many [upI L' z],z,va,vb,vc,vd,q.A,q.c,q.lo,?_,bx H2b.out (Nat.le_refl _) (by have:=SZ.out;omega),?_,?_,bx H8b.out (by have:=SZ.out;omega) (by have:=SZ.out;omega),⟨hql1,?_,.inr ⟨q,hqm.out,rfl⟩⟩,fun q9 hq9 => ?_⟩
    ·have h1:=hAst.out kk e
     have h2:=hA.out kk q e hqm.out
     have h3:=hA.out kk q2 e hq2
     have h4:=Uc (hR.out.ok q2 hq2).2.2.2 fb (by rw[hq2A];rfl)
     rw[kb kk (by omega) (fun e=>by have:=Hrb.out kk e;omega) (by have:=SZ.out;omega)]
     exact hKeep6.out kk (by omega) (by omega) (by omega) (by have:=SZ.out;omega)
    ·show stO k s a lv (pre'++[x']).length=_
     rw[hpl.out,hd.out,m7.out]
     first | rw[if_pos rfl] | simp only[if_true]
    ·refine hS6.out.map fun p v hp hc => ?_
     have h2:=kb p.block hp.2 (fun e=>by have:=Hrb.out _ e;have:=SZ.out;rcases hp.1 with h | h <;> omega) (by have:=SZ.out;rcases hp.1 with h | h <;> omega)
     exact⟨⟨hp.1,by have:=hp.2;omega⟩,(World.cell?_of_block h2).trans hc⟩
    ·rw[hins.out]
     exact d7
    ·have:=(Z0i (hi:=q.hi) hql2 (by rw[hrbe.out];exact Hrb.out) (by omega) hrep'.out (by rw[hrbe.out];exact hLi.out)).wide hql3
     rw[hmap.out] at this
     exact this.same fun kk h1 h2=>gr10.block kk (by omega) (fun e=>by have:=Option.some.inj e;have:=SZ.out;omega)
    ·obtain⟨h1,h2⟩:=hidx.out q9 hq9
     refine⟨h1,(HRows.out q9 h2).2.same fun kk h3 h4 => ?_⟩
     rw[kb kk (by omega) (fun e=>by have:=Hrb.out kk e;omega) (by have:=SZ.out;omega)]
     exact hKeep6.out kk (by omega) (by omega) (by omega) (by have:=SZ.out;omega))
   clear kb hrw bx d7 gr10 gs10 hgr9 ho c7
   go_wp2_with fail
   simp only[Ztt]
   gi_wp2_with fail
   exact⟨none,kp10.out.wide fun k _ h=>by simpa using h,hfin.out⟩
 case done =>
  rintro xs q' V hVs rfl ⟨_,⟨hIb,hIs,hIo⟩,⟨hB4,hB5,hB6⟩,t,L,held,pa,pb,pc,pd,F,fc,bnd,hst,hB2,hSto,hB7,hB8,⟨hbl,hrow,hFq⟩,_⟩ hDV hqV
  rw[Yv] at hst
  have hst':stO k s a lv (lv+1)=(0,t,L,held):=by rw[← hm.out];exact hst
  have hO:g=Zm8 t ((if L=[] then 0 else (rmV s a).1),L) held:=by
   rw[← hg.out]
   unfold Z1o
   rw[hst']
   exact if_pos rfl
  have hD1:=Za hDV
  have HIb:=Za hIb
  have HB2:=Za hB2
  have HB4:=Za hB4
  have HB5:=Za hB5
  have HB6:=Za hB6
  have HB7:=Za hB7
  have HB8:=Za hB8
  have HIs:=Za hIs
  have HSto:=Za hSto
  obtain⟨k0,k1,k2,k3,kf,_⟩:=Ze hB2
  obtain⟨n0,nf,_⟩:=Zm hB7
  obtain⟨y0,yf,_⟩:=Zm hB8
  by_cases hL:L=[]
  ·subst hL
   rw[if_pos rfl] at hO
   have HL:=Zjp pa pb pc pd t none 0 (0,[]) held V (Zcg hSto) (Zhu.zero w.heap.size V).nod.drop
   obtain⟨LD,hLD⟩:∃ LD,Zm8 t (0,[]) held=LD:=⟨_,rfl⟩
   rw[hLD] at hO HL
   obtain⟨er,S',z⟩:=LD
   have hHL:=Za HL
   replace hO:=Za hO
   replace hLD:=Za hLD
   clear HL hB2 hB4 hB5 hB6 hB7 hB8 hIb hIs hIo hSto hrow hDV hqV hst hst'
   gi_wp2_with fail
   refine⟨trivial,?_⟩
   gi_at_call 51
   refine(callsIn_wide.2 hHL.out).mono ?_
   rintro e W ⟨va,vb,vc,vd,rfl,hS4,hb4⟩
   dsimp only at hS4
   clear k0 k1 k2 k3 kf n0 nf y0 yf hHL
   have c4:=(Zr _ _ _ _ _ HB4.out hb4:Ya w1.heap.size _ _ W)
   obtain⟨W5,hW5,g5,gr5,gs5⟩:=Zs (a':=.slice va.1 va.2.1 va.2.2) (b':=.slice vb.1 vb.2.1 vb.2.2) (c':=.slice vc.1 vc.2.1 vc.2.2) (d':=.slice vd.1 vd.2.1 vd.2.2) c4
   have c5:Ya w2.heap.size _ 3 W5:=(gr5.block _ (by have:=SZ.out;have:=HIs.out;have:=hb4.size;omega) (fun e=>by have:=Option.some.inj e;have:=SZ.out;omega)).trans (Zr _ _ _ _ _ HB5.out hb4:Ya w2.heap.size _ _ W)
   obtain⟨W6,hW6,g6,gr6,gs6⟩:=Xo (u:=.int .i64 z) c5
   have c6:Ya w3.heap.size _ 33 W6:=(gr6.block _ (by have:=SZ.out;have:=HIs.out;have:=hb4.size;omega) (fun e=>by have:=Option.some.inj e;have:=SZ.out;omega)).trans ((gr5.block _ (by have:=SZ.out;have:=HIs.out;have:=hb4.size;omega) (fun e=>by have:=Option.some.inj e;have:=SZ.out;omega)).trans (Zr _ _ _ _ _ HB6.out hb4:Ya w3.heap.size _ _ W))
   obtain⟨W7,hW7,g7,gr7,gs7⟩:=Xo (u:=.int .i64 er) c6
   obtain⟨m0,m1,m2,m3,mf,_⟩:=Ze c4
   obtain⟨p0,pf,_⟩:=Zm c5
   obtain⟨r0,rf,_⟩:=Zm c6
   have z4:=Za ((gr7.block _ (by have:=SZ.out;have:=HIs.out;have:=hb4.size;omega) (fun e=>by have:=Option.some.inj e;have:=SZ.out;omega)).trans ((gr6.block _ (by have:=SZ.out;have:=HIs.out;have:=hb4.size;omega) (fun e=>by have:=Option.some.inj e;have:=SZ.out;omega)).trans g5):Ya w1.heap.size _ 29 W7)
   have z5:=Za ((gr7.block _ (by have:=SZ.out;have:=HIs.out;have:=hb4.size;omega) (fun e=>by have:=Option.some.inj e;have:=SZ.out;omega)).trans g6:Ya w2.heap.size _ 3 W7)
   have z6:=Za (g7:Ya w3.heap.size _ 33 W7)
   have keep:∀ k,k<W.heap.size→k≠w1.heap.size→k≠w2.heap.size→k≠w3.heap.size→W7.heap[k]? = W.heap[k]? := fun k h1 h2 h3 h4=>(gr7.block k (by omega) (fun e=>h4 (Option.some.inj e))).trans ((gr6.block k (by omega) (fun e=>h3 (Option.some.inj e))).trans (gr5.block k h1 (fun e=>h2 (Option.some.inj e))))
   have hDe:Hid (W7.heap[w7.heap.size]? = some (.deferred (some []))):=Za ((keep _ (by have:=(Array.getElem?_eq_some_iff.1 hD1.out).1;have:=hb4.size;omega) (by have:=SZ.out;omega) (by have:=SZ.out;omega) (by have:=SZ.out;omega)).trans ((hb4.block _ (Array.getElem?_eq_some_iff.1 hD1.out).1).trans hD1.out))
   have hS7:Hid (Sto (Kn (fun k=>k<l0∨w.heap.size≤k) W7) W7 (.agg #[.slice va.1 va.2.1 va.2.2,.slice vb.1 vb.2.1 vb.2.2,.slice vc.1 vc.2.1 vc.2.2,.slice vd.1 vd.2.1 vd.2.2]) S'):=Za (hS4.map fun p v hp hc=>by
    have h1:V.heap.size≤p.block:=hp.1
    have h2:p.block<W.heap.size:=hp.2
    have h3:=HIs.out
    have h4:=keep p.block h2 (by have:=SZ.out;omega) (by have:=SZ.out;omega) (by have:=SZ.out;omega)
    exact⟨⟨.inr (by have:=SZ.out;omega),by omega⟩,(World.cell?_of_block h4).trans hc⟩)
   have hBe:Hid (Below lo w W7):=Za ((((HIb.out.trans (hb4.mono (by have:=HIs.out;have:=SZ.out;omega))).grown gr5 (by have:=HIs.out;have:=SZ.out;have:=hb4.size;omega) (fun k e=>by cases e;have:=SZ.out;omega)).grown gr6 (by have:=HIs.out;have:=SZ.out;have:=hb4.size;omega) (fun k e=>by cases e;have:=SZ.out;omega)).grown gr7 (by have:=HIs.out;have:=SZ.out;have:=hb4.size;omega) (fun k e=>by cases e;have:=SZ.out;omega))
   have hsz7:=Za (show w7.heap.size≤W7.heap.size by have:=HIs.out;have:=hb4.size;omega)
   clear keep g5 gr5 gs5 g6 gr6 gs6 g7 gr7 gs7 c4 c5 c6 hS4 hb4
   gi_wp2_with fail
   refine⟨by simp,.inl ⟨_,_,rfl,run_takeDeferred hDe.out,?_⟩⟩
   have hgp:=grownBy_putObj' W7 w7.heap.size (.deferred none)
   have hnp:∀ r,some w7.heap.size=some r→∃ o:Obj,W7.heap[r]? = some o∧o.isCells=false:=fun r e=>by cases e;exact⟨_,hDe.out,rfl⟩
   obtain⟨m0,m1,m2,m3,_⟩:=Ze (Zl z4.out hgp hnp)
   obtain⟨n0,_⟩:=Zm (Zl z5.out hgp hnp)
   obtain⟨y0,_⟩:=Zm (Zl z6.out hgp hnp)
   refine⟨.tuple #[.agg #[.slice va.1 va.2.1 va.2.2,.slice vb.1 vb.2.1 vb.2.2,.slice vc.1 vc.2.1 vc.2.2,.slice vd.1 vd.2.1 vd.2.2],.int .i64 z,.int .i64 er],by simp[results,Tryz.f26,go_sem,m0,m1,m2,m3,n0,y0],?_⟩
   rw[← hQQ.out]
   exact⟨va,vb,vc,vd,by rw[hO.out],by rw[hO.out];exact Zvt hS7.out hgp hnp,hBe.out.grown hgp (by have:=SZ.out;have:=hsz7.out;omega) (fun k e=>by cases e;have:=SZ.out;omega)⟩
  ·rw[if_neg hL] at hO
   have hits:=hrow.its (show w.heap.size≤V.heap.size by have:=SZ.out;omega)
   obtain⟨q0,hq0⟩:∃ q0,l[0]? = some q0:=⟨_,List.getElem?_eq_getElem (by rw[hl.out,hm.out];omega)⟩
   obtain⟨hnd0,_⟩:=hq.out 0 q0 hq0
   have hlvl:q0.nd.1=(rmV s a).1:=by rw[hnd0];rfl
   have hI64:=(Zh4 hT.out.ok).lv
   obtain⟨sg,rfl,hsc⟩:∃ sg,A=some ⟨sg,0,none⟩∧V.cell? ⟨sg,0,none⟩=some (.int .i64 (rmV s a).1):=by
    rcases hIo.2 with ⟨_,e⟩ | ⟨sg,cap,cur,e,_⟩
    ·have:=hl.out
     have:=hm.out
     omega
    ·cases e
     refine⟨sg,rfl,?_⟩
     have:=hIo.cells (g:=sg) rfl _ _ (Zzo hq0 0 _ rfl)
     rw[hlvl] at this
     simpa [Addr.add] using this
   obtain⟨ml,hml⟩:∃ ml,L.length=ml:=⟨_,rfl⟩
   have hm0:0<ml:=by rw[← hml];exact List.length_pos_iff.2 hL
   have t0:((ml:Int)==0)=false:=by simp;omega
   have hmp:0<m:=by have:=hm.out;omega
   have hmp2:(0:Int)<(m:Int):=by omega
   have HL:=fun(W:World) (hW:Below V.heap.size V W)=>Zjp pa pb pc pd t F fc ((rmV s a).1,L) held W (Zcg (Y4 (K':=fun k=>k<l0∨w7.heap.size≤k) hSto (fun _ h=>h) hW)) ⟨_,rfl,hI64,Xc.old hits hW⟩
   obtain⟨lvv,hlvv⟩:∃ q,(rmV s a).1=q:=⟨_,rfl⟩
   rw[hlvv] at HL hO hsc
   obtain⟨LD,hLD⟩:∃ LD,Zm8 t (lvv,L) held=LD:=⟨_,rfl⟩
   rw[hLD] at hO HL
   dsimp only at HL
   rw[hml] at HL hB7 n0
   obtain⟨er,S',z⟩:=LD
   have hHL:=Za HL
   have K2:=Za (fun W (hW:Below V.heap.size V W)=>(Zr _ _ _ _ _ hB2 hW:Ya w.heap.size _ _ W))
   have K7:=Za (fun W (hW:Below V.heap.size V W)=>(Zr _ _ _ _ _ hB7 hW:Ya w4.heap.size _ _ W))
   have K8:=Za (fun W (hW:Below V.heap.size V W)=>(Zr _ _ _ _ _ hB8 hW:Ya w5.heap.size _ _ W))
   have KS:=Za (fun W (hW:Below V.heap.size V W)=>(hW.cell (p:=⟨sg,0,none⟩) (World.block_lt_of_cell? _ ⟨sg,0,none⟩ hsc)).trans hsc)
   replace hO:=Za hO
   replace hLD:=Za hLD
   replace hml:=Za hml
   replace hlvv:=Za hlvv
   replace hL:=Za hL
   clear HL hB2 hB4 hB5 hB6 hB7 hB8 hIb hIs hIo hSto hrow hDV hqV hst hst' hits hsc hq0 hnd0 hlvl hI64
   gi_wp2_with fail
   clear k0 k1 k2 k3 kf n0 nf y0 yf
   refine wpIn_wide.2 ?_
   refine Vo (by kernel_rfl) 13 (fun W=>Below V.heap.size V W) (fun i=>match i with
    | 9=>some (PhK (fun k=>V.heap.size≤k) z er S')
    | 10=>some (Z3g (fun k=>V.heap.size≤k) S')
    | _=>none) (fun i=>match i with
    | 11=>some (.int .i64 z)
    | 12=>some (.int .i64 er)
    | _=>none) ?h1 ?h2 ?h3 (Below.refl _ _).drew (fun w w' h hb=>h.trans (hb.mono h.size)) ?tst ?_
   case h1=>decide
   case h2=>kernel_rfl
   case h3=>kernel_rfl
   case tst =>
    intro j φ v W W' hp hx hb
    match j,hp with
    | 9,hp=>cases hp;obtain⟨va,vb,vc,vd,e,h⟩:=hx;exact⟨va,vb,vc,vd,e,Y4 h (fun _ h=>h) hb⟩
    | 10,hp=>cases hp;obtain⟨va,vb,vc,vd,e,h⟩:=hx;exact⟨va,vb,vc,vd,e,Y4 h (fun _ h=>h) hb⟩
   simp only[List.take_succ_cons,List.take_zero,List.drop_succ_cons,List.drop_zero]
   repeat (first
    | (refine wpAs_skip rfl ?_;simp only[Act.put,Zb,Zc,Zd])
    | (refine wpAs_pure (v := ?_) rfl rfl ?_ ?_;rotate_left;(intro W hC hE;clear hE;(obtain⟨k0,k1,k2,k3,_⟩:=Ze (K2.out W hC);obtain⟨n0,_⟩:=Zm (K7.out W hC);obtain⟨y0,_⟩:=Zm (K8.out W hC);have cs:=KS.out W hC);clear hC;go_simp;first | done | with_reducible rfl);simp only[Act.put,Zb,Zc,Zd]))
   refine wpAs_act rfl rfl ?_ ?_
   ·intro W hC hE
    clear hE
    refine does_enter (f:=51) (args:=#[.agg #[.slice pa.1 pa.2.1 pa.2.2,.slice pb.1 pb.2.1 pb.2.2,.slice pc.1 pc.2.1 pc.2.2,.slice pd.1 pd.2.1 pd.2.2],.agg #[.int .i64 lvv,.slice F ml fc],.int .i64 held]) ?_ ?_
    ·go_simp
    ·refine(hHL.out W hC).mono ?_
     rintro e W' ⟨va,vb,vc,vd,rfl,h1,hb⟩
     exact⟨_,rfl,⟨va,vb,vc,vd,rfl,Y4 h1 (fun k h=>Nat.le_trans hC.size h) (Below.refl _ _)⟩,hb⟩
   simp only[Act.put,Zb,Zc,Zd,envAdd]
   intro x9
   refine wpAs_act rfl rfl ?_ ?_
   ·intro W hC hE
    obtain⟨va,vb,vc,vd,rfl,h1⟩:=hE.1 rfl
    have hI':=Za h1
    clear hE hC h1
    go_simp
    exact⟨⟨va,vb,vc,vd,rfl,hI'.out⟩,Below.refl _ _⟩
   simp only[Act.put,Zb,Zc,Zd,envAdd]
   intro x10
   refine wpAs_fixed rfl rfl rfl ?_ ?_
   ·intro W hC hE
    obtain⟨va,vb,vc,vd,rfl,h1⟩:=hE.2.1 rfl
    clear hE hC h1
    go_simp
    exact⟨rfl,Below.refl _ _⟩
   simp only[Act.put,Zb,Zc,Zd]
   refine wpAs_fixed rfl rfl rfl ?_ ?_
   ·intro W hC hE
    obtain⟨va,vb,vc,vd,rfl,h1⟩:=hE.2.1 rfl
    clear hE hC h1
    go_simp
    exact⟨rfl,Below.refl _ _⟩
   simp only[Act.put,Zb,Zc,Zd]
   refine wpAs_end fun W hC hE => ?_
   obtain⟨⟨va,vb,vc,vd,rfl,hS4⟩,_⟩:=hE
   have hb4:=hC
   have c4:=(Zr _ _ _ _ _ HB4.out hb4:Ya w1.heap.size _ _ W)
   obtain⟨W5,hW5,g5,gr5,gs5⟩:=Zs (a':=.slice va.1 va.2.1 va.2.2) (b':=.slice vb.1 vb.2.1 vb.2.2) (c':=.slice vc.1 vc.2.1 vc.2.2) (d':=.slice vd.1 vd.2.1 vd.2.2) c4
   have c5:Ya w2.heap.size _ 3 W5:=(gr5.block _ (by have:=SZ.out;have:=HIs.out;have:=hb4.size;omega) (fun e=>by have:=Option.some.inj e;have:=SZ.out;omega)).trans (Zr _ _ _ _ _ HB5.out hb4:Ya w2.heap.size _ _ W)
   obtain⟨W6,hW6,g6,gr6,gs6⟩:=Xo (u:=.int .i64 z) c5
   have c6:Ya w3.heap.size _ 33 W6:=(gr6.block _ (by have:=SZ.out;have:=HIs.out;have:=hb4.size;omega) (fun e=>by have:=Option.some.inj e;have:=SZ.out;omega)).trans ((gr5.block _ (by have:=SZ.out;have:=HIs.out;have:=hb4.size;omega) (fun e=>by have:=Option.some.inj e;have:=SZ.out;omega)).trans (Zr _ _ _ _ _ HB6.out hb4:Ya w3.heap.size _ _ W))
   obtain⟨W7,hW7,g7,gr7,gs7⟩:=Xo (u:=.int .i64 er) c6
   obtain⟨m0,m1,m2,m3,mf,_⟩:=Ze c4
   obtain⟨p0,pf,_⟩:=Zm c5
   obtain⟨r0,rf,_⟩:=Zm c6
   clear hC
   have z4:=Za ((gr7.block _ (by have:=SZ.out;have:=HIs.out;have:=hb4.size;omega) (fun e=>by have:=Option.some.inj e;have:=SZ.out;omega)).trans ((gr6.block _ (by have:=SZ.out;have:=HIs.out;have:=hb4.size;omega) (fun e=>by have:=Option.some.inj e;have:=SZ.out;omega)).trans g5):Ya w1.heap.size _ 29 W7)
   have z5:=Za ((gr7.block _ (by have:=SZ.out;have:=HIs.out;have:=hb4.size;omega) (fun e=>by have:=Option.some.inj e;have:=SZ.out;omega)).trans g6:Ya w2.heap.size _ 3 W7)
   have z6:=Za (g7:Ya w3.heap.size _ 33 W7)
   have keep:∀ k,k<W.heap.size→k≠w1.heap.size→k≠w2.heap.size→k≠w3.heap.size→W7.heap[k]? = W.heap[k]? := fun k h1 h2 h3 h4=>(gr7.block k (by omega) (fun e=>h4 (Option.some.inj e))).trans ((gr6.block k (by omega) (fun e=>h3 (Option.some.inj e))).trans (gr5.block k h1 (fun e=>h2 (Option.some.inj e))))
   have hDe:Hid (W7.heap[w7.heap.size]? = some (.deferred (some []))):=Za ((keep _ (by have:=(Array.getElem?_eq_some_iff.1 hD1.out).1;have:=hb4.size;omega) (by have:=SZ.out;omega) (by have:=SZ.out;omega) (by have:=SZ.out;omega)).trans ((hb4.block _ (Array.getElem?_eq_some_iff.1 hD1.out).1).trans hD1.out))
   have hS7:Hid (Sto (Kn (fun k=>k<l0∨w.heap.size≤k) W7) W7 (.agg #[.slice va.1 va.2.1 va.2.2,.slice vb.1 vb.2.1 vb.2.2,.slice vc.1 vc.2.1 vc.2.2,.slice vd.1 vd.2.1 vd.2.2]) S'):=Za (hS4.map fun p v hp hc=>by
    have h1:V.heap.size≤p.block:=hp.1
    have h2:p.block<W.heap.size:=hp.2
    have h3:=HIs.out
    have h4:=keep p.block h2 (by have:=SZ.out;omega) (by have:=SZ.out;omega) (by have:=SZ.out;omega)
    exact⟨⟨.inr (by have:=SZ.out;omega),by omega⟩,(World.cell?_of_block h4).trans hc⟩)
   have hBe:Hid (Below lo w W7):=Za ((((HIb.out.trans (hb4.mono (by have:=HIs.out;have:=SZ.out;omega))).grown gr5 (by have:=HIs.out;have:=SZ.out;have:=hb4.size;omega) (fun k e=>by cases e;have:=SZ.out;omega)).grown gr6 (by have:=HIs.out;have:=SZ.out;have:=hb4.size;omega) (fun k e=>by cases e;have:=SZ.out;omega)).grown gr7 (by have:=HIs.out;have:=SZ.out;have:=hb4.size;omega) (fun k e=>by cases e;have:=SZ.out;omega))
   have hsz7:=Za (show w7.heap.size≤W7.heap.size by have:=HIs.out;have:=hb4.size;omega)
   clear keep g5 gr5 gs5 g6 gr6 gs6 g7 gr7 gs7 c4 c5 c6 hS4 hb4
   go_wp2_with fail
   gi_wp2_with fail
   refine⟨by simp,.inl ⟨_,_,rfl,run_takeDeferred hDe.out,?_⟩⟩
   have hgp:=grownBy_putObj' W7 w7.heap.size (.deferred none)
   have hnp:∀ r,some w7.heap.size=some r→∃ o:Obj,W7.heap[r]? = some o∧o.isCells=false:=fun r e=>by cases e;exact⟨_,hDe.out,rfl⟩
   obtain⟨m0,m1,m2,m3,_⟩:=Ze (Zl z4.out hgp hnp)
   obtain⟨n0,_⟩:=Zm (Zl z5.out hgp hnp)
   obtain⟨y0,_⟩:=Zm (Zl z6.out hgp hnp)
   refine⟨.tuple #[.agg #[.slice va.1 va.2.1 va.2.2,.slice vb.1 vb.2.1 vb.2.2,.slice vc.1 vc.2.1 vc.2.2,.slice vd.1 vd.2.1 vd.2.2],.int .i64 z,.int .i64 er],by simp[results,Tryz.f26,go_sem,m0,m1,m2,m3,n0,y0],?_⟩
   rw[← hQQ.out]
   exact⟨va,vb,vc,vd,by rw[hO.out],by rw[hO.out];exact Zvt hS7.out hgp hnp,hBe.out.grown hgp (by have:=SZ.out;have:=hsz7.out;omega) (fun k e=>by cases e;have:=SZ.out;omega)⟩
 case stop =>
  rintro c pre' q' V hVs ⟨rfl,_,⟨hIb,hIs⟩,er,hB4,hB5,hB6,hgA,he0⟩ hDV hqV
  have hD1:=Za hDV
  have z4:=Za hB4
  have z5:=Za hB5
  have z6:=Za hB6
  have hb:=Za hIb
  have hO:Hid (g=(er,Zh,0)):=Za (by rw[← hg.out];unfold Z1o;rw[hgA,if_neg he0])
  clear hB4 hB5 hB6 hgA he0 hDV hqV hIb
  gi_wp2_with fail
  refine⟨by simp,.inl ⟨_,_,rfl,run_takeDeferred hD1.out,?_⟩⟩
  have hgp:=grownBy_putObj' V w7.heap.size (.deferred none)
  have hnp:∀ r,some w7.heap.size=some r→∃ o:Obj,V.heap[r]? = some o∧o.isCells=false:=fun r e=>by cases e;exact⟨_,hD1.out,rfl⟩
  obtain⟨m0,m1,m2,m3,_⟩:=Ze (Zl z4.out hgp hnp)
  obtain⟨n0,_⟩:=Zm (Zl z5.out hgp hnp)
  obtain⟨y0,_⟩:=Zm (Zl z6.out hgp hnp)
  refine⟨.tuple #[.agg #[.slice none 0 0,.slice none 0 0,.slice none 0 0,.slice none 0 0],.int .i64 0,.int .i64 er],by simp[results,Tryz.f26,go_sem,m0,m1,m2,m3,n0,y0],?_⟩
  rw[← hQQ.out]
  exact⟨(none,0,0),(none,0,0),(none,0,0),(none,0,0),by rw[hO.out],by rw[hO.out];exact Yk _ _,hb.out.grown hgp (by have:=SZ.out;omega) (fun k e=>by cases e;have:=SZ.out;omega)⟩
theorem Zjt {P:Nat→Prop} (h:∃ j,P j):∃ j,P j∧∀ i,P i→j≤i:=by
 obtain⟨j,hj⟩:=h
 induction j using Nat.strongRecOn with
 | ind j ih =>
  by_cases hs:∃ i,i<j∧P i
  ·obtain⟨i,hi,hp⟩:=hs
   exact ih i hi hp
  ·exact⟨j,hj,fun i hi=>Nat.le_of_not_lt fun h=>hs ⟨i,h,hi⟩⟩
open Classical in
noncomputable def Zit (P:Nat→Prop):Nat:=if h:∃ j,P j then Classical.choose (Zjt h) else 0
theorem Ztz {P:Nat→Prop} (h:∃ j,P j):P (Zit P):=by
 unfold Zit
 rw[dif_pos h]
 exact(Classical.choose_spec (Zjt h)).1
theorem Zv6 {P:Nat→Prop} {j:Nat} (h:P j):Zit P≤j:=by
 unfold Zit
 rw[dif_pos ⟨j,h⟩]
 exact(Classical.choose_spec (Zjt ⟨j,h⟩)).2 j h
theorem Zv8 {P:Nat→Prop} (h:∃ j,P j):∃ j,Zit P=j∧P j:=⟨_,rfl,Ztz h⟩
theorem Znm (v:Value) (s:Rm) (n:Int) (w:World) (h:Sto (Old w) w v s) :
  Calls Tryz.prog 53 #[v,.int .i64 n] w fun e W'=>∃ qa qb qc qd:Option Addr×Nat×Nat,e=.returned (.tuple #[.agg #[.slice qa.1 qa.2.1 qa.2.2,.slice qb.1 qb.2.1 qb.2.2,.slice qc.1 qc.2.1 qc.2.2,.slice qd.1 qd.2.1 qd.2.2],.int .i64 (shE s n)])∧Sto (New w.heap.size W') W' (.agg #[.slice qa.1 qa.2.1 qa.2.2,.slice qb.1 qb.2.1 qb.2.2,.slice qc.1 qc.2.1 qc.2.2,.slice qd.1 qd.2.1 qd.2.2]) (shV s n)∧Below w.heap.size w W' :=
 (Zok v s n w h).mono fun _ _ ⟨A,ca,B,cb,N,cn,L,cl,h1,h2,h3⟩=>⟨(A,_,ca),(B,_,cb),(N,_,cn),(L,_,cl),h1,h2,h3⟩
def LwJ (K:Nat→Prop) (s0:Rm) (w w1 w2:World) (g:Int×Rm×Int) (rv:Value) (wr:World) (j:Nat):Prop:=∃ (S:Rm) (r:Int) (qa qb qc qd:Option Addr×Nat×Nat),rv=.int .i64 r∧g=Yp j S r∧Zsm s0 S j r∧Below w.heap.size w wr∧w2.heap.size≤wr.heap.size ∧
 wr.heap[w.heap.size]? = some (.cells #[.slice qa.1 qa.2.1 qa.2.2,.slice qb.1 qb.2.1 qb.2.2,.slice qc.1 qc.2.1 qc.2.2,.slice qd.1 qd.2.1 qd.2.2] 29 (0,0)) ∧
 Sto (Kn (fun k=>K k∧(k<w.heap.size∨w2.heap.size≤k)) wr) wr (.agg #[.slice qa.1 qa.2.1 qa.2.2,.slice qb.1 qb.2.1 qb.2.2,.slice qc.1 qc.2.1 qc.2.2,.slice qd.1 qd.2.1 qd.2.2]) S ∧
 wr.heap[w1.heap.size]? = some (.cells #[.slice none 0 0,.slice none 0 0,.slice none 0 0,.slice none 0 0] 29 (0,0))
theorem Zk9 (K:Nat→Prop) (qa qb qc qd:Option Addr×Nat×Nat) (s0 s:Rm) (l:Nat) (r:Int) (hI:Zsm s0 s l r) (w:World) (hK:∀ k,w.heap.size≤k→K k) (h:Sto (Kn K w) w (.agg #[.slice qa.1 qa.2.1 qa.2.2,.slice qb.1 qb.2.1 qb.2.2,.slice qc.1 qc.2.1 qc.2.2,.slice qd.1 qd.2.1 qd.2.2]) s) :
  Calls Tryz.prog 27 #[.agg #[.slice qa.1 qa.2.1 qa.2.2,.slice qb.1 qb.2.1 qb.2.2,.slice qc.1 qc.2.1 qc.2.2,.slice qd.1 qd.2.1 qd.2.2],.int .i64 r] w (Zws K w (Yp l s r)):=by
 obtain⟨w1,hw1,b1,hs1,hB1⟩:=Xt w (.slice qa.1 qa.2.1 qa.2.2) (.slice qb.1 qb.2.1 qb.2.2) (.slice qc.1 qc.2.1 qc.2.2) (.slice qd.1 qd.2.1 qd.2.2) 29
 obtain⟨w2,hw2,b2,hs2,hB2⟩:=Xt w1 (.slice none 0 0) (.slice none 0 0) (.slice none 0 0) (.slice none 0 0) 29
 have hB12:=hB1.trans (hB2.mono hB1.size)
 obtain⟨g,hg⟩:∃ q,Yp l s r=q:=⟨_,rfl⟩
 rw[hg]
 have hJ0:Hid (LwJ K s0 w w1 w2 g (.int .i64 r) w2 l):=Za ⟨s,r,qa,qb,qc,qd,rfl,hg.symm,hI,hB12,Nat.le_refl _,(hB2.block _ (by omega)).trans b1,h.map fun p v hp hc=>⟨⟨⟨hp.1,.inl hp.2⟩,by have:=hp.2;omega⟩,(hB12.cell hp.2).trans hc⟩,b2⟩
 have SZ:=Za (show w1.heap.size=w.heap.size+1∧w2.heap.size=w.heap.size+2 from by omega)
 obtain⟨KX,hKX⟩:∃ KX:Nat→Prop,KX=fun k=>K k∧(k<w.heap.size∨w2.heap.size≤k):=⟨_,rfl⟩
 have hX:Hid ((¬ KX w.heap.size)∧(¬ KX w1.heap.size)∧(∀ k,KX k→K k)∧∀ k,w2.heap.size≤k→KX k):=Za (by
  rw[hKX]
  refine⟨fun h => ?_,fun h => ?_,fun k h=>h.1,fun k h=>⟨hK k (by omega),.inr h⟩⟩
  ·rcases h.2 with h | h <;> omega
  ·rcases h.2 with h | h <;> omega)
 have hgo:=Za (fun(S:Rm) (j:Nat) (x:Int)=>@Zzx s0 S j x)
 have hend:=Za (fun(S:Rm) (j:Nat) (x:Int)=>@Ztk s0 S j x)
 replace hg:=Za hg
 replace hKX:=Za hKX
 replace hs1:=Za hs1
 replace hs2:=Za hs2
 clear h hB1 hB2 hB12 b1 b2 hI
 go_enter Tryz.func27,Tryz.ntmps27
 go_wp2_with fail
 clear hw1 hw2
 go_loopw [1] (fun rv wr=>∃ j,LwJ K s0 w w1 w2 g rv wr j) (fun rv wr=>Zit (LwJ K s0 w w1 w2 g rv wr))
 case atStart=>exact⟨l,hJ0.out⟩
 case round =>
  obtain⟨j,hj,S,x,pa,pb,pc,pd,rfl,hgj,hIj,hBw,hsz,hbx,hS,hrb⟩:=Zv8 hrel
  rw[← hKX.out] at hS
  clear hrel
  have hN:=Zch _ S x wr (Zcg hS)
  have hlv:=hIj.lev.ok
  have hEnd:=Za (hend.out S j x hIj)
  have hGo:=Za (hgo.out S j x hIj)
  rw[hlv.1] at hN
  clear hlv hIj
  obtain⟨nd,hnd⟩:∃ q,rmV S x=q:=⟨_,rfl⟩
  rw[hnd] at hN hEnd hGo
  replace hnd:=Za hnd
  obtain⟨lw,hlw⟩:∃ q,nd.1=q:=⟨_,rfl⟩
  obtain⟨nl,hnl⟩:∃ q,nd.2.length=q:=⟨_,rfl⟩
  obtain⟨k0,k1,k2,k3,kf,_⟩:=Ze hbx
  have hbx':=Za hbx
  have hrb':=Za hrb
  have hS':=Za hS
  have hBw':=Za hBw
  have hsz':=Za hsz
  replace hgj:=Za hgj
  replace hj:=Za hj
  clear hbx hrb hS hBw hsz
  go_upto_region 1 with fail
  go_wp2_with fail
  with_reducible refine hN.mono ?_
  rintro e W1 ⟨u,rfl,⟨Z,zc,rfl,hin,hrow⟩,hb1⟩
  rw[hnl,hlw]
  clear hN k0 k1 k2 k3 kf hin
  obtain⟨w3,hw3,b3,hs3,hB3⟩:=Z7 W1 (.int .i64 lw) (.slice Z nl zc) 81
  have B13:=Za (hb1.trans (hB3.mono hb1.size))
  obtain⟨n0,n1,_⟩:=Zg b3
  have c3:=Za ((B13.out.block w.heap.size (by have:=hsz'.out;have:=SZ.out;omega)).trans hbx'.out)
  have r3:=Za ((B13.out.block w1.heap.size (by have:=hsz'.out;have:=SZ.out;omega)).trans hrb'.out)
  have B3:=Za (hBw'.out.trans (B13.out.mono hBw'.out.size))
  have S3:=Za (Y4 (K':=KX) hS'.out (fun _ h=>h) B13.out)
  obtain⟨k0,k1,k2,k3,kf,_⟩:=Ze c3.out
  obtain⟨u0,u1,u2,u3,uf,_⟩:=Ze r3.out
  have hrow3:=Za ((hrow.below Z3 hB3).rel Z3)
  obtain⟨cs,ho,_⟩:=hrow.below Z3 hB3
  have HO:=Za ho
  clear ho
  have hz3:=Za (show w2.heap.size≤w3.heap.size from Nat.le_trans hsz'.out B13.out.size)
  replace hs3:=Za hs3
  replace b3:=Za b3
  clear hb1 hB3 hrow
  go_upto_region 4 with fail
  clear hw3
  by_cases he:lw=0∨1<nl
  ·obtain⟨w6,e6,z0,z1,z2,z3,-,-,-,-,-,hfin⟩:=Ul (K:=KX) (w:=w) (er:=0) (nn:=x) (by have:=SZ.out;omega) hX.out.2.1 r3.out B3.out S3.out
   have hfin:Hid (Zws K w g (.returned (.tuple #[.agg #[.slice pa.1 pa.2.1 pa.2.2,.slice pb.1 pb.2.1 pb.2.2,.slice pc.1 pc.2.1 pc.2.2,.slice pd.1 pd.2.1 pd.2.2],.int .i64 x,.int .i64 0])) w6):=Za (by
    rw[hgj.out,hEnd.out (by rw[hlw,hnl];exact he)]
    exact hfin.out.mono hX.out.2.2.1)
   replace hlw:=Za hlw
   replace hnl:=Za hnl
   by_cases h0:lw=0
   ·subst h0
    clear he
    go_wp2_with fail
    exact bodyPost_ret (v:=.tuple #[.agg #[.slice pa.1 pa.2.1 pa.2.2,.slice pb.1 pb.2.1 pb.2.2,.slice pc.1 pc.2.1 pc.2.2,.slice pd.1 pd.2.1 pd.2.2],.int .i64 x,.int .i64 0]) (by simp[results,Tryz.results27,go_sem,z0,z1,z2,z3]) rfl hfin.out
   ·have t0:(lw==0)=false:=by simpa using h0
    have t1:(1:Int)<(nl:Int):=by omega
    have t2:1<nl:=by omega
    clear he
    go_wp2_with fail
    exact bodyPost_ret (v:=.tuple #[.agg #[.slice pa.1 pa.2.1 pa.2.2,.slice pb.1 pb.2.1 pb.2.2,.slice pc.1 pc.2.1 pc.2.2,.slice pd.1 pd.2.1 pd.2.2],.int .i64 x,.int .i64 0]) (by simp[results,Tryz.results27,go_sem,z0,z1,z2,z3]) rfl hfin.out
  obtain⟨i,y,hij,hy,hways⟩:=hGo.out (by rw[hlw,hnl];exact he)
  have t0:(lw==0)=false:=by
   have:¬ lw=0:=fun h=>he (.inl h)
   simpa using this
  obtain rfl:nl=1:=by rw[← hnl,hy];rfl
  obtain⟨ad,E,ce,e0,_,⟨_,_,_,t3,_⟩,_⟩:=Zaj hrow3.out (show nd.2[0]? = some y by rw[hy];rfl)
  subst e0
  obtain⟨zb,C,rfl,_⟩:=Z9 HO.out
  replace HO:=Za HO
  have t3':w3.cell? ⟨zb,3,none⟩=some (.int .i64 y.2.1):=by simpa [Addr.add] using t3
  obtain⟨b,hb⟩:∃ b,y.2.1=b:=⟨_,rfl⟩
  rw[hb] at hways t3 t3'
  obtain⟨se,hse⟩:∃ q,shE S b=q:=⟨_,rfl⟩
  obtain⟨sv,hsv⟩:∃ q,shV S b=q:=⟨_,rfl⟩
  have HS:=Za (Znm _ S b w3 (Zcg S3.out))
  rw[hse,hsv] at HS hways
  replace hways:=Za hways
  replace hy:=Za hy
  replace hb:=Za hb
  replace hse:=Za hse
  replace hsv:=Za hsv
  replace hlw:=Za hlw
  replace hnl:=Za hnl
  replace he:=Za he
  replace hij:=Za hij
  clear u0 u1 u2 u3 uf
  go_upto_region 7 with fail
  go_wp2_with fail
  with_reducible refine(HS.out).mono ?_
  rintro e w4 ⟨ra,rb,rc,rd,rfl,hS4,hb4⟩
  have c4:=(hb4.block w.heap.size (by have:=SZ.out;have:=hz3.out;omega)).trans c3.out
  have r4:=Za ((hb4.block w1.heap.size (by have:=SZ.out;have:=hz3.out;omega)).trans r3.out)
  have n4:=(hb4.block W1.heap.size (by have:=hs3.out;omega)).trans b3.out
  obtain⟨v0,v1,v2,v3,vf,_⟩:=Ze c4
  obtain⟨w5,e5,y0,y1,y2,y3,yf,g5,B5,sz5,S5,-⟩:=Ul (K:=KX) (w:=w) (er:=0) (nn:=0) (Nat.le_refl _) hX.out.1 c4 (B3.out.trans (hb4.mono B3.out.size)) (Zff hS4 fun k h=>hX.out.2.2.2 k (Nat.le_trans hz3.out h))
  have r5:=Za ((B5.out.2.block w1.heap.size (by have:=SZ.out;have:=hz3.out;have:=hb4.size;omega) (fun e=>by have:=Option.some.inj e;have:=SZ.out;omega)).trans r4.out)
  have hz5:=Za (show w2.heap.size≤w5.heap.size from by rw[sz5.out];exact Nat.le_trans hz3.out hb4.size)
  clear hS4 hb4 c4 HS k0 k1 k2 k3 kf n0 n1 n4 t3 t3'
  go_upto_region 8 with fail
  clear v0 v1 v2 v3 vf e5
  by_cases hs0:se=0
  case neg =>
   have t1:(se != 0)=true:=by simpa using hs0
   obtain⟨u0,u1,u2,u3,uf,_⟩:=Ze r5.out
   obtain⟨w6,e6,z0,z1,z2,z3,-,-,-,-,-,hfin⟩:=Ul (K:=KX) (w:=w) (ra:=(none,0,0)) (rb:=(none,0,0)) (rc:=(none,0,0)) (rd:=(none,0,0)) (S:=Zh) (er:=se) (nn:=0) (by have:=SZ.out;omega) hX.out.2.1 r5.out B5.out.1 (Yk _ _)
   dsimp only at e6 z0 z1 z2 z3
   have hfin:Hid (Zws K w g (.returned (.tuple #[.agg #[.slice none 0 0,.slice none 0 0,.slice none 0 0,.slice none 0 0],.int .i64 0,.int .i64 se])) w6):=Za (by
    rcases hways.out with ⟨h1,h2⟩ | ⟨h1,_⟩ | ⟨h1,_⟩
    ·rw[hgj.out,h2,← h1]
     exact hfin.out.mono hX.out.2.2.1
    ·exact absurd h1 hs0
    ·exact absurd h1 hs0)
   go_wp2_with fail
   exact bodyPost_ret (v:=.tuple #[.agg #[.slice none 0 0,.slice none 0 0,.slice none 0 0,.slice none 0 0],.int .i64 0,.int .i64 se]) (by simp[results,Tryz.results27,go_sem,z0,z1,z2,z3]) rfl hfin.out
  subst hs0
  obtain⟨le,hle⟩:∃ q,lvE sv x=q:=⟨_,rfl⟩
  obtain⟨lv,hlv⟩:∃ q,lvV sv x=q:=⟨_,rfl⟩
  have HL:=Za (Zbr _ sv x w5 (Zcg S5.out))
  have hways2:Hid ((le=8∧Yp j S x=(8,Zh,0))∨(le=0∧Yp j S x=Yp i lv b∧Zsm s0 lv i b)):=Za (by
   rcases hways.out with ⟨h1,_⟩ | ⟨_,h2,h3⟩ | ⟨_,h2,h3,h4⟩
   ·exact absurd h1 (by decide)
   ·exact .inl ⟨hle ▸ h2,h3⟩
   ·exact .inr ⟨hle ▸ h2,hlv ▸ h3,hlv ▸ h4⟩)
  rw[hle,hlv] at HL
  replace hle:=Za hle
  replace hlv:=Za hlv
  go_upto_region 10 with fail
  go_wp2_with fail
  with_reducible refine(HL.out).mono ?_
  rintro e w6 ⟨ra',rb',rc',rd',rfl,hS6,hb6⟩
  have c6:=(hb6.block w.heap.size (by have:=SZ.out;have:=hz5.out;omega)).trans g5.out
  have r6:=Za ((hb6.block w1.heap.size (by have:=SZ.out;have:=hz5.out;omega)).trans r5.out)
  obtain⟨v0,v1,v2,v3,vf,_⟩:=Ze c6
  obtain⟨w7,e7,x0,x1,x2,x3,xf,g7,B7,sz7,S7,-⟩:=Ul (K:=KX) (w:=w) (er:=0) (nn:=0) (Nat.le_refl _) hX.out.1 c6 (B5.out.1.trans (hb6.mono B5.out.1.size)) (Zff hS6 fun k h=>hX.out.2.2.2 k (Nat.le_trans hz5.out h))
  have r7:=Za ((B7.out.2.block w1.heap.size (by have:=SZ.out;have:=hz5.out;have:=hb6.size;omega) (fun e=>by have:=Option.some.inj e;have:=SZ.out;omega)).trans r6.out)
  have hz7:=Za (show w2.heap.size≤w7.heap.size from by rw[sz7.out];exact Nat.le_trans hz5.out hb6.size)
  clear hS6 hb6 c6 HL y0 y1 y2 y3 yf
  go_upto_region 11 with fail
  clear v0 v1 v2 v3 vf e7
  by_cases hl0:le=0
  case neg =>
   have t1:(le != 0)=true:=by simpa using hl0
   obtain⟨u0,u1,u2,u3,uf,_⟩:=Ze r7.out
   obtain⟨w8,e8,z0,z1,z2,z3,-,-,-,-,-,hfin⟩:=Ul (K:=KX) (w:=w) (ra:=(none,0,0)) (rb:=(none,0,0)) (rc:=(none,0,0)) (rd:=(none,0,0)) (S:=Zh) (er:=le) (nn:=0) (by have:=SZ.out;omega) hX.out.2.1 r7.out B7.out.1 (Yk _ _)
   dsimp only at e8 z0 z1 z2 z3
   have hfin:Hid (Zws K w g (.returned (.tuple #[.agg #[.slice none 0 0,.slice none 0 0,.slice none 0 0,.slice none 0 0],.int .i64 0,.int .i64 le])) w8):=Za (by
    rcases hways2.out with ⟨h1,h2⟩ | ⟨h1,_⟩
    ·rw[hgj.out,h2,← h1]
     exact hfin.out.mono hX.out.2.2.1
    ·exact absurd h1 hl0)
   go_wp2_with fail
   exact bodyPost_ret (v:=.tuple #[.agg #[.slice none 0 0,.slice none 0 0,.slice none 0 0,.slice none 0 0],.int .i64 0,.int .i64 le]) (by simp[results,Tryz.results27,go_sem,z0,z1,z2,z3]) rfl hfin.out
  subst hl0
  have hnew:Hid (LwJ K s0 w w1 w2 g (.int .i64 b) w7 i):=Za (by
   rcases hways2.out with ⟨h1,_⟩ | ⟨_,h2,h3⟩
   ·exact absurd h1 (by decide)
   ·exact⟨lv,b,ra',rb',rc',rd',rfl,by rw[hgj.out,h2],h3,B7.out.1,hz7.out,g7.out,by rw[← hKX.out];exact S7.out,r7.out⟩)
  go_wp2_with fail
  go_roundw
  case rel=>exact⟨i,hnew.out⟩
  case measure=>exact Nat.lt_of_le_of_lt (Zv6 hnew.out) (by rw[hj.out,hij.out];exact Nat.lt_succ_self _)
theorem Zjw (v:Value) (s:Rm) (a:Int) (key:Ky) (w:World) (h:Sto (Old w) w v s) :
  Calls Tryz.prog 20 #[v,.int .i64 a,kyV key] w fun e w'=>∃ P pc,e=.returned (.tuple #[itV (fdV s a key) (.slice P (fdV s a key).2.2.length pc),.int .i64 (fdE s a key)])∧Itm (New w.heap.size w') w' (itV (fdV s a key) (.slice P (fdV s a key).2.2.length pc)) (fdV s a key)∧Below w.heap.size w w':=by
 refine(Zlc v s a key w h).mono ?_
 rintro e w' ⟨u,rfl,hu,hb⟩
 obtain⟨P,pc,rfl,_⟩:=id hu.open
 exact⟨P,pc,rfl,hu,hb⟩
def Z4p (s:Rm) (a:Int) (k:Ky) (w:World) (e:Ending) (w':World):Prop:=∃ qa qb qc qd:Option Addr×Nat×Nat,e=.returned (.tuple #[.agg #[.slice qa.1 qa.2.1 qa.2.2,.slice qb.1 qb.2.1 qb.2.2,.slice qc.1 qc.2.1 qc.2.2,.slice qd.1 qd.2.1 qd.2.2],.int .i64 (Zm5 s a k).2.2,.int .i64 (Zm5 s a k).1]) ∧
 Sto (New w.heap.size w') w' (.agg #[.slice qa.1 qa.2.1 qa.2.2,.slice qb.1 qb.2.1 qb.2.2,.slice qc.1 qc.2.1 qc.2.2,.slice qd.1 qd.2.1 qd.2.2]) (Zm5 s a k).2.1∧Below w.heap.size w w'
theorem Zr1 (qa qb qc qd:Option Addr×Nat×Nat) (s:Rm) (a:Int) (k:Ky) (w:World) (h:Sto (Old w) w (.agg #[.slice qa.1 qa.2.1 qa.2.2,.slice qb.1 qb.2.1 qb.2.2,.slice qc.1 qc.2.1 qc.2.2,.slice qd.1 qd.2.1 qd.2.2]) s) :
  Calls Tryz.prog 11 #[.agg #[.slice qa.1 qa.2.1 qa.2.2,.slice qb.1 qb.2.1 qb.2.2,.slice qc.1 qc.2.1 qc.2.2,.slice qd.1 qd.2.1 qd.2.2],.int .i64 a,kyV k] w (Z4p s a k w):=by
 obtain⟨w1,hw1,b1,hs1,hB1⟩:=Xt w (.slice qa.1 qa.2.1 qa.2.2) (.slice qb.1 qb.2.1 qb.2.2) (.slice qc.1 qc.2.1 qc.2.2) (.slice qd.1 qd.2.1 qd.2.2) 29
 obtain⟨w2,hw2,-,-,-,hs2,hB2,b2⟩:=Yw w1 (.int .u8 (k.1.toNat:Int)) (.int .u32 k.2.1) (.int .u32 k.2.2) 37
 obtain⟨w3,hw3,b3,hs3,hB3⟩:=Xt w2 (.slice none 0 0) (.slice none 0 0) (.slice none 0 0) (.slice none 0 0) 29
 have hB12:=hB1.trans (hB2.mono hB1.size)
 have hB13:=hB12.trans (hB3.mono hB12.size)
 have B3:=Za hB13
 have SZ:=Za (show w1.heap.size=w.heap.size+1∧w2.heap.size=w.heap.size+2∧w3.heap.size=w.heap.size+3 from by omega)
 have G1:=Za ((hB3.block w.heap.size (by omega)).trans ((hB2.block w.heap.size (by omega)).trans b1))
 have G2:=Za ((hB3.block w1.heap.size (by omega)).trans b2)
 have hS0:=Za h
 have HS:=Za (fun W (hW:Below w3.heap.size w3 W)=>h.below (hB13.trans (hW.mono hB13.size)))
 have KC:=Za (fun W (hW:Below w3.heap.size w3 W)=>And.intro ((hW.block w.heap.size (by omega)).trans G1.out) (And.intro ((hW.block w1.heap.size (by omega)).trans G2.out) ((hW.block w2.heap.size (by omega)).trans b3)))
 obtain⟨D,hD⟩:∃ D,Zm5 s a k=D:=⟨_,rfl⟩
 have hzero:Hid (∀ (er:Int) (W:World) (v0 v1 v2 v3:Value),W.heap[w2.heap.size]? = some (.cells #[v0,v1,v2,v3] 29 (0,0))→Below w.heap.size w W→D=(er,Zh,0) →
   ∃ W9,(((W.setCell ⟨w2.heap.size,0,none⟩ (.slice none 0 0)).setCell ⟨w2.heap.size,1,none⟩ (.slice none 0 0)).setCell ⟨w2.heap.size,2,none⟩ (.slice none 0 0)).setCell ⟨w2.heap.size,3,none⟩ (.slice none 0 0)=W9 ∧
   W9.cell? ⟨w2.heap.size,0,none⟩=some (.slice none 0 0)∧W9.cell? ⟨w2.heap.size,1,none⟩=some (.slice none 0 0)∧W9.cell? ⟨w2.heap.size,2,none⟩=some (.slice none 0 0)∧W9.cell? ⟨w2.heap.size,3,none⟩=some (.slice none 0 0) ∧
   Z4p s a k w (.returned (.tuple #[.agg #[.slice none 0 0,.slice none 0 0,.slice none 0 0,.slice none 0 0],.int .i64 0,.int .i64 er])) W9):=Za fun er W v0 v1 v2 v3 bW hW he=>by
  obtain⟨W9,e9,g9,gr9,_⟩:=Zs (a':=.slice none 0 0) (b':=.slice none 0 0) (c':=.slice none 0 0) (d':=.slice none 0 0) bW
  obtain⟨k0,k1,k2,k3,_⟩:=Ze g9
  exact⟨W9,e9,k0,k1,k2,k3,(none,0,0),(none,0,0),(none,0,0),(none,0,0),by rw[hD,he],by rw[hD,he];exact Yk _ _,hW.grown gr9 hW.size (fun q e=>by cases e;omega)⟩
 have hC3:=KC.out w3 (Below.refl _ _)
 obtain⟨k0,k1,k2,k3,_⟩:=Ze hC3.1
 obtain⟨n0,n1,n2,_⟩:=Zk hC3.2.1
 replace hs1:=Za hs1
 replace hs2:=Za hs2
 replace hs3:=Za hs3
 have hFd:=Za (Zjw (.agg #[.slice qa.1 qa.2.1 qa.2.2,.slice qb.1 qb.2.1 qb.2.2,.slice qc.1 qc.2.1 qc.2.2,.slice qd.1 qd.2.1 qd.2.2]) s a k w3 (HS.out w3 (Below.refl _ _)))
 have hfd:Hid ((fdE s a k≠0→D=(fdE s a k,Zh,0))∧(fdE s a k=0→X2 s a=true∧asE s a=0∧D=Zwr s a k∧∃ x,Zdl s (rmV s a).1.toNat a k=some x)):=Za (by
  rw[← hD]
  by_cases hc:ckE s a=0
  ·cases hx:Zm3 s a k with
   | none =>
    have h6:=(Zwb hc hx).1
    refine⟨fun _ => ?_,fun h=>by rw[h6] at h;cases h⟩
    rw[h6]
    unfold Zm5
    rw[if_neg (fun h=>h hc),hx]
    rfl
   | some x =>
    have h6:=(Zuo hc hx).1
    obtain⟨h1,h2,h3⟩:=Znj hc
    exact⟨fun h=>absurd h6 h,fun _=>⟨h1,h2,Zg8 hc hx,x,hx⟩⟩
  ·have h6:=(Zz2 (k:=k) hc).1
   refine⟨fun _ => ?_,fun h=>absurd (h6.symm.trans h) hc⟩
   rw[h6]
   unfold Zm5
   rw[if_pos hc])
 obtain⟨fe,hfe⟩:∃ q,fdE s a k=q:=⟨_,rfl⟩
 obtain⟨fv,hfv⟩:∃ q,fdV s a k=q:=⟨_,rfl⟩
 rw[hfe,hfv] at hFd
 rw[hfe] at hfd
 replace hfe:=Za hfe
 replace hfv:=Za hfv
 replace hD:=Za hD
 clear h hB1 hB2 hB3 hB12 hB13 b1 b2 b3 hC3
 have hFd':=hFd.out
 unfold kyV itV at hFd'
 replace hFd':=Za hFd'
 unfold kyV
 go_enter Tryz.func11,Tryz.ntmps11
 go_upto_region 1 with fail
 clear hw1 hw2 hw3
 go_wp2_with fail
 with_reducible refine hFd'.out.mono ?_
 rintro e w4 ⟨P,pc,rfl,-,hb4⟩
 clear k0 k1 k2 k3 n0 n1 n2 hFd hFd'
 obtain⟨w5,hw5,-,-,-,-,-,hs5,hB5,b5⟩:=Z8 w4 (.int .u8 (fv.1.1.toNat:Int)) (.int .u32 fv.1.2.1) (.int .u32 fv.1.2.2) (.int .i64 fv.2.1) (.slice P fv.2.2.length pc) 54
 have B5:=Za (hb4.trans (hB5.mono hb4.size))
 replace hs5:=Za hs5
 clear hb4 hB5 b5
 obtain⟨c5a,c5b,c5c⟩:=KC.out w5 B5.out
 obtain⟨k0,k1,k2,k3,_⟩:=Ze c5a
 obtain⟨n0,n1,n2,_⟩:=Zk c5b
 obtain⟨u0,u1,u2,u3,uf,_⟩:=Ze c5c
 go_upto_region 2 with fail
 clear hw5
 by_cases hk:fe=0
 case neg =>
  have t0:(fe != 0)=true:=by simpa using hk
  obtain⟨W9,e9,y0,y1,y2,y3,hfin⟩:=hzero.out fe w5 _ _ _ _ c5c (B3.out.trans (B5.out.mono B3.out.size)) (hfd.out.1 hk)
  replace hfin:=Za hfin
  go_wp2_with fail
  exact bodyPost_ret (v:=.tuple #[.agg #[.slice none 0 0,.slice none 0 0,.slice none 0 0,.slice none 0 0],.int .i64 0,.int .i64 fe]) (by simp[results,Tryz.results11,go_sem,y0,y1,y2,y3]) rfl hfin.out
 subst hk
 obtain⟨htr,has,hDo,x,hx⟩:=hfd.out.2 rfl
 obtain⟨-,-,-,l0,l6,-⟩:=Uh htr
 have hT:=Za (Zdn htr)
 have hO:=Za (Z3e (k:=k) htr)
 obtain⟨lv,hlv⟩:∃ lv,(rmV s a).1.toNat=lv:=⟨_,rfl⟩
 rw[hlv] at hT hx hO
 have lv6:lv<6:=by omega
 have hway:=Zqt qa qb qc qd s a lv lv6 k x hx w5 (HS.out w5 B5.out) hT.out
 unfold kyV at hway
 have hway':=Za hway
 replace hlv:=Za hlv
 replace hx:=Za hx
 replace hDo:=Za hDo
 clear hway l0 l6 htr has c5a c5b
 have C5:=Za c5c
 clear c5c
 go_upto_region 4 with fail
 go_wp2_with fail
 with_reducible refine hway'.out.mono ?_
 rintro e w6 ⟨A,c,l,rfl,hll,hW,hb6⟩
 clear k0 k1 k2 k3 n0 n1 n2 u0 u1 u2 u3 uf hway'
 have B6:=Za (B5.out.trans (hb6.mono B5.out.size))
 obtain⟨m,hm⟩:∃ q,l.length=q:=⟨_,rfl⟩
 have hW':=Za hW
 have hB56:=Za hb6
 rw[hm]
 have hml:m=lv+1:=by omega
 have hshr:=Za (Zj6 w.heap.size w5.heap.size (by have:=B3.out.size;have:=B5.out.size;omega) qa qb qc qd s k a lv lv6 hT.out x hx.out A m c l w6 hb6.size
  (hS0.out.map fun p v hp hc=>⟨hp,((B3.out.trans (B6.out.mono B3.out.size)).cell hp).trans hc⟩) (by have:=hW.row;rw[hm] at this;exact this) hm hml hW.rows hW.off hW.are)
 replace hm:=Za hm
 replace hml:=Za hml
 clear hW hb6 hll
 obtain⟨c6a,c6b,c6c⟩:=KC.out w6 B6.out
 obtain⟨k0,k1,k2,k3,_⟩:=Ze c6a
 have C6:=Za c6c
 clear c6a c6b c6c
 obtain⟨⟨ge,gs,gn⟩,hG⟩:∃ G,Z1o s a lv k=G:=⟨_,rfl⟩
 unfold Z49 at hshr
 rw[hG] at hshr hO
 dsimp only at hshr
 replace hG:=Za hG
 go_upto_region 7 with fail
 go_wp2_with fail
 with_reducible refine hshr.out.mono ?_
 rintro e w7 ⟨pa,pb,pc',pd,rfl,hS7,hb7⟩
 clear k0 k1 k2 k3 hshr
 have hlt:w3.heap.size≤w5.heap.size:=B5.out.size
 have hlt6:w5.heap.size≤w6.heap.size:=hB56.out.size
 have hc7:=(hb7.block w2.heap.size (by have:=SZ.out;omega)).trans C6.out
 have hBw6:Below w.heap.size w w6:=B3.out.trans (B6.out.mono B3.out.size)
 have hBw7:Below w.heap.size w w7:=hBw6.trans (hb7.mono (by have:=SZ.out;omega))
 have hnK:Hid (¬ (fun k=>k<w.heap.size∨w3.heap.size≤k) w2.heap.size):=Za (fun h=>by have:=SZ.out;rcases h with h | h <;> omega)
 obtain⟨u0,u1,u2,u3,uf,_⟩:=Ze hc7
 obtain⟨w8,e8,y0,y1,y2,y3,yf,g8,B8,sz8,S8,-⟩:=Ul (K:=fun k=>k<w.heap.size∨w3.heap.size≤k) (w:=w) (er:=0) (nn:=0) (by have:=SZ.out;omega) hnK.out hc7 hBw7 (Y4 hS7 (fun k h=>h.imp id (fun h=>by omega)) (Below.refl _ _))
 have hlt7:w3.heap.size≤w8.heap.size:=by rw[sz8.out];have:=hb7.size;omega
 clear hS7 hb7 hc7 hBw6 hBw7
 go_upto_region 8 with fail
 clear u0 u1 u2 u3 uf e8
 by_cases hge:ge=0
 case neg =>
  have t0:(ge != 0)=true:=by simpa using hge
  obtain⟨W9,e9,y0,y1,y2,y3,hfin⟩:=hzero.out ge w8 _ _ _ _ g8.out B8.out.1 (by rw[hDo.out];exact hO.out.bad hge)
  replace hfin:=Za hfin
  go_wp2_with fail
  exact bodyPost_ret (v:=.tuple #[.agg #[.slice none 0 0,.slice none 0 0,.slice none 0 0,.slice none 0 0],.int .i64 0,.int .i64 ge]) (by simp[results,Tryz.results11,go_sem,y0,y1,y2,y3]) rfl hfin.out
 subst hge
 obtain⟨l',hlow,hO1,hO2⟩:=hO.out.good rfl
 dsimp only at hlow hO1 hO2
 have hlw:=Za (Zk9 (fun k=>k<w.heap.size∨w3.heap.size≤k) pa pb pc' pd s gs l' gn hlow w8 (fun k h=>.inr (by omega)) S8.out)
 obtain⟨⟨le,ls,ln⟩,hLo⟩:∃ G,Yp l' gs gn=G:=⟨_,rfl⟩
 unfold Zws at hlw
 rw[hLo] at hlw hO1 hO2
 dsimp only at hlw hO1 hO2
 replace hLo:=Za hLo
 replace hO1:=Za hO1
 replace hO2:=Za hO2
 clear hlow
 go_upto_region 10 with fail
 go_wp2_with fail
 with_reducible refine hlw.out.mono ?_
 rintro e w9 ⟨ra,rb,rc,rd,rfl,hS9,hb9⟩
 have hlt8:=(Array.getElem?_eq_some_iff.1 g8.out).1
 have hc9:=(hb9.block w2.heap.size hlt8).trans g8.out
 obtain⟨u0,u1,u2,u3,uf,_⟩:=Ze hc9
 obtain⟨w10,e10,x0,x1,x2,x3,xf,g10,B10,sz10,S10,-⟩:=Ul (K:=fun k=>k<w.heap.size∨w3.heap.size≤k) (w:=w) (er:=0) (nn:=0) (by have:=SZ.out;omega) hnK.out hc9 (B8.out.1.trans (hb9.mono B8.out.1.size)) hS9
 clear hS9 hb9 hc9 hlw y0 y1 y2 y3 yf
 go_upto_region 11 with fail
 clear u0 u1 u2 u3 uf e10
 by_cases hle:le=0
 case neg =>
  have t0:(le != 0)=true:=by simpa using hle
  obtain⟨W9,e9,y0,y1,y2,y3,hfin⟩:=hzero.out le w10 _ _ _ _ g10.out B10.out.1 (by rw[hDo.out];exact hO1.out hle)
  replace hfin:=Za hfin
  go_wp2_with fail
  exact bodyPost_ret (v:=.tuple #[.agg #[.slice none 0 0,.slice none 0 0,.slice none 0 0,.slice none 0 0],.int .i64 0,.int .i64 le]) (by simp[results,Tryz.results11,go_sem,y0,y1,y2,y3]) rfl hfin.out
 subst hle
 have hlv2:=Za (Zbr _ ls a w10 (Zcg S10.out))
 have hO3:=Za (hO2.out rfl)
 obtain⟨ve,hve⟩:∃ q,lvE ls a=q:=⟨_,rfl⟩
 obtain⟨vv,hvv⟩:∃ q,lvV ls a=q:=⟨_,rfl⟩
 rw[hve,hvv] at hlv2 hO3
 replace hve:=Za hve
 replace hvv:=Za hvv
 go_upto_region 13 with fail
 go_wp2_with fail
 with_reducible refine hlv2.out.mono ?_
 rintro e w11 ⟨va,vb,vc,vd,rfl,hS11,hb11⟩
 have hlt10:=Za (Array.getElem?_eq_some_iff.1 g10.out).1
 have hc11:=(hb11.block w2.heap.size hlt10.out).trans g10.out
 obtain⟨u0,u1,u2,u3,uf,_⟩:=Ze hc11
 obtain⟨w12,e12,g12,gr12,gs12⟩:=Zs (a':=.slice va.1 va.2.1 va.2.2) (b':=.slice vb.1 vb.2.1 vb.2.2) (c':=.slice vc.1 vc.2.1 vc.2.2) (d':=.slice vd.1 vd.2.1 vd.2.2) hc11
 have B12:=Za ((B10.out.1.trans (hb11.mono B10.out.1.size)).grown gr12 (B10.out.1.trans (hb11.mono B10.out.1.size)).size (fun q e=>by cases e;have:=SZ.out;omega))
 have S12:=Za (hS11.grown gr12 (fun q e=>by cases e;exact hlt10.out))
 have G12:=Za g12
 obtain⟨y0,y1,y2,y3,yf,_⟩:=Ze g12
 clear hS11 hb11 hc11 hlv2 x0 x1 x2 x3 xf g12 gr12 gs12
 go_upto_region 14 with fail
 clear u0 u1 u2 u3 uf e12
 by_cases hve0:ve=0
 case neg =>
  clear y0 y1 y2 y3
  obtain⟨u0,u1,u2,u3,_⟩:=Ze G12.out
  have t0:(ve != 0)=true:=by simpa using hve0
  obtain⟨W9,e9,y0,y1,y2,y3,hfin⟩:=hzero.out ve w12 _ _ _ _ G12.out B12.out (by rw[hDo.out];exact hO3.out.1 hve0)
  replace hfin:=Za hfin
  go_wp2_with fail
  exact bodyPost_ret (v:=.tuple #[.agg #[.slice none 0 0,.slice none 0 0,.slice none 0 0,.slice none 0 0],.int .i64 0,.int .i64 ve]) (by simp[results,Tryz.results11,go_sem,y0,y1,y2,y3]) rfl hfin.out
 subst hve0
 obtain⟨W9,hW9,g13,gr13,gs13⟩:=Zs (a':=.slice va.1 va.2.1 va.2.2) (b':=.slice vb.1 vb.2.1 vb.2.2) (c':=.slice vc.1 vc.2.1 vc.2.2) (d':=.slice vd.1 vd.2.1 vd.2.2) G12.out
 obtain⟨z0,z1,z2,z3,_,_⟩:=Ze g13
 have hfin:Hid (Z4p s a k w (.returned (.tuple #[.agg #[.slice va.1 va.2.1 va.2.2,.slice vb.1 vb.2.1 vb.2.2,.slice vc.1 vc.2.1 vc.2.2,.slice vd.1 vd.2.1 vd.2.2],.int .i64 ln,.int .i64 0])) W9):=Za (by
  have hp:Zm5 s a k=(0,vv,ln):=by rw[hD.out,hDo.out];exact hO3.out.2 rfl
  exact⟨va,vb,vc,vd,by rw[hp],by rw[hp];exact(S12.out.grown gr13 (fun q e=>by cases e;exact hlt10.out)).new B10.out.1.size (Below.refl _ _),B12.out.grown gr13 B12.out.size (fun q e=>by cases e;have:=SZ.out;omega)⟩)
 replace g13:=Za g13
 clear gr13 gs13
 go_wp2_with fail
 exact bodyPost_ret (v:=.tuple #[.agg #[.slice va.1 va.2.1 va.2.2,.slice vb.1 vb.2.1 vb.2.2,.slice vc.1 vc.2.1 vc.2.2,.slice vd.1 vd.2.1 vd.2.2],.int .i64 ln,.int .i64 0]) (by simp[results,Tryz.results11,go_sem,z0,z1,z2,z3]) rfl hfin.out
theorem Zdz {s T:Rm} {a z er:Int} {k:Ky} (hd:Zm5 s a k=(er,T,z)) (qa qb qc qd:Option Addr×Nat×Nat) (w:World) (h:Sto (Old w) w (.agg #[.slice qa.1 qa.2.1 qa.2.2,.slice qb.1 qb.2.1 qb.2.2,.slice qc.1 qc.2.1 qc.2.2,.slice qd.1 qd.2.1 qd.2.2]) s) :
  Calls Tryz.prog 11 #[.agg #[.slice qa.1 qa.2.1 qa.2.2,.slice qb.1 qb.2.1 qb.2.2,.slice qc.1 qc.2.1 qc.2.2,.slice qd.1 qd.2.1 qd.2.2],.int .i64 a,kyV k] w fun e w'=>∃ qa qb qc qd:Option Addr×Nat×Nat,e=.returned (.tuple #[.agg #[.slice qa.1 qa.2.1 qa.2.2,.slice qb.1 qb.2.1 qb.2.2,.slice qc.1 qc.2.1 qc.2.2,.slice qd.1 qd.2.1 qd.2.2],.int .i64 z,.int .i64 er])∧Sto (New w.heap.size w') w' (.agg #[.slice qa.1 qa.2.1 qa.2.2,.slice qb.1 qb.2.1 qb.2.2,.slice qc.1 qc.2.1 qc.2.2,.slice qd.1 qd.2.1 qd.2.2]) T∧Below w.heap.size w w':=by
 refine(Zr1 qa qb qc qd s a k w h).mono ?_
 unfold Z4p
 rw[hd]
 exact fun _ _ h=>h
theorem Z1e (w:World):Calls Tryz.prog 9 #[] w fun e w'=>e=.returned (.bool true)∧Below w.heap.size w w':=by
 obtain⟨T,hD,hE,hH,hA⟩:=Z1m
 have hG:=Za (fun W=>Zsl W)
 obtain⟨S,hS⟩:∃ S,(gS 6).1=S:=⟨_,rfl⟩
 rw[hS] at hG hD
 replace hS:=Za hS
 have hmT:Hid (Zx0 T):=Za (Ztr (by
  obtain⟨_,_,hm,_⟩:=Xi (Znj hE).2.1
  exact hm))
 have hDl:=Za (fun qa qb qc qd W (h:Sto (Old W) W _ S)=>Zdz hD qa qb qc qd W h)
 have hCk:Hid (∀ v W,Sto (Old W) W v T→Calls Tryz.prog 18 #[v,.int .i64 9] W fun e w'=>e=.returned (.tuple #[.int .i64 1,.int .i64 0])∧Below W.heap.size W w'):=Za fun v W hW=>by
  have:=Uu v T 9 W hW
  rw[hE,hH] at this
  exact this
 have hAl:=Za (fun qa qb qc qd W (h:Sto (Old W) W _ T)=>Zqb qa qb qc qd T 9 W h)
 rw[hA] at hAl
 obtain⟨RL,hRL⟩:∃ RL,raV T 9 Za0 Zqy=RL:=⟨_,rfl⟩
 rw[hRL] at hAl
 replace hRL:=Za hRL
 clear hE hH hA hD
 go_enter Tryz.func9,Tryz.ntmps9
 go_upto_region 1 with fail
 go_wp2_with fail
 with_reducible refine(hG.out _).mono ?_
 rintro e w1 ⟨qa,qb,qc,qd,rfl,h1,hb1⟩
 obtain⟨w2,hw2,b2,hs2,hB2⟩:=Xt w1 (.slice qa.1 qa.2.1 qa.2.2) (.slice qb.1 qb.2.1 qb.2.2) (.slice qc.1 qc.2.1 qc.2.2) (.slice qd.1 qd.2.1 qd.2.2) 29
 have K2:=Za (fun W (hW:Below w2.heap.size w2 W)=>And.intro (Ze ((hW.block w1.heap.size (by omega)).trans b2)) (h1.below (hB2.trans (hW.mono hB2.size))))
 have B2:=Za (hb1.trans (hB2.mono hb1.size))
 replace hs2:=Za hs2
 clear h1 hb1 hB2 hG b2
 go_upto_region 2 with fail
 clear hw2
 refine Xf (ops' := ?opsLate) (by kernel_rfl) [(9,6),(9,7),(10,7)] ?he (by kernel_rfl) (fun d _ _ _ _ h=>by cases d <;> exact h) 9 (fun W=>Below w2.heap.size w2 W) (fun i=>match i with
   | 3=>some (PhK (fun k=>w2.heap.size≤k) (9) (0) T)
   | 4=>some (PhK (fun k=>w2.heap.size≤k) (9) (0) T)
   | 5=>some (Z3g (fun k=>w2.heap.size≤k) T)
   | 8=>some (fun v W=>∃ g,v=.pointer (some ⟨g,0,none⟩)∧w2.heap.size≤g∧W.heap[g]? = some (.cells #[.slice none 0 0,.slice none 0 0,.slice none 0 0,.slice none 0 0] 29 (0,0)))
   | _=>none) (fun i=>match i with
   | 2=>some (.agg #[.int .u8 2,.int .u32 0,.int .u32 1])
   | 6=>some (.int .i64 (9))
   | 7=>some (.int .i64 (0))
   | _=>none) ?h1 ?h2 ?h3 (Below.refl _ _).drew (fun w w' h hb=>h.trans (hb.mono h.size)) ?tst ?_
 case he =>
  simp[Z4]
  rfl
 case h1=>decide
 case h2=>kernel_rfl
 case h3=>kernel_rfl
 case tst =>
  intro j φ x W W' hp hx hb
  match j,hp with
  | 3,hp=>cases hp;obtain⟨va,vb,vc,vd,e,h⟩:=hx;exact⟨va,vb,vc,vd,e,Y4 h (fun _ h=>h) hb⟩
  | 4,hp=>cases hp;obtain⟨va,vb,vc,vd,e,h⟩:=hx;exact⟨va,vb,vc,vd,e,Y4 h (fun _ h=>h) hb⟩
  | 5,hp=>cases hp;obtain⟨va,vb,vc,vd,e,h⟩:=hx;exact⟨va,vb,vc,vd,e,Y4 h (fun _ h=>h) hb⟩
  | 8,hp=>cases hp;obtain⟨g,e,h1,h2⟩:=hx;exact⟨g,e,h1,(hb.block g (Array.getElem?_eq_some_iff.1 h2).1).trans h2⟩
 simp only[List.take_succ_cons,List.take_zero,List.drop_succ_cons,List.drop_zero]
 repeat (first
  | (refine wpAs_skip rfl ?_;simp only[Act.put,Zb,Zc,Zd])
  | (refine wpAs_pure (v := ?_) rfl rfl ?_ ?_;rotate_left;(intro W hC hE;clear hE;(obtain⟨⟨k0,k1,k2,k3,_⟩,_⟩:=K2.out W hC);clear hC;go_simp;first | done | with_reducible rfl);simp only[Act.put,Zb,Zc,Zd]))
 refine wpAs_fixed rfl rfl rfl ?_ ?_
 ·intro W hC hE
  refine does_enter (f:=12) (args:=#[.int .u32 1]) ?_ ?_
  ·go_simp
  ·refine(Zec 1 W).mono ?_
   (rintro e W' ⟨rfl,hg⟩)
   exact⟨_,rfl,rfl,hg⟩
 simp only[Act.put,Zb,Zc,Zd]
 refine wpAs_act rfl rfl ?_ ?_
 ·intro W hC hE
  clear hE
  refine does_enter (f:=11) (args:=#[.agg #[.slice qa.1 qa.2.1 qa.2.2,.slice qb.1 qb.2.1 qb.2.2,.slice qc.1 qc.2.1 qc.2.2,.slice qd.1 qd.2.1 qd.2.2],.int .i64 (11),.agg #[.int .u8 2,.int .u32 0,.int .u32 1]]) ?_ ?_
  ·obtain⟨⟨k0,k1,k2,k3,_⟩,_⟩:=K2.out W hC
   go_simp
  ·refine((fun W hC=>hDl.out qa qb qc qd W (K2.out W hC).2) W hC).mono ?_
   rintro e W' ⟨va,vb,vc,vd,rfl,h1,hb⟩
   exact⟨_,rfl,⟨va,vb,vc,vd,rfl,Zff h1 (fun k h=>Nat.le_trans hC.size h)⟩,hb⟩
 simp only[Act.put,Zb,Zc,Zd,envAdd]
 intro x3
 refine wpAs_act rfl rfl ?_ ?_
 ·intro W hC hE
  have h7:=hE.1 rfl
  clear hE hC
  go_simp
  exact⟨h7,Below.refl _ _⟩
 simp only[Act.put,Zb,Zc,Zd,envAdd]
 intro x4
 refine wpAs_act rfl rfl ?_ ?_
 ·intro W hC hE
  obtain⟨va,vb,vc,vd,rfl,hz⟩:=hE.1 rfl
  have hz':=Za hz
  clear hE hz hC
  go_simp
  exact⟨⟨va,vb,vc,vd,rfl,hz'.out⟩,Below.refl _ _⟩
 simp only[Act.put,Zb,Zc,Zd,envAdd]
 intro x5
 refine wpAs_fixed rfl rfl rfl ?_ ?_
 ·intro W hC hE
  obtain⟨va,vb,vc,vd,rfl,hz⟩:=hE.2.1 rfl
  clear hE hz hC
  go_simp
  exact⟨rfl,Below.refl _ _⟩
 simp only[Act.put,Zb,Zc,Zd]
 refine wpAs_fixed rfl rfl rfl ?_ ?_
 ·intro W hC hE
  obtain⟨va,vb,vc,vd,rfl,hz⟩:=hE.2.1 rfl
  clear hE hz hC
  go_simp
  exact⟨rfl,Below.refl _ _⟩
 simp only[Act.put,Zb,Zc,Zd]
 refine wpAs_act rfl rfl ?_ ?_
 ·intro W hC hE
  have hs:=hC.size
  clear hE hC
  go_simp
  exact⟨⟨W.heap.size,rfl,hs,heap_alloc_new _ _⟩,(Below.refl _ _).alloc (Nat.le_refl _) _⟩
 simp only[Act.put,Zb,Zc,Zd,envAdd]
 intro x8
 refine wpAs_end fun W hC hE => ?_
 obtain⟨⟨g,rfl,hg,hz⟩,⟨pa,pb,pc,pd,rfl,hs⟩,_⟩:=hE
 obtain⟨u0,u1,u2,u3,uf,_⟩:=Ze hz
 obtain⟨w4,hW4,g4,gr4,gs4⟩:=Zs (a':=.slice pa.1 pa.2.1 pa.2.2) (b':=.slice pb.1 pb.2.1 pb.2.2) (c':=.slice pc.1 pc.2.1 pc.2.2) (d':=.slice pd.1 pd.2.1 pd.2.2) hz
 have hs4:=Zfo (Zcg hs) hmT.out hz (by simp) gr4
 have hb4:=hC.grown gr4 hC.size (fun q e=>by cases e;exact hg)
 have K4:=Za (fun W (hW:Below w4.heap.size w4 W)=>And.intro (Ze ((hW.block g (Array.getElem?_eq_some_iff.1 g4).1).trans g4)) (hs4.below hW))
 have B4:=Za (B2.out.trans (hb4.mono B2.out.size))
 replace hz:=Za hz
 clear hC hs gr4 gs4 hs4 hb4 g4 hg
 go_upto_region 3 with fail
 clear hW4 u0 u1 u2 u3 uf
 obtain⟨⟨k0,k1,k2,k3,_⟩,_⟩:=K4.out w4 (Below.refl _ _)
 go_wp2_with fail
 with_reducible refine(hCk.out _ _ (K4.out w4 (Below.refl _ _)).2).mono ?_
 rintro e w5 ⟨rfl,hb5⟩
 have B5:=Za (B4.out.trans (hb5.mono B4.out.size))
 have hAll:=Za (hAl.out pa pb pc pd w5 (K4.out w5 hb5).2)
 clear k0 k1 k2 k3
 obtain⟨⟨k0,k1,k2,k3,_⟩,_⟩:=K4.out w5 hb5
 clear hb5
 go_upto_region 4 with fail
 go_wp2_with fail
 with_reducible refine(hAll.out).mono ?_
 rintro e w6 ⟨u,c,rfl,_,hb6⟩
 have B6:=Za (B5.out.trans (hb6.mono B5.out.size))
 clear hb6 k0 k1 k2 k3
 go_wp2_with fail
 go_ret
 exact⟨rfl,B6.out⟩
end Go.Proofs.YtgmbjnajdfgenaaGreat
