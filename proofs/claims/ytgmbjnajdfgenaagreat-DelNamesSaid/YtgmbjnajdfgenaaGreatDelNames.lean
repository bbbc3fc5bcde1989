/-
  DelNames answers true. No condition.
-/
import Derived.Test.YtgmbjnajdfgenaaGreatBnd6
namespace Go.Proofs.YtgmbjnajdfgenaaGreat.delNames
open Go.ChangeShapes Go.WideShapes Go.RowKit

theorem own : ownKnob Tryz.prog.godebug = none := by kernel_rfl
theorem laidOut : laidOutB Tryz.prog = true := by kernel_rfl

set_option maxRecDepth 100000 in
set_option maxHeartbeats 8000000 in
theorem walk (w : World) : Calls Tryz.prog 3 #[] w fun e w' => e = .returned (.bool true) ∧ Below w.heap.size w w' := by
  obtain ⟨T, hD, hD2, hD3, hA, hT⟩ := Z1w
  have g1 : (gS 1).2 = 9 := (Zn6 1 (by omega)).2
  have hG1 := Za (fun W => (g1 ▸ Zmr 1 (by omega) W : Calls Tryz.prog 10 #[.int .u32 1] W (Z4u (gS 1).1 9 W)))
  obtain ⟨S, hS⟩ : ∃ S, (gS 1).1 = S := ⟨_, rfl⟩
  rw [hS] at hG1 hD
  replace hS := Za hS
  have hmT := Za hT
  have hDl := Za (fun qa qb qc qd W (h : Sto (Old W) W _ S) => Zdz hD qa qb qc qd W h)
  have hDn := Za (fun qa qb qc qd W (h : Sto (Old W) W _ T) => Zdz hD2 qa qb qc qd W h)
  have hDa := Za (fun qa qb qc qd W (h : Sto (Old W) W _ T) => Zdz hD3 qa qb qc qd W h)
  have hAl := Za (fun qa qb qc qd W (h : Sto (Old W) W _ T) => Zqb qa qb qc qd T 8 W h)
  rw [hA] at hAl
  obtain ⟨RL, hRL⟩ : ∃ RL, raV T 8 Za0 Zqy = RL := ⟨_, rfl⟩
  rw [hRL] at hAl
  replace hRL := Za hRL
  clear hA hD hD2 hD3 hT g1
  go_enter Tryz.func3, Tryz.ntmps3
  go_wp2_with fail
  with_reducible refine (Z1e _).mono ?_
  rintro e w0 ⟨rfl, hb0⟩
  have B0 := Za hb0
  clear hb0
  go_wp2_with fail
  with_reducible refine (hG1.out _).mono ?_
  rintro e w1 ⟨qa, qb, qc, qd, rfl, h1, hb1⟩
  obtain ⟨w2, hw2, b2, hs2, hB2⟩ := Xt w1 (.slice qa.1 qa.2.1 qa.2.2) (.slice qb.1 qb.2.1 qb.2.2) (.slice qc.1 qc.2.1 qc.2.2) (.slice qd.1 qd.2.1 qd.2.2) 29
  have K2 := Za (fun W (hW : Below w2.heap.size w2 W) => And.intro (Ze ((hW.block w1.heap.size (by omega)).trans b2)) (h1.below (hB2.trans (hW.mono hB2.size))))
  have B2 := Za (B0.out.trans ((hb1.trans (hB2.mono hb1.size)).mono B0.out.size))
  replace hs2 := Za hs2
  clear hB2 hb1 h1 b2 B0 hG1
  go_upto_region 4 with fail
  clear hw2
  refine Xf (ops' := ?opsLate) (by kernel_rfl) [(9, 6), (9, 7), (10, 7)] ?he (by kernel_rfl) (fun d _ _ _ _ h => by cases d <;> exact h) 9 (fun W => Below w2.heap.size w2 W) (fun i => match i with
      | 3 => some (PhK (fun k => w2.heap.size ≤ k) (8) (0) T)
      | 4 => some (PhK (fun k => w2.heap.size ≤ k) (8) (0) T)
      | 5 => some (Z3g (fun k => w2.heap.size ≤ k) T)
      | 8 => some (fun v W => ∃ g, v = .pointer (some ⟨g, 0, none⟩) ∧ w2.heap.size ≤ g ∧ W.heap[g]? = some (.cells #[.slice none 0 0, .slice none 0 0, .slice none 0 0, .slice none 0 0] 29 (0, 0)))
      | _ => none) (fun i => match i with
      | 2 => some (.agg #[.int .u8 2, .int .u32 0, .int .u32 1])
      | 6 => some (.int .i64 (8))
      | 7 => some (.int .i64 (0))
      | _ => none) ?h1 ?h2 ?h3 (Below.refl _ _).drew (fun w w' h hb => h.trans (hb.mono h.size)) ?tst ?_
  case he =>
    simp [Z4]
    rfl
  case h1 => decide
  case h2 => kernel_rfl
  case h3 => kernel_rfl
  case tst =>
    intro j φ x W W' hp hx hb
    match j, hp with
    | 3, hp => cases hp; obtain ⟨va, vb, vc, vd, e, h⟩ := hx; exact ⟨va, vb, vc, vd, e, Y4 h (fun _ h => h) hb⟩
    | 4, hp => cases hp; obtain ⟨va, vb, vc, vd, e, h⟩ := hx; exact ⟨va, vb, vc, vd, e, Y4 h (fun _ h => h) hb⟩
    | 5, hp => cases hp; obtain ⟨va, vb, vc, vd, e, h⟩ := hx; exact ⟨va, vb, vc, vd, e, Y4 h (fun _ h => h) hb⟩
    | 8, hp => cases hp; obtain ⟨g, e, h1, h2⟩ := hx; exact ⟨g, e, h1, (hb.block g (Array.getElem?_eq_some_iff.1 h2).1).trans h2⟩
  simp only [List.take_succ_cons, List.take_zero, List.drop_succ_cons, List.drop_zero]
  repeat (first
    | (refine wpAs_skip rfl ?_; simp only[Act.put,Zb,Zc,Zd])
    | (refine wpAs_pure (v := ?_) rfl rfl ?_ ?_; rotate_left; (intro W hC hE; clear hE; (obtain ⟨⟨k0, k1, k2, k3, _⟩, _⟩ := K2.out W hC); clear hC; go_simp; first | done | with_reducible rfl); simp only[Act.put,Zb,Zc,Zd]))
  refine wpAs_fixed rfl rfl rfl ?_ ?_
  · intro W hC hE
    refine does_enter (f := 12) (args := #[.int .u32 1]) ?_ ?_
    · go_simp
    · refine (Zec 1 W).mono ?_
      (rintro e W' ⟨rfl, hg⟩)
      exact ⟨_, rfl, rfl, hg⟩
  simp only[Act.put,Zb,Zc,Zd]
  refine wpAs_act rfl rfl ?_ ?_
  · intro W hC hE
    clear hE
    refine does_enter (f := 11) (args := #[.agg #[.slice qa.1 qa.2.1 qa.2.2, .slice qb.1 qb.2.1 qb.2.2, .slice qc.1 qc.2.1 qc.2.2, .slice qd.1 qd.2.1 qd.2.2], .int .i64 (9), .agg #[.int .u8 2, .int .u32 0, .int .u32 1]]) ?_ ?_
    · obtain ⟨⟨k0, k1, k2, k3, _⟩, _⟩ := K2.out W hC
      go_simp
    · refine ((fun W hC => hDl.out qa qb qc qd W (K2.out W hC).2) W hC).mono ?_
      rintro e W' ⟨va, vb, vc, vd, rfl, h1, hb⟩
      exact ⟨_, rfl, ⟨va, vb, vc, vd, rfl, Zff h1 (fun k h => Nat.le_trans hC.size h)⟩, hb⟩
  simp only[Act.put,Zb,Zc,Zd, envAdd]
  intro x3
  refine wpAs_act rfl rfl ?_ ?_
  · intro W hC hE
    have h7 := hE.1 rfl
    clear hE hC
    go_simp
    exact ⟨h7, Below.refl _ _⟩
  simp only[Act.put,Zb,Zc,Zd, envAdd]
  intro x4
  refine wpAs_act rfl rfl ?_ ?_
  · intro W hC hE
    obtain ⟨va, vb, vc, vd, rfl, hz⟩ := hE.1 rfl
    have hz' := Za hz
    clear hE hz hC
    go_simp
    exact ⟨⟨va, vb, vc, vd, rfl, hz'.out⟩, Below.refl _ _⟩
  simp only[Act.put,Zb,Zc,Zd, envAdd]
  intro x5
  refine wpAs_fixed rfl rfl rfl ?_ ?_
  · intro W hC hE
    obtain ⟨va, vb, vc, vd, rfl, hz⟩ := hE.2.1 rfl
    clear hE hz hC
    go_simp
    exact ⟨rfl, Below.refl _ _⟩
  simp only[Act.put,Zb,Zc,Zd]
  refine wpAs_fixed rfl rfl rfl ?_ ?_
  · intro W hC hE
    obtain ⟨va, vb, vc, vd, rfl, hz⟩ := hE.2.1 rfl
    clear hE hz hC
    go_simp
    exact ⟨rfl, Below.refl _ _⟩
  simp only[Act.put,Zb,Zc,Zd]
  refine wpAs_act rfl rfl ?_ ?_
  · intro W hC hE
    have hs := hC.size
    clear hE hC
    go_simp
    exact ⟨⟨W.heap.size, rfl, hs, heap_alloc_new _ _⟩, (Below.refl _ _).alloc (Nat.le_refl _) _⟩
  simp only[Act.put,Zb,Zc,Zd, envAdd]
  intro x8
  refine wpAs_end fun W hC hE => ?_
  obtain ⟨⟨g, rfl, hg, hz⟩, ⟨pa, pb, pc, pd, rfl, hs⟩, _⟩ := hE
  obtain ⟨u0, u1, u2, u3, uf, _⟩ := Ze hz
  obtain ⟨w4, hW4, g4, gr4, gs4⟩ := Zs (a' := .slice pa.1 pa.2.1 pa.2.2) (b' := .slice pb.1 pb.2.1 pb.2.2) (c' := .slice pc.1 pc.2.1 pc.2.2) (d' := .slice pd.1 pd.2.1 pd.2.2) hz
  have hs4 := Zfo (Zcg hs) hmT.out hz (by simp) gr4
  have hb4 := hC.grown gr4 hC.size (fun q e => by cases e; exact hg)
  have K4 := Za (fun W (hW : Below w4.heap.size w4 W) => And.intro (Ze ((hW.block g (Array.getElem?_eq_some_iff.1 g4).1).trans g4)) (hs4.below hW))
  have B4 := Za (B2.out.trans (hb4.mono B2.out.size))
  replace hz := Za hz
  clear hC hs gr4 gs4 hs4 hb4 g4 hg K2 B2
  go_upto_region 5 with fail
  clear hW4 u0 u1 u2 u3 uf
  refine Xf (ops' := ?opsLateb) (by kernel_rfl) [(9, 6), (9, 7), (10, 7)] ?heb (by kernel_rfl) (fun d _ _ _ _ h => by cases d <;> exact h) 9 (fun W => Below w4.heap.size w4 W) (fun i => match i with
      | 3 => some (PhK (fun k => w4.heap.size ≤ k) (0) (6) Zh)
      | 4 => some (PhK (fun k => w4.heap.size ≤ k) (0) (6) Zh)
      | 5 => some (Z3g (fun k => w4.heap.size ≤ k) Zh)
      | 8 => some (fun v W => ∃ g, v = .pointer (some ⟨g, 0, none⟩) ∧ w4.heap.size ≤ g ∧ W.heap[g]? = some (.cells #[.slice none 0 0, .slice none 0 0, .slice none 0 0, .slice none 0 0] 29 (0, 0)))
      | _ => none) (fun i => match i with
      | 2 => some (.agg #[.int .u8 2, .int .u32 0, .int .u32 1])
      | 6 => some (.int .i64 (0))
      | 7 => some (.int .i64 (6))
      | _ => none) ?h1b ?h2b ?h3b (Below.refl _ _).drew (fun w w' h hb => h.trans (hb.mono h.size)) ?tstb ?_
  case heb =>
    simp [Z4]
    rfl
  case h1b => decide
  case h2b => kernel_rfl
  case h3b => kernel_rfl
  case tstb =>
    intro j φ x W W' hp hx hb
    match j, hp with
    | 3, hp => cases hp; obtain ⟨va, vb, vc, vd, e, h⟩ := hx; exact ⟨va, vb, vc, vd, e, Y4 h (fun _ h => h) hb⟩
    | 4, hp => cases hp; obtain ⟨va, vb, vc, vd, e, h⟩ := hx; exact ⟨va, vb, vc, vd, e, Y4 h (fun _ h => h) hb⟩
    | 5, hp => cases hp; obtain ⟨va, vb, vc, vd, e, h⟩ := hx; exact ⟨va, vb, vc, vd, e, Y4 h (fun _ h => h) hb⟩
    | 8, hp => cases hp; obtain ⟨g, e, h1, h2⟩ := hx; exact ⟨g, e, h1, (hb.block g (Array.getElem?_eq_some_iff.1 h2).1).trans h2⟩
  simp only [List.take_succ_cons, List.take_zero, List.drop_succ_cons, List.drop_zero]
  repeat (first
    | (refine wpAs_skip rfl ?_; simp only[Act.put,Zb,Zc,Zd])
    | (refine wpAs_pure (v := ?_) rfl rfl ?_ ?_; rotate_left; (intro W hC hE; clear hE; (obtain ⟨⟨k0, k1, k2, k3, _⟩, _⟩ := K4.out W hC); clear hC; go_simp; first | done | with_reducible rfl); simp only[Act.put,Zb,Zc,Zd]))
  refine wpAs_fixed rfl rfl rfl ?_ ?_
  · intro W hC hE
    refine does_enter (f := 12) (args := #[.int .u32 1]) ?_ ?_
    · go_simp
    · refine (Zec 1 W).mono ?_
      (rintro e W' ⟨rfl, hg⟩)
      exact ⟨_, rfl, rfl, hg⟩
  simp only[Act.put,Zb,Zc,Zd]
  refine wpAs_act rfl rfl ?_ ?_
  · intro W hC hE
    clear hE
    refine does_enter (f := 11) (args := #[.agg #[.slice pa.1 pa.2.1 pa.2.2, .slice pb.1 pb.2.1 pb.2.2, .slice pc.1 pc.2.1 pc.2.2, .slice pd.1 pd.2.1 pd.2.2], .int .i64 (8), .agg #[.int .u8 2, .int .u32 0, .int .u32 1]]) ?_ ?_
    · obtain ⟨⟨k0, k1, k2, k3, _⟩, _⟩ := K4.out W hC
      go_simp
    · refine ((fun W hC => hDn.out pa pb pc pd W (K4.out W hC).2) W hC).mono ?_
      rintro e W' ⟨va, vb, vc, vd, rfl, h1, hb⟩
      exact ⟨_, rfl, ⟨va, vb, vc, vd, rfl, Zff h1 (fun k h => Nat.le_trans hC.size h)⟩, hb⟩
  simp only[Act.put,Zb,Zc,Zd, envAdd]
  intro x3b
  refine wpAs_act rfl rfl ?_ ?_
  · intro W hC hE
    have h7 := hE.1 rfl
    clear hE hC
    go_simp
    exact ⟨h7, Below.refl _ _⟩
  simp only[Act.put,Zb,Zc,Zd, envAdd]
  intro x4b
  refine wpAs_act rfl rfl ?_ ?_
  · intro W hC hE
    obtain ⟨va, vb, vc, vd, rfl, hz⟩ := hE.1 rfl
    have hz' := Za hz
    clear hE hz hC
    go_simp
    exact ⟨⟨va, vb, vc, vd, rfl, hz'.out⟩, Below.refl _ _⟩
  simp only[Act.put,Zb,Zc,Zd, envAdd]
  intro x5b
  refine wpAs_fixed rfl rfl rfl ?_ ?_
  · intro W hC hE
    obtain ⟨va, vb, vc, vd, rfl, hz⟩ := hE.2.1 rfl
    clear hE hz hC
    go_simp
    exact ⟨rfl, Below.refl _ _⟩
  simp only[Act.put,Zb,Zc,Zd]
  refine wpAs_fixed rfl rfl rfl ?_ ?_
  · intro W hC hE
    obtain ⟨va, vb, vc, vd, rfl, hz⟩ := hE.2.1 rfl
    clear hE hz hC
    go_simp
    exact ⟨rfl, Below.refl _ _⟩
  simp only[Act.put,Zb,Zc,Zd]
  refine wpAs_act rfl rfl ?_ ?_
  · intro W hC hE
    have hs := hC.size
    clear hE hC
    go_simp
    exact ⟨⟨W.heap.size, rfl, hs, heap_alloc_new _ _⟩, (Below.refl _ _).alloc (Nat.le_refl _) _⟩
  simp only[Act.put,Zb,Zc,Zd, envAdd]
  intro x8b
  refine wpAs_end fun W hC hE => ?_
  obtain ⟨⟨g2, rfl, hg, hz⟩, ⟨ra, rb, rc, rd, rfl, hs⟩, _⟩ := hE
  obtain ⟨u0, u1, u2, u3, uf, _⟩ := Ze hz
  obtain ⟨w6, hW6, g6, gr6, gs6⟩ := Zs (a' := .slice ra.1 ra.2.1 ra.2.2) (b' := .slice rb.1 rb.2.1 rb.2.2) (c' := .slice rc.1 rc.2.1 rc.2.2) (d' := .slice rd.1 rd.2.1 rd.2.2) hz
  have C6 := Za (hC.grown gr6 hC.size (fun q e => by cases e; exact hg))
  replace hz := Za hz
  clear hC hs gr6 gs6 g6 hg
  go_upto_region 6 with fail
  clear hW6 u0 u1 u2 u3 uf
  refine Xf (ops' := ?opsLatec) (by kernel_rfl) [(8, 5), (8, 6), (9, 6)] ?hec (by kernel_rfl) (fun d _ _ _ _ h => by cases d <;> exact h) 8 (fun W => Below w6.heap.size w6 W) (fun i => match i with
      | 2 => some (PhK (fun k => w6.heap.size ≤ k) (0) (2) Zh)
      | 3 => some (PhK (fun k => w6.heap.size ≤ k) (0) (2) Zh)
      | 4 => some (Z3g (fun k => w6.heap.size ≤ k) Zh)
      | 7 => some (fun v W => ∃ g, v = .pointer (some ⟨g, 0, none⟩) ∧ w6.heap.size ≤ g ∧ W.heap[g]? = some (.cells #[.slice none 0 0, .slice none 0 0, .slice none 0 0, .slice none 0 0] 29 (0, 0)))
      | _ => none) (fun i => match i with
      | 1 => some (.agg #[.int .u8 2, .int .u32 0, .int .u32 1])
      | 5 => some (.int .i64 (0))
      | 6 => some (.int .i64 (2))
      | _ => none) ?h1c ?h2c ?h3c (Below.refl _ _).drew (fun w w' h hb => h.trans (hb.mono h.size)) ?tstc ?_
  case hec =>
    simp [Z4]
    rfl
  case h1c => decide
  case h2c => kernel_rfl
  case h3c => kernel_rfl
  case tstc =>
    intro j φ x W W' hp hx hb
    match j, hp with
    | 2, hp => cases hp; obtain ⟨va, vb, vc, vd, e, h⟩ := hx; exact ⟨va, vb, vc, vd, e, Y4 h (fun _ h => h) hb⟩
    | 3, hp => cases hp; obtain ⟨va, vb, vc, vd, e, h⟩ := hx; exact ⟨va, vb, vc, vd, e, Y4 h (fun _ h => h) hb⟩
    | 4, hp => cases hp; obtain ⟨va, vb, vc, vd, e, h⟩ := hx; exact ⟨va, vb, vc, vd, e, Y4 h (fun _ h => h) hb⟩
    | 7, hp => cases hp; obtain ⟨g, e, h1, h2⟩ := hx; exact ⟨g, e, h1, (hb.block g (Array.getElem?_eq_some_iff.1 h2).1).trans h2⟩
  simp only [List.take_succ_cons, List.take_zero, List.drop_succ_cons, List.drop_zero]
  repeat (first
    | (refine wpAs_skip rfl ?_; simp only[Act.put,Zb,Zc,Zd])
    | (refine wpAs_pure (v := ?_) rfl rfl ?_ ?_; rotate_left; (intro W hC hE; clear hE; (obtain ⟨⟨k0, k1, k2, k3, _⟩, _⟩ := K4.out W (C6.out.trans (hC.mono C6.out.size))); clear hC; go_simp; first | done | with_reducible rfl); simp only[Act.put,Zb,Zc,Zd]))
  refine wpAs_fixed rfl rfl rfl ?_ ?_
  · intro W hC hE
    refine does_enter (f := 12) (args := #[.int .u32 1]) ?_ ?_
    · go_simp
    · refine (Zec 1 W).mono ?_
      (rintro e W' ⟨rfl, hg⟩)
      exact ⟨_, rfl, rfl, hg⟩
  simp only[Act.put,Zb,Zc,Zd]
  refine wpAs_act rfl rfl ?_ ?_
  · intro W hC hE
    clear hE
    refine does_enter (f := 11) (args := #[.agg #[.slice pa.1 pa.2.1 pa.2.2, .slice pb.1 pb.2.1 pb.2.2, .slice pc.1 pc.2.1 pc.2.2, .slice pd.1 pd.2.1 pd.2.2], .int .i64 (7), .agg #[.int .u8 2, .int .u32 0, .int .u32 1]]) ?_ ?_
    · obtain ⟨⟨k0, k1, k2, k3, _⟩, _⟩ := K4.out W (C6.out.trans (hC.mono C6.out.size))
      go_simp
    · refine ((fun W hC => hDa.out pa pb pc pd W (K4.out W (C6.out.trans (hC.mono C6.out.size))).2) W hC).mono ?_
      rintro e W' ⟨va, vb, vc, vd, rfl, h1, hb⟩
      exact ⟨_, rfl, ⟨va, vb, vc, vd, rfl, Zff h1 (fun k h => Nat.le_trans hC.size h)⟩, hb⟩
  simp only[Act.put,Zb,Zc,Zd, envAdd]
  intro x3c
  refine wpAs_act rfl rfl ?_ ?_
  · intro W hC hE
    have h7 := hE.1 rfl
    clear hE hC
    go_simp
    exact ⟨h7, Below.refl _ _⟩
  simp only[Act.put,Zb,Zc,Zd, envAdd]
  intro x4c
  refine wpAs_act rfl rfl ?_ ?_
  · intro W hC hE
    obtain ⟨va, vb, vc, vd, rfl, hz⟩ := hE.1 rfl
    have hz' := Za hz
    clear hE hz hC
    go_simp
    exact ⟨⟨va, vb, vc, vd, rfl, hz'.out⟩, Below.refl _ _⟩
  simp only[Act.put,Zb,Zc,Zd, envAdd]
  intro x5c
  refine wpAs_fixed rfl rfl rfl ?_ ?_
  · intro W hC hE
    obtain ⟨va, vb, vc, vd, rfl, hz⟩ := hE.2.1 rfl
    clear hE hz hC
    go_simp
    exact ⟨rfl, Below.refl _ _⟩
  simp only[Act.put,Zb,Zc,Zd]
  refine wpAs_fixed rfl rfl rfl ?_ ?_
  · intro W hC hE
    obtain ⟨va, vb, vc, vd, rfl, hz⟩ := hE.2.1 rfl
    clear hE hz hC
    go_simp
    exact ⟨rfl, Below.refl _ _⟩
  simp only[Act.put,Zb,Zc,Zd]
  refine wpAs_act rfl rfl ?_ ?_
  · intro W hC hE
    have hs := hC.size
    clear hE hC
    go_simp
    exact ⟨⟨W.heap.size, rfl, hs, heap_alloc_new _ _⟩, (Below.refl _ _).alloc (Nat.le_refl _) _⟩
  simp only[Act.put,Zb,Zc,Zd, envAdd]
  intro x8c
  refine wpAs_end fun W hC hE => ?_
  obtain ⟨⟨g3, rfl, hg, hz⟩, ⟨va, vb, vc, vd, rfl, hs⟩, _⟩ := hE
  obtain ⟨u0, u1, u2, u3, uf, _⟩ := Ze hz
  obtain ⟨w8, hW8, g8, gr8, gs8⟩ := Zs (a' := .slice va.1 va.2.1 va.2.2) (b' := .slice vb.1 vb.2.1 vb.2.2) (c' := .slice vc.1 vc.2.1 vc.2.2) (d' := .slice vd.1 vd.2.1 vd.2.2) hz
  have C8 := Za (C6.out.trans ((hC.grown gr8 hC.size (fun q e => by cases e; exact hg)).mono C6.out.size))
  replace hz := Za hz
  clear hC hs gr8 gs8 g8 hg
  obtain ⟨⟨k0, k1, k2, k3, _⟩, hS8⟩ := K4.out w8 C8.out
  have hAll := Za (hAl.out pa pb pc pd w8 hS8)
  clear hS8
  go_upto_region 7 with fail
  clear hW8 u0 u1 u2 u3 uf
  go_wp2_with fail
  with_reducible refine (hAll.out).mono ?_
  rintro e w9 ⟨u, c, rfl, _, hb9⟩
  have B9 := Za (B4.out.trans ((C8.out.trans (hb9.mono C8.out.size)).mono B4.out.size))
  clear hb9 k0 k1 k2 k3
  go_wp2_with fail
  go_ret
  exact ⟨rfl, B9.out⟩

/-! ### The row's step -/
set_option maxRecDepth 100000 in
theorem lifted (os : Os) (started : os.Started) (H : Type) (enc : TypeId × Value → H) :
    ReturnsInHanded {} Tryz.checked os 3 .any (Rows.delNamesSpec.pre6 enc Tryz.prog Tryz.f3 Rows.delNamesRow.domain false) (Rows.delNamesSpec.post enc Tryz.prog Tryz.f3 false true false false) := by
  refine returnsInHanded_of_change (C := Tryz.checked) own started (by kernel_rfl) Tryz.func3
    (ChangeSpec.witness6 (enc := enc) (C := Tryz.checked) false ⟨#[], #[], []⟩ 8 (by kernel_rfl) (by kernel_rfl) (by kernel_rfl) (by kernel_rfl)) ?_
  intro W base args ds gs before hval0 hW _ _
  have hval : ∀ (j : Nat) t v, Tryz.f3.params[j]? = some t → args[j]? = some v → Value.okWide Tryz.prog W .any base t v := hval0
  have hW' := hW
  obtain ⟨p, q, hA0, hV, _, _, _⟩ := hW
  have hA : DataW.TrodAll enc Tryz.prog W 0 (fun _ => true) true Tryz.f3.params.toList args.toList ds p := hA0
  rw [Tryz.params3] at hA hval
  obtain ⟨hargs, rfl, _⟩ := trodAll_nil hA
  obtain rfl : args = #[] := by cases args; simp_all
  obtain ⟨rfl, _⟩ := trodVars_none hV
  clear hA0 hval0
  refine (walk  W ).mono fun e W' ⟨he, hb⟩ => ?_
  subst he
  exact ⟨_, rfl, Zx2 laidOut (by rw [Tryz.params3]; decide +kernel) (by kernel_rfl) Tryz.underlying4 rfl ⟨rfl, by simp [Rows.delNamesSpec], rfl⟩ hW' hb⟩

theorem over : Rows.delNamesRow.holds Tryz.pinned (OpenSpec.ofChange Rows.delNamesSpec) :=
  OpenClaim.holds_of_wide 3 Tryz.f3 rfl rfl rfl rfl rfl rfl rfl ⟨rfl, rfl, rfl, rfl, rfl⟩ rfl rfl rfl rfl rfl (by kernel_rfl) Tryz.func3 (by kernel_rfl)
    (of_decide_eq_true (by kernel_rfl)) (by unfold Func.isWrapper; first | (rw [if_pos (by decide +kernel)]; kernel_rfl) | (rw [if_neg (by decide +kernel)]; exact ⟨rfl, rfl⟩))
    (fun os started H enc _ => lifted os started H enc)

end Go.Proofs.YtgmbjnajdfgenaaGreat.delNames
namespace Go.Proofs.YtgmbjnajdfgenaaGreat
theorem delNames_proved : Rows.DelNamesSaid := delNames.over
end Go.Proofs.YtgmbjnajdfgenaaGreat
