/-
  For every store, node and place DropDoes answers true and leaves its arguments as they were. No condition.
-/
import Derived.Test.YtmdlgnlfgfhkmaaGreatBnd5
namespace Go.Proofs.YtmdlgnlfgfhkmaaGreat.dropDoes
open Go.ChangeShapes Go.WideShapes Go.RowKit

theorem own : ownKnob Tryz.prog.godebug = none := by kernel_rfl
theorem laidOut : laidOutB Tryz.prog = true := by kernel_rfl

set_option maxRecDepth 100000 in
set_option maxHeartbeats 16000000 in
theorem walk (v : Value) (s : Rm) (u : Value) (n : Nd) (a : Int) (_hn : (Lit.int .i64 a).wf = true) (w : World) (h : Sto (Old w) w v s) (hu : Nod (Old w) w u n) :
    Calls Tryz.prog 3 #[v, u, .int .i64 a] w fun e w' => e = .returned (.bool true) ∧ Below w.heap.size w w' := by
  clear _hn
  obtain ⟨A, ca, B, cb, N, cn, L, cl, rfl, _⟩ := id h.open
  obtain ⟨I, ci, rfl, -, -, -, -⟩ := id hu.open
  have HG0 : Bag w [OldN (.agg #[.int .i64 n.1, .slice I n.2.length ci]) n, OldR (.agg #[.slice A s.1.1.length ca, .slice B s.1.2.length cb, .slice N s.2.1.length cn, .slice L s.2.2.length cl]) s] := ((Bag.nil w).add (F := OldR _ s) h (lasts_oldR _ _)).add (F := OldN _ n) hu (lasts_oldN _ _)
  obtain ⟨w0, hw0, hg0, hB0, _, hs0⟩ := bag_four HG0 (Below.refl _ _) (.slice A s.1.1.length ca) (.slice B s.1.2.length cb) (.slice N s.2.1.length cn) (.slice L s.2.2.length cl) 28
  obtain ⟨w1, hw1, hg1, hB1, _, hs1⟩ := bag_node hg0 (Below.refl _ _) (.int .i64 n.1) (.slice I n.2.length ci)
  have HG : Hid (Bag w1 _) := Lib.hid hg1
  have BB := Lib.hid (hB0.trans (hB1.mono hB0.size))
  replace hs1 := Lib.hid hs1
  replace hs0 := Lib.hid hs0
  clear HG0 hg1 hg0 h hu hB1 hB0
  go_enter Tryz.func3, Tryz.ntmps3
  go_upto_region 1 with fail
  clear hw1 hw0
  obtain ⟨z10, z11, z12, z13, _⟩ := HG.out.at 1 rfl
  have k1 : Hid (Sto (Old w1) w1 (.agg #[.slice A s.1.1.length ca, .slice B s.1.2.length cb, .slice N s.2.1.length cn, .slice L s.2.2.length cl]) s) := Lib.hid (HG.out.at 3 rfl)
  go_wp2_with fail
  with_reducible refine (greatR_any _ s _ k1.out).mono ?_
  rintro e2 w2 ⟨rfl, hb2⟩
  replace HG := Lib.hid (HG.out.below hb2)
  replace BB := Lib.hid (BB.out.trans (hb2.mono BB.out.size))
  clear hb2 k1 z10 z11 z12 z13
  cases hgs : greatR s with
  | true =>
    go_wp2_with fail
    go_ret
    exact ⟨rfl, BB.out⟩
  | false =>
  obtain ⟨z10, z11, _⟩ := HG.out.at 0 rfl
  have k1 : Hid (rIts (Old w2) w2 [.slice I n.2.length ci] n.2) := Lib.hid (by
    obtain ⟨_, _, e, _, _, _, h⟩ := Nod.open (HG.out.at 2 rfl)
    cases e
    exact h)
  go_wp2_with fail
  with_reducible refine (greatI_any _ n.2 _ k1.out).mono ?_
  rintro e3 w3 ⟨rfl, hb3⟩
  replace HG := Lib.hid (HG.out.below hb3)
  replace BB := Lib.hid (BB.out.trans (hb3.mono BB.out.size))
  clear hb3 k1 z10 z11
  cases hgi : greatI n.2 with
  | true =>
    go_wp2_with fail
    go_ret
    exact ⟨rfl, BB.out⟩
  | false =>
  have hsm := Lib.hid (smallR_of_great hgs)
  clear hgs hgi
  obtain ⟨z10, z11, z12, z13, _⟩ := HG.out.at 1 rfl
  have k1 : Hid (Sto (Old w3) w3 (.agg #[.slice A s.1.1.length ca, .slice B s.1.2.length cb, .slice N s.2.1.length cn, .slice L s.2.2.length cl]) s) := Lib.hid (HG.out.at 3 rfl)
  go_upto_region 3 with fail
  go_wp2_with fail
  with_reducible refine (refTwinR_any _ s hsm.out _ k1.out).mono ?_
  rintro e4 w4 ⟨X0, x0, X1, x1, X2, x2, X3, x3, rfl, t4, hb4⟩
  obtain ⟨w5, hw5, G5, _, hb5, _⟩ := bag_four (HG.out.below hb4) (Below.refl _ _) (.slice X0 s.1.1.length x0) (.slice X1 s.1.2.length x1) (.slice X2 s.2.1.length x2) (.slice X3 s.2.2.length x3) 28
  have HG3 : Hid (Bag w5 _) := Lib.hid (G5.add (F := OldR _ _) (t4.drop.below hb5) (lasts_oldR _ _))
  replace BB := Lib.hid (BB.out.trans ((hb4.trans (hb5.mono hb4.size)).mono BB.out.size))
  replace HG := HG3
  have C3 := Lib.hid (Below.refl w5.heap.size w5)
  clear hb4 hb5 G5 t4 k1 z10 z11 z12 z13
  go_upto_region 4 with fail
  clear hw5
  -- the answers, as letters
  obtain ⟨T, hT⟩ : ∃ q, mkV s n = q := ⟨_, rfl⟩
  obtain ⟨tn, htn⟩ : ∃ q : Int, mkN s n = q := ⟨_, rfl⟩
  obtain ⟨te, hte⟩ : ∃ q : Int, mkE s n = q := ⟨_, rfl⟩
  obtain ⟨V, hV⟩ : ∃ q, lvV s a = q := ⟨_, rfl⟩
  obtain ⟨ve, hve⟩ : ∃ q : Int, lvE s a = q := ⟨_, rfl⟩
  obtain ⟨Z, hZ⟩ : ∃ q, loV s a = q := ⟨_, rfl⟩
  obtain ⟨ze, hze⟩ : ∃ q : Int, asE s a = q := ⟨_, rfl⟩
  have fT : Hid (FullR T) := Lib.hid (by rw [← hT]; exact full9_mk s n)
  have fV : Hid (FullR V) := Lib.hid (by rw [← hV]; exact full9_lv s a)
  have fZ : Hid (FullR Z) := Lib.hid (by rw [← hZ]; exact full9_lo s a)
  replace hT := Lib.hid hT
  replace htn := Lib.hid htn
  replace hte := Lib.hid hte
  replace hV := Lib.hid hV
  replace hve := Lib.hid hve
  replace hZ := Lib.hid hZ
  replace hze := Lib.hid hze
  have g1 : (tn != tn) = false := by simp
  have g2 : (te != te) = false := by simp
  have g3 : (ve != ve) = false := by simp
  have g4 : (ze != ze) = false := by simp
  obtain ⟨z10, z11, z12, z13, _⟩ := HG.out.at 1 rfl
  have k1 : Hid (Sto (Old w5) w5 (.agg #[.slice X0 s.1.1.length x0, .slice X1 s.1.2.length x1, .slice X2 s.2.1.length x2, .slice X3 s.2.2.length x3]) s) := Lib.hid (HG.out.at 0 rfl)
  obtain ⟨z20, z21, _⟩ := HG.out.at 2 rfl
  have k2 : Hid (Nod (Old w5) w5 (.agg #[.int .i64 n.1, .slice I n.2.length ci]) n) := Lib.hid (HG.out.at 4 rfl)
  go_wp2_with fail
  with_reducible refine (makeV_any _ _ s n _ k1.out k2.out).mono ?_
  rintro e6 w6 ⟨t, rfl, ht, hb⟩
  rw [htn.out, hte.out]
  rw [hT.out] at ht
  obtain ⟨P0, p0, Q0, q0, R0, r0, K0, k0x, rfl, _⟩ := id ht.open
  have G := (HG.out.below hb).add (F := NewR w5.heap.size _ T) (ht.new C3.out.size (Below.refl _ _)) (lasts_newR _ _ _)
  obtain ⟨w7, hw, G', -, hbb, -⟩ := bag_four G (Below.refl _ _) (.slice P0 T.1.1.length p0) (.slice Q0 T.1.2.length q0) (.slice R0 T.2.1.length r0) (.slice K0 T.2.2.length k0x) 28
  replace HG := Lib.hid G'
  replace C3 := Lib.hid (C3.out.trans ((hb.trans (hbb.mono hb.size)).mono C3.out.size))
  clear G G' ht hb hbb k1 k2 z10 z11 z12 z13 z20 z21
  go_upto_region 5 with fail
  clear hw
  obtain ⟨z10, z11, z12, z13, _⟩ := HG.out.at 5 rfl
  have k1 : Hid (Sto (Old w7) w7 (.agg #[.slice A s.1.1.length ca, .slice B s.1.2.length cb, .slice N s.2.1.length cn, .slice L s.2.2.length cl]) s) := Lib.hid (HG.out.at 7 rfl)
  obtain ⟨z20, z21, _⟩ := HG.out.at 4 rfl
  have k2 : Hid (Nod (Old w7) w7 (.agg #[.int .i64 n.1, .slice I n.2.length ci]) n) := Lib.hid (HG.out.at 6 rfl)
  go_wp2_with fail
  with_reducible refine (refMake9_any _ _ s n _ k1.out k2.out).mono ?_
  rintro e8 w8 ⟨t, rfl, ht, hb⟩
  rw [htn.out, hte.out]
  rw [hT.out] at ht
  obtain ⟨P1, p1, Q1, q1, R1, r1, K1, k1x, rfl, _⟩ := id ht.open
  have G := (HG.out.below hb).add (F := OldR _ T) ht (lasts_oldR _ _)
  obtain ⟨w9, hw, G', -, hbb, -⟩ := bag_four G (Below.refl _ _) (.slice P1 T.1.1.length p1) (.slice Q1 T.1.2.length q1) (.slice R1 T.2.1.length r1) (.slice K1 T.2.2.length k1x) 28
  replace HG := Lib.hid G'
  replace C3 := Lib.hid (C3.out.trans ((hb.trans (hbb.mono hb.size)).mono C3.out.size))
  clear G G' ht hb hbb k1 k2 z10 z11 z12 z13 z20 z21
  go_upto_region 6 with fail
  clear hw
  obtain ⟨z10, z11, z12, z13, _⟩ := HG.out.at 5 rfl
  have k1 : Hid (Sto (Old w9) w9 (.agg #[.slice X0 s.1.1.length x0, .slice X1 s.1.2.length x1, .slice X2 s.2.1.length x2, .slice X3 s.2.2.length x3]) s) := Lib.hid (HG.out.at 4 rfl)
  go_wp2_with fail
  with_reducible refine (leaveV_any _ s a _ k1.out).mono ?_
  rintro e10 w10 ⟨t, rfl, ht, hb⟩
  rw [hve.out]
  rw [hV.out] at ht
  obtain ⟨P2, p2, Q2, q2, R2, r2, K2, k2x, rfl, _⟩ := id ht.open
  have G := (HG.out.below hb).add (F := NewR w5.heap.size _ V) (ht.new C3.out.size (Below.refl _ _)) (lasts_newR _ _ _)
  obtain ⟨w11, hw, G', -, hbb, -⟩ := bag_four G (Below.refl _ _) (.slice P2 V.1.1.length p2) (.slice Q2 V.1.2.length q2) (.slice R2 V.2.1.length r2) (.slice K2 V.2.2.length k2x) 28
  replace HG := Lib.hid G'
  replace C3 := Lib.hid (C3.out.trans ((hb.trans (hbb.mono hb.size)).mono C3.out.size))
  clear G G' ht hb hbb k1 z10 z11 z12 z13
  go_upto_region 7 with fail
  clear hw
  obtain ⟨z10, z11, z12, z13, _⟩ := HG.out.at 9 rfl
  have k1 : Hid (Sto (Old w11) w11 (.agg #[.slice A s.1.1.length ca, .slice B s.1.2.length cb, .slice N s.2.1.length cn, .slice L s.2.2.length cl]) s) := Lib.hid (HG.out.at 11 rfl)
  go_wp2_with fail
  with_reducible refine (refLeave9_any _ s a _ k1.out).mono ?_
  rintro e12 w12 ⟨t, rfl, ht, hb⟩
  rw [hve.out]
  rw [hV.out] at ht
  obtain ⟨P3, p3, Q3, q3, R3, r3, K3, k3x, rfl, _⟩ := id ht.open
  have G := (HG.out.below hb).add (F := OldR _ V) ht (lasts_oldR _ _)
  obtain ⟨w13, hw, G', -, hbb, -⟩ := bag_four G (Below.refl _ _) (.slice P3 V.1.1.length p3) (.slice Q3 V.1.2.length q3) (.slice R3 V.2.1.length r3) (.slice K3 V.2.2.length k3x) 28
  replace HG := Lib.hid G'
  replace C3 := Lib.hid (C3.out.trans ((hb.trans (hbb.mono hb.size)).mono C3.out.size))
  clear G G' ht hb hbb k1 z10 z11 z12 z13
  go_upto_region 8 with fail
  clear hw
  obtain ⟨z10, z11, z12, z13, _⟩ := HG.out.at 9 rfl
  have k1 : Hid (Sto (Old w13) w13 (.agg #[.slice X0 s.1.1.length x0, .slice X1 s.1.2.length x1, .slice X2 s.2.1.length x2, .slice X3 s.2.2.length x3]) s) := Lib.hid (HG.out.at 8 rfl)
  go_wp2_with fail
  with_reducible refine (looseV_any _ s a _ k1.out).mono ?_
  rintro e14 w14 ⟨t, rfl, ht, hb⟩
  rw [hze.out]
  rw [hZ.out] at ht
  obtain ⟨P4, p4, Q4, q4, R4, r4, K4, k4x, rfl, _⟩ := id ht.open
  have G := (HG.out.below hb).add (F := NewR w5.heap.size _ Z) (ht.new C3.out.size (Below.refl _ _)) (lasts_newR _ _ _)
  obtain ⟨w15, hw, G', -, hbb, -⟩ := bag_four G (Below.refl _ _) (.slice P4 Z.1.1.length p4) (.slice Q4 Z.1.2.length q4) (.slice R4 Z.2.1.length r4) (.slice K4 Z.2.2.length k4x) 28
  replace HG := Lib.hid G'
  replace C3 := Lib.hid (C3.out.trans ((hb.trans (hbb.mono hb.size)).mono C3.out.size))
  clear G G' ht hb hbb k1 z10 z11 z12 z13
  go_upto_region 9 with fail
  clear hw
  obtain ⟨z10, z11, z12, z13, _⟩ := HG.out.at 13 rfl
  have k1 : Hid (Sto (Old w15) w15 (.agg #[.slice A s.1.1.length ca, .slice B s.1.2.length cb, .slice N s.2.1.length cn, .slice L s.2.2.length cl]) s) := Lib.hid (HG.out.at 15 rfl)
  go_wp2_with fail
  with_reducible refine (refLoose9_any _ s a _ k1.out).mono ?_
  rintro e16 w16 ⟨t, rfl, ht, hb⟩
  rw [hze.out]
  rw [hZ.out] at ht
  obtain ⟨P5, p5, Q5, q5, R5, r5, K5, k5x, rfl, _⟩ := id ht.open
  have G := (HG.out.below hb).add (F := OldR _ Z) ht (lasts_oldR _ _)
  obtain ⟨w17, hw, G', -, hbb, -⟩ := bag_four G (Below.refl _ _) (.slice P5 Z.1.1.length p5) (.slice Q5 Z.1.2.length q5) (.slice R5 Z.2.1.length r5) (.slice K5 Z.2.2.length k5x) 28
  replace HG := Lib.hid G'
  replace C3 := Lib.hid (C3.out.trans ((hb.trans (hbb.mono hb.size)).mono C3.out.size))
  clear G G' ht hb hbb k1 z10 z11 z12 z13
  go_upto_region 10 with fail
  clear hw
  obtain ⟨z10, z11, z12, z13, _⟩ := HG.out.at 10 rfl
  obtain ⟨z20, z21, z22, z23, _⟩ := HG.out.at 8 rfl
  have k1 : Hid (Sto (Old w17) w17 (.agg #[.slice P0 T.1.1.length p0, .slice Q0 T.1.2.length q0, .slice R0 T.2.1.length r0, .slice K0 T.2.2.length k0x]) T) := Lib.hid (Sto.drop (HG.out.at 11 rfl))
  have k2 : Hid (Sto (Old w17) w17 (.agg #[.slice P1 T.1.1.length p1, .slice Q1 T.1.2.length q1, .slice R1 T.2.1.length r1, .slice K1 T.2.2.length k1x]) T) := Lib.hid (HG.out.at 9 rfl)
  go_wp2_with fail
  with_reducible refine (refSameR_any _ _ T T _ k1.out k2.out).mono ?_
  rintro e18 w18 ⟨rfl, hb⟩
  rw [sameR_refl]
  replace HG := Lib.hid (HG.out.below hb)
  replace C3 := Lib.hid (C3.out.trans (hb.mono C3.out.size))
  clear hb k1 k2 z10 z11 z12 z13 z20 z21 z22 z23
  obtain ⟨z10, z11, z12, z13, _⟩ := HG.out.at 6 rfl
  obtain ⟨z20, z21, z22, z23, _⟩ := HG.out.at 4 rfl
  have k1 : Hid (Sto (Old w18) w18 (.agg #[.slice P2 V.1.1.length p2, .slice Q2 V.1.2.length q2, .slice R2 V.2.1.length r2, .slice K2 V.2.2.length k2x]) V) := Lib.hid (Sto.drop (HG.out.at 7 rfl))
  have k2 : Hid (Sto (Old w18) w18 (.agg #[.slice P3 V.1.1.length p3, .slice Q3 V.1.2.length q3, .slice R3 V.2.1.length r3, .slice K3 V.2.2.length k3x]) V) := Lib.hid (HG.out.at 5 rfl)
  go_wp2_with fail
  with_reducible refine (refSameR_any _ _ V V _ k1.out k2.out).mono ?_
  rintro e19 w19 ⟨rfl, hb⟩
  rw [sameR_refl]
  replace HG := Lib.hid (HG.out.below hb)
  replace C3 := Lib.hid (C3.out.trans (hb.mono C3.out.size))
  clear hb k1 k2 z10 z11 z12 z13 z20 z21 z22 z23
  obtain ⟨z10, z11, z12, z13, _⟩ := HG.out.at 2 rfl
  obtain ⟨z20, z21, z22, z23, _⟩ := HG.out.at 0 rfl
  have k1 : Hid (Sto (Old w19) w19 (.agg #[.slice P4 Z.1.1.length p4, .slice Q4 Z.1.2.length q4, .slice R4 Z.2.1.length r4, .slice K4 Z.2.2.length k4x]) Z) := Lib.hid (Sto.drop (HG.out.at 3 rfl))
  have k2 : Hid (Sto (Old w19) w19 (.agg #[.slice P5 Z.1.1.length p5, .slice Q5 Z.1.2.length q5, .slice R5 Z.2.1.length r5, .slice K5 Z.2.2.length k5x]) Z) := Lib.hid (HG.out.at 1 rfl)
  go_wp2_with fail
  with_reducible refine (refSameR_any _ _ Z Z _ k1.out k2.out).mono ?_
  rintro e20 w20 ⟨rfl, hb⟩
  rw [sameR_refl]
  replace HG := Lib.hid (HG.out.below hb)
  replace C3 := Lib.hid (C3.out.trans (hb.mono C3.out.size))
  clear hb k1 k2 z10 z11 z12 z13 z20 z21 z22 z23
  -- all is turned
  have BV := HG.out.at 6 rfl
  have BZ := HG.out.at 2 rfl
  have kT : Hid (Sto (New w5.heap.size w20) w20 (.agg #[.slice P0 T.1.1.length p0, .slice Q0 T.1.2.length q0, .slice R0 T.2.1.length r0, .slice K0 T.2.2.length k0x]) T) := Lib.hid (HG.out.at 11 rfl)
  have kV : Hid (Sto (New w5.heap.size w20) w20 (.agg #[.slice P2 V.1.1.length p2, .slice Q2 V.1.2.length q2, .slice R2 V.2.1.length r2, .slice K2 V.2.2.length k2x]) V) := Lib.hid (HG.out.at 7 rfl)
  have kZ : Hid (Sto (New w5.heap.size w20) w20 (.agg #[.slice P4 Z.1.1.length p4, .slice Q4 Z.1.2.length q4, .slice R4 Z.2.1.length r4, .slice K4 Z.2.2.length k4x]) Z) := Lib.hid (HG.out.at 3 rfl)
  obtain ⟨z10, z11, z12, z13, _⟩ := HG.out.at 10 rfl
  replace BV := Lib.hid BV
  replace BZ := Lib.hid BZ
  clear HG
  go_wp2_with fail
  with_reducible refine (spoil9_any _ T w5.heap.size _ C3.out.size fT.out kT.out).mono ?_
  rintro eA WA ⟨⟨uA, rfl⟩, hS⟩
  have CA := Lib.hid (C3.out.trans hS.low)
  obtain ⟨V1, kV1⟩ := hS.sto kV.out
  have fV1 := Lib.hid (full_same hS kV.out kV1 fV.out)
  obtain ⟨Z1, kZ1⟩ := hS.sto kZ.out
  have fZ1 := Lib.hid (full_same hS kZ.out kZ1 fZ.out)
  replace kV1 := Lib.hid kV1
  replace kZ1 := Lib.hid kZ1
  have BVA := Lib.hid (hS.box4 BV.out)
  have BZA := Lib.hid (hS.box4 BZ.out)
  clear z10 z11 z12 z13 hS kV kZ kT BV BZ C3
  obtain ⟨z10, z11, z12, z13, _⟩ := BVA.out
  go_wp2_with fail
  with_reducible refine (spoil9_any _ V1 w5.heap.size _ CA.out.size fV1.out kV1.out).mono ?_
  rintro eB WB ⟨⟨uB, rfl⟩, hS⟩
  have CB := Lib.hid (CA.out.trans hS.low)
  obtain ⟨Z2, kZ2⟩ := hS.sto kZ1.out
  have fZ2 := Lib.hid (full_same hS kZ1.out kZ2 fZ1.out)
  replace kZ2 := Lib.hid kZ2
  have BZB := Lib.hid (hS.box4 BZA.out)
  clear z10 z11 z12 z13 hS kV1 kZ1 CA BVA BZA
  obtain ⟨z10, z11, z12, z13, _⟩ := BZB.out
  go_wp2_with fail
  with_reducible refine (spoil9_any _ Z2 w5.heap.size _ CB.out.size fZ2.out kZ2.out).mono ?_
  rintro eD WD ⟨⟨uD, rfl⟩, hS⟩
  have CD := Lib.hid (CB.out.trans hS.low)
  clear z10 z11 z12 z13 hS kZ2 CB BZB
  have HD := Lib.hid (HG3.out.below CD.out)
  have BD := Lib.hid (BB.out.trans (CD.out.mono BB.out.size))
  obtain ⟨z0, z1, z2, z3, _⟩ := HD.out.at 1 rfl
  obtain ⟨y0, y1, y2, y3, _⟩ := HD.out.at 3 rfl
  have k1 : Hid (Sto (Old WD) WD (.agg #[.slice X0 s.1.1.length x0, .slice X1 s.1.2.length x1, .slice X2 s.2.1.length x2, .slice X3 s.2.2.length x3]) s) := Lib.hid (HD.out.at 0 rfl)
  have k2 : Hid (Sto (Old WD) WD (.agg #[.slice A s.1.1.length ca, .slice B s.1.2.length cb, .slice N s.2.1.length cn, .slice L s.2.2.length cl]) s) := Lib.hid (HD.out.at 5 rfl)
  go_wp2_with fail
  with_reducible refine (refSameR_any _ _ s s _ k1.out k2.out).mono ?_
  rintro eF WF ⟨rfl, hbF⟩
  rw [sameR_refl]
  go_wp2_with fail
  go_ret
  exact ⟨rfl, BD.out.trans (hbF.mono BD.out.size)⟩

/-! ### The row's step -/
set_option maxRecDepth 100000 in
theorem lifted (os : Os) (started : os.Started) (H : Type) (enc : TypeId × Value → H) :
    ReturnsInHanded {} Tryz.checked os 3 .any (Rows.dropDoesSpec.pre6 enc Tryz.prog Tryz.f3 Rows.dropDoesRow.domain false) (Rows.dropDoesSpec.post enc Tryz.prog Tryz.f3 false true false false) := by
  refine returnsInHanded_of_change (C := Tryz.checked) own started (by kernel_rfl) Tryz.func3
    (ChangeSpec.witness6 (enc := enc) (C := Tryz.checked) false ⟨#[], #[.agg #[.slice none 0 0, .slice none 0 0, .slice none 0 0, .slice none 0 0], .agg #[.int .i64 0, .slice none 0 0], .int .i64 0], []⟩ 8 (by kernel_rfl) (by kernel_rfl) (by kernel_rfl) (by kernel_rfl)) ?_
  intro W base args ds gs before hval0 hW _ _
  have hval : ∀ (j : Nat) t v, Tryz.f3.params[j]? = some t → args[j]? = some v → Value.okWide Tryz.prog W .any base t v := hval0
  have hW' := hW
  obtain ⟨p, q, hA0, hV, _, _, _⟩ := hW
  have hA : DataW.TrodAll enc Tryz.prog W 0 (fun _ => true) true Tryz.f3.params.toList args.toList ds p := hA0
  rw [Tryz.params3] at hA hval
  obtain ⟨v0, vs0, d0, ds0, p0, q0, hargs, rfl, _, h0, r0⟩ := trodAll_cons hA
  obtain ⟨v1, vs1, d1, ds1, p1, q1, rfl, rfl, _, h1, r1⟩ := trodAll_cons r0
  obtain ⟨v2, vs2, d2, ds2, p2, q2, rfl, rfl, _, h2, r2⟩ := trodAll_cons r1
  obtain ⟨rfl, rfl, _⟩ := trodAll_nil r2
  obtain rfl : args = #[v0, v1, v2] := by cases args; simp_all
  obtain ⟨rfl, _⟩ := trodVars_none hV
  obtain ⟨d0x, y0⟩ := open_store (hval 0 28 v0 rfl rfl) h0
  obtain ⟨d1x, y1⟩ := open_node (hval 1 31 v1 rfl rfl) h1
  obtain ⟨a2, rfl, _, _, w2⟩ := open_int Tryz.underlying3 (hval 2 3 v2 rfl rfl) h2
  clear hA0 hval0
  refine (walk v0 d0x v1 d1x a2 w2 W y0 y1).mono fun e W' ⟨he, hb⟩ => ?_
  subst he
  exact ⟨_, rfl, law_post laidOut (by rw [Tryz.params3]; decide +kernel) (by kernel_rfl) Tryz.underlying4 rfl ⟨rfl, by simp [Rows.dropDoesSpec], rfl⟩ hW' hb⟩

theorem over : Rows.dropDoesRow.holds Tryz.pinned (OpenSpec.ofChange Rows.dropDoesSpec) :=
  OpenClaim.holds_of_wide 3 Tryz.f3 rfl rfl rfl rfl rfl rfl rfl ⟨rfl, rfl, rfl, rfl, rfl⟩ rfl rfl rfl rfl rfl (by kernel_rfl) Tryz.func3 (by kernel_rfl)
    (of_decide_eq_true (by kernel_rfl)) (by unfold Func.isWrapper; first | (rw [if_pos (by decide +kernel)]; kernel_rfl) | (rw [if_neg (by decide +kernel)]; exact ⟨rfl, rfl⟩))
    (fun os started H enc _ => lifted os started H enc)

end Go.Proofs.YtmdlgnlfgfhkmaaGreat.dropDoes
namespace Go.Proofs.YtmdlgnlfgfhkmaaGreat
theorem dropDoes_proved : Rows.DropDoesSaid := dropDoes.over
end Go.Proofs.YtmdlgnlfgfhkmaaGreat
