/-
  For every two stores, block and place RoomDoes answers true and leaves its arguments as they were. No condition.
-/
import Derived.Test.YtjlbkcnhbndgbaaGreatBnd4
namespace Go.Proofs.YtjlbkcnhbndgbaaGreat.roomDoes
open Go.ChangeShapes Go.WideShapes Go.RowKit

theorem own : ownKnob Tryz.prog.godebug = none := by kernel_rfl
theorem laidOut : laidOutB Tryz.prog = true := by kernel_rfl

theorem sto_alloc2 {w : World} (a b c d a' b' c' d' : Value) : ∃ w1, (w.alloc (.cells #[a, b, c, d] 28)).alloc (.cells #[a', b', c', d'] 28) = w1 ∧
    Box4 w.heap.size a b c d w1 ∧ Box4 (w.heap.size + 1) a' b' c' d' w1 ∧ Below w.heap.size w w1 := by
  have f1 : ((w.alloc (.cells #[a, b, c, d] 28)).alloc (.cells #[a', b', c', d'] 28)).heap[w.heap.size]? = some (.cells #[a, b, c, d] 28 (0, 0)) := alloc_block (heap_alloc_new _ _)
  have f2 : ((w.alloc (.cells #[a, b, c, d] 28)).alloc (.cells #[a', b', c', d'] 28)).heap[w.heap.size + 1]? = some (.cells #[a', b', c', d'] 28 (0, 0)) := by
    have := heap_alloc_new (w.alloc (.cells #[a, b, c, d] 28)) (.cells #[a', b', c', d'] 28)
    rwa [World.size_alloc] at this
  obtain ⟨k0, k1, k2, k3, _, kg⟩ := four_cells f1
  obtain ⟨j0, j1, j2, j3, _, jg⟩ := four_cells f2
  exact ⟨_, rfl, ⟨k0, k1, k2, k3, kg⟩, ⟨j0, j1, j2, j3, jg⟩, ((Below.refl _ w).alloc (Nat.le_refl _) _).alloc (by simp) _⟩
set_option maxRecDepth 100000 in
set_option maxHeartbeats 16000000 in
theorem walk (v : Value) (s : Rm) (u : Value) (o : Rm) (p : Value) (b : List UInt8) (n : Int) (_hn : (Lit.int .i64 n).wf = true) (w : World) (h : Sto (Old w) w v s) (ho : Sto (Old w) w u o) (hp : rBy (Old w) w [p] b) :
    Calls Tryz.prog 3 #[v, u, p, .int .i64 n] w fun e w' => e = .returned (.bool true) ∧ Below w.heap.size w w' := by
  clear _hn
  obtain ⟨A, ca, B, cb, N, cn, L, cl, rfl, _⟩ := id h.open
  obtain ⟨A', ca', B', cb', N', cn', L', cl', rfl, _⟩ := id ho.open
  obtain ⟨E, ce, rfl, _⟩ := id (rBy_open hp)
  obtain ⟨w1, hw1, f1, f2, hB⟩ := sto_alloc2 (w := w) (.slice A s.1.1.length ca) (.slice B s.1.2.length cb) (.slice N s.2.1.length cn) (.slice L s.2.2.length cl) (.slice A' o.1.1.length ca') (.slice B' o.1.2.length cb') (.slice N' o.2.1.length cn') (.slice L' o.2.2.length cl')
  have HG : Hid (Bag w1 _) := Lib.hid (((((((Bag.nil w).add (F := OldB _ _) hp (lasts_oldB _ _)).add (F := OldR _ _) h (lasts_oldR _ _)).add (F := OldR _ _) ho (lasts_oldR _ _)).below hB).add (F := Box4 _ _ _ _ _) f1 (lasts_box4 _ _ _ _ _)).add (F := Box4 _ _ _ _ _) f2 (lasts_box4 _ _ _ _ _))
  have BB := Lib.hid hB
  clear h ho hp hB f1 f2
  go_enter Tryz.func3, Tryz.ntmps3
  go_upto_region 1 with fail
  clear hw1
  obtain ⟨z10, z11, z12, z13, _⟩ := HG.out.at 1 rfl
  obtain ⟨z20, z21, z22, z23, _⟩ := HG.out.at 0 rfl
  have k1 : Hid (Sto (Old w1) w1 (.agg #[.slice A s.1.1.length ca, .slice B s.1.2.length cb, .slice N s.2.1.length cn, .slice L s.2.2.length cl]) s) := Lib.hid (HG.out.at 3 rfl)
  go_wp2_with fail
  with_reducible refine (greatR_any _ s _ k1.out).mono ?_
  rintro e2 w2 ⟨rfl, hb2⟩
  replace HG := Lib.hid (HG.out.below hb2)
  replace BB := Lib.hid (BB.out.trans (hb2.mono BB.out.size))
  clear hb2 k1 z10 z11 z12 z13 z20 z21 z22 z23
  cases hgs : greatR s with
  | true =>
    go_wp2_with fail
    go_ret
    exact ⟨rfl, BB.out⟩
  | false =>
  obtain ⟨z10, z11, z12, z13, _⟩ := HG.out.at 1 rfl
  obtain ⟨z20, z21, z22, z23, _⟩ := HG.out.at 0 rfl
  have k1 : Hid (Sto (Old w2) w2 (.agg #[.slice A' o.1.1.length ca', .slice B' o.1.2.length cb', .slice N' o.2.1.length cn', .slice L' o.2.2.length cl']) o) := Lib.hid (HG.out.at 2 rfl)
  go_wp2_with fail
  with_reducible refine (greatR_any _ o _ k1.out).mono ?_
  rintro e3 w3 ⟨rfl, hb3⟩
  replace HG := Lib.hid (HG.out.below hb3)
  replace BB := Lib.hid (BB.out.trans (hb3.mono BB.out.size))
  clear hb3 k1 z10 z11 z12 z13 z20 z21 z22 z23
  cases hgo : greatR o with
  | true =>
    go_wp2_with fail
    go_ret
    exact ⟨rfl, BB.out⟩
  | false =>
  by_cases hl : 10000 < b.length
  · have hl' : (10000 : Int) < b.length := by omega
    go_wp2_with fail
    go_ret
    exact ⟨rfl, BB.out⟩
  have hl' : ¬ (10000 : Int) < b.length := by omega
  have hsm := Lib.hid (smallR_of_great hgs)
  clear hgs hgo hl
  obtain ⟨z10, z11, z12, z13, _⟩ := HG.out.at 1 rfl
  have k1 : Hid (Sto (Old w3) w3 (.agg #[.slice A s.1.1.length ca, .slice B s.1.2.length cb, .slice N s.2.1.length cn, .slice L s.2.2.length cl]) s) := Lib.hid (HG.out.at 3 rfl)
  go_upto_region 3 with fail
  clear hl'
  go_wp2_with fail
  with_reducible refine (refTwinR_any _ s hsm.out _ k1.out).mono ?_
  rintro e4 w4 ⟨X0, x0, X1, x1, X2, x2, X3, x3, rfl, t4, hb4⟩
  obtain ⟨w5, hw5, G5, _, hb5, _⟩ := bag_four (HG.out.below hb4) (Below.refl _ _) (.slice X0 s.1.1.length x0) (.slice X1 s.1.2.length x1) (.slice X2 s.2.1.length x2) (.slice X3 s.2.2.length x3) 28
  have HG3 : Hid (Bag w5 _) := Lib.hid (G5.add (F := OldR _ _) (t4.drop.below hb5) (lasts_oldR _ _))
  replace BB := Lib.hid (BB.out.trans ((hb4.trans (hb5.mono hb4.size)).mono BB.out.size))
  replace HG := HG3
  have C3 := Lib.hid (Below.refl w5.heap.size w5)
  clear hb4 hb5 G5 t4 k1 z10 z11 z12 z13
  go_upto_region 4 with fail
  clear hw5
  -- the answers, as letters
  obtain ⟨F, hF⟩ : ∃ q, intsN (frV s) = q := ⟨_, rfl⟩
  obtain ⟨ck, hck⟩ : ∃ q, chkR s = q := ⟨_, rfl⟩
  obtain ⟨T, hT⟩ : ∃ q, tkV s b = q := ⟨_, rfl⟩
  obtain ⟨tn, htn⟩ : ∃ q : Int, (tkN s b : Int) = q := ⟨_, rfl⟩
  obtain ⟨te, hte⟩ : ∃ q : Int, tkE s b = q := ⟨_, rfl⟩
  obtain ⟨S, hS⟩ : ∃ q, shV s n = q := ⟨_, rfl⟩
  obtain ⟨se, hse⟩ : ∃ q : Int, shE s n = q := ⟨_, rfl⟩
  obtain ⟨D, hD⟩ : ∃ q, rmV s n = q := ⟨_, rfl⟩
  obtain ⟨de, hde⟩ : ∃ q : Int, rmE s n = q := ⟨_, rfl⟩
  have hfr : Hid (∀ v W, Sto (Old W) W v s → Calls Tryz.prog 6 #[v] W fun e w' => ∃ Z zc, e = .returned (.tuple #[.slice Z F.length zc, .int .i64 ck]) ∧ rInts (Old w') w' [.slice Z F.length zc] F ∧ Below W.heap.size W w') := Lib.hid fun v W h => by
    refine (freeR_any v s W h).mono ?_
    rintro e w' ⟨u, rfl, hu, hb⟩
    rw [hF] at hu
    rw [hck]
    obtain ⟨Z, zc, rfl, _⟩ := id (rInts_open hu)
    exact ⟨Z, zc, rfl, stab_ints.drop hu, hb⟩
  have hrfr : Hid (∀ v W, Sto (Old W) W v s → Calls Tryz.prog 7 #[v] W fun e w' => ∃ Z zc, e = .returned (.tuple #[.slice Z F.length zc, .int .i64 ck]) ∧ rInts (Old w') w' [.slice Z F.length zc] F ∧ Below W.heap.size W w') := Lib.hid fun v W h => by
    refine (refFreeR_any v s W h).mono ?_
    rintro e w' ⟨u, rfl, hu, hb⟩
    rw [hF] at hu
    rw [hck]
    obtain ⟨Z, zc, rfl, _⟩ := id (rInts_open hu)
    exact ⟨Z, zc, rfl, stab_ints.drop hu, hb⟩
  have htk : Hid (∀ v W, Sto (Old W) W v s → rBy (Old W) W [.slice E b.length ce] b → Calls Tryz.prog 8 #[v, .slice E b.length ce] W fun e w' => ∃ P pc Q qc R rc K kc, e = .returned (.tuple #[.agg #[.slice P T.1.1.length pc, .slice Q T.1.2.length qc, .slice R T.2.1.length rc, .slice K T.2.2.length kc], .int .i64 tn, .int .i64 te]) ∧ Sto (New W.heap.size w') w' (.agg #[.slice P T.1.1.length pc, .slice Q T.1.2.length qc, .slice R T.2.1.length rc, .slice K T.2.2.length kc]) T ∧ Below W.heap.size W w') := Lib.hid fun v W h hu => by
    refine (takeR_any v _ s b W h hu).mono ?_
    rintro e w' ⟨t, rfl, ht, hb⟩
    rw [hT] at ht
    rw [htn, hte]
    obtain ⟨P, pc, Q, qc, R, rc, K, kc, rfl, _⟩ := id ht.open
    exact ⟨P, pc, Q, qc, R, rc, K, kc, rfl, ht, hb⟩
  have hrtk : Hid (∀ v W, Sto (Old W) W v s → rBy (Old W) W [.slice E b.length ce] b → Calls Tryz.prog 9 #[v, .slice E b.length ce] W fun e w' => ∃ P pc Q qc R rc K kc, e = .returned (.tuple #[.agg #[.slice P T.1.1.length pc, .slice Q T.1.2.length qc, .slice R T.2.1.length rc, .slice K T.2.2.length kc], .int .i64 tn, .int .i64 te]) ∧ Sto (Old w') w' (.agg #[.slice P T.1.1.length pc, .slice Q T.1.2.length qc, .slice R T.2.1.length rc, .slice K T.2.2.length kc]) T ∧ Below W.heap.size W w') := Lib.hid fun v W h hu => by
    refine (refTakeR_any v _ s b W h hu).mono ?_
    rintro e w' ⟨t, rfl, ht, hb⟩
    rw [hT] at ht
    rw [htn, hte]
    obtain ⟨P, pc, Q, qc, R, rc, K, kc, rfl, _⟩ := id ht.open
    exact ⟨P, pc, Q, qc, R, rc, K, kc, rfl, ht, hb⟩
  have hsh : Hid (∀ v W, Sto (Old W) W v s → Calls Tryz.prog 10 #[v, .int .i64 n] W fun e w' => ∃ P pc Q qc R rc K kc, e = .returned (.tuple #[.agg #[.slice P S.1.1.length pc, .slice Q S.1.2.length qc, .slice R S.2.1.length rc, .slice K S.2.2.length kc], .int .i64 se]) ∧ Sto (New W.heap.size w') w' (.agg #[.slice P S.1.1.length pc, .slice Q S.1.2.length qc, .slice R S.2.1.length rc, .slice K S.2.2.length kc]) S ∧ Below W.heap.size W w') := Lib.hid fun v W h => by
    refine (shareR_any v s n W h).mono ?_
    rintro e w' ⟨t, rfl, ht, hb⟩
    rw [hS] at ht
    rw [hse]
    obtain ⟨P, pc, Q, qc, R, rc, K, kc, rfl, _⟩ := id ht.open
    exact ⟨P, pc, Q, qc, R, rc, K, kc, rfl, ht, hb⟩
  have hrsh : Hid (∀ v W, Sto (Old W) W v s → Calls Tryz.prog 11 #[v, .int .i64 n] W fun e w' => ∃ P pc Q qc R rc K kc, e = .returned (.tuple #[.agg #[.slice P S.1.1.length pc, .slice Q S.1.2.length qc, .slice R S.2.1.length rc, .slice K S.2.2.length kc], .int .i64 se]) ∧ Sto (Old w') w' (.agg #[.slice P S.1.1.length pc, .slice Q S.1.2.length qc, .slice R S.2.1.length rc, .slice K S.2.2.length kc]) S ∧ Below W.heap.size W w') := Lib.hid fun v W h => by
    refine (refShareR_any v s n W h).mono ?_
    rintro e w' ⟨t, rfl, ht, hb⟩
    rw [hS] at ht
    rw [hse]
    obtain ⟨P, pc, Q, qc, R, rc, K, kc, rfl, _⟩ := id ht.open
    exact ⟨P, pc, Q, qc, R, rc, K, kc, rfl, ht, hb⟩
  have hnd : Hid (∀ v W, Sto (Old W) W v s → Calls Tryz.prog 12 #[v, .int .i64 n] W fun e w' => ∃ Z zc, e = .returned (.tuple #[.agg #[.int .i64 D.1, .slice Z D.2.length zc], .int .i64 de]) ∧ Nod (Old w') w' (.agg #[.int .i64 D.1, .slice Z D.2.length zc]) D ∧ Below W.heap.size W w') := Lib.hid fun v W h => by
    refine (nodeR_any v s n W h).mono ?_
    rintro e w' ⟨u, rfl, hu, hb⟩
    rw [hD] at hu
    rw [hde]
    obtain ⟨Z, zc, rfl, _⟩ := id hu.open
    exact ⟨Z, zc, rfl, hu.drop, hb⟩
  have hrnd : Hid (∀ v W, Sto (Old W) W v s → Calls Tryz.prog 13 #[v, .int .i64 n] W fun e w' => ∃ Z zc, e = .returned (.tuple #[.agg #[.int .i64 D.1, .slice Z D.2.length zc], .int .i64 de]) ∧ Nod (Old w') w' (.agg #[.int .i64 D.1, .slice Z D.2.length zc]) D ∧ Below W.heap.size W w') := Lib.hid fun v W h => by
    refine (refNodeR_any v s n W h).mono ?_
    rintro e w' ⟨u, rfl, hu, hb⟩
    rw [hD] at hu
    rw [hde]
    obtain ⟨Z, zc, rfl, _⟩ := id hu.open
    exact ⟨Z, zc, rfl, hu.drop, hb⟩
  clear hF hT htn hte hS hse hD hde
  replace hck := Lib.hid hck
  -- the calls
  obtain ⟨z10, z11, z12, z13, _⟩ := HG.out.at 1 rfl
  have k1 : Hid (Sto (Old w5) w5 (.agg #[.slice X0 s.1.1.length x0, .slice X1 s.1.2.length x1, .slice X2 s.2.1.length x2, .slice X3 s.2.2.length x3]) s) := Lib.hid (HG.out.at 0 rfl)
  go_wp2_with fail
  with_reducible refine (hfr.out _ _ k1.out).mono ?_
  rintro e6 w6 ⟨Z6, q6, rfl, t6, hb6⟩
  replace HG := Lib.hid ((HG.out.below hb6).add (F := OldZ (.slice Z6 F.length q6) F) t6 (lasts_oldZ _ _))
  replace C3 := Lib.hid (C3.out.trans (hb6.mono C3.out.size))
  clear t6 hb6 k1 z10 z11 z12 z13
  obtain ⟨z10, z11, z12, z13, _⟩ := HG.out.at 4 rfl
  have k1 : Hid (Sto (Old w6) w6 (.agg #[.slice A s.1.1.length ca, .slice B s.1.2.length cb, .slice N s.2.1.length cn, .slice L s.2.2.length cl]) s) := Lib.hid (HG.out.at 6 rfl)
  go_wp2_with fail
  with_reducible refine (hrfr.out _ _ k1.out).mono ?_
  rintro e7 w7 ⟨Z7, q7, rfl, t7, hb7⟩
  replace HG := Lib.hid ((HG.out.below hb7).add (F := OldZ (.slice Z7 F.length q7) F) t7 (lasts_oldZ _ _))
  replace C3 := Lib.hid (C3.out.trans (hb7.mono C3.out.size))
  clear t7 hb7 k1 z10 z11 z12 z13
  obtain ⟨z10, z11, z12, z13, _⟩ := HG.out.at 3 rfl
  have k1 : Hid (Sto (Old w7) w7 (.agg #[.slice X0 s.1.1.length x0, .slice X1 s.1.2.length x1, .slice X2 s.2.1.length x2, .slice X3 s.2.2.length x3]) s) := Lib.hid (HG.out.at 2 rfl)
  have k2 : Hid (rBy (Old w7) w7 [.slice E b.length ce] b) := Lib.hid (HG.out.at 8 rfl)
  go_wp2_with fail
  with_reducible refine (htk.out _ _ k1.out k2.out).mono ?_
  rintro e8 w8 ⟨P8, p8, Q8, q8, R8, r8, K8, k8, rfl, t8, hb8⟩
  obtain ⟨w8b, hw8, G8, _, hc8, _⟩ := bag_four (HG.out.below hb8) (Below.refl _ _) (.slice P8 T.1.1.length p8) (.slice Q8 T.1.2.length q8) (.slice R8 T.2.1.length r8) (.slice K8 T.2.2.length k8) 28
  replace HG := Lib.hid (G8.add (F := NewR w5.heap.size (.agg #[.slice P8 T.1.1.length p8, .slice Q8 T.1.2.length q8, .slice R8 T.2.1.length r8, .slice K8 T.2.2.length k8]) T) (t8.new C3.out.size hc8) (lasts_newR _ _ _))
  replace C3 := Lib.hid (C3.out.trans ((hb8.trans (hc8.mono hb8.size)).mono C3.out.size))
  clear t8 hb8 hc8 G8 k1 k2 z10 z11 z12 z13
  go_upto_region 7 with fail
  clear hw8
  obtain ⟨z10, z11, z12, z13, _⟩ := HG.out.at 7 rfl
  have k1 : Hid (Sto (Old w8b) w8b (.agg #[.slice A s.1.1.length ca, .slice B s.1.2.length cb, .slice N s.2.1.length cn, .slice L s.2.2.length cl]) s) := Lib.hid (HG.out.at 9 rfl)
  have k2 : Hid (rBy (Old w8b) w8b [.slice E b.length ce] b) := Lib.hid (HG.out.at 10 rfl)
  go_wp2_with fail
  with_reducible refine (hrtk.out _ _ k1.out k2.out).mono ?_
  rintro e9 w9 ⟨P9, p9, Q9, q9, R9, r9, K9, k9, rfl, t9, hb9⟩
  obtain ⟨w9b, hw9, G9, _, hc9, _⟩ := bag_four (HG.out.below hb9) (Below.refl _ _) (.slice P9 T.1.1.length p9) (.slice Q9 T.1.2.length q9) (.slice R9 T.2.1.length r9) (.slice K9 T.2.2.length k9) 28
  replace HG := Lib.hid (G9.add (F := OldR (.agg #[.slice P9 T.1.1.length p9, .slice Q9 T.1.2.length q9, .slice R9 T.2.1.length r9, .slice K9 T.2.2.length k9]) T) (t9.below hc9) (lasts_oldR _ _))
  replace C3 := Lib.hid (C3.out.trans ((hb9.trans (hc9.mono hb9.size)).mono C3.out.size))
  clear t9 hb9 hc9 G9 k1 k2 z10 z11 z12 z13
  go_upto_region 8 with fail
  clear hw9
  obtain ⟨z10, z11, z12, z13, _⟩ := HG.out.at 7 rfl
  have k1 : Hid (Sto (Old w9b) w9b (.agg #[.slice X0 s.1.1.length x0, .slice X1 s.1.2.length x1, .slice X2 s.2.1.length x2, .slice X3 s.2.2.length x3]) s) := Lib.hid (HG.out.at 6 rfl)
  go_wp2_with fail
  with_reducible refine (hsh.out _ _ k1.out).mono ?_
  rintro e10 w10 ⟨P10, p10, Q10, q10, R10, r10, K10, k10, rfl, t10, hb10⟩
  obtain ⟨w10b, hw10, G10, _, hc10, _⟩ := bag_four (HG.out.below hb10) (Below.refl _ _) (.slice P10 S.1.1.length p10) (.slice Q10 S.1.2.length q10) (.slice R10 S.2.1.length r10) (.slice K10 S.2.2.length k10) 28
  replace HG := Lib.hid (G10.add (F := NewR w5.heap.size (.agg #[.slice P10 S.1.1.length p10, .slice Q10 S.1.2.length q10, .slice R10 S.2.1.length r10, .slice K10 S.2.2.length k10]) S) (t10.new C3.out.size hc10) (lasts_newR _ _ _))
  replace C3 := Lib.hid (C3.out.trans ((hb10.trans (hc10.mono hb10.size)).mono C3.out.size))
  clear t10 hb10 hc10 G10 k1 z10 z11 z12 z13
  go_upto_region 9 with fail
  clear hw10
  obtain ⟨z10, z11, z12, z13, _⟩ := HG.out.at 11 rfl
  have k1 : Hid (Sto (Old w10b) w10b (.agg #[.slice A s.1.1.length ca, .slice B s.1.2.length cb, .slice N s.2.1.length cn, .slice L s.2.2.length cl]) s) := Lib.hid (HG.out.at 13 rfl)
  go_wp2_with fail
  with_reducible refine (hrsh.out _ _ k1.out).mono ?_
  rintro e11 w11 ⟨P11, p11, Q11, q11, R11, r11, K11, k11, rfl, t11, hb11⟩
  obtain ⟨w11b, hw11, G11, _, hc11, _⟩ := bag_four (HG.out.below hb11) (Below.refl _ _) (.slice P11 S.1.1.length p11) (.slice Q11 S.1.2.length q11) (.slice R11 S.2.1.length r11) (.slice K11 S.2.2.length k11) 28
  replace HG := Lib.hid (G11.add (F := OldR (.agg #[.slice P11 S.1.1.length p11, .slice Q11 S.1.2.length q11, .slice R11 S.2.1.length r11, .slice K11 S.2.2.length k11]) S) (t11.below hc11) (lasts_oldR _ _))
  replace C3 := Lib.hid (C3.out.trans ((hb11.trans (hc11.mono hb11.size)).mono C3.out.size))
  clear t11 hb11 hc11 G11 k1 z10 z11 z12 z13
  go_upto_region 10 with fail
  clear hw11
  obtain ⟨z10, z11, z12, z13, _⟩ := HG.out.at 11 rfl
  have k1 : Hid (Sto (Old w11b) w11b (.agg #[.slice X0 s.1.1.length x0, .slice X1 s.1.2.length x1, .slice X2 s.2.1.length x2, .slice X3 s.2.2.length x3]) s) := Lib.hid (HG.out.at 10 rfl)
  go_wp2_with fail
  with_reducible refine (hnd.out _ _ k1.out).mono ?_
  rintro e12 w12 ⟨Z12, q12, rfl, t12, hb12⟩
  obtain ⟨w12b, hw12, G12, _, hc12, _⟩ := bag_node (HG.out.below hb12) (Below.refl _ _) (.int .i64 D.1) (.slice Z12 D.2.length q12)
  replace HG := Lib.hid (G12.add (F := OldN (.agg #[.int .i64 D.1, .slice Z12 D.2.length q12]) D) (t12.below hc12) (lasts_oldN _ _))
  replace C3 := Lib.hid (C3.out.trans ((hb12.trans (hc12.mono hb12.size)).mono C3.out.size))
  clear t12 hb12 hc12 G12 k1 z10 z11 z12 z13
  go_upto_region 11 with fail
  clear hw12
  obtain ⟨z10, z11, z12, z13, _⟩ := HG.out.at 15 rfl
  have k1 : Hid (Sto (Old w12b) w12b (.agg #[.slice A s.1.1.length ca, .slice B s.1.2.length cb, .slice N s.2.1.length cn, .slice L s.2.2.length cl]) s) := Lib.hid (HG.out.at 17 rfl)
  go_wp2_with fail
  with_reducible refine (hrnd.out _ _ k1.out).mono ?_
  rintro e13 w13 ⟨Z13, q13, rfl, t13, hb13⟩
  obtain ⟨w13b, hw13, G13, _, hc13, _⟩ := bag_node (HG.out.below hb13) (Below.refl _ _) (.int .i64 D.1) (.slice Z13 D.2.length q13)
  replace HG := Lib.hid (G13.add (F := OldN (.agg #[.int .i64 D.1, .slice Z13 D.2.length q13]) D) (t13.below hc13) (lasts_oldN _ _))
  replace C3 := Lib.hid (C3.out.trans ((hb13.trans (hc13.mono hb13.size)).mono C3.out.size))
  clear t13 hb13 hc13 G13 k1 z10 z11 z12 z13
  go_upto_region 12 with fail
  clear hw13
  clear hfr hrfr htk hrtk hsh hrsh hnd hrnd
  -- all is the same
  have nk : (ck != ck) = false := by simp
  have nn : (tn != tn) = false := by simp
  have nt : (te != te) = false := by simp
  have ns : (se != se) = false := by simp
  have nd : (de != de) = false := by simp
  have k1 : Hid (rInts (Old w13b) w13b [.slice Z6 F.length q6] F) := Lib.hid (HG.out.at 13 rfl)
  have k2 : Hid (rInts (Old w13b) w13b [.slice Z7 F.length q7] F) := Lib.hid (HG.out.at 12 rfl)
  go_wp2_with fail
  with_reducible refine (sameNumbers_any _ _ F F _ k1.out k2.out).mono ?_
  rintro e14 w14 ⟨rfl, hb14⟩
  rw [show decide (F = F) = true by simp]
  replace HG := Lib.hid (HG.out.below hb14)
  replace C3 := Lib.hid (C3.out.trans (hb14.mono C3.out.size))
  clear hb14 k1 k2
  obtain ⟨z10, z11, z12, z13, _⟩ := HG.out.at 11 rfl
  obtain ⟨z20, z21, z22, z23, _⟩ := HG.out.at 9 rfl
  have k1 : Hid (Sto (Old w14) w14 (.agg #[.slice P8 T.1.1.length p8, .slice Q8 T.1.2.length q8, .slice R8 T.2.1.length r8, .slice K8 T.2.2.length k8]) T) := Lib.hid (Sto.drop (HG.out.at 10 rfl : Sto (New w5.heap.size w14) w14 _ T))
  have k2 : Hid (Sto (Old w14) w14 (.agg #[.slice P9 T.1.1.length p9, .slice Q9 T.1.2.length q9, .slice R9 T.2.1.length r9, .slice K9 T.2.2.length k9]) T) := Lib.hid (HG.out.at 8 rfl)
  go_wp2_with fail
  with_reducible refine (refSameR_any _ _ T T _ k1.out k2.out).mono ?_
  rintro e15 w15 ⟨rfl, hb15⟩
  rw [sameR_refl]
  replace HG := Lib.hid (HG.out.below hb15)
  replace C3 := Lib.hid (C3.out.trans (hb15.mono C3.out.size))
  clear hb15 k1 k2 z10 z11 z12 z13 z20 z21 z22 z23
  obtain ⟨z10, z11, z12, z13, _⟩ := HG.out.at 7 rfl
  obtain ⟨z20, z21, z22, z23, _⟩ := HG.out.at 5 rfl
  have k1 : Hid (Sto (Old w15) w15 (.agg #[.slice P10 S.1.1.length p10, .slice Q10 S.1.2.length q10, .slice R10 S.2.1.length r10, .slice K10 S.2.2.length k10]) S) := Lib.hid (Sto.drop (HG.out.at 6 rfl : Sto (New w5.heap.size w15) w15 _ S))
  have k2 : Hid (Sto (Old w15) w15 (.agg #[.slice P11 S.1.1.length p11, .slice Q11 S.1.2.length q11, .slice R11 S.2.1.length r11, .slice K11 S.2.2.length k11]) S) := Lib.hid (HG.out.at 4 rfl)
  go_wp2_with fail
  with_reducible refine (refSameR_any _ _ S S _ k1.out k2.out).mono ?_
  rintro e16 w16 ⟨rfl, hb16⟩
  rw [sameR_refl]
  replace HG := Lib.hid (HG.out.below hb16)
  replace C3 := Lib.hid (C3.out.trans (hb16.mono C3.out.size))
  clear hb16 k1 k2 z10 z11 z12 z13 z20 z21 z22 z23
  obtain ⟨z10, z11, _⟩ := HG.out.at 3 rfl
  obtain ⟨z20, z21, _⟩ := HG.out.at 1 rfl
  have k1 : Hid (Nod (Old w16) w16 (.agg #[.int .i64 D.1, .slice Z12 D.2.length q12]) D) := Lib.hid (HG.out.at 2 rfl)
  have k2 : Hid (Nod (Old w16) w16 (.agg #[.int .i64 D.1, .slice Z13 D.2.length q13]) D) := Lib.hid (HG.out.at 0 rfl)
  go_wp2_with fail
  with_reducible refine (refSameN_any _ _ D D _ k1.out k2.out).mono ?_
  rintro e17 w17 ⟨rfl, hb17⟩
  rw [sameN_self]
  replace HG := Lib.hid (HG.out.below hb17)
  replace C3 := Lib.hid (C3.out.trans (hb17.mono C3.out.size))
  clear hb17 k1 k2 z10 z11 z20 z21
  go_upto_region 14 with fail
  clear nn nt ns nd
  obtain ⟨wI, rfl⟩ : ∃ wI : World, wI = w17 := ⟨_, rfl⟩
  have HO : Hid (∀ W, Below wI.heap.size wI W → Sto (Old W) W (.agg #[.slice X0 s.1.1.length x0, .slice X1 s.1.2.length x1, .slice X2 s.2.1.length x2, .slice X3 s.2.2.length x3]) s ∧ Sto (Old W) W (.agg #[.slice A s.1.1.length ca, .slice B s.1.2.length cb, .slice N s.2.1.length cn, .slice L s.2.2.length cl]) s ∧ Sto (Old W) W (.agg #[.slice A' o.1.1.length ca', .slice B' o.1.2.length cb', .slice N' o.2.1.length cn', .slice L' o.2.2.length cl']) o) := Lib.hid fun W hW => by
    have H := HG.out.below hW
    exact ⟨H.at 14 rfl, H.at 19 rfl, H.at 18 rfl⟩
  have HX : Hid (∀ W, Below wI.heap.size wI W → Box4 w4.heap.size (.slice X0 s.1.1.length x0) (.slice X1 s.1.2.length x1) (.slice X2 s.2.1.length x2) (.slice X3 s.2.2.length x3) W ∧ Box4 w.heap.size (.slice A s.1.1.length ca) (.slice B s.1.2.length cb) (.slice N s.2.1.length cn) (.slice L s.2.2.length cl) W ∧ Box4 (w.heap.size + 1) (.slice A' o.1.1.length ca') (.slice B' o.1.2.length cb') (.slice N' o.2.1.length cn') (.slice L' o.2.2.length cl') W) := Lib.hid fun W hW => by
    have H := HG.out.below hW
    exact ⟨H.at 15 rfl, H.at 17 rfl, H.at 16 rfl⟩
  obtain ⟨q, hq⟩ : ∃ q, sameR s o = q := ⟨_, rfl⟩
  have nq : (q != q) = false := by simp
  replace hq := Lib.hid hq
  obtain ⟨NR, hNR⟩ : ∃ q, newR = q := ⟨_, rfl⟩
  replace hNR := Lib.hid hNR
  refine wp_region_fx (by kernel_rfl) (fun W => Below wI.heap.size wI W) (fun i => match i with
      | 15 => some (fun v W => Sto (Old W) W v NR)
      | 16 => some (fun v W => Sto (Old W) W v NR)
      | 22 => some (fun v W => Sto (Old W) W v s)
      | _ => none) (fun i => match i with
      | 1 => some (.int .i64 ck)
      | 3 => some (.int .i64 ck)
      | 8 => some (.bool q)
      | 11 => some (.bool q)
      | 17 => some (.bool true)
      | 24 => some (.bool true)
      | _ => none) (by kernel_rfl) (Below.refl _ _).drew (fun w w' h hb => h.trans (hb.mono h.size)) ?tst2 ?_
  case tst2 =>
    intro j φ x W W' hp hx hb
    match j, hp with
    | 15, hp => cases hp; exact hx.below hb
    | 16, hp => cases hp; exact hx.below hb
    | 22, hp => cases hp; exact hx.below hb
  repeat (first
    | (refine wpAs_skip rfl ?_; simp only [Act.put, List.setIfInBounds_toArray, List.set_cons_zero, List.set_cons_succ])
    | (refine wpAs_pure (v := ?_) rfl rfl ?_ ?_; rotate_left; (intro W hC hE; clear hE; (obtain ⟨⟨a0, a1, a2, a3, _⟩, ⟨b0, b1, b2, b3, _⟩, ⟨c0, c1, c2, c3, _⟩⟩ := HX.out W hC); clear hC; go_simp; done); simp only [Act.put, List.setIfInBounds_toArray, List.set_cons_zero, List.set_cons_succ])
    | (refine wpAs_pure (v := ?_) rfl rfl ?_ ?_; rotate_left; (intro W hC hE; clear hE; (obtain ⟨⟨a0, a1, a2, a3, _⟩, ⟨b0, b1, b2, b3, _⟩, ⟨c0, c1, c2, c3, _⟩⟩ := HX.out W hC); clear hC; go_simp; with_reducible rfl); simp only [Act.put, List.setIfInBounds_toArray, List.set_cons_zero, List.set_cons_succ]))
  refine wpAs_fixed rfl rfl rfl ?_ ?_
  · intro W hC hE
    refine does_enter (f := 17) (args := #[.agg #[.slice X0 s.1.1.length x0, .slice X1 s.1.2.length x1, .slice X2 s.2.1.length x2, .slice X3 s.2.2.length x3]]) ?_ ?_
    · clear hC hE
      go_simp
    · refine (checkR_any _ s W (HO.out W hC).1).mono ?_
      rintro e W' ⟨rfl, hg⟩
      rw [hck.out]
      exact ⟨_, rfl, rfl, hg⟩
  simp only [Act.put, List.setIfInBounds_toArray, List.set_cons_zero, List.set_cons_succ]
  repeat (first
    | (refine wpAs_skip rfl ?_; simp only [Act.put, List.setIfInBounds_toArray, List.set_cons_zero, List.set_cons_succ])
    | (refine wpAs_pure (v := ?_) rfl rfl ?_ ?_; rotate_left; (intro W hC hE; clear hE; (obtain ⟨⟨a0, a1, a2, a3, _⟩, ⟨b0, b1, b2, b3, _⟩, ⟨c0, c1, c2, c3, _⟩⟩ := HX.out W hC); clear hC; go_simp; done); simp only [Act.put, List.setIfInBounds_toArray, List.set_cons_zero, List.set_cons_succ])
    | (refine wpAs_pure (v := ?_) rfl rfl ?_ ?_; rotate_left; (intro W hC hE; clear hE; (obtain ⟨⟨a0, a1, a2, a3, _⟩, ⟨b0, b1, b2, b3, _⟩, ⟨c0, c1, c2, c3, _⟩⟩ := HX.out W hC); clear hC; go_simp; with_reducible rfl); simp only [Act.put, List.setIfInBounds_toArray, List.set_cons_zero, List.set_cons_succ]))
  refine wpAs_fixed rfl rfl rfl ?_ ?_
  · intro W hC hE
    refine does_enter (f := 18) (args := #[.agg #[.slice A s.1.1.length ca, .slice B s.1.2.length cb, .slice N s.2.1.length cn, .slice L s.2.2.length cl]]) ?_ ?_
    · clear hC hE
      go_simp
    · refine (refCheckR_any _ s W (HO.out W hC).2.1).mono ?_
      rintro e W' ⟨rfl, hg⟩
      rw [hck.out]
      exact ⟨_, rfl, rfl, hg⟩
  simp only [Act.put, List.setIfInBounds_toArray, List.set_cons_zero, List.set_cons_succ]
  repeat (first
    | (refine wpAs_skip rfl ?_; simp only [Act.put, List.setIfInBounds_toArray, List.set_cons_zero, List.set_cons_succ])
    | (refine wpAs_pure (v := ?_) rfl rfl ?_ ?_; rotate_left; (intro W hC hE; clear hE; (obtain ⟨⟨a0, a1, a2, a3, _⟩, ⟨b0, b1, b2, b3, _⟩, ⟨c0, c1, c2, c3, _⟩⟩ := HX.out W hC); clear hC; go_simp; done); simp only [Act.put, List.setIfInBounds_toArray, List.set_cons_zero, List.set_cons_succ])
    | (refine wpAs_pure (v := ?_) rfl rfl ?_ ?_; rotate_left; (intro W hC hE; clear hE; (obtain ⟨⟨a0, a1, a2, a3, _⟩, ⟨b0, b1, b2, b3, _⟩, ⟨c0, c1, c2, c3, _⟩⟩ := HX.out W hC); clear hC; go_simp; with_reducible rfl); simp only [Act.put, List.setIfInBounds_toArray, List.set_cons_zero, List.set_cons_succ]))
  refine wpAs_fixed rfl rfl rfl ?_ ?_
  · intro W hC hE
    refine does_enter (f := 19) (args := #[.agg #[.slice X0 s.1.1.length x0, .slice X1 s.1.2.length x1, .slice X2 s.2.1.length x2, .slice X3 s.2.2.length x3], .agg #[.slice A' o.1.1.length ca', .slice B' o.1.2.length cb', .slice N' o.2.1.length cn', .slice L' o.2.2.length cl']]) ?_ ?_
    · clear hC hE
      go_simp
    · refine (sameR_any _ _ s o W (HO.out W hC).1 (HO.out W hC).2.2).mono ?_
      rintro e W' ⟨rfl, hg⟩
      rw [hq.out]
      exact ⟨_, rfl, rfl, hg⟩
  simp only [Act.put, List.setIfInBounds_toArray, List.set_cons_zero, List.set_cons_succ]
  repeat (first
    | (refine wpAs_skip rfl ?_; simp only [Act.put, List.setIfInBounds_toArray, List.set_cons_zero, List.set_cons_succ])
    | (refine wpAs_pure (v := ?_) rfl rfl ?_ ?_; rotate_left; (intro W hC hE; clear hE; (obtain ⟨⟨a0, a1, a2, a3, _⟩, ⟨b0, b1, b2, b3, _⟩, ⟨c0, c1, c2, c3, _⟩⟩ := HX.out W hC); clear hC; go_simp; done); simp only [Act.put, List.setIfInBounds_toArray, List.set_cons_zero, List.set_cons_succ])
    | (refine wpAs_pure (v := ?_) rfl rfl ?_ ?_; rotate_left; (intro W hC hE; clear hE; (obtain ⟨⟨a0, a1, a2, a3, _⟩, ⟨b0, b1, b2, b3, _⟩, ⟨c0, c1, c2, c3, _⟩⟩ := HX.out W hC); clear hC; go_simp; with_reducible rfl); simp only [Act.put, List.setIfInBounds_toArray, List.set_cons_zero, List.set_cons_succ]))
  refine wpAs_fixed rfl rfl rfl ?_ ?_
  · intro W hC hE
    refine does_enter (f := 15) (args := #[.agg #[.slice A s.1.1.length ca, .slice B s.1.2.length cb, .slice N s.2.1.length cn, .slice L s.2.2.length cl], .agg #[.slice A' o.1.1.length ca', .slice B' o.1.2.length cb', .slice N' o.2.1.length cn', .slice L' o.2.2.length cl']]) ?_ ?_
    · clear hC hE
      go_simp
    · refine (refSameR_any _ _ s o W (HO.out W hC).2.1 (HO.out W hC).2.2).mono ?_
      rintro e W' ⟨rfl, hg⟩
      rw [hq.out]
      exact ⟨_, rfl, rfl, hg⟩
  simp only [Act.put, List.setIfInBounds_toArray, List.set_cons_zero, List.set_cons_succ]
  repeat (first
    | (refine wpAs_skip rfl ?_; simp only [Act.put, List.setIfInBounds_toArray, List.set_cons_zero, List.set_cons_succ])
    | (refine wpAs_pure (v := ?_) rfl rfl ?_ ?_; rotate_left; (intro W hC hE; clear hE; (obtain ⟨⟨a0, a1, a2, a3, _⟩, ⟨b0, b1, b2, b3, _⟩, ⟨c0, c1, c2, c3, _⟩⟩ := HX.out W hC); clear hC; go_simp; done); simp only [Act.put, List.setIfInBounds_toArray, List.set_cons_zero, List.set_cons_succ])
    | (refine wpAs_pure (v := ?_) rfl rfl ?_ ?_; rotate_left; (intro W hC hE; clear hE; (obtain ⟨⟨a0, a1, a2, a3, _⟩, ⟨b0, b1, b2, b3, _⟩, ⟨c0, c1, c2, c3, _⟩⟩ := HX.out W hC); clear hC; go_simp; with_reducible rfl); simp only [Act.put, List.setIfInBounds_toArray, List.set_cons_zero, List.set_cons_succ]))
  refine wpAs_act rfl rfl ?_ ?_
  · intro W hC hE
    refine does_enter (f := 20) (args := #[]) ?_ ?_
    · clear hC hE
      go_simp
    · refine (newR_any W).mono ?_
      rintro e W' ⟨t, rfl, ht, hb⟩
      rw [hNR.out] at ht; exact ⟨_, rfl, ht.drop, hb⟩
  simp only [Act.put, List.setIfInBounds_toArray, List.set_cons_zero, List.set_cons_succ, envAdd]
  intro x151
  refine wpAs_act rfl rfl ?_ ?_
  · intro W hC hE
    refine does_enter (f := 21) (args := #[]) ?_ ?_
    · clear hC hE
      go_simp
    · refine (refNewR_any W).mono ?_
      rintro e W' ⟨t, rfl, ht, hb⟩
      rw [hNR.out] at ht; exact ⟨_, rfl, ht.drop, hb⟩
  simp only [Act.put, List.setIfInBounds_toArray, List.set_cons_zero, List.set_cons_succ, envAdd]
  intro x152
  refine wpAs_fixed rfl rfl rfl ?_ ?_
  · intro W hC hE
    have hx : Sto (Old W) W x151 NR ∧ Sto (Old W) W x152 NR := ⟨hE.2.1 rfl, hE.1 rfl⟩
    refine does_enter (f := 15) (args := #[x151, x152]) ?_ ?_
    · clear hC hE hx
      go_simp
    · refine (refSameR_any _ _ NR NR W hx.1 hx.2).mono ?_
      rintro e W' ⟨rfl, hg⟩
      rw [sameR_refl]
      exact ⟨_, rfl, rfl, hg⟩
  simp only [Act.put, List.setIfInBounds_toArray, List.set_cons_zero, List.set_cons_succ]
  repeat (first
    | (refine wpAs_skip rfl ?_; simp only [Act.put, List.setIfInBounds_toArray, List.set_cons_zero, List.set_cons_succ])
    | (refine wpAs_pure (v := ?_) rfl rfl ?_ ?_; rotate_left; (intro W hC hE; clear hE; (obtain ⟨⟨a0, a1, a2, a3, _⟩, ⟨b0, b1, b2, b3, _⟩, ⟨c0, c1, c2, c3, _⟩⟩ := HX.out W hC); clear hC; go_simp; done); simp only [Act.put, List.setIfInBounds_toArray, List.set_cons_zero, List.set_cons_succ])
    | (refine wpAs_pure (v := ?_) rfl rfl ?_ ?_; rotate_left; (intro W hC hE; clear hE; (obtain ⟨⟨a0, a1, a2, a3, _⟩, ⟨b0, b1, b2, b3, _⟩, ⟨c0, c1, c2, c3, _⟩⟩ := HX.out W hC); clear hC; go_simp; with_reducible rfl); simp only [Act.put, List.setIfInBounds_toArray, List.set_cons_zero, List.set_cons_succ]))
  refine wpAs_act rfl rfl ?_ ?_
  · intro W hC hE
    refine does_enter (f := 22) (args := #[.agg #[.slice X0 s.1.1.length x0, .slice X1 s.1.2.length x1, .slice X2 s.2.1.length x2, .slice X3 s.2.2.length x3]]) ?_ ?_
    · clear hC hE
      go_simp
    · refine (twinR_any _ s hsm.out W (HO.out W hC).1).mono ?_
      rintro e W' ⟨P, pc, Q, qc, R, rc, K, kc, rfl, ht, hb⟩
      exact ⟨_, rfl, ht.drop, hb⟩
  simp only [Act.put, List.setIfInBounds_toArray, List.set_cons_zero, List.set_cons_succ, envAdd]
  intro x158
  repeat (first
    | (refine wpAs_skip rfl ?_; simp only [Act.put, List.setIfInBounds_toArray, List.set_cons_zero, List.set_cons_succ])
    | (refine wpAs_pure (v := ?_) rfl rfl ?_ ?_; rotate_left; (intro W hC hE; clear hE; (obtain ⟨⟨a0, a1, a2, a3, _⟩, ⟨b0, b1, b2, b3, _⟩, ⟨c0, c1, c2, c3, _⟩⟩ := HX.out W hC); clear hC; go_simp; done); simp only [Act.put, List.setIfInBounds_toArray, List.set_cons_zero, List.set_cons_succ])
    | (refine wpAs_pure (v := ?_) rfl rfl ?_ ?_; rotate_left; (intro W hC hE; clear hE; (obtain ⟨⟨a0, a1, a2, a3, _⟩, ⟨b0, b1, b2, b3, _⟩, ⟨c0, c1, c2, c3, _⟩⟩ := HX.out W hC); clear hC; go_simp; with_reducible rfl); simp only [Act.put, List.setIfInBounds_toArray, List.set_cons_zero, List.set_cons_succ]))
  refine wpAs_fixed rfl rfl rfl ?_ ?_
  · intro W hC hE
    have hx : Sto (Old W) W x158 s := hE.1 rfl
    refine does_enter (f := 15) (args := #[x158, .agg #[.slice A s.1.1.length ca, .slice B s.1.2.length cb, .slice N s.2.1.length cn, .slice L s.2.2.length cl]]) ?_ ?_
    · clear hC hE hx
      go_simp
    · refine (refSameR_any _ _ s s W hx (HO.out W hC).2.1).mono ?_
      rintro e W' ⟨rfl, hg⟩
      rw [sameR_refl]
      exact ⟨_, rfl, rfl, hg⟩
  simp only [Act.put, List.setIfInBounds_toArray, List.set_cons_zero, List.set_cons_succ]
  repeat (first
    | (refine wpAs_skip rfl ?_; simp only [Act.put, List.setIfInBounds_toArray, List.set_cons_zero, List.set_cons_succ])
    | (refine wpAs_pure (v := ?_) rfl rfl ?_ ?_; rotate_left; (intro W hC hE; clear hE; (obtain ⟨⟨a0, a1, a2, a3, _⟩, ⟨b0, b1, b2, b3, _⟩, ⟨c0, c1, c2, c3, _⟩⟩ := HX.out W hC); clear hC; go_simp; done); simp only [Act.put, List.setIfInBounds_toArray, List.set_cons_zero, List.set_cons_succ])
    | (refine wpAs_pure (v := ?_) rfl rfl ?_ ?_; rotate_left; (intro W hC hE; clear hE; (obtain ⟨⟨a0, a1, a2, a3, _⟩, ⟨b0, b1, b2, b3, _⟩, ⟨c0, c1, c2, c3, _⟩⟩ := HX.out W hC); clear hC; go_simp; with_reducible rfl); simp only [Act.put, List.setIfInBounds_toArray, List.set_cons_zero, List.set_cons_succ]))
  refine wpAs_end fun W hC hE => ?_
  clear hE
  replace HG := Lib.hid (HG.out.below hC)
  replace C3 := Lib.hid (C3.out.trans (hC.mono C3.out.size))
  clear hC HO HX hq hNR nk nq
  -- all is turned
  have BT := HG.out.at 11 rfl
  obtain ⟨z0, z1, z2, z3, _⟩ := BT
  have BA : Hid (Box4 w10.heap.size (.slice P10 S.1.1.length p10) (.slice Q10 S.1.2.length q10) (.slice R10 S.2.1.length r10) (.slice K10 S.2.2.length k10) W) := Lib.hid (HG.out.at 7 rfl)
  have kT : Hid (Sto (New w5.heap.size W) W (.agg #[.slice P8 T.1.1.length p8, .slice Q8 T.1.2.length q8, .slice R8 T.2.1.length r8, .slice K8 T.2.2.length k8]) T) := Lib.hid (HG.out.at 10 rfl)
  have kA : Hid (Sto (New w5.heap.size W) W (.agg #[.slice P10 S.1.1.length p10, .slice Q10 S.1.2.length q10, .slice R10 S.2.1.length r10, .slice K10 S.2.2.length k10]) S) := Lib.hid (HG.out.at 6 rfl)
  clear HG
  go_wp2_with fail
  with_reducible refine (spoil8_any _ T w5.heap.size _ C3.out.size kT.out).mono ?_
  rintro eA WA ⟨⟨uA, rfl⟩, hS⟩
  have CA := Lib.hid (C3.out.trans hS.low)
  obtain ⟨S1, kS⟩ := hS.sto kA.out
  replace kS := Lib.hid kS
  have BA' := hS.box4 BA.out
  clear z0 z1 z2 z3 hS kA kT BA C3
  obtain ⟨z0, z1, z2, z3, _⟩ := BA'
  go_wp2_with fail
  with_reducible refine (spoil8_any _ S1 w5.heap.size _ CA.out.size kS.out).mono ?_
  rintro eB WB ⟨⟨uB, rfl⟩, hS⟩
  have CB := Lib.hid (CA.out.trans hS.low)
  clear z0 z1 z2 z3 hS kS CA
  replace HG3 := Lib.hid (HG3.out)
  have HB := Lib.hid (HG3.out.below CB.out)
  obtain ⟨z0, z1, z2, z3, _⟩ := HB.out.at 1 rfl
  have k1 : Hid (Sto (Old WB) WB (.agg #[.slice X0 s.1.1.length x0, .slice X1 s.1.2.length x1, .slice X2 s.2.1.length x2, .slice X3 s.2.2.length x3]) s) := Lib.hid (HB.out.at 0 rfl)
  go_wp2_with fail
  with_reducible refine (twinR_any _ s hsm.out _ k1.out).mono ?_
  rintro eC WC ⟨PC, pC, QC, qC, RC, rC, KC, kC, rfl, tC, hbC⟩
  have kC' := Lib.hid (tC.new CB.out.size (Below.refl _ _))
  have CC := Lib.hid (CB.out.trans (hbC.mono CB.out.size))
  clear z0 z1 z2 z3 k1 tC hbC HB CB
  go_wp2_with fail
  with_reducible refine (spoil8_any _ s w5.heap.size _ CC.out.size kC'.out).mono ?_
  rintro eD WD ⟨⟨uD, rfl⟩, hS⟩
  have CD := Lib.hid (CC.out.trans hS.low)
  clear hS kC' CC
  have HD := Lib.hid (HG3.out.below CD.out)
  have BD := Lib.hid (BB.out.trans (CD.out.mono BB.out.size))
  obtain ⟨z0, z1, z2, z3, _⟩ := HD.out.at 1 rfl
  obtain ⟨y0, y1, y2, y3, _⟩ := HD.out.at 3 rfl
  have k1 : Hid (Sto (Old WD) WD (.agg #[.slice X0 s.1.1.length x0, .slice X1 s.1.2.length x1, .slice X2 s.2.1.length x2, .slice X3 s.2.2.length x3]) s) := Lib.hid (HD.out.at 0 rfl)
  have k2 : Hid (Sto (Old WD) WD (.agg #[.slice A s.1.1.length ca, .slice B s.1.2.length cb, .slice N s.2.1.length cn, .slice L s.2.2.length cl]) s) := Lib.hid (HD.out.at 5 rfl)
  go_wp2_with fail
  with_reducible refine (refSameR_any _ _ s s _ k1.out k2.out).mono ?_
  rintro eF WF ⟨rfl, hbF⟩
  rw [sameR_refl]
  go_wp2_with fail
  go_ret
  exact ⟨rfl, BD.out.trans (hbF.mono BD.out.size)⟩

/-! ### The row's step -/
set_option maxRecDepth 100000 in
theorem lifted (os : Os) (started : os.Started) (H : Type) (enc : TypeId × Value → H) :
    ReturnsInHanded {} Tryz.checked os 3 .any (Rows.roomDoesSpec.pre6 enc Tryz.prog Tryz.f3 Rows.roomDoesRow.domain false) (Rows.roomDoesSpec.post enc Tryz.prog Tryz.f3 false true false false) := by
  refine returnsInHanded_of_change (C := Tryz.checked) own started (by kernel_rfl) Tryz.func3
    (ChangeSpec.witness6 (enc := enc) (C := Tryz.checked) false ⟨#[], #[.agg #[.slice none 0 0, .slice none 0 0, .slice none 0 0, .slice none 0 0], .agg #[.slice none 0 0, .slice none 0 0, .slice none 0 0, .slice none 0 0], .slice none 0 0, .int .i64 0], []⟩ 8 (by kernel_rfl) (by kernel_rfl) (by kernel_rfl) (by kernel_rfl)) ?_
  intro W base args ds gs before hval0 hW _ _
  have hval : ∀ (j : Nat) t v, Tryz.f3.params[j]? = some t → args[j]? = some v → Value.okWide Tryz.prog W .any base t v := hval0
  have hW' := hW
  obtain ⟨p, q, hA0, hV, _, _, _⟩ := hW
  have hA : DataW.TrodAll enc Tryz.prog W 0 (fun _ => true) true Tryz.f3.params.toList args.toList ds p := hA0
  rw [Tryz.params3] at hA hval
  obtain ⟨v0, vs0, d0, ds0, p0, q0, hargs, rfl, _, h0, r0⟩ := trodAll_cons hA
  obtain ⟨v1, vs1, d1, ds1, p1, q1, rfl, rfl, _, h1, r1⟩ := trodAll_cons r0
  obtain ⟨v2, vs2, d2, ds2, p2, q2, rfl, rfl, _, h2, r2⟩ := trodAll_cons r1
  obtain ⟨v3, vs3, d3, ds3, p3, q3, rfl, rfl, _, h3, r3⟩ := trodAll_cons r2
  obtain ⟨rfl, rfl, _⟩ := trodAll_nil r3
  obtain rfl : args = #[v0, v1, v2, v3] := by cases args; simp_all
  obtain ⟨rfl, _⟩ := trodVars_none hV
  obtain ⟨d0x, y0⟩ := open_store (hval 0 28 v0 rfl rfl) h0
  obtain ⟨d1x, y1⟩ := open_store (hval 1 28 v1 rfl rfl) h1
  obtain ⟨d2x, y2⟩ := open_by (hval 2 26 v2 rfl rfl) h2
  obtain ⟨a3, rfl, _, _, w3⟩ := open_int Tryz.underlying3 (hval 3 3 v3 rfl rfl) h3
  clear hA0 hval0
  refine (walk v0 d0x v1 d1x v2 d2x a3 w3 W y0 y1 y2).mono fun e W' ⟨he, hb⟩ => ?_
  subst he
  exact ⟨_, rfl, law_post laidOut (by rw [Tryz.params3]; decide +kernel) (by kernel_rfl) Tryz.underlying4 rfl ⟨rfl, by simp [Rows.roomDoesSpec], rfl⟩ hW' hb⟩

theorem over : Rows.roomDoesRow.holds Tryz.pinned (OpenSpec.ofChange Rows.roomDoesSpec) :=
  OpenClaim.holds_of_wide 3 Tryz.f3 rfl rfl rfl rfl rfl rfl rfl ⟨rfl, rfl, rfl, rfl, rfl⟩ rfl rfl rfl rfl rfl (by kernel_rfl) Tryz.func3 (by kernel_rfl)
    (of_decide_eq_true (by kernel_rfl)) (by unfold Func.isWrapper; first | (rw [if_pos (by decide +kernel)]; kernel_rfl) | (rw [if_neg (by decide +kernel)]; exact ⟨rfl, rfl⟩))
    (fun os started H enc _ => lifted os started H enc)

end Go.Proofs.YtjlbkcnhbndgbaaGreat.roomDoes
namespace Go.Proofs.YtjlbkcnhbndgbaaGreat
theorem roomDoes_proved : Rows.RoomDoesSaid := roomDoes.over
end Go.Proofs.YtjlbkcnhbndgbaaGreat
