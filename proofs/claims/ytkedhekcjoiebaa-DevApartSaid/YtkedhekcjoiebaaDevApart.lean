/-
  For every disk, two places and blocks DevApart answers true and leaves its arguments as they were. No condition.
-/
import Derived.Test.YtkedhekcjoiebaaGen03
import Derived.Deep.CutBlock
namespace Go.Proofs.Ytkedhekcjoiebaa.devApart
open Go.ChangeShapes Go.WideShapes Go.RowKit

theorem own : ownKnob Try.prog.godebug = none := by kernel_rfl
theorem laidOut : laidOutB Try.prog = true := by kernel_rfl

/-- Two writes to two blocks, in either order. -/
theorem settled_swap {d : Dk} {i j : Nat} {a b : List UInt8} (hne : i ≠ j) : settledD (wrD (wrD d i a) j b) = settledD (wrD (wrD d j b) i a) := by
  refine Prod.ext ?_ rfl
  refine List.ext_getElem? fun k => ?_
  by_cases hk : k < 256
  · rw [settled_at hk, settled_at hk]
    by_cases h1 : k = j
    · subst h1
      rw [seenD_write, seenD_write_ne (Ne.symm hne), seenD_write]
    · rw [seenD_write_ne h1]
      by_cases h2 : k = i
      · subst h2
        rw [seenD_write, seenD_write]
      · rw [seenD_write_ne h2, seenD_write_ne h2, seenD_write_ne h1]
  · rw [List.getElem?_eq_none (by rw [settled_len1]; omega), List.getElem?_eq_none (by rw [settled_len1]; omega)]
theorem bool_info0 : (Try.prog.info? 4).map (fun i => (i.zero, i.size, i.bytes)) = some (some (.bool false), 1, 1) := by kernel_rfl
theorem make_bools (n : Nat) (hn : n ≤ 100000) (w : World) : ∃ (ad : Addr) (w' : World), (Instr.makeSlice 36 (.int .i64 n) (.int .i64 n)).run Try.prog w = .ok (.slice (some ad) n n) w' ∧ ad.block = w.heap.size ∧
    w'.ownsRow w.heap.size 4 1 (.slice (some ad) n n) n (List.replicate n (.bool false)) ∧ Below w.heap.size w w' ∧ w'.heap.size = w.heap.size + 1 := by
  obtain ⟨i0, hi, hz0, hz1, hz2⟩ := info_parts bool_info0
  have h1 := run_make (P := Try.prog) w 36 4 i0 (.bool false) Try.underlying36 hi hz0 .i64 .i64 n n (by omega) (by omega) (by rw [hz2]; omega) (by omega)
  rw [hz1, Int.toNat_natCast] at h1
  refine ⟨_, _, h1, rfl, ⟨by simp, .inr ⟨_, n, _, rfl, Nat.le_refl _, heap_alloc_new w _, Nat.le_refl _, by unfold maxLen; omega, ?_, ?_⟩⟩, (Below.refl _ _).alloc (Nat.le_refl _) _, by simp⟩
  · have := congrArg List.length (made_one (.bool false) n)
    simpa [Value.cells] using this
  · have := made_one (.bool false) n
    simp only [Value.cells]
    rw [this]
    simp

set_option maxRecDepth 100000 in
set_option maxHeartbeats 8000000 in
theorem walk (v : Value) (d : Dk) (p : Int) (hp : (Lit.int .i64 p).wf = true) (u : Value) (xs : List UInt8) (q : Int) (hq : (Lit.int .i64 q).wf = true) (u' : Value) (ys : List UInt8) (w : World) (h : Dsk (Old w) w v d) (hu : rBy (Old w) w [u] xs) (hu' : rBy (Old w) w [u'] ys) :
    Calls Try.prog 7 #[v, .int .i64 p, u, .int .i64 q, u'] w fun e w' => e = .returned (.bool true) ∧ Below w.heap.size w w' := by
  clear hp hq
  obtain ⟨A, c, B, e, rfl, _⟩ := id h.open
  obtain ⟨E, ce, rfl, _⟩ := id (rBy_open hu)
  obtain ⟨F, cf, rfl, _⟩ := id (rBy_open hu')
  obtain ⟨w0, hw0, b0, hs0, hB0⟩ := box_pair' w (.slice A d.1.length c) (.slice B d.2.length e) 30
  replace h := Lib.hid h
  replace hu := Lib.hid hu
  replace hu' := Lib.hid hu'
  replace b0 := Lib.hid b0
  replace hs0 := Lib.hid hs0
  go_enter Try.func7, Try.ntmps7
  go_upto_region 1 with fail
  clear hw0
  go_wp2_with fail
  with_reducible refine (alive_any _).mono ?_
  rintro e1 w1 ⟨rfl, hb1⟩
  have hB1 := hB0.trans (hb1.mono hB0.size)
  have b1 := (hb1.block w.heap.size (by rw [hs0.out]; omega)).trans b0.out
  obtain ⟨z1, z2, _, lt⟩ := two_cells b1
  clear hb1 hB0 b0
  replace b1 := Lib.hid b1
  go_wp2_with fail
  with_reducible refine (great_any _ d _ (h.out.below hB1)).mono ?_
  rintro e2 w2 ⟨rfl, hb2⟩
  have hB2 := hB1.trans (hb2.mono hB1.size)
  have b2 := (hb2.block w.heap.size lt).trans b1.out
  clear hb2 hB1 b1 z1 z2 lt
  obtain ⟨z1, z2, _, lt⟩ := two_cells b2
  replace b2 := Lib.hid b2
  cases hg : greatB d with
  | true =>
    go_wp2_with fail
    go_ret
    exact ⟨rfl, hB2⟩
  | false =>
  clear hg
  by_cases hl : 10000 < xs.length
  · have hl' : (10000 : Int) < xs.length := by omega
    go_wp2_with fail
    go_ret
    exact ⟨rfl, hB2⟩
  have hl' : ¬ (10000 : Int) < xs.length := by omega
  by_cases hk : 10000 < ys.length
  · have hk' : (10000 : Int) < ys.length := by omega
    go_wp2_with fail
    go_ret
    exact ⟨rfl, hB2⟩
  have hk' : ¬ (10000 : Int) < ys.length := by omega
  clear hl hk
  go_wp2_with fail
  with_reducible refine (write_new _ _ d p xs _ (h.out.below hB2) (stab_by.old hu.out hB2)).mono ?_
  rintro e3 w3 ⟨A3, c3, B3, f3, rfl, hx3, hb3⟩
  have hB3 := hB2.trans (hb3.mono hB2.size)
  have b3 := (hb3.block w.heap.size lt).trans b2.out
  clear hb3 hB2 b2 z1 z2 lt
  obtain ⟨d1, hd1⟩ : ∃ d1, wrR d p xs = d1 := ⟨_, rfl⟩
  obtain ⟨q1, hq1⟩ : ∃ q1, wErr d p xs = q1 := ⟨_, rfl⟩
  rw [hd1] at hx3 ⊢
  rw [hq1]
  replace hd1 := Lib.hid hd1
  replace hq1 := Lib.hid hq1
  obtain ⟨w4, hw4, y4, hs4, hb4⟩ := box_pair' w3 (.slice A3 d1.1.length c3) (.slice B3 d1.2.length f3) 30
  have hB4 := hB3.trans (hb4.mono hB3.size)
  have lt3 : w.heap.size < w3.heap.size := (Array.getElem?_eq_some_iff.1 b3).1
  have b4 := (hb4.block w.heap.size lt3).trans b3
  have hx4 := Lib.hid (hx3.drop.below hb4)
  clear hx3 hb4 hB3 b3
  obtain ⟨z1, z2, _, lt⟩ := two_cells b4
  obtain ⟨z3, z4, _, lt4⟩ := two_cells y4
  replace b4 := Lib.hid b4
  replace y4 := Lib.hid y4
  replace hs4 := Lib.hid hs4
  go_upto_region 5 with fail
  clear hw4
  go_wp2_with fail
  with_reducible refine (write_new _ _ d1 q ys _ hx4.out (stab_by.old hu'.out hB4)).mono ?_
  rintro e5 w5 ⟨A5, c5, B5, f5, rfl, hx5, hb5⟩
  have hB5 := hB4.trans (hb5.mono hB4.size)
  have b5 := (hb5.block w.heap.size lt).trans b4.out
  have y5 := (hb5.block w3.heap.size lt4).trans y4.out
  have hsz5 := hb5.size
  clear hb5 hB4 b4 y4 z1 z2 z3 z4 lt hx4
  obtain ⟨d2, hd2⟩ : ∃ d2, wrR d1 q ys = d2 := ⟨_, rfl⟩
  obtain ⟨q2, hq2⟩ : ∃ q2, wErr d1 q ys = q2 := ⟨_, rfl⟩
  rw [hd2] at hx5 ⊢
  rw [hq2]
  replace hd2 := Lib.hid hd2
  replace hq2 := Lib.hid hq2
  obtain ⟨z3, z4, z5, _⟩ := two_cells y5
  obtain ⟨w6, hw6, y6, gr6, gs6⟩ := put_two (u := .slice A5 d2.1.length c5) (v := .slice B5 d2.2.length f5) y5
  have hB6 := hB5.grown gr6 hB5.size (fun r e => by cases e; omega)
  have b6 := (gr6.block w.heap.size (Array.getElem?_eq_some_iff.1 b5).1 (fun e => by simp only [Option.some.injEq] at e; omega)).trans b5
  have hx6 := Lib.hid (hx5.grown gr6 (fun r e => by cases e; exact lt4)).drop
  have lt6 : w4.heap.size ≤ w6.heap.size := by omega
  obtain ⟨z1, z2, _, lt⟩ := two_cells b6
  clear hx5 hB5 hsz5 gr6
  replace b5 := Lib.hid b5
  replace y5 := Lib.hid y5
  replace b6 := Lib.hid b6
  replace gs6 := Lib.hid gs6
  replace y6 := Lib.hid y6
  go_upto_region 6 with fail
  clear hw6 z3 z4 z5 b5 y5
  go_wp2_with fail
  with_reducible refine (write_new _ _ d q ys _ (h.out.below hB6) (stab_by.old hu'.out hB6)).mono ?_
  rintro e7 w7 ⟨A7, c7, B7, f7, rfl, hx7, hb7⟩
  have hB7 := hB6.trans (hb7.mono hB6.size)
  have y7 := (hb7.block w3.heap.size (by have := gs6.out; omega)).trans y6.out
  have lt7 := hb7.size
  have hb67 : Below w6.heap.size w6 w7 := hb7
  clear hB6 b6 z1 z2 lt
  obtain ⟨d3, hd3⟩ : ∃ d3, wrR d q ys = d3 := ⟨_, rfl⟩
  obtain ⟨q3, hq3⟩ : ∃ q3, wErr d q ys = q3 := ⟨_, rfl⟩
  rw [hd3] at hx7 ⊢
  rw [hq3]
  replace hd3 := Lib.hid hd3
  replace hq3 := Lib.hid hq3
  obtain ⟨w8, hw8, v8, hs8, hb8⟩ := box_pair' w7 (.slice A7 d3.1.length c7) (.slice B7 d3.2.length f7) 30
  have hB8 := hB7.trans (hb8.mono hB7.size)
  have y8 := (hb8.block w3.heap.size (by omega)).trans y7
  have hb68 := hb67.trans (hb8.mono hb67.size)
  have hx8 := Lib.hid (hx7.drop.below hb8)
  clear hx7 hb8 hB7 y7 hb67 hb7 y6
  obtain ⟨z3, z4, _, lt8⟩ := two_cells v8
  replace v8 := Lib.hid v8
  replace y8 := Lib.hid y8
  replace hs8 := Lib.hid hs8
  go_upto_region 7 with fail
  clear hw8
  go_wp2_with fail
  with_reducible refine (write_new _ _ d3 p xs _ hx8.out (stab_by.old hu.out hB8)).mono ?_
  rintro e9 w9 ⟨A9, c9, B9, f9, rfl, hx9, hb9⟩
  have hB9 := hB8.trans (hb9.mono hB8.size)
  have v9 := (hb9.block w7.heap.size lt8).trans v8.out
  have y9 := (hb9.block w3.heap.size (by have := hs8.out; omega)).trans y8.out
  have hb69 := hb68.trans (hb9.mono hb68.size)
  have hsz9 := hb9.size
  clear hb9 hB8 v8 y8 z3 z4 hx8 hb68
  obtain ⟨d4, hd4⟩ : ∃ d4, wrR d3 p xs = d4 := ⟨_, rfl⟩
  obtain ⟨q4, hq4⟩ : ∃ q4, wErr d3 p xs = q4 := ⟨_, rfl⟩
  rw [hd4] at hx9 ⊢
  rw [hq4]
  replace hd4 := Lib.hid hd4
  replace hq4 := Lib.hid hq4
  obtain ⟨z3, z4, z5, _⟩ := two_cells v9
  obtain ⟨wA, hwA, vA, grA, gsA⟩ := put_two (u := .slice A9 d4.1.length c9) (v := .slice B9 d4.2.length f9) v9
  have hBA := hB9.grown grA hB9.size (fun r e => by cases e; omega)
  have yA := (grA.block w3.heap.size (by have := hs8.out; omega) (fun e => by simp only [Option.some.injEq] at e; omega)).trans y9
  have hb6A := hb69.grown grA hb69.size (fun r e => by cases e; omega)
  have hxA := Lib.hid (hx9.grown grA (fun r e => by cases e; exact lt8)).drop
  have hyA := Lib.hid (hx6.out.below hb6A)
  clear hx9 hB9 grA hb69
  replace v9 := Lib.hid v9
  replace y9 := Lib.hid y9
  replace gsA := Lib.hid gsA
  obtain ⟨k1, k2, _, ltA⟩ := two_cells yA
  obtain ⟨k3, k4, _, ltB⟩ := two_cells vA
  replace yA := Lib.hid yA
  replace vA := Lib.hid vA
  go_upto_region 8 with fail
  clear hwA z3 z4 z5 v9 y9 hb6A hx6
  by_cases hq1 : q1 = 0
  case neg =>
    have t : (q1 != 0) = true := by simpa using hq1
    clear hq1
    go_wp2_with fail
    go_ret
    exact ⟨rfl, hBA⟩
  subst hq1
  by_cases hq2 : q2 = 0
  case neg =>
    have t : (q2 != 0) = true := by simpa using hq2
    clear hq2
    go_wp2_with fail
    go_ret
    exact ⟨rfl, hBA⟩
  subst hq2
  by_cases hq3 : q3 = 0
  case neg =>
    have t : (q3 != 0) = true := by simpa using hq3
    clear hq3
    go_wp2_with fail
    go_ret
    exact ⟨rfl, hBA⟩
  subst hq3
  by_cases hq4 : q4 = 0
  case neg =>
    have t : (q4 != 0) = true := by simpa using hq4
    clear hq4
    go_wp2_with fail
    go_ret
    exact ⟨rfl, hBA⟩
  subst hq4
  have m1 := Lib.hid (may_wrR hq1.out)
  have m2 : Hid (mayB d2 = true) := Lib.hid (by have := (may_wrR hq2.out).1; rwa [hd2.out] at this)
  have m4 : Hid (mayB d4 = true) := Lib.hid (by have := (may_wrR hq4.out).1; rwa [hd4.out] at this)
  have mn : d2.2.length ≤ 4096 := (may_of m2.out).2.1
  -- what the two disks hold
  obtain ⟨f1, f2, f3, f4⟩ := write_fine hq1.out (.inr trivial)
  obtain ⟨g1, g2, g3, g4⟩ := write_fine hq2.out (.inr trivial)
  obtain ⟨i, rfl, hi⟩ := thereB_nat f2
  obtain ⟨j, rfl, hj⟩ := thereB_nat g2
  have ed1 : d1 = wrD d i xs := by rw [← hd1.out]; exact wrR_nat hq1.out
  have ed3 : d3 = wrD d j ys := by rw [← hd3.out]; exact wrR_nat hq3.out
  have ed2 : d2 = wrD (wrD d i xs) j ys := by rw [← ed1, ← hd2.out]; exact wrR_nat hq2.out
  have ed4 : d4 = wrD (wrD d j ys) i xs := by rw [← ed3, ← hd4.out]; exact wrR_nat hq4.out
  have hsw : Hid (i ≠ j → settledD d2 = settledD d4) := Lib.hid fun h => by rw [ed2, ed4]; exact settled_swap h
  have hse : Hid (i = j → seenD d2 i = ys ∧ seenD d4 i = xs) := Lib.hid fun h => by subst h; rw [ed2, ed4]; exact ⟨seenD_write, seenD_write⟩
  clear f1 f2 f3 f4 g1 g2 g3 g4 ed1 ed2 ed3 ed4 m1 hd1 hd2 hd3 hd4 hq1 hq2 hq3 hq4
  go_wp2_with fail
  with_reducible refine (barrier_old _ d2 _ hyA.out m2.out).mono ?_
  rintro eB wB ⟨AB, cB, BB, fB, rfl, hxB, hbB⟩
  have tw := Lib.hid (settled_twice d2)
  have ms := Lib.hid (may_settled m2.out)
  have hsi : Hid ((settledD d2).1[i]? = some (seenD d2 i)) := Lib.hid (settled_at hi)
  have hti : Hid ((settledD d4).1[i]? = some (seenD d4 i)) := Lib.hid (settled_at hi)
  have hln : Hid ((settledD d2).1.length = 256 ∧ (settledD d4).1.length = 256) := Lib.hid ⟨settled_len1 _, settled_len1 _⟩
  obtain ⟨S, hS⟩ : ∃ S, settledD d2 = S := ⟨_, rfl⟩
  rw [hS] at hxB tw ms hsi hln hsw ⊢
  have kS : Hid (∀ ks : List Bool, ks.length = d2.2.length → (∀ k ∈ ks, k = true) → settledD (keptD d2 ks) = S) := Lib.hid fun ks h1 h2 => by
    rw [← hS]
    unfold keptD
    rw [markedW_all _ _ h1 h2]
  replace hS := Lib.hid hS
  obtain ⟨wC, hwC, s1, hsC, hbC⟩ := box_pair' wB (.slice AB S.1.length cB) (.slice BB S.2.length fB) 30
  have hSC := Lib.hid (hxB.below hbC)
  have hAC := hbB.trans (hbC.mono hbB.size)
  obtain ⟨k5, k6, _, ltC⟩ := two_cells s1
  have vC := (hAC.block w7.heap.size ltB).trans vA.out
  have yC := (hAC.block w3.heap.size ltA).trans yA.out
  obtain ⟨k3', k4', _, ltB'⟩ := two_cells vC
  replace s1 := Lib.hid s1
  replace hsC := Lib.hid hsC
  replace vC := Lib.hid vC
  replace yC := Lib.hid yC
  clear hxB hbB hbC k1 k2 k3 k4
  go_upto_region 11 with fail
  clear hwC
  go_wp2_with fail
  with_reducible refine (barrier_old _ d4 _ (hxA.out.below hAC) m4.out).mono ?_
  rintro eD wD ⟨AD, cD, BD, fD, rfl, hxD, hbD⟩
  obtain ⟨T, hT⟩ : ∃ T, settledD d4 = T := ⟨_, rfl⟩
  rw [hT] at hxD hti hln hsw ⊢
  replace hT := Lib.hid hT
  obtain ⟨wE, hwE, t1, hsE, hbE⟩ := box_pair' wD (.slice AD T.1.length cD) (.slice BD T.2.length fD) 30
  have hTE := Lib.hid (hxD.below hbE)
  have hCE := hbD.trans (hbE.mono hbD.size)
  have hAE := hAC.trans (hCE.mono hAC.size)
  have sE := (hCE.block wB.heap.size ltC).trans s1.out
  obtain ⟨z1, z2, _, ltS⟩ := two_cells sE
  have ltT : wD.heap.size < wE.heap.size := (Array.getElem?_eq_some_iff.1 t1).1
  replace t1 := Lib.hid t1
  replace hsE := Lib.hid hsE
  replace sE := Lib.hid sE
  clear hxD hbD hbE k5 k6 k3' k4' vC yC
  go_upto_region 12 with fail
  clear hwE
  go_wp2_with fail
  with_reducible refine (barrier_old _ S _ (hSC.out.below hCE) ms.out).mono ?_
  rintro eF wF ⟨AF, cF, BF, fF, rfl, hxF, hbF⟩
  rw [tw.out] at hxF ⊢
  obtain ⟨wG, hwG, a1, hsG, hbG⟩ := box_pair' wF (.slice AF S.1.length cF) (.slice BF S.2.length fF) 30
  have hSG := Lib.hid (hxF.below hbG)
  have hEG := hbF.trans (hbG.mono hbF.size)
  have hCG := hCE.trans (hEG.mono hCE.size)
  have hAG := hAE.trans (hEG.mono hAE.size)
  have yG := (hAG.block w3.heap.size ltA).trans yA.out
  obtain ⟨z3, z4, _, ltY⟩ := two_cells yG
  have ltF : wF.heap.size < wG.heap.size := (Array.getElem?_eq_some_iff.1 a1).1
  replace a1 := Lib.hid a1
  replace hsG := Lib.hid hsG
  replace yG := Lib.hid yG
  clear hxF hbF hbG z1 z2
  obtain ⟨ad, wH, hmk, hada, ho, hbH, hszH⟩ := make_bools d2.2.length (by omega) wG
  have mlt := own_block ho
  replace hada := Lib.hid hada
  replace hszH := Lib.hid hszH
  go_upto_region 14 with fail
  clear hmk hwG z3 z4
  go_wp2_with fail
  go_loopw [25] (fun i wr => ∃ k : Nat, k ≤ d2.2.length ∧ i = .int .i64 k ∧ wH.grownBy wr (some ad.block) ∧ ∃ us : List Value, wr.ownsRow wG.heap.size 4 1 (.slice (some ad) d2.2.length d2.2.length) d2.2.length us ∧
      ∀ (j : Nat) (u : Value), j < k → us[j]? = some u → u = .bool true) (fun i _ => d2.2.length - (intOf i).toNat)
  case atStart => exact ⟨0, by omega, rfl, grow_refl _ _, _, ho, fun j u hj => by omega⟩
  case round =>
    obtain ⟨k, hk, rfl, hgr, us, hus, hus1⟩ := hrel
    replace hus1 := Lib.hid hus1
    by_cases hlt : k < d2.2.length
    · have hul : us.length = d2.2.length * 1 := hus.1
      have hcu := own_at hus (j := k) (List.getElem?_eq_getElem (by omega))
      have hf := own_free hus k
      generalize us[k] = u0 at hcu
      replace hul := Lib.hid hul
      replace hus := Lib.hid hus
      go_wp2_with fail
      go_roundw
      case rel =>
        refine ⟨k + 1, by omega, by go_num, grow_put hgr (by rw [add_block]) _, us.set k (.bool true), own_put hus.out (by omega) _, fun j u hj hu => ?_⟩
        rcases list_set_get (by have := hul.out; omega) hu with ⟨_, rfl⟩ | ⟨hne, hu'⟩
        · rfl
        · exact hus1.out j u (by omega) hu'
      case measure => simp [intOf]; omega
    · have hge : d2.2.length ≤ k := by omega
      have hGr : Below wG.heap.size wG wr := hbH.grown hgr hbH.size (fun r e => by have := hada.out; simp only [Option.some.injEq] at e; omega)
      have hmk : Hid (rSl 1 rBool (Old wr) wr [.slice (some ad) d2.2.length d2.2.length] (List.replicate d2.2.length true)) := Lib.hid (by
        have hh := own_sl_ok (R := rBool) (ok := Old wr) (xs := List.replicate d2.2.length true) (fun p _ hp => hp.2.1) hus (by simp) (fun i x hx => by
          have hil := (List.getElem?_eq_some_iff.1 hx).1
          simp at hil
          have hx' : x = true := by
            have := List.mem_of_getElem? hx
            simp only [List.mem_replicate] at this
            exact this.2
          subst hx'
          have hul : us.length = d2.2.length * 1 := hus.1
          have hu : us[i]? = some (us[i]'(by omega)) := List.getElem?_eq_getElem _
          have he := hus1.out i _ (by omega) hu
          rw [he] at hu
          refine ⟨[.bool true], rfl, fun j u hj => ?_, rfl⟩
          have hj0 : j = 0 := by
            have := (List.getElem?_eq_some_iff.1 hj).1
            simp at this
            omega
          subst hj0
          cases hj
          simpa using hu)
        exact hh)
      have hAr := hAG.trans (hGr.mono hAG.size)
      have hCr := hCG.trans (hGr.mono hCG.size)
      have hEr := hEG.trans (hGr.mono hEG.size)
      have yr := (hGr.block w3.heap.size ltY).trans yG.out
      obtain ⟨z3, z4, _, _⟩ := two_cells yr
      replace hus := Lib.hid hus
      replace yr := Lib.hid yr
      have had' : ∀ r, some ad.block = some r → wG.heap.size ≤ r := fun r e => by have := hada.out; simp only [Option.some.injEq] at e; omega
      have hgr' := hgr
      have hszG := hGr.size
      clear hgr hGr
      go_wp2_with fail
      with_reducible refine (crash_old _ _ d2 (List.replicate d2.2.length true) _ (hyA.out.below hAr) hmk.out m2.out (by simp)).mono ?_
      rintro eI wI ⟨AI, cI, BI, fI, rfl, hxI, hbI⟩
      rw [kS.out _ (by simp) (fun k hk => (List.mem_replicate.1 hk).2)] at hxI ⊢
      obtain ⟨wJ, hwJ, j1, hsJ, hbJ⟩ := box_pair' wI (.slice AI S.1.length cI) (.slice BI S.2.length fI) 30
      have hJ := Lib.hid (hxI.below hbJ)
      have hrJ := hbI.trans (hbJ.mono hbI.size)
      have hGJ := (hbH.grown hgr' hbH.size had').trans (hrJ.mono hszG)
      have hAJ := hAr.trans (hrJ.mono hAr.size)
      have hCJ := hCr.trans (hrJ.mono hCr.size)
      have hEJ := hEr.trans (hrJ.mono hEr.size)
      have hBJ := hBA.trans (hAJ.mono hBA.size)
      have sJ := (hCJ.block wB.heap.size ltC).trans s1.out
      have tJ := (hEJ.block wD.heap.size ltT).trans t1.out
      have aJ := (hGJ.block wF.heap.size ltF).trans a1.out
      obtain ⟨z1, z2, _, lt1⟩ := two_cells sJ
      obtain ⟨z5, z6, _, lt2⟩ := two_cells tJ
      obtain ⟨z7, z8, _, lt3⟩ := two_cells aJ
      obtain ⟨z9, z10, _, lt4⟩ := two_cells j1
      have dS := Lib.hid (hSC.out.below hCJ)
      have dT := Lib.hid (hTE.out.below hEJ)
      have dA := Lib.hid (hSG.out.below hGJ)
      have hSS : sameB S S = true := by simp [sameB]
      replace sJ := Lib.hid sJ
      replace tJ := Lib.hid tJ
      replace aJ := Lib.hid aJ
      replace j1 := Lib.hid j1
      replace hsJ := Lib.hid hsJ
      clear hxI hbI hbJ hrJ hGJ hAJ hCJ hEJ hAr hCr hEr z3 z4
      go_upto_region 19 with fail
      clear hwJ
      go_wp2_with fail
      with_reducible refine (same_any _ _ S S _ dA.out dS.out).mono ?_
      rintro eK wK ⟨rfl, hbK⟩
      rw [hSS]
      have y1 := (hbK.block wB.heap.size lt1).trans sJ.out
      have y2 := (hbK.block wD.heap.size lt2).trans tJ.out
      have y3 := (hbK.block wI.heap.size lt4).trans j1.out
      have dSK := Lib.hid (dS.out.below hbK)
      have dTK := Lib.hid (dT.out.below hbK)
      have dJK := Lib.hid (hJ.out.below hbK)
      have hBK := hBJ.trans (hbK.mono hBJ.size)
      clear z1 z2 z5 z6 z7 z8 z9 z10 hbK hBJ dS dT dA hJ sJ tJ aJ j1 lt1 lt2 lt3 lt4
      obtain ⟨z1, z2, _, lt1⟩ := two_cells y1
      obtain ⟨z5, z6, _, lt2⟩ := two_cells y2
      obtain ⟨z9, z10, _, lt4⟩ := two_cells y3
      replace y1 := Lib.hid y1
      replace y2 := Lib.hid y2
      go_wp2_with fail
      with_reducible refine (same_any _ _ S S _ dJK.out dSK.out).mono ?_
      rintro eL wL ⟨rfl, hbL⟩
      rw [hSS]
      have x1 := (hbL.block wB.heap.size lt1).trans y1.out
      have x2 := (hbL.block wD.heap.size lt2).trans y2.out
      have dSL := Lib.hid (dSK.out.below hbL)
      have dTL := Lib.hid (dTK.out.below hbL)
      have hBL := hBK.trans (hbL.mono hBK.size)
      clear z1 z2 z5 z6 z9 z10 hbL hBK dSK dTK dJK y1 y2 y3 lt1 lt2 lt4
      obtain ⟨z1, z2, _, lt1⟩ := two_cells x1
      obtain ⟨z5, z6, _, lt2⟩ := two_cells x2
      replace x1 := Lib.hid x1
      replace x2 := Lib.hid x2
      by_cases hij : i = j
      · obtain ⟨sv1, sv2⟩ := hse.out hij
        have t1' : ((i : Int) != j) = false := by simp; omega
        have huL := stab_by.old hu.out hBL
        have hvL := stab_by.old hu'.out hBL
        have n1 := rBy_str huL
        have n2 := rBy_str hvL
        obtain ⟨A1, c1, B1, e1, ev, _, _, _, _, hS1, _⟩ := dSL.out.open
        cases ev
        obtain ⟨A2, c2, B2, e2, ev, _, _, _, _, hT1, _⟩ := dTL.out.open
        cases ev
        obtain ⟨ad1, b1, rfl, _, p1, hby1⟩ := hS1 i _ hsi.out
        obtain ⟨ad2, b2, rfl, _, p2, hby2⟩ := hT1 i _ hti.out
        rw [sv1] at hby1
        rw [sv2] at hby2
        have n3 := rBy_str hby1
        have n4 := rBy_str hby2
        obtain ⟨E1, ce1, rfl, _⟩ := rBy_open hby1
        obtain ⟨E2, ce2, rfl, _⟩ := rBy_open hby2
        have r1 : (ys == ys) = true := by simp
        have r2 : (xs == xs) = true := by simp
        have i1 : (0 : Int) ≤ (i : Int) := by omega
        have i2 : (i : Int) < (S.1.length : Int) := by rw [hln.out.1]; omega
        have i3 : (i : Int) < (T.1.length : Int) := by rw [hln.out.2]; omega
        have i4 : i < S.1.length := by rw [hln.out.1]; exact hi
        have i5 : i < T.1.length := by rw [hln.out.2]; exact hi
        replace hij := Lib.hid hij
        clear hby1 hby2 huL hvL hS1 hT1 sv1 sv2 hSS
        go_wp2_with fail
        go_quiet (fail)
        go_wp2_with fail
        go_ret
        exact ⟨rfl, below_drewN hBL _⟩
      · have t1' : ((i : Int) != j) = true := by simp; omega
        have hST : sameB S T = true := by rw [← hsw.out hij]; exact hSS
        clear hSS
        replace hij := Lib.hid hij
        go_wp2_with fail
        with_reducible refine (same_any _ _ S T _ dSL.out dTL.out).mono ?_
        rintro eM wM ⟨rfl, hbM⟩
        rw [hST]
        go_wp2_with fail
        go_ret
        exact ⟨rfl, hBL.trans (hbM.mono hBL.size)⟩

/-! ### The row's step -/
set_option maxRecDepth 100000 in
theorem lifted (os : Os) (started : os.Started) (H : Type) (enc : TypeId × Value → H) :
    ReturnsInHanded {} Try.checked os 7 .any (Rows.devApartSpec.pre6 enc Try.prog Try.f7 Rows.devApartRow.domain false) (Rows.devApartSpec.post enc Try.prog Try.f7 false true false false) := by
  refine returnsInHanded_of_change (C := Try.checked) own started (by kernel_rfl) Try.func7
    (ChangeSpec.witness6 (enc := enc) (C := Try.checked) false ⟨#[], #[.agg #[.slice none 0 0, .slice none 0 0], .int .i64 0, .slice none 0 0, .int .i64 0, .slice none 0 0], []⟩ 8 (by kernel_rfl) (by kernel_rfl) (by kernel_rfl) (by kernel_rfl)) ?_
  intro W base args ds gs before hval0 hW _ _
  have hval : ∀ (j : Nat) t v, Try.f7.params[j]? = some t → args[j]? = some v → Value.okWide Try.prog W .any base t v := hval0
  have hW' := hW
  obtain ⟨p, q, hA0, hV, _, _, _⟩ := hW
  have hA : DataW.TrodAll enc Try.prog W 0 (fun _ => true) true Try.f7.params.toList args.toList ds p := hA0
  rw [Try.params7] at hA hval
  obtain ⟨v0, vs0, d0, ds0, p0, q0, hargs, rfl, _, h0, r0⟩ := trodAll_cons hA
  obtain ⟨v1, vs1, d1, ds1, p1, q1, rfl, rfl, _, h1, r1⟩ := trodAll_cons r0
  obtain ⟨v2, vs2, d2, ds2, p2, q2, rfl, rfl, _, h2, r2⟩ := trodAll_cons r1
  obtain ⟨v3, vs3, d3, ds3, p3, q3, rfl, rfl, _, h3, r3⟩ := trodAll_cons r2
  obtain ⟨v4, vs4, d4, ds4, p4, q4, rfl, rfl, _, h4, r4⟩ := trodAll_cons r3
  obtain ⟨rfl, rfl, _⟩ := trodAll_nil r4
  obtain rfl : args = #[v0, v1, v2, v3, v4] := by cases args; simp_all
  obtain ⟨rfl, _⟩ := trodVars_none hV
  obtain ⟨d0x, y0⟩ := open_disk (hval 0 30 v0 rfl rfl) h0
  obtain ⟨a1, rfl, _, _, w1⟩ := open_int Try.underlying3 (hval 1 3 v1 rfl rfl) h1
  obtain ⟨d2x, y2⟩ := open_by (hval 2 23 v2 rfl rfl) h2
  obtain ⟨a3, rfl, _, _, w3⟩ := open_int Try.underlying3 (hval 3 3 v3 rfl rfl) h3
  obtain ⟨d4x, y4⟩ := open_by (hval 4 23 v4 rfl rfl) h4
  clear hA0 hval0
  refine (walk v0 d0x a1 w1 v2 d2x a3 w3 v4 d4x W y0 y2 y4).mono fun e W' ⟨he, hb⟩ => ?_
  subst he
  exact ⟨_, rfl, law_post laidOut (by rw [Try.params7]; decide +kernel) (by kernel_rfl) Try.underlying4 rfl ⟨rfl, by simp [Rows.devApartSpec], rfl⟩ hW' hb⟩

theorem over : Rows.devApartRow.holds Try.pinned (OpenSpec.ofChange Rows.devApartSpec) :=
  OpenClaim.holds_of_wide 7 Try.f7 rfl rfl rfl rfl rfl rfl rfl ⟨rfl, rfl, rfl, rfl, rfl⟩ rfl rfl rfl rfl rfl (by kernel_rfl) Try.func7 (by kernel_rfl)
    (of_decide_eq_true (by kernel_rfl)) (by unfold Func.isWrapper; first | (rw [if_pos (by decide +kernel)]; kernel_rfl) | (rw [if_neg (by decide +kernel)]; exact ⟨rfl, rfl⟩))
    (fun os started H enc _ => lifted os started H enc)

end Go.Proofs.Ytkedhekcjoiebaa.devApart
namespace Go.Proofs.Ytkedhekcjoiebaa
theorem devApart_proved : Rows.DevApartSaid := devApart.over
end Go.Proofs.Ytkedhekcjoiebaa
