/-
  For every table, place, disk and side CountTables answers true and leaves its arguments as they were. No condition.
-/
import Derived.Test.YtkklkhnoljmgbaaBnd3
import Derived.Deep.CutBlock
import Derived.StillTailTactics
namespace Go.Proofs.Ytkklkhnoljmgbaa.countTables
open Go.ChangeShapes Go.WideShapes Go.RowKit

theorem own : ownKnob Try.prog.godebug = none := by kernel_rfl
theorem laidOut : laidOutB Try.prog = true := by kernel_rfl

theorem sameD_self (d : Dk) : sameB d d = true := by simp [sameB]
set_option maxRecDepth 100000 in
set_option maxHeartbeats 16000000 in
theorem walk (u : Value) (t : List UInt8) (n : Int) (_hn : (Lit.int .i64 n).wf = true) (v : Value) (d : Dk) (s : Int) (_hn2 : (Lit.int .i64 s).wf = true) (w : World) (hu : rBy (Old w) w [u] t) (h : Dsk (Old w) w v d) :
    Calls Try.prog 4 #[u, .int .i64 n, v, .int .i64 s] w fun e w' => e = .returned (.bool true) ∧ Below w.heap.size w w' := by
  clear _hn _hn2
  obtain ⟨A, c, B, e0, rfl, _⟩ := id h.open
  obtain ⟨E, ce, rfl, _⟩ := id (rBy_open hu)
  obtain ⟨w0, hw0, b0, hs0, hB0⟩ := box_pair' w (.slice A d.1.length c) (.slice B d.2.length e0) 31
  have h0 := h.below hB0
  have u0 := stab_by.old hu hB0
  clear h hu
  obtain ⟨z1, z2, _, lt0⟩ := two_cells b0
  replace b0 := Lib.hid b0
  replace hs0 := Lib.hid hs0
  replace h0 := Lib.hid h0
  replace u0 := Lib.hid u0
  go_enter Try.func4, Try.ntmps4
  go_upto_region 1 with fail
  clear hw0
  by_cases hl : 10000 < t.length
  · have hl' : (10000 : Int) < t.length := by omega
    go_wp2_with fail
    go_ret
    exact ⟨rfl, hB0⟩
  have hl' : ¬ (10000 : Int) < t.length := by omega
  go_wp2_with fail
  with_reducible refine (great_any _ d _ h0.out).mono ?_
  rintro e2 w2 ⟨rfl, hb2⟩
  have h2 := Lib.hid (h0.out.below hb2)
  have u2 := Lib.hid (stab_by.old u0.out hb2)
  have hB2 := hB0.trans (hb2.mono hB0.size)
  have b2 := (hb2.block w.heap.size lt0).trans b0.out
  obtain ⟨y1, y2, _, lt2⟩ := two_cells b2
  replace b2 := Lib.hid b2
  clear hb2 h0 u0 b0 hs0 hB0 z1 z2 lt0
  cases hg : greatB d with
  | true =>
    go_wp2_with fail
    go_ret
    exact ⟨rfl, hB2⟩
  | false =>
  have hsm := Lib.hid (small_of_great hg)
  have hlt : Hid (t.length ≤ 10000) := Lib.hid (by omega)
  clear hg hl
  have happ : Hid (∀ W, Below w2.heap.size w2 W → ∃ O oc W', (Builtin.append_ #[23, 23] 23 #[.slice none 0 0, .slice E t.length ce]).run Try.prog W = .ok (.slice O t.length oc) W' ∧ rBy (Old W') W' [.slice O t.length oc] t ∧ Below W.heap.size W W' ∧ Below w2.heap.size w2 W') := Lib.hid fun W hW => by
    obtain ⟨v', W', hr, hy, hb⟩ := app_copy (.slice E t.length ce) t W (by have := hlt.out; omega) (stab_by.old u2.out hW)
    obtain ⟨O, oc, rfl, _⟩ := id (rBy_open hy)
    exact ⟨O, oc, W', hr, stab_by.drop hy, hb, hW.trans (hb.mono hW.size)⟩
  have htw : Hid (∀ W, Below w2.heap.size w2 W → Calls Try.prog 19 #[.agg #[.slice A d.1.length c, .slice B d.2.length e0]] W fun e W' => ∃ X xc Y yc, e = .returned (.agg #[.slice X d.1.length xc, .slice Y d.2.length yc]) ∧ Dsk (Old W') W' (.agg #[.slice X d.1.length xc, .slice Y d.2.length yc]) d ∧ FarB W' X ∧ FarB W' Y ∧ Below W.heap.size W W') := Lib.hid fun W hW => by
    refine (refTwin_far _ d W hsm.out (h2.out.below hW)).mono ?_
    rintro e W' ⟨X, xc, Y, yc, rfl, hu, f1, f2, hb⟩
    exact ⟨X, xc, Y, yc, rfl, hu.drop, f1, f2, hb⟩
  go_upto_region 3 with fail
  refine wp_region_tails (by kernel_rfl) 5 (fun W => Below w2.heap.size w2 W) (fun i => match i with
      | 1 => some (fun v W => ∃ O oc, v = .slice O t.length oc ∧ rBy (Old W) W [.slice O t.length oc] t)
      | 3 => some (fun v W => ∃ X xc Y yc, v = .agg #[.slice X d.1.length xc, .slice Y d.2.length yc] ∧ Dsk (Old W) W (.agg #[.slice X d.1.length xc, .slice Y d.2.length yc]) d ∧ FarB W X ∧ FarB W Y)
      | 4 => some (fun v W => ∃ g, v = .pointer (some ⟨g, 0, none⟩) ∧ w2.heap.size ≤ g ∧ W.heap[g]? = some (.cells #[.slice none 0 0, .slice none 0 0] 31 (0, 0)))
      | _ => none) (fun _ => none) (by decide) (by kernel_rfl) (by kernel_rfl) (Below.refl _ _).drew (fun w w' h hb => h.trans (hb.mono h.size)) ?tst ?_
  case tst =>
    intro j φ x W W' hp hx hb
    match j, hp with
    | 1, hp =>
      cases hp
      obtain ⟨O, oc, e, h1⟩ := hx
      exact ⟨O, oc, e, stab_by.old h1 hb⟩
    | 3, hp =>
      cases hp
      obtain ⟨X, xc, Y, yc, e, h1, h2, h3⟩ := hx
      exact ⟨X, xc, Y, yc, e, h1.below hb, h2.below hb, h3.below hb⟩
    | 4, hp =>
      cases hp
      obtain ⟨g, e, h1, h2⟩ := hx
      exact ⟨g, e, h1, (hb.block g (Array.getElem?_eq_some_iff.1 h2).1).trans h2⟩
  simp only [List.take_succ_cons, List.take_zero, List.drop_succ_cons, List.drop_zero]
  repeat (first
    | (refine wpAs_skip rfl ?_; simp only [Act.put, List.setIfInBounds_toArray, List.set_cons_zero, List.set_cons_succ])
    | (refine wpAs_pure (v := ?_) rfl rfl ?_ ?_; rotate_left; (intro W hC hE; clear hE; skip; clear hC; go_simp; done); simp only [Act.put, List.setIfInBounds_toArray, List.set_cons_zero, List.set_cons_succ])
    | (refine wpAs_pure (v := ?_) rfl rfl ?_ ?_; rotate_left; (intro W hC hE; clear hE; skip; clear hC; go_simp; with_reducible rfl); simp only [Act.put, List.setIfInBounds_toArray, List.set_cons_zero, List.set_cons_succ]))
  refine wpAs_act rfl rfl ?_ ?_
  · intro W hC hE
    clear hE
    obtain ⟨O, oc, W', hr, h1, h2, _⟩ := happ.out W hC
    exact does_append _ _ _ rfl rfl rfl hr ⟨⟨O, oc, rfl, h1⟩, h2⟩
  simp only [Act.put, List.setIfInBounds_toArray, List.set_cons_zero, List.set_cons_succ, envAdd]
  intro x43
  repeat (first
    | (refine wpAs_skip rfl ?_; simp only [Act.put, List.setIfInBounds_toArray, List.set_cons_zero, List.set_cons_succ])
    | (refine wpAs_pure (v := ?_) rfl rfl ?_ ?_; rotate_left; (intro W hC hE; clear hE; (have q1 := (hC.cell (p := ⟨w.heap.size, 0, none⟩) lt2).trans y1; have q2 := (hC.cell (p := ⟨w.heap.size, 1, none⟩) lt2).trans y2); clear hC; go_simp; done); simp only [Act.put, List.setIfInBounds_toArray, List.set_cons_zero, List.set_cons_succ])
    | (refine wpAs_pure (v := ?_) rfl rfl ?_ ?_; rotate_left; (intro W hC hE; clear hE; (have q1 := (hC.cell (p := ⟨w.heap.size, 0, none⟩) lt2).trans y1; have q2 := (hC.cell (p := ⟨w.heap.size, 1, none⟩) lt2).trans y2); clear hC; go_simp; with_reducible rfl); simp only [Act.put, List.setIfInBounds_toArray, List.set_cons_zero, List.set_cons_succ]))
  refine wpAs_act rfl rfl ?_ ?_
  · intro W hC hE
    clear hE
    refine does_enter (f := 19) (args := #[.agg #[.slice A d.1.length c, .slice B d.2.length e0]]) ?_ ?_
    · go_simp
    · refine (htw.out W hC).mono ?_
      rintro e W' ⟨X, xc, Y, yc, rfl, h1, h2, h3, hb⟩
      exact ⟨_, rfl, ⟨X, xc, Y, yc, rfl, h1, h2, h3⟩, hb⟩
  simp only [Act.put, List.setIfInBounds_toArray, List.set_cons_zero, List.set_cons_succ, envAdd]
  intro x45
  refine wpAs_act rfl rfl ?_ ?_
  · intro W hC hE
    have hsw := hC.size
    clear hE hC
    go_simp
    exact ⟨⟨W.heap.size, rfl, hsw, heap_alloc_new _ _⟩, (Below.refl _ _).alloc (Nat.le_refl _) _⟩
  simp only [Act.put, List.setIfInBounds_toArray, List.set_cons_zero, List.set_cons_succ, envAdd]
  intro x10
  refine wpAs_end fun W hC hE => ?_
  obtain ⟨⟨g, rfl, hg, hz⟩, ⟨X, xc, Y, yc, rfl, hd, f1, f2⟩, ⟨O, oc, rfl, ho⟩, _⟩ := hE
  have hd' := far_but hd f1 f2 hz
  obtain ⟨v0, v1, v2, v3⟩ := two_cells hz
  obtain ⟨W9, hW9, g9, gr9, gs9⟩ := put_two (u := .slice X d.1.length xc) (v := .slice Y d.2.length yc) hz
  have hd9 : Dsk (Old W9) W9 (.agg #[.slice X d.1.length xc, .slice Y d.2.length yc]) d := hd'.map fun p u hp hc => ⟨Nat.lt_of_lt_of_le hp.1 gr9.size, (World.cell?_of_block (gr9.block _ hp.1 (by simpa using hp.2))).trans hc⟩
  have ho9 : rBy (Old W9) W9 [.slice O t.length oc] t := by
    have ho' : rBy (fun p => p.block < W.heap.size ∧ p.block ≠ g) W [.slice O t.length oc] t := far_by hz ho
    exact stab_by _ _ _ _ _ _ (fun p u hp hc => ⟨Nat.lt_of_lt_of_le hp.1 gr9.size, (World.cell?_of_block (gr9.block _ hp.1 (by simpa using hp.2))).trans hc⟩) ho'
  have hB9 : Below w2.heap.size w2 W9 := hC.grown gr9 hC.size (fun k e => by cases e; exact hg)
  have HD := Lib.hid hd9
  have HO := Lib.hid ho9
  have HB := Lib.hid hB9
  have HZ := Lib.hid g9
  replace hz := Lib.hid hz
  clear hC hd f1 f2 ho hd' hd9 ho9 hB9 g9 gr9 gs9 happ htw
  go_upto_region 4 with fail
  clear hW9 v0 v1 v2 v3
  obtain ⟨w3, rfl⟩ : ∃ w3 : World, w3 = W9 := ⟨_, rfl⟩
  have y3 := (HB.out.cell (p := ⟨w.heap.size, 0, none⟩) lt2).trans y1
  have y4 := (HB.out.cell (p := ⟨w.heap.size, 1, none⟩) lt2).trans y2
  obtain ⟨v1, v2, _, v3⟩ := two_cells HZ.out
  have HG3 : Hid (Bag w3 _) := Lib.hid (((((((Bag.nil w3).add (F := OldB (.slice E t.length ce) t) (stab_by.old u2.out HB.out) (lasts_oldB _ _)).add (F := OldD (.agg #[.slice A d.1.length c, .slice B d.2.length e0]) d) (h2.out.below HB.out) (lasts_oldD _ _)).add (F := Box2 w.heap.size (.slice A d.1.length c) (.slice B d.2.length e0)) ⟨y3, y4, Nat.lt_of_lt_of_le lt2 HB.out.size⟩ (lasts_box _ _ _)).add (F := OldD (.agg #[.slice X d.1.length xc, .slice Y d.2.length yc]) d) HD.out (lasts_oldD _ _)).add (F := Box2 g (.slice X d.1.length xc) (.slice Y d.2.length yc)) ⟨v1, v2, v3⟩ (lasts_box _ _ _)).add (F := OldB (.slice O t.length oc) t) HO.out (lasts_oldB _ _))
  have BB := Lib.hid (hB2.trans (HB.out.mono hB2.size))
  have HG := HG3
  clear hB2 HB HD HO HZ hz y1 y2 y3 y4 v1 v2 v3 u2 h2 b2 lt2 hsm
  -- the answers, as letters
  obtain ⟨P, hP⟩ : ∃ P, upV t n = P := ⟨_, rfl⟩
  obtain ⟨pe, hpe⟩ : ∃ q, upE t n = q := ⟨_, rfl⟩
  obtain ⟨Q, hQ⟩ : ∃ P, dnV t n = P := ⟨_, rfl⟩
  obtain ⟨qe, hqe⟩ : ∃ q, dnE t n = q := ⟨_, rfl⟩
  obtain ⟨sm, hsm⟩ : ∃ q : Int, (smV t : Int) = q := ⟨_, rfl⟩
  obtain ⟨ck, hck⟩ : ∃ q, chkT t = q := ⟨_, rfl⟩
  obtain ⟨D2, hD2⟩ : ∃ q, cwR d s t = q := ⟨_, rfl⟩
  obtain ⟨we, hwe⟩ : ∃ q, cwE d s t = q := ⟨_, rfl⟩
  obtain ⟨R, hR⟩ : ∃ q, crV d s = q := ⟨_, rfl⟩
  obtain ⟨re, hre⟩ : ∃ q, crE d s = q := ⟨_, rfl⟩
  have hup : Hid (∀ v W, rBy (Old W) W [v] t → Calls Try.prog 12 #[v, .int .i64 n] W fun e w' => ∃ E c, e = .returned (.tuple #[.slice E P.length c, .int .i64 pe]) ∧ rBy (New W.heap.size w') w' [.slice E P.length c] P ∧ Below W.heap.size W w') := Lib.hid fun v W h => by
    have := up_open v t n W h
    rwa [hP, hpe] at this
  have hrup : Hid (∀ v W, rBy (Old W) W [v] t → Calls Try.prog 20 #[v, .int .i64 n] W fun e w' => ∃ E c, e = .returned (.tuple #[.slice E P.length c, .int .i64 pe]) ∧ rBy (Old w') w' [.slice E P.length c] P ∧ Below W.heap.size W w') := Lib.hid fun v W h => by
    refine (refUpT_any v t n W h).mono ?_
    rintro e w' ⟨u, rfl, hu, hb⟩
    rw [hP] at hu
    rw [hpe]
    obtain ⟨E, c, rfl, _⟩ := id (rBy_open hu)
    exact ⟨E, c, rfl, stab_by.drop hu, hb⟩
  have hdn : Hid (∀ v W, rBy (Old W) W [v] t → Calls Try.prog 10 #[v, .int .i64 n] W fun e w' => ∃ E c, e = .returned (.tuple #[.slice E Q.length c, .int .i64 qe]) ∧ rBy (Old w') w' [.slice E Q.length c] Q ∧ Below W.heap.size W w') := Lib.hid fun v W h => by
    have := down_open v t n W h
    rw [hQ, hqe] at this
    exact this.mono fun e w' ⟨E, c, a, h, b⟩ => ⟨E, c, a, stab_by.drop h, b⟩
  have hrdn : Hid (∀ v W, rBy (Old W) W [v] t → Calls Try.prog 21 #[v, .int .i64 n] W fun e w' => ∃ E c, e = .returned (.tuple #[.slice E Q.length c, .int .i64 qe]) ∧ rBy (Old w') w' [.slice E Q.length c] Q ∧ Below W.heap.size W w') := Lib.hid fun v W h => by
    refine (refDownT_any v t n W h).mono ?_
    rintro e w' ⟨u, rfl, hu, hb⟩
    rw [hQ] at hu
    rw [hqe]
    obtain ⟨E, c, rfl, _⟩ := id (rBy_open hu)
    exact ⟨E, c, rfl, stab_by.drop hu, hb⟩
  have hsu : Hid (∀ v W, rBy (Old W) W [v] t → Calls Try.prog 16 #[v] W fun e w' => e = .returned (.tuple #[.int .u32 sm, .int .i64 ck]) ∧ Below W.heap.size W w') := Lib.hid fun v W h => by
    have := sumT_any v t W h
    rwa [hsm, hck] at this
  have hrsu : Hid (∀ v W, rBy (Old W) W [v] t → Calls Try.prog 22 #[v] W fun e w' => e = .returned (.tuple #[.int .u32 sm, .int .i64 ck]) ∧ Below W.heap.size W w') := Lib.hid fun v W h => by
    have := refSumT_any v t W h
    rwa [hsm, hck] at this
  have hwr : Hid (∀ v u W, Dsk (Old W) W v d → rBy (Old W) W [u] t → Calls Try.prog 13 #[v, .int .i64 s, u] W fun e w' => ∃ A c B f, e = .returned (.tuple #[.agg #[.slice A D2.1.length c, .slice B D2.2.length f], .int .i64 we]) ∧ Dsk (New W.heap.size w') w' (.agg #[.slice A D2.1.length c, .slice B D2.2.length f]) D2 ∧ Below W.heap.size W w') := Lib.hid fun v u W h h' => by
    have := cntWrite_any v u d s t W h h'
    rwa [hwe, hD2] at this
  have hrwr : Hid (∀ v u W, Dsk (Old W) W v d → rBy (Old W) W [u] t → Calls Try.prog 23 #[v, .int .i64 s, u] W fun e w' => ∃ A c B f, e = .returned (.tuple #[.agg #[.slice A D2.1.length c, .slice B D2.2.length f], .int .i64 we]) ∧ Dsk (Old w') w' (.agg #[.slice A D2.1.length c, .slice B D2.2.length f]) D2 ∧ Below W.heap.size W w') := Lib.hid fun v u W h h' => by
    refine (refWriteT_any v u d s t W h h').mono ?_
    rintro e w' ⟨x, rfl, hx, hb⟩
    rw [hD2] at hx
    rw [hwe]
    obtain ⟨A, c, B, f, rfl, _⟩ := id hx.open
    exact ⟨A, c, B, f, rfl, hx, hb⟩
  have hrd : Hid (∀ v W, Dsk (Old W) W v d → Calls Try.prog 15 #[v, .int .i64 s] W fun e w' => ∃ E c, e = .returned (.tuple #[.slice E R.length c, .int .i64 re]) ∧ rBy (New W.heap.size w') w' [.slice E R.length c] R ∧ Below W.heap.size W w') := Lib.hid fun v W h => by
    have := cntRead_open v d s W h
    rwa [hR, hre] at this
  have hrrd : Hid (∀ v W, Dsk (Old W) W v d → Calls Try.prog 24 #[v, .int .i64 s] W fun e w' => ∃ E c, e = .returned (.tuple #[.slice E R.length c, .int .i64 re]) ∧ rBy (Old w') w' [.slice E R.length c] R ∧ Below W.heap.size W w') := Lib.hid fun v W h => by
    refine (refReadT_any v d s W h).mono ?_
    rintro e w' ⟨u, rfl, hu, hb⟩
    rw [hR] at hu
    rw [hre]
    obtain ⟨E, c, rfl, _⟩ := id (rBy_open hu)
    exact ⟨E, c, rfl, stab_by.drop hu, hb⟩
  clear hP hpe hQ hqe hsm hD2 hwe hR hre
  replace hck := Lib.hid hck
  have C3 := Lib.hid (Below.refl w3.heap.size w3)
  -- the calls
  have k1 : Hid (rBy (Old w3) w3 [.slice O t.length oc] t) := Lib.hid (HG.out.at 0 rfl)
  go_wp2_with fail
  with_reducible refine (hup.out _ _ k1.out).mono ?_
  rintro e4 w4 ⟨E4, c4, rfl, x4, hb4⟩
  replace HG := Lib.hid ((HG.out.below hb4).add (F := NewB w3.heap.size (.slice E4 P.length c4) P) x4 (lasts_newB _ _ _))
  replace C3 := Lib.hid (C3.out.trans (hb4.mono C3.out.size))
  clear x4 hb4 k1
  have k1 : Hid (rBy (Old w4) w4 [.slice E t.length ce] t) := Lib.hid (HG.out.at 6 rfl)
  go_wp2_with fail
  with_reducible refine (hrup.out _ _ k1.out).mono ?_
  rintro e5 w5 ⟨E5, c5, rfl, x5, hb5⟩
  replace HG := Lib.hid ((HG.out.below hb5).add (F := OldB (.slice E5 P.length c5) P) x5 (lasts_oldB _ _))
  replace C3 := Lib.hid (C3.out.trans (hb5.mono C3.out.size))
  clear x5 hb5 k1
  have k1 : Hid (rBy (Old w5) w5 [.slice O t.length oc] t) := Lib.hid (HG.out.at 2 rfl)
  go_wp2_with fail
  with_reducible refine (hdn.out _ _ k1.out).mono ?_
  rintro e6 w6 ⟨E6, c6, rfl, x6, hb6⟩
  replace HG := Lib.hid ((HG.out.below hb6).add (F := OldB (.slice E6 Q.length c6) Q) x6 (lasts_oldB _ _))
  replace C3 := Lib.hid (C3.out.trans (hb6.mono C3.out.size))
  clear x6 hb6 k1
  have k1 : Hid (rBy (Old w6) w6 [.slice E t.length ce] t) := Lib.hid (HG.out.at 8 rfl)
  go_wp2_with fail
  with_reducible refine (hrdn.out _ _ k1.out).mono ?_
  rintro e7 w7 ⟨E7, c7, rfl, x7, hb7⟩
  replace HG := Lib.hid ((HG.out.below hb7).add (F := OldB (.slice E7 Q.length c7) Q) x7 (lasts_oldB _ _))
  replace C3 := Lib.hid (C3.out.trans (hb7.mono C3.out.size))
  clear x7 hb7 k1
  have k1 : Hid (rBy (Old w7) w7 [.slice O t.length oc] t) := Lib.hid (HG.out.at 4 rfl)
  go_wp2_with fail
  with_reducible refine (hsu.out _ _ k1.out).mono ?_
  rintro e8 w8 ⟨rfl, hb8⟩
  replace HG := Lib.hid (HG.out.below hb8)
  replace C3 := Lib.hid (C3.out.trans (hb8.mono C3.out.size))
  clear hb8 k1
  have k1 : Hid (rBy (Old w8) w8 [.slice E t.length ce] t) := Lib.hid (HG.out.at 9 rfl)
  go_wp2_with fail
  with_reducible refine (hrsu.out _ _ k1.out).mono ?_
  rintro e9 w9 ⟨rfl, hb9⟩
  replace HG := Lib.hid (HG.out.below hb9)
  replace C3 := Lib.hid (C3.out.trans (hb9.mono C3.out.size))
  clear hb9 k1
  have k1 : Hid (rBy (Old w9) w9 [.slice O t.length oc] t) := Lib.hid (HG.out.at 4 rfl)
  have k2 : Hid (Dsk (Old w9) w9 (.agg #[.slice X d.1.length xc, .slice Y d.2.length yc]) d) := Lib.hid (HG.out.at 6 rfl)
  obtain ⟨z1, z2, _⟩ := HG.out.at 5 rfl
  go_wp2_with fail
  with_reducible refine (hwr.out _ _ _ k2.out k1.out).mono ?_
  rintro eA wA ⟨AA, cA, BA, dA, rfl, xA, hbA⟩
  obtain ⟨wB, hwB, HGB, hbB, hbB', ltB⟩ := bag_box (HG.out.below hbA) (Below.refl _ _) (.slice AA D2.1.length cA) (.slice BA D2.2.length dA)
  replace HG := Lib.hid (HGB.add (F := NewD w3.heap.size (.agg #[.slice AA D2.1.length cA, .slice BA D2.2.length dA]) D2) (xA.new C3.out.size hbB) (lasts_newD _ _ _))
  replace C3 := Lib.hid (C3.out.trans ((hbA.trans (hbB.mono hbA.size)).mono C3.out.size))
  clear xA hbA HGB hbB hbB' ltB k1 k2 z1 z2
  go_upto_region 11 with fail
  clear hwB
  have k1 : Hid (rBy (Old wB) wB [.slice E t.length ce] t) := Lib.hid (HG.out.at 11 rfl)
  have k2 : Hid (Dsk (Old wB) wB (.agg #[.slice A d.1.length c, .slice B d.2.length e0]) d) := Lib.hid (HG.out.at 10 rfl)
  obtain ⟨z1, z2, _⟩ := HG.out.at 9 rfl
  go_wp2_with fail
  with_reducible refine (hrwr.out _ _ _ k2.out k1.out).mono ?_
  rintro eC wC ⟨AC, cC, BC, dC, rfl, xC, hbC⟩
  obtain ⟨wD, hwD, HGD, hbD, hbD', ltD⟩ := bag_box (HG.out.below hbC) (Below.refl _ _) (.slice AC D2.1.length cC) (.slice BC D2.2.length dC)
  replace HG := Lib.hid (HGD.add (F := OldD (.agg #[.slice AC D2.1.length cC, .slice BC D2.2.length dC]) D2) (xC.below hbD) (lasts_oldD _ _))
  replace C3 := Lib.hid (C3.out.trans ((hbC.trans (hbD.mono hbC.size)).mono C3.out.size))
  clear xC hbC HGD hbD hbD' ltD k1 k2 z1 z2
  go_upto_region 12 with fail
  clear hwD
  have k2 : Hid (Dsk (Old wD) wD (.agg #[.slice X d.1.length xc, .slice Y d.2.length yc]) d) := Lib.hid (HG.out.at 10 rfl)
  obtain ⟨z1, z2, _⟩ := HG.out.at 9 rfl
  go_wp2_with fail
  with_reducible refine (hrd.out _ _ k2.out).mono ?_
  rintro eF wF ⟨EF, cF, rfl, xF, hbF⟩
  replace HG := Lib.hid ((HG.out.below hbF).add (F := NewB w3.heap.size (.slice EF R.length cF) R) (stab_by.mono xF C3.out.size) (lasts_newB _ _ _))
  replace C3 := Lib.hid (C3.out.trans (hbF.mono C3.out.size))
  clear xF hbF k2 z1 z2
  have k2 : Hid (Dsk (Old wF) wF (.agg #[.slice A d.1.length c, .slice B d.2.length e0]) d) := Lib.hid (HG.out.at 13 rfl)
  obtain ⟨z1, z2, _⟩ := HG.out.at 12 rfl
  go_wp2_with fail
  with_reducible refine (hrrd.out _ _ k2.out).mono ?_
  rintro eH wH ⟨EH, cH, rfl, xH, hbH⟩
  replace HG := Lib.hid ((HG.out.below hbH).add (F := OldB (.slice EH R.length cH) R) xH (lasts_oldB _ _))
  replace C3 := Lib.hid (C3.out.trans (hbH.mono C3.out.size))
  clear xH hbH k2 z1 z2
  -- all is the same
  obtain ⟨z1, z2, _⟩ := HG.out.at 5 rfl
  obtain ⟨z3, z4, _⟩ := HG.out.at 3 rfl
  have kw : Hid (Dsk (Old wH) wH (.agg #[.slice AA D2.1.length cA, .slice BA D2.2.length dA]) D2) := Lib.hid (Dsk.drop (HG.out.at 4 rfl : Dsk (New w3.heap.size wH) wH _ D2))
  have kx : Hid (Dsk (Old wH) wH (.agg #[.slice AC D2.1.length cC, .slice BC D2.2.length dC]) D2) := Lib.hid (HG.out.at 2 rfl)
  have s9 := rBy_str0 (stab_by.drop (HG.out.at 9 rfl : rBy (New w3.heap.size wH) wH _ P))
  have s8 := rBy_str0 (HG.out.at 8 rfl : rBy (Old wH) wH _ P)
  have s7 := rBy_str0 (HG.out.at 7 rfl : rBy (Old wH) wH _ Q)
  have s6 := rBy_str0 (HG.out.at 6 rfl : rBy (Old wH) wH _ Q)
  have nP : (P != P) = false := by simp
  have nQ : (Q != Q) = false := by simp
  have nR : (R != R) = false := by simp
  have np : (pe != pe) = false := by simp
  have nq : (qe != qe) = false := by simp
  have ns : (sm != sm) = false := by simp
  have nk : (ck != ck) = false := by simp
  have nw : (we != we) = false := by simp
  have nr : (re != re) = false := by simp
  clear hup hrup hdn hrdn hsu hrsu hwr hrwr hrd hrrd
  go_wp2_with fail
  with_reducible refine (refSame_any _ _ D2 D2 _ kw.out kx.out).mono ?_
  rintro eI wI ⟨rfl, hbI⟩
  rw [sameD_self]
  replace HG := Lib.hid (HG.out.below hbI)
  replace C3 := Lib.hid (C3.out.trans (hbI.mono C3.out.size))
  clear hbI kw kx z1 z2 z3 z4 s9 s8 s7 s6
  have s1 := rBy_str0 (stab_by.drop (HG.out.at 1 rfl : rBy (New w3.heap.size wI) wI _ R))
  have s0 := rBy_str0 (HG.out.at 0 rfl : rBy (Old wI) wI _ R)
  go_upto_region 16 with fail
  have HO : Hid (∀ W, Below wI.heap.size wI W → rBy (Old W) W [.slice O t.length oc] t ∧ rBy (Old W) W [.slice E t.length ce] t) := Lib.hid fun W hW => by
    have H := HG.out.below hW
    exact ⟨H.at 10 rfl, H.at 15 rfl⟩
  obtain ⟨Z, hZ⟩ : ∃ Z, zeros 256 = Z := ⟨_, rfl⟩
  have hnew : Hid (∀ W, Calls Try.prog 11 #[] W fun e w' => ∃ g, e = .returned (.slice (some ⟨g, 0, none⟩) 256 256) ∧ rBy (Old w') w' [.slice (some ⟨g, 0, none⟩) 256 256] Z ∧ Below W.heap.size W w') := Lib.hid fun W => by
    rw [← hZ]
    exact (cntNew_by W).mono fun e w' ⟨g, a, h, b⟩ => ⟨g, a, stab_by.drop h, b⟩
  have hrnew : Hid (∀ W, Calls Try.prog 27 #[] W fun e w' => ∃ g, e = .returned (.slice (some ⟨g, 0, none⟩) 256 256) ∧ rBy (Old w') w' [.slice (some ⟨g, 0, none⟩) 256 256] Z ∧ Below W.heap.size W w') := Lib.hid fun W => by
    rw [← hZ]
    exact (refNewT_by W).mono fun e w' ⟨g, a, h, b⟩ => ⟨g, a, stab_by.drop h, b⟩
  replace hZ := Lib.hid hZ
  refine wp_region_fx (by kernel_rfl) (fun W => Below wI.heap.size wI W) (fun i => match i with
      | 6 => some (fun v W => ∃ g, v = .slice (some ⟨g, 0, none⟩) 256 256 ∧ rBy (Old W) W [.slice (some ⟨g, 0, none⟩) 256 256] Z)
      | 8 => some (fun v W => ∃ g, v = .slice (some ⟨g, 0, none⟩) 256 256 ∧ rBy (Old W) W [.slice (some ⟨g, 0, none⟩) 256 256] Z)
      | _ => none) (fun i => match i with
      | 1 => some (.int .i64 ck)
      | 3 => some (.int .i64 ck)
      | 7 => some (.string ⟨Z.toArray⟩)
      | 9 => some (.string ⟨Z.toArray⟩)
      | _ => none) (by kernel_rfl) (Below.refl _ _).drew (fun w w' h hb => h.trans (hb.mono h.size)) ?tst2 ?_
  case tst2 =>
    intro j φ x W W' hp hx hb
    match j, hp with
    | 6, hp =>
      cases hp
      obtain ⟨g, e, h1⟩ := hx
      exact ⟨g, e, stab_by.old h1 hb⟩
    | 8, hp =>
      cases hp
      obtain ⟨g, e, h1⟩ := hx
      exact ⟨g, e, stab_by.old h1 hb⟩
  repeat (first
    | (refine wpAs_skip rfl ?_; simp only [Act.put, List.setIfInBounds_toArray, List.set_cons_zero, List.set_cons_succ])
    | (refine wpAs_pure (v := ?_) rfl rfl ?_ ?_; rotate_left; (intro W hC hE; clear hE; skip; clear hC; go_simp; done); simp only [Act.put, List.setIfInBounds_toArray, List.set_cons_zero, List.set_cons_succ])
    | (refine wpAs_pure (v := ?_) rfl rfl ?_ ?_; rotate_left; (intro W hC hE; clear hE; skip; clear hC; go_simp; with_reducible rfl); simp only [Act.put, List.setIfInBounds_toArray, List.set_cons_zero, List.set_cons_succ]))
  refine wpAs_fixed rfl rfl rfl ?_ ?_
  · intro W hC hE
    refine does_enter (f := 17) (args := #[.slice O t.length oc]) ?_ ?_
    · clear hC hE
      go_simp
    · obtain ⟨_, _, e, l1, m1, hby⟩ := rBy_byt (B := W.heap.size) (fun _ h => h) (HO.out W hC).1
      cases e
      refine (checkT_any O t.length oc t (Lib.hid rfl) l1 m1 W hby).mono ?_
      rintro e W' ⟨rfl, rfl⟩
      rw [hck.out]
      exact ⟨_, rfl, rfl, Below.refl _ _⟩
  simp only [Act.put, List.setIfInBounds_toArray, List.set_cons_zero, List.set_cons_succ]
  repeat (first
    | (refine wpAs_skip rfl ?_; simp only [Act.put, List.setIfInBounds_toArray, List.set_cons_zero, List.set_cons_succ])
    | (refine wpAs_pure (v := ?_) rfl rfl ?_ ?_; rotate_left; (intro W hC hE; clear hE; skip; clear hC; go_simp; done); simp only [Act.put, List.setIfInBounds_toArray, List.set_cons_zero, List.set_cons_succ])
    | (refine wpAs_pure (v := ?_) rfl rfl ?_ ?_; rotate_left; (intro W hC hE; clear hE; skip; clear hC; go_simp; with_reducible rfl); simp only [Act.put, List.setIfInBounds_toArray, List.set_cons_zero, List.set_cons_succ]))
  refine wpAs_fixed rfl rfl rfl ?_ ?_
  · intro W hC hE
    refine does_enter (f := 26) (args := #[.slice E t.length ce]) ?_ ?_
    · clear hC hE
      go_simp
    · obtain ⟨_, _, e, l1, m1, hby⟩ := rBy_byt (B := W.heap.size) (fun _ h => h) (HO.out W hC).2
      cases e
      refine (refCheckT_any E t.length ce t (Lib.hid rfl) l1 m1 W hby).mono ?_
      rintro e W' ⟨rfl, rfl⟩
      rw [hck.out]
      exact ⟨_, rfl, rfl, Below.refl _ _⟩
  simp only [Act.put, List.setIfInBounds_toArray, List.set_cons_zero, List.set_cons_succ]
  repeat (first
    | (refine wpAs_skip rfl ?_; simp only [Act.put, List.setIfInBounds_toArray, List.set_cons_zero, List.set_cons_succ])
    | (refine wpAs_pure (v := ?_) rfl rfl ?_ ?_; rotate_left; (intro W hC hE; clear hE; skip; clear hC; go_simp; done); simp only [Act.put, List.setIfInBounds_toArray, List.set_cons_zero, List.set_cons_succ])
    | (refine wpAs_pure (v := ?_) rfl rfl ?_ ?_; rotate_left; (intro W hC hE; clear hE; skip; clear hC; go_simp; with_reducible rfl); simp only [Act.put, List.setIfInBounds_toArray, List.set_cons_zero, List.set_cons_succ]))
  refine wpAs_act rfl rfl ?_ ?_
  · intro W hC hE
    refine does_enter (f := 11) (args := #[]) ?_ ?_
    · go_simp
    · refine (hnew.out W).mono ?_
      rintro e W' ⟨g, rfl, h1, hw⟩
      exact ⟨_, rfl, ⟨g, rfl, h1⟩, hw⟩
  simp only [Act.put, List.setIfInBounds_toArray, List.set_cons_zero, List.set_cons_succ, envAdd]
  intro x167
  refine wpAs_fixed rfl rfl rfl ?_ ?_
  · intro W hC hE
    obtain ⟨g, rfl, h1⟩ := hE.1 rfl
    have hs := rBy_str0 h1
    clear hE hC h1
    rw [run_convert_op (v := .slice (some ⟨g, 0, none⟩) 256 256) _ _ _ rfl (by first | rfl | simp) hs]
    exact ⟨rfl, Below.refl _ _⟩
  simp only [Act.put, List.setIfInBounds_toArray, List.set_cons_zero, List.set_cons_succ]
  refine wpAs_act rfl rfl ?_ ?_
  · intro W hC hE
    refine does_enter (f := 27) (args := #[]) ?_ ?_
    · go_simp
    · refine (hrnew.out W).mono ?_
      rintro e W' ⟨g, rfl, h1, hw⟩
      exact ⟨_, rfl, ⟨g, rfl, h1⟩, hw⟩
  simp only [Act.put, List.setIfInBounds_toArray, List.set_cons_zero, List.set_cons_succ, envAdd]
  intro x169
  refine wpAs_fixed rfl rfl rfl ?_ ?_
  · intro W hC hE
    obtain ⟨g, rfl, h1⟩ := hE.1 rfl
    have hs := rBy_str0 h1
    clear hE hC h1
    rw [run_convert_op (v := .slice (some ⟨g, 0, none⟩) 256 256) _ _ _ rfl (by first | rfl | simp) hs]
    exact ⟨rfl, Below.refl _ _⟩
  simp only [Act.put, List.setIfInBounds_toArray, List.set_cons_zero, List.set_cons_succ]
  repeat (first
    | (refine wpAs_skip rfl ?_; simp only [Act.put, List.setIfInBounds_toArray, List.set_cons_zero, List.set_cons_succ])
    | (refine wpAs_pure (v := ?_) rfl rfl ?_ ?_; rotate_left; (intro W hC hE; clear hE; skip; clear hC; go_simp; done); simp only [Act.put, List.setIfInBounds_toArray, List.set_cons_zero, List.set_cons_succ])
    | (refine wpAs_pure (v := ?_) rfl rfl ?_ ?_; rotate_left; (intro W hC hE; clear hE; skip; clear hC; go_simp; with_reducible rfl); simp only [Act.put, List.setIfInBounds_toArray, List.set_cons_zero, List.set_cons_succ]))
  refine wpAs_end fun W hC hE => ?_
  clear hE
  replace HG := Lib.hid (HG.out.below hC)
  replace C3 := Lib.hid (C3.out.trans (hC.mono C3.out.size))
  clear hC HO hnew hrnew s1 s0 nP nQ nR np nq ns nk nw nr
  -- bytes are turned
  have HA : Hid (∀ j, j < P.length → ∃ ad, E4 = some ad ∧ New w3.heap.size W (ad.add j) ∧ W.cell? (ad.add j) = some (.int .u8 ((P[j]?.getD 0).toNat : Int))) := Lib.hid (by
    obtain ⟨_, _, e, _, _, h⟩ := rBy_open (HG.out.at 9 rfl : rBy (New w3.heap.size W) W _ P)
    cases e
    exact h)
  have HR : Hid (∀ j, j < R.length → ∃ ad, EF = some ad ∧ New w3.heap.size W (ad.add j) ∧ W.cell? (ad.add j) = some (.int .u8 ((R[j]?.getD 0).toNat : Int))) := Lib.hid (by
    obtain ⟨_, _, e, _, _, h⟩ := rBy_open (HG.out.at 1 rfl : rBy (New w3.heap.size W) W _ R)
    cases e
    exact h)
  have lP : P.length ≤ 9223372036854775807 := by
    obtain ⟨_, _, _, l1, l2, _⟩ := rBy_open (HG.out.at 9 rfl : rBy (New w3.heap.size W) W _ P)
    omega
  have lR : R.length ≤ 9223372036854775807 := by
    obtain ⟨_, _, _, l1, l2, _⟩ := rBy_open (HG.out.at 1 rfl : rBy (New w3.heap.size W) W _ R)
    omega
  go_wp2_with fail
  go_loopw [31] (fun i wr => ∃ j : Nat, j ≤ P.length ∧ i = .int .i64 j ∧ Spoilt w3.heap.size W wr) (fun i _ => P.length - (intOf i).toNat)
  case atStart => exact ⟨0, by omega, rfl, Spoilt.refl _ _⟩
  case round =>
    obtain ⟨j, hj, rfl, hS⟩ := hrel
    by_cases hlt2 : j < P.length
    · obtain ⟨ad, hEa, hok, hcb⟩ := HA.out j hlt2
      subst hEa
      obtain ⟨y, hy⟩ := hS.byte (ad.add j) _ hok.2.1 hcb
      have hf := (hS.fro _ hok.2.1).trans hok.2.2
      have hst : Hid (Spoilt w3.heap.size W (wr.setCell (ad.add j) (.int .u8 9))) := Lib.hid (hS.step hok.1 hy 9)
      replace hok := Lib.hid hok
      clear hS hcb
      go_wp2_with fail
      go_roundw
      case rel => exact ⟨j + 1, by omega, by go_num, hst.out⟩
      case measure => simp [intOf]; omega
    · have hS1 := Lib.hid hS
      clear hS
      go_wp2_with fail
      go_loopw [32] (fun i wr => ∃ j : Nat, j ≤ R.length ∧ i = .int .i64 j ∧ Spoilt w3.heap.size W wr) (fun i _ => R.length - (intOf i).toNat)
      case atStart => exact ⟨0, by omega, rfl, hS1.out⟩
      case round =>
        clear hS1
        obtain ⟨j2, hj2, rfl, hS⟩ := hrel
        by_cases hlt3 : j2 < R.length
        · obtain ⟨ad, hEa, hok, hcb⟩ := HR.out j2 hlt3
          subst hEa
          obtain ⟨y, hy⟩ := hS.byte (ad.add j2) _ hok.2.1 hcb
          have hf := (hS.fro _ hok.2.1).trans hok.2.2
          have hst : Hid (Spoilt w3.heap.size W (wr.setCell (ad.add j2) (.int .u8 9))) := Lib.hid (hS.step hok.1 hy 9)
          replace hok := Lib.hid hok
          clear hS hcb
          go_wp2_with fail
          go_roundw
          case rel => exact ⟨j2 + 1, by omega, by go_num, hst.out⟩
          case measure => simp [intOf]; omega
        · have hS2 := Lib.hid hS
          clear hS
          have HWW := Lib.hid (Dsk.open (HG.out.at 4 rfl : Dsk (New w3.heap.size W) W _ D2))
          obtain ⟨p1, p2, lt3⟩ := HG.out.at 5 rfl
          obtain ⟨m, hm⟩ : ∃ m, D2.2.length = m := ⟨_, rfl⟩
          have HW3 : Hid (∀ i x, D2.2[i]? = some x → ∃ ad v, BA = some ad ∧ New w3.heap.size W (ad.add (i * 2 + 1)) ∧ W.cell? (ad.add (i * 2 + 1)) = some v ∧ rBy (New w3.heap.size W) W [v] x.2) := Lib.hid fun i x hx => by
            obtain ⟨_, _, _, _, e, _, _, _, _, _, h⟩ := HWW.out
            cases e
            obtain ⟨ad, v, e1, _, h2, _, h4, h5, _⟩ := h i x hx
            exact ⟨ad, v, e1, h2, h4, h5⟩
          have lm : m ≤ 9223372036854775807 := by
            obtain ⟨_, _, _, _, e, _, _, l1, l2, _⟩ := HWW.out
            omega
          rw [hm] at p2
          replace hm := Lib.hid hm
          replace p1 := Lib.hid p1
          clear HWW
          go_wp2_with fail
          go_loopw [33] (fun i wr => ∃ j : Nat, j ≤ m ∧ i = .int .i64 j ∧ Spoilt w3.heap.size W wr) (fun i _ => m - (intOf i).toNat)
          case atStart => exact ⟨0, by omega, rfl, hS2.out⟩
          case round =>
            clear hS2
            obtain ⟨j3, hj3, rfl, hS⟩ := hrel
            have z1 := hS.rest ⟨wA.heap.size, 1, none⟩ _ lt3 p2 (by simp)
            by_cases hlt4 : j3 < m
            · obtain ⟨x, hx⟩ : ∃ x, D2.2[j3]? = some x := ⟨_, List.getElem?_eq_getElem (by rw [hm.out]; exact hlt4)⟩
              obtain ⟨rd, u, hBa, hok, hc, hby⟩ := HW3.out j3 x hx
              subst hBa
              obtain ⟨E', ce', rfl, lE, mE, HE'⟩ := rBy_open hby
              have HE := Lib.hid HE'
              obtain ⟨q, hq⟩ : ∃ q, x.2.length = q := ⟨_, rfl⟩
              rw [hq] at lE hc
              rw [add_next] at hc hok
              replace hq := Lib.hid hq
              replace hok := Lib.hid hok
              clear HE' hby hx
              have c1 := hS.rest _ _ hok.out.2.1 hc (by simp)
              go_wp2_with fail
              go_loopw [34] (fun i wi => ∃ k : Nat, k ≤ q ∧ i = .int .i64 k ∧ Spoilt w3.heap.size W wi) (fun i _ => q - (intOf i).toNat)
              case atStart => exact ⟨0, by omega, rfl, hS⟩
              case round =>
                clear hS z1 c1
                obtain ⟨k, hk, rfl, hT⟩ := hrel
                have z1 := hT.rest ⟨wA.heap.size, 1, none⟩ _ lt3 p2 (by simp)
                have c1 := hT.rest _ _ hok.out.2.1 hc (by simp)
                by_cases hl2 : k < q
                · obtain ⟨bd, hEb, hok2, hcb⟩ := HE.out k (by rw [hq.out]; exact hl2)
                  subst hEb
                  obtain ⟨y, hy⟩ := hT.byte (bd.add k) _ hok2.2.1 hcb
                  have hf := (hT.fro _ hok2.2.1).trans hok2.2.2
                  have hst : Hid (Spoilt w3.heap.size W (wr.setCell (bd.add k) (.int .u8 9))) := Lib.hid (hT.step hok2.1 hy 9)
                  replace hok2 := Lib.hid hok2
                  clear hcb hT
                  go_wp2_with fail
                  go_roundw
                  case rel => exact ⟨k + 1, by omega, by go_num, hst.out⟩
                  case measure => simp [intOf]; omega
                · have hT' := Lib.hid hT
                  clear hT
                  go_wp2_with fail
                  go_roundw
                  case rel => exact ⟨j3 + 1, by omega, by go_num, hT'.out⟩
                  case measure => simp [intOf]; omega
            · have CW := Lib.hid (C3.out.trans hS.low)
              have HGF := Lib.hid (HG3.out.below CW.out)
              have BW := Lib.hid (BB.out.trans (CW.out.mono BB.out.size))
              obtain ⟨wz, rfl⟩ : ∃ wz : World, wz = wr := ⟨_, rfl⟩
              clear hS
              have s1 := rBy_str0 (HGF.out.at 0 rfl : rBy (Old wz) wz _ t)
              have s2 := rBy_str0 (HGF.out.at 5 rfl : rBy (Old wz) wz _ t)
              obtain ⟨z5, z6, _⟩ := HGF.out.at 1 rfl
              obtain ⟨z7, z8, _⟩ := HGF.out.at 3 rfl
              have kd : Hid (Dsk (Old wz) wz (.agg #[.slice X d.1.length xc, .slice Y d.2.length yc]) d) := Lib.hid (HGF.out.at 2 rfl)
              have ko : Hid (Dsk (Old wz) wz (.agg #[.slice A d.1.length c, .slice B d.2.length e0]) d) := Lib.hid (HGF.out.at 4 rfl)
              have nt : (t == t) = true := by simp
              go_wp2_with fail
              with_reducible refine (refSame_any _ _ d d _ kd.out ko.out).mono ?_
              rintro eZ wZ ⟨rfl, hbZ⟩
              rw [sameD_self]
              go_wp2_with fail
              go_ret
              exact ⟨rfl, BW.out.trans (hbZ.mono BW.out.size)⟩

/-! ### The row's step -/
set_option maxRecDepth 100000 in
theorem lifted (os : Os) (started : os.Started) (H : Type) (enc : TypeId × Value → H) :
    ReturnsInHanded {} Try.checked os 4 .any (Rows.countTablesSpec.pre6 enc Try.prog Try.f4 Rows.countTablesRow.domain false) (Rows.countTablesSpec.post enc Try.prog Try.f4 false true false false) := by
  refine returnsInHanded_of_change (C := Try.checked) own started (by kernel_rfl) Try.func4
    (ChangeSpec.witness6 (enc := enc) (C := Try.checked) false ⟨#[], #[.slice none 0 0, .int .i64 0, .agg #[.slice none 0 0, .slice none 0 0], .int .i64 0], []⟩ 8 (by kernel_rfl) (by kernel_rfl) (by kernel_rfl) (by kernel_rfl)) ?_
  intro W base args ds gs before hval0 hW _ _
  have hval : ∀ (j : Nat) t v, Try.f4.params[j]? = some t → args[j]? = some v → Value.okWide Try.prog W .any base t v := hval0
  have hW' := hW
  obtain ⟨p, q, hA0, hV, _, _, _⟩ := hW
  have hA : DataW.TrodAll enc Try.prog W 0 (fun _ => true) true Try.f4.params.toList args.toList ds p := hA0
  rw [Try.params4] at hA hval
  obtain ⟨v0, vs0, d0, ds0, p0, q0, hargs, rfl, _, h0, r0⟩ := trodAll_cons hA
  obtain ⟨v1, vs1, d1, ds1, p1, q1, rfl, rfl, _, h1, r1⟩ := trodAll_cons r0
  obtain ⟨v2, vs2, d2, ds2, p2, q2, rfl, rfl, _, h2, r2⟩ := trodAll_cons r1
  obtain ⟨v3, vs3, d3, ds3, p3, q3, rfl, rfl, _, h3, r3⟩ := trodAll_cons r2
  obtain ⟨rfl, rfl, _⟩ := trodAll_nil r3
  obtain rfl : args = #[v0, v1, v2, v3] := by cases args; simp_all
  obtain ⟨rfl, _⟩ := trodVars_none hV
  obtain ⟨d0x, y0⟩ := open_by (hval 0 23 v0 rfl rfl) h0
  obtain ⟨a1, rfl, _, _, w1⟩ := open_int Try.underlying3 (hval 1 3 v1 rfl rfl) h1
  obtain ⟨d2x, y2⟩ := open_disk (hval 2 31 v2 rfl rfl) h2
  obtain ⟨a3, rfl, _, _, w3⟩ := open_int Try.underlying3 (hval 3 3 v3 rfl rfl) h3
  clear hA0 hval0
  refine (walk v0 d0x a1 w1 v2 d2x a3 w3 W y0 y2).mono fun e W' ⟨he, hb⟩ => ?_
  subst he
  exact ⟨_, rfl, law_post laidOut (by rw [Try.params4]; decide +kernel) (by kernel_rfl) Try.underlying4 rfl ⟨rfl, by simp [Rows.countTablesSpec], rfl⟩ hW' hb⟩

theorem over : Rows.countTablesRow.holds Try.pinned (OpenSpec.ofChange Rows.countTablesSpec) :=
  OpenClaim.holds_of_wide 4 Try.f4 rfl rfl rfl rfl rfl rfl rfl ⟨rfl, rfl, rfl, rfl, rfl⟩ rfl rfl rfl rfl rfl (by kernel_rfl) Try.func4 (by kernel_rfl)
    (of_decide_eq_true (by kernel_rfl)) (by unfold Func.isWrapper; first | (rw [if_pos (by decide +kernel)]; kernel_rfl) | (rw [if_neg (by decide +kernel)]; exact ⟨rfl, rfl⟩))
    (fun os started H enc _ => lifted os started H enc)

end Go.Proofs.Ytkklkhnoljmgbaa.countTables
namespace Go.Proofs.Ytkklkhnoljmgbaa
theorem countTables_proved : Rows.CountTablesSaid := countTables.over
end Go.Proofs.Ytkklkhnoljmgbaa
