/-
  Package dev: Crash. Conditions: those that each lemma states.
-/
import Derived.Test.YtgnogclhleheiaaDevBarrier
import Derived.Test.YtgnogclhleheiaaMarked
import Derived.Deep.RegionHeld3
namespace Go.Proofs.Ytgnogclhleheiaa
open Go.RowKit

def keptD (d : Dk) (ks : List Bool) : Dk := (d.1, markedW d.2 ks)
theorem markedW_mem : ∀ {ws : List Wt} {ks : List Bool} {x : Wt}, x ∈ markedW ws ks → x ∈ ws
  | [], ks, x, h => by cases ks <;> simp [markedW] at h
  | y :: r, [], x, h => by simp [markedW] at h
  | y :: r, k :: ks, x, h => by
    cases k with
    | true =>
      simp only [markedW, if_true, List.mem_cons] at h
      rcases h with rfl | h
      · exact List.mem_cons.2 (.inl rfl)
      · exact List.mem_cons.2 (.inr (markedW_mem h))
    | false =>
      simp only [markedW] at h
      exact List.mem_cons.2 (.inr (markedW_mem h))
theorem may_kept {d : Dk} {ks : List Bool} (h : mayB d = true) : mayB (keptD d ks) = true := by
  obtain ⟨h1, h2, h3, h4⟩ := may_of h
  have hl := markedW_length d.2 ks
  refine may_mk h1 (by simp only [keptD]; omega) ?_ ?_
  · rw [List.all_eq_true]
    intro x hx
    obtain ⟨j, hj⟩ := List.getElem?_of_mem hx
    simp [byB, h3 j x hj]
  · rw [List.all_eq_true]
    intro x hx
    obtain ⟨j, hj⟩ := List.getElem?_of_mem (markedW_mem hx)
    obtain ⟨a, b, c⟩ := h4 j x hj
    exact wtB_yes a b c

set_option maxHeartbeats 1000000 in
theorem crash_bad (v u : Value) (d : Dk) (ks : List Bool) (w : World) (h : Dsk (Old w) w v d) (hu : rSl 1 rBool (Old w) w [u] ks) (hm : mayB d = false) :
    Calls Try.prog 23 #[v, u] w fun e w' => e = .returned (.tuple #[.agg #[.slice none 0 0, .slice none 0 0], .int .i64 8]) ∧ Below w.heap.size w w' := by
  obtain ⟨a, b, rfl, _⟩ := id h
  obtain ⟨w2, hw2, f1, f2, f3, hsz, hB⟩ := box_two w a b #[.slice none 0 0, .slice none 0 0] 25
  have H := Lib.hid (h.below hB)
  have hc := Lib.hid (chk_bad hm)
  replace hm := Lib.hid hm
  replace hsz := Lib.hid hsz
  obtain ⟨A, c, B, e, e1, _⟩ := h.open
  cases e1
  clear h hu
  go_enter Try.func23, Try.ntmps23
  go_upto_region 1 with fail
  clear hw2
  go_wp2_with fail
  refine (check_any _ d _ H.out).mono ?_
  rintro e w3 ⟨rfl, hb3⟩
  rw [hc.out]
  have f4 := (hb3.block (w.heap.size + 1) (by rw [hsz.out]; omega)).trans f3
  obtain ⟨k1, k2, k3, k4⟩ := two_cells f4
  obtain ⟨W9, hW9, g9, gr9, gs9⟩ := put_two (u := .slice none 0 0) (v := .slice none 0 0) f4
  obtain ⟨k5, k6, _, _⟩ := two_cells g9
  have hB9 := (hB.trans (hb3.mono hB.size)).grown gr9 (Nat.le_trans hB.size hb3.size) (fun q e => by cases e; omega)
  replace f4 := Lib.hid f4
  replace f3 := Lib.hid f3
  replace g9 := Lib.hid g9
  clear f1 f2
  go_wp2_with fail
  exact bodyPost_ret (v := .tuple #[.agg #[.slice none 0 0, .slice none 0 0], .int .i64 8]) (by simp [results, Try.results23, go_sem, k5, k6]) rfl ⟨rfl, hB9⟩

set_option maxHeartbeats 1000000 in
theorem crash_len (v u : Value) (d : Dk) (ks : List Bool) (w : World) (h : Dsk (Old w) w v d) (hu : rSl 1 rBool (Old w) w [u] ks) (hm : mayB d = true) (hl : ks.length ≠ d.2.length) :
    Calls Try.prog 23 #[v, u] w fun e w' => e = .returned (.tuple #[.agg #[.slice none 0 0, .slice none 0 0], .int .i64 2]) ∧ Below w.heap.size w w' := by
  obtain ⟨a, b, rfl, _⟩ := id h
  obtain ⟨w2, hw2, f1, f2, f3, hsz, hB⟩ := box_two w a b #[.slice none 0 0, .slice none 0 0] 25
  have H := Lib.hid (h.below hB)
  have hc := Lib.hid (chk_ok hm)
  replace hm := Lib.hid hm
  replace hsz := Lib.hid hsz
  obtain ⟨A, c, B, e, e1, _⟩ := h.open
  cases e1
  obtain ⟨K, kc, rfl, _⟩ := bools_open hu
  clear h hu
  have hl' : ((ks.length : Int) != d.2.length) = true := by simp; omega
  go_enter Try.func23, Try.ntmps23
  go_upto_region 1 with fail
  clear hw2
  go_wp2_with fail
  refine (check_any _ d _ H.out).mono ?_
  rintro e w3 ⟨rfl, hb3⟩
  rw [hc.out]
  have f4 := (hb3.block (w.heap.size + 1) (by rw [hsz.out]; omega)).trans f3
  have g2 := (hb3.cell (p := ⟨w.heap.size, 1, none⟩) (by rw [hsz.out]; simp)).trans f2
  obtain ⟨k1, k2, k3, k4⟩ := two_cells f4
  obtain ⟨W9, hW9, g9, gr9, gs9⟩ := put_two (u := .slice none 0 0) (v := .slice none 0 0) f4
  obtain ⟨k5, k6, _, _⟩ := two_cells g9
  have hB9 := (hB.trans (hb3.mono hB.size)).grown gr9 (Nat.le_trans hB.size hb3.size) (fun q e => by cases e; omega)
  replace f4 := Lib.hid f4
  replace f3 := Lib.hid f3
  replace g9 := Lib.hid g9
  clear f1 f2
  go_wp2_with fail
  exact bodyPost_ret (v := .tuple #[.agg #[.slice none 0 0, .slice none 0 0], .int .i64 2]) (by simp [results, Try.results23, go_sem, k5, k6]) rfl ⟨rfl, hB9⟩

set_option maxRecDepth 100000 in
set_option maxHeartbeats 4000000 in
theorem crash_ok (v u : Value) (d : Dk) (ks : List Bool) (w : World) (h : Dsk (Old w) w v d) (hu : rSl 1 rBool (Old w) w [u] ks) (hm : mayB d = true) (hl : ks.length = d.2.length) :
    Calls Try.prog 23 #[v, u] w fun e w' => ∃ x, e = .returned (.tuple #[x, .int .i64 0]) ∧ Dsk (New w.heap.size w') w' x (settledD (keptD d ks)) ∧ Below w.heap.size w w' := by
  obtain ⟨a, b, rfl, _⟩ := id h
  obtain ⟨w2, hw2, f1, f2, f3, hsz, hB⟩ := box_two w a b #[.slice none 0 0, .slice none 0 0] 25
  have H := Lib.hid (h.below hB)
  have hc := Lib.hid (chk_ok hm)
  have hbig : d.2.length ≤ 100000 := by have := (may_of hm).2.1; omega
  replace hm := Lib.hid hm
  replace hsz := Lib.hid hsz
  obtain ⟨A, c, B, e, e1, _⟩ := h.open
  cases e1
  have hus := (show Stab (rSl 1 rBool) from stab_sl stab_bool).old hu hB
  obtain ⟨K, kc, rfl, _⟩ := bools_open hu
  clear h hu
  have hl' : ((ks.length : Int) != d.2.length) = false := by simp; omega
  replace hl := Lib.hid hl
  go_enter Try.func23, Try.ntmps23
  go_upto_region 1 with fail
  clear hw2
  go_wp2_with fail
  refine (check_any _ d _ H.out).mono ?_
  rintro e w3 ⟨rfl, hb3⟩
  rw [hc.out]
  have f4 := (hb3.block (w.heap.size + 1) (by rw [hsz.out]; omega)).trans f3
  have g1 := (hb3.cell (p := ⟨w.heap.size, 0, none⟩) (by rw [hsz.out]; simp)).trans f1
  have g2 := (hb3.cell (p := ⟨w.heap.size, 1, none⟩) (by rw [hsz.out]; simp)).trans f2
  have H3 := Lib.hid (H.out.below hb3)
  have hus3 := Lib.hid ((show Stab (rSl 1 rBool) from stab_sl stab_bool).old hus hb3)
  have hB3 := hB.trans (hb3.mono hB.size)
  replace f4 := Lib.hid f4
  clear f1 f2 f3 hus H hB hb3
  go_wp2_with fail
  have lt1 := World.block_lt_of_cell? _ _ g1
  have lt2 := World.block_lt_of_cell? _ _ g2
  have lt5 : w.heap.size + 1 < w3.heap.size := (Array.getElem?_eq_some_iff.1 f4.out).1
  have hbl := Lib.hid ((stab_sl stab_by).old H3.out.parts.1 (Below.refl w3.heap.size w3).drew)
  have hwt := Lib.hid ((stab_sl stab_wt).old H3.out.parts.2 (Below.refl w3.heap.size w3).drew)
  have hks := Lib.hid ((show Stab (rSl 1 rBool) from stab_sl stab_bool).old hus3.out (Below.refl w3.heap.size w3).drew)
  clear hus3
  go_region_held3 (fun w' => w'.cell? ⟨w.heap.size, 0, none⟩ = some (.slice A d.1.length c) ∧ w'.cell? ⟨w.heap.size, 1, none⟩ = some (.slice B d.2.length e))
    (first | go_keep | (go_split_ands; refine ⟨?_, ?_⟩ <;> (rw [hbm.cell (by assumption)]; assumption)) | (go_split_ands; refine ⟨?_, ?_⟩ <;> (rw [hbz.cell (Nat.lt_of_lt_of_le (by assumption) hbm.size), hbm.cell (by assumption)]; assumption)))
    (first
      | (go_at_call 57; refine (marked_any _ _ d.2 ks _ hwt.out hks.out hl.out.symm hbig).mono ?_; rintro e' wm ⟨xm, rfl, hxm, hbm⟩; obtain ⟨M, mc, em, _⟩ := wts_open hxm; cases em)
      | (go_at_call 21; refine (barrier_ok _ (keptD d ks) _ ⟨_, _, rfl, (stab_sl stab_by).old hbl.out hbm, hxm⟩ (may_kept hm.out)).mono ?_; rintro e' wz ⟨xz, rfl, hxz, hbz⟩; obtain ⟨A9, c9, B9, d9, rfl, _⟩ := hxz.open; obtain ⟨k1, k2, k3, k4⟩ := two_cells ((hbz.block (w.heap.size + 1) (Nat.lt_of_lt_of_le lt5 hbm.size)).trans ((hbm.block (w.heap.size + 1) lt5).trans f4.out))))
  have hz := (hbz.block (w.heap.size + 1) (Nat.lt_of_lt_of_le lt5 hbm.size)).trans ((hbm.block (w.heap.size + 1) lt5).trans f4.out)
  obtain ⟨W9, hW9, g9, gr9, gs9⟩ := put_two (u := .slice A9 (settledD (keptD d ks)).1.length c9) (v := .slice B9 (settledD (keptD d ks)).2.length d9) hz
  obtain ⟨k5, k6, _, _⟩ := two_cells g9
  have hBz : Below w.heap.size w wz := hB3.drew.trans ((hbm.trans (hbz.mono hbm.size)).mono hB3.size)
  have hB9 := hBz.grown gr9 hBz.size (fun q e => by cases e; omega)
  have hsm : w3.heap.size ≤ wm.heap.size := hbm.size
  have hfin := Lib.hid (show Dsk (New w.heap.size W9) W9 (.agg #[.slice A9 (settledD (keptD d ks)).1.length c9, .slice B9 (settledD (keptD d ks)).2.length d9]) (settledD (keptD d ks)) from
    ⟨_, _, rfl, (stab_sl stab_by).mono ((stab_sl stab_by).grown hxz.parts.1 gr9 (fun q e => by cases e; omega)) (by omega), (stab_sl stab_wt).mono ((stab_sl stab_wt).grown hxz.parts.2 gr9 (fun q e => by cases e; omega)) (by omega)⟩)
  rw [hW9]
  clear hW9 hz g9 gr9 hxz
  go_wp2_with fail
  exact bodyPost_ret (v := .tuple #[.agg #[.slice A9 (settledD (keptD d ks)).1.length c9, .slice B9 (settledD (keptD d ks)).2.length d9], .int .i64 0]) (by simp [results, Try.results23, go_sem, k5, k6]) rfl ⟨_, rfl, hfin.out, hB9⟩
end Go.Proofs.Ytgnogclhleheiaa
