/-
  The document's answers of layer 3: Crash. Conditions: those that each lemma states.
-/
import Derived.Test.YtgnogclhleheiaaRefBarrier
import Derived.Test.YtgnogclhleheiaaRefKept
namespace Go.Proofs.Ytgnogclhleheiaa
open Go.RowKit

/-- What both answer to a crash. -/
def craE (d : Dk) (ks : List Bool) : Int := if mayB d then (if ks.length = d.2.length then 0 else 2) else 8
def craX (d : Dk) (ks : List Bool) : Dk := if mayB d then (if ks.length = d.2.length then settledD (keptD d ks) else emptyD) else emptyD
set_option maxRecDepth 100000 in
set_option maxHeartbeats 4000000 in
theorem refCrash_any (v u : Value) (d : Dk) (ks : List Bool) (w : World) (h : Dsk (Old w) w v d) (hu : rSl 1 rBool (Old w) w [u] ks) :
    Calls Try.prog 24 #[v, u] w fun e w' => ∃ x, e = .returned (.tuple #[x, .int .i64 (craE d ks)]) ∧ Dsk (Old w') w' x (craX d ks) ∧ Below w.heap.size w w' := by
  obtain ⟨A, c, B, c', rfl, _⟩ := id h.open
  obtain ⟨K, kc, rfl, _⟩ := id (bools_open hu)
  obtain ⟨w2, hw2, f1, f2, f3, hsz, hB⟩ := box_two w (.slice A d.1.length c) (.slice B d.2.length c') #[.slice none 0 0, .slice none 0 0] 25
  have H := Lib.hid (h.below hB)
  replace h := Lib.hid h
  replace hu := Lib.hid hu
  replace hsz := Lib.hid hsz
  go_enter Try.func24, Try.ntmps24
  go_upto_region 1 with fail
  clear hw2
  go_wp2_with fail
  with_reducible refine (may_any _ d _ H.out).mono ?_
  rintro er w3 ⟨rfl, hb3⟩
  have f4 := (hb3.block (w.heap.size + 1) (by rw [hsz.out]; omega)).trans f3
  have g1 := (hb3.cell (p := ⟨w.heap.size, 0, none⟩) (by rw [hsz.out]; simp)).trans f1
  have g2 := (hb3.cell (p := ⟨w.heap.size, 1, none⟩) (by rw [hsz.out]; simp)).trans f2
  obtain ⟨k1, k2, k3, k4⟩ := two_cells f4
  have hB3 := hB.trans (hb3.mono hB.size)
  have hl3 : w.heap.size + 2 ≤ w3.heap.size := by have := hsz.out; have := hb3.size; omega
  clear f1 f2 H
  replace f3 := Lib.hid f3
  cases hm : mayB d with
  | true =>
    by_cases hl : ks.length = d.2.length
    · have hw : Hid (craE d ks = 0) := Lib.hid (by simp [craE, hm, hl])
      have hr : Hid (craX d ks = settledD (keptD d ks)) := Lib.hid (by simp [craX, hm, hl])
      have e1 : ((ks.length : Int) != d.2.length) = false := by simp; omega
      replace hm := Lib.hid hm
      replace hl := Lib.hid hl
      replace f4 := Lib.hid f4
      go_wp2_with fail
      with_reducible refine (refKept_in _ _ d ks w _ hB3 h.out hu.out hm.out hl.out).mono ?_
      rintro es w4 ⟨x, rfl, hx, hb4⟩
      obtain ⟨A4, c4, B4, d4, rfl, _⟩ := id hx.open
      have f5 := (hb4.block (w.heap.size + 1) (by omega)).trans f4.out
      obtain ⟨y1, y2, y3, _⟩ := two_cells f5
      obtain ⟨W9, hW9, g9, gr9, gs9⟩ := put_two (u := .slice A4 (settledD (keptD d ks)).1.length c4) (v := .slice B4 (settledD (keptD d ks)).2.length d4) f5
      obtain ⟨k5, k6, _, _⟩ := two_cells g9
      have hB9 := (hB3.trans (hb4.mono hB3.size)).grown gr9 (Nat.le_trans hB3.size hb4.size) (fun q e => by cases e; omega)
      have hfin := Lib.hid (apart_put hx gr9 (by omega) (by omega) hb4.size gs9)
      replace f5 := Lib.hid f5
      replace g9 := Lib.hid g9
      clear hx gr9
      go_wp2_with fail
      exact bodyPost_ret (v := .tuple #[.agg #[.slice A4 (settledD (keptD d ks)).1.length c4, .slice B4 (settledD (keptD d ks)).2.length d4], .int .i64 0]) (by simp [results, Try.results24, go_sem, k5, k6]) rfl ⟨_, by rw [hw.out], by rw [hr.out]; exact hfin.out, hB9⟩
    · have hw : Hid (craE d ks = 2) := Lib.hid (by simp [craE, hm, hl])
      have hr : Hid (craX d ks = emptyD) := Lib.hid (by simp [craX, hm, hl])
      have e1 : ((ks.length : Int) != d.2.length) = true := by simp; omega
      obtain ⟨W9, hW9, g9, gr9, gs9⟩ := put_two (u := .slice none 0 0) (v := .slice none 0 0) f4
      obtain ⟨k5, k6, _, _⟩ := two_cells g9
      have hB9 := hB3.grown gr9 hB3.size (fun q e => by cases e; omega)
      replace f4 := Lib.hid f4
      replace g9 := Lib.hid g9
      clear hm hl
      go_wp2_with fail
      exact bodyPost_ret (v := .tuple #[.agg #[.slice none 0 0, .slice none 0 0], .int .i64 2]) (by simp [results, Try.results24, go_sem, k5, k6]) rfl ⟨_, by rw [hw.out], by rw [hr.out]; exact (dsk_empty_new 0 W9).drop, hB9⟩
  | false =>
    have hw : Hid (craE d ks = 8) := Lib.hid (by simp [craE, hm])
    have hr : Hid (craX d ks = emptyD) := Lib.hid (by simp [craX, hm])
    obtain ⟨W9, hW9, g9, gr9, gs9⟩ := put_two (u := .slice none 0 0) (v := .slice none 0 0) f4
    obtain ⟨k5, k6, _, _⟩ := two_cells g9
    have hB9 := hB3.grown gr9 hB3.size (fun q e => by cases e; omega)
    replace f4 := Lib.hid f4
    replace g9 := Lib.hid g9
    clear hm
    go_wp2_with fail
    exact bodyPost_ret (v := .tuple #[.agg #[.slice none 0 0, .slice none 0 0], .int .i64 8]) (by simp [results, Try.results24, go_sem, k5, k6]) rfl ⟨_, by rw [hw.out], by rw [hr.out]; exact (dsk_empty_new 0 W9).drop, hB9⟩
end Go.Proofs.Ytgnogclhleheiaa
