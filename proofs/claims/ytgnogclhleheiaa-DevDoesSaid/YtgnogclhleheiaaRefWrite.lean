/-
  The document's answers of layer 3: Write. Conditions: those that each lemma states.
-/
import Derived.Test.YtgnogclhleheiaaRefWith
namespace Go.Proofs.Ytgnogclhleheiaa
open Go.RowKit

set_option maxRecDepth 100000 in
set_option maxHeartbeats 4000000 in
theorem refWrite_any (v u : Value) (d : Dk) (n : Int) (xs : List UInt8) (w : World) (h : Dsk (Old w) w v d) (hu : rBy (Old w) w [u] xs) :
    Calls Try.prog 20 #[v, .int .i64 n, u] w fun e w' => ∃ x, e = .returned (.tuple #[x, .int .i64 (wErr d n xs)]) ∧ Dsk (Old w') w' x (wrR d n xs) ∧ Below w.heap.size w w' := by
  obtain ⟨A, c, B, c', rfl, _⟩ := id h.open
  obtain ⟨E, ce, rfl, _⟩ := id (rBy_open hu)
  obtain ⟨w2, hw2, f1, f2, f3, hsz, hB⟩ := box_two w (.slice A d.1.length c) (.slice B d.2.length c') #[.slice none 0 0, .slice none 0 0] 25
  have H := Lib.hid (h.below hB)
  have U := Lib.hid (stab_by.old hu hB)
  replace h := Lib.hid h
  replace hu := Lib.hid hu
  replace hsz := Lib.hid hsz
  go_enter Try.func20, Try.ntmps20
  go_upto_region 1 with fail
  clear hw2
  go_wp2_with fail
  with_reducible refine (may_any _ d _ H.out).mono ?_
  rintro er w3 ⟨rfl, hb3⟩
  have H3 := Lib.hid (H.out.below hb3)
  have U3 := Lib.hid (stab_by.old U.out hb3)
  have f4 := (hb3.block (w.heap.size + 1) (by rw [hsz.out]; omega)).trans f3
  have g1 := (hb3.cell (p := ⟨w.heap.size, 0, none⟩) (by rw [hsz.out]; simp)).trans f1
  have g2 := (hb3.cell (p := ⟨w.heap.size, 1, none⟩) (by rw [hsz.out]; simp)).trans f2
  obtain ⟨k1, k2, k3, k4⟩ := two_cells f4
  have hB3 := hB.trans (hb3.mono hB.size)
  have hl3 : w.heap.size + 2 ≤ w3.heap.size := by have := hsz.out; have := hb3.size; omega
  clear f1 f2 H U
  replace f3 := Lib.hid f3
  by_cases he : wErr d n xs = 0
  · obtain ⟨hm, ht, h8, h9⟩ := write_fine he (.inr trivial)
    obtain ⟨k, rfl, hk⟩ := thereB_nat ht
    have hr : Hid (wrR d (k : Int) xs = wrD d k xs) := Lib.hid (by simp [wrR, he])
    have hw := Lib.hid he
    rw [hm]
    have i1 : ¬ (k : Int) < 0 := by omega
    have i2 : ¬ (256 : Int) ≤ (k : Int) := by omega
    have i3 : ((xs.length : Int) != 128) = false := by rw [h8]; rfl
    have i4 : ¬ (4096 : Int) ≤ (d.2.length : Int) := by omega
    replace h8 := Lib.hid h8
    replace f4 := Lib.hid f4
    clear he hm ht
    go_wp2_with fail
    with_reducible refine (refWith_in _ _ d k xs w _ hB3 h.out hu.out h9 hk).mono ?_
    rintro es w4 ⟨x, rfl, hx, hb4⟩
    obtain ⟨A4, c4, B4, d4, rfl, _⟩ := id hx.open
    have f5 := (hb4.block (w.heap.size + 1) (by omega)).trans f4.out
    obtain ⟨y1, y2, y3, _⟩ := two_cells f5
    obtain ⟨W9, hW9, g9, gr9, gs9⟩ := put_two (u := .slice A4 (wrD d k xs).1.length c4) (v := .slice B4 (wrD d k xs).2.length d4) f5
    obtain ⟨k5, k6, _, _⟩ := two_cells g9
    have hB9 := (hB3.trans (hb4.mono hB3.size)).grown gr9 (Nat.le_trans hB3.size hb4.size) (fun q e => by cases e; omega)
    have hfin := Lib.hid (show Dsk (Old W9) W9 (.agg #[.slice A4 (wrD d k xs).1.length c4, .slice B4 (wrD d k xs).2.length d4]) (wrD d k xs) from
      hx.map fun p v hp hc => by
        have hlt : p.block < w4.heap.size := hp.elim (fun hp => Nat.lt_of_lt_of_le hp (Nat.le_trans hB3.size hb4.size)) (fun hp => hp.2)
        have hs : W9.heap[p.block]? = w4.heap[p.block]? := gr9.block _ hlt (fun e => by simp only [Option.some.injEq] at e; rcases hp with hp | hp <;> omega)
        exact ⟨show p.block < W9.heap.size by omega, (World.cell?_of_block hs).trans hc⟩)
    replace f5 := Lib.hid f5
    replace g9 := Lib.hid g9
    clear hx gr9
    go_wp2_with fail
    exact bodyPost_ret (v := .tuple #[.agg #[.slice A4 (wrD d k xs).1.length c4, .slice B4 (wrD d k xs).2.length d4], .int .i64 0]) (by simp [results, Try.results20, go_sem, k5, k6]) rfl ⟨_, by rw [hw.out], by rw [hr.out]; exact hfin.out, hB9⟩
  · have hr : Hid (wrR d n xs = emptyD) := Lib.hid (by simp [wrR, he])
    obtain ⟨W9, hW9, g9, gr9, gs9⟩ := put_two (u := .slice none 0 0) (v := .slice none 0 0) f4
    obtain ⟨k5, k6, _, _⟩ := two_cells g9
    have hB9 := hB3.grown gr9 hB3.size (fun q e => by cases e; omega)
    replace f4 := Lib.hid f4
    replace g9 := Lib.hid g9
    cases hm : mayB d with
    | false =>
      have hw := Lib.hid (show wErr d n xs = 8 by simp [wErr, hm])
      clear he hm
      go_wp2_with fail
      exact bodyPost_ret (v := .tuple #[.agg #[.slice none 0 0, .slice none 0 0], .int .i64 8]) (by simp [results, Try.results20, go_sem, k5, k6]) rfl ⟨_, by rw [hw.out], by rw [hr.out]; exact (dsk_empty_new 0 W9).drop, hB9⟩
    | true =>
      cases ht : thereB n with
      | false =>
        have hw := Lib.hid (show wErr d n xs = 2 by simp [wErr, hm, ht])
        by_cases h0 : n < 0
        · clear he hm ht
          go_wp2_with fail
          exact bodyPost_ret (v := .tuple #[.agg #[.slice none 0 0, .slice none 0 0], .int .i64 2]) (by simp [results, Try.results20, go_sem, k5, k6]) rfl ⟨_, by rw [hw.out], by rw [hr.out]; exact (dsk_empty_new 0 W9).drop, hB9⟩
        · have h1 : (256 : Int) ≤ n := by
            simp only [thereB, Bool.and_eq_false_iff, decide_eq_false_iff_not] at ht
            omega
          clear he hm ht
          go_wp2_with fail
          exact bodyPost_ret (v := .tuple #[.agg #[.slice none 0 0, .slice none 0 0], .int .i64 2]) (by simp [results, Try.results20, go_sem, k5, k6]) rfl ⟨_, by rw [hw.out], by rw [hr.out]; exact (dsk_empty_new 0 W9).drop, hB9⟩
      | true =>
        obtain ⟨k, rfl, hk⟩ := thereB_nat ht
        have i1 : ¬ (k : Int) < 0 := by omega
        have i2 : ¬ (256 : Int) ≤ (k : Int) := by omega
        by_cases h8 : xs.length = 128
        · have h9 : d.2.length = 4096 := by
            unfold wErr at he
            simp [hm, ht, h8] at he
            exact he
          have hw := Lib.hid (show wErr d k xs = 9 by simp [wErr, hm, ht, h8, h9])
          have i3 : ((xs.length : Int) != 128) = false := by rw [h8]; rfl
          have i4 : (4096 : Int) ≤ (d.2.length : Int) := by omega
          replace h8 := Lib.hid h8
          replace h9 := Lib.hid h9
          clear he hm ht
          go_wp2_with fail
          exact bodyPost_ret (v := .tuple #[.agg #[.slice none 0 0, .slice none 0 0], .int .i64 9]) (by simp [results, Try.results20, go_sem, k5, k6]) rfl ⟨_, by rw [hw.out], by rw [hr.out]; exact (dsk_empty_new 0 W9).drop, hB9⟩
        · have hw := Lib.hid (show wErr d k xs = 3 by simp [wErr, hm, ht, h8])
          have i3 : ((xs.length : Int) != 128) = true := by simp; omega
          clear he hm ht h8
          go_wp2_with fail
          exact bodyPost_ret (v := .tuple #[.agg #[.slice none 0 0, .slice none 0 0], .int .i64 3]) (by simp [results, Try.results20, go_sem, k5, k6]) rfl ⟨_, by rw [hw.out], by rw [hr.out]; exact (dsk_empty_new 0 W9).drop, hB9⟩
end Go.Proofs.Ytgnogclhleheiaa
