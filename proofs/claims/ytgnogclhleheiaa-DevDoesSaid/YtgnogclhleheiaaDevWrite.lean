/-
  Package dev: Write. Conditions: those that each lemma states.
-/
import Derived.Test.YtgnogclhleheiaaDevRead
import Derived.Test.YtgnogclhleheiaaDevTwin
import Derived.Deep.RegionHeld3
import Derived.Deep.AppendLies
namespace Go.Proofs.Ytgnogclhleheiaa
open Go.RowKit

/-- The error of a write. -/
def wErr (d : Dk) (n : Int) (xs : List UInt8) : Int := if mayB d then (if thereB n then (if xs.length = 128 then (if d.2.length = 4096 then 9 else 0) else 3) else 2) else 8
theorem wErr_at {d : Dk} {n : Int} {xs : List UInt8} (h : chkAt d n ≠ 0) : wErr d n xs = chkAt d n := by
  unfold wErr chkAt at *
  split
  · split
    · simp_all
    · rfl
  · rfl

set_option maxHeartbeats 2000000 in
theorem write_bad (v u : Value) (d : Dk) (n : Int) (xs : List UInt8) (w : World) (h : Dsk (Old w) w v d) (hu : rBy (Old w) w [u] xs) (he : wErr d n xs ≠ 0) :
    Calls Try.prog 19 #[v, .int .i64 n, u] w fun e w' => e = .returned (.tuple #[.agg #[.slice none 0 0, .slice none 0 0], .int .i64 (wErr d n xs)]) ∧ Below w.heap.size w w' := by
  obtain ⟨a, b, rfl, _⟩ := id h
  obtain ⟨w2, hw2, f1, f2, f3, hsz, hB⟩ := box_two w a b #[.slice none 0 0, .slice none 0 0] 25
  have H := Lib.hid (h.below hB)
  obtain ⟨A, c, B, e, e1, _⟩ := h.open
  cases e1
  obtain ⟨E, ce, rfl, _⟩ := rBy_open hu
  clear h hu
  replace hsz := Lib.hid hsz
  cases hc : chkAt d n == 0 with
  | false =>
    have hc' : chkAt d n ≠ 0 := by simpa using hc
    have hw := Lib.hid (wErr_at (xs := xs) hc')
    obtain ⟨q, hq⟩ : ∃ q, chkAt d n = q := ⟨_, rfl⟩
    rw [hw.out, hq]
    rw [hq] at hc
    replace hq := Lib.hid hq
    have hc2 : (q != 0) = true := by simpa using hc
    clear he hc'
    go_enter Try.func19, Try.ntmps19
    go_upto_region 1 with fail
    clear hw2
    go_wp2_with fail
    refine (checkAt_any _ d n _ H.out).mono ?_
    rintro e w3 ⟨rfl, hb3⟩
    rw [hq.out]
    have f4 := (hb3.block (w.heap.size + 1) (by rw [hsz.out]; omega)).trans f3
    obtain ⟨k1, k2, k3, k4⟩ := two_cells f4
    obtain ⟨W9, hW9, g9, gr9, gs9⟩ := put_two (u := .slice none 0 0) (v := .slice none 0 0) f4
    obtain ⟨k5, k6, _, _⟩ := two_cells g9
    have hB9 := (hB.trans (hb3.mono hB.size)).grown gr9 (Nat.le_trans hB.size hb3.size) (fun q e => by cases e; omega)
    replace f4 := Lib.hid f4
    replace f3 := Lib.hid f3
    replace g9 := Lib.hid g9
    clear f1 f2
    go_wp2_with fail
    exact bodyPost_ret (v := .tuple #[.agg #[.slice none 0 0, .slice none 0 0], .int .i64 q]) (by simp [results, Try.results19, go_sem, k5, k6]) rfl ⟨rfl, hB9⟩
  | true =>
    have hc' : chkAt d n = 0 := by simpa using hc
    clear hc
    have hmt : mayB d = true ∧ thereB n = true := by
      unfold chkAt at hc'
      cases h1 : mayB d <;> cases h2 : thereB n <;> simp [h1, h2] at hc' ⊢
    replace hc' := Lib.hid hc'
    by_cases h8 : xs.length = 128
    · have h9 : d.2.length = 4096 := by
        unfold wErr at he
        simp [hmt, h8] at he
        exact he
      have hw := Lib.hid (show wErr d n xs = 9 by simp [wErr, hmt, h8, h9])
      rw [hw.out]
      have e8 : ((xs.length : Int) != 128) = false := by rw [h8]; rfl
      have e9 : ((d.2.length : Int) == 4096) = true := by rw [h9]; rfl
      replace h8 := Lib.hid h8
      replace h9 := Lib.hid h9
      clear he hmt
      go_enter Try.func19, Try.ntmps19
      go_upto_region 1 with fail
      clear hw2
      go_wp2_with fail
      refine (checkAt_any _ d n _ H.out).mono ?_
      rintro e w3 ⟨rfl, hb3⟩
      rw [hc'.out]
      have f4 := (hb3.block (w.heap.size + 1) (by rw [hsz.out]; omega)).trans f3
      have g2 := (hb3.cell (p := ⟨w.heap.size, 1, none⟩) (by rw [hsz.out]; simp)).trans f2
      obtain ⟨k1, k2, k3, k4⟩ := two_cells f4
      obtain ⟨W9, hW9, g9, gr9, gs9⟩ := put_two (u := .slice none 0 0) (v := .slice none 0 0) f4
      obtain ⟨k5, k6, _, _⟩ := two_cells g9
      have hB9 := (hB.trans (hb3.mono hB.size)).grown gr9 (Nat.le_trans hB.size hb3.size) (fun q e => by cases e; omega)
      replace f4 := Lib.hid f4
      replace f3 := Lib.hid f3
      replace g9 := Lib.hid g9
      clear f1 f2
      go_wp2_with fail
      exact bodyPost_ret (v := .tuple #[.agg #[.slice none 0 0, .slice none 0 0], .int .i64 9]) (by simp [results, Try.results19, go_sem, k5, k6]) rfl ⟨rfl, hB9⟩
    · have hw := Lib.hid (show wErr d n xs = 3 by simp [wErr, hmt, h8])
      rw [hw.out]
      have e8 : ((xs.length : Int) != 128) = true := by simp; omega
      clear he hmt h8
      go_enter Try.func19, Try.ntmps19
      go_upto_region 1 with fail
      clear hw2
      go_wp2_with fail
      refine (checkAt_any _ d n _ H.out).mono ?_
      rintro e w3 ⟨rfl, hb3⟩
      rw [hc'.out]
      have f4 := (hb3.block (w.heap.size + 1) (by rw [hsz.out]; omega)).trans f3
      obtain ⟨k1, k2, k3, k4⟩ := two_cells f4
      obtain ⟨W9, hW9, g9, gr9, gs9⟩ := put_two (u := .slice none 0 0) (v := .slice none 0 0) f4
      obtain ⟨k5, k6, _, _⟩ := two_cells g9
      have hB9 := (hB.trans (hb3.mono hB.size)).grown gr9 (Nat.le_trans hB.size hb3.size) (fun q e => by cases e; omega)
      replace f4 := Lib.hid f4
      replace f3 := Lib.hid f3
      replace g9 := Lib.hid g9
      clear f1 f2
      go_wp2_with fail
      exact bodyPost_ret (v := .tuple #[.agg #[.slice none 0 0, .slice none 0 0], .int .i64 3]) (by simp [results, Try.results19, go_sem, k5, k6]) rfl ⟨rfl, hB9⟩

set_option maxRecDepth 100000 in
set_option maxHeartbeats 4000000 in
theorem write_ok (v u : Value) (d : Dk) (k : Nat) (xs : List UInt8) (w : World) (h : Dsk (Old w) w v d) (hu : rBy (Old w) w [u] xs) (hm : mayB d = true) (hk : k < 256) (hl : xs.length = 128) (hf : d.2.length < 4096) :
    Calls Try.prog 19 #[v, .int .i64 k, u] w fun e w' => ∃ x, e = .returned (.tuple #[x, .int .i64 0]) ∧ Dsk (New w.heap.size w') w' x (d.1, d.2 ++ [((k : Int), xs)]) ∧ Below w.heap.size w w' := by
  obtain ⟨i0, hi, hz0, hz1, hz2⟩ := info_parts wts_info0
  obtain ⟨a, b, rfl, _⟩ := id h
  obtain ⟨w2, hw2, f1, f2, f3, hsz, hB⟩ := box_two w a b #[.slice none 0 0, .slice none 0 0] 25
  have H := Lib.hid (h.below hB)
  obtain ⟨A, c, B, e, e1, _⟩ := h.open
  cases e1
  have hu2 := stab_by.old hu hB
  obtain ⟨E, ce, rfl, _⟩ := rBy_open hu
  clear h hu
  replace hsz := Lib.hid hsz
  have hc := Lib.hid (chkAt_ok hm (thereB_of hk))
  have hsm := Lib.hid (small_of_may hm)
  have e8 : ((xs.length : Int) != 128) = false := by rw [hl]; rfl
  have e9 : ((d.2.length : Int) == 4096) = false := by simp; omega
  replace hm := Lib.hid hm
  replace hl := Lib.hid hl
  go_enter Try.func19, Try.ntmps19
  go_upto_region 1 with fail
  clear hw2
  go_wp2_with fail
  refine (checkAt_any _ d k _ H.out).mono ?_
  rintro e w3 ⟨rfl, hb3⟩
  rw [hc.out]
  have f4 := (hb3.block (w.heap.size + 1) (by rw [hsz.out]; omega)).trans f3
  have g1 := (hb3.cell (p := ⟨w.heap.size, 0, none⟩) (by rw [hsz.out]; simp)).trans f1
  have g2 := (hb3.cell (p := ⟨w.heap.size, 1, none⟩) (by rw [hsz.out]; simp)).trans f2
  have H3 := Lib.hid (H.out.below hb3)
  have hu3 := stab_by.old hu2 hb3
  have hB3 := hB.trans (hb3.mono hB.size)
  have hl3 : w.heap.size + 2 ≤ w3.heap.size := by have := hsz.out; have := hb3.size; omega
  replace f4 := Lib.hid f4
  clear f1 f2 f3 hu2 H hB hb3
  go_wp2_with fail
  refine (twin_own _ d _ hsm.out H3.out).mono ?_
  rintro e w4 ⟨x, rfl, ⟨a4, A4, c4, ps, rfl, hx1, hx2, hx3, hx4⟩, hb4⟩
  obtain ⟨R4, r4, er, _⟩ := rows_open hx1
  cases er
  have hu4 := stab_by.old hu3 hb4
  have f5 := (hb4.block (w.heap.size + 1) (by omega)).trans f4.out
  have hB4 := hB3.trans (hb4.mono hB3.size)
  have hl4 : w.heap.size + 2 ≤ w4.heap.size := Nat.le_trans hl3 hb4.size
  obtain ⟨wb, hwb, b1, b3, hbb⟩ := box_pair' w4 (.slice R4 d.1.length r4) (.slice A4 d.2.length c4) 25
  have hu5 := stab_by.old hu4 hbb
  have hA4 : Hid (∀ q, A4.map (·.block) = some q → q < w4.heap.size ∧ w3.heap.size ≤ q) := Lib.hid fun q e => by
    have := hx2.lt q (by rw [hx3]; exact e)
    exact ⟨this.2, this.1⟩
  have hownb : wb.drew.ownsRow w3.heap.size 78 2 (.slice A4 d.2.length c4) d.2.length (wcells ps) := own_below hx2 hbb.drew
  have f6 := (hbb.block (w.heap.size + 1) (by omega)).trans f5
  obtain ⟨_, s1, s2, s3⟩ := two_cells b1
  have hB5 := hB4.trans (hbb.mono hB4.size)
  replace b1 := Lib.hid b1
  replace hownb := Lib.hid hownb
  replace f5 := Lib.hid f5
  replace f6 := Lib.hid f6
  replace hx1 := Lib.hid hx1
  replace hx2 := Lib.hid hx2
  replace hx4 := Lib.hid hx4
  replace hx3 := Lib.hid hx3
  replace b3 := Lib.hid b3
  have hub : Hid (rBy (Old wb) wb [.slice E xs.length ce] xs) := Lib.hid hu5
  clear hu3 hu4 hu5
  have hd2 : d.2.length < 4096 := hf
  go_upto_region 9 with fail
  clear hwb
  have p1 : xs.length ≤ 140737488355328 := by rw [hl.out]; omega
  refine wp_region_tails (by kernel_rfl) 7 (fun W => Below wb.heap.size wb W) (fun i => match i with
      | 4 => some (fun v W => rBy (New wb.heap.size W) W [v] xs)
      | 5 => some (fun v W => ∃ Y cy, v = .agg #[.int .i64 (k : Int), .slice Y xs.length cy] ∧ rBy (New wb.heap.size W) W [.slice Y xs.length cy] xs)
      | 6 => some (fun v W => ∃ g Y cy, v = .slice (some ⟨g, 0, none⟩) 1 1 ∧ wb.heap.size ≤ g ∧ W.heap[g]? = some (.cells #[.int .i64 (k : Int), .slice Y xs.length cy] 78 (0, 0)) ∧ rBy (New wb.heap.size W) W [.slice Y xs.length cy] xs)
      | _ => none) (fun _ => none) (by decide) (by kernel_rfl) (by kernel_rfl) (Below.refl _ _).drew (fun w w' h hb => h.trans (hb.mono h.size)) ?tst ?_
  case tst =>
    intro j φ x W W' hp hx hb
    match j, hp with
    | 4, hp => cases hp; exact stab_by.new hx (Nat.le_refl _) hb
    | 5, hp =>
      cases hp
      obtain ⟨Y, cy, e1, e2⟩ := hx
      exact ⟨Y, cy, e1, stab_by.new e2 (Nat.le_refl _) hb⟩
    | 6, hp =>
      cases hp
      obtain ⟨g, Y, cy, e1, e2, e3, e4⟩ := hx
      exact ⟨g, Y, cy, e1, e2, (hb.block g (Array.getElem?_eq_some_iff.1 e3).1).trans e3, stab_by.new e4 (Nat.le_refl _) hb⟩
  simp only [List.take_succ_cons, List.take_zero, List.drop_succ_cons, List.drop_zero]
  repeat (first
    | (refine wpAs_skip rfl ?_; simp only [Act.put, List.setIfInBounds_toArray, List.set_cons_zero, List.set_cons_succ])
    | (refine wpAs_pure (v := ?_) rfl rfl ?_ ?_; rotate_left; (intro W hC hE; clear hE; (have z1 := (hC.cell (p := ⟨w4.heap.size, 1, none⟩) s3).trans s1); clear hC; go_simp; done); simp only [Act.put, List.setIfInBounds_toArray, List.set_cons_zero, List.set_cons_succ])
    | (refine wpAs_pure (v := ?_) rfl rfl ?_ ?_; rotate_left; (intro W hC hE; clear hE; (have z1 := (hC.cell (p := ⟨w4.heap.size, 1, none⟩) s3).trans s1); clear hC; go_simp; with_reducible rfl); simp only [Act.put, List.setIfInBounds_toArray, List.set_cons_zero, List.set_cons_succ]))
  refine wpAs_act rfl rfl ?_ ?_
  · intro W hC hE
    clear hE
    refine does_enter (f := 52) (args := #[.slice E xs.length ce]) ?_ ?_
    · go_simp
    · refine (clone_by _ xs W p1 (stab_by.old hub.out hC)).mono ?_
      rintro e W' ⟨u, rfl, ho, hb⟩
      exact ⟨_, rfl, stab_by.mono ho hC.size, hb⟩
  simp only [Act.put, List.setIfInBounds_toArray, List.set_cons_zero, List.set_cons_succ, envAdd]
  intro x32
  refine wpAs_act rfl rfl ?_ ?_
  · intro W hC hE
    have h32 := hE.1 rfl
    obtain ⟨Y, cy, rfl, _⟩ := rBy_open h32
    clear hE hC
    have h32' := Lib.hid h32
    clear h32
    go_simp
    exact ⟨⟨Y, cy, rfl, h32'.out⟩, Below.refl _ _⟩
  simp only [Act.put, List.setIfInBounds_toArray, List.set_cons_zero, List.set_cons_succ, envAdd]
  intro x33
  refine wpAs_act rfl rfl ?_ ?_
  · intro W hC hE
    obtain ⟨Y, cy, rfl, h33⟩ := hE.1 rfl
    have hsz' := hC.size
    have h33' := Lib.hid (stab_by.new h33 (Nat.le_refl _) ((Below.refl W.heap.size W).alloc (Nat.le_refl _) (.cells #[.int .i64 (k : Int), .slice Y xs.length cy] 78)))
    clear hE hC h33
    go_simp
    exact ⟨⟨W.heap.size, rfl, hsz', Y, cy, heap_alloc_new _ _, h33'.out⟩, (Below.refl _ _).alloc (Nat.le_refl _) _⟩
  simp only [Act.put, List.setIfInBounds_toArray, List.set_cons_zero, List.set_cons_succ, envAdd]
  intro x34
  refine wpAs_end fun W hC hE => ?_
  obtain ⟨⟨g, Y, cy, rfl, hg, hg3, hy⟩, _⟩ := hE
  have hownW := own_below hx2.out (hbb.trans (hC.mono hbb.size))
  have hbkW := (hC.block w4.heap.size s3).trans b1.out
  obtain ⟨_, z1, z2, z3⟩ := two_cells hbkW
  obtain ⟨y1, y2, _, y4⟩ := two_cells hg3
  have hBW := hB5.trans (hC.mono hB5.size)
  have hlW : w3.heap.size ≤ W.heap.size := Nat.le_trans hb4.size (by have := b3.out; omega)
  have p2 : d.2.length + 1 ≤ maxLen := by unfold maxLen; omega
  have p3 : (d.2.length + 1) * 32 ≤ 140737488355328 := by omega
  have hlc := hy
  replace hbkW := Lib.hid hbkW
  replace hg3 := Lib.hid hg3
  replace hlc := Lib.hid hlc
  clear hy
  go_wp2_with (at_builtin; refine wpList_append_own _ rfl _ _ 23 rfl w3.heap.size 78 i0 (.agg #[.int .i64 0, .slice none 0 0]) 2 32 Try.underlying23 hi hz0 hz1 hz2 rfl (by decide) _ _ _ rfl hownW ⟨g, 0, none⟩ 1 1 [.int .i64 (k : Int), .slice Y xs.length cy] rfl rfl ?d1 ?d2 p2 p3 hlW ?_)
  case d1 => exact World.news_of_block (cs := #[.int .i64 (k : Int), .slice Y xs.length cy]) hg3.out
  case d2 =>
    intro u hu
    simp at hu
    rcases hu with rfl | rfl <;> rfl
  intro v' w1 hown' hgrow _
  obtain ⟨A5, c5, rfl, q1, q2, q3, q4⟩ := own_any hown'
  have p8 : some w4.heap.size ≠ (Value.slice A4 d.2.length c4).ownBlock := by rw [hx3.out]; exact fun e => absurd (hA4.out _ e.symm).1 (Nat.lt_irrefl _)
  have zz := (hgrow.block w4.heap.size z3 p8).trans hbkW.out
  obtain ⟨y5, y6, y7, y8⟩ := two_cells zz
  obtain ⟨W6, hW6, g6, gr6, gs6⟩ := put_snd (u := .slice A5 (d.2.length + 1) c5) zz
  obtain ⟨y9, y10, _, _⟩ := two_cells g6
  have hrow : ∀ q, (Value.slice A4 d.2.length c4).ownBlock = some q → w3.heap.size ≤ q := fun q e => (hA4.out q (by rw [← hx3.out]; exact e)).2
  have hl3' : w.heap.size + 2 ≤ w3.heap.size := hl3
  have fz := ((gr6.block (w.heap.size + 1) (by have := hgrow.size; omega) (fun e => by simp only [Option.some.injEq] at e; omega)).trans ((hgrow.block (w.heap.size + 1) (by omega) (fun e => by have := hrow _ e.symm; omega)).trans ((hC.block (w.heap.size + 1) (by have := b3.out; omega)).trans f6.out)))
  obtain ⟨y11, y12, y13, _⟩ := two_cells fz
  obtain ⟨W9, hW9, g9, gr9, gs9⟩ := put_two (u := .slice R4 d.1.length r4) (v := .slice A5 (d.2.length + 1) c5) fz
  obtain ⟨k5, k6, _, _⟩ := two_cells g9
  have hB1 := hBW.grown hgrow hBW.size (fun q e => by have := hrow q e; omega)
  have hB6 := hB1.grown gr6 hB1.size (fun q e => by cases e; omega)
  have hB9 := hB6.grown gr9 hB6.size (fun q e => by cases e; omega)
  have hfin := Lib.hid (show Dsk (New w.heap.size W9) W9 (.agg #[.slice R4 d.1.length r4, .slice A5 (d.2.length + 1) c5]) (d.1, d.2 ++ [((k : Int), xs)]) from by
    have hne1 := own_not hown' zz (by decide)
    have hown6 := hown'.kept gr6 (.inr (Ne.symm hne1))
    have hne2 := own_not hown6 fz (by decide)
    have hown9 := own_low (hown6.kept gr9 (.inr (Ne.symm hne2))) (show w.heap.size ≤ w3.heap.size by omega)
    have hsame : ∀ b, w3.heap.size ≤ b → b < w4.heap.size → A4.map (·.block) ≠ some b → W9.heap[b]? = w4.heap[b]? := fun b h1 h2 h3 => by
      have hbW : b < W.heap.size := by have := b3.out; have := hC.size; omega
      rw [gr9.block b (by have := gs6; have := hgrow.size; omega) (fun e => by simp only [Option.some.injEq] at e; omega), gr6.block b (Nat.lt_of_lt_of_le hbW hgrow.size) (fun e => by simp only [Option.some.injEq] at e; omega),
        hgrow.block b hbW (fun e => h3 (by rw [← hx3.out]; exact e.symm)), hC.block b (by have := b3.out; omega), hbb.block b h2]
    have hst9 : ∀ p v, NewBut w3.heap.size A4 w4 p → w4.cell? p = some v → New w.heap.size W9 p ∧ W9.cell? p = some v := fun p v hp hc => by
      have hs := hsame p.block hp.1.1 hp.1.2.1 hp.2
      refine ⟨⟨by have := hp.1.1; omega, ?_, (World.frozen?_of_block hs).trans hp.1.2.2⟩, (World.cell?_of_block hs).trans hc⟩
      have := hp.1.2.1
      have := gs9
      have := gs6
      have := hgrow.size
      have := hC.size
      have := b3.out
      omega
    refine ⟨_, _, rfl, stab_sl stab_by _ _ _ _ _ _ hst9 hx1.out, ?_⟩
    have e1 : wcells ps ++ [.int .i64 (k : Int), .slice Y xs.length cy] = wcells (ps ++ [((k : Int), .slice Y xs.length cy)]) := by rw [wcells_append]; rfl
    rw [e1] at hown9
    have hpl : ps.length = d.2.length := by have := hx2.out.1; rw [wcells_length] at this; omega
    have hlen9 : (d.2 ++ [((k : Int), xs)]).length = d.2.length + 1 := by simp
    have h9 := own_wts hown9 hlen9 fun i p x hp hx => ?_
    · exact h9
    rcases Nat.lt_or_ge i ps.length with hi | hi
    · rw [List.getElem?_append_left hi] at hp
      rw [List.getElem?_append_left (by omega)] at hx
      obtain ⟨c1, c2, c3⟩ := hx4.out i p x hp hx
      exact ⟨c1, stab_by _ _ _ _ _ _ hst9 c2, c3⟩
    · rw [List.getElem?_append_right hi] at hp
      rw [List.getElem?_append_right (by omega)] at hx
      have hj0 : i - ps.length = 0 := by
        have := (List.getElem?_eq_some_iff.1 hp).1
        simp at this
        omega
      rw [hj0] at hp
      rw [← hpl, hj0] at hx
      simp at hp hx
      subst hp
      subst hx
      refine ⟨rfl, stab_by.mono (stab_by.grown (stab_by.grown (stab_by.grown hlc.out hgrow (fun q e => ?_)) gr6 (fun q e => ?_)) gr9 (fun q e => ?_)) (by have := b3.out; omega), (show (-9223372036854775808 : Int) ≤ (k : Int) by omega), (show (k : Int) ≤ 9223372036854775807 by omega)⟩
      · have := (hA4.out q (by rw [← hx3.out]; exact e)).1
        have := b3.out
        omega
      · simp only [Option.some.injEq] at e
        have := b3.out
        omega
      · simp only [Option.some.injEq] at e
        have := b3.out
        omega)
  clear hx1 hx2 hx4
  go_wp2_with fail
  exact bodyPost_ret (v := .tuple #[.agg #[.slice R4 d.1.length r4, .slice A5 (d.2.length + 1) c5], .int .i64 0]) (by simp [results, Try.results19, go_sem, k5, k6]) rfl ⟨_, rfl, hfin.out, hB9⟩
end Go.Proofs.Ytgnogclhleheiaa
