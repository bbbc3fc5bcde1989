/-
  Lemmas on the program and on the document's answers, gathered: DevRead, DevWrite, DevBarrier, DevCrash, Alive03, Gen03, Cnt, RefWith, RefRead, RefSettled, RefBarrier, RefKept, RefCrash, RefWrite, Push, RefNew, RefTwin, Spoil, All03, CntUp, CntSide, CntRead, CntChunk, CntWrite, CntAlive, CntPlain, CntSides, Get, SumSeal, Ref01, Ref02, CntRef, CntRefR. Conditions: those that each lemma states.
-/
import Derived.Test.YtkklkhnoljmgbaaBnd1
import Derived.Deep.RegionHeld3
import Derived.Deep.AppendLies
import Derived.Maps.AppendAt
import Derived.StillTailTactics
import Derived.Sort.QuietIn
import Derived.Sort.CutIn
import Derived.Lib.Hide
/-
  Package dev: checkAt, Read. Conditions: those that each lemma states.
-/
namespace Go.Proofs.Ytkklkhnoljmgbaa
open Go.RowKit

/-- The error of a disk and a place. -/
def chkAt (d : Dk) (n : Int) : Int := if mayB d then (if thereB n then 0 else 2) else 8
theorem chkAt_bad {d : Dk} {n : Int} (h : mayB d = false) : chkAt d n = 8 := by simp [chkAt, h]
theorem chkAt_out {d : Dk} {n : Int} (h : mayB d = true) (h' : thereB n = false) : chkAt d n = 2 := by simp [chkAt, h, h']
theorem chkAt_ok {d : Dk} {n : Int} (h : mayB d = true) (h' : thereB n = true) : chkAt d n = 0 := by simp [chkAt, h, h']
theorem thereB_nat {n : Int} (h : thereB n = true) : ∃ k : Nat, n = k ∧ k < 256 := by
  simp only [thereB, Bool.and_eq_true, decide_eq_true_eq] at h
  exact ⟨n.toNat, by omega, by omega⟩
theorem thereB_of {k : Nat} (h : k < 256) : thereB (k : Int) = true := by
  simp only [thereB, Bool.and_eq_true, decide_eq_true_eq]
  omega

set_option maxHeartbeats 1000000 in
theorem checkAt_any (v : Value) (d : Dk) (n : Int) (w : World) (h : Dsk (Old w) w v d) : Calls Try.prog 44 #[v, .int .i64 n] w fun e w' => e = .returned (.int .i64 (chkAt d n)) ∧ Below w.heap.size w w' := by
  obtain ⟨a, b, rfl, _⟩ := id h
  have hB := balloc (Below.refl w.heap.size w) (.cells #[a, b] 31)
  have H := Lib.hid (h.below hB)
  cases hm : mayB d with
  | true =>
    have hc := Lib.hid (chk_ok hm)
    cases ht : thereB n with
    | true =>
      have hr := Lib.hid (chkAt_ok hm ht)
      replace hm := Lib.hid hm
      replace ht := Lib.hid ht
      go_enter Try.func44, Try.ntmps44
      go_wp2_with fail
      refine (check_any _ d _ H.out).mono ?_
      rintro e w1 ⟨rfl, hb1⟩
      rw [hc.out]
      go_wp2_with fail
      refine (there_any _ _).mono ?_
      rintro e w2 ⟨rfl, rfl⟩
      rw [ht.out]
      go_wp2_with fail
      go_ret
      exact ⟨ret_int hr.out.symm, hB.trans (hb1.mono hB.size)⟩
    | false =>
      have hr := Lib.hid (chkAt_out hm ht)
      replace hm := Lib.hid hm
      replace ht := Lib.hid ht
      go_enter Try.func44, Try.ntmps44
      go_wp2_with fail
      refine (check_any _ d _ H.out).mono ?_
      rintro e w1 ⟨rfl, hb1⟩
      rw [hc.out]
      go_wp2_with fail
      refine (there_any _ _).mono ?_
      rintro e w2 ⟨rfl, rfl⟩
      rw [ht.out]
      go_wp2_with fail
      go_ret
      exact ⟨ret_int hr.out.symm, hB.trans (hb1.mono hB.size)⟩
  | false =>
    have hc := Lib.hid (chk_bad hm)
    have hr := Lib.hid (chkAt_bad (n := n) hm)
    replace hm := Lib.hid hm
    go_enter Try.func44, Try.ntmps44
    go_wp2_with fail
    refine (check_any _ d _ H.out).mono ?_
    rintro e w1 ⟨rfl, hb1⟩
    rw [hc.out]
    go_wp2_with fail
    go_ret
    exact ⟨ret_int hr.out.symm, hB.trans (hb1.mono hB.size)⟩

set_option maxHeartbeats 1000000 in
theorem read_bad (v : Value) (d : Dk) (n : Int) (w : World) (h : Dsk (Old w) w v d) (hn : ¬ (mayB d = true ∧ thereB n = true)) :
    Calls Try.prog 34 #[v, .int .i64 n] w fun e w' => e = .returned (.tuple #[.slice none 0 0, .int .i64 (chkAt d n)]) ∧ Below w.heap.size w w' := by
  obtain ⟨a, b, rfl, _⟩ := id h
  have hB := balloc (Below.refl w.heap.size w) (.cells #[a, b] 31)
  have H := Lib.hid (h.below hB)
  have hc : chkAt d n = 8 ∨ chkAt d n = 2 := by
    cases hm : mayB d with
    | false => exact .inl (chkAt_bad hm)
    | true =>
      cases ht : thereB n with
      | false => exact .inr (chkAt_out hm ht)
      | true => exact absurd ⟨hm, ht⟩ hn
  clear hn
  rcases hc with hc | hc
  all_goals
    rw [hc]
    replace hc := Lib.hid hc
    go_enter Try.func34, Try.ntmps34
    go_wp2_with fail
    refine (checkAt_any _ d n _ H.out).mono ?_
    rintro e w1 ⟨rfl, hb1⟩
    rw [hc.out]
    go_wp2_with fail
    go_ret2
    exact ⟨rfl, hB.trans (hb1.mono hB.size)⟩

set_option maxHeartbeats 1000000 in
theorem read_ok (v : Value) (d : Dk) (k : Nat) (w : World) (h : Dsk (Old w) w v d) (hm : mayB d = true) (hk : k < 256) :
    Calls Try.prog 34 #[v, .int .i64 k] w fun e w' => ∃ u, e = .returned (.tuple #[u, .int .i64 0]) ∧ rBy (New w.heap.size w') w' [u] (seenD d k) ∧ Below w.heap.size w w' := by
  obtain ⟨a, b, rfl, ha, hb⟩ := id h
  obtain ⟨w0, hw0, f1, f2, f3, hB⟩ := box_pair w a b 31
  have H := Lib.hid (h.below hB)
  have hc := Lib.hid (chkAt_ok hm (thereB_of hk))
  have hl : k < d.1.length := by rw [(may_of hm).1]; exact hk
  have hbig : Hid ((seenD d k).length = 128) := Lib.hid (by
    obtain ⟨h1, h2, h3, h4⟩ := may_of hm
    refine seenW_length ?_ fun x hx => ?_
    · rw [List.getElem?_eq_getElem hl]
      exact h3 k _ (List.getElem?_eq_getElem hl)
    · obtain ⟨j, hj⟩ := List.getElem?_of_mem hx
      exact (h4 j x hj).2.2)
  obtain ⟨A, c, e1, _⟩ := rows_open ha
  obtain ⟨B, e, e2, _⟩ := wts_open hb
  cases e1
  cases e2
  replace f3 := Lib.hid f3
  replace hm := Lib.hid hm
  go_enter Try.func34, Try.ntmps34
  go_upto_region 1 with fail
  clear hw0
  go_wp2_with fail
  refine (checkAt_any _ d k _ H.out).mono ?_
  rintro e w1 ⟨rfl, hb1⟩
  rw [hc.out]
  have H1 := Lib.hid (H.out.below hb1)
  have g1 := (hb1.cell (p := ⟨w.heap.size, 0, none⟩) (by rw [f3.out]; simp)).trans f1
  have g2 := (hb1.cell (p := ⟨w.heap.size, 1, none⟩) (by rw [f3.out]; simp)).trans f2
  have hB1 := hB.trans (hb1.mono hB.size)
  clear f1 f2 hB hb1
  go_wp2_with fail
  refine (seen_any _ d k hl _ H1.out).mono ?_
  rintro e w2 ⟨u, rfl, hu, hb2⟩
  have hu2 := stab_by.old hu hb2
  have hB2 := hB1.trans (hb2.mono hB1.size)
  go_wp2_with fail
  refine (clone_by u _ _ (by rw [hbig.out]; omega) hu2).mono ?_
  rintro e w3 ⟨x, rfl, hx, hb3⟩
  have hfin := Lib.hid (stab_by.mono hx hB2.size)
  have hB3 := hB2.trans (hb3.mono hB2.size)
  clear hx hu hu2
  go_wp2_with fail
  go_ret2
  exact ⟨x, rfl, hfin.out, hB3⟩
end Go.Proofs.Ytkklkhnoljmgbaa

/-
  Package dev: Write. Conditions: those that each lemma states.
-/
namespace Go.Proofs.Ytkklkhnoljmgbaa
open Go.RowKit

/-- The error of a write. -/
def wErr (d : Dk) (n : Int) (xs : List UInt8) : Int := if mayB d then (if thereB n then (if xs.length = 128 then (if d.2.length = 4096 then 9 else 0) else 3) else 2) else 8
theorem wErr_at {d : Dk} {n : Int} {xs : List UInt8} (h : chkAt d n ≠ 0) : wErr d n xs = chkAt d n := by
  unfold wErr chkAt at *
  split
  · split
    · simp_all
    · rfl
  · rfl

set_option maxHeartbeats 2000000 in
theorem write_bad (v u : Value) (d : Dk) (n : Int) (xs : List UInt8) (w : World) (h : Dsk (Old w) w v d) (hu : rBy (Old w) w [u] xs) (he : wErr d n xs ≠ 0) :
    Calls Try.prog 33 #[v, .int .i64 n, u] w fun e w' => e = .returned (.tuple #[.agg #[.slice none 0 0, .slice none 0 0], .int .i64 (wErr d n xs)]) ∧ Below w.heap.size w w' := by
  obtain ⟨a, b, rfl, _⟩ := id h
  obtain ⟨w2, hw2, f1, f2, f3, hsz, hB⟩ := box_two w a b #[.slice none 0 0, .slice none 0 0] 31
  have H := Lib.hid (h.below hB)
  obtain ⟨A, c, B, e, e1, _⟩ := h.open
  cases e1
  obtain ⟨E, ce, rfl, _⟩ := rBy_open hu
  clear h hu
  replace hsz := Lib.hid hsz
  cases hc : chkAt d n == 0 with
  | false =>
    have hc' : chkAt d n ≠ 0 := by simpa using hc
    have hw := Lib.hid (wErr_at (xs := xs) hc')
    obtain ⟨q, hq⟩ : ∃ q, chkAt d n = q := ⟨_, rfl⟩
    rw [hw.out, hq]
    rw [hq] at hc
    replace hq := Lib.hid hq
    have hc2 : (q != 0) = true := by simpa using hc
    clear he hc'
    go_enter Try.func33, Try.ntmps33
    go_upto_region 1 with fail
    clear hw2
    go_wp2_with fail
    refine (checkAt_any _ d n _ H.out).mono ?_
    rintro e w3 ⟨rfl, hb3⟩
    rw [hq.out]
    have f4 := (hb3.block (w.heap.size + 1) (by rw [hsz.out]; omega)).trans f3
    obtain ⟨k1, k2, k3, k4⟩ := two_cells f4
    obtain ⟨W9, hW9, g9, gr9, gs9⟩ := put_two (u := .slice none 0 0) (v := .slice none 0 0) f4
    obtain ⟨k5, k6, _, _⟩ := two_cells g9
    have hB9 := (hB.trans (hb3.mono hB.size)).grown gr9 (Nat.le_trans hB.size hb3.size) (fun q e => by cases e; omega)
    replace f4 := Lib.hid f4
    replace f3 := Lib.hid f3
    replace g9 := Lib.hid g9
    clear f1 f2
    go_wp2_with fail
    exact bodyPost_ret (v := .tuple #[.agg #[.slice none 0 0, .slice none 0 0], .int .i64 q]) (by simp [results, Try.results33, go_sem, k5, k6]) rfl ⟨rfl, hB9⟩
  | true =>
    have hc' : chkAt d n = 0 := by simpa using hc
    clear hc
    have hmt : mayB d = true ∧ thereB n = true := by
      unfold chkAt at hc'
      cases h1 : mayB d <;> cases h2 : thereB n <;> simp [h1, h2] at hc' ⊢
    replace hc' := Lib.hid hc'
    by_cases h8 : xs.length = 128
    · have h9 : d.2.length = 4096 := by
        unfold wErr at he
        simp [hmt, h8] at he
        exact he
      have hw := Lib.hid (show wErr d n xs = 9 by simp [wErr, hmt, h8, h9])
      rw [hw.out]
      have e8 : ((xs.length : Int) != 128) = false := by rw [h8]; rfl
      have e9 : ((d.2.length : Int) == 4096) = true := by rw [h9]; rfl
      replace h8 := Lib.hid h8
      replace h9 := Lib.hid h9
      clear he hmt
      go_enter Try.func33, Try.ntmps33
      go_upto_region 1 with fail
      clear hw2
      go_wp2_with fail
      refine (checkAt_any _ d n _ H.out).mono ?_
      rintro e w3 ⟨rfl, hb3⟩
      rw [hc'.out]
      have f4 := (hb3.block (w.heap.size + 1) (by rw [hsz.out]; omega)).trans f3
      have g2 := (hb3.cell (p := ⟨w.heap.size, 1, none⟩) (by rw [hsz.out]; simp)).trans f2
      obtain ⟨k1, k2, k3, k4⟩ := two_cells f4
      obtain ⟨W9, hW9, g9, gr9, gs9⟩ := put_two (u := .slice none 0 0) (v := .slice none 0 0) f4
      obtain ⟨k5, k6, _, _⟩ := two_cells g9
      have hB9 := (hB.trans (hb3.mono hB.size)).grown gr9 (Nat.le_trans hB.size hb3.size) (fun q e => by cases e; omega)
      replace f4 := Lib.hid f4
      replace f3 := Lib.hid f3
      replace g9 := Lib.hid g9
      clear f1 f2
      go_wp2_with fail
      exact bodyPost_ret (v := .tuple #[.agg #[.slice none 0 0, .slice none 0 0], .int .i64 9]) (by simp [results, Try.results33, go_sem, k5, k6]) rfl ⟨rfl, hB9⟩
    · have hw := Lib.hid (show wErr d n xs = 3 by simp [wErr, hmt, h8])
      rw [hw.out]
      have e8 : ((xs.length : Int) != 128) = true := by simp; omega
      clear he hmt h8
      go_enter Try.func33, Try.ntmps33
      go_upto_region 1 with fail
      clear hw2
      go_wp2_with fail
      refine (checkAt_any _ d n _ H.out).mono ?_
      rintro e w3 ⟨rfl, hb3⟩
      rw [hc'.out]
      have f4 := (hb3.block (w.heap.size + 1) (by rw [hsz.out]; omega)).trans f3
      obtain ⟨k1, k2, k3, k4⟩ := two_cells f4
      obtain ⟨W9, hW9, g9, gr9, gs9⟩ := put_two (u := .slice none 0 0) (v := .slice none 0 0) f4
      obtain ⟨k5, k6, _, _⟩ := two_cells g9
      have hB9 := (hB.trans (hb3.mono hB.size)).grown gr9 (Nat.le_trans hB.size hb3.size) (fun q e => by cases e; omega)
      replace f4 := Lib.hid f4
      replace f3 := Lib.hid f3
      replace g9 := Lib.hid g9
      clear f1 f2
      go_wp2_with fail
      exact bodyPost_ret (v := .tuple #[.agg #[.slice none 0 0, .slice none 0 0], .int .i64 3]) (by simp [results, Try.results33, go_sem, k5, k6]) rfl ⟨rfl, hB9⟩

set_option maxRecDepth 100000 in
set_option maxHeartbeats 4000000 in
theorem write_ok (v u : Value) (d : Dk) (k : Nat) (xs : List UInt8) (w : World) (h : Dsk (Old w) w v d) (hu : rBy (Old w) w [u] xs) (hm : mayB d = true) (hk : k < 256) (hl : xs.length = 128) (hf : d.2.length < 4096) :
    Calls Try.prog 33 #[v, .int .i64 k, u] w fun e w' => ∃ x, e = .returned (.tuple #[x, .int .i64 0]) ∧ Dsk (New w.heap.size w') w' x (d.1, d.2 ++ [((k : Int), xs)]) ∧ Below w.heap.size w w' := by
  obtain ⟨i0, hi, hz0, hz1, hz2⟩ := info_parts wts_info0
  obtain ⟨a, b, rfl, _⟩ := id h
  obtain ⟨w2, hw2, f1, f2, f3, hsz, hB⟩ := box_two w a b #[.slice none 0 0, .slice none 0 0] 31
  have H := Lib.hid (h.below hB)
  obtain ⟨A, c, B, e, e1, _⟩ := h.open
  cases e1
  have hu2 := stab_by.old hu hB
  obtain ⟨E, ce, rfl, _⟩ := rBy_open hu
  clear h hu
  replace hsz := Lib.hid hsz
  have hc := Lib.hid (chkAt_ok hm (thereB_of hk))
  have hsm := Lib.hid (small_of_may hm)
  have e8 : ((xs.length : Int) != 128) = false := by rw [hl]; rfl
  have e9 : ((d.2.length : Int) == 4096) = false := by simp; omega
  replace hm := Lib.hid hm
  replace hl := Lib.hid hl
  go_enter Try.func33, Try.ntmps33
  go_upto_region 1 with fail
  clear hw2
  go_wp2_with fail
  refine (checkAt_any _ d k _ H.out).mono ?_
  rintro e w3 ⟨rfl, hb3⟩
  rw [hc.out]
  have f4 := (hb3.block (w.heap.size + 1) (by rw [hsz.out]; omega)).trans f3
  have g1 := (hb3.cell (p := ⟨w.heap.size, 0, none⟩) (by rw [hsz.out]; simp)).trans f1
  have g2 := (hb3.cell (p := ⟨w.heap.size, 1, none⟩) (by rw [hsz.out]; simp)).trans f2
  have H3 := Lib.hid (H.out.below hb3)
  have hu3 := stab_by.old hu2 hb3
  have hB3 := hB.trans (hb3.mono hB.size)
  have hl3 : w.heap.size + 2 ≤ w3.heap.size := by have := hsz.out; have := hb3.size; omega
  replace f4 := Lib.hid f4
  clear f1 f2 f3 hu2 H hB hb3
  go_wp2_with fail
  refine (twin_own _ d _ hsm.out H3.out).mono ?_
  rintro e w4 ⟨x, rfl, ⟨a4, A4, c4, ps, rfl, hx1, hx2, hx3, hx4⟩, hb4⟩
  obtain ⟨R4, r4, er, _⟩ := rows_open hx1
  cases er
  have hu4 := stab_by.old hu3 hb4
  have f5 := (hb4.block (w.heap.size + 1) (by omega)).trans f4.out
  have hB4 := hB3.trans (hb4.mono hB3.size)
  have hl4 : w.heap.size + 2 ≤ w4.heap.size := Nat.le_trans hl3 hb4.size
  obtain ⟨wb, hwb, b1, b3, hbb⟩ := box_pair' w4 (.slice R4 d.1.length r4) (.slice A4 d.2.length c4) 31
  have hu5 := stab_by.old hu4 hbb
  have hA4 : Hid (∀ q, A4.map (·.block) = some q → q < w4.heap.size ∧ w3.heap.size ≤ q) := Lib.hid fun q e => by
    have := hx2.lt q (by rw [hx3]; exact e)
    exact ⟨this.2, this.1⟩
  have hownb : wb.drew.ownsRow w3.heap.size 52 2 (.slice A4 d.2.length c4) d.2.length (wcells ps) := own_below hx2 hbb.drew
  have f6 := (hbb.block (w.heap.size + 1) (by omega)).trans f5
  obtain ⟨_, s1, s2, s3⟩ := two_cells b1
  have hB5 := hB4.trans (hbb.mono hB4.size)
  replace b1 := Lib.hid b1
  replace hownb := Lib.hid hownb
  replace f5 := Lib.hid f5
  replace f6 := Lib.hid f6
  replace hx1 := Lib.hid hx1
  replace hx2 := Lib.hid hx2
  replace hx4 := Lib.hid hx4
  replace hx3 := Lib.hid hx3
  replace b3 := Lib.hid b3
  have hub : Hid (rBy (Old wb) wb [.slice E xs.length ce] xs) := Lib.hid hu5
  clear hu3 hu4 hu5
  have hd2 : d.2.length < 4096 := hf
  go_upto_region 9 with fail
  clear hwb
  have p1 : xs.length ≤ 140737488355328 := by rw [hl.out]; omega
  refine wp_region_tails (by kernel_rfl) 7 (fun W => Below wb.heap.size wb W) (fun i => match i with
      | 4 => some (fun v W => rBy (New wb.heap.size W) W [v] xs)
      | 5 => some (fun v W => ∃ Y cy, v = .agg #[.int .i64 (k : Int), .slice Y xs.length cy] ∧ rBy (New wb.heap.size W) W [.slice Y xs.length cy] xs)
      | 6 => some (fun v W => ∃ g Y cy, v = .slice (some ⟨g, 0, none⟩) 1 1 ∧ wb.heap.size ≤ g ∧ W.heap[g]? = some (.cells #[.int .i64 (k : Int), .slice Y xs.length cy] 52 (0, 0)) ∧ rBy (New wb.heap.size W) W [.slice Y xs.length cy] xs)
      | _ => none) (fun _ => none) (by decide) (by kernel_rfl) (by kernel_rfl) (Below.refl _ _).drew (fun w w' h hb => h.trans (hb.mono h.size)) ?tst ?_
  case tst =>
    intro j φ x W W' hp hx hb
    match j, hp with
    | 4, hp => cases hp; exact stab_by.new hx (Nat.le_refl _) hb
    | 5, hp =>
      cases hp
      obtain ⟨Y, cy, e1, e2⟩ := hx
      exact ⟨Y, cy, e1, stab_by.new e2 (Nat.le_refl _) hb⟩
    | 6, hp =>
      cases hp
      obtain ⟨g, Y, cy, e1, e2, e3, e4⟩ := hx
      exact ⟨g, Y, cy, e1, e2, (hb.block g (Array.getElem?_eq_some_iff.1 e3).1).trans e3, stab_by.new e4 (Nat.le_refl _) hb⟩
  simp only [List.take_succ_cons, List.take_zero, List.drop_succ_cons, List.drop_zero]
  repeat (first
    | (refine wpAs_skip rfl ?_; simp only [Act.put, List.setIfInBounds_toArray, List.set_cons_zero, List.set_cons_succ])
    | (refine wpAs_pure (v := ?_) rfl rfl ?_ ?_; rotate_left; (intro W hC hE; clear hE; (have z1 := (hC.cell (p := ⟨w4.heap.size, 1, none⟩) s3).trans s1); clear hC; go_simp; done); simp only [Act.put, List.setIfInBounds_toArray, List.set_cons_zero, List.set_cons_succ])
    | (refine wpAs_pure (v := ?_) rfl rfl ?_ ?_; rotate_left; (intro W hC hE; clear hE; (have z1 := (hC.cell (p := ⟨w4.heap.size, 1, none⟩) s3).trans s1); clear hC; go_simp; with_reducible rfl); simp only [Act.put, List.setIfInBounds_toArray, List.set_cons_zero, List.set_cons_succ]))
  refine wpAs_act rfl rfl ?_ ?_
  · intro W hC hE
    clear hE
    refine does_enter (f := 29) (args := #[.slice E xs.length ce]) ?_ ?_
    · go_simp
    · refine (clone_by _ xs W p1 (stab_by.old hub.out hC)).mono ?_
      rintro e W' ⟨u, rfl, ho, hb⟩
      exact ⟨_, rfl, stab_by.mono ho hC.size, hb⟩
  simp only [Act.put, List.setIfInBounds_toArray, List.set_cons_zero, List.set_cons_succ, envAdd]
  intro x32
  refine wpAs_act rfl rfl ?_ ?_
  · intro W hC hE
    have h32 := hE.1 rfl
    obtain ⟨Y, cy, rfl, _⟩ := rBy_open h32
    clear hE hC
    have h32' := Lib.hid h32
    clear h32
    go_simp
    exact ⟨⟨Y, cy, rfl, h32'.out⟩, Below.refl _ _⟩
  simp only [Act.put, List.setIfInBounds_toArray, List.set_cons_zero, List.set_cons_succ, envAdd]
  intro x33
  refine wpAs_act rfl rfl ?_ ?_
  · intro W hC hE
    obtain ⟨Y, cy, rfl, h33⟩ := hE.1 rfl
    have hsz' := hC.size
    have h33' := Lib.hid (stab_by.new h33 (Nat.le_refl _) ((Below.refl W.heap.size W).alloc (Nat.le_refl _) (.cells #[.int .i64 (k : Int), .slice Y xs.length cy] 52)))
    clear hE hC h33
    go_simp
    exact ⟨⟨W.heap.size, rfl, hsz', Y, cy, heap_alloc_new _ _, h33'.out⟩, (Below.refl _ _).alloc (Nat.le_refl _) _⟩
  simp only [Act.put, List.setIfInBounds_toArray, List.set_cons_zero, List.set_cons_succ, envAdd]
  intro x34
  refine wpAs_end fun W hC hE => ?_
  obtain ⟨⟨g, Y, cy, rfl, hg, hg3, hy⟩, _⟩ := hE
  have hownW := own_below hx2.out (hbb.trans (hC.mono hbb.size))
  have hbkW := (hC.block w4.heap.size s3).trans b1.out
  obtain ⟨_, z1, z2, z3⟩ := two_cells hbkW
  obtain ⟨y1, y2, _, y4⟩ := two_cells hg3
  have hBW := hB5.trans (hC.mono hB5.size)
  have hlW : w3.heap.size ≤ W.heap.size := Nat.le_trans hb4.size (by have := b3.out; omega)
  have p2 : d.2.length + 1 ≤ maxLen := by unfold maxLen; omega
  have p3 : (d.2.length + 1) * 32 ≤ 140737488355328 := by omega
  have hlc := hy
  replace hbkW := Lib.hid hbkW
  replace hg3 := Lib.hid hg3
  replace hlc := Lib.hid hlc
  clear hy
  go_wp2_with (at_builtin; refine wpList_append_own _ rfl _ _ 29 rfl w3.heap.size 52 i0 (.agg #[.int .i64 0, .slice none 0 0]) 2 32 Try.underlying29 hi hz0 hz1 hz2 rfl (by decide) _ _ _ rfl hownW ⟨g, 0, none⟩ 1 1 [.int .i64 (k : Int), .slice Y xs.length cy] rfl rfl ?d1 ?d2 p2 p3 hlW ?_)
  case d1 => exact World.news_of_block (cs := #[.int .i64 (k : Int), .slice Y xs.length cy]) hg3.out
  case d2 =>
    intro u hu
    simp at hu
    rcases hu with rfl | rfl <;> rfl
  intro v' w1 hown' hgrow _
  obtain ⟨A5, c5, rfl, q1, q2, q3, q4⟩ := own_any hown'
  have p8 : some w4.heap.size ≠ (Value.slice A4 d.2.length c4).ownBlock := by rw [hx3.out]; exact fun e => absurd (hA4.out _ e.symm).1 (Nat.lt_irrefl _)
  have zz := (hgrow.block w4.heap.size z3 p8).trans hbkW.out
  obtain ⟨y5, y6, y7, y8⟩ := two_cells zz
  obtain ⟨W6, hW6, g6, gr6, gs6⟩ := put_snd (u := .slice A5 (d.2.length + 1) c5) zz
  obtain ⟨y9, y10, _, _⟩ := two_cells g6
  have hrow : ∀ q, (Value.slice A4 d.2.length c4).ownBlock = some q → w3.heap.size ≤ q := fun q e => (hA4.out q (by rw [← hx3.out]; exact e)).2
  have hl3' : w.heap.size + 2 ≤ w3.heap.size := hl3
  have fz := ((gr6.block (w.heap.size + 1) (by have := hgrow.size; omega) (fun e => by simp only [Option.some.injEq] at e; omega)).trans ((hgrow.block (w.heap.size + 1) (by omega) (fun e => by have := hrow _ e.symm; omega)).trans ((hC.block (w.heap.size + 1) (by have := b3.out; omega)).trans f6.out)))
  obtain ⟨y11, y12, y13, _⟩ := two_cells fz
  obtain ⟨W9, hW9, g9, gr9, gs9⟩ := put_two (u := .slice R4 d.1.length r4) (v := .slice A5 (d.2.length + 1) c5) fz
  obtain ⟨k5, k6, _, _⟩ := two_cells g9
  have hB1 := hBW.grown hgrow hBW.size (fun q e => by have := hrow q e; omega)
  have hB6 := hB1.grown gr6 hB1.size (fun q e => by cases e; omega)
  have hB9 := hB6.grown gr9 hB6.size (fun q e => by cases e; omega)
  have hfin := Lib.hid (show Dsk (New w.heap.size W9) W9 (.agg #[.slice R4 d.1.length r4, .slice A5 (d.2.length + 1) c5]) (d.1, d.2 ++ [((k : Int), xs)]) from by
    have hne1 := own_not hown' zz (by decide)
    have hown6 := hown'.kept gr6 (.inr (Ne.symm hne1))
    have hne2 := own_not hown6 fz (by decide)
    have hown9 := own_low (hown6.kept gr9 (.inr (Ne.symm hne2))) (show w.heap.size ≤ w3.heap.size by omega)
    have hsame : ∀ b, w3.heap.size ≤ b → b < w4.heap.size → A4.map (·.block) ≠ some b → W9.heap[b]? = w4.heap[b]? := fun b h1 h2 h3 => by
      have hbW : b < W.heap.size := by have := b3.out; have := hC.size; omega
      rw [gr9.block b (by have := gs6; have := hgrow.size; omega) (fun e => by simp only [Option.some.injEq] at e; omega), gr6.block b (Nat.lt_of_lt_of_le hbW hgrow.size) (fun e => by simp only [Option.some.injEq] at e; omega),
        hgrow.block b hbW (fun e => h3 (by rw [← hx3.out]; exact e.symm)), hC.block b (by have := b3.out; omega), hbb.block b h2]
    have hst9 : ∀ p v, NewBut w3.heap.size A4 w4 p → w4.cell? p = some v → New w.heap.size W9 p ∧ W9.cell? p = some v := fun p v hp hc => by
      have hs := hsame p.block hp.1.1 hp.1.2.1 hp.2
      refine ⟨⟨by have := hp.1.1; omega, ?_, (World.frozen?_of_block hs).trans hp.1.2.2⟩, (World.cell?_of_block hs).trans hc⟩
      have := hp.1.2.1
      have := gs9
      have := gs6
      have := hgrow.size
      have := hC.size
      have := b3.out
      omega
    refine ⟨_, _, rfl, stab_sl stab_by _ _ _ _ _ _ hst9 hx1.out, ?_⟩
    have e1 : wcells ps ++ [.int .i64 (k : Int), .slice Y xs.length cy] = wcells (ps ++ [((k : Int), .slice Y xs.length cy)]) := by rw [wcells_append]; rfl
    rw [e1] at hown9
    have hpl : ps.length = d.2.length := by have := hx2.out.1; rw [wcells_length] at this; omega
    have hlen9 : (d.2 ++ [((k : Int), xs)]).length = d.2.length + 1 := by simp
    have h9 := own_wts hown9 hlen9 fun i p x hp hx => ?_
    · exact h9
    rcases Nat.lt_or_ge i ps.length with hi | hi
    · rw [List.getElem?_append_left hi] at hp
      rw [List.getElem?_append_left (by omega)] at hx
      obtain ⟨c1, c2, c3⟩ := hx4.out i p x hp hx
      exact ⟨c1, stab_by _ _ _ _ _ _ hst9 c2, c3⟩
    · rw [List.getElem?_append_right hi] at hp
      rw [List.getElem?_append_right (by omega)] at hx
      have hj0 : i - ps.length = 0 := by
        have := (List.getElem?_eq_some_iff.1 hp).1
        simp at this
        omega
      rw [hj0] at hp
      rw [← hpl, hj0] at hx
      simp at hp hx
      subst hp
      subst hx
      refine ⟨rfl, stab_by.mono (stab_by.grown (stab_by.grown (stab_by.grown hlc.out hgrow (fun q e => ?_)) gr6 (fun q e => ?_)) gr9 (fun q e => ?_)) (by have := b3.out; omega), (show (-9223372036854775808 : Int) ≤ (k : Int) by omega), (show (k : Int) ≤ 9223372036854775807 by omega)⟩
      · have := (hA4.out q (by rw [← hx3.out]; exact e)).1
        have := b3.out
        omega
      · simp only [Option.some.injEq] at e
        have := b3.out
        omega
      · simp only [Option.some.injEq] at e
        have := b3.out
        omega)
  clear hx1 hx2 hx4
  go_wp2_with fail
  exact bodyPost_ret (v := .tuple #[.agg #[.slice R4 d.1.length r4, .slice A5 (d.2.length + 1) c5], .int .i64 0]) (by simp [results, Try.results33, go_sem, k5, k6]) rfl ⟨_, rfl, hfin.out, hB9⟩
end Go.Proofs.Ytkklkhnoljmgbaa

/-
  Package dev: Barrier. Conditions: those that each lemma states.
-/
namespace Go.Proofs.Ytkklkhnoljmgbaa
open Go.RowKit

def settledD (d : Dk) : Dk := ((List.range 256).map fun k => seenD d k, [])
theorem seenD_length {d : Dk} {k : Nat} (hm : mayB d = true) (hk : k < 256) : (seenD d k).length = 128 := by
  obtain ⟨h1, h2, h3, h4⟩ := may_of hm
  refine seenW_length ?_ fun x hx => ?_
  · rw [List.getElem?_eq_getElem (by omega)]
    exact h3 k _ (List.getElem?_eq_getElem (by omega))
  · obtain ⟨j, hj⟩ := List.getElem?_of_mem hx
    exact (h4 j x hj).2.2

end Go.Proofs.Ytkklkhnoljmgbaa

/-
  Package dev: Crash. Conditions: those that each lemma states.
-/
namespace Go.Proofs.Ytkklkhnoljmgbaa
open Go.RowKit

def keptD (d : Dk) (ks : List Bool) : Dk := (d.1, markedW d.2 ks)
theorem markedW_mem : ∀ {ws : List Wt} {ks : List Bool} {x : Wt}, x ∈ markedW ws ks → x ∈ ws
  | [], ks, x, h => by cases ks <;> simp [markedW] at h
  | y :: r, [], x, h => by simp [markedW] at h
  | y :: r, k :: ks, x, h => by
    cases k with
    | true =>
      simp only [markedW, if_true, List.mem_cons] at h
      rcases h with rfl | h
      · exact List.mem_cons.2 (.inl rfl)
      · exact List.mem_cons.2 (.inr (markedW_mem h))
    | false =>
      simp only [markedW] at h
      exact List.mem_cons.2 (.inr (markedW_mem h))
theorem may_kept {d : Dk} {ks : List Bool} (h : mayB d = true) : mayB (keptD d ks) = true := by
  obtain ⟨h1, h2, h3, h4⟩ := may_of h
  have hl := markedW_length d.2 ks
  refine may_mk h1 (by simp only [keptD]; omega) ?_ ?_
  · rw [List.all_eq_true]
    intro x hx
    obtain ⟨j, hj⟩ := List.getElem?_of_mem hx
    simp [byB, h3 j x hj]
  · rw [List.all_eq_true]
    intro x hx
    obtain ⟨j, hj⟩ := List.getElem?_of_mem (markedW_mem hx)
    obtain ⟨a, b, c⟩ := h4 j x hj
    exact wtB_yes a b c

end Go.Proofs.Ytkklkhnoljmgbaa

/-
  The laws' own functions of layer 3: full, alive. Conditions: those that each lemma states.
-/
namespace Go.Proofs.Ytkklkhnoljmgbaa
open Go.RowKit

theorem byte_info0 : (Try.prog.info? 5).map (fun i => (i.zero, i.size, i.bytes)) = some (some (.int .u8 0), 1, 1) := by kernel_rfl
theorem zero_len1 : zeroD.1.length = 256 := List.length_replicate
theorem zero_len2 : zeroD.2.length = 0 := rfl
theorem zero_at {k : Nat} (hk : k < 256) : zeroD.1[k]? = some (List.replicate 128 0) := by
  rw [show zeroD.1 = List.replicate 256 (List.replicate 128 0) from rfl, List.getElem?_replicate, if_pos hk]
theorem may_zero : mayB zeroD = true := by
  refine may_mk zero_len1 (by rw [zero_len2]; omega) ?_ rfl
  rw [List.all_eq_true]
  intro x hx
  obtain ⟨j, hj⟩ := List.getElem?_of_mem hx
  have hjl := (List.getElem?_eq_some_iff.1 hj).1
  rw [zero_len1] at hjl
  rw [zero_at hjl] at hj
  cases hj
  exact decide_eq_true List.length_replicate
/-- A disk with one write more. -/
def wrD (d : Dk) (k : Nat) (xs : List UInt8) : Dk := (d.1, d.2 ++ [((k : Int), xs)])
theorem wrD_fst (d : Dk) (k : Nat) (xs : List UInt8) : (wrD d k xs).1 = d.1 := rfl
theorem wrD_len (d : Dk) (k : Nat) (xs : List UInt8) : (wrD d k xs).2.length = d.2.length + 1 := by simp [wrD]
theorem may_write {d : Dk} {k : Nat} {xs : List UInt8} (h : mayB d = true) (hk : k < 256) (hl : xs.length = 128) (hf : d.2.length < 4096) : mayB (wrD d k xs) = true := by
  obtain ⟨h1, h2, h3, h4⟩ := may_of h
  refine may_mk h1 (by rw [wrD_len]; omega) ?_ ?_
  · rw [List.all_eq_true]
    intro x hx
    obtain ⟨j, hj⟩ := List.getElem?_of_mem hx
    exact decide_eq_true (h3 j x hj)
  · rw [List.all_eq_true]
    intro x hx
    rcases List.mem_append.1 hx with hx | hx
    · obtain ⟨j, hj⟩ := List.getElem?_of_mem hx
      obtain ⟨a, b, c⟩ := h4 j x hj
      exact wtB_yes a b c
    · obtain rfl := List.mem_singleton.1 hx
      exact wtB_yes (show (0 : Int) ≤ (k : Int) by omega) (show (k : Int) < 256 by omega) hl
theorem seenD_write {d : Dk} {k : Nat} {xs : List UInt8} : seenD (wrD d k xs) k = xs := by
  simp [wrD, seenD, seenW]
theorem seenD_write_ne {d : Dk} {k j : Nat} {xs : List UInt8} (h : j ≠ k) : seenD (wrD d k xs) j = seenD d j := by
  have : ¬ (k : Int) = j := by omega
  simp [wrD, seenD, seenW, this]
theorem write_wr (v u : Value) (d : Dk) (k : Nat) (xs : List UInt8) (w : World) (h : Dsk (Old w) w v d) (hu : rBy (Old w) w [u] xs) (hm : mayB d = true) (hk : k < 256) (hl : xs.length = 128) (hf : d.2.length < 4096) :
    Calls Try.prog 33 #[v, .int .i64 k, u] w fun e w' => ∃ x, e = .returned (.tuple #[x, .int .i64 0]) ∧ Dsk (New w.heap.size w') w' x (wrD d k xs) ∧ Below w.heap.size w w' := write_ok v u d k xs w h hu hm hk hl hf

end Go.Proofs.Ytkklkhnoljmgbaa

/-
  Package dev: Read, Write, Barrier, Crash at whatever arguments; a disk in its box. Conditions: those that each lemma states.
-/
namespace Go.Proofs.Ytkklkhnoljmgbaa
open Go.RowKit

/-- A disk that lies in a box. -/
def Bx (w : World) (g : Nat) (A : Option Addr) (c : Nat) (B : Option Addr) (e : Nat) (d : Dk) : Prop := w.heap[g]? = some (.cells #[.slice A d.1.length c, .slice B d.2.length e] 31 (0, 0)) ∧ Dsk (Old w) w (.agg #[.slice A d.1.length c, .slice B d.2.length e]) d
theorem Bx.below {w w' : World} {g : Nat} {A : Option Addr} {c : Nat} {B : Option Addr} {e : Nat} {d : Dk} (h : Bx w g A c B e d) (hb : Below w.heap.size w w') : Bx w' g A c B e d :=
  ⟨(hb.block g (Array.getElem?_eq_some_iff.1 h.1).1).trans h.1, h.2.below hb⟩
theorem Bx.grown {w w' : World} {g q : Nat} {A : Option Addr} {c : Nat} {B : Option Addr} {e : Nat} {d : Dk} (h : Bx w g A c B e d) (hb : w.grownBy w' (some q)) (hq : g ≠ q) (hd : Dsk (Old w') w' (.agg #[.slice A d.1.length c, .slice B d.2.length e]) d) : Bx w' g A c B e d :=
  ⟨(hb.block g (Array.getElem?_eq_some_iff.1 h.1).1 (fun e => hq (by cases e; rfl))).trans h.1, hd⟩
theorem Bx.cells {w : World} {g : Nat} {A : Option Addr} {c : Nat} {B : Option Addr} {e : Nat} {d : Dk} (h : Bx w g A c B e d) : w.cell? ⟨g, 0, none⟩ = some (.slice A d.1.length c) ∧ w.cell? ⟨g, 1, none⟩ = some (.slice B d.2.length e) ∧ (∀ o, w.frozen? ⟨g, o, none⟩ = false) ∧ g < w.heap.size := two_cells h.1
theorem Bx.dsk {w : World} {g : Nat} {A : Option Addr} {c : Nat} {B : Option Addr} {e : Nat} {d : Dk} (h : Bx w g A c B e d) : Dsk (Old w) w (.agg #[.slice A d.1.length c, .slice B d.2.length e]) d := h.2
/-- A new box. -/
theorem box_new {w : World} {A : Option Addr} {c : Nat} {B : Option Addr} {e : Nat} {d : Dk} (h : Dsk (Old w) w (.agg #[.slice A d.1.length c, .slice B d.2.length e]) d) :
    ∃ w1, w.alloc (.cells #[.slice A d.1.length c, .slice B d.2.length e] 31) = w1 ∧ Bx w1 w.heap.size A c B e d ∧ Below w.heap.size w w1 ∧ w1.heap.size = w.heap.size + 1 := by
  have hb := (Below.refl w.heap.size w).alloc (Nat.le_refl _) (.cells #[.slice A d.1.length c, .slice B d.2.length e] 31)
  exact ⟨_, rfl, ⟨heap_alloc_new _ _, h.below hb⟩, hb, by simp⟩

def emptyD : Dk := ([], [])
theorem may_empty : mayB emptyD = false := rfl
/-- What a read tells. -/
def rdB (d : Dk) (n : Int) : List UInt8 := if thereB n then seenD d n.toNat else []
def rdE (n : Int) : Int := if thereB n then 0 else 2
theorem rBy_nil (w : World) : rBy (Old w) w [.slice none 0 0] [] := ⟨none, 0, rfl, by simp, by omega, fun i x h => by simp at h⟩
theorem read_gen (v : Value) (d : Dk) (n : Int) (w : World) (h : Dsk (Old w) w v d) (hm : mayB d = true) :
    Calls Try.prog 34 #[v, .int .i64 n] w fun e w' => ∃ E c, e = .returned (.tuple #[.slice E (rdB d n).length c, .int .i64 (rdE n)]) ∧ rBy (Old w') w' [.slice E (rdB d n).length c] (rdB d n) ∧ Below w.heap.size w w' := by
  cases ht : thereB n with
  | true =>
    obtain ⟨k, rfl, hk⟩ := thereB_nat ht
    refine (read_ok v d k w h hm hk).mono ?_
    rintro e w' ⟨u, rfl, hu, hb⟩
    have e1 : rdB d (k : Int) = seenD d k := by simp [rdB, ht]
    have e2 : rdE (k : Int) = 0 := by simp [rdE, ht]
    obtain ⟨E, c, rfl, _⟩ := rBy_open hu
    rw [e1, e2]
    exact ⟨E, c, rfl, stab_by.drop hu, hb⟩
  | false =>
    refine (read_bad v d n w h (by simp [ht])).mono ?_
    rintro e w' ⟨rfl, hb⟩
    have e1 : rdB d n = [] := by simp [rdB, ht]
    have e2 : rdE n = 2 := by simp [rdE, ht]
    rw [e1, e2, chkAt_out hm ht]
    exact ⟨none, 0, rfl, rBy_nil _, hb⟩
/-- What a write leaves. -/
def wrR (d : Dk) (n : Int) (xs : List UInt8) : Dk := if wErr d n xs = 0 then wrD d n.toNat xs else emptyD
theorem write_fine {d : Dk} {n : Int} {xs : List UInt8} (h : wErr d n xs = 0) (_ : mayB d = true ∨ True) : mayB d = true ∧ thereB n = true ∧ xs.length = 128 ∧ d.2.length < 4096 := by
  unfold wErr at h
  cases h1 : mayB d with
  | false => rw [h1] at h; simp at h
  | true =>
    obtain ⟨_, h2, _⟩ := may_of h1
    rw [h1] at h
    cases ht : thereB n with
    | false => rw [ht] at h; simp at h
    | true =>
      rw [ht] at h
      by_cases h8 : xs.length = 128
      · by_cases h9 : d.2.length = 4096
        · simp [h8, h9] at h
        · exact ⟨rfl, rfl, h8, by omega⟩
      · simp [h8] at h
theorem dsk_empty (w : World) : Dsk (Old w) w (.agg #[.slice none 0 0, .slice none 0 0]) emptyD :=
  ⟨_, _, rfl, ⟨none, 0, rfl, by simp [emptyD], by omega, fun i x h => by simp [emptyD] at h⟩, ⟨none, 0, rfl, by simp [emptyD], by omega, fun i x h => by simp [emptyD] at h⟩⟩
theorem write_gen (v u : Value) (d : Dk) (n : Int) (xs : List UInt8) (w : World) (h : Dsk (Old w) w v d) (hu : rBy (Old w) w [u] xs) :
    Calls Try.prog 33 #[v, .int .i64 n, u] w fun e w' => ∃ A c B f, e = .returned (.tuple #[.agg #[.slice A (wrR d n xs).1.length c, .slice B (wrR d n xs).2.length f], .int .i64 (wErr d n xs)]) ∧ Dsk (Old w') w' (.agg #[.slice A (wrR d n xs).1.length c, .slice B (wrR d n xs).2.length f]) (wrR d n xs) ∧ Below w.heap.size w w' := by
  by_cases he : wErr d n xs = 0
  · obtain ⟨hm, ht, h8, h9⟩ := write_fine he (.inr trivial)
    obtain ⟨k, rfl, hk⟩ := thereB_nat ht
    refine (write_wr v u d k xs w h hu hm hk h8 h9).mono ?_
    rintro e w' ⟨x, rfl, hx, hb⟩
    have e1 : wrR d (k : Int) xs = wrD d k xs := by simp [wrR, he]
    obtain ⟨A, c, B, f, rfl, _⟩ := id hx.open
    rw [e1, he]
    exact ⟨A, c, B, f, rfl, hx.drop, hb⟩
  · refine (write_bad v u d n xs w h hu he).mono ?_
    rintro e w' ⟨rfl, hb⟩
    have e1 : wrR d n xs = emptyD := by simp [wrR, he]
    rw [e1]
    exact ⟨none, 0, none, 0, rfl, dsk_empty _, hb⟩
/-! ### What follows -/
theorem settled_len1 (d : Dk) : (settledD d).1.length = 256 := by simp [settledD]
theorem settled_len2 (d : Dk) : (settledD d).2.length = 0 := rfl
theorem settled_at {d : Dk} {k : Nat} (hk : k < 256) : (settledD d).1[k]? = some (seenD d k) := by
  simp [settledD, hk]
theorem seen_settled {d : Dk} {k : Nat} (hk : k < 256) : seenD (settledD d) k = seenD d k := by
  have h1 : (settledD d).2 = [] := rfl
  have h2 := settled_at (d := d) hk
  unfold seenD
  rw [h1, h2]
  rfl
theorem may_settled {d : Dk} (h : mayB d = true) : mayB (settledD d) = true := by
  refine may_mk (settled_len1 d) (by rw [settled_len2]; omega) ?_ rfl
  rw [List.all_eq_true]
  intro x hx
  obtain ⟨j, hj⟩ := List.getElem?_of_mem hx
  have hjl := (List.getElem?_eq_some_iff.1 hj).1
  rw [settled_len1] at hjl
  rw [settled_at hjl] at hj
  cases hj
  exact decide_eq_true (seenD_length h hjl)
theorem settled_twice (d : Dk) : settledD (settledD d) = settledD d := by
  refine Prod.ext ?_ rfl
  refine List.ext_getElem? fun i => ?_
  by_cases hi : i < 256
  · rw [settled_at hi, settled_at hi, seen_settled hi]
  · rw [List.getElem?_eq_none (by rw [settled_len1]; omega), List.getElem?_eq_none (by rw [settled_len1]; omega)]
theorem markedW_all : ∀ (ws : List Wt) (ks : List Bool), ks.length = ws.length → (∀ k ∈ ks, k = true) → markedW ws ks = ws
  | [], [], _, _ => rfl
  | x :: r, k :: ks, h, hk => by
    have e := hk k (List.mem_cons.2 (.inl rfl))
    subst e
    have ih := markedW_all r ks (by simpa using h) (fun q hq => hk q (List.mem_cons.2 (.inr hq)))
    simp [markedW, ih]
theorem markedW_none : ∀ (ws : List Wt) (ks : List Bool), (∀ k ∈ ks, k = false) → markedW ws ks = []
  | [], ks, _ => by cases ks <;> rfl
  | x :: r, [], _ => rfl
  | x :: r, k :: ks, hk => by
    have e := hk k (List.mem_cons.2 (.inl rfl))
    subst e
    have ih := markedW_none r ks (fun q hq => hk q (List.mem_cons.2 (.inr hq)))
    simp [markedW, ih]
theorem rdB_settled (d : Dk) (n : Int) : rdB (settledD d) n = rdB d n := by
  unfold rdB
  cases ht : thereB n with
  | false => rfl
  | true =>
    obtain ⟨k, rfl, hk⟩ := thereB_nat ht
    simpa using seen_settled hk
theorem rdB_write {d : Dk} {n m : Int} {xs : List UInt8} (h : wErr d n xs = 0) (hne : m ≠ n) : rdB (wrR d n xs) m = rdB d m := by
  obtain ⟨_, ht, _, _⟩ := write_fine h (.inr trivial)
  obtain ⟨k, rfl, hk⟩ := thereB_nat ht
  unfold rdB
  cases hm : thereB m with
  | false => rfl
  | true =>
    obtain ⟨j, rfl, hj⟩ := thereB_nat hm
    have : wrR d (k : Int) xs = wrD d k xs := by simp [wrR, h]
    rw [this]
    simpa using seenD_write_ne (d := d) (k := k) (j := j) (xs := xs) (by omega)
theorem rdB_same {d : Dk} {n : Int} {xs : List UInt8} (h : wErr d n xs = 0) : rdB (wrR d n xs) n = xs ∧ rdE n = 0 := by
  obtain ⟨_, ht, _, _⟩ := write_fine h (.inr trivial)
  obtain ⟨k, rfl, hk⟩ := thereB_nat ht
  have : wrR d (k : Int) xs = wrD d k xs := by simp [wrR, h]
  rw [this]
  unfold rdB rdE
  rw [ht]
  exact ⟨by simpa using seenD_write, rfl⟩
theorem may_wrR {d : Dk} {n : Int} {xs : List UInt8} (h : wErr d n xs = 0) : mayB (wrR d n xs) = true ∧ (wrR d n xs).2.length = d.2.length + 1 ∧ (wrR d n xs).1 = d.1 := by
  obtain ⟨hm, ht, h8, h9⟩ := write_fine h (.inr trivial)
  obtain ⟨k, rfl, hk⟩ := thereB_nat ht
  have : wrR d (k : Int) xs = wrD d k xs := by simp [wrR, h]
  rw [this]
  exact ⟨may_write hm hk h8 h9, wrD_len _ _ _, rfl⟩

/-! ### Results that are new -/
theorem Dsk.grown {w w' : World} {lo : Nat} {v : Value} {d : Dk} {row : Option Nat} (h : Dsk (New lo w) w v d) (hg : w.grownBy w' row) (hr : ∀ q, row = some q → q < lo) : Dsk (New lo w') w' v d := by
  obtain ⟨a, b, e, h1, h2⟩ := h
  exact ⟨a, b, e, (stab_sl stab_by).grown h1 hg hr, (stab_sl stab_wt).grown h2 hg hr⟩
theorem dsk_empty_new (lo : Nat) (w : World) : Dsk (New lo w) w (.agg #[.slice none 0 0, .slice none 0 0]) emptyD :=
  ⟨_, _, rfl, ⟨none, 0, rfl, by simp [emptyD], by omega, fun i x h => by simp [emptyD] at h⟩, ⟨none, 0, rfl, by simp [emptyD], by omega, fun i x h => by simp [emptyD] at h⟩⟩
theorem write_new (v u : Value) (d : Dk) (n : Int) (xs : List UInt8) (w : World) (h : Dsk (Old w) w v d) (hu : rBy (Old w) w [u] xs) :
    Calls Try.prog 33 #[v, .int .i64 n, u] w fun e w' => ∃ A c B f, e = .returned (.tuple #[.agg #[.slice A (wrR d n xs).1.length c, .slice B (wrR d n xs).2.length f], .int .i64 (wErr d n xs)]) ∧ Dsk (New w.heap.size w') w' (.agg #[.slice A (wrR d n xs).1.length c, .slice B (wrR d n xs).2.length f]) (wrR d n xs) ∧ Below w.heap.size w w' := by
  by_cases he : wErr d n xs = 0
  · obtain ⟨hm, ht, h8, h9⟩ := write_fine he (.inr trivial)
    obtain ⟨k, rfl, hk⟩ := thereB_nat ht
    refine (write_wr v u d k xs w h hu hm hk h8 h9).mono ?_
    rintro e w' ⟨x, rfl, hx, hb⟩
    have e1 : wrR d (k : Int) xs = wrD d k xs := by simp [wrR, he]
    obtain ⟨A, c, B, f, rfl, _⟩ := id hx.open
    rw [e1, he]
    exact ⟨A, c, B, f, rfl, hx, hb⟩
  · refine (write_bad v u d n xs w h hu he).mono ?_
    rintro e w' ⟨rfl, hb⟩
    have e1 : wrR d n xs = emptyD := by simp [wrR, he]
    rw [e1]
    exact ⟨none, 0, none, 0, rfl, dsk_empty_new _ _, hb⟩
theorem wrR_nat {d : Dk} {k : Nat} {xs : List UInt8} (h : wErr d (k : Int) xs = 0) : wrR d (k : Int) xs = wrD d k xs := by simp [wrR, h]
end Go.Proofs.Ytkklkhnoljmgbaa

/-
  Package count: tables, which may be: Check, and the document's May and Check. Conditions: those that each lemma states.
-/
namespace Go.Proofs.Ytkklkhnoljmgbaa
open Go.RowKit

/-! ### Tables that may be -/
def mayT (t : List UInt8) : Bool := decide (t.length = 256) && (t.take 8).all (· == 0)
def chkT (t : List UInt8) : Int := if mayT t then 0 else 8
theorem chkT_ok {t : List UInt8} (h : mayT t = true) : chkT t = 0 := by simp [chkT, h]
theorem chkT_bad {t : List UInt8} (h : mayT t = false) : chkT t = 8 := by simp [chkT, h]
theorem mayT_len {t : List UInt8} (h : mayT t = true) : t.length = 256 := by
  simp only [mayT, Bool.and_eq_true, decide_eq_true_eq] at h
  exact h.1
theorem mayT_short {t : List UInt8} (h : t.length ≠ 256) : mayT t = false := by simp [mayT, h]
theorem mayT_yes {t : List UInt8} (h : t.length = 256) (ha : ∀ j, j < 8 → t[j]?.getD 0 = 0) : mayT t = true := by
  simp only [mayT, Bool.and_eq_true, decide_eq_true_eq, List.all_eq_true]
  refine ⟨h, fun x hx => ?_⟩
  obtain ⟨j, hj, rfl⟩ := List.mem_iff_getElem.1 hx
  have hj8 : j < 8 := by simp at hj; omega
  have := ha j hj8
  rw [List.getElem?_eq_getElem (by omega)] at this
  simpa using this
theorem mayT_at {t : List UInt8} (h : mayT t = true) {j : Nat} (hj : j < 8) : t[j]?.getD 0 = 0 := by
  have hl := mayT_len h
  simp only [mayT, Bool.and_eq_true, List.all_eq_true] at h
  have := h.2 (t[j]'(by omega)) (List.mem_iff_getElem.2 ⟨j, by simp; omega, by simp⟩)
  rw [List.getElem?_eq_getElem (by omega)]
  simpa using this
theorem mayT_no {t : List UInt8} {k : Nat} (hk : k < 8) (h : t[k]?.getD 0 ≠ 0) : mayT t = false := by
  cases hm : mayT t with
  | false => rfl
  | true => exact absurd (mayT_at hm hk) h
theorem byte_ne {x : UInt8} (h : ¬ (x.toNat : Int) = 0) : x ≠ 0 := fun e => h (by rw [e]; rfl)
theorem byte_eq {x : UInt8} (h : (x.toNat : Int) = 0) : x = 0 := UInt8.toNat.inj (by simpa using h)
theorem below8_snoc {b : List UInt8} {k : Nat} (ha : ∀ j, j < k → b[j]?.getD 0 = 0) (h : b[k]?.getD 0 = 0) : ∀ j, j < k + 1 → b[j]?.getD 0 = 0 := fun j hj => by
  rcases Nat.lt_or_ge j k with h1 | h1
  · exact ha j h1
  · obtain rfl : j = k := by omega
    exact h

set_option maxRecDepth 100000 in
set_option maxHeartbeats 2000000 in
theorem checkT_any (A : Option Addr) (n c : Nat) (t : List UInt8) (hn : Hid (t.length = n)) (l1 : n ≤ c) (m1 : c ≤ 9223372036854775807) (w : World) (h : Byt w w.heap.size A t) :
    Calls Try.prog 17 #[.slice A n c] w fun e w' => e = .returned (.int .i64 (chkT t)) ∧ w = w' := by
  have HY := Lib.hid h
  clear h
  by_cases h256 : n = 256
  · obtain ⟨ad, rfl, _, hc⟩ := HY.out (by rw [hn.out]; omega)
    subst h256
    replace hc := Lib.hid hc
    go_enter Try.func17, Try.ntmps17
    go_wp2_with fail
    go_loop [11] (fun i => ∃ k : Nat, k ≤ 8 ∧ i = .int .i64 k ∧ ∀ j, j < k → t[j]?.getD 0 = 0) (fun i => 8 - (intOf i).toNat)
    case atStart => exact ⟨0, by omega, rfl, fun j hj => by omega⟩
    case round =>
      obtain ⟨k, hk, rfl, ha⟩ := hrel
      replace ha := Lib.hid ha
      by_cases hlt : k < 8
      · have hcell := hc.out k (by rw [hn.out]; omega)
        have hyes := Lib.hid (fun h => mayT_no (t := t) hlt h)
        have hno := Lib.hid (fun h => below8_snoc (b := t) (k := k) ha.out h)
        obtain ⟨x, hx⟩ : ∃ x, t[k]?.getD 0 = x := ⟨_, rfl⟩
        rw [hx] at hcell hyes hno
        replace hx := Lib.hid hx
        by_cases h0 : (x.toNat : Int) = 0
        · have t0 : ((x.toNat : Int) != 0) = false := by simpa using h0
          have hall := Lib.hid (hno.out (byte_eq h0))
          replace h0 := Lib.hid h0
          go_wp2_with fail
          go_round
          case rel => exact ⟨k + 1, by omega, by go_num, hall.out⟩
          case measure => simp [intOf]; omega
        · have t0 : ((x.toNat : Int) != 0) = true := by simpa using h0
          have hr := Lib.hid (chkT_bad (hyes.out (byte_ne h0)))
          replace h0 := Lib.hid h0
          go_wp2_with fail
          go_ret
          exact ⟨ret_int hr.out.symm, rfl⟩
      · have hr := Lib.hid (chkT_ok (mayT_yes (t := t) hn.out fun j hj => ha.out j (by omega)))
        go_wp2_with fail
        go_ret
        exact ⟨ret_int hr.out.symm, rfl⟩
  · have hr := Lib.hid (chkT_bad (mayT_short (t := t) (by rw [hn.out]; exact h256)))
    have i1 : ((n : Int) != 256) = true := by simp; omega
    go_enter Try.func17, Try.ntmps17
    go_wp2_with fail
    go_ret
    exact ⟨ret_int hr.out.symm, rfl⟩

set_option maxRecDepth 100000 in
set_option maxHeartbeats 2000000 in
theorem refMayT_any (A : Option Addr) (n c : Nat) (t : List UInt8) (hn : Hid (t.length = n)) (l1 : n ≤ c) (_ : c ≤ 9223372036854775807) (w : World) (h : Byt w w.heap.size A t) :
    Calls Try.prog 36 #[.slice A n c] w fun e w' => e = .returned (.bool (mayT t)) ∧ w = w' := by
  have HY := Lib.hid h
  clear h
  by_cases h256 : n = 256
  · obtain ⟨ad, rfl, _, hc⟩ := HY.out (by rw [hn.out]; omega)
    subst h256
    replace hc := Lib.hid hc
    go_enter Try.func36, Try.ntmps36
    go_wp2_with fail
    go_loop [3] (fun i => ∃ k : Nat, k ≤ 8 ∧ i = .int .i64 k ∧ ∀ j, j < k → t[j]?.getD 0 = 0) (fun i => 8 - (intOf i).toNat)
    case atStart => exact ⟨0, by omega, rfl, fun j hj => by omega⟩
    case round =>
      obtain ⟨k, hk, rfl, ha⟩ := hrel
      replace ha := Lib.hid ha
      by_cases hlt : k < 8
      · have hcell := hc.out k (by rw [hn.out]; omega)
        have hyes := Lib.hid (fun h => mayT_no (t := t) hlt h)
        have hno := Lib.hid (fun h => below8_snoc (b := t) (k := k) ha.out h)
        obtain ⟨x, hx⟩ : ∃ x, t[k]?.getD 0 = x := ⟨_, rfl⟩
        rw [hx] at hcell hyes hno
        replace hx := Lib.hid hx
        by_cases h0 : (x.toNat : Int) = 0
        · have t0 : ((x.toNat : Int) != 0) = false := by simpa using h0
          have hall := Lib.hid (hno.out (byte_eq h0))
          replace h0 := Lib.hid h0
          go_wp2_with fail
          go_round
          case rel => exact ⟨k + 1, by omega, by go_num, hall.out⟩
          case measure => simp [intOf]; omega
        · have t0 : ((x.toNat : Int) != 0) = true := by simpa using h0
          have hr := Lib.hid (hyes.out (byte_ne h0))
          replace h0 := Lib.hid h0
          go_wp2_with fail
          go_ret
          exact ⟨ret_bool hr.out.symm, rfl⟩
      · have hr := Lib.hid (mayT_yes (t := t) hn.out fun j hj => ha.out j (by omega))
        go_wp2_with fail
        go_ret
        exact ⟨ret_bool hr.out.symm, rfl⟩
  · have hr := Lib.hid (mayT_short (t := t) (by rw [hn.out]; exact h256))
    have i1 : ((n : Int) != 256) = true := by simp; omega
    go_enter Try.func36, Try.ntmps36
    go_wp2_with fail
    go_ret
    exact ⟨ret_bool hr.out.symm, rfl⟩

set_option maxHeartbeats 1000000 in
theorem refCheckT_any (A : Option Addr) (n c : Nat) (t : List UInt8) (hn : Hid (t.length = n)) (l1 : n ≤ c) (m1 : c ≤ 9223372036854775807) (w : World) (h : Byt w w.heap.size A t) :
    Calls Try.prog 26 #[.slice A n c] w fun e w' => e = .returned (.int .i64 (chkT t)) ∧ w = w' := by
  have HY := Lib.hid h
  clear h
  cases hm : mayT t with
  | true =>
    have hr := Lib.hid (chkT_ok hm)
    replace hm := Lib.hid hm
    go_enter Try.func26, Try.ntmps26
    go_wp2_with fail
    with_reducible refine (refMayT_any A n c t hn l1 m1 _ HY.out).mono ?_
    rintro e w1 ⟨rfl, rfl⟩
    rw [hm.out]
    go_wp2_with fail
    go_ret
    exact ⟨ret_int hr.out.symm, rfl⟩
  | false =>
    have hr := Lib.hid (chkT_bad hm)
    replace hm := Lib.hid hm
    go_enter Try.func26, Try.ntmps26
    go_wp2_with fail
    with_reducible refine (refMayT_any A n c t hn l1 m1 _ HY.out).mono ?_
    rintro e w1 ⟨rfl, rfl⟩
    rw [hm.out]
    go_wp2_with fail
    go_ret
    exact ⟨ret_int hr.out.symm, rfl⟩

/-! ### Tables of noughts -/
theorem may_zeros : mayT (zeros 256) = true := by decide +kernel
set_option maxHeartbeats 1000000 in
theorem cntNew_any (w : World) : Calls Try.prog 11 #[] w fun e w' => e = .returned (.slice (some ⟨w.heap.size, 0, none⟩) 256 256) ∧ w' = w.alloc (.cells (rowA (zeros 256)) 5) := by
  have hmk : (Instr.makeSlice 23 (.int .i64 256) (.int .i64 256)).run Try.prog w = .ok (.slice (some ⟨w.heap.size, 0, none⟩) 256 256) (w.alloc (.cells (rowA (zeros 256)) 5)) := make_bytes 256 (by omega) w
  go_enter Try.func11, Try.ntmps11
  go_wp2
  go_ret
  exact ⟨rfl, rfl⟩
set_option maxHeartbeats 1000000 in
theorem refNewT_any (w : World) : Calls Try.prog 27 #[] w fun e w' => e = .returned (.slice (some ⟨w.heap.size, 0, none⟩) 256 256) ∧ w' = w.alloc (.cells (rowA (zeros 256)) 5) := by
  have hmk : (Instr.makeSlice 23 (.int .i64 256) (.int .i64 256)).run Try.prog w = .ok (.slice (some ⟨w.heap.size, 0, none⟩) 256 256) (w.alloc (.cells (rowA (zeros 256)) 5)) := make_bytes 256 (by omega) w
  go_enter Try.func27, Try.ntmps27
  go_wp2
  go_ret
  exact ⟨rfl, rfl⟩
end Go.Proofs.Ytkklkhnoljmgbaa

/-
  append of whatever lies there, as an equation (app_any); the document's answers of layer 3: With. Conditions: those that each lemma states.
-/
namespace Go.Proofs.Ytkklkhnoljmgbaa
open Go.RowKit

/-- 'append(v, x...)': v a row of the call's own, x whatever cells lie there. -/
theorem app_any {P : Program} {w : World} (base : Nat) (t ty e : TypeId) (i : TypeInfo) (z : Value) (size bytes : Nat) (ht : P.underlying t = some (.slice e)) (hi : P.info? e = some i) (hz : i.zero = some z)
    (hsize : i.size = size) (hby : i.bytes = bytes) (hzs : z.cells.size = size) (hsz : 0 < size)
    (v : Value) (n : Nat) (xs : List Value) (hown : w.ownsRow base e size v n xs)
    (A : Option Addr) (m c : Nat) (news : List Value) (hl : news.length = m * size) (hnews : ∀ j u, news[j]? = some u → ∃ ad, A = some ad ∧ w.cell? (ad.add j) = some u) (h1 : ∀ u ∈ news, u.oneCell' = true)
    (h63 : n + m ≤ maxLen) (hbytes : (n + m) * bytes ≤ 140737488355328) (hbase : base ≤ w.heap.size) :
    ∃ v' w', (Builtin.append_ #[t, t] ty #[v, .slice A m c]).run P w = .ok v' w' ∧ w'.ownsRow base e size v' (n + m) (xs ++ news) ∧ w.grownBy w' v.ownBlock ∧ Below base w w' := by
  rcases A with _ | ad
  · have hx : news = [] := by
      cases news with
      | nil => rfl
      | cons a r =>
        obtain ⟨_, e, _⟩ := hnews 0 a rfl
        cases e
    subst hx
    obtain rfl : m = 0 := by
      rcases Nat.eq_zero_or_pos m with h | h
      · exact h
      · have := Nat.mul_pos h hsz
        simp at hl
        omega
    refine ⟨v, w, ?_, by simpa using hown, grow_refl _ _, Below.refl _ _⟩
    rcases hown.2 with ⟨rfl, rfl⟩ | ⟨g, cap, cur, rfl, _, _, hnc, _⟩
    · simp [Builtin.append_, run_underlying ht, sizeOf, typeInfo, hi, Builtin.lenOf, Builtin.firstCells]
    · simp [Builtin.append_, run_underlying ht, sizeOf, typeInfo, hi, Builtin.lenOf, Builtin.firstCells, hnc, storeCells]
  · obtain ⟨v', w', hr, h2, h3, _, _⟩ := run_append_own_at (P := P) w base t ty e i z size bytes ht hi hz hsize hby hzs hsz v n xs hown ad m c news hl (fun j u hj => by
      obtain ⟨_, e, h⟩ := hnews j u hj
      cases e
      exact h) h1 h63 hbytes hbase
    exact ⟨v', w', hr, h2, h3, (Below.refl base w).grown h3 hbase (fun k hk => (hown.lt k hk).1)⟩

/-- Cells that lay at w0, or were made behind w. -/
def Apart (w0 w w' : World) (p : Addr) : Prop := p.block < w0.heap.size ∨ (w.heap.size ≤ p.block ∧ p.block < w'.heap.size)
set_option maxRecDepth 100000 in
set_option maxHeartbeats 4000000 in
theorem refWith_in (v u : Value) (d : Dk) (k : Nat) (xs : List UInt8) (w0 w : World) (hW : Below w0.heap.size w0 w) (h : Dsk (Old w0) w0 v d) (hu : rBy (Old w0) w0 [u] xs) (hf : d.2.length < 4096) (hk : k < 256) :
    Calls Try.prog 49 #[v, .int .i64 k, u] w fun e w' => ∃ x, e = .returned x ∧ Dsk (Apart w0 w w') w' x (wrD d k xs) ∧ Below w.heap.size w w' := by
  obtain ⟨i0, hi, hz0, hz1, hz2⟩ := info_parts wts_info0
  obtain ⟨A, c, B, c', rfl, l1, m1, l2, m2, _, hB⟩ := h.open
  obtain ⟨E, ce, rfl, lE, mE, _⟩ := id (rBy_open hu)
  obtain ⟨ps, hps, hpc, hp1, hpx⟩ := wts_cells hB
  have hrows := h.parts.1
  have hub := Lib.hid hu
  have hpx' := Lib.hid hpx
  clear hB h hu hpx
  obtain ⟨n, hn⟩ : ∃ n, d.1.length = n := ⟨_, rfl⟩
  obtain ⟨m, hm⟩ : ∃ m, d.2.length = m := ⟨_, rfl⟩
  rw [hn] at l1 hrows ⊢
  replace hrows := Lib.hid hrows
  rw [hm] at l2 hps hf ⊢
  replace hn := Lib.hid hn
  replace hm := Lib.hid hm
  obtain ⟨w2, hw2, f1, f2, f3, hsz, hB2⟩ := box_two w (.slice A n c) (.slice B m c') #[.slice none 0 0, .slice none 0 0] 31
  obtain ⟨w3, hw3, g3, hs3, hB3⟩ := box_pair' w2 (.slice A n c) (.slice none 0 0) 31
  have hB23 := hB2.trans (hB3.mono hB2.size)
  have hW3 := hW.trans (hB23.mono hW.size)
  -- the waits, copied
  obtain ⟨v1, w4, hr1, own1, gr1, ba1⟩ := app_any (P := Try.prog) (w := w3) w3.heap.size 29 29 52 i0 (.agg #[.int .i64 0, .slice none 0 0]) 2 32 Try.underlying29 hi hz0 hz1 hz2 rfl (by decide) (.slice none 0 0) 0 [] (World.ownsRow_nil _ _ _ _) B m c' (wcells ps) (by rw [wcells_length, hps])
    (fun j u hj => by
      obtain ⟨ad, e, ho, hc⟩ := hpc j u hj
      exact ⟨ad, e, (hW3.cell (p := ad.add j) (by rw [add_block]; exact ho)).trans hc⟩) hp1 (by unfold maxLen; omega) (by omega) (Nat.le_refl _)
  rw [Nat.zero_add, List.nil_append] at own1
  obtain ⟨A1, c1, rfl, o1, o2, _, _⟩ := own_any own1
  have g4 := (ba1.block w2.heap.size (by omega)).trans g3
  obtain ⟨w5, hw5, g5, gr5, gs5⟩ := put_snd (u := .slice A1 m c1) g4
  have own5 := own1.kept gr5 (.inr (fun e => by have := (own1.lt _ e).1; omega))
  obtain ⟨w6, hw6, g6, hs6, hB6⟩ := box_pair' w5 (.int .i64 k) (.slice E xs.length ce) 52
  have own6 := own_below own5 hB6
  have s4 := ba1.size
  -- one write more
  obtain ⟨v2, w7, hr2, own7, gr7, ba2⟩ := app_any (P := Try.prog) (w := w6) w3.heap.size 29 29 52 i0 (.agg #[.int .i64 0, .slice none 0 0]) 2 32 Try.underlying29 hi hz0 hz1 hz2 rfl (by decide) (.slice A1 m c1) m (wcells ps) own6 (some ⟨w5.heap.size, 0, none⟩) 1 1 [.int .i64 (k : Int), .slice E xs.length ce] rfl
    (fun j u hj => ⟨_, rfl, World.news_of_block (cs := #[.int .i64 (k : Int), .slice E xs.length ce]) g6 j u hj⟩) (fun u hu => by
      simp at hu
      rcases hu with rfl | rfl <;> rfl) (by unfold maxLen; omega) (by omega) (by omega)
  obtain ⟨A2, c2, rfl, q1, q2, _, _⟩ := own_any own7
  have g7 := (ba2.block w2.heap.size (by omega)).trans ((hB6.block w2.heap.size (by omega)).trans g5)
  obtain ⟨w8, hw8, g8, gr8, gs8⟩ := put_snd (u := .slice A2 (m + 1) c2) g7
  have s7 := ba2.size
  have b8 : w8.heap[w.heap.size + 1]? = some (.cells #[.slice none 0 0, .slice none 0 0] 31 (0, 0)) :=
    (gr8.block _ (by omega) (fun e => by simp only [Option.some.injEq] at e; omega)).trans ((ba2.block _ (by omega)).trans ((hB6.block _ (by omega)).trans ((gr5.block _ (by omega) (fun e => by simp only [Option.some.injEq] at e; omega)).trans ((ba1.block _ (by omega)).trans ((hB3.block _ (by omega)).trans f3)))))
  obtain ⟨w9, hw9, g9, gr9, gs9⟩ := put_two (u := .slice A n c) (v := .slice A2 (m + 1) c2) b8
  obtain ⟨k5, k6, _, _⟩ := two_cells g9
  have own9 := (own7.kept gr8 (.inr (fun e => by have := (own7.lt _ e).1; omega))).kept gr9 (.inr (fun e => by have := (own7.lt _ e).1; omega))
  have B4 : Below w.heap.size w w4 := hB23.trans (ba1.mono hB23.size)
  have B5 := B4.grown gr5 B4.size (fun q e => by cases e; omega)
  have B6 := B5.trans (hB6.mono B5.size)
  have B7 : Below w.heap.size w w7 := B6.trans (ba2.mono hB23.size)
  have B8 := B7.grown gr8 B7.size (fun q e => by cases e; omega)
  have B9 := B8.grown gr9 B8.size (fun q e => by cases e; omega)
  have W9 := hW.trans (B9.mono hW.size)
  have mp : ∀ p v, Old w0 p → w0.cell? p = some v → Apart w0 w w9 p ∧ w9.cell? p = some v := fun p v hp hc => ⟨.inl hp, (W9.cell hp).trans hc⟩
  have hfin := Lib.hid (show Dsk (Apart w0 w w9) w9 (.agg #[.slice A n c, .slice A2 (m + 1) c2]) (wrD d k xs) from by
    refine ⟨_, _, rfl, stab_sl stab_by _ _ _ _ _ _ mp hrows.out, ?_⟩
    have e1 : wcells ps ++ [.int .i64 (k : Int), .slice E xs.length ce] = wcells (ps ++ [((k : Int), .slice E xs.length ce)]) := by rw [wcells_append]; rfl
    rw [e1] at own9
    refine own_wts_ok (fun p _ hp => .inr ⟨Nat.le_trans (by omega) hp.1, hp.2.1⟩) own9 (by simp [wrD, hm.out]) (fun i p x hp hx => ?_)
    rcases Nat.lt_or_ge i m with hi | hi
    · rw [List.getElem?_append_left (by omega)] at hp
      rw [show (wrD d k xs).2 = d.2 ++ [((k : Int), xs)] from rfl, List.getElem?_append_left (by rw [hm.out]; exact hi)] at hx
      obtain ⟨e, h1, h2, h3⟩ := hpx'.out i p x hp hx
      exact ⟨e, stab_by _ _ _ _ _ _ mp h1, h2, h3⟩
    · rw [List.getElem?_append_right (by omega)] at hp
      rw [show (wrD d k xs).2 = d.2 ++ [((k : Int), xs)] from rfl, List.getElem?_append_right (by rw [hm.out]; exact hi)] at hx
      have hi0 : i - ps.length = 0 := by
        have := (List.getElem?_eq_some_iff.1 hp).1
        simp at this
        omega
      rw [hi0] at hp
      rw [show i - d.2.length = 0 by have := hm.out; omega] at hx
      cases hp
      cases hx
      exact ⟨rfl, stab_by _ _ _ _ _ _ mp hub.out, by omega, by omega⟩)
  have H1 := Lib.hid hr1
  have H2 := Lib.hid hr2
  obtain ⟨z1, z2, z3, _⟩ := two_cells g4
  obtain ⟨z4, z5, z6, _⟩ := two_cells g5
  obtain ⟨y1, y2, y3, _⟩ := two_cells g7
  obtain ⟨y4, y5, _, _⟩ := two_cells g8
  obtain ⟨x1, x2, x3, _⟩ := two_cells b8
  obtain ⟨x4, x5, _, _⟩ := two_cells g3
  have f4 := (hB3.cell (p := ⟨w.heap.size, 1, none⟩) (show w.heap.size < w2.heap.size by omega)).trans f2
  replace B9 := Lib.hid B9
  replace W9 := Lib.hid W9
  replace mp := Lib.hid mp
  clear hW hW3 hr1 hr2 own1 own5 own6 own7 own9 gr1 gr5 gr7 gr8 gr9 B4 B5 B6 B7 B8 hpc hp1 hps g3 g4 g5 g6 g7 g8 b8 ba1 ba2 hB6 hB23 hB2 hB3 f3
  replace hsz := Lib.hid hsz
  replace hs3 := Lib.hid hs3
  replace hs6 := Lib.hid hs6
  replace gs5 := Lib.hid gs5
  replace gs8 := Lib.hid gs8
  replace gs9 := Lib.hid gs9
  clear s4 s7
  replace hw3 := Lib.hid hw3
  go_enter Try.func49, Try.ntmps49
  go_upto_region 2 with fail
  rw [hw3.out]
  clear hw3 hw2 x4
  go_wp2_with (first
    | (at_builtin; refine wpList_append_run rfl _ _ _ rfl rfl rfl H1.out ?_; clear H1)
    | (at_builtin; refine wpList_append_run rfl _ _ _ rfl rfl rfl H2.out ?_; clear H2))
  trace_state
  exact bodyPost_ret (v := .agg #[.slice A n c, .slice A2 (m + 1) c2]) (by simp [results, Try.results49, go_sem, k5, k6]) rfl ⟨_, rfl, hfin.out, B9.out⟩
end Go.Proofs.Ytkklkhnoljmgbaa

/-
  The document's answers of layer 3: Seen, Read. Conditions: those that each lemma states.
-/
namespace Go.Proofs.Ytkklkhnoljmgbaa
open Go.RowKit

theorem take_snoc {α : Type} {xs : List α} {j : Nat} {x : α} (h : xs[j]? = some x) : xs.take (j + 1) = xs.take j ++ [x] := by
  rw [List.take_add_one, h]
  rfl
theorem seen_hit {ws : List Wt} {b : List UInt8} {n : Int} {j : Nat} {x : Wt} (h : ws[j]? = some x) (e : x.1 = n) : seenW (ws.take (j + 1)) b n = x.2 := by
  rw [take_snoc h, seenW_append]
  simp [seenW, e]
theorem seen_miss {ws : List Wt} {b : List UInt8} {n : Int} {j : Nat} {x : Wt} (h : ws[j]? = some x) (e : x.1 ≠ n) : seenW (ws.take (j + 1)) b n = seenW (ws.take j) b n := by
  rw [take_snoc h, seenW_append]
  simp [seenW, e]

set_option maxRecDepth 100000 in
set_option maxHeartbeats 2000000 in
theorem refSeen_any (v : Value) (d : Dk) (k : Nat) (hk : k < d.1.length) (w : World) (h : Dsk (Old w) w v d) :
    Calls Try.prog 50 #[v, .int .i64 k] w fun e W' => ∃ u, e = .returned u ∧ rBy (Old w) w [u] (seenD d k) ∧ Below w.heap.size w W' := by
  obtain ⟨A, c, B, c', rfl, l1, m1, l2, m2, hA, hB⟩ := h.open
  obtain ⟨b, hb⟩ : ∃ b, d.1[k]? = some b := ⟨_, List.getElem?_eq_getElem hk⟩
  obtain ⟨ad, bv, rfl, ho1, hc1, hby1⟩ := hA k b hb
  have HB := Lib.hid hB
  have hsd : Hid (seenD d k = seenW d.2 b k) := Lib.hid (by unfold seenD; rw [hb]; rfl)
  replace hby1 := Lib.hid hby1
  clear hA hB h hb
  obtain ⟨n, hn⟩ : ∃ n, d.1.length = n := ⟨_, rfl⟩
  obtain ⟨m, hm⟩ : ∃ m, d.2.length = m := ⟨_, rfl⟩
  rw [hn] at l1 hk ⊢
  rw [hm] at l2 ⊢
  replace hn := Lib.hid hn
  replace hm := Lib.hid hm
  obtain ⟨w0, hw0, f1, f2, f3, hB1, _⟩ := box_disk w (.slice (some ad) n c) (.slice B m c')
  have g1 := (hB1.cell ho1).trans hc1
  have lt0 : w.heap.size < w0.heap.size := by omega
  clear hc1
  replace f3 := Lib.hid f3
  go_enter Try.func50, Try.ntmps50
  go_upto_region 1 with fail
  rw [← hw0]
  clear hw0
  go_wp2_with fail
  go_loopw [5] (fun i wr => ∃ j : Nat, j ≤ m ∧ i = .int .i64 ((j : Int) - 1) ∧ seenW d.2 b k = seenW (d.2.take j) b k ∧ wr = w0) (fun i _ => (intOf i + 1).toNat)
  case atStart => exact ⟨m, by omega, by go_num, by rw [List.take_of_length_le (by rw [hm.out]; omega)], rfl⟩
  case round =>
    obtain ⟨j, hj, rfl, hs, rfl⟩ := hrel
    replace hs := Lib.hid hs
    match j with
    | 0 =>
      have hfin : Hid (seenD d k = b) := Lib.hid (by rw [hsd.out, hs.out]; rfl)
      have t1 : ¬ (0 : Int) ≤ ((0 : Nat) : Int) - 1 := by omega
      have i1 : (0 : Int) ≤ (k : Int) := by omega
      have i2 : (k : Int) < (n : Int) := by omega
      go_wp2_with fail
      go_ret
      exact ⟨_, rfl, by rw [hfin.out]; exact hby1.out, hB1⟩
    | j + 1 =>
      obtain ⟨x, hx⟩ : ∃ x, d.2[j]? = some x := ⟨_, List.getElem?_eq_getElem (by rw [hm.out]; omega)⟩
      obtain ⟨bd, u, rfl, hok, hok', hc, hc', hby, _, _⟩ := HB.out j x hx
      replace hx := Lib.hid hx
      replace hc := (hB1.cell hok).trans hc
      replace hc' := (hB1.cell hok').trans hc'
      rw [add_next] at hc'
      replace hby := Lib.hid hby
      have ej : (((j + 1 : Nat) : Int) - 1) = (j : Int) := by omega
      rw [ej]
      have i1 : (0 : Int) ≤ (j : Int) := by omega
      have i2 : (j : Int) < (m : Int) := by omega
      have i3 : j < m := by omega
      by_cases e : x.1 = k
      · have he : (x.1 == (k : Int)) = true := by simpa using e
        have hfin : Hid (seenD d k = x.2) := Lib.hid (by rw [hsd.out, hs.out]; exact seen_hit hx.out e)
        clear e
        go_wp2_with fail
        go_ret
        exact ⟨_, rfl, by rw [hfin.out]; exact hby.out, hB1⟩
      · have he : (x.1 == (k : Int)) = false := by simpa using e
        replace e := Lib.hid e
        go_wp2_with fail
        go_roundw
        case rel => exact ⟨j, by omega, by go_num, by rw [hs.out]; exact seen_miss hx.out e.out, by first | rfl | trivial⟩
        case measure => simp [intOf]

/-- What both answer to a read. -/
def rdX (d : Dk) (n : Int) : List UInt8 := if chkAt d n = 0 then seenD d n.toNat else []
theorem rBy_none (w : World) : rBy (Old w) w [.slice none 0 0] [] := ⟨none, 0, rfl, by simp, by omega, fun i x h => by simp at h⟩
end Go.Proofs.Ytkklkhnoljmgbaa

/-
  The document's answers of layer 3: Settled. Conditions: those that each lemma states.
-/
namespace Go.Proofs.Ytkklkhnoljmgbaa
open Go.RowKit

theorem rows_cells2 {w0 w : World} {A : Option Addr} {xss : List (List UInt8)} (h : ∀ i x, xss[i]? = some x → ∃ ad v, A = some ad ∧ Old w (ad.add i) ∧ w.cell? (ad.add i) = some v ∧ rBy (Old w0) w0 [v] x) :
    ∃ vs : List Value, vs.length = xss.length ∧ (∀ j v, vs[j]? = some v → ∃ ad, A = some ad ∧ ad.block < w.heap.size ∧ w.cell? (ad.add j) = some v) ∧ (∀ u ∈ vs, u.oneCell' = true) ∧ ∀ (i : Nat) (v : Value) (x : List UInt8), vs[i]? = some v → xss[i]? = some x → rBy (Old w0) w0 [v] x := by
  obtain ⟨vs, hl, hv⟩ := list_of (n := xss.length) (p := fun i v => ∃ ad, A = some ad ∧ ad.block < w.heap.size ∧ w.cell? (ad.add i) = some v ∧ v.oneCell' = true ∧ ∀ x, xss[i]? = some x → rBy (Old w0) w0 [v] x) (fun i hi => by
    obtain ⟨ad, v, e, ho, hc, hb⟩ := h i _ (List.getElem?_eq_getElem hi)
    obtain ⟨E, c, rfl, _⟩ := rBy_open hb
    refine ⟨_, ad, e, by unfold Old at ho; rwa [add_block] at ho, hc, rfl, fun x hx => ?_⟩
    rw [List.getElem?_eq_getElem hi] at hx
    cases hx
    exact hb)
  refine ⟨vs, hl, fun j v hj => ?_, fun u hu => ?_, fun i v x hi hx => ?_⟩
  · obtain ⟨ad, e, hb, hc, _⟩ := hv j v hj
    exact ⟨ad, e, hb, hc⟩
  · obtain ⟨j, hj⟩ := List.getElem?_of_mem hu
    obtain ⟨_, _, _, _, h1, _⟩ := hv j u hj
    exact h1
  · obtain ⟨_, _, _, _, _, h1⟩ := hv i v hi
    exact h1 x hx
end Go.Proofs.Ytkklkhnoljmgbaa

/-
  The document's answers of layer 3: Barrier. Conditions: those that each lemma states.
-/
namespace Go.Proofs.Ytkklkhnoljmgbaa
open Go.RowKit

/-- What both answer to a barrier. -/
def barX (d : Dk) : Dk := if mayB d then settledD d else emptyD
/-- A disk of cells that lay at w0 or were made behind w is one behind a store into another block. -/
theorem apart_put {w0 w w4 W9 : World} {x : Value} {d : Dk} {g : Nat} (hx : Dsk (Apart w0 w w4) w4 x d) (gr : w4.grownBy W9 (some g)) (h0 : w0.heap.size ≤ g) (h1 : g < w.heap.size) (h2 : w.heap.size ≤ w4.heap.size) (h3 : W9.heap.size = w4.heap.size) : Dsk (Old W9) W9 x d :=
  hx.map fun p v hp hc => by
    have hlt : p.block < w4.heap.size := hp.elim (fun hp => by omega) (fun hp => hp.2)
    have hs : W9.heap[p.block]? = w4.heap[p.block]? := gr.block _ hlt (fun e => by simp only [Option.some.injEq] at e; rcases hp with hp | hp <;> omega)
    exact ⟨show p.block < W9.heap.size by omega, (World.cell?_of_block hs).trans hc⟩
end Go.Proofs.Ytkklkhnoljmgbaa

/-
  The document's answers of layer 3: Kept. Conditions: those that each lemma states.
-/
namespace Go.Proofs.Ytkklkhnoljmgbaa
open Go.RowKit

theorem apart_put2 {w0 w w1 w4 W9 : World} {x : Value} {d : Dk} {g : Nat} (hx : Dsk (Apart w0 w w4) w4 x d) (gr : w4.grownBy W9 (some g)) (h0 : w0.heap.size ≤ g) (h1 : g < w.heap.size) (h2 : w.heap.size ≤ w4.heap.size) (h3 : W9.heap.size = w4.heap.size) (h4 : w1.heap.size ≤ w.heap.size) : Dsk (Apart w0 w1 W9) W9 x d :=
  hx.map fun p v hp hc => by
    have hlt : p.block < w4.heap.size := hp.elim (fun hp => by omega) (fun hp => hp.2)
    have hs : W9.heap[p.block]? = w4.heap[p.block]? := gr.block _ hlt (fun e => by simp only [Option.some.injEq] at e; rcases hp with hp | hp <;> omega)
    exact ⟨hp.elim .inl (fun hp => .inr ⟨by omega, by omega⟩), (World.cell?_of_block hs).trans hc⟩

end Go.Proofs.Ytkklkhnoljmgbaa

/-
  The document's answers of layer 3: Crash. Conditions: those that each lemma states.
-/
namespace Go.Proofs.Ytkklkhnoljmgbaa
open Go.RowKit

/-- What both answer to a crash. -/
def craE (d : Dk) (ks : List Bool) : Int := if mayB d then (if ks.length = d.2.length then 0 else 2) else 8
def craX (d : Dk) (ks : List Bool) : Dk := if mayB d then (if ks.length = d.2.length then settledD (keptD d ks) else emptyD) else emptyD
end Go.Proofs.Ytkklkhnoljmgbaa

/-
  The document's answers of layer 3: Write. Conditions: those that each lemma states.
-/
namespace Go.Proofs.Ytkklkhnoljmgbaa
open Go.RowKit

set_option maxRecDepth 100000 in
set_option maxHeartbeats 4000000 in
theorem refWrite_any (v u : Value) (d : Dk) (n : Int) (xs : List UInt8) (w : World) (h : Dsk (Old w) w v d) (hu : rBy (Old w) w [u] xs) :
    Calls Try.prog 40 #[v, .int .i64 n, u] w fun e w' => ∃ x, e = .returned (.tuple #[x, .int .i64 (wErr d n xs)]) ∧ Dsk (Old w') w' x (wrR d n xs) ∧ Below w.heap.size w w' := by
  obtain ⟨A, c, B, c', rfl, _⟩ := id h.open
  obtain ⟨E, ce, rfl, _⟩ := id (rBy_open hu)
  obtain ⟨w2, hw2, f1, f2, f3, hsz, hB⟩ := box_two w (.slice A d.1.length c) (.slice B d.2.length c') #[.slice none 0 0, .slice none 0 0] 31
  have H := Lib.hid (h.below hB)
  have U := Lib.hid (stab_by.old hu hB)
  replace h := Lib.hid h
  replace hu := Lib.hid hu
  replace hsz := Lib.hid hsz
  go_enter Try.func40, Try.ntmps40
  go_upto_region 1 with fail
  clear hw2
  go_wp2_with fail
  with_reducible refine (may_any _ d _ H.out).mono ?_
  rintro er w3 ⟨rfl, hb3⟩
  have H3 := Lib.hid (H.out.below hb3)
  have U3 := Lib.hid (stab_by.old U.out hb3)
  have f4 := (hb3.block (w.heap.size + 1) (by rw [hsz.out]; omega)).trans f3
  have g1 := (hb3.cell (p := ⟨w.heap.size, 0, none⟩) (by rw [hsz.out]; simp)).trans f1
  have g2 := (hb3.cell (p := ⟨w.heap.size, 1, none⟩) (by rw [hsz.out]; simp)).trans f2
  obtain ⟨k1, k2, k3, k4⟩ := two_cells f4
  have hB3 := hB.trans (hb3.mono hB.size)
  have hl3 : w.heap.size + 2 ≤ w3.heap.size := by have := hsz.out; have := hb3.size; omega
  clear f1 f2 H U
  replace f3 := Lib.hid f3
  by_cases he : wErr d n xs = 0
  · obtain ⟨hm, ht, h8, h9⟩ := write_fine he (.inr trivial)
    obtain ⟨k, rfl, hk⟩ := thereB_nat ht
    have hr : Hid (wrR d (k : Int) xs = wrD d k xs) := Lib.hid (by simp [wrR, he])
    have hw := Lib.hid he
    rw [hm]
    have i1 : ¬ (k : Int) < 0 := by omega
    have i2 : ¬ (256 : Int) ≤ (k : Int) := by omega
    have i3 : ((xs.length : Int) != 128) = false := by rw [h8]; rfl
    have i4 : ¬ (4096 : Int) ≤ (d.2.length : Int) := by omega
    replace h8 := Lib.hid h8
    replace f4 := Lib.hid f4
    clear he hm ht
    go_wp2_with fail
    with_reducible refine (refWith_in _ _ d k xs w _ hB3 h.out hu.out h9 hk).mono ?_
    rintro es w4 ⟨x, rfl, hx, hb4⟩
    obtain ⟨A4, c4, B4, d4, rfl, _⟩ := id hx.open
    have f5 := (hb4.block (w.heap.size + 1) (by omega)).trans f4.out
    obtain ⟨y1, y2, y3, _⟩ := two_cells f5
    obtain ⟨W9, hW9, g9, gr9, gs9⟩ := put_two (u := .slice A4 (wrD d k xs).1.length c4) (v := .slice B4 (wrD d k xs).2.length d4) f5
    obtain ⟨k5, k6, _, _⟩ := two_cells g9
    have hB9 := (hB3.trans (hb4.mono hB3.size)).grown gr9 (Nat.le_trans hB3.size hb4.size) (fun q e => by cases e; omega)
    have hfin := Lib.hid (show Dsk (Old W9) W9 (.agg #[.slice A4 (wrD d k xs).1.length c4, .slice B4 (wrD d k xs).2.length d4]) (wrD d k xs) from
      hx.map fun p v hp hc => by
        have hlt : p.block < w4.heap.size := hp.elim (fun hp => Nat.lt_of_lt_of_le hp (Nat.le_trans hB3.size hb4.size)) (fun hp => hp.2)
        have hs : W9.heap[p.block]? = w4.heap[p.block]? := gr9.block _ hlt (fun e => by simp only [Option.some.injEq] at e; rcases hp with hp | hp <;> omega)
        exact ⟨show p.block < W9.heap.size by omega, (World.cell?_of_block hs).trans hc⟩)
    replace f5 := Lib.hid f5
    replace g9 := Lib.hid g9
    clear hx gr9
    go_wp2_with fail
    exact bodyPost_ret (v := .tuple #[.agg #[.slice A4 (wrD d k xs).1.length c4, .slice B4 (wrD d k xs).2.length d4], .int .i64 0]) (by simp [results, Try.results40, go_sem, k5, k6]) rfl ⟨_, by rw [hw.out], by rw [hr.out]; exact hfin.out, hB9⟩
  · have hr : Hid (wrR d n xs = emptyD) := Lib.hid (by simp [wrR, he])
    obtain ⟨W9, hW9, g9, gr9, gs9⟩ := put_two (u := .slice none 0 0) (v := .slice none 0 0) f4
    obtain ⟨k5, k6, _, _⟩ := two_cells g9
    have hB9 := hB3.grown gr9 hB3.size (fun q e => by cases e; omega)
    replace f4 := Lib.hid f4
    replace g9 := Lib.hid g9
    cases hm : mayB d with
    | false =>
      have hw := Lib.hid (show wErr d n xs = 8 by simp [wErr, hm])
      clear he hm
      go_wp2_with fail
      exact bodyPost_ret (v := .tuple #[.agg #[.slice none 0 0, .slice none 0 0], .int .i64 8]) (by simp [results, Try.results40, go_sem, k5, k6]) rfl ⟨_, by rw [hw.out], by rw [hr.out]; exact (dsk_empty_new 0 W9).drop, hB9⟩
    | true =>
      cases ht : thereB n with
      | false =>
        have hw := Lib.hid (show wErr d n xs = 2 by simp [wErr, hm, ht])
        by_cases h0 : n < 0
        · clear he hm ht
          go_wp2_with fail
          exact bodyPost_ret (v := .tuple #[.agg #[.slice none 0 0, .slice none 0 0], .int .i64 2]) (by simp [results, Try.results40, go_sem, k5, k6]) rfl ⟨_, by rw [hw.out], by rw [hr.out]; exact (dsk_empty_new 0 W9).drop, hB9⟩
        · have h1 : (256 : Int) ≤ n := by
            simp only [thereB, Bool.and_eq_false_iff, decide_eq_false_iff_not] at ht
            omega
          clear he hm ht
          go_wp2_with fail
          exact bodyPost_ret (v := .tuple #[.agg #[.slice none 0 0, .slice none 0 0], .int .i64 2]) (by simp [results, Try.results40, go_sem, k5, k6]) rfl ⟨_, by rw [hw.out], by rw [hr.out]; exact (dsk_empty_new 0 W9).drop, hB9⟩
      | true =>
        obtain ⟨k, rfl, hk⟩ := thereB_nat ht
        have i1 : ¬ (k : Int) < 0 := by omega
        have i2 : ¬ (256 : Int) ≤ (k : Int) := by omega
        by_cases h8 : xs.length = 128
        · have h9 : d.2.length = 4096 := by
            unfold wErr at he
            simp [hm, ht, h8] at he
            exact he
          have hw := Lib.hid (show wErr d k xs = 9 by simp [wErr, hm, ht, h8, h9])
          have i3 : ((xs.length : Int) != 128) = false := by rw [h8]; rfl
          have i4 : (4096 : Int) ≤ (d.2.length : Int) := by omega
          replace h8 := Lib.hid h8
          replace h9 := Lib.hid h9
          clear he hm ht
          go_wp2_with fail
          exact bodyPost_ret (v := .tuple #[.agg #[.slice none 0 0, .slice none 0 0], .int .i64 9]) (by simp [results, Try.results40, go_sem, k5, k6]) rfl ⟨_, by rw [hw.out], by rw [hr.out]; exact (dsk_empty_new 0 W9).drop, hB9⟩
        · have hw := Lib.hid (show wErr d k xs = 3 by simp [wErr, hm, ht, h8])
          have i3 : ((xs.length : Int) != 128) = true := by simp; omega
          clear he hm ht h8
          go_wp2_with fail
          exact bodyPost_ret (v := .tuple #[.agg #[.slice none 0 0, .slice none 0 0], .int .i64 3]) (by simp [results, Try.results40, go_sem, k5, k6]) rfl ⟨_, by rw [hw.out], by rw [hr.out]; exact (dsk_empty_new 0 W9).drop, hB9⟩
end Go.Proofs.Ytkklkhnoljmgbaa

/-
  Rows of the call's own to which elements are pushed, one by one: elements may hold memory that the call made, none of it in the row. Conditions: those that each lemma states.
-/
namespace Go.Proofs.Ytkklkhnoljmgbaa
open Go.RowKit

/-- 'append(v, x...)' onto a row of the call's own: where the row lies then. -/
theorem app_own {P : Program} {w : World} (base : Nat) (t ty e : TypeId) (i : TypeInfo) (z : Value) (size bytes : Nat) (ht : P.underlying t = some (.slice e)) (hi : P.info? e = some i) (hz : i.zero = some z)
    (hsize : i.size = size) (hby : i.bytes = bytes) (hzs : z.cells.size = size) (hsz : 0 < size)
    (v : Value) (n : Nat) (xs : List Value) (hown : w.ownsRow base e size v n xs)
    (ad : Addr) (m c : Nat) (news : List Value) (hl : news.length = m * size) (hnews : ∀ j u, news[j]? = some u → w.cell? (ad.add j) = some u) (h1 : ∀ u ∈ news, u.oneCell' = true)
    (h63 : n + m ≤ maxLen) (hbytes : (n + m) * bytes ≤ 140737488355328) (hbase : base ≤ w.heap.size) :
    ∃ v' w', (Builtin.append_ #[t, t] ty #[v, .slice (some ad) m c]).run P w = .ok v' w' ∧ w'.ownsRow base e size v' (n + m) (xs ++ news) ∧ w.grownBy w' v.ownBlock ∧ Below base w w' ∧ (v'.ownBlock = v.ownBlock ∨ v'.ownBlock = some w.heap.size) := by
  obtain ⟨v', w', hr, h2, h3, _, h5⟩ := run_append_own_at (P := P) w base t ty e i z size bytes ht hi hz hsize hby hzs hsz v n xs hown ad m c news hl hnews h1 h63 hbytes hbase
  exact ⟨v', w', hr, h2, h3, (Below.refl base w).grown h3 hbase (fun k hk => (hown.lt k hk).1), h5⟩

theorem NewBut.below {lo : Nat} {A : Option Addr} {w w' : World} {p : Addr} {v : Value} (hb : Below w.heap.size w w') (hp : NewBut lo A w p) (hc : w.cell? p = some v) : NewBut lo A w' p ∧ w'.cell? p = some v :=
  ⟨⟨⟨hp.1.1, Nat.lt_of_lt_of_le hp.1.2.1 hb.size, (hb.frozen hp.1.2.1).trans hp.1.2.2⟩, hp.2⟩, (hb.cell hp.1.2.1).trans hc⟩
theorem NewBut.grown {lo : Nat} {A : Option Addr} {w w' : World} {p : Addr} {v : Value} {row : Option Nat} (hg : w.grownBy w' row) (hr : ∀ q, row = some q → q < lo) (hp : NewBut lo A w p) (hc : w.cell? p = some v) : NewBut lo A w' p ∧ w'.cell? p = some v := by
  have hb := hg.block p.block hp.1.2.1 (fun e => by have := hr _ e.symm; have := hp.1.1; omega)
  exact ⟨⟨⟨hp.1.1, Nat.lt_of_lt_of_le hp.1.2.1 hg.size, (World.frozen?_of_block hb).trans hp.1.2.2⟩, hp.2⟩, (World.cell?_of_block hb).trans hc⟩

/-- A row of the call's own, whose elements read as xs. -/
def RowOf {α : Type} (R : Rel α) (size : Nat) (t : TypeId) (lo : Nat) (w : World) (A : Option Addr) (c : Nat) (xs : List α) : Prop :=
  ∃ cs, w.ownsRow lo t size (.slice A xs.length c) xs.length cs ∧ ∀ i x, xs[i]? = some x → ∃ vs, vs.length = size ∧ (∀ j u, vs[j]? = some u → cs[i * size + j]? = some u) ∧ R (NewBut lo A w) w vs x
section
variable {α : Type} {R : Rel α} {size : Nat} {t : TypeId} {lo : Nat} {w w' : World} {A : Option Addr} {c : Nat} {xs : List α}
theorem RowOf.nil (R : Rel α) (size : Nat) (t : TypeId) (lo : Nat) (w : World) : RowOf R size t lo w none 0 [] := ⟨[], World.ownsRow_nil _ _ _ _, fun i x h => by simp at h⟩
theorem RowOf.below (hR : Stab R) (h : RowOf R size t lo w A c xs) (hb : Below w.heap.size w w') : RowOf R size t lo w' A c xs := by
  obtain ⟨cs, h1, h2⟩ := h
  refine ⟨cs, own_below h1 hb, fun i x hi => ?_⟩
  obtain ⟨vs, e1, e2, e3⟩ := h2 i x hi
  exact ⟨vs, e1, e2, hR _ _ _ _ _ _ (fun p v hp hc => NewBut.below hb hp hc) e3⟩
theorem RowOf.grown (hR : Stab R) (h : RowOf R size t lo w A c xs) {row : Option Nat} (hg : w.grownBy w' row) (hr : ∀ q, row = some q → q < lo) : RowOf R size t lo w' A c xs := by
  obtain ⟨cs, h1, h2⟩ := h
  have hk : (Value.slice A xs.length c).ownBlock = none ∨ (Value.slice A xs.length c).ownBlock ≠ row := by
    rcases row with _ | q
    · by_cases e : (Value.slice A xs.length c).ownBlock = none
      · exact .inl e
      · exact .inr e
    · refine .inr fun e => ?_
      have := (h1.lt q e).1
      have := hr q rfl
      omega
  have h1' : w'.ownsRow lo t size (.slice A xs.length c) xs.length cs := h1.kept hg hk
  refine ⟨cs, h1', fun i x hi => ?_⟩
  obtain ⟨vs, e1, e2, e3⟩ := h2 i x hi
  exact ⟨vs, e1, e2, hR _ _ _ _ _ _ (fun p v hp hc => NewBut.grown hg hr hp hc) e3⟩
theorem RowOf.low (hR : Stab R) (h : RowOf R size t lo w A c xs) {lo' : Nat} (hl : lo' ≤ lo) : RowOf R size t lo' w A c xs := by
  obtain ⟨cs, h1, h2⟩ := h
  refine ⟨cs, own_low h1 hl, fun i x hi => ?_⟩
  obtain ⟨vs, e1, e2, e3⟩ := h2 i x hi
  exact ⟨vs, e1, e2, hR _ _ _ _ _ _ (fun p v hp hc => ⟨⟨⟨Nat.le_trans hl hp.1.1, hp.1.2⟩, hp.2⟩, hc⟩) e3⟩
theorem RowOf.rel (hR : Stab R) (h : RowOf R size t lo w A c xs) : rSl size R (New lo w) w [.slice A xs.length c] xs := by
  obtain ⟨cs, h1, h2⟩ := h
  refine own_sl h1 rfl fun i x hi => ?_
  obtain ⟨vs, e1, e2, e3⟩ := h2 i x hi
  exact ⟨vs, e1, e2, hR _ _ _ _ _ _ (fun p v hp hc => ⟨hp.1, hc⟩) e3⟩
theorem RowOf.form (h : RowOf R size t lo w A c xs) : xs.length ≤ c ∧ c ≤ 9223372036854775807 ∧ (Value.slice A xs.length c).ownBlock = A.map (·.block) ∧ (0 < xs.length → ∃ ad, A = some ad) := by
  obtain ⟨cs, h1, _⟩ := h
  obtain ⟨A', c', e, h2, h3, h4, h5⟩ := own_any h1
  cases e
  exact ⟨h2, h3, h4, h5⟩
/-- One more. -/
theorem RowOf.push {P : Program} (hR : Stab R) (h : RowOf R size t lo w A c xs) (st ty : TypeId) (i : TypeInfo) (z : Value) (bytes : Nat) (ht : P.underlying st = some (.slice t)) (hi : P.info? t = some i) (hz : i.zero = some z)
    (hsize : i.size = size) (hby : i.bytes = bytes) (hzs : z.cells.size = size) (hsz : 0 < size) (ad : Addr) (m : Nat) (news : List Value) (x : α) (hl : news.length = size) (hnews : ∀ j u, news[j]? = some u → w.cell? (ad.add j) = some u) (h1 : ∀ u ∈ news, u.oneCell' = true)
    (h63 : xs.length + 1 ≤ maxLen) (hbytes : (xs.length + 1) * bytes ≤ 140737488355328) (hbase : lo ≤ w.heap.size) (hx : R (NewBut lo A w) w news x) :
    ∃ A' c' w', (Builtin.append_ #[st, st] ty #[.slice A xs.length c, .slice (some ad) 1 m]).run P w = .ok (.slice A' (xs.length + 1) c') w' ∧ RowOf R size t lo w' A' c' (xs ++ [x]) ∧ w.grownBy w' (A.map (·.block)) ∧ Below lo w w' := by
  obtain ⟨cs, ho, hcs⟩ := h
  obtain ⟨A1, c1, e, _, _, e4, _⟩ := own_any ho
  cases e
  obtain ⟨v', w', hr, o1, g1, b1, k1⟩ := app_own (P := P) (w := w) lo st ty t i z size bytes ht hi hz hsize hby hzs hsz _ _ cs ho ad 1 m news (by omega) hnews h1 h63 hbytes hbase
  obtain ⟨A2, c2, rfl, _, _, e5, _⟩ := own_any o1
  rw [e4] at g1 k1
  rw [e5] at k1
  have mp : ∀ p v, NewBut lo A w p → w.cell? p = some v → NewBut lo A2 w' p ∧ w'.cell? p = some v := fun p v hp hc => by
    have hb := g1.block p.block hp.1.2.1 (fun e => hp.2 e.symm)
    refine ⟨⟨⟨hp.1.1, Nat.lt_of_lt_of_le hp.1.2.1 g1.size, (World.frozen?_of_block hb).trans hp.1.2.2⟩, fun e => ?_⟩, (World.cell?_of_block hb).trans hc⟩
    rcases k1 with k | k
    · exact hp.2 (k ▸ e)
    · rw [k] at e
      simp only [Option.some.injEq] at e
      have := hp.1.2.1
      omega
  refine ⟨A2, c2, w', hr, ⟨cs ++ news, by rw [List.length_append]; exact o1, fun j y hj => ?_⟩, g1, b1⟩
  have hcl : cs.length = xs.length * size := ho.1
  rcases Nat.lt_or_ge j xs.length with hjl | hjl
  · rw [List.getElem?_append_left hjl] at hj
    obtain ⟨vs, e1, e2, e3⟩ := hcs j y hj
    refine ⟨vs, e1, fun k u hk => ?_, hR _ _ _ _ _ _ mp e3⟩
    have hcu := e2 k u hk
    rw [List.getElem?_append_left (List.getElem?_eq_some_iff.1 hcu).1]
    exact hcu
  · rw [List.getElem?_append_right hjl] at hj
    have hj0 : j = xs.length := by
      have := (List.getElem?_eq_some_iff.1 hj).1
      simp at this
      omega
    subst hj0
    simp at hj
    subst hj
    refine ⟨news, hl, fun k u hk => ?_, hR _ _ _ _ _ _ mp hx⟩
    rw [List.getElem?_append_right (by omega), hcl, Nat.add_sub_cancel_left]
    exact hk
end

/-- 'append([]byte(nil), b...)': the same bytes in new memory. -/
theorem app_copy (v : Value) (xs : List UInt8) (w : World) (hbig : xs.length ≤ 1000000000) (h : rBy (Old w) w [v] xs) :
    ∃ v' w', (Builtin.append_ #[23, 23] 23 #[.slice none 0 0, v]).run Try.prog w = .ok v' w' ∧ rBy (New w.heap.size w') w' [v'] xs ∧ Below w.heap.size w w' := by
  obtain ⟨i0, hi, hz0, hz1, hz2⟩ := info_parts u8_info0
  obtain ⟨A, cap, rfl, _, _, hb⟩ := rBy_byt (B := w.heap.size) (fun p hp => hp) h
  obtain ⟨v', w', hr, ho, hB⟩ := app_byt (P := Try.prog) (w := w) w.heap.size 23 23 5 i0 Try.underlying23 hi hz0 hz1 hz2 (.slice none 0 0) 0 [] (World.ownsRow_nil _ _ _ _) w.heap.size A xs.length cap xs hb rfl (by omega) (Nat.le_refl _)
  rw [Nat.zero_add, List.nil_append] at ho
  exact ⟨v', w', hr, own_by ho, hB⟩
theorem does_append {P : Program} {w w' : World} {o : Oper} {a : Act} {R : Value → World → Prop} (s x : Operand) (t : TypeId)
    (ho : o.op = .call { callee := .builtin .append, args := #[s, x], argTypes := #[t, t] }) {v u v' : Value} (hs : a.eval s = v) (hx : a.eval x = u)
    (hrun : (Builtin.append_ #[t, t] o.type #[v, u]).run P w = .ok v' w') (h : R v' w') : doesUpon P R ((execOp a.eval o).run P w) := by
  unfold execOp
  simp only [ho, resolve, invoke, builtin, Sem.run_bind, Sem.run_pure, Result.andThen_ok, List.map_toArray, List.map_cons, List.map_nil, hs, hx, hrun]
  exact h
theorem grow_later {a b c : World} {row : Option Nat} (h : a.grownBy b row) (h' : Below a.heap.size b c) : a.grownBy c row :=
  ⟨h'.os.trans h.os, h'.tape.trans h.tape, h'.output.trans h.output, Nat.le_trans h.size h'.size, fun k hk hn => (h'.block k hk).trans (h.block k hk hn)⟩
end Go.Proofs.Ytkklkhnoljmgbaa

/-
  The document's answers of layer 3: New, Twin. Conditions: those that each lemma states.
-/
namespace Go.Proofs.Ytkklkhnoljmgbaa
open Go.RowKit

theorem rows_push {w : World} {lo : Nat} {A : Option Addr} {c : Nat} {xss : List (List UInt8)} (h : RowOf rBy 1 23 lo w A c xss) (g : Nat) (u : Value) (m : Nat) (x : List UInt8) (hg : w.heap[g]? = some (.cells #[u] 23 (0, 0))) (hs : xss.length < 100000) (hbase : lo ≤ w.heap.size) (hx : rBy (NewBut lo A w) w [u] x) :
    ∃ A' c' w', (Builtin.append_ #[28, 28] 28 #[.slice A xss.length c, .slice (some ⟨g, 0, none⟩) 1 m]).run Try.prog w = .ok (.slice A' (xss.length + 1) c') w' ∧ RowOf rBy 1 23 lo w' A' c' (xss ++ [x]) ∧ w.grownBy w' (A.map (·.block)) ∧ Below lo w w' := by
  obtain ⟨i0, hi, hz0, hz1, hz2⟩ := info_parts rows_info0
  obtain ⟨E, ce, rfl, _⟩ := id (rBy_open hx)
  exact RowOf.push stab_by h 28 28 i0 (.slice none 0 0) 24 Try.underlying28 hi hz0 hz1 hz2 rfl (by decide) ⟨g, 0, none⟩ m _ x rfl (World.news_of_block (cs := #[.slice E x.length ce]) hg) (fun u hu => by
    simp at hu
    subst hu
    rfl) (by unfold maxLen; omega) (by omega) hbase hx

end Go.Proofs.Ytkklkhnoljmgbaa

/-
  The document's answers of layer 3: Twin. Conditions: those that each lemma states.
-/
namespace Go.Proofs.Ytkklkhnoljmgbaa
open Go.RowKit

theorem wts_push {w : World} {lo : Nat} {A : Option Addr} {c : Nat} {ws : List Wt} (h : RowOf rWt 2 52 lo w A c ws) (g : Nat) (n : Int) (u : Value) (m : Nat) (x : List UInt8) (hg : w.heap[g]? = some (.cells #[.int .i64 n, u] 52 (0, 0))) (hs : ws.length < 100000) (hbase : lo ≤ w.heap.size) (h1 : -9223372036854775808 ≤ n) (h2 : n ≤ 9223372036854775807) (hx : rBy (NewBut lo A w) w [u] x) :
    ∃ A' c' w', (Builtin.append_ #[29, 29] 29 #[.slice A ws.length c, .slice (some ⟨g, 0, none⟩) 1 m]).run Try.prog w = .ok (.slice A' (ws.length + 1) c') w' ∧ RowOf rWt 2 52 lo w' A' c' (ws ++ [(n, x)]) ∧ w.grownBy w' (A.map (·.block)) ∧ Below lo w w' := by
  obtain ⟨i0, hi, hz0, hz1, hz2⟩ := info_parts wts_info0
  obtain ⟨E, ce, rfl, _⟩ := id (rBy_open hx)
  exact RowOf.push stab_wt h 29 29 i0 (.agg #[.int .i64 0, .slice none 0 0]) 32 Try.underlying29 hi hz0 hz1 hz2 rfl (by decide) ⟨g, 0, none⟩ m _ (n, x) rfl (World.news_of_block (cs := #[.int .i64 n, .slice E x.length ce]) hg) (fun u hu => by
    simp at hu
    rcases hu with rfl | rfl <;> rfl) (by unfold maxLen; omega) (by omega) hbase (rWt_mk h1 h2 hx)

/-- The cells of a row's elements of the call's own: none lies in the row. -/
theorem RowOf.but {α : Type} {R : Rel α} {size : Nat} {t : TypeId} {lo lo' : Nat} {w w' : World} {A : Option Addr} {c : Nat} {xs : List α} (h : RowOf R size t lo w A c xs) {p : Addr} (hl : w.heap.size ≤ lo') (h2 : lo ≤ lo') (hp : New lo' w' p) : NewBut lo A w' p :=
  ⟨⟨Nat.le_trans h2 hp.1, hp.2⟩, fun e => by
    obtain ⟨cs, hcs, _⟩ := h
    obtain ⟨_, _, e0, _, _, e4, _⟩ := own_any hcs
    cases e0
    have := (hcs.lt _ (by rw [e4]; exact e)).2
    have := hp.1
    omega⟩

/-- A row that lies in no block of disks. -/
def FarB (w : World) (A : Option Addr) : Prop := ∀ b, A.map (·.block) = some b → b < w.heap.size ∧ ∀ cs fr, w.heap[b]? ≠ some (.cells cs 31 fr)
theorem FarB.below {w w' : World} {A : Option Addr} (h : FarB w A) (hb : Below w.heap.size w w') : FarB w' A := fun b e => ⟨Nat.lt_of_lt_of_le (h b e).1 hb.size, fun cs fr => by
  rw [hb.block b (h b e).1]
  exact (h b e).2 cs fr⟩
theorem RowOf.far {α : Type} {R : Rel α} {size : Nat} {t : TypeId} {lo : Nat} {w : World} {A : Option Addr} {c : Nat} {xs : List α} (h : RowOf R size t lo w A c xs) (ht : t ≠ 31) : FarB w A := fun b hb => by
  obtain ⟨cs, h1, _⟩ := h
  cases A with
  | none => simp at hb
  | some ad =>
    simp only [Option.map_some, Option.some.injEq] at hb
    subst hb
    exact ⟨(own_block h1).2.1, fun cs fr e => own_not h1 e ht rfl⟩
set_option maxRecDepth 100000 in
set_option maxHeartbeats 4000000 in
theorem refTwin_far (v : Value) (d : Dk) (w : World) (hs : Small d) (h : Dsk (Old w) w v d) : Calls Try.prog 19 #[v] w fun e w' => ∃ X xc Y yc, e = .returned (.agg #[.slice X d.1.length xc, .slice Y d.2.length yc]) ∧ Dsk (New w.heap.size w') w' (.agg #[.slice X d.1.length xc, .slice Y d.2.length yc]) d ∧ FarB w' X ∧ FarB w' Y ∧ Below w.heap.size w w' := by
  obtain ⟨A, c, B, c', rfl, l1, m1, l2, m2, hA, hB⟩ := h.open
  have p1 := hs.rows
  have p2 := hs.waits
  have HS := Lib.hid hs
  have HA := Lib.hid hA
  have HB := Lib.hid hB
  clear hA hB h hs
  obtain ⟨n, hn⟩ : ∃ n, d.1.length = n := ⟨_, rfl⟩
  obtain ⟨m, hm⟩ : ∃ m, d.2.length = m := ⟨_, rfl⟩
  rw [hn] at l1 p1 ⊢
  rw [hm] at l2 p2 ⊢
  replace hn := Lib.hid hn
  replace hm := Lib.hid hm
  obtain ⟨w2, hw2, f1, f2, f3, hsz, hB2⟩ := box_two w (.slice A n c) (.slice B m c') #[.slice none 0 0, .slice none 0 0] 31
  obtain ⟨w3, hw3, g3, hs3, hB3⟩ := box_pair' w2 (.slice none 0 0) (.slice none 0 0) 31
  have S5 : Hid (w.heap.size + 2 = w2.heap.size ∧ w2.heap.size + 1 = w3.heap.size) := Lib.hid ⟨by omega, by omega⟩
  replace hsz := Lib.hid hsz
  replace hs3 := Lib.hid hs3
  replace g3 := Lib.hid g3
  replace f3 := Lib.hid f3
  replace hw3 := Lib.hid hw3
  have hB2' := Lib.hid hB2
  have lt0 : w.heap.size < w2.heap.size := by have := S5.out; omega
  clear hB2
  go_enter Try.func19, Try.ntmps19
  go_upto_region 2 with fail
  rw [hw3.out]
  clear hw3 hw2
  go_wp2_with fail
  go_loopw [4] (fun i wr => ∃ k : Nat, k ≤ n ∧ i = .int .i64 k ∧ Below w2.heap.size w2 wr ∧ ∃ (A1 : Option Addr) (c1 : Nat), wr.heap[w2.heap.size]? = some (.cells #[.slice A1 k c1, .slice none 0 0] 31 (0, 0)) ∧
      RowOf rBy 1 23 w3.heap.size wr A1 c1 (d.1.take k)) (fun i _ => n - (intOf i).toNat)
  case atStart => exact ⟨0, by omega, rfl, hB3, none, 0, g3.out, RowOf.nil _ _ _ _ _⟩
  case round =>
    obtain ⟨k, hk, rfl, hb, A1, c1, hz, hrow⟩ := hrel
    obtain ⟨r2, r3, r4, r5⟩ := two_cells hz
    have r1 := (hb.cell (p := ⟨w.heap.size, 0, none⟩) lt0).trans f1
    have htl := Lib.hid (show (d.1.take k).length = k by rw [List.length_take, hn.out]; omega)
    replace hrow := Lib.hid hrow
    by_cases hlt : k < n
    · obtain ⟨x, hx⟩ : ∃ x, d.1[k]? = some x := ⟨_, List.getElem?_eq_getElem (by rw [hn.out]; exact hlt)⟩
      obtain ⟨ad, u, rfl, hok, hc, hby⟩ := HA.out k x hx
      have hWr : Below w.heap.size w wr := hB2'.out.trans (hb.mono hB2'.out.size)
      have hcr := (hWr.cell hok).trans hc
      have hbr := stab_by.old hby hWr
      have hbig := HS.out.block k x hx
      have htk := Lib.hid (show d.1.take (k + 1) = d.1.take k ++ [x] by rw [List.take_add_one, hx]; rfl)
      obtain ⟨E, ce, rfl, _⟩ := id (rBy_open hby)
      have t1 := World.block_lt_of_cell? _ _ r1
      have t3 := World.block_lt_of_cell? _ _ hcr
      have i1 : (0 : Int) ≤ (k : Int) := by omega
      have i2 : (k : Int) < (n : Int) := by omega
      replace hx := Lib.hid hx
      replace hbr := Lib.hid hbr
      have hz' := Lib.hid hz
      have hb' := Lib.hid hb
      clear hz hb hc hby hok
      go_wp2_with fail
      refine wp_region_tails (by kernel_rfl) 9 (fun W => Below wr.heap.size wr W) (fun i => match i with
          | 7 => some (fun v W => rBy (New wr.heap.size W) W [v] x)
          | 8 => some (fun v W => ∃ g, v = .slice (some ⟨g, 0, none⟩) 1 1 ∧ wr.heap.size ≤ g ∧ ∃ u, W.heap[g]? = some (.cells #[u] 23 (0, 0)) ∧ rBy (New wr.heap.size W) W [u] x)
          | _ => none) (fun _ => none) (by decide) (by kernel_rfl) (by kernel_rfl) (Below.refl _ _).drew (fun w w' h hb => h.trans (hb.mono h.size)) ?tst ?_
      case tst =>
        intro j φ x W W' hp hx hb
        match j, hp with
        | 7, hp => cases hp; exact stab_by.new hx (Nat.le_refl _) hb
        | 8, hp =>
          cases hp
          obtain ⟨g, e1, e2, u, e3, e4⟩ := hx
          exact ⟨g, e1, e2, u, (hb.block g (Array.getElem?_eq_some_iff.1 e3).1).trans e3, stab_by.new e4 (Nat.le_refl _) hb⟩
      simp only [List.take_succ_cons, List.take_zero, List.drop_succ_cons, List.drop_zero]
      repeat (first
        | (refine wpAs_skip rfl ?_; simp only [Act.put, List.setIfInBounds_toArray, List.set_cons_zero, List.set_cons_succ])
        | (refine wpAs_pure (v := ?_) rfl rfl ?_ ?_; rotate_left; (intro W hC hE; clear hE; (have z1 := (hC.cell t1).trans r1; have z2 := (hC.cell (p := ⟨w2.heap.size, 0, none⟩) r5).trans r2; have z3 := (hC.cell t3).trans hcr); clear hC; go_simp; done); simp only [Act.put, List.setIfInBounds_toArray, List.set_cons_zero, List.set_cons_succ])
        | (refine wpAs_pure (v := ?_) rfl rfl ?_ ?_; rotate_left; (intro W hC hE; clear hE; (have z1 := (hC.cell t1).trans r1; have z2 := (hC.cell (p := ⟨w2.heap.size, 0, none⟩) r5).trans r2; have z3 := (hC.cell t3).trans hcr); clear hC; go_simp; with_reducible rfl); simp only [Act.put, List.setIfInBounds_toArray, List.set_cons_zero, List.set_cons_succ]))
      refine wpAs_act rfl rfl ?_ ?_
      · intro W hC hE
        clear hE
        obtain ⟨v', W', hr, h1, h2⟩ := app_copy (.slice E x.length ce) x W (by omega) (stab_by.old hbr.out hC)
        exact does_append _ _ _ rfl rfl rfl hr ⟨stab_by.mono h1 hC.size, h2⟩
      simp only [Act.put, List.setIfInBounds_toArray, List.set_cons_zero, List.set_cons_succ, envAdd]
      intro x20
      refine wpAs_act rfl rfl ?_ ?_
      · intro W hC hE
        have h9 := hE.1 rfl
        obtain ⟨E, ce, rfl, _⟩ := rBy_open h9
        have hsw := hC.size
        have h9' := Lib.hid (stab_by.new h9 (Nat.le_refl _) ((Below.refl W.heap.size W).alloc (Nat.le_refl _) (.cells #[.slice E x.length ce] 23)))
        clear hE hC h9
        go_simp
        exact ⟨⟨W.heap.size, rfl, hsw, _, heap_alloc_new _ _, h9'.out⟩, (Below.refl _ _).alloc (Nat.le_refl _) _⟩
      simp only [Act.put, List.setIfInBounds_toArray, List.set_cons_zero, List.set_cons_succ, envAdd]
      intro x21
      refine wpAs_end fun W hC hE => ?_
      obtain ⟨⟨g, rfl, hg, u, hg3, hu⟩, _⟩ := hE
      have s5 := S5.out
      have hwr := hb'.out.size
      have hrowW := RowOf.below stab_by hrow.out hC
      have hlo : w3.heap.size ≤ wr.heap.size := by omega
      obtain ⟨A2, c2, w7, hr2, row7, gr7, ba7⟩ := rows_push hrowW g u 1 x hg3 (by rw [htl.out]; omega) (Nat.le_trans hlo hC.size) (stab_by _ _ _ _ _ _ (fun p v hp hc => ⟨hrow.out.but (Nat.le_refl _) hlo hp, hc⟩) hu)
      rw [htl.out] at hr2
      have g7 := (ba7.block w2.heap.size (by omega)).trans ((hC.block w2.heap.size r5).trans hz'.out)
      obtain ⟨w8, hw8, g8, gr8, gs8⟩ := put_fst (u := .slice A2 (k + 1) c2) g7
      have row8 := Lib.hid (RowOf.grown stab_by row7 gr8 (fun q e => by cases e; omega))
      have hb7 : Below w2.heap.size w2 w7 := (hb'.out.trans (hC.mono hb'.out.size)).trans (ba7.mono (by omega))
      have hb8 := Lib.hid (hb7.grown gr8 hb7.size (fun q e => by cases e; omega))
      have z2 := (hC.cell (p := ⟨w2.heap.size, 0, none⟩) r5).trans r2
      obtain ⟨y1, y2, y3, y4⟩ := two_cells g7
      have H2 := Lib.hid hr2
      replace g8 := Lib.hid g8
      replace g7 := Lib.hid g7
      replace hg3 := Lib.hid hg3
      clear hr2 row7 gr7 gr8 ba7 hb7 hrowW hC gs8 hu s5
      go_wp2_with (at_builtin; refine wpList_append_run rfl _ _ _ rfl rfl rfl H2.out ?_; clear H2)
      go_roundw
      case rel => exact ⟨k + 1, by omega, by go_num, hb8.out, A2, c2, g8.out, by rw [htk.out]; exact row8.out⟩
      case measure => simp [intOf]; omega
    · have hge : n ≤ k := by omega
      have hkn := Lib.hid (show k = n by omega)
      have hd1 := Lib.hid (show d.1.take k = d.1 from List.take_of_length_le (by rw [hn.out]; omega))
      replace hrow := Lib.hid (show RowOf rBy 1 23 w3.heap.size wr A1 c1 d.1 by rw [← hd1.out]; exact hrow.out)
      have r1' := (hb.cell (p := ⟨w.heap.size, 1, none⟩) lt0).trans f2
      have hz' := Lib.hid hz
      have hb' := Lib.hid hb
      obtain ⟨wo, rfl⟩ : ∃ wo : World, wo = wr := ⟨_, rfl⟩
      have hws : w3.heap.size ≤ wo.heap.size := by have := S5.out; omega
      clear hz hb
      go_wp2_with fail
      go_loopw [5] (fun i wr => ∃ j : Nat, j ≤ m ∧ i = .int .i64 j ∧ wo.grownBy wr (some w2.heap.size) ∧ ∃ (A2 : Option Addr) (c2 : Nat), wr.heap[w2.heap.size]? = some (.cells #[.slice A1 k c1, .slice A2 j c2] 31 (0, 0)) ∧
          RowOf rWt 2 52 wo.heap.size wr A2 c2 (d.2.take j)) (fun i _ => m - (intOf i).toNat)
      case atStart => exact ⟨0, by omega, rfl, grow_refl _ _, none, 0, hz'.out, RowOf.nil _ _ _ _ _⟩
      case round =>
        obtain ⟨j, hj, rfl, hgr, A2, c2, hz, hrw⟩ := hrel
        obtain ⟨q2, q3, q4, q5⟩ := two_cells hz
        have q1 := (grow_cell hgr (p := ⟨w.heap.size, 1, none⟩) (by have := S5.out; show w.heap.size < _; omega) (fun e => by simp only [Option.some.injEq] at e; omega)).trans r1'
        have htl := Lib.hid (show (d.2.take j).length = j by rw [List.length_take, hm.out]; omega)
        replace hrw := Lib.hid hrw
        have hb2 : Below w2.heap.size w2 wr := hb'.out.grown hgr hb'.out.size (fun q e => by cases e; omega)
        by_cases hlt2 : j < m
        · obtain ⟨x, hx⟩ : ∃ x, d.2[j]? = some x := ⟨_, List.getElem?_eq_getElem (by rw [hm.out]; exact hlt2)⟩
          obtain ⟨ad, u, rfl, hok, hok', hc, hc', hby, b1, b2⟩ := HB.out j x hx
          have hWr : Below w.heap.size w wr := hB2'.out.trans (hb2.mono hB2'.out.size)
          have hcr := (hWr.cell hok).trans hc
          have hcr' := (hWr.cell hok').trans hc'
          rw [add_next] at hcr'
          have hbr := stab_by.old hby hWr
          have hbig := HS.out.wait j x hx
          have htk := Lib.hid (show d.2.take (j + 1) = d.2.take j ++ [x] by rw [List.take_add_one, hx]; rfl)
          obtain ⟨E, ce, rfl, _⟩ := id (rBy_open hby)
          obtain ⟨xi, xb⟩ := x
          obtain ⟨q, hq'⟩ : ∃ q, xb.length = q := ⟨_, rfl⟩
          replace hbr : rBy (Old wr) wr [.slice E xb.length ce] xb := hbr
          replace hcr' : wr.cell? _ = some (.slice E xb.length ce) := hcr'
          rw [hq'] at hcr' hbr
          replace hq' := Lib.hid hq'
          have t1 := World.block_lt_of_cell? _ _ q1
          have t3 := World.block_lt_of_cell? _ _ hcr
          have t4 := World.block_lt_of_cell? _ _ hcr'
          have i1 : (0 : Int) ≤ (j : Int) := by omega
          have i2 : (j : Int) < (m : Int) := by omega
          replace hx := Lib.hid hx
          replace hbr := Lib.hid hbr
          have hz2 := Lib.hid hz
          have hgr' := Lib.hid hgr
          have hb2' := Lib.hid hb2
          clear hz hgr hb2 hc hc' hby hok hok' hWr
          go_wp2_with fail
          refine wp_region_tails (by kernel_rfl) 17 (fun W => Below wr.heap.size wr W) (fun i => match i with
              | 14 => some (fun v W => rBy (New wr.heap.size W) W [v] xb)
              | 15 => some (fun v W => ∃ E ce, v = .agg #[.int .i64 xi, .slice E q ce] ∧ rBy (New wr.heap.size W) W [.slice E q ce] xb)
              | 16 => some (fun v W => ∃ g, v = .slice (some ⟨g, 0, none⟩) 1 1 ∧ wr.heap.size ≤ g ∧ ∃ u, W.heap[g]? = some (.cells #[.int .i64 xi, u] 52 (0, 0)) ∧ rBy (New wr.heap.size W) W [u] xb)
              | _ => none) (fun _ => none) (by decide) (by kernel_rfl) (by kernel_rfl) (Below.refl _ _).drew (fun w w' h hb => h.trans (hb.mono h.size)) ?tst2 ?_
          case tst2 =>
            intro j φ x W W' hp hx hb
            match j, hp with
            | 14, hp => cases hp; exact stab_by.new hx (Nat.le_refl _) hb
            | 15, hp =>
              cases hp
              obtain ⟨E, ce, e1, e2⟩ := hx
              exact ⟨E, ce, e1, stab_by.new e2 (Nat.le_refl _) hb⟩
            | 16, hp =>
              cases hp
              obtain ⟨g, e1, e2, u, e3, e4⟩ := hx
              exact ⟨g, e1, e2, u, (hb.block g (Array.getElem?_eq_some_iff.1 e3).1).trans e3, stab_by.new e4 (Nat.le_refl _) hb⟩
          simp only [List.take_succ_cons, List.take_zero, List.drop_succ_cons, List.drop_zero]
          repeat (first
            | (refine wpAs_skip rfl ?_; simp only [Act.put, List.setIfInBounds_toArray, List.set_cons_zero, List.set_cons_succ])
            | (refine wpAs_pure (v := ?_) rfl rfl ?_ ?_; rotate_left; (intro W hC hE; clear hE; (have z1 := (hC.cell t1).trans q1; have z2 := (hC.cell (p := ⟨w2.heap.size, 1, none⟩) q5).trans q3; have z3 := (hC.cell t3).trans hcr; have z4 := (hC.cell (p := ⟨(ad.add (j * 2)).block, (ad.add (j * 2)).off + 1, none⟩) t4).trans hcr'); clear hC; go_simp; done); simp only [Act.put, List.setIfInBounds_toArray, List.set_cons_zero, List.set_cons_succ])
            | (refine wpAs_pure (v := ?_) rfl rfl ?_ ?_; rotate_left; (intro W hC hE; clear hE; (have z1 := (hC.cell t1).trans q1; have z2 := (hC.cell (p := ⟨w2.heap.size, 1, none⟩) q5).trans q3; have z3 := (hC.cell t3).trans hcr; have z4 := (hC.cell (p := ⟨(ad.add (j * 2)).block, (ad.add (j * 2)).off + 1, none⟩) t4).trans hcr'); clear hC; go_simp; with_reducible rfl); simp only [Act.put, List.setIfInBounds_toArray, List.set_cons_zero, List.set_cons_succ]))
          refine wpAs_act rfl rfl ?_ ?_
          · intro W hC hE
            clear hE
            obtain ⟨v', W', hr, h1, h2⟩ := app_copy (.slice E q ce) xb W (by have := hq'.out; omega) (stab_by.old hbr.out hC)
            exact does_append _ _ _ rfl rfl rfl hr ⟨stab_by.mono h1 hC.size, h2⟩
          simp only [Act.put, List.setIfInBounds_toArray, List.set_cons_zero, List.set_cons_succ, envAdd]
          intro x45
          refine wpAs_act rfl rfl ?_ ?_
          · intro W hC hE
            have h9 := hE.1 rfl
            obtain ⟨E, ce, rfl, _⟩ := rBy_open h9
            rw [hq'.out] at h9
            clear hE hC
            have h9' := Lib.hid h9
            clear h9
            go_simp
            have := hq'.out
            exact ⟨⟨E, ce, by rw [this], h9'.out⟩, Below.refl _ _⟩
          simp only [Act.put, List.setIfInBounds_toArray, List.set_cons_zero, List.set_cons_succ, envAdd]
          intro x46
          refine wpAs_act rfl rfl ?_ ?_
          · intro W hC hE
            obtain ⟨E, ce, rfl, h9⟩ := hE.1 rfl
            have hsw := hC.size
            have h9' := Lib.hid (stab_by.new h9 (Nat.le_refl _) ((Below.refl W.heap.size W).alloc (Nat.le_refl _) (.cells #[.int .i64 xi, .slice E q ce] 52)))
            clear hE hC h9
            go_simp
            exact ⟨⟨W.heap.size, rfl, hsw, _, heap_alloc_new _ _, h9'.out⟩, (Below.refl _ _).alloc (Nat.le_refl _) _⟩
          simp only [Act.put, List.setIfInBounds_toArray, List.set_cons_zero, List.set_cons_succ, envAdd]
          intro x47
          refine wpAs_end fun W hC hE => ?_
          obtain ⟨⟨g, rfl, hg, u, hg3, hu⟩, _⟩ := hE
          have hwr := hgr'.out.size
          have hrowW := RowOf.below stab_wt hrw.out hC
          obtain ⟨A3, c3, w7, hr2, row7, gr7, ba7⟩ := wts_push hrowW g xi u 1 xb hg3 (by rw [htl.out]; omega) (Nat.le_trans hwr hC.size) b1 b2 (stab_by _ _ _ _ _ _ (fun p v hp hc => ⟨hrw.out.but (Nat.le_refl _) hwr hp, hc⟩) hu)
          rw [htl.out] at hr2
          have g7 := (ba7.block w2.heap.size (by have := S5.out; omega)).trans ((hC.block w2.heap.size q5).trans hz2.out)
          obtain ⟨w8, hw8, g8, gr8, gs8⟩ := put_snd (u := .slice A3 (j + 1) c3) g7
          have s5 := S5.out
          have row8 := Lib.hid (RowOf.grown stab_wt row7 gr8 (fun q e => by cases e; omega))
          have hg8 := Lib.hid (grow_trans (grow_later (grow_later hgr'.out (hC.mono hwr)) ba7) gr8)
          have z2 := (hC.cell (p := ⟨w2.heap.size, 1, none⟩) q5).trans q3
          obtain ⟨y1, y2, y3, y4⟩ := two_cells g7
          have H2 := Lib.hid hr2
          replace g8 := Lib.hid g8
          replace g7 := Lib.hid g7
          replace hg3 := Lib.hid hg3
          clear hr2 row7 gr7 gr8 ba7 hrowW hC gs8 hu s5
          go_wp2_with (at_builtin; refine wpList_append_run rfl _ _ _ rfl rfl rfl H2.out ?_; clear H2)
          go_roundw
          case rel => exact ⟨j + 1, by omega, by go_num, hg8.out, A3, c3, g8.out, by rw [htk.out]; exact row8.out⟩
          case measure => simp [intOf]; omega
        · have hge2 : m ≤ j := by omega
          have hjm := Lib.hid (show j = m by omega)
          have hd2 := Lib.hid (show d.2.take j = d.2 from List.take_of_length_le (by rw [hm.out]; omega))
          have s5 := S5.out
          have gz := (hb2.block (w.heap.size + 1) (by omega)).trans f3.out
          obtain ⟨k1, k2, k3, k4⟩ := two_cells gz
          obtain ⟨W9, hW9, g9, gr9, gs9⟩ := put_two (u := .slice A1 k c1) (v := .slice A2 j c2) gz
          obtain ⟨k5, k6, _, _⟩ := two_cells g9
          have hBr : Below w.heap.size w wr := hB2'.out.trans (hb2.mono hB2'.out.size)
          have hB9 : Below w.heap.size w W9 := hBr.grown gr9 hBr.size (fun q e => by cases e; omega)
          have row1 := RowOf.low stab_by (RowOf.grown stab_by (RowOf.grown stab_by hrow.out hgr (fun q e => by cases e; omega)) gr9 (fun q e => by cases e; omega)) (show w.heap.size ≤ w3.heap.size by omega)
          have row2 := RowOf.low stab_wt (RowOf.grown stab_wt hrw.out gr9 (fun q e => by cases e; omega)) (show w.heap.size ≤ wo.heap.size by omega)
          have hfin : Hid (Dsk (New w.heap.size W9) W9 (.agg #[.slice A1 k c1, .slice A2 j c2]) d) := Lib.hid (by
            have h1 := row1.rel stab_by
            have h2 := row2.rel stab_wt
            rw [htl.out, hd2.out] at h2
            rw [hn.out, ← hkn.out] at h1
            exact ⟨_, _, rfl, h1, h2⟩)
          have hfar : Hid (FarB W9 A1 ∧ FarB W9 A2) := Lib.hid ⟨row1.far (by decide), row2.far (by decide)⟩
          clear row1 row2 hrow hrw hz g9 gr9 s5 hgr
          go_wp2_with fail
          exact bodyPost_ret (v := .agg #[.slice A1 k c1, .slice A2 j c2]) (by simp [results, Try.results19, go_sem, k5, k6]) rfl ⟨A1, c1, A2, c2, by rw [hkn.out, hjm.out], by have h := hfin.out; rwa [hkn.out, hjm.out] at h, hfar.out.1, hfar.out.2, hB9⟩
theorem refTwin_any (v : Value) (d : Dk) (w : World) (hs : Small d) (h : Dsk (Old w) w v d) : Calls Try.prog 19 #[v] w fun e w' => ∃ u, e = .returned u ∧ Dsk (New w.heap.size w') w' u d ∧ Below w.heap.size w w' :=
  (refTwin_far v d w hs h).mono fun _ _ ⟨_, _, _, _, e, h1, _, _, h4⟩ => ⟨_, e, h1, h4⟩
theorem zero_box_cell {w : World} {g : Nat} {t : TypeId} {fr : Nat × Nat} (hz : w.heap[g]? = some (.cells #[.slice none 0 0, .slice none 0 0] t fr)) {p : Addr} {u : Value} (hp : p.block = g) (hc : w.cell? p = some u) : u = .slice none 0 0 := by
  unfold World.cell? at hc
  rw [hp, hz] at hc
  dsimp only at hc
  split at hc
  · cases hc
  · rcases hk : p.off with _ | _ | k
    · rw [hk] at hc
      exact (Option.some.inj hc).symm
    · rw [hk] at hc
      exact (Option.some.inj hc).symm
    · rw [hk] at hc
      simp at hc
theorem far_by {ok : Addr → Prop} {w : World} {g : Nat} {t : TypeId} {fr : Nat × Nat} (hz : w.heap[g]? = some (.cells #[.slice none 0 0, .slice none 0 0] t fr)) {cs : List Value} {x : List UInt8} (hx : rBy ok w cs x) : rBy (fun p => ok p ∧ p.block ≠ g) w cs x := by
  obtain ⟨A, cap, e, l1, m1, hc⟩ := hx
  refine ⟨A, cap, e, l1, m1, fun i y hy => ?_⟩
  obtain ⟨ad, vs, e1, e2, e3, e4⟩ := hc i y hy
  refine ⟨ad, vs, e1, e2, fun j v hj => ⟨⟨(e3 j v hj).1, fun eg => ?_⟩, (e3 j v hj).2⟩, e4⟩
  have hcell := (e3 j v hj).2
  have hv := zero_box_cell hz eg hcell
  unfold rU8 at e4
  subst e4
  have hj0 : j = 0 := by
    have := (List.getElem?_eq_some_iff.1 hj).1
    simp at this
    omega
  subst hj0
  cases hj
  cases hv
/-- A disk whose rows lie in no block of disks holds no cell of a disk's block of noughts. -/
theorem far_but {ok : Addr → Prop} {w : World} {X Y : Option Addr} {xc yc : Nat} {d : Dk} (h : Dsk ok w (.agg #[.slice X d.1.length xc, .slice Y d.2.length yc]) d) (h1 : FarB w X) (h2 : FarB w Y) {g : Nat} {fr : Nat × Nat}
    (hz : w.heap[g]? = some (.cells #[.slice none 0 0, .slice none 0 0] 31 fr)) : Dsk (fun p => ok p ∧ p.block ≠ g) w (.agg #[.slice X d.1.length xc, .slice Y d.2.length yc]) d := by
  obtain ⟨p1, p2⟩ := h.parts
  obtain ⟨A, cap, e, l1, m1, hA⟩ := p1
  obtain ⟨B, cap2, e', l2, m2, hB⟩ := p2
  have eX : X = A := by cases e; rfl
  have eY : Y = B := by cases e'; rfl
  have n1 : ∀ ad : Addr, A = some ad → ∀ k, (ad.add k).block ≠ g := fun ad ea k eg => (h1 g (by rw [eX, ea]; simpa [add_block] using eg)).2 _ _ hz
  have n2 : ∀ ad : Addr, B = some ad → ∀ k, (ad.add k).block ≠ g := fun ad ea k eg => (h2 g (by rw [eY, ea]; simpa [add_block] using eg)).2 _ _ hz
  refine ⟨_, _, rfl, ⟨A, cap, e, l1, m1, fun i x hx => ?_⟩, ⟨B, cap2, e', l2, m2, fun i x hx => ?_⟩⟩
  · obtain ⟨ad, vs, e1, e2, e3, e4⟩ := hA i x hx
    exact ⟨ad, vs, e1, e2, fun j v hj => ⟨⟨(e3 j v hj).1, n1 ad e1 _⟩, (e3 j v hj).2⟩, far_by hz e4⟩
  · obtain ⟨ad, vs, e1, e2, e3, e4⟩ := hB i x hx
    obtain ⟨u, rfl, k1, k2, hu⟩ := rWt_open e4
    exact ⟨ad, _, e1, e2, fun j v hj => ⟨⟨(e3 j v hj).1, n2 ad e1 _⟩, (e3 j v hj).2⟩, rWt_mk k1 k2 (far_by hz hu)⟩
end Go.Proofs.Ytkklkhnoljmgbaa

/-
  The law's own spoil (layer 3): every byte of a disk of the call's own is turned; what lies below stays. Condition: the disk's cells lie at lo and above and may be written.
-/
namespace Go.Proofs.Ytkklkhnoljmgbaa
open Go.RowKit

structure Spoilt (lo : Nat) (w wr : World) : Prop where
  low : Below lo w wr
  fro : ∀ p : Addr, p.block < w.heap.size → wr.frozen? p = w.frozen? p
  rest : ∀ (p : Addr) (v : Value), p.block < w.heap.size → w.cell? p = some v → (∀ x, v ≠ .int .u8 x) → wr.cell? p = some v
  byte : ∀ (p : Addr) (x : UInt8), p.block < w.heap.size → w.cell? p = some (.int .u8 (x.toNat : Int)) → ∃ y : UInt8, wr.cell? p = some (.int .u8 (y.toNat : Int))
theorem Spoilt.refl (lo : Nat) (w : World) : Spoilt lo w w := ⟨Below.refl _ _, fun _ _ => rfl, fun _ _ _ h _ => h, fun _ x _ h => ⟨x, h⟩⟩
theorem Spoilt.step {lo : Nat} {w wr : World} (h : Spoilt lo w wr) {p : Addr} (hp : lo ≤ p.block) {x : UInt8} (hx : wr.cell? p = some (.int .u8 (x.toNat : Int))) (y : UInt8) : Spoilt lo w (wr.setCell p (.int .u8 (y.toNat : Int))) := by
  refine ⟨h.low.setCell hp _, fun q hq => by rw [World.frozen?_setCell]; exact h.fro q hq, fun q v hq hc hv => ?_, fun q z hq hc => ?_⟩
  · have h1 := h.rest q v hq hc hv
    rw [World.cell?_setCell_other _ _ _ _ (fun e => by
      subst e
      rw [h1] at hx
      exact hv _ (Option.some.inj hx))]
    exact h1
  · by_cases e : p = q
    · subst e
      exact ⟨y, World.cell?_setCell_same _ _ _ hx⟩
    · rw [World.cell?_setCell_other _ _ _ _ e]
      exact h.byte q z hq hc
theorem Spoilt.drew {lo : Nat} {w wr : World} (h : Spoilt lo w wr) : Spoilt lo w wr.drew :=
  ⟨h.low.drew, fun p hp => by simpa using h.fro p hp, fun p v hp hc hv => by simpa using h.rest p v hp hc hv, fun p x hp hc => by simpa using h.byte p x hp hc⟩
theorem Spoilt.after {lo : Nat} {w w0 wr : World} (h : Spoilt lo w0 wr) (hlo : lo ≤ w.heap.size) (hb : Below w.heap.size w w0) : Spoilt lo w wr :=
  ⟨(hb.mono hlo).trans h.low, fun p hp => (h.fro p (Nat.lt_of_lt_of_le hp hb.size)).trans (hb.frozen hp), fun p v hp hc hv => h.rest p v (Nat.lt_of_lt_of_le hp hb.size) ((hb.cell hp).trans hc) hv, fun p x hp hc => h.byte p x (Nat.lt_of_lt_of_le hp hb.size) ((hb.cell hp).trans hc)⟩
theorem Spoilt.new {lo lo' : Nat} {w wr : World} (h : Spoilt lo w wr) {p : Addr} (hp : New lo' w p) : New lo' wr p := ⟨hp.1, Nat.lt_of_lt_of_le hp.2.1 h.low.size, (h.fro p hp.2.1).trans hp.2.2⟩
theorem Spoilt.by {lo lo' : Nat} {w wr : World} {v : Value} {xs : List UInt8} (h : Spoilt lo w wr) (hx : rBy (New lo' w) w [v] xs) : ∃ ys : List UInt8, ys.length = xs.length ∧ rBy (New lo' wr) wr [v] ys := by
  obtain ⟨A, cap, h1, h2, h3, h4⟩ := hx
  obtain ⟨ys, hl, hy⟩ := list_of (n := xs.length) (p := fun i y => ∃ ad vs, A = some ad ∧ vs.length = 1 ∧ (∀ j v, vs[j]? = some v → New lo' wr (ad.add (i * 1 + j)) ∧ wr.cell? (ad.add (i * 1 + j)) = some v) ∧ rU8 (New lo' wr) wr vs y) (fun i hi => by
    obtain ⟨ad, vs, e1, e2, e3, e4⟩ := h4 i _ (List.getElem?_eq_getElem hi)
    unfold rU8 at e4
    subst e4
    obtain ⟨k1, k2⟩ := e3 0 _ rfl
    obtain ⟨y, hy⟩ := h.byte _ _ k1.2.1 k2
    refine ⟨y, ad, [.int .u8 (y.toNat : Int)], e1, rfl, fun j v hj => ?_, rfl⟩
    have hj0 : j = 0 := by
      have := (List.getElem?_eq_some_iff.1 hj).1
      simp at this
      omega
    subst hj0
    cases hj
    exact ⟨h.new k1, hy⟩)
  exact ⟨ys, hl, A, cap, by rw [hl]; exact h1, by rw [hl]; exact h2, h3, fun i y hi => hy i y hi⟩
/-- What is spoilt is a disk all the same. -/
theorem Spoilt.dsk {lo lo' : Nat} {w wr : World} {v : Value} {d : Dk} (h : Spoilt lo w wr) (hd : Dsk (New lo' w) w v d) : ∃ d', Dsk (New lo' wr) wr v d' := by
  obtain ⟨a, b, e, ⟨A, c, a1, a2, a3, a4⟩, ⟨B, c', b1, b2, b3, b4⟩⟩ := hd
  have keep : ∀ (ad : Addr) (k : Nat) (E : Option Addr) (n c : Nat), New lo' w (ad.add k) → w.cell? (ad.add k) = some (.slice E n c) → New lo' wr (ad.add k) ∧ wr.cell? (ad.add k) = some (.slice E n c) := fun ad k E n c k1 k2 => ⟨h.new k1, h.rest _ _ k1.2.1 k2 (by simp)⟩
  obtain ⟨xs, hl, hx⟩ := list_of (n := d.1.length) (p := fun i y => ∃ ad vs, A = some ad ∧ vs.length = 1 ∧ (∀ j v, vs[j]? = some v → New lo' wr (ad.add (i * 1 + j)) ∧ wr.cell? (ad.add (i * 1 + j)) = some v) ∧ rBy (New lo' wr) wr vs y) (fun i hi => by
    obtain ⟨ad, vs, e1, e2, e3, e4⟩ := a4 i _ (List.getElem?_eq_getElem hi)
    match vs, e2 with
    | [u], _ =>
      obtain ⟨ys, _, hy⟩ := h.by e4
      refine ⟨ys, ad, [u], e1, rfl, fun j v hj => ?_, hy⟩
      have hj0 : j = 0 := by
        have := (List.getElem?_eq_some_iff.1 hj).1
        simp at this
        omega
      subst hj0
      cases hj
      obtain ⟨k1, k2⟩ := e3 0 _ rfl
      obtain ⟨E, ce, rfl, _⟩ := rBy_open e4
      exact keep _ _ _ _ _ k1 k2)
  obtain ⟨ws, hl2, hx2⟩ := list_of (n := d.2.length) (p := fun i (y : Wt) => ∃ ad vs, B = some ad ∧ vs.length = 2 ∧ (∀ j v, vs[j]? = some v → New lo' wr (ad.add (i * 2 + j)) ∧ wr.cell? (ad.add (i * 2 + j)) = some v) ∧ rWt (New lo' wr) wr vs y) (fun i hi => by
    obtain ⟨ad, vs, e1, e2, e3, e4⟩ := b4 i _ (List.getElem?_eq_getElem hi)
    obtain ⟨u, rfl, n1, n2, hu⟩ := rWt_open e4
    obtain ⟨ys, _, hy⟩ := h.by hu
    refine ⟨(d.2[i].1, ys), ad, _, e1, e2, fun j v hj => ?_, rWt_mk n1 n2 hy⟩
    match j, hj with
    | 0, hj =>
      cases hj
      obtain ⟨k1, k2⟩ := e3 0 _ rfl
      exact ⟨h.new k1, h.rest _ _ k1.2.1 k2 (by simp)⟩
    | 1, hj =>
      cases hj
      obtain ⟨k1, k2⟩ := e3 1 _ rfl
      obtain ⟨E, ce, rfl, _⟩ := rBy_open hu
      exact keep _ _ _ _ _ k1 k2)
  exact ⟨(xs, ws), a, b, e, ⟨A, c, by rw [hl]; exact a1, by rw [hl]; exact a2, a3, hx⟩, ⟨B, c', by rw [hl2]; exact b1, by rw [hl2]; exact b2, b3, hx2⟩⟩
theorem u8_succ3 (p : UInt8) : IntKind.u8.wrap ((p.toNat : Int) + 1) = ((p + 1).toNat : Int) := by
  rw [IntKind.wrap_u8', UInt8.toNat_add]
  simp

end Go.Proofs.Ytkklkhnoljmgbaa

/-
  Package dev at whatever arguments, its answers in new memory; a bag of facts that stay where memory grows. Conditions: those that each lemma states.
-/
namespace Go.Proofs.Ytkklkhnoljmgbaa
open Go.RowKit

theorem rBy_none_new (lo : Nat) (w : World) : rBy (New lo w) w [.slice none 0 0] [] := ⟨none, 0, rfl, by simp, by omega, fun i x h => by simp at h⟩
theorem read_all (v : Value) (d : Dk) (n : Int) (w : World) (h : Dsk (Old w) w v d) :
    Calls Try.prog 34 #[v, .int .i64 n] w fun e w' => ∃ u, e = .returned (.tuple #[u, .int .i64 (chkAt d n)]) ∧ rBy (New w.heap.size w') w' [u] (rdX d n) ∧ Below w.heap.size w w' := by
  by_cases hn : mayB d = true ∧ thereB n = true
  · obtain ⟨hm, ht⟩ := hn
    have e0 : chkAt d n = 0 := by simp [chkAt, hm, ht]
    obtain ⟨k, rfl, hk⟩ := thereB_nat ht
    refine (read_ok v d k w h hm hk).mono ?_
    rintro e w' ⟨u, rfl, hu, hb⟩
    have e1 : rdX d (k : Int) = seenD d k := by simp [rdX, e0]
    rw [e0, e1]
    exact ⟨u, rfl, hu, hb⟩
  · refine (read_bad v d n w h hn).mono ?_
    rintro e w' ⟨rfl, hb⟩
    have e0 : chkAt d n ≠ 0 := by
      unfold chkAt
      cases h1 : mayB d <;> cases h2 : thereB n <;> simp_all
    have e1 : rdX d n = [] := by simp [rdX, e0]
    rw [e1]
    exact ⟨_, rfl, rBy_none_new _ _, hb⟩
theorem write_all (v u : Value) (d : Dk) (n : Int) (xs : List UInt8) (w : World) (h : Dsk (Old w) w v d) (hu : rBy (Old w) w [u] xs) :
    Calls Try.prog 33 #[v, .int .i64 n, u] w fun e w' => ∃ x, e = .returned (.tuple #[x, .int .i64 (wErr d n xs)]) ∧ Dsk (New w.heap.size w') w' x (wrR d n xs) ∧ Below w.heap.size w w' :=
  (write_new v u d n xs w h hu).mono fun _ _ ⟨_, _, _, _, e, hx, hb⟩ => ⟨_, e, hx, hb⟩
/-! ### A bag of facts -/
/-- It stays where memory grows. -/
def Lasts (F : World → Prop) : Prop := ∀ w w', F w → Below w.heap.size w w' → F w'
def Bag (w : World) (Fs : List (World → Prop)) : Prop := ∀ F ∈ Fs, F w ∧ Lasts F
section
variable {w w' : World} {Fs : List (World → Prop)} {F : World → Prop}
theorem Bag.nil (w : World) : Bag w [] := fun F h => by cases h
theorem Bag.below (h : Bag w Fs) (hb : Below w.heap.size w w') : Bag w' Fs := fun F hF => ⟨(h F hF).2 w w' (h F hF).1 hb, (h F hF).2⟩
theorem Bag.add (h : Bag w Fs) (hF : F w) (hk : Lasts F) : Bag w (F :: Fs) := fun G hG => by
  rcases List.mem_cons.1 hG with h1 | h1
  · rw [h1]
    exact ⟨hF, hk⟩
  · exact h G h1
theorem Bag.at (h : Bag w Fs) (i : Nat) (hi : Fs[i]? = some F) : F w := (h F (List.mem_of_getElem? hi)).1
end
/-- Two cells that are a box. -/
def Box2 (g : Nat) (a b : Value) : World → Prop := fun w => w.cell? ⟨g, 0, none⟩ = some a ∧ w.cell? ⟨g, 1, none⟩ = some b ∧ g < w.heap.size
theorem lasts_box (g : Nat) (a b : Value) : Lasts (Box2 g a b) := fun _ _ h hb => ⟨(hb.cell (p := ⟨g, 0, none⟩) h.2.2).trans h.1, (hb.cell (p := ⟨g, 1, none⟩) h.2.2).trans h.2.1, Nat.lt_of_lt_of_le h.2.2 hb.size⟩
theorem Spoilt.box {lo : Nat} {w wr : World} (h : Spoilt lo w wr) {g : Nat} {A B : Option Addr} {n c m e : Nat} (hb : Box2 g (.slice A n c) (.slice B m e) w) : Box2 g (.slice A n c) (.slice B m e) wr :=
  ⟨h.rest ⟨g, 0, none⟩ _ hb.2.2 hb.1 (by simp), h.rest ⟨g, 1, none⟩ _ hb.2.2 hb.2.1 (by simp), Nat.lt_of_lt_of_le hb.2.2 h.low.size⟩
def OldD (v : Value) (d : Dk) : World → Prop := fun w => Dsk (Old w) w v d
def NewD (lo : Nat) (v : Value) (d : Dk) : World → Prop := fun w => Dsk (New lo w) w v d
def OldB (v : Value) (xs : List UInt8) : World → Prop := fun w => rBy (Old w) w [v] xs
def NewB (lo : Nat) (v : Value) (xs : List UInt8) : World → Prop := fun w => rBy (New lo w) w [v] xs
def OldK (v : Value) (ks : List Bool) : World → Prop := fun w => rSl 1 rBool (Old w) w [v] ks
theorem lasts_oldD (v : Value) (d : Dk) : Lasts (OldD v d) := fun _ _ h hb => h.below hb
theorem lasts_newD (lo : Nat) (v : Value) (d : Dk) : Lasts (NewD lo v d) := fun _ _ h hb => h.new (Nat.le_refl _) hb
theorem lasts_oldB (v : Value) (xs : List UInt8) : Lasts (OldB v xs) := fun _ _ h hb => stab_by.old h hb
theorem lasts_newB (lo : Nat) (v : Value) (xs : List UInt8) : Lasts (NewB lo v xs) := fun _ _ h hb => stab_by.new h (Nat.le_refl _) hb
theorem lasts_oldK (v : Value) (ks : List Bool) : Lasts (OldK v ks) := fun _ _ h hb => (stab_sl stab_bool).old h hb
def SizeF (lo : Nat) : World → Prop := fun w => lo ≤ w.heap.size
theorem lasts_size (lo : Nat) : Lasts (SizeF lo) := fun _ _ h hb => Nat.le_trans h hb.size
/-- A box that is just made. -/
theorem bag_box {w w1 : World} {Fs : List (World → Prop)} (h : Bag w Fs) (hb : Below w.heap.size w w1) (a b : Value) : ∃ w', w1.alloc (.cells #[a, b] 31) = w' ∧ Bag w' (Box2 w1.heap.size a b :: Fs) ∧ Below w.heap.size w w' ∧ Below w1.heap.size w1 w' ∧ w1.heap.size < w'.heap.size := by
  obtain ⟨w2, e2, k1, k2, k3, k4⟩ := box_pair w1 a b 31
  exact ⟨w2, e2, ((h.below hb).below k4).add ⟨k1, k2, by omega⟩ (lasts_box _ _ _), hb.trans (k4.mono hb.size), k4, by omega⟩
end Go.Proofs.Ytkklkhnoljmgbaa

/-
  Package count: Up, Down, Sum, and the document's. Conditions: those that each lemma states.
-/
namespace Go.Proofs.Ytkklkhnoljmgbaa
open Go.RowKit

/-! ### Counts that are turned -/
def inT (n : Int) : Bool := decide (8 ≤ n) && decide (n < 256)
def turnE (t : List UInt8) (n : Int) (x : UInt8) : Int := if mayT t then (if inT n then (if t[n.toNat]?.getD 0 = x then 70 else 0) else 2) else 8
def upE (t : List UInt8) (n : Int) : Int := turnE t n 255
def dnE (t : List UInt8) (n : Int) : Int := turnE t n 0
def upV (t : List UInt8) (n : Int) : List UInt8 := if upE t n = 0 then t.set n.toNat (t[n.toNat]?.getD 0 + 1) else []
def dnV (t : List UInt8) (n : Int) : List UInt8 := if dnE t n = 0 then t.set n.toNat (t[n.toNat]?.getD 0 - 1) else []
theorem turnE_bad {t : List UInt8} {n : Int} {x : UInt8} (h : mayT t = false) : turnE t n x = 8 := by simp [turnE, h]
theorem turnE_out {t : List UInt8} {n : Int} {x : UInt8} (h : mayT t = true) (h' : inT n = false) : turnE t n x = 2 := by simp [turnE, h, h']
theorem turnE_end {t : List UInt8} {n : Int} {x : UInt8} (h : mayT t = true) (h' : inT n = true) (h2 : t[n.toNat]?.getD 0 = x) : turnE t n x = 70 := by simp [turnE, h, h', h2]
theorem turnE_ok {t : List UInt8} {n : Int} {x : UInt8} (h : mayT t = true) (h' : inT n = true) (h2 : t[n.toNat]?.getD 0 ≠ x) : turnE t n x = 0 := by simp [turnE, h, h', h2]
theorem inT_nat {n : Int} (h : inT n = true) : ∃ k : Nat, n = k ∧ 8 ≤ k ∧ k < 256 := by
  simp only [inT, Bool.and_eq_true, decide_eq_true_eq] at h
  exact ⟨n.toNat, by omega, by omega, by omega⟩
theorem inT_of {k : Nat} (h : 8 ≤ k) (h' : k < 256) : inT (k : Int) = true := by
  simp only [inT, Bool.and_eq_true, decide_eq_true_eq]
  omega
theorem inT_no {n : Int} (h : inT n = false) : n < 8 ∨ 256 ≤ n := by
  simp only [inT, Bool.and_eq_false_iff, decide_eq_false_iff_not] at h
  omega
/-- The four ways of a turn. -/
theorem turn_ways (t : List UInt8) (n : Int) (x : UInt8) : (mayT t = false ∧ turnE t n x = 8) ∨ (mayT t = true ∧ (n < 8 ∨ 256 ≤ n) ∧ turnE t n x = 2) ∨ (∃ k : Nat, mayT t = true ∧ n = k ∧ 8 ≤ k ∧ k < 256 ∧ t[k]?.getD 0 = x ∧ turnE t n x = 70) ∨
    (∃ k : Nat, mayT t = true ∧ n = k ∧ 8 ≤ k ∧ k < 256 ∧ t[k]?.getD 0 ≠ x ∧ turnE t n x = 0) := by
  cases hm : mayT t with
  | false => exact .inl ⟨rfl, turnE_bad hm⟩
  | true =>
    cases hi : inT n with
    | false => exact .inr (.inl ⟨rfl, inT_no hi, turnE_out hm hi⟩)
    | true =>
      obtain ⟨k, rfl, h1, h2⟩ := inT_nat hi
      by_cases hx : t[k]?.getD 0 = x
      · exact .inr (.inr (.inl ⟨k, rfl, rfl, h1, h2, hx, turnE_end hm hi hx⟩))
      · exact .inr (.inr (.inr ⟨k, rfl, rfl, h1, h2, hx, turnE_ok hm hi hx⟩))
theorem byte_same {x y : UInt8} {q : Int} (hy : (y.toNat : Int) = q) (h : x = y) : ((x.toNat : Int) == q) = true := by subst h; simpa using hy
theorem byte_unlike {x y : UInt8} {q : Int} (hy : (y.toNat : Int) = q) (h : x ≠ y) : ((x.toNat : Int) == q) = false := by
  cases he : (x.toNat : Int) == q with
  | false => rfl
  | true => exact absurd (UInt8.toNat.inj (by have := beq_iff_eq.1 he; omega)) h

set_option maxRecDepth 100000 in
set_option maxHeartbeats 2000000 in
theorem checkTurn_any (v : Value) (t : List UInt8) (n : Int) (x : UInt8) (q : Int) (hx : (x.toNat : Int) = q) (w : World) (h : rBy (Old w) w [v] t) :
    Calls Try.prog 28 #[v, .int .i64 n, .int .u8 q] w fun e w' => e = .returned (.int .i64 (turnE t n x)) ∧ w = w' := by
  obtain ⟨A, c, rfl, l1, m1, hb⟩ := rBy_byt (B := w.heap.size) (fun _ h => h) h
  replace hb := Lib.hid hb
  clear h
  rcases turn_ways t n x with ⟨hm, he⟩ | ⟨hm, hn, he⟩ | ⟨k, hm, rfl, h8, h256, hk, he⟩ | ⟨k, hm, rfl, h8, h256, hk, he⟩
  · replace he := Lib.hid he
    have hc := Lib.hid (chkT_bad hm)
    replace hm := Lib.hid hm
    clear hx
    go_enter Try.func28, Try.ntmps28
    go_wp2_with fail
    with_reducible refine (checkT_any A t.length c t (Lib.hid rfl) l1 m1 _ hb.out).mono ?_
    rintro e w1 ⟨rfl, rfl⟩
    rw [hc.out]
    go_wp2_with fail
    go_ret
    exact ⟨ret_int he.out.symm, rfl⟩
  · replace he := Lib.hid he
    have hc := Lib.hid (chkT_ok hm)
    replace hm := Lib.hid hm
    clear hx
    by_cases h8 : n < 8
    · go_enter Try.func28, Try.ntmps28
      go_wp2_with fail
      with_reducible refine (checkT_any A t.length c t (Lib.hid rfl) l1 m1 _ hb.out).mono ?_
      rintro e w1 ⟨rfl, rfl⟩
      rw [hc.out]
      go_wp2_with fail
      go_ret
      exact ⟨ret_int he.out.symm, rfl⟩
    · have h9 : 256 ≤ n := by omega
      clear hn
      go_enter Try.func28, Try.ntmps28
      go_wp2_with fail
      with_reducible refine (checkT_any A t.length c t (Lib.hid rfl) l1 m1 _ hb.out).mono ?_
      rintro e w1 ⟨rfl, rfl⟩
      rw [hc.out]
      go_wp2_with fail
      go_ret
      exact ⟨ret_int he.out.symm, rfl⟩
  · replace he := Lib.hid he
    have hl := Lib.hid (mayT_len hm)
    have hc := Lib.hid (chkT_ok hm)
    replace hm := Lib.hid hm
    obtain ⟨ad, rfl, _, hcc⟩ := hb.out (by rw [hl.out]; omega)
    have hcell := hcc k (by rw [hl.out]; omega)
    obtain ⟨y, hy⟩ : ∃ y, t[k]?.getD 0 = y := ⟨_, rfl⟩
    rw [hy] at hcell hk
    have t0 := byte_same hx hk
    replace hy := Lib.hid hy
    have i1 : ¬ (k : Int) < 8 := by omega
    have i2 : ¬ 256 ≤ (k : Int) := by omega
    have i3 : k < t.length := by rw [hl.out]; exact h256
    clear hcc hk hx
    go_enter Try.func28, Try.ntmps28
    go_wp2_with fail
    with_reducible refine (checkT_any (some ad) t.length c t (Lib.hid rfl) l1 m1 _ hb.out).mono ?_
    rintro e w1 ⟨rfl, rfl⟩
    rw [hc.out]
    go_wp2_with fail
    go_ret
    exact ⟨ret_int he.out.symm, rfl⟩
  · replace he := Lib.hid he
    have hl := Lib.hid (mayT_len hm)
    have hc := Lib.hid (chkT_ok hm)
    replace hm := Lib.hid hm
    obtain ⟨ad, rfl, _, hcc⟩ := hb.out (by rw [hl.out]; omega)
    have hcell := hcc k (by rw [hl.out]; omega)
    obtain ⟨y, hy⟩ : ∃ y, t[k]?.getD 0 = y := ⟨_, rfl⟩
    rw [hy] at hcell hk
    have t0 := byte_unlike hx hk
    replace hy := Lib.hid hy
    have i1 : ¬ (k : Int) < 8 := by omega
    have i2 : ¬ 256 ≤ (k : Int) := by omega
    have i3 : k < t.length := by rw [hl.out]; exact h256
    clear hcc hk hx
    go_enter Try.func28, Try.ntmps28
    go_wp2_with fail
    with_reducible refine (checkT_any (some ad) t.length c t (Lib.hid rfl) l1 m1 _ hb.out).mono ?_
    rintro e w1 ⟨rfl, rfl⟩
    rw [hc.out]
    go_wp2_with fail
    go_ret
    exact ⟨ret_int he.out.symm, rfl⟩

theorem up_byte {x : UInt8} (h : x ≠ 255) : ((x.toNat : Int) + 1 = ((x + 1).toNat : Int)) ∧ (x.toNat : Int) + 1 ≤ 255 ∧ 0 ≤ (x.toNat : Int) := by
  have h2 : x.toNat ≠ 255 := fun e => h (UInt8.toNat.inj e)
  have h3 := x.toNat_lt
  have : (x + 1).toNat = x.toNat + 1 := by rw [UInt8.toNat_add]; simp; omega
  omega
theorem dn_byte {x : UInt8} (h : x ≠ 0) : ((x.toNat : Int) - 1 = ((x - 1).toNat : Int)) ∧ (x.toNat : Int) ≤ 255 ∧ 0 ≤ (x.toNat : Int) - 1 := by
  have h2 : x.toNat ≠ 0 := fun e => h (UInt8.toNat.inj e)
  have h3 := x.toNat_lt
  have : (x - 1).toNat = x.toNat - 1 := by rw [UInt8.toNat_sub_of_le]; rfl; exact UInt8.le_iff_toNat_le.2 (by show 1 ≤ x.toNat; omega)
  omega

set_option maxRecDepth 100000 in
set_option maxHeartbeats 2000000 in
theorem up_any (v : Value) (t : List UInt8) (n : Int) (w : World) (h : rBy (Old w) w [v] t) :
    Calls Try.prog 12 #[v, .int .i64 n] w fun e w' => ∃ u, e = .returned (.tuple #[u, .int .i64 (upE t n)]) ∧ rBy (New w.heap.size w') w' [u] (upV t n) ∧ Below w.heap.size w w' := by
  have h' := Lib.hid h
  by_cases he : upE t n = 0
  · obtain ⟨k, hm, rfl, h8, h256, hk⟩ : ∃ k : Nat, mayT t = true ∧ n = k ∧ 8 ≤ k ∧ k < 256 ∧ t[k]?.getD 0 ≠ 255 := by
      rcases turn_ways t n 255 with ⟨_, h2⟩ | ⟨_, _, h2⟩ | ⟨k, _, _, _, _, _, h2⟩ | ⟨k, hm, hn, h8, h256, hk, h2⟩
      · rw [upE, h2] at he; cases he
      · rw [upE, h2] at he; cases he
      · rw [upE, h2] at he; cases he
      · exact ⟨k, hm, hn, h8, h256, hk⟩
    have hl := mayT_len hm
    have hr : Hid (upV t (k : Int) = t.set k (t[k]?.getD 0 + 1)) := Lib.hid (by simp [upV, he])
    obtain ⟨A, c, rfl, l1, m1, hb⟩ := rBy_byt (B := w.heap.size) (fun _ h => h) h
    obtain ⟨hu, hu1, hu2⟩ := up_byte hk
    replace hb := Lib.hid hb
    replace hl := Lib.hid hl
    replace he := Lib.hid he
    replace hu := Lib.hid hu
    clear hk h
    go_enter Try.func12, Try.ntmps12
    go_wp2_with fail
    with_reducible refine (checkTurn_any _ t (k : Int) 255 255 rfl _ h'.out).mono ?_
    rintro e w1 ⟨rfl, rfl⟩
    rw [show turnE t (k : Int) 255 = 0 from he.out]
    go_wp2_with fail
    with_reducible refine (clone_any A t.length c t (Lib.hid rfl) (by rw [hl.out]; omega) _ hb.out).mono ?_
    rintro e w2 ⟨u, rfl, hu3, hb2⟩
    obtain ⟨g, c2, rfl, hg1, hg2, hg3, hg4⟩ := own_head hu3 (by rw [hl.out]; omega)
    have hcell := own_cell hu3 (j := k) (by rw [hl.out]; exact h256)
    have hfr : w2.frozen? ⟨g, k, none⟩ = false := by
      have := own_free hu3 k
      rwa [show (⟨g, 0, none⟩ : Addr).add k = ⟨g, k, none⟩ by simp [add_off]] at this
    have hset := Lib.hid (own_set hu3 k (t[k]?.getD 0 + 1))
    have i3 : k < t.length := by rw [hl.out]; exact h256
    generalize t[k]?.getD 0 = x at *
    replace hu3 := Lib.hid hu3
    go_wp2_with fail
    go_ret2
    rw [hr.out, he.out]
    rw [hu.out]
    exact ⟨_, rfl, own_by hset.out, hb2.setCell hg1 _⟩
  · have hr : Hid (upV t n = []) := Lib.hid (by simp [upV, he])
    obtain ⟨q, hq⟩ : ∃ q, upE t n = q := ⟨_, rfl⟩
    have hq0 : (q != 0) = true := by rw [← hq]; simpa using he
    replace hq := Lib.hid hq
    clear h he
    go_enter Try.func12, Try.ntmps12
    go_wp2_with fail
    with_reducible refine (checkTurn_any _ t n 255 255 rfl _ h'.out).mono ?_
    rintro e w1 ⟨rfl, rfl⟩
    rw [show turnE t n 255 = q from hq.out]
    go_wp2_with fail
    go_ret2
    rw [hr.out, hq.out]
    exact ⟨_, rfl, rBy_none_new _ _, Below.refl _ _⟩
set_option maxRecDepth 100000 in
set_option maxHeartbeats 2000000 in
theorem down_any (v : Value) (t : List UInt8) (n : Int) (w : World) (h : rBy (Old w) w [v] t) :
    Calls Try.prog 10 #[v, .int .i64 n] w fun e w' => ∃ u, e = .returned (.tuple #[u, .int .i64 (dnE t n)]) ∧ rBy (New w.heap.size w') w' [u] (dnV t n) ∧ Below w.heap.size w w' := by
  have h' := Lib.hid h
  by_cases he : dnE t n = 0
  · obtain ⟨k, hm, rfl, h8, h256, hk⟩ : ∃ k : Nat, mayT t = true ∧ n = k ∧ 8 ≤ k ∧ k < 256 ∧ t[k]?.getD 0 ≠ 0 := by
      rcases turn_ways t n 0 with ⟨_, h2⟩ | ⟨_, _, h2⟩ | ⟨k, _, _, _, _, _, h2⟩ | ⟨k, hm, hn, h8, h256, hk, h2⟩
      · rw [dnE, h2] at he; cases he
      · rw [dnE, h2] at he; cases he
      · rw [dnE, h2] at he; cases he
      · exact ⟨k, hm, hn, h8, h256, hk⟩
    have hl := mayT_len hm
    have hr : Hid (dnV t (k : Int) = t.set k (t[k]?.getD 0 - 1)) := Lib.hid (by simp [dnV, he])
    obtain ⟨A, c, rfl, l1, m1, hb⟩ := rBy_byt (B := w.heap.size) (fun _ h => h) h
    obtain ⟨hu, hu1, hu2⟩ := dn_byte hk
    replace hb := Lib.hid hb
    replace hl := Lib.hid hl
    replace he := Lib.hid he
    replace hu := Lib.hid hu
    clear hk h
    go_enter Try.func10, Try.ntmps10
    go_wp2_with fail
    with_reducible refine (checkTurn_any _ t (k : Int) 0 0 rfl _ h'.out).mono ?_
    rintro e w1 ⟨rfl, rfl⟩
    rw [show turnE t (k : Int) 0 = 0 from he.out]
    go_wp2_with fail
    with_reducible refine (clone_any A t.length c t (Lib.hid rfl) (by rw [hl.out]; omega) _ hb.out).mono ?_
    rintro e w2 ⟨u, rfl, hu3, hb2⟩
    obtain ⟨g, c2, rfl, hg1, hg2, hg3, hg4⟩ := own_head hu3 (by rw [hl.out]; omega)
    have hcell := own_cell hu3 (j := k) (by rw [hl.out]; exact h256)
    have hfr : w2.frozen? ⟨g, k, none⟩ = false := by
      have := own_free hu3 k
      rwa [show (⟨g, 0, none⟩ : Addr).add k = ⟨g, k, none⟩ by simp [add_off]] at this
    have hset := Lib.hid (own_set hu3 k (t[k]?.getD 0 - 1))
    have i3 : k < t.length := by rw [hl.out]; exact h256
    generalize t[k]?.getD 0 = x at *
    replace hu3 := Lib.hid hu3
    go_wp2_with fail
    go_ret2
    rw [hr.out, he.out]
    rw [hu.out]
    exact ⟨_, rfl, own_by hset.out, hb2.setCell hg1 _⟩
  · have hr : Hid (dnV t n = []) := Lib.hid (by simp [dnV, he])
    obtain ⟨q, hq⟩ : ∃ q, dnE t n = q := ⟨_, rfl⟩
    have hq0 : (q != 0) = true := by rw [← hq]; simpa using he
    replace hq := Lib.hid hq
    clear h he
    go_enter Try.func10, Try.ntmps10
    go_wp2_with fail
    with_reducible refine (checkTurn_any _ t n 0 0 rfl _ h'.out).mono ?_
    rintro e w1 ⟨rfl, rfl⟩
    rw [show turnE t n 0 = q from hq.out]
    go_wp2_with fail
    go_ret2
    rw [hr.out, hq.out]
    exact ⟨_, rfl, rBy_none_new _ _, Below.refl _ _⟩

/-! ### Sums -/
def smV (t : List UInt8) : Nat := if mayT t then crc t else 0
set_option maxHeartbeats 2000000 in
theorem sumT_any (v : Value) (t : List UInt8) (w : World) (h : rBy (Old w) w [v] t) :
    Calls Try.prog 16 #[v] w fun e w' => e = .returned (.tuple #[.int .u32 (smV t : Nat), .int .i64 (chkT t)]) ∧ Below w.heap.size w w' := by
  obtain ⟨A, c, rfl, l1, m1, hb⟩ := rBy_byt (B := w.heap.size) (fun _ h => h) h
  replace hb := Lib.hid hb
  clear h
  cases hm : mayT t with
  | true =>
    have hc := Lib.hid (chkT_ok hm)
    have hs : Hid (smV t = crc t) := Lib.hid (by simp [smV, hm])
    clear hm
    go_enter Try.func16, Try.ntmps16
    go_wp2_with fail
    with_reducible refine (checkT_any A t.length c t (Lib.hid rfl) l1 m1 _ hb.out).mono ?_
    rintro e w1 ⟨rfl, rfl⟩
    rw [hc.out]
    go_wp2_with fail
    with_reducible refine (of_any A t.length c t (Lib.hid rfl) l1 m1 _ hb.out).mono ?_
    rintro e w2 ⟨rfl, hb2⟩
    go_wp2_with fail
    go_ret2
    rw [hs.out, hc.out]
    exact ⟨rfl, hb2⟩
  | false =>
    have hc := Lib.hid (chkT_bad hm)
    have hs : Hid (smV t = 0) := Lib.hid (by simp [smV, hm])
    clear hm
    go_enter Try.func16, Try.ntmps16
    go_wp2_with fail
    with_reducible refine (checkT_any A t.length c t (Lib.hid rfl) l1 m1 _ hb.out).mono ?_
    rintro e w1 ⟨rfl, rfl⟩
    rw [hc.out]
    go_wp2_with fail
    go_ret2
    rw [hs.out, hc.out]
    exact ⟨rfl, Below.refl _ _⟩
end Go.Proofs.Ytkklkhnoljmgbaa

/-
  Package count: sides, and what is written on them, plain; checkSide, firstOf. Conditions: those that each lemma states.
-/
namespace Go.Proofs.Ytkklkhnoljmgbaa
open Go.RowKit

def sideB (s : Int) : Bool := decide (s = 0) || decide (s = 1)
def csE (d : Dk) (s : Int) : Int := if mayB d then (if sideB s then 0 else 2) else 8
/-- What Write tells, and leaves. -/
def cwE (d : Dk) (s : Int) (t : List UInt8) : Int := if mayB d then (if sideB s then (if mayT t then (if wErr d (4 + 2 * s) (t.take 128) = 0 then wErr (wrR d (4 + 2 * s) (t.take 128)) (5 + 2 * s) (t.drop 128) else wErr d (4 + 2 * s) (t.take 128)) else 8) else 2) else 8
def cwR (d : Dk) (s : Int) (t : List UInt8) : Dk := if cwE d s t = 0 then wrR (wrR d (4 + 2 * s) (t.take 128)) (5 + 2 * s) (t.drop 128) else emptyD
/-- What Read tells. -/
def sdV (d : Dk) (s : Int) : List UInt8 := seenD d (4 + 2 * s).toNat ++ seenD d (5 + 2 * s).toNat
def crE (d : Dk) (s : Int) : Int := if mayB d then (if sideB s then (if mayT (sdV d s) then 0 else 8) else 2) else 8
def crV (d : Dk) (s : Int) : List UInt8 := if crE d s = 0 then sdV d s else []
theorem side_ways {s : Int} (h : sideB s = true) : s = 0 ∨ s = 1 := by simpa [sideB] using h
theorem side_no {s : Int} (h : sideB s = false) : s ≠ 0 ∧ s ≠ 1 := by simpa [sideB] using h

set_option maxHeartbeats 1000000 in
theorem checkSide_any (v : Value) (d : Dk) (n : Int) (w : World) (h : Dsk (Old w) w v d) : Calls Try.prog 30 #[v, .int .i64 n] w fun e w' => e = .returned (.int .i64 (csE d n)) ∧ Below w.heap.size w w' := by
  obtain ⟨a, b, rfl, _⟩ := id h
  have hB := balloc (Below.refl w.heap.size w) (.cells #[a, b] 31)
  have H := Lib.hid (h.below hB)
  clear h
  cases hm : mayB d with
  | true =>
    have hc := Lib.hid (chk_ok hm)
    cases ht : sideB n with
    | true =>
      have hr : Hid (csE d n = 0) := Lib.hid (by simp [csE, hm, ht])
      replace hm := Lib.hid hm
      rcases side_ways ht with rfl | rfl
      · clear ht
        go_enter Try.func30, Try.ntmps30
        go_wp2_with fail
        refine (check_any _ d _ H.out).mono ?_
        rintro e w1 ⟨rfl, hb1⟩
        rw [hc.out]
        go_wp2_with fail
        go_ret
        exact ⟨ret_int hr.out.symm, hB.trans (hb1.mono hB.size)⟩
      · clear ht
        go_enter Try.func30, Try.ntmps30
        go_wp2_with fail
        refine (check_any _ d _ H.out).mono ?_
        rintro e w1 ⟨rfl, hb1⟩
        rw [hc.out]
        go_wp2_with fail
        go_ret
        exact ⟨ret_int hr.out.symm, hB.trans (hb1.mono hB.size)⟩
    | false =>
      have hr : Hid (csE d n = 2) := Lib.hid (by simp [csE, hm, ht])
      obtain ⟨n0, n1⟩ := side_no ht
      have t0 : (n != 0) = true := by simpa using n0
      have t1 : (n != 1) = true := by simpa using n1
      replace hm := Lib.hid hm
      clear ht n0 n1
      go_enter Try.func30, Try.ntmps30
      go_wp2_with fail
      refine (check_any _ d _ H.out).mono ?_
      rintro e w1 ⟨rfl, hb1⟩
      rw [hc.out]
      go_wp2_with fail
      go_ret
      exact ⟨ret_int hr.out.symm, hB.trans (hb1.mono hB.size)⟩
  | false =>
    have hc := Lib.hid (chk_bad hm)
    have hr : Hid (csE d n = 8) := Lib.hid (by simp [csE, hm])
    clear hm
    go_enter Try.func30, Try.ntmps30
    go_wp2_with fail
    refine (check_any _ d _ H.out).mono ?_
    rintro e w1 ⟨rfl, hb1⟩
    rw [hc.out]
    go_wp2_with fail
    go_ret
    exact ⟨ret_int hr.out.symm, hB.trans (hb1.mono hB.size)⟩
theorem firstOf_any (s : Int) (hs : s = 0 ∨ s = 1) (w : World) : Calls Try.prog 31 #[.int .i64 s] w fun e w' => e = .returned (.int .i64 (4 + 2 * s)) ∧ w = w' := by
  rcases hs with rfl | rfl
  · go_enter Try.func31, Try.ntmps31
    go_wp2_with fail
    go_ret
    exact ⟨rfl, rfl⟩
  · go_enter Try.func31, Try.ntmps31
    go_wp2_with fail
    go_ret
    exact ⟨rfl, rfl⟩
end Go.Proofs.Ytkklkhnoljmgbaa

/-
  Package count: Read. Conditions: those that each lemma states.
-/
namespace Go.Proofs.Ytkklkhnoljmgbaa
open Go.RowKit

/-- The bytes of the first k blocks of a side. -/
def sdK (d : Dk) (s : Int) (k : Nat) : List UInt8 := match k with
  | 0 => []
  | 1 => seenD d (4 + 2 * s).toNat
  | _ => sdV d s
theorem sdK_len {d : Dk} {s : Int} (hm : mayB d = true) (hs : s = 0 ∨ s = 1) {k : Nat} (hk : k ≤ 2) : (sdK d s k).length = 128 * k := by
  have h1 : (seenD d (4 + 2 * s).toNat).length = 128 := seenD_length hm (by rcases hs with rfl | rfl <;> decide)
  have h2 : (seenD d (5 + 2 * s).toNat).length = 128 := seenD_length hm (by rcases hs with rfl | rfl <;> decide)
  rcases k with _ | _ | _ | k
  · rfl
  · simpa [sdK] using h1
  · simp [sdK, sdV, h1, h2]
  · omega
theorem sdK_succ {d : Dk} {s : Int} (_ : s = 0 ∨ s = 1) {k : Nat} (hk : k < 2) : sdK d s (k + 1) = sdK d s k ++ seenD d (4 + 2 * s + k).toNat := by
  rcases k with _ | _ | k
  · simp [sdK]
  · have : (4 + 2 * s + ((0 + 1 : Nat) : Int)) = 5 + 2 * s := by omega
    rw [this]
    rfl
  · omega
/-- 'append(v, ys...)': v a row of bytes of the call's own. -/
theorem app_rows (v : Value) (n : Nat) (xs : List UInt8) (u : Value) (ys : List UInt8) (base : Nat) (w : World) (hv : w.ownsRow base 5 1 v n (u8s xs)) (hy : rBy (Old w) w [u] ys) (hs : n + ys.length ≤ 1000000000) (hb : base ≤ w.heap.size) :
    ∃ v' w', (Builtin.append_ #[23, 23] 23 #[v, u]).run Try.prog w = .ok v' w' ∧ w'.ownsRow base 5 1 v' (n + ys.length) (u8s (xs ++ ys)) ∧ Below base w w' := by
  obtain ⟨i0, hi, hz0, hz1, hz2⟩ := info_parts u8_info0
  obtain ⟨A, cap, rfl, _, _, hby⟩ := rBy_byt (B := w.heap.size) (fun p hp => hp) hy
  exact app_byt (P := Try.prog) (w := w) base 23 23 5 i0 Try.underlying23 hi hz0 hz1 hz2 v n xs hv w.heap.size A ys.length cap ys hby rfl hs hb

set_option maxRecDepth 100000 in
set_option maxHeartbeats 4000000 in
theorem cntRead_any (v : Value) (d : Dk) (s : Int) (w : World) (h : Dsk (Old w) w v d) :
    Calls Try.prog 15 #[v, .int .i64 s] w fun e w' => ∃ u, e = .returned (.tuple #[u, .int .i64 (crE d s)]) ∧ rBy (New w.heap.size w') w' [u] (crV d s) ∧ Below w.heap.size w w' := by
  obtain ⟨A, c, B, e0, rfl, _⟩ := id h.open
  obtain ⟨w0, hw0, b0, hs0, hB0⟩ := box_pair' w (.slice A d.1.length c) (.slice B d.2.length e0) 31
  obtain ⟨y1, y2, _, lt0⟩ := two_cells b0
  have H := Lib.hid (h.below hB0)
  clear h
  by_cases hc : csE d s = 0
  · obtain ⟨hm, hsd⟩ : mayB d = true ∧ sideB s = true := by
      unfold csE at hc
      cases hm : mayB d <;> cases hs : sideB s <;> simp_all
    have hs := side_ways hsd
    have hp : Hid (0 ≤ 4 + 2 * s ∧ 4 + 2 * s ≤ 6) := Lib.hid (by rcases hs with rfl | rfl <;> omega)
    obtain ⟨p, hpe⟩ : ∃ p, 4 + 2 * s = p := ⟨_, rfl⟩
    have hfin : Hid ((mayT (sdK d s 2) = true → crE d s = 0 ∧ crV d s = sdK d s 2) ∧ (mayT (sdK d s 2) = false → crE d s = 8 ∧ crV d s = [])) := Lib.hid (by
      have e1 : sdK d s 2 = sdV d s := rfl
      rw [e1]
      refine ⟨fun h => ?_, fun h => ?_⟩
      · have : crE d s = 0 := by simp [crE, hm, hsd, h]
        exact ⟨this, by simp [crV, this]⟩
      · have : crE d s = 8 := by simp [crE, hm, hsd, h]
        exact ⟨this, by simp [crV, this]⟩)
    have hlen : Hid (∀ k, k ≤ 2 → (sdK d s k).length = 128 * k) := Lib.hid fun k hk => sdK_len hm hs hk
    have hsuc : Hid (∀ k : Nat, k < 2 → sdK d s (k + 1) = sdK d s k ++ seenD d (p + k).toNat) := Lib.hid fun k hk => by rw [← hpe]; exact sdK_succ hs hk
    have hfst : Hid (∀ W, Calls Try.prog 31 #[.int .i64 s] W fun e w' => e = .returned (.int .i64 p) ∧ W = w') := Lib.hid fun W => by rw [← hpe]; exact firstOf_any s hs W
    rw [hpe] at hp
    replace hpe := Lib.hid hpe
    replace hc := Lib.hid hc
    replace b0 := Lib.hid b0
    replace hs0 := Lib.hid hs0
    have hm2 := Lib.hid hm
    clear hs hsd hm
    go_enter Try.func15, Try.ntmps15
    go_upto_region 1 with fail
    clear hw0
    go_wp2_with fail
    with_reducible refine (checkSide_any _ d s _ H.out).mono ?_
    rintro e w4 ⟨rfl, hb4⟩
    rw [hc.out]
    have H4 := Lib.hid (H.out.below hb4)
    have b4 := (hb4.block w.heap.size lt0).trans b0.out
    have B4 := Lib.hid (hB0.trans (hb4.mono hB0.size))
    obtain ⟨x1, x2, _, lt4⟩ := two_cells b4
    replace b4 := Lib.hid b4
    clear hb4 y1 y2 lt0 H hB0 hc
    go_wp2_with fail
    go_loopw [7, 18] (fun u i wr => ∃ k : Nat, k ≤ 2 ∧ i = .int .i64 k ∧ wr.ownsRow w4.heap.size 5 1 u (128 * k) (u8s (sdK d s k)) ∧ Below w4.heap.size w4 wr) (fun _ i _ => 2 - (intOf i).toNat)
    case atStart => exact ⟨0, by omega, rfl, World.ownsRow_nil _ _ _ _, Below.refl _ _⟩
    case round =>
      obtain ⟨k, hk, rfl, hown, hbr⟩ := hrel
      have Hr := Lib.hid (H4.out.below hbr)
      have br := (hbr.block w.heap.size lt4).trans b4.out
      obtain ⟨z1, z2, _, ltr⟩ := two_cells br
      have hbr' := Lib.hid hbr
      clear hbr
      by_cases hlt : k < 2
      · have hl1 : Hid ((seenD d (p + k).toNat).length = 128) := Lib.hid (seenD_length hm2.out (by have := hp.out; omega))
        have hread : Hid (∀ W, Below wr.heap.size wr W → Calls Try.prog 34 #[.agg #[.slice A d.1.length c, .slice B d.2.length e0], .int .i64 (p + k)] W fun e W' => ∃ E ce, e = .returned (.tuple #[.slice E (seenD d (p + k).toNat).length ce, .int .i64 0]) ∧ rBy (Old W') W' [.slice E (seenD d (p + k).toNat).length ce] (seenD d (p + k).toNat) ∧ Below W.heap.size W W') := Lib.hid fun W hW => by
          have e1 : p + (k : Int) = (((p + k).toNat : Nat) : Int) := by have := hp.out; omega
          have := read_ok _ d (p + k).toNat W (Hr.out.below hW) hm2.out (by have := hp.out; omega)
          rw [← e1] at this
          refine this.mono ?_
          rintro e W' ⟨u, rfl, hu, hb⟩
          obtain ⟨E, ce, rfl, _⟩ := id (rBy_open hu)
          exact ⟨E, ce, rfl, stab_by.drop hu, hb⟩
        have hsk := Lib.hid (hsuc.out k hlt)
        obtain ⟨L, hL⟩ : ∃ L, seenD d (p + k).toNat = L := ⟨_, rfl⟩
        rw [hL] at hl1 hread hsk
        replace hL := Lib.hid hL
        have hpk : 0 ≤ p + (k : Int) ∧ p + (k : Int) ≤ 8 := by have := hp.out; omega
        have hwr : IntKind.i64.wrap (p + (k : Int)) = p + (k : Int) := IntWalk.i64_in _ (by omega)
        go_upto_region 8 with fail
        refine wp_region_fx (by kernel_rfl) (fun W => Below wr.heap.size wr W) (fun i => match i with
            | 5 => some (fun v W => ∃ E ce, v = .tuple #[.slice E L.length ce, .int .i64 0] ∧ rBy (Old W) W [.slice E L.length ce] L)
            | 6 => some (fun v W => ∃ E ce, v = .tuple #[.slice E L.length ce, .int .i64 0] ∧ rBy (Old W) W [.slice E L.length ce] L)
            | 7 => some (fun v W => rBy (Old W) W [v] L)
            | _ => none) (fun i => match i with
            | 2 => some (.int .i64 p)
            | 8 => some (.int .i64 0)
            | _ => none) (by kernel_rfl) (Below.refl _ _).drew (fun w w' h hb => h.trans (hb.mono h.size)) ?tst ?_
        case tst =>
          intro j φ x W W' hp hx hb
          match j, hp with
          | 5, hp =>
            cases hp
            obtain ⟨A, c, e, h1⟩ := hx
            exact ⟨A, c, e, stab_by.old h1 hb⟩
          | 6, hp =>
            cases hp
            obtain ⟨A, c, e, h1⟩ := hx
            exact ⟨A, c, e, stab_by.old h1 hb⟩
          | 7, hp => cases hp; exact stab_by.old hx hb
        repeat (first
          | (refine wpAs_skip rfl ?_; simp only [Act.put, List.setIfInBounds_toArray, List.set_cons_zero, List.set_cons_succ])
          | (refine wpAs_pure (v := ?_) rfl rfl ?_ ?_; rotate_left; (intro W hC hE; clear hE; (have q1 := (hC.cell (p := ⟨w.heap.size, 0, none⟩) ltr).trans z1; have q2 := (hC.cell (p := ⟨w.heap.size, 1, none⟩) ltr).trans z2); clear hC; go_simp; done); simp only [Act.put, List.setIfInBounds_toArray, List.set_cons_zero, List.set_cons_succ])
          | (refine wpAs_pure (v := ?_) rfl rfl ?_ ?_; rotate_left; (intro W hC hE; clear hE; (have q1 := (hC.cell (p := ⟨w.heap.size, 0, none⟩) ltr).trans z1; have q2 := (hC.cell (p := ⟨w.heap.size, 1, none⟩) ltr).trans z2); clear hC; go_simp; with_reducible rfl); simp only [Act.put, List.setIfInBounds_toArray, List.set_cons_zero, List.set_cons_succ]))
        refine wpAs_fixed rfl rfl rfl ?_ ?_
        · intro W hC hE
          refine does_enter (f := 31) (args := #[.int .i64 s]) ?_ ?_
          · go_simp
          · refine (hfst.out W).mono ?_
            rintro e W' ⟨rfl, rfl⟩
            exact ⟨_, rfl, rfl, Below.refl _ _⟩
        simp only [Act.put, List.setIfInBounds_toArray, List.set_cons_zero, List.set_cons_succ]
        repeat (first
          | (refine wpAs_skip rfl ?_; simp only [Act.put, List.setIfInBounds_toArray, List.set_cons_zero, List.set_cons_succ])
          | (refine wpAs_pure (v := ?_) rfl rfl ?_ ?_; rotate_left; (intro W hC hE; clear hE; skip; clear hC; go_simp; done); simp only [Act.put, List.setIfInBounds_toArray, List.set_cons_zero, List.set_cons_succ])
          | (refine wpAs_pure (v := ?_) rfl rfl ?_ ?_; rotate_left; (intro W hC hE; clear hE; skip; clear hC; go_simp; with_reducible rfl); simp only [Act.put, List.setIfInBounds_toArray, List.set_cons_zero, List.set_cons_succ]))
        refine wpAs_act rfl rfl ?_ ?_
        · intro W hC hE
          refine does_enter (f := 34) (args := #[.agg #[.slice A d.1.length c, .slice B d.2.length e0], .int .i64 (p + k)]) ?_ ?_
          · go_simp
          · refine (hread.out W hC).mono ?_
            rintro e W' ⟨E, ce, rfl, h1, hw⟩
            exact ⟨_, rfl, ⟨E, ce, rfl, h1⟩, hw⟩
        simp only [Act.put, List.setIfInBounds_toArray, List.set_cons_zero, List.set_cons_succ, envAdd]
        intro x27
        refine wpAs_act rfl rfl ?_ ?_
        · intro W hC hE
          have hx := hE.1 rfl
          clear hE
          go_simp
          exact ⟨hx, Below.refl _ _⟩
        simp only [Act.put, List.setIfInBounds_toArray, List.set_cons_zero, List.set_cons_succ, envAdd]
        intro x21
        refine wpAs_act rfl rfl ?_ ?_
        · intro W hC hE
          obtain ⟨E, ce, rfl, h1⟩ := hE.1 rfl
          clear hE
          have H1 := Lib.hid h1
          clear h1
          go_simp
          exact ⟨H1.out, Below.refl _ _⟩
        simp only [Act.put, List.setIfInBounds_toArray, List.set_cons_zero, List.set_cons_succ, envAdd]
        intro x28
        refine wpAs_fixed rfl rfl rfl ?_ ?_
        · intro W hC hE
          obtain ⟨E, ce, rfl, h1⟩ := hE.2.1 rfl
          clear hE h1
          go_simp
          exact ⟨rfl, Below.refl _ _⟩
        simp only [Act.put, List.setIfInBounds_toArray, List.set_cons_zero, List.set_cons_succ]
        repeat (first
          | (refine wpAs_skip rfl ?_; simp only [Act.put, List.setIfInBounds_toArray, List.set_cons_zero, List.set_cons_succ])
          | (refine wpAs_pure (v := ?_) rfl rfl ?_ ?_; rotate_left; (intro W hC hE; clear hE; skip; clear hC; go_simp; done); simp only [Act.put, List.setIfInBounds_toArray, List.set_cons_zero, List.set_cons_succ])
          | (refine wpAs_pure (v := ?_) rfl rfl ?_ ?_; rotate_left; (intro W hC hE; clear hE; skip; clear hC; go_simp; with_reducible rfl); simp only [Act.put, List.setIfInBounds_toArray, List.set_cons_zero, List.set_cons_succ]))
        refine wpAs_end fun wc hC hE => ?_
        have hx := hE.1
        clear hE
        obtain ⟨E, ce, rfl, _⟩ := id (rBy_open hx)
        obtain ⟨v', w6, hr6, ho6, hb6⟩ := app_rows u7 (128 * k) (sdK d s k) (.slice E L.length ce) L w4.heap.size wc (own_after hown hC) hx (by rw [hl1.out]; omega) (Nat.le_trans hbr'.out.size hC.size)
        have bw6 := Lib.hid (hbr'.out.trans ((hC.mono hbr'.out.size).trans hb6))
        have e7 : 128 * k + L.length = 128 * (k + 1) := by rw [hl1.out]; omega
        rw [e7, ← hsk.out] at ho6
        have H6 := Lib.hid hr6
        have O6 := Lib.hid ho6
        replace e7 := Lib.hid e7
        clear hx hC hown hr6 ho6 hb6 hwr
        go_wp2_with (at_builtin; refine wpList_append_run rfl _ _ _ rfl rfl rfl H6.out ?_; clear H6)
        go_roundw
        case rel => exact ⟨k + 1, by omega, by go_num, O6.out, bw6.out⟩
        case measure => simp [intOf]; omega
      · obtain rfl : k = 2 := by omega
        have hl2 := Lib.hid (hlen.out 2 (by omega))
        have hY := own_by hown
        obtain ⟨E, ce, rfl, _⟩ := id (rBy_open hY)
        have hY2 := Lib.hid hY
        obtain ⟨ L, hL⟩ : ∃ L, sdK d s 2 = L := ⟨_, rfl⟩
        rw [hL] at hfin hl2 hY2 ⊢
        replace hL := Lib.hid hL
        obtain ⟨E', ce', e8, l8, m8, by8⟩ := rBy_byt (B := wr.heap.size) (fun p hp => hp) (stab_by.drop hY2.out)
        cases e8
        have BY := Lib.hid by8
        clear hown hY by8
        cases ht : mayT L with
        | true =>
          have hf := Lib.hid (hfin.out.1 ht)
          have hc1 := Lib.hid (chkT_ok ht)
          clear ht
          go_wp2_with fail
          with_reducible refine (checkT_any E L.length ce L (Lib.hid rfl) l8 m8 _ BY.out).mono ?_
          rintro e w9 ⟨rfl, rfl⟩
          rw [hc1.out]
          go_wp2_with fail
          go_ret2
          rw [hf.out.1, hf.out.2]
          exact ⟨_, rfl, stab_by.mono hY2.out B4.out.size, B4.out.trans (hbr'.out.mono B4.out.size)⟩
        | false =>
          have hf := Lib.hid (hfin.out.2 ht)
          have hc1 := Lib.hid (chkT_bad ht)
          clear ht
          go_wp2_with fail
          with_reducible refine (checkT_any E L.length ce L (Lib.hid rfl) l8 m8 _ BY.out).mono ?_
          rintro e w9 ⟨rfl, rfl⟩
          rw [hc1.out]
          go_wp2_with fail
          go_ret2
          rw [hf.out.1, hf.out.2]
          exact ⟨_, rfl, rBy_none_new _ _, B4.out.trans (hbr'.out.mono B4.out.size)⟩
  · obtain ⟨q, hq⟩ : ∃ q, csE d s = q := ⟨_, rfl⟩
    have hq2 : Hid (crE d s = q ∧ crV d s = []) := Lib.hid (by
      have h1 : crE d s = q := by
        rw [← hq]
        unfold csE at hc ⊢
        unfold crE
        cases hm : mayB d <;> cases hs : sideB s <;> simp_all
      exact ⟨h1, by rw [crV, h1, ← hq, if_neg hc]⟩)
    have hq0 : (q != 0) = true := by rw [← hq]; simpa using hc
    replace hq := Lib.hid hq
    replace b0 := Lib.hid b0
    replace hs0 := Lib.hid hs0
    clear hc
    go_enter Try.func15, Try.ntmps15
    go_upto_region 1 with fail
    clear hw0
    go_wp2_with fail
    with_reducible refine (checkSide_any _ d s _ H.out).mono ?_
    rintro e w4 ⟨rfl, hb4⟩
    rw [hq.out]
    go_wp2_with fail
    go_ret2
    rw [hq2.out.1, hq2.out.2]
    exact ⟨_, rfl, rBy_none_new _ _, hB0.trans (hb4.mono hB0.size)⟩
end Go.Proofs.Ytkklkhnoljmgbaa

/-
  slices.Chunk at a slice of 256 bytes, in parts of 128. Conditions: those that each lemma states.
-/
namespace Go.Proofs.Ytkklkhnoljmgbaa
open Go.RowKit Go.Shelf
attribute [local go_sem] Oper.semAt_some

/-- What a round keeps: all that lay below block n₀, and the two boxes from Bs on. -/
def Keeps2 (n₀ Bs : Nat) (A B : World) : Prop := Below n₀ A B ∧ B.cell? ⟨Bs, 0, none⟩ = A.cell? ⟨Bs, 0, none⟩ ∧ B.cell? ⟨Bs + 1, 0, none⟩ = A.cell? ⟨Bs + 1, 0, none⟩
theorem Keeps2.trans {n₀ Bs : Nat} {A B C : World} (h : Keeps2 n₀ Bs A B) (h' : Keeps2 n₀ Bs B C) : Keeps2 n₀ Bs A C := ⟨h.1.trans h'.1, h'.2.1.trans h.2.1, h'.2.2.trans h.2.2⟩
theorem Keeps2.refl (n₀ Bs : Nat) (A : World) : Keeps2 n₀ Bs A A := ⟨Below.refl _ _, rfl, rfl⟩
theorem Keeps2.below {n₀ Bs : Nat} {A B : World} (h : Below n₀ A B) (hB : Bs + 1 < n₀) : Keeps2 n₀ Bs A B := ⟨h, h.cell (p := ⟨Bs, 0, none⟩) (by show Bs < n₀; omega), h.cell (p := ⟨Bs + 1, 0, none⟩) hB⟩
theorem keeps2_b {W w : World} {Bs n₀ : Nat} (hBs : Bs + 1 < w.heap.size) (hn₀ : n₀ ≤ w.heap.size) (l : Nat) (o o' : Obj) (hl : w.heap.size ≤ l) (h1 : W.heap[l]? = some o) (h2 : o.isCells = false) (h3 : o.isWalk = false) : Keeps2 n₀ Bs W (W.putObj l o') :=
  ⟨belowK_b hn₀ W l o o' hl h1 h2 h3, World.cell?_of_block (World.putObj_heap_other (k := Bs) (by omega)), World.cell?_of_block (World.putObj_heap_other (k := Bs + 1) (by omega))⟩
theorem grown_drawn (w : World) (n : Nat) (row : Option Nat) : w.grownBy (w.drewN n) row := ⟨rfl, rfl, rfl, Nat.le_refl _, fun _ _ _ => rfl⟩

set_option maxRecDepth 100000 in
set_option maxHeartbeats 4000000 in
/-- The closure of slices.Chunk. -/
theorem chunk_in (n : Nat) (hn : 1 ≤ n) (l Bs n₀ cap : Nat) (ad : Addr) (hcap : 256 ≤ cap) (hcm : cap ≤ 9223372036854775807) (J Jx : List Bool → World → Prop) (enc : Bool → Value) (he0 : enc false = .slice (some ad) 128 128) (he1 : enc true = .slice (some ⟨ad.block, ad.off + 128, none⟩) 128 128)
    (W : World) (hJ : AbidesFrom W.heap.size J)
    (hY : ∀ (pre : List Bool) (x : Bool) (W1 : World), J pre W1 → pre.length < 2 → YieldAt Fence.wide (n - 1) Try.prog l #[enc x] W1 fun e W' =>
      (e = .returned (.bool true) ∧ J (pre ++ [x]) W' ∧ Keeps2 n₀ Bs W1 W') ∨ (e = .returned (.bool false) ∧ Jx (pre ++ [x]) W'))
    (hBs : W.cell? ⟨Bs, 0, none⟩ = some (.slice (some ad) 256 cap)) (hBn : W.cell? ⟨Bs + 1, 0, none⟩ = some (.int .i64 128)) (h0 : J [] W) :
    CallsIn Fence.wide n Try.prog 43 #[.func (.yield l) #[] #[], .pointer (some ⟨Bs, 0, none⟩), .pointer (some ⟨Bs + 1, 0, none⟩)] W fun e W' => (∃ v, e = .returned v) ∧
      ((∃ ys, ys = [false, true] ∧ J ys W') ∨ (∃ pre, (pre = [false] ∨ pre = [false, true]) ∧ Jx pre W')) := by
  have hmix : Try.prog.follows .mixedOrders = true := by kernel_rfl
  refine callsIn_of_wp Try.func43 rfl trivial ?_ rfl
  simp only [Try.ntmps43, List.size_toArray, List.length_cons, List.length_nil, Nat.reduceAdd, Nat.reduceSub, Array.replicate_succ, Array.replicate_zero, List.push_toArray, List.append_toArray, List.nil_append, List.cons_append]
  gi_wp2
  gi_loopw [4] (fun i wr => ∃ k : Nat, k ≤ 2 ∧ i = .int .i64 ((k * 128 : Nat) : Int) ∧ J ([false, true].take k) wr ∧ wr.cell? ⟨Bs, 0, none⟩ = some (.slice (some ad) 256 cap) ∧ wr.cell? ⟨Bs + 1, 0, none⟩ = some (.int .i64 128))
    (fun i _ => (256 - intOf i).toNat)
  case atStart => exact ⟨0, Nat.zero_le _, by simp, h0, hBs, hBn⟩
  case round =>
    obtain ⟨k, hk, rfl, hJs, hbs, hbn⟩ := hrel
    rcases k with _ | _ | _ | k
    · gi_wp2
      gi_quiet (fail)
      gi_wp2
      have hbs' : (wr.drewN nq).cell? ⟨Bs, 0, none⟩ = some (.slice (some ad) 256 cap) := hbs
      have hbn' : (wr.drewN nq).cell? ⟨Bs + 1, 0, none⟩ = some (.int .i64 128) := hbn
      have hY' := hY [] false (wr.drewN nq) (hJ _ _ _ none hJs (grown_drawn wr nq none) (by simp)) (by simp)
      clear hY hJs
      rw [he0] at hY'
      obtain ⟨fn, tmps, assign, body, hy, hR⟩ := hY'
      try dsimp only at hy
      replace hR := Lib.hid hR
      rw [hy]
      gi_wp2
      refine hR.out.mono ?_
      rintro e W3 (⟨rfl, hJ3, hk3⟩ | ⟨rfl, hJx3⟩)
      · have hbs3 := hk3.2.1.trans hbs'
        have hbn3 := hk3.2.2.trans hbn'
        gi_wp2
        go_roundw
        case rel => exact ⟨0 + 1, by omega, by go_num, hJ3, hbs3, hbn3⟩
        case measure => simp [intOf]
      · gi_wp2
        refine bodyPost_ret (results_none rfl _ _ _) rfl ?_
        exact ⟨⟨_, rfl⟩, .inr ⟨_, .inl rfl, hJx3⟩⟩
    · gi_wp2
      gi_quiet (fail)
      gi_wp2
      have hbs' : (wr.drewN nq).cell? ⟨Bs, 0, none⟩ = some (.slice (some ad) 256 cap) := hbs
      have hbn' : (wr.drewN nq).cell? ⟨Bs + 1, 0, none⟩ = some (.int .i64 128) := hbn
      have hY' := hY [false] true (wr.drewN nq) (hJ _ _ _ none hJs (grown_drawn wr nq none) (by simp)) (by simp)
      clear hY hJs
      rw [he1] at hY'
      obtain ⟨fn, tmps, assign, body, hy, hR⟩ := hY'
      try dsimp only at hy
      replace hR := Lib.hid hR
      rw [hy]
      gi_wp2
      refine hR.out.mono ?_
      rintro e W3 (⟨rfl, hJ3, hk3⟩ | ⟨rfl, hJx3⟩)
      · have hbs3 := hk3.2.1.trans hbs'
        have hbn3 := hk3.2.2.trans hbn'
        gi_wp2
        go_roundw
        case rel => exact ⟨1 + 1, by omega, by go_num, hJ3, hbs3, hbn3⟩
        case measure => simp [intOf]
      · gi_wp2
        refine bodyPost_ret (results_none rfl _ _ _) rfl ?_
        exact ⟨⟨_, rfl⟩, .inr ⟨_, .inr rfl, hJx3⟩⟩
    · gi_wp2
      go_end0
      exact ⟨⟨_, rfl⟩, .inl ⟨_, rfl, hJs⟩⟩
    · omega

set_option maxHeartbeats 1000000 in
/-- slices.Chunk(s, 128): the slice and the size are boxed; the function value captures the boxes. -/
theorem chunkF_in (n : Nat) (a : Option Addr) (len cap : Nat) (w : World) :
    CallsIn Fence.wide n Try.prog 32 #[.slice a len cap, .int .i64 128] w fun e w' => e = .returned (.func (.func 43) #[] #[.pointer (some ⟨w.heap.size, 0, none⟩), .pointer (some ⟨w.heap.size + 1, 0, none⟩)]) ∧ w' = (w.alloc (.cells #[.slice a len cap] 23)).alloc (.cells #[.int .i64 128] 3) := by
  refine callsIn_of_wp Try.func32 rfl trivial ?_ rfl
  simp only [Try.ntmps32, List.size_toArray, List.length_cons, List.length_nil, Nat.reduceAdd, Nat.reduceSub, Array.replicate_succ, Array.replicate_zero, List.push_toArray, List.append_toArray, List.nil_append, List.cons_append]
  gi_wp2
  go_ret
  exact ⟨rfl, rfl⟩

/-- What slices.Chunk hands back gives the two halves. -/
theorem chunk_stops (n : Nat) (hn : 1 ≤ n) (Bs n₀ cap : Nat) (ad : Addr) (hcap : 256 ≤ cap) (hcm : cap ≤ 9223372036854775807) (enc : Bool → Value) (he0 : enc false = .slice (some ad) 128 128) (he1 : enc true = .slice (some ⟨ad.block, ad.off + 128, none⟩) 128 128)
    (w : World) (hB : Bs + 1 < w.heap.size) (hBs : w.cell? ⟨Bs, 0, none⟩ = some (.slice (some ad) 256 cap)) (hBn : w.cell? ⟨Bs + 1, 0, none⟩ = some (.int .i64 128)) :
    SeqStopsK Fence.wide n Try.prog 43 #[.pointer (some ⟨Bs, 0, none⟩), .pointer (some ⟨Bs + 1, 0, none⟩)] (fun x : Bool => #[enc x]) (Keeps2 n₀ Bs) (fun ys => ys = [false, true]) (fun pre => pre = [false] ∨ pre = [false, true]) 2 w := fun l J Jx W hW hJ _ hY h0 =>
  chunk_in n hn l Bs n₀ cap ad hcap hcm J Jx enc he0 he1 W hJ hY ((hW.cell (p := ⟨Bs, 0, none⟩) (by show Bs < _; omega)).trans hBs) ((hW.cell (p := ⟨Bs + 1, 0, none⟩) hB).trans hBn) h0
end Go.Proofs.Ytkklkhnoljmgbaa

/-
  Package count: Write, which ranges over slices.Chunk. Conditions: those that each lemma states.
-/
namespace Go.Proofs.Ytkklkhnoljmgbaa
open Go.RowKit Go.Shelf
attribute [local go_sem] Oper.semAt_some

theorem rBy_piece {ok : Addr → Prop} {w : World} {ad : Addr} {n c : Nat} {b : List UInt8} (h : rBy ok w [.slice (some ad) n c] b) (k m cap : Nat) (hk : k + m ≤ b.length) (hm : m ≤ cap) (hc : cap ≤ 9223372036854775807) : rBy ok w [.slice (some (ad.add k)) m cap] ((b.drop k).take m) := by
  obtain ⟨A, c', e, _, _, h4⟩ := h
  cases e
  have hl : ((b.drop k).take m).length = m := by simp; omega
  refine ⟨some (ad.add k), cap, by rw [hl], by rw [hl]; exact hm, hc, fun i x hi => ?_⟩
  have him : i < m := by rw [← hl]; exact (List.getElem?_eq_some_iff.1 hi).1
  have hi' : b[k + i]? = some x := by
    rw [List.getElem?_take_of_lt him, List.getElem?_drop] at hi
    exact hi
  obtain ⟨ad', vs, e1, e2, e3, e4⟩ := h4 (k + i) x hi'
  cases e1
  refine ⟨ad.add k, vs, rfl, e2, fun j v hj => ?_, e4⟩
  have := e3 j v hj
  rw [add_add', show k + (i * 1 + j) = (k + i) * 1 + j by omega]
  exact this

/-! ### The two writes, plain -/
def halfT (t : List UInt8) (b : Bool) : List UInt8 := if b then t.drop 128 else t.take 128
/-- The disk, the next place, and the first error, behind some halves. -/
def stepW (t : List UInt8) (s : Dk × Int × Int) (b : Bool) : Dk × Int × Int := (wrR s.1 s.2.1 (halfT t b), s.2.1 + 1, if s.2.2 = 0 then wErr s.1 s.2.1 (halfT t b) else s.2.2)
def runW (d : Dk) (p : Int) (t : List UInt8) (l : List Bool) : Dk × Int × Int := l.foldl (stepW t) (d, p, 0)
theorem runW_snoc (d : Dk) (p : Int) (t : List UInt8) (l : List Bool) (b : Bool) : runW d p t (l ++ [b]) = stepW t (runW d p t l) b := by simp [runW, List.foldl_append]
theorem foldW_place (t : List UInt8) : ∀ (l : List Bool) (s : Dk × Int × Int), (l.foldl (stepW t) s).2.1 = s.2.1 + (l.length : Int)
  | [], s => by simp
  | b :: l, s => by
    rw [List.foldl_cons, foldW_place t l]
    simp only [stepW, List.length_cons]
    omega
theorem runW_place (d : Dk) (p : Int) (t : List UInt8) (l : List Bool) : (runW d p t l).2.1 = p + (l.length : Int) := foldW_place t l _
theorem runW_stuck {d : Dk} {p : Int} {t : List UInt8} {l : List Bool} {b : Bool} (h : (runW d p t l).2.2 ≠ 0) : (runW d p t (l ++ [b])).2.2 = (runW d p t l).2.2 := by rw [runW_snoc]; simp [stepW, h]
theorem put_one {W : World} {g : Nat} {a u : Value} {t : TypeId} (h : W.heap[g]? = some (.cells #[a] t (0, 0))) : ∃ W1, W.setCell ⟨g, 0, none⟩ u = W1 ∧ W1.heap[g]? = some (.cells #[u] t (0, 0)) ∧ W.grownBy W1 (some g) ∧ W1.heap.size = W.heap.size :=
  ⟨_, rfl, by simp [World.setCell, Array.getElem?_modify, h], grow_put (p := ⟨g, 0, none⟩) (grow_refl W (some g)) rfl u, by simp⟩
theorem one_cell {W : World} {g : Nat} {a : Value} {t : TypeId} (h : W.heap[g]? = some (.cells #[a] t (0, 0))) : W.cell? ⟨g, 0, none⟩ = some a ∧ W.frozen? ⟨g, 0, none⟩ = false ∧ g < W.heap.size :=
  ⟨by simp [World.cell?, h], by simp [World.frozen?, h], (Array.getElem?_eq_some_iff.1 h).1⟩
theorem keepsFrom_below {B : Nat} {W W' : World} (h : Below W.heap.size W W') : KeepsFrom B W W' := ⟨h.size, fun k _ _ hk _ => (h.block k (Array.getElem?_eq_some_iff.1 hk).1).trans hk⟩
theorem keepsFrom_put {B : Nat} {W W' : World} {g : Nat} {cs : Array Value} {t : TypeId} (hg : W.grownBy W' (some g)) (h : W.heap[g]? = some (.cells cs t (0, 0))) : KeepsFrom B W W' :=
  ⟨hg.size, fun k o _ hk ho => (hg.block k (Array.getElem?_eq_some_iff.1 hk).1 (fun e => by
    simp only [Option.some.injEq] at e
    subst e
    rw [h] at hk
    cases hk
    cases ho)).trans hk⟩
theorem block_kept {W W' : World} {row : Option Nat} {g : Nat} {cs : Array Value} {t : TypeId} (h : W.heap[g]? = some (.cells cs t (0, 0))) (hg : W.grownBy W' row) (hrow : ∀ r, row = some r → ∃ o : Obj, W.heap[r]? = some o ∧ o.isCells = false) : W'.heap[g]? = some (.cells cs t (0, 0)) :=
  (grownBy_keeps_cells hg hrow h rfl).trans h
theorem dsk_kept_old {W W' : World} {row : Option Nat} {v : Value} {d : Dk} (h : Dsk (Old W) W v d) (hg : W.grownBy W' row) (hrow : ∀ r, row = some r → ∃ o : Obj, W.heap[r]? = some o ∧ o.isCells = false) : Dsk (Old W') W' v d :=
  h.map fun _ _ hp hc => ⟨Nat.lt_of_lt_of_le hp hg.size, cell_kept hc hg hrow⟩
theorem dsk_kept_new {W W' : World} {row : Option Nat} {v : Value} {d : Dk} {lo : Nat} (h : Dsk (New lo W) W v d) (hg : W.grownBy W' row) (hrow : ∀ r, row = some r → ∃ o : Obj, W.heap[r]? = some o ∧ o.isCells = false) : Dsk (New lo W') W' v d :=
  h.map fun _ _ hp hc => ⟨⟨hp.1, Nat.lt_of_lt_of_le hp.2.1 hg.size, (frozen_kept hc hg hrow).trans hp.2.2⟩, cell_kept hc hg hrow⟩

/-- Three boxes that are made one behind the other. -/
theorem box_dde (w : World) (a b : Value) : ∃ w3, ((w.alloc (.cells #[a, b] 31)).alloc (.cells #[.slice none 0 0, .slice none 0 0] 31)).alloc (.cells #[.int .i64 0] 24) = w3 ∧ w3.heap[w.heap.size]? = some (.cells #[a, b] 31 (0, 0)) ∧
    w3.heap[w.heap.size + 1]? = some (.cells #[.slice none 0 0, .slice none 0 0] 31 (0, 0)) ∧ w3.heap[w.heap.size + 2]? = some (.cells #[.int .i64 0] 24 (0, 0)) ∧ w3.heap.size = w.heap.size + 3 ∧ Below w.heap.size w w3 := by
  refine ⟨_, rfl, alloc_block (alloc_block (heap_alloc_new _ _)), alloc_block ?_, ?_, by simp, ((((Below.refl _ w).alloc (Nat.le_refl _) _).alloc (by simp) _).alloc (by simp; omega) _)⟩
  · have := heap_alloc_new (w.alloc (.cells #[a, b] 31)) (.cells #[.slice none 0 0, .slice none 0 0] 31)
    rwa [World.size_alloc] at this
  · have := heap_alloc_new ((w.alloc (.cells #[a, b] 31)).alloc (.cells #[.slice none 0 0, .slice none 0 0] 31)) (.cells #[.int .i64 0] 24)
    rwa [World.size_alloc, World.size_alloc] at this

/-- What stands between two rounds. -/
def BtW (w : World) (d : Dk) (p : Int) (t : List UInt8) (g : Nat) (pre : List Bool) (W : World) : Prop :=
  (∃ A c B e, (runW d p t pre).2.2 = 0 ∧ Bx W w.heap.size A c B e (runW d p t pre).1 ∧ (pre ≠ [] → Dsk (New (g + 3) W) W (.agg #[.slice A (runW d p t pre).1.1.length c, .slice B (runW d p t pre).1.2.length e]) (runW d p t pre).1) ∧
    W.heap[g]? = some (.cells #[.int .i64 (p + (pre.length : Int))] 3 (0, 0)) ∧ W.heap[w.heap.size + 1]? = some (.cells #[.slice none 0 0, .slice none 0 0] 31 (0, 0)) ∧ W.heap[w.heap.size + 2]? = some (.cells #[.int .i64 0] 24 (0, 0)) ∧ g + 3 ≤ W.heap.size) ∧ Below w.heap.size w W
/-- What stands where a write was refused. -/
def EndW (w : World) (d : Dk) (p : Int) (t : List UInt8) (cd : Code) (pre : List Bool) (W : World) : Prop :=
  (cd = .ret ∧ (runW d p t pre).2.2 ≠ 0 ∧ W.heap[w.heap.size + 1]? = some (.cells #[.slice none 0 0, .slice none 0 0] 31 (0, 0)) ∧ W.heap[w.heap.size + 2]? = some (.cells #[.int .i64 (runW d p t pre).2.2] 24 (0, 0))) ∧ Below w.heap.size w W
theorem ownFrom_bt (w : World) (d : Dk) (p : Int) (t : List UInt8) (g B : Nat) (hB : w.heap.size ≤ B) : OwnFrom B (BtW w d p t g) :=
  OwnFrom.and (Own.from (fun s A B row hs hg hr => by
    obtain ⟨a, c, b, e, h0, h1, h2, h3, h4, h5, h6⟩ := hs
    exact ⟨a, c, b, e, h0, ⟨block_kept h1.1 hg hr, dsk_kept_old h1.2 hg hr⟩, fun hn => dsk_kept_new (h2 hn) hg hr, block_kept h3 hg hr, block_kept h4 hg hr, block_kept h5 hg hr, Nat.le_trans h6 hg.size⟩) _) (ownFrom_below (Nat.le_refl _) hB)
theorem ownFrom_end (w : World) (d : Dk) (p : Int) (t : List UInt8) (cd : Code) (B : Nat) (hB : w.heap.size ≤ B) : OwnFrom B (EndW w d p t cd) :=
  OwnFrom.and (Own.from (fun _ _ _ _ hs hg hr => ⟨hs.1, hs.2.1, block_kept hs.2.2.1 hg hr, block_kept hs.2.2.2 hg hr⟩) _) (ownFrom_below (Nat.le_refl _) hB)

set_option maxRecDepth 100000 in
set_option maxHeartbeats 4000000 in
theorem cntWrite_in (v u : Value) (d : Dk) (s : Int) (t : List UInt8) (w : World) (h : Dsk (Old w) w v d) (hu : rBy (Old w) w [u] t) (hm : mayB d = true) (hs : s = 0 ∨ s = 1) (ht : mayT t = true) :
    CallsIn Fence.wide 5 Try.prog 13 #[v, .int .i64 s, u] w fun e w' => ∃ A c B f r q, e = .returned (.tuple #[.agg #[.slice A r.1.length c, .slice B r.2.length f], .int .i64 q]) ∧ q = (runW d (4 + 2 * s) t [false, true]).2.2 ∧ (r = if q = 0 then (runW d (4 + 2 * s) t [false, true]).1 else emptyD) ∧
      Dsk (New w.heap.size w') w' (.agg #[.slice A r.1.length c, .slice B r.2.length f]) r ∧ Below w.heap.size w w' := by
  obtain ⟨A, c, B, e0, rfl, _⟩ := id h.open
  have hl := mayT_len ht
  obtain ⟨E, ce, rfl, l1, m1, hby⟩ := rBy_byt (B := w.heap.size) (fun _ h => h) hu
  obtain ⟨ad, rfl, hadb, _⟩ := hby (by omega)
  rw [hl] at l1 hu ⊢
  have hal : Hid (∀ (x : Bool) (W : World), Below w.heap.size w W → rBy (Old W) W [.slice (some (if x then ⟨ad.block, ad.off + 128, none⟩ else ad)) 128 128] (halfT t x)) := Lib.hid fun x W hW => by
    have h2 := stab_by.old hu hW
    cases x with
    | false =>
      have := rBy_piece h2 0 128 128 (by omega) (by omega) (by omega)
      simpa [halfT, Addr.add] using this
    | true =>
      have := rBy_piece h2 128 128 128 (by omega) (by omega) (by omega)
      rw [List.take_of_length_le (by simp; omega)] at this
      simpa [halfT, Addr.add] using this
  obtain ⟨w3, hw3, f1, f2, f3, hsz, hB⟩ := box_dde w (.slice A d.1.length c) (.slice B d.2.length e0)
  obtain ⟨k1, k2, k3, k4⟩ := two_cells f1
  have H := Lib.hid (h.below hB)
  have U := Lib.hid (hby.below hB)
  have hc0 : Hid (csE d s = 0) := Lib.hid (by unfold csE sideB; rcases hs with rfl | rfl <;> simp [hm])
  have hc1 := Lib.hid (chkT_ok ht)
  replace hm := Lib.hid hm
  replace hs := Lib.hid hs
  replace ht := Lib.hid ht
  replace hl := Lib.hid hl
  replace h := Lib.hid h
  replace hu := Lib.hid hu
  replace hby := Lib.hid hby
  replace hsz := Lib.hid hsz
  replace f1 := Lib.hid f1
  replace f2 := Lib.hid f2
  replace f3 := Lib.hid f3
  refine callsIn_of_wp_marks Try.func13 rfl trivial ?_ rfl
  simp only [Try.ntmps13, List.size_toArray, List.length_cons, List.length_nil, Nat.reduceAdd, Nat.reduceSub, Array.replicate_succ, Array.replicate_zero, List.push_toArray, List.append_toArray, List.nil_append, List.cons_append]
  gi_upto_region 1 with fail
  clear hw3
  gi_wp2_with fail
  refine ⟨trivial, (callsIn_wide.2 (checkSide_any _ d s _ H.out)).mono ?_⟩
  rintro e w4 ⟨rfl, hb4⟩
  have U4 := Lib.hid (U.out.below (hb4.mono hB.size))
  have H4 := Lib.hid (H.out.below hb4)
  have F1 := (hb4.block w.heap.size (by rw [hsz.out]; omega)).trans f1.out
  have F2 := (hb4.block (w.heap.size + 1) (by rw [hsz.out]; omega)).trans f2.out
  have F3 := (hb4.block (w.heap.size + 2) (by rw [hsz.out]; omega)).trans f3.out
  have B4 := hB.trans (hb4.mono hB.size)
  have s4 : w.heap.size + 3 ≤ w4.heap.size := by have := hsz.out; have := hb4.size; omega
  rw [hc0.out]
  clear k1 k2 k3 k4 hb4
  replace F1 := Lib.hid F1
  replace F2 := Lib.hid F2
  replace F3 := Lib.hid F3
  gi_wp2_with fail
  refine ⟨trivial, (callsIn_wide.2 (checkT_any (some ad) 256 ce t hl l1 m1 _ ?_)).mono ?_⟩
  · exact U4.out.more B4.size
  rintro e w5 ⟨rfl, rfl⟩
  rw [hc1.out]
  gi_wp2_with fail
  refine ⟨trivial, (callsIn_wide.2 (firstOf_any s hs.out _)).mono ?_⟩
  rintro e w5 ⟨rfl, rfl⟩
  gi_wp2_with fail
  refine ⟨trivial, (chunkF_in _ (some ad) 256 ce _).mono ?_⟩
  rintro e w5 ⟨rfl, rfl⟩
  gi_wp2_with fail
  obtain ⟨W0, hW0, G1, G2, G3, G4, G5, G6, GB, Gs⟩ : ∃ W0, ((w4.alloc (.cells #[.int .i64 (4 + 2 * s)] 3)).alloc (.cells #[.slice (some ad) 256 ce] 23)).alloc (.cells #[.int .i64 128] 3) = W0 ∧ W0.heap[w.heap.size]? = some (.cells #[.slice A d.1.length c, .slice B d.2.length e0] 31 (0, 0)) ∧ W0.heap[w.heap.size + 1]? = some (.cells #[.slice none 0 0, .slice none 0 0] 31 (0, 0)) ∧
      W0.heap[w.heap.size + 2]? = some (.cells #[.int .i64 0] 24 (0, 0)) ∧ W0.heap[w4.heap.size]? = some (.cells #[.int .i64 (4 + 2 * s)] 3 (0, 0)) ∧ W0.cell? ⟨w4.heap.size + 1, 0, none⟩ = some (.slice (some ad) 256 ce) ∧ W0.cell? ⟨w4.heap.size + 1 + 1, 0, none⟩ = some (.int .i64 128) ∧ Below w4.heap.size w4 W0 ∧ W0.heap.size = w4.heap.size + 3 := by
    refine ⟨_, rfl, alloc_block (alloc_block (alloc_block F1.out)), alloc_block (alloc_block (alloc_block F2.out)), alloc_block (alloc_block (alloc_block F3.out)), alloc_block (alloc_block (heap_alloc_new _ _)), by go_simp, by go_simp, ((((Below.refl _ w4).alloc (Nat.le_refl _) _).alloc (by simp) _).alloc (by simp; omega) _), by simp⟩
  rw [hW0]
  clear hW0
  have B0 := B4.trans (GB.mono B4.size)
  have hlo : w.heap.size ≤ W0.heap.size := by omega
  have H0 := H4.out.below GB
  have hp : Hid (0 ≤ 4 + 2 * s ∧ 4 + 2 * s ≤ 6) := Lib.hid (by rcases hs.out with rfl | rfl <;> omega)
  obtain ⟨p, hpe⟩ : ∃ p, 4 + 2 * s = p := ⟨_, rfl⟩
  rw [hpe] at G4 hp ⊢
  obtain ⟨En, hEn⟩ : ∃ En : Bool → Addr, En = fun x => if x then ⟨ad.block, ad.off + 128, none⟩ else ad := ⟨_, rfl⟩
  have hal2 : Hid (∀ (x : Bool) (W : World), Below w.heap.size w W → rBy (Old W) W [.slice (some (En x)) 128 128] (halfT t x)) := Lib.hid (by rw [hEn]; exact hal.out)
  have hE0 : Hid (En false = ad) := Lib.hid (by rw [hEn]; rfl)
  have hE1 : Hid (En true = ⟨ad.block, ad.off + 128, none⟩) := Lib.hid (by rw [hEn]; rfl)
  clear hEn
  refine wpIn_rangeFunc_ownH rfl (by omega) (gf := 43) (lb := #[.pointer (some ⟨w4.heap.size + 1, 0, none⟩), .pointer (some ⟨w4.heap.size + 1 + 1, 0, none⟩)]) rfl trivial (enters_of Try.func43 (by kernel_rfl) rfl)
    (chunk_stops (5 - 1) (by omega) (w4.heap.size + 1) w.heap.size ce ad l1 m1 (fun x => .slice (some (En x)) 128 128) (by rw [hE0.out]) (by rw [hE1.out]) W0 (by omega) G5 G6)
    (fun h h' => Keeps2.trans h h') (fun W l o o' hl h1 h2 h3 => keeps2_b (w := W0) (by omega) hlo l o o' hl h1 h2 h3) (Below.refl _ _) (fun _ => rfl)
    (BtW w d p t w4.heap.size) (EndW w d p t) (ownFrom_bt w d p t w4.heap.size _ hlo) (fun cd => ownFrom_end w d p t cd _ hlo)
    ⟨⟨A, c, B, e0, rfl, ⟨G1, H0⟩, fun hn => absurd rfl hn, by simpa using G4, G2, G3, by omega⟩, B0⟩
    (fun x a' W => a' = { tmps := #[.agg #[.slice A d.1.length c, .slice B d.2.length e0], .int .i64 s, .slice (some ad) 256 ce, .pointer (some ⟨w.heap.size, 0, none⟩), undef, undef, .pointer (some ⟨w.heap.size + 1, 0, none⟩), .pointer (some ⟨w.heap.size + 1 + 1, 0, none⟩), .int .i64 0, .int .i64 0, .pointer (some ⟨w4.heap.size, 0, none⟩), .slice (some (En x)) 128 128, undef,
      .agg #[.slice A d.1.length c, .slice B d.2.length e0], .int .i64 s, .int .i64 0, .int .i64 0, .bool false, undef, undef, .slice (some ad) 256 ce, .int .i64 0, .int .i64 0, .bool false, undef, undef, .int .i64 s, .int .i64 p, .slice (some ad) 256 ce,
      .func (.func 43) #[] #[.pointer (some ⟨w4.heap.size + 1, 0, none⟩), .pointer (some ⟨w4.heap.size + 1 + 1, 0, none⟩)], .slice (some (En x)) 128 128, undef, undef, undef, undef, undef, undef, undef, undef, undef, undef, undef, undef, undef, undef], defers := [] })
    (fun x a' _ _ _ _ hs _ _ => hs) ?assign ?body ?done ?stop
  case assign =>
    rintro l pre x W K hI hK
    gi_wp2
    exact hK _ _ (KeepsFrom.refl _ _) (Keeps2.refl _ _ _) hI rfl
  case body =>
    rintro l pre x a' W hl2 hloop hI rfl hlen
    obtain ⟨⟨A1, c1, B1, e1, h0, hbx, hnew, b10, b1, b2, hgs⟩, hb⟩ := hI
    have hplace := runW_place d p t pre
    have hsn := Lib.hid (runW_snoc d p t pre x)
    obtain ⟨D, hD⟩ : ∃ D, (runW d p t pre).1 = D := ⟨_, rfl⟩
    obtain ⟨q, hq⟩ : ∃ q, p + (pre.length : Int) = q := ⟨_, rfl⟩
    have hq1 : 0 ≤ q ∧ q ≤ 8 := by have := hp.out; omega
    have hsn2 : Hid ((runW d p t (pre ++ [x])) = (wrR D q (halfT t x), q + 1, wErr D q (halfT t x))) := Lib.hid (by
      rw [hsn.out]
      unfold stepW
      rw [h0, if_pos rfl, hD, hplace, hq])
    have hql : Hid (p + ((pre ++ [x]).length : Int) = q + 1) := Lib.hid (by simp; omega)
    rw [hD] at hbx
    rw [hq] at b10
    clear hnew h0 hplace hsn
    replace hq := Lib.hid hq
    replace hD := Lib.hid hD
    obtain ⟨k1, k2, k3, k4⟩ := two_cells hbx.1
    obtain ⟨k5, k6, k7⟩ := one_cell b10
    have hx := Lib.hid (hal2.out x W hb)
    replace hbx := Lib.hid hbx
    replace b10 := Lib.hid b10
    replace b1 := Lib.hid b1
    replace b2 := Lib.hid b2
    replace hloop := Lib.hid hloop
    gi_wp2_with fail
    refine ⟨trivial, (CallsIn.inRound l (callsIn_wide.2 (write_new _ _ D q (halfT t x) _ hbx.out.2 hx.out))).mono ?_⟩
    rintro e w5 ⟨A5, c5, B5, e5, rfl, hd5, hb5⟩
    obtain ⟨D2, hD2⟩ : ∃ D2, wrR D q (halfT t x) = D2 := ⟨_, rfl⟩
    obtain ⟨r, hr⟩ : ∃ r, wErr D q (halfT t x) = r := ⟨_, rfl⟩
    rw [hD2, hr] at hsn2 ⊢
    rw [hD2] at hd5
    clear hD2 hr
    have hgl : Hid (w.heap.size + 3 ≤ w4.heap.size) := Lib.hid s4
    have z0 := (hb5.block w.heap.size k4).trans hbx.out.1
    have z1 := (hb5.block (w.heap.size + 1) (by have := hgl.out; omega)).trans b1.out
    have z2 := (hb5.block (w.heap.size + 2) (by have := hgl.out; omega)).trans b2.out
    have z10 := (hb5.block w4.heap.size k7).trans b10.out
    obtain ⟨n1', n2', n3', n4'⟩ := two_cells z0
    obtain ⟨W6, hW6, g6, gr6, gs6⟩ := put_two (u := .slice A5 D2.1.length c5) (v := .slice B5 D2.2.length e5) z0
    have h5s := hb5.size
    have y1 := (gr6.block (w.heap.size + 1) (by have := hgl.out; omega) (by simp)).trans z1
    have y2 := (gr6.block (w.heap.size + 2) (by have := hgl.out; omega) (by simp)).trans z2
    have y10 := (gr6.block w4.heap.size (by omega) (by simp; have := hgl.out; omega)).trans z10
    have nd6 := Lib.hid (hd5.grown gr6 (fun q e => by cases e; exact k4))
    have bl6 : Hid (Below w.heap.size W W6) := Lib.hid ((hb5.mono hb.size).grown gr6 (Nat.le_trans hb.size hb5.size) (fun k e => by cases e; exact Nat.le_refl _))
    have kf6 : Hid (KeepsFrom W0.heap.size W W6) := Lib.hid ((keepsFrom_below hb5).trans (keepsFrom_put gr6 z0))
    have kc6 : Hid (∀ k, w4.heap.size < k → k < w4.heap.size + 3 → W6.heap[k]? = W.heap[k]?) := Lib.hid fun k h1 h2 => (gr6.block k (by omega) (by simp; have := hgl.out; omega)).trans (hb5.block k (by omega))
    obtain ⟨m1', m2', m3', m4'⟩ := two_cells g6
    obtain ⟨m5', m6', m7'⟩ := one_cell y10
    replace hgs := Lib.hid hgs
    replace h5s := Lib.hid h5s
    replace gs6 := Lib.hid gs6
    replace z0 := Lib.hid z0
    replace z1 := Lib.hid z1
    replace z2 := Lib.hid z2
    replace z10 := Lib.hid z10
    replace g6 := Lib.hid g6
    clear hd5 gr6 hb5 s4 hlo
    by_cases hr0 : r = 0
    · subst hr0
      obtain ⟨W7, hW7, g7, gr7, gs7⟩ := put_one (u := .int .i64 (q + 1)) y10
      have x0 := (gr7.block w.heap.size m4' (by simp; have := hgl.out; omega)).trans g6.out
      have x1 := (gr7.block (w.heap.size + 1) (by have := hgl.out; omega) (by simp; have := hgl.out; omega)).trans y1
      have x2 := (gr7.block (w.heap.size + 2) (by have := hgl.out; omega) (by simp; have := hgl.out; omega)).trans y2
      have nd7 : Hid (Dsk (New (w4.heap.size + 3) W7) W7 (.agg #[.slice A5 D2.1.length c5, .slice B5 D2.2.length e5]) D2) := Lib.hid ((nd6.out.grown gr7 (fun q e => by cases e; exact k7)).new hgs.out (Below.refl _ _))
      have bl7 := Lib.hid (bl6.out.grown gr7 (Nat.le_trans hb.size bl6.out.size) (fun k e => by cases e; have := hgl.out; omega))
      have kf7 := Lib.hid (kf6.out.trans (keepsFrom_put gr7 y10))
      have kc7 : Hid (∀ k, w4.heap.size < k → k < w4.heap.size + 3 → W7.heap[k]? = W.heap[k]?) := Lib.hid fun k h1 h2 => (gr7.block k (by have := gs6.out; have := h5s.out; have := hgs.out; omega) (by simp; omega)).trans (kc6.out k h1 h2)
      replace gs7 := Lib.hid gs7
      replace g7 := Lib.hid g7
      replace x0 := Lib.hid x0
      replace x1 := Lib.hid x1
      replace x2 := Lib.hid x2
      replace y1 := Lib.hid y1
      replace y2 := Lib.hid y2
      replace y10 := Lib.hid y10
      clear gr7
      gi_wp2_with fail
      have Hsn := hsn2.out
      refine ⟨kf7.out, ⟨bl7.out, World.cell?_of_block (kc7.out (w4.heap.size + 1) (by omega) (by omega)), World.cell?_of_block (kc7.out (w4.heap.size + 1 + 1) (by omega) (by omega))⟩, ⟨A5, c5, B5, e5, ?_⟩, hb.trans bl7.out⟩
      rw [Hsn]
      exact ⟨rfl, ⟨x0.out, nd7.out.drop⟩, fun _ => nd7.out, by rw [hql.out]; exact g7.out, x1.out, x2.out, by have := gs7.out; have := gs6.out; have := h5s.out; have := hgs.out; omega⟩
    · obtain ⟨v1, v2, v3, v4⟩ := two_cells y1
      obtain ⟨W7, hW7, g7, gr7, gs7⟩ := put_two (u := .slice none 0 0) (v := .slice none 0 0) y1
      have x2 := (gr7.block (w.heap.size + 2) (by have := hgl.out; omega) (by simp)).trans y2
      obtain ⟨u1, u2, u3⟩ := one_cell x2
      obtain ⟨W8, hW8, g8, gr8, gs8⟩ := put_one (u := .int .i64 r) x2
      have x1 := (gr8.block (w.heap.size + 1) (by omega) (by simp)).trans g7
      have bl8 := Lib.hid ((bl6.out.grown gr7 (Nat.le_trans hb.size bl6.out.size) (fun k e => by cases e; omega)).grown gr8 (by have := hb.size; have := bl6.out.size; omega) (fun k e => by cases e; omega))
      have kf8 := Lib.hid (kf6.out.trans ((keepsFrom_put gr7 y1).trans (keepsFrom_put gr8 x2)))
      have hr1 : (r != 0) = true := by simpa using hr0
      have hr2 := Lib.hid hr0
      replace gs7 := Lib.hid gs7
      replace gs8 := Lib.hid gs8
      replace g7 := Lib.hid g7
      replace g8 := Lib.hid g8
      replace x1 := Lib.hid x1
      replace x2 := Lib.hid x2
      replace y1 := Lib.hid y1
      replace y2 := Lib.hid y2
      replace y10 := Lib.hid y10
      clear gr7 gr8 hr0
      gi_wp2_with fail
      have Hsn := hsn2.out
      refine ⟨kf8.out, ⟨rfl, ?_⟩, hb.trans bl8.out⟩
      rw [Hsn]
      exact ⟨hr2.out, x1.out, g8.out⟩
  case done =>
    rintro D zs W hD rfl hI hK
    obtain ⟨⟨A1, c1, B1, e1, h0, hbx, hnew, b10, b1, b2, hgs⟩, hb⟩ := hI
    obtain ⟨k1, k2, k3, k4⟩ := two_cells hbx.1
    have hnw := Lib.hid (hnew (by simp))
    clear hnew
    obtain ⟨D2, hD2⟩ : ∃ D2, (runW d p t [false, true]).1 = D2 := ⟨_, rfl⟩
    rw [hD2] at hnw k1 k2
    have h02 := Lib.hid h0
    have hD3 := Lib.hid hD2
    obtain ⟨v1, v2, v3, v4⟩ := two_cells b1
    obtain ⟨W7, hW7, g7, gr7, gs7⟩ := put_two (u := .slice A1 D2.1.length c1) (v := .slice B1 D2.2.length e1) b1
    have x2 := (gr7.block (w.heap.size + 2) (by omega) (by simp)).trans b2
    obtain ⟨u1, u2, u3⟩ := one_cell x2
    obtain ⟨W8, hW8, g8, gr8, gs8⟩ := put_one (u := .int .i64 0) x2
    have x1 := (gr8.block (w.heap.size + 1) (by omega) (by simp)).trans g7
    have hK7 := (gr7.block D (Array.getElem?_eq_some_iff.1 hK).1 (by simp; omega)).trans hK
    have hK8 := Lib.hid ((gr8.block D (Array.getElem?_eq_some_iff.1 hK7).1 (by simp; omega)).trans hK7)
    have bl8 := Lib.hid ((hb.grown gr7 hb.size (fun k e => by cases e; omega)).grown gr8 (by have := hb.size; omega) (fun k e => by cases e; omega))
    have nd8 := Lib.hid ((hnw.out.grown gr7 (fun q e => by cases e; omega)).grown gr8 (fun q e => by cases e; omega))
    have w1 := Lib.hid (two_cells x1)
    have w2 := Lib.hid (one_cell g8)
    have hgl : Hid (w.heap.size + 3 ≤ w4.heap.size) := Lib.hid s4
    replace gs7 := Lib.hid gs7
    replace gs8 := Lib.hid gs8
    replace g7 := Lib.hid g7
    replace g8 := Lib.hid g8
    replace x1 := Lib.hid x1
    replace x2 := Lib.hid x2
    replace b1 := Lib.hid b1
    replace b2 := Lib.hid b2
    replace b10 := Lib.hid b10
    replace hbx := Lib.hid hbx
    replace hK := Lib.hid hK
    clear gr7 gr8 hD2 h0 hK7
    gi_wp2
    refine ⟨by simp, .inl ⟨_, _, rfl, run_takeDeferred hK8.out, ?_⟩⟩
    have hro : ∀ r, some D = some r → ∃ o : Obj, W8.heap[r]? = some o ∧ o.isCells = false := fun r e => by cases e; exact ⟨_, hK8.out, rfl⟩
    have c1' := cell_kept w1.out.1 (grownBy_putObj' _ D (.deferred none)) hro
    have c2' := cell_kept w1.out.2.1 (grownBy_putObj' _ D (.deferred none)) hro
    have c3' := cell_kept w2.out.1 (grownBy_putObj' _ D (.deferred none)) hro
    refine ⟨.tuple #[.agg #[.slice A1 D2.1.length c1, .slice B1 D2.2.length e1], .int .i64 0], ?_, A1, c1, B1, e1, D2, 0, rfl, by rw [hpe]; exact h02.out.symm, by rw [if_pos rfl, hpe, hD3.out], (dsk_kept_new nd8.out (grownBy_putObj' _ D (.deferred none)) hro).new (by have := hgl.out; omega) (Below.refl _ _), bl8.out.trans (belowK_b hlo _ D _ _ hD hK8.out rfl rfl)⟩
    simp [results, Try.f13, go_sem, c1', c2', c3']
  case stop =>
    rintro D cd pre W hD hpre ⟨⟨rfl, hne, x1, x2⟩, hb⟩ hK
    have he : Hid ((runW d p t pre).2.2 = (runW d p t [false, true]).2.2) := Lib.hid (by
      rcases hpre with rfl | rfl
      · exact (runW_stuck (l := [false]) (b := true) hne).symm
      · rfl)
    rw [he.out] at hne x2
    obtain ⟨r, hr⟩ : ∃ r, (runW d p t [false, true]).2.2 = r := ⟨_, rfl⟩
    rw [hr] at hne x2
    have w1 := Lib.hid (two_cells x1)
    have w2 := Lib.hid (one_cell x2)
    have hK8 := Lib.hid hK
    replace hr := Lib.hid hr
    replace hne := Lib.hid hne
    replace x1 := Lib.hid x1
    replace x2 := Lib.hid x2
    clear hK hpre
    gi_wp2
    refine ⟨by simp, .inl ⟨_, _, rfl, run_takeDeferred hK8.out, ?_⟩⟩
    have hro : ∀ r, some D = some r → ∃ o : Obj, W.heap[r]? = some o ∧ o.isCells = false := fun r e => by cases e; exact ⟨_, hK8.out, rfl⟩
    have c1' := cell_kept w1.out.1 (grownBy_putObj' _ D (.deferred none)) hro
    have c2' := cell_kept w1.out.2.1 (grownBy_putObj' _ D (.deferred none)) hro
    have c3' := cell_kept w2.out.1 (grownBy_putObj' _ D (.deferred none)) hro
    refine ⟨.tuple #[.agg #[.slice none 0 0, .slice none 0 0], .int .i64 r], ?_, none, 0, none, 0, emptyD, r, rfl, by rw [hpe]; exact hr.out.symm, by rw [if_neg hne.out], dsk_empty_new _ _, hb.trans (belowK_b hlo _ D _ _ hD hK8.out rfl rfl)⟩
    simp [results, Try.f13, go_sem, c1', c2', c3']

theorem cw_run {d : Dk} {s : Int} {t : List UInt8} (hm : mayB d = true) (hs : sideB s = true) (ht : mayT t = true) : (runW d (4 + 2 * s) t [false, true]).2.2 = cwE d s t ∧ (runW d (4 + 2 * s) t [false, true]).1 = wrR (wrR d (4 + 2 * s) (t.take 128)) (5 + 2 * s) (t.drop 128) := by
  have e1 : 4 + 2 * s + 1 = 5 + 2 * s := by omega
  simp only [runW, List.foldl_cons, List.foldl_nil, stepW, halfT, cwE, hm, hs, ht, if_true, e1]
  simp

set_option maxRecDepth 100000 in
set_option maxHeartbeats 4000000 in
theorem cntWrite_any (v u : Value) (d : Dk) (s : Int) (t : List UInt8) (w : World) (h : Dsk (Old w) w v d) (hu : rBy (Old w) w [u] t) :
    Calls Try.prog 13 #[v, .int .i64 s, u] w fun e w' => ∃ A c B f, e = .returned (.tuple #[.agg #[.slice A (cwR d s t).1.length c, .slice B (cwR d s t).2.length f], .int .i64 (cwE d s t)]) ∧ Dsk (New w.heap.size w') w' (.agg #[.slice A (cwR d s t).1.length c, .slice B (cwR d s t).2.length f]) (cwR d s t) ∧ Below w.heap.size w w' := by
  by_cases hg : mayB d = true ∧ sideB s = true ∧ mayT t = true
  · obtain ⟨hm, hs, ht⟩ := hg
    obtain ⟨c1, c2⟩ := cw_run hm hs ht
    refine (callsIn_wide.1 (cntWrite_in v u d s t w h hu hm (side_ways hs) ht)).mono ?_
    rintro e w' ⟨A, c, B, f, r, q, rfl, hq, hr, hd, hb⟩
    have e1 : r = cwR d s t := by rw [hr, hq, c1, c2]; rfl
    rw [e1] at hd
    rw [e1, hq, c1]
    exact ⟨A, c, B, f, rfl, hd, hb⟩
  · obtain ⟨A, c, B, e0, rfl, _⟩ := id h.open
    obtain ⟨E, ce, rfl, l1, m1, hby⟩ := rBy_byt (B := w.heap.size) (fun _ h => h) hu
    obtain ⟨w3, hw3, f1, f2, f3, hsz, hB⟩ := box_dde w (.slice A d.1.length c) (.slice B d.2.length e0)
    obtain ⟨k1, k2, k3, k4⟩ := two_cells f1
    have H := Lib.hid (h.below hB)
    have U := Lib.hid (hby.below hB)
    have hne : cwE d s t ≠ 0 := by
      unfold cwE
      cases hm : mayB d with
      | false => simp
      | true =>
        cases hs : sideB s with
        | false => simp
        | true =>
          cases ht : mayT t with
          | false => simp
          | true => exact absurd ⟨hm, hs, ht⟩ hg
    have hR : Hid (cwR d s t = emptyD) := Lib.hid (by simp [cwR, hne])
    replace hsz := Lib.hid hsz
    replace f1 := Lib.hid f1
    replace f2 := Lib.hid f2
    replace f3 := Lib.hid f3
    by_cases hc : csE d s = 0
    · have hct : chkT t = 8 ∧ cwE d s t = 8 := by
        have h1 : mayB d = true ∧ sideB s = true := by
          unfold csE at hc
          cases hm : mayB d <;> cases hs : sideB s <;> simp_all
        have h2 : mayT t = false := by
          cases ht : mayT t with
          | false => rfl
          | true => exact absurd ⟨h1.1, h1.2, ht⟩ hg
        exact ⟨chkT_bad h2, by simp [cwE, h1.1, h1.2, h2]⟩
      have hct1 := Lib.hid hct.1
      have hct2 := Lib.hid hct.2
      replace hc := Lib.hid hc
      clear hg hne hct h hu hby
      go_enter Try.func13, Try.ntmps13
      go_upto_region 1 with fail
      clear hw3
      go_wp2_with fail
      with_reducible refine (checkSide_any _ d s _ H.out).mono ?_
      rintro e w4 ⟨rfl, hb4⟩
      rw [hc.out]
      have U4 := Lib.hid ((U.out.below (hb4.mono hB.size)).more (Nat.le_trans hB.size hb4.size))
      have F2 := (hb4.block (w.heap.size + 1) (by rw [hsz.out]; omega)).trans f2.out
      have F3 := (hb4.block (w.heap.size + 2) (by rw [hsz.out]; omega)).trans f3.out
      have B4 := hB.trans (hb4.mono hB.size)
      clear k1 k2 k3 k4 hb4
      obtain ⟨v1, v2, v3, v4⟩ := two_cells F2
      obtain ⟨W7, hW7, g7, gr7, gs7⟩ := put_two (u := .slice none 0 0) (v := .slice none 0 0) F2
      have x2 := (gr7.block (w.heap.size + 2) (Array.getElem?_eq_some_iff.1 F3).1 (by simp)).trans F3
      obtain ⟨u1, u2, u3⟩ := one_cell x2
      obtain ⟨W8, hW8, g8, gr8, gs8⟩ := put_one (u := .int .i64 8) x2
      have x1 := (gr8.block (w.heap.size + 1) (by omega) (by simp)).trans g7
      obtain ⟨y1, y2, _, _⟩ := two_cells x1
      obtain ⟨y3, _, _⟩ := one_cell g8
      have bl8 := Lib.hid ((B4.grown gr7 B4.size (fun k e => by cases e; omega)).grown gr8 (by have := B4.size; omega) (fun k e => by cases e; omega))
      replace g7 := Lib.hid g7
      replace g8 := Lib.hid g8
      replace x1 := Lib.hid x1
      replace x2 := Lib.hid x2
      replace F2 := Lib.hid F2
      replace F3 := Lib.hid F3
      clear gr7 gr8 gs7 gs8
      go_wp2_with fail
      with_reducible refine (checkT_any E t.length ce t (Lib.hid rfl) l1 m1 _ U4.out).mono ?_
      rintro e w5 ⟨rfl, rfl⟩
      rw [hct1.out]
      go_wp2_with fail
      exact bodyPost_ret (v := .tuple #[.agg #[.slice none 0 0, .slice none 0 0], .int .i64 8]) (by simp [results, Try.results13, go_sem, y1, y2, y3]) rfl ⟨none, 0, none, 0, by rw [hR.out, hct2.out]; rfl, by rw [hR.out]; exact dsk_empty_new _ _, bl8.out⟩
    · obtain ⟨q, hq⟩ : ∃ q, csE d s = q := ⟨_, rfl⟩
      have hq2 : Hid (cwE d s t = q) := Lib.hid (by
        rw [← hq]
        unfold csE at hc ⊢
        unfold cwE
        cases hm : mayB d <;> cases hs : sideB s <;> simp_all)
      have hq0 : (q != 0) = true := by rw [← hq]; simpa using hc
      replace hq := Lib.hid hq
      clear hg hne h hu hby hc
      go_enter Try.func13, Try.ntmps13
      go_upto_region 1 with fail
      clear hw3
      go_wp2_with fail
      with_reducible refine (checkSide_any _ d s _ H.out).mono ?_
      rintro e w4 ⟨rfl, hb4⟩
      rw [hq.out]
      have F2 := (hb4.block (w.heap.size + 1) (by rw [hsz.out]; omega)).trans f2.out
      have F3 := (hb4.block (w.heap.size + 2) (by rw [hsz.out]; omega)).trans f3.out
      have B4 := hB.trans (hb4.mono hB.size)
      clear k1 k2 k3 k4 hb4
      obtain ⟨v1, v2, v3, v4⟩ := two_cells F2
      obtain ⟨W7, hW7, g7, gr7, gs7⟩ := put_two (u := .slice none 0 0) (v := .slice none 0 0) F2
      have x2 := (gr7.block (w.heap.size + 2) (Array.getElem?_eq_some_iff.1 F3).1 (by simp)).trans F3
      obtain ⟨u1, u2, u3⟩ := one_cell x2
      obtain ⟨W8, hW8, g8, gr8, gs8⟩ := put_one (u := .int .i64 q) x2
      have x1 := (gr8.block (w.heap.size + 1) (by omega) (by simp)).trans g7
      obtain ⟨y1, y2, _, _⟩ := two_cells x1
      obtain ⟨y3, _, _⟩ := one_cell g8
      have bl8 := Lib.hid ((B4.grown gr7 B4.size (fun k e => by cases e; omega)).grown gr8 (by have := B4.size; omega) (fun k e => by cases e; omega))
      replace g7 := Lib.hid g7
      replace g8 := Lib.hid g8
      replace x1 := Lib.hid x1
      replace x2 := Lib.hid x2
      replace F2 := Lib.hid F2
      replace F3 := Lib.hid F3
      clear gr7 gr8 gs7 gs8
      go_wp2_with fail
      exact bodyPost_ret (v := .tuple #[.agg #[.slice none 0 0, .slice none 0 0], .int .i64 q]) (by simp [results, Try.results13, go_sem, y1, y2, y3]) rfl ⟨none, 0, none, 0, by rw [hR.out, hq2.out]; rfl, by rw [hR.out]; exact dsk_empty_new _ _, bl8.out⟩
end Go.Proofs.Ytkklkhnoljmgbaa

/-
  The statements' own example of layer 7: a count goes up, and down. Conditions: none.
-/
namespace Go.Proofs.Ytkklkhnoljmgbaa
open Go.RowKit

theorem zero_up : upE (zeros 256) 9 = 0 ∧ (upV (zeros 256) 9).length = 256 ∧ (upV (zeros 256) 9)[9]?.getD 0 = 1 ∧ dnE (upV (zeros 256) 9) 9 = 0 ∧ dnV (upV (zeros 256) 9) 9 = zeros 256 ∧ mayT (upV (zeros 256) 9) = true := by decide +kernel
theorem new_by (w : World) : rBy (New w.heap.size (w.alloc (.cells (rowA (zeros 256)) 5))) (w.alloc (.cells (rowA (zeros 256)) 5)) [.slice (some ⟨w.heap.size, 0, none⟩) 256 256] (zeros 256) := by
  have := row_by w (zeros 256) (by rw [zeros_length]; omega)
  rwa [zeros_length] at this
/-- A new table, as a contract. -/
theorem cntNew_by (w : World) : Calls Try.prog 11 #[] w fun e w' => ∃ g, e = .returned (.slice (some ⟨g, 0, none⟩) 256 256) ∧ rBy (New w.heap.size w') w' [.slice (some ⟨g, 0, none⟩) 256 256] (zeros 256) ∧ Below w.heap.size w w' := by
  refine (cntNew_any w).mono ?_
  rintro e w' ⟨rfl, rfl⟩
  exact ⟨_, rfl, new_by w, balloc (Below.refl _ _) _⟩
theorem refNewT_by (w : World) : Calls Try.prog 27 #[] w fun e w' => ∃ g, e = .returned (.slice (some ⟨g, 0, none⟩) 256 256) ∧ rBy (New w.heap.size w') w' [.slice (some ⟨g, 0, none⟩) 256 256] (zeros 256) ∧ Below w.heap.size w w' := by
  refine (refNewT_any w).mono ?_
  rintro e w' ⟨rfl, rfl⟩
  exact ⟨_, rfl, new_by w, balloc (Below.refl _ _) _⟩
/-- What a call of Up on a table that is opened tells. -/
theorem up_open (v : Value) (t : List UInt8) (n : Int) (w : World) (h : rBy (Old w) w [v] t) :
    Calls Try.prog 12 #[v, .int .i64 n] w fun e w' => ∃ E c, e = .returned (.tuple #[.slice E (upV t n).length c, .int .i64 (upE t n)]) ∧ rBy (New w.heap.size w') w' [.slice E (upV t n).length c] (upV t n) ∧ Below w.heap.size w w' := by
  refine (up_any v t n w h).mono ?_
  rintro e w' ⟨u, rfl, hu, hb⟩
  obtain ⟨E, c, rfl, _⟩ := id (rBy_open hu)
  exact ⟨E, c, rfl, hu, hb⟩
theorem down_open (v : Value) (t : List UInt8) (n : Int) (w : World) (h : rBy (Old w) w [v] t) :
    Calls Try.prog 10 #[v, .int .i64 n] w fun e w' => ∃ E c, e = .returned (.tuple #[.slice E (dnV t n).length c, .int .i64 (dnE t n)]) ∧ rBy (New w.heap.size w') w' [.slice E (dnV t n).length c] (dnV t n) ∧ Below w.heap.size w w' := by
  refine (down_any v t n w h).mono ?_
  rintro e w' ⟨u, rfl, hu, hb⟩
  obtain ⟨E, c, rfl, _⟩ := id (rBy_open hu)
  exact ⟨E, c, rfl, hu, hb⟩

set_option maxRecDepth 100000 in
set_option maxHeartbeats 4000000 in
theorem alive7 (w : World) : Calls Try.prog 9 #[] w fun e w' => e = .returned (.bool true) ∧ Below w.heap.size w w' := by
  obtain ⟨z1, z2, z3, z4, z5, _⟩ := zero_up
  obtain ⟨Z, hZ⟩ : ∃ Z, zeros 256 = Z := ⟨_, rfl⟩
  have hnew : Hid (∀ W, Calls Try.prog 11 #[] W fun e w' => ∃ g, e = .returned (.slice (some ⟨g, 0, none⟩) 256 256) ∧ rBy (New W.heap.size w') w' [.slice (some ⟨g, 0, none⟩) 256 256] Z ∧ Below W.heap.size W w') := Lib.hid fun W => by rw [← hZ]; exact cntNew_by W
  rw [hZ] at z1 z2 z3 z4 z5
  have hup : Hid (∀ (v : Value) W, rBy (Old W) W [v] Z → Calls Try.prog 12 #[v, .int .i64 9] W fun e w' => ∃ E c, e = .returned (.tuple #[.slice E 256 c, .int .i64 0]) ∧ rBy (New W.heap.size w') w' [.slice E 256 c] (upV Z 9) ∧ Below W.heap.size W w') := Lib.hid fun v W h => by
    have := up_open v Z 9 W h
    rwa [z1, z2] at this
  obtain ⟨T, hT⟩ : ∃ T, upV Z 9 = T := ⟨_, rfl⟩
  rw [hT] at hup z2 z3 z4 z5
  have hZl : Z.length = 256 := by rw [← hZ, zeros_length]
  have hdn : Hid (∀ (v : Value) W, rBy (Old W) W [v] T → Calls Try.prog 10 #[v, .int .i64 9] W fun e w' => ∃ E c, e = .returned (.tuple #[.slice E 256 c, .int .i64 0]) ∧ rBy (New W.heap.size w') w' [.slice E 256 c] Z ∧ Below W.heap.size W w') := Lib.hid fun v W h => by
    have := down_open v T 9 W h
    rwa [z4, z5, hZl] at this
  replace z2 := Lib.hid z2
  replace z3 := Lib.hid z3
  clear z1 z4 z5 hZl hT hZ
  go_enter Try.func9, Try.ntmps9
  go_wp2_with fail
  with_reducible refine (hnew.out _).mono ?_
  rintro e w1 ⟨g1, rfl, h1, hb1⟩
  have H1 := Lib.hid (stab_by.drop h1)
  clear h1
  go_wp2_with fail
  with_reducible refine (hup.out _ _ H1.out).mono ?_
  rintro e w2 ⟨E2, c2, rfl, h2, hb2⟩
  have H2 := Lib.hid (stab_by.drop h2)
  have B2 := Lib.hid (hb1.trans (hb2.mono hb1.size))
  clear h2 hb2 hb1 H1
  go_wp2_with fail
  with_reducible refine (hdn.out _ _ H2.out).mono ?_
  rintro e w3 ⟨E3, c3, rfl, h3, hb3⟩
  have H3 := Lib.hid (stab_by.drop h3)
  have H2' := Lib.hid (stab_by.old H2.out hb3)
  have B3 := Lib.hid (B2.out.trans (hb3.mono B2.out.size))
  clear h3 hb3 H2 B2
  obtain ⟨A, c, e, _, _, hcell⟩ := rBy_open H2'.out
  have hc9 := hcell 9 (by rw [z2.out]; omega)
  obtain ⟨ad, rfl, hlt, hc9⟩ := hc9
  rw [z2.out] at e
  cases e
  rw [z3.out] at hc9
  have hc9' : w3.cell? (ad.add 9) = some (.int .u8 1) := hc9
  have hlt' : (ad.add 9).block < w3.heap.size := hlt
  have HW3 : Hid (∀ W, Below w3.heap.size w3 W → W.cell? ⟨ad.block, ad.off + 9, none⟩ = some (.int .u8 1)) := Lib.hid fun W hW => (show W.cell? (ad.add 9) = _ from (hW.cell hlt').trans hc9')
  clear hcell hc9 hlt hc9' hlt'
  go_upto_region 5 with fail
  refine wp_region_fx (by kernel_rfl) (fun W => Below w3.heap.size w3 W) (fun i => match i with
      | 15 => some (fun v W => ∃ g, v = .slice (some ⟨g, 0, none⟩) 256 256 ∧ rBy (Old W) W [.slice (some ⟨g, 0, none⟩) 256 256] Z)
      | _ => none) (fun i => match i with
      | 16 => some (.string ⟨Z.toArray⟩)
      | _ => none) (by kernel_rfl) (Below.refl _ _).drew (fun w w' h hb => h.trans (hb.mono h.size)) ?tst ?_
  case tst =>
    intro j φ x W W' hp hx hb
    match j, hp with
    | 15, hp =>
      cases hp
      obtain ⟨g, e, h1⟩ := hx
      exact ⟨g, e, stab_by.old h1 hb⟩
  repeat (first
    | (refine wpAs_skip rfl ?_; simp only [Act.put, List.setIfInBounds_toArray, List.set_cons_zero, List.set_cons_succ])
    | (refine wpAs_pure (v := ?_) rfl rfl ?_ ?_; rotate_left; (intro W hC hE; clear hE; (have q1 := HW3.out W hC); clear hC; go_simp; done); simp only [Act.put, List.setIfInBounds_toArray, List.set_cons_zero, List.set_cons_succ])
    | (refine wpAs_pure (v := ?_) rfl rfl ?_ ?_; rotate_left; (intro W hC hE; clear hE; (have q1 := HW3.out W hC); clear hC; go_simp; with_reducible rfl); simp only [Act.put, List.setIfInBounds_toArray, List.set_cons_zero, List.set_cons_succ]))
  refine wpAs_pure (v := .string ⟨(Z).toArray⟩) rfl rfl ?_ ?_
  · intro W hC hE
    have h : rBy (Old W) W [.slice E3 256 c3] (Z) := (stab_by.old H3.out hC)
    have hs := rBy_str0 h
    clear h hC hE
    refine run_convert_op (v := .slice E3 256 c3) _ _ _ rfl ?_ hs
    first | rfl | (simp; done) | (go_simp; done)
  simp only [Act.put, List.setIfInBounds_toArray, List.set_cons_zero, List.set_cons_succ]
  refine wpAs_act rfl rfl ?_ ?_
  · intro W hC hE
    refine does_enter (f := 11) (args := #[]) ?_ ?_
    · go_simp
    · refine (hnew.out W).mono ?_
      rintro e W' ⟨g, rfl, h1, hw⟩
      exact ⟨_, rfl, ⟨g, rfl, stab_by.drop h1⟩, hw⟩
  simp only [Act.put, List.setIfInBounds_toArray, List.set_cons_zero, List.set_cons_succ, envAdd]
  intro x33
  refine wpAs_fixed rfl rfl rfl ?_ ?_
  · intro W hC hE
    obtain ⟨g, rfl, h1⟩ := hE.1 rfl
    have hs := rBy_str0 h1
    clear hE hC h1
    rw [run_convert_op (v := .slice (some ⟨g, 0, none⟩) 256 256) _ _ _ rfl (by first | rfl | simp) hs]
    exact ⟨rfl, Below.refl _ _⟩
  simp only [Act.put, List.setIfInBounds_toArray, List.set_cons_zero, List.set_cons_succ]
  repeat (first
    | (refine wpAs_skip rfl ?_; simp only [Act.put, List.setIfInBounds_toArray, List.set_cons_zero, List.set_cons_succ])
    | (refine wpAs_pure (v := ?_) rfl rfl ?_ ?_; rotate_left; (intro W hC hE; clear hE; skip; clear hC; go_simp; done); simp only [Act.put, List.setIfInBounds_toArray, List.set_cons_zero, List.set_cons_succ])
    | (refine wpAs_pure (v := ?_) rfl rfl ?_ ?_; rotate_left; (intro W hC hE; clear hE; skip; clear hC; go_simp; with_reducible rfl); simp only [Act.put, List.setIfInBounds_toArray, List.set_cons_zero, List.set_cons_succ]))
  refine wpAs_end fun W hC hE => ?_
  clear hE
  go_wp2_with fail
  go_ret
  exact ⟨rfl, B3.out.trans (hC.mono B3.out.size)⟩
end Go.Proofs.Ytkklkhnoljmgbaa

/-
  Tables, plain: what turns leave. Conditions: those that each lemma states.
-/
namespace Go.Proofs.Ytkklkhnoljmgbaa
open Go.RowKit

theorem set_get {t : List UInt8} {k : Nat} {x : UInt8} (h : k < t.length) : (t.set k x)[k]?.getD 0 = x := by simp [h]
theorem set_other {t : List UInt8} {k j : Nat} {x : UInt8} (h : j ≠ k) : (t.set k x)[j]?.getD 0 = t[j]?.getD 0 := by simp [List.getElem?_set_ne (Ne.symm h)]
theorem mayT_set {t : List UInt8} {k : Nat} {x : UInt8} (h : mayT t = true) (hk : 8 ≤ k) : mayT (t.set k x) = true :=
  mayT_yes (by rw [List.length_set]; exact mayT_len h) fun j hj => by rw [set_other (by omega)]; exact mayT_at h hj
theorem up_ways {t : List UInt8} {n : Int} (h : upE t n = 0) : ∃ k : Nat, n = k ∧ mayT t = true ∧ 8 ≤ k ∧ k < 256 ∧ t.length = 256 ∧ t[k]?.getD 0 ≠ 255 ∧ upV t k = t.set k (t[k]?.getD 0 + 1) := by
  rcases turn_ways t n 255 with ⟨_, h2⟩ | ⟨_, _, h2⟩ | ⟨k, _, _, _, _, _, h2⟩ | ⟨k, hm, rfl, h8, h256, hk, h2⟩
  · rw [upE, h2] at h; cases h
  · rw [upE, h2] at h; cases h
  · rw [upE, h2] at h; cases h
  · exact ⟨k, rfl, hm, h8, h256, mayT_len hm, hk, by simp [upV, h]⟩
theorem dn_ways {t : List UInt8} {n : Int} (h : dnE t n = 0) : ∃ k : Nat, n = k ∧ mayT t = true ∧ 8 ≤ k ∧ k < 256 ∧ t.length = 256 ∧ t[k]?.getD 0 ≠ 0 ∧ dnV t k = t.set k (t[k]?.getD 0 - 1) := by
  rcases turn_ways t n 0 with ⟨_, h2⟩ | ⟨_, _, h2⟩ | ⟨k, _, _, _, _, _, h2⟩ | ⟨k, hm, rfl, h8, h256, hk, h2⟩
  · rw [dnE, h2] at h; cases h
  · rw [dnE, h2] at h; cases h
  · rw [dnE, h2] at h; cases h
  · exact ⟨k, rfl, hm, h8, h256, mayT_len hm, hk, by simp [dnV, h]⟩
theorem up_ok {t : List UInt8} {k : Nat} (hm : mayT t = true) (h8 : 8 ≤ k) (h : k < 256) (hx : t[k]?.getD 0 ≠ 255) : upE t k = 0 ∧ upV t k = t.set k (t[k]?.getD 0 + 1) := by
  have h1 : upE t k = 0 := turnE_ok hm (inT_of h8 h) (by simpa using hx)
  exact ⟨h1, by simp [upV, h1]⟩
theorem dn_ok {t : List UInt8} {k : Nat} (hm : mayT t = true) (h8 : 8 ≤ k) (h : k < 256) (hx : t[k]?.getD 0 ≠ 0) : dnE t k = 0 ∧ dnV t k = t.set k (t[k]?.getD 0 - 1) := by
  have h1 : dnE t k = 0 := turnE_ok hm (inT_of h8 h) (by simpa using hx)
  exact ⟨h1, by simp [dnV, h1]⟩
theorem byte_back {x : UInt8} : x + 1 - 1 = x ∧ x - 1 + 1 = x := ⟨UInt8.add_sub_cancel x 1, UInt8.sub_add_cancel x 1⟩
theorem byte_up_ne {x : UInt8} (h : x ≠ 255) : x + 1 ≠ 0 := fun e => by
  have := (up_byte h).1
  rw [e] at this
  have h0 : ((0 : UInt8).toNat : Int) = 0 := rfl
  omega
theorem byte_dn_ne {x : UInt8} (h : x ≠ 0) : x - 1 ≠ 255 := fun e => by
  have := dn_byte h
  rw [e] at this
  have h0 : ((255 : UInt8).toNat : Int) = 255 := rfl
  omega
theorem set_same {t : List UInt8} {k : Nat} (h : k < t.length) : t.set k (t[k]?.getD 0) = t := by
  rw [List.getElem?_eq_getElem h]
  simp
/-- What is counted up, and then down. -/
theorem up_down {t : List UInt8} {k : Nat} (hm : mayT t = true) (h8 : 8 ≤ k) (h : k < 256) (hx : t[k]?.getD 0 ≠ 255) : dnE (t.set k (t[k]?.getD 0 + 1)) k = 0 ∧ dnV (t.set k (t[k]?.getD 0 + 1)) k = t := by
  have hl := mayT_len hm
  have hg : (t.set k (t[k]?.getD 0 + 1))[k]?.getD 0 = t[k]?.getD 0 + 1 := set_get (by omega)
  obtain ⟨h1, h2⟩ := dn_ok (t := t.set k (t[k]?.getD 0 + 1)) (k := k) (mayT_set hm h8) h8 h (by rw [hg]; exact byte_up_ne hx)
  refine ⟨h1, ?_⟩
  rw [h2, hg, byte_back.1, List.set_set, set_same (by omega)]
theorem in_ways (a : Int) : (a < 8 ∧ inT a = false) ∨ (8 ≤ a ∧ a < 256 ∧ inT a = true) ∨ (8 ≤ a ∧ 256 ≤ a ∧ inT a = false) := by
  cases h : inT a with
  | true =>
    obtain ⟨k, rfl, h1, h2⟩ := inT_nat h
    exact .inr (.inl ⟨by omega, by omega, rfl⟩)
  | false =>
    rcases inT_no h with h1 | h1
    · exact .inl ⟨h1, rfl⟩
    · exact .inr (.inr ⟨by omega, h1, rfl⟩)
theorem down_up {t : List UInt8} {k : Nat} (hm : mayT t = true) (h8 : 8 ≤ k) (h : k < 256) (hx : t[k]?.getD 0 ≠ 0) : upE (t.set k (t[k]?.getD 0 - 1)) k = 0 ∧ upV (t.set k (t[k]?.getD 0 - 1)) k = t := by
  have hl := mayT_len hm
  have hg : (t.set k (t[k]?.getD 0 - 1))[k]?.getD 0 = t[k]?.getD 0 - 1 := set_get (by omega)
  obtain ⟨h1, h2⟩ := up_ok (t := t.set k (t[k]?.getD 0 - 1)) (k := k) (mayT_set hm h8) h8 h (by rw [hg]; exact byte_dn_ne hx)
  refine ⟨h1, ?_⟩
  rw [h2, hg, byte_back.2, List.set_set, set_same (by omega)]
/-- Counts of two blocks, in either order. -/
theorem apart_ok {t : List UInt8} {i k : Nat} (h : upE t i = 0) (h' : dnE t k = 0) : dnE (upV t i) k = 0 ∧ upE (dnV t k) i = 0 ∧ dnV (upV t i) k = upV (dnV t k) i ∧ (i = k → dnV (upV t i) k = t) ∧ (dnV (upV t i) k).length = 256 := by
  obtain ⟨i', e1, hm, i8, i256, hl, hx, hV⟩ := up_ways h
  obtain ⟨k', e2, _, k8, k256, _, hy, hW⟩ := dn_ways h'
  obtain rfl : i = i' := by omega
  obtain rfl : k = k' := by omega
  rw [hV, hW]
  by_cases hik : i = k
  · subst hik
    obtain ⟨a1, a2⟩ := up_down hm i8 i256 hx
    obtain ⟨b1, b2⟩ := down_up hm i8 i256 hy
    exact ⟨a1, b1, by rw [a2, b2], fun _ => a2, by rw [a2, hl]⟩
  · have g1 : (t.set i (t[i]?.getD 0 + 1))[k]?.getD 0 = t[k]?.getD 0 := set_other (fun e => hik e.symm)
    have g2 : (t.set k (t[k]?.getD 0 - 1))[i]?.getD 0 = t[i]?.getD 0 := set_other hik
    obtain ⟨a1, a2⟩ := dn_ok (t := t.set i (t[i]?.getD 0 + 1)) (k := k) (mayT_set hm i8) k8 k256 (by rw [g1]; exact hy)
    obtain ⟨b1, b2⟩ := up_ok (t := t.set k (t[k]?.getD 0 - 1)) (k := i) (mayT_set hm k8) i8 i256 (by rw [g2]; exact hx)
    rw [g1] at a2
    rw [g2] at b2
    refine ⟨a1, b1, ?_, fun e => absurd e hik, ?_⟩
    · rw [a2, b2, List.set_comm _ _ hik]
    · rw [a2, List.length_set, List.length_set, hl]
end Go.Proofs.Ytkklkhnoljmgbaa

/-
  Tables on their sides, plain: what is written is read, the other side stays. Conditions: those that each lemma states.
-/
namespace Go.Proofs.Ytkklkhnoljmgbaa
open Go.RowKit

theorem sdV_eq (d : Dk) {s : Int} (h : s = 0 ∨ s = 1) : sdV d s = rdB d (4 + 2 * s) ++ rdB d (5 + 2 * s) := by
  have h1 : thereB (4 + 2 * s) = true := by rcases h with rfl | rfl <;> decide
  have h2 : thereB (5 + 2 * s) = true := by rcases h with rfl | rfl <;> decide
  simp [sdV, rdB, h1, h2]
theorem side_of {s : Int} (h : s = 0 ∨ s = 1) : sideB s = true := by rcases h with rfl | rfl <;> rfl
theorem cw_ok {d : Dk} {s : Int} {t : List UInt8} (h : cwE d s t = 0) : mayB d = true ∧ (s = 0 ∨ s = 1) ∧ mayT t = true ∧ wErr d (4 + 2 * s) (t.take 128) = 0 ∧ wErr (wrR d (4 + 2 * s) (t.take 128)) (5 + 2 * s) (t.drop 128) = 0 ∧ cwR d s t = wrR (wrR d (4 + 2 * s) (t.take 128)) (5 + 2 * s) (t.drop 128) := by
  have hr : cwR d s t = wrR (wrR d (4 + 2 * s) (t.take 128)) (5 + 2 * s) (t.drop 128) := by rw [cwR, if_pos h]
  unfold cwE at h
  cases hm : mayB d with
  | false => rw [hm] at h; simp at h
  | true =>
    cases hs : sideB s with
    | false => rw [hm, hs] at h; simp at h
    | true =>
      cases ht : mayT t with
      | false => rw [hm, hs, ht] at h; simp at h
      | true =>
        rw [hm, hs, ht] at h
        simp only [if_true] at h
        by_cases h1 : wErr d (4 + 2 * s) (t.take 128) = 0
        · rw [if_pos h1] at h
          exact ⟨rfl, side_ways hs, rfl, h1, h, hr⟩
        · rw [if_neg h1] at h
          exact absurd h h1
/-- What was written is read; the other side stays; two writes more wait. -/
theorem sides_ok {d : Dk} {s : Int} {t : List UInt8} (h : cwE d s t = 0) : crE (cwR d s t) s = 0 ∧ crV (cwR d s t) s = t ∧ crE (cwR d s t) (1 - s) = crE d (1 - s) ∧ crV (cwR d s t) (1 - s) = crV d (1 - s) ∧ (cwR d s t).2.length = d.2.length + 2 ∧ mayB (cwR d s t) = true ∧ t.length = 256 := by
  obtain ⟨hm, hs, ht, e1, e2, hr⟩ := cw_ok h
  obtain ⟨m1, l1, _⟩ := may_wrR e1
  obtain ⟨m2, l2, _⟩ := may_wrR e2
  have hsd := side_of hs
  have hs' : 1 - s = 0 ∨ 1 - s = 1 := by rcases hs with rfl | rfl <;> decide
  have hsd' := side_of hs'
  have v1 : sdV (cwR d s t) s = t := by
    rw [sdV_eq _ hs, hr, (rdB_same e2).1, rdB_write e2 (by omega), (rdB_same e1).1, List.take_append_drop]
  have v2 : sdV (cwR d s t) (1 - s) = sdV d (1 - s) := by
    rw [sdV_eq _ hs', sdV_eq _ hs', hr, rdB_write e2 (by rcases hs with rfl | rfl <;> decide), rdB_write e1 (by rcases hs with rfl | rfl <;> decide), rdB_write e2 (by rcases hs with rfl | rfl <;> decide), rdB_write e1 (by rcases hs with rfl | rfl <;> decide)]
  have m3 : mayB (cwR d s t) = true := by rw [hr]; exact m2
  have c1 : crE (cwR d s t) s = 0 := by simp [crE, m3, hsd, v1, ht]
  have c2 : crE (cwR d s t) (1 - s) = crE d (1 - s) := by simp [crE, m3, hm, hsd', v2]
  refine ⟨c1, by rw [crV, if_pos c1, v1], c2, by rw [crV, crV, c2, v2], ?_, m3, mayT_len ht⟩
  rw [hr, l2, l1]
theorem cntRead_open (v : Value) (d : Dk) (s : Int) (w : World) (h : Dsk (Old w) w v d) :
    Calls Try.prog 15 #[v, .int .i64 s] w fun e w' => ∃ E c, e = .returned (.tuple #[.slice E (crV d s).length c, .int .i64 (crE d s)]) ∧ rBy (New w.heap.size w') w' [.slice E (crV d s).length c] (crV d s) ∧ Below w.heap.size w w' := by
  refine (cntRead_any v d s w h).mono ?_
  rintro e w' ⟨u, rfl, hu, hb⟩
  obtain ⟨E, c, rfl, _⟩ := id (rBy_open hu)
  exact ⟨E, c, rfl, hu, hb⟩
end Go.Proofs.Ytkklkhnoljmgbaa

/-
  Package code: GetTwo and GetFour. Conditions: those that each lemma states.
-/
namespace Go.Proofs.Ytkklkhnoljmgbaa
open Go.RowKit

/-! ### The contracts for every argument -/
def te (n : Int) : Int := if 0 ≤ n ∧ n < 65536 then 0 else 2
def tb (n : Int) : List UInt8 := if 0 ≤ n ∧ n < 65536 then le 2 n else []
def ge (m : Nat) (len : Nat) (k : Int) : Int := if 0 ≤ k ∧ k + m ≤ len then 0 else 8
def gv (m : Nat) (xs : List UInt8) (k : Int) : Int := if 0 ≤ k ∧ k + m ≤ xs.length then num ((xs.drop k.toNat).take m) else 0
theorem te_yes {n : Int} (h : 0 ≤ n ∧ n < 65536) : te n = 0 := if_pos h
theorem te_no {n : Int} (h : ¬ (0 ≤ n ∧ n < 65536)) : te n = 2 := if_neg h
theorem tb_yes {n : Int} (h : 0 ≤ n ∧ n < 65536) : tb n = le 2 n := if_pos h
theorem tb_no {n : Int} (h : ¬ (0 ≤ n ∧ n < 65536)) : tb n = [] := if_neg h
theorem ge_yes {m len : Nat} {k : Int} (h : 0 ≤ k ∧ k + m ≤ len) : ge m len k = 0 := if_pos h
theorem ge_no {m len : Nat} {k : Int} (h : ¬ (0 ≤ k ∧ k + m ≤ len)) : ge m len k = 8 := if_neg h
theorem gv_yes {m : Nat} {xs : List UInt8} {k : Int} (h : 0 ≤ k ∧ k + m ≤ xs.length) : gv m xs k = num ((xs.drop k.toNat).take m) := if_pos h
theorem gv_no {m : Nat} {xs : List UInt8} {k : Int} (h : ¬ (0 ≤ k ∧ k + m ≤ xs.length)) : gv m xs k = 0 := if_neg h
theorem gv_bounds (m : Nat) (xs : List UInt8) (k : Int) : 0 ≤ gv m xs k ∧ gv m xs k < (256 : Int) ^ m := by
  by_cases h : 0 ≤ k ∧ k + m ≤ xs.length
  · rw [gv_yes h]
    have hl : ((xs.drop k.toNat).take m).length = m := by simp; omega
    have h1 := num_lt ((xs.drop k.toNat).take m)
    rw [hl] at h1
    exact ⟨num_nonneg _, h1⟩
  · rw [gv_no h]
    exact ⟨by omega, Int.pow_pos (by omega)⟩

end Go.Proofs.Ytkklkhnoljmgbaa

/-
  Package sum: Seal, Open. Conditions: those that each lemma states.
-/
namespace Go.Proofs.Ytkklkhnoljmgbaa
open Go.RowKit

/-- Bytes, and noughts behind, 124 in all; these sealed. -/
def padN (xs : List UInt8) : List UInt8 := xs ++ zeros (124 - xs.length)
def sealN (xs : List UInt8) : List UInt8 := le 4 (crc (padN xs) : Nat) ++ padN xs
theorem padN_length {xs : List UInt8} (h : xs.length ≤ 124) : (padN xs).length = 124 := by simp [padN, zeros]; omega
theorem sealN_length {xs : List UInt8} (h : xs.length ≤ 124) : (sealN xs).length = 128 := by simp [sealN, le_length, padN_length h]
theorem splice_pad {xs : List UInt8} (h : xs.length ≤ 124) : splice (zeros 128) 4 xs = zeros 4 ++ padN xs := by
  simp only [splice, zeros, padN, List.take_replicate, List.drop_replicate]
  rw [show min 4 128 = 4 from rfl, show 128 - (4 + xs.length) = 124 - xs.length by omega]
theorem splice_seal (ys zs : List UInt8) (h : ys.length = 4) : splice (zeros 4 ++ zs) 0 ys = ys ++ zs := by
  simp only [splice, List.take_zero, List.nil_append, Nat.zero_add, h]
  rw [List.drop_left' (by simp [zeros])]

def fits (xs : List UInt8) : Prop := num (xs.take 4) = (crc (xs.drop 4) : Nat)
theorem own_base {w : World} {B B' : Nat} {e : TypeId} {v : Value} {n : Nat} {xs : List Value} (h : w.ownsRow B e 1 v n xs) (hb : B' ≤ B) : w.ownsRow B' e 1 v n xs := by
  refine ⟨h.1, h.2.imp id ?_⟩
  rintro ⟨g, cap, cur, h1, h2, h3⟩
  exact ⟨g, cap, cur, h1, Nat.le_trans hb h2, h3⟩
theorem fits_seal (xs : List UInt8) : fits (sealN xs) := by
  unfold fits sealN
  rw [List.take_left' (le_length 4 _), List.drop_left' (le_length 4 _)]
  exact num_le 4 _ (by omega) (by have := crc_lt (padN xs); simp; omega)
theorem seal_drop (xs : List UInt8) : (sealN xs).drop 4 = padN xs := by
  unfold sealN
  rw [List.drop_left' (le_length 4 _)]
theorem padN_full {xs : List UInt8} (h : xs.length = 124) : padN xs = xs := by simp [padN, zeros, h]
theorem seal_back {xs : List UInt8} (h : xs.length = 128) (hf : fits xs) : sealN (xs.drop 4) = xs := by
  unfold fits at hf
  unfold sealN
  have e := le_num (xs.take 4)
  rw [show (xs.take 4).length = 4 by simp [h]] at e
  rw [padN_full (by simp [h]), ← hf, e]
  exact List.take_append_drop 4 xs
end Go.Proofs.Ytkklkhnoljmgbaa

/-
  The document's answers of layer 1: the contracts of package scionryref01. Conditions: those that each lemma states.
-/
namespace Go.Proofs.Ytkklkhnoljmgbaa
open Go.RowKit

theorem u8_info : (Try.prog.info? 5).map (fun i => (i.zero, i.size, i.bytes)) = some (some (.int .u8 0), 1, 1) := by kernel_rfl

theorem num_drop (xs : List UInt8) (k : Nat) (h : k < xs.length) : num (xs.drop (xs.length - (k + 1))) = num (xs.drop (xs.length - k)) * 256 + ((xs[xs.length - 1 - k]?.getD 0).toNat : Int) := by
  have := val_back xs (k + 1) (by omega)
  rw [back_succ, val_snoc, val_back xs k (by omega)] at this
  exact this.symm
theorem num_small (xs : List UInt8) (h : xs.length ≤ 6) : 0 ≤ num xs ∧ num xs < 281474976710656 := by
  have hp : ∀ n : Nat, n ≤ 6 → (256 : Int) ^ n ≤ 281474976710656 := by decide
  exact ⟨num_nonneg _, Int.lt_of_lt_of_le (num_lt xs) (hp _ h)⟩

/-! ### The document's answers, as the code's -/
end Go.Proofs.Ytkklkhnoljmgbaa

/-
  The document's answers of layer 2: the contracts of package scionryref02. Conditions: those that each lemma states.
-/
namespace Go.Proofs.Ytkklkhnoljmgbaa
open Go.RowKit

set_option maxHeartbeats 800000 in
theorem halved_any (s m : Nat) (h : s < 4294967296) (hm : m ≤ 1000) (w : World) :
    Calls Try.prog 48 #[.int .u32 s, .int .i64 m] w fun e w' => e = .returned (.int .u32 (halvesN m s)) ∧ w = w' := by
  go_enter Try.func48, Try.ntmps48
  go_wp2
  go_loop [0, 5] (fun t i => ∃ k : Nat, k ≤ m ∧ i = .int .i64 k ∧ t = .int .u32 (halvesN k s)) (fun _ i => m - (intOf i).toNat)
  case atStart => exact ⟨0, by omega, rfl, rfl⟩
  case round =>
    obtain ⟨k, hk, rfl, rfl⟩ := hrel
    have hq := halvesN_lt k h
    by_cases hlt : k < m
    · have hh := Lib.hid (halvesN_succ k s)
      generalize halvesN k s = q at *
      rcases (by omega : q % 2 = 1 ∨ q % 2 = 0) with h1 | h1
      · have e : Hid (halfN q = q / 2 ^^^ 3988292384) := Lib.hid (if_pos h1)
        have h1' : (q : Int) % 2 = 1 := by omega
        have hx := bxor (q / 2) 3988292384 ((q : Int) / 2) 3988292384 (by omega) (by omega) (by omega) (by omega)
        clear h1
        go_wp2
        go_round
        case rel => exact ⟨k + 1, by omega, by go_num, by rw [hh.out, e.out]⟩
        case measure => simp [intOf]; omega
      · have e : Hid (halfN q = q / 2) := Lib.hid (if_neg (by omega))
        have h1' : (q : Int) % 2 = 0 := by omega
        clear h1
        go_wp2
        go_round
        case rel => exact ⟨k + 1, by omega, by go_num, by rw [hh.out, e.out]; go_num⟩
        case measure => simp [intOf]; omega
    · obtain rfl : k = m := by omega
      go_wp2
      go_ret
      exact ⟨rfl, rfl⟩

set_option maxRecDepth 100000 in
set_option maxHeartbeats 1600000 in
theorem ofRef_ad (ad : Addr) (len cap : Nat) (xs : List UInt8) (hlen : Hid (xs.length = len)) (hlc : len ≤ cap) (hcap : cap ≤ 9223372036854775807) (w : World) (hbl : ad.block < w.heap.size) (hc : Hid (∀ j, j < len → w.cell? (ad.add j) = some (.int .u8 ((xs[j]?.getD 0).toNat : Int)))) :
    Calls Try.prog 38 #[.slice (some ad) len cap] w fun e w' => e = .returned (.int .u32 (crc xs : Nat)) ∧ Below w.heap.size w w' := by
  have h0 : #[Value.int .u32 0, .int .u32 0, .int .u32 0, .int .u32 0, .int .u32 0, .int .u32 0, .int .u32 0, .int .u32 0, .int .u32 0, .int .u32 0, .int .u32 0, .int .u32 0, .int .u32 0, .int .u32 0, .int .u32 0, .int .u32 0] = tabV 0 := by kernel_rfl
  have H0 := Lib.hid h0
  clear h0
  go_enter Try.func38, Try.ntmps38
  go_wp2
  rw [H0.out]
  go_loopw [4] (fun i wr => ∃ k : Nat, k ≤ 16 ∧ i = .int .i64 k ∧ wr.heap.size = w.heap.size + 1 ∧ wr.heap[w.heap.size]? = some (.cells (tabV k) 70 (0, 0)) ∧ Below w.heap.size w wr)
    (fun i _ => 16 - (intOf i).toNat)
  case atStart => exact ⟨0, by omega, rfl, by simp, heap_alloc_new w _, balloc (Below.refl _ _) _⟩
  case round =>
    obtain ⟨k, hk, rfl, hs, hT, hB⟩ := hrel
    by_cases hlt : k < 16
    · have hc : wr.cell? ⟨w.heap.size, k, none⟩ = some (.int .u32 0) := by rw [cell_of_row _ _ _ _ _ _ hT]; simp [tabV, hlt]
      have hf : wr.frozen? ⟨w.heap.size, k, none⟩ = false := frozen_of_row _ _ _ _ _ hT
      go_wp2_with (go_at_call 48; refine (halved_any k 4 (by omega) (by omega) _).mono ?_; rintro e w' ⟨rfl, rfl⟩)
      exact ⟨⟨k + 1, by omega, by go_num, by simpa using hs, (heap_setCell_same _ _ _ _ _ _ hT).trans (by rw [← tabV_set k hlt]; rfl), hB.setCell (by simp) _⟩, by simp [intOf]; omega⟩
    · obtain rfl : k = 16 := by omega
      have HT := Lib.hid hT
      clear hT hs
      go_wp2
      go_loop [5, 6] (fun s i => ∃ k : Nat, k ≤ len ∧ i = .int .i64 k ∧ s = .int .u32 (foldN 4294967295 (xs.take k) : Nat)) (fun _ i => len - (intOf i).toNat)
      case atStart => exact ⟨0, by omega, rfl, rfl⟩
      case round =>
        obtain ⟨k, hk, rfl, rfl⟩ := hrel
        have hq := foldN_lt (s := 4294967295) (xs.take k) (by omega)
        by_cases hlt : k < len
        · have hs := Lib.hid (take_succ_fold 4294967295 xs k (by rw [hlen.out]; exact hlt))
          have hcx := (hB.cell (p := ad.add k) (by rw [add_block]; exact hbl)).trans (hc.out k hlt)
          have hxb := (xs[k]?.getD 0).toNat_lt
          have hx1 := bxor (foldN 4294967295 (xs.take k)) (xs[k]?.getD 0).toNat _ _ rfl rfl hq (by omega)
          have hr1 := xor_lt32 hq (by omega : (xs[k]?.getD 0).toNat < 4294967296)
          generalize xs[k]?.getD 0 = c at *
          generalize foldN 4294967295 (xs.take k) = q at *
          generalize q ^^^ c.toNat = r1 at *
          have hc1 : wr.cell? ⟨w.heap.size, r1 % 16, none⟩ = some (.int .u32 (fourN (r1 % 16))) := by rw [cell_of_row _ _ _ _ _ _ HT.out]; exact tabV_get 16 _ (by omega) (by omega)
          have hx2 := bxor (r1 / 16) (fourN (r1 % 16)) ((r1 : Int) / 16) (fourN (r1 % 16)) (by omega) rfl (by omega) (fourN_lt (by omega))
          have hr2 := nibN_lt hr1
          have he2 : (r1 / 16) ^^^ fourN (r1 % 16) = nibN r1 := Nat.xor_comm _ _
          rw [he2] at hx2
          clear he2
          generalize nibN r1 = r2 at *
          have hc2 : wr.cell? ⟨w.heap.size, r2 % 16, none⟩ = some (.int .u32 (fourN (r2 % 16))) := by rw [cell_of_row _ _ _ _ _ _ HT.out]; exact tabV_get 16 _ (by omega) (by omega)
          have hx3 := bxor (r2 / 16) (fourN (r2 % 16)) ((r2 : Int) / 16) (fourN (r2 % 16)) (by omega) rfl (by omega) (fourN_lt (by omega))
          have hr3 := nibN_lt hr2
          have he3 : (r2 / 16) ^^^ fourN (r2 % 16) = nibN r2 := Nat.xor_comm _ _
          rw [he3] at hx3
          clear he3
          generalize nibN r2 = r3 at *
          have hf1 : fourN (r1 % 16) < 4294967296 := fourN_lt (by omega)
          have hf2 : fourN (r2 % 16) < 4294967296 := fourN_lt (by omega)
          generalize fourN (r1 % 16) = f1 at *
          generalize fourN (r2 % 16) = f2 at *
          have hm1 : ((r1 : Int) % 16).toNat = r1 % 16 := by omega
          have hm2 : ((r2 : Int) % 16).toNat = r2 % 16 := by omega
          have hm3 : r1 % 16 < 16 := by omega
          have hm4 : r2 % 16 < 16 := by omega
          clear hB
          go_wp2
          go_round
          case rel => exact ⟨k + 1, by omega, by go_num, by rw [hs.out]⟩
          case measure => simp [intOf]; omega
        · obtain rfl : k = len := by omega
          have he := Lib.hid (bxor _ 4294967295 _ 4294967295 rfl rfl hq (by omega))
          have ht := Lib.hid (List.take_of_length_le (l := xs) (Nat.le_of_eq hlen.out))
          go_wp2
          go_ret
          exact ⟨ret_int (he.out.trans (by rw [ht.out]; rfl)), hB⟩
set_option maxHeartbeats 800000 in
theorem ofRef_nil (A : Option Addr) (cap : Nat) (w : World) :
    Calls Try.prog 38 #[.slice A 0 cap] w fun e w' => e = .returned (.int .u32 0) ∧ Below w.heap.size w w' := by
  have h0 : #[Value.int .u32 0, .int .u32 0, .int .u32 0, .int .u32 0, .int .u32 0, .int .u32 0, .int .u32 0, .int .u32 0, .int .u32 0, .int .u32 0, .int .u32 0, .int .u32 0, .int .u32 0, .int .u32 0, .int .u32 0, .int .u32 0] = tabV 0 := by kernel_rfl
  have H0 := Lib.hid h0
  clear h0
  go_enter Try.func38, Try.ntmps38
  go_wp2
  rw [H0.out]
  go_loopw [4] (fun i wr => ∃ k : Nat, k ≤ 16 ∧ i = .int .i64 k ∧ wr.heap.size = w.heap.size + 1 ∧ wr.heap[w.heap.size]? = some (.cells (tabV k) 70 (0, 0)) ∧ Below w.heap.size w wr)
    (fun i _ => 16 - (intOf i).toNat)
  case atStart => exact ⟨0, by omega, rfl, by simp, heap_alloc_new w _, balloc (Below.refl _ _) _⟩
  case round =>
    obtain ⟨k, hk, rfl, hs, hT, hB⟩ := hrel
    by_cases hlt : k < 16
    · have hc : wr.cell? ⟨w.heap.size, k, none⟩ = some (.int .u32 0) := by rw [cell_of_row _ _ _ _ _ _ hT]; simp [tabV, hlt]
      have hf : wr.frozen? ⟨w.heap.size, k, none⟩ = false := frozen_of_row _ _ _ _ _ hT
      go_wp2_with (go_at_call 48; refine (halved_any k 4 (by omega) (by omega) _).mono ?_; rintro e w' ⟨rfl, rfl⟩)
      exact ⟨⟨k + 1, by omega, by go_num, by simpa using hs, (heap_setCell_same _ _ _ _ _ _ hT).trans (by rw [← tabV_set k hlt]; rfl), hB.setCell (by simp) _⟩, by simp [intOf]; omega⟩
    · obtain rfl : k = 16 := by omega
      clear hT hs
      go_wp2
      refine wp_loop_rounds 1 ?_
      rw [rounds_succ]
      go_wp2
      go_ret
      exact ⟨rfl, hB⟩
theorem ofRef_any (A : Option Addr) (len cap : Nat) (xs : List UInt8) (hlen : Hid (xs.length = len)) (hlc : len ≤ cap) (hcap : cap ≤ 9223372036854775807) (w : World) (hx : Byt w w.heap.size A xs) :
    Calls Try.prog 38 #[.slice A len cap] w fun e w' => e = .returned (.int .u32 (crc xs : Nat)) ∧ Below w.heap.size w w' := by
  rcases Nat.eq_zero_or_pos xs.length with h0 | h0
  · have hx0 : xs = [] := List.eq_nil_of_length_eq_zero h0
    subst hx0
    obtain rfl := hlen.out
    exact ofRef_nil A cap w
  · obtain ⟨ad, rfl, hbl, hc⟩ := hx h0
    exact ofRef_ad ad len cap xs hlen hlc hcap w hbl (Lib.hid fun j hj => hc j (by rw [hlen.out]; exact hj))

def lenOfV : Value → Nat
  | .slice _ n _ => n
  | _ => 0
theorem zeros_snoc (k : Nat) : zeros k ++ [0] = zeros (k + 1) := by simp [zeros, List.replicate_succ']
theorem u8s_zero : u8s [0] = [.int .u8 0] := rfl
theorem ge_ok : ge 4 128 0 = 0 := rfl
theorem gv_ok {xs : List UInt8} (h : xs.length = 128) : gv 4 xs 0 = num (xs.take 4) := by
  rw [gv_yes (by omega)]
  rfl
end Go.Proofs.Ytkklkhnoljmgbaa

/-
  The document's answers of layer 7: Up, Down, Sum. Conditions: those that each lemma states.
-/
namespace Go.Proofs.Ytkklkhnoljmgbaa
open Go.RowKit

set_option maxRecDepth 100000 in
set_option maxHeartbeats 2000000 in
theorem refWithT_any (v : Value) (t : List UInt8) (k : Nat) (x : UInt8) (q : Int) (hq : (x.toNat : Int) = q) (hk : k < t.length) (hbig : t.length ≤ 1000000) (w : World) (h : rBy (Old w) w [v] t) :
    Calls Try.prog 37 #[v, .int .i64 k, .int .u8 q] w fun e w' => ∃ u, e = .returned u ∧ rBy (New w.heap.size w') w' [u] (t.set k x) ∧ Below w.heap.size w w' := by
  obtain ⟨v', w2, hr2, ho2, hb2⟩ := app_rows (.slice none 0 0) 0 [] v t w.heap.size w (World.ownsRow_nil _ _ _ _) h (by omega) (Nat.le_refl _)
  rw [Nat.zero_add, List.nil_append] at ho2
  obtain ⟨A, c, rfl, l1, m1, _⟩ := id (rBy_open h)
  obtain ⟨g, c2, rfl, hg1, hg2, hg3, hg4⟩ := own_head ho2 (by omega)
  have hcell := own_cell ho2 (j := k) hk
  have hfr : w2.frozen? ⟨g, k, none⟩ = false := by
    have := own_free ho2 k
    rwa [show (⟨g, 0, none⟩ : Addr).add k = ⟨g, k, none⟩ by simp [add_off]] at this
  have hset := own_set ho2 k x
  rw [hq] at hset
  replace hset := Lib.hid hset
  generalize t[k]?.getD 0 = y at *
  have H2 := Lib.hid hr2
  have Hb2 := Lib.hid hb2
  replace hq := Lib.hid hq
  clear ho2 hr2 h hb2
  go_enter Try.func37, Try.ntmps37
  go_wp2_with (at_builtin; refine wpList_append_run rfl _ _ _ rfl rfl rfl H2.out ?_; clear H2)
  go_ret
  exact ⟨_, rfl, own_by hset.out, Hb2.out.setCell hg1 _⟩

set_option maxRecDepth 100000 in
set_option maxHeartbeats 4000000 in
theorem refUpT_any (v : Value) (t : List UInt8) (n : Int) (w : World) (h : rBy (Old w) w [v] t) :
    Calls Try.prog 20 #[v, .int .i64 n] w fun e w' => ∃ u, e = .returned (.tuple #[u, .int .i64 (upE t n)]) ∧ rBy (New w.heap.size w') w' [u] (upV t n) ∧ Below w.heap.size w w' := by
  have h' := Lib.hid h
  obtain ⟨A, c, rfl, l1, m1, hb⟩ := rBy_byt (B := w.heap.size) (fun _ h => h) h
  replace hb := Lib.hid hb
  clear h
  rcases turn_ways t n 255 with ⟨hm, he⟩ | ⟨hm, hn, he⟩ | ⟨k, hm, rfl, h8, h256, hk, he⟩ | ⟨k, hm, rfl, h8, h256, hk, he⟩
  · have hr : Hid (upE t n = 8 ∧ upV t n = []) := Lib.hid ⟨he, by rw [upV, upE, he]; rfl⟩
    replace hm := Lib.hid hm
    clear he
    go_enter Try.func20, Try.ntmps20
    go_wp2_with fail
    with_reducible refine (refMayT_any A t.length c t (Lib.hid rfl) l1 m1 _ hb.out).mono ?_
    rintro e w1 ⟨rfl, rfl⟩
    rw [hm.out]
    go_wp2_with fail
    go_ret2
    rw [hr.out.1, hr.out.2]
    exact ⟨_, rfl, rBy_none_new _ _, Below.refl _ _⟩
  · have hr : Hid (upE t n = 2 ∧ upV t n = []) := Lib.hid ⟨he, by rw [upV, upE, he]; rfl⟩
    replace hm := Lib.hid hm
    clear he
    by_cases h8 : n < 8
    · clear hn
      go_enter Try.func20, Try.ntmps20
      go_wp2_with fail
      with_reducible refine (refMayT_any A t.length c t (Lib.hid rfl) l1 m1 _ hb.out).mono ?_
      rintro e w1 ⟨rfl, rfl⟩
      rw [hm.out]
      go_wp2_with fail
      go_ret2
      rw [hr.out.1, hr.out.2]
      exact ⟨_, rfl, rBy_none_new _ _, Below.refl _ _⟩
    · have h9 : 256 ≤ n := by omega
      clear hn
      go_enter Try.func20, Try.ntmps20
      go_wp2_with fail
      with_reducible refine (refMayT_any A t.length c t (Lib.hid rfl) l1 m1 _ hb.out).mono ?_
      rintro e w1 ⟨rfl, rfl⟩
      rw [hm.out]
      go_wp2_with fail
      go_ret2
      rw [hr.out.1, hr.out.2]
      exact ⟨_, rfl, rBy_none_new _ _, Below.refl _ _⟩
  · have hr : Hid (upE t k = 70 ∧ upV t k = []) := Lib.hid ⟨he, by rw [upV, upE, he]; rfl⟩
    have hl := Lib.hid (mayT_len hm)
    replace hm := Lib.hid hm
    obtain ⟨ad, rfl, _, hcc⟩ := hb.out (by rw [hl.out]; omega)
    have hcell := hcc k (by rw [hl.out]; omega)
    rw [hk] at hcell
    have hcell2 : w.cell? (ad.add k) = some (.int .u8 255) := hcell
    have i1 : ¬ (k : Int) < 8 := by omega
    have i2 : ¬ 256 ≤ (k : Int) := by omega
    have i3 : k < t.length := by rw [hl.out]; exact h256
    clear hcc hk he hcell
    go_enter Try.func20, Try.ntmps20
    go_wp2_with fail
    with_reducible refine (refMayT_any (some ad) t.length c t (Lib.hid rfl) l1 m1 _ hb.out).mono ?_
    rintro e w1 ⟨rfl, rfl⟩
    rw [hm.out]
    go_wp2_with fail
    go_ret2
    rw [hr.out.1, hr.out.2]
    exact ⟨_, rfl, rBy_none_new _ _, Below.refl _ _⟩
  · have hl := Lib.hid (mayT_len hm)
    have hr : Hid (upE t k = 0 ∧ upV t k = t.set k (t[k]?.getD 0 + 1)) := Lib.hid ⟨he, by rw [upV, upE, he]; rfl⟩
    replace hm := Lib.hid hm
    obtain ⟨ad, rfl, _, hcc⟩ := hb.out (by rw [hl.out]; omega)
    have hcell := hcc k (by rw [hl.out]; omega)
    obtain ⟨hu, hu1, hu2⟩ := up_byte hk
    obtain ⟨y, hy⟩ : ∃ y, t[k]?.getD 0 = y := ⟨_, rfl⟩
    rw [hy] at hcell hr hu hu1 hu2 hk
    have t0 : ((y.toNat : Int) == 255) = false := by simp; omega
    have i1 : ¬ (k : Int) < 8 := by omega
    have i2 : ¬ 256 ≤ (k : Int) := by omega
    have i3 : k < t.length := by rw [hl.out]; exact h256
    replace hy := Lib.hid hy
    replace hu := Lib.hid hu
    clear hcc hk he
    go_enter Try.func20, Try.ntmps20
    go_wp2_with fail
    with_reducible refine (refMayT_any (some ad) t.length c t (Lib.hid rfl) l1 m1 _ hb.out).mono ?_
    rintro e w1 ⟨rfl, rfl⟩
    rw [hm.out]
    go_wp2_with fail
    with_reducible refine (refWithT_any _ t k (y + 1) _ hu.out.symm i3 (by rw [hl.out]; omega) _ h'.out).mono ?_
    rintro e w2 ⟨u, rfl, hu3, hb2⟩
    go_wp2_with fail
    go_ret2
    rw [hr.out.1, hr.out.2]
    exact ⟨_, rfl, hu3, hb2⟩
set_option maxRecDepth 100000 in
set_option maxHeartbeats 4000000 in
theorem refDownT_any (v : Value) (t : List UInt8) (n : Int) (w : World) (h : rBy (Old w) w [v] t) :
    Calls Try.prog 21 #[v, .int .i64 n] w fun e w' => ∃ u, e = .returned (.tuple #[u, .int .i64 (dnE t n)]) ∧ rBy (New w.heap.size w') w' [u] (dnV t n) ∧ Below w.heap.size w w' := by
  have h' := Lib.hid h
  obtain ⟨A, c, rfl, l1, m1, hb⟩ := rBy_byt (B := w.heap.size) (fun _ h => h) h
  replace hb := Lib.hid hb
  clear h
  rcases turn_ways t n 0 with ⟨hm, he⟩ | ⟨hm, hn, he⟩ | ⟨k, hm, rfl, h8, h256, hk, he⟩ | ⟨k, hm, rfl, h8, h256, hk, he⟩
  · have hr : Hid (dnE t n = 8 ∧ dnV t n = []) := Lib.hid ⟨he, by rw [dnV, dnE, he]; rfl⟩
    replace hm := Lib.hid hm
    clear he
    go_enter Try.func21, Try.ntmps21
    go_wp2_with fail
    with_reducible refine (refMayT_any A t.length c t (Lib.hid rfl) l1 m1 _ hb.out).mono ?_
    rintro e w1 ⟨rfl, rfl⟩
    rw [hm.out]
    go_wp2_with fail
    go_ret2
    rw [hr.out.1, hr.out.2]
    exact ⟨_, rfl, rBy_none_new _ _, Below.refl _ _⟩
  · have hr : Hid (dnE t n = 2 ∧ dnV t n = []) := Lib.hid ⟨he, by rw [dnV, dnE, he]; rfl⟩
    replace hm := Lib.hid hm
    clear he
    by_cases h8 : n < 8
    · clear hn
      go_enter Try.func21, Try.ntmps21
      go_wp2_with fail
      with_reducible refine (refMayT_any A t.length c t (Lib.hid rfl) l1 m1 _ hb.out).mono ?_
      rintro e w1 ⟨rfl, rfl⟩
      rw [hm.out]
      go_wp2_with fail
      go_ret2
      rw [hr.out.1, hr.out.2]
      exact ⟨_, rfl, rBy_none_new _ _, Below.refl _ _⟩
    · have h9 : 256 ≤ n := by omega
      clear hn
      go_enter Try.func21, Try.ntmps21
      go_wp2_with fail
      with_reducible refine (refMayT_any A t.length c t (Lib.hid rfl) l1 m1 _ hb.out).mono ?_
      rintro e w1 ⟨rfl, rfl⟩
      rw [hm.out]
      go_wp2_with fail
      go_ret2
      rw [hr.out.1, hr.out.2]
      exact ⟨_, rfl, rBy_none_new _ _, Below.refl _ _⟩
  · have hr : Hid (dnE t k = 70 ∧ dnV t k = []) := Lib.hid ⟨he, by rw [dnV, dnE, he]; rfl⟩
    have hl := Lib.hid (mayT_len hm)
    replace hm := Lib.hid hm
    obtain ⟨ad, rfl, _, hcc⟩ := hb.out (by rw [hl.out]; omega)
    have hcell := hcc k (by rw [hl.out]; omega)
    rw [hk] at hcell
    have hcell2 : w.cell? (ad.add k) = some (.int .u8 0) := hcell
    have i1 : ¬ (k : Int) < 8 := by omega
    have i2 : ¬ 256 ≤ (k : Int) := by omega
    have i3 : k < t.length := by rw [hl.out]; exact h256
    clear hcc hk he hcell
    go_enter Try.func21, Try.ntmps21
    go_wp2_with fail
    with_reducible refine (refMayT_any (some ad) t.length c t (Lib.hid rfl) l1 m1 _ hb.out).mono ?_
    rintro e w1 ⟨rfl, rfl⟩
    rw [hm.out]
    go_wp2_with fail
    go_ret2
    rw [hr.out.1, hr.out.2]
    exact ⟨_, rfl, rBy_none_new _ _, Below.refl _ _⟩
  · have hl := Lib.hid (mayT_len hm)
    have hr : Hid (dnE t k = 0 ∧ dnV t k = t.set k (t[k]?.getD 0 - 1)) := Lib.hid ⟨he, by rw [dnV, dnE, he]; rfl⟩
    replace hm := Lib.hid hm
    obtain ⟨ad, rfl, _, hcc⟩ := hb.out (by rw [hl.out]; omega)
    have hcell := hcc k (by rw [hl.out]; omega)
    obtain ⟨hu, hu1, hu2⟩ := dn_byte hk
    obtain ⟨y, hy⟩ : ∃ y, t[k]?.getD 0 = y := ⟨_, rfl⟩
    rw [hy] at hcell hr hu hu1 hu2 hk
    have t0 : ((y.toNat : Int) == 0) = false := by simp; intro e; exact hk (UInt8.toNat.inj (by simpa using e))
    have i1 : ¬ (k : Int) < 8 := by omega
    have i2 : ¬ 256 ≤ (k : Int) := by omega
    have i3 : k < t.length := by rw [hl.out]; exact h256
    replace hy := Lib.hid hy
    replace hu := Lib.hid hu
    clear hcc hk he
    go_enter Try.func21, Try.ntmps21
    go_wp2_with fail
    with_reducible refine (refMayT_any (some ad) t.length c t (Lib.hid rfl) l1 m1 _ hb.out).mono ?_
    rintro e w1 ⟨rfl, rfl⟩
    rw [hm.out]
    go_wp2_with fail
    with_reducible refine (refWithT_any _ t k (y - 1) _ hu.out.symm i3 (by rw [hl.out]; omega) _ h'.out).mono ?_
    rintro e w2 ⟨u, rfl, hu3, hb2⟩
    go_wp2_with fail
    go_ret2
    rw [hr.out.1, hr.out.2]
    exact ⟨_, rfl, hu3, hb2⟩

set_option maxHeartbeats 2000000 in
theorem refSumT_any (v : Value) (t : List UInt8) (w : World) (h : rBy (Old w) w [v] t) :
    Calls Try.prog 22 #[v] w fun e w' => e = .returned (.tuple #[.int .u32 (smV t : Nat), .int .i64 (chkT t)]) ∧ Below w.heap.size w w' := by
  obtain ⟨A, c, rfl, l1, m1, hb⟩ := rBy_byt (B := w.heap.size) (fun _ h => h) h
  replace hb := Lib.hid hb
  clear h
  cases hm : mayT t with
  | true =>
    have hc := Lib.hid (chkT_ok hm)
    have hs : Hid (smV t = crc t) := Lib.hid (by simp [smV, hm])
    replace hm := Lib.hid hm
    go_enter Try.func22, Try.ntmps22
    go_wp2_with fail
    with_reducible refine (refMayT_any A t.length c t (Lib.hid rfl) l1 m1 _ hb.out).mono ?_
    rintro e w1 ⟨rfl, rfl⟩
    rw [hm.out]
    go_wp2_with fail
    with_reducible refine (ofRef_any A t.length c t (Lib.hid rfl) l1 m1 _ hb.out).mono ?_
    rintro e w2 ⟨rfl, hb2⟩
    go_wp2_with fail
    go_ret2
    rw [hs.out, hc.out]
    exact ⟨rfl, hb2⟩
  | false =>
    have hc := Lib.hid (chkT_bad hm)
    have hs : Hid (smV t = 0) := Lib.hid (by simp [smV, hm])
    replace hm := Lib.hid hm
    go_enter Try.func22, Try.ntmps22
    go_wp2_with fail
    with_reducible refine (refMayT_any A t.length c t (Lib.hid rfl) l1 m1 _ hb.out).mono ?_
    rintro e w1 ⟨rfl, rfl⟩
    rw [hm.out]
    go_wp2_with fail
    go_ret2
    rw [hs.out, hc.out]
    exact ⟨rfl, Below.refl _ _⟩
end Go.Proofs.Ytkklkhnoljmgbaa

/-
  The document's answers of layer 7: Seen, Read. Conditions: those that each lemma states.
-/
namespace Go.Proofs.Ytkklkhnoljmgbaa
open Go.RowKit

set_option maxRecDepth 100000 in
set_option maxHeartbeats 2000000 in
theorem refSeenT_any (v : Value) (d : Dk) (s : Int) (w : World) (h : Dsk (Old w) w v d) (hm : mayB d = true) (hs : s = 0 ∨ s = 1) :
    Calls Try.prog 41 #[v, .int .i64 s] w fun e w' => ∃ u, e = .returned u ∧ rBy (New w.heap.size w') w' [u] (sdV d s) ∧ Below w.heap.size w w' := by
  obtain ⟨A, c, B, e0, rfl, _⟩ := id h.open
  obtain ⟨w0, hw0, b0, hs0, hB0⟩ := box_pair' w (.slice A d.1.length c) (.slice B d.2.length e0) 31
  obtain ⟨y1, y2, _, lt0⟩ := two_cells b0
  have H := Lib.hid (h.below hB0)
  have hl0 := sdK_len hm hs (k := 1) (by omega)
  have hl2 := sdK_len hm hs (k := 2) (by omega)
  obtain ⟨p, hpe⟩ : ∃ p : Nat, 2 * s = (p : Int) ∧ p ≤ 2 := ⟨(2 * s).toNat, by rcases hs with rfl | rfl <;> decide, by rcases hs with rfl | rfl <;> decide⟩
  have e1 : (4 + 2 * s).toNat = 4 + p := by omega
  have e2 : (5 + 2 * s).toNat = 5 + p := by omega
  have hV : Hid (sdV d s = seenD d (4 + p) ++ seenD d (5 + p)) := Lib.hid (by rw [sdV, e1, e2])
  have l1 : Hid ((seenD d (4 + p)).length = 128 ∧ (seenD d (5 + p)).length = 128) := Lib.hid ⟨seenD_length hm (by omega), seenD_length hm (by omega)⟩
  have hd1 : Hid (d.1.length = 256) := Lib.hid (may_of hm).1
  have hp1 : p ≤ 2 := hpe.2
  have hp2 := hpe.1
  have hseen : Hid (∀ (W : World) (k : Nat), k ≤ 1 → Below w0.heap.size w0 W → Calls Try.prog 50 #[.agg #[.slice A d.1.length c, .slice B d.2.length e0], .int .i64 ((4 + k + p : Nat) : Int)] W fun e W' => ∃ u, e = .returned u ∧ rBy (Old W) W [u] (seenD d (4 + k + p)) ∧ Below W.heap.size W W') := Lib.hid fun W k hk hW => refSeen_any _ d (4 + k + p) (by rw [hd1.out]; omega) W (H.out.below hW)
  have c4 : Hid (((4 + 0 + p : Nat) : Int) = 4 + (p : Int)) := Lib.hid (by omega)
  have c5 : Hid (((4 + 1 + p : Nat) : Int) = 5 + (p : Int)) := Lib.hid (by omega)
  have hs1 : Hid (∀ W, Below w0.heap.size w0 W → Calls Try.prog 50 #[.agg #[.slice A d.1.length c, .slice B d.2.length e0], .int .i64 (4 + (p : Int))] W fun e W' => ∃ u, e = .returned u ∧ rBy (Old W) W [u] (seenD d (4 + p)) ∧ Below W.heap.size W W') := Lib.hid fun W hW => by
    have := hseen.out W 0 (by omega) hW
    rwa [c4.out] at this
  have hs2 : Hid (∀ W, Below w0.heap.size w0 W → Calls Try.prog 50 #[.agg #[.slice A d.1.length c, .slice B d.2.length e0], .int .i64 (5 + (p : Int))] W fun e W' => ∃ u, e = .returned u ∧ rBy (Old W) W [u] (seenD d (5 + p)) ∧ Below W.heap.size W W') := Lib.hid fun W hW => by
    have := hseen.out W 1 (by omega) hW
    rw [c5.out] at this
    rwa [show 4 + 1 + p = 5 + p by omega] at this
  obtain ⟨L1, hL1⟩ : ∃ L, seenD d (4 + p) = L := ⟨_, rfl⟩
  obtain ⟨L2, hL2⟩ : ∃ L, seenD d (5 + p) = L := ⟨_, rfl⟩
  rw [hL1] at hV l1 hs1
  rw [hL2] at hV l1 hs2
  replace hL1 := Lib.hid hL1
  replace hL2 := Lib.hid hL2
  replace b0 := Lib.hid b0
  replace hs0 := Lib.hid hs0
  clear hl0 hl2 hs hpe e1 e2 hseen h hm
  go_enter Try.func41, Try.ntmps41
  go_upto_region 1 with fail
  clear hw0
  go_wp2_with fail
  with_reducible refine (hs1.out _ (Below.refl _ _)).mono ?_
  rintro e w2 ⟨u2, rfl, hu2, hb2⟩
  obtain ⟨E2, ce2, rfl, _⟩ := id (rBy_open hu2)
  obtain ⟨v3, w3, hr3, o3, hb3⟩ := app_rows (.slice none 0 0) 0 [] (.slice E2 L1.length ce2) L1 w0.heap.size w2 (World.ownsRow_nil _ _ _ _) (stab_by.old hu2 hb2) (by rw [l1.out.1]; omega) hb2.size
  rw [Nat.zero_add, List.nil_append] at o3
  have B3 := Lib.hid (hb2.trans hb3)
  have b3 := (B3.out.block w.heap.size lt0).trans b0.out
  obtain ⟨z1, z2, _, lt3⟩ := two_cells b3
  have H3 := Lib.hid hr3
  have O3 := Lib.hid o3
  replace b3 := Lib.hid b3
  clear hr3 o3 hb2 hb3 hu2 y1 y2
  go_wp2_with (at_builtin; refine wpList_append_run rfl _ _ _ rfl rfl rfl H3.out ?_; clear H3)
  with_reducible refine (hs2.out _ B3.out).mono ?_
  rintro e w4 ⟨u4, rfl, hu4, hb4⟩
  obtain ⟨E4, ce4, rfl, _⟩ := id (rBy_open hu4)
  obtain ⟨v5, w5, hr5, o5, hb5⟩ := app_rows v3 L1.length L1 (.slice E4 L2.length ce4) L2 w0.heap.size w4 (own_after O3.out hb4) (stab_by.old hu4 hb4) (by rw [l1.out.1, l1.out.2]; omega) (Nat.le_trans B3.out.size hb4.size)
  have B5 := Lib.hid ((B3.out.trans (hb4.mono B3.out.size)).trans hb5)
  have H5 := Lib.hid hr5
  have O5 := Lib.hid o5
  clear hr5 o5 hb4 hb5 hu4
  go_wp2_with (at_builtin; refine wpList_append_run rfl _ _ _ rfl rfl rfl H5.out ?_; clear H5)
  go_ret
  rw [hV.out]
  exact ⟨_, rfl, stab_by.mono (own_by O5.out) hB0.size, hB0.trans (B5.out.mono hB0.size)⟩

set_option maxRecDepth 100000 in
set_option maxHeartbeats 2000000 in
theorem refReadT_any (v : Value) (d : Dk) (s : Int) (w : World) (h : Dsk (Old w) w v d) :
    Calls Try.prog 24 #[v, .int .i64 s] w fun e w' => ∃ u, e = .returned (.tuple #[u, .int .i64 (crE d s)]) ∧ rBy (New w.heap.size w') w' [u] (crV d s) ∧ Below w.heap.size w w' := by
  obtain ⟨A, c, B, e0, rfl, _⟩ := id h.open
  obtain ⟨w0, hw0, b0, hs0, hB0⟩ := box_pair' w (.slice A d.1.length c) (.slice B d.2.length e0) 31
  obtain ⟨y1, y2, _, lt0⟩ := two_cells b0
  have H := Lib.hid (h.below hB0)
  have hV : ∀ q, crE d s = q → q ≠ 0 → crV d s = [] := fun q e h => by rw [crV, e, if_neg h]
  replace hs0 := Lib.hid hs0
  clear h
  cases hm : mayB d with
  | false =>
    have he := Lib.hid (show crE d s = 8 by simp [crE, hm])
    have hv := Lib.hid (hV 8 he.out (by decide))
    replace hm := Lib.hid hm
    replace b0 := Lib.hid b0
    clear hV
    go_enter Try.func24, Try.ntmps24
    go_upto_region 1 with fail
    clear hw0
    go_wp2_with fail
    with_reducible refine (may_any _ d _ H.out).mono ?_
    rintro er w3 ⟨rfl, hb3⟩
    rw [hm.out]
    go_wp2_with fail
    go_ret2
    rw [he.out, hv.out]
    exact ⟨_, rfl, rBy_none_new _ _, hB0.trans (hb3.mono hB0.size)⟩
  | true =>
    cases hs : sideB s with
    | false =>
      have he := Lib.hid (show crE d s = 2 by simp [crE, hm, hs])
      have hv := Lib.hid (hV 2 he.out (by decide))
      obtain ⟨n0, n1⟩ := side_no hs
      have t0 : (s != 0) = true := by simpa using n0
      have t1 : (s != 1) = true := by simpa using n1
      replace hm := Lib.hid hm
      replace b0 := Lib.hid b0
      clear hV n0 n1 hs
      go_enter Try.func24, Try.ntmps24
      go_upto_region 1 with fail
      clear hw0
      go_wp2_with fail
      with_reducible refine (may_any _ d _ H.out).mono ?_
      rintro er w3 ⟨rfl, hb3⟩
      rw [hm.out]
      go_wp2_with fail
      go_ret2
      rw [he.out, hv.out]
      exact ⟨_, rfl, rBy_none_new _ _, hB0.trans (hb3.mono hB0.size)⟩
    | true =>
      have hside := Lib.hid (side_ways hs)
      have hfin : Hid ((mayT (sdV d s) = true → crE d s = 0 ∧ crV d s = sdV d s) ∧ (mayT (sdV d s) = false → crE d s = 8 ∧ crV d s = [])) := Lib.hid (by
        refine ⟨fun h => ?_, fun h => ?_⟩
        · have : crE d s = 0 := by simp [crE, hm, hs, h]
          exact ⟨this, by simp [crV, this]⟩
        · have : crE d s = 8 := by simp [crE, hm, hs, h]
          exact ⟨this, by simp [crV, this]⟩)
      have hseen : Hid (∀ W, Below w0.heap.size w0 W → Calls Try.prog 41 #[.agg #[.slice A d.1.length c, .slice B d.2.length e0], .int .i64 s] W fun e w' => ∃ E ce, e = .returned (.slice E (sdV d s).length ce) ∧ rBy (New W.heap.size w') w' [.slice E (sdV d s).length ce] (sdV d s) ∧ Below W.heap.size W w') := Lib.hid fun W hW => by
        refine (refSeenT_any _ d s W (H.out.below hW) hm (side_ways hs)).mono ?_
        rintro e w' ⟨u, rfl, hu, hb⟩
        obtain ⟨E, ce, rfl, _⟩ := id (rBy_open hu)
        exact ⟨E, ce, rfl, hu, hb⟩
      obtain ⟨L, hL⟩ : ∃ L, sdV d s = L := ⟨_, rfl⟩
      rw [hL] at hfin hseen
      replace hm := Lib.hid hm
      replace hL := Lib.hid hL
      clear hs hV
      go_enter Try.func24, Try.ntmps24
      go_upto_region 1 with fail
      clear hw0
      go_wp2_with fail
      with_reducible refine (may_any _ d _ H.out).mono ?_
      rintro er w3 ⟨rfl, hb3⟩
      have b3 := (hb3.block w.heap.size lt0).trans b0
      obtain ⟨z1, z2, _, lt3⟩ := two_cells b3
      replace b3 := Lib.hid b3
      replace b0 := Lib.hid b0
      rw [hm.out]
      clear y1 y2
      go_upto_region 3 with fail
      go_cut [15] from 10 to 14 (fun x15 wx => x15 = .bool false ∧ w3 = wx)
      case first =>
        rcases hside.out with rfl | rfl
        · go_wp2_with fail
          go_meet
          exact ⟨rfl, rfl⟩
        · go_wp2_with fail
          go_meet
          exact ⟨rfl, rfl⟩
      case rest =>
      obtain ⟨rfl, rfl⟩ := hcut
      go_wp2_with fail
      with_reducible refine (hseen.out _ hb3).mono ?_
      rintro e w4 ⟨E, ce, rfl, hu4, hb4⟩
      obtain ⟨E', ce', e8, l8, m8, by8⟩ := rBy_byt (B := w4.heap.size) (fun p hp => hp) (stab_by.drop hu4)
      cases e8
      have BY := Lib.hid by8
      have U4 := Lib.hid hu4
      have B4 := Lib.hid (hB0.trans ((hb3.mono hB0.size).trans (hb4.mono (Nat.le_trans hB0.size hb3.size))))
      have s4 : Hid (w.heap.size ≤ w3.heap.size) := Lib.hid (Nat.le_trans hB0.size hb3.size)
      clear hu4 by8 hb4
      cases ht : mayT L with
      | true =>
        have hf := Lib.hid (hfin.out.1 ht)
        have hc1 := Lib.hid ht
        clear ht
        go_wp2_with fail
        with_reducible refine (refMayT_any E L.length ce L (Lib.hid rfl) l8 m8 _ BY.out).mono ?_
        rintro e w9 ⟨rfl, rfl⟩
        rw [hc1.out]
        go_wp2_with fail
        go_ret2
        rw [hf.out.1, hf.out.2]
        exact ⟨_, rfl, stab_by.mono U4.out s4.out, B4.out⟩
      | false =>
        have hf := Lib.hid (hfin.out.2 ht)
        have hc1 := Lib.hid ht
        clear ht
        go_wp2_with fail
        with_reducible refine (refMayT_any E L.length ce L (Lib.hid rfl) l8 m8 _ BY.out).mono ?_
        rintro e w9 ⟨rfl, rfl⟩
        rw [hc1.out]
        go_wp2_with fail
        go_ret2
        rw [hf.out.1, hf.out.2]
        exact ⟨_, rfl, rBy_none_new _ _, B4.out⟩
end Go.Proofs.Ytkklkhnoljmgbaa
