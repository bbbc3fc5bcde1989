/-
  The document's answers of layer 3: Seen, Read. Conditions: those that each lemma states.
-/
import Derived.Test.YtgnogclhleheiaaRefMay
import Derived.Test.YtgnogclhleheiaaGen03
namespace Go.Proofs.Ytgnogclhleheiaa
open Go.RowKit

theorem take_snoc {α : Type} {xs : List α} {j : Nat} {x : α} (h : xs[j]? = some x) : xs.take (j + 1) = xs.take j ++ [x] := by
  rw [List.take_add_one, h]
  rfl
theorem seen_hit {ws : List Wt} {b : List UInt8} {n : Int} {j : Nat} {x : Wt} (h : ws[j]? = some x) (e : x.1 = n) : seenW (ws.take (j + 1)) b n = x.2 := by
  rw [take_snoc h, seenW_append]
  simp [seenW, e]
theorem seen_miss {ws : List Wt} {b : List UInt8} {n : Int} {j : Nat} {x : Wt} (h : ws[j]? = some x) (e : x.1 ≠ n) : seenW (ws.take (j + 1)) b n = seenW (ws.take j) b n := by
  rw [take_snoc h, seenW_append]
  simp [seenW, e]

set_option maxRecDepth 100000 in
set_option maxHeartbeats 2000000 in
theorem refSeen_any (v : Value) (d : Dk) (k : Nat) (hk : k < d.1.length) (w : World) (h : Dsk (Old w) w v d) :
    Calls Try.prog 54 #[v, .int .i64 k] w fun e W' => ∃ u, e = .returned u ∧ rBy (Old w) w [u] (seenD d k) ∧ Below w.heap.size w W' := by
  obtain ⟨A, c, B, c', rfl, l1, m1, l2, m2, hA, hB⟩ := h.open
  obtain ⟨b, hb⟩ : ∃ b, d.1[k]? = some b := ⟨_, List.getElem?_eq_getElem hk⟩
  obtain ⟨ad, bv, rfl, ho1, hc1, hby1⟩ := hA k b hb
  have HB := Lib.hid hB
  have hsd : Hid (seenD d k = seenW d.2 b k) := Lib.hid (by unfold seenD; rw [hb]; rfl)
  replace hby1 := Lib.hid hby1
  clear hA hB h hb
  obtain ⟨n, hn⟩ : ∃ n, d.1.length = n := ⟨_, rfl⟩
  obtain ⟨m, hm⟩ : ∃ m, d.2.length = m := ⟨_, rfl⟩
  rw [hn] at l1 hk ⊢
  rw [hm] at l2 ⊢
  replace hn := Lib.hid hn
  replace hm := Lib.hid hm
  obtain ⟨w0, hw0, f1, f2, f3, hB1, _⟩ := box_disk w (.slice (some ad) n c) (.slice B m c')
  have g1 := (hB1.cell ho1).trans hc1
  have lt0 : w.heap.size < w0.heap.size := by omega
  clear hc1
  replace f3 := Lib.hid f3
  go_enter Try.func54, Try.ntmps54
  go_upto_region 1 with fail
  rw [← hw0]
  clear hw0
  go_wp2_with fail
  go_loopw [5] (fun i wr => ∃ j : Nat, j ≤ m ∧ i = .int .i64 ((j : Int) - 1) ∧ seenW d.2 b k = seenW (d.2.take j) b k ∧ wr = w0) (fun i _ => (intOf i + 1).toNat)
  case atStart => exact ⟨m, by omega, by go_num, by rw [List.take_of_length_le (by rw [hm.out]; omega)], rfl⟩
  case round =>
    obtain ⟨j, hj, rfl, hs, rfl⟩ := hrel
    replace hs := Lib.hid hs
    match j with
    | 0 =>
      have hfin : Hid (seenD d k = b) := Lib.hid (by rw [hsd.out, hs.out]; rfl)
      have t1 : ¬ (0 : Int) ≤ ((0 : Nat) : Int) - 1 := by omega
      have i1 : (0 : Int) ≤ (k : Int) := by omega
      have i2 : (k : Int) < (n : Int) := by omega
      go_wp2_with fail
      go_ret
      exact ⟨_, rfl, by rw [hfin.out]; exact hby1.out, hB1⟩
    | j + 1 =>
      obtain ⟨x, hx⟩ : ∃ x, d.2[j]? = some x := ⟨_, List.getElem?_eq_getElem (by rw [hm.out]; omega)⟩
      obtain ⟨bd, u, rfl, hok, hok', hc, hc', hby, _, _⟩ := HB.out j x hx
      replace hx := Lib.hid hx
      replace hc := (hB1.cell hok).trans hc
      replace hc' := (hB1.cell hok').trans hc'
      rw [add_next] at hc'
      replace hby := Lib.hid hby
      have ej : (((j + 1 : Nat) : Int) - 1) = (j : Int) := by omega
      rw [ej]
      have i1 : (0 : Int) ≤ (j : Int) := by omega
      have i2 : (j : Int) < (m : Int) := by omega
      have i3 : j < m := by omega
      by_cases e : x.1 = k
      · have he : (x.1 == (k : Int)) = true := by simpa using e
        have hfin : Hid (seenD d k = x.2) := Lib.hid (by rw [hsd.out, hs.out]; exact seen_hit hx.out e)
        clear e
        go_wp2_with fail
        go_ret
        exact ⟨_, rfl, by rw [hfin.out]; exact hby.out, hB1⟩
      · have he : (x.1 == (k : Int)) = false := by simpa using e
        replace e := Lib.hid e
        go_wp2_with fail
        go_roundw
        case rel => exact ⟨j, by omega, by go_num, by rw [hs.out]; exact seen_miss hx.out e.out, by first | rfl | trivial⟩
        case measure => simp [intOf]

/-- What both answer to a read. -/
def rdX (d : Dk) (n : Int) : List UInt8 := if chkAt d n = 0 then seenD d n.toNat else []
theorem rBy_none (w : World) : rBy (Old w) w [.slice none 0 0] [] := ⟨none, 0, rfl, by simp, by omega, fun i x h => by simp at h⟩
set_option maxRecDepth 100000 in
set_option maxHeartbeats 2000000 in
theorem refRead_any (v : Value) (d : Dk) (n : Int) (w : World) (h : Dsk (Old w) w v d) :
    Calls Try.prog 18 #[v, .int .i64 n] w fun e w' => ∃ u, e = .returned (.tuple #[u, .int .i64 (chkAt d n)]) ∧ rBy (Old w') w' [u] (rdX d n) ∧ Below w.heap.size w w' := by
  obtain ⟨A, c, B, e, rfl, _⟩ := id h.open
  obtain ⟨w0, hw0, x0, hB0, hs0⟩ := box_new h
  replace x0 := Lib.hid x0
  replace hs0 := Lib.hid hs0
  clear h
  go_enter Try.func18, Try.ntmps18
  obtain ⟨z1, z2, _, _⟩ := x0.out.cells
  go_upto_region 1 with fail
  clear hw0
  go_wp2_with fail
  with_reducible refine (may_any _ d _ x0.out.dsk).mono ?_
  rintro er w1 ⟨rfl, hb1⟩
  have x1 := Lib.hid (x0.out.below hb1)
  have hB1 := hB0.trans (hb1.mono hB0.size)
  clear hb1 x0 hB0 z1 z2
  obtain ⟨z1, z2, _, _⟩ := x1.out.cells
  cases hm : mayB d with
  | false =>
    have e1 : chkAt d n = 8 := chkAt_bad hm
    have e2 : rdX d n = [] := by simp [rdX, e1]
    replace e1 := Lib.hid e1
    replace e2 := Lib.hid e2
    clear hm
    go_wp2_with fail
    exact bodyPost_ret (v := .tuple #[.slice none 0 0, .int .i64 8]) (by simp [results, Try.results18, go_sem]) rfl ⟨_, by rw [e1.out], by rw [e2.out]; exact rBy_none _, hB1⟩
  | true =>
    cases ht : thereB n with
    | false =>
      have e1 : chkAt d n = 2 := chkAt_out hm ht
      have e2 : rdX d n = [] := by simp [rdX, e1]
      replace e1 := Lib.hid e1
      replace e2 := Lib.hid e2
      clear hm
      by_cases h0 : n < 0
      · clear ht
        go_wp2_with fail
        exact bodyPost_ret (v := .tuple #[.slice none 0 0, .int .i64 2]) (by simp [results, Try.results18, go_sem]) rfl ⟨_, by rw [e1.out], by rw [e2.out]; exact rBy_none _, hB1⟩
      · have h1 : (256 : Int) ≤ n := by
          simp only [thereB, Bool.and_eq_false_iff, decide_eq_false_iff_not] at ht
          omega
        clear ht
        go_wp2_with fail
        exact bodyPost_ret (v := .tuple #[.slice none 0 0, .int .i64 2]) (by simp [results, Try.results18, go_sem]) rfl ⟨_, by rw [e1.out], by rw [e2.out]; exact rBy_none _, hB1⟩
    | true =>
      have e1 : chkAt d n = 0 := chkAt_ok hm ht
      obtain ⟨k, rfl, hk⟩ := thereB_nat ht
      have e2 : rdX d (k : Int) = seenD d k := by simp [rdX, e1]
      replace e1 := Lib.hid e1
      replace e2 := Lib.hid e2
      have hkl : k < d.1.length := by rw [(may_of hm).1]; exact hk
      have h0 : ¬ (k : Int) < 0 := by omega
      have h1 : ¬ (256 : Int) ≤ (k : Int) := by omega
      replace hkl := Lib.hid hkl
      clear hm ht
      go_wp2_with fail
      with_reducible refine (refSeen_any _ d k hkl.out _ x1.out.dsk).mono ?_
      rintro es w2 ⟨u, rfl, hu, hb2⟩
      have hu2 := Lib.hid (stab_by.old hu hb2)
      have hB2 := hB1.trans (hb2.mono hB1.size)
      clear hu hb2 x1 hB1 z1 z2
      go_wp2_with fail
      exact bodyPost_ret (v := .tuple #[u, .int .i64 0]) (by simp [results, Try.results18, go_sem]) rfl ⟨_, by rw [e1.out], by rw [e2.out]; exact hu2.out, hB2⟩
end Go.Proofs.Ytgnogclhleheiaa
