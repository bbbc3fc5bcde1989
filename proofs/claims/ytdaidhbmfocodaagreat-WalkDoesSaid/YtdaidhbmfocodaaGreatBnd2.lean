/-
  Lemmas on the program and on the document's answers, gathered: DevRead, Gen03, Cnt, RefRead, Push, RefNew, RefTwin, Spoil, All03, CntUp, CntPlain, RmPlain, Room, RmChk, RmFree, RmTake, Get, SumSeal, Ref01, Ref02, RefBlk, Total02, RingRead, RingRead2, RefRead4, Bag04, Item, ItLess, ItCheck, ItSame, RefIt, ItRead, RefItRead, Alive05, Bag05, Node, NdCut, NdCut2. Conditions: those that each lemma states.
-/
import Derived.Test.YtdaidhbmfocodaaGreatBnd1
import Derived.Deep.RegionHeld3
import Derived.Deep.AppendLies
import Derived.Maps.AppendAt
import Derived.StillTailTactics
import Derived.RangeFuncBox
import Derived.Lib.Hide
import Derived.Lib.AppendZerosOnto
import Derived.Deep.QuietTactic
import Derived.BigQuiet
/-
  Package dev: checkAt, Read. Conditions: those that each lemma states.
-/
namespace Go.Proofs.YtdaidhbmfocodaaGreat
open Go.RowKit

/-- The error of a disk and a place. -/
def chkAt (d : Dk) (n : Int) : Int := if mayB d then (if thereB n then 0 else 2) else 8
theorem chkAt_bad {d : Dk} {n : Int} (h : mayB d = false) : chkAt d n = 8 := by simp [chkAt, h]
theorem chkAt_out {d : Dk} {n : Int} (h : mayB d = true) (h' : thereB n = false) : chkAt d n = 2 := by simp [chkAt, h, h']
theorem chkAt_ok {d : Dk} {n : Int} (h : mayB d = true) (h' : thereB n = true) : chkAt d n = 0 := by simp [chkAt, h, h']
theorem thereB_nat {n : Int} (h : thereB n = true) : ∃ k : Nat, n = k ∧ k < 256 := by
  simp only [thereB, Bool.and_eq_true, decide_eq_true_eq] at h
  exact ⟨n.toNat, by omega, by omega⟩
theorem thereB_of {k : Nat} (h : k < 256) : thereB (k : Int) = true := by
  simp only [thereB, Bool.and_eq_true, decide_eq_true_eq]
  omega

set_option maxHeartbeats 1000000 in
theorem checkAt_any (v : Value) (d : Dk) (n : Int) (w : World) (h : Dsk (Old w) w v d) : Calls Tryz.prog 59 #[v, .int .i64 n] w fun e w' => e = .returned (.int .i64 (chkAt d n)) ∧ Below w.heap.size w w' := by
  obtain ⟨a, b, rfl, _⟩ := id h
  have hB := balloc (Below.refl w.heap.size w) (.cells #[a, b] 26)
  have H := Lib.hid (h.below hB)
  cases hm : mayB d with
  | true =>
    have hc := Lib.hid (chk_ok hm)
    cases ht : thereB n with
    | true =>
      have hr := Lib.hid (chkAt_ok hm ht)
      replace hm := Lib.hid hm
      replace ht := Lib.hid ht
      go_enter Tryz.func59, Tryz.ntmps59
      go_wp2_with fail
      refine (check_any _ d _ H.out).mono ?_
      rintro e w1 ⟨rfl, hb1⟩
      rw [hc.out]
      go_wp2_with fail
      refine (there_any _ _).mono ?_
      rintro e w2 ⟨rfl, rfl⟩
      rw [ht.out]
      go_wp2_with fail
      go_ret
      exact ⟨ret_int hr.out.symm, hB.trans (hb1.mono hB.size)⟩
    | false =>
      have hr := Lib.hid (chkAt_out hm ht)
      replace hm := Lib.hid hm
      replace ht := Lib.hid ht
      go_enter Tryz.func59, Tryz.ntmps59
      go_wp2_with fail
      refine (check_any _ d _ H.out).mono ?_
      rintro e w1 ⟨rfl, hb1⟩
      rw [hc.out]
      go_wp2_with fail
      refine (there_any _ _).mono ?_
      rintro e w2 ⟨rfl, rfl⟩
      rw [ht.out]
      go_wp2_with fail
      go_ret
      exact ⟨ret_int hr.out.symm, hB.trans (hb1.mono hB.size)⟩
  | false =>
    have hc := Lib.hid (chk_bad hm)
    have hr := Lib.hid (chkAt_bad (n := n) hm)
    replace hm := Lib.hid hm
    go_enter Tryz.func59, Tryz.ntmps59
    go_wp2_with fail
    refine (check_any _ d _ H.out).mono ?_
    rintro e w1 ⟨rfl, hb1⟩
    rw [hc.out]
    go_wp2_with fail
    go_ret
    exact ⟨ret_int hr.out.symm, hB.trans (hb1.mono hB.size)⟩

set_option maxHeartbeats 1000000 in
theorem read_bad (v : Value) (d : Dk) (n : Int) (w : World) (h : Dsk (Old w) w v d) (hn : ¬ (mayB d = true ∧ thereB n = true)) :
    Calls Tryz.prog 36 #[v, .int .i64 n] w fun e w' => e = .returned (.tuple #[.slice none 0 0, .int .i64 (chkAt d n)]) ∧ Below w.heap.size w w' := by
  obtain ⟨a, b, rfl, _⟩ := id h
  have hB := balloc (Below.refl w.heap.size w) (.cells #[a, b] 26)
  have H := Lib.hid (h.below hB)
  have hc : chkAt d n = 8 ∨ chkAt d n = 2 := by
    cases hm : mayB d with
    | false => exact .inl (chkAt_bad hm)
    | true =>
      cases ht : thereB n with
      | false => exact .inr (chkAt_out hm ht)
      | true => exact absurd ⟨hm, ht⟩ hn
  clear hn
  rcases hc with hc | hc
  all_goals
    rw [hc]
    replace hc := Lib.hid hc
    go_enter Tryz.func36, Tryz.ntmps36
    go_wp2_with fail
    refine (checkAt_any _ d n _ H.out).mono ?_
    rintro e w1 ⟨rfl, hb1⟩
    rw [hc.out]
    go_wp2_with fail
    go_ret2
    exact ⟨rfl, hB.trans (hb1.mono hB.size)⟩

set_option maxHeartbeats 1000000 in
theorem read_ok (v : Value) (d : Dk) (k : Nat) (w : World) (h : Dsk (Old w) w v d) (hm : mayB d = true) (hk : k < 256) :
    Calls Tryz.prog 36 #[v, .int .i64 k] w fun e w' => ∃ u, e = .returned (.tuple #[u, .int .i64 0]) ∧ rBy (New w.heap.size w') w' [u] (seenD d k) ∧ Below w.heap.size w w' := by
  obtain ⟨a, b, rfl, ha, hb⟩ := id h
  obtain ⟨w0, hw0, f1, f2, f3, hB⟩ := box_pair w a b 26
  have H := Lib.hid (h.below hB)
  have hc := Lib.hid (chkAt_ok hm (thereB_of hk))
  have hl : k < d.1.length := by rw [(may_of hm).1]; exact hk
  have hbig : Hid ((seenD d k).length = 128) := Lib.hid (by
    obtain ⟨h1, h2, h3, h4⟩ := may_of hm
    refine seenW_length ?_ fun x hx => ?_
    · rw [List.getElem?_eq_getElem hl]
      exact h3 k _ (List.getElem?_eq_getElem hl)
    · obtain ⟨j, hj⟩ := List.getElem?_of_mem hx
      exact (h4 j x hj).2.2)
  obtain ⟨A, c, e1, _⟩ := rows_open ha
  obtain ⟨B, e, e2, _⟩ := wts_open hb
  cases e1
  cases e2
  replace f3 := Lib.hid f3
  replace hm := Lib.hid hm
  go_enter Tryz.func36, Tryz.ntmps36
  go_upto_region 1 with fail
  clear hw0
  go_wp2_with fail
  refine (checkAt_any _ d k _ H.out).mono ?_
  rintro e w1 ⟨rfl, hb1⟩
  rw [hc.out]
  have H1 := Lib.hid (H.out.below hb1)
  have g1 := (hb1.cell (p := ⟨w.heap.size, 0, none⟩) (by rw [f3.out]; simp)).trans f1
  have g2 := (hb1.cell (p := ⟨w.heap.size, 1, none⟩) (by rw [f3.out]; simp)).trans f2
  have hB1 := hB.trans (hb1.mono hB.size)
  clear f1 f2 hB hb1
  go_wp2_with fail
  refine (seen_any _ d k hl _ H1.out).mono ?_
  rintro e w2 ⟨u, rfl, hu, hb2⟩
  have hu2 := stab_by.old hu hb2
  have hB2 := hB1.trans (hb2.mono hB1.size)
  go_wp2_with fail
  refine (clone_by u _ _ (by rw [hbig.out]; omega) hu2).mono ?_
  rintro e w3 ⟨x, rfl, hx, hb3⟩
  have hfin := Lib.hid (stab_by.mono hx hB2.size)
  have hB3 := hB2.trans (hb3.mono hB2.size)
  clear hx hu hu2
  go_wp2_with fail
  go_ret2
  exact ⟨x, rfl, hfin.out, hB3⟩
end Go.Proofs.YtdaidhbmfocodaaGreat

/-
  Package dev: Read, Write, Barrier, Crash at whatever arguments; a disk in its box. Conditions: those that each lemma states.
-/
namespace Go.Proofs.YtdaidhbmfocodaaGreat
open Go.RowKit

/-- A disk that lies in a box. -/
def Bx (w : World) (g : Nat) (A : Option Addr) (c : Nat) (B : Option Addr) (e : Nat) (d : Dk) : Prop := w.heap[g]? = some (.cells #[.slice A d.1.length c, .slice B d.2.length e] 26 (0, 0)) ∧ Dsk (Old w) w (.agg #[.slice A d.1.length c, .slice B d.2.length e]) d
theorem Bx.below {w w' : World} {g : Nat} {A : Option Addr} {c : Nat} {B : Option Addr} {e : Nat} {d : Dk} (h : Bx w g A c B e d) (hb : Below w.heap.size w w') : Bx w' g A c B e d :=
  ⟨(hb.block g (Array.getElem?_eq_some_iff.1 h.1).1).trans h.1, h.2.below hb⟩
theorem Bx.grown {w w' : World} {g q : Nat} {A : Option Addr} {c : Nat} {B : Option Addr} {e : Nat} {d : Dk} (h : Bx w g A c B e d) (hb : w.grownBy w' (some q)) (hq : g ≠ q) (hd : Dsk (Old w') w' (.agg #[.slice A d.1.length c, .slice B d.2.length e]) d) : Bx w' g A c B e d :=
  ⟨(hb.block g (Array.getElem?_eq_some_iff.1 h.1).1 (fun e => hq (by cases e; rfl))).trans h.1, hd⟩
theorem Bx.cells {w : World} {g : Nat} {A : Option Addr} {c : Nat} {B : Option Addr} {e : Nat} {d : Dk} (h : Bx w g A c B e d) : w.cell? ⟨g, 0, none⟩ = some (.slice A d.1.length c) ∧ w.cell? ⟨g, 1, none⟩ = some (.slice B d.2.length e) ∧ (∀ o, w.frozen? ⟨g, o, none⟩ = false) ∧ g < w.heap.size := two_cells h.1
/-! ### What follows -/
/-! ### Results that are new -/
theorem Dsk.grown {w w' : World} {lo : Nat} {v : Value} {d : Dk} {row : Option Nat} (h : Dsk (New lo w) w v d) (hg : w.grownBy w' row) (hr : ∀ q, row = some q → q < lo) : Dsk (New lo w') w' v d := by
  obtain ⟨a, b, e, h1, h2⟩ := h
  exact ⟨a, b, e, (stab_sl stab_by).grown h1 hg hr, (stab_sl stab_wt).grown h2 hg hr⟩
end Go.Proofs.YtdaidhbmfocodaaGreat

/-
  Package count: tables, which may be: Check, and the document's May and Check. Conditions: those that each lemma states.
-/
namespace Go.Proofs.YtdaidhbmfocodaaGreat
open Go.RowKit

/-! ### Tables that may be -/
def mayT (t : List UInt8) : Bool := decide (t.length = 256) && (t.take 8).all (· == 0)
def chkT (t : List UInt8) : Int := if mayT t then 0 else 8
theorem chkT_ok {t : List UInt8} (h : mayT t = true) : chkT t = 0 := by simp [chkT, h]
theorem chkT_bad {t : List UInt8} (h : mayT t = false) : chkT t = 8 := by simp [chkT, h]
theorem mayT_len {t : List UInt8} (h : mayT t = true) : t.length = 256 := by
  simp only [mayT, Bool.and_eq_true, decide_eq_true_eq] at h
  exact h.1
theorem mayT_short {t : List UInt8} (h : t.length ≠ 256) : mayT t = false := by simp [mayT, h]
theorem mayT_yes {t : List UInt8} (h : t.length = 256) (ha : ∀ j, j < 8 → t[j]?.getD 0 = 0) : mayT t = true := by
  simp only [mayT, Bool.and_eq_true, decide_eq_true_eq, List.all_eq_true]
  refine ⟨h, fun x hx => ?_⟩
  obtain ⟨j, hj, rfl⟩ := List.mem_iff_getElem.1 hx
  have hj8 : j < 8 := by simp at hj; omega
  have := ha j hj8
  rw [List.getElem?_eq_getElem (by omega)] at this
  simpa using this
theorem mayT_at {t : List UInt8} (h : mayT t = true) {j : Nat} (hj : j < 8) : t[j]?.getD 0 = 0 := by
  have hl := mayT_len h
  simp only [mayT, Bool.and_eq_true, List.all_eq_true] at h
  have := h.2 (t[j]'(by omega)) (List.mem_iff_getElem.2 ⟨j, by simp; omega, by simp⟩)
  rw [List.getElem?_eq_getElem (by omega)]
  simpa using this
theorem mayT_no {t : List UInt8} {k : Nat} (hk : k < 8) (h : t[k]?.getD 0 ≠ 0) : mayT t = false := by
  cases hm : mayT t with
  | false => rfl
  | true => exact absurd (mayT_at hm hk) h
theorem byte_ne {x : UInt8} (h : ¬ (x.toNat : Int) = 0) : x ≠ 0 := fun e => h (by rw [e]; rfl)
theorem byte_eq {x : UInt8} (h : (x.toNat : Int) = 0) : x = 0 := UInt8.toNat.inj (by simpa using h)
theorem below8_snoc {b : List UInt8} {k : Nat} (ha : ∀ j, j < k → b[j]?.getD 0 = 0) (h : b[k]?.getD 0 = 0) : ∀ j, j < k + 1 → b[j]?.getD 0 = 0 := fun j hj => by
  rcases Nat.lt_or_ge j k with h1 | h1
  · exact ha j h1
  · obtain rfl : j = k := by omega
    exact h

set_option maxRecDepth 100000 in
set_option maxHeartbeats 2000000 in
theorem checkT_any (A : Option Addr) (n c : Nat) (t : List UInt8) (hn : Hid (t.length = n)) (l1 : n ≤ c) (m1 : c ≤ 9223372036854775807) (w : World) (h : Byt w w.heap.size A t) :
    Calls Tryz.prog 68 #[.slice A n c] w fun e w' => e = .returned (.int .i64 (chkT t)) ∧ w = w' := by
  have HY := Lib.hid h
  clear h
  by_cases h256 : n = 256
  · obtain ⟨ad, rfl, _, hc⟩ := HY.out (by rw [hn.out]; omega)
    subst h256
    replace hc := Lib.hid hc
    go_enter Tryz.func68, Tryz.ntmps68
    go_wp2_with fail
    go_loop [11] (fun i => ∃ k : Nat, k ≤ 8 ∧ i = .int .i64 k ∧ ∀ j, j < k → t[j]?.getD 0 = 0) (fun i => 8 - (intOf i).toNat)
    case atStart => exact ⟨0, by omega, rfl, fun j hj => by omega⟩
    case round =>
      obtain ⟨k, hk, rfl, ha⟩ := hrel
      replace ha := Lib.hid ha
      by_cases hlt : k < 8
      · have hcell := hc.out k (by rw [hn.out]; omega)
        have hyes := Lib.hid (fun h => mayT_no (t := t) hlt h)
        have hno := Lib.hid (fun h => below8_snoc (b := t) (k := k) ha.out h)
        obtain ⟨x, hx⟩ : ∃ x, t[k]?.getD 0 = x := ⟨_, rfl⟩
        rw [hx] at hcell hyes hno
        replace hx := Lib.hid hx
        by_cases h0 : (x.toNat : Int) = 0
        · have t0 : ((x.toNat : Int) != 0) = false := by simpa using h0
          have hall := Lib.hid (hno.out (byte_eq h0))
          replace h0 := Lib.hid h0
          go_wp2_with fail
          go_round
          case rel => exact ⟨k + 1, by omega, by go_num, hall.out⟩
          case measure => simp [intOf]; omega
        · have t0 : ((x.toNat : Int) != 0) = true := by simpa using h0
          have hr := Lib.hid (chkT_bad (hyes.out (byte_ne h0)))
          replace h0 := Lib.hid h0
          go_wp2_with fail
          go_ret
          exact ⟨ret_int hr.out.symm, rfl⟩
      · have hr := Lib.hid (chkT_ok (mayT_yes (t := t) hn.out fun j hj => ha.out j (by omega)))
        go_wp2_with fail
        go_ret
        exact ⟨ret_int hr.out.symm, rfl⟩
  · have hr := Lib.hid (chkT_bad (mayT_short (t := t) (by rw [hn.out]; exact h256)))
    have i1 : ((n : Int) != 256) = true := by simp; omega
    go_enter Tryz.func68, Tryz.ntmps68
    go_wp2_with fail
    go_ret
    exact ⟨ret_int hr.out.symm, rfl⟩

set_option maxRecDepth 100000 in
set_option maxHeartbeats 2000000 in
theorem refMayT_any (A : Option Addr) (n c : Nat) (t : List UInt8) (hn : Hid (t.length = n)) (l1 : n ≤ c) (_ : c ≤ 9223372036854775807) (w : World) (h : Byt w w.heap.size A t) :
    Calls Tryz.prog 80 #[.slice A n c] w fun e w' => e = .returned (.bool (mayT t)) ∧ w = w' := by
  have HY := Lib.hid h
  clear h
  by_cases h256 : n = 256
  · obtain ⟨ad, rfl, _, hc⟩ := HY.out (by rw [hn.out]; omega)
    subst h256
    replace hc := Lib.hid hc
    go_enter Tryz.func80, Tryz.ntmps80
    go_wp2_with fail
    go_loop [3] (fun i => ∃ k : Nat, k ≤ 8 ∧ i = .int .i64 k ∧ ∀ j, j < k → t[j]?.getD 0 = 0) (fun i => 8 - (intOf i).toNat)
    case atStart => exact ⟨0, by omega, rfl, fun j hj => by omega⟩
    case round =>
      obtain ⟨k, hk, rfl, ha⟩ := hrel
      replace ha := Lib.hid ha
      by_cases hlt : k < 8
      · have hcell := hc.out k (by rw [hn.out]; omega)
        have hyes := Lib.hid (fun h => mayT_no (t := t) hlt h)
        have hno := Lib.hid (fun h => below8_snoc (b := t) (k := k) ha.out h)
        obtain ⟨x, hx⟩ : ∃ x, t[k]?.getD 0 = x := ⟨_, rfl⟩
        rw [hx] at hcell hyes hno
        replace hx := Lib.hid hx
        by_cases h0 : (x.toNat : Int) = 0
        · have t0 : ((x.toNat : Int) != 0) = false := by simpa using h0
          have hall := Lib.hid (hno.out (byte_eq h0))
          replace h0 := Lib.hid h0
          go_wp2_with fail
          go_round
          case rel => exact ⟨k + 1, by omega, by go_num, hall.out⟩
          case measure => simp [intOf]; omega
        · have t0 : ((x.toNat : Int) != 0) = true := by simpa using h0
          have hr := Lib.hid (hyes.out (byte_ne h0))
          replace h0 := Lib.hid h0
          go_wp2_with fail
          go_ret
          exact ⟨ret_bool hr.out.symm, rfl⟩
      · have hr := Lib.hid (mayT_yes (t := t) hn.out fun j hj => ha.out j (by omega))
        go_wp2_with fail
        go_ret
        exact ⟨ret_bool hr.out.symm, rfl⟩
  · have hr := Lib.hid (mayT_short (t := t) (by rw [hn.out]; exact h256))
    have i1 : ((n : Int) != 256) = true := by simp; omega
    go_enter Tryz.func80, Tryz.ntmps80
    go_wp2_with fail
    go_ret
    exact ⟨ret_bool hr.out.symm, rfl⟩

/-! ### Tables of noughts -/
end Go.Proofs.YtdaidhbmfocodaaGreat

/-
  The document's answers of layer 3: Seen, Read. Conditions: those that each lemma states.
-/
namespace Go.Proofs.YtdaidhbmfocodaaGreat
open Go.RowKit

theorem take_snoc {α : Type} {xs : List α} {j : Nat} {x : α} (h : xs[j]? = some x) : xs.take (j + 1) = xs.take j ++ [x] := by
  rw [List.take_add_one, h]
  rfl
theorem seen_hit {ws : List Wt} {b : List UInt8} {n : Int} {j : Nat} {x : Wt} (h : ws[j]? = some x) (e : x.1 = n) : seenW (ws.take (j + 1)) b n = x.2 := by
  rw [take_snoc h, seenW_append]
  simp [seenW, e]
theorem seen_miss {ws : List Wt} {b : List UInt8} {n : Int} {j : Nat} {x : Wt} (h : ws[j]? = some x) (e : x.1 ≠ n) : seenW (ws.take (j + 1)) b n = seenW (ws.take j) b n := by
  rw [take_snoc h, seenW_append]
  simp [seenW, e]

set_option maxRecDepth 100000 in
set_option maxHeartbeats 2000000 in
theorem refSeen_any (v : Value) (d : Dk) (k : Nat) (hk : k < d.1.length) (w : World) (h : Dsk (Old w) w v d) :
    Calls Tryz.prog 83 #[v, .int .i64 k] w fun e W' => ∃ u, e = .returned u ∧ rBy (Old w) w [u] (seenD d k) ∧ Below w.heap.size w W' := by
  obtain ⟨A, c, B, c', rfl, l1, m1, l2, m2, hA, hB⟩ := h.open
  obtain ⟨b, hb⟩ : ∃ b, d.1[k]? = some b := ⟨_, List.getElem?_eq_getElem hk⟩
  obtain ⟨ad, bv, rfl, ho1, hc1, hby1⟩ := hA k b hb
  have HB := Lib.hid hB
  have hsd : Hid (seenD d k = seenW d.2 b k) := Lib.hid (by unfold seenD; rw [hb]; rfl)
  replace hby1 := Lib.hid hby1
  clear hA hB h hb
  obtain ⟨n, hn⟩ : ∃ n, d.1.length = n := ⟨_, rfl⟩
  obtain ⟨m, hm⟩ : ∃ m, d.2.length = m := ⟨_, rfl⟩
  rw [hn] at l1 hk ⊢
  rw [hm] at l2 ⊢
  replace hn := Lib.hid hn
  replace hm := Lib.hid hm
  obtain ⟨w0, hw0, f1, f2, f3, hB1, _⟩ := box_disk w (.slice (some ad) n c) (.slice B m c')
  have g1 := (hB1.cell ho1).trans hc1
  have lt0 : w.heap.size < w0.heap.size := by omega
  clear hc1
  replace f3 := Lib.hid f3
  go_enter Tryz.func83, Tryz.ntmps83
  go_upto_region 1 with fail
  rw [← hw0]
  clear hw0
  go_wp2_with fail
  go_loopw [5] (fun i wr => ∃ j : Nat, j ≤ m ∧ i = .int .i64 ((j : Int) - 1) ∧ seenW d.2 b k = seenW (d.2.take j) b k ∧ wr = w0) (fun i _ => (intOf i + 1).toNat)
  case atStart => exact ⟨m, by omega, by go_num, by rw [List.take_of_length_le (by rw [hm.out]; omega)], rfl⟩
  case round =>
    obtain ⟨j, hj, rfl, hs, rfl⟩ := hrel
    replace hs := Lib.hid hs
    match j with
    | 0 =>
      have hfin : Hid (seenD d k = b) := Lib.hid (by rw [hsd.out, hs.out]; rfl)
      have t1 : ¬ (0 : Int) ≤ ((0 : Nat) : Int) - 1 := by omega
      have i1 : (0 : Int) ≤ (k : Int) := by omega
      have i2 : (k : Int) < (n : Int) := by omega
      go_wp2_with fail
      go_ret
      exact ⟨_, rfl, by rw [hfin.out]; exact hby1.out, hB1⟩
    | j + 1 =>
      obtain ⟨x, hx⟩ : ∃ x, d.2[j]? = some x := ⟨_, List.getElem?_eq_getElem (by rw [hm.out]; omega)⟩
      obtain ⟨bd, u, rfl, hok, hok', hc, hc', hby, _, _⟩ := HB.out j x hx
      replace hx := Lib.hid hx
      replace hc := (hB1.cell hok).trans hc
      replace hc' := (hB1.cell hok').trans hc'
      rw [add_next] at hc'
      replace hby := Lib.hid hby
      have ej : (((j + 1 : Nat) : Int) - 1) = (j : Int) := by omega
      rw [ej]
      have i1 : (0 : Int) ≤ (j : Int) := by omega
      have i2 : (j : Int) < (m : Int) := by omega
      have i3 : j < m := by omega
      by_cases e : x.1 = k
      · have he : (x.1 == (k : Int)) = true := by simpa using e
        have hfin : Hid (seenD d k = x.2) := Lib.hid (by rw [hsd.out, hs.out]; exact seen_hit hx.out e)
        clear e
        go_wp2_with fail
        go_ret
        exact ⟨_, rfl, by rw [hfin.out]; exact hby.out, hB1⟩
      · have he : (x.1 == (k : Int)) = false := by simpa using e
        replace e := Lib.hid e
        go_wp2_with fail
        go_roundw
        case rel => exact ⟨j, by omega, by go_num, by rw [hs.out]; exact seen_miss hx.out e.out, by first | rfl | trivial⟩
        case measure => simp [intOf]

/-- What both answer to a read. -/
def rdX (d : Dk) (n : Int) : List UInt8 := if chkAt d n = 0 then seenD d n.toNat else []
end Go.Proofs.YtdaidhbmfocodaaGreat

/-
  Rows of the call's own to which elements are pushed, one by one: elements may hold memory that the call made, none of it in the row. Conditions: those that each lemma states.
-/
namespace Go.Proofs.YtdaidhbmfocodaaGreat
open Go.RowKit

/-- 'append(v, x...)' onto a row of the call's own: where the row lies then. -/
theorem app_own {P : Program} {w : World} (base : Nat) (t ty e : TypeId) (i : TypeInfo) (z : Value) (size bytes : Nat) (ht : P.underlying t = some (.slice e)) (hi : P.info? e = some i) (hz : i.zero = some z)
    (hsize : i.size = size) (hby : i.bytes = bytes) (hzs : z.cells.size = size) (hsz : 0 < size)
    (v : Value) (n : Nat) (xs : List Value) (hown : w.ownsRow base e size v n xs)
    (ad : Addr) (m c : Nat) (news : List Value) (hl : news.length = m * size) (hnews : ∀ j u, news[j]? = some u → w.cell? (ad.add j) = some u) (h1 : ∀ u ∈ news, u.oneCell' = true)
    (h63 : n + m ≤ maxLen) (hbytes : (n + m) * bytes ≤ 140737488355328) (hbase : base ≤ w.heap.size) :
    ∃ v' w', (Builtin.append_ #[t, t] ty #[v, .slice (some ad) m c]).run P w = .ok v' w' ∧ w'.ownsRow base e size v' (n + m) (xs ++ news) ∧ w.grownBy w' v.ownBlock ∧ Below base w w' ∧ (v'.ownBlock = v.ownBlock ∨ v'.ownBlock = some w.heap.size) := by
  obtain ⟨v', w', hr, h2, h3, _, h5⟩ := run_append_own_at (P := P) w base t ty e i z size bytes ht hi hz hsize hby hzs hsz v n xs hown ad m c news hl hnews h1 h63 hbytes hbase
  exact ⟨v', w', hr, h2, h3, (Below.refl base w).grown h3 hbase (fun k hk => (hown.lt k hk).1), h5⟩

theorem NewBut.below {lo : Nat} {A : Option Addr} {w w' : World} {p : Addr} {v : Value} (hb : Below w.heap.size w w') (hp : NewBut lo A w p) (hc : w.cell? p = some v) : NewBut lo A w' p ∧ w'.cell? p = some v :=
  ⟨⟨⟨hp.1.1, Nat.lt_of_lt_of_le hp.1.2.1 hb.size, (hb.frozen hp.1.2.1).trans hp.1.2.2⟩, hp.2⟩, (hb.cell hp.1.2.1).trans hc⟩
theorem NewBut.grown {lo : Nat} {A : Option Addr} {w w' : World} {p : Addr} {v : Value} {row : Option Nat} (hg : w.grownBy w' row) (hr : ∀ q, row = some q → q < lo) (hp : NewBut lo A w p) (hc : w.cell? p = some v) : NewBut lo A w' p ∧ w'.cell? p = some v := by
  have hb := hg.block p.block hp.1.2.1 (fun e => by have := hr _ e.symm; have := hp.1.1; omega)
  exact ⟨⟨⟨hp.1.1, Nat.lt_of_lt_of_le hp.1.2.1 hg.size, (World.frozen?_of_block hb).trans hp.1.2.2⟩, hp.2⟩, (World.cell?_of_block hb).trans hc⟩

/-- A row of the call's own, whose elements read as xs. -/
def RowOf {α : Type} (R : Rel α) (size : Nat) (t : TypeId) (lo : Nat) (w : World) (A : Option Addr) (c : Nat) (xs : List α) : Prop :=
  ∃ cs, w.ownsRow lo t size (.slice A xs.length c) xs.length cs ∧ ∀ i x, xs[i]? = some x → ∃ vs, vs.length = size ∧ (∀ j u, vs[j]? = some u → cs[i * size + j]? = some u) ∧ R (NewBut lo A w) w vs x
section
variable {α : Type} {R : Rel α} {size : Nat} {t : TypeId} {lo : Nat} {w w' : World} {A : Option Addr} {c : Nat} {xs : List α}
theorem RowOf.nil (R : Rel α) (size : Nat) (t : TypeId) (lo : Nat) (w : World) : RowOf R size t lo w none 0 [] := ⟨[], World.ownsRow_nil _ _ _ _, fun i x h => by simp at h⟩
theorem RowOf.below (hR : Stab R) (h : RowOf R size t lo w A c xs) (hb : Below w.heap.size w w') : RowOf R size t lo w' A c xs := by
  obtain ⟨cs, h1, h2⟩ := h
  refine ⟨cs, own_below h1 hb, fun i x hi => ?_⟩
  obtain ⟨vs, e1, e2, e3⟩ := h2 i x hi
  exact ⟨vs, e1, e2, hR _ _ _ _ _ _ (fun p v hp hc => NewBut.below hb hp hc) e3⟩
theorem RowOf.grown (hR : Stab R) (h : RowOf R size t lo w A c xs) {row : Option Nat} (hg : w.grownBy w' row) (hr : ∀ q, row = some q → q < lo) : RowOf R size t lo w' A c xs := by
  obtain ⟨cs, h1, h2⟩ := h
  have hk : (Value.slice A xs.length c).ownBlock = none ∨ (Value.slice A xs.length c).ownBlock ≠ row := by
    rcases row with _ | q
    · by_cases e : (Value.slice A xs.length c).ownBlock = none
      · exact .inl e
      · exact .inr e
    · refine .inr fun e => ?_
      have := (h1.lt q e).1
      have := hr q rfl
      omega
  have h1' : w'.ownsRow lo t size (.slice A xs.length c) xs.length cs := h1.kept hg hk
  refine ⟨cs, h1', fun i x hi => ?_⟩
  obtain ⟨vs, e1, e2, e3⟩ := h2 i x hi
  exact ⟨vs, e1, e2, hR _ _ _ _ _ _ (fun p v hp hc => NewBut.grown hg hr hp hc) e3⟩
theorem RowOf.low (hR : Stab R) (h : RowOf R size t lo w A c xs) {lo' : Nat} (hl : lo' ≤ lo) : RowOf R size t lo' w A c xs := by
  obtain ⟨cs, h1, h2⟩ := h
  refine ⟨cs, own_low h1 hl, fun i x hi => ?_⟩
  obtain ⟨vs, e1, e2, e3⟩ := h2 i x hi
  exact ⟨vs, e1, e2, hR _ _ _ _ _ _ (fun p v hp hc => ⟨⟨⟨Nat.le_trans hl hp.1.1, hp.1.2⟩, hp.2⟩, hc⟩) e3⟩
theorem RowOf.rel (hR : Stab R) (h : RowOf R size t lo w A c xs) : rSl size R (New lo w) w [.slice A xs.length c] xs := by
  obtain ⟨cs, h1, h2⟩ := h
  refine own_sl h1 rfl fun i x hi => ?_
  obtain ⟨vs, e1, e2, e3⟩ := h2 i x hi
  exact ⟨vs, e1, e2, hR _ _ _ _ _ _ (fun p v hp hc => ⟨hp.1, hc⟩) e3⟩
theorem RowOf.form (h : RowOf R size t lo w A c xs) : xs.length ≤ c ∧ c ≤ 9223372036854775807 ∧ (Value.slice A xs.length c).ownBlock = A.map (·.block) ∧ (0 < xs.length → ∃ ad, A = some ad) := by
  obtain ⟨cs, h1, _⟩ := h
  obtain ⟨A', c', e, h2, h3, h4, h5⟩ := own_any h1
  cases e
  exact ⟨h2, h3, h4, h5⟩
/-- One more. -/
theorem RowOf.push {P : Program} (hR : Stab R) (h : RowOf R size t lo w A c xs) (st ty : TypeId) (i : TypeInfo) (z : Value) (bytes : Nat) (ht : P.underlying st = some (.slice t)) (hi : P.info? t = some i) (hz : i.zero = some z)
    (hsize : i.size = size) (hby : i.bytes = bytes) (hzs : z.cells.size = size) (hsz : 0 < size) (ad : Addr) (m : Nat) (news : List Value) (x : α) (hl : news.length = size) (hnews : ∀ j u, news[j]? = some u → w.cell? (ad.add j) = some u) (h1 : ∀ u ∈ news, u.oneCell' = true)
    (h63 : xs.length + 1 ≤ maxLen) (hbytes : (xs.length + 1) * bytes ≤ 140737488355328) (hbase : lo ≤ w.heap.size) (hx : R (NewBut lo A w) w news x) :
    ∃ A' c' w', (Builtin.append_ #[st, st] ty #[.slice A xs.length c, .slice (some ad) 1 m]).run P w = .ok (.slice A' (xs.length + 1) c') w' ∧ RowOf R size t lo w' A' c' (xs ++ [x]) ∧ w.grownBy w' (A.map (·.block)) ∧ Below lo w w' := by
  obtain ⟨cs, ho, hcs⟩ := h
  obtain ⟨A1, c1, e, _, _, e4, _⟩ := own_any ho
  cases e
  obtain ⟨v', w', hr, o1, g1, b1, k1⟩ := app_own (P := P) (w := w) lo st ty t i z size bytes ht hi hz hsize hby hzs hsz _ _ cs ho ad 1 m news (by omega) hnews h1 h63 hbytes hbase
  obtain ⟨A2, c2, rfl, _, _, e5, _⟩ := own_any o1
  rw [e4] at g1 k1
  rw [e5] at k1
  have mp : ∀ p v, NewBut lo A w p → w.cell? p = some v → NewBut lo A2 w' p ∧ w'.cell? p = some v := fun p v hp hc => by
    have hb := g1.block p.block hp.1.2.1 (fun e => hp.2 e.symm)
    refine ⟨⟨⟨hp.1.1, Nat.lt_of_lt_of_le hp.1.2.1 g1.size, (World.frozen?_of_block hb).trans hp.1.2.2⟩, fun e => ?_⟩, (World.cell?_of_block hb).trans hc⟩
    rcases k1 with k | k
    · exact hp.2 (k ▸ e)
    · rw [k] at e
      simp only [Option.some.injEq] at e
      have := hp.1.2.1
      omega
  refine ⟨A2, c2, w', hr, ⟨cs ++ news, by rw [List.length_append]; exact o1, fun j y hj => ?_⟩, g1, b1⟩
  have hcl : cs.length = xs.length * size := ho.1
  rcases Nat.lt_or_ge j xs.length with hjl | hjl
  · rw [List.getElem?_append_left hjl] at hj
    obtain ⟨vs, e1, e2, e3⟩ := hcs j y hj
    refine ⟨vs, e1, fun k u hk => ?_, hR _ _ _ _ _ _ mp e3⟩
    have hcu := e2 k u hk
    rw [List.getElem?_append_left (List.getElem?_eq_some_iff.1 hcu).1]
    exact hcu
  · rw [List.getElem?_append_right hjl] at hj
    have hj0 : j = xs.length := by
      have := (List.getElem?_eq_some_iff.1 hj).1
      simp at this
      omega
    subst hj0
    simp at hj
    subst hj
    refine ⟨news, hl, fun k u hk => ?_, hR _ _ _ _ _ _ mp hx⟩
    rw [List.getElem?_append_right (by omega), hcl, Nat.add_sub_cancel_left]
    exact hk
end

/-- 'append([]byte(nil), b...)': the same bytes in new memory. -/
theorem app_copy (v : Value) (xs : List UInt8) (w : World) (hbig : xs.length ≤ 1000000000) (h : rBy (Old w) w [v] xs) :
    ∃ v' w', (Builtin.append_ #[27, 27] 27 #[.slice none 0 0, v]).run Tryz.prog w = .ok v' w' ∧ rBy (New w.heap.size w') w' [v'] xs ∧ Below w.heap.size w w' := by
  obtain ⟨i0, hi, hz0, hz1, hz2⟩ := info_parts u8_info0
  obtain ⟨A, cap, rfl, _, _, hb⟩ := rBy_byt (B := w.heap.size) (fun p hp => hp) h
  obtain ⟨v', w', hr, ho, hB⟩ := app_byt (P := Tryz.prog) (w := w) w.heap.size 27 27 5 i0 Tryz.underlying27 hi hz0 hz1 hz2 (.slice none 0 0) 0 [] (World.ownsRow_nil _ _ _ _) w.heap.size A xs.length cap xs hb rfl (by omega) (Nat.le_refl _)
  rw [Nat.zero_add, List.nil_append] at ho
  exact ⟨v', w', hr, own_by ho, hB⟩
theorem does_append {P : Program} {w w' : World} {o : Oper} {a : Act} {R : Value → World → Prop} (s x : Operand) (t : TypeId)
    (ho : o.op = .call { callee := .builtin .append, args := #[s, x], argTypes := #[t, t] }) {v u v' : Value} (hs : a.eval s = v) (hx : a.eval x = u)
    (hrun : (Builtin.append_ #[t, t] o.type #[v, u]).run P w = .ok v' w') (h : R v' w') : doesUpon P R ((execOp a.eval o).run P w) := by
  unfold execOp
  simp only [ho, resolve, invoke, builtin, Sem.run_bind, Sem.run_pure, Result.andThen_ok, List.map_toArray, List.map_cons, List.map_nil, hs, hx, hrun]
  exact h
theorem grow_later {a b c : World} {row : Option Nat} (h : a.grownBy b row) (h' : Below a.heap.size b c) : a.grownBy c row :=
  ⟨h'.os.trans h.os, h'.tape.trans h.tape, h'.output.trans h.output, Nat.le_trans h.size h'.size, fun k hk hn => (h'.block k hk).trans (h.block k hk hn)⟩
end Go.Proofs.YtdaidhbmfocodaaGreat

/-
  The document's answers of layer 3: New, Twin. Conditions: those that each lemma states.
-/
namespace Go.Proofs.YtdaidhbmfocodaaGreat
open Go.RowKit

theorem rows_push {w : World} {lo : Nat} {A : Option Addr} {c : Nat} {xss : List (List UInt8)} (h : RowOf rBy 1 27 lo w A c xss) (g : Nat) (u : Value) (m : Nat) (x : List UInt8) (hg : w.heap[g]? = some (.cells #[u] 27 (0, 0))) (hs : xss.length < 100000) (hbase : lo ≤ w.heap.size) (hx : rBy (NewBut lo A w) w [u] x) :
    ∃ A' c' w', (Builtin.append_ #[23, 23] 23 #[.slice A xss.length c, .slice (some ⟨g, 0, none⟩) 1 m]).run Tryz.prog w = .ok (.slice A' (xss.length + 1) c') w' ∧ RowOf rBy 1 27 lo w' A' c' (xss ++ [x]) ∧ w.grownBy w' (A.map (·.block)) ∧ Below lo w w' := by
  obtain ⟨i0, hi, hz0, hz1, hz2⟩ := info_parts rows_info0
  obtain ⟨E, ce, rfl, _⟩ := id (rBy_open hx)
  exact RowOf.push stab_by h 23 23 i0 (.slice none 0 0) 24 Tryz.underlying23 hi hz0 hz1 hz2 rfl (by decide) ⟨g, 0, none⟩ m _ x rfl (World.news_of_block (cs := #[.slice E x.length ce]) hg) (fun u hu => by
    simp at hu
    subst hu
    rfl) (by unfold maxLen; omega) (by omega) hbase hx

end Go.Proofs.YtdaidhbmfocodaaGreat

/-
  The document's answers of layer 3: Twin. Conditions: those that each lemma states.
-/
namespace Go.Proofs.YtdaidhbmfocodaaGreat
open Go.RowKit

theorem wts_push {w : World} {lo : Nat} {A : Option Addr} {c : Nat} {ws : List Wt} (h : RowOf rWt 2 106 lo w A c ws) (g : Nat) (n : Int) (u : Value) (m : Nat) (x : List UInt8) (hg : w.heap[g]? = some (.cells #[.int .i64 n, u] 106 (0, 0))) (hs : ws.length < 100000) (hbase : lo ≤ w.heap.size) (h1 : -9223372036854775808 ≤ n) (h2 : n ≤ 9223372036854775807) (hx : rBy (NewBut lo A w) w [u] x) :
    ∃ A' c' w', (Builtin.append_ #[24, 24] 24 #[.slice A ws.length c, .slice (some ⟨g, 0, none⟩) 1 m]).run Tryz.prog w = .ok (.slice A' (ws.length + 1) c') w' ∧ RowOf rWt 2 106 lo w' A' c' (ws ++ [(n, x)]) ∧ w.grownBy w' (A.map (·.block)) ∧ Below lo w w' := by
  obtain ⟨i0, hi, hz0, hz1, hz2⟩ := info_parts wts_info0
  obtain ⟨E, ce, rfl, _⟩ := id (rBy_open hx)
  exact RowOf.push stab_wt h 24 24 i0 (.agg #[.int .i64 0, .slice none 0 0]) 32 Tryz.underlying24 hi hz0 hz1 hz2 rfl (by decide) ⟨g, 0, none⟩ m _ (n, x) rfl (World.news_of_block (cs := #[.int .i64 n, .slice E x.length ce]) hg) (fun u hu => by
    simp at hu
    rcases hu with rfl | rfl <;> rfl) (by unfold maxLen; omega) (by omega) hbase (rWt_mk h1 h2 hx)

/-- The cells of a row's elements of the call's own: none lies in the row. -/
theorem RowOf.but {α : Type} {R : Rel α} {size : Nat} {t : TypeId} {lo lo' : Nat} {w w' : World} {A : Option Addr} {c : Nat} {xs : List α} (h : RowOf R size t lo w A c xs) {p : Addr} (hl : w.heap.size ≤ lo') (h2 : lo ≤ lo') (hp : New lo' w' p) : NewBut lo A w' p :=
  ⟨⟨Nat.le_trans h2 hp.1, hp.2⟩, fun e => by
    obtain ⟨cs, hcs, _⟩ := h
    obtain ⟨_, _, e0, _, _, e4, _⟩ := own_any hcs
    cases e0
    have := (hcs.lt _ (by rw [e4]; exact e)).2
    have := hp.1
    omega⟩

/-- A row that lies in no block of disks. -/
def FarB (w : World) (A : Option Addr) : Prop := ∀ b, A.map (·.block) = some b → b < w.heap.size ∧ ∀ cs fr, w.heap[b]? ≠ some (.cells cs 26 fr)
theorem FarB.below {w w' : World} {A : Option Addr} (h : FarB w A) (hb : Below w.heap.size w w') : FarB w' A := fun b e => ⟨Nat.lt_of_lt_of_le (h b e).1 hb.size, fun cs fr => by
  rw [hb.block b (h b e).1]
  exact (h b e).2 cs fr⟩
theorem RowOf.far {α : Type} {R : Rel α} {size : Nat} {t : TypeId} {lo : Nat} {w : World} {A : Option Addr} {c : Nat} {xs : List α} (h : RowOf R size t lo w A c xs) (ht : t ≠ 26) : FarB w A := fun b hb => by
  obtain ⟨cs, h1, _⟩ := h
  cases A with
  | none => simp at hb
  | some ad =>
    simp only [Option.map_some, Option.some.injEq] at hb
    subst hb
    exact ⟨(own_block h1).2.1, fun cs fr e => own_not h1 e ht rfl⟩
set_option maxRecDepth 100000 in
set_option maxHeartbeats 4000000 in
theorem refTwin_far (v : Value) (d : Dk) (w : World) (hs : Small d) (h : Dsk (Old w) w v d) : Calls Tryz.prog 28 #[v] w fun e w' => ∃ X xc Y yc, e = .returned (.agg #[.slice X d.1.length xc, .slice Y d.2.length yc]) ∧ Dsk (New w.heap.size w') w' (.agg #[.slice X d.1.length xc, .slice Y d.2.length yc]) d ∧ FarB w' X ∧ FarB w' Y ∧ Below w.heap.size w w' := by
  obtain ⟨A, c, B, c', rfl, l1, m1, l2, m2, hA, hB⟩ := h.open
  have p1 := hs.rows
  have p2 := hs.waits
  have HS := Lib.hid hs
  have HA := Lib.hid hA
  have HB := Lib.hid hB
  clear hA hB h hs
  obtain ⟨n, hn⟩ : ∃ n, d.1.length = n := ⟨_, rfl⟩
  obtain ⟨m, hm⟩ : ∃ m, d.2.length = m := ⟨_, rfl⟩
  rw [hn] at l1 p1 ⊢
  rw [hm] at l2 p2 ⊢
  replace hn := Lib.hid hn
  replace hm := Lib.hid hm
  obtain ⟨w2, hw2, f1, f2, f3, hsz, hB2⟩ := box_two w (.slice A n c) (.slice B m c') #[.slice none 0 0, .slice none 0 0] 26
  obtain ⟨w3, hw3, g3, hs3, hB3⟩ := box_pair' w2 (.slice none 0 0) (.slice none 0 0) 26
  have S5 : Hid (w.heap.size + 2 = w2.heap.size ∧ w2.heap.size + 1 = w3.heap.size) := Lib.hid ⟨by omega, by omega⟩
  replace hsz := Lib.hid hsz
  replace hs3 := Lib.hid hs3
  replace g3 := Lib.hid g3
  replace f3 := Lib.hid f3
  replace hw3 := Lib.hid hw3
  have hB2' := Lib.hid hB2
  have lt0 : w.heap.size < w2.heap.size := by have := S5.out; omega
  clear hB2
  go_enter Tryz.func28, Tryz.ntmps28
  go_upto_region 2 with fail
  rw [hw3.out]
  clear hw3 hw2
  go_wp2_with fail
  go_loopw [4] (fun i wr => ∃ k : Nat, k ≤ n ∧ i = .int .i64 k ∧ Below w2.heap.size w2 wr ∧ ∃ (A1 : Option Addr) (c1 : Nat), wr.heap[w2.heap.size]? = some (.cells #[.slice A1 k c1, .slice none 0 0] 26 (0, 0)) ∧
      RowOf rBy 1 27 w3.heap.size wr A1 c1 (d.1.take k)) (fun i _ => n - (intOf i).toNat)
  case atStart => exact ⟨0, by omega, rfl, hB3, none, 0, g3.out, RowOf.nil _ _ _ _ _⟩
  case round =>
    obtain ⟨k, hk, rfl, hb, A1, c1, hz, hrow⟩ := hrel
    obtain ⟨r2, r3, r4, r5⟩ := two_cells hz
    have r1 := (hb.cell (p := ⟨w.heap.size, 0, none⟩) lt0).trans f1
    have htl := Lib.hid (show (d.1.take k).length = k by rw [List.length_take, hn.out]; omega)
    replace hrow := Lib.hid hrow
    by_cases hlt : k < n
    · obtain ⟨x, hx⟩ : ∃ x, d.1[k]? = some x := ⟨_, List.getElem?_eq_getElem (by rw [hn.out]; exact hlt)⟩
      obtain ⟨ad, u, rfl, hok, hc, hby⟩ := HA.out k x hx
      have hWr : Below w.heap.size w wr := hB2'.out.trans (hb.mono hB2'.out.size)
      have hcr := (hWr.cell hok).trans hc
      have hbr := stab_by.old hby hWr
      have hbig := HS.out.block k x hx
      have htk := Lib.hid (show d.1.take (k + 1) = d.1.take k ++ [x] by rw [List.take_add_one, hx]; rfl)
      obtain ⟨E, ce, rfl, _⟩ := id (rBy_open hby)
      have t1 := World.block_lt_of_cell? _ _ r1
      have t3 := World.block_lt_of_cell? _ _ hcr
      have i1 : (0 : Int) ≤ (k : Int) := by omega
      have i2 : (k : Int) < (n : Int) := by omega
      replace hx := Lib.hid hx
      replace hbr := Lib.hid hbr
      have hz' := Lib.hid hz
      have hb' := Lib.hid hb
      clear hz hb hc hby hok
      go_wp2_with fail
      refine wp_region_tails (by kernel_rfl) 9 (fun W => Below wr.heap.size wr W) (fun i => match i with
          | 7 => some (fun v W => rBy (New wr.heap.size W) W [v] x)
          | 8 => some (fun v W => ∃ g, v = .slice (some ⟨g, 0, none⟩) 1 1 ∧ wr.heap.size ≤ g ∧ ∃ u, W.heap[g]? = some (.cells #[u] 27 (0, 0)) ∧ rBy (New wr.heap.size W) W [u] x)
          | _ => none) (fun _ => none) (by decide) (by kernel_rfl) (by kernel_rfl) (Below.refl _ _).drew (fun w w' h hb => h.trans (hb.mono h.size)) ?tst ?_
      case tst =>
        intro j φ x W W' hp hx hb
        match j, hp with
        | 7, hp => cases hp; exact stab_by.new hx (Nat.le_refl _) hb
        | 8, hp =>
          cases hp
          obtain ⟨g, e1, e2, u, e3, e4⟩ := hx
          exact ⟨g, e1, e2, u, (hb.block g (Array.getElem?_eq_some_iff.1 e3).1).trans e3, stab_by.new e4 (Nat.le_refl _) hb⟩
      simp only [List.take_succ_cons, List.take_zero, List.drop_succ_cons, List.drop_zero]
      repeat (first
        | (refine wpAs_skip rfl ?_; simp only [Act.put, List.setIfInBounds_toArray, List.set_cons_zero, List.set_cons_succ])
        | (refine wpAs_pure (v := ?_) rfl rfl ?_ ?_; rotate_left; (intro W hC hE; clear hE; (have z1 := (hC.cell t1).trans r1; have z2 := (hC.cell (p := ⟨w2.heap.size, 0, none⟩) r5).trans r2; have z3 := (hC.cell t3).trans hcr); clear hC; go_simp; done); simp only [Act.put, List.setIfInBounds_toArray, List.set_cons_zero, List.set_cons_succ])
        | (refine wpAs_pure (v := ?_) rfl rfl ?_ ?_; rotate_left; (intro W hC hE; clear hE; (have z1 := (hC.cell t1).trans r1; have z2 := (hC.cell (p := ⟨w2.heap.size, 0, none⟩) r5).trans r2; have z3 := (hC.cell t3).trans hcr); clear hC; go_simp; with_reducible rfl); simp only [Act.put, List.setIfInBounds_toArray, List.set_cons_zero, List.set_cons_succ]))
      refine wpAs_act rfl rfl ?_ ?_
      · intro W hC hE
        clear hE
        obtain ⟨v', W', hr, h1, h2⟩ := app_copy (.slice E x.length ce) x W (by omega) (stab_by.old hbr.out hC)
        exact does_append _ _ _ rfl rfl rfl hr ⟨stab_by.mono h1 hC.size, h2⟩
      simp only [Act.put, List.setIfInBounds_toArray, List.set_cons_zero, List.set_cons_succ, envAdd]
      intro x20
      refine wpAs_act rfl rfl ?_ ?_
      · intro W hC hE
        have h9 := hE.1 rfl
        obtain ⟨E, ce, rfl, _⟩ := rBy_open h9
        have hsw := hC.size
        have h9' := Lib.hid (stab_by.new h9 (Nat.le_refl _) ((Below.refl W.heap.size W).alloc (Nat.le_refl _) (.cells #[.slice E x.length ce] 27)))
        clear hE hC h9
        go_simp
        exact ⟨⟨W.heap.size, rfl, hsw, _, heap_alloc_new _ _, h9'.out⟩, (Below.refl _ _).alloc (Nat.le_refl _) _⟩
      simp only [Act.put, List.setIfInBounds_toArray, List.set_cons_zero, List.set_cons_succ, envAdd]
      intro x21
      refine wpAs_end fun W hC hE => ?_
      obtain ⟨⟨g, rfl, hg, u, hg3, hu⟩, _⟩ := hE
      have s5 := S5.out
      have hwr := hb'.out.size
      have hrowW := RowOf.below stab_by hrow.out hC
      have hlo : w3.heap.size ≤ wr.heap.size := by omega
      obtain ⟨A2, c2, w7, hr2, row7, gr7, ba7⟩ := rows_push hrowW g u 1 x hg3 (by rw [htl.out]; omega) (Nat.le_trans hlo hC.size) (stab_by _ _ _ _ _ _ (fun p v hp hc => ⟨hrow.out.but (Nat.le_refl _) hlo hp, hc⟩) hu)
      rw [htl.out] at hr2
      have g7 := (ba7.block w2.heap.size (by omega)).trans ((hC.block w2.heap.size r5).trans hz'.out)
      obtain ⟨w8, hw8, g8, gr8, gs8⟩ := put_fst (u := .slice A2 (k + 1) c2) g7
      have row8 := Lib.hid (RowOf.grown stab_by row7 gr8 (fun q e => by cases e; omega))
      have hb7 : Below w2.heap.size w2 w7 := (hb'.out.trans (hC.mono hb'.out.size)).trans (ba7.mono (by omega))
      have hb8 := Lib.hid (hb7.grown gr8 hb7.size (fun q e => by cases e; omega))
      have z2 := (hC.cell (p := ⟨w2.heap.size, 0, none⟩) r5).trans r2
      obtain ⟨y1, y2, y3, y4⟩ := two_cells g7
      have H2 := Lib.hid hr2
      replace g8 := Lib.hid g8
      replace g7 := Lib.hid g7
      replace hg3 := Lib.hid hg3
      clear hr2 row7 gr7 gr8 ba7 hb7 hrowW hC gs8 hu s5
      go_wp2_with (at_builtin; refine wpList_append_run rfl _ _ _ rfl rfl rfl H2.out ?_; clear H2)
      go_roundw
      case rel => exact ⟨k + 1, by omega, by go_num, hb8.out, A2, c2, g8.out, by rw [htk.out]; exact row8.out⟩
      case measure => simp [intOf]; omega
    · have hge : n ≤ k := by omega
      have hkn := Lib.hid (show k = n by omega)
      have hd1 := Lib.hid (show d.1.take k = d.1 from List.take_of_length_le (by rw [hn.out]; omega))
      replace hrow := Lib.hid (show RowOf rBy 1 27 w3.heap.size wr A1 c1 d.1 by rw [← hd1.out]; exact hrow.out)
      have r1' := (hb.cell (p := ⟨w.heap.size, 1, none⟩) lt0).trans f2
      have hz' := Lib.hid hz
      have hb' := Lib.hid hb
      obtain ⟨wo, rfl⟩ : ∃ wo : World, wo = wr := ⟨_, rfl⟩
      have hws : w3.heap.size ≤ wo.heap.size := by have := S5.out; omega
      clear hz hb
      go_wp2_with fail
      go_loopw [5] (fun i wr => ∃ j : Nat, j ≤ m ∧ i = .int .i64 j ∧ wo.grownBy wr (some w2.heap.size) ∧ ∃ (A2 : Option Addr) (c2 : Nat), wr.heap[w2.heap.size]? = some (.cells #[.slice A1 k c1, .slice A2 j c2] 26 (0, 0)) ∧
          RowOf rWt 2 106 wo.heap.size wr A2 c2 (d.2.take j)) (fun i _ => m - (intOf i).toNat)
      case atStart => exact ⟨0, by omega, rfl, grow_refl _ _, none, 0, hz'.out, RowOf.nil _ _ _ _ _⟩
      case round =>
        obtain ⟨j, hj, rfl, hgr, A2, c2, hz, hrw⟩ := hrel
        obtain ⟨q2, q3, q4, q5⟩ := two_cells hz
        have q1 := (grow_cell hgr (p := ⟨w.heap.size, 1, none⟩) (by have := S5.out; show w.heap.size < _; omega) (fun e => by simp only [Option.some.injEq] at e; omega)).trans r1'
        have htl := Lib.hid (show (d.2.take j).length = j by rw [List.length_take, hm.out]; omega)
        replace hrw := Lib.hid hrw
        have hb2 : Below w2.heap.size w2 wr := hb'.out.grown hgr hb'.out.size (fun q e => by cases e; omega)
        by_cases hlt2 : j < m
        · obtain ⟨x, hx⟩ : ∃ x, d.2[j]? = some x := ⟨_, List.getElem?_eq_getElem (by rw [hm.out]; exact hlt2)⟩
          obtain ⟨ad, u, rfl, hok, hok', hc, hc', hby, b1, b2⟩ := HB.out j x hx
          have hWr : Below w.heap.size w wr := hB2'.out.trans (hb2.mono hB2'.out.size)
          have hcr := (hWr.cell hok).trans hc
          have hcr' := (hWr.cell hok').trans hc'
          rw [add_next] at hcr'
          have hbr := stab_by.old hby hWr
          have hbig := HS.out.wait j x hx
          have htk := Lib.hid (show d.2.take (j + 1) = d.2.take j ++ [x] by rw [List.take_add_one, hx]; rfl)
          obtain ⟨E, ce, rfl, _⟩ := id (rBy_open hby)
          obtain ⟨xi, xb⟩ := x
          obtain ⟨q, hq'⟩ : ∃ q, xb.length = q := ⟨_, rfl⟩
          replace hbr : rBy (Old wr) wr [.slice E xb.length ce] xb := hbr
          replace hcr' : wr.cell? _ = some (.slice E xb.length ce) := hcr'
          rw [hq'] at hcr' hbr
          replace hq' := Lib.hid hq'
          have t1 := World.block_lt_of_cell? _ _ q1
          have t3 := World.block_lt_of_cell? _ _ hcr
          have t4 := World.block_lt_of_cell? _ _ hcr'
          have i1 : (0 : Int) ≤ (j : Int) := by omega
          have i2 : (j : Int) < (m : Int) := by omega
          replace hx := Lib.hid hx
          replace hbr := Lib.hid hbr
          have hz2 := Lib.hid hz
          have hgr' := Lib.hid hgr
          have hb2' := Lib.hid hb2
          clear hz hgr hb2 hc hc' hby hok hok' hWr
          go_wp2_with fail
          refine wp_region_tails (by kernel_rfl) 17 (fun W => Below wr.heap.size wr W) (fun i => match i with
              | 14 => some (fun v W => rBy (New wr.heap.size W) W [v] xb)
              | 15 => some (fun v W => ∃ E ce, v = .agg #[.int .i64 xi, .slice E q ce] ∧ rBy (New wr.heap.size W) W [.slice E q ce] xb)
              | 16 => some (fun v W => ∃ g, v = .slice (some ⟨g, 0, none⟩) 1 1 ∧ wr.heap.size ≤ g ∧ ∃ u, W.heap[g]? = some (.cells #[.int .i64 xi, u] 106 (0, 0)) ∧ rBy (New wr.heap.size W) W [u] xb)
              | _ => none) (fun _ => none) (by decide) (by kernel_rfl) (by kernel_rfl) (Below.refl _ _).drew (fun w w' h hb => h.trans (hb.mono h.size)) ?tst2 ?_
          case tst2 =>
            intro j φ x W W' hp hx hb
            match j, hp with
            | 14, hp => cases hp; exact stab_by.new hx (Nat.le_refl _) hb
            | 15, hp =>
              cases hp
              obtain ⟨E, ce, e1, e2⟩ := hx
              exact ⟨E, ce, e1, stab_by.new e2 (Nat.le_refl _) hb⟩
            | 16, hp =>
              cases hp
              obtain ⟨g, e1, e2, u, e3, e4⟩ := hx
              exact ⟨g, e1, e2, u, (hb.block g (Array.getElem?_eq_some_iff.1 e3).1).trans e3, stab_by.new e4 (Nat.le_refl _) hb⟩
          simp only [List.take_succ_cons, List.take_zero, List.drop_succ_cons, List.drop_zero]
          repeat (first
            | (refine wpAs_skip rfl ?_; simp only [Act.put, List.setIfInBounds_toArray, List.set_cons_zero, List.set_cons_succ])
            | (refine wpAs_pure (v := ?_) rfl rfl ?_ ?_; rotate_left; (intro W hC hE; clear hE; (have z1 := (hC.cell t1).trans q1; have z2 := (hC.cell (p := ⟨w2.heap.size, 1, none⟩) q5).trans q3; have z3 := (hC.cell t3).trans hcr; have z4 := (hC.cell (p := ⟨(ad.add (j * 2)).block, (ad.add (j * 2)).off + 1, none⟩) t4).trans hcr'); clear hC; go_simp; done); simp only [Act.put, List.setIfInBounds_toArray, List.set_cons_zero, List.set_cons_succ])
            | (refine wpAs_pure (v := ?_) rfl rfl ?_ ?_; rotate_left; (intro W hC hE; clear hE; (have z1 := (hC.cell t1).trans q1; have z2 := (hC.cell (p := ⟨w2.heap.size, 1, none⟩) q5).trans q3; have z3 := (hC.cell t3).trans hcr; have z4 := (hC.cell (p := ⟨(ad.add (j * 2)).block, (ad.add (j * 2)).off + 1, none⟩) t4).trans hcr'); clear hC; go_simp; with_reducible rfl); simp only [Act.put, List.setIfInBounds_toArray, List.set_cons_zero, List.set_cons_succ]))
          refine wpAs_act rfl rfl ?_ ?_
          · intro W hC hE
            clear hE
            obtain ⟨v', W', hr, h1, h2⟩ := app_copy (.slice E q ce) xb W (by have := hq'.out; omega) (stab_by.old hbr.out hC)
            exact does_append _ _ _ rfl rfl rfl hr ⟨stab_by.mono h1 hC.size, h2⟩
          simp only [Act.put, List.setIfInBounds_toArray, List.set_cons_zero, List.set_cons_succ, envAdd]
          intro x45
          refine wpAs_act rfl rfl ?_ ?_
          · intro W hC hE
            have h9 := hE.1 rfl
            obtain ⟨E, ce, rfl, _⟩ := rBy_open h9
            rw [hq'.out] at h9
            clear hE hC
            have h9' := Lib.hid h9
            clear h9
            go_simp
            have := hq'.out
            exact ⟨⟨E, ce, by rw [this], h9'.out⟩, Below.refl _ _⟩
          simp only [Act.put, List.setIfInBounds_toArray, List.set_cons_zero, List.set_cons_succ, envAdd]
          intro x46
          refine wpAs_act rfl rfl ?_ ?_
          · intro W hC hE
            obtain ⟨E, ce, rfl, h9⟩ := hE.1 rfl
            have hsw := hC.size
            have h9' := Lib.hid (stab_by.new h9 (Nat.le_refl _) ((Below.refl W.heap.size W).alloc (Nat.le_refl _) (.cells #[.int .i64 xi, .slice E q ce] 106)))
            clear hE hC h9
            go_simp
            exact ⟨⟨W.heap.size, rfl, hsw, _, heap_alloc_new _ _, h9'.out⟩, (Below.refl _ _).alloc (Nat.le_refl _) _⟩
          simp only [Act.put, List.setIfInBounds_toArray, List.set_cons_zero, List.set_cons_succ, envAdd]
          intro x47
          refine wpAs_end fun W hC hE => ?_
          obtain ⟨⟨g, rfl, hg, u, hg3, hu⟩, _⟩ := hE
          have hwr := hgr'.out.size
          have hrowW := RowOf.below stab_wt hrw.out hC
          obtain ⟨A3, c3, w7, hr2, row7, gr7, ba7⟩ := wts_push hrowW g xi u 1 xb hg3 (by rw [htl.out]; omega) (Nat.le_trans hwr hC.size) b1 b2 (stab_by _ _ _ _ _ _ (fun p v hp hc => ⟨hrw.out.but (Nat.le_refl _) hwr hp, hc⟩) hu)
          rw [htl.out] at hr2
          have g7 := (ba7.block w2.heap.size (by have := S5.out; omega)).trans ((hC.block w2.heap.size q5).trans hz2.out)
          obtain ⟨w8, hw8, g8, gr8, gs8⟩ := put_snd (u := .slice A3 (j + 1) c3) g7
          have s5 := S5.out
          have row8 := Lib.hid (RowOf.grown stab_wt row7 gr8 (fun q e => by cases e; omega))
          have hg8 := Lib.hid (grow_trans (grow_later (grow_later hgr'.out (hC.mono hwr)) ba7) gr8)
          have z2 := (hC.cell (p := ⟨w2.heap.size, 1, none⟩) q5).trans q3
          obtain ⟨y1, y2, y3, y4⟩ := two_cells g7
          have H2 := Lib.hid hr2
          replace g8 := Lib.hid g8
          replace g7 := Lib.hid g7
          replace hg3 := Lib.hid hg3
          clear hr2 row7 gr7 gr8 ba7 hrowW hC gs8 hu s5
          go_wp2_with (at_builtin; refine wpList_append_run rfl _ _ _ rfl rfl rfl H2.out ?_; clear H2)
          go_roundw
          case rel => exact ⟨j + 1, by omega, by go_num, hg8.out, A3, c3, g8.out, by rw [htk.out]; exact row8.out⟩
          case measure => simp [intOf]; omega
        · have hge2 : m ≤ j := by omega
          have hjm := Lib.hid (show j = m by omega)
          have hd2 := Lib.hid (show d.2.take j = d.2 from List.take_of_length_le (by rw [hm.out]; omega))
          have s5 := S5.out
          have gz := (hb2.block (w.heap.size + 1) (by omega)).trans f3.out
          obtain ⟨k1, k2, k3, k4⟩ := two_cells gz
          obtain ⟨W9, hW9, g9, gr9, gs9⟩ := put_two (u := .slice A1 k c1) (v := .slice A2 j c2) gz
          obtain ⟨k5, k6, _, _⟩ := two_cells g9
          have hBr : Below w.heap.size w wr := hB2'.out.trans (hb2.mono hB2'.out.size)
          have hB9 : Below w.heap.size w W9 := hBr.grown gr9 hBr.size (fun q e => by cases e; omega)
          have row1 := RowOf.low stab_by (RowOf.grown stab_by (RowOf.grown stab_by hrow.out hgr (fun q e => by cases e; omega)) gr9 (fun q e => by cases e; omega)) (show w.heap.size ≤ w3.heap.size by omega)
          have row2 := RowOf.low stab_wt (RowOf.grown stab_wt hrw.out gr9 (fun q e => by cases e; omega)) (show w.heap.size ≤ wo.heap.size by omega)
          have hfin : Hid (Dsk (New w.heap.size W9) W9 (.agg #[.slice A1 k c1, .slice A2 j c2]) d) := Lib.hid (by
            have h1 := row1.rel stab_by
            have h2 := row2.rel stab_wt
            rw [htl.out, hd2.out] at h2
            rw [hn.out, ← hkn.out] at h1
            exact ⟨_, _, rfl, h1, h2⟩)
          have hfar : Hid (FarB W9 A1 ∧ FarB W9 A2) := Lib.hid ⟨row1.far (by decide), row2.far (by decide)⟩
          clear row1 row2 hrow hrw hz g9 gr9 s5 hgr
          go_wp2_with fail
          exact bodyPost_ret (v := .agg #[.slice A1 k c1, .slice A2 j c2]) (by simp [results, Tryz.results28, go_sem, k5, k6]) rfl ⟨A1, c1, A2, c2, by rw [hkn.out, hjm.out], by have h := hfin.out; rwa [hkn.out, hjm.out] at h, hfar.out.1, hfar.out.2, hB9⟩
theorem refTwin_any (v : Value) (d : Dk) (w : World) (hs : Small d) (h : Dsk (Old w) w v d) : Calls Tryz.prog 28 #[v] w fun e w' => ∃ u, e = .returned u ∧ Dsk (New w.heap.size w') w' u d ∧ Below w.heap.size w w' :=
  (refTwin_far v d w hs h).mono fun _ _ ⟨_, _, _, _, e, h1, _, _, h4⟩ => ⟨_, e, h1, h4⟩
end Go.Proofs.YtdaidhbmfocodaaGreat

/-
  The law's own spoil (layer 3): every byte of a disk of the call's own is turned; what lies below stays. Condition: the disk's cells lie at lo and above and may be written.
-/
namespace Go.Proofs.YtdaidhbmfocodaaGreat
open Go.RowKit

structure Spoilt (lo : Nat) (w wr : World) : Prop where
  low : Below lo w wr
  fro : ∀ p : Addr, p.block < w.heap.size → wr.frozen? p = w.frozen? p
  rest : ∀ (p : Addr) (v : Value), p.block < w.heap.size → w.cell? p = some v → (∀ x, v ≠ .int .u8 x) → wr.cell? p = some v
  byte : ∀ (p : Addr) (x : UInt8), p.block < w.heap.size → w.cell? p = some (.int .u8 (x.toNat : Int)) → ∃ y : UInt8, wr.cell? p = some (.int .u8 (y.toNat : Int))
theorem Spoilt.refl (lo : Nat) (w : World) : Spoilt lo w w := ⟨Below.refl _ _, fun _ _ => rfl, fun _ _ _ h _ => h, fun _ x _ h => ⟨x, h⟩⟩
theorem Spoilt.step {lo : Nat} {w wr : World} (h : Spoilt lo w wr) {p : Addr} (hp : lo ≤ p.block) {x : UInt8} (hx : wr.cell? p = some (.int .u8 (x.toNat : Int))) (y : UInt8) : Spoilt lo w (wr.setCell p (.int .u8 (y.toNat : Int))) := by
  refine ⟨h.low.setCell hp _, fun q hq => by rw [World.frozen?_setCell]; exact h.fro q hq, fun q v hq hc hv => ?_, fun q z hq hc => ?_⟩
  · have h1 := h.rest q v hq hc hv
    rw [World.cell?_setCell_other _ _ _ _ (fun e => by
      subst e
      rw [h1] at hx
      exact hv _ (Option.some.inj hx))]
    exact h1
  · by_cases e : p = q
    · subst e
      exact ⟨y, World.cell?_setCell_same _ _ _ hx⟩
    · rw [World.cell?_setCell_other _ _ _ _ e]
      exact h.byte q z hq hc
theorem Spoilt.drew {lo : Nat} {w wr : World} (h : Spoilt lo w wr) : Spoilt lo w wr.drew :=
  ⟨h.low.drew, fun p hp => by simpa using h.fro p hp, fun p v hp hc hv => by simpa using h.rest p v hp hc hv, fun p x hp hc => by simpa using h.byte p x hp hc⟩
theorem Spoilt.new {lo lo' : Nat} {w wr : World} (h : Spoilt lo w wr) {p : Addr} (hp : New lo' w p) : New lo' wr p := ⟨hp.1, Nat.lt_of_lt_of_le hp.2.1 h.low.size, (h.fro p hp.2.1).trans hp.2.2⟩
theorem Spoilt.by {lo lo' : Nat} {w wr : World} {v : Value} {xs : List UInt8} (h : Spoilt lo w wr) (hx : rBy (New lo' w) w [v] xs) : ∃ ys : List UInt8, ys.length = xs.length ∧ rBy (New lo' wr) wr [v] ys := by
  obtain ⟨A, cap, h1, h2, h3, h4⟩ := hx
  obtain ⟨ys, hl, hy⟩ := list_of (n := xs.length) (p := fun i y => ∃ ad vs, A = some ad ∧ vs.length = 1 ∧ (∀ j v, vs[j]? = some v → New lo' wr (ad.add (i * 1 + j)) ∧ wr.cell? (ad.add (i * 1 + j)) = some v) ∧ rU8 (New lo' wr) wr vs y) (fun i hi => by
    obtain ⟨ad, vs, e1, e2, e3, e4⟩ := h4 i _ (List.getElem?_eq_getElem hi)
    unfold rU8 at e4
    subst e4
    obtain ⟨k1, k2⟩ := e3 0 _ rfl
    obtain ⟨y, hy⟩ := h.byte _ _ k1.2.1 k2
    refine ⟨y, ad, [.int .u8 (y.toNat : Int)], e1, rfl, fun j v hj => ?_, rfl⟩
    have hj0 : j = 0 := by
      have := (List.getElem?_eq_some_iff.1 hj).1
      simp at this
      omega
    subst hj0
    cases hj
    exact ⟨h.new k1, hy⟩)
  exact ⟨ys, hl, A, cap, by rw [hl]; exact h1, by rw [hl]; exact h2, h3, fun i y hi => hy i y hi⟩
theorem u8_succ3 (p : UInt8) : IntKind.u8.wrap ((p.toNat : Int) + 1) = ((p + 1).toNat : Int) := by
  rw [IntKind.wrap_u8', UInt8.toNat_add]
  simp

end Go.Proofs.YtdaidhbmfocodaaGreat

/-
  Package dev at whatever arguments, its answers in new memory; a bag of facts that stay where memory grows. Conditions: those that each lemma states.
-/
namespace Go.Proofs.YtdaidhbmfocodaaGreat
open Go.RowKit

theorem rBy_none_new (lo : Nat) (w : World) : rBy (New lo w) w [.slice none 0 0] [] := ⟨none, 0, rfl, by simp, by omega, fun i x h => by simp at h⟩
theorem read_all (v : Value) (d : Dk) (n : Int) (w : World) (h : Dsk (Old w) w v d) :
    Calls Tryz.prog 36 #[v, .int .i64 n] w fun e w' => ∃ u, e = .returned (.tuple #[u, .int .i64 (chkAt d n)]) ∧ rBy (New w.heap.size w') w' [u] (rdX d n) ∧ Below w.heap.size w w' := by
  by_cases hn : mayB d = true ∧ thereB n = true
  · obtain ⟨hm, ht⟩ := hn
    have e0 : chkAt d n = 0 := by simp [chkAt, hm, ht]
    obtain ⟨k, rfl, hk⟩ := thereB_nat ht
    refine (read_ok v d k w h hm hk).mono ?_
    rintro e w' ⟨u, rfl, hu, hb⟩
    have e1 : rdX d (k : Int) = seenD d k := by simp [rdX, e0]
    rw [e0, e1]
    exact ⟨u, rfl, hu, hb⟩
  · refine (read_bad v d n w h hn).mono ?_
    rintro e w' ⟨rfl, hb⟩
    have e0 : chkAt d n ≠ 0 := by
      unfold chkAt
      cases h1 : mayB d <;> cases h2 : thereB n <;> simp_all
    have e1 : rdX d n = [] := by simp [rdX, e0]
    rw [e1]
    exact ⟨_, rfl, rBy_none_new _ _, hb⟩
/-! ### A bag of facts -/
/-- It stays where memory grows. -/
def Lasts (F : World → Prop) : Prop := ∀ w w', F w → Below w.heap.size w w' → F w'
def Bag (w : World) (Fs : List (World → Prop)) : Prop := ∀ F ∈ Fs, F w ∧ Lasts F
section
variable {w w' : World} {Fs : List (World → Prop)} {F : World → Prop}
theorem Bag.nil (w : World) : Bag w [] := fun F h => by cases h
theorem Bag.below (h : Bag w Fs) (hb : Below w.heap.size w w') : Bag w' Fs := fun F hF => ⟨(h F hF).2 w w' (h F hF).1 hb, (h F hF).2⟩
theorem Bag.add (h : Bag w Fs) (hF : F w) (hk : Lasts F) : Bag w (F :: Fs) := fun G hG => by
  rcases List.mem_cons.1 hG with h1 | h1
  · rw [h1]
    exact ⟨hF, hk⟩
  · exact h G h1
theorem Bag.at (h : Bag w Fs) (i : Nat) (hi : Fs[i]? = some F) : F w := (h F (List.mem_of_getElem? hi)).1
end
/-- Two cells that are a box. -/
def Box2 (g : Nat) (a b : Value) : World → Prop := fun w => w.cell? ⟨g, 0, none⟩ = some a ∧ w.cell? ⟨g, 1, none⟩ = some b ∧ g < w.heap.size
theorem lasts_box (g : Nat) (a b : Value) : Lasts (Box2 g a b) := fun _ _ h hb => ⟨(hb.cell (p := ⟨g, 0, none⟩) h.2.2).trans h.1, (hb.cell (p := ⟨g, 1, none⟩) h.2.2).trans h.2.1, Nat.lt_of_lt_of_le h.2.2 hb.size⟩
theorem Spoilt.box {lo : Nat} {w wr : World} (h : Spoilt lo w wr) {g : Nat} {A B : Option Addr} {n c m e : Nat} (hb : Box2 g (.slice A n c) (.slice B m e) w) : Box2 g (.slice A n c) (.slice B m e) wr :=
  ⟨h.rest ⟨g, 0, none⟩ _ hb.2.2 hb.1 (by simp), h.rest ⟨g, 1, none⟩ _ hb.2.2 hb.2.1 (by simp), Nat.lt_of_lt_of_le hb.2.2 h.low.size⟩
end Go.Proofs.YtdaidhbmfocodaaGreat

/-
  Package count: Up, Down, Sum, and the document's. Conditions: those that each lemma states.
-/
namespace Go.Proofs.YtdaidhbmfocodaaGreat
open Go.RowKit

/-! ### Counts that are turned -/
def inT (n : Int) : Bool := decide (8 ≤ n) && decide (n < 256)
theorem inT_nat {n : Int} (h : inT n = true) : ∃ k : Nat, n = k ∧ 8 ≤ k ∧ k < 256 := by
  simp only [inT, Bool.and_eq_true, decide_eq_true_eq] at h
  exact ⟨n.toNat, by omega, by omega, by omega⟩
theorem inT_of {k : Nat} (h : 8 ≤ k) (h' : k < 256) : inT (k : Int) = true := by
  simp only [inT, Bool.and_eq_true, decide_eq_true_eq]
  omega
theorem inT_no {n : Int} (h : inT n = false) : n < 8 ∨ 256 ≤ n := by
  simp only [inT, Bool.and_eq_false_iff, decide_eq_false_iff_not] at h
  omega
theorem byte_same {x y : UInt8} {q : Int} (hy : (y.toNat : Int) = q) (h : x = y) : ((x.toNat : Int) == q) = true := by subst h; simpa using hy
theorem byte_unlike {x y : UInt8} {q : Int} (hy : (y.toNat : Int) = q) (h : x ≠ y) : ((x.toNat : Int) == q) = false := by
  cases he : (x.toNat : Int) == q with
  | false => rfl
  | true => exact absurd (UInt8.toNat.inj (by have := beq_iff_eq.1 he; omega)) h

/-! ### Sums -/
end Go.Proofs.YtdaidhbmfocodaaGreat

/-
  Tables, plain: what turns leave. Conditions: those that each lemma states.
-/
namespace Go.Proofs.YtdaidhbmfocodaaGreat
open Go.RowKit

theorem in_ways (a : Int) : (a < 8 ∧ inT a = false) ∨ (8 ≤ a ∧ a < 256 ∧ inT a = true) ∨ (8 ≤ a ∧ 256 ≤ a ∧ inT a = false) := by
  cases h : inT a with
  | true =>
    obtain ⟨k, rfl, h1, h2⟩ := inT_nat h
    exact .inr (.inl ⟨by omega, by omega, rfl⟩)
  | false =>
    rcases inT_no h with h1 | h1
    · exact .inl ⟨h1, rfl⟩
    · exact .inr (.inr ⟨by omega, h1, rfl⟩)
end Go.Proofs.YtdaidhbmfocodaaGreat

/-
  Stores, plain: which blocks are free, what is taken, shared, and what follows. Conditions: those that each lemma states.
-/
namespace Go.Proofs.YtdaidhbmfocodaaGreat
open Go.RowKit

/-- A store: its disk, the counts now, and those of the last commit. -/
abbrev Rm := Dk × List UInt8 × List UInt8
def mayR (s : Rm) : Bool := mayB s.1 && mayT s.2.1 && mayT s.2.2
def chkR (s : Rm) : Int := if mayR s then 0 else 8
theorem mayR_of {s : Rm} (h : mayR s = true) : mayB s.1 = true ∧ mayT s.2.1 = true ∧ mayT s.2.2 = true := by
  unfold mayR at h
  simp only [Bool.and_eq_true] at h
  exact ⟨h.1.1, h.1.2, h.2⟩
theorem chkR_ok {s : Rm} (h : mayR s = true) : chkR s = 0 := by simp [chkR, h]
theorem chkR_bad {s : Rm} (h : mayR s = false) : chkR s = 8 := by simp [chkR, h]

/-! ### Free blocks -/
/-! ### Take -/
/-! ### Share -/
def asE (s : Rm) (n : Int) : Int := if mayR s then (if inT n then (if s.2.1[n.toNat]?.getD 0 = 0 then 6 else 0) else 2) else 8
theorem as_ways (s : Rm) (n : Int) : (mayR s = false ∧ asE s n = 8) ∨ (mayR s = true ∧ (n < 8 ∨ 256 ≤ n) ∧ asE s n = 2) ∨ (∃ k : Nat, mayR s = true ∧ n = k ∧ 8 ≤ k ∧ k < 256 ∧ s.2.1[k]?.getD 0 = 0 ∧ asE s n = 6) ∨
    (∃ k : Nat, mayR s = true ∧ n = k ∧ 8 ≤ k ∧ k < 256 ∧ s.2.1[k]?.getD 0 ≠ 0 ∧ asE s n = 0) := by
  cases hm : mayR s with
  | false => exact .inl ⟨rfl, by simp [asE, hm]⟩
  | true =>
    cases hi : inT n with
    | false => exact .inr (.inl ⟨rfl, inT_no hi, by simp [asE, hm, hi]⟩)
    | true =>
      obtain ⟨k, rfl, h8, h256⟩ := inT_nat hi
      by_cases hx : s.2.1[k]?.getD 0 = 0
      · exact .inr (.inr (.inl ⟨k, rfl, rfl, h8, h256, hx, by simp [asE, hm, hi, hx]⟩))
      · exact .inr (.inr (.inr ⟨k, rfl, rfl, h8, h256, hx, by simp [asE, hm, hi, hx]⟩))
end Go.Proofs.YtdaidhbmfocodaaGreat

/-
  Stores (api.Store): how they read; boxes of four; stores as arguments. Conditions: those that each lemma states.
-/
namespace Go.Proofs.YtdaidhbmfocodaaGreat
open Go.ChangeShapes Go.WideShapes Go.RowKit

def rSto : Rel Rm := rPair rDisk (rPair rBy rBy)
/-- A value that reads as a store. -/
def Sto (ok : Addr → Prop) (w : World) (v : Value) (s : Rm) : Prop := ∃ a b n l, v = .agg #[a, b, n, l] ∧ Dsk ok w (.agg #[a, b]) s.1 ∧ rBy ok w [n] s.2.1 ∧ rBy ok w [l] s.2.2
section
variable {ok ok' : Addr → Prop} {w w' : World} {v : Value} {s : Rm} {lo lo' : Nat}
theorem Sto.map (hk : ∀ p v, ok p → w.cell? p = some v → ok' p ∧ w'.cell? p = some v) (h : Sto ok w v s) : Sto ok' w' v s := by
  obtain ⟨a, b, n, l, e, h1, h2, h3⟩ := h
  exact ⟨a, b, n, l, e, h1.map hk, stab_by _ _ _ _ _ _ hk h2, stab_by _ _ _ _ _ _ hk h3⟩
theorem Sto.below (h : Sto (Old w) w v s) (hb : Below w.heap.size w w') : Sto (Old w') w' v s :=
  h.map fun _ _ hp hc => ⟨Nat.lt_of_lt_of_le hp hb.size, (hb.cell hp).trans hc⟩
theorem Sto.drop (h : Sto (New lo w) w v s) : Sto (Old w) w v s := h.map fun _ _ hp hc => ⟨hp.2.1, hc⟩
theorem Sto.new (h : Sto (New lo w) w v s) (hl : lo' ≤ lo) (hb : Below w.heap.size w w') : Sto (New lo' w') w' v s :=
  h.map fun _ _ hp hc => ⟨⟨Nat.le_trans hl hp.1, Nat.lt_of_lt_of_le hp.2.1 hb.size, (hb.frozen hp.2.1).trans hp.2.2⟩, (hb.cell hp.2.1).trans hc⟩
theorem Sto.grown {row : Option Nat} (h : Sto (New lo w) w v s) (hg : w.grownBy w' row) (hr : ∀ q, row = some q → q < lo) : Sto (New lo w') w' v s := by
  obtain ⟨a, b, n, l, e, h1, h2, h3⟩ := h
  exact ⟨a, b, n, l, e, h1.grown hg hr, stab_by.grown h2 hg hr, stab_by.grown h3 hg hr⟩
/-- A store, opened. -/
theorem Sto.open (h : Sto ok w v s) : ∃ A ca B cb N cn L cl, v = .agg #[.slice A s.1.1.length ca, .slice B s.1.2.length cb, .slice N s.2.1.length cn, .slice L s.2.2.length cl] ∧ Dsk ok w (.agg #[.slice A s.1.1.length ca, .slice B s.1.2.length cb]) s.1 ∧
    rBy ok w [.slice N s.2.1.length cn] s.2.1 ∧ rBy ok w [.slice L s.2.2.length cl] s.2.2 := by
  obtain ⟨a, b, n, l, rfl, h1, h2, h3⟩ := h
  obtain ⟨A, ca, B, cb, e, _⟩ := h1.open
  cases e
  obtain ⟨N, cn, rfl, _⟩ := rBy_open h2
  obtain ⟨L, cl, rfl, _⟩ := rBy_open h3
  exact ⟨A, ca, B, cb, N, cn, L, cl, rfl, h1, h2, h3⟩
theorem Sto.parts {a b n l : Value} (h : Sto ok w (.agg #[a, b, n, l]) s) : Dsk ok w (.agg #[a, b]) s.1 ∧ rBy ok w [n] s.2.1 ∧ rBy ok w [l] s.2.2 := by
  obtain ⟨_, _, _, _, e, h1, h2, h3⟩ := h
  cases e
  exact ⟨h1, h2, h3⟩
theorem Sto.mk {a b n l : Value} (h1 : Dsk ok w (.agg #[a, b]) s.1) (h2 : rBy ok w [n] s.2.1) (h3 : rBy ok w [l] s.2.2) : Sto ok w (.agg #[a, b, n, l]) s := ⟨a, b, n, l, rfl, h1, h2, h3⟩
end
/-! ### A box of four -/
theorem box_4 (w : World) (a b c d : Value) (t : TypeId) : ∃ w1, w.alloc (.cells #[a, b, c, d] t) = w1 ∧ w1.heap[w.heap.size]? = some (.cells #[a, b, c, d] t (0, 0)) ∧ w1.heap.size = w.heap.size + 1 ∧ Below w.heap.size w w1 :=
  ⟨_, rfl, heap_alloc_new _ _, by simp, (Below.refl _ _).alloc (Nat.le_refl _) _⟩
theorem four_cells {W : World} {g : Nat} {a b c d : Value} {t : TypeId} (h : W.heap[g]? = some (.cells #[a, b, c, d] t (0, 0))) : W.cell? ⟨g, 0, none⟩ = some a ∧ W.cell? ⟨g, 1, none⟩ = some b ∧ W.cell? ⟨g, 2, none⟩ = some c ∧ W.cell? ⟨g, 3, none⟩ = some d ∧ (∀ o, W.frozen? ⟨g, o, none⟩ = false) ∧ g < W.heap.size :=
  ⟨by simp [World.cell?, h], by simp [World.cell?, h], by simp [World.cell?, h], by simp [World.cell?, h], fun o => by simp [World.frozen?, h], (Array.getElem?_eq_some_iff.1 h).1⟩
/-- A block of four cells, all stored. -/
theorem put_four {W : World} {g : Nat} {a b c d a' b' c' d' : Value} {t : TypeId} (h : W.heap[g]? = some (.cells #[a, b, c, d] t (0, 0))) : ∃ W1, (((W.setCell ⟨g, 0, none⟩ a').setCell ⟨g, 1, none⟩ b').setCell ⟨g, 2, none⟩ c').setCell ⟨g, 3, none⟩ d' = W1 ∧
    W1.heap[g]? = some (.cells #[a', b', c', d'] t (0, 0)) ∧ W.grownBy W1 (some g) ∧ W1.heap.size = W.heap.size :=
  ⟨_, rfl, by simp [World.setCell, Array.getElem?_modify, h], grow_put (p := ⟨g, 3, none⟩) (grow_put (p := ⟨g, 2, none⟩) (grow_put (p := ⟨g, 1, none⟩) (grow_put (p := ⟨g, 0, none⟩) (grow_refl W (some g)) rfl a') rfl b') rfl c') rfl d', by simp⟩
/-- Four cells that are a box, as a fact of a bag. -/
def Box4 (g : Nat) (a b c d : Value) : World → Prop := fun w => w.cell? ⟨g, 0, none⟩ = some a ∧ w.cell? ⟨g, 1, none⟩ = some b ∧ w.cell? ⟨g, 2, none⟩ = some c ∧ w.cell? ⟨g, 3, none⟩ = some d ∧ g < w.heap.size
theorem lasts_box4 (g : Nat) (a b c d : Value) : Lasts (Box4 g a b c d) := fun _ _ h hb => ⟨(hb.cell (p := ⟨g, 0, none⟩) h.2.2.2.2).trans h.1, (hb.cell (p := ⟨g, 1, none⟩) h.2.2.2.2).trans h.2.1, (hb.cell (p := ⟨g, 2, none⟩) h.2.2.2.2).trans h.2.2.1, (hb.cell (p := ⟨g, 3, none⟩) h.2.2.2.2).trans h.2.2.2.1, Nat.lt_of_lt_of_le h.2.2.2.2 hb.size⟩
theorem bag_four {w w1 : World} {Fs : List (World → Prop)} (h : Bag w Fs) (hb : Below w.heap.size w w1) (a b c d : Value) (t : TypeId) : ∃ w', w1.alloc (.cells #[a, b, c, d] t) = w' ∧ Bag w' (Box4 w1.heap.size a b c d :: Fs) ∧ Below w.heap.size w w' ∧ Below w1.heap.size w1 w' ∧ w1.heap.size < w'.heap.size := by
  obtain ⟨w2, e2, b2, k4, k5⟩ := box_4 w1 a b c d t
  obtain ⟨k0, k1, k2, k3, _, k6⟩ := four_cells b2
  exact ⟨w2, e2, ((h.below hb).below k5).add ⟨k0, k1, k2, k3, k6⟩ (lasts_box4 _ _ _ _ _), hb.trans (k5.mono hb.size), k5, by omega⟩
def OldR (v : Value) (s : Rm) : World → Prop := fun w => Sto (Old w) w v s
theorem lasts_oldR (v : Value) (s : Rm) : Lasts (OldR v s) := fun _ _ h hb => h.below hb
/-! ### Arguments -/
set_option maxRecDepth 100000 in
theorem opens_by9 : Opens Tryz.prog 27 rBy := opens_sl Tryz.underlying27 (by kernel_rfl) (opens_u8 Tryz.underlying5)
set_option maxRecDepth 100000 in
theorem opens_store : Opens Tryz.prog 29 rSto := opens_struct Tryz.underlying29 (opensF_cons rfl opens_disk (opensF_cons (by kernel_rfl) opens_by9 (opensF_one (by kernel_rfl) (by kernel_rfl) opens_by9)))
theorem rSto_open {ok : Addr → Prop} {w : World} {cs : List Value} {s : Rm} (h : rSto ok w cs s) : ∃ a b n l, cs = [a, b, n, l] ∧ Dsk ok w (.agg #[a, b]) s.1 ∧ rBy ok w [n] s.2.1 ∧ rBy ok w [l] s.2.2 := by
  obtain ⟨_, _, rfl, ⟨_, _, rfl, h1, h2⟩, _, _, rfl, h3, h4⟩ := h
  obtain ⟨A, ca, rfl, h1'⟩ := h1
  obtain ⟨B, cb, rfl, h2'⟩ := h2
  obtain ⟨N, cn, rfl, h3'⟩ := h3
  obtain ⟨L, cl, rfl, h4'⟩ := h4
  exact ⟨_, _, _, _, rfl, ⟨_, _, rfl, ⟨A, ca, rfl, h1'⟩, ⟨B, cb, rfl, h2'⟩⟩, ⟨N, cn, rfl, h3'⟩, ⟨L, cl, rfl, h4'⟩⟩
set_option maxRecDepth 100000 in
/-- A store that came in. -/
theorem open_store {H : Type} {enc : TypeId × Value → H} {w : World} {b0 : Nat} {spare : Nat → Bool} {held : Bool} {r : Reach} {v : Value} {x : DataW H} {ps : List MemPlace} (hval : Value.okWide Tryz.prog w r b0 29 v) (hd : DataW.Trod enc Tryz.prog w 0 spare held 29 v x ps) :
    ∃ s, Sto (Old w) w v s := by
  obtain ⟨cs, rfl, _⟩ := okWide_struct Tryz.underlying29 hval
  obtain ⟨s, hs⟩ := open_rel opens_store hd
  obtain ⟨a, b, n, l, h1, h2, h3, h4⟩ := rSto_open hs
  exact ⟨s, a, b, n, l, by obtain ⟨cs⟩ := cs; simp [Value.cells] at h1; rw [h1], h2, h3, h4⟩
end Go.Proofs.YtdaidhbmfocodaaGreat

/-
  Package room: Check, takable, checkTaken; the document's Great. Conditions: those that each lemma states.
-/
namespace Go.Proofs.YtdaidhbmfocodaaGreat
open Go.RowKit

theorem checkT_by (v : Value) (t : List UInt8) (w : World) (h : rBy (Old w) w [v] t) : Calls Tryz.prog 68 #[v] w fun e w' => e = .returned (.int .i64 (chkT t)) ∧ w = w' := by
  obtain ⟨A, c, rfl, l1, m1, hb⟩ := rBy_byt (B := w.heap.size) (fun _ h => h) h
  exact checkT_any A t.length c t (Lib.hid rfl) l1 m1 w hb

/-- A store in its box. -/
theorem box_sto {w : World} {v : Value} {s : Rm} (h : Sto (Old w) w v s) : ∃ A ca B cb N cn L cl w1, v = .agg #[.slice A s.1.1.length ca, .slice B s.1.2.length cb, .slice N s.2.1.length cn, .slice L s.2.2.length cl] ∧
    w.alloc (.cells #[.slice A s.1.1.length ca, .slice B s.1.2.length cb, .slice N s.2.1.length cn, .slice L s.2.2.length cl] 29) = w1 ∧ w1.heap[w.heap.size]? = some (.cells #[.slice A s.1.1.length ca, .slice B s.1.2.length cb, .slice N s.2.1.length cn, .slice L s.2.2.length cl] 29 (0, 0)) ∧ w1.heap.size = w.heap.size + 1 ∧ Below w.heap.size w w1 ∧
    Hid (Dsk (Old w1) w1 (.agg #[.slice A s.1.1.length ca, .slice B s.1.2.length cb]) s.1) ∧ Hid (rBy (Old w1) w1 [.slice N s.2.1.length cn] s.2.1) ∧ Hid (rBy (Old w1) w1 [.slice L s.2.2.length cl] s.2.2) := by
  obtain ⟨A, ca, B, cb, N, cn, L, cl, rfl, hd, hN, hL⟩ := h.open
  obtain ⟨w1, hw1, f, hs, hB⟩ := box_4 w (.slice A s.1.1.length ca) (.slice B s.1.2.length cb) (.slice N s.2.1.length cn) (.slice L s.2.2.length cl) 29
  exact ⟨A, ca, B, cb, N, cn, L, cl, w1, rfl, hw1, f, hs, hB, Lib.hid (hd.below hB), Lib.hid (stab_by.old hN hB), Lib.hid (stab_by.old hL hB)⟩

set_option maxRecDepth 100000 in
set_option maxHeartbeats 2000000 in
theorem checkR_any (v : Value) (s : Rm) (w : World) (h : Sto (Old w) w v s) : Calls Tryz.prog 42 #[v] w fun e w' => e = .returned (.int .i64 (chkR s)) ∧ Below w.heap.size w w' := by
  obtain ⟨A, ca, B, cb, N, cn, L, cl, w1, rfl, hw1, f, hsz, hB, D, NN, LL⟩ := box_sto h
  clear h
  obtain ⟨k0, k1, k2, k3, _, kg⟩ := four_cells f
  replace hsz := Lib.hid hsz
  cases h1 : mayB s.1 with
  | false =>
    have hr : Hid (chkR s = 8) := Lib.hid (chkR_bad (by simp [mayR, h1]))
    have e1 := chk_bad h1
    go_enter Tryz.func42, Tryz.ntmps42
    go_upto_region 1 with fail
    clear hw1
    go_wp2_with fail
    with_reducible refine (check_any _ s.1 _ D.out).mono ?_
    rintro e w2 ⟨rfl, hb2⟩
    rw [e1]
    go_wp2_with fail
    go_ret
    exact ⟨ret_int hr.out.symm, hB.trans (hb2.mono hB.size)⟩
  | true =>
    have e1 := chk_ok h1
    cases h2 : mayT s.2.1 with
    | false =>
      have hr : Hid (chkR s = 8) := Lib.hid (chkR_bad (by simp [mayR, h2]))
      have e2 := chkT_bad h2
      go_enter Tryz.func42, Tryz.ntmps42
      go_upto_region 1 with fail
      clear hw1
      go_wp2_with fail
      with_reducible refine (check_any _ s.1 _ D.out).mono ?_
      rintro e w2 ⟨rfl, hb2⟩
      rw [e1]
      replace k2 := (hb2.cell (p := ⟨w.heap.size, 2, none⟩) kg).trans k2
      have N2 := Lib.hid (stab_by.old NN.out hb2)
      replace hb2 := Lib.hid (hB.trans (hb2.mono hB.size))
      go_wp2_with fail
      with_reducible refine (checkT_by _ s.2.1 _ N2.out).mono ?_
      rintro e w3 ⟨rfl, rfl⟩
      rw [e2]
      go_wp2_with fail
      go_ret
      exact ⟨ret_int hr.out.symm, hb2.out⟩
    | true =>
      have e2 := chkT_ok h2
      obtain ⟨q, hq, hr⟩ : ∃ q, chkT s.2.2 = q ∧ Hid (chkR s = q) := ⟨_, rfl, Lib.hid (by simp [chkR, chkT, mayR, h1, h2])⟩
      obtain ⟨p, hp1, hp2⟩ : ∃ p, (q != 0) = p ∧ (p = true → q = 8) ∧ (p = false → q = 0) := ⟨_, rfl, by
        rw [← hq]
        unfold chkT
        split <;> simp⟩
      go_enter Tryz.func42, Tryz.ntmps42
      go_upto_region 1 with fail
      clear hw1
      go_wp2_with fail
      with_reducible refine (check_any _ s.1 _ D.out).mono ?_
      rintro e w2 ⟨rfl, hb2⟩
      rw [e1]
      replace k2 := (hb2.cell (p := ⟨w.heap.size, 2, none⟩) kg).trans k2
      replace k3 := (hb2.cell (p := ⟨w.heap.size, 3, none⟩) kg).trans k3
      have N2 := Lib.hid (stab_by.old NN.out hb2)
      have L2 := Lib.hid (stab_by.old LL.out hb2)
      replace hb2 := Lib.hid (hB.trans (hb2.mono hB.size))
      go_wp2_with fail
      with_reducible refine (checkT_by _ s.2.1 _ N2.out).mono ?_
      rintro e w3 ⟨rfl, rfl⟩
      rw [e2]
      go_wp2_with fail
      with_reducible refine (checkT_by _ s.2.2 _ L2.out).mono ?_
      rintro e w3 ⟨rfl, rfl⟩
      rw [hq]
      replace hq := Lib.hid hq
      cases p with
      | true =>
        have h8 := Lib.hid (hp2.1 rfl)
        clear hp2
        go_wp2_with fail
        go_ret
        exact ⟨ret_int (by rw [hr.out, h8.out]), hb2.out⟩
      | false =>
        have h0 := Lib.hid (hp2.2 rfl)
        clear hp2
        go_wp2_with fail
        go_ret
        exact ⟨ret_int (by rw [hr.out, h0.out]), hb2.out⟩

/-- Is a store great? -/
def greatR (s : Rm) : Bool := greatB s.1 || decide (10000 < s.2.1.length) || decide (10000 < s.2.2.length)
theorem greatR_of {s : Rm} (h : greatR s = false) : greatB s.1 = false ∧ s.2.1.length ≤ 10000 ∧ s.2.2.length ≤ 10000 := by
  unfold greatR at h
  simp only [Bool.or_eq_false_iff, decide_eq_false_iff_not] at h
  exact ⟨h.1.1, by omega, by omega⟩
set_option maxRecDepth 100000 in
set_option maxHeartbeats 2000000 in
theorem greatR_any (v : Value) (s : Rm) (w : World) (h : Sto (Old w) w v s) : Calls Tryz.prog 12 #[v] w fun e w' => e = .returned (.bool (greatR s)) ∧ Below w.heap.size w w' := by
  obtain ⟨A, ca, B, cb, N, cn, L, cl, w1, rfl, hw1, f, hsz, hB, D, _, _⟩ := box_sto h
  clear h
  obtain ⟨k0, k1, k2, k3, _, kg⟩ := four_cells f
  replace hsz := Lib.hid hsz
  obtain ⟨n, hn⟩ : ∃ n, s.2.1.length = n := ⟨_, rfl⟩
  obtain ⟨l, hl⟩ : ∃ l, s.2.2.length = l := ⟨_, rfl⟩
  have hr : Hid (greatR s = (greatB s.1 || decide ((10000 : Int) < n) || decide ((10000 : Int) < l))) := Lib.hid (by
    unfold greatR
    rw [hn, hl, show decide (10000 < n) = decide ((10000 : Int) < n) from decide_eq_decide.2 (by omega), show decide (10000 < l) = decide ((10000 : Int) < l) from decide_eq_decide.2 (by omega)])
  rw [hn] at k2
  rw [hn, hl] at hw1 ⊢
  rw [hl] at k3
  clear hn hl
  obtain ⟨g, hg⟩ : ∃ g, greatB s.1 = g := ⟨_, rfl⟩
  rw [hg] at hr
  go_enter Tryz.func12, Tryz.ntmps12
  go_upto_region 1 with fail
  clear hw1
  go_wp2_with fail
  with_reducible refine (great_any _ s.1 _ D.out).mono ?_
  rintro e w2 ⟨rfl, hb2⟩
  rw [hg]
  replace k2 := (hb2.cell (p := ⟨w.heap.size, 2, none⟩) kg).trans k2
  replace k3 := (hb2.cell (p := ⟨w.heap.size, 3, none⟩) kg).trans k3
  replace hb2 := Lib.hid (hB.trans (hb2.mono hB.size))
  replace hg := Lib.hid hg
  cases g with
  | true =>
    go_wp2_with fail
    go_ret
    exact ⟨ret_bool (by rw [hr.out]; rfl), hb2.out⟩
  | false =>
    by_cases hn : (10000 : Int) < n
    · go_wp2_with fail
      go_ret
      exact ⟨ret_bool (by rw [hr.out]; simp [hn]), hb2.out⟩
    · by_cases hl : (10000 : Int) < l
      · go_wp2_with fail
        go_ret
        exact ⟨ret_bool (by rw [hr.out]; simp [hl]), hb2.out⟩
      · go_wp2_with fail
        go_ret
        exact ⟨ret_bool (by rw [hr.out]; simp), hb2.out⟩

set_option maxHeartbeats 1000000 in
theorem takableR_any (n : Int) (w : World) : Calls Tryz.prog 58 #[.int .i64 n] w fun e w' => e = .returned (.bool (inT n)) ∧ w = w' := by
  rcases in_ways n with ⟨h, hr⟩ | ⟨h, h2, hr⟩ | ⟨h, h2, hr⟩
  all_goals
    replace hr := Lib.hid hr
    go_enter Tryz.func58, Tryz.ntmps58
    go_wp2_with fail
    go_ret
    exact ⟨ret_bool (by first | exact hr.out.symm | (rw [hr.out]; simp; omega)), rfl⟩

set_option maxRecDepth 100000 in
set_option maxHeartbeats 2000000 in
theorem checkTakenR_any (v : Value) (s : Rm) (n : Int) (w : World) (h : Sto (Old w) w v s) : Calls Tryz.prog 35 #[v, .int .i64 n] w fun e w' => e = .returned (.int .i64 (asE s n)) ∧ Below w.heap.size w w' := by
  have H0 := Lib.hid h
  obtain ⟨A, ca, B, cb, N, cn, L, cl, w1, rfl, hw1, f, hsz, hB, _, NN, _⟩ := box_sto h
  have H := Lib.hid (h.below hB)
  clear h H0
  obtain ⟨k0, k1, k2, k3, _, kg⟩ := four_cells f
  replace hsz := Lib.hid hsz
  rcases as_ways s n with ⟨hm, he⟩ | ⟨hm, hn, he⟩ | ⟨k, hm, rfl, h8, h256, hx, he⟩ | ⟨k, hm, rfl, h8, h256, hx, he⟩
  · replace he := Lib.hid he
    have e1 := chkR_bad hm
    go_enter Tryz.func35, Tryz.ntmps35
    go_upto_region 1 with fail
    clear hw1
    go_wp2_with fail
    with_reducible refine (checkR_any _ s _ H.out).mono ?_
    rintro e w2 ⟨rfl, hb2⟩
    rw [e1]
    replace hb2 := Lib.hid (hB.trans (hb2.mono hB.size))
    go_wp2_with fail
    go_ret
    exact ⟨ret_int he.out.symm, hb2.out⟩
  · replace he := Lib.hid he
    have e1 := chkR_ok hm
    have hi : inT n = false := by
      cases hi : inT n with
      | false => rfl
      | true => obtain ⟨k, rfl, h8, h256⟩ := inT_nat hi; omega
    go_enter Tryz.func35, Tryz.ntmps35
    go_upto_region 1 with fail
    clear hw1
    go_wp2_with fail
    with_reducible refine (checkR_any _ s _ H.out).mono ?_
    rintro e w2 ⟨rfl, hb2⟩
    rw [e1]
    replace hb2 := Lib.hid (hB.trans (hb2.mono hB.size))
    go_wp2_with fail
    with_reducible refine (takableR_any n _).mono ?_
    rintro e w3 ⟨rfl, rfl⟩
    rw [hi]
    go_wp2_with fail
    go_ret
    exact ⟨ret_int he.out.symm, hb2.out⟩
  all_goals
    replace he := Lib.hid he
    have e1 := chkR_ok hm
    have hi := inT_of h8 h256
    have hlen := mayT_len (mayR_of hm).2.1
    obtain ⟨A', c', e2, l1, m1, hby⟩ := rBy_byt (B := w1.heap.size) (fun _ h => h) NN.out
    cases e2
    obtain ⟨ad, rfl, hbk, hc⟩ := hby (by omega)
    have hcell := hc k (by omega)
    replace hbk : (ad.add k).block < w1.heap.size := by rw [add_block]; exact hbk
    obtain ⟨x, hx2⟩ : ∃ x, s.2.1[k]?.getD 0 = x := ⟨_, rfl⟩
    rw [hx2] at hcell hx
    have hlt : k < s.2.1.length := by omega
    first
      | have t0 := byte_same (y := 0) (q := 0) rfl hx
      | have t0 := byte_unlike (y := 0) (q := 0) rfl hx
    replace hx2 := Lib.hid hx2
    replace hx := Lib.hid hx
    replace hlen := Lib.hid hlen
    clear hc hby
    go_enter Tryz.func35, Tryz.ntmps35
    go_upto_region 1 with fail
    clear hw1
    go_wp2_with fail
    with_reducible refine (checkR_any _ s _ H.out).mono ?_
    rintro e w2 ⟨rfl, hb2⟩
    rw [e1]
    replace k2 := (hb2.cell (p := ⟨w.heap.size, 2, none⟩) kg).trans k2
    replace hcell := (hb2.cell hbk).trans hcell
    replace hb2 := Lib.hid (hB.trans (hb2.mono hB.size))
    go_wp2_with fail
    with_reducible refine (takableR_any (k : Int) _).mono ?_
    rintro e w3 ⟨rfl, rfl⟩
    rw [hi]
    go_wp2_with fail
    go_ret
    exact ⟨ret_int he.out.symm, hb2.out⟩
end Go.Proofs.YtdaidhbmfocodaaGreat

/-
  Package room: free, which is ranged over; first. Conditions: those that each lemma states.
-/
namespace Go.Proofs.YtdaidhbmfocodaaGreat
open Go.RowKit Go.Shelf
attribute [local go_sem] Oper.semAt_some

/-- The tables of a store that may be, cell by cell. -/
theorem tables_at {w : World} {s : Rm} {N L : Option Addr} {cn cl : Nat} (hm : mayR s = true) (hN : rBy (Old w) w [.slice N s.2.1.length cn] s.2.1) (hL : rBy (Old w) w [.slice L s.2.2.length cl] s.2.2) :
    ∃ ad bd, N = some ad ∧ L = some bd ∧ s.2.1.length = 256 ∧ s.2.2.length = 256 ∧ 256 ≤ cn ∧ 256 ≤ cl ∧ ad.block < w.heap.size ∧ bd.block < w.heap.size ∧ (∀ j, j < 256 → w.cell? (ad.add j) = some (.int .u8 ((s.2.1[j]?.getD 0).toNat : Int)) ∧ w.cell? (bd.add j) = some (.int .u8 ((s.2.2[j]?.getD 0).toNat : Int))) := by
  have hl1 := mayT_len (mayR_of hm).2.1
  have hl2 := mayT_len (mayR_of hm).2.2
  obtain ⟨N', cn', e1, l1, _, hb1⟩ := rBy_byt (B := w.heap.size) (fun _ h => h) hN
  obtain ⟨L', cl', e2, l2, _, hb2⟩ := rBy_byt (B := w.heap.size) (fun _ h => h) hL
  cases e1
  cases e2
  obtain ⟨ad, rfl, h1, h2⟩ := hb1 (by omega)
  obtain ⟨bd, rfl, h3, h4⟩ := hb2 (by omega)
  exact ⟨ad, bd, rfl, rfl, hl1, hl2, by omega, by omega, h1, h3, fun j hj => ⟨h2 j (by omega), h4 j (by omega)⟩⟩

end Go.Proofs.YtdaidhbmfocodaaGreat

/-
  Package room: Take. Conditions: those that each lemma states.
-/
namespace Go.Proofs.YtdaidhbmfocodaaGreat
open Go.RowKit

/-- A store in its box, and the result's behind it. -/
theorem box_sto2 {w : World} {v : Value} {s : Rm} (h : Sto (Old w) w v s) : ∃ A ca B cb N cn L cl w1, v = .agg #[.slice A s.1.1.length ca, .slice B s.1.2.length cb, .slice N s.2.1.length cn, .slice L s.2.2.length cl] ∧
    (w.alloc (.cells #[.slice A s.1.1.length ca, .slice B s.1.2.length cb, .slice N s.2.1.length cn, .slice L s.2.2.length cl] 29)).alloc (.cells #[.slice none 0 0, .slice none 0 0, .slice none 0 0, .slice none 0 0] 29) = w1 ∧
    w1.heap[w.heap.size]? = some (.cells #[.slice A s.1.1.length ca, .slice B s.1.2.length cb, .slice N s.2.1.length cn, .slice L s.2.2.length cl] 29 (0, 0)) ∧ w1.heap[w.heap.size + 1]? = some (.cells #[.slice none 0 0, .slice none 0 0, .slice none 0 0, .slice none 0 0] 29 (0, 0)) ∧ w1.heap.size = w.heap.size + 2 ∧ Below w.heap.size w w1 ∧
    Hid (Sto (Old w1) w1 (.agg #[.slice A s.1.1.length ca, .slice B s.1.2.length cb, .slice N s.2.1.length cn, .slice L s.2.2.length cl]) s) := by
  obtain ⟨A, ca, B, cb, N, cn, L, cl, rfl, _, _, _⟩ := h.open
  have hb : Below w.heap.size w ((w.alloc (.cells #[.slice A s.1.1.length ca, .slice B s.1.2.length cb, .slice N s.2.1.length cn, .slice L s.2.2.length cl] 29)).alloc (.cells #[.slice none 0 0, .slice none 0 0, .slice none 0 0, .slice none 0 0] 29)) := ((Below.refl _ w).alloc (Nat.le_refl _) _).alloc (by simp) _
  refine ⟨A, ca, B, cb, N, cn, L, cl, _, rfl, rfl, alloc_block (heap_alloc_new _ _), ?_, by simp, hb, Lib.hid (h.below hb)⟩
  have := heap_alloc_new (w.alloc (.cells #[.slice A s.1.1.length ca, .slice B s.1.2.length cb, .slice N s.2.1.length cn, .slice L s.2.2.length cl] 29)) (.cells #[.slice none 0 0, .slice none 0 0, .slice none 0 0, .slice none 0 0] 29)
  rwa [World.size_alloc] at this

end Go.Proofs.YtdaidhbmfocodaaGreat

/-
  Package code: GetTwo and GetFour. Conditions: those that each lemma states.
-/
namespace Go.Proofs.YtdaidhbmfocodaaGreat
open Go.RowKit

theorem gather_ok (A : Option Addr) (len cap m k : Nat) (xs : List UInt8) (hlen : xs.length = len) (hm0 : 0 < m) (hm : m ≤ 4) (hle : k + m ≤ len) (hlc : len ≤ cap) (hcap : cap ≤ 9223372036854775807) (w : World) (hx : Byt w w.heap.size A xs) :
    Calls Tryz.prog 110 #[.slice A len cap, .int .i64 k, .int .i64 m] w fun e W' => e = .returned (.tuple #[.int .u32 (num ((xs.drop k).take m)), .int .i64 0]) ∧ Below w.heap.size w W' := by
  subst hlen
  obtain ⟨ad, rfl, hp⟩ := hx.part hle hm0
  have hl : ((xs.drop k).take m).length = m := by simp; omega
  obtain ⟨ad', e, hb, hc⟩ := hp (by omega)
  cases e
  exact callsIn_wide.1 (gather_in Fence.wide 3 trivial trivial trivial rfl (Nat.le_refl _) ad xs.length cap m k _ hl hm0 hm hle hlc hcap w (by rw [add_block] at hb; exact hb) hc)

theorem gather_no (A : Option Addr) (len cap : Nat) (k : Int) (m : Nat) (hm : m ≤ 4) (hl : len ≤ 9223372036854775807) (h : k < 0 ∨ (len : Int) - m < k) (w : World) :
    Calls Tryz.prog 110 #[.slice A len cap, .int .i64 k, .int .i64 m] w fun e W' => e = .returned (.tuple #[.int .u32 0, .int .i64 8]) ∧ w = W' := by
  by_cases h' : k < 0
  · go_enter Tryz.func110, Tryz.ntmps110
    go_wp2
    go_ret2
    exact ⟨rfl, rfl⟩
  · have h2 : (len : Int) - m < k := by omega
    go_enter Tryz.func110, Tryz.ntmps110
    go_wp2
    go_ret2
    exact ⟨rfl, rfl⟩

theorem getTwo_ok (A : Option Addr) (len cap k : Nat) (xs : List UInt8) (hlen : Hid (xs.length = len)) (hle : k + 2 ≤ len) (hlc : len ≤ cap) (hcap : cap ≤ 9223372036854775807) (w : World) (hx : Byt w w.heap.size A xs) :
    Calls Tryz.prog 137 #[.slice A len cap, .int .i64 k] w fun e W' => e = .returned (.tuple #[.int .i64 (num ((xs.drop k).take 2)), .int .i64 0]) ∧ Below w.heap.size w W' := by
  have h0 := num_nonneg ((xs.drop k).take 2)
  have h1 := num_lt ((xs.drop k).take 2)
  have hl : ((xs.drop k).take 2).length = 2 := by have := hlen.out; simp; omega
  rw [hl] at h1
  simp at h1
  clear hl
  go_enter Tryz.func137, Tryz.ntmps137
  go_wp2_with fail
  refine (gather_ok A len cap 2 k xs hlen.out (by omega) (by omega) hle hlc hcap _ hx).mono ?_
  rintro e w1 ⟨rfl, hb⟩
  go_wp2
  go_ret2
  exact ⟨rfl, hb⟩

theorem getTwo_no (A : Option Addr) (len cap : Nat) (k : Int) (hl : len ≤ 9223372036854775807) (h : k < 0 ∨ (len : Int) - 2 < k) (w : World) :
    Calls Tryz.prog 137 #[.slice A len cap, .int .i64 k] w fun e W' => e = .returned (.tuple #[.int .i64 0, .int .i64 8]) ∧ w = W' := by
  go_enter Tryz.func137, Tryz.ntmps137
  go_wp2_with fail
  refine (gather_no A len cap k 2 (by omega) hl h _).mono ?_
  rintro e w1 ⟨rfl, rfl⟩
  go_wp2
  go_ret2
  exact ⟨rfl, rfl⟩

theorem getFour_ok (A : Option Addr) (len cap k : Nat) (xs : List UInt8) (hlen : Hid (xs.length = len)) (hle : k + 4 ≤ len) (hlc : len ≤ cap) (hcap : cap ≤ 9223372036854775807) (w : World) (hx : Byt w w.heap.size A xs) :
    Calls Tryz.prog 86 #[.slice A len cap, .int .i64 k] w fun e W' => e = .returned (.tuple #[.int .u32 (num ((xs.drop k).take 4)), .int .i64 0]) ∧ Below w.heap.size w W' := by
  go_enter Tryz.func86, Tryz.ntmps86
  go_wp2_with fail
  refine (gather_ok A len cap 4 k xs hlen.out (by omega) (by omega) hle hlc hcap _ hx).mono ?_
  rintro e w1 ⟨rfl, hb⟩
  go_wp2
  go_ret2
  exact ⟨rfl, hb⟩

theorem getFour_no (A : Option Addr) (len cap : Nat) (k : Int) (hl : len ≤ 9223372036854775807) (h : k < 0 ∨ (len : Int) - 4 < k) (w : World) :
    Calls Tryz.prog 86 #[.slice A len cap, .int .i64 k] w fun e W' => e = .returned (.tuple #[.int .u32 0, .int .i64 8]) ∧ w = W' := by
  go_enter Tryz.func86, Tryz.ntmps86
  go_wp2_with fail
  refine (gather_no A len cap k 4 (by omega) hl h _).mono ?_
  rintro e w1 ⟨rfl, rfl⟩
  go_wp2
  go_ret2
  exact ⟨rfl, rfl⟩

/-! ### The contracts for every argument -/
def tb (n : Int) : List UInt8 := if 0 ≤ n ∧ n < 65536 then le 2 n else []
def ge (m : Nat) (len : Nat) (k : Int) : Int := if 0 ≤ k ∧ k + m ≤ len then 0 else 8
def gv (m : Nat) (xs : List UInt8) (k : Int) : Int := if 0 ≤ k ∧ k + m ≤ xs.length then num ((xs.drop k.toNat).take m) else 0
theorem ge_yes {m len : Nat} {k : Int} (h : 0 ≤ k ∧ k + m ≤ len) : ge m len k = 0 := if_pos h
theorem ge_no {m len : Nat} {k : Int} (h : ¬ (0 ≤ k ∧ k + m ≤ len)) : ge m len k = 8 := if_neg h
theorem gv_yes {m : Nat} {xs : List UInt8} {k : Int} (h : 0 ≤ k ∧ k + m ≤ xs.length) : gv m xs k = num ((xs.drop k.toNat).take m) := if_pos h
theorem gv_no {m : Nat} {xs : List UInt8} {k : Int} (h : ¬ (0 ≤ k ∧ k + m ≤ xs.length)) : gv m xs k = 0 := if_neg h
theorem gv_bounds (m : Nat) (xs : List UInt8) (k : Int) : 0 ≤ gv m xs k ∧ gv m xs k < (256 : Int) ^ m := by
  by_cases h : 0 ≤ k ∧ k + m ≤ xs.length
  · rw [gv_yes h]
    have hl : ((xs.drop k.toNat).take m).length = m := by simp; omega
    have h1 := num_lt ((xs.drop k.toNat).take m)
    rw [hl] at h1
    exact ⟨num_nonneg _, h1⟩
  · rw [gv_no h]
    exact ⟨by omega, Int.pow_pos (by omega)⟩

theorem getTwo_any (A : Option Addr) (len cap : Nat) (k : Int) (xs : List UInt8) (hlen : Hid (xs.length = len)) (hlc : len ≤ cap) (hcap : cap ≤ 9223372036854775807) (w : World) (hx : Byt w w.heap.size A xs) :
    Calls Tryz.prog 137 #[.slice A len cap, .int .i64 k] w fun e W' => e = .returned (.tuple #[.int .i64 (gv 2 xs k), .int .i64 (ge 2 len k)]) ∧ Below w.heap.size w W' := by
  obtain rfl := hlen.out
  by_cases h : 0 ≤ k ∧ k + (2 : Nat) ≤ xs.length
  · rw [ge_yes h, gv_yes h]
    obtain ⟨n, rfl⟩ := Int.eq_ofNat_of_zero_le h.1
    rw [Int.toNat_natCast]
    exact getTwo_ok A _ cap n xs hlen (by omega) hlc hcap w hx
  · rw [ge_no h, gv_no h]
    exact (getTwo_no A xs.length cap k (by omega) (by omega) w).mono fun e w' ⟨he, hw⟩ => ⟨he, hw ▸ Below.refl _ _⟩
theorem getFour_any (A : Option Addr) (len cap : Nat) (k : Int) (xs : List UInt8) (hlen : Hid (xs.length = len)) (hlc : len ≤ cap) (hcap : cap ≤ 9223372036854775807) (w : World) (hx : Byt w w.heap.size A xs) :
    Calls Tryz.prog 86 #[.slice A len cap, .int .i64 k] w fun e W' => e = .returned (.tuple #[.int .u32 (gv 4 xs k), .int .i64 (ge 4 len k)]) ∧ Below w.heap.size w W' := by
  obtain rfl := hlen.out
  by_cases h : 0 ≤ k ∧ k + (4 : Nat) ≤ xs.length
  · rw [ge_yes h, gv_yes h]
    obtain ⟨n, rfl⟩ := Int.eq_ofNat_of_zero_le h.1
    rw [Int.toNat_natCast]
    exact getFour_ok A _ cap n xs hlen (by omega) hlc hcap w hx
  · rw [ge_no h, gv_no h]
    exact (getFour_no A xs.length cap k (by omega) (by omega) w).mono fun e w' ⟨he, hw⟩ => ⟨he, hw ▸ Below.refl _ _⟩
end Go.Proofs.YtdaidhbmfocodaaGreat

/-
  Package sum: Seal, Open. Conditions: those that each lemma states.
-/
namespace Go.Proofs.YtdaidhbmfocodaaGreat
open Go.RowKit

/-- Bytes, and noughts behind, 124 in all; these sealed. -/
def padN (xs : List UInt8) : List UInt8 := xs ++ zeros (124 - xs.length)
def sealN (xs : List UInt8) : List UInt8 := le 4 (crc (padN xs) : Nat) ++ padN xs
set_option maxRecDepth 100000 in
theorem open_no (A : Option Addr) (len cap : Nat) (hl : len ≠ 128) (w : World) :
    Calls Tryz.prog 61 #[.slice A len cap] w fun e w' => e = .returned (.tuple #[.slice none 0 0, .int .i64 3]) ∧ w = w' := by
  go_enter Tryz.func61, Tryz.ntmps61
  go_wp2
  go_ret2
  exact ⟨rfl, rfl⟩
def fits (xs : List UInt8) : Prop := num (xs.take 4) = (crc (xs.drop 4) : Nat)
set_option maxRecDepth 100000 in
theorem open_bad (ad : Addr) (cap : Nat) (xs : List UInt8) (hlen : Hid (xs.length = 128)) (hlc : 128 ≤ cap) (hcap : cap ≤ 9223372036854775807) (w : World) (hx : Byt w w.heap.size (some ad) xs) (hn : ¬ fits xs) :
    Calls Tryz.prog 61 #[.slice (some ad) 128 cap] w fun e w' => e = .returned (.tuple #[.slice none 0 0, .int .i64 8]) ∧ Below w.heap.size w w' := by
  have hp : Byt w w.heap.size (some (ad.add 4)) (xs.drop 4) := by
    obtain ⟨ad', e, hp⟩ := hx.part (k := 4) (n := 124) (by rw [hlen.out]; omega) (by omega)
    cases e
    rwa [List.take_of_length_le (by simp [hlen.out])] at hp
  have hpl : Hid ((xs.drop 4).length = 124) := Lib.hid (by simp [hlen.out])
  have hb := crc_lt (xs.drop 4)
  have hd : ((num (xs.take 4) : Int) == (crc (xs.drop 4) : Nat)) = false := by simpa [fits] using hn
  have hd' : ((num (xs.take 4) : Int) != (crc (xs.drop 4) : Nat)) = true := by simpa [fits] using hn
  have HD := Lib.hid hd
  have HD' := Lib.hid hd'
  clear hn hd hd'
  go_enter Tryz.func61, Tryz.ntmps61
  go_wp2_with fail
  refine (getFour_ok _ _ cap 0 xs hlen (by omega) (by omega) (by omega) _ hx).mono ?_
  rintro e w1 ⟨rfl, hb1⟩
  rw [List.drop_zero]
  have hp1 := (hp.below hb1).more hb1.size
  go_wp2_with fail
  refine (of_any _ _ _ _ hpl (by omega) (by omega) _ hp1).mono ?_
  rintro e w2 ⟨rfl, hb2⟩
  generalize num (xs.take 4) = q at *
  generalize crc (xs.drop 4) = r at *
  have hd := HD.out
  have hd' := HD'.out
  go_wp2_with fail
  go_ret2
  exact ⟨rfl, bstep hb1 hb2⟩
theorem own_base {w : World} {B B' : Nat} {e : TypeId} {v : Value} {n : Nat} {xs : List Value} (h : w.ownsRow B e 1 v n xs) (hb : B' ≤ B) : w.ownsRow B' e 1 v n xs := by
  refine ⟨h.1, h.2.imp id ?_⟩
  rintro ⟨g, cap, cur, h1, h2, h3⟩
  exact ⟨g, cap, cur, h1, Nat.le_trans hb h2, h3⟩
set_option maxRecDepth 100000 in
theorem open_ok (ad : Addr) (cap : Nat) (xs : List UInt8) (hlen : Hid (xs.length = 128)) (hlc : 128 ≤ cap) (hcap : cap ≤ 9223372036854775807) (w : World) (hx : Byt w w.heap.size (some ad) xs) (hn : fits xs) :
    Calls Tryz.prog 61 #[.slice (some ad) 128 cap] w fun e w' => ∃ v, e = .returned (.tuple #[v, .int .i64 0]) ∧ w'.ownsRow w.heap.size 5 1 v 124 (u8s (xs.drop 4)) ∧ Below w.heap.size w w' := by
  have hp : Byt w w.heap.size (some (ad.add 4)) (xs.drop 4) := by
    obtain ⟨ad', e, hp⟩ := hx.part (k := 4) (n := 124) (by rw [hlen.out]; omega) (by omega)
    cases e
    rwa [List.take_of_length_le (by simp [hlen.out])] at hp
  have hpl : Hid ((xs.drop 4).length = 124) := Lib.hid (by simp [hlen.out])
  have hb := crc_lt (xs.drop 4)
  have HN : Hid (num (xs.take 4) = (crc (xs.drop 4) : Nat)) := Lib.hid hn
  clear hn
  go_enter Tryz.func61, Tryz.ntmps61
  go_wp2_with fail
  refine (getFour_ok _ _ cap 0 xs hlen (by omega) (by omega) (by omega) _ hx).mono ?_
  rintro e w1 ⟨rfl, hb1⟩
  rw [List.drop_zero, HN.out]
  have hp1 := (hp.below hb1).more hb1.size
  go_wp2_with fail
  refine (of_any _ _ _ _ hpl (by omega) (by omega) _ hp1).mono ?_
  rintro e w2 ⟨rfl, hb2⟩
  generalize crc (xs.drop 4) = r at *
  have hp2 := (hp1.below hb2).more hb2.size
  go_wp2_with fail
  refine (clone_some _ _ _ _ hpl (by omega) _ hp2).mono ?_
  rintro e w3 ⟨v, rfl, hown, _, hb3⟩
  have hB := bstep (bstep hb1 hb2) hb3
  have hsz := Nat.le_trans hb1.size hb2.size
  have HO := Lib.hid (own_base hown hsz)
  clear hown hp hp1 hp2 hx hb1 hb2 hb3 hsz
  go_wp2_with fail
  go_ret2
  exact ⟨v, rfl, HO.out, hB⟩
theorem padN_full {xs : List UInt8} (h : xs.length = 124) : padN xs = xs := by simp [padN, zeros, h]
theorem seal_back {xs : List UInt8} (h : xs.length = 128) (hf : fits xs) : sealN (xs.drop 4) = xs := by
  unfold fits at hf
  unfold sealN
  have e := le_num (xs.take 4)
  rw [show (xs.take 4).length = 4 by simp [h]] at e
  rw [padN_full (by simp [h]), ← hf, e]
  exact List.take_append_drop 4 xs
end Go.Proofs.YtdaidhbmfocodaaGreat

/-
  The document's answers of layer 1: the contracts of package scionryref01. Conditions: those that each lemma states.
-/
namespace Go.Proofs.YtdaidhbmfocodaaGreat
open Go.RowKit

theorem u8_info : (Tryz.prog.info? 5).map (fun i => (i.zero, i.size, i.bytes)) = some (some (.int .u8 0), 1, 1) := by kernel_rfl

set_option maxHeartbeats 800000 in
theorem bytes_own (n : Int) (m : Nat) (h0 : 0 ≤ n) (h1 : n ≤ 9223372036854775807) (hm : m ≤ 1000) (w : World) :
    Calls Tryz.prog 150 #[.int .i64 n, .int .i64 m] w fun e w' => ∃ v, e = .returned v ∧ w'.ownsRow w.heap.size 5 1 v m (u8s (le m n)) ∧ Below w.heap.size w w' := by
  obtain ⟨i0, hi, hz0, hz1, hz2⟩ := info_parts u8_info
  go_enter Tryz.func150, Tryz.ntmps150
  go_wp2
  go_loopw [0, 5, 6] (fun t v i wr => ∃ k : Nat, k ≤ m ∧ i = .int .i64 k ∧ t = .int .i64 (n / 256 ^ k) ∧ wr.ownsRow w.heap.size 5 1 v k ((le k n).map fun x => Value.int .u8 (x.toNat : Int)) ∧ Below w.heap.size w wr)
    (fun _ _ i _ => m - (intOf i).toNat)
  case atStart => exact ⟨0, Nat.zero_le _, rfl, by simp, World.ownsRow_nil _ _ _ _, Below.refl _ _⟩
  case round =>
    obtain ⟨k, hk, rfl, rfl, hown, hB⟩ := hrel
    have d0 := div_pow_nonneg n k h0
    have d1 := div_pow_le n k h0
    have hd := Lib.hid (div_pow_succ n k)
    have hs := Lib.hid (le_snoc k n)
    have hb := Lib.hid (byte_toNat (n / 256 ^ k))
    generalize n / 256 ^ k = q at *
    by_cases hlt : k < m
    · go_wp2_with (at_builtin; refine wpList_append_own _ rfl _ _ 27 rfl w.heap.size 5 i0 (.int .u8 0) 1 1 Tryz.underlying27 hi hz0 hz1 hz2 rfl (by decide) _ _ _ rfl (hown.alloc _) ⟨wr.heap.size, 0, none⟩ 1 1 [.int .u8 (q % 256)] rfl rfl ?c1 ?c2 ?c3 ?c4 ?c5 ?_)
      case c1 =>
        intro j u hj
        match j, hj with
        | 0, hj => simp at hj; subst hj; simp [Addr.add]
      case c2 => intro u hu; simp at hu; subst hu; rfl
      case c3 => unfold maxLen; omega
      case c4 => omega
      case c5 => have := hB.size; simp; omega
      intro v' w1 hown' hgrow _
      have hB1 : Below w.heap.size w w1 := (balloc hB _).grown hgrow (balloc hB _).size (fun r e => by have := hown.lt r e; omega)
      rw [show (le k n).map (fun x => Value.int .u8 (x.toNat : Int)) ++ [.int .u8 (q % 256)] = (le (k + 1) n).map (fun x => Value.int .u8 (x.toNat : Int)) by rw [hs.out, List.map_append, List.map_cons, List.map_nil, hb.out]] at hown'
      clear hgrow hown
      go_wp2
      go_roundw
      case rel => exact ⟨k + 1, by omega, by go_num, by rw [hd.out], hown', hB1⟩
      case measure => simp [intOf]; omega
    · obtain rfl : k = m := by omega
      go_wp2
      go_ret
      exact ⟨_, rfl, hown, hB⟩
theorem bytes_ref (n : Int) (m : Nat) (h0 : 0 ≤ n) (h1 : n ≤ 9223372036854775807) (hm : m ≤ 1000) (w : World) :
    Calls Tryz.prog 150 #[.int .i64 n, .int .i64 m] w fun e w' => ∃ A cap, e = .returned (.slice A m cap) ∧ Byt w' w'.heap.size A (le m n) ∧ Below w.heap.size w w' := by
  refine (bytes_own n m h0 h1 hm w).mono ?_
  rintro e w' ⟨v, rfl, hown, hB⟩
  obtain ⟨A, cap, rfl, _, _, hy⟩ := own_byt hown
  exact ⟨A, cap, rfl, hy, hB⟩

theorem num_ref_nil (A : Option Addr) (cap : Nat) (w : World) :
    Calls Tryz.prog 147 #[.slice A 0 cap] w fun e w' => e = .returned (.int .i64 0) ∧ w = w' := by
  go_enter Tryz.func147, Tryz.ntmps147
  go_wp2
  refine wp_loop_rounds 1 ?_
  rw [rounds_succ]
  go_wp2
  go_ret
  exact ⟨rfl, rfl⟩

theorem num_drop (xs : List UInt8) (k : Nat) (h : k < xs.length) : num (xs.drop (xs.length - (k + 1))) = num (xs.drop (xs.length - k)) * 256 + ((xs[xs.length - 1 - k]?.getD 0).toNat : Int) := by
  have := val_back xs (k + 1) (by omega)
  rw [back_succ, val_snoc, val_back xs k (by omega)] at this
  exact this.symm
theorem num_small (xs : List UInt8) (h : xs.length ≤ 6) : 0 ≤ num xs ∧ num xs < 281474976710656 := by
  have hp : ∀ n : Nat, n ≤ 6 → (256 : Int) ^ n ≤ 281474976710656 := by decide
  exact ⟨num_nonneg _, Int.lt_of_lt_of_le (num_lt xs) (hp _ h)⟩

set_option maxHeartbeats 800000 in
theorem number_ref (A : Option Addr) (len cap : Nat) (xs : List UInt8) (hlen : Hid (xs.length = len)) (hm : len ≤ 7) (w : World) (hx : Byt w w.heap.size A xs) :
    Calls Tryz.prog 147 #[.slice A len cap] w fun e w' => e = .returned (.int .i64 (num xs)) ∧ w = w' := by
  obtain rfl := hlen.out
  rcases Nat.eq_zero_or_pos xs.length with h0 | h0
  · have hx0 : xs = [] := List.eq_nil_of_length_eq_zero h0
    subst hx0
    exact num_ref_nil A cap w
  · obtain ⟨ad, rfl, _, hc⟩ := hx h0
    go_enter Tryz.func147, Tryz.ntmps147
    go_wp2
    go_loop [3, 4] (fun t i => ∃ k : Nat, k ≤ xs.length ∧ i = .int .i64 ((xs.length : Int) - 1 - k) ∧ t = .int .i64 (num (xs.drop (xs.length - k)))) (fun _ i => (intOf i + 1).toNat)
    case atStart => exact ⟨0, Nat.zero_le _, by simp, by simp [num]⟩
    case round =>
      obtain ⟨k, hk, rfl, rfl⟩ := hrel
      by_cases hlt : k < xs.length
      · obtain ⟨b0, b1⟩ := num_small (xs.drop (xs.length - k)) (by simp; omega)
        have hd := Lib.hid (num_drop xs k hlt)
        have hcx := hc (xs.length - 1 - k) (by omega)
        have hxb := (xs[xs.length - 1 - k]?.getD 0).toNat_lt
        have e1 : ((xs.length : Int) - 1 - k).toNat = xs.length - 1 - k := by omega
        generalize xs[xs.length - 1 - k]?.getD 0 = c at *
        generalize num (xs.drop (xs.length - k)) = q at *
        go_wp2
        go_round
        case rel => exact ⟨k + 1, by omega, by go_num, by rw [hd.out]⟩
        case measure => simp [intOf]; omega
      · obtain rfl : k = xs.length := by omega
        go_wp2
        go_ret
        simp

/-! ### The document's answers, as the code's -/
theorem four_ref (n : Int) (h0 : 0 ≤ n) (h1 : n < 4294967296) (w : World) :
    Calls Tryz.prog 149 #[.int .u32 n] w fun e w' => ∃ A cap, e = .returned (.slice A 4 cap) ∧ Byt w' w'.heap.size A (le 4 n) ∧ Below w.heap.size w w' := by
  go_enter Tryz.func149, Tryz.ntmps149
  go_wp2_with fail
  refine (bytes_ref n 4 h0 (by omega) (by omega) _).mono ?_
  rintro e w1 ⟨A, cap, rfl, hx, hb⟩
  go_wp2
  go_ret
  exact ⟨A, cap, rfl, hx, hb⟩

theorem there_ref (A : Option Addr) (len cap : Nat) (k : Int) (m : Nat) (hm : m ≤ 4) (hl : len ≤ 9223372036854775807) (w : World) :
    Calls Tryz.prog 146 #[.slice A len cap, .int .i64 k, .int .i64 m] w fun e w' => e = .returned (.bool (decide (0 ≤ k ∧ k + m ≤ len))) ∧ w = w' := by
  rcases (by omega : k < 0 ∨ 0 ≤ k) with h | h
  · go_enter Tryz.func146, Tryz.ntmps146
    go_wp2
    go_ret
    exact ⟨by simp; omega, rfl⟩
  · rcases (by omega : k ≤ len ∨ (len : Int) < k) with h2 | h2
    · go_enter Tryz.func146, Tryz.ntmps146
      go_wp2
      go_ret
      exact ⟨ret_bool (by rw [decide_eq_decide]; omega), rfl⟩
    · go_enter Tryz.func146, Tryz.ntmps146
      go_wp2
      go_ret
      exact ⟨by simp; omega, rfl⟩

theorem getTwo_ref (A : Option Addr) (len cap : Nat) (k : Int) (xs : List UInt8) (hlen : Hid (xs.length = len)) (hlc : len ≤ cap) (hcap : cap ≤ 9223372036854775807) (w : World) (hx : Byt w w.heap.size A xs) :
    Calls Tryz.prog 132 #[.slice A len cap, .int .i64 k] w fun e w' => e = .returned (.tuple #[.int .i64 (gv 2 xs k), .int .i64 (ge 2 len k)]) ∧ w = w' := by
  obtain rfl := hlen.out
  by_cases h : 0 ≤ k ∧ k + (2 : Nat) ≤ xs.length
  · have hd : decide (0 ≤ k ∧ k + (2 : Nat) ≤ xs.length) = true := by simpa using h
    rw [ge_yes h, gv_yes h]
    obtain ⟨n, rfl⟩ := Int.eq_ofNat_of_zero_le h.1
    rw [Int.toNat_natCast]
    have hn : n + 2 ≤ xs.length := by omega
    obtain ⟨ad, rfl, hp⟩ := hx.part hn (by omega)
    have hHd := Lib.hid hd
    clear hd h
    go_enter Tryz.func132, Tryz.ntmps132
    go_wp2_with fail
    refine (there_ref _ _ cap n 2 (by omega) (by omega) _).mono ?_
    rintro e w1 ⟨rfl, rfl⟩
    rw [hHd.out]
    go_wp2_with fail
    refine (number_ref _ 2 _ _ (Lib.hid (by simp; omega)) (by omega) _ hp).mono ?_
    rintro e w1 ⟨rfl, rfl⟩
    go_wp2
    go_ret2
    exact ⟨rfl, rfl⟩
  · have hd : decide (0 ≤ k ∧ k + (2 : Nat) ≤ xs.length) = false := by simpa using h
    rw [ge_no h, gv_no h]
    have hHd := Lib.hid hd
    clear hd h
    go_enter Tryz.func132, Tryz.ntmps132
    go_wp2_with fail
    refine (there_ref _ _ cap k 2 (by omega) (by omega) _).mono ?_
    rintro e w1 ⟨rfl, rfl⟩
    rw [hHd.out]
    go_wp2
    go_ret2
    exact ⟨rfl, rfl⟩

theorem getFour_ref (A : Option Addr) (len cap : Nat) (k : Int) (xs : List UInt8) (hlen : Hid (xs.length = len)) (hlc : len ≤ cap) (hcap : cap ≤ 9223372036854775807) (w : World) (hx : Byt w w.heap.size A xs) :
    Calls Tryz.prog 130 #[.slice A len cap, .int .i64 k] w fun e w' => e = .returned (.tuple #[.int .u32 (gv 4 xs k), .int .i64 (ge 4 len k)]) ∧ w = w' := by
  obtain rfl := hlen.out
  by_cases h : 0 ≤ k ∧ k + (4 : Nat) ≤ xs.length
  · have hd : decide (0 ≤ k ∧ k + (4 : Nat) ≤ xs.length) = true := by simpa using h
    have hv := gv_bounds 4 xs k
    rw [gv_yes h] at hv
    rw [ge_yes h, gv_yes h]
    obtain ⟨n, rfl⟩ := Int.eq_ofNat_of_zero_le h.1
    rw [Int.toNat_natCast] at hv ⊢
    have hn : n + 4 ≤ xs.length := by omega
    obtain ⟨v0, v1⟩ := hv
    simp only [Int.reducePow] at v1
    obtain ⟨ad, rfl, hp⟩ := hx.part hn (by omega)
    have hHd := Lib.hid hd
    clear hd h
    go_enter Tryz.func130, Tryz.ntmps130
    go_wp2_with fail
    refine (there_ref _ _ cap n 4 (by omega) (by omega) _).mono ?_
    rintro e w1 ⟨rfl, rfl⟩
    rw [hHd.out]
    go_wp2_with fail
    refine (number_ref _ 4 _ _ (Lib.hid (by simp; omega)) (by omega) _ hp).mono ?_
    rintro e w1 ⟨rfl, rfl⟩
    go_wp2
    go_ret2
    exact ⟨rfl, rfl⟩
  · have hd : decide (0 ≤ k ∧ k + (4 : Nat) ≤ xs.length) = false := by simpa using h
    rw [ge_no h, gv_no h]
    have hHd := Lib.hid hd
    clear hd h
    go_enter Tryz.func130, Tryz.ntmps130
    go_wp2_with fail
    refine (there_ref _ _ cap k 4 (by omega) (by omega) _).mono ?_
    rintro e w1 ⟨rfl, rfl⟩
    rw [hHd.out]
    go_wp2
    go_ret2
    exact ⟨rfl, rfl⟩
end Go.Proofs.YtdaidhbmfocodaaGreat

/-
  The document's answers of layer 2: the contracts of package scionryref02. Conditions: those that each lemma states.
-/
namespace Go.Proofs.YtdaidhbmfocodaaGreat
open Go.RowKit

set_option maxHeartbeats 800000 in
theorem halved_any (s m : Nat) (h : s < 4294967296) (hm : m ≤ 1000) (w : World) :
    Calls Tryz.prog 148 #[.int .u32 s, .int .i64 m] w fun e w' => e = .returned (.int .u32 (halvesN m s)) ∧ w = w' := by
  go_enter Tryz.func148, Tryz.ntmps148
  go_wp2
  go_loop [0, 5] (fun t i => ∃ k : Nat, k ≤ m ∧ i = .int .i64 k ∧ t = .int .u32 (halvesN k s)) (fun _ i => m - (intOf i).toNat)
  case atStart => exact ⟨0, by omega, rfl, rfl⟩
  case round =>
    obtain ⟨k, hk, rfl, rfl⟩ := hrel
    have hq := halvesN_lt k h
    by_cases hlt : k < m
    · have hh := Lib.hid (halvesN_succ k s)
      generalize halvesN k s = q at *
      rcases (by omega : q % 2 = 1 ∨ q % 2 = 0) with h1 | h1
      · have e : Hid (halfN q = q / 2 ^^^ 3988292384) := Lib.hid (if_pos h1)
        have h1' : (q : Int) % 2 = 1 := by omega
        have hx := bxor (q / 2) 3988292384 ((q : Int) / 2) 3988292384 (by omega) (by omega) (by omega) (by omega)
        clear h1
        go_wp2
        go_round
        case rel => exact ⟨k + 1, by omega, by go_num, by rw [hh.out, e.out]⟩
        case measure => simp [intOf]; omega
      · have e : Hid (halfN q = q / 2) := Lib.hid (if_neg (by omega))
        have h1' : (q : Int) % 2 = 0 := by omega
        clear h1
        go_wp2
        go_round
        case rel => exact ⟨k + 1, by omega, by go_num, by rw [hh.out, e.out]; go_num⟩
        case measure => simp [intOf]; omega
    · obtain rfl : k = m := by omega
      go_wp2
      go_ret
      exact ⟨rfl, rfl⟩

set_option maxRecDepth 100000 in
set_option maxHeartbeats 1600000 in
theorem ofRef_ad (ad : Addr) (len cap : Nat) (xs : List UInt8) (hlen : Hid (xs.length = len)) (hlc : len ≤ cap) (hcap : cap ≤ 9223372036854775807) (w : World) (hbl : ad.block < w.heap.size) (hc : Hid (∀ j, j < len → w.cell? (ad.add j) = some (.int .u8 ((xs[j]?.getD 0).toNat : Int)))) :
    Calls Tryz.prog 131 #[.slice (some ad) len cap] w fun e w' => e = .returned (.int .u32 (crc xs : Nat)) ∧ Below w.heap.size w w' := by
  have h0 : #[Value.int .u32 0, .int .u32 0, .int .u32 0, .int .u32 0, .int .u32 0, .int .u32 0, .int .u32 0, .int .u32 0, .int .u32 0, .int .u32 0, .int .u32 0, .int .u32 0, .int .u32 0, .int .u32 0, .int .u32 0, .int .u32 0] = tabV 0 := by kernel_rfl
  have H0 := Lib.hid h0
  clear h0
  go_enter Tryz.func131, Tryz.ntmps131
  go_wp2
  rw [H0.out]
  go_loopw [4] (fun i wr => ∃ k : Nat, k ≤ 16 ∧ i = .int .i64 k ∧ wr.heap.size = w.heap.size + 1 ∧ wr.heap[w.heap.size]? = some (.cells (tabV k) 164 (0, 0)) ∧ Below w.heap.size w wr)
    (fun i _ => 16 - (intOf i).toNat)
  case atStart => exact ⟨0, by omega, rfl, by simp, heap_alloc_new w _, balloc (Below.refl _ _) _⟩
  case round =>
    obtain ⟨k, hk, rfl, hs, hT, hB⟩ := hrel
    by_cases hlt : k < 16
    · have hc : wr.cell? ⟨w.heap.size, k, none⟩ = some (.int .u32 0) := by rw [cell_of_row _ _ _ _ _ _ hT]; simp [tabV, hlt]
      have hf : wr.frozen? ⟨w.heap.size, k, none⟩ = false := frozen_of_row _ _ _ _ _ hT
      go_wp2_with (go_at_call 148; refine (halved_any k 4 (by omega) (by omega) _).mono ?_; rintro e w' ⟨rfl, rfl⟩)
      exact ⟨⟨k + 1, by omega, by go_num, by simpa using hs, (heap_setCell_same _ _ _ _ _ _ hT).trans (by rw [← tabV_set k hlt]; rfl), hB.setCell (by simp) _⟩, by simp [intOf]; omega⟩
    · obtain rfl : k = 16 := by omega
      have HT := Lib.hid hT
      clear hT hs
      go_wp2
      go_loop [5, 6] (fun s i => ∃ k : Nat, k ≤ len ∧ i = .int .i64 k ∧ s = .int .u32 (foldN 4294967295 (xs.take k) : Nat)) (fun _ i => len - (intOf i).toNat)
      case atStart => exact ⟨0, by omega, rfl, rfl⟩
      case round =>
        obtain ⟨k, hk, rfl, rfl⟩ := hrel
        have hq := foldN_lt (s := 4294967295) (xs.take k) (by omega)
        by_cases hlt : k < len
        · have hs := Lib.hid (take_succ_fold 4294967295 xs k (by rw [hlen.out]; exact hlt))
          have hcx := (hB.cell (p := ad.add k) (by rw [add_block]; exact hbl)).trans (hc.out k hlt)
          have hxb := (xs[k]?.getD 0).toNat_lt
          have hx1 := bxor (foldN 4294967295 (xs.take k)) (xs[k]?.getD 0).toNat _ _ rfl rfl hq (by omega)
          have hr1 := xor_lt32 hq (by omega : (xs[k]?.getD 0).toNat < 4294967296)
          generalize xs[k]?.getD 0 = c at *
          generalize foldN 4294967295 (xs.take k) = q at *
          generalize q ^^^ c.toNat = r1 at *
          have hc1 : wr.cell? ⟨w.heap.size, r1 % 16, none⟩ = some (.int .u32 (fourN (r1 % 16))) := by rw [cell_of_row _ _ _ _ _ _ HT.out]; exact tabV_get 16 _ (by omega) (by omega)
          have hx2 := bxor (r1 / 16) (fourN (r1 % 16)) ((r1 : Int) / 16) (fourN (r1 % 16)) (by omega) rfl (by omega) (fourN_lt (by omega))
          have hr2 := nibN_lt hr1
          have he2 : (r1 / 16) ^^^ fourN (r1 % 16) = nibN r1 := Nat.xor_comm _ _
          rw [he2] at hx2
          clear he2
          generalize nibN r1 = r2 at *
          have hc2 : wr.cell? ⟨w.heap.size, r2 % 16, none⟩ = some (.int .u32 (fourN (r2 % 16))) := by rw [cell_of_row _ _ _ _ _ _ HT.out]; exact tabV_get 16 _ (by omega) (by omega)
          have hx3 := bxor (r2 / 16) (fourN (r2 % 16)) ((r2 : Int) / 16) (fourN (r2 % 16)) (by omega) rfl (by omega) (fourN_lt (by omega))
          have hr3 := nibN_lt hr2
          have he3 : (r2 / 16) ^^^ fourN (r2 % 16) = nibN r2 := Nat.xor_comm _ _
          rw [he3] at hx3
          clear he3
          generalize nibN r2 = r3 at *
          have hf1 : fourN (r1 % 16) < 4294967296 := fourN_lt (by omega)
          have hf2 : fourN (r2 % 16) < 4294967296 := fourN_lt (by omega)
          generalize fourN (r1 % 16) = f1 at *
          generalize fourN (r2 % 16) = f2 at *
          have hm1 : ((r1 : Int) % 16).toNat = r1 % 16 := by omega
          have hm2 : ((r2 : Int) % 16).toNat = r2 % 16 := by omega
          have hm3 : r1 % 16 < 16 := by omega
          have hm4 : r2 % 16 < 16 := by omega
          clear hB
          go_wp2
          go_round
          case rel => exact ⟨k + 1, by omega, by go_num, by rw [hs.out]⟩
          case measure => simp [intOf]; omega
        · obtain rfl : k = len := by omega
          have he := Lib.hid (bxor _ 4294967295 _ 4294967295 rfl rfl hq (by omega))
          have ht := Lib.hid (List.take_of_length_le (l := xs) (Nat.le_of_eq hlen.out))
          go_wp2
          go_ret
          exact ⟨ret_int (he.out.trans (by rw [ht.out]; rfl)), hB⟩
set_option maxHeartbeats 800000 in
theorem ofRef_nil (A : Option Addr) (cap : Nat) (w : World) :
    Calls Tryz.prog 131 #[.slice A 0 cap] w fun e w' => e = .returned (.int .u32 0) ∧ Below w.heap.size w w' := by
  have h0 : #[Value.int .u32 0, .int .u32 0, .int .u32 0, .int .u32 0, .int .u32 0, .int .u32 0, .int .u32 0, .int .u32 0, .int .u32 0, .int .u32 0, .int .u32 0, .int .u32 0, .int .u32 0, .int .u32 0, .int .u32 0, .int .u32 0] = tabV 0 := by kernel_rfl
  have H0 := Lib.hid h0
  clear h0
  go_enter Tryz.func131, Tryz.ntmps131
  go_wp2
  rw [H0.out]
  go_loopw [4] (fun i wr => ∃ k : Nat, k ≤ 16 ∧ i = .int .i64 k ∧ wr.heap.size = w.heap.size + 1 ∧ wr.heap[w.heap.size]? = some (.cells (tabV k) 164 (0, 0)) ∧ Below w.heap.size w wr)
    (fun i _ => 16 - (intOf i).toNat)
  case atStart => exact ⟨0, by omega, rfl, by simp, heap_alloc_new w _, balloc (Below.refl _ _) _⟩
  case round =>
    obtain ⟨k, hk, rfl, hs, hT, hB⟩ := hrel
    by_cases hlt : k < 16
    · have hc : wr.cell? ⟨w.heap.size, k, none⟩ = some (.int .u32 0) := by rw [cell_of_row _ _ _ _ _ _ hT]; simp [tabV, hlt]
      have hf : wr.frozen? ⟨w.heap.size, k, none⟩ = false := frozen_of_row _ _ _ _ _ hT
      go_wp2_with (go_at_call 148; refine (halved_any k 4 (by omega) (by omega) _).mono ?_; rintro e w' ⟨rfl, rfl⟩)
      exact ⟨⟨k + 1, by omega, by go_num, by simpa using hs, (heap_setCell_same _ _ _ _ _ _ hT).trans (by rw [← tabV_set k hlt]; rfl), hB.setCell (by simp) _⟩, by simp [intOf]; omega⟩
    · obtain rfl : k = 16 := by omega
      clear hT hs
      go_wp2
      refine wp_loop_rounds 1 ?_
      rw [rounds_succ]
      go_wp2
      go_ret
      exact ⟨rfl, hB⟩
theorem ofRef_any (A : Option Addr) (len cap : Nat) (xs : List UInt8) (hlen : Hid (xs.length = len)) (hlc : len ≤ cap) (hcap : cap ≤ 9223372036854775807) (w : World) (hx : Byt w w.heap.size A xs) :
    Calls Tryz.prog 131 #[.slice A len cap] w fun e w' => e = .returned (.int .u32 (crc xs : Nat)) ∧ Below w.heap.size w w' := by
  rcases Nat.eq_zero_or_pos xs.length with h0 | h0
  · have hx0 : xs = [] := List.eq_nil_of_length_eq_zero h0
    subst hx0
    obtain rfl := hlen.out
    exact ofRef_nil A cap w
  · obtain ⟨ad, rfl, hbl, hc⟩ := hx h0
    exact ofRef_ad ad len cap xs hlen hlc hcap w hbl (Lib.hid fun j hj => hc j (by rw [hlen.out]; exact hj))

theorem openRef_no (A : Option Addr) (len cap : Nat) (hl : len ≠ 128) (w : World) :
    Calls Tryz.prog 104 #[.slice A len cap] w fun e w' => e = .returned (.tuple #[.slice none 0 0, .int .i64 3]) ∧ w = w' := by
  go_enter Tryz.func104, Tryz.ntmps104
  go_wp2
  go_ret2
  exact ⟨rfl, rfl⟩
theorem gv_ok {xs : List UInt8} (h : xs.length = 128) : gv 4 xs 0 = num (xs.take 4) := by
  rw [gv_yes (by omega)]
  rfl
theorem openRef_bad (ad : Addr) (cap : Nat) (xs : List UInt8) (hlen : Hid (xs.length = 128)) (hlc : 128 ≤ cap) (hcap : cap ≤ 9223372036854775807) (w : World) (hx : Byt w w.heap.size (some ad) xs) (hn : ¬ fits xs) :
    Calls Tryz.prog 104 #[.slice (some ad) 128 cap] w fun e w' => e = .returned (.tuple #[.slice none 0 0, .int .i64 8]) ∧ Below w.heap.size w w' := by
  have hp : Byt w w.heap.size (some (ad.add 4)) (xs.drop 4) := by
    obtain ⟨ad', e, hp⟩ := hx.part (k := 4) (n := 124) (by rw [hlen.out]; omega) (by omega)
    cases e
    rwa [List.take_of_length_le (by simp [hlen.out])] at hp
  have hpl : Hid ((xs.drop 4).length = 124) := Lib.hid (by simp [hlen.out])
  have hb := crc_lt (xs.drop 4)
  have hd' : ((num (xs.take 4) : Int) != (crc (xs.drop 4) : Nat)) = true := by simpa [fits] using hn
  have HD' := Lib.hid hd'
  have hgv := Lib.hid (gv_ok hlen.out)
  clear hn hd'
  go_enter Tryz.func104, Tryz.ntmps104
  go_wp2_with fail
  refine (getFour_ref _ _ cap 0 xs hlen (by omega) (by omega) _ hx).mono ?_
  rintro e w1 ⟨rfl, rfl⟩
  rw [hgv.out]
  go_wp2_with fail
  refine (ofRef_any _ _ _ _ hpl (by omega) (by omega) _ hp).mono ?_
  rintro e w2 ⟨rfl, hb2⟩
  generalize num (xs.take 4) = q at *
  generalize crc (xs.drop 4) = r at *
  have hd' := HD'.out
  go_wp2_with fail
  go_ret2
  exact ⟨rfl, hb2⟩
theorem openRef_ok (ad : Addr) (cap : Nat) (xs : List UInt8) (hlen : Hid (xs.length = 128)) (hlc : 128 ≤ cap) (hcap : cap ≤ 9223372036854775807) (w : World) (hx : Byt w w.heap.size (some ad) xs) (hn : fits xs) :
    Calls Tryz.prog 104 #[.slice (some ad) 128 cap] w fun e w' => ∃ v, e = .returned (.tuple #[v, .int .i64 0]) ∧ w'.ownsRow w.heap.size 5 1 v 124 (u8s (xs.drop 4)) ∧ Below w.heap.size w w' := by
  have hp : Byt w w.heap.size (some (ad.add 4)) (xs.drop 4) := by
    obtain ⟨ad', e, hp⟩ := hx.part (k := 4) (n := 124) (by rw [hlen.out]; omega) (by omega)
    cases e
    rwa [List.take_of_length_le (by simp [hlen.out])] at hp
  have hpl : Hid ((xs.drop 4).length = 124) := Lib.hid (by simp [hlen.out])
  have hb := crc_lt (xs.drop 4)
  have HN : Hid (num (xs.take 4) = (crc (xs.drop 4) : Nat)) := Lib.hid hn
  have hgv := Lib.hid (gv_ok hlen.out)
  obtain ⟨i0, hi, hz0, hz1, hz2⟩ := info_parts u8_info
  clear hn
  go_enter Tryz.func104, Tryz.ntmps104
  go_wp2_with fail
  refine (getFour_ref _ _ cap 0 xs hlen (by omega) (by omega) _ hx).mono ?_
  rintro e w1 ⟨rfl, rfl⟩
  rw [hgv.out, HN.out]
  go_wp2_with fail
  refine (ofRef_any _ _ _ _ hpl (by omega) (by omega) _ hp).mono ?_
  rintro e w2 ⟨rfl, hb2⟩
  have hp2 := (hp.below hb2).more hb2.size
  obtain ⟨v3, w3, hrun3, own3, ba3⟩ := app_byt (P := Tryz.prog) (w := w2) w2.heap.size 27 27 5 i0 Tryz.underlying27 hi hz0 hz1 hz2 (.slice none 0 0) 0 [] (World.ownsRow_nil _ _ _ _) w2.heap.size _ 124 (cap - 4) _ hp2 hpl.out (by omega) (Nat.le_refl _)
  rw [Nat.zero_add, List.nil_append] at own3
  have HO := Lib.hid (own_base own3 hb2.size)
  have H3 := Lib.hid hrun3
  have hB := bstep hb2 ba3
  clear hrun3 own3 hp2 hp hx hb2 ba3
  generalize crc (xs.drop 4) = r at *
  go_wp2_with (at_builtin; refine wpList_append_run rfl _ _ _ rfl rfl rfl H3.out ?_; clear H3)
  go_ret2
  exact ⟨_, rfl, HO.out, hB⟩
end Go.Proofs.YtdaidhbmfocodaaGreat

/-
  The document's answers of layer 4: a superblock's block, Write. Conditions: those that each lemma states.
-/
namespace Go.Proofs.YtdaidhbmfocodaaGreat
open Go.RowKit

theorem ret_two {a : Value} {k : IntKind} {x y : Int} (h : x = y) : Ending.returned (.tuple #[a, .int k x]) = .returned (.tuple #[a, .int k y]) := by rw [h]
/-- Bytes of the call's own, with bytes behind. -/
theorem app_own_byt (v : Value) (n m c : Nat) (xs ys : List UInt8) (A : Option Addr) (lo : Nat) (w : World) (hown : w.ownsRow lo 5 1 v n (u8s xs)) (hy : Byt w w.heap.size A ys) (hl : ys.length = m) (hs : n + m ≤ 1000000000) (hlo : lo ≤ w.heap.size) :
    ∃ v' w', (Builtin.append_ #[27, 27] 27 #[v, .slice A m c]).run Tryz.prog w = .ok v' w' ∧ w'.ownsRow lo 5 1 v' (n + m) (u8s (xs ++ ys)) ∧ Below lo w w' := by
  obtain ⟨i0, hi, hz0, hz1, hz2⟩ := info_parts u8_info0
  exact app_byt (P := Tryz.prog) (w := w) lo 27 27 5 i0 Tryz.underlying27 hi hz0 hz1 hz2 v n xs hown w.heap.size A m c ys hy hl hs hlo

end Go.Proofs.YtdaidhbmfocodaaGreat

/-
  Layer 2: the contracts for every argument. Conditions: those that each lemma states.
-/
namespace Go.Proofs.YtdaidhbmfocodaaGreat
open Go.RowKit

/-- What Seal and Open answer. -/
def sb (xs : List UInt8) : List UInt8 := if xs.length ≤ 124 then sealN xs else []
open Classical in
noncomputable def ob (xs : List UInt8) : List UInt8 := if xs.length = 128 ∧ fits xs then xs.drop 4 else []
open Classical in
noncomputable def oe (xs : List UInt8) : Int := if xs.length = 128 then (if fits xs then 0 else 8) else 3

theorem open_any (A : Option Addr) (len cap : Nat) (xs : List UInt8) (hlen : Hid (xs.length = len)) (hlc : len ≤ cap) (hcap : cap ≤ 9223372036854775807) (w : World) (hx : Byt w w.heap.size A xs) :
    Calls Tryz.prog 61 #[.slice A len cap] w fun e w' => ∃ v, e = .returned (.tuple #[v, .int .i64 (oe xs)]) ∧ w'.ownsRow w.heap.size 5 1 v (ob xs).length (u8s (ob xs)) ∧ Below w.heap.size w w' := by
  by_cases h : len = 128
  · subst h
    obtain ⟨ad, rfl, _, _⟩ := hx (by rw [hlen.out]; omega)
    by_cases hf : fits xs
    · have h1 : oe xs = 0 := by unfold oe; rw [if_pos hlen.out, if_pos hf]
      have h2 : ob xs = xs.drop 4 := by unfold ob; rw [if_pos ⟨hlen.out, hf⟩]
      rw [h1, h2, show (xs.drop 4).length = 124 by simp [hlen.out]]
      exact open_ok ad cap xs hlen hlc hcap w hx hf
    · have h1 : oe xs = 8 := by unfold oe; rw [if_pos hlen.out, if_neg hf]
      have h2 : ob xs = [] := by unfold ob; rw [if_neg (fun h => hf h.2)]
      rw [h1, h2]
      refine (open_bad ad cap xs hlen hlc hcap w hx hf).mono ?_
      rintro e w' ⟨rfl, hb⟩
      exact ⟨_, rfl, World.ownsRow_nil _ _ _ _, hb⟩
  · have h1 : oe xs = 3 := by unfold oe; rw [if_neg (by rw [hlen.out]; exact h)]
    have h2 : ob xs = [] := by unfold ob; rw [if_neg (fun h' => h (by rw [← hlen.out]; exact h'.1))]
    rw [h1, h2]
    refine (open_no A len cap h w).mono ?_
    rintro e w' ⟨rfl, rfl⟩
    exact ⟨_, rfl, World.ownsRow_nil _ _ _ _, Below.refl _ _⟩
theorem openRef_any (A : Option Addr) (len cap : Nat) (xs : List UInt8) (hlen : Hid (xs.length = len)) (hlc : len ≤ cap) (hcap : cap ≤ 9223372036854775807) (w : World) (hx : Byt w w.heap.size A xs) :
    Calls Tryz.prog 104 #[.slice A len cap] w fun e w' => ∃ v, e = .returned (.tuple #[v, .int .i64 (oe xs)]) ∧ w'.ownsRow w.heap.size 5 1 v (ob xs).length (u8s (ob xs)) ∧ Below w.heap.size w w' := by
  by_cases h : len = 128
  · subst h
    obtain ⟨ad, rfl, _, _⟩ := hx (by rw [hlen.out]; omega)
    by_cases hf : fits xs
    · have h1 : oe xs = 0 := by unfold oe; rw [if_pos hlen.out, if_pos hf]
      have h2 : ob xs = xs.drop 4 := by unfold ob; rw [if_pos ⟨hlen.out, hf⟩]
      rw [h1, h2, show (xs.drop 4).length = 124 by simp [hlen.out]]
      exact openRef_ok ad cap xs hlen hlc hcap w hx hf
    · have h1 : oe xs = 8 := by unfold oe; rw [if_pos hlen.out, if_neg hf]
      have h2 : ob xs = [] := by unfold ob; rw [if_neg (fun h => hf h.2)]
      rw [h1, h2]
      refine (openRef_bad ad cap xs hlen hlc hcap w hx hf).mono ?_
      rintro e w' ⟨rfl, hb⟩
      exact ⟨_, rfl, World.ownsRow_nil _ _ _ _, hb⟩
  · have h1 : oe xs = 3 := by unfold oe; rw [if_neg (by rw [hlen.out]; exact h)]
    have h2 : ob xs = [] := by unfold ob; rw [if_neg (fun h' => h (by rw [← hlen.out]; exact h'.1))]
    rw [h1, h2]
    refine (openRef_no A len cap h w).mono ?_
    rintro e w' ⟨rfl, rfl⟩
    exact ⟨_, rfl, World.ownsRow_nil _ _ _ _, Below.refl _ _⟩
end Go.Proofs.YtdaidhbmfocodaaGreat

/-
  Package ring: Write of any superblock, deadOf, fields, Read; cmp.Or. Conditions: those that each lemma states.
-/
namespace Go.Proofs.YtdaidhbmfocodaaGreat
open Go.RowKit

theorem put_five {W : World} {g : Nat} {a b c d e u0 u1 u2 u3 u4 : Value} {t : TypeId} (h : W.heap[g]? = some (.cells #[a, b, c, d, e] t (0, 0))) : ∃ W1, ((((W.setCell ⟨g, 0, none⟩ u0).setCell ⟨g, 1, none⟩ u1).setCell ⟨g, 2, none⟩ u2).setCell ⟨g, 3, none⟩ u3).setCell ⟨g, 4, none⟩ u4 = W1 ∧
    W1.heap[g]? = some (.cells #[u0, u1, u2, u3, u4] t (0, 0)) ∧ W.grownBy W1 (some g) ∧ W1.heap.size = W.heap.size :=
  ⟨_, rfl, by simp [World.setCell, Array.getElem?_modify, h], grow_put (p := ⟨g, 4, none⟩) (grow_put (p := ⟨g, 3, none⟩) (grow_put (p := ⟨g, 2, none⟩) (grow_put (p := ⟨g, 1, none⟩) (grow_put (p := ⟨g, 0, none⟩) (grow_refl W (some g)) rfl u0) rfl u1) rfl u2) rfl u3) rfl u4, by simp⟩
theorem five_cells {W : World} {g : Nat} {a b c d e : Value} {t : TypeId} (h : W.heap[g]? = some (.cells #[a, b, c, d, e] t (0, 0))) : W.cell? ⟨g, 0, none⟩ = some a ∧ W.cell? ⟨g, 1, none⟩ = some b ∧ W.cell? ⟨g, 2, none⟩ = some c ∧ W.cell? ⟨g, 3, none⟩ = some d ∧ W.cell? ⟨g, 4, none⟩ = some e ∧ (∀ o, W.frozen? ⟨g, o, none⟩ = false) ∧ g < W.heap.size :=
  ⟨by simp [World.cell?, h], by simp [World.cell?, h], by simp [World.cell?, h], by simp [World.cell?, h], by simp [World.cell?, h], fun o => by simp [World.frozen?, h], (Array.getElem?_eq_some_iff.1 h).1⟩

/-! ### The numbers that wait, as bytes tell them -/
theorem int_info0 : (Tryz.prog.info? 3).map (fun i => (i.zero, i.size, i.bytes)) = some (some (.int .i64 0), 1, 8) := by kernel_rfl
theorem rI64_mk {ok : Addr → Prop} {w : World} {n : Int} (h : In64 n) : rK .i64 ok w [.int .i64 n] n := ⟨rfl, by simpa [IntKind.min, IntKind.signed, IntKind.bits] using h.1, by simpa [IntKind.max, IntKind.signed, IntKind.bits] using h.2⟩
theorem ints_push {w : World} {lo : Nat} {A : Option Addr} {c : Nat} {xs : List Int} (h : RowOf (rK .i64) 1 3 lo w A c xs) (g : Nat) (n : Int) (m : Nat) (hg : w.heap[g]? = some (.cells #[.int .i64 n] 3 (0, 0))) (hs : xs.length < 100000) (hbase : lo ≤ w.heap.size) (hn : In64 n) :
    ∃ A' c' w', (Builtin.append_ #[40, 40] 40 #[.slice A xs.length c, .slice (some ⟨g, 0, none⟩) 1 m]).run Tryz.prog w = .ok (.slice A' (xs.length + 1) c') w' ∧ RowOf (rK .i64) 1 3 lo w' A' c' (xs ++ [n]) ∧ w.grownBy w' (A.map (·.block)) ∧ Below lo w w' := by
  obtain ⟨i0, hi, hz0, hz1, hz2⟩ := info_parts int_info0
  exact RowOf.push (stab_k _) h 40 40 i0 (.int .i64 0) 8 Tryz.underlying40 hi hz0 hz1 hz2 rfl (by decide) ⟨g, 0, none⟩ m _ n rfl (World.news_of_block (cs := #[.int .i64 n]) hg) (fun u hu => by
    simp at hu
    subst hu
    rfl) (by unfold maxLen; omega) (by omega) hbase (rI64_mk hn)

theorem gv2_in (body : List UInt8) (k : Int) : In64 (gv 2 body k) := by
  have := gv_bounds 2 body k
  exact ⟨by omega, by omega⟩
theorem gv4_in (body : List UInt8) (k : Int) : InU (gv 4 body k) := by
  have := gv_bounds 4 body k
  exact ⟨by omega, by omega⟩

/-! ### The first that is no nought -/
def orN (xs : List Int) : Int := (xs.find? fun x => x != 0).getD 0
theorem orN_take {xs : List Int} {k : Nat} {x : Int} (h : ∀ y ∈ xs.take k, y = 0) (hx : xs[k]? = some x) (h0 : x ≠ 0) : orN xs = x := by
  have e : xs = xs.take k ++ x :: xs.drop (k + 1) := by
    have hk := (List.getElem?_eq_some_iff.1 hx)
    obtain ⟨hk1, hk2⟩ := hk
    rw [← hk2, ← List.drop_eq_getElem_cons hk1, List.take_append_drop]
  unfold orN
  rw [e, List.find?_append, List.find?_eq_none.2 (by intro y hy; simp [h y hy])]
  simp [h0]
theorem orN_zero {xs : List Int} (h : ∀ y ∈ xs, y = 0) : orN xs = 0 := by
  unfold orN
  rw [List.find?_eq_none.2 (by intro y hy; simp [h y hy])]
  rfl
set_option maxRecDepth 100000 in
set_option maxHeartbeats 2000000 in
theorem or_any (v : Value) (xs : List Int) (w : World) (h : rInts (Old w) w [v] xs) :
    Calls Tryz.prog 139 #[v] w fun e w' => e = .returned (.int .i64 (orN xs)) ∧ w = w' := by
  obtain ⟨A, c, rfl, l1, m1, hA⟩ := rInts_open h
  have HA := Lib.hid hA
  clear hA h
  obtain ⟨n, hn⟩ : ∃ n, xs.length = n := ⟨_, rfl⟩
  rw [hn] at l1 ⊢
  replace hn := Lib.hid hn
  go_enter Tryz.func139, Tryz.ntmps139
  go_wp2_with fail
  go_loop [8] (fun i => ∃ k : Nat, k ≤ n ∧ i = .int .i64 k ∧ ∀ y ∈ xs.take k, y = 0) (fun i => n - (intOf i).toNat)
  case atStart => exact ⟨0, by omega, rfl, fun y hy => by simp at hy⟩
  case round =>
    obtain ⟨k, hk, rfl, ha⟩ := hrel
    replace ha := Lib.hid ha
    by_cases hlt : k < n
    · obtain ⟨x, hx⟩ : ∃ x, xs[k]? = some x := ⟨_, List.getElem?_eq_getElem (by rw [hn.out]; exact hlt)⟩
      obtain ⟨ad, rfl, hok, hc, _⟩ := HA.out k x hx
      replace hx := Lib.hid hx
      by_cases e : x = 0
      · have he : (x != 0) = false := by simpa using e
        replace e := Lib.hid e
        go_wp2_with fail
        go_round
        case rel => exact ⟨k + 1, by omega, by go_num, fun y hy => by
          rw [List.take_add_one, hx.out] at hy
          simp at hy
          rcases hy with hy | hy
          · exact ha.out y hy
          · rw [hy]; exact e.out⟩
        case measure => simp [intOf]; omega
      · have he : (x != 0) = true := by simpa using e
        have hor := Lib.hid (orN_take ha.out hx.out e)
        clear e
        go_wp2_with fail
        go_ret
        exact ⟨ret_int hor.out.symm, rfl⟩
    · have hge : n ≤ k := by omega
      have hor : Hid (orN xs = 0) := Lib.hid (orN_zero (by
        have := ha.out
        rwa [List.take_of_length_le (by rw [hn.out]; exact hge)] at this))
      go_wp2_with fail
      go_ret
      exact ⟨ret_int hor.out.symm, rfl⟩
/-- A literal row of numbers. -/
theorem ints_lit (w : World) (t : TypeId) (xs : List Int) (cs : Array Value) (hc : cs.toList = xs.map fun x => Value.int .i64 x) (hb : xs.length ≤ 1000) (h : ∀ x ∈ xs, In64 x) :
    rInts (Old (w.alloc (.cells cs t))) (w.alloc (.cells cs t)) [.slice (some ⟨w.heap.size, 0, none⟩) xs.length xs.length] xs := by
  refine ⟨_, _, rfl, Nat.le_refl _, by omega, fun i x hi => ?_⟩
  refine ⟨_, [.int .i64 x], rfl, rfl, fun j v hj => ?_, rI64_mk (h x (List.mem_of_getElem? hi))⟩
  have hj0 : j = 0 := by
    have := (List.getElem?_eq_some_iff.1 hj).1
    simp at this
    omega
  subst hj0
  cases hj
  have e : (⟨w.heap.size, 0, none⟩ : Addr).add (i * 1 + 0) = ⟨w.heap.size, i, none⟩ := by rw [add_off]; simp
  rw [e]
  have hci : cs[i]? = some (.int .i64 x) := by rw [← Array.getElem?_toList, hc, List.getElem?_map, hi]; rfl
  refine ⟨by simp [Old], ?_⟩
  rw [← hci]
  simp
end Go.Proofs.YtdaidhbmfocodaaGreat

/-
  Package ring: fields, Read. Conditions: those that each lemma states.
-/
namespace Go.Proofs.YtdaidhbmfocodaaGreat
open Go.RowKit

theorem Sup.grown {w w' : World} {lo : Nat} {v : Value} {s : Sp} {row : Option Nat} (h : Sup (New lo w) w v s) (hg : w.grownBy w' row) (hr : ∀ q, row = some q → q < lo) : Sup (New lo w') w' v s := by
  obtain ⟨d, e, h1, h2⟩ := h
  exact ⟨d, e, h1, stab_ints.grown h2 hg hr⟩

end Go.Proofs.YtdaidhbmfocodaaGreat

/-
  The document's answers of layer 4: Read. Conditions: those that each lemma states.
-/
namespace Go.Proofs.YtdaidhbmfocodaaGreat
open Go.RowKit

section
variable {W : World} {g : Nat} {a b c d e u : Value} {t : TypeId}
theorem put5_1 (h : W.heap[g]? = some (.cells #[a, b, c, d, e] t (0, 0))) (u : Value) : ∃ W1, W.setCell ⟨g, 1, none⟩ u = W1 ∧ W1.heap[g]? = some (.cells #[a, u, c, d, e] t (0, 0)) ∧ W.grownBy W1 (some g) ∧ W1.heap.size = W.heap.size :=
  ⟨_, rfl, by simp [World.setCell, Array.getElem?_modify, h], grow_put (p := ⟨g, 1, none⟩) (grow_refl W (some g)) rfl u, by simp⟩
theorem put5_2 (h : W.heap[g]? = some (.cells #[a, b, c, d, e] t (0, 0))) (u : Value) : ∃ W1, W.setCell ⟨g, 2, none⟩ u = W1 ∧ W1.heap[g]? = some (.cells #[a, b, u, d, e] t (0, 0)) ∧ W.grownBy W1 (some g) ∧ W1.heap.size = W.heap.size :=
  ⟨_, rfl, by simp [World.setCell, Array.getElem?_modify, h], grow_put (p := ⟨g, 2, none⟩) (grow_refl W (some g)) rfl u, by simp⟩
theorem put5_3 (h : W.heap[g]? = some (.cells #[a, b, c, d, e] t (0, 0))) (u : Value) : ∃ W1, W.setCell ⟨g, 3, none⟩ u = W1 ∧ W1.heap[g]? = some (.cells #[a, b, c, u, e] t (0, 0)) ∧ W.grownBy W1 (some g) ∧ W1.heap.size = W.heap.size :=
  ⟨_, rfl, by simp [World.setCell, Array.getElem?_modify, h], grow_put (p := ⟨g, 3, none⟩) (grow_refl W (some g)) rfl u, by simp⟩
theorem put5_4 (h : W.heap[g]? = some (.cells #[a, b, c, d, e] t (0, 0))) (u : Value) : ∃ W1, W.setCell ⟨g, 4, none⟩ u = W1 ∧ W1.heap[g]? = some (.cells #[a, b, c, d, u] t (0, 0)) ∧ W.grownBy W1 (some g) ∧ W1.heap.size = W.heap.size :=
  ⟨_, rfl, by simp [World.setCell, Array.getElem?_modify, h], grow_put (p := ⟨g, 4, none⟩) (grow_refl W (some g)) rfl u, by simp⟩
end
theorem getTwo_refB (A : Option Addr) (len cap : Nat) (k : Int) (xs : List UInt8) (hlen : Hid (xs.length = len)) (hlc : len ≤ cap) (hcap : cap ≤ 9223372036854775807) (w : World) (hx : Byt w w.heap.size A xs) :
    Calls Tryz.prog 132 #[.slice A len cap, .int .i64 k] w fun e w' => e = .returned (.tuple #[.int .i64 (gv 2 xs k), .int .i64 (ge 2 len k)]) ∧ Below w.heap.size w w' :=
  (getTwo_ref A len cap k xs hlen hlc hcap w hx).mono fun _ _ ⟨e, hw⟩ => ⟨e, hw ▸ Below.refl _ _⟩
theorem getFour_refB (A : Option Addr) (len cap : Nat) (k : Int) (xs : List UInt8) (hlen : Hid (xs.length = len)) (hlc : len ≤ cap) (hcap : cap ≤ 9223372036854775807) (w : World) (hx : Byt w w.heap.size A xs) :
    Calls Tryz.prog 130 #[.slice A len cap, .int .i64 k] w fun e w' => e = .returned (.tuple #[.int .u32 (gv 4 xs k), .int .i64 (ge 4 len k)]) ∧ Below w.heap.size w w' :=
  (getFour_ref A len cap k xs hlen hlc hcap w hx).mono fun _ _ ⟨e, hw⟩ => ⟨e, hw ▸ Below.refl _ _⟩
end Go.Proofs.YtdaidhbmfocodaaGreat

/-
  A bag's facts on superblocks. Conditions: those that each lemma states.
-/
namespace Go.Proofs.YtdaidhbmfocodaaGreat
open Go.RowKit

/-- Five cells that are a box. -/
def Box5 (g : Nat) (a b c d e : Value) : World → Prop := fun w => w.cell? ⟨g, 0, none⟩ = some a ∧ w.cell? ⟨g, 1, none⟩ = some b ∧ w.cell? ⟨g, 2, none⟩ = some c ∧ w.cell? ⟨g, 3, none⟩ = some d ∧ w.cell? ⟨g, 4, none⟩ = some e ∧ g < w.heap.size
theorem lasts_box5 (g : Nat) (a b c d e : Value) : Lasts (Box5 g a b c d e) := fun _ _ h hb => ⟨(hb.cell (p := ⟨g, 0, none⟩) h.2.2.2.2.2).trans h.1, (hb.cell (p := ⟨g, 1, none⟩) h.2.2.2.2.2).trans h.2.1, (hb.cell (p := ⟨g, 2, none⟩) h.2.2.2.2.2).trans h.2.2.1, (hb.cell (p := ⟨g, 3, none⟩) h.2.2.2.2.2).trans h.2.2.2.1, (hb.cell (p := ⟨g, 4, none⟩) h.2.2.2.2.2).trans h.2.2.2.2.1, Nat.lt_of_lt_of_le h.2.2.2.2.2 hb.size⟩
end Go.Proofs.YtdaidhbmfocodaaGreat

/-
  Items and keys (api.Item, api.Key): how they read; which may be; their bytes; items as arguments. Conditions: those that each lemma states.
-/
namespace Go.Proofs.YtdaidhbmfocodaaGreat
open Go.ChangeShapes Go.WideShapes Go.RowKit

/-! ### Keys: kind, id, off -/
abbrev Ky := UInt8 × Int × Int
def rKy : Rel Ky := rPair rU8 (rPair (rK .u32) (rK .u32))
theorem stab_ky : Stab rKy := stab_pair stab_u8 (stab_pair (stab_k _) (stab_k _))
structure InK (k : Ky) : Prop where
  id : InU k.2.1
  off : InU k.2.2
abbrev kyV (k : Ky) : Value := .agg #[.int .u8 (k.1.toNat : Int), .int .u32 k.2.1, .int .u32 k.2.2]
theorem rKy_open {ok : Addr → Prop} {w : World} {cs : List Value} {k : Ky} (h : rKy ok w cs k) : cs = [.int .u8 (k.1.toNat : Int), .int .u32 k.2.1, .int .u32 k.2.2] ∧ InK k := by
  obtain ⟨_, _, rfl, rfl, _, _, rfl, ⟨rfl, a1, a2⟩, ⟨rfl, b1, b2⟩⟩ := h
  simp [IntKind.min, IntKind.max, IntKind.signed, IntKind.bits] at a1 a2 b1 b2
  exact ⟨rfl, ⟨⟨a1, by omega⟩, ⟨b1, by omega⟩⟩⟩
theorem rKy_mk {ok : Addr → Prop} {w : World} {k : Ky} (h : InK k) : rKy ok w [.int .u8 (k.1.toNat : Int), .int .u32 k.2.1, .int .u32 k.2.2] k := by
  obtain ⟨⟨a1, a2⟩, ⟨b1, b2⟩⟩ := h
  refine ⟨[_], _, rfl, rfl, [_], _, rfl, ⟨rfl, ?_, ?_⟩, rfl, ?_, ?_⟩ <;> simp [IntKind.min, IntKind.max, IntKind.signed, IntKind.bits] <;> omega

/-! ### Items: key, ref, val -/
abbrev It := Ky × Int × List UInt8
def rIt : Rel It := rPair rKy (rPair (rK .i64) rBy)
theorem stab_it : Stab rIt := stab_pair stab_ky (stab_pair (stab_k _) stab_by)
structure InI (s : It) : Prop where
  key : InK s.1
  ref : In64 s.2.1
abbrev itV (s : It) (d : Value) : Value := .agg #[.int .u8 (s.1.1.toNat : Int), .int .u32 s.1.2.1, .int .u32 s.1.2.2, .int .i64 s.2.1, d]
/-- A value that reads as an item. -/
def Itm (ok : Addr → Prop) (w : World) (v : Value) (s : It) : Prop := ∃ d, v = itV s d ∧ InI s ∧ rBy ok w [d] s.2.2
theorem rIt_open {ok : Addr → Prop} {w : World} {cs : List Value} {s : It} (h : rIt ok w cs s) : ∃ d, cs = [.int .u8 (s.1.1.toNat : Int), .int .u32 s.1.2.1, .int .u32 s.1.2.2, .int .i64 s.2.1, d] ∧ InI s ∧ rBy ok w [d] s.2.2 := by
  obtain ⟨_, _, rfl, hk, _, _, rfl, ⟨rfl, a1, a2⟩, hd⟩ := h
  obtain ⟨rfl, hi⟩ := rKy_open hk
  obtain ⟨A, cap, rfl, hd'⟩ := hd
  simp [IntKind.min, IntKind.max, IntKind.signed, IntKind.bits] at a1 a2
  exact ⟨_, rfl, ⟨hi, ⟨a1, a2⟩⟩, A, cap, rfl, hd'⟩
theorem rIt_mk {ok : Addr → Prop} {w : World} {d : Value} {s : It} (h : InI s) (hd : rBy ok w [d] s.2.2) : rIt ok w [.int .u8 (s.1.1.toNat : Int), .int .u32 s.1.2.1, .int .u32 s.1.2.2, .int .i64 s.2.1, d] s := by
  obtain ⟨hk, ⟨a1, a2⟩⟩ := h
  refine ⟨[_, _, _], _, rfl, rKy_mk hk, [_], _, rfl, ⟨rfl, ?_, ?_⟩, hd⟩ <;> simp [IntKind.min, IntKind.max, IntKind.signed, IntKind.bits] <;> omega
theorem Itm.cells {ok : Addr → Prop} {w : World} {v : Value} {s : It} (h : Itm ok w v s) : rIt ok w v.cells.toList s := by
  obtain ⟨d, rfl, h1, h2⟩ := h
  exact rIt_mk h1 h2
theorem Itm.map {ok ok' : Addr → Prop} {w w' : World} {v : Value} {s : It} (hk : ∀ p v, ok p → w.cell? p = some v → ok' p ∧ w'.cell? p = some v) (h : Itm ok w v s) : Itm ok' w' v s := by
  obtain ⟨d, e, h1, h2⟩ := h
  exact ⟨d, e, h1, stab_by _ _ _ _ _ _ hk h2⟩
theorem Itm.below {w w' : World} {v : Value} {s : It} (h : Itm (Old w) w v s) (hb : Below w.heap.size w w') : Itm (Old w') w' v s :=
  h.map fun _ _ hp hc => ⟨Nat.lt_of_lt_of_le hp hb.size, (hb.cell hp).trans hc⟩
theorem Itm.drop {lo : Nat} {w : World} {v : Value} {s : It} (h : Itm (New lo w) w v s) : Itm (Old w) w v s :=
  h.map fun _ _ hp hc => ⟨hp.2.1, hc⟩
theorem Itm.new {lo lo' : Nat} {w w' : World} {v : Value} {s : It} (h : Itm (New lo w) w v s) (hl : lo' ≤ lo) (hb : Below w.heap.size w w') : Itm (New lo' w') w' v s :=
  h.map fun _ _ hp hc => ⟨⟨Nat.le_trans hl hp.1, Nat.lt_of_lt_of_le hp.2.1 hb.size, (hb.frozen hp.2.1).trans hp.2.2⟩, (hb.cell hp.2.1).trans hc⟩
theorem Itm.grown {w w' : World} {lo : Nat} {v : Value} {s : It} {row : Option Nat} (h : Itm (New lo w) w v s) (hg : w.grownBy w' row) (hr : ∀ q, row = some q → q < lo) : Itm (New lo w') w' v s := by
  obtain ⟨d, e, h1, h2⟩ := h
  exact ⟨d, e, h1, stab_by.grown h2 hg hr⟩
/-- An item, opened. -/
theorem Itm.open {ok : Addr → Prop} {w : World} {v : Value} {s : It} (h : Itm ok w v s) : ∃ A c, v = itV s (.slice A s.2.2.length c) ∧ InI s ∧ s.2.2.length ≤ c ∧ c ≤ 9223372036854775807 ∧ rBy ok w [.slice A s.2.2.length c] s.2.2 := by
  obtain ⟨d, rfl, h1, h2⟩ := h
  obtain ⟨A, c, rfl, h3, h4, h5⟩ := rBy_open h2
  exact ⟨A, c, rfl, h1, h3, h4, h2⟩
/-- A box of three. -/
theorem box_three (w : World) (a b c : Value) (t : TypeId) : ∃ w1, w.alloc (.cells #[a, b, c] t) = w1 ∧ w1.cell? ⟨w.heap.size, 0, none⟩ = some a ∧ w1.cell? ⟨w.heap.size, 1, none⟩ = some b ∧ w1.cell? ⟨w.heap.size, 2, none⟩ = some c ∧ w1.heap.size = w.heap.size + 1 ∧ Below w.heap.size w w1 ∧ w1.heap[w.heap.size]? = some (.cells #[a, b, c] t (0, 0)) :=
  ⟨_, rfl, by simp, by simp, by simp, by simp, (Below.refl _ _).alloc (Nat.le_refl _) _, heap_alloc_new _ _⟩

/-! ### Which items may be; their bytes -/
def mayI (s : It) : Bool := (decide (s.2.1 = 0) || (decide (8 ≤ s.2.1) && decide (s.2.1 < 256))) && decide (s.2.2.length ≤ 12)
def chkI (s : It) : Int := if mayI s then 0 else 8
theorem mayI_of {s : It} (h : mayI s = true) : (s.2.1 = 0 ∨ (8 ≤ s.2.1 ∧ s.2.1 < 256)) ∧ s.2.2.length ≤ 12 := by
  simpa [mayI] using h
theorem mayI_mk {s : It} (h : (s.2.1 = 0 ∨ (8 ≤ s.2.1 ∧ s.2.1 < 256)) ∧ s.2.2.length ≤ 12) : mayI s = true := by simpa [mayI] using h
theorem chkI_ok {s : It} (h : mayI s = true) : chkI s = 0 := by simp [chkI, h]
theorem chkI_bad {s : It} (h : mayI s = false) : chkI s = 8 := by simp [chkI, h]
def itB (s : It) : List UInt8 := [s.1.1] ++ (le 4 s.1.2.1 ++ (le 4 s.1.2.2 ++ (le 2 s.2.1 ++ ([UInt8.ofNat s.2.2.length] ++ s.2.2))))
theorem itB_length (s : It) : (itB s).length = 12 + s.2.2.length := by simp [itB, le_length]; omega
def zeroI : It := ((0, 0, 0), 0, [])
theorem inI_zero : InI zeroI := ⟨⟨⟨by decide, by decide⟩, ⟨by decide, by decide⟩⟩, ⟨by decide, by decide⟩⟩
theorem itm_zero (ok : Addr → Prop) (w : World) : Itm ok w (.agg #[.int .u8 0, .int .u32 0, .int .u32 0, .int .i64 0, .slice none 0 0]) zeroI := ⟨_, rfl, inI_zero, none, 0, rfl, by simp [zeroI], by omega, fun i x h => by simp [zeroI] at h⟩

/-! ### Arguments -/
set_option maxRecDepth 100000 in
theorem opens_key : Opens Tryz.prog 38 rKy := opens_struct Tryz.underlying38 (opensF_cons rfl (opens_u8 Tryz.underlying5) (opensF_cons (by kernel_rfl) (opens_k Tryz.underlying36) (opensF_one (by kernel_rfl) (by kernel_rfl) (opens_k Tryz.underlying36))))
set_option maxRecDepth 100000 in
/-- A key that came in. -/
theorem open_key {H : Type} {enc : TypeId × Value → H} {w : World} {b0 : Nat} {spare : Nat → Bool} {held : Bool} {r : Reach} {v : Value} {x : DataW H} {ps : List MemPlace} (hval : Value.okWide Tryz.prog w r b0 38 v) (hd : DataW.Trod enc Tryz.prog w 0 spare held 38 v x ps) :
    ∃ k, v = kyV k ∧ InK k := by
  obtain ⟨cs, rfl, _⟩ := okWide_struct Tryz.underlying38 hval
  obtain ⟨s, hs⟩ := open_rel opens_key hd
  obtain ⟨h1, h2⟩ := rKy_open hs
  exact ⟨s, by obtain ⟨cs⟩ := cs; simp [Value.cells] at h1; rw [h1], h2⟩
end Go.Proofs.YtdaidhbmfocodaaGreat

/-
  Package item and the document's answers of layer 5: Less; cmp.Compare, cmp.Or at numbers. Conditions: those that each lemma states.
-/
namespace Go.Proofs.YtdaidhbmfocodaaGreat
open Go.RowKit

/-- How two numbers stand. -/
def cmpN (a b : Int) : Int := if a < b then -1 else if b < a then 1 else 0
theorem cmpN_lt {a b : Int} (h : a < b) : cmpN a b = -1 := if_pos h
theorem cmpN_gt {a b : Int} (h : b < a) : cmpN a b = 1 := by unfold cmpN; rw [if_neg (by omega), if_pos h]
theorem cmpN_eq {a b : Int} (h : a = b) : cmpN a b = 0 := by subst h; simp [cmpN]
theorem cmpN_in (a b : Int) : In64 (cmpN a b) := by
  unfold cmpN
  split
  · exact ⟨by decide, by decide⟩
  · split <;> exact ⟨by decide, by decide⟩
def lessK (a b : Ky) : Bool := if a.1.toNat ≠ b.1.toNat then decide (a.1.toNat < b.1.toNat) else if a.2.1 ≠ b.2.1 then decide (a.2.1 < b.2.1) else decide (a.2.2 < b.2.2)
theorem orN_three (a b c : Int) : orN [a, b, c] = if a ≠ 0 then a else if b ≠ 0 then b else c := by
  unfold orN
  by_cases h : a = 0
  · subst h
    by_cases h : b = 0
    · subst h
      by_cases h : c = 0
      · subst h; rfl
      · simp [h]
    · simp [h]
  · simp [h]
theorem less_or (a b : Ky) : decide (orN [cmpN a.1.toNat b.1.toNat, cmpN a.2.1 b.2.1, cmpN a.2.2 b.2.2] < 0) = lessK a b := by
  rw [orN_three]
  unfold lessK
  have z : ¬ (0 : Int) ≠ 0 := by omega
  have m1 : (-1 : Int) ≠ 0 := by omega
  have p1 : (1 : Int) ≠ 0 := by omega
  rcases Nat.lt_trichotomy a.1.toNat b.1.toNat with h | h | h
  · rw [cmpN_lt (by omega), if_pos m1, if_pos (show a.1.toNat ≠ b.1.toNat by omega)]; simp [h]
  · rw [cmpN_eq (show (a.1.toNat : Int) = b.1.toNat by omega), if_neg z, if_neg (show ¬ a.1.toNat ≠ b.1.toNat by omega)]
    rcases Int.lt_trichotomy a.2.1 b.2.1 with h1 | h1 | h1
    · rw [cmpN_lt h1, if_pos m1, if_pos (show a.2.1 ≠ b.2.1 by omega)]; simp [h1]
    · rw [cmpN_eq h1, if_neg z, if_neg (show ¬ a.2.1 ≠ b.2.1 by omega)]
      rcases Int.lt_trichotomy a.2.2 b.2.2 with h2 | h2 | h2
      · rw [cmpN_lt h2]; simp [h2]
      · rw [cmpN_eq h2]; simp [h2]
      · rw [cmpN_gt h2, decide_eq_false (show ¬ (1 : Int) < 0 by omega), decide_eq_false (show ¬ a.2.2 < b.2.2 by omega)]
    · rw [cmpN_gt h1, if_pos p1, if_pos (show a.2.1 ≠ b.2.1 by omega), decide_eq_false (show ¬ (1 : Int) < 0 by omega), decide_eq_false (show ¬ a.2.1 < b.2.1 by omega)]
  · rw [cmpN_gt (show (b.1.toNat : Int) < a.1.toNat by omega), if_pos p1, if_pos (show a.1.toNat ≠ b.1.toNat by omega), decide_eq_false (show ¬ (1 : Int) < 0 by omega), decide_eq_false (show ¬ a.1.toNat < b.1.toNat by omega)]

set_option maxRecDepth 100000 in
theorem isNaN8 (a : Int) (w : World) : Calls Tryz.prog 65 #[.int .u8 a] w fun e w' => e = .returned (.bool false) ∧ w = w' := by
  go_enter Tryz.func65, Tryz.ntmps65
  go_wp2_with fail
  go_ret
  exact ⟨ret_bool (by simp), rfl⟩
set_option maxRecDepth 100000 in
theorem isNaN32 (a : Int) (w : World) : Calls Tryz.prog 66 #[.int .u32 a] w fun e w' => e = .returned (.bool false) ∧ w = w' := by
  go_enter Tryz.func66, Tryz.ntmps66
  go_wp2_with fail
  go_ret
  exact ⟨ret_bool (by simp), rfl⟩
set_option maxRecDepth 100000 in
theorem compare8 (a b : Int) (w : World) : Calls Tryz.prog 39 #[.int .u8 a, .int .u8 b] w fun e w' => e = .returned (.int .i64 (cmpN a b)) ∧ w = w' := by
  rcases Int.lt_trichotomy a b with h | h | h
  · rw [cmpN_lt h]
    go_enter Tryz.func39, Tryz.ntmps39
    go_wp2_with fail
    with_reducible refine (isNaN8 a _).mono ?_
    rintro e w1 ⟨rfl, rfl⟩
    go_wp2_with fail
    with_reducible refine (isNaN8 b _).mono ?_
    rintro e w1 ⟨rfl, rfl⟩
    go_wp2_with fail
    go_ret
    exact ⟨rfl, rfl⟩
  · rw [cmpN_eq h]
    subst h
    go_enter Tryz.func39, Tryz.ntmps39
    go_wp2_with fail
    with_reducible refine (isNaN8 a _).mono ?_
    rintro e w1 ⟨rfl, rfl⟩
    go_wp2_with fail
    with_reducible refine (isNaN8 a _).mono ?_
    rintro e w1 ⟨rfl, rfl⟩
    go_wp2_with fail
    go_ret
    exact ⟨rfl, rfl⟩
  · rw [cmpN_gt h]
    have h2 : ¬ a < b := by omega
    go_enter Tryz.func39, Tryz.ntmps39
    go_wp2_with fail
    with_reducible refine (isNaN8 a _).mono ?_
    rintro e w1 ⟨rfl, rfl⟩
    go_wp2_with fail
    with_reducible refine (isNaN8 b _).mono ?_
    rintro e w1 ⟨rfl, rfl⟩
    go_wp2_with fail
    go_ret
    exact ⟨rfl, rfl⟩
set_option maxRecDepth 100000 in
theorem compare32 (a b : Int) (w : World) : Calls Tryz.prog 40 #[.int .u32 a, .int .u32 b] w fun e w' => e = .returned (.int .i64 (cmpN a b)) ∧ w = w' := by
  rcases Int.lt_trichotomy a b with h | h | h
  · rw [cmpN_lt h]
    go_enter Tryz.func40, Tryz.ntmps40
    go_wp2_with fail
    with_reducible refine (isNaN32 a _).mono ?_
    rintro e w1 ⟨rfl, rfl⟩
    go_wp2_with fail
    with_reducible refine (isNaN32 b _).mono ?_
    rintro e w1 ⟨rfl, rfl⟩
    go_wp2_with fail
    go_ret
    exact ⟨rfl, rfl⟩
  · rw [cmpN_eq h]
    subst h
    go_enter Tryz.func40, Tryz.ntmps40
    go_wp2_with fail
    with_reducible refine (isNaN32 a _).mono ?_
    rintro e w1 ⟨rfl, rfl⟩
    go_wp2_with fail
    with_reducible refine (isNaN32 a _).mono ?_
    rintro e w1 ⟨rfl, rfl⟩
    go_wp2_with fail
    go_ret
    exact ⟨rfl, rfl⟩
  · rw [cmpN_gt h]
    have h2 : ¬ a < b := by omega
    go_enter Tryz.func40, Tryz.ntmps40
    go_wp2_with fail
    with_reducible refine (isNaN32 a _).mono ?_
    rintro e w1 ⟨rfl, rfl⟩
    go_wp2_with fail
    with_reducible refine (isNaN32 b _).mono ?_
    rintro e w1 ⟨rfl, rfl⟩
    go_wp2_with fail
    go_ret
    exact ⟨rfl, rfl⟩
set_option maxRecDepth 100000 in
set_option maxHeartbeats 2000000 in
theorem orInt_any (v : Value) (xs : List Int) (w : World) (h : rInts (Old w) w [v] xs) :
    Calls Tryz.prog 38 #[v] w fun e w' => e = .returned (.int .i64 (orN xs)) ∧ w = w' := by
  obtain ⟨A, c, rfl, l1, m1, hA⟩ := rInts_open h
  have HA := Lib.hid hA
  clear hA h
  obtain ⟨n, hn⟩ : ∃ n, xs.length = n := ⟨_, rfl⟩
  rw [hn] at l1 ⊢
  replace hn := Lib.hid hn
  go_enter Tryz.func38, Tryz.ntmps38
  go_wp2_with fail
  go_loop [8] (fun i => ∃ k : Nat, k ≤ n ∧ i = .int .i64 k ∧ ∀ y ∈ xs.take k, y = 0) (fun i => n - (intOf i).toNat)
  case atStart => exact ⟨0, by omega, rfl, fun y hy => by simp at hy⟩
  case round =>
    obtain ⟨k, hk, rfl, ha⟩ := hrel
    replace ha := Lib.hid ha
    by_cases hlt : k < n
    · obtain ⟨x, hx⟩ : ∃ x, xs[k]? = some x := ⟨_, List.getElem?_eq_getElem (by rw [hn.out]; exact hlt)⟩
      obtain ⟨ad, rfl, hok, hc, _⟩ := HA.out k x hx
      replace hx := Lib.hid hx
      by_cases e : x = 0
      · have he : (x != 0) = false := by simpa using e
        replace e := Lib.hid e
        go_wp2_with fail
        go_round
        case rel => exact ⟨k + 1, by omega, by go_num, fun y hy => by
          rw [List.take_add_one, hx.out] at hy
          simp at hy
          rcases hy with hy | hy
          · exact ha.out y hy
          · rw [hy]; exact e.out⟩
        case measure => simp [intOf]; omega
      · have he : (x != 0) = true := by simpa using e
        have hor := Lib.hid (orN_take ha.out hx.out e)
        clear e
        go_wp2_with fail
        go_ret
        exact ⟨ret_int hor.out.symm, rfl⟩
    · have hge : n ≤ k := by omega
      have hor : Hid (orN xs = 0) := Lib.hid (orN_zero (by
        have := ha.out
        rwa [List.take_of_length_le (by rw [hn.out]; exact hge)] at this))
      go_wp2_with fail
      go_ret
      exact ⟨ret_int hor.out.symm, rfl⟩

set_option maxRecDepth 100000 in
set_option maxHeartbeats 4000000 in
theorem less_any (a b : Ky) (w : World) :
    Calls Tryz.prog 20 #[kyV a, kyV b] w fun e w' => e = .returned (.bool (lessK a b)) ∧ Below w.heap.size w w' := by
  have hfin := Lib.hid (less_or a b)
  obtain ⟨ak, ai, ao⟩ := a
  obtain ⟨bk, bi, bo⟩ := b
  unfold kyV
  dsimp only at hfin ⊢
  generalize lessK (ak, ai, ao) (bk, bi, bo) = res at hfin ⊢
  obtain ⟨p, hp⟩ : ∃ p : Int, (ak.toNat : Int) = p := ⟨_, rfl⟩
  obtain ⟨q, hq⟩ : ∃ q : Int, (bk.toNat : Int) = q := ⟨_, rfl⟩
  rw [hp, hq] at hfin ⊢
  clear hp hq
  obtain ⟨w1, hw1, f1, f2, f3, hs1, hB1, _⟩ := box_three w (.int .u8 p) (.int .u32 ai) (.int .u32 ao) 38
  obtain ⟨w2, hw2, g1, g2, g3, hs2, hB2, _⟩ := box_three w1 (.int .u8 q) (.int .u32 bi) (.int .u32 bo) 38
  have hB := Lib.hid (hB1.trans (hB2.mono hB1.size))
  have k1 := (hB2.cell (p := ⟨w.heap.size, 0, none⟩) (show w.heap.size < _ by omega)).trans f1
  have k2 := (hB2.cell (p := ⟨w.heap.size, 1, none⟩) (show w.heap.size < _ by omega)).trans f2
  have k3 := (hB2.cell (p := ⟨w.heap.size, 2, none⟩) (show w.heap.size < _ by omega)).trans f3
  have lt1 : w.heap.size < w2.heap.size := by omega
  have lt2 : w1.heap.size < w2.heap.size := by omega
  have i1 := Lib.hid (cmpN_in p q)
  have i2 := Lib.hid (cmpN_in ai bi)
  have i3 := Lib.hid (cmpN_in ao bo)
  obtain ⟨c1, h1⟩ : ∃ c, cmpN p q = c := ⟨_, rfl⟩
  obtain ⟨c2, h2⟩ : ∃ c, cmpN ai bi = c := ⟨_, rfl⟩
  obtain ⟨c3, h3⟩ : ∃ c, cmpN ao bo = c := ⟨_, rfl⟩
  rw [h1] at i1 hfin
  rw [h2] at i2 hfin
  rw [h3] at i3 hfin
  replace h1 := Lib.hid h1
  replace h2 := Lib.hid h2
  replace h3 := Lib.hid h3
  obtain ⟨c, hc⟩ : ∃ c, orN [c1, c2, c3] = c := ⟨_, rfl⟩
  rw [hc] at hfin
  replace hc := Lib.hid hc
  clear f1 f2 f3 hB1 hB2
  replace hs1 := Lib.hid hs1
  replace hs2 := Lib.hid hs2
  go_enter Tryz.func20, Tryz.ntmps20
  go_upto_region 1 with fail
  clear hw1 hw2
  refine wp_region_fx (by kernel_rfl) (fun W => Below w2.heap.size w2 W) (fun i => match i with
      | 15 => some (fun v W => rInts (Old W) W [v] [c1, c2, c3])
      | _ => none) (fun i => match i with
      | 4 => some (.int .i64 c1)
      | 9 => some (.int .i64 c2)
      | 14 => some (.int .i64 c3)
      | 16 => some (.int .i64 c)
      | _ => none) (by kernel_rfl) (Below.refl _ _).drew (fun w w' h hb => h.trans (hb.mono h.size)) ?tst ?_
  case tst =>
    intro j φ x W W' hp hx hb
    match j, hp with
    | 15, hp => cases hp; exact stab_ints.old hx hb
  repeat (first
    | (refine wpAs_skip rfl ?_; simp only [Act.put, List.setIfInBounds_toArray, List.set_cons_zero, List.set_cons_succ])
    | (refine wpAs_pure (v := ?_) rfl rfl ?_ ?_; rotate_left; (intro W hC hE; clear hE; (have z1 := (hC.cell (p := ⟨w.heap.size, 0, none⟩) lt1).trans k1; have z2 := (hC.cell (p := ⟨w1.heap.size, 0, none⟩) lt2).trans g1); clear hC; go_simp; done); simp only [Act.put, List.setIfInBounds_toArray, List.set_cons_zero, List.set_cons_succ])
    | (refine wpAs_pure (v := ?_) rfl rfl ?_ ?_; rotate_left; (intro W hC hE; clear hE; (have z1 := (hC.cell (p := ⟨w.heap.size, 0, none⟩) lt1).trans k1; have z2 := (hC.cell (p := ⟨w1.heap.size, 0, none⟩) lt2).trans g1); clear hC; go_simp; with_reducible rfl); simp only [Act.put, List.setIfInBounds_toArray, List.set_cons_zero, List.set_cons_succ]))
  refine wpAs_fixed rfl rfl rfl ?_ ?_
  · intro W hC hE
    refine does_enter (f := 39) (args := #[.int .u8 p, .int .u8 q]) ?_ ?_
    · go_simp
    · refine (compare8 p q W).mono ?_
      rintro e w' ⟨rfl, rfl⟩; rw [h1.out]; have hg := Below.refl W.heap.size W
      exact ⟨_, rfl, rfl, hg⟩
  simp only [Act.put, List.setIfInBounds_toArray, List.set_cons_zero, List.set_cons_succ]
  repeat (first
    | (refine wpAs_skip rfl ?_; simp only [Act.put, List.setIfInBounds_toArray, List.set_cons_zero, List.set_cons_succ])
    | (refine wpAs_pure (v := ?_) rfl rfl ?_ ?_; rotate_left; (intro W hC hE; clear hE; (have z1 := (hC.cell (p := ⟨w.heap.size, 1, none⟩) lt1).trans k2; have z2 := (hC.cell (p := ⟨w1.heap.size, 1, none⟩) lt2).trans g2); clear hC; go_simp; done); simp only [Act.put, List.setIfInBounds_toArray, List.set_cons_zero, List.set_cons_succ])
    | (refine wpAs_pure (v := ?_) rfl rfl ?_ ?_; rotate_left; (intro W hC hE; clear hE; (have z1 := (hC.cell (p := ⟨w.heap.size, 1, none⟩) lt1).trans k2; have z2 := (hC.cell (p := ⟨w1.heap.size, 1, none⟩) lt2).trans g2); clear hC; go_simp; with_reducible rfl); simp only [Act.put, List.setIfInBounds_toArray, List.set_cons_zero, List.set_cons_succ]))
  refine wpAs_fixed rfl rfl rfl ?_ ?_
  · intro W hC hE
    refine does_enter (f := 40) (args := #[.int .u32 ai, .int .u32 bi]) ?_ ?_
    · go_simp
    · refine (compare32 ai bi W).mono ?_
      rintro e w' ⟨rfl, rfl⟩; rw [h2.out]; have hg := Below.refl W.heap.size W
      exact ⟨_, rfl, rfl, hg⟩
  simp only [Act.put, List.setIfInBounds_toArray, List.set_cons_zero, List.set_cons_succ]
  repeat (first
    | (refine wpAs_skip rfl ?_; simp only [Act.put, List.setIfInBounds_toArray, List.set_cons_zero, List.set_cons_succ])
    | (refine wpAs_pure (v := ?_) rfl rfl ?_ ?_; rotate_left; (intro W hC hE; clear hE; (have z1 := (hC.cell (p := ⟨w.heap.size, 2, none⟩) lt1).trans k3; have z2 := (hC.cell (p := ⟨w1.heap.size, 2, none⟩) lt2).trans g3); clear hC; go_simp; done); simp only [Act.put, List.setIfInBounds_toArray, List.set_cons_zero, List.set_cons_succ])
    | (refine wpAs_pure (v := ?_) rfl rfl ?_ ?_; rotate_left; (intro W hC hE; clear hE; (have z1 := (hC.cell (p := ⟨w.heap.size, 2, none⟩) lt1).trans k3; have z2 := (hC.cell (p := ⟨w1.heap.size, 2, none⟩) lt2).trans g3); clear hC; go_simp; with_reducible rfl); simp only [Act.put, List.setIfInBounds_toArray, List.set_cons_zero, List.set_cons_succ]))
  refine wpAs_fixed rfl rfl rfl ?_ ?_
  · intro W hC hE
    refine does_enter (f := 40) (args := #[.int .u32 ao, .int .u32 bo]) ?_ ?_
    · go_simp
    · refine (compare32 ao bo W).mono ?_
      rintro e w' ⟨rfl, rfl⟩; rw [h3.out]; have hg := Below.refl W.heap.size W
      exact ⟨_, rfl, rfl, hg⟩
  simp only [Act.put, List.setIfInBounds_toArray, List.set_cons_zero, List.set_cons_succ]
  refine wpAs_act rfl rfl ?_ ?_
  · intro W hC hE
    clear hE
    have hl := Lib.hid (ints_lit W 3 [c1, c2, c3] #[.int .i64 c1, .int .i64 c2, .int .i64 c3] rfl (by simp) (fun x hx => by
      simp at hx
      rcases hx with rfl | rfl | rfl
      · exact i1.out
      · exact i2.out
      · exact i3.out))
    clear hC
    go_simp
    exact ⟨hl.out, (Below.refl _ _).alloc (Nat.le_refl _) _⟩
  simp only [Act.put, List.setIfInBounds_toArray, List.set_cons_zero, List.set_cons_succ, envAdd]
  intro x20
  refine wpAs_fixed rfl rfl rfl ?_ ?_
  · intro W hC hE
    have y20 := hE.1 rfl
    refine does_enter (f := 38) (args := #[x20]) ?_ ?_
    · clear hE hC
      obtain ⟨_, _, e, _⟩ := rInts_open y20
      cases e
      clear y20
      go_simp
    · refine (orInt_any x20 _ W y20).mono ?_
      rintro e w' ⟨rfl, rfl⟩
      rw [hc.out]
      exact ⟨_, rfl, rfl, Below.refl _ _⟩
  simp only [Act.put, List.setIfInBounds_toArray, List.set_cons_zero, List.set_cons_succ]
  repeat (first
    | (refine wpAs_skip rfl ?_; simp only [Act.put, List.setIfInBounds_toArray, List.set_cons_zero, List.set_cons_succ])
    | (refine wpAs_pure (v := ?_) rfl rfl ?_ ?_; rotate_left; (intro W hC hE; clear hE; skip; clear hC; go_simp; done); simp only [Act.put, List.setIfInBounds_toArray, List.set_cons_zero, List.set_cons_succ])
    | (refine wpAs_pure (v := ?_) rfl rfl ?_ ?_; rotate_left; (intro W hC hE; clear hE; skip; clear hC; go_simp; with_reducible rfl); simp only [Act.put, List.setIfInBounds_toArray, List.set_cons_zero, List.set_cons_succ]))
  refine wpAs_end fun W hC hE => ?_
  clear hE
  go_wp2
  go_ret
  exact ⟨ret_bool (by rw [← hfin.out]), hB.out.trans (hC.mono hB.out.size)⟩
end Go.Proofs.YtdaidhbmfocodaaGreat

/-
  Package item and the document's answers of layer 5: Check. Conditions: those that each lemma states.
-/
namespace Go.Proofs.YtdaidhbmfocodaaGreat
open Go.RowKit

/-- The five ways of a Ref and a length. -/
theorem may_ways (s : It) (n : Nat) (hn : s.2.2.length = n) : (s.2.1 = 0 ∧ n ≤ 12 ∧ mayI s = true) ∨ (s.2.1 = 0 ∧ 12 < n ∧ mayI s = false) ∨ (s.2.1 ≠ 0 ∧ s.2.1 < 8 ∧ mayI s = false) ∨ (s.2.1 ≠ 0 ∧ ¬ s.2.1 < 8 ∧ 256 ≤ s.2.1 ∧ mayI s = false) ∨ (s.2.1 ≠ 0 ∧ ¬ s.2.1 < 8 ∧ ¬ 256 ≤ s.2.1 ∧ n ≤ 12 ∧ mayI s = true) ∨ (s.2.1 ≠ 0 ∧ ¬ s.2.1 < 8 ∧ ¬ 256 ≤ s.2.1 ∧ 12 < n ∧ mayI s = false) := by
  subst hn
  cases e : mayI s with
  | true =>
    have := mayI_of e
    simp only [and_true, reduceCtorEq, and_false, or_false, false_or]
    omega
  | false =>
    have : ¬ ((s.2.1 = 0 ∨ (8 ≤ s.2.1 ∧ s.2.1 < 256)) ∧ s.2.2.length ≤ 12) := fun h => by rw [mayI_mk h] at e; cases e
    simp only [and_true, reduceCtorEq, and_false, false_or]
    omega

set_option maxRecDepth 100000 in
set_option maxHeartbeats 2000000 in
theorem checkI_any (v : Value) (s : It) (w : World) (h : Itm (Old w) w v s) : Calls Tryz.prog 89 #[v] w fun e w' => e = .returned (.int .i64 (chkI s)) ∧ Below w.heap.size w w' := by
  obtain ⟨A, c, rfl, _, l1, m1, _⟩ := h.open
  obtain ⟨n, hn⟩ : ∃ n, s.2.2.length = n := ⟨_, rfl⟩
  have hw := may_ways s n hn
  unfold itV
  rw [hn] at l1 ⊢
  obtain ⟨w0, hw0, f1, f2, f3, f4, f5, hs0, hB0, _⟩ := box_five w (.int .u8 (s.1.1.toNat : Int)) (.int .u32 s.1.2.1) (.int .u32 s.1.2.2) (.int .i64 s.2.1) (.slice A n c) 52
  clear f1 f2 f3 hs0 hn h
  have HB0 := Lib.hid hB0
  clear hB0
  obtain ⟨r, hr⟩ : ∃ r, s.2.1 = r := ⟨_, rfl⟩
  rw [hr] at hw f4 ⊢
  rw [hr] at hw0
  clear hr
  rcases hw with ⟨rfl, h1, hm⟩ | ⟨rfl, h1, hm⟩ | ⟨h0, h1, hm⟩ | ⟨h0, h1, h2, hm⟩ | ⟨h0, h1, h2, h3, hm⟩ | ⟨h0, h1, h2, h3, hm⟩
  · have hc := Lib.hid (chkI_ok hm)
    have i1 : ¬ (12 : Int) < n := by omega
    clear hm
    rw [hc.out]
    go_enter Tryz.func89, Tryz.ntmps89
    go_upto_region 1 with fail
    clear hw0
    go_wp2_with fail
    go_ret
    exact ⟨rfl, HB0.out⟩
  · have hc := Lib.hid (chkI_bad hm)
    have i1 : (12 : Int) < n := by omega
    clear hm
    rw [hc.out]
    go_enter Tryz.func89, Tryz.ntmps89
    go_upto_region 1 with fail
    clear hw0
    go_wp2_with fail
    go_ret
    exact ⟨rfl, HB0.out⟩
  · have hc := Lib.hid (chkI_bad hm)
    have t0 : (r != 0) = true := by simpa using h0
    have t1 : (r == 0) = false := by simpa using h0
    clear h0
    clear hm
    rw [hc.out]
    go_enter Tryz.func89, Tryz.ntmps89
    go_upto_region 1 with fail
    clear hw0
    go_wp2_with fail
    go_ret
    exact ⟨rfl, HB0.out⟩
  · have hc := Lib.hid (chkI_bad hm)
    have t0 : (r != 0) = true := by simpa using h0
    have t1 : (r == 0) = false := by simpa using h0
    clear h0
    clear hm
    rw [hc.out]
    go_enter Tryz.func89, Tryz.ntmps89
    go_upto_region 1 with fail
    clear hw0
    go_wp2_with fail
    go_ret
    exact ⟨rfl, HB0.out⟩
  · have hc := Lib.hid (chkI_ok hm)
    have t0 : (r != 0) = true := by simpa using h0
    have t1 : (r == 0) = false := by simpa using h0
    have i4 : ¬ (12 : Int) < n := by omega
    clear h0
    clear hm
    rw [hc.out]
    go_enter Tryz.func89, Tryz.ntmps89
    go_upto_region 1 with fail
    clear hw0
    go_wp2_with fail
    go_ret
    exact ⟨rfl, HB0.out⟩
  · have hc := Lib.hid (chkI_bad hm)
    have t0 : (r != 0) = true := by simpa using h0
    have t1 : (r == 0) = false := by simpa using h0
    have i4 : (12 : Int) < n := by omega
    clear h0
    clear hm
    rw [hc.out]
    go_enter Tryz.func89, Tryz.ntmps89
    go_upto_region 1 with fail
    clear hw0
    go_wp2_with fail
    go_ret
    exact ⟨rfl, HB0.out⟩

set_option maxRecDepth 100000 in
set_option maxHeartbeats 2000000 in
theorem refMayI_any (v : Value) (s : It) (w : World) (h : Itm (Old w) w v s) : Calls Tryz.prog 133 #[v] w fun e w' => e = .returned (.bool (mayI s)) ∧ Below w.heap.size w w' := by
  obtain ⟨A, c, rfl, _, l1, m1, _⟩ := h.open
  obtain ⟨n, hn⟩ : ∃ n, s.2.2.length = n := ⟨_, rfl⟩
  have hw := may_ways s n hn
  unfold itV
  rw [hn] at l1 ⊢
  obtain ⟨w0, hw0, f1, f2, f3, f4, f5, hs0, hB0, _⟩ := box_five w (.int .u8 (s.1.1.toNat : Int)) (.int .u32 s.1.2.1) (.int .u32 s.1.2.2) (.int .i64 s.2.1) (.slice A n c) 52
  clear f1 f2 f3 hs0 hn h
  have HB0 := Lib.hid hB0
  clear hB0
  obtain ⟨r, hr⟩ : ∃ r, s.2.1 = r := ⟨_, rfl⟩
  rw [hr] at hw f4 ⊢
  rw [hr] at hw0
  clear hr
  rcases hw with ⟨rfl, h1, hm⟩ | ⟨rfl, h1, hm⟩ | ⟨h0, h1, hm⟩ | ⟨h0, h1, h2, hm⟩ | ⟨h0, h1, h2, h3, hm⟩ | ⟨h0, h1, h2, h3, hm⟩
  · have hc := Lib.hid hm
    have i1 : (n : Int) ≤ 12 := by omega
    clear hm
    rw [hc.out]
    go_enter Tryz.func133, Tryz.ntmps133
    go_upto_region 1 with fail
    clear hw0
    go_wp2_with fail
    go_ret
    exact ⟨ret_bool (by simp <;> omega), HB0.out⟩
  · have hc := Lib.hid hm
    have i1 : ¬ (n : Int) ≤ 12 := by omega
    clear hm
    rw [hc.out]
    go_enter Tryz.func133, Tryz.ntmps133
    go_upto_region 1 with fail
    clear hw0
    go_wp2_with fail
    go_ret
    exact ⟨ret_bool (by simp <;> omega), HB0.out⟩
  · have hc := Lib.hid hm
    have t0 : (r != 0) = true := by simpa using h0
    have t1 : (r == 0) = false := by simpa using h0
    have i2 : ¬ 8 ≤ r := by omega
    clear h0
    clear hm
    rw [hc.out]
    go_enter Tryz.func133, Tryz.ntmps133
    go_upto_region 1 with fail
    clear hw0
    go_wp2_with fail
    go_ret
    exact ⟨ret_bool (by simp <;> omega), HB0.out⟩
  · have hc := Lib.hid hm
    have t0 : (r != 0) = true := by simpa using h0
    have t1 : (r == 0) = false := by simpa using h0
    have i2 : 8 ≤ r := by omega
    have i3 : ¬ r ≤ 255 := by omega
    clear h0
    clear hm
    rw [hc.out]
    go_enter Tryz.func133, Tryz.ntmps133
    go_upto_region 1 with fail
    clear hw0
    go_wp2_with fail
    go_ret
    exact ⟨ret_bool (by simp <;> omega), HB0.out⟩
  · have hc := Lib.hid hm
    have t0 : (r != 0) = true := by simpa using h0
    have t1 : (r == 0) = false := by simpa using h0
    have i2 : 8 ≤ r := by omega
    have i3 : r ≤ 255 := by omega
    have i4 : (n : Int) ≤ 12 := by omega
    clear h0
    clear hm
    rw [hc.out]
    go_enter Tryz.func133, Tryz.ntmps133
    go_upto_region 1 with fail
    clear hw0
    go_wp2_with fail
    go_ret
    exact ⟨ret_bool (by simp <;> omega), HB0.out⟩
  · have hc := Lib.hid hm
    have t0 : (r != 0) = true := by simpa using h0
    have t1 : (r == 0) = false := by simpa using h0
    have i2 : 8 ≤ r := by omega
    have i3 : r ≤ 255 := by omega
    have i4 : ¬ (n : Int) ≤ 12 := by omega
    clear h0
    clear hm
    rw [hc.out]
    go_enter Tryz.func133, Tryz.ntmps133
    go_upto_region 1 with fail
    clear hw0
    go_wp2_with fail
    go_ret
    exact ⟨ret_bool (by simp <;> omega), HB0.out⟩

end Go.Proofs.YtdaidhbmfocodaaGreat

/-
  Package item and the document's answers of layer 5: Same, Twin. Conditions: those that each lemma states.
-/
namespace Go.Proofs.YtdaidhbmfocodaaGreat
open Go.RowKit

def sameI (s o : It) : Bool := decide (s = o)
theorem sameI_self (s : It) : sameI s s = true := by simp [sameI]
theorem sameI_eq {s o : It} (h : sameI s o = true) : s = o := by simpa [sameI] using h
theorem same_parts (a1 b1 : UInt8) (a2 b2 a3 b3 a4 b4 : Int) (a5 b5 : List UInt8) : sameI ((a1, a2, a3), a4, a5) ((b1, b2, b3), b4, b5) = decide ((a1.toNat : Int) = b1.toNat ∧ a2 = b2 ∧ a3 = b3 ∧ a4 = b4 ∧ a5 = b5) := by
  unfold sameI
  rw [Bool.eq_iff_iff]
  simp only [Prod.mk.injEq, decide_eq_true_eq]
  have h : a1 = b1 ↔ (a1.toNat : Int) = b1.toNat := ⟨fun h => by rw [h], fun h => UInt8.toNat.inj (by omega)⟩
  rw [h]
  constructor
  · rintro ⟨⟨h1, h2, h3⟩, h4, h5⟩; exact ⟨h1, h2, h3, h4, h5⟩
  · rintro ⟨h1, h2, h3, h4, h5⟩; exact ⟨⟨h1, h2, h3⟩, h4, h5⟩
set_option maxRecDepth 100000 in
set_option maxHeartbeats 4000000 in
theorem refSameI_any (v u : Value) (s o : It) (w : World) (hv : Itm (Old w) w v s) (hu : Itm (Old w) w u o) :
    Calls Tryz.prog 33 #[v, u] w fun e w' => e = .returned (.bool (sameI s o)) ∧ Below w.heap.size w w' := by
  obtain ⟨A, c, rfl, _, _, _, rv⟩ := hv.open
  obtain ⟨B, c', rfl, _, _, _, ru⟩ := hu.open
  obtain ⟨⟨a1, a2, a3⟩, a4, a5⟩ := s
  obtain ⟨⟨b1, b2, b3⟩, b4, b5⟩ := o
  unfold itV
  dsimp only at *
  have hfin := Lib.hid (same_parts a1 b1 a2 b2 a3 b3 a4 b4 a5 b5)
  generalize sameI ((a1, a2, a3), a4, a5) ((b1, b2, b3), b4, b5) = res at hfin ⊢
  obtain ⟨w1, hw1, f1, f2, f3, f4, f5, hs1, hB1, _⟩ := box_five w (.int .u8 (a1.toNat : Int)) (.int .u32 a2) (.int .u32 a3) (.int .i64 a4) (.slice A a5.length c) 52
  obtain ⟨w2, hw2, g1, g2, g3, g4, g5, hs2, hB2, _⟩ := box_five w1 (.int .u8 (b1.toNat : Int)) (.int .u32 b2) (.int .u32 b3) (.int .i64 b4) (.slice B b5.length c') 52
  have hB := hB1.trans (hB2.mono hB1.size)
  have k1 := (hB2.cell (p := ⟨w.heap.size, 0, none⟩) (show w.heap.size < _ by omega)).trans f1
  have k2 := (hB2.cell (p := ⟨w.heap.size, 1, none⟩) (show w.heap.size < _ by omega)).trans f2
  have k3 := (hB2.cell (p := ⟨w.heap.size, 2, none⟩) (show w.heap.size < _ by omega)).trans f3
  have k4 := (hB2.cell (p := ⟨w.heap.size, 3, none⟩) (show w.heap.size < _ by omega)).trans f4
  have k5 := (hB2.cell (p := ⟨w.heap.size, 4, none⟩) (show w.heap.size < _ by omega)).trans f5
  have xv := Lib.hid (stab_by.old rv hB)
  have xu := Lib.hid (stab_by.old ru hB)
  clear f1 f2 f3 f4 f5 hv hu rv ru hB1 hB2
  replace hB := Lib.hid hB
  replace hs1 := Lib.hid hs1
  replace hs2 := Lib.hid hs2
  replace hw2 := Lib.hid hw2
  go_enter Tryz.func33, Tryz.ntmps33
  go_upto_region 1 with fail
  rw [hw2.out]
  clear hw1 hw2
  generalize (a1.toNat : Int) = p at *
  generalize (b1.toNat : Int) = q at *
  by_cases e1 : p = q
  case neg =>
    have t1 : (p == q) = false := by simpa using e1
    have hne := Lib.hid (show res = false by rw [hfin.out]; simp [e1])
    go_wp2_with fail
    go_ret
    exact ⟨ret_bool hne.out.symm, hB.out⟩
  by_cases e2 : a2 = b2
  case neg =>
    have t1 : (p == q) = true := by simpa using e1
    have t2 : (a2 == b2) = false := by simpa using e2
    have hne := Lib.hid (show res = false by rw [hfin.out]; simp [e2])
    go_wp2_with fail
    go_ret
    exact ⟨ret_bool hne.out.symm, hB.out⟩
  by_cases e3 : a3 = b3
  case neg =>
    have t1 : (p == q) = true := by simpa using e1
    have t2 : (a2 == b2) = true := by simpa using e2
    have t3 : (a3 == b3) = false := by simpa using e3
    have hne := Lib.hid (show res = false by rw [hfin.out]; simp [e3])
    go_wp2_with fail
    go_ret
    exact ⟨ret_bool hne.out.symm, hB.out⟩
  by_cases e4 : a4 = b4
  case neg =>
    have t1 : (p == q) = true := by simpa using e1
    have t2 : (a2 == b2) = true := by simpa using e2
    have t3 : (a3 == b3) = true := by simpa using e3
    have t4 : (a4 == b4) = false := by simpa using e4
    have hne := Lib.hid (show res = false by rw [hfin.out]; simp [e4])
    clear e4
    go_wp2_with fail
    go_ret
    exact ⟨ret_bool hne.out.symm, hB.out⟩
  have t4 : (a4 == b4) = true := by simpa using e4
  have hne := Lib.hid (show res = decide (a5 = b5) by rw [hfin.out]; simp [e1, e2, e3, e4])
  clear e4
  have hs1 := Lib.hid (rBy_str0 xv.out)
  have hs2 := Lib.hid (rBy_str0 xu.out)
  have hsx := Lib.hid (str_eq a5 b5)
  replace hs1 := hs1.out
  replace hs2 := hs2.out
  go_wp2
  go_ret
  exact ⟨ret_bool (by rw [hne.out, beq_dec]), hB.out⟩

theorem put_last {W : World} {g : Nat} {a b c d e u : Value} {t : TypeId} (h : W.heap[g]? = some (.cells #[a, b, c, d, e] t (0, 0))) : ∃ W1, W.setCell ⟨g, 4, none⟩ u = W1 ∧ W1.heap[g]? = some (.cells #[a, b, c, d, u] t (0, 0)) ∧ W.grownBy W1 (some g) ∧ W1.heap.size = W.heap.size :=
  ⟨_, rfl, by simp [World.setCell, Array.getElem?_modify, h], grow_put (p := ⟨g, 4, none⟩) (grow_refl W (some g)) rfl u, by simp⟩
set_option maxRecDepth 100000 in
set_option maxHeartbeats 4000000 in
theorem twinI_any (v : Value) (s : It) (w : World) (hbig : s.2.2.length ≤ 1000000000) (h : Itm (Old w) w v s) :
    Calls Tryz.prog 113 #[v] w fun e w' => ∃ u, e = .returned u ∧ Itm (New w.heap.size w') w' u s ∧ Below w.heap.size w w' := by
  obtain ⟨A, c, rfl, hin, _, _, rv⟩ := h.open
  obtain ⟨⟨a1, a2, a3⟩, a4, a5⟩ := s
  unfold itV
  dsimp only at *
  obtain ⟨w1, hw1, f1, f2, f3, f4, f5, hs1, hB1, b1⟩ := box_five w (.int .u8 (a1.toNat : Int)) (.int .u32 a2) (.int .u32 a3) (.int .i64 a4) (.slice A a5.length c) 52
  obtain ⟨w2, hw2, _, _, _, _, _, hs2, hB2, b2⟩ := box_five w1 (.int .u8 0) (.int .u32 0) (.int .u32 0) (.int .i64 0) (.slice none 0 0) 52
  have hB := hB1.trans (hB2.mono hB1.size)
  have lt1 : w.heap.size < w1.heap.size := by omega
  have lt2 : w1.heap.size < w2.heap.size := by omega
  have b1' := Lib.hid ((hB2.block w.heap.size lt1).trans b1)
  have k5 := (hB2.cell (p := ⟨w.heap.size, 4, none⟩) lt1).trans f5
  have xv := Lib.hid (stab_by.old rv hB)
  clear f1 f2 f3 f4 f5 h rv hB1 hB2 b1
  replace hB := Lib.hid hB
  replace hs1 := Lib.hid hs1
  replace hs2 := Lib.hid hs2
  replace b2 := Lib.hid b2
  replace hw2 := Lib.hid hw2
  replace hbig := Lib.hid hbig
  go_enter Tryz.func113, Tryz.ntmps113
  go_upto_region 1 with fail
  rw [hw2.out]
  clear hw1 hw2
  go_wp2_with fail
  with_reducible refine (clone_by _ a5 _ (by have := hbig.out; omega) xv.out).mono ?_
  rintro e w3 ⟨u, rfl, hu, hb3⟩
  have lt3 : w2.heap.size ≤ w3.heap.size := hb3.size
  have c1 := (hb3.block w.heap.size (by omega)).trans b1'.out
  have c2 := (hb3.block w1.heap.size (by omega)).trans b2.out
  obtain ⟨k0, k1, k2, k3, _, kf, _⟩ := five_cells c1
  obtain ⟨w4, hw4, d1, gr4, gs4⟩ := put_last (u := u) c1
  obtain ⟨l0, l1, l2, l3, l4, _, _⟩ := five_cells d1
  have d2 := (gr4.block w1.heap.size (by omega) (by simp; omega)).trans c2
  obtain ⟨W9, hW9, g9, gr9, gs9⟩ := put_five (u0 := .int .u8 (a1.toNat : Int)) (u1 := .int .u32 a2) (u2 := .int .u32 a3) (u3 := .int .i64 a4) (u4 := u) d2
  obtain ⟨m0, m1, m2, m3, m4, _, _⟩ := five_cells g9
  obtain ⟨n0, n1, n2, n3, n4, nf, _⟩ := five_cells d2
  have B3 := hB.out.trans (hb3.mono hB.out.size)
  have B4 := B3.grown gr4 B3.size (fun q e => by cases e; omega)
  have B9 := Lib.hid (B4.grown gr9 B4.size (fun q e => by cases e; omega))
  have hfin : Hid (Itm (New w.heap.size W9) W9 (.agg #[.int .u8 (a1.toNat : Int), .int .u32 a2, .int .u32 a3, .int .i64 a4, u]) ((a1, a2, a3), a4, a5)) := Lib.hid ⟨u, rfl, hin, by
    have h1 := stab_by.grown hu gr4 (fun q e => by cases e; omega)
    have h2 := stab_by.grown h1 gr9 (fun q e => by cases e; omega)
    exact stab_by.mono h2 (by omega)⟩
  obtain ⟨_, _, rfl, _⟩ := id (rBy_open hu)
  clear c1 c2 d1 d2 g9 gr4 gr9 hu B3 B4 hb3 lt3
  replace hs1 := Lib.hid lt1
  replace hs2 := Lib.hid lt2
  clear lt1 lt2
  go_wp2_with fail
  exact bodyPost_ret (v := .agg #[.int .u8 (a1.toNat : Int), .int .u32 a2, .int .u32 a3, .int .i64 a4, .slice _ _ _]) (by simp [results, Tryz.results113, go_sem, m0, m1, m2, m3, m4]) rfl ⟨_, rfl, hfin.out, B9.out⟩

end Go.Proofs.YtdaidhbmfocodaaGreat

/-
  The document's answers of layer 5: Less, Bytes, Write. Conditions: those that each lemma states.
-/
namespace Go.Proofs.YtdaidhbmfocodaaGreat
open Go.RowKit

theorem less_ways (a b : Ky) : lessK a b = (if (a.1.toNat : Int) ≠ b.1.toNat then decide ((a.1.toNat : Int) < b.1.toNat) else if a.2.1 ≠ b.2.1 then decide (a.2.1 < b.2.1) else decide (a.2.2 < b.2.2)) := by
  unfold lessK
  by_cases h : a.1.toNat = b.1.toNat
  · rw [if_neg (show ¬ a.1.toNat ≠ b.1.toNat by omega), if_neg (show ¬ (a.1.toNat : Int) ≠ b.1.toNat by omega)]
  · rw [if_pos h, if_pos (show (a.1.toNat : Int) ≠ b.1.toNat by omega)]
    rw [Bool.eq_iff_iff]
    simp

set_option maxRecDepth 100000 in
set_option maxHeartbeats 4000000 in
theorem refLess_any (a b : Ky) (w : World) :
    Calls Tryz.prog 56 #[kyV a, kyV b] w fun e w' => e = .returned (.bool (lessK a b)) ∧ Below w.heap.size w w' := by
  have hfin := Lib.hid (less_ways a b)
  obtain ⟨ak, ai, ao⟩ := a
  obtain ⟨bk, bi, bo⟩ := b
  unfold kyV
  dsimp only at hfin ⊢
  generalize lessK (ak, ai, ao) (bk, bi, bo) = res at hfin ⊢
  obtain ⟨p, hp⟩ : ∃ p : Int, (ak.toNat : Int) = p := ⟨_, rfl⟩
  obtain ⟨q, hq⟩ : ∃ q : Int, (bk.toNat : Int) = q := ⟨_, rfl⟩
  rw [hp, hq] at hfin ⊢
  clear hp hq
  obtain ⟨w1, hw1, f1, f2, f3, hs1, hB1, _⟩ := box_three w (.int .u8 p) (.int .u32 ai) (.int .u32 ao) 38
  obtain ⟨w2, hw2, g1, g2, g3, hs2, hB2, _⟩ := box_three w1 (.int .u8 q) (.int .u32 bi) (.int .u32 bo) 38
  have hB := Lib.hid (hB1.trans (hB2.mono hB1.size))
  have k1 := (hB2.cell (p := ⟨w.heap.size, 0, none⟩) (show w.heap.size < _ by omega)).trans f1
  have k2 := (hB2.cell (p := ⟨w.heap.size, 1, none⟩) (show w.heap.size < _ by omega)).trans f2
  have k3 := (hB2.cell (p := ⟨w.heap.size, 2, none⟩) (show w.heap.size < _ by omega)).trans f3
  clear f1 f2 f3 hB1 hB2
  replace hs1 := Lib.hid hs1
  replace hs2 := Lib.hid hs2
  by_cases e1 : p = q
  case neg =>
    have t1 : (p != q) = true := by simpa using e1
    have hr := Lib.hid (show res = decide (p < q) by rw [hfin.out, if_pos e1])
    clear e1
    go_enter Tryz.func56, Tryz.ntmps56
    go_upto_region 1 with fail
    clear hw1 hw2
    go_wp2_with fail
    go_ret
    exact ⟨ret_bool (by rw [hr.out]), hB.out⟩
  subst e1
  by_cases e2 : ai = bi
  case neg =>
    have t2 : (ai != bi) = true := by simpa using e2
    have hr := Lib.hid (show res = decide (ai < bi) by rw [hfin.out, if_neg (fun h => h rfl), if_pos e2])
    clear e2
    go_enter Tryz.func56, Tryz.ntmps56
    go_upto_region 1 with fail
    clear hw1 hw2
    go_wp2_with fail
    go_ret
    exact ⟨ret_bool (by rw [hr.out]), hB.out⟩
  subst e2
  have hr := Lib.hid (show res = decide (ao < bo) by rw [hfin.out, if_neg (fun h => h rfl), if_neg (fun h => h rfl)])
  go_enter Tryz.func56, Tryz.ntmps56
  go_upto_region 1 with fail
  clear hw1 hw2
  go_wp2_with fail
  go_ret
  exact ⟨ret_bool (by rw [hr.out]), hB.out⟩

/-- A literal byte, as a row of the call's own. -/
theorem lit_own (w : World) (x : UInt8) (n : Int) (h : (x.toNat : Int) = n) : ∃ w1, w.alloc (.cells #[.int .u8 n] 5) = w1 ∧ w1.ownsRow w.heap.size 5 1 (.slice (some ⟨w.heap.size, 0, none⟩) 1 1) 1 (u8s [x]) ∧ Below w.heap.size w w1 ∧ w1.heap.size = w.heap.size + 1 := by
  subst h
  refine ⟨_, rfl, ?_, (Below.refl _ _).alloc (Nat.le_refl _) _, by simp⟩
  have h1 : Row (w.alloc (.cells #[.int .u8 (x.toNat : Int)] 5)) w.heap.size [x] := Row.new w [x]
  exact h1.own (Nat.le_refl _) (by simp)

set_option maxRecDepth 100000 in
set_option maxHeartbeats 8000000 in
theorem refBytes_ok (v : Value) (s : It) (w : World) (h : Itm (Old w) w v s) (hm : mayI s = true) :
    Calls Tryz.prog 134 #[v] w fun e w' => ∃ u, e = .returned u ∧ rBy (New w.heap.size w') w' [u] (itB s) ∧ Below w.heap.size w w' := by
  have hmay := mayI_of hm
  obtain ⟨A, c, rfl, hin, l1, m1, rv⟩ := h.open
  obtain ⟨⟨⟨g0, g1⟩, ⟨n0, n1⟩⟩, _⟩ := hin
  obtain ⟨w0, hw0, f1, f2, f3, f4, f5, hs0, hB0, _⟩ := box_five w (.int .u8 (s.1.1.toNat : Int)) (.int .u32 s.1.2.1) (.int .u32 s.1.2.2) (.int .i64 s.2.1) (.slice A s.2.2.length c) 52
  have RV : Hid (Byt w0 w0.heap.size A s.2.2) := Lib.hid (by
    obtain ⟨_, _, e, _, _, hy⟩ := rBy_byt (B := w.heap.size) (fun p hp => hp) rv
    cases e
    exact (hy.below hB0).more hB0.size)
  clear rv
  obtain ⟨n, hn⟩ : ∃ n, s.2.2.length = n := ⟨_, rfl⟩
  have hfin := Lib.hid (show itB s = [s.1.1] ++ le 4 s.1.2.1 ++ le 4 s.1.2.2 ++ le 2 s.2.1 ++ [UInt8.ofNat n] ++ s.2.2 by rw [← hn]; simp [itB])
  unfold itV
  rw [hn] at l1 f5 hw0 hmay ⊢
  have h12 : n ≤ 12 := hmay.2
  have hr0 : 0 ≤ s.2.1 ∧ s.2.1 < 65536 := by have := hmay.1; omega
  have hu8 : ((UInt8.ofNat n).toNat : Int) = (n : Int) := by
    rw [UInt8.toNat_ofNat']
    omega
  have HU := Lib.hid hu8
  obtain ⟨p, hp⟩ : ∃ p : Int, (s.1.1.toNat : Int) = p := ⟨_, rfl⟩
  have HP := Lib.hid hp
  rw [hp] at f1 hw0 ⊢
  have lt0 : w.heap.size < w0.heap.size := by omega
  have HB0 := Lib.hid hB0
  replace hn := Lib.hid hn
  clear hp hmay hB0 hs0 h hu8 hm
  go_enter Tryz.func134, Tryz.ntmps134
  go_upto_region 1 with fail
  clear hw0
  obtain ⟨w1, hw1, o1, B1, hs1⟩ := lit_own w0 s.1.1 p HP.out
  have k2 := (B1.cell (p := ⟨w.heap.size, 1, none⟩) lt0).trans f2
  have k3 := (B1.cell (p := ⟨w.heap.size, 2, none⟩) lt0).trans f3
  have k4 := (B1.cell (p := ⟨w.heap.size, 3, none⟩) lt0).trans f4
  have k5 := (B1.cell (p := ⟨w.heap.size, 4, none⟩) lt0).trans f5
  replace B1 := Lib.hid B1
  replace o1 := Lib.hid o1
  replace hs1 := Lib.hid hs1
  go_upto_region 2 with fail
  clear hw1 f1 f2 f3 f4 f5
  go_wp2_with fail
  with_reducible refine (four_ref s.1.2.1 g0 g1 _).mono ?_
  rintro e4 w4 ⟨A4, c4, rfl, y4, hb4⟩
  obtain ⟨v5, w5, hr5, o5, ba5⟩ := app_own_byt _ 1 4 c4 _ _ A4 w0.heap.size w4 (own_below o1.out hb4) y4 (le_length _ _) (by omega) (Nat.le_trans B1.out.size hb4.size)
  have B5 := Lib.hid ((B1.out.trans (hb4.mono B1.out.size)).trans ba5)
  have q3 := (ba5.cell (p := ⟨w.heap.size, 2, none⟩) lt0).trans ((hb4.cell (p := ⟨w.heap.size, 2, none⟩) (Nat.lt_of_lt_of_le lt0 B1.out.size)).trans k3)
  have q4 := (ba5.cell (p := ⟨w.heap.size, 3, none⟩) lt0).trans ((hb4.cell (p := ⟨w.heap.size, 3, none⟩) (Nat.lt_of_lt_of_le lt0 B1.out.size)).trans k4)
  have q5 := (ba5.cell (p := ⟨w.heap.size, 4, none⟩) lt0).trans ((hb4.cell (p := ⟨w.heap.size, 4, none⟩) (Nat.lt_of_lt_of_le lt0 B1.out.size)).trans k5)
  have H5 := Lib.hid hr5
  replace o5 := Lib.hid o5
  clear k2 k3 k4 k5 hb4 y4 ba5 o1 B1 hr5
  go_wp2_with (at_builtin; refine wpList_append_run rfl _ _ _ rfl rfl rfl H5.out ?_; clear H5)
  with_reducible refine (four_ref s.1.2.2 n0 n1 _).mono ?_
  rintro e4 w6 ⟨A6, c6, rfl, y6, hb6⟩
  obtain ⟨v7, w7, hr7, o7, ba7⟩ := app_own_byt v5 5 4 c6 _ _ A6 w0.heap.size w6 (own_below o5.out hb6) y6 (le_length _ _) (by omega) (Nat.le_trans B5.out.size hb6.size)
  have B7 := Lib.hid ((B5.out.trans (hb6.mono B5.out.size)).trans ba7)
  have k4 := (ba7.cell (p := ⟨w.heap.size, 3, none⟩) lt0).trans ((hb6.cell (p := ⟨w.heap.size, 3, none⟩) (Nat.lt_of_lt_of_le lt0 B5.out.size)).trans q4)
  have k5 := (ba7.cell (p := ⟨w.heap.size, 4, none⟩) lt0).trans ((hb6.cell (p := ⟨w.heap.size, 4, none⟩) (Nat.lt_of_lt_of_le lt0 B5.out.size)).trans q5)
  have H7 := Lib.hid hr7
  replace o7 := Lib.hid o7
  clear q3 q4 q5 hb6 y6 ba7 o5 B5 hr7
  go_wp2_with (at_builtin; refine wpList_append_run rfl _ _ _ rfl rfl rfl H7.out ?_; clear H7)
  refine (bytes_ref s.2.1 2 (by omega) (by omega) (by omega) _).mono ?_
  rintro e2 w8 ⟨A8, c8, rfl, y8, hb8⟩
  obtain ⟨v9, w9, hr9, o9, ba9⟩ := app_own_byt v7 9 2 c8 _ _ A8 w0.heap.size w8 (own_below o7.out hb8) y8 (le_length _ _) (by omega) (Nat.le_trans B7.out.size hb8.size)
  have B9 := Lib.hid ((B7.out.trans (hb8.mono B7.out.size)).trans ba9)
  have q5 := (ba9.cell (p := ⟨w.heap.size, 4, none⟩) lt0).trans ((hb8.cell (p := ⟨w.heap.size, 4, none⟩) (Nat.lt_of_lt_of_le lt0 B7.out.size)).trans k5)
  have H9 := Lib.hid hr9
  obtain ⟨wa, hwa, oa, Ba, hsa⟩ := lit_own w9 (UInt8.ofNat n) n HU.out
  obtain ⟨_, _, e, _, _, ya⟩ := own_byt oa
  cases e
  obtain ⟨vb, wb, hrb, ob, bab⟩ := app_own_byt v9 11 1 1 _ _ _ w0.heap.size wa (own_below o9 Ba) ya rfl (by omega) (Nat.le_trans B9.out.size Ba.size)
  have Bb := Lib.hid ((B9.out.trans (Ba.mono B9.out.size)).trans bab)
  have z5 := (Bb.out.cell (p := ⟨w.heap.size, 4, none⟩) lt0)
  have q5b := (bab.cell (p := ⟨w.heap.size, 4, none⟩) lt0).trans ((Ba.cell (p := ⟨w.heap.size, 4, none⟩) (Nat.lt_of_lt_of_le lt0 B9.out.size)).trans q5)
  have yv := (RV.out.below Bb.out).more Bb.out.size
  obtain ⟨vc, wc, hrc, oc, bac⟩ := app_own_byt vb 12 n c _ _ A w0.heap.size wb ob yv hn.out (by omega) Bb.out.size
  have BF := Lib.hid (HB0.out.trans ((Bb.out.trans bac).mono HB0.out.size))
  have hown : Hid (rBy (New w.heap.size wc) wc [vc] (itB s)) := Lib.hid (by
    rw [hfin.out]
    exact stab_by.mono (own_by oc) (Nat.le_of_lt lt0))
  have HB := Lib.hid hrb
  have HC := Lib.hid hrc
  clear k4 k5 hb8 y8 ba9 o7 B7 hr9 o9 oa Ba ya hrb ob bab z5 yv hrc oc bac
  replace hsa := Lib.hid hsa
  go_wp2_with (first
    | (at_builtin; refine wpList_append_run rfl _ _ _ rfl rfl rfl H9.out ?_; clear H9)
    | (at_builtin; refine wpList_append_run rfl _ _ _ rfl rfl rfl HB.out ?_; clear HB)
    | (at_builtin; refine wpList_append_run rfl _ _ _ rfl rfl rfl HC.out ?_; clear HC))
  go_ret
  exact ⟨_, rfl, hown.out, BF.out⟩

end Go.Proofs.YtdaidhbmfocodaaGreat

/-
  Package item: cut, fields, Read. Conditions: those that each lemma states.
-/
namespace Go.Proofs.YtdaidhbmfocodaaGreat
open Go.RowKit

/-! ### What bytes tell -/
def cutN (b : List UInt8) : Nat := (b[11]?.getD 0).toNat
theorem cutN_lt (b : List UInt8) : cutN b < 256 := (b[11]?.getD 0).toNat_lt
def okC (b : List UInt8) : Bool := decide (12 + cutN b ≤ b.length)
def cutV (b : List UInt8) : List UInt8 := if okC b then (b.drop 12).take (cutN b) else []
def cutE (b : List UInt8) : Int := if okC b then 0 else 8
def fieldsI (b : List UInt8) : It := ((b[0]?.getD 0, gv 4 b 1, gv 4 b 5), gv 2 b 9, (b.drop 12).take (cutN b))
def fldI (b : List UInt8) : It := if okC b then fieldsI b else zeroI
theorem okC_yes {b : List UInt8} (h : okC b = true) : 12 + cutN b ≤ b.length := by simpa [okC] using h
theorem okC_no {b : List UInt8} (h : okC b = false) : ¬ 12 + cutN b ≤ b.length := by simpa [okC] using h
theorem inI_fields (b : List UInt8) : InI (fieldsI b) := ⟨⟨gv4_in _ _, gv4_in _ _⟩, gv2_in _ _⟩
theorem fieldsI_length {b : List UInt8} (h : okC b = true) : (fieldsI b).2.2.length = cutN b := by
  have := okC_yes h
  simp [fieldsI]
  omega
def okR (b : List UInt8) : Bool := okC b && mayI (fldI b)
def itR (b : List UInt8) : It := if okR b then fieldsI b else zeroI
def itN (b : List UInt8) : Int := if okR b then (12 + cutN b : Int) else 0
def itE (b : List UInt8) : Int := if okR b then 0 else 8

/-- A part of bytes. -/
theorem rBy_part {ok : Addr → Prop} {w : World} {ad : Addr} {n c : Nat} {b : List UInt8} (h : rBy ok w [.slice (some ad) n c] b) (k m cap : Nat) (hk : k + m ≤ b.length) (hm : m ≤ cap) (hc : cap ≤ 9223372036854775807) : rBy ok w [.slice (some (ad.add k)) m cap] ((b.drop k).take m) := by
  obtain ⟨A, c', e, _, _, h4⟩ := h
  cases e
  have hl : ((b.drop k).take m).length = m := by simp; omega
  refine ⟨some (ad.add k), cap, by rw [hl], by rw [hl]; exact hm, hc, fun i x hi => ?_⟩
  have him : i < m := by rw [← hl]; exact (List.getElem?_eq_some_iff.1 hi).1
  have hi' : b[k + i]? = some x := by
    rw [List.getElem?_take_of_lt him, List.getElem?_drop] at hi
    exact hi
  obtain ⟨ad', vs, e1, e2, e3, e4⟩ := h4 (k + i) x hi'
  cases e1
  refine ⟨ad.add k, vs, rfl, e2, fun j v hj => ?_, e4⟩
  have := e3 j v hj
  rw [add_add', show k + (i * 1 + j) = (k + i) * 1 + j by omega]
  exact this
theorem rBy_part0 (ok : Addr → Prop) (w : World) (A : Option Addr) : rBy ok w [.slice A 0 0] [] := ⟨A, 0, rfl, by simp, by omega, fun i x h => by simp at h⟩

set_option maxRecDepth 100000 in
set_option maxHeartbeats 2000000 in
theorem cut_any (ok : Addr → Prop) (v : Value) (b : List UInt8) (w : World) (h : rBy ok w [v] b) :
    Calls Tryz.prog 138 #[v] w fun e w' => ∃ u, e = .returned (.tuple #[u, .int .i64 (cutE b)]) ∧ rBy ok w' [u] (cutV b) ∧ w = w' := by
  obtain ⟨A, c, rfl, l1, m1, hy⟩ := rBy_open h
  obtain ⟨n, hn⟩ : ∃ n, b.length = n := ⟨_, rfl⟩
  have hcn := cutN_lt b
  cases hok : okC b with
  | false =>
    have hno := okC_no hok
    have hE := Lib.hid (show cutE b = 8 by simp [cutE, hok])
    have hV := Lib.hid (show cutV b = [] by simp [cutV, hok])
    rw [hE.out, hV.out]
    by_cases h12 : n < 12
    · have i1 : (n : Int) < 12 := by omega
      rw [hn] at l1 ⊢
      clear hok hno hn hy h
      go_enter Tryz.func138, Tryz.ntmps138
      go_wp2_with fail
      go_ret2
      exact ⟨_, rfl, rBy_part0 _ _ _, rfl⟩
    · obtain ⟨ad, rfl, _, hc⟩ := hy 11 (by omega)
      have h11 : w.cell? ⟨ad.block, ad.off + 11, none⟩ = some (.int .u8 (cutN b : Int)) := by simpa [Addr.add, cutN] using hc
      obtain ⟨k, hk⟩ : ∃ k, cutN b = k := ⟨_, rfl⟩
      rw [hk] at h11 hno hcn
      rw [hn] at l1 hno ⊢
      have i1 : ¬ (n : Int) < 12 := by omega
      have i2 : (n : Int) < 12 + k := by omega
      clear hok hno hn hy h hc hk
      go_enter Tryz.func138, Tryz.ntmps138
      go_wp2_with fail
      go_ret2
      exact ⟨_, rfl, rBy_part0 _ _ _, rfl⟩
  | true =>
    have hyes := okC_yes hok
    have hE := Lib.hid (show cutE b = 0 by simp [cutE, hok])
    have hV := Lib.hid (show cutV b = (b.drop 12).take (cutN b) by simp [cutV, hok])
    rw [hE.out, hV.out]
    obtain ⟨ad, rfl, _, hc⟩ := hy 11 (by omega)
    have h11 : w.cell? ⟨ad.block, ad.off + 11, none⟩ = some (.int .u8 (cutN b : Int)) := by simpa [Addr.add, cutN] using hc
    obtain ⟨k, hk⟩ : ∃ k, cutN b = k := ⟨_, rfl⟩
    rw [hk] at h11 hyes hcn ⊢
    rw [hn] at l1 hyes ⊢
    have i1 : ¬ (n : Int) < 12 := by omega
    have i2 : ¬ (n : Int) < 12 + k := by omega
    clear hok hE hV hc
    rcases Nat.eq_zero_or_pos k with h0 | h0
    · subst h0
      rw [List.take_zero]
      go_enter Tryz.func138, Tryz.ntmps138
      go_wp2_with fail
      go_ret2
      exact ⟨_, rfl, rBy_part0 _ _ _, rfl⟩
    · have hfin : Hid (rBy ok w [.slice (some ⟨ad.block, ad.off + 12, none⟩) k k] ((b.drop 12).take k)) := Lib.hid (by
        have h1 : ad.add 12 = ⟨ad.block, ad.off + 12, none⟩ := by simp [Addr.add]
        have h2 := rBy_part h 12 k k (by omega) (Nat.le_refl _) (by omega)
        rwa [h1] at h2)
      have h0' : ¬ k = 0 := by omega
      clear hy h hn hk
      go_enter Tryz.func138, Tryz.ntmps138
      go_wp2_with fail
      go_ret2
      exact ⟨_, rfl, hfin.out, rfl⟩

theorem orN_no {a b c : Int} (ha : a = 0 ∨ a = 8) (hb : b = 0 ∨ b = 8) (hc : c = 0 ∨ c = 8) : orN [a, b, c, 8] = 8 := by
  rcases ha with rfl | rfl <;> rcases hb with rfl | rfl <;> rcases hc with rfl | rfl <;> rfl
theorem ge_ways (m n : Nat) (k : Int) : ge m n k = 0 ∨ ge m n k = 8 := by
  unfold ge
  split
  · exact Or.inl rfl
  · exact Or.inr rfl
theorem errs_in {e : Int} (h : e = 0 ∨ e = 8) : In64 e := by
  rcases h with rfl | rfl <;> exact ⟨by decide, by decide⟩

set_option maxRecDepth 100000 in
set_option maxHeartbeats 8000000 in
theorem fieldsI_any (ok : Addr → Prop) (v : Value) (b : List UInt8) (w : World) (hok0 : ∀ p, ok p → p.block < w.heap.size) (h : rBy ok w [v] b) :
    Calls Tryz.prog 112 #[v] w fun e w' => ∃ u, e = .returned (.tuple #[u, .int .i64 (cutE b)]) ∧ Itm ok w' u (fldI b) ∧ Below w.heap.size w w' := by
  obtain ⟨A, c, rfl, l1, m1, hy⟩ := rBy_byt (B := w.heap.size) hok0 h
  obtain ⟨n, hn⟩ : ∃ n, b.length = n := ⟨_, rfl⟩
  have hin := Lib.hid (inI_fields b)
  have HO := Lib.hid hok0
  have hhead : okC b = true → ∃ ad, A = some ad ∧ Old w ad ∧ w.cell? ad = some (.int .u8 ((b[0]?.getD 0).toNat : Int)) := fun hk => by
    have := okC_yes hk
    obtain ⟨ad, rfl, hb, hc⟩ := hy (by omega)
    exact ⟨ad, rfl, hb, by have := hc 0 (by omega); simpa [Addr.add] using this⟩
  replace hhead := Lib.hid hhead
  have hF : Hid (fldI b = if okC b then fieldsI b else zeroI) := Lib.hid rfl
  have hE : Hid (cutE b = if okC b then 0 else 8) := Lib.hid rfl
  have hV : Hid (cutV b = if okC b then (b.drop 12).take (cutN b) else []) := Lib.hid rfl
  have hg1 := ge_ways 4 n 1
  have hg2 := ge_ways 4 n 5
  have hg3 := ge_ways 2 n 9
  have hgy : Hid (okC b = true → ge 4 n 1 = 0 ∧ ge 4 n 5 = 0 ∧ ge 2 n 9 = 0) := Lib.hid (fun hk => by
    have := okC_yes hk
    exact ⟨ge_yes (by omega), ge_yes (by omega), ge_yes (by omega)⟩)
  rw [hn] at l1 h ⊢
  have HL := Lib.hid hn
  have HY := Lib.hid hy
  have HV := Lib.hid h
  obtain ⟨w0, hw0, _, _, _, _, _, hs0, hB0, b0⟩ := box_five w (.int .u8 0) (.int .u32 0) (.int .u32 0) (.int .i64 0) (.slice none 0 0) 52
  have lt0 : w.heap.size < w0.heap.size := by omega
  have HB0 := Lib.hid hB0
  replace b0 := Lib.hid b0
  replace hw0 := Lib.hid hw0
  obtain ⟨x0, hx0⟩ : ∃ x, b[0]?.getD 0 = x := ⟨_, rfl⟩
  obtain ⟨x1, hx1⟩ : ∃ x, gv 4 b 1 = x := ⟨_, rfl⟩
  obtain ⟨x2, hx2⟩ : ∃ x, gv 4 b 5 = x := ⟨_, rfl⟩
  obtain ⟨x3, hx3⟩ : ∃ x, gv 2 b 9 = x := ⟨_, rfl⟩
  obtain ⟨e1, he1⟩ : ∃ x, ge 4 n 1 = x := ⟨_, rfl⟩
  obtain ⟨e2, he2⟩ : ∃ x, ge 4 n 5 = x := ⟨_, rfl⟩
  obtain ⟨e3, he3⟩ : ∃ x, ge 2 n 9 = x := ⟨_, rfl⟩
  rw [hx0] at hhead
  rw [he1] at hg1 hgy
  rw [he2] at hg2 hgy
  rw [he3] at hg3 hgy
  have hFE := Lib.hid (show fieldsI b = ((x0, x1, x2), x3, (b.drop 12).take (cutN b)) by rw [← hx0, ← hx1, ← hx2, ← hx3]; rfl)
  replace hx0 := Lib.hid hx0
  replace hx1 := Lib.hid hx1
  replace hx2 := Lib.hid hx2
  replace hx3 := Lib.hid hx3
  replace he1 := Lib.hid he1
  replace he2 := Lib.hid he2
  replace he3 := Lib.hid he3
  replace hg1 := Lib.hid hg1
  replace hg2 := Lib.hid hg2
  replace hg3 := Lib.hid hg3
  clear hB0 hs0 h hy hn hok0
  go_enter Tryz.func112, Tryz.ntmps112
  go_upto_region 1 with fail
  rw [hw0.out]
  clear hw0
  go_wp2_with fail
  with_reducible refine (getFour_any _ n c 1 b HL l1 m1 _ ((HY.out.below HB0.out).more HB0.out.size)).mono ?_
  rintro f1 w1 ⟨rfl, hb1⟩
  rw [he1.out, hx1.out]
  have B1 := Lib.hid (HB0.out.trans (hb1.mono HB0.out.size))
  have C1 := Lib.hid hb1
  clear hb1
  go_wp2_with fail
  with_reducible refine (getFour_any _ n c 5 b HL l1 m1 _ ((HY.out.below B1.out).more B1.out.size)).mono ?_
  rintro f2 w2 ⟨rfl, hb2⟩
  rw [he2.out, hx2.out]
  have B2 := Lib.hid (B1.out.trans (hb2.mono B1.out.size))
  have C2 := Lib.hid (C1.out.trans (hb2.mono C1.out.size))
  clear hb2
  go_wp2_with fail
  with_reducible refine (getTwo_any _ n c 9 b HL l1 m1 _ ((HY.out.below B2.out).more B2.out.size)).mono ?_
  rintro f3 w3 ⟨rfl, hb3⟩
  rw [he3.out, hx3.out]
  have B3 := Lib.hid (B2.out.trans (hb3.mono B2.out.size))
  have C3 := Lib.hid (C2.out.trans (hb3.mono C2.out.size))
  clear hb3
  go_wp2_with fail
  have hv3 : Hid (rBy ok w3 [.slice A n c] b) := Lib.hid (stab_by _ _ _ _ _ _ (fun p v hp hc => ⟨hp, (B3.out.cell (HO.out p hp)).trans hc⟩) HV.out)
  with_reducible refine (cut_any ok _ b _ hv3.out).mono ?_
  rintro f4 w4 ⟨u, rfl, hu, rfl⟩
  cases hok : okC b with
  | false =>
    have hq := Lib.hid (show cutE b = 8 by rw [hE.out, hok]; rfl)
    have hz := Lib.hid (show fldI b = zeroI by rw [hF.out, hok]; rfl)
    rw [hq.out]
    obtain ⟨w6, hw6, h6⟩ : ∃ w6, w3.alloc (.cells #[.int .i64 e1, .int .i64 e2, .int .i64 e3, .int .i64 8] 33) = w6 ∧ rInts (Old w6) w6 [.slice (some ⟨w3.heap.size, 0, none⟩) 4 4] [e1, e2, e3, 8] :=
      ⟨_, rfl, ints_lit w3 33 [e1, e2, e3, 8] _ rfl (by simp) (fun x hx => by
        simp at hx
        rcases hx with rfl | rfl | rfl | rfl
        · exact errs_in hg1.out
        · exact errs_in hg2.out
        · exact errs_in hg3.out
        · exact ⟨by decide, by decide⟩)⟩
    have b6 : Below w3.heap.size w3 w6 := by rw [← hw6]; exact (Below.refl _ _).alloc (Nat.le_refl _) _
    have B6 := Lib.hid (B3.out.trans (b6.mono B3.out.size))
    have C6 := Lib.hid (C3.out.trans (b6.mono C3.out.size))
    have hor := Lib.hid (orN_no hg1.out hg2.out hg3.out)
    replace h6 := Lib.hid h6
    replace hok := Lib.hid hok
    obtain ⟨_, _, rfl, _⟩ := id (rBy_open hu)
    clear b6 hu
    go_wp2_with fail
    with_reducible refine (or_any _ [e1, e2, e3, 8] _ h6.out).mono ?_
    rintro f7 w7 ⟨rfl, rfl⟩
    rw [hor.out]
    clear hw6
    have b9 := (C6.out.block w.heap.size lt0).trans b0.out
    obtain ⟨W9, hW9, g9, gr9, gs9⟩ := put_five (u0 := .int .u8 0) (u1 := .int .u32 0) (u2 := .int .u32 0) (u3 := .int .i64 0) (u4 := .slice none 0 0) b9
    obtain ⟨k0, k1, k2, k3, k4, _, _⟩ := five_cells g9
    obtain ⟨a0, a1, a2, a3, a4, af, _⟩ := five_cells b9
    have B9 := Lib.hid (B6.out.grown gr9 B6.out.size (fun q e => by cases e; omega))
    replace b9 := Lib.hid b9
    clear g9 gr9
    go_wp2_with fail
    exact bodyPost_ret (v := .tuple #[.agg #[.int .u8 0, .int .u32 0, .int .u32 0, .int .i64 0, .slice none 0 0], .int .i64 8]) (by simp [results, Tryz.results112, go_sem, k0, k1, k2, k3, k4]) rfl ⟨_, ret_two hq.out.symm, by rw [hz.out]; exact itm_zero _ _, B9.out⟩
  | true =>
    have hq := Lib.hid (show cutE b = 0 by rw [hE.out, hok]; rfl)
    have hz := Lib.hid (show fldI b = fieldsI b by rw [hF.out, hok]; rfl)
    have hv := Lib.hid (show cutV b = (b.drop 12).take (cutN b) by rw [hV.out, hok]; rfl)
    obtain ⟨rfl, rfl, rfl⟩ := hgy.out hok
    obtain ⟨ad, rfl, hold, hcell⟩ := hhead.out hok
    rw [hq.out]
    rw [hv.out] at hu
    obtain ⟨L, hL⟩ : ∃ L, (b.drop 12).take (cutN b) = L := ⟨_, rfl⟩
    rw [hL] at hu
    have hFL := hFE.out
    rw [hL] at hFL
    replace hFL := Lib.hid hFL
    replace hL := Lib.hid hL
    obtain ⟨w6, hw6, h6⟩ : ∃ w6, w3.alloc (.cells #[.int .i64 0, .int .i64 0, .int .i64 0, .int .i64 0] 33) = w6 ∧ rInts (Old w6) w6 [.slice (some ⟨w3.heap.size, 0, none⟩) 4 4] [0, 0, 0, 0] :=
      ⟨_, rfl, ints_lit w3 33 [0, 0, 0, 0] _ rfl (by simp) (fun x hx => by
        simp at hx
        subst hx
        exact ⟨by decide, by decide⟩)⟩
    have b6 : Below w3.heap.size w3 w6 := by rw [← hw6]; exact (Below.refl _ _).alloc (Nat.le_refl _) _
    have B6 := Lib.hid (B3.out.trans (b6.mono B3.out.size))
    have C6 := Lib.hid (C3.out.trans (b6.mono C3.out.size))
    have hor : Hid (orN [0, 0, 0, 0] = 0) := Lib.hid rfl
    have hu6 : Hid (rBy ok w6 _ L) := Lib.hid (stab_by _ _ _ _ _ _ (fun p v hp hc => ⟨hp, (b6.cell (Nat.lt_of_lt_of_le (HO.out p hp) B3.out.size)).trans hc⟩) hu)
    have hn0 := okC_yes hok
    have hnn : 0 < n := by have := HL.out; omega
    replace h6 := Lib.hid h6
    replace hok := Lib.hid hok
    obtain ⟨D, dc, rfl, _⟩ := id (rBy_open hu)
    clear b6 hu hn0
    go_wp2_with fail
    with_reducible refine (or_any _ [0, 0, 0, 0] _ h6.out).mono ?_
    rintro f7 w7 ⟨rfl, rfl⟩
    rw [hor.out]
    clear hw6
    have c0 := (B6.out.cell hold).trans hcell
    have b9 := (C6.out.block w.heap.size lt0).trans b0.out
    obtain ⟨W9, hW9, g9, gr9, gs9⟩ := put_five (u0 := .int .u8 (x0.toNat : Int)) (u1 := .int .u32 x1) (u2 := .int .u32 x2) (u3 := .int .i64 x3) (u4 := .slice D L.length dc) b9
    obtain ⟨k0, k1, k2, k3, k4, _, _⟩ := five_cells g9
    obtain ⟨a0, a1, a2, a3, a4, af, _⟩ := five_cells b9
    have B9 := Lib.hid (B6.out.grown gr9 B6.out.size (fun q e => by cases e; omega))
    have hfin : Hid (Itm ok W9 (.agg #[.int .u8 (x0.toNat : Int), .int .u32 x1, .int .u32 x2, .int .i64 x3, .slice D L.length dc]) (fldI b)) := Lib.hid (by
      have h2 := hin.out
      rw [hFL.out] at h2
      rw [hz.out, hFL.out]
      refine ⟨_, rfl, h2, stab_by _ _ _ _ _ _ (fun p v hp hc => ⟨hp, ?_⟩) hu6.out⟩
      have hb := gr9.block p.block (Nat.lt_of_lt_of_le (HO.out p hp) B6.out.size) (fun e => by have h1 := Option.some.inj e; have h2 : p.block < w.heap.size := HO.out p hp; omega)
      exact (World.cell?_of_block hb).trans hc)
    replace b9 := Lib.hid b9
    replace hold := Lib.hid hold
    clear g9 gr9 hcell
    go_wp2_with fail
    exact bodyPost_ret (v := .tuple #[.agg #[.int .u8 (x0.toNat : Int), .int .u32 x1, .int .u32 x2, .int .i64 x3, .slice D L.length dc], .int .i64 0]) (by simp [results, Tryz.results112, go_sem, k0, k1, k2, k3, k4]) rfl ⟨_, ret_two hq.out.symm, hfin.out, B9.out⟩

theorem bool_ways (b : Bool) : b = false ∨ b = true := by cases b <;> simp
theorem okR_fields {b : List UInt8} (h : okR b = true) : okC b = true ∧ mayI (fldI b) = true := by simpa [okR] using h

set_option maxRecDepth 100000 in
set_option maxHeartbeats 8000000 in
theorem itRead_any (v : Value) (b : List UInt8) (w : World) (h : rBy (Old w) w [v] b) :
    Calls Tryz.prog 88 #[v] w fun e w' => ∃ u, e = .returned (.tuple #[u, .int .i64 (itN b), .int .i64 (itE b)]) ∧ Itm (New w.heap.size w') w' u (itR b) ∧ Below w.heap.size w w' := by
  obtain ⟨A, c, rfl, _⟩ := id (rBy_open h)
  obtain ⟨n, hn⟩ : ∃ n, b.length = n := ⟨_, rfl⟩
  have hE : Hid (itE b = if okR b then 0 else 8) := Lib.hid rfl
  have hN : Hid (itN b = if okR b then (12 + cutN b : Int) else 0) := Lib.hid rfl
  have hR : Hid (itR b = if okR b then fieldsI b else zeroI) := Lib.hid rfl
  have hO : Hid (okR b = (okC b && mayI (fldI b))) := Lib.hid rfl
  obtain ⟨w0, hw0, _, _, _, _, _, hs0, hB0, b0⟩ := box_five w (.int .u8 0) (.int .u32 0) (.int .u32 0) (.int .i64 0) (.slice none 0 0) 52
  have lt0 : w.heap.size < w0.heap.size := by omega
  have HV : Hid (rBy (Old w) w0 [.slice A b.length c] b) := Lib.hid (stab_by _ _ _ _ _ _ (fun p v hp hc => ⟨hp, (hB0.cell hp).trans hc⟩) h)
  have HB0 := Lib.hid hB0
  replace b0 := Lib.hid b0
  replace hw0 := Lib.hid hw0
  rw [hn] at HV ⊢
  replace hn := Lib.hid hn
  clear hB0 hs0 h
  go_enter Tryz.func88, Tryz.ntmps88
  go_upto_region 1 with fail
  rw [hw0.out]
  clear hw0
  go_wp2_with fail
  with_reducible refine (fieldsI_any (Old w) _ b _ (fun p hp => Nat.lt_trans hp lt0) HV.out).mono ?_
  rintro f1 w1 ⟨u, rfl, hu, hb1⟩
  have B1 := Lib.hid (HB0.out.trans (hb1.mono HB0.out.size))
  have C1 := Lib.hid hb1
  have b1 := (hb1.block w.heap.size lt0).trans b0.out
  have lt1 : w.heap.size < w1.heap.size := Nat.lt_of_lt_of_le lt0 hb1.size
  have hF : Hid (fldI b = if okC b then fieldsI b else zeroI) := Lib.hid rfl
  obtain ⟨s, hs⟩ : ∃ s, fldI b = s := ⟨_, rfl⟩
  rw [hs] at hu hO hF
  replace hs := Lib.hid hs
  have hin := hu.open
  obtain ⟨D, dc, rfl, hin, d1, d2, hu2⟩ := hin
  obtain ⟨W2, hW2, g2, gr2, gs2⟩ := put_five (u0 := .int .u8 (s.1.1.toNat : Int)) (u1 := .int .u32 s.1.2.1) (u2 := .int .u32 s.1.2.2) (u3 := .int .i64 s.2.1) (u4 := .slice D s.2.2.length dc) b1
  obtain ⟨a0, a1, a2, a3, a4, af, _⟩ := five_cells b1
  obtain ⟨k0, k1, k2, k3, k4, kf, _⟩ := five_cells g2
  have B2 := Lib.hid (B1.out.grown gr2 B1.out.size (fun q e => by cases e; omega))
  have hu3 : Hid (Itm (Old w) W2 (itV s (.slice D s.2.2.length dc)) s) := Lib.hid (by
    refine ⟨_, rfl, hin, stab_by _ _ _ _ _ _ (fun p v hp hc => ⟨hp, ?_⟩) hu2⟩
    exact (World.cell?_of_block (gr2.block p.block (Nat.lt_trans hp lt1) (fun e => by have h1 := Option.some.inj e; have h2 : p.block < w.heap.size := hp; omega))).trans hc)
  have hfinB : ∀ (W : World), Below W2.heap.size W2 W → okR b = false → ∃ W9 : World, (((((W.setCell ⟨w.heap.size, 0, none⟩ (.int .u8 0)).setCell ⟨w.heap.size, 1, none⟩ (.int .u32 0)).setCell ⟨w.heap.size, 2, none⟩ (.int .u32 0)).setCell ⟨w.heap.size, 3, none⟩ (.int .i64 0)).setCell ⟨w.heap.size, 4, none⟩ (.slice none 0 0)) = W9 ∧
      W9.heap[w.heap.size]? = some (.cells #[.int .u8 0, .int .u32 0, .int .u32 0, .int .i64 0, .slice none 0 0] 52 (0, 0)) ∧ Hid (itE b = 8 ∧ itN b = 0 ∧ itR b = zeroI ∧ Below w.heap.size w W9) := fun W hW hno => by
    obtain ⟨W9, hW9, g9, gr9, gs9⟩ := put_five (u0 := .int .u8 0) (u1 := .int .u32 0) (u2 := .int .u32 0) (u3 := .int .i64 0) (u4 := .slice none 0 0) ((hW.block w.heap.size (by omega)).trans g2)
    have B := B2.out.trans (hW.mono B2.out.size)
    exact ⟨W9, hW9, g9, Lib.hid ⟨by rw [hE.out, hno]; rfl, by rw [hN.out, hno]; rfl, by rw [hR.out, hno]; rfl, B.grown gr9 B.size (fun q e => by cases e; omega)⟩⟩
  replace hfinB := Lib.hid hfinB
  replace b1 := Lib.hid b1
  replace g2 := Lib.hid g2
  replace gs2 := Lib.hid gs2
  replace gr2 := Lib.hid gr2
  clear hu hu2 hb1
  rcases bool_ways (okC b) with hok | hok
  · skip
    have hq := Lib.hid (show cutE b = 8 by simp [cutE, hok])
    have hno : okR b = false := by simp [okR, hok]
    obtain ⟨W9, hW9, g9, hz⟩ := hfinB.out W2 (Below.refl _ _) hno
    obtain ⟨m0, m1, m2, m3, m4, _, _⟩ := five_cells g9
    rw [hq.out]
    replace hok := Lib.hid hok
    replace hno := Lib.hid hno
    replace g9 := Lib.hid g9
    go_wp2_with fail
    exact bodyPost_ret (v := .tuple #[.agg #[.int .u8 0, .int .u32 0, .int .u32 0, .int .i64 0, .slice none 0 0], .int .i64 0, .int .i64 8]) (by simp [results, Tryz.results88, go_sem, m0, m1, m2, m3, m4]) rfl ⟨_, by rw [hz.out.1, hz.out.2.1], by rw [hz.out.2.2.1]; exact itm_zero _ _, hz.out.2.2.2⟩
  · skip
    have hq := Lib.hid (show cutE b = 0 by simp [cutE, hok])
    have hsf := Lib.hid (show s = fieldsI b by rw [hF.out, hok]; rfl)
    have hcl : s.2.2.length = cutN b := by rw [hsf.out]; exact fieldsI_length hok
    have hcn := cutN_lt b
    rw [hq.out]
    have hO2 := Lib.hid (show okR b = mayI s by rw [hO.out, hok]; rfl)
    replace hok := Lib.hid hok
    replace hcl := Lib.hid hcl
    go_wp2_with fail
    with_reducible refine (checkI_any _ s _ (hu3.out.map fun p v hp hc => ⟨Nat.lt_trans hp (by have := gs2.out; have := C1.out.size; omega), hc⟩)).mono ?_
    rintro f2 w3 ⟨rfl, hb3⟩
    have C3 := Lib.hid hb3
    have lt2 : w.heap.size < W2.heap.size := by have := gs2.out; omega
    have b3 := (hb3.block w.heap.size lt2).trans g2.out
    obtain ⟨q0, q1, q2, q3, q4, qf, _⟩ := five_cells b3
    clear k0 k1 k2 k3 k4 kf
    have B3 := Lib.hid (B2.out.trans (hb3.mono B2.out.size))
    rcases bool_ways (mayI s) with hm | hm
    · skip
      obtain ⟨W9, hW9, g9, hz⟩ := hfinB.out w3 C3.out (by rw [hO2.out, hm])
      obtain ⟨m0, m1, m2, m3, m4, _, _⟩ := five_cells g9
      have hck := Lib.hid (chkI_bad hm)
      rw [hck.out]
      replace hm := Lib.hid hm
      replace g9 := Lib.hid g9
      replace b3 := Lib.hid b3
      clear hb3
      go_wp2_with fail
      exact bodyPost_ret (v := .tuple #[.agg #[.int .u8 0, .int .u32 0, .int .u32 0, .int .i64 0, .slice none 0 0], .int .i64 0, .int .i64 8]) (by simp [results, Tryz.results88, go_sem, m0, m1, m2, m3, m4]) rfl ⟨_, by rw [hz.out.1, hz.out.2.1], by rw [hz.out.2.2.1]; exact itm_zero _ _, hz.out.2.2.2⟩
    · skip
      have hck := Lib.hid (chkI_ok hm)
      have hyes : okR b = true := by rw [hO2.out, hm]
      have hE9 := Lib.hid (show itE b = 0 by rw [hE.out, hyes]; rfl)
      have hN9 := Lib.hid (show itN b = 12 + s.2.2.length by rw [hN.out, hyes, hcl.out]; rfl)
      have hR9 := Lib.hid (show itR b = s by rw [hR.out, hyes, hsf.out]; rfl)
      have h12 : s.2.2.length ≤ 12 := (mayI_of hm).2
      have hu4 : Hid (Itm (Old w3) w3 (itV s (.slice D s.2.2.length dc)) s) := Lib.hid (hu3.out.map fun p v hp hc => by
        have h1 : p.block < W2.heap.size := Nat.lt_trans hp (by have := gs2.out; have := C1.out.size; omega)
        exact ⟨Nat.lt_of_lt_of_le h1 hb3.size, (hb3.cell h1).trans hc⟩)
      have lt3 : w.heap.size < w3.heap.size := Nat.lt_of_lt_of_le lt2 hb3.size
      rw [hck.out]
      replace hm := Lib.hid hm
      replace hyes := Lib.hid hyes
      replace b3 := Lib.hid b3
      clear hb3 a0 a1 a2 a3 a4 af
      go_wp2_with fail
      have HT : Hid (∀ W, Below w3.heap.size w3 W → Calls Tryz.prog 113 #[itV s (.slice D s.2.2.length dc)] W fun e w' => ∃ X xc, e = .returned (itV s (.slice X s.2.2.length xc)) ∧ Itm (New w3.heap.size w') w' (itV s (.slice X s.2.2.length xc)) s ∧ Below w3.heap.size w3 w') := Lib.hid fun W hC => by
        refine (twinI_any _ s W (by omega) (hu4.out.below hC)).mono ?_
        rintro e W' ⟨x, rfl, hx, hb⟩
        obtain ⟨X, xc, rfl, _⟩ := id hx.open
        exact ⟨X, xc, rfl, hx.map fun p v hp hc => ⟨⟨Nat.le_trans hC.size hp.1, hp.2⟩, hc⟩, hC.trans (hb.mono hC.size)⟩
      have hdr : Below w3.heap.size w3 w3.drew := (Below.refl _ _).drew
      have hwr : IntKind.i64.wrap (12 + (s.2.2.length : Int)) = 12 + s.2.2.length := by rw [IntKind.wrap_i64]; omega
      go_region_with (first
        | (go_at_call 113; refine (HT.out _ hdr).mono ?_; rintro e' wm ⟨X, xc, rfl, hx, hw⟩; have bW := (hw.block w.heap.size lt3).trans b3.out; obtain ⟨c0, c1, c2, c3, c4, cf, _⟩ := five_cells bW))
      all_goals
        (go_wp2_with fail
         obtain ⟨W9, hW9, g9, gr9, gs9⟩ := put_five (u0 := .int .u8 (s.1.1.toNat : Int)) (u1 := .int .u32 s.1.2.1) (u2 := .int .u32 s.1.2.2) (u3 := .int .i64 s.2.1) (u4 := .slice X s.2.2.length xc) bW
         obtain ⟨m0, m1, m2, m3, m4, _, _⟩ := five_cells g9
         rw [hW9]
         have BW := B3.out.trans (hw.mono B3.out.size)
         exact bodyPost_ret (v := .tuple #[.agg #[.int .u8 (s.1.1.toNat : Int), .int .u32 s.1.2.1, .int .u32 s.1.2.2, .int .i64 s.2.1, .slice X s.2.2.length xc], .int .i64 (12 + s.2.2.length), .int .i64 0]) (by simp [results, Tryz.results88, go_sem, m0, m1, m2, m3, m4]) rfl ⟨_, by rw [hE9.out, hN9.out], by
           rw [hR9.out]
           exact (hx.grown gr9 (fun q e => by cases e; omega)).map fun p v hp hc => ⟨⟨Nat.le_trans B3.out.size hp.1, hp.2⟩, hc⟩, BW.grown gr9 BW.size (fun q e => by cases e; omega)⟩)
end Go.Proofs.YtdaidhbmfocodaaGreat

/-
  The document's answers of layer 5: Read. Conditions: those that each lemma states.
-/
namespace Go.Proofs.YtdaidhbmfocodaaGreat
open Go.RowKit

set_option maxRecDepth 100000 in
set_option maxHeartbeats 8000000 in
theorem refReadI_any (v : Value) (b : List UInt8) (w : World) (h : rBy (Old w) w [v] b) :
    Calls Tryz.prog 105 #[v] w fun e w' => ∃ u, e = .returned (.tuple #[u, .int .i64 (itN b), .int .i64 (itE b)]) ∧ Itm (New w.heap.size w') w' u (itR b) ∧ Below w.heap.size w w' := by
  obtain ⟨A, c, rfl, l1, m1, hy⟩ := rBy_byt (B := w.heap.size) (fun p hp => hp) h
  obtain ⟨n, hn⟩ : ∃ n, b.length = n := ⟨_, rfl⟩
  have hE : Hid (itE b = if okR b then 0 else 8) := Lib.hid rfl
  have hN : Hid (itN b = if okR b then (12 + cutN b : Int) else 0) := Lib.hid rfl
  have hR : Hid (itR b = if okR b then fieldsI b else zeroI) := Lib.hid rfl
  obtain ⟨w0, hw0, _, _, _, _, _, hs0, hB0, b0⟩ := box_five w (.int .u8 0) (.int .u32 0) (.int .u32 0) (.int .i64 0) (.slice none 0 0) 52
  have lt0 : w.heap.size < w0.heap.size := by omega
  have hbad : okR b = false → ∃ u, Ending.returned (Value.tuple #[.agg #[.int .u8 0, .int .u32 0, .int .u32 0, .int .i64 0, .slice none 0 0], .int .i64 0, .int .i64 8]) = Ending.returned (Value.tuple #[u, .int .i64 (itN b), .int .i64 (itE b)]) ∧ ∀ (ok : Addr → Prop) (W : World), Itm ok W u (itR b) := fun hno =>
    ⟨_, by rw [hE.out, hN.out, hno]; rfl, fun ok W => by rw [hR.out, hno]; exact itm_zero _ _⟩
  replace hbad := Lib.hid hbad
  have HB0 := Lib.hid hB0
  have hcn := cutN_lt b
  rcases bool_ways (okC b) with hok | hok
  · have hno := okC_no hok
    obtain ⟨u, hu1, hu2⟩ := hbad.out (by simp [okR, hok])
    obtain ⟨W9, hW9, g9, gr9, gs9⟩ := put_five (u0 := .int .u8 0) (u1 := .int .u32 0) (u2 := .int .u32 0) (u3 := .int .i64 0) (u4 := .slice none 0 0) b0
    obtain ⟨k0, k1, k2, k3, k4, _, _⟩ := five_cells g9
    obtain ⟨a0, a1, a2, a3, a4, af, _⟩ := five_cells b0
    have B9 := Lib.hid (HB0.out.grown gr9 HB0.out.size (fun q e => by cases e; omega))
    replace g9 := Lib.hid g9
    replace b0 := Lib.hid b0
    replace hu1 := Lib.hid hu1
    replace hu2 := Lib.hid hu2
    replace hw0 := Lib.hid hw0
    by_cases h12 : n < 12
    · have i1 : (n : Int) < 12 := by omega
      rw [hn] at l1 ⊢
      clear hok hno hn hy h hB0 hs0 gr9 gs9
      go_enter Tryz.func105, Tryz.ntmps105
      go_upto_region 1 with fail
      rw [hw0.out]
      clear hw0
      go_wp2_with fail
      exact bodyPost_ret (v := .tuple #[.agg #[.int .u8 0, .int .u32 0, .int .u32 0, .int .i64 0, .slice none 0 0], .int .i64 0, .int .i64 8]) (by simp [results, Tryz.results105, go_sem, k0, k1, k2, k3, k4]) rfl ⟨u, hu1.out, hu2.out _ _, B9.out⟩
    · obtain ⟨ad, rfl, hb, hc⟩ := hy (by omega)
      have h11 : w0.cell? ⟨ad.block, ad.off + 11, none⟩ = some (.int .u8 (cutN b : Int)) := by
        have := (hB0.cell (p := ad.add 11) (by rw [add_block]; exact hb)).trans (hc 11 (by omega))
        simpa [Addr.add, cutN] using this
      obtain ⟨k, hk⟩ : ∃ k, cutN b = k := ⟨_, rfl⟩
      rw [hk] at h11 hno hcn
      rw [hn] at l1 hno ⊢
      have i1 : ¬ (n : Int) < 12 := by omega
      have i2 : (n : Int) - 12 < k := by omega
      clear hok hno hn hy h hc hk hB0 hs0 gr9 gs9
      go_enter Tryz.func105, Tryz.ntmps105
      go_upto_region 1 with fail
      rw [hw0.out]
      clear hw0
      go_wp2_with fail
      exact bodyPost_ret (v := .tuple #[.agg #[.int .u8 0, .int .u32 0, .int .u32 0, .int .i64 0, .slice none 0 0], .int .i64 0, .int .i64 8]) (by simp [results, Tryz.results105, go_sem, k0, k1, k2, k3, k4]) rfl ⟨u, hu1.out, hu2.out _ _, B9.out⟩
  have hyes := okC_yes hok
  obtain ⟨ad, rfl, hb, hc⟩ := hy (by omega)
  have h11 : w0.cell? ⟨ad.block, ad.off + 11, none⟩ = some (.int .u8 (cutN b : Int)) := by
    have := (hB0.cell (p := ad.add 11) (by rw [add_block]; exact hb)).trans (hc 11 (by omega))
    simpa [Addr.add, cutN] using this
  have h00 : w0.cell? ad = some (.int .u8 ((b[0]?.getD 0).toNat : Int)) := by
    have := (hB0.cell (p := ad) hb).trans (by simpa [Addr.add] using hc 0 (by omega))
    exact this
  have hin := Lib.hid (inI_fields b)
  obtain ⟨k, hk⟩ : ∃ k, cutN b = k := ⟨_, rfl⟩
  obtain ⟨x0, hx0⟩ : ∃ x : Int, ((b[0]?.getD 0).toNat : Int) = x := ⟨_, rfl⟩
  obtain ⟨x1, hx1⟩ : ∃ x, gv 4 b 1 = x := ⟨_, rfl⟩
  obtain ⟨x2, hx2⟩ : ∃ x, gv 4 b 5 = x := ⟨_, rfl⟩
  obtain ⟨x3, hx3⟩ : ∃ x, gv 2 b 9 = x := ⟨_, rfl⟩
  obtain ⟨L, hL⟩ : ∃ L, (b.drop 12).take k = L := ⟨_, rfl⟩
  have hF := Lib.hid (show fieldsI b = ((b[0]?.getD 0, x1, x2), x3, L) by rw [← hx1, ← hx2, ← hx3, ← hL, ← hk]; rfl)
  rw [hx0] at h00
  rw [hk] at h11 hyes hcn
  rw [hn] at l1 hyes ⊢
  have e1 := Lib.hid (show ge 4 n 1 = 0 from ge_yes (by omega))
  have e2 := Lib.hid (show ge 4 n 5 = 0 from ge_yes (by omega))
  have e3 := Lib.hid (show ge 2 n 9 = 0 from ge_yes (by omega))
  have i1 : ¬ (n : Int) < 12 := by omega
  have i2 : ¬ (n : Int) - 12 < k := by omega
  have i3 : 0 < n := by omega
  have HL := Lib.hid hn
  have HY := Lib.hid hy
  have HV := Lib.hid h
  have hOK : Hid (okR b = mayI (fieldsI b)) := Lib.hid (by simp [okR, hok, fldI])
  replace hok := Lib.hid hok
  replace hx0 := Lib.hid hx0
  replace hx1 := Lib.hid hx1
  replace hx2 := Lib.hid hx2
  replace hx3 := Lib.hid hx3
  replace hk := Lib.hid hk
  replace hL := Lib.hid hL
  replace hw0 := Lib.hid hw0
  replace b0 := Lib.hid b0
  obtain ⟨w2, hw2, _, _, _, _, _, hs2, hB2, b2⟩ := box_five w0 (.int .u8 x0) (.int .u32 0) (.int .u32 0) (.int .i64 0) (.slice none 0 0) 52
  have lt2 : w0.heap.size < w2.heap.size := by omega
  have C2 := Lib.hid hB2
  have B2 := Lib.hid (HB0.out.trans (hB2.mono HB0.out.size))
  replace hw2 := Lib.hid hw2
  clear hs0 hs2 hB0 hB2 h hy hc hn
  go_enter Tryz.func105, Tryz.ntmps105
  go_upto_region 1 with fail
  rw [hw0.out]
  clear hw0
  go_upto_region 4 with fail
  rw [hw2.out]
  clear hw2
  go_wp2_with fail
  with_reducible refine (getFour_refB (some ad) n c 1 b HL l1 m1 _ ((HY.out.below B2.out).more B2.out.size)).mono ?_
  rintro f3 w3 ⟨rfl, hb3⟩
  rw [e1.out, hx1.out]
  have b3 := (hb3.block w0.heap.size lt2).trans b2
  obtain ⟨w4, hw4, b4, gr4, gs4⟩ := put5_1 b3 (.int .u32 x1)
  obtain ⟨_, z3, _, _, _, zf, _⟩ := five_cells b3
  have C4 := Lib.hid ((C2.out.trans (hb3.mono C2.out.size)).grown gr4 (Nat.le_trans C2.out.size hb3.size) (fun q e => by cases e; omega))
  have lt4 : w0.heap.size < w4.heap.size := by have := hb3.size; omega
  clear hb3 gr4
  replace gs4 := Lib.hid gs4
  replace b3 := Lib.hid b3
  replace b4 := Lib.hid b4
  go_upto_region 5 with fail
  clear hw4 z3 zf b2 b3
  go_wp2_with fail
  with_reducible refine (getFour_refB (some ad) n c 5 b HL l1 m1 _ ((HY.out.below (HB0.out.trans (C4.out.mono HB0.out.size))).more (Nat.le_trans HB0.out.size C4.out.size))).mono ?_
  rintro f5 w5 ⟨rfl, hb5⟩
  rw [e2.out, hx2.out]
  have b5 := (hb5.block w0.heap.size lt4).trans b4.out
  obtain ⟨w6, hw6, b6, gr6, gs6⟩ := put5_2 b5 (.int .u32 x2)
  obtain ⟨_, _, z3, _, _, zf, _⟩ := five_cells b5
  have C6 := Lib.hid ((C4.out.trans (hb5.mono C4.out.size)).grown gr6 (Nat.le_trans C4.out.size hb5.size) (fun q e => by cases e; omega))
  have lt6 : w0.heap.size < w6.heap.size := by have := hb5.size; omega
  clear hb5 gr6
  replace gs6 := Lib.hid gs6
  replace b5 := Lib.hid b5
  replace b6 := Lib.hid b6
  go_upto_region 6 with fail
  clear hw6 z3 zf b4 b5
  go_wp2_with fail
  with_reducible refine (getTwo_refB (some ad) n c 9 b HL l1 m1 _ ((HY.out.below (HB0.out.trans (C6.out.mono HB0.out.size))).more (Nat.le_trans HB0.out.size C6.out.size))).mono ?_
  rintro f7 w7 ⟨rfl, hb7⟩
  rw [e3.out, hx3.out]
  have b7 := (hb7.block w0.heap.size lt6).trans b6.out
  obtain ⟨w8, hw8, b8, gr8, gs8⟩ := put5_3 b7 (.int .i64 x3)
  obtain ⟨_, _, _, z3, _, zf, _⟩ := five_cells b7
  have C8 := Lib.hid ((C6.out.trans (hb7.mono C6.out.size)).grown gr8 (Nat.le_trans C6.out.size hb7.size) (fun q e => by cases e; omega))
  have lt8 : w0.heap.size < w8.heap.size := by have := hb7.size; omega
  clear hb7 gr8
  replace gs8 := Lib.hid gs8
  replace b7 := Lib.hid b7
  replace b8 := Lib.hid b8
  have B8 := Lib.hid (HB0.out.trans (C8.out.mono HB0.out.size))
  have h8 : w8.cell? ⟨ad.block, ad.off + 11, none⟩ = some (.int .u8 (k : Int)) := (C8.out.cell (p := ⟨ad.block, ad.off + 11, none⟩) (Nat.lt_of_lt_of_le hb HB0.out.size)).trans h11
  go_upto_region 8 with fail
  clear hw8 z3 zf b6 b7
  obtain ⟨z0, z1, z2, z3, z4, zf, _⟩ := five_cells b8.out
  have hV8 := Lib.hid (stab_by.old HV.out B8.out)
  have hLl : Hid (L.length = k) := Lib.hid (by rw [← hL.out, List.length_take, List.length_drop, HL.out]; omega)
  have hsl : Hid (∀ W, Below w8.heap.size w8 W → rBy (Old W) W [.slice (some ⟨ad.block, ad.off + 12, none⟩) k (c - 12)] L) := Lib.hid fun W hW => by
    have h1 := rBy_part (stab_by.old hV8.out hW) 12 k (c - 12) (by rw [HL.out]; omega) (by omega) (by omega)
    rw [hL.out] at h1
    rwa [show ad.add 12 = ⟨ad.block, ad.off + 12, none⟩ by simp [Addr.add]] at h1
  have hsl0 : Hid (c = 12 → ∀ W, rBy (Old W) W [.slice (some ad) 0 0] L) := Lib.hid fun hc W => by
    have : L = [] := List.eq_nil_of_length_eq_zero (by rw [hLl.out]; omega)
    rw [this]
    exact rBy_part0 _ _ _
  replace b8 := Lib.hid b8.out
  refine wp_region_tails (by kernel_rfl) 6 (fun W => Below w8.heap.size w8 W) (fun i => match i with
      | 4 => some (fun v W => rBy (Old W) W [v] L)
      | 5 => some (fun v W => rBy (New w8.heap.size W) W [v] L)
      | _ => none) (fun _ => none) (by decide) (by kernel_rfl) (by kernel_rfl) (Below.refl _ _).drew (fun w w' h hb => h.trans (hb.mono h.size)) ?tst ?_
  case tst =>
    intro j φ x W W' hp hx hb
    match j, hp with
    | 4, hp => cases hp; exact stab_by.old hx hb
    | 5, hp => cases hp; exact stab_by.new hx (Nat.le_refl _) hb
  simp only [List.take_succ_cons, List.take_zero, List.drop_succ_cons, List.drop_zero]
  repeat (first
    | (refine wpAs_skip rfl ?_; simp only [Act.put, List.setIfInBounds_toArray, List.set_cons_zero, List.set_cons_succ])
    | (refine wpAs_pure (v := ?_) rfl rfl ?_ ?_; rotate_left; (intro W hC hE; clear hE; (have y4 := (hC.cell (p := ⟨w0.heap.size, 4, none⟩) lt8).trans z4); clear hC; go_simp; done); simp only [Act.put, List.setIfInBounds_toArray, List.set_cons_zero, List.set_cons_succ])
    | (refine wpAs_pure (v := ?_) rfl rfl ?_ ?_; rotate_left; (intro W hC hE; clear hE; (have y4 := (hC.cell (p := ⟨w0.heap.size, 4, none⟩) lt8).trans z4); clear hC; go_simp; with_reducible rfl); simp only [Act.put, List.setIfInBounds_toArray, List.set_cons_zero, List.set_cons_succ]))
  refine wpAs_act rfl rfl ?_ ?_
  · intro W hC hE
    clear hE
    have h1 := Lib.hid (hsl.out W hC)
    clear hC
    by_cases hc12 : c = 12
    · have h2 := Lib.hid (hsl0.out hc12 W)
      have hk0 : k = 0 := by omega
      subst hc12
      subst hk0
      go_simp
      exact ⟨h2.out, Below.refl _ _⟩
    · go_simp
      rw [if_pos (by omega), if_pos (by omega), show (12 + (k : Int)).toNat - 12 = k by omega]
      exact ⟨h1.out, Below.refl _ _⟩
  simp only [Act.put, List.setIfInBounds_toArray, List.set_cons_zero, List.set_cons_succ, envAdd]
  intro x55
  refine wpAs_act rfl rfl ?_ ?_
  · intro W hC hE
    have hx := hE.1 rfl
    obtain ⟨u, W', hr, hu, hb⟩ := app_copy x55 L W (by rw [hLl.out]; omega) hx
    exact does_append _ _ _ rfl rfl rfl hr ⟨stab_by.mono hu hC.size, hb⟩
  simp only [Act.put, List.setIfInBounds_toArray, List.set_cons_zero, List.set_cons_succ, envAdd]
  intro x56
  refine wpAs_end fun W hC hE => ?_
  have hx := hE.1
  clear hE
  have B9 := Lib.hid (B8.out.trans (hC.mono B8.out.size))
  have b9 := (hC.block w0.heap.size lt8).trans b8.out
  have C9 := Lib.hid (C8.out.trans (hC.mono C8.out.size))
  have b0' := (C9.out.block w.heap.size lt0).trans b0.out
  have hx' := Lib.hid hx
  obtain ⟨X, xc, rfl, _⟩ := id (rBy_open hx)
  clear hx
  obtain ⟨W5, hW5, g5, gr5, gs5⟩ := put5_4 b9 (.slice X L.length xc)
  obtain ⟨_, _, _, _, y4, yf, _⟩ := five_cells b9
  clear z0 z1 z2 z3 z4 zf
  obtain ⟨z0, z1, z2, z3, z4, zf, lt5⟩ := five_cells g5
  have bR := Lib.hid ((gr5.block w.heap.size (Nat.lt_of_lt_of_le lt0 C9.out.size) (fun e => by have := Option.some.inj e; omega)).trans b0')
  have B5 := Lib.hid (B9.out.grown gr5 B9.out.size (fun q e => by cases e; omega))
  have HI : Hid (Itm (New w0.heap.size W5) W5 (.agg #[.int .u8 x0, .int .u32 x1, .int .u32 x2, .int .i64 x3, .slice X L.length xc]) (fieldsI b)) := Lib.hid (by
    have h1 := stab_by.grown hx'.out gr5 (fun q e => by cases e; exact lt8)
    have h2 := hin.out
    rw [hF.out] at h2
    rw [hF.out, ← hx0.out]
    exact ⟨_, rfl, h2, stab_by.mono h1 (Nat.le_of_lt lt8)⟩)
  replace b9 := Lib.hid b9
  replace g5 := Lib.hid g5
  clear gr5 hC b0'
  go_wp2_with fail
  with_reducible refine (refMayI_any _ (fieldsI b) _ HI.out.drop).mono ?_
  rintro f6 w6 ⟨rfl, hb6⟩
  have B6 := Lib.hid (B5.out.trans (hb6.mono B5.out.size))
  have lt5' : w.heap.size < W5.heap.size := Nat.lt_trans lt0 lt5
  have b6 := (hb6.block w.heap.size lt5').trans bR.out
  have p0 := (hb6.cell (p := ⟨w0.heap.size, 0, none⟩) lt5).trans z0
  have p1 := (hb6.cell (p := ⟨w0.heap.size, 1, none⟩) lt5).trans z1
  have p2 := (hb6.cell (p := ⟨w0.heap.size, 2, none⟩) lt5).trans z2
  have p3 := (hb6.cell (p := ⟨w0.heap.size, 3, none⟩) lt5).trans z3
  have p4 := (hb6.cell (p := ⟨w0.heap.size, 4, none⟩) lt5).trans z4
  obtain ⟨a0, a1, a2, a3, a4, af, _⟩ := five_cells b6
  replace HI := Lib.hid (HI.out.new (Nat.le_refl _) hb6)
  clear z0 z1 z2 z3 z4 zf y4 yf hW5 hb6
  rcases bool_ways (mayI (fieldsI b)) with hm | hm
  · obtain ⟨u, hu1, hu2⟩ := hbad.out (by rw [hOK.out, hm])
    obtain ⟨W9, hW9, g9, gr9, gs9⟩ := put_five (u0 := .int .u8 0) (u1 := .int .u32 0) (u2 := .int .u32 0) (u3 := .int .i64 0) (u4 := .slice none 0 0) b6
    obtain ⟨m0, m1, m2, m3, m4, _, _⟩ := five_cells g9
    have BF := Lib.hid (B6.out.grown gr9 B6.out.size (fun q e => by cases e; omega))
    rw [hm]
    replace hm := Lib.hid hm
    replace g9 := Lib.hid g9
    replace b6 := Lib.hid b6
    replace hu1 := Lib.hid hu1
    replace hu2 := Lib.hid hu2
    clear gr9
    go_wp2_with fail
    exact bodyPost_ret (v := .tuple #[.agg #[.int .u8 0, .int .u32 0, .int .u32 0, .int .i64 0, .slice none 0 0], .int .i64 0, .int .i64 8]) (by simp [results, Tryz.results105, go_sem, m0, m1, m2, m3, m4]) rfl ⟨u, hu1.out, hu2.out _ _, BF.out⟩
  · have hyes : okR b = true := by rw [hOK.out, hm]
    have hE9 := Lib.hid (show itE b = 0 by rw [hE.out, hyes]; rfl)
    have hN9 := Lib.hid (show itN b = 12 + k by rw [hN.out, hyes, hk.out]; rfl)
    have hR9 := Lib.hid (show itR b = fieldsI b by rw [hR.out, hyes]; rfl)
    obtain ⟨W9, hW9, g9, gr9, gs9⟩ := put_five (u0 := .int .u8 x0) (u1 := .int .u32 x1) (u2 := .int .u32 x2) (u3 := .int .i64 x3) (u4 := .slice X L.length xc) b6
    obtain ⟨m0, m1, m2, m3, m4, _, _⟩ := five_cells g9
    have BF := Lib.hid (B6.out.grown gr9 B6.out.size (fun q e => by cases e; omega))
    have hfin : Hid (Itm (New w.heap.size W9) W9 (.agg #[.int .u8 x0, .int .u32 x1, .int .u32 x2, .int .i64 x3, .slice X L.length xc]) (itR b)) := Lib.hid (by
      rw [hR9.out]
      exact (HI.out.grown gr9 (fun q e => by cases e; exact lt0)).map fun p v hp hc => ⟨⟨Nat.le_trans (Nat.le_of_lt lt0) hp.1, hp.2⟩, hc⟩)
    rw [hm]
    replace hm := Lib.hid hm
    replace g9 := Lib.hid g9
    replace b6 := Lib.hid b6
    replace hyes := Lib.hid hyes
    clear gr9
    go_wp2_with fail
    exact bodyPost_ret (v := .tuple #[.agg #[.int .u8 x0, .int .u32 x1, .int .u32 x2, .int .i64 x3, .slice X L.length xc], .int .i64 (12 + k), .int .i64 0]) (by simp [results, Tryz.results105, go_sem, m0, m1, m2, m3, m4]) rfl ⟨_, by rw [hE9.out, hN9.out], hfin.out, BF.out⟩
end Go.Proofs.YtdaidhbmfocodaaGreat

/-
  Layer 5's law helpers: key, alive. What bytes and items tell of one another, plain. Conditions: those that each lemma states.
-/
namespace Go.Proofs.YtdaidhbmfocodaaGreat
open Go.RowKit

/-! ### Plain: items and their bytes -/
theorem le_gv (m : Nat) (b : List UInt8) (k : Nat) (h : k + m ≤ b.length) : le m (gv m b k) = (b.drop k).take m := by
  rw [gv_yes (k := (k : Int)) ⟨by omega, by omega⟩, show (k : Int).toNat = k by omega]
  have hl : ((b.drop k).take m).length = m := by simp; omega
  have := le_num ((b.drop k).take m)
  rwa [hl] at this
theorem one_at (b : List UInt8) (k : Nat) (h : k < b.length) : (b.drop k).take 1 = [b[k]?.getD 0] := by
  rw [List.drop_eq_getElem_cons h, List.getElem?_eq_getElem h]
  rfl
theorem read_itB {b : List UInt8} (h : okR b = true) : ∃ n : Nat, itN b = n ∧ n ≤ b.length ∧ mayI (itR b) = true ∧ itB (itR b) = b.take n := by
  obtain ⟨h1, h2⟩ := okR_fields h
  have h3 := okC_yes h1
  have hR : itR b = fieldsI b := by rw [itR, h, if_pos rfl]
  have hf : fldI b = fieldsI b := by rw [fldI, h1, if_pos rfl]
  rw [hf] at h2
  refine ⟨12 + cutN b, by rw [itN, h, if_pos rfl]; simp, h3, by rw [hR]; exact h2, ?_⟩
  rw [hR]
  have l0 := one_at b 0 (by omega)
  rw [List.drop_zero] at l0
  have l1 := one_at b 11 (by omega)
  have hlen : ((b.drop 12).take (cutN b)).length = cutN b := by simp; omega
  have hc : UInt8.ofNat (cutN b) = b[11]?.getD 0 := by unfold cutN; simp
  have g1 := le_gv 4 b 1 (by omega)
  have g2 := le_gv 4 b 5 (by omega)
  have g3 := le_gv 2 b 9 (by omega)
  have ht : b.take (12 + cutN b) = b.take 1 ++ ((b.drop 1).take 4 ++ ((b.drop 5).take 4 ++ ((b.drop 9).take 2 ++ ((b.drop 11).take 1 ++ (b.drop 12).take (cutN b))))) := by
    have q : ∀ (j m n : Nat), (b.drop j).take m ++ (b.drop (j + m)).take n = (b.drop j).take (m + n) := fun j m n => by
      rw [← List.drop_drop, List.take_add]
    rw [q 11 1, q 9 2, q 5 4, q 1 4]
    have := q 0 1 (4 + (4 + (2 + (1 + cutN b))))
    rw [List.drop_zero, Nat.zero_add] at this
    rw [this]
    congr 1
    omega
  rw [ht, l0, l1]
  unfold itB fieldsI
  dsimp only
  rw [hlen, hc]
  have c1 : ((1 : Nat) : Int) = 1 := rfl
  have c5 : ((5 : Nat) : Int) = 5 := rfl
  have c9 : ((9 : Nat) : Int) = 9 := rfl
  rw [c1] at g1
  rw [c5] at g2
  rw [c9] at g3
  rw [g1, g2, g3]
/-! ### key, alive -/
end Go.Proofs.YtdaidhbmfocodaaGreat

/-
  A bag's facts on items and keys. Conditions: those that each lemma states.
-/
namespace Go.Proofs.YtdaidhbmfocodaaGreat
open Go.RowKit

/-- Three cells that are a box. -/
def Box3 (g : Nat) (a b c : Value) : World → Prop := fun w => w.cell? ⟨g, 0, none⟩ = some a ∧ w.cell? ⟨g, 1, none⟩ = some b ∧ w.cell? ⟨g, 2, none⟩ = some c ∧ g < w.heap.size
theorem lasts_box3 (g : Nat) (a b c : Value) : Lasts (Box3 g a b c) := fun _ _ h hb => ⟨(hb.cell (p := ⟨g, 0, none⟩) h.2.2.2).trans h.1, (hb.cell (p := ⟨g, 1, none⟩) h.2.2.2).trans h.2.1, (hb.cell (p := ⟨g, 2, none⟩) h.2.2.2).trans h.2.2.1, Nat.lt_of_lt_of_le h.2.2.2 hb.size⟩
theorem bag_key {w w1 : World} {Fs : List (World → Prop)} (h : Bag w Fs) (hb : Below w.heap.size w w1) (a b c : Value) : ∃ w', w1.alloc (.cells #[a, b, c] 38) = w' ∧ Bag w' (Box3 w1.heap.size a b c :: Fs) ∧ Below w.heap.size w w' ∧ Below w1.heap.size w1 w' ∧ w1.heap.size < w'.heap.size := by
  obtain ⟨w2, e2, k1, k2, k3, k4, k5, _⟩ := box_three w1 a b c 38
  exact ⟨w2, e2, ((h.below hb).below k5).add ⟨k1, k2, k3, by omega⟩ (lasts_box3 _ _ _ _), hb.trans (k5.mono hb.size), k5, by omega⟩
theorem bag_item {w w1 : World} {Fs : List (World → Prop)} (h : Bag w Fs) (hb : Below w.heap.size w w1) (a b c d e : Value) : ∃ w', w1.alloc (.cells #[a, b, c, d, e] 52) = w' ∧ Bag w' (Box5 w1.heap.size a b c d e :: Fs) ∧ Below w.heap.size w w' ∧ Below w1.heap.size w1 w' ∧ w1.heap.size < w'.heap.size := by
  obtain ⟨w2, e2, k1, k2, k3, k4, k5, k6, k7, _⟩ := box_five w1 a b c d e 52
  exact ⟨w2, e2, ((h.below hb).below k7).add ⟨k1, k2, k3, k4, k5, by omega⟩ (lasts_box5 _ _ _ _ _ _), hb.trans (k7.mono hb.size), k7, by omega⟩
/-! ### How keys stand -/
theorem less_self (a : Ky) : lessK a a = false := by simp [lessK]
theorem less_anti {a b : Ky} (h : lessK a b = true) : lessK b a = false := by
  unfold lessK at *
  by_cases h1 : a.1.toNat = b.1.toNat
  · rw [if_neg (by simpa using h1)] at h
    rw [if_neg (by simpa using h1.symm)]
    by_cases h2 : a.2.1 = b.2.1
    · rw [if_neg (by simpa using h2)] at h
      rw [if_neg (by simpa using h2.symm)]
      simp at h ⊢
      omega
    · rw [if_pos h2] at h
      rw [if_pos (fun e => h2 e.symm)]
      simp at h ⊢
      omega
  · rw [if_pos h1] at h
    rw [if_pos (fun e => h1 e.symm)]
    simp at h ⊢
    omega
theorem less_total {a b : Ky} (h : a ≠ b) (h' : lessK a b = false) : lessK b a = true := by
  unfold lessK at *
  by_cases h1 : a.1.toNat = b.1.toNat
  · rw [if_neg (by simpa using h1)] at h'
    rw [if_neg (by simpa using h1.symm)]
    by_cases h2 : a.2.1 = b.2.1
    · rw [if_neg (by simpa using h2)] at h'
      rw [if_neg (by simpa using h2.symm)]
      have h3 : a.2.2 ≠ b.2.2 := fun e => h (Prod.ext (UInt8.toNat.inj h1) (Prod.ext h2 e))
      simp at h' ⊢
      omega
    · rw [if_pos h2] at h'
      rw [if_pos (fun e => h2 e.symm)]
      simp at h' ⊢
      omega
  · rw [if_pos h1] at h'
    rw [if_pos (fun e => h1 e.symm)]
    simp at h' ⊢
    omega
theorem less_cases {a b : Ky} (h : lessK a b = true) : a.1.toNat < b.1.toNat ∨ (a.1.toNat = b.1.toNat ∧ (a.2.1 < b.2.1 ∨ (a.2.1 = b.2.1 ∧ a.2.2 < b.2.2))) := by
  unfold lessK at h
  by_cases h1 : a.1.toNat = b.1.toNat
  · rw [if_neg (by simpa using h1)] at h
    by_cases h2 : a.2.1 = b.2.1
    · rw [if_neg (by simpa using h2)] at h
      exact Or.inr ⟨h1, Or.inr ⟨h2, by simpa using h⟩⟩
    · rw [if_pos h2] at h
      exact Or.inr ⟨h1, Or.inl (by simpa using h)⟩
  · rw [if_pos h1] at h
    exact Or.inl (by simpa using h)
theorem less_of {a b : Ky} (h : a.1.toNat < b.1.toNat ∨ (a.1.toNat = b.1.toNat ∧ (a.2.1 < b.2.1 ∨ (a.2.1 = b.2.1 ∧ a.2.2 < b.2.2)))) : lessK a b = true := by
  cases e : lessK a b with
  | true => rfl
  | false =>
    by_cases hab : a = b
    · subst hab; omega
    · have := less_cases (less_total hab e)
      omega
theorem less_trans {a b c : Ky} (h : lessK a b = true) (h' : lessK b c = true) : lessK a c = true := by
  have h1 := less_cases h
  have h2 := less_cases h'
  exact less_of (by omega)
end Go.Proofs.YtdaidhbmfocodaaGreat

/-
  Nodes (api.Node): how they read; which may be; their bytes; nodes as arguments. Conditions: those that each lemma states.
-/
namespace Go.Proofs.YtdaidhbmfocodaaGreat
open Go.ChangeShapes Go.WideShapes Go.RowKit

/-! ### Nodes: level, items -/
abbrev Nd := Int × List It
def rIts : Rel (List It) := rSl 5 rIt
theorem stab_its : Stab rIts := stab_sl stab_it
/-- A value that reads as a node. -/
def Nod (ok : Addr → Prop) (w : World) (v : Value) (n : Nd) : Prop := ∃ d, v = .agg #[.int .i64 n.1, d] ∧ In64 n.1 ∧ rIts ok w [d] n.2
section
variable {ok ok' : Addr → Prop} {w w' : World} {v : Value} {n : Nd} {lo lo' : Nat}
theorem Nod.map (hk : ∀ p v, ok p → w.cell? p = some v → ok' p ∧ w'.cell? p = some v) (h : Nod ok w v n) : Nod ok' w' v n := by
  obtain ⟨d, e, h1, h2⟩ := h
  exact ⟨d, e, h1, stab_its _ _ _ _ _ _ hk h2⟩
theorem Nod.below (h : Nod (Old w) w v n) (hb : Below w.heap.size w w') : Nod (Old w') w' v n :=
  h.map fun _ _ hp hc => ⟨Nat.lt_of_lt_of_le hp hb.size, (hb.cell hp).trans hc⟩
theorem Nod.drop (h : Nod (New lo w) w v n) : Nod (Old w) w v n := h.map fun _ _ hp hc => ⟨hp.2.1, hc⟩
theorem Nod.new (h : Nod (New lo w) w v n) (hl : lo' ≤ lo) (hb : Below w.heap.size w w') : Nod (New lo' w') w' v n :=
  h.map fun _ _ hp hc => ⟨⟨Nat.le_trans hl hp.1, Nat.lt_of_lt_of_le hp.2.1 hb.size, (hb.frozen hp.2.1).trans hp.2.2⟩, (hb.cell hp.2.1).trans hc⟩
theorem Nod.grown {row : Option Nat} (h : Nod (New lo w) w v n) (hg : w.grownBy w' row) (hr : ∀ q, row = some q → q < lo) : Nod (New lo w') w' v n := by
  obtain ⟨d, e, h1, h2⟩ := h
  exact ⟨d, e, h1, stab_its.grown h2 hg hr⟩
theorem its_open {d : Value} {xs : List It} (h : rIts ok w [d] xs) : ∃ A c, d = .slice A xs.length c ∧ xs.length ≤ c ∧ c ≤ 9223372036854775807 := by
  obtain ⟨A, c, e, h1, h2, _⟩ := h
  exact ⟨A, c, by simpa using e, h1, h2⟩
theorem Nod.open (h : Nod ok w v n) : ∃ A c, v = .agg #[.int .i64 n.1, .slice A n.2.length c] ∧ In64 n.1 ∧ n.2.length ≤ c ∧ c ≤ 9223372036854775807 ∧ rIts ok w [.slice A n.2.length c] n.2 := by
  obtain ⟨d, rfl, h1, h2⟩ := h
  obtain ⟨A, c, rfl, h3, h4⟩ := its_open h2
  exact ⟨A, c, rfl, h1, h3, h4, h2⟩
end
theorem its_nil (ok : Addr → Prop) (w : World) : rIts ok w [.slice none 0 0] [] := ⟨none, 0, rfl, by simp, by omega, fun i x h => by simp at h⟩
def zeroN : Nd := (0, [])
theorem nod_zero (ok : Addr → Prop) (w : World) : Nod ok w (.agg #[.int .i64 0, .slice none 0 0]) zeroN := ⟨_, rfl, ⟨by decide, by decide⟩, its_nil _ _⟩

/-! ### An item of a row -/
theorem add_at5 (ad : Addr) (n j : Nat) : ad.add (n + (j + 1)) = ⟨(ad.add n).block, (ad.add n).off + (j + 1), none⟩ := by
  unfold Addr.add
  rw [if_neg (by omega)]
  by_cases h : n = 0
  · subst h
    simp
  · rw [if_neg h]
    simp [Nat.add_assoc]
/-- Five cells that are an item. -/
structure At5 (w : World) (p : Addr) (s : It) (d : Value) : Prop where
  c0 : w.cell? p = some (.int .u8 (s.1.1.toNat : Int))
  c1 : w.cell? ⟨p.block, p.off + 1, none⟩ = some (.int .u32 s.1.2.1)
  c2 : w.cell? ⟨p.block, p.off + 2, none⟩ = some (.int .u32 s.1.2.2)
  c3 : w.cell? ⟨p.block, p.off + 3, none⟩ = some (.int .i64 s.2.1)
  c4 : w.cell? ⟨p.block, p.off + 4, none⟩ = some d
theorem At5.lt {w : World} {p : Addr} {s : It} {d : Value} (h : At5 w p s d) : p.block < w.heap.size := World.block_lt_of_cell? w p h.c0
theorem At5.below {w w' : World} {p : Addr} {s : It} {d : Value} (h : At5 w p s d) (hb : Below w.heap.size w w') : At5 w' p s d :=
  ⟨(hb.cell h.lt).trans h.c0, (hb.cell (p := ⟨p.block, p.off + 1, none⟩) h.lt).trans h.c1, (hb.cell (p := ⟨p.block, p.off + 2, none⟩) h.lt).trans h.c2, (hb.cell (p := ⟨p.block, p.off + 3, none⟩) h.lt).trans h.c3, (hb.cell (p := ⟨p.block, p.off + 4, none⟩) h.lt).trans h.c4⟩
theorem its_at {ok : Addr → Prop} {w : World} {A : Option Addr} {n c k : Nat} {xs : List It} {s : It} (h : rIts ok w [.slice A n c] xs) (hk : xs[k]? = some s) :
    ∃ ad E ce, A = some ad ∧ (∀ j, j < 5 → ok (ad.add (k * 5 + j))) ∧ At5 w (ad.add (k * 5)) s (.slice E s.2.2.length ce) ∧ Itm ok w (itV s (.slice E s.2.2.length ce)) s ∧ s.2.2.length ≤ ce ∧ ce ≤ 9223372036854775807 ∧ InI s := by
  obtain ⟨_, _, e, _, _, h4⟩ := h
  cases e
  obtain ⟨ad, vs, rfl, e5, q, r⟩ := h4 k s hk
  obtain ⟨d, rfl, hin, hd⟩ := rIt_open r
  obtain ⟨E, ce, rfl, l1, l2, _⟩ := id (rBy_open hd)
  have q0 := q 0 _ rfl
  have t1 := q 1 _ rfl
  have t2 := q 2 _ rfl
  have t3 := q 3 _ rfl
  have t4 := q 4 _ rfl
  refine ⟨ad, E, ce, rfl, fun j hj => ?_, ?_, ⟨_, rfl, hin, hd⟩, l1, l2, hin⟩
  · rcases (by omega : j = 0 ∨ j = 1 ∨ j = 2 ∨ j = 3 ∨ j = 4) with rfl | rfl | rfl | rfl | rfl
    · exact q0.1
    · exact t1.1
    · exact t2.1
    · exact t3.1
    · exact t4.1
  · have u1 := t1.2
    have u2 := t2.2
    have u3 := t3.2
    have u4 := t4.2
    rw [add_at5] at u1 u2 u3 u4
    exact ⟨q0.2, u1, u2, u3, u4⟩
/-- An item of a row that lies there, in every later world. -/
theorem its_old {w : World} {A : Option Addr} {n c k : Nat} {xs : List It} {s : It} (h : rIts (Old w) w [.slice A n c] xs) (hk : xs[k]? = some s) :
    ∃ ad E ce, A = some ad ∧ s.2.2.length ≤ ce ∧ ce ≤ 9223372036854775807 ∧ InI s ∧ ∀ W, Below w.heap.size w W → At5 W (ad.add (k * 5)) s (.slice E s.2.2.length ce) ∧ Itm (Old W) W (itV s (.slice E s.2.2.length ce)) s := by
  obtain ⟨ad, E, ce, rfl, _, h5, hi, l1, l2, hin⟩ := its_at h hk
  exact ⟨ad, E, ce, rfl, l1, l2, hin, fun W hW => ⟨h5.below hW, hi.below hW⟩⟩

/-! ### Arguments -/
/-! ### Which nodes may be -/
def refersI (s : It) : Bool := decide (s.2.1 ≠ 0) && decide (s.2.2.length = 0)
def okP (l : Int) (x : It) : Bool := mayI x && (decide (l ≤ 0) || refersI x)
def okAt (n : Nd) (i : Nat) : Bool := match n.2[i]? with
  | none => true
  | some x => okP n.1 x && (match i with
    | 0 => true
    | j + 1 => match n.2[j]? with
      | none => true
      | some p => lessK p.1 x.1)
def shapeN (n : Nd) : Bool := (decide (0 ≤ n.1) && decide (n.1 < 6)) && decide (n.2.length ≤ 5) && (decide (n.1 ≤ 0) || decide (0 < n.2.length))
def mayN (n : Nd) : Bool := shapeN n && (List.range n.2.length).all (okAt n)
def chkN (n : Nd) : Int := if mayN n then 0 else 8
theorem shapeN_of {n : Nd} (h : shapeN n = true) : 0 ≤ n.1 ∧ n.1 < 6 ∧ n.2.length ≤ 5 ∧ (0 < n.1 → 0 < n.2.length) := by
  simp only [shapeN, Bool.and_eq_true, Bool.or_eq_true, decide_eq_true_eq] at h
  omega
theorem shapeN_mk {n : Nd} (h : 0 ≤ n.1 ∧ n.1 < 6 ∧ n.2.length ≤ 5 ∧ (0 < n.1 → 0 < n.2.length)) : shapeN n = true := by
  simp only [shapeN, Bool.and_eq_true, Bool.or_eq_true, decide_eq_true_eq]
  omega
theorem mayN_shape {n : Nd} (h : ¬ (0 ≤ n.1 ∧ n.1 < 6 ∧ n.2.length ≤ 5 ∧ (0 < n.1 → 0 < n.2.length))) : mayN n = false := by
  cases e : mayN n with
  | false => rfl
  | true =>
    simp only [mayN, Bool.and_eq_true] at e
    exact absurd (shapeN_of e.1) h
theorem mayN_at {n : Nd} {k : Nat} (hk : k < n.2.length) (h : okAt n k = false) : mayN n = false := by
  cases e : mayN n with
  | false => rfl
  | true =>
    simp only [mayN, Bool.and_eq_true, List.all_eq_true] at e
    have := e.2 k (by simpa using hk)
    rw [h] at this
    cases this
theorem mayN_mk {n : Nd} (h : 0 ≤ n.1 ∧ n.1 < 6 ∧ n.2.length ≤ 5 ∧ (0 < n.1 → 0 < n.2.length)) (h2 : ∀ i, i < n.2.length → okAt n i = true) : mayN n = true := by
  simp only [mayN, Bool.and_eq_true, List.all_eq_true]
  exact ⟨shapeN_mk h, fun x hx => h2 x (by simpa using hx)⟩
theorem mayN_of {n : Nd} (h : mayN n = true) : (0 ≤ n.1 ∧ n.1 < 6 ∧ n.2.length ≤ 5 ∧ (0 < n.1 → 0 < n.2.length)) ∧ ∀ i, i < n.2.length → okAt n i = true := by
  simp only [mayN, Bool.and_eq_true, List.all_eq_true] at h
  exact ⟨shapeN_of h.1, fun i hi => h.2 i (by simpa using hi)⟩
theorem okAt_zero {n : Nd} {x : It} (hx : n.2[0]? = some x) : okAt n 0 = okP n.1 x := by unfold okAt; rw [hx]; simp
theorem okAt_succ {n : Nd} {k : Nat} {x p : It} (hx : n.2[k + 1]? = some x) (hp : n.2[k]? = some p) : okAt n (k + 1) = (okP n.1 x && lessK p.1 x.1) := by
  unfold okAt
  simp only [hx, hp]
theorem okAt_P {n : Nd} {k : Nat} {x : It} (hx : n.2[k]? = some x) (h : okAt n k = true) : okP n.1 x = true := by
  unfold okAt at h
  rw [hx] at h
  simp only [Bool.and_eq_true] at h
  exact h.1
theorem okAt_noP {n : Nd} {k : Nat} {x : It} (hx : n.2[k]? = some x) (h : okP n.1 x = false) : okAt n k = false := by
  unfold okAt
  simp only [hx, h, Bool.false_and]
theorem mayN_item {n : Nd} (h : mayN n = true) {k : Nat} {x : It} (hx : n.2[k]? = some x) : okP n.1 x = true :=
  okAt_P hx ((mayN_of h).2 k (List.getElem?_eq_some_iff.1 hx).1)
theorem okP_may {l : Int} {x : It} (h : okP l x = true) : mayI x = true := by
  simp only [okP, Bool.and_eq_true] at h
  exact h.1
theorem mayN_rise {n : Nd} (h : mayN n = true) {k : Nat} {x y : It} (hx : n.2[k]? = some x) (hy : n.2[k + 1]? = some y) : lessK x.1 y.1 = true := by
  have := (mayN_of h).2 (k + 1) (List.getElem?_eq_some_iff.1 hy).1
  rw [okAt_succ hy hx, Bool.and_eq_true] at this
  exact this.2
theorem mayN_rises {n : Nd} (h : mayN n = true) : ∀ {k j : Nat} {x y : It}, k < j → n.2[k]? = some x → n.2[j]? = some y → lessK x.1 y.1 = true := by
  intro k j x y hkj
  induction j generalizing y with
  | zero => omega
  | succ j ih =>
    intro hx hy
    rcases Nat.lt_or_ge k j with h1 | h1
    · have hjl : j < n.2.length := by have := (List.getElem?_eq_some_iff.1 hy).1; omega
      exact less_trans (ih h1 hx (List.getElem?_eq_getElem hjl)) (mayN_rise h (List.getElem?_eq_getElem hjl) hy)
    · have : k = j := by omega
      subst this
      exact mayN_rise h hx hy
theorem chkN_ok {n : Nd} (h : mayN n = true) : chkN n = 0 := by simp [chkN, h]
theorem chkN_bad {n : Nd} (h : mayN n = false) : chkN n = 8 := by simp [chkN, h]
/-! ### Their bytes -/
def itsB (l : List It) : List UInt8 := (l.map itB).flatten
theorem itsB_snoc (l : List It) (x : It) : itsB (l ++ [x]) = itsB l ++ itB x := by simp [itsB]
theorem itsB_take {l : List It} {k : Nat} {x : It} (h : l[k]? = some x) : itsB (l.take (k + 1)) = itsB (l.take k) ++ itB x := by
  rw [List.take_add_one, h]
  exact itsB_snoc _ _
def headN (n : Nd) : List UInt8 := [78, UInt8.ofNat n.1.toNat, UInt8.ofNat n.2.length]
def toldN (n : Nd) : List UInt8 := headN n ++ itsB n.2
def blkN (n : Nd) : List UInt8 := sealN (toldN n)
theorem itsB_len : ∀ {l : List It}, (∀ x ∈ l, mayI x = true) → (itsB l).length ≤ 24 * l.length
  | [], _ => by simp [itsB]
  | x :: r, h => by
    have h1 := itsB_len (l := r) (fun y hy => h y (List.mem_cons.2 (Or.inr hy)))
    have h2 := (mayI_of (h x (List.mem_cons.2 (Or.inl rfl)))).2
    have h3 := itB_length x
    have : itsB (x :: r) = itB x ++ itsB r := by simp [itsB]
    rw [this, List.length_append, List.length_cons]
    omega
theorem mayN_all {n : Nd} (h : mayN n = true) : ∀ x ∈ n.2, mayI x = true := fun x hx => by
  obtain ⟨k, hk⟩ := List.mem_iff_getElem?.1 hx
  exact okP_may (mayN_item h hk)
end Go.Proofs.YtdaidhbmfocodaaGreat

/-
  Package node: noughts, cut. Conditions: those that each lemma states.
-/
namespace Go.Proofs.YtdaidhbmfocodaaGreat
open Go.RowKit

/-! ### noughts -/
theorem nought_any (a : Int) (w : World) : Calls Tryz.prog 92 #[.int .u8 a] w fun e w' => e = .returned (.bool (a != 0)) ∧ w = w' := by
  go_enter Tryz.func92, Tryz.ntmps92
  go_wp2_with fail
  go_ret
  exact ⟨rfl, rfl⟩
def idxN (b : List UInt8) : Int := match b.findIdx? (· ≠ 0) with
  | none => -1
  | some k => k
theorem idxN_at {b : List UInt8} {k : Nat} (hk : k < b.length) (ha : ∀ j, j < k → b[j]?.getD 0 = 0) (h : b[k]?.getD 0 ≠ 0) : idxN b = k := by
  have e : b.findIdx? (· ≠ 0) = some k := by
    rw [List.findIdx?_eq_some_iff_getElem]
    refine ⟨hk, by simpa [List.getElem?_eq_getElem hk] using h, fun j hj => ?_⟩
    have := ha j hj
    simpa [List.getElem?_eq_getElem (show j < b.length by omega)] using this
  unfold idxN
  rw [e]
theorem idxN_none {b : List UInt8} (ha : ∀ j, j < b.length → b[j]?.getD 0 = 0) : idxN b = -1 := by
  have e : b.findIdx? (· ≠ 0) = none := by
    rw [List.findIdx?_eq_none_iff]
    intro x hx
    obtain ⟨j, hj, rfl⟩ := List.mem_iff_getElem.1 hx
    have := ha j hj
    simpa [List.getElem?_eq_getElem hj] using this
  unfold idxN
  rw [e]
def noughtsB (b : List UInt8) : Bool := b.all (· == 0)
theorem noughts_idx (b : List UInt8) : (!decide (0 ≤ idxN b)) = noughtsB b := by
  unfold idxN noughtsB
  cases e : b.findIdx? (· ≠ 0) with
  | none =>
    rw [List.findIdx?_eq_none_iff] at e
    have : (b.all fun x => x == 0) = true := by
      rw [List.all_eq_true]
      intro x hx
      simpa using e x hx
    rw [this]
    simp
  | some k =>
    rw [List.findIdx?_eq_some_iff_getElem] at e
    obtain ⟨hk, h1, _⟩ := e
    have : (b.all fun x => x == 0) = false := by
      rw [List.all_eq_false]
      exact ⟨b[k], List.getElem_mem hk, by simpa using h1⟩
    rw [this]
    simp
set_option maxRecDepth 100000 in
theorem index_any (A : Option Addr) (n c : Nat) (b : List UInt8) (hn : Hid (b.length = n)) (l1 : n ≤ c) (m1 : c ≤ 9223372036854775807) (w : World) (h : Byt w w.heap.size A b) :
    Calls Tryz.prog 114 #[.slice A n c, .func (.func 92) #[] #[]] w fun e w' => e = .returned (.int .i64 (idxN b)) ∧ w = w' := by
  have HY := Lib.hid h
  clear h
  go_enter Tryz.func114, Tryz.ntmps114
  go_wp2_with fail
  go_loop [8] (fun i => ∃ k : Nat, k ≤ n ∧ i = .int .i64 k ∧ ∀ j, j < k → b[j]?.getD 0 = 0) (fun i => n - (intOf i).toNat)
  case atStart => exact ⟨0, by omega, rfl, fun j hj => by omega⟩
  case round =>
    obtain ⟨k, hk, rfl, ha⟩ := hrel
    replace ha := Lib.hid ha
    by_cases hlt : k < n
    · obtain ⟨ad, rfl, _, hc⟩ := HY.out (by rw [hn.out]; omega)
      replace hc := hc k (by rw [hn.out]; exact hlt)
      have hyes := Lib.hid (fun h => idxN_at (b := b) (k := k) (by rw [hn.out]; exact hlt) ha.out h)
      have hno : Hid (b[k]?.getD 0 = 0 → ∀ j, j < k + 1 → b[j]?.getD 0 = 0) := Lib.hid fun h j hj => by
        rcases Nat.lt_or_ge j k with h1 | h1
        · exact ha.out j h1
        · obtain rfl : j = k := by omega
          exact h
      obtain ⟨x, hx⟩ : ∃ x, b[k]?.getD 0 = x := ⟨_, rfl⟩
      rw [hx] at hc hyes hno
      replace hx := Lib.hid hx
      by_cases h0 : (x.toNat : Int) = 0
      · have t0 : ((x.toNat : Int) != 0) = false := by simpa using h0
        have hall := Lib.hid (hno.out (UInt8.toNat.inj (by simpa using h0)))
        replace h0 := Lib.hid h0
        go_wp2_with fail
        with_reducible refine (nought_any _ _).mono ?_
        rintro e3 w3 ⟨rfl, rfl⟩
        rw [t0]
        go_wp2_with fail
        go_round
        case rel => exact ⟨k + 1, by omega, by go_num, hall.out⟩
        case measure => simp [intOf]; omega
      · have t0 : ((x.toNat : Int) != 0) = true := by simpa using h0
        have hr := Lib.hid (hyes.out (fun e => h0 (by rw [e]; rfl)))
        replace h0 := Lib.hid h0
        go_wp2_with fail
        with_reducible refine (nought_any _ _).mono ?_
        rintro e3 w3 ⟨rfl, rfl⟩
        rw [t0]
        go_wp2_with fail
        go_ret
        exact ⟨ret_int hr.out.symm, rfl⟩
    · have hr := Lib.hid (idxN_none (b := b) fun j hj => ha.out j (by have := hn.out; omega))
      go_wp2_with fail
      go_ret
      exact ⟨ret_int hr.out.symm, rfl⟩
set_option maxRecDepth 100000 in
theorem noughts_any (A : Option Addr) (n c : Nat) (b : List UInt8) (hn : Hid (b.length = n)) (l1 : n ≤ c) (m1 : c ≤ 9223372036854775807) (w : World) (h : Byt w w.heap.size A b) :
    Calls Tryz.prog 64 #[.slice A n c] w fun e w' => e = .returned (.bool (noughtsB b)) ∧ w = w' := by
  have HY := Lib.hid h
  have hi := Lib.hid (noughts_idx b)
  have hx : Hid (∀ W, Byt W W.heap.size A b → Calls Tryz.prog 91 #[.slice A n c, .func (.func 92) #[] #[]] W fun e w' => e = .returned (.bool (decide (0 ≤ idxN b))) ∧ W = w') := Lib.hid fun W hW => by
    have HW := Lib.hid hW
    clear hW
    go_enter Tryz.func91, Tryz.ntmps91
    go_wp2_with fail
    with_reducible refine (index_any A n c b hn l1 m1 _ HW.out).mono ?_
    rintro e3 w3 ⟨rfl, rfl⟩
    go_wp2_with fail
    go_ret
    exact ⟨rfl, rfl⟩
  clear h
  go_enter Tryz.func64, Tryz.ntmps64
  go_wp2_with fail
  with_reducible refine (hx.out _ HY.out).mono ?_
  rintro e3 w3 ⟨rfl, rfl⟩
  go_wp2_with fail
  go_ret
  exact ⟨ret_bool hi.out, rfl⟩
end Go.Proofs.YtdaidhbmfocodaaGreat

/-
  Package node: cut. Conditions: those that each lemma states.
-/
namespace Go.Proofs.YtdaidhbmfocodaaGreat
open Go.RowKit

/-! ### Rows of items of the call's own -/
theorem item_info0 : (Tryz.prog.info? 52).map (fun i => (i.zero, i.size, i.bytes)) = some (some (.agg #[.int .u8 0, .int .u32 0, .int .u32 0, .int .i64 0, .slice none 0 0]), 5, 48) := by kernel_rfl
theorem its_push {w : World} {lo : Nat} {A : Option Addr} {c : Nat} {xs : List It} (h : RowOf rIt 5 52 lo w A c xs) (g : Nat) (s : It) (d : Value) (m n : Nat) (hn : xs.length = n) (hg : w.heap[g]? = some (.cells #[.int .u8 (s.1.1.toNat : Int), .int .u32 s.1.2.1, .int .u32 s.1.2.2, .int .i64 s.2.1, d] 52 (0, 0))) (hs : n < 100000) (hbase : lo ≤ w.heap.size) (hin : InI s) (hx : rBy (NewBut lo A w) w [d] s.2.2) :
    ∃ A' c' w', (Builtin.append_ #[32, 32] 32 #[.slice A n c, .slice (some ⟨g, 0, none⟩) 1 m]).run Tryz.prog w = .ok (.slice A' (n + 1) c') w' ∧ RowOf rIt 5 52 lo w' A' c' (xs ++ [s]) ∧ w.grownBy w' (A.map (·.block)) ∧ Below lo w w' := by
  subst hn
  obtain ⟨i0, hi, hz0, hz1, hz2⟩ := info_parts item_info0
  obtain ⟨E, ce, rfl, _⟩ := id (rBy_open hx)
  exact RowOf.push stab_it h 32 32 i0 (.agg #[.int .u8 0, .int .u32 0, .int .u32 0, .int .i64 0, .slice none 0 0]) 48 Tryz.underlying32 hi hz0 hz1 hz2 rfl (by decide) ⟨g, 0, none⟩ m _ s rfl (World.news_of_block (cs := #[.int .u8 (s.1.1.toNat : Int), .int .u32 s.1.2.1, .int .u32 s.1.2.2, .int .i64 s.2.1, .slice E s.2.2.length ce]) hg) (fun u hu => by
    simp at hu
    rcases hu with rfl | rfl | rfl | rfl | rfl <;> rfl) (by unfold maxLen; omega) (by omega) hbase (rIt_mk hin hx)

/-! ### What is cut off -/
def cutTo (b : List UInt8) : Nat → Option (List It × List UInt8)
  | 0 => some ([], b)
  | k + 1 => match cutTo b k with
    | none => none
    | some (l, r) => if okR r then some (l ++ [itR r], r.drop (itN r).toNat) else none
theorem cutTo_yes {b : List UInt8} {k : Nat} {l : List It} {r : List UInt8} (h : cutTo b k = some (l, r)) (h' : okR r = true) : cutTo b (k + 1) = some (l ++ [itR r], r.drop (itN r).toNat) := by
  simp only [cutTo, h, h', if_true]
theorem cutTo_no {b : List UInt8} {k : Nat} {l : List It} {r : List UInt8} (h : cutTo b k = some (l, r)) (h' : okR r = false) : cutTo b (k + 1) = none := by
  simp only [cutTo, h, h']
  rfl
theorem cutTo_none {b : List UInt8} {k j : Nat} (h : cutTo b k = none) (hj : k ≤ j) : cutTo b j = none := by
  induction j with
  | zero =>
    have : k = 0 := by omega
    rw [this] at h
    exact h
  | succ j ih =>
    rcases Nat.lt_or_ge k (j + 1) with h1 | h1
    · simp only [cutTo, ih (by omega)]
    · have : k = j + 1 := by omega
      rw [this] at h
      exact h
theorem cutTo_bytes {b : List UInt8} : ∀ {k : Nat} {l : List It} {r : List UInt8}, cutTo b k = some (l, r) → b = itsB l ++ r ∧ l.length = k ∧ (∀ x ∈ l, mayI x = true ∧ InI x)
  | 0, l, r, h => by
    simp only [cutTo, Option.some.injEq, Prod.mk.injEq] at h
    obtain ⟨rfl, rfl⟩ := h
    exact ⟨by simp [itsB], rfl, fun x hx => by simp at hx⟩
  | k + 1, l, r, h => by
    cases e : cutTo b k with
    | none => simp [cutTo, e] at h
    | some p =>
      obtain ⟨l', r'⟩ := p
      obtain ⟨h1, h2, h3⟩ := cutTo_bytes e
      rcases bool_ways (okR r') with ho | ho
      · rw [cutTo_no e ho] at h
        cases h
      · rw [cutTo_yes e ho] at h
        simp only [Option.some.injEq, Prod.mk.injEq] at h
        obtain ⟨rfl, rfl⟩ := h
        obtain ⟨n, e1, e2, e3, e4⟩ := read_itB ho
        have hn : (itN r').toNat = n := by rw [e1]; omega
        refine ⟨?_, by simp [h2], fun x hx => ?_⟩
        · rw [itsB_snoc, e4, hn, List.append_assoc, List.take_append_drop]
          exact h1
        · rcases List.mem_append.1 hx with hx | hx
          · exact h3 x hx
          · simp at hx
            subst hx
            exact ⟨e3, by rw [itR, ho, if_pos rfl]; exact inI_fields _⟩
def cutL (b : List UInt8) (k : Nat) : List It := ((cutTo b k).map (·.1)).getD []
def cutR (b : List UInt8) (k : Nat) : List UInt8 := ((cutTo b k).map (·.2)).getD []
def cutF (b : List UInt8) (k : Nat) : Int := if (cutTo b k).isSome then 0 else 8

/-- What is left of bytes. -/
theorem rBy_rest {ok : Addr → Prop} {w : World} {ad : Addr} {n c : Nat} {b : List UInt8} (h : rBy ok w [.slice (some ad) n c] b) (k : Nat) (hk : k ≤ b.length) : rBy ok w [.slice (some (ad.add k)) (n - k) (c - k)] (b.drop k) := by
  obtain ⟨A, c', e, l1, l2, _⟩ := id h
  cases e
  have := rBy_part h k (b.length - k) (c - k) (by omega) (by omega) (by omega)
  rwa [List.take_of_length_le (by simp)] at this

set_option maxRecDepth 100000 in
set_option maxHeartbeats 4000000 in
theorem nodeCut_any (v : Value) (b : List UInt8) (many : Nat) (hm : many < 256) (w : World) (h : rBy (Old w) w [v] b) :
    Calls Tryz.prog 62 #[v, .int .i64 many] w fun e w' => ∃ A c u, e = .returned (.tuple #[.slice A (cutL b many).length c, u, .int .i64 (cutF b many)]) ∧ rIts (New w.heap.size w') w' [.slice A (cutL b many).length c] (cutL b many) ∧ rBy (Old w') w' [u] (cutR b many) ∧ Below w.heap.size w w' := by
  have HV := Lib.hid h
  clear h
  go_enter Tryz.func62, Tryz.ntmps62
  go_wp2_with fail
  go_loopw [0, 7, 12] (fun q it i wr => ∃ (k : Nat) (l : List It) (r : List UInt8) (A : Option Addr) (c : Nat), k ≤ many ∧ i = .int .i64 k ∧ it = .slice A k c ∧ l.length = k ∧ cutTo b k = some (l, r) ∧ rBy (Old w) w [q] r ∧ RowOf rIt 5 52 w.heap.size wr A c l ∧ Below w.heap.size w wr) (fun _ _ i _ => many - (intOf i).toNat)
  case atStart => exact ⟨0, [], b, none, 0, by omega, rfl, rfl, rfl, rfl, HV.out, RowOf.nil _ _ _ _ _, Below.refl _ _⟩
  case round =>
    obtain ⟨k, l, r, A, c, hk, rfl, rfl, hl, hcut, hq, hrow, hb⟩ := hrel
    replace hrow := Lib.hid hrow
    replace hcut := Lib.hid hcut
    replace hl := Lib.hid hl
    replace hb := Lib.hid hb
    obtain ⟨Q, cq, rfl, n1, n2, _⟩ := id (rBy_open hq)
    obtain ⟨nq, hnq⟩ : ∃ n, r.length = n := ⟨_, rfl⟩
    rw [hnq] at n1 hq ⊢
    replace hnq := Lib.hid hnq
    replace hq := Lib.hid hq
    have hqr := Lib.hid (stab_by.old hq.out hb.out)
    by_cases hlt : k < many
    case neg =>
      have hkm : k = many := by omega
      have hL := Lib.hid (show cutL b many = l by rw [← hkm]; simp [cutL, hcut.out])
      have hR := Lib.hid (show cutR b many = r by rw [← hkm]; simp [cutR, hcut.out])
      have hF := Lib.hid (show cutF b many = 0 by rw [← hkm]; simp [cutF, hcut.out])
      have hfin := Lib.hid (hrow.out.rel stab_it)
      rw [hl.out] at hfin
      replace hkm := Lib.hid hkm
      go_wp2_with fail
      exact bodyPost_ret (v := .tuple #[.slice A k c, .slice Q nq cq, .int .i64 0]) (by simp [results, Tryz.results62, go_sem]) rfl ⟨A, c, _, by rw [hL.out, hF.out, hl.out], by rw [hL.out, hl.out]; exact hfin.out, by rw [hR.out]; exact hqr.out, hb.out⟩
    go_wp2_with fail
    with_reducible refine (itRead_any _ r _ hqr.out).mono ?_
    rintro e3 w3 ⟨u3, rfl, hu3, hb3⟩
    obtain ⟨D, dc, rfl, hin, _, _, hby⟩ := id hu3.open
    obtain ⟨w4, hw4, s0, s1, s2, s3, s4, hs4, hb4, b4⟩ := box_five w3 (.int .u8 ((itR r).1.1.toNat : Int)) (.int .u32 (itR r).1.2.1) (.int .u32 (itR r).1.2.2) (.int .i64 (itR r).2.1) (.slice D (itR r).2.2.length dc) 52
    have C4 := Lib.hid (hb3.trans (hb4.mono hb3.size))
    have B4 := Lib.hid (hb.out.trans (C4.out.mono hb.out.size))
    have hI4 := Lib.hid (hu3.new (Nat.le_refl _) hb4)
    obtain ⟨x, hx⟩ : ∃ x, itR r = x := ⟨_, rfl⟩
    rw [hx] at hin s0 s1 s2 s3 s4 b4 hI4 hw4 ⊢
    replace hs4 := Lib.hid hs4
    replace hx := Lib.hid hx
    clear hb3 hb4 hu3 hby
    unfold itV at *
    go_upto_region 5 with fail
    clear hw4
    rcases bool_ways (okR r) with hok | hok
    · have hE := Lib.hid (show itE r = 8 by simp [itE, hok])
      have hno := Lib.hid (cutTo_none (cutTo_no hcut.out hok) (show k + 1 ≤ many by omega))
      have hL := Lib.hid (show cutL b many = [] by simp [cutL, hno.out])
      have hR := Lib.hid (show cutR b many = [] by simp [cutR, hno.out])
      have hF := Lib.hid (show cutF b many = 8 by simp [cutF, hno.out])
      rw [hE.out]
      replace hok := Lib.hid hok
      go_wp2_with fail
      exact bodyPost_ret (v := .tuple #[.slice none 0 0, .slice none 0 0, .int .i64 8]) (by simp [results, Tryz.results62, go_sem]) rfl ⟨none, 0, _, by rw [hL.out, hF.out]; rfl, by rw [hL.out]; exact its_nil _ _, by rw [hR.out]; exact rBy_part0 _ _ none, B4.out⟩
    have hE := Lib.hid (show itE r = 0 by simp [itE, hok])
    obtain ⟨m, hm1, hm2, hm3, hm4⟩ := read_itB hok
    have hyes := cutTo_yes hcut.out hok
    rw [hm1, show ((m : Int)).toNat = m by omega, hx.out] at hyes
    have hrl : 12 ≤ nq := by have := okC_yes (okR_fields hok).1; have := hnq.out; omega
    rw [hnq.out] at hm2
    rw [hE.out, hm1]
    replace hyes := Lib.hid hyes
    replace hok := Lib.hid hok
    clear hm1 hm3 hm4
    obtain ⟨w5, hw5, _, _, _, _, _, hs5, hb5, b5⟩ := box_five w4 (.int .u8 (x.1.1.toNat : Int)) (.int .u32 x.1.2.1) (.int .u32 x.1.2.2) (.int .i64 x.2.1) (.slice D x.2.2.length dc) 52
    have C5 := C4.out.trans (hb5.mono C4.out.size)
    have hI5 := hI4.out.new (Nat.le_refl _) hb5
    have hx5 : rBy (NewBut w.heap.size A w5) w5 [.slice D x.2.2.length dc] x.2.2 := by
      obtain ⟨d, e, _, hd⟩ := hI5
      have ed : d = .slice D x.2.2.length dc := by injection e with e; simpa using e.symm
      subst ed
      exact stab_by _ _ _ _ _ _ (fun p v hp hc => ⟨hrow.out.but (Nat.le_refl _) hb.out.size hp, hc⟩) hd
    have row5 := RowOf.below stab_it hrow.out C5
    have hb5' := hb.out.trans (C5.mono hb.out.size)
    have hk5 : l.length < 100000 := by have := hl.out; omega
    obtain ⟨A6, c6, w6, hr6, row6, _, hb6⟩ := its_push row5 w4.heap.size x _ 1 k hl.out b5 (by omega) hb5'.size hin hx5
    have B6 := Lib.hid (hb5'.trans hb6)
    have H6 := Lib.hid hr6
    replace row6 := Lib.hid row6
    have hll := Lib.hid (show (l ++ [x]).length = k + 1 by simp [hl.out])
    obtain ⟨qa, rfl⟩ : ∃ qa, Q = some qa := by
      obtain ⟨_, _, e, _, _, h4⟩ := rBy_open hq.out
      cases e
      obtain ⟨qa, e, _⟩ := h4 0 (by have := hnq.out; omega)
      exact ⟨qa, e⟩
    have hrest := Lib.hid (rBy_rest hq.out m (by rw [hnq.out]; exact hm2))
    have hnil : Hid (m = nq → ∀ W, rBy (Old W) W [.slice (some qa) 0 0] (r.drop m)) := Lib.hid fun e W => by
      rw [List.drop_of_length_le (by rw [hnq.out]; omega)]
      exact rBy_part0 _ _ _
    replace hs5 := Lib.hid hs5
    replace b5 := Lib.hid b5
    replace hI5 := Lib.hid hI5
    clear hr6 hb6 hx5 row5 C5 hb5 hb5' hin
    by_cases hmc : m = cq
    · have c1 : (0 : Int) ≤ (m : Int) := by omega
      have c2 : (m : Int) ≤ cq := by omega
      have c3 : (m : Int) ≤ nq := by omega
      go_wp2_with (at_builtin; refine wpList_append_run rfl _ _ _ rfl rfl rfl H6.out ?_; clear H6)
      go_roundw
      case rel => exact ⟨k + 1, l ++ [x], r.drop m, A6, c6, by omega, by go_num, rfl, hll.out, hyes.out, hnil.out (by omega) w, row6.out, B6.out⟩
      case measure => simp [intOf]; omega
    · have c1 : (0 : Int) ≤ (m : Int) := by omega
      have c2 : (m : Int) ≤ cq := by omega
      have c3 : (m : Int) ≤ nq := by omega
      go_wp2_with (at_builtin; refine wpList_append_run rfl _ _ _ rfl rfl rfl H6.out ?_; clear H6)
      go_roundw
      case rel => exact ⟨k + 1, l ++ [x], r.drop m, A6, c6, by omega, by go_num, rfl, hll.out, hyes.out, hrest.out, row6.out, B6.out⟩
      case measure => simp [intOf]; omega
end Go.Proofs.YtdaidhbmfocodaaGreat
