/-
  Package dev: checkAt, Read. Conditions: those that each lemma states.
-/
import Derived.Test.YtgnogclhleheiaaClones
import Derived.Test.YtgnogclhleheiaaSeen
import Derived.Test.YtgnogclhleheiaaDevCheck
import Derived.Test.YtgnogclhleheiaaLast
namespace Go.Proofs.Ytgnogclhleheiaa
open Go.RowKit

/-- The error of a disk and a place. -/
def chkAt (d : Dk) (n : Int) : Int := if mayB d then (if thereB n then 0 else 2) else 8
theorem chkAt_bad {d : Dk} {n : Int} (h : mayB d = false) : chkAt d n = 8 := by simp [chkAt, h]
theorem chkAt_out {d : Dk} {n : Int} (h : mayB d = true) (h' : thereB n = false) : chkAt d n = 2 := by simp [chkAt, h, h']
theorem chkAt_ok {d : Dk} {n : Int} (h : mayB d = true) (h' : thereB n = true) : chkAt d n = 0 := by simp [chkAt, h, h']
theorem thereB_nat {n : Int} (h : thereB n = true) : ∃ k : Nat, n = k ∧ k < 256 := by
  simp only [thereB, Bool.and_eq_true, decide_eq_true_eq] at h
  exact ⟨n.toNat, by omega, by omega⟩
theorem thereB_of {k : Nat} (h : k < 256) : thereB (k : Int) = true := by
  simp only [thereB, Bool.and_eq_true, decide_eq_true_eq]
  omega

set_option maxHeartbeats 1000000 in
theorem checkAt_any (v : Value) (d : Dk) (n : Int) (w : World) (h : Dsk (Old w) w v d) : Calls Try.prog 51 #[v, .int .i64 n] w fun e w' => e = .returned (.int .i64 (chkAt d n)) ∧ Below w.heap.size w w' := by
  obtain ⟨a, b, rfl, _⟩ := id h
  have hB := balloc (Below.refl w.heap.size w) (.cells #[a, b] 25)
  have H := Lib.hid (h.below hB)
  cases hm : mayB d with
  | true =>
    have hc := Lib.hid (chk_ok hm)
    cases ht : thereB n with
    | true =>
      have hr := Lib.hid (chkAt_ok hm ht)
      replace hm := Lib.hid hm
      replace ht := Lib.hid ht
      go_enter Try.func51, Try.ntmps51
      go_wp2_with fail
      refine (check_any _ d _ H.out).mono ?_
      rintro e w1 ⟨rfl, hb1⟩
      rw [hc.out]
      go_wp2_with fail
      refine (there_any _ _).mono ?_
      rintro e w2 ⟨rfl, rfl⟩
      rw [ht.out]
      go_wp2_with fail
      go_ret
      exact ⟨ret_int hr.out.symm, hB.trans (hb1.mono hB.size)⟩
    | false =>
      have hr := Lib.hid (chkAt_out hm ht)
      replace hm := Lib.hid hm
      replace ht := Lib.hid ht
      go_enter Try.func51, Try.ntmps51
      go_wp2_with fail
      refine (check_any _ d _ H.out).mono ?_
      rintro e w1 ⟨rfl, hb1⟩
      rw [hc.out]
      go_wp2_with fail
      refine (there_any _ _).mono ?_
      rintro e w2 ⟨rfl, rfl⟩
      rw [ht.out]
      go_wp2_with fail
      go_ret
      exact ⟨ret_int hr.out.symm, hB.trans (hb1.mono hB.size)⟩
  | false =>
    have hc := Lib.hid (chk_bad hm)
    have hr := Lib.hid (chkAt_bad (n := n) hm)
    replace hm := Lib.hid hm
    go_enter Try.func51, Try.ntmps51
    go_wp2_with fail
    refine (check_any _ d _ H.out).mono ?_
    rintro e w1 ⟨rfl, hb1⟩
    rw [hc.out]
    go_wp2_with fail
    go_ret
    exact ⟨ret_int hr.out.symm, hB.trans (hb1.mono hB.size)⟩

set_option maxHeartbeats 1000000 in
theorem read_bad (v : Value) (d : Dk) (n : Int) (w : World) (h : Dsk (Old w) w v d) (hn : ¬ (mayB d = true ∧ thereB n = true)) :
    Calls Try.prog 17 #[v, .int .i64 n] w fun e w' => e = .returned (.tuple #[.slice none 0 0, .int .i64 (chkAt d n)]) ∧ Below w.heap.size w w' := by
  obtain ⟨a, b, rfl, _⟩ := id h
  have hB := balloc (Below.refl w.heap.size w) (.cells #[a, b] 25)
  have H := Lib.hid (h.below hB)
  have hc : chkAt d n = 8 ∨ chkAt d n = 2 := by
    cases hm : mayB d with
    | false => exact .inl (chkAt_bad hm)
    | true =>
      cases ht : thereB n with
      | false => exact .inr (chkAt_out hm ht)
      | true => exact absurd ⟨hm, ht⟩ hn
  clear hn
  rcases hc with hc | hc
  all_goals
    rw [hc]
    replace hc := Lib.hid hc
    go_enter Try.func17, Try.ntmps17
    go_wp2_with fail
    refine (checkAt_any _ d n _ H.out).mono ?_
    rintro e w1 ⟨rfl, hb1⟩
    rw [hc.out]
    go_wp2_with fail
    go_ret2
    exact ⟨rfl, hB.trans (hb1.mono hB.size)⟩

set_option maxHeartbeats 1000000 in
theorem read_ok (v : Value) (d : Dk) (k : Nat) (w : World) (h : Dsk (Old w) w v d) (hm : mayB d = true) (hk : k < 256) :
    Calls Try.prog 17 #[v, .int .i64 k] w fun e w' => ∃ u, e = .returned (.tuple #[u, .int .i64 0]) ∧ rBy (New w.heap.size w') w' [u] (seenD d k) ∧ Below w.heap.size w w' := by
  obtain ⟨a, b, rfl, ha, hb⟩ := id h
  obtain ⟨w0, hw0, f1, f2, f3, hB⟩ := box_pair w a b 25
  have H := Lib.hid (h.below hB)
  have hc := Lib.hid (chkAt_ok hm (thereB_of hk))
  have hl : k < d.1.length := by rw [(may_of hm).1]; exact hk
  have hbig : Hid ((seenD d k).length = 128) := Lib.hid (by
    obtain ⟨h1, h2, h3, h4⟩ := may_of hm
    refine seenW_length ?_ fun x hx => ?_
    · rw [List.getElem?_eq_getElem hl]
      exact h3 k _ (List.getElem?_eq_getElem hl)
    · obtain ⟨j, hj⟩ := List.getElem?_of_mem hx
      exact (h4 j x hj).2.2)
  obtain ⟨A, c, e1, _⟩ := rows_open ha
  obtain ⟨B, e, e2, _⟩ := wts_open hb
  cases e1
  cases e2
  replace f3 := Lib.hid f3
  replace hm := Lib.hid hm
  go_enter Try.func17, Try.ntmps17
  go_upto_region 1 with fail
  clear hw0
  go_wp2_with fail
  refine (checkAt_any _ d k _ H.out).mono ?_
  rintro e w1 ⟨rfl, hb1⟩
  rw [hc.out]
  have H1 := Lib.hid (H.out.below hb1)
  have g1 := (hb1.cell (p := ⟨w.heap.size, 0, none⟩) (by rw [f3.out]; simp)).trans f1
  have g2 := (hb1.cell (p := ⟨w.heap.size, 1, none⟩) (by rw [f3.out]; simp)).trans f2
  have hB1 := hB.trans (hb1.mono hB.size)
  clear f1 f2 hB hb1
  go_wp2_with fail
  refine (seen_any _ d k hl _ H1.out).mono ?_
  rintro e w2 ⟨u, rfl, hu, hb2⟩
  have hu2 := stab_by.old hu hb2
  have hB2 := hB1.trans (hb2.mono hB1.size)
  go_wp2_with fail
  refine (clone_by u _ _ (by rw [hbig.out]; omega) hu2).mono ?_
  rintro e w3 ⟨x, rfl, hx, hb3⟩
  have hfin := Lib.hid (stab_by.mono hx hB2.size)
  have hB3 := hB2.trans (hb3.mono hB2.size)
  clear hx hu hu2
  go_wp2_with fail
  go_ret2
  exact ⟨x, rfl, hfin.out, hB3⟩
end Go.Proofs.Ytgnogclhleheiaa
