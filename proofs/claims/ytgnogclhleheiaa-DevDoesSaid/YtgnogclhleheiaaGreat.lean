/-
  The document's answers of layer 3: Great. Conditions: those that each lemma states.
-/
import Derived.Test.YtgnogclhleheiaaRefMay
import Derived.WalkLawsBesides
namespace Go.Proofs.Ytgnogclhleheiaa
open Go.RowKit

def cap6 (n : Nat) : Int := if (1000000 : Int) < n then 1000000 else n
def sumB : List (List UInt8) → Int
  | [] => 0
  | x :: r => cap6 x.length + sumB r
def sumW : List Wt → Int
  | [] => 0
  | x :: r => cap6 x.2.length + sumW r
theorem cap6_nonneg (n : Nat) : 0 ≤ cap6 n ∧ cap6 n ≤ 1000000 := by unfold cap6; split <;> omega
theorem sumB_snoc (xs : List (List UInt8)) (x : List UInt8) : sumB (xs ++ [x]) = sumB xs + cap6 x.length := by
  induction xs with
  | nil => simp [sumB]
  | cons y r ih => simp only [List.cons_append, sumB, ih]; omega
theorem sumW_snoc (xs : List Wt) (x : Wt) : sumW (xs ++ [x]) = sumW xs + cap6 x.2.length := by
  induction xs with
  | nil => simp [sumW]
  | cons y r ih => simp only [List.cons_append, sumW, ih]; omega
theorem sumB_le (xs : List (List UInt8)) : 0 ≤ sumB xs ∧ sumB xs ≤ 1000000 * xs.length := by
  induction xs with
  | nil => simp [sumB]
  | cons y r ih => have := cap6_nonneg y.length; simp only [sumB, List.length_cons]; omega
theorem sumW_le (xs : List Wt) : 0 ≤ sumW xs ∧ sumW xs ≤ 1000000 * xs.length := by
  induction xs with
  | nil => simp [sumW]
  | cons y r ih => have := cap6_nonneg y.2.length; simp only [sumW, List.length_cons]; omega
theorem sumB_mem {xs : List (List UInt8)} {x : List UInt8} (h : x ∈ xs) : cap6 x.length ≤ sumB xs := by
  induction xs with
  | nil => cases h
  | cons y r ih =>
    have := cap6_nonneg y.length
    have := (sumB_le r).1
    simp only [sumB]
    rcases List.mem_cons.1 h with rfl | h
    · omega
    · have := ih h; omega
theorem sumW_mem {xs : List Wt} {x : Wt} (h : x ∈ xs) : cap6 x.2.length ≤ sumW xs := by
  induction xs with
  | nil => cases h
  | cons y r ih =>
    have := cap6_nonneg y.2.length
    have := (sumW_le r).1
    simp only [sumW]
    rcases List.mem_cons.1 h with rfl | h
    · omega
    · have := ih h; omega
def greatB (d : Dk) : Bool := decide (300 < d.1.length) || decide (5000 < d.2.length) || (decide (600 < d.2.length) && decide (d.2.length < 4096)) || decide (800000 < sumB d.1 + sumW d.2)
/-- A disk that is not great is small. -/
structure Small (d : Dk) : Prop where
  rows : d.1.length ≤ 100000
  waits : d.2.length ≤ 100000
  block : ∀ (k : Nat) (x : List UInt8), d.1[k]? = some x → x.length ≤ 1000000
  wait : ∀ (k : Nat) (x : Wt), d.2[k]? = some x → x.2.length ≤ 1000000
theorem small_of_may {d : Dk} (h : mayB d = true) : Small d := by
  obtain ⟨h1, h2, h3, h4⟩ := may_of h
  exact ⟨by omega, by omega, fun k x hk => by have := h3 k x hk; omega, fun k x hk => by have := h4 k x hk; omega⟩
theorem small_of_great {d : Dk} (h : greatB d = false) : Small d := by
  simp only [greatB, Bool.or_eq_false_iff, decide_eq_false_iff_not] at h
  obtain ⟨⟨⟨h1, h2⟩, _⟩, h4⟩ := h
  have b1 := (sumB_le d.1).1
  have b2 := (sumW_le d.2).1
  refine ⟨by omega, by omega, fun k x hk => ?_, fun k x hk => ?_⟩
  · have := sumB_mem (List.mem_of_getElem? hk)
    unfold cap6 at this
    split at this <;> omega
  · have := sumW_mem (List.mem_of_getElem? hk)
    unfold cap6 at this
    split at this <;> omega

set_option maxRecDepth 100000 in
set_option maxHeartbeats 2000000 in
theorem great_any (v : Value) (d : Dk) (w : World) (h : Dsk (Old w) w v d) : Calls Try.prog 11 #[v] w fun e w' => e = .returned (.bool (greatB d)) ∧ Below w.heap.size w w' := by
  obtain ⟨A, c, B, c', rfl, l1, m1, l2, m2, hA, hB⟩ := h.open
  have HA := Lib.hid hA
  have HB := Lib.hid hB
  clear hA hB h
  have hg : greatB d = (decide (300 < d.1.length) || decide (5000 < d.2.length) || (decide (600 < d.2.length) && decide (d.2.length < 4096)) || decide (800000 < sumB d.1 + sumW d.2)) := rfl
  obtain ⟨n, hn⟩ : ∃ n, d.1.length = n := ⟨_, rfl⟩
  obtain ⟨m, hm⟩ : ∃ m, d.2.length = m := ⟨_, rfl⟩
  rw [hn] at l1 hg ⊢
  rw [hm] at l2 hg ⊢
  replace hn := Lib.hid hn
  replace hm := Lib.hid hm
  obtain ⟨w0, e0, f1, f2, f3, hB1, _⟩ := box_disk w (.slice A n c) (.slice B m c')
  by_cases h1 : 300 < n
  · have hbad := Lib.hid (show greatB d = true by rw [hg]; simp [h1])
    replace h1 : (300 : Int) < n := by omega
    clear hg
    subst e0
    clear f1 f2 f3
    go_enter Try.func11, Try.ntmps11
    go_wp2_with fail
    go_ret
    exact ⟨ret_bool hbad.out.symm, hB1⟩
  by_cases h2 : 5000 < m
  · have hbad := Lib.hid (show greatB d = true by rw [hg]; simp [h2])
    replace h2 : (5000 : Int) < m := by omega
    replace h1 : ¬ (300 : Int) < n := by omega
    clear hg
    subst e0
    clear f1 f2 f3
    go_enter Try.func11, Try.ntmps11
    go_wp2_with fail
    go_ret
    exact ⟨ret_bool hbad.out.symm, hB1⟩
  by_cases h3 : 600 < m ∧ m < 4096
  · have hbad := Lib.hid (show greatB d = true by rw [hg]; simp [h3])
    replace h2 : ¬ (5000 : Int) < m := by omega
    replace h1 : ¬ (300 : Int) < n := by omega
    have h3a : (600 : Int) < m := by omega
    have h3b : (m : Int) < 4096 := by omega
    clear hg h3
    subst e0
    clear f1 f2 f3
    go_enter Try.func11, Try.ntmps11
    go_wp2_with fail
    go_ret
    exact ⟨ret_bool hbad.out.symm, hB1⟩
  have hgd := Lib.hid (show greatB d = decide (800000 < sumB d.1 + sumW d.2) by
    have e1 : decide (300 < n) = false := by simpa using h1
    have e2 : decide (5000 < m) = false := by simpa using h2
    have e3 : (decide (600 < m) && decide (m < 4096)) = false := by
      rw [Bool.and_eq_false_iff]
      simp only [decide_eq_false_iff_not]
      omega
    rw [hg, e1, e2, e3]
    rfl)
  clear hg
  replace f3 := Lib.hid f3
  have hn3 : n ≤ 300 := by omega
  have hm3 : m ≤ 5000 := by omega
  by_cases h6 : 600 < m
  all_goals
    go_enter Try.func11, Try.ntmps11
    go_upto_region 1 with fail
    rw [← e0]
    clear e0
    go_wp2_with fail
    go_loop [3, 4] (fun s i => ∃ k : Nat, k ≤ n ∧ i = .int .i64 k ∧ s = .int .i64 (sumB (d.1.take k))) (fun _ i => n - (intOf i).toNat)
    case atStart => exact ⟨0, by omega, rfl, rfl⟩
    case round =>
      obtain ⟨k, hk, rfl, rfl⟩ := hrel
      have b1 := sumB_le (d.1.take k)
      have b2 : (d.1.take k).length ≤ k := List.length_take_le _ _
      by_cases hlt : k < n
      · obtain ⟨x, hx⟩ : ∃ x, d.1[k]? = some x := ⟨_, List.getElem?_eq_getElem (by rw [hn.out]; exact hlt)⟩
        obtain ⟨ad, v, rfl, hok, hc, hby⟩ := HA.out k x hx
        have hsn := Lib.hid (show sumB (d.1.take (k + 1)) = sumB (d.1.take k) + cap6 x.length by rw [List.take_add_one, hx]; exact sumB_snoc _ _)
        replace hx := Lib.hid hx
        obtain ⟨E, ce, rfl, _⟩ := rBy_open hby
        replace hc := (hB1.cell hok).trans hc
        have b3 := cap6_nonneg x.length
        generalize sumB (d.1.take k) = s at *
        generalize (d.1.take k).length = q at *
        go_wp2_with fail
        go_round
        case rel => exact ⟨k + 1, by omega, by go_num, by rw [hsn.out]; rfl⟩
        case measure => simp [intOf]; omega
      · have hge : n ≤ k := by omega
        have hs1 : Hid (d.1.take k = d.1) := Lib.hid (List.take_of_length_le (by rw [hn.out]; exact hge))
        rw [hs1.out] at b1 ⊢
        clear b2 hs1
        replace b1 : 0 ≤ sumB d.1 ∧ sumB d.1 ≤ 300000000 := by have := hn.out; omega
        replace hgd := hgd.out
        generalize sumB d.1 = s at *
        replace hgd := Lib.hid hgd
        go_wp2_with fail
        go_loop [3, 5] (fun u i => ∃ k : Nat, k ≤ m ∧ i = .int .i64 k ∧ u = .int .i64 (s + sumW (d.2.take k))) (fun _ i => m - (intOf i).toNat)
        case atStart => exact ⟨0, by omega, rfl, by simp [sumW]⟩
        case round =>
          obtain ⟨k, hk, rfl, rfl⟩ := hrel
          have c1 := sumW_le (d.2.take k)
          have c2 : (d.2.take k).length ≤ k := List.length_take_le _ _
          by_cases hlt : k < m
          · obtain ⟨x, hx⟩ : ∃ x, d.2[k]? = some x := ⟨_, List.getElem?_eq_getElem (by rw [hm.out]; exact hlt)⟩
            obtain ⟨ad, v, rfl, hok, hok2, _, hc, hby, _, _⟩ := HB.out k x hx
            have hsn := Lib.hid (show sumW (d.2.take (k + 1)) = sumW (d.2.take k) + cap6 x.2.length by rw [List.take_add_one, hx]; exact sumW_snoc _ _)
            replace hx := Lib.hid hx
            obtain ⟨E, ce, rfl, _⟩ := rBy_open hby
            replace hc := (hB1.cell hok2).trans hc
            rw [add_next] at hc
            have b3 := cap6_nonneg x.2.length
            generalize sumW (d.2.take k) = t at *
            generalize (d.2.take k).length = q at *
            go_wp2_with fail
            go_round
            case rel => exact ⟨k + 1, by omega, by go_num, by rw [hsn.out, ← Int.add_assoc]; rfl⟩
            case measure => simp [intOf]; omega
          · have hge2 : m ≤ k := by omega
            have hs1 : Hid (d.2.take k = d.2) := Lib.hid (List.take_of_length_le (by rw [hm.out]; exact hge2))
            rw [hs1.out] at c1 ⊢
            clear c2 hs1
            replace c1 : 0 ≤ sumW d.2 ∧ sumW d.2 ≤ 5000000000 := by have := hm.out; omega
            replace hgd := hgd.out
            generalize sumW d.2 = t at *
            replace hgd := Lib.hid hgd
            go_wp2_with fail
            go_ret
            exact ⟨ret_bool hgd.out.symm, hB1⟩
end Go.Proofs.Ytgnogclhleheiaa
