/-
  The laws' own functions of layer 3: full, alive. Conditions: those that each lemma states.
-/
import Derived.Test.YtgnogclhleheiaaDevWrite
import Derived.Test.YtgnogclhleheiaaDevCrash
import Derived.Test.YtgnogclhleheiaaAny
import Derived.Test.YtgnogclhleheiaaSame
namespace Go.Proofs.Ytgnogclhleheiaa
open Go.RowKit

theorem byte_info0 : (Try.prog.info? 5).map (fun i => (i.zero, i.size, i.bytes)) = some (some (.int .u8 0), 1, 1) := by kernel_rfl
theorem zero_len1 : zeroD.1.length = 256 := List.length_replicate
theorem zero_len2 : zeroD.2.length = 0 := rfl
theorem zero_at {k : Nat} (hk : k < 256) : zeroD.1[k]? = some (List.replicate 128 0) := by
  rw [show zeroD.1 = List.replicate 256 (List.replicate 128 0) from rfl, List.getElem?_replicate, if_pos hk]
theorem may_zero : mayB zeroD = true := by
  refine may_mk zero_len1 (by rw [zero_len2]; omega) ?_ rfl
  rw [List.all_eq_true]
  intro x hx
  obtain ⟨j, hj⟩ := List.getElem?_of_mem hx
  have hjl := (List.getElem?_eq_some_iff.1 hj).1
  rw [zero_len1] at hjl
  rw [zero_at hjl] at hj
  cases hj
  exact decide_eq_true List.length_replicate
/-- A disk with one write more. -/
def wrD (d : Dk) (k : Nat) (xs : List UInt8) : Dk := (d.1, d.2 ++ [((k : Int), xs)])
theorem wrD_fst (d : Dk) (k : Nat) (xs : List UInt8) : (wrD d k xs).1 = d.1 := rfl
theorem wrD_len (d : Dk) (k : Nat) (xs : List UInt8) : (wrD d k xs).2.length = d.2.length + 1 := by simp [wrD]
theorem may_write {d : Dk} {k : Nat} {xs : List UInt8} (h : mayB d = true) (hk : k < 256) (hl : xs.length = 128) (hf : d.2.length < 4096) : mayB (wrD d k xs) = true := by
  obtain ⟨h1, h2, h3, h4⟩ := may_of h
  refine may_mk h1 (by rw [wrD_len]; omega) ?_ ?_
  · rw [List.all_eq_true]
    intro x hx
    obtain ⟨j, hj⟩ := List.getElem?_of_mem hx
    exact decide_eq_true (h3 j x hj)
  · rw [List.all_eq_true]
    intro x hx
    rcases List.mem_append.1 hx with hx | hx
    · obtain ⟨j, hj⟩ := List.getElem?_of_mem hx
      obtain ⟨a, b, c⟩ := h4 j x hj
      exact wtB_yes a b c
    · obtain rfl := List.mem_singleton.1 hx
      exact wtB_yes (show (0 : Int) ≤ (k : Int) by omega) (show (k : Int) < 256 by omega) hl
theorem seenD_write {d : Dk} {k : Nat} {xs : List UInt8} : seenD (wrD d k xs) k = xs := by
  simp [wrD, seenD, seenW]
theorem seenD_write_ne {d : Dk} {k j : Nat} {xs : List UInt8} (h : j ≠ k) : seenD (wrD d k xs) j = seenD d j := by
  have : ¬ (k : Int) = j := by omega
  simp [wrD, seenD, seenW, this]
theorem write_wr (v u : Value) (d : Dk) (k : Nat) (xs : List UInt8) (w : World) (h : Dsk (Old w) w v d) (hu : rBy (Old w) w [u] xs) (hm : mayB d = true) (hk : k < 256) (hl : xs.length = 128) (hf : d.2.length < 4096) :
    Calls Try.prog 19 #[v, .int .i64 k, u] w fun e w' => ∃ x, e = .returned (.tuple #[x, .int .i64 0]) ∧ Dsk (New w.heap.size w') w' x (wrD d k xs) ∧ Below w.heap.size w w' := write_ok v u d k xs w h hu hm hk hl hf

end Go.Proofs.Ytgnogclhleheiaa
