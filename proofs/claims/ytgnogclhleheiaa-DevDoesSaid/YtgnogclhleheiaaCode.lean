/-
  Package code: the contracts of its functions, for this seat's translation. Conditions: those that each lemma states.
-/
import Derived.Test.YtgnogclhleheiaaNum
import Derived.Outline
namespace Go.Proofs.Ytgnogclhleheiaa
open Go.RowKit

/-- The cells of a slice of four bytes, and of two. -/
theorem Byt.at_ {w : World} {B : Nat} {A : Option Addr} {xs : List UInt8} (h : Byt w B A xs) (hn : 0 < xs.length) : ∃ ad, A = some ad ∧ ad.block < B ∧ ∀ j x, xs[j]? = some x → w.cell? (ad.add j) = some (.int .u8 (x.toNat : Int)) := by
  obtain ⟨ad, e, hb, hc⟩ := h hn
  refine ⟨ad, e, hb, fun j x hj => ?_⟩
  have hjl := (List.getElem?_eq_some_iff.1 hj).1
  rw [hc j hjl, hj]
  rfl

theorem four_any (n : Int) (h0 : 0 ≤ n) (h1 : n < 4294967296) (w : World) :
    Calls Try.prog 70 #[.int .u32 n] w fun e w' => ∃ A, e = .returned (.slice A 4 4) ∧ Byt w' w'.heap.size A (le 4 n) ∧ Below w.heap.size w w' := by
  go_enter Try.func70, Try.ntmps70
  go_wp2
  go_ret
  refine ⟨_, rfl, fun _ => ⟨_, rfl, by simp, fun j hj => ?_⟩, (Below.refl _ _).alloc (Nat.le_refl _) _⟩
  rw [le_length] at hj
  rw [le_get 4 n j hj]
  match j, hj with
  | 0, _ => simp [Addr.add]
  | 1, _ => simp [Addr.add]
  | 2, _ => simp [Addr.add]
  | 3, _ => simp [Addr.add]; omega

theorem two_ok (n : Int) (h0 : 0 ≤ n) (h1 : n < 65536) (w : World) :
    Calls Try.prog 68 #[.int .i64 n] w fun e w' => ∃ A, e = .returned (.tuple #[.slice A 2 2, .int .i64 0]) ∧ Byt w' w'.heap.size A (le 2 n) ∧ Below w.heap.size w w' := by
  go_enter Try.func68, Try.ntmps68
  go_wp2
  go_ret2
  refine ⟨_, rfl, fun _ => ⟨_, rfl, by simp, fun j hj => ?_⟩, (Below.refl _ _).alloc (Nat.le_refl _) _⟩
  rw [le_length] at hj
  rw [le_get 2 n j hj]
  match j, hj with
  | 0, _ => simp [Addr.add]
  | 1, _ => simp [Addr.add]; omega

theorem two_no (n : Int) (h : n < 0 ∨ 65535 < n) (w : World) :
    Calls Try.prog 68 #[.int .i64 n] w fun e w' => e = .returned (.tuple #[.slice none 0 0, .int .i64 2]) ∧ w = w' := by
  by_cases h' : n < 0
  · go_enter Try.func68, Try.ntmps68
    go_wp2
    go_ret2
    exact ⟨rfl, rfl⟩
  · have h2 : 65535 < n := by omega
    go_enter Try.func68, Try.ntmps68
    go_wp2
    go_ret2
    exact ⟨rfl, rfl⟩
end Go.Proofs.Ytgnogclhleheiaa
