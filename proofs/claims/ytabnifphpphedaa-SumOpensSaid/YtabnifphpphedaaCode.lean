/-
  Package code: the contracts of its functions, for this seat's translation. Conditions: those that each lemma states.
-/
import Derived.Test.YtabnifphpphedaaNum
import Derived.Outline
namespace Go.Proofs.Ytabnifphpphedaa
open Go.RowKit

/-- The cells of a slice of four bytes, and of two. -/
theorem Byt.at_ {w : World} {B : Nat} {A : Option Addr} {xs : List UInt8} (h : Byt w B A xs) (hn : 0 < xs.length) : ∃ ad, A = some ad ∧ ad.block < B ∧ ∀ j x, xs[j]? = some x → w.cell? (ad.add j) = some (.int .u8 (x.toNat : Int)) := by
  obtain ⟨ad, e, hb, hc⟩ := h hn
  refine ⟨ad, e, hb, fun j x hj => ?_⟩
  have hjl := (List.getElem?_eq_some_iff.1 hj).1
  rw [hc j hjl, hj]
  rfl

theorem four_any (n : Int) (h0 : 0 ≤ n) (h1 : n < 4294967296) (w : World) :
    Calls Try.prog 16 #[.int .u32 n] w fun e w' => ∃ A, e = .returned (.slice A 4 4) ∧ Byt w' w'.heap.size A (le 4 n) ∧ Below w.heap.size w w' := by
  go_enter Try.func16, Try.ntmps16
  go_wp2
  go_ret
  refine ⟨_, rfl, fun _ => ⟨_, rfl, by simp, fun j hj => ?_⟩, (Below.refl _ _).alloc (Nat.le_refl _) _⟩
  rw [le_length] at hj
  rw [le_get 4 n j hj]
  match j, hj with
  | 0, _ => simp [Addr.add]
  | 1, _ => simp [Addr.add]
  | 2, _ => simp [Addr.add]
  | 3, _ => simp [Addr.add]; omega

end Go.Proofs.Ytabnifphpphedaa
