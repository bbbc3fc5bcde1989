/-
  Package code: the contracts of its functions, for this seat's translation. Conditions: those that each lemma states.
-/
import Derived.Test.YtkedhekcjoiebaaNum
import Derived.Outline
namespace Go.Proofs.Ytkedhekcjoiebaa
open Go.RowKit

/-- The cells of a slice of four bytes, and of two. -/
theorem Byt.at_ {w : World} {B : Nat} {A : Option Addr} {xs : List UInt8} (h : Byt w B A xs) (hn : 0 < xs.length) : ∃ ad, A = some ad ∧ ad.block < B ∧ ∀ j x, xs[j]? = some x → w.cell? (ad.add j) = some (.int .u8 (x.toNat : Int)) := by
  obtain ⟨ad, e, hb, hc⟩ := h hn
  refine ⟨ad, e, hb, fun j x hj => ?_⟩
  have hjl := (List.getElem?_eq_some_iff.1 hj).1
  rw [hc j hjl, hj]
  rfl

end Go.Proofs.Ytkedhekcjoiebaa
