/-
  Rows of bytes of a call's own: what they are once more blocks have been made, and once one byte is stored. Conditions: those that each lemma states.
-/
import Derived.Test.YtabnifphpphedaaRow
import Derived.Laws.OwnMore
namespace Go.Proofs.Ytabnifphpphedaa
open Go.RowKit

theorem own_after {w w' : World} {B : Nat} {e : TypeId} {v : Value} {n : Nat} {xs : List Value} (h : w.ownsRow B e 1 v n xs) (hb : Below w.heap.size w w') : w'.ownsRow B e 1 v n xs := by
  refine ⟨h.1, h.2.imp id ?_⟩
  rintro ⟨g, cap, cur, h1, h2, h3, h4⟩
  exact ⟨g, cap, cur, h1, h2, (hb.block g (Array.getElem?_eq_some_iff.1 h3).1).trans h3, h4⟩
theorem own_to {w : World} {B B' : Nat} {e : TypeId} {v : Value} {n : Nat} {xs : List Value} (h : w.ownsRow B e 1 v n xs) (hb : B' ≤ B) : w.ownsRow B' e 1 v n xs := by
  refine ⟨h.1, h.2.imp id ?_⟩
  rintro ⟨g, cap, cur, h1, h2, h3⟩
  exact ⟨g, cap, cur, h1, Nat.le_trans hb h2, h3⟩
/-- A block that is known whole, as a row of the call's own. -/
theorem Row.own {w : World} {g B : Nat} {xs : List UInt8} (h : Row w g xs) (hb : B ≤ g) (hm : xs.length ≤ 9223372036854775807) : w.ownsRow B 5 1 (.slice (some ⟨g, 0, none⟩) xs.length xs.length) xs.length (u8s xs) :=
  ⟨by simp [u8s], .inr ⟨g, xs.length, (u8s xs).toArray, rfl, hb, h, Nat.le_refl _, by unfold maxLen; omega, by simp [u8s], by simp [u8s, List.take_of_length_le]⟩⟩
/-- Where there is a byte, the slice has an address: the head of a block of the call's own. -/
theorem own_head {w : World} {B n : Nat} {e : TypeId} {v : Value} {xs : List Value} (h : w.ownsRow B e 1 v n xs) (h0 : 0 < n) : ∃ g c, v = .slice (some ⟨g, 0, none⟩) n c ∧ B ≤ g ∧ g < w.heap.size ∧ n ≤ c ∧ c ≤ 9223372036854775807 := by
  rcases h.2 with ⟨_, h'⟩ | ⟨g, cap, cur, rfl, hb, hg, hnc, hcm, _⟩
  · omega
  · exact ⟨g, cap, rfl, hb, (Array.getElem?_eq_some_iff.1 hg).1, hnc, by unfold maxLen at hcm; exact hcm⟩
theorem own_cell {w : World} {B n g c : Nat} {xs : List UInt8} (h : w.ownsRow B 5 1 (.slice (some ⟨g, 0, none⟩) n c) n (u8s xs)) {j : Nat} (hj : j < n) : w.cell? ⟨g, j, none⟩ = some (.int .u8 ((xs[j]?.getD 0).toNat : Int)) := by
  rw [h.cellAt j (by omega)]
  have hl : xs.length = n := by have := h.1; simpa [u8s] using this
  exact u8s_get xs j (by omega)
theorem own_set {w : World} {B n g c : Nat} {xs : List UInt8} (h : w.ownsRow B 5 1 (.slice (some ⟨g, 0, none⟩) n c) n (u8s xs)) (j : Nat) (x : UInt8) : (w.setCell ⟨g, j, none⟩ (.int .u8 (x.toNat : Int))).ownsRow B 5 1 (.slice (some ⟨g, 0, none⟩) n c) n (u8s (xs.set j x)) := by
  have := (h.stored j (.int .u8 (x.toNat : Int))).1
  rwa [show (u8s xs).set j (.int .u8 (x.toNat : Int)) = u8s (xs.set j x) by simp [u8s, List.map_set]] at this
theorem own_length {w : World} {B n : Nat} {v : Value} {xs : List UInt8} (h : w.ownsRow B 5 1 v n (u8s xs)) : xs.length = n := by
  have := h.1
  simpa [u8s] using this
end Go.Proofs.Ytabnifphpphedaa
