/-
  Layer 2: the contracts for every argument. Conditions: those that each lemma states.
-/
import Derived.Test.YtabnifphpphedaaRef02
import Derived.Test.YtabnifphpphedaaOwn
namespace Go.Proofs.Ytabnifphpphedaa
open Go.RowKit

/-- What Seal and Open answer. -/
def sb (xs : List UInt8) : List UInt8 := if xs.length ≤ 124 then sealN xs else []
def se (n : Nat) : Int := if n ≤ 124 then 0 else 3
open Classical in
noncomputable def ob (xs : List UInt8) : List UInt8 := if xs.length = 128 ∧ fits xs then xs.drop 4 else []
open Classical in
noncomputable def oe (xs : List UInt8) : Int := if xs.length = 128 then (if fits xs then 0 else 8) else 3

theorem seal_any (A : Option Addr) (len cap : Nat) (xs : List UInt8) (hlen : Hid (xs.length = len)) (hlc : len ≤ cap) (hcap : cap ≤ 9223372036854775807) (w : World) (hx : Byt w w.heap.size A xs) :
    Calls Try.prog 9 #[.slice A len cap] w fun e w' => ∃ v, e = .returned (.tuple #[v, .int .i64 (se len)]) ∧ w'.ownsRow w.heap.size 5 1 v (sb xs).length (u8s (sb xs)) ∧ Below w.heap.size w w' := by
  by_cases h : len ≤ 124
  · have h1 : se len = 0 := if_pos h
    have h2 : sb xs = sealN xs := if_pos (by rw [hlen.out]; exact h)
    rw [h1, h2]
    refine (seal_ok A len cap xs hlen h hlc hcap w hx).mono ?_
    rintro e w' ⟨rfl, hR, hb⟩
    have hl := sealN_length (xs := xs) (by rw [hlen.out]; exact h)
    have := hR.own (Nat.le_refl _) (by omega)
    exact ⟨_, rfl, by rwa [hl] at this ⊢, hb⟩
  · have h1 : se len = 3 := if_neg h
    have h2 : sb xs = [] := if_neg (by rw [hlen.out]; exact h)
    rw [h1, h2]
    refine (seal_no A len cap (by omega) w).mono ?_
    rintro e w' ⟨rfl, rfl⟩
    exact ⟨_, rfl, World.ownsRow_nil _ _ _ _, Below.refl _ _⟩
theorem sealRef_any (A : Option Addr) (len cap : Nat) (xs : List UInt8) (hlen : Hid (xs.length = len)) (hlc : len ≤ cap) (hcap : cap ≤ 9223372036854775807) (w : World) (hx : Byt w w.heap.size A xs) :
    Calls Try.prog 13 #[.slice A len cap] w fun e w' => ∃ v, e = .returned (.tuple #[v, .int .i64 (se len)]) ∧ w'.ownsRow w.heap.size 5 1 v (sb xs).length (u8s (sb xs)) ∧ Below w.heap.size w w' := by
  by_cases h : len ≤ 124
  · have h1 : se len = 0 := if_pos h
    have h2 : sb xs = sealN xs := if_pos (by rw [hlen.out]; exact h)
    rw [h1, h2, sealN_length (xs := xs) (by rw [hlen.out]; exact h)]
    exact sealRef_ok A len cap xs hlen h hlc hcap w hx
  · have h1 : se len = 3 := if_neg h
    have h2 : sb xs = [] := if_neg (by rw [hlen.out]; exact h)
    rw [h1, h2]
    refine (sealRef_no A len cap (by omega) w).mono ?_
    rintro e w' ⟨rfl, rfl⟩
    exact ⟨_, rfl, World.ownsRow_nil _ _ _ _, Below.refl _ _⟩
theorem open_any (A : Option Addr) (len cap : Nat) (xs : List UInt8) (hlen : Hid (xs.length = len)) (hlc : len ≤ cap) (hcap : cap ≤ 9223372036854775807) (w : World) (hx : Byt w w.heap.size A xs) :
    Calls Try.prog 10 #[.slice A len cap] w fun e w' => ∃ v, e = .returned (.tuple #[v, .int .i64 (oe xs)]) ∧ w'.ownsRow w.heap.size 5 1 v (ob xs).length (u8s (ob xs)) ∧ Below w.heap.size w w' := by
  by_cases h : len = 128
  · subst h
    obtain ⟨ad, rfl, _, _⟩ := hx (by rw [hlen.out]; omega)
    by_cases hf : fits xs
    · have h1 : oe xs = 0 := by unfold oe; rw [if_pos hlen.out, if_pos hf]
      have h2 : ob xs = xs.drop 4 := by unfold ob; rw [if_pos ⟨hlen.out, hf⟩]
      rw [h1, h2, show (xs.drop 4).length = 124 by simp [hlen.out]]
      exact open_ok ad cap xs hlen hlc hcap w hx hf
    · have h1 : oe xs = 8 := by unfold oe; rw [if_pos hlen.out, if_neg hf]
      have h2 : ob xs = [] := by unfold ob; rw [if_neg (fun h => hf h.2)]
      rw [h1, h2]
      refine (open_bad ad cap xs hlen hlc hcap w hx hf).mono ?_
      rintro e w' ⟨rfl, hb⟩
      exact ⟨_, rfl, World.ownsRow_nil _ _ _ _, hb⟩
  · have h1 : oe xs = 3 := by unfold oe; rw [if_neg (by rw [hlen.out]; exact h)]
    have h2 : ob xs = [] := by unfold ob; rw [if_neg (fun h' => h (by rw [← hlen.out]; exact h'.1))]
    rw [h1, h2]
    refine (open_no A len cap h w).mono ?_
    rintro e w' ⟨rfl, rfl⟩
    exact ⟨_, rfl, World.ownsRow_nil _ _ _ _, Below.refl _ _⟩
theorem openRef_any (A : Option Addr) (len cap : Nat) (xs : List UInt8) (hlen : Hid (xs.length = len)) (hlc : len ≤ cap) (hcap : cap ≤ 9223372036854775807) (w : World) (hx : Byt w w.heap.size A xs) :
    Calls Try.prog 14 #[.slice A len cap] w fun e w' => ∃ v, e = .returned (.tuple #[v, .int .i64 (oe xs)]) ∧ w'.ownsRow w.heap.size 5 1 v (ob xs).length (u8s (ob xs)) ∧ Below w.heap.size w w' := by
  by_cases h : len = 128
  · subst h
    obtain ⟨ad, rfl, _, _⟩ := hx (by rw [hlen.out]; omega)
    by_cases hf : fits xs
    · have h1 : oe xs = 0 := by unfold oe; rw [if_pos hlen.out, if_pos hf]
      have h2 : ob xs = xs.drop 4 := by unfold ob; rw [if_pos ⟨hlen.out, hf⟩]
      rw [h1, h2, show (xs.drop 4).length = 124 by simp [hlen.out]]
      exact openRef_ok ad cap xs hlen hlc hcap w hx hf
    · have h1 : oe xs = 8 := by unfold oe; rw [if_pos hlen.out, if_neg hf]
      have h2 : ob xs = [] := by unfold ob; rw [if_neg (fun h => hf h.2)]
      rw [h1, h2]
      refine (openRef_bad ad cap xs hlen hlc hcap w hx hf).mono ?_
      rintro e w' ⟨rfl, hb⟩
      exact ⟨_, rfl, World.ownsRow_nil _ _ _ _, hb⟩
  · have h1 : oe xs = 3 := by unfold oe; rw [if_neg (by rw [hlen.out]; exact h)]
    have h2 : ob xs = [] := by unfold ob; rw [if_neg (fun h' => h (by rw [← hlen.out]; exact h'.1))]
    rw [h1, h2]
    refine (openRef_no A len cap h w).mono ?_
    rintro e w' ⟨rfl, rfl⟩
    exact ⟨_, rfl, World.ownsRow_nil _ _ _ _, Below.refl _ _⟩
end Go.Proofs.Ytabnifphpphedaa
