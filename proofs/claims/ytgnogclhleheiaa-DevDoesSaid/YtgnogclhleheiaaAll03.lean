/-
  Package dev at whatever arguments, its answers in new memory; a bag of facts that stay where memory grows. Conditions: those that each lemma states.
-/
import Derived.Test.YtgnogclhleheiaaRefCrash
import Derived.Test.YtgnogclhleheiaaRefWrite
import Derived.Test.YtgnogclhleheiaaRefBarrier
import Derived.Test.YtgnogclhleheiaaRefRead
import Derived.Test.YtgnogclhleheiaaRefTwin
import Derived.Test.YtgnogclhleheiaaSpoil
namespace Go.Proofs.Ytgnogclhleheiaa
open Go.RowKit

theorem rBy_none_new (lo : Nat) (w : World) : rBy (New lo w) w [.slice none 0 0] [] := ⟨none, 0, rfl, by simp, by omega, fun i x h => by simp at h⟩
theorem read_all (v : Value) (d : Dk) (n : Int) (w : World) (h : Dsk (Old w) w v d) :
    Calls Try.prog 17 #[v, .int .i64 n] w fun e w' => ∃ u, e = .returned (.tuple #[u, .int .i64 (chkAt d n)]) ∧ rBy (New w.heap.size w') w' [u] (rdX d n) ∧ Below w.heap.size w w' := by
  by_cases hn : mayB d = true ∧ thereB n = true
  · obtain ⟨hm, ht⟩ := hn
    have e0 : chkAt d n = 0 := by simp [chkAt, hm, ht]
    obtain ⟨k, rfl, hk⟩ := thereB_nat ht
    refine (read_ok v d k w h hm hk).mono ?_
    rintro e w' ⟨u, rfl, hu, hb⟩
    have e1 : rdX d (k : Int) = seenD d k := by simp [rdX, e0]
    rw [e0, e1]
    exact ⟨u, rfl, hu, hb⟩
  · refine (read_bad v d n w h hn).mono ?_
    rintro e w' ⟨rfl, hb⟩
    have e0 : chkAt d n ≠ 0 := by
      unfold chkAt
      cases h1 : mayB d <;> cases h2 : thereB n <;> simp_all
    have e1 : rdX d n = [] := by simp [rdX, e0]
    rw [e1]
    exact ⟨_, rfl, rBy_none_new _ _, hb⟩
theorem write_all (v u : Value) (d : Dk) (n : Int) (xs : List UInt8) (w : World) (h : Dsk (Old w) w v d) (hu : rBy (Old w) w [u] xs) :
    Calls Try.prog 19 #[v, .int .i64 n, u] w fun e w' => ∃ x, e = .returned (.tuple #[x, .int .i64 (wErr d n xs)]) ∧ Dsk (New w.heap.size w') w' x (wrR d n xs) ∧ Below w.heap.size w w' :=
  (write_new v u d n xs w h hu).mono fun _ _ ⟨_, _, _, _, e, hx, hb⟩ => ⟨_, e, hx, hb⟩
theorem barrier_all (v : Value) (d : Dk) (w : World) (h : Dsk (Old w) w v d) :
    Calls Try.prog 21 #[v] w fun e w' => ∃ x, e = .returned (.tuple #[x, .int .i64 (chk d)]) ∧ Dsk (New w.heap.size w') w' x (barX d) ∧ Below w.heap.size w w' := by
  cases hm : mayB d with
  | true =>
    refine (barrier_ok v d w h hm).mono ?_
    rintro e w' ⟨u, rfl, hu, hb⟩
    rw [chk_ok hm, show barX d = settledD d by simp [barX, hm]]
    exact ⟨u, rfl, hu, hb⟩
  | false =>
    refine (barrier_bad v d w h hm).mono ?_
    rintro e w' ⟨rfl, hb⟩
    rw [chk_bad hm, show barX d = emptyD by simp [barX, hm]]
    exact ⟨_, rfl, dsk_empty_new _ _, hb⟩
theorem crash_all (v u : Value) (d : Dk) (ks : List Bool) (w : World) (h : Dsk (Old w) w v d) (hu : rSl 1 rBool (Old w) w [u] ks) :
    Calls Try.prog 23 #[v, u] w fun e w' => ∃ x, e = .returned (.tuple #[x, .int .i64 (craE d ks)]) ∧ Dsk (New w.heap.size w') w' x (craX d ks) ∧ Below w.heap.size w w' := by
  cases hm : mayB d with
  | true =>
    by_cases hl : ks.length = d.2.length
    · refine (crash_ok v u d ks w h hu hm hl).mono ?_
      rintro e w' ⟨x, rfl, hx, hb⟩
      rw [show craE d ks = 0 by simp [craE, hm, hl], show craX d ks = settledD (keptD d ks) by simp [craX, hm, hl]]
      exact ⟨x, rfl, hx, hb⟩
    · refine (crash_len v u d ks w h hu hm hl).mono ?_
      rintro e w' ⟨rfl, hb⟩
      rw [show craE d ks = 2 by simp [craE, hm, hl], show craX d ks = emptyD by simp [craX, hm, hl]]
      exact ⟨_, rfl, dsk_empty_new _ _, hb⟩
  | false =>
    refine (crash_bad v u d ks w h hu hm).mono ?_
    rintro e w' ⟨rfl, hb⟩
    rw [show craE d ks = 8 by simp [craE, hm], show craX d ks = emptyD by simp [craX, hm]]
    exact ⟨_, rfl, dsk_empty_new _ _, hb⟩

/-! ### A bag of facts -/
/-- It stays where memory grows. -/
def Lasts (F : World → Prop) : Prop := ∀ w w', F w → Below w.heap.size w w' → F w'
def Bag (w : World) (Fs : List (World → Prop)) : Prop := ∀ F ∈ Fs, F w ∧ Lasts F
section
variable {w w' : World} {Fs : List (World → Prop)} {F : World → Prop}
theorem Bag.nil (w : World) : Bag w [] := fun F h => by cases h
theorem Bag.below (h : Bag w Fs) (hb : Below w.heap.size w w') : Bag w' Fs := fun F hF => ⟨(h F hF).2 w w' (h F hF).1 hb, (h F hF).2⟩
theorem Bag.add (h : Bag w Fs) (hF : F w) (hk : Lasts F) : Bag w (F :: Fs) := fun G hG => by
  rcases List.mem_cons.1 hG with h1 | h1
  · rw [h1]
    exact ⟨hF, hk⟩
  · exact h G h1
theorem Bag.at (h : Bag w Fs) (i : Nat) (hi : Fs[i]? = some F) : F w := (h F (List.mem_of_getElem? hi)).1
end
/-- Two cells that are a box. -/
def Box2 (g : Nat) (a b : Value) : World → Prop := fun w => w.cell? ⟨g, 0, none⟩ = some a ∧ w.cell? ⟨g, 1, none⟩ = some b ∧ g < w.heap.size
theorem lasts_box (g : Nat) (a b : Value) : Lasts (Box2 g a b) := fun w w' h hb => ⟨(hb.cell (p := ⟨g, 0, none⟩) h.2.2).trans h.1, (hb.cell (p := ⟨g, 1, none⟩) h.2.2).trans h.2.1, Nat.lt_of_lt_of_le h.2.2 hb.size⟩
theorem Spoilt.box {lo : Nat} {w wr : World} (h : Spoilt lo w wr) {g : Nat} {A B : Option Addr} {n c m e : Nat} (hb : Box2 g (.slice A n c) (.slice B m e) w) : Box2 g (.slice A n c) (.slice B m e) wr :=
  ⟨h.rest ⟨g, 0, none⟩ _ hb.2.2 hb.1 (by simp), h.rest ⟨g, 1, none⟩ _ hb.2.2 hb.2.1 (by simp), Nat.lt_of_lt_of_le hb.2.2 h.low.size⟩
def OldD (v : Value) (d : Dk) : World → Prop := fun w => Dsk (Old w) w v d
def NewD (lo : Nat) (v : Value) (d : Dk) : World → Prop := fun w => Dsk (New lo w) w v d
def OldB (v : Value) (xs : List UInt8) : World → Prop := fun w => rBy (Old w) w [v] xs
def NewB (lo : Nat) (v : Value) (xs : List UInt8) : World → Prop := fun w => rBy (New lo w) w [v] xs
def OldK (v : Value) (ks : List Bool) : World → Prop := fun w => rSl 1 rBool (Old w) w [v] ks
theorem lasts_oldD (v : Value) (d : Dk) : Lasts (OldD v d) := fun _ _ h hb => h.below hb
theorem lasts_newD (lo : Nat) (v : Value) (d : Dk) : Lasts (NewD lo v d) := fun _ _ h hb => h.new (Nat.le_refl _) hb
theorem lasts_oldB (v : Value) (xs : List UInt8) : Lasts (OldB v xs) := fun _ _ h hb => stab_by.old h hb
theorem lasts_newB (lo : Nat) (v : Value) (xs : List UInt8) : Lasts (NewB lo v xs) := fun _ _ h hb => stab_by.new h (Nat.le_refl _) hb
theorem lasts_oldK (v : Value) (ks : List Bool) : Lasts (OldK v ks) := fun _ _ h hb => (stab_sl stab_bool).old h hb
def SizeF (lo : Nat) : World → Prop := fun w => lo ≤ w.heap.size
theorem lasts_size (lo : Nat) : Lasts (SizeF lo) := fun _ _ h hb => Nat.le_trans h hb.size
/-- A box that is just made. -/
theorem bag_box {w w1 : World} {Fs : List (World → Prop)} (h : Bag w Fs) (hb : Below w.heap.size w w1) (a b : Value) : ∃ w', w1.alloc (.cells #[a, b] 25) = w' ∧ Bag w' (Box2 w1.heap.size a b :: Fs) ∧ Below w.heap.size w w' ∧ Below w1.heap.size w1 w' ∧ w1.heap.size < w'.heap.size := by
  obtain ⟨w2, e2, k1, k2, k3, k4⟩ := box_pair w1 a b 25
  exact ⟨w2, e2, ((h.below hb).below k4).add ⟨k1, k2, by omega⟩ (lasts_box _ _ _), hb.trans (k4.mono hb.size), k4, by omega⟩
end Go.Proofs.Ytgnogclhleheiaa
