/-
  How lists of cells read as data: numbers, bytes, slices of whatever, pairs; what stays where cells stay; arguments opened so. No program, no condition but those that each lemma states.
-/
import Derived.Test.YtgnogclhleheiaaBase
import Derived.Deep.Slices
import Derived.Lib.SmallJoins
namespace Go.Proofs.Ytgnogclhleheiaa
open Go.ChangeShapes Go.WideShapes Go.RowKit

/-- How cells read as data, where each cell that is met lies at an address of 'ok'. -/
abbrev Rel (α : Type) := (Addr → Prop) → World → List Value → α → Prop
def rK (k : IntKind) : Rel Int := fun _ _ cs n => cs = [.int k n] ∧ k.min ≤ n ∧ n ≤ k.max
def rU8 : Rel UInt8 := fun _ _ cs x => cs = [.int .u8 (x.toNat : Int)]
def rBool : Rel Bool := fun _ _ cs b => cs = [.bool b]
def rSl {α : Type} (n : Nat) (R : Rel α) : Rel (List α) := fun ok w cs xs => ∃ A cap, cs = [.slice A xs.length cap] ∧ xs.length ≤ cap ∧ cap ≤ 9223372036854775807 ∧
  ∀ i x, xs[i]? = some x → ∃ ad vs, A = some ad ∧ vs.length = n ∧ (∀ j v, vs[j]? = some v → ok (ad.add (i * n + j)) ∧ w.cell? (ad.add (i * n + j)) = some v) ∧ R ok w vs x
def rPair {α β : Type} (R : Rel α) (S : Rel β) : Rel (α × β) := fun ok w cs x => ∃ c d, cs = c ++ d ∧ R ok w c x.1 ∧ S ok w d x.2

/-- Cells that lie there. -/
def Old (w : World) : Addr → Prop := fun p => p.block < w.heap.size
/-- Cells of the call's own, that may be written. -/
def New (lo : Nat) (w : World) : Addr → Prop := fun p => lo ≤ p.block ∧ p.block < w.heap.size ∧ w.frozen? p = false
theorem New.old {lo : Nat} {w : World} {p : Addr} (h : New lo w p) : Old w p := h.2.1

def Stab {α : Type} (R : Rel α) : Prop := ∀ (ok ok' : Addr → Prop) (w w' : World) (cs : List Value) (x : α), (∀ p v, ok p → w.cell? p = some v → ok' p ∧ w'.cell? p = some v) → R ok w cs x → R ok' w' cs x
theorem stab_k (k : IntKind) : Stab (rK k) := fun _ _ _ _ _ _ _ h => h
theorem stab_u8 : Stab rU8 := fun _ _ _ _ _ _ _ h => h
theorem stab_bool : Stab rBool := fun _ _ _ _ _ _ _ h => h
theorem stab_sl {α : Type} {n : Nat} {R : Rel α} (h : Stab R) : Stab (rSl n R) := fun ok ok' w w' cs xs hk hr => by
  obtain ⟨A, cap, h1, h2, h3, h4⟩ := hr
  refine ⟨A, cap, h1, h2, h3, fun i x hi => ?_⟩
  obtain ⟨ad, vs, e1, e2, e3, e4⟩ := h4 i x hi
  exact ⟨ad, vs, e1, e2, fun j v hj => hk _ _ (e3 j v hj).1 (e3 j v hj).2, h _ _ _ _ _ _ hk e4⟩
theorem stab_pair {α β : Type} {R : Rel α} {S : Rel β} (h : Stab R) (h' : Stab S) : Stab (rPair R S) := fun ok ok' w w' cs xs hk hr => by
  obtain ⟨c, d, h1, h2, h3⟩ := hr
  exact ⟨c, d, h1, h _ _ _ _ _ _ hk h2, h' _ _ _ _ _ _ hk h3⟩
section
variable {α : Type} {R : Rel α} (hR : Stab R) {w w' : World} {cs : List Value} {x : α}
include hR
theorem Stab.old (h : R (Old w) w cs x) (hb : Below w.heap.size w w') : R (Old w') w' cs x :=
  hR _ _ _ _ _ _ (fun p v hp hc => ⟨Nat.lt_of_lt_of_le hp hb.size, (hb.cell hp).trans hc⟩) h
theorem Stab.drop {lo : Nat} (h : R (New lo w) w cs x) : R (Old w) w cs x :=
  hR _ _ _ _ _ _ (fun p v hp hc => ⟨hp.2.1, hc⟩) h
theorem Stab.new {lo lo' : Nat} (h : R (New lo w) w cs x) (hl : lo' ≤ lo) (hb : Below w.heap.size w w') : R (New lo' w') w' cs x :=
  hR _ _ _ _ _ _ (fun p v hp hc => ⟨⟨Nat.le_trans hl hp.1, Nat.lt_of_lt_of_le hp.2.1 hb.size, (hb.frozen hp.2.1).trans hp.2.2⟩, (hb.cell hp.2.1).trans hc⟩) h
end

/-- The cell behind, as the walk spells it. -/
theorem add_next (a : Addr) (i : Nat) : a.add (i + 1) = ⟨(a.add i).block, (a.add i).off + 1, none⟩ := by
  unfold Addr.add
  by_cases hi : i = 0 <;> simp [hi, Nat.add_assoc]

/-! ### Bytes -/
def rBy : Rel (List UInt8) := rSl 1 rU8
theorem stab_by : Stab rBy := stab_sl stab_u8
theorem rBy_open {ok : Addr → Prop} {w : World} {v : Value} {xs : List UInt8} (h : rBy ok w [v] xs) : ∃ A cap, v = .slice A xs.length cap ∧ xs.length ≤ cap ∧ cap ≤ 9223372036854775807 ∧
    ∀ i, i < xs.length → ∃ ad, A = some ad ∧ ok (ad.add i) ∧ w.cell? (ad.add i) = some (.int .u8 ((xs[i]?.getD 0).toNat : Int)) := by
  obtain ⟨A, cap, h1, h2, h3, h4⟩ := h
  refine ⟨A, cap, by simpa using h1, h2, h3, fun i hi => ?_⟩
  obtain ⟨ad, vs, e1, _, e3, e4⟩ := h4 i _ (List.getElem?_eq_getElem hi)
  unfold rU8 at e4
  subst e4
  have := e3 0 _ rfl
  rw [Nat.mul_one, Nat.add_zero] at this
  exact ⟨ad, e1, this.1, by rw [this.2, List.getElem?_eq_getElem hi]; rfl⟩
theorem rBy_byt {ok : Addr → Prop} {w : World} {B : Nat} {v : Value} {xs : List UInt8} (hok : ∀ p, ok p → p.block < B) (h : rBy ok w [v] xs) : ∃ A cap, v = .slice A xs.length cap ∧ xs.length ≤ cap ∧ cap ≤ 9223372036854775807 ∧ Byt w B A xs := by
  obtain ⟨A, cap, h1, h2, h3, h4⟩ := rBy_open h
  refine ⟨A, cap, h1, h2, h3, fun hp => ?_⟩
  obtain ⟨ad, rfl, hb, _⟩ := h4 0 hp
  refine ⟨ad, rfl, by have := hok _ hb; rwa [add_block] at this, fun j hj => ?_⟩
  obtain ⟨ad', e, _, hc⟩ := h4 j hj
  cases e
  exact hc
theorem byt_rBy {w : World} {A : Option Addr} {cap : Nat} {xs : List UInt8} (h : Byt w w.heap.size A xs) (hl : xs.length ≤ cap) (hc : cap ≤ 9223372036854775807) : rBy (Old w) w [.slice A xs.length cap] xs := by
  refine ⟨A, cap, rfl, hl, hc, fun i x hi => ?_⟩
  have hil : i < xs.length := (List.getElem?_eq_some_iff.1 hi).1
  obtain ⟨ad, e, hb, hce⟩ := h (by omega)
  refine ⟨ad, [.int .u8 (x.toNat : Int)], e, rfl, fun j v hj => ?_, rfl⟩
  have hj0 : j = 0 := by
    have := (List.getElem?_eq_some_iff.1 hj).1
    simp at this
    omega
  subst hj0
  cases hj
  rw [Nat.mul_one, Nat.add_zero]
  exact ⟨by unfold Old; rw [add_block]; exact hb, by rw [hce i hil, hi]; rfl⟩
theorem own_by {w : World} {base n : Nat} {t : TypeId} {v : Value} {xs : List UInt8} (h : w.ownsRow base t 1 v n (u8s xs)) : rBy (New base w) w [v] xs := by
  have hl : xs.length = n := by simpa [u8s] using h.1
  subst hl
  rcases h.2 with ⟨rfl, h0⟩ | ⟨g, cap, cur, rfl, hbg, hg, hnc, hcm, _, _⟩
  · have : xs = [] := List.eq_nil_of_length_eq_zero h0
    subst this
    exact ⟨none, 0, rfl, by simp, by omega, fun i x hi => by simp at hi⟩
  · refine ⟨_, cap, rfl, hnc, by unfold maxLen at hcm; exact hcm, fun i x hi => ?_⟩
    refine ⟨_, [.int .u8 (x.toNat : Int)], rfl, rfl, fun j v hj => ?_, rfl⟩
    have hj0 : j = 0 := by
      have := (List.getElem?_eq_some_iff.1 hj).1
      simp at this
      omega
    subst hj0
    cases hj
    have hlt : g < w.heap.size := (Array.getElem?_eq_some_iff.1 hg).1
    rw [Nat.mul_one, Nat.add_zero]
    refine ⟨⟨by rw [add_block]; exact hbg, by rw [add_block]; exact hlt, ?_⟩, h.cells (g := g) rfl i _ (by simp [u8s, hi])⟩
    simp only [World.frozen?, add_block, hg]
    simp

/-- A store ahead of what is new. -/
theorem Stab.put {α : Type} {R : Rel α} (hR : Stab R) {w : World} {cs : List Value} {x : α} {lo : Nat} (h : R (New lo w) w cs x) {p : Addr} (hp : p.block < lo) (u : Value) : R (New lo (w.setCell p u)) (w.setCell p u) cs x :=
  hR _ _ _ _ _ _ (fun q v hq hc => by
    have hne : q.block ≠ p.block := by have := hq.1; omega
    have hb := Below.heap_setCell w p u q.block hne
    exact ⟨⟨hq.1, by simpa using hq.2.1, (World.frozen?_of_block hb).trans hq.2.2⟩, (World.cell?_of_block hb).trans hc⟩) h
/-- One block turned, ahead of what is new. -/
theorem Stab.grown {α : Type} {R : Rel α} (hR : Stab R) {w w' : World} {cs : List Value} {x : α} {lo : Nat} {row : Option Nat} (h : R (New lo w) w cs x) (hg : w.grownBy w' row) (hr : ∀ q, row = some q → q < lo) : R (New lo w') w' cs x :=
  hR _ _ _ _ _ _ (fun q v hq hc => by
    have hb := hg.block q.block hq.2.1 (fun e => by have := hr _ e.symm; have := hq.1; omega)
    exact ⟨⟨hq.1, Nat.lt_of_lt_of_le hq.2.1 hg.size, (World.frozen?_of_block hb).trans hq.2.2⟩, (World.cell?_of_block hb).trans hc⟩) h
theorem Stab.mono {α : Type} {R : Rel α} (hR : Stab R) {w : World} {cs : List Value} {x : α} {lo lo' : Nat} (h : R (New lo w) w cs x) (hl : lo' ≤ lo) : R (New lo' w) w cs x :=
  hR _ _ _ _ _ _ (fun q v hq hc => ⟨⟨Nat.le_trans hl hq.1, hq.2⟩, hc⟩) h
/-- A row of the call's own reads so, if its cells do. -/
theorem own_sl {α : Type} {R : Rel α} {w : World} {base size n : Nat} {t : TypeId} {v : Value} {cs : List Value} {xs : List α} (h : w.ownsRow base t size v n cs) (hl : xs.length = n)
    (hx : ∀ i x, xs[i]? = some x → ∃ vs, vs.length = size ∧ (∀ j u, vs[j]? = some u → cs[i * size + j]? = some u) ∧ R (New base w) w vs x) : rSl size R (New base w) w [v] xs := by
  subst hl
  rcases h.2 with ⟨rfl, h0⟩ | ⟨g, cap, cur, rfl, hbg, hg, hnc, hcm, _, _⟩
  · have : xs = [] := List.eq_nil_of_length_eq_zero h0
    subst this
    exact ⟨none, 0, rfl, by simp, by omega, fun i x hi => by simp at hi⟩
  · refine ⟨_, cap, rfl, hnc, by unfold maxLen at hcm; exact hcm, fun i x hi => ?_⟩
    obtain ⟨vs, h1, h2, h3⟩ := hx i x hi
    have hlt : g < w.heap.size := (Array.getElem?_eq_some_iff.1 hg).1
    refine ⟨_, vs, rfl, h1, fun j u hj => ⟨⟨by rw [add_block]; exact hbg, by rw [add_block]; exact hlt, ?_⟩, h.cells (g := g) rfl _ u (h2 j u hj)⟩, h3⟩
    simp only [World.frozen?, add_block, hg]
    simp

/-- The same, its elements lying elsewhere, too. -/
theorem own_sl_ok {α : Type} {R : Rel α} {ok : Addr → Prop} {w : World} {base size n : Nat} {t : TypeId} {v : Value} {cs : List Value} {xs : List α} (hok : ∀ p : Addr, v.ownBlock = some p.block → New base w p → ok p) (h : w.ownsRow base t size v n cs) (hl : xs.length = n)
    (hx : ∀ i x, xs[i]? = some x → ∃ vs, vs.length = size ∧ (∀ j u, vs[j]? = some u → cs[i * size + j]? = some u) ∧ R ok w vs x) : rSl size R ok w [v] xs := by
  subst hl
  rcases h.2 with ⟨rfl, h0⟩ | ⟨g, cap, cur, rfl, hbg, hg, hnc, hcm, _, _⟩
  · have : xs = [] := List.eq_nil_of_length_eq_zero h0
    subst this
    exact ⟨none, 0, rfl, by simp, by omega, fun i x hi => by simp at hi⟩
  · refine ⟨_, cap, rfl, hnc, by unfold maxLen at hcm; exact hcm, fun i x hi => ?_⟩
    obtain ⟨vs, h1, h2, h3⟩ := hx i x hi
    have hlt : g < w.heap.size := (Array.getElem?_eq_some_iff.1 hg).1
    refine ⟨_, vs, rfl, h1, fun j u hj => ⟨hok _ (by rw [add_block]; rfl) ⟨by rw [add_block]; exact hbg, by rw [add_block]; exact hlt, ?_⟩, h.cells (g := g) rfl _ u (h2 j u hj)⟩, h3⟩
    simp only [World.frozen?, add_block, hg]
    simp

/-! ### A list out of its elements -/
theorem list_of {α : Type} {p : Nat → α → Prop} : ∀ {n : Nat}, (∀ i, i < n → ∃ x, p i x) → ∃ xs : List α, xs.length = n ∧ ∀ i x, xs[i]? = some x → p i x
  | 0, _ => ⟨[], rfl, fun i x h => by simp at h⟩
  | n + 1, h => by
    obtain ⟨xs, hl, hx⟩ := list_of (n := n) (p := p) (fun i hi => h i (by omega))
    obtain ⟨y, hy⟩ := h n (by omega)
    refine ⟨xs ++ [y], by simp [hl], fun i x hi => ?_⟩
    rcases Nat.lt_or_ge i n with h1 | h1
    · rw [List.getElem?_append_left (by omega)] at hi
      exact hx i x hi
    · rw [List.getElem?_append_right (by omega)] at hi
      have h2 : i = n := by
        have := (List.getElem?_eq_some_iff.1 hi).1
        simp at this
        omega
      subst h2
      rw [hl] at hi
      simp at hi
      subst hi
      exact hy

/-! ### Arguments -/
def Opens {α : Type} (P : Program) (t : TypeId) (R : Rel α) : Prop := ∀ {H : Type} {enc : TypeId × Value → H} {w : World} {spare : Nat → Bool} {held : Bool} {fuel : Nat} {cs : List Value} {x : DataW H × List MemPlace},
  DataW.trod enc P w 0 spare held fuel t cs = some x → ∃ a, R (Old w) w cs a
theorem opens_k {P : Program} {t : TypeId} {k : IntKind} (ht : P.underlying t = some (.int k)) : Opens P t (rK k) := fun h => by
  obtain ⟨n, rfl, _, hw⟩ := DataW.trod_int ht h
  exact ⟨n, rfl, by simpa [Lit.wf] using hw⟩
theorem opens_u8 {P : Program} {t : TypeId} (ht : P.underlying t = some (.int .u8)) : Opens P t rU8 := fun h => by
  obtain ⟨n, rfl, _, hw⟩ := DataW.trod_int ht h
  have hw' : 0 ≤ n ∧ n ≤ 255 := by simpa [Lit.wf, IntKind.min, IntKind.max, IntKind.signed, IntKind.bits] using hw
  refine ⟨UInt8.ofNat n.toNat, ?_⟩
  unfold rU8
  have : ((UInt8.ofNat n.toNat).toNat : Int) = n := by
    rw [UInt8.toNat_ofNat']
    omega
  rw [this]
theorem opens_bool {P : Program} {t : TypeId} (ht : P.underlying t = some .bool) : Opens P t rBool := fun h => by
  obtain ⟨b, rfl, _⟩ := DataW.trod_bool ht h
  exact ⟨b, rfl⟩
theorem opens_sl {α : Type} {P : Program} {t e : TypeId} {n : Nat} {R : Rel α} (ht : P.underlying t = some (.slice e)) (hc : P.cellsOf e = n) (hE : Opens P e R) : Opens P t (rSl n R) := fun {H enc w spare held fuel cs x} h => by
  rcases Go.Deep.open_slice ht h with ⟨rfl, _⟩ | ⟨a, len, cap, m, n', D, Pl, rfl, _, hlc, hcm, hm, _, hi⟩
  · exact ⟨[], none, 0, rfl, by simp, by omega, fun i x hi => by simp at hi⟩
  · have hlm : len ≤ m := by rw [hm]; split <;> omega
    obtain ⟨xs, hl, hx⟩ := list_of (n := len) (p := fun i x => ∃ vs : List Value, vs.length = n ∧ (∀ j v, vs[j]? = some v → Old w (a.add (i * n + j)) ∧ w.cell? (a.add (i * n + j)) = some v) ∧ R (Old w) w vs x) (fun i hil => by
      obtain ⟨cs', hcs, htr⟩ := hi i (by omega)
      obtain ⟨y, hy⟩ := hE htr
      rw [hc] at hcs
      obtain ⟨_, hcl, hat⟩ := World.cells?_some hcs
      refine ⟨y, cs', hcl, fun j v hj => ?_, hy⟩
      have hjl : j < n := by rw [← hcl]; exact (List.getElem?_eq_some_iff.1 hj).1
      have hce := hat j hjl
      rw [Go.Deep.add_add, hj] at hce
      exact ⟨World.block_lt_of_cell? w _ hce, hce⟩)
    refine ⟨xs, some a, cap, by rw [hl], by omega, by unfold maxLen at hcm; exact hcm, fun i x hix => ?_⟩
    obtain ⟨vs, h1, h2, h3⟩ := hx i x hix
    exact ⟨a, vs, rfl, h1, h2, h3⟩
theorem opens_pair {α β : Type} {P : Program} {t : TypeId} {f0 f1 : Field} {R : Rel α} {S : Rel β} (ht : P.underlying t = some (.struct #[f0, f1])) (h0 : f0.offset = 0) (h1 : f1.offset = P.cellsOf f0.type) (hC : P.cellsOf t = P.cellsOf f0.type + P.cellsOf f1.type)
    (hR : Opens P f0.type R) (hS : Opens P f1.type S) : Opens P t (rPair R S) := fun {H enc w spare held fuel cs x} h => by
  obtain ⟨ys, n, _, _, hl, hys, hf⟩ := DataW.trod_struct ht h
  have e0 := hf 0 f0 rfl
  have e1 := hf 1 f1 rfl
  rw [h0, List.drop_zero, List.getElem?_eq_getElem (by rw [hys]; simp)] at e0
  rw [h1, List.getElem?_eq_getElem (by rw [hys]; simp), List.take_of_length_le (by simp; omega)] at e1
  obtain ⟨a, ha⟩ := hR e0
  obtain ⟨b, hb⟩ := hS e1
  exact ⟨(a, b), _, _, (List.take_append_drop _ _).symm, ha, hb⟩
/-- An argument that is a struct, a slice: its cells read so. -/
theorem open_rel {α : Type} {H : Type} {enc : TypeId × Value → H} {P : Program} {w : World} {spare : Nat → Bool} {held : Bool} {t : TypeId} {v : Value} {d : DataW H} {ps : List MemPlace} {R : Rel α} (hR : Opens P t R) (hd : DataW.Trod enc P w 0 spare held t v d ps) :
    ∃ a, R (Old w) w v.cells.toList a := by
  obtain ⟨fuel, hf⟩ := hd
  exact hR hf
end Go.Proofs.Ytgnogclhleheiaa
