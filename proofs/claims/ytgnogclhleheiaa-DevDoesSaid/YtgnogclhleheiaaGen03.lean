/-
  Package dev: Read, Write, Barrier, Crash at whatever arguments; a disk in its box. Conditions: those that each lemma states.
-/
import Derived.Test.YtgnogclhleheiaaAlive03
namespace Go.Proofs.Ytgnogclhleheiaa
open Go.RowKit

/-- A disk that lies in a box. -/
def Bx (w : World) (g : Nat) (A : Option Addr) (c : Nat) (B : Option Addr) (e : Nat) (d : Dk) : Prop := w.heap[g]? = some (.cells #[.slice A d.1.length c, .slice B d.2.length e] 25 (0, 0)) ∧ Dsk (Old w) w (.agg #[.slice A d.1.length c, .slice B d.2.length e]) d
theorem Bx.below {w w' : World} {g : Nat} {A : Option Addr} {c : Nat} {B : Option Addr} {e : Nat} {d : Dk} (h : Bx w g A c B e d) (hb : Below w.heap.size w w') : Bx w' g A c B e d :=
  ⟨(hb.block g (Array.getElem?_eq_some_iff.1 h.1).1).trans h.1, h.2.below hb⟩
theorem Bx.grown {w w' : World} {g q : Nat} {A : Option Addr} {c : Nat} {B : Option Addr} {e : Nat} {d : Dk} (h : Bx w g A c B e d) (hb : w.grownBy w' (some q)) (hq : g ≠ q) (hd : Dsk (Old w') w' (.agg #[.slice A d.1.length c, .slice B d.2.length e]) d) : Bx w' g A c B e d :=
  ⟨(hb.block g (Array.getElem?_eq_some_iff.1 h.1).1 (fun e => hq (by cases e; rfl))).trans h.1, hd⟩
theorem Bx.cells {w : World} {g : Nat} {A : Option Addr} {c : Nat} {B : Option Addr} {e : Nat} {d : Dk} (h : Bx w g A c B e d) : w.cell? ⟨g, 0, none⟩ = some (.slice A d.1.length c) ∧ w.cell? ⟨g, 1, none⟩ = some (.slice B d.2.length e) ∧ (∀ o, w.frozen? ⟨g, o, none⟩ = false) ∧ g < w.heap.size := two_cells h.1
theorem Bx.dsk {w : World} {g : Nat} {A : Option Addr} {c : Nat} {B : Option Addr} {e : Nat} {d : Dk} (h : Bx w g A c B e d) : Dsk (Old w) w (.agg #[.slice A d.1.length c, .slice B d.2.length e]) d := h.2
/-- A new box. -/
theorem box_new {w : World} {A : Option Addr} {c : Nat} {B : Option Addr} {e : Nat} {d : Dk} (h : Dsk (Old w) w (.agg #[.slice A d.1.length c, .slice B d.2.length e]) d) :
    ∃ w1, w.alloc (.cells #[.slice A d.1.length c, .slice B d.2.length e] 25) = w1 ∧ Bx w1 w.heap.size A c B e d ∧ Below w.heap.size w w1 ∧ w1.heap.size = w.heap.size + 1 := by
  have hb := (Below.refl w.heap.size w).alloc (Nat.le_refl _) (.cells #[.slice A d.1.length c, .slice B d.2.length e] 25)
  exact ⟨_, rfl, ⟨heap_alloc_new _ _, h.below hb⟩, hb, by simp⟩

def emptyD : Dk := ([], [])
theorem may_empty : mayB emptyD = false := rfl
/-- What a read tells. -/
def rdB (d : Dk) (n : Int) : List UInt8 := if thereB n then seenD d n.toNat else []
def rdE (n : Int) : Int := if thereB n then 0 else 2
theorem rBy_nil (w : World) : rBy (Old w) w [.slice none 0 0] [] := ⟨none, 0, rfl, by simp, by omega, fun i x h => by simp at h⟩
theorem read_gen (v : Value) (d : Dk) (n : Int) (w : World) (h : Dsk (Old w) w v d) (hm : mayB d = true) :
    Calls Try.prog 17 #[v, .int .i64 n] w fun e w' => ∃ E c, e = .returned (.tuple #[.slice E (rdB d n).length c, .int .i64 (rdE n)]) ∧ rBy (Old w') w' [.slice E (rdB d n).length c] (rdB d n) ∧ Below w.heap.size w w' := by
  cases ht : thereB n with
  | true =>
    obtain ⟨k, rfl, hk⟩ := thereB_nat ht
    refine (read_ok v d k w h hm hk).mono ?_
    rintro e w' ⟨u, rfl, hu, hb⟩
    have e1 : rdB d (k : Int) = seenD d k := by simp [rdB, ht]
    have e2 : rdE (k : Int) = 0 := by simp [rdE, ht]
    obtain ⟨E, c, rfl, _⟩ := rBy_open hu
    rw [e1, e2]
    exact ⟨E, c, rfl, stab_by.drop hu, hb⟩
  | false =>
    refine (read_bad v d n w h (by simp [ht])).mono ?_
    rintro e w' ⟨rfl, hb⟩
    have e1 : rdB d n = [] := by simp [rdB, ht]
    have e2 : rdE n = 2 := by simp [rdE, ht]
    rw [e1, e2, chkAt_out hm ht]
    exact ⟨none, 0, rfl, rBy_nil _, hb⟩
/-- What a write leaves. -/
def wrR (d : Dk) (n : Int) (xs : List UInt8) : Dk := if wErr d n xs = 0 then wrD d n.toNat xs else emptyD
theorem write_fine {d : Dk} {n : Int} {xs : List UInt8} (h : wErr d n xs = 0) (hm : mayB d = true ∨ True) : mayB d = true ∧ thereB n = true ∧ xs.length = 128 ∧ d.2.length < 4096 := by
  unfold wErr at h
  cases h1 : mayB d with
  | false => rw [h1] at h; simp at h
  | true =>
    obtain ⟨_, h2, _⟩ := may_of h1
    rw [h1] at h
    cases ht : thereB n with
    | false => rw [ht] at h; simp at h
    | true =>
      rw [ht] at h
      by_cases h8 : xs.length = 128
      · by_cases h9 : d.2.length = 4096
        · simp [h8, h9] at h
        · exact ⟨rfl, rfl, h8, by omega⟩
      · simp [h8] at h
theorem dsk_empty (w : World) : Dsk (Old w) w (.agg #[.slice none 0 0, .slice none 0 0]) emptyD :=
  ⟨_, _, rfl, ⟨none, 0, rfl, by simp [emptyD], by omega, fun i x h => by simp [emptyD] at h⟩, ⟨none, 0, rfl, by simp [emptyD], by omega, fun i x h => by simp [emptyD] at h⟩⟩
theorem write_gen (v u : Value) (d : Dk) (n : Int) (xs : List UInt8) (w : World) (h : Dsk (Old w) w v d) (hu : rBy (Old w) w [u] xs) :
    Calls Try.prog 19 #[v, .int .i64 n, u] w fun e w' => ∃ A c B f, e = .returned (.tuple #[.agg #[.slice A (wrR d n xs).1.length c, .slice B (wrR d n xs).2.length f], .int .i64 (wErr d n xs)]) ∧ Dsk (Old w') w' (.agg #[.slice A (wrR d n xs).1.length c, .slice B (wrR d n xs).2.length f]) (wrR d n xs) ∧ Below w.heap.size w w' := by
  by_cases he : wErr d n xs = 0
  · obtain ⟨hm, ht, h8, h9⟩ := write_fine he (.inr trivial)
    obtain ⟨k, rfl, hk⟩ := thereB_nat ht
    refine (write_wr v u d k xs w h hu hm hk h8 h9).mono ?_
    rintro e w' ⟨x, rfl, hx, hb⟩
    have e1 : wrR d (k : Int) xs = wrD d k xs := by simp [wrR, he]
    obtain ⟨A, c, B, f, rfl, _⟩ := id hx.open
    rw [e1, he]
    exact ⟨A, c, B, f, rfl, hx.drop, hb⟩
  · refine (write_bad v u d n xs w h hu he).mono ?_
    rintro e w' ⟨rfl, hb⟩
    have e1 : wrR d n xs = emptyD := by simp [wrR, he]
    rw [e1]
    exact ⟨none, 0, none, 0, rfl, dsk_empty _, hb⟩
/-- What a barrier leaves. -/
theorem barrier_old (v : Value) (d : Dk) (w : World) (h : Dsk (Old w) w v d) (hm : mayB d = true) :
    Calls Try.prog 21 #[v] w fun e w' => ∃ A c B f, e = .returned (.tuple #[.agg #[.slice A (settledD d).1.length c, .slice B (settledD d).2.length f], .int .i64 0]) ∧ Dsk (Old w') w' (.agg #[.slice A (settledD d).1.length c, .slice B (settledD d).2.length f]) (settledD d) ∧ Below w.heap.size w w' := by
  refine (barrier_ok v d w h hm).mono ?_
  rintro e w' ⟨x, rfl, hx, hb⟩
  obtain ⟨A, c, B, f, rfl, _⟩ := id hx.open
  exact ⟨A, c, B, f, rfl, hx.drop, hb⟩
theorem crash_old (v u : Value) (d : Dk) (ks : List Bool) (w : World) (h : Dsk (Old w) w v d) (hu : rSl 1 rBool (Old w) w [u] ks) (hm : mayB d = true) (hl : ks.length = d.2.length) :
    Calls Try.prog 23 #[v, u] w fun e w' => ∃ A c B f, e = .returned (.tuple #[.agg #[.slice A (settledD (keptD d ks)).1.length c, .slice B (settledD (keptD d ks)).2.length f], .int .i64 0]) ∧ Dsk (Old w') w' (.agg #[.slice A (settledD (keptD d ks)).1.length c, .slice B (settledD (keptD d ks)).2.length f]) (settledD (keptD d ks)) ∧ Below w.heap.size w w' := by
  refine (crash_ok v u d ks w h hu hm hl).mono ?_
  rintro e w' ⟨x, rfl, hx, hb⟩
  obtain ⟨A, c, B, f, rfl, _⟩ := id hx.open
  exact ⟨A, c, B, f, rfl, hx.drop, hb⟩

/-! ### What follows -/
theorem settled_len1 (d : Dk) : (settledD d).1.length = 256 := by simp [settledD]
theorem settled_len2 (d : Dk) : (settledD d).2.length = 0 := rfl
theorem settled_at {d : Dk} {k : Nat} (hk : k < 256) : (settledD d).1[k]? = some (seenD d k) := by
  simp [settledD, hk]
theorem seen_settled {d : Dk} {k : Nat} (hk : k < 256) : seenD (settledD d) k = seenD d k := by
  have h1 : (settledD d).2 = [] := rfl
  have h2 := settled_at (d := d) hk
  unfold seenD
  rw [h1, h2]
  rfl
theorem may_settled {d : Dk} (h : mayB d = true) : mayB (settledD d) = true := by
  refine may_mk (settled_len1 d) (by rw [settled_len2]; omega) ?_ rfl
  rw [List.all_eq_true]
  intro x hx
  obtain ⟨j, hj⟩ := List.getElem?_of_mem hx
  have hjl := (List.getElem?_eq_some_iff.1 hj).1
  rw [settled_len1] at hjl
  rw [settled_at hjl] at hj
  cases hj
  exact decide_eq_true (seenD_length h hjl)
theorem settled_twice (d : Dk) : settledD (settledD d) = settledD d := by
  refine Prod.ext ?_ rfl
  refine List.ext_getElem? fun i => ?_
  by_cases hi : i < 256
  · rw [settled_at hi, settled_at hi, seen_settled hi]
  · rw [List.getElem?_eq_none (by rw [settled_len1]; omega), List.getElem?_eq_none (by rw [settled_len1]; omega)]
theorem markedW_all : ∀ (ws : List Wt) (ks : List Bool), ks.length = ws.length → (∀ k ∈ ks, k = true) → markedW ws ks = ws
  | [], [], _, _ => rfl
  | x :: r, k :: ks, h, hk => by
    have e := hk k (List.mem_cons.2 (.inl rfl))
    subst e
    have ih := markedW_all r ks (by simpa using h) (fun q hq => hk q (List.mem_cons.2 (.inr hq)))
    simp [markedW, ih]
theorem markedW_none : ∀ (ws : List Wt) (ks : List Bool), (∀ k ∈ ks, k = false) → markedW ws ks = []
  | [], ks, _ => by cases ks <;> rfl
  | x :: r, [], _ => rfl
  | x :: r, k :: ks, hk => by
    have e := hk k (List.mem_cons.2 (.inl rfl))
    subst e
    have ih := markedW_none r ks (fun q hq => hk q (List.mem_cons.2 (.inr hq)))
    simp [markedW, ih]
theorem rdB_settled (d : Dk) (n : Int) : rdB (settledD d) n = rdB d n := by
  unfold rdB
  cases ht : thereB n with
  | false => rfl
  | true =>
    obtain ⟨k, rfl, hk⟩ := thereB_nat ht
    simpa using seen_settled hk
theorem rdB_write {d : Dk} {n m : Int} {xs : List UInt8} (h : wErr d n xs = 0) (hne : m ≠ n) : rdB (wrR d n xs) m = rdB d m := by
  obtain ⟨_, ht, _, _⟩ := write_fine h (.inr trivial)
  obtain ⟨k, rfl, hk⟩ := thereB_nat ht
  unfold rdB
  cases hm : thereB m with
  | false => rfl
  | true =>
    obtain ⟨j, rfl, hj⟩ := thereB_nat hm
    have : wrR d (k : Int) xs = wrD d k xs := by simp [wrR, h]
    rw [this]
    simpa using seenD_write_ne (d := d) (k := k) (j := j) (xs := xs) (by omega)
theorem rdB_same {d : Dk} {n : Int} {xs : List UInt8} (h : wErr d n xs = 0) : rdB (wrR d n xs) n = xs ∧ rdE n = 0 := by
  obtain ⟨_, ht, _, _⟩ := write_fine h (.inr trivial)
  obtain ⟨k, rfl, hk⟩ := thereB_nat ht
  have : wrR d (k : Int) xs = wrD d k xs := by simp [wrR, h]
  rw [this]
  unfold rdB rdE
  rw [ht]
  exact ⟨by simpa using seenD_write, rfl⟩
theorem may_wrR {d : Dk} {n : Int} {xs : List UInt8} (h : wErr d n xs = 0) : mayB (wrR d n xs) = true ∧ (wrR d n xs).2.length = d.2.length + 1 ∧ (wrR d n xs).1 = d.1 := by
  obtain ⟨hm, ht, h8, h9⟩ := write_fine h (.inr trivial)
  obtain ⟨k, rfl, hk⟩ := thereB_nat ht
  have : wrR d (k : Int) xs = wrD d k xs := by simp [wrR, h]
  rw [this]
  exact ⟨may_write hm hk h8 h9, wrD_len _ _ _, rfl⟩

/-! ### Results that are new -/
theorem Dsk.grown {w w' : World} {lo : Nat} {v : Value} {d : Dk} {row : Option Nat} (h : Dsk (New lo w) w v d) (hg : w.grownBy w' row) (hr : ∀ q, row = some q → q < lo) : Dsk (New lo w') w' v d := by
  obtain ⟨a, b, e, h1, h2⟩ := h
  exact ⟨a, b, e, (stab_sl stab_by).grown h1 hg hr, (stab_sl stab_wt).grown h2 hg hr⟩
theorem dsk_empty_new (lo : Nat) (w : World) : Dsk (New lo w) w (.agg #[.slice none 0 0, .slice none 0 0]) emptyD :=
  ⟨_, _, rfl, ⟨none, 0, rfl, by simp [emptyD], by omega, fun i x h => by simp [emptyD] at h⟩, ⟨none, 0, rfl, by simp [emptyD], by omega, fun i x h => by simp [emptyD] at h⟩⟩
theorem write_new (v u : Value) (d : Dk) (n : Int) (xs : List UInt8) (w : World) (h : Dsk (Old w) w v d) (hu : rBy (Old w) w [u] xs) :
    Calls Try.prog 19 #[v, .int .i64 n, u] w fun e w' => ∃ A c B f, e = .returned (.tuple #[.agg #[.slice A (wrR d n xs).1.length c, .slice B (wrR d n xs).2.length f], .int .i64 (wErr d n xs)]) ∧ Dsk (New w.heap.size w') w' (.agg #[.slice A (wrR d n xs).1.length c, .slice B (wrR d n xs).2.length f]) (wrR d n xs) ∧ Below w.heap.size w w' := by
  by_cases he : wErr d n xs = 0
  · obtain ⟨hm, ht, h8, h9⟩ := write_fine he (.inr trivial)
    obtain ⟨k, rfl, hk⟩ := thereB_nat ht
    refine (write_wr v u d k xs w h hu hm hk h8 h9).mono ?_
    rintro e w' ⟨x, rfl, hx, hb⟩
    have e1 : wrR d (k : Int) xs = wrD d k xs := by simp [wrR, he]
    obtain ⟨A, c, B, f, rfl, _⟩ := id hx.open
    rw [e1, he]
    exact ⟨A, c, B, f, rfl, hx, hb⟩
  · refine (write_bad v u d n xs w h hu he).mono ?_
    rintro e w' ⟨rfl, hb⟩
    have e1 : wrR d n xs = emptyD := by simp [wrR, he]
    rw [e1]
    exact ⟨none, 0, none, 0, rfl, dsk_empty_new _ _, hb⟩
theorem wrR_nat {d : Dk} {k : Nat} {xs : List UInt8} (h : wErr d (k : Int) xs = 0) : wrR d (k : Int) xs = wrD d k xs := by simp [wrR, h]
end Go.Proofs.Ytgnogclhleheiaa
