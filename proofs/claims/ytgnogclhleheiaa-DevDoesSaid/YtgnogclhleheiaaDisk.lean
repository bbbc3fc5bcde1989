/-
  Disks (api.Disk): how they read; which may be. Conditions: those that each lemma states.
-/
import Derived.Test.YtgnogclhleheiaaRel
namespace Go.Proofs.Ytgnogclhleheiaa
open Go.ChangeShapes Go.WideShapes Go.RowKit

abbrev Wt := Int × List UInt8
abbrev Dk := List (List UInt8) × List Wt
def rWt : Rel Wt := rPair (rK .i64) rBy
def rDisk : Rel Dk := rPair (rSl 1 rBy) (rSl 2 rWt)
theorem stab_wt : Stab rWt := stab_pair (stab_k _) stab_by
theorem stab_disk : Stab rDisk := stab_pair (stab_sl stab_by) (stab_sl stab_wt)

theorem rWt_open {ok : Addr → Prop} {w : World} {cs : List Value} {x : Wt} (h : rWt ok w cs x) : ∃ v, cs = [.int .i64 x.1, v] ∧ -9223372036854775808 ≤ x.1 ∧ x.1 ≤ 9223372036854775807 ∧ rBy ok w [v] x.2 := by
  obtain ⟨c, d, rfl, ⟨rfl, h1, h2⟩, h3⟩ := h
  obtain ⟨A, cap, rfl, h4⟩ := h3
  exact ⟨_, rfl, by simpa [IntKind.min, IntKind.signed, IntKind.bits] using h1, by simpa [IntKind.max, IntKind.signed, IntKind.bits] using h2, A, cap, rfl, h4⟩
theorem rWt_mk {ok : Addr → Prop} {w : World} {v : Value} {n : Int} {xs : List UInt8} (h1 : -9223372036854775808 ≤ n) (h2 : n ≤ 9223372036854775807) (h : rBy ok w [v] xs) : rWt ok w [.int .i64 n, v] (n, xs) :=
  ⟨[.int .i64 n], [v], rfl, ⟨rfl, by simpa [IntKind.min, IntKind.signed, IntKind.bits] using h1, by simpa [IntKind.max, IntKind.signed, IntKind.bits] using h2⟩, h⟩

/-- Blocks: a slice of slices of bytes, opened. -/
theorem rows_open {ok : Addr → Prop} {w : World} {cs : List Value} {xss : List (List UInt8)} (h : rSl 1 rBy ok w cs xss) : ∃ A cap, cs = [.slice A xss.length cap] ∧ xss.length ≤ cap ∧ cap ≤ 9223372036854775807 ∧
    ∀ i x, xss[i]? = some x → ∃ ad v, A = some ad ∧ ok (ad.add i) ∧ w.cell? (ad.add i) = some v ∧ rBy ok w [v] x := by
  obtain ⟨A, cap, h1, h2, h3, h4⟩ := h
  refine ⟨A, cap, h1, h2, h3, fun i x hi => ?_⟩
  obtain ⟨ad, vs, e1, e2, e3, e4⟩ := h4 i x hi
  match vs, e2 with
  | [v], _ =>
    have := e3 0 v rfl
    rw [Nat.mul_one, Nat.add_zero] at this
    exact ⟨ad, v, e1, this.1, this.2, e4⟩
/-- Writes: a slice of pairs, opened. -/
theorem wts_open {ok : Addr → Prop} {w : World} {cs : List Value} {ws : List Wt} (h : rSl 2 rWt ok w cs ws) : ∃ A cap, cs = [.slice A ws.length cap] ∧ ws.length ≤ cap ∧ cap ≤ 9223372036854775807 ∧
    ∀ i x, ws[i]? = some x → ∃ ad v, A = some ad ∧ ok (ad.add (i * 2)) ∧ ok (ad.add (i * 2 + 1)) ∧ w.cell? (ad.add (i * 2)) = some (.int .i64 x.1) ∧ w.cell? (ad.add (i * 2 + 1)) = some v ∧ rBy ok w [v] x.2 ∧ -9223372036854775808 ≤ x.1 ∧ x.1 ≤ 9223372036854775807 := by
  obtain ⟨A, cap, h1, h2, h3, h4⟩ := h
  refine ⟨A, cap, h1, h2, h3, fun i x hi => ?_⟩
  obtain ⟨ad, vs, e1, e2, e3, e4⟩ := h4 i x hi
  obtain ⟨v, rfl, b1, b2, hv⟩ := rWt_open e4
  have a0 := e3 0 _ rfl
  have a1 := e3 1 _ rfl
  rw [Nat.add_zero] at a0
  exact ⟨ad, v, e1, a0.1, a1.1, a0.2, a1.2, hv, b1, b2⟩

/-- A value that reads as a disk. -/
def Dsk (ok : Addr → Prop) (w : World) (v : Value) (d : Dk) : Prop := ∃ a b, v = .agg #[a, b] ∧ rSl 1 rBy ok w [a] d.1 ∧ rSl 2 rWt ok w [b] d.2
theorem Dsk.map {ok ok' : Addr → Prop} {w w' : World} {v : Value} {d : Dk} (hk : ∀ p v, ok p → w.cell? p = some v → ok' p ∧ w'.cell? p = some v) (h : Dsk ok w v d) : Dsk ok' w' v d := by
  obtain ⟨a, b, e, h1, h2⟩ := h
  exact ⟨a, b, e, stab_sl stab_by _ _ _ _ _ _ hk h1, stab_sl stab_wt _ _ _ _ _ _ hk h2⟩
theorem Dsk.below {w w' : World} {v : Value} {d : Dk} (h : Dsk (Old w) w v d) (hb : Below w.heap.size w w') : Dsk (Old w') w' v d :=
  h.map fun _ _ hp hc => ⟨Nat.lt_of_lt_of_le hp hb.size, (hb.cell hp).trans hc⟩
theorem Dsk.drop {lo : Nat} {w : World} {v : Value} {d : Dk} (h : Dsk (New lo w) w v d) : Dsk (Old w) w v d :=
  h.map fun _ _ hp hc => ⟨hp.2.1, hc⟩
theorem Dsk.new {lo lo' : Nat} {w w' : World} {v : Value} {d : Dk} (h : Dsk (New lo w) w v d) (hl : lo' ≤ lo) (hb : Below w.heap.size w w') : Dsk (New lo' w') w' v d :=
  h.map fun _ _ hp hc => ⟨⟨Nat.le_trans hl hp.1, Nat.lt_of_lt_of_le hp.2.1 hb.size, (hb.frozen hp.2.1).trans hp.2.2⟩, (hb.cell hp.2.1).trans hc⟩
theorem Dsk.parts {ok : Addr → Prop} {w : World} {a b : Value} {d : Dk} (h : Dsk ok w (.agg #[a, b]) d) : rSl 1 rBy ok w [a] d.1 ∧ rSl 2 rWt ok w [b] d.2 := by
  obtain ⟨x, y, e, h1, h2⟩ := h
  cases e
  exact ⟨h1, h2⟩
/-- A disk, opened. -/
theorem Dsk.open {ok : Addr → Prop} {w : World} {v : Value} {d : Dk} (h : Dsk ok w v d) : ∃ A c B e, v = .agg #[.slice A d.1.length c, .slice B d.2.length e] ∧ d.1.length ≤ c ∧ c ≤ 9223372036854775807 ∧ d.2.length ≤ e ∧ e ≤ 9223372036854775807 ∧
    (∀ i x, d.1[i]? = some x → ∃ ad v, A = some ad ∧ ok (ad.add i) ∧ w.cell? (ad.add i) = some v ∧ rBy ok w [v] x) ∧
    (∀ i x, d.2[i]? = some x → ∃ ad v, B = some ad ∧ ok (ad.add (i * 2)) ∧ ok (ad.add (i * 2 + 1)) ∧ w.cell? (ad.add (i * 2)) = some (.int .i64 x.1) ∧ w.cell? (ad.add (i * 2 + 1)) = some v ∧ rBy ok w [v] x.2 ∧ -9223372036854775808 ≤ x.1 ∧ x.1 ≤ 9223372036854775807) := by
  obtain ⟨a, b, rfl, h1, h2⟩ := h
  obtain ⟨A, c, e1, l1, m1, k1⟩ := rows_open h1
  obtain ⟨B, e, e2, l2, m2, k2⟩ := wts_open h2
  cases e1
  cases e2
  exact ⟨A, c, B, e, rfl, l1, m1, l2, m2, k1, k2⟩

/-! ### Which disks may be -/
def wtB (x : Wt) : Bool := decide (0 ≤ x.1) && decide (x.1 < 256) && decide (x.2.length = 128)
def byB (x : List UInt8) : Bool := decide (x.length = 128)
def mayB (d : Dk) : Bool := decide (d.1.length = 256) && decide (d.2.length ≤ 4096) && d.1.all byB && d.2.all wtB
def chk (d : Dk) : Int := if mayB d then 0 else 8
theorem chk_bad {d : Dk} (h : mayB d = false) : chk d = 8 := by simp [chk, h]
theorem chk_ok {d : Dk} (h : mayB d = true) : chk d = 0 := by simp [chk, h]
theorem all_at {α : Type} {p : α → Bool} {xs : List α} (h : xs.all p = true) {k : Nat} {x : α} (hk : xs[k]? = some x) : p x = true := List.all_eq_true.1 h x (List.mem_of_getElem? hk)
theorem all_not {α : Type} {p : α → Bool} {xs : List α} {k : Nat} {x : α} (hk : xs[k]? = some x) (h : p x = false) : xs.all p = false := by
  cases ha : xs.all p with
  | false => rfl
  | true => rw [all_at ha hk] at h; cases h
theorem all_take {α : Type} {p : α → Bool} {xs : List α} {k : Nat} {x : α} (h : (xs.take k).all p = true) (hk : xs[k]? = some x) (hx : p x = true) : (xs.take (k + 1)).all p = true := by
  rw [List.take_add_one, hk]
  simp [h, hx]
theorem may_len1 {d : Dk} (h : d.1.length ≠ 256) : mayB d = false := by simp [mayB, h]
theorem may_len2 {d : Dk} (h : 4096 < d.2.length) : mayB d = false := by
  have : decide (d.2.length ≤ 4096) = false := by simpa using h
  simp [mayB, this]
theorem may_block {d : Dk} {k : Nat} {x : List UInt8} (hk : d.1[k]? = some x) (h : x.length ≠ 128) : mayB d = false := by
  have : d.1.all byB = false := all_not hk (by simp [byB, h])
  rw [mayB, this]
  simp
theorem wtB_no {x : Wt} (h : ¬ (0 ≤ x.1 ∧ x.1 < 256 ∧ x.2.length = 128)) : wtB x = false := by
  cases hb : wtB x with
  | false => rfl
  | true =>
    simp only [wtB, Bool.and_eq_true, decide_eq_true_eq] at hb
    exact absurd ⟨hb.1.1, hb.1.2, hb.2⟩ h
theorem wtB_yes {x : Wt} (h : 0 ≤ x.1) (h' : x.1 < 256) (h'' : x.2.length = 128) : wtB x = true := by simp [wtB, h, h', h'']
theorem may_wait {d : Dk} {k : Nat} {x : Wt} (hk : d.2[k]? = some x) (h : wtB x = false) : mayB d = false := by
  have : d.2.all wtB = false := all_not hk h
  rw [mayB, this]
  simp
theorem may_mk {d : Dk} (h1 : d.1.length = 256) (h2 : d.2.length ≤ 4096) (h3 : d.1.all byB = true) (h4 : d.2.all wtB = true) : mayB d = true := by simp [mayB, h1, h2, h3, h4]
theorem may_of {d : Dk} (h : mayB d = true) : d.1.length = 256 ∧ d.2.length ≤ 4096 ∧ (∀ (k : Nat) (x : List UInt8), d.1[k]? = some x → x.length = 128) ∧ ∀ (k : Nat) (x : Wt), d.2[k]? = some x → 0 ≤ x.1 ∧ x.1 < 256 ∧ x.2.length = 128 := by
  simp only [mayB, Bool.and_eq_true, decide_eq_true_eq] at h
  obtain ⟨⟨⟨h1, h2⟩, h3⟩, h4⟩ := h
  refine ⟨h1, h2, fun k x hk => by simpa [byB] using all_at h3 hk, fun k x hk => ?_⟩
  have := all_at h4 hk
  simp only [wtB, Bool.and_eq_true, decide_eq_true_eq] at this
  exact ⟨this.1.1, this.1.2, this.2⟩

/-! ### Arguments -/
theorem opens_by : Opens Try.prog 26 rBy := opens_sl Try.underlying26 (by kernel_rfl) (opens_u8 Try.underlying5)
theorem opens_wt : Opens Try.prog 78 rWt := opens_pair Try.underlying78 rfl (by kernel_rfl) (by kernel_rfl) (opens_k Try.underlying3) opens_by
theorem opens_disk : Opens Try.prog 25 rDisk := opens_pair Try.underlying25 rfl (by kernel_rfl) (by kernel_rfl) (opens_sl Try.underlying22 (by kernel_rfl) opens_by) (opens_sl Try.underlying23 (by kernel_rfl) opens_wt)
set_option maxRecDepth 100000 in
/-- A disk that came in. -/
theorem open_disk {H : Type} {enc : TypeId × Value → H} {w : World} {b0 : Nat} {spare : Nat → Bool} {held : Bool} {r : Reach} {v : Value} {x : DataW H} {ps : List MemPlace} (hval : Value.okWide Try.prog w r b0 25 v) (hd : DataW.Trod enc Try.prog w 0 spare held 25 v x ps) :
    ∃ d, Dsk (Old w) w v d := by
  obtain ⟨cs, rfl, _⟩ := okWide_struct Try.underlying25 hval
  obtain ⟨d, c, e, h1, h2, h3⟩ := open_rel opens_disk hd
  obtain ⟨A, cap, e1, k1⟩ := id h2
  obtain ⟨B, cap', e2, k2⟩ := id h3
  subst e1 e2
  exact ⟨d, _, _, by obtain ⟨cs⟩ := cs; simp [Value.cells] at h1; rw [h1], h2, h3⟩
set_option maxRecDepth 100000 in
theorem open_bools {H : Type} {enc : TypeId × Value → H} {w : World} {b0 : Nat} {spare : Nat → Bool} {held : Bool} {r : Reach} {v : Value} {x : DataW H} {ps : List MemPlace} (hval : Value.okWide Try.prog w r b0 27 v) (hd : DataW.Trod enc Try.prog w 0 spare held 27 v x ps) :
    ∃ ks, rSl 1 rBool (Old w) w [v] ks := by
  obtain ⟨a, l, c, rfl⟩ := okWide_slice Try.underlying27 hval
  exact open_rel (opens_sl Try.underlying27 (by kernel_rfl) (opens_bool Try.underlying4)) hd
set_option maxRecDepth 100000 in
theorem open_by {H : Type} {enc : TypeId × Value → H} {w : World} {b0 : Nat} {spare : Nat → Bool} {held : Bool} {r : Reach} {v : Value} {x : DataW H} {ps : List MemPlace} (hval : Value.okWide Try.prog w r b0 26 v) (hd : DataW.Trod enc Try.prog w 0 spare held 26 v x ps) :
    ∃ xs, rBy (Old w) w [v] xs := by
  obtain ⟨a, l, c, rfl⟩ := okWide_slice Try.underlying26 hval
  exact open_rel opens_by hd
/-- Marks, opened. -/
theorem bools_open {ok : Addr → Prop} {w : World} {v : Value} {ks : List Bool} (h : rSl 1 rBool ok w [v] ks) : ∃ A cap, v = .slice A ks.length cap ∧ ks.length ≤ cap ∧ cap ≤ 9223372036854775807 ∧
    ∀ i k, ks[i]? = some k → ∃ ad, A = some ad ∧ ok (ad.add i) ∧ w.cell? (ad.add i) = some (.bool k) := by
  obtain ⟨A, cap, h1, h2, h3, h4⟩ := h
  refine ⟨A, cap, by simpa using h1, h2, h3, fun i x hi => ?_⟩
  obtain ⟨ad, vs, e1, e2, e3, e4⟩ := h4 i x hi
  unfold rBool at e4
  subst e4
  have := e3 0 _ rfl
  rw [Nat.mul_one, Nat.add_zero] at this
  exact ⟨ad, e1, this.1, this.2⟩

/-! ### The cells of a disk's rows -/
/-- The cells of writes: place, bytes, place, bytes .. -/
def wcells (ps : List (Int × Value)) : List Value := ps.flatMap fun p => [.int .i64 p.1, p.2]
theorem wcells_length (ps : List (Int × Value)) : (wcells ps).length = ps.length * 2 := by
  induction ps with
  | nil => rfl
  | cons p r ih => simp only [wcells, List.flatMap_cons, List.length_append, List.length_cons, List.length_nil] at ih ⊢; omega
theorem wcells_get {ps : List (Int × Value)} {i : Nat} {p : Int × Value} (h : ps[i]? = some p) : (wcells ps)[i * 2]? = some (.int .i64 p.1) ∧ (wcells ps)[i * 2 + 1]? = some p.2 := by
  induction ps generalizing i with
  | nil => simp at h
  | cons q r ih =>
    cases i with
    | zero => simp at h; subst h; exact ⟨rfl, rfl⟩
    | succ i =>
      have := ih (i := i) (by simpa using h)
      have e1 : (i + 1) * 2 = i * 2 + 1 + 1 := by omega
      rw [e1]
      exact this
theorem wcells_set {ps : List (Int × Value)} {i : Nat} {p : Int × Value} (h : ps[i]? = some p) (u : Value) : (wcells ps).set (i * 2 + 1) u = wcells (ps.set i (p.1, u)) := by
  induction ps generalizing i with
  | nil => simp at h
  | cons q r ih =>
    cases i with
    | zero => simp at h; subst h; rfl
    | succ i =>
      have := ih (i := i) (by simpa using h)
      have e1 : (i + 1) * 2 + 1 = i * 2 + 1 + 1 + 1 := by omega
      rw [e1]
      show Value.int .i64 q.1 :: q.2 :: (wcells r).set (i * 2 + 1) u = .int .i64 q.1 :: q.2 :: wcells (r.set i (p.1, u))
      rw [this]
theorem wcells_append (ps qs : List (Int × Value)) : wcells (ps ++ qs) = wcells ps ++ wcells qs := by simp [wcells]
theorem oneCell_slice (A : Option Addr) (n c : Nat) : (Value.slice A n c).oneCell' = true := rfl
/-- The cells of blocks. -/
theorem rows_cells {w : World} {A : Option Addr} {xss : List (List UInt8)} (h : ∀ i x, xss[i]? = some x → ∃ ad v, A = some ad ∧ Old w (ad.add i) ∧ w.cell? (ad.add i) = some v ∧ rBy (Old w) w [v] x) :
    ∃ vs : List Value, vs.length = xss.length ∧ (∀ j v, vs[j]? = some v → ∃ ad, A = some ad ∧ ad.block < w.heap.size ∧ w.cell? (ad.add j) = some v) ∧ (∀ u ∈ vs, u.oneCell' = true) ∧ ∀ (i : Nat) (v : Value) (x : List UInt8), vs[i]? = some v → xss[i]? = some x → rBy (Old w) w [v] x := by
  obtain ⟨vs, hl, hv⟩ := list_of (n := xss.length) (p := fun i v => ∃ ad, A = some ad ∧ ad.block < w.heap.size ∧ w.cell? (ad.add i) = some v ∧ v.oneCell' = true ∧ ∀ x, xss[i]? = some x → rBy (Old w) w [v] x) (fun i hi => by
    obtain ⟨ad, v, e, ho, hc, hb⟩ := h i _ (List.getElem?_eq_getElem hi)
    obtain ⟨E, c, rfl, _⟩ := rBy_open hb
    refine ⟨_, ad, e, by unfold Old at ho; rwa [add_block] at ho, hc, rfl, fun x hx => ?_⟩
    rw [List.getElem?_eq_getElem hi] at hx
    cases hx
    exact hb)
  refine ⟨vs, hl, fun j v hj => ?_, fun u hu => ?_, fun i v x hi hx => ?_⟩
  · obtain ⟨ad, e, hb, hc, _⟩ := hv j v hj
    exact ⟨ad, e, hb, hc⟩
  · obtain ⟨j, hj⟩ := List.getElem?_of_mem hu
    obtain ⟨_, _, _, _, h1, _⟩ := hv j u hj
    exact h1
  · obtain ⟨_, _, _, _, _, h1⟩ := hv i v hi
    exact h1 x hx
theorem wts_cells {w : World} {B : Option Addr} {ws : List Wt} (h : ∀ i x, ws[i]? = some x → ∃ ad v, B = some ad ∧ Old w (ad.add (i * 2)) ∧ Old w (ad.add (i * 2 + 1)) ∧ w.cell? (ad.add (i * 2)) = some (.int .i64 x.1) ∧ w.cell? (ad.add (i * 2 + 1)) = some v ∧ rBy (Old w) w [v] x.2 ∧ -9223372036854775808 ≤ x.1 ∧ x.1 ≤ 9223372036854775807) :
    ∃ ps : List (Int × Value), ps.length = ws.length ∧ (∀ j v, (wcells ps)[j]? = some v → ∃ ad, B = some ad ∧ ad.block < w.heap.size ∧ w.cell? (ad.add j) = some v) ∧ (∀ u ∈ wcells ps, u.oneCell' = true) ∧
      ∀ (i : Nat) (p : Int × Value) (x : Wt), ps[i]? = some p → ws[i]? = some x → p.1 = x.1 ∧ rBy (Old w) w [p.2] x.2 ∧ -9223372036854775808 ≤ x.1 ∧ x.1 ≤ 9223372036854775807 := by
  obtain ⟨ps, hl, hv⟩ := list_of (n := ws.length) (p := fun i (p : Int × Value) => ∃ ad, B = some ad ∧ ad.block < w.heap.size ∧ w.cell? (ad.add (i * 2)) = some (.int .i64 p.1) ∧ w.cell? (ad.add (i * 2 + 1)) = some p.2 ∧ p.2.oneCell' = true ∧ ∀ x, ws[i]? = some x → p.1 = x.1 ∧ rBy (Old w) w [p.2] x.2 ∧ -9223372036854775808 ≤ x.1 ∧ x.1 ≤ 9223372036854775807) (fun i hi => by
    obtain ⟨ad, v, e, ho, _, hc, hc2, hb, b1, b2⟩ := h i _ (List.getElem?_eq_getElem hi)
    obtain ⟨E, c, rfl, _⟩ := rBy_open hb
    refine ⟨(ws[i].1, _), ad, e, by unfold Old at ho; rwa [add_block] at ho, hc, hc2, rfl, fun x hx => ?_⟩
    rw [List.getElem?_eq_getElem hi] at hx
    cases hx
    exact ⟨rfl, hb, b1, b2⟩)
  refine ⟨ps, hl, fun j v hj => ?_, fun u hu => ?_, fun i p x hi hx => ?_⟩
  · have hjl : j < ps.length * 2 := by rw [← wcells_length]; exact (List.getElem?_eq_some_iff.1 hj).1
    have hp : ps[j / 2]? = some (ps[j / 2]'(by omega)) := List.getElem?_eq_getElem _
    obtain ⟨ad, e, hb, hc, hc2, _⟩ := hv _ _ hp
    obtain ⟨g1, g2⟩ := wcells_get hp
    rcases Nat.mod_two_eq_zero_or_one j with h0 | h0
    · rw [show j / 2 * 2 = j by omega] at g1 hc
      rw [hj] at g1
      cases g1
      exact ⟨ad, e, hb, hc⟩
    · rw [show j / 2 * 2 + 1 = j by omega] at g2 hc2
      rw [hj] at g2
      cases g2
      exact ⟨ad, e, hb, hc2⟩
  · simp only [wcells, List.mem_flatMap] at hu
    obtain ⟨p, hp, hu⟩ := hu
    obtain ⟨j, hj⟩ := List.getElem?_of_mem hp
    obtain ⟨_, _, _, _, _, h1, _⟩ := hv j p hj
    simp at hu
    rcases hu with rfl | rfl
    · rfl
    · exact h1
  · obtain ⟨_, _, _, _, _, _, h1⟩ := hv i p hi
    exact h1 x hx
/-- A row of the call's own that holds blocks. -/
theorem own_rows {w : World} {base n : Nat} {t : TypeId} {v : Value} {vs : List Value} {xss : List (List UInt8)} (h : w.ownsRow base t 1 v n vs) (hl : xss.length = n) (hx : ∀ (i : Nat) (u : Value) (x : List UInt8), vs[i]? = some u → xss[i]? = some x → rBy (New base w) w [u] x) : rSl 1 rBy (New base w) w [v] xss := by
  refine own_sl h hl fun i x hi => ?_
  have hil : i < vs.length := by rw [h.1, Nat.mul_one, ← hl]; exact (List.getElem?_eq_some_iff.1 hi).1
  refine ⟨[vs[i]], rfl, fun j u hj => ?_, hx i _ x (List.getElem?_eq_getElem hil) hi⟩
  have hj0 : j = 0 := by
    have := (List.getElem?_eq_some_iff.1 hj).1
    simp at this
    omega
  subst hj0
  cases hj
  simp
/-- .. that holds writes. -/
theorem own_wts {w : World} {base n : Nat} {t : TypeId} {v : Value} {ps : List (Int × Value)} {ws : List Wt} (h : w.ownsRow base t 2 v n (wcells ps)) (hl : ws.length = n)
    (hx : ∀ (i : Nat) (p : Int × Value) (x : Wt), ps[i]? = some p → ws[i]? = some x → p.1 = x.1 ∧ rBy (New base w) w [p.2] x.2 ∧ -9223372036854775808 ≤ x.1 ∧ x.1 ≤ 9223372036854775807) : rSl 2 rWt (New base w) w [v] ws := by
  have hpl : ps.length = n := by
    have := h.1
    rw [wcells_length] at this
    omega
  refine own_sl h hl fun i x hi => ?_
  have hil : i < ps.length := by rw [hpl, ← hl]; exact (List.getElem?_eq_some_iff.1 hi).1
  have hp : ps[i]? = some ps[i] := List.getElem?_eq_getElem hil
  obtain ⟨g1, g2⟩ := wcells_get hp
  obtain ⟨e, hb, b1, b2⟩ := hx i _ x hp hi
  refine ⟨[.int .i64 x.1, ps[i].2], rfl, fun j u hj => ?_, rWt_mk b1 b2 hb⟩
  match j, hj with
  | 0, hj => cases hj; rw [← e]; exact g1
  | 1, hj => cases hj; exact g2
/-- .. whose bytes lie elsewhere, too. -/
theorem own_wts_ok {ok : Addr → Prop} {w : World} {base n : Nat} {t : TypeId} {v : Value} {ps : List (Int × Value)} {ws : List Wt} (hok : ∀ p : Addr, v.ownBlock = some p.block → New base w p → ok p) (h : w.ownsRow base t 2 v n (wcells ps)) (hl : ws.length = n)
    (hx : ∀ (i : Nat) (p : Int × Value) (x : Wt), ps[i]? = some p → ws[i]? = some x → p.1 = x.1 ∧ rBy ok w [p.2] x.2 ∧ -9223372036854775808 ≤ x.1 ∧ x.1 ≤ 9223372036854775807) : rSl 2 rWt ok w [v] ws := by
  have hpl : ps.length = n := by
    have := h.1
    rw [wcells_length] at this
    omega
  refine own_sl_ok hok h hl fun i x hi => ?_
  have hil : i < ps.length := by rw [hpl, ← hl]; exact (List.getElem?_eq_some_iff.1 hi).1
  have hp : ps[i]? = some ps[i] := List.getElem?_eq_getElem hil
  obtain ⟨g1, g2⟩ := wcells_get hp
  obtain ⟨e, hb, b1, b2⟩ := hx i _ x hp hi
  refine ⟨[.int .i64 x.1, ps[i].2], rfl, fun j u hj => ?_, rWt_mk b1 b2 hb⟩
  match j, hj with
  | 0, hj => cases hj; rw [← e]; exact g1
  | 1, hj => cases hj; exact g2
theorem own_rows_ok {ok : Addr → Prop} {w : World} {base n : Nat} {t : TypeId} {v : Value} {vs : List Value} {xss : List (List UInt8)} (hok : ∀ p : Addr, v.ownBlock = some p.block → New base w p → ok p) (h : w.ownsRow base t 1 v n vs) (hl : xss.length = n) (hx : ∀ (i : Nat) (u : Value) (x : List UInt8), vs[i]? = some u → xss[i]? = some x → rBy ok w [u] x) : rSl 1 rBy ok w [v] xss := by
  refine own_sl_ok hok h hl fun i x hi => ?_
  have hil : i < vs.length := by rw [h.1, Nat.mul_one, ← hl]; exact (List.getElem?_eq_some_iff.1 hi).1
  refine ⟨[vs[i]], rfl, fun j u hj => ?_, hx i _ x (List.getElem?_eq_getElem hil) hi⟩
  have hj0 : j = 0 := by
    have := (List.getElem?_eq_some_iff.1 hj).1
    simp at this
    omega
  subst hj0
  cases hj
  simp
end Go.Proofs.Ytgnogclhleheiaa
