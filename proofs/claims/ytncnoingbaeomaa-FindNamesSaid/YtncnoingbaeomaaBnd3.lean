/-
  Lemmas on the program and on the document's answers, gathered: Node, NdCut, NdCut2, NdCheck, NdWrite, NdRead, RmNode, NdPlace, NdBack, FnPlain, Spoil05, NdBag, RmSame, CntChunk, CntRefW, StoZero, RmAlive, DrPlain, FnLeaf, FnHeld, FnKeep, FnSpan, FnPlace, FnChain, RmRefN, FnInner, FnTree, FnOne, FnEnds, FnStands, FnRef, FnFind, RmRefT, DrMake, FnMade, NdTwin, FnItems, DrRefer. Conditions: those that each lemma states.
-/
import Derived.Test.YtncnoingbaeomaaBnd2
import Derived.Deep.CutBlock
import Derived.Deep.CutRange
import Derived.Laws.StructEq
import Derived.Sort.QuietIn
import Derived.WalkMore
/-
  Nodes (api.Node): how they read; which may be; their bytes; nodes as arguments. Conditions: those that each lemma states.
-/
namespace Go.Proofs.Ytncnoingbaeomaa
open Go.ChangeShapes Go.WideShapes Go.RowKit

/-! ### Nodes: level, items -/
abbrev Nd := Int × List It
def rIts : Rel (List It) := rSl 5 rIt
theorem stab_its : Stab rIts := stab_sl stab_it
/-- A value that reads as a node. -/
def Nod (ok : Addr → Prop) (w : World) (v : Value) (n : Nd) : Prop := ∃ d, v = .agg #[.int .i64 n.1, d] ∧ In64 n.1 ∧ rIts ok w [d] n.2
section
variable {ok ok' : Addr → Prop} {w w' : World} {v : Value} {n : Nd} {lo lo' : Nat}
theorem Nod.map (hk : ∀ p v, ok p → w.cell? p = some v → ok' p ∧ w'.cell? p = some v) (h : Nod ok w v n) : Nod ok' w' v n := by
  obtain ⟨d, e, h1, h2⟩ := h
  exact ⟨d, e, h1, stab_its _ _ _ _ _ _ hk h2⟩
theorem Nod.below (h : Nod (Old w) w v n) (hb : Below w.heap.size w w') : Nod (Old w') w' v n :=
  h.map fun _ _ hp hc => ⟨Nat.lt_of_lt_of_le hp hb.size, (hb.cell hp).trans hc⟩
theorem Nod.drop (h : Nod (New lo w) w v n) : Nod (Old w) w v n := h.map fun _ _ hp hc => ⟨hp.2.1, hc⟩
theorem Nod.new (h : Nod (New lo w) w v n) (hl : lo' ≤ lo) (hb : Below w.heap.size w w') : Nod (New lo' w') w' v n :=
  h.map fun _ _ hp hc => ⟨⟨Nat.le_trans hl hp.1, Nat.lt_of_lt_of_le hp.2.1 hb.size, (hb.frozen hp.2.1).trans hp.2.2⟩, (hb.cell hp.2.1).trans hc⟩
theorem Nod.grown {row : Option Nat} (h : Nod (New lo w) w v n) (hg : w.grownBy w' row) (hr : ∀ q, row = some q → q < lo) : Nod (New lo w') w' v n := by
  obtain ⟨d, e, h1, h2⟩ := h
  exact ⟨d, e, h1, stab_its.grown h2 hg hr⟩
theorem its_open {d : Value} {xs : List It} (h : rIts ok w [d] xs) : ∃ A c, d = .slice A xs.length c ∧ xs.length ≤ c ∧ c ≤ 9223372036854775807 := by
  obtain ⟨A, c, e, h1, h2, _⟩ := h
  exact ⟨A, c, by simpa using e, h1, h2⟩
theorem Nod.open (h : Nod ok w v n) : ∃ A c, v = .agg #[.int .i64 n.1, .slice A n.2.length c] ∧ In64 n.1 ∧ n.2.length ≤ c ∧ c ≤ 9223372036854775807 ∧ rIts ok w [.slice A n.2.length c] n.2 := by
  obtain ⟨d, rfl, h1, h2⟩ := h
  obtain ⟨A, c, rfl, h3, h4⟩ := its_open h2
  exact ⟨A, c, rfl, h1, h3, h4, h2⟩
end
theorem its_nil (ok : Addr → Prop) (w : World) : rIts ok w [.slice none 0 0] [] := ⟨none, 0, rfl, by simp, by omega, fun i x h => by simp at h⟩
def zeroN : Nd := (0, [])
theorem nod_zero (ok : Addr → Prop) (w : World) : Nod ok w (.agg #[.int .i64 0, .slice none 0 0]) zeroN := ⟨_, rfl, ⟨by decide, by decide⟩, its_nil _ _⟩

/-! ### An item of a row -/
theorem add_at5 (ad : Addr) (n j : Nat) : ad.add (n + (j + 1)) = ⟨(ad.add n).block, (ad.add n).off + (j + 1), none⟩ := by
  unfold Addr.add
  rw [if_neg (by omega)]
  by_cases h : n = 0
  · subst h
    simp
  · rw [if_neg h]
    simp [Nat.add_assoc]
/-- Five cells that are an item. -/
structure At5 (w : World) (p : Addr) (s : It) (d : Value) : Prop where
  c0 : w.cell? p = some (.int .u8 (s.1.1.toNat : Int))
  c1 : w.cell? ⟨p.block, p.off + 1, none⟩ = some (.int .u32 s.1.2.1)
  c2 : w.cell? ⟨p.block, p.off + 2, none⟩ = some (.int .u32 s.1.2.2)
  c3 : w.cell? ⟨p.block, p.off + 3, none⟩ = some (.int .i64 s.2.1)
  c4 : w.cell? ⟨p.block, p.off + 4, none⟩ = some d
theorem At5.lt {w : World} {p : Addr} {s : It} {d : Value} (h : At5 w p s d) : p.block < w.heap.size := World.block_lt_of_cell? w p h.c0
theorem At5.below {w w' : World} {p : Addr} {s : It} {d : Value} (h : At5 w p s d) (hb : Below w.heap.size w w') : At5 w' p s d :=
  ⟨(hb.cell h.lt).trans h.c0, (hb.cell (p := ⟨p.block, p.off + 1, none⟩) h.lt).trans h.c1, (hb.cell (p := ⟨p.block, p.off + 2, none⟩) h.lt).trans h.c2, (hb.cell (p := ⟨p.block, p.off + 3, none⟩) h.lt).trans h.c3, (hb.cell (p := ⟨p.block, p.off + 4, none⟩) h.lt).trans h.c4⟩
theorem its_at {ok : Addr → Prop} {w : World} {A : Option Addr} {n c k : Nat} {xs : List It} {s : It} (h : rIts ok w [.slice A n c] xs) (hk : xs[k]? = some s) :
    ∃ ad E ce, A = some ad ∧ (∀ j, j < 5 → ok (ad.add (k * 5 + j))) ∧ At5 w (ad.add (k * 5)) s (.slice E s.2.2.length ce) ∧ Itm ok w (itV s (.slice E s.2.2.length ce)) s ∧ s.2.2.length ≤ ce ∧ ce ≤ 9223372036854775807 ∧ InI s := by
  obtain ⟨_, _, e, _, _, h4⟩ := h
  cases e
  obtain ⟨ad, vs, rfl, e5, q, r⟩ := h4 k s hk
  obtain ⟨d, rfl, hin, hd⟩ := rIt_open r
  obtain ⟨E, ce, rfl, l1, l2, _⟩ := id (rBy_open hd)
  have q0 := q 0 _ rfl
  have t1 := q 1 _ rfl
  have t2 := q 2 _ rfl
  have t3 := q 3 _ rfl
  have t4 := q 4 _ rfl
  refine ⟨ad, E, ce, rfl, fun j hj => ?_, ?_, ⟨_, rfl, hin, hd⟩, l1, l2, hin⟩
  · rcases (by omega : j = 0 ∨ j = 1 ∨ j = 2 ∨ j = 3 ∨ j = 4) with rfl | rfl | rfl | rfl | rfl
    · exact q0.1
    · exact t1.1
    · exact t2.1
    · exact t3.1
    · exact t4.1
  · have u1 := t1.2
    have u2 := t2.2
    have u3 := t3.2
    have u4 := t4.2
    rw [add_at5] at u1 u2 u3 u4
    exact ⟨q0.2, u1, u2, u3, u4⟩
/-- An item of a row that lies there, in every later world. -/
theorem its_old {w : World} {A : Option Addr} {n c k : Nat} {xs : List It} {s : It} (h : rIts (Old w) w [.slice A n c] xs) (hk : xs[k]? = some s) :
    ∃ ad E ce, A = some ad ∧ s.2.2.length ≤ ce ∧ ce ≤ 9223372036854775807 ∧ InI s ∧ ∀ W, Below w.heap.size w W → At5 W (ad.add (k * 5)) s (.slice E s.2.2.length ce) ∧ Itm (Old W) W (itV s (.slice E s.2.2.length ce)) s := by
  obtain ⟨ad, E, ce, rfl, _, h5, hi, l1, l2, hin⟩ := its_at h hk
  exact ⟨ad, E, ce, rfl, l1, l2, hin, fun W hW => ⟨h5.below hW, hi.below hW⟩⟩

/-! ### Arguments -/
/-! ### Which nodes may be -/
def refersI (s : It) : Bool := decide (s.2.1 ≠ 0) && decide (s.2.2.length = 0)
def okP (l : Int) (x : It) : Bool := mayI x && (decide (l ≤ 0) || refersI x)
def okAt (n : Nd) (i : Nat) : Bool := match n.2[i]? with
  | none => true
  | some x => okP n.1 x && (match i with
    | 0 => true
    | j + 1 => match n.2[j]? with
      | none => true
      | some p => lessK p.1 x.1)
def shapeN (n : Nd) : Bool := (decide (0 ≤ n.1) && decide (n.1 < 6)) && decide (n.2.length ≤ 5) && (decide (n.1 ≤ 0) || decide (0 < n.2.length))
def mayN (n : Nd) : Bool := shapeN n && (List.range n.2.length).all (okAt n)
def chkN (n : Nd) : Int := if mayN n then 0 else 8
theorem shapeN_of {n : Nd} (h : shapeN n = true) : 0 ≤ n.1 ∧ n.1 < 6 ∧ n.2.length ≤ 5 ∧ (0 < n.1 → 0 < n.2.length) := by
  simp only [shapeN, Bool.and_eq_true, Bool.or_eq_true, decide_eq_true_eq] at h
  omega
theorem shapeN_mk {n : Nd} (h : 0 ≤ n.1 ∧ n.1 < 6 ∧ n.2.length ≤ 5 ∧ (0 < n.1 → 0 < n.2.length)) : shapeN n = true := by
  simp only [shapeN, Bool.and_eq_true, Bool.or_eq_true, decide_eq_true_eq]
  omega
theorem mayN_shape {n : Nd} (h : ¬ (0 ≤ n.1 ∧ n.1 < 6 ∧ n.2.length ≤ 5 ∧ (0 < n.1 → 0 < n.2.length))) : mayN n = false := by
  cases e : mayN n with
  | false => rfl
  | true =>
    simp only [mayN, Bool.and_eq_true] at e
    exact absurd (shapeN_of e.1) h
theorem mayN_at {n : Nd} {k : Nat} (hk : k < n.2.length) (h : okAt n k = false) : mayN n = false := by
  cases e : mayN n with
  | false => rfl
  | true =>
    simp only [mayN, Bool.and_eq_true, List.all_eq_true] at e
    have := e.2 k (by simpa using hk)
    rw [h] at this
    cases this
theorem mayN_mk {n : Nd} (h : 0 ≤ n.1 ∧ n.1 < 6 ∧ n.2.length ≤ 5 ∧ (0 < n.1 → 0 < n.2.length)) (h2 : ∀ i, i < n.2.length → okAt n i = true) : mayN n = true := by
  simp only [mayN, Bool.and_eq_true, List.all_eq_true]
  exact ⟨shapeN_mk h, fun x hx => h2 x (by simpa using hx)⟩
theorem mayN_of {n : Nd} (h : mayN n = true) : (0 ≤ n.1 ∧ n.1 < 6 ∧ n.2.length ≤ 5 ∧ (0 < n.1 → 0 < n.2.length)) ∧ ∀ i, i < n.2.length → okAt n i = true := by
  simp only [mayN, Bool.and_eq_true, List.all_eq_true] at h
  exact ⟨shapeN_of h.1, fun i hi => h.2 i (by simpa using hi)⟩
theorem okAt_zero {n : Nd} {x : It} (hx : n.2[0]? = some x) : okAt n 0 = okP n.1 x := by unfold okAt; rw [hx]; simp
theorem okAt_succ {n : Nd} {k : Nat} {x p : It} (hx : n.2[k + 1]? = some x) (hp : n.2[k]? = some p) : okAt n (k + 1) = (okP n.1 x && lessK p.1 x.1) := by
  unfold okAt
  simp only [hx, hp]
theorem okAt_P {n : Nd} {k : Nat} {x : It} (hx : n.2[k]? = some x) (h : okAt n k = true) : okP n.1 x = true := by
  unfold okAt at h
  rw [hx] at h
  simp only [Bool.and_eq_true] at h
  exact h.1
theorem okAt_noP {n : Nd} {k : Nat} {x : It} (hx : n.2[k]? = some x) (h : okP n.1 x = false) : okAt n k = false := by
  unfold okAt
  simp only [hx, h, Bool.false_and]
theorem mayN_item {n : Nd} (h : mayN n = true) {k : Nat} {x : It} (hx : n.2[k]? = some x) : okP n.1 x = true :=
  okAt_P hx ((mayN_of h).2 k (List.getElem?_eq_some_iff.1 hx).1)
theorem okP_may {l : Int} {x : It} (h : okP l x = true) : mayI x = true := by
  simp only [okP, Bool.and_eq_true] at h
  exact h.1
theorem mayN_rise {n : Nd} (h : mayN n = true) {k : Nat} {x y : It} (hx : n.2[k]? = some x) (hy : n.2[k + 1]? = some y) : lessK x.1 y.1 = true := by
  have := (mayN_of h).2 (k + 1) (List.getElem?_eq_some_iff.1 hy).1
  rw [okAt_succ hy hx, Bool.and_eq_true] at this
  exact this.2
theorem mayN_rises {n : Nd} (h : mayN n = true) : ∀ {k j : Nat} {x y : It}, k < j → n.2[k]? = some x → n.2[j]? = some y → lessK x.1 y.1 = true := by
  intro k j x y hkj
  induction j generalizing y with
  | zero => omega
  | succ j ih =>
    intro hx hy
    rcases Nat.lt_or_ge k j with h1 | h1
    · have hjl : j < n.2.length := by have := (List.getElem?_eq_some_iff.1 hy).1; omega
      exact less_trans (ih h1 hx (List.getElem?_eq_getElem hjl)) (mayN_rise h (List.getElem?_eq_getElem hjl) hy)
    · have : k = j := by omega
      subst this
      exact mayN_rise h hx hy
theorem chkN_ok {n : Nd} (h : mayN n = true) : chkN n = 0 := by simp [chkN, h]
theorem chkN_bad {n : Nd} (h : mayN n = false) : chkN n = 8 := by simp [chkN, h]
/-! ### Their bytes -/
def itsB (l : List It) : List UInt8 := (l.map itB).flatten
theorem itsB_snoc (l : List It) (x : It) : itsB (l ++ [x]) = itsB l ++ itB x := by simp [itsB]
theorem itsB_take {l : List It} {k : Nat} {x : It} (h : l[k]? = some x) : itsB (l.take (k + 1)) = itsB (l.take k) ++ itB x := by
  rw [List.take_add_one, h]
  exact itsB_snoc _ _
def headN (n : Nd) : List UInt8 := [78, UInt8.ofNat n.1.toNat, UInt8.ofNat n.2.length]
def toldN (n : Nd) : List UInt8 := headN n ++ itsB n.2
def blkN (n : Nd) : List UInt8 := sealN (toldN n)
def wrN (n : Nd) : List UInt8 := if mayN n then blkN n else []
theorem itsB_len : ∀ {l : List It}, (∀ x ∈ l, mayI x = true) → (itsB l).length ≤ 24 * l.length
  | [], _ => by simp [itsB]
  | x :: r, h => by
    have h1 := itsB_len (l := r) (fun y hy => h y (List.mem_cons.2 (Or.inr hy)))
    have h2 := (mayI_of (h x (List.mem_cons.2 (Or.inl rfl)))).2
    have h3 := itB_length x
    have : itsB (x :: r) = itB x ++ itsB r := by simp [itsB]
    rw [this, List.length_append, List.length_cons]
    omega
theorem mayN_all {n : Nd} (h : mayN n = true) : ∀ x ∈ n.2, mayI x = true := fun x hx => by
  obtain ⟨k, hk⟩ := List.mem_iff_getElem?.1 hx
  exact okP_may (mayN_item h hk)
theorem toldN_len {n : Nd} (h : mayN n = true) : (toldN n).length ≤ 124 := by
  have h1 := itsB_len (mayN_all h)
  have h2 := (mayN_of h).1.2.2.1
  have h3 : (toldN n).length = 3 + (itsB n.2).length := by simp [toldN, headN]; omega
  omega
theorem blkN_length {n : Nd} (h : mayN n = true) : (blkN n).length = 128 := sealN_length (toldN_len h)
end Go.Proofs.Ytncnoingbaeomaa

/-
  Package node: noughts, cut. Conditions: those that each lemma states.
-/
namespace Go.Proofs.Ytncnoingbaeomaa
open Go.RowKit

/-! ### noughts -/
theorem nought_any (a : Int) (w : World) : Calls Try.prog 92 #[.int .u8 a] w fun e w' => e = .returned (.bool (a != 0)) ∧ w = w' := by
  go_enter Try.func92, Try.ntmps92
  go_wp2_with fail
  go_ret
  exact ⟨rfl, rfl⟩
def idxN (b : List UInt8) : Int := match b.findIdx? (· ≠ 0) with
  | none => -1
  | some k => k
theorem idxN_at {b : List UInt8} {k : Nat} (hk : k < b.length) (ha : ∀ j, j < k → b[j]?.getD 0 = 0) (h : b[k]?.getD 0 ≠ 0) : idxN b = k := by
  have e : b.findIdx? (· ≠ 0) = some k := by
    rw [List.findIdx?_eq_some_iff_getElem]
    refine ⟨hk, by simpa [List.getElem?_eq_getElem hk] using h, fun j hj => ?_⟩
    have := ha j hj
    simpa [List.getElem?_eq_getElem (show j < b.length by omega)] using this
  unfold idxN
  rw [e]
theorem idxN_none {b : List UInt8} (ha : ∀ j, j < b.length → b[j]?.getD 0 = 0) : idxN b = -1 := by
  have e : b.findIdx? (· ≠ 0) = none := by
    rw [List.findIdx?_eq_none_iff]
    intro x hx
    obtain ⟨j, hj, rfl⟩ := List.mem_iff_getElem.1 hx
    have := ha j hj
    simpa [List.getElem?_eq_getElem hj] using this
  unfold idxN
  rw [e]
def noughtsB (b : List UInt8) : Bool := b.all (· == 0)
theorem noughts_idx (b : List UInt8) : (!decide (0 ≤ idxN b)) = noughtsB b := by
  unfold idxN noughtsB
  cases e : b.findIdx? (· ≠ 0) with
  | none =>
    rw [List.findIdx?_eq_none_iff] at e
    have : (b.all fun x => x == 0) = true := by
      rw [List.all_eq_true]
      intro x hx
      simpa using e x hx
    rw [this]
    simp
  | some k =>
    rw [List.findIdx?_eq_some_iff_getElem] at e
    obtain ⟨hk, h1, _⟩ := e
    have : (b.all fun x => x == 0) = false := by
      rw [List.all_eq_false]
      exact ⟨b[k], List.getElem_mem hk, by simpa using h1⟩
    rw [this]
    simp
set_option maxRecDepth 100000 in
theorem index_any (A : Option Addr) (n c : Nat) (b : List UInt8) (hn : Hid (b.length = n)) (l1 : n ≤ c) (m1 : c ≤ 9223372036854775807) (w : World) (h : Byt w w.heap.size A b) :
    Calls Try.prog 104 #[.slice A n c, .func (.func 92) #[] #[]] w fun e w' => e = .returned (.int .i64 (idxN b)) ∧ w = w' := by
  have HY := Lib.hid h
  clear h
  go_enter Try.func104, Try.ntmps104
  go_wp2_with fail
  go_loop [8] (fun i => ∃ k : Nat, k ≤ n ∧ i = .int .i64 k ∧ ∀ j, j < k → b[j]?.getD 0 = 0) (fun i => n - (intOf i).toNat)
  case atStart => exact ⟨0, by omega, rfl, fun j hj => by omega⟩
  case round =>
    obtain ⟨k, hk, rfl, ha⟩ := hrel
    replace ha := Lib.hid ha
    by_cases hlt : k < n
    · obtain ⟨ad, rfl, _, hc⟩ := HY.out (by rw [hn.out]; omega)
      replace hc := hc k (by rw [hn.out]; exact hlt)
      have hyes := Lib.hid (fun h => idxN_at (b := b) (k := k) (by rw [hn.out]; exact hlt) ha.out h)
      have hno : Hid (b[k]?.getD 0 = 0 → ∀ j, j < k + 1 → b[j]?.getD 0 = 0) := Lib.hid fun h j hj => by
        rcases Nat.lt_or_ge j k with h1 | h1
        · exact ha.out j h1
        · obtain rfl : j = k := by omega
          exact h
      obtain ⟨x, hx⟩ : ∃ x, b[k]?.getD 0 = x := ⟨_, rfl⟩
      rw [hx] at hc hyes hno
      replace hx := Lib.hid hx
      by_cases h0 : (x.toNat : Int) = 0
      · have t0 : ((x.toNat : Int) != 0) = false := by simpa using h0
        have hall := Lib.hid (hno.out (UInt8.toNat.inj (by simpa using h0)))
        replace h0 := Lib.hid h0
        go_wp2_with fail
        with_reducible refine (nought_any _ _).mono ?_
        rintro e3 w3 ⟨rfl, rfl⟩
        rw [t0]
        go_wp2_with fail
        go_round
        case rel => exact ⟨k + 1, by omega, by go_num, hall.out⟩
        case measure => simp [intOf]; omega
      · have t0 : ((x.toNat : Int) != 0) = true := by simpa using h0
        have hr := Lib.hid (hyes.out (fun e => h0 (by rw [e]; rfl)))
        replace h0 := Lib.hid h0
        go_wp2_with fail
        with_reducible refine (nought_any _ _).mono ?_
        rintro e3 w3 ⟨rfl, rfl⟩
        rw [t0]
        go_wp2_with fail
        go_ret
        exact ⟨ret_int hr.out.symm, rfl⟩
    · have hr := Lib.hid (idxN_none (b := b) fun j hj => ha.out j (by have := hn.out; omega))
      go_wp2_with fail
      go_ret
      exact ⟨ret_int hr.out.symm, rfl⟩
set_option maxRecDepth 100000 in
theorem noughts_any (A : Option Addr) (n c : Nat) (b : List UInt8) (hn : Hid (b.length = n)) (l1 : n ≤ c) (m1 : c ≤ 9223372036854775807) (w : World) (h : Byt w w.heap.size A b) :
    Calls Try.prog 75 #[.slice A n c] w fun e w' => e = .returned (.bool (noughtsB b)) ∧ w = w' := by
  have HY := Lib.hid h
  have hi := Lib.hid (noughts_idx b)
  have hx : Hid (∀ W, Byt W W.heap.size A b → Calls Try.prog 91 #[.slice A n c, .func (.func 92) #[] #[]] W fun e w' => e = .returned (.bool (decide (0 ≤ idxN b))) ∧ W = w') := Lib.hid fun W hW => by
    have HW := Lib.hid hW
    clear hW
    go_enter Try.func91, Try.ntmps91
    go_wp2_with fail
    with_reducible refine (index_any A n c b hn l1 m1 _ HW.out).mono ?_
    rintro e3 w3 ⟨rfl, rfl⟩
    go_wp2_with fail
    go_ret
    exact ⟨rfl, rfl⟩
  clear h
  go_enter Try.func75, Try.ntmps75
  go_wp2_with fail
  with_reducible refine (hx.out _ HY.out).mono ?_
  rintro e3 w3 ⟨rfl, rfl⟩
  go_wp2_with fail
  go_ret
  exact ⟨ret_bool hi.out, rfl⟩
end Go.Proofs.Ytncnoingbaeomaa

/-
  Package node: cut. Conditions: those that each lemma states.
-/
namespace Go.Proofs.Ytncnoingbaeomaa
open Go.RowKit

/-! ### Rows of items of the call's own -/
theorem item_info0 : (Try.prog.info? 39).map (fun i => (i.zero, i.size, i.bytes)) = some (some (.agg #[.int .u8 0, .int .u32 0, .int .u32 0, .int .i64 0, .slice none 0 0]), 5, 48) := by kernel_rfl
theorem its_push {w : World} {lo : Nat} {A : Option Addr} {c : Nat} {xs : List It} (h : RowOf rIt 5 39 lo w A c xs) (g : Nat) (s : It) (d : Value) (m n : Nat) (hn : xs.length = n) (hg : w.heap[g]? = some (.cells #[.int .u8 (s.1.1.toNat : Int), .int .u32 s.1.2.1, .int .u32 s.1.2.2, .int .i64 s.2.1, d] 39 (0, 0))) (hs : n < 100000) (hbase : lo ≤ w.heap.size) (hin : InI s) (hx : rBy (NewBut lo A w) w [d] s.2.2) :
    ∃ A' c' w', (Builtin.append_ #[52, 52] 52 #[.slice A n c, .slice (some ⟨g, 0, none⟩) 1 m]).run Try.prog w = .ok (.slice A' (n + 1) c') w' ∧ RowOf rIt 5 39 lo w' A' c' (xs ++ [s]) ∧ w.grownBy w' (A.map (·.block)) ∧ Below lo w w' := by
  subst hn
  obtain ⟨i0, hi, hz0, hz1, hz2⟩ := info_parts item_info0
  obtain ⟨E, ce, rfl, _⟩ := id (rBy_open hx)
  exact RowOf.push stab_it h 52 52 i0 (.agg #[.int .u8 0, .int .u32 0, .int .u32 0, .int .i64 0, .slice none 0 0]) 48 Try.underlying52 hi hz0 hz1 hz2 rfl (by decide) ⟨g, 0, none⟩ m _ s rfl (World.news_of_block (cs := #[.int .u8 (s.1.1.toNat : Int), .int .u32 s.1.2.1, .int .u32 s.1.2.2, .int .i64 s.2.1, .slice E s.2.2.length ce]) hg) (fun u hu => by
    simp at hu
    rcases hu with rfl | rfl | rfl | rfl | rfl <;> rfl) (by unfold maxLen; omega) (by omega) hbase (rIt_mk hin hx)

/-! ### What is cut off -/
def cutTo (b : List UInt8) : Nat → Option (List It × List UInt8)
  | 0 => some ([], b)
  | k + 1 => match cutTo b k with
    | none => none
    | some (l, r) => if okR r then some (l ++ [itR r], r.drop (itN r).toNat) else none
theorem cutTo_yes {b : List UInt8} {k : Nat} {l : List It} {r : List UInt8} (h : cutTo b k = some (l, r)) (h' : okR r = true) : cutTo b (k + 1) = some (l ++ [itR r], r.drop (itN r).toNat) := by
  simp only [cutTo, h, h', if_true]
theorem cutTo_no {b : List UInt8} {k : Nat} {l : List It} {r : List UInt8} (h : cutTo b k = some (l, r)) (h' : okR r = false) : cutTo b (k + 1) = none := by
  simp only [cutTo, h, h']
  rfl
theorem cutTo_none {b : List UInt8} {k j : Nat} (h : cutTo b k = none) (hj : k ≤ j) : cutTo b j = none := by
  induction j with
  | zero =>
    have : k = 0 := by omega
    rw [this] at h
    exact h
  | succ j ih =>
    rcases Nat.lt_or_ge k (j + 1) with h1 | h1
    · simp only [cutTo, ih (by omega)]
    · have : k = j + 1 := by omega
      rw [this] at h
      exact h
theorem cutTo_bytes {b : List UInt8} : ∀ {k : Nat} {l : List It} {r : List UInt8}, cutTo b k = some (l, r) → b = itsB l ++ r ∧ l.length = k ∧ (∀ x ∈ l, mayI x = true ∧ InI x)
  | 0, l, r, h => by
    simp only [cutTo, Option.some.injEq, Prod.mk.injEq] at h
    obtain ⟨rfl, rfl⟩ := h
    exact ⟨by simp [itsB], rfl, fun x hx => by simp at hx⟩
  | k + 1, l, r, h => by
    cases e : cutTo b k with
    | none => simp [cutTo, e] at h
    | some p =>
      obtain ⟨l', r'⟩ := p
      obtain ⟨h1, h2, h3⟩ := cutTo_bytes e
      rcases bool_ways (okR r') with ho | ho
      · rw [cutTo_no e ho] at h
        cases h
      · rw [cutTo_yes e ho] at h
        simp only [Option.some.injEq, Prod.mk.injEq] at h
        obtain ⟨rfl, rfl⟩ := h
        obtain ⟨n, e1, e2, e3, e4⟩ := read_itB ho
        have hn : (itN r').toNat = n := by rw [e1]; omega
        refine ⟨?_, by simp [h2], fun x hx => ?_⟩
        · rw [itsB_snoc, e4, hn, List.append_assoc, List.take_append_drop]
          exact h1
        · rcases List.mem_append.1 hx with hx | hx
          · exact h3 x hx
          · simp at hx
            subst hx
            exact ⟨e3, by rw [itR, ho, if_pos rfl]; exact inI_fields _⟩
def cutL (b : List UInt8) (k : Nat) : List It := ((cutTo b k).map (·.1)).getD []
def cutR (b : List UInt8) (k : Nat) : List UInt8 := ((cutTo b k).map (·.2)).getD []
def cutF (b : List UInt8) (k : Nat) : Int := if (cutTo b k).isSome then 0 else 8

/-- What is left of bytes. -/
theorem rBy_rest {ok : Addr → Prop} {w : World} {ad : Addr} {n c : Nat} {b : List UInt8} (h : rBy ok w [.slice (some ad) n c] b) (k : Nat) (hk : k ≤ b.length) : rBy ok w [.slice (some (ad.add k)) (n - k) (c - k)] (b.drop k) := by
  obtain ⟨A, c', e, l1, l2, _⟩ := id h
  cases e
  have := rBy_part h k (b.length - k) (c - k) (by omega) (by omega) (by omega)
  rwa [List.take_of_length_le (by simp)] at this

set_option maxRecDepth 100000 in
set_option maxHeartbeats 4000000 in
theorem nodeCut_any (v : Value) (b : List UInt8) (many : Nat) (hm : many < 256) (w : World) (h : rBy (Old w) w [v] b) :
    Calls Try.prog 74 #[v, .int .i64 many] w fun e w' => ∃ A c u, e = .returned (.tuple #[.slice A (cutL b many).length c, u, .int .i64 (cutF b many)]) ∧ rIts (New w.heap.size w') w' [.slice A (cutL b many).length c] (cutL b many) ∧ rBy (Old w') w' [u] (cutR b many) ∧ Below w.heap.size w w' := by
  have HV := Lib.hid h
  clear h
  go_enter Try.func74, Try.ntmps74
  go_wp2_with fail
  go_loopw [0, 7, 12] (fun q it i wr => ∃ (k : Nat) (l : List It) (r : List UInt8) (A : Option Addr) (c : Nat), k ≤ many ∧ i = .int .i64 k ∧ it = .slice A k c ∧ l.length = k ∧ cutTo b k = some (l, r) ∧ rBy (Old w) w [q] r ∧ RowOf rIt 5 39 w.heap.size wr A c l ∧ Below w.heap.size w wr) (fun _ _ i _ => many - (intOf i).toNat)
  case atStart => exact ⟨0, [], b, none, 0, by omega, rfl, rfl, rfl, rfl, HV.out, RowOf.nil _ _ _ _ _, Below.refl _ _⟩
  case round =>
    obtain ⟨k, l, r, A, c, hk, rfl, rfl, hl, hcut, hq, hrow, hb⟩ := hrel
    replace hrow := Lib.hid hrow
    replace hcut := Lib.hid hcut
    replace hl := Lib.hid hl
    replace hb := Lib.hid hb
    obtain ⟨Q, cq, rfl, n1, n2, _⟩ := id (rBy_open hq)
    obtain ⟨nq, hnq⟩ : ∃ n, r.length = n := ⟨_, rfl⟩
    rw [hnq] at n1 hq ⊢
    replace hnq := Lib.hid hnq
    replace hq := Lib.hid hq
    have hqr := Lib.hid (stab_by.old hq.out hb.out)
    by_cases hlt : k < many
    case neg =>
      have hkm : k = many := by omega
      have hL := Lib.hid (show cutL b many = l by rw [← hkm]; simp [cutL, hcut.out])
      have hR := Lib.hid (show cutR b many = r by rw [← hkm]; simp [cutR, hcut.out])
      have hF := Lib.hid (show cutF b many = 0 by rw [← hkm]; simp [cutF, hcut.out])
      have hfin := Lib.hid (hrow.out.rel stab_it)
      rw [hl.out] at hfin
      replace hkm := Lib.hid hkm
      go_wp2_with fail
      exact bodyPost_ret (v := .tuple #[.slice A k c, .slice Q nq cq, .int .i64 0]) (by simp [results, Try.results74, go_sem]) rfl ⟨A, c, _, by rw [hL.out, hF.out, hl.out], by rw [hL.out, hl.out]; exact hfin.out, by rw [hR.out]; exact hqr.out, hb.out⟩
    go_wp2_with fail
    with_reducible refine (itRead_any _ r _ hqr.out).mono ?_
    rintro e3 w3 ⟨u3, rfl, hu3, hb3⟩
    obtain ⟨D, dc, rfl, hin, _, _, hby⟩ := id hu3.open
    obtain ⟨w4, hw4, s0, s1, s2, s3, s4, hs4, hb4, b4⟩ := box_five w3 (.int .u8 ((itR r).1.1.toNat : Int)) (.int .u32 (itR r).1.2.1) (.int .u32 (itR r).1.2.2) (.int .i64 (itR r).2.1) (.slice D (itR r).2.2.length dc) 39
    have C4 := Lib.hid (hb3.trans (hb4.mono hb3.size))
    have B4 := Lib.hid (hb.out.trans (C4.out.mono hb.out.size))
    have hI4 := Lib.hid (hu3.new (Nat.le_refl _) hb4)
    obtain ⟨x, hx⟩ : ∃ x, itR r = x := ⟨_, rfl⟩
    rw [hx] at hin s0 s1 s2 s3 s4 b4 hI4 hw4 ⊢
    replace hs4 := Lib.hid hs4
    replace hx := Lib.hid hx
    clear hb3 hb4 hu3 hby
    unfold itV at *
    go_upto_region 5 with fail
    clear hw4
    rcases bool_ways (okR r) with hok | hok
    · have hE := Lib.hid (show itE r = 8 by simp [itE, hok])
      have hno := Lib.hid (cutTo_none (cutTo_no hcut.out hok) (show k + 1 ≤ many by omega))
      have hL := Lib.hid (show cutL b many = [] by simp [cutL, hno.out])
      have hR := Lib.hid (show cutR b many = [] by simp [cutR, hno.out])
      have hF := Lib.hid (show cutF b many = 8 by simp [cutF, hno.out])
      rw [hE.out]
      replace hok := Lib.hid hok
      go_wp2_with fail
      exact bodyPost_ret (v := .tuple #[.slice none 0 0, .slice none 0 0, .int .i64 8]) (by simp [results, Try.results74, go_sem]) rfl ⟨none, 0, _, by rw [hL.out, hF.out]; rfl, by rw [hL.out]; exact its_nil _ _, by rw [hR.out]; exact rBy_part0 _ _ none, B4.out⟩
    have hE := Lib.hid (show itE r = 0 by simp [itE, hok])
    obtain ⟨m, hm1, hm2, hm3, hm4⟩ := read_itB hok
    have hyes := cutTo_yes hcut.out hok
    rw [hm1, show ((m : Int)).toNat = m by omega, hx.out] at hyes
    have hrl : 12 ≤ nq := by have := okC_yes (okR_fields hok).1; have := hnq.out; omega
    rw [hnq.out] at hm2
    rw [hE.out, hm1]
    replace hyes := Lib.hid hyes
    replace hok := Lib.hid hok
    clear hm1 hm3 hm4
    obtain ⟨w5, hw5, _, _, _, _, _, hs5, hb5, b5⟩ := box_five w4 (.int .u8 (x.1.1.toNat : Int)) (.int .u32 x.1.2.1) (.int .u32 x.1.2.2) (.int .i64 x.2.1) (.slice D x.2.2.length dc) 39
    have C5 := C4.out.trans (hb5.mono C4.out.size)
    have hI5 := hI4.out.new (Nat.le_refl _) hb5
    have hx5 : rBy (NewBut w.heap.size A w5) w5 [.slice D x.2.2.length dc] x.2.2 := by
      obtain ⟨d, e, _, hd⟩ := hI5
      have ed : d = .slice D x.2.2.length dc := by injection e with e; simpa using e.symm
      subst ed
      exact stab_by _ _ _ _ _ _ (fun p v hp hc => ⟨hrow.out.but (Nat.le_refl _) hb.out.size hp, hc⟩) hd
    have row5 := RowOf.below stab_it hrow.out C5
    have hb5' := hb.out.trans (C5.mono hb.out.size)
    have hk5 : l.length < 100000 := by have := hl.out; omega
    obtain ⟨A6, c6, w6, hr6, row6, _, hb6⟩ := its_push row5 w4.heap.size x _ 1 k hl.out b5 (by omega) hb5'.size hin hx5
    have B6 := Lib.hid (hb5'.trans hb6)
    have H6 := Lib.hid hr6
    replace row6 := Lib.hid row6
    have hll := Lib.hid (show (l ++ [x]).length = k + 1 by simp [hl.out])
    obtain ⟨qa, rfl⟩ : ∃ qa, Q = some qa := by
      obtain ⟨_, _, e, _, _, h4⟩ := rBy_open hq.out
      cases e
      obtain ⟨qa, e, _⟩ := h4 0 (by have := hnq.out; omega)
      exact ⟨qa, e⟩
    have hrest := Lib.hid (rBy_rest hq.out m (by rw [hnq.out]; exact hm2))
    have hnil : Hid (m = nq → ∀ W, rBy (Old W) W [.slice (some qa) 0 0] (r.drop m)) := Lib.hid fun e W => by
      rw [List.drop_of_length_le (by rw [hnq.out]; omega)]
      exact rBy_part0 _ _ _
    replace hs5 := Lib.hid hs5
    replace b5 := Lib.hid b5
    replace hI5 := Lib.hid hI5
    clear hr6 hb6 hx5 row5 C5 hb5 hb5' hin
    by_cases hmc : m = cq
    · have c1 : (0 : Int) ≤ (m : Int) := by omega
      have c2 : (m : Int) ≤ cq := by omega
      have c3 : (m : Int) ≤ nq := by omega
      go_wp2_with (at_builtin; refine wpList_append_run rfl _ _ _ rfl rfl rfl H6.out ?_; clear H6)
      go_roundw
      case rel => exact ⟨k + 1, l ++ [x], r.drop m, A6, c6, by omega, by go_num, rfl, hll.out, hyes.out, hnil.out (by omega) w, row6.out, B6.out⟩
      case measure => simp [intOf]; omega
    · have c1 : (0 : Int) ≤ (m : Int) := by omega
      have c2 : (m : Int) ≤ cq := by omega
      have c3 : (m : Int) ≤ nq := by omega
      go_wp2_with (at_builtin; refine wpList_append_run rfl _ _ _ rfl rfl rfl H6.out ?_; clear H6)
      go_roundw
      case rel => exact ⟨k + 1, l ++ [x], r.drop m, A6, c6, by omega, by go_num, rfl, hll.out, hyes.out, hrest.out, row6.out, B6.out⟩
      case measure => simp [intOf]; omega
end Go.Proofs.Ytncnoingbaeomaa

/-
  Package node: refers, Check. Conditions: those that each lemma states.
-/
namespace Go.Proofs.Ytncnoingbaeomaa
open Go.RowKit

set_option maxRecDepth 100000 in
set_option maxHeartbeats 2000000 in
theorem refers_any (v : Value) (s : It) (w : World) (h : Itm (Old w) w v s) : Calls Try.prog 83 #[v] w fun e w' => e = .returned (.bool (refersI s)) ∧ Below w.heap.size w w' := by
  obtain ⟨A, c, rfl, _, l1, m1, _⟩ := h.open
  have hw : refersI s = (decide (s.2.1 ≠ 0) && decide (s.2.2.length = 0)) := rfl
  obtain ⟨n, hn⟩ : ∃ n, s.2.2.length = n := ⟨_, rfl⟩
  unfold itV
  rw [hn] at l1 hw ⊢
  obtain ⟨w0, hw0, f1, f2, f3, f4, f5, hs0, hB0, _⟩ := box_five w (.int .u8 (s.1.1.toNat : Int)) (.int .u32 s.1.2.1) (.int .u32 s.1.2.2) (.int .i64 s.2.1) (.slice A n c) 39
  clear f1 f2 f3 hs0 hn h
  replace hB0 := Lib.hid hB0
  obtain ⟨r, hr⟩ : ∃ r, s.2.1 = r := ⟨_, rfl⟩
  rw [hr] at hw f4 hw0 ⊢
  clear hr
  generalize refersI s = res at hw ⊢
  replace hw := Lib.hid hw
  by_cases h0 : r = 0
  · have t0 : (r != 0) = false := by simpa using h0
    have hr := Lib.hid (show res = false by rw [hw.out]; simp [h0])
    replace h0 := Lib.hid h0
    go_enter Try.func83, Try.ntmps83
    go_upto_region 1 with fail
    clear hw0
    go_wp2_with fail
    go_ret
    exact ⟨ret_bool hr.out.symm, hB0.out⟩
  · have t0 : (r != 0) = true := by simpa using h0
    by_cases h1 : n = 0
    · have t1 : ((n : Int) == 0) = true := by simp; omega
      have hr := Lib.hid (show res = true by rw [hw.out]; simp [h0, h1])
      replace h0 := Lib.hid h0
      replace h1 := Lib.hid h1
      go_enter Try.func83, Try.ntmps83
      go_upto_region 1 with fail
      clear hw0
      go_wp2_with fail
      go_ret
      exact ⟨ret_bool hr.out.symm, hB0.out⟩
    · have t1 : ((n : Int) == 0) = false := by simp; omega
      have hr := Lib.hid (show res = false by rw [hw.out]; simp [h1])
      replace h0 := Lib.hid h0
      replace h1 := Lib.hid h1
      go_enter Try.func83, Try.ntmps83
      go_upto_region 1 with fail
      clear hw0
      go_wp2_with fail
      go_ret
      exact ⟨ret_bool hr.out.symm, hB0.out⟩

theorem bool_two (b : Bool) : b = false ∨ b = true := by cases b <;> simp
set_option maxRecDepth 100000 in
set_option maxHeartbeats 8000000 in
theorem checkN_any (v : Value) (n : Nd) (w : World) (h : Nod (Old w) w v n) : Calls Try.prog 69 #[v] w fun e w' => e = .returned (.int .i64 (chkN n)) ∧ Below w.heap.size w w' := by
  obtain ⟨A, c, rfl, hin, l1, m1, hA⟩ := h.open
  have hbad0 := Lib.hid (fun hh => chkN_bad (mayN_shape (n := n) hh))
  have hbad1 : Hid (∀ k, k < n.2.length → okAt n k = false → chkN n = 8) := Lib.hid fun k hk hh => chkN_bad (mayN_at hk hh)
  have hgood := Lib.hid (fun hh h2 => chkN_ok (mayN_mk (n := n) hh h2))
  have HA := Lib.hid hA
  clear h hA
  obtain ⟨m, hm⟩ : ∃ m, n.2.length = m := ⟨_, rfl⟩
  obtain ⟨l, hl⟩ : ∃ l, n.1 = l := ⟨_, rfl⟩
  rw [hm] at l1 hbad0 hbad1 hgood HA ⊢
  rw [hl] at hbad0 hgood hin ⊢
  obtain ⟨i1, i2⟩ := hin
  replace hm := Lib.hid hm
  replace hl := Lib.hid hl
  obtain ⟨w0, hw0, b0, hs0, hB0⟩ := box_pair' w (.int .i64 l) (.slice A m c) 64
  obtain ⟨f1, f2, _, lt0⟩ := two_cells b0
  replace hB0 := Lib.hid hB0
  replace b0 := Lib.hid b0
  replace hs0 := Lib.hid hs0
  by_cases h1 : l < 0
  · have hr := Lib.hid (hbad0.out (by omega))
    rw [hr.out]
    go_enter Try.func69, Try.ntmps69
    go_upto_region 1 with fail
    clear hw0
    go_wp2_with fail
    go_ret
    exact ⟨rfl, hB0.out⟩
  by_cases h2 : 6 ≤ l
  · have hr := Lib.hid (hbad0.out (by omega))
    rw [hr.out]
    go_enter Try.func69, Try.ntmps69
    go_upto_region 1 with fail
    clear hw0
    go_wp2_with fail
    go_ret
    exact ⟨rfl, hB0.out⟩
  by_cases h3 : 5 < m
  · have hr := Lib.hid (hbad0.out (by omega))
    have h3' : (5 : Int) < m := by omega
    rw [hr.out]
    go_enter Try.func69, Try.ntmps69
    go_upto_region 1 with fail
    clear hw0
    go_wp2_with fail
    go_ret
    exact ⟨rfl, hB0.out⟩
  have h3' : ¬ (5 : Int) < m := by omega
  by_cases h4 : 0 < l ∧ m = 0
  · have hr := Lib.hid (hbad0.out (by omega))
    obtain ⟨h4a, h4b⟩ := h4
    have h4c : ((m : Int) == 0) = true := by simp; omega
    replace h4b := Lib.hid h4b
    rw [hr.out]
    go_enter Try.func69, Try.ntmps69
    go_upto_region 1 with fail
    clear hw0
    go_wp2_with fail
    go_ret
    exact ⟨rfl, hB0.out⟩
  have hgood2 := Lib.hid (hgood.out (by omega))
  have hB := Lib.hid (fun wr (hb : Below w0.heap.size w0 wr) => hB0.out.trans (hb.mono hB0.out.size))
  clear hgood hbad0
  rcases (by omega : l ≤ 0 ∨ (0 < l ∧ m ≠ 0)) with h5 | ⟨h5, h6⟩
  rotate_left
  · have h6' : ((m : Int) == 0) = false := by simp; omega
    replace h6 := Lib.hid h6
    replace h4 := Lib.hid h4
    go_enter Try.func69, Try.ntmps69
    go_upto_region 1 with fail
    clear hw0
    go_wp2_with fail
    go_loopw [31] (fun i wr => ∃ k : Nat, k ≤ m ∧ i = .int .i64 k ∧ (∀ j, j < k → okAt n j = true) ∧ Below w0.heap.size w0 wr) (fun i _ => m - (intOf i).toNat)
    case atStart => exact ⟨0, by omega, rfl, fun j hj => by omega, Below.refl _ _⟩
    case round =>
      obtain ⟨k, hk, rfl, ha, hb⟩ := hrel
      replace ha := Lib.hid ha
      replace hb := Lib.hid hb
      have p1 := (hb.out.cell (p := ⟨w.heap.size, 0, none⟩) lt0).trans f1
      have p2 := (hb.out.cell (p := ⟨w.heap.size, 1, none⟩) lt0).trans f2
      by_cases hlt : k < m
      case neg =>
        have hfin := Lib.hid (hgood2.out fun i hi => ha.out i (by omega))
        have BF := Lib.hid (hB.out _ hb.out)
        go_wp2_with fail
        go_ret
        exact ⟨ret_int hfin.out.symm, BF.out⟩
      obtain ⟨x, hx⟩ : ∃ x, n.2[k]? = some x := ⟨_, List.getElem?_eq_getElem (by rw [hm.out]; exact hlt)⟩
      obtain ⟨ad, E, ce, rfl, q1, q2, hinx, FX⟩ := its_old HA.out hx
      have FX' := Lib.hid (fun W (hW : Below wr.heap.size wr W) => FX W ((hB.out _ hb.out).trans (hW.mono (hB.out _ hb.out).size)))
      obtain ⟨⟨z0, z1, z2, z3, z4⟩, hIx⟩ := FX'.out wr (Below.refl _ _)
      obtain ⟨w2, hw2, g0, g1, g2, g3, g4, hs2, hB2, _⟩ := box_five wr (.int .u8 (x.1.1.toNat : Int)) (.int .u32 x.1.2.1) (.int .u32 x.1.2.2) (.int .i64 x.2.1) (.slice E x.2.2.length ce) 39
      have HI := Lib.hid (hIx.below hB2)
      have lt2 : wr.heap.size < w2.heap.size := by omega
      have B2 := Lib.hid (hb.out.trans (hB2.mono hb.out.size))
      have C2 := Lib.hid hB2
      replace hx := Lib.hid hx
      replace hs2 := Lib.hid hs2
      have hbk := Lib.hid (hbad1.out k hlt)
      clear FX hIx hB2 hinx
      unfold itV at *
      go_upto_region 8 with fail
      clear hw2
      go_wp2_with fail
      with_reducible refine (checkI_any _ x _ HI.out).mono ?_
      rintro e3 w3 ⟨rfl, hb3⟩
      have B3 := Lib.hid (B2.out.trans (hb3.mono B2.out.size))
      have C3 := Lib.hid (C2.out.trans (hb3.mono C2.out.size))
      have r0 := (hb3.cell (p := ⟨wr.heap.size, 0, none⟩) lt2).trans g0
      have r1 := (hb3.cell (p := ⟨wr.heap.size, 1, none⟩) lt2).trans g1
      have r2 := (hb3.cell (p := ⟨wr.heap.size, 2, none⟩) lt2).trans g2
      have r3 := (hb3.cell (p := ⟨wr.heap.size, 3, none⟩) lt2).trans g3
      have r4 := (hb3.cell (p := ⟨wr.heap.size, 4, none⟩) lt2).trans g4
      have p3 := (hb3.cell (p := ⟨w.heap.size, 0, none⟩) (Nat.lt_of_lt_of_le lt0 B2.out.size)).trans ((C2.out.cell (p := ⟨w.heap.size, 0, none⟩) (Nat.lt_of_lt_of_le lt0 hb.out.size)).trans p1)
      have p4 := (hb3.cell (p := ⟨w.heap.size, 1, none⟩) (Nat.lt_of_lt_of_le lt0 B2.out.size)).trans ((C2.out.cell (p := ⟨w.heap.size, 1, none⟩) (Nat.lt_of_lt_of_le lt0 hb.out.size)).trans p2)
      replace HI := Lib.hid (HI.out.below hb3)
      have lt3 : wr.heap.size < w3.heap.size := Nat.lt_of_lt_of_le lt2 hb3.size
      clear hb3 g0 g1 g2 g3 g4 z0 z1 z2 z3 z4 p1 p2
      rcases bool_two (mayI x) with hmx | hmx
      · have hr := Lib.hid (hbk.out (okAt_noP hx.out (by rw [okP, hmx]; rfl)))
        have hc := Lib.hid (chkI_bad hmx)
        have BF := Lib.hid (hB.out _ B3.out)
        replace hmx := Lib.hid hmx
        rw [hc.out]
        go_wp2_with fail
        go_ret
        exact ⟨ret_int hr.out.symm, BF.out⟩
      have hc := Lib.hid (chkI_ok hmx)
      replace hmx := Lib.hid hmx
      rw [hc.out]
      go_wp2_with fail
      with_reducible refine (refers_any _ x _ HI.out).mono ?_
      rintro e4 w4 ⟨rfl, hb4⟩
      have B4 := Lib.hid (B3.out.trans (hb4.mono B3.out.size))
      have C4 := Lib.hid (C3.out.trans (hb4.mono C3.out.size))
      have t0 := (hb4.cell (p := ⟨wr.heap.size, 0, none⟩) lt3).trans r0
      have t1 := (hb4.cell (p := ⟨wr.heap.size, 1, none⟩) lt3).trans r1
      have t2 := (hb4.cell (p := ⟨wr.heap.size, 2, none⟩) lt3).trans r2
      have p5 := (hb4.cell (p := ⟨w.heap.size, 1, none⟩) (Nat.lt_of_lt_of_le lt0 B3.out.size)).trans p4
      have lt4 : wr.heap.size < w4.heap.size := Nat.lt_of_lt_of_le lt3 hb4.size
      have lt0' : w.heap.size < w4.heap.size := Nat.lt_of_lt_of_le lt0 B4.out.size
      clear hb4 r0 r1 r2 r3 r4 p3 p4
      rcases bool_two (refersI x) with hrx | hrx
      · have hr := Lib.hid (hbk.out (okAt_noP hx.out (by rw [okP, hmx.out, hrx, hl.out]; simp; omega)))
        have BF := Lib.hid (hB.out _ B4.out)
        rw [hrx]
        replace hrx := Lib.hid hrx
        go_wp2_with fail
        go_ret
        exact ⟨ret_int hr.out.symm, BF.out⟩
      have hP := Lib.hid (show okP n.1 x = true by rw [okP, hmx.out, hrx]; simp)
      rw [hrx]
      replace hrx := Lib.hid hrx
      rcases (by rcases k with _ | j; exact Or.inl rfl; exact Or.inr ⟨j, rfl⟩ : k = 0 ∨ ∃ j, k = j + 1) with hk0 | ⟨j, hkj⟩
      · have hall := Lib.hid (show ∀ j, j < k + 1 → okAt n j = true from fun j hj => by
          obtain rfl : j = 0 := by omega
          subst hk0
          rw [okAt_zero hx.out, hP.out])
        subst hk0
        go_wp2_with fail
        go_quiet (fail)
        go_wp2_with fail
        go_roundw
        case rel => exact ⟨0 + 1, by omega, by go_num, hall.out, below_drewN B4.out _⟩
        case measure => simp [intOf]; omega
      · obtain ⟨y, hy⟩ : ∃ y, n.2[j]? = some y := ⟨_, List.getElem?_eq_getElem (by rw [hm.out]; omega)⟩
        obtain ⟨ad', E', ce', e', _, _, _, FY⟩ := its_old HA.out hy
        have e'' := Option.some.inj e'
        subst e''
        clear e'
        have BW4 := Lib.hid (hB.out _ B4.out)
        have FYY := Lib.hid fun W (hW : Below _ _ W) => (FY W (BW4.out.trans (hW.mono BW4.out.size))).1
        have hsucc := Lib.hid (show okAt n k = lessK y.1 x.1 by subst hkj; rw [okAt_succ hx.out hy, hP.out]; simp)
        have hj1 : (k : Int) - 1 = (j : Int) := by omega
        replace hy := Lib.hid hy
        obtain ⟨s, hs⟩ : ∃ s, lessK y.1 x.1 = s := ⟨_, rfl⟩
        rw [hs] at hsucc
        replace hs := Lib.hid hs
        have hwj : IntKind.i64.wrap (j : Int) = (j : Int) := IntWalk.i64_in _ (by omega)
        have hj0 : (0 : Int) ≤ (j : Int) := by omega
        have kpos : (0 : Int) < (k : Int) := by omega
        have hjm : (j : Int) < (m : Int) := by omega
        clear FY
        go_wp2_with fail
        refine wp_region_fx (by kernel_rfl) (fun W => Below _ _ W) (fun _ => none) (fun i => match i with
          | 12 => some (.bool s)
          | _ => none) (by kernel_rfl) (Below.refl _ _).drew (fun w w' h hb => h.trans (hb.mono h.size)) (fun j φ x W W' hp => by cases hp) ?_
        repeat (first
          | (refine wpAs_skip rfl ?_; simp only [Act.put, List.setIfInBounds_toArray, List.set_cons_zero, List.set_cons_succ])
          | (refine wpAs_pure (v := ?_) rfl rfl ?_ ?_; rotate_left; (intro W hC hE; clear hE; (obtain ⟨y0, y1, y2, y3, y4⟩ := FYY.out W hC; have x0 := (hC.cell (p := ⟨wr.heap.size, 0, none⟩) lt4).trans t0; have x1 := (hC.cell (p := ⟨wr.heap.size, 1, none⟩) lt4).trans t1; have x2 := (hC.cell (p := ⟨wr.heap.size, 2, none⟩) lt4).trans t2; have p6 := (hC.cell (p := ⟨w.heap.size, 1, none⟩) lt0').trans p5); clear hC; go_simp; done); simp only [Act.put, List.setIfInBounds_toArray, List.set_cons_zero, List.set_cons_succ])
          | (refine wpAs_pure (v := ?_) rfl rfl ?_ ?_; rotate_left; (intro W hC hE; clear hE; (obtain ⟨y0, y1, y2, y3, y4⟩ := FYY.out W hC; have x0 := (hC.cell (p := ⟨wr.heap.size, 0, none⟩) lt4).trans t0; have x1 := (hC.cell (p := ⟨wr.heap.size, 1, none⟩) lt4).trans t1; have x2 := (hC.cell (p := ⟨wr.heap.size, 2, none⟩) lt4).trans t2; have p6 := (hC.cell (p := ⟨w.heap.size, 1, none⟩) lt0').trans p5); clear hC; go_simp; with_reducible rfl); simp only [Act.put, List.setIfInBounds_toArray, List.set_cons_zero, List.set_cons_succ]))
        refine wpAs_fixed rfl rfl rfl ?_ ?_
        · intro W hC hE
          refine does_enter (f := 20) (args := #[kyV y.1, kyV x.1]) ?_ ?_
          · go_simp
          · refine (less_any y.1 x.1 W).mono ?_
            rintro e W' ⟨rfl, hg⟩
            rw [hs.out]
            exact ⟨_, rfl, rfl, hg⟩
        simp only [Act.put, List.setIfInBounds_toArray, List.set_cons_zero, List.set_cons_succ]
        repeat (first
          | (refine wpAs_skip rfl ?_; simp only [Act.put, List.setIfInBounds_toArray, List.set_cons_zero, List.set_cons_succ])
          | (refine wpAs_pure (v := ?_) rfl rfl ?_ ?_; rotate_left; (intro W hC hE; clear hE; skip; clear hC; go_simp; done); simp only [Act.put, List.setIfInBounds_toArray, List.set_cons_zero, List.set_cons_succ])
          | (refine wpAs_pure (v := ?_) rfl rfl ?_ ?_; rotate_left; (intro W hC hE; clear hE; skip; clear hC; go_simp; with_reducible rfl); simp only [Act.put, List.setIfInBounds_toArray, List.set_cons_zero, List.set_cons_succ]))
        refine wpAs_end fun W hC hE => ?_
        have BW := Lib.hid (B4.out.trans (hC.mono B4.out.size))
        clear hE hC
        cases s with
        | true =>
          have hall := Lib.hid (show ∀ j, j < k + 1 → okAt n j = true from fun j hj => by
            rcases Nat.lt_or_ge j k with h | h
            · exact ha.out j h
            · obtain rfl : j = k := by omega
              exact hsucc.out)
          go_wp2_with fail
          go_roundw
          case rel => exact ⟨k + 1, by omega, by go_num, hall.out, BW.out⟩
          case measure => simp [intOf]; omega
        | false =>
          have hr := Lib.hid (hbk.out hsucc.out)
          have BF := Lib.hid (hB.out _ BW.out)
          go_wp2_with fail
          go_ret
          exact ⟨ret_int hr.out.symm, BF.out⟩
  · replace h4 := Lib.hid h4
    go_enter Try.func69, Try.ntmps69
    go_upto_region 1 with fail
    clear hw0
    go_wp2_with fail
    go_loopw [31] (fun i wr => ∃ k : Nat, k ≤ m ∧ i = .int .i64 k ∧ (∀ j, j < k → okAt n j = true) ∧ Below w0.heap.size w0 wr) (fun i _ => m - (intOf i).toNat)
    case atStart => exact ⟨0, by omega, rfl, fun j hj => by omega, Below.refl _ _⟩
    case round =>
      obtain ⟨k, hk, rfl, ha, hb⟩ := hrel
      replace ha := Lib.hid ha
      replace hb := Lib.hid hb
      have p1 := (hb.out.cell (p := ⟨w.heap.size, 0, none⟩) lt0).trans f1
      have p2 := (hb.out.cell (p := ⟨w.heap.size, 1, none⟩) lt0).trans f2
      by_cases hlt : k < m
      case neg =>
        have hfin := Lib.hid (hgood2.out fun i hi => ha.out i (by omega))
        have BF := Lib.hid (hB.out _ hb.out)
        go_wp2_with fail
        go_ret
        exact ⟨ret_int hfin.out.symm, BF.out⟩
      obtain ⟨x, hx⟩ : ∃ x, n.2[k]? = some x := ⟨_, List.getElem?_eq_getElem (by rw [hm.out]; exact hlt)⟩
      obtain ⟨ad, E, ce, rfl, q1, q2, hinx, FX⟩ := its_old HA.out hx
      have FX' := Lib.hid (fun W (hW : Below wr.heap.size wr W) => FX W ((hB.out _ hb.out).trans (hW.mono (hB.out _ hb.out).size)))
      obtain ⟨⟨z0, z1, z2, z3, z4⟩, hIx⟩ := FX'.out wr (Below.refl _ _)
      obtain ⟨w2, hw2, g0, g1, g2, g3, g4, hs2, hB2, _⟩ := box_five wr (.int .u8 (x.1.1.toNat : Int)) (.int .u32 x.1.2.1) (.int .u32 x.1.2.2) (.int .i64 x.2.1) (.slice E x.2.2.length ce) 39
      have HI := Lib.hid (hIx.below hB2)
      have lt2 : wr.heap.size < w2.heap.size := by omega
      have B2 := Lib.hid (hb.out.trans (hB2.mono hb.out.size))
      have C2 := Lib.hid hB2
      replace hx := Lib.hid hx
      replace hs2 := Lib.hid hs2
      have hbk := Lib.hid (hbad1.out k hlt)
      clear FX hIx hB2 hinx
      unfold itV at *
      go_upto_region 8 with fail
      clear hw2
      go_wp2_with fail
      with_reducible refine (checkI_any _ x _ HI.out).mono ?_
      rintro e3 w3 ⟨rfl, hb3⟩
      have B3 := Lib.hid (B2.out.trans (hb3.mono B2.out.size))
      have C3 := Lib.hid (C2.out.trans (hb3.mono C2.out.size))
      have r0 := (hb3.cell (p := ⟨wr.heap.size, 0, none⟩) lt2).trans g0
      have r1 := (hb3.cell (p := ⟨wr.heap.size, 1, none⟩) lt2).trans g1
      have r2 := (hb3.cell (p := ⟨wr.heap.size, 2, none⟩) lt2).trans g2
      have r3 := (hb3.cell (p := ⟨wr.heap.size, 3, none⟩) lt2).trans g3
      have r4 := (hb3.cell (p := ⟨wr.heap.size, 4, none⟩) lt2).trans g4
      have p3 := (hb3.cell (p := ⟨w.heap.size, 0, none⟩) (Nat.lt_of_lt_of_le lt0 B2.out.size)).trans ((C2.out.cell (p := ⟨w.heap.size, 0, none⟩) (Nat.lt_of_lt_of_le lt0 hb.out.size)).trans p1)
      have p4 := (hb3.cell (p := ⟨w.heap.size, 1, none⟩) (Nat.lt_of_lt_of_le lt0 B2.out.size)).trans ((C2.out.cell (p := ⟨w.heap.size, 1, none⟩) (Nat.lt_of_lt_of_le lt0 hb.out.size)).trans p2)
      replace HI := Lib.hid (HI.out.below hb3)
      have lt3 : wr.heap.size < w3.heap.size := Nat.lt_of_lt_of_le lt2 hb3.size
      clear hb3 g0 g1 g2 g3 g4 z0 z1 z2 z3 z4 p1 p2
      rcases bool_two (mayI x) with hmx | hmx
      · have hr := Lib.hid (hbk.out (okAt_noP hx.out (by rw [okP, hmx]; rfl)))
        have hc := Lib.hid (chkI_bad hmx)
        have BF := Lib.hid (hB.out _ B3.out)
        replace hmx := Lib.hid hmx
        rw [hc.out]
        go_wp2_with fail
        go_ret
        exact ⟨ret_int hr.out.symm, BF.out⟩
      have hc := Lib.hid (chkI_ok hmx)
      replace hmx := Lib.hid hmx
      rw [hc.out]
      have h5q : ¬ (0 : Int) < l := by omega
      have hP := Lib.hid (show okP n.1 x = true by rw [okP, hmx.out, hl.out]; simp; omega)
      obtain ⟨w4, hw4⟩ : ∃ w4, w3 = w4 := ⟨_, rfl⟩
      subst hw4
      have B4 := B3
      have C4 := C3
      have t0 := r0
      have t1 := r1
      have t2 := r2
      have p5 := p4
      have lt4 := lt3
      have lt0' : w.heap.size < w3.heap.size := Nat.lt_of_lt_of_le lt0 B4.out.size
      clear r0 r1 r2 r3 r4 lt3
      rcases (by rcases k with _ | j; exact Or.inl rfl; exact Or.inr ⟨j, rfl⟩ : k = 0 ∨ ∃ j, k = j + 1) with hk0 | ⟨j, hkj⟩
      · have hall := Lib.hid (show ∀ j, j < k + 1 → okAt n j = true from fun j hj => by
          obtain rfl : j = 0 := by omega
          subst hk0
          rw [okAt_zero hx.out, hP.out])
        subst hk0
        go_wp2_with fail
        go_quiet (fail)
        go_wp2_with fail
        go_roundw
        case rel => exact ⟨0 + 1, by omega, by go_num, hall.out, below_drewN B4.out _⟩
        case measure => simp [intOf]; omega
      · obtain ⟨y, hy⟩ : ∃ y, n.2[j]? = some y := ⟨_, List.getElem?_eq_getElem (by rw [hm.out]; omega)⟩
        obtain ⟨ad', E', ce', e', _, _, _, FY⟩ := its_old HA.out hy
        have e'' := Option.some.inj e'
        subst e''
        clear e'
        have BW4 := Lib.hid (hB.out _ B4.out)
        have FYY := Lib.hid fun W (hW : Below _ _ W) => (FY W (BW4.out.trans (hW.mono BW4.out.size))).1
        have hsucc := Lib.hid (show okAt n k = lessK y.1 x.1 by subst hkj; rw [okAt_succ hx.out hy, hP.out]; simp)
        have hj1 : (k : Int) - 1 = (j : Int) := by omega
        replace hy := Lib.hid hy
        obtain ⟨s, hs⟩ : ∃ s, lessK y.1 x.1 = s := ⟨_, rfl⟩
        rw [hs] at hsucc
        replace hs := Lib.hid hs
        have hwj : IntKind.i64.wrap (j : Int) = (j : Int) := IntWalk.i64_in _ (by omega)
        have hj0 : (0 : Int) ≤ (j : Int) := by omega
        have kpos : (0 : Int) < (k : Int) := by omega
        have hjm : (j : Int) < (m : Int) := by omega
        clear FY
        go_wp2_with fail
        refine wp_region_fx (by kernel_rfl) (fun W => Below _ _ W) (fun _ => none) (fun i => match i with
          | 12 => some (.bool s)
          | _ => none) (by kernel_rfl) (Below.refl _ _).drew (fun w w' h hb => h.trans (hb.mono h.size)) (fun j φ x W W' hp => by cases hp) ?_
        repeat (first
          | (refine wpAs_skip rfl ?_; simp only [Act.put, List.setIfInBounds_toArray, List.set_cons_zero, List.set_cons_succ])
          | (refine wpAs_pure (v := ?_) rfl rfl ?_ ?_; rotate_left; (intro W hC hE; clear hE; (obtain ⟨y0, y1, y2, y3, y4⟩ := FYY.out W hC; have x0 := (hC.cell (p := ⟨wr.heap.size, 0, none⟩) lt4).trans t0; have x1 := (hC.cell (p := ⟨wr.heap.size, 1, none⟩) lt4).trans t1; have x2 := (hC.cell (p := ⟨wr.heap.size, 2, none⟩) lt4).trans t2; have p6 := (hC.cell (p := ⟨w.heap.size, 1, none⟩) lt0').trans p5); clear hC; go_simp; done); simp only [Act.put, List.setIfInBounds_toArray, List.set_cons_zero, List.set_cons_succ])
          | (refine wpAs_pure (v := ?_) rfl rfl ?_ ?_; rotate_left; (intro W hC hE; clear hE; (obtain ⟨y0, y1, y2, y3, y4⟩ := FYY.out W hC; have x0 := (hC.cell (p := ⟨wr.heap.size, 0, none⟩) lt4).trans t0; have x1 := (hC.cell (p := ⟨wr.heap.size, 1, none⟩) lt4).trans t1; have x2 := (hC.cell (p := ⟨wr.heap.size, 2, none⟩) lt4).trans t2; have p6 := (hC.cell (p := ⟨w.heap.size, 1, none⟩) lt0').trans p5); clear hC; go_simp; with_reducible rfl); simp only [Act.put, List.setIfInBounds_toArray, List.set_cons_zero, List.set_cons_succ]))
        refine wpAs_fixed rfl rfl rfl ?_ ?_
        · intro W hC hE
          refine does_enter (f := 20) (args := #[kyV y.1, kyV x.1]) ?_ ?_
          · go_simp
          · refine (less_any y.1 x.1 W).mono ?_
            rintro e W' ⟨rfl, hg⟩
            rw [hs.out]
            exact ⟨_, rfl, rfl, hg⟩
        simp only [Act.put, List.setIfInBounds_toArray, List.set_cons_zero, List.set_cons_succ]
        repeat (first
          | (refine wpAs_skip rfl ?_; simp only [Act.put, List.setIfInBounds_toArray, List.set_cons_zero, List.set_cons_succ])
          | (refine wpAs_pure (v := ?_) rfl rfl ?_ ?_; rotate_left; (intro W hC hE; clear hE; skip; clear hC; go_simp; done); simp only [Act.put, List.setIfInBounds_toArray, List.set_cons_zero, List.set_cons_succ])
          | (refine wpAs_pure (v := ?_) rfl rfl ?_ ?_; rotate_left; (intro W hC hE; clear hE; skip; clear hC; go_simp; with_reducible rfl); simp only [Act.put, List.setIfInBounds_toArray, List.set_cons_zero, List.set_cons_succ]))
        refine wpAs_end fun W hC hE => ?_
        have BW := Lib.hid (B4.out.trans (hC.mono B4.out.size))
        clear hE hC
        cases s with
        | true =>
          have hall := Lib.hid (show ∀ j, j < k + 1 → okAt n j = true from fun j hj => by
            rcases Nat.lt_or_ge j k with h | h
            · exact ha.out j h
            · obtain rfl : j = k := by omega
              exact hsucc.out)
          go_wp2_with fail
          go_roundw
          case rel => exact ⟨k + 1, by omega, by go_num, hall.out, BW.out⟩
          case measure => simp [intOf]; omega
        | false =>
          have hr := Lib.hid (hbk.out hsucc.out)
          have BF := Lib.hid (hB.out _ BW.out)
          go_wp2_with fail
          go_ret
          exact ⟨ret_int hr.out.symm, BF.out⟩
end Go.Proofs.Ytncnoingbaeomaa

/-
  Package node: Write. Conditions: those that each lemma states.
-/
namespace Go.Proofs.Ytncnoingbaeomaa
open Go.RowKit

/-- Three literal bytes, as a row of the call's own. -/
theorem lit_own3 (w : World) (x y z : UInt8) (a b c : Int) (h1 : (x.toNat : Int) = a) (h2 : (y.toNat : Int) = b) (h3 : (z.toNat : Int) = c) : ∃ w1, w.alloc (.cells #[.int .u8 a, .int .u8 b, .int .u8 c] 5) = w1 ∧ w1.ownsRow w.heap.size 5 1 (.slice (some ⟨w.heap.size, 0, none⟩) 3 3) 3 (u8s [x, y, z]) ∧ Below w.heap.size w w1 ∧ w1.heap.size = w.heap.size + 1 := by
  subst h1 h2 h3
  refine ⟨_, rfl, ?_, (Below.refl _ _).alloc (Nat.le_refl _) _, by simp⟩
  have h1 : Row (w.alloc (.cells #[.int .u8 (x.toNat : Int), .int .u8 (y.toNat : Int), .int .u8 (z.toNat : Int)] 5)) w.heap.size [x, y, z] := Row.new w [x, y, z]
  exact h1.own (Nat.le_refl _) (by simp)
theorem u8_small {l : Int} (h0 : 0 ≤ l) (h1 : l < 256) : ((UInt8.ofNat l.toNat).toNat : Int) = l ∧ IntKind.u8.wrap l = l := by
  refine ⟨?_, ?_⟩
  · rw [UInt8.toNat_ofNat']
    omega
  · simp [IntKind.wrap, IntKind.signed, IntKind.bits]
    omega
theorem itsB_take_len {n : Nd} (h : mayN n = true) (k : Nat) : (itsB (n.2.take k)).length ≤ 120 := by
  have h1 := itsB_len (l := n.2.take k) (fun x hx => mayN_all h x (List.mem_of_mem_take hx))
  have h2 := (mayN_of h).1.2.2.1
  have h3 : (n.2.take k).length ≤ n.2.length := by rw [List.length_take]; omega
  omega

set_option maxRecDepth 100000 in
set_option maxHeartbeats 4000000 in
theorem nodeWrite_any (v : Value) (n : Nd) (w : World) (h : Nod (Old w) w v n) :
    Calls Try.prog 46 #[v] w fun e w' => ∃ u, e = .returned (.tuple #[u, .int .i64 (chkN n)]) ∧ rBy (New w.heap.size w') w' [u] (wrN n) ∧ Below w.heap.size w w' := by
  obtain ⟨A, c, rfl, hin, l1, m1, hA⟩ := h.open
  obtain ⟨w0, hw0, b0, hs0, hB0⟩ := box_pair' w (.int .i64 n.1) (.slice A n.2.length c) 64
  obtain ⟨f1, f2, _, lt0⟩ := two_cells b0
  have HN := Lib.hid (h.below hB0)
  have HA := Lib.hid hA
  have HB0 := Lib.hid hB0
  replace hs0 := Lib.hid hs0
  clear h hA hB0 b0 hin
  rcases bool_two (mayN n) with hm | hm
  · have hc := Lib.hid (chkN_bad hm)
    have hw := Lib.hid (show wrN n = [] by simp [wrN, hm])
    rw [hw.out]
    go_enter Try.func46, Try.ntmps46
    go_upto_region 1 with fail
    clear hw0
    go_wp2_with fail
    with_reducible refine (checkN_any _ n _ HN.out).mono ?_
    rintro e1 w1 ⟨rfl, hb1⟩
    rw [hc.out]
    have BF := Lib.hid (HB0.out.trans (hb1.mono HB0.out.size))
    clear hb1
    go_wp2_with fail
    go_ret2
    exact ⟨_, ret_two hc.out.symm, rBy_nil_new _ _, BF.out⟩
  have hmay := Lib.hid hm
  have hc := Lib.hid (chkN_ok hm)
  have hwr := Lib.hid (show wrN n = blkN n by simp [wrN, hm])
  rw [hwr.out]
  obtain ⟨⟨s1, s2, s3, _⟩, _⟩ := mayN_of hm
  obtain ⟨m, hmm⟩ : ∃ m, n.2.length = m := ⟨_, rfl⟩
  have hu1 := u8_small s1 (by omega)
  have hu2 := u8_small (l := (n.2.length : Int)) (by omega) (by omega)
  have hhead := Lib.hid (show headN n = [78, UInt8.ofNat n.1.toNat, UInt8.ofNat n.2.length] from rfl)
  rw [Int.toNat_natCast] at hu2
  rw [hmm] at l1 f2 hw0 HN HA s3 hu2 hhead ⊢
  obtain ⟨l, hl⟩ : ∃ l, n.1 = l := ⟨_, rfl⟩
  rw [hl] at f1 hw0 HN s1 s2 hu1 hhead ⊢
  replace hl := Lib.hid hl
  replace hmm := Lib.hid hmm
  clear hm
  go_enter Try.func46, Try.ntmps46
  go_upto_region 1 with fail
  clear hw0
  go_wp2_with fail
  with_reducible refine (checkN_any _ n _ HN.out).mono ?_
  rintro e1 w1 ⟨rfl, hb1⟩
  rw [hc.out]
  have B1 := Lib.hid (HB0.out.trans (hb1.mono HB0.out.size))
  have p1 := (hb1.cell (p := ⟨w.heap.size, 0, none⟩) lt0).trans f1
  have p2 := (hb1.cell (p := ⟨w.heap.size, 1, none⟩) lt0).trans f2
  have lt1 : w.heap.size < w1.heap.size := Nat.lt_of_lt_of_le lt0 hb1.size
  clear hb1 f1 f2
  obtain ⟨w2, hw2, own2, hb2, hs2⟩ := lit_own3 w1 78 (UInt8.ofNat l.toNat) (UInt8.ofNat m) 78 l m rfl hu1.1 hu2.1
  rw [← hhead.out] at own2
  have q1 := hu1.2
  have q2 := hu2.2
  have B2 := Lib.hid (B1.out.trans (hb2.mono B1.out.size))
  have p3 := (hb2.cell (p := ⟨w.heap.size, 1, none⟩) lt1).trans p2
  have lt2 : w.heap.size < w2.heap.size := Nat.lt_of_lt_of_le lt1 hb2.size
  have h12 := Lib.hid hb2.size
  replace own2 := Lib.hid own2
  replace hu1 := Lib.hid hu1
  replace hu2 := Lib.hid hu2
  replace hs2 := Lib.hid hs2
  have hb2' := Lib.hid hb2
  have p2' := Lib.hid p2
  clear hb2
  go_upto_region 5 with fail
  clear hw2 p1 p2
  go_wp2_with fail
  go_loopw [5, 26] (fun b i wr => ∃ k : Nat, k ≤ m ∧ i = .int .i64 k ∧ wr.ownsRow w1.heap.size 5 1 b (3 + (itsB (n.2.take k)).length) (u8s (headN n ++ itsB (n.2.take k))) ∧ Below w1.heap.size w1 wr) (fun _ i _ => m - (intOf i).toNat)
  case atStart => exact ⟨0, by omega, rfl, by simpa [itsB] using own2.out, hb2'.out⟩
  case round =>
    obtain ⟨k, hk, rfl, hown, hb⟩ := hrel
    replace hb := Lib.hid hb
    have h63 := itsB_take_len hmay.out k
    obtain ⟨B, cb, rfl, c1, c2, hby⟩ := own_byt hown
    have BF := Lib.hid (B1.out.trans (hb.out.mono B1.out.size))
    by_cases hlt : k < m
    case neg =>
      have hkm : Hid (n.2.take k = n.2) := Lib.hid (List.take_of_length_le (by rw [hmm.out]; omega))
      rw [hkm.out] at hby c1 h63 ⊢
      obtain ⟨q, hq⟩ : ∃ q, 3 + (itsB n.2).length = q := ⟨_, rfl⟩
      have hlen := Lib.hid (show (toldN n).length = q by rw [← hq]; simp [toldN, headN]; omega)
      have hse := Lib.hid (show se q = 0 from if_pos (by omega))
      have hsb := Lib.hid (show sb (toldN n) = blkN n from if_pos (by rw [hlen.out]; omega))
      have HY : Hid (Byt wr wr.heap.size B (toldN n)) := Lib.hid hby
      rw [hq] at c1 ⊢
      clear hown hq
      go_wp2_with fail
      with_reducible refine (seal_any B q cb (toldN n) hlen c1 c2 _ HY.out).mono ?_
      rintro e9 w9 ⟨u, rfl, ho, hb9⟩
      rw [hse.out]
      rw [hsb.out] at ho
      have hfin := Lib.hid (stab_by.mono (own_by ho) BF.out.size)
      have B9 := Lib.hid (BF.out.trans (hb9.mono BF.out.size))
      clear hb9 ho
      go_wp2_with fail
      go_ret2
      exact ⟨_, ret_two hc.out.symm, hfin.out, B9.out⟩
    have p4 := (hb.out.cell (p := ⟨w.heap.size, 1, none⟩) lt1).trans p2'.out
    obtain ⟨x, hx⟩ : ∃ x, n.2[k]? = some x := ⟨_, List.getElem?_eq_getElem (by rw [hmm.out]; exact hlt)⟩
    obtain ⟨ad, E, ce, rfl, q1, q2, hinx, FX⟩ := its_old HA.out hx
    obtain ⟨⟨z0, z1, z2, z3, z4⟩, hIx⟩ := FX wr BF.out
    obtain ⟨w3, hw3, r0, r1, r2, r3, r4, hs3, hB3, _⟩ := box_five wr (.int .u8 (x.1.1.toNat : Int)) (.int .u32 x.1.2.1) (.int .u32 x.1.2.2) (.int .i64 x.2.1) (.slice E x.2.2.length ce) 39
    have HI := Lib.hid (hIx.below hB3)
    have B3 := Lib.hid (hb.out.trans (hB3.mono hb.out.size))
    have O3 := Lib.hid (own_below hown hB3)
    have hmx := okP_may (mayN_item hmay.out hx)
    have hcx := Lib.hid (chkI_ok hmx)
    have hwx := Lib.hid (show wrI x = itB x by simp [wrI, hmx])
    have htk := Lib.hid (itsB_take hx)
    have hlx := Lib.hid (show (itB x).length ≤ 24 by have := (mayI_of hmx).2; rw [itB_length]; omega)
    replace hx := Lib.hid hx
    replace hs3 := Lib.hid hs3
    clear FX hB3 hinx hIx hown hby hmx
    unfold itV at *
    go_upto_region 8 with fail
    clear hw3 z0 z1 z2 z3 z4
    go_wp2_with fail
    with_reducible refine (itWrite_any _ x _ HI.out).mono ?_
    rintro e4 w4 ⟨u, rfl, hu, hb4⟩
    rw [hcx.out]
    rw [hwx.out] at hu
    obtain ⟨U, cu, rfl, _, _, hyu⟩ := rBy_byt (B := w4.heap.size) (fun p hp => hp.2.1) hu
    have B4 := B3.out.trans (hb4.mono B3.out.size)
    obtain ⟨v5, w5, hr5, o5, ba5⟩ := app_own_byt _ (3 + (itsB (n.2.take k)).length) (itB x).length cu _ (itB x) U w1.heap.size w4 (own_below O3.out hb4) hyu rfl (by have := hlx.out; omega) B4.size
    have B5 := Lib.hid (B4.trans ba5)
    have H5 := Lib.hid hr5
    have o5' := Lib.hid (show w5.ownsRow w1.heap.size 5 1 v5 (3 + (itsB (n.2.take (k + 1))).length) (u8s (headN n ++ itsB (n.2.take (k + 1)))) by
      rw [htk.out, List.length_append, ← List.append_assoc, ← Nat.add_assoc]
      exact o5)
    clear hu hb4 hyu hr5 o5 ba5 B4
    go_wp2_with (at_builtin; refine wpList_append_run rfl _ _ _ rfl rfl rfl H5.out ?_; clear H5)
    go_roundw
    case rel => exact ⟨k + 1, by omega, by go_num, o5'.out, B5.out⟩
    case measure => simp [intOf]; omega
end Go.Proofs.Ytncnoingbaeomaa

/-
  Package node: Read. Conditions: those that each lemma states.
-/
namespace Go.Proofs.Ytncnoingbaeomaa
open Go.RowKit

def lvlN (body : List UInt8) : Int := ((body[1]?.getD 0).toNat : Int)
def manyN (body : List UInt8) : Nat := (body[2]?.getD 0).toNat
theorem manyN_lt (body : List UInt8) : manyN body < 256 := (body[2]?.getD 0).toNat_lt
theorem lvlN_in (body : List UInt8) : In64 (lvlN body) := by
  have := (body[1]?.getD 0).toNat_lt
  unfold lvlN
  exact ⟨by omega, by omega⟩
def ndN (body : List UInt8) : Nd := (lvlN body, cutL (body.drop 3) (manyN body))
def rdN (body : List UInt8) : Bool := decide (body[0]?.getD 0 = 78) && ((cutTo (body.drop 3) (manyN body)).isSome && (mayN (ndN body) && noughtsB (cutR (body.drop 3) (manyN body))))
noncomputable def reN (b : List UInt8) : Int := if oe b = 0 then (if rdN (ob b) then 0 else 8) else oe b
noncomputable def reV (b : List UInt8) : Nd := if oe b = 0 then (if rdN (ob b) then ndN (ob b) else zeroN) else zeroN
theorem oe_zeroN {b : List UInt8} (h : oe b = 0) : b.length = 128 ∧ fits b ∧ ob b = b.drop 4 ∧ (ob b).length = 124 := by
  unfold oe at h
  by_cases h1 : b.length = 128
  · rw [if_pos h1] at h
    by_cases h2 : fits b
    · have : ob b = b.drop 4 := by unfold ob; rw [if_pos ⟨h1, h2⟩]
      exact ⟨h1, h2, this, by rw [this]; simp [h1]⟩
    · rw [if_neg h2] at h; cases h
  · rw [if_neg h1] at h; cases h
theorem reN_open {b : List UInt8} (h : oe b ≠ 0) : reN b = oe b ∧ reV b = zeroN := by
  unfold reN reV
  rw [if_neg h, if_neg h]
  exact ⟨rfl, rfl⟩
theorem reN_bad {b : List UInt8} (h : oe b = 0) (h' : rdN (ob b) = false) : reN b = 8 ∧ reV b = zeroN := by
  unfold reN reV
  rw [if_pos h, if_pos h, h']
  exact ⟨rfl, rfl⟩
theorem reN_good {b : List UInt8} (h : oe b = 0) (h' : rdN (ob b) = true) : reN b = 0 ∧ reV b = ndN (ob b) := by
  unfold reN reV
  rw [if_pos h, if_pos h, h']
  exact ⟨rfl, rfl⟩
set_option maxRecDepth 100000 in
set_option maxHeartbeats 4000000 in
theorem nodeRead_any (v : Value) (b : List UInt8) (w : World) (h : rBy (Old w) w [v] b) :
    Calls Try.prog 51 #[v] w fun e w' => ∃ u, e = .returned (.tuple #[u, .int .i64 (reN b)]) ∧ Nod (New w.heap.size w') w' u (reV b) ∧ Below w.heap.size w w' := by
  obtain ⟨A, c, rfl, l1, m1, hy⟩ := rBy_byt (B := w.heap.size) (fun p hp => hp) h
  obtain ⟨n, hn⟩ : ∃ n, b.length = n := ⟨_, rfl⟩
  rw [hn] at l1 ⊢
  replace hn := Lib.hid hn
  obtain ⟨w0, hw0, b0, hs0, hB0⟩ := box_pair' w (.int .i64 0) (.slice none 0 0) 64
  have lt0 : w.heap.size < w0.heap.size := by omega
  have HB0 := Lib.hid hB0
  have HY := Lib.hid ((hy.below hB0).more hB0.size)
  -- a refusal, from whatever later world
  have hzero : Hid (∀ (er : Int) (W : World), reN b = er ∧ reV b = zeroN → Below w0.heap.size w0 W → ∃ W9, (W.setCell ⟨w.heap.size, 0, none⟩ (.int .i64 0)).setCell ⟨w.heap.size, 1, none⟩ (.slice none 0 0) = W9 ∧ W9.cell? ⟨w.heap.size, 0, none⟩ = some (.int .i64 0) ∧ W9.cell? ⟨w.heap.size, 1, none⟩ = some (.slice none 0 0) ∧ (∀ o, W.frozen? ⟨w.heap.size, o, none⟩ = false) ∧ W.cell? ⟨w.heap.size, 0, none⟩ = some (.int .i64 0) ∧ W.cell? ⟨w.heap.size, 1, none⟩ = some (.slice none 0 0) ∧
      (∃ u, Ending.returned (.tuple #[.agg #[.int .i64 0, .slice none 0 0], .int .i64 er]) = .returned (.tuple #[u, .int .i64 (reN b)]) ∧ Nod (New w.heap.size W9) W9 u (reV b) ∧ Below w.heap.size w W9)) := Lib.hid fun er W hre hW => by
    have bW := (hW.block w.heap.size lt0).trans b0
    obtain ⟨W9, e9, g9, gr9, gs9⟩ := put_two (u := .int .i64 0) (v := .slice none 0 0) bW
    obtain ⟨k0, k1, kf, _⟩ := two_cells g9
    obtain ⟨y0, y1, yf, _⟩ := two_cells bW
    have hBW := HB0.out.trans (hW.mono HB0.out.size)
    exact ⟨W9, e9, k0, k1, yf, y0, y1, _, by rw [hre.1], by rw [hre.2]; exact nod_zero _ _, hBW.grown gr9 hBW.size (fun q e => by cases e; omega)⟩
  replace b0 := Lib.hid b0
  replace hw0 := Lib.hid hw0
  clear hB0 hs0 h hy
  go_enter Try.func51, Try.ntmps51
  go_upto_region 1 with fail
  rw [hw0.out]
  clear hw0
  go_wp2_with fail
  with_reducible refine (open_any A n c b hn l1 m1 _ HY.out).mono ?_
  rintro e1 w1 ⟨v1, rfl, ho1, hb1⟩
  have B1 := Lib.hid hb1
  have hBW1 := Lib.hid (show w.heap.size ≤ w1.heap.size from Nat.le_trans (Nat.le_of_lt lt0) hb1.size)
  obtain ⟨er, hoe⟩ : ∃ er, oe b = er := ⟨_, rfl⟩
  rw [hoe]
  by_cases h0 : er = 0
  case neg =>
    have t0 : (er != 0) = true := by simpa using h0
    obtain ⟨W9, e9, k0, k1, yf, y0, y1, hfin⟩ := hzero.out er w1 (by rw [← hoe]; exact reN_open (by rw [hoe]; exact h0)) B1.out
    replace hfin := Lib.hid hfin
    replace h0 := Lib.hid h0
    replace hoe := Lib.hid hoe
    clear ho1 hb1
    go_wp2_with fail
    exact bodyPost_ret (v := .tuple #[.agg #[.int .i64 0, .slice none 0 0], .int .i64 er]) (by simp [results, Try.results51, go_sem, k0, k1]) rfl hfin.out
  subst h0
  obtain ⟨hlen, hfits, hob, hl124⟩ := oe_zeroN hoe
  have HZ := Lib.hid (fun W h hW => hzero.out 8 W (reN_bad hoe h) hW)
  have HG := Lib.hid (fun h => reN_good hoe h)
  have hr1 := own_by ho1
  obtain ⟨bd, hbd⟩ : ∃ bd, ob b = bd := ⟨_, rfl⟩
  rw [hbd] at hr1 HZ HG hl124
  replace hbd := Lib.hid hbd
  obtain ⟨Q, cq, rfl, n1, n2, hcell⟩ := rBy_open hr1
  rw [hl124] at n1 hcell hr1 ⊢
  obtain ⟨ad, rfl, hn0, hc0⟩ := hcell 0 (by omega)
  obtain ⟨_, e, hn1', hc1⟩ := hcell 1 (by omega)
  cases e
  obtain ⟨_, e, hn2', hc2⟩ := hcell 2 (by omega)
  cases e
  have z0 : w1.cell? ad = some (.int .u8 ((bd[0]?.getD 0).toNat : Int)) := by simpa [Addr.add] using hc0
  have z1 : w1.cell? ⟨ad.block, ad.off + 1, none⟩ = some (.int .u8 ((bd[1]?.getD 0).toNat : Int)) := by simpa [Addr.add] using hc1
  have z2 : w1.cell? ⟨ad.block, ad.off + 2, none⟩ = some (.int .u8 ((bd[2]?.getD 0).toNat : Int)) := by simpa [Addr.add] using hc2
  have ltb : ad.block < w1.heap.size := World.block_lt_of_cell? _ _ z0
  have hrest := Lib.hid (rBy_rest (stab_by.drop hr1) 3 (by omega))
  have hl := Lib.hid hl124
  replace hoe := Lib.hid hoe
  clear hfits hob hlen hc0 hc1 hc2 hn0 hn1' hn2' ho1 hb1 hcell hl124 hzero
  have hrd : Hid (rdN bd = (decide (bd[0]?.getD 0 = 78) && ((cutTo (bd.drop 3) (manyN bd)).isSome && (mayN (ndN bd) && noughtsB (cutR (bd.drop 3) (manyN bd)))))) := Lib.hid rfl
  obtain ⟨x0, hx0⟩ : ∃ x, bd[0]?.getD 0 = x := ⟨_, rfl⟩
  rw [hx0] at z0 hrd
  replace hx0 := Lib.hid hx0
  by_cases h78 : (x0.toNat : Int) = 78
  case neg =>
    have t0 : ((x0.toNat : Int) != 78) = true := by simpa using h78
    obtain ⟨W9, e9, k0, k1, yf, y0, y1, hfin⟩ := HZ.out w1 (by rw [hrd.out]; simp; intro e; exact absurd (by rw [e]; rfl) h78) B1.out
    replace hfin := Lib.hid hfin
    replace h78 := Lib.hid h78
    clear hr1
    go_wp2_with fail
    exact bodyPost_ret (v := .tuple #[.agg #[.int .i64 0, .slice none 0 0], .int .i64 8]) (by simp [results, Try.results51, go_sem, k0, k1]) rfl hfin.out
  have t0 : ((x0.toNat : Int) != 78) = false := by simpa using h78
  have h78' := Lib.hid (show x0 = 78 from UInt8.toNat.inj (by show x0.toNat = 78; omega))
  replace h78 := Lib.hid h78
  obtain ⟨mn, hmn⟩ : ∃ m, manyN bd = m := ⟨_, rfl⟩
  have hmlt := manyN_lt bd
  rw [hmn] at hmlt hrd
  have z2' : w1.cell? ⟨ad.block, ad.off + 2, none⟩ = some (.int .u8 (mn : Int)) := by rw [← hmn]; exact z2
  have hmn' := Lib.hid hmn
  clear z2 hr1 hmn
  have had3 : ad.add 3 = ⟨ad.block, ad.off + 3, none⟩ := by simp [Addr.add]
  rw [had3] at hrest
  have hres := Lib.hid (fun W (hW : Below w1.heap.size w1 W) => nodeCut_any _ (bd.drop 3) mn hmlt W (stab_by.old hrest.out hW))
  go_upto_region 6 with fail
  obtain ⟨L, hL⟩ : ∃ L, cutL (bd.drop 3) mn = L := ⟨_, rfl⟩
  obtain ⟨R, hR⟩ : ∃ R, cutR (bd.drop 3) mn = R := ⟨_, rfl⟩
  obtain ⟨F, hF⟩ : ∃ F, cutF (bd.drop 3) mn = F := ⟨_, rfl⟩
  rw [hL, hR, hF] at hres
  have c3 : ¬ cq = 3 := by omega
  have c4 : (3 : Int) ≤ cq := by omega
  have hwm : IntKind.i64.wrap (mn : Int) = (mn : Int) := IntWalk.i64_in _ (by omega)
  refine wp_region_fx (by kernel_rfl) (fun W => Below w1.heap.size w1 W) (fun i => match i with
      | 6 => some (fun v W => ∃ A c u, v = .tuple #[.slice A L.length c, u, .int .i64 F] ∧ rIts (New w1.heap.size W) W [.slice A L.length c] L ∧ rBy (Old W) W [u] R)
      | 7 => some (fun v W => ∃ A c u, v = .tuple #[.slice A L.length c, u, .int .i64 F] ∧ rIts (New w1.heap.size W) W [.slice A L.length c] L ∧ rBy (Old W) W [u] R)
      | 8 => some (fun v W => rIts (New w1.heap.size W) W [v] L)
      | 9 => some (fun v W => rBy (Old W) W [v] R)
      | _ => none) (fun i => match i with
      | 10 => some (.int .i64 F)
      | _ => none) (by kernel_rfl) (Below.refl _ _).drew (fun w w' h hb => h.trans (hb.mono h.size)) ?tst ?_
  case tst =>
    intro j φ x W W' hp hx hb
    match j, hp with
    | 6, hp =>
      cases hp
      obtain ⟨A, c, u, e, h1, h2⟩ := hx
      exact ⟨A, c, u, e, stab_its.new h1 (Nat.le_refl _) hb, stab_by.old h2 hb⟩
    | 7, hp =>
      cases hp
      obtain ⟨A, c, u, e, h1, h2⟩ := hx
      exact ⟨A, c, u, e, stab_its.new h1 (Nat.le_refl _) hb, stab_by.old h2 hb⟩
    | 8, hp => cases hp; exact stab_its.new hx (Nat.le_refl _) hb
    | 9, hp => cases hp; exact stab_by.old hx hb
  repeat (first
    | (refine wpAs_skip rfl ?_; simp only [Act.put, List.setIfInBounds_toArray, List.set_cons_zero, List.set_cons_succ])
    | (refine wpAs_pure (v := ?_) rfl rfl ?_ ?_; rotate_left; (intro W hC hE; clear hE; (have y2 := (hC.cell (p := ⟨ad.block, ad.off + 2, none⟩) ltb).trans z2'); clear hC; go_simp; done); simp only [Act.put, List.setIfInBounds_toArray, List.set_cons_zero, List.set_cons_succ])
    | (refine wpAs_pure (v := ?_) rfl rfl ?_ ?_; rotate_left; (intro W hC hE; clear hE; (have y2 := (hC.cell (p := ⟨ad.block, ad.off + 2, none⟩) ltb).trans z2'); clear hC; go_simp; with_reducible rfl); simp only [Act.put, List.setIfInBounds_toArray, List.set_cons_zero, List.set_cons_succ]))
  refine wpAs_act rfl rfl ?_ ?_
  · intro W hC hE
    refine does_enter (f := 74) (args := #[.slice (some ⟨ad.block, ad.off + 3, none⟩) 121 (cq - 3), .int .i64 mn]) ?_ ?_
    · go_simp
    · refine (hres.out W hC).mono ?_
      rintro e W' ⟨A, c, u, rfl, h1, h2, hw⟩
      exact ⟨_, rfl, ⟨A, c, u, rfl, stab_its.mono h1 hC.size, h2⟩, hw⟩
  simp only [Act.put, List.setIfInBounds_toArray, List.set_cons_zero, List.set_cons_succ, envAdd]
  intro x30
  refine wpAs_act rfl rfl ?_ ?_
  · intro W hC hE
    have hx := hE.1 rfl
    clear hE
    go_simp
    exact ⟨hx, Below.refl _ _⟩
  simp only [Act.put, List.setIfInBounds_toArray, List.set_cons_zero, List.set_cons_succ, envAdd]
  intro x23
  refine wpAs_act rfl rfl ?_ ?_
  · intro W hC hE
    obtain ⟨A, c, u, rfl, h1, h2⟩ := hE.1 rfl
    clear hE
    have H1 := Lib.hid h1
    clear h1 h2
    go_simp
    exact ⟨H1.out, Below.refl _ _⟩
  simp only [Act.put, List.setIfInBounds_toArray, List.set_cons_zero, List.set_cons_succ, envAdd]
  intro x31
  refine wpAs_act rfl rfl ?_ ?_
  · intro W hC hE
    obtain ⟨A, c, u, rfl, h1, h2⟩ := hE.2.1 rfl
    clear hE
    have H2 := Lib.hid h2
    clear h1 h2
    go_simp
    exact ⟨H2.out, Below.refl _ _⟩
  simp only [Act.put, List.setIfInBounds_toArray, List.set_cons_zero, List.set_cons_succ, envAdd]
  intro x32
  refine wpAs_fixed rfl rfl rfl ?_ ?_
  · intro W hC hE
    obtain ⟨A, c, u, rfl, h1, h2⟩ := hE.2.2.1 rfl
    clear hE h1 h2
    go_simp
    exact ⟨rfl, Below.refl _ _⟩
  simp only [Act.put, List.setIfInBounds_toArray, List.set_cons_zero, List.set_cons_succ]
  repeat (first
    | (refine wpAs_skip rfl ?_; simp only [Act.put, List.setIfInBounds_toArray, List.set_cons_zero, List.set_cons_succ])
    | (refine wpAs_pure (v := ?_) rfl rfl ?_ ?_; rotate_left; (intro W hC hE; clear hE; skip; clear hC; go_simp; done); simp only [Act.put, List.setIfInBounds_toArray, List.set_cons_zero, List.set_cons_succ])
    | (refine wpAs_pure (v := ?_) rfl rfl ?_ ?_; rotate_left; (intro W hC hE; clear hE; skip; clear hC; go_simp; with_reducible rfl); simp only [Act.put, List.setIfInBounds_toArray, List.set_cons_zero, List.set_cons_succ]))
  refine wpAs_end fun wc hC hE => ?_
  have H31 := hE.2.1
  have H32 := hE.1
  clear hE
  have BC := Lib.hid (B1.out.trans (hC.mono B1.out.size))
  have y1 := (hC.cell (p := ⟨ad.block, ad.off + 1, none⟩) ltb).trans z1
  clear hC
  obtain ⟨X, cx, rfl, n3, n4⟩ := its_open H31
  obtain ⟨Y, cy, rfl, n5, n6, hy32⟩ := rBy_byt (B := wc.heap.size) (fun p hp => hp) H32
  cases hct : cutTo (bd.drop 3) mn with
  | none =>
    have hF8 : F = 8 := by rw [← hF]; simp [cutF, hct]
    subst hF8
    obtain ⟨W9, e9, k0, k1, yf, u0, u1, hfin⟩ := HZ.out wc (by rw [hrd.out, hct]; simp) BC.out
    replace hfin := Lib.hid hfin
    replace hct := Lib.hid hct
    replace hF := Lib.hid hF
    clear H31 H32 hy32
    go_wp2_with fail
    exact bodyPost_ret (v := .tuple #[.agg #[.int .i64 0, .slice none 0 0], .int .i64 8]) (by simp [results, Try.results51, go_sem, k0, k1]) rfl hfin.out
  | some p =>
    obtain ⟨l', r'⟩ := p
    have hF0 : F = 0 := by rw [← hF]; simp [cutF, hct]
    subst hF0
    have hsome := Lib.hid (show (cutTo (bd.drop 3) mn).isSome = true by rw [hct]; rfl)
    replace hct := Lib.hid hct
    replace hF := Lib.hid hF
    replace hL := Lib.hid hL
    replace hR := Lib.hid hR
    obtain ⟨lv, hlv⟩ : ∃ lv, lvlN bd = lv := ⟨_, rfl⟩
    have hlin := Lib.hid (lvlN_in bd)
    have hnd := Lib.hid (show ndN bd = (lv, L) by rw [ndN, hlv, hmn'.out, hL.out])
    rw [hlv] at hlin
    have y1' : wc.cell? ⟨ad.block, ad.off + 1, none⟩ = some (.int .u8 lv) := by rw [← hlv]; exact y1
    have hlw : IntKind.i64.wrap lv = lv := IntWalk.i64_in _ (by have := hlin.out; exact ⟨this.1, this.2⟩)
    replace hlv := Lib.hid hlv
    clear y1
    obtain ⟨w2, hw2, b2, hs2, hB2⟩ := box_pair' wc (.int .i64 lv) (.slice X L.length cx) 64
    obtain ⟨f1, f2, _, lt2⟩ := two_cells b2
    have N2 : Nod (New w1.heap.size w2) w2 (.agg #[.int .i64 lv, .slice X L.length cx]) (lv, L) := ⟨_, rfl, hlin.out, stab_its.new H31 (Nat.le_refl _) hB2⟩
    have HN2 := Lib.hid N2
    have B2 := Lib.hid (BC.out.trans (hB2.mono BC.out.size))
    have HY2 := Lib.hid ((hy32.below hB2).more hB2.size)
    replace hs2 := Lib.hid hs2
    replace b2 := Lib.hid b2
    clear H31 H32 hy32 N2 hB2
    go_upto_region 10 with fail
    clear hw2 y1'
    go_wp2_with fail
    with_reducible refine (checkN_any _ (lv, L) _ HN2.out.drop).mono ?_
    rintro e3 w3 ⟨rfl, hb3⟩
    have B3 := Lib.hid (B2.out.trans (hb3.mono B2.out.size))
    have HN3 := Lib.hid (HN2.out.new (Nat.le_refl _) hb3)
    have g1 := (hb3.cell (p := ⟨wc.heap.size, 0, none⟩) lt2).trans f1
    have g2 := (hb3.cell (p := ⟨wc.heap.size, 1, none⟩) lt2).trans f2
    have HY3 := Lib.hid ((HY2.out.below hb3).more hb3.size)
    have lt3 : wc.heap.size < w3.heap.size := Nat.lt_of_lt_of_le lt2 hb3.size
    clear hb3 f1 f2
    rcases bool_two (mayN (lv, L)) with hm | hm
    · have hc := Lib.hid (chkN_bad hm)
      obtain ⟨W9, e9, k0, k1, yf, u0, u1, hfin⟩ := HZ.out w3 (by rw [hrd.out, hnd.out, hm]; simp) B3.out
      replace hfin := Lib.hid hfin
      replace hm := Lib.hid hm
      rw [hc.out]
      go_wp2_with fail
      exact bodyPost_ret (v := .tuple #[.agg #[.int .i64 0, .slice none 0 0], .int .i64 8]) (by simp [results, Try.results51, go_sem, k0, k1]) rfl hfin.out
    have hc := Lib.hid (chkN_ok hm)
    rw [hc.out]
    obtain ⟨rl, hrl⟩ : ∃ n, R.length = n := ⟨_, rfl⟩
    rw [hrl] at n5 ⊢
    replace hrl := Lib.hid hrl
    go_wp2_with fail
    with_reducible refine (noughts_any Y rl cy R hrl n5 n6 _ HY3.out).mono ?_
    rintro e4 w4 ⟨rfl, rfl⟩
    rcases bool_two (noughtsB R) with hz | hz
    · obtain ⟨W9, e9, k0, k1, yf, u0, u1, hfin⟩ := HZ.out w3 (by rw [hrd.out, hnd.out, hR.out, hz]; simp) B3.out
      replace hfin := Lib.hid hfin
      rw [hz]
      replace hz := Lib.hid hz
      replace hm := Lib.hid hm
      go_wp2_with fail
      exact bodyPost_ret (v := .tuple #[.agg #[.int .i64 0, .slice none 0 0], .int .i64 8]) (by simp [results, Try.results51, go_sem, k0, k1]) rfl hfin.out
    · have hgood := Lib.hid (HG.out (by rw [hrd.out, hnd.out, hR.out, hz, hm, hsome.out, h78'.out]; rfl))
      have bW := (B3.out.block w.heap.size lt0).trans b0.out
      obtain ⟨W9, e9, g9, gr9, gs9⟩ := put_two (u := .int .i64 lv) (v := .slice X L.length cx) bW
      obtain ⟨k0, k1, kf, _⟩ := two_cells g9
      obtain ⟨u0, u1, yf, _⟩ := two_cells bW
      have hBW := HB0.out.trans (B3.out.mono HB0.out.size)
      have hfin : Hid (Nod (New w.heap.size W9) W9 (.agg #[.int .i64 lv, .slice X L.length cx]) (reV b) ∧ Below w.heap.size w W9) := Lib.hid ⟨by
        rw [hgood.out.2, hnd.out]
        exact (HN3.out.grown gr9 (fun q e => by cases e; exact Nat.lt_of_lt_of_le lt0 B1.out.size)).map fun p v hp hc => ⟨⟨Nat.le_trans hBW1.out hp.1, hp.2⟩, hc⟩, hBW.grown gr9 hBW.size (fun q e => by cases e; omega)⟩
      rw [hz]
      replace hz := Lib.hid hz
      replace hm := Lib.hid hm
      replace bW := Lib.hid bW
      replace g9 := Lib.hid g9
      clear gr9
      go_wp2_with fail
      exact bodyPost_ret (v := .tuple #[.agg #[.int .i64 lv, .slice X L.length cx], .int .i64 0]) (by simp [results, Try.results51, go_sem, k0, k1]) rfl ⟨_, by rw [hgood.out.1], hfin.out.1, hfin.out.2⟩
end Go.Proofs.Ytncnoingbaeomaa

/-
  Package room: Node. Conditions: those that each lemma states.
-/
namespace Go.Proofs.Ytncnoingbaeomaa
open Go.RowKit

noncomputable def rmE (s : Rm) (n : Int) : Int := if asE s n = 0 then reN (seenD s.1 n.toNat) else asE s n
noncomputable def rmV (s : Rm) (n : Int) : Nd := if asE s n = 0 then reV (seenD s.1 n.toNat) else zeroN
theorem rm_bad {s : Rm} {n : Int} (h : asE s n ≠ 0) : rmE s n = asE s n ∧ rmV s n = zeroN := ⟨by rw [rmE, if_neg h], by rw [rmV, if_neg h]⟩
theorem as_read {s : Rm} {n : Int} (h : asE s n = 0) : ∃ k : Nat, n = k ∧ mayR s = true ∧ 8 ≤ k ∧ k < 256 ∧ chkAt s.1 n = 0 ∧ rdX s.1 n = seenD s.1 k ∧ rmE s n = reN (seenD s.1 k) ∧ rmV s n = reV (seenD s.1 k) ∧ s.2.1[k]?.getD 0 ≠ 0 := by
  rcases as_ways s n with ⟨_, e⟩ | ⟨_, _, e⟩ | ⟨k, _, _, _, _, _, e⟩ | ⟨k, hm, rfl, h8, h256, hx, e⟩
  · rw [e] at h; cases h
  · rw [e] at h; cases h
  · rw [e] at h; cases h
  · have hmd := (mayR_of hm).1
    have ht := thereB_of h256
    exact ⟨k, rfl, hm, h8, h256, by simp [chkAt, hmd, ht], by simp [rdX, chkAt, hmd, ht], by rw [rmE, if_pos h]; rfl, by rw [rmV, if_pos h]; rfl, hx⟩

set_option maxRecDepth 100000 in
set_option maxHeartbeats 4000000 in
theorem nodeR_any (v : Value) (s : Rm) (n : Int) (w : World) (h : Sto (Old w) w v s) :
    Calls Try.prog 26 #[v, .int .i64 n] w fun e w' => ∃ u, e = .returned (.tuple #[u, .int .i64 (rmE s n)]) ∧ Nod (New w.heap.size w') w' u (rmV s n) ∧ Below w.heap.size w w' := by
  obtain ⟨A, ca, B, cb, N, cn, L, cl, rfl, _, _, _⟩ := h.open
  obtain ⟨w1, hw1, f1, f2, hsz, hB⟩ : ∃ w1, (w.alloc (.cells #[.slice A s.1.1.length ca, .slice B s.1.2.length cb, .slice N s.2.1.length cn, .slice L s.2.2.length cl] 29)).alloc (.cells #[.int .i64 0, .slice none 0 0] 64) = w1 ∧
      w1.heap[w.heap.size]? = some (.cells #[.slice A s.1.1.length ca, .slice B s.1.2.length cb, .slice N s.2.1.length cn, .slice L s.2.2.length cl] 29 (0, 0)) ∧ w1.heap[w.heap.size + 1]? = some (.cells #[.int .i64 0, .slice none 0 0] 64 (0, 0)) ∧ w1.heap.size = w.heap.size + 2 ∧ Below w.heap.size w w1 := by
    refine ⟨_, rfl, alloc_block (heap_alloc_new _ _), ?_, by simp, ((Below.refl _ w).alloc (Nat.le_refl _) _).alloc (by simp) _⟩
    have := heap_alloc_new (w.alloc (.cells #[.slice A s.1.1.length ca, .slice B s.1.2.length cb, .slice N s.2.1.length cn, .slice L s.2.2.length cl] 29)) (.cells #[.int .i64 0, .slice none 0 0] 64)
    rwa [World.size_alloc] at this
  have H := Lib.hid (h.below hB)
  clear h
  obtain ⟨k0, k1, k2, k3, _, kg⟩ := four_cells f1
  replace hsz := Lib.hid hsz
  replace f2 := Lib.hid f2
  obtain ⟨q, hq⟩ : ∃ q, rmE s n = q := ⟨_, rfl⟩
  by_cases ha : asE s n = 0
  · obtain ⟨k, rfl, hm, h8, h256, hck, hrd, hE, hV, -⟩ := as_read ha
    obtain ⟨b, hb⟩ : ∃ b, seenD s.1 k = b := ⟨_, rfl⟩
    rw [hb] at hrd hE hV
    rw [hE] at hq
    replace hE : Hid (rmE s (k : Int) = q) := Lib.hid (by rw [hE, hq])
    replace hq := Lib.hid hq
    replace ha := Lib.hid ha
    replace hck := Lib.hid hck
    replace hrd := Lib.hid hrd
    replace hV := Lib.hid hV
    replace hb := Lib.hid hb
    go_enter Try.func26, Try.ntmps26
    go_upto_region 1 with fail
    clear hw1
    go_wp2_with fail
    with_reducible refine (checkTakenR_any _ s (k : Int) _ H.out).mono ?_
    rintro e w2 ⟨rfl, hb2⟩
    rw [ha.out]
    have G2 := (hb2.block w.heap.size kg).trans f1
    obtain ⟨m0, m1, m2, m3, _, mg⟩ := four_cells G2
    have F2 := Lib.hid ((hb2.block (w.heap.size + 1) (by rw [hsz.out]; omega)).trans f2.out)
    have H2 := Lib.hid (H.out.below hb2)
    have s2 : Hid (w.heap.size + 2 ≤ w2.heap.size) := Lib.hid (by have := hb2.size; have := hsz.out; omega)
    replace hb2 := Lib.hid (hB.trans (hb2.mono hB.size))
    clear k0 k1 k2 k3 kg f1 hB G2
    go_wp2_with fail
    with_reducible refine (read_all _ s.1 (k : Int) _ H2.out.parts.1).mono ?_
    rintro e w3 ⟨u3, rfl, h3, hb3⟩
    rw [hck.out]
    rw [hrd.out] at h3
    obtain ⟨R, rc, rfl, _⟩ := id (rBy_open h3)
    have F3 := Lib.hid ((hb3.block (w.heap.size + 1) (by have := s2.out; omega)).trans F2.out)
    have B3 := Lib.hid (hb2.out.trans (hb3.mono hb2.out.size))
    have s3 : Hid (w.heap.size + 2 ≤ w3.heap.size) := Lib.hid (by have := hb3.size; have := s2.out; omega)
    have H3 := Lib.hid (stab_by.drop h3)
    clear hb3 h3 m0 m1 m2 m3 mg F2
    go_wp2_with fail
    with_reducible refine (nodeRead_any _ b _ H3.out).mono ?_
    rintro e w4 ⟨u4, rfl, h4, hb4⟩
    rw [hq.out]
    obtain ⟨P, pc, rfl, _⟩ := id h4.open
    have F4 := (hb4.block (w.heap.size + 1) (by have := s3.out; omega)).trans F3.out
    obtain ⟨m0, m1, m2, m3⟩ := two_cells F4
    obtain ⟨W9, hW9, g9, gr9, gs9⟩ := put_two (u := .int .i64 (reV b).1) (v := .slice P (reV b).2.length pc) F4
    obtain ⟨n0, n1, _, _⟩ := two_cells g9
    have r3 := s3.out
    have l3 := B3.out.size
    have hfin := Lib.hid (show Nod (New w.heap.size W9) W9 (.agg #[.int .i64 (reV b).1, .slice P (reV b).2.length pc]) (rmV s (k : Int)) from by
      rw [hV.out]
      exact (h4.grown gr9 (fun q e => by cases e; omega)).new l3 (Below.refl _ _))
    have hB9 := Lib.hid ((B3.out.trans (hb4.mono B3.out.size)).grown gr9 (Nat.le_trans l3 hb4.size) (fun q e => by cases e; omega))
    replace F4 := Lib.hid F4
    replace g9 := Lib.hid g9
    clear gr9 gs9 h4 hb4 r3 l3
    go_wp2_with fail
    refine bodyPost_ret (v := .tuple #[.agg #[.int .i64 (reV b).1, .slice P (reV b).2.length pc], .int .i64 q]) (by simp [results, Try.results26, go_sem, n0, n1]) rfl ?_
    rw [hE.out]
    exact ⟨_, rfl, hfin.out, hB9.out⟩
  · obtain ⟨hE, hV⟩ := rm_bad ha
    rw [hE] at hq
    have hq1 : (q != 0) = true := by rw [← hq]; simpa using ha
    have hq2 : Hid (asE s n = q) := Lib.hid hq
    replace hq : Hid (rmE s n = q) := Lib.hid (by rw [hE]; exact hq)
    replace hV := Lib.hid hV
    clear ha hE
    go_enter Try.func26, Try.ntmps26
    go_upto_region 1 with fail
    clear hw1
    go_wp2_with fail
    with_reducible refine (checkTakenR_any _ s n _ H.out).mono ?_
    rintro e w2 ⟨rfl, hb2⟩
    rw [hq2.out]
    have F2 := (hb2.block (w.heap.size + 1) (by rw [hsz.out]; omega)).trans f2.out
    replace hb2 := Lib.hid (hB.trans (hb2.mono hB.size))
    obtain ⟨m0, m1, m2, m3⟩ := two_cells F2
    obtain ⟨W9, hW9, g9, gr9, gs9⟩ := put_two (u := .int .i64 0) (v := .slice none 0 0) F2
    obtain ⟨n0, n1, _, _⟩ := two_cells g9
    have hB9 := Lib.hid ((hb2).out.grown gr9 (hb2).out.size (fun q e => by cases e; omega))
    replace g9 := Lib.hid g9
    replace F2 := Lib.hid F2
    clear gr9 gs9
    go_wp2_with fail
    refine bodyPost_ret (v := .tuple #[.agg #[.int .i64 0, .slice none 0 0], .int .i64 q]) (by simp [results, Try.results26, go_sem, n0, n1]) rfl ?_
    rw [hV.out, hq.out]
    exact ⟨_, rfl, nod_zero _ _, hB9.out⟩
end Go.Proofs.Ytncnoingbaeomaa

/-
  Package node: Place. Conditions: those that each lemma states.
-/
namespace Go.Proofs.Ytncnoingbaeomaa
open Go.RowKit

def cntK (l : List It) (k : Ky) : Nat := (l.filter fun x => lessK x.1 k).length
theorem cntK_le (l : List It) (k : Ky) : cntK l k ≤ l.length := List.length_filter_le _ _
theorem cntK_take (l : List It) (k : Ky) (i : Nat) : cntK (l.take i) k ≤ i := Nat.le_trans (cntK_le _ _) (List.length_take_le _ _)
theorem cntK_yes {l : List It} {k : Ky} {i : Nat} {x : It} (hx : l[i]? = some x) (h : lessK x.1 k = true) : cntK (l.take (i + 1)) k = cntK (l.take i) k + 1 := by
  unfold cntK
  rw [List.take_add_one, hx, Option.toList_some, List.filter_append]
  simp [h]
theorem cntK_no {l : List It} {k : Ky} {i : Nat} {x : It} (hx : l[i]? = some x) (h : lessK x.1 k = false) : cntK (l.take (i + 1)) k = cntK (l.take i) k := by
  unfold cntK
  rw [List.take_add_one, hx, Option.toList_some, List.filter_append]
  simp [h]
def placeN (n : Nd) (k : Ky) : Nat := cntK n.2 k
def thereN (n : Nd) (k : Ky) : Bool := match n.2[placeN n k]? with
  | none => false
  | some x => decide (x.1 = k)
theorem thereN_out {n : Nd} {k : Ky} (h : n.2.length ≤ placeN n k) : thereN n k = false := by
  unfold thereN
  rw [List.getElem?_eq_none h]
theorem thereN_at {n : Nd} {k : Ky} {x : It} (h : n.2[placeN n k]? = some x) : thereN n k = decide (x.1 = k) := by
  unfold thereN
  rw [h]
set_option maxRecDepth 100000 in
theorem key_guard : Try.prog.eqGuardType Try.prog.depth 37 = false := by kernel_rfl
set_option maxRecDepth 100000 in
/-- Two keys held against each other, as the walk spells it. -/
theorem key_eq (a b : Ky) (w : World) : (Op.equalIn 10000 37 (kyV a) (kyV b)).run Try.prog w = .ok (decide (a = b)) w := by
  have hS : Try.prog.underlying 37 = some (.struct (Try.prog.fieldsOf 37)) := by kernel_rfl
  have hp : Try.prog.stoodInHeld 37 = false := by kernel_rfl
  have u3 := Try.underlying5
  have u4 := Try.underlying32
  have a3 := Try.isAgg5
  have z3 := Try.sizeOf5
  have a4 := Try.isAgg32
  have z4 := Try.sizeOf32
  obtain ⟨a1, a2, a3⟩ := a
  obtain ⟨b1, b2, b3⟩ := b
  have h : a1 = b1 ↔ (a1.toNat : Int) = b1.toNat := ⟨fun h => by rw [h], fun h => UInt8.toNat.inj (by omega)⟩
  simp only [Prod.mk.injEq, h]
  unfold kyV
  rw [show (10000 : Nat) = 9999 + 1 from rfl, run_equalIn_agg w 9999 37 _ _ hS hp]
  simp only [Program.fieldsOf, Try.underlying37]
  go_simp
  by_cases h1 : (a1.toNat : Int) = b1.toNat <;> by_cases h2 : a2 = b2 <;> by_cases h3 : a3 = b3 <;> simp [h1, h2, h3]

set_option maxRecDepth 100000 in
set_option maxHeartbeats 4000000 in
theorem nodePlace_any (v : Value) (n : Nd) (key : Ky) (w : World) (h : Nod (Old w) w v n) :
    Calls Try.prog 28 #[v, kyV key] w fun e w' => e = .returned (.tuple #[.int .i64 (placeN n key : Nat), .bool (thereN n key)]) ∧ Below w.heap.size w w' := by
  obtain ⟨A, c, rfl, _, l1, m1, hA⟩ := h.open
  have HA := Lib.hid hA
  clear h hA
  have hout := Lib.hid (fun hh => thereN_out (n := n) (k := key) hh)
  obtain ⟨m, hm⟩ : ∃ m, n.2.length = m := ⟨_, rfl⟩
  obtain ⟨l, hl⟩ : ∃ l, n.1 = l := ⟨_, rfl⟩
  rw [hm] at l1 HA hout ⊢
  rw [hl]
  clear hl
  replace hm := Lib.hid hm
  obtain ⟨w1, hw1, b1, hs1, hB1⟩ := box_pair' w (.int .i64 l) (.slice A m c) 64
  obtain ⟨w0, hw0, g0, g1, g2, hs0, hB2, _⟩ := box_three w1 (.int .u8 (key.1.toNat : Int)) (.int .u32 key.2.1) (.int .u32 key.2.2) 37
  obtain ⟨_, f2', _, lt1⟩ := two_cells b1
  have f2 := (hB2.cell (p := ⟨w.heap.size, 1, none⟩) lt1).trans f2'
  have hB0 := Lib.hid (hB1.trans (hB2.mono hB1.size))
  have lt0 : w.heap.size < w0.heap.size := Nat.lt_of_lt_of_le lt1 hB2.size
  have ltk : w1.heap.size < w0.heap.size := by omega
  have hB := Lib.hid (fun wr (hb : Below w0.heap.size w0 wr) => hB0.out.trans (hb.mono hB0.out.size))
  clear hB1 hB2 b1 f2'
  replace hs1 := Lib.hid hs1
  replace hs0 := Lib.hid hs0
  unfold kyV
  go_enter Try.func28, Try.ntmps28
  go_upto_region 1 with fail
  clear hw0 hw1
  go_wp2_with fail
  go_loopw [4, 11] (fun a i wr => ∃ k : Nat, k ≤ m ∧ i = .int .i64 k ∧ a = .int .i64 (cntK (n.2.take k) key : Nat) ∧ Below w0.heap.size w0 wr) (fun _ i _ => m - (intOf i).toNat)
  case atStart => exact ⟨0, by omega, rfl, rfl, Below.refl _ _⟩
  case round =>
    obtain ⟨k, hk, rfl, rfl, hb⟩ := hrel
    have hcle := cntK_take n.2 key k
    replace hb := Lib.hid hb
    have p2 := (hb.out.cell (p := ⟨w.heap.size, 1, none⟩) lt0).trans f2
    have y0 := (hb.out.cell (p := ⟨w1.heap.size, 0, none⟩) ltk).trans g0
    have y1 := (hb.out.cell (p := ⟨w1.heap.size, 1, none⟩) ltk).trans g1
    have y2 := (hb.out.cell (p := ⟨w1.heap.size, 2, none⟩) ltk).trans g2
    have BF := Lib.hid (hB.out _ hb.out)
    by_cases hlt : k < m
    case neg =>
      have hkm : Hid (n.2.take k = n.2) := Lib.hid (List.take_of_length_le (by rw [hm.out]; omega))
      have hat := Lib.hid (show cntK (n.2.take k) key = placeN n key by rw [hkm.out]; rfl)
      rw [hat.out] at hcle ⊢
      obtain ⟨p, hp⟩ : ∃ p, placeN n key = p := ⟨_, rfl⟩
      rw [hp] at hcle hout ⊢
      by_cases hpm : p < m
      · obtain ⟨x, hx⟩ : ∃ x, n.2[p]? = some x := ⟨_, List.getElem?_eq_getElem (by rw [hm.out]; exact hpm)⟩
        obtain ⟨ad, E, ce, rfl, _, _, _, FX⟩ := its_old HA.out hx
        obtain ⟨⟨z0, z1, z2, z3, z4⟩, _⟩ := FX wr BF.out
        have hth := Lib.hid (show decide (x.1 = key) = thereN n key from (thereN_at (by rw [hp]; exact hx)).symm)
        have he := key_eq x.1 key
        have hg := key_guard
        unfold kyV at he
        replace hp := Lib.hid hp
        replace hx := Lib.hid hx
        have i1 : (p : Int) < (m : Int) := by omega
        have i0 : (0 : Int) ≤ (p : Int) := by omega
        clear FX
        go_wp2_with fail
        go_quiet (fail)
        go_wp2_with fail
        go_ret2
        exact ⟨by rw [hp.out, hth.out]; rfl, below_drewN BF.out _⟩
      · have hth := Lib.hid (hout.out (by omega))
        have i1 : ¬ (p : Int) < (m : Int) := by omega
        replace hp := Lib.hid hp
        go_wp2_with fail
        go_quiet (fail)
        go_wp2_with fail
        go_ret2
        exact ⟨by rw [hp.out, hth.out]; rfl, below_drewN BF.out _⟩
    obtain ⟨x, hx⟩ : ∃ x, n.2[k]? = some x := ⟨_, List.getElem?_eq_getElem (by rw [hm.out]; exact hlt)⟩
    obtain ⟨ad, E, ce, rfl, q1, q2, hinx, FX⟩ := its_old HA.out hx
    obtain ⟨⟨z0, z1, z2, z3, z4⟩, _⟩ := FX wr BF.out
    obtain ⟨w2, hw2, r0, r1, r2, _, _, hs2, hB2, _⟩ := box_five wr (.int .u8 (x.1.1.toNat : Int)) (.int .u32 x.1.2.1) (.int .u32 x.1.2.2) (.int .i64 x.2.1) (.slice E x.2.2.length ce) 39
    have B2 := Lib.hid (hb.out.trans (hB2.mono hb.out.size))
    have v0 := (B2.out.cell (p := ⟨w1.heap.size, 0, none⟩) ltk).trans g0
    have v1 := (B2.out.cell (p := ⟨w1.heap.size, 1, none⟩) ltk).trans g1
    have v2 := (B2.out.cell (p := ⟨w1.heap.size, 2, none⟩) ltk).trans g2
    have hyes := Lib.hid (fun hh => cntK_yes (k := key) hx hh)
    have hno := Lib.hid (fun hh => cntK_no (k := key) hx hh)
    replace hx := Lib.hid hx
    replace hs2 := Lib.hid hs2
    clear FX hB2 hinx
    go_upto_region 4 with fail
    clear hw2 z0 z1 z2 z3 z4 y0 y1 y2
    go_wp2_with fail
    with_reducible refine (less_any x.1 key _).mono ?_
    rintro e3 w3 ⟨rfl, hb3⟩
    have B3 := Lib.hid (B2.out.trans (hb3.mono B2.out.size))
    clear hb3
    obtain ⟨s, hs⟩ : ∃ s, lessK x.1 key = s := ⟨_, rfl⟩
    rw [hs] at hyes hno ⊢
    replace hs := Lib.hid hs
    obtain ⟨q, hq⟩ : ∃ q, cntK (n.2.take k) key = q := ⟨_, rfl⟩
    rw [hq] at hyes hno hcle ⊢
    replace hq := Lib.hid hq
    cases s with
    | true =>
      have hn := Lib.hid (hyes.out rfl)
      go_wp2_with fail
      go_roundw
      case rel => exact ⟨k + 1, by omega, by go_num, by rw [hn.out]; go_num, B3.out⟩
      case measure => simp [intOf]; omega
    | false =>
      have hn := Lib.hid (hno.out rfl)
      go_wp2_with fail
      go_roundw
      case rel => exact ⟨k + 1, by omega, by go_num, by rw [hn.out], B3.out⟩
      case measure => simp [intOf]; omega
end Go.Proofs.Ytncnoingbaeomaa

/-
  What nodes and their blocks tell of one another, plain. Layer 6's law helper alive. Conditions: those that each lemma states.
-/
namespace Go.Proofs.Ytncnoingbaeomaa
open Go.RowKit

structure InN (n : Nd) : Prop where
  lv : In64 n.1
  it : ∀ x ∈ n.2, InI x
theorem cutTo_its (l : List It) (xs : List UInt8) (h : ∀ x ∈ l, mayI x = true ∧ InI x) : ∀ k, k ≤ l.length → cutTo (itsB l ++ xs) k = some (l.take k, itsB (l.drop k) ++ xs)
  | 0, _ => by simp [cutTo]
  | k + 1, hk => by
    have hx : l[k]? = some l[k] := List.getElem?_eq_getElem hk
    obtain ⟨h1, h2⟩ := h l[k] (List.getElem_mem hk)
    have hd : itsB (l.drop k) ++ xs = itB l[k] ++ (itsB (l.drop (k + 1)) ++ xs) := by
      rw [List.drop_eq_getElem_cons hk, show itsB (l[k] :: l.drop (k + 1)) = itB l[k] ++ itsB (l.drop (k + 1)) from rfl, List.append_assoc]
    have ih := cutTo_its l xs h k (by omega)
    rw [hd] at ih
    obtain ⟨q0, q1, q2, _⟩ := itB_read l[k] (itsB (l.drop (k + 1)) ++ xs) h2 h1
    rw [cutTo_yes ih q0, q1, q2, List.take_add_one, hx]
    simp
theorem zeros_noughts (k : Nat) : noughtsB (zeros k) = true := by simp [noughtsB, zeros]
theorem noughts_zeros {b : List UInt8} (h : noughtsB b = true) : b = zeros b.length := by
  simp only [noughtsB, List.all_eq_true, beq_iff_eq] at h
  exact List.eq_replicate_iff.2 ⟨rfl, h⟩
theorem told_parts (n : Nd) : toldN n = [78, UInt8.ofNat n.1.toNat, UInt8.ofNat n.2.length] ++ itsB n.2 := rfl
/-- What is written is read. -/
theorem read_blkN {n : Nd} (h : mayN n = true) (hi : InN n) : reN (blkN n) = 0 ∧ reV (blkN n) = n := by
  have hl := toldN_len h
  obtain ⟨⟨s1, s2, s3, _⟩, _⟩ := mayN_of h
  have hob : ob (blkN n) = padN (toldN n) := by
    unfold ob
    rw [if_pos ⟨blkN_length h, fits_seal _⟩]
    exact seal_drop _
  have hoe : oe (blkN n) = 0 := by
    unfold oe
    rw [if_pos (blkN_length h), if_pos (show fits (blkN n) from fits_seal _)]
  obtain ⟨z, hz⟩ : ∃ z, 124 - (toldN n).length = z := ⟨_, rfl⟩
  have hp : padN (toldN n) = 78 :: UInt8.ofNat n.1.toNat :: UInt8.ofNat n.2.length :: (itsB n.2 ++ zeros z) := by
    rw [padN, hz, told_parts]
    simp
  have h0 : (ob (blkN n))[0]?.getD 0 = 78 := by rw [hob, hp]; rfl
  have h1 : lvlN (ob (blkN n)) = n.1 := by
    rw [hob, hp]
    show ((UInt8.ofNat n.1.toNat).toNat : Int) = n.1
    rw [UInt8.toNat_ofNat']
    omega
  have h2 : manyN (ob (blkN n)) = n.2.length := by
    rw [hob, hp]
    show (UInt8.ofNat n.2.length).toNat = n.2.length
    rw [UInt8.toNat_ofNat']
    omega
  have h3 : (ob (blkN n)).drop 3 = itsB n.2 ++ zeros z := by rw [hob, hp]; rfl
  have hc : cutTo ((ob (blkN n)).drop 3) (manyN (ob (blkN n))) = some (n.2, zeros z) := by
    rw [h2, h3, cutTo_its n.2 (zeros z) (fun x hx => ⟨mayN_all h x hx, hi.it x hx⟩) n.2.length (Nat.le_refl _)]
    simp [itsB]
  have hnd : ndN (ob (blkN n)) = n := by
    unfold ndN cutL
    rw [hc, h1]
    rfl
  have hr : rdN (ob (blkN n)) = true := by
    unfold rdN cutR
    rw [h0, hc, hnd, h]
    simp [zeros_noughts]
  obtain ⟨e1, e2⟩ := reN_good hoe hr
  exact ⟨e1, by rw [e2, hnd]⟩
/-- What is read is written so. -/
theorem blkN_read {b : List UInt8} (h : reN b = 0) : mayN (reV b) = true ∧ blkN (reV b) = b ∧ InN (reV b) := by
  have hoe : oe b = 0 := by
    unfold reN at h
    by_cases e : oe b = 0
    · exact e
    · rw [if_neg e] at h; exact absurd h e
  have hrd : rdN (ob b) = true := by
    unfold reN at h
    rw [if_pos hoe] at h
    cases e : rdN (ob b) with
    | true => rfl
    | false => rw [e] at h; cases h
  obtain ⟨e1, e2⟩ := reN_good hoe hrd
  obtain ⟨hlen, hfits, hob, h124⟩ := oe_zeroN hoe
  rw [e2]
  obtain ⟨bd, hbd⟩ : ∃ bd, ob b = bd := ⟨_, rfl⟩
  rw [hbd] at hrd h124 ⊢
  unfold rdN at hrd
  simp only [Bool.and_eq_true, decide_eq_true_eq] at hrd
  obtain ⟨h78, hs, hm, hn⟩ := hrd
  cases hc : cutTo (bd.drop 3) (manyN bd) with
  | none => rw [hc] at hs; cases hs
  | some p =>
    obtain ⟨l, r⟩ := p
    have hL : cutL (bd.drop 3) (manyN bd) = l := by simp [cutL, hc]
    have hR : cutR (bd.drop 3) (manyN bd) = r := by simp [cutR, hc]
    obtain ⟨c1, c2, c3⟩ := cutTo_bytes hc
    rw [hR] at hn
    have hnd : ndN bd = (lvlN bd, l) := by rw [ndN, hL]
    have hin : InN (ndN bd) := by
      rw [hnd]
      exact ⟨lvlN_in bd, fun x hx => (c3 x hx).2⟩
    refine ⟨hm, ?_, hin⟩
    have hsplit : bd = [78, bd[1]?.getD 0, bd[2]?.getD 0] ++ bd.drop 3 := by
      match bd, h124, h78 with
      | x :: y :: z :: q, _, h78 =>
        simp at h78
        simp [h78]
    have hT : toldN (ndN bd) = [78, bd[1]?.getD 0, bd[2]?.getD 0] ++ itsB l := by
      rw [hnd, told_parts, c2]
      have e1 : UInt8.ofNat (lvlN bd).toNat = bd[1]?.getD 0 := by simp [lvlN]
      have e2 : UInt8.ofNat (manyN bd) = bd[2]?.getD 0 := by simp [manyN]
      show [78, UInt8.ofNat (lvlN bd).toNat, UInt8.ofNat (manyN bd)] ++ itsB l = _
      rw [e1, e2]
    have hbody : bd = toldN (ndN bd) ++ r := by
      rw [hT, List.append_assoc, ← c1]
      exact hsplit
    have hpad : padN (toldN (ndN bd)) = bd := by
      have hl2 : (toldN (ndN bd)).length + r.length = 124 := by
        have := congrArg List.length hbody
        rw [List.length_append, h124] at this
        omega
      rw [padN, show 124 - (toldN (ndN bd)).length = r.length by omega, ← noughts_zeros hn]
      exact hbody.symm
    show sealN (toldN (ndN bd)) = b
    have hs : sealN (toldN (ndN bd)) = sealN bd := by
      unfold sealN
      rw [hpad, padN_full h124]
    rw [hs, ← hbd, hob]
    exact seal_back hlen hfits
/-! ### alive -/
end Go.Proofs.Ytncnoingbaeomaa

/-
  Trees, plain: which may be, their items, what is found in them. Conditions: those that each lemma states.
-/
namespace Go.Proofs.Ytncnoingbaeomaa
open Go.RowKit

/-! ### Which trees may be -/
def keyZ : Ky := (0, 0, 0)
/-- The Refs of a leaf's items are referred tb. -/
def leafO (s : Rm) (l : List It) : Bool := l.all fun x => decide (x.2.1 = 0) || decide (s.2.1[x.2.1.toNat]?.getD 0 ≠ 0)
/-- Each of some items, by its Ref, its key, and the next one's key (or a bound). -/
def itsO (f : Int → Ky → Ky → Bool → Bool) : List It → Ky → Bool → Bool
  | [], _, _ => true
  | [x], tb, ends => f x.2.1 x.1 tb ends
  | x :: y :: r, tb, ends => f x.2.1 x.1 y.1 true && itsO f (y :: r) tb ends
/-- The first key, and the last one ahead of a bound. -/
def headO (l : List It) (k tb : Ky) (ends : Bool) : Bool := (match l[0]? with | none => false | some x => decide (x.1 = k)) && (!ends || (match l.getLast? with | none => false | some y => lessK y.1 tb))
noncomputable def rightO (s : Rm) : Nat → Int → Ky → Ky → Bool → Bool
  | 0, a, k, tb, ends => (decide (rmE s a = 0) && decide ((rmV s a).1 = 0)) && (headO (rmV s a).2 k tb ends && leafO s (rmV s a).2)
  | l + 1, a, k, tb, ends => (decide (rmE s a = 0) && decide ((rmV s a).1 = ((l + 1 : Nat) : Int))) && (headO (rmV s a).2 k tb ends && itsO (rightO s l) (rmV s a).2 tb ends)
noncomputable def innerO (s : Rm) (n : Nd) (tb : Ky) (ends : Bool) : Bool := match n.1.toNat with
  | 0 => leafO s n.2
  | l + 1 => itsO (rightO s l) n.2 tb ends
noncomputable def treeO (s : Rm) (a : Int) : Bool := decide (rmE s a = 0) && innerO s (rmV s a) keyZ false
noncomputable def ckE (s : Rm) (a : Int) : Int := if asE s a = 0 then (if treeO s a then 0 else 8) else asE s a
noncomputable def ckH (s : Rm) (a : Int) : Int := if ckE s a = 0 then (rmV s a).1 + 1 else 0

/-! ### Items, and what is found -/
noncomputable def itsT (s : Rm) : Nat → Int → List It
  | 0, a => (rmV s a).2
  | l + 1, a => (rmV s a).2.flatMap fun x => itsT s l x.2.1
noncomputable def oneO (s : Rm) : Nat → Int → Ky → Option It
  | 0, a, k => (rmV s a).2.reverse.find? fun x => decide (x.1 = k)
  | l + 1, a, k => ((rmV s a).2.reverse.find? fun x => !lessK k x.1).bind fun x => oneO s l x.2.1 k
noncomputable def theO (s : Rm) (a : Int) (k : Ky) : Option It := oneO s (rmV s a).1.toNat a k

def Up (l : List It) : Prop := l.Pairwise fun x y => lessK x.1 y.1 = true
theorem rm_may {s : Rm} {a : Int} (h : rmE s a = 0) : mayN (rmV s a) = true ∧ asE s a = 0 := by
  by_cases ha : asE s a = 0
  · obtain ⟨k, _, _, _, _, _, _, hE, hV, _⟩ := as_read ha
    rw [hE] at h
    rw [hV]
    exact ⟨(blkN_read h).1, ha⟩
  · rw [(rm_bad ha).1] at h
    exact absurd h ha
theorem up_may {n : Nd} (h : mayN n = true) : Up n.2 := by
  rw [Up, List.pairwise_iff_getElem]
  intro i j hi hj hij
  exact mayN_rises h hij (List.getElem?_eq_getElem hi) (List.getElem?_eq_getElem hj)
theorem up_first {x : It} {l : List It} (h : Up (x :: l)) : ∀ y ∈ x :: l, y.1 = x.1 ∨ lessK x.1 y.1 = true := fun y hy => by
  rcases List.mem_cons.1 hy with rfl | hy
  · exact .inl rfl
  · exact .inr ((List.pairwise_cons.1 h).1 y hy)
theorem up_last {l : List It} {z : It} {tb : Ky} (h : Up l) (hl : l.getLast? = some z) (hz : lessK z.1 tb = true) : ∀ y ∈ l, lessK y.1 tb = true := fun y hy => by
  obtain ⟨r, rfl⟩ := List.getLast?_eq_some_iff.1 hl
  rcases List.mem_append.1 hy with hy | hy
  · exact less_trans ((List.pairwise_append.1 h).2.2 y hy z (by simp)) hz
  · rw [List.mem_singleton.1 hy]
    exact hz
theorem head_of {l : List It} {k tb : Ky} {ends : Bool} (h : headO l k tb ends = true) : ∃ x r, l = x :: r ∧ x.1 = k ∧ (ends = true → ∃ z, l.getLast? = some z ∧ lessK z.1 tb = true) := by
  unfold headO at h
  rw [Bool.and_eq_true] at h
  obtain ⟨h1, h2⟩ := h
  cases l with
  | nil => simp at h1
  | cons x r =>
    refine ⟨x, r, rfl, by simpa using h1, fun he => ?_⟩
    rw [he] at h2
    cases hz : (x :: r).getLast? with
    | none => rw [hz] at h2; simp at h2
    | some z => rw [hz] at h2; exact ⟨z, rfl, by simpa using h2⟩

/-- What a part of a tree has: items that rise, from a first key on, ahead of a bound. -/
structure Part (M : List It) (k tb : Ky) (ends : Bool) (N : Nat) : Prop where
  first : ∃ x r, M = x :: r ∧ x.1 = k
  up : Up M
  bound : ends = true → ∀ y ∈ M, lessK y.1 tb = true
  few : M.length ≤ N
theorem Part.ge {M : List It} {k tb : Ky} {ends : Bool} {N : Nat} (h : Part M k tb ends N) : ∀ y ∈ M, y.1 = k ∨ lessK k y.1 = true := by
  obtain ⟨x, r, rfl, rfl⟩ := h.first
  exact up_first h.up
theorem part_its {f : Int → Ky → Ky → Bool → Bool} {g : Int → List It} {N : Nat} (hf : ∀ a k tb ends, f a k tb ends = true → Part (g a) k tb ends N) : ∀ (L : List It) (tb : Ky) (ends : Bool), L ≠ [] → itsO f L tb ends = true →
    ∃ x r, L = x :: r ∧ Part (L.flatMap fun x => g x.2.1) x.1 tb ends (N * L.length)
  | [], _, _, h, _ => absurd rfl h
  | [x], tb, ends, _, h => by
    refine ⟨x, [], rfl, ?_⟩
    have := hf _ _ _ _ h
    simpa using this
  | x :: y :: r, tb, ends, _, h => by
    refine ⟨x, y :: r, rfl, ?_⟩
    unfold itsO at h
    rw [Bool.and_eq_true] at h
    have hx := hf _ _ _ _ h.1
    obtain ⟨y', r', e, hy⟩ := part_its hf (y :: r) tb ends (by simp) h.2
    cases e
    have e2 : (x :: y :: r).flatMap (fun x => g x.2.1) = g x.2.1 ++ (y :: r).flatMap fun x => g x.2.1 := List.flatMap_cons
    rw [e2]
    have hb := hx.bound rfl
    have hlt : ∀ p ∈ g x.2.1, ∀ q ∈ (y :: r).flatMap (fun x => g x.2.1), lessK p.1 q.1 = true := fun p hp q hq => by
      rcases hy.ge q hq with e | e
      · rw [e]; exact hb p hp
      · exact less_trans (hb p hp) e
    refine ⟨?_, ?_, fun he p hp => ?_, ?_⟩
    · obtain ⟨z, q, ez, kz⟩ := hx.first
      exact ⟨z, _, by rw [ez]; rfl, kz⟩
    · exact List.pairwise_append.2 ⟨hx.up, hy.up, hlt⟩
    · rcases List.mem_append.1 hp with hp | hp
      · obtain ⟨z, q, ez, kz⟩ := hy.first
        have hz := hlt p hp z (by rw [ez]; simp)
        exact less_trans hz (hy.bound he z (by rw [ez]; simp))
      · exact hy.bound he p hp
    · have h1 := hx.few
      have h2 := hy.few
      rw [List.length_append]
      have e3 : N * (x :: y :: r).length = N + N * (y :: r).length := by rw [List.length_cons, Nat.mul_succ, Nat.add_comm]
      omega
theorem right_of {s : Rm} {l : Nat} {a : Int} {k tb : Ky} {ends : Bool} (h : rightO s l a k tb ends = true) : rmE s a = 0 ∧ (rmV s a).1 = l ∧ headO (rmV s a).2 k tb ends = true ∧ (match l with | 0 => leafO s (rmV s a).2 | l' + 1 => itsO (rightO s l') (rmV s a).2 tb ends) = true := by
  cases l with
  | zero =>
    simp only [rightO, Bool.and_eq_true, decide_eq_true_eq] at h
    exact ⟨h.1.1, h.1.2, h.2.1, h.2.2⟩
  | succ l =>
    simp only [rightO, Bool.and_eq_true, decide_eq_true_eq] at h
    exact ⟨h.1.1, h.1.2, h.2.1, h.2.2⟩
theorem right_part (s : Rm) : ∀ (l : Nat) (a : Int) (k tb : Ky) (ends : Bool), rightO s l a k tb ends = true → Part (itsT s l a) k tb ends (5 ^ (l + 1))
  | 0, a, k, tb, ends, h => by
    obtain ⟨h1, h2, h3, h4⟩ := right_of h
    obtain ⟨hm, _⟩ := rm_may h1
    obtain ⟨x, r, e, ek, hz⟩ := head_of h3
    refine ⟨⟨x, r, e, ek⟩, up_may hm, fun he => ?_, ?_⟩
    · obtain ⟨z, e1, e2⟩ := hz he
      exact up_last (up_may hm) e1 e2
    · exact (mayN_of hm).1.2.2.1
  | l + 1, a, k, tb, ends, h => by
    obtain ⟨h1, h2, h3, h4⟩ := right_of h
    obtain ⟨hm, _⟩ := rm_may h1
    obtain ⟨x, r, e, ek, hz⟩ := head_of h3
    obtain ⟨x', r', e', hp⟩ := part_its (right_part s l) (rmV s a).2 tb ends (by rw [e]; simp) h4
    rw [e] at e'
    cases e'
    rw [ek] at hp
    refine ⟨hp.first, hp.up, hp.bound, Nat.le_trans hp.few ?_⟩
    have h5 := (mayN_of hm).1.2.2.1
    rw [Nat.pow_succ 5 (l + 1)]
    exact Nat.mul_le_mul_left _ h5

/-! ### What is found -/
theorem find_none {p : It → Bool} {l : List It} (h : ∀ x ∈ l, p x = false) : l.reverse.find? p = none := by
  rw [List.find?_eq_none]
  intro x hx
  rw [h x (List.mem_reverse.1 hx)]
  simp
/-! ### A tree that may be -/
theorem tree_of {s : Rm} {a : Int} (h : treeO s a = true) : rmE s a = 0 ∧ asE s a = 0 ∧ mayN (rmV s a) = true ∧ 0 ≤ (rmV s a).1 ∧ (rmV s a).1 < 6 ∧ innerO s (rmV s a) keyZ false = true := by
  simp only [treeO, Bool.and_eq_true, decide_eq_true_eq] at h
  obtain ⟨hm, ha⟩ := rm_may h.1
  exact ⟨h.1, ha, hm, (mayN_of hm).1.1, (mayN_of hm).1.2.1, h.2⟩
/-! ### As loops go -/
theorem leaf_take {s : Rm} {l : List It} {i : Nat} {x : It} (hx : l[i]? = some x) : leafO s (l.take (i + 1)) = (leafO s (l.take i) && (decide (x.2.1 = 0) || decide (s.2.1[x.2.1.toNat]?.getD 0 ≠ 0))) := by
  have hk := (List.getElem?_eq_some_iff.1 hx).1
  have hg : l[i] = x := (List.getElem?_eq_some_iff.1 hx).2
  rw [← List.take_append_getElem hk, hg]
  simp [leafO]
theorem leaf_bad {s : Rm} {l : List It} {i : Nat} (h : leafO s (l.take i) = false) : leafO s l = false := by
  cases e : leafO s l with
  | false => rfl
  | true =>
    unfold leafO at e h
    rw [List.all_eq_true] at e
    rw [← h]
    symm
    rw [List.all_eq_true]
    exact fun x hx => e x (List.mem_of_mem_take hx)
/-- The bound of an item, and whether there is one. -/
def nxO (r : List It) (tb : Ky) : Ky := match r with | [] => tb | y :: _ => y.1
def bxO (r : List It) (ends : Bool) : Bool := match r with | [] => ends | _ :: _ => true
theorem its_cons (f : Int → Ky → Ky → Bool → Bool) (x : It) (r : List It) (tb : Ky) (ends : Bool) : itsO f (x :: r) tb ends = (f x.2.1 x.1 (nxO r tb) (bxO r ends) && itsO f r tb ends) := by
  cases r with
  | nil => simp [itsO, nxO, bxO]
  | cons y r => rfl
end Go.Proofs.Ytncnoingbaeomaa

/-
  Bytes of the call's own that are turned where they lie; what lies elsewhere stays. Facts on items whose cells lie in a range that does not move. Conditions: those that each lemma states.
-/
namespace Go.Proofs.Ytncnoingbaeomaa
open Go.RowKit

structure Turnt (lo hi : Nat) (w wr : World) : Prop where
  sp : Spoilt lo w wr
  keep : ∀ k, hi ≤ k → wr.heap[k]? = w.heap[k]?
theorem Turnt.refl (lo hi : Nat) (w : World) : Turnt lo hi w w := ⟨Spoilt.refl _ _, fun _ _ => rfl⟩
theorem Turnt.step {lo hi : Nat} {w wr : World} (h : Turnt lo hi w wr) {p : Addr} (hp : lo ≤ p.block) (hp' : p.block < hi) {x : UInt8} (hx : wr.cell? p = some (.int .u8 (x.toNat : Int))) (y : UInt8) : Turnt lo hi w (wr.setCell p (.int .u8 (y.toNat : Int))) :=
  ⟨h.sp.step hp hx y, fun k hk => (Below.heap_setCell wr p _ k (by omega)).trans (h.keep k hk)⟩
theorem Turnt.drew {lo hi : Nat} {w wr : World} (h : Turnt lo hi w wr) : Turnt lo hi w wr.drew := ⟨h.sp.drew, h.keep⟩
theorem Turnt.block {lo hi : Nat} {w wr : World} (h : Turnt lo hi w wr) {k : Nat} (hk : k < lo ∨ hi ≤ k) : wr.heap[k]? = w.heap[k]? := by
  rcases hk with hk | hk
  · exact h.sp.low.block k hk
  · exact h.keep k hk
theorem Turnt.cell {lo hi : Nat} {w wr : World} (h : Turnt lo hi w wr) {p : Addr} (hk : p.block < lo ∨ hi ≤ p.block) : wr.cell? p = w.cell? p := World.cell?_of_block (h.block hk)
/-- Facts whose cells lie in a range that does not move. -/
def OnI (ok : Addr → Prop) (v : Value) (s : It) : World → Prop := fun w => Itm ok w v s
def OnB (ok : Addr → Prop) (v : Value) (xs : List UInt8) : World → Prop := fun w => rBy ok w [v] xs
theorem OnI.old {ok : Addr → Prop} {v : Value} {s : It} {w : World} (h : OnI ok v s w) : Itm (Old w) w v s := Itm.map (fun p _ _ hc => ⟨World.block_lt_of_cell? w p hc, hc⟩) h
theorem OnB.old {ok : Addr → Prop} {v : Value} {xs : List UInt8} {w : World} (h : OnB ok v xs w) : rBy (Old w) w [v] xs := stab_by _ _ _ _ _ _ (fun p _ _ hc => ⟨World.block_lt_of_cell? w p hc, hc⟩) h
end Go.Proofs.Ytncnoingbaeomaa

/-
  A bag's facts on nodes; what places tell, plain. Conditions: those that each lemma states.
-/
namespace Go.Proofs.Ytncnoingbaeomaa
open Go.RowKit

theorem bag_node {w w1 : World} {Fs : List (World → Prop)} (h : Bag w Fs) (hb : Below w.heap.size w w1) (a b : Value) : ∃ w', w1.alloc (.cells #[a, b] 64) = w' ∧ Bag w' (Box2 w1.heap.size a b :: Fs) ∧ Below w.heap.size w w' ∧ Below w1.heap.size w1 w' ∧ w1.heap.size < w'.heap.size := by
  obtain ⟨w2, e2, b2, k4, k5⟩ := box_pair' w1 a b 64
  obtain ⟨k1, k2, _, k3⟩ := two_cells b2
  exact ⟨w2, e2, ((h.below hb).below k5).add ⟨k1, k2, k3⟩ (lasts_box _ _ _), hb.trans (k5.mono hb.size), k5, by omega⟩
def OldN (v : Value) (n : Nd) : World → Prop := fun w => Nod (Old w) w v n
theorem lasts_oldN (v : Value) (n : Nd) : Lasts (OldN v n) := fun _ _ h hb => h.below hb
def OldIs (v : Value) (l : List It) : World → Prop := fun w => rIts (Old w) w [v] l
theorem lasts_oldIs (v : Value) (l : List It) : Lasts (OldIs v l) := fun _ _ h hb => stab_its.old h hb

/-! ### Places -/
theorem cntK_all {l : List It} {k : Ky} : ∀ {i : Nat}, i ≤ l.length → (∀ j x, j < i → l[j]? = some x → lessK x.1 k = true) → cntK (l.take i) k = i
  | 0, _, _ => rfl
  | i + 1, hi, h => by
    have hx : l[i]? = some l[i] := List.getElem?_eq_getElem hi
    rw [cntK_yes hx (h i _ (by omega) hx), cntK_all (by omega) (fun j x hj => h j x (by omega))]
theorem cntK_up (l : List It) (k : Ky) (i : Nat) : cntK (l.take i) k ≤ cntK l k := by
  unfold cntK
  exact ((List.take_sublist i l).filter _).length_le
theorem cntK_stop {l : List It} {k : Ky} {i : Nat} (h : ∀ j x, i ≤ j → l[j]? = some x → lessK x.1 k = false) : cntK l k = cntK (l.take i) k := by
  have e : cntK l k = cntK (l.take i) k + cntK (l.drop i) k := by
    unfold cntK
    rw [← List.length_append, ← List.filter_append, List.take_append_drop]
  have z : cntK (l.drop i) k = 0 := by
    unfold cntK
    rw [List.length_eq_zero_iff, List.filter_eq_nil_iff]
    intro x hx
    obtain ⟨j, hj⟩ := List.mem_iff_getElem?.1 hx
    rw [List.getElem?_drop] at hj
    rw [h (i + j) x (by omega) hj]
    simp
  omega
theorem place_parts {n : Nd} (h : mayN n = true) {k : Ky} {i : Nat} {x : It} (hx : n.2[i]? = some x) : lessK x.1 k = decide (i < placeN n k) := by
  have hi := (List.getElem?_eq_some_iff.1 hx).1
  cases e : lessK x.1 k with
  | true =>
    have h1 : cntK (n.2.take (i + 1)) k = i + 1 := cntK_all (by omega) (fun j y hj hy => by
      rcases Nat.lt_or_ge j i with h2 | h2
      · exact less_trans (mayN_rises h h2 hy hx) e
      · obtain rfl : j = i := by omega
        rw [hx] at hy
        cases hy
        exact e)
    have h2 := cntK_up n.2 k (i + 1)
    have h3 : placeN n k = cntK n.2 k := rfl
    have : i < placeN n k := by omega
    simp [this]
  | false =>
    have h1 : cntK n.2 k = cntK (n.2.take i) k := cntK_stop (fun j y hj hy => by
      rcases Nat.lt_or_ge i j with h2 | h2
      · cases e2 : lessK y.1 k with
        | false => rfl
        | true =>
          have := less_trans (mayN_rises h h2 hx hy) e2
          rw [e] at this
          cases this
      · obtain rfl : i = j := by omega
        rw [hx] at hy
        cases hy
        exact e)
    have h2 := cntK_take n.2 k i
    have h3 : placeN n k = cntK n.2 k := rfl
    have : ¬ i < placeN n k := by omega
    simp [this]
theorem placeN_le (n : Nd) (k : Ky) : placeN n k ≤ n.2.length := cntK_le _ _
theorem place_own {n : Nd} (h : mayN n = true) {i : Nat} {x : It} (hx : n.2[i]? = some x) : placeN n x.1 = i ∧ thereN n x.1 = true := by
  have hi := (List.getElem?_eq_some_iff.1 hx).1
  have h1 : ¬ i < placeN n x.1 := fun h2 => by
    have := place_parts h (k := x.1) hx
    rw [less_self] at this
    simp [h2] at this
  have h2 : placeN n x.1 = i := by
    rcases Nat.eq_zero_or_pos i with h0 | h0
    · omega
    · obtain ⟨j, rfl⟩ : ∃ j, i = j + 1 := ⟨i - 1, by omega⟩
      have hy : n.2[j]? = some n.2[j] := List.getElem?_eq_getElem (by omega)
      have h3 := place_parts h (k := x.1) hy
      rw [mayN_rise h hy hx] at h3
      have : j < placeN n x.1 := by simpa using h3.symm
      omega
  exact ⟨h2, by rw [thereN_at (by rw [h2]; exact hx)]; simp⟩
end Go.Proofs.Ytncnoingbaeomaa

/-
  Package room: Same, New. Conditions: those that each lemma states.
-/
namespace Go.Proofs.Ytncnoingbaeomaa
open Go.RowKit

/-- A new store. -/
def newR : Rm := (zeroD, zeros 256, zeros 256)
set_option maxRecDepth 100000 in
set_option maxHeartbeats 4000000 in
theorem newR_any (w : World) : Calls Try.prog 25 #[] w fun e w' => ∃ t, e = .returned t ∧ Sto (New w.heap.size w') w' t newR ∧ Below w.heap.size w w' := by
  obtain ⟨w1, hw1, f1, hsz, hB⟩ := box_4 w (.slice none 0 0) (.slice none 0 0) (.slice none 0 0) (.slice none 0 0) 29
  have hz : Hid ((zeros 256).length = 256) := Lib.hid (zeros_length 256)
  replace hsz := Lib.hid hsz
  go_enter Try.func25, Try.ntmps25
  go_upto_region 1 with fail
  clear hw1
  go_wp2_with fail
  with_reducible refine (new_any _).mono ?_
  rintro e w2 ⟨u, rfl, h2, hb2⟩
  obtain ⟨P, p, Q, r, rfl, _⟩ := id h2.open
  have H2 := Lib.hid h2
  have F2 := (hb2.block w.heap.size (by rw [hsz.out]; omega)).trans f1
  have B2 := Lib.hid (hB.trans (hb2.mono hB.size))
  have s2 : Hid (w.heap.size + 1 ≤ w1.heap.size ∧ w1.heap.size ≤ w2.heap.size) := Lib.hid ⟨by rw [hsz.out]; omega, hb2.size⟩
  clear h2 hb2 f1
  go_wp2_with fail
  with_reducible refine (cntNew_by _).mono ?_
  rintro e w3 ⟨g3, rfl, h3, hb3⟩
  have H3 := Lib.hid h3
  have D3 := Lib.hid (H2.out.new (Nat.le_refl _) hb3)
  have F3 := (hb3.block w.heap.size (by have := s2.out; omega)).trans F2
  have B3 := Lib.hid (B2.out.trans (hb3.mono B2.out.size))
  have s3 : Hid (w2.heap.size ≤ w3.heap.size) := Lib.hid hb3.size
  clear h3 hb3 F2 H2
  go_wp2_with fail
  with_reducible refine (cntNew_by _).mono ?_
  rintro e w4 ⟨g4, rfl, h4, hb4⟩
  have D4 := D3.out.new (Nat.le_refl _) hb4
  have N4 := stab_by.new H3.out (Nat.le_refl _) hb4
  have F4 := (hb4.block w.heap.size (by have := s2.out; have := s3.out; omega)).trans F3
  have B4 := B3.out.trans (hb4.mono B3.out.size)
  obtain ⟨c0, c1, c2, c3, c4, c5⟩ := four_cells F4
  obtain ⟨W9, hW9, g9, gr9, gs9⟩ := put_four (a' := .slice P zeroD.1.length p) (b' := .slice Q zeroD.2.length r) (c' := .slice (some ⟨g3, 0, none⟩) 256 256) (d' := .slice (some ⟨g4, 0, none⟩) 256 256) F4
  obtain ⟨n0, n1, n2, n3, _, _⟩ := four_cells g9
  have q2 := s2.out
  have q3 := s3.out
  have l2 := B2.out.size
  have l3 := B3.out.size
  have hfin := Lib.hid (show Sto (New w.heap.size W9) W9 (.agg #[.slice P zeroD.1.length p, .slice Q zeroD.2.length r, .slice (some ⟨g3, 0, none⟩) 256 256, .slice (some ⟨g4, 0, none⟩) 256 256]) newR from
    Sto.mk ((D4.grown gr9 (fun q e => by cases e; omega)).new (by omega) (Below.refl _ _)) (stab_by.new (stab_by.grown N4 gr9 (fun q e => by cases e; omega)) (by omega) (Below.refl _ _)) (stab_by.new (stab_by.grown h4 gr9 (fun q e => by cases e; omega)) (by omega) (Below.refl _ _)))
  have hB9 := Lib.hid (B4.grown gr9 B4.size (fun q e => by cases e; omega))
  clear D4 N4 gr9 gs9 B4 q2 q3 l2 l3 h4 hb4
  replace F4 := Lib.hid F4
  replace F3 := Lib.hid F3
  replace g9 := Lib.hid g9
  go_wp2_with fail
  refine bodyPost_ret (v := .agg #[.slice P zeroD.1.length p, .slice Q zeroD.2.length r, .slice (some ⟨g3, 0, none⟩) 256 256, .slice (some ⟨g4, 0, none⟩) 256 256]) (by simp [results, Try.results25, go_sem, n0, n1, n2, n3]) rfl ?_
  exact ⟨_, rfl, hfin.out, hB9.out⟩
end Go.Proofs.Ytncnoingbaeomaa

/-
  slices.Chunk at a slice of 256 bytes, in parts of 128. Conditions: those that each lemma states.
-/
namespace Go.Proofs.Ytncnoingbaeomaa
open Go.RowKit Go.Shelf
attribute [local go_sem] Oper.semAt_some

/-- What a round keeps: all that lay below block n₀, and the two boxes from Bs on. -/
def Keeps2 (n₀ Bs : Nat) (A B : World) : Prop := Below n₀ A B ∧ B.cell? ⟨Bs, 0, none⟩ = A.cell? ⟨Bs, 0, none⟩ ∧ B.cell? ⟨Bs + 1, 0, none⟩ = A.cell? ⟨Bs + 1, 0, none⟩
theorem Keeps2.trans {n₀ Bs : Nat} {A B C : World} (h : Keeps2 n₀ Bs A B) (h' : Keeps2 n₀ Bs B C) : Keeps2 n₀ Bs A C := ⟨h.1.trans h'.1, h'.2.1.trans h.2.1, h'.2.2.trans h.2.2⟩
theorem Keeps2.refl (n₀ Bs : Nat) (A : World) : Keeps2 n₀ Bs A A := ⟨Below.refl _ _, rfl, rfl⟩
theorem Keeps2.below {n₀ Bs : Nat} {A B : World} (h : Below n₀ A B) (hB : Bs + 1 < n₀) : Keeps2 n₀ Bs A B := ⟨h, h.cell (p := ⟨Bs, 0, none⟩) (by show Bs < n₀; omega), h.cell (p := ⟨Bs + 1, 0, none⟩) hB⟩
end Go.Proofs.Ytncnoingbaeomaa

/-
  The document's answers of layer 7: Write. Conditions: those that each lemma states.
-/
namespace Go.Proofs.Ytncnoingbaeomaa
open Go.RowKit

/-- Cells that hold no empty slice. -/
def NZ (ok : Addr → Prop) (w : World) : Addr → Prop := fun p => ok p ∧ w.cell? p ≠ some (.slice none 0 0)
theorem by_nz {ok : Addr → Prop} {w : World} {cs : List Value} {x : List UInt8} (h : rBy ok w cs x) : rBy (NZ ok w) w cs x := by
  obtain ⟨A, cap, h1, h2, h3, h4⟩ := h
  refine ⟨A, cap, h1, h2, h3, fun i y hi => ?_⟩
  obtain ⟨ad, vs, e1, e2, e3, e4⟩ := h4 i y hi
  refine ⟨ad, vs, e1, e2, fun j u hj => ⟨⟨(e3 j u hj).1, ?_⟩, (e3 j u hj).2⟩, e4⟩
  unfold rU8 at e4
  subst e4
  have := List.mem_of_getElem? hj
  simp only [List.mem_singleton] at this
  rw [(e3 j u hj).2, this]
  simp
theorem slice_nz {ok : Addr → Prop} {w : World} {u : Value} {x : List UInt8} (h : rBy ok w [u] x) (hx : x ≠ []) : u ≠ .slice none 0 0 := by
  obtain ⟨A, c, rfl, _⟩ := rBy_open h
  intro e
  simp only [Value.slice.injEq] at e
  exact hx (List.eq_nil_of_length_eq_zero e.2.1)
theorem rows_nz {ok : Addr → Prop} {w : World} {cs : List Value} {xss : List (List UInt8)} (h : rSl 1 rBy ok w cs xss) (hn : ∀ x ∈ xss, x ≠ []) : rSl 1 rBy (NZ ok w) w cs xss := by
  obtain ⟨A, cap, h1, h2, h3, h4⟩ := h
  refine ⟨A, cap, h1, h2, h3, fun i y hi => ?_⟩
  obtain ⟨ad, vs, e1, e2, e3, e4⟩ := h4 i y hi
  refine ⟨ad, vs, e1, e2, fun j u hj => ⟨⟨(e3 j u hj).1, ?_⟩, (e3 j u hj).2⟩, by_nz e4⟩
  match vs, e2 with
  | [v], _ =>
    have := List.mem_of_getElem? hj
    simp only [List.mem_singleton] at this
    rw [(e3 j u hj).2, this]
    exact fun e => slice_nz e4 (hn y (List.mem_of_getElem? hi)) (by simpa using e)
theorem wts_nz {ok : Addr → Prop} {w : World} {cs : List Value} {ws : List Wt} (h : rSl 2 rWt ok w cs ws) (hn : ∀ x ∈ ws, x.2 ≠ []) : rSl 2 rWt (NZ ok w) w cs ws := by
  obtain ⟨A, cap, h1, h2, h3, h4⟩ := h
  refine ⟨A, cap, h1, h2, h3, fun i y hi => ?_⟩
  obtain ⟨ad, vs, e1, e2, e3, e4⟩ := h4 i y hi
  obtain ⟨v, rfl, b1, b2, hv⟩ := rWt_open e4
  refine ⟨ad, _, e1, e2, fun j u hj => ⟨⟨(e3 j u hj).1, ?_⟩, (e3 j u hj).2⟩, rWt_mk b1 b2 (by_nz hv)⟩
  have := List.mem_of_getElem? hj
  simp only [List.mem_cons, List.not_mem_nil, or_false] at this
  rw [(e3 j u hj).2]
  rcases this with rfl | rfl
  · simp
  · exact fun e => slice_nz hv (hn y (List.mem_of_getElem? hi)) (by simpa using e)
theorem dsk_nz {ok : Addr → Prop} {w : World} {v : Value} {d : Dk} (h : Dsk ok w v d) (h1 : ∀ x ∈ d.1, x ≠ []) (h2 : ∀ x ∈ d.2, x.2 ≠ []) : Dsk (NZ ok w) w v d := by
  obtain ⟨a, b, e, r1, r2⟩ := h
  exact ⟨a, b, e, rows_nz r1 h1, wts_nz r2 h2⟩
theorem full_may {d : Dk} (h : mayB d = true) : (∀ x ∈ d.1, x ≠ []) ∧ (∀ x ∈ d.2, x.2 ≠ []) := by
  obtain ⟨_, _, h1, h2⟩ := may_of h
  refine ⟨fun x hx e => ?_, fun x hx e => ?_⟩
  · obtain ⟨i, hi⟩ := List.getElem?_of_mem hx
    have := h1 i x hi
    rw [e] at this
    cases this
  · obtain ⟨i, hi⟩ := List.getElem?_of_mem hx
    have := (h2 i x hi).2.2
    rw [e] at this
    cases this
end Go.Proofs.Ytncnoingbaeomaa

/-
  A store into a box of noughts turns nothing of a store that may be. Conditions: those that each lemma states.
-/
namespace Go.Proofs.Ytncnoingbaeomaa
open Go.RowKit

theorem nz_apart {W : World} {g : Nat} {cs : Array Value} {t : TypeId} {p : Addr} {u : Value} (hz : W.heap[g]? = some (.cells cs t (0, 0))) (hcs : ∀ c ∈ cs, c = .slice none 0 0) (hc : W.cell? p = some u) (hn : W.cell? p ≠ some (.slice none 0 0)) : p.block ≠ g := fun e => by
  refine hn ?_
  rw [hc]
  unfold World.cell? at hc
  rw [e, hz] at hc
  dsimp only at hc
  split at hc
  · cases hc
  · obtain ⟨hlt, hu⟩ := Array.getElem?_eq_some_iff.1 hc
    rw [← hu]
    exact congrArg some (hcs _ (Array.getElem_mem hlt))
theorem sto_nz {ok : Addr → Prop} {w : World} {v : Value} {s : Rm} (h : Sto ok w v s) (hd : (∀ x ∈ s.1.1, x ≠ []) ∧ (∀ x ∈ s.1.2, x.2 ≠ [])) : Sto (NZ ok w) w v s := by
  obtain ⟨a, b, n, l, e, h1, h2, h3⟩ := h
  exact ⟨a, b, n, l, e, dsk_nz h1 hd.1 hd.2, by_nz h2, by_nz h3⟩
def FullR (s : Rm) : Prop := (∀ x ∈ s.1.1, x ≠ []) ∧ (∀ x ∈ s.1.2, x.2 ≠ [])
theorem full_rm {s : Rm} (h : mayR s = true) : FullR s := full_may (mayR_of h).1
theorem sto_put_zero {W W9 : World} {g : Nat} {cs : Array Value} {t : TypeId} {v : Value} {s : Rm} (h : Sto (Old W) W v s) (hd : FullR s) (hz : W.heap[g]? = some (.cells cs t (0, 0))) (hcs : ∀ c ∈ cs, c = .slice none 0 0) (hg : W.grownBy W9 (some g)) : Sto (Old W9) W9 v s :=
  (sto_nz h hd).map fun p u hp hc => by
    have hn := nz_apart hz hcs hc hp.2
    exact ⟨Nat.lt_of_lt_of_le hp.1 hg.size, (World.cell?_of_block (hg.block _ hp.1 (by simpa using hn))).trans hc⟩
end Go.Proofs.Ytncnoingbaeomaa

/-
  Layer 8: the laws' alive. Conditions: those that each lemma states.
-/
namespace Go.Proofs.Ytncnoingbaeomaa
open Go.RowKit

/-- What is free in a new store, and what Take does to it. -/
theorem new_free : (freeL newR).length = 248 ∧ freeL newR = 8 :: 9 :: (freeL newR).drop 2 := by decide +kernel
theorem may_new : mayR newR = true := mayR_mk may_zero may_zeros may_zeros
theorem new_take {b : List UInt8} (hb : b.length = 128) : tkE newR b = 0 ∧ tkN newR b = 8 ∧ tkK newR = 8 ∧ (tkV newR b).1.1.length = 256 ∧ (tkV newR b).1.2.length = 1 ∧ (tkV newR b).2.1.length = 256 ∧ (tkV newR b).2.2.length = 256 ∧ (tkV newR b).2.1[8]?.getD 0 = 1 := by
  have h0 : tkE newR b = 0 := tk_yes may_new hb (by rw [new_free.2]; simp) (by rw [newR, zero_len2]; omega)
  have hk : tkK newR = 8 := by rw [tkK, new_free.2]; rfl
  obtain ⟨_, _, _, _, _, _, _, _, hN, hV⟩ := tk_ok h0
  have hc := (tk_counts h0).1
  rw [hk] at hN hV hc
  refine ⟨h0, hN, hk, ?_, ?_, ?_, ?_, hc⟩
  · rw [hV, wrD_fst]; exact zero_len1
  · rw [hV, wrD_len]; rfl
  · rw [hV, List.length_set]; exact zeros_length 256
  · rw [hV]; exact zeros_length 256

end Go.Proofs.Ytncnoingbaeomaa

/-
  Nodes made and left, plain: what is counted, what is left, and what follows. Conditions: those that each lemma states.
-/
namespace Go.Proofs.Ytncnoingbaeomaa
open Go.RowKit

/-! ### Refs, counted -/
/-- How often a block is among the Refs. -/
def cntR : List It → Nat → Nat
  | [], _ => 0
  | x :: l, i => (if x.2.1 = (i : Int) then (if x.2.1 = 0 then 0 else 1) else 0) + cntR l i
/-- Refs that are 0, or of a block. -/
def refsOk (l : List It) : Prop := ∀ x ∈ l, x.2.1 = 0 ∨ (8 ≤ x.2.1 ∧ x.2.1 < 256)
theorem refs_cons {x : It} {l : List It} (h : refsOk (x :: l)) : (x.2.1 = 0 ∨ ∃ k : Nat, x.2.1 = k ∧ 8 ≤ k ∧ k < 256) ∧ refsOk l := by
  refine ⟨?_, fun y hy => h y (List.mem_cons_of_mem _ hy)⟩
  rcases h x List.mem_cons_self with h1 | ⟨h1, h2⟩
  · exact .inl h1
  · exact .inr ⟨x.2.1.toNat, by omega, by omega, by omega⟩
theorem refs_may {n : Nd} (h : mayN n = true) : refsOk n.2 := fun x hx => by
  obtain ⟨i, hi⟩ := List.getElem?_of_mem hx
  have hk := (List.getElem?_eq_some_iff.1 hi).1
  simp only [mayN, Bool.and_eq_true, List.all_eq_true] at h
  have h1 := h.2 i (by simpa using hk)
  simp only [okAt, hi, okP, Bool.and_eq_true] at h1
  exact (mayI_of h1.1.1).1
theorem cntR_zero {x : It} {l : List It} (h : x.2.1 = 0) (i : Nat) : cntR (x :: l) i = cntR l i := by
  simp only [cntR, h, if_true]
  split <;> simp
theorem cntR_here {x : It} {l : List It} {k : Nat} (h : x.2.1 = k) (h8 : 8 ≤ k) (i : Nat) : cntR (x :: l) i = (if i = k then 1 else 0) + cntR l i := by
  simp only [cntR, h]
  by_cases e : i = k
  · subst e
    rw [if_pos rfl, if_neg (by omega), if_pos rfl]
  · rw [if_neg (by omega), if_neg e]
theorem cntR_low {l : List It} (h : refsOk l) {i : Nat} (hi : i < 8 ∨ 256 ≤ i) : cntR l i = 0 := by
  induction l with
  | nil => rfl
  | cons x l ih =>
    obtain ⟨h1, h2⟩ := refs_cons h
    rcases h1 with h1 | ⟨k, h1, h8, h256⟩
    · rw [cntR_zero h1, ih h2]
    · rw [cntR_here h1 h8, ih h2, if_neg (by omega)]
/-- Counting goes on: what is wrong, and the counts. -/
def ctE : List UInt8 → List It → Int
  | _, [] => 0
  | t, x :: l => if x.2.1 = 0 then ctE t l else if t[x.2.1.toNat]?.getD 0 = 0 then 6 else if t[x.2.1.toNat]?.getD 0 = 255 then 70 else ctE (t.set x.2.1.toNat (t[x.2.1.toNat]?.getD 0 + 1)) l
def ctV : List UInt8 → List It → List UInt8
  | t, [] => t
  | t, x :: l => if x.2.1 = 0 then ctV t l else ctV (t.set x.2.1.toNat (t[x.2.1.toNat]?.getD 0 + 1)) l
theorem ctV_len : ∀ (l : List It) (t : List UInt8), (ctV t l).length = t.length
  | [], _ => rfl
  | x :: l, t => by
    unfold ctV
    split
    · exact ctV_len l t
    · rw [ctV_len l, List.length_set]
theorem ctE_app : ∀ (a b : List It) (t : List UInt8), ctE t (a ++ b) = if ctE t a = 0 then ctE (ctV t a) b else ctE t a
  | [], b, t => by simp [ctE, ctV]
  | x :: a, b, t => by
    simp only [List.cons_append, ctE, ctV]
    split
    · exact ctE_app a b t
    · split
      · simp
      · split
        · simp
        · exact ctE_app a b _
theorem ctV_app : ∀ (a b : List It) (t : List UInt8), ctV t (a ++ b) = ctV (ctV t a) b
  | [], b, t => rfl
  | x :: a, b, t => by
    simp only [List.cons_append, ctV]
    split
    · exact ctV_app a b t
    · exact ctV_app a b _
theorem up_nat {x : UInt8} (h : x ≠ 255) : (x + 1).toNat = x.toNat + 1 := by
  have := (up_byte h).1
  omega
theorem nat_zero {x : UInt8} : x.toNat = 0 ↔ x = 0 := ⟨fun h => UInt8.toNat_inj.1 (by rw [h]; rfl), fun h => by rw [h]; rfl⟩
/-- What counting asks, and gives. -/
theorem ct_counts : ∀ (l : List It) (t : List UInt8), refsOk l → t.length = 256 → ctE t l = 0 →
    (∀ i, ((ctV t l)[i]?.getD 0).toNat = (t[i]?.getD 0).toNat + cntR l i) ∧ (∀ i, cntR l i ≠ 0 → t[i]?.getD 0 ≠ 0)
  | [], t, _, _, _ => ⟨fun i => by simp [ctV, cntR], fun i h => absurd rfl h⟩
  | x :: l, t, hr, hl, h => by
    obtain ⟨h1, h2⟩ := refs_cons hr
    unfold ctE at h
    unfold ctV
    rcases h1 with h1 | ⟨k, h1, h8, h256⟩
    · rw [if_pos h1] at h ⊢
      obtain ⟨c1, c2⟩ := ct_counts l t h2 hl h
      exact ⟨fun i => by rw [c1 i, cntR_zero h1], fun i hi => c2 i (by rwa [cntR_zero h1] at hi)⟩
    · have e0 : ¬ x.2.1 = 0 := by omega
      have ek : x.2.1.toNat = k := by omega
      rw [if_neg e0, ek] at h
      rw [if_neg e0, ek]
      by_cases hz : t[k]?.getD 0 = 0
      · rw [if_pos hz] at h; cases h
      · by_cases hm : t[k]?.getD 0 = 255
        · rw [if_neg hz, if_pos hm] at h; cases h
        · rw [if_neg hz, if_neg hm] at h
          obtain ⟨c1, c2⟩ := ct_counts l (t.set k (t[k]?.getD 0 + 1)) h2 (by rw [List.length_set, hl]) h
          refine ⟨fun i => ?_, fun i hi => ?_⟩
          · rw [c1 i, cntR_here h1 h8]
            by_cases e : i = k
            · subst e
              rw [set_get (by omega), up_nat hm, if_pos rfl]
              omega
            · rw [set_other e, if_neg e]
              omega
          · by_cases e : i = k
            · subst e; exact hz
            · rw [cntR_here h1 h8, if_neg e, Nat.zero_add] at hi
              have := c2 i hi
              rwa [set_other e] at this
theorem ct_may {t : List UInt8} {l : List It} (hm : mayT t = true) (hr : refsOk l) (h : ctE t l = 0) : mayT (ctV t l) = true := by
  have hl := mayT_len hm
  obtain ⟨c1, _⟩ := ct_counts l t hr hl h
  refine mayT_yes (by rw [ctV_len, hl]) fun j hj => nat_zero.1 ?_
  rw [c1 j, cntR_low hr (.inl hj), mayT_at hm hj]
  rfl
theorem ct_zero {t : List UInt8} {l : List It} (hl : t.length = 256) (hr : refsOk l) (h : ctE t l = 0) (i : Nat) : (ctV t l)[i]?.getD 0 = 0 ↔ t[i]?.getD 0 = 0 := by
  obtain ⟨c1, c2⟩ := ct_counts l t hr hl h
  rw [← nat_zero, c1 i, ← nat_zero (x := t[i]?.getD 0)]
  refine ⟨fun h => by omega, fun h => ?_⟩
  by_cases e : cntR l i = 0
  · omega
  · exact absurd (nat_zero.1 h) (c2 i e)

/-! ### To make -/
/-- A store in which a node's Refs are counted. -/
def ctS (s : Rm) (n : Nd) : Rm := (s.1, ctV s.2.1 n.2, s.2.2)
def mkE (s : Rm) (n : Nd) : Int := if mayR s && mayN n then (if ctE s.2.1 n.2 = 0 then tkE (ctS s n) (blkN n) else ctE s.2.1 n.2) else 8
def mkN (s : Rm) (n : Nd) : Int := if mkE s n = 0 then tkN (ctS s n) (blkN n) else 0
def mkV (s : Rm) (n : Nd) : Rm := if mkE s n = 0 then tkV (ctS s n) (blkN n) else emptyR
theorem mk_no {s : Rm} {n : Nd} (h : mkE s n ≠ 0) : mkN s n = 0 ∧ mkV s n = emptyR := ⟨by rw [mkN, if_neg h], by rw [mkV, if_neg h]⟩
theorem ctS_may {s : Rm} {n : Nd} (hm : mayR s = true) (hn : mayN n = true) (h : ctE s.2.1 n.2 = 0) : mayR (ctS s n) = true := by
  obtain ⟨m1, m2, m3⟩ := mayR_of hm
  exact mayR_mk m1 (ct_may m2 (refs_may hn) h) m3
theorem ctS_free {s : Rm} {n : Nd} (hm : mayR s = true) (hn : mayN n = true) (h : ctE s.2.1 n.2 = 0) : freeL (ctS s n) = freeL s := by
  unfold freeL freeK
  refine List.filter_congr fun i _ => ?_
  have := ct_zero (mayT_len (mayR_of hm).2.1) (refs_may hn) h i
  show (decide ((ctV s.2.1 n.2)[i]?.getD 0 = 0) && _) = (decide (s.2.1[i]?.getD 0 = 0) && _)
  rw [decide_eq_decide.2 this]
  rfl
theorem mk_ok {s : Rm} {n : Nd} (h : mkE s n = 0) : mayR s = true ∧ mayN n = true ∧ ctE s.2.1 n.2 = 0 ∧ tkE (ctS s n) (blkN n) = 0 ∧ mkN s n = tkN (ctS s n) (blkN n) ∧ mkV s n = tkV (ctS s n) (blkN n) := by
  have hN : mkN s n = tkN (ctS s n) (blkN n) := by rw [mkN, if_pos h]
  have hV : mkV s n = tkV (ctS s n) (blkN n) := by rw [mkV, if_pos h]
  unfold mkE at h
  cases hm : mayR s with
  | false => rw [hm] at h; simp at h
  | true =>
    cases hn : mayN n with
    | false => rw [hm, hn] at h; simp at h
    | true =>
      rw [hm, hn] at h
      simp only [Bool.and_self, if_true] at h
      by_cases hc : ctE s.2.1 n.2 = 0
      · rw [if_pos hc] at h
        exact ⟨rfl, rfl, hc, h, hN, hV⟩
      · rw [if_neg hc] at h
        exact absurd h hc
/-- What a node that is made leaves. -/
theorem mk_counts {s : Rm} {n : Nd} (h : mkE s n = 0) : ∃ k : Nat, mkN s n = k ∧ 8 ≤ k ∧ k < 256 ∧ s.2.1[k]?.getD 0 = 0 ∧ s.2.2[k]?.getD 0 = 0 ∧ cntR n.2 k = 0 ∧ mkV s n = (wrD s.1 k (blkN n), (ctV s.2.1 n.2).set k 1, s.2.2) ∧ mayR (mkV s n) = true ∧
    (mkV s n).2.1[k]?.getD 0 = 1 ∧ (∀ i, i ≠ k → ((mkV s n).2.1[i]?.getD 0).toNat = (s.2.1[i]?.getD 0).toNat + cntR n.2 i) ∧ (∀ i, cntR n.2 i ≠ 0 → s.2.1[i]?.getD 0 ≠ 0) ∧ (mkV s n).2.1.length = 256 ∧ s.2.1.length = 256 := by
  obtain ⟨hm, hn, hc, ht, e1, e2⟩ := mk_ok h
  obtain ⟨_, _, _, _, h8, h256, hz, hz2, hN, hV⟩ := tk_ok ht
  have hl := mayT_len (mayR_of hm).2.1
  have hr := refs_may hn
  obtain ⟨c1, c2⟩ := ct_counts n.2 s.2.1 hr hl hc
  generalize tkK (ctS s n) = k at *
  have z1 : s.2.1[k]?.getD 0 = 0 := (ct_zero hl hr hc k).1 hz
  have z2 : cntR n.2 k = 0 := by
    by_cases e : cntR n.2 k = 0
    · exact e
    · exact absurd z1 (c2 k e)
  have hV' : mkV s n = (wrD s.1 k (blkN n), (ctV s.2.1 n.2).set k 1, s.2.2) := by rw [e2, hV]; rfl
  refine ⟨k, by rw [e1, hN], h8, h256, z1, hz2, z2, hV', by rw [e2]; exact tk_may ht, ?_, fun i hi => ?_, c2, ?_, hl⟩
  · rw [hV']; exact set_get (by rw [ctV_len]; omega)
  · rw [hV']
    show (((ctV s.2.1 n.2).set k 1)[i]?.getD 0).toNat = _
    rw [set_other hi]
    exact c1 i
  · rw [hV']
    show ((ctV s.2.1 n.2).set k 1).length = _
    rw [List.length_set, ctV_len, hl]

/-! ### To leave -/
/-- No count is more than it was. -/
structure LeT (u t : List UInt8) : Prop where
  len : u.length = t.length
  le : ∀ i : Nat, (u[i]?.getD 0).toNat ≤ (t[i]?.getD 0).toNat
theorem LeT.refl (t : List UInt8) : LeT t t := ⟨rfl, fun _ => Nat.le_refl _⟩
theorem LeT.trans {a b c : List UInt8} (h : LeT a b) (h' : LeT b c) : LeT a c := ⟨h.len.trans h'.len, fun i => Nat.le_trans (h.le i) (h'.le i)⟩
theorem LeT.may {u t : List UInt8} (h : LeT u t) (hm : mayT t = true) : mayT u = true :=
  mayT_yes (by rw [h.len]; exact mayT_len hm) fun j hj => by
    have h1 := h.le j
    rw [mayT_at hm hj] at h1
    exact nat_zero.1 (by simpa using h1)
/-! ### What follows -/
theorem as_yes {s : Rm} {k : Nat} (hm : mayR s = true) (h8 : 8 ≤ k) (h : k < 256) (hx : s.2.1[k]?.getD 0 ≠ 0) : asE s k = 0 := by
  have hin := inT_of h8 h
  have h1 : ¬ s.2.1[((k : Int)).toNat]?.getD 0 = 0 := by
    rw [show ((k : Int)).toNat = k by omega]
    exact hx
  rw [asE, hm, if_pos rfl, hin, if_pos rfl, if_neg h1]
theorem rm_yes {s : Rm} {k : Nat} {n : Nd} (ha : asE s k = 0) (hb : seenD s.1 k = blkN n) (hn : mayN n = true) (hi : InN n) : rmE s k = 0 ∧ rmV s k = n := by
  obtain ⟨r1, r2⟩ := read_blkN hn hi
  constructor
  · rw [rmE, if_pos ha, show ((k : Int)).toNat = k by omega, hb, r1]
  · rw [rmV, if_pos ha, show ((k : Int)).toNat = k by omega, hb, r2]
end Go.Proofs.Ytncnoingbaeomaa

/-
  The document's leaf, and package find's held. Conditions: those that each lemma states.
-/
namespace Go.Proofs.Ytncnoingbaeomaa
open Go.RowKit

/-- A Ref of a leaf's item, looked up. -/
theorem leaf_ref {s : Rm} {l : List It} {i : Nat} {x : It} {r : Nat} {y : UInt8} (hx : l[i]? = some x) (hr : x.2.1 = (r : Int)) (h0 : r ≠ 0) (hy : s.2.1[r]?.getD 0 = y) : leafO s (l.take (i + 1)) = (leafO s (l.take i) && decide (y ≠ 0)) := by
  rw [leaf_take hx, hr]
  have : ¬ ((r : Nat) : Int) = 0 := by omega
  rw [decide_eq_false this, Bool.false_or, show ((r : Nat) : Int).toNat = r by omega, hy]
theorem leaf_none {s : Rm} {l : List It} {i : Nat} {x : It} (hx : l[i]? = some x) (hr : x.2.1 = 0) : leafO s (l.take (i + 1)) = leafO s (l.take i) := by
  rw [leaf_take hx, hr]
  simp

/-- The first item of a row. -/
theorem its_first {w : World} {A : Option Addr} {n c : Nat} {xs : List It} {s : It} (h : rIts (Old w) w [.slice A n c] xs) (hk : xs[0]? = some s) :
    ∃ ad E ce, A = some ad ∧ InI s ∧ ∀ W, Below w.heap.size w W → At5 W ad s (.slice E s.2.2.length ce) ∧ Itm (Old W) W (itV s (.slice E s.2.2.length ce)) s := by
  obtain ⟨ad, E, ce, e, _, _, h1, F⟩ := its_old h hk
  have e0 : ad.add (0 * 5) = ad := by simp [Addr.add]
  rw [e0] at F
  exact ⟨ad, E, ce, e, h1, F⟩

end Go.Proofs.Ytncnoingbaeomaa

/-
  Package find: held. Conditions: those that each lemma states.
-/
namespace Go.Proofs.Ytncnoingbaeomaa
open Go.RowKit

set_option maxRecDepth 100000 in
set_option maxHeartbeats 4000000 in
theorem held_any (v u : Value) (s : Rm) (hm : mayR s = true) (n : Nd) (hn : mayN n = true) (w : World) (h : Sto (Old w) w v s) (hu : Nod (Old w) w u n) :
    Calls Try.prog 53 #[v, u] w fun e w' => e = .returned (.bool (leafO s n.2)) ∧ Below w.heap.size w w' := by
  have hrf := Lib.hid (refs_may hn)
  have hls := Lib.hid (mayT_len (mayR_of hm).2.1)
  obtain ⟨A, ca, B, cb, N, cn, L, cl, rfl, _⟩ := id h.open
  obtain ⟨I, ci, rfl, -, -, -, hI⟩ := id hu.open
  obtain ⟨lw, hlw⟩ : ∃ q, n.1 = q := ⟨_, rfl⟩
  obtain ⟨l, hl⟩ : ∃ q, n.2 = q := ⟨_, rfl⟩
  obtain ⟨m, hlm⟩ : ∃ q, l.length = q := ⟨_, rfl⟩
  rw [hl] at hrf
  rw [hl, hlm] at hI
  rw [hl, hlw, hlm]
  have hm5 : m ≤ 5 := by
    have := (mayN_of hn).1.2.2.1
    rw [hl, hlm] at this
    exact this
  obtain ⟨ad, ld, rfl, rfl, -, -, -, -, had, -, hc⟩ := tables_at hm h.parts.2.1 h.parts.2.2
  have HG0 : Bag w [OldIs (.slice I m ci) l, OldR (.agg #[.slice A s.1.1.length ca, .slice B s.1.2.length cb, .slice (some ad) s.2.1.length cn, .slice (some ld) s.2.2.length cl]) s] := ((Bag.nil w).add (F := OldR _ s) h (lasts_oldR _ _)).add (F := OldIs _ l) hI (lasts_oldIs _ _)
  obtain ⟨w0, hw0, hg0, hB0, _, hs0⟩ := bag_four HG0 (Below.refl _ _) (.slice A s.1.1.length ca) (.slice B s.1.2.length cb) (.slice (some ad) s.2.1.length cn) (.slice (some ld) s.2.2.length cl) 29
  obtain ⟨w1, hw1, hg1, hB1, _, hs1⟩ := bag_node hg0 (Below.refl _ _) (.int .i64 lw) (.slice I m ci)
  have HG := Lib.hid hg1
  have BB := Lib.hid (hB0.trans (hB1.mono hB0.size))
  have cS : Hid (∀ j, j < 256 → ∀ W, Below w1.heap.size w1 W → W.cell? (ad.add j) = some (.int .u8 ((s.2.1[j]?.getD 0).toNat : Int))) := Lib.hid fun j hj W hW =>
    ((BB.out.trans (hW.mono BB.out.size)).cell (by rw [add_block]; exact had)).trans (hc j hj).1
  obtain ⟨y0, y1, _⟩ := hg1.at 0 rfl
  replace hs1 := Lib.hid hs1
  replace hs0 := Lib.hid hs0
  replace hlw := Lib.hid hlw
  replace hl := Lib.hid hl
  replace hlm := Lib.hid hlm
  clear HG0 hg1 hg0 h hu hB1 hB0 hc hI
  go_enter Try.func53, Try.ntmps53
  go_upto_region 1 with fail
  clear hw1 hw0
  go_wp2_with fail
  clear y0 y1
  go_loopw [10] (fun vi wr => ∃ k : Nat, k ≤ m ∧ vi = .int .i64 k ∧ leafO s (l.take k) = true ∧ Below w1.heap.size w1 wr) (fun vi _ => m - (intOf vi).toNat)
  case atStart => exact ⟨0, by omega, rfl, rfl, Below.refl _ _⟩
  case round =>
    obtain ⟨k, hk, rfl, hE, hbr⟩ := hrel
    have HR := Lib.hid (HG.out.below hbr)
    have BR := Lib.hid (BB.out.trans (hbr.mono BB.out.size))
    by_cases hlt : k < m
    case neg =>
      have hf : Hid (leafO s l = true) := Lib.hid (by rw [← hE, List.take_of_length_le (by rw [hlm.out]; omega)])
      clear hE hbr
      go_wp2_with fail
      go_ret
      exact ⟨ret_bool hf.out.symm, BR.out⟩
    obtain ⟨x, hx⟩ : ∃ x, l[k]? = some x := ⟨_, List.getElem?_eq_getElem (by rw [hlm.out]; exact hlt)⟩
    have hxr := hrf.out x (List.mem_of_getElem? hx)
    have hIt : rIts (Old wr) wr [.slice I m ci] l := HR.out.at 2 rfl
    obtain ⟨a5, E5, ce5, rfl, _, _, _, FX⟩ := its_old hIt hx
    obtain ⟨⟨z0, z1, z2, z3, z4⟩, _⟩ := FX wr (Below.refl _ _)
    obtain ⟨w2, hw2, r0, r1, r2, r3, r4, hs2, hB2, _⟩ := box_five wr (.int .u8 (x.1.1.toNat : Int)) (.int .u32 x.1.2.1) (.int .u32 x.1.2.2) (.int .i64 x.2.1) (.slice E5 x.2.2.length ce5) 39
    have B2 := Lib.hid (hbr.trans (hB2.mono hbr.size))
    have H2 := Lib.hid (HR.out.below hB2)
    have BF := Lib.hid (BB.out.trans (B2.out.mono BB.out.size))
    replace hs2 := Lib.hid hs2
    clear FX hIt hB2
    go_upto_region 4 with fail
    clear hw2 z0 z1 z2 z3 z4
    obtain ⟨k0, k1, k2, k3, _⟩ := H2.out.at 1 rfl
    rw [hls.out] at k2
    have i4 : (0 : Int) ≤ (k : Int) := by omega
    have i5 : (k : Int) < (m : Int) := by omega
    obtain ⟨z, hzz⟩ : ∃ z, x.2.1 = z := ⟨_, rfl⟩
    rw [hzz] at r3 hxr
    by_cases hz0 : z = 0
    · subst hz0
      have hst : Hid (leafO s (l.take (k + 1)) = true) := Lib.hid (by rw [leaf_none hx hzz, hE])
      replace hx := Lib.hid hx
      replace hzz := Lib.hid hzz
      clear hE hxr
      replace hbr := Lib.hid hbr
      go_wp2_with fail
      go_roundw
      case rel => exact ⟨k + 1, by omega, by go_num, hst.out, B2.out⟩
      case measure => simp [intOf]; omega
    · obtain ⟨r, hr, r8, r256⟩ : ∃ r : Nat, z = r ∧ 8 ≤ r ∧ r < 256 := ⟨z.toNat, by omega, by omega, by omega⟩
      subst hr
      have hcell := cS.out r r256 w2 B2.out
      obtain ⟨y, hy⟩ : ∃ y, s.2.1[r]?.getD 0 = y := ⟨_, rfl⟩
      have hst := leaf_ref hx hzz (by omega) hy
      rw [hE, Bool.true_and] at hst
      rw [hy] at hcell
      have j0 : (0 : Int) ≤ (r : Int) := by omega
      have j1 : r < 256 := r256
      have j2 : ¬ r = 0 := by omega
      replace hbr := Lib.hid hbr
      replace hzz := Lib.hid hzz
      replace hy := Lib.hid hy
      clear hE hxr hz0
      by_cases hy0 : y = 0
      · have t0 := byte_same (y := 0) (q := 0) rfl hy0
        have hf : Hid (leafO s l = false) := Lib.hid (leaf_bad (i := k + 1) (by rw [hst]; simp [hy0]))
        replace hx := Lib.hid hx
        clear hst hy0
        go_wp2_with fail
        go_ret
        exact ⟨ret_bool hf.out.symm, BF.out⟩
      · have t0 := byte_unlike (y := 0) (q := 0) rfl hy0
        replace hst : Hid (leafO s (l.take (k + 1)) = true) := Lib.hid (by rw [hst]; simpa using hy0)
        replace hx := Lib.hid hx
        clear hy0
        go_wp2_with fail
        go_roundw
        case rel => exact ⟨k + 1, by omega, by go_num, hst.out, B2.out⟩
        case measure => simp [intOf]; omega
end Go.Proofs.Ytncnoingbaeomaa

/-
  Trees that stay where other blocks are taken, or counts rise; plain. Conditions: those that each lemma states.
-/
namespace Go.Proofs.Ytncnoingbaeomaa
open Go.RowKit

theorem its_mem {f : Int → Ky → Ky → Bool → Bool} : ∀ {l : List It} {tb : Ky} {e : Bool}, itsO f l tb e = true → ∀ x ∈ l, ∃ t e, f x.2.1 x.1 t e = true
  | [], _, _, _, x, hx => by simp at hx
  | y :: r, tb, e, hf, x, hx => by
    rw [its_cons, Bool.and_eq_true] at hf
    rcases List.mem_cons.1 hx with rfl | hx
    · exact ⟨_, _, hf.1⟩
    · exact its_mem hf.2 x hx
end Go.Proofs.Ytncnoingbaeomaa

/-
  Trees by their first and last keys, plain: which may be. Conditions: those that each lemma states.
-/
namespace Go.Proofs.Ytncnoingbaeomaa
open Go.RowKit

/-- Parts side by side: each begins at its item's key and ends ahead of the next one's. -/
def chainO (g : Int → Option (Ky × Ky)) : List It → Option (Ky × Ky)
  | [] => none
  | [x] => (g x.2.1).bind fun p => if p.1 = x.1 then some p else none
  | x :: y :: r => (g x.2.1).bind fun p => (chainO g (y :: r)).bind fun q => if p.1 = x.1 ∧ lessK p.2 y.1 = true then some (p.1, q.2) else none
/-- The first key and the last one of a part of a tree that may be. -/
noncomputable def spanO (s : Rm) : Nat → Int → Option (Ky × Ky)
  | 0, a => if rmE s a = 0 ∧ (rmV s a).1 = 0 ∧ leafO s (rmV s a).2 = true then ((rmV s a).2[0]?).bind fun x => ((rmV s a).2.getLast?).map fun y => (x.1, y.1) else none
  | l + 1, a => if rmE s a = 0 ∧ (rmV s a).1 = ((l + 1 : Nat) : Int) then chainO (spanO s l) (rmV s a).2 else none

def LeK (a b : Ky) : Prop := a = b ∨ lessK a b = true
theorem LeK.lt {a b c : Ky} (h : LeK a b) (h' : lessK b c = true) : lessK a c = true := h.elim (fun e => by rw [e]; exact h') fun h => less_trans h h'
theorem LeK.trans {a b c : Ky} (h : LeK a b) (h' : LeK b c) : LeK a c := h'.elim (fun e => e ▸ h) fun h' => .inr (h.lt h')
theorem chain_first {g : Int → Option (Ky × Ky)} (hg : ∀ a p, g a = some p → LeK p.1 p.2) : ∀ {l : List It} {p : Ky × Ky}, chainO g l = some p → LeK p.1 p.2 ∧ ∃ x r, l = x :: r ∧ p.1 = x.1
  | [], _, h => by cases h
  | [x], p, h => by
    unfold chainO at h
    cases hx : g x.2.1 with
    | none => rw [hx] at h; cases h
    | some q =>
      rw [hx] at h
      have h' : (if q.1 = x.1 then some q else none) = some p := h
      split at h'
      · rename_i e
        cases h'
        exact ⟨hg _ _ hx, x, [], rfl, e⟩
      · cases h'
  | x :: y :: r, p, h => by
    unfold chainO at h
    cases hx : g x.2.1 with
    | none => rw [hx] at h; cases h
    | some q =>
      rw [hx] at h
      cases hc : chainO g (y :: r) with
      | none => rw [hc] at h; cases h
      | some q' =>
        rw [hc] at h
        have h' : (if q.1 = x.1 ∧ lessK q.2 y.1 = true then some (q.1, q'.2) else none) = some p := h
        obtain ⟨i1, y', r', e', i2⟩ := chain_first hg hc
        cases e'
        split at h'
        · rename_i e
          cases h'
          refine ⟨.inr ?_, x, y :: r, rfl, e.1⟩
          have h1 : lessK q.1 y.1 = true := (hg _ _ hx).lt e.2
          rw [← i2] at h1
          exact i1.elim (fun e => e ▸ h1) fun h2 => less_trans h1 h2
        · cases h'
theorem span_le (s : Rm) : ∀ (l : Nat) (a : Int) (p : Ky × Ky), spanO s l a = some p → LeK p.1 p.2
  | 0, a, p, h => by
    unfold spanO at h
    split at h
    · rename_i hc
      have hu := up_may (rm_may hc.1).1
      cases hl : (rmV s a).2 with
      | nil => rw [hl] at h; cases h
      | cons x r =>
        rw [hl] at h hu
        cases hz : (x :: r).getLast? with
        | none => rw [hz] at h; cases h
        | some z =>
          rw [hz] at h
          cases h
          rcases up_first hu z (List.mem_of_getLast? hz) with e | e
          · exact .inl e.symm
          · exact .inr e
    · cases h
  | l + 1, a, p, h => by
    unfold spanO at h
    split at h
    · exact (chain_first (span_le s l) h).1
    · cases h
theorem its_chain {f : Int → Ky → Ky → Bool → Bool} {g : Int → Option (Ky × Ky)} (hle : ∀ a p, g a = some p → LeK p.1 p.2) (hfg : ∀ a k tb e, f a k tb e = true ↔ ∃ t, g a = some (k, t) ∧ (e = true → lessK t tb = true)) : ∀ (l : List It) (tb : Ky) (e : Bool), l ≠ [] →
    (itsO f l tb e = true ↔ ∃ p, chainO g l = some p ∧ (e = true → lessK p.2 tb = true))
  | [], _, _, h => absurd rfl h
  | [x], tb, e, _ => by
    show f x.2.1 x.1 tb e = true ↔ _
    rw [hfg]
    unfold chainO
    constructor
    · rintro ⟨t, h1, h2⟩
      exact ⟨(x.1, t), by rw [h1]; simp, h2⟩
    · rintro ⟨p, h1, h2⟩
      cases hx : g x.2.1 with
      | none => rw [hx] at h1; cases h1
      | some q =>
        rw [hx] at h1
        have h' : (if q.1 = x.1 then some q else none) = some p := h1
        split at h'
        · rename_i e1
          cases h'
          exact ⟨p.2, by rw [← e1], h2⟩
        · cases h'
  | x :: y :: r, tb, e, _ => by
    have ih := its_chain hle hfg (y :: r) tb e (by simp)
    show (f x.2.1 x.1 y.1 true && itsO f (y :: r) tb e) = true ↔ _
    rw [Bool.and_eq_true, hfg, ih]
    constructor
    · rintro ⟨⟨t, h1, h2⟩, p, h3, h4⟩
      refine ⟨(x.1, p.2), ?_, h4⟩
      unfold chainO
      rw [h1, h3]
      simp [h2 rfl]
    · rintro ⟨p, h1, h2⟩
      unfold chainO at h1
      cases hx : g x.2.1 with
      | none => rw [hx] at h1; cases h1
      | some q =>
        rw [hx] at h1
        cases hc : chainO g (y :: r) with
        | none => rw [hc] at h1; cases h1
        | some q' =>
          rw [hc] at h1
          have h' : (if q.1 = x.1 ∧ lessK q.2 y.1 = true then some (q.1, q'.2) else none) = some p := h1
          split at h'
          · rename_i e1
            cases h'
            exact ⟨⟨q.2, by rw [← e1.1], fun _ => e1.2⟩, q', rfl, h2⟩
          · cases h'
/-- A part of a tree that may be, by its first key and its last one. -/
theorem right_span (s : Rm) : ∀ (l : Nat) (a : Int) (k tb : Ky) (e : Bool), rightO s l a k tb e = true ↔ ∃ t, spanO s l a = some (k, t) ∧ (e = true → lessK t tb = true)
  | 0, a, k, tb, e => by
    constructor
    · intro h
      obtain ⟨h1, h2, h3, h4⟩ := right_of h
      obtain ⟨x, r, hl, ek, hz⟩ := head_of h3
      obtain ⟨z, hz1⟩ : ∃ z, (rmV s a).2.getLast? = some z := by
        rw [hl]
        exact ⟨_, List.getLast?_eq_some_getLast (by simp)⟩
      refine ⟨z.1, ?_, fun he => ?_⟩
      · unfold spanO
        rw [if_pos ⟨h1, h2, h4⟩, hz1, show (rmV s a).2[0]? = some x by rw [hl]; rfl, ← ek]
        rfl
      · obtain ⟨z', e1, e2⟩ := hz he
        rw [hz1] at e1
        cases e1
        exact e2
    · rintro ⟨t, h1, h2⟩
      unfold spanO at h1
      split at h1
      · rename_i hc
        unfold rightO
        cases hx : (rmV s a).2[0]? with
        | none => rw [hx] at h1; cases h1
        | some x =>
          cases hz : (rmV s a).2.getLast? with
          | none => rw [hx, hz] at h1; cases h1
          | some z =>
            rw [hx, hz] at h1
            have h1' : (some (x.1, z.1) : Option (Ky × Ky)) = some (k, t) := h1
            simp only [Option.some.injEq, Prod.mk.injEq] at h1'
            have hh : headO (rmV s a).2 k tb e = true := by
              unfold headO
              rw [hx, hz]
              cases e with
              | false => simp [h1'.1]
              | true => simp [h1'.1, h1'.2, h2 rfl]
            rw [hc.1, hc.2.1, hc.2.2, hh]
            decide
      · cases h1
  | l + 1, a, k, tb, e => by
    have hc := its_chain (span_le s l) (fun a k tb e => right_span s l a k tb e) (rmV s a).2 tb e
    constructor
    · intro h
      obtain ⟨h1, h2, h3, h4⟩ := right_of h
      obtain ⟨x, r, hl, ek, _⟩ := head_of h3
      obtain ⟨p, hp, hb⟩ := (hc (by rw [hl]; simp)).1 h4
      obtain ⟨_, x', r', e', hf⟩ := chain_first (span_le s l) hp
      rw [hl] at e'
      cases e'
      refine ⟨p.2, ?_, hb⟩
      unfold spanO
      rw [if_pos ⟨h1, h2⟩, hp, ← ek, ← hf]
    · rintro ⟨t, h1, h2⟩
      unfold spanO at h1
      split at h1
      · rename_i hcond
        obtain ⟨_, x, r, hl, hf⟩ := chain_first (span_le s l) h1
        have hi := (hc (by rw [hl]; simp)).2 ⟨(k, t), h1, h2⟩
        have hh : headO (rmV s a).2 k tb e = true := by
          cases e with
          | false =>
            unfold headO
            rw [hl]
            simp [← hf]
          | true =>
            obtain ⟨x', r', e', hp⟩ := part_its (right_part s l) (rmV s a).2 tb true (by rw [hl]; simp) hi
            obtain ⟨z, hz1⟩ : ∃ z, (rmV s a).2.getLast? = some z := by
              rw [hl]
              exact ⟨_, List.getLast?_eq_some_getLast (by simp)⟩
            -- the last item's own part begins at its key, ahead of the bound
            obtain ⟨t', e2, hf2⟩ := its_mem hi z (List.mem_of_getLast? hz1)
            obtain ⟨y, r2, ey, ky⟩ := (right_part s l _ _ _ _ hf2).first
            have hy := hp.bound rfl y (List.mem_flatMap.2 ⟨z, List.mem_of_getLast? hz1, by rw [ey]; simp⟩)
            rw [ky] at hy
            unfold headO
            rw [hz1, show (rmV s a).2[0]? = some x by rw [hl]; rfl]
            simp [← hf, hy]
        unfold rightO
        rw [hcond.1, hcond.2, hh, hi]
        simp
      · cases h1
/-- Which trees may be: a leaf, or parts side by side. -/
theorem tree_span (s : Rm) (a : Int) : treeO s a = true ↔ rmE s a = 0 ∧ (match (rmV s a).1.toNat with | 0 => leafO s (rmV s a).2 = true | l + 1 => ∃ p, chainO (spanO s l) (rmV s a).2 = some p) := by
  constructor
  · intro h
    obtain ⟨h1, _, hm, l0, _, hi⟩ := tree_of h
    refine ⟨h1, ?_⟩
    unfold innerO at hi
    cases hl : (rmV s a).1.toNat with
    | zero => rw [hl] at hi; exact hi
    | succ l =>
      rw [hl] at hi
      have hne : (rmV s a).2 ≠ [] := fun e => by
        have := (mayN_of hm).1.2.2.2 (by omega)
        rw [e] at this
        simp at this
      obtain ⟨p, hp, _⟩ := (its_chain (span_le s l) (fun a k tb e => right_span s l a k tb e) _ keyZ false hne).1 hi
      exact ⟨p, hp⟩
  · rintro ⟨h1, h2⟩
    unfold treeO
    rw [h1]
    unfold innerO
    cases hl : (rmV s a).1.toNat with
    | zero => rw [hl] at h2; simp only [h2]; rfl
    | succ l =>
      rw [hl] at h2
      obtain ⟨p, hp⟩ := h2
      obtain ⟨_, x, r, e, _⟩ := chain_first (span_le s l) hp
      have := (its_chain (span_le s l) (fun a k tb e => right_span s l a k tb e) (rmV s a).2 keyZ false (by rw [e]; simp)).2 ⟨p, hp, fun h => by cases h⟩
      simp only [this]
      rfl
end Go.Proofs.Ytncnoingbaeomaa

/-
  What is found, as package find and the document go down; parts of a tree by its node; plain. Conditions: those that each lemma states.
-/
namespace Go.Proofs.Ytncnoingbaeomaa
open Go.RowKit

/-! ### From the last one on -/
theorem rev_step {p : It → Bool} {l : List It} {k : Nat} {x : It} (hx : l[k]? = some x) : (l.take (k + 1)).reverse.find? p = if p x = true then some x else (l.take k).reverse.find? p := by
  have hk := (List.getElem?_eq_some_iff.1 hx).1
  have hg : l[k] = x := (List.getElem?_eq_some_iff.1 hx).2
  rw [← List.take_append_getElem hk, hg, List.reverse_append, List.reverse_singleton, List.singleton_append, List.find?_cons]
  cases p x <;> rfl
theorem rev_at {p : It → Bool} {l : List It} {j : Nat} {x : It} (hx : l[j]? = some x) (h1 : p x = true) (h2 : ∀ i y, j < i → l[i]? = some y → p y = false) : l.reverse.find? p = some x := by
  have e : l.reverse.find? p = (l.take (j + 1)).reverse.find? p := by
    conv => lhs; rw [← List.take_append_drop (j + 1) l, List.reverse_append, List.find?_append]
    rw [find_none (l := l.drop (j + 1)) fun y hy => by
      obtain ⟨i, hi⟩ := List.getElem?_of_mem hy
      rw [List.getElem?_drop] at hi
      exact h2 (j + 1 + i) y (by omega) hi]
    rfl
  rw [e, rev_step hx, if_pos h1]
theorem place_below {n : Nd} (h : mayN n = true) {k : Ky} {x : It} (ht : thereN n k = true) (hx : n.2[placeN n k]? = some x) : x.1 = k ∧ (n.2.reverse.find? fun x => !lessK k x.1) = some x ∧ (n.2.reverse.find? fun x => decide (x.1 = k)) = some x := by
  have e : x.1 = k := by
    rw [thereN_at hx] at ht
    simpa using ht
  have hup : ∀ i y, placeN n k < i → n.2[i]? = some y → lessK k y.1 = true := fun i y hi hy => by
    rw [← e]
    exact mayN_rises h hi hx hy
  refine ⟨e, rev_at hx (by rw [e, less_self]; rfl) fun i y hi hy => by rw [hup i y hi hy]; rfl, rev_at hx (by simpa using e) fun i y hi hy => ?_⟩
  have h1 := hup i y hi hy
  have : y.1 ≠ k := fun e2 => by rw [e2, less_self] at h1; cases h1
  simpa using this
theorem place_miss {n : Nd} (h : mayN n = true) {k : Ky} (ht : thereN n k = false) : (n.2.reverse.find? fun x => decide (x.1 = k)) = none := find_none fun x hx => by
  obtain ⟨i, hi⟩ := List.getElem?_of_mem hx
  have : x.1 ≠ k := fun e => by
    have := (place_own h hi).2
    rw [e, ht] at this
    cases this
  simpa using this
theorem place_behind {n : Nd} (h : mayN n = true) {k : Ky} (ht : thereN n k = false) {i : Nat} {y : It} (hi : placeN n k ≤ i) (hy : n.2[i]? = some y) : lessK k y.1 = true := by
  have h1 := place_parts h (k := k) hy
  rw [decide_eq_false (by omega)] at h1
  have hne : y.1 ≠ k := fun e => by
    have := (place_own h hy).2
    rw [e, ht] at this
    cases this
  exact less_total hne h1
theorem place_ahead {n : Nd} (h : mayN n = true) {k : Ky} {j : Nat} {x : It} (ht : thereN n k = false) (hj : placeN n k = j + 1) (hx : n.2[j]? = some x) : (n.2.reverse.find? fun x => !lessK k x.1) = some x := by
  have h1 := place_parts h (k := k) hx
  rw [decide_eq_true (by omega)] at h1
  refine rev_at hx (by rw [less_anti h1]; rfl) fun i y hi hy => ?_
  rw [place_behind h ht (by omega) hy]
  rfl
theorem place_none {n : Nd} (h : mayN n = true) {k : Ky} (ht : thereN n k = false) (hj : placeN n k = 0) : (n.2.reverse.find? fun x => !lessK k x.1) = none := find_none fun y hy => by
  obtain ⟨i, hi⟩ := List.getElem?_of_mem hy
  rw [place_behind h ht (by omega) hi]
  rfl
theorem place_in {n : Nd} {k : Ky} (ht : thereN n k = true) : placeN n k < n.2.length := by
  rcases Nat.lt_or_ge (placeN n k) n.2.length with h | h
  · exact h
  · rw [thereN_out h] at ht
    cases ht

/-! ### A node of a tree -/
structure AtT (s : Rm) (l : Nat) (a : Int) : Prop where
  ok : rmE s a = 0
  lvl : (rmV s a).1 = (l : Int)
  below : ∀ j, l = j + 1 → ∀ x ∈ (rmV s a).2, ∃ t e, rightO s j x.2.1 x.1 t e = true
theorem AtT.may {s : Rm} {l : Nat} {a : Int} (h : AtT s l a) : mayN (rmV s a) = true := (rm_may h.ok).1
theorem right_at {s : Rm} {l : Nat} {a : Int} {k tb : Ky} {e : Bool} (h : rightO s l a k tb e = true) : AtT s l a := by
  obtain ⟨h1, h2, _, h4⟩ := right_of h
  refine ⟨h1, h2, fun j hj x hx => ?_⟩
  subst hj
  exact its_mem h4 x hx
theorem AtT.down {s : Rm} {j : Nat} {a : Int} (h : AtT s (j + 1) a) {x : It} (hx : x ∈ (rmV s a).2) : AtT s j x.2.1 := by
  obtain ⟨t, e, hr⟩ := h.below j rfl x hx
  exact right_at hr
theorem tree_at {s : Rm} {a : Int} (h : treeO s a = true) : AtT s (rmV s a).1.toNat a := by
  obtain ⟨h1, _, _, l0, _, hi⟩ := tree_of h
  refine ⟨h1, by omega, fun j hj x hx => ?_⟩
  unfold innerO at hi
  rw [hj] at hi
  exact its_mem hi x hx
theorem oneO_zero (s : Rm) (a : Int) (k : Ky) : oneO s 0 a k = (rmV s a).2.reverse.find? fun x => decide (x.1 = k) := rfl
theorem oneO_succ (s : Rm) (l : Nat) (a : Int) (k : Ky) : oneO s (l + 1) a k = ((rmV s a).2.reverse.find? fun x => !lessK k x.1).bind fun x => oneO s l x.2.1 k := rfl

/-! ### Parts by their nodes -/
noncomputable def spanN (s : Rm) (n : Nd) : Option (Ky × Ky) := match n.1.toNat with
  | 0 => if leafO s n.2 = true then (n.2[0]?).bind fun x => (n.2.getLast?).map fun y => (x.1, y.1) else none
  | l + 1 => chainO (spanO s l) n.2
theorem span_node (s : Rm) (l : Nat) (a : Int) : spanO s l a = if rmE s a = 0 ∧ (rmV s a).1 = (l : Int) then spanN s (rmV s a) else none := by
  cases l with
  | zero =>
    unfold spanO
    by_cases h1 : rmE s a = 0 ∧ (rmV s a).1 = ((0 : Nat) : Int)
    · rw [if_pos h1]
      unfold spanN
      rw [h1.2]
      by_cases h2 : leafO s (rmV s a).2 = true
      · rw [if_pos ⟨h1.1, rfl, h2⟩]
        show _ = if leafO s (rmV s a).2 = true then _ else none
        rw [if_pos h2]
      · rw [if_neg (fun h => h2 h.2.2)]
        show _ = if leafO s (rmV s a).2 = true then _ else none
        rw [if_neg h2]
    · rw [if_neg h1, if_neg (fun h => h1 ⟨h.1, h.2.1⟩)]
  | succ l =>
    unfold spanO
    by_cases h1 : rmE s a = 0 ∧ (rmV s a).1 = ((l + 1 : Nat) : Int)
    · rw [if_pos h1, if_pos h1]
      unfold spanN
      rw [h1.2, show ((l + 1 : Nat) : Int).toNat = l + 1 by omega]
    · rw [if_neg h1, if_neg h1]
theorem span_zero {s : Rm} {n : Nd} {x y : It} {j : Nat} (h : n.1 = 0) (hx : n.2[0]? = some x) (hj : n.2.length = j + 1) (hy : n.2[j]? = some y) : spanN s n = if leafO s n.2 = true then some (x.1, y.1) else none := by
  have hl : n.2.getLast? = some y := by rw [List.getLast?_eq_getElem?, hj]; exact hy
  unfold spanN
  rw [h]
  show (if leafO s n.2 = true then _ else none) = _
  rw [hx, hl]
  rfl
theorem span_succ {s : Rm} {n : Nd} {l : Nat} (h : n.1 = ((l + 1 : Nat) : Int)) : spanN s n = chainO (spanO s l) n.2 := by
  unfold spanN
  rw [h, show ((l + 1 : Nat) : Int).toNat = l + 1 by omega]
/-- The first one. -/
theorem chain_one {g : Int → Option (Ky × Ky)} {l : List It} {x : It} (hx : l[0]? = some x) : chainO g (l.take 1) = (g x.2.1).bind fun p => if p.1 = x.1 then some p else none := by
  cases l with
  | nil => cases hx
  | cons y r =>
    cases hx
    rfl
theorem chain_app {g : Int → Option (Ky × Ky)} (x : It) : ∀ (l : List It), l ≠ [] → chainO g (l ++ [x]) = (chainO g l).bind fun q => (g x.2.1).bind fun p => if p.1 = x.1 ∧ lessK q.2 x.1 = true then some (q.1, p.2) else none
  | [], h => absurd rfl h
  | [y], _ => by
    show (g y.2.1).bind _ = _
    unfold chainO
    cases g y.2.1 with
    | none => rfl
    | some p =>
      show ((chainO g [x]).bind _) = ((if p.1 = y.1 then some p else none) : Option (Ky × Ky)).bind _
      unfold chainO
      cases g x.2.1 with
      | none =>
        by_cases h1 : p.1 = y.1 <;> simp [h1]
      | some q =>
        by_cases h1 : p.1 = y.1 <;> by_cases h2 : q.1 = x.1 <;> by_cases h3 : lessK p.2 x.1 = true <;> simp [h1, h2, h3]
  | y :: z :: r, _ => by
    have ih := chain_app (g := g) x (z :: r) (by simp)
    show (g y.2.1).bind (fun p => (chainO g (z :: r ++ [x])).bind _) = _
    rw [ih]
    conv => rhs; unfold chainO
    cases g y.2.1 with
    | none => rfl
    | some p =>
      cases chainO g (z :: r) with
      | none => rfl
      | some q =>
        cases g x.2.1 with
        | none =>
          by_cases h1 : p.1 = y.1 ∧ lessK p.2 z.1 = true <;> simp [h1]
        | some q' =>
          by_cases h1 : p.1 = y.1 ∧ lessK p.2 z.1 = true <;> by_cases h2 : q'.1 = x.1 ∧ lessK q.2 x.1 = true <;> simp [h1, h2]
theorem chain_take {g : Int → Option (Ky × Ky)} {l : List It} {k : Nat} {x : It} (hx : l[k]? = some x) (hk : 0 < k) : chainO g (l.take (k + 1)) = (chainO g (l.take k)).bind fun q => (g x.2.1).bind fun p => if p.1 = x.1 ∧ lessK q.2 x.1 = true then some (q.1, p.2) else none := by
  have hl := (List.getElem?_eq_some_iff.1 hx).1
  have hg : l[k] = x := (List.getElem?_eq_some_iff.1 hx).2
  rw [← List.take_append_getElem hl, hg]
  exact chain_app x _ fun e => by
    have h0 : (l.take k).length = 0 := by rw [e]; rfl
    rw [List.length_take] at h0
    omega
theorem chain_bad {g : Int → Option (Ky × Ky)} {l : List It} : ∀ {k : Nat}, 0 < k → chainO g (l.take k) = none → chainO g l = none := fun {k} hk h => by
  induction hn : l.length - k generalizing k with
  | zero => rwa [List.take_of_length_le (by omega)] at h
  | succ n ih =>
    obtain ⟨x, hx⟩ : ∃ x, l[k]? = some x := ⟨_, List.getElem?_eq_getElem (by omega)⟩
    exact ih (k := k + 1) (by omega) (by rw [chain_take hx hk, h]; rfl) (by omega)
/-- The first key of a chain. -/
theorem chain_key {g : Int → Option (Ky × Ky)} {l : List It} {x : It} (hx : l[0]? = some x) : ∀ {k : Nat} {q : Ky × Ky}, 0 < k → k ≤ l.length → chainO g (l.take k) = some q → q.1 = x.1 := fun {k} {q} hk hl h => by
  induction k generalizing q with
  | zero => omega
  | succ k ih =>
    by_cases h0 : k = 0
    · subst h0
      rw [chain_one hx] at h
      cases hg : g x.2.1 with
      | none => rw [hg] at h; cases h
      | some p =>
        rw [hg] at h
        have h' : (if p.1 = x.1 then some p else none) = some q := h
        split at h'
        · rename_i e; cases h'; exact e
        · cases h'
    · obtain ⟨y, hy⟩ : ∃ y, l[k]? = some y := ⟨_, List.getElem?_eq_getElem (by omega)⟩
      rw [chain_take hy (by omega)] at h
      cases hc : chainO g (l.take k) with
      | none => rw [hc] at h; cases h
      | some q' =>
        have e := ih (by omega) (by omega) hc
        rw [hc] at h
        cases hg : g y.2.1 with
        | none => rw [hg] at h; cases h
        | some p =>
          rw [hg] at h
          have h' : (if p.1 = y.1 ∧ lessK q'.2 y.1 = true then some (q'.1, p.2) else none) = some q := h
          split at h'
          · cases h'; exact e
          · cases h'
/-- Which trees may be, as package find tells it. -/
noncomputable def standsN (s : Rm) (n : Nd) : Bool := decide (n.2.length = 0) || (spanN s n).isSome
theorem stands_tree {s : Rm} {a : Int} (h : rmE s a = 0) : standsN s (rmV s a) = treeO s a := by
  have hm := (rm_may h).1
  have hsh := (mayN_of hm).1
  have e : treeO s a = true ↔ standsN s (rmV s a) = true := by
    rw [tree_span]
    unfold standsN
    rw [Bool.or_eq_true, decide_eq_true_eq]
    cases hl : (rmV s a).1.toNat with
    | zero =>
      have h0 : (rmV s a).1 = 0 := by omega
      simp only
      by_cases hz : (rmV s a).2.length = 0
      · have : (rmV s a).2 = [] := List.eq_nil_of_length_eq_zero hz
        rw [this]
        simp [h, leafO]
      · obtain ⟨j, hj⟩ : ∃ j, (rmV s a).2.length = j + 1 := ⟨(rmV s a).2.length - 1, by omega⟩
        obtain ⟨x, hx⟩ : ∃ x, (rmV s a).2[0]? = some x := ⟨_, List.getElem?_eq_getElem (by omega)⟩
        obtain ⟨y, hy⟩ : ∃ y, (rmV s a).2[j]? = some y := ⟨_, List.getElem?_eq_getElem (by omega)⟩
        rw [span_zero h0 hx hj hy]
        by_cases h2 : leafO s (rmV s a).2 = true <;> simp [h, h2, hz]
    | succ l =>
      have h1 : (rmV s a).1 = ((l + 1 : Nat) : Int) := by omega
      have hz : ¬ (rmV s a).2.length = 0 := by have := hsh.2.2.2 (by omega); omega
      rw [span_succ h1]
      simp only
      constructor
      · rintro ⟨_, p, hp⟩
        rw [hp]
        exact .inr rfl
      · rintro (h3 | h3)
        · exact absurd h3 hz
        · exact ⟨h, Option.isSome_iff_exists.1 h3⟩
  cases h1 : treeO s a with
  | true => exact e.1 h1
  | false =>
    cases h2 : standsN s (rmV s a) with
    | false => rfl
    | true => rw [e.2 h2] at h1; cases h1
end Go.Proofs.Ytncnoingbaeomaa

/-
  Parts side by side, one behind the other, as package find goes; plain. Conditions: those that each lemma states.
-/
namespace Go.Proofs.Ytncnoingbaeomaa
open Go.RowKit

/-- What is known behind k parts: their last key. -/
def StC (g : Int → Option (Ky × Ky)) (l : List It) (k : Nat) (t : Ky) : Prop := k = 0 ∨ ∃ f, chainO g (l.take k) = some (f, t)
section
variable {g : Int → Option (Ky × Ky)} {l : List It} {k : Nat} {x : It} {p : Ky × Ky} {t : Ky}
theorem chain_no1 (hx : l[k]? = some x) (h : g x.2.1 = none) : chainO g l = none := by
  refine chain_bad (k := k + 1) (by omega) ?_
  by_cases h0 : k = 0
  · subst h0
    rw [chain_one hx, h]
    rfl
  · rw [chain_take hx (by omega), h]
    cases chainO g (l.take k) <;> rfl
theorem chain_no2 (hx : l[k]? = some x) (h : g x.2.1 = some p) (hp : p.1 ≠ x.1) : chainO g l = none := by
  refine chain_bad (k := k + 1) (by omega) ?_
  by_cases h0 : k = 0
  · subst h0
    rw [chain_one hx, h]
    simp [hp]
  · rw [chain_take hx (by omega), h]
    cases chainO g (l.take k) <;> simp [hp]
theorem chain_no3 (hx : l[k]? = some x) (h0 : k ≠ 0) (hs : StC g l k t) (hl : lessK t x.1 = false) : chainO g l = none := by
  rcases hs with hs | ⟨f, hs⟩
  · exact absurd hs h0
  refine chain_bad (k := k + 1) (by omega) ?_
  rw [chain_take hx (by omega), hs]
  cases g x.2.1 <;> simp [hl]
theorem chain_yes (hx : l[k]? = some x) (hs : StC g l k t) (hl : k ≠ 0 → lessK t x.1 = true) (h : g x.2.1 = some p) (hp : p.1 = x.1) : StC g l (k + 1) p.2 := by
  refine .inr ?_
  by_cases h0 : k = 0
  · subst h0
    rw [chain_one hx, h]
    exact ⟨p.1, by
      show (if p.1 = x.1 then some p else none) = some (p.1, p.2)
      rw [if_pos hp]⟩
  · rcases hs with hs | ⟨f, hs⟩
    · exact absurd hs h0
    rw [chain_take hx (by omega), hs, h]
    exact ⟨f, by simp [hp, hl h0]⟩
end
theorem span_empty {s : Rm} {n : Nd} (h : n.2.length = 0) : spanN s n = none := by
  have e : n.2 = [] := List.eq_nil_of_length_eq_zero h
  unfold spanN
  rw [e]
  cases n.1.toNat with
  | zero => simp [leafO]
  | succ l => rfl
/-- A part that is none, by its node. -/
theorem span_no {s : Rm} {l : Nat} {a : Int} (h : ¬ (rmE s a = 0 ∧ (rmV s a).1 = (l : Int) ∧ (rmV s a).2.length ≠ 0)) : spanO s l a = none := by
  rw [span_node]
  by_cases h1 : rmE s a = 0 ∧ (rmV s a).1 = (l : Int)
  · rw [if_pos h1]
    by_cases h2 : (rmV s a).2.length = 0
    · exact span_empty h2
    · exact absurd ⟨h1.1, h1.2, h2⟩ h
  · rw [if_neg h1]
theorem span_yes {s : Rm} {l : Nat} {a : Int} (h1 : rmE s a = 0) (h2 : (rmV s a).1 = (l : Int)) : spanO s l a = spanN s (rmV s a) := by
  rw [span_node, if_pos ⟨h1, h2⟩]
end Go.Proofs.Ytncnoingbaeomaa

/-
  The document's answers of layer 8: Read, Node. Conditions: those that each lemma states.
-/
namespace Go.Proofs.Ytncnoingbaeomaa
open Go.RowKit

theorem seen_128 {d : Dk} {k : Nat} (hm : mayB d = true) (hk : k < 256) : (seenD d k).length = 128 := by
  obtain ⟨h1, _, h3, h4⟩ := may_of hm
  unfold seenD
  have e : d.1[k]? = some (d.1[k]'(by omega)) := List.getElem?_eq_getElem _
  refine seenW_length (h3 k _ (by rw [e]; rfl)) fun x hx => ?_
  obtain ⟨i, hi⟩ := List.getElem?_of_mem hx
  exact (h4 i x hi).2.2
end Go.Proofs.Ytncnoingbaeomaa

/-
  The document's inner, by its right one level below. Conditions: those that each lemma states.
-/
namespace Go.Proofs.Ytncnoingbaeomaa
open Go.RowKit

theorem put_three {W : World} {g : Nat} {a b c a' b' c' : Value} {t : TypeId} (h : W.heap[g]? = some (.cells #[a, b, c] t (0, 0))) : ∃ W1, ((W.setCell ⟨g, 0, none⟩ a').setCell ⟨g, 1, none⟩ b').setCell ⟨g, 2, none⟩ c' = W1 ∧
    W1.heap[g]? = some (.cells #[a', b', c'] t (0, 0)) ∧ W.grownBy W1 (some g) ∧ W1.heap.size = W.heap.size :=
  ⟨_, rfl, by simp [World.setCell, Array.getElem?_modify, h], grow_put (p := ⟨g, 2, none⟩) (grow_put (p := ⟨g, 1, none⟩) (grow_put (p := ⟨g, 0, none⟩) (grow_refl W (some g)) rfl a') rfl b') rfl c', by simp⟩
theorem three_cells {W : World} {g : Nat} {a b c : Value} {t : TypeId} (h : W.heap[g]? = some (.cells #[a, b, c] t (0, 0))) : W.cell? ⟨g, 0, none⟩ = some a ∧ W.cell? ⟨g, 1, none⟩ = some b ∧ W.cell? ⟨g, 2, none⟩ = some c ∧ (∀ o, W.frozen? ⟨g, o, none⟩ = false) ∧ g < W.heap.size :=
  ⟨by simp [World.cell?, h], by simp [World.cell?, h], by simp [World.cell?, h], fun o => by simp [World.frozen?, h], (Array.getElem?_eq_some_iff.1 h).1⟩

end Go.Proofs.Ytncnoingbaeomaa

/-
  The document's Tree and Check of layer 10; its Read and package room's Node, opened. Conditions: those that each lemma states.
-/
namespace Go.Proofs.Ytncnoingbaeomaa
open Go.RowKit

theorem nodeR_open (v : Value) (s : Rm) (a : Int) (w : World) (h : Sto (Old w) w v s) :
    Calls Try.prog 26 #[v, .int .i64 a] w fun e w' => ∃ Z zc, e = .returned (.tuple #[.agg #[.int .i64 (rmV s a).1, .slice Z (rmV s a).2.length zc], .int .i64 (rmE s a)]) ∧ rIts (Old w') w' [.slice Z (rmV s a).2.length zc] (rmV s a).2 ∧
      Nod (New w.heap.size w') w' (.agg #[.int .i64 (rmV s a).1, .slice Z (rmV s a).2.length zc]) (rmV s a) ∧ Below w.heap.size w w' := by
  refine (nodeR_any v s a w h).mono ?_
  rintro e w' ⟨u, rfl, hu, hb'⟩
  have hu2 := hu
  obtain ⟨Z, zc, rfl, _, _, _, hA⟩ := hu.drop.open
  exact ⟨Z, zc, rfl, hA, hu2, hb'⟩

theorem tree_no {s : Rm} {a : Int} (h : rmE s a ≠ 0) : treeO s a = false := by simp [treeO, h]
theorem ck_no {s : Rm} {a : Int} (h : asE s a ≠ 0) : ckE s a = asE s a ∧ ckH s a = 0 := by
  have e : ckE s a = asE s a := by rw [ckE, if_neg h]
  exact ⟨e, by rw [ckH, e, if_neg h]⟩
theorem ck_bad {s : Rm} {a : Int} (h : asE s a = 0) (ht : treeO s a = false) : ckE s a = 8 ∧ ckH s a = 0 := by
  have e : ckE s a = 8 := by rw [ckE, if_pos h, ht]; rfl
  exact ⟨e, by rw [ckH, e, if_neg (by decide)]⟩
theorem ck_ok {s : Rm} {a : Int} (h : asE s a = 0) (ht : treeO s a = true) : ckE s a = 0 ∧ ckH s a = (rmV s a).1 + 1 := by
  have e : ckE s a = 0 := by rw [ckE, if_pos h, ht]; rfl
  exact ⟨e, by rw [ckH, e, if_pos rfl]⟩
theorem ck_of {s : Rm} {a : Int} (h : ckE s a = 0) : treeO s a = true ∧ asE s a = 0 ∧ ckH s a = (rmV s a).1 + 1 := by
  by_cases ha : asE s a = 0
  · cases ht : treeO s a with
    | false => rw [(ck_bad ha ht).1] at h; cases h
    | true => exact ⟨rfl, ha, (ck_ok ha ht).2⟩
  · rw [(ck_no ha).1] at h
    exact absurd h ha

end Go.Proofs.Ytncnoingbaeomaa

/-
  The document's One: what is found of a key. Conditions: those that each lemma states.
-/
namespace Go.Proofs.Ytncnoingbaeomaa
open Go.RowKit

/-- An item of a row in new memory, in every later world. -/
theorem its_new {lo : Nat} {w : World} {A : Option Addr} {n c k : Nat} {xs : List It} {s : It} (h : rIts (New lo w) w [.slice A n c] xs) (hk : xs[k]? = some s) :
    ∃ ad E ce, A = some ad ∧ InI s ∧ ∀ W, Below w.heap.size w W → At5 W (ad.add (k * 5)) s (.slice E s.2.2.length ce) ∧ Itm (New lo W) W (itV s (.slice E s.2.2.length ce)) s := by
  obtain ⟨ad, E, ce, rfl, _, h5, hi, _, _, hin⟩ := its_at h hk
  exact ⟨ad, E, ce, rfl, hin, fun W hW => ⟨h5.below hW, hi.new (Nat.le_refl _) hW⟩⟩
def NewIs (lo : Nat) (v : Value) (l : List It) : World → Prop := fun w => rIts (New lo w) w [v] l
theorem lasts_newIs (lo : Nat) (v : Value) (l : List It) : Lasts (NewIs lo v l) := fun _ _ h hb => stab_its.new h (Nat.le_refl _) hb
/-- A box of five cells, whole. -/
def BoxW (g : Nat) (cs : Array Value) (t : TypeId) : World → Prop := fun w => w.heap[g]? = some (.cells cs t (0, 0))
theorem lasts_boxW (g : Nat) (cs : Array Value) (t : TypeId) : Lasts (BoxW g cs t) := fun _ _ h hb => (hb.block g (Array.getElem?_eq_some_iff.1 h).1).trans h

end Go.Proofs.Ytncnoingbaeomaa

/-
  Package find: the closure of stands that calls itself. Conditions: those that each lemma states.
-/
namespace Go.Proofs.Ytncnoingbaeomaa
open Go.RowKit

/-- The closure, with what it captured. -/
abbrev cloE (Bs Be : Nat) : Value := .func (.func 52) #[] #[.pointer (some ⟨Bs, 0, none⟩), .pointer (some ⟨Be, 0, none⟩)]
def BoxF (g : Nat) (v : Value) : World → Prop := fun w => w.cell? ⟨g, 0, none⟩ = some v ∧ g < w.heap.size
theorem lasts_boxF (g : Nat) (v : Value) : Lasts (BoxF g v) := fun _ _ h hb => ⟨(hb.cell (p := ⟨g, 0, none⟩) h.2).trans h.1, Nat.lt_of_lt_of_le h.2 hb.size⟩
def EndsP (s : Rm) (n : Nd) (w : World) : Ending → World → Prop := fun e w' => ∃ f t ok, e = .returned (.tuple #[kyV f, kyV t, .bool ok]) ∧ spanN s n = (if ok = true then some (f, t) else none) ∧ Below w.heap.size w w'
theorem ends_ret {s : Rm} {n : Nd} {w w' : World} (f t : Ky) (ok : Bool) (h : spanN s n = if ok = true then some (f, t) else none) (hb : Below w.heap.size w w') : EndsP s n w (.returned (.tuple #[kyV f, kyV t, .bool ok])) w' := ⟨f, t, ok, rfl, h, hb⟩
/-- What a call of it tells, at a level. -/
def EndsIs (s : Rm) (l : Nat) : Prop := ∀ (u v0 v1 v2 v3 : Value) (n : Nd) (Bs Be : Nat) (w : World), mayN n = true → n.1 = (l : Int) → n.2.length ≠ 0 → Nod (Old w) w u n → Sto (Old w) w (.agg #[v0, v1, v2, v3]) s → Box4 Bs v0 v1 v2 v3 w → BoxF Be (cloE Bs Be) w →
    Calls Try.prog 52 #[u, .pointer (some ⟨Bs, 0, none⟩), .pointer (some ⟨Be, 0, none⟩)] w (EndsP s n w)

set_option maxRecDepth 100000 in
set_option maxHeartbeats 8000000 in
theorem ends_step (s : Rm) (hm : mayR s = true) (l0 : Nat) (hr0 : ∀ j, l0 = j + 1 → EndsIs s j) : EndsIs s l0 := by
  intro u v0 v1 v2 v3 n Bs Be w hmn0 hlv hne hu h hBs hBe
  have hmn := Lib.hid hmn0
  obtain ⟨I, ci, rfl, -, -, -, hI⟩ := id hu.open
  obtain ⟨lw, hlw⟩ : ∃ q, n.1 = q := ⟨_, rfl⟩
  obtain ⟨l, hl⟩ : ∃ q, n.2 = q := ⟨_, rfl⟩
  obtain ⟨m, hlm⟩ : ∃ q, l.length = q := ⟨_, rfl⟩
  obtain ⟨R, hR⟩ : ∃ R, spanN s n = R := ⟨_, rfl⟩
  have hR0 := Lib.hid (fun (x y : It) (j : Nat) (h1 : n.1 = 0) (h2 : n.2[0]? = some x) (h3 : n.2.length = j + 1) (h4 : n.2[j]? = some y) => span_zero (s := s) h1 h2 h3 h4)
  have hR1 := Lib.hid (fun (j : Nat) (hj : n.1 = ((j + 1 : Nat) : Int)) => span_succ (s := s) hj)
  rw [hR] at hR0 hR1
  have hu' := hu
  rw [hl, hlm] at hI
  rw [hlw, hl, hlm] at hu'
  rw [hlw, hl, hlm] at hR0
  rw [hlw, hl] at hR1
  rw [hl, hlw, hlm]
  rw [hlw] at hlv
  rw [hl, hlm] at hne
  have hm5 : m ≤ 5 := by
    have := (mayN_of hmn.out).1.2.2.1
    rw [hl, hlm] at this
    exact this
  have HG0 : Bag w [BoxF Be (cloE Bs Be), Box4 Bs v0 v1 v2 v3, OldN (.agg #[.int .i64 lw, .slice I m ci]) n, OldIs (.slice I m ci) l, OldR (.agg #[v0, v1, v2, v3]) s] :=
    (((((Bag.nil w).add (F := OldR _ s) h (lasts_oldR _ _)).add (F := OldIs _ l) hI (lasts_oldIs _ _)).add (F := OldN _ n) hu' (lasts_oldN _ _)).add (F := Box4 _ _ _ _ _) hBs (lasts_box4 _ _ _ _ _)).add (F := BoxF _ _) hBe (lasts_boxF _ _)
  obtain ⟨w0, hw0, b0, hs0, hB0⟩ := box_pair' w (.int .i64 lw) (.slice I m ci) 64
  obtain ⟨w1, hw1, _, _, _, hs1, hB1, b1⟩ := box_three w0 (.int .u8 0) (.int .u32 0) (.int .u32 0) 37
  obtain ⟨w2, hw2, _, _, _, hs2, hB2, b2⟩ := box_three w1 (.int .u8 0) (.int .u32 0) (.int .u32 0) 37
  have HG := Lib.hid HG0
  have BB := Lib.hid ((hB0.trans (hB1.mono hB0.size)).trans (hB2.mono (hB0.trans (hB1.mono hB0.size)).size))
  have G0 : BoxW w.heap.size #[.int .i64 lw, .slice I m ci] 64 w2 := lasts_boxW _ _ _ _ _ (lasts_boxW _ _ _ _ _ b0 hB1) hB2
  have G1 : BoxW w0.heap.size #[.int .u8 0, .int .u32 0, .int .u32 0] 37 w2 := lasts_boxW _ _ _ _ _ b1 hB2
  have G2 : BoxW w1.heap.size #[.int .u8 0, .int .u32 0, .int .u32 0] 37 w2 := b2
  have lo : Hid (w.heap.size < w0.heap.size ∧ w0.heap.size < w1.heap.size ∧ w1.heap.size < w2.heap.size) := Lib.hid ⟨by omega, by omega, by omega⟩
  obtain ⟨y0, y1, _⟩ := two_cells G0
  replace hs2 := Lib.hid hs2
  replace hs1 := Lib.hid hs1
  replace hs0 := Lib.hid hs0
  replace hlw := Lib.hid hlw
  replace hl := Lib.hid hl
  replace hlm := Lib.hid hlm
  replace hlv := Lib.hid hlv
  replace hR := Lib.hid hR
  replace G0 := Lib.hid G0
  replace G1 := Lib.hid G1
  replace G2 := Lib.hid G2
  clear HG0 h hu hu' hB2 hB1 hB0 hI hBs hBe b0 b1 b2 hmn0
  obtain ⟨m1, hm1⟩ : ∃ j, m = j + 1 := ⟨m - 1, by omega⟩
  obtain ⟨x0, hx0⟩ : ∃ x, l[0]? = some x := ⟨_, List.getElem?_eq_getElem (by rw [hlm.out]; omega)⟩
  obtain ⟨yl, hyl⟩ : ∃ x, l[m1]? = some x := ⟨_, List.getElem?_eq_getElem (by rw [hlm.out]; omega)⟩
  have hx0' := Lib.hid hx0
  have hyl' := Lib.hid hyl
  have HW2 := Lib.hid (HG.out.below BB.out)
  obtain ⟨ad, E0, ce0, rfl, _, FX0⟩ := its_first (HW2.out.at 3 rfl : rIts (Old w2) w2 [.slice I m ci] l) hx0
  have FX := Lib.hid (fun W (hW : Below w2.heap.size w2 W) => (FX0 W hW).1)
  have iz : 0 < m := by omega
  cases l0 with
  | zero =>
    obtain ⟨ad', E6, ce6, e6, _, _, _, FY0⟩ := its_old (HW2.out.at 3 rfl : rIts (Old w2) w2 [.slice (some ad) m ci] l) hyl
    cases e6
    have FY := Lib.hid (fun W (hW : Below w2.heap.size w2 W) => (FY0 W hW).1)
    have e0 : lw = 0 := hlv.out
    subst e0
    obtain ⟨b, hb⟩ : ∃ b, leafO s l = b := ⟨_, rfl⟩
    have hfin := Lib.hid (hR0.out x0 yl m1 rfl hx0 hm1 hyl)
    rw [hb] at hfin
    replace hb := Lib.hid hb
    have i6 : (m : Int) - 1 = (m1 : Int) := by omega
    have i7 : (m1 : Int) < (m : Int) := by omega
    have i8 : (0 : Int) ≤ (m1 : Int) := by omega
    have i9 : IntKind.i64.wrap (m1 : Int) = (m1 : Int) := IntWalk.i64_in _ (by omega)
    have i0 : (0 : Int) < (m : Int) := by omega
    replace hm1 := Lib.hid hm1
    clear hR0 hR1 hx0 hyl FX0 FY0
    go_enter Try.func52, Try.ntmps52
    go_upto_region 1 with fail
    clear hw0 hw1 hw2
    go_wp2_with fail
    clear y0 y1
    obtain ⟨o4, ho4⟩ : ∃ o, (Obj.cells #[.int .u8 (x0.1.1.toNat : Int), .int .u32 x0.1.2.1, .int .u32 x0.1.2.2] 37 (0, 0)) = o := ⟨_, rfl⟩
    obtain ⟨o5, ho5⟩ : ∃ o, (Obj.cells #[.int .u8 (yl.1.1.toNat : Int), .int .u32 yl.1.2.1, .int .u32 yl.1.2.2] 37 (0, 0)) = o := ⟨_, rfl⟩
    obtain ⟨fin, hfn⟩ : ∃ f, finTwo w0.heap.size o4 w1.heap.size o5 = f := ⟨_, rfl⟩
    have fn4 : Hid (fin w0.heap.size = some o4) := Lib.hid (by rw [← hfn]; exact finTwo_one _ _ _ _)
    have fn5 : Hid (fin w1.heap.size = some o5) := Lib.hid (by rw [← hfn]; exact finTwo_two (by have := lo.out; omega) _ _)
    have fnl : Hid (∀ k, k < w0.heap.size → fin k = none) := Lib.hid fun k hk => by rw [← hfn]; exact finTwo_none (by omega) (by have := lo.out; omega) _ _
    replace ho4 := Lib.hid ho4
    replace ho5 := Lib.hid ho5
    replace hfn := Lib.hid hfn
    have HW0 := Lib.hid (fun W (hK : KeepT fin w2 W) => BB.out.trans (hK.below BB.out.size (fun k hk => fnl.out k (by have := lo.out; omega))))
    have hcl : Hid (∀ W, KeepT fin w2 W → Calls Try.prog 53 #[.agg #[v0, v1, v2, v3], .agg #[.int .i64 0, .slice (some ad) m ci]] W fun e W' => e = .returned (.bool b) ∧ Below W.heap.size W W') := Lib.hid fun W hK => by
      have HW := HG.out.below (HW0.out W hK)
      have := held_any _ _ s hm n hmn.out W (HW.at 4 rfl) (HW.at 2 rfl)
      rw [hl.out, hb.out] at this
      exact this
    have FXK : Hid (∀ W, KeepT fin w2 W → ∃ d, At5 W ad x0 d) := Lib.hid fun W hK => by
      obtain ⟨_, _, _, e, _, F⟩ := its_first ((HG.out.below (HW0.out W hK)).at 3 rfl : rIts (Old W) W [.slice (some ad) m ci] l) hx0'.out
      cases e
      exact ⟨_, (F W (Below.refl _ _)).1⟩
    have FYK : Hid (∀ W, KeepT fin w2 W → ∃ d, At5 W (ad.add (m1 * 5)) yl d) := Lib.hid fun W hK => by
      obtain ⟨_, _, _, e, _, _, _, F⟩ := its_old ((HG.out.below (HW0.out W hK)).at 3 rfl : rIts (Old W) W [.slice (some ad) m ci] l) hyl'.out
      cases e
      exact ⟨_, (F W (Below.refl _ _)).1⟩
    have KS : Hid (∀ W, KeepT fin w2 W → W.heap[w.heap.size]? = some (.cells #[.int .i64 0, .slice (some ad) m ci] 64 (0, 0))) := Lib.hid fun W hK => hK.other (fnl.out _ lo.out.1) G0.out
    have K4 : Hid (∀ W, KeepT fin w2 W → ∃ a b c, W.heap[w0.heap.size]? = some (.cells #[a, b, c] 37 (0, 0))) := Lib.hid fun W hK => by
      rcases hK.box fn4.out G1.out with e | e
      · exact ⟨_, _, _, e⟩
      · rw [← ho4.out] at e; exact ⟨_, _, _, e⟩
    have K5 : Hid (∀ W, KeepT fin w2 W → ∃ a b c, W.heap[w1.heap.size]? = some (.cells #[a, b, c] 37 (0, 0))) := Lib.hid fun W hK => by
      rcases hK.box fn5.out G2.out with e | e
      · exact ⟨_, _, _, e⟩
      · rw [← ho5.out] at e; exact ⟨_, _, _, e⟩
    refine Rb.wp_region_fx (KeepT fin) (by kernel_rfl) (fun W => KeepT fin w2 W) (fun i => match i with
      | 17 => some (fun _ W => W.heap[w0.heap.size]? = some o4)
      | 18 => some (fun _ W => W.heap[w1.heap.size]? = some o5)
      | _ => none) (fun i => match i with
      | 16 => some (.bool b)
      | _ => none) (by kernel_rfl) (KeepT.refl _ _).drew (fun w w' h hb => h.trans hb) ?tst ?_
    case tst =>
      intro j φ x W W' hp hx hb
      match j, hp with
      | 17, hp => cases hp; exact hb.done fn4.out hx
      | 18, hp => cases hp; exact hb.done fn5.out hx
    repeat (first
      | (refine Rb.wpAs_skip rfl ?_; simp only [Act.put, List.setIfInBounds_toArray, List.set_cons_zero, List.set_cons_succ])
      | (refine Rb.wpAs_pure (v := ?_) rfl rfl ?_ ?_; rotate_left; (intro W hC hE; clear hE; (obtain ⟨y0, y1, _⟩ := two_cells (KS.out W hC); obtain ⟨_, z0, z1, z2, _, _⟩ := FXK.out W hC; obtain ⟨_, u0, u1, u2, _, _⟩ := FYK.out W hC; obtain ⟨k0, k1, k2, k3, _⟩ := (HG.out.below (HW0.out W hC)).at 1 rfl); clear hC; go_simp; done); simp only [Act.put, List.setIfInBounds_toArray, List.set_cons_zero, List.set_cons_succ])
      | (refine Rb.wpAs_pure (v := ?_) rfl rfl ?_ ?_; rotate_left; (intro W hC hE; clear hE; (obtain ⟨y0, y1, _⟩ := two_cells (KS.out W hC); obtain ⟨_, z0, z1, z2, _, _⟩ := FXK.out W hC; obtain ⟨_, u0, u1, u2, _, _⟩ := FYK.out W hC; obtain ⟨k0, k1, k2, k3, _⟩ := (HG.out.below (HW0.out W hC)).at 1 rfl); clear hC; go_simp; with_reducible rfl); simp only [Act.put, List.setIfInBounds_toArray, List.set_cons_zero, List.set_cons_succ]))
    refine Rb.wpAs_fixed rfl rfl rfl ?_ ?_
    · intro W hC hE
      clear hE
      refine Rb.does_enter (f := 53) (args := #[.agg #[v0, v1, v2, v3], .agg #[.int .i64 0, .slice (some ad) m ci]]) ?_ ?_
      · go_simp
      · refine (hcl.out W hC).mono ?_
        rintro e W' ⟨rfl, hg⟩
        exact ⟨_, rfl, rfl, KeepT.of_below hg⟩
    simp only [Act.put, List.setIfInBounds_toArray, List.set_cons_zero, List.set_cons_succ]
    refine Rb.wpAs_act rfl rfl ?_ ?_
    · intro W hC hE
      clear hE
      obtain ⟨a, b, c, G⟩ := K4.out W hC
      obtain ⟨q0, q1, q2, q3, _⟩ := three_cells G
      obtain ⟨W1, hW1, g1, gr1, _⟩ := put_three (a' := .int .u8 (x0.1.1.toNat : Int)) (b' := .int .u32 x0.1.2.1) (c' := .int .u32 x0.1.2.2) G
      rw [ho4.out] at g1
      have hk := Lib.hid (KeepT.of_grown gr1 fn4.out g1)
      replace g1 := Lib.hid g1
      clear gr1 G hC
      go_simp
      exact ⟨g1.out, hk.out⟩
    simp only [Act.put, Rb.envAdd]
    intro _
    refine Rb.wpAs_act rfl rfl ?_ ?_
    · intro W hC hE
      clear hE
      obtain ⟨a, b, c, G⟩ := K5.out W hC
      obtain ⟨q0, q1, q2, q3, _⟩ := three_cells G
      obtain ⟨W1, hW1, g1, gr1, _⟩ := put_three (a' := .int .u8 (yl.1.1.toNat : Int)) (b' := .int .u32 yl.1.2.1) (c' := .int .u32 yl.1.2.2) G
      rw [ho5.out] at g1
      have hk := Lib.hid (KeepT.of_grown gr1 fn5.out g1)
      replace g1 := Lib.hid g1
      clear gr1 G hC
      go_simp
      exact ⟨g1.out, hk.out⟩
    simp only [Act.put, Rb.envAdd]
    intro _
    repeat (first
      | (refine Rb.wpAs_skip rfl ?_; simp only [Act.put, List.setIfInBounds_toArray, List.set_cons_zero, List.set_cons_succ])
      | (refine Rb.wpAs_pure (v := ?_) rfl rfl ?_ ?_; rotate_left; (intro W hC hE; clear hE; skip; clear hC; go_simp; done); simp only [Act.put, List.setIfInBounds_toArray, List.set_cons_zero, List.set_cons_succ])
      | (refine Rb.wpAs_pure (v := ?_) rfl rfl ?_ ?_; rotate_left; (intro W hC hE; clear hE; skip; clear hC; go_simp; with_reducible rfl); simp only [Act.put, List.setIfInBounds_toArray, List.set_cons_zero, List.set_cons_succ]))
    refine Rb.wpAs_end fun W hC hE => ?_
    have e5 := hE.1
    have e4 := hE.2.1
    have hB9 := Lib.hid (HW0.out W hC)
    rw [← ho4.out] at e4
    rw [← ho5.out] at e5
    obtain ⟨n0, n1, n2, _⟩ := three_cells e4
    obtain ⟨q0, q1, q2, _⟩ := three_cells e5
    replace e4 := Lib.hid e4
    replace e5 := Lib.hid e5
    clear hE hC
    go_wp2_with fail
    refine bodyPost_ret (v := .tuple #[kyV x0.1, kyV yl.1, .bool b]) (by simp [results, go_sem, n0, n1, n2, q0, q1, q2]) rfl ?_
    exact ends_ret (x0.1) (yl.1) b (hR.out.trans hfin.out) hB9.out
  | succ l1 =>
    have hrec := Lib.hid (hr0 l1 rfl)
    have c0 : (lw == 0) = false := by have := hlv.out; simp; omega
    have c1 : lw - 1 = (l1 : Int) := by have := hlv.out; omega
    have c2 : IntKind.i64.wrap (l1 : Int) = (l1 : Int) := by
      have := (mayN_of hmn.out).1.2.1
      rw [hlw.out, hlv.out] at this
      exact IntWalk.i64_in _ (by omega)
    have hRC : Hid (R = chainO (spanO s l1) l) := Lib.hid (hR1.out l1 hlv.out)
    replace hm1 := Lib.hid hm1
    clear hR0 hR1 hx0 hyl FX0
    go_enter Try.func52, Try.ntmps52
    go_upto_region 1 with fail
    clear hw0 hw1 hw2
    go_wp2_with fail
    clear y0 y1
    go_loopw [37] (fun vi wr => ∃ (k : Nat) (t : Ky), k ≤ m ∧ vi = .int .i64 k ∧ StC (spanO s l1) l k t ∧ Below w.heap.size w wr ∧ w2.heap.size ≤ wr.heap.size ∧ BoxW w.heap.size #[.int .i64 lw, .slice (some ad) m ci] 64 wr ∧ BoxW w0.heap.size #[.int .u8 0, .int .u32 0, .int .u32 0] 37 wr ∧ BoxW w1.heap.size #[.int .u8 (t.1.toNat : Int), .int .u32 t.2.1, .int .u32 t.2.2] 37 wr) (fun vi _ => m - (intOf vi).toNat)
    case atStart => exact ⟨0, keyZ, by omega, rfl, .inl rfl, BB.out, Nat.le_refl _, G0.out, G1.out, G2.out⟩
    case round =>
      obtain ⟨k, t, hk, rfl, hst, hbr, hsz, g0, g1, g2⟩ := hrel
      have HR := Lib.hid (HG.out.below hbr)
      have BR := Lib.hid hbr
      have SZ := Lib.hid hsz
      clear hbr hsz
      by_cases hlt : k < m
      case neg =>
        have hkm : k = m := by omega
        have hf : Hid (R = some (x0.1, t)) := Lib.hid (by
          subst hkm
          rcases hst with e | ⟨f, e⟩
          · omega
          · have e1 := chain_key hx0'.out (by omega) (by rw [hlm.out]; omega) e
            rw [List.take_of_length_le (by rw [hlm.out]; omega)] at e
            rw [hRC.out, e, ← e1])
        have i0 : (0 : Int) < (m : Int) := by omega
        have FXr := Lib.hid (fun W (hW : Below wr.heap.size wr W) => (its_first (HR.out.at 3 rfl : rIts (Old wr) wr [.slice (some ad) m ci] l) hx0'.out))
        obtain ⟨ad', E6, ce6, e6, _, FZ⟩ := its_first (HR.out.at 3 rfl : rIts (Old wr) wr [.slice (some ad) m ci] l) hx0'.out
        cases e6
        have FZ' := Lib.hid (fun W (hW : Below wr.heap.size wr W) => (FZ W hW).1)
        replace hst := Lib.hid hst
        replace g0 := Lib.hid g0
        replace g1 := Lib.hid g1
        replace g2 := Lib.hid g2
        clear FXr FZ hkm
        go_upto_region 14 with fail
        obtain ⟨y0, y1, _⟩ := two_cells g0.out
        obtain ⟨z0, z1, z2, _, _⟩ := FZ'.out wr (Below.refl _ _)
        have G4 : wr.heap[w0.heap.size]? = _ := g1.out
        have G5 : wr.heap[w1.heap.size]? = _ := g2.out
        obtain ⟨q0, q1, q2, q3, _⟩ := three_cells G5
        have BW := Lib.hid BR.out
        obtain ⟨W8, hW8, g8, gr8, gs8⟩ := put_three (a' := .int .u8 ((x0.1).1.toNat : Int)) (b' := .int .u32 (x0.1).2.1) (c' := .int .u32 (x0.1).2.2) G4
        have G8 : W8.heap[w1.heap.size]? = _ := (gr8.block w1.heap.size (Array.getElem?_eq_some_iff.1 G5).1 (by simp; have := lo.out; omega)).trans G5
        obtain ⟨W9, hW9, g9, gr9, gs9⟩ := put_three (a' := .int .u8 ((t).1.toNat : Int)) (b' := .int .u32 (t).2.1) (c' := .int .u32 (t).2.2) G8
        have g8' : W9.heap[w0.heap.size]? = _ := (gr9.block w0.heap.size (Array.getElem?_eq_some_iff.1 g8).1 (by simp; have := lo.out; omega)).trans g8
        obtain ⟨f4, f5, f6, f7, _⟩ := three_cells G4
        obtain ⟨j4, j5, j6, j7, _⟩ := three_cells G8
        obtain ⟨n0, n1, n2, _, _⟩ := three_cells g8'
        obtain ⟨o0, o1, o2, _, _⟩ := three_cells g9
        have hB9 := Lib.hid ((BW.out.grown gr8 BW.out.size (fun q e => by cases e; have := lo.out; omega)).grown gr9 (Nat.le_trans BW.out.size gr8.size) (fun q e => by cases e; have := lo.out; omega))
        replace G4 := Lib.hid G4
        replace G5 := Lib.hid G5
        replace G8 := Lib.hid G8
        replace g8 := Lib.hid g8
        replace g8' := Lib.hid g8'
        replace g9 := Lib.hid g9
        clear gr8 gr9 gs8 gs9
        go_region
        all_goals
          go_wp2_with fail
          refine bodyPost_ret (v := .tuple #[kyV x0.1, kyV t, .bool true]) (by simp [results, go_sem, n0, n1, n2, o0, o1, o2]) rfl ?_
          exact ends_ret (x0.1) (t) true (hR.out.trans hf.out) (below_drewN hB9.out _)
      obtain ⟨x, hx⟩ : ∃ x, l[k]? = some x := ⟨_, List.getElem?_eq_getElem (by rw [hlm.out]; exact hlt)⟩
      obtain ⟨ad', E5, ce5, e5, _, _, _, FZ⟩ := its_old (HR.out.at 3 rfl : rIts (Old wr) wr [.slice (some ad) m ci] l) hx
      cases e5
      obtain ⟨⟨z0, z1, z2, z3, z4⟩, _⟩ := FZ wr (Below.refl _ _)
      have hno1 := Lib.hid (fun h1 => hRC.out.trans (chain_no1 (g := spanO s l1) hx h1))
      have hno2 := Lib.hid (fun p h1 h2 => hRC.out.trans (chain_no2 (g := spanO s l1) (p := p) hx h1 h2))
      have hno3 := Lib.hid (fun h1 h2 => hRC.out.trans (chain_no3 (g := spanO s l1) hx h1 hst h2))
      have hyes := Lib.hid (fun p h1 h2 h3 => chain_yes (g := spanO s l1) (p := p) hx hst h1 h2 h3)
      have i4 : (0 : Int) ≤ (k : Int) := by omega
      have i5 : (k : Int) < (m : Int) := by omega
      replace hst := Lib.hid hst
      replace hx := Lib.hid hx
      obtain ⟨w3, hw3, hg3, hB3, -, hs3⟩ := bag_item (((HR.out.add (F := BoxW _ _ _) g2 (lasts_boxW _ _ _)).add (F := BoxW _ _ _) g1 (lasts_boxW _ _ _)).add (F := BoxW _ _ _) g0 (lasts_boxW _ _ _)) (Below.refl _ _) (.int .u8 (x.1.1.toNat : Int)) (.int .u32 x.1.2.1) (.int .u32 x.1.2.2) (.int .i64 x.2.1) (.slice E5 x.2.2.length ce5)
      have H3 := Lib.hid hg3
      have B3 := Lib.hid (BR.out.trans (hB3.mono BR.out.size))
      have S3 := Lib.hid (Nat.le_trans SZ.out hB3.size)
      replace hs3 := Lib.hid hs3
      clear FZ hg3 hB3 g0 g1 g2 HR BR SZ
      go_upto_region 6 with fail
      clear hw3 z0 z1 z2 z3 z4
      obtain ⟨k0, k1, k2, k3, _⟩ := H3.out.at 5 rfl
      obtain ⟨r0, r1, r2, r3, r4, _⟩ := H3.out.at 0 rfl
      have hNd := Lib.hid (fun v W hW => nodeR_open v s x.2.1 W hW)
      have hmy := Lib.hid (fun hh => (rm_may (s := s) (a := x.2.1) hh).1)
      have hsn := Lib.hid (fun hh => hno1.out (span_no (s := s) (l := l1) (a := x.2.1) hh))
      have hsy := Lib.hid (fun h1 h2 => span_yes (s := s) (l := l1) (a := x.2.1) h1 h2)
      obtain ⟨nb, hnb⟩ : ∃ q, rmV s x.2.1 = q := ⟨_, rfl⟩
      obtain ⟨eb, heb⟩ : ∃ q, rmE s x.2.1 = q := ⟨_, rfl⟩
      rw [hnb, heb] at hNd hsn hsy
      rw [hnb, heb] at hmy
      obtain ⟨lb, hlb⟩ : ∃ q, nb.1 = q := ⟨_, rfl⟩
      obtain ⟨mb, hmb⟩ : ∃ q, nb.2.length = q := ⟨_, rfl⟩
      rw [hlb, hmb] at hNd hsn
      rw [hlb] at hsy
      replace hnb := Lib.hid hnb
      replace heb := Lib.hid heb
      replace hlb := Lib.hid hlb
      replace hmb := Lib.hid hmb
      go_wp2_with fail
      with_reducible refine (hNd.out _ _ (H3.out.at 8 rfl)).mono ?_
      rintro e w4 ⟨Z, zc, rfl, -, h4n, hb4⟩
      obtain ⟨w5, hw5, hg5, hB5, -, hs5⟩ := bag_node ((H3.out.below hb4).add (F := OldN _ nb) h4n.drop (lasts_oldN _ _)) (Below.refl _ _) (.int .i64 lb) (.slice Z mb zc)
      have H5 := Lib.hid hg5
      have B5 := Lib.hid (B3.out.trans ((hb4.trans (hB5.mono hb4.size)).mono B3.out.size))
      have S5 := Lib.hid (Nat.le_trans S3.out (hb4.trans (hB5.mono hb4.size)).size)
      replace hs5 := Lib.hid hs5
      clear k0 k1 k2 k3 r0 r1 r2 r3 r4 hg5 hB5 hb4 h4n H3 B3 S3 hNd
      go_upto_region 7 with fail
      clear hw5
      obtain ⟨y0, y1, _⟩ := H5.out.at 0 rfl
      obtain ⟨f0, f1, _⟩ := two_cells (H5.out.at 3 rfl)
      by_cases he : eb = 0
      case neg =>
        have e1 : (eb != 0) = true := by simpa using he
        have hf := Lib.hid (hsn.out (fun hh => he hh.1))
        clear he
        have G4 : w5.heap[w0.heap.size]? = _ := H5.out.at 4 rfl
        have G5 : w5.heap[w1.heap.size]? = _ := H5.out.at 5 rfl
        have BW := Lib.hid B5.out
        obtain ⟨W8, hW8, g8, gr8, gs8⟩ := put_three (a' := .int .u8 0) (b' := .int .u32 0) (c' := .int .u32 0) G4
        have G8 : W8.heap[w1.heap.size]? = _ := (gr8.block w1.heap.size (Array.getElem?_eq_some_iff.1 G5).1 (by simp; have := lo.out; omega)).trans G5
        obtain ⟨W9, hW9, g9, gr9, gs9⟩ := put_three (a' := .int .u8 0) (b' := .int .u32 0) (c' := .int .u32 0) G8
        have g8' : W9.heap[w0.heap.size]? = _ := (gr9.block w0.heap.size (Array.getElem?_eq_some_iff.1 g8).1 (by simp; have := lo.out; omega)).trans g8
        obtain ⟨f4, f5, f6, f7, _⟩ := three_cells G4
        obtain ⟨j4, j5, j6, j7, _⟩ := three_cells G8
        obtain ⟨n0, n1, n2, _, _⟩ := three_cells g8'
        obtain ⟨o0, o1, o2, _, _⟩ := three_cells g9
        have hB9 := Lib.hid ((BW.out.grown gr8 BW.out.size (fun q e => by cases e; have := lo.out; omega)).grown gr9 (Nat.le_trans BW.out.size gr8.size) (fun q e => by cases e; have := lo.out; omega))
        replace G4 := Lib.hid G4
        replace G5 := Lib.hid G5
        replace G8 := Lib.hid G8
        replace g8 := Lib.hid g8
        replace g8' := Lib.hid g8'
        replace g9 := Lib.hid g9
        clear gr8 gr9 gs8 gs9
        go_wp2_with fail
        refine bodyPost_ret (v := .tuple #[.agg #[.int .u8 0, .int .u32 0, .int .u32 0], .agg #[.int .u8 0, .int .u32 0, .int .u32 0], .bool false]) (by simp [results, go_sem, n0, n1, n2, o0, o1, o2]) rfl ?_
        exact ends_ret (keyZ) (keyZ) false (hR.out.trans hf.out) hB9.out
      subst he
      by_cases hv : lb = (l1 : Int)
      case neg =>
        have e1 : (lb != (l1 : Int)) = true := by simpa using hv
        have hf := Lib.hid (hsn.out (fun hh => hv hh.2.1))
        clear hv
        have G4 : w5.heap[w0.heap.size]? = _ := H5.out.at 4 rfl
        have G5 : w5.heap[w1.heap.size]? = _ := H5.out.at 5 rfl
        have BW := Lib.hid B5.out
        obtain ⟨W8, hW8, g8, gr8, gs8⟩ := put_three (a' := .int .u8 0) (b' := .int .u32 0) (c' := .int .u32 0) G4
        have G8 : W8.heap[w1.heap.size]? = _ := (gr8.block w1.heap.size (Array.getElem?_eq_some_iff.1 G5).1 (by simp; have := lo.out; omega)).trans G5
        obtain ⟨W9, hW9, g9, gr9, gs9⟩ := put_three (a' := .int .u8 0) (b' := .int .u32 0) (c' := .int .u32 0) G8
        have g8' : W9.heap[w0.heap.size]? = _ := (gr9.block w0.heap.size (Array.getElem?_eq_some_iff.1 g8).1 (by simp; have := lo.out; omega)).trans g8
        obtain ⟨f4, f5, f6, f7, _⟩ := three_cells G4
        obtain ⟨j4, j5, j6, j7, _⟩ := three_cells G8
        obtain ⟨n0, n1, n2, _, _⟩ := three_cells g8'
        obtain ⟨o0, o1, o2, _, _⟩ := three_cells g9
        have hB9 := Lib.hid ((BW.out.grown gr8 BW.out.size (fun q e => by cases e; have := lo.out; omega)).grown gr9 (Nat.le_trans BW.out.size gr8.size) (fun q e => by cases e; have := lo.out; omega))
        replace G4 := Lib.hid G4
        replace G5 := Lib.hid G5
        replace G8 := Lib.hid G8
        replace g8 := Lib.hid g8
        replace g8' := Lib.hid g8'
        replace g9 := Lib.hid g9
        clear gr8 gr9 gs8 gs9
        go_wp2_with fail
        refine bodyPost_ret (v := .tuple #[.agg #[.int .u8 0, .int .u32 0, .int .u32 0], .agg #[.int .u8 0, .int .u32 0, .int .u32 0], .bool false]) (by simp [results, go_sem, n0, n1, n2, o0, o1, o2]) rfl ?_
        exact ends_ret (keyZ) (keyZ) false (hR.out.trans hf.out) hB9.out
      have e1 : (lb != (l1 : Int)) = false := by simp [hv]
      replace hv := Lib.hid hv
      by_cases hz : mb = 0
      · have e2 : ((mb : Int) == 0) = true := by simp [hz]
        have hf := Lib.hid (hsn.out (fun hh => hh.2.2 hz))
        replace hz := Lib.hid hz
        have G4 : w5.heap[w0.heap.size]? = _ := H5.out.at 4 rfl
        have G5 : w5.heap[w1.heap.size]? = _ := H5.out.at 5 rfl
        have BW := Lib.hid B5.out
        obtain ⟨W8, hW8, g8, gr8, gs8⟩ := put_three (a' := .int .u8 0) (b' := .int .u32 0) (c' := .int .u32 0) G4
        have G8 : W8.heap[w1.heap.size]? = _ := (gr8.block w1.heap.size (Array.getElem?_eq_some_iff.1 G5).1 (by simp; have := lo.out; omega)).trans G5
        obtain ⟨W9, hW9, g9, gr9, gs9⟩ := put_three (a' := .int .u8 0) (b' := .int .u32 0) (c' := .int .u32 0) G8
        have g8' : W9.heap[w0.heap.size]? = _ := (gr9.block w0.heap.size (Array.getElem?_eq_some_iff.1 g8).1 (by simp; have := lo.out; omega)).trans g8
        obtain ⟨f4, f5, f6, f7, _⟩ := three_cells G4
        obtain ⟨j4, j5, j6, j7, _⟩ := three_cells G8
        obtain ⟨n0, n1, n2, _, _⟩ := three_cells g8'
        obtain ⟨o0, o1, o2, _, _⟩ := three_cells g9
        have hB9 := Lib.hid ((BW.out.grown gr8 BW.out.size (fun q e => by cases e; have := lo.out; omega)).grown gr9 (Nat.le_trans BW.out.size gr8.size) (fun q e => by cases e; have := lo.out; omega))
        replace G4 := Lib.hid G4
        replace G5 := Lib.hid G5
        replace G8 := Lib.hid G8
        replace g8 := Lib.hid g8
        replace g8' := Lib.hid g8'
        replace g9 := Lib.hid g9
        clear gr8 gr9 gs8 gs9
        go_wp2_with fail
        refine bodyPost_ret (v := .tuple #[.agg #[.int .u8 0, .int .u32 0, .int .u32 0], .agg #[.int .u8 0, .int .u32 0, .int .u32 0], .bool false]) (by simp [results, go_sem, n0, n1, n2, o0, o1, o2]) rfl ?_
        exact ends_ret (keyZ) (keyZ) false (hR.out.trans hf.out) hB9.out
      have e2 : ((mb : Int) == 0) = false := by simpa using hz
      replace hz := Lib.hid hz
      have hspan := Lib.hid (hsy.out rfl hv.out)
      have hmb' := Lib.hid (hmy.out rfl)
      obtain ⟨c3, c4⟩ := (H5.out.at 6 rfl : BoxF Be (cloE Bs Be) w5)
      have hcall := Lib.hid (hrec.out (.agg #[.int .i64 lb, .slice Z mb zc]) v0 v1 v2 v3 nb Bs Be w5 hmb'.out (by rw [hlb.out, hv.out]) (by rw [hmb.out]; exact hz.out) (H5.out.at 1 rfl) (H5.out.at 10 rfl) (H5.out.at 7 rfl) (H5.out.at 6 rfl))
      clear hsn hsy hmy
      go_upto_region 9 with fail
      clear e1 e2 f0 f1
      go_wp2_with fail
      with_reducible refine hcall.out.mono ?_
      rintro e w6 ⟨f', t', ok, rfl, hsp, hb6⟩
      obtain ⟨w7, hw7, p0, p1, p2, hs7, hB7, _⟩ := box_three w6 (.int .u8 (f'.1.toNat : Int)) (.int .u32 f'.2.1) (.int .u32 f'.2.2) 37
      have hg7 := ((H5.out.below hb6).below hB7).add (F := Box3 w6.heap.size _ _ _) ⟨p0, p1, p2, by omega⟩ (lasts_box3 _ _ _ _)
      obtain ⟨w8, hw8, hg8, hB8, hB8', hs8⟩ := bag_key hg7 (Below.refl _ _) (.int .u8 (t'.1.toNat : Int)) (.int .u32 t'.2.1) (.int .u32 t'.2.2)
      have H8 := Lib.hid hg8
      have hb8 := hb6.trans ((hB7.trans (hB8.mono hB7.size)).mono hb6.size)
      have B8 := Lib.hid (B5.out.trans (hb8.mono B5.out.size))
      have S8 := Lib.hid (Nat.le_trans S5.out hb8.size)
      replace hs8 := Lib.hid hs8
      clear p0 p1 p2 hg7 hg8 hB7 hB8 hB8' hb6 hb8 y0 y1 c3 c4 hcall H5 B5 S5
      go_upto_region 10 with fail
      clear hw7 hw8
      obtain ⟨p0, p1, p2, _⟩ := H8.out.at 1 rfl
      obtain ⟨q0, q1, q2, _⟩ := H8.out.at 0 rfl
      rw [hs7] at q0 q1 q2
      replace hs7 := Lib.hid hs7
      obtain ⟨r0, r1, r2, r3, r4, _⟩ := H8.out.at 4 rfl
      have hg2 : w8.heap[w1.heap.size]? = _ := H8.out.at 7 rfl
      obtain ⟨d0, d1, d2, d3, _⟩ := three_cells hg2
      have G4 : w8.heap[w0.heap.size]? = _ := H8.out.at 6 rfl
      have G5 : w8.heap[w1.heap.size]? = _ := H8.out.at 7 rfl
      have BW := Lib.hid B8.out
      replace hg2 := Lib.hid hg2
      cases ok with
      | false =>
        have hf := Lib.hid (hno1.out (hspan.out.trans hsp))
        clear d3 hno2 hno3 hyes
        obtain ⟨W8, hW8, g8, gr8, gs8⟩ := put_three (a' := .int .u8 0) (b' := .int .u32 0) (c' := .int .u32 0) G4
        have G8 : W8.heap[w1.heap.size]? = _ := (gr8.block w1.heap.size (Array.getElem?_eq_some_iff.1 G5).1 (by simp; have := lo.out; omega)).trans G5
        obtain ⟨W9, hW9, g9, gr9, gs9⟩ := put_three (a' := .int .u8 0) (b' := .int .u32 0) (c' := .int .u32 0) G8
        have g8' : W9.heap[w0.heap.size]? = _ := (gr9.block w0.heap.size (Array.getElem?_eq_some_iff.1 g8).1 (by simp; have := lo.out; omega)).trans g8
        obtain ⟨f4, f5, f6, f7, _⟩ := three_cells G4
        obtain ⟨j4, j5, j6, j7, _⟩ := three_cells G8
        obtain ⟨n0, n1, n2, _, _⟩ := three_cells g8'
        obtain ⟨o0, o1, o2, _, _⟩ := three_cells g9
        have hB9 := Lib.hid ((BW.out.grown gr8 BW.out.size (fun q e => by cases e; have := lo.out; omega)).grown gr9 (Nat.le_trans BW.out.size gr8.size) (fun q e => by cases e; have := lo.out; omega))
        replace G4 := Lib.hid G4
        replace G5 := Lib.hid G5
        replace G8 := Lib.hid G8
        replace g8 := Lib.hid g8
        replace g8' := Lib.hid g8'
        replace g9 := Lib.hid g9
        clear gr8 gr9 gs8 gs9
        go_wp2_with fail
        refine bodyPost_ret (v := .tuple #[.agg #[.int .u8 0, .int .u32 0, .int .u32 0], .agg #[.int .u8 0, .int .u32 0, .int .u32 0], .bool false]) (by simp [results, go_sem, n0, n1, n2, o0, o1, o2]) rfl ?_
        exact ends_ret (keyZ) (keyZ) false (hR.out.trans hf.out) hB9.out
      | true =>
      have hsp' := Lib.hid (hspan.out.trans (hsp.trans (if_pos rfl)))
      have hke := key_eq f' x.1
      have hkg := key_guard
      unfold kyV at hke
      by_cases hkk : f' = x.1
      case neg =>
        have g3 : decide (f' = x.1) = false := by simpa using hkk
        rw [g3] at hke
        have hf := Lib.hid (hno2.out _ hsp'.out hkk)
        clear d3 hkk hno1 hno2 hno3 hyes
        obtain ⟨W8, hW8, g8, gr8, gs8⟩ := put_three (a' := .int .u8 0) (b' := .int .u32 0) (c' := .int .u32 0) G4
        have G8 : W8.heap[w1.heap.size]? = _ := (gr8.block w1.heap.size (Array.getElem?_eq_some_iff.1 G5).1 (by simp; have := lo.out; omega)).trans G5
        obtain ⟨W9, hW9, g9, gr9, gs9⟩ := put_three (a' := .int .u8 0) (b' := .int .u32 0) (c' := .int .u32 0) G8
        have g8' : W9.heap[w0.heap.size]? = _ := (gr9.block w0.heap.size (Array.getElem?_eq_some_iff.1 g8).1 (by simp; have := lo.out; omega)).trans g8
        obtain ⟨f4, f5, f6, f7, _⟩ := three_cells G4
        obtain ⟨j4, j5, j6, j7, _⟩ := three_cells G8
        obtain ⟨n0, n1, n2, _, _⟩ := three_cells g8'
        obtain ⟨o0, o1, o2, _, _⟩ := three_cells g9
        have hB9 := Lib.hid ((BW.out.grown gr8 BW.out.size (fun q e => by cases e; have := lo.out; omega)).grown gr9 (Nat.le_trans BW.out.size gr8.size) (fun q e => by cases e; have := lo.out; omega))
        replace G4 := Lib.hid G4
        replace G5 := Lib.hid G5
        replace G8 := Lib.hid G8
        replace g8 := Lib.hid g8
        replace g8' := Lib.hid g8'
        replace g9 := Lib.hid g9
        clear gr8 gr9 gs8 gs9
        go_wp2_with fail
        refine bodyPost_ret (v := .tuple #[.agg #[.int .u8 0, .int .u32 0, .int .u32 0], .agg #[.int .u8 0, .int .u32 0, .int .u32 0], .bool false]) (by simp [results, go_sem, n0, n1, n2, o0, o1, o2]) rfl ?_
        exact ends_ret (keyZ) (keyZ) false (hR.out.trans hf.out) hB9.out
      have g3 : decide (f' = x.1) = true := by simpa using hkk
      rw [g3] at hke
      have hkk' := Lib.hid hkk
      clear hkk hno1 hno2 hsp
      by_cases hk0 : k = 0
      · have i0 : ¬ (0 : Int) < (k : Int) := by omega
        have hn := Lib.hid (hyes.out (f', t') (fun hh => absurd hk0 hh) hsp'.out hkk'.out)
        have hk0' := Lib.hid hk0
        clear hk0
        obtain ⟨W9, hW9, g9, gr9, gs9⟩ := put_three (a' := .int .u8 (t'.1.toNat : Int)) (b' := .int .u32 t'.2.1) (c' := .int .u32 t'.2.2) hg2.out
        have hB9 := Lib.hid (BW.out.grown gr9 BW.out.size (fun q e => by cases e; have := lo.out; omega))
        have S9 := Lib.hid (Nat.le_trans S8.out gr9.size)
        have b9 := Lib.hid ((gr9.block w.heap.size (by have := lo.out; have := S8.out; omega) (by simp; have := lo.out; omega)).trans (H8.out.at 5 rfl))
        have c9 := Lib.hid ((gr9.block w0.heap.size (by have := lo.out; have := S8.out; omega) (by simp; have := lo.out; omega)).trans (H8.out.at 6 rfl))
        replace g9 := Lib.hid g9
        clear gr9 gs9
        go_wp2_with fail
        go_roundw
        case rel => exact ⟨k + 1, t', by omega, by go_num, hn.out, hB9.out, S9.out, b9.out, c9.out, g9.out⟩
        case measure => simp [intOf]; omega
      · have i0 : (0 : Int) < (k : Int) := by omega
        obtain ⟨q, hq⟩ : ∃ q, lessK t x.1 = q := ⟨_, rfl⟩
        have hls := Lib.hid (less_any t x.1 w8)
        rw [hq] at hls
        go_wp2_with fail
        with_reducible refine hls.out.mono ?_
        rintro e w9 ⟨rfl, hb9⟩
        cases q with
        | false =>
          have hf := Lib.hid (hno3.out hk0 hq)
          replace G4 := (hb9.block w0.heap.size (by have := lo.out; have := S8.out; omega)).trans G4
          replace G5 := (hb9.block w1.heap.size (by have := lo.out; have := S8.out; omega)).trans G5
          replace BW := Lib.hid (B8.out.trans (hb9.mono B8.out.size))
          replace hq := Lib.hid hq
          clear d0 d1 d2 d3 hb9 hno3 hyes hk0
          obtain ⟨W8, hW8, g8, gr8, gs8⟩ := put_three (a' := .int .u8 0) (b' := .int .u32 0) (c' := .int .u32 0) G4
          have G8 : W8.heap[w1.heap.size]? = _ := (gr8.block w1.heap.size (Array.getElem?_eq_some_iff.1 G5).1 (by simp; have := lo.out; omega)).trans G5
          obtain ⟨W9, hW9, g9, gr9, gs9⟩ := put_three (a' := .int .u8 0) (b' := .int .u32 0) (c' := .int .u32 0) G8
          have g8' : W9.heap[w0.heap.size]? = _ := (gr9.block w0.heap.size (Array.getElem?_eq_some_iff.1 g8).1 (by simp; have := lo.out; omega)).trans g8
          obtain ⟨f4, f5, f6, f7, _⟩ := three_cells G4
          obtain ⟨j4, j5, j6, j7, _⟩ := three_cells G8
          obtain ⟨n0, n1, n2, _, _⟩ := three_cells g8'
          obtain ⟨o0, o1, o2, _, _⟩ := three_cells g9
          have hB9 := Lib.hid ((BW.out.grown gr8 BW.out.size (fun q e => by cases e; have := lo.out; omega)).grown gr9 (Nat.le_trans BW.out.size gr8.size) (fun q e => by cases e; have := lo.out; omega))
          replace G4 := Lib.hid G4
          replace G5 := Lib.hid G5
          replace G8 := Lib.hid G8
          replace g8 := Lib.hid g8
          replace g8' := Lib.hid g8'
          replace g9 := Lib.hid g9
          clear gr8 gr9 gs8 gs9
          go_wp2_with fail
          refine bodyPost_ret (v := .tuple #[.agg #[.int .u8 0, .int .u32 0, .int .u32 0], .agg #[.int .u8 0, .int .u32 0, .int .u32 0], .bool false]) (by simp [results, go_sem, n0, n1, n2, o0, o1, o2]) rfl ?_
          exact ends_ret (keyZ) (keyZ) false (hR.out.trans hf.out) hB9.out
        | true =>
          have hn := Lib.hid (hyes.out (f', t') (fun _ => hq) hsp'.out hkk'.out)
          replace H8 := Lib.hid (H8.out.below hb9)
          replace B8 := Lib.hid (B8.out.trans (hb9.mono B8.out.size))
          replace S8 := Lib.hid (Nat.le_trans S8.out hb9.size)
          replace BW := Lib.hid B8.out
          replace hq := Lib.hid hq
          replace hg2 : Hid (w9.heap[w1.heap.size]? = _) := Lib.hid (H8.out.at 7 rfl)
          clear hb9 p0 p1 p2 q0 q1 q2 r0 r1 r2 r3 r4 d0 d1 d2 d3 G4 G5 hno3 hyes hk0
          obtain ⟨q0, q1, q2, _⟩ := H8.out.at 0 rfl
          rw [hs7.out] at q0 q1 q2
          obtain ⟨d0, d1, d2, d3, _⟩ := three_cells hg2.out
          obtain ⟨W9, hW9, g9, gr9, gs9⟩ := put_three (a' := .int .u8 (t'.1.toNat : Int)) (b' := .int .u32 t'.2.1) (c' := .int .u32 t'.2.2) hg2.out
          have hB9 := Lib.hid (BW.out.grown gr9 BW.out.size (fun q e => by cases e; have := lo.out; omega))
          have S9 := Lib.hid (Nat.le_trans S8.out gr9.size)
          have b9 := Lib.hid ((gr9.block w.heap.size (by have := lo.out; have := S8.out; omega) (by simp; have := lo.out; omega)).trans (H8.out.at 5 rfl))
          have c9 := Lib.hid ((gr9.block w0.heap.size (by have := lo.out; have := S8.out; omega) (by simp; have := lo.out; omega)).trans (H8.out.at 6 rfl))
          replace g9 := Lib.hid g9
          clear gr9 gs9
          go_wp2_with fail
          go_roundw
          case rel => exact ⟨k + 1, t', by omega, by go_num, hn.out, hB9.out, S9.out, b9.out, c9.out, g9.out⟩
          case measure => simp [intOf]; omega
theorem ends_any (s : Rm) (hm : mayR s = true) : ∀ l : Nat, EndsIs s l := by
  intro l
  induction l using Nat.strongRecOn with
  | ind l ih => exact ends_step s hm l fun j hj => ih j (by omega)
end Go.Proofs.Ytncnoingbaeomaa

/-
  Package find: stands, Check. Conditions: those that each lemma states.
-/
namespace Go.Proofs.Ytncnoingbaeomaa
open Go.RowKit

theorem reN_eight {b : List UInt8} (h : b.length = 128) (hr : reN b ≠ 0) : reN b = 8 := by
  by_cases ho : oe b = 0
  · cases h1 : rdN (ob b) with
    | false => exact (reN_bad ho h1).1
    | true => exact absurd (reN_good ho h1).1 hr
  · have h8 : oe b = 8 := by
      unfold oe at ho ⊢
      rw [if_pos h] at ho ⊢
      split at ho
      · exact absurd rfl ho
      · rename_i hf
        rw [if_neg hf]
    rw [(reN_open ho).1, h8]
theorem box_one (w : World) (v : Value) (t : TypeId) : ∃ w1, w.alloc (.cells #[v] t) = w1 ∧ w1.cell? ⟨w.heap.size, 0, none⟩ = some v ∧ w1.heap.size = w.heap.size + 1 ∧ Below w.heap.size w w1 :=
  ⟨_, rfl, by simp, by simp, (Below.refl _ _).alloc (Nat.le_refl _) _⟩

set_option maxRecDepth 100000 in
set_option maxHeartbeats 8000000 in
theorem stands_any (v u : Value) (s : Rm) (hm : mayR s = true) (n : Nd) (hn : mayN n = true) (w : World) (h : Sto (Old w) w v s) (hu : Nod (Old w) w u n) :
    Calls Try.prog 27 #[v, u] w fun e w' => e = .returned (.bool (standsN s n)) ∧ Below w.heap.size w w' := by
  have hmf : ∀ (fn : Fn) (first cap : Array Value) (w : World), (Instr.makeFunc fn first cap).run Try.prog w = .ok (.func fn first cap) w := fun _ _ _ _ => rfl
  have hsf : ∀ (a : Addr) (fn : Fn) (x y : Array Value) (w : World), (store a (.func fn x y)).run Try.prog w = stored Try.prog w a (.func fn x y) .plain := fun _ _ _ _ _ => run_store _ _ _ _ _ rfl
  obtain ⟨A, ca, B, cb, N, cn, L, cl, rfl, _⟩ := id h.open
  obtain ⟨I, ci, rfl, -, -, -, hI⟩ := id hu.open
  obtain ⟨lw, hlw⟩ : ∃ q, n.1 = q := ⟨_, rfl⟩
  obtain ⟨m, hlm⟩ : ∃ q, n.2.length = q := ⟨_, rfl⟩
  have hlv : 0 ≤ lw := by rw [← hlw]; exact (mayN_of hn).1.1
  have hst : standsN s n = (decide (m = 0) || (spanN s n).isSome) := by rw [standsN, hlm]
  have hu' := hu
  rw [hlw, hlm] at hu'
  rw [hlw, hlm, hst]
  clear hI hst
  have HG0 : Bag w [OldN (.agg #[.int .i64 lw, .slice I m ci]) n, OldR (.agg #[.slice A s.1.1.length ca, .slice B s.1.2.length cb, .slice N s.2.1.length cn, .slice L s.2.2.length cl]) s] := ((Bag.nil w).add (F := OldR _ s) h (lasts_oldR _ _)).add (F := OldN _ n) hu' (lasts_oldN _ _)
  obtain ⟨w0, hw0, hg0, hB0, _, hs0⟩ := bag_four HG0 (Below.refl _ _) (.slice A s.1.1.length ca) (.slice B s.1.2.length cb) (.slice N s.2.1.length cn) (.slice L s.2.2.length cl) 29
  obtain ⟨w1, hw1, hg1, hB1, _, hs1⟩ := bag_node hg0 (Below.refl _ _) (.int .i64 lw) (.slice I m ci)
  obtain ⟨w2, hw2, q0, hs2, hB2⟩ := box_one w1 (cloE w.heap.size w1.heap.size) 94
  have HG := Lib.hid ((hg1.below hB2).add (F := BoxF w1.heap.size (cloE w.heap.size w1.heap.size)) ⟨q0, by omega⟩ (lasts_boxF _ _))
  have BB := Lib.hid ((hB0.trans (hB1.mono hB0.size)).trans (hB2.mono (hB0.trans (hB1.mono hB0.size)).size))
  replace hs2 := Lib.hid hs2
  replace hs1 := Lib.hid hs1
  replace hs0 := Lib.hid hs0
  replace hlw := Lib.hid hlw
  replace hlm := Lib.hid hlm
  clear HG0 hg1 hg0 h hu hu' hB2 hB1 hB0 q0
  go_enter Try.func27, Try.ntmps27
  go_upto_region 3 with fail
  clear hw0 hw1 hw2
  obtain ⟨q0, _⟩ := HG.out.at 0 rfl
  obtain ⟨y0, y1, _⟩ := HG.out.at 1 rfl
  by_cases hm0 : m = 0
  · have c0 : ((m : Int) == 0) = true := by simp [hm0]
    have hf : Hid ((decide (m = 0) || (spanN s n).isSome) = true) := Lib.hid (by simp [hm0])
    replace hm0 := Lib.hid hm0
    go_wp2_with fail
    go_ret
    exact ⟨ret_bool hf.out.symm, BB.out⟩
  have c0 : ((m : Int) == 0) = false := by simpa using hm0
  have hf : Hid ((decide (m = 0) || (spanN s n).isSome) = (spanN s n).isSome) := Lib.hid (by simp [hm0])
  have hcall := Lib.hid (ends_any s hm lw.toNat (.agg #[.int .i64 lw, .slice I m ci]) _ _ _ _ n w.heap.size w1.heap.size w2 hn (by rw [hlw.out]; omega) (by rw [hlm.out]; exact hm0) (HG.out.at 3 rfl) (HG.out.at 4 rfl) (HG.out.at 2 rfl) (HG.out.at 0 rfl))
  replace hm0 := Lib.hid hm0
  go_wp2_with fail
  with_reducible refine hcall.out.mono ?_
  rintro e w3 ⟨f, t, ok, rfl, hsp, hb3⟩
  have B3 := Lib.hid (BB.out.trans (hb3.mono BB.out.size))
  obtain ⟨w4, hw4, p0, p1, p2, hs4, hB4, _⟩ := box_three w3 (.int .u8 (f.1.toNat : Int)) (.int .u32 f.2.1) (.int .u32 f.2.2) 37
  obtain ⟨w5, hw5, r0, r1, r2, hs5, hB5, _⟩ := box_three w4 (.int .u8 (t.1.toNat : Int)) (.int .u32 t.2.1) (.int .u32 t.2.2) 37
  have B5 := Lib.hid (B3.out.trans ((hB4.trans (hB5.mono hB4.size)).mono B3.out.size))
  have hfin : Hid ((spanN s n).isSome = ok) := Lib.hid (by rw [hsp]; cases ok <;> rfl)
  replace hsp := Lib.hid hsp
  replace hs5 := Lib.hid hs5
  clear hB4 hB5 hb3 p0 p1 p2 r0 r1 r2
  go_upto_region 6 with fail
  clear hw4 hw5
  go_wp2_with fail
  go_ret
  exact ⟨ret_bool (by rw [hf.out, hfin.out]), B5.out⟩

set_option maxRecDepth 100000 in
set_option maxHeartbeats 8000000 in
theorem findCheck_any (v : Value) (s : Rm) (a : Int) (w : World) (h : Sto (Old w) w v s) :
    Calls Try.prog 10 #[v, .int .i64 a] w fun e w' => e = .returned (.tuple #[.int .i64 (ckH s a), .int .i64 (ckE s a)]) ∧ Below w.heap.size w w' := by
  obtain ⟨A, ca, B, cb, N, cn, L, cl, rfl, _⟩ := id h.open
  have hNd := Lib.hid (fun v W hW => nodeR_open v s a W hW)
  have hway : Hid ((rmE s a ≠ 0 ∧ ckE s a = rmE s a ∧ ckH s a = 0) ∨ (rmE s a = 0 ∧ mayR s = true ∧ mayN (rmV s a) = true ∧ 0 ≤ (rmV s a).1 ∧ (rmV s a).1 < 6 ∧ standsN s (rmV s a) = false ∧ ckE s a = 8 ∧ ckH s a = 0) ∨
      (rmE s a = 0 ∧ mayR s = true ∧ mayN (rmV s a) = true ∧ 0 ≤ (rmV s a).1 ∧ (rmV s a).1 < 6 ∧ standsN s (rmV s a) = true ∧ ckE s a = 0 ∧ ckH s a = (rmV s a).1 + 1)) := Lib.hid (by
    by_cases ha : asE s a = 0
    · by_cases hr : rmE s a = 0
      · obtain ⟨hmn, _⟩ := rm_may hr
        have hst := stands_tree hr
        obtain ⟨k, _, hm, _⟩ := as_read ha
        have hsh := (mayN_of hmn).1
        cases ht : treeO s a with
        | false => exact .inr (.inl ⟨hr, hm, hmn, hsh.1, hsh.2.1, hst.trans ht, (ck_bad ha ht).1, (ck_bad ha ht).2⟩)
        | true => exact .inr (.inr ⟨hr, hm, hmn, hsh.1, hsh.2.1, hst.trans ht, (ck_ok ha ht).1, (ck_ok ha ht).2⟩)
      · obtain ⟨k, _, hm, _, h256, _, _, hE, _, _⟩ := as_read ha
        have h8 : rmE s a = 8 := by
          rw [hE] at hr ⊢
          exact reN_eight (seen_128 (mayR_of hm).1 h256) hr
        obtain ⟨h1, h2⟩ := ck_bad ha (tree_no hr)
        exact .inl ⟨hr, h1.trans h8.symm, h2⟩
    · obtain ⟨hE, _⟩ := rm_bad ha
      obtain ⟨h1, h2⟩ := ck_no ha
      exact .inl ⟨by rw [hE]; exact ha, h1.trans hE.symm, h2⟩)
  obtain ⟨nd, hnd⟩ : ∃ q, rmV s a = q := ⟨_, rfl⟩
  obtain ⟨E0, hE0⟩ : ∃ q, rmE s a = q := ⟨_, rfl⟩
  obtain ⟨cE, hcE⟩ : ∃ q, ckE s a = q := ⟨_, rfl⟩
  obtain ⟨cH, hcH⟩ : ∃ q, ckH s a = q := ⟨_, rfl⟩
  rw [hnd, hE0] at hNd hway
  rw [hcE, hcH] at hway ⊢
  obtain ⟨lw, hlw⟩ : ∃ q, nd.1 = q := ⟨_, rfl⟩
  obtain ⟨m, hlm⟩ : ∃ q, nd.2.length = q := ⟨_, rfl⟩
  rw [hlw, hlm] at hNd
  rw [hlw] at hway
  have HG0 : Bag w [OldR (.agg #[.slice A s.1.1.length ca, .slice B s.1.2.length cb, .slice N s.2.1.length cn, .slice L s.2.2.length cl]) s] := (Bag.nil w).add (F := OldR _ s) h (lasts_oldR _ _)
  obtain ⟨w0, hw0, hg0, hB0, _, hs0⟩ := bag_four HG0 (Below.refl _ _) (.slice A s.1.1.length ca) (.slice B s.1.2.length cb) (.slice N s.2.1.length cn) (.slice L s.2.2.length cl) 29
  have HG := Lib.hid hg0
  have BB := Lib.hid hB0
  obtain ⟨s0, s1, s2, s3, _⟩ := HG.out.at 0 rfl
  replace hs0 := Lib.hid hs0
  replace hnd := Lib.hid hnd
  replace hE0 := Lib.hid hE0
  replace hcE := Lib.hid hcE
  replace hcH := Lib.hid hcH
  replace hlw := Lib.hid hlw
  replace hlm := Lib.hid hlm
  clear HG0 hg0 h hB0
  go_enter Try.func10, Try.ntmps10
  go_upto_region 1 with fail
  clear hw0
  go_wp2_with fail
  with_reducible refine (hNd.out _ _ (HG.out.at 1 rfl)).mono ?_
  rintro e w3 ⟨Z, zc, rfl, -, h3n, hb3⟩
  obtain ⟨w4, hw4, hg4, hb4, -, hs4⟩ := bag_node ((HG.out.below hb3).add (F := OldN _ nd) h3n.drop (lasts_oldN _ _)) (Below.refl _ _) (.int .i64 lw) (.slice Z m zc)
  replace HG := Lib.hid hg4
  replace BB := Lib.hid (BB.out.trans ((hb3.trans (hb4.mono hb3.size)).mono BB.out.size))
  replace hs4 := Lib.hid hs4
  clear hg4 hb4 hb3 h3n s0 s1 s2 s3 hNd
  go_upto_region 2 with fail
  clear hw4
  rcases hway.out with ⟨he, h1, h2⟩ | ⟨he, hm, hmn, l0, l6, hst, h1, h2⟩ | ⟨he, hm, hmn, l0, l6, hst, h1, h2⟩
  · have e1 : (E0 != 0) = true := by simpa using he
    replace h1 := Lib.hid h1
    replace h2 := Lib.hid h2
    clear he hway
    go_wp2_with fail
    go_ret2
    exact ⟨by rw [h1.out, h2.out]; rfl, BB.out⟩
  · have hcall := Lib.hid (stands_any _ _ s hm nd hmn w4 (HG.out.at 3 rfl) (HG.out.at 1 rfl))
    rw [hst] at hcall
    subst he
    obtain ⟨y0, y1, _⟩ := HG.out.at 0 rfl
    obtain ⟨s0, s1, s2, s3, _⟩ := HG.out.at 2 rfl
    replace h1 := Lib.hid h1
    replace h2 := Lib.hid h2
    clear hway hst hm hmn l0 l6
    go_wp2_with fail
    with_reducible refine hcall.out.mono ?_
    rintro e w5 ⟨rfl, hb5⟩
    have B5 := Lib.hid (BB.out.trans (hb5.mono BB.out.size))
    clear hb5
    go_wp2_with fail
    go_ret2
    exact ⟨by rw [h1.out, h2.out]; rfl, B5.out⟩
  · have hcall := Lib.hid (stands_any _ _ s hm nd hmn w4 (HG.out.at 3 rfl) (HG.out.at 1 rfl))
    rw [hst] at hcall
    subst he
    obtain ⟨y0, y1, _⟩ := HG.out.at 0 rfl
    obtain ⟨s0, s1, s2, s3, _⟩ := HG.out.at 2 rfl
    have i9 : IntKind.i64.wrap (lw + 1) = lw + 1 := IntWalk.i64_in _ (by omega)
    replace h1 := Lib.hid h1
    replace h2 := Lib.hid h2
    clear hway hst hm hmn l0 l6
    go_wp2_with fail
    with_reducible refine hcall.out.mono ?_
    rintro e w5 ⟨rfl, hb5⟩
    have B5 := Lib.hid (BB.out.trans (hb5.mono BB.out.size))
    have HG5 := HG.out.below hb5
    clear hb5 y0 y1
    obtain ⟨y0, y1, _⟩ := HG5.at 0 rfl
    clear HG5
    go_wp2_with fail
    go_ret2
    exact ⟨by rw [h1.out, h2.out]; rfl, B5.out⟩
end Go.Proofs.Ytncnoingbaeomaa

/-
  The document's Find of layer 10. Conditions: those that each lemma states.
-/
namespace Go.Proofs.Ytncnoingbaeomaa
open Go.RowKit

noncomputable def fdE (s : Rm) (a : Int) (k : Ky) : Int := if ckE s a = 0 then (if (theO s a k).isSome = true then 0 else 6) else ckE s a
noncomputable def fdV (s : Rm) (a : Int) (k : Ky) : It := if ckE s a = 0 then (theO s a k).getD zeroI else zeroI
theorem fd_bad {s : Rm} {a : Int} {k : Ky} (h : ckE s a ≠ 0) : fdE s a k = ckE s a ∧ fdV s a k = zeroI := ⟨by rw [fdE, if_neg h], by rw [fdV, if_neg h]⟩
theorem fd_some {s : Rm} {a : Int} {k : Ky} {x : It} (h : ckE s a = 0) (hx : theO s a k = some x) : fdE s a k = 0 ∧ fdV s a k = x := ⟨by rw [fdE, if_pos h, hx]; rfl, by rw [fdV, if_pos h, hx]; rfl⟩
theorem fd_none {s : Rm} {a : Int} {k : Ky} (h : ckE s a = 0) (hx : theO s a k = none) : fdE s a k = 6 ∧ fdV s a k = zeroI := ⟨by rw [fdE, if_pos h, hx]; rfl, by rw [fdV, if_pos h, hx]; rfl⟩
end Go.Proofs.Ytncnoingbaeomaa

/-
  Package find: Find. Conditions: those that each lemma states.
-/
namespace Go.Proofs.Ytncnoingbaeomaa
open Go.RowKit

theorem nodePlace_open (v : Value) (n : Nd) (key : Ky) (w : World) (h : Nod (Old w) w v n) :
    Calls Try.prog 28 #[v, kyV key] w fun e w' => e = .returned (.tuple #[.int .i64 (placeN n key : Nat), .bool (thereN n key)]) ∧ Below w.heap.size w w' := nodePlace_any v n key w h

set_option maxRecDepth 100000 in
set_option maxHeartbeats 8000000 in
theorem findFind_any (v : Value) (s : Rm) (a : Int) (key : Ky) (w : World) (h : Sto (Old w) w v s) :
    Calls Try.prog 11 #[v, .int .i64 a, kyV key] w fun e w' => ∃ u, e = .returned (.tuple #[u, .int .i64 (fdE s a key)]) ∧ Itm (New w.heap.size w') w' u (fdV s a key) ∧ Below w.heap.size w w' := by
  obtain ⟨A, ca, B, cb, N, cn, L, cl, rfl, _⟩ := id h.open
  have hCk := Lib.hid (fun v W hW => findCheck_any v s a W hW)
  have hct := Lib.hid (fun hh => ck_of (s := s) (a := a) hh)
  have hta := Lib.hid (fun ht => tree_at (s := s) (a := a) ht)
  have htl := Lib.hid (fun ht => tree_of (s := s) (a := a) ht)
  have hfb := Lib.hid (fun hh => fd_bad (s := s) (a := a) (k := key) hh)
  have hfs := Lib.hid (fun x hh hx => fd_some (s := s) (a := a) (k := key) (x := x) hh hx)
  have hfn := Lib.hid (fun hh hx => fd_none (s := s) (a := a) (k := key) hh hx)
  obtain ⟨T, hT⟩ : ∃ T, theO s a key = T := ⟨_, rfl⟩
  have hT' : Hid (oneO s (rmV s a).1.toNat a key = T) := Lib.hid hT
  rw [hT] at hfs hfn
  obtain ⟨E0, hE0⟩ : ∃ q, ckE s a = q := ⟨_, rfl⟩
  obtain ⟨H0, hH0⟩ : ∃ q, ckH s a = q := ⟨_, rfl⟩
  rw [hE0] at hCk hct hfb hfs hfn
  rw [hH0] at hCk hct
  obtain ⟨E1, hE1⟩ : ∃ q, fdE s a key = q := ⟨_, rfl⟩
  obtain ⟨V1, hV1⟩ : ∃ q, fdV s a key = q := ⟨_, rfl⟩
  rw [hE1, hV1] at hfb hfs hfn ⊢
  have HG0 : Bag w [OldR (.agg #[.slice A s.1.1.length ca, .slice B s.1.2.length cb, .slice N s.2.1.length cn, .slice L s.2.2.length cl]) s] := (Bag.nil w).add (F := OldR _ s) h (lasts_oldR _ _)
  obtain ⟨w0, hw0, hg0, hB0, _, hs0⟩ := bag_four HG0 (Below.refl _ _) (.slice A s.1.1.length ca) (.slice B s.1.2.length cb) (.slice N s.2.1.length cn) (.slice L s.2.2.length cl) 29
  obtain ⟨w1, hw1, hg1, hB1, _, hs1⟩ := bag_key hg0 (Below.refl _ _) (.int .u8 (key.1.toNat : Int)) (.int .u32 key.2.1) (.int .u32 key.2.2)
  obtain ⟨w2, hw2, _, _, _, _, _, hs2, hB2, G2⟩ := box_five w1 (.int .u8 0) (.int .u32 0) (.int .u32 0) (.int .i64 0) (.slice none 0 0) 39
  have HG := Lib.hid ((hg1.below hB2).add (F := BoxW w1.heap.size _ _) G2 (lasts_boxW _ _ _))
  have BB := Lib.hid ((hB0.trans (hB1.mono hB0.size)).trans (hB2.mono (hB0.trans (hB1.mono hB0.size)).size))
  have lo1 : Hid (w.heap.size ≤ w1.heap.size ∧ w1.heap.size < w2.heap.size) := Lib.hid ⟨(hB0.trans (hB1.mono hB0.size)).size, by omega⟩
  obtain ⟨s0, s1, s2, s3, _⟩ := HG.out.at 2 rfl
  replace hs2 := Lib.hid hs2
  replace hs1 := Lib.hid hs1
  replace hs0 := Lib.hid hs0
  replace hE0 := Lib.hid hE0
  replace hH0 := Lib.hid hH0
  replace hE1 := Lib.hid hE1
  replace hV1 := Lib.hid hV1
  replace hT := Lib.hid hT
  clear HG0 hg1 hg0 h hB2 hB1 hB0 G2
  unfold kyV
  go_enter Try.func11, Try.ntmps11
  go_wp2_with fail
  go_step3
  go_upto_region 1 with fail
  clear hw0 hw1 hw2
  go_wp2_with fail
  with_reducible refine (hCk.out _ _ (HG.out.at 3 rfl)).mono ?_
  rintro e w3 ⟨rfl, hb3⟩
  have HR := Lib.hid (HG.out.below hb3)
  have BR := Lib.hid (BB.out.trans (hb3.mono BB.out.size))
  have lo3 : Hid (w1.heap.size < w3.heap.size ∧ w.heap.size ≤ w3.heap.size) := Lib.hid ⟨by have := lo1.out; have := hb3.size; omega, BR.out.size⟩
  clear hb3 s0 s1 s2 s3 hCk HG
  by_cases he : E0 = 0
  case neg =>
    have hq1 : (E0 != 0) = true := by simpa using he
    have hf := Lib.hid (hfb.out he)
    have G5 : w3.heap[w1.heap.size]? = _ := HR.out.at 0 rfl
    obtain ⟨W9, hW9, g9, gr9, gs9⟩ := put_five (u0 := .int .u8 0) (u1 := .int .u32 0) (u2 := .int .u32 0) (u3 := .int .i64 0) (u4 := .slice none 0 0) G5
    obtain ⟨n0, n1, n2, n3, n4, _⟩ := five_cells g9
    obtain ⟨f0, f1, f2, f3, f4, f5, _⟩ := five_cells G5
    have hB9 := Lib.hid (BR.out.grown gr9 BR.out.size (fun q e => by cases e; exact lo1.out.1))
    replace G5 := Lib.hid G5
    replace g9 := Lib.hid g9
    clear gr9 gs9 he
    go_wp2_with fail
    rw [Exit.noGoto_ret]
    refine bodyPost_ret (v := .tuple #[.agg #[.int .u8 0, .int .u32 0, .int .u32 0, .int .i64 0, .slice none 0 0], .int .i64 E0]) (by simp [results, Try.results11, go_sem, n0, n1, n2, n3, n4]) rfl ?_
    rw [hf.out.1, hf.out.2]
    exact ⟨_, rfl, itm_zero _ _, hB9.out⟩
  obtain ⟨ht, _, hh⟩ := hct.out he
  have hat := Lib.hid (hta.out ht)
  obtain ⟨_, _, _, l0, l6, _⟩ := htl.out ht
  have hfs' := Lib.hid (fun x hx => hfs.out x he hx)
  have hfn' := Lib.hid (fun hx => hfn.out he hx)
  subst he
  obtain ⟨M, hM⟩ : ∃ M, (rmV s a).1.toNat = M := ⟨_, rfl⟩
  rw [hM] at hat hT'
  have hHM : Hid (H0 = (M : Int) + 1) := Lib.hid (by omega)
  have hM6 : Hid (M < 6) := Lib.hid (by omega)
  replace hM := Lib.hid hM
  clear ht hh l0 l6 hct hta htl hfs hfn hfb
  go_wp2_with fail
  go_step3
  go_wp2_with fail
  go_loopw [27, 10] (fun vi va wr => ∃ (i l : Nat) (b : Int), i + l = M ∧ vi = .int .i64 (i : Int) ∧ va = .int .i64 b ∧ AtT s l b ∧ oneO s l b key = T ∧ Below w3.heap.size w3 wr) (fun vi _ _ => 7 - (intOf vi).toNat)
  case atStart => exact ⟨0, M, a, by omega, rfl, rfl, hat.out, hT'.out, Below.refl _ _⟩
  case round =>
    obtain ⟨i, l, b, hil, rfl, rfl, hab, hone, hbr⟩ := hrel
    have HQ := Lib.hid (HR.out.below hbr)
    have BQ := Lib.hid hbr
    have hi5 : i ≤ 5 := by have := hM6.out; omega
    have i0 : (i : Int) < H0 := by have := hHM.out; have := hM6.out; omega
    have hNd := Lib.hid (fun v W hW => nodeR_open v s b W hW)
    have hok := hab.ok
    have hmn := Lib.hid hab.may
    have hlv := Lib.hid hab.lvl
    have hdn := Lib.hid (fun (j : Nat) (hj : l = j + 1) (x : It) (hx : x ∈ (rmV s b).2) => (by subst hj; exact hab.down hx : AtT s j x.2.1))
    have hz := Lib.hid (fun (h0 : l = 0) => (by subst h0; exact hone.symm.trans (oneO_zero s b key) : T = (rmV s b).2.reverse.find? fun x => decide (x.1 = key)))
    have hsu := Lib.hid (fun (j : Nat) (hj : l = j + 1) => (by subst hj; exact hone.symm.trans (oneO_succ s j b key) : T = ((rmV s b).2.reverse.find? fun x => !lessK key x.1).bind fun x => oneO s j x.2.1 key))
    obtain ⟨nd, hnd⟩ : ∃ q, rmV s b = q := ⟨_, rfl⟩
    rw [hok, hnd] at hNd
    rw [hnd] at hmn hlv hdn hz hsu
    have hPl := Lib.hid (fun v W hW => nodePlace_open v nd key W hW)
    obtain ⟨p, hp⟩ : ∃ p, placeN nd key = p := ⟨_, rfl⟩
    obtain ⟨t, htt⟩ : ∃ t, thereN nd key = t := ⟨_, rfl⟩
    rw [hp, htt] at hPl
    obtain ⟨lw, hlw⟩ : ∃ q, nd.1 = q := ⟨_, rfl⟩
    obtain ⟨ll, hl⟩ : ∃ q, nd.2 = q := ⟨_, rfl⟩
    obtain ⟨m, hlm⟩ : ∃ q, ll.length = q := ⟨_, rfl⟩
    rw [hlw, hl, hlm] at hNd
    rw [hl] at hdn hz hsu
    rw [hlw] at hlv
    replace hnd := Lib.hid hnd
    replace hlw := Lib.hid hlw
    replace hl := Lib.hid hl
    replace hlm := Lib.hid hlm
    replace hp := Lib.hid hp
    replace htt := Lib.hid htt
    replace hone := Lib.hid hone
    replace hil := Lib.hid hil
    have hm5 : m ≤ 5 := by
      have := (mayN_of hmn.out).1.2.2.1
      rw [hl.out, hlm.out] at this
      exact this
    clear hok hab hbr
    obtain ⟨s0, s1, s2, s3, _⟩ := HQ.out.at 2 rfl
    go_wp2_with fail
    with_reducible refine (hNd.out _ _ (HQ.out.at 3 rfl)).mono ?_
    rintro e w4 ⟨Z, zc, rfl, -, h4n, hb4⟩
    have h4s : rIts (New wr.heap.size w4) w4 [.slice Z m zc] ll := by
      obtain ⟨_, e, _, h⟩ := h4n
      cases e
      rw [hl.out] at h
      exact h
    obtain ⟨w5, hw5, hg5, hB5, -, hs5⟩ := bag_node (((HQ.out.below hb4).add (F := OldN _ nd) h4n.drop (lasts_oldN _ _)).add (F := NewIs wr.heap.size _ ll) h4s (lasts_newIs _ _ _)) (Below.refl _ _) (.int .i64 lw) (.slice Z m zc)
    have H5 := Lib.hid hg5
    have B5 := Lib.hid (BQ.out.trans ((hb4.trans (hB5.mono hb4.size)).mono BQ.out.size))
    replace hs5 := Lib.hid hs5
    clear s0 s1 s2 s3 hg5 hB5 hb4 h4n h4s hNd
    go_upto_region 8 with fail
    clear hw5
    obtain ⟨y0, y1, _⟩ := H5.out.at 0 rfl
    obtain ⟨t0, t1, t2, _⟩ := H5.out.at 4 rfl
    go_upto_region 10 with fail
    go_wp2_with fail
    with_reducible refine (hPl.out _ _ (H5.out.at 2 rfl)).mono ?_
    rintro e w6 ⟨rfl, hb6⟩
    have H6 := Lib.hid (H5.out.below hb6)
    have B6 := Lib.hid (B5.out.trans (hb6.mono B5.out.size))
    clear hb6 y0 y1 t0 t1 t2 hPl H5 B5
    obtain ⟨y0, y1, _⟩ := H6.out.at 0 rfl
    cases t with
    | true =>
      have hpm : p < m := by
        have := place_in htt.out
        rw [hp.out, hl.out, hlm.out] at this
        exact this
      obtain ⟨x, hx⟩ : ∃ x, ll[p]? = some x := ⟨_, List.getElem?_eq_getElem (by rw [hlm.out]; exact hpm)⟩
      obtain ⟨hxk, hf1, hf2⟩ := place_below hmn.out htt.out (x := x) (by rw [hp.out, hl.out]; exact hx)
      rw [hl.out] at hf1 hf2
      obtain ⟨ad, E5, ce5, rfl, -, FX⟩ := its_new (H6.out.at 1 rfl : rIts (New wr.heap.size w6) w6 [.slice Z m zc] ll) hx
      obtain ⟨⟨z0, z1, z2, z3, z4⟩, hit⟩ := FX w6 (Below.refl _ _)
      have i4 : (0 : Int) ≤ (p : Int) := by omega
      have i5 : (p : Int) < (m : Int) := by omega
      have hxm := Lib.hid (List.mem_of_getElem? hx)
      replace hx := Lib.hid hx
      replace hxk := Lib.hid hxk
      cases l with
      | zero =>
        have e0 : lw = 0 := hlv.out
        have hf := Lib.hid (hfs'.out x ((hz.out rfl).trans hf2))
        replace e0 := Lib.hid e0
        have c0 : (lw == 0) = true := by rw [e0.out]; rfl
        have G5 : w6.heap[w1.heap.size]? = _ := H6.out.at 3 rfl
        obtain ⟨f0, f1, f2, f3, f4, f5, _⟩ := five_cells G5
        obtain ⟨W9, hW9, g9, gr9, gs9⟩ := put_five (u0 := .int .u8 (x.1.1.toNat : Int)) (u1 := .int .u32 x.1.2.1) (u2 := .int .u32 x.1.2.2) (u3 := .int .i64 x.2.1) (u4 := .slice E5 x.2.2.length ce5) G5
        obtain ⟨n0, n1, n2, n3, n4, _⟩ := five_cells g9
        have hfin := Lib.hid (show Itm (New w.heap.size W9) W9 (itV x (.slice E5 x.2.2.length ce5)) x from (hit.grown gr9 (fun q e => by cases e; have := lo3.out; have := BQ.out.size; omega)).new (by have := lo3.out; have := BQ.out.size; omega) (Below.refl _ _))
        have B9 := BR.out.trans (B6.out.mono BR.out.size)
        have hB9 := Lib.hid (B9.grown gr9 B9.size (fun q e => by cases e; exact lo1.out.1))
        replace G5 := Lib.hid G5
        replace g9 := Lib.hid g9
        clear gr9 gs9 hit FX hf1 hf2 B9
        go_wp2_with fail
        rw [Exit.noGoto_ret]
        refine bodyPost_ret (v := .tuple #[itV x (.slice E5 x.2.2.length ce5), .int .i64 0]) (by simp [results, Try.results11, go_sem, n0, n1, n2, n3, n4]) rfl ?_
        rw [hf.out.1, hf.out.2]
        exact ⟨_, rfl, hfin.out, hB9.out⟩
      | succ l1 =>
        have c0 : (lw == 0) = false := by have := hlv.out; simp; omega
        have hn1 := Lib.hid (hdn.out l1 rfl x hxm.out)
        have hn2 : Hid (oneO s l1 x.2.1 key = T) := Lib.hid (by rw [hsu.out l1 rfl, hf1]; rfl)
        clear FX hf1 hf2 hit
        go_wp2_with fail
        go_roundw
        case rel => exact ⟨i + 1, l1, x.2.1, by have := hil.out; omega, by go_num, rfl, hn1.out, hn2.out, B6.out⟩
        case measure => have := hil.out; simp [intOf]; omega
    | false =>
      by_cases hp0 : 0 < p
      · have i6 : (0 : Int) < (p : Int) := by omega
        cases l with
        | zero =>
          have e0 : lw = 0 := hlv.out
          have c0 : ¬ (0 : Int) < lw := by omega
          have hf := Lib.hid (hfn'.out ((hz.out rfl).trans (by
            have := place_miss hmn.out htt.out
            rw [hl.out] at this
            exact this)))
          replace e0 := Lib.hid e0
          have G5 : w6.heap[w1.heap.size]? = _ := H6.out.at 3 rfl
          obtain ⟨f0, f1, f2, f3, f4, f5, _⟩ := five_cells G5
          obtain ⟨W9, hW9, g9, gr9, gs9⟩ := put_five (u0 := .int .u8 0) (u1 := .int .u32 0) (u2 := .int .u32 0) (u3 := .int .i64 0) (u4 := .slice none 0 0) G5
          obtain ⟨n0, n1, n2, n3, n4, _⟩ := five_cells g9
          have B9 := BR.out.trans (B6.out.mono BR.out.size)
          have hB9 := Lib.hid (B9.grown gr9 B9.size (fun q e => by cases e; exact lo1.out.1))
          replace G5 := Lib.hid G5
          replace g9 := Lib.hid g9
          clear gr9 gs9 B9
          go_wp2_with fail
          rw [Exit.noGoto_ret]
          refine bodyPost_ret (v := .tuple #[.agg #[.int .u8 0, .int .u32 0, .int .u32 0, .int .i64 0, .slice none 0 0], .int .i64 6]) (by simp [results, Try.results11, go_sem, n0, n1, n2, n3, n4]) rfl ?_
          rw [hf.out.1, hf.out.2]
          exact ⟨_, rfl, itm_zero _ _, hB9.out⟩
        | succ l1 =>
          have c0 : (0 : Int) < lw := by have := hlv.out; omega
          obtain ⟨j, hj⟩ : ∃ j, p = j + 1 := ⟨p - 1, by omega⟩
          have hpm : p ≤ m := by
            have := placeN_le nd key
            rw [hp.out, hl.out, hlm.out] at this
            exact this
          obtain ⟨x, hx⟩ : ∃ x, ll[j]? = some x := ⟨_, List.getElem?_eq_getElem (by rw [hlm.out]; omega)⟩
          have hf1 := place_ahead hmn.out (x := x) htt.out (by rw [hp.out, hj]) (by rw [hl.out]; exact hx)
          rw [hl.out] at hf1
          obtain ⟨ad, E5, ce5, rfl, -, FX⟩ := its_new (H6.out.at 1 rfl : rIts (New wr.heap.size w6) w6 [.slice Z m zc] ll) hx
          obtain ⟨⟨z0, z1, z2, z3, z4⟩, hit⟩ := FX w6 (Below.refl _ _)
          have i4 : (0 : Int) ≤ (j : Int) := by omega
          have i5 : (j : Int) < (m : Int) := by omega
          have i7 : (p : Int) - 1 = (j : Int) := by omega
          have i8 : IntKind.i64.wrap (j : Int) = (j : Int) := IntWalk.i64_in _ (by omega)
          have hxm := Lib.hid (List.mem_of_getElem? hx)
          have hn1 := Lib.hid (hdn.out l1 rfl x hxm.out)
          have hn2 : Hid (oneO s l1 x.2.1 key = T) := Lib.hid (by rw [hsu.out l1 rfl, hf1]; rfl)
          replace hx := Lib.hid hx
          replace hj := Lib.hid hj
          clear FX hf1 hit
          go_wp2_with fail
          go_roundw
          case rel => exact ⟨i + 1, l1, x.2.1, by have := hil.out; omega, by go_num, rfl, hn1.out, hn2.out, B6.out⟩
          case measure => have := hil.out; simp [intOf]; omega
      · have i6 : ¬ (0 : Int) < (p : Int) := by omega
        have hf := Lib.hid (hfn'.out (by
          cases l with
          | zero =>
            refine (hz.out rfl).trans ?_
            have := place_miss hmn.out htt.out
            rw [hl.out] at this
            exact this
          | succ l1 =>
            have h1 := place_none hmn.out htt.out (by rw [hp.out]; omega)
            rw [hl.out] at h1
            rw [hsu.out l1 rfl, h1]
            rfl))
        have G5 : w6.heap[w1.heap.size]? = _ := H6.out.at 3 rfl
        obtain ⟨f0, f1, f2, f3, f4, f5, _⟩ := five_cells G5
        obtain ⟨W9, hW9, g9, gr9, gs9⟩ := put_five (u0 := .int .u8 0) (u1 := .int .u32 0) (u2 := .int .u32 0) (u3 := .int .i64 0) (u4 := .slice none 0 0) G5
        obtain ⟨n0, n1, n2, n3, n4, _⟩ := five_cells g9
        have B9 := BR.out.trans (B6.out.mono BR.out.size)
        have hB9 := Lib.hid (B9.grown gr9 B9.size (fun q e => by cases e; exact lo1.out.1))
        replace G5 := Lib.hid G5
        replace g9 := Lib.hid g9
        clear gr9 gs9 B9
        go_wp2_with fail
        rw [Exit.noGoto_ret]
        refine bodyPost_ret (v := .tuple #[.agg #[.int .u8 0, .int .u32 0, .int .u32 0, .int .i64 0, .slice none 0 0], .int .i64 6]) (by simp [results, Try.results11, go_sem, n0, n1, n2, n3, n4]) rfl ?_
        rw [hf.out.1, hf.out.2]
        exact ⟨_, rfl, itm_zero _ _, hB9.out⟩
end Go.Proofs.Ytncnoingbaeomaa

/-
  The document's answers of layer 8: Taken. Conditions: those that each lemma states.
-/
namespace Go.Proofs.Ytncnoingbaeomaa
open Go.RowKit

/-- Cells that lie there, but not in block g. -/
def Off (g : Nat) (w : World) : Addr → Prop := fun p => p.block < w.heap.size ∧ p.block ≠ g
theorem off_put {g : Nat} {W W1 : World} {p : Addr} {v : Value} (gr : W.grownBy W1 (some g)) (hp : Off g W p) (hc : W.cell? p = some v) : Off g W1 p ∧ W1.cell? p = some v :=
  ⟨⟨Nat.lt_of_lt_of_le hp.1 gr.size, hp.2⟩, (World.cell?_of_block (gr.block _ hp.1 (by simpa using hp.2))).trans hc⟩
theorem off_below {g : Nat} {W W1 : World} {p : Addr} {v : Value} (hb : Below W.heap.size W W1) (hp : Off g W p) (hc : W.cell? p = some v) : Off g W1 p ∧ W1.cell? p = some v :=
  ⟨⟨Nat.lt_of_lt_of_le hp.1 hb.size, hp.2⟩, (hb.cell hp.1).trans hc⟩
theorem off_low {g : Nat} {w W : World} {p : Addr} {v : Value} (hb : Below w.heap.size w W) (hg : w.heap.size ≤ g) (hp : Old w p) (hc : w.cell? p = some v) : Off g W p ∧ W.cell? p = some v :=
  ⟨⟨Nat.lt_of_lt_of_le hp hb.size, fun e => by have h : p.block < w.heap.size := hp; omega⟩, (hb.cell hp).trans hc⟩
theorem off_old {g : Nat} {W : World} {p : Addr} {v : Value} (hp : Off g W p) (hc : W.cell? p = some v) : Old W p ∧ W.cell? p = some v := ⟨hp.1, hc⟩
end Go.Proofs.Ytncnoingbaeomaa

/-
  The document's answers of layer 9: Counted, Made, Make. Conditions: those that each lemma states.
-/
namespace Go.Proofs.Ytncnoingbaeomaa
open Go.RowKit

theorem ct_split {l : List It} {i : Nat} {x : It} {t : List UInt8} (h : ctE t (l.take i) = 0) (hx : l[i]? = some x) : ctE t l = ctE (ctV t (l.take i)) (x :: l.drop (i + 1)) := by
  have hk := (List.getElem?_eq_some_iff.1 hx).1
  have hg : l[i] = x := (List.getElem?_eq_some_iff.1 hx).2
  have e : l = l.take i ++ x :: l.drop (i + 1) := by rw [← hg, List.getElem_cons_drop, List.take_append_drop]
  have : ctE t l = ctE t (l.take i ++ x :: l.drop (i + 1)) := by rw [← e]
  rw [this, ctE_app, if_pos h]
theorem ct_next {l : List It} {i : Nat} {x : It} {t : List UInt8} (h : ctE t (l.take i) = 0) (hx : l[i]? = some x) : ctE t (l.take (i + 1)) = ctE (ctV t (l.take i)) [x] ∧ ctV t (l.take (i + 1)) = ctV (ctV t (l.take i)) [x] := by
  have hk := (List.getElem?_eq_some_iff.1 hx).1
  have hg : l[i] = x := (List.getElem?_eq_some_iff.1 hx).2
  rw [← List.take_append_getElem hk, ctE_app, ctV_app, if_pos h, hg]
  exact ⟨rfl, rfl⟩
theorem box_three3 {w : World} (a b c d e f : Value) : ∃ w1, ((w.alloc (.cells #[a, b, c, d] 29)).alloc (.cells #[e, f] 64)).alloc (.cells #[.slice none 0 0, .slice none 0 0, .slice none 0 0, .slice none 0 0] 29) = w1 ∧
    w1.heap[w.heap.size]? = some (.cells #[a, b, c, d] 29 (0, 0)) ∧ w1.heap[w.heap.size + 1]? = some (.cells #[e, f] 64 (0, 0)) ∧ w1.heap[w.heap.size + 2]? = some (.cells #[.slice none 0 0, .slice none 0 0, .slice none 0 0, .slice none 0 0] 29 (0, 0)) ∧ w1.heap.size = w.heap.size + 3 ∧ Below w.heap.size w w1 := by
  refine ⟨_, rfl, alloc_block (alloc_block (heap_alloc_new _ _)), alloc_block ?_, ?_, by simp, (((Below.refl _ w).alloc (Nat.le_refl _) _).alloc (by simp) _).alloc (by simp; omega) _⟩
  · have := heap_alloc_new (w.alloc (.cells #[a, b, c, d] 29)) (.cells #[e, f] 64)
    rwa [World.size_alloc] at this
  · have := heap_alloc_new ((w.alloc (.cells #[a, b, c, d] 29)).alloc (.cells #[e, f] 64)) (.cells #[.slice none 0 0, .slice none 0 0, .slice none 0 0, .slice none 0 0] 29)
    rwa [World.size_alloc, World.size_alloc] at this

theorem mk_ways {s : Rm} {n : Nd} (hm : mayR s = true) (hn : mayN n = true) : (ctE s.2.1 n.2 ≠ 0 ∧ mkE s n = ctE s.2.1 n.2 ∧ mkN s n = 0 ∧ mkV s n = emptyR) ∨ (ctE s.2.1 n.2 = 0 ∧ mkE s n = tkE (ctS s n) (blkN n) ∧ mkN s n = tkN (ctS s n) (blkN n) ∧ mkV s n = tkV (ctS s n) (blkN n)) := by
  by_cases hc : ctE s.2.1 n.2 = 0
  · have e : mkE s n = tkE (ctS s n) (blkN n) := by simp [mkE, hm, hn, hc]
    refine .inr ⟨hc, e, ?_, ?_⟩
    · by_cases h : mkE s n = 0
      · rw [mkN, if_pos h]
      · rw [mkN, if_neg h, (tk_no (by rw [← e]; exact h)).1]
    · by_cases h : mkE s n = 0
      · rw [mkV, if_pos h]
      · rw [mkV, if_neg h, (tk_no (by rw [← e]; exact h)).2]
  · have e : mkE s n = ctE s.2.1 n.2 := by simp [mkE, hm, hn, hc]
    have h : mkE s n ≠ 0 := by rw [e]; exact hc
    exact .inl ⟨hc, e, (mk_no h).1, (mk_no h).2⟩

end Go.Proofs.Ytncnoingbaeomaa

/-
  The chapter's tree of layer 10, plain. Conditions: those that each lemma states.
-/
namespace Go.Proofs.Ytncnoingbaeomaa
open Go.RowKit

theorem zeros_get0 (n i : Nat) : (zeros n)[i]?.getD 0 = 0 := by
  unfold zeros
  by_cases h : i < n <;> simp [h]
def keyN (x : Int) : Ky := (2, 0, x)
def it2 : It := (keyN 2, 0, [])
def it4 : It := (keyN 4, 0, [7])
/-- The leaf; the node above, whose item has a key. -/
def lowN : Nd := (0, [it2, it4])
def topN (x : Int) : Nd := (1, [(keyN x, 8, [])])
theorem low_may : mayN lowN = true := by decide +kernel
theorem top_may (x : Int) : mayN (topN x) = true := mayN_mk ⟨by simp [topN], by simp [topN], by simp [topN], fun _ => by simp [topN]⟩ (fun i hi => by
  have hi0 : i = 0 := by
    simp [topN] at hi
    omega
  subst hi0
  rw [okAt_zero (x := (keyN x, 8, [])) rfl]
  rfl)
theorem low_in : InN lowN := ⟨⟨by decide, by decide⟩, fun x hx => by
  simp only [lowN, List.mem_cons, List.not_mem_nil, or_false] at hx
  rcases hx with rfl | rfl <;> exact ⟨⟨⟨by decide, by decide⟩, by decide, by decide⟩, by decide, by decide⟩⟩
theorem top_in {x : Int} (h : 0 ≤ x ∧ x < 4294967296) : InN (topN x) := ⟨⟨by simp [topN], by simp [topN]⟩, fun y hy => by
  simp only [topN, List.mem_cons, List.not_mem_nil, or_false] at hy
  subst hy
  exact ⟨⟨⟨by simp [keyN], by simp [keyN]⟩, h⟩, by simp, by simp⟩⟩
/-- The store with the leaf; with both. -/
noncomputable def tr1 : Rm := mkV newR lowN
noncomputable def tr2 (x : Int) : Rm := mkV tr1 (topN x)
set_option maxRecDepth 100000 in
theorem low_made : mkE newR lowN = 0 ∧ mkN newR lowN = 8 ∧ mayR tr1 = true ∧ tr1.2.1[8]?.getD 0 = 1 ∧ freeL tr1 = 9 :: (freeL newR).drop 2 ∧ tr1.1.2.length = 1 ∧ seenD tr1.1 8 = blkN lowN ∧ (∀ k : Nat, k ≠ 8 → tr1.2.1[k]?.getD 0 = 0) := by
  have hv : ctV newR.2.1 lowN.2 = newR.2.1 := by
    generalize newR.2.1 = t
    rfl
  have he : ctE newR.2.1 lowN.2 = 0 := by
    generalize newR.2.1 = t
    rfl
  have hs : ctS newR lowN = newR := by rw [ctS, hv]
  obtain ⟨t1, t2, t3, _, t5, _⟩ := new_take (blkN_length low_may)
  rcases mk_ways may_new low_may with ⟨hc, _⟩ | ⟨_, e, e2, e3⟩
  · exact absurd he hc
  rw [hs] at e e2 e3
  have hE := e.trans t1
  obtain ⟨k, e1, _, _, _, _, _, hV, hm, c1, c2, _⟩ := mk_counts hE
  rw [e2, t2] at e1
  have hk : k = 8 := by omega
  subst hk
  refine ⟨hE, e2.trans t2, hm, c1, ?_, ?_, ?_, fun i hi => ?_⟩
  · show freeL (mkV newR lowN) = _
    rw [e3, tk_free t1, new_free.2]
    rfl
  · show (mkV newR lowN).1.2.length = 1
    rw [e3]; exact t5
  · show seenD (mkV newR lowN).1 8 = _
    rw [hV]
    exact seenD_write
  · refine nat_zero.1 ?_
    show ((mkV newR lowN).2.1[i]?.getD 0).toNat = 0
    rw [c2 i hi]
    have h0 : newR.2.1[i]?.getD 0 = 0 := by
      have e0 : newR.2.1 = zeros 256 := rfl
      rw [e0]
      exact zeros_get0 256 i
    rw [h0, show cntR lowN.2 i = 0 by simp [lowN, cntR, it2, it4]]
    rfl
set_option maxRecDepth 100000 in
theorem top_made {x : Int} (hx : 0 ≤ x ∧ x < 4294967296) : mkE tr1 (topN x) = 0 ∧ mkN tr1 (topN x) = 9 ∧ mayR (tr2 x) = true ∧ rmE (tr2 x) 9 = 0 ∧ rmV (tr2 x) 9 = topN x ∧ rmE (tr2 x) 8 = 0 ∧ rmV (tr2 x) 8 = lowN ∧ asE (tr2 x) 10 = 6 ∧ asE (tr2 x) 7 = 2 := by
  obtain ⟨_, _, hm, h8, hf, hw, hsn, hz⟩ := low_made
  have he : ctE tr1.2.1 (topN x).2 = 0 := by
    simp only [topN, ctE]
    rw [if_neg (by decide), show ((8 : Int)).toNat = 8 from rfl, h8, if_neg (by decide), if_neg (by decide)]
  have hfs := ctS_free hm (top_may x) he
  have hms := ctS_may hm (top_may x) he
  have hT : tkE (ctS tr1 (topN x)) (blkN (topN x)) = 0 := tk_yes hms (blkN_length (top_may x)) (by rw [hfs, hf]; exact List.cons_ne_nil _ _) (by have e : (ctS tr1 (topN x)).1 = tr1.1 := rfl; rw [e, hw]; decide)
  have hK : tkK (ctS tr1 (topN x)) = 9 := by rw [tkK, hfs, hf]; rfl
  obtain ⟨_, _, _, _, _, _, _, _, hN, _⟩ := tk_ok hT
  rcases mk_ways hm (top_may x) with ⟨hc, _⟩ | ⟨_, e, e2, _⟩
  · exact absurd he hc
  have hE := e.trans hT
  have hN9 : mkN tr1 (topN x) = 9 := by rw [e2, hN, hK]; rfl
  obtain ⟨k, e1, _, _, _, _, _, hV, hmT, c1, c2, _, hl, _⟩ := mk_counts hE
  have hk : k = 9 := by omega
  subst hk
  have c8 : (mkV tr1 (topN x)).2.1[8]?.getD 0 ≠ 0 := fun h => by
    have := c2 8 (by decide)
    rw [h, h8] at this
    have e0 : (0 : UInt8).toNat = 0 := rfl
    have e1 : (1 : UInt8).toNat = 1 := rfl
    omega
  have hs9 : seenD (tr2 x).1 9 = blkN (topN x) := by
    show seenD (mkV tr1 (topN x)).1 9 = _
    rw [hV]
    exact seenD_write
  have hs8 : seenD (tr2 x).1 8 = blkN lowN := by
    show seenD (mkV tr1 (topN x)).1 8 = _
    rw [hV, ← hsn]
    exact seenD_write_ne (by decide)
  have a9 : asE (tr2 x) ((9 : Nat) : Int) = 0 := as_yes hmT (by decide) (by decide) (by rw [show (tr2 x).2.1[9]?.getD 0 = 1 from c1]; decide)
  have a8 : asE (tr2 x) ((8 : Nat) : Int) = 0 := as_yes hmT (by decide) (by decide) c8
  obtain ⟨r1, r2⟩ := rm_yes a9 hs9 (top_may x) (top_in hx)
  obtain ⟨r3, r4⟩ := rm_yes a8 hs8 low_may low_in
  refine ⟨hE, hN9, hmT, r1, r2, r3, r4, ?_, ?_⟩
  · have h10 : (tr2 x).2.1[10]?.getD 0 = 0 := nat_zero.1 (by
      have h1 := c2 10 (by decide)
      rw [hz 10 (by decide), show cntR (topN x).2 10 = 0 by simp [topN, cntR]] at h1
      exact h1)
    rw [asE, show mayR (tr2 x) = true from hmT, if_pos rfl, if_pos (by decide), show ((10 : Int)).toNat = 10 from rfl, if_pos h10]
  · rw [asE, show mayR (tr2 x) = true from hmT, if_pos rfl, if_neg (by decide)]
set_option maxRecDepth 100000 in
/-- What Check and Find tell of it. -/
theorem top_tree : treeO (tr2 2) 9 = true ∧ treeO (tr2 2) 8 = true ∧ treeO (tr2 1) 9 = false ∧ theO (tr2 2) 9 (keyN 4) = some it4 ∧ theO (tr2 2) 9 (keyN 3) = none := by
  obtain ⟨_, _, hm, r1, r2, r3, r4, _, _⟩ := top_made (x := 2) (by decide)
  obtain ⟨_, _, hm', q1, q2, q3, q4, _, _⟩ := top_made (x := 1) (by decide)
  have hl : leafO (tr2 2) lowN.2 = true := by
    simp [leafO, lowN, it2, it4]
  refine ⟨?_, ?_, ?_, ?_, ?_⟩
  · unfold treeO
    rw [r1, r2]
    show (true && rightO (tr2 2) 0 8 (keyN 2) keyZ false) = true
    unfold rightO
    rw [r3, r4, hl]
    decide
  · unfold treeO
    rw [r3, r4]
    show (true && leafO (tr2 2) lowN.2) = true
    rw [hl]
    rfl
  · unfold treeO
    rw [q1, q2]
    show (true && rightO (tr2 1) 0 8 (keyN 1) keyZ false) = false
    unfold rightO
    rw [q3, q4]
    rw [show headO lowN.2 (keyN 1) keyZ false = false by decide]
    simp
  · unfold theO
    rw [r2]
    show oneO (tr2 2) 1 9 (keyN 4) = some it4
    unfold oneO
    rw [r2]
    show ((topN 2).2.reverse.find? (fun x => !lessK (keyN 4) x.1)).bind _ = _
    rw [show (topN 2).2.reverse.find? (fun x => !lessK (keyN 4) x.1) = some (keyN 2, 8, []) by decide]
    show oneO (tr2 2) 0 8 (keyN 4) = _
    unfold oneO
    rw [r4]
    decide
  · unfold theO
    rw [r2]
    show oneO (tr2 2) 1 9 (keyN 3) = none
    unfold oneO
    rw [r2]
    show ((topN 2).2.reverse.find? (fun x => !lessK (keyN 3) x.1)).bind _ = _
    rw [show (topN 2).2.reverse.find? (fun x => !lessK (keyN 3) x.1) = some (keyN 2, 8, []) by decide]
    show oneO (tr2 2) 0 8 (keyN 3) = _
    unfold oneO
    rw [r4]
    decide
end Go.Proofs.Ytncnoingbaeomaa

/-
  Package node: slices.Clone at items, Twin. Conditions: those that each lemma states.
-/
namespace Go.Proofs.Ytncnoingbaeomaa
open Go.RowKit

abbrev Iv := It × Value
def cell5 (p : Iv) : List Value := [.int .u8 (p.1.1.1.toNat : Int), .int .u32 p.1.1.2.1, .int .u32 p.1.1.2.2, .int .i64 p.1.2.1, p.2]
def cells5 (ps : List Iv) : List Value := (ps.map cell5).flatten
theorem cells5_at : ∀ {ps : List Iv} {k : Nat} {p : Iv}, ps[k]? = some p → ∀ j v, (cell5 p)[j]? = some v → (cells5 ps)[k * 5 + j]? = some v
  | q :: r, 0, p, h, j, v, hv => by
    simp at h
    subst h
    have hj : j < (cell5 q).length := (List.getElem?_eq_some_iff.1 hv).1
    show ((cell5 q) ++ cells5 r)[0 * 5 + j]? = some v
    rw [Nat.zero_mul, Nat.zero_add, List.getElem?_append_left hj, hv]
  | q :: r, k + 1, p, h, j, v, hv => by
    have h' : r[k]? = some p := by simpa using h
    have := cells5_at h' j v hv
    show ((cell5 q) ++ cells5 r)[(k + 1) * 5 + j]? = some v
    have hl : (cell5 q).length = 5 := rfl
    rw [List.getElem?_append_right (by omega), hl, show (k + 1) * 5 + j - 5 = k * 5 + j by omega]
    exact this
end Go.Proofs.Ytncnoingbaeomaa

/-
  Rows of items: as literals, appended to one another; all items of a node's leaves, as the laws of layer 10 gather them. Conditions: those that each lemma states.
-/
namespace Go.Proofs.Ytncnoingbaeomaa
open Go.RowKit

/-- A literal row of items. -/
theorem its_lies {W : World} {g : Nat} {cs : Array Value} {t : TypeId} {ps : List Iv} (hz : W.heap[g]? = some (.cells cs t (0, 0))) (hcs : cs.toList = cells5 ps) (hl : ps.length ≤ 1000) (h : ∀ p ∈ ps, InI p.1 ∧ rBy (Old W) W [p.2] p.1.2.2) : rIts (Old W) W [.slice (some ⟨g, 0, none⟩) ps.length ps.length] (ps.map (·.1)) := by
  refine ⟨some ⟨g, 0, none⟩, ps.length, by rw [List.length_map], by rw [List.length_map]; omega, by omega, fun i x hi => ?_⟩
  rw [List.getElem?_map] at hi
  obtain ⟨p, hp, rfl⟩ := Option.map_eq_some_iff.1 hi
  obtain ⟨h1, h2⟩ := h p (List.mem_of_getElem? hp)
  refine ⟨⟨g, 0, none⟩, cell5 p, rfl, rfl, fun j v hj => ?_, rIt_mk h1 h2⟩
  have hc := cells5_at hp j v hj
  rw [← hcs, Array.getElem?_toList] at hc
  have e : ((⟨g, 0, none⟩ : Addr).add (i * 5 + j)) = ⟨g, i * 5 + j, none⟩ := by unfold Addr.add; split <;> simp_all
  rw [e]
  have hcell : W.cell? ⟨g, i * 5 + j, none⟩ = some v := by
    unfold World.cell?
    simp only [hz]
    exact hc
  exact ⟨World.block_lt_of_cell? _ _ hcell, hcell⟩

end Go.Proofs.Ytncnoingbaeomaa

/-
  Package drop: refer, which counts all Refs of a node in a table of the caller's own. Conditions: those that each lemma states.
-/
namespace Go.Proofs.Ytncnoingbaeomaa
open Go.RowKit

theorem grow_of {a b : World} {row : Option Nat} (h : Below a.heap.size a b) : a.grownBy b row := grow_later (grow_refl a row) h
set_option maxRecDepth 100000 in
set_option maxHeartbeats 8000000 in
theorem refer_any (g c lo : Nat) (t0 : List UInt8) (u : Value) (n : Nd) (hn : mayN n = true) (hl0 : t0.length = 256) (w : World) (hown : w.ownsRow lo 5 1 (.slice (some ⟨g, 0, none⟩) 256 c) 256 (u8s t0)) (hu : Nod (Off g w) w u n) :
    Calls Try.prog 47 #[.slice (some ⟨g, 0, none⟩) 256 c, u] w fun e w' => e = .returned (.int .i64 (ctE t0 n.2)) ∧ w.grownBy w' (some g) ∧ (ctE t0 n.2 = 0 → w'.ownsRow lo 5 1 (.slice (some ⟨g, 0, none⟩) 256 c) 256 (u8s (ctV t0 n.2))) := by
  obtain ⟨I, ci, rfl, _, _, _, hI⟩ := hu.open
  obtain ⟨lw, hlw⟩ : ∃ q, n.1 = q := ⟨_, rfl⟩
  obtain ⟨l, hl⟩ : ∃ q, n.2 = q := ⟨_, rfl⟩
  obtain ⟨m, hlm⟩ : ∃ q, l.length = q := ⟨_, rfl⟩
  have hrf := Lib.hid (refs_may hn)
  obtain ⟨⟨_, _, s3, _⟩, _⟩ := mayN_of hn
  rw [hl, hlm] at s3 hI
  rw [hl] at hrf ⊢
  rw [hlw, hlm]
  have hg0 : g < w.heap.size := ((hown.lt g rfl).2)
  obtain ⟨w1, hw1, b1, hs1, hB1⟩ := box_pair' w (.int .i64 lw) (.slice I m ci) 64
  have HI := Lib.hid (stab_its _ _ _ _ _ _ (fun _ _ hp hc => off_below (g := g) hB1 hp hc) hI)
  have HO := Lib.hid (own_below hown hB1)
  have GB := Lib.hid (grow_of (row := some g) hB1)
  obtain ⟨p0, p1, _, pg⟩ := two_cells b1
  have hgs : Hid (g ≠ w.heap.size) := Lib.hid (by omega)
  have b1h := Lib.hid b1
  replace hl0 := Lib.hid hl0
  replace hl := Lib.hid hl
  replace hlw := Lib.hid hlw
  replace hlm := Lib.hid hlm
  replace hs1 := Lib.hid hs1
  clear hown hu hI b1 hB1
  go_enter Try.func47, Try.ntmps47
  go_upto_region 1 with fail
  clear hw1
  go_wp2_with fail
  clear p0 p1
  go_loopw [10] (fun vi wr => ∃ i : Nat, i ≤ m ∧ vi = .int .i64 i ∧ ctE t0 (l.take i) = 0 ∧ wr.ownsRow lo 5 1 (.slice (some ⟨g, 0, none⟩) 256 c) 256 (u8s (ctV t0 (l.take i))) ∧ w1.grownBy wr (some g)) (fun vi _ => m - (intOf vi).toNat)
  case atStart => exact ⟨0, by omega, rfl, rfl, HO.out, grow_refl _ _⟩
  case round =>
    obtain ⟨i, hi, rfl, hE, hown, hgr⟩ := hrel
    have GF := Lib.hid (grow_trans GB.out hgr)
    by_cases hlt : i < m
    case neg =>
      have hlast : Hid (l.take i = l) := Lib.hid (List.take_of_length_le (by rw [hlm.out]; omega))
      have hEl : Hid (ctE t0 l = 0) := Lib.hid (by rw [← hE, hlast.out])
      rw [hlast.out] at hown
      have HO2 := Lib.hid hown
      clear hown hgr hE
      go_wp2_with fail
      go_ret
      exact ⟨ret_int hEl.out.symm, GF.out, fun _ => HO2.out⟩
    obtain ⟨x, hx⟩ : ∃ x, l[i]? = some x := ⟨_, List.getElem?_eq_getElem (by rw [hlm.out]; exact hlt)⟩
    have hsp := Lib.hid (ct_split hE hx)
    have hnx := Lib.hid (ct_next hE hx)
    have hxr := hrf.out x (List.mem_of_getElem? hx)
    have hIr := stab_its _ _ _ _ _ _ (fun _ _ hp hc => off_put (g := g) hgr hp hc) HI.out
    obtain ⟨ad5, E5, ce5, rfl, _, ⟨z0, z1, z2, z3, z4⟩, _⟩ := its_at hIr hx
    clear hIr
    obtain ⟨w5, hw5, y0, y1, y2, y3, y4, hs5, hB5, _⟩ := box_five wr (.int .u8 (x.1.1.toNat : Int)) (.int .u32 x.1.2.1) (.int .u32 x.1.2.2) (.int .i64 x.2.1) (.slice E5 x.2.2.length ce5) 39
    have hown5 := own_below hown hB5
    have hgr5 := Lib.hid (grow_later hgr (hB5.mono hgr.size))
    have GF5 := Lib.hid (grow_trans GB.out hgr5.out)
    replace hs5 := Lib.hid hs5
    have i4 : (0 : Int) ≤ (i : Int) := by omega
    have i5 : (i : Int) < (m : Int) := by omega
    obtain ⟨z, hzz⟩ : ∃ z, x.2.1 = z := ⟨_, rfl⟩
    have hc1 : ∀ T, ctE T (x :: l.drop (i + 1)) = if z = 0 then ctE T (l.drop (i + 1)) else if T[z.toNat]?.getD 0 = 0 then 6 else if T[z.toNat]?.getD 0 = 255 then 70 else ctE (T.set z.toNat (T[z.toNat]?.getD 0 + 1)) (l.drop (i + 1)) := fun T => by rw [← hzz]; rfl
    have hc2 : ∀ T, ctE T [x] = if z = 0 then 0 else if T[z.toNat]?.getD 0 = 0 then 6 else if T[z.toNat]?.getD 0 = 255 then 70 else 0 := fun T => by rw [← hzz]; rfl
    have hc3 : ∀ T, ctV T [x] = if z = 0 then T else T.set z.toNat (T[z.toNat]?.getD 0 + 1) := fun T => by rw [← hzz]; rfl
    rw [hzz] at z3 hxr hw5 y3
    replace hx := Lib.hid hx
    replace hzz := Lib.hid hzz
    obtain ⟨T, hT⟩ : ∃ T, ctV t0 (l.take i) = T := ⟨_, rfl⟩
    have hTl : Hid (T.length = 256) := Lib.hid (by rw [← hT, ctV_len, hl0.out])
    rw [hT] at hown5 hsp hnx
    replace hT := Lib.hid hT
    replace hE := Lib.hid hE
    clear hown hgr hB5
    go_upto_region 4 with fail
    clear hw5 z0 z1 z2 z3 z4
    by_cases hz0 : z = 0
    · have hn1 : Hid (ctE t0 (l.take (i + 1)) = 0 ∧ ctV t0 (l.take (i + 1)) = T) := Lib.hid ⟨by rw [hnx.out.1, hc2, if_pos hz0], by rw [hnx.out.2, hc3, if_pos hz0]⟩
      subst hz0
      have HO := Lib.hid hown5
      clear hc1 hc2 hc3 hxr hown5 hE hsp hnx
      go_wp2_with fail
      go_roundw
      case rel => exact ⟨i + 1, by omega, by go_num, hn1.out.1, by rw [hn1.out.2]; exact HO.out, hgr5.out⟩
      case measure => simp [intOf]; omega
    obtain ⟨r, hr, r8, r256⟩ : ∃ r : Nat, z = r ∧ 8 ≤ r ∧ r < 256 := ⟨z.toNat, by omega, by omega, by omega⟩
    rw [hc1, if_neg hz0, show z.toNat = r by omega] at hsp
    rw [hc2, hc3, if_neg hz0, if_neg hz0, show z.toNat = r by omega] at hnx
    have j3 : (z == 0) = false := by simpa using hz0
    subst hr
    have hcell := own_cell hown5 (j := r) r256
    obtain ⟨y, hy⟩ : ∃ y, T[r]?.getD 0 = y := ⟨_, rfl⟩
    rw [hy] at hsp hnx hcell
    replace hy := Lib.hid hy
    by_cases hy0 : y = 0
    · have t1 := byte_same (y := 0) (q := 0) rfl hy0
      have hEl : Hid (ctE t0 l = 6) := Lib.hid (by rw [hsp.out, if_pos hy0])
      clear hc1 hc2 hc3 hxr hown5 hE hsp hnx hz0
      go_wp2_with fail
      go_ret
      exact ⟨ret_int hEl.out.symm, GF5.out, fun h => by rw [hEl.out] at h; cases h⟩
    have t1 := byte_unlike (y := 0) (q := 0) rfl hy0
    by_cases hy5 : y = 255
    · have t2 := byte_same (y := 255) (q := 255) rfl hy5
      have hEl : Hid (ctE t0 l = 70) := Lib.hid (by rw [hsp.out, if_neg hy0, if_pos hy5])
      clear hc1 hc2 hc3 hxr hown5 hE hsp hnx hz0
      go_wp2_with fail
      go_ret
      exact ⟨ret_int hEl.out.symm, GF5.out, fun h => by rw [hEl.out] at h; cases h⟩
    have t2 := byte_unlike (y := 255) (q := 255) rfl hy5
    have hfr : w5.frozen? ⟨g, r, none⟩ = false := hown5.frozenAt r
    obtain ⟨hu1, hu2, hu3⟩ := up_byte hy5
    have hset := own_set hown5 r (y + 1)
    have hn1 : Hid (ctE t0 (l.take (i + 1)) = 0 ∧ ctV t0 (l.take (i + 1)) = T.set r (y + 1)) := Lib.hid ⟨by rw [hnx.out.1, if_neg hy0, if_neg hy5], hnx.out.2⟩
    rw [← hu1] at hset
    replace hset := Lib.hid hset
    replace hu1 := Lib.hid hu1
    have hgn := Lib.hid (grow_put hgr5.out (p := ⟨g, r, none⟩) rfl (.int .u8 ((y.toNat : Int) + 1)))
    clear hc1 hc2 hc3 hxr hown5 hE hsp hnx hz0
    go_wp2_with fail
    go_roundw
    case rel => exact ⟨i + 1, by omega, by go_num, hn1.out.1, by rw [hn1.out.2]; exact hset.out, hgn.out⟩
    case measure => simp [intOf]; omega
end Go.Proofs.Ytncnoingbaeomaa
