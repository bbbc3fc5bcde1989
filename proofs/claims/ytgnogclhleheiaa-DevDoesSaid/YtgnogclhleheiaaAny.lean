/-
  A region that draws its order, with operations that make memory: each operation is shown once, in the order of the text, from what the operations say on which it leans; then every order serves. No program, no condition of its own.
-/
import Derived.Orders
import Derived.Below
import Derived.Laws.World
import Derived.WalkKit
import Derived.BigRegion
namespace Go.Proofs.Ytgnogclhleheiaa
open Go.RowKit

abbrev Env := List (Tmp × (World → Prop))
/-- What an operation does: R holds of the value that it leaves and of the world behind it. -/
def doesUpon (P : Program) (R : Value → World → Prop) : Result Next → Prop
  | .ok (.value v) w' => R v w'
  | .ok .skip w' => R undef w'
  | .ok (.enter f args) w' => Calls P f args w' (fun e w'' => ∃ v, e = .returned v ∧ R v w'')
  | _ => False
/-- Of what is known of slots, that which operation o may lean on. -/
def seen (ops : Array Oper) (o : Oper) (w : World) : Env → Prop
  | [] => True
  | p :: r => ((o.looksAt ops).contains p.1 = true → p.2 w) ∧ seen ops o w r
def envAdd (d : Option Tmp) (p : World → Prop) (env : Env) : Env :=
  match d with
  | some d => (d, p) :: env
  | none => env
def holds (w : World) : Env → Prop
  | [] => True
  | p :: r => p.2 w ∧ holds w r

/-- The walk in the order of the text. -/
def wpAs (P : Program) (ops : Array Oper) (C : World → Prop) (phi : Nat → Option (Value → World → Prop)) (fx : Nat → Option Value) (Q : Act → World → Prop) : Nat → List Oper → Act → Env → Prop
  | _, [], a, env => ∀ w, C w → holds w env → Q a w
  | i, o :: rest, a, env =>
    if Region.wanted o (yielded ops a.tmps) = true then
      match phi i with
      | none =>
        match fx i with
        | none => ∃ v, (∀ w, C w → seen ops o w env → (execOp a.eval o).run P w = .ok (.value v) w) ∧ wpAs P ops C phi fx Q (i + 1) rest (a.put o.dst v) env
        | some u => (∀ w, C w → seen ops o w env → doesUpon P (fun v w' => v = u ∧ Below w.heap.size w w') ((execOp a.eval o).run P w)) ∧ wpAs P ops C phi fx Q (i + 1) rest (a.put o.dst u) env
      | some φ => (∀ w, C w → seen ops o w env → doesUpon P (fun v w' => φ v w' ∧ Below w.heap.size w w') ((execOp a.eval o).run P w)) ∧
          ∀ v, wpAs P ops C phi fx Q (i + 1) rest (a.put o.dst v) (envAdd o.dst (φ v) env)
    else wpAs P ops C phi fx Q (i + 1) rest (a.put o.dst undef) env

section
variable {P : Program} {ops : Array Oper} {C : World → Prop} {phi : Nat → Option (Value → World → Prop)} {fx : Nat → Option Value} {Q : Act → World → Prop}

theorem wpAs_skip {i : Nat} {o : Oper} {rest : List Oper} {a : Act} {env : Env} (hw : Region.wanted o (yielded ops a.tmps) = false) (h : wpAs P ops C phi fx Q (i + 1) rest (a.put o.dst undef) env) : wpAs P ops C phi fx Q i (o :: rest) a env := by
  unfold wpAs
  rw [if_neg (by rw [hw]; exact Bool.false_ne_true)]
  exact h
theorem wpAs_fixed {i : Nat} {o : Oper} {rest : List Oper} {a : Act} {env : Env} {u : Value} (hw : Region.wanted o (yielded ops a.tmps) = true) (hp : phi i = none) (hf : fx i = some u)
    (hv : ∀ w, C w → seen ops o w env → doesUpon P (fun v w' => v = u ∧ Below w.heap.size w w') ((execOp a.eval o).run P w)) (h : wpAs P ops C phi fx Q (i + 1) rest (a.put o.dst u) env) : wpAs P ops C phi fx Q i (o :: rest) a env := by
  unfold wpAs
  rw [if_pos hw, hp]
  simp only [hf]
  exact ⟨hv, h⟩
theorem wpAs_pure {i : Nat} {o : Oper} {rest : List Oper} {a : Act} {env : Env} {v : Value} (hw : Region.wanted o (yielded ops a.tmps) = true) (hp : phi i = none)
    (hv : ∀ w, C w → seen ops o w env → (execOp a.eval o).run P w = .ok (.value v) w) (h : wpAs P ops C phi fx Q (i + 1) rest (a.put o.dst v) env) (hf : fx i = none := by rfl) : wpAs P ops C phi fx Q i (o :: rest) a env := by
  unfold wpAs
  rw [if_pos hw, hp]
  simp only [hf]
  exact ⟨v, hv, h⟩
theorem wpAs_act {i : Nat} {o : Oper} {rest : List Oper} {a : Act} {env : Env} {φ : Value → World → Prop} (hw : Region.wanted o (yielded ops a.tmps) = true) (hp : phi i = some φ)
    (hv : ∀ w, C w → seen ops o w env → doesUpon P (fun v w' => φ v w' ∧ Below w.heap.size w w') ((execOp a.eval o).run P w)) (h : ∀ v, wpAs P ops C phi fx Q (i + 1) rest (a.put o.dst v) (envAdd o.dst (φ v) env)) : wpAs P ops C phi fx Q i (o :: rest) a env := by
  unfold wpAs
  rw [if_pos hw, hp]
  exact ⟨hv, h⟩
theorem wpAs_end {i : Nat} {a : Act} {env : Env} (h : ∀ w, C w → holds w env → Q a w) : wpAs P ops C phi fx Q i [] a env := h

/-! ### The frames of the walk, once the acting operations' values are given -/
open Classical in
/-- The value that operation i leaves in the walk's frame. -/
noncomputable def valAs (P : Program) (ops : Array Oper) (C : World → Prop) (phi : Nat → Option (Value → World → Prop)) (fx : Nat → Option Value) (Q : Act → World → Prop) (c : Nat → Value) (i : Nat) (o : Oper) (s : Act × Env) : Value :=
  if Region.wanted o (yielded ops s.1.tmps) = true then
    match phi i with
    | none =>
      match fx i with
      | some u => u
      | none => Classical.epsilon fun v => (∀ w, C w → seen ops o w s.2 → (execOp s.1.eval o).run P w = .ok (.value v) w) ∧ wpAs P ops C phi fx Q (i + 1) (ops.toList.drop (i + 1)) (s.1.put o.dst v) s.2
    | some _ => c i
  else undef
noncomputable def envAs (ops : Array Oper) (phi : Nat → Option (Value → World → Prop)) (c : Nat → Value) (i : Nat) (o : Oper) (s : Act × Env) : Env :=
  if Region.wanted o (yielded ops s.1.tmps) = true then
    match phi i with
    | none => s.2
    | some φ => envAdd o.dst (φ (c i)) s.2
  else s.2
noncomputable def stAs (P : Program) (ops : Array Oper) (C : World → Prop) (phi : Nat → Option (Value → World → Prop)) (fx : Nat → Option Value) (Q : Act → World → Prop) (a0 : Act) (c : Nat → Value) : Nat → Act × Env
  | 0 => (a0, [])
  | i + 1 =>
    match ops[i]? with
    | some o => ((stAs P ops C phi fx Q a0 c i).1.put o.dst (valAs P ops C phi fx Q c i o (stAs P ops C phi fx Q a0 c i)), envAs ops phi c i o (stAs P ops C phi fx Q a0 c i))
    | none => stAs P ops C phi fx Q a0 c i

theorem stAs_walk {a0 : Act} (h0 : wpAs P ops C phi fx Q 0 ops.toList a0 []) (c : Nat → Value) : ∀ i, i ≤ ops.size →
    wpAs P ops C phi fx Q i (ops.toList.drop i) (stAs P ops C phi fx Q a0 c i).1 (stAs P ops C phi fx Q a0 c i).2 := by
  intro i
  induction i with
  | zero => intro _; simpa [stAs] using h0
  | succ i ih =>
    intro hi
    have h := ih (by omega)
    have hd : ops.toList.drop i = ops[i]'(by omega) :: ops.toList.drop (i + 1) := by
      rw [List.drop_eq_getElem_cons (by simp; omega)]
      simp
    have ho : ops[i]? = some (ops[i]'(by omega)) := Array.getElem?_eq_getElem (by omega)
    rw [hd] at h
    generalize hs : stAs P ops C phi fx Q a0 c i = s at *
    generalize ops[i]'(by omega) = o at *
    have e1 : stAs P ops C phi fx Q a0 c (i + 1) = (s.1.put o.dst (valAs P ops C phi fx Q c i o s), envAs ops phi c i o s) := by
      simp only [stAs, ho, hs]
    rw [e1]
    unfold wpAs at h
    unfold valAs envAs
    by_cases hw : Region.wanted o (yielded ops s.1.tmps) = true
    · simp only [if_pos hw] at h ⊢
      cases hp : phi i with
      | none =>
        cases hf : fx i with
        | none =>
          simp only [hp, hf] at h ⊢
          exact (Classical.epsilon_spec h).2
        | some u =>
          simp only [hp, hf] at h ⊢
          exact h.2
      | some φ =>
        simp only [hp] at h ⊢
        exact h.2 _
    · simp only [if_neg hw] at h ⊢
      exact h

/-- What an unacting operation that is wanted leaves, and where. -/
theorem valAs_pure {a0 : Act} (h0 : wpAs P ops C phi fx Q 0 ops.toList a0 []) (c : Nat → Value) {i : Nat} {o : Oper} (ho : ops[i]? = some o) (hw : Region.wanted o (yielded ops (stAs P ops C phi fx Q a0 c i).1.tmps) = true) (hp : phi i = none) (hf : fx i = none) :
    ∀ w, C w → seen ops o w (stAs P ops C phi fx Q a0 c i).2 → (execOp (stAs P ops C phi fx Q a0 c i).1.eval o).run P w = .ok (.value (valAs P ops C phi fx Q c i o (stAs P ops C phi fx Q a0 c i))) w := by
  have hi : i < ops.size := (Array.getElem?_eq_some_iff.1 ho).1
  have h := stAs_walk h0 c i (by omega)
  have hd : ops.toList.drop i = o :: ops.toList.drop (i + 1) := by
    rw [List.drop_eq_getElem_cons (by simp; omega)]
    have := (Array.getElem?_eq_some_iff.1 ho).2
    simp [this]
  rw [hd] at h
  unfold wpAs at h
  simp only [if_pos hw, hp, hf] at h
  unfold valAs
  simp only [if_pos hw, hp, hf]
  exact (Classical.epsilon_spec h).1
/-- What one of a given value leaves. -/
theorem valAs_fixed {a0 : Act} (h0 : wpAs P ops C phi fx Q 0 ops.toList a0 []) (c : Nat → Value) {i : Nat} {o : Oper} (ho : ops[i]? = some o) (hw : Region.wanted o (yielded ops (stAs P ops C phi fx Q a0 c i).1.tmps) = true) (hp : phi i = none) {u : Value} (hf : fx i = some u) :
    ∀ w, C w → seen ops o w (stAs P ops C phi fx Q a0 c i).2 → doesUpon P (fun v w' => v = u ∧ Below w.heap.size w w') ((execOp (stAs P ops C phi fx Q a0 c i).1.eval o).run P w) := by
  have hi : i < ops.size := (Array.getElem?_eq_some_iff.1 ho).1
  have h := stAs_walk h0 c i (by omega)
  have hd : ops.toList.drop i = o :: ops.toList.drop (i + 1) := by
    rw [List.drop_eq_getElem_cons (by simp; omega)]
    have := (Array.getElem?_eq_some_iff.1 ho).2
    simp [this]
  rw [hd] at h
  unfold wpAs at h
  simp only [if_pos hw, hp, hf] at h
  exact h.1
theorem valAs_act {a0 : Act} (h0 : wpAs P ops C phi fx Q 0 ops.toList a0 []) (c : Nat → Value) {i : Nat} {o : Oper} {φ : Value → World → Prop} (ho : ops[i]? = some o) (hw : Region.wanted o (yielded ops (stAs P ops C phi fx Q a0 c i).1.tmps) = true) (hp : phi i = some φ) :
    ∀ w, C w → seen ops o w (stAs P ops C phi fx Q a0 c i).2 → doesUpon P (fun v w' => φ v w' ∧ Below w.heap.size w w') ((execOp (stAs P ops C phi fx Q a0 c i).1.eval o).run P w) := by
  have hi : i < ops.size := (Array.getElem?_eq_some_iff.1 ho).1
  have h := stAs_walk h0 c i (by omega)
  have hd : ops.toList.drop i = o :: ops.toList.drop (i + 1) := by
    rw [List.drop_eq_getElem_cons (by simp; omega)]
    have := (Array.getElem?_eq_some_iff.1 ho).2
    simp [this]
  rw [hd] at h
  unfold wpAs at h
  simp only [if_pos hw, hp] at h
  exact h.1

/-! ### What is asked of the region: by looking -/
/-- i leans on j. -/
def leans (ops : Array Oper) (i j : Nat) : Bool := ((ops[i]?).map fun o => o.after.any fun e => Region.binds .any e && e.on == j).getD false
def okAs (ops : Array Oper) (size : Nat) : Bool :=
  Region.noSelect ops &&
  ((List.range ops.size).all fun i => match ops[i]? with
    | none => true
    | some o => (o.after.all fun e => !Region.binds .any e || decide (e.on < i)) &&
      (match o.dst with | some d => decide (d < size) | none => true) &&
      ((List.range ops.size).all fun j => match ops[j]? with
        | none => true
        | some o' => (j == i || o'.dst == none || o'.dst != o.dst) &&
          (match o'.dst with | some d => !(o.looksAt ops).contains d || leans ops i j || leans ops j i || j == i | none => true)))

structure Ok (ops : Array Oper) (size : Nat) : Prop where
  sel : Region.noSelect ops = true
  less : ∀ (i : Nat) (o : Oper), ops[i]? = some o → ∀ e ∈ o.after, Region.binds .any e = true → e.on < i
  inb : ∀ (i : Nat) (o : Oper) (d : Tmp), ops[i]? = some o → o.dst = some d → d < size
  apart : ∀ (i j : Nat) (o o' : Oper) (d : Tmp), ops[i]? = some o → ops[j]? = some o' → o.dst = some d → o'.dst = some d → i = j
  edge : ∀ (i j : Nat) (o o' : Oper) (d : Tmp), ops[i]? = some o → ops[j]? = some o' → o'.dst = some d → d ∈ o.looksAt ops → leans ops i j = true ∨ leans ops j i = true ∨ j = i

theorem ok_of {size : Nat} (h : okAs ops size = true) : Ok ops size := by
  unfold okAs at h
  rw [Bool.and_eq_true, List.all_eq_true] at h
  obtain ⟨hs, h⟩ := h
  have hl : ∀ {i : Nat} {o : Oper}, ops[i]? = some o → i < ops.size := fun ho => (Array.getElem?_eq_some_iff.1 ho).1
  have H : ∀ (i : Nat) (o : Oper), ops[i]? = some o → (o.after.all fun e => !Region.binds .any e || decide (e.on < i)) = true ∧ (match o.dst with | some d => decide (d < size) | none => true) = true ∧
      ∀ (j : Nat) (o' : Oper), ops[j]? = some o' → (j == i || o'.dst == none || o'.dst != o.dst) = true ∧ (match o'.dst with | some d => !(o.looksAt ops).contains d || leans ops i j || leans ops j i || j == i | none => true) = true := by
    intro i o ho
    have h1 := h i (List.mem_range.2 (hl ho))
    simp only [ho, Bool.and_eq_true] at h1
    obtain ⟨⟨ha, hb⟩, hc⟩ := h1
    refine ⟨ha, hb, fun j o' ho' => ?_⟩
    have h2 := List.all_eq_true.1 hc j (List.mem_range.2 (hl ho'))
    simp only [ho', Bool.and_eq_true] at h2
    exact h2
  refine ⟨hs, fun i o ho e he hb => ?_, fun i o d ho hd => ?_, fun i j o o' d ho ho' hd hd' => ?_, fun i j o o' d ho ho' hd' hm => ?_⟩
  · have := Array.all_eq_true_iff_forall_mem.1 (H i o ho).1 e he
    simpa [hb] using this
  · have := (H i o ho).2.1
    simpa [hd] using this
  · have := ((H i o ho).2.2 j o' ho').1
    simp [hd, hd'] at this
    exact this.symm
  · have := ((H i o ho).2.2 j o' ho').2
    simp only [hd', Bool.or_eq_true, Bool.not_eq_true', beq_iff_eq] at this
    rcases this with ((h1 | h1) | h1) | h1
    · rw [List.contains_iff_mem.2 hm] at h1; cases h1
    · exact .inl h1
    · exact .inr (.inl h1)
    · exact .inr (.inr h1)

/-! ### The frames -/
theorem put_size (a : Act) (d : Option Tmp) (v : Value) : (a.put d v).tmps.size = a.tmps.size := by
  cases d <;> simp [Act.put]
theorem put_defers' (a : Act) (d : Option Tmp) (v : Value) : (a.put d v).defers = a.defers := by
  cases d <;> rfl
theorem put_other (a : Act) (d : Option Tmp) (v : Value) (t : Tmp) (h : d ≠ some t) : (a.put d v).tmps.getD t undef = a.tmps.getD t undef := by
  cases d with
  | none => rfl
  | some d =>
    have hne : d ≠ t := fun e => h (by rw [e])
    simp [Act.put, Array.getElem?_setIfInBounds_ne hne]
theorem put_here (a : Act) (d : Tmp) (v : Value) (h : d < a.tmps.size) : (a.put (some d) v).tmps.getD d undef = v := by
  simp [Act.put, h]
theorem stAs_succ {a0 : Act} {c : Nat → Value} {i : Nat} {o : Oper} (ho : ops[i]? = some o) : stAs P ops C phi fx Q a0 c (i + 1) = ((stAs P ops C phi fx Q a0 c i).1.put o.dst (valAs P ops C phi fx Q c i o (stAs P ops C phi fx Q a0 c i)), envAs ops phi c i o (stAs P ops C phi fx Q a0 c i)) := by
  simp only [stAs, ho]
theorem stAs_size (a0 : Act) (c : Nat → Value) : ∀ i, (stAs P ops C phi fx Q a0 c i).1.tmps.size = a0.tmps.size
  | 0 => rfl
  | i + 1 => by
    cases ho : ops[i]? with
    | none => simp only [stAs, ho]; exact stAs_size a0 c i
    | some o => rw [stAs_succ ho]; exact (put_size _ _ _).trans (stAs_size a0 c i)
theorem stAs_defers (a0 : Act) (c : Nat → Value) : ∀ i, (stAs P ops C phi fx Q a0 c i).1.defers = a0.defers
  | 0 => rfl
  | i + 1 => by
    cases ho : ops[i]? with
    | none => simp only [stAs, ho]; exact stAs_defers a0 c i
    | some o => rw [stAs_succ ho]; exact (put_defers' _ _ _).trans (stAs_defers a0 c i)
/-- A slot that no operation ahead of i leaves anything in. -/
theorem stAs_old (a0 : Act) (c : Nat → Value) (t : Tmp) : ∀ i, (∀ j o, j < i → ops[j]? = some o → o.dst ≠ some t) → (stAs P ops C phi fx Q a0 c i).1.tmps.getD t undef = a0.tmps.getD t undef
  | 0, _ => rfl
  | i + 1, h => by
    have ih := stAs_old a0 c t i (fun j o hj ho => h j o (by omega) ho)
    cases ho : ops[i]? with
    | none => simp only [stAs, ho]; exact ih
    | some o => rw [stAs_succ ho]; exact (put_other _ _ _ _ (h i o (by omega) ho)).trans ih
/-- The value of operation i in the walk's frame. -/
noncomputable def vAs (P : Program) (ops : Array Oper) (C : World → Prop) (phi : Nat → Option (Value → World → Prop)) (fx : Nat → Option Value) (Q : Act → World → Prop) (a0 : Act) (c : Nat → Value) (i : Nat) : Value :=
  match ops[i]? with
  | some o => valAs P ops C phi fx Q c i o (stAs P ops C phi fx Q a0 c i)
  | none => undef
theorem stAs_at {a0 : Act} (hok : Ok ops a0.tmps.size) (c : Nat → Value) {j : Nat} {o : Oper} {d : Tmp} (ho : ops[j]? = some o) (hd : o.dst = some d) : ∀ i, j < i → (stAs P ops C phi fx Q a0 c i).1.tmps.getD d undef = vAs P ops C phi fx Q a0 c j
  | 0, h => absurd h (by omega)
  | i + 1, h => by
    by_cases hji : j = i
    · subst hji
      rw [stAs_succ ho, hd]
      unfold vAs
      simp only [ho]
      exact put_here _ _ _ (by rw [stAs_size]; exact hok.inb j o d ho hd)
    · have ih := stAs_at hok c ho hd i (by omega)
      cases ho' : ops[i]? with
      | none => simp only [stAs, ho']; exact ih
      | some o' =>
        rw [stAs_succ ho']
        exact (put_other _ _ _ _ (fun e => hji (hok.apart j i o o' d ho ho' hd e))).trans ih

/-- Two frames that agree on what an operation looks at: it does the same there. -/
theorem same_looks {o : Oper} (hs : ∀ cs b, o.op ≠ .select cs b) {a b : Act} (hsz : a.tmps.size = b.tmps.size) (h : ∀ t ∈ o.looksAt ops, a.tmps.getD t undef = b.tmps.getD t undef) :
    execOp a.eval o = execOp b.eval o ∧ Region.wanted o (yielded ops a.tmps) = Region.wanted o (yielded ops b.tmps) := by
  constructor
  · refine execOp_congr o hs fun x hx => ?_
    cases x with
    | tmp t => exact h t (List.mem_append_left _ (List.mem_filterMap.2 ⟨.tmp t, by simpa using hx, rfl⟩))
    | _ => rfl
  · unfold Region.wanted
    cases hg : o.guard with
    | none => rfl
    | some gw =>
      obtain ⟨g, want⟩ := gw
      have hy : yielded ops a.tmps g = yielded ops b.tmps g := by
        unfold yielded
        cases ht : (ops[g]?).bind (·.dst) with
        | none => rfl
        | some t =>
          have h1 := h t (List.mem_append_right _ (by simp [hg, ht]))
          have h2 : a.tmps[t]? = b.tmps[t]? := by
            by_cases hlt : t < a.tmps.size
            · have hlt' : t < b.tmps.size := hsz ▸ hlt
              rw [Array.getElem?_eq_getElem hlt, Array.getElem?_eq_getElem hlt']
              simp only [Array.getD, hlt, hlt', dite_true] at h1
              exact congrArg some h1
            · rw [Array.getElem?_eq_none (Nat.le_of_not_lt hlt), Array.getElem?_eq_none (Nat.le_of_not_lt (hsz ▸ hlt))]
          simp only [Option.bind_some, h2]
      simp only [hy]

/-! ### Any order -/
theorem wp_of_does {o : Oper} {a : Act} {w : World} {K : Act → World → Prop} {Q' : Exit → Act → World → Prop} {R : Value → World → Prop} (h : doesUpon P R ((execOp a.eval o).run P w)) (hk : ∀ v w', R v w' → K (a.put o.dst v) w') : o.wp P a w K Q' := by
  unfold Oper.wp
  generalize (execOp a.eval o).run P w = r at *
  cases r with
  | halt x w' => exact h.elim
  | ok n w' =>
    cases n <;> simp only [doesUpon] at h <;> simp only [Oper.upon]
    case value v => exact hk _ _ h
    case skip => exact hk _ _ h
    case enter f args =>
      refine h.mono fun e w'' he => ?_
      obtain ⟨v, rfl, hr⟩ := he
      exact hk _ _ hr

/-- The state when some operations have come up: they left the values u. -/
structure Inv (P : Program) (ops : Array Oper) (C : World → Prop) (phi : Nat → Option (Value → World → Prop)) (fx : Nat → Option Value) (Q : Act → World → Prop) (a0 : Act) (listed : Array Bool) (u : Nat → Value) (a : Act) (w : World) : Prop where
  lsize : listed.size = ops.size
  size : a.tmps.size = a0.tmps.size
  defers : a.defers = a0.defers
  closed : ∀ i o, ops[i]? = some o → listed.getD i false = true → ∀ e ∈ o.after, Region.binds .any e = true → listed.getD e.on false = true
  new : ∀ i o d, ops[i]? = some o → listed.getD i false = true → o.dst = some d → a.tmps.getD d undef = u i
  old : ∀ t, (∀ i o, ops[i]? = some o → o.dst = some t → listed.getD i false = false) → a.tmps.getD t undef = a0.tmps.getD t undef
  world : C w
  val : ∀ c : Nat → Value, (∀ j, listed.getD j false = true → (phi j).isSome = true → c j = u j) → ∀ i, listed.getD i false = true → vAs P ops C phi fx Q a0 c i = u i
  act : ∀ c : Nat → Value, (∀ j, listed.getD j false = true → (phi j).isSome = true → c j = u j) → ∀ i o φ, ops[i]? = some o → listed.getD i false = true → phi i = some φ →
    Region.wanted o (yielded ops (stAs P ops C phi fx Q a0 c i).1.tmps) = true → φ (u i) w

section
variable {a0 : Act} {listed : Array Bool} {u : Nat → Value} {a : Act} {w : World}

theorem leans_spec {i j : Nat} {o : Oper} (ho : ops[i]? = some o) (h : leans ops i j = true) : ∃ e ∈ o.after, Region.binds .any e = true ∧ e.on = j := by
  simp only [leans, ho, Option.map_some, Option.getD_some] at h
  obtain ⟨e, he, hb⟩ := Array.any_eq_true'.1 h
  simp only [Bool.and_eq_true, beq_iff_eq] at hb
  exact ⟨e, he, hb.1, hb.2⟩

/-- The frame at hand and the walk's frame agree on what an operation that may come up looks at. -/
theorem Inv.looks (hok : Ok ops a0.tmps.size) (I : Inv P ops C phi fx Q a0 listed u a w) {c : Nat → Value} (hc : ∀ j, listed.getD j false = true → (phi j).isSome = true → c j = u j) {i : Nat} {o : Oper} (ho : ops[i]? = some o)
    (hi : listed.getD i false = false) (hr : ∀ e ∈ o.after, Region.binds .any e = true → listed.getD e.on false = true) :
    ∀ t ∈ o.looksAt ops, a.tmps.getD t undef = (stAs P ops C phi fx Q a0 c i).1.tmps.getD t undef := by
  intro t ht
  by_cases hj : ∃ (j : Nat) (o' : Oper), ops[j]? = some o' ∧ o'.dst = some t
  · obtain ⟨j, o', ho', hd⟩ := hj
    rcases hok.edge i j o o' t ho ho' hd ht with h | h | h
    · obtain ⟨e, he, hb, rfl⟩ := leans_spec ho h
      have hl := hr e he hb
      rw [I.new _ o' t ho' hl hd, stAs_at hok c ho' hd i (hok.less i o ho e he hb), I.val c hc _ hl]
    all_goals
      have hun : listed.getD j false = false := by
        first
          | (subst h; exact hi)
          | (obtain ⟨e, he, hb, rfl⟩ := leans_spec ho' h
             cases hl : listed.getD j false with
             | false => rfl
             | true =>
               have := I.closed j o' ho' hl e he hb
               rw [hi] at this
               cases this)
      have hle : i ≤ j := by
        first
          | (subst h; exact Nat.le_refl _)
          | (obtain ⟨e, he, hb, rfl⟩ := leans_spec ho' h
             exact Nat.le_of_lt (hok.less j o' ho' e he hb))
      rw [I.old t (fun k ok hk hdk => by rw [← hok.apart j k o' ok t ho' hk hd hdk]; exact hun),
        stAs_old a0 c t i (fun k ok hk hok' hdk => by have := hok.apart j k o' ok t ho' hok' hd hdk; omega)]
  · rw [I.old t (fun k ok hk hdk => absurd ⟨k, ok, hk, hdk⟩ hj), stAs_old a0 c t i (fun k ok _ hk hdk => hj ⟨k, ok, hk, hdk⟩)]

theorem seen_st {o : Oper} (c : Nat → Value) : ∀ k, (∀ (j : Nat) (oj : Oper) (φ : Value → World → Prop) (d : Tmp), j < k → ops[j]? = some oj → phi j = some φ → Region.wanted oj (yielded ops (stAs P ops C phi fx Q a0 c j).1.tmps) = true → oj.dst = some d → d ∈ o.looksAt ops → φ (c j) w) →
    seen ops o w (stAs P ops C phi fx Q a0 c k).2
  | 0, _ => trivial
  | k + 1, h => by
    have ih := seen_st (o := o) c k (fun j oj φ d hj => h j oj φ d (by omega))
    cases ho : ops[k]? with
    | none => simp only [stAs, ho]; exact ih
    | some ok =>
      rw [stAs_succ ho]
      unfold envAs
      by_cases hw : Region.wanted ok (yielded ops (stAs P ops C phi fx Q a0 c k).1.tmps) = true
      · simp only [if_pos hw]
        cases hp : phi k with
        | none => exact ih
        | some φ =>
          simp only
          unfold envAdd
          cases hd : ok.dst with
          | none => exact ih
          | some d => exact ⟨fun hc => h k ok φ d (by omega) ho hp hw hd (List.contains_iff_mem.1 hc), ih⟩
      · simp only [if_neg hw]
        exact ih
theorem holds_st (c : Nat → Value) : ∀ k, (∀ (j : Nat) (oj : Oper) (φ : Value → World → Prop), j < k → ops[j]? = some oj → phi j = some φ → Region.wanted oj (yielded ops (stAs P ops C phi fx Q a0 c j).1.tmps) = true → φ (c j) w) →
    holds w (stAs P ops C phi fx Q a0 c k).2
  | 0, _ => trivial
  | k + 1, h => by
    have ih := holds_st c k (fun j oj φ hj => h j oj φ (by omega))
    cases ho : ops[k]? with
    | none => simp only [stAs, ho]; exact ih
    | some ok =>
      rw [stAs_succ ho]
      unfold envAs
      by_cases hw : Region.wanted ok (yielded ops (stAs P ops C phi fx Q a0 c k).1.tmps) = true
      · simp only [if_pos hw]
        cases hp : phi k with
        | none => exact ih
        | some φ =>
          simp only
          unfold envAdd
          cases hd : ok.dst with
          | none => exact ih
          | some d => exact ⟨h k ok φ (by omega) ho hp hw, ih⟩
      · simp only [if_neg hw]
        exact ih

/-- One operation more has come up and left v. -/
theorem Inv.next (hok : Ok ops a0.tmps.size) (I : Inv P ops C phi fx Q a0 listed u a w) {i : Nat} {o : Oper} {v : Value} {w' : World} (ho : ops[i]? = some o) (hi : listed.getD i false = false)
    (hr : ∀ e ∈ o.after, Region.binds .any e = true → listed.getD e.on false = true) (hC : C w') (hst : ∀ (j : Nat) (φ : Value → World → Prop) (x : Value), phi j = some φ → φ x w → φ x w')
    (hv : ∀ c : Nat → Value, (∀ j, listed.getD j false = true → (phi j).isSome = true → c j = u j) → ((phi i).isSome = true → c i = v) → vAs P ops C phi fx Q a0 c i = v)
    (ha : ∀ c : Nat → Value, (∀ j, listed.getD j false = true → (phi j).isSome = true → c j = u j) → ∀ φ, phi i = some φ → Region.wanted o (yielded ops (stAs P ops C phi fx Q a0 c i).1.tmps) = true → φ v w') :
    Inv P ops C phi fx Q a0 (listed.setIfInBounds i true) (fun j => if j = i then v else u j) (a.put o.dst v) w' := by
  have hlt : i < ops.size := (Array.getElem?_eq_some_iff.1 ho).1
  have hL : ∀ j, (listed.setIfInBounds i true).getD j false = true ↔ j = i ∨ listed.getD j false = true := by
    intro j
    by_cases hji : i = j
    · subst hji
      have : i < listed.size := by rw [I.lsize]; exact hlt
      simp [this]
    · rw [getD_set_ne false hji]
      constructor
      · exact .inr
      · rintro (h | h)
        · exact absurd h.symm hji
        · exact h
  have hne : ∀ j, listed.getD j false = true → j ≠ i := fun j hj e => by rw [e, hi] at hj; cases hj
  have hag : ∀ c : Nat → Value, (∀ j, (listed.setIfInBounds i true).getD j false = true → (phi j).isSome = true → c j = if j = i then v else u j) →
      (∀ j, listed.getD j false = true → (phi j).isSome = true → c j = u j) ∧ ((phi i).isSome = true → c i = v) := fun c hc =>
    ⟨fun j hj hp => by have := hc j ((hL j).2 (.inr hj)) hp; rwa [if_neg (hne j hj)] at this, fun hp => by have := hc i ((hL i).2 (.inl rfl)) hp; rwa [if_pos rfl] at this⟩
  refine ⟨by simpa using I.lsize, (put_size _ _ _).trans I.size, (put_defers' _ _ _).trans I.defers, ?_, ?_, ?_, hC, ?_, ?_⟩
  · intro j oj hoj hj e he hb
    rcases (hL j).1 hj with rfl | h
    · rw [ho] at hoj
      cases hoj
      exact (hL _).2 (.inr (hr e he hb))
    · exact (hL _).2 (.inr (I.closed j oj hoj h e he hb))
  · intro j oj d hoj hj hd
    rcases (hL j).1 hj with rfl | h
    · rw [ho] at hoj
      cases hoj
      rw [hd, if_pos rfl]
      exact put_here _ _ _ (by rw [I.size]; exact hok.inb j o d ho hd)
    · rw [if_neg (hne j h)]
      exact (put_other _ _ _ _ (fun e => hne j h (hok.apart j i oj o d hoj ho hd e))).trans (I.new j oj d hoj h hd)
  · intro t ht
    have hn : o.dst ≠ some t := fun e => by have := ht i o ho e; rw [(hL i).2 (.inl rfl)] at this; cases this
    refine (put_other _ _ _ _ hn).trans (I.old t fun j oj hoj hd => ?_)
    have := ht j oj hoj hd
    cases hl : listed.getD j false with
    | false => rfl
    | true => rw [(hL j).2 (.inr hl)] at this; cases this
  · intro c hc j hj
    obtain ⟨h1, h2⟩ := hag c hc
    rcases (hL j).1 hj with rfl | h
    · rw [if_pos rfl]; exact hv c h1 h2
    · rw [if_neg (hne j h)]; exact I.val c h1 j h
  · intro c hc j oj φ hoj hj hp hw
    obtain ⟨h1, h2⟩ := hag c hc
    rcases (hL j).1 hj with rfl | h
    · rw [ho] at hoj
      cases hoj
      rw [if_pos rfl]
      exact ha c h1 φ hp hw
    · rw [if_neg (hne j h)]
      exact hst j φ _ hp (I.act c h1 j oj φ hoj h hp hw)

theorem Inv.step (hok : Ok ops a0.tmps.size) (h0 : wpAs P ops C phi fx Q 0 ops.toList a0 []) (hCb : ∀ w w', C w → Below w.heap.size w w' → C w') (hst : ∀ (j : Nat) (φ : Value → World → Prop) (x : Value) (w w' : World), phi j = some φ → φ x w → Below w.heap.size w w' → φ x w')
    (I : Inv P ops C phi fx Q a0 listed u a w) {i : Nat} (hi : i ∈ Region.ready .any ops listed) {Q' : Exit → Act → World → Prop} :
    wpOp P ops Q' i (fun a' w' => ∃ u', Inv P ops C phi fx Q a0 (listed.setIfInBounds i true) u' a' w') a w := by
  obtain ⟨hun, o, ho, hr⟩ := mem_ready.1 hi
  have hlt : i < ops.size := (Array.getElem?_eq_some_iff.1 ho).1
  have hil : listed.getD i false = false := by
    have : i < listed.size := by rw [I.lsize]; exact hlt
    simpa [this] using hun
  have hsel := Region.noSelect_spec hok.sel
  have look : ∀ c : Nat → Value, (∀ j, listed.getD j false = true → (phi j).isSome = true → c j = u j) →
      execOp a.eval o = execOp (stAs P ops C phi fx Q a0 c i).1.eval o ∧ Region.wanted o (yielded ops a.tmps) = Region.wanted o (yielded ops (stAs P ops C phi fx Q a0 c i).1.tmps) := fun c hc =>
    same_looks (fun cs b => hsel i o cs b ho) (I.size.trans (stAs_size a0 c i).symm) (I.looks hok hc ho hil hr)
  have see : ∀ c : Nat → Value, (∀ j, listed.getD j false = true → (phi j).isSome = true → c j = u j) → seen ops o w (stAs P ops C phi fx Q a0 c i).2 := fun c hc =>
    seen_st c i fun j oj φ d hj hoj hp hw hd hm => by
      rcases hok.edge i j o oj d ho hoj hd hm with h | h | h
      · obtain ⟨e, he, hb, rfl⟩ := leans_spec ho h
        have hl := hr e he hb
        rw [hc _ hl (by rw [hp]; rfl)]
        exact I.act c hc _ oj φ hoj hl hp hw
      · obtain ⟨e, he, hb, h'⟩ := leans_spec hoj h
        have := hok.less j oj hoj e he hb
        omega
      · omega
  have vas : ∀ c : Nat → Value, vAs P ops C phi fx Q a0 c i = valAs P ops C phi fx Q c i o (stAs P ops C phi fx Q a0 c i) := fun c => by
    unfold vAs
    simp only [ho]
  have hu : ∀ j, listed.getD j false = true → (phi j).isSome = true → u j = u j := fun _ _ _ => rfl
  unfold wpOp
  simp only [ho]
  by_cases hw : Region.wanted o (yielded ops a.tmps) = true
  · rw [if_pos hw]
    refine .inl ?_
    cases hp : phi i with
    | none =>
      cases hf : fx i with
      | none =>
        have hrun := valAs_pure h0 u ho (by rw [← (look u hu).2]; exact hw) hp hf w I.world (see u hu)
        rw [← (look u hu).1] at hrun
        unfold Oper.wp
        rw [hrun]
        refine ⟨_, I.next hok ho hil hr I.world (fun _ _ _ _ h => h) (fun c hc _ => ?_) (fun c hc φ hp' => by rw [hp] at hp'; cases hp')⟩
        have hrun' := valAs_pure h0 c ho (by rw [← (look c hc).2]; exact hw) hp hf w I.world (see c hc)
        rw [← (look c hc).1, hrun] at hrun'
        rw [vas c]
        injection hrun' with h1 _
        injection h1 with h1
        exact h1.symm
      | some x =>
        have hrun := valAs_fixed h0 u ho (by rw [← (look u hu).2]; exact hw) hp hf w I.world (see u hu)
        rw [← (look u hu).1] at hrun
        refine wp_of_does hrun fun v w' ⟨hφ, hb⟩ => ⟨_, I.next hok ho hil hr (hCb w w' I.world hb) (fun j φ' x hp' h => hst j φ' x w w' hp' h hb) (fun c hc _ => ?_) (fun c hc φ' hp' _ => ?_)⟩
        · rw [vas c]
          unfold valAs
          rw [if_pos (by rw [← (look c hc).2]; exact hw)]
          simp only [hp, hf]
          exact hφ.symm
        · rw [hp] at hp'
          cases hp'
    | some φ =>
      have hrun := valAs_act h0 u ho (by rw [← (look u hu).2]; exact hw) hp w I.world (see u hu)
      rw [← (look u hu).1] at hrun
      refine wp_of_does hrun fun v w' ⟨hφ, hb⟩ => ⟨_, I.next hok ho hil hr (hCb w w' I.world hb) (fun j φ' x hp' h => hst j φ' x w w' hp' h hb) (fun c hc hci => ?_) (fun c hc φ' hp' _ => ?_)⟩
      · rw [vas c]
        unfold valAs
        rw [if_pos (by rw [← (look c hc).2]; exact hw)]
        simp only [hp]
        exact hci (by rw [hp]; rfl)
      · rw [hp] at hp'
        cases hp'
        exact hφ
  · rw [if_neg hw]
    refine ⟨_, I.next hok ho hil hr I.world (fun _ _ _ _ h => h) (fun c hc _ => ?_) (fun c hc φ hp' hw' => ?_)⟩
    · rw [vas c]
      unfold valAs
      rw [if_neg (by rw [← (look c hc).2]; exact hw)]
    · rw [← (look c hc).2] at hw'
      exact absurd hw' hw

/-- How many have not come up. -/
def left (n : Nat) (listed : Array Bool) : Nat := ((List.range n).filter fun i => !listed.getD i false).length
theorem left_set {n : Nat} {listed : Array Bool} {i : Nat} (hi : i < n) (hs : listed.size = n) (hl : listed.getD i false = false) : left n (listed.setIfInBounds i true) < left n listed := by
  unfold left
  have hsub : ((List.range n).filter fun j => !(listed.setIfInBounds i true).getD j false) = ((List.range n).filter fun j => !listed.getD j false).filter (fun j => j != i) := by
    rw [List.filter_filter]
    refine List.filter_congr fun j _ => ?_
    by_cases hji : i = j
    · subst hji
      have : i < listed.size := by omega
      simp [this]
    · rw [getD_set_ne false hji]
      have : (j != i) = true := by simpa using fun e : j = i => hji e.symm
      simp [this]
  rw [hsub]
  refine List.length_filter_lt_length_iff_exists.2 ⟨i, ?_, by simp⟩
  rw [List.mem_filter, List.mem_range]
  exact ⟨hi, by rw [hl]; rfl⟩

theorem wpAny_of_as (hok : Ok ops a0.tmps.size) (h0 : wpAs P ops C phi fx Q 0 ops.toList a0 []) (hCb : ∀ w w', C w → Below w.heap.size w w' → C w') (hst : ∀ (j : Nat) (φ : Value → World → Prop) (x : Value) (w w' : World), phi j = some φ → φ x w → Below w.heap.size w w' → φ x w')
    {Q' : Exit → Act → World → Prop} (hQ : ∀ a w, Q a w → Q' .normal a w) : ∀ (fuel : Nat) (listed : Array Bool) (u : Nat → Value) (a : Act) (w : World), left ops.size listed ≤ fuel → Inv P ops C phi fx Q a0 listed u a w → wpAny P .any ops Q' fuel listed a w := by
  have fin : ∀ (listed : Array Bool) (u : Nat → Value) (a : Act) (w : World), Inv P ops C phi fx Q a0 listed u a w → Region.ready .any ops listed = [] → Q' .normal a w := by
    intro listed u a w I hr
    have all : ∀ n i, i < n → i < ops.size → listed.getD i false = true := by
      intro n
      induction n with
      | zero => intro i h; omega
      | succ n ih =>
        intro i hin hi
        cases hl : listed.getD i false with
        | true => rfl
        | false =>
          have ho : ops[i]? = some (ops[i]'hi) := Array.getElem?_eq_getElem hi
          have hmem : i ∈ Region.ready .any ops listed := by
            refine mem_ready.2 ⟨?_, _, ho, fun e he hb => ?_⟩
            · have : i < listed.size := by rw [I.lsize]; exact hi
              simpa [this] using hl
            · have := hok.less i _ ho e he hb
              exact ih e.on (by omega) (by omega)
          rw [hr] at hmem
          cases hmem
    have all' : ∀ i, i < ops.size → listed.getD i false = true := fun i hi => all (i + 1) i (by omega) hi
    have hu : ∀ j, listed.getD j false = true → (phi j).isSome = true → u j = u j := fun _ _ _ => rfl
    have hend := stAs_walk h0 u ops.size (Nat.le_refl _)
    have hn : ops.toList.drop ops.size = [] := List.drop_eq_nil_of_le (by simp)
    rw [hn] at hend
    unfold wpAs at hend
    have he := hend w I.world (holds_st u ops.size fun j oj φ hj hoj hp hw => I.act u hu j oj φ hoj (all' j hj) hp hw)
    have hfr : a = (stAs P ops C phi fx Q a0 u ops.size).1 := by
      have hs := I.size.trans (stAs_size (P := P) (ops := ops) (C := C) (phi := phi) (fx := fx) (Q := Q) a0 u ops.size).symm
      have hd := I.defers.trans (stAs_defers (P := P) (ops := ops) (C := C) (phi := phi) (fx := fx) (Q := Q) a0 u ops.size).symm
      have ht : ∀ t, a.tmps.getD t undef = (stAs P ops C phi fx Q a0 u ops.size).1.tmps.getD t undef := by
        intro t
        by_cases hj : ∃ (j : Nat) (o' : Oper), ops[j]? = some o' ∧ o'.dst = some t
        · obtain ⟨j, o', ho', hd'⟩ := hj
          have hjl := (Array.getElem?_eq_some_iff.1 ho').1
          rw [I.new j o' t ho' (all' j hjl) hd', stAs_at hok u ho' hd' ops.size hjl, I.val u hu j (all' j hjl)]
        · rw [I.old t (fun k ok hk hdk => absurd ⟨k, ok, hk, hdk⟩ hj), stAs_old a0 u t ops.size (fun k ok _ hk hdk => hj ⟨k, ok, hk, hdk⟩)]
      generalize (stAs P ops C phi fx Q a0 u ops.size).1 = b at *
      obtain ⟨at_, ad⟩ := a
      obtain ⟨bt, bd⟩ := b
      simp only at hs hd ht
      subst hd
      have : at_ = bt := by
        apply Array.ext hs
        intro k h1 h2
        have := ht k
        simpa [Array.getD, h1, h2] using this
      rw [this]
    rw [hfr]
    exact hQ _ _ he
  intro fuel
  induction fuel with
  | zero =>
    intro listed u a w hl I
    have hr : Region.ready .any ops listed = [] := by
      rw [List.eq_nil_iff_forall_not_mem]
      intro i hi
      obtain ⟨hun, o, ho, _⟩ := mem_ready.1 hi
      have hlt := (Array.getElem?_eq_some_iff.1 ho).1
      have hil : listed.getD i false = false := by
        have : i < listed.size := by rw [I.lsize]; exact hlt
        simpa [this] using hun
      have := left_set hlt I.lsize hil
      omega
    exact ⟨hr, fin listed u a w I hr⟩
  | succ fuel ih =>
    intro listed u a w hl I
    refine ⟨fun hr => fin listed u a w I hr, fun i hi => ?_⟩
    have hlt : i < ops.size := by
      obtain ⟨_, o, ho, _⟩ := mem_ready.1 hi
      exact (Array.getElem?_eq_some_iff.1 ho).1
    have hil : listed.getD i false = false := by
      have h1 := (mem_ready.1 hi).1
      have : i < listed.size := by rw [I.lsize]; exact hlt
      simpa [this] using h1
    refine wpOp_mono (fun a' w' ⟨u', I'⟩ => ih _ u' a' w' ?_ I') (I.step hok h0 hCb hst hi)
    have := left_set hlt I.lsize hil
    omega
end

/-- THE LAW: a region that draws its order, walked once. -/
theorem wp_region_fx {id : Nat} {l : List Oper} {a : Act} {w : World} {Q' : Exit → Act → World → Prop} (hm : P.follows .mixedOrders = true) (C : World → Prop) (phi : Nat → Option (Value → World → Prop)) (fx : Nat → Option Value) (hok : okAs l.toArray a.tmps.size = true)
    (hC : C w.drew) (hCb : ∀ w w', C w → Below w.heap.size w w' → C w') (hst : ∀ (j : Nat) (φ : Value → World → Prop) (x : Value) (w w' : World), phi j = some φ → φ x w → Below w.heap.size w w' → φ x w')
    (h : wpAs P l.toArray C phi fx (fun a w => Q' .normal a w) 0 l a []) : (Code.region id l.toArray true).wp P Q' a w := by
  refine wp_region_any hm ?_
  have hsz : (Array.replicate l.toArray.size false).size = l.toArray.size := by simp
  have hg : ∀ i, (Array.replicate l.toArray.size false).getD i false = false := fun i => by
    by_cases hi : i < l.toArray.size
    · simp [Array.getD, hi]
    · simp [Array.getD, hi]
  refine wpAny_of_as (a0 := a) (ok_of hok) (by simpa using h) hCb hst (fun _ _ h => h) _ _ (fun _ => undef) a w.drew ?_ ⟨hsz, rfl, rfl, ?_, ?_, fun _ _ => rfl, hC, ?_, ?_⟩
  · unfold left
    exact Nat.le_trans (List.length_filter_le _ _) (by simp)
  · intro i o _ hl
    rw [hg i] at hl
    cases hl
  · intro i o d _ hl
    rw [hg i] at hl
    cases hl
  · intro c _ i hl
    rw [hg i] at hl
    cases hl
  · intro c _ i o φ _ hl
    rw [hg i] at hl
    cases hl
theorem wp_region_as {id : Nat} {l : List Oper} {a : Act} {w : World} {Q' : Exit → Act → World → Prop} (hm : P.follows .mixedOrders = true) (C : World → Prop) (phi : Nat → Option (Value → World → Prop)) (hok : okAs l.toArray a.tmps.size = true)
    (hC : C w.drew) (hCb : ∀ w w', C w → Below w.heap.size w w' → C w') (hst : ∀ (j : Nat) (φ : Value → World → Prop) (x : Value) (w w' : World), phi j = some φ → φ x w → Below w.heap.size w w' → φ x w')
    (h : wpAs P l.toArray C phi (fun _ => none) (fun a w => Q' .normal a w) 0 l a []) : (Code.region id l.toArray true).wp P Q' a w :=
  wp_region_fx hm C phi (fun _ => none) hok hC hCb hst h
end

/-! ### Steps -/
theorem run_convert_op {P : Program} {ρ : Operand → Value} {o : Oper} (s d : TypeId) (x : Operand) (h : o.op = .convert s d x) {v u : Value} {w : World} (hv : ρ x = v) (hr : (convert s d v).run P w = .ok u w) : (execOp ρ o).run P w = .ok (.value u) w := by
  unfold execOp
  simp [h, hv, hr, Result.andThen]
theorem does_enter {P : Program} {ρ : Operand → Value} {o : Oper} {w : World} {R : Value → World → Prop} {f : FuncId} {args : Array Value} (h : (execOp ρ o).run P w = .ok (.enter f args) w) (hc : Calls P f args w (fun e w' => ∃ v, e = .returned v ∧ R v w')) : doesUpon P R ((execOp ρ o).run P w) := by
  rw [h]
  exact hc
end Go.Proofs.Ytgnogclhleheiaa
