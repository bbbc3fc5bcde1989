/-
  A region that draws its order, whose last operation waits for all others (a store at the end): the others in whatever order, then that one. No program, no condition of its own.
-/
import Derived.Test.YtgnogclhleheiaaAny
import Derived.Test.YtgnogclhleheiaaBase
namespace Go.Proofs.Ytgnogclhleheiaa
open Go.RowKit

section
variable {P : Program} {Q Q' : Exit → Act → World → Prop}
theorem wp_mono_exits (hQ : ∀ e a w, e ≠ .normal → Q e a w → Q' e a w) {o : Oper} {a : Act} {w : World} {K : Act → World → Prop} (hh : o.wp P a w K Q) : o.wp P a w K Q' := by
  unfold Oper.wp at *
  generalize (execOp a.eval o).run P w = r at *
  have hout : LetsOut Q → LetsOut Q' := fun ⟨a, w, h⟩ => ⟨a, w, hQ _ _ _ (by simp) h⟩
  cases r with
  | ok n w' =>
    cases n <;> simp only [Oper.upon] at hh ⊢ <;>
      first
        | exact hh
        | exact Calls.mono hh (fun e w'' he => by cases e <;> first | exact he | exact hQ _ _ _ (by simp) he | exact hout he)
        | exact Rows.mono hh (fun _ _ he => he)
  | halt x w' => cases x <;> simp only [Oper.upon] at hh ⊢ <;> first | exact hh | exact hQ _ _ _ (by simp) hh
/-- What may come up before the last one. -/
def preQ (P : Program) (ops : Array Oper) (m : Nat) (Q : Exit → Act → World → Prop) : Exit → Act → World → Prop
  | .normal, a, w => wpOp P ops Q m (fun a' w' => Q .normal a' w') a w
  | e, a, w => Q e a w
theorem preQ_exit {ops : Array Oper} {m : Nat} {e : Exit} {a : Act} {w : World} (he : e ≠ .normal) : preQ P ops m Q e a w = Q e a w := by
  cases e <;> first | rfl | exact absurd rfl he

/-- Looked at: each operation leans on earlier ones alone, and each but the last is leaned on by a later one. -/
def okLast (ops : Array Oper) : Bool :=
  ((List.range ops.size).all fun i => match ops[i]? with
    | none => true
    | some o => (o.after.all fun e => !Region.binds .any e || decide (e.on < i)) && (match o.guard with | some (g, _) => decide (g < i) | none => true) &&
        (decide (i + 1 = ops.size) || (List.range ops.size).any fun j => decide (i < j) && leans ops j i))

structure OkLast (ops : Array Oper) : Prop where
  less : ∀ (i : Nat) (o : Oper), ops[i]? = some o → ∀ e ∈ o.after, Region.binds .any e = true → e.on < i
  guard : ∀ (i : Nat) (o : Oper) (g : Nat) (b : Bool), ops[i]? = some o → o.guard = some (g, b) → g < i
  used : ∀ (i : Nat), i + 1 < ops.size → ∃ j, i < j ∧ j < ops.size ∧ leans ops j i = true
theorem okLast_of {ops : Array Oper} (h : okLast ops = true) : OkLast ops := by
  unfold okLast at h
  rw [List.all_eq_true] at h
  have hl : ∀ {i : Nat} {o : Oper}, ops[i]? = some o → i < ops.size := fun ho => (Array.getElem?_eq_some_iff.1 ho).1
  refine ⟨fun i o ho e he hb => ?_, fun i o g b ho hg => ?_, fun i hi => ?_⟩
  · have h1 := h i (List.mem_range.2 (hl ho))
    simp only [ho, Bool.and_eq_true] at h1
    have := Array.all_eq_true_iff_forall_mem.1 h1.1.1 e he
    simpa [hb] using this
  · have h1 := h i (List.mem_range.2 (hl ho))
    simp only [ho, Bool.and_eq_true, hg] at h1
    simpa using h1.1.2
  · have ho : ops[i]? = some (ops[i]'(by omega)) := Array.getElem?_eq_getElem (by omega)
    have h1 := h i (List.mem_range.2 (by omega))
    simp only [ho, Bool.and_eq_true, Bool.or_eq_true, decide_eq_true_eq] at h1
    rcases h1.2 with h2 | h2
    · omega
    · obtain ⟨j, hj, h3⟩ := List.any_eq_true.1 h2
      simp only [Bool.and_eq_true, decide_eq_true_eq] at h3
      exact ⟨j, h3.1, List.mem_range.1 hj, h3.2⟩

theorem snoc_get {l : List Oper} {o : Oper} {i : Nat} (hi : i < l.length) : (l ++ [o]).toArray[i]? = l.toArray[i]? := by simp [List.getElem?_append_left hi]
theorem snoc_last {l : List Oper} {o : Oper} : (l ++ [o]).toArray[l.length]? = some o := by simp
theorem push_get {b : Array Bool} {c d : Bool} {i : Nat} (hi : i < b.size) : (b.push c).getD i d = b.getD i d := by
  simp only [Array.getD_eq_getD_getElem?, Array.getElem?_push_lt hi]
  rw [Array.getElem?_eq_getElem hi]
theorem push_get_last {b : Array Bool} {c d : Bool} : (b.push c).getD b.size d = c := by simp
theorem push_set {b : Array Bool} {c d : Bool} {i : Nat} (hi : i < b.size) : (b.push c).setIfInBounds i d = (b.setIfInBounds i d).push c := by
  apply Array.ext_getElem?
  intro k
  by_cases hk : k < b.size
  · by_cases hki : i = k
    · subst hki
      have e : (b.setIfInBounds i d).size = b.size := by simp
      rw [Array.getElem?_push, e, if_neg (Nat.ne_of_lt hi)]
      simp [hi, Nat.lt_succ_of_lt hi]
    · simp [Array.getElem?_push, Array.getElem?_setIfInBounds, hki, Nat.ne_of_lt hk]
  · by_cases hk2 : k = b.size
    · subst hk2
      have : ¬ i = b.size := by omega
      have e : (b.setIfInBounds i d).size = b.size := by simp
      rw [Array.getElem?_setIfInBounds_ne this, Array.getElem?_push, Array.getElem?_push, e]
      simp
    · have h1 : ¬ i = k := by omega
      simp [Array.getElem?_push, Array.getElem?_setIfInBounds, h1, hk2]

theorem wpAny_snoc {l : List Oper} {o : Oper} (hok : OkLast (l ++ [o]).toArray) : ∀ (fuel : Nat) (listed : Array Bool) (a : Act) (w : World), listed.size = l.length →
    (∀ (i : Nat) (oi : Oper), l.toArray[i]? = some oi → listed.getD i false = true → ∀ e ∈ oi.after, Region.binds .any e = true → listed.getD e.on false = true) →
    wpAny P .any l.toArray (preQ P (l ++ [o]).toArray l.length Q) fuel listed a w → wpAny P .any (l ++ [o]).toArray Q (fuel + 1) (listed.push false) a w := by
  have hsize : (l ++ [o]).toArray.size = l.length + 1 := by simp
  -- if the last may come up, all others have
  have all_of_last : ∀ (listed : Array Bool), listed.size = l.length → (∀ (i : Nat) (oi : Oper), l.toArray[i]? = some oi → listed.getD i false = true → ∀ e ∈ oi.after, Region.binds .any e = true → listed.getD e.on false = true) →
      (∀ e ∈ o.after, Region.binds .any e = true → listed.getD e.on false = true) → ∀ i, i < l.length → listed.getD i false = true := by
    intro listed hs hcl hlast
    have key : ∀ k i, l.length - i ≤ k → i < l.length → listed.getD i false = true := by
      intro k
      induction k with
      | zero => intro i h1 h2; omega
      | succ k ih =>
        intro i h1 h2
        obtain ⟨j, hij, hj, hle⟩ := hok.used i (by rw [hsize]; omega)
        rw [hsize] at hj
        by_cases hjl : j < l.length
        · obtain ⟨e, he, hb, rfl⟩ := leans_spec (ops := (l ++ [o]).toArray) (o := l[j]) (by rw [snoc_get hjl]; simp [hjl]) hle
          exact hcl j _ (by simp [hjl]) (ih j (by omega) hjl) e he hb
        · obtain rfl : j = l.length := by omega
          obtain ⟨e, he, hb, rfl⟩ := leans_spec (ops := (l ++ [o]).toArray) (o := o) snoc_last hle
          exact hlast e he hb
    exact fun i hi => key _ i (Nat.le_refl _) hi
  -- what may come up
  have ready_low : ∀ (listed : Array Bool), listed.size = l.length → ∀ i, i < l.length → (i ∈ Region.ready .any (l ++ [o]).toArray (listed.push false) ↔ i ∈ Region.ready .any l.toArray listed) := by
    intro listed hs i hi
    rw [mem_ready, mem_ready, push_get (by omega), snoc_get hi]
    refine and_congr_right fun _ => exists_congr fun oi => and_congr_right fun ho => ?_
    refine forall_congr' fun e => forall_congr' fun he => forall_congr' fun hb => ?_
    have := hok.less i oi (by rw [snoc_get hi]; exact ho) e he hb
    rw [push_get (by omega)]
  have ready_last : ∀ (listed : Array Bool), listed.size = l.length → (l.length ∈ Region.ready .any (l ++ [o]).toArray (listed.push false) ↔ ∀ e ∈ o.after, Region.binds .any e = true → listed.getD e.on false = true) := by
    intro listed hs
    rw [mem_ready, ← hs, push_get_last, hs, snoc_last]
    constructor
    · rintro ⟨_, o', ho', h⟩ e he hb
      cases ho'
      have := hok.less _ o snoc_last e he hb
      have h2 := h e he hb
      rwa [push_get (by omega)] at h2
    · intro h
      refine ⟨rfl, o, rfl, fun e he hb => ?_⟩
      have := hok.less _ o snoc_last e he hb
      rw [push_get (by omega)]
      exact h e he hb
  have ready_lt : ∀ (listed : Array Bool) i, i ∈ Region.ready .any (l ++ [o]).toArray listed → i ≤ l.length := by
    intro listed i hi
    obtain ⟨_, o', ho', _⟩ := mem_ready.1 hi
    have := (Array.getElem?_eq_some_iff.1 ho').1
    rw [hsize] at this
    omega
  have ready_full : ∀ (listed : Array Bool), listed.size = l.length → (∀ i, i < l.length → listed.getD i false = true) → Region.ready .any (l ++ [o]).toArray ((listed.push false).setIfInBounds l.length true) = [] := by
    intro listed hs hall
    rw [List.eq_nil_iff_forall_not_mem]
    intro i hi
    have hle := ready_lt _ i hi
    obtain ⟨hun, _⟩ := mem_ready.1 hi
    by_cases hil : i < l.length
    · rw [getD_set_ne true (by omega), push_get (by omega)] at hun
      have h1 := hall i hil
      simp only [Array.getD_eq_getD_getElem?, Array.getElem?_eq_getElem (show i < listed.size by omega)] at hun h1
      simp at hun h1
      rw [h1] at hun
      cases hun
    · obtain rfl : i = l.length := by omega
      simp [hs] at hun
  have last_step : ∀ (fuel : Nat) (listed : Array Bool) (a : Act) (w : World), listed.size = l.length → (∀ i, i < l.length → listed.getD i false = true) → preQ P (l ++ [o]).toArray l.length Q .normal a w →
      wpOp P (l ++ [o]).toArray Q l.length (wpAny P .any (l ++ [o]).toArray Q fuel ((listed.push false).setIfInBounds l.length true)) a w := by
    intro fuel listed a w hs hall h
    refine wpOp_mono (fun a' w' hq => ?_) h
    have hr := ready_full listed hs hall
    cases fuel with
    | zero => exact ⟨hr, hq⟩
    | succ f => exact ⟨fun _ => hq, fun i hi => by rw [hr] at hi; cases hi⟩
  have none_ready : ∀ (listed : Array Bool), listed.size = l.length → (∀ (i : Nat) (oi : Oper), l.toArray[i]? = some oi → listed.getD i false = true → ∀ e ∈ oi.after, Region.binds .any e = true → listed.getD e.on false = true) →
      Region.ready .any (l ++ [o]).toArray (listed.push false) ≠ [] := by
    intro listed hs hcl hnil
    have all : ∀ k i, i < k → i < l.length → listed.getD i false = true := by
      intro k
      induction k with
      | zero => intro i h; omega
      | succ k ih =>
        intro i hik hi
        cases hlst : listed.getD i false with
        | true => rfl
        | false =>
          have hmem : i ∈ Region.ready .any (l ++ [o]).toArray (listed.push false) := by
            refine (ready_low listed hs i hi).2 (mem_ready.2 ⟨?_, l[i], by simp [hi], fun e he hb => ?_⟩)
            · have : i < listed.size := by omega
              simp only [Array.getD_eq_getD_getElem?, Array.getElem?_eq_getElem this] at hlst ⊢
              simpa using hlst
            · have := hok.less i l[i] (by rw [snoc_get hi]; simp [hi]) e he hb
              exact ih e.on (by omega) (by omega)
          rw [hnil] at hmem
          cases hmem
    have hmem := (ready_last listed hs).2 fun e he hb => by
      have := hok.less _ o snoc_last e he hb
      exact all (e.on + 1) e.on (by omega) this
    rw [hnil] at hmem
    cases hmem
  have wpOp_low : ∀ (i : Nat) (K : Act → World → Prop) (a : Act) (w : World), i < l.length → wpOp P l.toArray (preQ P (l ++ [o]).toArray l.length Q) i K a w → wpOp P (l ++ [o]).toArray Q i K a w := by
    intro i K a w hi h
    have ho : l.toArray[i]? = some l[i] := by simp [hi]
    unfold wpOp at h ⊢
    rw [snoc_get hi, ho]
    rw [ho] at h
    simp only at h ⊢
    have hw : Region.wanted l[i] (yielded (l ++ [o]).toArray a.tmps) = Region.wanted l[i] (yielded l.toArray a.tmps) := by
      unfold Region.wanted
      cases hg : l[i].guard with
      | none => rfl
      | some gb =>
        obtain ⟨g, b⟩ := gb
        have hgl := hok.guard i l[i] g b (by rw [snoc_get hi]; exact ho) hg
        have : yielded (l ++ [o]).toArray a.tmps g = yielded l.toArray a.tmps g := by
          unfold yielded
          rw [snoc_get (by omega)]
        simp only [this]
    rw [hw]
    split
    · rename_i hwt
      rw [if_pos hwt] at h
      refine h.imp (wp_mono_exits fun e a w he hq => by rwa [preQ_exit he] at hq) (fun hx => ⟨hx.1, ?_⟩)
      obtain ⟨a1, w1, h1⟩ := hx.2
      exact ⟨a1, w1, by rwa [preQ_exit (by simp)] at h1⟩
    · rename_i hwt
      rwa [if_neg hwt] at h
  intro fuel
  induction fuel with
  | zero =>
    intro listed a w hs hcl h
    refine ⟨fun hn => absurd hn (none_ready listed hs hcl), fun i hi => ?_⟩
    have hle := ready_lt _ i hi
    by_cases hil : i < l.length
    · have := (ready_low listed hs i hil).1 hi
      rw [h.1] at this
      cases this
    · obtain rfl : i = l.length := by omega
      exact last_step 0 listed a w hs (all_of_last listed hs hcl ((ready_last listed hs).1 hi)) h.2
  | succ fuel ih =>
    intro listed a w hs hcl h
    refine ⟨fun hn => absurd hn (none_ready listed hs hcl), fun i hi => ?_⟩
    have hle := ready_lt _ i hi
    by_cases hil : i < l.length
    · have hr := (ready_low listed hs i hil).1 hi
      have h2 := wpOp_low i _ a w hil (h.2 i hr)
      obtain ⟨hun, oi, ho, haft⟩ := mem_ready.1 hr
      refine wpOp_mono (fun a' w' hk => ?_) h2
      rw [push_set (by omega)]
      refine ih (listed.setIfInBounds i true) a' w' (by simpa using hs) (fun j oj hoj hj e he hb => ?_) hk
      have hje : ∀ k, listed.getD k false = true → (listed.setIfInBounds i true).getD k false = true := by
        intro k hk
        by_cases hki : i = k
        · subst hki
          have : i < listed.size := by omega
          simp [this]
        · rw [getD_set_ne false hki]
          exact hk
      by_cases hji : i = j
      · subst hji
        rw [ho] at hoj
        cases hoj
        exact hje _ (haft e he hb)
      · rw [getD_set_ne false hji] at hj
        exact hje _ (hcl j oj hoj hj e he hb)
    · obtain rfl : i = l.length := by omega
      have hall := all_of_last listed hs hcl ((ready_last listed hs).1 hi)
      have hnil : Region.ready .any l.toArray listed = [] := by
        rw [List.eq_nil_iff_forall_not_mem]
        intro j hj
        obtain ⟨hun, oj, hoj, _⟩ := mem_ready.1 hj
        have hjl : j < l.length := by have := (Array.getElem?_eq_some_iff.1 hoj).1; simpa using this
        have h1 := hall j hjl
        have : j < listed.size := by omega
        simp only [Array.getD_eq_getD_getElem?, Array.getElem?_eq_getElem this] at hun h1
        simp at hun h1
        rw [h1] at hun
        cases hun
      exact last_step _ listed a w hs hall (h.1 hnil)

/-- THE LAW: all but the last, walked once; then the last one. -/
theorem wp_region_last {id : Nat} {l : List Oper} {o : Oper} {a : Act} {w : World} (hm : P.follows .mixedOrders = true) (C : World → Prop) (phi : Nat → Option (Value → World → Prop)) (fx : Nat → Option Value) (hok : okAs l.toArray a.tmps.size = true) (hlast : okLast (l ++ [o]).toArray = true) (hgd : o.guard = none)
    (hC : C w.drew) (hCb : ∀ w w', C w → Below w.heap.size w w' → C w') (hst : ∀ (j : Nat) (φ : Value → World → Prop) (x : Value) (w w' : World), phi j = some φ → φ x w → Below w.heap.size w w' → φ x w')
    (h : wpAs P l.toArray C phi fx (fun a w => o.wp P a w (fun a' w' => Q .normal a' w') Q) 0 l a []) : (Code.region id (l ++ [o]).toArray true).wp P Q a w := by
  refine wp_region_any hm ?_
  have e1 : (l ++ [o]).toArray.size = l.toArray.size + 1 := by simp
  have e2 : Array.replicate (l ++ [o]).toArray.size false = (Array.replicate l.toArray.size false).push false := by
    rw [e1, Array.replicate_succ]
  rw [e2, e1]
  have hg : ∀ i, (Array.replicate l.toArray.size false).getD i false = false := fun i => by
    by_cases hi : i < l.toArray.size
    · simp [Array.getD, hi]
    · simp [Array.getD, hi]
  refine wpAny_snoc (okLast_of hlast) _ _ a w.drew (by simp) (fun i oi _ hi => by rw [hg i] at hi; cases hi) ?_
  refine wpAny_of_as (a0 := a) (ok_of hok) (by simpa using h) hCb hst (fun a w hq => ?_) _ _ (fun _ => undef) a w.drew ?_ ⟨by simp, rfl, rfl, ?_, ?_, fun _ _ => rfl, hC, ?_, ?_⟩
  · show wpOp P (l ++ [o]).toArray Q l.length (fun a' w' => Q .normal a' w') a w
    unfold wpOp
    rw [snoc_last]
    have hw : Region.wanted o (yielded (l ++ [o]).toArray a.tmps) = true := by simp [Region.wanted, hgd]
    simp only [hw, if_true]
    exact .inl hq
  · unfold left
    exact Nat.le_trans (List.length_filter_le _ _) (by simp)
  · intro i o _ hl
    rw [hg i] at hl
    cases hl
  · intro i o d _ hl
    rw [hg i] at hl
    cases hl
  · intro c _ i hl
    rw [hg i] at hl
    cases hl
  · intro c _ i o φ _ hl
    rw [hg i] at hl
    cases hl
/-- The same, for an array of operations: the last one is left to the walk. -/
theorem wp_region_tail {id : Nat} {ops : Array Oper} {a : Act} {w : World} (hm : P.follows .mixedOrders = true) (C : World → Prop) (phi : Nat → Option (Value → World → Prop)) (fx : Nat → Option Value) (hne : ops.toList ≠ []) (hok : okAs ops.toList.dropLast.toArray a.tmps.size = true) (hlast : okLast ops = true) (hgd : (ops.toList.getLast hne).guard = none)
    (hC : C w.drew) (hCb : ∀ w w', C w → Below w.heap.size w w' → C w') (hst : ∀ (j : Nat) (φ : Value → World → Prop) (x : Value) (w w' : World), phi j = some φ → φ x w → Below w.heap.size w w' → φ x w')
    (h : wpAs P ops.toList.dropLast.toArray C phi fx (fun a w => wpList P ops Q [ops.toList.getLast hne] a w) 0 ops.toList.dropLast a []) : (Code.region id ops true).wp P Q a w := by
  have e : (ops.toList.dropLast ++ [ops.toList.getLast hne]).toArray = ops := by
    rw [List.dropLast_concat_getLast]
  refine wp_region_any hm ?_
  generalize ops.toList.dropLast = l at *
  generalize ops.toList.getLast hne = o at *
  subst e
  have e1 : (l ++ [o]).toArray.size = l.toArray.size + 1 := by simp
  have e2 : Array.replicate (l ++ [o]).toArray.size false = (Array.replicate l.toArray.size false).push false := by
    rw [e1, Array.replicate_succ]
  rw [e2, e1]
  have hg : ∀ i, (Array.replicate l.toArray.size false).getD i false = false := fun i => by
    by_cases hi : i < l.toArray.size
    · simp [Array.getD, hi]
    · simp [Array.getD, hi]
  refine wpAny_snoc (okLast_of hlast) _ _ a w.drew (by simp) (fun i oi _ hi => by rw [hg i] at hi; cases hi) ?_
  refine wpAny_of_as (a0 := a) (ok_of hok) (by simpa using h) hCb hst (fun a w hq => ?_) _ _ (fun _ => undef) a w.drew ?_ ⟨by simp, rfl, rfl, ?_, ?_, fun _ _ => rfl, hC, ?_, ?_⟩
  · show wpOp P (l ++ [o]).toArray Q l.length (fun a' w' => Q .normal a' w') a w
    unfold wpOp
    rw [snoc_last]
    exact hq
  · unfold left
    exact Nat.le_trans (List.length_filter_le _ _) (by simp)
  · intro i o _ hl
    rw [hg i] at hl
    cases hl
  · intro i o d _ hl
    rw [hg i] at hl
    cases hl
  · intro c _ i hl
    rw [hg i] at hl
    cases hl
  · intro c _ i o φ _ hl
    rw [hg i] at hl
    cases hl
end
section
variable {P : Program} {Q Q' : Exit → Act → World → Prop}
theorem wpOp_mono_post {ops : Array Oper} {i : Nat} {K : Act → World → Prop} {a : Act} {w : World} (hQ : ∀ e a w, Q e a w → Q' e a w) (h : wpOp P ops Q i K a w) : wpOp P ops Q' i K a w := by
  have hout : LetsOut Q → LetsOut Q' := fun ⟨a, w, h⟩ => ⟨a, w, hQ _ _ _ h⟩
  unfold wpOp at h ⊢
  cases ho : ops[i]? with
  | none => rw [ho] at h; exact h
  | some o =>
    rw [ho] at h
    simp only at h ⊢
    by_cases hw : Region.wanted o (yielded ops a.tmps) = true
    · rw [if_pos hw] at h ⊢
      exact h.imp (wp_mono_exits fun e a w _ => hQ e a w) (fun hx => ⟨hx.1, hout hx.2⟩)
    · rw [if_neg hw] at h ⊢
      exact h
theorem wpAny_mono_post {ops : Array Oper} (hQ : ∀ e a w, Q e a w → Q' e a w) : ∀ (fuel : Nat) (listed : Array Bool) (a : Act) (w : World), wpAny P .any ops Q fuel listed a w → wpAny P .any ops Q' fuel listed a w
  | 0, _, _, _, h => ⟨h.1, hQ _ _ _ h.2⟩
  | fuel + 1, _, _, _, h => ⟨fun hr => hQ _ _ _ (h.1 hr), fun i hi => wpOp_mono (fun a' w' hk => wpAny_mono_post hQ fuel _ a' w' hk) (wpOp_mono_post hQ (h.2 i hi))⟩
/-- The trailing operations, one after another. -/
def tailPost (P : Program) (ops : Array Oper) (Q : Exit → Act → World → Prop) (tail : List Oper) : Exit → Act → World → Prop
  | .normal, a, w => wpList P ops Q tail a w
  | e, a, w => Q e a w
theorem tailPost_exit {ops : Array Oper} {tail : List Oper} {e : Exit} {a : Act} {w : World} (he : e ≠ .normal) : tailPost P ops Q tail e a w = Q e a w := by
  cases e <;> first | rfl | exact absurd rfl he
theorem wpAny_tail (ops : Array Oper) : ∀ (tail l : List Oper), (∀ j, 0 < j → j ≤ tail.length → OkLast (l ++ tail.take j).toArray) → (∀ o ∈ tail, o.guard = none) → ∀ (a : Act) (w : World),
    wpAny P .any l.toArray (tailPost P ops Q tail) l.length (Array.replicate l.length false) a w → wpAny P .any (l ++ tail).toArray Q (l.length + tail.length) (Array.replicate (l.length + tail.length) false) a w
  | [], l, _, _, a, w, h => by
    rw [List.append_nil]
    exact wpAny_mono_post (fun e a w hq => by cases e <;> exact hq) _ _ _ _ h
  | o :: rest, l, hok, hgd, a, w, h => by
    have hgo := hgd o (List.mem_cons.2 (.inl rfl))
    have h1 : wpAny P .any l.toArray (preQ P (l ++ [o]).toArray l.length (tailPost P ops Q rest)) l.length (Array.replicate l.length false) a w := by
      refine wpAny_mono_post (fun e a w hq => ?_) _ _ _ _ h
      by_cases he : e = .normal
      · subst he
        show wpOp P (l ++ [o]).toArray (tailPost P ops Q rest) l.length (fun a' w' => wpList P ops Q rest a' w') a w
        have hq' : wpList P ops Q (o :: rest) a w := hq
        unfold wpList at hq'
        unfold wpOp
        rw [snoc_last]
        have hw : ∀ ops', Region.wanted o (yielded ops' a.tmps) = true := fun ops' => by simp [Region.wanted, hgo]
        simp only [hw, if_true] at hq' ⊢
        refine hq'.imp (wp_mono_exits fun e a w he hq => by rwa [tailPost_exit he]) (fun hx => ⟨hx.1, ?_⟩)
        obtain ⟨a1, w1, h1⟩ := hx.2
        exact ⟨a1, w1, h1⟩
      · rw [preQ_exit he, tailPost_exit he]
        rwa [tailPost_exit he] at hq
    have hg : ∀ i, (Array.replicate l.length false).getD i false = false := fun i => by
      by_cases hi : i < l.length
      · simp [Array.getD, hi]
      · simp [Array.getD, hi]
    have h2 := wpAny_snoc (hok 1 Nat.one_pos (by simp)) l.length (Array.replicate l.length false) a w (by simp) (fun i oi _ hi => by rw [hg i] at hi; cases hi) h1
    have e1 : (Array.replicate l.length false).push false = Array.replicate (l ++ [o]).length false := by rw [List.length_append, List.length_singleton, Array.replicate_succ]
    rw [e1] at h2
    have e2 : l.length + 1 = (l ++ [o]).length := by simp
    rw [e2] at h2
    have ih := wpAny_tail ops rest (l ++ [o]) (fun j h0 hj => by
      have := hok (j + 1) (by omega) (by simpa using hj)
      rw [List.take_succ_cons] at this
      simpa using this) (fun o' ho' => hgd o' (List.mem_cons.2 (.inr ho'))) a w h2
    have e3 : l ++ o :: rest = l ++ [o] ++ rest := by simp
    have e4 : l.length + (o :: rest).length = (l ++ [o]).length + rest.length := by simp; omega
    rw [e3, e4]
    exact ih
/-- Looked at: behind place m each operation waits for all ahead of it. -/
def okTails (ops : Array Oper) (m : Nat) : Bool :=
  ((List.range (ops.size - m)).all fun j => okLast (ops.toList.take (m + (j + 1))).toArray) && (ops.toList.drop m).all fun o => o.guard.isNone
/-- THE LAW: the operations ahead of place m in whatever order, the others one after another. -/
theorem wp_region_tails {id : Nat} {ops : Array Oper} {a : Act} {w : World} (hm : P.follows .mixedOrders = true) (m : Nat) (C : World → Prop) (phi : Nat → Option (Value → World → Prop)) (fx : Nat → Option Value) (hms : m ≤ ops.size) (hok : okAs (ops.toList.take m).toArray a.tmps.size = true) (hlast : okTails ops m = true)
    (hC : C w.drew) (hCb : ∀ w w', C w → Below w.heap.size w w' → C w') (hst : ∀ (j : Nat) (φ : Value → World → Prop) (x : Value) (w w' : World), phi j = some φ → φ x w → Below w.heap.size w w' → φ x w')
    (h : wpAs P (ops.toList.take m).toArray C phi fx (fun a w => wpList P ops Q (ops.toList.drop m) a w) 0 (ops.toList.take m) a []) : (Code.region id ops true).wp P Q a w := by
  have e : (ops.toList.take m ++ ops.toList.drop m).toArray = ops := by rw [List.take_append_drop]
  have hl1 : (ops.toList.take m).length = m := by simp; omega
  have hl2 : (ops.toList.take m).length + (ops.toList.drop m).length = ops.size := by simp; omega
  refine wp_region_any hm ?_
  unfold okTails at hlast
  rw [Bool.and_eq_true, List.all_eq_true, List.all_eq_true] at hlast
  have key := wpAny_tail (P := P) (Q := Q) ops (ops.toList.drop m) (ops.toList.take m) (fun j h0 hj => by
    have hj' : j ≤ ops.size - m := by simpa using hj
    have := hlast.1 (j - 1) (List.mem_range.2 (by omega))
    rw [show m + (j - 1 + 1) = m + j by omega, List.take_add] at this
    exact okLast_of this) (fun o ho => by simpa using hlast.2 o ho) a w.drew
  rw [hl2, e] at key
  refine key ?_
  rw [hl1]
  have hg : ∀ i, (Array.replicate m false).getD i false = false := fun i => by
    by_cases hi : i < m
    · simp [Array.getD, hi]
    · simp [Array.getD, hi]
  have hsz : (ops.toList.take m).toArray.size = m := by simpa using hl1
  have h' : wpAs P (ops.toList.take m).toArray C phi fx (fun a w => wpList P ops Q (ops.toList.drop m) a w) 0 (ops.toList.take m).toArray.toList a [] := h
  refine wpAny_of_as (Q := fun a w => wpList P ops Q (ops.toList.drop m) a w) (a0 := a) (ok_of hok) h' hCb hst (fun a w hq => hq) _ _ (fun _ => undef) a w.drew ?_ ⟨by rw [hsz]; simp, rfl, rfl, ?_, ?_, fun _ _ => rfl, hC, ?_, ?_⟩
  · unfold left
    exact Nat.le_trans (List.length_filter_le _ _) (by simp; omega)
  · intro i o _ hl
    rw [hg i] at hl
    cases hl
  · intro i o d _ hl
    rw [hg i] at hl
    cases hl
  · intro c _ i hl
    rw [hg i] at hl
    cases hl
  · intro c _ i o φ _ hl
    rw [hg i] at hl
    cases hl
end
/-- A row of the call's own, one cell of it set. -/
theorem own_put {w : World} {base n size cap : Nat} {t : TypeId} {ad : Addr} {xs : List Value} (h : w.ownsRow base t size (.slice (some ad) n cap) n xs) {j : Nat} (hj : j < n * size) (u : Value) : (w.setCell (ad.add j) u).ownsRow base t size (.slice (some ad) n cap) n (xs.set j u) := by
  refine ⟨by simpa using h.1, ?_⟩
  rcases h.2 with ⟨e, _⟩ | ⟨g, cap', cur, e, hb, hg, hnc, hm, hs, ht⟩
  · cases e
  · cases e
    have hadd : (⟨g, 0, none⟩ : Addr).add j = ⟨g, j, none⟩ := by unfold Addr.add; split <;> simp_all
    have hle : n * size ≤ cap * size := Nat.mul_le_mul_right _ hnc
    refine .inr ⟨g, cap, cur.setIfInBounds j u, rfl, hb, ?_, hnc, hm, by simpa using hs, ?_⟩
    · rw [hadd]
      simp [World.setCell, Array.getElem?_modify, hg]
    · rw [← ht, Array.toList_setIfInBounds, List.take_set]
theorem own_free {w : World} {base n size cap : Nat} {t : TypeId} {ad : Addr} {xs : List Value} (h : w.ownsRow base t size (.slice (some ad) n cap) n xs) (j : Nat) : w.frozen? (ad.add j) = false := by
  rcases h.2 with ⟨e, _⟩ | ⟨g, cap', cur, e, hb, hg, hnc, hm, hs, ht⟩
  · cases e
  · cases e
    simp only [World.frozen?, add_block, hg]
    simp
theorem own_at {w : World} {base n size cap : Nat} {t : TypeId} {ad : Addr} {xs : List Value} (h : w.ownsRow base t size (.slice (some ad) n cap) n xs) {j : Nat} {u : Value} (hu : xs[j]? = some u) : w.cell? (ad.add j) = some u := by
  rcases h.2 with ⟨e, _⟩ | ⟨g, cap', cur, e, _⟩
  · cases e
  · cases e
    exact h.cells (g := g) rfl j u hu
theorem own_block {w : World} {base n size cap : Nat} {t : TypeId} {ad : Addr} {xs : List Value} (h : w.ownsRow base t size (.slice (some ad) n cap) n xs) : base ≤ ad.block ∧ ad.block < w.heap.size ∧ n ≤ cap ∧ cap ≤ 9223372036854775807 := by
  rcases h.2 with ⟨e, _⟩ | ⟨g, cap', cur, e, hb, hg, hnc, hm, _⟩
  · cases e
  · cases e
    exact ⟨hb, (Array.getElem?_eq_some_iff.1 hg).1, hnc, by unfold maxLen at hm; exact hm⟩
/-- What a row's value looks like. -/
theorem own_form {w : World} {base n size : Nat} {t : TypeId} {v : Value} {xs : List Value} (h : w.ownsRow base t size v n xs) : (v = .slice none 0 0 ∧ n = 0) ∨ ∃ ad cap, v = .slice (some ad) n cap := by
  rcases h.2 with h | ⟨g, cap', cur, e, _⟩
  · exact .inl h
  · exact .inr ⟨_, _, e⟩
theorem own_below {w w' : World} {base n size : Nat} {t : TypeId} {v : Value} {xs : List Value} (h : w.ownsRow base t size v n xs) (hb : Below w.heap.size w w') : w'.ownsRow base t size v n xs := by
  refine ⟨h.1, ?_⟩
  rcases h.2 with h | ⟨g, cap', cur, e, hb', hg, r⟩
  · exact .inl h
  · exact .inr ⟨g, cap', cur, e, hb', by rw [hb.block g (Array.getElem?_eq_some_iff.1 hg).1]; exact hg, r⟩
theorem own_any {w : World} {base n size : Nat} {t : TypeId} {v : Value} {xs : List Value} (h : w.ownsRow base t size v n xs) : ∃ A c, v = .slice A n c ∧ n ≤ c ∧ c ≤ 9223372036854775807 ∧ v.ownBlock = A.map (·.block) ∧ (0 < n → ∃ ad, A = some ad) := by
  rcases h.2 with ⟨e, e2⟩ | ⟨g, cap', cur, e, hb, hg, hnc, hm, _⟩
  · subst e2
    exact ⟨none, 0, e, by omega, by omega, by subst e; rfl, fun h => by omega⟩
  · exact ⟨_, _, e, hnc, by unfold maxLen at hm; exact hm, by subst e; rfl, fun _ => ⟨_, rfl⟩⟩
theorem grow_below {w0 a b : World} {row : Option Nat} (h : w0.grownBy a row) (hb : Below a.heap.size a b) : w0.grownBy b row :=
  ⟨hb.os.trans h.os, hb.tape.trans h.tape, hb.output.trans h.output, Nat.le_trans h.size hb.size, fun k hk hne => (hb.block k (Nat.lt_of_lt_of_le hk h.size)).trans (h.block k hk hne)⟩
theorem grow_put {w0 a : World} {row : Option Nat} (h : w0.grownBy a row) {p : Addr} (hp : row = some p.block) (u : Value) : w0.grownBy (a.setCell p u) row :=
  ⟨h.os, h.tape, h.output, by simpa using h.size, fun k hk hne => (Below.heap_setCell _ _ _ _ (fun e => hne (by rw [hp, e]))).trans (h.block k hk hne)⟩
theorem grow_refl (w : World) (row : Option Nat) : w.grownBy w row := ⟨rfl, rfl, rfl, Nat.le_refl _, fun _ _ _ => rfl⟩
/-- Two rows of elements of two types lie in two blocks. -/
theorem own_apart {w : World} {b b' s s' n n' : Nat} {t t' : TypeId} {v v' : Value} {xs xs' : List Value} (h : w.ownsRow b t s v n xs) (h' : w.ownsRow b' t' s' v' n' xs') (ht : t ≠ t') : v'.ownBlock = none ∨ v'.ownBlock ≠ v.ownBlock := by
  rcases h'.2 with ⟨e, _⟩ | ⟨g, cap, cur, e, _, hg, _⟩
  · subst e
    exact .inl rfl
  · right
    subst e
    rcases h.2 with ⟨e, _⟩ | ⟨g', cap', cur', e, _, hg', _⟩
    · subst e
      simp [Value.ownBlock]
    · subst e
      simp only [Value.ownBlock, ne_eq, Option.some.injEq]
      rintro rfl
      rw [hg'] at hg
      cases hg
      exact ht rfl
theorem own_not {w : World} {b s n : Nat} {t t' : TypeId} {v : Value} {xs : List Value} {g : Nat} {cs : Array Value} {fr : Nat × Nat} (h : w.ownsRow b t s v n xs) (hg : w.heap[g]? = some (.cells cs t' fr)) (ht : t ≠ t') : some g ≠ v.ownBlock := by
  rcases h.2 with ⟨e, _⟩ | ⟨g', cap', cur', e, _, hg', _⟩
  · subst e
    simp [Value.ownBlock]
  · subst e
    simp only [Value.ownBlock, ne_eq, Option.some.injEq]
    rintro rfl
    rw [hg'] at hg
    cases hg
    exact ht rfl
theorem own_low {w : World} {base base' n size : Nat} {t : TypeId} {v : Value} {xs : List Value} (h : w.ownsRow base t size v n xs) (hb : base' ≤ base) : w.ownsRow base' t size v n xs := by
  refine ⟨h.1, h.2.imp id ?_⟩
  rintro ⟨g, cap, cur, h1, h2, h3⟩
  exact ⟨g, cap, cur, h1, Nat.le_trans hb h2, h3⟩
/-- A block of two cells, both stored. -/
theorem put_two {W : World} {g : Nat} {a b u v : Value} {t : TypeId} (h : W.heap[g]? = some (.cells #[a, b] t (0, 0))) : ∃ W1, (W.setCell ⟨g, 0, none⟩ u).setCell ⟨g, 1, none⟩ v = W1 ∧ W1.heap[g]? = some (.cells #[u, v] t (0, 0)) ∧ W.grownBy W1 (some g) ∧ W1.heap.size = W.heap.size :=
  ⟨_, rfl, by simp [World.setCell, Array.getElem?_modify, h], grow_put (p := ⟨g, 1, none⟩) (grow_put (p := ⟨g, 0, none⟩) (grow_refl W (some g)) rfl u) rfl v, by simp⟩
/-- One of two cells stored. -/
theorem put_fst {W : World} {g : Nat} {a b u : Value} {t : TypeId} (h : W.heap[g]? = some (.cells #[a, b] t (0, 0))) : ∃ W1, W.setCell ⟨g, 0, none⟩ u = W1 ∧ W1.heap[g]? = some (.cells #[u, b] t (0, 0)) ∧ W.grownBy W1 (some g) ∧ W1.heap.size = W.heap.size :=
  ⟨_, rfl, by simp [World.setCell, Array.getElem?_modify, h], grow_put (p := ⟨g, 0, none⟩) (grow_refl W (some g)) rfl u, by simp⟩
theorem put_snd {W : World} {g : Nat} {a b u : Value} {t : TypeId} (h : W.heap[g]? = some (.cells #[a, b] t (0, 0))) : ∃ W1, W.setCell ⟨g, 1, none⟩ u = W1 ∧ W1.heap[g]? = some (.cells #[a, u] t (0, 0)) ∧ W.grownBy W1 (some g) ∧ W1.heap.size = W.heap.size :=
  ⟨_, rfl, by simp [World.setCell, Array.getElem?_modify, h], grow_put (p := ⟨g, 1, none⟩) (grow_refl W (some g)) rfl u, by simp⟩
theorem two_cells {W : World} {g : Nat} {a b : Value} {t : TypeId} (h : W.heap[g]? = some (.cells #[a, b] t (0, 0))) : W.cell? ⟨g, 0, none⟩ = some a ∧ W.cell? ⟨g, 1, none⟩ = some b ∧ (∀ o, W.frozen? ⟨g, o, none⟩ = false) ∧ g < W.heap.size :=
  ⟨by simp [World.cell?, h], by simp [World.cell?, h], fun o => by simp [World.frozen?, h], (Array.getElem?_eq_some_iff.1 h).1⟩
theorem grow_trans {a b c : World} {row : Option Nat} (h : a.grownBy b row) (h' : b.grownBy c row) : a.grownBy c row :=
  ⟨h'.os.trans h.os, h'.tape.trans h.tape, h'.output.trans h.output, Nat.le_trans h.size h'.size, fun k hk hne => (h'.block k (Nat.lt_of_lt_of_le hk h.size) hne).trans (h.block k hk hne)⟩
theorem grow_cell {w w' : World} {row : Option Nat} (h : w.grownBy w' row) {p : Addr} (hp : p.block < w.heap.size) (hne : some p.block ≠ row) : w'.cell? p = w.cell? p := World.cell?_of_block (h.block p.block hp hne)
theorem grow_frozen {w w' : World} {row : Option Nat} (h : w.grownBy w' row) {p : Addr} (hp : p.block < w.heap.size) (hne : some p.block ≠ row) : w'.frozen? p = w.frozen? p := World.frozen?_of_block (h.block p.block hp hne)
theorem alloc_block {w : World} {k : Nat} {o x : Obj} (h : w.heap[k]? = some o) : (w.alloc x).heap[k]? = some o := (Below.heap_alloc w x k (Array.getElem?_eq_some_iff.1 h).1).trans h
/-- A new box of two cells. -/
theorem box_pair (w : World) (a b : Value) (t : TypeId) : ∃ w1, w.alloc (.cells #[a, b] t) = w1 ∧ w1.cell? ⟨w.heap.size, 0, none⟩ = some a ∧ w1.cell? ⟨w.heap.size, 1, none⟩ = some b ∧ w1.heap.size = w.heap.size + 1 ∧ Below w.heap.size w w1 :=
  ⟨_, rfl, by go_simp, by go_simp, by simp, (Below.refl _ _).alloc (Nat.le_refl _) _⟩
theorem box_pair' (w : World) (a b : Value) (t : TypeId) : ∃ w1, w.alloc (.cells #[a, b] t) = w1 ∧ w1.heap[w.heap.size]? = some (.cells #[a, b] t (0, 0)) ∧ w1.heap.size = w.heap.size + 1 ∧ Below w.heap.size w w1 :=
  ⟨_, rfl, heap_alloc_new _ _, by simp, (Below.refl _ _).alloc (Nat.le_refl _) _⟩
theorem made_one (z : Value) (n : Nat) : (madeCells #[z] (n * 1)).toList = List.replicate n z := by
  have : madeCells #[z] (n * 1) = Array.replicate n z := by
    apply Array.ext
    · simp [madeCells]
    · intro i h1 h2
      simp [madeCells, Nat.mod_one]
  rw [this]
  simp
theorem list_set_get {α : Type} {xs : List α} {k j : Nat} {x u : α} (hk : k < xs.length) (h : (xs.set k x)[j]? = some u) : (j = k ∧ u = x) ∨ (j ≠ k ∧ xs[j]? = some u) := by
  by_cases hj : k = j
  · subst hj
    rw [List.getElem?_set_self hk] at h
    cases h
    exact .inl ⟨rfl, rfl⟩
  · rw [List.getElem?_set_ne hj] at h
    exact .inr ⟨fun e => hj e.symm, h⟩
end Go.Proofs.Ytgnogclhleheiaa
