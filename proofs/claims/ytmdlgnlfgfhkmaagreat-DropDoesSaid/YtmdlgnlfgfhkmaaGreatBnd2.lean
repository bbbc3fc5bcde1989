/-
  Lemmas on the program and on the document's answers, gathered: Late, Gather, Seen, DevRead, DevWrite, DevBarrier, DevCrash, Alive03, Gen03, Cnt, RefWith, RefRead, RefSettled, RefBarrier, RefKept, RefCrash, RefWrite, Push, RefNew, RefTwin, Spoil, All03, CntUp, CntAlive, CntPlain, RmPlain, Room, RmChk, RmFree, RmColl, RmTake, RmShare, Get. Conditions: those that each lemma states.
-/
import Derived.Test.YtmdlgnlfgfhkmaaGreatBnd1
import Derived.RangeFuncNested
import Derived.RangeFuncBox
import Derived.RangeFuncBound
import Derived.RangeFuncCalls
import Derived.RangeFuncLeaves
import Derived.Shelf.Abstract
import Derived.Shelf.RegionOpen
import Derived.OwnWalkIn
import Derived.TacticsInMore
import Derived.LoopNIn
import Derived.LoopIn
import Derived.Deep.RegionHeld3
import Derived.Deep.AppendLies
import Derived.Maps.AppendAt
import Derived.StillTailTactics
import Derived.Lib.Hide
/-
  A region that draws its order, in which a few operations that read slots alone may come up behind a store: they may as well come up ahead of it. No program, no condition of its own.
-/
namespace Go.Proofs.YtmdlgnlfgfhkmaaGreat
open Go.RowKit

theorem does_mk {P : Program} {ρ : Operand → Value} {o : Oper} {w w' : World} {R : Value → World → Prop} (t : TypeId) (a b : Operand) (ho : o.op = .makeSlice t a b) {v : Value} (hrun : (Instr.makeSlice t (ρ a) (ρ b)).run P w = .ok v w') (h : R v w') : doesUpon P R ((execOp ρ o).run P w) := by
  unfold execOp
  simp only [ho, Sem.run_bind, Sem.run_pure, Result.andThen_ok, hrun]
  exact h

section
variable {P : Program} {Q : Exit → Act → World → Prop}
/-- The region with more edges: of each pair, the first waits for the second. -/
def withEdges (ops : Array Oper) (x : List (Nat × Nat)) : Array Oper :=
  (ops.toList.mapIdx fun i o => { o with after := o.after ++ ((x.filter fun e => e.1 == i).map fun e => ({ on := e.2, ground := .phase } : Edge)).toArray }).toArray
theorem withEdges_size (ops : Array Oper) (x : List (Nat × Nat)) : (withEdges ops x).size = ops.size := by simp [withEdges]
theorem withEdges_get (ops : Array Oper) (x : List (Nat × Nat)) (i : Nat) : (withEdges ops x)[i]? = (ops[i]?).map fun o => { o with after := o.after ++ ((x.filter fun e => e.1 == i).map fun e => ({ on := e.2, ground := .phase } : Edge)).toArray } := by
  simp [withEdges]

/-- It reads slots alone. -/
def still (o : Oper) : Bool := o.guard.isNone && match o.op with
  | .move _ => true
  | .extract _ _ => true
  | _ => false
/-- All others are apart from it, but those for which it waits, and those that wait for it. -/
def freeBut (ops : Array Oper) (i : Nat) (p : Oper) : Bool := (List.range ops.size).all fun j => j == i || (p.after.any fun d => Region.binds .any d && d.on == j) || match ops[j]? with
  | some oj => oj.after.any (fun e => Region.binds .any e && e.on == i) || p.apart ops oj
  | none => true
def okLate (ops : Array Oper) (x : List (Nat × Nat)) : Bool :=
  Region.noSelect ops && x.all fun e => match ops[e.1]?, ops[e.2]? with
    | some t, some p => still p && freeBut ops e.2 p && x.all (fun e' => e'.1 != e.2) && p.after.all fun d => !Region.binds .any d || t.after.any fun d' => Region.binds .any d' && d'.on == d.on
    | _, _ => false

theorem still_step {ops ops' : Array Oper} {o : Oper} {p : Nat} {K : Act → World → Prop} {a : Act} {w : World} (ho : ops'[p]? = some o) (hs : still o = true) (h : wpOp P ops' Q p K a w) : ∃ v, Yields P ops o v a ∧ K (a.put o.dst v) w := by
  unfold still at hs
  rw [Bool.and_eq_true] at hs
  obtain ⟨hg, hk⟩ := hs
  have hg' : o.guard = none := by simpa using hg
  have hw : ∀ q, Region.wanted o (yielded q a.tmps) = true := fun q => by simp [Region.wanted, hg']
  unfold wpOp at h
  rw [ho] at h
  simp only [hw, if_true] at h
  cases hop : o.op with
  | move x =>
    have hr : ∀ w, (execOp a.eval o).run P w = .ok (.value (a.eval x)) w := fun w => by unfold execOp; rw [hop]; rfl
    have hT : ((execOp a.eval o).runT P w #[]).2 = #[] := by unfold execOp; rw [hop]; rfl
    refine ⟨a.eval x, .inl ⟨hw _, hr⟩, ?_⟩
    rcases h with h | ⟨h, _⟩
    · unfold Oper.wp at h
      rw [hr w] at h
      exact h
    · unfold Oper.asks at h
      rw [hT] at h
      simp at h
  | extract x i =>
    have key : (∃ v, ∀ w, (execOp a.eval o).run P w = .ok (.value v) w) ∨ (∃ m, ∀ w, (execOp a.eval o).run P w = .halt (.stuck m) w) := by
      unfold execOp
      rw [hop]
      dsimp only
      unfold Instr.extract
      cases a.eval x with
      | tuple vs =>
        dsimp only
        cases vs[i]? with
        | none => exact .inr ⟨_, fun _ => rfl⟩
        | some u => exact .inl ⟨u, fun _ => rfl⟩
      | _ => exact .inr ⟨_, fun _ => rfl⟩
    have hT : ((execOp a.eval o).runT P w #[]).2 = #[] := by
      unfold execOp
      rw [hop]
      dsimp only
      unfold Instr.extract
      cases a.eval x with
      | tuple vs =>
        dsimp only
        cases vs[i]? <;> rfl
      | _ => rfl
    rcases h with h | ⟨h, _⟩
    · unfold Oper.wp at h
      rcases key with ⟨v, hr⟩ | ⟨m, hr⟩
      · rw [hr w] at h
        exact ⟨v, .inl ⟨hw _, hr⟩, h⟩
      · rw [hr w] at h
        exact h.elim
    · unfold Oper.asks at h
      rw [hT] at h
      simp at h
  | _ => rw [hop] at hk; cases hk

theorem yielded_with (ops : Array Oper) (x : List (Nat × Nat)) (tmps : Array Value) : yielded (withEdges ops x) tmps = yielded ops tmps := by
  funext j
  unfold yielded
  rw [withEdges_get]
  cases ops[j]? <;> rfl
theorem wpOp_with {ops : Array Oper} {x : List (Nat × Nat)} {i : Nat} {K K' : Act → World → Prop} {a : Act} {w : World} (hK : ∀ a w, K a w → K' a w) (h : wpOp P (withEdges ops x) Q i K a w) : wpOp P ops Q i K' a w := by
  refine wpOp_mono hK ?_
  unfold wpOp at h ⊢
  rw [withEdges_get, yielded_with] at h
  cases ho : ops[i]? with
  | none => rw [ho] at h; exact h
  | some o => rw [ho] at h; exact h

theorem free_any {ops : Array Oper} {i : Nat} {p : Oper} (hp : ops[i]? = some p) (h : freeBut ops i p = true) (listed : Array Bool) (hl : ∀ d ∈ p.after, Region.binds .any d = true → listed.getD d.on false = true) : Region.free .any ops listed i = true := by
  unfold Region.free
  unfold freeBut at h
  rw [hp]
  dsimp only
  rw [List.all_eq_true] at h ⊢
  intro j hj
  have h1 := h j hj
  rw [Bool.or_eq_true, Bool.or_eq_true] at h1 ⊢
  rcases h1 with (h1 | h1) | h1
  · exact .inl (.inl h1)
  · obtain ⟨d, hd, hx⟩ := Array.any_eq_true'.1 h1
    simp only [Bool.and_eq_true, beq_iff_eq] at hx
    have h2 := hl d hd hx.1
    rw [hx.2] at h2
    refine .inl (.inr ?_)
    by_cases hlt : j < listed.size
    · simpa [Array.getD, hlt] using h2
    · simp [Array.getD, hlt]
  · exact .inr h1

structure Late (ops : Array Oper) (x : List (Nat × Nat)) : Prop where
  plain : Region.noSelect ops = true
  each : ∀ e ∈ x, ∃ t p, ops[e.1]? = some t ∧ ops[e.2]? = some p ∧ still p = true ∧ (∀ listed : Array Bool, (∀ d ∈ p.after, Region.binds .any d = true → listed.getD d.on false = true) → Region.free .any ops listed e.2 = true) ∧ (∀ e' ∈ x, e'.1 ≠ e.2) ∧ ∀ d ∈ p.after, Region.binds .any d = true → ∃ d' ∈ t.after, Region.binds .any d' = true ∧ d'.on = d.on
theorem late_of {ops : Array Oper} {x : List (Nat × Nat)} (h : okLate ops x = true) : Late ops x := by
  unfold okLate at h
  rw [Bool.and_eq_true, List.all_eq_true] at h
  refine ⟨h.1, fun e he => ?_⟩
  have h1 := h.2 e he
  cases ht : ops[e.1]? with
  | none => rw [ht] at h1; cases h1
  | some t =>
    cases hp : ops[e.2]? with
    | none => rw [ht, hp] at h1; cases h1
    | some p =>
      rw [ht, hp] at h1
      simp only [Bool.and_eq_true, List.all_eq_true] at h1
      obtain ⟨⟨⟨h2, h3⟩, h4⟩, h5⟩ := h1
      refine ⟨t, p, rfl, rfl, h2, free_any hp h3, fun e' he' => by simpa using h4 e' he', fun d hd hb => ?_⟩
      have := Array.all_eq_true_iff_forall_mem.1 h5 d hd
      rw [hb] at this
      simp only [Bool.not_true, Bool.false_or] at this
      obtain ⟨d', hd', hx⟩ := Array.any_eq_true'.1 this
      simp only [Bool.and_eq_true, beq_iff_eq] at hx
      exact ⟨d', hd', hx.1, hx.2⟩

theorem ready_less {ops : Array Oper} {x : List (Nat × Nat)} {listed : Array Bool} {i : Nat} (h : i ∈ Region.ready .any (withEdges ops x) listed) : i ∈ Region.ready .any ops listed := by
  obtain ⟨h1, o', ho, h2⟩ := mem_ready.1 h
  rw [withEdges_get] at ho
  cases hq : ops[i]? with
  | none => rw [hq] at ho; cases ho
  | some o =>
    rw [hq] at ho
    cases ho
    exact mem_ready.2 ⟨h1, o, hq, fun e he hb => h2 e (Array.mem_append.2 (.inl he)) hb⟩
/-- What may come up, and is held back by the edges that were added, is held back by one that may come up itself. -/
theorem ready_more {ops : Array Oper} {x : List (Nat × Nat)} (hx : Late ops x) {listed : Array Bool} (hsz : listed.size = ops.size) {i : Nat} (h : i ∈ Region.ready .any ops listed) (hn : i ∉ Region.ready .any (withEdges ops x) listed) : ∃ e ∈ x, e.2 ∈ Region.ready .any ops listed := by
  obtain ⟨h1, o, ho, h2⟩ := mem_ready.1 h
  have h3 : ∃ e ∈ x, e.1 = i ∧ listed.getD e.2 false ≠ true := by
    refine Classical.byContradiction fun hc => hn (mem_ready.2 ⟨h1, _, by rw [withEdges_get, ho]; rfl, fun e he hb => ?_⟩)
    rcases Array.mem_append.1 he with he | he
    · exact h2 e he hb
    · simp only [List.mem_toArray, List.mem_map, List.mem_filter, beq_iff_eq] at he
      obtain ⟨e', ⟨he', hi⟩, rfl⟩ := he
      exact Classical.byContradiction fun hl => hc ⟨e', he', hi, hl⟩
  obtain ⟨e, he, rfl, hl⟩ := h3
  obtain ⟨t, p, ht, hp, _, _, _, h5⟩ := hx.each e he
  rw [ho] at ht
  cases ht
  refine ⟨e, he, mem_ready.2 ⟨?_, p, hp, fun d hd hb => ?_⟩⟩
  · have hlt : e.2 < ops.size := (Array.getElem?_eq_some_iff.1 hp).1
    have hlt' : e.2 < listed.size := by omega
    have e1 : listed.getD e.2 false = listed[e.2] := by simp [Array.getD, hlt']
    have e2 : listed.getD e.2 true = listed[e.2] := by simp [Array.getD, hlt']
    rw [e1] at hl
    rw [e2]
    simpa using hl
  · obtain ⟨d', hd', hb', e2⟩ := h5 d hd hb
    rw [← e2]
    exact h2 d' hd' hb'

/-- What is so with the edges added is so without them. -/
theorem wpAny_with {ops : Array Oper} {x : List (Nat × Nat)} (hx : Late ops x) (hQ : ∀ d v c a w, Q (.panic c) (Act.put a d v) w → Q (.panic c) a w) : ∀ (fuel : Nat) (listed : Array Bool) (a : Act) (w : World), listed.size = ops.size →
    wpAny P .any (withEdges ops x) Q fuel listed a w → wpAny P .any ops Q fuel listed a w
  | 0, listed, a, w, hsz, h => by
    refine ⟨List.eq_nil_iff_forall_not_mem.2 fun i hi => ?_, h.2⟩
    have hno : ∀ j, j ∉ Region.ready .any (withEdges ops x) listed := fun j hj => by rw [h.1] at hj; cases hj
    obtain ⟨e, he, hr⟩ := ready_more hx hsz hi (hno i)
    obtain ⟨_, _, _, _, _, _, h4, _⟩ := hx.each e he
    refine Classical.byContradiction fun _ => hno e.2 (Classical.byContradiction fun hn => ?_)
    obtain ⟨l1, o, ho, l2⟩ := mem_ready.1 hr
    refine hn (mem_ready.2 ⟨l1, _, by rw [withEdges_get, ho]; rfl, fun d hd hb => ?_⟩)
    rcases Array.mem_append.1 hd with hd | hd
    · exact l2 d hd hb
    · simp only [List.mem_toArray, List.mem_map, List.mem_filter, beq_iff_eq] at hd
      obtain ⟨e', ⟨he', hi'⟩, rfl⟩ := hd
      exact absurd hi' (h4 e' he')
  | fuel + 1, listed, a, w, hsz, h => by
    obtain ⟨h1, h2⟩ := h
    have hsz' : ∀ i, (listed.setIfInBounds i true).size = ops.size := fun i => by simp [hsz]
    have same : ∀ e ∈ x, e.2 ∈ Region.ready .any ops listed → e.2 ∈ Region.ready .any (withEdges ops x) listed := fun e he hr => by
      obtain ⟨_, _, _, _, _, _, h4, _⟩ := hx.each e he
      obtain ⟨l1, o, ho, l2⟩ := mem_ready.1 hr
      refine mem_ready.2 ⟨l1, _, by rw [withEdges_get, ho]; rfl, fun d hd hb => ?_⟩
      rcases Array.mem_append.1 hd with hd | hd
      · exact l2 d hd hb
      · simp only [List.mem_toArray, List.mem_map, List.mem_filter, beq_iff_eq] at hd
        obtain ⟨e', ⟨he', hi'⟩, rfl⟩ := hd
        exact absurd hi' (h4 e' he')
    by_cases hex : ∃ e ∈ x, e.2 ∈ Region.ready .any ops listed
    · obtain ⟨e, he, hr⟩ := hex
      obtain ⟨t, p, _, hp, hs, hf, h4, _⟩ := hx.each e he
      have hw := h2 e.2 (same e he hr)
      have hp' : (withEdges ops x)[e.2]? = some p := by
        rw [withEdges_get, hp]
        have : x.filter (fun e' => e'.1 == e.2) = [] := List.filter_eq_nil_iff.2 fun e' he' => by simpa using h4 e' he'
        simp [this]
      obtain ⟨v, hy, hk⟩ := still_step (ops := ops) hp' hs hw
      obtain ⟨_, p', hp2, hl2⟩ := mem_ready.1 hr
      rw [hp] at hp2
      cases hp2
      refine wpAny_take (i := e.2) (v := v) hp hx.plain (hf listed hl2) (by simpa using hr) (fun c a w hq => hQ _ _ _ _ _ hq) hy ?_
      exact wpAny_with hx hQ fuel _ _ _ (hsz' _) hk
    · have hin : ∀ i, i ∈ Region.ready .any ops listed → i ∈ Region.ready .any (withEdges ops x) listed := fun i hi =>
        Classical.byContradiction fun hn => hex (ready_more hx hsz hi hn)
      refine ⟨fun h0 => h1 (List.eq_nil_iff_forall_not_mem.2 fun i hi => ?_), fun i hi => ?_⟩
      · have := ready_less hi
        rw [h0] at this
        cases this
      · exact wpOp_with (fun a w hk => wpAny_with hx hQ fuel _ a w (hsz' i) hk) (h2 i (hin i hi))

theorem wpAny_tails {ops : Array Oper} {a : Act} {w : World} (m : Nat) (C : World → Prop) (phi : Nat → Option (Value → World → Prop)) (fx : Nat → Option Value) (hms : m ≤ ops.size) (hok : okAs (ops.toList.take m).toArray a.tmps.size = true) (hlast : okTails ops m = true)
    (hC : C w.drew) (hCb : ∀ w w', C w → Below w.heap.size w w' → C w') (hst : ∀ (j : Nat) (φ : Value → World → Prop) (x : Value) (w w' : World), phi j = some φ → φ x w → Below w.heap.size w w' → φ x w')
    (h : wpAs P (ops.toList.take m).toArray C phi fx (fun a w => wpList P ops Q (ops.toList.drop m) a w) 0 (ops.toList.take m) a []) : wpAny P .any ops Q ops.size (Array.replicate ops.size false) a w.drew := by
  have e : (ops.toList.take m ++ ops.toList.drop m).toArray = ops := by rw [List.take_append_drop]
  have hl1 : (ops.toList.take m).length = m := by simp; omega
  have hl2 : (ops.toList.take m).length + (ops.toList.drop m).length = ops.size := by simp; omega
  unfold okTails at hlast
  rw [Bool.and_eq_true, List.all_eq_true, List.all_eq_true] at hlast
  have key := wpAny_tail (P := P) (Q := Q) ops (ops.toList.drop m) (ops.toList.take m) (fun j h0 hj => by
    have hj' : j ≤ ops.size - m := by simpa using hj
    have := hlast.1 (j - 1) (List.mem_range.2 (by omega))
    rw [show m + (j - 1 + 1) = m + j by omega, List.take_add] at this
    exact okLast_of this) (fun o ho => by simpa using hlast.2 o ho) a w.drew
  rw [hl2, e] at key
  refine key ?_
  rw [hl1]
  have hg : ∀ i, (Array.replicate m false).getD i false = false := fun i => by
    by_cases hi : i < m
    · simp [Array.getD]
    · simp [Array.getD]
  have hsz : (ops.toList.take m).toArray.size = m := by simpa using hl1
  have h' : wpAs P (ops.toList.take m).toArray C phi fx (fun a w => wpList P ops Q (ops.toList.drop m) a w) 0 (ops.toList.take m).toArray.toList a [] := h
  refine wpAny_of_as (Q := fun a w => wpList P ops Q (ops.toList.drop m) a w) (a0 := a) (ok_of hok) h' hCb hst (fun a w hq => hq) _ _ (fun _ => undef) a w.drew ?_ ⟨by rw [hsz]; simp, rfl, rfl, ?_, ?_, fun _ _ => rfl, hC, ?_, ?_⟩
  · unfold left
    exact Nat.le_trans (List.length_filter_le _ _) (by simp; omega)
  · intro i o _ hl
    rw [hg i] at hl
    cases hl
  · intro i o d _ hl
    rw [hg i] at hl
    cases hl
  · intro c _ i hl
    rw [hg i] at hl
    cases hl
  · intro c _ i o φ _ hl
    rw [hg i] at hl
    cases hl
/-- THE LAW: the operations ahead of place m in whatever order, the others one after another; those of x may come up behind a store, too. -/
theorem wp_region_late {id : Nat} {ops ops' : Array Oper} {a : Act} {w : World} (hm : P.follows .mixedOrders = true) (x : List (Nat × Nat)) (he : withEdges ops x = ops') (hx : okLate ops x = true) (hQ : ∀ d v c a w, Q (.panic c) (Act.put a d v) w → Q (.panic c) a w)
    (m : Nat) (C : World → Prop) (phi : Nat → Option (Value → World → Prop)) (fx : Nat → Option Value) (hms : m ≤ ops'.size) (hok : okAs (ops'.toList.take m).toArray a.tmps.size = true) (hlast : okTails ops' m = true)
    (hC : C w.drew) (hCb : ∀ w w', C w → Below w.heap.size w w' → C w') (hst : ∀ (j : Nat) (φ : Value → World → Prop) (x : Value) (w w' : World), phi j = some φ → φ x w → Below w.heap.size w w' → φ x w')
    (h : wpAs P (ops'.toList.take m).toArray C phi fx (fun a w => wpList P ops' Q (ops'.toList.drop m) a w) 0 (ops'.toList.take m) a []) : (Code.region id ops true).wp P Q a w := by
  refine wp_region_any hm ?_
  refine wpAny_with (late_of hx) hQ _ _ _ _ (by simp) ?_
  have e2 : ops'.size = ops.size := by rw [← he]; exact withEdges_size _ _
  have key := wpAny_tails m C phi fx hms hok hlast hC hCb hst h
  rw [e2] at key
  rw [he]
  exact key
end
end Go.Proofs.YtmdlgnlfgfhkmaaGreat

/-
  Package code: slices.Backward over bytes, and gather, which ranges over it. Conditions: those that each lemma states.
-/
namespace Go.Proofs.YtmdlgnlfgfhkmaaGreat
open Go.RowKit Go.Shelf
attribute [local go_sem] Oper.semAt_some

/-- What a round keeps: all that lay below block n₀, and the box Bs. -/
def Keeps (n₀ Bs : Nat) (A B : World) : Prop := Below n₀ A B ∧ B.cell? ⟨Bs, 0, none⟩ = A.cell? ⟨Bs, 0, none⟩
theorem Keeps.trans {n₀ Bs : Nat} {A B C : World} (h : Keeps n₀ Bs A B) (h' : Keeps n₀ Bs B C) : Keeps n₀ Bs A C := ⟨h.1.trans h'.1, h'.2.trans h.2⟩

set_option maxRecDepth 100000 in
set_option maxHeartbeats 2000000 in
/-- The closure of slices.Backward, for every loop body that keeps what lay below n₀. -/
theorem back_in (F : Fence) (n : Nat) (hf : F.fn 119) (hro : F.round = none) (hn : 1 ≤ n) (l Bs n₀ cap : Nat) (ad : Addr) (xs : List UInt8) (hm : xs.length ≤ 9223372036854775807) (hb : ad.block < n₀) (J Jx : List (Nat × UInt8) → World → Prop)
    (hY : ∀ pre x W, J pre W → pre.length < xs.length → YieldAt F (n - 1) Tryz.prog l #[.int .i64 (x.1 : Int), .int .u8 (x.2.toNat : Int)] W fun e W' =>
      (e = .returned (.bool true) ∧ J (pre ++ [x]) W' ∧ Keeps n₀ Bs W W') ∨ (e = .returned (.bool false) ∧ Jx (pre ++ [x]) W'))
    (W : World) (hBs : W.cell? ⟨Bs, 0, none⟩ = some (.slice (some ad) xs.length cap)) (hc : ∀ j, j < xs.length → W.cell? (ad.add j) = some (.int .u8 ((xs[j]?.getD 0).toNat : Int))) (h0 : J [] W) :
    CallsIn F n Tryz.prog 119 #[.func (.yield l) #[] #[], .pointer (some ⟨Bs, 0, none⟩)] W fun e W' => (∃ v, e = .returned v) ∧
      ((∃ ys, ys = back xs xs.length ∧ J ys W') ∨ (∃ pre, (∃ k, k ≤ xs.length ∧ pre = back xs k) ∧ Jx pre W')) := by
  refine callsIn_of_wp Tryz.func119 rfl hf ?_ hro
  simp only [Tryz.ntmps119, List.size_toArray, List.length_cons, List.length_nil, Nat.reduceAdd, Nat.reduceSub, Array.replicate_succ, Array.replicate_zero, List.push_toArray, List.append_toArray, List.nil_append, List.cons_append]
  gi_wp2
  gi_loopw [3] (fun i wr => ∃ k : Nat, k ≤ xs.length ∧ i = .int .i64 ((xs.length : Int) - 1 - k) ∧ J (back xs k) wr ∧ Below n₀ W wr ∧ wr.cell? ⟨Bs, 0, none⟩ = some (.slice (some ad) xs.length cap))
    (fun i _ => (intOf i + 1).toNat)
  case atStart => exact ⟨0, Nat.zero_le _, by simp, h0, Below.refl _ _, hBs⟩
  case round =>
    obtain ⟨k, hk, rfl, hJs, hnx, hbs⟩ := hrel
    by_cases hlt : k < xs.length
    · have hcx : wr.cell? (ad.add (xs.length - 1 - k)) = some (.int .u8 ((xs[xs.length - 1 - k]?.getD 0).toNat : Int)) := (hnx.cell (p := ad.add (xs.length - 1 - k)) (by rw [add_block]; exact hb)).trans (hc _ (by omega))
      obtain ⟨fn, tmps, assign, body, hy, hR⟩ := hY _ (xs.length - 1 - k, xs[xs.length - 1 - k]?.getD 0) wr hJs (by rw [back_length]; exact hlt)
      dsimp only at hy
      have e1 : ((xs.length : Int) - 1 - k).toNat = xs.length - 1 - k := by omega
      have e2 : ((xs.length - 1 - k : Nat) : Int) = (xs.length : Int) - 1 - k := by omega
      rw [e2] at hy
      gi_wp2
      refine hR.mono ?_
      rintro e W3 (⟨rfl, hJ3, hk3⟩ | ⟨rfl, hJx3⟩)
      · gi_wp2
        go_roundw
        case rel => exact ⟨k + 1, by omega, by go_num, by rw [back_succ]; exact hJ3, hnx.trans hk3.1, hk3.2.trans hbs⟩
        case measure => simp [intOf]; omega
      · gi_wp2
        refine bodyPost_ret (results_none rfl _ _ _) rfl ?_
        exact ⟨⟨_, rfl⟩, .inr ⟨_, ⟨k + 1, by omega, (back_succ _ _).symm⟩, hJx3⟩⟩
    · obtain rfl : k = xs.length := by omega
      gi_wp2
      go_end0
      exact ⟨⟨_, rfl⟩, .inl ⟨_, rfl, hJs⟩⟩

set_option maxHeartbeats 1000000 in
/-- slices.Backward(s): the slice value is boxed; the function value captures the box. -/
theorem backward_in (F : Fence) (n : Nat) (hf : F.fn 115) (hro : F.round = none) (a : Option Addr) (len cap : Nat) (w : World) :
    CallsIn F n Tryz.prog 115 #[.slice a len cap] w fun e w' => e = .returned (.func (.func 119) #[] #[.pointer (some ⟨w.heap.size, 0, none⟩)]) ∧ w' = w.alloc (.cells #[.slice a len cap] 26) := by
  refine callsIn_of_wp Tryz.func115 rfl hf ?_ hro
  simp only [Tryz.ntmps115, List.size_toArray, List.length_cons, List.length_nil, Nat.reduceAdd, Nat.reduceSub, Array.replicate_succ, Array.replicate_zero, List.push_toArray, List.append_toArray, List.nil_append, List.cons_append]
  gi_wp2
  go_ret
  exact ⟨rfl, rfl⟩

/-- slices.Backward(s) hands back a value that gives the pairs from behind: all, or the first k of them. -/
theorem backward_stops (F : Fence) (n : Nat) (hf : F.fn 119) (hro : F.round = none) (hn : 1 ≤ n) (Bs n₀ cap : Nat) (ad : Addr) (xs : List UInt8) (hm : xs.length ≤ 9223372036854775807) (w : World) (hBs : Bs < w.heap.size) (hn₀ : n₀ ≤ w.heap.size)
    (hc : w.cell? ⟨Bs, 0, none⟩ = some (.slice (some ad) xs.length cap)) (hb : ad.block < n₀) (hx : ∀ j, j < xs.length → w.cell? (ad.add j) = some (.int .u8 ((xs[j]?.getD 0).toNat : Int))) :
    SeqStopsK F n Tryz.prog 119 #[.pointer (some ⟨Bs, 0, none⟩)] (fun x : Nat × UInt8 => #[Value.int .i64 (x.1 : Int), Value.int .u8 (x.2.toNat : Int)]) (Keeps n₀ Bs) (fun ys => ys = back xs xs.length)
      (fun pre => ∃ k, k ≤ xs.length ∧ pre = back xs k) xs.length w := fun l J Jx W hW _ _ hY h0 => by
  have hc' := (hW.cell (p := ⟨Bs, 0, none⟩) hBs).trans hc
  exact back_in F n hf hro hn l Bs n₀ cap ad xs hm hb J Jx hY W hc' (fun j hj => (hW.cell (p := ad.add j) (by rw [add_block]; omega)).trans (hx j hj)) h0

/-- What the loop itself turns keeps it. -/
theorem keeps_b {W w : World} {Bs n₀ : Nat} (hBs : Bs < w.heap.size) (hn₀ : n₀ ≤ w.heap.size) (l : Nat) (o o' : Obj) (hl : w.heap.size ≤ l) (h1 : W.heap[l]? = some o) (h2 : o.isCells = false) (h3 : o.isWalk = false) : Keeps n₀ Bs W (W.putObj l o') :=
  ⟨belowK_b hn₀ W l o o' hl h1 h2 h3, World.cell?_of_block (World.putObj_heap_other (k := Bs) (by omega))⟩

set_option maxRecDepth 100000 in
set_option maxHeartbeats 2000000 in
theorem gather_in (F : Fence) (n : Nat) (h3 : F.fn 111) (h5 : F.fn 115) (h7 : F.fn 119) (hro : F.round = none) (hn : 3 ≤ n)
    (ad : Addr) (len cap m k : Nat) (ys : List UInt8) (hk : ys.length = m) (hm0 : 0 < m) (hm : m ≤ 4) (hle : k + m ≤ len) (hlc : len ≤ cap) (hcap : cap ≤ 9223372036854775807) (w : World)
    (hb : ad.block < w.heap.size) (hx : ∀ j, j < ys.length → w.cell? ((ad.add k).add j) = some (.int .u8 ((ys[j]?.getD 0).toNat : Int))) :
    CallsIn F n Tryz.prog 111 #[.slice (some ad) len cap, .int .i64 k, .int .i64 m] w fun e W' => e = .returned (.tuple #[.int .u32 (num ys), .int .i64 0]) ∧ Below w.heap.size w W' := by
  have h1 : 1 ≤ n := by omega
  refine callsIn_of_wp_marks Tryz.func111 rfl h3 ?_ hro
  simp only [Tryz.ntmps111, List.size_toArray, List.length_cons, List.length_nil, Nat.reduceAdd, Nat.reduceSub, Array.replicate_succ, Array.replicate_zero, List.push_toArray, List.append_toArray, List.nil_append, List.cons_append]
  gi_wp2_with (gi_at_call 115; refine (backward_in F (n - 1) h5 hro _ _ _ _).mono ?_; rintro e w' ⟨rfl, rfl⟩)
  obtain rfl := hk
  have bN := Boxed.new w 48 (.int .u32 0)
  have bS := Boxed.new (w.alloc (.cells #[.int .u32 0] 48)) 26 (.slice (some (ad.add k)) ys.length (cap - k))
  rw [World.size_alloc] at bS
  have hB0 : Below w.heap.size w ((w.alloc (.cells #[.int .u32 0] 48)).alloc (.cells #[.slice (some (ad.add k)) ys.length (cap - k)] 26)) := ((Below.refl _ w).alloc (Nat.le_refl _) _).alloc (by simp) _
  refine wpIn_rangeFunc_ownG hro h1 (gf := 119) (lb := #[.pointer (some ⟨w.heap.size + 1, 0, none⟩)]) rfl h7 (enters_of Tryz.func119 (by kernel_rfl) rfl)
    (backward_stops F (n - 1) h7 hro (by omega) (w.heap.size + 1) w.heap.size (cap - k) (ad.add k) ys (by omega) _ (by simp) (by simp; omega) bS.cell (by rw [add_block]; exact hb) (fun j hj => (hB0.cell (p := (ad.add k).add j) (by rw [add_block, add_block]; exact hb)).trans (hx j hj)))
    (fun h h' => Keeps.trans h h') (fun W l o o' hl h1 h2 h3 => keeps_b (by simp) (by simp; omega) l o o' hl h1 h2 h3) (Below.refl _ _) (fun _ => rfl)
    (fun pre W => (W.cell? ⟨w.heap.size, 0, none⟩ = some (.int .u32 (val pre)) ∧ W.frozen? ⟨w.heap.size, 0, none⟩ = false) ∧ Below w.heap.size w W)
    (fun _ _ _ => False)
    (OwnFrom.and (Own.from (fun s A B row hs hg hr => ⟨cell_kept hs.1 hg hr, (frozen_kept hs.1 hg hr).trans hs.2⟩) _) (ownFrom_below (Nat.le_refl _) (by simp; omega)))
    (fun _ _ _ _ _ hs _ _ => hs)
    ⟨⟨(bN.alloc _).cell, (bN.alloc _).frozen⟩, hB0⟩
    (fun x => { tmps := #[.slice (some ad) len cap, .int .i64 k, .int .i64 ys.length, undef, undef, undef, .int .u32 0, .int .i64 0, .pointer (some ⟨w.heap.size, 0, none⟩), undef, .int .u8 (x.2.toNat : Int), .int .i64 k, .bool (decide ((k : Int) < 0)), .bool (decide ((k : Int) < 0)),
      .int .i64 k, .slice (some ad) len cap, .int .i64 len, .int .i64 ys.length, .int .i64 ((len : Int) - ys.length), .bool (decide ((len : Int) - ys.length < k)), .bool (decide ((k : Int) < 0) || decide ((len : Int) - ys.length < k)), .slice (some ad) len cap, .int .i64 k, .int .i64 k, .int .i64 ys.length, .int .i64 ((k : Int) + ys.length),
      .slice (some (ad.add k)) ys.length (cap - k), .func (.func 119) #[] #[.pointer (some ⟨w.heap.size + 1, 0, none⟩)], .int .i64 (x.1 : Int), .int .u8 (x.2.toNat : Int), undef, undef, undef, undef, undef, undef], defers := [] }) ?assign ?body ?done ?stop
  case assign =>
    intro l x W K hK
    gi_wp2
    exact hK
  case body =>
    rintro l pre x W ⟨⟨hc, hf⟩, hB⟩ hlen
    obtain ⟨v0, v1⟩ := val_small pre (by omega)
    have hx2 := x.2.toNat_lt
    have hor := or_low (val pre) x.2 v0 v1
    gi_wp2
    exact ⟨(KeepsOthers.setCell _ _ _).from _, ⟨(Below.refl w.heap.size W).setCell (p := ⟨w.heap.size, 0, none⟩) (Nat.le_refl _) _, World.cell?_setCell_other _ _ _ _ (by simp)⟩,
      ⟨by rw [val_snoc]; exact World.cell?_setCell_same' _ _ _ (by rw [hc]; rfl), by rw [World.frozen?_setCell]; exact hf⟩, hB.setCell (p := ⟨w.heap.size, 0, none⟩) (Nat.le_refl _) _⟩
  case done =>
    rintro D zs W hD rfl ⟨⟨hc, _⟩, hB⟩ hK
    rw [val_all] at hc
    gi_wp2
    refine ⟨by simp, .inl ⟨_, _, rfl, run_takeDeferred hK, ?_⟩⟩
    exact ⟨_, results_tmp2 rfl _ _ _, rfl, hB.trans (belowK_b (w := w) (Nat.le_refl _) W D _ _ (by simp at hD; omega) hK rfl rfl)⟩
  case stop =>
    rintro D c pre W _ _ h _
    exact h.elim
end Go.Proofs.YtmdlgnlfgfhkmaaGreat

/-
  Package dev: seen, which ranges over slices.Backward of writes. Conditions: those that each lemma states.
-/
namespace Go.Proofs.YtmdlgnlfgfhkmaaGreat
open Go.RowKit Go.Shelf
attribute [local go_sem] Oper.semAt_some

/-! ### What is seen -/
/-- The bytes of the last write to a place, or those that last. -/
def seenW (ws : List Wt) (b : List UInt8) (n : Int) : List UInt8 := ws.foldl (fun acc x => if x.1 = n then x.2 else acc) b
def seenD (d : Dk) (n : Nat) : List UInt8 := seenW d.2 (d.1[n]?.getD []) n
theorem seenW_none {ws : List Wt} {b : List UInt8} {n : Int} (h : ∀ x ∈ ws, x.1 ≠ n) : seenW ws b n = b := by
  induction ws generalizing b with
  | nil => rfl
  | cons x r ih =>
    show seenW r (if x.1 = n then x.2 else b) n = b
    rw [if_neg (h x (List.mem_cons.2 (.inl rfl)))]
    exact ih fun y hy => h y (List.mem_cons.2 (.inr hy))
theorem seenW_append (ws vs : List Wt) (b : List UInt8) (n : Int) : seenW (ws ++ vs) b n = seenW vs (seenW ws b n) n := by simp [seenW]
theorem seenW_at {ws : List Wt} {b : List UInt8} {n : Int} {i : Nat} {x : Wt} (hi : ws[i]? = some x) (hx : x.1 = n) (h : ∀ j y, i < j → ws[j]? = some y → y.1 ≠ n) : seenW ws b n = x.2 := by
  have hil := (List.getElem?_eq_some_iff.1 hi).1
  have e : ws = ws.take i ++ (x :: ws.drop (i + 1)) := by
    have h1 := (List.take_append_drop i ws).symm
    rw [List.drop_eq_getElem_cons hil] at h1
    have h2 := (List.getElem?_eq_some_iff.1 hi).2
    rwa [h2] at h1
  rw [e, seenW_append]
  show seenW (ws.drop (i + 1)) (if x.1 = n then x.2 else seenW (ws.take i) b n) n = x.2
  rw [if_pos hx]
  refine seenW_none fun y hy => ?_
  obtain ⟨j, hj⟩ := List.getElem?_of_mem hy
  rw [List.getElem?_drop] at hj
  exact h _ y (by omega) hj
theorem seenW_length {ws : List Wt} {b : List UInt8} {n : Int} {k : Nat} (hb : b.length = k) (h : ∀ x ∈ ws, x.2.length = k) : (seenW ws b n).length = k := by
  induction ws generalizing b with
  | nil => exact hb
  | cons x r ih =>
    refine ih (b := if x.1 = n then x.2 else b) ?_ fun y hy => h y (List.mem_cons.2 (.inr hy))
    split
    · exact h x (List.mem_cons.2 (.inl rfl))
    · exact hb

/-- The numbers from m - 1 down, the first k of them. -/
def downs (m k : Nat) : List Nat := (List.range k).map fun j => m - 1 - j
theorem downs_succ (m k : Nat) : downs m (k + 1) = downs m k ++ [m - 1 - k] := by simp [downs, List.range_succ]
theorem downs_length (m k : Nat) : (downs m k).length = k := by simp [downs]
theorem mem_downs {m k i : Nat} (hk : k ≤ m) : i ∈ downs m k ↔ m - k ≤ i ∧ i < m := by
  simp only [downs, List.mem_map, List.mem_range]
  constructor
  · rintro ⟨j, hj, rfl⟩; omega
  · intro h; exact ⟨m - 1 - i, by omega, by omega⟩

set_option maxRecDepth 100000 in
set_option maxHeartbeats 2000000 in
/-- The closure of slices.Backward, for every loop body that keeps what lay below n₀. -/
theorem backW_in (F : Fence) (n : Nat) (hf : F.fn 110) (hro : F.round = none) (hn : 1 ≤ n) (l Bs n₀ cap m : Nat) (A : Option Addr) (ad : Addr) (at_ : Nat → Int) (E : Nat → Option Addr) (ln ca : Nat → Nat) (hm : m ≤ 9223372036854775807) (hA : 0 < m → A = some ad ∧ ad.block < n₀) (J Jx : List Nat → World → Prop)
    (hY : ∀ (pre : List Nat) (x : Nat) (W : World), J pre W → pre.length < m → YieldAt F (n - 1) Tryz.prog l #[.int .i64 (x : Int), .agg #[.int .i64 (at_ x), .slice (E x) (ln x) (ca x)]] W fun e W' =>
      (e = .returned (.bool true) ∧ J (pre ++ [x]) W' ∧ Keeps n₀ Bs W W') ∨ (e = .returned (.bool false) ∧ Jx (pre ++ [x]) W'))
    (W : World) (hBs : W.cell? ⟨Bs, 0, none⟩ = some (.slice A m cap)) (hc : ∀ j, j < m → W.cell? (ad.add (j * 2)) = some (.int .i64 (at_ j)) ∧ W.cell? ⟨(ad.add (j * 2)).block, (ad.add (j * 2)).off + 1, none⟩ = some (.slice (E j) (ln j) (ca j))) (h0 : J [] W) :
    CallsIn F n Tryz.prog 110 #[.func (.yield l) #[] #[], .pointer (some ⟨Bs, 0, none⟩)] W fun e W' => (∃ v, e = .returned v) ∧
      ((∃ ys, ys = downs m m ∧ J ys W') ∨ (∃ pre, (∃ k, k ≤ m ∧ pre = downs m k) ∧ Jx pre W')) := by
  refine callsIn_of_wp Tryz.func110 rfl hf ?_ hro
  simp only [Tryz.ntmps110, List.size_toArray, List.length_cons, List.length_nil, Nat.reduceAdd, Nat.reduceSub, Array.replicate_succ, Array.replicate_zero, List.push_toArray, List.append_toArray, List.nil_append, List.cons_append]
  have HC := Lib.hid hc
  clear hc
  replace hA := Lib.hid hA
  gi_wp2
  gi_loopw [3] (fun i wr => ∃ k : Nat, k ≤ m ∧ i = .int .i64 ((m : Int) - 1 - k) ∧ J (downs m k) wr ∧ Below n₀ W wr ∧ wr.cell? ⟨Bs, 0, none⟩ = some (.slice A m cap))
    (fun i _ => (intOf i + 1).toNat)
  case atStart => exact ⟨0, Nat.zero_le _, by simp, h0, Below.refl _ _, hBs⟩
  case round =>
    obtain ⟨k, hk, rfl, hJs, hnx, hbs⟩ := hrel
    by_cases hlt : k < m
    · obtain ⟨rfl, hb⟩ := hA.out (by omega)
      have hx := HC.out (m - 1 - k) (by omega)
      have hc1 : wr.cell? (ad.add ((m - 1 - k) * 2)) = some (.int .i64 (at_ (m - 1 - k))) := (hnx.cell (p := ad.add ((m - 1 - k) * 2)) (by rw [add_block]; exact hb)).trans hx.1
      have hc2 : wr.cell? ⟨(ad.add ((m - 1 - k) * 2)).block, (ad.add ((m - 1 - k) * 2)).off + 1, none⟩ = some (.slice (E (m - 1 - k)) (ln (m - 1 - k)) (ca (m - 1 - k))) := (hnx.cell (p := ⟨(ad.add ((m - 1 - k) * 2)).block, (ad.add ((m - 1 - k) * 2)).off + 1, none⟩) (by rw [add_block]; exact hb)).trans hx.2
      clear hx
      obtain ⟨fn, tmps, assign, body, hy, hR⟩ := hY _ (m - 1 - k) wr hJs (by rw [downs_length]; exact hlt)
      try dsimp only at hy
      have e1 : ((m : Int) - 1 - k).toNat = m - 1 - k := by omega
      have e2 : ((m - 1 - k : Nat) : Int) = (m : Int) - 1 - k := by omega
      rw [e2] at hy
      clear e2
      have hds := Lib.hid (downs_succ m k)
      generalize at_ (m - 1 - k) = q1 at *
      generalize E (m - 1 - k) = q2 at *
      generalize ln (m - 1 - k) = q3 at *
      generalize ca (m - 1 - k) = q4 at *
      gi_wp2
      refine hR.mono ?_
      rintro e W3 (⟨rfl, hJ3, hk3⟩ | ⟨rfl, hJx3⟩)
      · gi_wp2
        go_roundw
        case rel => exact ⟨k + 1, by omega, by go_num, by rw [hds.out]; exact hJ3, hnx.trans hk3.1, hk3.2.trans hbs⟩
        case measure => simp [intOf]; omega
      · gi_wp2
        refine bodyPost_ret (results_none rfl _ _ _) rfl ?_
        exact ⟨⟨_, rfl⟩, .inr ⟨_, ⟨k + 1, by omega, hds.out.symm⟩, hJx3⟩⟩
    · obtain rfl : k = m := by omega
      gi_wp2
      go_end0
      exact ⟨⟨_, rfl⟩, .inl ⟨_, rfl, hJs⟩⟩

set_option maxHeartbeats 1000000 in
/-- slices.Backward(s): the slice value is boxed; the function value captures the box. -/
theorem backwardW_in (F : Fence) (n : Nat) (hf : F.fn 103) (hro : F.round = none) (a : Option Addr) (len cap : Nat) (w : World) :
    CallsIn F n Tryz.prog 103 #[.slice a len cap] w fun e w' => e = .returned (.func (.func 110) #[] #[.pointer (some ⟨w.heap.size, 0, none⟩)]) ∧ w' = w.alloc (.cells #[.slice a len cap] 23) := by
  refine callsIn_of_wp Tryz.func103 rfl hf ?_ hro
  simp only [Tryz.ntmps103, List.size_toArray, List.length_cons, List.length_nil, Nat.reduceAdd, Nat.reduceSub, Array.replicate_succ, Array.replicate_zero, List.push_toArray, List.append_toArray, List.nil_append, List.cons_append]
  gi_wp2
  go_ret
  exact ⟨rfl, rfl⟩

/-- slices.Backward(s) hands back a value that gives the elements from behind: all, or the first k of them. -/
theorem backwardW_stops (F : Fence) (n : Nat) (hf : F.fn 110) (hro : F.round = none) (hn : 1 ≤ n) (Bs n₀ cap m : Nat) (A : Option Addr) (ad : Addr) (at_ : Nat → Int) (E : Nat → Option Addr) (ln ca : Nat → Nat) (hm : m ≤ 9223372036854775807) (w : World) (hBs : Bs < w.heap.size) (hn₀ : n₀ ≤ w.heap.size)
    (hc : w.cell? ⟨Bs, 0, none⟩ = some (.slice A m cap)) (hA : 0 < m → A = some ad ∧ ad.block < n₀) (hx : ∀ j, j < m → w.cell? (ad.add (j * 2)) = some (.int .i64 (at_ j)) ∧ w.cell? ⟨(ad.add (j * 2)).block, (ad.add (j * 2)).off + 1, none⟩ = some (.slice (E j) (ln j) (ca j))) :
    SeqStopsK F n Tryz.prog 110 #[.pointer (some ⟨Bs, 0, none⟩)] (fun x : Nat => #[Value.int .i64 (x : Int), Value.agg #[.int .i64 (at_ x), .slice (E x) (ln x) (ca x)]]) (Keeps n₀ Bs) (fun ys => ys = downs m m)
      (fun pre => ∃ k, k ≤ m ∧ pre = downs m k) m w := fun l J Jx W hW _ _ hY h0 => by
  have hc' := (hW.cell (p := ⟨Bs, 0, none⟩) hBs).trans hc
  exact backW_in F n hf hro hn l Bs n₀ cap m A ad at_ E ln ca hm hA J Jx hY W hc' (fun j hj => ⟨(hW.cell (p := ad.add (j * 2)) (by rw [add_block]; have := (hA (by omega)).2; omega)).trans (hx j hj).1, (hW.cell (p := ⟨(ad.add (j * 2)).block, (ad.add (j * 2)).off + 1, none⟩) (by rw [add_block]; have := (hA (by omega)).2; omega)).trans (hx j hj).2⟩) h0

/-- A disk's writes, their places and bytes as functions. -/
theorem wts_fn {w : World} {B : Option Addr} {ws : List Wt} (h : ∀ i x, ws[i]? = some x → ∃ ad v, B = some ad ∧ Old w (ad.add (i * 2)) ∧ Old w (ad.add (i * 2 + 1)) ∧ w.cell? (ad.add (i * 2)) = some (.int .i64 x.1) ∧ w.cell? (ad.add (i * 2 + 1)) = some v ∧ rBy (Old w) w [v] x.2 ∧ -9223372036854775808 ≤ x.1 ∧ x.1 ≤ 9223372036854775807) :
    ∃ (ad : Addr) (E : Nat → Option Addr) (ca : Nat → Nat), (0 < ws.length → B = some ad ∧ ad.block < w.heap.size) ∧ ∀ i x, ws[i]? = some x → w.cell? (ad.add (i * 2)) = some (.int .i64 x.1) ∧ w.cell? ⟨(ad.add (i * 2)).block, (ad.add (i * 2)).off + 1, none⟩ = some (.slice (E i) x.2.length (ca i)) ∧ rBy (Old w) w [.slice (E i) x.2.length (ca i)] x.2 := by
  have h2 : ∀ i, ∃ f : Option Addr × Nat, ∀ x, ws[i]? = some x → ∃ ad, B = some ad ∧ ad.block < w.heap.size ∧ w.cell? (ad.add (i * 2)) = some (.int .i64 x.1) ∧ w.cell? ⟨(ad.add (i * 2)).block, (ad.add (i * 2)).off + 1, none⟩ = some (.slice f.1 x.2.length f.2) ∧ rBy (Old w) w [.slice f.1 x.2.length f.2] x.2 := fun i => by
    cases hx : ws[i]? with
    | none => exact ⟨(none, 0), fun x e => by cases e⟩
    | some x =>
      obtain ⟨ad, v, rfl, o1, _, c1, c2, hv, _⟩ := h i x hx
      obtain ⟨E, c, rfl, _⟩ := rBy_open hv
      rw [add_next] at c2
      exact ⟨(E, c), fun y e => by cases e; exact ⟨ad, rfl, by unfold Old at o1; rwa [add_block] at o1, c1, c2, hv⟩⟩
  obtain ⟨f, hf⟩ : ∃ f : Nat → Option Addr × Nat, ∀ i x, ws[i]? = some x → ∃ ad, B = some ad ∧ ad.block < w.heap.size ∧ w.cell? (ad.add (i * 2)) = some (.int .i64 x.1) ∧ w.cell? ⟨(ad.add (i * 2)).block, (ad.add (i * 2)).off + 1, none⟩ = some (.slice (f i).1 x.2.length (f i).2) ∧ rBy (Old w) w [.slice (f i).1 x.2.length (f i).2] x.2 :=
    ⟨fun i => Classical.choose (h2 i), fun i => Classical.choose_spec (h2 i)⟩
  rcases B with _ | ad
  · refine ⟨⟨0, 0, none⟩, fun i => (f i).1, fun i => (f i).2, fun h0 => ?_, fun i x hi => ?_⟩
    · obtain ⟨_, e, _⟩ := hf 0 _ (List.getElem?_eq_getElem h0)
      cases e
    · obtain ⟨_, e, _⟩ := hf i x hi
      cases e
  · refine ⟨ad, fun i => (f i).1, fun i => (f i).2, fun h0 => ?_, fun i x hi => ?_⟩
    · obtain ⟨_, e, hb, _⟩ := hf 0 _ (List.getElem?_eq_getElem h0)
      cases e
      exact ⟨rfl, hb⟩
    · obtain ⟨_, e, _, hr⟩ := hf i x hi
      cases e
      exact hr

set_option maxRecDepth 100000 in
set_option maxHeartbeats 4000000 in
theorem seen_in (F : Fence) (n : Nat) (h3 : F.fn 97) (h5 : F.fn 103) (h7 : F.fn 110) (hro : F.round = none) (hn : 3 ≤ n)
    (v : Value) (d : Dk) (k : Nat) (hk : k < d.1.length) (w : World) (h : Dsk (Old w) w v d) :
    CallsIn F n Tryz.prog 97 #[v, .int .i64 k] w fun e W' => ∃ u, e = .returned u ∧ rBy (Old w) w [u] (seenD d k) ∧ Below w.heap.size w W' := by
  have h1 : 1 ≤ n := by omega
  obtain ⟨A, c, B, c', rfl, l1, m1, l2, m2, hA, hB⟩ := h.open
  obtain ⟨ad, E, ca, had, hfn⟩ := wts_fn hB
  obtain ⟨x, hx⟩ : ∃ x, d.1[k]? = some x := ⟨_, List.getElem?_eq_getElem hk⟩
  obtain ⟨a1, v1, rfl, ho1, hc1, hby1⟩ := hA k x hx
  have HF := Lib.hid hfn
  clear hA hB h hfn
  have hsd : Hid (seenD d k = seenW d.2 x k) := Lib.hid (by unfold seenD; rw [hx]; rfl)
  replace hx := Lib.hid hx
  obtain ⟨N, hN⟩ : ∃ N, d.1.length = N := ⟨_, rfl⟩
  obtain ⟨m, hm⟩ : ∃ m, d.2.length = m := ⟨_, rfl⟩
  rw [hN] at l1 hk ⊢
  rw [hm] at l2 had ⊢
  replace hN := Lib.hid hN
  replace hm := Lib.hid hm
  have hfa : Hid (∀ j, j < m → w.cell? (ad.add (j * 2)) = some (.int .i64 ((d.2[j]?.getD (0, [])).1)) ∧ w.cell? ⟨(ad.add (j * 2)).block, (ad.add (j * 2)).off + 1, none⟩ = some (.slice (E j) (d.2[j]?.getD (0, [])).2.length (ca j))) := Lib.hid fun j hj => by
    have hj' : d.2[j]? = some (d.2[j]'(by rw [hm.out]; exact hj)) := List.getElem?_eq_getElem _
    rw [hj']
    exact ⟨(HF.out j _ hj').1, (HF.out j _ hj').2.1⟩
  obtain ⟨E1, ce1, rfl, _⟩ := rBy_open hby1
  replace had := Lib.hid had
  refine callsIn_of_wp_marks Tryz.func97 rfl h3 ?_ hro
  simp only [Tryz.ntmps97, List.size_toArray, List.length_cons, List.length_nil, Nat.reduceAdd, Nat.reduceSub, Array.replicate_succ, Array.replicate_zero, List.push_toArray, List.append_toArray, List.nil_append, List.cons_append]
  gi_wp2_with (gi_at_call 103; refine (backwardW_in F (n - 1) h5 hro _ _ _ _).mono ?_; rintro e w' ⟨rfl, rfl⟩)
  obtain ⟨W0, hW0, hB0, hs0, b0, b1, b2, b2f, b3⟩ : ∃ W0, (((w.alloc (.cells #[.slice (some a1) N c, .slice B m c'] 25)).alloc (.cells #[.int .i64 (k : Int)] 3)).alloc (.cells #[.slice none 0 0] 26)).alloc (.cells #[.slice B m c'] 23) = W0 ∧ Below w.heap.size w W0 ∧ W0.heap.size = w.heap.size + 4 ∧
      W0.cell? ⟨w.heap.size, 0, none⟩ = some (.slice (some a1) N c) ∧ W0.cell? ⟨w.heap.size + 1, 0, none⟩ = some (.int .i64 (k : Int)) ∧ W0.cell? ⟨w.heap.size + 1 + 1, 0, none⟩ = some (.slice none 0 0) ∧ W0.frozen? ⟨w.heap.size + 1 + 1, 0, none⟩ = false ∧ W0.cell? ⟨w.heap.size + 1 + 1 + 1, 0, none⟩ = some (.slice B m c') :=
    ⟨_, rfl, ((((Below.refl _ w).alloc (Nat.le_refl _) _).alloc (by simp) _).alloc (by simp; omega) _).alloc (by simp; omega) _, by simp, by go_simp, by go_simp, by go_simp, by go_simp, by go_simp⟩
  rw [hW0]
  clear hW0
  obtain ⟨atf, hat⟩ : ∃ f : Nat → Int, f = fun j => (d.2[j]?.getD (0, [])).1 := ⟨_, rfl⟩
  obtain ⟨lnf, hln⟩ : ∃ f : Nat → Nat, f = fun j => (d.2[j]?.getD (0, [])).2.length := ⟨_, rfl⟩
  have hfb : ∀ j, j < m → W0.cell? (ad.add (j * 2)) = some (.int .i64 (atf j)) ∧ W0.cell? ⟨(ad.add (j * 2)).block, (ad.add (j * 2)).off + 1, none⟩ = some (.slice (E j) (lnf j) (ca j)) := fun j hj => by
    have hb := (had.out (by omega)).2
    rw [hat, hln]
    exact ⟨(hB0.cell (p := ad.add (j * 2)) (by rw [add_block]; exact hb)).trans (hfa.out j hj).1, (hB0.cell (p := ⟨(ad.add (j * 2)).block, (ad.add (j * 2)).off + 1, none⟩) (by rw [add_block]; exact hb)).trans (hfa.out j hj).2⟩
  have hlo : w.heap.size ≤ W0.heap.size := hB0.size
  replace hat := Lib.hid hat
  replace hln := Lib.hid hln
  refine wpIn_rangeFunc_ownH hro h1 (gf := 110) (lb := #[.pointer (some ⟨w.heap.size + 1 + 1 + 1, 0, none⟩)]) rfl h7 (enters_of Tryz.func110 (by kernel_rfl) rfl)
    (backwardW_stops F (n - 1) h7 hro (by omega) (w.heap.size + 1 + 1 + 1) w.heap.size c' m B ad atf E lnf ca (by omega) W0 (by omega) hlo b3 had.out hfb)
    (fun h h' => Keeps.trans h h') (fun W l o o' hl h1 h2 h3 => keeps_b (w := W0) (by omega) hlo l o o' hl h1 h2 h3) (Below.refl _ _) (fun _ => rfl)
    (fun pre W => ((∀ j ∈ pre, atf j ≠ k) ∧ W.cell? ⟨w.heap.size, 0, none⟩ = some (.slice (some a1) N c) ∧ W.cell? ⟨w.heap.size + 1, 0, none⟩ = some (.int .i64 (k : Int)) ∧ W.cell? ⟨w.heap.size + 1 + 1, 0, none⟩ = some (.slice none 0 0) ∧ W.frozen? ⟨w.heap.size + 1 + 1, 0, none⟩ = false ∧ W.cell? ⟨w.heap.size + 1 + 1 + 1, 0, none⟩ = some (.slice B m c')) ∧ Below w.heap.size w W)
    (fun cd pre W => (cd = .ret ∧ ∃ p i, pre = p ++ [i] ∧ (∀ j ∈ p, atf j ≠ k) ∧ atf i = k ∧ W.cell? ⟨w.heap.size + 1 + 1, 0, none⟩ = some (.slice (E i) (lnf i) (ca i))) ∧ Below w.heap.size w W)
    (OwnFrom.and (Own.from (fun s A B row hs hg hr => ⟨hs.1, cell_kept hs.2.1 hg hr, cell_kept hs.2.2.1 hg hr, cell_kept hs.2.2.2.1 hg hr, (frozen_kept hs.2.2.2.1 hg hr).trans hs.2.2.2.2.1, cell_kept hs.2.2.2.2.2 hg hr⟩) _) (ownFrom_below (Nat.le_refl _) hlo))
    (fun cd => OwnFrom.and (Own.from (fun s A B row hs hg hr => by
      obtain ⟨e, p, i, e2, h1, h2, hc⟩ := hs
      exact ⟨e, p, i, e2, h1, h2, cell_kept hc hg hr⟩) _) (ownFrom_below (Nat.le_refl _) hlo))
    ⟨⟨by simp, b0, b1, b2, b2f, b3⟩, hB0⟩
    (fun x a' W => ∃ g, a' = { tmps := #[.agg #[.slice (some a1) N c, .slice B m c'], .int .i64 (k : Int), .pointer (some ⟨w.heap.size, 0, none⟩), .pointer (some ⟨w.heap.size + 1, 0, none⟩), .pointer (some ⟨w.heap.size + 1 + 1, 0, none⟩), undef, .pointer (some ⟨g, 0, none⟩), .pointer (some ⟨w.heap.size, 1, none⟩), .slice B m c',
      .func (.func 110) #[] #[.pointer (some ⟨w.heap.size + 1 + 1 + 1, 0, none⟩)], .int .i64 (x : Int), .agg #[.int .i64 (atf x), .slice (E x) (lnf x) (ca x)], undef, undef, undef, undef, undef, undef, undef, undef, undef, undef, undef], defers := [] } ∧
      W.cell? ⟨g, 0, none⟩ = some (.int .i64 (atf x)) ∧ W.cell? ⟨g, 1, none⟩ = some (.slice (E x) (lnf x) (ca x)))
    (fun x a' => Own.from (fun s A B row hs hg hr => by
      obtain ⟨g, e, h1, h2⟩ := hs
      exact ⟨g, e, cell_kept h1 hg hr, cell_kept h2 hg hr⟩) _) ?assign ?body ?done ?stop
  case assign =>
    rintro l pre x W K ⟨⟨hp, c0, c1, c2, c2f, c3⟩, hb⟩ hK
    have hlW : w.heap.size + 1 + 1 < W.heap.size := World.block_lt_of_cell? _ _ c2
    gi_wp2
    exact hK _ _ ((KeepsOthers.alloc _ _).from _) ⟨(Below.refl _ W).alloc hb.size _, (Lib.cell?_alloc_some _ c3).trans c3.symm⟩
      ⟨⟨hp, Lib.cell?_alloc_some _ c0, Lib.cell?_alloc_some _ c1, Lib.cell?_alloc_some _ c2, (World.frozen?_of_block (Below.heap_alloc W _ _ hlW)).trans c2f, Lib.cell?_alloc_some _ c3⟩, hb.alloc hb.size _⟩ ⟨W.heap.size, rfl, by go_simp, by go_simp⟩
  case body =>
    rintro l pre x a' W hl hloop ⟨⟨hp, c0, c1, c2, c2f, c3⟩, hb⟩ ⟨g, rfl, g0, g1⟩ hlen
    by_cases he : atf x = k
    · have he' : (atf x == (k : Int)) = true := by simpa using he
      replace he := Lib.hid he
      gi_wp2
      refine ⟨(KeepsOthers.setCell _ _ _).from _, ⟨rfl, pre, x, rfl, hp, he.out, World.cell?_setCell_same' _ _ _ (by rw [c2]; rfl)⟩, hb.setCell (by simp; omega) _⟩
    · have he' : (atf x == (k : Int)) = false := by simpa using he
      replace he := Lib.hid he
      gi_wp2
      refine ⟨KeepsFrom.refl _ _, ⟨Below.refl _ _, rfl⟩, ⟨fun j hj => (List.mem_append.1 hj).elim (hp j) (fun e => by simp at e; rw [e]; exact he.out), c0, c1, c2, c2f, c3⟩, hb⟩
  case done =>
    rintro D zs W hD rfl ⟨⟨hp, c0, c1, c2, c2f, c3⟩, hb⟩ hK
    have hcx := (hb.cell ho1).trans hc1
    have hval : Hid (rBy (Old w) w [.slice E1 x.length ce1] (seenD d k)) := Lib.hid (by
      rw [hsd.out, seenW_none]
      · exact hby1
      · intro y hy
        obtain ⟨j, hj⟩ := List.getElem?_of_mem hy
        have := hp j ((mem_downs (Nat.le_refl _)).2 ⟨by omega, by rw [← hm.out]; exact (List.getElem?_eq_some_iff.1 hj).1⟩)
        rw [hat.out] at this
        simpa [hj] using this)
    gi_wp2
    have hK' := (KeepsOthers.setCell W ⟨w.heap.size + 1 + 1, 0, none⟩ (.slice E1 x.length ce1)).same D _ hK rfl
    refine ⟨by simp, .inl ⟨_, _, rfl, run_takeDeferred hK', ?_⟩⟩
    have hc5 := cell_kept (World.cell?_setCell_same' W ⟨w.heap.size + 1 + 1, 0, none⟩ (.slice E1 x.length ce1) (by rw [c2]; rfl)) (grownBy_putObj' _ D (.deferred none)) (fun r e => by cases e; exact ⟨_, hK', rfl⟩)
    refine ⟨.slice E1 x.length ce1, ?_, _, rfl, hval.out, (hb.setCell (p := ⟨w.heap.size + 1 + 1, 0, none⟩) (by simp; omega) _).trans (belowK_b hlo _ D _ _ hD hK' rfl rfl)⟩
    simp [results, Tryz.f97, go_sem, hc5]
  case stop =>
    rintro D cd pre W hD ⟨q, hq, rfl⟩ ⟨⟨rfl, p, i, hpi, h1, h2, hc⟩, hb⟩ hK
    have hi : i ∈ downs m q := by rw [hpi]; simp
    obtain ⟨hi1, hi2⟩ := (mem_downs hq).1 hi
    have hval : Hid (rBy (Old w) w [.slice (E i) (lnf i) (ca i)] (seenD d k)) := Lib.hid (by
      have hx2 : d.2[i]? = some (d.2[i]'(by rw [hm.out]; exact hi2)) := List.getElem?_eq_getElem _
      have e1 : atf i = (d.2[i]'(by rw [hm.out]; exact hi2)).1 := by rw [hat.out]; simp [hx2]
      have e2 : lnf i = (d.2[i]'(by rw [hm.out]; exact hi2)).2.length := by rw [hln.out]; simp [hx2]
      rw [hsd.out, e2, seenW_at hx2 (by rw [← e1]; exact h2)]
      · exact (HF.out i _ hx2).2.2
      · intro j y hij hj
        have hjm : j < m := by rw [← hm.out]; exact (List.getElem?_eq_some_iff.1 hj).1
        have hjd : j ∈ downs m q := (mem_downs hq).2 ⟨by omega, hjm⟩
        rw [hpi] at hjd
        have := h1 j ((List.mem_append.1 hjd).elim id (fun e => by simp at e; omega))
        rw [hat.out] at this
        simpa [hj] using this)
    gi_wp2
    refine ⟨by simp, .inl ⟨_, _, rfl, run_takeDeferred hK, ?_⟩⟩
    have hc5 := cell_kept hc (grownBy_putObj' _ D (.deferred none)) (fun r e => by cases e; exact ⟨_, hK, rfl⟩)
    refine ⟨.slice (E i) (lnf i) (ca i), ?_, _, rfl, hval.out, hb.trans (belowK_b hlo _ D _ _ hD hK rfl rfl)⟩
    simp [results, Tryz.f97, go_sem, hc5]

theorem seen_any (v : Value) (d : Dk) (k : Nat) (hk : k < d.1.length) (w : World) (h : Dsk (Old w) w v d) :
    Calls Tryz.prog 97 #[v, .int .i64 k] w fun e W' => ∃ u, e = .returned u ∧ rBy (Old w) w [u] (seenD d k) ∧ Below w.heap.size w W' :=
  callsIn_wide.1 (seen_in Fence.wide 3 trivial trivial trivial rfl (Nat.le_refl _) v d k hk w h)
end Go.Proofs.YtmdlgnlfgfhkmaaGreat

/-
  Package dev: checkAt, Read. Conditions: those that each lemma states.
-/
namespace Go.Proofs.YtmdlgnlfgfhkmaaGreat
open Go.RowKit

/-- The error of a disk and a place. -/
def chkAt (d : Dk) (n : Int) : Int := if mayB d then (if thereB n then 0 else 2) else 8
theorem chkAt_bad {d : Dk} {n : Int} (h : mayB d = false) : chkAt d n = 8 := by simp [chkAt, h]
theorem chkAt_out {d : Dk} {n : Int} (h : mayB d = true) (h' : thereB n = false) : chkAt d n = 2 := by simp [chkAt, h, h']
theorem chkAt_ok {d : Dk} {n : Int} (h : mayB d = true) (h' : thereB n = true) : chkAt d n = 0 := by simp [chkAt, h, h']
theorem thereB_nat {n : Int} (h : thereB n = true) : ∃ k : Nat, n = k ∧ k < 256 := by
  simp only [thereB, Bool.and_eq_true, decide_eq_true_eq] at h
  exact ⟨n.toNat, by omega, by omega⟩
theorem thereB_of {k : Nat} (h : k < 256) : thereB (k : Int) = true := by
  simp only [thereB, Bool.and_eq_true, decide_eq_true_eq]
  omega

set_option maxHeartbeats 1000000 in
theorem checkAt_any (v : Value) (d : Dk) (n : Int) (w : World) (h : Dsk (Old w) w v d) : Calls Tryz.prog 58 #[v, .int .i64 n] w fun e w' => e = .returned (.int .i64 (chkAt d n)) ∧ Below w.heap.size w w' := by
  obtain ⟨a, b, rfl, _⟩ := id h
  have hB := balloc (Below.refl w.heap.size w) (.cells #[a, b] 25)
  have H := Lib.hid (h.below hB)
  cases hm : mayB d with
  | true =>
    have hc := Lib.hid (chk_ok hm)
    cases ht : thereB n with
    | true =>
      have hr := Lib.hid (chkAt_ok hm ht)
      replace hm := Lib.hid hm
      replace ht := Lib.hid ht
      go_enter Tryz.func58, Tryz.ntmps58
      go_wp2_with fail
      refine (check_any _ d _ H.out).mono ?_
      rintro e w1 ⟨rfl, hb1⟩
      rw [hc.out]
      go_wp2_with fail
      refine (there_any _ _).mono ?_
      rintro e w2 ⟨rfl, rfl⟩
      rw [ht.out]
      go_wp2_with fail
      go_ret
      exact ⟨ret_int hr.out.symm, hB.trans (hb1.mono hB.size)⟩
    | false =>
      have hr := Lib.hid (chkAt_out hm ht)
      replace hm := Lib.hid hm
      replace ht := Lib.hid ht
      go_enter Tryz.func58, Tryz.ntmps58
      go_wp2_with fail
      refine (check_any _ d _ H.out).mono ?_
      rintro e w1 ⟨rfl, hb1⟩
      rw [hc.out]
      go_wp2_with fail
      refine (there_any _ _).mono ?_
      rintro e w2 ⟨rfl, rfl⟩
      rw [ht.out]
      go_wp2_with fail
      go_ret
      exact ⟨ret_int hr.out.symm, hB.trans (hb1.mono hB.size)⟩
  | false =>
    have hc := Lib.hid (chk_bad hm)
    have hr := Lib.hid (chkAt_bad (n := n) hm)
    replace hm := Lib.hid hm
    go_enter Tryz.func58, Tryz.ntmps58
    go_wp2_with fail
    refine (check_any _ d _ H.out).mono ?_
    rintro e w1 ⟨rfl, hb1⟩
    rw [hc.out]
    go_wp2_with fail
    go_ret
    exact ⟨ret_int hr.out.symm, hB.trans (hb1.mono hB.size)⟩

set_option maxHeartbeats 1000000 in
theorem read_bad (v : Value) (d : Dk) (n : Int) (w : World) (h : Dsk (Old w) w v d) (hn : ¬ (mayB d = true ∧ thereB n = true)) :
    Calls Tryz.prog 90 #[v, .int .i64 n] w fun e w' => e = .returned (.tuple #[.slice none 0 0, .int .i64 (chkAt d n)]) ∧ Below w.heap.size w w' := by
  obtain ⟨a, b, rfl, _⟩ := id h
  have hB := balloc (Below.refl w.heap.size w) (.cells #[a, b] 25)
  have H := Lib.hid (h.below hB)
  have hc : chkAt d n = 8 ∨ chkAt d n = 2 := by
    cases hm : mayB d with
    | false => exact .inl (chkAt_bad hm)
    | true =>
      cases ht : thereB n with
      | false => exact .inr (chkAt_out hm ht)
      | true => exact absurd ⟨hm, ht⟩ hn
  clear hn
  rcases hc with hc | hc
  all_goals
    rw [hc]
    replace hc := Lib.hid hc
    go_enter Tryz.func90, Tryz.ntmps90
    go_wp2_with fail
    refine (checkAt_any _ d n _ H.out).mono ?_
    rintro e w1 ⟨rfl, hb1⟩
    rw [hc.out]
    go_wp2_with fail
    go_ret2
    exact ⟨rfl, hB.trans (hb1.mono hB.size)⟩

set_option maxHeartbeats 1000000 in
theorem read_ok (v : Value) (d : Dk) (k : Nat) (w : World) (h : Dsk (Old w) w v d) (hm : mayB d = true) (hk : k < 256) :
    Calls Tryz.prog 90 #[v, .int .i64 k] w fun e w' => ∃ u, e = .returned (.tuple #[u, .int .i64 0]) ∧ rBy (New w.heap.size w') w' [u] (seenD d k) ∧ Below w.heap.size w w' := by
  obtain ⟨a, b, rfl, ha, hb⟩ := id h
  obtain ⟨w0, hw0, f1, f2, f3, hB⟩ := box_pair w a b 25
  have H := Lib.hid (h.below hB)
  have hc := Lib.hid (chkAt_ok hm (thereB_of hk))
  have hl : k < d.1.length := by rw [(may_of hm).1]; exact hk
  have hbig : Hid ((seenD d k).length = 128) := Lib.hid (by
    obtain ⟨h1, h2, h3, h4⟩ := may_of hm
    refine seenW_length ?_ fun x hx => ?_
    · rw [List.getElem?_eq_getElem hl]
      exact h3 k _ (List.getElem?_eq_getElem hl)
    · obtain ⟨j, hj⟩ := List.getElem?_of_mem hx
      exact (h4 j x hj).2.2)
  obtain ⟨A, c, e1, _⟩ := rows_open ha
  obtain ⟨B, e, e2, _⟩ := wts_open hb
  cases e1
  cases e2
  replace f3 := Lib.hid f3
  replace hm := Lib.hid hm
  go_enter Tryz.func90, Tryz.ntmps90
  go_upto_region 1 with fail
  clear hw0
  go_wp2_with fail
  refine (checkAt_any _ d k _ H.out).mono ?_
  rintro e w1 ⟨rfl, hb1⟩
  rw [hc.out]
  have H1 := Lib.hid (H.out.below hb1)
  have g1 := (hb1.cell (p := ⟨w.heap.size, 0, none⟩) (by rw [f3.out]; simp)).trans f1
  have g2 := (hb1.cell (p := ⟨w.heap.size, 1, none⟩) (by rw [f3.out]; simp)).trans f2
  have hB1 := hB.trans (hb1.mono hB.size)
  clear f1 f2 hB hb1
  go_wp2_with fail
  refine (seen_any _ d k hl _ H1.out).mono ?_
  rintro e w2 ⟨u, rfl, hu, hb2⟩
  have hu2 := stab_by.old hu hb2
  have hB2 := hB1.trans (hb2.mono hB1.size)
  go_wp2_with fail
  refine (clone_by u _ _ (by rw [hbig.out]; omega) hu2).mono ?_
  rintro e w3 ⟨x, rfl, hx, hb3⟩
  have hfin := Lib.hid (stab_by.mono hx hB2.size)
  have hB3 := hB2.trans (hb3.mono hB2.size)
  clear hx hu hu2
  go_wp2_with fail
  go_ret2
  exact ⟨x, rfl, hfin.out, hB3⟩
end Go.Proofs.YtmdlgnlfgfhkmaaGreat

/-
  Package dev: Write. Conditions: those that each lemma states.
-/
namespace Go.Proofs.YtmdlgnlfgfhkmaaGreat
open Go.RowKit

/-- The error of a write. -/
def wErr (d : Dk) (n : Int) (xs : List UInt8) : Int := if mayB d then (if thereB n then (if xs.length = 128 then (if d.2.length = 4096 then 9 else 0) else 3) else 2) else 8
theorem wErr_at {d : Dk} {n : Int} {xs : List UInt8} (h : chkAt d n ≠ 0) : wErr d n xs = chkAt d n := by
  unfold wErr chkAt at *
  split
  · split
    · simp_all
    · rfl
  · rfl

set_option maxHeartbeats 2000000 in
theorem write_bad (v u : Value) (d : Dk) (n : Int) (xs : List UInt8) (w : World) (h : Dsk (Old w) w v d) (hu : rBy (Old w) w [u] xs) (he : wErr d n xs ≠ 0) :
    Calls Tryz.prog 36 #[v, .int .i64 n, u] w fun e w' => e = .returned (.tuple #[.agg #[.slice none 0 0, .slice none 0 0], .int .i64 (wErr d n xs)]) ∧ Below w.heap.size w w' := by
  obtain ⟨a, b, rfl, _⟩ := id h
  obtain ⟨w2, hw2, f1, f2, f3, hsz, hB⟩ := box_two w a b #[.slice none 0 0, .slice none 0 0] 25
  have H := Lib.hid (h.below hB)
  obtain ⟨A, c, B, e, e1, _⟩ := h.open
  cases e1
  obtain ⟨E, ce, rfl, _⟩ := rBy_open hu
  clear h hu
  replace hsz := Lib.hid hsz
  cases hc : chkAt d n == 0 with
  | false =>
    have hc' : chkAt d n ≠ 0 := by simpa using hc
    have hw := Lib.hid (wErr_at (xs := xs) hc')
    obtain ⟨q, hq⟩ : ∃ q, chkAt d n = q := ⟨_, rfl⟩
    rw [hw.out, hq]
    rw [hq] at hc
    replace hq := Lib.hid hq
    have hc2 : (q != 0) = true := by simpa using hc
    clear he hc'
    go_enter Tryz.func36, Tryz.ntmps36
    go_upto_region 1 with fail
    clear hw2
    go_wp2_with fail
    refine (checkAt_any _ d n _ H.out).mono ?_
    rintro e w3 ⟨rfl, hb3⟩
    rw [hq.out]
    have f4 := (hb3.block (w.heap.size + 1) (by rw [hsz.out]; omega)).trans f3
    obtain ⟨k1, k2, k3, k4⟩ := two_cells f4
    obtain ⟨W9, hW9, g9, gr9, gs9⟩ := put_two (u := .slice none 0 0) (v := .slice none 0 0) f4
    obtain ⟨k5, k6, _, _⟩ := two_cells g9
    have hB9 := (hB.trans (hb3.mono hB.size)).grown gr9 (Nat.le_trans hB.size hb3.size) (fun q e => by cases e; omega)
    replace f4 := Lib.hid f4
    replace f3 := Lib.hid f3
    replace g9 := Lib.hid g9
    clear f1 f2
    go_wp2_with fail
    exact bodyPost_ret (v := .tuple #[.agg #[.slice none 0 0, .slice none 0 0], .int .i64 q]) (by simp [results, Tryz.results36, go_sem, k5, k6]) rfl ⟨rfl, hB9⟩
  | true =>
    have hc' : chkAt d n = 0 := by simpa using hc
    clear hc
    have hmt : mayB d = true ∧ thereB n = true := by
      unfold chkAt at hc'
      cases h1 : mayB d <;> cases h2 : thereB n <;> simp [h1, h2] at hc' ⊢
    replace hc' := Lib.hid hc'
    by_cases h8 : xs.length = 128
    · have h9 : d.2.length = 4096 := by
        unfold wErr at he
        simp [hmt, h8] at he
        exact he
      have hw := Lib.hid (show wErr d n xs = 9 by simp [wErr, hmt, h8, h9])
      rw [hw.out]
      have e8 : ((xs.length : Int) != 128) = false := by rw [h8]; rfl
      have e9 : ((d.2.length : Int) == 4096) = true := by rw [h9]; rfl
      replace h8 := Lib.hid h8
      replace h9 := Lib.hid h9
      clear he hmt
      go_enter Tryz.func36, Tryz.ntmps36
      go_upto_region 1 with fail
      clear hw2
      go_wp2_with fail
      refine (checkAt_any _ d n _ H.out).mono ?_
      rintro e w3 ⟨rfl, hb3⟩
      rw [hc'.out]
      have f4 := (hb3.block (w.heap.size + 1) (by rw [hsz.out]; omega)).trans f3
      have g2 := (hb3.cell (p := ⟨w.heap.size, 1, none⟩) (by rw [hsz.out]; simp)).trans f2
      obtain ⟨k1, k2, k3, k4⟩ := two_cells f4
      obtain ⟨W9, hW9, g9, gr9, gs9⟩ := put_two (u := .slice none 0 0) (v := .slice none 0 0) f4
      obtain ⟨k5, k6, _, _⟩ := two_cells g9
      have hB9 := (hB.trans (hb3.mono hB.size)).grown gr9 (Nat.le_trans hB.size hb3.size) (fun q e => by cases e; omega)
      replace f4 := Lib.hid f4
      replace f3 := Lib.hid f3
      replace g9 := Lib.hid g9
      clear f1 f2
      go_wp2_with fail
      exact bodyPost_ret (v := .tuple #[.agg #[.slice none 0 0, .slice none 0 0], .int .i64 9]) (by simp [results, Tryz.results36, go_sem, k5, k6]) rfl ⟨rfl, hB9⟩
    · have hw := Lib.hid (show wErr d n xs = 3 by simp [wErr, hmt, h8])
      rw [hw.out]
      have e8 : ((xs.length : Int) != 128) = true := by simp; omega
      clear he hmt h8
      go_enter Tryz.func36, Tryz.ntmps36
      go_upto_region 1 with fail
      clear hw2
      go_wp2_with fail
      refine (checkAt_any _ d n _ H.out).mono ?_
      rintro e w3 ⟨rfl, hb3⟩
      rw [hc'.out]
      have f4 := (hb3.block (w.heap.size + 1) (by rw [hsz.out]; omega)).trans f3
      obtain ⟨k1, k2, k3, k4⟩ := two_cells f4
      obtain ⟨W9, hW9, g9, gr9, gs9⟩ := put_two (u := .slice none 0 0) (v := .slice none 0 0) f4
      obtain ⟨k5, k6, _, _⟩ := two_cells g9
      have hB9 := (hB.trans (hb3.mono hB.size)).grown gr9 (Nat.le_trans hB.size hb3.size) (fun q e => by cases e; omega)
      replace f4 := Lib.hid f4
      replace f3 := Lib.hid f3
      replace g9 := Lib.hid g9
      clear f1 f2
      go_wp2_with fail
      exact bodyPost_ret (v := .tuple #[.agg #[.slice none 0 0, .slice none 0 0], .int .i64 3]) (by simp [results, Tryz.results36, go_sem, k5, k6]) rfl ⟨rfl, hB9⟩

set_option maxRecDepth 100000 in
set_option maxHeartbeats 4000000 in
theorem write_ok (v u : Value) (d : Dk) (k : Nat) (xs : List UInt8) (w : World) (h : Dsk (Old w) w v d) (hu : rBy (Old w) w [u] xs) (hm : mayB d = true) (hk : k < 256) (hl : xs.length = 128) (hf : d.2.length < 4096) :
    Calls Tryz.prog 36 #[v, .int .i64 k, u] w fun e w' => ∃ x, e = .returned (.tuple #[x, .int .i64 0]) ∧ Dsk (New w.heap.size w') w' x (d.1, d.2 ++ [((k : Int), xs)]) ∧ Below w.heap.size w w' := by
  obtain ⟨i0, hi, hz0, hz1, hz2⟩ := info_parts wts_info0
  obtain ⟨a, b, rfl, _⟩ := id h
  obtain ⟨w2, hw2, f1, f2, f3, hsz, hB⟩ := box_two w a b #[.slice none 0 0, .slice none 0 0] 25
  have H := Lib.hid (h.below hB)
  obtain ⟨A, c, B, e, e1, _⟩ := h.open
  cases e1
  have hu2 := stab_by.old hu hB
  obtain ⟨E, ce, rfl, _⟩ := rBy_open hu
  clear h hu
  replace hsz := Lib.hid hsz
  have hc := Lib.hid (chkAt_ok hm (thereB_of hk))
  have hsm := Lib.hid (small_of_may hm)
  have e8 : ((xs.length : Int) != 128) = false := by rw [hl]; rfl
  have e9 : ((d.2.length : Int) == 4096) = false := by simp; omega
  replace hm := Lib.hid hm
  replace hl := Lib.hid hl
  go_enter Tryz.func36, Tryz.ntmps36
  go_upto_region 1 with fail
  clear hw2
  go_wp2_with fail
  refine (checkAt_any _ d k _ H.out).mono ?_
  rintro e w3 ⟨rfl, hb3⟩
  rw [hc.out]
  have f4 := (hb3.block (w.heap.size + 1) (by rw [hsz.out]; omega)).trans f3
  have g1 := (hb3.cell (p := ⟨w.heap.size, 0, none⟩) (by rw [hsz.out]; simp)).trans f1
  have g2 := (hb3.cell (p := ⟨w.heap.size, 1, none⟩) (by rw [hsz.out]; simp)).trans f2
  have H3 := Lib.hid (H.out.below hb3)
  have hu3 := stab_by.old hu2 hb3
  have hB3 := hB.trans (hb3.mono hB.size)
  have hl3 : w.heap.size + 2 ≤ w3.heap.size := by have := hsz.out; have := hb3.size; omega
  replace f4 := Lib.hid f4
  clear f1 f2 f3 hu2 H hB hb3
  go_wp2_with fail
  refine (twin_own _ d _ hsm.out H3.out).mono ?_
  rintro e w4 ⟨x, rfl, ⟨a4, A4, c4, ps, rfl, hx1, hx2, hx3, hx4⟩, hb4⟩
  obtain ⟨R4, r4, er, _⟩ := rows_open hx1
  cases er
  have hu4 := stab_by.old hu3 hb4
  have f5 := (hb4.block (w.heap.size + 1) (by omega)).trans f4.out
  have hB4 := hB3.trans (hb4.mono hB3.size)
  have hl4 : w.heap.size + 2 ≤ w4.heap.size := Nat.le_trans hl3 hb4.size
  obtain ⟨wb, hwb, b1, b3, hbb⟩ := box_pair' w4 (.slice R4 d.1.length r4) (.slice A4 d.2.length c4) 25
  have hu5 := stab_by.old hu4 hbb
  have hA4 : Hid (∀ q, A4.map (·.block) = some q → q < w4.heap.size ∧ w3.heap.size ≤ q) := Lib.hid fun q e => by
    have := hx2.lt q (by rw [hx3]; exact e)
    exact ⟨this.2, this.1⟩
  have hownb : wb.drew.ownsRow w3.heap.size 70 2 (.slice A4 d.2.length c4) d.2.length (wcells ps) := own_below hx2 hbb.drew
  have f6 := (hbb.block (w.heap.size + 1) (by omega)).trans f5
  obtain ⟨_, s1, s2, s3⟩ := two_cells b1
  have hB5 := hB4.trans (hbb.mono hB4.size)
  replace b1 := Lib.hid b1
  replace hownb := Lib.hid hownb
  replace f5 := Lib.hid f5
  replace f6 := Lib.hid f6
  replace hx1 := Lib.hid hx1
  replace hx2 := Lib.hid hx2
  replace hx4 := Lib.hid hx4
  replace hx3 := Lib.hid hx3
  replace b3 := Lib.hid b3
  have hub : Hid (rBy (Old wb) wb [.slice E xs.length ce] xs) := Lib.hid hu5
  clear hu3 hu4 hu5
  have hd2 : d.2.length < 4096 := hf
  go_upto_region 9 with fail
  clear hwb
  have p1 : xs.length ≤ 140737488355328 := by rw [hl.out]; omega
  refine wp_region_tails (by kernel_rfl) 7 (fun W => Below wb.heap.size wb W) (fun i => match i with
      | 4 => some (fun v W => rBy (New wb.heap.size W) W [v] xs)
      | 5 => some (fun v W => ∃ Y cy, v = .agg #[.int .i64 (k : Int), .slice Y xs.length cy] ∧ rBy (New wb.heap.size W) W [.slice Y xs.length cy] xs)
      | 6 => some (fun v W => ∃ g Y cy, v = .slice (some ⟨g, 0, none⟩) 1 1 ∧ wb.heap.size ≤ g ∧ W.heap[g]? = some (.cells #[.int .i64 (k : Int), .slice Y xs.length cy] 70 (0, 0)) ∧ rBy (New wb.heap.size W) W [.slice Y xs.length cy] xs)
      | _ => none) (fun _ => none) (by decide) (by kernel_rfl) (by kernel_rfl) (Below.refl _ _).drew (fun w w' h hb => h.trans (hb.mono h.size)) ?tst ?_
  case tst =>
    intro j φ x W W' hp hx hb
    match j, hp with
    | 4, hp => cases hp; exact stab_by.new hx (Nat.le_refl _) hb
    | 5, hp =>
      cases hp
      obtain ⟨Y, cy, e1, e2⟩ := hx
      exact ⟨Y, cy, e1, stab_by.new e2 (Nat.le_refl _) hb⟩
    | 6, hp =>
      cases hp
      obtain ⟨g, Y, cy, e1, e2, e3, e4⟩ := hx
      exact ⟨g, Y, cy, e1, e2, (hb.block g (Array.getElem?_eq_some_iff.1 e3).1).trans e3, stab_by.new e4 (Nat.le_refl _) hb⟩
  simp only [List.take_succ_cons, List.take_zero, List.drop_succ_cons, List.drop_zero]
  repeat (first
    | (refine wpAs_skip rfl ?_; simp only [Act.put, List.setIfInBounds_toArray, List.set_cons_zero, List.set_cons_succ])
    | (refine wpAs_pure (v := ?_) rfl rfl ?_ ?_; rotate_left; (intro W hC hE; clear hE; (have z1 := (hC.cell (p := ⟨w4.heap.size, 1, none⟩) s3).trans s1); clear hC; go_simp; done); simp only [Act.put, List.setIfInBounds_toArray, List.set_cons_zero, List.set_cons_succ])
    | (refine wpAs_pure (v := ?_) rfl rfl ?_ ?_; rotate_left; (intro W hC hE; clear hE; (have z1 := (hC.cell (p := ⟨w4.heap.size, 1, none⟩) s3).trans s1); clear hC; go_simp; with_reducible rfl); simp only [Act.put, List.setIfInBounds_toArray, List.set_cons_zero, List.set_cons_succ]))
  refine wpAs_act rfl rfl ?_ ?_
  · intro W hC hE
    clear hE
    refine does_enter (f := 19) (args := #[.slice E xs.length ce]) ?_ ?_
    · go_simp
    · refine (clone_by _ xs W p1 (stab_by.old hub.out hC)).mono ?_
      rintro e W' ⟨u, rfl, ho, hb⟩
      exact ⟨_, rfl, stab_by.mono ho hC.size, hb⟩
  simp only [Act.put, List.setIfInBounds_toArray, List.set_cons_zero, List.set_cons_succ, envAdd]
  intro x32
  refine wpAs_act rfl rfl ?_ ?_
  · intro W hC hE
    have h32 := hE.1 rfl
    obtain ⟨Y, cy, rfl, _⟩ := rBy_open h32
    clear hE hC
    have h32' := Lib.hid h32
    clear h32
    go_simp
    exact ⟨⟨Y, cy, rfl, h32'.out⟩, Below.refl _ _⟩
  simp only [Act.put, List.setIfInBounds_toArray, List.set_cons_zero, List.set_cons_succ, envAdd]
  intro x33
  refine wpAs_act rfl rfl ?_ ?_
  · intro W hC hE
    obtain ⟨Y, cy, rfl, h33⟩ := hE.1 rfl
    have hsz' := hC.size
    have h33' := Lib.hid (stab_by.new h33 (Nat.le_refl _) ((Below.refl W.heap.size W).alloc (Nat.le_refl _) (.cells #[.int .i64 (k : Int), .slice Y xs.length cy] 70)))
    clear hE hC h33
    go_simp
    exact ⟨⟨W.heap.size, rfl, hsz', Y, cy, heap_alloc_new _ _, h33'.out⟩, (Below.refl _ _).alloc (Nat.le_refl _) _⟩
  simp only [Act.put, List.setIfInBounds_toArray, List.set_cons_zero, List.set_cons_succ, envAdd]
  intro x34
  refine wpAs_end fun W hC hE => ?_
  obtain ⟨⟨g, Y, cy, rfl, hg, hg3, hy⟩, _⟩ := hE
  have hownW := own_below hx2.out (hbb.trans (hC.mono hbb.size))
  have hbkW := (hC.block w4.heap.size s3).trans b1.out
  obtain ⟨_, z1, z2, z3⟩ := two_cells hbkW
  obtain ⟨y1, y2, _, y4⟩ := two_cells hg3
  have hBW := hB5.trans (hC.mono hB5.size)
  have hlW : w3.heap.size ≤ W.heap.size := Nat.le_trans hb4.size (by have := b3.out; omega)
  have p2 : d.2.length + 1 ≤ maxLen := by unfold maxLen; omega
  have p3 : (d.2.length + 1) * 32 ≤ 140737488355328 := by omega
  have hlc := hy
  replace hbkW := Lib.hid hbkW
  replace hg3 := Lib.hid hg3
  replace hlc := Lib.hid hlc
  clear hy
  go_wp2_with (at_builtin; refine wpList_append_own _ rfl _ _ 23 rfl w3.heap.size 70 i0 (.agg #[.int .i64 0, .slice none 0 0]) 2 32 Tryz.underlying23 hi hz0 hz1 hz2 rfl (by decide) _ _ _ rfl hownW ⟨g, 0, none⟩ 1 1 [.int .i64 (k : Int), .slice Y xs.length cy] rfl rfl ?d1 ?d2 p2 p3 hlW ?_)
  case d1 => exact World.news_of_block (cs := #[.int .i64 (k : Int), .slice Y xs.length cy]) hg3.out
  case d2 =>
    intro u hu
    simp at hu
    rcases hu with rfl | rfl <;> rfl
  intro v' w1 hown' hgrow _
  obtain ⟨A5, c5, rfl, q1, q2, q3, q4⟩ := own_any hown'
  have p8 : some w4.heap.size ≠ (Value.slice A4 d.2.length c4).ownBlock := by rw [hx3.out]; exact fun e => absurd (hA4.out _ e.symm).1 (Nat.lt_irrefl _)
  have zz := (hgrow.block w4.heap.size z3 p8).trans hbkW.out
  obtain ⟨y5, y6, y7, y8⟩ := two_cells zz
  obtain ⟨W6, hW6, g6, gr6, gs6⟩ := put_snd (u := .slice A5 (d.2.length + 1) c5) zz
  obtain ⟨y9, y10, _, _⟩ := two_cells g6
  have hrow : ∀ q, (Value.slice A4 d.2.length c4).ownBlock = some q → w3.heap.size ≤ q := fun q e => (hA4.out q (by rw [← hx3.out]; exact e)).2
  have hl3' : w.heap.size + 2 ≤ w3.heap.size := hl3
  have fz := ((gr6.block (w.heap.size + 1) (by have := hgrow.size; omega) (fun e => by simp only [Option.some.injEq] at e; omega)).trans ((hgrow.block (w.heap.size + 1) (by omega) (fun e => by have := hrow _ e.symm; omega)).trans ((hC.block (w.heap.size + 1) (by have := b3.out; omega)).trans f6.out)))
  obtain ⟨y11, y12, y13, _⟩ := two_cells fz
  obtain ⟨W9, hW9, g9, gr9, gs9⟩ := put_two (u := .slice R4 d.1.length r4) (v := .slice A5 (d.2.length + 1) c5) fz
  obtain ⟨k5, k6, _, _⟩ := two_cells g9
  have hB1 := hBW.grown hgrow hBW.size (fun q e => by have := hrow q e; omega)
  have hB6 := hB1.grown gr6 hB1.size (fun q e => by cases e; omega)
  have hB9 := hB6.grown gr9 hB6.size (fun q e => by cases e; omega)
  have hfin := Lib.hid (show Dsk (New w.heap.size W9) W9 (.agg #[.slice R4 d.1.length r4, .slice A5 (d.2.length + 1) c5]) (d.1, d.2 ++ [((k : Int), xs)]) from by
    have hne1 := own_not hown' zz (by decide)
    have hown6 := hown'.kept gr6 (.inr (Ne.symm hne1))
    have hne2 := own_not hown6 fz (by decide)
    have hown9 := own_low (hown6.kept gr9 (.inr (Ne.symm hne2))) (show w.heap.size ≤ w3.heap.size by omega)
    have hsame : ∀ b, w3.heap.size ≤ b → b < w4.heap.size → A4.map (·.block) ≠ some b → W9.heap[b]? = w4.heap[b]? := fun b h1 h2 h3 => by
      have hbW : b < W.heap.size := by have := b3.out; have := hC.size; omega
      rw [gr9.block b (by have := gs6; have := hgrow.size; omega) (fun e => by simp only [Option.some.injEq] at e; omega), gr6.block b (Nat.lt_of_lt_of_le hbW hgrow.size) (fun e => by simp only [Option.some.injEq] at e; omega),
        hgrow.block b hbW (fun e => h3 (by rw [← hx3.out]; exact e.symm)), hC.block b (by have := b3.out; omega), hbb.block b h2]
    have hst9 : ∀ p v, NewBut w3.heap.size A4 w4 p → w4.cell? p = some v → New w.heap.size W9 p ∧ W9.cell? p = some v := fun p v hp hc => by
      have hs := hsame p.block hp.1.1 hp.1.2.1 hp.2
      refine ⟨⟨by have := hp.1.1; omega, ?_, (World.frozen?_of_block hs).trans hp.1.2.2⟩, (World.cell?_of_block hs).trans hc⟩
      have := hp.1.2.1
      have := gs9
      have := gs6
      have := hgrow.size
      have := hC.size
      have := b3.out
      omega
    refine ⟨_, _, rfl, stab_sl stab_by _ _ _ _ _ _ hst9 hx1.out, ?_⟩
    have e1 : wcells ps ++ [.int .i64 (k : Int), .slice Y xs.length cy] = wcells (ps ++ [((k : Int), .slice Y xs.length cy)]) := by rw [wcells_append]; rfl
    rw [e1] at hown9
    have hpl : ps.length = d.2.length := by have := hx2.out.1; rw [wcells_length] at this; omega
    have hlen9 : (d.2 ++ [((k : Int), xs)]).length = d.2.length + 1 := by simp
    have h9 := own_wts hown9 hlen9 fun i p x hp hx => ?_
    · exact h9
    rcases Nat.lt_or_ge i ps.length with hi | hi
    · rw [List.getElem?_append_left hi] at hp
      rw [List.getElem?_append_left (by omega)] at hx
      obtain ⟨c1, c2, c3⟩ := hx4.out i p x hp hx
      exact ⟨c1, stab_by _ _ _ _ _ _ hst9 c2, c3⟩
    · rw [List.getElem?_append_right hi] at hp
      rw [List.getElem?_append_right (by omega)] at hx
      have hj0 : i - ps.length = 0 := by
        have := (List.getElem?_eq_some_iff.1 hp).1
        simp at this
        omega
      rw [hj0] at hp
      rw [← hpl, hj0] at hx
      simp at hp hx
      subst hp
      subst hx
      refine ⟨rfl, stab_by.mono (stab_by.grown (stab_by.grown (stab_by.grown hlc.out hgrow (fun q e => ?_)) gr6 (fun q e => ?_)) gr9 (fun q e => ?_)) (by have := b3.out; omega), (show (-9223372036854775808 : Int) ≤ (k : Int) by omega), (show (k : Int) ≤ 9223372036854775807 by omega)⟩
      · have := (hA4.out q (by rw [← hx3.out]; exact e)).1
        have := b3.out
        omega
      · simp only [Option.some.injEq] at e
        have := b3.out
        omega
      · simp only [Option.some.injEq] at e
        have := b3.out
        omega)
  clear hx1 hx2 hx4
  go_wp2_with fail
  exact bodyPost_ret (v := .tuple #[.agg #[.slice R4 d.1.length r4, .slice A5 (d.2.length + 1) c5], .int .i64 0]) (by simp [results, Tryz.results36, go_sem, k5, k6]) rfl ⟨_, rfl, hfin.out, hB9⟩
end Go.Proofs.YtmdlgnlfgfhkmaaGreat

/-
  Package dev: Barrier. Conditions: those that each lemma states.
-/
namespace Go.Proofs.YtmdlgnlfgfhkmaaGreat
open Go.RowKit

def settledD (d : Dk) : Dk := ((List.range 256).map fun k => seenD d k, [])
theorem seenD_length {d : Dk} {k : Nat} (hm : mayB d = true) (hk : k < 256) : (seenD d k).length = 128 := by
  obtain ⟨h1, h2, h3, h4⟩ := may_of hm
  refine seenW_length ?_ fun x hx => ?_
  · rw [List.getElem?_eq_getElem (by omega)]
    exact h3 k _ (List.getElem?_eq_getElem (by omega))
  · obtain ⟨j, hj⟩ := List.getElem?_of_mem hx
    exact (h4 j x hj).2.2

end Go.Proofs.YtmdlgnlfgfhkmaaGreat

/-
  Package dev: Crash. Conditions: those that each lemma states.
-/
namespace Go.Proofs.YtmdlgnlfgfhkmaaGreat
open Go.RowKit

def keptD (d : Dk) (ks : List Bool) : Dk := (d.1, markedW d.2 ks)
theorem markedW_mem : ∀ {ws : List Wt} {ks : List Bool} {x : Wt}, x ∈ markedW ws ks → x ∈ ws
  | [], ks, x, h => by cases ks <;> simp [markedW] at h
  | y :: r, [], x, h => by simp [markedW] at h
  | y :: r, k :: ks, x, h => by
    cases k with
    | true =>
      simp only [markedW, if_true, List.mem_cons] at h
      rcases h with rfl | h
      · exact List.mem_cons.2 (.inl rfl)
      · exact List.mem_cons.2 (.inr (markedW_mem h))
    | false =>
      simp only [markedW] at h
      exact List.mem_cons.2 (.inr (markedW_mem h))
theorem may_kept {d : Dk} {ks : List Bool} (h : mayB d = true) : mayB (keptD d ks) = true := by
  obtain ⟨h1, h2, h3, h4⟩ := may_of h
  have hl := markedW_length d.2 ks
  refine may_mk h1 (by simp only [keptD]; omega) ?_ ?_
  · rw [List.all_eq_true]
    intro x hx
    obtain ⟨j, hj⟩ := List.getElem?_of_mem hx
    simp [byB, h3 j x hj]
  · rw [List.all_eq_true]
    intro x hx
    obtain ⟨j, hj⟩ := List.getElem?_of_mem (markedW_mem hx)
    obtain ⟨a, b, c⟩ := h4 j x hj
    exact wtB_yes a b c

end Go.Proofs.YtmdlgnlfgfhkmaaGreat

/-
  The laws' own functions of layer 3: full, alive. Conditions: those that each lemma states.
-/
namespace Go.Proofs.YtmdlgnlfgfhkmaaGreat
open Go.RowKit

theorem byte_info0 : (Tryz.prog.info? 5).map (fun i => (i.zero, i.size, i.bytes)) = some (some (.int .u8 0), 1, 1) := by kernel_rfl
theorem zero_len1 : zeroD.1.length = 256 := List.length_replicate
theorem zero_len2 : zeroD.2.length = 0 := rfl
theorem zero_at {k : Nat} (hk : k < 256) : zeroD.1[k]? = some (List.replicate 128 0) := by
  rw [show zeroD.1 = List.replicate 256 (List.replicate 128 0) from rfl, List.getElem?_replicate, if_pos hk]
theorem may_zero : mayB zeroD = true := by
  refine may_mk zero_len1 (by rw [zero_len2]; omega) ?_ rfl
  rw [List.all_eq_true]
  intro x hx
  obtain ⟨j, hj⟩ := List.getElem?_of_mem hx
  have hjl := (List.getElem?_eq_some_iff.1 hj).1
  rw [zero_len1] at hjl
  rw [zero_at hjl] at hj
  cases hj
  exact decide_eq_true List.length_replicate
/-- A disk with one write more. -/
def wrD (d : Dk) (k : Nat) (xs : List UInt8) : Dk := (d.1, d.2 ++ [((k : Int), xs)])
theorem wrD_fst (d : Dk) (k : Nat) (xs : List UInt8) : (wrD d k xs).1 = d.1 := rfl
theorem wrD_len (d : Dk) (k : Nat) (xs : List UInt8) : (wrD d k xs).2.length = d.2.length + 1 := by simp [wrD]
theorem may_write {d : Dk} {k : Nat} {xs : List UInt8} (h : mayB d = true) (hk : k < 256) (hl : xs.length = 128) (hf : d.2.length < 4096) : mayB (wrD d k xs) = true := by
  obtain ⟨h1, h2, h3, h4⟩ := may_of h
  refine may_mk h1 (by rw [wrD_len]; omega) ?_ ?_
  · rw [List.all_eq_true]
    intro x hx
    obtain ⟨j, hj⟩ := List.getElem?_of_mem hx
    exact decide_eq_true (h3 j x hj)
  · rw [List.all_eq_true]
    intro x hx
    rcases List.mem_append.1 hx with hx | hx
    · obtain ⟨j, hj⟩ := List.getElem?_of_mem hx
      obtain ⟨a, b, c⟩ := h4 j x hj
      exact wtB_yes a b c
    · obtain rfl := List.mem_singleton.1 hx
      exact wtB_yes (show (0 : Int) ≤ (k : Int) by omega) (show (k : Int) < 256 by omega) hl
theorem seenD_write {d : Dk} {k : Nat} {xs : List UInt8} : seenD (wrD d k xs) k = xs := by
  simp [wrD, seenD, seenW]
theorem seenD_write_ne {d : Dk} {k j : Nat} {xs : List UInt8} (h : j ≠ k) : seenD (wrD d k xs) j = seenD d j := by
  have : ¬ (k : Int) = j := by omega
  simp [wrD, seenD, seenW, this]
theorem write_wr (v u : Value) (d : Dk) (k : Nat) (xs : List UInt8) (w : World) (h : Dsk (Old w) w v d) (hu : rBy (Old w) w [u] xs) (hm : mayB d = true) (hk : k < 256) (hl : xs.length = 128) (hf : d.2.length < 4096) :
    Calls Tryz.prog 36 #[v, .int .i64 k, u] w fun e w' => ∃ x, e = .returned (.tuple #[x, .int .i64 0]) ∧ Dsk (New w.heap.size w') w' x (wrD d k xs) ∧ Below w.heap.size w w' := write_ok v u d k xs w h hu hm hk hl hf

end Go.Proofs.YtmdlgnlfgfhkmaaGreat

/-
  Package dev: Read, Write, Barrier, Crash at whatever arguments; a disk in its box. Conditions: those that each lemma states.
-/
namespace Go.Proofs.YtmdlgnlfgfhkmaaGreat
open Go.RowKit

/-- A disk that lies in a box. -/
def Bx (w : World) (g : Nat) (A : Option Addr) (c : Nat) (B : Option Addr) (e : Nat) (d : Dk) : Prop := w.heap[g]? = some (.cells #[.slice A d.1.length c, .slice B d.2.length e] 25 (0, 0)) ∧ Dsk (Old w) w (.agg #[.slice A d.1.length c, .slice B d.2.length e]) d
theorem Bx.below {w w' : World} {g : Nat} {A : Option Addr} {c : Nat} {B : Option Addr} {e : Nat} {d : Dk} (h : Bx w g A c B e d) (hb : Below w.heap.size w w') : Bx w' g A c B e d :=
  ⟨(hb.block g (Array.getElem?_eq_some_iff.1 h.1).1).trans h.1, h.2.below hb⟩
theorem Bx.grown {w w' : World} {g q : Nat} {A : Option Addr} {c : Nat} {B : Option Addr} {e : Nat} {d : Dk} (h : Bx w g A c B e d) (hb : w.grownBy w' (some q)) (hq : g ≠ q) (hd : Dsk (Old w') w' (.agg #[.slice A d.1.length c, .slice B d.2.length e]) d) : Bx w' g A c B e d :=
  ⟨(hb.block g (Array.getElem?_eq_some_iff.1 h.1).1 (fun e => hq (by cases e; rfl))).trans h.1, hd⟩
theorem Bx.cells {w : World} {g : Nat} {A : Option Addr} {c : Nat} {B : Option Addr} {e : Nat} {d : Dk} (h : Bx w g A c B e d) : w.cell? ⟨g, 0, none⟩ = some (.slice A d.1.length c) ∧ w.cell? ⟨g, 1, none⟩ = some (.slice B d.2.length e) ∧ (∀ o, w.frozen? ⟨g, o, none⟩ = false) ∧ g < w.heap.size := two_cells h.1
theorem Bx.dsk {w : World} {g : Nat} {A : Option Addr} {c : Nat} {B : Option Addr} {e : Nat} {d : Dk} (h : Bx w g A c B e d) : Dsk (Old w) w (.agg #[.slice A d.1.length c, .slice B d.2.length e]) d := h.2
/-- A new box. -/
theorem box_new {w : World} {A : Option Addr} {c : Nat} {B : Option Addr} {e : Nat} {d : Dk} (h : Dsk (Old w) w (.agg #[.slice A d.1.length c, .slice B d.2.length e]) d) :
    ∃ w1, w.alloc (.cells #[.slice A d.1.length c, .slice B d.2.length e] 25) = w1 ∧ Bx w1 w.heap.size A c B e d ∧ Below w.heap.size w w1 ∧ w1.heap.size = w.heap.size + 1 := by
  have hb := (Below.refl w.heap.size w).alloc (Nat.le_refl _) (.cells #[.slice A d.1.length c, .slice B d.2.length e] 25)
  exact ⟨_, rfl, ⟨heap_alloc_new _ _, h.below hb⟩, hb, by simp⟩

def emptyD : Dk := ([], [])
theorem may_empty : mayB emptyD = false := rfl
/-- What a read tells. -/
def rdB (d : Dk) (n : Int) : List UInt8 := if thereB n then seenD d n.toNat else []
def rdE (n : Int) : Int := if thereB n then 0 else 2
theorem rBy_nil (w : World) : rBy (Old w) w [.slice none 0 0] [] := ⟨none, 0, rfl, by simp, by omega, fun i x h => by simp at h⟩
theorem read_gen (v : Value) (d : Dk) (n : Int) (w : World) (h : Dsk (Old w) w v d) (hm : mayB d = true) :
    Calls Tryz.prog 90 #[v, .int .i64 n] w fun e w' => ∃ E c, e = .returned (.tuple #[.slice E (rdB d n).length c, .int .i64 (rdE n)]) ∧ rBy (Old w') w' [.slice E (rdB d n).length c] (rdB d n) ∧ Below w.heap.size w w' := by
  cases ht : thereB n with
  | true =>
    obtain ⟨k, rfl, hk⟩ := thereB_nat ht
    refine (read_ok v d k w h hm hk).mono ?_
    rintro e w' ⟨u, rfl, hu, hb⟩
    have e1 : rdB d (k : Int) = seenD d k := by simp [rdB, ht]
    have e2 : rdE (k : Int) = 0 := by simp [rdE, ht]
    obtain ⟨E, c, rfl, _⟩ := rBy_open hu
    rw [e1, e2]
    exact ⟨E, c, rfl, stab_by.drop hu, hb⟩
  | false =>
    refine (read_bad v d n w h (by simp [ht])).mono ?_
    rintro e w' ⟨rfl, hb⟩
    have e1 : rdB d n = [] := by simp [rdB, ht]
    have e2 : rdE n = 2 := by simp [rdE, ht]
    rw [e1, e2, chkAt_out hm ht]
    exact ⟨none, 0, rfl, rBy_nil _, hb⟩
/-- What a write leaves. -/
def wrR (d : Dk) (n : Int) (xs : List UInt8) : Dk := if wErr d n xs = 0 then wrD d n.toNat xs else emptyD
theorem write_fine {d : Dk} {n : Int} {xs : List UInt8} (h : wErr d n xs = 0) (_ : mayB d = true ∨ True) : mayB d = true ∧ thereB n = true ∧ xs.length = 128 ∧ d.2.length < 4096 := by
  unfold wErr at h
  cases h1 : mayB d with
  | false => rw [h1] at h; simp at h
  | true =>
    obtain ⟨_, h2, _⟩ := may_of h1
    rw [h1] at h
    cases ht : thereB n with
    | false => rw [ht] at h; simp at h
    | true =>
      rw [ht] at h
      by_cases h8 : xs.length = 128
      · by_cases h9 : d.2.length = 4096
        · simp [h8, h9] at h
        · exact ⟨rfl, rfl, h8, by omega⟩
      · simp [h8] at h
theorem dsk_empty (w : World) : Dsk (Old w) w (.agg #[.slice none 0 0, .slice none 0 0]) emptyD :=
  ⟨_, _, rfl, ⟨none, 0, rfl, by simp [emptyD], by omega, fun i x h => by simp [emptyD] at h⟩, ⟨none, 0, rfl, by simp [emptyD], by omega, fun i x h => by simp [emptyD] at h⟩⟩
theorem write_gen (v u : Value) (d : Dk) (n : Int) (xs : List UInt8) (w : World) (h : Dsk (Old w) w v d) (hu : rBy (Old w) w [u] xs) :
    Calls Tryz.prog 36 #[v, .int .i64 n, u] w fun e w' => ∃ A c B f, e = .returned (.tuple #[.agg #[.slice A (wrR d n xs).1.length c, .slice B (wrR d n xs).2.length f], .int .i64 (wErr d n xs)]) ∧ Dsk (Old w') w' (.agg #[.slice A (wrR d n xs).1.length c, .slice B (wrR d n xs).2.length f]) (wrR d n xs) ∧ Below w.heap.size w w' := by
  by_cases he : wErr d n xs = 0
  · obtain ⟨hm, ht, h8, h9⟩ := write_fine he (.inr trivial)
    obtain ⟨k, rfl, hk⟩ := thereB_nat ht
    refine (write_wr v u d k xs w h hu hm hk h8 h9).mono ?_
    rintro e w' ⟨x, rfl, hx, hb⟩
    have e1 : wrR d (k : Int) xs = wrD d k xs := by simp [wrR, he]
    obtain ⟨A, c, B, f, rfl, _⟩ := id hx.open
    rw [e1, he]
    exact ⟨A, c, B, f, rfl, hx.drop, hb⟩
  · refine (write_bad v u d n xs w h hu he).mono ?_
    rintro e w' ⟨rfl, hb⟩
    have e1 : wrR d n xs = emptyD := by simp [wrR, he]
    rw [e1]
    exact ⟨none, 0, none, 0, rfl, dsk_empty _, hb⟩
/-! ### What follows -/
theorem settled_len1 (d : Dk) : (settledD d).1.length = 256 := by simp [settledD]
theorem settled_len2 (d : Dk) : (settledD d).2.length = 0 := rfl
theorem settled_at {d : Dk} {k : Nat} (hk : k < 256) : (settledD d).1[k]? = some (seenD d k) := by
  simp [settledD, hk]
theorem seen_settled {d : Dk} {k : Nat} (hk : k < 256) : seenD (settledD d) k = seenD d k := by
  have h1 : (settledD d).2 = [] := rfl
  have h2 := settled_at (d := d) hk
  unfold seenD
  rw [h1, h2]
  rfl
theorem may_settled {d : Dk} (h : mayB d = true) : mayB (settledD d) = true := by
  refine may_mk (settled_len1 d) (by rw [settled_len2]; omega) ?_ rfl
  rw [List.all_eq_true]
  intro x hx
  obtain ⟨j, hj⟩ := List.getElem?_of_mem hx
  have hjl := (List.getElem?_eq_some_iff.1 hj).1
  rw [settled_len1] at hjl
  rw [settled_at hjl] at hj
  cases hj
  exact decide_eq_true (seenD_length h hjl)
theorem settled_twice (d : Dk) : settledD (settledD d) = settledD d := by
  refine Prod.ext ?_ rfl
  refine List.ext_getElem? fun i => ?_
  by_cases hi : i < 256
  · rw [settled_at hi, settled_at hi, seen_settled hi]
  · rw [List.getElem?_eq_none (by rw [settled_len1]; omega), List.getElem?_eq_none (by rw [settled_len1]; omega)]
theorem markedW_all : ∀ (ws : List Wt) (ks : List Bool), ks.length = ws.length → (∀ k ∈ ks, k = true) → markedW ws ks = ws
  | [], [], _, _ => rfl
  | x :: r, k :: ks, h, hk => by
    have e := hk k (List.mem_cons.2 (.inl rfl))
    subst e
    have ih := markedW_all r ks (by simpa using h) (fun q hq => hk q (List.mem_cons.2 (.inr hq)))
    simp [markedW, ih]
theorem markedW_none : ∀ (ws : List Wt) (ks : List Bool), (∀ k ∈ ks, k = false) → markedW ws ks = []
  | [], ks, _ => by cases ks <;> rfl
  | x :: r, [], _ => rfl
  | x :: r, k :: ks, hk => by
    have e := hk k (List.mem_cons.2 (.inl rfl))
    subst e
    have ih := markedW_none r ks (fun q hq => hk q (List.mem_cons.2 (.inr hq)))
    simp [markedW, ih]
theorem rdB_settled (d : Dk) (n : Int) : rdB (settledD d) n = rdB d n := by
  unfold rdB
  cases ht : thereB n with
  | false => rfl
  | true =>
    obtain ⟨k, rfl, hk⟩ := thereB_nat ht
    simpa using seen_settled hk
theorem rdB_write {d : Dk} {n m : Int} {xs : List UInt8} (h : wErr d n xs = 0) (hne : m ≠ n) : rdB (wrR d n xs) m = rdB d m := by
  obtain ⟨_, ht, _, _⟩ := write_fine h (.inr trivial)
  obtain ⟨k, rfl, hk⟩ := thereB_nat ht
  unfold rdB
  cases hm : thereB m with
  | false => rfl
  | true =>
    obtain ⟨j, rfl, hj⟩ := thereB_nat hm
    have : wrR d (k : Int) xs = wrD d k xs := by simp [wrR, h]
    rw [this]
    simpa using seenD_write_ne (d := d) (k := k) (j := j) (xs := xs) (by omega)
theorem rdB_same {d : Dk} {n : Int} {xs : List UInt8} (h : wErr d n xs = 0) : rdB (wrR d n xs) n = xs ∧ rdE n = 0 := by
  obtain ⟨_, ht, _, _⟩ := write_fine h (.inr trivial)
  obtain ⟨k, rfl, hk⟩ := thereB_nat ht
  have : wrR d (k : Int) xs = wrD d k xs := by simp [wrR, h]
  rw [this]
  unfold rdB rdE
  rw [ht]
  exact ⟨by simpa using seenD_write, rfl⟩
theorem may_wrR {d : Dk} {n : Int} {xs : List UInt8} (h : wErr d n xs = 0) : mayB (wrR d n xs) = true ∧ (wrR d n xs).2.length = d.2.length + 1 ∧ (wrR d n xs).1 = d.1 := by
  obtain ⟨hm, ht, h8, h9⟩ := write_fine h (.inr trivial)
  obtain ⟨k, rfl, hk⟩ := thereB_nat ht
  have : wrR d (k : Int) xs = wrD d k xs := by simp [wrR, h]
  rw [this]
  exact ⟨may_write hm hk h8 h9, wrD_len _ _ _, rfl⟩

/-! ### Results that are new -/
theorem Dsk.grown {w w' : World} {lo : Nat} {v : Value} {d : Dk} {row : Option Nat} (h : Dsk (New lo w) w v d) (hg : w.grownBy w' row) (hr : ∀ q, row = some q → q < lo) : Dsk (New lo w') w' v d := by
  obtain ⟨a, b, e, h1, h2⟩ := h
  exact ⟨a, b, e, (stab_sl stab_by).grown h1 hg hr, (stab_sl stab_wt).grown h2 hg hr⟩
theorem dsk_empty_new (lo : Nat) (w : World) : Dsk (New lo w) w (.agg #[.slice none 0 0, .slice none 0 0]) emptyD :=
  ⟨_, _, rfl, ⟨none, 0, rfl, by simp [emptyD], by omega, fun i x h => by simp [emptyD] at h⟩, ⟨none, 0, rfl, by simp [emptyD], by omega, fun i x h => by simp [emptyD] at h⟩⟩
theorem write_new (v u : Value) (d : Dk) (n : Int) (xs : List UInt8) (w : World) (h : Dsk (Old w) w v d) (hu : rBy (Old w) w [u] xs) :
    Calls Tryz.prog 36 #[v, .int .i64 n, u] w fun e w' => ∃ A c B f, e = .returned (.tuple #[.agg #[.slice A (wrR d n xs).1.length c, .slice B (wrR d n xs).2.length f], .int .i64 (wErr d n xs)]) ∧ Dsk (New w.heap.size w') w' (.agg #[.slice A (wrR d n xs).1.length c, .slice B (wrR d n xs).2.length f]) (wrR d n xs) ∧ Below w.heap.size w w' := by
  by_cases he : wErr d n xs = 0
  · obtain ⟨hm, ht, h8, h9⟩ := write_fine he (.inr trivial)
    obtain ⟨k, rfl, hk⟩ := thereB_nat ht
    refine (write_wr v u d k xs w h hu hm hk h8 h9).mono ?_
    rintro e w' ⟨x, rfl, hx, hb⟩
    have e1 : wrR d (k : Int) xs = wrD d k xs := by simp [wrR, he]
    obtain ⟨A, c, B, f, rfl, _⟩ := id hx.open
    rw [e1, he]
    exact ⟨A, c, B, f, rfl, hx, hb⟩
  · refine (write_bad v u d n xs w h hu he).mono ?_
    rintro e w' ⟨rfl, hb⟩
    have e1 : wrR d n xs = emptyD := by simp [wrR, he]
    rw [e1]
    exact ⟨none, 0, none, 0, rfl, dsk_empty_new _ _, hb⟩
theorem wrR_nat {d : Dk} {k : Nat} {xs : List UInt8} (h : wErr d (k : Int) xs = 0) : wrR d (k : Int) xs = wrD d k xs := by simp [wrR, h]
end Go.Proofs.YtmdlgnlfgfhkmaaGreat

/-
  Package count: tables, which may be: Check, and the document's May and Check. Conditions: those that each lemma states.
-/
namespace Go.Proofs.YtmdlgnlfgfhkmaaGreat
open Go.RowKit

/-! ### Tables that may be -/
def mayT (t : List UInt8) : Bool := decide (t.length = 256) && (t.take 8).all (· == 0)
def chkT (t : List UInt8) : Int := if mayT t then 0 else 8
theorem chkT_ok {t : List UInt8} (h : mayT t = true) : chkT t = 0 := by simp [chkT, h]
theorem chkT_bad {t : List UInt8} (h : mayT t = false) : chkT t = 8 := by simp [chkT, h]
theorem mayT_len {t : List UInt8} (h : mayT t = true) : t.length = 256 := by
  simp only [mayT, Bool.and_eq_true, decide_eq_true_eq] at h
  exact h.1
theorem mayT_short {t : List UInt8} (h : t.length ≠ 256) : mayT t = false := by simp [mayT, h]
theorem mayT_yes {t : List UInt8} (h : t.length = 256) (ha : ∀ j, j < 8 → t[j]?.getD 0 = 0) : mayT t = true := by
  simp only [mayT, Bool.and_eq_true, decide_eq_true_eq, List.all_eq_true]
  refine ⟨h, fun x hx => ?_⟩
  obtain ⟨j, hj, rfl⟩ := List.mem_iff_getElem.1 hx
  have hj8 : j < 8 := by simp at hj; omega
  have := ha j hj8
  rw [List.getElem?_eq_getElem (by omega)] at this
  simpa using this
theorem mayT_at {t : List UInt8} (h : mayT t = true) {j : Nat} (hj : j < 8) : t[j]?.getD 0 = 0 := by
  have hl := mayT_len h
  simp only [mayT, Bool.and_eq_true, List.all_eq_true] at h
  have := h.2 (t[j]'(by omega)) (List.mem_iff_getElem.2 ⟨j, by simp; omega, by simp⟩)
  rw [List.getElem?_eq_getElem (by omega)]
  simpa using this
theorem mayT_no {t : List UInt8} {k : Nat} (hk : k < 8) (h : t[k]?.getD 0 ≠ 0) : mayT t = false := by
  cases hm : mayT t with
  | false => rfl
  | true => exact absurd (mayT_at hm hk) h
theorem byte_ne {x : UInt8} (h : ¬ (x.toNat : Int) = 0) : x ≠ 0 := fun e => h (by rw [e]; rfl)
theorem byte_eq {x : UInt8} (h : (x.toNat : Int) = 0) : x = 0 := UInt8.toNat.inj (by simpa using h)
theorem below8_snoc {b : List UInt8} {k : Nat} (ha : ∀ j, j < k → b[j]?.getD 0 = 0) (h : b[k]?.getD 0 = 0) : ∀ j, j < k + 1 → b[j]?.getD 0 = 0 := fun j hj => by
  rcases Nat.lt_or_ge j k with h1 | h1
  · exact ha j h1
  · obtain rfl : j = k := by omega
    exact h

set_option maxRecDepth 100000 in
set_option maxHeartbeats 2000000 in
theorem checkT_any (A : Option Addr) (n c : Nat) (t : List UInt8) (hn : Hid (t.length = n)) (l1 : n ≤ c) (m1 : c ≤ 9223372036854775807) (w : World) (h : Byt w w.heap.size A t) :
    Calls Tryz.prog 31 #[.slice A n c] w fun e w' => e = .returned (.int .i64 (chkT t)) ∧ w = w' := by
  have HY := Lib.hid h
  clear h
  by_cases h256 : n = 256
  · obtain ⟨ad, rfl, _, hc⟩ := HY.out (by rw [hn.out]; omega)
    subst h256
    replace hc := Lib.hid hc
    go_enter Tryz.func31, Tryz.ntmps31
    go_wp2_with fail
    go_loop [11] (fun i => ∃ k : Nat, k ≤ 8 ∧ i = .int .i64 k ∧ ∀ j, j < k → t[j]?.getD 0 = 0) (fun i => 8 - (intOf i).toNat)
    case atStart => exact ⟨0, by omega, rfl, fun j hj => by omega⟩
    case round =>
      obtain ⟨k, hk, rfl, ha⟩ := hrel
      replace ha := Lib.hid ha
      by_cases hlt : k < 8
      · have hcell := hc.out k (by rw [hn.out]; omega)
        have hyes := Lib.hid (fun h => mayT_no (t := t) hlt h)
        have hno := Lib.hid (fun h => below8_snoc (b := t) (k := k) ha.out h)
        obtain ⟨x, hx⟩ : ∃ x, t[k]?.getD 0 = x := ⟨_, rfl⟩
        rw [hx] at hcell hyes hno
        replace hx := Lib.hid hx
        by_cases h0 : (x.toNat : Int) = 0
        · have t0 : ((x.toNat : Int) != 0) = false := by simpa using h0
          have hall := Lib.hid (hno.out (byte_eq h0))
          replace h0 := Lib.hid h0
          go_wp2_with fail
          go_round
          case rel => exact ⟨k + 1, by omega, by go_num, hall.out⟩
          case measure => simp [intOf]; omega
        · have t0 : ((x.toNat : Int) != 0) = true := by simpa using h0
          have hr := Lib.hid (chkT_bad (hyes.out (byte_ne h0)))
          replace h0 := Lib.hid h0
          go_wp2_with fail
          go_ret
          exact ⟨ret_int hr.out.symm, rfl⟩
      · have hr := Lib.hid (chkT_ok (mayT_yes (t := t) hn.out fun j hj => ha.out j (by omega)))
        go_wp2_with fail
        go_ret
        exact ⟨ret_int hr.out.symm, rfl⟩
  · have hr := Lib.hid (chkT_bad (mayT_short (t := t) (by rw [hn.out]; exact h256)))
    have i1 : ((n : Int) != 256) = true := by simp; omega
    go_enter Tryz.func31, Tryz.ntmps31
    go_wp2_with fail
    go_ret
    exact ⟨ret_int hr.out.symm, rfl⟩

set_option maxRecDepth 100000 in
set_option maxHeartbeats 2000000 in
theorem refMayT_any (A : Option Addr) (n c : Nat) (t : List UInt8) (hn : Hid (t.length = n)) (l1 : n ≤ c) (_ : c ≤ 9223372036854775807) (w : World) (h : Byt w w.heap.size A t) :
    Calls Tryz.prog 39 #[.slice A n c] w fun e w' => e = .returned (.bool (mayT t)) ∧ w = w' := by
  have HY := Lib.hid h
  clear h
  by_cases h256 : n = 256
  · obtain ⟨ad, rfl, _, hc⟩ := HY.out (by rw [hn.out]; omega)
    subst h256
    replace hc := Lib.hid hc
    go_enter Tryz.func39, Tryz.ntmps39
    go_wp2_with fail
    go_loop [3] (fun i => ∃ k : Nat, k ≤ 8 ∧ i = .int .i64 k ∧ ∀ j, j < k → t[j]?.getD 0 = 0) (fun i => 8 - (intOf i).toNat)
    case atStart => exact ⟨0, by omega, rfl, fun j hj => by omega⟩
    case round =>
      obtain ⟨k, hk, rfl, ha⟩ := hrel
      replace ha := Lib.hid ha
      by_cases hlt : k < 8
      · have hcell := hc.out k (by rw [hn.out]; omega)
        have hyes := Lib.hid (fun h => mayT_no (t := t) hlt h)
        have hno := Lib.hid (fun h => below8_snoc (b := t) (k := k) ha.out h)
        obtain ⟨x, hx⟩ : ∃ x, t[k]?.getD 0 = x := ⟨_, rfl⟩
        rw [hx] at hcell hyes hno
        replace hx := Lib.hid hx
        by_cases h0 : (x.toNat : Int) = 0
        · have t0 : ((x.toNat : Int) != 0) = false := by simpa using h0
          have hall := Lib.hid (hno.out (byte_eq h0))
          replace h0 := Lib.hid h0
          go_wp2_with fail
          go_round
          case rel => exact ⟨k + 1, by omega, by go_num, hall.out⟩
          case measure => simp [intOf]; omega
        · have t0 : ((x.toNat : Int) != 0) = true := by simpa using h0
          have hr := Lib.hid (hyes.out (byte_ne h0))
          replace h0 := Lib.hid h0
          go_wp2_with fail
          go_ret
          exact ⟨ret_bool hr.out.symm, rfl⟩
      · have hr := Lib.hid (mayT_yes (t := t) hn.out fun j hj => ha.out j (by omega))
        go_wp2_with fail
        go_ret
        exact ⟨ret_bool hr.out.symm, rfl⟩
  · have hr := Lib.hid (mayT_short (t := t) (by rw [hn.out]; exact h256))
    have i1 : ((n : Int) != 256) = true := by simp; omega
    go_enter Tryz.func39, Tryz.ntmps39
    go_wp2_with fail
    go_ret
    exact ⟨ret_bool hr.out.symm, rfl⟩

/-! ### Tables of noughts -/
theorem may_zeros : mayT (zeros 256) = true := by decide +kernel
end Go.Proofs.YtmdlgnlfgfhkmaaGreat

/-
  append of whatever lies there, as an equation (app_any); the document's answers of layer 3: With. Conditions: those that each lemma states.
-/
namespace Go.Proofs.YtmdlgnlfgfhkmaaGreat
open Go.RowKit

/-- 'append(v, x...)': v a row of the call's own, x whatever cells lie there. -/
theorem app_any {P : Program} {w : World} (base : Nat) (t ty e : TypeId) (i : TypeInfo) (z : Value) (size bytes : Nat) (ht : P.underlying t = some (.slice e)) (hi : P.info? e = some i) (hz : i.zero = some z)
    (hsize : i.size = size) (hby : i.bytes = bytes) (hzs : z.cells.size = size) (hsz : 0 < size)
    (v : Value) (n : Nat) (xs : List Value) (hown : w.ownsRow base e size v n xs)
    (A : Option Addr) (m c : Nat) (news : List Value) (hl : news.length = m * size) (hnews : ∀ j u, news[j]? = some u → ∃ ad, A = some ad ∧ w.cell? (ad.add j) = some u) (h1 : ∀ u ∈ news, u.oneCell' = true)
    (h63 : n + m ≤ maxLen) (hbytes : (n + m) * bytes ≤ 140737488355328) (hbase : base ≤ w.heap.size) :
    ∃ v' w', (Builtin.append_ #[t, t] ty #[v, .slice A m c]).run P w = .ok v' w' ∧ w'.ownsRow base e size v' (n + m) (xs ++ news) ∧ w.grownBy w' v.ownBlock ∧ Below base w w' := by
  rcases A with _ | ad
  · have hx : news = [] := by
      cases news with
      | nil => rfl
      | cons a r =>
        obtain ⟨_, e, _⟩ := hnews 0 a rfl
        cases e
    subst hx
    obtain rfl : m = 0 := by
      rcases Nat.eq_zero_or_pos m with h | h
      · exact h
      · have := Nat.mul_pos h hsz
        simp at hl
        omega
    refine ⟨v, w, ?_, by simpa using hown, grow_refl _ _, Below.refl _ _⟩
    rcases hown.2 with ⟨rfl, rfl⟩ | ⟨g, cap, cur, rfl, _, _, hnc, _⟩
    · simp [Builtin.append_, run_underlying ht, sizeOf, typeInfo, hi, Builtin.lenOf, Builtin.firstCells]
    · simp [Builtin.append_, run_underlying ht, sizeOf, typeInfo, hi, Builtin.lenOf, Builtin.firstCells, hnc, storeCells]
  · obtain ⟨v', w', hr, h2, h3, _, _⟩ := run_append_own_at (P := P) w base t ty e i z size bytes ht hi hz hsize hby hzs hsz v n xs hown ad m c news hl (fun j u hj => by
      obtain ⟨_, e, h⟩ := hnews j u hj
      cases e
      exact h) h1 h63 hbytes hbase
    exact ⟨v', w', hr, h2, h3, (Below.refl base w).grown h3 hbase (fun k hk => (hown.lt k hk).1)⟩

/-- Cells that lay at w0, or were made behind w. -/
def Apart (w0 w w' : World) (p : Addr) : Prop := p.block < w0.heap.size ∨ (w.heap.size ≤ p.block ∧ p.block < w'.heap.size)
set_option maxRecDepth 100000 in
set_option maxHeartbeats 4000000 in
theorem refWith_in (v u : Value) (d : Dk) (k : Nat) (xs : List UInt8) (w0 w : World) (hW : Below w0.heap.size w0 w) (h : Dsk (Old w0) w0 v d) (hu : rBy (Old w0) w0 [u] xs) (hf : d.2.length < 4096) (hk : k < 256) :
    Calls Tryz.prog 62 #[v, .int .i64 k, u] w fun e w' => ∃ x, e = .returned x ∧ Dsk (Apart w0 w w') w' x (wrD d k xs) ∧ Below w.heap.size w w' := by
  obtain ⟨i0, hi, hz0, hz1, hz2⟩ := info_parts wts_info0
  obtain ⟨A, c, B, c', rfl, l1, m1, l2, m2, _, hB⟩ := h.open
  obtain ⟨E, ce, rfl, lE, mE, _⟩ := id (rBy_open hu)
  obtain ⟨ps, hps, hpc, hp1, hpx⟩ := wts_cells hB
  have hrows := h.parts.1
  have hub := Lib.hid hu
  have hpx' := Lib.hid hpx
  clear hB h hu hpx
  obtain ⟨n, hn⟩ : ∃ n, d.1.length = n := ⟨_, rfl⟩
  obtain ⟨m, hm⟩ : ∃ m, d.2.length = m := ⟨_, rfl⟩
  rw [hn] at l1 hrows ⊢
  replace hrows := Lib.hid hrows
  rw [hm] at l2 hps hf ⊢
  replace hn := Lib.hid hn
  replace hm := Lib.hid hm
  obtain ⟨w2, hw2, f1, f2, f3, hsz, hB2⟩ := box_two w (.slice A n c) (.slice B m c') #[.slice none 0 0, .slice none 0 0] 25
  obtain ⟨w3, hw3, g3, hs3, hB3⟩ := box_pair' w2 (.slice A n c) (.slice none 0 0) 25
  have hB23 := hB2.trans (hB3.mono hB2.size)
  have hW3 := hW.trans (hB23.mono hW.size)
  -- the waits, copied
  obtain ⟨v1, w4, hr1, own1, gr1, ba1⟩ := app_any (P := Tryz.prog) (w := w3) w3.heap.size 23 23 70 i0 (.agg #[.int .i64 0, .slice none 0 0]) 2 32 Tryz.underlying23 hi hz0 hz1 hz2 rfl (by decide) (.slice none 0 0) 0 [] (World.ownsRow_nil _ _ _ _) B m c' (wcells ps) (by rw [wcells_length, hps])
    (fun j u hj => by
      obtain ⟨ad, e, ho, hc⟩ := hpc j u hj
      exact ⟨ad, e, (hW3.cell (p := ad.add j) (by rw [add_block]; exact ho)).trans hc⟩) hp1 (by unfold maxLen; omega) (by omega) (Nat.le_refl _)
  rw [Nat.zero_add, List.nil_append] at own1
  obtain ⟨A1, c1, rfl, o1, o2, _, _⟩ := own_any own1
  have g4 := (ba1.block w2.heap.size (by omega)).trans g3
  obtain ⟨w5, hw5, g5, gr5, gs5⟩ := put_snd (u := .slice A1 m c1) g4
  have own5 := own1.kept gr5 (.inr (fun e => by have := (own1.lt _ e).1; omega))
  obtain ⟨w6, hw6, g6, hs6, hB6⟩ := box_pair' w5 (.int .i64 k) (.slice E xs.length ce) 70
  have own6 := own_below own5 hB6
  have s4 := ba1.size
  -- one write more
  obtain ⟨v2, w7, hr2, own7, gr7, ba2⟩ := app_any (P := Tryz.prog) (w := w6) w3.heap.size 23 23 70 i0 (.agg #[.int .i64 0, .slice none 0 0]) 2 32 Tryz.underlying23 hi hz0 hz1 hz2 rfl (by decide) (.slice A1 m c1) m (wcells ps) own6 (some ⟨w5.heap.size, 0, none⟩) 1 1 [.int .i64 (k : Int), .slice E xs.length ce] rfl
    (fun j u hj => ⟨_, rfl, World.news_of_block (cs := #[.int .i64 (k : Int), .slice E xs.length ce]) g6 j u hj⟩) (fun u hu => by
      simp at hu
      rcases hu with rfl | rfl <;> rfl) (by unfold maxLen; omega) (by omega) (by omega)
  obtain ⟨A2, c2, rfl, q1, q2, _, _⟩ := own_any own7
  have g7 := (ba2.block w2.heap.size (by omega)).trans ((hB6.block w2.heap.size (by omega)).trans g5)
  obtain ⟨w8, hw8, g8, gr8, gs8⟩ := put_snd (u := .slice A2 (m + 1) c2) g7
  have s7 := ba2.size
  have b8 : w8.heap[w.heap.size + 1]? = some (.cells #[.slice none 0 0, .slice none 0 0] 25 (0, 0)) :=
    (gr8.block _ (by omega) (fun e => by simp only [Option.some.injEq] at e; omega)).trans ((ba2.block _ (by omega)).trans ((hB6.block _ (by omega)).trans ((gr5.block _ (by omega) (fun e => by simp only [Option.some.injEq] at e; omega)).trans ((ba1.block _ (by omega)).trans ((hB3.block _ (by omega)).trans f3)))))
  obtain ⟨w9, hw9, g9, gr9, gs9⟩ := put_two (u := .slice A n c) (v := .slice A2 (m + 1) c2) b8
  obtain ⟨k5, k6, _, _⟩ := two_cells g9
  have own9 := (own7.kept gr8 (.inr (fun e => by have := (own7.lt _ e).1; omega))).kept gr9 (.inr (fun e => by have := (own7.lt _ e).1; omega))
  have B4 : Below w.heap.size w w4 := hB23.trans (ba1.mono hB23.size)
  have B5 := B4.grown gr5 B4.size (fun q e => by cases e; omega)
  have B6 := B5.trans (hB6.mono B5.size)
  have B7 : Below w.heap.size w w7 := B6.trans (ba2.mono hB23.size)
  have B8 := B7.grown gr8 B7.size (fun q e => by cases e; omega)
  have B9 := B8.grown gr9 B8.size (fun q e => by cases e; omega)
  have W9 := hW.trans (B9.mono hW.size)
  have mp : ∀ p v, Old w0 p → w0.cell? p = some v → Apart w0 w w9 p ∧ w9.cell? p = some v := fun p v hp hc => ⟨.inl hp, (W9.cell hp).trans hc⟩
  have hfin := Lib.hid (show Dsk (Apart w0 w w9) w9 (.agg #[.slice A n c, .slice A2 (m + 1) c2]) (wrD d k xs) from by
    refine ⟨_, _, rfl, stab_sl stab_by _ _ _ _ _ _ mp hrows.out, ?_⟩
    have e1 : wcells ps ++ [.int .i64 (k : Int), .slice E xs.length ce] = wcells (ps ++ [((k : Int), .slice E xs.length ce)]) := by rw [wcells_append]; rfl
    rw [e1] at own9
    refine own_wts_ok (fun p _ hp => .inr ⟨Nat.le_trans (by omega) hp.1, hp.2.1⟩) own9 (by simp [wrD, hm.out]) (fun i p x hp hx => ?_)
    rcases Nat.lt_or_ge i m with hi | hi
    · rw [List.getElem?_append_left (by omega)] at hp
      rw [show (wrD d k xs).2 = d.2 ++ [((k : Int), xs)] from rfl, List.getElem?_append_left (by rw [hm.out]; exact hi)] at hx
      obtain ⟨e, h1, h2, h3⟩ := hpx'.out i p x hp hx
      exact ⟨e, stab_by _ _ _ _ _ _ mp h1, h2, h3⟩
    · rw [List.getElem?_append_right (by omega)] at hp
      rw [show (wrD d k xs).2 = d.2 ++ [((k : Int), xs)] from rfl, List.getElem?_append_right (by rw [hm.out]; exact hi)] at hx
      have hi0 : i - ps.length = 0 := by
        have := (List.getElem?_eq_some_iff.1 hp).1
        simp at this
        omega
      rw [hi0] at hp
      rw [show i - d.2.length = 0 by have := hm.out; omega] at hx
      cases hp
      cases hx
      exact ⟨rfl, stab_by _ _ _ _ _ _ mp hub.out, by omega, by omega⟩)
  have H1 := Lib.hid hr1
  have H2 := Lib.hid hr2
  obtain ⟨z1, z2, z3, _⟩ := two_cells g4
  obtain ⟨z4, z5, z6, _⟩ := two_cells g5
  obtain ⟨y1, y2, y3, _⟩ := two_cells g7
  obtain ⟨y4, y5, _, _⟩ := two_cells g8
  obtain ⟨x1, x2, x3, _⟩ := two_cells b8
  obtain ⟨x4, x5, _, _⟩ := two_cells g3
  have f4 := (hB3.cell (p := ⟨w.heap.size, 1, none⟩) (show w.heap.size < w2.heap.size by omega)).trans f2
  replace B9 := Lib.hid B9
  replace W9 := Lib.hid W9
  replace mp := Lib.hid mp
  clear hW hW3 hr1 hr2 own1 own5 own6 own7 own9 gr1 gr5 gr7 gr8 gr9 B4 B5 B6 B7 B8 hpc hp1 hps g3 g4 g5 g6 g7 g8 b8 ba1 ba2 hB6 hB23 hB2 hB3 f3
  replace hsz := Lib.hid hsz
  replace hs3 := Lib.hid hs3
  replace hs6 := Lib.hid hs6
  replace gs5 := Lib.hid gs5
  replace gs8 := Lib.hid gs8
  replace gs9 := Lib.hid gs9
  clear s4 s7
  replace hw3 := Lib.hid hw3
  go_enter Tryz.func62, Tryz.ntmps62
  go_upto_region 2 with fail
  rw [hw3.out]
  clear hw3 hw2 x4
  go_wp2_with (first
    | (at_builtin; refine wpList_append_run rfl _ _ _ rfl rfl rfl H1.out ?_; clear H1)
    | (at_builtin; refine wpList_append_run rfl _ _ _ rfl rfl rfl H2.out ?_; clear H2))
  trace_state
  exact bodyPost_ret (v := .agg #[.slice A n c, .slice A2 (m + 1) c2]) (by simp [results, Tryz.results62, go_sem, k5, k6]) rfl ⟨_, rfl, hfin.out, B9.out⟩
end Go.Proofs.YtmdlgnlfgfhkmaaGreat

/-
  The document's answers of layer 3: Seen, Read. Conditions: those that each lemma states.
-/
namespace Go.Proofs.YtmdlgnlfgfhkmaaGreat
open Go.RowKit

theorem take_snoc {α : Type} {xs : List α} {j : Nat} {x : α} (h : xs[j]? = some x) : xs.take (j + 1) = xs.take j ++ [x] := by
  rw [List.take_add_one, h]
  rfl
theorem seen_hit {ws : List Wt} {b : List UInt8} {n : Int} {j : Nat} {x : Wt} (h : ws[j]? = some x) (e : x.1 = n) : seenW (ws.take (j + 1)) b n = x.2 := by
  rw [take_snoc h, seenW_append]
  simp [seenW, e]
theorem seen_miss {ws : List Wt} {b : List UInt8} {n : Int} {j : Nat} {x : Wt} (h : ws[j]? = some x) (e : x.1 ≠ n) : seenW (ws.take (j + 1)) b n = seenW (ws.take j) b n := by
  rw [take_snoc h, seenW_append]
  simp [seenW, e]

set_option maxRecDepth 100000 in
set_option maxHeartbeats 2000000 in
theorem refSeen_any (v : Value) (d : Dk) (k : Nat) (hk : k < d.1.length) (w : World) (h : Dsk (Old w) w v d) :
    Calls Tryz.prog 83 #[v, .int .i64 k] w fun e W' => ∃ u, e = .returned u ∧ rBy (Old w) w [u] (seenD d k) ∧ Below w.heap.size w W' := by
  obtain ⟨A, c, B, c', rfl, l1, m1, l2, m2, hA, hB⟩ := h.open
  obtain ⟨b, hb⟩ : ∃ b, d.1[k]? = some b := ⟨_, List.getElem?_eq_getElem hk⟩
  obtain ⟨ad, bv, rfl, ho1, hc1, hby1⟩ := hA k b hb
  have HB := Lib.hid hB
  have hsd : Hid (seenD d k = seenW d.2 b k) := Lib.hid (by unfold seenD; rw [hb]; rfl)
  replace hby1 := Lib.hid hby1
  clear hA hB h hb
  obtain ⟨n, hn⟩ : ∃ n, d.1.length = n := ⟨_, rfl⟩
  obtain ⟨m, hm⟩ : ∃ m, d.2.length = m := ⟨_, rfl⟩
  rw [hn] at l1 hk ⊢
  rw [hm] at l2 ⊢
  replace hn := Lib.hid hn
  replace hm := Lib.hid hm
  obtain ⟨w0, hw0, f1, f2, f3, hB1, _⟩ := box_disk w (.slice (some ad) n c) (.slice B m c')
  have g1 := (hB1.cell ho1).trans hc1
  have lt0 : w.heap.size < w0.heap.size := by omega
  clear hc1
  replace f3 := Lib.hid f3
  go_enter Tryz.func83, Tryz.ntmps83
  go_upto_region 1 with fail
  rw [← hw0]
  clear hw0
  go_wp2_with fail
  go_loopw [5] (fun i wr => ∃ j : Nat, j ≤ m ∧ i = .int .i64 ((j : Int) - 1) ∧ seenW d.2 b k = seenW (d.2.take j) b k ∧ wr = w0) (fun i _ => (intOf i + 1).toNat)
  case atStart => exact ⟨m, by omega, by go_num, by rw [List.take_of_length_le (by rw [hm.out]; omega)], rfl⟩
  case round =>
    obtain ⟨j, hj, rfl, hs, rfl⟩ := hrel
    replace hs := Lib.hid hs
    match j with
    | 0 =>
      have hfin : Hid (seenD d k = b) := Lib.hid (by rw [hsd.out, hs.out]; rfl)
      have t1 : ¬ (0 : Int) ≤ ((0 : Nat) : Int) - 1 := by omega
      have i1 : (0 : Int) ≤ (k : Int) := by omega
      have i2 : (k : Int) < (n : Int) := by omega
      go_wp2_with fail
      go_ret
      exact ⟨_, rfl, by rw [hfin.out]; exact hby1.out, hB1⟩
    | j + 1 =>
      obtain ⟨x, hx⟩ : ∃ x, d.2[j]? = some x := ⟨_, List.getElem?_eq_getElem (by rw [hm.out]; omega)⟩
      obtain ⟨bd, u, rfl, hok, hok', hc, hc', hby, _, _⟩ := HB.out j x hx
      replace hx := Lib.hid hx
      replace hc := (hB1.cell hok).trans hc
      replace hc' := (hB1.cell hok').trans hc'
      rw [add_next] at hc'
      replace hby := Lib.hid hby
      have ej : (((j + 1 : Nat) : Int) - 1) = (j : Int) := by omega
      rw [ej]
      have i1 : (0 : Int) ≤ (j : Int) := by omega
      have i2 : (j : Int) < (m : Int) := by omega
      have i3 : j < m := by omega
      by_cases e : x.1 = k
      · have he : (x.1 == (k : Int)) = true := by simpa using e
        have hfin : Hid (seenD d k = x.2) := Lib.hid (by rw [hsd.out, hs.out]; exact seen_hit hx.out e)
        clear e
        go_wp2_with fail
        go_ret
        exact ⟨_, rfl, by rw [hfin.out]; exact hby.out, hB1⟩
      · have he : (x.1 == (k : Int)) = false := by simpa using e
        replace e := Lib.hid e
        go_wp2_with fail
        go_roundw
        case rel => exact ⟨j, by omega, by go_num, by rw [hs.out]; exact seen_miss hx.out e.out, by first | rfl | trivial⟩
        case measure => simp [intOf]

/-- What both answer to a read. -/
def rdX (d : Dk) (n : Int) : List UInt8 := if chkAt d n = 0 then seenD d n.toNat else []
theorem rBy_none (w : World) : rBy (Old w) w [.slice none 0 0] [] := ⟨none, 0, rfl, by simp, by omega, fun i x h => by simp at h⟩
end Go.Proofs.YtmdlgnlfgfhkmaaGreat

/-
  The document's answers of layer 3: Settled. Conditions: those that each lemma states.
-/
namespace Go.Proofs.YtmdlgnlfgfhkmaaGreat
open Go.RowKit

theorem rows_cells2 {w0 w : World} {A : Option Addr} {xss : List (List UInt8)} (h : ∀ i x, xss[i]? = some x → ∃ ad v, A = some ad ∧ Old w (ad.add i) ∧ w.cell? (ad.add i) = some v ∧ rBy (Old w0) w0 [v] x) :
    ∃ vs : List Value, vs.length = xss.length ∧ (∀ j v, vs[j]? = some v → ∃ ad, A = some ad ∧ ad.block < w.heap.size ∧ w.cell? (ad.add j) = some v) ∧ (∀ u ∈ vs, u.oneCell' = true) ∧ ∀ (i : Nat) (v : Value) (x : List UInt8), vs[i]? = some v → xss[i]? = some x → rBy (Old w0) w0 [v] x := by
  obtain ⟨vs, hl, hv⟩ := list_of (n := xss.length) (p := fun i v => ∃ ad, A = some ad ∧ ad.block < w.heap.size ∧ w.cell? (ad.add i) = some v ∧ v.oneCell' = true ∧ ∀ x, xss[i]? = some x → rBy (Old w0) w0 [v] x) (fun i hi => by
    obtain ⟨ad, v, e, ho, hc, hb⟩ := h i _ (List.getElem?_eq_getElem hi)
    obtain ⟨E, c, rfl, _⟩ := rBy_open hb
    refine ⟨_, ad, e, by unfold Old at ho; rwa [add_block] at ho, hc, rfl, fun x hx => ?_⟩
    rw [List.getElem?_eq_getElem hi] at hx
    cases hx
    exact hb)
  refine ⟨vs, hl, fun j v hj => ?_, fun u hu => ?_, fun i v x hi hx => ?_⟩
  · obtain ⟨ad, e, hb, hc, _⟩ := hv j v hj
    exact ⟨ad, e, hb, hc⟩
  · obtain ⟨j, hj⟩ := List.getElem?_of_mem hu
    obtain ⟨_, _, _, _, h1, _⟩ := hv j u hj
    exact h1
  · obtain ⟨_, _, _, _, _, h1⟩ := hv i v hi
    exact h1 x hx
end Go.Proofs.YtmdlgnlfgfhkmaaGreat

/-
  The document's answers of layer 3: Barrier. Conditions: those that each lemma states.
-/
namespace Go.Proofs.YtmdlgnlfgfhkmaaGreat
open Go.RowKit

/-- What both answer to a barrier. -/
def barX (d : Dk) : Dk := if mayB d then settledD d else emptyD
/-- A disk of cells that lay at w0 or were made behind w is one behind a store into another block. -/
theorem apart_put {w0 w w4 W9 : World} {x : Value} {d : Dk} {g : Nat} (hx : Dsk (Apart w0 w w4) w4 x d) (gr : w4.grownBy W9 (some g)) (h0 : w0.heap.size ≤ g) (h1 : g < w.heap.size) (h2 : w.heap.size ≤ w4.heap.size) (h3 : W9.heap.size = w4.heap.size) : Dsk (Old W9) W9 x d :=
  hx.map fun p v hp hc => by
    have hlt : p.block < w4.heap.size := hp.elim (fun hp => by omega) (fun hp => hp.2)
    have hs : W9.heap[p.block]? = w4.heap[p.block]? := gr.block _ hlt (fun e => by simp only [Option.some.injEq] at e; rcases hp with hp | hp <;> omega)
    exact ⟨show p.block < W9.heap.size by omega, (World.cell?_of_block hs).trans hc⟩
end Go.Proofs.YtmdlgnlfgfhkmaaGreat

/-
  The document's answers of layer 3: Kept. Conditions: those that each lemma states.
-/
namespace Go.Proofs.YtmdlgnlfgfhkmaaGreat
open Go.RowKit

theorem apart_put2 {w0 w w1 w4 W9 : World} {x : Value} {d : Dk} {g : Nat} (hx : Dsk (Apart w0 w w4) w4 x d) (gr : w4.grownBy W9 (some g)) (h0 : w0.heap.size ≤ g) (h1 : g < w.heap.size) (h2 : w.heap.size ≤ w4.heap.size) (h3 : W9.heap.size = w4.heap.size) (h4 : w1.heap.size ≤ w.heap.size) : Dsk (Apart w0 w1 W9) W9 x d :=
  hx.map fun p v hp hc => by
    have hlt : p.block < w4.heap.size := hp.elim (fun hp => by omega) (fun hp => hp.2)
    have hs : W9.heap[p.block]? = w4.heap[p.block]? := gr.block _ hlt (fun e => by simp only [Option.some.injEq] at e; rcases hp with hp | hp <;> omega)
    exact ⟨hp.elim .inl (fun hp => .inr ⟨by omega, by omega⟩), (World.cell?_of_block hs).trans hc⟩

end Go.Proofs.YtmdlgnlfgfhkmaaGreat

/-
  The document's answers of layer 3: Crash. Conditions: those that each lemma states.
-/
namespace Go.Proofs.YtmdlgnlfgfhkmaaGreat
open Go.RowKit

/-- What both answer to a crash. -/
def craE (d : Dk) (ks : List Bool) : Int := if mayB d then (if ks.length = d.2.length then 0 else 2) else 8
def craX (d : Dk) (ks : List Bool) : Dk := if mayB d then (if ks.length = d.2.length then settledD (keptD d ks) else emptyD) else emptyD
end Go.Proofs.YtmdlgnlfgfhkmaaGreat

/-
  The document's answers of layer 3: Write. Conditions: those that each lemma states.
-/
namespace Go.Proofs.YtmdlgnlfgfhkmaaGreat
open Go.RowKit

end Go.Proofs.YtmdlgnlfgfhkmaaGreat

/-
  Rows of the call's own to which elements are pushed, one by one: elements may hold memory that the call made, none of it in the row. Conditions: those that each lemma states.
-/
namespace Go.Proofs.YtmdlgnlfgfhkmaaGreat
open Go.RowKit

/-- 'append(v, x...)' onto a row of the call's own: where the row lies then. -/
theorem app_own {P : Program} {w : World} (base : Nat) (t ty e : TypeId) (i : TypeInfo) (z : Value) (size bytes : Nat) (ht : P.underlying t = some (.slice e)) (hi : P.info? e = some i) (hz : i.zero = some z)
    (hsize : i.size = size) (hby : i.bytes = bytes) (hzs : z.cells.size = size) (hsz : 0 < size)
    (v : Value) (n : Nat) (xs : List Value) (hown : w.ownsRow base e size v n xs)
    (ad : Addr) (m c : Nat) (news : List Value) (hl : news.length = m * size) (hnews : ∀ j u, news[j]? = some u → w.cell? (ad.add j) = some u) (h1 : ∀ u ∈ news, u.oneCell' = true)
    (h63 : n + m ≤ maxLen) (hbytes : (n + m) * bytes ≤ 140737488355328) (hbase : base ≤ w.heap.size) :
    ∃ v' w', (Builtin.append_ #[t, t] ty #[v, .slice (some ad) m c]).run P w = .ok v' w' ∧ w'.ownsRow base e size v' (n + m) (xs ++ news) ∧ w.grownBy w' v.ownBlock ∧ Below base w w' ∧ (v'.ownBlock = v.ownBlock ∨ v'.ownBlock = some w.heap.size) := by
  obtain ⟨v', w', hr, h2, h3, _, h5⟩ := run_append_own_at (P := P) w base t ty e i z size bytes ht hi hz hsize hby hzs hsz v n xs hown ad m c news hl hnews h1 h63 hbytes hbase
  exact ⟨v', w', hr, h2, h3, (Below.refl base w).grown h3 hbase (fun k hk => (hown.lt k hk).1), h5⟩

theorem NewBut.below {lo : Nat} {A : Option Addr} {w w' : World} {p : Addr} {v : Value} (hb : Below w.heap.size w w') (hp : NewBut lo A w p) (hc : w.cell? p = some v) : NewBut lo A w' p ∧ w'.cell? p = some v :=
  ⟨⟨⟨hp.1.1, Nat.lt_of_lt_of_le hp.1.2.1 hb.size, (hb.frozen hp.1.2.1).trans hp.1.2.2⟩, hp.2⟩, (hb.cell hp.1.2.1).trans hc⟩
theorem NewBut.grown {lo : Nat} {A : Option Addr} {w w' : World} {p : Addr} {v : Value} {row : Option Nat} (hg : w.grownBy w' row) (hr : ∀ q, row = some q → q < lo) (hp : NewBut lo A w p) (hc : w.cell? p = some v) : NewBut lo A w' p ∧ w'.cell? p = some v := by
  have hb := hg.block p.block hp.1.2.1 (fun e => by have := hr _ e.symm; have := hp.1.1; omega)
  exact ⟨⟨⟨hp.1.1, Nat.lt_of_lt_of_le hp.1.2.1 hg.size, (World.frozen?_of_block hb).trans hp.1.2.2⟩, hp.2⟩, (World.cell?_of_block hb).trans hc⟩

/-- A row of the call's own, whose elements read as xs. -/
def RowOf {α : Type} (R : Rel α) (size : Nat) (t : TypeId) (lo : Nat) (w : World) (A : Option Addr) (c : Nat) (xs : List α) : Prop :=
  ∃ cs, w.ownsRow lo t size (.slice A xs.length c) xs.length cs ∧ ∀ i x, xs[i]? = some x → ∃ vs, vs.length = size ∧ (∀ j u, vs[j]? = some u → cs[i * size + j]? = some u) ∧ R (NewBut lo A w) w vs x
section
variable {α : Type} {R : Rel α} {size : Nat} {t : TypeId} {lo : Nat} {w w' : World} {A : Option Addr} {c : Nat} {xs : List α}
theorem RowOf.nil (R : Rel α) (size : Nat) (t : TypeId) (lo : Nat) (w : World) : RowOf R size t lo w none 0 [] := ⟨[], World.ownsRow_nil _ _ _ _, fun i x h => by simp at h⟩
theorem RowOf.below (hR : Stab R) (h : RowOf R size t lo w A c xs) (hb : Below w.heap.size w w') : RowOf R size t lo w' A c xs := by
  obtain ⟨cs, h1, h2⟩ := h
  refine ⟨cs, own_below h1 hb, fun i x hi => ?_⟩
  obtain ⟨vs, e1, e2, e3⟩ := h2 i x hi
  exact ⟨vs, e1, e2, hR _ _ _ _ _ _ (fun p v hp hc => NewBut.below hb hp hc) e3⟩
theorem RowOf.grown (hR : Stab R) (h : RowOf R size t lo w A c xs) {row : Option Nat} (hg : w.grownBy w' row) (hr : ∀ q, row = some q → q < lo) : RowOf R size t lo w' A c xs := by
  obtain ⟨cs, h1, h2⟩ := h
  have hk : (Value.slice A xs.length c).ownBlock = none ∨ (Value.slice A xs.length c).ownBlock ≠ row := by
    rcases row with _ | q
    · by_cases e : (Value.slice A xs.length c).ownBlock = none
      · exact .inl e
      · exact .inr e
    · refine .inr fun e => ?_
      have := (h1.lt q e).1
      have := hr q rfl
      omega
  have h1' : w'.ownsRow lo t size (.slice A xs.length c) xs.length cs := h1.kept hg hk
  refine ⟨cs, h1', fun i x hi => ?_⟩
  obtain ⟨vs, e1, e2, e3⟩ := h2 i x hi
  exact ⟨vs, e1, e2, hR _ _ _ _ _ _ (fun p v hp hc => NewBut.grown hg hr hp hc) e3⟩
theorem RowOf.low (hR : Stab R) (h : RowOf R size t lo w A c xs) {lo' : Nat} (hl : lo' ≤ lo) : RowOf R size t lo' w A c xs := by
  obtain ⟨cs, h1, h2⟩ := h
  refine ⟨cs, own_low h1 hl, fun i x hi => ?_⟩
  obtain ⟨vs, e1, e2, e3⟩ := h2 i x hi
  exact ⟨vs, e1, e2, hR _ _ _ _ _ _ (fun p v hp hc => ⟨⟨⟨Nat.le_trans hl hp.1.1, hp.1.2⟩, hp.2⟩, hc⟩) e3⟩
theorem RowOf.rel (hR : Stab R) (h : RowOf R size t lo w A c xs) : rSl size R (New lo w) w [.slice A xs.length c] xs := by
  obtain ⟨cs, h1, h2⟩ := h
  refine own_sl h1 rfl fun i x hi => ?_
  obtain ⟨vs, e1, e2, e3⟩ := h2 i x hi
  exact ⟨vs, e1, e2, hR _ _ _ _ _ _ (fun p v hp hc => ⟨hp.1, hc⟩) e3⟩
theorem RowOf.form (h : RowOf R size t lo w A c xs) : xs.length ≤ c ∧ c ≤ 9223372036854775807 ∧ (Value.slice A xs.length c).ownBlock = A.map (·.block) ∧ (0 < xs.length → ∃ ad, A = some ad) := by
  obtain ⟨cs, h1, _⟩ := h
  obtain ⟨A', c', e, h2, h3, h4, h5⟩ := own_any h1
  cases e
  exact ⟨h2, h3, h4, h5⟩
/-- One more. -/
theorem RowOf.push {P : Program} (hR : Stab R) (h : RowOf R size t lo w A c xs) (st ty : TypeId) (i : TypeInfo) (z : Value) (bytes : Nat) (ht : P.underlying st = some (.slice t)) (hi : P.info? t = some i) (hz : i.zero = some z)
    (hsize : i.size = size) (hby : i.bytes = bytes) (hzs : z.cells.size = size) (hsz : 0 < size) (ad : Addr) (m : Nat) (news : List Value) (x : α) (hl : news.length = size) (hnews : ∀ j u, news[j]? = some u → w.cell? (ad.add j) = some u) (h1 : ∀ u ∈ news, u.oneCell' = true)
    (h63 : xs.length + 1 ≤ maxLen) (hbytes : (xs.length + 1) * bytes ≤ 140737488355328) (hbase : lo ≤ w.heap.size) (hx : R (NewBut lo A w) w news x) :
    ∃ A' c' w', (Builtin.append_ #[st, st] ty #[.slice A xs.length c, .slice (some ad) 1 m]).run P w = .ok (.slice A' (xs.length + 1) c') w' ∧ RowOf R size t lo w' A' c' (xs ++ [x]) ∧ w.grownBy w' (A.map (·.block)) ∧ Below lo w w' := by
  obtain ⟨cs, ho, hcs⟩ := h
  obtain ⟨A1, c1, e, _, _, e4, _⟩ := own_any ho
  cases e
  obtain ⟨v', w', hr, o1, g1, b1, k1⟩ := app_own (P := P) (w := w) lo st ty t i z size bytes ht hi hz hsize hby hzs hsz _ _ cs ho ad 1 m news (by omega) hnews h1 h63 hbytes hbase
  obtain ⟨A2, c2, rfl, _, _, e5, _⟩ := own_any o1
  rw [e4] at g1 k1
  rw [e5] at k1
  have mp : ∀ p v, NewBut lo A w p → w.cell? p = some v → NewBut lo A2 w' p ∧ w'.cell? p = some v := fun p v hp hc => by
    have hb := g1.block p.block hp.1.2.1 (fun e => hp.2 e.symm)
    refine ⟨⟨⟨hp.1.1, Nat.lt_of_lt_of_le hp.1.2.1 g1.size, (World.frozen?_of_block hb).trans hp.1.2.2⟩, fun e => ?_⟩, (World.cell?_of_block hb).trans hc⟩
    rcases k1 with k | k
    · exact hp.2 (k ▸ e)
    · rw [k] at e
      simp only [Option.some.injEq] at e
      have := hp.1.2.1
      omega
  refine ⟨A2, c2, w', hr, ⟨cs ++ news, by rw [List.length_append]; exact o1, fun j y hj => ?_⟩, g1, b1⟩
  have hcl : cs.length = xs.length * size := ho.1
  rcases Nat.lt_or_ge j xs.length with hjl | hjl
  · rw [List.getElem?_append_left hjl] at hj
    obtain ⟨vs, e1, e2, e3⟩ := hcs j y hj
    refine ⟨vs, e1, fun k u hk => ?_, hR _ _ _ _ _ _ mp e3⟩
    have hcu := e2 k u hk
    rw [List.getElem?_append_left (List.getElem?_eq_some_iff.1 hcu).1]
    exact hcu
  · rw [List.getElem?_append_right hjl] at hj
    have hj0 : j = xs.length := by
      have := (List.getElem?_eq_some_iff.1 hj).1
      simp at this
      omega
    subst hj0
    simp at hj
    subst hj
    refine ⟨news, hl, fun k u hk => ?_, hR _ _ _ _ _ _ mp hx⟩
    rw [List.getElem?_append_right (by omega), hcl, Nat.add_sub_cancel_left]
    exact hk
end

/-- 'append([]byte(nil), b...)': the same bytes in new memory. -/
theorem app_copy (v : Value) (xs : List UInt8) (w : World) (hbig : xs.length ≤ 1000000000) (h : rBy (Old w) w [v] xs) :
    ∃ v' w', (Builtin.append_ #[26, 26] 26 #[.slice none 0 0, v]).run Tryz.prog w = .ok v' w' ∧ rBy (New w.heap.size w') w' [v'] xs ∧ Below w.heap.size w w' := by
  obtain ⟨i0, hi, hz0, hz1, hz2⟩ := info_parts u8_info0
  obtain ⟨A, cap, rfl, _, _, hb⟩ := rBy_byt (B := w.heap.size) (fun p hp => hp) h
  obtain ⟨v', w', hr, ho, hB⟩ := app_byt (P := Tryz.prog) (w := w) w.heap.size 26 26 5 i0 Tryz.underlying26 hi hz0 hz1 hz2 (.slice none 0 0) 0 [] (World.ownsRow_nil _ _ _ _) w.heap.size A xs.length cap xs hb rfl (by omega) (Nat.le_refl _)
  rw [Nat.zero_add, List.nil_append] at ho
  exact ⟨v', w', hr, own_by ho, hB⟩
theorem does_append {P : Program} {w w' : World} {o : Oper} {a : Act} {R : Value → World → Prop} (s x : Operand) (t : TypeId)
    (ho : o.op = .call { callee := .builtin .append, args := #[s, x], argTypes := #[t, t] }) {v u v' : Value} (hs : a.eval s = v) (hx : a.eval x = u)
    (hrun : (Builtin.append_ #[t, t] o.type #[v, u]).run P w = .ok v' w') (h : R v' w') : doesUpon P R ((execOp a.eval o).run P w) := by
  unfold execOp
  simp only [ho, resolve, invoke, builtin, Sem.run_bind, Sem.run_pure, Result.andThen_ok, List.map_toArray, List.map_cons, List.map_nil, hs, hx, hrun]
  exact h
theorem grow_later {a b c : World} {row : Option Nat} (h : a.grownBy b row) (h' : Below a.heap.size b c) : a.grownBy c row :=
  ⟨h'.os.trans h.os, h'.tape.trans h.tape, h'.output.trans h.output, Nat.le_trans h.size h'.size, fun k hk hn => (h'.block k hk).trans (h.block k hk hn)⟩
end Go.Proofs.YtmdlgnlfgfhkmaaGreat

/-
  The document's answers of layer 3: New, Twin. Conditions: those that each lemma states.
-/
namespace Go.Proofs.YtmdlgnlfgfhkmaaGreat
open Go.RowKit

theorem rows_push {w : World} {lo : Nat} {A : Option Addr} {c : Nat} {xss : List (List UInt8)} (h : RowOf rBy 1 26 lo w A c xss) (g : Nat) (u : Value) (m : Nat) (x : List UInt8) (hg : w.heap[g]? = some (.cells #[u] 26 (0, 0))) (hs : xss.length < 100000) (hbase : lo ≤ w.heap.size) (hx : rBy (NewBut lo A w) w [u] x) :
    ∃ A' c' w', (Builtin.append_ #[22, 22] 22 #[.slice A xss.length c, .slice (some ⟨g, 0, none⟩) 1 m]).run Tryz.prog w = .ok (.slice A' (xss.length + 1) c') w' ∧ RowOf rBy 1 26 lo w' A' c' (xss ++ [x]) ∧ w.grownBy w' (A.map (·.block)) ∧ Below lo w w' := by
  obtain ⟨i0, hi, hz0, hz1, hz2⟩ := info_parts rows_info0
  obtain ⟨E, ce, rfl, _⟩ := id (rBy_open hx)
  exact RowOf.push stab_by h 22 22 i0 (.slice none 0 0) 24 Tryz.underlying22 hi hz0 hz1 hz2 rfl (by decide) ⟨g, 0, none⟩ m _ x rfl (World.news_of_block (cs := #[.slice E x.length ce]) hg) (fun u hu => by
    simp at hu
    subst hu
    rfl) (by unfold maxLen; omega) (by omega) hbase hx

end Go.Proofs.YtmdlgnlfgfhkmaaGreat

/-
  The document's answers of layer 3: Twin. Conditions: those that each lemma states.
-/
namespace Go.Proofs.YtmdlgnlfgfhkmaaGreat
open Go.RowKit

theorem wts_push {w : World} {lo : Nat} {A : Option Addr} {c : Nat} {ws : List Wt} (h : RowOf rWt 2 70 lo w A c ws) (g : Nat) (n : Int) (u : Value) (m : Nat) (x : List UInt8) (hg : w.heap[g]? = some (.cells #[.int .i64 n, u] 70 (0, 0))) (hs : ws.length < 100000) (hbase : lo ≤ w.heap.size) (h1 : -9223372036854775808 ≤ n) (h2 : n ≤ 9223372036854775807) (hx : rBy (NewBut lo A w) w [u] x) :
    ∃ A' c' w', (Builtin.append_ #[23, 23] 23 #[.slice A ws.length c, .slice (some ⟨g, 0, none⟩) 1 m]).run Tryz.prog w = .ok (.slice A' (ws.length + 1) c') w' ∧ RowOf rWt 2 70 lo w' A' c' (ws ++ [(n, x)]) ∧ w.grownBy w' (A.map (·.block)) ∧ Below lo w w' := by
  obtain ⟨i0, hi, hz0, hz1, hz2⟩ := info_parts wts_info0
  obtain ⟨E, ce, rfl, _⟩ := id (rBy_open hx)
  exact RowOf.push stab_wt h 23 23 i0 (.agg #[.int .i64 0, .slice none 0 0]) 32 Tryz.underlying23 hi hz0 hz1 hz2 rfl (by decide) ⟨g, 0, none⟩ m _ (n, x) rfl (World.news_of_block (cs := #[.int .i64 n, .slice E x.length ce]) hg) (fun u hu => by
    simp at hu
    rcases hu with rfl | rfl <;> rfl) (by unfold maxLen; omega) (by omega) hbase (rWt_mk h1 h2 hx)

/-- The cells of a row's elements of the call's own: none lies in the row. -/
theorem RowOf.but {α : Type} {R : Rel α} {size : Nat} {t : TypeId} {lo lo' : Nat} {w w' : World} {A : Option Addr} {c : Nat} {xs : List α} (h : RowOf R size t lo w A c xs) {p : Addr} (hl : w.heap.size ≤ lo') (h2 : lo ≤ lo') (hp : New lo' w' p) : NewBut lo A w' p :=
  ⟨⟨Nat.le_trans h2 hp.1, hp.2⟩, fun e => by
    obtain ⟨cs, hcs, _⟩ := h
    obtain ⟨_, _, e0, _, _, e4, _⟩ := own_any hcs
    cases e0
    have := (hcs.lt _ (by rw [e4]; exact e)).2
    have := hp.1
    omega⟩

/-- A row that lies in no block of disks. -/
def FarB (w : World) (A : Option Addr) : Prop := ∀ b, A.map (·.block) = some b → b < w.heap.size ∧ ∀ cs fr, w.heap[b]? ≠ some (.cells cs 25 fr)
theorem FarB.below {w w' : World} {A : Option Addr} (h : FarB w A) (hb : Below w.heap.size w w') : FarB w' A := fun b e => ⟨Nat.lt_of_lt_of_le (h b e).1 hb.size, fun cs fr => by
  rw [hb.block b (h b e).1]
  exact (h b e).2 cs fr⟩
theorem RowOf.far {α : Type} {R : Rel α} {size : Nat} {t : TypeId} {lo : Nat} {w : World} {A : Option Addr} {c : Nat} {xs : List α} (h : RowOf R size t lo w A c xs) (ht : t ≠ 25) : FarB w A := fun b hb => by
  obtain ⟨cs, h1, _⟩ := h
  cases A with
  | none => simp at hb
  | some ad =>
    simp only [Option.map_some, Option.some.injEq] at hb
    subst hb
    exact ⟨(own_block h1).2.1, fun cs fr e => own_not h1 e ht rfl⟩
set_option maxRecDepth 100000 in
set_option maxHeartbeats 4000000 in
theorem refTwin_far (v : Value) (d : Dk) (w : World) (hs : Small d) (h : Dsk (Old w) w v d) : Calls Tryz.prog 16 #[v] w fun e w' => ∃ X xc Y yc, e = .returned (.agg #[.slice X d.1.length xc, .slice Y d.2.length yc]) ∧ Dsk (New w.heap.size w') w' (.agg #[.slice X d.1.length xc, .slice Y d.2.length yc]) d ∧ FarB w' X ∧ FarB w' Y ∧ Below w.heap.size w w' := by
  obtain ⟨A, c, B, c', rfl, l1, m1, l2, m2, hA, hB⟩ := h.open
  have p1 := hs.rows
  have p2 := hs.waits
  have HS := Lib.hid hs
  have HA := Lib.hid hA
  have HB := Lib.hid hB
  clear hA hB h hs
  obtain ⟨n, hn⟩ : ∃ n, d.1.length = n := ⟨_, rfl⟩
  obtain ⟨m, hm⟩ : ∃ m, d.2.length = m := ⟨_, rfl⟩
  rw [hn] at l1 p1 ⊢
  rw [hm] at l2 p2 ⊢
  replace hn := Lib.hid hn
  replace hm := Lib.hid hm
  obtain ⟨w2, hw2, f1, f2, f3, hsz, hB2⟩ := box_two w (.slice A n c) (.slice B m c') #[.slice none 0 0, .slice none 0 0] 25
  obtain ⟨w3, hw3, g3, hs3, hB3⟩ := box_pair' w2 (.slice none 0 0) (.slice none 0 0) 25
  have S5 : Hid (w.heap.size + 2 = w2.heap.size ∧ w2.heap.size + 1 = w3.heap.size) := Lib.hid ⟨by omega, by omega⟩
  replace hsz := Lib.hid hsz
  replace hs3 := Lib.hid hs3
  replace g3 := Lib.hid g3
  replace f3 := Lib.hid f3
  replace hw3 := Lib.hid hw3
  have hB2' := Lib.hid hB2
  have lt0 : w.heap.size < w2.heap.size := by have := S5.out; omega
  clear hB2
  go_enter Tryz.func16, Tryz.ntmps16
  go_upto_region 2 with fail
  rw [hw3.out]
  clear hw3 hw2
  go_wp2_with fail
  go_loopw [4] (fun i wr => ∃ k : Nat, k ≤ n ∧ i = .int .i64 k ∧ Below w2.heap.size w2 wr ∧ ∃ (A1 : Option Addr) (c1 : Nat), wr.heap[w2.heap.size]? = some (.cells #[.slice A1 k c1, .slice none 0 0] 25 (0, 0)) ∧
      RowOf rBy 1 26 w3.heap.size wr A1 c1 (d.1.take k)) (fun i _ => n - (intOf i).toNat)
  case atStart => exact ⟨0, by omega, rfl, hB3, none, 0, g3.out, RowOf.nil _ _ _ _ _⟩
  case round =>
    obtain ⟨k, hk, rfl, hb, A1, c1, hz, hrow⟩ := hrel
    obtain ⟨r2, r3, r4, r5⟩ := two_cells hz
    have r1 := (hb.cell (p := ⟨w.heap.size, 0, none⟩) lt0).trans f1
    have htl := Lib.hid (show (d.1.take k).length = k by rw [List.length_take, hn.out]; omega)
    replace hrow := Lib.hid hrow
    by_cases hlt : k < n
    · obtain ⟨x, hx⟩ : ∃ x, d.1[k]? = some x := ⟨_, List.getElem?_eq_getElem (by rw [hn.out]; exact hlt)⟩
      obtain ⟨ad, u, rfl, hok, hc, hby⟩ := HA.out k x hx
      have hWr : Below w.heap.size w wr := hB2'.out.trans (hb.mono hB2'.out.size)
      have hcr := (hWr.cell hok).trans hc
      have hbr := stab_by.old hby hWr
      have hbig := HS.out.block k x hx
      have htk := Lib.hid (show d.1.take (k + 1) = d.1.take k ++ [x] by rw [List.take_add_one, hx]; rfl)
      obtain ⟨E, ce, rfl, _⟩ := id (rBy_open hby)
      have t1 := World.block_lt_of_cell? _ _ r1
      have t3 := World.block_lt_of_cell? _ _ hcr
      have i1 : (0 : Int) ≤ (k : Int) := by omega
      have i2 : (k : Int) < (n : Int) := by omega
      replace hx := Lib.hid hx
      replace hbr := Lib.hid hbr
      have hz' := Lib.hid hz
      have hb' := Lib.hid hb
      clear hz hb hc hby hok
      go_wp2_with fail
      refine wp_region_tails (by kernel_rfl) 9 (fun W => Below wr.heap.size wr W) (fun i => match i with
          | 7 => some (fun v W => rBy (New wr.heap.size W) W [v] x)
          | 8 => some (fun v W => ∃ g, v = .slice (some ⟨g, 0, none⟩) 1 1 ∧ wr.heap.size ≤ g ∧ ∃ u, W.heap[g]? = some (.cells #[u] 26 (0, 0)) ∧ rBy (New wr.heap.size W) W [u] x)
          | _ => none) (fun _ => none) (by decide) (by kernel_rfl) (by kernel_rfl) (Below.refl _ _).drew (fun w w' h hb => h.trans (hb.mono h.size)) ?tst ?_
      case tst =>
        intro j φ x W W' hp hx hb
        match j, hp with
        | 7, hp => cases hp; exact stab_by.new hx (Nat.le_refl _) hb
        | 8, hp =>
          cases hp
          obtain ⟨g, e1, e2, u, e3, e4⟩ := hx
          exact ⟨g, e1, e2, u, (hb.block g (Array.getElem?_eq_some_iff.1 e3).1).trans e3, stab_by.new e4 (Nat.le_refl _) hb⟩
      simp only [List.take_succ_cons, List.take_zero, List.drop_succ_cons, List.drop_zero]
      repeat (first
        | (refine wpAs_skip rfl ?_; simp only [Act.put, List.setIfInBounds_toArray, List.set_cons_zero, List.set_cons_succ])
        | (refine wpAs_pure (v := ?_) rfl rfl ?_ ?_; rotate_left; (intro W hC hE; clear hE; (have z1 := (hC.cell t1).trans r1; have z2 := (hC.cell (p := ⟨w2.heap.size, 0, none⟩) r5).trans r2; have z3 := (hC.cell t3).trans hcr); clear hC; go_simp; done); simp only [Act.put, List.setIfInBounds_toArray, List.set_cons_zero, List.set_cons_succ])
        | (refine wpAs_pure (v := ?_) rfl rfl ?_ ?_; rotate_left; (intro W hC hE; clear hE; (have z1 := (hC.cell t1).trans r1; have z2 := (hC.cell (p := ⟨w2.heap.size, 0, none⟩) r5).trans r2; have z3 := (hC.cell t3).trans hcr); clear hC; go_simp; with_reducible rfl); simp only [Act.put, List.setIfInBounds_toArray, List.set_cons_zero, List.set_cons_succ]))
      refine wpAs_act rfl rfl ?_ ?_
      · intro W hC hE
        clear hE
        obtain ⟨v', W', hr, h1, h2⟩ := app_copy (.slice E x.length ce) x W (by omega) (stab_by.old hbr.out hC)
        exact does_append _ _ _ rfl rfl rfl hr ⟨stab_by.mono h1 hC.size, h2⟩
      simp only [Act.put, List.setIfInBounds_toArray, List.set_cons_zero, List.set_cons_succ, envAdd]
      intro x20
      refine wpAs_act rfl rfl ?_ ?_
      · intro W hC hE
        have h9 := hE.1 rfl
        obtain ⟨E, ce, rfl, _⟩ := rBy_open h9
        have hsw := hC.size
        have h9' := Lib.hid (stab_by.new h9 (Nat.le_refl _) ((Below.refl W.heap.size W).alloc (Nat.le_refl _) (.cells #[.slice E x.length ce] 26)))
        clear hE hC h9
        go_simp
        exact ⟨⟨W.heap.size, rfl, hsw, _, heap_alloc_new _ _, h9'.out⟩, (Below.refl _ _).alloc (Nat.le_refl _) _⟩
      simp only [Act.put, List.setIfInBounds_toArray, List.set_cons_zero, List.set_cons_succ, envAdd]
      intro x21
      refine wpAs_end fun W hC hE => ?_
      obtain ⟨⟨g, rfl, hg, u, hg3, hu⟩, _⟩ := hE
      have s5 := S5.out
      have hwr := hb'.out.size
      have hrowW := RowOf.below stab_by hrow.out hC
      have hlo : w3.heap.size ≤ wr.heap.size := by omega
      obtain ⟨A2, c2, w7, hr2, row7, gr7, ba7⟩ := rows_push hrowW g u 1 x hg3 (by rw [htl.out]; omega) (Nat.le_trans hlo hC.size) (stab_by _ _ _ _ _ _ (fun p v hp hc => ⟨hrow.out.but (Nat.le_refl _) hlo hp, hc⟩) hu)
      rw [htl.out] at hr2
      have g7 := (ba7.block w2.heap.size (by omega)).trans ((hC.block w2.heap.size r5).trans hz'.out)
      obtain ⟨w8, hw8, g8, gr8, gs8⟩ := put_fst (u := .slice A2 (k + 1) c2) g7
      have row8 := Lib.hid (RowOf.grown stab_by row7 gr8 (fun q e => by cases e; omega))
      have hb7 : Below w2.heap.size w2 w7 := (hb'.out.trans (hC.mono hb'.out.size)).trans (ba7.mono (by omega))
      have hb8 := Lib.hid (hb7.grown gr8 hb7.size (fun q e => by cases e; omega))
      have z2 := (hC.cell (p := ⟨w2.heap.size, 0, none⟩) r5).trans r2
      obtain ⟨y1, y2, y3, y4⟩ := two_cells g7
      have H2 := Lib.hid hr2
      replace g8 := Lib.hid g8
      replace g7 := Lib.hid g7
      replace hg3 := Lib.hid hg3
      clear hr2 row7 gr7 gr8 ba7 hb7 hrowW hC gs8 hu s5
      go_wp2_with (at_builtin; refine wpList_append_run rfl _ _ _ rfl rfl rfl H2.out ?_; clear H2)
      go_roundw
      case rel => exact ⟨k + 1, by omega, by go_num, hb8.out, A2, c2, g8.out, by rw [htk.out]; exact row8.out⟩
      case measure => simp [intOf]; omega
    · have hge : n ≤ k := by omega
      have hkn := Lib.hid (show k = n by omega)
      have hd1 := Lib.hid (show d.1.take k = d.1 from List.take_of_length_le (by rw [hn.out]; omega))
      replace hrow := Lib.hid (show RowOf rBy 1 26 w3.heap.size wr A1 c1 d.1 by rw [← hd1.out]; exact hrow.out)
      have r1' := (hb.cell (p := ⟨w.heap.size, 1, none⟩) lt0).trans f2
      have hz' := Lib.hid hz
      have hb' := Lib.hid hb
      obtain ⟨wo, rfl⟩ : ∃ wo : World, wo = wr := ⟨_, rfl⟩
      have hws : w3.heap.size ≤ wo.heap.size := by have := S5.out; omega
      clear hz hb
      go_wp2_with fail
      go_loopw [5] (fun i wr => ∃ j : Nat, j ≤ m ∧ i = .int .i64 j ∧ wo.grownBy wr (some w2.heap.size) ∧ ∃ (A2 : Option Addr) (c2 : Nat), wr.heap[w2.heap.size]? = some (.cells #[.slice A1 k c1, .slice A2 j c2] 25 (0, 0)) ∧
          RowOf rWt 2 70 wo.heap.size wr A2 c2 (d.2.take j)) (fun i _ => m - (intOf i).toNat)
      case atStart => exact ⟨0, by omega, rfl, grow_refl _ _, none, 0, hz'.out, RowOf.nil _ _ _ _ _⟩
      case round =>
        obtain ⟨j, hj, rfl, hgr, A2, c2, hz, hrw⟩ := hrel
        obtain ⟨q2, q3, q4, q5⟩ := two_cells hz
        have q1 := (grow_cell hgr (p := ⟨w.heap.size, 1, none⟩) (by have := S5.out; show w.heap.size < _; omega) (fun e => by simp only [Option.some.injEq] at e; omega)).trans r1'
        have htl := Lib.hid (show (d.2.take j).length = j by rw [List.length_take, hm.out]; omega)
        replace hrw := Lib.hid hrw
        have hb2 : Below w2.heap.size w2 wr := hb'.out.grown hgr hb'.out.size (fun q e => by cases e; omega)
        by_cases hlt2 : j < m
        · obtain ⟨x, hx⟩ : ∃ x, d.2[j]? = some x := ⟨_, List.getElem?_eq_getElem (by rw [hm.out]; exact hlt2)⟩
          obtain ⟨ad, u, rfl, hok, hok', hc, hc', hby, b1, b2⟩ := HB.out j x hx
          have hWr : Below w.heap.size w wr := hB2'.out.trans (hb2.mono hB2'.out.size)
          have hcr := (hWr.cell hok).trans hc
          have hcr' := (hWr.cell hok').trans hc'
          rw [add_next] at hcr'
          have hbr := stab_by.old hby hWr
          have hbig := HS.out.wait j x hx
          have htk := Lib.hid (show d.2.take (j + 1) = d.2.take j ++ [x] by rw [List.take_add_one, hx]; rfl)
          obtain ⟨E, ce, rfl, _⟩ := id (rBy_open hby)
          obtain ⟨xi, xb⟩ := x
          obtain ⟨q, hq'⟩ : ∃ q, xb.length = q := ⟨_, rfl⟩
          replace hbr : rBy (Old wr) wr [.slice E xb.length ce] xb := hbr
          replace hcr' : wr.cell? _ = some (.slice E xb.length ce) := hcr'
          rw [hq'] at hcr' hbr
          replace hq' := Lib.hid hq'
          have t1 := World.block_lt_of_cell? _ _ q1
          have t3 := World.block_lt_of_cell? _ _ hcr
          have t4 := World.block_lt_of_cell? _ _ hcr'
          have i1 : (0 : Int) ≤ (j : Int) := by omega
          have i2 : (j : Int) < (m : Int) := by omega
          replace hx := Lib.hid hx
          replace hbr := Lib.hid hbr
          have hz2 := Lib.hid hz
          have hgr' := Lib.hid hgr
          have hb2' := Lib.hid hb2
          clear hz hgr hb2 hc hc' hby hok hok' hWr
          go_wp2_with fail
          refine wp_region_tails (by kernel_rfl) 17 (fun W => Below wr.heap.size wr W) (fun i => match i with
              | 14 => some (fun v W => rBy (New wr.heap.size W) W [v] xb)
              | 15 => some (fun v W => ∃ E ce, v = .agg #[.int .i64 xi, .slice E q ce] ∧ rBy (New wr.heap.size W) W [.slice E q ce] xb)
              | 16 => some (fun v W => ∃ g, v = .slice (some ⟨g, 0, none⟩) 1 1 ∧ wr.heap.size ≤ g ∧ ∃ u, W.heap[g]? = some (.cells #[.int .i64 xi, u] 70 (0, 0)) ∧ rBy (New wr.heap.size W) W [u] xb)
              | _ => none) (fun _ => none) (by decide) (by kernel_rfl) (by kernel_rfl) (Below.refl _ _).drew (fun w w' h hb => h.trans (hb.mono h.size)) ?tst2 ?_
          case tst2 =>
            intro j φ x W W' hp hx hb
            match j, hp with
            | 14, hp => cases hp; exact stab_by.new hx (Nat.le_refl _) hb
            | 15, hp =>
              cases hp
              obtain ⟨E, ce, e1, e2⟩ := hx
              exact ⟨E, ce, e1, stab_by.new e2 (Nat.le_refl _) hb⟩
            | 16, hp =>
              cases hp
              obtain ⟨g, e1, e2, u, e3, e4⟩ := hx
              exact ⟨g, e1, e2, u, (hb.block g (Array.getElem?_eq_some_iff.1 e3).1).trans e3, stab_by.new e4 (Nat.le_refl _) hb⟩
          simp only [List.take_succ_cons, List.take_zero, List.drop_succ_cons, List.drop_zero]
          repeat (first
            | (refine wpAs_skip rfl ?_; simp only [Act.put, List.setIfInBounds_toArray, List.set_cons_zero, List.set_cons_succ])
            | (refine wpAs_pure (v := ?_) rfl rfl ?_ ?_; rotate_left; (intro W hC hE; clear hE; (have z1 := (hC.cell t1).trans q1; have z2 := (hC.cell (p := ⟨w2.heap.size, 1, none⟩) q5).trans q3; have z3 := (hC.cell t3).trans hcr; have z4 := (hC.cell (p := ⟨(ad.add (j * 2)).block, (ad.add (j * 2)).off + 1, none⟩) t4).trans hcr'); clear hC; go_simp; done); simp only [Act.put, List.setIfInBounds_toArray, List.set_cons_zero, List.set_cons_succ])
            | (refine wpAs_pure (v := ?_) rfl rfl ?_ ?_; rotate_left; (intro W hC hE; clear hE; (have z1 := (hC.cell t1).trans q1; have z2 := (hC.cell (p := ⟨w2.heap.size, 1, none⟩) q5).trans q3; have z3 := (hC.cell t3).trans hcr; have z4 := (hC.cell (p := ⟨(ad.add (j * 2)).block, (ad.add (j * 2)).off + 1, none⟩) t4).trans hcr'); clear hC; go_simp; with_reducible rfl); simp only [Act.put, List.setIfInBounds_toArray, List.set_cons_zero, List.set_cons_succ]))
          refine wpAs_act rfl rfl ?_ ?_
          · intro W hC hE
            clear hE
            obtain ⟨v', W', hr, h1, h2⟩ := app_copy (.slice E q ce) xb W (by have := hq'.out; omega) (stab_by.old hbr.out hC)
            exact does_append _ _ _ rfl rfl rfl hr ⟨stab_by.mono h1 hC.size, h2⟩
          simp only [Act.put, List.setIfInBounds_toArray, List.set_cons_zero, List.set_cons_succ, envAdd]
          intro x45
          refine wpAs_act rfl rfl ?_ ?_
          · intro W hC hE
            have h9 := hE.1 rfl
            obtain ⟨E, ce, rfl, _⟩ := rBy_open h9
            rw [hq'.out] at h9
            clear hE hC
            have h9' := Lib.hid h9
            clear h9
            go_simp
            have := hq'.out
            exact ⟨⟨E, ce, by rw [this], h9'.out⟩, Below.refl _ _⟩
          simp only [Act.put, List.setIfInBounds_toArray, List.set_cons_zero, List.set_cons_succ, envAdd]
          intro x46
          refine wpAs_act rfl rfl ?_ ?_
          · intro W hC hE
            obtain ⟨E, ce, rfl, h9⟩ := hE.1 rfl
            have hsw := hC.size
            have h9' := Lib.hid (stab_by.new h9 (Nat.le_refl _) ((Below.refl W.heap.size W).alloc (Nat.le_refl _) (.cells #[.int .i64 xi, .slice E q ce] 70)))
            clear hE hC h9
            go_simp
            exact ⟨⟨W.heap.size, rfl, hsw, _, heap_alloc_new _ _, h9'.out⟩, (Below.refl _ _).alloc (Nat.le_refl _) _⟩
          simp only [Act.put, List.setIfInBounds_toArray, List.set_cons_zero, List.set_cons_succ, envAdd]
          intro x47
          refine wpAs_end fun W hC hE => ?_
          obtain ⟨⟨g, rfl, hg, u, hg3, hu⟩, _⟩ := hE
          have hwr := hgr'.out.size
          have hrowW := RowOf.below stab_wt hrw.out hC
          obtain ⟨A3, c3, w7, hr2, row7, gr7, ba7⟩ := wts_push hrowW g xi u 1 xb hg3 (by rw [htl.out]; omega) (Nat.le_trans hwr hC.size) b1 b2 (stab_by _ _ _ _ _ _ (fun p v hp hc => ⟨hrw.out.but (Nat.le_refl _) hwr hp, hc⟩) hu)
          rw [htl.out] at hr2
          have g7 := (ba7.block w2.heap.size (by have := S5.out; omega)).trans ((hC.block w2.heap.size q5).trans hz2.out)
          obtain ⟨w8, hw8, g8, gr8, gs8⟩ := put_snd (u := .slice A3 (j + 1) c3) g7
          have s5 := S5.out
          have row8 := Lib.hid (RowOf.grown stab_wt row7 gr8 (fun q e => by cases e; omega))
          have hg8 := Lib.hid (grow_trans (grow_later (grow_later hgr'.out (hC.mono hwr)) ba7) gr8)
          have z2 := (hC.cell (p := ⟨w2.heap.size, 1, none⟩) q5).trans q3
          obtain ⟨y1, y2, y3, y4⟩ := two_cells g7
          have H2 := Lib.hid hr2
          replace g8 := Lib.hid g8
          replace g7 := Lib.hid g7
          replace hg3 := Lib.hid hg3
          clear hr2 row7 gr7 gr8 ba7 hrowW hC gs8 hu s5
          go_wp2_with (at_builtin; refine wpList_append_run rfl _ _ _ rfl rfl rfl H2.out ?_; clear H2)
          go_roundw
          case rel => exact ⟨j + 1, by omega, by go_num, hg8.out, A3, c3, g8.out, by rw [htk.out]; exact row8.out⟩
          case measure => simp [intOf]; omega
        · have hge2 : m ≤ j := by omega
          have hjm := Lib.hid (show j = m by omega)
          have hd2 := Lib.hid (show d.2.take j = d.2 from List.take_of_length_le (by rw [hm.out]; omega))
          have s5 := S5.out
          have gz := (hb2.block (w.heap.size + 1) (by omega)).trans f3.out
          obtain ⟨k1, k2, k3, k4⟩ := two_cells gz
          obtain ⟨W9, hW9, g9, gr9, gs9⟩ := put_two (u := .slice A1 k c1) (v := .slice A2 j c2) gz
          obtain ⟨k5, k6, _, _⟩ := two_cells g9
          have hBr : Below w.heap.size w wr := hB2'.out.trans (hb2.mono hB2'.out.size)
          have hB9 : Below w.heap.size w W9 := hBr.grown gr9 hBr.size (fun q e => by cases e; omega)
          have row1 := RowOf.low stab_by (RowOf.grown stab_by (RowOf.grown stab_by hrow.out hgr (fun q e => by cases e; omega)) gr9 (fun q e => by cases e; omega)) (show w.heap.size ≤ w3.heap.size by omega)
          have row2 := RowOf.low stab_wt (RowOf.grown stab_wt hrw.out gr9 (fun q e => by cases e; omega)) (show w.heap.size ≤ wo.heap.size by omega)
          have hfin : Hid (Dsk (New w.heap.size W9) W9 (.agg #[.slice A1 k c1, .slice A2 j c2]) d) := Lib.hid (by
            have h1 := row1.rel stab_by
            have h2 := row2.rel stab_wt
            rw [htl.out, hd2.out] at h2
            rw [hn.out, ← hkn.out] at h1
            exact ⟨_, _, rfl, h1, h2⟩)
          have hfar : Hid (FarB W9 A1 ∧ FarB W9 A2) := Lib.hid ⟨row1.far (by decide), row2.far (by decide)⟩
          clear row1 row2 hrow hrw hz g9 gr9 s5 hgr
          go_wp2_with fail
          exact bodyPost_ret (v := .agg #[.slice A1 k c1, .slice A2 j c2]) (by simp [results, Tryz.results16, go_sem, k5, k6]) rfl ⟨A1, c1, A2, c2, by rw [hkn.out, hjm.out], by have h := hfin.out; rwa [hkn.out, hjm.out] at h, hfar.out.1, hfar.out.2, hB9⟩
theorem refTwin_any (v : Value) (d : Dk) (w : World) (hs : Small d) (h : Dsk (Old w) w v d) : Calls Tryz.prog 16 #[v] w fun e w' => ∃ u, e = .returned u ∧ Dsk (New w.heap.size w') w' u d ∧ Below w.heap.size w w' :=
  (refTwin_far v d w hs h).mono fun _ _ ⟨_, _, _, _, e, h1, _, _, h4⟩ => ⟨_, e, h1, h4⟩
theorem zero_box_cell {w : World} {g : Nat} {t : TypeId} {fr : Nat × Nat} (hz : w.heap[g]? = some (.cells #[.slice none 0 0, .slice none 0 0] t fr)) {p : Addr} {u : Value} (hp : p.block = g) (hc : w.cell? p = some u) : u = .slice none 0 0 := by
  unfold World.cell? at hc
  rw [hp, hz] at hc
  dsimp only at hc
  split at hc
  · cases hc
  · rcases hk : p.off with _ | _ | k
    · rw [hk] at hc
      exact (Option.some.inj hc).symm
    · rw [hk] at hc
      exact (Option.some.inj hc).symm
    · rw [hk] at hc
      simp at hc
theorem far_by {ok : Addr → Prop} {w : World} {g : Nat} {t : TypeId} {fr : Nat × Nat} (hz : w.heap[g]? = some (.cells #[.slice none 0 0, .slice none 0 0] t fr)) {cs : List Value} {x : List UInt8} (hx : rBy ok w cs x) : rBy (fun p => ok p ∧ p.block ≠ g) w cs x := by
  obtain ⟨A, cap, e, l1, m1, hc⟩ := hx
  refine ⟨A, cap, e, l1, m1, fun i y hy => ?_⟩
  obtain ⟨ad, vs, e1, e2, e3, e4⟩ := hc i y hy
  refine ⟨ad, vs, e1, e2, fun j v hj => ⟨⟨(e3 j v hj).1, fun eg => ?_⟩, (e3 j v hj).2⟩, e4⟩
  have hcell := (e3 j v hj).2
  have hv := zero_box_cell hz eg hcell
  unfold rU8 at e4
  subst e4
  have hj0 : j = 0 := by
    have := (List.getElem?_eq_some_iff.1 hj).1
    simp at this
    omega
  subst hj0
  cases hj
  cases hv
/-- A disk whose rows lie in no block of disks holds no cell of a disk's block of noughts. -/
theorem far_but {ok : Addr → Prop} {w : World} {X Y : Option Addr} {xc yc : Nat} {d : Dk} (h : Dsk ok w (.agg #[.slice X d.1.length xc, .slice Y d.2.length yc]) d) (h1 : FarB w X) (h2 : FarB w Y) {g : Nat} {fr : Nat × Nat}
    (hz : w.heap[g]? = some (.cells #[.slice none 0 0, .slice none 0 0] 25 fr)) : Dsk (fun p => ok p ∧ p.block ≠ g) w (.agg #[.slice X d.1.length xc, .slice Y d.2.length yc]) d := by
  obtain ⟨p1, p2⟩ := h.parts
  obtain ⟨A, cap, e, l1, m1, hA⟩ := p1
  obtain ⟨B, cap2, e', l2, m2, hB⟩ := p2
  have eX : X = A := by cases e; rfl
  have eY : Y = B := by cases e'; rfl
  have n1 : ∀ ad : Addr, A = some ad → ∀ k, (ad.add k).block ≠ g := fun ad ea k eg => (h1 g (by rw [eX, ea]; simpa [add_block] using eg)).2 _ _ hz
  have n2 : ∀ ad : Addr, B = some ad → ∀ k, (ad.add k).block ≠ g := fun ad ea k eg => (h2 g (by rw [eY, ea]; simpa [add_block] using eg)).2 _ _ hz
  refine ⟨_, _, rfl, ⟨A, cap, e, l1, m1, fun i x hx => ?_⟩, ⟨B, cap2, e', l2, m2, fun i x hx => ?_⟩⟩
  · obtain ⟨ad, vs, e1, e2, e3, e4⟩ := hA i x hx
    exact ⟨ad, vs, e1, e2, fun j v hj => ⟨⟨(e3 j v hj).1, n1 ad e1 _⟩, (e3 j v hj).2⟩, far_by hz e4⟩
  · obtain ⟨ad, vs, e1, e2, e3, e4⟩ := hB i x hx
    obtain ⟨u, rfl, k1, k2, hu⟩ := rWt_open e4
    exact ⟨ad, _, e1, e2, fun j v hj => ⟨⟨(e3 j v hj).1, n2 ad e1 _⟩, (e3 j v hj).2⟩, rWt_mk k1 k2 (far_by hz hu)⟩
end Go.Proofs.YtmdlgnlfgfhkmaaGreat

/-
  The law's own spoil (layer 3): every byte of a disk of the call's own is turned; what lies below stays. Condition: the disk's cells lie at lo and above and may be written.
-/
namespace Go.Proofs.YtmdlgnlfgfhkmaaGreat
open Go.RowKit

structure Spoilt (lo : Nat) (w wr : World) : Prop where
  low : Below lo w wr
  fro : ∀ p : Addr, p.block < w.heap.size → wr.frozen? p = w.frozen? p
  rest : ∀ (p : Addr) (v : Value), p.block < w.heap.size → w.cell? p = some v → (∀ x, v ≠ .int .u8 x) → wr.cell? p = some v
  byte : ∀ (p : Addr) (x : UInt8), p.block < w.heap.size → w.cell? p = some (.int .u8 (x.toNat : Int)) → ∃ y : UInt8, wr.cell? p = some (.int .u8 (y.toNat : Int))
theorem Spoilt.refl (lo : Nat) (w : World) : Spoilt lo w w := ⟨Below.refl _ _, fun _ _ => rfl, fun _ _ _ h _ => h, fun _ x _ h => ⟨x, h⟩⟩
theorem Spoilt.step {lo : Nat} {w wr : World} (h : Spoilt lo w wr) {p : Addr} (hp : lo ≤ p.block) {x : UInt8} (hx : wr.cell? p = some (.int .u8 (x.toNat : Int))) (y : UInt8) : Spoilt lo w (wr.setCell p (.int .u8 (y.toNat : Int))) := by
  refine ⟨h.low.setCell hp _, fun q hq => by rw [World.frozen?_setCell]; exact h.fro q hq, fun q v hq hc hv => ?_, fun q z hq hc => ?_⟩
  · have h1 := h.rest q v hq hc hv
    rw [World.cell?_setCell_other _ _ _ _ (fun e => by
      subst e
      rw [h1] at hx
      exact hv _ (Option.some.inj hx))]
    exact h1
  · by_cases e : p = q
    · subst e
      exact ⟨y, World.cell?_setCell_same _ _ _ hx⟩
    · rw [World.cell?_setCell_other _ _ _ _ e]
      exact h.byte q z hq hc
theorem Spoilt.drew {lo : Nat} {w wr : World} (h : Spoilt lo w wr) : Spoilt lo w wr.drew :=
  ⟨h.low.drew, fun p hp => by simpa using h.fro p hp, fun p v hp hc hv => by simpa using h.rest p v hp hc hv, fun p x hp hc => by simpa using h.byte p x hp hc⟩
theorem Spoilt.after {lo : Nat} {w w0 wr : World} (h : Spoilt lo w0 wr) (hlo : lo ≤ w.heap.size) (hb : Below w.heap.size w w0) : Spoilt lo w wr :=
  ⟨(hb.mono hlo).trans h.low, fun p hp => (h.fro p (Nat.lt_of_lt_of_le hp hb.size)).trans (hb.frozen hp), fun p v hp hc hv => h.rest p v (Nat.lt_of_lt_of_le hp hb.size) ((hb.cell hp).trans hc) hv, fun p x hp hc => h.byte p x (Nat.lt_of_lt_of_le hp hb.size) ((hb.cell hp).trans hc)⟩
theorem Spoilt.new {lo lo' : Nat} {w wr : World} (h : Spoilt lo w wr) {p : Addr} (hp : New lo' w p) : New lo' wr p := ⟨hp.1, Nat.lt_of_lt_of_le hp.2.1 h.low.size, (h.fro p hp.2.1).trans hp.2.2⟩
theorem Spoilt.by {lo lo' : Nat} {w wr : World} {v : Value} {xs : List UInt8} (h : Spoilt lo w wr) (hx : rBy (New lo' w) w [v] xs) : ∃ ys : List UInt8, ys.length = xs.length ∧ rBy (New lo' wr) wr [v] ys := by
  obtain ⟨A, cap, h1, h2, h3, h4⟩ := hx
  obtain ⟨ys, hl, hy⟩ := list_of (n := xs.length) (p := fun i y => ∃ ad vs, A = some ad ∧ vs.length = 1 ∧ (∀ j v, vs[j]? = some v → New lo' wr (ad.add (i * 1 + j)) ∧ wr.cell? (ad.add (i * 1 + j)) = some v) ∧ rU8 (New lo' wr) wr vs y) (fun i hi => by
    obtain ⟨ad, vs, e1, e2, e3, e4⟩ := h4 i _ (List.getElem?_eq_getElem hi)
    unfold rU8 at e4
    subst e4
    obtain ⟨k1, k2⟩ := e3 0 _ rfl
    obtain ⟨y, hy⟩ := h.byte _ _ k1.2.1 k2
    refine ⟨y, ad, [.int .u8 (y.toNat : Int)], e1, rfl, fun j v hj => ?_, rfl⟩
    have hj0 : j = 0 := by
      have := (List.getElem?_eq_some_iff.1 hj).1
      simp at this
      omega
    subst hj0
    cases hj
    exact ⟨h.new k1, hy⟩)
  exact ⟨ys, hl, A, cap, by rw [hl]; exact h1, by rw [hl]; exact h2, h3, fun i y hi => hy i y hi⟩
/-- What is spoilt is a disk all the same. -/
theorem Spoilt.dsk {lo lo' : Nat} {w wr : World} {v : Value} {d : Dk} (h : Spoilt lo w wr) (hd : Dsk (New lo' w) w v d) : ∃ d', Dsk (New lo' wr) wr v d' := by
  obtain ⟨a, b, e, ⟨A, c, a1, a2, a3, a4⟩, ⟨B, c', b1, b2, b3, b4⟩⟩ := hd
  have keep : ∀ (ad : Addr) (k : Nat) (E : Option Addr) (n c : Nat), New lo' w (ad.add k) → w.cell? (ad.add k) = some (.slice E n c) → New lo' wr (ad.add k) ∧ wr.cell? (ad.add k) = some (.slice E n c) := fun ad k E n c k1 k2 => ⟨h.new k1, h.rest _ _ k1.2.1 k2 (by simp)⟩
  obtain ⟨xs, hl, hx⟩ := list_of (n := d.1.length) (p := fun i y => ∃ ad vs, A = some ad ∧ vs.length = 1 ∧ (∀ j v, vs[j]? = some v → New lo' wr (ad.add (i * 1 + j)) ∧ wr.cell? (ad.add (i * 1 + j)) = some v) ∧ rBy (New lo' wr) wr vs y) (fun i hi => by
    obtain ⟨ad, vs, e1, e2, e3, e4⟩ := a4 i _ (List.getElem?_eq_getElem hi)
    match vs, e2 with
    | [u], _ =>
      obtain ⟨ys, _, hy⟩ := h.by e4
      refine ⟨ys, ad, [u], e1, rfl, fun j v hj => ?_, hy⟩
      have hj0 : j = 0 := by
        have := (List.getElem?_eq_some_iff.1 hj).1
        simp at this
        omega
      subst hj0
      cases hj
      obtain ⟨k1, k2⟩ := e3 0 _ rfl
      obtain ⟨E, ce, rfl, _⟩ := rBy_open e4
      exact keep _ _ _ _ _ k1 k2)
  obtain ⟨ws, hl2, hx2⟩ := list_of (n := d.2.length) (p := fun i (y : Wt) => ∃ ad vs, B = some ad ∧ vs.length = 2 ∧ (∀ j v, vs[j]? = some v → New lo' wr (ad.add (i * 2 + j)) ∧ wr.cell? (ad.add (i * 2 + j)) = some v) ∧ rWt (New lo' wr) wr vs y) (fun i hi => by
    obtain ⟨ad, vs, e1, e2, e3, e4⟩ := b4 i _ (List.getElem?_eq_getElem hi)
    obtain ⟨u, rfl, n1, n2, hu⟩ := rWt_open e4
    obtain ⟨ys, _, hy⟩ := h.by hu
    refine ⟨(d.2[i].1, ys), ad, _, e1, e2, fun j v hj => ?_, rWt_mk n1 n2 hy⟩
    match j, hj with
    | 0, hj =>
      cases hj
      obtain ⟨k1, k2⟩ := e3 0 _ rfl
      exact ⟨h.new k1, h.rest _ _ k1.2.1 k2 (by simp)⟩
    | 1, hj =>
      cases hj
      obtain ⟨k1, k2⟩ := e3 1 _ rfl
      obtain ⟨E, ce, rfl, _⟩ := rBy_open hu
      exact keep _ _ _ _ _ k1 k2)
  exact ⟨(xs, ws), a, b, e, ⟨A, c, by rw [hl]; exact a1, by rw [hl]; exact a2, a3, hx⟩, ⟨B, c', by rw [hl2]; exact b1, by rw [hl2]; exact b2, b3, hx2⟩⟩
theorem u8_succ3 (p : UInt8) : IntKind.u8.wrap ((p.toNat : Int) + 1) = ((p + 1).toNat : Int) := by
  rw [IntKind.wrap_u8', UInt8.toNat_add]
  simp

end Go.Proofs.YtmdlgnlfgfhkmaaGreat

/-
  Package dev at whatever arguments, its answers in new memory; a bag of facts that stay where memory grows. Conditions: those that each lemma states.
-/
namespace Go.Proofs.YtmdlgnlfgfhkmaaGreat
open Go.RowKit

theorem rBy_none_new (lo : Nat) (w : World) : rBy (New lo w) w [.slice none 0 0] [] := ⟨none, 0, rfl, by simp, by omega, fun i x h => by simp at h⟩
theorem read_all (v : Value) (d : Dk) (n : Int) (w : World) (h : Dsk (Old w) w v d) :
    Calls Tryz.prog 90 #[v, .int .i64 n] w fun e w' => ∃ u, e = .returned (.tuple #[u, .int .i64 (chkAt d n)]) ∧ rBy (New w.heap.size w') w' [u] (rdX d n) ∧ Below w.heap.size w w' := by
  by_cases hn : mayB d = true ∧ thereB n = true
  · obtain ⟨hm, ht⟩ := hn
    have e0 : chkAt d n = 0 := by simp [chkAt, hm, ht]
    obtain ⟨k, rfl, hk⟩ := thereB_nat ht
    refine (read_ok v d k w h hm hk).mono ?_
    rintro e w' ⟨u, rfl, hu, hb⟩
    have e1 : rdX d (k : Int) = seenD d k := by simp [rdX, e0]
    rw [e0, e1]
    exact ⟨u, rfl, hu, hb⟩
  · refine (read_bad v d n w h hn).mono ?_
    rintro e w' ⟨rfl, hb⟩
    have e0 : chkAt d n ≠ 0 := by
      unfold chkAt
      cases h1 : mayB d <;> cases h2 : thereB n <;> simp_all
    have e1 : rdX d n = [] := by simp [rdX, e0]
    rw [e1]
    exact ⟨_, rfl, rBy_none_new _ _, hb⟩
theorem write_all (v u : Value) (d : Dk) (n : Int) (xs : List UInt8) (w : World) (h : Dsk (Old w) w v d) (hu : rBy (Old w) w [u] xs) :
    Calls Tryz.prog 36 #[v, .int .i64 n, u] w fun e w' => ∃ x, e = .returned (.tuple #[x, .int .i64 (wErr d n xs)]) ∧ Dsk (New w.heap.size w') w' x (wrR d n xs) ∧ Below w.heap.size w w' :=
  (write_new v u d n xs w h hu).mono fun _ _ ⟨_, _, _, _, e, hx, hb⟩ => ⟨_, e, hx, hb⟩
/-! ### A bag of facts -/
/-- It stays where memory grows. -/
def Lasts (F : World → Prop) : Prop := ∀ w w', F w → Below w.heap.size w w' → F w'
def Bag (w : World) (Fs : List (World → Prop)) : Prop := ∀ F ∈ Fs, F w ∧ Lasts F
section
variable {w w' : World} {Fs : List (World → Prop)} {F : World → Prop}
theorem Bag.nil (w : World) : Bag w [] := fun F h => by cases h
theorem Bag.below (h : Bag w Fs) (hb : Below w.heap.size w w') : Bag w' Fs := fun F hF => ⟨(h F hF).2 w w' (h F hF).1 hb, (h F hF).2⟩
theorem Bag.add (h : Bag w Fs) (hF : F w) (hk : Lasts F) : Bag w (F :: Fs) := fun G hG => by
  rcases List.mem_cons.1 hG with h1 | h1
  · rw [h1]
    exact ⟨hF, hk⟩
  · exact h G h1
theorem Bag.at (h : Bag w Fs) (i : Nat) (hi : Fs[i]? = some F) : F w := (h F (List.mem_of_getElem? hi)).1
end
/-- Two cells that are a box. -/
def Box2 (g : Nat) (a b : Value) : World → Prop := fun w => w.cell? ⟨g, 0, none⟩ = some a ∧ w.cell? ⟨g, 1, none⟩ = some b ∧ g < w.heap.size
theorem lasts_box (g : Nat) (a b : Value) : Lasts (Box2 g a b) := fun _ _ h hb => ⟨(hb.cell (p := ⟨g, 0, none⟩) h.2.2).trans h.1, (hb.cell (p := ⟨g, 1, none⟩) h.2.2).trans h.2.1, Nat.lt_of_lt_of_le h.2.2 hb.size⟩
theorem Spoilt.box {lo : Nat} {w wr : World} (h : Spoilt lo w wr) {g : Nat} {A B : Option Addr} {n c m e : Nat} (hb : Box2 g (.slice A n c) (.slice B m e) w) : Box2 g (.slice A n c) (.slice B m e) wr :=
  ⟨h.rest ⟨g, 0, none⟩ _ hb.2.2 hb.1 (by simp), h.rest ⟨g, 1, none⟩ _ hb.2.2 hb.2.1 (by simp), Nat.lt_of_lt_of_le hb.2.2 h.low.size⟩
def OldD (v : Value) (d : Dk) : World → Prop := fun w => Dsk (Old w) w v d
def NewD (lo : Nat) (v : Value) (d : Dk) : World → Prop := fun w => Dsk (New lo w) w v d
def OldB (v : Value) (xs : List UInt8) : World → Prop := fun w => rBy (Old w) w [v] xs
def NewB (lo : Nat) (v : Value) (xs : List UInt8) : World → Prop := fun w => rBy (New lo w) w [v] xs
def OldK (v : Value) (ks : List Bool) : World → Prop := fun w => rSl 1 rBool (Old w) w [v] ks
theorem lasts_oldD (v : Value) (d : Dk) : Lasts (OldD v d) := fun _ _ h hb => h.below hb
theorem lasts_newD (lo : Nat) (v : Value) (d : Dk) : Lasts (NewD lo v d) := fun _ _ h hb => h.new (Nat.le_refl _) hb
theorem lasts_oldB (v : Value) (xs : List UInt8) : Lasts (OldB v xs) := fun _ _ h hb => stab_by.old h hb
theorem lasts_newB (lo : Nat) (v : Value) (xs : List UInt8) : Lasts (NewB lo v xs) := fun _ _ h hb => stab_by.new h (Nat.le_refl _) hb
theorem lasts_oldK (v : Value) (ks : List Bool) : Lasts (OldK v ks) := fun _ _ h hb => (stab_sl stab_bool).old h hb
def SizeF (lo : Nat) : World → Prop := fun w => lo ≤ w.heap.size
theorem lasts_size (lo : Nat) : Lasts (SizeF lo) := fun _ _ h hb => Nat.le_trans h hb.size
/-- A box that is just made. -/
theorem bag_box {w w1 : World} {Fs : List (World → Prop)} (h : Bag w Fs) (hb : Below w.heap.size w w1) (a b : Value) : ∃ w', w1.alloc (.cells #[a, b] 25) = w' ∧ Bag w' (Box2 w1.heap.size a b :: Fs) ∧ Below w.heap.size w w' ∧ Below w1.heap.size w1 w' ∧ w1.heap.size < w'.heap.size := by
  obtain ⟨w2, e2, k1, k2, k3, k4⟩ := box_pair w1 a b 25
  exact ⟨w2, e2, ((h.below hb).below k4).add ⟨k1, k2, by omega⟩ (lasts_box _ _ _), hb.trans (k4.mono hb.size), k4, by omega⟩
end Go.Proofs.YtmdlgnlfgfhkmaaGreat

/-
  Package count: Up, Down, Sum, and the document's. Conditions: those that each lemma states.
-/
namespace Go.Proofs.YtmdlgnlfgfhkmaaGreat
open Go.RowKit

/-! ### Counts that are turned -/
def inT (n : Int) : Bool := decide (8 ≤ n) && decide (n < 256)
def turnE (t : List UInt8) (n : Int) (x : UInt8) : Int := if mayT t then (if inT n then (if t[n.toNat]?.getD 0 = x then 70 else 0) else 2) else 8
def upE (t : List UInt8) (n : Int) : Int := turnE t n 255
def dnE (t : List UInt8) (n : Int) : Int := turnE t n 0
def upV (t : List UInt8) (n : Int) : List UInt8 := if upE t n = 0 then t.set n.toNat (t[n.toNat]?.getD 0 + 1) else []
def dnV (t : List UInt8) (n : Int) : List UInt8 := if dnE t n = 0 then t.set n.toNat (t[n.toNat]?.getD 0 - 1) else []
theorem turnE_bad {t : List UInt8} {n : Int} {x : UInt8} (h : mayT t = false) : turnE t n x = 8 := by simp [turnE, h]
theorem turnE_out {t : List UInt8} {n : Int} {x : UInt8} (h : mayT t = true) (h' : inT n = false) : turnE t n x = 2 := by simp [turnE, h, h']
theorem turnE_end {t : List UInt8} {n : Int} {x : UInt8} (h : mayT t = true) (h' : inT n = true) (h2 : t[n.toNat]?.getD 0 = x) : turnE t n x = 70 := by simp [turnE, h, h', h2]
theorem turnE_ok {t : List UInt8} {n : Int} {x : UInt8} (h : mayT t = true) (h' : inT n = true) (h2 : t[n.toNat]?.getD 0 ≠ x) : turnE t n x = 0 := by simp [turnE, h, h', h2]
theorem inT_nat {n : Int} (h : inT n = true) : ∃ k : Nat, n = k ∧ 8 ≤ k ∧ k < 256 := by
  simp only [inT, Bool.and_eq_true, decide_eq_true_eq] at h
  exact ⟨n.toNat, by omega, by omega, by omega⟩
theorem inT_of {k : Nat} (h : 8 ≤ k) (h' : k < 256) : inT (k : Int) = true := by
  simp only [inT, Bool.and_eq_true, decide_eq_true_eq]
  omega
theorem inT_no {n : Int} (h : inT n = false) : n < 8 ∨ 256 ≤ n := by
  simp only [inT, Bool.and_eq_false_iff, decide_eq_false_iff_not] at h
  omega
/-- The four ways of a turn. -/
theorem turn_ways (t : List UInt8) (n : Int) (x : UInt8) : (mayT t = false ∧ turnE t n x = 8) ∨ (mayT t = true ∧ (n < 8 ∨ 256 ≤ n) ∧ turnE t n x = 2) ∨ (∃ k : Nat, mayT t = true ∧ n = k ∧ 8 ≤ k ∧ k < 256 ∧ t[k]?.getD 0 = x ∧ turnE t n x = 70) ∨
    (∃ k : Nat, mayT t = true ∧ n = k ∧ 8 ≤ k ∧ k < 256 ∧ t[k]?.getD 0 ≠ x ∧ turnE t n x = 0) := by
  cases hm : mayT t with
  | false => exact .inl ⟨rfl, turnE_bad hm⟩
  | true =>
    cases hi : inT n with
    | false => exact .inr (.inl ⟨rfl, inT_no hi, turnE_out hm hi⟩)
    | true =>
      obtain ⟨k, rfl, h1, h2⟩ := inT_nat hi
      by_cases hx : t[k]?.getD 0 = x
      · exact .inr (.inr (.inl ⟨k, rfl, rfl, h1, h2, hx, turnE_end hm hi hx⟩))
      · exact .inr (.inr (.inr ⟨k, rfl, rfl, h1, h2, hx, turnE_ok hm hi hx⟩))
theorem byte_same {x y : UInt8} {q : Int} (hy : (y.toNat : Int) = q) (h : x = y) : ((x.toNat : Int) == q) = true := by subst h; simpa using hy
theorem byte_unlike {x y : UInt8} {q : Int} (hy : (y.toNat : Int) = q) (h : x ≠ y) : ((x.toNat : Int) == q) = false := by
  cases he : (x.toNat : Int) == q with
  | false => rfl
  | true => exact absurd (UInt8.toNat.inj (by have := beq_iff_eq.1 he; omega)) h

set_option maxRecDepth 100000 in
set_option maxHeartbeats 2000000 in
theorem checkTurn_any (v : Value) (t : List UInt8) (n : Int) (x : UInt8) (q : Int) (hx : (x.toNat : Int) = q) (w : World) (h : rBy (Old w) w [v] t) :
    Calls Tryz.prog 60 #[v, .int .i64 n, .int .u8 q] w fun e w' => e = .returned (.int .i64 (turnE t n x)) ∧ w = w' := by
  obtain ⟨A, c, rfl, l1, m1, hb⟩ := rBy_byt (B := w.heap.size) (fun _ h => h) h
  replace hb := Lib.hid hb
  clear h
  rcases turn_ways t n x with ⟨hm, he⟩ | ⟨hm, hn, he⟩ | ⟨k, hm, rfl, h8, h256, hk, he⟩ | ⟨k, hm, rfl, h8, h256, hk, he⟩
  · replace he := Lib.hid he
    have hc := Lib.hid (chkT_bad hm)
    replace hm := Lib.hid hm
    clear hx
    go_enter Tryz.func60, Tryz.ntmps60
    go_wp2_with fail
    with_reducible refine (checkT_any A t.length c t (Lib.hid rfl) l1 m1 _ hb.out).mono ?_
    rintro e w1 ⟨rfl, rfl⟩
    rw [hc.out]
    go_wp2_with fail
    go_ret
    exact ⟨ret_int he.out.symm, rfl⟩
  · replace he := Lib.hid he
    have hc := Lib.hid (chkT_ok hm)
    replace hm := Lib.hid hm
    clear hx
    by_cases h8 : n < 8
    · go_enter Tryz.func60, Tryz.ntmps60
      go_wp2_with fail
      with_reducible refine (checkT_any A t.length c t (Lib.hid rfl) l1 m1 _ hb.out).mono ?_
      rintro e w1 ⟨rfl, rfl⟩
      rw [hc.out]
      go_wp2_with fail
      go_ret
      exact ⟨ret_int he.out.symm, rfl⟩
    · have h9 : 256 ≤ n := by omega
      clear hn
      go_enter Tryz.func60, Tryz.ntmps60
      go_wp2_with fail
      with_reducible refine (checkT_any A t.length c t (Lib.hid rfl) l1 m1 _ hb.out).mono ?_
      rintro e w1 ⟨rfl, rfl⟩
      rw [hc.out]
      go_wp2_with fail
      go_ret
      exact ⟨ret_int he.out.symm, rfl⟩
  · replace he := Lib.hid he
    have hl := Lib.hid (mayT_len hm)
    have hc := Lib.hid (chkT_ok hm)
    replace hm := Lib.hid hm
    obtain ⟨ad, rfl, _, hcc⟩ := hb.out (by rw [hl.out]; omega)
    have hcell := hcc k (by rw [hl.out]; omega)
    obtain ⟨y, hy⟩ : ∃ y, t[k]?.getD 0 = y := ⟨_, rfl⟩
    rw [hy] at hcell hk
    have t0 := byte_same hx hk
    replace hy := Lib.hid hy
    have i1 : ¬ (k : Int) < 8 := by omega
    have i2 : ¬ 256 ≤ (k : Int) := by omega
    have i3 : k < t.length := by rw [hl.out]; exact h256
    clear hcc hk hx
    go_enter Tryz.func60, Tryz.ntmps60
    go_wp2_with fail
    with_reducible refine (checkT_any (some ad) t.length c t (Lib.hid rfl) l1 m1 _ hb.out).mono ?_
    rintro e w1 ⟨rfl, rfl⟩
    rw [hc.out]
    go_wp2_with fail
    go_ret
    exact ⟨ret_int he.out.symm, rfl⟩
  · replace he := Lib.hid he
    have hl := Lib.hid (mayT_len hm)
    have hc := Lib.hid (chkT_ok hm)
    replace hm := Lib.hid hm
    obtain ⟨ad, rfl, _, hcc⟩ := hb.out (by rw [hl.out]; omega)
    have hcell := hcc k (by rw [hl.out]; omega)
    obtain ⟨y, hy⟩ : ∃ y, t[k]?.getD 0 = y := ⟨_, rfl⟩
    rw [hy] at hcell hk
    have t0 := byte_unlike hx hk
    replace hy := Lib.hid hy
    have i1 : ¬ (k : Int) < 8 := by omega
    have i2 : ¬ 256 ≤ (k : Int) := by omega
    have i3 : k < t.length := by rw [hl.out]; exact h256
    clear hcc hk hx
    go_enter Tryz.func60, Tryz.ntmps60
    go_wp2_with fail
    with_reducible refine (checkT_any (some ad) t.length c t (Lib.hid rfl) l1 m1 _ hb.out).mono ?_
    rintro e w1 ⟨rfl, rfl⟩
    rw [hc.out]
    go_wp2_with fail
    go_ret
    exact ⟨ret_int he.out.symm, rfl⟩

theorem up_byte {x : UInt8} (h : x ≠ 255) : ((x.toNat : Int) + 1 = ((x + 1).toNat : Int)) ∧ (x.toNat : Int) + 1 ≤ 255 ∧ 0 ≤ (x.toNat : Int) := by
  have h2 : x.toNat ≠ 255 := fun e => h (UInt8.toNat.inj e)
  have h3 := x.toNat_lt
  have : (x + 1).toNat = x.toNat + 1 := by rw [UInt8.toNat_add]; simp; omega
  omega
theorem dn_byte {x : UInt8} (h : x ≠ 0) : ((x.toNat : Int) - 1 = ((x - 1).toNat : Int)) ∧ (x.toNat : Int) ≤ 255 ∧ 0 ≤ (x.toNat : Int) - 1 := by
  have h2 : x.toNat ≠ 0 := fun e => h (UInt8.toNat.inj e)
  have h3 := x.toNat_lt
  have : (x - 1).toNat = x.toNat - 1 := by rw [UInt8.toNat_sub_of_le]; rfl; exact UInt8.le_iff_toNat_le.2 (by show 1 ≤ x.toNat; omega)
  omega

set_option maxRecDepth 100000 in
set_option maxHeartbeats 2000000 in
theorem up_any (v : Value) (t : List UInt8) (n : Int) (w : World) (h : rBy (Old w) w [v] t) :
    Calls Tryz.prog 37 #[v, .int .i64 n] w fun e w' => ∃ u, e = .returned (.tuple #[u, .int .i64 (upE t n)]) ∧ rBy (New w.heap.size w') w' [u] (upV t n) ∧ Below w.heap.size w w' := by
  have h' := Lib.hid h
  by_cases he : upE t n = 0
  · obtain ⟨k, hm, rfl, h8, h256, hk⟩ : ∃ k : Nat, mayT t = true ∧ n = k ∧ 8 ≤ k ∧ k < 256 ∧ t[k]?.getD 0 ≠ 255 := by
      rcases turn_ways t n 255 with ⟨_, h2⟩ | ⟨_, _, h2⟩ | ⟨k, _, _, _, _, _, h2⟩ | ⟨k, hm, hn, h8, h256, hk, h2⟩
      · rw [upE, h2] at he; cases he
      · rw [upE, h2] at he; cases he
      · rw [upE, h2] at he; cases he
      · exact ⟨k, hm, hn, h8, h256, hk⟩
    have hl := mayT_len hm
    have hr : Hid (upV t (k : Int) = t.set k (t[k]?.getD 0 + 1)) := Lib.hid (by simp [upV, he])
    obtain ⟨A, c, rfl, l1, m1, hb⟩ := rBy_byt (B := w.heap.size) (fun _ h => h) h
    obtain ⟨hu, hu1, hu2⟩ := up_byte hk
    replace hb := Lib.hid hb
    replace hl := Lib.hid hl
    replace he := Lib.hid he
    replace hu := Lib.hid hu
    clear hk h
    go_enter Tryz.func37, Tryz.ntmps37
    go_wp2_with fail
    with_reducible refine (checkTurn_any _ t (k : Int) 255 255 rfl _ h'.out).mono ?_
    rintro e w1 ⟨rfl, rfl⟩
    rw [show turnE t (k : Int) 255 = 0 from he.out]
    go_wp2_with fail
    with_reducible refine (clone_any A t.length c t (Lib.hid rfl) (by rw [hl.out]; omega) _ hb.out).mono ?_
    rintro e w2 ⟨u, rfl, hu3, hb2⟩
    obtain ⟨g, c2, rfl, hg1, hg2, hg3, hg4⟩ := own_head hu3 (by rw [hl.out]; omega)
    have hcell := own_cell hu3 (j := k) (by rw [hl.out]; exact h256)
    have hfr : w2.frozen? ⟨g, k, none⟩ = false := by
      have := own_free hu3 k
      rwa [show (⟨g, 0, none⟩ : Addr).add k = ⟨g, k, none⟩ by simp [add_off]] at this
    have hset := Lib.hid (own_set hu3 k (t[k]?.getD 0 + 1))
    have i3 : k < t.length := by rw [hl.out]; exact h256
    generalize t[k]?.getD 0 = x at *
    replace hu3 := Lib.hid hu3
    go_wp2_with fail
    go_ret2
    rw [hr.out, he.out]
    rw [hu.out]
    exact ⟨_, rfl, own_by hset.out, hb2.setCell hg1 _⟩
  · have hr : Hid (upV t n = []) := Lib.hid (by simp [upV, he])
    obtain ⟨q, hq⟩ : ∃ q, upE t n = q := ⟨_, rfl⟩
    have hq0 : (q != 0) = true := by rw [← hq]; simpa using he
    replace hq := Lib.hid hq
    clear h he
    go_enter Tryz.func37, Tryz.ntmps37
    go_wp2_with fail
    with_reducible refine (checkTurn_any _ t n 255 255 rfl _ h'.out).mono ?_
    rintro e w1 ⟨rfl, rfl⟩
    rw [show turnE t n 255 = q from hq.out]
    go_wp2_with fail
    go_ret2
    rw [hr.out, hq.out]
    exact ⟨_, rfl, rBy_none_new _ _, Below.refl _ _⟩
/-! ### Sums -/
def smV (t : List UInt8) : Nat := if mayT t then crc t else 0
end Go.Proofs.YtmdlgnlfgfhkmaaGreat

/-
  The statements' own example of layer 7: a count goes up, and down. Conditions: none.
-/
namespace Go.Proofs.YtmdlgnlfgfhkmaaGreat
open Go.RowKit

theorem zero_up : upE (zeros 256) 9 = 0 ∧ (upV (zeros 256) 9).length = 256 ∧ (upV (zeros 256) 9)[9]?.getD 0 = 1 ∧ dnE (upV (zeros 256) 9) 9 = 0 ∧ dnV (upV (zeros 256) 9) 9 = zeros 256 ∧ mayT (upV (zeros 256) 9) = true := by decide +kernel
theorem new_by (w : World) : rBy (New w.heap.size (w.alloc (.cells (rowA (zeros 256)) 5))) (w.alloc (.cells (rowA (zeros 256)) 5)) [.slice (some ⟨w.heap.size, 0, none⟩) 256 256] (zeros 256) := by
  have := row_by w (zeros 256) (by rw [zeros_length]; omega)
  rwa [zeros_length] at this
/-- What a call of Up on a table that is opened tells. -/
theorem up_open (v : Value) (t : List UInt8) (n : Int) (w : World) (h : rBy (Old w) w [v] t) :
    Calls Tryz.prog 37 #[v, .int .i64 n] w fun e w' => ∃ E c, e = .returned (.tuple #[.slice E (upV t n).length c, .int .i64 (upE t n)]) ∧ rBy (New w.heap.size w') w' [.slice E (upV t n).length c] (upV t n) ∧ Below w.heap.size w w' := by
  refine (up_any v t n w h).mono ?_
  rintro e w' ⟨u, rfl, hu, hb⟩
  obtain ⟨E, c, rfl, _⟩ := id (rBy_open hu)
  exact ⟨E, c, rfl, hu, hb⟩
end Go.Proofs.YtmdlgnlfgfhkmaaGreat

/-
  Tables, plain: what turns leave. Conditions: those that each lemma states.
-/
namespace Go.Proofs.YtmdlgnlfgfhkmaaGreat
open Go.RowKit

theorem set_get {t : List UInt8} {k : Nat} {x : UInt8} (h : k < t.length) : (t.set k x)[k]?.getD 0 = x := by simp [h]
theorem set_other {t : List UInt8} {k j : Nat} {x : UInt8} (h : j ≠ k) : (t.set k x)[j]?.getD 0 = t[j]?.getD 0 := by simp [List.getElem?_set_ne (Ne.symm h)]
theorem mayT_set {t : List UInt8} {k : Nat} {x : UInt8} (h : mayT t = true) (hk : 8 ≤ k) : mayT (t.set k x) = true :=
  mayT_yes (by rw [List.length_set]; exact mayT_len h) fun j hj => by rw [set_other (by omega)]; exact mayT_at h hj
theorem up_ways {t : List UInt8} {n : Int} (h : upE t n = 0) : ∃ k : Nat, n = k ∧ mayT t = true ∧ 8 ≤ k ∧ k < 256 ∧ t.length = 256 ∧ t[k]?.getD 0 ≠ 255 ∧ upV t k = t.set k (t[k]?.getD 0 + 1) := by
  rcases turn_ways t n 255 with ⟨_, h2⟩ | ⟨_, _, h2⟩ | ⟨k, _, _, _, _, _, h2⟩ | ⟨k, hm, rfl, h8, h256, hk, h2⟩
  · rw [upE, h2] at h; cases h
  · rw [upE, h2] at h; cases h
  · rw [upE, h2] at h; cases h
  · exact ⟨k, rfl, hm, h8, h256, mayT_len hm, hk, by simp [upV, h]⟩
theorem dn_ways {t : List UInt8} {n : Int} (h : dnE t n = 0) : ∃ k : Nat, n = k ∧ mayT t = true ∧ 8 ≤ k ∧ k < 256 ∧ t.length = 256 ∧ t[k]?.getD 0 ≠ 0 ∧ dnV t k = t.set k (t[k]?.getD 0 - 1) := by
  rcases turn_ways t n 0 with ⟨_, h2⟩ | ⟨_, _, h2⟩ | ⟨k, _, _, _, _, _, h2⟩ | ⟨k, hm, rfl, h8, h256, hk, h2⟩
  · rw [dnE, h2] at h; cases h
  · rw [dnE, h2] at h; cases h
  · rw [dnE, h2] at h; cases h
  · exact ⟨k, rfl, hm, h8, h256, mayT_len hm, hk, by simp [dnV, h]⟩
theorem up_ok {t : List UInt8} {k : Nat} (hm : mayT t = true) (h8 : 8 ≤ k) (h : k < 256) (hx : t[k]?.getD 0 ≠ 255) : upE t k = 0 ∧ upV t k = t.set k (t[k]?.getD 0 + 1) := by
  have h1 : upE t k = 0 := turnE_ok hm (inT_of h8 h) (by simpa using hx)
  exact ⟨h1, by simp [upV, h1]⟩
theorem dn_ok {t : List UInt8} {k : Nat} (hm : mayT t = true) (h8 : 8 ≤ k) (h : k < 256) (hx : t[k]?.getD 0 ≠ 0) : dnE t k = 0 ∧ dnV t k = t.set k (t[k]?.getD 0 - 1) := by
  have h1 : dnE t k = 0 := turnE_ok hm (inT_of h8 h) (by simpa using hx)
  exact ⟨h1, by simp [dnV, h1]⟩
theorem byte_back {x : UInt8} : x + 1 - 1 = x ∧ x - 1 + 1 = x := ⟨UInt8.add_sub_cancel x 1, UInt8.sub_add_cancel x 1⟩
theorem byte_up_ne {x : UInt8} (h : x ≠ 255) : x + 1 ≠ 0 := fun e => by
  have := (up_byte h).1
  rw [e] at this
  have h0 : ((0 : UInt8).toNat : Int) = 0 := rfl
  omega
theorem byte_dn_ne {x : UInt8} (h : x ≠ 0) : x - 1 ≠ 255 := fun e => by
  have := dn_byte h
  rw [e] at this
  have h0 : ((255 : UInt8).toNat : Int) = 255 := rfl
  omega
theorem set_same {t : List UInt8} {k : Nat} (h : k < t.length) : t.set k (t[k]?.getD 0) = t := by
  rw [List.getElem?_eq_getElem h]
  simp
/-- What is counted up, and then down. -/
theorem up_down {t : List UInt8} {k : Nat} (hm : mayT t = true) (h8 : 8 ≤ k) (h : k < 256) (hx : t[k]?.getD 0 ≠ 255) : dnE (t.set k (t[k]?.getD 0 + 1)) k = 0 ∧ dnV (t.set k (t[k]?.getD 0 + 1)) k = t := by
  have hl := mayT_len hm
  have hg : (t.set k (t[k]?.getD 0 + 1))[k]?.getD 0 = t[k]?.getD 0 + 1 := set_get (by omega)
  obtain ⟨h1, h2⟩ := dn_ok (t := t.set k (t[k]?.getD 0 + 1)) (k := k) (mayT_set hm h8) h8 h (by rw [hg]; exact byte_up_ne hx)
  refine ⟨h1, ?_⟩
  rw [h2, hg, byte_back.1, List.set_set, set_same (by omega)]
theorem in_ways (a : Int) : (a < 8 ∧ inT a = false) ∨ (8 ≤ a ∧ a < 256 ∧ inT a = true) ∨ (8 ≤ a ∧ 256 ≤ a ∧ inT a = false) := by
  cases h : inT a with
  | true =>
    obtain ⟨k, rfl, h1, h2⟩ := inT_nat h
    exact .inr (.inl ⟨by omega, by omega, rfl⟩)
  | false =>
    rcases inT_no h with h1 | h1
    · exact .inl ⟨h1, rfl⟩
    · exact .inr (.inr ⟨by omega, h1, rfl⟩)
theorem down_up {t : List UInt8} {k : Nat} (hm : mayT t = true) (h8 : 8 ≤ k) (h : k < 256) (hx : t[k]?.getD 0 ≠ 0) : upE (t.set k (t[k]?.getD 0 - 1)) k = 0 ∧ upV (t.set k (t[k]?.getD 0 - 1)) k = t := by
  have hl := mayT_len hm
  have hg : (t.set k (t[k]?.getD 0 - 1))[k]?.getD 0 = t[k]?.getD 0 - 1 := set_get (by omega)
  obtain ⟨h1, h2⟩ := up_ok (t := t.set k (t[k]?.getD 0 - 1)) (k := k) (mayT_set hm h8) h8 h (by rw [hg]; exact byte_dn_ne hx)
  refine ⟨h1, ?_⟩
  rw [h2, hg, byte_back.2, List.set_set, set_same (by omega)]
/-- Counts of two blocks, in either order. -/
theorem apart_ok {t : List UInt8} {i k : Nat} (h : upE t i = 0) (h' : dnE t k = 0) : dnE (upV t i) k = 0 ∧ upE (dnV t k) i = 0 ∧ dnV (upV t i) k = upV (dnV t k) i ∧ (i = k → dnV (upV t i) k = t) ∧ (dnV (upV t i) k).length = 256 := by
  obtain ⟨i', e1, hm, i8, i256, hl, hx, hV⟩ := up_ways h
  obtain ⟨k', e2, _, k8, k256, _, hy, hW⟩ := dn_ways h'
  obtain rfl : i = i' := by omega
  obtain rfl : k = k' := by omega
  rw [hV, hW]
  by_cases hik : i = k
  · subst hik
    obtain ⟨a1, a2⟩ := up_down hm i8 i256 hx
    obtain ⟨b1, b2⟩ := down_up hm i8 i256 hy
    exact ⟨a1, b1, by rw [a2, b2], fun _ => a2, by rw [a2, hl]⟩
  · have g1 : (t.set i (t[i]?.getD 0 + 1))[k]?.getD 0 = t[k]?.getD 0 := set_other (fun e => hik e.symm)
    have g2 : (t.set k (t[k]?.getD 0 - 1))[i]?.getD 0 = t[i]?.getD 0 := set_other hik
    obtain ⟨a1, a2⟩ := dn_ok (t := t.set i (t[i]?.getD 0 + 1)) (k := k) (mayT_set hm i8) k8 k256 (by rw [g1]; exact hy)
    obtain ⟨b1, b2⟩ := up_ok (t := t.set k (t[k]?.getD 0 - 1)) (k := i) (mayT_set hm k8) i8 i256 (by rw [g2]; exact hx)
    rw [g1] at a2
    rw [g2] at b2
    refine ⟨a1, b1, ?_, fun e => absurd e hik, ?_⟩
    · rw [a2, b2, List.set_comm _ _ hik]
    · rw [a2, List.length_set, List.length_set, hl]
end Go.Proofs.YtmdlgnlfgfhkmaaGreat

/-
  Stores, plain: which blocks are free, what is taken, shared, and what follows. Conditions: those that each lemma states.
-/
namespace Go.Proofs.YtmdlgnlfgfhkmaaGreat
open Go.RowKit

/-- A store: its disk, the counts now, and those of the last commit. -/
abbrev Rm := Dk × List UInt8 × List UInt8
def emptyR : Rm := (emptyD, [], [])
def mayR (s : Rm) : Bool := mayB s.1 && mayT s.2.1 && mayT s.2.2
def chkR (s : Rm) : Int := if mayR s then 0 else 8
theorem mayR_of {s : Rm} (h : mayR s = true) : mayB s.1 = true ∧ mayT s.2.1 = true ∧ mayT s.2.2 = true := by
  unfold mayR at h
  simp only [Bool.and_eq_true] at h
  exact ⟨h.1.1, h.1.2, h.2⟩
theorem mayR_mk {s : Rm} (h1 : mayB s.1 = true) (h2 : mayT s.2.1 = true) (h3 : mayT s.2.2 = true) : mayR s = true := by simp [mayR, h1, h2, h3]
theorem may_emptyR : mayR emptyR = false := rfl
theorem chkR_ok {s : Rm} (h : mayR s = true) : chkR s = 0 := by simp [chkR, h]
theorem chkR_bad {s : Rm} (h : mayR s = false) : chkR s = 8 := by simp [chkR, h]

/-! ### Free blocks -/
def freeAt (s : Rm) (i : Nat) : Bool := decide (s.2.1[i]?.getD 0 = 0) && decide (s.2.2[i]?.getD 0 = 0)
/-- Those among the first k behind the fixed ones. -/
def freeK (s : Rm) (k : Nat) : List Nat := (List.range' 8 k).filter (freeAt s)
def freeL (s : Rm) : List Nat := freeK s 248
theorem freeK_succ (s : Rm) (k : Nat) : freeK s (k + 1) = freeK s k ++ (if freeAt s (8 + k) then [8 + k] else []) := by
  unfold freeK
  rw [List.range'_concat, List.filter_append]
  simp [List.filter_cons]
theorem freeK_len (s : Rm) (k : Nat) : (freeK s k).length ≤ k := by
  have := List.length_filter_le (freeAt s) (List.range' 8 k)
  simpa [freeK] using this
theorem free_in {s : Rm} {i : Nat} (h : i ∈ freeL s) : 8 ≤ i ∧ i < 256 ∧ s.2.1[i]?.getD 0 = 0 ∧ s.2.2[i]?.getD 0 = 0 := by
  unfold freeL freeK at h
  rw [List.mem_filter, List.mem_range'_1] at h
  obtain ⟨⟨h1, h2⟩, h3⟩ := h
  simp only [freeAt, Bool.and_eq_true, decide_eq_true_eq] at h3
  exact ⟨h1, h2, h3.1, h3.2⟩
theorem in_free {s : Rm} {i : Nat} (h8 : 8 ≤ i) (h : i < 256) (h1 : s.2.1[i]?.getD 0 = 0) (h2 : s.2.2[i]?.getD 0 = 0) : i ∈ freeL s := by
  unfold freeL freeK
  rw [List.mem_filter, List.mem_range'_1]
  exact ⟨⟨h8, h⟩, by simp [freeAt, h1, h2]⟩
theorem free_nodup (s : Rm) : (freeL s).Nodup := List.Nodup.sublist List.filter_sublist List.nodup_range'
/-- What is told of free blocks, and as an answer. -/
def frV (s : Rm) : List Nat := if mayR s then freeL s else []

/-! ### Take -/
def tkE (s : Rm) (b : List UInt8) : Int := if mayR s then (if b.length = 128 then (if (freeL s).isEmpty || decide (4096 ≤ s.1.2.length) then 9 else 0) else 3) else 8
def tkK (s : Rm) : Nat := (freeL s)[0]?.getD 0
def tkN (s : Rm) (b : List UInt8) : Int := if tkE s b = 0 then (tkK s : Int) else 0
def tkV (s : Rm) (b : List UInt8) : Rm := if tkE s b = 0 then (wrD s.1 (tkK s) b, s.2.1.set (tkK s) 1, s.2.2) else emptyR
theorem tk_ok {s : Rm} {b : List UInt8} (h : tkE s b = 0) : mayR s = true ∧ b.length = 128 ∧ s.1.2.length < 4096 ∧ freeL s = tkK s :: (freeL s).tail ∧ 8 ≤ tkK s ∧ tkK s < 256 ∧ s.2.1[tkK s]?.getD 0 = 0 ∧ s.2.2[tkK s]?.getD 0 = 0 ∧
    tkN s b = (tkK s : Int) ∧ tkV s b = (wrD s.1 (tkK s) b, s.2.1.set (tkK s) 1, s.2.2) := by
  have hN : tkN s b = (tkK s : Int) := by rw [tkN, if_pos h]
  have hV : tkV s b = (wrD s.1 (tkK s) b, s.2.1.set (tkK s) 1, s.2.2) := by rw [tkV, if_pos h]
  unfold tkE at h
  cases hm : mayR s with
  | false => rw [hm] at h; simp at h
  | true =>
    rw [hm, if_pos rfl] at h
    by_cases hb : b.length = 128
    · rw [if_pos hb] at h
      cases hl : freeL s with
      | nil => rw [hl] at h; simp at h
      | cons k m =>
        have hk : tkK s = k := by simp [tkK, hl]
        obtain ⟨h1, h2, h3, h4⟩ := free_in (s := s) (i := k) (by rw [hl]; exact List.mem_cons_self)
        have hw : s.1.2.length < 4096 := by
          rw [hl] at h
          by_cases hw : 4096 ≤ s.1.2.length
          · simp [hw] at h
          · omega
        rw [hk] at hN hV ⊢
        exact ⟨rfl, hb, hw, rfl, h1, h2, h3, h4, hN, hV⟩
    · rw [if_neg hb] at h
      simp at h
theorem tk_yes {s : Rm} {b : List UInt8} (hm : mayR s = true) (hb : b.length = 128) (hl : freeL s ≠ []) (hw : s.1.2.length < 4096) : tkE s b = 0 := by
  have h1 : (freeL s).isEmpty = false := by cases h : freeL s with
    | nil => exact absurd h hl
    | cons k m => rfl
  have h2 : decide (4096 ≤ s.1.2.length) = false := by simp; omega
  simp [tkE, hm, hb, h1, h2]
theorem tk_full {s : Rm} {b : List UInt8} (hm : mayR s = true) (hb : b.length = 128) (h : tkE s b ≠ 0) : tkE s b = 9 ∧ (freeL s = [] ∨ s.1.2.length = 4096) := by
  have h9 : tkE s b = 9 := by
    by_cases hc : ((freeL s).isEmpty || decide (4096 ≤ s.1.2.length)) = true
    · simp only [tkE, hm, hb, hc, if_true]
    · simp only [tkE, hm, hb, hc, if_true] at h
      exact absurd rfl h
  refine ⟨h9, ?_⟩
  cases hl : freeL s with
  | nil => exact .inl rfl
  | cons k m =>
    right
    have h2 := (may_of (mayR_of hm).1).2.1
    by_cases hw : s.1.2.length < 4096
    · exact absurd (tk_yes hm hb (by rw [hl]; simp) hw) h
    · omega
theorem tk_ways (s : Rm) (b : List UInt8) : (mayR s = false ∧ tkE s b = 8) ∨ (mayR s = true ∧ b.length ≠ 128 ∧ tkE s b = 3) ∨ (mayR s = true ∧ b.length = 128 ∧ freeL s = [] ∧ tkE s b = 9) ∨ (mayR s = true ∧ b.length = 128 ∧ freeL s ≠ [] ∧ 4096 ≤ s.1.2.length ∧ tkE s b = 9) ∨
    (mayR s = true ∧ b.length = 128 ∧ freeL s ≠ [] ∧ s.1.2.length < 4096 ∧ tkE s b = 0) := by
  cases hm : mayR s with
  | false => exact .inl ⟨rfl, by simp [tkE, hm]⟩
  | true =>
    by_cases hb : b.length = 128
    · cases hl : freeL s with
      | nil => exact .inr (.inr (.inl ⟨rfl, hb, rfl, by simp [tkE, hm, hb, hl]⟩))
      | cons k m =>
        by_cases hw : s.1.2.length < 4096
        · exact .inr (.inr (.inr (.inr ⟨rfl, hb, by simp, hw, tk_yes hm hb (by rw [hl]; simp) hw⟩)))
        · exact .inr (.inr (.inr (.inl ⟨rfl, hb, by simp, by omega, by simp [tkE, hm, hb, hl]; omega⟩)))
    · exact .inr (.inl ⟨rfl, hb, by simp [tkE, hm, hb]⟩)
theorem tk_no {s : Rm} {b : List UInt8} (h : tkE s b ≠ 0) : tkN s b = 0 ∧ tkV s b = emptyR := ⟨by rw [tkN, if_neg h], by rw [tkV, if_neg h]⟩
/-- What follows, where a block is taken. -/
theorem tk_may {s : Rm} {b : List UInt8} (h : tkE s b = 0) : mayR (tkV s b) = true := by
  obtain ⟨hm, hb, hw, _, h8, h256, _, _, _, hV⟩ := tk_ok h
  obtain ⟨m1, m2, m3⟩ := mayR_of hm
  rw [hV]
  exact mayR_mk (may_write m1 h256 hb hw) (mayT_set m2 h8) m3
theorem tk_counts {s : Rm} {b : List UInt8} (h : tkE s b = 0) : (tkV s b).2.1[tkK s]?.getD 0 = 1 ∧ (∀ i, i ≠ tkK s → (tkV s b).2.1[i]?.getD 0 = s.2.1[i]?.getD 0) ∧ (tkV s b).2.2 = s.2.2 ∧ (tkV s b).1 = wrD s.1 (tkK s) b := by
  obtain ⟨hm, _, _, _, h8, h256, _, _, _, hV⟩ := tk_ok h
  have hl := mayT_len (mayR_of hm).2.1
  rw [hV]
  exact ⟨set_get (by omega), fun i hi => set_other hi, rfl, rfl⟩
theorem tk_free {s : Rm} {b : List UInt8} (h : tkE s b = 0) : freeL (tkV s b) = (freeL s).tail := by
  obtain ⟨hm, _, _, hl, h8, h256, _, _, _, _⟩ := tk_ok h
  obtain ⟨c1, c2, c3, _⟩ := tk_counts h
  have e : freeL (tkV s b) = (freeL s).filter (fun i => decide (i ≠ tkK s)) := by
    unfold freeL freeK
    rw [List.filter_filter]
    refine List.filter_congr fun i _ => ?_
    by_cases hi : i = tkK s
    · subst hi
      simp [freeAt, c1]
    · simp [freeAt, c2 i hi, c3, hi]
  rw [e]
  have hn := free_nodup s
  rw [hl] at hn ⊢
  obtain ⟨n1, _⟩ := List.nodup_cons.1 hn
  rw [List.filter_cons_of_neg (by simp), List.tail_cons, List.filter_eq_self.2]
  intro i hi
  simpa using fun e : i = tkK s => n1 (e ▸ hi)
theorem tk_read {s : Rm} {b : List UInt8} (h : tkE s b = 0) : rdB (tkV s b).1 (tkK s : Int) = b ∧ ∀ n : Int, n ≠ (tkK s : Int) → rdB (tkV s b).1 n = rdB s.1 n := by
  obtain ⟨hm, hb, hw, _, h8, h256, _, _, _, _⟩ := tk_ok h
  have hd := (tk_counts h).2.2.2
  have e0 : wErr s.1 (tkK s : Int) b = 0 := by
    have h1 : thereB (tkK s : Int) = true := by simp [thereB]; omega
    have h2 : s.1.2.length ≠ 4096 := by omega
    simp [wErr, (mayR_of hm).1, h1, hb, h2]
  have e1 : wrR s.1 (tkK s : Int) b = wrD s.1 (tkK s) b := by simp [wrR, e0]
  rw [hd, ← e1]
  exact ⟨(rdB_same e0).1, fun n hn => rdB_write e0 hn⟩

/-! ### Share -/
def asE (s : Rm) (n : Int) : Int := if mayR s then (if inT n then (if s.2.1[n.toNat]?.getD 0 = 0 then 6 else 0) else 2) else 8
def shE (s : Rm) (n : Int) : Int := if asE s n = 0 then (if s.2.1[n.toNat]?.getD 0 = 255 then 70 else 0) else asE s n
def shV (s : Rm) (n : Int) : Rm := if shE s n = 0 then (s.1, s.2.1.set n.toNat (s.2.1[n.toNat]?.getD 0 + 1), s.2.2) else emptyR
theorem as_ways (s : Rm) (n : Int) : (mayR s = false ∧ asE s n = 8) ∨ (mayR s = true ∧ (n < 8 ∨ 256 ≤ n) ∧ asE s n = 2) ∨ (∃ k : Nat, mayR s = true ∧ n = k ∧ 8 ≤ k ∧ k < 256 ∧ s.2.1[k]?.getD 0 = 0 ∧ asE s n = 6) ∨
    (∃ k : Nat, mayR s = true ∧ n = k ∧ 8 ≤ k ∧ k < 256 ∧ s.2.1[k]?.getD 0 ≠ 0 ∧ asE s n = 0) := by
  cases hm : mayR s with
  | false => exact .inl ⟨rfl, by simp [asE, hm]⟩
  | true =>
    cases hi : inT n with
    | false => exact .inr (.inl ⟨rfl, inT_no hi, by simp [asE, hm, hi]⟩)
    | true =>
      obtain ⟨k, rfl, h8, h256⟩ := inT_nat hi
      by_cases hx : s.2.1[k]?.getD 0 = 0
      · exact .inr (.inr (.inl ⟨k, rfl, rfl, h8, h256, hx, by simp [asE, hm, hi, hx]⟩))
      · exact .inr (.inr (.inr ⟨k, rfl, rfl, h8, h256, hx, by simp [asE, hm, hi, hx]⟩))
theorem sh_ok {s : Rm} {n : Int} (h : shE s n = 0) : ∃ k : Nat, n = k ∧ mayR s = true ∧ 8 ≤ k ∧ k < 256 ∧ s.2.1[k]?.getD 0 ≠ 0 ∧ s.2.1[k]?.getD 0 ≠ 255 ∧ s.2.1.length = 256 ∧ shV s n = (s.1, s.2.1.set k (s.2.1[k]?.getD 0 + 1), s.2.2) := by
  have hV := h
  rcases as_ways s n with ⟨_, e⟩ | ⟨_, _, e⟩ | ⟨k, _, _, _, _, _, e⟩ | ⟨k, hm, rfl, h8, h256, hx, e⟩
  · simp [shE, e] at h
  · simp [shE, e] at h
  · simp [shE, e] at h
  · by_cases h255 : s.2.1[k]?.getD 0 = 255
    · simp [shE, e, h255] at h
    · exact ⟨k, rfl, hm, h8, h256, hx, h255, mayT_len (mayR_of hm).2.1, by rw [shV, if_pos hV]; rfl⟩
theorem sh_yes {s : Rm} {k : Nat} (hm : mayR s = true) (h8 : 8 ≤ k) (h : k < 256) (hx : s.2.1[k]?.getD 0 ≠ 0) (hy : s.2.1[k]?.getD 0 ≠ 255) : shE s k = 0 := by
  have hi := inT_of h8 h
  simp [shE, asE, hm, hi, hx, hy]
theorem sh_no {s : Rm} {n : Int} (h : shE s n ≠ 0) : shV s n = emptyR := by rw [shV, if_neg h]
theorem sh_may {s : Rm} {n : Int} (h : shE s n = 0) : mayR (shV s n) = true := by
  obtain ⟨k, rfl, hm, h8, h256, _, _, _, hV⟩ := sh_ok h
  obtain ⟨m1, m2, m3⟩ := mayR_of hm
  rw [hV]
  exact mayR_mk m1 (mayT_set m2 h8) m3
theorem sh_free {s : Rm} {n : Int} (h : shE s n = 0) : freeL (shV s n) = freeL s := by
  obtain ⟨k, rfl, hm, h8, h256, h0, h255, hl, hV⟩ := sh_ok h
  rw [hV]
  unfold freeL freeK
  refine List.filter_congr fun i _ => ?_
  by_cases hi : i = k
  · subst hi
    have h1 := byte_up_ne h255
    have e : (s.2.1.set i (s.2.1[i]?.getD 0 + 1))[i]?.getD 0 = s.2.1[i]?.getD 0 + 1 := set_get (by omega)
    simp only [freeAt, e]
    simp [h0, h1]
  · have e : (s.2.1.set k (s.2.1[k]?.getD 0 + 1))[i]?.getD 0 = s.2.1[i]?.getD 0 := set_other hi
    simp only [freeAt, e]
/-- Two shares, in either order. -/
theorem sh_order {s : Rm} {n m : Int} (h : shE s n = 0) (h' : shE s m = 0) : shE (shV s n) m = shE (shV s m) n ∧ (shE (shV s n) m = 0 → shV (shV s n) m = shV (shV s m) n) := by
  obtain ⟨k, rfl, hm, h8, h256, h0, h255, hl, hV⟩ := sh_ok h
  obtain ⟨j, rfl, _, g8, g256, g0, g255, _, hW⟩ := sh_ok h'
  by_cases e : k = j
  · subst e
    exact ⟨rfl, fun _ => rfl⟩
  · have m1 := sh_may h
    have m2 := sh_may h'
    have a1 : (shV s k).2.1[j]?.getD 0 = s.2.1[j]?.getD 0 := by rw [hV]; exact set_other (Ne.symm e)
    have a2 : (shV s j).2.1[k]?.getD 0 = s.2.1[k]?.getD 0 := by rw [hW]; exact set_other e
    have e1 := sh_yes (s := shV s k) (k := j) m1 g8 g256 (by rw [a1]; exact g0) (by rw [a1]; exact g255)
    have e2 := sh_yes (s := shV s j) (k := k) m2 h8 h256 (by rw [a2]; exact h0) (by rw [a2]; exact h255)
    refine ⟨by rw [e1, e2], fun _ => ?_⟩
    have v1 : shV (shV s k) j = ((shV s k).1, (shV s k).2.1.set j ((shV s k).2.1[j]?.getD 0 + 1), (shV s k).2.2) := by rw [shV, if_pos e1]; rfl
    have v2 : shV (shV s j) k = ((shV s j).1, (shV s j).2.1.set k ((shV s j).2.1[k]?.getD 0 + 1), (shV s j).2.2) := by rw [shV, if_pos e2]; rfl
    rw [v1, v2, a1, a2, hV, hW]
    simp only [Prod.mk.injEq, true_and, and_true]
    exact List.set_comm _ _ e
end Go.Proofs.YtmdlgnlfgfhkmaaGreat

/-
  Stores (api.Store): how they read; boxes of four; stores as arguments. Conditions: those that each lemma states.
-/
namespace Go.Proofs.YtmdlgnlfgfhkmaaGreat
open Go.ChangeShapes Go.WideShapes Go.RowKit

def rSto : Rel Rm := rPair rDisk (rPair rBy rBy)
theorem stab_sto : Stab rSto := stab_pair stab_disk (stab_pair stab_by stab_by)
/-- A value that reads as a store. -/
def Sto (ok : Addr → Prop) (w : World) (v : Value) (s : Rm) : Prop := ∃ a b n l, v = .agg #[a, b, n, l] ∧ Dsk ok w (.agg #[a, b]) s.1 ∧ rBy ok w [n] s.2.1 ∧ rBy ok w [l] s.2.2
section
variable {ok ok' : Addr → Prop} {w w' : World} {v : Value} {s : Rm} {lo lo' : Nat}
theorem Sto.map (hk : ∀ p v, ok p → w.cell? p = some v → ok' p ∧ w'.cell? p = some v) (h : Sto ok w v s) : Sto ok' w' v s := by
  obtain ⟨a, b, n, l, e, h1, h2, h3⟩ := h
  exact ⟨a, b, n, l, e, h1.map hk, stab_by _ _ _ _ _ _ hk h2, stab_by _ _ _ _ _ _ hk h3⟩
theorem Sto.below (h : Sto (Old w) w v s) (hb : Below w.heap.size w w') : Sto (Old w') w' v s :=
  h.map fun _ _ hp hc => ⟨Nat.lt_of_lt_of_le hp hb.size, (hb.cell hp).trans hc⟩
theorem Sto.drop (h : Sto (New lo w) w v s) : Sto (Old w) w v s := h.map fun _ _ hp hc => ⟨hp.2.1, hc⟩
theorem Sto.new (h : Sto (New lo w) w v s) (hl : lo' ≤ lo) (hb : Below w.heap.size w w') : Sto (New lo' w') w' v s :=
  h.map fun _ _ hp hc => ⟨⟨Nat.le_trans hl hp.1, Nat.lt_of_lt_of_le hp.2.1 hb.size, (hb.frozen hp.2.1).trans hp.2.2⟩, (hb.cell hp.2.1).trans hc⟩
theorem Sto.grown {row : Option Nat} (h : Sto (New lo w) w v s) (hg : w.grownBy w' row) (hr : ∀ q, row = some q → q < lo) : Sto (New lo w') w' v s := by
  obtain ⟨a, b, n, l, e, h1, h2, h3⟩ := h
  exact ⟨a, b, n, l, e, h1.grown hg hr, stab_by.grown h2 hg hr, stab_by.grown h3 hg hr⟩
/-- A store, opened. -/
theorem Sto.open (h : Sto ok w v s) : ∃ A ca B cb N cn L cl, v = .agg #[.slice A s.1.1.length ca, .slice B s.1.2.length cb, .slice N s.2.1.length cn, .slice L s.2.2.length cl] ∧ Dsk ok w (.agg #[.slice A s.1.1.length ca, .slice B s.1.2.length cb]) s.1 ∧
    rBy ok w [.slice N s.2.1.length cn] s.2.1 ∧ rBy ok w [.slice L s.2.2.length cl] s.2.2 := by
  obtain ⟨a, b, n, l, rfl, h1, h2, h3⟩ := h
  obtain ⟨A, ca, B, cb, e, _⟩ := h1.open
  cases e
  obtain ⟨N, cn, rfl, _⟩ := rBy_open h2
  obtain ⟨L, cl, rfl, _⟩ := rBy_open h3
  exact ⟨A, ca, B, cb, N, cn, L, cl, rfl, h1, h2, h3⟩
theorem Sto.parts {a b n l : Value} (h : Sto ok w (.agg #[a, b, n, l]) s) : Dsk ok w (.agg #[a, b]) s.1 ∧ rBy ok w [n] s.2.1 ∧ rBy ok w [l] s.2.2 := by
  obtain ⟨_, _, _, _, e, h1, h2, h3⟩ := h
  cases e
  exact ⟨h1, h2, h3⟩
theorem Sto.mk {a b n l : Value} (h1 : Dsk ok w (.agg #[a, b]) s.1) (h2 : rBy ok w [n] s.2.1) (h3 : rBy ok w [l] s.2.2) : Sto ok w (.agg #[a, b, n, l]) s := ⟨a, b, n, l, rfl, h1, h2, h3⟩
end
theorem sto_empty (ok : Addr → Prop) (w : World) : Sto ok w (.agg #[.slice none 0 0, .slice none 0 0, .slice none 0 0, .slice none 0 0]) emptyR :=
  ⟨_, _, _, _, rfl, ⟨_, _, rfl, ⟨none, 0, rfl, by simp [emptyR, emptyD], by omega, fun i x h => by simp [emptyR, emptyD] at h⟩, ⟨none, 0, rfl, by simp [emptyR, emptyD], by omega, fun i x h => by simp [emptyR, emptyD] at h⟩⟩,
    ⟨none, 0, rfl, by simp [emptyR], by omega, fun i x h => by simp [emptyR] at h⟩, ⟨none, 0, rfl, by simp [emptyR], by omega, fun i x h => by simp [emptyR] at h⟩⟩

/-! ### A box of four -/
theorem box_4 (w : World) (a b c d : Value) (t : TypeId) : ∃ w1, w.alloc (.cells #[a, b, c, d] t) = w1 ∧ w1.heap[w.heap.size]? = some (.cells #[a, b, c, d] t (0, 0)) ∧ w1.heap.size = w.heap.size + 1 ∧ Below w.heap.size w w1 :=
  ⟨_, rfl, heap_alloc_new _ _, by simp, (Below.refl _ _).alloc (Nat.le_refl _) _⟩
theorem four_cells {W : World} {g : Nat} {a b c d : Value} {t : TypeId} (h : W.heap[g]? = some (.cells #[a, b, c, d] t (0, 0))) : W.cell? ⟨g, 0, none⟩ = some a ∧ W.cell? ⟨g, 1, none⟩ = some b ∧ W.cell? ⟨g, 2, none⟩ = some c ∧ W.cell? ⟨g, 3, none⟩ = some d ∧ (∀ o, W.frozen? ⟨g, o, none⟩ = false) ∧ g < W.heap.size :=
  ⟨by simp [World.cell?, h], by simp [World.cell?, h], by simp [World.cell?, h], by simp [World.cell?, h], fun o => by simp [World.frozen?, h], (Array.getElem?_eq_some_iff.1 h).1⟩
/-- A block of four cells, all stored. -/
theorem put_four {W : World} {g : Nat} {a b c d a' b' c' d' : Value} {t : TypeId} (h : W.heap[g]? = some (.cells #[a, b, c, d] t (0, 0))) : ∃ W1, (((W.setCell ⟨g, 0, none⟩ a').setCell ⟨g, 1, none⟩ b').setCell ⟨g, 2, none⟩ c').setCell ⟨g, 3, none⟩ d' = W1 ∧
    W1.heap[g]? = some (.cells #[a', b', c', d'] t (0, 0)) ∧ W.grownBy W1 (some g) ∧ W1.heap.size = W.heap.size :=
  ⟨_, rfl, by simp [World.setCell, Array.getElem?_modify, h], grow_put (p := ⟨g, 3, none⟩) (grow_put (p := ⟨g, 2, none⟩) (grow_put (p := ⟨g, 1, none⟩) (grow_put (p := ⟨g, 0, none⟩) (grow_refl W (some g)) rfl a') rfl b') rfl c') rfl d', by simp⟩
/-- The first two, or the third, of four cells stored. -/
theorem put_duo {W : World} {g : Nat} {a b c d a' b' : Value} {t : TypeId} (h : W.heap[g]? = some (.cells #[a, b, c, d] t (0, 0))) : ∃ W1, (W.setCell ⟨g, 0, none⟩ a').setCell ⟨g, 1, none⟩ b' = W1 ∧ W1.heap[g]? = some (.cells #[a', b', c, d] t (0, 0)) ∧ W.grownBy W1 (some g) ∧ W1.heap.size = W.heap.size :=
  ⟨_, rfl, by simp [World.setCell, Array.getElem?_modify, h], grow_put (p := ⟨g, 1, none⟩) (grow_put (p := ⟨g, 0, none⟩) (grow_refl W (some g)) rfl a') rfl b', by simp⟩
theorem put_third {W : World} {g : Nat} {a b c d c' : Value} {t : TypeId} (h : W.heap[g]? = some (.cells #[a, b, c, d] t (0, 0))) : ∃ W1, W.setCell ⟨g, 2, none⟩ c' = W1 ∧ W1.heap[g]? = some (.cells #[a, b, c', d] t (0, 0)) ∧ W.grownBy W1 (some g) ∧ W1.heap.size = W.heap.size :=
  ⟨_, rfl, by simp [World.setCell, Array.getElem?_modify, h], grow_put (p := ⟨g, 2, none⟩) (grow_refl W (some g)) rfl c', by simp⟩
/-- Four cells that are a box, as a fact of a bag. -/
def Box4 (g : Nat) (a b c d : Value) : World → Prop := fun w => w.cell? ⟨g, 0, none⟩ = some a ∧ w.cell? ⟨g, 1, none⟩ = some b ∧ w.cell? ⟨g, 2, none⟩ = some c ∧ w.cell? ⟨g, 3, none⟩ = some d ∧ g < w.heap.size
theorem lasts_box4 (g : Nat) (a b c d : Value) : Lasts (Box4 g a b c d) := fun _ _ h hb => ⟨(hb.cell (p := ⟨g, 0, none⟩) h.2.2.2.2).trans h.1, (hb.cell (p := ⟨g, 1, none⟩) h.2.2.2.2).trans h.2.1, (hb.cell (p := ⟨g, 2, none⟩) h.2.2.2.2).trans h.2.2.1, (hb.cell (p := ⟨g, 3, none⟩) h.2.2.2.2).trans h.2.2.2.1, Nat.lt_of_lt_of_le h.2.2.2.2 hb.size⟩
theorem bag_four {w w1 : World} {Fs : List (World → Prop)} (h : Bag w Fs) (hb : Below w.heap.size w w1) (a b c d : Value) (t : TypeId) : ∃ w', w1.alloc (.cells #[a, b, c, d] t) = w' ∧ Bag w' (Box4 w1.heap.size a b c d :: Fs) ∧ Below w.heap.size w w' ∧ Below w1.heap.size w1 w' ∧ w1.heap.size < w'.heap.size := by
  obtain ⟨w2, e2, b2, k4, k5⟩ := box_4 w1 a b c d t
  obtain ⟨k0, k1, k2, k3, _, k6⟩ := four_cells b2
  exact ⟨w2, e2, ((h.below hb).below k5).add ⟨k0, k1, k2, k3, k6⟩ (lasts_box4 _ _ _ _ _), hb.trans (k5.mono hb.size), k5, by omega⟩
def OldR (v : Value) (s : Rm) : World → Prop := fun w => Sto (Old w) w v s
theorem lasts_oldR (v : Value) (s : Rm) : Lasts (OldR v s) := fun _ _ h hb => h.below hb
def NewR (lo : Nat) (v : Value) (s : Rm) : World → Prop := fun w => Sto (New lo w) w v s
theorem lasts_newR (lo : Nat) (v : Value) (s : Rm) : Lasts (NewR lo v s) := fun _ _ h hb => h.new (Nat.le_refl _) hb

/-! ### Arguments -/
set_option maxRecDepth 100000 in
theorem opens_by9 : Opens Tryz.prog 26 rBy := opens_sl Tryz.underlying26 (by kernel_rfl) (opens_u8 Tryz.underlying5)
set_option maxRecDepth 100000 in
theorem opens_store : Opens Tryz.prog 28 rSto := opens_struct Tryz.underlying28 (opensF_cons rfl opens_disk (opensF_cons (by kernel_rfl) opens_by9 (opensF_one (by kernel_rfl) (by kernel_rfl) opens_by9)))
theorem rSto_open {ok : Addr → Prop} {w : World} {cs : List Value} {s : Rm} (h : rSto ok w cs s) : ∃ a b n l, cs = [a, b, n, l] ∧ Dsk ok w (.agg #[a, b]) s.1 ∧ rBy ok w [n] s.2.1 ∧ rBy ok w [l] s.2.2 := by
  obtain ⟨_, _, rfl, ⟨_, _, rfl, h1, h2⟩, _, _, rfl, h3, h4⟩ := h
  obtain ⟨A, ca, rfl, h1'⟩ := h1
  obtain ⟨B, cb, rfl, h2'⟩ := h2
  obtain ⟨N, cn, rfl, h3'⟩ := h3
  obtain ⟨L, cl, rfl, h4'⟩ := h4
  exact ⟨_, _, _, _, rfl, ⟨_, _, rfl, ⟨A, ca, rfl, h1'⟩, ⟨B, cb, rfl, h2'⟩⟩, ⟨N, cn, rfl, h3'⟩, ⟨L, cl, rfl, h4'⟩⟩
set_option maxRecDepth 100000 in
/-- A store that came in. -/
theorem open_store {H : Type} {enc : TypeId × Value → H} {w : World} {b0 : Nat} {spare : Nat → Bool} {held : Bool} {r : Reach} {v : Value} {x : DataW H} {ps : List MemPlace} (hval : Value.okWide Tryz.prog w r b0 28 v) (hd : DataW.Trod enc Tryz.prog w 0 spare held 28 v x ps) :
    ∃ s, Sto (Old w) w v s := by
  obtain ⟨cs, rfl, _⟩ := okWide_struct Tryz.underlying28 hval
  obtain ⟨s, hs⟩ := open_rel opens_store hd
  obtain ⟨a, b, n, l, h1, h2, h3, h4⟩ := rSto_open hs
  exact ⟨s, a, b, n, l, by obtain ⟨cs⟩ := cs; simp [Value.cells] at h1; rw [h1], h2, h3, h4⟩
end Go.Proofs.YtmdlgnlfgfhkmaaGreat

/-
  Package room: Check, takable, checkTaken; the document's Great. Conditions: those that each lemma states.
-/
namespace Go.Proofs.YtmdlgnlfgfhkmaaGreat
open Go.RowKit

theorem checkT_by (v : Value) (t : List UInt8) (w : World) (h : rBy (Old w) w [v] t) : Calls Tryz.prog 31 #[v] w fun e w' => e = .returned (.int .i64 (chkT t)) ∧ w = w' := by
  obtain ⟨A, c, rfl, l1, m1, hb⟩ := rBy_byt (B := w.heap.size) (fun _ h => h) h
  exact checkT_any A t.length c t (Lib.hid rfl) l1 m1 w hb

/-- A store in its box. -/
theorem box_sto {w : World} {v : Value} {s : Rm} (h : Sto (Old w) w v s) : ∃ A ca B cb N cn L cl w1, v = .agg #[.slice A s.1.1.length ca, .slice B s.1.2.length cb, .slice N s.2.1.length cn, .slice L s.2.2.length cl] ∧
    w.alloc (.cells #[.slice A s.1.1.length ca, .slice B s.1.2.length cb, .slice N s.2.1.length cn, .slice L s.2.2.length cl] 28) = w1 ∧ w1.heap[w.heap.size]? = some (.cells #[.slice A s.1.1.length ca, .slice B s.1.2.length cb, .slice N s.2.1.length cn, .slice L s.2.2.length cl] 28 (0, 0)) ∧ w1.heap.size = w.heap.size + 1 ∧ Below w.heap.size w w1 ∧
    Hid (Dsk (Old w1) w1 (.agg #[.slice A s.1.1.length ca, .slice B s.1.2.length cb]) s.1) ∧ Hid (rBy (Old w1) w1 [.slice N s.2.1.length cn] s.2.1) ∧ Hid (rBy (Old w1) w1 [.slice L s.2.2.length cl] s.2.2) := by
  obtain ⟨A, ca, B, cb, N, cn, L, cl, rfl, hd, hN, hL⟩ := h.open
  obtain ⟨w1, hw1, f, hs, hB⟩ := box_4 w (.slice A s.1.1.length ca) (.slice B s.1.2.length cb) (.slice N s.2.1.length cn) (.slice L s.2.2.length cl) 28
  exact ⟨A, ca, B, cb, N, cn, L, cl, w1, rfl, hw1, f, hs, hB, Lib.hid (hd.below hB), Lib.hid (stab_by.old hN hB), Lib.hid (stab_by.old hL hB)⟩

set_option maxRecDepth 100000 in
set_option maxHeartbeats 2000000 in
theorem checkR_any (v : Value) (s : Rm) (w : World) (h : Sto (Old w) w v s) : Calls Tryz.prog 17 #[v] w fun e w' => e = .returned (.int .i64 (chkR s)) ∧ Below w.heap.size w w' := by
  obtain ⟨A, ca, B, cb, N, cn, L, cl, w1, rfl, hw1, f, hsz, hB, D, NN, LL⟩ := box_sto h
  clear h
  obtain ⟨k0, k1, k2, k3, _, kg⟩ := four_cells f
  replace hsz := Lib.hid hsz
  cases h1 : mayB s.1 with
  | false =>
    have hr : Hid (chkR s = 8) := Lib.hid (chkR_bad (by simp [mayR, h1]))
    have e1 := chk_bad h1
    go_enter Tryz.func17, Tryz.ntmps17
    go_upto_region 1 with fail
    clear hw1
    go_wp2_with fail
    with_reducible refine (check_any _ s.1 _ D.out).mono ?_
    rintro e w2 ⟨rfl, hb2⟩
    rw [e1]
    go_wp2_with fail
    go_ret
    exact ⟨ret_int hr.out.symm, hB.trans (hb2.mono hB.size)⟩
  | true =>
    have e1 := chk_ok h1
    cases h2 : mayT s.2.1 with
    | false =>
      have hr : Hid (chkR s = 8) := Lib.hid (chkR_bad (by simp [mayR, h2]))
      have e2 := chkT_bad h2
      go_enter Tryz.func17, Tryz.ntmps17
      go_upto_region 1 with fail
      clear hw1
      go_wp2_with fail
      with_reducible refine (check_any _ s.1 _ D.out).mono ?_
      rintro e w2 ⟨rfl, hb2⟩
      rw [e1]
      replace k2 := (hb2.cell (p := ⟨w.heap.size, 2, none⟩) kg).trans k2
      have N2 := Lib.hid (stab_by.old NN.out hb2)
      replace hb2 := Lib.hid (hB.trans (hb2.mono hB.size))
      go_wp2_with fail
      with_reducible refine (checkT_by _ s.2.1 _ N2.out).mono ?_
      rintro e w3 ⟨rfl, rfl⟩
      rw [e2]
      go_wp2_with fail
      go_ret
      exact ⟨ret_int hr.out.symm, hb2.out⟩
    | true =>
      have e2 := chkT_ok h2
      obtain ⟨q, hq, hr⟩ : ∃ q, chkT s.2.2 = q ∧ Hid (chkR s = q) := ⟨_, rfl, Lib.hid (by simp [chkR, chkT, mayR, h1, h2])⟩
      obtain ⟨p, hp1, hp2⟩ : ∃ p, (q != 0) = p ∧ (p = true → q = 8) ∧ (p = false → q = 0) := ⟨_, rfl, by
        rw [← hq]
        unfold chkT
        split <;> simp⟩
      go_enter Tryz.func17, Tryz.ntmps17
      go_upto_region 1 with fail
      clear hw1
      go_wp2_with fail
      with_reducible refine (check_any _ s.1 _ D.out).mono ?_
      rintro e w2 ⟨rfl, hb2⟩
      rw [e1]
      replace k2 := (hb2.cell (p := ⟨w.heap.size, 2, none⟩) kg).trans k2
      replace k3 := (hb2.cell (p := ⟨w.heap.size, 3, none⟩) kg).trans k3
      have N2 := Lib.hid (stab_by.old NN.out hb2)
      have L2 := Lib.hid (stab_by.old LL.out hb2)
      replace hb2 := Lib.hid (hB.trans (hb2.mono hB.size))
      go_wp2_with fail
      with_reducible refine (checkT_by _ s.2.1 _ N2.out).mono ?_
      rintro e w3 ⟨rfl, rfl⟩
      rw [e2]
      go_wp2_with fail
      with_reducible refine (checkT_by _ s.2.2 _ L2.out).mono ?_
      rintro e w3 ⟨rfl, rfl⟩
      rw [hq]
      replace hq := Lib.hid hq
      cases p with
      | true =>
        have h8 := Lib.hid (hp2.1 rfl)
        clear hp2
        go_wp2_with fail
        go_ret
        exact ⟨ret_int (by rw [hr.out, h8.out]), hb2.out⟩
      | false =>
        have h0 := Lib.hid (hp2.2 rfl)
        clear hp2
        go_wp2_with fail
        go_ret
        exact ⟨ret_int (by rw [hr.out, h0.out]), hb2.out⟩

/-- Is a store great? -/
def greatR (s : Rm) : Bool := greatB s.1 || decide (10000 < s.2.1.length) || decide (10000 < s.2.2.length)
theorem greatR_of {s : Rm} (h : greatR s = false) : greatB s.1 = false ∧ s.2.1.length ≤ 10000 ∧ s.2.2.length ≤ 10000 := by
  unfold greatR at h
  simp only [Bool.or_eq_false_iff, decide_eq_false_iff_not] at h
  exact ⟨h.1.1, by omega, by omega⟩
set_option maxRecDepth 100000 in
set_option maxHeartbeats 2000000 in
theorem greatR_any (v : Value) (s : Rm) (w : World) (h : Sto (Old w) w v s) : Calls Tryz.prog 4 #[v] w fun e w' => e = .returned (.bool (greatR s)) ∧ Below w.heap.size w w' := by
  obtain ⟨A, ca, B, cb, N, cn, L, cl, w1, rfl, hw1, f, hsz, hB, D, _, _⟩ := box_sto h
  clear h
  obtain ⟨k0, k1, k2, k3, _, kg⟩ := four_cells f
  replace hsz := Lib.hid hsz
  obtain ⟨n, hn⟩ : ∃ n, s.2.1.length = n := ⟨_, rfl⟩
  obtain ⟨l, hl⟩ : ∃ l, s.2.2.length = l := ⟨_, rfl⟩
  have hr : Hid (greatR s = (greatB s.1 || decide ((10000 : Int) < n) || decide ((10000 : Int) < l))) := Lib.hid (by
    unfold greatR
    rw [hn, hl, show decide (10000 < n) = decide ((10000 : Int) < n) from decide_eq_decide.2 (by omega), show decide (10000 < l) = decide ((10000 : Int) < l) from decide_eq_decide.2 (by omega)])
  rw [hn] at k2
  rw [hn, hl] at hw1 ⊢
  rw [hl] at k3
  clear hn hl
  obtain ⟨g, hg⟩ : ∃ g, greatB s.1 = g := ⟨_, rfl⟩
  rw [hg] at hr
  go_enter Tryz.func4, Tryz.ntmps4
  go_upto_region 1 with fail
  clear hw1
  go_wp2_with fail
  with_reducible refine (great_any _ s.1 _ D.out).mono ?_
  rintro e w2 ⟨rfl, hb2⟩
  rw [hg]
  replace k2 := (hb2.cell (p := ⟨w.heap.size, 2, none⟩) kg).trans k2
  replace k3 := (hb2.cell (p := ⟨w.heap.size, 3, none⟩) kg).trans k3
  replace hb2 := Lib.hid (hB.trans (hb2.mono hB.size))
  replace hg := Lib.hid hg
  cases g with
  | true =>
    go_wp2_with fail
    go_ret
    exact ⟨ret_bool (by rw [hr.out]; rfl), hb2.out⟩
  | false =>
    by_cases hn : (10000 : Int) < n
    · go_wp2_with fail
      go_ret
      exact ⟨ret_bool (by rw [hr.out]; simp [hn]), hb2.out⟩
    · by_cases hl : (10000 : Int) < l
      · go_wp2_with fail
        go_ret
        exact ⟨ret_bool (by rw [hr.out]; simp [hl]), hb2.out⟩
      · go_wp2_with fail
        go_ret
        exact ⟨ret_bool (by rw [hr.out]; simp), hb2.out⟩

set_option maxHeartbeats 1000000 in
theorem takableR_any (n : Int) (w : World) : Calls Tryz.prog 96 #[.int .i64 n] w fun e w' => e = .returned (.bool (inT n)) ∧ w = w' := by
  rcases in_ways n with ⟨h, hr⟩ | ⟨h, h2, hr⟩ | ⟨h, h2, hr⟩
  all_goals
    replace hr := Lib.hid hr
    go_enter Tryz.func96, Tryz.ntmps96
    go_wp2_with fail
    go_ret
    exact ⟨ret_bool (by first | exact hr.out.symm | (rw [hr.out]; simp; omega)), rfl⟩

set_option maxRecDepth 100000 in
set_option maxHeartbeats 2000000 in
theorem checkTakenR_any (v : Value) (s : Rm) (n : Int) (w : World) (h : Sto (Old w) w v s) : Calls Tryz.prog 89 #[v, .int .i64 n] w fun e w' => e = .returned (.int .i64 (asE s n)) ∧ Below w.heap.size w w' := by
  have H0 := Lib.hid h
  obtain ⟨A, ca, B, cb, N, cn, L, cl, w1, rfl, hw1, f, hsz, hB, _, NN, _⟩ := box_sto h
  have H := Lib.hid (h.below hB)
  clear h H0
  obtain ⟨k0, k1, k2, k3, _, kg⟩ := four_cells f
  replace hsz := Lib.hid hsz
  rcases as_ways s n with ⟨hm, he⟩ | ⟨hm, hn, he⟩ | ⟨k, hm, rfl, h8, h256, hx, he⟩ | ⟨k, hm, rfl, h8, h256, hx, he⟩
  · replace he := Lib.hid he
    have e1 := chkR_bad hm
    go_enter Tryz.func89, Tryz.ntmps89
    go_upto_region 1 with fail
    clear hw1
    go_wp2_with fail
    with_reducible refine (checkR_any _ s _ H.out).mono ?_
    rintro e w2 ⟨rfl, hb2⟩
    rw [e1]
    replace hb2 := Lib.hid (hB.trans (hb2.mono hB.size))
    go_wp2_with fail
    go_ret
    exact ⟨ret_int he.out.symm, hb2.out⟩
  · replace he := Lib.hid he
    have e1 := chkR_ok hm
    have hi : inT n = false := by
      cases hi : inT n with
      | false => rfl
      | true => obtain ⟨k, rfl, h8, h256⟩ := inT_nat hi; omega
    go_enter Tryz.func89, Tryz.ntmps89
    go_upto_region 1 with fail
    clear hw1
    go_wp2_with fail
    with_reducible refine (checkR_any _ s _ H.out).mono ?_
    rintro e w2 ⟨rfl, hb2⟩
    rw [e1]
    replace hb2 := Lib.hid (hB.trans (hb2.mono hB.size))
    go_wp2_with fail
    with_reducible refine (takableR_any n _).mono ?_
    rintro e w3 ⟨rfl, rfl⟩
    rw [hi]
    go_wp2_with fail
    go_ret
    exact ⟨ret_int he.out.symm, hb2.out⟩
  all_goals
    replace he := Lib.hid he
    have e1 := chkR_ok hm
    have hi := inT_of h8 h256
    have hlen := mayT_len (mayR_of hm).2.1
    obtain ⟨A', c', e2, l1, m1, hby⟩ := rBy_byt (B := w1.heap.size) (fun _ h => h) NN.out
    cases e2
    obtain ⟨ad, rfl, hbk, hc⟩ := hby (by omega)
    have hcell := hc k (by omega)
    replace hbk : (ad.add k).block < w1.heap.size := by rw [add_block]; exact hbk
    obtain ⟨x, hx2⟩ : ∃ x, s.2.1[k]?.getD 0 = x := ⟨_, rfl⟩
    rw [hx2] at hcell hx
    have hlt : k < s.2.1.length := by omega
    first
      | have t0 := byte_same (y := 0) (q := 0) rfl hx
      | have t0 := byte_unlike (y := 0) (q := 0) rfl hx
    replace hx2 := Lib.hid hx2
    replace hx := Lib.hid hx
    replace hlen := Lib.hid hlen
    clear hc hby
    go_enter Tryz.func89, Tryz.ntmps89
    go_upto_region 1 with fail
    clear hw1
    go_wp2_with fail
    with_reducible refine (checkR_any _ s _ H.out).mono ?_
    rintro e w2 ⟨rfl, hb2⟩
    rw [e1]
    replace k2 := (hb2.cell (p := ⟨w.heap.size, 2, none⟩) kg).trans k2
    replace hcell := (hb2.cell hbk).trans hcell
    replace hb2 := Lib.hid (hB.trans (hb2.mono hB.size))
    go_wp2_with fail
    with_reducible refine (takableR_any (k : Int) _).mono ?_
    rintro e w3 ⟨rfl, rfl⟩
    rw [hi]
    go_wp2_with fail
    go_ret
    exact ⟨ret_int he.out.symm, hb2.out⟩
end Go.Proofs.YtmdlgnlfgfhkmaaGreat

/-
  Package room: free, which is ranged over; first. Conditions: those that each lemma states.
-/
namespace Go.Proofs.YtmdlgnlfgfhkmaaGreat
open Go.RowKit Go.Shelf
attribute [local go_sem] Oper.semAt_some

theorem freeK_add (s : Rm) (k j : Nat) : ∃ r, freeK s (k + j) = freeK s k ++ r := by
  induction j with
  | zero => exact ⟨[], by simp⟩
  | succ j ih =>
    obtain ⟨r, hr⟩ := ih
    exact ⟨r ++ (if freeAt s (8 + (k + j)) then [8 + (k + j)] else []), by rw [← Nat.add_assoc, freeK_succ, hr, List.append_assoc]⟩
theorem freeK_yes {s : Rm} {k : Nat} (h : freeAt s (8 + k) = true) : freeK s (k + 1) = freeK s k ++ [8 + k] := by rw [freeK_succ, h]; rfl
theorem freeK_no {s : Rm} {k : Nat} (h : freeAt s (8 + k) = false) : freeK s (k + 1) = freeK s k := by rw [freeK_succ, h]; simp
theorem freeL_at {s : Rm} {k : Nat} (hk : k < 248) (h : freeAt s (8 + k) = true) : ∃ r, freeL s = freeK s k ++ (8 + k) :: r := by
  obtain ⟨r, hr⟩ := freeK_add s (k + 1) (247 - k)
  refine ⟨r, ?_⟩
  rw [freeL, show 248 = k + 1 + (247 - k) by omega, hr, freeK_yes h]
  simp
theorem freeAt_no1 {s : Rm} {i : Nat} (h : s.2.1[i]?.getD 0 ≠ 0) : freeAt s i = false := by simp [freeAt, h]
theorem freeAt_no2 {s : Rm} {i : Nat} (h : s.2.2[i]?.getD 0 ≠ 0) : freeAt s i = false := by simp [freeAt, h]
theorem freeAt_yes {s : Rm} {i : Nat} (h : s.2.1[i]?.getD 0 = 0) (h' : s.2.2[i]?.getD 0 = 0) : freeAt s i = true := by simp [freeAt, h, h']

set_option maxRecDepth 100000 in
set_option maxHeartbeats 4000000 in
/-- The closure of free, for every loop body that keeps what lay below n₀. -/
theorem freeC_in (F : Fence) (n : Nat) (hf : F.fn 74) (hro : F.round = none) (hn : 1 ≤ n) (l Bs n₀ : Nat) (s : Rm) (ad bd : Addr) (cn cl : Nat) (_cn1 : 256 ≤ cn) (_cl1 : 256 ≤ cl) (hBn : Bs < n₀) (hab : ad.block < n₀) (hbb : bd.block < n₀) (J Jx : List Nat → World → Prop)
    (hY : ∀ (pre : List Nat) (x : Nat) (W1 : World), J pre W1 → pre.length < 248 → YieldAt F (n - 1) Tryz.prog l #[.int .i64 (x : Int)] W1 fun e W' =>
      (e = .returned (.bool true) ∧ J (pre ++ [x]) W' ∧ Below n₀ W1 W') ∨ (e = .returned (.bool false) ∧ Jx (pre ++ [x]) W'))
    (W : World) (hb2 : W.cell? ⟨Bs, 2, none⟩ = some (.slice (some ad) 256 cn)) (hb3 : W.cell? ⟨Bs, 3, none⟩ = some (.slice (some bd) 256 cl))
    (hc : ∀ j, j < 256 → W.cell? (ad.add j) = some (.int .u8 ((s.2.1[j]?.getD 0).toNat : Int)) ∧ W.cell? (bd.add j) = some (.int .u8 ((s.2.2[j]?.getD 0).toNat : Int))) (h0 : J [] W) :
    CallsIn F n Tryz.prog 74 #[.func (.yield l) #[] #[], .pointer (some ⟨Bs, 0, none⟩)] W fun e W' => (∃ v, e = .returned v) ∧
      ((∃ ys, ys = freeL s ∧ J ys W') ∨ (∃ pre, (∃ k, k < 248 ∧ freeAt s (8 + k) = true ∧ pre = freeK s k ++ [8 + k]) ∧ Jx pre W')) := by
  refine callsIn_of_wp Tryz.func74 rfl hf ?_ hro
  simp only [Tryz.ntmps74, List.size_toArray, List.length_cons, List.length_nil, Nat.reduceAdd, Nat.reduceSub, Array.replicate_succ, Array.replicate_zero, List.push_toArray, List.append_toArray, List.nil_append, List.cons_append]
  have HC := Lib.hid hc
  clear hc
  gi_wp2
  gi_loopw [3] (fun i wr => ∃ k : Nat, k ≤ 248 ∧ i = .int .i64 ((8 + k : Nat) : Int) ∧ J (freeK s k) wr ∧ Below n₀ W wr) (fun i _ => (256 - intOf i).toNat)
  case atStart => exact ⟨0, Nat.zero_le _, by simp, h0, Below.refl _ _⟩
  case round =>
    obtain ⟨k, hk, rfl, hJs, hnx⟩ := hrel
    have b2 := (hnx.cell (p := ⟨Bs, 2, none⟩) hBn).trans hb2
    have b3 := (hnx.cell (p := ⟨Bs, 3, none⟩) hBn).trans hb3
    by_cases hlt : k < 248
    · have hx := HC.out (8 + k) (by omega)
      have c1 := (hnx.cell (p := ad.add (8 + k)) (by rw [add_block]; exact hab)).trans hx.1
      have c2 := (hnx.cell (p := bd.add (8 + k)) (by rw [add_block]; exact hbb)).trans hx.2
      clear hx
      have hlen := freeK_len s k
      have hi : 8 + k < 256 := by omega
      have hno1 := Lib.hid (fun h => freeK_no (freeAt_no1 (s := s) (i := 8 + k) h))
      have hno2 := Lib.hid (fun h => freeK_no (freeAt_no2 (s := s) (i := 8 + k) h))
      have hyes := Lib.hid (fun h h' => freeAt_yes (s := s) (i := 8 + k) h h')
      obtain ⟨x, hx⟩ : ∃ x, s.2.1[8 + k]?.getD 0 = x := ⟨_, rfl⟩
      obtain ⟨y, hy⟩ : ∃ y, s.2.2[8 + k]?.getD 0 = y := ⟨_, rfl⟩
      rw [hx] at c1 hno1 hyes
      rw [hy] at c2 hno2 hyes
      replace hx := Lib.hid hx
      replace hy := Lib.hid hy
      obtain ⟨i, hi2⟩ : ∃ i, 8 + k = i := ⟨_, rfl⟩
      have hi3 : Hid (8 + k = i) := Lib.hid hi2
      rw [hi2] at c1 c2 hi hyes ⊢
      clear hi2
      by_cases h0 : x = 0
      · by_cases h1 : y = 0
        · have t0 := byte_same (y := 0) (q := 0) rfl h0
          have t1 := byte_same (y := 0) (q := 0) rfl h1
          have hfr := Lib.hid (hyes.out h0 h1)
          have hfk := Lib.hid (freeK_yes (s := s) (k := k) (by rw [hi3.out]; exact hfr.out))
          replace h0 := Lib.hid h0
          replace h1 := Lib.hid h1
          obtain ⟨fn, tmps, assign, body, hyy, hR⟩ := hY _ i wr hJs (by omega)
          try dsimp only at hyy
          gi_wp2
          refine hR.mono ?_
          rintro e W3 (⟨rfl, hJ3, hk3⟩ | ⟨rfl, hJx3⟩)
          · gi_wp2
            go_roundw
            case rel => exact ⟨k + 1, by omega, by have := hi3.out; go_num, by rw [hfk.out, hi3.out]; exact hJ3, hnx.trans hk3⟩
            case measure => simp [intOf]; omega
          · gi_wp2
            refine bodyPost_ret (results_none rfl _ _ _) rfl ?_
            exact ⟨⟨_, rfl⟩, .inr ⟨_, ⟨k, hlt, by rw [hi3.out]; exact hfr.out, rfl⟩, by rw [hi3.out]; exact hJx3⟩⟩
        · have t0 := byte_same (y := 0) (q := 0) rfl h0
          have t1 := byte_unlike (y := 0) (q := 0) rfl h1
          have hfk := Lib.hid (hno2.out h1)
          replace h0 := Lib.hid h0
          replace h1 := Lib.hid h1
          gi_wp2
          try (refine ⟨fun _ h => (by cases h), ?_⟩; gi_wp2)
          go_roundw
          case rel => exact ⟨k + 1, by omega, by have := hi3.out; go_num, by rw [hfk.out]; exact hJs, hnx⟩
          case measure => simp [intOf]; omega
      · have t0 := byte_unlike (y := 0) (q := 0) rfl h0
        have hfk := Lib.hid (hno1.out h0)
        replace h0 := Lib.hid h0
        gi_wp2
        try (refine ⟨fun _ h => (by cases h), ?_⟩; gi_wp2)
        go_roundw
        case rel => exact ⟨k + 1, by omega, by have := hi3.out; go_num, by rw [hfk.out]; exact hJs, hnx⟩
        case measure => simp [intOf]; omega
    · obtain rfl : k = 248 := by omega
      gi_wp2
      go_end0
      exact ⟨⟨_, rfl⟩, .inl ⟨_, rfl, hJs⟩⟩

set_option maxHeartbeats 1000000 in
/-- free(s): the store is boxed; the function value captures the box. -/
theorem freeF_in (F : Fence) (n : Nat) (hf : F.fn 57) (hro : F.round = none) (a b c d : Value) (w : World) :
    CallsIn F n Tryz.prog 57 #[.agg #[a, b, c, d]] w fun e w' => e = .returned (.func (.func 74) #[] #[.pointer (some ⟨w.heap.size, 0, none⟩)]) ∧ w' = w.alloc (.cells #[a, b, c, d] 28) := by
  refine callsIn_of_wp Tryz.func57 rfl hf ?_ hro
  simp only [Tryz.ntmps57, List.size_toArray, List.length_cons, List.length_nil, Nat.reduceAdd, Nat.reduceSub, Array.replicate_succ, Array.replicate_zero, List.push_toArray, List.append_toArray, List.nil_append, List.cons_append]
  gi_wp2
  go_ret
  exact ⟨rfl, rfl⟩

/-- What free hands back gives the free blocks: all, or those up to one of them. -/
theorem freeC_stops (F : Fence) (n : Nat) (hf : F.fn 74) (hro : F.round = none) (hn : 1 ≤ n) (Bs n₀ : Nat) (s : Rm) (ad bd : Addr) (cn cl : Nat) (cn1 : 256 ≤ cn) (cl1 : 256 ≤ cl) (hBn : Bs < n₀) (hab : ad.block < n₀) (hbb : bd.block < n₀)
    (w : World) (hn₀ : n₀ ≤ w.heap.size) (hb2 : w.cell? ⟨Bs, 2, none⟩ = some (.slice (some ad) 256 cn)) (hb3 : w.cell? ⟨Bs, 3, none⟩ = some (.slice (some bd) 256 cl))
    (hc : ∀ j, j < 256 → w.cell? (ad.add j) = some (.int .u8 ((s.2.1[j]?.getD 0).toNat : Int)) ∧ w.cell? (bd.add j) = some (.int .u8 ((s.2.2[j]?.getD 0).toNat : Int))) :
    SeqStopsK F n Tryz.prog 74 #[.pointer (some ⟨Bs, 0, none⟩)] (fun x : Nat => #[Value.int .i64 (x : Int)]) (Below n₀) (fun ys => ys = freeL s) (fun pre => ∃ k, k < 248 ∧ freeAt s (8 + k) = true ∧ pre = freeK s k ++ [8 + k]) 248 w := fun l J Jx W hW _ _ hY h0 =>
  freeC_in F n hf hro hn l Bs n₀ s ad bd cn cl cn1 cl1 hBn hab hbb J Jx hY W ((hW.cell (p := ⟨Bs, 2, none⟩) (by show Bs < _; omega)).trans hb2) ((hW.cell (p := ⟨Bs, 3, none⟩) (by show Bs < _; omega)).trans hb3)
    (fun j hj => ⟨(hW.cell (p := ad.add j) (by rw [add_block]; omega)).trans (hc j hj).1, (hW.cell (p := bd.add j) (by rw [add_block]; omega)).trans (hc j hj).2⟩) h0

/-- The tables of a store that may be, cell by cell. -/
theorem tables_at {w : World} {s : Rm} {N L : Option Addr} {cn cl : Nat} (hm : mayR s = true) (hN : rBy (Old w) w [.slice N s.2.1.length cn] s.2.1) (hL : rBy (Old w) w [.slice L s.2.2.length cl] s.2.2) :
    ∃ ad bd, N = some ad ∧ L = some bd ∧ s.2.1.length = 256 ∧ s.2.2.length = 256 ∧ 256 ≤ cn ∧ 256 ≤ cl ∧ ad.block < w.heap.size ∧ bd.block < w.heap.size ∧ (∀ j, j < 256 → w.cell? (ad.add j) = some (.int .u8 ((s.2.1[j]?.getD 0).toNat : Int)) ∧ w.cell? (bd.add j) = some (.int .u8 ((s.2.2[j]?.getD 0).toNat : Int))) := by
  have hl1 := mayT_len (mayR_of hm).2.1
  have hl2 := mayT_len (mayR_of hm).2.2
  obtain ⟨N', cn', e1, l1, _, hb1⟩ := rBy_byt (B := w.heap.size) (fun _ h => h) hN
  obtain ⟨L', cl', e2, l2, _, hb2⟩ := rBy_byt (B := w.heap.size) (fun _ h => h) hL
  cases e1
  cases e2
  obtain ⟨ad, rfl, h1, h2⟩ := hb1 (by omega)
  obtain ⟨bd, rfl, h3, h4⟩ := hb2 (by omega)
  exact ⟨ad, bd, rfl, rfl, hl1, hl2, by omega, by omega, h1, h3, fun j hj => ⟨h2 j (by omega), h4 j (by omega)⟩⟩

set_option maxRecDepth 100000 in
set_option maxHeartbeats 4000000 in
theorem firstR_in (F : Fence) (n : Nat) (h3 : F.fn 35) (h5 : F.fn 57) (h7 : F.fn 74) (hro : F.round = none) (hn : 3 ≤ n)
    (v : Value) (s : Rm) (hm : mayR s = true) (w : World) (h : Sto (Old w) w v s) :
    CallsIn F n Tryz.prog 35 #[v] w fun e W' => e = .returned (.tuple #[.int .i64 (tkK s : Int), .bool (!(freeL s).isEmpty)]) ∧ Below w.heap.size w W' := by
  have h1 : 1 ≤ n := by omega
  obtain ⟨A, ca, B, cb, N, cn, L, cl, rfl, hd, hN, hL⟩ := h.open
  obtain ⟨ad, bd, rfl, rfl, hl1, hl2, l1, l2, had, hbd, hc⟩ := tables_at hm hN hL
  rw [hl1, hl2]
  clear hd hN hL h
  obtain ⟨n1, hn1⟩ : ∃ n1, s.1.1.length = n1 := ⟨_, rfl⟩
  obtain ⟨n2, hn2⟩ : ∃ n2, s.1.2.length = n2 := ⟨_, rfl⟩
  rw [hn1, hn2]
  clear hn1 hn2
  replace hl1 := Lib.hid hl1
  replace hl2 := Lib.hid hl2
  replace hc := Lib.hid hc
  refine callsIn_of_wp_marks Tryz.func35 rfl h3 ?_ hro
  simp only [Tryz.ntmps35, List.size_toArray, List.length_cons, List.length_nil, Nat.reduceAdd, Nat.reduceSub, Array.replicate_succ, Array.replicate_zero, List.push_toArray, List.append_toArray, List.nil_append, List.cons_append]
  gi_wp2_with (gi_at_call 57; refine (freeF_in F (n - 1) h5 hro _ _ _ _ _).mono ?_; rintro e w' ⟨rfl, rfl⟩)
  obtain ⟨W0, hW0, hB0, hs0, b1, b1f, b2, b2f, k2, k3⟩ : ∃ W0, (((w.alloc (.cells #[.slice A n1 ca, .slice B n2 cb, .slice (some ad) 256 cn, .slice (some bd) 256 cl] 28)).alloc (.cells #[.int .i64 0] 3)).alloc (.cells #[.bool false] 4)).alloc (.cells #[.slice A n1 ca, .slice B n2 cb, .slice (some ad) 256 cn, .slice (some bd) 256 cl] 28) = W0 ∧ Below w.heap.size w W0 ∧ W0.heap.size = w.heap.size + 4 ∧
      W0.cell? ⟨w.heap.size + 1, 0, none⟩ = some (.int .i64 0) ∧ W0.frozen? ⟨w.heap.size + 1, 0, none⟩ = false ∧ W0.cell? ⟨w.heap.size + 1 + 1, 0, none⟩ = some (.bool false) ∧ W0.frozen? ⟨w.heap.size + 1 + 1, 0, none⟩ = false ∧ W0.cell? ⟨w.heap.size + 1 + 1 + 1, 2, none⟩ = some (.slice (some ad) 256 cn) ∧ W0.cell? ⟨w.heap.size + 1 + 1 + 1, 3, none⟩ = some (.slice (some bd) 256 cl) :=
    ⟨_, rfl, ((((Below.refl _ w).alloc (Nat.le_refl _) _).alloc (by simp) _).alloc (by simp; omega) _).alloc (by simp; omega) _, by simp, by go_simp, by go_simp, by go_simp, by go_simp, by go_simp, by go_simp⟩
  rw [hW0]
  clear hW0
  have hlo : w.heap.size ≤ W0.heap.size := hB0.size
  refine wpIn_rangeFunc_ownF hro h1 (gf := 74) (lb := #[.pointer (some ⟨w.heap.size + 1 + 1 + 1, 0, none⟩)]) rfl h7 (enters_of Tryz.func74 (by kernel_rfl) rfl)
    (freeC_stops F (n - 1) h7 hro (by omega) (w.heap.size + 1 + 1 + 1) W0.heap.size s ad bd cn cl l1 l2 (by omega) (by omega) (by omega) W0 (Nat.le_refl _) k2 k3 (fun j hj => ⟨(hB0.cell (p := ad.add j) (by rw [add_block]; exact had)).trans (hc.out j hj).1, (hB0.cell (p := bd.add j) (by rw [add_block]; exact hbd)).trans (hc.out j hj).2⟩))
    (fun h h' => h.trans h') (fun W l o o' hl h1 h2 h3 => belowK_b (w := W0) (Nat.le_refl _) W l o o' hl h1 h2 h3) (Below.refl _ _) (fun _ => rfl)
    (fun pre W => (pre = [] ∧ W.cell? ⟨w.heap.size + 1, 0, none⟩ = some (.int .i64 0) ∧ W.frozen? ⟨w.heap.size + 1, 0, none⟩ = false ∧ W.cell? ⟨w.heap.size + 1 + 1, 0, none⟩ = some (.bool false) ∧ W.frozen? ⟨w.heap.size + 1 + 1, 0, none⟩ = false) ∧ Below w.heap.size w W)
    (fun cd pre W => (cd = .ret ∧ ∃ x : Nat, pre = [x] ∧ W.cell? ⟨w.heap.size + 1, 0, none⟩ = some (.int .i64 (x : Int)) ∧ W.cell? ⟨w.heap.size + 1 + 1, 0, none⟩ = some (.bool true)) ∧ Below w.heap.size w W)
    (OwnFrom.and (Own.from (fun s A B row hs hg hr => ⟨hs.1, cell_kept hs.2.1 hg hr, (frozen_kept hs.2.1 hg hr).trans hs.2.2.1, cell_kept hs.2.2.2.1 hg hr, (frozen_kept hs.2.2.2.1 hg hr).trans hs.2.2.2.2⟩) _) (ownFrom_below (Nat.le_refl _) hlo))
    (fun cd => OwnFrom.and (Own.from (fun s A B row hs hg hr => by
      obtain ⟨e, x, e2, h1, h2⟩ := hs
      exact ⟨e, x, e2, cell_kept h1 hg hr, cell_kept h2 hg hr⟩) _) (ownFrom_below (Nat.le_refl _) hlo))
    ⟨⟨rfl, b1, b1f, b2, b2f⟩, hB0⟩
    (fun x => { tmps := #[.agg #[.slice A n1 ca, .slice B n2 cb, .slice (some ad) 256 cn, .slice (some bd) 256 cl], .pointer (some ⟨w.heap.size, 0, none⟩), .pointer (some ⟨w.heap.size + 1, 0, none⟩), .pointer (some ⟨w.heap.size + 1 + 1, 0, none⟩), .int .i64 (x : Int), .agg #[.slice A n1 ca, .slice B n2 cb, .slice (some ad) 256 cn, .slice (some bd) 256 cl],
      .func (.func 74) #[] #[.pointer (some ⟨w.heap.size + 1 + 1 + 1, 0, none⟩)], .int .i64 (x : Int), undef], defers := [] }) ?assign ?body ?done ?stop
  case assign =>
    intro l x W K hK
    gi_wp2
    exact hK
  case body =>
    rintro l pre x W ⟨⟨rfl, c1, f1, c2, f2⟩, hb⟩ _
    gi_wp2
    refine ⟨(KeepsOthers.setCell _ _ _).trans (KeepsOthers.setCell _ _ _), ⟨rfl, x, rfl, ?_, ?_⟩, (hb.setCell (p := ⟨w.heap.size + 1, 0, none⟩) (by simp) _).setCell (p := ⟨w.heap.size + 1 + 1, 0, none⟩) (by simp; omega) _⟩
    · go_simp
    · go_simp
  case done =>
    rintro D zs W hD rfl ⟨⟨hz, c1, f1, c2, f2⟩, hb⟩ hK
    have hk0 : Hid (tkK s = 0) := Lib.hid (by simp [tkK, hz])
    have hemp : Hid ((freeL s).isEmpty = true) := Lib.hid (by rw [hz]; rfl)
    clear hz
    obtain ⟨W2, hW2, d1, d2, hb2, hK2⟩ : ∃ W2, (W.setCell ⟨w.heap.size + 1, 0, none⟩ (.int .i64 0)).setCell ⟨w.heap.size + 1 + 1, 0, none⟩ (.bool false) = W2 ∧ W2.cell? ⟨w.heap.size + 1, 0, none⟩ = some (.int .i64 0) ∧ W2.cell? ⟨w.heap.size + 1 + 1, 0, none⟩ = some (.bool false) ∧ Below w.heap.size w W2 ∧ W2.heap[D]? = some (.deferred (some [])) :=
      ⟨_, rfl, by go_simp, by go_simp, (hb.setCell (p := ⟨w.heap.size + 1, 0, none⟩) (by simp) _).setCell (p := ⟨w.heap.size + 1 + 1, 0, none⟩) (by simp; omega) _, ((KeepsOthers.setCell W ⟨w.heap.size + 1, 0, none⟩ (.int .i64 0)).trans (KeepsOthers.setCell _ ⟨w.heap.size + 1 + 1, 0, none⟩ (.bool false))).same D _ hK rfl⟩
    gi_wp2
    try rw [hW2]
    refine ⟨by simp, .inl ⟨_, _, rfl, run_takeDeferred hK2, ?_⟩⟩
    have hro' : ∀ r, some D = some r → ∃ o : Obj, W2.heap[r]? = some o ∧ o.isCells = false := fun r e => by cases e; exact ⟨_, hK2, rfl⟩
    have c1' := cell_kept d1 (grownBy_putObj' _ D (.deferred none)) hro'
    have c2' := cell_kept d2 (grownBy_putObj' _ D (.deferred none)) hro'
    refine ⟨.tuple #[.int .i64 0, .bool false], ?_, by rw [hk0.out, hemp.out]; rfl, hb2.trans (belowK_b hlo _ D _ _ hD hK2 rfl rfl)⟩
    simp [results, Tryz.f35, go_sem, c1', c2']
  case stop =>
    rintro D cd pre W hD ⟨k, hk, hfr, hpk⟩ ⟨⟨rfl, x, rfl, c1, c2⟩, hb⟩ hK
    obtain ⟨r, hr⟩ := freeL_at hk hfr
    have e2 : freeK s k = [] ∧ 8 + k = x := by
      cases hq : freeK s k with
      | nil => rw [hq] at hpk; simp at hpk; exact ⟨rfl, hpk.symm⟩
      | cons y q => rw [hq] at hpk; simp at hpk
    rw [e2.1, e2.2] at hr
    have hk0 : Hid (tkK s = x) := Lib.hid (by simp [tkK, hr])
    have hemp : Hid ((freeL s).isEmpty = false) := Lib.hid (by rw [hr]; rfl)
    clear hr e2 hpk
    gi_wp2
    refine ⟨by simp, .inl ⟨_, _, rfl, run_takeDeferred hK, ?_⟩⟩
    have hro' : ∀ r, some D = some r → ∃ o : Obj, W.heap[r]? = some o ∧ o.isCells = false := fun r e => by cases e; exact ⟨_, hK, rfl⟩
    have c1' := cell_kept c1 (grownBy_putObj' _ D (.deferred none)) hro'
    have c2' := cell_kept c2 (grownBy_putObj' _ D (.deferred none)) hro'
    refine ⟨.tuple #[.int .i64 (x : Int), .bool true], ?_, by rw [hk0.out, hemp.out]; rfl, hb.trans (belowK_b hlo _ D _ _ hD hK rfl rfl)⟩
    simp [results, Tryz.f35, go_sem, c1', c2']

theorem firstR_any (v : Value) (s : Rm) (hm : mayR s = true) (w : World) (h : Sto (Old w) w v s) :
    Calls Tryz.prog 35 #[v] w fun e W' => e = .returned (.tuple #[.int .i64 (tkK s : Int), .bool (!(freeL s).isEmpty)]) ∧ Below w.heap.size w W' :=
  callsIn_wide.1 (firstR_in Fence.wide 3 trivial trivial trivial rfl (Nat.le_refl _) v s hm w h)
end Go.Proofs.YtmdlgnlfgfhkmaaGreat

/-
  slices.Collect of what room.free gives; package room: Free. Conditions: those that each lemma states.
-/
namespace Go.Proofs.YtmdlgnlfgfhkmaaGreat
open Go.RowKit Go.Shelf Go.Maps
attribute [local go_sem] Oper.semAt_some

def encN (x : Nat) : Value := .int .i64 (x : Int)
def intsN (l : List Nat) : List Int := List.map (fun n : Nat => (n : Int)) l
theorem intsN_length (l : List Nat) : (intsN l).length = l.length := by simp [intsN]
theorem intsN_snoc (l : List Nat) (x : Nat) : intsN (l ++ [x]) = intsN l ++ [(x : Int)] := by simp [intsN]
theorem intsN_get0 {l r : List Nat} {x : Nat} (h : l = x :: r) : (intsN l)[0]? = some (x : Int) := by rw [h]; rfl
theorem int_info8 : (Tryz.prog.info? 3).map (fun i => (i.zero, i.size, i.bytes)) = some (some (.int .i64 0), 1, 8) := by kernel_rfl
theorem own_ints {w : World} {base n : Nat} {t : TypeId} {v : Value} {xs : List Nat} (h : w.ownsRow base t 1 v n (xs.map encN)) (hx : ∀ x ∈ xs, x < 1000) : rInts (New base w) w [v] (intsN xs) := by
  have hl : xs.length = n := by simpa using h.1
  refine own_sl h (by simp [intsN, hl]) fun i x hi => ?_
  have hi2 : (xs[i]?).map (fun n : Nat => (n : Int)) = some x := by simpa [intsN] using hi
  cases hq : xs[i]? with
  | none => rw [hq] at hi2; cases hi2
  | some y =>
    rw [hq] at hi2
    cases hi2
    have hy := hx y (List.mem_of_getElem? hq)
    refine ⟨[.int .i64 (y : Int)], rfl, fun j u hj => ?_, rfl, ?_, ?_⟩
    · have hj0 : j = 0 := by
        have := (List.getElem?_eq_some_iff.1 hj).1
        simp at this
        omega
      subst hj0
      simp at hj
      subst hj
      simp [hq, encN]
    · simp only [IntKind.min, IntKind.signed, IntKind.bits]; (try simp); (try omega)
    · simp only [IntKind.max, IntKind.signed, IntKind.bits]; (try simp); (try omega)

end Go.Proofs.YtmdlgnlfgfhkmaaGreat

/-
  Package room: Take. Conditions: those that each lemma states.
-/
namespace Go.Proofs.YtmdlgnlfgfhkmaaGreat
open Go.RowKit

/-- A store in its box, and the result's behind it. -/
theorem box_sto2 {w : World} {v : Value} {s : Rm} (h : Sto (Old w) w v s) : ∃ A ca B cb N cn L cl w1, v = .agg #[.slice A s.1.1.length ca, .slice B s.1.2.length cb, .slice N s.2.1.length cn, .slice L s.2.2.length cl] ∧
    (w.alloc (.cells #[.slice A s.1.1.length ca, .slice B s.1.2.length cb, .slice N s.2.1.length cn, .slice L s.2.2.length cl] 28)).alloc (.cells #[.slice none 0 0, .slice none 0 0, .slice none 0 0, .slice none 0 0] 28) = w1 ∧
    w1.heap[w.heap.size]? = some (.cells #[.slice A s.1.1.length ca, .slice B s.1.2.length cb, .slice N s.2.1.length cn, .slice L s.2.2.length cl] 28 (0, 0)) ∧ w1.heap[w.heap.size + 1]? = some (.cells #[.slice none 0 0, .slice none 0 0, .slice none 0 0, .slice none 0 0] 28 (0, 0)) ∧ w1.heap.size = w.heap.size + 2 ∧ Below w.heap.size w w1 ∧
    Hid (Sto (Old w1) w1 (.agg #[.slice A s.1.1.length ca, .slice B s.1.2.length cb, .slice N s.2.1.length cn, .slice L s.2.2.length cl]) s) := by
  obtain ⟨A, ca, B, cb, N, cn, L, cl, rfl, _, _, _⟩ := h.open
  have hb : Below w.heap.size w ((w.alloc (.cells #[.slice A s.1.1.length ca, .slice B s.1.2.length cb, .slice N s.2.1.length cn, .slice L s.2.2.length cl] 28)).alloc (.cells #[.slice none 0 0, .slice none 0 0, .slice none 0 0, .slice none 0 0] 28)) := ((Below.refl _ w).alloc (Nat.le_refl _) _).alloc (by simp) _
  refine ⟨A, ca, B, cb, N, cn, L, cl, _, rfl, rfl, alloc_block (heap_alloc_new _ _), ?_, by simp, hb, Lib.hid (h.below hb)⟩
  have := heap_alloc_new (w.alloc (.cells #[.slice A s.1.1.length ca, .slice B s.1.2.length cb, .slice N s.2.1.length cn, .slice L s.2.2.length cl] 28)) (.cells #[.slice none 0 0, .slice none 0 0, .slice none 0 0, .slice none 0 0] 28)
  rwa [World.size_alloc] at this

theorem tk_write {s : Rm} {b : List UInt8} (hm : mayR s = true) (hb : b.length = 128) (hl : freeL s ≠ []) : (8 ≤ tkK s ∧ tkK s < 256 ∧ s.2.1[tkK s]?.getD 0 = 0 ∧ wErr s.1 (tkK s : Int) b = (if 4096 ≤ s.1.2.length then 9 else 0)) := by
  cases hf : freeL s with
  | nil => exact absurd hf hl
  | cons k m =>
    obtain ⟨h1, h2, h3, h4⟩ := free_in (s := s) (i := k) (by rw [hf]; exact List.mem_cons_self)
    have hk : tkK s = k := by simp [tkK, hf]
    rw [hk]
    refine ⟨h1, h2, h3, ?_⟩
    have hmd := (mayR_of hm).1
    have h5 := (may_of hmd).2.1
    have h6 : thereB (k : Int) = true := thereB_of h2
    by_cases h7 : 4096 ≤ s.1.2.length
    · have h8 : s.1.2.length = 4096 := by omega
      simp [wErr, hmd, h6, hb, h8]
    · have h8 : s.1.2.length ≠ 4096 := by omega
      simp [wErr, hmd, h6, hb, h8, h7]

set_option maxRecDepth 100000 in
set_option maxHeartbeats 4000000 in
theorem takeR_any (v u : Value) (s : Rm) (b : List UInt8) (w : World) (h : Sto (Old w) w v s) (hu : rBy (Old w) w [u] b) :
    Calls Tryz.prog 21 #[v, u] w fun e w' => ∃ t, e = .returned (.tuple #[t, .int .i64 (tkN s b), .int .i64 (tkE s b)]) ∧ Sto (New w.heap.size w') w' t (tkV s b) ∧ Below w.heap.size w w' := by
  obtain ⟨A, ca, B, cb, N, cn, L, cl, w1, rfl, hw1, f1, f2, hsz, hB, H⟩ := box_sto2 h
  obtain ⟨E, ce, rfl, _⟩ := id (rBy_open hu)
  have U := Lib.hid (stab_by.old hu hB)
  clear h hu
  obtain ⟨k0, k1, k2, k3, _, kg⟩ := four_cells f1
  replace hsz := Lib.hid hsz
  rcases tk_ways s b with ⟨hm, hE⟩ | ⟨hm, hlb, hE⟩ | ⟨hm, hlb, hfl, hE⟩ | ⟨hm, hlb, hfl, hfw, hE⟩ | ⟨hm, hlb, hfl, hfw, hE⟩
  · replace hE := Lib.hid hE
    have e1 := chkR_bad hm
    replace f2 := Lib.hid f2
    go_enter Tryz.func21, Tryz.ntmps21
    go_upto_region 1 with fail
    clear hw1
    go_wp2_with fail
    with_reducible refine (checkR_any _ s _ H.out).mono ?_
    rintro e w2 ⟨rfl, hb2⟩
    rw [e1]
    have F2 := (hb2.block (w.heap.size + 1) (by rw [hsz.out]; omega)).trans f2.out
    replace hb2 := Lib.hid (hB.trans (hb2.mono hB.size))
    obtain ⟨k0, k1, k2, k3, k4, k5⟩ := four_cells F2
    obtain ⟨W9, hW9, g9, gr9, gs9⟩ := put_four (a' := .slice none 0 0) (b' := .slice none 0 0) (c' := .slice none 0 0) (d' := .slice none 0 0) F2
    obtain ⟨n0, n1, n2, n3, _, _⟩ := four_cells g9
    have hB9 := Lib.hid ((hb2).out.grown gr9 (hb2).out.size (fun q e => by cases e; omega))
    replace g9 := Lib.hid g9
    replace F2 := Lib.hid F2
    clear gr9 gs9
    go_wp2_with fail
    refine bodyPost_ret (v := .tuple #[.agg #[.slice none 0 0, .slice none 0 0, .slice none 0 0, .slice none 0 0], .int .i64 0, .int .i64 8]) (by simp [results, Tryz.results21, go_sem, n0, n1, n2, n3]) rfl ?_
    obtain ⟨hN, hV⟩ := tk_no (s := s) (b := b) (by rw [hE.out]; decide)
    rw [hN, hV, hE.out]
    exact ⟨_, rfl, sto_empty _ _, hB9.out⟩
  · replace hE := Lib.hid hE
    have e1 := chkR_ok hm
    have e2 : ((b.length : Int) != 128) = true := by simp; omega
    replace f2 := Lib.hid f2
    go_enter Tryz.func21, Tryz.ntmps21
    go_upto_region 1 with fail
    clear hw1
    go_wp2_with fail
    with_reducible refine (checkR_any _ s _ H.out).mono ?_
    rintro e w2 ⟨rfl, hb2⟩
    rw [e1]
    have G2 := (hb2.block w.heap.size kg).trans f1
    obtain ⟨m0, m1, m2, m3, _, mg⟩ := four_cells G2
    have F2 := (hb2.block (w.heap.size + 1) (by rw [hsz.out]; omega)).trans f2.out
    have H2 := Lib.hid (H.out.below hb2)
    have U2 := Lib.hid (stab_by.old U.out hb2)
    have s2 : Hid (w.heap.size + 2 ≤ w2.heap.size) := Lib.hid (by have := hb2.size; have := hsz.out; omega)
    replace hb2 := Lib.hid (hB.trans (hb2.mono hB.size))
    replace G2 := Lib.hid G2
    replace F2 := Lib.hid F2
    clear k0 k1 k2 k3 kg f1 hB
    replace F2 := F2.out
    obtain ⟨k0, k1, k2, k3, k4, k5⟩ := four_cells F2
    obtain ⟨W9, hW9, g9, gr9, gs9⟩ := put_four (a' := .slice none 0 0) (b' := .slice none 0 0) (c' := .slice none 0 0) (d' := .slice none 0 0) F2
    obtain ⟨n0, n1, n2, n3, _, _⟩ := four_cells g9
    have hB9 := Lib.hid ((hb2).out.grown gr9 (hb2).out.size (fun q e => by cases e; omega))
    replace g9 := Lib.hid g9
    replace F2 := Lib.hid F2
    clear gr9 gs9
    go_wp2_with fail
    refine bodyPost_ret (v := .tuple #[.agg #[.slice none 0 0, .slice none 0 0, .slice none 0 0, .slice none 0 0], .int .i64 0, .int .i64 3]) (by simp [results, Tryz.results21, go_sem, n0, n1, n2, n3]) rfl ?_
    obtain ⟨hN, hV⟩ := tk_no (s := s) (b := b) (by rw [hE.out]; decide)
    rw [hN, hV, hE.out]
    exact ⟨_, rfl, sto_empty _ _, hB9.out⟩
  · replace hE := Lib.hid hE
    have e1 := chkR_ok hm
    have e2 : ((b.length : Int) != 128) = false := by rw [hlb]; rfl
    have hemp : (!(freeL s).isEmpty) = false := by rw [hfl]; rfl
    replace f2 := Lib.hid f2
    replace hlb := Lib.hid hlb
    replace hfl := Lib.hid hfl
    go_enter Tryz.func21, Tryz.ntmps21
    go_upto_region 1 with fail
    clear hw1
    go_wp2_with fail
    with_reducible refine (checkR_any _ s _ H.out).mono ?_
    rintro e w2 ⟨rfl, hb2⟩
    rw [e1]
    have G2 := (hb2.block w.heap.size kg).trans f1
    obtain ⟨m0, m1, m2, m3, _, mg⟩ := four_cells G2
    have F2 := (hb2.block (w.heap.size + 1) (by rw [hsz.out]; omega)).trans f2.out
    have H2 := Lib.hid (H.out.below hb2)
    have U2 := Lib.hid (stab_by.old U.out hb2)
    have s2 : Hid (w.heap.size + 2 ≤ w2.heap.size) := Lib.hid (by have := hb2.size; have := hsz.out; omega)
    replace hb2 := Lib.hid (hB.trans (hb2.mono hB.size))
    replace G2 := Lib.hid G2
    replace F2 := Lib.hid F2
    clear k0 k1 k2 k3 kg f1 hB
    go_wp2_with fail
    with_reducible refine (firstR_any _ s hm _ H2.out).mono ?_
    rintro e w3 ⟨rfl, hb3⟩
    rw [hemp]
    have G3 := (hb3.block w.heap.size mg).trans G2.out
    obtain ⟨k0, k1, k2, k3, _, kg⟩ := four_cells G3
    have F3 := (hb3.block (w.heap.size + 1) (by have := s2.out; omega)).trans F2.out
    have H3 := Lib.hid (H2.out.below hb3)
    have U3 := Lib.hid (stab_by.old U2.out hb3)
    have s3 : Hid (w.heap.size + 2 ≤ w3.heap.size) := Lib.hid (by have := hb3.size; have := s2.out; omega)
    replace hb3 := Lib.hid (hb2.out.trans (hb3.mono hb2.out.size))
    replace G3 := Lib.hid G3
    clear m0 m1 m2 m3 mg G2 F2 H2 U2 hb2
    obtain ⟨k0, k1, k2, k3, k4, k5⟩ := four_cells F3
    obtain ⟨W9, hW9, g9, gr9, gs9⟩ := put_four (a' := .slice none 0 0) (b' := .slice none 0 0) (c' := .slice none 0 0) (d' := .slice none 0 0) F3
    obtain ⟨n0, n1, n2, n3, _, _⟩ := four_cells g9
    have hB9 := Lib.hid ((hb3).out.grown gr9 (hb3).out.size (fun q e => by cases e; omega))
    replace g9 := Lib.hid g9
    replace F3 := Lib.hid F3
    clear gr9 gs9
    go_wp2_with fail
    refine bodyPost_ret (v := .tuple #[.agg #[.slice none 0 0, .slice none 0 0, .slice none 0 0, .slice none 0 0], .int .i64 0, .int .i64 9]) (by simp [results, Tryz.results21, go_sem, n0, n1, n2, n3]) rfl ?_
    obtain ⟨hN, hV⟩ := tk_no (s := s) (b := b) (by rw [hE.out]; decide)
    rw [hN, hV, hE.out]
    exact ⟨_, rfl, sto_empty _ _, hB9.out⟩
  · replace hE := Lib.hid hE
    have e1 := chkR_ok hm
    have e2 : ((b.length : Int) != 128) = false := by rw [hlb]; rfl
    have hemp : (!(freeL s).isEmpty) = true := by cases hq : freeL s with
      | nil => exact absurd hq hfl
      | cons k m => rfl
    obtain ⟨h8, h256, h0, hwe⟩ := tk_write hm hlb hfl
    rw [if_pos hfw] at hwe
    obtain ⟨k, hk⟩ : ∃ k, tkK s = k := ⟨_, rfl⟩
    obtain ⟨R, hR⟩ : ∃ R, wrR s.1 (k : Int) b = R := ⟨_, rfl⟩
    rw [hk] at h8 h256 hwe
    replace f2 := Lib.hid f2
    replace hlb := Lib.hid hlb
    replace hfl := Lib.hid hfl
    replace hk := Lib.hid hk
    replace hR := Lib.hid hR
    replace hwe := Lib.hid hwe
    go_enter Tryz.func21, Tryz.ntmps21
    go_upto_region 1 with fail
    clear hw1
    go_wp2_with fail
    with_reducible refine (checkR_any _ s _ H.out).mono ?_
    rintro e w2 ⟨rfl, hb2⟩
    rw [e1]
    have G2 := (hb2.block w.heap.size kg).trans f1
    obtain ⟨m0, m1, m2, m3, _, mg⟩ := four_cells G2
    have F2 := (hb2.block (w.heap.size + 1) (by rw [hsz.out]; omega)).trans f2.out
    have H2 := Lib.hid (H.out.below hb2)
    have U2 := Lib.hid (stab_by.old U.out hb2)
    have s2 : Hid (w.heap.size + 2 ≤ w2.heap.size) := Lib.hid (by have := hb2.size; have := hsz.out; omega)
    replace hb2 := Lib.hid (hB.trans (hb2.mono hB.size))
    replace G2 := Lib.hid G2
    replace F2 := Lib.hid F2
    clear k0 k1 k2 k3 kg f1 hB
    go_wp2_with fail
    with_reducible refine (firstR_any _ s hm _ H2.out).mono ?_
    rintro e w3 ⟨rfl, hb3⟩
    rw [hemp]
    have G3 := (hb3.block w.heap.size mg).trans G2.out
    obtain ⟨k0, k1, k2, k3, _, kg⟩ := four_cells G3
    have F3 := (hb3.block (w.heap.size + 1) (by have := s2.out; omega)).trans F2.out
    have H3 := Lib.hid (H2.out.below hb3)
    have U3 := Lib.hid (stab_by.old U2.out hb3)
    have s3 : Hid (w.heap.size + 2 ≤ w3.heap.size) := Lib.hid (by have := hb3.size; have := s2.out; omega)
    replace hb3 := Lib.hid (hb2.out.trans (hb3.mono hb2.out.size))
    replace G3 := Lib.hid G3
    clear m0 m1 m2 m3 mg G2 F2 H2 U2 hb2
    rw [hk.out]
    replace F3 := Lib.hid F3
    go_wp2_with fail
    with_reducible refine (write_new _ _ s.1 (k : Int) b _ H3.out.parts.1 U3.out).mono ?_
    rintro e w4 ⟨A4, c4, B4, d4, rfl, _, hb4⟩
    rw [hwe.out, hR.out]
    have F4 := (hb4.block (w.heap.size + 1) (by have := s3.out; omega)).trans F3.out
    obtain ⟨w5, hw5, g5, hs5, hb5⟩ := box_pair' w4 (.slice A4 R.1.length c4) (.slice B4 R.2.length d4) 25
    have F5 := (hb5.block (w.heap.size + 1) (by have := s3.out; have := hb4.size; omega)).trans F4
    have B5 := Lib.hid (hb3.out.trans ((hb4.trans (hb5.mono hb4.size)).mono hb3.out.size))
    replace F4 := Lib.hid F4
    replace g5 := Lib.hid g5
    replace hs5 := Lib.hid hs5
    clear hb4 hb5
    go_upto_region 10 with fail
    clear hw5
    obtain ⟨k0, k1, k2, k3, k4, k5⟩ := four_cells F5
    obtain ⟨W9, hW9, g9, gr9, gs9⟩ := put_four (a' := .slice none 0 0) (b' := .slice none 0 0) (c' := .slice none 0 0) (d' := .slice none 0 0) F5
    obtain ⟨n0, n1, n2, n3, _, _⟩ := four_cells g9
    have hB9 := Lib.hid ((B5).out.grown gr9 (B5).out.size (fun q e => by cases e; omega))
    replace g9 := Lib.hid g9
    replace F5 := Lib.hid F5
    clear gr9 gs9
    go_wp2_with fail
    refine bodyPost_ret (v := .tuple #[.agg #[.slice none 0 0, .slice none 0 0, .slice none 0 0, .slice none 0 0], .int .i64 0, .int .i64 9]) (by simp [results, Tryz.results21, go_sem, n0, n1, n2, n3]) rfl ?_
    obtain ⟨hN, hV⟩ := tk_no (s := s) (b := b) (by rw [hE.out]; decide)
    rw [hN, hV, hE.out]
    exact ⟨_, rfl, sto_empty _ _, hB9.out⟩
  · replace hE := Lib.hid hE
    have e1 := chkR_ok hm
    have e2 : ((b.length : Int) != 128) = false := by rw [hlb]; rfl
    have hemp : (!(freeL s).isEmpty) = true := by cases hq : freeL s with
      | nil => exact absurd hq hfl
      | cons k m => rfl
    obtain ⟨h8, h256, h0, hwe⟩ := tk_write hm hlb hfl
    rw [if_neg (by omega)] at hwe
    have hV : Hid (tkV s b = (wrR s.1 (tkK s : Int) b, s.2.1.set (tkK s) 1, s.2.2)) := Lib.hid (by
      rw [(tk_ok hE.out).2.2.2.2.2.2.2.2.2, wrR_nat hwe])
    have hT : Hid (tkN s b = (tkK s : Int)) := Lib.hid (tk_ok hE.out).2.2.2.2.2.2.2.2.1
    obtain ⟨k, hk⟩ : ∃ k, tkK s = k := ⟨_, rfl⟩
    obtain ⟨R, hR⟩ : ∃ R, wrR s.1 (k : Int) b = R := ⟨_, rfl⟩
    rw [hk] at h8 h256 hwe hV hT h0
    rw [hR] at hV
    obtain ⟨hu0, hu1⟩ := up_ok (mayR_of hm).2.1 h8 h256 (by rw [h0]; decide)
    rw [h0, show (0 : UInt8) + 1 = 1 from rfl] at hu1
    obtain ⟨T, hT2⟩ : ∃ T, s.2.1.set k 1 = T := ⟨_, rfl⟩
    rw [hT2] at hu1 hV
    have hll := mayT_len (mayR_of hm).2.2
    replace f2 := Lib.hid f2
    replace hlb := Lib.hid hlb
    replace hfl := Lib.hid hfl
    replace hk := Lib.hid hk
    replace hR := Lib.hid hR
    replace hwe := Lib.hid hwe
    replace hu0 := Lib.hid hu0
    replace hu1 := Lib.hid hu1
    replace hT2 := Lib.hid hT2
    replace hll := Lib.hid hll
    replace h0 := Lib.hid h0
    go_enter Tryz.func21, Tryz.ntmps21
    go_upto_region 1 with fail
    clear hw1
    go_wp2_with fail
    with_reducible refine (checkR_any _ s _ H.out).mono ?_
    rintro e w2 ⟨rfl, hb2⟩
    rw [e1]
    have G2 := (hb2.block w.heap.size kg).trans f1
    obtain ⟨m0, m1, m2, m3, _, mg⟩ := four_cells G2
    have F2 := (hb2.block (w.heap.size + 1) (by rw [hsz.out]; omega)).trans f2.out
    have H2 := Lib.hid (H.out.below hb2)
    have U2 := Lib.hid (stab_by.old U.out hb2)
    have s2 : Hid (w.heap.size + 2 ≤ w2.heap.size) := Lib.hid (by have := hb2.size; have := hsz.out; omega)
    replace hb2 := Lib.hid (hB.trans (hb2.mono hB.size))
    replace G2 := Lib.hid G2
    replace F2 := Lib.hid F2
    clear k0 k1 k2 k3 kg f1 hB
    go_wp2_with fail
    with_reducible refine (firstR_any _ s hm _ H2.out).mono ?_
    rintro e w3 ⟨rfl, hb3⟩
    rw [hemp]
    have G3 := (hb3.block w.heap.size mg).trans G2.out
    obtain ⟨k0, k1, k2, k3, _, kg⟩ := four_cells G3
    have F3 := (hb3.block (w.heap.size + 1) (by have := s2.out; omega)).trans F2.out
    have H3 := Lib.hid (H2.out.below hb3)
    have U3 := Lib.hid (stab_by.old U2.out hb3)
    have s3 : Hid (w.heap.size + 2 ≤ w3.heap.size) := Lib.hid (by have := hb3.size; have := s2.out; omega)
    replace hb3 := Lib.hid (hb2.out.trans (hb3.mono hb2.out.size))
    replace G3 := Lib.hid G3
    clear m0 m1 m2 m3 mg G2 F2 H2 U2 hb2
    rw [hk.out]
    replace F3 := Lib.hid F3
    go_wp2_with fail
    with_reducible refine (write_new _ _ s.1 (k : Int) b _ H3.out.parts.1 U3.out).mono ?_
    rintro e w4 ⟨A4, c4, B4, d4, rfl, hd4, hb4⟩
    rw [hwe.out, hR.out]
    rw [hR.out] at hd4
    have F4 := (hb4.block (w.heap.size + 1) (by have := s3.out; omega)).trans F3.out
    have G4 := (hb4.block w.heap.size kg).trans G3.out
    obtain ⟨w5, hw5, g5, hs5, hb5⟩ := box_pair' w4 (.slice A4 R.1.length c4) (.slice B4 R.2.length d4) 25
    have F5 := Lib.hid ((hb5.block (w.heap.size + 1) (by have := s3.out; have := hb4.size; omega)).trans F4)
    have G5 := (hb5.block w.heap.size (by have := s3.out; have := hb4.size; omega)).trans G4
    have H5 := Lib.hid ((H3.out.below hb4).below hb5)
    have D5 := Lib.hid (hd4.new (Nat.le_refl _) hb5)
    have s5 : Hid (w4.heap.size + 1 = w5.heap.size ∧ w.heap.size + 2 ≤ w4.heap.size) := Lib.hid ⟨by omega, by have := s3.out; have := hb4.size; omega⟩
    have B5 := Lib.hid (hb3.out.trans ((hb4.trans (hb5.mono hb4.size)).mono hb3.out.size))
    obtain ⟨m0, m1, m2, m3, _, mg⟩ := four_cells G5
    replace F4 := Lib.hid F4
    replace g5 := Lib.hid g5
    replace hs5 := Lib.hid hs5
    replace G5 := Lib.hid G5
    clear hb4 hb5 G4 k0 k1 k2 k3 hd4 H3 U3 G3
    go_upto_region 10 with fail
    clear hw5
    go_wp2_with fail
    with_reducible refine (up_open _ s.2.1 (k : Int) _ H5.out.parts.2.1).mono ?_
    rintro e w6 ⟨E6, c6, rfl, h6, hb6⟩
    rw [hu0.out, hu1.out]
    rw [hu1.out] at h6
    have F6 := Lib.hid ((hb6.block (w.heap.size + 1) (by have := s5.out; omega)).trans F5.out)
    have G6 := (hb6.block w.heap.size mg).trans G5.out
    have P6 := (hb6.block w4.heap.size (by have := s5.out; omega)).trans g5.out
    have H6 := Lib.hid (H5.out.below hb6)
    have D6 := Lib.hid (D5.out.new (Nat.le_refl _) hb6)
    have T6 := Lib.hid h6
    have B6 := Lib.hid (B5.out.trans (hb6.mono B5.out.size))
    have s6 : Hid (w.heap.size + 2 ≤ w6.heap.size) := Lib.hid (by have := s5.out; have := hb6.size; omega)
    clear hb6 h6 m0 m1 m2 m3
    obtain ⟨m0, m1, m2, m3, _, mg⟩ := four_cells G6
    obtain ⟨p0, p1, _, pg⟩ := two_cells P6
    replace G6 := Lib.hid G6
    replace P6 := Lib.hid P6
    have hcl : Hid (∀ W, Below w6.heap.size w6 W → Calls Tryz.prog 19 #[.slice L s.2.2.length cl] W fun e W' => ∃ X xc, e = .returned (.slice X s.2.2.length xc) ∧ rBy (New w6.heap.size W') W' [.slice X s.2.2.length xc] s.2.2 ∧ Below w6.heap.size w6 W') := Lib.hid fun W hC => by
      refine (clone_by _ s.2.2 W (by rw [hll.out]; omega) (stab_by.old H6.out.parts.2.2 hC)).mono ?_
      rintro e W' ⟨u, rfl, hx, hb⟩
      obtain ⟨X, xc, rfl, _⟩ := id (rBy_open hx)
      exact ⟨X, xc, rfl, stab_by.mono hx hC.size, hC.trans (hb.mono hC.size)⟩
    go_upto_region 15 with fail
    have hdr : Below w6.heap.size w6 w6.drew := (Below.refl _ _).drew
    go_region_with (first
      | (go_at_call 19; refine (hcl.out _ hdr).mono ?_; rintro e' wm ⟨X, xc, rfl, hx, hw⟩; have bW := (hw.block (w.heap.size + 1) (by have := s6.out; omega)).trans F6.out; obtain ⟨y0, y1, _, _⟩ := two_cells ((hw.block w4.heap.size pg).trans P6.out); obtain ⟨c0, c1, c2, c3, c4', _⟩ := four_cells bW))
    all_goals
      (go_wp2_with fail
       obtain ⟨W9, hW9, g9, gr9, gs9⟩ := put_four (a' := .slice A4 R.1.length c4) (b' := .slice B4 R.2.length d4) (c' := .slice E6 T.length c6) (d' := .slice X s.2.2.length xc) bW
       obtain ⟨n0, n1, n2, n3, _, _⟩ := four_cells g9
       rw [hW9]
       have BW := B6.out.trans (hw.mono B6.out.size)
       have l3 := hb3.out.size
       have l5 := B5.out.size
       have l6 := B6.out.size
       have r3 := s3.out
       have r5 := s5.out
       have r6 := s6.out
       refine bodyPost_ret (v := .tuple #[.agg #[.slice A4 R.1.length c4, .slice B4 R.2.length d4, .slice E6 T.length c6, .slice X s.2.2.length xc], .int .i64 (k : Int), .int .i64 0]) (by simp [results, Tryz.results21, go_sem, n0, n1, n2, n3]) rfl ?_
       rw [hT.out, hV.out, hE.out]
       exact ⟨_, rfl, Sto.mk (((D6.out.new (Nat.le_refl _) hw).grown gr9 (fun q e => by cases e; omega)).new l3 (Below.refl _ _)) (stab_by.new (stab_by.grown (stab_by.new T6.out (Nat.le_refl _) hw) gr9 (fun q e => by cases e; omega)) l5 (Below.refl _ _)) (stab_by.new (stab_by.grown hx gr9 (fun q e => by cases e; omega)) l6 (Below.refl _ _)), BW.grown gr9 BW.size (fun q e => by cases e; omega)⟩)
end Go.Proofs.YtmdlgnlfgfhkmaaGreat

/-
  Package room: Share. Conditions: those that each lemma states.
-/
namespace Go.Proofs.YtmdlgnlfgfhkmaaGreat
open Go.RowKit

theorem sh_bad {s : Rm} {n : Int} (h : asE s n ≠ 0) : shE s n = asE s n := by simp [shE, h]
theorem as_in {s : Rm} {n : Int} (h : asE s n = 0) : ∃ k : Nat, n = k ∧ 8 ≤ k ∧ k < 256 ∧ s.2.1[k]?.getD 0 ≠ 0 := by
  rcases as_ways s n with ⟨_, e⟩ | ⟨_, _, e⟩ | ⟨k, _, _, _, _, _, e⟩ | ⟨k, _, hn, h8, h256, hx, _⟩
  · rw [e] at h; cases h
  · rw [e] at h; cases h
  · rw [e] at h; cases h
  · exact ⟨k, hn, h8, h256, hx⟩
theorem sh_up {s : Rm} {n : Int} (h : asE s n = 0) : mayR s = true ∧ upE s.2.1 n = shE s n ∧ (shE s n = 0 → shV s n = (s.1, upV s.2.1 n, s.2.2)) := by
  rcases as_ways s n with ⟨_, e⟩ | ⟨_, _, e⟩ | ⟨k, _, _, _, _, _, e⟩ | ⟨k, hm, rfl, h8, h256, hx, e⟩
  · rw [e] at h; cases h
  · rw [e] at h; cases h
  · rw [e] at h; cases h
  · have hi := inT_of h8 h256
    have hmt := (mayR_of hm).2.1
    have h1 : upE s.2.1 (k : Int) = shE s (k : Int) := by simp [upE, turnE, shE, e, hmt, hi]
    exact ⟨hm, h1, fun h0 => by rw [shV, if_pos h0, upV, if_pos (by rw [h1]; exact h0)]⟩

end Go.Proofs.YtmdlgnlfgfhkmaaGreat

/-
  Package code: GetTwo and GetFour. Conditions: those that each lemma states.
-/
namespace Go.Proofs.YtmdlgnlfgfhkmaaGreat
open Go.RowKit

theorem gather_ok (A : Option Addr) (len cap m k : Nat) (xs : List UInt8) (hlen : xs.length = len) (hm0 : 0 < m) (hm : m ≤ 4) (hle : k + m ≤ len) (hlc : len ≤ cap) (hcap : cap ≤ 9223372036854775807) (w : World) (hx : Byt w w.heap.size A xs) :
    Calls Tryz.prog 111 #[.slice A len cap, .int .i64 k, .int .i64 m] w fun e W' => e = .returned (.tuple #[.int .u32 (num ((xs.drop k).take m)), .int .i64 0]) ∧ Below w.heap.size w W' := by
  subst hlen
  obtain ⟨ad, rfl, hp⟩ := hx.part hle hm0
  have hl : ((xs.drop k).take m).length = m := by simp; omega
  obtain ⟨ad', e, hb, hc⟩ := hp (by omega)
  cases e
  exact callsIn_wide.1 (gather_in Fence.wide 3 trivial trivial trivial rfl (Nat.le_refl _) ad xs.length cap m k _ hl hm0 hm hle hlc hcap w (by rw [add_block] at hb; exact hb) hc)

theorem gather_no (A : Option Addr) (len cap : Nat) (k : Int) (m : Nat) (hm : m ≤ 4) (hl : len ≤ 9223372036854775807) (h : k < 0 ∨ (len : Int) - m < k) (w : World) :
    Calls Tryz.prog 111 #[.slice A len cap, .int .i64 k, .int .i64 m] w fun e W' => e = .returned (.tuple #[.int .u32 0, .int .i64 8]) ∧ w = W' := by
  by_cases h' : k < 0
  · go_enter Tryz.func111, Tryz.ntmps111
    go_wp2
    go_ret2
    exact ⟨rfl, rfl⟩
  · have h2 : (len : Int) - m < k := by omega
    go_enter Tryz.func111, Tryz.ntmps111
    go_wp2
    go_ret2
    exact ⟨rfl, rfl⟩

theorem getTwo_ok (A : Option Addr) (len cap k : Nat) (xs : List UInt8) (hlen : Hid (xs.length = len)) (hle : k + 2 ≤ len) (hlc : len ≤ cap) (hcap : cap ≤ 9223372036854775807) (w : World) (hx : Byt w w.heap.size A xs) :
    Calls Tryz.prog 116 #[.slice A len cap, .int .i64 k] w fun e W' => e = .returned (.tuple #[.int .i64 (num ((xs.drop k).take 2)), .int .i64 0]) ∧ Below w.heap.size w W' := by
  have h0 := num_nonneg ((xs.drop k).take 2)
  have h1 := num_lt ((xs.drop k).take 2)
  have hl : ((xs.drop k).take 2).length = 2 := by have := hlen.out; simp; omega
  rw [hl] at h1
  simp at h1
  clear hl
  go_enter Tryz.func116, Tryz.ntmps116
  go_wp2_with fail
  refine (gather_ok A len cap 2 k xs hlen.out (by omega) (by omega) hle hlc hcap _ hx).mono ?_
  rintro e w1 ⟨rfl, hb⟩
  go_wp2
  go_ret2
  exact ⟨rfl, hb⟩

theorem getTwo_no (A : Option Addr) (len cap : Nat) (k : Int) (hl : len ≤ 9223372036854775807) (h : k < 0 ∨ (len : Int) - 2 < k) (w : World) :
    Calls Tryz.prog 116 #[.slice A len cap, .int .i64 k] w fun e W' => e = .returned (.tuple #[.int .i64 0, .int .i64 8]) ∧ w = W' := by
  go_enter Tryz.func116, Tryz.ntmps116
  go_wp2_with fail
  refine (gather_no A len cap k 2 (by omega) hl h _).mono ?_
  rintro e w1 ⟨rfl, rfl⟩
  go_wp2
  go_ret2
  exact ⟨rfl, rfl⟩

theorem getFour_ok (A : Option Addr) (len cap k : Nat) (xs : List UInt8) (hlen : Hid (xs.length = len)) (hle : k + 4 ≤ len) (hlc : len ≤ cap) (hcap : cap ≤ 9223372036854775807) (w : World) (hx : Byt w w.heap.size A xs) :
    Calls Tryz.prog 104 #[.slice A len cap, .int .i64 k] w fun e W' => e = .returned (.tuple #[.int .u32 (num ((xs.drop k).take 4)), .int .i64 0]) ∧ Below w.heap.size w W' := by
  go_enter Tryz.func104, Tryz.ntmps104
  go_wp2_with fail
  refine (gather_ok A len cap 4 k xs hlen.out (by omega) (by omega) hle hlc hcap _ hx).mono ?_
  rintro e w1 ⟨rfl, hb⟩
  go_wp2
  go_ret2
  exact ⟨rfl, hb⟩

theorem getFour_no (A : Option Addr) (len cap : Nat) (k : Int) (hl : len ≤ 9223372036854775807) (h : k < 0 ∨ (len : Int) - 4 < k) (w : World) :
    Calls Tryz.prog 104 #[.slice A len cap, .int .i64 k] w fun e W' => e = .returned (.tuple #[.int .u32 0, .int .i64 8]) ∧ w = W' := by
  go_enter Tryz.func104, Tryz.ntmps104
  go_wp2_with fail
  refine (gather_no A len cap k 4 (by omega) hl h _).mono ?_
  rintro e w1 ⟨rfl, rfl⟩
  go_wp2
  go_ret2
  exact ⟨rfl, rfl⟩

/-! ### The contracts for every argument -/
def te (n : Int) : Int := if 0 ≤ n ∧ n < 65536 then 0 else 2
def tb (n : Int) : List UInt8 := if 0 ≤ n ∧ n < 65536 then le 2 n else []
def ge (m : Nat) (len : Nat) (k : Int) : Int := if 0 ≤ k ∧ k + m ≤ len then 0 else 8
def gv (m : Nat) (xs : List UInt8) (k : Int) : Int := if 0 ≤ k ∧ k + m ≤ xs.length then num ((xs.drop k.toNat).take m) else 0
theorem te_yes {n : Int} (h : 0 ≤ n ∧ n < 65536) : te n = 0 := if_pos h
theorem te_no {n : Int} (h : ¬ (0 ≤ n ∧ n < 65536)) : te n = 2 := if_neg h
theorem tb_yes {n : Int} (h : 0 ≤ n ∧ n < 65536) : tb n = le 2 n := if_pos h
theorem tb_no {n : Int} (h : ¬ (0 ≤ n ∧ n < 65536)) : tb n = [] := if_neg h
theorem ge_yes {m len : Nat} {k : Int} (h : 0 ≤ k ∧ k + m ≤ len) : ge m len k = 0 := if_pos h
theorem ge_no {m len : Nat} {k : Int} (h : ¬ (0 ≤ k ∧ k + m ≤ len)) : ge m len k = 8 := if_neg h
theorem gv_yes {m : Nat} {xs : List UInt8} {k : Int} (h : 0 ≤ k ∧ k + m ≤ xs.length) : gv m xs k = num ((xs.drop k.toNat).take m) := if_pos h
theorem gv_no {m : Nat} {xs : List UInt8} {k : Int} (h : ¬ (0 ≤ k ∧ k + m ≤ xs.length)) : gv m xs k = 0 := if_neg h
theorem gv_bounds (m : Nat) (xs : List UInt8) (k : Int) : 0 ≤ gv m xs k ∧ gv m xs k < (256 : Int) ^ m := by
  by_cases h : 0 ≤ k ∧ k + m ≤ xs.length
  · rw [gv_yes h]
    have hl : ((xs.drop k.toNat).take m).length = m := by simp; omega
    have h1 := num_lt ((xs.drop k.toNat).take m)
    rw [hl] at h1
    exact ⟨num_nonneg _, h1⟩
  · rw [gv_no h]
    exact ⟨by omega, Int.pow_pos (by omega)⟩

theorem two_any (n : Int) (w : World) :
    Calls Tryz.prog 53 #[.int .i64 n] w fun e w' => ∃ A, e = .returned (.tuple #[.slice A (tb n).length (tb n).length, .int .i64 (te n)]) ∧ Byt w' w'.heap.size A (tb n) ∧ Below w.heap.size w w' := by
  by_cases h : 0 ≤ n ∧ n < 65536
  · rw [te_yes h, tb_yes h, le_length]
    exact two_ok n h.1 h.2 w
  · rw [te_no h, tb_no h]
    refine (two_no n (by omega) w).mono ?_
    rintro e w' ⟨rfl, rfl⟩
    exact ⟨none, rfl, Byt.nil, Below.refl _ _⟩
theorem getTwo_any (A : Option Addr) (len cap : Nat) (k : Int) (xs : List UInt8) (hlen : Hid (xs.length = len)) (hlc : len ≤ cap) (hcap : cap ≤ 9223372036854775807) (w : World) (hx : Byt w w.heap.size A xs) :
    Calls Tryz.prog 116 #[.slice A len cap, .int .i64 k] w fun e W' => e = .returned (.tuple #[.int .i64 (gv 2 xs k), .int .i64 (ge 2 len k)]) ∧ Below w.heap.size w W' := by
  obtain rfl := hlen.out
  by_cases h : 0 ≤ k ∧ k + (2 : Nat) ≤ xs.length
  · rw [ge_yes h, gv_yes h]
    obtain ⟨n, rfl⟩ := Int.eq_ofNat_of_zero_le h.1
    rw [Int.toNat_natCast]
    exact getTwo_ok A _ cap n xs hlen (by omega) hlc hcap w hx
  · rw [ge_no h, gv_no h]
    exact (getTwo_no A xs.length cap k (by omega) (by omega) w).mono fun e w' ⟨he, hw⟩ => ⟨he, hw ▸ Below.refl _ _⟩
theorem getFour_any (A : Option Addr) (len cap : Nat) (k : Int) (xs : List UInt8) (hlen : Hid (xs.length = len)) (hlc : len ≤ cap) (hcap : cap ≤ 9223372036854775807) (w : World) (hx : Byt w w.heap.size A xs) :
    Calls Tryz.prog 104 #[.slice A len cap, .int .i64 k] w fun e W' => e = .returned (.tuple #[.int .u32 (gv 4 xs k), .int .i64 (ge 4 len k)]) ∧ Below w.heap.size w W' := by
  obtain rfl := hlen.out
  by_cases h : 0 ≤ k ∧ k + (4 : Nat) ≤ xs.length
  · rw [ge_yes h, gv_yes h]
    obtain ⟨n, rfl⟩ := Int.eq_ofNat_of_zero_le h.1
    rw [Int.toNat_natCast]
    exact getFour_ok A _ cap n xs hlen (by omega) hlc hcap w hx
  · rw [ge_no h, gv_no h]
    exact (getFour_no A xs.length cap k (by omega) (by omega) w).mono fun e w' ⟨he, hw⟩ => ⟨he, hw ▸ Below.refl _ _⟩
end Go.Proofs.YtmdlgnlfgfhkmaaGreat
