/-
  Rows of the call's own to which elements are pushed, one by one: elements may hold memory that the call made, none of it in the row. Conditions: those that each lemma states.
-/
import Derived.Test.YtgnogclhleheiaaDevTwin
import Derived.Test.YtgnogclhleheiaaRefWith
import Derived.Test.YtgnogclhleheiaaRow
namespace Go.Proofs.Ytgnogclhleheiaa
open Go.RowKit

/-- 'append(v, x...)' onto a row of the call's own: where the row lies then. -/
theorem app_own {P : Program} {w : World} (base : Nat) (t ty e : TypeId) (i : TypeInfo) (z : Value) (size bytes : Nat) (ht : P.underlying t = some (.slice e)) (hi : P.info? e = some i) (hz : i.zero = some z)
    (hsize : i.size = size) (hby : i.bytes = bytes) (hzs : z.cells.size = size) (hsz : 0 < size)
    (v : Value) (n : Nat) (xs : List Value) (hown : w.ownsRow base e size v n xs)
    (ad : Addr) (m c : Nat) (news : List Value) (hl : news.length = m * size) (hnews : ∀ j u, news[j]? = some u → w.cell? (ad.add j) = some u) (h1 : ∀ u ∈ news, u.oneCell' = true)
    (h63 : n + m ≤ maxLen) (hbytes : (n + m) * bytes ≤ 140737488355328) (hbase : base ≤ w.heap.size) :
    ∃ v' w', (Builtin.append_ #[t, t] ty #[v, .slice (some ad) m c]).run P w = .ok v' w' ∧ w'.ownsRow base e size v' (n + m) (xs ++ news) ∧ w.grownBy w' v.ownBlock ∧ Below base w w' ∧ (v'.ownBlock = v.ownBlock ∨ v'.ownBlock = some w.heap.size) := by
  obtain ⟨v', w', hr, h2, h3, _, h5⟩ := run_append_own_at (P := P) w base t ty e i z size bytes ht hi hz hsize hby hzs hsz v n xs hown ad m c news hl hnews h1 h63 hbytes hbase
  exact ⟨v', w', hr, h2, h3, (Below.refl base w).grown h3 hbase (fun k hk => (hown.lt k hk).1), h5⟩

theorem NewBut.below {lo : Nat} {A : Option Addr} {w w' : World} {p : Addr} {v : Value} (hb : Below w.heap.size w w') (hp : NewBut lo A w p) (hc : w.cell? p = some v) : NewBut lo A w' p ∧ w'.cell? p = some v :=
  ⟨⟨⟨hp.1.1, Nat.lt_of_lt_of_le hp.1.2.1 hb.size, (hb.frozen hp.1.2.1).trans hp.1.2.2⟩, hp.2⟩, (hb.cell hp.1.2.1).trans hc⟩
theorem NewBut.grown {lo : Nat} {A : Option Addr} {w w' : World} {p : Addr} {v : Value} {row : Option Nat} (hg : w.grownBy w' row) (hr : ∀ q, row = some q → q < lo) (hp : NewBut lo A w p) (hc : w.cell? p = some v) : NewBut lo A w' p ∧ w'.cell? p = some v := by
  have hb := hg.block p.block hp.1.2.1 (fun e => by have := hr _ e.symm; have := hp.1.1; omega)
  exact ⟨⟨⟨hp.1.1, Nat.lt_of_lt_of_le hp.1.2.1 hg.size, (World.frozen?_of_block hb).trans hp.1.2.2⟩, hp.2⟩, (World.cell?_of_block hb).trans hc⟩

/-- A row of the call's own, whose elements read as xs. -/
def RowOf {α : Type} (R : Rel α) (size : Nat) (t : TypeId) (lo : Nat) (w : World) (A : Option Addr) (c : Nat) (xs : List α) : Prop :=
  ∃ cs, w.ownsRow lo t size (.slice A xs.length c) xs.length cs ∧ ∀ i x, xs[i]? = some x → ∃ vs, vs.length = size ∧ (∀ j u, vs[j]? = some u → cs[i * size + j]? = some u) ∧ R (NewBut lo A w) w vs x
section
variable {α : Type} {R : Rel α} {size : Nat} {t : TypeId} {lo : Nat} {w w' : World} {A : Option Addr} {c : Nat} {xs : List α}
theorem RowOf.nil (R : Rel α) (size : Nat) (t : TypeId) (lo : Nat) (w : World) : RowOf R size t lo w none 0 [] := ⟨[], World.ownsRow_nil _ _ _ _, fun i x h => by simp at h⟩
theorem RowOf.below (hR : Stab R) (h : RowOf R size t lo w A c xs) (hb : Below w.heap.size w w') : RowOf R size t lo w' A c xs := by
  obtain ⟨cs, h1, h2⟩ := h
  refine ⟨cs, own_below h1 hb, fun i x hi => ?_⟩
  obtain ⟨vs, e1, e2, e3⟩ := h2 i x hi
  exact ⟨vs, e1, e2, hR _ _ _ _ _ _ (fun p v hp hc => NewBut.below hb hp hc) e3⟩
theorem RowOf.grown (hR : Stab R) (h : RowOf R size t lo w A c xs) {row : Option Nat} (hg : w.grownBy w' row) (hr : ∀ q, row = some q → q < lo) : RowOf R size t lo w' A c xs := by
  obtain ⟨cs, h1, h2⟩ := h
  have hk : (Value.slice A xs.length c).ownBlock = none ∨ (Value.slice A xs.length c).ownBlock ≠ row := by
    rcases row with _ | q
    · by_cases e : (Value.slice A xs.length c).ownBlock = none
      · exact .inl e
      · exact .inr e
    · refine .inr fun e => ?_
      have := (h1.lt q e).1
      have := hr q rfl
      omega
  have h1' : w'.ownsRow lo t size (.slice A xs.length c) xs.length cs := h1.kept hg hk
  refine ⟨cs, h1', fun i x hi => ?_⟩
  obtain ⟨vs, e1, e2, e3⟩ := h2 i x hi
  exact ⟨vs, e1, e2, hR _ _ _ _ _ _ (fun p v hp hc => NewBut.grown hg hr hp hc) e3⟩
theorem RowOf.low (hR : Stab R) (h : RowOf R size t lo w A c xs) {lo' : Nat} (hl : lo' ≤ lo) : RowOf R size t lo' w A c xs := by
  obtain ⟨cs, h1, h2⟩ := h
  refine ⟨cs, own_low h1 hl, fun i x hi => ?_⟩
  obtain ⟨vs, e1, e2, e3⟩ := h2 i x hi
  exact ⟨vs, e1, e2, hR _ _ _ _ _ _ (fun p v hp hc => ⟨⟨⟨Nat.le_trans hl hp.1.1, hp.1.2⟩, hp.2⟩, hc⟩) e3⟩
theorem RowOf.rel (hR : Stab R) (h : RowOf R size t lo w A c xs) : rSl size R (New lo w) w [.slice A xs.length c] xs := by
  obtain ⟨cs, h1, h2⟩ := h
  refine own_sl h1 rfl fun i x hi => ?_
  obtain ⟨vs, e1, e2, e3⟩ := h2 i x hi
  exact ⟨vs, e1, e2, hR _ _ _ _ _ _ (fun p v hp hc => ⟨hp.1, hc⟩) e3⟩
theorem RowOf.form (h : RowOf R size t lo w A c xs) : xs.length ≤ c ∧ c ≤ 9223372036854775807 ∧ (Value.slice A xs.length c).ownBlock = A.map (·.block) ∧ (0 < xs.length → ∃ ad, A = some ad) := by
  obtain ⟨cs, h1, _⟩ := h
  obtain ⟨A', c', e, h2, h3, h4, h5⟩ := own_any h1
  cases e
  exact ⟨h2, h3, h4, h5⟩
/-- One more. -/
theorem RowOf.push {P : Program} (hR : Stab R) (h : RowOf R size t lo w A c xs) (st ty : TypeId) (i : TypeInfo) (z : Value) (bytes : Nat) (ht : P.underlying st = some (.slice t)) (hi : P.info? t = some i) (hz : i.zero = some z)
    (hsize : i.size = size) (hby : i.bytes = bytes) (hzs : z.cells.size = size) (hsz : 0 < size) (ad : Addr) (m : Nat) (news : List Value) (x : α) (hl : news.length = size) (hnews : ∀ j u, news[j]? = some u → w.cell? (ad.add j) = some u) (h1 : ∀ u ∈ news, u.oneCell' = true)
    (h63 : xs.length + 1 ≤ maxLen) (hbytes : (xs.length + 1) * bytes ≤ 140737488355328) (hbase : lo ≤ w.heap.size) (hx : R (NewBut lo A w) w news x) :
    ∃ A' c' w', (Builtin.append_ #[st, st] ty #[.slice A xs.length c, .slice (some ad) 1 m]).run P w = .ok (.slice A' (xs.length + 1) c') w' ∧ RowOf R size t lo w' A' c' (xs ++ [x]) ∧ w.grownBy w' (A.map (·.block)) ∧ Below lo w w' := by
  obtain ⟨cs, ho, hcs⟩ := h
  obtain ⟨A1, c1, e, _, _, e4, _⟩ := own_any ho
  cases e
  obtain ⟨v', w', hr, o1, g1, b1, k1⟩ := app_own (P := P) (w := w) lo st ty t i z size bytes ht hi hz hsize hby hzs hsz _ _ cs ho ad 1 m news (by omega) hnews h1 h63 hbytes hbase
  obtain ⟨A2, c2, rfl, _, _, e5, _⟩ := own_any o1
  rw [e4] at g1 k1
  rw [e5] at k1
  have mp : ∀ p v, NewBut lo A w p → w.cell? p = some v → NewBut lo A2 w' p ∧ w'.cell? p = some v := fun p v hp hc => by
    have hb := g1.block p.block hp.1.2.1 (fun e => hp.2 e.symm)
    refine ⟨⟨⟨hp.1.1, Nat.lt_of_lt_of_le hp.1.2.1 g1.size, (World.frozen?_of_block hb).trans hp.1.2.2⟩, fun e => ?_⟩, (World.cell?_of_block hb).trans hc⟩
    rcases k1 with k | k
    · exact hp.2 (k ▸ e)
    · rw [k] at e
      simp only [Option.some.injEq] at e
      have := hp.1.2.1
      omega
  refine ⟨A2, c2, w', hr, ⟨cs ++ news, by rw [List.length_append]; exact o1, fun j y hj => ?_⟩, g1, b1⟩
  have hcl : cs.length = xs.length * size := ho.1
  rcases Nat.lt_or_ge j xs.length with hjl | hjl
  · rw [List.getElem?_append_left hjl] at hj
    obtain ⟨vs, e1, e2, e3⟩ := hcs j y hj
    refine ⟨vs, e1, fun k u hk => ?_, hR _ _ _ _ _ _ mp e3⟩
    have hcu := e2 k u hk
    rw [List.getElem?_append_left (List.getElem?_eq_some_iff.1 hcu).1]
    exact hcu
  · rw [List.getElem?_append_right hjl] at hj
    have hj0 : j = xs.length := by
      have := (List.getElem?_eq_some_iff.1 hj).1
      simp at this
      omega
    subst hj0
    simp at hj
    subst hj
    refine ⟨news, hl, fun k u hk => ?_, hR _ _ _ _ _ _ mp hx⟩
    rw [List.getElem?_append_right (by omega), hcl, Nat.add_sub_cancel_left]
    exact hk
end

/-- 'append([]byte(nil), b...)': the same bytes in new memory. -/
theorem app_copy (v : Value) (xs : List UInt8) (w : World) (hbig : xs.length ≤ 1000000000) (h : rBy (Old w) w [v] xs) :
    ∃ v' w', (Builtin.append_ #[26, 26] 26 #[.slice none 0 0, v]).run Try.prog w = .ok v' w' ∧ rBy (New w.heap.size w') w' [v'] xs ∧ Below w.heap.size w w' := by
  obtain ⟨i0, hi, hz0, hz1, hz2⟩ := info_parts u8_info0
  obtain ⟨A, cap, rfl, _, _, hb⟩ := rBy_byt (B := w.heap.size) (fun p hp => hp) h
  obtain ⟨v', w', hr, ho, hB⟩ := app_byt (P := Try.prog) (w := w) w.heap.size 26 26 5 i0 Try.underlying26 hi hz0 hz1 hz2 (.slice none 0 0) 0 [] (World.ownsRow_nil _ _ _ _) w.heap.size A xs.length cap xs hb rfl (by omega) (Nat.le_refl _)
  rw [Nat.zero_add, List.nil_append] at ho
  exact ⟨v', w', hr, own_by ho, hB⟩
theorem does_append {P : Program} {w w' : World} {o : Oper} {a : Act} {R : Value → World → Prop} (s x : Operand) (t : TypeId)
    (ho : o.op = .call { callee := .builtin .append, args := #[s, x], argTypes := #[t, t] }) {v u v' : Value} (hs : a.eval s = v) (hx : a.eval x = u)
    (hrun : (Builtin.append_ #[t, t] o.type #[v, u]).run P w = .ok v' w') (h : R v' w') : doesUpon P R ((execOp a.eval o).run P w) := by
  unfold execOp
  simp only [ho, resolve, invoke, builtin, Sem.run_bind, Sem.run_pure, Result.andThen_ok, List.map_toArray, List.map_cons, List.map_nil, hs, hx, hrun]
  exact h
theorem grow_later {a b c : World} {row : Option Nat} (h : a.grownBy b row) (h' : Below a.heap.size b c) : a.grownBy c row :=
  ⟨h'.os.trans h.os, h'.tape.trans h.tape, h'.output.trans h.output, Nat.le_trans h.size h'.size, fun k hk hn => (h'.block k hk).trans (h.block k hk hn)⟩
end Go.Proofs.Ytgnogclhleheiaa
