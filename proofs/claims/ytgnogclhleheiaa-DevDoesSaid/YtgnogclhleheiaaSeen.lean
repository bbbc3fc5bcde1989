/-
  Package dev: seen, which ranges over slices.Backward of writes. Conditions: those that each lemma states.
-/
import Derived.Test.YtgnogclhleheiaaGather
import Derived.Test.YtgnogclhleheiaaGreat
namespace Go.Proofs.Ytgnogclhleheiaa
open Go.RowKit Go.Shelf
attribute [local go_sem] Oper.semAt_some

/-! ### What is seen -/
/-- The bytes of the last write to a place, or those that last. -/
def seenW (ws : List Wt) (b : List UInt8) (n : Int) : List UInt8 := ws.foldl (fun acc x => if x.1 = n then x.2 else acc) b
def seenD (d : Dk) (n : Nat) : List UInt8 := seenW d.2 (d.1[n]?.getD []) n
theorem seenW_none {ws : List Wt} {b : List UInt8} {n : Int} (h : ∀ x ∈ ws, x.1 ≠ n) : seenW ws b n = b := by
  induction ws generalizing b with
  | nil => rfl
  | cons x r ih =>
    show seenW r (if x.1 = n then x.2 else b) n = b
    rw [if_neg (h x (List.mem_cons.2 (.inl rfl)))]
    exact ih fun y hy => h y (List.mem_cons.2 (.inr hy))
theorem seenW_append (ws vs : List Wt) (b : List UInt8) (n : Int) : seenW (ws ++ vs) b n = seenW vs (seenW ws b n) n := by simp [seenW]
theorem seenW_at {ws : List Wt} {b : List UInt8} {n : Int} {i : Nat} {x : Wt} (hi : ws[i]? = some x) (hx : x.1 = n) (h : ∀ j y, i < j → ws[j]? = some y → y.1 ≠ n) : seenW ws b n = x.2 := by
  have hil := (List.getElem?_eq_some_iff.1 hi).1
  have e : ws = ws.take i ++ (x :: ws.drop (i + 1)) := by
    have h1 := (List.take_append_drop i ws).symm
    rw [List.drop_eq_getElem_cons hil] at h1
    have h2 := (List.getElem?_eq_some_iff.1 hi).2
    rwa [h2] at h1
  rw [e, seenW_append]
  show seenW (ws.drop (i + 1)) (if x.1 = n then x.2 else seenW (ws.take i) b n) n = x.2
  rw [if_pos hx]
  refine seenW_none fun y hy => ?_
  obtain ⟨j, hj⟩ := List.getElem?_of_mem hy
  rw [List.getElem?_drop] at hj
  exact h _ y (by omega) hj
theorem seenW_length {ws : List Wt} {b : List UInt8} {n : Int} {k : Nat} (hb : b.length = k) (h : ∀ x ∈ ws, x.2.length = k) : (seenW ws b n).length = k := by
  induction ws generalizing b with
  | nil => exact hb
  | cons x r ih =>
    refine ih (b := if x.1 = n then x.2 else b) ?_ fun y hy => h y (List.mem_cons.2 (.inr hy))
    split
    · exact h x (List.mem_cons.2 (.inl rfl))
    · exact hb

/-- The numbers from m - 1 down, the first k of them. -/
def downs (m k : Nat) : List Nat := (List.range k).map fun j => m - 1 - j
theorem downs_succ (m k : Nat) : downs m (k + 1) = downs m k ++ [m - 1 - k] := by simp [downs, List.range_succ]
theorem downs_length (m k : Nat) : (downs m k).length = k := by simp [downs]
theorem mem_downs {m k i : Nat} (hk : k ≤ m) : i ∈ downs m k ↔ m - k ≤ i ∧ i < m := by
  simp only [downs, List.mem_map, List.mem_range]
  constructor
  · rintro ⟨j, hj, rfl⟩; omega
  · intro h; exact ⟨m - 1 - i, by omega, by omega⟩

set_option maxRecDepth 100000 in
set_option maxHeartbeats 2000000 in
/-- The closure of slices.Backward, for every loop body that keeps what lay below n₀. -/
theorem backW_in (F : Fence) (n : Nat) (hf : F.fn 97) (hro : F.round = none) (hn : 1 ≤ n) (l Bs n₀ cap m : Nat) (A : Option Addr) (ad : Addr) (at_ : Nat → Int) (E : Nat → Option Addr) (ln ca : Nat → Nat) (hm : m ≤ 9223372036854775807) (hA : 0 < m → A = some ad ∧ ad.block < n₀) (J Jx : List Nat → World → Prop)
    (hY : ∀ (pre : List Nat) (x : Nat) (W : World), J pre W → pre.length < m → YieldAt F (n - 1) Try.prog l #[.int .i64 (x : Int), .agg #[.int .i64 (at_ x), .slice (E x) (ln x) (ca x)]] W fun e W' =>
      (e = .returned (.bool true) ∧ J (pre ++ [x]) W' ∧ Keeps n₀ Bs W W') ∨ (e = .returned (.bool false) ∧ Jx (pre ++ [x]) W'))
    (W : World) (hBs : W.cell? ⟨Bs, 0, none⟩ = some (.slice A m cap)) (hc : ∀ j, j < m → W.cell? (ad.add (j * 2)) = some (.int .i64 (at_ j)) ∧ W.cell? ⟨(ad.add (j * 2)).block, (ad.add (j * 2)).off + 1, none⟩ = some (.slice (E j) (ln j) (ca j))) (h0 : J [] W) :
    CallsIn F n Try.prog 97 #[.func (.yield l) #[] #[], .pointer (some ⟨Bs, 0, none⟩)] W fun e W' => (∃ v, e = .returned v) ∧
      ((∃ ys, ys = downs m m ∧ J ys W') ∨ (∃ pre, (∃ k, k ≤ m ∧ pre = downs m k) ∧ Jx pre W')) := by
  refine callsIn_of_wp Try.func97 rfl hf ?_ hro
  simp only [Try.ntmps97, List.size_toArray, List.length_cons, List.length_nil, Nat.reduceAdd, Nat.reduceSub, Array.replicate_succ, Array.replicate_zero, List.push_toArray, List.append_toArray, List.nil_append, List.cons_append]
  have HC := Lib.hid hc
  clear hc
  replace hA := Lib.hid hA
  gi_wp2
  gi_loopw [3] (fun i wr => ∃ k : Nat, k ≤ m ∧ i = .int .i64 ((m : Int) - 1 - k) ∧ J (downs m k) wr ∧ Below n₀ W wr ∧ wr.cell? ⟨Bs, 0, none⟩ = some (.slice A m cap))
    (fun i _ => (intOf i + 1).toNat)
  case atStart => exact ⟨0, Nat.zero_le _, by simp, h0, Below.refl _ _, hBs⟩
  case round =>
    obtain ⟨k, hk, rfl, hJs, hnx, hbs⟩ := hrel
    by_cases hlt : k < m
    · obtain ⟨rfl, hb⟩ := hA.out (by omega)
      have hx := HC.out (m - 1 - k) (by omega)
      have hc1 : wr.cell? (ad.add ((m - 1 - k) * 2)) = some (.int .i64 (at_ (m - 1 - k))) := (hnx.cell (p := ad.add ((m - 1 - k) * 2)) (by rw [add_block]; exact hb)).trans hx.1
      have hc2 : wr.cell? ⟨(ad.add ((m - 1 - k) * 2)).block, (ad.add ((m - 1 - k) * 2)).off + 1, none⟩ = some (.slice (E (m - 1 - k)) (ln (m - 1 - k)) (ca (m - 1 - k))) := (hnx.cell (p := ⟨(ad.add ((m - 1 - k) * 2)).block, (ad.add ((m - 1 - k) * 2)).off + 1, none⟩) (by rw [add_block]; exact hb)).trans hx.2
      clear hx
      obtain ⟨fn, tmps, assign, body, hy, hR⟩ := hY _ (m - 1 - k) wr hJs (by rw [downs_length]; exact hlt)
      try dsimp only at hy
      have e1 : ((m : Int) - 1 - k).toNat = m - 1 - k := by omega
      have e2 : ((m - 1 - k : Nat) : Int) = (m : Int) - 1 - k := by omega
      rw [e2] at hy
      clear e2
      have hds := Lib.hid (downs_succ m k)
      generalize at_ (m - 1 - k) = q1 at *
      generalize E (m - 1 - k) = q2 at *
      generalize ln (m - 1 - k) = q3 at *
      generalize ca (m - 1 - k) = q4 at *
      gi_wp2
      refine hR.mono ?_
      rintro e W3 (⟨rfl, hJ3, hk3⟩ | ⟨rfl, hJx3⟩)
      · gi_wp2
        go_roundw
        case rel => exact ⟨k + 1, by omega, by go_num, by rw [hds.out]; exact hJ3, hnx.trans hk3.1, hk3.2.trans hbs⟩
        case measure => simp [intOf]; omega
      · gi_wp2
        refine bodyPost_ret (results_none rfl _ _ _) rfl ?_
        exact ⟨⟨_, rfl⟩, .inr ⟨_, ⟨k + 1, by omega, hds.out.symm⟩, hJx3⟩⟩
    · obtain rfl : k = m := by omega
      gi_wp2
      go_end0
      exact ⟨⟨_, rfl⟩, .inl ⟨_, rfl, hJs⟩⟩

set_option maxHeartbeats 1000000 in
/-- slices.Backward(s): the slice value is boxed; the function value captures the box. -/
theorem backwardW_in (F : Fence) (n : Nat) (hf : F.fn 80) (hro : F.round = none) (a : Option Addr) (len cap : Nat) (w : World) :
    CallsIn F n Try.prog 80 #[.slice a len cap] w fun e w' => e = .returned (.func (.func 97) #[] #[.pointer (some ⟨w.heap.size, 0, none⟩)]) ∧ w' = w.alloc (.cells #[.slice a len cap] 23) := by
  refine callsIn_of_wp Try.func80 rfl hf ?_ hro
  simp only [Try.ntmps80, List.size_toArray, List.length_cons, List.length_nil, Nat.reduceAdd, Nat.reduceSub, Array.replicate_succ, Array.replicate_zero, List.push_toArray, List.append_toArray, List.nil_append, List.cons_append]
  gi_wp2
  go_ret
  exact ⟨rfl, rfl⟩

/-- slices.Backward(s) hands back a value that gives the elements from behind: all, or the first k of them. -/
theorem backwardW_stops (F : Fence) (n : Nat) (hf : F.fn 97) (hro : F.round = none) (hn : 1 ≤ n) (Bs n₀ cap m : Nat) (A : Option Addr) (ad : Addr) (at_ : Nat → Int) (E : Nat → Option Addr) (ln ca : Nat → Nat) (hm : m ≤ 9223372036854775807) (w : World) (hBs : Bs < w.heap.size) (hn₀ : n₀ ≤ w.heap.size)
    (hc : w.cell? ⟨Bs, 0, none⟩ = some (.slice A m cap)) (hA : 0 < m → A = some ad ∧ ad.block < n₀) (hx : ∀ j, j < m → w.cell? (ad.add (j * 2)) = some (.int .i64 (at_ j)) ∧ w.cell? ⟨(ad.add (j * 2)).block, (ad.add (j * 2)).off + 1, none⟩ = some (.slice (E j) (ln j) (ca j))) :
    SeqStopsK F n Try.prog 97 #[.pointer (some ⟨Bs, 0, none⟩)] (fun x : Nat => #[Value.int .i64 (x : Int), Value.agg #[.int .i64 (at_ x), .slice (E x) (ln x) (ca x)]]) (Keeps n₀ Bs) (fun ys => ys = downs m m)
      (fun pre => ∃ k, k ≤ m ∧ pre = downs m k) m w := fun l J Jx W hW _ _ hY h0 => by
  have hc' := (hW.cell (p := ⟨Bs, 0, none⟩) hBs).trans hc
  exact backW_in F n hf hro hn l Bs n₀ cap m A ad at_ E ln ca hm hA J Jx hY W hc' (fun j hj => ⟨(hW.cell (p := ad.add (j * 2)) (by rw [add_block]; have := (hA (by omega)).2; omega)).trans (hx j hj).1, (hW.cell (p := ⟨(ad.add (j * 2)).block, (ad.add (j * 2)).off + 1, none⟩) (by rw [add_block]; have := (hA (by omega)).2; omega)).trans (hx j hj).2⟩) h0

/-- A disk's writes, their places and bytes as functions. -/
theorem wts_fn {w : World} {B : Option Addr} {ws : List Wt} (h : ∀ i x, ws[i]? = some x → ∃ ad v, B = some ad ∧ Old w (ad.add (i * 2)) ∧ Old w (ad.add (i * 2 + 1)) ∧ w.cell? (ad.add (i * 2)) = some (.int .i64 x.1) ∧ w.cell? (ad.add (i * 2 + 1)) = some v ∧ rBy (Old w) w [v] x.2 ∧ -9223372036854775808 ≤ x.1 ∧ x.1 ≤ 9223372036854775807) :
    ∃ (ad : Addr) (E : Nat → Option Addr) (ca : Nat → Nat), (0 < ws.length → B = some ad ∧ ad.block < w.heap.size) ∧ ∀ i x, ws[i]? = some x → w.cell? (ad.add (i * 2)) = some (.int .i64 x.1) ∧ w.cell? ⟨(ad.add (i * 2)).block, (ad.add (i * 2)).off + 1, none⟩ = some (.slice (E i) x.2.length (ca i)) ∧ rBy (Old w) w [.slice (E i) x.2.length (ca i)] x.2 := by
  have h2 : ∀ i, ∃ f : Option Addr × Nat, ∀ x, ws[i]? = some x → ∃ ad, B = some ad ∧ ad.block < w.heap.size ∧ w.cell? (ad.add (i * 2)) = some (.int .i64 x.1) ∧ w.cell? ⟨(ad.add (i * 2)).block, (ad.add (i * 2)).off + 1, none⟩ = some (.slice f.1 x.2.length f.2) ∧ rBy (Old w) w [.slice f.1 x.2.length f.2] x.2 := fun i => by
    cases hx : ws[i]? with
    | none => exact ⟨(none, 0), fun x e => by cases e⟩
    | some x =>
      obtain ⟨ad, v, rfl, o1, _, c1, c2, hv, _⟩ := h i x hx
      obtain ⟨E, c, rfl, _⟩ := rBy_open hv
      rw [add_next] at c2
      exact ⟨(E, c), fun y e => by cases e; exact ⟨ad, rfl, by unfold Old at o1; rwa [add_block] at o1, c1, c2, hv⟩⟩
  obtain ⟨f, hf⟩ : ∃ f : Nat → Option Addr × Nat, ∀ i x, ws[i]? = some x → ∃ ad, B = some ad ∧ ad.block < w.heap.size ∧ w.cell? (ad.add (i * 2)) = some (.int .i64 x.1) ∧ w.cell? ⟨(ad.add (i * 2)).block, (ad.add (i * 2)).off + 1, none⟩ = some (.slice (f i).1 x.2.length (f i).2) ∧ rBy (Old w) w [.slice (f i).1 x.2.length (f i).2] x.2 :=
    ⟨fun i => Classical.choose (h2 i), fun i => Classical.choose_spec (h2 i)⟩
  rcases B with _ | ad
  · refine ⟨⟨0, 0, none⟩, fun i => (f i).1, fun i => (f i).2, fun h0 => ?_, fun i x hi => ?_⟩
    · obtain ⟨_, e, _⟩ := hf 0 _ (List.getElem?_eq_getElem h0)
      cases e
    · obtain ⟨_, e, _⟩ := hf i x hi
      cases e
  · refine ⟨ad, fun i => (f i).1, fun i => (f i).2, fun h0 => ?_, fun i x hi => ?_⟩
    · obtain ⟨_, e, hb, _⟩ := hf 0 _ (List.getElem?_eq_getElem h0)
      cases e
      exact ⟨rfl, hb⟩
    · obtain ⟨_, e, _, hr⟩ := hf i x hi
      cases e
      exact hr

set_option maxRecDepth 100000 in
set_option maxHeartbeats 4000000 in
theorem seen_in (F : Fence) (n : Nat) (h3 : F.fn 53) (h5 : F.fn 80) (h7 : F.fn 97) (hro : F.round = none) (hn : 3 ≤ n)
    (v : Value) (d : Dk) (k : Nat) (hk : k < d.1.length) (w : World) (h : Dsk (Old w) w v d) :
    CallsIn F n Try.prog 53 #[v, .int .i64 k] w fun e W' => ∃ u, e = .returned u ∧ rBy (Old w) w [u] (seenD d k) ∧ Below w.heap.size w W' := by
  have h1 : 1 ≤ n := by omega
  obtain ⟨A, c, B, c', rfl, l1, m1, l2, m2, hA, hB⟩ := h.open
  obtain ⟨ad, E, ca, had, hfn⟩ := wts_fn hB
  obtain ⟨x, hx⟩ : ∃ x, d.1[k]? = some x := ⟨_, List.getElem?_eq_getElem hk⟩
  obtain ⟨a1, v1, rfl, ho1, hc1, hby1⟩ := hA k x hx
  have HF := Lib.hid hfn
  clear hA hB h hfn
  have hsd : Hid (seenD d k = seenW d.2 x k) := Lib.hid (by unfold seenD; rw [hx]; rfl)
  replace hx := Lib.hid hx
  obtain ⟨N, hN⟩ : ∃ N, d.1.length = N := ⟨_, rfl⟩
  obtain ⟨m, hm⟩ : ∃ m, d.2.length = m := ⟨_, rfl⟩
  rw [hN] at l1 hk ⊢
  rw [hm] at l2 had ⊢
  replace hN := Lib.hid hN
  replace hm := Lib.hid hm
  have hfa : Hid (∀ j, j < m → w.cell? (ad.add (j * 2)) = some (.int .i64 ((d.2[j]?.getD (0, [])).1)) ∧ w.cell? ⟨(ad.add (j * 2)).block, (ad.add (j * 2)).off + 1, none⟩ = some (.slice (E j) (d.2[j]?.getD (0, [])).2.length (ca j))) := Lib.hid fun j hj => by
    have hj' : d.2[j]? = some (d.2[j]'(by rw [hm.out]; exact hj)) := List.getElem?_eq_getElem _
    rw [hj']
    exact ⟨(HF.out j _ hj').1, (HF.out j _ hj').2.1⟩
  obtain ⟨E1, ce1, rfl, _⟩ := rBy_open hby1
  replace had := Lib.hid had
  refine callsIn_of_wp_marks Try.func53 rfl h3 ?_ hro
  simp only [Try.ntmps53, List.size_toArray, List.length_cons, List.length_nil, Nat.reduceAdd, Nat.reduceSub, Array.replicate_succ, Array.replicate_zero, List.push_toArray, List.append_toArray, List.nil_append, List.cons_append]
  gi_wp2_with (gi_at_call 80; refine (backwardW_in F (n - 1) h5 hro _ _ _ _).mono ?_; rintro e w' ⟨rfl, rfl⟩)
  obtain ⟨W0, hW0, hB0, hs0, b0, b1, b2, b2f, b3⟩ : ∃ W0, (((w.alloc (.cells #[.slice (some a1) N c, .slice B m c'] 25)).alloc (.cells #[.int .i64 (k : Int)] 3)).alloc (.cells #[.slice none 0 0] 26)).alloc (.cells #[.slice B m c'] 23) = W0 ∧ Below w.heap.size w W0 ∧ W0.heap.size = w.heap.size + 4 ∧
      W0.cell? ⟨w.heap.size, 0, none⟩ = some (.slice (some a1) N c) ∧ W0.cell? ⟨w.heap.size + 1, 0, none⟩ = some (.int .i64 (k : Int)) ∧ W0.cell? ⟨w.heap.size + 1 + 1, 0, none⟩ = some (.slice none 0 0) ∧ W0.frozen? ⟨w.heap.size + 1 + 1, 0, none⟩ = false ∧ W0.cell? ⟨w.heap.size + 1 + 1 + 1, 0, none⟩ = some (.slice B m c') :=
    ⟨_, rfl, ((((Below.refl _ w).alloc (Nat.le_refl _) _).alloc (by simp) _).alloc (by simp; omega) _).alloc (by simp; omega) _, by simp, by go_simp, by go_simp, by go_simp, by go_simp, by go_simp⟩
  rw [hW0]
  clear hW0
  obtain ⟨atf, hat⟩ : ∃ f : Nat → Int, f = fun j => (d.2[j]?.getD (0, [])).1 := ⟨_, rfl⟩
  obtain ⟨lnf, hln⟩ : ∃ f : Nat → Nat, f = fun j => (d.2[j]?.getD (0, [])).2.length := ⟨_, rfl⟩
  have hfb : ∀ j, j < m → W0.cell? (ad.add (j * 2)) = some (.int .i64 (atf j)) ∧ W0.cell? ⟨(ad.add (j * 2)).block, (ad.add (j * 2)).off + 1, none⟩ = some (.slice (E j) (lnf j) (ca j)) := fun j hj => by
    have hb := (had.out (by omega)).2
    rw [hat, hln]
    exact ⟨(hB0.cell (p := ad.add (j * 2)) (by rw [add_block]; exact hb)).trans (hfa.out j hj).1, (hB0.cell (p := ⟨(ad.add (j * 2)).block, (ad.add (j * 2)).off + 1, none⟩) (by rw [add_block]; exact hb)).trans (hfa.out j hj).2⟩
  have hlo : w.heap.size ≤ W0.heap.size := hB0.size
  replace hat := Lib.hid hat
  replace hln := Lib.hid hln
  refine wpIn_rangeFunc_ownH hro h1 (gf := 97) (lb := #[.pointer (some ⟨w.heap.size + 1 + 1 + 1, 0, none⟩)]) rfl h7 (enters_of Try.func97 (by kernel_rfl) rfl)
    (backwardW_stops F (n - 1) h7 hro (by omega) (w.heap.size + 1 + 1 + 1) w.heap.size c' m B ad atf E lnf ca (by omega) W0 (by omega) hlo b3 had.out hfb)
    (fun h h' => Keeps.trans h h') (fun W l o o' hl h1 h2 h3 => keeps_b (w := W0) (by omega) hlo l o o' hl h1 h2 h3) (Below.refl _ _) (fun _ => rfl)
    (fun pre W => ((∀ j ∈ pre, atf j ≠ k) ∧ W.cell? ⟨w.heap.size, 0, none⟩ = some (.slice (some a1) N c) ∧ W.cell? ⟨w.heap.size + 1, 0, none⟩ = some (.int .i64 (k : Int)) ∧ W.cell? ⟨w.heap.size + 1 + 1, 0, none⟩ = some (.slice none 0 0) ∧ W.frozen? ⟨w.heap.size + 1 + 1, 0, none⟩ = false ∧ W.cell? ⟨w.heap.size + 1 + 1 + 1, 0, none⟩ = some (.slice B m c')) ∧ Below w.heap.size w W)
    (fun cd pre W => (cd = .ret ∧ ∃ p i, pre = p ++ [i] ∧ (∀ j ∈ p, atf j ≠ k) ∧ atf i = k ∧ W.cell? ⟨w.heap.size + 1 + 1, 0, none⟩ = some (.slice (E i) (lnf i) (ca i))) ∧ Below w.heap.size w W)
    (OwnFrom.and (Own.from (fun s A B row hs hg hr => ⟨hs.1, cell_kept hs.2.1 hg hr, cell_kept hs.2.2.1 hg hr, cell_kept hs.2.2.2.1 hg hr, (frozen_kept hs.2.2.2.1 hg hr).trans hs.2.2.2.2.1, cell_kept hs.2.2.2.2.2 hg hr⟩) _) (ownFrom_below (Nat.le_refl _) hlo))
    (fun cd => OwnFrom.and (Own.from (fun s A B row hs hg hr => by
      obtain ⟨e, p, i, e2, h1, h2, hc⟩ := hs
      exact ⟨e, p, i, e2, h1, h2, cell_kept hc hg hr⟩) _) (ownFrom_below (Nat.le_refl _) hlo))
    ⟨⟨by simp, b0, b1, b2, b2f, b3⟩, hB0⟩
    (fun x a' W => ∃ g, a' = { tmps := #[.agg #[.slice (some a1) N c, .slice B m c'], .int .i64 (k : Int), .pointer (some ⟨w.heap.size, 0, none⟩), .pointer (some ⟨w.heap.size + 1, 0, none⟩), .pointer (some ⟨w.heap.size + 1 + 1, 0, none⟩), undef, .pointer (some ⟨g, 0, none⟩), .pointer (some ⟨w.heap.size, 1, none⟩), .slice B m c',
      .func (.func 97) #[] #[.pointer (some ⟨w.heap.size + 1 + 1 + 1, 0, none⟩)], .int .i64 (x : Int), .agg #[.int .i64 (atf x), .slice (E x) (lnf x) (ca x)], undef, undef, undef, undef, undef, undef, undef, undef, undef, undef, undef], defers := [] } ∧
      W.cell? ⟨g, 0, none⟩ = some (.int .i64 (atf x)) ∧ W.cell? ⟨g, 1, none⟩ = some (.slice (E x) (lnf x) (ca x)))
    (fun x a' => Own.from (fun s A B row hs hg hr => by
      obtain ⟨g, e, h1, h2⟩ := hs
      exact ⟨g, e, cell_kept h1 hg hr, cell_kept h2 hg hr⟩) _) ?assign ?body ?done ?stop
  case assign =>
    rintro l pre x W K ⟨⟨hp, c0, c1, c2, c2f, c3⟩, hb⟩ hK
    have hlW : w.heap.size + 1 + 1 < W.heap.size := World.block_lt_of_cell? _ _ c2
    gi_wp2
    exact hK _ _ ((KeepsOthers.alloc _ _).from _) ⟨(Below.refl _ W).alloc hb.size _, (Lib.cell?_alloc_some _ c3).trans c3.symm⟩
      ⟨⟨hp, Lib.cell?_alloc_some _ c0, Lib.cell?_alloc_some _ c1, Lib.cell?_alloc_some _ c2, (World.frozen?_of_block (Below.heap_alloc W _ _ hlW)).trans c2f, Lib.cell?_alloc_some _ c3⟩, hb.alloc hb.size _⟩ ⟨W.heap.size, rfl, by go_simp, by go_simp⟩
  case body =>
    rintro l pre x a' W hl hloop ⟨⟨hp, c0, c1, c2, c2f, c3⟩, hb⟩ ⟨g, rfl, g0, g1⟩ hlen
    by_cases he : atf x = k
    · have he' : (atf x == (k : Int)) = true := by simpa using he
      replace he := Lib.hid he
      gi_wp2
      refine ⟨(KeepsOthers.setCell _ _ _).from _, ⟨rfl, pre, x, rfl, hp, he.out, World.cell?_setCell_same' _ _ _ (by rw [c2]; rfl)⟩, hb.setCell (by simp; omega) _⟩
    · have he' : (atf x == (k : Int)) = false := by simpa using he
      replace he := Lib.hid he
      gi_wp2
      refine ⟨KeepsFrom.refl _ _, ⟨Below.refl _ _, rfl⟩, ⟨fun j hj => (List.mem_append.1 hj).elim (hp j) (fun e => by simp at e; rw [e]; exact he.out), c0, c1, c2, c2f, c3⟩, hb⟩
  case done =>
    rintro D zs W hD rfl ⟨⟨hp, c0, c1, c2, c2f, c3⟩, hb⟩ hK
    have hcx := (hb.cell ho1).trans hc1
    have hval : Hid (rBy (Old w) w [.slice E1 x.length ce1] (seenD d k)) := Lib.hid (by
      rw [hsd.out, seenW_none]
      · exact hby1
      · intro y hy
        obtain ⟨j, hj⟩ := List.getElem?_of_mem hy
        have := hp j ((mem_downs (Nat.le_refl _)).2 ⟨by omega, by rw [← hm.out]; exact (List.getElem?_eq_some_iff.1 hj).1⟩)
        rw [hat.out] at this
        simpa [hj] using this)
    gi_wp2
    have hK' := (KeepsOthers.setCell W ⟨w.heap.size + 1 + 1, 0, none⟩ (.slice E1 x.length ce1)).same D _ hK rfl
    refine ⟨by simp, .inl ⟨_, _, rfl, run_takeDeferred hK', ?_⟩⟩
    have hc5 := cell_kept (World.cell?_setCell_same' W ⟨w.heap.size + 1 + 1, 0, none⟩ (.slice E1 x.length ce1) (by rw [c2]; rfl)) (grownBy_putObj' _ D (.deferred none)) (fun r e => by cases e; exact ⟨_, hK', rfl⟩)
    refine ⟨.slice E1 x.length ce1, ?_, _, rfl, hval.out, (hb.setCell (p := ⟨w.heap.size + 1 + 1, 0, none⟩) (by simp; omega) _).trans (belowK_b hlo _ D _ _ hD hK' rfl rfl)⟩
    simp [results, Try.f53, go_sem, hc5]
  case stop =>
    rintro D cd pre W hD ⟨q, hq, rfl⟩ ⟨⟨rfl, p, i, hpi, h1, h2, hc⟩, hb⟩ hK
    have hi : i ∈ downs m q := by rw [hpi]; simp
    obtain ⟨hi1, hi2⟩ := (mem_downs hq).1 hi
    have hval : Hid (rBy (Old w) w [.slice (E i) (lnf i) (ca i)] (seenD d k)) := Lib.hid (by
      have hx2 : d.2[i]? = some (d.2[i]'(by rw [hm.out]; exact hi2)) := List.getElem?_eq_getElem _
      have e1 : atf i = (d.2[i]'(by rw [hm.out]; exact hi2)).1 := by rw [hat.out]; simp [hx2]
      have e2 : lnf i = (d.2[i]'(by rw [hm.out]; exact hi2)).2.length := by rw [hln.out]; simp [hx2]
      rw [hsd.out, e2, seenW_at hx2 (by rw [← e1]; exact h2)]
      · exact (HF.out i _ hx2).2.2
      · intro j y hij hj
        have hjm : j < m := by rw [← hm.out]; exact (List.getElem?_eq_some_iff.1 hj).1
        have hjd : j ∈ downs m q := (mem_downs hq).2 ⟨by omega, hjm⟩
        rw [hpi] at hjd
        have := h1 j ((List.mem_append.1 hjd).elim id (fun e => by simp at e; omega))
        rw [hat.out] at this
        simpa [hj] using this)
    gi_wp2
    refine ⟨by simp, .inl ⟨_, _, rfl, run_takeDeferred hK, ?_⟩⟩
    have hc5 := cell_kept hc (grownBy_putObj' _ D (.deferred none)) (fun r e => by cases e; exact ⟨_, hK, rfl⟩)
    refine ⟨.slice (E i) (lnf i) (ca i), ?_, _, rfl, hval.out, hb.trans (belowK_b hlo _ D _ _ hD hK rfl rfl)⟩
    simp [results, Try.f53, go_sem, hc5]

theorem seen_any (v : Value) (d : Dk) (k : Nat) (hk : k < d.1.length) (w : World) (h : Dsk (Old w) w v d) :
    Calls Try.prog 53 #[v, .int .i64 k] w fun e W' => ∃ u, e = .returned u ∧ rBy (Old w) w [u] (seenD d k) ∧ Below w.heap.size w W' :=
  callsIn_wide.1 (seen_in Fence.wide 3 trivial trivial trivial rfl (Nat.le_refl _) v d k hk w h)
end Go.Proofs.Ytgnogclhleheiaa
