/-
  append of whatever lies there, as an equation (app_any); the document's answers of layer 3: With. Conditions: those that each lemma states.
-/
import Derived.Test.YtgnogclhleheiaaRefMay
import Derived.Test.YtgnogclhleheiaaGen03
import Derived.Maps.AppendAt
namespace Go.Proofs.Ytgnogclhleheiaa
open Go.RowKit

/-- 'append(v, x...)': v a row of the call's own, x whatever cells lie there. -/
theorem app_any {P : Program} {w : World} (base : Nat) (t ty e : TypeId) (i : TypeInfo) (z : Value) (size bytes : Nat) (ht : P.underlying t = some (.slice e)) (hi : P.info? e = some i) (hz : i.zero = some z)
    (hsize : i.size = size) (hby : i.bytes = bytes) (hzs : z.cells.size = size) (hsz : 0 < size)
    (v : Value) (n : Nat) (xs : List Value) (hown : w.ownsRow base e size v n xs)
    (A : Option Addr) (m c : Nat) (news : List Value) (hl : news.length = m * size) (hnews : ∀ j u, news[j]? = some u → ∃ ad, A = some ad ∧ w.cell? (ad.add j) = some u) (h1 : ∀ u ∈ news, u.oneCell' = true)
    (h63 : n + m ≤ maxLen) (hbytes : (n + m) * bytes ≤ 140737488355328) (hbase : base ≤ w.heap.size) :
    ∃ v' w', (Builtin.append_ #[t, t] ty #[v, .slice A m c]).run P w = .ok v' w' ∧ w'.ownsRow base e size v' (n + m) (xs ++ news) ∧ w.grownBy w' v.ownBlock ∧ Below base w w' := by
  rcases A with _ | ad
  · have hx : news = [] := by
      cases news with
      | nil => rfl
      | cons a r =>
        obtain ⟨_, e, _⟩ := hnews 0 a rfl
        cases e
    subst hx
    obtain rfl : m = 0 := by
      rcases Nat.eq_zero_or_pos m with h | h
      · exact h
      · have := Nat.mul_pos h hsz
        simp at hl
        omega
    refine ⟨v, w, ?_, by simpa using hown, grow_refl _ _, Below.refl _ _⟩
    rcases hown.2 with ⟨rfl, rfl⟩ | ⟨g, cap, cur, rfl, _, _, hnc, _⟩
    · simp [Builtin.append_, run_underlying ht, sizeOf, typeInfo, hi, Builtin.lenOf, Builtin.firstCells]
    · simp [Builtin.append_, run_underlying ht, sizeOf, typeInfo, hi, Builtin.lenOf, Builtin.firstCells, hnc, storeCells]
  · obtain ⟨v', w', hr, h2, h3, _, _⟩ := run_append_own_at (P := P) w base t ty e i z size bytes ht hi hz hsize hby hzs hsz v n xs hown ad m c news hl (fun j u hj => by
      obtain ⟨_, e, h⟩ := hnews j u hj
      cases e
      exact h) h1 h63 hbytes hbase
    exact ⟨v', w', hr, h2, h3, (Below.refl base w).grown h3 hbase (fun k hk => (hown.lt k hk).1)⟩

/-- Cells that lay at w0, or were made behind w. -/
def Apart (w0 w w' : World) (p : Addr) : Prop := p.block < w0.heap.size ∨ (w.heap.size ≤ p.block ∧ p.block < w'.heap.size)
set_option maxRecDepth 100000 in
set_option maxHeartbeats 4000000 in
theorem refWith_in (v u : Value) (d : Dk) (k : Nat) (xs : List UInt8) (w0 w : World) (hW : Below w0.heap.size w0 w) (h : Dsk (Old w0) w0 v d) (hu : rBy (Old w0) w0 [u] xs) (hf : d.2.length < 4096) (hk : k < 256) :
    Calls Try.prog 55 #[v, .int .i64 k, u] w fun e w' => ∃ x, e = .returned x ∧ Dsk (Apart w0 w w') w' x (wrD d k xs) ∧ Below w.heap.size w w' := by
  obtain ⟨i0, hi, hz0, hz1, hz2⟩ := info_parts wts_info0
  obtain ⟨A, c, B, c', rfl, l1, m1, l2, m2, _, hB⟩ := h.open
  obtain ⟨E, ce, rfl, lE, mE, _⟩ := id (rBy_open hu)
  obtain ⟨ps, hps, hpc, hp1, hpx⟩ := wts_cells hB
  have hrows := h.parts.1
  have hub := Lib.hid hu
  have hpx' := Lib.hid hpx
  clear hB h hu hpx
  obtain ⟨n, hn⟩ : ∃ n, d.1.length = n := ⟨_, rfl⟩
  obtain ⟨m, hm⟩ : ∃ m, d.2.length = m := ⟨_, rfl⟩
  rw [hn] at l1 hrows ⊢
  replace hrows := Lib.hid hrows
  rw [hm] at l2 hps hf ⊢
  replace hn := Lib.hid hn
  replace hm := Lib.hid hm
  obtain ⟨w2, hw2, f1, f2, f3, hsz, hB2⟩ := box_two w (.slice A n c) (.slice B m c') #[.slice none 0 0, .slice none 0 0] 25
  obtain ⟨w3, hw3, g3, hs3, hB3⟩ := box_pair' w2 (.slice A n c) (.slice none 0 0) 25
  have hB23 := hB2.trans (hB3.mono hB2.size)
  have hW3 := hW.trans (hB23.mono hW.size)
  -- the waits, copied
  obtain ⟨v1, w4, hr1, own1, gr1, ba1⟩ := app_any (P := Try.prog) (w := w3) w3.heap.size 23 23 78 i0 (.agg #[.int .i64 0, .slice none 0 0]) 2 32 Try.underlying23 hi hz0 hz1 hz2 rfl (by decide) (.slice none 0 0) 0 [] (World.ownsRow_nil _ _ _ _) B m c' (wcells ps) (by rw [wcells_length, hps])
    (fun j u hj => by
      obtain ⟨ad, e, ho, hc⟩ := hpc j u hj
      exact ⟨ad, e, (hW3.cell (p := ad.add j) (by rw [add_block]; exact ho)).trans hc⟩) hp1 (by unfold maxLen; omega) (by omega) (Nat.le_refl _)
  rw [Nat.zero_add, List.nil_append] at own1
  obtain ⟨A1, c1, rfl, o1, o2, _, _⟩ := own_any own1
  have g4 := (ba1.block w2.heap.size (by omega)).trans g3
  obtain ⟨w5, hw5, g5, gr5, gs5⟩ := put_snd (u := .slice A1 m c1) g4
  have own5 := own1.kept gr5 (.inr (fun e => by have := (own1.lt _ e).1; omega))
  obtain ⟨w6, hw6, g6, hs6, hB6⟩ := box_pair' w5 (.int .i64 k) (.slice E xs.length ce) 78
  have own6 := own_below own5 hB6
  have s4 := ba1.size
  -- one write more
  obtain ⟨v2, w7, hr2, own7, gr7, ba2⟩ := app_any (P := Try.prog) (w := w6) w3.heap.size 23 23 78 i0 (.agg #[.int .i64 0, .slice none 0 0]) 2 32 Try.underlying23 hi hz0 hz1 hz2 rfl (by decide) (.slice A1 m c1) m (wcells ps) own6 (some ⟨w5.heap.size, 0, none⟩) 1 1 [.int .i64 (k : Int), .slice E xs.length ce] rfl
    (fun j u hj => ⟨_, rfl, World.news_of_block (cs := #[.int .i64 (k : Int), .slice E xs.length ce]) g6 j u hj⟩) (fun u hu => by
      simp at hu
      rcases hu with rfl | rfl <;> rfl) (by unfold maxLen; omega) (by omega) (by omega)
  obtain ⟨A2, c2, rfl, q1, q2, _, _⟩ := own_any own7
  have g7 := (ba2.block w2.heap.size (by omega)).trans ((hB6.block w2.heap.size (by omega)).trans g5)
  obtain ⟨w8, hw8, g8, gr8, gs8⟩ := put_snd (u := .slice A2 (m + 1) c2) g7
  have s7 := ba2.size
  have b8 : w8.heap[w.heap.size + 1]? = some (.cells #[.slice none 0 0, .slice none 0 0] 25 (0, 0)) :=
    (gr8.block _ (by omega) (fun e => by simp only [Option.some.injEq] at e; omega)).trans ((ba2.block _ (by omega)).trans ((hB6.block _ (by omega)).trans ((gr5.block _ (by omega) (fun e => by simp only [Option.some.injEq] at e; omega)).trans ((ba1.block _ (by omega)).trans ((hB3.block _ (by omega)).trans f3)))))
  obtain ⟨w9, hw9, g9, gr9, gs9⟩ := put_two (u := .slice A n c) (v := .slice A2 (m + 1) c2) b8
  obtain ⟨k5, k6, _, _⟩ := two_cells g9
  have own9 := (own7.kept gr8 (.inr (fun e => by have := (own7.lt _ e).1; omega))).kept gr9 (.inr (fun e => by have := (own7.lt _ e).1; omega))
  have B4 : Below w.heap.size w w4 := hB23.trans (ba1.mono hB23.size)
  have B5 := B4.grown gr5 B4.size (fun q e => by cases e; omega)
  have B6 := B5.trans (hB6.mono B5.size)
  have B7 : Below w.heap.size w w7 := B6.trans (ba2.mono hB23.size)
  have B8 := B7.grown gr8 B7.size (fun q e => by cases e; omega)
  have B9 := B8.grown gr9 B8.size (fun q e => by cases e; omega)
  have W9 := hW.trans (B9.mono hW.size)
  have mp : ∀ p v, Old w0 p → w0.cell? p = some v → Apart w0 w w9 p ∧ w9.cell? p = some v := fun p v hp hc => ⟨.inl hp, (W9.cell hp).trans hc⟩
  have hfin := Lib.hid (show Dsk (Apart w0 w w9) w9 (.agg #[.slice A n c, .slice A2 (m + 1) c2]) (wrD d k xs) from by
    refine ⟨_, _, rfl, stab_sl stab_by _ _ _ _ _ _ mp hrows.out, ?_⟩
    have e1 : wcells ps ++ [.int .i64 (k : Int), .slice E xs.length ce] = wcells (ps ++ [((k : Int), .slice E xs.length ce)]) := by rw [wcells_append]; rfl
    rw [e1] at own9
    refine own_wts_ok (fun p _ hp => .inr ⟨Nat.le_trans (by omega) hp.1, hp.2.1⟩) own9 (by simp [wrD, hm.out]) (fun i p x hp hx => ?_)
    rcases Nat.lt_or_ge i m with hi | hi
    · rw [List.getElem?_append_left (by omega)] at hp
      rw [show (wrD d k xs).2 = d.2 ++ [((k : Int), xs)] from rfl, List.getElem?_append_left (by rw [hm.out]; exact hi)] at hx
      obtain ⟨e, h1, h2, h3⟩ := hpx'.out i p x hp hx
      exact ⟨e, stab_by _ _ _ _ _ _ mp h1, h2, h3⟩
    · rw [List.getElem?_append_right (by omega)] at hp
      rw [show (wrD d k xs).2 = d.2 ++ [((k : Int), xs)] from rfl, List.getElem?_append_right (by rw [hm.out]; exact hi)] at hx
      have hi0 : i - ps.length = 0 := by
        have := (List.getElem?_eq_some_iff.1 hp).1
        simp at this
        omega
      rw [hi0] at hp
      rw [show i - d.2.length = 0 by have := hm.out; omega] at hx
      cases hp
      cases hx
      exact ⟨rfl, stab_by _ _ _ _ _ _ mp hub.out, by omega, by omega⟩)
  have H1 := Lib.hid hr1
  have H2 := Lib.hid hr2
  obtain ⟨z1, z2, z3, _⟩ := two_cells g4
  obtain ⟨z4, z5, z6, _⟩ := two_cells g5
  obtain ⟨y1, y2, y3, _⟩ := two_cells g7
  obtain ⟨y4, y5, _, _⟩ := two_cells g8
  obtain ⟨x1, x2, x3, _⟩ := two_cells b8
  obtain ⟨x4, x5, _, _⟩ := two_cells g3
  have f4 := (hB3.cell (p := ⟨w.heap.size, 1, none⟩) (show w.heap.size < w2.heap.size by omega)).trans f2
  replace B9 := Lib.hid B9
  replace W9 := Lib.hid W9
  replace mp := Lib.hid mp
  clear hW hW3 hr1 hr2 own1 own5 own6 own7 own9 gr1 gr5 gr7 gr8 gr9 B4 B5 B6 B7 B8 hpc hp1 hps g3 g4 g5 g6 g7 g8 b8 ba1 ba2 hB6 hB23 hB2 hB3 f3
  replace hsz := Lib.hid hsz
  replace hs3 := Lib.hid hs3
  replace hs6 := Lib.hid hs6
  replace gs5 := Lib.hid gs5
  replace gs8 := Lib.hid gs8
  replace gs9 := Lib.hid gs9
  clear s4 s7
  replace hw3 := Lib.hid hw3
  go_enter Try.func55, Try.ntmps55
  go_upto_region 2 with fail
  rw [hw3.out]
  clear hw3 hw2 x4
  go_wp2_with (first
    | (at_builtin; refine wpList_append_run rfl _ _ _ rfl rfl rfl H1.out ?_; clear H1)
    | (at_builtin; refine wpList_append_run rfl _ _ _ rfl rfl rfl H2.out ?_; clear H2))
  trace_state
  exact bodyPost_ret (v := .agg #[.slice A n c, .slice A2 (m + 1) c2]) (by simp [results, Try.results55, go_sem, k5, k6]) rfl ⟨_, rfl, hfin.out, B9.out⟩
end Go.Proofs.Ytgnogclhleheiaa
