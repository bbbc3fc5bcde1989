/-
  The document's answers of layer 3: Settled. Conditions: those that each lemma states.
-/
import Derived.Test.YtgnogclhleheiaaRefWith
import Derived.Test.YtgnogclhleheiaaRefRead
import Derived.StillTailTactics
namespace Go.Proofs.Ytgnogclhleheiaa
open Go.RowKit

theorem rows_cells2 {w0 w : World} {A : Option Addr} {xss : List (List UInt8)} (h : ∀ i x, xss[i]? = some x → ∃ ad v, A = some ad ∧ Old w (ad.add i) ∧ w.cell? (ad.add i) = some v ∧ rBy (Old w0) w0 [v] x) :
    ∃ vs : List Value, vs.length = xss.length ∧ (∀ j v, vs[j]? = some v → ∃ ad, A = some ad ∧ ad.block < w.heap.size ∧ w.cell? (ad.add j) = some v) ∧ (∀ u ∈ vs, u.oneCell' = true) ∧ ∀ (i : Nat) (v : Value) (x : List UInt8), vs[i]? = some v → xss[i]? = some x → rBy (Old w0) w0 [v] x := by
  obtain ⟨vs, hl, hv⟩ := list_of (n := xss.length) (p := fun i v => ∃ ad, A = some ad ∧ ad.block < w.heap.size ∧ w.cell? (ad.add i) = some v ∧ v.oneCell' = true ∧ ∀ x, xss[i]? = some x → rBy (Old w0) w0 [v] x) (fun i hi => by
    obtain ⟨ad, v, e, ho, hc, hb⟩ := h i _ (List.getElem?_eq_getElem hi)
    obtain ⟨E, c, rfl, _⟩ := rBy_open hb
    refine ⟨_, ad, e, by unfold Old at ho; rwa [add_block] at ho, hc, rfl, fun x hx => ?_⟩
    rw [List.getElem?_eq_getElem hi] at hx
    cases hx
    exact hb)
  refine ⟨vs, hl, fun j v hj => ?_, fun u hu => ?_, fun i v x hi hx => ?_⟩
  · obtain ⟨ad, e, hb, hc, _⟩ := hv j v hj
    exact ⟨ad, e, hb, hc⟩
  · obtain ⟨j, hj⟩ := List.getElem?_of_mem hu
    obtain ⟨_, _, _, _, h1, _⟩ := hv j u hj
    exact h1
  · obtain ⟨_, _, _, _, _, h1⟩ := hv i v hi
    exact h1 x hx
set_option maxRecDepth 100000 in
set_option maxHeartbeats 4000000 in
/-- The headers lie at w, the bytes lay at w0. -/
theorem refSettled_at (d : Dk) (A : Option Addr) (c : Nat) (B : Option Addr) (c' : Nat) (w0 w : World) (hW : Below w0.heap.size w0 w) (l1 : d.1.length ≤ c) (m1 : c ≤ 9223372036854775807) (l2 : d.2.length ≤ c') (m2 : c' ≤ 9223372036854775807)
    (hA : ∀ i x, d.1[i]? = some x → ∃ ad v, A = some ad ∧ Old w (ad.add i) ∧ w.cell? (ad.add i) = some v ∧ rBy (Old w0) w0 [v] x)
    (hB : ∀ i x, d.2[i]? = some x → ∃ ad v, B = some ad ∧ Old w (ad.add (i * 2)) ∧ Old w (ad.add (i * 2 + 1)) ∧ w.cell? (ad.add (i * 2)) = some (.int .i64 x.1) ∧ w.cell? (ad.add (i * 2 + 1)) = some v ∧ rBy (Old w0) w0 [v] x.2) (hm : mayB d = true) :
    Calls Try.prog 56 #[.agg #[.slice A d.1.length c, .slice B d.2.length c']] w fun e w' => ∃ x, e = .returned x ∧ Dsk (Apart w0 w w') w' x (settledD d) ∧ Below w.heap.size w w' := by
  obtain ⟨i0, hi, hz0, hz1, hz2⟩ := info_parts rows_info0
  obtain ⟨hl1, hl2, _, hat⟩ := may_of hm
  obtain ⟨vs, hvl, hvc, hv1, hvo⟩ := rows_cells2 hA
  have HB := Lib.hid hB
  have hvo' := Lib.hid hvo
  have hat' := Lib.hid hat
  clear hA hB hvo hat hm
  obtain ⟨m, hm⟩ : ∃ m, d.2.length = m := ⟨_, rfl⟩
  rw [hl1] at l1 hvl ⊢
  rw [hm] at l2 hl2 ⊢
  replace hl1 := Lib.hid hl1
  replace hm := Lib.hid hm
  obtain ⟨w2, hw2, f1, f2, f3, hsz, hB2⟩ := box_two w (.slice A 256 c) (.slice B m c') #[.slice none 0 0, .slice none 0 0] 25
  obtain ⟨w3, hw3, g3, hs3, hB3⟩ := box_pair' w2 (.slice none 0 0) (.slice none 0 0) 25
  have hB23 := hB2.trans (hB3.mono hB2.size)
  have hW3 := hW.trans (hB23.mono hW.size)
  have hW0 : w0.heap.size ≤ w.heap.size := hW.size
  obtain ⟨v1, w4, hr1, own1, gr1, ba1⟩ := app_any (P := Try.prog) (w := w3) w3.heap.size 22 22 26 i0 (.slice none 0 0) 1 24 Try.underlying22 hi hz0 hz1 hz2 rfl (by decide) (.slice none 0 0) 0 [] (World.ownsRow_nil _ _ _ _) A 256 c vs (by omega)
    (fun j u hj => by
      obtain ⟨ad, e, ho, hc⟩ := hvc j u hj
      exact ⟨ad, e, (hB23.cell (p := ad.add j) (by rw [add_block]; exact ho)).trans hc⟩) hv1 (by unfold maxLen; omega) (by omega) (Nat.le_refl _)
  rw [Nat.zero_add, List.nil_append] at own1
  obtain ⟨A1, c1, rfl, o1, o2, _, oA⟩ := own_any own1
  obtain ⟨ad, rfl⟩ := oA (by omega)
  obtain ⟨ob1, ob2, _, _⟩ := own_block own1
  have s4 := ba1.size
  have g4 := (ba1.block w2.heap.size (by omega)).trans g3
  obtain ⟨w5, hw5, g5, gr5, gs5⟩ := put_fst (u := .slice (some ad) 256 c1) g4
  have own5 := own1.kept gr5 (.inr (fun e => by have := (own1.lt _ e).1; omega))
  have B4 : Below w.heap.size w w4 := hB23.trans (ba1.mono hB23.size)
  have B5 := B4.grown gr5 B4.size (fun q e => by cases e; omega)
  have W5 := hW.trans (B5.mono hW.size)
  have b5 : w5.heap[w.heap.size + 1]? = some (.cells #[.slice none 0 0, .slice none 0 0] 25 (0, 0)) :=
    (gr5.block _ (by omega) (fun e => by simp only [Option.some.injEq] at e; omega)).trans ((ba1.block _ (by omega)).trans ((hB3.block _ (by omega)).trans f3))
  have q5 : w5.cell? ⟨w.heap.size, 1, none⟩ = some (.slice B m c') := (World.cell?_of_block ((gr5.block w.heap.size (by omega) (fun e => by simp only [Option.some.injEq] at e; omega)).trans ((ba1.block _ (by omega)).trans (hB3.block _ (by omega))))).trans f2
  obtain ⟨p1, p2, p3, _⟩ := two_cells g5
  obtain ⟨z1, z2, z3, _⟩ := two_cells g4
  have H1 := Lib.hid hr1
  have f4 := (hB3.cell (p := ⟨w.heap.size, 0, none⟩) (show w.heap.size < w2.heap.size by omega)).trans f1
  obtain ⟨x4, x5, _, _⟩ := two_cells g3
  have S5 : Hid (w.heap.size + 2 = w2.heap.size ∧ w2.heap.size + 1 = w3.heap.size ∧ w3.heap.size ≤ w5.heap.size ∧ w3.heap.size ≤ ad.block ∧ w0.heap.size ≤ w.heap.size) := Lib.hid ⟨by omega, by omega, by omega, ob1, hW0⟩
  replace hsz := Lib.hid hsz
  replace hs3 := Lib.hid hs3
  replace gs5 := Lib.hid gs5
  replace g5 := Lib.hid g5
  replace b5 := Lib.hid b5
  replace own5 := Lib.hid own5
  replace B5 := Lib.hid B5
  replace W5 := Lib.hid W5
  replace hvl := Lib.hid hvl
  clear hW hW3 hW0 hr1 own1 gr1 gr5 B4 hvc hv1 g3 g4 ba1 hB23 hB2 hB3 f3 s4 ob1 ob2
  go_enter Try.func56, Try.ntmps56
  go_upto_region 2 with fail
  clear hw3 hw2
  go_wp2_with (at_builtin; refine wpList_append_run rfl _ _ _ rfl rfl rfl H1.out ?_; clear H1)
  clear hw5
  go_loopw [4] (fun i wr => ∃ j : Nat, j ≤ m ∧ i = .int .i64 j ∧ Below w3.heap.size w5 wr ∧ ∃ us : List Value, wr.ownsRow w3.heap.size 26 1 (.slice (some ad) 256 c1) 256 us ∧
      ∀ (i : Nat) (u : Value) (b : List UInt8), us[i]? = some u → d.1[i]? = some b → rBy (Old w0) w0 [u] (seenW (d.2.take j) b i)) (fun i _ => m - (intOf i).toNat)
  case atStart => exact ⟨0, by omega, rfl, Below.refl _ _, vs, own5.out, fun i u b hu hb => hvo'.out i u b hu hb⟩
  case round =>
    obtain ⟨j, hj, rfl, hb, us, hus, hx⟩ := hrel
    replace hx := Lib.hid hx
    have r1 := (hb.cell (p := ⟨w.heap.size, 1, none⟩) (show w.heap.size < w3.heap.size by have := S5.out; omega)).trans q5
    have r2 := (hb.cell (p := ⟨w2.heap.size, 0, none⟩) (show w2.heap.size < w3.heap.size by have := S5.out; omega)).trans p1
    have r3 := (hb.cell (p := ⟨w2.heap.size, 1, none⟩) (show w2.heap.size < w3.heap.size by have := S5.out; omega)).trans p2
    by_cases hlt : j < m
    · obtain ⟨x, hxj⟩ : ∃ x, d.2[j]? = some x := ⟨_, List.getElem?_eq_getElem (by rw [hm.out]; exact hlt)⟩
      obtain ⟨bd, u, rfl, hok, hok', hc, hc', hby⟩ := HB.out j x hxj
      obtain ⟨a1, a2, a3⟩ := hat'.out j x hxj
      obtain ⟨k, hk⟩ : ∃ k : Nat, x.1 = k := ⟨x.1.toNat, by omega⟩
      have hk2 : k < 256 := by omega
      rw [hk] at hc
      have hc3 := (hb.cell (p := bd.add (j * 2)) (Nat.lt_of_lt_of_le hok (by have := S5.out; omega))).trans ((B5.out.cell hok).trans hc)
      have hc4 := (hb.cell (p := bd.add (j * 2 + 1)) (Nat.lt_of_lt_of_le hok' (by have := S5.out; omega))).trans ((B5.out.cell hok').trans hc')
      rw [add_next] at hc4
      obtain ⟨E, ce, rfl, _⟩ := id (rBy_open hby)
      replace hby := Lib.hid hby
      have hul : us.length = 256 * 1 := hus.1
      have hcu := own_at hus (j := k) (List.getElem?_eq_getElem (by omega))
      have hf := own_free hus k
      generalize us[k] = u0 at hcu
      have e1 : (0 : Int) ≤ (k : Int) := by omega
      have e2 : (k : Int) < 256 := by omega
      have e3 : (j : Int) < (m : Int) := by omega
      have hadb := S5.out.2.2.2.1
      replace hxj := Lib.hid hxj
      replace hk := Lib.hid hk
      replace hus := Lib.hid hus
      replace hul := Lib.hid hul
      replace hb := Lib.hid hb
      clear hc hc' a1 a2 a3
      go_wp2_with fail
      go_still_tail 15, (by kernel_rfl)
      change wpList _ _ _ _ _ wr.drew
      go_wp2
      go_roundw
      case rel =>
        refine ⟨j + 1, by omega, by go_num, (hb.out.setCell (by rw [add_block]; exact hadb) _).drew, us.set k (.slice E x.2.length ce), own_below (own_put hus.out (by omega) _) (Below.refl _ _).drew, fun i u b hu hbi => ?_⟩
        rcases list_set_get (by have := hul.out; omega) hu with ⟨rfl, rfl⟩ | ⟨hne, hu'⟩
        · rw [seen_hit hxj.out hk.out]
          exact hby.out
        · rw [seen_miss hxj.out (by rw [hk.out]; omega)]
          exact hx.out i u b hu' hbi
      case measure => simp [intOf]; omega
    · have hbz := (hb.block (w.heap.size + 1) (by have := S5.out; omega)).trans b5.out
      obtain ⟨k1, k2, k3, k4⟩ := two_cells hbz
      obtain ⟨W9, hW9, g9, gr9, gs9⟩ := put_two (u := .slice (some ad) 256 c1) (v := .slice none 0 0) hbz
      obtain ⟨k5, k6, _, _⟩ := two_cells g9
      have S := S5.out
      have Br : Below w.heap.size w wr := B5.out.trans (hb.mono (by omega))
      have B9 := Br.grown gr9 Br.size (fun q e => by cases e; omega)
      have Wr9 := (W5.out.trans ((hb.mono (by omega) : Below w0.heap.size w5 wr))).grown gr9 (by have := Br.size; omega) (fun q e => by cases e; omega)
      have own9 := hus.kept gr9 (.inr (fun e => by have := (hus.lt _ e).1; omega))
      have hfin : Hid (Dsk (Apart w0 w W9) W9 (.agg #[.slice (some ad) 256 c1, .slice none 0 0]) (settledD d)) := Lib.hid (by
        refine ⟨_, _, rfl, own_rows_ok (fun p _ hp => .inr ⟨Nat.le_trans (by omega) hp.1, hp.2.1⟩) own9 (settled_len1 d) fun i u x hu hxi => ?_, ⟨none, 0, rfl, by simp [settledD], by omega, fun i x hi => by simp [settledD] at hi⟩⟩
        have hil : i < 256 := by
          have := (List.getElem?_eq_some_iff.1 hxi).1
          rwa [settled_len1] at this
        rw [settled_at hil] at hxi
        cases hxi
        obtain ⟨b, hbi⟩ : ∃ b, d.1[i]? = some b := ⟨_, List.getElem?_eq_getElem (by rw [hl1.out]; exact hil)⟩
        have e := hx.out i u b hu hbi
        rw [List.take_of_length_le (by rw [hm.out]; omega)] at e
        have e2 : seenD d i = seenW d.2 b i := by unfold seenD; rw [hbi]; rfl
        rw [e2]
        exact stab_by _ _ _ _ _ _ (fun p v hp hc => ⟨.inl hp, (Wr9.cell hp).trans hc⟩) e)
      replace B9 := Lib.hid B9
      clear own9 hus Wr9 Br hb g9 gr9 S hbz
      go_wp2_with fail
      exact bodyPost_ret (v := .agg #[.slice (some ad) 256 c1, .slice none 0 0]) (by simp [results, Try.results56, go_sem, k5, k6]) rfl ⟨_, rfl, hfin.out, B9.out⟩
theorem refSettled_in (v : Value) (d : Dk) (w0 w : World) (hW : Below w0.heap.size w0 w) (h : Dsk (Old w0) w0 v d) (hm : mayB d = true) :
    Calls Try.prog 56 #[v] w fun e w' => ∃ x, e = .returned x ∧ Dsk (Apart w0 w w') w' x (settledD d) ∧ Below w.heap.size w w' := by
  obtain ⟨A, c, B, c', rfl, l1, m1, l2, m2, hA, hB⟩ := h.open
  refine refSettled_at d A c B c' w0 w hW l1 m1 l2 m2 (fun i x hx => ?_) (fun i x hx => ?_) hm
  · obtain ⟨ad, v, e, ho, hc, hb⟩ := hA i x hx
    exact ⟨ad, v, e, Nat.lt_of_lt_of_le ho hW.size, (hW.cell ho).trans hc, hb⟩
  · obtain ⟨ad, v, e, ho, ho', hc, hc', hb, _, _⟩ := hB i x hx
    exact ⟨ad, v, e, Nat.lt_of_lt_of_le ho hW.size, Nat.lt_of_lt_of_le ho' hW.size, (hW.cell ho).trans hc, (hW.cell ho').trans hc', hb⟩
end Go.Proofs.Ytgnogclhleheiaa
