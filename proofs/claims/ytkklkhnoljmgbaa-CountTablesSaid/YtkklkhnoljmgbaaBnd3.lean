/-
  Lemmas on the program and on the document's answers, gathered: CntRefW. Conditions: those that each lemma states.
-/
import Derived.Test.YtkklkhnoljmgbaaBnd2
/-
  The document's answers of layer 7: Write. Conditions: those that each lemma states.
-/
namespace Go.Proofs.Ytkklkhnoljmgbaa
open Go.RowKit

/-- Cells that hold no empty slice. -/
def NZ (ok : Addr → Prop) (w : World) : Addr → Prop := fun p => ok p ∧ w.cell? p ≠ some (.slice none 0 0)
theorem by_nz {ok : Addr → Prop} {w : World} {cs : List Value} {x : List UInt8} (h : rBy ok w cs x) : rBy (NZ ok w) w cs x := by
  obtain ⟨A, cap, h1, h2, h3, h4⟩ := h
  refine ⟨A, cap, h1, h2, h3, fun i y hi => ?_⟩
  obtain ⟨ad, vs, e1, e2, e3, e4⟩ := h4 i y hi
  refine ⟨ad, vs, e1, e2, fun j u hj => ⟨⟨(e3 j u hj).1, ?_⟩, (e3 j u hj).2⟩, e4⟩
  unfold rU8 at e4
  subst e4
  have := List.mem_of_getElem? hj
  simp only [List.mem_singleton] at this
  rw [(e3 j u hj).2, this]
  simp
theorem slice_nz {ok : Addr → Prop} {w : World} {u : Value} {x : List UInt8} (h : rBy ok w [u] x) (hx : x ≠ []) : u ≠ .slice none 0 0 := by
  obtain ⟨A, c, rfl, _⟩ := rBy_open h
  intro e
  simp only [Value.slice.injEq] at e
  exact hx (List.eq_nil_of_length_eq_zero e.2.1)
theorem rows_nz {ok : Addr → Prop} {w : World} {cs : List Value} {xss : List (List UInt8)} (h : rSl 1 rBy ok w cs xss) (hn : ∀ x ∈ xss, x ≠ []) : rSl 1 rBy (NZ ok w) w cs xss := by
  obtain ⟨A, cap, h1, h2, h3, h4⟩ := h
  refine ⟨A, cap, h1, h2, h3, fun i y hi => ?_⟩
  obtain ⟨ad, vs, e1, e2, e3, e4⟩ := h4 i y hi
  refine ⟨ad, vs, e1, e2, fun j u hj => ⟨⟨(e3 j u hj).1, ?_⟩, (e3 j u hj).2⟩, by_nz e4⟩
  match vs, e2 with
  | [v], _ =>
    have := List.mem_of_getElem? hj
    simp only [List.mem_singleton] at this
    rw [(e3 j u hj).2, this]
    exact fun e => slice_nz e4 (hn y (List.mem_of_getElem? hi)) (by simpa using e)
theorem wts_nz {ok : Addr → Prop} {w : World} {cs : List Value} {ws : List Wt} (h : rSl 2 rWt ok w cs ws) (hn : ∀ x ∈ ws, x.2 ≠ []) : rSl 2 rWt (NZ ok w) w cs ws := by
  obtain ⟨A, cap, h1, h2, h3, h4⟩ := h
  refine ⟨A, cap, h1, h2, h3, fun i y hi => ?_⟩
  obtain ⟨ad, vs, e1, e2, e3, e4⟩ := h4 i y hi
  obtain ⟨v, rfl, b1, b2, hv⟩ := rWt_open e4
  refine ⟨ad, _, e1, e2, fun j u hj => ⟨⟨(e3 j u hj).1, ?_⟩, (e3 j u hj).2⟩, rWt_mk b1 b2 (by_nz hv)⟩
  have := List.mem_of_getElem? hj
  simp only [List.mem_cons, List.not_mem_nil, or_false] at this
  rw [(e3 j u hj).2]
  rcases this with rfl | rfl
  · simp
  · exact fun e => slice_nz hv (hn y (List.mem_of_getElem? hi)) (by simpa using e)
theorem dsk_nz {ok : Addr → Prop} {w : World} {v : Value} {d : Dk} (h : Dsk ok w v d) (h1 : ∀ x ∈ d.1, x ≠ []) (h2 : ∀ x ∈ d.2, x.2 ≠ []) : Dsk (NZ ok w) w v d := by
  obtain ⟨a, b, e, r1, r2⟩ := h
  exact ⟨a, b, e, rows_nz r1 h1, wts_nz r2 h2⟩
theorem full_may {d : Dk} (h : mayB d = true) : (∀ x ∈ d.1, x ≠ []) ∧ (∀ x ∈ d.2, x.2 ≠ []) := by
  obtain ⟨_, _, h1, h2⟩ := may_of h
  refine ⟨fun x hx e => ?_, fun x hx e => ?_⟩
  · obtain ⟨i, hi⟩ := List.getElem?_of_mem hx
    have := h1 i x hi
    rw [e] at this
    cases this
  · obtain ⟨i, hi⟩ := List.getElem?_of_mem hx
    have := (h2 i x hi).2.2
    rw [e] at this
    cases this
theorem full_wr (d : Dk) (n : Int) (xs : List UInt8) : (∀ x ∈ (wrR d n xs).1, x ≠ []) ∧ (∀ x ∈ (wrR d n xs).2, x.2 ≠ []) := by
  by_cases he : wErr d n xs = 0
  · exact full_may (may_wrR he).1
  · rw [show wrR d n xs = emptyD by simp [wrR, he]]
    exact ⟨fun x hx => absurd hx (by simp [emptyD]), fun x hx => absurd hx (by simp [emptyD])⟩
/-- A store into a box that holds two empty slices turns nothing of a disk that holds none. -/
theorem dsk_put_zero {W W9 : World} {g : Nat} {t : TypeId} {v : Value} {d : Dk} (h : Dsk (Old W) W v d) (hd : (∀ x ∈ d.1, x ≠ []) ∧ (∀ x ∈ d.2, x.2 ≠ [])) (hz : W.heap[g]? = some (.cells #[.slice none 0 0, .slice none 0 0] t (0, 0))) (hg : W.grownBy W9 (some g)) : Dsk (Old W9) W9 v d :=
  (dsk_nz h hd.1 hd.2).map fun p u hp hc => by
    have hn : p.block ≠ g := fun e => by
      refine hp.2 ?_
      rw [hc]
      unfold World.cell? at hc
      rw [e, hz] at hc
      dsimp only at hc
      split at hc
      · cases hc
      · rcases hk : p.off with _ | _ | k
        · rw [hk] at hc; exact hc.symm
        · rw [hk] at hc; exact hc.symm
        · rw [hk] at hc; simp at hc
    exact ⟨Nat.lt_of_lt_of_le hp.1 hg.size, (World.cell?_of_block (hg.block _ hp.1 (by simpa using hn))).trans hc⟩
theorem dsk_apart {w0 w w' : World} {v : Value} {d : Dk} (h : Dsk (Apart w0 w w') w' v d) (hs : w0.heap.size ≤ w'.heap.size) : Dsk (Old w') w' v d :=
  h.map fun _ _ hp hc => ⟨hp.elim (fun hp => Nat.lt_of_lt_of_le hp hs) (fun hp => hp.2), hc⟩
/-- A store into a block between stays apart. -/
theorem dsk_apart_put {w0 w w' W : World} {v : Value} {d : Dk} (h : Dsk (Apart w0 w w') w' v d) (hs : w0.heap.size < w.heap.size) (hs2 : w0.heap.size ≤ w'.heap.size) (hg : w'.grownBy W (some w0.heap.size)) : Dsk (Old W) W v d :=
  h.map fun p _ hp hc => by
    have hlt : p.block < w'.heap.size := hp.elim (fun hp => Nat.lt_of_lt_of_le hp hs2) (fun hp => hp.2)
    have hn : p.block ≠ w0.heap.size := fun e => by rcases hp with hp | hp <;> omega
    exact ⟨Nat.lt_of_lt_of_le hlt hg.size, (World.cell?_of_block (hg.block _ hlt (by simpa using hn))).trans hc⟩
theorem dsk_empty_any (ok : Addr → Prop) (w : World) : Dsk ok w (.agg #[.slice none 0 0, .slice none 0 0]) emptyD :=
  ⟨_, _, rfl, ⟨none, 0, rfl, by simp [emptyD], by omega, fun i x h => by simp [emptyD] at h⟩, ⟨none, 0, rfl, by simp [emptyD], by omega, fun i x h => by simp [emptyD] at h⟩⟩
set_option maxRecDepth 100000 in
set_option maxHeartbeats 4000000 in
/-- Where its arguments lay at w0, what it answers lies there, or is new. -/
theorem refWrite_from (v u : Value) (d : Dk) (n : Int) (xs : List UInt8) (w0 w : World) (hW : Below w0.heap.size w0 w) (h00 : Dsk (Old w0) w0 v d) (hu0 : rBy (Old w0) w0 [u] xs) :
    Calls Try.prog 40 #[v, .int .i64 n, u] w fun e w' => ∃ x, e = .returned (.tuple #[x, .int .i64 (wErr d n xs)]) ∧ Dsk (Apart w0 w w') w' x (wrR d n xs) ∧ Below w.heap.size w w' := by
  have h := h00.below hW
  have hu := stab_by.old hu0 hW
  obtain ⟨A, c, B, c', rfl, _⟩ := id h.open
  obtain ⟨E, ce, rfl, _⟩ := id (rBy_open hu)
  obtain ⟨w2, hw2, f1, f2, f3, hsz, hB⟩ := box_two w (.slice A d.1.length c) (.slice B d.2.length c') #[.slice none 0 0, .slice none 0 0] 31
  have H := Lib.hid (h.below hB)
  have U := Lib.hid (stab_by.old hu hB)
  replace h00 := Lib.hid h00
  replace hu0 := Lib.hid hu0
  replace hW := Lib.hid hW
  clear h hu
  replace hsz := Lib.hid hsz
  go_enter Try.func40, Try.ntmps40
  go_upto_region 1 with fail
  clear hw2
  go_wp2_with fail
  with_reducible refine (may_any _ d _ H.out).mono ?_
  rintro er w3 ⟨rfl, hb3⟩
  have H3 := Lib.hid (H.out.below hb3)
  have U3 := Lib.hid (stab_by.old U.out hb3)
  have f4 := (hb3.block (w.heap.size + 1) (by rw [hsz.out]; omega)).trans f3
  have g1 := (hb3.cell (p := ⟨w.heap.size, 0, none⟩) (by rw [hsz.out]; simp)).trans f1
  have g2 := (hb3.cell (p := ⟨w.heap.size, 1, none⟩) (by rw [hsz.out]; simp)).trans f2
  obtain ⟨k1, k2, k3, k4⟩ := two_cells f4
  have hB3 := hB.trans (hb3.mono hB.size)
  have hl3 : w.heap.size + 2 ≤ w3.heap.size := by have := hsz.out; have := hb3.size; omega
  clear f1 f2 H U
  replace f3 := Lib.hid f3
  by_cases he : wErr d n xs = 0
  · obtain ⟨hm, ht, h8, h9⟩ := write_fine he (.inr trivial)
    obtain ⟨k, rfl, hk⟩ := thereB_nat ht
    have hr : Hid (wrR d (k : Int) xs = wrD d k xs) := Lib.hid (by simp [wrR, he])
    have hw := Lib.hid he
    rw [hm]
    have i1 : ¬ (k : Int) < 0 := by omega
    have i2 : ¬ (256 : Int) ≤ (k : Int) := by omega
    have i3 : ((xs.length : Int) != 128) = false := by rw [h8]; rfl
    have i4 : ¬ (4096 : Int) ≤ (d.2.length : Int) := by omega
    replace h8 := Lib.hid h8
    replace f4 := Lib.hid f4
    clear he hm ht
    go_wp2_with fail
    with_reducible refine (refWith_in _ _ d k xs w0 _ (hW.out.trans (hB3.mono hW.out.size)) h00.out hu0.out h9 hk).mono ?_
    rintro es w4 ⟨x, rfl, hx, hb4⟩
    obtain ⟨A4, c4, B4, d4, rfl, _⟩ := id hx.open
    have f5 := (hb4.block (w.heap.size + 1) (by omega)).trans f4.out
    obtain ⟨y1, y2, y3, _⟩ := two_cells f5
    obtain ⟨W9, hW9, g9, gr9, gs9⟩ := put_two (u := .slice A4 (wrD d k xs).1.length c4) (v := .slice B4 (wrD d k xs).2.length d4) f5
    obtain ⟨k5, k6, _, _⟩ := two_cells g9
    have hB9 := (hB3.trans (hb4.mono hB3.size)).grown gr9 (Nat.le_trans hB3.size hb4.size) (fun q e => by cases e; omega)
    have hfin := Lib.hid (show Dsk (Apart w0 w W9) W9 (.agg #[.slice A4 (wrD d k xs).1.length c4, .slice B4 (wrD d k xs).2.length d4]) (wrD d k xs) from
      hx.map fun p v hp hc => by
        have hws := hW.out.size
        have hbs := hb4.size
        have hlt : p.block < w4.heap.size := hp.elim (fun hp => by omega) (fun hp => hp.2)
        have hs : W9.heap[p.block]? = w4.heap[p.block]? := gr9.block _ hlt (fun e => by simp only [Option.some.injEq] at e; rcases hp with hp | hp <;> omega)
        exact ⟨hp.elim .inl fun hp => .inr ⟨by omega, by omega⟩, (World.cell?_of_block hs).trans hc⟩)
    replace f5 := Lib.hid f5
    replace g9 := Lib.hid g9
    clear hx gr9
    go_wp2_with fail
    exact bodyPost_ret (v := .tuple #[.agg #[.slice A4 (wrD d k xs).1.length c4, .slice B4 (wrD d k xs).2.length d4], .int .i64 0]) (by simp [results, Try.results40, go_sem, k5, k6]) rfl ⟨_, by rw [hw.out], by rw [hr.out]; exact hfin.out, hB9⟩
  · have hr : Hid (wrR d n xs = emptyD) := Lib.hid (by simp [wrR, he])
    obtain ⟨W9, hW9, g9, gr9, gs9⟩ := put_two (u := .slice none 0 0) (v := .slice none 0 0) f4
    obtain ⟨k5, k6, _, _⟩ := two_cells g9
    have hB9 := hB3.grown gr9 hB3.size (fun q e => by cases e; omega)
    replace f4 := Lib.hid f4
    replace g9 := Lib.hid g9
    cases hm : mayB d with
    | false =>
      have hw := Lib.hid (show wErr d n xs = 8 by simp [wErr, hm])
      clear he hm
      go_wp2_with fail
      exact bodyPost_ret (v := .tuple #[.agg #[.slice none 0 0, .slice none 0 0], .int .i64 8]) (by simp [results, Try.results40, go_sem, k5, k6]) rfl ⟨_, by rw [hw.out], by rw [hr.out]; exact dsk_empty_any _ _, hB9⟩
    | true =>
      cases ht : thereB n with
      | false =>
        have hw := Lib.hid (show wErr d n xs = 2 by simp [wErr, hm, ht])
        by_cases h0 : n < 0
        · clear he hm ht
          go_wp2_with fail
          exact bodyPost_ret (v := .tuple #[.agg #[.slice none 0 0, .slice none 0 0], .int .i64 2]) (by simp [results, Try.results40, go_sem, k5, k6]) rfl ⟨_, by rw [hw.out], by rw [hr.out]; exact dsk_empty_any _ _, hB9⟩
        · have h1 : (256 : Int) ≤ n := by
            simp only [thereB, Bool.and_eq_false_iff, decide_eq_false_iff_not] at ht
            omega
          clear he hm ht
          go_wp2_with fail
          exact bodyPost_ret (v := .tuple #[.agg #[.slice none 0 0, .slice none 0 0], .int .i64 2]) (by simp [results, Try.results40, go_sem, k5, k6]) rfl ⟨_, by rw [hw.out], by rw [hr.out]; exact dsk_empty_any _ _, hB9⟩
      | true =>
        obtain ⟨k, rfl, hk⟩ := thereB_nat ht
        have i1 : ¬ (k : Int) < 0 := by omega
        have i2 : ¬ (256 : Int) ≤ (k : Int) := by omega
        by_cases h8 : xs.length = 128
        · have h9 : d.2.length = 4096 := by
            unfold wErr at he
            simp [hm, ht, h8] at he
            exact he
          have hw := Lib.hid (show wErr d k xs = 9 by simp [wErr, hm, ht, h8, h9])
          have i3 : ((xs.length : Int) != 128) = false := by rw [h8]; rfl
          have i4 : (4096 : Int) ≤ (d.2.length : Int) := by omega
          replace h8 := Lib.hid h8
          replace h9 := Lib.hid h9
          clear he hm ht
          go_wp2_with fail
          exact bodyPost_ret (v := .tuple #[.agg #[.slice none 0 0, .slice none 0 0], .int .i64 9]) (by simp [results, Try.results40, go_sem, k5, k6]) rfl ⟨_, by rw [hw.out], by rw [hr.out]; exact dsk_empty_any _ _, hB9⟩
        · have hw := Lib.hid (show wErr d k xs = 3 by simp [wErr, hm, ht, h8])
          have i3 : ((xs.length : Int) != 128) = true := by simp; omega
          clear he hm ht h8
          go_wp2_with fail
          exact bodyPost_ret (v := .tuple #[.agg #[.slice none 0 0, .slice none 0 0], .int .i64 3]) (by simp [results, Try.results40, go_sem, k5, k6]) rfl ⟨_, by rw [hw.out], by rw [hr.out]; exact dsk_empty_any _ _, hB9⟩
set_option maxRecDepth 100000 in
set_option maxHeartbeats 4000000 in
theorem refWriteT_bad (v u : Value) (d : Dk) (s : Int) (t : List UInt8) (w : World) (h : Dsk (Old w) w v d) (hu : rBy (Old w) w [u] t) (hg : ¬ (mayB d = true ∧ sideB s = true ∧ mayT t = true)) :
    Calls Try.prog 23 #[v, .int .i64 s, u] w fun e w' => ∃ x, e = .returned (.tuple #[x, .int .i64 (cwE d s t)]) ∧ Dsk (Old w') w' x (cwR d s t) ∧ Below w.heap.size w w' := by
  obtain ⟨A, c, B, c', rfl, _⟩ := id h.open
  obtain ⟨E, ce, rfl, l1, m1, hby⟩ := rBy_byt (B := w.heap.size) (fun _ h => h) hu
  obtain ⟨w2, hw2, f1, f2, f3, hsz, hB⟩ := box_two w (.slice A d.1.length c) (.slice B d.2.length c') #[.slice none 0 0, .slice none 0 0] 31
  have H := Lib.hid (h.below hB)
  have U := Lib.hid (hby.below hB)
  replace hsz := Lib.hid hsz
  have hR : ∀ q, cwE d s t = q → q ≠ 0 → cwR d s t = emptyD := fun q e h => by rw [cwR, e, if_neg h]
  have bad : Hid (∀ (W : World) (q : Int), Below w2.heap.size w2 W → ∃ W9, (W.setCell ⟨w.heap.size + 1, 0, none⟩ (.slice none 0 0)).setCell ⟨w.heap.size + 1, 1, none⟩ (.slice none 0 0) = W9 ∧ W.cell? ⟨w.heap.size + 1, 0, none⟩ = some (.slice none 0 0) ∧ W.cell? ⟨w.heap.size + 1, 1, none⟩ = some (.slice none 0 0) ∧ (∀ o, W.frozen? ⟨w.heap.size + 1, o, none⟩ = false) ∧
      W9.cell? ⟨w.heap.size + 1, 0, none⟩ = some (.slice none 0 0) ∧ W9.cell? ⟨w.heap.size + 1, 1, none⟩ = some (.slice none 0 0) ∧ Below w.heap.size w W9) := Lib.hid fun W q hb => by
    have f4 := (hb.block (w.heap.size + 1) (by rw [hsz.out]; omega)).trans f3
    obtain ⟨k1, k2, k3, k4⟩ := two_cells f4
    obtain ⟨W9, hW9, g9, gr9, gs9⟩ := put_two (u := .slice none 0 0) (v := .slice none 0 0) f4
    obtain ⟨k5, k6, _, _⟩ := two_cells g9
    have hB3 := hB.trans (hb.mono hB.size)
    exact ⟨W9, hW9, k1, k2, k3, k5, k6, hB3.grown gr9 hB3.size (fun q e => by cases e; omega)⟩
  replace f3 := Lib.hid f3
  clear h hu hby
  cases hm : mayB d with
  | false =>
    have he := Lib.hid (show cwE d s t = 8 by simp [cwE, hm])
    have hr := Lib.hid (hR 8 he.out (by decide))
    replace hm := Lib.hid hm
    clear hg hR
    go_enter Try.func23, Try.ntmps23
    go_upto_region 1 with fail
    clear hw2
    go_wp2_with fail
    with_reducible refine (may_any _ d _ H.out).mono ?_
    rintro er w3 ⟨rfl, hb3⟩
    obtain ⟨W9, hW9, k1, k2, k3, k5, k6, hz⟩ := bad.out w3 0 hb3
    rw [hm.out]
    go_wp2_with fail
    exact bodyPost_ret (v := .tuple #[.agg #[.slice none 0 0, .slice none 0 0], .int .i64 8]) (by simp [results, Try.results23, go_sem, k5, k6]) rfl ⟨_, by rw [he.out], by rw [hr.out]; exact (dsk_empty_new 0 W9).drop, hz⟩
  | true =>
    cases hs : sideB s with
    | false =>
      have he := Lib.hid (show cwE d s t = 2 by simp [cwE, hm, hs])
      have hr := Lib.hid (hR 2 he.out (by decide))
      obtain ⟨n0, n1⟩ := side_no hs
      have t0 : (s != 0) = true := by simpa using n0
      have t1 : (s != 1) = true := by simpa using n1
      replace hm := Lib.hid hm
      clear hg hR n0 n1 hs
      go_enter Try.func23, Try.ntmps23
      go_upto_region 1 with fail
      clear hw2
      go_wp2_with fail
      with_reducible refine (may_any _ d _ H.out).mono ?_
      rintro er w3 ⟨rfl, hb3⟩
      obtain ⟨W9, hW9, k1, k2, k3, k5, k6, hz⟩ := bad.out w3 0 hb3
      rw [hm.out]
      go_wp2_with fail
      exact bodyPost_ret (v := .tuple #[.agg #[.slice none 0 0, .slice none 0 0], .int .i64 2]) (by simp [results, Try.results23, go_sem, k5, k6]) rfl ⟨_, by rw [he.out], by rw [hr.out]; exact (dsk_empty_new 0 W9).drop, hz⟩
    | true =>
      have ht : mayT t = false := by
        cases ht : mayT t with
        | false => rfl
        | true => exact absurd ⟨hm, hs, ht⟩ hg
      have he := Lib.hid (show cwE d s t = 8 by simp [cwE, hm, hs, ht])
      have hr := Lib.hid (hR 8 he.out (by decide))
      replace hm := Lib.hid hm
      replace ht := Lib.hid ht
      clear hg hR
      rcases side_ways hs with rfl | rfl
      · clear hs
        go_enter Try.func23, Try.ntmps23
        go_upto_region 1 with fail
        clear hw2
        go_wp2_with fail
        with_reducible refine (may_any _ d _ H.out).mono ?_
        rintro er w3 ⟨rfl, hb3⟩
        have U3 := Lib.hid ((U.out.below (hb3.mono hB.size)).more (Nat.le_trans hB.size hb3.size))
        obtain ⟨W9, hW9, k1, k2, k3, k5, k6, hz⟩ := bad.out w3 0 hb3
        rw [hm.out]
        go_wp2_with fail
        with_reducible refine (refMayT_any E t.length ce t (Lib.hid rfl) l1 m1 _ U3.out).mono ?_
        rintro e w5 ⟨rfl, rfl⟩
        rw [ht.out]
        go_wp2_with fail
        exact bodyPost_ret (v := .tuple #[.agg #[.slice none 0 0, .slice none 0 0], .int .i64 8]) (by simp [results, Try.results23, go_sem, k5, k6]) rfl ⟨_, by rw [he.out], by rw [hr.out]; exact (dsk_empty_new 0 W9).drop, hz⟩
      · clear hs
        go_enter Try.func23, Try.ntmps23
        go_upto_region 1 with fail
        clear hw2
        go_wp2_with fail
        with_reducible refine (may_any _ d _ H.out).mono ?_
        rintro er w3 ⟨rfl, hb3⟩
        have U3 := Lib.hid ((U.out.below (hb3.mono hB.size)).more (Nat.le_trans hB.size hb3.size))
        obtain ⟨W9, hW9, k1, k2, k3, k5, k6, hz⟩ := bad.out w3 0 hb3
        rw [hm.out]
        go_wp2_with fail
        with_reducible refine (refMayT_any E t.length ce t (Lib.hid rfl) l1 m1 _ U3.out).mono ?_
        rintro e w5 ⟨rfl, rfl⟩
        rw [ht.out]
        go_wp2_with fail
        exact bodyPost_ret (v := .tuple #[.agg #[.slice none 0 0, .slice none 0 0], .int .i64 8]) (by simp [results, Try.results23, go_sem, k5, k6]) rfl ⟨_, by rw [he.out], by rw [hr.out]; exact (dsk_empty_new 0 W9).drop, hz⟩

set_option maxRecDepth 100000 in
set_option maxHeartbeats 4000000 in
theorem refWriteT_good (v u : Value) (d : Dk) (s : Int) (t : List UInt8) (w : World) (h : Dsk (Old w) w v d) (hu : rBy (Old w) w [u] t) (hm : mayB d = true) (hs : s = 0 ∨ s = 1) (ht : mayT t = true) :
    Calls Try.prog 23 #[v, .int .i64 s, u] w fun e w' => ∃ x, e = .returned (.tuple #[x, .int .i64 (cwE d s t)]) ∧ Dsk (Old w') w' x (cwR d s t) ∧ Below w.heap.size w w' := by
  obtain ⟨A, c, B, c', rfl, _⟩ := id h.open
  have hl := mayT_len ht
  obtain ⟨E, ce, rfl, l1, m1, hby⟩ := rBy_byt (B := w.heap.size) (fun _ h => h) hu
  obtain ⟨ad, rfl, hadb, _⟩ := hby (by omega)
  rw [hl] at l1 hu ⊢
  have hal : Hid (∀ (W : World), Below w.heap.size w W → rBy (Old W) W [.slice (some ad) 128 ce] (t.take 128) ∧ rBy (Old W) W [.slice (some ⟨ad.block, ad.off + 128, none⟩) 128 (ce - 128)] (t.drop 128)) := Lib.hid fun W hW => by
    have h2 := stab_by.old hu hW
    have h3 := rBy_piece h2 0 128 ce (by omega) (by omega) m1
    have h4 := rBy_piece h2 128 128 (ce - 128) (by omega) (by omega) (by omega)
    rw [List.take_of_length_le (by simp; omega)] at h4
    exact ⟨by simpa [Addr.add] using h3, by simpa [Addr.add] using h4⟩
  obtain ⟨w2, hw2, f1, f2, f3, hsz, hB⟩ := box_two w (.slice A d.1.length c) (.slice B d.2.length c') #[.slice none 0 0, .slice none 0 0] 31
  have H := Lib.hid (h.below hB)
  have U := Lib.hid (hby.below hB)
  have hp : Hid (0 ≤ 2 * s ∧ 2 * s ≤ 2) := Lib.hid (by rcases hs with rfl | rfl <;> omega)
  obtain ⟨e1, e2⟩ := cw_run hm (show sideB s = true by rcases hs with rfl | rfl <;> rfl) ht
  replace hl := Lib.hid hl
  replace hm := Lib.hid hm
  replace ht := Lib.hid ht
  replace hsz := Lib.hid hsz
  replace f3 := Lib.hid f3
  clear h hu hby
  have hq : cwE d s t = if wErr d (4 + 2 * s) (t.take 128) = 0 then wErr (wrR d (4 + 2 * s) (t.take 128)) (5 + 2 * s) (t.drop 128) else wErr d (4 + 2 * s) (t.take 128) := by
    unfold cwE
    rw [hm.out, if_pos rfl, show sideB s = true by rcases hs with rfl | rfl <;> rfl, if_pos rfl, ht.out, if_pos rfl]
  have hQ := Lib.hid hq
  clear e1 e2 hq
  have hside : Hid (s = 0 ∨ s = 1) := Lib.hid hs
  have key : Hid (∀ W, Below w2.heap.size w2 W → True) := Lib.hid fun _ _ => trivial
  clear key
  obtain ⟨p, hpe⟩ : ∃ p, 2 * s = p := ⟨_, rfl⟩
  rw [hpe] at hQ hp
  have hR : Hid (cwR d s t = if cwE d s t = 0 then wrR (wrR d (4 + p) (t.take 128)) (5 + p) (t.drop 128) else emptyD) := Lib.hid (by rw [← hpe]; rfl)
  obtain ⟨q1, hq1⟩ : ∃ q1, wErr d (4 + p) (t.take 128) = q1 := ⟨_, rfl⟩
  obtain ⟨D1, hD1⟩ : ∃ D1, wrR d (4 + p) (t.take 128) = D1 := ⟨_, rfl⟩
  rw [hq1, hD1] at hQ
  rw [hD1] at hR
  have hq1' := Lib.hid hq1
  have hD1' := Lib.hid hD1
  clear hq1 hD1
  have t1 : ((s != 0) && (s != 1)) = false := by rcases hs with rfl | rfl <;> rfl
  go_enter Try.func23, Try.ntmps23
  go_upto_region 1 with fail
  clear hw2
  go_wp2_with fail
  with_reducible refine (may_any _ d _ H.out).mono ?_
  rintro er w3 ⟨rfl, hb3⟩
  have U3 := Lib.hid ((U.out.below (hb3.mono hB.size)).more (Nat.le_trans hB.size hb3.size))
  have H3 := Lib.hid (H.out.below hb3)
  have f4 := (hb3.block (w.heap.size + 1) (by rw [hsz.out]; omega)).trans f3.out
  have g1 := (hb3.cell (p := ⟨w.heap.size, 0, none⟩) (by rw [hsz.out]; simp)).trans f1
  have g2 := (hb3.cell (p := ⟨w.heap.size, 1, none⟩) (by rw [hsz.out]; simp)).trans f2
  have B3 := hB.trans (hb3.mono hB.size)
  have s3 : w.heap.size + 2 ≤ w3.heap.size := by have := hsz.out; have := hb3.size; omega
  replace f4 := Lib.hid f4
  rw [hm.out]
  clear f1 f2 hb3
  go_upto_region 3 with fail
  go_cut [19] from 14 to 18 (fun x19 wx => x19 = .bool false ∧ w3 = wx)
  case first =>
    rcases hs with rfl | rfl
    · go_wp2_with fail
      go_meet
      exact ⟨rfl, rfl⟩
    · go_wp2_with fail
      go_meet
      exact ⟨rfl, rfl⟩
  case rest =>
  obtain ⟨rfl, rfl⟩ := hcut
  clear hs t1
  go_wp2_with fail
  with_reducible refine (refMayT_any (some ad) 256 ce t hl l1 m1 _ U3.out).mono ?_
  rintro e w5 ⟨rfl, rfl⟩
  rw [ht.out]
  have hw1 : Hid (∀ W, Below w3.heap.size w3 W → Calls Try.prog 40 #[.agg #[.slice A d.1.length c, .slice B d.2.length c'], .int .i64 (4 + p), .slice (some ad) 128 ce] W fun e w' => ∃ X xc Y yc, e = .returned (.tuple #[.agg #[.slice X D1.1.length xc, .slice Y D1.2.length yc], .int .i64 q1]) ∧ Dsk (Apart w3 W w') w' (.agg #[.slice X D1.1.length xc, .slice Y D1.2.length yc]) D1 ∧ Below W.heap.size W w') := Lib.hid fun W hW => by
    refine (refWrite_from _ _ d (4 + p) (t.take 128) w3 W hW H3.out (hal.out _ B3).1).mono ?_
    rintro e w' ⟨x, rfl, hx, hb⟩
    rw [hD1'.out] at hx
    rw [hq1'.out]
    obtain ⟨X, xc, Y, yc, rfl, _⟩ := id hx.open
    exact ⟨X, xc, Y, yc, rfl, hx, hb⟩
  have hp1 := hp.out
  go_upto_region 7 with fail
  go_cut [8, 9] from 25 to 34 (fun x8 x9 wx => ∃ g X xc Y yc, x8 = .pointer (some ⟨g, 0, none⟩) ∧ x9 = .int .i64 q1 ∧ Bx wx g X xc Y yc D1 ∧ w3.heap.size ≤ g ∧ Below w3.heap.size w3 wx)
  case first =>
    have ba : Below w3.heap.size w3 (w3.alloc (.cells #[.slice none 0 0, .slice none 0 0] 31)) := (Below.refl _ _).alloc (by simp) _
    have ga1 := (ba.cell (p := ⟨w.heap.size, 0, none⟩) (by show w.heap.size < _; omega)).trans g1
    have ga2 := (ba.cell (p := ⟨w.heap.size, 1, none⟩) (by show w.heap.size < _; omega)).trans g2
    go_region_with (go_at_call 40; refine (hw1.out _ (by first | exact (Below.refl _ _).drew | exact ((Below.refl _ _).drew).alloc (by simp) _)).mono ?_; rintro e6 w6 ⟨X, xc, Y, yc, rfl, hx6, hb6⟩; try (have hz : w6.heap[w3.heap.size]? = some (.cells #[.slice none 0 0, .slice none 0 0] 31 (0, 0)) := (hb6.block w3.heap.size (by simp)).trans (heap_alloc_new w3.drew _); obtain ⟨k1, k2, k3, k4⟩ := two_cells hz; replace hz := Lib.hid hz))
    all_goals
      (go_wp2_with fail
       go_meet
       first
         | exact ⟨_, X, xc, Y, yc, rfl, rfl, ⟨heap_alloc_new _ _, (dsk_apart hx6 hb6.size).below ((Below.refl _ w6).alloc (Nat.le_refl _) _)⟩, hb6.size, (((Below.refl _ _).drew).trans hb6).alloc hb6.size _⟩
         | exact (by
             obtain ⟨W9, hW9, g9, gr9, gs9⟩ := put_two (u := .slice X D1.1.length xc) (v := .slice Y D1.2.length yc) hz.out
             rw [hW9]
             exact ⟨_, X, xc, Y, yc, rfl, rfl, ⟨g9, dsk_apart_put hx6 (by simp) (Nat.le_trans (by simp) hb6.size) gr9⟩, Nat.le_refl _, ((((Below.refl _ _).drew).alloc (by simp) _).trans (hb6.mono (by simp))).grown gr9 (Nat.le_trans (by simp) hb6.size) (fun k e => by cases e; exact Nat.le_refl _)⟩))
  case rest =>
  obtain ⟨g, X, xc, Y, yc, rfl, rfl, hbx, hg3, hbc⟩ := hcut
  obtain ⟨w6, rfl⟩ : ∃ w6 : World, w6 = wc := ⟨_, rfl⟩
  obtain ⟨z1, z2, _, ltg⟩ := hbx.cells
  have hd6 := Lib.hid hbx.dsk
  have f6 := (hbc.block (w.heap.size + 1) (by omega)).trans f4.out
  have B6 := Lib.hid (B3.trans (hbc.mono B3.size))
  have s6 : w.heap.size + 2 ≤ w6.heap.size := by have := hbc.size; omega
  clear g1 g2 hbx hbc H3 U3 H U hg3 hw1 hp1 s3
  by_cases h0 : q1 = 0
  · subst h0
    have hQ2 : Hid (cwE d s t = wErr D1 (5 + p) (t.drop 128)) := Lib.hid (by rw [hQ.out, if_pos rfl])
    have hR2 : Hid (cwR d s t = wrR D1 (5 + p) (t.drop 128)) := Lib.hid (by
      rw [hR.out, hQ2.out]
      by_cases h2 : wErr D1 (5 + p) (t.drop 128) = 0
      · rw [if_pos h2]
      · rw [if_neg h2, wrR, if_neg h2])
    obtain ⟨q2, hq2⟩ : ∃ q2, wErr D1 (5 + p) (t.drop 128) = q2 := ⟨_, rfl⟩
    obtain ⟨D2, hD2⟩ : ∃ D2, wrR D1 (5 + p) (t.drop 128) = D2 := ⟨_, rfl⟩
    rw [hq2] at hQ2
    rw [hD2] at hR2
    have hw2 : Hid (∀ W, Below w6.heap.size w6 W → Calls Try.prog 40 #[.agg #[.slice X D1.1.length xc, .slice Y D1.2.length yc], .int .i64 (5 + p), .slice (some ⟨ad.block, ad.off + 128, none⟩) 128 (ce - 128)] W fun e w' => ∃ x, e = .returned (.tuple #[x, .int .i64 q2]) ∧ Dsk (Old w') w' x D2 ∧ Below W.heap.size W w') := Lib.hid fun W hW => by
      refine (refWrite_any _ _ D1 (5 + p) (t.drop 128) W (hd6.out.below hW) (hal.out _ (B6.out.trans (hW.mono B6.out.size))).2).mono ?_
      rintro e w' ⟨x, rfl, hx, hb⟩
      rw [hD2] at hx
      rw [hq2]
      exact ⟨x, rfl, hx, hb⟩
    have hful := full_wr D1 (5 + p) (t.drop 128)
    rw [hD2] at hful
    replace hful := Lib.hid hful
    replace hq2 := Lib.hid hq2
    replace hD2 := Lib.hid hD2
    have hp1 := hp.out
    have hce : ¬ ce = 128 := by omega
    have hwp : IntKind.i64.wrap p = p := IntWalk.i64_in _ (by omega)
    have hw5 : IntKind.i64.wrap (5 + p) = 5 + p := IntWalk.i64_in _ (by omega)
    go_upto_region 10 with fail
    refine wp_region_tails (by kernel_rfl) 9 (fun W => Below w6.heap.size w6 W) (fun i => match i with
        | 6 => some (fun v W => ∃ x, v = .tuple #[x, .int .i64 q2] ∧ Dsk (Old W) W x D2)
        | 7 => some (fun v W => Dsk (Old W) W v D2)
        | _ => none) (fun i => match i with
        | 8 => some (.int .i64 q2)
        | _ => none) (by decide) (by kernel_rfl) (by kernel_rfl) (Below.refl _ _).drew (fun w w' h hb => h.trans (hb.mono h.size)) ?tst ?_
    case tst =>
      intro j φ x W W' hp hx hb
      match j, hp with
      | 6, hp =>
        cases hp
        obtain ⟨y, e, hy⟩ := hx
        exact ⟨y, e, hy.below hb⟩
      | 7, hp => cases hp; exact hx.below hb
    simp only [List.take_succ_cons, List.take_zero, List.drop_succ_cons, List.drop_zero]
    repeat (first
      | (refine wpAs_skip rfl ?_; simp only [Act.put, List.setIfInBounds_toArray, List.set_cons_zero, List.set_cons_succ])
      | (refine wpAs_pure (v := ?_) rfl rfl ?_ ?_; rotate_left; (intro W hC hE; clear hE; (have q1 := (hC.cell (p := ⟨g, 0, none⟩) ltg).trans z1; have q2 := (hC.cell (p := ⟨g, 1, none⟩) ltg).trans z2); clear hC; go_simp; done); simp only [Act.put, List.setIfInBounds_toArray, List.set_cons_zero, List.set_cons_succ])
      | (refine wpAs_pure (v := ?_) rfl rfl ?_ ?_; rotate_left; (intro W hC hE; clear hE; (have q1 := (hC.cell (p := ⟨g, 0, none⟩) ltg).trans z1; have q2 := (hC.cell (p := ⟨g, 1, none⟩) ltg).trans z2); clear hC; go_simp; with_reducible rfl); simp only [Act.put, List.setIfInBounds_toArray, List.set_cons_zero, List.set_cons_succ]))
    refine wpAs_act rfl rfl ?_ ?_
    · intro W hC hE
      clear hE
      refine does_enter (f := 40) (args := #[.agg #[.slice X D1.1.length xc, .slice Y D1.2.length yc], .int .i64 (5 + p), .slice (some ⟨ad.block, ad.off + 128, none⟩) 128 (ce - 128)]) ?_ ?_
      · go_simp
      · refine (hw2.out W hC).mono ?_
        rintro e W' ⟨x, rfl, hx, hb⟩
        exact ⟨_, rfl, ⟨x, rfl, hx⟩, hb⟩
    simp only [Act.put, List.setIfInBounds_toArray, List.set_cons_zero, List.set_cons_succ, envAdd]
    intro x45
    refine wpAs_act rfl rfl ?_ ?_
    · intro W hC hE
      obtain ⟨x, rfl, hx⟩ := hE.1 rfl
      clear hE hC
      replace hx := Lib.hid hx
      go_simp
      exact ⟨hx.out, Below.refl _ _⟩
    simp only [Act.put, List.setIfInBounds_toArray, List.set_cons_zero, List.set_cons_succ, envAdd]
    intro x46
    refine wpAs_fixed rfl rfl rfl ?_ ?_
    · intro W hC hE
      obtain ⟨x, rfl, hx⟩ := hE.2.1 rfl
      clear hE hC hx
      go_simp
      exact ⟨rfl, Below.refl _ _⟩
    simp only [Act.put, List.setIfInBounds_toArray, List.set_cons_zero, List.set_cons_succ]
    refine wpAs_end fun W hC hE => ?_
    have hx := hE.1
    obtain ⟨X2, xc2, Y2, yc2, rfl, _⟩ := id hx.open
    have bW := (hC.block (w.heap.size + 1) (by omega)).trans f6
    obtain ⟨c1, c2, c3, _⟩ := two_cells bW
    obtain ⟨W9, hW9, g9, gr9, gs9⟩ := put_two (u := .slice X2 D2.1.length xc2) (v := .slice Y2 D2.2.length yc2) bW
    obtain ⟨k5, k6, _, _⟩ := two_cells g9
    have BW := B6.out.trans (hC.mono B6.out.size)
    have hfin : Hid (Dsk (Old W9) W9 (.agg #[.slice X2 D2.1.length xc2, .slice Y2 D2.2.length yc2]) (cwR d s t) ∧ Below w.heap.size w W9) := Lib.hid ⟨by
      rw [hR2.out]
      exact dsk_put_zero hx hful.out bW gr9, BW.grown gr9 BW.size (fun q e => by cases e; omega)⟩
    replace g9 := Lib.hid g9
    replace bW := Lib.hid bW
    clear hE hx gr9 BW hC
    go_wp2_with fail
    exact bodyPost_ret (v := .tuple #[.agg #[.slice X2 D2.1.length xc2, .slice Y2 D2.2.length yc2], .int .i64 q2]) (by simp [results, Try.results23, go_sem, k5, k6]) rfl ⟨_, by rw [hQ2.out], hfin.out.1, hfin.out.2⟩
  · have hQ2 : Hid (cwE d s t = q1) := Lib.hid (by rw [hQ.out, if_neg h0])
    have hR2 : Hid (cwR d s t = emptyD) := Lib.hid (by rw [hR.out, hQ2.out, if_neg h0])
    have hq0 : (q1 != 0) = true := by simpa using h0
    obtain ⟨c1, c2, c3, _⟩ := two_cells f6
    obtain ⟨W9, hW9, g9, gr9, gs9⟩ := put_two (u := .slice none 0 0) (v := .slice none 0 0) f6
    obtain ⟨k5, k6, _, _⟩ := two_cells g9
    have hB9 := Lib.hid (B6.out.grown gr9 B6.out.size (fun q e => by cases e; omega))
    replace f6 := Lib.hid f6
    replace g9 := Lib.hid g9
    clear h0 gr9
    go_wp2_with fail
    exact bodyPost_ret (v := .tuple #[.agg #[.slice none 0 0, .slice none 0 0], .int .i64 q1]) (by simp [results, Try.results23, go_sem, k5, k6]) rfl ⟨_, by rw [hQ2.out], by rw [hR2.out]; exact dsk_empty_any _ _, hB9.out⟩

theorem refWriteT_any (v u : Value) (d : Dk) (s : Int) (t : List UInt8) (w : World) (h : Dsk (Old w) w v d) (hu : rBy (Old w) w [u] t) :
    Calls Try.prog 23 #[v, .int .i64 s, u] w fun e w' => ∃ x, e = .returned (.tuple #[x, .int .i64 (cwE d s t)]) ∧ Dsk (Old w') w' x (cwR d s t) ∧ Below w.heap.size w w' := by
  by_cases hg : mayB d = true ∧ sideB s = true ∧ mayT t = true
  · exact refWriteT_good v u d s t w h hu hg.1 (side_ways hg.2.1) hg.2.2
  · exact refWriteT_bad v u d s t w h hu hg
end Go.Proofs.Ytkklkhnoljmgbaa
