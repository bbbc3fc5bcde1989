/-
  The document's answers of layer 3: Kept. Conditions: those that each lemma states.
-/
import Derived.Test.YtgnogclhleheiaaRefSettled
import Derived.Test.YtgnogclhleheiaaDevCrash
import Derived.Test.YtgnogclhleheiaaLast
namespace Go.Proofs.Ytgnogclhleheiaa
open Go.RowKit

theorem apart_put2 {w0 w w1 w4 W9 : World} {x : Value} {d : Dk} {g : Nat} (hx : Dsk (Apart w0 w w4) w4 x d) (gr : w4.grownBy W9 (some g)) (h0 : w0.heap.size ≤ g) (h1 : g < w.heap.size) (h2 : w.heap.size ≤ w4.heap.size) (h3 : W9.heap.size = w4.heap.size) (h4 : w1.heap.size ≤ w.heap.size) : Dsk (Apart w0 w1 W9) W9 x d :=
  hx.map fun p v hp hc => by
    have hlt : p.block < w4.heap.size := hp.elim (fun hp => by omega) (fun hp => hp.2)
    have hs : W9.heap[p.block]? = w4.heap[p.block]? := gr.block _ hlt (fun e => by simp only [Option.some.injEq] at e; rcases hp with hp | hp <;> omega)
    exact ⟨hp.elim .inl (fun hp => .inr ⟨by omega, by omega⟩), (World.cell?_of_block hs).trans hc⟩

set_option maxRecDepth 100000 in
set_option maxHeartbeats 4000000 in
theorem refKept_in (v u : Value) (d : Dk) (ks : List Bool) (w0 w : World) (hW : Below w0.heap.size w0 w) (h : Dsk (Old w0) w0 v d) (hu : rSl 1 rBool (Old w0) w0 [u] ks) (hm : mayB d = true) (hl : ks.length = d.2.length) :
    Calls Try.prog 58 #[v, u] w fun e w' => ∃ x, e = .returned x ∧ Dsk (Apart w0 w w') w' x (settledD (keptD d ks)) ∧ Below w.heap.size w w' := by
  obtain ⟨i0, hi, hz0, hz1, hz2⟩ := info_parts wts_info0
  obtain ⟨_, hl2, _, _⟩ := may_of hm
  have hmk := Lib.hid (may_kept (ks := ks) hm)
  obtain ⟨A, c, B, c', rfl, l1, m1, l2, m2, hA, hB⟩ := h.open
  obtain ⟨K, kc, rfl, l3, m3, hK⟩ := bools_open hu
  have HA := Lib.hid hA
  have HB := Lib.hid hB
  have HK := Lib.hid hK
  clear hA hB hK h hu hm
  obtain ⟨m, hm⟩ : ∃ m, d.2.length = m := ⟨_, rfl⟩
  obtain ⟨n, hn⟩ : ∃ n, d.1.length = n := ⟨_, rfl⟩
  rw [hm] at l2 hl2 hl ⊢
  rw [hn] at l1 ⊢
  rw [hl] at l3 ⊢
  replace hl := Lib.hid hl
  replace hm := Lib.hid hm
  replace hn := Lib.hid hn
  obtain ⟨w2, hw2, f1, f2, f3, hsz, hB2⟩ := box_two w (.slice A n c) (.slice B m c') #[.slice none 0 0, .slice none 0 0] 25
  obtain ⟨w3, hw3, g3, hs3, hB3⟩ := box_pair' w2 (.slice A n c) (.slice none 0 0) 25
  have hW2 := hW.trans (hB2.mono hW.size)
  have hW0 : w0.heap.size ≤ w.heap.size := hW.size
  have f4 := (hB3.cell (p := ⟨w.heap.size, 0, none⟩) (show w.heap.size < w2.heap.size by omega)).trans f1
  obtain ⟨x4, x5, _, _⟩ := two_cells g3
  have S5 : Hid (w.heap.size + 2 = w2.heap.size ∧ w2.heap.size + 1 = w3.heap.size ∧ w0.heap.size ≤ w.heap.size) := Lib.hid ⟨by omega, by omega, hW0⟩
  replace hsz := Lib.hid hsz
  replace hs3 := Lib.hid hs3
  replace g3 := Lib.hid g3
  replace f3 := Lib.hid f3
  replace hw3 := Lib.hid hw3
  have hW2' := Lib.hid hW2
  have hB2' := Lib.hid hB2
  clear hW hW2 hW0 hB2
  go_enter Try.func58, Try.ntmps58
  go_upto_region 2 with fail
  rw [hw3.out]
  clear hw3 hw2
  go_wp2_with fail
  go_loopw [6] (fun i wr => ∃ j : Nat, j ≤ m ∧ i = .int .i64 j ∧ Below w2.heap.size w2 wr ∧ ∃ (A1 : Option Addr) (c1 : Nat) (qs : List (Int × Value)), wr.heap[w2.heap.size]? = some (.cells #[.slice A n c, .slice A1 (markedW (d.2.take j) (ks.take j)).length c1] 25 (0, 0)) ∧
      wr.ownsRow w3.heap.size 78 2 (.slice A1 (markedW (d.2.take j) (ks.take j)).length c1) (markedW (d.2.take j) (ks.take j)).length (wcells qs) ∧
      ∀ (i : Nat) (p : Int × Value) (x : Wt), qs[i]? = some p → (markedW (d.2.take j) (ks.take j))[i]? = some x → p.1 = x.1 ∧ rBy (Old w0) w0 [p.2] x.2) (fun i _ => m - (intOf i).toNat)
  case atStart => exact ⟨0, by omega, rfl, hB3, none, 0, [], g3.out, World.ownsRow_nil _ _ _ _, fun i p x h => by simp at h⟩
  case round =>
    obtain ⟨j, hj, rfl, hb, A1, c1, qs, hz, hus, hq⟩ := hrel
    obtain ⟨M, hM⟩ : ∃ M, markedW (d.2.take j) (ks.take j) = M := ⟨_, rfl⟩
    rw [hM] at hz hus hq
    have hMl : M.length ≤ j := by
      have h1 := markedW_length (d.2.take j) (ks.take j)
      have h2 : (d.2.take j).length ≤ j := List.length_take_le _ _
      rw [hM] at h1
      omega
    replace hM := Lib.hid hM
    replace hq := Lib.hid hq
    have r1 := (hb.cell (p := ⟨w.heap.size, 1, none⟩) (show w.heap.size < w2.heap.size by have := S5.out; omega)).trans f2
    obtain ⟨r2, r3, r4, r5⟩ := two_cells hz
    by_cases hlt : j < m
    · obtain ⟨x, hxj⟩ : ∃ x, d.2[j]? = some x := ⟨_, List.getElem?_eq_getElem (by rw [hm.out]; exact hlt)⟩
      obtain ⟨y, hyj⟩ : ∃ y, ks[j]? = some y := ⟨_, List.getElem?_eq_getElem (by rw [hl.out]; exact hlt)⟩
      have hmt := markedW_take (show d.2.length = ks.length by rw [hm.out, hl.out]) hxj hyj
      rw [hM.out] at hmt
      replace hmt := Lib.hid hmt
      obtain ⟨bd, u, rfl, hok, hok', hc, hc', hby, b1, b2⟩ := HB.out j x hxj
      obtain ⟨kd, rfl, hok3, hc3⟩ := HK.out j y hyj
      have hc0 := (hb.cell (p := bd.add (j * 2)) (Nat.lt_of_lt_of_le hok hW2'.out.size)).trans ((hW2'.out.cell hok).trans hc)
      have hc1 := (hb.cell (p := bd.add (j * 2 + 1)) (Nat.lt_of_lt_of_le hok' hW2'.out.size)).trans ((hW2'.out.cell hok').trans hc')
      have hc2 := (hb.cell (p := kd.add j) (Nat.lt_of_lt_of_le hok3 hW2'.out.size)).trans ((hW2'.out.cell hok3).trans hc3)
      rw [add_next] at hc1
      obtain ⟨E, ce, rfl, _⟩ := id (rBy_open hby)
      replace hby := Lib.hid hby
      replace hxj := Lib.hid hxj
      replace hyj := Lib.hid hyj
      have e3 : (j : Int) < (m : Int) := by omega
      obtain ⟨q, hq'⟩ : ∃ q, x.2.length = q := ⟨_, rfl⟩
      rw [hq'] at hc1 hby
      replace hq' := Lib.hid hq'
      have hb' := Lib.hid hb
      have hus' := Lib.hid hus
      have hz' := Lib.hid hz
      have t0 := World.block_lt_of_cell? _ _ r1
      have t2 := World.block_lt_of_cell? _ _ hc0
      have t3 := World.block_lt_of_cell? _ _ hc1
      clear hc hc' hc3 hb hus hz
      cases y with
      | false =>
        go_wp2_with fail
        go_roundw
        case rel =>
          have e : markedW (d.2.take (j + 1)) (ks.take (j + 1)) = M := by simpa using hmt.out
          exact ⟨j + 1, by omega, by go_num, hb'.out, A1, c1, qs, by rw [e]; exact hz'.out, by rw [e]; exact hus'.out, fun i p x h1 h2 => hq.out i p x h1 (by rw [← e]; exact h2)⟩
        case measure => simp [intOf]; omega
      | true =>
        go_upto_region 6 with fail
        refine wp_region_tails (by kernel_rfl) 8 (fun W => Below wr.heap.size wr W) (fun i => match i with
            | 7 => some (fun v W => ∃ g, v = .slice (some ⟨g, 0, none⟩) 1 1 ∧ wr.heap.size ≤ g ∧ W.heap[g]? = some (.cells #[.int .i64 x.1, .slice E q ce] 78 (0, 0)))
            | _ => none) (fun _ => none) (by decide) (by kernel_rfl) (by kernel_rfl) (Below.refl _ _).drew (fun w w' h hb => h.trans (hb.mono h.size)) ?tst ?_
        case tst =>
          intro j φ x W W' hp hx hb
          match j, hp with
          | 7, hp =>
            cases hp
            obtain ⟨g, e1, e2, e3⟩ := hx
            exact ⟨g, e1, e2, (hb.block g (Array.getElem?_eq_some_iff.1 e3).1).trans e3⟩
        simp only [List.take_succ_cons, List.take_zero, List.drop_succ_cons, List.drop_zero]
        repeat (first
          | (refine wpAs_skip rfl ?_; simp only [Act.put, List.setIfInBounds_toArray, List.set_cons_zero, List.set_cons_succ])
          | (refine wpAs_pure (v := ?_) rfl rfl ?_ ?_; rotate_left; (intro W hC hE; clear hE; (have z1 := (hC.cell t0).trans r1; have z2 := (hC.cell (p := ⟨w2.heap.size, 1, none⟩) r5).trans r3; have z3 := (hC.cell t2).trans hc0; have z4 := (hC.cell t3).trans hc1); clear hC; go_simp; done); simp only [Act.put, List.setIfInBounds_toArray, List.set_cons_zero, List.set_cons_succ])
          | (refine wpAs_pure (v := ?_) rfl rfl ?_ ?_; rotate_left; (intro W hC hE; clear hE; (have z1 := (hC.cell t0).trans r1; have z2 := (hC.cell (p := ⟨w2.heap.size, 1, none⟩) r5).trans r3; have z3 := (hC.cell t2).trans hc0; have z4 := (hC.cell t3).trans hc1); clear hC; go_simp; with_reducible rfl); simp only [Act.put, List.setIfInBounds_toArray, List.set_cons_zero, List.set_cons_succ]))
        refine wpAs_act rfl rfl ?_ ?_
        · intro W hC hE
          clear hE
          have hsw := hC.size
          clear hC
          go_simp
          exact ⟨⟨W.heap.size, rfl, hsw, heap_alloc_new _ _⟩, (Below.refl _ _).alloc (Nat.le_refl _) _⟩
        simp only [Act.put, List.setIfInBounds_toArray, List.set_cons_zero, List.set_cons_succ, envAdd]
        intro x28
        refine wpAs_end fun W hC hE => ?_
        obtain ⟨⟨g, rfl, hg, hg3⟩, _⟩ := hE
        have hus6 := own_below hus'.out hC
        have S := S5.out
        have hw3s : w3.heap.size ≤ wr.heap.size := by omega
        obtain ⟨v2, w7, hr2, own7, gr7, ba2⟩ := app_any (P := Try.prog) (w := W) w3.heap.size 23 23 78 i0 (.agg #[.int .i64 0, .slice none 0 0]) 2 32 Try.underlying23 hi hz0 hz1 hz2 rfl (by decide) (.slice A1 M.length c1) M.length (wcells qs) hus6 (some ⟨g, 0, none⟩) 1 1 [.int .i64 x.1, .slice E q ce] rfl
          (fun j u hj => ⟨_, rfl, World.news_of_block (cs := #[.int .i64 x.1, .slice E q ce]) hg3 j u hj⟩) (fun u hu => by
            simp at hu
            rcases hu with rfl | rfl <;> rfl) (by unfold maxLen; omega) (by omega) (Nat.le_trans hw3s hC.size)
        obtain ⟨A2, c2, rfl, q1, q2, _, _⟩ := own_any own7
        have g7 := (ba2.block w2.heap.size (by omega)).trans ((hC.block w2.heap.size r5).trans hz'.out)
        obtain ⟨w8, hw8, g8, gr8, gs8⟩ := put_snd (u := .slice A2 (M.length + 1) c2) g7
        have own8 := own7.kept gr8 (.inr (fun e => by have := (own7.lt _ e).1; omega))
        have hb7 : Below w2.heap.size w2 w7 := (hb'.out.trans (hC.mono hb'.out.size)).trans (ba2.mono (by omega))
        have hb8 := Lib.hid (hb7.grown gr8 hb7.size (fun q e => by cases e; omega))
        have z2 := (hC.cell (p := ⟨w2.heap.size, 1, none⟩) r5).trans r3
        obtain ⟨y1, y2, y3, y4⟩ := two_cells g7
        have H2 := Lib.hid hr2
        replace g8 := Lib.hid g8
        replace own8 := Lib.hid own8
        replace hg3 := Lib.hid hg3
        replace g7 := Lib.hid g7
        clear hr2 own7 gr7 gr8 ba2 hb7 hus6 hC gs8
        go_wp2_with (at_builtin; refine wpList_append_run rfl _ _ _ rfl rfl rfl H2.out ?_; clear H2)
        go_roundw
        case rel =>
          have e : markedW (d.2.take (j + 1)) (ks.take (j + 1)) = M ++ [x] := by simpa using hmt.out
          have e1 : wcells qs ++ [.int .i64 x.1, .slice E q ce] = wcells (qs ++ [(x.1, .slice E q ce)]) := by rw [wcells_append]; rfl
          refine ⟨j + 1, by omega, by go_num, hb8.out, A2, c2, qs ++ [(x.1, .slice E q ce)], by rw [e, List.length_append]; exact g8.out, by rw [e, List.length_append, ← e1]; exact own8.out, fun i p z h1 h2 => ?_⟩
          rw [e] at h2
          have hql : qs.length = M.length := by have := hus'.out.1; rw [wcells_length] at this; omega
          rcases Nat.lt_or_ge i qs.length with hi | hi
          · rw [List.getElem?_append_left hi] at h1
            rw [List.getElem?_append_left (by omega)] at h2
            exact hq.out i p z h1 h2
          · rw [List.getElem?_append_right hi] at h1
            rw [List.getElem?_append_right (by omega)] at h2
            have hj0 : i - qs.length = 0 := by
              have := (List.getElem?_eq_some_iff.1 h1).1
              simp at this
              omega
            rw [hj0] at h1
            rw [← hql, hj0] at h2
            simp at h1 h2
            subst h1
            subst h2
            exact ⟨rfl, hby.out⟩
        case measure => simp [intOf]; omega
    · have e1 : d.2.take j = d.2 := List.take_of_length_le (by rw [hm.out]; omega)
      have e2 : ks.take j = ks := List.take_of_length_le (by rw [hl.out]; omega)
      have hM2 := hM.out
      rw [e1, e2] at hM2
      have S := S5.out
      have key := refSettled_at (keptD d ks) A c A1 c1 w0 wr (hW2'.out.trans (hb.mono hW2'.out.size)) (by show d.1.length ≤ c; rw [hn.out]; exact l1) m1 (by show (markedW d.2 ks).length ≤ c1; rw [hM2]; obtain ⟨_, _, e, o1, o2, _, _⟩ := own_any hus; cases e; exact o1) (by obtain ⟨_, _, e, o1, o2, _, _⟩ := own_any hus; cases e; exact o2)
        (fun i x hx => by
          obtain ⟨ad, v, e, ho, hc, hby⟩ := HA.out i x hx
          exact ⟨ad, v, e, Nat.lt_of_lt_of_le ho (Nat.le_trans hW2'.out.size hb.size), (hb.cell (p := ad.add i) (Nat.lt_of_lt_of_le ho hW2'.out.size)).trans ((hW2'.out.cell ho).trans hc), hby⟩)
        (fun i x hx => by
          have hx' : M[i]? = some x := by rw [← hM2]; exact hx
          have hil := (List.getElem?_eq_some_iff.1 hx').1
          have hql : qs.length = M.length := by have := hus.1; rw [wcells_length] at this; omega
          obtain ⟨_, _, e, _, _, _, oA⟩ := own_any hus
          cases e
          obtain ⟨ad, rfl⟩ := oA (by omega)
          obtain ⟨ob1, ob2, _, _⟩ := own_block hus
          have hp : qs[i]? = some (qs[i]'(by omega)) := List.getElem?_eq_getElem _
          obtain ⟨w1, w2'⟩ := wcells_get hp
          obtain ⟨h1, h2⟩ := hq.out i _ x hp hx'
          rw [h1] at w1
          exact ⟨ad, _, rfl, by unfold Old; rw [add_block]; exact ob2, by unfold Old; rw [add_block]; exact ob2, own_at hus w1, own_at hus w2', h2⟩) hmk.out
      change Calls _ _ #[.agg #[.slice A d.1.length c, .slice A1 (markedW d.2 ks).length c1]] _ _ at key
      rw [hn.out, hM2] at key
      have hbz := (hb.block (w.heap.size + 1) (by omega)).trans f3.out
      replace key := Lib.hid key
      have hb' := Lib.hid hb
      clear hus hz hb
      go_wp2_with fail
      with_reducible refine key.out.mono ?_
      rintro es w4 ⟨x, rfl, hx, hb4⟩
      obtain ⟨A4, c4, B4, d4, rfl, _⟩ := id hx.open
      have hbz2 := (hb4.block (w.heap.size + 1) (by have := hb'.out.size; omega)).trans hbz
      obtain ⟨k1, k2, k3, k4⟩ := two_cells hbz2
      obtain ⟨W9, hW9, g9, gr9, gs9⟩ := put_two (u := .slice A4 (settledD (keptD d ks)).1.length c4) (v := .slice B4 (settledD (keptD d ks)).2.length d4) hbz2
      obtain ⟨k5, k6, _, _⟩ := two_cells g9
      have Br : Below w.heap.size w wr := hB2'.out.trans (hb'.out.mono hB2'.out.size)
      have Br4 := Br.trans (hb4.mono Br.size)
      have B9 := Lib.hid (Br4.grown gr9 Br4.size (fun q e => by cases e; omega))
      have hfin := Lib.hid (apart_put2 (w1 := w) hx gr9 (by omega) (by have := hb'.out.size; omega) hb4.size gs9 Br.size)
      replace g9 := Lib.hid g9
      replace hbz := Lib.hid hbz
      replace hbz2 := Lib.hid hbz2
      clear hx gr9 Br Br4 gs9
      go_wp2_with fail
      exact bodyPost_ret (v := .agg #[.slice A4 (settledD (keptD d ks)).1.length c4, .slice B4 (settledD (keptD d ks)).2.length d4]) (by simp [results, Try.results58, go_sem, k5, k6]) rfl ⟨_, rfl, hfin.out, B9.out⟩
end Go.Proofs.Ytgnogclhleheiaa
