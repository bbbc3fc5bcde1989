/-
  The document's answers of layer 3: New, Twin. Conditions: those that each lemma states.
-/
import Derived.Test.YtgnogclhleheiaaPush
import Derived.Test.YtgnogclhleheiaaDevNew
import Derived.Test.YtgnogclhleheiaaGreat
namespace Go.Proofs.Ytgnogclhleheiaa
open Go.RowKit

theorem rows_push {w : World} {lo : Nat} {A : Option Addr} {c : Nat} {xss : List (List UInt8)} (h : RowOf rBy 1 26 lo w A c xss) (g : Nat) (u : Value) (m : Nat) (x : List UInt8) (hg : w.heap[g]? = some (.cells #[u] 26 (0, 0))) (hs : xss.length < 100000) (hbase : lo ≤ w.heap.size) (hx : rBy (NewBut lo A w) w [u] x) :
    ∃ A' c' w', (Builtin.append_ #[22, 22] 22 #[.slice A xss.length c, .slice (some ⟨g, 0, none⟩) 1 m]).run Try.prog w = .ok (.slice A' (xss.length + 1) c') w' ∧ RowOf rBy 1 26 lo w' A' c' (xss ++ [x]) ∧ w.grownBy w' (A.map (·.block)) ∧ Below lo w w' := by
  obtain ⟨i0, hi, hz0, hz1, hz2⟩ := info_parts rows_info0
  obtain ⟨E, ce, rfl, _⟩ := id (rBy_open hx)
  exact RowOf.push stab_by h 22 22 i0 (.slice none 0 0) 24 Try.underlying22 hi hz0 hz1 hz2 rfl (by decide) ⟨g, 0, none⟩ m _ x rfl (World.news_of_block (cs := #[.slice E x.length ce]) hg) (fun u hu => by
    simp at hu
    subst hu
    rfl) (by unfold maxLen; omega) (by omega) hbase hx

set_option maxRecDepth 100000 in
set_option maxHeartbeats 4000000 in
theorem refNew_any (w : World) : Calls Try.prog 26 #[] w fun e w' => ∃ u, e = .returned u ∧ Dsk (New w.heap.size w') w' u zeroD ∧ Below w.heap.size w w' := by
  obtain ⟨w1, hw1, g1, hs1, hB1⟩ := box_pair' w (.slice none 0 0) (.slice none 0 0) 25
  obtain ⟨w2, hw2, g2, hs2, hB2⟩ := box_pair' w1 (.slice none 0 0) (.slice none 0 0) 25
  have hB02 := hB1.trans (hB2.mono hB1.size)
  have g1' := (hB2.block w.heap.size (by omega)).trans g1
  replace hs1 := Lib.hid hs1
  replace hs2 := Lib.hid hs2
  replace g1 := Lib.hid g1
  replace g1' := Lib.hid g1'
  replace g2 := Lib.hid g2
  replace hw2 := Lib.hid hw2
  go_enter Try.func26, Try.ntmps26
  go_upto_region 2 with fail
  rw [hw2.out]
  clear hw2 hw1
  go_wp2_with fail
  go_loopw [2] (fun i wr => ∃ k : Nat, k ≤ 256 ∧ i = .int .i64 k ∧ Below w1.heap.size w1 wr ∧ ∃ (A1 : Option Addr) (c1 : Nat), wr.heap[w1.heap.size]? = some (.cells #[.slice A1 k c1, .slice none 0 0] 25 (0, 0)) ∧
      RowOf rBy 1 26 w2.heap.size wr A1 c1 (List.replicate k (zeros 128))) (fun i _ => 256 - (intOf i).toNat)
  case atStart => exact ⟨0, by omega, rfl, hB2, none, 0, g2.out, RowOf.nil _ _ _ _ _⟩
  case round =>
    obtain ⟨k, hk, rfl, hb, A1, c1, hz, hrow⟩ := hrel
    obtain ⟨r2, r3, r4, r5⟩ := two_cells hz
    replace hrow := Lib.hid hrow
    by_cases hlt : k < 256
    · have hz' := Lib.hid hz
      have hb' := Lib.hid hb
      clear hz hb
      go_wp2_with fail
      refine wp_region_tails (by kernel_rfl) 4 (fun W => Below wr.heap.size wr W) (fun i => match i with
          | 2 => some (fun v W => rBy (New wr.heap.size W) W [v] (zeros 128))
          | 3 => some (fun v W => ∃ g, v = .slice (some ⟨g, 0, none⟩) 1 1 ∧ wr.heap.size ≤ g ∧ ∃ u, W.heap[g]? = some (.cells #[u] 26 (0, 0)) ∧ rBy (New wr.heap.size W) W [u] (zeros 128))
          | _ => none) (fun _ => none) (by decide) (by kernel_rfl) (by kernel_rfl) (Below.refl _ _).drew (fun w w' h hb => h.trans (hb.mono h.size)) ?tst ?_
      case tst =>
        intro j φ x W W' hp hx hb
        match j, hp with
        | 2, hp => cases hp; exact stab_by.new hx (Nat.le_refl _) hb
        | 3, hp =>
          cases hp
          obtain ⟨g, e1, e2, u, e3, e4⟩ := hx
          exact ⟨g, e1, e2, u, (hb.block g (Array.getElem?_eq_some_iff.1 e3).1).trans e3, stab_by.new e4 (Nat.le_refl _) hb⟩
      simp only [List.take_succ_cons, List.take_zero, List.drop_succ_cons, List.drop_zero]
      repeat (first
        | (refine wpAs_skip rfl ?_; simp only [Act.put, List.setIfInBounds_toArray, List.set_cons_zero, List.set_cons_succ])
        | (refine wpAs_pure (v := ?_) rfl rfl ?_ ?_; rotate_left; (intro W hC hE; clear hE; (have z2 := (hC.cell (p := ⟨w1.heap.size, 0, none⟩) r5).trans r2); clear hC; go_simp; done); simp only [Act.put, List.setIfInBounds_toArray, List.set_cons_zero, List.set_cons_succ])
        | (refine wpAs_pure (v := ?_) rfl rfl ?_ ?_; rotate_left; (intro W hC hE; clear hE; (have z2 := (hC.cell (p := ⟨w1.heap.size, 0, none⟩) r5).trans r2); clear hC; go_simp; with_reducible rfl); simp only [Act.put, List.setIfInBounds_toArray, List.set_cons_zero, List.set_cons_succ]))
      refine wpAs_act rfl rfl ?_ ?_
      · intro W hC hE
        clear hE
        have hmk2 : (Instr.makeSlice 26 (.int .i64 128) (.int .i64 128)).run Try.prog W = .ok (.slice (some ⟨W.heap.size, 0, none⟩) 128 128) (W.alloc (.cells (rowA (zeros 128)) 5)) := make_bytes 128 (by omega) W
        have hzb := row_by W (zeros 128) (by simp [zeros])
        rw [zeros_length] at hzb
        have hzb' := Lib.hid (stab_by.mono hzb hC.size)
        have hBr := balloc (Below.refl W.heap.size W) (.cells (rowA (zeros 128)) 5)
        clear hC hzb
        go_simp
        exact ⟨hzb'.out, hBr⟩
      simp only [Act.put, List.setIfInBounds_toArray, List.set_cons_zero, List.set_cons_succ, envAdd]
      intro x9
      refine wpAs_act rfl rfl ?_ ?_
      · intro W hC hE
        have h9 := hE.1 rfl
        obtain ⟨E, ce, rfl, _⟩ := rBy_open h9
        have hsw := hC.size
        have h9' := Lib.hid (stab_by.new h9 (Nat.le_refl _) ((Below.refl W.heap.size W).alloc (Nat.le_refl _) (.cells #[.slice E (zeros 128).length ce] 26)))
        clear hE hC h9
        go_simp
        exact ⟨⟨W.heap.size, rfl, hsw, _, heap_alloc_new _ _, h9'.out⟩, (Below.refl _ _).alloc (Nat.le_refl _) _⟩
      simp only [Act.put, List.setIfInBounds_toArray, List.set_cons_zero, List.set_cons_succ, envAdd]
      intro x10
      refine wpAs_end fun W hC hE => ?_
      obtain ⟨⟨g, rfl, hg, u, hg3, hu⟩, _⟩ := hE
      have s2 := hs2.out
      have hwr := hb'.out.size
      have hrowW := RowOf.below stab_by hrow.out hC
      have hlo : w2.heap.size ≤ wr.heap.size := by omega
      obtain ⟨A2, c2, w7, hr2, row7, gr7, ba7⟩ := rows_push hrowW g u 1 (zeros 128) hg3 (by simp; omega) (Nat.le_trans hlo hC.size) (stab_by _ _ _ _ _ _ (fun p v hp hc => ⟨⟨⟨Nat.le_trans hlo hp.1, hp.2⟩, fun e => by
        obtain ⟨cs, hcs, _⟩ := hrow.out
        obtain ⟨_, _, e0, _, _, e4, _⟩ := own_any hcs
        cases e0
        have := (hcs.lt _ (by rw [e4]; exact e)).2
        have := hp.1
        omega⟩, hc⟩) hu)
      rw [List.length_replicate] at hr2
      have g7 := (ba7.block w1.heap.size (by omega)).trans ((hC.block w1.heap.size r5).trans hz'.out)
      obtain ⟨w8, hw8, g8, gr8, gs8⟩ := put_fst (u := .slice A2 (k + 1) c2) g7
      have row8 := Lib.hid (RowOf.grown stab_by row7 gr8 (fun q e => by cases e; omega))
      have hb7 : Below w1.heap.size w1 w7 := (hb'.out.trans (hC.mono hb'.out.size)).trans (ba7.mono (by omega))
      have hb8 := Lib.hid (hb7.grown gr8 hb7.size (fun q e => by cases e; omega))
      have z2 := (hC.cell (p := ⟨w1.heap.size, 0, none⟩) r5).trans r2
      obtain ⟨y1, y2, y3, y4⟩ := two_cells g7
      have H2 := Lib.hid hr2
      replace g8 := Lib.hid g8
      replace g7 := Lib.hid g7
      replace hg3 := Lib.hid hg3
      clear hr2 row7 gr7 gr8 ba7 hb7 hrowW hC gs8 hu
      go_wp2_with (at_builtin; refine wpList_append_run rfl _ _ _ rfl rfl rfl H2.out ?_; clear H2)
      go_roundw
      case rel =>
        have e : List.replicate (k + 1) (zeros 128) = List.replicate k (zeros 128) ++ [zeros 128] := List.replicate_succ'
        exact ⟨k + 1, by omega, by go_num, hb8.out, A2, c2, g8.out, by rw [e]; exact row8.out⟩
      case measure => simp [intOf]; omega
    · have hge : 256 ≤ k := by omega
      have hk2 := Lib.hid (show k = 256 by omega)
      have s2 := hs2.out
      have s1 := hs1.out
      have gz := (hb.block w.heap.size (by omega)).trans g1.out
      obtain ⟨k1, k2, k3, k4⟩ := two_cells gz
      obtain ⟨W9, hW9, g9, gr9, gs9⟩ := put_two (u := .slice A1 k c1) (v := .slice none 0 0) gz
      obtain ⟨k5, k6, _, _⟩ := two_cells g9
      have hBr : Below w.heap.size w wr := hB1.trans (hb.mono hB1.size)
      have hB9 : Below w.heap.size w W9 := hBr.grown gr9 hBr.size (fun q e => by cases e; omega)
      have row9 := RowOf.low stab_by (RowOf.grown stab_by hrow.out gr9 (fun q e => by cases e; omega)) (show w.heap.size ≤ w2.heap.size by omega)
      have hfin : Hid (Dsk (New w.heap.size W9) W9 (.agg #[.slice A1 k c1, .slice none 0 0]) zeroD) := Lib.hid (by
        have h1 := row9.rel stab_by
        rw [List.length_replicate] at h1
        have e : List.replicate k (zeros 128) = zeroD.1 := by rw [hk2.out]; rfl
        rw [e] at h1
        exact ⟨_, _, rfl, h1, ⟨none, 0, rfl, by simp [zeroD], by omega, fun i x hi => by simp [zeroD] at hi⟩⟩)
      clear row9 hrow hz g9 gr9 s1 s2
      go_wp2_with fail

      exact bodyPost_ret (v := .agg #[.slice A1 k c1, .slice none 0 0]) (by simp [results, Try.results26, go_sem, k5, k6]) rfl ⟨_, rfl, hfin.out, hB9⟩
end Go.Proofs.Ytgnogclhleheiaa
