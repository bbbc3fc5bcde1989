/-
  The document's answers of layer 3: Twin. Conditions: those that each lemma states.
-/
import Derived.Test.YtgnogclhleheiaaRefNew
namespace Go.Proofs.Ytgnogclhleheiaa
open Go.RowKit

theorem wts_push {w : World} {lo : Nat} {A : Option Addr} {c : Nat} {ws : List Wt} (h : RowOf rWt 2 78 lo w A c ws) (g : Nat) (n : Int) (u : Value) (m : Nat) (x : List UInt8) (hg : w.heap[g]? = some (.cells #[.int .i64 n, u] 78 (0, 0))) (hs : ws.length < 100000) (hbase : lo ≤ w.heap.size) (h1 : -9223372036854775808 ≤ n) (h2 : n ≤ 9223372036854775807) (hx : rBy (NewBut lo A w) w [u] x) :
    ∃ A' c' w', (Builtin.append_ #[23, 23] 23 #[.slice A ws.length c, .slice (some ⟨g, 0, none⟩) 1 m]).run Try.prog w = .ok (.slice A' (ws.length + 1) c') w' ∧ RowOf rWt 2 78 lo w' A' c' (ws ++ [(n, x)]) ∧ w.grownBy w' (A.map (·.block)) ∧ Below lo w w' := by
  obtain ⟨i0, hi, hz0, hz1, hz2⟩ := info_parts wts_info0
  obtain ⟨E, ce, rfl, _⟩ := id (rBy_open hx)
  exact RowOf.push stab_wt h 23 23 i0 (.agg #[.int .i64 0, .slice none 0 0]) 32 Try.underlying23 hi hz0 hz1 hz2 rfl (by decide) ⟨g, 0, none⟩ m _ (n, x) rfl (World.news_of_block (cs := #[.int .i64 n, .slice E x.length ce]) hg) (fun u hu => by
    simp at hu
    rcases hu with rfl | rfl <;> rfl) (by unfold maxLen; omega) (by omega) hbase (rWt_mk h1 h2 hx)

/-- The cells of a row's elements of the call's own: none lies in the row. -/
theorem RowOf.but {α : Type} {R : Rel α} {size : Nat} {t : TypeId} {lo lo' : Nat} {w w' : World} {A : Option Addr} {c : Nat} {xs : List α} (h : RowOf R size t lo w A c xs) {p : Addr} (hl : w.heap.size ≤ lo') (h2 : lo ≤ lo') (hp : New lo' w' p) : NewBut lo A w' p :=
  ⟨⟨Nat.le_trans h2 hp.1, hp.2⟩, fun e => by
    obtain ⟨cs, hcs, _⟩ := h
    obtain ⟨_, _, e0, _, _, e4, _⟩ := own_any hcs
    cases e0
    have := (hcs.lt _ (by rw [e4]; exact e)).2
    have := hp.1
    omega⟩

set_option maxRecDepth 100000 in
set_option maxHeartbeats 4000000 in
theorem refTwin_any (v : Value) (d : Dk) (w : World) (hs : Small d) (h : Dsk (Old w) w v d) : Calls Try.prog 12 #[v] w fun e w' => ∃ u, e = .returned u ∧ Dsk (New w.heap.size w') w' u d ∧ Below w.heap.size w w' := by
  obtain ⟨A, c, B, c', rfl, l1, m1, l2, m2, hA, hB⟩ := h.open
  have p1 := hs.rows
  have p2 := hs.waits
  have HS := Lib.hid hs
  have HA := Lib.hid hA
  have HB := Lib.hid hB
  clear hA hB h hs
  obtain ⟨n, hn⟩ : ∃ n, d.1.length = n := ⟨_, rfl⟩
  obtain ⟨m, hm⟩ : ∃ m, d.2.length = m := ⟨_, rfl⟩
  rw [hn] at l1 p1 ⊢
  rw [hm] at l2 p2 ⊢
  replace hn := Lib.hid hn
  replace hm := Lib.hid hm
  obtain ⟨w2, hw2, f1, f2, f3, hsz, hB2⟩ := box_two w (.slice A n c) (.slice B m c') #[.slice none 0 0, .slice none 0 0] 25
  obtain ⟨w3, hw3, g3, hs3, hB3⟩ := box_pair' w2 (.slice none 0 0) (.slice none 0 0) 25
  have S5 : Hid (w.heap.size + 2 = w2.heap.size ∧ w2.heap.size + 1 = w3.heap.size) := Lib.hid ⟨by omega, by omega⟩
  replace hsz := Lib.hid hsz
  replace hs3 := Lib.hid hs3
  replace g3 := Lib.hid g3
  replace f3 := Lib.hid f3
  replace hw3 := Lib.hid hw3
  have hB2' := Lib.hid hB2
  have lt0 : w.heap.size < w2.heap.size := by have := S5.out; omega
  clear hB2
  go_enter Try.func12, Try.ntmps12
  go_upto_region 2 with fail
  rw [hw3.out]
  clear hw3 hw2
  go_wp2_with fail
  go_loopw [4] (fun i wr => ∃ k : Nat, k ≤ n ∧ i = .int .i64 k ∧ Below w2.heap.size w2 wr ∧ ∃ (A1 : Option Addr) (c1 : Nat), wr.heap[w2.heap.size]? = some (.cells #[.slice A1 k c1, .slice none 0 0] 25 (0, 0)) ∧
      RowOf rBy 1 26 w3.heap.size wr A1 c1 (d.1.take k)) (fun i _ => n - (intOf i).toNat)
  case atStart => exact ⟨0, by omega, rfl, hB3, none, 0, g3.out, RowOf.nil _ _ _ _ _⟩
  case round =>
    obtain ⟨k, hk, rfl, hb, A1, c1, hz, hrow⟩ := hrel
    obtain ⟨r2, r3, r4, r5⟩ := two_cells hz
    have r1 := (hb.cell (p := ⟨w.heap.size, 0, none⟩) lt0).trans f1
    have htl := Lib.hid (show (d.1.take k).length = k by rw [List.length_take, hn.out]; omega)
    replace hrow := Lib.hid hrow
    by_cases hlt : k < n
    · obtain ⟨x, hx⟩ : ∃ x, d.1[k]? = some x := ⟨_, List.getElem?_eq_getElem (by rw [hn.out]; exact hlt)⟩
      obtain ⟨ad, u, rfl, hok, hc, hby⟩ := HA.out k x hx
      have hWr : Below w.heap.size w wr := hB2'.out.trans (hb.mono hB2'.out.size)
      have hcr := (hWr.cell hok).trans hc
      have hbr := stab_by.old hby hWr
      have hbig := HS.out.block k x hx
      have htk := Lib.hid (show d.1.take (k + 1) = d.1.take k ++ [x] by rw [List.take_add_one, hx]; rfl)
      obtain ⟨E, ce, rfl, _⟩ := id (rBy_open hby)
      have t1 := World.block_lt_of_cell? _ _ r1
      have t3 := World.block_lt_of_cell? _ _ hcr
      have i1 : (0 : Int) ≤ (k : Int) := by omega
      have i2 : (k : Int) < (n : Int) := by omega
      replace hx := Lib.hid hx
      replace hbr := Lib.hid hbr
      have hz' := Lib.hid hz
      have hb' := Lib.hid hb
      clear hz hb hc hby hok
      go_wp2_with fail
      refine wp_region_tails (by kernel_rfl) 9 (fun W => Below wr.heap.size wr W) (fun i => match i with
          | 7 => some (fun v W => rBy (New wr.heap.size W) W [v] x)
          | 8 => some (fun v W => ∃ g, v = .slice (some ⟨g, 0, none⟩) 1 1 ∧ wr.heap.size ≤ g ∧ ∃ u, W.heap[g]? = some (.cells #[u] 26 (0, 0)) ∧ rBy (New wr.heap.size W) W [u] x)
          | _ => none) (fun _ => none) (by decide) (by kernel_rfl) (by kernel_rfl) (Below.refl _ _).drew (fun w w' h hb => h.trans (hb.mono h.size)) ?tst ?_
      case tst =>
        intro j φ x W W' hp hx hb
        match j, hp with
        | 7, hp => cases hp; exact stab_by.new hx (Nat.le_refl _) hb
        | 8, hp =>
          cases hp
          obtain ⟨g, e1, e2, u, e3, e4⟩ := hx
          exact ⟨g, e1, e2, u, (hb.block g (Array.getElem?_eq_some_iff.1 e3).1).trans e3, stab_by.new e4 (Nat.le_refl _) hb⟩
      simp only [List.take_succ_cons, List.take_zero, List.drop_succ_cons, List.drop_zero]
      repeat (first
        | (refine wpAs_skip rfl ?_; simp only [Act.put, List.setIfInBounds_toArray, List.set_cons_zero, List.set_cons_succ])
        | (refine wpAs_pure (v := ?_) rfl rfl ?_ ?_; rotate_left; (intro W hC hE; clear hE; (have z1 := (hC.cell t1).trans r1; have z2 := (hC.cell (p := ⟨w2.heap.size, 0, none⟩) r5).trans r2; have z3 := (hC.cell t3).trans hcr); clear hC; go_simp; done); simp only [Act.put, List.setIfInBounds_toArray, List.set_cons_zero, List.set_cons_succ])
        | (refine wpAs_pure (v := ?_) rfl rfl ?_ ?_; rotate_left; (intro W hC hE; clear hE; (have z1 := (hC.cell t1).trans r1; have z2 := (hC.cell (p := ⟨w2.heap.size, 0, none⟩) r5).trans r2; have z3 := (hC.cell t3).trans hcr); clear hC; go_simp; with_reducible rfl); simp only [Act.put, List.setIfInBounds_toArray, List.set_cons_zero, List.set_cons_succ]))
      refine wpAs_act rfl rfl ?_ ?_
      · intro W hC hE
        clear hE
        obtain ⟨v', W', hr, h1, h2⟩ := app_copy (.slice E x.length ce) x W (by omega) (stab_by.old hbr.out hC)
        exact does_append _ _ _ rfl rfl rfl hr ⟨stab_by.mono h1 hC.size, h2⟩
      simp only [Act.put, List.setIfInBounds_toArray, List.set_cons_zero, List.set_cons_succ, envAdd]
      intro x20
      refine wpAs_act rfl rfl ?_ ?_
      · intro W hC hE
        have h9 := hE.1 rfl
        obtain ⟨E, ce, rfl, _⟩ := rBy_open h9
        have hsw := hC.size
        have h9' := Lib.hid (stab_by.new h9 (Nat.le_refl _) ((Below.refl W.heap.size W).alloc (Nat.le_refl _) (.cells #[.slice E x.length ce] 26)))
        clear hE hC h9
        go_simp
        exact ⟨⟨W.heap.size, rfl, hsw, _, heap_alloc_new _ _, h9'.out⟩, (Below.refl _ _).alloc (Nat.le_refl _) _⟩
      simp only [Act.put, List.setIfInBounds_toArray, List.set_cons_zero, List.set_cons_succ, envAdd]
      intro x21
      refine wpAs_end fun W hC hE => ?_
      obtain ⟨⟨g, rfl, hg, u, hg3, hu⟩, _⟩ := hE
      have s5 := S5.out
      have hwr := hb'.out.size
      have hrowW := RowOf.below stab_by hrow.out hC
      have hlo : w3.heap.size ≤ wr.heap.size := by omega
      obtain ⟨A2, c2, w7, hr2, row7, gr7, ba7⟩ := rows_push hrowW g u 1 x hg3 (by rw [htl.out]; omega) (Nat.le_trans hlo hC.size) (stab_by _ _ _ _ _ _ (fun p v hp hc => ⟨hrow.out.but (Nat.le_refl _) hlo hp, hc⟩) hu)
      rw [htl.out] at hr2
      have g7 := (ba7.block w2.heap.size (by omega)).trans ((hC.block w2.heap.size r5).trans hz'.out)
      obtain ⟨w8, hw8, g8, gr8, gs8⟩ := put_fst (u := .slice A2 (k + 1) c2) g7
      have row8 := Lib.hid (RowOf.grown stab_by row7 gr8 (fun q e => by cases e; omega))
      have hb7 : Below w2.heap.size w2 w7 := (hb'.out.trans (hC.mono hb'.out.size)).trans (ba7.mono (by omega))
      have hb8 := Lib.hid (hb7.grown gr8 hb7.size (fun q e => by cases e; omega))
      have z2 := (hC.cell (p := ⟨w2.heap.size, 0, none⟩) r5).trans r2
      obtain ⟨y1, y2, y3, y4⟩ := two_cells g7
      have H2 := Lib.hid hr2
      replace g8 := Lib.hid g8
      replace g7 := Lib.hid g7
      replace hg3 := Lib.hid hg3
      clear hr2 row7 gr7 gr8 ba7 hb7 hrowW hC gs8 hu s5
      go_wp2_with (at_builtin; refine wpList_append_run rfl _ _ _ rfl rfl rfl H2.out ?_; clear H2)
      go_roundw
      case rel => exact ⟨k + 1, by omega, by go_num, hb8.out, A2, c2, g8.out, by rw [htk.out]; exact row8.out⟩
      case measure => simp [intOf]; omega
    · have hge : n ≤ k := by omega
      have hkn := Lib.hid (show k = n by omega)
      have hd1 := Lib.hid (show d.1.take k = d.1 from List.take_of_length_le (by rw [hn.out]; omega))
      replace hrow := Lib.hid (show RowOf rBy 1 26 w3.heap.size wr A1 c1 d.1 by rw [← hd1.out]; exact hrow.out)
      have r1' := (hb.cell (p := ⟨w.heap.size, 1, none⟩) lt0).trans f2
      have hz' := Lib.hid hz
      have hb' := Lib.hid hb
      obtain ⟨wo, rfl⟩ : ∃ wo : World, wo = wr := ⟨_, rfl⟩
      have hws : w3.heap.size ≤ wo.heap.size := by have := S5.out; omega
      clear hz hb
      go_wp2_with fail
      go_loopw [5] (fun i wr => ∃ j : Nat, j ≤ m ∧ i = .int .i64 j ∧ wo.grownBy wr (some w2.heap.size) ∧ ∃ (A2 : Option Addr) (c2 : Nat), wr.heap[w2.heap.size]? = some (.cells #[.slice A1 k c1, .slice A2 j c2] 25 (0, 0)) ∧
          RowOf rWt 2 78 wo.heap.size wr A2 c2 (d.2.take j)) (fun i _ => m - (intOf i).toNat)
      case atStart => exact ⟨0, by omega, rfl, grow_refl _ _, none, 0, hz'.out, RowOf.nil _ _ _ _ _⟩
      case round =>
        obtain ⟨j, hj, rfl, hgr, A2, c2, hz, hrw⟩ := hrel
        obtain ⟨q2, q3, q4, q5⟩ := two_cells hz
        have q1 := (grow_cell hgr (p := ⟨w.heap.size, 1, none⟩) (by have := S5.out; show w.heap.size < _; omega) (fun e => by simp only [Option.some.injEq] at e; omega)).trans r1'
        have htl := Lib.hid (show (d.2.take j).length = j by rw [List.length_take, hm.out]; omega)
        replace hrw := Lib.hid hrw
        have hb2 : Below w2.heap.size w2 wr := hb'.out.grown hgr hb'.out.size (fun q e => by cases e; omega)
        by_cases hlt2 : j < m
        · obtain ⟨x, hx⟩ : ∃ x, d.2[j]? = some x := ⟨_, List.getElem?_eq_getElem (by rw [hm.out]; exact hlt2)⟩
          obtain ⟨ad, u, rfl, hok, hok', hc, hc', hby, b1, b2⟩ := HB.out j x hx
          have hWr : Below w.heap.size w wr := hB2'.out.trans (hb2.mono hB2'.out.size)
          have hcr := (hWr.cell hok).trans hc
          have hcr' := (hWr.cell hok').trans hc'
          rw [add_next] at hcr'
          have hbr := stab_by.old hby hWr
          have hbig := HS.out.wait j x hx
          have htk := Lib.hid (show d.2.take (j + 1) = d.2.take j ++ [x] by rw [List.take_add_one, hx]; rfl)
          obtain ⟨E, ce, rfl, _⟩ := id (rBy_open hby)
          obtain ⟨xi, xb⟩ := x
          obtain ⟨q, hq'⟩ : ∃ q, xb.length = q := ⟨_, rfl⟩
          replace hbr : rBy (Old wr) wr [.slice E xb.length ce] xb := hbr
          replace hcr' : wr.cell? _ = some (.slice E xb.length ce) := hcr'
          rw [hq'] at hcr' hbr
          replace hq' := Lib.hid hq'
          have t1 := World.block_lt_of_cell? _ _ q1
          have t3 := World.block_lt_of_cell? _ _ hcr
          have t4 := World.block_lt_of_cell? _ _ hcr'
          have i1 : (0 : Int) ≤ (j : Int) := by omega
          have i2 : (j : Int) < (m : Int) := by omega
          replace hx := Lib.hid hx
          replace hbr := Lib.hid hbr
          have hz2 := Lib.hid hz
          have hgr' := Lib.hid hgr
          have hb2' := Lib.hid hb2
          clear hz hgr hb2 hc hc' hby hok hok' hWr
          go_wp2_with fail
          refine wp_region_tails (by kernel_rfl) 17 (fun W => Below wr.heap.size wr W) (fun i => match i with
              | 14 => some (fun v W => rBy (New wr.heap.size W) W [v] xb)
              | 15 => some (fun v W => ∃ E ce, v = .agg #[.int .i64 xi, .slice E q ce] ∧ rBy (New wr.heap.size W) W [.slice E q ce] xb)
              | 16 => some (fun v W => ∃ g, v = .slice (some ⟨g, 0, none⟩) 1 1 ∧ wr.heap.size ≤ g ∧ ∃ u, W.heap[g]? = some (.cells #[.int .i64 xi, u] 78 (0, 0)) ∧ rBy (New wr.heap.size W) W [u] xb)
              | _ => none) (fun _ => none) (by decide) (by kernel_rfl) (by kernel_rfl) (Below.refl _ _).drew (fun w w' h hb => h.trans (hb.mono h.size)) ?tst2 ?_
          case tst2 =>
            intro j φ x W W' hp hx hb
            match j, hp with
            | 14, hp => cases hp; exact stab_by.new hx (Nat.le_refl _) hb
            | 15, hp =>
              cases hp
              obtain ⟨E, ce, e1, e2⟩ := hx
              exact ⟨E, ce, e1, stab_by.new e2 (Nat.le_refl _) hb⟩
            | 16, hp =>
              cases hp
              obtain ⟨g, e1, e2, u, e3, e4⟩ := hx
              exact ⟨g, e1, e2, u, (hb.block g (Array.getElem?_eq_some_iff.1 e3).1).trans e3, stab_by.new e4 (Nat.le_refl _) hb⟩
          simp only [List.take_succ_cons, List.take_zero, List.drop_succ_cons, List.drop_zero]
          repeat (first
            | (refine wpAs_skip rfl ?_; simp only [Act.put, List.setIfInBounds_toArray, List.set_cons_zero, List.set_cons_succ])
            | (refine wpAs_pure (v := ?_) rfl rfl ?_ ?_; rotate_left; (intro W hC hE; clear hE; (have z1 := (hC.cell t1).trans q1; have z2 := (hC.cell (p := ⟨w2.heap.size, 1, none⟩) q5).trans q3; have z3 := (hC.cell t3).trans hcr; have z4 := (hC.cell (p := ⟨(ad.add (j * 2)).block, (ad.add (j * 2)).off + 1, none⟩) t4).trans hcr'); clear hC; go_simp; done); simp only [Act.put, List.setIfInBounds_toArray, List.set_cons_zero, List.set_cons_succ])
            | (refine wpAs_pure (v := ?_) rfl rfl ?_ ?_; rotate_left; (intro W hC hE; clear hE; (have z1 := (hC.cell t1).trans q1; have z2 := (hC.cell (p := ⟨w2.heap.size, 1, none⟩) q5).trans q3; have z3 := (hC.cell t3).trans hcr; have z4 := (hC.cell (p := ⟨(ad.add (j * 2)).block, (ad.add (j * 2)).off + 1, none⟩) t4).trans hcr'); clear hC; go_simp; with_reducible rfl); simp only [Act.put, List.setIfInBounds_toArray, List.set_cons_zero, List.set_cons_succ]))
          refine wpAs_act rfl rfl ?_ ?_
          · intro W hC hE
            clear hE
            obtain ⟨v', W', hr, h1, h2⟩ := app_copy (.slice E q ce) xb W (by have := hq'.out; omega) (stab_by.old hbr.out hC)
            exact does_append _ _ _ rfl rfl rfl hr ⟨stab_by.mono h1 hC.size, h2⟩
          simp only [Act.put, List.setIfInBounds_toArray, List.set_cons_zero, List.set_cons_succ, envAdd]
          intro x45
          refine wpAs_act rfl rfl ?_ ?_
          · intro W hC hE
            have h9 := hE.1 rfl
            obtain ⟨E, ce, rfl, _⟩ := rBy_open h9
            rw [hq'.out] at h9
            clear hE hC
            have h9' := Lib.hid h9
            clear h9
            go_simp
            have := hq'.out
            exact ⟨⟨E, ce, by rw [this], h9'.out⟩, Below.refl _ _⟩
          simp only [Act.put, List.setIfInBounds_toArray, List.set_cons_zero, List.set_cons_succ, envAdd]
          intro x46
          refine wpAs_act rfl rfl ?_ ?_
          · intro W hC hE
            obtain ⟨E, ce, rfl, h9⟩ := hE.1 rfl
            have hsw := hC.size
            have h9' := Lib.hid (stab_by.new h9 (Nat.le_refl _) ((Below.refl W.heap.size W).alloc (Nat.le_refl _) (.cells #[.int .i64 xi, .slice E q ce] 78)))
            clear hE hC h9
            go_simp
            exact ⟨⟨W.heap.size, rfl, hsw, _, heap_alloc_new _ _, h9'.out⟩, (Below.refl _ _).alloc (Nat.le_refl _) _⟩
          simp only [Act.put, List.setIfInBounds_toArray, List.set_cons_zero, List.set_cons_succ, envAdd]
          intro x47
          refine wpAs_end fun W hC hE => ?_
          obtain ⟨⟨g, rfl, hg, u, hg3, hu⟩, _⟩ := hE
          have hwr := hgr'.out.size
          have hrowW := RowOf.below stab_wt hrw.out hC
          obtain ⟨A3, c3, w7, hr2, row7, gr7, ba7⟩ := wts_push hrowW g xi u 1 xb hg3 (by rw [htl.out]; omega) (Nat.le_trans hwr hC.size) b1 b2 (stab_by _ _ _ _ _ _ (fun p v hp hc => ⟨hrw.out.but (Nat.le_refl _) hwr hp, hc⟩) hu)
          rw [htl.out] at hr2
          have g7 := (ba7.block w2.heap.size (by have := S5.out; omega)).trans ((hC.block w2.heap.size q5).trans hz2.out)
          obtain ⟨w8, hw8, g8, gr8, gs8⟩ := put_snd (u := .slice A3 (j + 1) c3) g7
          have s5 := S5.out
          have row8 := Lib.hid (RowOf.grown stab_wt row7 gr8 (fun q e => by cases e; omega))
          have hg8 := Lib.hid (grow_trans (grow_later (grow_later hgr'.out (hC.mono hwr)) ba7) gr8)
          have z2 := (hC.cell (p := ⟨w2.heap.size, 1, none⟩) q5).trans q3
          obtain ⟨y1, y2, y3, y4⟩ := two_cells g7
          have H2 := Lib.hid hr2
          replace g8 := Lib.hid g8
          replace g7 := Lib.hid g7
          replace hg3 := Lib.hid hg3
          clear hr2 row7 gr7 gr8 ba7 hrowW hC gs8 hu s5
          go_wp2_with (at_builtin; refine wpList_append_run rfl _ _ _ rfl rfl rfl H2.out ?_; clear H2)
          go_roundw
          case rel => exact ⟨j + 1, by omega, by go_num, hg8.out, A3, c3, g8.out, by rw [htk.out]; exact row8.out⟩
          case measure => simp [intOf]; omega
        · have hge2 : m ≤ j := by omega
          have hjm := Lib.hid (show j = m by omega)
          have hd2 := Lib.hid (show d.2.take j = d.2 from List.take_of_length_le (by rw [hm.out]; omega))
          have s5 := S5.out
          have gz := (hb2.block (w.heap.size + 1) (by omega)).trans f3.out
          obtain ⟨k1, k2, k3, k4⟩ := two_cells gz
          obtain ⟨W9, hW9, g9, gr9, gs9⟩ := put_two (u := .slice A1 k c1) (v := .slice A2 j c2) gz
          obtain ⟨k5, k6, _, _⟩ := two_cells g9
          have hBr : Below w.heap.size w wr := hB2'.out.trans (hb2.mono hB2'.out.size)
          have hB9 : Below w.heap.size w W9 := hBr.grown gr9 hBr.size (fun q e => by cases e; omega)
          have row1 := RowOf.low stab_by (RowOf.grown stab_by (RowOf.grown stab_by hrow.out hgr (fun q e => by cases e; omega)) gr9 (fun q e => by cases e; omega)) (show w.heap.size ≤ w3.heap.size by omega)
          have row2 := RowOf.low stab_wt (RowOf.grown stab_wt hrw.out gr9 (fun q e => by cases e; omega)) (show w.heap.size ≤ wo.heap.size by omega)
          have hfin : Hid (Dsk (New w.heap.size W9) W9 (.agg #[.slice A1 k c1, .slice A2 j c2]) d) := Lib.hid (by
            have h1 := row1.rel stab_by
            have h2 := row2.rel stab_wt
            rw [htl.out, hd2.out] at h2
            rw [hn.out, ← hkn.out] at h1
            exact ⟨_, _, rfl, h1, h2⟩)
          clear row1 row2 hrow hrw hz g9 gr9 s5 hgr
          go_wp2_with fail
          exact bodyPost_ret (v := .agg #[.slice A1 k c1, .slice A2 j c2]) (by simp [results, Try.results12, go_sem, k5, k6]) rfl ⟨_, rfl, hfin.out, hB9⟩
end Go.Proofs.Ytgnogclhleheiaa
