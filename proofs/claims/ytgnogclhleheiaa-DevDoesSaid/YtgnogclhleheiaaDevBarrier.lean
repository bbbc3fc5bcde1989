/-
  Package dev: Barrier. Conditions: those that each lemma states.
-/
import Derived.Test.YtgnogclhleheiaaDevRead
import Derived.Test.YtgnogclhleheiaaDevNew
namespace Go.Proofs.Ytgnogclhleheiaa
open Go.RowKit

def settledD (d : Dk) : Dk := ((List.range 256).map fun k => seenD d k, [])
theorem seenD_length {d : Dk} {k : Nat} (hm : mayB d = true) (hk : k < 256) : (seenD d k).length = 128 := by
  obtain ⟨h1, h2, h3, h4⟩ := may_of hm
  refine seenW_length ?_ fun x hx => ?_
  · rw [List.getElem?_eq_getElem (by omega)]
    exact h3 k _ (List.getElem?_eq_getElem (by omega))
  · obtain ⟨j, hj⟩ := List.getElem?_of_mem hx
    exact (h4 j x hj).2.2

set_option maxHeartbeats 1000000 in
theorem barrier_bad (v : Value) (d : Dk) (w : World) (h : Dsk (Old w) w v d) (hm : mayB d = false) :
    Calls Try.prog 21 #[v] w fun e w' => e = .returned (.tuple #[.agg #[.slice none 0 0, .slice none 0 0], .int .i64 8]) ∧ Below w.heap.size w w' := by
  obtain ⟨a, b, rfl, _⟩ := id h
  obtain ⟨w2, hw2, f1, f2, f3, hsz, hB⟩ := box_two w a b #[.slice none 0 0, .slice none 0 0] 25
  have H := Lib.hid (h.below hB)
  have hc := Lib.hid (chk_bad hm)
  replace hm := Lib.hid hm
  replace hsz := Lib.hid hsz
  obtain ⟨A, c, B, e, e1, _⟩ := h.open
  cases e1
  clear h
  go_enter Try.func21, Try.ntmps21
  go_upto_region 1 with fail
  clear hw2
  go_wp2_with fail
  refine (check_any _ d _ H.out).mono ?_
  rintro e w3 ⟨rfl, hb3⟩
  rw [hc.out]
  have f4 := (hb3.block (w.heap.size + 1) (by rw [hsz.out]; omega)).trans f3
  obtain ⟨k1, k2, k3, k4⟩ := two_cells f4
  obtain ⟨W9, hW9, g9, gr9, gs9⟩ := put_two (u := .slice none 0 0) (v := .slice none 0 0) f4
  obtain ⟨k5, k6, _, _⟩ := two_cells g9
  have hB9 := (hB.trans (hb3.mono hB.size)).grown gr9 (Nat.le_trans hB.size hb3.size) (fun q e => by cases e; omega)
  replace f4 := Lib.hid f4
  replace f3 := Lib.hid f3
  replace g9 := Lib.hid g9
  clear f1 f2
  go_wp2_with fail
  exact bodyPost_ret (v := .tuple #[.agg #[.slice none 0 0, .slice none 0 0], .int .i64 8]) (by simp [results, Try.results21, go_sem, k5, k6]) rfl ⟨rfl, hB9⟩

set_option maxRecDepth 100000 in
set_option maxHeartbeats 4000000 in
theorem barrier_ok (v : Value) (d : Dk) (w : World) (h : Dsk (Old w) w v d) (hm : mayB d = true) :
    Calls Try.prog 21 #[v] w fun e w' => ∃ u, e = .returned (.tuple #[u, .int .i64 0]) ∧ Dsk (New w.heap.size w') w' u (settledD d) ∧ Below w.heap.size w w' := by
  obtain ⟨a, b, rfl, _⟩ := id h
  obtain ⟨w2, hw2, f1, f2, f3, hsz, hB⟩ := box_two w a b #[.slice none 0 0, .slice none 0 0] 25
  have H := Lib.hid (h.below hB)
  have hc := Lib.hid (chk_ok hm)
  have hl1 := (may_of hm).1
  replace hl1 := Lib.hid hl1
  replace hm := Lib.hid hm
  replace hsz := Lib.hid hsz
  obtain ⟨A, c, B, e, e1, _⟩ := h.open
  cases e1
  clear h
  go_enter Try.func21, Try.ntmps21
  go_upto_region 1 with fail
  clear hw2
  go_wp2_with fail
  refine (check_any _ d _ H.out).mono ?_
  rintro e w3 ⟨rfl, hb3⟩
  rw [hc.out]
  have hB3 := hB.trans (hb3.mono hB.size)
  have H3 := Lib.hid (H.out.below hb3)
  have g1 := (hb3.cell (p := ⟨w.heap.size, 0, none⟩) (by rw [hsz.out]; simp)).trans f1
  have g2 := (hb3.cell (p := ⟨w.heap.size, 1, none⟩) (by rw [hsz.out]; simp)).trans f2
  have g3 := (hb3.block (w.heap.size + 1) (by rw [hsz.out]; omega)).trans f3
  have hs3 : w.heap.size + 2 ≤ w3.heap.size := by have := hsz.out; have := hb3.size; omega
  clear f1 f2 f3 hB hb3
  obtain ⟨ad, w4, hmk, hada, ho, hB4, hz4⟩ := make_rows 256 (by omega) w3
  replace hmk : (Instr.makeSlice 22 (.int .i64 256) (.int .i64 256)).run Try.prog w3 = .ok (.slice (some ad) 256 256) w4 := hmk
  have l1 := World.block_lt_of_cell? _ _ g1
  have y1 := (hB4.cell l1).trans g1
  have y2 := (hB4.cell (p := ⟨w.heap.size, 1, none⟩) l1).trans g2
  have y3 := Lib.hid ((hB4.block (w.heap.size + 1) (by omega)).trans g3)
  have hBw := hB3.trans (hB4.mono hB3.size)
  have hb := own_block ho
  replace g3 := Lib.hid g3
  replace hz4 := Lib.hid hz4
  replace hada := Lib.hid hada
  go_upto_region 5 with fail
  clear hmk g1 g2 H
  go_wp2_with fail
  go_loopw [16] (fun i wr => ∃ k : Nat, k ≤ 256 ∧ i = .int .i64 k ∧ w4.grownBy wr (some ad.block) ∧ ∃ us : List Value, wr.ownsRow w3.heap.size 26 1 (.slice (some ad) 256 256) 256 us ∧
      ∀ (j : Nat) (u : Value), j < k → us[j]? = some u → rBy (New w4.heap.size wr) wr [u] (seenD d j)) (fun i _ => 256 - (intOf i).toNat)
  case atStart => exact ⟨0, by omega, rfl, grow_refl _ _, _, ho, fun j u hj => by omega⟩
  case round =>
    obtain ⟨k, hk, rfl, hgr, us, hus, hus1⟩ := hrel
    replace hus1 := Lib.hid hus1
    have hadn : Hid (∀ q, some ad.block = some q → w3.heap.size ≤ q) := Lib.hid fun q e => by
      have := hada.out
      simp only [Option.some.injEq] at e
      omega
    have hb3r : Below w3.heap.size w3 wr := hB4.grown hgr hB4.size hadn.out
    have z1 := (grow_cell hgr (p := ⟨w.heap.size, 0, none⟩) (by have := hB4.size; simp; omega) (fun e => by have := hadn.out _ e.symm; simp at this; omega)).trans y1
    have z2 := (grow_cell hgr (p := ⟨w.heap.size, 1, none⟩) (by have := hB4.size; simp; omega) (fun e => by have := hadn.out _ e.symm; simp at this; omega)).trans y2
    by_cases hlt : k < 256
    · have Hr := Lib.hid (H3.out.below hb3r)
      have hul : us.length = 256 * 1 := hus.1
      have hcu := own_at hus (j := k) (List.getElem?_eq_getElem (by omega))
      have hf := own_free hus k
      generalize us[k] = u0 at hcu
      have lt1 := World.block_lt_of_cell? _ _ hcu
      have hlen := Lib.hid (seenD_length hm.out hlt)
      replace hul := Lib.hid hul
      replace hus := Lib.hid hus
      go_wp2_with fail
      refine (seen_any _ d k (by rw [hl1.out]; exact hlt) _ Hr.out).mono ?_
      rintro e' wa ⟨u, rfl, hu, hba⟩
      have hu2 := stab_by.old hu hba
      have x1 := (hba.cell lt1).trans hcu
      have x2 := (hba.frozen lt1).trans hf
      have lt2 := World.block_lt_of_cell? _ _ x1
      clear hu
      go_wp2_with fail
      refine (clone_by u _ _ (by rw [hlen.out]; omega) hu2).mono ?_
      rintro e' wc ⟨x, rfl, hx, hbc⟩
      have x3 := (hbc.cell lt2).trans x1
      have x4 := (hbc.frozen lt2).trans x2
      obtain ⟨E, ce, rfl, _⟩ := rBy_open hx
      have hbr := hba.trans (hbc.mono hba.size)
      have hxx := Lib.hid (stab_by.mono hx hba.size)
      clear hx hu2 x1 x2
      go_wp2_with fail
      go_roundw
      case rel =>
        have hp1 : (ad.add k).block < w4.heap.size := by rw [add_block]; exact hb.2.1
        refine ⟨k + 1, by omega, by go_num, grow_put (grow_below hgr hbr) (by rw [add_block]) _, us.set k (.slice E (seenD d k).length ce), own_put (own_below hus.out hbr) (by omega) _, fun j u hj hu => ?_⟩
        rcases list_set_get (by have := hul.out; omega) hu with ⟨rfl, rfl⟩ | ⟨hne, hu'⟩
        · exact stab_by.put (stab_by.mono hxx.out hgr.size) hp1 _
        · exact stab_by.put (stab_by.new (hus1.out j u (by omega) hu') (Nat.le_refl _) hbr) hp1 _
      case measure => simp [intOf]; omega
    · have hge : 256 ≤ k := by omega
      have hz : wr.heap[w.heap.size + 1]? = some (.cells #[.slice none 0 0, .slice none 0 0] 25 (0, 0)) := (hgr.block _ (by have := hz4.out; omega) (fun e => by
        have := hada.out
        simp only [Option.some.injEq] at e
        omega)).trans y3.out
      obtain ⟨k1, k2, k3, k4⟩ := two_cells hz
      obtain ⟨W9, hW9, g9, gr9, gs9⟩ := put_two (u := .slice (some ad) 256 256) (v := .slice none 0 0) hz
      obtain ⟨k5, k6, _, _⟩ := two_cells g9
      have hBr : Below w.heap.size w wr := hBw.grown hgr hBw.size (fun q e => by
        have := hada.out
        simp only [Option.some.injEq] at e
        omega)
      have hB9 : Below w.heap.size w W9 := hBr.grown gr9 hBr.size (fun q e => by cases e; omega)
      have y4 := own_low (hus.kept gr9 (by have := own_not hus hz (by decide); exact .inr (Ne.symm this))) (show w.heap.size ≤ w3.heap.size by omega)
      have hfin : Hid (Dsk (New w.heap.size W9) W9 (.agg #[.slice (some ad) 256 256, .slice none 0 0]) (settledD d)) := Lib.hid (by
        refine ⟨_, _, rfl, own_rows y4 (by simp [settledD]) fun j u x hu hx => ?_, ⟨none, 0, rfl, by simp [settledD], by omega, fun i x hi => by simp [settledD] at hi⟩⟩
        have hjl : j < 256 := by
          have := (List.getElem?_eq_some_iff.1 hx).1
          simpa [settledD] using this
        have hx' : x = seenD d j := by
          simp only [settledD, List.getElem?_map, List.getElem?_range hjl, Option.map_some, Option.some.injEq] at hx
          exact hx.symm
        subst hx'
        exact stab_by.mono (stab_by.grown (hus1.out j u (by omega) hu) gr9 (fun q e => by cases e; have := hz4.out; omega)) hBw.size)
      clear y4 hus hus1 hgr hz g9 gr9
      go_wp2_with fail
      exact bodyPost_ret (v := .tuple #[.agg #[.slice (some ad) 256 256, .slice none 0 0], .int .i64 0]) (by simp [results, Try.results21, go_sem, k5, k6]) rfl ⟨_, rfl, hfin.out, hB9⟩
end Go.Proofs.Ytgnogclhleheiaa
