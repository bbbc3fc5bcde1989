/-
  Package dev: New. Conditions: those that each lemma states.
-/
import Derived.Test.YtgnogclhleheiaaClones
import Derived.Test.YtgnogclhleheiaaLast
import Derived.Deep.CutBlock
import Derived.Outline
namespace Go.Proofs.Ytgnogclhleheiaa
open Go.RowKit

def zeroD : Dk := (List.replicate 256 (List.replicate 128 0), [])
/-- A new row of noughts. -/
theorem row_by (w : World) (xs : List UInt8) (hb : xs.length ≤ 9223372036854775807) : rBy (New w.heap.size (w.alloc (.cells (rowA xs) 5))) (w.alloc (.cells (rowA xs) 5)) [.slice (some ⟨w.heap.size, 0, none⟩) xs.length xs.length] xs :=
  own_by (n := xs.length) (t := 5) ⟨by simp [u8s], .inr ⟨_, xs.length, _, rfl, Nat.le_refl _, heap_alloc_new w _, Nat.le_refl _, by unfold maxLen; exact hb, by simp [rowA, u8s], by simp [rowA, u8s]; exact List.take_of_length_le (by simp)⟩⟩

set_option maxRecDepth 100000 in
set_option maxHeartbeats 4000000 in
theorem new_any (w : World) : Calls Try.prog 25 #[] w fun e w' => ∃ u, e = .returned u ∧ Dsk (New w.heap.size w') w' u zeroD ∧ Below w.heap.size w w' := by
  obtain ⟨w1, hw1, a1, a2, a3, hB1⟩ := box_pair w (.slice none 0 0) (.slice none 0 0) 25
  have hg1 : w1.heap[w.heap.size]? = some (.cells #[.slice none 0 0, .slice none 0 0] 25 (0, 0)) := by rw [← hw1]; exact heap_alloc_new w _
  obtain ⟨ad, w2, hmk, hada, ho, hB2, hz2⟩ := make_rows 256 (by omega) w1
  replace hmk : (Instr.makeSlice 22 (.int .i64 256) (.int .i64 256)).run Try.prog w1 = .ok (.slice (some ad) 256 256) w2 := hmk
  have hg2 := Lib.hid ((hB2.block w.heap.size (by omega)).trans hg1)
  replace hg1 := Lib.hid hg1
  have hb := own_block ho
  have hBw := hB1.trans (hB2.mono hB1.size)
  replace a3 := Lib.hid a3
  replace hz2 := Lib.hid hz2
  replace hada := Lib.hid hada
  go_enter Try.func25, Try.ntmps25
  go_upto_region 2 with fail
  clear hw1 hmk
  go_wp2_with fail
  go_loopw [6] (fun i wr => ∃ k : Nat, k ≤ 256 ∧ i = .int .i64 k ∧ w2.grownBy wr (some ad.block) ∧ ∃ us : List Value, wr.ownsRow w1.heap.size 26 1 (.slice (some ad) 256 256) 256 us ∧
      ∀ (j : Nat) (u : Value), j < k → us[j]? = some u → rBy (New w2.heap.size wr) wr [u] (zeros 128)) (fun i _ => 256 - (intOf i).toNat)
  case atStart => exact ⟨0, by omega, rfl, grow_refl _ _, _, ho, fun j u hj => by omega⟩
  case round =>
    obtain ⟨k, hk, rfl, hgr, us, hus, hus1⟩ := hrel
    replace hus1 := Lib.hid hus1
    by_cases hlt : k < 256
    · have hul : us.length = 256 * 1 := hus.1
      have hcu := own_at hus (j := k) (List.getElem?_eq_getElem (by omega))
      have hf := own_free hus k
      generalize us[k] = u0 at hcu
      have hmk2 : (Instr.makeSlice 26 (.int .i64 128) (.int .i64 128)).run Try.prog wr = .ok (.slice (some ⟨wr.heap.size, 0, none⟩) 128 128) (wr.alloc (.cells (rowA (zeros 128)) 5)) := make_bytes 128 (by omega) wr
      have hzb := row_by wr (zeros 128) (by simp [zeros])
      rw [zeros_length] at hzb
      have hBr := balloc (Below.refl wr.heap.size wr) (.cells (rowA (zeros 128)) 5)
      have lt1 := World.block_lt_of_cell? _ _ hcu
      have z1 := (hBr.cell lt1).trans hcu
      have z2 := (hBr.frozen lt1).trans hf
      replace hul := Lib.hid hul
      replace hus := Lib.hid hus
      replace hzb := Lib.hid hzb
      generalize hwq : wr.alloc (.cells (rowA (zeros 128)) 5) = wq at *
      replace hwq := Lib.hid hwq
      go_wp2_with fail
      go_roundw
      case rel =>
        have hp1 : (ad.add k).block < w2.heap.size := by rw [add_block]; exact hb.2.1
        refine ⟨k + 1, by omega, by go_num, grow_put (grow_below hgr hBr) (by rw [add_block]) _, us.set k (.slice (some ⟨wr.heap.size, 0, none⟩) 128 128), own_put (own_below hus.out hBr) (by omega) _, fun j u hj hu => ?_⟩
        rcases list_set_get (by have := hul.out; omega) hu with ⟨_, rfl⟩ | ⟨hne, hu'⟩
        · exact stab_by.put (stab_by.mono hzb.out hgr.size) hp1 _
        · exact stab_by.put (stab_by.new (hus1.out j u (by omega) hu') (Nat.le_refl _) hBr) hp1 _
      case measure => simp [intOf]; omega
    · have hge : 256 ≤ k := by omega
      have hz : wr.heap[w.heap.size]? = some (.cells #[.slice none 0 0, .slice none 0 0] 25 (0, 0)) := (hgr.block _ (by have := hz2.out; have := a3.out; omega) (fun e => by
        have := hada.out
        have := a3.out
        simp only [Option.some.injEq] at e
        omega)).trans hg2.out
      obtain ⟨k1, k2, k3, k4⟩ := two_cells hz
      obtain ⟨W9, hW9, g9, gr9, gs9⟩ := put_two (u := .slice (some ad) 256 256) (v := .slice none 0 0) hz
      obtain ⟨k5, k6, _, _⟩ := two_cells g9
      have hBr : Below w.heap.size w wr := hBw.grown hgr hBw.size (fun q e => by
        have := hada.out
        have := a3.out
        simp only [Option.some.injEq] at e
        omega)
      have hB9 : Below w.heap.size w W9 := hBr.grown gr9 hBr.size (fun q e => by cases e; omega)
      have y1 := own_low (hus.kept gr9 (by have := own_not hus hz (by decide); exact .inr (Ne.symm this))) (show w.heap.size ≤ w1.heap.size by have := a3.out; omega)
      have hfin : Hid (Dsk (New w.heap.size W9) W9 (.agg #[.slice (some ad) 256 256, .slice none 0 0]) zeroD) := Lib.hid (by
        refine ⟨_, _, rfl, own_rows y1 (by simp [zeroD]) fun j u x hu hx => ?_, ⟨none, 0, rfl, by simp [zeroD], by omega, fun i x hi => by simp [zeroD] at hi⟩⟩
        have hx' : x = zeros 128 := by
          have := List.mem_of_getElem? hx
          simp only [zeroD, List.mem_replicate] at this
          exact this.2
        subst hx'
        have hjl : j < 256 := by
          have := (List.getElem?_eq_some_iff.1 hx).1
          simpa [zeroD] using this
        exact stab_by.mono (stab_by.grown (hus1.out j u (by omega) hu) gr9 (fun q e => by cases e; have := hz2.out; have := a3.out; omega)) hBw.size)
      clear y1 hus hus1 hgr hz g9 gr9
      go_wp2_with fail
      exact bodyPost_ret (v := .agg #[.slice (some ad) 256 256, .slice none 0 0]) (by simp [results, Try.results25, go_sem, k5, k6]) rfl ⟨_, rfl, hfin.out, hB9⟩
end Go.Proofs.Ytgnogclhleheiaa
