/-
  Package sum: half, fours, Of. Conditions: those that each lemma states.
-/
import Derived.Test.YtabnifphpphedaaCrc
import Derived.Test.YtabnifphpphedaaCode
import Derived.Laws.Rows
import Derived.Lib.Hide
import Derived.IntWalk
namespace Go.Proofs.Ytabnifphpphedaa
open Go.RowKit

theorem band1 (s : Nat) (h : s < 4294967296) : bits .and .u32 (s : Int) 1 = ((s % 2 : Nat) : Int) := by
  have := u32_and_nat s 1 h (by omega)
  rwa [nat_mask1] at this
theorem band15 (s : Nat) (h : s < 4294967296) : bits .and .u32 (s : Int) 15 = ((s % 16 : Nat) : Int) := by
  have := u32_and_nat s 15 h (by omega)
  rwa [nat_mask4] at this
theorem bxor (a b : Nat) (x y : Int) (hx : x = a) (hy : y = b) (ha : a < 4294967296) (hb : b < 4294967296) : bits .xor .u32 x y = ((a ^^^ b : Nat) : Int) := by
  rw [hx, hy]
  exact u32_xor_nat a b ha hb

theorem half_any (s : Nat) (h : s < 4294967296) (w : World) :
    Calls Try.prog 24 #[.int .u32 s] w fun e w' => e = .returned (.int .u32 (halfN s)) ∧ w = w' := by
  have hb := band1 s h
  rcases (by omega : s % 2 = 1 ∨ s % 2 = 0) with h1 | h1
  · have e : Hid (halfN s = s / 2 ^^^ 3988292384) := Lib.hid (if_pos h1)
    rw [h1] at hb
    have hx := bxor (s / 2) 3988292384 ((s : Int) / 2) 3988292384 (by omega) (by omega) (by omega) (by omega)
    clear h1
    go_enter Try.func24, Try.ntmps24
    go_wp2
    go_ret
    rw [e.out]
    exact ⟨rfl, rfl⟩
  · have e : Hid (halfN s = s / 2) := Lib.hid (if_neg (by omega))
    rw [h1] at hb
    clear h1
    go_enter Try.func24, Try.ntmps24
    go_wp2
    go_ret
    rw [e.out]
    exact ⟨rfl, rfl⟩

/-- The table: what halving four times leaves of each four bits. -/
def tabV (k : Nat) : Array Value := ((List.range 16).map fun i => Value.int .u32 (if i < k then (fourN i : Int) else 0)).toArray
theorem tabV_size (k : Nat) : (tabV k).size = 16 := by simp [tabV]
theorem tabV_set (k : Nat) (h : k < 16) : (tabV k).setIfInBounds k (.int .u32 (fourN k)) = tabV (k + 1) := by
  apply Array.ext
  · simp [tabV]
  · intro i h1 h2
    have hi : i < 16 := by simpa [tabV] using h2
    rw [Array.getElem_setIfInBounds (by rw [tabV_size]; exact hi)]
    by_cases e : k = i
    · subst e; simp [tabV]
    · have : i < k + 1 ↔ i < k := by omega
      have hk : i < (tabV k).size := by rw [tabV_size]; exact hi
      simp [e, this, tabV]
theorem tabV_get (k i : Nat) (h : i < k) (hk : k ≤ 16) : (tabV k)[i]? = some (.int .u32 (fourN i)) := by
  simp [tabV, h, show i < 16 by omega]
theorem store_whole {P : Program} {w : World} {g : Nat} {t : TypeId} {cur cs : Array Value} (hg : w.heap[g]? = some (.cells cur t (0, 0))) (hl : cs.size = cur.size) (h1 : ∀ v ∈ cs.toList, v.oneCell' = true) :
    (storeCells ⟨g, 0, none⟩ cs.toList).run P w = .ok () (w.setRow g cs) := by
  have := run_storeCells_from (P := P) g t cs.toList 0 cur w hg (by simpa using hl) h1
  simpa using this
theorem tabV_one (k : Nat) : ∀ v ∈ (tabV k).toList, v.oneCell' = true := by
  intro v hv
  simp only [tabV, List.mem_map, List.toList_toArray] at hv
  obtain ⟨i, _, rfl⟩ := hv
  rfl
theorem tab_info : (Try.prog.info? 40).map (·.size) = some 16 := by kernel_rfl

set_option maxRecDepth 100000 in
set_option maxHeartbeats 800000 in
theorem fours_any (w : World) :
    Calls Try.prog 19 #[] w fun e w' => e = .returned (.agg (tabV 16)) ∧ Below w.heap.size w w' := by
  have h0 : #[Value.int .u32 0, .int .u32 0, .int .u32 0, .int .u32 0, .int .u32 0, .int .u32 0, .int .u32 0, .int .u32 0, .int .u32 0, .int .u32 0, .int .u32 0, .int .u32 0, .int .u32 0, .int .u32 0, .int .u32 0, .int .u32 0] = tabV 0 := by kernel_rfl
  have H0 := Lib.hid h0
  clear h0
  go_enter Try.func19, Try.ntmps19
  go_wp2
  rw [H0.out]
  go_loopw [4] (fun i wr => ∃ k : Nat, k ≤ 16 ∧ i = .int .i64 k ∧ wr.heap.size = w.heap.size + 2 ∧ wr.heap[w.heap.size + 1]? = some (.cells (tabV k) 40 (0, 0)) ∧ wr.heap[w.heap.size]? = some (.cells (tabV 0) 40 (0, 0)) ∧ Below w.heap.size w wr)
    (fun i _ => 16 - (intOf i).toNat)
  case atStart => exact ⟨0, by omega, rfl, by simp, by simpa using heap_alloc_new (w.alloc (Obj.cells (tabV 0) 40)) (Obj.cells (tabV 0) 40), heap_alloc2_old w _ _, balloc (balloc (Below.refl _ _) _) _⟩
  case round =>
    obtain ⟨k, hk, rfl, hs, hT, hR, hB⟩ := hrel
    by_cases hlt : k < 16
    · have hd : decide ((k : Int) < 16) = true := by simp; omega
      go_wp2
      go_loop [3, 9] (fun s j => ∃ m : Nat, m ≤ 4 ∧ j = .int .i64 m ∧ s = .int .u32 (halvesN m k)) (fun _ j => 4 - (intOf j).toNat)
      case atStart => exact ⟨0, by omega, rfl, rfl⟩
      case round =>
        obtain ⟨m, hm, rfl, rfl⟩ := hrel
        have hl := halvesN_lt m (s := k) (by omega)
        by_cases hm4 : m < 4
        · have hh := Lib.hid (halvesN_succ m k)
          generalize halvesN m k = q at *
          go_wp2_with (go_at_call 24; refine (half_any _ hl _).mono ?_; rintro e w' ⟨rfl, rfl⟩)
          go_round
          case rel => exact ⟨m + 1, by omega, by go_num, by rw [hh.out]⟩
          case measure => simp [intOf]; omega
        · obtain rfl : m = 4 := by omega
          have hc : wr.cell? ⟨w.heap.size + 1, k, none⟩ = some (.int .u32 0) := by rw [cell_of_row _ _ _ _ _ _ hT]; simp [tabV, hlt]
          have hf : wr.frozen? ⟨w.heap.size + 1, k, none⟩ = false := frozen_of_row _ _ _ _ _ hT
          go_wp2
          go_roundw
          case rel => exact ⟨k + 1, by omega, by go_num, by simpa using hs, (heap_setCell_same _ _ _ _ _ _ hT).trans (by rw [← tabV_set k hlt]; rfl), (heap_setCell_other _ _ _ _ (by simp)).trans hR, hB.setCell (by simp) _⟩
          case measure => simp [intOf]; omega
    · obtain rfl : k = 16 := by omega
      have hst := store_whole (P := Try.prog) (cs := tabV 16) hR (by simp [tabV_size]) (tabV_one 16)
      go_wp2_with (refine wpList_load_row rfl 40 _ rfl (w.heap.size + 1) rfl 40 (tabV 16) (0, 0) _ hT Try.underlying40 rfl ((tabV_size 16).symm ▸ tab_info) ?_)
      refine bodyPost_ret (v := .agg (tabV 16)) (results_cell_row Try.results19 _ _ w.heap.size 40 (tabV 16) (0, 0) _ rfl (setRow_heap _ _ _ _ _ _ hR) Try.underlying40 rfl ((tabV_size 16).symm ▸ tab_info)) rfl ⟨rfl, ?_⟩
      exact hB.trans ⟨rfl, rfl, rfl, by simp, fun k hk => setRow_other _ _ _ _ (by omega)⟩

theorem tab_store (w : World) : (storeCells ⟨w.heap.size, 0, none⟩ (tabV 16).toList).run Try.prog (w.alloc (Obj.cells #[Value.int .u32 0, .int .u32 0, .int .u32 0, .int .u32 0, .int .u32 0, .int .u32 0, .int .u32 0, .int .u32 0, .int .u32 0, .int .u32 0, .int .u32 0, .int .u32 0, .int .u32 0, .int .u32 0, .int .u32 0, .int .u32 0] 40)) = .ok () (w.alloc (.cells (tabV 16) 40)) := by
  rw [store_whole (heap_alloc_new w _) (by rw [tabV_size]; rfl) (tabV_one 16)]
  congr 1
  unfold World.setRow World.alloc
  congr 1
  apply Array.ext
  · simp
  · intro k h1 h2
    simp only [Array.getElem_modify, Array.getElem_push]
    have h3 : k < w.heap.size + 1 := by simpa using h2
    by_cases e : k < w.heap.size
    · rw [if_neg (by omega)]
      simp [e]
    · rw [if_pos (by omega)]
      simp [e]
theorem take_succ_fold (s : Nat) (xs : List UInt8) (k : Nat) (h : k < xs.length) : foldN s (xs.take (k + 1)) = nibN (nibN (foldN s (xs.take k) ^^^ (xs[k]?.getD 0).toNat)) := by
  rw [List.take_succ_eq_append_getElem h, foldN_snoc, List.getElem?_eq_getElem h]
  rfl
theorem of_nil (A : Option Addr) (cap : Nat) (w : World) :
    Calls Try.prog 12 #[.slice A 0 cap] w fun e w' => e = .returned (.int .u32 0) ∧ Below w.heap.size w w' := by
  have hT := tabV_size 16
  go_enter Try.func12, Try.ntmps12
  go_wp2_with (go_at_call 19; refine (fours_any _).mono ?_; rintro e w1 ⟨rfl, hb1⟩; have hst := tab_store w1)
  refine wp_loop_rounds 1 ?_
  rw [rounds_succ]
  go_wp2
  go_ret
  exact ⟨rfl, balloc hb1 _⟩
set_option maxRecDepth 100000 in
set_option maxHeartbeats 800000 in
theorem of_any (A : Option Addr) (len cap : Nat) (xs : List UInt8) (hlen : Hid (xs.length = len)) (hlc : len ≤ cap) (hcap : cap ≤ 9223372036854775807) (w : World) (hx : Byt w w.heap.size A xs) :
    Calls Try.prog 12 #[.slice A len cap] w fun e w' => e = .returned (.int .u32 (crc xs : Nat)) ∧ Below w.heap.size w w' := by
  obtain rfl := hlen.out
  rcases Nat.eq_zero_or_pos xs.length with h0 | h0
  · have hx0 : xs = [] := List.eq_nil_of_length_eq_zero h0
    subst hx0
    exact of_nil A cap w
  · have hT := tabV_size 16
    obtain ⟨ad, rfl, hbl, hc⟩ := hx h0
    go_enter Try.func12, Try.ntmps12
    go_wp2_with (go_at_call 19; refine (fours_any _).mono ?_; rintro e w1 ⟨rfl, hb1⟩; have hst := tab_store w1)
    have hB := balloc hb1 (Obj.cells (tabV 16) 40)
    have hg := heap_alloc_new w1 (Obj.cells (tabV 16) 40)
    generalize w1.alloc (Obj.cells (tabV 16) 40) = w2 at *
    generalize w1.heap.size = g at *
    clear hst hb1
    go_loop [4, 10] (fun s i => ∃ k : Nat, k ≤ xs.length ∧ i = .int .i64 k ∧ s = .int .u32 (foldN 4294967295 (xs.take k) : Nat)) (fun _ i => xs.length - (intOf i).toNat)
    case atStart => exact ⟨0, by omega, rfl, rfl⟩
    case round =>
      obtain ⟨k, hk, rfl, rfl⟩ := hrel
      have hq := foldN_lt (s := 4294967295) (xs.take k) (by omega)
      by_cases hlt : k < xs.length
      · have hs := Lib.hid (take_succ_fold 4294967295 xs k hlt)
        have hcx := (hB.cell (p := ad.add k) (by rw [add_block]; exact hbl)).trans (hc k hlt)
        have hxb := (xs[k]?.getD 0).toNat_lt
        have hx1 := bxor (foldN 4294967295 (xs.take k)) (xs[k]?.getD 0).toNat _ _ rfl rfl hq (by omega)
        have hr1 := xor_lt32 hq (by omega : (xs[k]?.getD 0).toNat < 4294967296)
        generalize xs[k]?.getD 0 = c at *
        generalize foldN 4294967295 (xs.take k) = q at *
        generalize q ^^^ c.toNat = r1 at *
        have ha1 := band15 r1 hr1
        have hc1 : w2.cell? ⟨g, r1 % 16, none⟩ = some (.int .u32 (fourN (r1 % 16))) := by rw [cell_of_row _ _ _ _ _ _ hg]; exact tabV_get 16 _ (by omega) (by omega)
        have hx2 := bxor (fourN (r1 % 16)) (r1 / 16) (fourN (r1 % 16)) ((r1 : Int) / 16) rfl (by omega) (fourN_lt (by omega)) (by omega)
        have hr2 := nibN_lt hr1
        have he2 : fourN (r1 % 16) ^^^ (r1 / 16) = nibN r1 := rfl
        rw [he2] at hx2
        clear he2
        generalize nibN r1 = r2 at *
        have ha2 := band15 r2 hr2
        have hc2 : w2.cell? ⟨g, r2 % 16, none⟩ = some (.int .u32 (fourN (r2 % 16))) := by rw [cell_of_row _ _ _ _ _ _ hg]; exact tabV_get 16 _ (by omega) (by omega)
        have hx3 := bxor (fourN (r2 % 16)) (r2 / 16) (fourN (r2 % 16)) ((r2 : Int) / 16) rfl (by omega) (fourN_lt (by omega)) (by omega)
        have hr3 := nibN_lt hr2
        have he3 : fourN (r2 % 16) ^^^ (r2 / 16) = nibN r2 := rfl
        rw [he3] at hx3
        clear he3
        generalize nibN r2 = r3 at *
        have hm1 : r1 % 16 < 16 := by omega
        have hm2 : r2 % 16 < 16 := by omega
        generalize r1 % 16 = i1 at *
        generalize r2 % 16 = i2 at *
        generalize fourN i1 = f1 at *
        generalize fourN i2 = f2 at *
        clear hB hg hc hbl
        go_wp2
        go_round
        case rel => exact ⟨k + 1, by omega, by go_num, by rw [hs.out]⟩
        case measure => simp [intOf]; omega
      · obtain rfl : k = xs.length := by omega
        rw [List.take_length] at *
        have he := Lib.hid (bxor _ 4294967295 _ 4294967295 rfl rfl hq (by omega))
        go_wp2
        go_ret
        exact ⟨ret_int he.out, hB⟩
end Go.Proofs.Ytabnifphpphedaa
