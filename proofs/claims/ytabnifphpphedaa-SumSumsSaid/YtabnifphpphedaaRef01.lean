/-
  The document's answers of layer 1: the contracts of package scionryref01. Conditions: those that each lemma states.
-/
import Derived.Test.YtabnifphpphedaaGet
namespace Go.Proofs.Ytabnifphpphedaa
open Go.RowKit

theorem u8_info : (Try.prog.info? 5).map (fun i => (i.zero, i.size, i.bytes)) = some (some (.int .u8 0), 1, 1) := by kernel_rfl

set_option maxHeartbeats 800000 in
theorem bytes_own (n : Int) (m : Nat) (h0 : 0 ≤ n) (h1 : n ≤ 9223372036854775807) (hm : m ≤ 1000) (w : World) :
    Calls Try.prog 29 #[.int .i64 n, .int .i64 m] w fun e w' => ∃ v, e = .returned v ∧ w'.ownsRow w.heap.size 5 1 v m (u8s (le m n)) ∧ Below w.heap.size w w' := by
  obtain ⟨i0, hi, hz0, hz1, hz2⟩ := info_parts u8_info
  go_enter Try.func29, Try.ntmps29
  go_wp2
  go_loopw [0, 5, 6] (fun t v i wr => ∃ k : Nat, k ≤ m ∧ i = .int .i64 k ∧ t = .int .i64 (n / 256 ^ k) ∧ wr.ownsRow w.heap.size 5 1 v k ((le k n).map fun x => Value.int .u8 (x.toNat : Int)) ∧ Below w.heap.size w wr)
    (fun _ _ i _ => m - (intOf i).toNat)
  case atStart => exact ⟨0, Nat.zero_le _, rfl, by simp, World.ownsRow_nil _ _ _ _, Below.refl _ _⟩
  case round =>
    obtain ⟨k, hk, rfl, rfl, hown, hB⟩ := hrel
    have d0 := div_pow_nonneg n k h0
    have d1 := div_pow_le n k h0
    have hd := Lib.hid (div_pow_succ n k)
    have hs := Lib.hid (le_snoc k n)
    have hb := Lib.hid (byte_toNat (n / 256 ^ k))
    generalize n / 256 ^ k = q at *
    by_cases hlt : k < m
    · go_wp2_with (at_builtin; refine wpList_append_own _ rfl _ _ 22 rfl w.heap.size 5 i0 (.int .u8 0) 1 1 Try.underlying22 hi hz0 hz1 hz2 rfl (by decide) _ _ _ rfl (hown.alloc _) ⟨wr.heap.size, 0, none⟩ 1 1 [.int .u8 (q % 256)] rfl rfl ?c1 ?c2 ?c3 ?c4 ?c5 ?_)
      case c1 =>
        intro j u hj
        match j, hj with
        | 0, hj => simp at hj; subst hj; simp [Addr.add]
      case c2 => intro u hu; simp at hu; subst hu; rfl
      case c3 => unfold maxLen; omega
      case c4 => omega
      case c5 => have := hB.size; simp; omega
      intro v' w1 hown' hgrow _
      have hB1 : Below w.heap.size w w1 := (balloc hB _).grown hgrow (balloc hB _).size (fun r e => by have := hown.lt r e; omega)
      rw [show (le k n).map (fun x => Value.int .u8 (x.toNat : Int)) ++ [.int .u8 (q % 256)] = (le (k + 1) n).map (fun x => Value.int .u8 (x.toNat : Int)) by rw [hs.out, List.map_append, List.map_cons, List.map_nil, hb.out]] at hown'
      clear hgrow hown
      go_wp2
      go_roundw
      case rel => exact ⟨k + 1, by omega, by go_num, by rw [hd.out], hown', hB1⟩
      case measure => simp [intOf]; omega
    · obtain rfl : k = m := by omega
      go_wp2
      go_ret
      exact ⟨_, rfl, hown, hB⟩
theorem bytes_ref (n : Int) (m : Nat) (h0 : 0 ≤ n) (h1 : n ≤ 9223372036854775807) (hm : m ≤ 1000) (w : World) :
    Calls Try.prog 29 #[.int .i64 n, .int .i64 m] w fun e w' => ∃ A cap, e = .returned (.slice A m cap) ∧ Byt w' w'.heap.size A (le m n) ∧ Below w.heap.size w w' := by
  refine (bytes_own n m h0 h1 hm w).mono ?_
  rintro e w' ⟨v, rfl, hown, hB⟩
  obtain ⟨A, cap, rfl, _, _, hy⟩ := own_byt hown
  exact ⟨A, cap, rfl, hy, hB⟩

theorem num_ref_nil (A : Option Addr) (cap : Nat) (w : World) :
    Calls Try.prog 27 #[.slice A 0 cap] w fun e w' => e = .returned (.int .i64 0) ∧ w = w' := by
  go_enter Try.func27, Try.ntmps27
  go_wp2
  refine wp_loop_rounds 1 ?_
  rw [rounds_succ]
  go_wp2
  go_ret
  exact ⟨rfl, rfl⟩

theorem num_drop (xs : List UInt8) (k : Nat) (h : k < xs.length) : num (xs.drop (xs.length - (k + 1))) = num (xs.drop (xs.length - k)) * 256 + ((xs[xs.length - 1 - k]?.getD 0).toNat : Int) := by
  have := val_back xs (k + 1) (by omega)
  rw [back_succ, val_snoc, val_back xs k (by omega)] at this
  exact this.symm
theorem num_small (xs : List UInt8) (h : xs.length ≤ 6) : 0 ≤ num xs ∧ num xs < 281474976710656 := by
  have hp : ∀ n : Nat, n ≤ 6 → (256 : Int) ^ n ≤ 281474976710656 := by decide
  exact ⟨num_nonneg _, Int.lt_of_lt_of_le (num_lt xs) (hp _ h)⟩

set_option maxHeartbeats 800000 in
theorem number_ref (A : Option Addr) (len cap : Nat) (xs : List UInt8) (hlen : Hid (xs.length = len)) (hm : len ≤ 7) (w : World) (hx : Byt w w.heap.size A xs) :
    Calls Try.prog 27 #[.slice A len cap] w fun e w' => e = .returned (.int .i64 (num xs)) ∧ w = w' := by
  obtain rfl := hlen.out
  rcases Nat.eq_zero_or_pos xs.length with h0 | h0
  · have hx0 : xs = [] := List.eq_nil_of_length_eq_zero h0
    subst hx0
    exact num_ref_nil A cap w
  · obtain ⟨ad, rfl, _, hc⟩ := hx h0
    go_enter Try.func27, Try.ntmps27
    go_wp2
    go_loop [3, 4] (fun t i => ∃ k : Nat, k ≤ xs.length ∧ i = .int .i64 ((xs.length : Int) - 1 - k) ∧ t = .int .i64 (num (xs.drop (xs.length - k)))) (fun _ i => (intOf i + 1).toNat)
    case atStart => exact ⟨0, Nat.zero_le _, by simp, by simp [num]⟩
    case round =>
      obtain ⟨k, hk, rfl, rfl⟩ := hrel
      by_cases hlt : k < xs.length
      · obtain ⟨b0, b1⟩ := num_small (xs.drop (xs.length - k)) (by simp; omega)
        have hd := Lib.hid (num_drop xs k hlt)
        have hcx := hc (xs.length - 1 - k) (by omega)
        have hxb := (xs[xs.length - 1 - k]?.getD 0).toNat_lt
        have e1 : ((xs.length : Int) - 1 - k).toNat = xs.length - 1 - k := by omega
        generalize xs[xs.length - 1 - k]?.getD 0 = c at *
        generalize num (xs.drop (xs.length - k)) = q at *
        go_wp2
        go_round
        case rel => exact ⟨k + 1, by omega, by go_num, by rw [hd.out]⟩
        case measure => simp [intOf]; omega
      · obtain rfl : k = xs.length := by omega
        go_wp2
        go_ret
        simp

/-! ### The document's answers, as the code's -/
theorem four_ref (n : Int) (h0 : 0 ≤ n) (h1 : n < 4294967296) (w : World) :
    Calls Try.prog 25 #[.int .u32 n] w fun e w' => ∃ A cap, e = .returned (.slice A 4 cap) ∧ Byt w' w'.heap.size A (le 4 n) ∧ Below w.heap.size w w' := by
  go_enter Try.func25, Try.ntmps25
  go_wp2_with fail
  refine (bytes_ref n 4 h0 (by omega) (by omega) _).mono ?_
  rintro e w1 ⟨A, cap, rfl, hx, hb⟩
  go_wp2
  go_ret
  exact ⟨A, cap, rfl, hx, hb⟩

theorem four_own (n : Int) (h0 : 0 ≤ n) (h1 : n < 4294967296) (w : World) :
    Calls Try.prog 25 #[.int .u32 n] w fun e w' => ∃ v, e = .returned v ∧ w'.ownsRow w.heap.size 5 1 v 4 (u8s (le 4 n)) ∧ Below w.heap.size w w' := by
  go_enter Try.func25, Try.ntmps25
  go_wp2_with fail
  refine (bytes_own n 4 h0 (by omega) (by omega) _).mono ?_
  rintro e w1 ⟨v, rfl, hx, hb⟩
  go_wp2
  go_ret
  exact ⟨v, rfl, hx, hb⟩

theorem there_ref (A : Option Addr) (len cap : Nat) (k : Int) (m : Nat) (hm : m ≤ 4) (hl : len ≤ 9223372036854775807) (w : World) :
    Calls Try.prog 26 #[.slice A len cap, .int .i64 k, .int .i64 m] w fun e w' => e = .returned (.bool (decide (0 ≤ k ∧ k + m ≤ len))) ∧ w = w' := by
  rcases (by omega : k < 0 ∨ 0 ≤ k) with h | h
  · go_enter Try.func26, Try.ntmps26
    go_wp2
    go_ret
    exact ⟨by simp; omega, rfl⟩
  · rcases (by omega : k ≤ len ∨ (len : Int) < k) with h2 | h2
    · go_enter Try.func26, Try.ntmps26
      go_wp2
      go_ret
      exact ⟨ret_bool (by rw [decide_eq_decide]; omega), rfl⟩
    · go_enter Try.func26, Try.ntmps26
      go_wp2
      go_ret
      exact ⟨by simp; omega, rfl⟩

theorem getFour_ref (A : Option Addr) (len cap : Nat) (k : Int) (xs : List UInt8) (hlen : Hid (xs.length = len)) (hlc : len ≤ cap) (hcap : cap ≤ 9223372036854775807) (w : World) (hx : Byt w w.heap.size A xs) :
    Calls Try.prog 21 #[.slice A len cap, .int .i64 k] w fun e w' => e = .returned (.tuple #[.int .u32 (gv 4 xs k), .int .i64 (ge 4 len k)]) ∧ w = w' := by
  obtain rfl := hlen.out
  by_cases h : 0 ≤ k ∧ k + (4 : Nat) ≤ xs.length
  · have hd : decide (0 ≤ k ∧ k + (4 : Nat) ≤ xs.length) = true := by simpa using h
    have hv := gv_bounds 4 xs k
    rw [gv_yes h] at hv
    rw [ge_yes h, gv_yes h]
    obtain ⟨n, rfl⟩ := Int.eq_ofNat_of_zero_le h.1
    rw [Int.toNat_natCast] at hv ⊢
    have hn : n + 4 ≤ xs.length := by omega
    obtain ⟨v0, v1⟩ := hv
    simp only [Int.reducePow] at v1
    obtain ⟨ad, rfl, hp⟩ := hx.part hn (by omega)
    have hHd := Lib.hid hd
    clear hd h
    go_enter Try.func21, Try.ntmps21
    go_wp2_with fail
    refine (there_ref _ _ cap n 4 (by omega) (by omega) _).mono ?_
    rintro e w1 ⟨rfl, rfl⟩
    rw [hHd.out]
    go_wp2_with fail
    refine (number_ref _ 4 _ _ (Lib.hid (by simp; omega)) (by omega) _ hp).mono ?_
    rintro e w1 ⟨rfl, rfl⟩
    go_wp2
    go_ret2
    exact ⟨rfl, rfl⟩
  · have hd : decide (0 ≤ k ∧ k + (4 : Nat) ≤ xs.length) = false := by simpa using h
    rw [ge_no h, gv_no h]
    have hHd := Lib.hid hd
    clear hd h
    go_enter Try.func21, Try.ntmps21
    go_wp2_with fail
    refine (there_ref _ _ cap k 4 (by omega) (by omega) _).mono ?_
    rintro e w1 ⟨rfl, rfl⟩
    rw [hHd.out]
    go_wp2
    go_ret2
    exact ⟨rfl, rfl⟩
end Go.Proofs.Ytabnifphpphedaa
