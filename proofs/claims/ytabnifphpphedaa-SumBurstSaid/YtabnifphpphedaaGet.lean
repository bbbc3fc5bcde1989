/-
  Package code: GetTwo and GetFour. Conditions: those that each lemma states.
-/
import Derived.Test.YtabnifphpphedaaGather
import Derived.Lib.Hide
namespace Go.Proofs.Ytabnifphpphedaa
open Go.RowKit

theorem gather_ok (A : Option Addr) (len cap m k : Nat) (xs : List UInt8) (hlen : xs.length = len) (hm0 : 0 < m) (hm : m ≤ 4) (hle : k + m ≤ len) (hlc : len ≤ cap) (hcap : cap ≤ 9223372036854775807) (w : World) (hx : Byt w w.heap.size A xs) :
    Calls Try.prog 23 #[.slice A len cap, .int .i64 k, .int .i64 m] w fun e W' => e = .returned (.tuple #[.int .u32 (num ((xs.drop k).take m)), .int .i64 0]) ∧ Below w.heap.size w W' := by
  subst hlen
  obtain ⟨ad, rfl, hp⟩ := hx.part hle hm0
  have hl : ((xs.drop k).take m).length = m := by simp; omega
  obtain ⟨ad', e, hb, hc⟩ := hp (by omega)
  cases e
  exact callsIn_wide.1 (gather_in Fence.wide 3 trivial trivial trivial rfl (Nat.le_refl _) ad xs.length cap m k _ hl hm0 hm hle hlc hcap w (by rw [add_block] at hb; exact hb) hc)

theorem gather_no (A : Option Addr) (len cap : Nat) (k : Int) (m : Nat) (hm : m ≤ 4) (hl : len ≤ 9223372036854775807) (h : k < 0 ∨ (len : Int) - m < k) (w : World) :
    Calls Try.prog 23 #[.slice A len cap, .int .i64 k, .int .i64 m] w fun e W' => e = .returned (.tuple #[.int .u32 0, .int .i64 8]) ∧ w = W' := by
  by_cases h' : k < 0
  · go_enter Try.func23, Try.ntmps23
    go_wp2
    go_ret2
    exact ⟨rfl, rfl⟩
  · have h2 : (len : Int) - m < k := by omega
    go_enter Try.func23, Try.ntmps23
    go_wp2
    go_ret2
    exact ⟨rfl, rfl⟩

theorem getFour_ok (A : Option Addr) (len cap k : Nat) (xs : List UInt8) (hlen : Hid (xs.length = len)) (hle : k + 4 ≤ len) (hlc : len ≤ cap) (hcap : cap ≤ 9223372036854775807) (w : World) (hx : Byt w w.heap.size A xs) :
    Calls Try.prog 17 #[.slice A len cap, .int .i64 k] w fun e W' => e = .returned (.tuple #[.int .u32 (num ((xs.drop k).take 4)), .int .i64 0]) ∧ Below w.heap.size w W' := by
  go_enter Try.func17, Try.ntmps17
  go_wp2_with fail
  refine (gather_ok A len cap 4 k xs hlen.out (by omega) (by omega) hle hlc hcap _ hx).mono ?_
  rintro e w1 ⟨rfl, hb⟩
  go_wp2
  go_ret2
  exact ⟨rfl, hb⟩

theorem getFour_no (A : Option Addr) (len cap : Nat) (k : Int) (hl : len ≤ 9223372036854775807) (h : k < 0 ∨ (len : Int) - 4 < k) (w : World) :
    Calls Try.prog 17 #[.slice A len cap, .int .i64 k] w fun e W' => e = .returned (.tuple #[.int .u32 0, .int .i64 8]) ∧ w = W' := by
  go_enter Try.func17, Try.ntmps17
  go_wp2_with fail
  refine (gather_no A len cap k 4 (by omega) hl h _).mono ?_
  rintro e w1 ⟨rfl, rfl⟩
  go_wp2
  go_ret2
  exact ⟨rfl, rfl⟩

/-! ### The contracts for every argument -/
def te (n : Int) : Int := if 0 ≤ n ∧ n < 65536 then 0 else 2
def tb (n : Int) : List UInt8 := if 0 ≤ n ∧ n < 65536 then le 2 n else []
def ge (m : Nat) (len : Nat) (k : Int) : Int := if 0 ≤ k ∧ k + m ≤ len then 0 else 8
def gv (m : Nat) (xs : List UInt8) (k : Int) : Int := if 0 ≤ k ∧ k + m ≤ xs.length then num ((xs.drop k.toNat).take m) else 0
theorem te_yes {n : Int} (h : 0 ≤ n ∧ n < 65536) : te n = 0 := if_pos h
theorem te_no {n : Int} (h : ¬ (0 ≤ n ∧ n < 65536)) : te n = 2 := if_neg h
theorem tb_yes {n : Int} (h : 0 ≤ n ∧ n < 65536) : tb n = le 2 n := if_pos h
theorem tb_no {n : Int} (h : ¬ (0 ≤ n ∧ n < 65536)) : tb n = [] := if_neg h
theorem ge_yes {m len : Nat} {k : Int} (h : 0 ≤ k ∧ k + m ≤ len) : ge m len k = 0 := if_pos h
theorem ge_no {m len : Nat} {k : Int} (h : ¬ (0 ≤ k ∧ k + m ≤ len)) : ge m len k = 8 := if_neg h
theorem gv_yes {m : Nat} {xs : List UInt8} {k : Int} (h : 0 ≤ k ∧ k + m ≤ xs.length) : gv m xs k = num ((xs.drop k.toNat).take m) := if_pos h
theorem gv_no {m : Nat} {xs : List UInt8} {k : Int} (h : ¬ (0 ≤ k ∧ k + m ≤ xs.length)) : gv m xs k = 0 := if_neg h
theorem gv_bounds (m : Nat) (xs : List UInt8) (k : Int) : 0 ≤ gv m xs k ∧ gv m xs k < (256 : Int) ^ m := by
  by_cases h : 0 ≤ k ∧ k + m ≤ xs.length
  · rw [gv_yes h]
    have hl : ((xs.drop k.toNat).take m).length = m := by simp; omega
    have h1 := num_lt ((xs.drop k.toNat).take m)
    rw [hl] at h1
    exact ⟨num_nonneg _, h1⟩
  · rw [gv_no h]
    exact ⟨by omega, Int.pow_pos (by omega)⟩

theorem getFour_any (A : Option Addr) (len cap : Nat) (k : Int) (xs : List UInt8) (hlen : Hid (xs.length = len)) (hlc : len ≤ cap) (hcap : cap ≤ 9223372036854775807) (w : World) (hx : Byt w w.heap.size A xs) :
    Calls Try.prog 17 #[.slice A len cap, .int .i64 k] w fun e W' => e = .returned (.tuple #[.int .u32 (gv 4 xs k), .int .i64 (ge 4 len k)]) ∧ Below w.heap.size w W' := by
  obtain rfl := hlen.out
  by_cases h : 0 ≤ k ∧ k + (4 : Nat) ≤ xs.length
  · rw [ge_yes h, gv_yes h]
    obtain ⟨n, rfl⟩ := Int.eq_ofNat_of_zero_le h.1
    rw [Int.toNat_natCast]
    exact getFour_ok A _ cap n xs hlen (by omega) hlc hcap w hx
  · rw [ge_no h, gv_no h]
    exact (getFour_no A xs.length cap k (by omega) (by omega) w).mono fun e w' ⟨he, hw⟩ => ⟨he, hw ▸ Below.refl _ _⟩
end Go.Proofs.Ytabnifphpphedaa
