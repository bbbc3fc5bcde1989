/-
  The package scionrylaw02: alive. No condition.
-/
import Derived.Test.YtabnifphpphedaaSumSeal
import Derived.Lib.SlBytesConst
namespace Go.Proofs.Ytabnifphpphedaa
open Go.RowKit

theorem byt_frozen (w : World) (t : TypeId) (fr : Nat × Nat) (xs : List UInt8) (cs : Array Value) (hc : cs.toList = xs.map fun x => Value.int .u8 (x.toNat : Int)) : Byt (w.alloc (.cells cs t fr)) (w.heap.size + 1) (some ⟨w.heap.size, 0, none⟩) xs := fun _ =>
  ⟨_, rfl, by simp, fun j hj => by
    have e : (⟨w.heap.size, 0, none⟩ : Addr).add j = ⟨w.heap.size, j, none⟩ := by unfold Addr.add; split <;> simp_all
    have e2 : cs[j]? = some (.int .u8 ((xs[j]?.getD 0).toNat : Int)) := by
      rw [← Array.getElem?_toList, hc, List.getElem?_map, List.getElem?_eq_getElem hj]
      rfl
    rw [e, ← e2]
    exact cell_of_row _ _ _ _ _ _ (heap_alloc_new w _)⟩
theorem crc_digits : crc [49, 50, 51, 52, 53, 54, 55, 56, 57] = 3421780262 := by decide +kernel
theorem alive_sum (w : World) : Calls Try.prog 11 #[] w fun e W' => e = .returned (.bool true) ∧ Below w.heap.size w W' := by
  have kc := fun (w : World) (C : Array Value) (n c : Nat) => Lib.run_convert_bytes_const (P := Try.prog) w 22 5 C n c Try.underlying22 Try.underlying5
  go_enter Try.func11, Try.ntmps11
  go_wp2_with fail
  refine (of_any _ 9 9 [49, 50, 51, 52, 53, 54, 55, 56, 57] (Lib.hid rfl) (by omega) (by omega) _ (by simpa using byt_frozen w 5 _ [49, 50, 51, 52, 53, 54, 55, 56, 57] _ rfl)).mono ?_
  rintro e w1 ⟨rfl, hb1⟩
  rw [crc_digits]
  go_wp2
  go_ret
  exact ⟨rfl, bstep (balloc (Below.refl _ _) _) hb1⟩
end Go.Proofs.Ytabnifphpphedaa
