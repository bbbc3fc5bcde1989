/-
  A block that holds bytes, known whole: how it is made, copied into, turned at one place, read. Conditions: those that each lemma states.
-/
import Derived.Test.YtgnogclhleheiaaBase
import Derived.Test.YtgnogclhleheiaaCode
import Derived.Laws.Rows
import Derived.Laws.CopyOwn
import Derived.Laws.MakeOwn
import Derived.Lib.Hide
namespace Go.Proofs.Ytgnogclhleheiaa
open Go.RowKit

theorem u8_info0 : (Try.prog.info? 5).map (fun i => (i.zero, i.size, i.bytes)) = some (some (.int .u8 0), 1, 1) := by kernel_rfl
theorem u8_size : (Try.prog.info? 5).map (·.size) = some 1 := by kernel_rfl

/-- The cells of some bytes. -/
def rowA (xs : List UInt8) : Array Value := (u8s xs).toArray
/-- Block g holds just these bytes. -/
def Row (w : World) (g : Nat) (xs : List UInt8) : Prop := w.heap[g]? = some (.cells (u8s xs).toArray 5 (0, 0))
def zeros (n : Nat) : List UInt8 := List.replicate n 0
theorem zeros_length (n : Nat) : (zeros n).length = n := by simp [zeros]
theorem u8s_length (xs : List UInt8) : (u8s xs).length = xs.length := by simp [u8s]
theorem u8s_one (xs : List UInt8) : ∀ v ∈ u8s xs, v.oneCell' = true := by
  intro v hv
  simp only [u8s, List.mem_map] at hv
  obtain ⟨x, _, rfl⟩ := hv
  rfl
theorem u8s_get (xs : List UInt8) (j : Nat) (h : j < xs.length) : (u8s xs)[j]? = some (.int .u8 ((xs[j]?.getD 0).toNat : Int)) := by
  simp [u8s, h]
theorem u8s_take (xs : List UInt8) (k : Nat) : (u8s xs).take k = u8s (xs.take k) := by simp [u8s, List.map_take]
theorem u8s_drop (xs : List UInt8) (k : Nat) : (u8s xs).drop k = u8s (xs.drop k) := by simp [u8s, List.map_drop]
theorem u8s_splice (L : List UInt8) (off : Nat) (cs : List UInt8) : splice (u8s L) off (u8s cs) = u8s (splice L off cs) := by
  simp only [splice, u8s_length, u8s_take, u8s_drop, ← u8s_append]

theorem made_zeros (n : Nat) : madeCells (Value.int .u8 0).cells (n * 1) = rowA (zeros n) := by
  have hc : (Value.int .u8 0).cells = #[.int .u8 0] := rfl
  apply Array.ext
  · simp [madeCells, rowA, u8s, zeros]
  · intro i h1 h2
    simp [madeCells, rowA, u8s, zeros, hc, Nat.mod_one]
theorem make_bytes (n : Nat) (h : n ≤ 281474976710656) (w : World) :
    (Instr.makeSlice 26 (.int .i64 n) (.int .i64 n)).run Try.prog w = .ok (.slice (some ⟨w.heap.size, 0, none⟩) n n) (w.alloc (.cells (rowA (zeros n)) 5)) := by
  obtain ⟨i0, hi, hz0, hz1, hz2⟩ := info_parts u8_info0
  have := run_make (P := Try.prog) w 26 5 i0 (.int .u8 0) Try.underlying26 hi hz0 .i64 .i64 n n (by omega) (by omega) (by rw [hz2]; omega) (by omega)
  rw [hz1, Int.toNat_natCast, made_zeros] at this
  exact this
theorem Row.new (w : World) (xs : List UInt8) : Row (w.alloc (.cells (rowA xs) 5)) w.heap.size xs := heap_alloc_new w _
section
variable {w w' : World} {g : Nat} {xs : List UInt8}
theorem Row.lt (h : Row w g xs) : g < w.heap.size := (Array.getElem?_eq_some_iff.1 h).1
theorem Row.keep (h : Row w g xs) (e : w'.heap[g]? = w.heap[g]?) : Row w' g xs := e.trans h
theorem Row.below {B : Nat} (h : Row w g xs) (hb : Below B w w') (hg : g < B) : Row w' g xs := h.keep (hb.block g hg)
theorem Row.after (h : Row w g xs) (hb : Below w.heap.size w w') : Row w' g xs := h.below hb h.lt
theorem Row.cell (h : Row w g xs) {j : Nat} (hj : j < xs.length) : w.cell? ⟨g, j, none⟩ = some (.int .u8 ((xs[j]?.getD 0).toNat : Int)) := by
  rw [cell_of_row _ _ _ _ _ _ h]
  simpa using u8s_get xs j hj
theorem Row.free (h : Row w g xs) (j : Nat) : w.frozen? ⟨g, j, none⟩ = false := frozen_of_row _ _ _ _ _ h
theorem add_off (g i j : Nat) : (⟨g, i, none⟩ : Addr).add j = ⟨g, i + j, none⟩ := by unfold Addr.add; split <;> simp_all
theorem Row.byt (h : Row w g xs) (k n : Nat) (hn : k + n ≤ xs.length) : Byt w w.heap.size (some ⟨g, k, none⟩) ((xs.drop k).take n) := fun hl =>
  ⟨_, rfl, h.lt, fun j hj => by
    have hj' : j < n := by simp at hj; omega
    rw [add_off, h.cell (by omega)]
    simp [hj']⟩
theorem Row.all (h : Row w g xs) : Byt w w.heap.size (some ⟨g, 0, none⟩) xs := by simpa using h.byt 0 xs.length (by omega)
theorem Row.tail (h : Row w g xs) (k : Nat) (hk : k ≤ xs.length) : Byt w w.heap.size (some ⟨g, k, none⟩) (xs.drop k) := by
  have := h.byt k (xs.length - k) (by omega)
  rwa [List.take_of_length_le (by simp)] at this
theorem Row.set (h : Row w g xs) (j : Nat) (x : UInt8) : Row (w.setCell ⟨g, j, none⟩ (.int .u8 (x.toNat : Int))) g (xs.set j x) := by
  have := heap_setCell_same w g j _ _ (.int .u8 (x.toNat : Int)) h
  show _ = _
  rw [this]
  congr 2
  simp [u8s, List.map_set]
end

/-- 'copy(dst, src)' into a block that is known whole: what it comes to. -/
theorem copy_byt {w : World} (ty : TypeId) {g off dLen dCap : Nat} {sp : Option Addr} {sLen sCap : Nat} {L : List UInt8} (hR : Row w g L) {B' : Nat} {ys : List UInt8} (hy : Byt w B' sp ys) (hlen : ys.length = sLen) (hfit : off + min sLen dLen ≤ L.length) :
    ∃ w', (Builtin.copy_ #[26, 26] ty #[.slice (some ⟨g, off, none⟩) dLen dCap, .slice sp sLen sCap]).run Try.prog w = .ok (.int .i64 (min sLen dLen : Nat)) w' ∧ Row w' g (splice L off (ys.take (min sLen dLen))) ∧ Below g w w' := by
  rcases Nat.eq_zero_or_pos (min sLen dLen) with h0 | h0
  · refine ⟨w, ?_, ?_, Below.refl _ _⟩
    · rw [h0]
      exact run_copy_none w _ _ ty 5 _ _ dLen dCap sLen sCap Try.underlying26 u8_size h0
    · rw [h0]
      simpa [splice] using hR
  · obtain ⟨ad, rfl, _, hc⟩ := hy (by omega)
    have hl : (ys.take (min sLen dLen)).length = min sLen dLen := by simp; omega
    have hr := run_copy_row (P := Try.prog) w 26 26 ty 5 g off dLen dCap ad sLen sCap _ 5 (u8s (ys.take (min sLen dLen))) Try.underlying26 u8_size hR (by rw [u8s_length, hl]) (fun j v hj => by
      have hj' : j < (ys.take (min sLen dLen)).length := by
        have := (List.getElem?_eq_some_iff.1 hj).1
        simpa [u8s] using this
      have hj2 : j < min sLen dLen := by rwa [hl] at hj'
      rw [hc j (by omega), ← hj, u8s_get _ _ hj', List.getElem?_take_of_lt hj2]) (by rw [u8s_length, hl]; simpa [u8s] using hfit) (u8s_one _)
    rw [u8s_length, hl] at hr
    refine ⟨_, hr, ?_, below_setRow (Below.refl _ _) (Nat.le_refl _) _⟩
    have h2 := setRow_heap w g _ ((u8s L).take off ++ u8s (ys.take (min sLen dLen)) ++ (u8s L).drop (off + min sLen dLen)).toArray 5 _ hR
    show _ = _
    rw [← u8s_splice, splice, u8s_length, hl, ← List.append_assoc]
    exact h2
end Go.Proofs.Ytgnogclhleheiaa
