/-
  Package code: slices.Backward over bytes, and gather, which ranges over it. Conditions: those that each lemma states.
-/
import Derived.Test.YtgnogclhleheiaaCode
import Derived.RangeFuncNested
import Derived.RangeFuncBox
import Derived.RangeFuncBound
import Derived.RangeFuncCalls
import Derived.RangeFuncLeaves
import Derived.Shelf.Abstract
import Derived.Shelf.RegionOpen
import Derived.OwnWalkIn
import Derived.TacticsInMore
import Derived.LoopNIn
import Derived.LoopIn
namespace Go.Proofs.Ytgnogclhleheiaa
open Go.RowKit Go.Shelf
attribute [local go_sem] Oper.semAt_some

/-- What a round keeps: all that lay below block n₀, and the box Bs. -/
def Keeps (n₀ Bs : Nat) (A B : World) : Prop := Below n₀ A B ∧ B.cell? ⟨Bs, 0, none⟩ = A.cell? ⟨Bs, 0, none⟩
theorem Keeps.trans {n₀ Bs : Nat} {A B C : World} (h : Keeps n₀ Bs A B) (h' : Keeps n₀ Bs B C) : Keeps n₀ Bs A C := ⟨h.1.trans h'.1, h'.2.trans h.2⟩

set_option maxRecDepth 100000 in
set_option maxHeartbeats 2000000 in
/-- The closure of slices.Backward, for every loop body that keeps what lay below n₀. -/
theorem back_in (F : Fence) (n : Nat) (hf : F.fn 119) (hro : F.round = none) (hn : 1 ≤ n) (l Bs n₀ cap : Nat) (ad : Addr) (xs : List UInt8) (hm : xs.length ≤ 9223372036854775807) (hb : ad.block < n₀) (J Jx : List (Nat × UInt8) → World → Prop)
    (hY : ∀ pre x W, J pre W → pre.length < xs.length → YieldAt F (n - 1) Try.prog l #[.int .i64 (x.1 : Int), .int .u8 (x.2.toNat : Int)] W fun e W' =>
      (e = .returned (.bool true) ∧ J (pre ++ [x]) W' ∧ Keeps n₀ Bs W W') ∨ (e = .returned (.bool false) ∧ Jx (pre ++ [x]) W'))
    (W : World) (hBs : W.cell? ⟨Bs, 0, none⟩ = some (.slice (some ad) xs.length cap)) (hc : ∀ j, j < xs.length → W.cell? (ad.add j) = some (.int .u8 ((xs[j]?.getD 0).toNat : Int))) (h0 : J [] W) :
    CallsIn F n Try.prog 119 #[.func (.yield l) #[] #[], .pointer (some ⟨Bs, 0, none⟩)] W fun e W' => (∃ v, e = .returned v) ∧
      ((∃ ys, ys = back xs xs.length ∧ J ys W') ∨ (∃ pre, (∃ k, k ≤ xs.length ∧ pre = back xs k) ∧ Jx pre W')) := by
  refine callsIn_of_wp Try.func119 rfl hf ?_ hro
  simp only [Try.ntmps119, List.size_toArray, List.length_cons, List.length_nil, Nat.reduceAdd, Nat.reduceSub, Array.replicate_succ, Array.replicate_zero, List.push_toArray, List.append_toArray, List.nil_append, List.cons_append]
  gi_wp2
  gi_loopw [3] (fun i wr => ∃ k : Nat, k ≤ xs.length ∧ i = .int .i64 ((xs.length : Int) - 1 - k) ∧ J (back xs k) wr ∧ Below n₀ W wr ∧ wr.cell? ⟨Bs, 0, none⟩ = some (.slice (some ad) xs.length cap))
    (fun i _ => (intOf i + 1).toNat)
  case atStart => exact ⟨0, Nat.zero_le _, by simp, h0, Below.refl _ _, hBs⟩
  case round =>
    obtain ⟨k, hk, rfl, hJs, hnx, hbs⟩ := hrel
    by_cases hlt : k < xs.length
    · have hcx : wr.cell? (ad.add (xs.length - 1 - k)) = some (.int .u8 ((xs[xs.length - 1 - k]?.getD 0).toNat : Int)) := (hnx.cell (p := ad.add (xs.length - 1 - k)) (by rw [add_block]; exact hb)).trans (hc _ (by omega))
      obtain ⟨fn, tmps, assign, body, hy, hR⟩ := hY _ (xs.length - 1 - k, xs[xs.length - 1 - k]?.getD 0) wr hJs (by rw [back_length]; exact hlt)
      dsimp only at hy
      have e1 : ((xs.length : Int) - 1 - k).toNat = xs.length - 1 - k := by omega
      have e2 : ((xs.length - 1 - k : Nat) : Int) = (xs.length : Int) - 1 - k := by omega
      rw [e2] at hy
      gi_wp2
      refine hR.mono ?_
      rintro e W3 (⟨rfl, hJ3, hk3⟩ | ⟨rfl, hJx3⟩)
      · gi_wp2
        go_roundw
        case rel => exact ⟨k + 1, by omega, by go_num, by rw [back_succ]; exact hJ3, hnx.trans hk3.1, hk3.2.trans hbs⟩
        case measure => simp [intOf]; omega
      · gi_wp2
        refine bodyPost_ret (results_none rfl _ _ _) rfl ?_
        exact ⟨⟨_, rfl⟩, .inr ⟨_, ⟨k + 1, by omega, (back_succ _ _).symm⟩, hJx3⟩⟩
    · obtain rfl : k = xs.length := by omega
      gi_wp2
      go_end0
      exact ⟨⟨_, rfl⟩, .inl ⟨_, rfl, hJs⟩⟩

set_option maxHeartbeats 1000000 in
/-- slices.Backward(s): the slice value is boxed; the function value captures the box. -/
theorem backward_in (F : Fence) (n : Nat) (hf : F.fn 116) (hro : F.round = none) (a : Option Addr) (len cap : Nat) (w : World) :
    CallsIn F n Try.prog 116 #[.slice a len cap] w fun e w' => e = .returned (.func (.func 119) #[] #[.pointer (some ⟨w.heap.size, 0, none⟩)]) ∧ w' = w.alloc (.cells #[.slice a len cap] 26) := by
  refine callsIn_of_wp Try.func116 rfl hf ?_ hro
  simp only [Try.ntmps116, List.size_toArray, List.length_cons, List.length_nil, Nat.reduceAdd, Nat.reduceSub, Array.replicate_succ, Array.replicate_zero, List.push_toArray, List.append_toArray, List.nil_append, List.cons_append]
  gi_wp2
  go_ret
  exact ⟨rfl, rfl⟩

/-- slices.Backward(s) hands back a value that gives the pairs from behind: all, or the first k of them. -/
theorem backward_stops (F : Fence) (n : Nat) (hf : F.fn 119) (hro : F.round = none) (hn : 1 ≤ n) (Bs n₀ cap : Nat) (ad : Addr) (xs : List UInt8) (hm : xs.length ≤ 9223372036854775807) (w : World) (hBs : Bs < w.heap.size) (hn₀ : n₀ ≤ w.heap.size)
    (hc : w.cell? ⟨Bs, 0, none⟩ = some (.slice (some ad) xs.length cap)) (hb : ad.block < n₀) (hx : ∀ j, j < xs.length → w.cell? (ad.add j) = some (.int .u8 ((xs[j]?.getD 0).toNat : Int))) :
    SeqStopsK F n Try.prog 119 #[.pointer (some ⟨Bs, 0, none⟩)] (fun x : Nat × UInt8 => #[Value.int .i64 (x.1 : Int), Value.int .u8 (x.2.toNat : Int)]) (Keeps n₀ Bs) (fun ys => ys = back xs xs.length)
      (fun pre => ∃ k, k ≤ xs.length ∧ pre = back xs k) xs.length w := fun l J Jx W hW _ _ hY h0 => by
  have hc' := (hW.cell (p := ⟨Bs, 0, none⟩) hBs).trans hc
  exact back_in F n hf hro hn l Bs n₀ cap ad xs hm hb J Jx hY W hc' (fun j hj => (hW.cell (p := ad.add j) (by rw [add_block]; omega)).trans (hx j hj)) h0

/-- What the loop itself turns keeps it. -/
theorem keeps_b {W w : World} {Bs n₀ : Nat} (hBs : Bs < w.heap.size) (hn₀ : n₀ ≤ w.heap.size) (l : Nat) (o o' : Obj) (hl : w.heap.size ≤ l) (h1 : W.heap[l]? = some o) (h2 : o.isCells = false) (h3 : o.isWalk = false) : Keeps n₀ Bs W (W.putObj l o') :=
  ⟨belowK_b hn₀ W l o o' hl h1 h2 h3, World.cell?_of_block (World.putObj_heap_other (k := Bs) (by omega))⟩

set_option maxRecDepth 100000 in
set_option maxHeartbeats 2000000 in
theorem gather_in (F : Fence) (n : Nat) (h3 : F.fn 108) (h5 : F.fn 116) (h7 : F.fn 119) (hro : F.round = none) (hn : 3 ≤ n)
    (ad : Addr) (len cap m k : Nat) (ys : List UInt8) (hk : ys.length = m) (hm0 : 0 < m) (hm : m ≤ 4) (hle : k + m ≤ len) (hlc : len ≤ cap) (hcap : cap ≤ 9223372036854775807) (w : World)
    (hb : ad.block < w.heap.size) (hx : ∀ j, j < ys.length → w.cell? ((ad.add k).add j) = some (.int .u8 ((ys[j]?.getD 0).toNat : Int))) :
    CallsIn F n Try.prog 108 #[.slice (some ad) len cap, .int .i64 k, .int .i64 m] w fun e W' => e = .returned (.tuple #[.int .u32 (num ys), .int .i64 0]) ∧ Below w.heap.size w W' := by
  have h1 : 1 ≤ n := by omega
  refine callsIn_of_wp_marks Try.func108 rfl h3 ?_ hro
  simp only [Try.ntmps108, List.size_toArray, List.length_cons, List.length_nil, Nat.reduceAdd, Nat.reduceSub, Array.replicate_succ, Array.replicate_zero, List.push_toArray, List.append_toArray, List.nil_append, List.cons_append]
  gi_wp2_with (gi_at_call 116; refine (backward_in F (n - 1) h5 hro _ _ _ _).mono ?_; rintro e w' ⟨rfl, rfl⟩)
  obtain rfl := hk
  have bN := Boxed.new w 54 (.int .u32 0)
  have bS := Boxed.new (w.alloc (.cells #[.int .u32 0] 54)) 26 (.slice (some (ad.add k)) ys.length (cap - k))
  rw [World.size_alloc] at bS
  have hB0 : Below w.heap.size w ((w.alloc (.cells #[.int .u32 0] 54)).alloc (.cells #[.slice (some (ad.add k)) ys.length (cap - k)] 26)) := ((Below.refl _ w).alloc (Nat.le_refl _) _).alloc (by simp) _
  refine wpIn_rangeFunc_ownG hro h1 (gf := 119) (lb := #[.pointer (some ⟨w.heap.size + 1, 0, none⟩)]) rfl h7 (enters_of Try.func119 (by kernel_rfl) rfl)
    (backward_stops F (n - 1) h7 hro (by omega) (w.heap.size + 1) w.heap.size (cap - k) (ad.add k) ys (by omega) _ (by simp) (by simp; omega) bS.cell (by rw [add_block]; exact hb) (fun j hj => (hB0.cell (p := (ad.add k).add j) (by rw [add_block, add_block]; exact hb)).trans (hx j hj)))
    (fun h h' => Keeps.trans h h') (fun W l o o' hl h1 h2 h3 => keeps_b (by simp) (by simp; omega) l o o' hl h1 h2 h3) (Below.refl _ _) (fun _ => rfl)
    (fun pre W => (W.cell? ⟨w.heap.size, 0, none⟩ = some (.int .u32 (val pre)) ∧ W.frozen? ⟨w.heap.size, 0, none⟩ = false) ∧ Below w.heap.size w W)
    (fun _ _ _ => False)
    (OwnFrom.and (Own.from (fun s A B row hs hg hr => ⟨cell_kept hs.1 hg hr, (frozen_kept hs.1 hg hr).trans hs.2⟩) _) (ownFrom_below (Nat.le_refl _) (by simp; omega)))
    (fun _ _ _ _ _ hs _ _ => hs)
    ⟨⟨(bN.alloc _).cell, (bN.alloc _).frozen⟩, hB0⟩
    (fun x => { tmps := #[.slice (some ad) len cap, .int .i64 k, .int .i64 ys.length, undef, undef, undef, .int .u32 0, .int .i64 0, .pointer (some ⟨w.heap.size, 0, none⟩), undef, .int .u8 (x.2.toNat : Int), .int .i64 k, .bool (decide ((k : Int) < 0)), .bool (decide ((k : Int) < 0)),
      .int .i64 k, .slice (some ad) len cap, .int .i64 len, .int .i64 ys.length, .int .i64 ((len : Int) - ys.length), .bool (decide ((len : Int) - ys.length < k)), .bool (decide ((k : Int) < 0) || decide ((len : Int) - ys.length < k)), .slice (some ad) len cap, .int .i64 k, .int .i64 k, .int .i64 ys.length, .int .i64 ((k : Int) + ys.length),
      .slice (some (ad.add k)) ys.length (cap - k), .func (.func 119) #[] #[.pointer (some ⟨w.heap.size + 1, 0, none⟩)], .int .i64 (x.1 : Int), .int .u8 (x.2.toNat : Int), undef, undef, undef, undef, undef, undef], defers := [] }) ?assign ?body ?done ?stop
  case assign =>
    intro l x W K hK
    gi_wp2
    exact hK
  case body =>
    rintro l pre x W ⟨⟨hc, hf⟩, hB⟩ hlen
    obtain ⟨v0, v1⟩ := val_small pre (by omega)
    have hx2 := x.2.toNat_lt
    have hor := or_low (val pre) x.2 v0 v1
    gi_wp2
    exact ⟨(KeepsOthers.setCell _ _ _).from _, ⟨(Below.refl w.heap.size W).setCell (p := ⟨w.heap.size, 0, none⟩) (Nat.le_refl _) _, World.cell?_setCell_other _ _ _ _ (by simp)⟩,
      ⟨by rw [val_snoc]; exact World.cell?_setCell_same' _ _ _ (by rw [hc]; rfl), by rw [World.frozen?_setCell]; exact hf⟩, hB.setCell (p := ⟨w.heap.size, 0, none⟩) (Nat.le_refl _) _⟩
  case done =>
    rintro D zs W hD rfl ⟨⟨hc, _⟩, hB⟩ hK
    rw [val_all] at hc
    gi_wp2
    refine ⟨by simp, .inl ⟨_, _, rfl, run_takeDeferred hK, ?_⟩⟩
    exact ⟨_, results_tmp2 rfl _ _ _, rfl, hB.trans (belowK_b (w := w) (Nat.le_refl _) W D _ _ (by simp at hD; omega) hK rfl rfl)⟩
  case stop =>
    rintro D c pre W _ _ h _
    exact h.elim
end Go.Proofs.Ytgnogclhleheiaa
