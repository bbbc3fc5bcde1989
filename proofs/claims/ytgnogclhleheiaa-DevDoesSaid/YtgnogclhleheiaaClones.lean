/-
  slices.Clone at slices of bytes, and at writes. Conditions: those that each lemma states.
-/
import Derived.Test.YtgnogclhleheiaaClone
import Derived.Test.YtgnogclhleheiaaDisk
import Derived.Test.YtgnogclhleheiaaLast
namespace Go.Proofs.Ytgnogclhleheiaa
open Go.RowKit

/-- slices.Clone of bytes. -/
theorem clone_by (v : Value) (xs : List UInt8) (w : World) (hbig : xs.length ≤ 140737488355328) (h : rBy (Old w) w [v] xs) :
    Calls Try.prog 52 #[v] w fun e w' => ∃ u, e = .returned u ∧ rBy (New w.heap.size w') w' [u] xs ∧ Below w.heap.size w w' := by
  obtain ⟨A, cap, rfl, hl, hc, hb⟩ := rBy_byt (B := w.heap.size) (fun _ h => h) h
  refine (clone_any A xs.length cap xs (Lib.hid rfl) hbig w hb).mono ?_
  rintro e w' ⟨u, rfl, h1, h2⟩
  exact ⟨u, rfl, own_by h1, h2⟩

/-- The cells of a slice. -/
def Cells (w : World) (B : Nat) (A : Option Addr) (vs : List Value) : Prop := ∀ j v, vs[j]? = some v → ∃ ad, A = some ad ∧ ad.block < B ∧ w.cell? (ad.add j) = some v

theorem rows_info0 : (Try.prog.info? 26).map (fun i => (i.zero, i.size, i.bytes)) = some (some (.slice none 0 0), 1, 24) := by kernel_rfl
theorem wts_info0 : (Try.prog.info? 78).map (fun i => (i.zero, i.size, i.bytes)) = some (some (.agg #[.int .i64 0, .slice none 0 0]), 2, 32) := by kernel_rfl

set_option maxHeartbeats 1000000 in
set_option maxRecDepth 100000 in
theorem cloneRows_any (A : Option Addr) (n cap : Nat) (vs : List Value) (hlen : Hid (vs.length = n)) (hone : ∀ u ∈ vs, u.oneCell' = true) (hbig : n ≤ 100000) (w : World) (hx : Cells w w.heap.size A vs) :
    Calls Try.prog 59 #[.slice A n cap] w fun e w' => ∃ v, e = .returned v ∧ w'.ownsRow w.heap.size 26 1 v n vs ∧ Below w.heap.size w w' := by
  obtain ⟨i0, hi, hz0, hz1, hz2⟩ := info_parts rows_info0
  have q22 : ∀ (w : World) (a : Option Addr) (n c n' c' : Nat), (binOp .eql 22 (.slice a n c) (.slice none n' c')).run Try.prog w = .ok (.bool a.isNone) w := fun w a n c n' c' => Lib.run_eql_slice_nil w _ _ a n c n' c' Try.underlying22
  rcases A with _ | ad
  · have h0 : vs = [] := by
      rcases vs with _ | ⟨v, r⟩
      · rfl
      · obtain ⟨_, e, _⟩ := hx 0 v rfl
        cases e
    subst h0
    obtain rfl := hlen.out
    go_enter Try.func59, Try.ntmps59
    go_wp2
    go_ret
    exact ⟨_, rfl, World.ownsRow_nil _ _ _ _, Below.refl _ _⟩
  · go_enter Try.func59, Try.ntmps59
    go_wp2_with (at_builtin; refine wpList_append_own _ rfl _ _ 22 rfl w.heap.size 26 i0 (.slice none 0 0) 1 24 Try.underlying22 hi hz0 hz1 hz2 rfl (by decide) _ _ _ rfl (World.ownsRow_made w #[] 0 (Nat.le_refl _) (Nat.zero_le _) rfl) ad n cap vs rfl ?qc1 ?qc2 hone ?qc4 ?qc5 ?qc6 ?_)
    case qc1 => rw [hlen.out, Nat.mul_one]
    case qc2 =>
      intro j u hj
      obtain ⟨ad', e, hb, hc⟩ := hx j u hj
      cases e
      exact Lib.cell?_alloc_some _ hc
    case qc4 => unfold maxLen; omega
    case qc5 => omega
    case qc6 => simp
    intro v' w1 hown hgrow hnil
    go_wp2
    go_ret
    refine ⟨v', rfl, by simpa using hown, ?_⟩
    exact ((Below.refl _ w).alloc (Nat.le_refl _) _).grown hgrow (by simp) (by intro k hk; simp [Value.ownBlock] at hk; omega)

set_option maxHeartbeats 1000000 in
set_option maxRecDepth 100000 in
theorem cloneWts_any (A : Option Addr) (n cap : Nat) (vs : List Value) (hlen : Hid (vs.length = n * 2)) (hone : ∀ u ∈ vs, u.oneCell' = true) (hbig : n ≤ 100000) (w : World) (hx : Cells w w.heap.size A vs) :
    Calls Try.prog 60 #[.slice A n cap] w fun e w' => ∃ v, e = .returned v ∧ w'.ownsRow w.heap.size 78 2 v n vs ∧ Below w.heap.size w w' := by
  obtain ⟨i0, hi, hz0, hz1, hz2⟩ := info_parts wts_info0
  have q22 : ∀ (w : World) (a : Option Addr) (n c n' c' : Nat), (binOp .eql 23 (.slice a n c) (.slice none n' c')).run Try.prog w = .ok (.bool a.isNone) w := fun w a n c n' c' => Lib.run_eql_slice_nil w _ _ a n c n' c' Try.underlying23
  rcases A with _ | ad
  · have h0 : vs = [] := by
      rcases vs with _ | ⟨v, r⟩
      · rfl
      · obtain ⟨_, e, _⟩ := hx 0 v rfl
        cases e
    subst h0
    obtain rfl : n = 0 := by have := hlen.out; simp at this; omega
    go_enter Try.func60, Try.ntmps60
    go_wp2
    go_ret
    exact ⟨_, rfl, World.ownsRow_nil _ _ _ _, Below.refl _ _⟩
  · go_enter Try.func60, Try.ntmps60
    go_wp2_with (at_builtin; refine wpList_append_own _ rfl _ _ 23 rfl w.heap.size 78 i0 (.agg #[.int .i64 0, .slice none 0 0]) 2 32 Try.underlying23 hi hz0 hz1 hz2 rfl (by decide) _ _ _ rfl (World.ownsRow_made w #[] 0 (Nat.le_refl _) (Nat.zero_le _) rfl) ad n cap vs rfl ?qc1 ?qc2 hone ?qc4 ?qc5 ?qc6 ?_)
    case qc1 => rw [hlen.out]
    case qc2 =>
      intro j u hj
      obtain ⟨ad', e, hb, hc⟩ := hx j u hj
      cases e
      exact Lib.cell?_alloc_some _ hc
    case qc4 => unfold maxLen; omega
    case qc5 => omega
    case qc6 => simp
    intro v' w1 hown hgrow hnil
    go_wp2
    go_ret
    refine ⟨v', rfl, by simpa using hown, ?_⟩
    exact ((Below.refl _ w).alloc (Nat.le_refl _) _).grown hgrow (by simp) (by intro k hk; simp [Value.ownBlock] at hk; omega)

/-- make([][]byte, n). -/
theorem make_rows (n : Nat) (hn : n ≤ 100000) (w : World) : ∃ (ad : Addr) (w' : World), (Instr.makeSlice 22 (.int .i64 n) (.int .i64 n)).run Try.prog w = .ok (.slice (some ad) n n) w' ∧ ad.block = w.heap.size ∧
    w'.ownsRow w.heap.size 26 1 (.slice (some ad) n n) n (List.replicate n (.slice none 0 0)) ∧ Below w.heap.size w w' ∧ w'.heap.size = w.heap.size + 1 := by
  obtain ⟨i0, hi, hz0, hz1, hz2⟩ := info_parts rows_info0
  have h1 := run_make (P := Try.prog) w 22 26 i0 (.slice none 0 0) Try.underlying22 hi hz0 .i64 .i64 n n (by omega) (by omega) (by rw [hz2]; omega) (by omega)
  rw [hz1, Int.toNat_natCast] at h1
  refine ⟨_, _, h1, rfl, ⟨by simp, .inr ⟨_, n, _, rfl, Nat.le_refl _, heap_alloc_new w _, Nat.le_refl _, by unfold maxLen; omega, ?_, ?_⟩⟩, (Below.refl _ _).alloc (Nat.le_refl _) _, by simp⟩
  · have := congrArg List.length (made_one (.slice none 0 0) n)
    simpa [Value.cells] using this
  · have := made_one (.slice none 0 0) n
    simp only [Value.cells]
    rw [this]
    simp
end Go.Proofs.Ytgnogclhleheiaa
