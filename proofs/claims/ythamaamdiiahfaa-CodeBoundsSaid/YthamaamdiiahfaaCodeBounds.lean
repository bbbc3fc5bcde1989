/-
  For every number n, bytes b and place at CodeBounds answers true and leaves its arguments as they were. No condition.
-/
import Derived.Test.YthamaamdiiahfaaGet
namespace Go.Proofs.Ythamaamdiiahfaa.codeBounds
open Go.ChangeShapes Go.WideShapes Go.RowKit

theorem own : ownKnob Try.prog.godebug = none := by kernel_rfl
theorem laidOut : laidOutB Try.prog = true := by kernel_rfl

set_option maxHeartbeats 1000000 in
theorem walk (n : Int) (wn : (Lit.int .i64 n).wf = true) (A : Option Addr) (len cap : Nat) (xs : List UInt8) (hlen0 : xs.length = len) (hlc : len ≤ cap) (hcap : cap ≤ 9223372036854775807) (k : Int) (wk : (Lit.int .i64 k).wf = true) (w : World) (hx : Byt w w.heap.size A xs) :
    Calls Try.prog 6 #[.int .i64 n, .slice A len cap, .int .i64 k] w fun e w' => e = .returned (.bool true) ∧ Below w.heap.size w w' := by
  have hn : -9223372036854775808 ≤ n ∧ n ≤ 9223372036854775807 := by simpa [Lit.wf, IntKind.min, IntKind.max, IntKind.signed, IntKind.bits] using wn
  have hk : -9223372036854775808 ≤ k ∧ k ≤ 9223372036854775807 := by simpa [Lit.wf, IntKind.min, IntKind.max, IntKind.signed, IntKind.bits] using wk
  have hlen := Lib.hid hlen0
  clear hlen0 wn wk
  by_cases hbig : 10000 < len
  · go_enter Try.func6, Try.ntmps6
    go_wp2_with (go_at_call 12; refine (alive_ok _).mono ?_; rintro e w1 ⟨rfl, hb1⟩)
    go_ret
    exact ⟨rfl, hb1⟩
  · have hsmall : len ≤ 10000 := by omega
    clear hbig
    have hG : ∀ m : Nat, m ≤ 4 → (k < 0 ∧ ge m len k = 8 ∧ gv m xs k = 0) ∨ (0 ≤ k ∧ k ≤ (len : Int) - m ∧ ge m len k = 0) ∨ (0 ≤ k ∧ (len : Int) - m < k ∧ ge m len k = 8 ∧ gv m xs k = 0) := fun m hm => by
      have hl := hlen.out
      rcases (by omega : k < 0 ∨ 0 ≤ k) with h | h
      · exact .inl ⟨h, ge_no (by omega), gv_no (by omega)⟩
      · rcases (by omega : (len : Int) - m < k ∨ k ≤ (len : Int) - m) with h2 | h2
        · exact .inr (.inr ⟨h, h2, ge_no (by omega), gv_no (by omega)⟩)
        · exact .inr (.inl ⟨h, h2, ge_yes (by omega)⟩)
    have hN : (n < 0 ∧ te n = 2 ∧ tb n = []) ∨ (0 ≤ n ∧ n < 65536 ∧ te n = 0) ∨ (0 ≤ n ∧ 65536 ≤ n ∧ te n = 2 ∧ tb n = []) := by
      rcases (by omega : n < 0 ∨ 0 ≤ n) with h | h
      · exact .inl ⟨h, te_no (by omega), tb_no (by omega)⟩
      · rcases (by omega : n < 65536 ∨ 65536 ≤ n) with h2 | h2
        · exact .inr (.inl ⟨h, h2, te_yes (by omega)⟩)
        · exact .inr (.inr ⟨h, h2, te_no (by omega), tb_no (by omega)⟩)
    have h2 := hG 2 (by omega)
    have h4 := hG 4 (by omega)
    clear hG
    rcases hN with ⟨n1, n2, n3⟩ | ⟨n1, n2, n3⟩ | ⟨n1, n2, n3, n4⟩
    all_goals rcases h2 with ⟨p1, p2, p3⟩ | ⟨p1, p2, p3⟩ | ⟨p1, p2, p3, p4⟩
    all_goals rcases h4 with ⟨q1, q2, q3⟩ | ⟨q1, q2, q3⟩ | ⟨q1, q2, q3, q4⟩
    all_goals first | (exfalso; omega) | skip
    all_goals
      go_enter Try.func6, Try.ntmps6
      go_wp2_with fail
      refine (alive_ok _).mono ?_
      rintro e w1 ⟨rfl, hb1⟩
      go_wp2_with fail
      refine (two_any n _).mono ?_
      rintro e w2 ⟨B, rfl, _, hb2⟩
      have hb := bstep hb1 hb2
      clear hb1 hb2
      go_wp2_with fail
      refine (getTwo_any A len cap k xs hlen hlc hcap _ ((hx.below hb).more hb.size)).mono ?_
      rintro e w3 ⟨rfl, hb3⟩
      have hb4 := bstep hb hb3
      clear hb hb3
      go_wp2_with fail
      refine (getFour_any A len cap k xs hlen hlc hcap _ ((hx.below hb4).more hb4.size)).mono ?_
      rintro e w4 ⟨rfl, hb5⟩
      have hb := bstep hb4 hb5
      clear hb4 hb5
      go_wp2
      go_ret
      refine ⟨?_, hb⟩
      first | rfl | (simp; omega)


/-! ### The row's step -/
set_option maxRecDepth 100000 in
theorem lifted (os : Os) (started : os.Started) (H : Type) (enc : TypeId × Value → H) :
    ReturnsInHanded {} Try.checked os 6 .any (Rows.codeBoundsSpec.pre6 enc Try.prog Try.f6 Rows.codeBoundsRow.domain false) (Rows.codeBoundsSpec.post enc Try.prog Try.f6 false true false false) := by
  refine returnsInHanded_of_change (C := Try.checked) own started (by kernel_rfl) Try.func6
    (ChangeSpec.witness6 (enc := enc) (C := Try.checked) false ⟨#[], #[.int .i64 0, .slice none 0 0, .int .i64 0], []⟩ 8 (by kernel_rfl) (by kernel_rfl) (by kernel_rfl) (by kernel_rfl)) ?_
  intro W base args ds gs before hval0 hW _ _
  have hval : ∀ (j : Nat) t v, Try.f6.params[j]? = some t → args[j]? = some v → Value.okWide Try.prog W .any base t v := hval0
  have hW' := hW
  obtain ⟨p, q, hA0, hV, _, _, _⟩ := hW
  have hA : DataW.TrodAll enc Try.prog W 0 (fun _ => true) true Try.f6.params.toList args.toList ds p := hA0
  rw [Try.params6] at hA hval
  obtain ⟨v0, vs0, d0, ds0, p0, q0, hargs, rfl, _, h0, r0⟩ := trodAll_cons hA
  obtain ⟨v1, vs1, d1, ds1, p1, q1, rfl, rfl, _, h1, r1⟩ := trodAll_cons r0
  obtain ⟨v2, vs2, d2, ds2, p2, q2, rfl, rfl, _, h2, r2⟩ := trodAll_cons r1
  obtain ⟨rfl, rfl, _⟩ := trodAll_nil r2
  obtain rfl : args = #[v0, v1, v2] := by cases args; simp_all
  obtain ⟨rfl, _⟩ := trodVars_none hV
  obtain ⟨a0, rfl, _, _, w0⟩ := open_int Try.underlying3 (hval 0 3 v0 rfl rfl) h0
  obtain ⟨A1, n1, c1, x1, rfl, l1, m1, b1, y1⟩ := open_bytes Try.underlying22 Try.underlying5 (by kernel_rfl) (hval 1 22 v1 rfl rfl) h1
  obtain ⟨a2, rfl, _, _, w2⟩ := open_int Try.underlying3 (hval 2 3 v2 rfl rfl) h2
  clear hA0 hval0
  refine (walk a0 w0 A1 n1 c1 x1 y1 l1 m1 a2 w2 W b1).mono fun e W' ⟨he, hb⟩ => ?_
  subst he
  exact ⟨_, rfl, law_post laidOut (by rw [Try.params6]; decide +kernel) (by kernel_rfl) Try.underlying4 rfl ⟨rfl, by simp [Rows.codeBoundsSpec], rfl⟩ hW' hb⟩

theorem over : Rows.codeBoundsRow.holds Try.pinned (OpenSpec.ofChange Rows.codeBoundsSpec) :=
  OpenClaim.holds_of_wide 6 Try.f6 rfl rfl rfl rfl rfl rfl rfl ⟨rfl, rfl, rfl, rfl, rfl⟩ rfl rfl rfl rfl rfl (by kernel_rfl) Try.func6 (by kernel_rfl)
    (of_decide_eq_true (by kernel_rfl)) (by unfold Func.isWrapper; first | (rw [if_pos (by decide +kernel)]; kernel_rfl) | (rw [if_neg (by decide +kernel)]; exact ⟨rfl, rfl⟩))
    (fun os started H enc _ => lifted os started H enc)

end Go.Proofs.Ythamaamdiiahfaa.codeBounds
namespace Go.Proofs.Ythamaamdiiahfaa
theorem codeBounds_proved : Rows.CodeBoundsSaid := codeBounds.over
end Go.Proofs.Ythamaamdiiahfaa
