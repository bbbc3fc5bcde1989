/-
  For every two numbers a, b of 32 bits CodeUnlike answers true and leaves its arguments as they were. No condition.
-/
import Derived.Test.YthamaamdiiahfaaGet
namespace Go.Proofs.Ythamaamdiiahfaa.codeUnlike
open Go.ChangeShapes Go.WideShapes Go.RowKit

theorem own : ownKnob Try.prog.godebug = none := by kernel_rfl
theorem laidOut : laidOutB Try.prog = true := by kernel_rfl

theorem walk (a : Int) (wa : (Lit.int .u32 a).wf = true) (b : Int) (wb : (Lit.int .u32 b).wf = true) (w : World) :
    Calls Try.prog 7 #[.int .u32 a, .int .u32 b] w fun e w' => e = .returned (.bool true) ∧ Below w.heap.size w w' := by
  have ha : 0 ≤ a ∧ a ≤ 4294967295 := by simpa [Lit.wf, IntKind.min, IntKind.max, IntKind.signed, IntKind.bits] using wa
  have hb : 0 ≤ b ∧ b ≤ 4294967295 := by simpa [Lit.wf, IntKind.min, IntKind.max, IntKind.signed, IntKind.bits] using wb
  go_enter Try.func7, Try.ntmps7
  go_wp2_with fail
  refine (alive_ok _).mono ?_
  rintro e w1 ⟨rfl, hb1⟩
  go_wp2_with fail
  refine (four_any a (by omega) (by omega) _).mono ?_
  rintro e w2 ⟨A, rfl, hx, hb2⟩
  go_wp2_with fail
  refine (four_any b (by omega) (by omega) _).mono ?_
  rintro e w3 ⟨B, rfl, hy, hb3⟩
  have hxs := (hx.below hb3).str (P := Try.prog) 22 9 5 4 4 (le_length 4 a) Try.underlying22 Try.underlying5 Try.underlying9
  have hys := hy.str (P := Try.prog) 22 9 5 4 4 (le_length 4 b) Try.underlying22 Try.underlying5 Try.underlying9
  have heq : (le 4 a == le 4 b) = (a == b) := by
    rw [Bool.eq_iff_iff, beq_iff_eq, beq_iff_eq]
    exact ⟨fun h => le_inj 4 (by omega) (by simp; omega) (by omega) (by simp; omega) h, fun h => by rw [h]⟩
  have hx3 := hx.below hb3
  obtain ⟨ad, rfl, ha1, hac⟩ := hx3.at_ (by simp [le_length])
  obtain ⟨bd, rfl, hb1', hbc⟩ := hy.at_ (by simp [le_length])
  have c0 : w3.cell? ad = some (.int .u8 (a % 256)) := by
    have := hac 0 _ rfl
    rw [byte_toNat] at this
    simpa [Addr.add] using this
  have c3 : w3.cell? ⟨ad.block, ad.off + 3, none⟩ = some (.int .u8 (a / 16777216)) := by
    have := hac 3 _ rfl
    rw [byte_toNat] at this
    rw [show (⟨ad.block, ad.off + 3, none⟩ : Addr) = ad.add 3 by simp [Addr.add], this]
    congr 2
    omega
  clear hac hbc hx hy
  go_wp2_with fail
  refine (two_ok (a % 65536) (by omega) (by omega) _).mono ?_
  rintro e w4 ⟨C, rfl, hz, hb4⟩
  clear hxs hys heq
  have e2 : le 2 (a % 65536) = (le 4 a).take 2 := by
    simp only [le, List.take_succ_cons, List.take_zero]
    rw [show a % 65536 % 256 = a % 256 by omega, show a % 65536 / 256 % 256 = a / 256 % 256 by omega]
  have hsz : w2.heap.size ≤ w3.heap.size := hb3.size
  have hx4 : Byt w4 w2.heap.size (some ad) (le 4 a) := hx3.below (hb4.mono hsz)
  have hp : Byt w4 w2.heap.size (some ad) ((le 4 a).take 2) := by
    obtain ⟨ad', e, hp⟩ := hx4.part (k := 0) (n := 2) (by simp [le_length]) (by omega)
    cases e
    simpa [Addr.add] using hp
  rw [e2] at hz
  have hxs := fun n => (hz.drewN n).str (P := Try.prog) 22 9 5 2 2 (by simp [le_length]) Try.underlying22 Try.underlying5 Try.underlying9
  have hys := fun n => (hp.drewN n).str (P := Try.prog) 22 9 5 2 4 (by simp [le_length]) Try.underlying22 Try.underlying5 Try.underlying9
  have c3' : w4.cell? ⟨ad.block, ad.off + 3, none⟩ = some (.int .u8 (a / 16777216)) := (hb4.cell (p := ⟨ad.block, ad.off + 3, none⟩) (Nat.lt_of_lt_of_le ha1 hsz)).trans c3
  have c2' : w4.cell? ⟨ad.block, ad.off + 2, none⟩ = some (.int .u8 (a / 65536 % 256)) := by
    obtain ⟨ad', e, hb', hc⟩ := hx4.at_ (by simp [le_length])
    cases e
    have := hc 2 _ rfl
    rw [byte_toNat] at this
    rw [show (⟨ad.block, ad.off + 2, none⟩ : Addr) = ad.add 2 by simp [Addr.add], this]
    congr 2
    omega
  clear c3 c0 hx4 hp hz hx3 e2
  have hB : Below w.heap.size w w4 := (hb1.trans (hb2.mono hb1.size)).trans ((hb3.trans (hb4.mono hb3.size)).mono (Nat.le_trans hb1.size hb2.size))
  clear hb1 hb2 hb3 hb4 hsz
  by_cases hge : 65536 ≤ a
  · go_wp2
    go_quiet (fail)
    go_wp2
    go_ret
    exact ⟨rfl, below_drewN hB _⟩
  · have z2 : a / 65536 % 256 = 0 := by omega
    have z3 : a / 16777216 = 0 := by omega
    rw [z2] at c2'
    rw [z3] at c3'
    clear z2 z3
    go_wp2
    go_quiet (fail)
    go_wp2
    go_ret
    exact ⟨rfl, below_drewN hB _⟩


/-! ### The row's step -/
set_option maxRecDepth 100000 in
theorem lifted (os : Os) (started : os.Started) (H : Type) (enc : TypeId × Value → H) :
    ReturnsInHanded {} Try.checked os 7 .any (Rows.codeUnlikeSpec.pre6 enc Try.prog Try.f7 Rows.codeUnlikeRow.domain false) (Rows.codeUnlikeSpec.post enc Try.prog Try.f7 false true false false) := by
  refine returnsInHanded_of_change (C := Try.checked) own started (by kernel_rfl) Try.func7
    (ChangeSpec.witness6 (enc := enc) (C := Try.checked) false ⟨#[], #[.int .u32 0, .int .u32 0], []⟩ 8 (by kernel_rfl) (by kernel_rfl) (by kernel_rfl) (by kernel_rfl)) ?_
  intro W base args ds gs before hval0 hW _ _
  have hval : ∀ (j : Nat) t v, Try.f7.params[j]? = some t → args[j]? = some v → Value.okWide Try.prog W .any base t v := hval0
  have hW' := hW
  obtain ⟨p, q, hA0, hV, _, _, _⟩ := hW
  have hA : DataW.TrodAll enc Try.prog W 0 (fun _ => true) true Try.f7.params.toList args.toList ds p := hA0
  rw [Try.params7] at hA hval
  obtain ⟨v0, vs0, d0, ds0, p0, q0, hargs, rfl, _, h0, r0⟩ := trodAll_cons hA
  obtain ⟨v1, vs1, d1, ds1, p1, q1, rfl, rfl, _, h1, r1⟩ := trodAll_cons r0
  obtain ⟨rfl, rfl, _⟩ := trodAll_nil r1
  obtain rfl : args = #[v0, v1] := by cases args; simp_all
  obtain ⟨rfl, _⟩ := trodVars_none hV
  obtain ⟨a0, rfl, _, _, w0⟩ := open_int Try.underlying28 (hval 0 28 v0 rfl rfl) h0
  obtain ⟨a1, rfl, _, _, w1⟩ := open_int Try.underlying28 (hval 1 28 v1 rfl rfl) h1
  clear hA0 hval0
  refine (walk a0 w0 a1 w1 W).mono fun e W' ⟨he, hb⟩ => ?_
  subst he
  exact ⟨_, rfl, law_post laidOut (by rw [Try.params7]; decide +kernel) (by kernel_rfl) Try.underlying4 rfl ⟨rfl, by simp [Rows.codeUnlikeSpec], rfl⟩ hW' hb⟩

theorem over : Rows.codeUnlikeRow.holds Try.pinned (OpenSpec.ofChange Rows.codeUnlikeSpec) :=
  OpenClaim.holds_of_wide 7 Try.f7 rfl rfl rfl rfl rfl rfl rfl ⟨rfl, rfl, rfl, rfl, rfl⟩ rfl rfl rfl rfl rfl (by kernel_rfl) Try.func7 (by kernel_rfl)
    (of_decide_eq_true (by kernel_rfl)) (by unfold Func.isWrapper; first | (rw [if_pos (by decide +kernel)]; kernel_rfl) | (rw [if_neg (by decide +kernel)]; exact ⟨rfl, rfl⟩))
    (fun os started H enc _ => lifted os started H enc)

end Go.Proofs.Ythamaamdiiahfaa.codeUnlike
namespace Go.Proofs.Ythamaamdiiahfaa
theorem codeUnlike_proved : Rows.CodeUnlikeSaid := codeUnlike.over
end Go.Proofs.Ythamaamdiiahfaa
