/-
  For every block (any bytes) SumOpens answers true and leaves its argument as it was. No condition.
-/
import Derived.Test.YtabnifphpphedaaAlive02
namespace Go.Proofs.Ytabnifphpphedaa.sumOpens
open Go.ChangeShapes Go.WideShapes Go.RowKit

theorem own : ownKnob Try.prog.godebug = none := by kernel_rfl
theorem laidOut : laidOutB Try.prog = true := by kernel_rfl

theorem walk (A : Option Addr) (len cap : Nat) (xs : List UInt8) (hlen0 : xs.length = len) (hlc : len ≤ cap) (hcap : cap ≤ 9223372036854775807) (w : World) (hx : Byt w w.heap.size A xs) :
    Calls Try.prog 6 #[.slice A len cap] w fun e w' => e = .returned (.bool true) ∧ Below w.heap.size w w' := by
  have hlen := Lib.hid hlen0
  clear hlen0
  rcases (by omega : 10000 < len ∨ (len ≤ 10000 ∧ len ≠ 128) ∨ len = 128) with hbig | ⟨hs1, hne⟩ | he
  · go_enter Try.func6, Try.ntmps6
    go_wp2_with fail
    refine (alive_sum _).mono ?_
    rintro e w1 ⟨rfl, hb1⟩
    go_wp2_with fail
    go_ret
    exact ⟨rfl, hb1⟩
  · have hd : (!((len : Int) == 128)) = true := by simp; omega
    have hd2 : ((len : Int) != 128) = true := by simp; omega
    go_enter Try.func6, Try.ntmps6
    go_wp2_with fail
    refine (alive_sum _).mono ?_
    rintro e w1 ⟨rfl, hb1⟩
    go_wp2_with fail
    refine (open_no _ _ _ hne _).mono ?_
    rintro e w2 ⟨rfl, rfl⟩
    go_wp2_with fail
    go_ret
    exact ⟨rfl, hb1⟩
  · subst he
    obtain ⟨ad, rfl, hab, _⟩ := hx (by rw [hlen.out]; omega)
    by_cases hf : fits xs
    · have hbk := Lib.hid (seal_back hlen.out hf)
      go_enter Try.func6, Try.ntmps6
      go_wp2_with fail
      refine (alive_sum _).mono ?_
      rintro e w1 ⟨rfl, hb1⟩
      have hx1 := (hx.below hb1).more hb1.size
      go_wp2_with fail
      refine (open_ok _ _ _ hlen hlc hcap _ hx1 hf).mono ?_
      rintro e w2 ⟨v, rfl, hown, hb2⟩
      obtain ⟨G, c, rfl, hlc2, hc2, hy⟩ := own_byt hown
      have hB2 := bstep hb1 hb2
      clear hown
      go_wp2_with fail
      refine (seal_ok G 124 c _ (Lib.hid (by simp [hlen.out])) (by omega) hlc2 hc2 _ hy).mono ?_
      rintro e w3 ⟨rfl, hR, hb3⟩
      rw [hbk.out] at hR
      have hB3 := bstep hB2 hb3
      have sP := hR.all.str (P := Try.prog) 22 9 5 128 128 hlen.out Try.underlying22 Try.underlying5 Try.underlying9
      have sX := (hx.below hB3).str (P := Try.prog) 22 9 5 128 cap hlen.out Try.underlying22 Try.underlying5 Try.underlying9
      clear hR hy hx hx1 hb1 hb2 hb3 hB2
      go_wp2_with fail
      go_ret
      exact ⟨rfl, hB3⟩
    · go_enter Try.func6, Try.ntmps6
      go_wp2_with fail
      refine (alive_sum _).mono ?_
      rintro e w1 ⟨rfl, hb1⟩
      have hx1 := (hx.below hb1).more hb1.size
      go_wp2_with fail
      refine (open_bad _ _ _ hlen hlc hcap _ hx1 hf).mono ?_
      rintro e w2 ⟨rfl, hb2⟩
      go_wp2_with fail
      go_ret
      exact ⟨rfl, bstep hb1 hb2⟩

/-! ### The row's step -/
set_option maxRecDepth 100000 in
theorem lifted (os : Os) (started : os.Started) (H : Type) (enc : TypeId × Value → H) :
    ReturnsInHanded {} Try.checked os 6 .any (Rows.sumOpensSpec.pre6 enc Try.prog Try.f6 Rows.sumOpensRow.domain false) (Rows.sumOpensSpec.post enc Try.prog Try.f6 false true false false) := by
  refine returnsInHanded_of_change (C := Try.checked) own started (by kernel_rfl) Try.func6
    (ChangeSpec.witness6 (enc := enc) (C := Try.checked) false ⟨#[], #[.slice none 0 0], []⟩ 8 (by kernel_rfl) (by kernel_rfl) (by kernel_rfl) (by kernel_rfl)) ?_
  intro W base args ds gs before hval0 hW _ _
  have hval : ∀ (j : Nat) t v, Try.f6.params[j]? = some t → args[j]? = some v → Value.okWide Try.prog W .any base t v := hval0
  have hW' := hW
  obtain ⟨p, q, hA0, hV, _, _, _⟩ := hW
  have hA : DataW.TrodAll enc Try.prog W 0 (fun _ => true) true Try.f6.params.toList args.toList ds p := hA0
  rw [Try.params6] at hA hval
  obtain ⟨v0, vs0, d0, ds0, p0, q0, hargs, rfl, _, h0, r0⟩ := trodAll_cons hA
  obtain ⟨rfl, rfl, _⟩ := trodAll_nil r0
  obtain rfl : args = #[v0] := by cases args; simp_all
  obtain ⟨rfl, _⟩ := trodVars_none hV
  obtain ⟨A0, n0, c0, x0, rfl, l0, m0, b0, y0⟩ := open_bytes Try.underlying22 Try.underlying5 (by kernel_rfl) (hval 0 22 v0 rfl rfl) h0
  clear hA0 hval0
  refine (walk A0 n0 c0 x0 y0 l0 m0 W b0).mono fun e W' ⟨he, hb⟩ => ?_
  subst he
  exact ⟨_, rfl, law_post laidOut (by rw [Try.params6]; decide +kernel) (by kernel_rfl) Try.underlying4 rfl ⟨rfl, by simp [Rows.sumOpensSpec], rfl⟩ hW' hb⟩

theorem over : Rows.sumOpensRow.holds Try.pinned (OpenSpec.ofChange Rows.sumOpensSpec) :=
  OpenClaim.holds_of_wide 6 Try.f6 rfl rfl rfl rfl rfl rfl rfl ⟨rfl, rfl, rfl, rfl, rfl⟩ rfl rfl rfl rfl rfl (by kernel_rfl) Try.func6 (by kernel_rfl)
    (of_decide_eq_true (by kernel_rfl)) (by unfold Func.isWrapper; first | (rw [if_pos (by decide +kernel)]; kernel_rfl) | (rw [if_neg (by decide +kernel)]; exact ⟨rfl, rfl⟩))
    (fun os started H enc _ => lifted os started H enc)

end Go.Proofs.Ytabnifphpphedaa.sumOpens
namespace Go.Proofs.Ytabnifphpphedaa
theorem sumOpens_proved : Rows.SumOpensSaid := sumOpens.over
end Go.Proofs.Ytabnifphpphedaa
