/-
  For every number n, number m of 32 bits, bytes b and place at CodeCodes answers true and leaves its arguments as they were. No condition.
-/
import Derived.Test.YthamaamdiiahfaaRef01
import Derived.Test.YthamaamdiiahfaaAny
namespace Go.Proofs.Ythamaamdiiahfaa.codeCodes
open Go.ChangeShapes Go.WideShapes Go.RowKit

theorem own : ownKnob Try.prog.godebug = none := by kernel_rfl
theorem laidOut : laidOutB Try.prog = true := by kernel_rfl

set_option maxHeartbeats 4000000 in
theorem walk (n : Int) (wn : (Lit.int .i64 n).wf = true) (m : Int) (wm : (Lit.int .u32 m).wf = true) (A : Option Addr) (len cap : Nat) (xs : List UInt8) (hlen0 : xs.length = len) (hlc : len ≤ cap) (hcap : cap ≤ 9223372036854775807) (k : Int) (wk : (Lit.int .i64 k).wf = true) (w : World) (hx : Byt w w.heap.size A xs) :
    Calls Try.prog 4 #[.int .i64 n, .int .u32 m, .slice A len cap, .int .i64 k] w fun e w' => e = .returned (.bool true) ∧ Below w.heap.size w w' := by
  have hn : -9223372036854775808 ≤ n ∧ n ≤ 9223372036854775807 := by simpa [Lit.wf, IntKind.min, IntKind.max, IntKind.signed, IntKind.bits] using wn
  have hm : 0 ≤ m ∧ m ≤ 4294967295 := by simpa [Lit.wf, IntKind.min, IntKind.max, IntKind.signed, IntKind.bits] using wm
  have hk : -9223372036854775808 ≤ k ∧ k ≤ 9223372036854775807 := by simpa [Lit.wf, IntKind.min, IntKind.max, IntKind.signed, IntKind.bits] using wk
  have hlen := Lib.hid hlen0
  clear hlen0 wn wk wm
  by_cases hbig : 10000 < len
  · go_enter Try.func4, Try.ntmps4
    go_wp2
    go_ret
    exact ⟨rfl, Below.refl _ _⟩
  · have hsmall : len ≤ 10000 := by omega
    clear hbig
    obtain ⟨i0, hi, hz0, hz1, hz2⟩ := info_parts u8_info
    obtain ⟨v1, w1, hrun, hown, hB⟩ := app_byt (P := Try.prog) w.heap.size 22 22 5 i0 Try.underlying22 hi hz0 hz1 hz2 (.slice none 0 0) 0 [] (World.ownsRow_nil _ _ _ _) w.heap.size A len cap xs hx hlen.out (by omega) (Nat.le_refl _)
    rw [Nat.zero_add, List.nil_append] at hown
    obtain ⟨A1, cap1, rfl, hlc1, hcap1, hx1⟩ := own_byt hown
    clear hown hi hz0 hz1 hz2
    go_enter Try.func4, Try.ntmps4
    have hRun := Lib.hid hrun
    clear hrun
    go_wp2_with (at_builtin; refine wpList_append_run rfl _ _ _ rfl rfl rfl hRun.out ?_; clear hRun)
    refine (two_any n _).mono ?_
    rintro e w2 ⟨P2, rfl, hp, hb2⟩
    go_wp2_with fail
    refine (two_ref n hn.2 _).mono ?_
    rintro e w3 ⟨Q3, c3, rfl, hq, hb3⟩
    have hB3 := bstep hb2 hb3
    go_wp2_with fail
    refine (getTwo_any A1 len cap1 k xs hlen hlc1 hcap1 _ ((hx1.below hB3).more hB3.size)).mono ?_
    rintro e w4 ⟨rfl, hb4⟩
    have hB4 := bstep hB3 hb4
    go_wp2_with fail
    have hx4 : Byt w4 w4.heap.size A xs := ((hx.below hB).below (hB4.mono hB.size)).more (Nat.le_trans hB.size hB4.size)
    refine (getTwo_ref A len cap k xs hlen hlc hcap _ hx4).mono ?_
    rintro e w5 ⟨rfl, rfl⟩
    go_wp2_with fail
    refine (getFour_any A1 len cap1 k xs hlen hlc1 hcap1 _ ((hx1.below hB4).more hB4.size)).mono ?_
    rintro e w6 ⟨rfl, hb6⟩
    have hB6 := bstep hB4 hb6
    go_wp2_with fail
    have hx6 : Byt w6 w6.heap.size A xs := (hx4.below hb6).more hb6.size
    refine (getFour_ref A len cap k xs hlen hlc hcap _ hx6).mono ?_
    rintro e w7 ⟨rfl, rfl⟩
    go_wp2_with fail
    have hb36 : Below w3.heap.size w3 w6 := bstep hb4 hb6
    have hp6 : Byt w6 w6.heap.size P2 (tb n) := ((hp.below hb3).below (hb36.mono hb3.size)).more (Nat.le_trans hb3.size hb36.size)
    have hq6 : Byt w6 w6.heap.size Q3 (tb n) := (hq.below hb36).more hb36.size
    have hy6 : Byt w6 w6.heap.size A1 xs := (hx1.below hB6).more hB6.size
    have sP : ∀ W, Below w6.heap.size w6 W → _ := fun W h => (hp6.below h).str (P := Try.prog) 22 9 5 _ (tb n).length rfl Try.underlying22 Try.underlying5 Try.underlying9
    have sQ : ∀ W, Below w6.heap.size w6 W → _ := fun W h => (hq6.below h).str (P := Try.prog) 22 9 5 _ c3 rfl Try.underlying22 Try.underlying5 Try.underlying9
    have sX : ∀ W, Below w6.heap.size w6 W → _ := fun W h => (hx6.below h).str (P := Try.prog) 22 9 5 len cap hlen.out Try.underlying22 Try.underlying5 Try.underlying9
    have sY : ∀ W, Below w6.heap.size w6 W → _ := fun W h => (hy6.below h).str (P := Try.prog) 22 9 5 len cap1 hlen.out Try.underlying22 Try.underlying5 Try.underlying9
    have hB' : Below w.heap.size w w6 := hB.trans (hB6.mono hB.size)
    clear hx hx1 hx4 hB hb2 hb3 hB3 hb4 hB4 hb6 hB6 hb36 hp hq
    have HP := Lib.hid sP
    have HQ := Lib.hid sQ
    have HX := Lib.hid sX
    have HY := Lib.hid sY
    clear sP sQ sX sY
    refine wp_region_as (by kernel_rfl) (fun W => Below w6.heap.size w6 W) (fun i => match i with
      | 12 => some (fun v W => ∃ A, v = .slice A 4 4 ∧ Byt W W.heap.size A (le 4 m))
      | 15 => some (fun v W => ∃ A cap, v = .slice A 4 cap ∧ Byt W W.heap.size A (le 4 m))
      | _ => none) (by kernel_rfl) (Below.refl _ _).drew (fun w w' h hb => h.trans (hb.mono h.size)) (fun j φ x w w' hp h hb => ?_) ?_
    · split at hp
      · cases hp
        obtain ⟨A', e, hy'⟩ := h
        exact ⟨A', e, (hy'.below hb).more hb.size⟩
      · cases hp
        obtain ⟨A', c', e, hy'⟩ := h
        exact ⟨A', c', e, (hy'.below hb).more hb.size⟩
      · cases hp
    repeat (first
      | (refine wpAs_skip rfl ?_; simp only [Act.put, List.setIfInBounds_toArray, List.set_cons_zero, List.set_cons_succ])
      | (refine wpAs_pure (v := ?_) rfl rfl ?_ ?_; rotate_left; (intro W hC hE; clear hE hC; go_simp; done); simp only [Act.put, List.setIfInBounds_toArray, List.set_cons_zero, List.set_cons_succ])
      | (refine wpAs_pure (v := ?_) rfl rfl ?_ ?_; rotate_left; (intro W hC hE; clear hE hC; go_simp; with_reducible rfl); simp only [Act.put, List.setIfInBounds_toArray, List.set_cons_zero, List.set_cons_succ])
      | (refine wpAs_pure rfl rfl (fun W hC _ => run_convert_op _ _ _ rfl rfl (HP.out W hC)) ?_; simp only [Act.put, List.setIfInBounds_toArray, List.set_cons_zero, List.set_cons_succ])
      | (refine wpAs_pure rfl rfl (fun W hC _ => run_convert_op _ _ _ rfl rfl (HQ.out W hC)) ?_; simp only [Act.put, List.setIfInBounds_toArray, List.set_cons_zero, List.set_cons_succ]))
    refine wpAs_act rfl rfl ?_ ?_
    · intro W hC hE
      refine does_enter (f := 11) (args := #[.int .u32 m]) ?_ ?_
      · go_simp
      · refine (four_any m hm.1 (by omega) _).mono ?_
        rintro e w' ⟨F, rfl, hf, hg⟩
        exact ⟨_, rfl, ⟨F, rfl, hf⟩, hg⟩
    intro x12
    simp only [Act.put, List.setIfInBounds_toArray, List.set_cons_zero, List.set_cons_succ, envAdd]
    repeat (first
      | (refine wpAs_skip rfl ?_; simp only [Act.put, List.setIfInBounds_toArray, List.set_cons_zero, List.set_cons_succ])
      | (refine wpAs_pure (v := ?_) rfl rfl ?_ ?_; rotate_left; (intro W hC hE; clear hE hC; go_simp; done); simp only [Act.put, List.setIfInBounds_toArray, List.set_cons_zero, List.set_cons_succ])
      | (refine wpAs_pure (v := ?_) rfl rfl ?_ ?_; rotate_left; (intro W hC hE; clear hE hC; go_simp; with_reducible rfl); simp only [Act.put, List.setIfInBounds_toArray, List.set_cons_zero, List.set_cons_succ])
      | (refine wpAs_pure (v := .string ⟨(le 4 m).toArray⟩) rfl rfl (fun W hC hE => by obtain ⟨F, e, hf⟩ := hE.1 rfl; refine run_convert_op _ _ _ rfl ?_ (hf.str (P := Try.prog) 22 9 5 4 4 (le_length 4 m) Try.underlying22 Try.underlying5 Try.underlying9); exact e) ?_; simp only [Act.put, List.setIfInBounds_toArray, List.set_cons_zero, List.set_cons_succ]))
    refine wpAs_act rfl rfl ?_ ?_
    · intro W hC hE
      refine does_enter (f := 16) (args := #[.int .u32 m]) ?_ ?_
      · go_simp
      · refine (four_ref m hm.1 (by omega) _).mono ?_
        rintro e w' ⟨G, cg, rfl, hf, hg⟩
        exact ⟨_, rfl, ⟨G, cg, rfl, hf⟩, hg⟩
    intro x15
    simp only [Act.put, List.setIfInBounds_toArray, List.set_cons_zero, List.set_cons_succ, envAdd]
    repeat (first
      | (refine wpAs_skip rfl ?_; simp only [Act.put, List.setIfInBounds_toArray, List.set_cons_zero, List.set_cons_succ])
      | (refine wpAs_pure (v := ?_) rfl rfl ?_ ?_; rotate_left; (intro W hC hE; clear hE hC; go_simp; done); simp only [Act.put, List.setIfInBounds_toArray, List.set_cons_zero, List.set_cons_succ])
      | (refine wpAs_pure (v := ?_) rfl rfl ?_ ?_; rotate_left; (intro W hC hE; clear hE hC; go_simp; with_reducible rfl); simp only [Act.put, List.setIfInBounds_toArray, List.set_cons_zero, List.set_cons_succ])
      | (refine wpAs_pure (v := .string ⟨(le 4 m).toArray⟩) rfl rfl (fun W hC hE => by obtain ⟨G, cg, e, hf⟩ := hE.1 rfl; refine run_convert_op _ _ _ rfl ?_ (hf.str (P := Try.prog) 22 9 5 4 cg (le_length 4 m) Try.underlying22 Try.underlying5 Try.underlying9); exact e) ?_; simp only [Act.put, List.setIfInBounds_toArray, List.set_cons_zero, List.set_cons_succ])
      | (refine wpAs_pure rfl rfl (fun W hC _ => run_convert_op _ _ _ rfl rfl (HX.out W hC)) ?_; simp only [Act.put, List.setIfInBounds_toArray, List.set_cons_zero, List.set_cons_succ])
      | (refine wpAs_pure rfl rfl (fun W hC _ => run_convert_op _ _ _ rfl rfl (HY.out W hC)) ?_; simp only [Act.put, List.setIfInBounds_toArray, List.set_cons_zero, List.set_cons_succ]))
    refine wpAs_end fun W hC hE => ?_
    go_wp2
    go_ret
    exact ⟨rfl, hB'.trans (hC.mono hB'.size)⟩


/-! ### The row's step -/
set_option maxRecDepth 100000 in
theorem lifted (os : Os) (started : os.Started) (H : Type) (enc : TypeId × Value → H) :
    ReturnsInHanded {} Try.checked os 4 .any (Rows.codeCodesSpec.pre6 enc Try.prog Try.f4 Rows.codeCodesRow.domain false) (Rows.codeCodesSpec.post enc Try.prog Try.f4 false true false false) := by
  refine returnsInHanded_of_change (C := Try.checked) own started (by kernel_rfl) Try.func4
    (ChangeSpec.witness6 (enc := enc) (C := Try.checked) false ⟨#[], #[.int .i64 0, .int .u32 0, .slice none 0 0, .int .i64 0], []⟩ 8 (by kernel_rfl) (by kernel_rfl) (by kernel_rfl) (by kernel_rfl)) ?_
  intro W base args ds gs before hval0 hW _ _
  have hval : ∀ (j : Nat) t v, Try.f4.params[j]? = some t → args[j]? = some v → Value.okWide Try.prog W .any base t v := hval0
  have hW' := hW
  obtain ⟨p, q, hA0, hV, _, _, _⟩ := hW
  have hA : DataW.TrodAll enc Try.prog W 0 (fun _ => true) true Try.f4.params.toList args.toList ds p := hA0
  rw [Try.params4] at hA hval
  obtain ⟨v0, vs0, d0, ds0, p0, q0, hargs, rfl, _, h0, r0⟩ := trodAll_cons hA
  obtain ⟨v1, vs1, d1, ds1, p1, q1, rfl, rfl, _, h1, r1⟩ := trodAll_cons r0
  obtain ⟨v2, vs2, d2, ds2, p2, q2, rfl, rfl, _, h2, r2⟩ := trodAll_cons r1
  obtain ⟨v3, vs3, d3, ds3, p3, q3, rfl, rfl, _, h3, r3⟩ := trodAll_cons r2
  obtain ⟨rfl, rfl, _⟩ := trodAll_nil r3
  obtain rfl : args = #[v0, v1, v2, v3] := by cases args; simp_all
  obtain ⟨rfl, _⟩ := trodVars_none hV
  obtain ⟨a0, rfl, _, _, w0⟩ := open_int Try.underlying3 (hval 0 3 v0 rfl rfl) h0
  obtain ⟨a1, rfl, _, _, w1⟩ := open_int Try.underlying28 (hval 1 28 v1 rfl rfl) h1
  obtain ⟨A2, n2, c2, x2, rfl, l2, m2, b2, y2⟩ := open_bytes Try.underlying22 Try.underlying5 (by kernel_rfl) (hval 2 22 v2 rfl rfl) h2
  obtain ⟨a3, rfl, _, _, w3⟩ := open_int Try.underlying3 (hval 3 3 v3 rfl rfl) h3
  clear hA0 hval0
  refine (walk a0 w0 a1 w1 A2 n2 c2 x2 y2 l2 m2 a3 w3 W b2).mono fun e W' ⟨he, hb⟩ => ?_
  subst he
  exact ⟨_, rfl, law_post laidOut (by rw [Try.params4]; decide +kernel) (by kernel_rfl) Try.underlying4 rfl ⟨rfl, by simp [Rows.codeCodesSpec], rfl⟩ hW' hb⟩

theorem over : Rows.codeCodesRow.holds Try.pinned (OpenSpec.ofChange Rows.codeCodesSpec) :=
  OpenClaim.holds_of_wide 4 Try.f4 rfl rfl rfl rfl rfl rfl rfl ⟨rfl, rfl, rfl, rfl, rfl⟩ rfl rfl rfl rfl rfl (by kernel_rfl) Try.func4 (by kernel_rfl)
    (of_decide_eq_true (by kernel_rfl)) (by unfold Func.isWrapper; first | (rw [if_pos (by decide +kernel)]; kernel_rfl) | (rw [if_neg (by decide +kernel)]; exact ⟨rfl, rfl⟩))
    (fun os started H enc _ => lifted os started H enc)

end Go.Proofs.Ythamaamdiiahfaa.codeCodes
namespace Go.Proofs.Ythamaamdiiahfaa
theorem codeCodes_proved : Rows.CodeCodesSaid := codeCodes.over
end Go.Proofs.Ythamaamdiiahfaa
