/-
  For every three keys ItemOrder answers true and leaves its arguments as they were. No condition.
-/
import Derived.Test.YtmefejbbnfgbeaaBnd2
namespace Go.Proofs.Ytmefejbbnfgbeaa.itemOrder
open Go.ChangeShapes Go.WideShapes Go.RowKit

theorem own : ownKnob Try.prog.godebug = none := by kernel_rfl
theorem laidOut : laidOutB Try.prog = true := by kernel_rfl

set_option maxRecDepth 100000 in
set_option maxHeartbeats 8000000 in
theorem walk (a b c : Ky) (w : World) :
    Calls Try.prog 5 #[kyV a, kyV b, kyV c] w fun e w' => e = .returned (.bool true) ∧ Below w.heap.size w w' := by
  obtain ⟨w1, hw1, G1, B1, _, s1⟩ := bag_key (Bag.nil w) (Below.refl _ _) (.int .u8 (a.1.toNat : Int)) (.int .u32 a.2.1) (.int .u32 a.2.2)
  obtain ⟨w2, hw2, G2, B2, _, s2⟩ := bag_key G1 (Below.refl _ _) (.int .u8 (b.1.toNat : Int)) (.int .u32 b.2.1) (.int .u32 b.2.2)
  obtain ⟨w3, hw3, G3, B3, _, s3⟩ := bag_key G2 (Below.refl _ _) (.int .u8 (c.1.toNat : Int)) (.int .u32 c.2.1) (.int .u32 c.2.2)
  have BB := Lib.hid ((B1.trans (B2.mono B1.size)).trans (B3.mono (B1.trans (B2.mono B1.size)).size))
  have HG := Lib.hid G3
  replace hw3 := Lib.hid hw3
  clear G1 G2 G3 B1 B2 B3 s1 s2 s3
  go_enter Try.func5, Try.ntmps5
  go_upto_region 1 with fail
  rw [hw3.out]
  clear hw1 hw2 hw3
  go_wp2_with fail
  with_reducible refine (alive5 _).mono ?_
  rintro e4 w4 ⟨rfl, hb4⟩
  replace HG := Lib.hid (HG.out.below hb4)
  replace BB := Lib.hid (BB.out.trans (hb4.mono BB.out.size))
  clear hb4
  go_wp2_with fail
  refine wp_region_fx (by kernel_rfl) (fun W => Below w4.heap.size w4 W) (fun _ => none) (fun i => match i with
      | 2 => some (.bool (lessK a b))
      | 5 => some (.bool (lessK b a))
      | _ => none) (by kernel_rfl) (Below.refl _ _).drew (fun w w' h hb => h.trans (hb.mono h.size)) (fun j φ x w w' hp => by cases hp) ?_
  repeat (first
    | (refine wpAs_skip rfl ?_; simp only [Act.put, List.setIfInBounds_toArray, List.set_cons_zero, List.set_cons_succ])
    | (refine wpAs_pure (v := ?_) rfl rfl ?_ ?_; rotate_left; (intro W hC hE; clear hE; (obtain ⟨za1, za2, za3, _⟩ := (HG.out.below hC).at 2 rfl; obtain ⟨zb1, zb2, zb3, _⟩ := (HG.out.below hC).at 1 rfl); clear hC; go_simp; done); simp only [Act.put, List.setIfInBounds_toArray, List.set_cons_zero, List.set_cons_succ])
    | (refine wpAs_pure (v := ?_) rfl rfl ?_ ?_; rotate_left; (intro W hC hE; clear hE; (obtain ⟨za1, za2, za3, _⟩ := (HG.out.below hC).at 2 rfl; obtain ⟨zb1, zb2, zb3, _⟩ := (HG.out.below hC).at 1 rfl); clear hC; go_simp; with_reducible rfl); simp only [Act.put, List.setIfInBounds_toArray, List.set_cons_zero, List.set_cons_succ]))
  refine wpAs_fixed rfl rfl rfl ?_ ?_
  · intro W hC hE
    refine does_enter (f := 11) (args := #[kyV a, kyV b]) ?_ ?_
    · go_simp
    · refine (less_any a b W).mono ?_
      rintro e w' ⟨rfl, hg⟩
      exact ⟨_, rfl, rfl, hg⟩
  simp only [Act.put, List.setIfInBounds_toArray, List.set_cons_zero, List.set_cons_succ]
  repeat (first
    | (refine wpAs_skip rfl ?_; simp only [Act.put, List.setIfInBounds_toArray, List.set_cons_zero, List.set_cons_succ])
    | (refine wpAs_pure (v := ?_) rfl rfl ?_ ?_; rotate_left; (intro W hC hE; clear hE; (obtain ⟨za1, za2, za3, _⟩ := (HG.out.below hC).at 2 rfl; obtain ⟨zb1, zb2, zb3, _⟩ := (HG.out.below hC).at 1 rfl); clear hC; go_simp; done); simp only [Act.put, List.setIfInBounds_toArray, List.set_cons_zero, List.set_cons_succ])
    | (refine wpAs_pure (v := ?_) rfl rfl ?_ ?_; rotate_left; (intro W hC hE; clear hE; (obtain ⟨za1, za2, za3, _⟩ := (HG.out.below hC).at 2 rfl; obtain ⟨zb1, zb2, zb3, _⟩ := (HG.out.below hC).at 1 rfl); clear hC; go_simp; with_reducible rfl); simp only [Act.put, List.setIfInBounds_toArray, List.set_cons_zero, List.set_cons_succ]))
  refine wpAs_fixed rfl rfl rfl ?_ ?_
  · intro W hC hE
    refine does_enter (f := 11) (args := #[kyV b, kyV a]) ?_ ?_
    · go_simp
    · refine (less_any b a W).mono ?_
      rintro e w' ⟨rfl, hg⟩
      exact ⟨_, rfl, rfl, hg⟩
  simp only [Act.put, List.setIfInBounds_toArray, List.set_cons_zero, List.set_cons_succ]
  repeat (first
    | (refine wpAs_skip rfl ?_; simp only [Act.put, List.setIfInBounds_toArray, List.set_cons_zero, List.set_cons_succ])
    | (refine wpAs_pure (v := ?_) rfl rfl ?_ ?_; rotate_left; (intro W hC hE; clear hE; skip; clear hC; go_simp; done); simp only [Act.put, List.setIfInBounds_toArray, List.set_cons_zero, List.set_cons_succ])
    | (refine wpAs_pure (v := ?_) rfl rfl ?_ ?_; rotate_left; (intro W hC hE; clear hE; skip; clear hC; go_simp; with_reducible rfl); simp only [Act.put, List.setIfInBounds_toArray, List.set_cons_zero, List.set_cons_succ]))
  refine wpAs_end fun W hC hE => ?_
  clear hE
  replace HG := Lib.hid (HG.out.below hC)
  replace BB := Lib.hid (BB.out.trans (hC.mono BB.out.size))
  clear hC
  obtain ⟨za1, za2, za3, _⟩ := HG.out.at 2 rfl
  obtain ⟨zb1, zb2, zb3, _⟩ := HG.out.at 1 rfl
  obtain ⟨zc1, zc2, zc3, _⟩ := HG.out.at 0 rfl
  have HT : Hid (lessK a b = true → lessK b c = true → lessK a c = true) := Lib.hid fun h h' => less_trans h h'
  by_cases hab : a = b
  · subst hab
    have h0 := Lib.hid (less_self a)
    rw [h0.out]
    clear HT
    go_wp2_with fail
    go_ret
    exact ⟨rfl, BB.out⟩
  have hways : (a.1.toNat : Int) ≠ b.1.toNat ∨ ((a.1.toNat : Int) = b.1.toNat ∧ a.2.1 ≠ b.2.1) ∨ ((a.1.toNat : Int) = b.1.toNat ∧ a.2.1 = b.2.1 ∧ a.2.2 ≠ b.2.2) := by
    by_cases h1 : (a.1.toNat : Int) = b.1.toNat
    · by_cases h2 : a.2.1 = b.2.1
      · exact Or.inr (Or.inr ⟨h1, h2, fun h3 => hab (Prod.ext (UInt8.toNat.inj (by omega)) (Prod.ext h2 h3))⟩)
      · exact Or.inr (Or.inl ⟨h1, h2⟩)
    · exact Or.inl h1
  have hanti : Hid (lessK a b = true → lessK b a = false) := Lib.hid less_anti
  have htot : Hid (lessK a b = false → lessK b a = true) := Lib.hid (less_total hab)
  have hK : Hid (kyV a = .agg #[.int .u8 (a.1.toNat : Int), .int .u32 a.2.1, .int .u32 a.2.2] ∧ kyV b = .agg #[.int .u8 (b.1.toNat : Int), .int .u32 b.2.1, .int .u32 b.2.2] ∧ kyV c = .agg #[.int .u8 (c.1.toNat : Int), .int .u32 c.2.1, .int .u32 c.2.2]) := Lib.hid ⟨rfl, rfl, rfl⟩
  clear hab
  rcases (by cases lessK a b <;> simp : lessK a b = false ∨ lessK a b = true) with h1 | h1
  · have h2 := htot.out h1
    rw [h1, h2]
    clear HT
    replace h1 := Lib.hid h1
    replace h2 := Lib.hid h2
    rcases hways with e1 | ⟨e1, e2⟩ | ⟨e1, e2, e3⟩
    all_goals
      (go_wp2_with fail
       go_ret
       exact ⟨rfl, BB.out⟩)
  · have h2 := hanti.out h1
    rw [h1, h2]
    have HT2 := Lib.hid (HT.out h1)
    replace h1 := Lib.hid h1
    replace h2 := Lib.hid h2
    clear HT
    rcases hways with e1 | ⟨e1, e2⟩ | ⟨e1, e2, e3⟩
    all_goals
      (go_wp2_with fail
       with_reducible refine (less_any b c _).mono ?_
       rintro e5 w5 ⟨rfl, hb5⟩
       have BC := Lib.hid (BB.out.trans (hb5.mono BB.out.size))
       have HG5 := Lib.hid (HG.out.below hb5)
       obtain ⟨ya1, ya2, ya3, _⟩ := HG5.out.at 2 rfl
       obtain ⟨yc1, yc2, yc3, _⟩ := HG5.out.at 0 rfl
       rcases (by cases lessK b c <;> simp : lessK b c = false ∨ lessK b c = true) with h3 | h3
       · rw [h3]
         clear hb5
         go_wp2_with fail
         go_ret
         exact ⟨rfl, BC.out⟩
       · have h4 := HT2.out h3
         rw [h3]
         clear hb5
         go_wp2_with fail
         first
           | with_reducible refine (less_any a c _).mono ?_
           | (rw [← e1]; with_reducible refine (less_any a c _).mono ?_)
           | (rw [← e1, ← e2]; with_reducible refine (less_any a c _).mono ?_)
         rintro e6 w6 ⟨rfl, hb6⟩
         have BD := Lib.hid (BC.out.trans (hb6.mono BC.out.size))
         rw [h4]
         clear hb6
         go_wp2_with fail
         go_ret
         exact ⟨rfl, BD.out⟩)

/-! ### The row's step -/
set_option maxRecDepth 100000 in
theorem lifted (os : Os) (started : os.Started) (H : Type) (enc : TypeId × Value → H) :
    ReturnsInHanded {} Try.checked os 5 .any (Rows.itemOrderSpec.pre6 enc Try.prog Try.f5 Rows.itemOrderRow.domain false) (Rows.itemOrderSpec.post enc Try.prog Try.f5 false true false false) := by
  refine returnsInHanded_of_change (C := Try.checked) own started (by kernel_rfl) Try.func5
    (ChangeSpec.witness6 (enc := enc) (C := Try.checked) false ⟨#[], #[.agg #[.int .u8 0, .int .u32 0, .int .u32 0], .agg #[.int .u8 0, .int .u32 0, .int .u32 0], .agg #[.int .u8 0, .int .u32 0, .int .u32 0]], []⟩ 8 (by kernel_rfl) (by kernel_rfl) (by kernel_rfl) (by kernel_rfl)) ?_
  intro W base args ds gs before hval0 hW _ _
  have hval : ∀ (j : Nat) t v, Try.f5.params[j]? = some t → args[j]? = some v → Value.okWide Try.prog W .any base t v := hval0
  have hW' := hW
  obtain ⟨p, q, hA0, hV, _, _, _⟩ := hW
  have hA : DataW.TrodAll enc Try.prog W 0 (fun _ => true) true Try.f5.params.toList args.toList ds p := hA0
  rw [Try.params5] at hA hval
  obtain ⟨v0, vs0, d0, ds0, p0, q0, hargs, rfl, _, h0, r0⟩ := trodAll_cons hA
  obtain ⟨v1, vs1, d1, ds1, p1, q1, rfl, rfl, _, h1, r1⟩ := trodAll_cons r0
  obtain ⟨v2, vs2, d2, ds2, p2, q2, rfl, rfl, _, h2, r2⟩ := trodAll_cons r1
  obtain ⟨rfl, rfl, _⟩ := trodAll_nil r2
  obtain rfl : args = #[v0, v1, v2] := by cases args; simp_all
  obtain ⟨rfl, _⟩ := trodVars_none hV
  obtain ⟨k0x, rfl, _⟩ := open_key (hval 0 24 v0 rfl rfl) h0
  obtain ⟨k1x, rfl, _⟩ := open_key (hval 1 24 v1 rfl rfl) h1
  obtain ⟨k2x, rfl, _⟩ := open_key (hval 2 24 v2 rfl rfl) h2
  clear hA0 hval0
  refine (walk k0x k1x k2x W ).mono fun e W' ⟨he, hb⟩ => ?_
  subst he
  exact ⟨_, rfl, law_post laidOut (by rw [Try.params5]; decide +kernel) (by kernel_rfl) Try.underlying4 rfl ⟨rfl, by simp [Rows.itemOrderSpec], rfl⟩ hW' hb⟩

theorem over : Rows.itemOrderRow.holds Try.pinned (OpenSpec.ofChange Rows.itemOrderSpec) :=
  OpenClaim.holds_of_wide 5 Try.f5 rfl rfl rfl rfl rfl rfl rfl ⟨rfl, rfl, rfl, rfl, rfl⟩ rfl rfl rfl rfl rfl (by kernel_rfl) Try.func5 (by kernel_rfl)
    (of_decide_eq_true (by kernel_rfl)) (by unfold Func.isWrapper; first | (rw [if_pos (by decide +kernel)]; kernel_rfl) | (rw [if_neg (by decide +kernel)]; exact ⟨rfl, rfl⟩))
    (fun os started H enc _ => lifted os started H enc)

end Go.Proofs.Ytmefejbbnfgbeaa.itemOrder
namespace Go.Proofs.Ytmefejbbnfgbeaa
theorem itemOrder_proved : Rows.ItemOrderSaid := itemOrder.over
end Go.Proofs.Ytmefejbbnfgbeaa
