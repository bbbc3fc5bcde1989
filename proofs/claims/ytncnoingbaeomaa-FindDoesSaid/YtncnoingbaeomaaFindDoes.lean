/-
  For every store, root and key FindDoes answers true and leaves its arguments as they were. No condition.
-/
import Derived.Test.YtncnoingbaeomaaBnd4
import Derived.StillTailTactics
namespace Go.Proofs.Ytncnoingbaeomaa.findDoes
open Go.ChangeShapes Go.WideShapes Go.RowKit

theorem own : ownKnob Try.prog.godebug = none := by kernel_rfl
theorem laidOut : laidOutB Try.prog = true := by kernel_rfl

theorem findFind_op (v : Value) (s : Rm) (a : Int) (key : Ky) (w : World) (h : Sto (Old w) w v s) :
    Calls Try.prog 11 #[v, .int .i64 a, kyV key] w fun e w' => ∃ P pc, e = .returned (.tuple #[itV (fdV s a key) (.slice P (fdV s a key).2.2.length pc), .int .i64 (fdE s a key)]) ∧ Itm (New w.heap.size w') w' (itV (fdV s a key) (.slice P (fdV s a key).2.2.length pc)) (fdV s a key) ∧ Below w.heap.size w w' := by
  refine (findFind_any v s a key w h).mono ?_
  rintro e w' ⟨u, rfl, hu, hb⟩
  obtain ⟨P, pc, rfl, _⟩ := id hu.open
  exact ⟨P, pc, rfl, hu, hb⟩
theorem refFind_op (v : Value) (s : Rm) (a : Int) (key : Ky) (w : World) (h : Sto (Old w) w v s) :
    Calls Try.prog 16 #[v, .int .i64 a, kyV key] w fun e w' => ∃ P pc, e = .returned (.tuple #[itV (fdV s a key) (.slice P (fdV s a key).2.2.length pc), .int .i64 (fdE s a key)]) ∧ Itm (New w.heap.size w') w' (itV (fdV s a key) (.slice P (fdV s a key).2.2.length pc)) (fdV s a key) ∧ Below w.heap.size w w' := by
  refine (refFindF_any v s a key w h).mono ?_
  rintro e w' ⟨u, rfl, hu, hb⟩
  obtain ⟨P, pc, rfl, _⟩ := id hu.open
  exact ⟨P, pc, rfl, hu, hb⟩
set_option maxRecDepth 100000 in
set_option maxHeartbeats 8000000 in
theorem walk (v : Value) (s : Rm) (a : Int) (_hn : (Lit.int .i64 a).wf = true) (key : Ky) (w : World) (h : Sto (Old w) w v s) :
    Calls Try.prog 4 #[v, .int .i64 a, kyV key] w fun e w' => e = .returned (.bool true) ∧ Below w.heap.size w w' := by
  clear _hn
  obtain ⟨A, ca, B, cb, N, cn, L, cl, rfl, _⟩ := id h.open
  have HG0 : Bag w [OldR (.agg #[.slice A s.1.1.length ca, .slice B s.1.2.length cb, .slice N s.2.1.length cn, .slice L s.2.2.length cl]) s] := (Bag.nil w).add (F := OldR _ s) h (lasts_oldR _ _)
  obtain ⟨w0, hw0, hg0, hB0, _, hs0⟩ := bag_four HG0 (Below.refl _ _) (.slice A s.1.1.length ca) (.slice B s.1.2.length cb) (.slice N s.2.1.length cn) (.slice L s.2.2.length cl) 29
  obtain ⟨w1, hw1, hg1, hB1, _, hs1⟩ := bag_key hg0 (Below.refl _ _) (.int .u8 (key.1.toNat : Int)) (.int .u32 key.2.1) (.int .u32 key.2.2)
  have HG1 := Lib.hid hg1
  have B1 := Lib.hid (hB0.trans (hB1.mono hB0.size))
  replace hs1 := Lib.hid hs1
  replace hs0 := Lib.hid hs0
  clear HG0 hg1 hg0 h hB1 hB0
  unfold kyV
  go_enter Try.func4, Try.ntmps4
  go_upto_region 1 with fail
  clear hw0 hw1
  obtain ⟨k0, k1, k2, k3, kg⟩ := HG1.out.at 1 rfl
  go_wp2_with fail
  with_reducible refine (greatR_any _ s _ (HG1.out.at 2 rfl)).mono ?_
  rintro e w2 ⟨rfl, hb2⟩
  have HG2 := Lib.hid (HG1.out.below hb2)
  have B2 := Lib.hid (B1.out.trans (hb2.mono B1.out.size))
  clear hb2 HG1 B1 k0 k1 k2 k3 kg
  cases hgr : greatR s with
  | true =>
    go_wp2_with fail
    go_ret
    exact ⟨rfl, B2.out⟩
  | false =>
  have hsm := Lib.hid (smallR_of_great hgr)
  clear hgr
  obtain ⟨k0, k1, k2, k3, kg⟩ := HG2.out.at 1 rfl
  go_wp2_with fail
  with_reducible refine (refTwinR_any _ s hsm.out _ (HG2.out.at 2 rfl)).mono ?_
  rintro e w3 ⟨X0, x0, X1, x1, X2, x2, X3, x3, rfl, t4, hb3⟩
  obtain ⟨w4, hw4, G4, hB4, hB4', hs4⟩ := bag_four ((HG2.out.below hb3).add (F := OldR _ s) t4.drop (lasts_oldR _ _)) (Below.refl _ _) (.slice X0 s.1.1.length x0) (.slice X1 s.1.2.length x1) (.slice X2 s.2.1.length x2) (.slice X3 s.2.2.length x3) 29
  have HG4 := Lib.hid G4
  have B4 := Lib.hid (B2.out.trans ((hb3.trans (hB4.mono hb3.size)).mono B2.out.size))
  replace hs4 := Lib.hid hs4
  clear hb3 G4 hB4 hB4' t4 HG2 B2 k0 k1 k2 k3 kg
  go_upto_region 4 with fail
  clear hw4
  -- Check, twice
  obtain ⟨E0, hE0⟩ : ∃ q, ckE s a = q := ⟨_, rfl⟩
  obtain ⟨H0, hH0⟩ : ∃ q, ckH s a = q := ⟨_, rfl⟩
  obtain ⟨E1, hE1⟩ : ∃ q, fdE s a key = q := ⟨_, rfl⟩
  obtain ⟨x, hV1⟩ : ∃ q, fdV s a key = q := ⟨_, rfl⟩
  obtain ⟨n, hn⟩ : ∃ n, x.2.2.length = n := ⟨_, rfl⟩
  have hC1 := Lib.hid (fun v W hW => findCheck_any v s a W hW)
  have hC2 := Lib.hid (fun v W hW => refCheckF_any v s a W hW)
  have hF1 := Lib.hid (fun v W hW => findFind_op v s a key W hW)
  have hF2 := Lib.hid (fun v W hW => refFind_op v s a key W hW)
  rw [hE0, hH0] at hC1 hC2
  rw [hE1, hV1, hn] at hF1 hF2
  replace hE0 := Lib.hid hE0
  replace hH0 := Lib.hid hH0
  replace hE1 := Lib.hid hE1
  replace hV1 := Lib.hid hV1
  replace hn := Lib.hid hn
  obtain ⟨j0, j1, j2, j3, jg⟩ := HG4.out.at 0 rfl
  go_wp2_with fail
  with_reducible refine (hC1.out _ _ (HG4.out.at 1 rfl)).mono ?_
  rintro e w5 ⟨rfl, hb5⟩
  have HG5 := Lib.hid (HG4.out.below hb5)
  have B5 := Lib.hid (B4.out.trans (hb5.mono B4.out.size))
  clear hb5 HG4 B4 j0 j1 j2 j3 jg hC1
  obtain ⟨k0, k1, k2, k3, kg⟩ := HG5.out.at 3 rfl
  go_wp2_with fail
  with_reducible refine (hC2.out _ _ (HG5.out.at 4 rfl)).mono ?_
  rintro e w6 ⟨rfl, hb6⟩
  have HG6 := Lib.hid (HG5.out.below hb6)
  have B6 := Lib.hid (B5.out.trans (hb6.mono B5.out.size))
  clear hb6 HG5 B5 k0 k1 k2 k3 kg hC2
  -- Find, twice
  obtain ⟨j0, j1, j2, j3, jg⟩ := HG6.out.at 0 rfl
  obtain ⟨t0, t1, t2, _⟩ := HG6.out.at 2 rfl
  go_wp2_with fail
  with_reducible refine (hF1.out _ _ (HG6.out.at 1 rfl)).mono ?_
  rintro e w7 ⟨P, pc, rfl, hit, hb7⟩
  obtain ⟨w8, hw8, hg8, hB8, -, hs8⟩ := bag_item ((HG6.out.below hb7).add (F := NewIn w6.heap.size w7.heap.size _ x) (newIn_of hit) (lasts_newIn _ _ _ _)) (Below.refl _ _) (.int .u8 (x.1.1.toNat : Int)) (.int .u32 x.1.2.1) (.int .u32 x.1.2.2) (.int .i64 x.2.1) (.slice P n pc)
  have HG8 := Lib.hid hg8
  have C8 := Lib.hid (hb7.trans (hB8.mono hb7.size))
  have S7 := Lib.hid hb7.size
  replace hs8 := Lib.hid hs8
  clear hb7 hg8 hB8 hit j0 j1 j2 j3 jg t0 t1 t2 hF1
  go_upto_region 7 with fail
  clear hw8
  obtain ⟨k0, k1, k2, k3, kg⟩ := HG8.out.at 5 rfl
  obtain ⟨t0, t1, t2, _⟩ := HG8.out.at 4 rfl
  go_wp2_with fail
  with_reducible refine (hF2.out _ _ (HG8.out.at 6 rfl)).mono ?_
  rintro e w9 ⟨Q, qc, rfl, hit9, hb9⟩
  obtain ⟨w10, hw10, hg10, hB10, -, hs10⟩ := bag_item ((HG8.out.below hb9).add (F := OldI _ x) hit9.drop (lasts_oldI _ _)) (Below.refl _ _) (.int .u8 (x.1.1.toNat : Int)) (.int .u32 x.1.2.1) (.int .u32 x.1.2.2) (.int .i64 x.2.1) (.slice Q n qc)
  have HG10 := Lib.hid hg10
  have C10 := Lib.hid (C8.out.trans ((hb9.trans (hB10.mono hb9.size)).mono C8.out.size))
  replace hs10 := Lib.hid hs10
  clear hb9 hg10 hB10 hit9 HG8 C8 k0 k1 k2 k3 kg t0 t1 t2 hF2
  go_upto_region 8 with fail
  clear hw10
  obtain ⟨p0, p1, p2, p3, p4, _⟩ := HG10.out.at 2 rfl
  obtain ⟨q0, q1, q2, q3, q4, _⟩ := HG10.out.at 0 rfl
  have hI1 : Hid (Itm (Old w10) w10 (itV x (.slice P n pc)) x) := Lib.hid ((HG10.out.at 3 rfl : NewIn w6.heap.size w7.heap.size _ x w10).1.map fun p _ hp hc => ⟨World.block_lt_of_cell? _ p hc, hc⟩)
  have hI2 : Hid (Itm (Old w10) w10 (itV x (.slice Q n qc)) x) := Lib.hid (HG10.out.at 1 rfl)
  go_wp2_with fail
  with_reducible refine (refSameI_any _ _ x x _ hI1.out hI2.out).mono ?_
  rintro e w11 ⟨rfl, hb11⟩
  rw [sameI_self]
  have HG11 := Lib.hid (HG10.out.below hb11)
  have C11 := Lib.hid (C10.out.trans (hb11.mono C10.out.size))
  clear hb11 HG10 C10 hI1 hI2 p0 p1 p2 p3 p4 q0 q1 q2 q3 q4
  -- what was answered is turned
  obtain ⟨_, _, _, _, z5, _⟩ := HG11.out.at 2 rfl
  have HT3 : Hid (NewIn w6.heap.size w7.heap.size (itV x (.slice P n pc)) x w11) := Lib.hid (HG11.out.at 3 rfl)
  have npc : n ≤ 9223372036854775807 := by
    obtain ⟨_, _, _, _, dl, dm, _⟩ := HT3.out.1.open
    rw [hn.out] at dl
    omega
  go_wp2_with fail
  go_loopw [16] (fun i wr => ∃ j : Nat, j ≤ n ∧ i = .int .i64 j ∧ Turnt w6.heap.size w7.heap.size w11 wr) (fun i _ => n - (intOf i).toNat)
  case atStart => exact ⟨0, by omega, rfl, Turnt.refl _ _ _⟩
  case round =>
    obtain ⟨j, hj, rfl, hT⟩ := hrel
    have z := (hT.cell (p := ⟨w7.heap.size, 4, none⟩) (Or.inr (Nat.le_refl _))).trans z5
    by_cases hlt : j < n
    · obtain ⟨ad, y, rfl, hy, hf, hst0⟩ := turn_at HT3.out hT (by rw [hn.out]; exact hlt)
      have hadd := u8_succ3 y
      have hst := Lib.hid hst0
      clear hT z5
      generalize (y + 1) = y' at *
      clear hst0
      go_wp2_with fail
      go_still_tail 10, (by kernel_rfl)
      change wpList _ _ _ _ _ wr.drew
      go_wp2
      go_roundw
      case rel => exact ⟨j + 1, by omega, by go_num, hst.out.drew⟩
      case measure => simp [intOf]; omega
    · have CW := C11.out.trans (hT.sp.low)
      have HW := HG6.out.below CW
      have BW := Lib.hid (B6.out.trans (CW.mono B6.out.size))
      obtain ⟨j0, j1, j2, j3, jg⟩ := HW.at 0 rfl
      obtain ⟨k0, k1, k2, k3, kg⟩ := HW.at 3 rfl
      have K1 : Hid (Sto (Old wr) wr _ s) := Lib.hid (HW.at 1 rfl)
      have K2 : Hid (Sto (Old wr) wr _ s) := Lib.hid (HW.at 4 rfl)
      clear hT z5 CW HW
      go_wp2_with fail
      with_reducible refine (refSameR_any _ _ s s _ K1.out K2.out).mono ?_
      rintro e w12 ⟨rfl, hb12⟩
      rw [sameR_refl]
      have BF := Lib.hid (BW.out.trans (hb12.mono BW.out.size))
      clear hb12
      go_wp2_with fail
      go_ret
      exact ⟨rfl, BF.out⟩

/-! ### The row's step -/
set_option maxRecDepth 100000 in
theorem lifted (os : Os) (started : os.Started) (H : Type) (enc : TypeId × Value → H) :
    ReturnsInHanded {} Try.checked os 4 .any (Rows.findDoesSpec.pre6 enc Try.prog Try.f4 Rows.findDoesRow.domain false) (Rows.findDoesSpec.post enc Try.prog Try.f4 false true false false) := by
  refine returnsInHanded_of_change (C := Try.checked) own started (by kernel_rfl) Try.func4
    (ChangeSpec.witness6 (enc := enc) (C := Try.checked) false ⟨#[], #[.agg #[.slice none 0 0, .slice none 0 0, .slice none 0 0, .slice none 0 0], .int .i64 0, .agg #[.int .u8 0, .int .u32 0, .int .u32 0]], []⟩ 8 (by kernel_rfl) (by kernel_rfl) (by kernel_rfl) (by kernel_rfl)) ?_
  intro W base args ds gs before hval0 hW _ _
  have hval : ∀ (j : Nat) t v, Try.f4.params[j]? = some t → args[j]? = some v → Value.okWide Try.prog W .any base t v := hval0
  have hW' := hW
  obtain ⟨p, q, hA0, hV, _, _, _⟩ := hW
  have hA : DataW.TrodAll enc Try.prog W 0 (fun _ => true) true Try.f4.params.toList args.toList ds p := hA0
  rw [Try.params4] at hA hval
  obtain ⟨v0, vs0, d0, ds0, p0, q0, hargs, rfl, _, h0, r0⟩ := trodAll_cons hA
  obtain ⟨v1, vs1, d1, ds1, p1, q1, rfl, rfl, _, h1, r1⟩ := trodAll_cons r0
  obtain ⟨v2, vs2, d2, ds2, p2, q2, rfl, rfl, _, h2, r2⟩ := trodAll_cons r1
  obtain ⟨rfl, rfl, _⟩ := trodAll_nil r2
  obtain rfl : args = #[v0, v1, v2] := by cases args; simp_all
  obtain ⟨rfl, _⟩ := trodVars_none hV
  obtain ⟨d0x, y0⟩ := open_store (hval 0 29 v0 rfl rfl) h0
  obtain ⟨a1, rfl, _, _, w1⟩ := open_int Try.underlying3 (hval 1 3 v1 rfl rfl) h1
  obtain ⟨k2x, rfl, _⟩ := open_key (hval 2 37 v2 rfl rfl) h2
  clear hA0 hval0
  refine (walk v0 d0x a1 w1 k2x W y0).mono fun e W' ⟨he, hb⟩ => ?_
  subst he
  exact ⟨_, rfl, law_post laidOut (by rw [Try.params4]; decide +kernel) (by kernel_rfl) Try.underlying4 rfl ⟨rfl, by simp [Rows.findDoesSpec], rfl⟩ hW' hb⟩

theorem over : Rows.findDoesRow.holds Try.pinned (OpenSpec.ofChange Rows.findDoesSpec) :=
  OpenClaim.holds_of_wide 4 Try.f4 rfl rfl rfl rfl rfl rfl rfl ⟨rfl, rfl, rfl, rfl, rfl⟩ rfl rfl rfl rfl rfl (by kernel_rfl) Try.func4 (by kernel_rfl)
    (of_decide_eq_true (by kernel_rfl)) (by unfold Func.isWrapper; first | (rw [if_pos (by decide +kernel)]; kernel_rfl) | (rw [if_neg (by decide +kernel)]; exact ⟨rfl, rfl⟩))
    (fun os started H enc _ => lifted os started H enc)

end Go.Proofs.Ytncnoingbaeomaa.findDoes
namespace Go.Proofs.Ytncnoingbaeomaa
theorem findDoes_proved : Rows.FindDoesSaid := findDoes.over
end Go.Proofs.Ytncnoingbaeomaa
