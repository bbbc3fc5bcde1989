/-
  The limits and errors of pools have their numbers, and the chapter's examples are so.
-/
import Derived.Test.YtmafkphcfkhokaaGreatBnd5
open Go.RowKit renaming Below → Qe
open Go.RowKit.Below renaming refl → Qa
open List renaming length_replicate → Qb, length_set → Qd
open Nat renaming le_refl → Qc
namespace Go.Proofs.YtmafkphcfkhokaaGreat.forestNames
open Go.ChangeShapes Go.WideShapes Go.RowKit

theorem own : ownKnob Tryz.prog.godebug = none := by kernel_rfl
theorem laidOut : laidOutB Tryz.prog = true := by kernel_rfl

theorem look_zero : Zd6 (Zo, 0, 0, 0, []) = 8 := by
  have h : Y7 (Zo, 0, 0, 0, []) = none := Zv7 (by
    refine Zgz (r := []) fun h=> ?_
    rcases h with h | h
    · cases h
    · have := (Zdi h).1.ok
      have := Zao this
      omega)
  exact (Zo2 h).1
set_option maxRecDepth 100000 in
theorem setN_any (qa qb qc qd : Q4) (w : World) (hP : Zhg qa qb qc qd none 0 0 fT1 0 8 1 [] w) :
    Calls Tryz.prog 12 #[.agg #[.slice qa.1 qa.2.1 qa.2.2, .slice qb.1 qb.2.1 qb.2.2, .slice qc.1 qc.2.1 qc.2.2, .slice qd.1 qd.2.1 qd.2.2, .int .u32 0, .int .i64 8, .int .u32 1, .slice none 0 0], .agg #[.int .u32 1, .int .i64 8, .bool false, .int .u32 0]] w fun e w' => ∃ (ra rb rc rd : Q4) (U : Option Addr) (ul uc : Nat), e = .returned (.tuple #[.agg #[.slice ra.1 ra.2.1 ra.2.2, .slice rb.1 rb.2.1 rb.2.2, .slice rc.1 rc.2.1 rc.2.2, .slice rd.1 rd.2.1 rd.2.2, .int .u32 0, .int .i64 0, .int .u32 0, .slice U ul uc], .int .i64 2]) /\ Qe w.heap.size w w' := by
  have htk : tkF fT1 [] (frU Zy 8) 1 1 8 = 2 := by
    unfold tkF;rw [if_pos (.inl (by decide))]
  refine (Zox qa qb qc qd fT1 0 8 1 [] none 0 0 1 8 0 false w hP ⟨by decide, by decide⟩ ⟨by decide, by decide⟩ (fun vs g hl ht => by
    rw [Zd9] at hl;cases hl;rw [htk] at ht
    cases ht)).mono ?_
  rintro e w' ⟨E, P, ra, rb, rc, rd, U, ul, uc, rfl, hW, _, _, hb⟩;have key : E = 2 /\ P = Zgb := by
    rcases hW with ⟨h, _⟩ | ⟨vs, g, h, hW⟩
    · rw [Zd9] at h
      cases h
    · rw [Zd9] at h
      cases h;rcases hW with ⟨_, h1, h2⟩ | ⟨h, _⟩
      · exact ⟨h1.trans htk, h2⟩
      · exact absurd (htk.symm.trans h) (by decide)
  obtain ⟨rfl, rfl⟩ := key;exact ⟨ra, rb, rc, rd, U, ul, uc, rfl, hb⟩
theorem fR_at (k : Nat) (hk : k < 256) : (frU Zy 8)[k]? = some (if k = 8 then 1 else 0) := by
  have hl : (frU Zy 8).length = 256 := by unfold frU Zy; rw [Qd, Qb]
  have hz : Zy[k]?.getD 0 = 0 := by
    unfold Zy;rw [List.getElem?_replicate];split <;> rfl
  have h := Zwh (R := Zy) (i := 8) (by decide) (by unfold Zy; rw [Qb]; decide) k;rw [hz] at h;have e : (frU Zy 8)[k]? = some ((frU Zy 8)[k]?.getD 0) := by
    rw [List.getElem?_eq_getElem (by omega)];rfl
  rw [e, h];simp

set_option maxRecDepth 100000 in
set_option maxHeartbeats 8000000 in
theorem walk (w : World) :
    Calls Tryz.prog 3 #[] w fun e w' => e = .returned (.bool true) /\ Qe w.heap.size w w' := by
  obtain ⟨v1, v2, v3, _⟩ := Zgh Zd9;have hvo : Zwp (fT1, 0, 8, 1, []) 1 = (6, Vf) := Zks Zd9 rfl;have hf6 : fdE fT1 8 (1, 1, 0) = 6 := by
    obtain ⟨_, _, h, _⟩ := Zqn
    exact (Zsg h.tree.2.2 ((Zx7 h.tree.1).2 fun x hx => by
      have h2 := h.tree.2.1;rw [h2] at hx
      cases hx)).1
  have hVl := Za (fun qa qb qc qd W hW => Zuj qa qb qc qd fT1 0 8 1 [] none 0 0 W hW);have hVo := Za (fun qa qb qc qd W hW => Zo5 qa qb qc qd fT1 0 8 1 [] none 0 0 1 W hW);have hRf := Za (fun qa qb qc qd W hW => Zvz qa qb qc qd fT1 0 8 1 [] none 0 0 W hW);have hUn := Za (fun qa qb qc qd W hW => Zry qa qb qc qd fT1 0 8 1 [] none 0 0 1 W hW v1 hf6);have hCz := Za (fun W => Zed (none, 0, 0) (none, 0, 0) (none, 0, 0) (none, 0, 0) Zo 0 0 0 [] none 0 0 W (Zld W));rw [look_zero] at hCz;rw [v1, v2] at hVl;rw [v1, v3] at hRf;rw [hvo] at hVo;unfold vlV Vf at hVo;clear v1 v2 v3 hvo hf6
  go_enter Tryz.func3, Tryz.ntmps3
  go_wp2_with fail
  with_reducible refine (Z2y _).mono ?_
  rintro e w1 ⟨rfl, hb1⟩;have B1 := Za hb1;clear hb1
  go_upto_region 3 with fail
  go_wp2_with fail
  with_reducible refine (Zpi _).mono ?_
  rintro e w2 ⟨qa, qb, qc, qd, rfl, hS2, hb2⟩;have S2 := Za hS2.drop;have B2 := Za (B1.out.trans (hb2.mono B1.out.size));clear hS2 hb2
  go_upto_region 4 with fail
  obtain ⟨w3, hw3, b3, hs3, hB3⟩ := Zbm w2 (.slice qa.1 qa.2.1 qa.2.2) (.slice qb.1 qb.2.1 qb.2.2) (.slice qc.1 qc.2.1 qc.2.2) (.slice qd.1 qd.2.1 qd.2.2) (.int .u32 0) (.int .i64 8) (.int .u32 1) (.slice none 0 0) 33;rw [hw3];have B3 := Za (B2.out.trans (hB3.mono B2.out.size));have KC := Za (fun W (hW : Qe w3.heap.size w3 W) => Zk ((hW.block _ (Array.getElem?_eq_some_iff.1 b3).1).trans b3));have HP := Za (fun W (hW : Qe w3.heap.size w3 W) => Zho (qa := qa) (qb := qb) (qc := qc) (qd := qd) (gen := 0) (root := 8) (next := 1) ((S2.out.below hB3).below hW) ⟨by decide, by decide⟩ ⟨by decide, by decide⟩ ⟨by decide, by decide⟩);replace hw3 := Za hw3;clear b3 hs3 hB3;obtain ⟨p0, p1, p2, p3, p4, p5, p6, p7, pf, _⟩ := KC.out w3 (Qa _ _);have h4 := Za (hVl.out qa qb qc qd w3 (HP.out w3 (Qa _ _)))
  go_wp2_with fail
  with_reducible refine h4.out.mono ?_
  rintro e w4 ⟨VA, vn, vc, rfl, hv4, hb4⟩;obtain rfl : vn = 0 := ((Z0a hv4).1).symm;have B4 := Za hb4;clear hb4 hv4 h4 hVl p0 p1 p2 p3 p4 p5 p6 p7 pf;obtain ⟨p0, p1, p2, p3, p4, p5, p6, p7, pf, _⟩ := KC.out w4 B4.out;have h5 := Za (hVo.out qa qb qc qd w4 (HP.out w4 B4.out))
  go_upto_region 5 with fail
  go_wp2_with fail
  with_reducible refine h5.out.mono ?_
  rintro e w5 ⟨rfl, hb5⟩;have B5 := Za (B4.out.trans (hb5.mono B4.out.size));clear hb5 h5 hVo p0 p1 p2 p3 p4 p5 p6 p7 pf
  go_upto_region 6 with fail
  obtain ⟨w6, hw6, hB6⟩ : ∃ w6, w5.alloc (.cells #[.int .u32 0, .int .i64 0, .bool false, .int .u32 0] 40) = w6 /\ Qe w5.heap.size w5 w6 := ⟨_, rfl, (Qa _ _).alloc (Qc _) _⟩
  rw [hw6];have B6 := Za (B5.out.trans (hB6.mono B5.out.size));replace hw6 := Za hw6;clear hB6;obtain ⟨p0, p1, p2, p3, p4, p5, p6, p7, pf, _⟩ := KC.out w6 B6.out;have h6 := Za (setN_any qa qb qc qd w6 (HP.out w6 B6.out))
  go_wp2_with fail
  with_reducible refine h6.out.mono ?_
  rintro e w7 ⟨ra, rb, rc, rd, U, ul, uc, rfl, hb7⟩;have B7 := Za (B6.out.trans (hb7.mono B6.out.size));clear hb7 h6 p0 p1 p2 p3 p4 p5 p6 p7 pf
  go_upto_region 7 with fail
  obtain ⟨w8, hw8, hB8⟩ : ∃ w8, w7.alloc (.cells #[.slice ra.1 ra.2.1 ra.2.2, .slice rb.1 rb.2.1 rb.2.2, .slice rc.1 rc.2.1 rc.2.2, .slice rd.1 rd.2.1 rd.2.2, .int .u32 0, .int .i64 0, .int .u32 0, .slice U ul uc] 33) = w8 /\ Qe w7.heap.size w7 w8 := ⟨_, rfl, (Qa _ _).alloc (Qc _) _⟩
  rw [hw8];have B8 := Za (B7.out.trans (hB8.mono B7.out.size));replace hw8 := Za hw8;clear hB8;obtain ⟨p0, p1, p2, p3, p4, p5, p6, p7, pf, _⟩ := KC.out w8 B8.out;have h8 := Za (hUn.out qa qb qc qd w8 (HP.out w8 B8.out))
  go_wp2_with fail
  with_reducible refine h8.out.mono ?_
  rintro e w9 ⟨rfl, hb9⟩;have B9 := Za (B8.out.trans (hb9.mono B8.out.size));clear hb9 h8 hUn p0 p1 p2 p3 p4 p5 p6 p7 pf
  go_upto_region 8 with fail
  obtain ⟨wa, hwa, hBa⟩ : ∃ wa, w9.alloc (.cells #[.slice none 0 0, .slice none 0 0, .slice none 0 0, .slice none 0 0, .int .u32 0, .int .i64 0, .int .u32 0, .slice none 0 0] 33) = wa /\ Qe w9.heap.size w9 wa := ⟨_, rfl, (Qa _ _).alloc (Qc _) _⟩
  rw [hwa];have Ba := Za (B9.out.trans (hBa.mono B9.out.size));replace hwa := Za hwa;clear hBa;obtain ⟨p0, p1, p2, p3, p4, p5, p6, p7, pf, _⟩ := KC.out wa Ba.out;have ha := Za (hRf.out qa qb qc qd wa (HP.out wa Ba.out))
  go_wp2_with fail
  with_reducible refine ha.out.mono ?_
  rintro e wb ⟨RA, rn, rc', rfl, hrb, hbb⟩;have Bb := Za (Ba.out.trans (hbb.mono Ba.out.size));obtain rfl : rn = 256 := by
    rw [<- (Z0a hrb).1];unfold frU Zy;rw [Qd, Qb]
  obtain ⟨ad, era, _⟩ := Z3p hrb (fR_at 0 (by omega));subst era;have hrc : Hid (∀ k, k < 256 -> ∀ W, Qe wb.heap.size wb W -> W.cell? (ad.add k) = some (.int .i64 (if k = 8 then 1 else 0))) := Za fun k hk W hW => by
    obtain ⟨ad', e, h⟩ := Z3p hrb (fR_at k hk);cases e;exact h W hW
  clear hrb hbb ha hRf p0 p1 p2 p3 p4 p5 p6 p7 pf
  go_upto_region 9 with fail
  go_upto_region 12 with fail
  go_wp2_with fail
  go_loopw [13, 12] (fun vi vo wr => ∃ k : Nat, k <= 256 /\ vi = .int .i64 k /\ vo = .int .i64 (if 8 < k then 1 else 0) /\ Qe wb.heap.size wb wr) (fun vi _ _ => 256 - (intOf vi).toNat)
  case atStart => exact ⟨0, by omega, rfl, rfl, Qa _ _⟩
  case round =>
  obtain ⟨k, hk, rfl, rfl, hbr⟩ := hrel;have BR := Za hbr;clear hbr;by_cases hlt : k < 256
  case pos =>
    have hc := hrc.out k hlt _ BR.out;obtain ⟨x, hx⟩ : ∃ x : Int, (if k = 8 then 1 else 0) = x := ⟨_, rfl⟩
    obtain ⟨y, hy⟩ : ∃ y : Int, (if 8 < k then 1 else 0) = y := ⟨_, rfl⟩
    obtain ⟨z, hz⟩ : ∃ z : Int, (if 8 < k + 1 then 1 else 0) = z := ⟨_, rfl⟩
    have hsum : y + x = z /\ 0 <= z /\ z <= 1 := by
      subst hx hy hz;split <;> split <;> split <;> omega
    rw [hx] at hc;rw [hy];have hw : IntKind.i64.wrap (y + x) = z := by rw [hsum.1]; exact IntWalk.i64_in _ (by omega)
    have i4 : (0 : Int) <= (k : Int) := by omega
    have i5 : (k : Int) < 256 := by omega
    have hz' := Za hz;replace hx := Za hx;replace hy := Za hy;clear hsum hz
    go_wp2_with fail
    go_roundw
    case rel => exact ⟨k + 1, by omega, by go_num, by rw [hz'.out], BR.out⟩
    case measure => simp [intOf]; omega
  obtain rfl : k = 256 := by omega
  have BO := Za (Bb.out.trans (BR.out.mono Bb.out.size));obtain ⟨p0, p1, p2, p3, p4, p5, p6, p7, pf, _⟩ := KC.out _ BO.out;have hc8 := hrc.out 8 (by omega) _ BR.out;rw [if_pos rfl, show ad.add 8 = ⟨ad.block, ad.off + 8, none⟩ from rfl] at hc8;have hcz := Za (hCz.out wr)
  go_wp2_with fail
  with_reducible refine hcz.out.mono ?_
  rintro e wf ⟨rfl, hbf⟩;have hcf := (hbf.cell (World.block_lt_of_cell? _ _ hc8)).trans hc8;have BF := Za (B3.out.trans ((BO.out.trans (hbf.mono BO.out.size)).mono B3.out.size));clear hbf hc8 hcz hCz p0 p1 p2 p3 p4 p5 p6 p7 pf
  go_wp2_with fail
  go_ret;exact ⟨rfl, BF.out⟩

/-! ### The row's step -/
set_option maxRecDepth 100000 in
theorem lifted (os : Os) (started : os.Started) (H : Type) (enc : TypeId × Value -> H) :
    ReturnsInHanded {} Tryz.checked os 3 .any (Rows.forestNamesSpec.pre6 enc Tryz.prog Tryz.f3 Rows.forestNamesRow.domain false) (Rows.forestNamesSpec.post enc Tryz.prog Tryz.f3 false true false false) := by
  refine returnsInHanded_of_change (C := Tryz.checked) own started (by kernel_rfl) Tryz.func3
    (ChangeSpec.witness6 (enc := enc) (C := Tryz.checked) false ⟨#[], #[], []⟩ 8 (by kernel_rfl) (by kernel_rfl) (by kernel_rfl) (by kernel_rfl)) ?_
  intro W base args ds gs before hval0 hW _ _;have hval : ∀ (j : Nat) t v, Tryz.f3.params[j]? = some t -> args[j]? = some v -> Value.okWide Tryz.prog W .any base t v := hval0;have hW' := hW;obtain ⟨p, q, hA0, hV, _, _, _⟩ := hW;have hA : DataW.TrodAll enc Tryz.prog W 0 (fun _ => true) true Tryz.f3.params.toList args.toList ds p := hA0;rw [Tryz.params3] at hA hval;obtain ⟨hargs, rfl, _⟩ := trodAll_nil hA;obtain rfl : args = #[] := by cases args; simp_all
  obtain ⟨rfl, _⟩ := trodVars_none hV;clear hA0 hval0;refine (walk  W ).mono fun e W' ⟨he, hb⟩=> ?_
  subst he;exact ⟨_, rfl, Zxn laidOut (by rw [Tryz.params3]; decide +kernel) (by kernel_rfl) Tryz.underlying4 rfl ⟨rfl, by simp [Rows.forestNamesSpec], rfl⟩ hW' hb⟩

theorem over : Rows.forestNamesRow.holds Tryz.pinned (OpenSpec.ofChange Rows.forestNamesSpec) :=
  OpenClaim.holds_of_wide 3 Tryz.f3 rfl rfl rfl rfl rfl rfl rfl ⟨rfl, rfl, rfl, rfl, rfl⟩ rfl rfl rfl rfl rfl (by kernel_rfl) Tryz.func3 (by kernel_rfl)
    (of_decide_eq_true (by kernel_rfl)) (by unfold Func.isWrapper; first | (rw [if_pos (by decide +kernel)]; kernel_rfl) | (rw [if_neg (by decide +kernel)]; exact ⟨rfl, rfl⟩))
    (fun os started H enc _ => lifted os started H enc)

end Go.Proofs.YtmafkphcfkhokaaGreat.forestNames
namespace Go.Proofs.YtmafkphcfkhokaaGreat
theorem forestNames_proved : Rows.ForestNamesSaid := forestNames.over
end Go.Proofs.YtmafkphcfkhokaaGreat
