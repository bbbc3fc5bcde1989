/-
  For every superblock and bytes RingBack answers true and leaves its arguments as they were. No condition.
-/
import Derived.Test.YtgnogclhleheiaaBnd3
import Derived.Deep.CutBlock
namespace Go.Proofs.Ytgnogclhleheiaa.ringBack
open Go.ChangeShapes Go.WideShapes Go.RowKit

theorem own : ownKnob Try.prog.godebug = none := by kernel_rfl
theorem laidOut : laidOutB Try.prog = true := by kernel_rfl

set_option maxRecDepth 100000 in
set_option maxHeartbeats 16000000 in
theorem walk (v : Value) (s : Sp) (u : Value) (xs : List UInt8) (w : World) (h : Sup (Old w) w v s) (hu : rBy (Old w) w [u] xs) :
    Calls Try.prog 7 #[v, u] w fun e w' => e = .returned (.bool true) ∧ Below w.heap.size w w' := by
  obtain ⟨A, c, rfl, hin, lA, mA, _, _⟩ := h.open
  obtain ⟨E, ce, rfl, lE, mE, _⟩ := id (rBy_open hu)
  have G1 := (Bag.nil w).add (F := OldS (supV s A c) s) h (lasts_oldS _ _)
  have G3 := G1.add (F := OldB (.slice E xs.length ce) xs) hu (lasts_oldB _ _)
  obtain ⟨w1, hw1, G4, hB1, _, _⟩ := bag_box5 G3 (Below.refl _ _) (.int .u32 s.1) (.int .i64 s.2.1) (.int .u32 s.2.2.1) (.int .u32 s.2.2.2.1) (.slice A s.2.2.2.2.length c)
  have HG := Lib.hid G4
  have HW := Lib.hid hB1
  have hin' := Lib.hid hin
  clear G1 G3 G4 h hu hB1 hin
  go_enter Try.func7, Try.ntmps7
  go_upto_region 1 with fail
  clear hw1
  go_wp2_with fail
  with_reducible refine (alive4 _).mono ?_
  rintro e2 w2 ⟨rfl, hb2⟩
  replace HG := Lib.hid (HG.out.below hb2)
  replace HW := Lib.hid (HW.out.trans (hb2.mono HW.out.size))
  clear hb2
  obtain ⟨s0, s1, s2, s3, s4, _⟩ := HG.out.at 0 rfl
  by_cases hl : 10000 < xs.length
  · have hl' : (10000 : Int) < xs.length := by omega
    go_wp2_with fail
    go_ret
    exact ⟨rfl, HW.out⟩
  have hl' : ¬ (10000 : Int) < xs.length := by omega
  by_cases hk : 1000 < s.2.2.2.2.length
  · have hk' : (1000 : Int) < s.2.2.2.2.length := by omega
    go_wp2_with fail
    go_ret
    exact ⟨rfl, HW.out⟩
  have hk' : ¬ (1000 : Int) < s.2.2.2.2.length := by omega
  have hbig := Lib.hid (show xs.length ≤ 10000 by omega)
  clear hl hk
  have xs3 : Sup (Old w2) w2 _ _ := HG.out.at 2 rfl
  go_wp2_with fail
  with_reducible refine (ringWrite_any _ s _ xs3).mono ?_
  rintro e3 w3 ⟨u3, rfl, y3, hb3⟩
  have hy3 := Lib.hid (stab_by.drop y3)
  replace HG := Lib.hid (HG.out.below hb3)
  replace HW := Lib.hid (HW.out.trans (hb3.mono HW.out.size))
  clear y3 hb3 s0 s1 s2 s3 s4 xs3
  cases hm : mayS s with
  | false =>
    have hc := Lib.hid (chkS_bad hm)
    rw [hc.out]
    replace hm := Lib.hid hm
    go_upto_region 9 with fail
    obtain ⟨W, hWe⟩ : ∃ W : World, W = w3 := ⟨_, rfl⟩
    subst hWe
    have x2 : rBy (Old W) W [_] _ := HG.out.at 1 rfl
    go_wp2_with fail
    with_reducible refine (ringRead_any _ xs _ (Nat.le_trans hbig.out (by omega)) x2).mono ?_
    rintro e6 w6 ⟨u6, rfl, y6, hb6⟩
    obtain ⟨r, hr⟩ : ∃ r, reS xs = r := ⟨_, rfl⟩
    obtain ⟨q, hq⟩ : ∃ q, reE xs = q := ⟨_, rfl⟩
    rw [hr] at y6
    rw [hq]
    obtain ⟨C, cc, rfl, _⟩ := y6.open
    obtain ⟨w7, hw7, G7, hb7, hb67, _⟩ := bag_box5 HG.out hb6 (.int .u32 r.1) (.int .i64 r.2.1) (.int .u32 r.2.2.1) (.int .u32 r.2.2.2.1) (.slice C r.2.2.2.2.length cc)
    have y7 : OldS (supV r C cc) r w7 := y6.drop.below hb67
    replace HG := Lib.hid (G7.add y7 (lasts_oldS _ _))
    replace HW := Lib.hid (HW.out.trans (hb7.mono HW.out.size))
    clear hb6 hb7 hb67 y6 y7 G7 x2
    have hrq := Lib.hid (show q ≠ 0 → r = zeroSp from fun h => by rw [← hr]; exact read_no (by rw [hq]; exact h))
    have hrk := Lib.hid (show q = 0 → mayS r = true ∧ blkS r = xs from fun h => by rw [← hr]; have := read_blk (b := xs) (by rw [hq]; exact h); exact ⟨this.1, this.2.1⟩)
    replace hr := Lib.hid hr
    replace hq := Lib.hid hq
    go_upto_region 10 with fail
    clear hw7
    obtain ⟨r0, r1, r2, r3, r4, _⟩ := HG.out.at 1 rfl
    have xr : Sup (Old w7) w7 _ _ := HG.out.at 0 rfl
    by_cases hq0 : q = 0
    case neg =>
      have ht : (q != 0) = true := by simpa using hq0
      have hz := Lib.hid (show sameSp r zeroSp = true by rw [hrq.out hq0]; exact sameSp_self _)
      clear hq0
      go_wp2_with fail
      with_reducible refine (sameS_any _ (.agg #[.int .u32 0, .int .i64 0, .int .u32 0, .int .u32 0, .slice none 0 0]) r zeroSp _ xr (sup_zero _ _)).mono ?_
      rintro e8 w8 ⟨rfl, hb8⟩
      rw [hz.out]
      have BF := Lib.hid (HW.out.trans (hb8.mono HW.out.size))
      clear hb8
      go_wp2_with fail
      go_ret
      exact ⟨rfl, BF.out⟩
    obtain ⟨hmr, hbr⟩ := hrk.out hq0
    subst hq0
    have hcr := Lib.hid (chkS_ok hmr)
    have hwr := Lib.hid (show wrS r = xs by simp [wrS, hmr, hbr])
    clear hmr hbr
    go_wp2_with fail
    with_reducible refine (ringWrite_any _ r _ xr).mono ?_
    rintro e8 w8 ⟨u8, rfl, y8, hb8⟩
    rw [hcr.out]
    rw [hwr.out] at y8
    have BF := Lib.hid (HW.out.trans (hb8.mono HW.out.size))
    replace HG := Lib.hid (HG.out.below hb8)
    have c1 := rBy_str0 (stab_by.drop y8)
    have c2 := rBy_str0 (HG.out.at 3 rfl : rBy (Old w8) w8 [_] _)
    clear hb8 y8 r0 r1 r2 r3 r4 xr
    go_wp2_with fail
    go_ret
    exact ⟨rfl, BF.out⟩
  | true =>
    have hc := Lib.hid (chkS_ok hm)
    obtain ⟨hb0, hbS⟩ := blk_back hin'.out hm
    have hwr := Lib.hid (show wrS s = blkS s by simp [wrS, hm])
    have hln := Lib.hid (blkS_length hm)
    have Hb0 := Lib.hid hb0
    have HbS := Lib.hid hbS
    rw [hc.out]
    replace hm := Lib.hid hm
    clear hb0 hbS
    have hy3' := hy3.out
    rw [hwr.out] at hy3'
    obtain ⟨F, cf, rfl, _⟩ := id (rBy_open hy3')
    go_wp2_with fail
    with_reducible refine (ringRead_any _ (blkS s) _ (by rw [hln.out]; omega) hy3').mono ?_
    rintro e4 w4 ⟨u4, rfl, y4, hb4⟩
    rw [Hb0.out]
    rw [HbS.out] at y4
    obtain ⟨G, cg, rfl, _⟩ := y4.open
    obtain ⟨w5, hw5, G5, hb5, hb45, _⟩ := bag_box5 HG.out hb4 (.int .u32 s.1) (.int .i64 s.2.1) (.int .u32 s.2.2.1) (.int .u32 s.2.2.2.1) (.slice G s.2.2.2.2.length cg)
    have y5 : Sup (Old w5) w5 _ _ := y4.drop.below hb45
    have HG5 := Lib.hid G5
    replace HG := Lib.hid (HG.out.below hb5)
    replace HW := Lib.hid (HW.out.trans (hb5.mono HW.out.size))
    clear hb4 hb5 hb45 y4 G5 hy3'
    go_upto_region 7 with fail
    clear hw5
    obtain ⟨p0, p1, p2, p3, p4, _⟩ := HG5.out.at 0 rfl
    obtain ⟨s0, s1, s2, s3, s4, _⟩ := HG5.out.at 1 rfl
    have x5 : Sup (Old w5) w5 _ _ := HG5.out.at 3 rfl
    have hss := Lib.hid (sameSp_self s)
    have h128 : (((blkS s).length : Int) != 128) = false := by rw [hln.out]; rfl
    go_wp2_with fail
    with_reducible refine (sameS_any _ _ s s _ y5 x5).mono ?_
    rintro e6 w6 ⟨rfl, hb6⟩
    rw [hss.out]
    replace HG := Lib.hid (HG.out.below hb6)
    replace HW := Lib.hid (HW.out.trans (hb6.mono HW.out.size))
    clear hb6 p0 p1 p2 p3 p4 s0 s1 s2 s3 s4 x5 y5 HG5
    go_upto_region 9 with fail
    clear h128
    obtain ⟨W, hWe⟩ : ∃ W : World, W = w6 := ⟨_, rfl⟩
    subst hWe
    have x2 : rBy (Old W) W [_] _ := HG.out.at 1 rfl
    go_wp2_with fail
    with_reducible refine (ringRead_any _ xs _ (Nat.le_trans hbig.out (by omega)) x2).mono ?_
    rintro e9 w9 ⟨u6, rfl, y6, hb9⟩
    obtain ⟨r, hr⟩ : ∃ r, reS xs = r := ⟨_, rfl⟩
    obtain ⟨q, hq⟩ : ∃ q, reE xs = q := ⟨_, rfl⟩
    rw [hr] at y6
    rw [hq]
    obtain ⟨C, cc, rfl, _⟩ := y6.open
    obtain ⟨w7, hw7, G7, hb7, hb97, _⟩ := bag_box5 HG.out hb9 (.int .u32 r.1) (.int .i64 r.2.1) (.int .u32 r.2.2.1) (.int .u32 r.2.2.2.1) (.slice C r.2.2.2.2.length cc)
    have y7 : OldS (supV r C cc) r w7 := y6.drop.below hb97
    replace HG := Lib.hid (G7.add y7 (lasts_oldS _ _))
    replace HW := Lib.hid (HW.out.trans (hb7.mono HW.out.size))
    clear hb9 hb7 hb97 y6 y7 G7 x2
    have hrq := Lib.hid (show q ≠ 0 → r = zeroSp from fun h => by rw [← hr]; exact read_no (by rw [hq]; exact h))
    have hrk := Lib.hid (show q = 0 → mayS r = true ∧ blkS r = xs from fun h => by rw [← hr]; have := read_blk (b := xs) (by rw [hq]; exact h); exact ⟨this.1, this.2.1⟩)
    replace hr := Lib.hid hr
    replace hq := Lib.hid hq
    go_upto_region 10 with fail
    clear hw7
    obtain ⟨r0, r1, r2, r3, r4, _⟩ := HG.out.at 1 rfl
    have xr : Sup (Old w7) w7 _ _ := HG.out.at 0 rfl
    by_cases hq0 : q = 0
    case neg =>
      have ht : (q != 0) = true := by simpa using hq0
      have hz := Lib.hid (show sameSp r zeroSp = true by rw [hrq.out hq0]; exact sameSp_self _)
      clear hq0
      go_wp2_with fail
      with_reducible refine (sameS_any _ (.agg #[.int .u32 0, .int .i64 0, .int .u32 0, .int .u32 0, .slice none 0 0]) r zeroSp _ xr (sup_zero _ _)).mono ?_
      rintro e8 w8 ⟨rfl, hb8⟩
      rw [hz.out]
      have BF := Lib.hid (HW.out.trans (hb8.mono HW.out.size))
      clear hb8
      go_wp2_with fail
      go_ret
      exact ⟨rfl, BF.out⟩
    obtain ⟨hmr, hbr⟩ := hrk.out hq0
    subst hq0
    have hcr := Lib.hid (chkS_ok hmr)
    have hwr := Lib.hid (show wrS r = xs by simp [wrS, hmr, hbr])
    clear hmr hbr
    go_wp2_with fail
    with_reducible refine (ringWrite_any _ r _ xr).mono ?_
    rintro e8 w8 ⟨u8, rfl, y8, hb8⟩
    rw [hcr.out]
    rw [hwr.out] at y8
    have BF := Lib.hid (HW.out.trans (hb8.mono HW.out.size))
    replace HG := Lib.hid (HG.out.below hb8)
    have c1 := rBy_str0 (stab_by.drop y8)
    have c2 := rBy_str0 (HG.out.at 3 rfl : rBy (Old w8) w8 [_] _)
    clear hb8 y8 r0 r1 r2 r3 r4 xr
    go_wp2_with fail
    go_ret
    exact ⟨rfl, BF.out⟩

/-! ### The row's step -/
set_option maxRecDepth 100000 in
theorem lifted (os : Os) (started : os.Started) (H : Type) (enc : TypeId × Value → H) :
    ReturnsInHanded {} Try.checked os 7 .any (Rows.ringBackSpec.pre6 enc Try.prog Try.f7 Rows.ringBackRow.domain false) (Rows.ringBackSpec.post enc Try.prog Try.f7 false true false false) := by
  refine returnsInHanded_of_change (C := Try.checked) own started (by kernel_rfl) Try.func7
    (ChangeSpec.witness6 (enc := enc) (C := Try.checked) false ⟨#[], #[.agg #[.int .u32 0, .int .i64 0, .int .u32 0, .int .u32 0, .slice none 0 0], .slice none 0 0], []⟩ 8 (by kernel_rfl) (by kernel_rfl) (by kernel_rfl) (by kernel_rfl)) ?_
  intro W base args ds gs before hval0 hW _ _
  have hval : ∀ (j : Nat) t v, Try.f7.params[j]? = some t → args[j]? = some v → Value.okWide Try.prog W .any base t v := hval0
  have hW' := hW
  obtain ⟨p, q, hA0, hV, _, _, _⟩ := hW
  have hA : DataW.TrodAll enc Try.prog W 0 (fun _ => true) true Try.f7.params.toList args.toList ds p := hA0
  rw [Try.params7] at hA hval
  obtain ⟨v0, vs0, d0, ds0, p0, q0, hargs, rfl, _, h0, r0⟩ := trodAll_cons hA
  obtain ⟨v1, vs1, d1, ds1, p1, q1, rfl, rfl, _, h1, r1⟩ := trodAll_cons r0
  obtain ⟨rfl, rfl, _⟩ := trodAll_nil r1
  obtain rfl : args = #[v0, v1] := by cases args; simp_all
  obtain ⟨rfl, _⟩ := trodVars_none hV
  obtain ⟨d0x, y0⟩ := open_sup (hval 0 57 v0 rfl rfl) h0
  obtain ⟨d1x, y1⟩ := open_by (hval 1 26 v1 rfl rfl) h1
  clear hA0 hval0
  refine (walk v0 d0x v1 d1x W y0 y1).mono fun e W' ⟨he, hb⟩ => ?_
  subst he
  exact ⟨_, rfl, law_post laidOut (by rw [Try.params7]; decide +kernel) (by kernel_rfl) Try.underlying4 rfl ⟨rfl, by simp [Rows.ringBackSpec], rfl⟩ hW' hb⟩

theorem over : Rows.ringBackRow.holds Try.pinned (OpenSpec.ofChange Rows.ringBackSpec) :=
  OpenClaim.holds_of_wide 7 Try.f7 rfl rfl rfl rfl rfl rfl rfl ⟨rfl, rfl, rfl, rfl, rfl⟩ rfl rfl rfl rfl rfl (by kernel_rfl) Try.func7 (by kernel_rfl)
    (of_decide_eq_true (by kernel_rfl)) (by unfold Func.isWrapper; first | (rw [if_pos (by decide +kernel)]; kernel_rfl) | (rw [if_neg (by decide +kernel)]; exact ⟨rfl, rfl⟩))
    (fun os started H enc _ => lifted os started H enc)

end Go.Proofs.Ytgnogclhleheiaa.ringBack
namespace Go.Proofs.Ytgnogclhleheiaa
theorem ringBack_proved : Rows.RingBackSaid := ringBack.over
end Go.Proofs.Ytgnogclhleheiaa
