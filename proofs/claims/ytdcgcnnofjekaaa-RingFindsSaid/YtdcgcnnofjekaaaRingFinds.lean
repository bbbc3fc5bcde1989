/-
  For every disk and superblock RingFinds answers true and leaves its arguments as they were. No condition.
-/
import Derived.Test.YtdcgcnnofjekaaaBnd3
import Derived.Deep.CutBlock
namespace Go.Proofs.Ytdcgcnnofjekaaa.ringFinds
open Go.ChangeShapes Go.WideShapes Go.RowKit

theorem own : ownKnob Try.prog.godebug = none := by kernel_rfl
theorem laidOut : laidOutB Try.prog = true := by kernel_rfl

def OldL (v : Value) (xs : List Sp) : World → Prop := fun w => rSl 5 rSp (Old w) w [v] xs
theorem lasts_oldL (v : Value) (xs : List Sp) : Lasts (OldL v xs) := fun _ _ h hb => (stab_sl stab_sp).old h hb
theorem oldL_new {lo : Nat} {w : World} {v : Value} {xs : List Sp} (h : rSl 5 rSp (New lo w) w [v] xs) : OldL v xs w := (stab_sl stab_sp) _ _ _ _ _ _ (fun p v hp hc => ⟨hp.2.1, hc⟩) h
set_option maxRecDepth 100000 in
set_option maxHeartbeats 16000000 in
theorem walk (v : Value) (d : Dk) (u : Value) (s : Sp) (w : World) (h : Dsk (Old w) w v d) (hu : Sup (Old w) w u s) :
    Calls Try.prog 5 #[v, u] w fun e w' => e = .returned (.bool true) ∧ Below w.heap.size w w' := by
  obtain ⟨A, c, B, f, rfl, lA, mA, lB, mB, _⟩ := id h.open
  obtain ⟨D, dc, rfl, hin, _⟩ := id hu.open
  have G1 := ((Bag.nil w).add (F := OldD (.agg #[.slice A d.1.length c, .slice B d.2.length f]) d) h (lasts_oldD _ _)).add (F := OldS (supV s D dc) s) hu (lasts_oldS _ _)
  obtain ⟨w1, hw1, G2, hB1, hB1', lt1⟩ := bag_box G1 (Below.refl _ _) (.slice A d.1.length c) (.slice B d.2.length f)
  obtain ⟨w2, hw2, G3, hB2, _, _⟩ := bag_box5 G2 (Below.refl _ _) (.int .u32 s.1) (.int .i64 s.2.1) (.int .u32 s.2.2.1) (.int .u32 s.2.2.2.1) (.slice D s.2.2.2.2.length dc)
  have HG := Lib.hid G3
  have HW := Lib.hid (hB1.trans (hB2.mono hB1.size))
  replace hw2 := Lib.hid hw2
  clear G1 G2 G3 h hu hB1 hB1' hB2 lt1 hin
  go_enter Try.func5, Try.ntmps5
  go_upto_region 1 with fail
  rw [hw2.out]
  clear hw1 hw2
  obtain ⟨k1, k2, _⟩ := HG.out.at 1 rfl
  have xd : Dsk (Old w2) w2 _ _ := HG.out.at 3 rfl
  go_wp2_with fail
  with_reducible refine (great_any _ _ _ xd).mono ?_
  rintro e4 w4 ⟨rfl, hb4⟩
  replace HG := Lib.hid (HG.out.below hb4)
  replace HW := Lib.hid (HW.out.trans (hb4.mono HW.out.size))
  clear hb4 k1 k2 xd
  rcases bool_ways2 (greatB d) with hg | hg
  case inr =>
    rw [hg]
    replace hg := Lib.hid hg
    go_wp2_with fail
    go_ret
    exact ⟨rfl, HW.out⟩
  have hsm := Lib.hid (small_of_great hg)
  rw [hg]
  replace hg := Lib.hid hg
  obtain ⟨k1, k2, _⟩ := HG.out.at 1 rfl
  obtain ⟨s0, s1, s2, s3, s4, _⟩ := HG.out.at 0 rfl
  by_cases hl : 1000 < s.2.2.2.2.length
  · have hl' : (1000 : Int) < s.2.2.2.2.length := by omega
    go_wp2_with fail
    go_ret
    exact ⟨rfl, HW.out⟩
  have hl' : ¬ (1000 : Int) < s.2.2.2.2.length := by omega
  clear hl
  have xd : Dsk (Old w4) w4 _ _ := HG.out.at 3 rfl
  go_wp2_with fail
  with_reducible refine (refTwin_any _ d _ hsm.out xd).mono ?_
  rintro e5 w5 ⟨u5, rfl, h5, hb5⟩
  obtain ⟨A5, c5, B5, f5, rfl, _⟩ := id h5.open
  obtain ⟨w6, hw6, G6, hb6, hb56, lt6⟩ := bag_box HG.out hb5 (.slice A5 d.1.length c5) (.slice B5 d.2.length f5)
  have y6 : OldD (.agg #[.slice A5 d.1.length c5, .slice B5 d.2.length f5]) d w6 := h5.drop.below hb56
  replace HG := Lib.hid (G6.add y6 (lasts_oldD _ _))
  replace HW := Lib.hid (HW.out.trans (hb6.mono HW.out.size))
  clear hb5 h5 hb6 hb56 lt6 G6 y6 k1 k2 s0 s1 s2 s3 s4 xd
  go_upto_region 4 with fail
  clear hw6
  obtain ⟨n1, n2, _⟩ := HG.out.at 1 rfl
  obtain ⟨s0, s1, s2, s3, s4, _⟩ := HG.out.at 2 rfl
  have xo : Dsk (Old w6) w6 _ _ := HG.out.at 0 rfl
  have xs : Sup (Old w6) w6 _ _ := HG.out.at 4 rfl
  go_wp2_with fail
  with_reducible refine (put_any _ _ d s _ xo xs).mono ?_
  rintro e7 w7 ⟨u7, rfl, h7, hb7⟩
  obtain ⟨R, hR⟩ : ∃ R, putR d s = R := ⟨_, rfl⟩
  obtain ⟨q, hq⟩ : ∃ q, putE d s = q := ⟨_, rfl⟩
  rw [hR] at h7
  rw [hq]
  obtain ⟨A7, c7, B7, f7, rfl, _⟩ := id h7.open
  obtain ⟨w8, hw8, G8, hb8, hb78, lt8⟩ := bag_box HG.out hb7 (.slice A7 R.1.length c7) (.slice B7 R.2.length f7)
  have y8 : OldD (.agg #[.slice A7 R.1.length c7, .slice B7 R.2.length f7]) R w8 := h7.drop.below hb78
  replace HG := Lib.hid (G8.add y8 (lasts_oldD _ _))
  replace HW := Lib.hid (HW.out.trans (hb8.mono HW.out.size))
  clear hb7 h7 hb8 hb78 lt8 G8 y8 n1 n2 s0 s1 s2 s3 s4 xo xs
  go_upto_region 5 with fail
  clear hw8
  obtain ⟨k1, k2, _⟩ := HG.out.at 5 rfl
  obtain ⟨s0, s1, s2, s3, s4, _⟩ := HG.out.at 4 rfl
  have xd : Dsk (Old w8) w8 _ _ := HG.out.at 7 rfl
  have xs : Sup (Old w8) w8 _ _ := HG.out.at 6 rfl
  go_wp2_with fail
  have hok8 : ∀ p, Old w8 p → p.block < w8.heap.size := fun p hp => hp
  with_reducible refine (refPut_any (Old w8) _ _ d s w8 hok8 xd xs).mono ?_
  clear hok8
  rintro e9 w9 ⟨u9, rfl, h9, hb9⟩
  rw [hR] at h9
  rw [hq]
  have h9' : Dsk (Old w9) w9 u9 R := h9.map fun p v hp hc => ⟨by
    rcases hp with hp | hp
    · exact Nat.lt_of_lt_of_le hp hb9.size
    · exact hp.2, hc⟩
  obtain ⟨A9, c9, B9, f9, rfl, _⟩ := id h9'.open
  obtain ⟨wa, hwa, Ga, hba, hb9a, lta⟩ := bag_box HG.out hb9 (.slice A9 R.1.length c9) (.slice B9 R.2.length f9)
  have ya : OldD (.agg #[.slice A9 R.1.length c9, .slice B9 R.2.length f9]) R wa := h9'.below hb9a
  replace HG := Lib.hid (Ga.add ya (lasts_oldD _ _))
  replace HW := Lib.hid (HW.out.trans (hba.mono HW.out.size))
  clear hb9 h9 h9' hba hb9a lta Ga ya k1 k2 s0 s1 s2 s3 s4 xd xs
  replace hR := Lib.hid hR
  replace hq := Lib.hid hq
  go_upto_region 6 with fail
  clear hwa
  obtain ⟨n1, n2, _⟩ := HG.out.at 5 rfl
  have xo : Dsk (Old wa) wa _ _ := HG.out.at 4 rfl
  go_wp2_with fail
  with_reducible refine (find_any _ d _ xo).mono ?_
  rintro eb wb ⟨ub, rfl, hfb, hbb⟩
  obtain ⟨l, hl0⟩ : ∃ l, findS d = l := ⟨_, rfl⟩
  obtain ⟨fe, hfe⟩ : ∃ e, findE d = e := ⟨_, rfl⟩
  rw [hl0] at hfb
  rw [hfe]
  obtain ⟨L, lc, eL, llc, lcm, _⟩ := id hfb
  cases eL
  replace HG := Lib.hid ((HG.out.below hbb).add (F := OldL _ l) (oldL_new hfb) (lasts_oldL _ _))
  replace HW := Lib.hid (HW.out.trans (hbb.mono HW.out.size))
  clear hbb hfb n1 n2 xo
  obtain ⟨k1, k2, _⟩ := HG.out.at 8 rfl
  have xd : Dsk (Old wb) wb _ _ := HG.out.at 10 rfl
  go_wp2_with fail
  with_reducible refine (refFind_any _ d _ xd).mono ?_
  rintro ec wc ⟨uc, rfl, hfc, hbc⟩
  rw [hl0] at hfc
  rw [hfe]
  obtain ⟨M, mc, eM, lmc, mcm, _⟩ := id hfc
  cases eM
  replace HG := Lib.hid ((HG.out.below hbc).add (F := OldL _ l) hfc (lasts_oldL _ _))
  replace HW := Lib.hid (HW.out.trans (hbc.mono HW.out.size))
  clear hbc hfc k1 k2 xd
  replace hl0 := Lib.hid hl0
  replace hfe := Lib.hid hfe
  obtain ⟨n, hn⟩ : ∃ n, l.length = n := ⟨_, rfl⟩
  rw [hn] at HG llc lmc ⊢
  replace hn := Lib.hid hn
  obtain ⟨a1, a2, _⟩ := HG.out.at 5 rfl
  obtain ⟨b1, b2, _⟩ := HG.out.at 3 rfl
  have xa : Dsk (Old wc) wc _ R := HG.out.at 4 rfl
  have xb : Dsk (Old wc) wc _ R := HG.out.at 2 rfl
  go_wp2_with fail
  with_reducible refine (refSame_any _ _ _ _ _ xa xb).mono ?_
  rintro e13 wd ⟨rfl, hbd⟩
  rw [show sameB _ _ = true from decide_eq_true rfl]
  replace HG := Lib.hid (HG.out.below hbd)
  replace HW := Lib.hid (HW.out.trans (hbd.mono HW.out.size))
  clear hbd a1 a2 b1 b2 xa xb
  have HL : Hid (∀ k x, l[k]? = some x → ∃ ad d, L = some ad ∧ ∀ W, Below wd.heap.size wd W → FiveAt ad k x d W ∧ Sup (Old W) W (.agg #[.int .u32 x.1, .int .i64 x.2.1, .int .u32 x.2.2.1, .int .u32 x.2.2.2.1, d]) x) := Lib.hid (by
    obtain ⟨_, _, e, _, _, hA⟩ : rSl 5 rSp (Old wd) wd _ l := HG.out.at 1 rfl
    cases e
    exact fun k x hx => five_at hA hx)
  have HM : Hid (∀ k x, l[k]? = some x → ∃ ad d, M = some ad ∧ ∀ W, Below wd.heap.size wd W → FiveAt ad k x d W ∧ Sup (Old W) W (.agg #[.int .u32 x.1, .int .i64 x.2.1, .int .u32 x.2.2.1, .int .u32 x.2.2.2.1, d]) x) := Lib.hid (by
    obtain ⟨_, _, e, _, _, hA⟩ : rSl 5 rSp (Old wd) wd _ l := HG.out.at 0 rfl
    cases e
    exact fun k x hx => five_at hA hx)
  go_wp2_with fail
  go_loopw [14] (fun i wr => ∃ k : Nat, k ≤ n ∧ i = .int .i64 k ∧ Below wd.heap.size wd wr) (fun i _ => n - (intOf i).toNat)
  case atStart => exact ⟨0, by omega, rfl, Below.refl _ _⟩
  case round =>
    obtain ⟨k, hk, rfl, hb5⟩ := hrel
    have B5 := Lib.hid hb5
    clear hb5
    by_cases hlt2 : k < n
    · obtain ⟨x, hx⟩ : ∃ x, l[k]? = some x := ⟨_, List.getElem?_eq_getElem (by rw [hn.out]; exact hlt2)⟩
      obtain ⟨ad, d1, rfl, FA0⟩ := HL.out k x hx
      obtain ⟨bd, d2, rfl, FB0⟩ := HM.out k x hx
      replace hx := Lib.hid hx
      have FA : Hid (∀ W, Below wr.heap.size wr W → FiveAt ad k x d1 W ∧ Sup (Old W) W (.agg #[.int .u32 x.1, .int .i64 x.2.1, .int .u32 x.2.2.1, .int .u32 x.2.2.2.1, d1]) x) := Lib.hid fun W h => FA0 W (B5.out.trans (h.mono B5.out.size))
      have FB : Hid (∀ W, Below wr.heap.size wr W → FiveAt bd k x d2 W ∧ Sup (Old W) W (.agg #[.int .u32 x.1, .int .i64 x.2.1, .int .u32 x.2.2.1, .int .u32 x.2.2.2.1, d2]) x) := Lib.hid fun W h => FB0 W (B5.out.trans (h.mono B5.out.size))
      have hse := Lib.hid (sameSp_self x)
      clear FA0 FB0
      have i1 : (0 : Int) ≤ (k : Int) := by omega
      have i2 : (k : Int) < (n : Int) := by omega
      go_upto_region 13 with fail
      refine wp_region_fx (by kernel_rfl) (fun W => Below wr.heap.size wr W) (fun _ => none) (fun i => match i with
        | 8 => some (.bool true)
        | _ => none) (by kernel_rfl) (Below.refl _ _).drew (fun w w' h hb => h.trans (hb.mono h.size)) (fun j φ x W W' hp => by cases hp) ?_
      repeat (first
        | (refine wpAs_skip rfl ?_; simp only [Act.put, List.setIfInBounds_toArray, List.set_cons_zero, List.set_cons_succ])
        | (refine wpAs_pure (v := ?_) rfl rfl ?_ ?_; rotate_left; (intro W hC hE; clear hE; (obtain ⟨⟨z0, z1, z2, z3, z4⟩, _⟩ := FA.out W hC; obtain ⟨⟨y0, y1, y2, y3, y4⟩, _⟩ := FB.out W hC); clear hC; go_simp; done); simp only [Act.put, List.setIfInBounds_toArray, List.set_cons_zero, List.set_cons_succ])
        | (refine wpAs_pure (v := ?_) rfl rfl ?_ ?_; rotate_left; (intro W hC hE; clear hE; (obtain ⟨⟨z0, z1, z2, z3, z4⟩, _⟩ := FA.out W hC; obtain ⟨⟨y0, y1, y2, y3, y4⟩, _⟩ := FB.out W hC); clear hC; go_simp; with_reducible rfl); simp only [Act.put, List.setIfInBounds_toArray, List.set_cons_zero, List.set_cons_succ]))
      refine wpAs_fixed rfl rfl rfl ?_ ?_
      · intro W hC hE
        clear hE
        refine does_enter (f := 20) (args := #[.agg #[.int .u32 x.1, .int .i64 x.2.1, .int .u32 x.2.2.1, .int .u32 x.2.2.2.1, d1], .agg #[.int .u32 x.1, .int .i64 x.2.1, .int .u32 x.2.2.1, .int .u32 x.2.2.2.1, d2]]) ?_ ?_
        · clear hC
          go_simp
        · refine (refSameS_any _ _ x x W (FA.out W hC).2 (FB.out W hC).2).mono ?_
          rintro e W' ⟨rfl, hg⟩
          rw [hse.out]
          exact ⟨_, rfl, rfl, hg⟩
      simp only [Act.put, List.setIfInBounds_toArray, List.set_cons_zero, List.set_cons_succ]
      repeat (first
        | (refine wpAs_skip rfl ?_; simp only [Act.put, List.setIfInBounds_toArray, List.set_cons_zero, List.set_cons_succ])
        | (refine wpAs_pure (v := ?_) rfl rfl ?_ ?_; rotate_left; (intro W hC hE; clear hE; (skip); clear hC; go_simp; done); simp only [Act.put, List.setIfInBounds_toArray, List.set_cons_zero, List.set_cons_succ])
        | (refine wpAs_pure (v := ?_) rfl rfl ?_ ?_; rotate_left; (intro W hC hE; clear hE; (skip); clear hC; go_simp; with_reducible rfl); simp only [Act.put, List.setIfInBounds_toArray, List.set_cons_zero, List.set_cons_succ]))
      refine wpAs_end fun W hC hE => ?_
      clear hE
      have BJ := Lib.hid (B5.out.trans (hC.mono B5.out.size))
      clear hC
      go_wp2_with fail
      go_roundw
      case rel => exact ⟨k + 1, by omega, by go_num, BJ.out⟩
      case measure => simp [intOf]; omega
    · have HG2 := Lib.hid (HG.out.below B5.out)
      have BF := Lib.hid (HW.out.trans (B5.out.mono HW.out.size))
      obtain ⟨k1, k2, _⟩ := HG2.out.at 9 rfl
      obtain ⟨n1, n2, _⟩ := HG2.out.at 7 rfl
      have xo : Dsk (Old wr) wr _ d := HG2.out.at 6 rfl
      have xd : Dsk (Old wr) wr _ d := HG2.out.at 11 rfl
      go_wp2_with fail
      with_reducible refine (refSame_any _ _ _ _ _ xo xd).mono ?_
      rintro eg wg ⟨rfl, hbg⟩
      rw [show sameB _ _ = true from decide_eq_true rfl]
      have BG := Lib.hid (BF.out.trans (hbg.mono BF.out.size))
      clear hbg
      go_wp2_with fail
      go_ret
      exact ⟨rfl, BG.out⟩

/-! ### The row's step -/
set_option maxRecDepth 100000 in
theorem lifted (os : Os) (started : os.Started) (H : Type) (enc : TypeId × Value → H) :
    ReturnsInHanded {} Try.checked os 5 .any (Rows.ringFindsSpec.pre6 enc Try.prog Try.f5 Rows.ringFindsRow.domain false) (Rows.ringFindsSpec.post enc Try.prog Try.f5 false true false false) := by
  refine returnsInHanded_of_change (C := Try.checked) own started (by kernel_rfl) Try.func5
    (ChangeSpec.witness6 (enc := enc) (C := Try.checked) false ⟨#[], #[.agg #[.slice none 0 0, .slice none 0 0], .agg #[.int .u32 0, .int .i64 0, .int .u32 0, .int .u32 0, .slice none 0 0]], []⟩ 8 (by kernel_rfl) (by kernel_rfl) (by kernel_rfl) (by kernel_rfl)) ?_
  intro W base args ds gs before hval0 hW _ _
  have hval : ∀ (j : Nat) t v, Try.f5.params[j]? = some t → args[j]? = some v → Value.okWide Try.prog W .any base t v := hval0
  have hW' := hW
  obtain ⟨p, q, hA0, hV, _, _, _⟩ := hW
  have hA : DataW.TrodAll enc Try.prog W 0 (fun _ => true) true Try.f5.params.toList args.toList ds p := hA0
  rw [Try.params5] at hA hval
  obtain ⟨v0, vs0, d0, ds0, p0, q0, hargs, rfl, _, h0, r0⟩ := trodAll_cons hA
  obtain ⟨v1, vs1, d1, ds1, p1, q1, rfl, rfl, _, h1, r1⟩ := trodAll_cons r0
  obtain ⟨rfl, rfl, _⟩ := trodAll_nil r1
  obtain rfl : args = #[v0, v1] := by cases args; simp_all
  obtain ⟨rfl, _⟩ := trodVars_none hV
  obtain ⟨d0x, y0⟩ := open_disk (hval 0 30 v0 rfl rfl) h0
  obtain ⟨d1x, y1⟩ := open_sup (hval 1 37 v1 rfl rfl) h1
  clear hA0 hval0
  refine (walk v0 d0x v1 d1x W y0 y1).mono fun e W' ⟨he, hb⟩ => ?_
  subst he
  exact ⟨_, rfl, law_post laidOut (by rw [Try.params5]; decide +kernel) (by kernel_rfl) Try.underlying4 rfl ⟨rfl, by simp [Rows.ringFindsSpec], rfl⟩ hW' hb⟩

theorem over : Rows.ringFindsRow.holds Try.pinned (OpenSpec.ofChange Rows.ringFindsSpec) :=
  OpenClaim.holds_of_wide 5 Try.f5 rfl rfl rfl rfl rfl rfl rfl ⟨rfl, rfl, rfl, rfl, rfl⟩ rfl rfl rfl rfl rfl (by kernel_rfl) Try.func5 (by kernel_rfl)
    (of_decide_eq_true (by kernel_rfl)) (by unfold Func.isWrapper; first | (rw [if_pos (by decide +kernel)]; kernel_rfl) | (rw [if_neg (by decide +kernel)]; exact ⟨rfl, rfl⟩))
    (fun os started H enc _ => lifted os started H enc)

end Go.Proofs.Ytdcgcnnofjekaaa.ringFinds
namespace Go.Proofs.Ytdcgcnnofjekaaa
theorem ringFinds_proved : Rows.RingFindsSaid := ringFinds.over
end Go.Proofs.Ytdcgcnnofjekaaa
