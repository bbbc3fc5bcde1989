/-
  For every disk, superblock and Boolean RingLost answers true and leaves its arguments as they were. No condition.
-/
import Derived.Test.YtdcgcnnofjekaaaBnd3
import Derived.Deep.CutBlock
namespace Go.Proofs.Ytdcgcnnofjekaaa.ringLost
open Go.ChangeShapes Go.WideShapes Go.RowKit

theorem own : ownKnob Try.prog.godebug = none := by kernel_rfl
theorem laidOut : laidOutB Try.prog = true := by kernel_rfl

def OldL (v : Value) (xs : List Sp) : World → Prop := fun w => rSl 5 rSp (Old w) w [v] xs
theorem lasts_oldL (v : Value) (xs : List Sp) : Lasts (OldL v xs) := fun _ _ h hb => (stab_sl stab_sp).old h hb
theorem bools_lone (w : World) (t : TypeId) (a : Bool) : rSl 1 rBool (Old (w.alloc (.cells #[.bool a] t))) (w.alloc (.cells #[.bool a] t)) [.slice (some ⟨w.heap.size, 0, none⟩) 1 1] [a] := by
  refine ⟨_, _, rfl, by simp, by decide, fun i x hx => ?_⟩
  have hi : i < 1 := by have := (List.getElem?_eq_some_iff.1 hx).1; simpa using this
  refine ⟨_, [.bool x], rfl, rfl, fun j v hj => ?_, rfl⟩
  have hj0 : j = 0 := by
    have := (List.getElem?_eq_some_iff.1 hj).1
    simp at this
    omega
  subst hj0
  have hi0 : i = 0 := by omega
  subst hi0
  simp at hx hj
  subst hx
  subst hj
  exact ⟨by simp [Old, Addr.add], by simp [Addr.add]⟩
/-- What a crash of one put leaves. -/
theorem crash_put {d : Dk} {s : Sp} (hs : InSp s) (h : putE d s = 0) (h0 : d.2.length = 0) (keep : Bool) : craE (putR d s) [keep] = 0 ∧ findS (craX (putR d s) [keep]) = (if keep then findS (putR d s) else findS d) ∧ findE (craX (putR d s) [keep]) = (if keep then 0 else findE d) := by
  obtain ⟨k, hk⟩ := wr_zero hs h
  have hl : (putR d s).2.length = 1 := by rw [hk, wrD_len, h0]
  cases keep with
  | true =>
    obtain ⟨g1, g2, g3⟩ := find_kept (put_may hs h) hl
    exact ⟨g1, g2, by rw [g3, find_put hs h]; rfl⟩
  | false => exact find_lost hs h h0
set_option maxRecDepth 100000 in
set_option maxHeartbeats 16000000 in
theorem walk (v : Value) (d : Dk) (u : Value) (s : Sp) (keep : Bool) (w : World) (h : Dsk (Old w) w v d) (hu : Sup (Old w) w u s) :
    Calls Try.prog 9 #[v, u, .bool keep] w fun e w' => e = .returned (.bool true) ∧ Below w.heap.size w w' := by
  obtain ⟨A, c, B, f, rfl, lA, mA, lB, mB, _⟩ := id h.open
  obtain ⟨D, dc, rfl, hin, _⟩ := id hu.open
  have hin' := Lib.hid hin
  have G1 := ((Bag.nil w).add (F := OldD (.agg #[.slice A d.1.length c, .slice B d.2.length f]) d) h (lasts_oldD _ _)).add (F := OldS (supV s D dc) s) hu (lasts_oldS _ _)
  obtain ⟨w1, hw1, G2, hB1, hB1', lt1⟩ := bag_box G1 (Below.refl _ _) (.slice A d.1.length c) (.slice B d.2.length f)
  obtain ⟨w2, hw2, G3, hB2, _, _⟩ := bag_box5 G2 (Below.refl _ _) (.int .u32 s.1) (.int .i64 s.2.1) (.int .u32 s.2.2.1) (.int .u32 s.2.2.2.1) (.slice D s.2.2.2.2.length dc)
  have HG := Lib.hid G3
  have HW := Lib.hid (hB1.trans (hB2.mono hB1.size))
  replace hw2 := Lib.hid hw2
  clear G1 G2 G3 h hu hB1 hB1' hB2 lt1 hin
  go_enter Try.func9, Try.ntmps9
  go_upto_region 1 with fail
  rw [hw2.out]
  clear hw1 hw2
  go_wp2_with fail
  with_reducible refine (alive4 _).mono ?_
  rintro e3 w3 ⟨rfl, hb3⟩
  replace HG := Lib.hid (HG.out.below hb3)
  replace HW := Lib.hid (HW.out.trans (hb3.mono HW.out.size))
  clear hb3
  obtain ⟨k1, k2, _⟩ := HG.out.at 1 rfl
  have xd : Dsk (Old w3) w3 _ _ := HG.out.at 3 rfl
  go_wp2_with fail
  with_reducible refine (great_any _ _ _ xd).mono ?_
  rintro e4 w4 ⟨rfl, hb4⟩
  replace HG := Lib.hid (HG.out.below hb4)
  replace HW := Lib.hid (HW.out.trans (hb4.mono HW.out.size))
  clear hb4 k1 k2 xd
  cases hg : greatB d with
  | true =>
    go_wp2_with fail
    go_ret
    exact ⟨rfl, HW.out⟩
  | false =>
  clear hg
  obtain ⟨k1, k2, _⟩ := HG.out.at 1 rfl
  obtain ⟨s0, s1, s2, s3, s4, _⟩ := HG.out.at 0 rfl
  by_cases h0 : d.2.length = 0
  case neg =>
    have h0' : 0 < d.2.length := by omega
    clear h0
    go_wp2_with fail
    go_ret
    exact ⟨rfl, HW.out⟩
  rw [h0] at HG k2 ⊢
  replace h0 := Lib.hid h0
  have xd : Dsk (Old w4) w4 _ _ := HG.out.at 3 rfl
  have xs : Sup (Old w4) w4 _ _ := HG.out.at 2 rfl
  go_wp2_with fail
  with_reducible refine (put_any _ _ d s _ xd xs).mono ?_
  rintro e5 w5 ⟨u5, rfl, h5, hb5⟩
  obtain ⟨R, hR⟩ : ∃ R, putR d s = R := ⟨_, rfl⟩
  obtain ⟨q, hq⟩ : ∃ q, putE d s = q := ⟨_, rfl⟩
  rw [hR] at h5
  rw [hq]
  obtain ⟨A5, c5, B5, f5, rfl, _⟩ := id h5.open
  obtain ⟨w6, hw6, G6, hb6, hb56, lt6⟩ := bag_box HG.out hb5 (.slice A5 R.1.length c5) (.slice B5 R.2.length f5)
  have y6 : OldD (.agg #[.slice A5 R.1.length c5, .slice B5 R.2.length f5]) R w6 := h5.drop.below hb56
  replace HG := Lib.hid (G6.add y6 (lasts_oldD _ _))
  replace HW := Lib.hid (HW.out.trans (hb6.mono HW.out.size))
  clear hb5 h5 hb6 hb56 lt6 G6 y6 k1 k2 s0 s1 s2 s3 s4 xd xs
  go_upto_region 5 with fail
  clear hw6
  by_cases hq0 : q = 0
  case neg =>
    have ht : (q != 0) = true := by simpa using hq0
    clear hq0
    go_wp2_with fail
    go_ret
    exact ⟨rfl, HW.out⟩
  subst hq0
  have HP := crash_put hin'.out hq h0.out keep
  have HFE := Lib.hid (find_put hin'.out hq)
  rw [hR] at HP HFE
  replace HP := Lib.hid HP
  replace hR := Lib.hid hR
  replace hq := Lib.hid hq
  obtain ⟨n1, n2, _⟩ := HG.out.at 1 rfl
  have hk := bools_lone w6 4 keep
  have hba := (Below.refl w6.heap.size w6).alloc (Nat.le_refl _) (.cells #[.bool keep] 4)
  go_upto_region 7 with fail
  go_wp2_with fail
  generalize w6.alloc (.cells #[.bool keep] 4) = wA at *
  replace HG := Lib.hid (HG.out.below hba)
  replace HW := Lib.hid (HW.out.trans (hba.mono HW.out.size))
  have hk' := Lib.hid hk
  clear hk hba n1 n2
  have x8 : Dsk (Old wA) wA _ _ := HG.out.at 0 rfl
  with_reducible refine (crash_all _ _ R [keep] _ x8 hk'.out).mono ?_
  rintro e8 w8 ⟨u8, rfl, h8, hb8⟩
  obtain ⟨C, hC⟩ : ∃ C, craX R [keep] = C := ⟨_, rfl⟩
  rw [hC] at h8
  rw [HP.out.1]
  have HPS := Lib.hid HP.out.2.1
  have HPE := Lib.hid HP.out.2.2
  rw [hC] at HPS HPE
  replace hC := Lib.hid hC
  obtain ⟨A8, c8, B8, f8, rfl, _⟩ := id h8.open
  obtain ⟨w9, hw9, G9, hb9, hb89, lt9⟩ := bag_box HG.out hb8 (.slice A8 C.1.length c8) (.slice B8 C.2.length f8)
  have y9 : OldD (.agg #[.slice A8 C.1.length c8, .slice B8 C.2.length f8]) C w9 := h8.drop.below hb89
  replace HG := Lib.hid (G9.add y9 (lasts_oldD _ _))
  replace HW := Lib.hid (HW.out.trans (hb9.mono HW.out.size))
  clear hb8 h8 hb9 hb89 lt9 G9 y9 x8 hk' HP
  go_upto_region 8 with fail
  clear hw9
  obtain ⟨k1, k2, _⟩ := HG.out.at 5 rfl
  have xd : Dsk (Old w9) w9 _ _ := HG.out.at 7 rfl
  go_wp2_with fail
  with_reducible refine (find_any _ d _ xd).mono ?_
  rintro e10 w10 ⟨u10, rfl, h10, hb10⟩
  obtain ⟨q1, hq1⟩ : ∃ q1, findE d = q1 := ⟨_, rfl⟩
  rw [hq1]
  rw [hq1] at HPE
  replace hq1 := Lib.hid hq1
  replace HG := Lib.hid ((HG.out.below hb10).add (F := OldL u10 (findS d)) ((stab_sl stab_sp) _ _ _ _ _ _ (fun p v hp hc => ⟨hp.2.1, hc⟩) h10) (lasts_oldL _ _))
  replace HW := Lib.hid (HW.out.trans (hb10.mono HW.out.size))
  clear hb10 h10 k1 k2 xd
  obtain ⟨k1, k2, _⟩ := HG.out.at 4 rfl
  have xd : Dsk (Old w10) w10 _ _ := HG.out.at 3 rfl
  go_wp2_with fail
  with_reducible refine (find_any _ R _ xd).mono ?_
  rintro e11 w11 ⟨u11, rfl, h11, hb11⟩
  rw [HFE.out]
  replace HG := Lib.hid ((HG.out.below hb11).add (F := OldL u11 (findS R)) ((stab_sl stab_sp) _ _ _ _ _ _ (fun p v hp hc => ⟨hp.2.1, hc⟩) h11) (lasts_oldL _ _))
  replace HW := Lib.hid (HW.out.trans (hb11.mono HW.out.size))
  clear hb11 h11 k1 k2 xd
  obtain ⟨k1, k2, _⟩ := HG.out.at 3 rfl
  have xd : Dsk (Old w11) w11 _ _ := HG.out.at 2 rfl
  go_wp2_with fail
  with_reducible refine (find_any _ C _ xd).mono ?_
  rintro e12 w12 ⟨u12, rfl, h12, hb12⟩
  rw [HPE.out]
  have hnow := Lib.hid (show OldL u12 (findS C) w12 from (stab_sl stab_sp) _ _ _ _ _ _ (fun p v hp hc => ⟨hp.2.1, hc⟩) h12)
  rw [HPS.out] at hnow
  replace HG := Lib.hid (HG.out.below hb12)
  replace HW := Lib.hid (HW.out.trans (hb12.mono HW.out.size))
  clear hb12 h12 k1 k2 xd
  cases keep with
  | true =>
    have xa : rSl 5 rSp (Old w12) w12 [u12] (findS R) := hnow.out
    have xb : rSl 5 rSp (Old w12) w12 [u11] (findS R) := HG.out.at 0 rfl
    go_wp2_with fail
    with_reducible refine (lawSame_any _ _ _ _ _ xa xb).mono ?_
    rintro e13 w13 ⟨rfl, hb13⟩
    rw [sameL_self]
    have BF := Lib.hid (HW.out.trans (hb13.mono HW.out.size))
    clear hb13
    go_wp2_with fail
    go_ret
    exact ⟨rfl, BF.out⟩
  | false =>
    have xa : rSl 5 rSp (Old w12) w12 [u12] (findS d) := hnow.out
    have xb : rSl 5 rSp (Old w12) w12 [u10] (findS d) := HG.out.at 1 rfl
    have hqq : (q1 == q1) = true := by simp
    go_wp2_with fail
    with_reducible refine (lawSame_any _ _ _ _ _ xa xb).mono ?_
    rintro e13 w13 ⟨rfl, hb13⟩
    rw [sameL_self]
    have BF := Lib.hid (HW.out.trans (hb13.mono HW.out.size))
    clear hb13
    go_wp2_with fail
    go_ret
    exact ⟨rfl, BF.out⟩

/-! ### The row's step -/
set_option maxRecDepth 100000 in
theorem lifted (os : Os) (started : os.Started) (H : Type) (enc : TypeId × Value → H) :
    ReturnsInHanded {} Try.checked os 9 .any (Rows.ringLostSpec.pre6 enc Try.prog Try.f9 Rows.ringLostRow.domain false) (Rows.ringLostSpec.post enc Try.prog Try.f9 false true false false) := by
  refine returnsInHanded_of_change (C := Try.checked) own started (by kernel_rfl) Try.func9
    (ChangeSpec.witness6 (enc := enc) (C := Try.checked) false ⟨#[], #[.agg #[.slice none 0 0, .slice none 0 0], .agg #[.int .u32 0, .int .i64 0, .int .u32 0, .int .u32 0, .slice none 0 0], .bool false], []⟩ 8 (by kernel_rfl) (by kernel_rfl) (by kernel_rfl) (by kernel_rfl)) ?_
  intro W base args ds gs before hval0 hW _ _
  have hval : ∀ (j : Nat) t v, Try.f9.params[j]? = some t → args[j]? = some v → Value.okWide Try.prog W .any base t v := hval0
  have hW' := hW
  obtain ⟨p, q, hA0, hV, _, _, _⟩ := hW
  have hA : DataW.TrodAll enc Try.prog W 0 (fun _ => true) true Try.f9.params.toList args.toList ds p := hA0
  rw [Try.params9] at hA hval
  obtain ⟨v0, vs0, d0, ds0, p0, q0, hargs, rfl, _, h0, r0⟩ := trodAll_cons hA
  obtain ⟨v1, vs1, d1, ds1, p1, q1, rfl, rfl, _, h1, r1⟩ := trodAll_cons r0
  obtain ⟨v2, vs2, d2, ds2, p2, q2, rfl, rfl, _, h2, r2⟩ := trodAll_cons r1
  obtain ⟨rfl, rfl, _⟩ := trodAll_nil r2
  obtain rfl : args = #[v0, v1, v2] := by cases args; simp_all
  obtain ⟨rfl, _⟩ := trodVars_none hV
  obtain ⟨d0x, y0⟩ := open_disk (hval 0 30 v0 rfl rfl) h0
  obtain ⟨d1x, y1⟩ := open_sup (hval 1 37 v1 rfl rfl) h1
  obtain ⟨a2, rfl, _, _⟩ := open_bool Try.underlying4 (hval 2 4 v2 rfl rfl) h2
  clear hA0 hval0
  refine (walk v0 d0x v1 d1x a2 W y0 y1).mono fun e W' ⟨he, hb⟩ => ?_
  subst he
  exact ⟨_, rfl, law_post laidOut (by rw [Try.params9]; decide +kernel) (by kernel_rfl) Try.underlying4 rfl ⟨rfl, by simp [Rows.ringLostSpec], rfl⟩ hW' hb⟩

theorem over : Rows.ringLostRow.holds Try.pinned (OpenSpec.ofChange Rows.ringLostSpec) :=
  OpenClaim.holds_of_wide 9 Try.f9 rfl rfl rfl rfl rfl rfl rfl ⟨rfl, rfl, rfl, rfl, rfl⟩ rfl rfl rfl rfl rfl (by kernel_rfl) Try.func9 (by kernel_rfl)
    (of_decide_eq_true (by kernel_rfl)) (by unfold Func.isWrapper; first | (rw [if_pos (by decide +kernel)]; kernel_rfl) | (rw [if_neg (by decide +kernel)]; exact ⟨rfl, rfl⟩))
    (fun os started H enc _ => lifted os started H enc)

end Go.Proofs.Ytdcgcnnofjekaaa.ringLost
namespace Go.Proofs.Ytdcgcnnofjekaaa
theorem ringLost_proved : Rows.RingLostSaid := ringLost.over
end Go.Proofs.Ytdcgcnnofjekaaa
