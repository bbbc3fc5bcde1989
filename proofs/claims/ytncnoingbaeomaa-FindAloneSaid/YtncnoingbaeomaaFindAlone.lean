/-
  For every store, root, key, block and place FindAlone answers true and leaves its arguments as they were. No condition.
-/
import Derived.Test.YtncnoingbaeomaaBnd4
namespace Go.Proofs.Ytncnoingbaeomaa.findAlone
open Go.ChangeShapes Go.WideShapes Go.RowKit

theorem own : ownKnob Try.prog.godebug = none := by kernel_rfl
theorem laidOut : laidOutB Try.prog = true := by kernel_rfl

set_option maxRecDepth 100000 in
set_option maxHeartbeats 8000000 in
theorem walk (v : Value) (s : Rm) (a : Int) (_hn : (Lit.int .i64 a).wf = true) (key : Ky) (u : Value) (b : List UInt8) (at0 : Int) (_hn2 : (Lit.int .i64 at0).wf = true) (w : World) (h : Sto (Old w) w v s) (hu : rBy (Old w) w [u] b) :
    Calls Try.prog 7 #[v, .int .i64 a, kyV key, u, .int .i64 at0] w fun e w' => e = .returned (.bool true) ∧ Below w.heap.size w w' := by
  clear _hn _hn2
  obtain ⟨A, ca, B, cb, N, cn, L, cl, rfl, _⟩ := id h.open
  obtain ⟨E, ce, rfl, _⟩ := id (rBy_open hu)
  have HG0 : Bag w [OldR (.agg #[.slice A s.1.1.length ca, .slice B s.1.2.length cb, .slice N s.2.1.length cn, .slice L s.2.2.length cl]) s, OldB (.slice E b.length ce) b] := ((Bag.nil w).add (F := OldB _ b) hu (lasts_oldB _ _)).add (F := OldR _ s) h (lasts_oldR _ _)
  obtain ⟨w0, hw0, hg0, hB0, _, hs0⟩ := bag_four HG0 (Below.refl _ _) (.slice A s.1.1.length ca) (.slice B s.1.2.length cb) (.slice N s.2.1.length cn) (.slice L s.2.2.length cl) 29
  obtain ⟨w1, hw1, hg1, hB1, _, hs1⟩ := bag_key hg0 (Below.refl _ _) (.int .u8 (key.1.toNat : Int)) (.int .u32 key.2.1) (.int .u32 key.2.2)
  have HG1 := Lib.hid hg1
  have B1 := Lib.hid (hB0.trans (hB1.mono hB0.size))
  replace hs1 := Lib.hid hs1
  replace hs0 := Lib.hid hs0
  clear HG0 hg1 hg0 h hu hB1 hB0
  unfold kyV
  go_enter Try.func7, Try.ntmps7
  go_upto_region 1 with fail
  clear hw0 hw1
  go_wp2_with fail
  with_reducible refine (alive10 _).mono ?_
  rintro e w2 ⟨rfl, hb2⟩
  have HG2 := Lib.hid (HG1.out.below hb2)
  have B2 := Lib.hid (B1.out.trans (hb2.mono B1.out.size))
  clear hb2 HG1 B1
  obtain ⟨k0, k1, k2, k3, kg⟩ := HG2.out.at 1 rfl
  go_wp2_with fail
  with_reducible refine (greatR_any _ s _ (HG2.out.at 2 rfl)).mono ?_
  rintro e w3 ⟨rfl, hb3⟩
  have HG3 := Lib.hid (HG2.out.below hb3)
  have B3 := Lib.hid (B2.out.trans (hb3.mono B2.out.size))
  clear hb3 HG2 B2 k0 k1 k2 k3 kg
  cases hgr : greatR s with
  | true =>
    go_wp2_with fail
    go_ret
    exact ⟨rfl, B3.out⟩
  | false =>
  clear hgr
  by_cases hl : 10000 < b.length
  · have hl' : (10000 : Int) < b.length := by omega
    go_wp2_with fail
    go_ret
    exact ⟨rfl, B3.out⟩
  have hl' : ¬ (10000 : Int) < b.length := by omega
  obtain ⟨k0, k1, k2, k3, kg⟩ := HG3.out.at 1 rfl
  go_wp2_with fail
  with_reducible refine (findCheck_any _ s a _ (HG3.out.at 2 rfl)).mono ?_
  rintro e w4 ⟨rfl, hb4⟩
  have HG4 := Lib.hid (HG3.out.below hb4)
  have B4 := Lib.hid (B3.out.trans (hb4.mono B3.out.size))
  clear hb4 HG3 B3 k0 k1 k2 k3 kg
  obtain ⟨k0, k1, k2, k3, kg⟩ := HG4.out.at 1 rfl
  obtain ⟨t0, t1, t2, _⟩ := HG4.out.at 0 rfl
  have hFd := Lib.hid (fun v W hW => findFind_open v s a key W hW)
  obtain ⟨E0, hE0⟩ : ∃ q, ckE s a = q := ⟨_, rfl⟩
  obtain ⟨H0, hH0⟩ : ∃ q, ckH s a = q := ⟨_, rfl⟩
  obtain ⟨E1, hE1⟩ : ∃ q, fdE s a key = q := ⟨_, rfl⟩
  obtain ⟨y, hV1⟩ : ∃ q, fdV s a key = q := ⟨_, rfl⟩
  rw [hE1, hV1] at hFd
  rw [hE0, hH0]
  replace hE0 := Lib.hid hE0
  replace hH0 := Lib.hid hH0
  replace hE1 := Lib.hid hE1
  replace hV1 := Lib.hid hV1
  go_wp2_with fail
  with_reducible refine (hFd.out _ _ (HG4.out.at 2 rfl)).mono ?_
  rintro e w5 ⟨P, pc, rfl, hit, hb5⟩
  obtain ⟨w6, hw6, hg6', hB6, -, hs6⟩ := bag_item (HG4.out.below hb5) (Below.refl _ _) (.int .u8 (y.1.1.toNat : Int)) (.int .u32 y.1.2.1) (.int .u32 y.1.2.2) (.int .i64 y.2.1) (.slice P y.2.2.length pc)
  have hbag : Bag w6 [Box5 w5.heap.size (.int .u8 (y.1.1.toNat : Int)) (.int .u32 y.1.2.1) (.int .u32 y.1.2.2) (.int .i64 y.2.1) (.slice P y.2.2.length pc), OldI (itV y (.slice P y.2.2.length pc)) y, Box3 w0.heap.size (.int .u8 (key.1.toNat : Int)) (.int .u32 key.2.1) (.int .u32 key.2.2), Box4 w.heap.size (.slice A s.1.1.length ca) (.slice B s.1.2.length cb) (.slice N s.2.1.length cn) (.slice L s.2.2.length cl), OldR (.agg #[.slice A s.1.1.length ca, .slice B s.1.2.length cb, .slice N s.2.1.length cn, .slice L s.2.2.length cl]) s, OldB (.slice E b.length ce) b] :=
    ((((((Bag.nil w6).add (F := OldB _ b) (hg6'.at 4 rfl) (lasts_oldB _ _)).add (F := OldR _ s) (hg6'.at 3 rfl) (lasts_oldR _ _)).add (F := Box4 _ _ _ _ _) (hg6'.at 2 rfl) (lasts_box4 _ _ _ _ _)).add (F := Box3 _ _ _ _) (hg6'.at 1 rfl) (lasts_box3 _ _ _ _)).add (F := OldI _ y) (hit.drop.below hB6) (lasts_oldI _ _)).add (F := Box5 _ _ _ _ _ _) (hg6'.at 0 rfl) (lasts_box5 _ _ _ _ _ _)
  have HG6 := Lib.hid hbag
  have B6 := Lib.hid (B4.out.trans ((hb5.trans (hB6.mono hb5.size)).mono B4.out.size))
  replace hs6 := Lib.hid hs6
  clear hb5 hg6' hB6 hit hbag HG4 B4 k0 k1 k2 k3 kg t0 t1 t2 hFd
  go_upto_region 6 with fail
  clear hw6
  by_cases he : E0 = 0
  case neg =>
    have e1 : (E0 != 0) = true := by simpa using he
    clear he
    go_wp2_with fail
    go_ret
    exact ⟨by simp, B6.out⟩
  have he' := Lib.hid (hE0.out.trans he)
  subst he
  have he := he'
  clear he'
  obtain ⟨k0, k1, k2, k3, kg⟩ := HG6.out.at 3 rfl
  go_wp2_with fail
  with_reducible refine (takeR_open _ _ s b _ (HG6.out.at 4 rfl) (HG6.out.at 5 rfl)).mono ?_
  rintro e w7 ⟨A7, a7, B7', b7, N7, n7, L7, l7, rfl, h7, hb7⟩
  have hkt := Lib.hid (fun (hh : tkE s b = 0) => keep_finds (keep_take hh) he.out key)
  obtain ⟨T, hT⟩ : ∃ T, tkV s b = T := ⟨_, rfl⟩
  obtain ⟨q, hq⟩ : ∃ q, tkE s b = q := ⟨_, rfl⟩
  obtain ⟨p, hp⟩ : ∃ q, tkN s b = q := ⟨_, rfl⟩
  rw [hT] at h7 hkt ⊢
  rw [hq] at hkt ⊢
  rw [hp]
  replace hT := Lib.hid hT
  replace hq := Lib.hid hq
  replace hp := Lib.hid hp
  obtain ⟨w8, hw8, hg8, hB8, -, hs8⟩ := bag_four ((HG6.out.below hb7).add (F := OldR _ T) h7.drop (lasts_oldR _ _)) (Below.refl _ _) (.slice A7 T.1.1.length a7) (.slice B7' T.1.2.length b7) (.slice N7 T.2.1.length n7) (.slice L7 T.2.2.length l7) 29
  have H8 := Lib.hid hg8
  have C8 := Lib.hid (hb7.trans (hB8.mono hb7.size))
  replace hs8 := Lib.hid hs8
  clear k0 k1 k2 k3 kg hg8 hB8 hb7 h7
  go_upto_region 9 with fail
  clear hw8
  by_cases hz : q = 0
  case neg =>
    have e1 : (q == 0) = false := by simpa using hz
    obtain ⟨wz, rfl⟩ : ∃ wz : World, wz = w8 := ⟨_, rfl⟩
    have CZ := Lib.hid C8.out
    clear hz hkt H8 C8
    have HZ := Lib.hid (HG6.out.below CZ.out)
    have BZ := Lib.hid (B6.out.trans (CZ.out.mono B6.out.size))
    obtain ⟨k0, k1, k2, k3, kg⟩ := HZ.out.at 3 rfl
    go_wp2_with fail
    with_reducible refine (shareR_open _ s at0 _ (HZ.out.at 4 rfl)).mono ?_
    rintro e w20 ⟨A20, a20, B20', b20, N20, n20, L20, l20, rfl, h20, hb20⟩
    have hks := Lib.hid (fun (hh : shE s at0 = 0) => keep_finds (keep_share hh) he.out key)
    obtain ⟨X, hX⟩ : ∃ X, shV s at0 = X := ⟨_, rfl⟩
    obtain ⟨q2, hq2⟩ : ∃ q, shE s at0 = q := ⟨_, rfl⟩
    rw [hX] at h20 hks ⊢
    rw [hq2] at hks ⊢
    replace hX := Lib.hid hX
    replace hq2 := Lib.hid hq2
    obtain ⟨w21, hw21, hg21, hB21, -, hs21⟩ := bag_four ((HZ.out.below hb20).add (F := OldR _ X) h20.drop (lasts_oldR _ _)) (Below.refl _ _) (.slice A20 X.1.1.length a20) (.slice B20' X.1.2.length b20) (.slice N20 X.2.1.length n20) (.slice L20 X.2.2.length l20) 29
    have H21 := Lib.hid hg21
    have B21 := Lib.hid (BZ.out.trans ((hb20.trans (hB21.mono hb20.size)).mono BZ.out.size))
    replace hs21 := Lib.hid hs21
    clear k0 k1 k2 k3 kg hg21 hB21 hb20 h20 HZ BZ
    go_upto_region 15 with fail
    clear hw21
    by_cases hz2 : q2 = 0
    case neg =>
      have e1 : (q2 != 0) = true := by simpa using hz2
      clear hz2
      go_wp2_with fail
      go_ret
      exact ⟨rfl, B21.out⟩
    obtain ⟨m1, m2, m3, m4⟩ := hks.out hz2
    have hCk2 := Lib.hid (fun v W hW => findCheck_any v X a W hW)
    have hFd2 := Lib.hid (fun v W hW => findFind_open v X a key W hW)
    rw [m1, m2] at hCk2
    rw [m3, m4] at hFd2
    rw [hH0.out] at hCk2
    rw [hE1.out, hV1.out] at hFd2
    subst hz2
    clear m1 m2 m3 m4 hks
    obtain ⟨j0, j1, j2, j3, jg⟩ := H21.out.at 0 rfl
    go_wp2_with fail
    with_reducible refine (hCk2.out _ _ (H21.out.at 1 rfl)).mono ?_
    rintro e w22 ⟨rfl, hb22⟩
    have H22 := Lib.hid (H21.out.below hb22)
    have B22 := Lib.hid (B21.out.trans (hb22.mono B21.out.size))
    clear hb22 j0 j1 j2 j3 jg H21 B21
    obtain ⟨j0, j1, j2, j3, jg⟩ := H22.out.at 0 rfl
    obtain ⟨t0, t1, t2, _⟩ := H22.out.at 4 rfl
    go_wp2_with fail
    with_reducible refine (hFd2.out _ _ (H22.out.at 1 rfl)).mono ?_
    rintro e w23 ⟨P23, p23, rfl, hit23, hb23⟩
    obtain ⟨w24, hw24, hg24, hB24, -, hs24⟩ := bag_item ((H22.out.below hb23).add (F := OldI _ y) hit23.drop (lasts_oldI _ _)) (Below.refl _ _) (.int .u8 (y.1.1.toNat : Int)) (.int .u32 y.1.2.1) (.int .u32 y.1.2.2) (.int .i64 y.2.1) (.slice P23 y.2.2.length p23)
    have H24 := Lib.hid hg24
    have B24 := Lib.hid (B22.out.trans ((hb23.trans (hB24.mono hb23.size)).mono B22.out.size))
    replace hs24 := Lib.hid hs24
    clear hb23 hg24 hB24 hit23 j0 j1 j2 j3 jg t0 t1 t2 H22 B22
    go_upto_region 19 with fail
    clear hw24
    obtain ⟨o0, o1, o2, o3, o4, _⟩ := H24.out.at 0 rfl
    obtain ⟨p0, p1, p2, p3, p4, _⟩ := H24.out.at 4 rfl
    go_wp2_with fail
    with_reducible refine (sameI_any _ _ y y _ (H24.out.at 5 rfl) (H24.out.at 1 rfl)).mono ?_
    rintro e w25 ⟨rfl, hb25⟩
    rw [sameI_self]
    have B25 := Lib.hid (B24.out.trans (hb25.mono B24.out.size))
    clear hb25
    go_wp2_with fail
    go_ret
    exact ⟨by simp, B25.out⟩
  obtain ⟨m1, m2, m3, m4⟩ := hkt.out hz
  have hCk2 := Lib.hid (fun v W hW => findCheck_any v T a W hW)
  have hFd2 := Lib.hid (fun v W hW => findFind_open v T a key W hW)
  rw [m1, m2] at hCk2
  rw [m3, m4] at hFd2
  rw [hH0.out] at hCk2
  rw [hE1.out, hV1.out] at hFd2
  subst hz
  clear m1 m2 m3 m4 hkt
  obtain ⟨j0, j1, j2, j3, jg⟩ := H8.out.at 0 rfl
  go_wp2_with fail
  with_reducible refine (hCk2.out _ _ (H8.out.at 1 rfl)).mono ?_
  rintro e w9 ⟨rfl, hb9⟩
  have H9 := Lib.hid (H8.out.below hb9)
  have C9 := Lib.hid (C8.out.trans (hb9.mono C8.out.size))
  clear hb9 j0 j1 j2 j3 jg H8 C8
  obtain ⟨j0, j1, j2, j3, jg⟩ := H9.out.at 0 rfl
  obtain ⟨t0, t1, t2, _⟩ := H9.out.at 4 rfl
  go_wp2_with fail
  with_reducible refine (hFd2.out _ _ (H9.out.at 1 rfl)).mono ?_
  rintro e w10 ⟨P10, p10, rfl, hit10, hb10⟩
  obtain ⟨w11, hw11, hg11, hB11, -, hs11⟩ := bag_item ((H9.out.below hb10).add (F := OldI _ y) hit10.drop (lasts_oldI _ _)) (Below.refl _ _) (.int .u8 (y.1.1.toNat : Int)) (.int .u32 y.1.2.1) (.int .u32 y.1.2.2) (.int .i64 y.2.1) (.slice P10 y.2.2.length p10)
  have H11 := Lib.hid hg11
  have C11 := Lib.hid (C9.out.trans ((hb10.trans (hB11.mono hb10.size)).mono C9.out.size))
  replace hs11 := Lib.hid hs11
  clear hb10 hg11 hB11 hit10 j0 j1 j2 j3 jg t0 t1 t2 H9 C9
  go_upto_region 12 with fail
  clear hw11
  obtain ⟨o0, o1, o2, o3, o4, _⟩ := H11.out.at 0 rfl
  obtain ⟨p0, p1, p2, p3, p4, _⟩ := H11.out.at 4 rfl
  go_wp2_with fail
  with_reducible refine (sameI_any _ _ y y _ (H11.out.at 5 rfl) (H11.out.at 1 rfl)).mono ?_
  rintro e w12 ⟨rfl, hb12⟩
  rw [sameI_self]
  obtain ⟨wz, rfl⟩ : ∃ wz : World, wz = w12 := ⟨_, rfl⟩
  have CZ := Lib.hid (C11.out.trans (hb12.mono C11.out.size))
  clear hb12 o0 o1 o2 o3 o4 p0 p1 p2 p3 p4 H11 C11
  have HZ := Lib.hid (HG6.out.below CZ.out)
  have BZ := Lib.hid (B6.out.trans (CZ.out.mono B6.out.size))
  obtain ⟨k0, k1, k2, k3, kg⟩ := HZ.out.at 3 rfl
  go_wp2_with fail
  with_reducible refine (shareR_open _ s at0 _ (HZ.out.at 4 rfl)).mono ?_
  rintro e w20 ⟨A20, a20, B20', b20, N20, n20, L20, l20, rfl, h20, hb20⟩
  have hks := Lib.hid (fun (hh : shE s at0 = 0) => keep_finds (keep_share hh) he.out key)
  obtain ⟨X, hX⟩ : ∃ X, shV s at0 = X := ⟨_, rfl⟩
  obtain ⟨q2, hq2⟩ : ∃ q, shE s at0 = q := ⟨_, rfl⟩
  rw [hX] at h20 hks ⊢
  rw [hq2] at hks ⊢
  replace hX := Lib.hid hX
  replace hq2 := Lib.hid hq2
  obtain ⟨w21, hw21, hg21, hB21, -, hs21⟩ := bag_four ((HZ.out.below hb20).add (F := OldR _ X) h20.drop (lasts_oldR _ _)) (Below.refl _ _) (.slice A20 X.1.1.length a20) (.slice B20' X.1.2.length b20) (.slice N20 X.2.1.length n20) (.slice L20 X.2.2.length l20) 29
  have H21 := Lib.hid hg21
  have B21 := Lib.hid (BZ.out.trans ((hb20.trans (hB21.mono hb20.size)).mono BZ.out.size))
  replace hs21 := Lib.hid hs21
  clear k0 k1 k2 k3 kg hg21 hB21 hb20 h20 HZ BZ
  go_upto_region 15 with fail
  clear hw21
  by_cases hz2 : q2 = 0
  case neg =>
    have e1 : (q2 != 0) = true := by simpa using hz2
    clear hz2
    go_wp2_with fail
    go_ret
    exact ⟨rfl, B21.out⟩
  obtain ⟨m1, m2, m3, m4⟩ := hks.out hz2
  have hCk2 := Lib.hid (fun v W hW => findCheck_any v X a W hW)
  have hFd2 := Lib.hid (fun v W hW => findFind_open v X a key W hW)
  rw [m1, m2] at hCk2
  rw [m3, m4] at hFd2
  rw [hH0.out] at hCk2
  rw [hE1.out, hV1.out] at hFd2
  subst hz2
  clear m1 m2 m3 m4 hks
  obtain ⟨j0, j1, j2, j3, jg⟩ := H21.out.at 0 rfl
  go_wp2_with fail
  with_reducible refine (hCk2.out _ _ (H21.out.at 1 rfl)).mono ?_
  rintro e w22 ⟨rfl, hb22⟩
  have H22 := Lib.hid (H21.out.below hb22)
  have B22 := Lib.hid (B21.out.trans (hb22.mono B21.out.size))
  clear hb22 j0 j1 j2 j3 jg H21 B21
  obtain ⟨j0, j1, j2, j3, jg⟩ := H22.out.at 0 rfl
  obtain ⟨t0, t1, t2, _⟩ := H22.out.at 4 rfl
  go_wp2_with fail
  with_reducible refine (hFd2.out _ _ (H22.out.at 1 rfl)).mono ?_
  rintro e w23 ⟨P23, p23, rfl, hit23, hb23⟩
  obtain ⟨w24, hw24, hg24, hB24, -, hs24⟩ := bag_item ((H22.out.below hb23).add (F := OldI _ y) hit23.drop (lasts_oldI _ _)) (Below.refl _ _) (.int .u8 (y.1.1.toNat : Int)) (.int .u32 y.1.2.1) (.int .u32 y.1.2.2) (.int .i64 y.2.1) (.slice P23 y.2.2.length p23)
  have H24 := Lib.hid hg24
  have B24 := Lib.hid (B22.out.trans ((hb23.trans (hB24.mono hb23.size)).mono B22.out.size))
  replace hs24 := Lib.hid hs24
  clear hb23 hg24 hB24 hit23 j0 j1 j2 j3 jg t0 t1 t2 H22 B22
  go_upto_region 19 with fail
  clear hw24
  obtain ⟨o0, o1, o2, o3, o4, _⟩ := H24.out.at 0 rfl
  obtain ⟨p0, p1, p2, p3, p4, _⟩ := H24.out.at 4 rfl
  go_wp2_with fail
  with_reducible refine (sameI_any _ _ y y _ (H24.out.at 5 rfl) (H24.out.at 1 rfl)).mono ?_
  rintro e w25 ⟨rfl, hb25⟩
  rw [sameI_self]
  have B25 := Lib.hid (B24.out.trans (hb25.mono B24.out.size))
  clear hb25
  go_wp2_with fail
  go_ret
  exact ⟨by simp, B25.out⟩

/-! ### The row's step -/
set_option maxRecDepth 100000 in
theorem lifted (os : Os) (started : os.Started) (H : Type) (enc : TypeId × Value → H) :
    ReturnsInHanded {} Try.checked os 7 .any (Rows.findAloneSpec.pre6 enc Try.prog Try.f7 Rows.findAloneRow.domain false) (Rows.findAloneSpec.post enc Try.prog Try.f7 false true false false) := by
  refine returnsInHanded_of_change (C := Try.checked) own started (by kernel_rfl) Try.func7
    (ChangeSpec.witness6 (enc := enc) (C := Try.checked) false ⟨#[], #[.agg #[.slice none 0 0, .slice none 0 0, .slice none 0 0, .slice none 0 0], .int .i64 0, .agg #[.int .u8 0, .int .u32 0, .int .u32 0], .slice none 0 0, .int .i64 0], []⟩ 8 (by kernel_rfl) (by kernel_rfl) (by kernel_rfl) (by kernel_rfl)) ?_
  intro W base args ds gs before hval0 hW _ _
  have hval : ∀ (j : Nat) t v, Try.f7.params[j]? = some t → args[j]? = some v → Value.okWide Try.prog W .any base t v := hval0
  have hW' := hW
  obtain ⟨p, q, hA0, hV, _, _, _⟩ := hW
  have hA : DataW.TrodAll enc Try.prog W 0 (fun _ => true) true Try.f7.params.toList args.toList ds p := hA0
  rw [Try.params7] at hA hval
  obtain ⟨v0, vs0, d0, ds0, p0, q0, hargs, rfl, _, h0, r0⟩ := trodAll_cons hA
  obtain ⟨v1, vs1, d1, ds1, p1, q1, rfl, rfl, _, h1, r1⟩ := trodAll_cons r0
  obtain ⟨v2, vs2, d2, ds2, p2, q2, rfl, rfl, _, h2, r2⟩ := trodAll_cons r1
  obtain ⟨v3, vs3, d3, ds3, p3, q3, rfl, rfl, _, h3, r3⟩ := trodAll_cons r2
  obtain ⟨v4, vs4, d4, ds4, p4, q4, rfl, rfl, _, h4, r4⟩ := trodAll_cons r3
  obtain ⟨rfl, rfl, _⟩ := trodAll_nil r4
  obtain rfl : args = #[v0, v1, v2, v3, v4] := by cases args; simp_all
  obtain ⟨rfl, _⟩ := trodVars_none hV
  obtain ⟨d0x, y0⟩ := open_store (hval 0 29 v0 rfl rfl) h0
  obtain ⟨a1, rfl, _, _, w1⟩ := open_int Try.underlying3 (hval 1 3 v1 rfl rfl) h1
  obtain ⟨k2x, rfl, _⟩ := open_key (hval 2 37 v2 rfl rfl) h2
  obtain ⟨d3x, y3⟩ := open_by (hval 3 27 v3 rfl rfl) h3
  obtain ⟨a4, rfl, _, _, w4⟩ := open_int Try.underlying3 (hval 4 3 v4 rfl rfl) h4
  clear hA0 hval0
  refine (walk v0 d0x a1 w1 k2x v3 d3x a4 w4 W y0 y3).mono fun e W' ⟨he, hb⟩ => ?_
  subst he
  exact ⟨_, rfl, law_post laidOut (by rw [Try.params7]; decide +kernel) (by kernel_rfl) Try.underlying4 rfl ⟨rfl, by simp [Rows.findAloneSpec], rfl⟩ hW' hb⟩

theorem over : Rows.findAloneRow.holds Try.pinned (OpenSpec.ofChange Rows.findAloneSpec) :=
  OpenClaim.holds_of_wide 7 Try.f7 rfl rfl rfl rfl rfl rfl rfl ⟨rfl, rfl, rfl, rfl, rfl⟩ rfl rfl rfl rfl rfl (by kernel_rfl) Try.func7 (by kernel_rfl)
    (of_decide_eq_true (by kernel_rfl)) (by unfold Func.isWrapper; first | (rw [if_pos (by decide +kernel)]; kernel_rfl) | (rw [if_neg (by decide +kernel)]; exact ⟨rfl, rfl⟩))
    (fun os started H enc _ => lifted os started H enc)

end Go.Proofs.Ytncnoingbaeomaa.findAlone
namespace Go.Proofs.Ytncnoingbaeomaa
theorem findAlone_proved : Rows.FindAloneSaid := findAlone.over
end Go.Proofs.Ytncnoingbaeomaa
