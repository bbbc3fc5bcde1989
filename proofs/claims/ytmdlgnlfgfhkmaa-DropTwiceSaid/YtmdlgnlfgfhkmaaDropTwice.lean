/-
  For every store and node DropTwice answers true and leaves its arguments as they were. No condition.
-/
import Derived.Test.YtmdlgnlfgfhkmaaBnd4
namespace Go.Proofs.Ytmdlgnlfgfhkmaa.dropTwice
open Go.ChangeShapes Go.WideShapes Go.RowKit

theorem own : ownKnob Try.prog.godebug = none := by kernel_rfl
theorem laidOut : laidOutB Try.prog = true := by kernel_rfl

theorem cnt_in {r : Nat} : ∀ {l : List It} {x : It}, x ∈ l → x.2.1 = (r : Int) → r ≠ 0 → cntR l r ≠ 0
  | y :: l, x, h, hx, hr => by
    rcases List.mem_cons.1 h with rfl | h
    · simp only [cntR, hx, if_true]
      rw [if_neg (by omega)]
      omega
    · have := cnt_in h hx hr
      simp only [cntR]
      omega
set_option maxRecDepth 100000 in
set_option maxHeartbeats 8000000 in
theorem walk (v : Value) (s : Rm) (u : Value) (n : Nd) (w : World) (h : Sto (Old w) w v s) (hu : Nod (Old w) w u n) :
    Calls Try.prog 6 #[v, u] w fun e w' => e = .returned (.bool true) ∧ Below w.heap.size w w' := by
  have hin := Lib.hid hu.inN
  obtain ⟨A, ca, B, cb, N, cn, L, cl, rfl, _⟩ := id h.open
  obtain ⟨I, ci, rfl, -, -, -, -⟩ := id hu.open
  have HG0 : Bag w [OldN (.agg #[.int .i64 n.1, .slice I n.2.length ci]) n, OldR (.agg #[.slice A s.1.1.length ca, .slice B s.1.2.length cb, .slice N s.2.1.length cn, .slice L s.2.2.length cl]) s] := ((Bag.nil w).add (F := OldR _ s) h (lasts_oldR _ _)).add (F := OldN _ n) hu (lasts_oldN _ _)
  obtain ⟨w0, hw0, hg0, hB0, _, hs0⟩ := bag_four HG0 (Below.refl _ _) (.slice A s.1.1.length ca) (.slice B s.1.2.length cb) (.slice N s.2.1.length cn) (.slice L s.2.2.length cl) 29
  obtain ⟨w1, hw1, hg1, hB1, _, hs1⟩ := bag_node hg0 (Below.refl _ _) (.int .i64 n.1) (.slice I n.2.length ci)
  have HG1 := Lib.hid hg1
  have B1 := Lib.hid (hB0.trans (hB1.mono hB0.size))
  replace hs1 := Lib.hid hs1
  replace hs0 := Lib.hid hs0
  clear HG0 hg1 hg0 h hu hB1 hB0
  go_enter Try.func6, Try.ntmps6
  go_upto_region 1 with fail
  clear hw1 hw0
  go_wp2_with fail
  with_reducible refine (alive9 _).mono ?_
  rintro e w2 ⟨rfl, hb2⟩
  have HG2 := Lib.hid (HG1.out.below hb2)
  have B2 := Lib.hid (B1.out.trans (hb2.mono B1.out.size))
  clear hb2 HG1 B1
  obtain ⟨k0, k1, k2, k3, kg⟩ := HG2.out.at 1 rfl
  go_wp2_with fail
  with_reducible refine (greatR_any _ s _ (HG2.out.at 3 rfl)).mono ?_
  rintro e w3 ⟨rfl, hb3⟩
  have HG3 := Lib.hid (HG2.out.below hb3)
  have B3 := Lib.hid (B2.out.trans (hb3.mono B2.out.size))
  clear hb3 HG2 B2 k0 k1 k2 k3 kg
  cases hgr : greatR s with
  | true =>
    go_wp2_with fail
    go_ret
    exact ⟨rfl, B3.out⟩
  | false =>
  obtain ⟨k0, k1, k2, k3, kg⟩ := HG3.out.at 1 rfl
  obtain ⟨p0, p1, pg⟩ := HG3.out.at 0 rfl
  have hI3 : rIts (Old w3) w3 [.slice I n.2.length ci] n.2 := by
    obtain ⟨_, _, e, _, _, _, h⟩ := Nod.open (HG3.out.at 2 rfl)
    cases e
    exact h
  replace hI3 := Lib.hid hI3
  go_wp2_with fail
  with_reducible refine (greatI_any _ n.2 _ hI3.out).mono ?_
  rintro e w4 ⟨rfl, hb4⟩
  have HG4 := Lib.hid (HG3.out.below hb4)
  have B4 := Lib.hid (B3.out.trans (hb4.mono B3.out.size))
  clear hb4 HG3 B3 k0 k1 k2 k3 kg p0 p1 pg hI3
  cases hgi : greatI n.2 with
  | true =>
    go_wp2_with fail
    go_ret
    exact ⟨rfl, B4.out⟩
  | false =>
  clear hgr hgi
  obtain ⟨k0, k1, k2, k3, kg⟩ := HG4.out.at 1 rfl
  obtain ⟨p0, p1, pg⟩ := HG4.out.at 0 rfl
  -- Make, twice
  go_wp2_with fail
  with_reducible refine (makeV_open _ _ s n _ (HG4.out.at 3 rfl) (HG4.out.at 2 rfl)).mono ?_
  rintro e w5 ⟨E, ea, G, eg, M, em, K, ek, rfl, h5, hb5⟩
  obtain ⟨T, hT⟩ : ∃ T, mkV s n = T := ⟨_, rfl⟩
  obtain ⟨p, hp⟩ : ∃ p, mkN s n = p := ⟨_, rfl⟩
  obtain ⟨q, hq⟩ : ∃ q, mkE s n = q := ⟨_, rfl⟩
  rw [hT] at h5 ⊢
  rw [hp, hq]
  obtain ⟨w6, hw6, hg6, hB6, -, hs6⟩ := bag_four ((HG4.out.below hb5).add (F := OldR _ T) h5.drop (lasts_oldR _ _)) (Below.refl _ _) (.slice E T.1.1.length ea) (.slice G T.1.2.length eg) (.slice M T.2.1.length em) (.slice K T.2.2.length ek) 29
  have HG6 := Lib.hid hg6
  have B6 := Lib.hid (B4.out.trans ((hb5.trans (hB6.mono hb5.size)).mono B4.out.size))
  replace hs6 := Lib.hid hs6
  clear k0 k1 k2 k3 kg p0 p1 pg hg6 hB6 hb5 h5 HG4 B4
  obtain ⟨j0, j1, j2, j3, jg⟩ := HG6.out.at 0 rfl
  obtain ⟨p0, p1, pg⟩ := HG6.out.at 2 rfl
  go_upto_region 5 with fail
  clear hw6
  go_wp2_with fail
  with_reducible refine (makeV_open _ _ T n _ (HG6.out.at 1 rfl) (HG6.out.at 4 rfl)).mono ?_
  rintro e w7 ⟨E7, ea7, G7, eg7, M7, em7, K7, ek7, rfl, h7, hb7⟩
  obtain ⟨U, hU⟩ : ∃ U, mkV T n = U := ⟨_, rfl⟩
  obtain ⟨p', hp'⟩ : ∃ p, mkN T n = p := ⟨_, rfl⟩
  obtain ⟨q', hq'⟩ : ∃ q, mkE T n = q := ⟨_, rfl⟩
  rw [hU] at h7 ⊢
  rw [hp', hq']
  obtain ⟨w8, hw8, hg8, hB8, -, hs8⟩ := bag_four ((HG6.out.below hb7).add (F := OldR _ U) h7.drop (lasts_oldR _ _)) (Below.refl _ _) (.slice E7 U.1.1.length ea7) (.slice G7 U.1.2.length eg7) (.slice M7 U.2.1.length em7) (.slice K7 U.2.2.length ek7) 29
  have HG8 := Lib.hid hg8
  have B8 := Lib.hid (B6.out.trans ((hb7.trans (hB8.mono hb7.size)).mono B6.out.size))
  replace hs8 := Lib.hid hs8
  clear j0 j1 j2 j3 jg p0 p1 pg hg8 hB8 hb7 h7 HG6 B6
  obtain ⟨j0, j1, j2, j3, jg⟩ := HG8.out.at 0 rfl
  go_upto_region 6 with fail
  clear hw8
  by_cases hq0 : q = 0
  case neg =>
    have hq1 : (q != 0) = true := by simpa using hq0
    replace hq := Lib.hid hq
    clear hq0
    go_wp2_with fail
    go_ret
    exact ⟨by simp, B8.out⟩
  by_cases hq0' : q' = 0
  case neg =>
    have hq1 : (q' != 0) = true := by simpa using hq0'
    subst hq0
    replace hq := Lib.hid hq
    replace hq' := Lib.hid hq'
    clear hq0'
    go_wp2_with fail
    go_ret
    exact ⟨by simp, B8.out⟩
  subst hq0
  subst hq0'
  obtain ⟨a, b, e1, e2, hab, r1, r2, r3, r4, hcnt, l1, l2, l3, l4, l5, l6⟩ := mk_twice hin.out hq (by rw [hT]; exact hq')
  rw [hT, hU] at r1 r2 r3 r4 hcnt l1 l2 l3 l4 l5 l6
  rw [hT, hp'] at e2
  rw [hp] at e1
  subst e1
  subst e2
  obtain ⟨hm, hmn, -⟩ := mk_ok hq
  have hmU : Hid (mayR U = true) := Lib.hid (by
    obtain ⟨_, _, _, _, _, _, _, _, h, _⟩ := mk_counts hq'
    rw [hU] at h
    exact h)
  obtain ⟨V, hV⟩ : ∃ V, lvV U (a : Int) = V := ⟨_, rfl⟩
  obtain ⟨V2, hV2⟩ : ∃ V2, lvV V (b : Int) = V2 := ⟨_, rfl⟩
  obtain ⟨X, hX⟩ : ∃ X, lvV U (b : Int) = X := ⟨_, rfl⟩
  obtain ⟨X2, hX2⟩ : ∃ X2, lvV X (a : Int) = X2 := ⟨_, rfl⟩
  rw [hV] at l2 l3
  rw [hV2] at l3
  rw [hX] at l5 l6
  rw [hX2] at l6
  have hrf := Lib.hid (refs_may hmn)
  have hbn : Hid (n.2.length ≤ 5) := Lib.hid (mayN_of hmn).1.2.2.1
  have hab1 : ((a : Int) == (b : Int)) = false := by simp; omega
  have hln := Lib.hid (mayT_len (mayR_of hm).2.1)
  replace hT := Lib.hid hT
  replace hp := Lib.hid hp
  replace hq := Lib.hid hq
  replace hU := Lib.hid hU
  replace hp' := Lib.hid hp'
  replace hq' := Lib.hid hq'
  replace r1 := Lib.hid r1
  replace r2 := Lib.hid r2
  replace r3 := Lib.hid r3
  replace r4 := Lib.hid r4
  replace hcnt := Lib.hid hcnt
  replace l1 := Lib.hid l1
  replace l2 := Lib.hid l2
  replace l3 := Lib.hid l3
  replace l4 := Lib.hid l4
  replace l5 := Lib.hid l5
  replace l6 := Lib.hid l6
  replace hV := Lib.hid hV
  replace hV2 := Lib.hid hV2
  replace hX := Lib.hid hX
  replace hX2 := Lib.hid hX2
  replace hm := Lib.hid hm
  clear hmn hab
  -- the nodes
  go_wp2_with fail
  with_reducible refine (nodeR_any _ U (a : Int) _ (HG8.out.at 1 rfl)).mono ?_
  rintro e w9 ⟨u9, rfl, h9, hb9⟩
  rw [r1.out]
  rw [r2.out] at h9
  obtain ⟨P, pc, rfl, -, -, -, -⟩ := id h9.open
  obtain ⟨w10, hw10, hg10, hB10, -, hs10⟩ := bag_node ((HG8.out.below hb9).add (F := OldN _ n) h9.drop (lasts_oldN _ _)) (Below.refl _ _) (.int .i64 n.1) (.slice P n.2.length pc)
  have HG10 := Lib.hid hg10
  have B10 := Lib.hid (B8.out.trans ((hb9.trans (hB10.mono hb9.size)).mono B8.out.size))
  replace hs10 := Lib.hid hs10
  clear j0 j1 j2 j3 jg hg10 hB10 hb9 h9 HG8 B8
  obtain ⟨j0, j1, j2, j3, jg⟩ := HG10.out.at 2 rfl
  go_upto_region 9 with fail
  clear hw10
  go_wp2_with fail
  with_reducible refine (nodeR_any _ U (b : Int) _ (HG10.out.at 3 rfl)).mono ?_
  rintro e w11 ⟨u11, rfl, h11, hb11⟩
  rw [r3.out]
  rw [r4.out] at h11
  obtain ⟨Q, qc, rfl, -, -, -, -⟩ := id h11.open
  obtain ⟨w12, hw12, hg12, hB12, -, hs12⟩ := bag_node ((HG10.out.below hb11).add (F := OldN _ n) h11.drop (lasts_oldN _ _)) (Below.refl _ _) (.int .i64 n.1) (.slice Q n.2.length qc)
  have HG12 := Lib.hid hg12
  have B12 := Lib.hid (B10.out.trans ((hb11.trans (hB12.mono hb11.size)).mono B10.out.size))
  replace hs12 := Lib.hid hs12
  clear j0 j1 j2 j3 jg hg12 hB12 hb11 h11 HG10 B10
  obtain ⟨m, hmm⟩ : ∃ m, n.2.length = m := ⟨_, rfl⟩
  rw [hmm] at hbn HG12 hw12 ⊢
  replace hmm := Lib.hid hmm
  obtain ⟨y0, y1, yg⟩ := HG12.out.at 0 rfl
  obtain ⟨x0, x1, xg⟩ := HG12.out.at 2 rfl
  obtain ⟨c0, c1, cg⟩ := HG12.out.at 8 rfl
  go_upto_region 10 with fail
  clear hw12
  go_wp2_with fail
  clear y0 y1 yg x0 x1 xg c0 c1 cg hab1
  obtain ⟨ad, ld, rfl, rfl, -, -, -, -, had, -, hc⟩ := tables_at hm.out (HG12.out.at 11 rfl : Sto (Old w12) w12 _ s).parts.2.1 (HG12.out.at 11 rfl : Sto (Old w12) w12 _ s).parts.2.2
  obtain ⟨bd, lb, rfl, rfl, hUl, -, -, -, hbd, -, hd⟩ := tables_at hmU.out (HG12.out.at 5 rfl : Sto (Old w12) w12 _ U).parts.2.1 (HG12.out.at 5 rfl : Sto (Old w12) w12 _ U).parts.2.2
  replace hUl := Lib.hid hUl
  have cS : Hid (∀ j, j < 256 → ∀ W, Below w12.heap.size w12 W → W.cell? (ad.add j) = some (.int .u8 ((s.2.1[j]?.getD 0).toNat : Int))) := Lib.hid fun j hj W hW => (hW.cell (by rw [add_block]; exact had)).trans (hc j hj).1
  have cU : Hid (∀ j, j < 256 → ∀ W, Below w12.heap.size w12 W → W.cell? (bd.add j) = some (.int .u8 ((U.2.1[j]?.getD 0).toNat : Int))) := Lib.hid fun j hj W hW => (hW.cell (by rw [add_block]; exact hbd)).trans (hd j hj).1
  clear hc hd
  go_loopw [16] (fun vi wr => ∃ i : Nat, i ≤ m ∧ vi = .int .i64 i ∧ Below w12.heap.size w12 wr) (fun vi _ => m - (intOf vi).toNat)
  case atStart => exact ⟨0, by omega, rfl, Below.refl _ _⟩
  case round =>
    obtain ⟨i, hi, rfl, hbr⟩ := hrel
    have HR := Lib.hid (HG12.out.below hbr)
    have hm5 := hbn.out
    obtain ⟨c0, c1, cg⟩ := HR.out.at 8 rfl
    by_cases hlt : i < m
    · obtain ⟨x, hx⟩ : ∃ x, n.2[i]? = some x := ⟨_, List.getElem?_eq_getElem (by rw [hmm.out]; exact hlt)⟩
      have hxm := List.mem_of_getElem? hx
      have hxr := hrf.out x hxm
      have hI : rIts (Old wr) wr [.slice I m ci] n.2 := by
        obtain ⟨_, _, e, _, _, _, h⟩ := Nod.open (HR.out.at 10 rfl)
        cases e
        rw [hmm.out] at h
        exact h
      have hP : rIts (Old wr) wr [.slice P m pc] n.2 := by
        obtain ⟨_, _, e, _, _, _, h⟩ := Nod.open (HR.out.at 3 rfl)
        cases e
        rw [hmm.out] at h
        exact h
      obtain ⟨ad5, E5, ce5, rfl, -, -, -, FX⟩ := its_old hI hx
      obtain ⟨⟨-, -, -, z3, -⟩, -⟩ := FX wr (Below.refl _ _)
      obtain ⟨ad6, E6, ce6, rfl, -, -, -, FY⟩ := its_old hP hx
      obtain ⟨⟨-, -, -, z6, -⟩, -⟩ := FY wr (Below.refl _ _)
      clear FX FY hI hP
      obtain ⟨x0, x1, xg⟩ := HR.out.at 2 rfl
      obtain ⟨u0, u1, u2, u3, ug⟩ := HR.out.at 4 rfl
      obtain ⟨k0, k1, k2, k3, kg⟩ := HR.out.at 9 rfl
      rw [hUl.out] at u2
      rw [hln.out] at k2
      obtain ⟨z, hzz⟩ : ∃ z, x.2.1 = z := ⟨_, rfl⟩
      rw [hzz] at z3 z6 hxr
      have i4 : (0 : Int) ≤ (i : Int) := by omega
      have g0 : (z != z) = false := by simp
      have hbr' := Lib.hid hbr
      replace hx := Lib.hid hx
      by_cases hz0 : z = 0
      · subst hz0
        replace hzz := Lib.hid hzz
        clear hxr hxm hbr
        go_wp2_with fail
        go_quiet (fail)
        go_wp2_with fail
        go_roundw
        case rel => exact ⟨i + 1, by omega, by go_num, below_drewN hbr'.out _⟩
        case measure => simp [intOf]; omega
      · obtain ⟨r, hr, r8, r256⟩ : ∃ r : Nat, z = r ∧ 8 ≤ r ∧ r < 256 := ⟨z.toNat, by omega, by omega, by omega⟩
        subst hr
        have hge := hcnt.out r (cnt_in hxm hzz (by omega))
        have q1 := cS.out r r256 wr hbr
        have q2 := cU.out r r256 wr hbr
        obtain ⟨xs, hxs⟩ : ∃ x, s.2.1[r]?.getD 0 = x := ⟨_, rfl⟩
        obtain ⟨yu, hyu⟩ : ∃ x, U.2.1[r]?.getD 0 = x := ⟨_, rfl⟩
        rw [hxs] at q1 hge
        rw [hyu] at q2 hge
        have j6 : 0 < r := by omega
        have g1 : ¬ yu.toNat < xs.toNat + 2 := by omega
        have g2 : ¬ (yu.toNat : Int) < (xs.toNat : Int) + 2 := by omega
        have hwx : IntKind.i64.wrap (xs.toNat : Int) = (xs.toNat : Int) := by have := xs.toNat_lt; rw [IntKind.wrap_i64]; omega
        have hwy : IntKind.i64.wrap (yu.toNat : Int) = (yu.toNat : Int) := by have := yu.toNat_lt; rw [IntKind.wrap_i64]; omega
        have hwz : IntKind.i64.wrap ((xs.toNat : Int) + 2) = (xs.toNat : Int) + 2 := by have := xs.toNat_lt; rw [IntKind.wrap_i64]; omega
        replace hzz := Lib.hid hzz
        replace hxs := Lib.hid hxs
        replace hyu := Lib.hid hyu
        clear hxr hxm hbr hz0 hge r8
        go_wp2_with fail
        go_quiet (fail)
        go_wp2_with fail
        go_roundw
        case rel => exact ⟨i + 1, by omega, by go_num, below_drewN hbr'.out _⟩
        case measure => simp [intOf]; omega
    · have BR := Lib.hid (B12.out.trans (hbr.mono B12.out.size))
      clear hbr HG12 B12 cS cU
      obtain ⟨u0, u1, u2, u3, ug⟩ := HR.out.at 4 rfl
      -- Leave(u, a), Leave(.., b)
      go_wp2_with fail
      with_reducible refine (leaveV_open _ U (a : Int) _ (HR.out.at 5 rfl)).mono ?_
      rintro e w13 ⟨E13, a13, G13, b13, M13, c13, K13, d13, rfl, h13, hb13⟩
      rw [l1.out]
      rw [hV.out] at h13 ⊢
      have HGp := Lib.hid ((HR.out.below hb13).add (F := OldR _ V) h13.drop (lasts_oldR _ _))
      have Bp := Lib.hid (BR.out.trans (hb13.mono BR.out.size))
      obtain ⟨w14, hw14, f14, hs14, hb14⟩ := box_4 w13 (.slice E13 V.1.1.length a13) (.slice G13 V.1.2.length b13) (.slice M13 V.2.1.length c13) (.slice K13 V.2.2.length d13) 29
      obtain ⟨v0, v1, v2, v3, -, vg⟩ := four_cells f14
      have S14 : Hid (Sto (Old w14) w14 _ V) := Lib.hid ((HGp.out.below hb14).at 0 rfl)
      have s14 := Lib.hid hs14
      have f14h := Lib.hid f14
      have b14h := Lib.hid hb14
      clear hb13 h13 HR BR hs14 f14 hb14 u0 u1 u2 u3 ug c0 c1 cg
      go_upto_region 19 with fail
      clear hw14
      go_wp2_with fail
      with_reducible refine (leaveV_open _ V (b : Int) _ S14.out).mono ?_
      rintro e w15 ⟨E15, a15, G15, b15, M15, c15, K15, d15, rfl, h15, hb15⟩
      rw [l2.out]
      rw [hV2.out] at h15 ⊢
      have F15 := (hb15.block w13.heap.size vg).trans f14h.out
      obtain ⟨o0, o1, o2, o3, _, _⟩ := four_cells F15
      obtain ⟨w16, hw16, g16, gr16, gs16⟩ := put_four (a' := .slice E15 V2.1.1.length a15) (b' := .slice G15 V2.1.2.length b15) (c' := .slice M15 V2.2.1.length c15) (d' := .slice K15 V2.2.2.length d15) F15
      have hV2s : Sto (Old w16) w16 _ V2 := (h15.grown gr16 (fun q e => by cases e; exact vg)).drop
      have hbq := (b14h.out.trans (hb15.mono b14h.out.size)).grown gr16 (Nat.le_trans b14h.out.size hb15.size) (fun q e => by cases e; omega)
      obtain ⟨v0', v1', v2', v3', -, vg'⟩ := four_cells g16
      have HGq := Lib.hid (((HGp.out.below hbq).add (F := OldR _ V2) hV2s (lasts_oldR _ _)).add (F := Box4 _ _ _ _ _) ⟨v0', v1', v2', v3', vg'⟩ (lasts_box4 _ _ _ _ _))
      have Bq := Lib.hid (Bp.out.trans (hbq.mono Bp.out.size))
      replace F15 := Lib.hid F15
      replace g16 := Lib.hid g16
      clear gr16 gs16 h15 hb15 hV2s hbq v0 v1 v2 v3 vg v0' v1' v2' v3' vg' HGp Bp S14 f14h b14h
      go_upto_region 20 with fail
      clear hw16 o0 o1 o2 o3
      obtain ⟨wa, rfl⟩ : ∃ wa : World, wa = w16 := ⟨_, rfl⟩
      obtain ⟨u0, u1, u2, u3, ug⟩ := HGq.out.at 7 rfl
      -- Leave(u, b), Leave(.., a)
      go_wp2_with fail
      with_reducible refine (leaveV_open _ U (b : Int) _ (HGq.out.at 8 rfl)).mono ?_
      rintro e w17 ⟨E17, a17, G17, b17, M17, c17, K17, d17, rfl, h17, hb17⟩
      rw [l4.out]
      rw [hX.out] at h17 ⊢
      have HGr := Lib.hid ((HGq.out.below hb17).add (F := OldR _ X) h17.drop (lasts_oldR _ _))
      have Br := Lib.hid (Bq.out.trans (hb17.mono Bq.out.size))
      obtain ⟨w18, hw18, f18, hs18, hb18⟩ := box_4 w17 (.slice E17 X.1.1.length a17) (.slice G17 X.1.2.length b17) (.slice M17 X.2.1.length c17) (.slice K17 X.2.2.length d17) 29
      obtain ⟨v0, v1, v2, v3, -, vg⟩ := four_cells f18
      have S18 : Hid (Sto (Old w18) w18 _ X) := Lib.hid ((HGr.out.below hb18).at 0 rfl)
      have s18 := Lib.hid hs18
      have f18h := Lib.hid f18
      have b18h := Lib.hid hb18
      clear hb17 h17 HGq Bq hs18 f18 hb18 u0 u1 u2 u3 ug
      go_upto_region 21 with fail
      clear hw18
      go_wp2_with fail
      with_reducible refine (leaveV_open _ X (a : Int) _ S18.out).mono ?_
      rintro e w19 ⟨E19, a19, G19, b19, M19, c19, K19, d19, rfl, h19, hb19⟩
      rw [l5.out]
      rw [hX2.out] at h19 ⊢
      have F19 := (hb19.block w17.heap.size vg).trans f18h.out
      obtain ⟨o0, o1, o2, o3, _, _⟩ := four_cells F19
      obtain ⟨w20, hw20, g20, gr20, gs20⟩ := put_four (a' := .slice E19 X2.1.1.length a19) (b' := .slice G19 X2.1.2.length b19) (c' := .slice M19 X2.2.1.length c19) (d' := .slice K19 X2.2.2.length d19) F19
      have hX2s : Sto (Old w20) w20 _ X2 := (h19.grown gr20 (fun q e => by cases e; exact vg)).drop
      have hbs := (b18h.out.trans (hb19.mono b18h.out.size)).grown gr20 (Nat.le_trans b18h.out.size hb19.size) (fun q e => by cases e; omega)
      obtain ⟨v0', v1', v2', v3', -, vg'⟩ := four_cells g20
      have HGs := Lib.hid (((HGr.out.below hbs).add (F := OldR _ X2) hX2s (lasts_oldR _ _)).add (F := Box4 _ _ _ _ _) ⟨v0', v1', v2', v3', vg'⟩ (lasts_box4 _ _ _ _ _))
      have Bs := Lib.hid (Br.out.trans (hbs.mono Br.out.size))
      replace F19 := Lib.hid F19
      replace g20 := Lib.hid g20
      clear gr20 gs20 h19 hb19 hX2s hbs v0 v1 v2 v3 vg v0' v1' v2' v3' vg' HGr Br S18 f18h b18h
      go_upto_region 22 with fail
      clear hw20 o0 o1 o2 o3
      obtain ⟨wb, rfl⟩ : ∃ wb : World, wb = w20 := ⟨_, rfl⟩
      obtain ⟨v0, v1, v2, v3, vg⟩ := HGs.out.at 3 rfl
      obtain ⟨u0, u1, u2, u3, ug⟩ := HGs.out.at 0 rfl
      obtain ⟨k0, k1, k2, k3, kg⟩ := HGs.out.at 15 rfl
      have t1 := rBy_str0 (show rBy (Old wb) wb [.slice M15 V2.2.1.length c15] s.2.1 by
        have := (HGs.out.at 4 rfl : Sto (Old wb) wb _ V2).parts.2.1
        rwa [l3.out] at this ⊢)
      have t2 := rBy_str0 (show rBy (Old wb) wb [.slice M19 X2.2.1.length c19] s.2.1 by
        have := (HGs.out.at 1 rfl : Sto (Old wb) wb _ X2).parts.2.1
        rwa [l6.out] at this ⊢)
      have t3 := rBy_str0 (HGs.out.at 17 rfl : Sto (Old wb) wb _ s).parts.2.1
      go_wp2_with fail
      go_ret
      exact ⟨by simp, Bs.out⟩

/-! ### The row's step -/
set_option maxRecDepth 100000 in
theorem lifted (os : Os) (started : os.Started) (H : Type) (enc : TypeId × Value → H) :
    ReturnsInHanded {} Try.checked os 6 .any (Rows.dropTwiceSpec.pre6 enc Try.prog Try.f6 Rows.dropTwiceRow.domain false) (Rows.dropTwiceSpec.post enc Try.prog Try.f6 false true false false) := by
  refine returnsInHanded_of_change (C := Try.checked) own started (by kernel_rfl) Try.func6
    (ChangeSpec.witness6 (enc := enc) (C := Try.checked) false ⟨#[], #[.agg #[.slice none 0 0, .slice none 0 0, .slice none 0 0, .slice none 0 0], .agg #[.int .i64 0, .slice none 0 0]], []⟩ 8 (by kernel_rfl) (by kernel_rfl) (by kernel_rfl) (by kernel_rfl)) ?_
  intro W base args ds gs before hval0 hW _ _
  have hval : ∀ (j : Nat) t v, Try.f6.params[j]? = some t → args[j]? = some v → Value.okWide Try.prog W .any base t v := hval0
  have hW' := hW
  obtain ⟨p, q, hA0, hV, _, _, _⟩ := hW
  have hA : DataW.TrodAll enc Try.prog W 0 (fun _ => true) true Try.f6.params.toList args.toList ds p := hA0
  rw [Try.params6] at hA hval
  obtain ⟨v0, vs0, d0, ds0, p0, q0, hargs, rfl, _, h0, r0⟩ := trodAll_cons hA
  obtain ⟨v1, vs1, d1, ds1, p1, q1, rfl, rfl, _, h1, r1⟩ := trodAll_cons r0
  obtain ⟨rfl, rfl, _⟩ := trodAll_nil r1
  obtain rfl : args = #[v0, v1] := by cases args; simp_all
  obtain ⟨rfl, _⟩ := trodVars_none hV
  obtain ⟨d0x, y0⟩ := open_store (hval 0 29 v0 rfl rfl) h0
  obtain ⟨d1x, y1⟩ := open_node (hval 1 41 v1 rfl rfl) h1
  clear hA0 hval0
  refine (walk v0 d0x v1 d1x W y0 y1).mono fun e W' ⟨he, hb⟩ => ?_
  subst he
  exact ⟨_, rfl, law_post laidOut (by rw [Try.params6]; decide +kernel) (by kernel_rfl) Try.underlying4 rfl ⟨rfl, by simp [Rows.dropTwiceSpec], rfl⟩ hW' hb⟩

theorem over : Rows.dropTwiceRow.holds Try.pinned (OpenSpec.ofChange Rows.dropTwiceSpec) :=
  OpenClaim.holds_of_wide 6 Try.f6 rfl rfl rfl rfl rfl rfl rfl ⟨rfl, rfl, rfl, rfl, rfl⟩ rfl rfl rfl rfl rfl (by kernel_rfl) Try.func6 (by kernel_rfl)
    (of_decide_eq_true (by kernel_rfl)) (by unfold Func.isWrapper; first | (rw [if_pos (by decide +kernel)]; kernel_rfl) | (rw [if_neg (by decide +kernel)]; exact ⟨rfl, rfl⟩))
    (fun os started H enc _ => lifted os started H enc)

end Go.Proofs.Ytmdlgnlfgfhkmaa.dropTwice
namespace Go.Proofs.Ytmdlgnlfgfhkmaa
theorem dropTwice_proved : Rows.DropTwiceSaid := dropTwice.over
end Go.Proofs.Ytmdlgnlfgfhkmaa
