/-
  For every store and node DropBack answers true and leaves its arguments as they were. No condition.
-/
import Derived.Test.YtmdlgnlfgfhkmaaBnd4
namespace Go.Proofs.Ytmdlgnlfgfhkmaa.dropBack
open Go.ChangeShapes Go.WideShapes Go.RowKit

theorem own : ownKnob Try.prog.godebug = none := by kernel_rfl
theorem laidOut : laidOutB Try.prog = true := by kernel_rfl

theorem ctV_put {k : Nat} : ∀ (l : List It) (t : List UInt8), refsOk l → cntR l k = 0 → ctV (t.set k 1) l = (ctV t l).set k 1
  | [], t, _, _ => rfl
  | x :: l, t, hr, h => by
    obtain ⟨r1, r2⟩ := refs_cons hr
    unfold ctV
    rcases r1 with r1 | ⟨r, r1, r8, r256⟩
    · rw [if_pos r1, if_pos r1]
      exact ctV_put l t r2 (by rwa [cntR_zero r1] at h)
    · rw [cntR_here r1 r8] at h
      have hne : r ≠ k := fun e => by
        rw [if_pos e.symm] at h
        omega
      rw [if_neg (by omega), if_neg (by omega), show x.2.1.toNat = r by omega, set_other hne, List.set_comm _ _ (Ne.symm hne)]
      exact ctV_put l _ r2 (by omega)
theorem ct_take {t : List UInt8} {l : List It} {i : Nat} {x : It} (hx : l[i]? = some x) : ctV t (l.take (i + 1)) = if x.2.1 = 0 then ctV t (l.take i) else (ctV t (l.take i)).set x.2.1.toNat ((ctV t (l.take i))[x.2.1.toNat]?.getD 0 + 1) := by
  have hk := (List.getElem?_eq_some_iff.1 hx).1
  have hg : l[i] = x := (List.getElem?_eq_some_iff.1 hx).2
  rw [← List.take_append_getElem hk, ctV_app, hg]
  rfl
set_option maxRecDepth 100000 in
set_option maxHeartbeats 8000000 in
theorem walk (v : Value) (s : Rm) (u : Value) (n : Nd) (w : World) (h : Sto (Old w) w v s) (hu : Nod (Old w) w u n) :
    Calls Try.prog 4 #[v, u] w fun e w' => e = .returned (.bool true) ∧ Below w.heap.size w w' := by
  have hin := Lib.hid hu.inN
  obtain ⟨A, ca, B, cb, N, cn, L, cl, rfl, _⟩ := id h.open
  obtain ⟨I, ci, rfl, -, -, -, -⟩ := id hu.open
  have HG0 : Bag w [OldN (.agg #[.int .i64 n.1, .slice I n.2.length ci]) n, OldR (.agg #[.slice A s.1.1.length ca, .slice B s.1.2.length cb, .slice N s.2.1.length cn, .slice L s.2.2.length cl]) s] := ((Bag.nil w).add (F := OldR _ s) h (lasts_oldR _ _)).add (F := OldN _ n) hu (lasts_oldN _ _)
  obtain ⟨w0, hw0, hg0, hB0, _, hs0⟩ := bag_four HG0 (Below.refl _ _) (.slice A s.1.1.length ca) (.slice B s.1.2.length cb) (.slice N s.2.1.length cn) (.slice L s.2.2.length cl) 29
  obtain ⟨w1, hw1, hg1, hB1, _, hs1⟩ := bag_node hg0 (Below.refl _ _) (.int .i64 n.1) (.slice I n.2.length ci)
  have HG1 := Lib.hid hg1
  have B1 := Lib.hid (hB0.trans (hB1.mono hB0.size))
  replace hs1 := Lib.hid hs1
  replace hs0 := Lib.hid hs0
  clear HG0 hg1 hg0 h hu hB1 hB0
  go_enter Try.func4, Try.ntmps4
  go_upto_region 1 with fail
  clear hw1 hw0
  go_wp2_with fail
  with_reducible refine (alive9 _).mono ?_
  rintro e w2 ⟨rfl, hb2⟩
  have HG2 := Lib.hid (HG1.out.below hb2)
  have B2 := Lib.hid (B1.out.trans (hb2.mono B1.out.size))
  clear hb2 HG1 B1
  obtain ⟨k0, k1, k2, k3, kg⟩ := HG2.out.at 1 rfl
  go_wp2_with fail
  with_reducible refine (greatR_any _ s _ (HG2.out.at 3 rfl)).mono ?_
  rintro e w3 ⟨rfl, hb3⟩
  have HG3 := Lib.hid (HG2.out.below hb3)
  have B3 := Lib.hid (B2.out.trans (hb3.mono B2.out.size))
  clear hb3 HG2 B2 k0 k1 k2 k3 kg
  cases hgr : greatR s with
  | true =>
    go_wp2_with fail
    go_ret
    exact ⟨rfl, B3.out⟩
  | false =>
  obtain ⟨k0, k1, k2, k3, kg⟩ := HG3.out.at 1 rfl
  obtain ⟨p0, p1, pg⟩ := HG3.out.at 0 rfl
  have hI3 : rIts (Old w3) w3 [.slice I n.2.length ci] n.2 := by
    obtain ⟨_, _, e, _, _, _, h⟩ := Nod.open (HG3.out.at 2 rfl)
    cases e
    exact h
  replace hI3 := Lib.hid hI3
  go_wp2_with fail
  with_reducible refine (greatI_any _ n.2 _ hI3.out).mono ?_
  rintro e w4 ⟨rfl, hb4⟩
  have HG4 := Lib.hid (HG3.out.below hb4)
  have B4 := Lib.hid (B3.out.trans (hb4.mono B3.out.size))
  clear hb4 HG3 B3 k0 k1 k2 k3 kg p0 p1 pg hI3
  cases hgi : greatI n.2 with
  | true =>
    go_wp2_with fail
    go_ret
    exact ⟨rfl, B4.out⟩
  | false =>
  clear hgr hgi
  obtain ⟨k0, k1, k2, k3, kg⟩ := HG4.out.at 1 rfl
  obtain ⟨p0, p1, pg⟩ := HG4.out.at 0 rfl
  -- Make
  go_wp2_with fail
  with_reducible refine (makeV_open _ _ s n _ (HG4.out.at 3 rfl) (HG4.out.at 2 rfl)).mono ?_
  rintro e w5 ⟨E, ea, G, eg, M, em, K, ek, rfl, h5, hb5⟩
  obtain ⟨T, hT⟩ : ∃ T, mkV s n = T := ⟨_, rfl⟩
  obtain ⟨p, hp⟩ : ∃ p, mkN s n = p := ⟨_, rfl⟩
  obtain ⟨q, hq⟩ : ∃ q, mkE s n = q := ⟨_, rfl⟩
  rw [hT] at h5 ⊢
  rw [hp, hq]
  obtain ⟨w6, hw6, hg6, hB6, _, hs6⟩ := bag_four ((HG4.out.below hb5).add (F := OldR _ T) h5.drop (lasts_oldR _ _)) (Below.refl _ _) (.slice E T.1.1.length ea) (.slice G T.1.2.length eg) (.slice M T.2.1.length em) (.slice K T.2.2.length ek) 29
  have HG6 := Lib.hid hg6
  have B6 := Lib.hid (B4.out.trans ((hb5.trans (hB6.mono hb5.size)).mono B4.out.size))
  replace hs6 := Lib.hid hs6
  clear k0 k1 k2 k3 kg p0 p1 pg hg6 hB6 hb5 h5 HG4 B4
  obtain ⟨j0, j1, j2, j3, jg⟩ := HG6.out.at 0 rfl
  go_upto_region 7 with fail
  clear hw6
  by_cases hq0 : q = 0
  case neg =>
    obtain ⟨e1, e2⟩ := mk_no (s := s) (n := n) (by rw [hq]; exact hq0)
    rw [hp] at e1
    rw [hT] at e2
    have hq1 : (q != 0) = true := by simpa using hq0
    subst e1
    subst e2
    replace hq := Lib.hid hq
    replace hT := Lib.hid hT
    replace hp := Lib.hid hp
    replace j2 : w6.cell? ⟨w5.heap.size, 2, none⟩ = some (.slice M 0 em) := j2
    clear hq0
    go_wp2_with fail
    go_ret
    exact ⟨by simp, B6.out⟩
  subst hq0
  obtain ⟨k, e1, h8, h256, hz, hz2, r1, r2, l1, l2⟩ := mk_left hin.out hq
  obtain ⟨k', e1', -, -, -, -, hcn, hV, hmT, -, -, -, hTl, hln⟩ := mk_counts hq
  have hkk : k' = k := by omega
  subst hkk
  rw [hp] at e1
  subst e1
  obtain ⟨hm, hmn, hct, -⟩ := mk_ok hq
  rw [hT] at r1 r2 l1 l2 hV hmT hTl
  have hTw : Hid (T.2.1 = ctV (s.2.1.set k' 1) n.2) := Lib.hid (by rw [hV]; exact (ctV_put n.2 s.2.1 (refs_may hmn) hcn).symm)
  have hrf := Lib.hid (refs_may hmn)
  have hbn : Hid (n.2.length ≤ 5) := Lib.hid (mayN_of hmn).1.2.2.1
  obtain ⟨U, hU⟩ : ∃ U, lvV T (k' : Int) = U := ⟨_, rfl⟩
  rw [hU] at l2
  have hU1 : Hid (U.2.1 = s.2.1) := Lib.hid (by rw [l2])
  have hU2 : Hid (U.2.2 = s.2.2) := Lib.hid (by rw [l2])
  replace hT := Lib.hid hT
  replace hp := Lib.hid hp
  replace hq := Lib.hid hq
  replace r1 := Lib.hid r1
  replace r2 := Lib.hid r2
  replace l1 := Lib.hid l1
  replace hU := Lib.hid hU
  replace hV := Lib.hid hV
  replace hTl := Lib.hid hTl
  replace hln := Lib.hid hln
  replace hct := Lib.hid hct
  replace hmT := Lib.hid hmT
  clear l2 hcn e1' hmn
  -- Node
  go_wp2_with fail
  with_reducible refine (nodeR_any _ T (k' : Int) _ (HG6.out.at 1 rfl)).mono ?_
  rintro e w7 ⟨u7, rfl, h7, hb7⟩
  rw [r1.out]
  rw [r2.out] at h7
  obtain ⟨P, pc, rfl, -, -, -, -⟩ := id h7.open
  obtain ⟨w8, hw8, hg8, hB8, _, hs8⟩ := bag_node ((HG6.out.below hb7).add (F := OldN _ n) h7.drop (lasts_oldN _ _)) (Below.refl _ _) (.int .i64 n.1) (.slice P n.2.length pc)
  have HG8 := Lib.hid hg8
  have B8 := Lib.hid (B6.out.trans ((hb7.trans (hB8.mono hb7.size)).mono B6.out.size))
  replace hs8 := Lib.hid hs8
  clear j0 j1 j2 j3 jg hg8 hB8 hb7 h7 HG6 B6
  obtain ⟨p0, p1, pg⟩ := HG8.out.at 0 rfl
  obtain ⟨c0, c1, cg⟩ := HG8.out.at 4 rfl
  go_upto_region 10 with fail
  clear hw8
  go_wp2_with fail
  with_reducible refine (refSameN_any _ _ n n _ (HG8.out.at 1 rfl) (HG8.out.at 6 rfl)).mono ?_
  rintro e w9 ⟨rfl, hb9⟩
  rw [sameN_self]
  have HG9 := Lib.hid (HG8.out.below hb9)
  have B9 := Lib.hid (B8.out.trans (hb9.mono B8.out.size))
  clear hb9 HG8 B8 p0 p1 pg c0 c1 cg
  obtain ⟨k0, k1, k2, k3, kg⟩ := HG9.out.at 5 rfl
  obtain ⟨ad, ld, rfl, rfl, -, -, -, -, had, -, hc⟩ := tables_at hm (HG9.out.at 7 rfl : Sto (Old w9) w9 _ s).parts.2.1 (HG9.out.at 7 rfl : Sto (Old w9) w9 _ s).parts.2.2
  have q1 := (hc k' h256).1
  have q2 := (hc k' h256).2
  rw [hz] at q1
  rw [hz2] at q2
  replace q1 : w9.cell? (ad.add k') = some (.int .u8 0) := q1
  replace q2 : w9.cell? (ld.add k') = some (.int .u8 0) := q2
  have i1 : k' < s.2.1.length := by rw [hln.out]; exact h256
  have i2 : k' < s.2.2.length := by rw [mayT_len (mayR_of hm).2.2]; exact h256
  obtain ⟨v', w10, hr10, ho10, hb10⟩ := app_rows (.slice none 0 0) 0 [] (.slice (some ad) s.2.1.length cn) s.2.1 w9.heap.size w9 (World.ownsRow_nil _ _ _ _) (HG9.out.at 7 rfl : Sto (Old w9) w9 _ s).parts.2.1 (by rw [hln.out]; omega) (Nat.le_refl _)
  rw [Nat.zero_add, List.nil_append] at ho10
  obtain ⟨g, c2, rfl, hgg1, hgg2, hgg3, hgg4⟩ := own_head ho10 (by omega)
  have H10 := Lib.hid hr10
  have hset := own_set ho10 k' 1
  rw [show (((1 : UInt8).toNat : Nat) : Int) = 1 from rfl] at hset
  have hcell := own_cell ho10 (j := k') i1
  have hfr : w10.frozen? ⟨g, k', none⟩ = false := ho10.frozenAt k'
  have hb11 := hb10.setCell (p := ⟨g, k', none⟩) hgg1 (.int .u8 1)
  obtain ⟨w11, hw11⟩ : ∃ w11, w10.setCell ⟨g, k', none⟩ (.int .u8 1) = w11 := ⟨_, rfl⟩
  rw [hw11] at hset hb11
  have hgb : Hid (w9.heap.size ≤ g) := Lib.hid hgg1
  replace hset := Lib.hid hset
  replace hb11 := Lib.hid hb11
  replace hz := Lib.hid hz
  replace hz2 := Lib.hid hz2
  replace hm := Lib.hid hm
  obtain ⟨m, hmm⟩ : ∃ m, n.2.length = m := ⟨_, rfl⟩
  rw [hmm] at hbn HG9 ⊢
  replace hmm := Lib.hid hmm
  clear hc h8 hr10 ho10 hb10 hgg1 hgg2 hgg3 hgg4
  go_wp2_with (at_builtin; refine wpList_append_run rfl _ _ _ rfl rfl rfl H10.out ?_; clear H10)
  clear hw11 k0 k1 k2 k3 kg hcell hfr q1 q2
  go_loopw [12] (fun vi wr => ∃ i : Nat, i ≤ m ∧ vi = .int .i64 i ∧ wr.ownsRow w9.heap.size 5 1 (.slice (some ⟨g, 0, none⟩) s.2.1.length c2) s.2.1.length (u8s (ctV (s.2.1.set k' 1) (n.2.take i))) ∧ Below w9.heap.size w9 wr) (fun vi _ => m - (intOf vi).toNat)
  case atStart => exact ⟨0, by omega, rfl, hset.out, hb11.out⟩
  case round =>
    obtain ⟨i, hi, rfl, hown, hbr⟩ := hrel
    have HR := Lib.hid (HG9.out.below hbr)
    have hm5 := hbn.out
    obtain ⟨c0, c1, cg⟩ := HR.out.at 4 rfl
    by_cases hlt : i < m
    · obtain ⟨x, hx⟩ : ∃ x, n.2[i]? = some x := ⟨_, List.getElem?_eq_getElem (by rw [hmm.out]; exact hlt)⟩
      have htk := Lib.hid (ct_take (t := s.2.1.set k' 1) hx)
      have hxr := hrf.out x (List.mem_of_getElem? hx)
      have hI9 : rIts (Old w9) w9 [.slice I m ci] n.2 := by
        obtain ⟨_, _, e, _, _, _, h⟩ := Nod.open (HG9.out.at 6 rfl)
        cases e
        rw [hmm.out] at h
        exact h
      obtain ⟨ad5, E5, ce5, rfl, -, -, -, FX⟩ := its_old hI9 hx
      obtain ⟨⟨-, -, -, z3, -⟩, -⟩ := FX wr hbr
      clear FX hI9
      obtain ⟨z, hzz⟩ : ∃ z, x.2.1 = z := ⟨_, rfl⟩
      rw [hzz] at z3 hxr htk
      have i4 : (0 : Int) ≤ (i : Int) := by omega
      replace hx := Lib.hid hx
      replace hzz := Lib.hid hzz
      by_cases hz0 : z = 0
      · have hn1 : Hid (ctV (s.2.1.set k' 1) (n.2.take (i + 1)) = ctV (s.2.1.set k' 1) (n.2.take i)) := Lib.hid (by rw [htk.out, if_pos hz0])
        subst hz0
        replace hown := Lib.hid hown
        replace hbr := Lib.hid hbr
        clear hxr
        go_wp2_with fail
        go_roundw
        case rel => exact ⟨i + 1, by omega, by go_num, by rw [hn1.out]; exact hown.out, hbr.out⟩
        case measure => simp [intOf]; omega
      · obtain ⟨r, hr, r8, r256⟩ : ∃ r : Nat, z = r ∧ 8 ≤ r ∧ r < 256 := ⟨z.toNat, by omega, by omega, by omega⟩
        rw [if_neg hz0, show z.toNat = r by omega] at htk
        subst hr
        have j5 : r < s.2.1.length := by rw [hln.out]; exact r256
        have j6 : 0 < r := by omega
        have hcell := own_cell hown (j := r) j5
        obtain ⟨y, hy⟩ : ∃ y, (ctV (s.2.1.set k' 1) (n.2.take i))[r]?.getD 0 = y := ⟨_, rfl⟩
        rw [hy] at hcell htk
        have hfr : wr.frozen? ⟨g, r, none⟩ = false := hown.frozenAt r
        have hset := own_set hown r (y + 1)
        rw [← htk.out] at hset
        have hadd := u8_succ3 y
        have hbn2 := Lib.hid (hbr.setCell (p := ⟨g, r, none⟩) hgb.out (.int .u8 ((y + 1).toNat : Int)))
        replace hset := Lib.hid hset
        generalize (y + 1) = y' at *
        replace hy := Lib.hid hy
        replace hbr := Lib.hid hbr
        clear hxr hown hz0 r8 r256
        go_wp2_with fail
        go_still_tail 18, (by kernel_rfl)
        change wpList _ _ _ _ _ wr.drew
        go_wp2
        go_roundw
        case rel => exact ⟨i + 1, by omega, by go_num, hset.out, hbn2.out.drew⟩
        case measure => simp [intOf]; omega
    · have hlast : Hid (n.2.take i = n.2) := Lib.hid (List.take_of_length_le (by rw [hmm.out]; omega))
      rw [hlast.out, ← hTw.out] at hown
      have hwant := stab_by.drop (own_by hown)
      have HG12 := Lib.hid (HR.out.add (F := OldB (.slice (some ⟨g, 0, none⟩) s.2.1.length c2) T.2.1) hwant (lasts_oldB _ _))
      have B12 := Lib.hid (B9.out.trans (hbr.mono B9.out.size))
      clear hown hwant hbr HR HG9 B9
      obtain ⟨j0, j1, j2, j3, jg⟩ := HG12.out.at 3 rfl
      go_wp2_with fail
      with_reducible refine (leaveV_open _ T (k' : Int) _ (HG12.out.at 4 rfl)).mono ?_
      rintro e w13 ⟨E13, ea13, G13, eg13, M13, em13, K13, ek13, rfl, h13, hb13⟩
      rw [l1.out]
      rw [hU.out] at h13 ⊢
      obtain ⟨w14, hw14, hg14, hB14, -, hs14⟩ := bag_four ((HG12.out.below hb13).add (F := OldR _ U) h13.drop (lasts_oldR _ _)) (Below.refl _ _) (.slice E13 U.1.1.length ea13) (.slice G13 U.1.2.length eg13) (.slice M13 U.2.1.length em13) (.slice K13 U.2.2.length ek13) 29
      have HG14 := Lib.hid hg14
      have B14 := Lib.hid (B12.out.trans ((hb13.trans (hB14.mono hb13.size)).mono B12.out.size))
      replace hs14 := Lib.hid hs14
      clear j0 j1 j2 j3 jg c0 c1 cg hg14 hB14 hb13 h13 HG12 B12
      obtain ⟨u0, u1, u2, u3, ug⟩ := HG14.out.at 0 rfl
      obtain ⟨j0, j1, j2, j3, jg⟩ := HG14.out.at 5 rfl
      obtain ⟨k0, k1, k2, k3, kg⟩ := HG14.out.at 8 rfl
      go_upto_region 20 with fail
      clear hw14
      have t1 := rBy_str0 (HG14.out.at 2 rfl : rBy (Old w14) w14 _ T.2.1)
      have t2 := rBy_str0 (HG14.out.at 6 rfl : Sto (Old w14) w14 _ T).parts.2.1
      have t3 := rBy_str0 (show rBy (Old w14) w14 [.slice M13 U.2.1.length em13] s.2.1 by
        have := (HG14.out.at 1 rfl : Sto (Old w14) w14 _ U).parts.2.1
        rwa [hU1.out] at this ⊢)
      have t4 := rBy_str0 (HG14.out.at 10 rfl : Sto (Old w14) w14 _ s).parts.2.1
      have t5 := rBy_str0 (show rBy (Old w14) w14 [.slice K13 U.2.2.length ek13] s.2.2 by
        have := (HG14.out.at 1 rfl : Sto (Old w14) w14 _ U).parts.2.2
        rwa [hU2.out] at this ⊢)
      have t6 := rBy_str0 (HG14.out.at 10 rfl : Sto (Old w14) w14 _ s).parts.2.2
      go_wp2_with fail
      go_ret
      exact ⟨by simp, B14.out⟩

/-! ### The row's step -/
set_option maxRecDepth 100000 in
theorem lifted (os : Os) (started : os.Started) (H : Type) (enc : TypeId × Value → H) :
    ReturnsInHanded {} Try.checked os 4 .any (Rows.dropBackSpec.pre6 enc Try.prog Try.f4 Rows.dropBackRow.domain false) (Rows.dropBackSpec.post enc Try.prog Try.f4 false true false false) := by
  refine returnsInHanded_of_change (C := Try.checked) own started (by kernel_rfl) Try.func4
    (ChangeSpec.witness6 (enc := enc) (C := Try.checked) false ⟨#[], #[.agg #[.slice none 0 0, .slice none 0 0, .slice none 0 0, .slice none 0 0], .agg #[.int .i64 0, .slice none 0 0]], []⟩ 8 (by kernel_rfl) (by kernel_rfl) (by kernel_rfl) (by kernel_rfl)) ?_
  intro W base args ds gs before hval0 hW _ _
  have hval : ∀ (j : Nat) t v, Try.f4.params[j]? = some t → args[j]? = some v → Value.okWide Try.prog W .any base t v := hval0
  have hW' := hW
  obtain ⟨p, q, hA0, hV, _, _, _⟩ := hW
  have hA : DataW.TrodAll enc Try.prog W 0 (fun _ => true) true Try.f4.params.toList args.toList ds p := hA0
  rw [Try.params4] at hA hval
  obtain ⟨v0, vs0, d0, ds0, p0, q0, hargs, rfl, _, h0, r0⟩ := trodAll_cons hA
  obtain ⟨v1, vs1, d1, ds1, p1, q1, rfl, rfl, _, h1, r1⟩ := trodAll_cons r0
  obtain ⟨rfl, rfl, _⟩ := trodAll_nil r1
  obtain rfl : args = #[v0, v1] := by cases args; simp_all
  obtain ⟨rfl, _⟩ := trodVars_none hV
  obtain ⟨d0x, y0⟩ := open_store (hval 0 29 v0 rfl rfl) h0
  obtain ⟨d1x, y1⟩ := open_node (hval 1 41 v1 rfl rfl) h1
  clear hA0 hval0
  refine (walk v0 d0x v1 d1x W y0 y1).mono fun e W' ⟨he, hb⟩ => ?_
  subst he
  exact ⟨_, rfl, law_post laidOut (by rw [Try.params4]; decide +kernel) (by kernel_rfl) Try.underlying4 rfl ⟨rfl, by simp [Rows.dropBackSpec], rfl⟩ hW' hb⟩

theorem over : Rows.dropBackRow.holds Try.pinned (OpenSpec.ofChange Rows.dropBackSpec) :=
  OpenClaim.holds_of_wide 4 Try.f4 rfl rfl rfl rfl rfl rfl rfl ⟨rfl, rfl, rfl, rfl, rfl⟩ rfl rfl rfl rfl rfl (by kernel_rfl) Try.func4 (by kernel_rfl)
    (of_decide_eq_true (by kernel_rfl)) (by unfold Func.isWrapper; first | (rw [if_pos (by decide +kernel)]; kernel_rfl) | (rw [if_neg (by decide +kernel)]; exact ⟨rfl, rfl⟩))
    (fun os started H enc _ => lifted os started H enc)

end Go.Proofs.Ytmdlgnlfgfhkmaa.dropBack
namespace Go.Proofs.Ytmdlgnlfgfhkmaa
theorem dropBack_proved : Rows.DropBackSaid := dropBack.over
end Go.Proofs.Ytmdlgnlfgfhkmaa
