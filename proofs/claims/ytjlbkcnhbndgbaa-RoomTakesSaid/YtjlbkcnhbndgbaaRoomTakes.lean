/-
  For every store, block and number RoomTakes answers true and leaves its arguments as they were. No condition.
-/
import Derived.Test.YtjlbkcnhbndgbaaBnd2
namespace Go.Proofs.Ytjlbkcnhbndgbaa.roomTakes
open Go.ChangeShapes Go.WideShapes Go.RowKit

theorem own : ownKnob Try.prog.godebug = none := by kernel_rfl
theorem laidOut : laidOutB Try.prog = true := by kernel_rfl

set_option maxRecDepth 100000 in
set_option maxHeartbeats 8000000 in
theorem walk (v : Value) (s : Rm) (u : Value) (b : List UInt8) (n : Int) (_hn : (Lit.int .i64 n).wf = true) (w : World) (h : Sto (Old w) w v s) (hu : rBy (Old w) w [u] b) :
    Calls Try.prog 4 #[v, u, .int .i64 n] w fun e w' => e = .returned (.bool true) ∧ Below w.heap.size w w' := by
  clear _hn
  obtain ⟨A, ca, B, cb, N, cn, L, cl, rfl, _, _, _⟩ := h.open
  obtain ⟨E, ce, rfl, _⟩ := id (rBy_open hu)
  have HG0 : Bag w [OldB (.slice E b.length ce) b, OldR (.agg #[.slice A s.1.1.length ca, .slice B s.1.2.length cb, .slice N s.2.1.length cn, .slice L s.2.2.length cl]) s] := ((Bag.nil w).add (F := OldR _ s) h (lasts_oldR _ _)).add (F := OldB _ b) hu (lasts_oldB _ _)
  obtain ⟨w1, hw1, hg1, hB1, _, hs1⟩ := bag_four HG0 (Below.refl _ _) (.slice A s.1.1.length ca) (.slice B s.1.2.length cb) (.slice N s.2.1.length cn) (.slice L s.2.2.length cl) 33
  have HG1 := Lib.hid hg1
  have B1 := Lib.hid hB1
  replace hs1 := Lib.hid hs1
  obtain ⟨k0, k1, k2, k3, kg⟩ := hg1.at 0 rfl
  clear HG0 hg1 h hu hB1
  go_enter Try.func4, Try.ntmps4
  go_upto_region 1 with fail
  clear hw1 k0 k1 k2 k3
  go_wp2_with fail
  with_reducible refine (alive8 _).mono ?_
  rintro e w2 ⟨rfl, hb2⟩
  have HG2 := Lib.hid (HG1.out.below hb2)
  have B2 := Lib.hid (B1.out.trans (hb2.mono B1.out.size))
  clear hb2 HG1 B1
  obtain ⟨k0, k1, k2, k3, kg⟩ := HG2.out.at 0 rfl
  go_wp2_with fail
  with_reducible refine (greatR_any _ s _ (HG2.out.at 2 rfl)).mono ?_
  rintro e w3 ⟨rfl, hb3⟩
  have HG3 := Lib.hid (HG2.out.below hb3)
  have B3 := Lib.hid (B2.out.trans (hb3.mono B2.out.size))
  clear hb3 HG2 B2 k0 k1 k2 k3 kg
  obtain ⟨k0, k1, k2, k3, kg⟩ := HG3.out.at 0 rfl
  cases hgr : greatR s with
  | true =>
    go_wp2_with fail
    go_ret
    exact ⟨rfl, B3.out⟩
  | false =>
  clear hgr
  by_cases hl : 10000 < b.length
  · have hl' : (10000 : Int) < b.length := by omega
    go_wp2_with fail
    go_ret
    exact ⟨rfl, B3.out⟩
  have hl' : ¬ (10000 : Int) < b.length := by omega
  go_wp2_with fail
  with_reducible refine (checkR_any _ s _ (HG3.out.at 2 rfl)).mono ?_
  rintro e w4 ⟨rfl, hb4⟩
  have HG4 := Lib.hid (HG3.out.below hb4)
  have B4 := Lib.hid (B3.out.trans (hb4.mono B3.out.size))
  clear hb4 HG3 B3 k0 k1 k2 k3 kg
  obtain ⟨k0, k1, k2, k3, kg⟩ := HG4.out.at 0 rfl
  cases hm : mayR s with
  | false =>
    rw [chkR_bad hm]
    go_wp2_with fail
    go_ret
    exact ⟨rfl, B4.out⟩
  | true =>
  rw [chkR_ok hm]
  by_cases h128 : b.length = 128
  case neg =>
    have e128 : ((b.length : Int) != 128) = true := by simp; omega
    go_wp2_with fail
    go_ret
    exact ⟨rfl, B4.out⟩
  rw [h128] at HG4 ⊢
  clear hl hl'
  replace h128 := Lib.hid h128
  go_wp2_with fail
  with_reducible refine (freeR_open _ s hm _ (HG4.out.at 2 rfl)).mono ?_
  rintro e w5 ⟨X, xc, rfl, hx, hb5⟩
  have HG5 := Lib.hid ((HG4.out.below hb5).add (F := OldZ (.slice X (freeL s).length xc) (intsN (freeL s))) (stab_ints.drop hx) (lasts_oldZ _ _))
  have B5 := Lib.hid (B4.out.trans (hb5.mono B4.out.size))
  clear hb5 hx HG4 B4 k0 k1 k2 k3 kg
  obtain ⟨k0, k1, k2, k3, kg⟩ := HG5.out.at 1 rfl
  go_wp2_with fail
  with_reducible refine (takeR_open _ _ s b _ (HG5.out.at 3 rfl) (HG5.out.at 2 rfl)).mono ?_
  rintro e w6 ⟨A6, ca6, B6, cb6, N6, cn6, L6, cl6, rfl, ht, hb6⟩
  have HG6 := (HG5.out.below hb6).add (F := OldR _ (tkV s b)) ht.drop (lasts_oldR _ _)
  obtain ⟨w7, hw7, hg7, hB7, _, hs7⟩ := bag_four HG6 (Below.refl _ _) (.slice A6 (tkV s b).1.1.length ca6) (.slice B6 (tkV s b).1.2.length cb6) (.slice N6 (tkV s b).2.1.length cn6) (.slice L6 (tkV s b).2.2.length cl6) 33
  have HG7 := Lib.hid hg7
  have B7 := Lib.hid (B5.out.trans ((hb6.trans (hB7.mono hb6.size)).mono B5.out.size))
  replace hs7 := Lib.hid hs7
  clear HG6 hg7 hB7 hb6 ht HG5 B5 k0 k1 k2 k3 kg
  obtain ⟨k0, k1, k2, k3, kg⟩ := HG7.out.at 3 rfl
  obtain ⟨j0, j1, j2, j3, jg⟩ := HG7.out.at 0 rfl
  go_upto_region 8 with fail
  clear hw7
  by_cases hE : tkE s b = 0
  · obtain ⟨_, _, _, hfl, h8, h256, hx0, hx1, hN, _⟩ := tk_ok hE
    obtain ⟨c1, c2, c3, _⟩ := tk_counts hE
    obtain ⟨r1, r2⟩ := tk_read hE
    have hmT := tk_may hE
    have hfT := tk_free hE
    rw [hN, hE]
    clear hN hE
    obtain ⟨T, hT⟩ : ∃ T, tkV s b = T := ⟨_, rfl⟩
    obtain ⟨k, hk⟩ : ∃ k, tkK s = k := ⟨_, rfl⟩
    obtain ⟨tl, htl⟩ : ∃ tl, (freeL s).tail = tl := ⟨_, rfl⟩
    rw [hT] at HG7 j0 j1 j2 j3 c1 c2 c3 r1 r2 hmT hfT ⊢
    rw [hk] at h8 h256 hx0 hx1 c1 c2 r1 r2 hfl ⊢
    rw [htl] at hfT hfl
    obtain ⟨ad, bd, rfl, rfl, hl1, hl2, l1, l2, cS⟩ := tables_far hm (HG7.out.at 5 rfl : Sto (Old w7) w7 _ s)
    obtain ⟨cd, dd, rfl, rfl, hl3, hl4, l3, l4, cT⟩ := tables_far hmT (HG7.out.at 1 rfl : Sto (Old w7) w7 _ T)
    rw [hl1] at HG7 k2 ⊢
    rw [hl2] at HG7 k3 ⊢
    rw [hl3] at HG7 j2 ⊢
    rw [hl4] at HG7 j3 ⊢
    obtain ⟨hm1, hm2, hxc⟩ := ints_at (HG7.out.at 2 rfl : rInts (Old w7) w7 _ _)
    obtain ⟨xad, rfl, hxb, hx⟩ := hxc 0 k (by rw [hfl]; rfl)
    replace hxb : xad.block < w7.heap.size := by simpa [Addr.add] using hxb
    replace hx : w7.cell? xad = some (.int .i64 (k : Int)) := by simpa [Addr.add] using hx
    have hlen : (freeL s).length = tl.length + 1 := by rw [hfl]; rfl
    rw [hlen] at HG7 hm2 ⊢
    have q1 := (cS.out k h256 w7 (Below.refl _ _)).1
    have q2 := (cS.out k h256 w7 (Below.refl _ _)).2
    have q3 := (cT.out k h256 w7 (Below.refl _ _)).1
    rw [hx0] at q1
    rw [hx1] at q2
    rw [c1] at q3
    have z0 : (((0 : UInt8).toNat : Int) != 0) = false := rfl
    have z1 : (((1 : UInt8).toNat : Int) != 1) = false := rfl
    have hxc' := Lib.hid hxc
    have hc2 := Lib.hid c2
    have hc3 := Lib.hid c3
    have hr1 := Lib.hid r1
    have hr2 := Lib.hid r2
    have hmT' := Lib.hid hmT
    have hfT' := Lib.hid hfT
    have hfl' := Lib.hid hfl
    have hm' := Lib.hid hm
    have hd1 := Lib.hid (mayR_of hm).1
    have hd2 := Lib.hid (mayR_of hmT).1
    replace hT := Lib.hid hT
    replace hk := Lib.hid hk
    replace htl := Lib.hid htl
    replace hl1 := Lib.hid hl1
    replace hl2 := Lib.hid hl2
    replace hl3 := Lib.hid hl3
    replace hl4 := Lib.hid hl4
    replace hlen := Lib.hid hlen
    replace hm1 := Lib.hid hm1
    clear hxc c2 c3 r1 r2 hmT hfT hfl hm hx0 hx1 c1
    go_upto_region 12 with fail
    go_wp2_with fail
    clear q1 q2 q3 z0 z1 hx hxb
    go_loopw [13] (fun i wr => ∃ j : Nat, j ≤ 256 ∧ i = .int .i64 j ∧ Below w7.heap.size w7 wr) (fun i _ => 256 - (intOf i).toNat)
    case atStart => exact ⟨0, by omega, rfl, Below.refl _ _⟩
    case round =>
      obtain ⟨j, hj, rfl, hbr⟩ := hrel
      have HG8 := Lib.hid (HG7.out.below hbr)
      clear k0 k1 k2 k3 j0 j1 j2 j3
      obtain ⟨k0, k1, k2, k3, _⟩ := HG8.out.at 3 rfl
      obtain ⟨j0, j1, j2, j3, _⟩ := HG8.out.at 0 rfl
      by_cases hlt : j < 256
      · have q2 := (cS.out j hlt wr hbr).2
        have q4 := (cT.out j hlt wr hbr).2
        rw [hc3.out] at q4
        obtain ⟨y, hy⟩ : ∃ y, s.2.2[j]?.getD 0 = y := ⟨_, rfl⟩
        rw [hy] at q2 q4
        replace hy := Lib.hid hy
        by_cases hjk : j = k
        · subst hjk
          have hbr' := Lib.hid hbr
          clear hbr
          go_upto_region 17 with fail
          go_quiet (fail)
          go_wp2_with fail
          go_roundw
          case rel => exact ⟨j + 1, by omega, by go_num, below_drewN hbr'.out _⟩
          case measure => simp [intOf]; omega
        · have q1 := (cS.out j hlt wr hbr).1
          have q3 := (cT.out j hlt wr hbr).1
          rw [hc2.out j hjk] at q3
          obtain ⟨x, hx⟩ : ∃ x, s.2.1[j]?.getD 0 = x := ⟨_, rfl⟩
          rw [hx] at q1 q3
          replace hx := Lib.hid hx
          have g1 : ((j : Int) != (k : Int)) = true := by simp; omega
          have hbr' := Lib.hid hbr
          clear hbr
          go_upto_region 17 with fail
          go_quiet (fail)
          go_wp2_with fail
          go_roundw
          case rel => exact ⟨j + 1, by omega, by go_num, below_drewN hbr'.out _⟩
          case measure => simp [intOf]; omega
      · have B8 := Lib.hid (B7.out.trans (hbr.mono B7.out.size))
        clear hbr cS cT hc2 hc3 HG7 B7 kg jg
        go_wp2_with fail
        with_reducible refine (read_gen _ T.1 (k : Int) _ (HG8.out.at 1 rfl : Sto (Old wr) wr _ T).parts.1 hd2.out).mono ?_
        rintro e w9 ⟨E9, c9, rfl, h9, hb9⟩
        rw [hr1.out, show rdE (k : Int) = 0 by simp [rdE, thereB_of h256]]
        rw [hr1.out] at h9
        rw [h128.out] at h9 ⊢
        have HG9 := Lib.hid ((HG8.out.below hb9).add (F := OldB (.slice E9 128 c9) b) h9 (lasts_oldB _ _))
        have B9 := Lib.hid (B8.out.trans (hb9.mono B8.out.size))
        clear hb9 h9 HG8 B8 k0 k1 k2 k3 j0 j1 j2 j3
        obtain ⟨k0, k1, k2, k3, kg⟩ := HG9.out.at 4 rfl
        obtain ⟨j0, j1, j2, j3, jg⟩ := HG9.out.at 1 rfl
        go_wp2_with fail
        with_reducible refine (read_gen _ s.1 n _ (HG9.out.at 6 rfl : Sto (Old w9) w9 _ s).parts.1 hd1.out).mono ?_
        rintro e w10 ⟨E10, c10, rfl, h10, hb10⟩
        obtain ⟨ys, hys⟩ : ∃ ys, rdB s.1 n = ys := ⟨_, rfl⟩
        obtain ⟨qe, hqe⟩ : ∃ qe, rdE n = qe := ⟨_, rfl⟩
        rw [hys] at h10
        rw [hys, hqe]
        have HG10 := Lib.hid ((HG9.out.below hb10).add (F := OldB (.slice E10 ys.length c10) ys) h10 (lasts_oldB _ _))
        have B10 := Lib.hid (B9.out.trans (hb10.mono B9.out.size))
        clear hb10 h10 HG9 B9 k0 k1 k2 k3 kg j0 j1 j2 j3 jg
        obtain ⟨k0, k1, k2, k3, kg⟩ := HG10.out.at 5 rfl
        obtain ⟨j0, j1, j2, j3, jg⟩ := HG10.out.at 2 rfl
        replace hys := Lib.hid hys
        replace hqe := Lib.hid hqe
        go_wp2_with fail
        with_reducible refine (read_gen _ T.1 n _ (HG10.out.at 3 rfl : Sto (Old w10) w10 _ T).parts.1 hd2.out).mono ?_
        rintro e w11 ⟨E11, c11, rfl, h11, hb11⟩
        obtain ⟨zs, hzs⟩ : ∃ zs, rdB T.1 n = zs := ⟨_, rfl⟩
        rw [hzs] at h11
        rw [hzs, hqe.out]
        have hsame : Hid (n ≠ (k : Int) → zs = ys) := Lib.hid fun h => by rw [← hzs, ← hys.out, hr2.out n h]
        have HG11 := Lib.hid ((HG10.out.below hb11).add (F := OldB (.slice E11 zs.length c11) zs) h11 (lasts_oldB _ _))
        have B11 := Lib.hid (B10.out.trans (hb11.mono B10.out.size))
        clear hb11 h11 HG10 B10 k0 k1 k2 k3 kg j0 j1 j2 j3 jg
        obtain ⟨k0, k1, k2, k3, kg⟩ := HG11.out.at 6 rfl
        obtain ⟨j0, j1, j2, j3, jg⟩ := HG11.out.at 3 rfl
        replace hzs := Lib.hid hzs
        go_wp2_with fail
        with_reducible refine (freeR_open _ T hmT'.out _ (HG11.out.at 4 rfl : Sto (Old w11) w11 _ T)).mono ?_
        rintro e w12 ⟨Y, yc, rfl, h12, hb12⟩
        rw [hfT'.out]
        rw [hfT'.out] at h12
        have HG12 := Lib.hid (HG11.out.below hb12)
        have B12 := Lib.hid (B11.out.trans (hb12.mono B11.out.size))
        have YY := Lib.hid (stab_ints.drop h12)
        clear hb12 h12 HG11 B11 k0 k1 k2 k3 kg j0 j1 j2 j3 jg
        have s1 := rBy_str (HG12.out.at 2 rfl : rBy (Old w12) w12 _ b)
        have s2 := rBy_str (HG12.out.at 7 rfl : rBy (Old w12) w12 _ b)
        have hbd : tl.length ≤ 247 := by
          have h1 := freeK_len s 248
          have h2 : (freeL s).length = tl.length + 1 := hlen.out
          unfold freeL at h2
          omega
        have hxa := ints_at (HG12.out.at 5 rfl : rInts (Old w12) w12 _ _)
        have hya := ints_at YY.out
        obtain ⟨hx1, hx2, hx3⟩ := hxa
        obtain ⟨hy1, hy2, hy3⟩ := hya
        clear YY hx1 hy1
        cases tl with
        | nil =>
          clear hx3 hy3 hxc' hfT' hfl' hlen hm1 htl
          have HB12 := Lib.hid B12.out
          by_cases hnk : n = (k : Int)
          · subst hnk
            clear hsame
            go_upto_region 23 with fail
            go_quiet (fail)
            go_wp2_with fail
            go_ret
            exact ⟨by simp, below_drewN HB12.out _⟩
          · have g1 : (n == (k : Int)) = false := by simpa using hnk
            obtain rfl := hsame.out hnk
            have s3 := rBy_str (HG12.out.at 0 rfl : rBy (Old w12) w12 _ zs)
            have s4 := rBy_str (HG12.out.at 1 rfl : rBy (Old w12) w12 _ zs)
            clear hsame
            go_upto_region 23 with fail
            go_quiet (fail)
            go_wp2_with fail
            go_ret
            exact ⟨by simp, below_drewN HB12.out _⟩
        | cons y r =>
          obtain ⟨yad, rfl, hyb, hyc⟩ := hy3 0 y rfl
          obtain ⟨xad', e', _, hxc1⟩ := hx3 1 y (by rw [hfl'.out]; rfl)
          cases e'
          replace hyc : w12.cell? yad = some (.int .i64 (y : Int)) := by simpa [Addr.add] using hyc
          replace hxc1 : w12.cell? ⟨xad.block, xad.off + 1, none⟩ = some (.int .i64 (y : Int)) := by simpa [Addr.add] using hxc1
          clear hx3 hy3 hxc' hfT' hfl' hm1 htl hlen
          obtain ⟨M, hM⟩ : ∃ M, (y :: r).length = M := ⟨_, rfl⟩
          have hM1 : 0 < M := by rw [← hM]; simp
          rw [hM] at hbd hx2 hy2 HG12 ⊢
          clear hM
          have w1' : IntKind.i64.wrap (M : Int) = M := by rw [IntKind.wrap_i64]; omega
          have w2' : IntKind.i64.wrap ((M : Int) + 1 - 1) = M := by rw [IntKind.wrap_i64]; omega
          have w3' : ((M : Int) == 0) = false := by rw [beq_eq_false_iff_ne]; omega
          have w4' : 1 < M + 1 := by omega
          have w5' : (1 : Int) < (M : Int) + 1 := by omega
          have w6' : (0 : Int) < (M : Int) := by omega
          have HB12 := Lib.hid B12.out
          by_cases hnk : n = (k : Int)
          · subst hnk
            clear hsame
            go_upto_region 23 with fail
            go_quiet (fail)
            go_wp2_with fail
            go_ret
            exact ⟨by simp, below_drewN HB12.out _⟩
          · have g1 : (n == (k : Int)) = false := by simpa using hnk
            obtain rfl := hsame.out hnk
            have s3 := rBy_str (HG12.out.at 0 rfl : rBy (Old w12) w12 _ zs)
            have s4 := rBy_str (HG12.out.at 1 rfl : rBy (Old w12) w12 _ zs)
            clear hsame
            go_upto_region 23 with fail
            go_quiet (fail)
            go_wp2_with fail
            go_ret
            exact ⟨by simp, below_drewN HB12.out _⟩
  · obtain ⟨h9, hfw⟩ := tk_full hm h128.out hE
    rw [h9]
    clear hE
    rcases hfw with hfw | hfw
    · have hz : (freeL s).length = 0 := by rw [hfw]; rfl
      rw [hz]
      go_wp2_with fail
      go_ret
      exact ⟨rfl, B7.out⟩
    · by_cases hz : (freeL s).length = 0
      · rw [hz]
        go_wp2_with fail
        go_ret
        exact ⟨rfl, B7.out⟩
      · have hz2 : (((freeL s).length : Int) == 0) = false := by rw [beq_eq_false_iff_ne]; omega
        rw [hfw] at k1 ⊢
        go_wp2_with fail
        go_ret
        exact ⟨rfl, B7.out⟩

/-! ### The row's step -/
set_option maxRecDepth 100000 in
theorem lifted (os : Os) (started : os.Started) (H : Type) (enc : TypeId × Value → H) :
    ReturnsInHanded {} Try.checked os 4 .any (Rows.roomTakesSpec.pre6 enc Try.prog Try.f4 Rows.roomTakesRow.domain false) (Rows.roomTakesSpec.post enc Try.prog Try.f4 false true false false) := by
  refine returnsInHanded_of_change (C := Try.checked) own started (by kernel_rfl) Try.func4
    (ChangeSpec.witness6 (enc := enc) (C := Try.checked) false ⟨#[], #[.agg #[.slice none 0 0, .slice none 0 0, .slice none 0 0, .slice none 0 0], .slice none 0 0, .int .i64 0], []⟩ 8 (by kernel_rfl) (by kernel_rfl) (by kernel_rfl) (by kernel_rfl)) ?_
  intro W base args ds gs before hval0 hW _ _
  have hval : ∀ (j : Nat) t v, Try.f4.params[j]? = some t → args[j]? = some v → Value.okWide Try.prog W .any base t v := hval0
  have hW' := hW
  obtain ⟨p, q, hA0, hV, _, _, _⟩ := hW
  have hA : DataW.TrodAll enc Try.prog W 0 (fun _ => true) true Try.f4.params.toList args.toList ds p := hA0
  rw [Try.params4] at hA hval
  obtain ⟨v0, vs0, d0, ds0, p0, q0, hargs, rfl, _, h0, r0⟩ := trodAll_cons hA
  obtain ⟨v1, vs1, d1, ds1, p1, q1, rfl, rfl, _, h1, r1⟩ := trodAll_cons r0
  obtain ⟨v2, vs2, d2, ds2, p2, q2, rfl, rfl, _, h2, r2⟩ := trodAll_cons r1
  obtain ⟨rfl, rfl, _⟩ := trodAll_nil r2
  obtain rfl : args = #[v0, v1, v2] := by cases args; simp_all
  obtain ⟨rfl, _⟩ := trodVars_none hV
  obtain ⟨d0x, y0⟩ := open_store (hval 0 33 v0 rfl rfl) h0
  obtain ⟨d1x, y1⟩ := open_by (hval 1 31 v1 rfl rfl) h1
  obtain ⟨a2, rfl, _, _, w2⟩ := open_int Try.underlying3 (hval 2 3 v2 rfl rfl) h2
  clear hA0 hval0
  refine (walk v0 d0x v1 d1x a2 w2 W y0 y1).mono fun e W' ⟨he, hb⟩ => ?_
  subst he
  exact ⟨_, rfl, law_post laidOut (by rw [Try.params4]; decide +kernel) (by kernel_rfl) Try.underlying4 rfl ⟨rfl, by simp [Rows.roomTakesSpec], rfl⟩ hW' hb⟩

theorem over : Rows.roomTakesRow.holds Try.pinned (OpenSpec.ofChange Rows.roomTakesSpec) :=
  OpenClaim.holds_of_wide 4 Try.f4 rfl rfl rfl rfl rfl rfl rfl ⟨rfl, rfl, rfl, rfl, rfl⟩ rfl rfl rfl rfl rfl (by kernel_rfl) Try.func4 (by kernel_rfl)
    (of_decide_eq_true (by kernel_rfl)) (by unfold Func.isWrapper; first | (rw [if_pos (by decide +kernel)]; kernel_rfl) | (rw [if_neg (by decide +kernel)]; exact ⟨rfl, rfl⟩))
    (fun os started H enc _ => lifted os started H enc)

end Go.Proofs.Ytjlbkcnhbndgbaa.roomTakes
namespace Go.Proofs.Ytjlbkcnhbndgbaa
theorem roomTakes_proved : Rows.RoomTakesSaid := roomTakes.over
end Go.Proofs.Ytjlbkcnhbndgbaa
