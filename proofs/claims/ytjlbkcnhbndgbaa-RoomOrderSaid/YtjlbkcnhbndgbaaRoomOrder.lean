/-
  For every store, two blocks and two numbers RoomOrder answers true and leaves its arguments as they were. No condition.
-/
import Derived.Test.YtjlbkcnhbndgbaaBnd2
import Derived.Deep.CutRange
namespace Go.Proofs.Ytjlbkcnhbndgbaa.roomOrder
open Go.ChangeShapes Go.WideShapes Go.RowKit

theorem own : ownKnob Try.prog.godebug = none := by kernel_rfl
theorem laidOut : laidOutB Try.prog = true := by kernel_rfl

theorem two_taken {s : Rm} {a b : List UInt8} (h : tkE s a = 0) (h' : tkE (tkV s a) b = 0) : tkK s ≠ tkK (tkV s a) ∧ s.2.1[tkK (tkV s a)]?.getD 0 = 0 ∧ s.2.2[tkK (tkV s a)]?.getD 0 = 0 := by
  obtain ⟨_, _, _, h1, _⟩ := tk_ok h
  obtain ⟨c1, c2, c3, _⟩ := tk_counts h
  obtain ⟨_, _, _, g1, _, _, g4, g5, _, _⟩ := tk_ok h'
  have hn := free_nodup s
  rw [h1] at hn
  have hne : tkK s ≠ tkK (tkV s a) := fun e => by
    have hin : tkK (tkV s a) ∈ freeL (tkV s a) := by rw [g1]; exact List.mem_cons_self
    rw [tk_free h, ← e] at hin
    exact (List.nodup_cons.1 hn).1 hin
  exact ⟨hne, by rw [← c2 _ (Ne.symm hne)]; exact g4, by rw [← c3]; exact g5⟩
set_option maxRecDepth 100000 in
set_option maxHeartbeats 8000000 in
theorem walk (v : Value) (s : Rm) (u : Value) (a : List UInt8) (z : Value) (b : List UInt8) (n : Int) (_hn : (Lit.int .i64 n).wf = true) (m : Int) (_hm : (Lit.int .i64 m).wf = true) (w : World) (h : Sto (Old w) w v s) (hu : rBy (Old w) w [u] a) (hz : rBy (Old w) w [z] b) :
    Calls Try.prog 7 #[v, u, z, .int .i64 n, .int .i64 m] w fun e w' => e = .returned (.bool true) ∧ Below w.heap.size w w' := by
  clear _hn _hm
  obtain ⟨A, ca, B, cb, N, cn, L, cl, rfl, _, _, _⟩ := h.open
  obtain ⟨E, ce, rfl, _⟩ := id (rBy_open hu)
  obtain ⟨F, cf, rfl, _⟩ := id (rBy_open hz)
  have HG0 : Bag w [OldB (.slice F b.length cf) b, OldB (.slice E a.length ce) a, OldR (.agg #[.slice A s.1.1.length ca, .slice B s.1.2.length cb, .slice N s.2.1.length cn, .slice L s.2.2.length cl]) s] := (((Bag.nil w).add (F := OldR _ s) h (lasts_oldR _ _)).add (F := OldB _ a) hu (lasts_oldB _ _)).add (F := OldB _ b) hz (lasts_oldB _ _)
  obtain ⟨w1, hw1, hg1, hB1, _, hs1⟩ := bag_four HG0 (Below.refl _ _) (.slice A s.1.1.length ca) (.slice B s.1.2.length cb) (.slice N s.2.1.length cn) (.slice L s.2.2.length cl) 33
  have HG1 := Lib.hid hg1
  have B1 := Lib.hid hB1
  replace hs1 := Lib.hid hs1
  obtain ⟨k0, k1, k2, k3, kg⟩ := hg1.at 0 rfl
  clear HG0 hg1 h hu hz hB1
  go_enter Try.func7, Try.ntmps7
  go_upto_region 1 with fail
  clear hw1 k0 k1 k2 k3
  go_wp2_with fail
  with_reducible refine (alive8 _).mono ?_
  rintro e w2 ⟨rfl, hb2⟩
  have HG2 := Lib.hid (HG1.out.below hb2)
  have B2 := Lib.hid (B1.out.trans (hb2.mono B1.out.size))
  clear hb2 HG1 B1
  obtain ⟨k0, k1, k2, k3, kg⟩ := HG2.out.at 0 rfl
  go_wp2_with fail
  with_reducible refine (greatR_any _ s _ (HG2.out.at 3 rfl)).mono ?_
  rintro e w3 ⟨rfl, hb3⟩
  have HG3 := Lib.hid (HG2.out.below hb3)
  have B3 := Lib.hid (B2.out.trans (hb3.mono B2.out.size))
  clear hb3 HG2 B2 k0 k1 k2 k3 kg
  obtain ⟨k0, k1, k2, k3, kg⟩ := HG3.out.at 0 rfl
  cases hgr : greatR s with
  | true =>
    go_wp2_with fail
    go_ret
    exact ⟨rfl, B3.out⟩
  | false =>
  clear hgr
  by_cases hl : 10000 < a.length
  · have hl' : (10000 : Int) < a.length := by omega
    go_wp2_with fail
    go_ret
    exact ⟨rfl, B3.out⟩
  have hl' : ¬ (10000 : Int) < a.length := by omega
  by_cases hr : 10000 < b.length
  · have hr' : (10000 : Int) < b.length := by omega
    go_wp2_with fail
    go_ret
    exact ⟨rfl, B3.out⟩
  have hr' : ¬ (10000 : Int) < b.length := by omega
  go_wp2_with fail
  with_reducible refine (checkR_any _ s _ (HG3.out.at 3 rfl)).mono ?_
  rintro e w4 ⟨rfl, hb4⟩
  have HG4 := Lib.hid (HG3.out.below hb4)
  have B4 := Lib.hid (B3.out.trans (hb4.mono B3.out.size))
  clear hb4 HG3 B3 k0 k1 k2 k3 kg
  obtain ⟨k0, k1, k2, k3, kg⟩ := HG4.out.at 0 rfl
  cases hm : mayR s with
  | false =>
    rw [chkR_bad hm]
    go_wp2_with fail
    go_ret
    exact ⟨rfl, B4.out⟩
  | true =>
  rw [chkR_ok hm]
  go_wp2_with fail
  clear hl hl' hr hr'
  with_reducible refine (takeR_open _ _ s a _ (HG4.out.at 3 rfl) (HG4.out.at 2 rfl)).mono ?_
  rintro e w5 ⟨A5, a5, B5', b5, N5, n5, L5, l5, rfl, ht, hb5⟩
  have HG5 := (HG4.out.below hb5).add (F := OldR _ (tkV s a)) ht.drop (lasts_oldR _ _)
  obtain ⟨w6, hw6, hg6, hB6, _, hs6⟩ := bag_four HG5 (Below.refl _ _) (.slice A5 (tkV s a).1.1.length a5) (.slice B5' (tkV s a).1.2.length b5) (.slice N5 (tkV s a).2.1.length n5) (.slice L5 (tkV s a).2.2.length l5) 33
  have HG6 := Lib.hid hg6
  have B6 := Lib.hid (B4.out.trans ((hb5.trans (hB6.mono hb5.size)).mono B4.out.size))
  replace hs6 := Lib.hid hs6
  clear HG5 hg6 hB6 hb5 ht HG4 B4 k0 k1 k2 k3 kg
  obtain ⟨j0, j1, j2, j3, jg⟩ := HG6.out.at 0 rfl
  go_upto_region 5 with fail
  clear hw6
  go_wp2_with fail
  with_reducible refine (takeR_open _ _ (tkV s a) b _ (HG6.out.at 1 rfl) (HG6.out.at 3 rfl)).mono ?_
  rintro e w7 ⟨A7, a7, B7', b7, N7, n7, L7, l7, rfl, ht, hb7⟩
  have HG7 := (HG6.out.below hb7).add (F := OldR _ (tkV (tkV s a) b)) ht.drop (lasts_oldR _ _)
  obtain ⟨w8, hw8, hg8, hB8, _, hs8⟩ := bag_four HG7 (Below.refl _ _) (.slice A7 (tkV (tkV s a) b).1.1.length a7) (.slice B7' (tkV (tkV s a) b).1.2.length b7) (.slice N7 (tkV (tkV s a) b).2.1.length n7) (.slice L7 (tkV (tkV s a) b).2.2.length l7) 33
  have HG8 := Lib.hid hg8
  have B8 := Lib.hid (B6.out.trans ((hb7.trans (hB8.mono hb7.size)).mono B6.out.size))
  replace hs8 := Lib.hid hs8
  clear HG7 hg8 hB8 hb7 ht HG6 B6 j0 j1 j2 j3 jg
  go_upto_region 6 with fail
  clear hw8
  obtain ⟨q, hq⟩ : ∃ q, tkE s a = q := ⟨_, rfl⟩
  obtain ⟨r, hr⟩ : ∃ r, tkE (tkV s a) b = r := ⟨_, rfl⟩
  obtain ⟨p1, hp1⟩ : ∃ p, tkN s a = p := ⟨_, rfl⟩
  obtain ⟨p2, hp2⟩ : ∃ p, tkN (tkV s a) b = p := ⟨_, rfl⟩
  rw [hq, hr, hp1, hp2]
  replace hq := Lib.hid hq
  replace hr := Lib.hid hr
  replace hp1 := Lib.hid hp1
  replace hp2 := Lib.hid hp2
  go_cut [74] from 69 to 73 (fun x74 wx => x74 = .bool (decide (q = 0 ∧ r = 0)) ∧ w8 = wx)
  case first =>
    by_cases hE : q = 0
    · have hE1 : (q == 0) = true := by simpa using hE
      have hE2 := Lib.hid hE
      clear hE
      by_cases hF : r = 0
      · have hF1 : (r == 0) = true := by simpa using hF
        have hF2 := Lib.hid hF
        clear hF
        go_wp2_with fail
        go_meet
        exact ⟨by simp [hE2.out, hF2.out], rfl⟩
      · have hF1 : (r == 0) = false := by simpa using hF
        have hF2 := Lib.hid hF
        clear hF
        go_wp2_with fail
        go_meet
        exact ⟨by simp [hF2.out], rfl⟩
    · have hE1 : (q == 0) = false := by simpa using hE
      have hE2 := Lib.hid hE
      clear hE
      go_wp2_with fail
      go_meet
      exact ⟨by simp [hE2.out], rfl⟩
  case rest =>
  obtain ⟨rfl, rfl⟩ := hcut
  go_upto_if 74 with fail
  go_cut [18, 19, 20, 21, 22, 23, 24, 25] from 74 to 162 (fun x18 x19 x20 x21 x22 x23 x24 x25 wx => Below w8.heap.size w8 wx)
  case first =>
    by_cases hEF : q = 0 ∧ r = 0
    case neg =>
      rw [decide_eq_false hEF]
      go_wp2_with fail
      go_meet
      exact Below.refl _ _
    rw [decide_eq_true hEF]
    have hE : tkE s a = 0 := by rw [hq.out]; exact hEF.1
    have hF : tkE (tkV s a) b = 0 := by rw [hr.out]; exact hEF.2
    clear hEF
    obtain ⟨hne, hz1, hz2⟩ := two_taken hE hF
    obtain ⟨-, hla, -, -, h8, h256, y1, y2, hN1, -⟩ := tk_ok hE
    obtain ⟨-, hlb, -, -, g8, g256, -, -, hN2, -⟩ := tk_ok hF
    obtain ⟨r1, r2⟩ := tk_read hE
    obtain ⟨r3, r4⟩ := tk_read hF
    have hmT := Lib.hid (mayR_of (tk_may hF)).1
    have hms := Lib.hid (mayR_of hm).1
    rw [hp1.out] at hN1
    rw [hp2.out] at hN2
    obtain ⟨k1, hk1⟩ : ∃ k1, tkK s = k1 := ⟨_, rfl⟩
    obtain ⟨k2, hk2⟩ : ∃ k2, tkK (tkV s a) = k2 := ⟨_, rfl⟩
    rw [hk1] at hne h8 h256 y1 y2 r1 r2 hN1
    rw [hk2] at hne hz1 hz2 g8 g256 r3 r4 hN2
    obtain ⟨T, hT⟩ : ∃ T, tkV (tkV s a) b = T := ⟨_, rfl⟩
    rw [hT] at hmT r3 r4
    have ra : Hid (rdB T.1 p1 = a) := Lib.hid (by rw [hN1, r4 _ (by omega), r1])
    have rb : Hid (rdB T.1 p2 = b) := Lib.hid (by rw [hN2, r3])
    have rn : Hid (∀ i : Int, i ≠ (k1 : Int) → i ≠ (k2 : Int) → rdB T.1 i = rdB s.1 i) := Lib.hid fun i h1 h2 => by rw [r4 _ h2, r2 _ h1]
    have e1 : Hid (rdE p1 = 0) := Lib.hid (by rw [hN1]; simp [rdE, thereB_of h256])
    have e2 : Hid (rdE p2 = 0) := Lib.hid (by rw [hN2]; simp [rdE, thereB_of g256])
    have gne : (p1 == p2) = false := by rw [beq_eq_false_iff_ne, hN1, hN2]; omega
    have hn1 : Hid (∀ k : Nat, k < 256 → ¬ (s.2.1[k]?.getD 0 = 0 ∧ s.2.2[k]?.getD 0 = 0) → k ≠ k1 ∧ k ≠ k2) := Lib.hid fun k _ hk => ⟨fun e => hk (by rw [e]; exact ⟨y1, y2⟩), fun e => hk (by rw [e]; exact ⟨hz1, hz2⟩)⟩
    clear hne hz1 hz2 h8 h256 y1 y2 hN1 hla g8 g256 hN2 hlb r1 r2 r3 r4 hE hF
    have HT8 : Hid (Sto (Old w8) w8 (.agg #[.slice A7 (tkV (tkV s a) b).1.1.length a7, .slice B7' (tkV (tkV s a) b).1.2.length b7, .slice N7 (tkV (tkV s a) b).2.1.length n7, .slice L7 (tkV (tkV s a) b).2.2.length l7]) T) := Lib.hid (by rw [← hT]; exact HG8.out.at 1 rfl)
    replace hT := Lib.hid hT
    replace hk1 := Lib.hid hk1
    replace hk2 := Lib.hid hk2
    obtain ⟨j0, j1, j2, j3, jg⟩ := HG8.out.at 0 rfl
    go_wp2_with fail
    with_reducible refine (read_gen _ T.1 p1 _ HT8.out.parts.1 hmT.out).mono ?_
    rintro e w9 ⟨E9, c9, rfl, h9, hb9⟩
    rw [ra.out] at h9 ⊢
    rw [e1.out]
    have HG9 := Lib.hid ((HG8.out.below hb9).add (F := OldB (.slice E9 a.length c9) a) h9 (lasts_oldB _ _))
    have HT9 := Lib.hid (HT8.out.below hb9)
    have B9 := Lib.hid hb9
    clear hb9 h9 j0 j1 j2 j3 jg HT8
    obtain ⟨j0, j1, j2, j3, jg⟩ := HG9.out.at 1 rfl
    go_wp2_with fail
    with_reducible refine (read_gen _ T.1 p2 _ HT9.out.parts.1 hmT.out).mono ?_
    rintro e w10 ⟨E10, c10, rfl, h10, hb10⟩
    rw [rb.out] at h10 ⊢
    rw [e2.out]
    have HG10 := Lib.hid ((HG9.out.below hb10).add (F := OldB (.slice E10 b.length c10) b) h10 (lasts_oldB _ _))
    have HT10 := Lib.hid (HT9.out.below hb10)
    have B10 := Lib.hid (B9.out.trans (hb10.mono B9.out.size))
    clear hb10 h10 HG9 B9 HT9 j0 j1 j2 j3 jg
    have s1 := rBy_str0 (HG10.out.at 1 rfl : rBy (Old w10) w10 _ a)
    have s2 := rBy_str0 (HG10.out.at 8 rfl : rBy (Old w10) w10 _ a)
    have s3 := rBy_str0 (HG10.out.at 0 rfl : rBy (Old w10) w10 _ b)
    have s4 := rBy_str0 (HG10.out.at 7 rfl : rBy (Old w10) w10 _ b)
    have za : (a != a) = false := by simp
    have zb : (b != b) = false := by simp
    obtain ⟨k0, k1', k2', k3, kg⟩ := HG10.out.at 6 rfl
    go_upto_region 11 with fail
    clear s1 s2 s3 s4 za zb
    obtain ⟨ad, bd, rfl, rfl, hl1, hl2, _, _, cS⟩ := tables_far hm (HG10.out.at 9 rfl : Sto (Old w10) w10 _ s)
    replace hl1 := Lib.hid hl1
    replace hl2 := Lib.hid hl2
    by_cases hn8 : n < 8
    · have i1 : ¬ (8 : Int) ≤ n := by omega
      clear hn8
      go_wp2_with fail
      go_meet
      exact B10.out
    by_cases hn256 : 256 ≤ n
    · have i1 : (8 : Int) ≤ n := by omega
      have i2 : ¬ n < (256 : Int) := by omega
      clear hn8 hn256
      go_wp2_with fail
      go_meet
      exact B10.out
    obtain ⟨k, rfl⟩ : ∃ k : Nat, n = k := ⟨n.toNat, by omega⟩
    have h256 : k < 256 := by omega
    have i1 : (8 : Int) ≤ (k : Int) := by omega
    have i2 : (k : Int) < 256 := by omega
    have i3 : k < s.2.1.length := by rw [hl1.out]; exact h256
    have i4 : k < s.2.2.length := by rw [hl2.out]; exact h256
    clear hn8 hn256
    have q1 := (cS.out k h256 w10 (Below.refl _ _)).1
    have q2 := (cS.out k h256 w10 (Below.refl _ _)).2
    obtain ⟨x, hx⟩ : ∃ x, s.2.1[k]?.getD 0 = x := ⟨_, rfl⟩
    obtain ⟨y, hy⟩ : ∃ y, s.2.2[k]?.getD 0 = y := ⟨_, rfl⟩
    rw [hx] at q1
    rw [hy] at q2
    replace hx := Lib.hid hx
    replace hy := Lib.hid hy
    by_cases hx0 : x = 0
    · have g1 : ¬ 0 < x.toNat := by rw [hx0]; decide
      by_cases hy0 : y = 0
      · have g2 : ¬ 0 < y.toNat := by rw [hy0]; decide
        clear hx0 hy0
        go_wp2_with fail
        go_meet
        exact B10.out
      · have g2 : 0 < y.toNat := by
          rcases Nat.eq_zero_or_pos y.toNat with h | h
          · exact absurd (UInt8.toNat.inj h) hy0
          · exact h
        have hne := hn1.out k h256 (by rintro ⟨h1, h2⟩; first | exact hx0 (by rw [hx.out] at h1; exact h1) | exact hy0 (by rw [hy.out] at h2; exact h2))
        have hrr := Lib.hid (rn.out (k : Int) (by omega) (by omega))
        clear hne
        go_wp2_with fail
        with_reducible refine (read_gen _ s.1 (k : Int) _ (HG10.out.at 9 rfl : Sto (Old w10) w10 _ s).parts.1 hms.out).mono ?_
        rintro e w11 ⟨E11, c11, rfl, h11, hb11⟩
        rw [show rdE (k : Int) = 0 by simp [rdE, thereB_of h256]]
        have HG11 := Lib.hid ((HG10.out.below hb11).add (F := OldB (.slice E11 (rdB s.1 (k : Int)).length c11) (rdB s.1 (k : Int))) h11 (lasts_oldB _ _))
        have HT11 := Lib.hid (HT10.out.below hb11)
        have B11 := Lib.hid (B10.out.trans (hb11.mono B10.out.size))
        clear hb11 h11
        obtain ⟨j0, j1, j2, j3, jg⟩ := HG11.out.at 3 rfl
        go_wp2_with fail
        with_reducible refine (read_gen _ T.1 (k : Int) _ HT11.out.parts.1 hmT.out).mono ?_
        rintro e w12 ⟨E12, c12, rfl, h12, hb12⟩
        rw [show rdE (k : Int) = 0 by simp [rdE, thereB_of h256]]
        rw [hrr.out] at h12 ⊢
        have B12 := Lib.hid (B11.out.trans (hb12.mono B11.out.size))
        have s1 := rBy_str0 ((HG11.out.below hb12).at 0 rfl : rBy (Old w12) w12 _ (rdB s.1 (k : Int)))
        have s2 := rBy_str0 h12
        obtain ⟨ys, hys⟩ : ∃ ys, rdB s.1 (k : Int) = ys := ⟨_, rfl⟩
        rw [hys] at s1 s2 ⊢
        have zy : (ys != ys) = false := by simp
        replace hys := Lib.hid hys
        clear h12 hb12 HG11 HT11 B11 j0 j1 j2 j3 jg
        go_wp2_with fail
        go_meet
        exact B12.out
    · have g1 : 0 < x.toNat := by
        rcases Nat.eq_zero_or_pos x.toNat with h | h
        · exact absurd (UInt8.toNat.inj h) hx0
        · exact h
      have hne := hn1.out k h256 (by rintro ⟨h1, h2⟩; first | exact hx0 (by rw [hx.out] at h1; exact h1) | exact hy0 (by rw [hy.out] at h2; exact h2))
      have hrr := Lib.hid (rn.out (k : Int) (by omega) (by omega))
      clear hne
      go_wp2_with fail
      with_reducible refine (read_gen _ s.1 (k : Int) _ (HG10.out.at 9 rfl : Sto (Old w10) w10 _ s).parts.1 hms.out).mono ?_
      rintro e w11 ⟨E11, c11, rfl, h11, hb11⟩
      rw [show rdE (k : Int) = 0 by simp [rdE, thereB_of h256]]
      have HG11 := Lib.hid ((HG10.out.below hb11).add (F := OldB (.slice E11 (rdB s.1 (k : Int)).length c11) (rdB s.1 (k : Int))) h11 (lasts_oldB _ _))
      have HT11 := Lib.hid (HT10.out.below hb11)
      have B11 := Lib.hid (B10.out.trans (hb11.mono B10.out.size))
      clear hb11 h11
      obtain ⟨j0, j1, j2, j3, jg⟩ := HG11.out.at 3 rfl
      go_wp2_with fail
      with_reducible refine (read_gen _ T.1 (k : Int) _ HT11.out.parts.1 hmT.out).mono ?_
      rintro e w12 ⟨E12, c12, rfl, h12, hb12⟩
      rw [show rdE (k : Int) = 0 by simp [rdE, thereB_of h256]]
      rw [hrr.out] at h12 ⊢
      have B12 := Lib.hid (B11.out.trans (hb12.mono B11.out.size))
      have s1 := rBy_str0 ((HG11.out.below hb12).at 0 rfl : rBy (Old w12) w12 _ (rdB s.1 (k : Int)))
      have s2 := rBy_str0 h12
      obtain ⟨ys, hys⟩ : ∃ ys, rdB s.1 (k : Int) = ys := ⟨_, rfl⟩
      rw [hys] at s1 s2 ⊢
      have zy : (ys != ys) = false := by simp
      replace hys := Lib.hid hys
      clear h12 hb12 HG11 HT11 B11 j0 j1 j2 j3 jg
      go_wp2_with fail
      go_meet
      exact B12.out
  case rest =>
  obtain ⟨w9, rfl⟩ : ∃ w9 : World, w9 = wc := ⟨_, rfl⟩
  have HG9 := Lib.hid (HG8.out.below hcut)
  have B9 := Lib.hid (B8.out.trans (hcut.mono B8.out.size))
  clear hcut HG8 B8
  obtain ⟨k0, k1, k2, k3, kg⟩ := HG9.out.at 4 rfl
  obtain ⟨P, hP⟩ : ∃ P, shV s n = P := ⟨_, rfl⟩
  obtain ⟨e1, he1⟩ : ∃ e, shE s n = e := ⟨_, rfl⟩
  go_wp2_with fail
  with_reducible refine (shareR_open _ s n _ (HG9.out.at 7 rfl)).mono ?_
  rintro e w10 ⟨A10, a10, B10', b10, N10, n10, L10, l10, rfl, ht, hb10⟩
  rw [hP] at ht ⊢
  rw [he1]
  have HG10 := Lib.hid (HG9.out.below hb10)
  have B10 := Lib.hid (B9.out.trans (hb10.mono B9.out.size))
  obtain ⟨w11, hw11, f11, hs11, hb11⟩ := box_4 w10 (.slice A10 P.1.1.length a10) (.slice B10' P.1.2.length b10) (.slice N10 P.2.1.length n10) (.slice L10 P.2.2.length l10) 33
  have HP11 := Lib.hid (ht.drop.below hb11)
  obtain ⟨j0, j1, j2, j3, _, jg⟩ := four_cells f11
  have b11 := Lib.hid hb11
  replace f11 := Lib.hid f11
  replace hs11 := Lib.hid hs11
  clear hb10 hb11 ht HG9 B9 k0 k1 k2 k3 kg
  go_upto_region 17 with fail
  clear hw11
  obtain ⟨P2, hP2⟩ : ∃ P2, shV P m = P2 := ⟨_, rfl⟩
  obtain ⟨e2, he2⟩ : ∃ e, shE P m = e := ⟨_, rfl⟩
  go_wp2_with fail
  with_reducible refine (shareR_open _ P m _ HP11.out).mono ?_
  rintro e w12 ⟨A12, a12, B12', b12, N12, n12, L12, l12, rfl, ht, hb12⟩
  rw [hP2] at ht ⊢
  rw [he2]
  have f12 := (hb12.block w10.heap.size jg).trans f11.out
  obtain ⟨c0, c1, c2, c3, c4, _⟩ := four_cells f12
  obtain ⟨w13, hw13, f13, gr13, gs13⟩ := put_four (a' := .slice A12 P2.1.1.length a12) (b' := .slice B12' P2.1.2.length b12) (c' := .slice N12 P2.2.1.length n12) (d' := .slice L12 P2.2.2.length l12) f12
  have hb13 : Below w10.heap.size w10 w13 := (b11.out.trans (hb12.mono b11.out.size)).grown gr13 (Nat.le_trans b11.out.size hb12.size) (fun q e => by cases e; exact Nat.le_refl _)
  have HP13 := Lib.hid (ht.grown gr13 (fun q e => by cases e; exact jg)).drop
  have HG13 := Lib.hid (HG10.out.below hb13)
  have B13 := Lib.hid (B10.out.trans (hb13.mono B10.out.size))
  have g13 : Hid (Box4 w10.heap.size (.slice A12 P2.1.1.length a12) (.slice B12' P2.1.2.length b12) (.slice N12 P2.2.1.length n12) (.slice L12 P2.2.2.length l12) w13) := Lib.hid (by
    obtain ⟨d0, d1, d2, d3, _, dg⟩ := four_cells f13
    exact ⟨d0, d1, d2, d3, dg⟩)
  replace f12 := Lib.hid f12
  clear f13 gr13 gs13 hb13 hb12 ht HP11 HG10 B10 j0 j1 j2 j3 b11
  go_upto_region 18 with fail
  clear hw13 c0 c1 c2 c3 c4
  obtain ⟨k0, k1, k2, k3, kg⟩ := HG13.out.at 4 rfl
  obtain ⟨Q, hQ⟩ : ∃ Q, shV s m = Q := ⟨_, rfl⟩
  obtain ⟨d1, hd1⟩ : ∃ e, shE s m = e := ⟨_, rfl⟩
  go_wp2_with fail
  with_reducible refine (shareR_open _ s m _ (HG13.out.at 7 rfl)).mono ?_
  rintro e w14 ⟨A14, a14, B14', b14, N14, n14, L14, l14, rfl, ht, hb14⟩
  rw [hQ] at ht ⊢
  rw [hd1]
  have HP14 := Lib.hid (HP13.out.below hb14)
  have g14 := Lib.hid (lasts_box4 _ _ _ _ _ _ _ g13.out hb14)
  have B14 := Lib.hid (B13.out.trans (hb14.mono B13.out.size))
  obtain ⟨w15, hw15, f15, hs15, hb15⟩ := box_4 w14 (.slice A14 Q.1.1.length a14) (.slice B14' Q.1.2.length b14) (.slice N14 Q.2.1.length n14) (.slice L14 Q.2.2.length l14) 33
  have HQ15 := Lib.hid (ht.drop.below hb15)
  obtain ⟨j0, j1, j2, j3, _, jg'⟩ := four_cells f15
  have b15 := Lib.hid hb15
  replace f15 := Lib.hid f15
  replace hs15 := Lib.hid hs15
  clear hb14 hb15 ht HG13 B13 k0 k1 k2 k3 kg g13 HP13
  go_upto_region 19 with fail
  clear hw15
  obtain ⟨Q2, hQ2⟩ : ∃ Q2, shV Q n = Q2 := ⟨_, rfl⟩
  obtain ⟨d2, hd2⟩ : ∃ e, shE Q n = e := ⟨_, rfl⟩
  go_wp2_with fail
  with_reducible refine (shareR_open _ Q n _ HQ15.out).mono ?_
  rintro e w16 ⟨A16, a16, B16', b16, N16, n16, L16, l16, rfl, ht, hb16⟩
  rw [hQ2] at ht ⊢
  rw [hd2]
  have f16 := (hb16.block w14.heap.size jg').trans f15.out
  obtain ⟨c0, c1, c2, c3, c4, _⟩ := four_cells f16
  obtain ⟨w17, hw17, f17, gr17, gs17⟩ := put_four (a' := .slice A16 Q2.1.1.length a16) (b' := .slice B16' Q2.1.2.length b16) (c' := .slice N16 Q2.2.1.length n16) (d' := .slice L16 Q2.2.2.length l16) f16
  have hb17 : Below w14.heap.size w14 w17 := (b15.out.trans (hb16.mono b15.out.size)).grown gr17 (Nat.le_trans b15.out.size hb16.size) (fun q e => by cases e; exact Nat.le_refl _)
  have HQ17 := Lib.hid (ht.grown gr17 (fun q e => by cases e; exact jg')).drop
  have HP17 := Lib.hid (HP14.out.below hb17)
  have B17 := Lib.hid (B14.out.trans (hb17.mono B14.out.size))
  obtain ⟨k0, k1, k2, k3, kg⟩ := lasts_box4 _ _ _ _ _ _ _ g14.out hb17
  obtain ⟨i0, i1, i2, i3, _, ig⟩ := four_cells f17
  replace f16 := Lib.hid f16
  replace f17 := Lib.hid f17
  clear gr17 gs17 hb17 hb16 ht HQ15 HP14 B14 j0 j1 j2 j3 b15 g14
  go_upto_region 20 with fail
  clear hw17 c0 c1 c2 c3 c4
  by_cases hz1 : e1 = 0
  case neg =>
    have g1 : (e1 != 0) = true := by simpa using hz1
    clear hz1
    go_wp2_with fail
    go_ret
    exact ⟨rfl, B17.out⟩
  by_cases hz2 : d1 = 0
  case neg =>
    have g1 : (d1 != 0) = true := by simpa using hz2
    subst hz1
    clear hz2
    go_wp2_with fail
    go_ret
    exact ⟨rfl, B17.out⟩
  obtain ⟨o1, o2⟩ := sh_order (s := s) (n := n) (m := m) (by rw [he1]; exact hz1) (by rw [hd1]; exact hz2)
  rw [hP, hQ, he2, hd2] at o1
  rw [hP, hQ, he2, hP2, hQ2] at o2
  subst hz1
  subst hz2
  subst o1
  replace hP := Lib.hid hP
  replace hQ := Lib.hid hQ
  replace hP2 := Lib.hid hP2
  replace hQ2 := Lib.hid hQ2
  replace he1 := Lib.hid he1
  replace he2 := Lib.hid he2
  replace hd1 := Lib.hid hd1
  replace hd2 := Lib.hid hd2
  by_cases hz3 : e2 = 0
  · have ho := o2 hz3
    clear o2
    subst hz3
    subst ho
    go_wp2_with fail
    with_reducible refine (sameR_any _ _ P2 P2 _ HP17.out HQ17.out).mono ?_
    rintro e w18 ⟨rfl, hb18⟩
    rw [sameR_refl]
    go_wp2_with fail
    go_ret
    exact ⟨rfl, B17.out.trans (hb18.mono B17.out.size)⟩
  · have g1 : (e2 != 0) = true := by simpa using hz3
    clear o2 hz3
    go_wp2_with fail
    go_ret
    exact ⟨rfl, B17.out⟩

/-! ### The row's step -/
set_option maxRecDepth 100000 in
theorem lifted (os : Os) (started : os.Started) (H : Type) (enc : TypeId × Value → H) :
    ReturnsInHanded {} Try.checked os 7 .any (Rows.roomOrderSpec.pre6 enc Try.prog Try.f7 Rows.roomOrderRow.domain false) (Rows.roomOrderSpec.post enc Try.prog Try.f7 false true false false) := by
  refine returnsInHanded_of_change (C := Try.checked) own started (by kernel_rfl) Try.func7
    (ChangeSpec.witness6 (enc := enc) (C := Try.checked) false ⟨#[], #[.agg #[.slice none 0 0, .slice none 0 0, .slice none 0 0, .slice none 0 0], .slice none 0 0, .slice none 0 0, .int .i64 0, .int .i64 0], []⟩ 8 (by kernel_rfl) (by kernel_rfl) (by kernel_rfl) (by kernel_rfl)) ?_
  intro W base args ds gs before hval0 hW _ _
  have hval : ∀ (j : Nat) t v, Try.f7.params[j]? = some t → args[j]? = some v → Value.okWide Try.prog W .any base t v := hval0
  have hW' := hW
  obtain ⟨p, q, hA0, hV, _, _, _⟩ := hW
  have hA : DataW.TrodAll enc Try.prog W 0 (fun _ => true) true Try.f7.params.toList args.toList ds p := hA0
  rw [Try.params7] at hA hval
  obtain ⟨v0, vs0, d0, ds0, p0, q0, hargs, rfl, _, h0, r0⟩ := trodAll_cons hA
  obtain ⟨v1, vs1, d1, ds1, p1, q1, rfl, rfl, _, h1, r1⟩ := trodAll_cons r0
  obtain ⟨v2, vs2, d2, ds2, p2, q2, rfl, rfl, _, h2, r2⟩ := trodAll_cons r1
  obtain ⟨v3, vs3, d3, ds3, p3, q3, rfl, rfl, _, h3, r3⟩ := trodAll_cons r2
  obtain ⟨v4, vs4, d4, ds4, p4, q4, rfl, rfl, _, h4, r4⟩ := trodAll_cons r3
  obtain ⟨rfl, rfl, _⟩ := trodAll_nil r4
  obtain rfl : args = #[v0, v1, v2, v3, v4] := by cases args; simp_all
  obtain ⟨rfl, _⟩ := trodVars_none hV
  obtain ⟨d0x, y0⟩ := open_store (hval 0 33 v0 rfl rfl) h0
  obtain ⟨d1x, y1⟩ := open_by (hval 1 31 v1 rfl rfl) h1
  obtain ⟨d2x, y2⟩ := open_by (hval 2 31 v2 rfl rfl) h2
  obtain ⟨a3, rfl, _, _, w3⟩ := open_int Try.underlying3 (hval 3 3 v3 rfl rfl) h3
  obtain ⟨a4, rfl, _, _, w4⟩ := open_int Try.underlying3 (hval 4 3 v4 rfl rfl) h4
  clear hA0 hval0
  refine (walk v0 d0x v1 d1x v2 d2x a3 w3 a4 w4 W y0 y1 y2).mono fun e W' ⟨he, hb⟩ => ?_
  subst he
  exact ⟨_, rfl, law_post laidOut (by rw [Try.params7]; decide +kernel) (by kernel_rfl) Try.underlying4 rfl ⟨rfl, by simp [Rows.roomOrderSpec], rfl⟩ hW' hb⟩

theorem over : Rows.roomOrderRow.holds Try.pinned (OpenSpec.ofChange Rows.roomOrderSpec) :=
  OpenClaim.holds_of_wide 7 Try.f7 rfl rfl rfl rfl rfl rfl rfl ⟨rfl, rfl, rfl, rfl, rfl⟩ rfl rfl rfl rfl rfl (by kernel_rfl) Try.func7 (by kernel_rfl)
    (of_decide_eq_true (by kernel_rfl)) (by unfold Func.isWrapper; first | (rw [if_pos (by decide +kernel)]; kernel_rfl) | (rw [if_neg (by decide +kernel)]; exact ⟨rfl, rfl⟩))
    (fun os started H enc _ => lifted os started H enc)

end Go.Proofs.Ytjlbkcnhbndgbaa.roomOrder
namespace Go.Proofs.Ytjlbkcnhbndgbaa
theorem roomOrder_proved : Rows.RoomOrderSaid := roomOrder.over
end Go.Proofs.Ytjlbkcnhbndgbaa
