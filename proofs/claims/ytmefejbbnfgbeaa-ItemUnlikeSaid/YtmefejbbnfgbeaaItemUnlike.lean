/-
  For every two items ItemUnlike answers true and leaves its arguments as they were. No condition.
-/
import Derived.Test.YtmefejbbnfgbeaaBnd2
import Derived.StillTailTactics
import Derived.Deep.CutBlock
import Derived.Deep.CutRange
namespace Go.Proofs.Ytmefejbbnfgbeaa.itemUnlike
open Go.ChangeShapes Go.WideShapes Go.RowKit

theorem own : ownKnob Try.prog.godebug = none := by kernel_rfl
theorem laidOut : laidOutB Try.prog = true := by kernel_rfl

theorem rBy_take {ok : Addr → Prop} {w : World} {A : Option Addr} {n c : Nat} {xs : List UInt8} (h : rBy ok w [.slice A n c] xs) (m : Nat) (hm : m ≤ xs.length) : rBy ok w [.slice A m c] (xs.take m) := by
  obtain ⟨A', c', e, l1, l2, h4⟩ := h
  cases e
  have hl : (xs.take m).length = m := by simp; omega
  refine ⟨A, c, by rw [hl], by rw [hl]; omega, l2, fun i x hi => ?_⟩
  have him : i < m := by rw [← hl]; exact (List.getElem?_eq_some_iff.1 hi).1
  exact h4 i x (by rwa [List.getElem?_take_of_lt him] at hi)
theorem rBy_some {ok : Addr → Prop} {w : World} {A : Option Addr} {n c : Nat} {xs : List UInt8} (h : rBy ok w [.slice A n c] xs) (hn : 0 < n) : (∃ ad, A = some ad) ∧ n ≤ c ∧ c ≤ 9223372036854775807 := by
  obtain ⟨A', c', e, l1, l2, h4⟩ := h
  cases e
  obtain ⟨ad, _, e, _⟩ := h4 0 _ (List.getElem?_eq_getElem hn)
  exact ⟨⟨ad, e⟩, l1, l2⟩
theorem may_parts (r : Int) (n : Nat) (k : Ky) (v : List UInt8) (hn : v.length = n) : mayI (k, r, v) = ((decide (r = 0) || (decide (8 ≤ r) && decide (r ≤ 255))) && decide (n ≤ 12)) := by
  subst hn
  unfold mayI
  have : (decide (r < 256)) = decide (r ≤ 255) := by rw [Bool.eq_iff_iff]; simp; omega
  rw [this]
set_option maxRecDepth 100000 in
set_option maxHeartbeats 8000000 in
theorem walk (v : Value) (x : It) (u : Value) (y : It) (w : World) (hv : Itm (Old w) w v x) (hu : Itm (Old w) w u y) :
    Calls Try.prog 7 #[v, u] w fun e w' => e = .returned (.bool true) ∧ Below w.heap.size w w' := by
  obtain ⟨A, c, rfl, ix, l1, m1, _⟩ := hv.open
  obtain ⟨B, d, rfl, iy, l2, m2, _⟩ := hu.open
  have IX := Lib.hid ix
  have IY := Lib.hid iy
  obtain ⟨k1, r1, v1⟩ := x
  obtain ⟨k2, r2, v2⟩ := y
  have G0 := ((Bag.nil w).add (F := OldI _ _) hv (lasts_oldI _ _)).add (F := OldI _ _) hu (lasts_oldI _ _)
  obtain ⟨w1, hw1, G1, B1, _, s1⟩ := bag_item G0 (Below.refl _ _) (.int .u8 (k1.1.toNat : Int)) (.int .u32 k1.2.1) (.int .u32 k1.2.2) (.int .i64 r1) (.slice A v1.length c)
  obtain ⟨w2, hw2, G2, B2, _, s2⟩ := bag_item G1 (Below.refl _ _) (.int .u8 (k2.1.toNat : Int)) (.int .u32 k2.2.1) (.int .u32 k2.2.2) (.int .i64 r2) (.slice B v2.length d)
  have BB := Lib.hid (B1.trans (B2.mono B1.size))
  have HG := Lib.hid G2
  replace hw2 := Lib.hid hw2
  unfold itV at *
  dsimp only at *
  clear G0 G1 G2 B1 B2 s1 s2 hv hu ix iy
  go_enter Try.func7, Try.ntmps7
  go_upto_region 1 with fail
  rw [hw2.out]
  clear hw1 hw2
  go_wp2_with fail
  with_reducible refine (alive5 _).mono ?_
  rintro e3 w3 ⟨rfl, hb3⟩
  replace HG := Lib.hid (HG.out.below hb3)
  replace BB := Lib.hid (BB.out.trans (hb3.mono BB.out.size))
  clear hb3
  obtain ⟨n1, hn1⟩ : ∃ n, v1.length = n := ⟨_, rfl⟩
  obtain ⟨n2, hn2⟩ : ∃ n, v2.length = n := ⟨_, rfl⟩
  have HM := Lib.hid (may_parts r1 n1 k1 v1 hn1)
  rw [hn1] at l1 HG ⊢
  rw [hn2] at l2 HG ⊢
  obtain ⟨x1, x2, x3, x4, x5, _⟩ := HG.out.at 1 rfl
  obtain ⟨y1, y2, y3, y4, y5, _⟩ := HG.out.at 0 rfl
  by_cases b1 : 10000 < n1
  · have j1 : (10000 : Int) < n1 := by omega
    replace hn1 := Lib.hid hn1
    replace hn2 := Lib.hid hn2
    go_wp2_with fail
    go_ret
    exact ⟨rfl, BB.out⟩
  by_cases b2 : 10000 < n2
  · have j1 : ¬ (10000 : Int) < n1 := by omega
    have j2 : (10000 : Int) < n2 := by omega
    replace hn1 := Lib.hid hn1
    replace hn2 := Lib.hid hn2
    go_wp2_with fail
    go_ret
    exact ⟨rfl, BB.out⟩
  have j1 : ¬ (10000 : Int) < n1 := by omega
  have j2 : ¬ (10000 : Int) < n2 := by omega
  replace hn1 := Lib.hid hn1
  replace hn2 := Lib.hid hn2
  have HX : Hid (Itm (Old w3) w3 _ (k1, r1, v1)) := Lib.hid (HG.out.at 3 rfl)
  go_wp2_with fail
  with_reducible refine (itWrite_any _ (k1, r1, v1) _ HX.out).mono ?_
  rintro e4 w4 ⟨a, rfl, ha, hb4⟩
  replace HG := Lib.hid ((HG.out.below hb4).add (F := OldB _ _) (stab_by.drop ha) (lasts_oldB _ _))
  replace BB := Lib.hid (BB.out.trans (hb4.mono BB.out.size))
  obtain ⟨T, tc, rfl, _, _, _⟩ := id (rBy_open ha)
  clear x1 x2 x3 x4 x5 y1 y2 y3 y4 y5 ha hb4 HX
  obtain ⟨y1, y2, y3, y4, y5, _⟩ := HG.out.at 1 rfl
  obtain ⟨x1, x2, x3, x4, x5, _⟩ := HG.out.at 2 rfl
  have HY : Hid (Itm (Old w4) w4 _ (k2, r2, v2)) := Lib.hid (HG.out.at 3 rfl)
  go_wp2_with fail
  with_reducible refine (itWrite_any _ (k2, r2, v2) _ HY.out).mono ?_
  rintro e5 w5 ⟨b, rfl, hb, hb5⟩
  replace HG := Lib.hid ((HG.out.below hb5).add (F := OldB _ _) (stab_by.drop hb) (lasts_oldB _ _))
  replace BB := Lib.hid (BB.out.trans (hb5.mono BB.out.size))
  obtain ⟨U, uc, rfl, _, _, _⟩ := id (rBy_open hb)
  clear x1 x2 x3 x4 x5 y1 y2 y3 y4 y5 hb hb5 HY
  obtain ⟨y1, y2, y3, y4, y5, _⟩ := HG.out.at 2 rfl
  obtain ⟨x1, x2, x3, x4, x5, _⟩ := HG.out.at 3 rfl
  have HX : Hid (Itm (Old w5) w5 _ (k1, r1, v1)) := Lib.hid (HG.out.at 5 rfl)
  obtain ⟨e1, he1⟩ : ∃ e, chkI (k1, r1, v1) = e := ⟨_, rfl⟩
  obtain ⟨e2, he2⟩ : ∃ e, chkI (k2, r2, v2) = e := ⟨_, rfl⟩
  rw [he1, he2]
  replace he1 := Lib.hid he1
  replace he2 := Lib.hid he2
  have hla0 : (wrI (k1, r1, v1)).length = (wrI (k1, r1, v1)).length := rfl
  obtain ⟨la, hla⟩ : ∃ n, (wrI (k1, r1, v1)).length = n := ⟨_, rfl⟩
  obtain ⟨lb, hlb⟩ : ∃ n, (wrI (k2, r2, v2)).length = n := ⟨_, rfl⟩
  rw [hla, hlb] at HG ⊢
  clear hla0
  replace hla := Lib.hid hla
  replace hlb := Lib.hid hlb
  have hway := may_ways (k1, r1, v1) n1 hn1.out
  dsimp only at hway
  have Bad : Hid (mayI (k1, r1, v1) = false → e1 = 8) := Lib.hid fun h => by rw [← he1.out]; exact chkI_bad h
  have Good : Hid (mayI (k1, r1, v1) = true → e1 = 0) := Lib.hid fun h => by rw [← he1.out]; exact chkI_ok h
  go_upto_region 6 with fail
  go_cut [0, 1, 62] (fun _ _ p wx => p = .bool false ∧ Below w5.heap.size w5 wx)
  case first =>
    go_wp2_with fail
    with_reducible refine (checkI_any _ (k1, r1, v1) _ HX.out).mono ?_
    rintro e6 w6 ⟨rfl, hb6⟩
    rw [he1.out]
    have HG6 := Lib.hid (HG.out.below hb6)
    have B6 := Lib.hid hb6
    clear x1 x2 x3 x4 x5 y1 y2 y3 y4 y5 hb6 HX
    obtain ⟨x1, x2, x3, x4, x5, _⟩ := HG6.out.at 3 rfl
    rcases hway with ⟨h1, h2, hm⟩ | ⟨h1, h2, hm⟩ | ⟨h1, h2, hm⟩ | ⟨h1, h2, h3, hm⟩ | ⟨h1, h2, h3, h4, hm⟩ | ⟨h1, h2, h3, h4, hm⟩
    · have h0 := Good.out hm
      have t1 : (n1 : Int) ≤ 12 := by omega
      clear Bad Good
      replace hm := Lib.hid hm
      subst h0
      subst h1
      go_wp2_with fail
      go_meet
      exact ⟨by first | rfl | (congr 1; simp; omega), B6.out⟩
    · have h8 := Bad.out hm
      have t1 : ¬ (n1 : Int) ≤ 12 := by omega
      clear Bad Good
      replace hm := Lib.hid hm
      subst h8
      subst h1
      go_wp2_with fail
      go_meet
      exact ⟨by first | rfl | (congr 1; simp; omega), B6.out⟩
    · have h8 := Bad.out hm
      have t0 : (r1 == 0) = false := by simpa using h1
      have t1 : ¬ 8 ≤ r1 := by omega
      clear Bad Good h1
      replace hm := Lib.hid hm
      subst h8
      go_wp2_with fail
      go_meet
      exact ⟨by first | rfl | (congr 1; simp; omega), B6.out⟩
    · have h8 := Bad.out hm
      have t0 : (r1 == 0) = false := by simpa using h1
      have t1 : 8 ≤ r1 := by omega
      have t2 : ¬ r1 ≤ 255 := by omega
      clear Bad Good h1
      replace hm := Lib.hid hm
      subst h8
      go_wp2_with fail
      go_meet
      exact ⟨by first | rfl | (congr 1; simp; omega), B6.out⟩
    · have h0 := Good.out hm
      have t0 : (r1 == 0) = false := by simpa using h1
      have t1 : 8 ≤ r1 := by omega
      have t2 : r1 ≤ 255 := by omega
      have t3 : (n1 : Int) ≤ 12 := by omega
      clear Bad Good h1
      replace hm := Lib.hid hm
      subst h0
      go_wp2_with fail
      go_meet
      exact ⟨by first | rfl | (congr 1; simp; omega), B6.out⟩
    · have h8 := Bad.out hm
      have t0 : (r1 == 0) = false := by simpa using h1
      have t1 : 8 ≤ r1 := by omega
      have t2 : r1 ≤ 255 := by omega
      have t3 : ¬ (n1 : Int) ≤ 12 := by omega
      clear Bad Good h1
      replace hm := Lib.hid hm
      subst h8
      go_wp2_with fail
      go_meet
      exact ⟨by first | rfl | (congr 1; simp; omega), B6.out⟩
  case rest =>
  obtain ⟨rfl, hb6⟩ := hcut
  obtain ⟨w6, rfl⟩ : ∃ w6 : World, w6 = wc := ⟨_, rfl⟩
  replace HG := Lib.hid (HG.out.below hb6)
  replace BB := Lib.hid (BB.out.trans (hb6.mono BB.out.size))
  clear x1 x2 x3 x4 x5 y1 y2 y3 y4 y5 hb6 HX hway HM
  rcases bool_ways (mayI (k1, r1, v1)) with hm | hm
  · have h8 := Bad.out hm
    subst h8
    clear Bad Good
    replace hm := Lib.hid hm
    go_wp2_with fail
    go_ret
    exact ⟨rfl, BB.out⟩
  have h0 := Good.out hm
  subst h0
  clear Bad Good
  have hmx := mayI_of hm
  have h12 : n1 ≤ 12 := by rw [← hn1.out]; exact hmx.2
  clear hmx
  have hwx := Lib.hid (show wrI (k1, r1, v1) = itB (k1, r1, v1) by simp [wrI, hm])
  have hlx : la = 12 + n1 := by rw [← hla.out, hwx.out, itB_length, ← hn1.out]
  have MX := Lib.hid hm
  clear hm
  rcases bool_ways (mayI (k2, r2, v2)) with hm | hm
  · have h8 : e2 = 8 := by rw [← he2.out]; exact chkI_bad hm
    subst h8
    replace hm := Lib.hid hm
    go_wp2_with fail
    go_ret
    exact ⟨rfl, BB.out⟩
  have h0 : e2 = 0 := by rw [← he2.out]; exact chkI_ok hm
  subst h0
  have hwy := Lib.hid (show wrI (k2, r2, v2) = itB (k2, r2, v2) by simp [wrI, hm])
  have MY := Lib.hid hm
  have hmy := mayI_of hm
  have h22 : n2 ≤ 12 := by rw [← hn2.out]; exact hmy.2
  clear hmy hm
  have hly : lb = 12 + n2 := by rw [← hlb.out, hwy.out, itB_length, ← hn2.out]
  obtain ⟨S, hS⟩ : ∃ S, sameI (k1, r1, v1) (k2, r2, v2) = S := ⟨_, rfl⟩
  have hq : (wrI (k1, r1, v1) == wrI (k2, r2, v2)) = S := by rw [beq_dec, hwx.out, hwy.out, ← hS]; exact itB_bytes IX.out IY.out MX.out MY.out
  have hpre : Hid (∀ m, m = min la lb → la ≠ lb → ((wrI (k1, r1, v1)).take m == (wrI (k2, r2, v2)).take m) = false) := Lib.hid fun m hm hne => by
    rw [beq_dec, hwx.out, hwy.out]
    refine decide_eq_false fun h => hne ?_
    rw [← hla.out, ← hlb.out, hwx.out, hwy.out]
    exact itB_prefix IX.out IY.out MX.out MY.out (by rw [hm, ← hla.out, ← hlb.out, hwx.out, hwy.out]) h
  obtain ⟨⟨ta, rfl⟩, lta, ltc⟩ := rBy_some (HG.out.at 1 rfl : rBy (Old w6) w6 [.slice T la tc] (wrI (k1, r1, v1))) (by omega)
  obtain ⟨⟨ua, rfl⟩, lua, luc⟩ := rBy_some (HG.out.at 0 rfl : rBy (Old w6) w6 [.slice U lb uc] (wrI (k2, r2, v2))) (by omega)
  replace hS := Lib.hid hS
  have la12 : la ≤ 24 := by omega
  have lb12 : lb ≤ 24 := by omega
  have q2 : (S != S) = false := by simp
  have q3 : IntKind.i64.wrap (12 + (n1 : Int)) = la := by rw [IntKind.wrap_i64]; omega
  replace hlx := Lib.hid hlx
  replace hly := Lib.hid hly
  go_upto_region 10 with fail
  refine wp_region_fx (by kernel_rfl) (fun W => Below w6.heap.size w6 W) (fun _ => none) (fun i => match i with
      | 15 => some (.bool S)
      | _ => none) (by kernel_rfl) (Below.refl _ _).drew (fun w w' h hb => h.trans (hb.mono h.size)) (fun j φ x w w' hp => by cases hp) ?_
  repeat (first
    | (refine wpAs_skip rfl ?_; simp only [Act.put, List.setIfInBounds_toArray, List.set_cons_zero, List.set_cons_succ])
    | (refine wpAs_pure (v := ?_) rfl rfl ?_ ?_; rotate_left; (intro W hC hE; clear hE; (have HW := HG.out.below hC; obtain ⟨x1, x2, x3, x4, x5, _⟩ := HW.at 3 rfl; clear HW); clear hC; go_simp; done); simp only [Act.put, List.setIfInBounds_toArray, List.set_cons_zero, List.set_cons_succ])
    | (refine wpAs_pure (v := ?_) rfl rfl ?_ ?_; rotate_left; (intro W hC hE; clear hE; (have HW := HG.out.below hC; obtain ⟨x1, x2, x3, x4, x5, _⟩ := HW.at 3 rfl; clear HW); clear hC; go_simp; with_reducible rfl); simp only [Act.put, List.setIfInBounds_toArray, List.set_cons_zero, List.set_cons_succ]))
  refine wpAs_pure (v := .string ⟨(wrI (k1, r1, v1)).toArray⟩) rfl rfl ?_ ?_
  · intro W hC hE
    have h : rBy (Old W) W [.slice (some ta) la tc] (wrI (k1, r1, v1)) := (HG.out.below hC).at 1 rfl
    have hs := rBy_str0 h
    clear h hC hE
    refine run_convert_op (v := .slice (some ta) la tc) _ _ _ rfl ?_ hs
    first | rfl | (simp; done) | (go_simp; done)
  simp only [Act.put, List.setIfInBounds_toArray, List.set_cons_zero, List.set_cons_succ]
  repeat (first
    | (refine wpAs_skip rfl ?_; simp only [Act.put, List.setIfInBounds_toArray, List.set_cons_zero, List.set_cons_succ])
    | (refine wpAs_pure (v := ?_) rfl rfl ?_ ?_; rotate_left; (intro W hC hE; clear hE; skip; clear hC; go_simp; done); simp only [Act.put, List.setIfInBounds_toArray, List.set_cons_zero, List.set_cons_succ])
    | (refine wpAs_pure (v := ?_) rfl rfl ?_ ?_; rotate_left; (intro W hC hE; clear hE; skip; clear hC; go_simp; with_reducible rfl); simp only [Act.put, List.setIfInBounds_toArray, List.set_cons_zero, List.set_cons_succ]))
  refine wpAs_pure (v := .string ⟨(wrI (k2, r2, v2)).toArray⟩) rfl rfl ?_ ?_
  · intro W hC hE
    have h : rBy (Old W) W [.slice (some ua) lb uc] (wrI (k2, r2, v2)) := (HG.out.below hC).at 0 rfl
    have hs := rBy_str0 h
    clear h hC hE
    refine run_convert_op (v := .slice (some ua) lb uc) _ _ _ rfl ?_ hs
    first | rfl | (simp; done) | (go_simp; done)
  simp only [Act.put, List.setIfInBounds_toArray, List.set_cons_zero, List.set_cons_succ]
  repeat (first
    | (refine wpAs_skip rfl ?_; simp only [Act.put, List.setIfInBounds_toArray, List.set_cons_zero, List.set_cons_succ])
    | (refine wpAs_pure (v := ?_) rfl rfl ?_ ?_; rotate_left; (intro W hC hE; clear hE; (have HW := HG.out.below hC; obtain ⟨x1, x2, x3, x4, x5, _⟩ := HW.at 3 rfl; obtain ⟨y1, y2, y3, y4, y5, _⟩ := HW.at 2 rfl; clear HW); clear hC; go_simp; done); simp only [Act.put, List.setIfInBounds_toArray, List.set_cons_zero, List.set_cons_succ])
    | (refine wpAs_pure (v := ?_) rfl rfl ?_ ?_; rotate_left; (intro W hC hE; clear hE; (have HW := HG.out.below hC; obtain ⟨x1, x2, x3, x4, x5, _⟩ := HW.at 3 rfl; obtain ⟨y1, y2, y3, y4, y5, _⟩ := HW.at 2 rfl; clear HW); clear hC; go_simp; with_reducible rfl); simp only [Act.put, List.setIfInBounds_toArray, List.set_cons_zero, List.set_cons_succ]))
  refine wpAs_fixed rfl rfl rfl ?_ ?_
  · intro W hC hE
    clear hE
    refine does_enter (f := 19) (args := #[itV (k1, r1, v1) (.slice A n1 c), itV (k2, r2, v2) (.slice B n2 d)]) ?_ ?_
    · clear hC
      go_simp
    · have HW := HG.out.below hC
      refine (sameI_any _ _ _ _ _ (HW.at 5 rfl : Itm (Old W) W _ (k1, r1, v1)) (HW.at 4 rfl : Itm (Old W) W _ (k2, r2, v2))).mono ?_
      rintro e w' ⟨rfl, hg⟩
      rw [hS.out]
      exact ⟨_, rfl, rfl, hg⟩
  simp only [Act.put, List.setIfInBounds_toArray, List.set_cons_zero, List.set_cons_succ]
  repeat (first
    | (refine wpAs_skip rfl ?_; simp only [Act.put, List.setIfInBounds_toArray, List.set_cons_zero, List.set_cons_succ])
    | (refine wpAs_pure (v := ?_) rfl rfl ?_ ?_; rotate_left; (intro W hC hE; clear hE; skip; clear hC; go_simp; done); simp only [Act.put, List.setIfInBounds_toArray, List.set_cons_zero, List.set_cons_succ])
    | (refine wpAs_pure (v := ?_) rfl rfl ?_ ?_; rotate_left; (intro W hC hE; clear hE; skip; clear hC; go_simp; with_reducible rfl); simp only [Act.put, List.setIfInBounds_toArray, List.set_cons_zero, List.set_cons_succ]))
  refine wpAs_end fun W hC hE => ?_
  clear hE
  replace HG := Lib.hid (HG.out.below hC)
  replace BB := Lib.hid (BB.out.trans (hC.mono BB.out.size))
  clear hC
  obtain ⟨m, hm⟩ : ∃ m, m = min la lb := ⟨_, rfl⟩
  have hma : m ≤ la := by omega
  have hmb : m ≤ lb := by omega
  have hpm := Lib.hid (hpre.out m hm)
  have ha9 : Hid (rBy (Old W) W [.slice (some ta) m tc] ((wrI (k1, r1, v1)).take m)) := Lib.hid (rBy_take (HG.out.at 1 rfl : rBy (Old W) W [.slice (some ta) la tc] (wrI (k1, r1, v1))) m (by rw [hla.out]; exact hma))
  have hb9 : Hid (rBy (Old W) W [.slice (some ua) m uc] ((wrI (k2, r2, v2)).take m)) := Lib.hid (rBy_take (HG.out.at 0 rfl : rBy (Old W) W [.slice (some ua) lb uc] (wrI (k2, r2, v2))) m (by rw [hlb.out]; exact hmb))
  have c1 : (0 : Int) ≤ m := by omega
  have c2 : (m : Int) ≤ tc := by omega
  have c3 : (m : Int) ≤ uc := by omega
  have hway2 : (la ≤ lb ∧ m = la) ∨ (lb < la ∧ m = lb) := by omega
  clear q2 q3 hq hpre
  go_upto_region 12 with fail
  go_cut [0, 1, 10] (fun _ _ p wx => p = .int .i64 (m : Int) ∧ wx = W)
  case first =>
    clear ha9 hb9 hpm
    rcases hway2 with ⟨g1, g3⟩ | ⟨g1, g3⟩
    · have g2 : ¬ (lb : Int) < la := by omega
      replace hm := Lib.hid hm
      replace g3 := Lib.hid g3
      go_wp2_with fail
      go_meet
      exact ⟨by rw [g3.out], rfl⟩
    · have g2 : (lb : Int) < la := by omega
      replace hm := Lib.hid hm
      replace g3 := Lib.hid g3
      go_wp2_with fail
      go_meet
      exact ⟨by rw [g3.out], rfl⟩
  case rest =>
  obtain ⟨rfl, hwc⟩ := hcut
  subst hwc
  replace hm := Lib.hid hm
  clear hway2
  generalize (wrI (k1, r1, v1)).take m = xs at *
  generalize (wrI (k2, r2, v2)).take m = ys at *
  have hla2 : (la = lb) ∨ (la ≠ lb) := by omega
  replace hlx := Lib.hid hlx
  obtain ⟨Q, hQ⟩ : ∃ Q, (xs == ys) = Q := ⟨_, rfl⟩
  rw [hQ] at hpm
  have hQ' : (xs != ys) = !Q := by rw [← hQ]; rfl
  have BB2 : Hid (Below w.heap.size w wc) := BB
  have HA : Hid (∀ W', Below wc.heap.size wc W' → rBy (Old W') W' [.slice (some ta) m tc] xs) := Lib.hid fun W' hW => stab_by.old ha9.out hW
  have HBB : Hid (∀ W', Below wc.heap.size wc W' → rBy (Old W') W' [.slice (some ua) m uc] ys) := Lib.hid fun W' hW => stab_by.old hb9.out hW
  clear ha9 hb9
  have hcases : (Q = false) ∨ (Q = true ∧ (la : Int) = lb) := by
    rcases bool_ways Q with h | h
    · exact Or.inl h
    · refine Or.inr ⟨h, ?_⟩
      rcases hla2 with h2 | h2
      · omega
      · rw [hpm.out h2] at h; cases h
  clear hpm hla2
  rcases hcases with hq9 | ⟨hq9, hll⟩
  · subst hq9
    go_upto_region 13 with fail
    refine wp_region_as (by kernel_rfl) (fun W' => Below wc.heap.size wc W') (fun _ => none) (by kernel_rfl) (Below.refl _ _).drew (fun w w' h hb => h.trans (hb.mono h.size)) (fun j φ x w w' hp => by cases hp) ?_
    repeat (first
      | (refine wpAs_skip rfl ?_; simp only [Act.put, List.setIfInBounds_toArray, List.set_cons_zero, List.set_cons_succ])
      | (refine wpAs_pure (v := ?_) rfl rfl ?_ ?_; rotate_left; (intro W hC hE; clear hE; skip; clear hC; go_simp; done); simp only [Act.put, List.setIfInBounds_toArray, List.set_cons_zero, List.set_cons_succ])
      | (refine wpAs_pure (v := ?_) rfl rfl ?_ ?_; rotate_left; (intro W hC hE; clear hE; skip; clear hC; go_simp; with_reducible rfl); simp only [Act.put, List.setIfInBounds_toArray, List.set_cons_zero, List.set_cons_succ]))
    refine wpAs_pure (v := .string ⟨(xs).toArray⟩) rfl rfl ?_ ?_
    · intro W hC hE
      have h : rBy (Old W) W [.slice (some ta) m tc] (xs) := HA.out W hC
      have hs := rBy_str0 h
      clear h hC hE
      refine run_convert_op (v := .slice (some ta) m tc) _ _ _ rfl ?_ hs
      first | rfl | (simp; done) | (go_simp; done)
    simp only [Act.put, List.setIfInBounds_toArray, List.set_cons_zero, List.set_cons_succ]
    repeat (first
      | (refine wpAs_skip rfl ?_; simp only [Act.put, List.setIfInBounds_toArray, List.set_cons_zero, List.set_cons_succ])
      | (refine wpAs_pure (v := ?_) rfl rfl ?_ ?_; rotate_left; (intro W hC hE; clear hE; skip; clear hC; go_simp; done); simp only [Act.put, List.setIfInBounds_toArray, List.set_cons_zero, List.set_cons_succ])
      | (refine wpAs_pure (v := ?_) rfl rfl ?_ ?_; rotate_left; (intro W hC hE; clear hE; skip; clear hC; go_simp; with_reducible rfl); simp only [Act.put, List.setIfInBounds_toArray, List.set_cons_zero, List.set_cons_succ]))
    refine wpAs_pure (v := .string ⟨(ys).toArray⟩) rfl rfl ?_ ?_
    · intro W hC hE
      have h : rBy (Old W) W [.slice (some ua) m uc] (ys) := HBB.out W hC
      have hs := rBy_str0 h
      clear h hC hE
      refine run_convert_op (v := .slice (some ua) m uc) _ _ _ rfl ?_ hs
      first | rfl | (simp; done) | (go_simp; done)
    simp only [Act.put, List.setIfInBounds_toArray, List.set_cons_zero, List.set_cons_succ]
    repeat (first
      | (refine wpAs_skip rfl ?_; simp only [Act.put, List.setIfInBounds_toArray, List.set_cons_zero, List.set_cons_succ])
      | (refine wpAs_pure (v := ?_) rfl rfl ?_ ?_; rotate_left; (intro W hC hE; clear hE; skip; clear hC; go_simp; done); simp only [Act.put, List.setIfInBounds_toArray, List.set_cons_zero, List.set_cons_succ])
      | (refine wpAs_pure (v := ?_) rfl rfl ?_ ?_; rotate_left; (intro W hC hE; clear hE; skip; clear hC; go_simp; with_reducible rfl); simp only [Act.put, List.setIfInBounds_toArray, List.set_cons_zero, List.set_cons_succ]))
    refine wpAs_end fun W hC hE => ?_
    clear hE
    go_wp2
    go_ret
    exact ⟨rfl, BB2.out.trans (hC.mono BB2.out.size)⟩
  · subst hq9
    have t9 : ((la : Int) == lb) = true := by simpa using hll
    clear hll
    go_upto_region 13 with fail
    refine wp_region_as (by kernel_rfl) (fun W' => Below wc.heap.size wc W') (fun _ => none) (by kernel_rfl) (Below.refl _ _).drew (fun w w' h hb => h.trans (hb.mono h.size)) (fun j φ x w w' hp => by cases hp) ?_
    repeat (first
      | (refine wpAs_skip rfl ?_; simp only [Act.put, List.setIfInBounds_toArray, List.set_cons_zero, List.set_cons_succ])
      | (refine wpAs_pure (v := ?_) rfl rfl ?_ ?_; rotate_left; (intro W hC hE; clear hE; skip; clear hC; go_simp; done); simp only [Act.put, List.setIfInBounds_toArray, List.set_cons_zero, List.set_cons_succ])
      | (refine wpAs_pure (v := ?_) rfl rfl ?_ ?_; rotate_left; (intro W hC hE; clear hE; skip; clear hC; go_simp; with_reducible rfl); simp only [Act.put, List.setIfInBounds_toArray, List.set_cons_zero, List.set_cons_succ]))
    refine wpAs_pure (v := .string ⟨(xs).toArray⟩) rfl rfl ?_ ?_
    · intro W hC hE
      have h : rBy (Old W) W [.slice (some ta) m tc] (xs) := HA.out W hC
      have hs := rBy_str0 h
      clear h hC hE
      refine run_convert_op (v := .slice (some ta) m tc) _ _ _ rfl ?_ hs
      first | rfl | (simp; done) | (go_simp; done)
    simp only [Act.put, List.setIfInBounds_toArray, List.set_cons_zero, List.set_cons_succ]
    repeat (first
      | (refine wpAs_skip rfl ?_; simp only [Act.put, List.setIfInBounds_toArray, List.set_cons_zero, List.set_cons_succ])
      | (refine wpAs_pure (v := ?_) rfl rfl ?_ ?_; rotate_left; (intro W hC hE; clear hE; skip; clear hC; go_simp; done); simp only [Act.put, List.setIfInBounds_toArray, List.set_cons_zero, List.set_cons_succ])
      | (refine wpAs_pure (v := ?_) rfl rfl ?_ ?_; rotate_left; (intro W hC hE; clear hE; skip; clear hC; go_simp; with_reducible rfl); simp only [Act.put, List.setIfInBounds_toArray, List.set_cons_zero, List.set_cons_succ]))
    refine wpAs_pure (v := .string ⟨(ys).toArray⟩) rfl rfl ?_ ?_
    · intro W hC hE
      have h : rBy (Old W) W [.slice (some ua) m uc] (ys) := HBB.out W hC
      have hs := rBy_str0 h
      clear h hC hE
      refine run_convert_op (v := .slice (some ua) m uc) _ _ _ rfl ?_ hs
      first | rfl | (simp; done) | (go_simp; done)
    simp only [Act.put, List.setIfInBounds_toArray, List.set_cons_zero, List.set_cons_succ]
    repeat (first
      | (refine wpAs_skip rfl ?_; simp only [Act.put, List.setIfInBounds_toArray, List.set_cons_zero, List.set_cons_succ])
      | (refine wpAs_pure (v := ?_) rfl rfl ?_ ?_; rotate_left; (intro W hC hE; clear hE; skip; clear hC; go_simp; done); simp only [Act.put, List.setIfInBounds_toArray, List.set_cons_zero, List.set_cons_succ])
      | (refine wpAs_pure (v := ?_) rfl rfl ?_ ?_; rotate_left; (intro W hC hE; clear hE; skip; clear hC; go_simp; with_reducible rfl); simp only [Act.put, List.setIfInBounds_toArray, List.set_cons_zero, List.set_cons_succ]))
    refine wpAs_end fun W hC hE => ?_
    clear hE
    go_wp2
    go_ret
    exact ⟨rfl, BB2.out.trans (hC.mono BB2.out.size)⟩

/-! ### The row's step -/
set_option maxRecDepth 100000 in
theorem lifted (os : Os) (started : os.Started) (H : Type) (enc : TypeId × Value → H) :
    ReturnsInHanded {} Try.checked os 7 .any (Rows.itemUnlikeSpec.pre6 enc Try.prog Try.f7 Rows.itemUnlikeRow.domain false) (Rows.itemUnlikeSpec.post enc Try.prog Try.f7 false true false false) := by
  refine returnsInHanded_of_change (C := Try.checked) own started (by kernel_rfl) Try.func7
    (ChangeSpec.witness6 (enc := enc) (C := Try.checked) false ⟨#[], #[.agg #[.int .u8 0, .int .u32 0, .int .u32 0, .int .i64 0, .slice none 0 0], .agg #[.int .u8 0, .int .u32 0, .int .u32 0, .int .i64 0, .slice none 0 0]], []⟩ 8 (by kernel_rfl) (by kernel_rfl) (by kernel_rfl) (by kernel_rfl)) ?_
  intro W base args ds gs before hval0 hW _ _
  have hval : ∀ (j : Nat) t v, Try.f7.params[j]? = some t → args[j]? = some v → Value.okWide Try.prog W .any base t v := hval0
  have hW' := hW
  obtain ⟨p, q, hA0, hV, _, _, _⟩ := hW
  have hA : DataW.TrodAll enc Try.prog W 0 (fun _ => true) true Try.f7.params.toList args.toList ds p := hA0
  rw [Try.params7] at hA hval
  obtain ⟨v0, vs0, d0, ds0, p0, q0, hargs, rfl, _, h0, r0⟩ := trodAll_cons hA
  obtain ⟨v1, vs1, d1, ds1, p1, q1, rfl, rfl, _, h1, r1⟩ := trodAll_cons r0
  obtain ⟨rfl, rfl, _⟩ := trodAll_nil r1
  obtain rfl : args = #[v0, v1] := by cases args; simp_all
  obtain ⟨rfl, _⟩ := trodVars_none hV
  obtain ⟨d0x, y0⟩ := open_item (hval 0 27 v0 rfl rfl) h0
  obtain ⟨d1x, y1⟩ := open_item (hval 1 27 v1 rfl rfl) h1
  clear hA0 hval0
  refine (walk v0 d0x v1 d1x W y0 y1).mono fun e W' ⟨he, hb⟩ => ?_
  subst he
  exact ⟨_, rfl, law_post laidOut (by rw [Try.params7]; decide +kernel) (by kernel_rfl) Try.underlying4 rfl ⟨rfl, by simp [Rows.itemUnlikeSpec], rfl⟩ hW' hb⟩

theorem over : Rows.itemUnlikeRow.holds Try.pinned (OpenSpec.ofChange Rows.itemUnlikeSpec) :=
  OpenClaim.holds_of_wide 7 Try.f7 rfl rfl rfl rfl rfl rfl rfl ⟨rfl, rfl, rfl, rfl, rfl⟩ rfl rfl rfl rfl rfl (by kernel_rfl) Try.func7 (by kernel_rfl)
    (of_decide_eq_true (by kernel_rfl)) (by unfold Func.isWrapper; first | (rw [if_pos (by decide +kernel)]; kernel_rfl) | (rw [if_neg (by decide +kernel)]; exact ⟨rfl, rfl⟩))
    (fun os started H enc _ => lifted os started H enc)

end Go.Proofs.Ytmefejbbnfgbeaa.itemUnlike
namespace Go.Proofs.Ytmefejbbnfgbeaa
theorem itemUnlike_proved : Rows.ItemUnlikeSaid := itemUnlike.over
end Go.Proofs.Ytmefejbbnfgbeaa
