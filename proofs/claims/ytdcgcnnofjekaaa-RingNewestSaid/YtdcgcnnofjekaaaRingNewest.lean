/-
  For every disk and superblock RingNewest answers true and leaves its arguments as they were. No condition.
-/
import Derived.Test.YtdcgcnnofjekaaaBnd3
import Derived.Deep.CutBlock
namespace Go.Proofs.Ytdcgcnnofjekaaa.ringNewest
open Go.ChangeShapes Go.WideShapes Go.RowKit

theorem own : ownKnob Try.prog.godebug = none := by kernel_rfl
theorem laidOut : laidOutB Try.prog = true := by kernel_rfl

def OldL (v : Value) (xs : List Sp) : World → Prop := fun w => rSl 5 rSp (Old w) w [v] xs
theorem lasts_oldL (v : Value) (xs : List Sp) : Lasts (OldL v xs) := fun _ _ h hb => (stab_sl stab_sp).old h hb
theorem oldL_new {lo : Nat} {w : World} {v : Value} {xs : List Sp} (h : rSl 5 rSp (New lo w) w [v] xs) : OldL v xs w := (stab_sl stab_sp) _ _ _ _ _ _ (fun p v hp hc => ⟨hp.2.1, hc⟩) h
abbrev spV (x : Sp) (d : Value) : Value := .agg #[.int .u32 x.1, .int .i64 x.2.1, .int .u32 x.2.2.1, .int .u32 x.2.2.2.1, d]
def Good (w : World) (p : Sp × Value) : Prop := p.2.oneCell' = true ∧ InSp p.1 ∧ ∀ W, Below w.heap.size w W → Sup (Old W) W (spV p.1 p.2) p.1
theorem good_of {w : World} {x : Sp} {d : Value} (h : ∀ W, Below w.heap.size w W → Sup (Old W) W (spV x d) x) : Good w (x, d) := by
  refine ⟨?_, ?_, h⟩
  · obtain ⟨d', e, _, hd⟩ := h w (Below.refl _ _)
    obtain ⟨A, c, e2, _⟩ := rInts_open hd
    have : d = d' := by injection e with e; simpa using e
    rw [this, e2]
    rfl
  · obtain ⟨_, _, hin, _⟩ := h w (Below.refl _ _)
    exact hin
set_option maxRecDepth 100000 in
set_option maxHeartbeats 16000000 in
theorem walk (v : Value) (d : Dk) (u : Value) (s : Sp) (w : World) (h : Dsk (Old w) w v d) (hu : Sup (Old w) w u s) :
    Calls Try.prog 7 #[v, u] w fun e w' => e = .returned (.bool true) ∧ Below w.heap.size w w' := by
  obtain ⟨A, c, B, f, rfl, lA, mA, lB, mB, _⟩ := id h.open
  obtain ⟨D, dc, rfl, hin, _⟩ := id hu.open
  have hin' := Lib.hid hin
  have G1 := ((Bag.nil w).add (F := OldD (.agg #[.slice A d.1.length c, .slice B d.2.length f]) d) h (lasts_oldD _ _)).add (F := OldS (supV s D dc) s) hu (lasts_oldS _ _)
  obtain ⟨w1, hw1, G2, hB1, hB1', lt1⟩ := bag_box G1 (Below.refl _ _) (.slice A d.1.length c) (.slice B d.2.length f)
  obtain ⟨w2, hw2, G3, hB2, _, _⟩ := bag_box5 G2 (Below.refl _ _) (.int .u32 s.1) (.int .i64 s.2.1) (.int .u32 s.2.2.1) (.int .u32 s.2.2.2.1) (.slice D s.2.2.2.2.length dc)
  have HG := Lib.hid G3
  have HW := Lib.hid (hB1.trans (hB2.mono hB1.size))
  replace hw2 := Lib.hid hw2
  clear G1 G2 G3 h hu hB1 hB1' hB2 lt1 hin
  go_enter Try.func7, Try.ntmps7
  go_upto_region 1 with fail
  rw [hw2.out]
  clear hw1 hw2
  go_wp2_with fail
  with_reducible refine (alive4 _).mono ?_
  rintro e3 w3 ⟨rfl, hb3⟩
  replace HG := Lib.hid (HG.out.below hb3)
  replace HW := Lib.hid (HW.out.trans (hb3.mono HW.out.size))
  clear hb3
  obtain ⟨k1, k2, _⟩ := HG.out.at 1 rfl
  have xd : Dsk (Old w3) w3 _ _ := HG.out.at 3 rfl
  go_wp2_with fail
  with_reducible refine (great_any _ _ _ xd).mono ?_
  rintro e4 w4 ⟨rfl, hb4⟩
  replace HG := Lib.hid (HG.out.below hb4)
  replace HW := Lib.hid (HW.out.trans (hb4.mono HW.out.size))
  clear hb4 k1 k2 xd
  cases hg : greatB d with
  | true =>
    go_wp2_with fail
    go_ret
    exact ⟨rfl, HW.out⟩
  | false =>
  clear hg
  obtain ⟨k1, k2, _⟩ := HG.out.at 1 rfl
  obtain ⟨s0, s1, s2, s3, s4, _⟩ := HG.out.at 0 rfl
  by_cases hl : 1000 < s.2.2.2.2.length
  · have hl' : (1000 : Int) < s.2.2.2.2.length := by omega
    go_wp2_with fail
    go_ret
    exact ⟨rfl, HW.out⟩
  have hl' : ¬ (1000 : Int) < s.2.2.2.2.length := by omega
  clear hl
  have xd : Dsk (Old w4) w4 _ _ := HG.out.at 3 rfl
  go_wp2_with fail
  with_reducible refine (find_any _ d _ xd).mono ?_
  rintro e5 w5 ⟨u5, rfl, h5, hb5⟩
  obtain ⟨l, hl0⟩ : ∃ l, findS d = l := ⟨_, rfl⟩
  obtain ⟨e, he⟩ : ∃ e, findE d = e := ⟨_, rfl⟩
  rw [hl0] at h5
  rw [he]
  obtain ⟨L, lc, e5, llc, lcm, _⟩ := id h5
  obtain ⟨n, hn⟩ : ∃ n, l.length = n := ⟨_, rfl⟩
  rw [hn] at e5 llc
  cases e5
  replace HG := Lib.hid ((HG.out.below hb5).add (F := OldL _ l) (oldL_new h5) (lasts_oldL _ _))
  replace HW := Lib.hid (HW.out.trans (hb5.mono HW.out.size))
  clear hb5 h5 k1 k2 xd s0 s1 s2 s3 s4
  obtain ⟨k1, k2, _⟩ := HG.out.at 2 rfl
  obtain ⟨s0, s1, s2, s3, s4, _⟩ := HG.out.at 1 rfl
  have xd : Dsk (Old w5) w5 _ _ := HG.out.at 4 rfl
  have xs : Sup (Old w5) w5 _ _ := HG.out.at 3 rfl
  go_wp2_with fail
  with_reducible refine (put_any _ _ d s _ xd xs).mono ?_
  rintro e6 w6 ⟨u6, rfl, h6, hb6⟩
  obtain ⟨R, hR⟩ : ∃ R, putR d s = R := ⟨_, rfl⟩
  obtain ⟨q, hq⟩ : ∃ q, putE d s = q := ⟨_, rfl⟩
  rw [hR] at h6
  rw [hq]
  obtain ⟨A6, c6, B6, f6, rfl, _⟩ := id h6.open
  obtain ⟨w7, hw7, G7, hb7, hb67, lt7⟩ := bag_box HG.out hb6 (.slice A6 R.1.length c6) (.slice B6 R.2.length f6)
  have y7 : OldD (.agg #[.slice A6 R.1.length c6, .slice B6 R.2.length f6]) R w7 := h6.drop.below hb67
  replace HG := Lib.hid (G7.add y7 (lasts_oldD _ _))
  replace HW := Lib.hid (HW.out.trans (hb7.mono HW.out.size))
  clear hb6 h6 hb7 hb67 lt7 G7 y7 k1 k2 s0 s1 s2 s3 s4 xd xs
  go_upto_region 8 with fail
  clear hw7
  obtain ⟨n1, n2, _⟩ := HG.out.at 1 rfl
  by_cases hq0 : q = 0
  case neg =>
    have ht : (q != 0) = true := by simpa using hq0
    have hz : R.1.length = 0 := by rw [← hR]; exact put_fails (by rw [hq]; exact hq0)
    rw [hz] at n1
    clear hq0 HG
    replace hz := Lib.hid hz
    go_wp2_with fail
    go_ret
    exact ⟨rfl, HW.out⟩
  subst hq0
  have hmb := (put_zero hin'.out hq).may
  have hew : e = 0 ∨ e = 40 := by rw [← he]; exact findE_ways hmb
  have HFE := Lib.hid (find_put hin'.out hq)
  have HNEW : Hid ((∀ r ∈ l, r.1 < s.1) → findS R = s :: other s l) := Lib.hid fun hall => by rw [← hR, ← hl0]; exact find_newest hin'.out hq (by rw [hl0]; exact hall)
  rw [hR] at HFE
  have hlen : n ≤ 4 := by
    rw [← hn, ← hl0]
    have h0 : (sortG (stands d)).length ≤ 4 := by
      rw [(sortG_perm _).length_eq]
      exact Nat.le_trans (List.length_filterMap_le _ _) (by simp)
    unfold findS
    split <;> first | exact h0 | exact Nat.zero_le _
  replace hR := Lib.hid hR
  replace hq := Lib.hid hq
  replace hn := Lib.hid hn
  replace hl0 := Lib.hid hl0
  replace he := Lib.hid he
  replace hmb := Lib.hid hmb
  go_cut [0, 1, 47] (fun _ _ p wx => p = .bool false ∧ wx = w7)
  case first =>
    rcases hew with rfl | rfl
    · go_wp2_with fail
      go_meet
      exact ⟨rfl, rfl⟩
    · go_wp2_with fail
      go_meet
      exact ⟨rfl, rfl⟩
  case rest =>
  obtain ⟨rfl, hwc⟩ := hcut
  subst hwc
  clear n1 n2 hew
  have HL : Hid (∀ k x, l[k]? = some x → ∃ ad d, L = some ad ∧ ∀ W, Below wc.heap.size wc W → FiveAt ad k x d W ∧ Sup (Old W) W (.agg #[.int .u32 x.1, .int .i64 x.2.1, .int .u32 x.2.2.1, .int .u32 x.2.2.2.1, d]) x) := Lib.hid (by
    obtain ⟨_, _, e, _, _, hA⟩ : rSl 5 rSp (Old wc) wc _ l := HG.out.at 2 rfl
    cases e
    exact fun k x hx => five_at hA hx)
  have HS : Hid (∀ W, Below wc.heap.size wc W → Box5 w1.heap.size (.int .u32 s.1) (.int .i64 s.2.1) (.int .u32 s.2.2.1) (.int .u32 s.2.2.2.1) (.slice D s.2.2.2.2.length dc) W ∧ Sup (Old W) W (supV s D dc) s) := Lib.hid fun W hW => ⟨(HG.out.below hW).at 3 rfl, (HG.out.below hW).at 5 rfl⟩
  obtain ⟨⟨sg0, sg1⟩, _⟩ := id hin'.out
  have hsg := Lib.hid (slot_any s.1 sg0 sg1)
  go_wp2_with fail
  go_loopw [10, 11] (fun st i wr => ∃ (k : Nat) (E : Option Addr) (ec : Nat) (ps : List (Sp × Value)), k ≤ n ∧ i = .int .i64 k ∧ st = .slice E ps.length ec ∧ Stays wc.heap.size wr E ec ps ∧ ps.map (·.1) = other s (l.take k) ∧ (∀ p ∈ ps, Good wc p) ∧ (∀ r ∈ l.take k, r.1 < s.1) ∧ ps.length ≤ k ∧ Below wc.heap.size wc wr) (fun _ i _ => n - (intOf i).toNat)
  case atStart => exact ⟨0, none, 0, [], by omega, rfl, rfl, Stays.nil _ _, by simp [other], fun p hp => by simp at hp, fun r hr => by simp at hr, by simp, Below.refl _ _⟩
  case round =>
    obtain ⟨k, E, ec, ps, hk, rfl, rfl, hst, hps, hgood, hall, hpk, hb⟩ := hrel
    replace hst := Lib.hid hst
    replace hps := Lib.hid hps
    replace hgood := Lib.hid hgood
    replace hall := Lib.hid hall
    replace hb := Lib.hid hb
    obtain ⟨f1, f2⟩ := hst.out.form
    by_cases hlt : k < n
    · obtain ⟨x, hx⟩ : ∃ x, l[k]? = some x := ⟨_, List.getElem?_eq_getElem (by rw [hn.out]; exact hlt)⟩
      obtain ⟨ad, dx, rfl, FA0⟩ := HL.out k x hx
      have FA : Hid (∀ W, Below wr.heap.size wr W → FiveAt ad k x dx W) := Lib.hid fun W h => (FA0 W (hb.out.trans (h.mono hb.out.size))).1
      have gx := good_of (fun W h => (FA0 W h).2)
      obtain ⟨⟨xg0, xg1⟩, _⟩ := id gx.2.1
      have HSW : Hid (∀ W, Below wr.heap.size wr W → Box5 w1.heap.size (.int .u32 s.1) (.int .i64 s.2.1) (.int .u32 s.2.2.1) (.int .u32 s.2.2.2.1) (.slice D s.2.2.2.2.length dc) W) := Lib.hid fun W h => (HS.out W (hb.out.trans (h.mono hb.out.size))).1
      replace gx := Lib.hid gx
      clear FA0
      have i1 : (0 : Int) ≤ (k : Int) := by omega
      have i2 : (k : Int) < (n : Int) := by omega
      go_upto_region 14 with fail
      by_cases hge : s.1 ≤ x.1
      · refine wp_region_as (by kernel_rfl) (fun W => Below wr.heap.size wr W) (fun _ => none) (by kernel_rfl) (Below.refl _ _).drew (fun w w' h hb => h.trans (hb.mono h.size)) (fun j φ x w w' hp => by cases hp) ?_
        repeat (first
          | (refine wpAs_skip rfl ?_; simp only [Act.put, List.setIfInBounds_toArray, List.set_cons_zero, List.set_cons_succ])
          | (refine wpAs_pure (v := ?_) rfl rfl ?_ ?_; rotate_left; (intro W hC hE; clear hE; (obtain ⟨z0, z1, z2, z3, z4⟩ := FA.out W hC; obtain ⟨s0, s1, s2, s3, s4, _⟩ := HSW.out W hC); clear hC; go_simp; done); simp only [Act.put, List.setIfInBounds_toArray, List.set_cons_zero, List.set_cons_succ])
          | (refine wpAs_pure (v := ?_) rfl rfl ?_ ?_; rotate_left; (intro W hC hE; clear hE; (obtain ⟨z0, z1, z2, z3, z4⟩ := FA.out W hC; obtain ⟨s0, s1, s2, s3, s4, _⟩ := HSW.out W hC); clear hC; go_simp; with_reducible rfl); simp only [Act.put, List.setIfInBounds_toArray, List.set_cons_zero, List.set_cons_succ]))
        refine wpAs_end fun W hC hE => ?_
        clear hE
        have BW := Lib.hid ((HW.out.trans (hb.out.mono HW.out.size)).trans (hC.mono (HW.out.trans (hb.out.mono HW.out.size)).size))
        clear hC
        go_wp2_with fail
        go_ret
        exact ⟨rfl, BW.out⟩
      · have hlts : x.1 < s.1 := by omega
        refine wp_region_as (by kernel_rfl) (fun W => Below wr.heap.size wr W) (fun _ => none) (by kernel_rfl) (Below.refl _ _).drew (fun w w' h hb => h.trans (hb.mono h.size)) (fun j φ x w w' hp => by cases hp) ?_
        repeat (first
          | (refine wpAs_skip rfl ?_; simp only [Act.put, List.setIfInBounds_toArray, List.set_cons_zero, List.set_cons_succ])
          | (refine wpAs_pure (v := ?_) rfl rfl ?_ ?_; rotate_left; (intro W hC hE; clear hE; (obtain ⟨z0, z1, z2, z3, z4⟩ := FA.out W hC; obtain ⟨s0, s1, s2, s3, s4, _⟩ := HSW.out W hC); clear hC; go_simp; done); simp only [Act.put, List.setIfInBounds_toArray, List.set_cons_zero, List.set_cons_succ])
          | (refine wpAs_pure (v := ?_) rfl rfl ?_ ?_; rotate_left; (intro W hC hE; clear hE; (obtain ⟨z0, z1, z2, z3, z4⟩ := FA.out W hC; obtain ⟨s0, s1, s2, s3, s4, _⟩ := HSW.out W hC); clear hC; go_simp; with_reducible rfl); simp only [Act.put, List.setIfInBounds_toArray, List.set_cons_zero, List.set_cons_succ]))
        refine wpAs_end fun W1 hC1 hE => ?_
        clear hE
        replace hC1 := Lib.hid hC1
        replace hlts := Lib.hid hlts
        clear hge
        obtain ⟨xm, hxm⟩ : ∃ m, x.1 % 4 = m := ⟨_, rfl⟩
        obtain ⟨sm, hsm⟩ : ∃ m, s.1 % 4 = m := ⟨_, rfl⟩
        have hxs := Lib.hid (slot_any x.1 xg0 xg1)
        rw [hxm] at hxs
        rw [hsm] at hsg
        replace hxm := Lib.hid hxm
        replace hsm := Lib.hid hsm
        go_upto_region 16 with fail
        refine wp_region_fx (by kernel_rfl) (fun W => Below W1.heap.size W1 W) (fun _ => none) (fun i => match i with
          | 5 => some (.int .i64 xm)
          | 8 => some (.int .i64 sm)
          | _ => none) (by kernel_rfl) (Below.refl _ _).drew (fun w w' h hb => h.trans (hb.mono h.size)) (fun j φ x W W' hp => by cases hp) ?_
        repeat (first
          | (refine wpAs_skip rfl ?_; simp only [Act.put, List.setIfInBounds_toArray, List.set_cons_zero, List.set_cons_succ])
          | (refine wpAs_pure (v := ?_) rfl rfl ?_ ?_; rotate_left; (intro W hC hE; clear hE; (have hC2 := hC1.out.trans (hC.mono hC1.out.size); obtain ⟨z0, z1, z2, z3, z4⟩ := FA.out W hC2; obtain ⟨s0, s1, s2, s3, s4, _⟩ := HSW.out W hC2; clear hC2); clear hC; go_simp; done); simp only [Act.put, List.setIfInBounds_toArray, List.set_cons_zero, List.set_cons_succ])
          | (refine wpAs_pure (v := ?_) rfl rfl ?_ ?_; rotate_left; (intro W hC hE; clear hE; (have hC2 := hC1.out.trans (hC.mono hC1.out.size); obtain ⟨z0, z1, z2, z3, z4⟩ := FA.out W hC2; obtain ⟨s0, s1, s2, s3, s4, _⟩ := HSW.out W hC2; clear hC2); clear hC; go_simp; with_reducible rfl); simp only [Act.put, List.setIfInBounds_toArray, List.set_cons_zero, List.set_cons_succ]))
        refine wpAs_fixed rfl rfl rfl ?_ ?_
        · intro W hC hE
          clear hE hC
          refine does_enter (f := 15) (args := #[.int .u32 x.1]) ?_ ?_
          · go_simp
          · refine (hxs.out W).mono ?_
            rintro e W' ⟨rfl, rfl⟩
            exact ⟨_, rfl, rfl, Below.refl _ _⟩
        simp only [Act.put, List.setIfInBounds_toArray, List.set_cons_zero, List.set_cons_succ]
        repeat (first
          | (refine wpAs_skip rfl ?_; simp only [Act.put, List.setIfInBounds_toArray, List.set_cons_zero, List.set_cons_succ])
          | (refine wpAs_pure (v := ?_) rfl rfl ?_ ?_; rotate_left; (intro W hC hE; clear hE; (have hC2 := hC1.out.trans (hC.mono hC1.out.size); obtain ⟨z0, z1, z2, z3, z4⟩ := FA.out W hC2; obtain ⟨s0, s1, s2, s3, s4, _⟩ := HSW.out W hC2; clear hC2); clear hC; go_simp; done); simp only [Act.put, List.setIfInBounds_toArray, List.set_cons_zero, List.set_cons_succ])
          | (refine wpAs_pure (v := ?_) rfl rfl ?_ ?_; rotate_left; (intro W hC hE; clear hE; (have hC2 := hC1.out.trans (hC.mono hC1.out.size); obtain ⟨z0, z1, z2, z3, z4⟩ := FA.out W hC2; obtain ⟨s0, s1, s2, s3, s4, _⟩ := HSW.out W hC2; clear hC2); clear hC; go_simp; with_reducible rfl); simp only [Act.put, List.setIfInBounds_toArray, List.set_cons_zero, List.set_cons_succ]))
        refine wpAs_fixed rfl rfl rfl ?_ ?_
        · intro W hC hE
          clear hE hC
          refine does_enter (f := 15) (args := #[.int .u32 s.1]) ?_ ?_
          · go_simp
          · refine (hsg.out W).mono ?_
            rintro e W' ⟨rfl, rfl⟩
            exact ⟨_, rfl, rfl, Below.refl _ _⟩
        simp only [Act.put, List.setIfInBounds_toArray, List.set_cons_zero, List.set_cons_succ]
        repeat (first
          | (refine wpAs_skip rfl ?_; simp only [Act.put, List.setIfInBounds_toArray, List.set_cons_zero, List.set_cons_succ])
          | (refine wpAs_pure (v := ?_) rfl rfl ?_ ?_; rotate_left; (intro W hC hE; clear hE; (skip); clear hC; go_simp; done); simp only [Act.put, List.setIfInBounds_toArray, List.set_cons_zero, List.set_cons_succ])
          | (refine wpAs_pure (v := ?_) rfl rfl ?_ ?_; rotate_left; (intro W hC hE; clear hE; (skip); clear hC; go_simp; with_reducible rfl); simp only [Act.put, List.setIfInBounds_toArray, List.set_cons_zero, List.set_cons_succ]))
        refine wpAs_end fun W2 hC2 hE => ?_
        clear hE
        have hC3 := Lib.hid (hC1.out.trans (hC2.mono hC1.out.size))
        clear hC2
        by_cases heq : xm = sm
        · have hot := Lib.hid (other_snoc_no (s := s) hx (by rw [hxm.out, hsm.out, heq]))
          have hne : (xm != sm) = false := by simpa using heq
          replace hx := Lib.hid hx
          have BW := Lib.hid (hb.out.trans (hC3.out.mono hb.out.size))
          replace heq := Lib.hid heq
          go_wp2_with fail
          go_roundw
          case rel => exact ⟨k + 1, E, ec, ps, by omega, by go_num, rfl, hst.out.below hC3.out, by rw [hot.out]; exact hps.out, hgood.out, all_below_snoc hx.out hall.out hlts.out, by omega, BW.out⟩
          case measure => simp [intOf]; omega
        · have hot := Lib.hid (other_snoc_yes (s := s) hx (by rw [hxm.out, hsm.out]; exact heq))
          have hne : (xm != sm) = true := by simpa using heq
          replace hx := Lib.hid hx
          replace heq := Lib.hid heq
          obtain ⟨z0, z1, z2, z3, z4⟩ := FA.out W2 hC3.out
          obtain ⟨wB, hwB, _, _, _, _, _, hsB, hBB, bB⟩ := box_five W2 (.int .u32 x.1) (.int .i64 x.2.1) (.int .u32 x.2.2.1) (.int .u32 x.2.2.2.1) dx 37
          have BW := hb.out.trans (hC3.out.mono hb.out.size)
          have BWB := BW.trans (hBB.mono BW.size)
          obtain ⟨E', ec', wP, hrP, hstP, hBP⟩ := Stays.push ((hst.out.below hC3.out).below hBB) (x, dx) W2.heap.size 1 bB gx.out.1 (by omega) BWB.size
          have BF := Lib.hid (BWB.trans hBP)
          have HP := Lib.hid hrP
          replace hstP := Lib.hid hstP
          replace bB := Lib.hid bB
          replace hsB := Lib.hid hsB
          have hpl : (ps ++ [(x, dx)]).length ≤ k + 1 := by simp; omega
          replace hpl := Lib.hid hpl
          clear hrP hBP BWB BW hBB
          go_wp2_with (at_builtin; refine wpList_append_run rfl _ _ _ rfl rfl rfl HP.out ?_; clear HP)
          go_roundw
          case rel => exact ⟨k + 1, E', ec', ps ++ [(x, dx)], by omega, by go_num, by rw [List.length_append]; rfl, hstP.out, by rw [hot.out, List.map_append, hps.out]; rfl, fun p hp => by
            rcases List.mem_append.1 hp with hp | hp
            · exact hgood.out p hp
            · rw [List.mem_singleton.1 hp]; exact gx.out, all_below_snoc hx.out hall.out hlts.out, hpl.out, BF.out⟩
          case measure => simp [intOf]; omega
    · have htk : l.take k = l := List.take_of_length_le (by rw [hn.out]; omega)
      have hpsl : ps.map (·.1) = other s l := by rw [hps.out, htk]
      have hnew : findS R = s :: ps.map (·.1) := by
        rw [hpsl]
        have := hall.out
        rw [htk] at this
        exact HNEW.out this
      have hnew' := Lib.hid hnew
      have hp4 : ps.length ≤ 4 := by omega
      have HW2 := Lib.hid (HW.out.trans (hb.out.mono HW.out.size))
      have HG2 := Lib.hid (HG.out.below hb.out)
      obtain ⟨wo, rfl⟩ : ∃ wo : World, wo = wr := ⟨_, rfl⟩
      obtain ⟨n1, n2, _⟩ := HG2.out.at 1 rfl
      have xd : Dsk (Old wo) wo _ _ := HG2.out.at 0 rfl
      clear htk hpsl hnew
      go_wp2_with fail
      with_reducible refine (find_any _ R _ xd).mono ?_
      rintro e18 w18 ⟨u18, rfl, h18, hb18⟩
      rw [HFE.out]
      rw [hnew'.out] at h18
      obtain ⟨M, mc, e18, lmc, lmm, hM⟩ := id (oldL_new h18)
      cases e18
      obtain ⟨ml, hml⟩ : ∃ ml, (s :: ps.map (·.1)).length = ml := ⟨_, rfl⟩
      have hml1 : ml = ps.length + 1 := by rw [← hml]; simp
      rw [hml] at lmc ⊢
      have HM := Lib.hid (fun k x (hx : (s :: ps.map (·.1))[k]? = some x) => five_at hM hx)
      obtain ⟨md, d0, rfl, FM0⟩ := HM.out 0 s rfl
      have FM0' : Hid (∀ W, Below w18.heap.size w18 W → W.cell? md = some (.int .u32 s.1) ∧ W.cell? ⟨md.block, md.off + 1, none⟩ = some (.int .i64 s.2.1) ∧ W.cell? ⟨md.block, md.off + 2, none⟩ = some (.int .u32 s.2.2.1) ∧ W.cell? ⟨md.block, md.off + 3, none⟩ = some (.int .u32 s.2.2.2.1) ∧ W.cell? ⟨md.block, md.off + 4, none⟩ = some d0) := Lib.hid fun W hW => by
        have := (FM0 W hW).1
        unfold FiveAt at this
        rwa [show md.add (0 * 5) = md by simp [Addr.add]] at this
      have SM0 := Lib.hid (fun W hW => (FM0 W hW).2)
      have HST := Lib.hid (hst.out.below hb18)
      have BW := Lib.hid (HW2.out.trans (hb18.mono HW2.out.size))
      have C18 := Lib.hid (hb.out.trans (hb18.mono hb.out.size))
      have HSW : Hid (∀ W, Below w18.heap.size w18 W → Box5 w1.heap.size (.int .u32 s.1) (.int .i64 s.2.1) (.int .u32 s.2.2.1) (.int .u32 s.2.2.2.1) (.slice D s.2.2.2.2.length dc) W ∧ Sup (Old W) W (supV s D dc) s) := Lib.hid fun W h => HS.out W (C18.out.trans (h.mono C18.out.size))
      have q3 : IntKind.i64.wrap ((ps.length : Int) + 1) = ml := by rw [IntKind.wrap_i64]; omega
      have q4 : (0 : Int) < ml := by omega
      have q5 : 0 < ml := by omega
      have hsame := Lib.hid (sameSp_self s)
      replace hml := Lib.hid hml
      have hml4 : ml ≤ 5 := by omega
      replace hml1 := Lib.hid hml1
      clear FM0 hM h18 hb18 n1 n2 xd
      go_upto_region 19 with fail
      refine wp_region_fx (by kernel_rfl) (fun W => Below w18.heap.size w18 W) (fun _ => none) (fun i => match i with
        | 15 => some (.bool true)
        | _ => none) (by kernel_rfl) (Below.refl _ _).drew (fun w w' h hb => h.trans (hb.mono h.size)) (fun j φ x W W' hp => by cases hp) ?_
      repeat (first
        | (refine wpAs_skip rfl ?_; simp only [Act.put, List.setIfInBounds_toArray, List.set_cons_zero, List.set_cons_succ])
        | (refine wpAs_pure (v := ?_) rfl rfl ?_ ?_; rotate_left; (intro W hC hE; clear hE; (obtain ⟨z0, z1, z2, z3, z4⟩ := FM0'.out W hC; obtain ⟨⟨s0, s1, s2, s3, s4, _⟩, _⟩ := HSW.out W hC); clear hC; go_simp; done); simp only [Act.put, List.setIfInBounds_toArray, List.set_cons_zero, List.set_cons_succ])
        | (refine wpAs_pure (v := ?_) rfl rfl ?_ ?_; rotate_left; (intro W hC hE; clear hE; (obtain ⟨z0, z1, z2, z3, z4⟩ := FM0'.out W hC; obtain ⟨⟨s0, s1, s2, s3, s4, _⟩, _⟩ := HSW.out W hC); clear hC; go_simp; with_reducible rfl); simp only [Act.put, List.setIfInBounds_toArray, List.set_cons_zero, List.set_cons_succ]))
      refine wpAs_fixed rfl rfl rfl ?_ ?_
      · intro W hC hE
        clear hE
        refine does_enter (f := 22) (args := #[.agg #[.int .u32 s.1, .int .i64 s.2.1, .int .u32 s.2.2.1, .int .u32 s.2.2.2.1, d0], supV s D dc]) ?_ ?_
        · clear hC
          go_simp
        · refine (sameS_any _ _ s s W (SM0.out W hC) (HSW.out W hC).2).mono ?_
          rintro e W' ⟨rfl, hg⟩
          rw [hsame.out]
          exact ⟨_, rfl, rfl, hg⟩
      simp only [Act.put, List.setIfInBounds_toArray, List.set_cons_zero, List.set_cons_succ]
      repeat (first
        | (refine wpAs_skip rfl ?_; simp only [Act.put, List.setIfInBounds_toArray, List.set_cons_zero, List.set_cons_succ])
        | (refine wpAs_pure (v := ?_) rfl rfl ?_ ?_; rotate_left; (intro W hC hE; clear hE; (skip); clear hC; go_simp; done); simp only [Act.put, List.setIfInBounds_toArray, List.set_cons_zero, List.set_cons_succ])
        | (refine wpAs_pure (v := ?_) rfl rfl ?_ ?_; rotate_left; (intro W hC hE; clear hE; (skip); clear hC; go_simp; with_reducible rfl); simp only [Act.put, List.setIfInBounds_toArray, List.set_cons_zero, List.set_cons_succ]))
      refine wpAs_end fun W3 hC3 hE => ?_
      clear hE
      replace hC3 := Lib.hid hC3
      clear q3 q4 q5
      go_wp2_with fail
      go_loopw [14] (fun i wr => ∃ k : Nat, k ≤ ps.length ∧ i = .int .i64 k ∧ Below W3.heap.size W3 wr) (fun i _ => ps.length - (intOf i).toNat)
      case atStart => exact ⟨0, by omega, rfl, Below.refl _ _⟩
      case round =>
        obtain ⟨j, hj, rfl, hb5⟩ := hrel
        have C5 := Lib.hid (hC3.out.trans (hb5.mono hC3.out.size))
        have B5 := Lib.hid hb5
        clear hb5
        by_cases hlt2 : j < ps.length
        · obtain ⟨p, hp⟩ : ∃ p, ps[j]? = some p := ⟨_, List.getElem?_eq_getElem hlt2⟩
          obtain ⟨ed, rfl, FS0⟩ := HST.out.at hp
          obtain ⟨_, _, gp⟩ := hgood.out p (List.mem_of_getElem? hp)
          obtain ⟨md', dm, em, FM1⟩ := HM.out (j + 1) p.1 (by simp [hp])
          cases em
          replace hp := Lib.hid hp
          obtain ⟨px, pd⟩ := p
          have FM : Hid (∀ W, Below wr.heap.size wr W → FiveAt md (j + 1) px dm W ∧ Sup (Old W) W (spV px dm) px) := Lib.hid fun W h => FM1 W (C5.out.trans (h.mono C5.out.size))
          have FS : Hid (∀ W, Below wr.heap.size wr W → FiveAt ed j px pd W ∧ Sup (Old W) W (spV px pd) px) := Lib.hid fun W h => ⟨FS0 W (C5.out.trans (h.mono C5.out.size)), gp W ((C18.out.trans (C5.out.mono C18.out.size)).trans (h.mono (C18.out.trans (C5.out.mono C18.out.size)).size))⟩
          have hse := Lib.hid (sameSp_self px)
          clear FM1 FS0 gp
          have i1 : (0 : Int) ≤ (j : Int) := by omega
          have i2 : (j : Int) < (ps.length : Int) := by omega
          have i3 : (j : Int) + 1 < (ml : Int) := by have := hml1.out; omega
          have i4 : j + 1 < ml := by have := hml1.out; omega
          have q3 : IntKind.i64.wrap ((j : Int) + 1) = (j : Int) + 1 := by rw [IntKind.wrap_i64]; omega
          have i5 : (0 : Int) ≤ (j : Int) + 1 := by omega
          have i6 : ((j : Int) + 1).toNat = j + 1 := by omega
          go_upto_region 24 with fail
          refine wp_region_fx (by kernel_rfl) (fun W => Below wr.heap.size wr W) (fun _ => none) (fun i => match i with
            | 9 => some (.bool true)
            | _ => none) (by kernel_rfl) (Below.refl _ _).drew (fun w w' h hb => h.trans (hb.mono h.size)) (fun j φ x W W' hp => by cases hp) ?_
          repeat (first
            | (refine wpAs_skip rfl ?_; simp only [Act.put, List.setIfInBounds_toArray, List.set_cons_zero, List.set_cons_succ])
            | (refine wpAs_pure (v := ?_) rfl rfl ?_ ?_; rotate_left; (intro W hC hE; clear hE; (obtain ⟨⟨z0, z1, z2, z3, z4⟩, _⟩ := FM.out W hC; obtain ⟨⟨y0, y1, y2, y3, y4⟩, _⟩ := FS.out W hC); clear hC; go_simp; done); simp only [Act.put, List.setIfInBounds_toArray, List.set_cons_zero, List.set_cons_succ])
            | (refine wpAs_pure (v := ?_) rfl rfl ?_ ?_; rotate_left; (intro W hC hE; clear hE; (obtain ⟨⟨z0, z1, z2, z3, z4⟩, _⟩ := FM.out W hC; obtain ⟨⟨y0, y1, y2, y3, y4⟩, _⟩ := FS.out W hC); clear hC; go_simp; with_reducible rfl); simp only [Act.put, List.setIfInBounds_toArray, List.set_cons_zero, List.set_cons_succ]))
          refine wpAs_fixed rfl rfl rfl ?_ ?_
          · intro W hC hE
            clear hE
            refine does_enter (f := 22) (args := #[spV px dm, spV px pd]) ?_ ?_
            · clear hC
              go_simp
            · refine (sameS_any _ _ px px W (FM.out W hC).2 (FS.out W hC).2).mono ?_
              rintro e W' ⟨rfl, hg⟩
              rw [hse.out]
              exact ⟨_, rfl, rfl, hg⟩
          simp only [Act.put, List.setIfInBounds_toArray, List.set_cons_zero, List.set_cons_succ]
          repeat (first
            | (refine wpAs_skip rfl ?_; simp only [Act.put, List.setIfInBounds_toArray, List.set_cons_zero, List.set_cons_succ])
            | (refine wpAs_pure (v := ?_) rfl rfl ?_ ?_; rotate_left; (intro W hC hE; clear hE; (skip); clear hC; go_simp; done); simp only [Act.put, List.setIfInBounds_toArray, List.set_cons_zero, List.set_cons_succ])
            | (refine wpAs_pure (v := ?_) rfl rfl ?_ ?_; rotate_left; (intro W hC hE; clear hE; (skip); clear hC; go_simp; with_reducible rfl); simp only [Act.put, List.setIfInBounds_toArray, List.set_cons_zero, List.set_cons_succ]))
          refine wpAs_end fun W hC hE => ?_
          clear hE
          have BJ := Lib.hid (B5.out.trans (hC.mono B5.out.size))
          clear hC q3 i5 i6 i3 i4
          go_wp2_with fail
          go_roundw
          case rel => exact ⟨j + 1, by omega, by go_num, BJ.out⟩
          case measure => simp [intOf]; omega
        · have BF := Lib.hid ((BW.out.trans (hC3.out.mono BW.out.size)).trans (B5.out.mono (BW.out.trans (hC3.out.mono BW.out.size)).size))
          go_wp2_with fail
          go_ret
          exact ⟨rfl, BF.out⟩

/-! ### The row's step -/
set_option maxRecDepth 100000 in
theorem lifted (os : Os) (started : os.Started) (H : Type) (enc : TypeId × Value → H) :
    ReturnsInHanded {} Try.checked os 7 .any (Rows.ringNewestSpec.pre6 enc Try.prog Try.f7 Rows.ringNewestRow.domain false) (Rows.ringNewestSpec.post enc Try.prog Try.f7 false true false false) := by
  refine returnsInHanded_of_change (C := Try.checked) own started (by kernel_rfl) Try.func7
    (ChangeSpec.witness6 (enc := enc) (C := Try.checked) false ⟨#[], #[.agg #[.slice none 0 0, .slice none 0 0], .agg #[.int .u32 0, .int .i64 0, .int .u32 0, .int .u32 0, .slice none 0 0]], []⟩ 8 (by kernel_rfl) (by kernel_rfl) (by kernel_rfl) (by kernel_rfl)) ?_
  intro W base args ds gs before hval0 hW _ _
  have hval : ∀ (j : Nat) t v, Try.f7.params[j]? = some t → args[j]? = some v → Value.okWide Try.prog W .any base t v := hval0
  have hW' := hW
  obtain ⟨p, q, hA0, hV, _, _, _⟩ := hW
  have hA : DataW.TrodAll enc Try.prog W 0 (fun _ => true) true Try.f7.params.toList args.toList ds p := hA0
  rw [Try.params7] at hA hval
  obtain ⟨v0, vs0, d0, ds0, p0, q0, hargs, rfl, _, h0, r0⟩ := trodAll_cons hA
  obtain ⟨v1, vs1, d1, ds1, p1, q1, rfl, rfl, _, h1, r1⟩ := trodAll_cons r0
  obtain ⟨rfl, rfl, _⟩ := trodAll_nil r1
  obtain rfl : args = #[v0, v1] := by cases args; simp_all
  obtain ⟨rfl, _⟩ := trodVars_none hV
  obtain ⟨d0x, y0⟩ := open_disk (hval 0 30 v0 rfl rfl) h0
  obtain ⟨d1x, y1⟩ := open_sup (hval 1 37 v1 rfl rfl) h1
  clear hA0 hval0
  refine (walk v0 d0x v1 d1x W y0 y1).mono fun e W' ⟨he, hb⟩ => ?_
  subst he
  exact ⟨_, rfl, law_post laidOut (by rw [Try.params7]; decide +kernel) (by kernel_rfl) Try.underlying4 rfl ⟨rfl, by simp [Rows.ringNewestSpec], rfl⟩ hW' hb⟩

theorem over : Rows.ringNewestRow.holds Try.pinned (OpenSpec.ofChange Rows.ringNewestSpec) :=
  OpenClaim.holds_of_wide 7 Try.f7 rfl rfl rfl rfl rfl rfl rfl ⟨rfl, rfl, rfl, rfl, rfl⟩ rfl rfl rfl rfl rfl (by kernel_rfl) Try.func7 (by kernel_rfl)
    (of_decide_eq_true (by kernel_rfl)) (by unfold Func.isWrapper; first | (rw [if_pos (by decide +kernel)]; kernel_rfl) | (rw [if_neg (by decide +kernel)]; exact ⟨rfl, rfl⟩))
    (fun os started H enc _ => lifted os started H enc)

end Go.Proofs.Ytdcgcnnofjekaaa.ringNewest
namespace Go.Proofs.Ytdcgcnnofjekaaa
theorem ringNewest_proved : Rows.RingNewestSaid := ringNewest.over
end Go.Proofs.Ytdcgcnnofjekaaa
