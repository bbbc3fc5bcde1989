/-
  For every store, root and two keys WalkOrder answers true and leaves its arguments as they were. No condition.
-/
import Derived.Test.YtdaidhbmfocodaaBnd4
import Derived.Deep.CutRange
import Derived.Deep.RegionWith
namespace Go.Proofs.Ytdaidhbmfocodaa.walkOrder
open Go.ChangeShapes Go.WideShapes Go.RowKit

theorem own : ownKnob Try.prog.godebug = none := by kernel_rfl
theorem laidOut : laidOutB Try.prog = true := by kernel_rfl

set_option maxRecDepth 100000 in
set_option maxHeartbeats 8000000 in
theorem walk (v : Value) (s : Rm) (a : Int) (_hn : (Lit.int .i64 a).wf = true) (f t : Ky) (w : World) (h : Sto (Old w) w v s) :
    Calls Try.prog 4 #[v, .int .i64 a, kyV f, kyV t] w fun e w' => e = .returned (.bool true) ∧ Below w.heap.size w w' := by
  clear _hn
  obtain ⟨A, ca, B, cb, N, cn, L, cl, rfl, _⟩ := id h.open
  have HG0 : Bag w [OldR (.agg #[.slice A s.1.1.length ca, .slice B s.1.2.length cb, .slice N s.2.1.length cn, .slice L s.2.2.length cl]) s] := (Bag.nil w).add (F := OldR _ s) h (lasts_oldR _ _)
  obtain ⟨w0, hw0, hg0, hB0, _, hs0⟩ := bag_four HG0 (Below.refl _ _) (.slice A s.1.1.length ca) (.slice B s.1.2.length cb) (.slice N s.2.1.length cn) (.slice L s.2.2.length cl) 28
  obtain ⟨w1, hw1, hg1, hB1, _, hs1⟩ := bag_key hg0 (Below.refl _ _) (.int .u8 (f.1.toNat : Int)) (.int .u32 f.2.1) (.int .u32 f.2.2)
  obtain ⟨w9, hw9, hg9, hB9, _, hs9⟩ := bag_key hg1 (Below.refl _ _) (.int .u8 (t.1.toNat : Int)) (.int .u32 t.2.1) (.int .u32 t.2.2)
  have HG1 := Lib.hid hg9
  have B1 := Lib.hid (hB0.trans ((hB1.trans (hB9.mono hB1.size)).mono hB0.size))
  replace hs1 := Lib.hid hs1
  replace hs0 := Lib.hid hs0
  replace hs9 := Lib.hid hs9
  clear HG0 hg1 hg0 hg9 h hB1 hB0 hB9
  unfold kyV
  go_enter Try.func4, Try.ntmps4
  go_upto_region 1 with fail
  clear hw0 hw1 hw9
  go_wp2_with fail
  with_reducible refine (alive11 _).mono ?_
  rintro e w2 ⟨rfl, hb2⟩
  have HG2 := Lib.hid (HG1.out.below hb2)
  have B2 := Lib.hid (B1.out.trans (hb2.mono B1.out.size))
  clear hb2 HG1 B1
  obtain ⟨k0, k1, k2, k3, kg⟩ := HG2.out.at 2 rfl
  go_wp2_with fail
  with_reducible refine (greatR_any _ s _ (HG2.out.at 3 rfl)).mono ?_
  rintro e w3 ⟨rfl, hb3⟩
  have HG3 := Lib.hid (HG2.out.below hb3)
  have B3 := Lib.hid (B2.out.trans (hb3.mono B2.out.size))
  clear hb3 HG2 B2 k0 k1 k2 k3 kg
  cases hgr : greatR s with
  | true =>
    go_wp2_with fail
    go_ret
    exact ⟨rfl, B3.out⟩
  | false =>
  clear hgr
  have hRg := Lib.hid (fun v W hW => walkRange_any v s a f t W hW)
  have hct := Lib.hid (fun hh => ck_of (s := s) (a := a) hh)
  have hbd := Lib.hid (fun hh => raV_bad (s := s) (a := a) (f := f) (t := t) hh)
  have hgd := Lib.hid (fun hh => raV_ok (s := s) (a := a) (f := f) (t := t) hh)
  have hfs := Lib.hid (fun k x hh hx => fd_some (s := s) (a := a) (k := k) (x := x) hh hx)
  unfold RangeR at hRg
  obtain ⟨E0, hE0⟩ : ∃ q, ckE s a = q := ⟨_, rfl⟩
  obtain ⟨l, hl⟩ : ∃ q, raV s a f t = q := ⟨_, rfl⟩
  obtain ⟨n, hn⟩ : ∃ n, l.length = n := ⟨_, rfl⟩
  rw [hE0] at hct hbd hgd hfs hRg
  rw [hl] at hbd hgd hRg
  rw [hn] at hRg
  replace hE0 := Lib.hid hE0
  replace hl := Lib.hid hl
  unfold kyV at hRg
  obtain ⟨k0, k1, k2, k3, kg⟩ := HG3.out.at 2 rfl
  obtain ⟨t0, t1, t2, _⟩ := HG3.out.at 1 rfl
  obtain ⟨u0, u1, u2, _⟩ := HG3.out.at 0 rfl
  go_wp2_with fail
  with_reducible refine (hRg.out _ _ (HG3.out.at 3 rfl)).mono ?_
  rintro e w4 ⟨U, uc, rfl, hU, hb4⟩
  have HG4 := Lib.hid ((HG3.out.below hb4).add (F := OldIs _ l) (stab_its.drop hU) (lasts_oldIs _ _))
  have B4 := Lib.hid (B3.out.trans (hb4.mono B3.out.size))
  clear hb4 hU HG3 B3 k0 k1 k2 k3 kg t0 t1 t2 u0 u1 u2 hRg
  by_cases he : E0 = 0
  case neg =>
    have e1 : (E0 != 0) = true := by simpa using he
    have hn0 : n = 0 := by rw [← hn, hbd.out he]; rfl
    have e2 : ((n : Int) == 0) = true := by simp [hn0]
    replace hn0 := Lib.hid hn0
    clear he
    go_wp2_with fail
    go_ret
    exact ⟨rfl, B4.out⟩
  obtain ⟨ht, _, _⟩ := hct.out he
  have hlr := hgd.out he
  have hup := Lib.hid (show Up l by rw [hlr]; exact range_up (tree_all ht).1 f t)
  have hin := Lib.hid (fun x hx => (show theO s a x.1 = some x ∧ lessK x.1 f = false ∧ lessK t x.1 = false from range_in ht (by rw [← hlr]; exact hx)))
  have hbk := Lib.hid (fun (hb : lessK t f = true) => (show n = 0 by rw [← hn, hlr]; unfold rangeO; rw [range_back hb]; rfl))
  have hmax := Lib.hid (show n ≤ 15625 by
    rw [← hn, hlr]
    exact Nat.le_trans (List.length_filter_le _ _) (tree_all ht).2.1)
  have hfx := Lib.hid (fun x hx => hfs.out x.1 x he (hin.out x hx).1)
  have hFd := Lib.hid (fun v k W hW => findFind_open v s a k W hW)
  subst he
  replace hn := Lib.hid hn
  clear ht hlr hct hbd hgd hfs
  obtain ⟨t0, t1, t2, _⟩ := HG4.out.at 2 rfl
  obtain ⟨u0, u1, u2, _⟩ := HG4.out.at 1 rfl
  have hls := Lib.hid (less_any t f w4)
  unfold kyV at hls
  obtain ⟨b1, hb1⟩ : ∃ b, lessK t f = b := ⟨_, rfl⟩
  rw [hb1] at hls hbk
  replace hb1 := Lib.hid hb1
  go_upto_region 7 with fail
  go_cut [46] from 39 to 45 (fun x46 wx => x46 = .bool false ∧ Below w4.heap.size w4 wx)
  case first =>
    go_wp2_with fail
    with_reducible refine hls.out.mono ?_
    rintro e w5 ⟨rfl, hb5⟩
    have hb5' := Lib.hid hb5
    clear hb5
    cases b1 with
    | true =>
      obtain rfl : n = 0 := hbk.out rfl
      go_wp2_with fail
      go_meet
      exact ⟨rfl, hb5'.out⟩
    | false =>
      go_wp2_with fail
      go_meet
      exact ⟨rfl, hb5'.out⟩
  case rest =>
  obtain ⟨rfl, hb5⟩ := hcut
  have HG7 := Lib.hid (HG4.out.below hb5)
  have B7 := Lib.hid (B4.out.trans (hb5.mono B4.out.size))
  clear hb5 HG4 B4 t0 t1 t2 u0 u1 u2 hls
  obtain ⟨w7, rfl⟩ : ∃ w7 : World, w7 = wc := ⟨_, rfl⟩
  go_wp2_with fail
  go_loopw [12] (fun vi wr => ∃ k : Nat, k ≤ n ∧ vi = .int .i64 k ∧ Below w7.heap.size w7 wr) (fun vi _ => n - (intOf vi).toNat)
  case atStart => exact ⟨0, by omega, rfl, Below.refl _ _⟩
  case round =>
    obtain ⟨k, hk, rfl, hbr⟩ := hrel
    have HR := Lib.hid (HG7.out.below hbr)
    have BR := Lib.hid hbr
    clear hbr
    have hn15 := hmax.out
    by_cases hlt : k < n
    case neg =>
      have BF := Lib.hid (B7.out.trans (BR.out.mono B7.out.size))
      have i5 : ¬ (k : Int) < (n : Int) := by omega
      go_wp2_with fail
      go_ret
      exact ⟨rfl, BF.out⟩
    obtain ⟨x, hx⟩ : ∃ x, l[k]? = some x := ⟨_, List.getElem?_eq_getElem (by rw [hn.out]; exact hlt)⟩
    obtain ⟨ad, E5, ce5, rfl, _, _, hin5, FX0⟩ := its_old (HR.out.at 0 rfl : rIts (Old wr) wr [.slice U n uc] l) hx
    have FX := Lib.hid FX0
    have hxm := Lib.hid (List.mem_of_getElem? hx)
    obtain ⟨_, hl1, hl2⟩ := hin.out x hxm.out
    have i4 : (0 : Int) ≤ (k : Int) := by omega
    have i5 : (k : Int) < (n : Int) := by omega
    clear FX0
    -- between the bounds, and behind the one ahead
    go_upto_region 12 with fail
    go_cut [87] from 53 to 86 (fun x87 wx => x87 = .bool false ∧ Below wr.heap.size wr wx)
    case first =>
      by_cases hk0 : k = 0
      · have i6 : ¬ (0 : Int) < (k : Int) := by omega
        replace hx := Lib.hid hx
        replace hk0 := Lib.hid hk0
        refine wp_region_fx (by kernel_rfl) (fun W => Below wr.heap.size wr W) (fun _ => none) (fun i => match i with
          | 6 => some (.bool false)
          | 14 => some (.bool false)
          | _ => none) (by kernel_rfl) (Below.refl _ _).drew (fun w w' h hb => h.trans (hb.mono h.size)) (fun j φ x W W' hp => by cases hp) ?_
        repeat (first
          | (refine wpAs_skip rfl ?_; simp only [Act.put, List.setIfInBounds_toArray, List.set_cons_zero, List.set_cons_succ])
          | (refine wpAs_pure (v := ?_) rfl rfl ?_ ?_; rotate_left; (intro W hC hE; clear hE; (obtain ⟨⟨z0, z1, z2, _, _⟩, _⟩ := FX.out W hC; obtain ⟨t0, t1, t2, _⟩ := (HR.out.below hC).at 2 rfl); clear hC; go_simp; done); simp only [Act.put, List.setIfInBounds_toArray, List.set_cons_zero, List.set_cons_succ])
          | (refine wpAs_pure (v := ?_) rfl rfl ?_ ?_; rotate_left; (intro W hC hE; clear hE; (obtain ⟨⟨z0, z1, z2, _, _⟩, _⟩ := FX.out W hC; obtain ⟨t0, t1, t2, _⟩ := (HR.out.below hC).at 2 rfl); clear hC; go_simp; with_reducible rfl); simp only [Act.put, List.setIfInBounds_toArray, List.set_cons_zero, List.set_cons_succ]))
        refine wpAs_fixed rfl rfl rfl ?_ ?_
        · intro W hC hE
          refine does_enter (f := 8) (args := #[kyV x.1, kyV f]) ?_ ?_
          · go_simp
          · refine (less_any x.1 f W).mono ?_
            (rintro e W' ⟨rfl, hg⟩; rw [hl1])
            exact ⟨_, rfl, rfl, hg⟩
        simp only [Act.put, List.setIfInBounds_toArray, List.set_cons_zero, List.set_cons_succ]
        repeat (first
          | (refine wpAs_skip rfl ?_; simp only [Act.put, List.setIfInBounds_toArray, List.set_cons_zero, List.set_cons_succ])
          | (refine wpAs_pure (v := ?_) rfl rfl ?_ ?_; rotate_left; (intro W hC hE; clear hE; (obtain ⟨⟨z0, z1, z2, _, _⟩, _⟩ := FX.out W hC; obtain ⟨t0, t1, t2, _⟩ := (HR.out.below hC).at 1 rfl); clear hC; go_simp; done); simp only [Act.put, List.setIfInBounds_toArray, List.set_cons_zero, List.set_cons_succ])
          | (refine wpAs_pure (v := ?_) rfl rfl ?_ ?_; rotate_left; (intro W hC hE; clear hE; (obtain ⟨⟨z0, z1, z2, _, _⟩, _⟩ := FX.out W hC; obtain ⟨t0, t1, t2, _⟩ := (HR.out.below hC).at 1 rfl); clear hC; go_simp; with_reducible rfl); simp only [Act.put, List.setIfInBounds_toArray, List.set_cons_zero, List.set_cons_succ]))
        refine wpAs_fixed rfl rfl rfl ?_ ?_
        · intro W hC hE
          refine does_enter (f := 8) (args := #[kyV t, kyV x.1]) ?_ ?_
          · go_simp
          · refine (less_any t x.1 W).mono ?_
            (rintro e W' ⟨rfl, hg⟩; rw [hl2])
            exact ⟨_, rfl, rfl, hg⟩
        simp only [Act.put, List.setIfInBounds_toArray, List.set_cons_zero, List.set_cons_succ]
        iterate 4 (first
          | (refine wpAs_skip rfl ?_; simp only [Act.put, List.setIfInBounds_toArray, List.set_cons_zero, List.set_cons_succ])
          | (refine wpAs_pure (v := ?_) rfl rfl ?_ ?_; rotate_left; (intro W hC hE; clear hE; skip; clear hC; go_simp; with_reducible rfl); simp only [Act.put, List.setIfInBounds_toArray, List.set_cons_zero, List.set_cons_succ]))
        refine wpAs_pure_jump (v := .bool false) 13 rfl rfl rfl ?_ (by kernel_rfl) ?_
        · intro W hC hE
          clear hE hC
          first
            | (go_simp; done)
            | (go_simp; simp; omega)
            | (go_simp; simp_all; done)
        simp only [skipN, Act.put, List.drop_succ_cons, List.drop_zero, List.setIfInBounds_toArray, List.set_cons_zero, List.set_cons_succ]
        iterate 2 (first
          | (refine wpAs_skip rfl ?_; simp only [Act.put, List.setIfInBounds_toArray, List.set_cons_zero, List.set_cons_succ])
          | (refine wpAs_pure (v := ?_) rfl rfl ?_ ?_; rotate_left; (intro W hC hE; clear hE; skip; clear hC; go_simp; with_reducible rfl); simp only [Act.put, List.setIfInBounds_toArray, List.set_cons_zero, List.set_cons_succ]))
        refine wpAs_end fun W0 hC hE => ?_
        clear hE
        have hC' := Lib.hid hC
        clear hC
        go_wp2_with fail
        go_meet
        exact ⟨rfl, hC'.out⟩
      · have i6 : (0 : Int) < (k : Int) := by omega
        have i6n : 0 < k := by omega
        obtain ⟨j, hj⟩ : ∃ j, k = j + 1 := ⟨k - 1, by omega⟩
        obtain ⟨z, hz⟩ : ∃ z, l[j]? = some z := ⟨_, List.getElem?_eq_getElem (by rw [hn.out]; omega)⟩
        have hls := up_next hup.out hz (by rw [← hj]; exact hx)
        obtain ⟨ad', E7, ce7, e7, _, _, _, FZ0⟩ := its_old (HR.out.at 0 rfl : rIts (Old wr) wr [.slice (some ad) n uc] l) hz
        cases e7
        have FZ := Lib.hid FZ0
        have i8 : (k : Int) - 1 = (j : Int) := by omega
        have i9 : IntKind.i64.wrap (j : Int) = (j : Int) := IntWalk.i64_in _ (by omega)
        have i10 : (j : Int) < (n : Int) := by omega
        have i11 : (0 : Int) ≤ (j : Int) := by omega
        replace hx := Lib.hid hx
        replace hz := Lib.hid hz
        replace hj := Lib.hid hj
        clear FZ0
        refine wp_region_fx (by kernel_rfl) (fun W => Below wr.heap.size wr W) (fun _ => none) (fun i => match i with
          | 6 => some (.bool false)
          | 14 => some (.bool false)
          | 31 => some (.bool true)
          | _ => none) (by kernel_rfl) (Below.refl _ _).drew (fun w w' h hb => h.trans (hb.mono h.size)) (fun j φ x W W' hp => by cases hp) ?_
        repeat (first
          | (refine wpAs_skip rfl ?_; simp only [Act.put, List.setIfInBounds_toArray, List.set_cons_zero, List.set_cons_succ])
          | (refine wpAs_pure (v := ?_) rfl rfl ?_ ?_; rotate_left; (intro W hC hE; clear hE; (obtain ⟨⟨z0, z1, z2, _, _⟩, _⟩ := FX.out W hC; obtain ⟨t0, t1, t2, _⟩ := (HR.out.below hC).at 2 rfl); clear hC; go_simp; done); simp only [Act.put, List.setIfInBounds_toArray, List.set_cons_zero, List.set_cons_succ])
          | (refine wpAs_pure (v := ?_) rfl rfl ?_ ?_; rotate_left; (intro W hC hE; clear hE; (obtain ⟨⟨z0, z1, z2, _, _⟩, _⟩ := FX.out W hC; obtain ⟨t0, t1, t2, _⟩ := (HR.out.below hC).at 2 rfl); clear hC; go_simp; with_reducible rfl); simp only [Act.put, List.setIfInBounds_toArray, List.set_cons_zero, List.set_cons_succ]))
        refine wpAs_fixed rfl rfl rfl ?_ ?_
        · intro W hC hE
          refine does_enter (f := 8) (args := #[kyV x.1, kyV f]) ?_ ?_
          · go_simp
          · refine (less_any x.1 f W).mono ?_
            (rintro e W' ⟨rfl, hg⟩; rw [hl1])
            exact ⟨_, rfl, rfl, hg⟩
        simp only [Act.put, List.setIfInBounds_toArray, List.set_cons_zero, List.set_cons_succ]
        repeat (first
          | (refine wpAs_skip rfl ?_; simp only [Act.put, List.setIfInBounds_toArray, List.set_cons_zero, List.set_cons_succ])
          | (refine wpAs_pure (v := ?_) rfl rfl ?_ ?_; rotate_left; (intro W hC hE; clear hE; (obtain ⟨⟨z0, z1, z2, _, _⟩, _⟩ := FX.out W hC; obtain ⟨t0, t1, t2, _⟩ := (HR.out.below hC).at 1 rfl); clear hC; go_simp; done); simp only [Act.put, List.setIfInBounds_toArray, List.set_cons_zero, List.set_cons_succ])
          | (refine wpAs_pure (v := ?_) rfl rfl ?_ ?_; rotate_left; (intro W hC hE; clear hE; (obtain ⟨⟨z0, z1, z2, _, _⟩, _⟩ := FX.out W hC; obtain ⟨t0, t1, t2, _⟩ := (HR.out.below hC).at 1 rfl); clear hC; go_simp; with_reducible rfl); simp only [Act.put, List.setIfInBounds_toArray, List.set_cons_zero, List.set_cons_succ]))
        refine wpAs_fixed rfl rfl rfl ?_ ?_
        · intro W hC hE
          refine does_enter (f := 8) (args := #[kyV t, kyV x.1]) ?_ ?_
          · go_simp
          · refine (less_any t x.1 W).mono ?_
            (rintro e W' ⟨rfl, hg⟩; rw [hl2])
            exact ⟨_, rfl, rfl, hg⟩
        simp only [Act.put, List.setIfInBounds_toArray, List.set_cons_zero, List.set_cons_succ]
        repeat (first
          | (refine wpAs_skip rfl ?_; simp only [Act.put, List.setIfInBounds_toArray, List.set_cons_zero, List.set_cons_succ])
          | (refine wpAs_pure (v := ?_) rfl rfl ?_ ?_; rotate_left; (intro W hC hE; clear hE; (obtain ⟨⟨z0, z1, z2, _, _⟩, _⟩ := FX.out W hC; obtain ⟨⟨u0, u1, u2, _, _⟩, _⟩ := FZ.out W hC); clear hC; go_simp; done); simp only [Act.put, List.setIfInBounds_toArray, List.set_cons_zero, List.set_cons_succ])
          | (refine wpAs_pure (v := ?_) rfl rfl ?_ ?_; rotate_left; (intro W hC hE; clear hE; (obtain ⟨⟨z0, z1, z2, _, _⟩, _⟩ := FX.out W hC; obtain ⟨⟨u0, u1, u2, _, _⟩, _⟩ := FZ.out W hC); clear hC; go_simp; with_reducible rfl); simp only [Act.put, List.setIfInBounds_toArray, List.set_cons_zero, List.set_cons_succ]))
        refine wpAs_fixed rfl rfl rfl ?_ ?_
        · intro W hC hE
          refine does_enter (f := 8) (args := #[kyV z.1, kyV x.1]) ?_ ?_
          · go_simp
          · refine (less_any z.1 x.1 W).mono ?_
            (rintro e W' ⟨rfl, hg⟩; rw [hls])
            exact ⟨_, rfl, rfl, hg⟩
        simp only [Act.put, List.setIfInBounds_toArray, List.set_cons_zero, List.set_cons_succ]
        repeat (first
          | (refine wpAs_skip rfl ?_; simp only [Act.put, List.setIfInBounds_toArray, List.set_cons_zero, List.set_cons_succ])
          | (refine wpAs_pure (v := ?_) rfl rfl ?_ ?_; rotate_left; (intro W hC hE; clear hE; skip; clear hC; go_simp; done); simp only [Act.put, List.setIfInBounds_toArray, List.set_cons_zero, List.set_cons_succ])
          | (refine wpAs_pure (v := ?_) rfl rfl ?_ ?_; rotate_left; (intro W hC hE; clear hE; skip; clear hC; go_simp; with_reducible rfl); simp only [Act.put, List.setIfInBounds_toArray, List.set_cons_zero, List.set_cons_succ]))
        refine wpAs_end fun W0 hC hE => ?_
        clear hE
        have hC' := Lib.hid hC
        clear hC
        go_wp2_with fail
        go_meet
        exact ⟨rfl, hC'.out⟩
    case rest =>
    obtain ⟨rfl, hC⟩ := hcut
    replace hx := Lib.hid hx
    clear hl1 hl2
    obtain ⟨W0, rfl⟩ : ∃ W0 : World, W0 = wc := ⟨_, rfl⟩
    have hE := True.intro
    have HR0 := Lib.hid (HR.out.below hC)
    have BR0 := Lib.hid (BR.out.trans (hC.mono BR.out.size))
    have FX' := Lib.hid (fun W (hW : Below W0.heap.size W0 W) => FX.out W (hC.trans (hW.mono hC.size)))
    clear hE hC HR BR FX
    obtain ⟨wr, rfl⟩ : ∃ wr : World, wr = W0 := ⟨_, rfl⟩
    have HR := HR0
    have BR := BR0
    have FX := FX'
    clear HR0 BR0 FX'
    by_cases hm16 : (0 : Int) < (k : Int) % 16
    · have B9 := Lib.hid (B7.out.trans (BR.out.mono B7.out.size))
      go_wp2_with fail
      go_roundw
      case rel => exact ⟨k + 1, by omega, by go_num, BR.out⟩
      case measure => simp [intOf]; omega
    have hm17 : (k : Int) % 16 ≤ 0 := by omega
    go_upto_region 15 with fail
    obtain ⟨m1, m2⟩ := hfx.out x hxm.out
    have hFx : Hid (∀ v W, Sto (Old W) W v s → Calls Try.prog 9 #[v, .int .i64 a, kyV x.1] W fun e w' => ∃ P pc, e = .returned (.tuple #[itV x (.slice P x.2.2.length pc), .int .i64 0]) ∧ Itm (New W.heap.size w') w' (itV x (.slice P x.2.2.length pc)) x ∧ Below W.heap.size W w') := Lib.hid fun v W hW => by
      have := hFd.out v x.1 W hW
      rw [m1, m2] at this
      exact this
    clear m1 m2
    obtain ⟨k0, k1, k2, k3, kg⟩ := HR.out.at 3 rfl
    obtain ⟨⟨z0, z1, z2, z3, z4⟩, _⟩ := FX.out wr (Below.refl _ _)
    obtain ⟨wA, hwA, _, _, _, _, _, hsA, hBA, gA⟩ := box_five wr (.int .u8 0) (.int .u32 0) (.int .u32 0) (.int .i64 0) (.slice none 0 0) 40
    obtain ⟨ka0, ka1, ka2, ka3, kag⟩ := (HR.out.below hBA).at 3 rfl
    obtain ⟨⟨za0, za1, za2, za3, za4⟩, _⟩ := FX.out wA hBA
    have SA := Lib.hid (show Sto (Old wA.drew) wA.drew _ s from (HR.out.below hBA.drew).at 4 rfl)
    have SR := Lib.hid (show Sto (Old wr.drew) wr.drew _ s from (HR.out.below (Below.refl _ _).drew).at 4 rfl)
    have hBA' := Lib.hid hBA
    have gA' := Lib.hid gA
    have hsA' := Lib.hid hsA
    clear hBA gA hsA
    have ltA : Hid (wr.heap.size < wA.drew.heap.size) := Lib.hid (by show wr.heap.size < wA.heap.size; rw [hsA'.out]; omega)
    go_cut [13, 14] from 91 to 101 (fun x14 x15 wx => ∃ g P pc, x14 = .pointer (some ⟨g, 0, none⟩) ∧ x15 = .int .i64 0 ∧ BoxW g #[.int .u8 (x.1.1.toNat : Int), .int .u32 x.1.2.1, .int .u32 x.1.2.2, .int .i64 x.2.1, .slice P x.2.2.length pc] 40 wx ∧ Itm (Old wx) wx (itV x (.slice P x.2.2.length pc)) x ∧ Below wr.heap.size wr wx)
    case first =>
      go_region_with (first
        | (go_at_call 9; refine (hFx.out _ _ SR.out).mono ?_; rintro e' wm ⟨P, pc, rfl, hx, hb⟩)
        | (go_at_call 9; refine (hFx.out _ _ SA.out).mono ?_; rintro e' wm ⟨P, pc, rfl, hx, hb⟩; have GA := (hb.block wr.heap.size ltA.out).trans gA'.out; obtain ⟨f0, f1, f2, f3, f4, f5, _⟩ := five_cells GA; obtain ⟨W9, hW9, g9, gr9, gs9⟩ := put_five (u0 := .int .u8 (x.1.1.toNat : Int)) (u1 := .int .u32 x.1.2.1) (u2 := .int .u32 x.1.2.2) (u3 := .int .i64 x.2.1) (u4 := .slice P x.2.2.length pc) GA))
      all_goals (go_wp2_with fail; go_meet; first
        | exact ⟨wr.heap.size, P, pc, rfl, rfl, g9, (hx.grown gr9 (fun q e => by cases e; exact ltA.out)).drop, ((hBA'.out.drew).trans (hb.mono hBA'.out.size)).grown gr9 (Nat.le_trans hBA'.out.size hb.size) (fun q e => by cases e; exact Nat.le_refl _)⟩
        | exact ⟨wm.heap.size, P, pc, rfl, rfl, heap_alloc_new _ _, hx.drop.below ((Below.refl _ _).alloc (Nat.le_refl _) _), ((Below.refl wr.heap.size wr).drew.trans hb).alloc hb.size _⟩)
    case rest =>
    obtain ⟨g, P, pc, rfl, rfl, hG, hI, hC⟩ := hcut
    clear ltA SA SR hBA' gA' hsA' hwA ka0 ka1 ka2 ka3 kag za0 za1 za2 za3 za4 k0 k1 k2 k3 kg z0 z1 z2 z3 z4 hFx
    obtain ⟨W0, rfl⟩ : ∃ W0 : World, W0 = wc := ⟨_, rfl⟩
    have hE := True.intro
    have HR0 := Lib.hid (HR.out.below hC)
    have BR0 := Lib.hid (BR.out.trans (hC.mono BR.out.size))
    have FX' := Lib.hid (fun W (hW : Below W0.heap.size W0 W) => FX.out W (hC.trans (hW.mono hC.size)))
    clear hE hC HR BR FX
    obtain ⟨wr, rfl⟩ : ∃ wr : World, wr = W0 := ⟨_, rfl⟩
    have HR := HR0
    have BR := BR0
    have FX := FX'
    clear HR0 BR0 FX'
    have hG' := Lib.hid hG
    have hI' := Lib.hid hI
    clear hG hI
    go_upto_region 16 with fail
    refine wp_region_fx (by kernel_rfl) (fun W => Below wr.heap.size wr W) (fun _ => none) (fun i => match i with
      | 8 => some (.bool true)
      | _ => none) (by kernel_rfl) (Below.refl _ _).drew (fun w w' h hb => h.trans (hb.mono h.size)) (fun j φ x W W' hp => by cases hp) ?_
    repeat (first
      | (refine wpAs_skip rfl ?_; simp only [Act.put, List.setIfInBounds_toArray, List.set_cons_zero, List.set_cons_succ])
      | (refine wpAs_pure (v := ?_) rfl rfl ?_ ?_; rotate_left; (intro W hC hE; clear hE; (have GW := lasts_boxW _ _ _ _ _ hG'.out hC; obtain ⟨n0, n1, n2, n3, n4, _⟩ := five_cells GW; clear GW; obtain ⟨⟨z0, z1, z2, z3, z4⟩, _⟩ := FX.out W hC); clear hC; go_simp; done); simp only [Act.put, List.setIfInBounds_toArray, List.set_cons_zero, List.set_cons_succ])
      | (refine wpAs_pure (v := ?_) rfl rfl ?_ ?_; rotate_left; (intro W hC hE; clear hE; (have GW := lasts_boxW _ _ _ _ _ hG'.out hC; obtain ⟨n0, n1, n2, n3, n4, _⟩ := five_cells GW; clear GW; obtain ⟨⟨z0, z1, z2, z3, z4⟩, _⟩ := FX.out W hC); clear hC; go_simp; with_reducible rfl); simp only [Act.put, List.setIfInBounds_toArray, List.set_cons_zero, List.set_cons_succ]))
    refine wpAs_fixed rfl rfl rfl ?_ ?_
    · intro W hC hE
      clear hE
      refine does_enter (f := 10) (args := #[itV x (.slice P x.2.2.length pc), itV x (.slice E5 x.2.2.length ce5)]) ?_ ?_
      · go_simp
      · refine (sameI_any _ _ x x W (hI'.out.below hC) (FX.out W hC).2).mono ?_
        rintro e W' ⟨rfl, hg⟩
        rw [sameI_self]
        exact ⟨_, rfl, rfl, hg⟩
    simp only [Act.put, List.setIfInBounds_toArray, List.set_cons_zero, List.set_cons_succ]
    repeat (first
      | (refine wpAs_skip rfl ?_; simp only [Act.put, List.setIfInBounds_toArray, List.set_cons_zero, List.set_cons_succ])
      | (refine wpAs_pure (v := ?_) rfl rfl ?_ ?_; rotate_left; (intro W hC hE; clear hE; skip; clear hC; go_simp; done); simp only [Act.put, List.setIfInBounds_toArray, List.set_cons_zero, List.set_cons_succ])
      | (refine wpAs_pure (v := ?_) rfl rfl ?_ ?_; rotate_left; (intro W hC hE; clear hE; skip; clear hC; go_simp; with_reducible rfl); simp only [Act.put, List.setIfInBounds_toArray, List.set_cons_zero, List.set_cons_succ]))
    refine wpAs_end fun W0 hC hE => ?_
    clear hG' hI'
    have HR0 := Lib.hid (HR.out.below hC)
    have BR0 := Lib.hid (BR.out.trans (hC.mono BR.out.size))
    have FX' := Lib.hid (fun W (hW : Below W0.heap.size W0 W) => FX.out W (hC.trans (hW.mono hC.size)))
    clear hE hC HR BR FX
    obtain ⟨wr, rfl⟩ : ∃ wr : World, wr = W0 := ⟨_, rfl⟩
    have HR := HR0
    have BR := BR0
    have FX := FX'
    clear HR0 BR0 FX'
    go_wp2_with fail
    go_roundw
    case rel => exact ⟨k + 1, by omega, by go_num, BR.out⟩
    case measure => simp [intOf]; omega

/-! ### The row's step -/
set_option maxRecDepth 100000 in
theorem lifted (os : Os) (started : os.Started) (H : Type) (enc : TypeId × Value → H) :
    ReturnsInHanded {} Try.checked os 4 .any (Rows.walkOrderSpec.pre6 enc Try.prog Try.f4 Rows.walkOrderRow.domain false) (Rows.walkOrderSpec.post enc Try.prog Try.f4 false true false false) := by
  refine returnsInHanded_of_change (C := Try.checked) own started (by kernel_rfl) Try.func4
    (ChangeSpec.witness6 (enc := enc) (C := Try.checked) false ⟨#[], #[.agg #[.slice none 0 0, .slice none 0 0, .slice none 0 0, .slice none 0 0], .int .i64 0, .agg #[.int .u8 0, .int .u32 0, .int .u32 0], .agg #[.int .u8 0, .int .u32 0, .int .u32 0]], []⟩ 8 (by kernel_rfl) (by kernel_rfl) (by kernel_rfl) (by kernel_rfl)) ?_
  intro W base args ds gs before hval0 hW _ _
  have hval : ∀ (j : Nat) t v, Try.f4.params[j]? = some t → args[j]? = some v → Value.okWide Try.prog W .any base t v := hval0
  have hW' := hW
  obtain ⟨p, q, hA0, hV, _, _, _⟩ := hW
  have hA : DataW.TrodAll enc Try.prog W 0 (fun _ => true) true Try.f4.params.toList args.toList ds p := hA0
  rw [Try.params4] at hA hval
  obtain ⟨v0, vs0, d0, ds0, p0, q0, hargs, rfl, _, h0, r0⟩ := trodAll_cons hA
  obtain ⟨v1, vs1, d1, ds1, p1, q1, rfl, rfl, _, h1, r1⟩ := trodAll_cons r0
  obtain ⟨v2, vs2, d2, ds2, p2, q2, rfl, rfl, _, h2, r2⟩ := trodAll_cons r1
  obtain ⟨v3, vs3, d3, ds3, p3, q3, rfl, rfl, _, h3, r3⟩ := trodAll_cons r2
  obtain ⟨rfl, rfl, _⟩ := trodAll_nil r3
  obtain rfl : args = #[v0, v1, v2, v3] := by cases args; simp_all
  obtain ⟨rfl, _⟩ := trodVars_none hV
  obtain ⟨d0x, y0⟩ := open_store (hval 0 28 v0 rfl rfl) h0
  obtain ⟨a1, rfl, _, _, w1⟩ := open_int Try.underlying3 (hval 1 3 v1 rfl rfl) h1
  obtain ⟨k2x, rfl, _⟩ := open_key (hval 2 31 v2 rfl rfl) h2
  obtain ⟨k3x, rfl, _⟩ := open_key (hval 3 31 v3 rfl rfl) h3
  clear hA0 hval0
  refine (walk v0 d0x a1 w1 k2x k3x W y0).mono fun e W' ⟨he, hb⟩ => ?_
  subst he
  exact ⟨_, rfl, law_post laidOut (by rw [Try.params4]; decide +kernel) (by kernel_rfl) Try.underlying4 rfl ⟨rfl, by simp [Rows.walkOrderSpec], rfl⟩ hW' hb⟩

theorem over : Rows.walkOrderRow.holds Try.pinned (OpenSpec.ofChange Rows.walkOrderSpec) :=
  OpenClaim.holds_of_wide 4 Try.f4 rfl rfl rfl rfl rfl rfl rfl ⟨rfl, rfl, rfl, rfl, rfl⟩ rfl rfl rfl rfl rfl (by kernel_rfl) Try.func4 (by kernel_rfl)
    (of_decide_eq_true (by kernel_rfl)) (by unfold Func.isWrapper; first | (rw [if_pos (by decide +kernel)]; kernel_rfl) | (rw [if_neg (by decide +kernel)]; exact ⟨rfl, rfl⟩))
    (fun os started H enc _ => lifted os started H enc)

end Go.Proofs.Ytdaidhbmfocodaa.walkOrder
namespace Go.Proofs.Ytdaidhbmfocodaa
theorem walkOrder_proved : Rows.WalkOrderSaid := walkOrder.over
end Go.Proofs.Ytdaidhbmfocodaa
