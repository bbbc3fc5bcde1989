/-
  For every two disks, place, bytes and marks DevDoes answers true and leaves its arguments as they were. No condition.
-/
import Derived.Test.YtgnogclhleheiaaAll03
import Derived.Test.YtgnogclhleheiaaSpoil
import Derived.Test.YtgnogclhleheiaaAny
import Derived.Test.YtgnogclhleheiaaRefSame
import Derived.Test.YtgnogclhleheiaaGreat
import Derived.Deep.CutBlock
import Derived.StillTailTactics
namespace Go.Proofs.Ytgnogclhleheiaa.devDoes
open Go.ChangeShapes Go.WideShapes Go.RowKit

theorem own : ownKnob Try.prog.godebug = none := by kernel_rfl
theorem laidOut : laidOutB Try.prog = true := by kernel_rfl

theorem sameB_self (d : Dk) : sameB d d = true := by simp [sameB]
set_option maxRecDepth 100000 in
set_option maxHeartbeats 16000000 in
theorem walk (v : Value) (d : Dk) (v' : Value) (o : Dk) (p : Int) (hp : (Lit.int .i64 p).wf = true) (u : Value) (xs : List UInt8) (u' : Value) (ks : List Bool) (w : World) (h : Dsk (Old w) w v d) (h' : Dsk (Old w) w v' o) (hu : rBy (Old w) w [u] xs) (hu' : rSl 1 rBool (Old w) w [u'] ks) :
    Calls Try.prog 3 #[v, v', .int .i64 p, u, u'] w fun e w' => e = .returned (.bool true) ∧ Below w.heap.size w w' := by
  clear hp
  obtain ⟨a, b, rfl, _⟩ := id h
  obtain ⟨a', b', rfl, _⟩ := id h'
  obtain ⟨E, ce, rfl, _⟩ := id (rBy_open hu)
  obtain ⟨K, ck, rfl, _⟩ := id (bools_open hu')
  obtain ⟨w2, hw2, f1, f2, f3, hsz, hB2⟩ := box_two w a b #[a', b'] 25
  obtain ⟨f4, f5, _, lt2⟩ := two_cells f3
  have G1 := (Bag.nil w).add (F := OldD (.agg #[a, b]) d) h (lasts_oldD _ _)
  have G2 := G1.add (F := OldD (.agg #[a', b']) o) h' (lasts_oldD _ _)
  have G3 := G2.add (F := OldB (.slice E xs.length ce) xs) hu (lasts_oldB _ _)
  have G4 := (G3.add (F := OldK (.slice K ks.length ck) ks) hu' (lasts_oldK _ _)).below hB2
  have G5 := G4.add (F := Box2 w.heap.size a b) ⟨f1, f2, by omega⟩ (lasts_box _ _ _)
  have HG := Lib.hid (G5.add (F := Box2 (w.heap.size + 1) a' b') ⟨f4, f5, lt2⟩ (lasts_box _ _ _))
  clear G1 G2 G3 G4 G5
  have HW := Lib.hid hB2
  clear h h' hu hu' f1 f2 f3 f4 f5 lt2 hB2
  replace hsz := Lib.hid hsz
  go_enter Try.func3, Try.ntmps3
  go_upto_region 1 with fail
  clear hw2
  obtain ⟨k9, k10, _⟩ := HG.out.at 1 rfl
  have xd : Dsk (Old w2) w2 _ _ := HG.out.at 5 rfl
  go_wp2_with fail
  with_reducible refine (great_any _ _ _ xd).mono ?_
  rintro e3 w3 ⟨rfl, hb⟩
  replace HG := Lib.hid (HG.out.below hb)
  replace HW := Lib.hid (HW.out.trans (hb.mono HW.out.size))
  clear hb k9 k10 xd hsz
  cases hg : greatB d with
  | true =>
    go_wp2_with fail
    go_ret
    exact ⟨rfl, HW.out⟩
  | false =>
  have hsd := Lib.hid (small_of_great hg)
  clear hg
  obtain ⟨k11, k12, _⟩ := HG.out.at 0 rfl
  have xo : Dsk (Old w3) w3 _ _ := HG.out.at 4 rfl
  go_wp2_with fail
  with_reducible refine (great_any _ _ _ xo).mono ?_
  rintro e4 w4 ⟨rfl, hb⟩
  replace HG := Lib.hid (HG.out.below hb)
  replace HW := Lib.hid (HW.out.trans (hb.mono HW.out.size))
  clear hb k11 k12 xo
  cases hg : greatB o with
  | true =>
    go_wp2_with fail
    go_ret
    exact ⟨rfl, HW.out⟩
  | false =>
  clear hg
  by_cases hl : 10000 < xs.length
  · have hl' : (10000 : Int) < xs.length := by omega
    go_wp2_with fail
    go_ret
    exact ⟨rfl, HW.out⟩
  have hl' : ¬ (10000 : Int) < xs.length := by omega
  by_cases hk : 5000 < ks.length
  · have hk' : (5000 : Int) < ks.length := by omega
    go_wp2_with fail
    go_ret
    exact ⟨rfl, HW.out⟩
  have hk' : ¬ (5000 : Int) < ks.length := by omega
  clear hl hk
  obtain ⟨k9, k10, _⟩ := HG.out.at 1 rfl
  have xd : Dsk (Old w4) w4 _ _ := HG.out.at 5 rfl
  go_wp2_with fail
  with_reducible refine (refTwin_any _ _ _ hsd.out xd).mono ?_
  rintro e5 w5 ⟨y, rfl, hy, hb⟩
  obtain ⟨Ao, co, Bo, fo, rfl, _⟩ := id hy.open
  obtain ⟨wR, hwR, HG2, hb2, hb3, lt⟩ := bag_box HG.out hb (.slice Ao d.1.length co) (.slice Bo d.2.length fo)
  have hyo : OldD (.agg #[.slice Ao d.1.length co, .slice Bo d.2.length fo]) d wR := hy.drop.below hb3
  replace HW := Lib.hid (HW.out.trans (hb2.mono HW.out.size))
  replace HG := Lib.hid (HG2.add hyo (lasts_oldD _ _))
  clear hb hb2 hb3 lt HG2 hyo k9 k10 xd hy
  go_upto_region 4 with fail
  clear hwR
  -- region 4
  have HQ : Hid (∀ W, Below wR.heap.size wR W → (Dsk (Old W) W (.agg #[a, b]) d ∧ Dsk (Old W) W (.agg #[a', b']) o ∧ Dsk (Old W) W (.agg #[.slice Ao d.1.length co, .slice Bo d.2.length fo]) d) ∧ Box2 w.heap.size a b W ∧ Box2 (w.heap.size + 1) a' b' W ∧ Box2 w5.heap.size (.slice Ao d.1.length co) (.slice Bo d.2.length fo) W) := Lib.hid fun W hb => by
    have H := HG.out.below hb
    exact ⟨⟨H.at 7 rfl, H.at 6 rfl, H.at 0 rfl⟩, H.at 3 rfl, H.at 2 rfl, H.at 1 rfl⟩
  obtain ⟨q, hq⟩ : ∃ q, chk d = q := ⟨_, rfl⟩
  obtain ⟨s, hs⟩ : ∃ s, sameB d o = s := ⟨_, rfl⟩
  have hqq : (q != q) = false := by simp
  have hss : (s != s) = false := by simp
  replace hq := Lib.hid hq
  replace hs := Lib.hid hs
  refine wp_region_fx (by kernel_rfl) (fun W => Below wR.heap.size wR W) (fun _ => none) (fun i => match i with
      | 1 => some (.int .i64 q)
      | 3 => some (.int .i64 q)
      | 8 => some (.bool s)
      | 11 => some (.bool s)
      | _ => none) (by kernel_rfl) (Below.refl _ _).drew (fun w w' h hb => h.trans (hb.mono h.size)) (fun j φ x W W' hp => by cases hp) ?_
  repeat (first
    | (refine wpAs_skip rfl ?_; simp only [Act.put, List.setIfInBounds_toArray, List.set_cons_zero, List.set_cons_succ])
    | (refine wpAs_pure (v := ?_) rfl rfl ?_ ?_; rotate_left; (intro W hC hE; clear hE; (obtain ⟨_, ⟨z1, z2, _⟩, ⟨z3, z4, _⟩, ⟨z5, z6, _⟩⟩ := HQ.out W hC); clear hC; go_simp; done); simp only [Act.put, List.setIfInBounds_toArray, List.set_cons_zero, List.set_cons_succ])
    | (refine wpAs_pure (v := ?_) rfl rfl ?_ ?_; rotate_left; (intro W hC hE; clear hE; (obtain ⟨_, ⟨z1, z2, _⟩, ⟨z3, z4, _⟩, ⟨z5, z6, _⟩⟩ := HQ.out W hC); clear hC; go_simp; with_reducible rfl); simp only [Act.put, List.setIfInBounds_toArray, List.set_cons_zero, List.set_cons_succ]))
  refine wpAs_fixed rfl rfl rfl ?_ ?_
  · intro W hC hE
    refine does_enter (f := 13) (args := #[.agg #[.slice Ao d.1.length co, .slice Bo d.2.length fo]]) ?_ ?_
    · go_simp
    · refine (check_any _ d W (HQ.out W hC).1.2.2).mono ?_
      rintro e W' ⟨rfl, hg⟩
      rw [hq.out]
      exact ⟨_, rfl, rfl, hg⟩
  simp only [Act.put, List.setIfInBounds_toArray, List.set_cons_zero, List.set_cons_succ]
  repeat (first
    | (refine wpAs_skip rfl ?_; simp only [Act.put, List.setIfInBounds_toArray, List.set_cons_zero, List.set_cons_succ])
    | (refine wpAs_pure (v := ?_) rfl rfl ?_ ?_; rotate_left; (intro W hC hE; clear hE; (obtain ⟨_, ⟨z1, z2, _⟩, ⟨z3, z4, _⟩, ⟨z5, z6, _⟩⟩ := HQ.out W hC); clear hC; go_simp; done); simp only [Act.put, List.setIfInBounds_toArray, List.set_cons_zero, List.set_cons_succ])
    | (refine wpAs_pure (v := ?_) rfl rfl ?_ ?_; rotate_left; (intro W hC hE; clear hE; (obtain ⟨_, ⟨z1, z2, _⟩, ⟨z3, z4, _⟩, ⟨z5, z6, _⟩⟩ := HQ.out W hC); clear hC; go_simp; with_reducible rfl); simp only [Act.put, List.setIfInBounds_toArray, List.set_cons_zero, List.set_cons_succ]))
  refine wpAs_fixed rfl rfl rfl ?_ ?_
  · intro W hC hE
    refine does_enter (f := 14) (args := #[.agg #[a, b]]) ?_ ?_
    · go_simp
    · refine (refCheck_any _ d W (HQ.out W hC).1.1).mono ?_
      rintro e W' ⟨rfl, hg⟩
      rw [hq.out]
      exact ⟨_, rfl, rfl, hg⟩
  simp only [Act.put, List.setIfInBounds_toArray, List.set_cons_zero, List.set_cons_succ]
  repeat (first
    | (refine wpAs_skip rfl ?_; simp only [Act.put, List.setIfInBounds_toArray, List.set_cons_zero, List.set_cons_succ])
    | (refine wpAs_pure (v := ?_) rfl rfl ?_ ?_; rotate_left; (intro W hC hE; clear hE; (obtain ⟨_, ⟨z1, z2, _⟩, ⟨z3, z4, _⟩, ⟨z5, z6, _⟩⟩ := HQ.out W hC); clear hC; go_simp; done); simp only [Act.put, List.setIfInBounds_toArray, List.set_cons_zero, List.set_cons_succ])
    | (refine wpAs_pure (v := ?_) rfl rfl ?_ ?_; rotate_left; (intro W hC hE; clear hE; (obtain ⟨_, ⟨z1, z2, _⟩, ⟨z3, z4, _⟩, ⟨z5, z6, _⟩⟩ := HQ.out W hC); clear hC; go_simp; with_reducible rfl); simp only [Act.put, List.setIfInBounds_toArray, List.set_cons_zero, List.set_cons_succ]))
  refine wpAs_fixed rfl rfl rfl ?_ ?_
  · intro W hC hE
    refine does_enter (f := 15) (args := #[.agg #[.slice Ao d.1.length co, .slice Bo d.2.length fo], .agg #[a', b']]) ?_ ?_
    · go_simp
    · refine (same_any _ _ d o W (HQ.out W hC).1.2.2 (HQ.out W hC).1.2.1).mono ?_
      rintro e W' ⟨rfl, hg⟩
      rw [hs.out]
      exact ⟨_, rfl, rfl, hg⟩
  simp only [Act.put, List.setIfInBounds_toArray, List.set_cons_zero, List.set_cons_succ]
  repeat (first
    | (refine wpAs_skip rfl ?_; simp only [Act.put, List.setIfInBounds_toArray, List.set_cons_zero, List.set_cons_succ])
    | (refine wpAs_pure (v := ?_) rfl rfl ?_ ?_; rotate_left; (intro W hC hE; clear hE; (obtain ⟨_, ⟨z1, z2, _⟩, ⟨z3, z4, _⟩, ⟨z5, z6, _⟩⟩ := HQ.out W hC); clear hC; go_simp; done); simp only [Act.put, List.setIfInBounds_toArray, List.set_cons_zero, List.set_cons_succ])
    | (refine wpAs_pure (v := ?_) rfl rfl ?_ ?_; rotate_left; (intro W hC hE; clear hE; (obtain ⟨_, ⟨z1, z2, _⟩, ⟨z3, z4, _⟩, ⟨z5, z6, _⟩⟩ := HQ.out W hC); clear hC; go_simp; with_reducible rfl); simp only [Act.put, List.setIfInBounds_toArray, List.set_cons_zero, List.set_cons_succ]))
  refine wpAs_fixed rfl rfl rfl ?_ ?_
  · intro W hC hE
    refine does_enter (f := 16) (args := #[.agg #[a, b], .agg #[a', b']]) ?_ ?_
    · go_simp
    · refine (refSame_any _ _ d o W (HQ.out W hC).1.1 (HQ.out W hC).1.2.1).mono ?_
      rintro e W' ⟨rfl, hg⟩
      rw [hs.out]
      exact ⟨_, rfl, rfl, hg⟩
  simp only [Act.put, List.setIfInBounds_toArray, List.set_cons_zero, List.set_cons_succ]
  repeat (first
    | (refine wpAs_skip rfl ?_; simp only [Act.put, List.setIfInBounds_toArray, List.set_cons_zero, List.set_cons_succ])
    | (refine wpAs_pure (v := ?_) rfl rfl ?_ ?_; rotate_left; (intro W hC hE; clear hE; (obtain ⟨_, ⟨z1, z2, _⟩, ⟨z3, z4, _⟩, ⟨z5, z6, _⟩⟩ := HQ.out W hC); clear hC; go_simp; done); simp only [Act.put, List.setIfInBounds_toArray, List.set_cons_zero, List.set_cons_succ])
    | (refine wpAs_pure (v := ?_) rfl rfl ?_ ?_; rotate_left; (intro W hC hE; clear hE; (obtain ⟨_, ⟨z1, z2, _⟩, ⟨z3, z4, _⟩, ⟨z5, z6, _⟩⟩ := HQ.out W hC); clear hC; go_simp; with_reducible rfl); simp only [Act.put, List.setIfInBounds_toArray, List.set_cons_zero, List.set_cons_succ]))
  refine wpAs_end fun W6 hC hE => ?_
  clear hE HQ
  replace HG := Lib.hid (HG.out.below hC)
  have HG6 := HG
  replace HW := Lib.hid (HW.out.trans (hC.mono HW.out.size))
  have HW6 := HW
  have HR : Hid (Below W6.heap.size W6 W6) := Lib.hid (Below.refl _ _)
  clear HW hC
  obtain ⟨k13, k14, _⟩ := HG.out.at 1 rfl
  have xown : Dsk (Old W6) W6 _ _ := HG.out.at 0 rfl
  go_wp2_with fail
  with_reducible refine (read_all _ _ p _ xown).mono ?_
  rintro e8 w8 ⟨P, rfl, hP, hb⟩
  obtain ⟨Ap, cp, rfl, _⟩ := rBy_open hP
  obtain ⟨ps, hps⟩ : ∃ ps, rdX d p = ps := ⟨_, rfl⟩
  obtain ⟨q1, hq1⟩ : ∃ q1, chkAt d p = q1 := ⟨_, rfl⟩
  rw [hps] at hP ⊢
  rw [hq1]
  replace hps := Lib.hid hps
  replace hq1 := Lib.hid hq1
  replace HG := Lib.hid ((HG.out.below hb).add (F := NewB W6.heap.size (.slice Ap ps.length cp) ps) hP (lasts_newB _ _ _))
  have hP8 := Lib.hid hP
  have HP : Hid (Below w8.heap.size w8 w8) := Lib.hid (Below.refl _ _)
  clear hP
  replace HR := Lib.hid (HR.out.trans (hb.mono HR.out.size))
  clear hb k13 k14 xown
  obtain ⟨k9, k10, _⟩ := HG.out.at 4 rfl
  have xd : Dsk (Old w8) w8 _ _ := HG.out.at 8 rfl
  go_wp2_with fail
  with_reducible refine (refRead_any _ _ p _ xd).mono ?_
  rintro e9 w9 ⟨Q, rfl, hQ, hb⟩
  rw [hps.out] at hQ
  obtain ⟨Aq, cq, rfl, _⟩ := rBy_open hQ
  rw [hq1.out]
  replace HG := Lib.hid ((HG.out.below hb).add (F := OldB (.slice Aq ps.length cq) ps) hQ (lasts_oldB _ _))
  replace HP := Lib.hid (HP.out.trans (hb.mono HP.out.size))
  clear hQ
  replace HR := Lib.hid (HR.out.trans (hb.mono HR.out.size))
  clear hb k9 k10 xd
  obtain ⟨k13, k14, _⟩ := HG.out.at 3 rfl
  have xown : Dsk (Old w9) w9 _ _ := HG.out.at 2 rfl
  have xxs : rBy (Old w9) w9 [_] _ := HG.out.at 7 rfl
  go_wp2_with fail
  with_reducible refine (write_all _ _ d p xs _ xown xxs).mono ?_
  rintro e10 w10 ⟨x, rfl, hx, hb⟩
  obtain ⟨dW, hdW⟩ : ∃ dW, wrR d p xs = dW := ⟨_, rfl⟩
  obtain ⟨q2, hq2⟩ : ∃ q2, wErr d p xs = q2 := ⟨_, rfl⟩
  rw [hdW] at hx
  rw [hq2]
  replace hdW := Lib.hid hdW
  replace hq2 := Lib.hid hq2
  obtain ⟨AW, cW, BW, fW, rfl, _⟩ := id hx.open
  obtain ⟨w11, hw, HG2, hb2, hb3, lt⟩ := bag_box HG.out hb (.slice AW dW.1.length cW) (.slice BW dW.2.length fW)
  have hx2 : NewD w9.heap.size (.agg #[.slice AW dW.1.length cW, .slice BW dW.2.length fW]) dW w11 := hx.new (Nat.le_refl _) hb3
  have hlW : Hid (W6.heap.size ≤ w9.heap.size) := Lib.hid HR.out.size
  have h8W : Hid (w8.heap.size ≤ w9.heap.size) := Lib.hid HP.out.size
  replace HG := Lib.hid ((HG2.add hx2 (lasts_newD _ _ _)).add (F := SizeF w9.heap.size) hb2.size (lasts_size _))
  replace HR := Lib.hid (HR.out.trans (hb2.mono HR.out.size))
  replace HP := Lib.hid (HP.out.trans (hb2.mono HP.out.size))
  clear hb hb2 hb3 lt HG2 hx hx2 k13 k14 xown xxs
  go_upto_region 9 with fail
  clear hw
  obtain ⟨k9, k10, _⟩ := HG.out.at 8 rfl
  have xd : Dsk (Old w11) w11 _ _ := HG.out.at 12 rfl
  have xxs : rBy (Old w11) w11 [_] _ := HG.out.at 10 rfl
  go_wp2_with fail
  with_reducible refine (refWrite_any _ _ d p xs _ xd xxs).mono ?_
  rintro e12 w12 ⟨x, rfl, hx, hb⟩
  rw [hdW.out] at hx
  rw [hq2.out]
  obtain ⟨dX, hdX⟩ : ∃ dX, dX = dW := ⟨_, rfl⟩
  rw [← hdX] at hx
  replace hdX := Lib.hid hdX
  obtain ⟨AX, cX, BX, fX, rfl, _⟩ := id hx.open
  obtain ⟨w13, hw, HG2, hb2, hb3, lt⟩ := bag_box HG.out hb (.slice AX dX.1.length cX) (.slice BX dX.2.length fX)
  have hx2 : OldD (.agg #[.slice AX dX.1.length cX, .slice BX dX.2.length fX]) dX w13 := hx.below hb3
  replace HG := Lib.hid (HG2.add hx2 (lasts_oldD _ _))
  replace HR := Lib.hid (HR.out.trans (hb2.mono HR.out.size))
  replace HP := Lib.hid (HP.out.trans (hb2.mono HP.out.size))
  clear hb hb2 hb3 lt HG2 hx hx2 k9 k10 xd xxs
  go_upto_region 10 with fail
  clear hw
  obtain ⟨k13, k14, _⟩ := HG.out.at 8 rfl
  have xown : Dsk (Old w13) w13 _ _ := HG.out.at 7 rfl
  go_wp2_with fail
  with_reducible refine (barrier_all _ d _ xown).mono ?_
  rintro e14 w14 ⟨x, rfl, hx, hb⟩
  obtain ⟨dB, hdB⟩ : ∃ dB, barX d = dB := ⟨_, rfl⟩
  rw [hdB] at hx
  rw [hq.out]
  replace hdB := Lib.hid hdB
  obtain ⟨AB, cB, BB, fB, rfl, _⟩ := id hx.open
  obtain ⟨w15, hw, HG2, hb2, hb3, lt⟩ := bag_box HG.out hb (.slice AB dB.1.length cB) (.slice BB dB.2.length fB)
  have hx2 : NewD w13.heap.size (.agg #[.slice AB dB.1.length cB, .slice BB dB.2.length fB]) dB w15 := hx.new (Nat.le_refl _) hb3
  have hlB : Hid (W6.heap.size ≤ w13.heap.size) := Lib.hid HR.out.size
  have h8B : Hid (w8.heap.size ≤ w13.heap.size) := Lib.hid HP.out.size
  replace HG := Lib.hid ((HG2.add hx2 (lasts_newD _ _ _)).add (F := SizeF w13.heap.size) hb2.size (lasts_size _))
  replace HR := Lib.hid (HR.out.trans (hb2.mono HR.out.size))
  replace HP := Lib.hid (HP.out.trans (hb2.mono HP.out.size))
  clear hb hb2 hb3 lt HG2 hx hx2 k13 k14 xown
  go_upto_region 11 with fail
  clear hw
  obtain ⟨k9, k10, _⟩ := HG.out.at 13 rfl
  have xd : Dsk (Old w15) w15 _ _ := HG.out.at 17 rfl
  go_wp2_with fail
  with_reducible refine (refBarrier_any _ d _ xd).mono ?_
  rintro e16 w16 ⟨x, rfl, hx, hb⟩
  rw [hdB.out] at hx
  rw [hq.out]
  obtain ⟨dC, hdC⟩ : ∃ dC, dC = dB := ⟨_, rfl⟩
  rw [← hdC] at hx
  replace hdC := Lib.hid hdC
  obtain ⟨AC, cC, BC, fC, rfl, _⟩ := id hx.open
  obtain ⟨w17, hw, HG2, hb2, hb3, lt⟩ := bag_box HG.out hb (.slice AC dC.1.length cC) (.slice BC dC.2.length fC)
  have hx2 : OldD (.agg #[.slice AC dC.1.length cC, .slice BC dC.2.length fC]) dC w17 := hx.below hb3
  replace HG := Lib.hid (HG2.add hx2 (lasts_oldD _ _))
  replace HR := Lib.hid (HR.out.trans (hb2.mono HR.out.size))
  replace HP := Lib.hid (HP.out.trans (hb2.mono HP.out.size))
  clear hb hb2 hb3 lt HG2 hx hx2 k9 k10 xd
  go_upto_region 12 with fail
  clear hw
  obtain ⟨k13, k14, _⟩ := HG.out.at 13 rfl
  have xown : Dsk (Old w17) w17 _ _ := HG.out.at 12 rfl
  have xks : rSl 1 rBool (Old w17) w17 [_] _ := HG.out.at 16 rfl
  go_wp2_with fail
  with_reducible refine (crash_all _ _ d ks _ xown xks).mono ?_
  rintro e18 w18 ⟨x, rfl, hx, hb⟩
  obtain ⟨dS, hdS⟩ : ∃ dS, craX d ks = dS := ⟨_, rfl⟩
  obtain ⟨q4, hq4⟩ : ∃ q4, craE d ks = q4 := ⟨_, rfl⟩
  rw [hdS] at hx
  rw [hq4]
  replace hdS := Lib.hid hdS
  replace hq4 := Lib.hid hq4
  obtain ⟨AS, cS, BS, fS, rfl, _⟩ := id hx.open
  obtain ⟨w19, hw, HG2, hb2, hb3, lt⟩ := bag_box HG.out hb (.slice AS dS.1.length cS) (.slice BS dS.2.length fS)
  have hx2 : NewD w17.heap.size (.agg #[.slice AS dS.1.length cS, .slice BS dS.2.length fS]) dS w19 := hx.new (Nat.le_refl _) hb3
  have hlS : Hid (W6.heap.size ≤ w17.heap.size) := Lib.hid HR.out.size
  have h8S : Hid (w8.heap.size ≤ w17.heap.size) := Lib.hid HP.out.size
  replace HG := Lib.hid ((HG2.add hx2 (lasts_newD _ _ _)).add (F := SizeF w17.heap.size) hb2.size (lasts_size _))
  replace HR := Lib.hid (HR.out.trans (hb2.mono HR.out.size))
  replace HP := Lib.hid (HP.out.trans (hb2.mono HP.out.size))
  clear hb hb2 hb3 lt HG2 hx hx2 k13 k14 xown xks
  go_upto_region 13 with fail
  clear hw
  obtain ⟨k9, k10, _⟩ := HG.out.at 18 rfl
  have xd : Dsk (Old w19) w19 _ _ := HG.out.at 22 rfl
  have xks : rSl 1 rBool (Old w19) w19 [_] _ := HG.out.at 19 rfl
  go_wp2_with fail
  with_reducible refine (refCrash_any _ _ d ks _ xd xks).mono ?_
  rintro e20 w20 ⟨x, rfl, hx, hb⟩
  rw [hdS.out] at hx
  rw [hq4.out]
  obtain ⟨dT, hdT⟩ : ∃ dT, dT = dS := ⟨_, rfl⟩
  rw [← hdT] at hx
  replace hdT := Lib.hid hdT
  obtain ⟨AT, cT, BT, fT, rfl, _⟩ := id hx.open
  obtain ⟨w21, hw, HG2, hb2, hb3, lt⟩ := bag_box HG.out hb (.slice AT dT.1.length cT) (.slice BT dT.2.length fT)
  have hx2 : OldD (.agg #[.slice AT dT.1.length cT, .slice BT dT.2.length fT]) dT w21 := hx.below hb3
  replace HG := Lib.hid (HG2.add hx2 (lasts_oldD _ _))
  replace HR := Lib.hid (HR.out.trans (hb2.mono HR.out.size))
  replace HP := Lib.hid (HP.out.trans (hb2.mono HP.out.size))
  clear hb hb2 hb3 lt HG2 hx hx2 k9 k10 xd xks
  go_upto_region 14 with fail
  clear hw
  have n1 : (q1 != q1) = false := by simp
  have n2 : (q2 != q2) = false := by simp
  have n4 : (q4 != q4) = false := by simp
  have n6 : ((⟨ps.toArray⟩ : ByteArray) == ⟨ps.toArray⟩) = true := by rw [str_eq]; simp
  have n5 : ((⟨ps.toArray⟩ : ByteArray) != ⟨ps.toArray⟩) = false := by show (!_) = false; rw [n6]; rfl
  have c1 := rBy_str0 (stab_by.drop (HG.out.at 16 rfl : rBy (New _ w21) w21 [_] _))
  have c2 := rBy_str0 (HG.out.at 15 rfl : rBy (Old w21) w21 [_] _)
  obtain ⟨k21, k22, _⟩ := HG.out.at 14 rfl
  obtain ⟨k27, k28, _⟩ := HG.out.at 11 rfl
  have xW : Dsk (Old w21) w21 _ _ := Dsk.drop (HG.out.at 13 rfl : Dsk (New _ w21) w21 _ _)
  have xX : Dsk (Old w21) w21 _ _ := HG.out.at 10 rfl
  have hsm : sameB dW dX = true := by rw [hdX.out]; exact sameB_self _
  replace hsm := Lib.hid hsm
  go_wp2_with fail
  with_reducible refine (refSame_any _ _ dW dX _ xW xX).mono ?_
  rintro e22 w22 ⟨rfl, hb⟩
  rw [hsm.out]
  replace HG := Lib.hid (HG.out.below hb)
  replace HP := Lib.hid (HP.out.trans (hb.mono HP.out.size))
  replace HR := Lib.hid (HR.out.trans (hb.mono HR.out.size))
  clear hb k21 k22 k27 k28 xW xX hsm c1 c2
  obtain ⟨k31, k32, _⟩ := HG.out.at 9 rfl
  obtain ⟨k37, k38, _⟩ := HG.out.at 6 rfl
  have xB : Dsk (Old w22) w22 _ _ := Dsk.drop (HG.out.at 8 rfl : Dsk (New _ w22) w22 _ _)
  have xC : Dsk (Old w22) w22 _ _ := HG.out.at 5 rfl
  have hsm : sameB dB dC = true := by rw [hdC.out]; exact sameB_self _
  replace hsm := Lib.hid hsm
  go_wp2_with fail
  with_reducible refine (refSame_any _ _ dB dC _ xB xC).mono ?_
  rintro e23 w23 ⟨rfl, hb⟩
  rw [hsm.out]
  replace HG := Lib.hid (HG.out.below hb)
  replace HP := Lib.hid (HP.out.trans (hb.mono HP.out.size))
  replace HR := Lib.hid (HR.out.trans (hb.mono HR.out.size))
  clear hb k31 k32 k37 k38 xB xC hsm
  obtain ⟨k41, k42, _⟩ := HG.out.at 4 rfl
  obtain ⟨k47, k48, _⟩ := HG.out.at 1 rfl
  have xS : Dsk (Old w23) w23 _ _ := Dsk.drop (HG.out.at 3 rfl : Dsk (New _ w23) w23 _ _)
  have xT : Dsk (Old w23) w23 _ _ := HG.out.at 0 rfl
  have hsm : sameB dS dT = true := by rw [hdT.out]; exact sameB_self _
  replace hsm := Lib.hid hsm
  go_wp2_with fail
  with_reducible refine (refSame_any _ _ dS dT _ xS xT).mono ?_
  rintro e24 w24 ⟨rfl, hb⟩
  rw [hsm.out]
  replace HG := Lib.hid (HG.out.below hb)
  replace HP := Lib.hid (HP.out.trans (hb.mono HP.out.size))
  replace HR := Lib.hid (HR.out.trans (hb.mono HR.out.size))
  clear hb k41 k42 k47 k48 xS xT hsm
  go_wp2_with fail
  with_reducible refine (new_any _).mono ?_
  rintro e25 w25 ⟨N1, rfl, hN1, hb⟩
  replace HG := Lib.hid (HG.out.below hb)
  replace HP := Lib.hid (HP.out.trans (hb.mono HP.out.size))
  replace HR := Lib.hid (HR.out.trans (hb.mono HR.out.size))
  clear hb 
  obtain ⟨an, bn, rfl, _⟩ := id hN1
  go_wp2_with fail
  with_reducible refine (refNew_any _).mono ?_
  rintro e26 w26 ⟨N2, rfl, hN2, hb⟩
  replace HG := Lib.hid (HG.out.below hb)
  replace HP := Lib.hid (HP.out.trans (hb.mono HP.out.size))
  have hN3 := hN1.drop.below hb
  replace HR := Lib.hid (HR.out.trans (hb.mono HR.out.size))
  clear hb hN1
  obtain ⟨am, bm, rfl, _⟩ := id hN2
  go_wp2_with fail
  with_reducible refine (refSame_any _ _ zeroD zeroD _ hN3 hN2.drop).mono ?_
  rintro e27 w27 ⟨rfl, hb⟩
  rw [sameB_self]
  replace HG := Lib.hid (HG.out.below hb)
  replace HP := Lib.hid (HP.out.trans (hb.mono HP.out.size))
  replace HR := Lib.hid (HR.out.trans (hb.mono HR.out.size))
  clear hb hN3 hN2
  clear n1 n2 n4 n5 n6
  have hBW : Hid (Box2 _ _ _ w27) := Lib.hid (HG.out.at 14 rfl)
  have hNW : Hid (Dsk (New _ w27) w27 _ _) := Lib.hid (HG.out.at 13 rfl)
  have hsW : Hid (_ ≤ w27.heap.size) := Lib.hid (HG.out.at 12 rfl)
  have hBB : Hid (Box2 _ _ _ w27) := Lib.hid (HG.out.at 9 rfl)
  have hNB : Hid (Dsk (New _ w27) w27 _ _) := Lib.hid (HG.out.at 8 rfl)
  have hsB : Hid (_ ≤ w27.heap.size) := Lib.hid (HG.out.at 7 rfl)
  have hBS : Hid (Box2 _ _ _ w27) := Lib.hid (HG.out.at 4 rfl)
  have hNS : Hid (Dsk (New _ w27) w27 _ _) := Lib.hid (HG.out.at 3 rfl)
  have hsS : Hid (_ ≤ w27.heap.size) := Lib.hid (HG.out.at 2 rfl)
  clear HG
  obtain ⟨k1, k2, _⟩ := hBW.out
  go_wp2_with fail
  refine (spoil_any _ _ _ _ hsW.out hNW.out).mono ?_
  rintro e28 w28 ⟨⟨_, rfl⟩, hS⟩
  replace hBB := Lib.hid (hS.box hBB.out)
  obtain ⟨_, hN2⟩ := hS.dsk hNB.out
  replace hNB := Lib.hid hN2
  replace hsB := Lib.hid (Nat.le_trans hsB.out hS.low.size)
  clear hN2
  replace hBS := Lib.hid (hS.box hBS.out)
  obtain ⟨_, hN2⟩ := hS.dsk hNS.out
  replace hNS := Lib.hid hN2
  replace hsS := Lib.hid (Nat.le_trans hsS.out hS.low.size)
  clear hN2
  replace HR := Lib.hid (HR.out.trans (hS.low.mono hlW.out))
  replace HP := Lib.hid (HP.out.trans (hS.low.mono h8W.out))
  clear hS k1 k2
  obtain ⟨k1, k2, _⟩ := hBB.out
  go_wp2_with fail
  refine (spoil_any _ _ _ _ hsB.out hNB.out).mono ?_
  rintro e29 w29 ⟨⟨_, rfl⟩, hS⟩
  replace hBS := Lib.hid (hS.box hBS.out)
  obtain ⟨_, hN2⟩ := hS.dsk hNS.out
  replace hNS := Lib.hid hN2
  replace hsS := Lib.hid (Nat.le_trans hsS.out hS.low.size)
  clear hN2
  replace HR := Lib.hid (HR.out.trans (hS.low.mono hlB.out))
  replace HP := Lib.hid (HP.out.trans (hS.low.mono h8B.out))
  clear hS k1 k2
  obtain ⟨k1, k2, _⟩ := hBS.out
  go_wp2_with fail
  refine (spoil_any _ _ _ _ hsS.out hNS.out).mono ?_
  rintro e30 w30 ⟨⟨_, rfl⟩, hS⟩
  replace HR := Lib.hid (HR.out.trans (hS.low.mono hlS.out))
  replace HP := Lib.hid (HP.out.trans (hS.low.mono h8S.out))
  clear hS k1 k2
  obtain ⟨k13, k14, _⟩ := (HG6.out.below HR.out).at 1 rfl
  have xown : Dsk (Old w30) w30 _ _ := (HG6.out.below HR.out).at 0 rfl
  go_wp2_with fail
  with_reducible refine (twin_any _ _ _ hsd.out xown).mono ?_
  rintro e31 w31 ⟨T, rfl, hT, hb⟩
  obtain ⟨at1, bt1, rfl, _⟩ := id hT
  have hlQ := Lib.hid HP.out.size
  replace HP := Lib.hid (HP.out.trans (hb.mono HP.out.size))
  have hsz := hb.size
  have hlR := Lib.hid HR.out.size
  replace HR := Lib.hid (HR.out.trans (hb.mono HR.out.size))
  clear hb k13 k14 xown
  go_wp2_with fail
  refine (spoil_any _ _ _ _ hsz hT).mono ?_
  rintro e32 w32 ⟨⟨_, rfl⟩, hS⟩
  replace HR := Lib.hid (HR.out.trans (hS.low.mono hlR.out))
  replace HP := Lib.hid (HP.out.trans (hS.low.mono hlQ.out))
  clear hS hT hsz
  have hPz := Lib.hid (stab_by.new hP8.out (Nat.le_refl _) HP.out)
  obtain ⟨_, _, e, lP, mP, HPc⟩ := rBy_open hPz.out
  cases e
  replace HPc := Lib.hid HPc
  obtain ⟨m, hm⟩ : ∃ m, ps.length = m := ⟨_, rfl⟩
  rw [hm] at lP
  rw [hm]
  replace hm := Lib.hid hm
  clear hP8 hPz
  go_wp2_with fail
  go_loopw [28] (fun i wr => ∃ k : Nat, k ≤ m ∧ i = .int .i64 k ∧ Spoilt W6.heap.size w32 wr) (fun i _ => m - (intOf i).toNat)
  case atStart => exact ⟨0, by omega, rfl, Spoilt.refl _ _⟩
  case round =>
    obtain ⟨k, hk, rfl, hT⟩ := hrel
    by_cases hlt : k < m
    · obtain ⟨bd, rfl, hok2, hcb⟩ := HPc.out k (by rw [hm.out]; exact hlt)
      obtain ⟨y, hy⟩ := hT.byte (bd.add k) _ hok2.2.1 hcb
      have hf := (hT.fro _ hok2.2.1).trans hok2.2.2
      have hadd := u8_succ3 y
      have hst := Lib.hid (hT.step hok2.1 hy (y + 1))
      generalize (y + 1) = y' at *
      replace hok2 := Lib.hid hok2
      clear hcb hT
      go_wp2_with fail
      go_roundw
      case rel => exact ⟨k + 1, by omega, by go_num, hst.out⟩
      case measure => simp [intOf]; omega
    · have hRz := HR.out.trans hT.low
      clear hT
      obtain ⟨k13, k14, _⟩ := (HG6.out.below hRz).at 1 rfl
      obtain ⟨k9, k10, _⟩ := (HG6.out.below hRz).at 3 rfl
      have xown : Dsk (Old wr) wr _ _ := (HG6.out.below hRz).at 0 rfl
      have xd : Dsk (Old wr) wr _ _ := (HG6.out.below hRz).at 7 rfl
      have hfin := Lib.hid (HW6.out.trans (hRz.mono HW6.out.size))
      clear hRz
      go_wp2_with fail
      with_reducible refine (refSame_any _ _ d d _ xown xd).mono ?_
      rintro ez wf ⟨rfl, hb⟩
      rw [sameB_self]
      have hfin2 := Lib.hid (hfin.out.trans (hb.mono hfin.out.size))
      clear hb
      go_wp2_with fail
      go_ret
      exact ⟨rfl, hfin2.out⟩

/-! ### The row's step -/
set_option maxRecDepth 100000 in
theorem lifted (os : Os) (started : os.Started) (H : Type) (enc : TypeId × Value → H) :
    ReturnsInHanded {} Try.checked os 3 .any (Rows.devDoesSpec.pre6 enc Try.prog Try.f3 Rows.devDoesRow.domain false) (Rows.devDoesSpec.post enc Try.prog Try.f3 false true false false) := by
  refine returnsInHanded_of_change (C := Try.checked) own started (by kernel_rfl) Try.func3
    (ChangeSpec.witness6 (enc := enc) (C := Try.checked) false ⟨#[], #[.agg #[.slice none 0 0, .slice none 0 0], .agg #[.slice none 0 0, .slice none 0 0], .int .i64 0, .slice none 0 0, .slice none 0 0], []⟩ 8 (by kernel_rfl) (by kernel_rfl) (by kernel_rfl) (by kernel_rfl)) ?_
  intro W base args ds gs before hval0 hW _ _
  have hval : ∀ (j : Nat) t v, Try.f3.params[j]? = some t → args[j]? = some v → Value.okWide Try.prog W .any base t v := hval0
  have hW' := hW
  obtain ⟨p, q, hA0, hV, _, _, _⟩ := hW
  have hA : DataW.TrodAll enc Try.prog W 0 (fun _ => true) true Try.f3.params.toList args.toList ds p := hA0
  rw [Try.params3] at hA hval
  obtain ⟨v0, vs0, d0, ds0, p0, q0, hargs, rfl, _, h0, r0⟩ := trodAll_cons hA
  obtain ⟨v1, vs1, d1, ds1, p1, q1, rfl, rfl, _, h1, r1⟩ := trodAll_cons r0
  obtain ⟨v2, vs2, d2, ds2, p2, q2, rfl, rfl, _, h2, r2⟩ := trodAll_cons r1
  obtain ⟨v3, vs3, d3, ds3, p3, q3, rfl, rfl, _, h3, r3⟩ := trodAll_cons r2
  obtain ⟨v4, vs4, d4, ds4, p4, q4, rfl, rfl, _, h4, r4⟩ := trodAll_cons r3
  obtain ⟨rfl, rfl, _⟩ := trodAll_nil r4
  obtain rfl : args = #[v0, v1, v2, v3, v4] := by cases args; simp_all
  obtain ⟨rfl, _⟩ := trodVars_none hV
  obtain ⟨d0x, y0⟩ := open_disk (hval 0 25 v0 rfl rfl) h0
  obtain ⟨d1x, y1⟩ := open_disk (hval 1 25 v1 rfl rfl) h1
  obtain ⟨a2, rfl, _, _, w2⟩ := open_int Try.underlying3 (hval 2 3 v2 rfl rfl) h2
  obtain ⟨d3x, y3⟩ := open_by (hval 3 26 v3 rfl rfl) h3
  obtain ⟨d4x, y4⟩ := open_bools (hval 4 27 v4 rfl rfl) h4
  clear hA0 hval0
  refine (walk v0 d0x v1 d1x a2 w2 v3 d3x v4 d4x W y0 y1 y3 y4).mono fun e W' ⟨he, hb⟩ => ?_
  subst he
  exact ⟨_, rfl, law_post laidOut (by rw [Try.params3]; decide +kernel) (by kernel_rfl) Try.underlying4 rfl ⟨rfl, by simp [Rows.devDoesSpec], rfl⟩ hW' hb⟩

theorem over : Rows.devDoesRow.holds Try.pinned (OpenSpec.ofChange Rows.devDoesSpec) :=
  OpenClaim.holds_of_wide 3 Try.f3 rfl rfl rfl rfl rfl rfl rfl ⟨rfl, rfl, rfl, rfl, rfl⟩ rfl rfl rfl rfl rfl (by kernel_rfl) Try.func3 (by kernel_rfl)
    (of_decide_eq_true (by kernel_rfl)) (by unfold Func.isWrapper; first | (rw [if_pos (by decide +kernel)]; kernel_rfl) | (rw [if_neg (by decide +kernel)]; exact ⟨rfl, rfl⟩))
    (fun os started H enc _ => lifted os started H enc)

end Go.Proofs.Ytgnogclhleheiaa.devDoes
namespace Go.Proofs.Ytgnogclhleheiaa
theorem devDoes_proved : Rows.DevDoesSaid := devDoes.over
end Go.Proofs.Ytgnogclhleheiaa
