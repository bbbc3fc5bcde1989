/-
  For every node and key NodePlaces answers true and leaves its arguments as they were. No condition.
-/
import Derived.Test.YtpcajbcdahcehaaBnd3
namespace Go.Proofs.Ytpcajbcdahcehaa.nodePlaces
open Go.ChangeShapes Go.WideShapes Go.RowKit

theorem own : ownKnob Try.prog.godebug = none := by kernel_rfl
theorem laidOut : laidOutB Try.prog = true := by kernel_rfl

set_option maxRecDepth 100000 in
set_option maxHeartbeats 8000000 in
theorem walk (v : Value) (n : Nd) (key : Ky) (w : World) (hv : Nod (Old w) w v n) :
    Calls Try.prog 6 #[v, kyV key] w fun e w' => e = .returned (.bool true) ∧ Below w.heap.size w w' := by
  obtain ⟨A, c, rfl, hin, l1, m1, hA⟩ := hv.open
  obtain ⟨l, hl⟩ : ∃ l, n.1 = l := ⟨_, rfl⟩
  obtain ⟨m, hm⟩ : ∃ m, n.2.length = m := ⟨_, rfl⟩
  rw [hl, hm] at hv ⊢
  rw [hm] at l1 hA
  have G0 := (((Bag.nil w).add (F := OldN _ _) hv (lasts_oldN _ _)).add (F := OldIs _ _) hA (lasts_oldIs _ _))
  obtain ⟨w1, hw1, G1, B1, _, s1⟩ := bag_node G0 (Below.refl _ _) (.int .i64 l) (.slice A m c)
  obtain ⟨w2, hw2, G2, B2, _, s2⟩ := bag_key G1 (Below.refl _ _) (.int .u8 (key.1.toNat : Int)) (.int .u32 key.2.1) (.int .u32 key.2.2)
  have BB := Lib.hid (B1.trans (B2.mono B1.size))
  have HG := Lib.hid G2
  replace hw2 := Lib.hid hw2
  replace hl := Lib.hid hl
  replace hm := Lib.hid hm
  clear G0 G1 G2 B1 B2 s1 s2 hv hA hin
  unfold kyV
  go_enter Try.func6, Try.ntmps6
  go_upto_region 1 with fail
  rw [hw2.out]
  clear hw1 hw2
  go_wp2_with fail
  with_reducible refine (alive6 _).mono ?_
  rintro e3 w3 ⟨rfl, hb3⟩
  replace HG := Lib.hid (HG.out.below hb3)
  replace BB := Lib.hid (BB.out.trans (hb3.mono BB.out.size))
  clear hb3
  obtain ⟨z1, z2, _⟩ := HG.out.at 1 rfl
  obtain ⟨y0, y1, y2, _⟩ := HG.out.at 0 rfl
  have HI : Hid (rIts (Old w3) w3 [.slice A m c] n.2) := Lib.hid (HG.out.at 2 rfl)
  go_wp2_with fail
  with_reducible refine (greatI_any _ n.2 _ HI.out).mono ?_
  rintro e4 w4 ⟨rfl, hb4⟩
  replace HG := Lib.hid (HG.out.below hb4)
  replace BB := Lib.hid (BB.out.trans (hb4.mono BB.out.size))
  clear hb4 HI z1 z2 y0 y1 y2
  obtain ⟨z1, z2, _⟩ := HG.out.at 1 rfl
  obtain ⟨y0, y1, y2, _⟩ := HG.out.at 0 rfl
  have HN : Hid (Nod (Old w4) w4 (.agg #[.int .i64 l, .slice A m c]) n) := Lib.hid (HG.out.at 3 rfl)
  obtain ⟨g, hg⟩ : ∃ g, greatI n.2 = g := ⟨_, rfl⟩
  rw [hg]
  replace hg := Lib.hid hg
  cases g with
  | true =>
    go_wp2_with fail
    go_ret
    exact ⟨rfl, BB.out⟩
  | false =>
  go_wp2_with fail
  with_reducible refine (checkN_any _ n _ HN.out).mono ?_
  rintro e5 w5 ⟨rfl, hb5⟩
  replace HG := Lib.hid (HG.out.below hb5)
  replace BB := Lib.hid (BB.out.trans (hb5.mono BB.out.size))
  clear hb5 HN z1 z2 y0 y1 y2
  obtain ⟨z1, z2, _⟩ := HG.out.at 1 rfl
  obtain ⟨y0, y1, y2, _⟩ := HG.out.at 0 rfl
  rcases bool_two (mayN n) with hmay | hmay
  · have hc := Lib.hid (chkN_bad hmay)
    rw [hc.out]
    replace hmay := Lib.hid hmay
    go_wp2_with fail
    go_ret
    exact ⟨rfl, BB.out⟩
  have hc := Lib.hid (chkN_ok hmay)
  rw [hc.out]
  have HP := Lib.hid (fun i x (hx : n.2[i]? = some x) => place_parts hmay (k := key) hx)
  have hple := placeN_le n key
  replace hmay := Lib.hid hmay
  have HN : Hid (Nod (Old w5) w5 (.agg #[.int .i64 l, .slice A m c]) n) := Lib.hid (HG.out.at 3 rfl)
  go_wp2_with fail
  with_reducible refine (nodePlace_any _ n key _ HN.out).mono ?_
  rintro e6 w6 ⟨rfl, hb6⟩
  replace HG := Lib.hid (HG.out.below hb6)
  replace BB := Lib.hid (BB.out.trans (hb6.mono BB.out.size))
  clear hb6 HN z1 z2 y0 y1 y2
  obtain ⟨z1, z2, _⟩ := HG.out.at 1 rfl
  obtain ⟨p, hp⟩ : ∃ p, placeN n key = p := ⟨_, rfl⟩
  obtain ⟨t, ht⟩ : ∃ t, thereN n key = t := ⟨_, rfl⟩
  have hout := Lib.hid (fun hh => thereN_out (n := n) (k := key) hh)
  rw [hm.out] at hple hout
  rw [hp] at hple hout HP ⊢
  rw [ht] at hout ⊢
  replace hp := Lib.hid hp
  replace ht := Lib.hid ht
  have j1 : (0 : Int) ≤ (p : Int) := by omega
  have j2 : (p : Int) ≤ (m : Int) := by omega
  have j3 : ¬ (m : Int) < (p : Int) := by omega
  have hk := key_guard
  go_wp2_with fail
  clear z1 z2
  go_loopw [8] (fun i wr => ∃ k : Nat, k ≤ m ∧ i = .int .i64 k ∧ Below w6.heap.size w6 wr) (fun i _ => m - (intOf i).toNat)
  case atStart => exact ⟨0, by omega, rfl, Below.refl _ _⟩
  case round =>
    obtain ⟨k, hk, rfl, hb⟩ := hrel
    have HGr := Lib.hid (HG.out.below hb)
    have BR := Lib.hid (BB.out.trans (hb.mono BB.out.size))
    replace hb := Lib.hid hb
    obtain ⟨z1, z2, _⟩ := HGr.out.at 1 rfl
    obtain ⟨y0, y1, y2, _⟩ := HGr.out.at 0 rfl
    have HIr : Hid (rIts (Old wr) wr [.slice A m c] n.2) := Lib.hid (HGr.out.at 2 rfl)
    by_cases hlt : k < m
    · obtain ⟨x, hx⟩ : ∃ x, n.2[k]? = some x := ⟨_, List.getElem?_eq_getElem (by rw [hm.out]; exact hlt)⟩
      obtain ⟨ad, E, ce, rfl, _, _, _, FX⟩ := its_old HIr.out hx
      have hless := Lib.hid (HP.out k x hx)
      replace hx := Lib.hid hx
      replace FX := Lib.hid FX
      have i1 : (0 : Int) ≤ (k : Int) := by omega
      have i2 : (k : Int) < (m : Int) := by omega
      obtain ⟨s, hs⟩ : ∃ s, lessK x.1 key = s := ⟨_, rfl⟩
      rw [hs] at hless
      replace hs := Lib.hid hs
      go_wp2_with fail
      clear z1 z2 y0 y1 y2
      refine wp_region_fx (by kernel_rfl) (fun W => Below wr.heap.size wr W) (fun _ => none) (fun i => match i with
          | 7 => some (.bool s)
          | _ => none) (by kernel_rfl) (Below.refl _ _).drew (fun w w' h hb => h.trans (hb.mono h.size)) (fun j φ x W W' hp => by cases hp) ?_
      repeat (first
        | (refine wpAs_skip rfl ?_; simp only [Act.put, List.setIfInBounds_toArray, List.set_cons_zero, List.set_cons_succ])
        | (refine wpAs_pure (v := ?_) rfl rfl ?_ ?_; rotate_left; (intro W hC hE; clear hE; (obtain ⟨⟨x0, x1, x2, x3, x4⟩, _⟩ := FX.out W hC; obtain ⟨z1, z2, _⟩ := (HGr.out.below hC).at 1 rfl; obtain ⟨y0, y1, y2, _⟩ := (HGr.out.below hC).at 0 rfl); clear hC; go_simp; done); simp only [Act.put, List.setIfInBounds_toArray, List.set_cons_zero, List.set_cons_succ])
        | (refine wpAs_pure (v := ?_) rfl rfl ?_ ?_; rotate_left; (intro W hC hE; clear hE; (obtain ⟨⟨x0, x1, x2, x3, x4⟩, _⟩ := FX.out W hC; obtain ⟨z1, z2, _⟩ := (HGr.out.below hC).at 1 rfl; obtain ⟨y0, y1, y2, _⟩ := (HGr.out.below hC).at 0 rfl); clear hC; go_simp; with_reducible rfl); simp only [Act.put, List.setIfInBounds_toArray, List.set_cons_zero, List.set_cons_succ]))
      refine wpAs_fixed rfl rfl rfl ?_ ?_
      · intro W hC hE
        refine does_enter (f := 25) (args := #[kyV x.1, kyV key]) ?_ ?_
        · go_simp
        · refine (less_any x.1 key W).mono ?_
          (rintro e W' ⟨rfl, hg⟩; rw [hs.out])
          exact ⟨_, rfl, rfl, hg⟩
      simp only [Act.put, List.setIfInBounds_toArray, List.set_cons_zero, List.set_cons_succ]
      by_cases hkp : k < p
      · have hkp' : (k : Int) < (p : Int) := by omega
        have hst : s = true := by rw [hless.out]; simpa using hkp
        subst hst
        repeat (first
          | (refine wpAs_skip rfl ?_; simp only [Act.put, List.setIfInBounds_toArray, List.set_cons_zero, List.set_cons_succ])
          | (refine wpAs_pure (v := ?_) rfl rfl ?_ ?_; rotate_left; (intro W hC hE; clear hE; skip; clear hC; go_simp; done); simp only [Act.put, List.setIfInBounds_toArray, List.set_cons_zero, List.set_cons_succ])
          | (refine wpAs_pure (v := ?_) rfl rfl ?_ ?_; rotate_left; (intro W hC hE; clear hE; skip; clear hC; go_simp; with_reducible rfl); simp only [Act.put, List.setIfInBounds_toArray, List.set_cons_zero, List.set_cons_succ]))
        refine wpAs_end fun W hC hE => ?_
        have BW := Lib.hid (hb.out.trans (hC.mono hb.out.size))
        clear hE hC
        go_wp2_with fail
        go_roundw
        case rel => exact ⟨k + 1, by omega, by go_num, BW.out⟩
        case measure => simp [intOf]; omega
      · have hkp' : ¬ (k : Int) < (p : Int) := by omega
        have hst : s = false := by rw [hless.out]; simpa using hkp
        subst hst
        repeat (first
          | (refine wpAs_skip rfl ?_; simp only [Act.put, List.setIfInBounds_toArray, List.set_cons_zero, List.set_cons_succ])
          | (refine wpAs_pure (v := ?_) rfl rfl ?_ ?_; rotate_left; (intro W hC hE; clear hE; skip; clear hC; go_simp; done); simp only [Act.put, List.setIfInBounds_toArray, List.set_cons_zero, List.set_cons_succ])
          | (refine wpAs_pure (v := ?_) rfl rfl ?_ ?_; rotate_left; (intro W hC hE; clear hE; skip; clear hC; go_simp; with_reducible rfl); simp only [Act.put, List.setIfInBounds_toArray, List.set_cons_zero, List.set_cons_succ]))
        refine wpAs_end fun W hC hE => ?_
        have BW := Lib.hid (hb.out.trans (hC.mono hb.out.size))
        clear hE hC
        go_wp2_with fail
        go_roundw
        case rel => exact ⟨k + 1, by omega, by go_num, BW.out⟩
        case measure => simp [intOf]; omega
    · by_cases hpm : p < m
      · obtain ⟨x, hx⟩ : ∃ x, n.2[p]? = some x := ⟨_, List.getElem?_eq_getElem (by rw [hm.out]; exact hpm)⟩
        obtain ⟨ad, E, ce, rfl, _, _, _, FX⟩ := its_old HIr.out hx
        obtain ⟨⟨x0, x1, x2, x3, x4⟩, _⟩ := FX wr (Below.refl _ _)
        have hth : decide (x.1 = key) = t := by rw [← ht.out]; exact (thereN_at (by rw [hp.out]; exact hx)).symm
        have he := key_eq x.1 key
        rw [hth] at he
        unfold kyV at he
        replace hx := Lib.hid hx
        replace hth := Lib.hid hth
        have i1 : (p : Int) < (m : Int) := by omega
        have ht' : (t == t) = true := by simp
        clear FX
        go_wp2_with fail
        go_quiet (fail)
        go_wp2_with fail
        go_ret
        exact ⟨rfl, below_drewN BR.out _⟩
      · have hth : t = false := hout.out (by omega)
        subst hth
        have i1 : ¬ (p : Int) < (m : Int) := by omega
        go_wp2_with fail
        go_quiet (fail)
        go_wp2_with fail
        go_ret
        exact ⟨rfl, below_drewN BR.out _⟩

/-! ### The row's step -/
set_option maxRecDepth 100000 in
theorem lifted (os : Os) (started : os.Started) (H : Type) (enc : TypeId × Value → H) :
    ReturnsInHanded {} Try.checked os 6 .any (Rows.nodePlacesSpec.pre6 enc Try.prog Try.f6 Rows.nodePlacesRow.domain false) (Rows.nodePlacesSpec.post enc Try.prog Try.f6 false true false false) := by
  refine returnsInHanded_of_change (C := Try.checked) own started (by kernel_rfl) Try.func6
    (ChangeSpec.witness6 (enc := enc) (C := Try.checked) false ⟨#[], #[.agg #[.int .i64 0, .slice none 0 0], .agg #[.int .u8 0, .int .u32 0, .int .u32 0]], []⟩ 8 (by kernel_rfl) (by kernel_rfl) (by kernel_rfl) (by kernel_rfl)) ?_
  intro W base args ds gs before hval0 hW _ _
  have hval : ∀ (j : Nat) t v, Try.f6.params[j]? = some t → args[j]? = some v → Value.okWide Try.prog W .any base t v := hval0
  have hW' := hW
  obtain ⟨p, q, hA0, hV, _, _, _⟩ := hW
  have hA : DataW.TrodAll enc Try.prog W 0 (fun _ => true) true Try.f6.params.toList args.toList ds p := hA0
  rw [Try.params6] at hA hval
  obtain ⟨v0, vs0, d0, ds0, p0, q0, hargs, rfl, _, h0, r0⟩ := trodAll_cons hA
  obtain ⟨v1, vs1, d1, ds1, p1, q1, rfl, rfl, _, h1, r1⟩ := trodAll_cons r0
  obtain ⟨rfl, rfl, _⟩ := trodAll_nil r1
  obtain rfl : args = #[v0, v1] := by cases args; simp_all
  obtain ⟨rfl, _⟩ := trodVars_none hV
  obtain ⟨d0x, y0⟩ := open_node (hval 0 26 v0 rfl rfl) h0
  obtain ⟨k1x, rfl, _⟩ := open_key (hval 1 30 v1 rfl rfl) h1
  clear hA0 hval0
  refine (walk v0 d0x k1x W y0).mono fun e W' ⟨he, hb⟩ => ?_
  subst he
  exact ⟨_, rfl, law_post laidOut (by rw [Try.params6]; decide +kernel) (by kernel_rfl) Try.underlying4 rfl ⟨rfl, by simp [Rows.nodePlacesSpec], rfl⟩ hW' hb⟩

theorem over : Rows.nodePlacesRow.holds Try.pinned (OpenSpec.ofChange Rows.nodePlacesSpec) :=
  OpenClaim.holds_of_wide 6 Try.f6 rfl rfl rfl rfl rfl rfl rfl ⟨rfl, rfl, rfl, rfl, rfl⟩ rfl rfl rfl rfl rfl (by kernel_rfl) Try.func6 (by kernel_rfl)
    (of_decide_eq_true (by kernel_rfl)) (by unfold Func.isWrapper; first | (rw [if_pos (by decide +kernel)]; kernel_rfl) | (rw [if_neg (by decide +kernel)]; exact ⟨rfl, rfl⟩))
    (fun os started H enc _ => lifted os started H enc)

end Go.Proofs.Ytpcajbcdahcehaa.nodePlaces
namespace Go.Proofs.Ytpcajbcdahcehaa
theorem nodePlaces_proved : Rows.NodePlacesSaid := nodePlaces.over
end Go.Proofs.Ytpcajbcdahcehaa
