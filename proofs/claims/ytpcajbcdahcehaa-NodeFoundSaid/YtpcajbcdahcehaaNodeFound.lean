/-
  For every node and two keys NodeFound answers true and leaves its arguments as they were. No condition.
-/
import Derived.Test.YtpcajbcdahcehaaBnd3
namespace Go.Proofs.Ytpcajbcdahcehaa.nodeFound
open Go.ChangeShapes Go.WideShapes Go.RowKit

theorem own : ownKnob Try.prog.godebug = none := by kernel_rfl
theorem laidOut : laidOutB Try.prog = true := by kernel_rfl

set_option maxRecDepth 100000 in
set_option maxHeartbeats 8000000 in
theorem walk (v : Value) (n : Nd) (a b : Ky) (w : World) (hv : Nod (Old w) w v n) :
    Calls Try.prog 7 #[v, kyV a, kyV b] w fun e w' => e = .returned (.bool true) ∧ Below w.heap.size w w' := by
  obtain ⟨A, c, rfl, hin, l1, m1, hA⟩ := hv.open
  obtain ⟨l, hl⟩ : ∃ l, n.1 = l := ⟨_, rfl⟩
  obtain ⟨m, hm⟩ : ∃ m, n.2.length = m := ⟨_, rfl⟩
  rw [hl, hm] at hv ⊢
  rw [hm] at l1 hA
  have G0 := (((Bag.nil w).add (F := OldN _ _) hv (lasts_oldN _ _)).add (F := OldIs _ _) hA (lasts_oldIs _ _))
  obtain ⟨w1, hw1, G1, B1, _, s1⟩ := bag_node G0 (Below.refl _ _) (.int .i64 l) (.slice A m c)
  obtain ⟨w2, hw2, G2, B2, _, s2⟩ := bag_key G1 (Below.refl _ _) (.int .u8 (a.1.toNat : Int)) (.int .u32 a.2.1) (.int .u32 a.2.2)
  obtain ⟨w3, hw3, G3, B3, _, s3⟩ := bag_key G2 (Below.refl _ _) (.int .u8 (b.1.toNat : Int)) (.int .u32 b.2.1) (.int .u32 b.2.2)
  have BB := Lib.hid ((B1.trans (B2.mono B1.size)).trans (B3.mono (B1.trans (B2.mono B1.size)).size))
  have HG := Lib.hid G3
  replace hw3 := Lib.hid hw3
  replace hl := Lib.hid hl
  replace hm := Lib.hid hm
  clear G0 G1 G2 G3 B1 B2 B3 s1 s2 s3 hv hA hin
  unfold kyV
  go_enter Try.func7, Try.ntmps7
  go_upto_region 1 with fail
  rw [hw3.out]
  clear hw1 hw2 hw3
  go_wp2_with fail
  with_reducible refine (alive6 _).mono ?_
  rintro e3 w4 ⟨rfl, hb3⟩
  replace HG := Lib.hid (HG.out.below hb3)
  replace BB := Lib.hid (BB.out.trans (hb3.mono BB.out.size))
  clear hb3
  obtain ⟨z1, z2, _⟩ := HG.out.at 2 rfl
  have HI : Hid (rIts (Old w4) w4 [.slice A m c] n.2) := Lib.hid (HG.out.at 3 rfl)
  go_wp2_with fail
  with_reducible refine (greatI_any _ n.2 _ HI.out).mono ?_
  rintro e4 w5 ⟨rfl, hb4⟩
  replace HG := Lib.hid (HG.out.below hb4)
  replace BB := Lib.hid (BB.out.trans (hb4.mono BB.out.size))
  clear hb4 HI z1 z2
  obtain ⟨z1, z2, _⟩ := HG.out.at 2 rfl
  have HN : Hid (Nod (Old w5) w5 (.agg #[.int .i64 l, .slice A m c]) n) := Lib.hid (HG.out.at 4 rfl)
  obtain ⟨g, hg⟩ : ∃ g, greatI n.2 = g := ⟨_, rfl⟩
  rw [hg]
  replace hg := Lib.hid hg
  cases g with
  | true =>
    go_wp2_with fail
    go_ret
    exact ⟨rfl, BB.out⟩
  | false =>
  go_wp2_with fail
  with_reducible refine (checkN_any _ n _ HN.out).mono ?_
  rintro e5 w6 ⟨rfl, hb5⟩
  replace HG := Lib.hid (HG.out.below hb5)
  replace BB := Lib.hid (BB.out.trans (hb5.mono BB.out.size))
  clear hb5 HN z1 z2
  rcases bool_two (mayN n) with hmay | hmay
  · have hc := Lib.hid (chkN_bad hmay)
    rw [hc.out]
    replace hmay := Lib.hid hmay
    go_wp2_with fail
    go_ret
    exact ⟨rfl, BB.out⟩
  have hc := Lib.hid (chkN_ok hmay)
  rw [hc.out]
  have HP := Lib.hid (fun i x (hx : n.2[i]? = some x) => place_own hmay hx)
  have hany := Lib.hid (thereN_any hmay a)
  have hpa := placeN_le n a
  have hab := Lib.hid (fun h => place_mono (n := n) (a := a) (b := b) h)
  have hba := Lib.hid (fun h => place_mono (n := n) (a := b) (b := a) h)
  rw [hm.out] at hpa
  replace hmay := Lib.hid hmay
  have hk := key_guard
  go_wp2_with fail
  go_loopw [8, 9] (fun t i wr => ∃ k : Nat, k ≤ m ∧ i = .int .i64 k ∧ t = .bool (anyK (n.2.take k) a) ∧ Below w6.heap.size w6 wr) (fun _ i _ => m - (intOf i).toNat)
  case atStart => exact ⟨0, by omega, rfl, rfl, Below.refl _ _⟩
  case round =>
    obtain ⟨k, hk', rfl, rfl, hb⟩ := hrel
    have HGr := Lib.hid (HG.out.below hb)
    have BR := Lib.hid (BB.out.trans (hb.mono BB.out.size))
    replace hb := Lib.hid hb
    by_cases hlt : k < m
    · obtain ⟨z1, z2, _⟩ := HGr.out.at 2 rfl
      have HIr : Hid (rIts (Old wr) wr [.slice A m c] n.2) := Lib.hid (HGr.out.at 3 rfl)
      obtain ⟨x, hx⟩ : ∃ x, n.2[k]? = some x := ⟨_, List.getElem?_eq_getElem (by rw [hm.out]; exact hlt)⟩
      obtain ⟨ad, E, ce, rfl, _, _, _, FX⟩ := its_old HIr.out hx
      have hown := Lib.hid (HP.out k x hx)
      have hsn := Lib.hid (anyK_snoc (k := a) hx)
      have HNr : Hid (∀ W, Below wr.heap.size wr W → Nod (Old W) W (.agg #[.int .i64 l, .slice (some ad) m c]) n) := Lib.hid fun W hW => (HGr.out.below hW).at 4 rfl
      replace hx := Lib.hid hx
      replace FX := Lib.hid FX
      have i1 : (0 : Int) ≤ (k : Int) := by omega
      have i2 : (k : Int) < (m : Int) := by omega
      obtain ⟨q, hq⟩ : ∃ q, anyK (n.2.take k) a = q := ⟨_, rfl⟩
      rw [hq] at hsn ⊢
      replace hq := Lib.hid hq
      go_wp2_with fail
      clear z1 z2
      refine wp_region_fx (by kernel_rfl) (fun W => Below wr.heap.size wr W) (fun _ => none) (fun i => match i with
          | 7 => some (.tuple #[.int .i64 (k : Nat), .bool true])
          | _ => none) (by kernel_rfl) (Below.refl _ _).drew (fun w w' h hb => h.trans (hb.mono h.size)) (fun j φ x W W' hp => by cases hp) ?_
      repeat (first
        | (refine wpAs_skip rfl ?_; simp only [Act.put, List.setIfInBounds_toArray, List.set_cons_zero, List.set_cons_succ])
        | (refine wpAs_pure (v := ?_) rfl rfl ?_ ?_; rotate_left; (intro W hC hE; clear hE; (obtain ⟨⟨x0, x1, x2, x3, x4⟩, _⟩ := FX.out W hC; obtain ⟨z1, z2, _⟩ := (HGr.out.below hC).at 2 rfl); clear hC; go_simp; done); simp only [Act.put, List.setIfInBounds_toArray, List.set_cons_zero, List.set_cons_succ])
        | (refine wpAs_pure (v := ?_) rfl rfl ?_ ?_; rotate_left; (intro W hC hE; clear hE; (obtain ⟨⟨x0, x1, x2, x3, x4⟩, _⟩ := FX.out W hC; obtain ⟨z1, z2, _⟩ := (HGr.out.below hC).at 2 rfl); clear hC; go_simp; with_reducible rfl); simp only [Act.put, List.setIfInBounds_toArray, List.set_cons_zero, List.set_cons_succ]))
      refine wpAs_fixed rfl rfl rfl ?_ ?_
      · intro W hC hE
        refine does_enter (f := 9) (args := #[.agg #[.int .i64 l, .slice (some ad) m c], kyV x.1]) ?_ ?_
        · go_simp
        · refine (nodePlace_any _ n x.1 W (HNr.out W hC)).mono ?_
          rintro e W' ⟨rfl, hg⟩
          rw [hown.out.1, hown.out.2]
          exact ⟨_, rfl, rfl, hg⟩
      simp only [Act.put, List.setIfInBounds_toArray, List.set_cons_zero, List.set_cons_succ]
      repeat (first
        | (refine wpAs_skip rfl ?_; simp only [Act.put, List.setIfInBounds_toArray, List.set_cons_zero, List.set_cons_succ])
        | (refine wpAs_pure (v := ?_) rfl rfl ?_ ?_; rotate_left; (intro W hC hE; clear hE; skip; clear hC; go_simp; done); simp only [Act.put, List.setIfInBounds_toArray, List.set_cons_zero, List.set_cons_succ])
        | (refine wpAs_pure (v := ?_) rfl rfl ?_ ?_; rotate_left; (intro W hC hE; clear hE; skip; clear hC; go_simp; with_reducible rfl); simp only [Act.put, List.setIfInBounds_toArray, List.set_cons_zero, List.set_cons_succ]))
      refine wpAs_end fun W hC hE => ?_
      have BW := Lib.hid (hb.out.trans (hC.mono hb.out.size))
      have HGW := Lib.hid (HGr.out.below hC)
      obtain ⟨⟨x0, x1, x2, x3, x4⟩, _⟩ := FX.out W hC
      clear hE hC
      obtain ⟨z1, z2, _⟩ := HGW.out.at 2 rfl
      obtain ⟨y0, y1, y2, _⟩ := HGW.out.at 1 rfl
      have t1 : ((k : Int) != (k : Int)) = false := by simp
      have he := key_eq x.1 a
      unfold kyV at he
      obtain ⟨r, hr⟩ : ∃ r, decide (x.1 = a) = r := ⟨_, rfl⟩
      rw [hr] at he hsn
      replace hr := Lib.hid hr
      cases q with
      | true =>
        have hn := Lib.hid (show true = anyK (n.2.take (k + 1)) a by rw [hsn.out]; rfl)
        go_wp2_with fail
        go_quiet (fail)
        go_wp2_with fail
        go_roundw
        case rel => exact ⟨k + 1, by omega, by go_num, by rw [hn.out], below_drewN BW.out _⟩
        case measure => simp [intOf]; omega
      | false =>
        have hn := Lib.hid (show r = anyK (n.2.take (k + 1)) a by rw [hsn.out]; simp)
        go_wp2_with fail
        go_quiet (fail)
        go_wp2_with fail
        go_roundw
        case rel => exact ⟨k + 1, by omega, by go_num, by rw [hn.out], below_drewN BW.out _⟩
        case measure => simp [intOf]; omega
    · have hkm : Hid (anyK (n.2.take k) a = thereN n a) := Lib.hid (by rw [hany.out, List.take_of_length_le (by rw [hm.out]; omega)])
      rw [hkm.out]
      obtain ⟨t, ht⟩ : ∃ t, thereN n a = t := ⟨_, rfl⟩
      rw [ht]
      obtain ⟨p, hp⟩ : ∃ p, placeN n a = p := ⟨_, rfl⟩
      obtain ⟨q, hq⟩ : ∃ q, placeN n b = q := ⟨_, rfl⟩
      rw [hp, hq] at hab hba
      rw [hp] at hpa
      replace ht := Lib.hid ht
      replace hp := Lib.hid hp
      replace hq := Lib.hid hq
      obtain ⟨z1, z2, _⟩ := HGr.out.at 2 rfl
      obtain ⟨y0, y1, y2, _⟩ := HGr.out.at 1 rfl
      have HN : Hid (Nod (Old wr) wr (.agg #[.int .i64 l, .slice A m c]) n) := Lib.hid (HGr.out.at 4 rfl)
      go_wp2_with fail
      with_reducible refine (nodePlace_any _ n a _ HN.out).mono ?_
      rintro e7 w7 ⟨rfl, hb7⟩
      rw [hp.out, ht.out]
      have HG7 := Lib.hid (HGr.out.below hb7)
      have B7 := Lib.hid (BR.out.trans (hb7.mono BR.out.size))
      clear hb7 z1 z2 y0 y1 y2 HN
      obtain ⟨z1, z2, _⟩ := HG7.out.at 2 rfl
      obtain ⟨u0, u1, u2, _⟩ := HG7.out.at 0 rfl
      have HN : Hid (Nod (Old w7) w7 (.agg #[.int .i64 l, .slice A m c]) n) := Lib.hid (HG7.out.at 4 rfl)
      go_wp2_with fail
      with_reducible refine (nodePlace_any _ n b _ HN.out).mono ?_
      rintro e8 w8 ⟨rfl, hb8⟩
      rw [hq.out]
      have HG8 := Lib.hid (HG7.out.below hb8)
      have B8 := Lib.hid (B7.out.trans (hb8.mono B7.out.size))
      clear hb8 z1 z2 u0 u1 u2 HN
      obtain ⟨z1, z2, _⟩ := HG8.out.at 2 rfl
      obtain ⟨y0, y1, y2, _⟩ := HG8.out.at 1 rfl
      obtain ⟨u0, u1, u2, _⟩ := HG8.out.at 0 rfl
      have j1 : (0 : Int) ≤ (p : Int) := by omega
      have j2 : (p : Int) ≤ (m : Int) := by omega
      have t2 : (t == t) = true := by simp
      go_wp2_with fail
      with_reducible refine (less_any a b _).mono ?_
      rintro e9 w9 ⟨rfl, hb9⟩
      have HG9 := Lib.hid (HG8.out.below hb9)
      have B9 := Lib.hid (B8.out.trans (hb9.mono B8.out.size))
      clear hb9 z1 z2 y0 y1 y2 u0 u1 u2
      obtain ⟨y0, y1, y2, _⟩ := HG9.out.at 1 rfl
      obtain ⟨u0, u1, u2, _⟩ := HG9.out.at 0 rfl
      rcases bool_two (lessK a b) with h9 | h9
      all_goals
        rw [h9]
        have j3 : lessK a b = true → (p : Int) ≤ (q : Int) := fun h => by have := hab.out h; omega
        have j3' := Lib.hid (j3)
        clear j3
      · replace h9 := Lib.hid h9
        go_wp2_with fail
        with_reducible refine (less_any b a _).mono ?_
        rintro e9 w10 ⟨rfl, hb10⟩
        have BF := Lib.hid (B9.out.trans (hb10.mono B9.out.size))
        clear hb10
        rcases bool_two (lessK b a) with h10 | h10
        · rw [h10]
          replace h10 := Lib.hid h10
          go_wp2_with fail
          go_ret
          exact ⟨rfl, BF.out⟩
        · rw [h10]
          have j4 : (q : Int) ≤ (p : Int) := by have := hba.out h10; omega
          replace h10 := Lib.hid h10
          go_wp2_with fail
          go_ret
          exact ⟨rfl, BF.out⟩
      · have j4 : (p : Int) ≤ (q : Int) := j3'.out h9
        replace h9 := Lib.hid h9
        go_wp2_with fail
        with_reducible refine (less_any b a _).mono ?_
        rintro e9 w10 ⟨rfl, hb10⟩
        have BF := Lib.hid (B9.out.trans (hb10.mono B9.out.size))
        clear hb10
        rcases bool_two (lessK b a) with h10 | h10
        · rw [h10]
          replace h10 := Lib.hid h10
          go_wp2_with fail
          go_ret
          exact ⟨rfl, BF.out⟩
        · rw [h10]
          have j5 : (q : Int) ≤ (p : Int) := by have := hba.out h10; omega
          replace h10 := Lib.hid h10
          go_wp2_with fail
          go_ret
          exact ⟨rfl, BF.out⟩

/-! ### The row's step -/
set_option maxRecDepth 100000 in
theorem lifted (os : Os) (started : os.Started) (H : Type) (enc : TypeId × Value → H) :
    ReturnsInHanded {} Try.checked os 7 .any (Rows.nodeFoundSpec.pre6 enc Try.prog Try.f7 Rows.nodeFoundRow.domain false) (Rows.nodeFoundSpec.post enc Try.prog Try.f7 false true false false) := by
  refine returnsInHanded_of_change (C := Try.checked) own started (by kernel_rfl) Try.func7
    (ChangeSpec.witness6 (enc := enc) (C := Try.checked) false ⟨#[], #[.agg #[.int .i64 0, .slice none 0 0], .agg #[.int .u8 0, .int .u32 0, .int .u32 0], .agg #[.int .u8 0, .int .u32 0, .int .u32 0]], []⟩ 8 (by kernel_rfl) (by kernel_rfl) (by kernel_rfl) (by kernel_rfl)) ?_
  intro W base args ds gs before hval0 hW _ _
  have hval : ∀ (j : Nat) t v, Try.f7.params[j]? = some t → args[j]? = some v → Value.okWide Try.prog W .any base t v := hval0
  have hW' := hW
  obtain ⟨p, q, hA0, hV, _, _, _⟩ := hW
  have hA : DataW.TrodAll enc Try.prog W 0 (fun _ => true) true Try.f7.params.toList args.toList ds p := hA0
  rw [Try.params7] at hA hval
  obtain ⟨v0, vs0, d0, ds0, p0, q0, hargs, rfl, _, h0, r0⟩ := trodAll_cons hA
  obtain ⟨v1, vs1, d1, ds1, p1, q1, rfl, rfl, _, h1, r1⟩ := trodAll_cons r0
  obtain ⟨v2, vs2, d2, ds2, p2, q2, rfl, rfl, _, h2, r2⟩ := trodAll_cons r1
  obtain ⟨rfl, rfl, _⟩ := trodAll_nil r2
  obtain rfl : args = #[v0, v1, v2] := by cases args; simp_all
  obtain ⟨rfl, _⟩ := trodVars_none hV
  obtain ⟨d0x, y0⟩ := open_node (hval 0 26 v0 rfl rfl) h0
  obtain ⟨k1x, rfl, _⟩ := open_key (hval 1 30 v1 rfl rfl) h1
  obtain ⟨k2x, rfl, _⟩ := open_key (hval 2 30 v2 rfl rfl) h2
  clear hA0 hval0
  refine (walk v0 d0x k1x k2x W y0).mono fun e W' ⟨he, hb⟩ => ?_
  subst he
  exact ⟨_, rfl, law_post laidOut (by rw [Try.params7]; decide +kernel) (by kernel_rfl) Try.underlying4 rfl ⟨rfl, by simp [Rows.nodeFoundSpec], rfl⟩ hW' hb⟩

theorem over : Rows.nodeFoundRow.holds Try.pinned (OpenSpec.ofChange Rows.nodeFoundSpec) :=
  OpenClaim.holds_of_wide 7 Try.f7 rfl rfl rfl rfl rfl rfl rfl ⟨rfl, rfl, rfl, rfl, rfl⟩ rfl rfl rfl rfl rfl (by kernel_rfl) Try.func7 (by kernel_rfl)
    (of_decide_eq_true (by kernel_rfl)) (by unfold Func.isWrapper; first | (rw [if_pos (by decide +kernel)]; kernel_rfl) | (rw [if_neg (by decide +kernel)]; exact ⟨rfl, rfl⟩))
    (fun os started H enc _ => lifted os started H enc)

end Go.Proofs.Ytpcajbcdahcehaa.nodeFound
namespace Go.Proofs.Ytpcajbcdahcehaa
theorem nodeFound_proved : Rows.NodeFoundSaid := nodeFound.over
end Go.Proofs.Ytpcajbcdahcehaa
