/-
  For every store, root and key FindRefuses answers true and leaves its arguments as they were. No condition.
-/
import Derived.Test.YtncnoingbaeomaaBnd4
namespace Go.Proofs.Ytncnoingbaeomaa.findRefuses
open Go.ChangeShapes Go.WideShapes Go.RowKit

theorem own : ownKnob Try.prog.godebug = none := by kernel_rfl
theorem laidOut : laidOutB Try.prog = true := by kernel_rfl

set_option maxRecDepth 100000 in
set_option maxHeartbeats 8000000 in
theorem walk (v : Value) (s : Rm) (a : Int) (_hn : (Lit.int .i64 a).wf = true) (key : Ky) (w : World) (h : Sto (Old w) w v s) :
    Calls Try.prog 6 #[v, .int .i64 a, kyV key] w fun e w' => e = .returned (.bool true) ∧ Below w.heap.size w w' := by
  clear _hn
  obtain ⟨A, ca, B, cb, N, cn, L, cl, rfl, _⟩ := id h.open
  have HG0 : Bag w [OldR (.agg #[.slice A s.1.1.length ca, .slice B s.1.2.length cb, .slice N s.2.1.length cn, .slice L s.2.2.length cl]) s] := (Bag.nil w).add (F := OldR _ s) h (lasts_oldR _ _)
  obtain ⟨w0, hw0, hg0, hB0, _, hs0⟩ := bag_four HG0 (Below.refl _ _) (.slice A s.1.1.length ca) (.slice B s.1.2.length cb) (.slice N s.2.1.length cn) (.slice L s.2.2.length cl) 29
  obtain ⟨w1, hw1, hg1, hB1, _, hs1⟩ := bag_key hg0 (Below.refl _ _) (.int .u8 (key.1.toNat : Int)) (.int .u32 key.2.1) (.int .u32 key.2.2)
  have HG1 := Lib.hid hg1
  have B1 := Lib.hid (hB0.trans (hB1.mono hB0.size))
  replace hs1 := Lib.hid hs1
  replace hs0 := Lib.hid hs0
  clear HG0 hg1 hg0 h hB1 hB0
  unfold kyV
  go_enter Try.func6, Try.ntmps6
  go_upto_region 1 with fail
  clear hw0 hw1
  go_wp2_with fail
  with_reducible refine (alive10 _).mono ?_
  rintro e w2 ⟨rfl, hb2⟩
  have HG2 := Lib.hid (HG1.out.below hb2)
  have B2 := Lib.hid (B1.out.trans (hb2.mono B1.out.size))
  clear hb2 HG1 B1
  obtain ⟨k0, k1, k2, k3, kg⟩ := HG2.out.at 1 rfl
  go_wp2_with fail
  with_reducible refine (greatR_any _ s _ (HG2.out.at 2 rfl)).mono ?_
  rintro e w3 ⟨rfl, hb3⟩
  have HG3 := Lib.hid (HG2.out.below hb3)
  have B3 := Lib.hid (B2.out.trans (hb3.mono B2.out.size))
  clear hb3 HG2 B2 k0 k1 k2 k3 kg
  cases hgr : greatR s with
  | true =>
    go_wp2_with fail
    go_ret
    exact ⟨rfl, B3.out⟩
  | false =>
  clear hgr
  obtain ⟨k0, k1, k2, k3, kg⟩ := HG3.out.at 1 rfl
  go_wp2_with fail
  with_reducible refine (findCheck_any _ s a _ (HG3.out.at 2 rfl)).mono ?_
  rintro e w4 ⟨rfl, hb4⟩
  have HG4 := Lib.hid (HG3.out.below hb4)
  have B4 := Lib.hid (B3.out.trans (hb4.mono B3.out.size))
  clear hb4 HG3 B3 k0 k1 k2 k3 kg
  obtain ⟨k0, k1, k2, k3, kg⟩ := HG4.out.at 1 rfl
  obtain ⟨t0, t1, t2, _⟩ := HG4.out.at 0 rfl
  have hct := Lib.hid (fun hh => ck_of (s := s) (a := a) hh)
  have hfb := Lib.hid (fun hh => fd_bad (s := s) (a := a) (k := key) hh)
  have hfs := Lib.hid (fun x hh hx => fd_some (s := s) (a := a) (k := key) (x := x) hh hx)
  have hfn := Lib.hid (fun hh hx => fd_none (s := s) (a := a) (k := key) hh hx)
  have hcn := Lib.hid (fun (hh : ckE s a ≠ 0) => (show ckH s a = 0 from by rw [ckH, if_neg hh]))
  have hFd := Lib.hid (fun v W hW => findFind_open v s a key W hW)
  obtain ⟨E0, hE0⟩ : ∃ q, ckE s a = q := ⟨_, rfl⟩
  obtain ⟨H0, hH0⟩ : ∃ q, ckH s a = q := ⟨_, rfl⟩
  obtain ⟨E1, hE1⟩ : ∃ q, fdE s a key = q := ⟨_, rfl⟩
  obtain ⟨y, hV1⟩ : ∃ q, fdV s a key = q := ⟨_, rfl⟩
  rw [hE0, hH0] at hct hcn
  rw [hE0] at hfb hfs hfn
  rw [hE1, hV1] at hfb hfs hfn hFd
  rw [hE0, hH0]
  replace hE0 := Lib.hid hE0
  replace hH0 := Lib.hid hH0
  replace hE1 := Lib.hid hE1
  replace hV1 := Lib.hid hV1
  go_wp2_with fail
  with_reducible refine (hFd.out _ _ (HG4.out.at 2 rfl)).mono ?_
  rintro e w5 ⟨P, pc, rfl, hit, hb5⟩
  obtain ⟨w6, hw6, hg6, hB6, -, hs6⟩ := bag_item (HG4.out.below hb5) (Below.refl _ _) (.int .u8 (y.1.1.toNat : Int)) (.int .u32 y.1.2.1) (.int .u32 y.1.2.2) (.int .i64 y.2.1) (.slice P y.2.2.length pc)
  have HG6 := Lib.hid hg6
  have B6 := Lib.hid (B4.out.trans ((hb5.trans (hB6.mono hb5.size)).mono B4.out.size))
  replace hs6 := Lib.hid hs6
  clear hb5 hg6 hB6 hit HG4 B4 k0 k1 k2 k3 kg t0 t1 t2 hFd
  go_upto_region 6 with fail
  clear hw6
  obtain ⟨k0, k1, k2, k3, kg⟩ := HG6.out.at 2 rfl
  obtain ⟨p0, p1, p2, p3, p4, _⟩ := HG6.out.at 0 rfl
  by_cases he : E0 = 0
  case neg =>
    have e1 : (E0 != 0) = true := by simpa using he
    obtain ⟨f1, f2⟩ := hfb.out he
    have f3 := hcn.out he
    subst f1
    subst f2
    subst f3
    clear he
    go_wp2_with fail
    go_ret
    exact ⟨by simp [zeroI], B6.out⟩
  obtain ⟨ht, _, hH⟩ := hct.out he
  obtain ⟨_, _, _, l0, l6, _⟩ := tree_of ht
  obtain ⟨hup, hmax, _⟩ := tree_all ht
  have hmany := Lib.hid (tree_many ht key)
  have hin := Lib.hid (fun x hx => the_in (s := s) (a := a) (k := key) (x := x) hx)
  have hall := Lib.hid (fun v W hW => all_open v s a ht W hW)
  obtain ⟨lw, hlw⟩ : ∃ q, (rmV s a).1 = q := ⟨_, rfl⟩
  obtain ⟨l, hl⟩ : ∃ q, allO s a = q := ⟨_, rfl⟩
  obtain ⟨T, hT⟩ : ∃ T, theO s a key = T := ⟨_, rfl⟩
  obtain ⟨n, hn⟩ : ∃ n, l.length = n := ⟨_, rfl⟩
  rw [hlw] at hH l0 l6
  rw [hl, hlw, hn] at hall
  rw [hl, hn] at hmax
  rw [hl] at hup hmany
  rw [hT] at hmany hin hfs hfn
  have hfs' := Lib.hid (fun x hx => hfs.out x he hx)
  have hfn' := Lib.hid (fun hx => hfn.out he hx)
  subst he
  have c1 : H0 - 1 = lw := by omega
  have c2 : IntKind.i64.wrap lw = lw := IntWalk.i64_in _ (by omega)
  have c3 : ¬ H0 < 1 := by omega
  have c4 : ¬ 6 < H0 := by omega
  have c5 : ¬ (15625 : Int) < (n : Int) := by omega
  replace hlw := Lib.hid hlw
  replace hl := Lib.hid hl
  replace hn := Lib.hid hn
  replace hT := Lib.hid hT
  replace hH := Lib.hid hH
  replace hup := Lib.hid hup
  clear ht hct hfb hfs hfn hcn
  go_wp2_with fail
  with_reducible refine (hall.out _ _ (HG6.out.at 3 rfl)).mono ?_
  rintro e w7 ⟨U, uc, rfl, hU, hb7⟩
  have HG7 := Lib.hid ((HG6.out.below hb7).add (F := OldIs _ l) (stab_its.drop hU) (lasts_oldIs _ _))
  have B7 := Lib.hid (B6.out.trans (hb7.mono B6.out.size))
  clear hb7 hU HG6 B6 k0 k1 k2 k3 kg p0 p1 p2 p3 p4 hall
  go_wp2_with fail
  go_loopw [14, 15] (fun va vi wr => ∃ k : Nat, k ≤ n ∧ vi = .int .i64 k ∧ va = .int .i64 (manyK key (l.take k) : Nat) ∧ Below w7.heap.size w7 wr) (fun _ vi _ => n - (intOf vi).toNat)
  case atStart => exact ⟨0, by omega, rfl, rfl, Below.refl _ _⟩
  case round =>
    obtain ⟨k, hk, rfl, rfl, hbr⟩ := hrel
    have HR := Lib.hid (HG7.out.below hbr)
    have BR := Lib.hid hbr
    have hml := many_le key l k
    clear hbr
    by_cases hlt : k < n
    case neg =>
      have hkn : l.take k = l := List.take_of_length_le (by rw [hn.out]; omega)
      rw [hkn] at hml ⊢
      have hm' := hmany.out
      have BF := Lib.hid (B7.out.trans (BR.out.mono B7.out.size))
      obtain ⟨p0, p1, p2, p3, p4, _⟩ := HR.out.at 1 rfl
      obtain ⟨t0, t1, t2, _⟩ := HR.out.at 2 rfl
      cases T with
      | none =>
        obtain ⟨f1, f2⟩ := hfn'.out rfl
        have m0 : manyK key l = 0 := hm'
        rw [m0]
        subst f1
        replace hm' := Lib.hid hm'
        replace m0 := Lib.hid m0
        clear hkn hml
        go_wp2_with fail
        go_ret
        exact ⟨by simp, BF.out⟩
      | some x =>
        obtain ⟨f1, f2⟩ := hfs'.out x rfl
        obtain ⟨_, hxk⟩ := hin.out x rfl
        have m0 : manyK key l = 1 := hm'
        rw [m0]
        subst f1
        subst f2
        have hke := key_eq y.1 key
        have hkg := key_guard
        unfold kyV at hke
        rw [decide_eq_true hxk] at hke
        replace hm' := Lib.hid hm'
        replace m0 := Lib.hid m0
        replace hxk := Lib.hid hxk
        clear hkn hml
        go_wp2_with fail
        go_ret
        exact ⟨by simp, BF.out⟩
    obtain ⟨x, hx⟩ : ∃ x, l[k]? = some x := ⟨_, List.getElem?_eq_getElem (by rw [hn.out]; exact hlt)⟩
    obtain ⟨ad, E5, ce5, rfl, _, _, _, FX⟩ := its_old (HR.out.at 0 rfl : rIts (Old wr) wr [.slice U n uc] l) hx
    obtain ⟨⟨z0, z1, z2, z3, z4⟩, _⟩ := FX wr (Below.refl _ _)
    obtain ⟨t0, t1, t2, _⟩ := HR.out.at 2 rfl
    have hmt := many_take (k := key) hx
    have hke := key_eq x.1 key
    have hkg := key_guard
    unfold kyV at hke
    have i4 : (0 : Int) ≤ (k : Int) := by omega
    have i5 : (k : Int) < (n : Int) := by omega
    obtain ⟨q, hq⟩ : ∃ q, manyK key (l.take k) = q := ⟨_, rfl⟩
    rw [hq] at hmt hml ⊢
    replace hq := Lib.hid hq
    replace hx := Lib.hid hx
    clear FX
    by_cases hkk : x.1 = key
    · rw [decide_eq_true hkk] at hke
      rw [if_pos hkk] at hmt
      have hmt' := Lib.hid hmt
      clear hmt hkk
      go_upto_region 15 with fail
      go_quiet (fail)
      go_wp2_with fail
      go_roundw
      case rel => exact ⟨k + 1, by omega, by go_num, by rw [hmt'.out]; go_num, below_drewN BR.out _⟩
      case measure => simp [intOf]; omega
    · rw [decide_eq_false hkk] at hke
      rw [if_neg hkk] at hmt
      have hmt' := Lib.hid hmt
      clear hmt hkk
      go_upto_region 15 with fail
      go_quiet (fail)
      go_wp2_with fail
      go_roundw
      case rel => exact ⟨k + 1, by omega, by go_num, by rw [hmt'.out]; rfl, below_drewN BR.out _⟩
      case measure => simp [intOf]; omega

/-! ### The row's step -/
set_option maxRecDepth 100000 in
theorem lifted (os : Os) (started : os.Started) (H : Type) (enc : TypeId × Value → H) :
    ReturnsInHanded {} Try.checked os 6 .any (Rows.findRefusesSpec.pre6 enc Try.prog Try.f6 Rows.findRefusesRow.domain false) (Rows.findRefusesSpec.post enc Try.prog Try.f6 false true false false) := by
  refine returnsInHanded_of_change (C := Try.checked) own started (by kernel_rfl) Try.func6
    (ChangeSpec.witness6 (enc := enc) (C := Try.checked) false ⟨#[], #[.agg #[.slice none 0 0, .slice none 0 0, .slice none 0 0, .slice none 0 0], .int .i64 0, .agg #[.int .u8 0, .int .u32 0, .int .u32 0]], []⟩ 8 (by kernel_rfl) (by kernel_rfl) (by kernel_rfl) (by kernel_rfl)) ?_
  intro W base args ds gs before hval0 hW _ _
  have hval : ∀ (j : Nat) t v, Try.f6.params[j]? = some t → args[j]? = some v → Value.okWide Try.prog W .any base t v := hval0
  have hW' := hW
  obtain ⟨p, q, hA0, hV, _, _, _⟩ := hW
  have hA : DataW.TrodAll enc Try.prog W 0 (fun _ => true) true Try.f6.params.toList args.toList ds p := hA0
  rw [Try.params6] at hA hval
  obtain ⟨v0, vs0, d0, ds0, p0, q0, hargs, rfl, _, h0, r0⟩ := trodAll_cons hA
  obtain ⟨v1, vs1, d1, ds1, p1, q1, rfl, rfl, _, h1, r1⟩ := trodAll_cons r0
  obtain ⟨v2, vs2, d2, ds2, p2, q2, rfl, rfl, _, h2, r2⟩ := trodAll_cons r1
  obtain ⟨rfl, rfl, _⟩ := trodAll_nil r2
  obtain rfl : args = #[v0, v1, v2] := by cases args; simp_all
  obtain ⟨rfl, _⟩ := trodVars_none hV
  obtain ⟨d0x, y0⟩ := open_store (hval 0 29 v0 rfl rfl) h0
  obtain ⟨a1, rfl, _, _, w1⟩ := open_int Try.underlying3 (hval 1 3 v1 rfl rfl) h1
  obtain ⟨k2x, rfl, _⟩ := open_key (hval 2 37 v2 rfl rfl) h2
  clear hA0 hval0
  refine (walk v0 d0x a1 w1 k2x W y0).mono fun e W' ⟨he, hb⟩ => ?_
  subst he
  exact ⟨_, rfl, law_post laidOut (by rw [Try.params6]; decide +kernel) (by kernel_rfl) Try.underlying4 rfl ⟨rfl, by simp [Rows.findRefusesSpec], rfl⟩ hW' hb⟩

theorem over : Rows.findRefusesRow.holds Try.pinned (OpenSpec.ofChange Rows.findRefusesSpec) :=
  OpenClaim.holds_of_wide 6 Try.f6 rfl rfl rfl rfl rfl rfl rfl ⟨rfl, rfl, rfl, rfl, rfl⟩ rfl rfl rfl rfl rfl (by kernel_rfl) Try.func6 (by kernel_rfl)
    (of_decide_eq_true (by kernel_rfl)) (by unfold Func.isWrapper; first | (rw [if_pos (by decide +kernel)]; kernel_rfl) | (rw [if_neg (by decide +kernel)]; exact ⟨rfl, rfl⟩))
    (fun os started H enc _ => lifted os started H enc)

end Go.Proofs.Ytncnoingbaeomaa.findRefuses
namespace Go.Proofs.Ytncnoingbaeomaa
theorem findRefuses_proved : Rows.FindRefusesSaid := findRefuses.over
end Go.Proofs.Ytncnoingbaeomaa
