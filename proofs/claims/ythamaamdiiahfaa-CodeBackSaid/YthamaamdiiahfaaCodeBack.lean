/-
  For every number n, number m of 32 bits, bytes ahead and behind and place at CodeBack answers true and leaves its arguments as they were. No condition.
-/
import Derived.Test.YthamaamdiiahfaaRef01
import Derived.Test.YthamaamdiiahfaaAny
namespace Go.Proofs.Ythamaamdiiahfaa.codeBack
open Go.ChangeShapes Go.WideShapes Go.RowKit

theorem own : ownKnob Try.prog.godebug = none := by kernel_rfl
theorem laidOut : laidOutB Try.prog = true := by kernel_rfl

theorem le_of_num {k : Nat} {xs : List UInt8} (h : xs.length = k) : le k (num xs) = xs := by
  subst h
  exact le_num xs
theorem gv_mid {m : Nat} (ahead mid behind : List UInt8) (h : mid.length = m) : gv m (ahead ++ mid ++ behind) ahead.length = num mid := by
  rw [gv_yes (by simp; omega)]
  rw [Int.toNat_natCast, List.append_assoc, List.drop_left', List.take_left' h]
  rfl
theorem ge_mid {m len k : Nat} (h : k + m ≤ len) : ge m len k = 0 := ge_yes (by omega)
set_option maxRecDepth 100000 in
set_option maxHeartbeats 4000000 in
theorem walk (n : Int) (wn : (Lit.int .i64 n).wf = true) (m : Int) (wm : (Lit.int .u32 m).wf = true) (A : Option Addr) (la ca : Nat) (xa : List UInt8) (hla0 : xa.length = la) (hlca : la ≤ ca) (hca : ca ≤ 9223372036854775807)
    (B : Option Addr) (lb cb : Nat) (xb : List UInt8) (hlb0 : xb.length = lb) (hlcb : lb ≤ cb) (hcb : cb ≤ 9223372036854775807) (k : Int) (wk : (Lit.int .i64 k).wf = true) (w : World) (hxa : Byt w w.heap.size A xa) (hxb : Byt w w.heap.size B xb) :
    Calls Try.prog 5 #[.int .i64 n, .int .u32 m, .slice A la ca, .slice B lb cb, .int .i64 k] w fun e w' => e = .returned (.bool true) ∧ Below w.heap.size w w' := by
  have hn : -9223372036854775808 ≤ n ∧ n ≤ 9223372036854775807 := by simpa [Lit.wf, IntKind.min, IntKind.max, IntKind.signed, IntKind.bits] using wn
  have hm : 0 ≤ m ∧ m ≤ 4294967295 := by simpa [Lit.wf, IntKind.min, IntKind.max, IntKind.signed, IntKind.bits] using wm
  have hk : -9223372036854775808 ≤ k ∧ k ≤ 9223372036854775807 := by simpa [Lit.wf, IntKind.min, IntKind.max, IntKind.signed, IntKind.bits] using wk
  have hla := Lib.hid hla0
  have hlb := Lib.hid hlb0
  clear hla0 hlb0 wn wk wm
  rcases (by omega : 10000 < la ∨ (la ≤ 10000 ∧ 10000 < lb) ∨ (la ≤ 10000 ∧ lb ≤ 10000)) with hbig | ⟨hs1, hbig⟩ | ⟨hs1, hs2⟩
  · go_enter Try.func5, Try.ntmps5
    go_wp2_with (go_at_call 12; refine (alive_ok _).mono ?_; rintro e w1 ⟨rfl, hb1⟩)
    go_ret
    exact ⟨rfl, hb1⟩
  · go_enter Try.func5, Try.ntmps5
    go_wp2_with (go_at_call 12; refine (alive_ok _).mono ?_; rintro e w1 ⟨rfl, hb1⟩)
    go_ret
    exact ⟨rfl, hb1⟩
  obtain ⟨i0, hi, hz0, hz1, hz2⟩ := info_parts u8_info
  have hmm : (m : Int) < 4294967296 := by omega
  go_enter Try.func5, Try.ntmps5
  go_wp2_with fail
  refine (alive_ok _).mono ?_
  rintro e w1 ⟨rfl, hb1⟩
  go_wp2_with fail
  refine (two_any n _).mono ?_
  rintro e w2 ⟨T, rfl, ht, hb2⟩
  have hB2 := bstep hb1 hb2
  have xa2 := (hxa.below hB2).more hB2.size
  have xb2 := (hxb.below hB2).more hB2.size
  clear hb1 hb2 hxa hxb
  go_upto_if 41 with fail
  go_cut [12, 13, 14, 15] (fun _ _ _ _ wc => Below w2.heap.size w2 wc)
  case first =>
    by_cases hN : 0 ≤ n ∧ n < 65536
    · have ht2 := tb_yes hN
      rw [ht2] at ht
      have htl : (tb n).length = 2 := by rw [ht2]; exact le_length 2 n
      have hte := te_yes hN
      obtain ⟨v1, wa1, hrun1, own1, ba1⟩ := app_byt (P := Try.prog) (w := w2) w2.heap.size 22 22 5 i0 Try.underlying22 hi hz0 hz1 hz2 (.slice none 0 0) 0 [] (World.ownsRow_nil _ _ _ _) w2.heap.size A la ca xa xa2 hla.out (by omega) (Nat.le_refl _)
      rw [Nat.zero_add, List.nil_append] at own1
      obtain ⟨v2, wa2, hrun2, own2, ba2⟩ := app_byt (P := Try.prog) (w := wa1) w2.heap.size 22 22 5 i0 Try.underlying22 hi hz0 hz1 hz2 v1 la xa own1 w2.heap.size T 2 2 (le 2 n) (ht.below ba1) (le_length 2 n) (by omega) ba1.size
      obtain ⟨v3, wa3, hrun3, own3, ba3⟩ := app_byt (P := Try.prog) (w := wa2) w2.heap.size 22 22 5 i0 Try.underlying22 hi hz0 hz1 hz2 v2 (la + 2) (xa ++ le 2 n) own2 w2.heap.size B lb cb xb ((xb2.below ba1).below ba2) hlb.out (by omega) (Nat.le_trans ba1.size ba2.size)
      obtain ⟨A3, c3, rfl, hlc3, hc3, hx3⟩ := own_byt own3
      have H1 := Lib.hid hrun1
      have H2 := Lib.hid hrun2
      have H3 := Lib.hid hrun3
      have hba := (ba1.trans ba2).trans ba3
      clear hrun1 hrun2 hrun3 own1 own2 own3 ba1 ba2 ba3 ht2
      have hgv := gv_mid xa (le 2 n) xb (le_length 2 n)
      rw [num_le 2 n hN.1 (by simp; omega), hla.out] at hgv
      have hge := ge_mid (m := 2) (len := la + 2 + lb) (k := la) (by omega)
      have hlen3 : Hid ((xa ++ le 2 n ++ xb).length = la + 2 + lb) := Lib.hid (by simp [le_length, hla.out, hlb.out]; omega)
      have Hgv := Lib.hid hgv
      have Hge := Lib.hid hge
      clear hgv hge
      go_wp2_with (first
        | (at_builtin; refine wpList_append_run rfl _ _ _ rfl rfl rfl H1.out ?_; clear H1)
        | (at_builtin; refine wpList_append_run rfl _ _ _ rfl rfl rfl H2.out ?_; clear H2)
        | (at_builtin; refine wpList_append_run rfl _ _ _ rfl rfl rfl H3.out ?_; clear H3))
      refine (getTwo_any A3 _ c3 la _ hlen3 hlc3 hc3 _ hx3).mono ?_
      rintro e w3 ⟨rfl, hb3⟩
      rw [Hgv.out, Hge.out]
      go_wp2_with fail
      go_meet
      exact hba.trans (hb3.mono hba.size)
    · have hte := te_no hN
      go_wp2_with fail
      go_meet
      exact Below.refl _ _
  case rest =>
    clear ht
    have xa3 := (xa2.below hcut).more hcut.size
    have xb3 := (xb2.below hcut).more hcut.size
    have hB3 := bstep hB2 hcut
    clear hcut hB2 xa2 xb2
    go_wp2_with fail
    refine (four_any m hm.1 hmm _).mono ?_
    rintro e w4 ⟨F, rfl, hf, hb4⟩
    have hB4 := bstep hB3 hb4
    have xa4 := (xa3.below hb4).more hb4.size
    have xb4 := (xb3.below hb4).more hb4.size
    clear hB3 xa3 xb3
    obtain ⟨v1, wa1, hrun1, own1, ba1⟩ := app_byt (P := Try.prog) (w := w4) w4.heap.size 22 22 5 i0 Try.underlying22 hi hz0 hz1 hz2 (.slice none 0 0) 0 [] (World.ownsRow_nil _ _ _ _) w4.heap.size A la ca xa xa4 hla.out (by omega) (Nat.le_refl _)
    rw [Nat.zero_add, List.nil_append] at own1
    obtain ⟨v2, wa2, hrun2, own2, ba2⟩ := app_byt (P := Try.prog) (w := wa1) w4.heap.size 22 22 5 i0 Try.underlying22 hi hz0 hz1 hz2 v1 la xa own1 w4.heap.size F 4 4 (le 4 m) (hf.below ba1) (le_length 4 m) (by omega) ba1.size
    obtain ⟨v3, wa3, hrun3, own3, ba3⟩ := app_byt (P := Try.prog) (w := wa2) w4.heap.size 22 22 5 i0 Try.underlying22 hi hz0 hz1 hz2 v2 (la + 4) (xa ++ le 4 m) own2 w4.heap.size B lb cb xb ((xb4.below ba1).below ba2) hlb.out (by omega) (Nat.le_trans ba1.size ba2.size)
    obtain ⟨A3, c3, rfl, hlc3, hc3, hx3⟩ := own_byt own3
    have H1 := Lib.hid hrun1
    have H2 := Lib.hid hrun2
    have H3 := Lib.hid hrun3
    have hba := (ba1.trans ba2).trans ba3
    clear hrun1 hrun2 hrun3 own1 own2 own3 ba1 ba2 ba3
    have hgv := gv_mid xa (le 4 m) xb (le_length 4 m)
    rw [num_le 4 m hm.1 (by simp; omega), hla.out] at hgv
    have hge := ge_mid (m := 4) (len := la + 4 + lb) (k := la) (by omega)
    have hlen3 : Hid ((xa ++ le 4 m ++ xb).length = la + 4 + lb) := Lib.hid (by simp [le_length, hla.out, hlb.out]; omega)
    have Hgv := Lib.hid hgv
    have Hge := Lib.hid hge
    clear hgv hge
    go_wp2_with (first
      | (at_builtin; refine wpList_append_run rfl _ _ _ rfl rfl rfl H1.out ?_; clear H1)
      | (at_builtin; refine wpList_append_run rfl _ _ _ rfl rfl rfl H2.out ?_; clear H2)
      | (at_builtin; refine wpList_append_run rfl _ _ _ rfl rfl rfl H3.out ?_; clear H3))
    refine (getFour_any A3 _ c3 la _ hlen3 hlc3 hc3 _ hx3).mono ?_
    rintro e w5 ⟨rfl, hb5⟩
    rw [Hgv.out, Hge.out]
    have hB5 := bstep hB4 (hba.trans (hb5.mono hba.size))
    have xb5 : Byt w5 w5.heap.size B xb := (xb4.below (hba.trans (hb5.mono hba.size))).more (Nat.le_trans hba.size hb5.size)
    clear hba hb5 hB4 xb4 xa4 hx3 hf hlc3 hc3 hlen3 Hgv Hge
    go_wp2_with fail
    refine (getTwo_any B lb cb k xb hlb hlcb hcb _ xb5).mono ?_
    rintro e w6 ⟨rfl, hb6⟩
    have hB6 := bstep hB5 hb6
    have xb6 := (xb5.below hb6).more hb6.size
    clear hB5 hb6 xb5
    go_upto_if 99 with fail
    go_cut [19, 20, 21, 22] (fun _ g _ _ wc => g = .int .i64 (ge 2 lb k) ∧ Below w6.heap.size w6 wc)
    case first =>
      by_cases hK : 0 ≤ k ∧ k + (2 : Nat) ≤ lb
      · have hge := ge_yes (m := 2) (len := lb) hK
        have hgb := gv_bounds 2 xb k
        have hgl : le 2 (gv 2 xb k) = (xb.drop k.toNat).take 2 := by
          have hl := hlb.out
          rw [gv_yes (by omega)]
          exact le_of_num (by simp; omega)
        obtain ⟨g0, g1⟩ := hgb
        simp only [Int.reducePow] at g1
        have hte := te_yes (n := gv 2 xb k) ⟨g0, g1⟩
        have htb := tb_yes (n := gv 2 xb k) ⟨g0, g1⟩
        rw [hgl] at htb
        have Hge := Lib.hid hge
        have Htb := Lib.hid htb
        have Hte := Lib.hid hte
        clear hge hgl htb hte
        obtain ⟨kn, rfl⟩ := Int.eq_ofNat_of_zero_le hK.1
        have hK2 : kn + 2 ≤ lb := by omega
        rw [Hge.out]
        go_wp2_with fail
        refine (two_any _ _).mono ?_
        rintro e w7 ⟨G, rfl, hg, hb7⟩
        rw [Htb.out] at hg
        rw [Htb.out, Hte.out]
        have htl : ((xb.drop kn).take 2).length = 2 := by have := hlb.out; simp; omega
        rw [Int.toNat_natCast, htl]
        rw [Int.toNat_natCast] at hg
        have xb7 := xb6.below hb7
        obtain ⟨ad, rfl, hp⟩ := xb7.part (k := kn) (n := 2) (by have := hlb.out; omega) (by omega)
        have sG := fun d => (hg.drewN d).str (P := Try.prog) 22 9 5 2 2 htl Try.underlying22 Try.underlying5 Try.underlying9
        have sB := fun d => (hp.drewN d).str (P := Try.prog) 22 9 5 2 (cb - kn) htl Try.underlying22 Try.underlying5 Try.underlying9
        clear htl hg hp xb7 xb6
        have hsum : IntKind.i64.wrap ((kn : Int) + 2) = (kn : Int) + 2 := IntWalk.i64_in _ (by omega)
        have hd1 : decide ((lb : Int) < (kn : Int) + 2) = false := by simp <;> omega
        have hd0 : decide ((kn : Int) < 0) = false := by simp <;> omega
        have hs0 : ((kn : Int) + 2).toNat = kn + 2 := by omega
        have hs1 : (0 : Int) ≤ (kn : Int) + 2 := by omega
        go_wp2_with fail
        go_quiet (fail)
        go_wp2_with fail
        go_meet
        exact ⟨by rw [Hge.out], below_drewN hb7 _⟩
      · have hge := ge_no (m := 2) (len := lb) hK
        go_wp2_with fail
        go_meet
        exact ⟨by rw [ge_no hK], Below.refl _ _⟩
    case rest =>
      obtain ⟨rfl, hcut⟩ := hcut
      have hB7 := bstep hB6 hcut
      have xb7 := (xb6.below hcut).more hcut.size
      clear hB6 hcut xb6
      by_cases hK : 0 ≤ k ∧ k + (4 : Nat) ≤ lb
      · have hge := ge_yes (m := 4) (len := lb) hK
        have hge2 := ge_yes (m := 2) (len := lb) (k := k) (by omega)
        have hgb := gv_bounds 4 xb k
        have hgl : le 4 (gv 4 xb k) = (xb.drop k.toNat).take 4 := by
          have hl := hlb.out
          rw [gv_yes (by omega)]
          exact le_of_num (by simp; omega)
        obtain ⟨g0, g1⟩ := hgb
        simp only [Int.reducePow] at g1
        have Hge := Lib.hid hge
        have Hge2 := Lib.hid hge2
        have Hgl := Lib.hid hgl
        clear hge hgl hge2
        obtain ⟨kn, rfl⟩ := Int.eq_ofNat_of_zero_le hK.1
        have hK2 : kn + 4 ≤ lb := by omega
        rw [Hge2.out]
        go_wp2_with fail
        refine (getFour_any B lb cb kn xb hlb hlcb hcb _ xb7).mono ?_
        rintro e w8 ⟨rfl, hb8⟩
        rw [Hge.out]
        generalize gv 4 xb kn = q at *
        have Htl : Hid (((xb.drop kn).take 4).length = 4) := Lib.hid (by have := hlb.out; simp; omega)
        have hB8 := bstep hB7 hb8
        obtain ⟨ad, rfl, hp⟩ := ((xb7.below hb8).more hb8.size).part (k := kn) (n := 4) (by have := hlb.out; omega) (by omega)
        have sB : ∀ W, Below w8.heap.size w8 W → _ := fun W h => (hp.below h).str (P := Try.prog) 22 9 5 4 (cb - kn) Htl.out Try.underlying22 Try.underlying5 Try.underlying9
        have HB := Lib.hid sB
        have Hgl' := Hgl.out
        rw [Int.toNat_natCast] at Hgl'
        have Hg := Lib.hid Hgl'
        clear Hgl' Hgl sB hp xb7 hb8 hB7
        have hsum : IntKind.i64.wrap ((kn : Int) + 4) = (kn : Int) + 4 := IntWalk.i64_in _ (by omega)
        have hd1 : decide ((lb : Int) < (kn : Int) + 4) = false := by simp <;> omega
        have hd0 : decide ((kn : Int) < 0) = false := by simp <;> omega
        have hs0 : ((kn : Int) + 4).toNat = kn + 4 := by omega
        have hs1 : (0 : Int) ≤ (kn : Int) + 4 := by omega
        have hs2 : (kn : Int) + 4 ≤ (cb : Int) := by omega
        have hs3 : ¬ cb = kn := by omega
        go_wp2_with fail
        refine wp_region_as (by kernel_rfl) (fun W => Below w8.heap.size w8 W) (fun i => match i with
          | 14 => some (fun v W => ∃ A, v = .slice A 4 4 ∧ Byt W W.heap.size A ((xb.drop kn).take 4))
          | _ => none) (by kernel_rfl) (Below.refl _ _).drew (fun w w' h hb => h.trans (hb.mono h.size)) (fun j φ x w w' hp h hb => ?_) ?_
        · split at hp
          · cases hp
            obtain ⟨A', e, hy'⟩ := h
            exact ⟨A', e, (hy'.below hb).more hb.size⟩
          · cases hp
        repeat (first
          | (refine wpAs_skip rfl ?_; simp only [Act.put, List.setIfInBounds_toArray, List.set_cons_zero, List.set_cons_succ])
          | (refine wpAs_pure (v := ?_) rfl rfl ?_ ?_; rotate_left; (intro W hC hE; clear hE hC; go_simp; done); simp only [Act.put, List.setIfInBounds_toArray, List.set_cons_zero, List.set_cons_succ])
          | (refine wpAs_pure (v := ?_) rfl rfl ?_ ?_; rotate_left; (intro W hC hE; clear hE hC; go_simp; with_reducible rfl); simp only [Act.put, List.setIfInBounds_toArray, List.set_cons_zero, List.set_cons_succ]))
        refine wpAs_act rfl rfl ?_ ?_
        · intro W hC hE
          refine does_enter (f := 11) (args := #[.int .u32 q]) ?_ ?_
          · go_simp
          · refine (four_any q g0 g1 _).mono ?_
            rintro e w' ⟨F, rfl, hf, hg⟩
            rw [Hg.out] at hf
            exact ⟨_, rfl, ⟨F, rfl, hf⟩, hg⟩
        intro x14
        simp only [Act.put, List.setIfInBounds_toArray, List.set_cons_zero, List.set_cons_succ, envAdd]
        repeat (first
          | (refine wpAs_skip rfl ?_; simp only [Act.put, List.setIfInBounds_toArray, List.set_cons_zero, List.set_cons_succ])
          | (refine wpAs_pure (v := ?_) rfl rfl ?_ ?_; rotate_left; (intro W hC hE; clear hE hC; go_simp; done); simp only [Act.put, List.setIfInBounds_toArray, List.set_cons_zero, List.set_cons_succ])
          | (refine wpAs_pure (v := ?_) rfl rfl ?_ ?_; rotate_left; (intro W hC hE; clear hE hC; go_simp; with_reducible rfl); simp only [Act.put, List.setIfInBounds_toArray, List.set_cons_zero, List.set_cons_succ])
          | (refine wpAs_pure (v := .string ⟨((xb.drop kn).take 4).toArray⟩) rfl rfl (fun W hC hE => by obtain ⟨F, e, hf⟩ := hE.1 rfl; refine run_convert_op _ _ _ rfl ?_ (hf.str (P := Try.prog) 22 9 5 4 4 Htl.out Try.underlying22 Try.underlying5 Try.underlying9); exact e) ?_; simp only [Act.put, List.setIfInBounds_toArray, List.set_cons_zero, List.set_cons_succ])
          | (refine wpAs_pure rfl rfl (fun W hC _ => run_convert_op _ _ _ rfl rfl (HB.out W hC)) ?_; simp only [Act.put, List.setIfInBounds_toArray, List.set_cons_zero, List.set_cons_succ]))
        refine wpAs_end fun W hC hE => ?_
        go_wp2
        go_ret
        exact ⟨rfl, hB8.trans (hC.mono hB8.size)⟩
      · have hge := ge_no (m := 4) (len := lb) hK
        go_wp2_with fail
        refine (getFour_any B lb cb k xb hlb hlcb hcb _ xb7).mono ?_
        rintro e w8 ⟨rfl, hb8⟩
        rw [hge]
        clear hge
        go_wp2_with fail
        go_quiet (fail)
        go_wp2
        go_ret
        exact ⟨rfl, below_drewN (bstep hB7 hb8) _⟩


/-! ### The row's step -/
set_option maxRecDepth 100000 in
theorem lifted (os : Os) (started : os.Started) (H : Type) (enc : TypeId × Value → H) :
    ReturnsInHanded {} Try.checked os 5 .any (Rows.codeBackSpec.pre6 enc Try.prog Try.f5 Rows.codeBackRow.domain false) (Rows.codeBackSpec.post enc Try.prog Try.f5 false true false false) := by
  refine returnsInHanded_of_change (C := Try.checked) own started (by kernel_rfl) Try.func5
    (ChangeSpec.witness6 (enc := enc) (C := Try.checked) false ⟨#[], #[.int .i64 0, .int .u32 0, .slice none 0 0, .slice none 0 0, .int .i64 0], []⟩ 8 (by kernel_rfl) (by kernel_rfl) (by kernel_rfl) (by kernel_rfl)) ?_
  intro W base args ds gs before hval0 hW _ _
  have hval : ∀ (j : Nat) t v, Try.f5.params[j]? = some t → args[j]? = some v → Value.okWide Try.prog W .any base t v := hval0
  have hW' := hW
  obtain ⟨p, q, hA0, hV, _, _, _⟩ := hW
  have hA : DataW.TrodAll enc Try.prog W 0 (fun _ => true) true Try.f5.params.toList args.toList ds p := hA0
  rw [Try.params5] at hA hval
  obtain ⟨v0, vs0, d0, ds0, p0, q0, hargs, rfl, _, h0, r0⟩ := trodAll_cons hA
  obtain ⟨v1, vs1, d1, ds1, p1, q1, rfl, rfl, _, h1, r1⟩ := trodAll_cons r0
  obtain ⟨v2, vs2, d2, ds2, p2, q2, rfl, rfl, _, h2, r2⟩ := trodAll_cons r1
  obtain ⟨v3, vs3, d3, ds3, p3, q3, rfl, rfl, _, h3, r3⟩ := trodAll_cons r2
  obtain ⟨v4, vs4, d4, ds4, p4, q4, rfl, rfl, _, h4, r4⟩ := trodAll_cons r3
  obtain ⟨rfl, rfl, _⟩ := trodAll_nil r4
  obtain rfl : args = #[v0, v1, v2, v3, v4] := by cases args; simp_all
  obtain ⟨rfl, _⟩ := trodVars_none hV
  obtain ⟨a0, rfl, _, _, w0⟩ := open_int Try.underlying3 (hval 0 3 v0 rfl rfl) h0
  obtain ⟨a1, rfl, _, _, w1⟩ := open_int Try.underlying28 (hval 1 28 v1 rfl rfl) h1
  obtain ⟨A2, n2, c2, x2, rfl, l2, m2, b2, y2⟩ := open_bytes Try.underlying22 Try.underlying5 (by kernel_rfl) (hval 2 22 v2 rfl rfl) h2
  obtain ⟨A3, n3, c3, x3, rfl, l3, m3, b3, y3⟩ := open_bytes Try.underlying22 Try.underlying5 (by kernel_rfl) (hval 3 22 v3 rfl rfl) h3
  obtain ⟨a4, rfl, _, _, w4⟩ := open_int Try.underlying3 (hval 4 3 v4 rfl rfl) h4
  clear hA0 hval0
  refine (walk a0 w0 a1 w1 A2 n2 c2 x2 y2 l2 m2 A3 n3 c3 x3 y3 l3 m3 a4 w4 W b2 b3).mono fun e W' ⟨he, hb⟩ => ?_
  subst he
  exact ⟨_, rfl, law_post laidOut (by rw [Try.params5]; decide +kernel) (by kernel_rfl) Try.underlying4 rfl ⟨rfl, by simp [Rows.codeBackSpec], rfl⟩ hW' hb⟩

theorem over : Rows.codeBackRow.holds Try.pinned (OpenSpec.ofChange Rows.codeBackSpec) :=
  OpenClaim.holds_of_wide 5 Try.f5 rfl rfl rfl rfl rfl rfl rfl ⟨rfl, rfl, rfl, rfl, rfl⟩ rfl rfl rfl rfl rfl (by kernel_rfl) Try.func5 (by kernel_rfl)
    (of_decide_eq_true (by kernel_rfl)) (by unfold Func.isWrapper; first | (rw [if_pos (by decide +kernel)]; kernel_rfl) | (rw [if_neg (by decide +kernel)]; exact ⟨rfl, rfl⟩))
    (fun os started H enc _ => lifted os started H enc)

end Go.Proofs.Ythamaamdiiahfaa.codeBack
namespace Go.Proofs.Ythamaamdiiahfaa
theorem codeBack_proved : Rows.CodeBackSaid := codeBack.over
end Go.Proofs.Ythamaamdiiahfaa
