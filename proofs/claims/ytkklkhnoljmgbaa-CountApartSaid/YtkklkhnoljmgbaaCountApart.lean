/-
  For every table and two places CountApart answers true and leaves its arguments as they were. No condition.
-/
import Derived.Test.YtkklkhnoljmgbaaBnd2
namespace Go.Proofs.Ytkklkhnoljmgbaa.countApart
open Go.ChangeShapes Go.WideShapes Go.RowKit

theorem own : ownKnob Try.prog.godebug = none := by kernel_rfl
theorem laidOut : laidOutB Try.prog = true := by kernel_rfl

set_option maxRecDepth 100000 in
set_option maxHeartbeats 8000000 in
theorem walk (v : Value) (t : List UInt8) (a : Int) (ha : (Lit.int .i64 a).wf = true) (b : Int) (hb : (Lit.int .i64 b).wf = true) (w : World) (h : rBy (Old w) w [v] t) :
    Calls Try.prog 7 #[v, .int .i64 a, .int .i64 b] w fun e w' => e = .returned (.bool true) ∧ Below w.heap.size w w' := by
  clear ha hb
  obtain ⟨A, c, rfl, l1, m1, _⟩ := rBy_byt (B := w.heap.size) (fun _ h => h) h
  have H := Lib.hid h
  clear h
  go_enter Try.func7, Try.ntmps7
  go_wp2_with fail
  with_reducible refine (alive7 _).mono ?_
  rintro e w1 ⟨rfl, hb1⟩
  have H1 := Lib.hid (stab_by.old H.out hb1)
  have B1 := Lib.hid hb1
  clear hb1 H
  by_cases hl : 10000 < t.length
  · have hl' : (10000 : Int) < t.length := by omega
    go_wp2_with fail
    go_ret
    exact ⟨rfl, B1.out⟩
  · have hl' : ¬ (10000 : Int) < t.length := by omega
    obtain ⟨A', c', e1, _, _, by1⟩ := rBy_byt (B := w1.heap.size) (fun _ h => h) H1.out
    cases e1
    have BY1 := Lib.hid by1
    clear by1
    go_wp2_with fail
    with_reducible refine (checkT_any A t.length c t (Lib.hid rfl) l1 m1 _ BY1.out).mono ?_
    rintro e w2 ⟨rfl, rfl⟩
    cases hm : mayT t with
    | false =>
      rw [chkT_bad hm]
      go_wp2_with fail
      go_ret
      exact ⟨rfl, B1.out⟩
    | true =>
      rw [chkT_ok hm]
      have hlen := Lib.hid (mayT_len hm)
      obtain ⟨ad, rfl, had⟩ : ∃ ad, A = some ad ∧ ∀ j, j < 256 → w1.cell? (ad.add j) = some (.int .u8 ((t[j]?.getD 0).toNat : Int)) ∧ (ad.add j).block < w1.heap.size := by
        obtain ⟨ad, e, hb, hc⟩ := BY1.out (by rw [hlen.out]; omega)
        exact ⟨ad, e, fun j hj => ⟨hc j (by rw [hlen.out]; exact hj), by rw [add_block]; exact hb⟩⟩
      go_wp2_with fail
      with_reducible refine (up_open _ t a _ H1.out).mono ?_
      rintro e w3 ⟨E3, c3, rfl, h3, hb3⟩
      have H3 := Lib.hid (stab_by.old H1.out hb3)
      have B3 := Lib.hid (B1.out.trans (hb3.mono B1.out.size))
      have U3 := Lib.hid (stab_by.drop h3)
      go_wp2_with fail
      with_reducible refine (down_open _ t b _ H3.out).mono ?_
      rintro e w4 ⟨E4, c4, rfl, h4, hb4⟩
      have H4 := Lib.hid (stab_by.old H3.out hb4)
      have B4 := Lib.hid (B3.out.trans (hb4.mono B3.out.size))
      have U4 := Lib.hid (stab_by.old U3.out hb4)
      have V4 := Lib.hid (stab_by.drop h4)
      have cT : Hid (∀ j, j < 256 → w4.cell? (ad.add j) = some (.int .u8 ((t[j]?.getD 0).toNat : Int))) := Lib.hid fun j hj => ((hb3.trans (hb4.mono hb3.size)).cell (had j hj).2).trans (had j hj).1
      clear h3 h4 hb3 hb4 had BY1 H1 H3 U3 B1 B3
      have wa := turn_ways t a 255
      have wb := turn_ways t b 0
      rw [hm] at wa wb
      simp only [Bool.true_eq_false, false_and, false_or, true_and] at wa wb
      replace wa := Lib.hid wa
      replace wb := Lib.hid wb
      obtain ⟨ea, hea⟩ : ∃ q, upE t a = q := ⟨_, rfl⟩
      obtain ⟨eb, heb⟩ : ∃ q, dnE t b = q := ⟨_, rfl⟩
      rw [show turnE t a 255 = ea from hea] at wa
      rw [show turnE t b 0 = eb from heb] at wb
      rw [hea, heb]
      replace hea := Lib.hid hea
      replace heb := Lib.hid heb
      clear hm
      obtain ⟨la, hla⟩ : ∃ q, (upV t a).length = q := ⟨_, rfl⟩
      obtain ⟨lb, hlb⟩ : ∃ q, (dnV t b).length = q := ⟨_, rfl⟩
      have hva : Hid (ea ≠ 0 → la = 0) := Lib.hid fun h => by rw [← hla, upV, hea.out, if_neg h]; rfl
      have hvb : Hid (eb ≠ 0 → lb = 0) := Lib.hid fun h => by rw [← hlb, dnV, heb.out, if_neg h]; rfl
      rw [hla] at U4 ⊢
      rw [hlb] at V4 ⊢
      replace hla := Lib.hid hla
      replace hlb := Lib.hid hlb
      go_upto_region 6 with fail
      go_cut [12, 13] from 40 to 51 (fun x12 x13 wx => x12 = .bool (inT a) ∧ x13 = .bool (inT b) ∧ w4 = wx)
      case first =>
        have ca : (a < 8 ∧ inT a = false) ∨ (8 ≤ a ∧ a < 256 ∧ inT a = true) ∨ (8 ≤ a ∧ 256 ≤ a ∧ inT a = false) := in_ways a
        have cb : (b < 8 ∧ inT b = false) ∨ (8 ≤ b ∧ b < 256 ∧ inT b = true) ∨ (8 ≤ b ∧ 256 ≤ b ∧ inT b = false) := in_ways b
        rcases ca with ⟨ca, ka⟩ | ⟨ca, ca2, ka⟩ | ⟨ca, ca2, ka⟩ <;> rcases cb with ⟨cb, kb⟩ | ⟨cb, cb2, kb⟩ | ⟨cb, cb2, kb⟩ <;>
          (replace ka := Lib.hid ka
           replace kb := Lib.hid kb
           go_wp2_with fail
           go_meet
           rw [ka.out, kb.out]
           exact ⟨by simp <;> omega, by simp <;> omega, rfl⟩)
      case rest =>
      obtain ⟨rfl, rfl, rfl⟩ := hcut
      have fa : (inT a = false ∧ ea = 2 ∧ la = 0) ∨ (∃ k : Nat, a = k ∧ 0 < k ∧ k < 256 ∧ inT a = true ∧ ea = 70 ∧ la = 0 ∧ w4.cell? (ad.add k) = some (.int .u8 255)) ∨ (∃ (k : Nat) (x : Int), a = k ∧ 0 < k ∧ k < 256 ∧ inT a = true ∧ ea = 0 ∧ w4.cell? (ad.add k) = some (.int .u8 x) ∧ x < 255) := by
        rcases wa.out with ⟨h1, h2⟩ | ⟨k, h1, h2, h3, h4, h5⟩ | ⟨k, h1, h2, h3, h4, h5⟩
        · rcases in_ways a with ⟨_, h⟩ | ⟨_, _, _⟩ | ⟨_, _, h⟩
          · exact .inl ⟨h, h2, hva.out (by rw [h2]; decide)⟩
          · omega
          · exact .inl ⟨h, h2, hva.out (by rw [h2]; decide)⟩
        · refine .inr (.inl ⟨k, h1, by omega, h3, by rw [h1]; exact inT_of h2 h3, h5, hva.out (by rw [h5]; decide), ?_⟩)
          rw [cT.out k h3, h4]
          rfl
        · refine .inr (.inr ⟨k, _, h1, by omega, h3, by rw [h1]; exact inT_of h2 h3, h5, cT.out k h3, ?_⟩)
          have := (up_byte h4).2.1
          omega
      have fb : (inT b = false ∧ eb = 2 ∧ lb = 0) ∨ (∃ k : Nat, b = k ∧ 0 < k ∧ k < 256 ∧ inT b = true ∧ eb = 70 ∧ lb = 0 ∧ w4.cell? (ad.add k) = some (.int .u8 0)) ∨ (∃ (k : Nat) (x : Int), b = k ∧ 0 < k ∧ k < 256 ∧ inT b = true ∧ eb = 0 ∧ w4.cell? (ad.add k) = some (.int .u8 x) ∧ 0 < x) := by
        rcases wb.out with ⟨h1, h2⟩ | ⟨k, h1, h2, h3, h4, h5⟩ | ⟨k, h1, h2, h3, h4, h5⟩
        · rcases in_ways b with ⟨_, h⟩ | ⟨_, _, _⟩ | ⟨_, _, h⟩
          · exact .inl ⟨h, h2, hvb.out (by rw [h2]; decide)⟩
          · omega
          · exact .inl ⟨h, h2, hvb.out (by rw [h2]; decide)⟩
        · refine .inr (.inl ⟨k, h1, by omega, h3, by rw [h1]; exact inT_of h2 h3, h5, hvb.out (by rw [h5]; decide), ?_⟩)
          rw [cT.out k h3, h4]
          rfl
        · refine .inr (.inr ⟨k, _, h1, by omega, h3, by rw [h1]; exact inT_of h2 h3, h5, cT.out k h3, ?_⟩)
          have := (dn_byte h4).2.2
          omega
      go_upto_region 7 with fail
      rw [hlen.out] at H4 ⊢
      rcases fa with ⟨ka, rfl, rfl⟩ | ⟨k, rfl, hk0, hk, ka, rfl, rfl, ca⟩ | ⟨k, x, rfl, hk0, hk, ka, rfl, ca, hx⟩
      · clear wa wb cT hva hvb H4 U4 V4
        rcases fb with ⟨kb, rfl, rfl⟩ | ⟨m, rfl, hm0, hm, kb, rfl, rfl, cb⟩ | ⟨m, y, rfl, hm0, hm, kb, rfl, cb, hy⟩ <;>
          (try have e3 : min (m : Int) 255 = m := by omega
           try have e4 : max 0 (m : Int) = m := by omega
           go_wp2_with fail
           go_ret
           exact ⟨rfl, B4.out⟩)
      · clear wa wb cT hva hvb H4 U4 V4
        have e1 : min (k : Int) 255 = k := by omega
        have e2 : max 0 (k : Int) = k := by omega
        rcases fb with ⟨kb, rfl, rfl⟩ | ⟨m, rfl, hm0, hm, kb, rfl, rfl, cb⟩ | ⟨m, y, rfl, hm0, hm, kb, rfl, cb, hy⟩ <;>
          (try have e3 : min (m : Int) 255 = m := by omega
           try have e4 : max 0 (m : Int) = m := by omega
           go_wp2_with fail
           go_ret
           exact ⟨rfl, B4.out⟩)
      · have e1 : min (k : Int) 255 = k := by omega
        have e2 : max 0 (k : Int) = k := by omega
        rcases fb with ⟨kb, rfl, rfl⟩ | ⟨m, rfl, hm0, hm, kb, rfl, rfl, cb⟩ | ⟨m, y, rfl, hm0, hm, kb, rfl, cb, hy⟩
        · clear wa wb cT hva hvb H4 U4 V4
          go_wp2_with fail
          go_ret
          exact ⟨rfl, B4.out⟩
        · clear wa wb cT hva hvb H4 U4 V4
          have e3 : min (m : Int) 255 = m := by omega
          have e4 : max 0 (m : Int) = m := by omega
          go_wp2_with fail
          go_ret
          exact ⟨rfl, B4.out⟩
        · have e3 : min (m : Int) 255 = m := by omega
          have e4 : max 0 (m : Int) = m := by omega
          obtain ⟨p1, p2, p3, p4, p5⟩ := apart_ok hea.out heb.out
          obtain ⟨L, hL⟩ : ∃ L, dnV (upV t k) m = L := ⟨_, rfl⟩
          rw [hL] at p3 p4 p5
          have hdn : Hid (∀ W, Below w4.heap.size w4 W → Calls Try.prog 10 #[.slice E3 la c3, .int .i64 m] W fun e w' => ∃ E c, e = .returned (.tuple #[.slice E 256 c, .int .i64 0]) ∧ rBy (New W.heap.size w') w' [.slice E 256 c] L ∧ Below W.heap.size W w') := Lib.hid fun W hW => by
            have := down_open _ _ m W (stab_by.old U4.out hW)
            rwa [p1, hL, p5] at this
          have hup : Hid (∀ W, Below w4.heap.size w4 W → Calls Try.prog 12 #[.slice E4 lb c4, .int .i64 k] W fun e w' => ∃ E c, e = .returned (.tuple #[.slice E 256 c, .int .i64 0]) ∧ rBy (New W.heap.size w') w' [.slice E 256 c] L ∧ Below W.heap.size W w') := Lib.hid fun W hW => by
            have := up_open _ _ k W (stab_by.old V4.out hW)
            rwa [p2, ← p3, p5] at this
          have H4' := Lib.hid (H4.out : rBy (Old w4) w4 [.slice (some ad) 256 c] t)
          have hsame : Hid (k = m → L = t) := Lib.hid p4
          clear wa wb cT hva hvb H4 U4 V4 p1 p2 p3 p4 p5 hL
          go_wp2_with fail
          with_reducible refine (hdn.out _ (Below.refl _ _)).mono ?_
          rintro e w5 ⟨E5, c5, rfl, h5, hb5⟩
          have H5 := Lib.hid (stab_by.drop h5)
          have hb5' := Lib.hid hb5
          clear h5 hb5
          go_wp2_with fail
          with_reducible refine (hup.out _ hb5'.out).mono ?_
          rintro e w6 ⟨E6, c6, rfl, h6, hb6⟩
          have B6 := Lib.hid (B4.out.trans ((hb5'.out.trans (hb6.mono hb5'.out.size)).mono B4.out.size))
          have s5 := rBy_str0 (stab_by.old H5.out hb6)
          have s6 := rBy_str0 (stab_by.drop h6)
          have s4 := rBy_str0 (stab_by.old H4'.out (hb5'.out.trans (hb6.mono hb5'.out.size)))
          clear h6 hb6 H5 H4' hb5'
          by_cases hkm : k = m
          · have hLt := hsame.out hkm
            subst hkm
            subst hLt
            clear hsame
            go_wp2_with fail
            go_ret
            exact ⟨by simp, B6.out⟩
          · have g1 : ((k : Int) != (m : Int)) = true := by simp; omega
            go_wp2_with fail
            go_ret
            exact ⟨by simp, B6.out⟩

/-! ### The row's step -/
set_option maxRecDepth 100000 in
theorem lifted (os : Os) (started : os.Started) (H : Type) (enc : TypeId × Value → H) :
    ReturnsInHanded {} Try.checked os 7 .any (Rows.countApartSpec.pre6 enc Try.prog Try.f7 Rows.countApartRow.domain false) (Rows.countApartSpec.post enc Try.prog Try.f7 false true false false) := by
  refine returnsInHanded_of_change (C := Try.checked) own started (by kernel_rfl) Try.func7
    (ChangeSpec.witness6 (enc := enc) (C := Try.checked) false ⟨#[], #[.slice none 0 0, .int .i64 0, .int .i64 0], []⟩ 8 (by kernel_rfl) (by kernel_rfl) (by kernel_rfl) (by kernel_rfl)) ?_
  intro W base args ds gs before hval0 hW _ _
  have hval : ∀ (j : Nat) t v, Try.f7.params[j]? = some t → args[j]? = some v → Value.okWide Try.prog W .any base t v := hval0
  have hW' := hW
  obtain ⟨p, q, hA0, hV, _, _, _⟩ := hW
  have hA : DataW.TrodAll enc Try.prog W 0 (fun _ => true) true Try.f7.params.toList args.toList ds p := hA0
  rw [Try.params7] at hA hval
  obtain ⟨v0, vs0, d0, ds0, p0, q0, hargs, rfl, _, h0, r0⟩ := trodAll_cons hA
  obtain ⟨v1, vs1, d1, ds1, p1, q1, rfl, rfl, _, h1, r1⟩ := trodAll_cons r0
  obtain ⟨v2, vs2, d2, ds2, p2, q2, rfl, rfl, _, h2, r2⟩ := trodAll_cons r1
  obtain ⟨rfl, rfl, _⟩ := trodAll_nil r2
  obtain rfl : args = #[v0, v1, v2] := by cases args; simp_all
  obtain ⟨rfl, _⟩ := trodVars_none hV
  obtain ⟨d0x, y0⟩ := open_by (hval 0 23 v0 rfl rfl) h0
  obtain ⟨a1, rfl, _, _, w1⟩ := open_int Try.underlying3 (hval 1 3 v1 rfl rfl) h1
  obtain ⟨a2, rfl, _, _, w2⟩ := open_int Try.underlying3 (hval 2 3 v2 rfl rfl) h2
  clear hA0 hval0
  refine (walk v0 d0x a1 w1 a2 w2 W y0).mono fun e W' ⟨he, hb⟩ => ?_
  subst he
  exact ⟨_, rfl, law_post laidOut (by rw [Try.params7]; decide +kernel) (by kernel_rfl) Try.underlying4 rfl ⟨rfl, by simp [Rows.countApartSpec], rfl⟩ hW' hb⟩

theorem over : Rows.countApartRow.holds Try.pinned (OpenSpec.ofChange Rows.countApartSpec) :=
  OpenClaim.holds_of_wide 7 Try.f7 rfl rfl rfl rfl rfl rfl rfl ⟨rfl, rfl, rfl, rfl, rfl⟩ rfl rfl rfl rfl rfl (by kernel_rfl) Try.func7 (by kernel_rfl)
    (of_decide_eq_true (by kernel_rfl)) (by unfold Func.isWrapper; first | (rw [if_pos (by decide +kernel)]; kernel_rfl) | (rw [if_neg (by decide +kernel)]; exact ⟨rfl, rfl⟩))
    (fun os started H enc _ => lifted os started H enc)

end Go.Proofs.Ytkklkhnoljmgbaa.countApart
namespace Go.Proofs.Ytkklkhnoljmgbaa
theorem countApart_proved : Rows.CountApartSaid := countApart.over
end Go.Proofs.Ytkklkhnoljmgbaa
