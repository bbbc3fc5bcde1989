/-
  For every table and place CountTurns answers true and leaves its arguments as they were. No condition.
-/
import Derived.Test.YtkklkhnoljmgbaaBnd2
namespace Go.Proofs.Ytkklkhnoljmgbaa.countTurns
open Go.ChangeShapes Go.WideShapes Go.RowKit

theorem own : ownKnob Try.prog.godebug = none := by kernel_rfl
theorem laidOut : laidOutB Try.prog = true := by kernel_rfl

set_option maxRecDepth 100000 in
set_option maxHeartbeats 8000000 in
theorem walk (v : Value) (t : List UInt8) (n : Int) (hn : (Lit.int .i64 n).wf = true) (w : World) (h : rBy (Old w) w [v] t) :
    Calls Try.prog 5 #[v, .int .i64 n] w fun e w' => e = .returned (.bool true) ∧ Below w.heap.size w w' := by
  clear hn
  obtain ⟨A, c, rfl, _⟩ := id (rBy_open h)
  have H := Lib.hid h
  clear h
  go_enter Try.func5, Try.ntmps5
  go_wp2_with fail
  with_reducible refine (alive7 _).mono ?_
  rintro e w1 ⟨rfl, hb1⟩
  have H1 := Lib.hid (stab_by.old H.out hb1)
  have B1 := Lib.hid hb1
  clear hb1 H
  by_cases hl : 10000 < t.length
  · have hl' : (10000 : Int) < t.length := by omega
    go_wp2_with fail
    go_ret
    exact ⟨rfl, B1.out⟩
  · have hl' : ¬ (10000 : Int) < t.length := by omega
    go_wp2_with fail
    with_reducible refine (up_open _ t n _ H1.out).mono ?_
    rintro e w2 ⟨E, ce, rfl, h2, hb2⟩
    have H2 := Lib.hid (stab_by.drop h2)
    have HT := Lib.hid (stab_by.old H1.out hb2)
    have B2 := Lib.hid (B1.out.trans (hb2.mono B1.out.size))
    clear h2 hb2 H1 B1
    by_cases he : upE t n = 0
    · obtain ⟨k, rfl, hm, h8, h256, hlen, hx, hV⟩ := up_ways he
      have hud := up_down hm h8 h256 hx
      have hul : (upV t (k : Int)).length = 256 := by rw [hV, List.length_set, hlen]
      have hget : ∀ j, (upV t (k : Int))[j]?.getD 0 = if j = k then t[k]?.getD 0 + 1 else t[j]?.getD 0 := fun j => by
        rw [hV]
        by_cases hj : j = k
        · rw [if_pos hj, hj, set_get (by omega)]
        · rw [if_neg hj, set_other hj]
      have hub := (up_byte hx).1
      rw [← hV] at hud
      rw [he, hul]
      rw [hul] at H2
      rw [hlen] at HT hl' ⊢
      obtain ⟨T, hT⟩ : ∃ T, upV t (k : Int) = T := ⟨_, rfl⟩
      rw [hT] at H2 hul hget hud
      obtain ⟨A', c', e1, _, _, hcT⟩ := rBy_open HT.out
      obtain ⟨E', ce', e2, _, _, hcU⟩ := rBy_open H2.out
      rw [hlen] at e1
      rw [hul] at e2
      cases e1
      cases e2
      obtain ⟨ad, rfl, _⟩ := hcT 0 (by omega)
      obtain ⟨bd, rfl, _⟩ := hcU 0 (by omega)
      have cT : Hid (∀ j, j < 256 → ∀ W, Below w2.heap.size w2 W → W.cell? (ad.add j) = some (.int .u8 ((t[j]?.getD 0).toNat : Int))) := Lib.hid fun j hj W hW => by
        obtain ⟨_, e, hlt, hc⟩ := hcT j (by omega)
        cases e
        exact (hW.cell hlt).trans hc
      have cU : Hid (∀ j, j < 256 → ∀ W, Below w2.heap.size w2 W → W.cell? (bd.add j) = some (.int .u8 ((T[j]?.getD 0).toNat : Int))) := Lib.hid fun j hj W hW => by
        obtain ⟨_, e, hlt, hc⟩ := hcU j (by omega)
        cases e
        exact (hW.cell hlt).trans hc
      have q1 := cT.out k h256 w2 (Below.refl _ _)
      have q2 := cU.out k h256 w2 (Below.refl _ _)
      rw [hget k, if_pos rfl, ← hub] at q2
      have hgo : Hid (∀ j, j ≠ k → T[j]?.getD 0 = t[j]?.getD 0) := Lib.hid fun j hj => by rw [hget j, if_neg hj]
      obtain ⟨x, hxe⟩ : ∃ x, t[k]?.getD 0 = x := ⟨_, rfl⟩
      rw [hxe] at q1 q2 hub
      have hxb := x.toNat_lt
      have i1 : decide ((k : Int) < 8) = false := by simp; omega
      have i2 : decide ((255 : Int) < (k : Int)) = false := by simp; omega
      have i3 : ((x.toNat : Int) + 1 != (x.toNat : Int) + 1) = false := by simp
      have hdn : Hid (∀ W, Below w2.heap.size w2 W → Calls Try.prog 10 #[.slice (some bd) 256 ce, .int .i64 k] W fun e w' => ∃ E c, e = .returned (.tuple #[.slice E 256 c, .int .i64 0]) ∧ rBy (New W.heap.size w') w' [.slice E 256 c] t ∧ Below W.heap.size W w') := Lib.hid fun W hW => by
        have := down_open _ T k W (stab_by.old H2.out hW)
        rwa [hud.1, hud.2, hlen] at this
      replace hlen := Lib.hid hlen
      replace hul := Lib.hid hul
      replace hub := Lib.hid hub
      replace hxe := Lib.hid hxe
      replace hm := Lib.hid hm
      clear hcT hcU hget hx he hV hT hud hl
      go_upto_region 7 with fail
      go_quiet (fail)
      go_wp2_with fail
      have hdr : Below w2.heap.size w2 (w2.drewN nq) := below_drewN (Below.refl _ _) nq
      clear q1 q2 i3
      go_loopw [8] (fun i wr => ∃ j : Nat, j ≤ 256 ∧ i = .int .i64 j ∧ Below w2.heap.size w2 wr) (fun i _ => 256 - (intOf i).toNat)
      case atStart => exact ⟨0, by omega, rfl, hdr⟩
      case round =>
        clear hdr
        obtain ⟨j, hj, rfl, hbr⟩ := hrel
        by_cases hlt : j < 256
        · by_cases hjk : j = k
          · subst hjk
            have hbr' := Lib.hid hbr
            clear hbr
            go_upto_region 12 with fail
            go_quiet (fail)
            go_wp2_with fail
            go_roundw
            case rel => exact ⟨j + 1, by omega, by go_num, below_drewN hbr'.out _⟩
            case measure => simp [intOf]; omega
          · have q1 := cT.out j hlt wr hbr
            have q2 := cU.out j hlt wr hbr
            rw [hgo.out j hjk] at q2
            obtain ⟨y, hy⟩ : ∃ y, t[j]?.getD 0 = y := ⟨_, rfl⟩
            rw [hy] at q1 q2
            replace hy := Lib.hid hy
            have g1 : ((j : Int) != (k : Int)) = true := by simp; omega
            have hbr' := Lib.hid hbr
            clear hbr
            go_upto_region 12 with fail
            go_quiet (fail)
            go_wp2_with fail
            go_roundw
            case rel => exact ⟨j + 1, by omega, by go_num, below_drewN hbr'.out _⟩
            case measure => simp [intOf]; omega
        · have hbr' := Lib.hid hbr
          clear hbr
          go_wp2_with fail
          with_reducible refine (hdn.out _ hbr'.out).mono ?_
          rintro e w6 ⟨E6, c6, rfl, h6, hb6⟩
          have HT6 := stab_by.old HT.out (hbr'.out.trans (hb6.mono hbr'.out.size))
          have s1 := rBy_str0 HT6
          have s2 := rBy_str0 (stab_by.drop h6)
          have B6 := Lib.hid (B2.out.trans ((hbr'.out.mono B2.out.size).trans (hb6.mono (Nat.le_trans B2.out.size hbr'.out.size))))
          clear h6 hb6 HT6
          go_wp2_with fail
          go_ret
          exact ⟨by simp, B6.out⟩
    · obtain ⟨q, hq⟩ : ∃ q, upE t n = q := ⟨_, rfl⟩
      have hq0 : (q != 0) = true := by rw [← hq]; simpa using he
      have hnil : upV t n = [] := by simp [upV, he]
      rw [hq]
      rw [hnil] at H2 ⊢
      replace hq := Lib.hid hq
      clear he hnil
      go_wp2_with fail
      go_ret
      exact ⟨rfl, B2.out⟩

/-! ### The row's step -/
set_option maxRecDepth 100000 in
theorem lifted (os : Os) (started : os.Started) (H : Type) (enc : TypeId × Value → H) :
    ReturnsInHanded {} Try.checked os 5 .any (Rows.countTurnsSpec.pre6 enc Try.prog Try.f5 Rows.countTurnsRow.domain false) (Rows.countTurnsSpec.post enc Try.prog Try.f5 false true false false) := by
  refine returnsInHanded_of_change (C := Try.checked) own started (by kernel_rfl) Try.func5
    (ChangeSpec.witness6 (enc := enc) (C := Try.checked) false ⟨#[], #[.slice none 0 0, .int .i64 0], []⟩ 8 (by kernel_rfl) (by kernel_rfl) (by kernel_rfl) (by kernel_rfl)) ?_
  intro W base args ds gs before hval0 hW _ _
  have hval : ∀ (j : Nat) t v, Try.f5.params[j]? = some t → args[j]? = some v → Value.okWide Try.prog W .any base t v := hval0
  have hW' := hW
  obtain ⟨p, q, hA0, hV, _, _, _⟩ := hW
  have hA : DataW.TrodAll enc Try.prog W 0 (fun _ => true) true Try.f5.params.toList args.toList ds p := hA0
  rw [Try.params5] at hA hval
  obtain ⟨v0, vs0, d0, ds0, p0, q0, hargs, rfl, _, h0, r0⟩ := trodAll_cons hA
  obtain ⟨v1, vs1, d1, ds1, p1, q1, rfl, rfl, _, h1, r1⟩ := trodAll_cons r0
  obtain ⟨rfl, rfl, _⟩ := trodAll_nil r1
  obtain rfl : args = #[v0, v1] := by cases args; simp_all
  obtain ⟨rfl, _⟩ := trodVars_none hV
  obtain ⟨d0x, y0⟩ := open_by (hval 0 23 v0 rfl rfl) h0
  obtain ⟨a1, rfl, _, _, w1⟩ := open_int Try.underlying3 (hval 1 3 v1 rfl rfl) h1
  clear hA0 hval0
  refine (walk v0 d0x a1 w1 W y0).mono fun e W' ⟨he, hb⟩ => ?_
  subst he
  exact ⟨_, rfl, law_post laidOut (by rw [Try.params5]; decide +kernel) (by kernel_rfl) Try.underlying4 rfl ⟨rfl, by simp [Rows.countTurnsSpec], rfl⟩ hW' hb⟩

theorem over : Rows.countTurnsRow.holds Try.pinned (OpenSpec.ofChange Rows.countTurnsSpec) :=
  OpenClaim.holds_of_wide 5 Try.f5 rfl rfl rfl rfl rfl rfl rfl ⟨rfl, rfl, rfl, rfl, rfl⟩ rfl rfl rfl rfl rfl (by kernel_rfl) Try.func5 (by kernel_rfl)
    (of_decide_eq_true (by kernel_rfl)) (by unfold Func.isWrapper; first | (rw [if_pos (by decide +kernel)]; kernel_rfl) | (rw [if_neg (by decide +kernel)]; exact ⟨rfl, rfl⟩))
    (fun os started H enc _ => lifted os started H enc)

end Go.Proofs.Ytkklkhnoljmgbaa.countTurns
namespace Go.Proofs.Ytkklkhnoljmgbaa
theorem countTurns_proved : Rows.CountTurnsSaid := countTurns.over
end Go.Proofs.Ytkklkhnoljmgbaa
