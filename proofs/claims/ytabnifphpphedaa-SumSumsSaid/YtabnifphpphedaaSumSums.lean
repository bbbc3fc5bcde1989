/-
  For every bytes SumSums answers true and leaves its argument as it was. No condition.
-/
import Derived.Test.YtabnifphpphedaaTotal02
import Derived.Test.YtabnifphpphedaaAny
import Derived.StillTailTactics
import Derived.Deep.CutBlock
namespace Go.Proofs.Ytabnifphpphedaa.sumSums
open Go.ChangeShapes Go.WideShapes Go.RowKit

theorem own : ownKnob Try.prog.godebug = none := by kernel_rfl
theorem laidOut : laidOutB Try.prog = true := by kernel_rfl

theorem u8_succ (p : UInt8) : IntKind.u8.wrap ((p.toNat : Int) + 1) = ((p + 1).toNat : Int) := by
  rw [IntKind.wrap_u8', UInt8.toNat_add]
  simp
set_option maxRecDepth 100000 in
set_option maxHeartbeats 4000000 in
theorem walk (A : Option Addr) (len cap : Nat) (xs : List UInt8) (hlen0 : xs.length = len) (hlc : len ≤ cap) (hcap : cap ≤ 9223372036854775807) (w : World) (hx : Byt w w.heap.size A xs) :
    Calls Try.prog 4 #[.slice A len cap] w fun e w' => e = .returned (.bool true) ∧ Below w.heap.size w w' := by
  have hlen := Lib.hid hlen0
  clear hlen0
  by_cases hbig : 10000 < len
  · go_enter Try.func4, Try.ntmps4
    go_wp2_with fail
    go_ret
    exact ⟨rfl, Below.refl _ _⟩
  obtain ⟨i0, hi, hz0, hz1, hz2⟩ := info_parts u8_info
  obtain ⟨v1, w1, hrun1, own1, ba1⟩ := app_byt (P := Try.prog) (w := w) w.heap.size 22 22 5 i0 Try.underlying22 hi hz0 hz1 hz2 (.slice none 0 0) 0 [] (World.ownsRow_nil _ _ _ _) w.heap.size A len cap xs hx hlen.out (by omega) (Nat.le_refl _)
  rw [Nat.zero_add, List.nil_append] at own1
  have H1 := Lib.hid hrun1
  clear hrun1
  obtain ⟨O, c1, rfl, hlc1, hc1, hy1⟩ := own_byt own1
  have hx1 := (hx.below ba1).more ba1.size
  clear own1
  go_enter Try.func4, Try.ntmps4
  go_wp2_with (at_builtin; refine wpList_append_run rfl _ _ _ rfl rfl rfl H1.out ?_; clear H1)
  refine (seal_any O len c1 xs hlen hlc1 hc1 _ hy1).mono ?_
  rintro e w2 ⟨vp, rfl, ownp, hb2⟩
  have hx2 := (hx1.below hb2).more hb2.size
  obtain ⟨G, cp, rfl, hlp, hcp, hyp⟩ := own_byt ownp
  have hp2 := Lib.hid ownp
  clear ownp
  go_wp2_with fail
  refine (sealRef_any A len cap xs hlen hlc hcap _ hx2).mono ?_
  rintro e w3 ⟨vq, rfl, ownq, hb3⟩
  have hB3 := bstep hb2 hb3
  have hy3 := (hy1.below hB3).more hB3.size
  obtain ⟨Q, cq, rfl, hlq, hcq, hyq⟩ := own_byt ownq
  clear ownq
  go_wp2_with fail
  refine (open_any O len c1 xs hlen hlc1 hc1 _ hy3).mono ?_
  rintro e w4 ⟨vx, rfl, ownx, hb4⟩
  have hB4 := bstep hB3 hb4
  have hx4 := (hx1.below hB4).more hB4.size
  obtain ⟨X, cx, rfl, hlx, hcx, hyx⟩ := own_byt ownx
  have hx4' := Lib.hid ownx
  clear ownx
  go_wp2_with fail
  refine (openRef_any A len cap xs hlen hlc hcap _ hx4).mono ?_
  rintro e w5 ⟨vy, rfl, owny, hb5⟩
  have hB5 := bstep hB4 hb5
  obtain ⟨Y, cy, rfl, hly, hcy, hyy⟩ := own_byt owny
  clear owny
  go_wp2_with fail
  refine (of_any O len c1 xs hlen hlc1 hc1 _ ((hy1.below hB5).more hB5.size)).mono ?_
  rintro e w6 ⟨rfl, hb6⟩
  have hB6 := bstep hB5 hb6
  go_wp2_with fail
  refine (ofRef_any A len cap xs hlen hlc hcap _ ((hx1.below hB6).more hB6.size)).mono ?_
  rintro e w7 ⟨rfl, hb7⟩
  have hB7 := bstep hB6 hb7
  have h67 := bstep hb6 hb7
  have h57 := bstep hb5 h67
  have h37 := bstep hb4 h57
  have hs13 := hB3.size
  have h27 : Below w2.heap.size w2 w7 := hb3.trans (h37.mono hb3.size)
  have hx7 := Lib.hid (own_after hx4'.out h57)
  have sP := (hyp.below h27).str (P := Try.prog) 22 9 5 _ cp rfl Try.underlying22 Try.underlying5 Try.underlying9
  have sQ := (hyq.below h37).str (P := Try.prog) 22 9 5 _ cq rfl Try.underlying22 Try.underlying5 Try.underlying9
  have sX := (hyx.below h57).str (P := Try.prog) 22 9 5 _ cx rfl Try.underlying22 Try.underlying5 Try.underlying9
  have sY := (hyy.below h67).str (P := Try.prog) 22 9 5 _ cy rfl Try.underlying22 Try.underlying5 Try.underlying9
  have np : (sb xs).length ≤ 128 := by
    unfold sb
    split
    · rename_i h
      rw [sealN_length h]
      omega
    · simp
  have nx : (ob xs).length ≤ 128 := by
    unfold ob
    split
    · rename_i h
      simp [h.1]
    · simp
  have hnx := Lib.hid (rfl : (ob xs).length = (ob xs).length)
  clear hx4' hx4 hx2 hy3 hyp hyq hyx hyy hb4 hb5 hb6 hb7 hB4 hB5 hB6 hB7 h27 h57 h67 hnx
  generalize (ob xs).length = nX at *
  generalize (sb xs).length = nP at *
  generalize ob xs = zx at *
  generalize sb xs = zp at *
  generalize oe xs = ex at *
  generalize se len = ep at *
  generalize crc xs = rr at *
  go_upto_block 0 with fail
  clear sP sQ sX sY
  go_cut [12] (fun _ wc => Below w3.heap.size w3 wc)
  case first =>
    rcases Nat.eq_zero_or_pos nX with h0 | h0
    · obtain rfl := h0
      go_wp2_with fail
      refine wp_loop_rounds 1 ?_
      rw [rounds_succ]
      go_wp2_with fail
      go_meet
      exact h37
    · obtain ⟨g, c0, e, hg1, hg2, hg3, hg4⟩ := own_head hx7.out h0
      simp only [Value.slice.injEq, true_and] at e
      obtain ⟨rfl, rfl⟩ := e
      go_wp2_with fail
      go_loopw [12] (fun i wr => ∃ j : Nat, j ≤ nX ∧ i = .int .i64 j ∧ (∃ ys, wr.ownsRow w3.heap.size 5 1 (.slice (some ⟨g, 0, none⟩) nX cx) nX (u8s ys)) ∧ Below w3.heap.size w3 wr) (fun i _ => nX - (intOf i).toNat)
      case atStart => exact ⟨0, by omega, rfl, ⟨_, hx7.out⟩, h37⟩
      case round =>
        obtain ⟨j, hj, rfl, ⟨ys, hown⟩, hBr⟩ := hrel
        by_cases hlt : j < nX
        · have hcj := own_cell hown hlt
          have hfj := hown.frozenAt j
          have hst := Lib.hid (own_set hown j (ys[j]?.getD 0 + 1))
          have hpj := (ys[j]?.getD 0).toNat_lt
          have hadd := u8_succ (ys[j]?.getD 0)
          generalize ys[j]?.getD 0 + 1 = q at *
          generalize ys[j]?.getD 0 = p at *
          clear hown
          go_wp2_with fail
          go_roundw
          case rel => exact ⟨j + 1, by omega, by go_num, ⟨_, hst.out⟩, hBr.setCell hg1 _⟩
          case measure => simp [intOf]; omega
        · obtain rfl : j = nX := by omega
          clear hown
          go_wp2_with fail
          go_meet
          exact hBr
  case rest =>
    have hpc := Lib.hid (own_after hp2.out (hb3.trans (hcut.mono hb3.size)))
    have hB1c := hB3.trans (hcut.mono hs13)
    obtain ⟨w8, rfl⟩ : ∃ w8 : World, w8 = wc := ⟨_, rfl⟩
    go_upto_block 2 with fail
    go_cut [13] (fun _ wc => Below w1.heap.size w1 wc)
    case first =>
      rcases Nat.eq_zero_or_pos nP with h0 | h0
      · obtain rfl := h0
        go_wp2_with fail
        refine wp_loop_rounds 1 ?_
        rw [rounds_succ]
        go_wp2_with fail
        go_meet
        exact hB1c
      · obtain ⟨g, c0, e, hg1, hg2, hg3, hg4⟩ := own_head hpc.out h0
        simp only [Value.slice.injEq, true_and] at e
        obtain ⟨rfl, rfl⟩ := e
        go_wp2_with fail
        go_loopw [13] (fun i wr => ∃ j : Nat, j ≤ nP ∧ i = .int .i64 j ∧ (∃ ys, wr.ownsRow w1.heap.size 5 1 (.slice (some ⟨g, 0, none⟩) nP cp) nP (u8s ys)) ∧ Below w1.heap.size w1 wr) (fun i _ => nP - (intOf i).toNat)
        case atStart => exact ⟨0, by omega, rfl, ⟨_, hpc.out⟩, hB1c⟩
        case round =>
          obtain ⟨j, hj, rfl, ⟨ys, hown⟩, hBr⟩ := hrel
          by_cases hlt : j < nP
          · have hcj := own_cell hown hlt
            have hfj := hown.frozenAt j
            have hst := Lib.hid (own_set hown j (ys[j]?.getD 0 + 1))
            have hpj := (ys[j]?.getD 0).toNat_lt
            have hadd := u8_succ (ys[j]?.getD 0)
            generalize ys[j]?.getD 0 + 1 = q at *
            generalize ys[j]?.getD 0 = p at *
            clear hown
            go_wp2_with fail
            go_roundw
            case rel => exact ⟨j + 1, by omega, by go_num, ⟨_, hst.out⟩, hBr.setCell hg1 _⟩
            case measure => simp [intOf]; omega
          · obtain rfl : j = nP := by omega
            clear hown
            go_wp2_with fail
            go_meet
            exact hBr
    case rest =>
      have sO := (hy1.below hcut).str (P := Try.prog) 22 9 5 len c1 hlen.out Try.underlying22 Try.underlying5 Try.underlying9
      have sB := (hx1.below hcut).str (P := Try.prog) 22 9 5 len cap hlen.out Try.underlying22 Try.underlying5 Try.underlying9
      have hE := bstep ba1 hcut
      clear hcut hB1c hpc h37 hx7 hy1 hx1 hx
      go_wp2_with fail
      go_ret
      exact ⟨rfl, hE⟩

/-! ### The row's step -/
set_option maxRecDepth 100000 in
theorem lifted (os : Os) (started : os.Started) (H : Type) (enc : TypeId × Value → H) :
    ReturnsInHanded {} Try.checked os 4 .any (Rows.sumSumsSpec.pre6 enc Try.prog Try.f4 Rows.sumSumsRow.domain false) (Rows.sumSumsSpec.post enc Try.prog Try.f4 false true false false) := by
  refine returnsInHanded_of_change (C := Try.checked) own started (by kernel_rfl) Try.func4
    (ChangeSpec.witness6 (enc := enc) (C := Try.checked) false ⟨#[], #[.slice none 0 0], []⟩ 8 (by kernel_rfl) (by kernel_rfl) (by kernel_rfl) (by kernel_rfl)) ?_
  intro W base args ds gs before hval0 hW _ _
  have hval : ∀ (j : Nat) t v, Try.f4.params[j]? = some t → args[j]? = some v → Value.okWide Try.prog W .any base t v := hval0
  have hW' := hW
  obtain ⟨p, q, hA0, hV, _, _, _⟩ := hW
  have hA : DataW.TrodAll enc Try.prog W 0 (fun _ => true) true Try.f4.params.toList args.toList ds p := hA0
  rw [Try.params4] at hA hval
  obtain ⟨v0, vs0, d0, ds0, p0, q0, hargs, rfl, _, h0, r0⟩ := trodAll_cons hA
  obtain ⟨rfl, rfl, _⟩ := trodAll_nil r0
  obtain rfl : args = #[v0] := by cases args; simp_all
  obtain ⟨rfl, _⟩ := trodVars_none hV
  obtain ⟨A0, n0, c0, x0, rfl, l0, m0, b0, y0⟩ := open_bytes Try.underlying22 Try.underlying5 (by kernel_rfl) (hval 0 22 v0 rfl rfl) h0
  clear hA0 hval0
  refine (walk A0 n0 c0 x0 y0 l0 m0 W b0).mono fun e W' ⟨he, hb⟩ => ?_
  subst he
  exact ⟨_, rfl, law_post laidOut (by rw [Try.params4]; decide +kernel) (by kernel_rfl) Try.underlying4 rfl ⟨rfl, by simp [Rows.sumSumsSpec], rfl⟩ hW' hb⟩

theorem over : Rows.sumSumsRow.holds Try.pinned (OpenSpec.ofChange Rows.sumSumsSpec) :=
  OpenClaim.holds_of_wide 4 Try.f4 rfl rfl rfl rfl rfl rfl rfl ⟨rfl, rfl, rfl, rfl, rfl⟩ rfl rfl rfl rfl rfl (by kernel_rfl) Try.func4 (by kernel_rfl)
    (of_decide_eq_true (by kernel_rfl)) (by unfold Func.isWrapper; first | (rw [if_pos (by decide +kernel)]; kernel_rfl) | (rw [if_neg (by decide +kernel)]; exact ⟨rfl, rfl⟩))
    (fun os started H enc _ => lifted os started H enc)

end Go.Proofs.Ytabnifphpphedaa.sumSums
namespace Go.Proofs.Ytabnifphpphedaa
theorem sumSums_proved : Rows.SumSumsSaid := sumSums.over
end Go.Proofs.Ytabnifphpphedaa
