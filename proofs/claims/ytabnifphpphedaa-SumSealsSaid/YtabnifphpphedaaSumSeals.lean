/-
  For every text, place and byte SumSeals answers true and leaves its arguments as they were. No condition.
-/
import Derived.Test.YtabnifphpphedaaAlive02
import Derived.Test.YtabnifphpphedaaAny
import Derived.Test.YtabnifphpphedaaTurn
import Derived.Test.YtabnifphpphedaaOpen4
import Derived.StillTailTactics
import Derived.Deep.CutBlock
namespace Go.Proofs.Ytabnifphpphedaa.sumSeals
open Go.ChangeShapes Go.WideShapes Go.RowKit

theorem own : ownKnob Try.prog.godebug = none := by kernel_rfl
theorem laidOut : laidOutB Try.prog = true := by kernel_rfl

theorem padN_get {xs : List UInt8} {k : Nat} (h1 : xs.length ≤ k) (h2 : k < 124) : (padN xs)[k]?.getD 0 = 0 := by
  simp [padN, zeros, List.getElem?_append_right h1]
  rw [List.getElem?_replicate]
  split <;> rfl
set_option maxRecDepth 100000 in
set_option maxHeartbeats 2000000 in
theorem walk (A : Option Addr) (len cap : Nat) (xs : List UInt8) (hlen0 : xs.length = len) (hlc : len ≤ cap) (hcap : cap ≤ 9223372036854775807) (k : Int) (wk : (Lit.int .i64 k).wf = true) (y : Int) (wy : (Lit.int .u8 y).wf = true) (w : World) (hx : Byt w w.heap.size A xs) :
    Calls Try.prog 5 #[.slice A len cap, .int .i64 k, .int .u8 y] w fun e w' => e = .returned (.bool true) ∧ Below w.heap.size w w' := by
  have hlen := Lib.hid hlen0
  have hk : -9223372036854775808 ≤ k ∧ k ≤ 9223372036854775807 := by simpa [Lit.wf, IntKind.min, IntKind.max, IntKind.signed, IntKind.bits] using wk
  obtain ⟨x, rfl⟩ := u8_of_wf wy
  clear hlen0 wk wy
  by_cases hbig : 124 < len
  · go_enter Try.func5, Try.ntmps5
    go_wp2_with fail
    refine (alive_sum _).mono ?_
    rintro e w1 ⟨rfl, hb1⟩
    go_wp2_with fail
    go_ret
    exact ⟨rfl, hb1⟩
  go_enter Try.func5, Try.ntmps5
  go_wp2_with fail
  refine (alive_sum _).mono ?_
  rintro e w1 ⟨rfl, hb1⟩
  have hx1 := (hx.below hb1).more hb1.size
  have hbase := hb1.size
  go_wp2_with fail
  refine (seal_ok A len cap xs hlen (by omega) hlc hcap _ hx1).mono ?_
  rintro e w2 ⟨rfl, hR, hb2⟩
  have hB2 := bstep hb1 hb2
  have hsl : Hid ((sealN xs).length = 128) := Lib.hid (sealN_length (by rw [hlen.out]; omega))
  have hpl : Hid ((padN xs).length = 124) := Lib.hid (padN_length (by rw [hlen.out]; omega))
  go_wp2_with fail
  refine (open_ok _ 128 _ hsl (by omega) (by omega) _ hR.all (fits_seal _)).mono ?_
  rintro e w3 ⟨v3, rfl, hown, hb3⟩
  rw [seal_drop] at hown
  have hB3 := bstep hB2 hb3
  have hR3 := Lib.hid (hR.after hb3)
  obtain ⟨G, c3, rfl, hlc3, hc3, hy3⟩ := own_byt hown
  obtain ⟨ad, rfl, hab, hcell⟩ := hy3 (by rw [hpl.out]; omega)
  have hg1 : w1.heap.size < w3.heap.size := Nat.lt_of_lt_of_le hR.lt hb3.size
  have hxb := hx.below hB3
  have sX := fun d => (hxb.drewN d).str (P := Try.prog) 22 9 5 len cap hlen.out Try.underlying22 Try.underlying5 Try.underlying9
  have hyp : Byt w3 w3.heap.size (some ad) xs := fun h0 => ⟨ad, rfl, hab, fun j hj => by
    rw [hcell j (by rw [hpl.out]; have := hlen.out; omega)]
    unfold padN
    rw [List.getElem?_append_left hj]⟩
  have sY := fun d => (hyp.drewN d).str (P := Try.prog) 22 9 5 len c3 hlen.out Try.underlying22 Try.underlying5 Try.underlying9
  have HC := Lib.hid hcell
  have HX := Lib.hid sX
  have HY := Lib.hid sY
  clear sX sY hcell hyp hxb hy3 hown hR hb2 hb3 hx1 hx hb1 hB2
  have hl1 : len ≤ 124 := by omega
  go_wp2_with fail
  have sX := HX.out
  have sY := HY.out
  have lc := (by omega : len ≤ c3)
  go_quiet (fail)
  clear sX sY HX HY
  obtain ⟨w4, hw4⟩ : ∃ w4 : World, w4 = w3.drewN nq := ⟨_, rfl⟩
  have hB4 : Below w.heap.size w w4 := by rw [hw4]; exact below_drewN hB3 _
  have hR4 : Hid (Row w4 w1.heap.size (sealN xs)) := by rw [hw4]; exact hR3
  have HC4 : Hid (∀ (j : Nat), j < (padN xs).length → w4.cell? (ad.add j) = some (Value.int IntKind.u8 ↑((padN xs)[j]?.getD 0).toNat)) := by rw [hw4]; exact HC
  have hg4 : w1.heap.size < w4.heap.size := by rw [hw4]; exact hg1
  rw [← hw4]
  clear hw4 hg1 HC hR3 hB3 hab
  go_wp2_with fail
  go_loop [12] (fun i => ∃ j : Nat, len ≤ j ∧ j ≤ 124 ∧ i = .int .i64 j) (fun i => 124 - (intOf i).toNat)
  case atStart => exact ⟨len, Nat.le_refl _, hl1, rfl⟩
  case round =>
    obtain ⟨j, hj1, hj2, rfl⟩ := hrel
    by_cases hlt : j < 124
    · have hcj := HC4.out j (by rw [hpl.out]; exact hlt)
      rw [padN_get (by rw [hlen.out]; exact hj1) hlt] at hcj
      have hcj' : w4.cell? (ad.add j) = some (.int .u8 0) := hcj
      clear hcj
      go_wp2
      go_round
      case rel => exact ⟨j + 1, by omega, by omega, by go_num⟩
      case measure => simp [intOf]; omega
    · obtain rfl : j = 124 := by omega
      rcases (by omega : k < 0 ∨ 128 ≤ k ∨ (0 ≤ k ∧ k < 128)) with hk1 | hk1 | ⟨hk1, hk2⟩
      · go_wp2_with fail
        go_ret
        exact ⟨rfl, hB4⟩
      · have hk0 : ¬ k < 0 := by omega
        go_wp2_with fail
        go_ret
        exact ⟨rfl, hB4⟩
      · obtain ⟨kn, rfl⟩ := Int.eq_ofNat_of_zero_le hk1
        by_cases hx0 : x = 0
        · have hxe : (((x.toNat : Nat) : Int) == 0) = true := by rw [hx0]; rfl
          have hxf : (x.toNat : Int) = 0 := by rw [hx0]; rfl
          clear hx0
          generalize (x.toNat : Int) = z at *
          subst hxf
          go_wp2_with fail
          go_ret
          exact ⟨rfl, hB4⟩
        · have hxe : (((x.toNat : Nat) : Int) == 0) = false := by
            simp
            intro e
            exact hx0 (UInt8.toNat_inj.1 (by simpa using e))
          have hkn : kn < 128 := by omega
          have hbad := turn_one hsl.out (fits_seal xs) hkn hx0
          have hcp := hR4.out.cell (j := kn) (by rw [hsl.out]; exact hkn)
          have hfp := hR4.out.free kn
          have hset := Lib.hid (hR4.out.set kn ((sealN xs)[kn]?.getD 0 ^^^ x))
          have hbx := bxor8 ((sealN xs)[kn]?.getD 0) x
          have hsl2 : Hid (((sealN xs).set kn ((sealN xs)[kn]?.getD 0 ^^^ x)).length = 128) := Lib.hid (by simpa using hsl.out)
          generalize (sealN xs).set kn ((sealN xs)[kn]?.getD 0 ^^^ x) = zs at *
          generalize (sealN xs)[kn]?.getD 0 ^^^ x = q at *
          generalize (sealN xs)[kn]?.getD 0 = p at *
          have hB5 : Below w.heap.size w (w4.setCell ⟨w1.heap.size, kn, none⟩ (.int .u8 q.toNat)) := hB4.setCell hbase _
          clear HC4 hx0
          go_wp2_with fail
          refine (open_bad _ 128 _ hsl2 (by omega) (by omega) _ hset.out.all hbad).mono ?_
          rintro e w5 ⟨rfl, hb5⟩
          have hBe := bstep hB5 hb5
          clear hb5 hB5 hset hbx
          go_wp2_with fail
          go_ret
          exact ⟨rfl, hBe⟩

/-! ### The row's step -/
set_option maxRecDepth 100000 in
theorem lifted (os : Os) (started : os.Started) (H : Type) (enc : TypeId × Value → H) :
    ReturnsInHanded {} Try.checked os 5 .any (Rows.sumSealsSpec.pre6 enc Try.prog Try.f5 Rows.sumSealsRow.domain false) (Rows.sumSealsSpec.post enc Try.prog Try.f5 false true false false) := by
  refine returnsInHanded_of_change (C := Try.checked) own started (by kernel_rfl) Try.func5
    (ChangeSpec.witness6 (enc := enc) (C := Try.checked) false ⟨#[], #[.slice none 0 0, .int .i64 0, .int .u8 0], []⟩ 8 (by kernel_rfl) (by kernel_rfl) (by kernel_rfl) (by kernel_rfl)) ?_
  intro W base args ds gs before hval0 hW _ _
  have hval : ∀ (j : Nat) t v, Try.f5.params[j]? = some t → args[j]? = some v → Value.okWide Try.prog W .any base t v := hval0
  have hW' := hW
  obtain ⟨p, q, hA0, hV, _, _, _⟩ := hW
  have hA : DataW.TrodAll enc Try.prog W 0 (fun _ => true) true Try.f5.params.toList args.toList ds p := hA0
  rw [Try.params5] at hA hval
  obtain ⟨v0, vs0, d0, ds0, p0, q0, hargs, rfl, _, h0, r0⟩ := trodAll_cons hA
  obtain ⟨v1, vs1, d1, ds1, p1, q1, rfl, rfl, _, h1, r1⟩ := trodAll_cons r0
  obtain ⟨v2, vs2, d2, ds2, p2, q2, rfl, rfl, _, h2, r2⟩ := trodAll_cons r1
  obtain ⟨rfl, rfl, _⟩ := trodAll_nil r2
  obtain rfl : args = #[v0, v1, v2] := by cases args; simp_all
  obtain ⟨rfl, _⟩ := trodVars_none hV
  obtain ⟨A0, n0, c0, x0, rfl, l0, m0, b0, y0⟩ := open_bytes Try.underlying22 Try.underlying5 (by kernel_rfl) (hval 0 22 v0 rfl rfl) h0
  obtain ⟨a1, rfl, _, _, w1⟩ := open_int Try.underlying3 (hval 1 3 v1 rfl rfl) h1
  obtain ⟨a2, rfl, _, _, w2⟩ := open_int Try.underlying5 (hval 2 5 v2 rfl rfl) h2
  clear hA0 hval0
  refine (walk A0 n0 c0 x0 y0 l0 m0 a1 w1 a2 w2 W b0).mono fun e W' ⟨he, hb⟩ => ?_
  subst he
  exact ⟨_, rfl, law_post laidOut (by rw [Try.params5]; decide +kernel) (by kernel_rfl) Try.underlying4 rfl ⟨rfl, by simp [Rows.sumSealsSpec], rfl⟩ hW' hb⟩

theorem over : Rows.sumSealsRow.holds Try.pinned (OpenSpec.ofChange Rows.sumSealsSpec) :=
  OpenClaim.holds_of_wide 5 Try.f5 rfl rfl rfl rfl rfl rfl rfl ⟨rfl, rfl, rfl, rfl, rfl⟩ rfl rfl rfl rfl rfl (by kernel_rfl) Try.func5 (by kernel_rfl)
    (of_decide_eq_true (by kernel_rfl)) (by unfold Func.isWrapper; first | (rw [if_pos (by decide +kernel)]; kernel_rfl) | (rw [if_neg (by decide +kernel)]; exact ⟨rfl, rfl⟩))
    (fun os started H enc _ => lifted os started H enc)

end Go.Proofs.Ytabnifphpphedaa.sumSeals
namespace Go.Proofs.Ytabnifphpphedaa
theorem sumSeals_proved : Rows.SumSealsSaid := sumSeals.over
end Go.Proofs.Ytabnifphpphedaa
