/-
  For every text, place and four bytes SumBurst answers true and leaves its arguments as they were. No condition.
-/
import Derived.Test.YtabnifphpphedaaAlive02
import Derived.Test.YtabnifphpphedaaAny
import Derived.Test.YtabnifphpphedaaTurn
import Derived.Test.YtabnifphpphedaaOpen4
import Derived.Stop.BytesEq
import Derived.StillTailTactics
import Derived.Deep.CutBlock
namespace Go.Proofs.Ytabnifphpphedaa.sumBurst
open Go.ChangeShapes Go.WideShapes Go.RowKit

theorem own : ownKnob Try.prog.godebug = none := by kernel_rfl
theorem laidOut : laidOutB Try.prog = true := by kernel_rfl

set_option maxRecDepth 100000 in
set_option maxHeartbeats 2000000 in
theorem walk (A : Option Addr) (len cap : Nat) (xs : List UInt8) (hlen0 : xs.length = len) (hlc : len ≤ cap) (hcap : cap ≤ 9223372036854775807) (k : Int) (wk : (Lit.int .i64 k).wf = true) (y0 y1 y2 y3 : UInt8) (w : World) (hx : Byt w w.heap.size A xs) :
    Calls Try.prog 8 #[.slice A len cap, .int .i64 k, .agg #[.int .u8 y0.toNat, .int .u8 y1.toNat, .int .u8 y2.toNat, .int .u8 y3.toNat]] w fun e w' => e = .returned (.bool true) ∧ Below w.heap.size w w' := by
  have hlen := Lib.hid hlen0
  have hk : -9223372036854775808 ≤ k ∧ k ≤ 9223372036854775807 := by simpa [Lit.wf, IntKind.min, IntKind.max, IntKind.signed, IntKind.bits] using wk
  clear hlen0 wk
  by_cases hbig : 124 < len
  · go_enter Try.func8, Try.ntmps8
    go_wp2_with fail
    refine (alive_sum _).mono ?_
    rintro e w1 ⟨rfl, hb1⟩
    go_wp2_with fail
    refine (seal_no _ _ _ hbig _).mono ?_
    rintro e w2 ⟨rfl, rfl⟩
    go_wp2_with fail
    go_ret
    exact ⟨rfl, bstep (balloc (Below.refl _ _) _) hb1⟩
  go_enter Try.func8, Try.ntmps8
  go_wp2_with fail
  refine (alive_sum _).mono ?_
  rintro e w1 ⟨rfl, hb1⟩
  go_wp2_with fail
  have hB1 := bstep (balloc (Below.refl w.heap.size w) _) hb1
  have hx1 := (hx.below hB1).more hB1.size
  have hbase : w.heap.size < w1.heap.size := by have := hb1.size; simp at this; omega
  have hY : Hid (w1.heap[w.heap.size]? = some (.cells #[.int .u8 y0.toNat, .int .u8 y1.toNat, .int .u8 y2.toNat, .int .u8 y3.toNat] 34 (0, 0))) := Lib.hid ((hb1.block _ (by simp)).trans (heap_alloc_new w _))
  clear hb1
  refine (seal_ok A len cap xs hlen (by omega) hlc hcap _ hx1).mono ?_
  rintro e w2 ⟨rfl, hR, hb2⟩
  have hB2 := bstep hB1 hb2
  have hY2 : Hid (w2.heap[w.heap.size]? = some (.cells #[.int .u8 y0.toNat, .int .u8 y1.toNat, .int .u8 y2.toNat, .int .u8 y3.toNat] 34 (0, 0))) := Lib.hid ((hb2.block _ hbase).trans hY.out)
  have hsl : Hid ((sealN xs).length = 128) := Lib.hid (sealN_length (by rw [hlen.out]; omega))
  have HR := Lib.hid hR
  clear hY hR hb2 hx1 hB1 hx
  rcases (by omega : k < 0 ∨ 124 < k ∨ (0 < k ∧ k < 4) ∨ (0 ≤ k ∧ k ≤ 124 ∧ (k = 0 ∨ 4 ≤ k))) with hk1 | hk1 | ⟨hk1, hk2⟩ | ⟨hk1, hk2, hk3⟩
  · go_wp2_with fail
    go_ret
    exact ⟨rfl, hB2⟩
  · have hk0 : ¬ k < 0 := by omega
    go_wp2_with fail
    go_ret
    exact ⟨rfl, hB2⟩
  · have hk0 : ¬ k < 0 := by omega
    have hk9 : ¬ 124 < k := by omega
    go_wp2_with fail
    go_ret
    exact ⟨rfl, hB2⟩
  · obtain ⟨kn, rfl⟩ := Int.eq_ofNat_of_zero_le hk1
    have c0 : w2.cell? ⟨w.heap.size, 0, none⟩ = some (.int .u8 y0.toNat) := cell_of_row _ _ 0 _ _ _ hY2.out
    have c1 : w2.cell? ⟨w.heap.size, 1, none⟩ = some (.int .u8 y1.toNat) := cell_of_row _ _ 1 _ _ _ hY2.out
    have c2 : w2.cell? ⟨w.heap.size, 2, none⟩ = some (.int .u8 y2.toNat) := cell_of_row _ _ 2 _ _ _ hY2.out
    have c3 : w2.cell? ⟨w.heap.size, 3, none⟩ = some (.int .u8 y3.toNat) := cell_of_row _ _ 3 _ _ _ hY2.out
    have hsz : ∀ w, (sizeOf 5).run Try.prog w = .ok 1 w := fun w => by kernel_rfl
    obtain ⟨z, hz⟩ : ∃ z : Bool, z = ([y0, y1, y2, y3] == [0, 0, 0, 0]) := ⟨_, rfl⟩
    have heq : (Op.equalIn 10000 34 (.agg #[.int .u8 y0.toNat, .int .u8 y1.toNat, .int .u8 y2.toNat, .int .u8 y3.toNat]) (.agg #[.int .u8 0, .int .u8 0, .int .u8 0, .int .u8 0])).run Try.prog w2 = .ok z w2 := by
      rw [hz]
      exact run_equalIn_bytes w2 9998 34 5 4 Try.underlying34 Try.underlying5 hsz [y0, y1, y2, y3] [0, 0, 0, 0] rfl rfl
    have HZ := Lib.hid hz
    clear hz hsz
    go_upto_region 3 with fail
    go_cut [41] (fun v wc => v = .bool z ∧ wc = w2)
    case first =>
      rcases hk3 with hk3 | hk3
      · obtain rfl : kn = 0 := by omega
        go_wp2_with fail
        go_meet
        exact ⟨rfl, rfl⟩
      · have i1 : ¬ (kn : Int) < 4 := by omega
        have i2 : (0 : Int) < kn := by omega
        have i3 : decide ((kn : Int) < 4) = false := by simpa using hk3
        have i4 : decide ((124 : Int) < kn) = false := by simpa using hk2
        have i5 : decide ((kn : Int) < 0) = false := by simp
        have i6 : decide ((0 : Int) < kn) = true := by simpa using i2
        go_wp2_with fail
        go_meet
        exact ⟨rfl, rfl⟩
    case rest =>
      obtain ⟨rfl, rfl⟩ := hcut
      rcases z with _ | _
      · have hds : Hid (foldN 0 [y0, y1, y2, y3] ≠ 0) := Lib.hid fun e => by
          obtain ⟨rfl, rfl, rfl, rfl⟩ := burst4 _ _ _ _ e
          have := HZ.out
          simp at this
        clear HZ heq c0 c1 c2 c3
        obtain ⟨w3, rfl⟩ : ∃ w3 : World, w3 = wc := ⟨_, rfl⟩
        have hg3 : w1.heap.size < w3.heap.size := HR.out.lt
        obtain ⟨ds, hds0⟩ : ∃ ds : List UInt8, ds = [y0, y1, y2, y3] := ⟨_, rfl⟩
        have HD := Lib.hid hds0
        have hdl : ds.length = 4 := by rw [hds0]; rfl
        rw [← hds0] at hds
        have HL := Lib.hid hdl
        clear hds0 hdl
        have HR0 : Hid (Row w3 w1.heap.size (xorAt (sealN xs) kn (ds.take 0))) := Lib.hid (by rw [List.take_zero, xorAt_nil]; exact HR.out)
        clear HR
        go_wp2_with fail
        go_loopw [10] (fun i wr => ∃ j : Nat, j ≤ 4 ∧ i = .int .i64 j ∧ Row wr w1.heap.size (xorAt (sealN xs) kn (ds.take j)) ∧ wr.heap[w.heap.size]? = some (.cells #[.int .u8 y0.toNat, .int .u8 y1.toNat, .int .u8 y2.toNat, .int .u8 y3.toNat] 34 (0, 0)) ∧ Below w.heap.size w wr) (fun i _ => 4 - (intOf i).toNat)
        case atStart => exact ⟨0, by omega, rfl, HR0.out, hY2.out, hB2⟩
        case round =>
          obtain ⟨j, hj, rfl, hR, hY, hB⟩ := hrel
          by_cases hlt : j < 4
          · have htl : (ds.take j).length = j := by rw [List.length_take, HL.out]; omega
            have hxl := xorAt_length (ys := sealN xs) (ds := ds.take j) (k := kn) (by rw [htl, hsl.out]; omega)
            have hge := xorAt_get (ys := sealN xs) (ds := ds.take j) (k := kn) (by rw [htl, hsl.out]; omega)
            have hst := xorAt_step (ys := sealN xs) (ds := ds.take j) (k := kn) (ds[j]?.getD 0) (by rw [htl, hsl.out]; omega)
            rw [htl] at hge hst
            have hsn : ds.take j ++ [ds[j]?.getD 0] = ds.take (j + 1) := by
              rw [List.take_succ_eq_append_getElem (by rw [HL.out]; exact hlt), List.getElem?_eq_getElem (by rw [HL.out]; exact hlt)]
              rfl
            rw [hsn] at hst
            have hcy : wr.cell? ⟨w.heap.size, j, none⟩ = some (.int .u8 ((ds[j]?.getD 0).toNat : Int)) := by
              rw [cell_of_row _ _ _ _ _ _ hY, HD.out]
              match j, hlt with
              | 0, _ => rfl
              | 1, _ => rfl
              | 2, _ => rfl
              | 3, _ => rfl
            have hcp := hR.cell (j := kn + j) (by rw [hxl, hsl.out]; omega)
            rw [hge] at hcp
            have hfp := hR.free (kn + j)
            have hbx := bxor8 ((sealN xs)[kn + j]?.getD 0) (ds[j]?.getD 0)
            have hset := hR.set (kn + j) ((sealN xs)[kn + j]?.getD 0 ^^^ ds[j]?.getD 0)
            rw [hst] at hset
            have HS := Lib.hid hset
            have hYs : ∀ v, (wr.setCell ⟨w1.heap.size, kn + j, none⟩ v).heap[w.heap.size]? = wr.heap[w.heap.size]? := fun v => heap_setCell_other _ _ _ _ (by simp; omega)
            have HY := Lib.hid hYs
            have HY0 := Lib.hid hY
            clear hst hge hxl hsn hR hset htl hYs hY
            generalize (sealN xs)[kn + j]?.getD 0 ^^^ ds[j]?.getD 0 = q at *
            generalize (sealN xs)[kn + j]?.getD 0 = p at *
            generalize ds[j]?.getD 0 = yj at *
            have l1 : kn + j < 128 := by omega
            have hsum : IntKind.i64.wrap ((kn : Int) + j) = (kn : Int) + j := IntWalk.i64_in _ (by omega)
            have hs0 : ((kn : Int) + j).toNat = kn + j := by omega
            have hs1 : (0 : Int) ≤ (kn : Int) + j := by omega
            have hs2 : (kn : Int) + j < 128 := by omega
            go_wp2_with fail
            go_still_tail 15, (by kernel_rfl)
            change wpList _ _ _ _ _ wr.drew
            go_wp2
            exact ⟨⟨j + 1, by omega, by go_num, HS.out, (HY.out _).trans HY0.out, (hB.setCell (Nat.le_of_lt hbase) _).drew⟩, by simp [intOf]; omega⟩
          · obtain rfl : j = 4 := by omega
            rw [List.take_of_length_le (Nat.le_of_eq HL.out)] at hR
            have hbad := turn_bad (at_ := kn) hsl.out (fits_seal xs) hds.out (by rw [HL.out]; omega) (by rw [HL.out]; omega)
            have hzl : Hid ((xorAt (sealN xs) kn ds).length = 128) := Lib.hid (by rw [xorAt_length (by rw [HL.out, hsl.out]; omega), hsl.out])
            have hal := hR.all
            generalize xorAt (sealN xs) kn ds = zs at *
            clear hR hY hds HR0 HD HL
            go_wp2_with fail
            refine (open_bad _ 128 _ hzl (by omega) (by omega) _ hal hbad).mono ?_
            rintro e w5 ⟨rfl, hb5⟩
            have hBe := bstep hB hb5
            clear hb5 hB hal
            go_wp2_with fail
            go_ret
            exact ⟨rfl, hBe⟩
      · go_wp2_with fail
        go_ret
        exact ⟨rfl, hB2⟩

/-! ### The row's step -/
set_option maxRecDepth 100000 in
theorem lifted (os : Os) (started : os.Started) (H : Type) (enc : TypeId × Value → H) :
    ReturnsInHanded {} Try.checked os 8 .any (Rows.sumBurstSpec.pre6 enc Try.prog Try.f8 Rows.sumBurstRow.domain false) (Rows.sumBurstSpec.post enc Try.prog Try.f8 false true false false) := by
  refine returnsInHanded_of_change (C := Try.checked) own started (by kernel_rfl) Try.func8
    (ChangeSpec.witness6 (enc := enc) (C := Try.checked) false ⟨#[], #[.slice none 0 0, .int .i64 0, .agg #[.int .u8 0, .int .u8 0, .int .u8 0, .int .u8 0]], []⟩ 8 (by kernel_rfl) (by kernel_rfl) (by kernel_rfl) (by kernel_rfl)) ?_
  intro W base args ds gs before hval0 hW _ _
  have hval : ∀ (j : Nat) t v, Try.f8.params[j]? = some t → args[j]? = some v → Value.okWide Try.prog W .any base t v := hval0
  have hW' := hW
  obtain ⟨p, q, hA0, hV, _, _, _⟩ := hW
  have hA : DataW.TrodAll enc Try.prog W 0 (fun _ => true) true Try.f8.params.toList args.toList ds p := hA0
  rw [Try.params8] at hA hval
  obtain ⟨v0, vs0, d0, ds0, p0, q0, hargs, rfl, _, h0, r0⟩ := trodAll_cons hA
  obtain ⟨v1, vs1, d1, ds1, p1, q1, rfl, rfl, _, h1, r1⟩ := trodAll_cons r0
  obtain ⟨v2, vs2, d2, ds2, p2, q2, rfl, rfl, _, h2, r2⟩ := trodAll_cons r1
  obtain ⟨rfl, rfl, _⟩ := trodAll_nil r2
  obtain rfl : args = #[v0, v1, v2] := by cases args; simp_all
  obtain ⟨rfl, _⟩ := trodVars_none hV
  obtain ⟨A0, n0, c0, x0, rfl, l0, m0, b0, y0⟩ := open_bytes Try.underlying22 Try.underlying5 (by kernel_rfl) (hval 0 22 v0 rfl rfl) h0
  obtain ⟨a1, rfl, _, _, w1⟩ := open_int Try.underlying3 (hval 1 3 v1 rfl rfl) h1
  obtain ⟨xa2, xb2, xc2, xd2, rfl⟩ := open_bytes4 Try.underlying34 Try.underlying5 (by kernel_rfl) (by kernel_rfl) (hval 2 34 v2 rfl rfl) h2
  clear hA0 hval0
  refine (walk A0 n0 c0 x0 y0 l0 m0 a1 w1 xa2 xb2 xc2 xd2 W b0).mono fun e W' ⟨he, hb⟩ => ?_
  subst he
  exact ⟨_, rfl, law_post laidOut (by rw [Try.params8]; decide +kernel) (by kernel_rfl) Try.underlying4 rfl ⟨rfl, by simp [Rows.sumBurstSpec], rfl⟩ hW' hb⟩

theorem over : Rows.sumBurstRow.holds Try.pinned (OpenSpec.ofChange Rows.sumBurstSpec) :=
  OpenClaim.holds_of_wide 8 Try.f8 rfl rfl rfl rfl rfl rfl rfl ⟨rfl, rfl, rfl, rfl, rfl⟩ rfl rfl rfl rfl rfl (by kernel_rfl) Try.func8 (by kernel_rfl)
    (of_decide_eq_true (by kernel_rfl)) (by unfold Func.isWrapper; first | (rw [if_pos (by decide +kernel)]; kernel_rfl) | (rw [if_neg (by decide +kernel)]; exact ⟨rfl, rfl⟩))
    (fun os started H enc _ => lifted os started H enc)

end Go.Proofs.Ytabnifphpphedaa.sumBurst
namespace Go.Proofs.Ytabnifphpphedaa
theorem sumBurst_proved : Rows.SumBurstSaid := sumBurst.over
end Go.Proofs.Ytabnifphpphedaa
