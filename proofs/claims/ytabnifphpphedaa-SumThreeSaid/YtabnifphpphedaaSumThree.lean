/-
  For every three texts SumThree answers true and leaves its arguments as they were. No condition.
-/
import Derived.Test.YtabnifphpphedaaAlive02
import Derived.Test.YtabnifphpphedaaAny
import Derived.StillTailTactics
import Derived.Deep.CutBlock
namespace Go.Proofs.Ytabnifphpphedaa.sumThree
open Go.ChangeShapes Go.WideShapes Go.RowKit

theorem own : ownKnob Try.prog.godebug = none := by kernel_rfl
theorem laidOut : laidOutB Try.prog = true := by kernel_rfl

def three (n : Nat) (xa xb xc : List UInt8) : List UInt8 := zip2 (zip2 (xa.take n) (xb.take n)) (xc.take n)
theorem three_length {n : Nat} {xa xb xc : List UInt8} (ha : n ≤ xa.length) (hb : n ≤ xb.length) (hc : n ≤ xc.length) : (three n xa xb xc).length = n := by
  simp [three, zip2]
  omega
theorem three_get {n : Nat} {xa xb xc : List UInt8} (ha : n ≤ xa.length) (hb : n ≤ xb.length) (hc : n ≤ xc.length) {k : Nat} (hk : k < n) :
    (three n xa xb xc)[k]?.getD 0 = (xa[k]?.getD 0 ^^^ xb[k]?.getD 0) ^^^ xc[k]?.getD 0 := by
  have h : k < (three n xa xb xc).length := by rw [three_length ha hb hc]; exact hk
  rw [List.getElem?_eq_getElem h, List.getElem?_eq_getElem (show k < xa.length by omega), List.getElem?_eq_getElem (show k < xb.length by omega), List.getElem?_eq_getElem (show k < xc.length by omega)]
  simp [three, zip2]
/-- A row that is filled from ahead, at one place more. -/
theorem fill_set (ys : List UInt8) (n k : Nat) (hl : ys.length = n) (hk : k < n) (x : UInt8) (hx : ys[k]?.getD 0 = x) : (ys.take k ++ zeros (n - k)).set k x = ys.take (k + 1) ++ zeros (n - (k + 1)) := by
  have hz : zeros (n - k) = 0 :: zeros (n - (k + 1)) := by
    rw [show n - k = (n - (k + 1)) + 1 by omega]
    rfl
  rw [hz, List.set_append_right _ _ (by simp; omega), List.take_succ_eq_append_getElem (by omega), List.append_assoc]
  congr 1
  rw [show k - (ys.take k).length = 0 by simp; omega]
  rw [List.getElem?_eq_getElem (by omega)] at hx
  simp at hx
  simp [hx]
theorem walk (A : Option Addr) (la ca : Nat) (xa : List UInt8) (hla0 : xa.length = la) (hlca : la ≤ ca) (hca : ca ≤ 9223372036854775807)
    (B : Option Addr) (lb cb : Nat) (xb : List UInt8) (hlb0 : xb.length = lb) (hlcb : lb ≤ cb) (hcb : cb ≤ 9223372036854775807)
    (C : Option Addr) (lc cc : Nat) (xc : List UInt8) (hlc0 : xc.length = lc) (hlcc : lc ≤ cc) (hcc : cc ≤ 9223372036854775807) (w : World) (hxa : Byt w w.heap.size A xa) (hxb : Byt w w.heap.size B xb) (hxc : Byt w w.heap.size C xc) :
    Calls Try.prog 7 #[.slice A la ca, .slice B lb cb, .slice C lc cc] w fun e w' => e = .returned (.bool true) ∧ Below w.heap.size w w' := by
  have hla := Lib.hid hla0
  have hlb := Lib.hid hlb0
  have hlc := Lib.hid hlc0
  clear hla0 hlb0 hlc0
  go_enter Try.func7, Try.ntmps7
  go_wp2_with fail
  refine (alive_sum _).mono ?_
  rintro e w1 ⟨rfl, hb1⟩
  go_upto_region 2 with fail
  go_cut [8] (fun n wc => ∃ k : Nat, n = .int .i64 k ∧ k ≤ la ∧ k ≤ lb ∧ k ≤ lc ∧ wc = w1)
  case first =>
    rcases (by omega : (la ≤ lb ∧ la ≤ lc) ∨ (lb < la ∧ lb ≤ lc) ∨ (lc < la ∧ lc < lb)) with ⟨h1, h2⟩ | ⟨h1, h2⟩ | ⟨h1, h2⟩
    · have i1 : ¬ lb < la := by omega
      have i2 : ¬ (lc : Int) < la := by omega
      go_wp2_with fail
      go_meet
      exact ⟨la, rfl, by omega, by omega, by omega, rfl⟩
    · have i2 : ¬ (lc : Int) < lb := by omega
      go_wp2_with fail
      go_meet
      exact ⟨lb, rfl, by omega, by omega, by omega, rfl⟩
    · have i1 : (lc : Int) < la := by omega
      have i2 : (lc : Int) < lb := by omega
      have i3 : (if lb < la then (lb : Int) else la) = ((if lb < la then lb else la : Nat) : Int) := by split <;> rfl
      have i4 : (lc : Int) < ((if lb < la then lb else la : Nat) : Int) := by split <;> omega
      go_wp2_with fail
      go_meet
      exact ⟨lc, rfl, by omega, by omega, by omega, rfl⟩
  case rest =>
    obtain ⟨n, rfl, hna, hnb, hnc, rfl⟩ := hcut
    obtain ⟨w0, rfl⟩ : ∃ w0 : World, w0 = wc := ⟨_, rfl⟩
    by_cases hbig : 10000 < n
    · go_wp2_with fail
      go_ret
      exact ⟨rfl, hb1⟩
    · have hmk := make_bytes n (by omega) w0
      have hR0 := Row.new w0 (zeros n)
      have hB0 := balloc (Below.refl w0.heap.size w0) (Obj.cells (rowA (zeros n)) 5)
      have hla' := Lib.hid (show n ≤ xa.length by rw [hla.out]; exact hna)
      have hlb' := Lib.hid (show n ≤ xb.length by rw [hlb.out]; exact hnb)
      have hlc' := Lib.hid (show n ≤ xc.length by rw [hlc.out]; exact hnc)
      go_upto_block 0 with fail
      clear hmk
      generalize w0.alloc (Obj.cells (rowA (zeros n)) 5) = w2 at *
      go_cut [10] (fun _ wc => Row wc w0.heap.size (three n xa xb xc) ∧ Below w0.heap.size w0 wc)
      case first =>
        rcases Nat.eq_zero_or_pos n with h0 | h0
        · subst h0
          go_wp2_with fail
          refine wp_loop_rounds 1 ?_
          rw [rounds_succ]
          go_wp2_with fail
          go_meet
          exact ⟨by rw [show three 0 xa xb xc = [] by simp [three, zip2]]; exact hR0, hB0⟩
        · obtain ⟨aa, rfl, haa, hca2⟩ := hxa (by have := hla'.out; omega)
          obtain ⟨ab, rfl, hab, hcb2⟩ := hxb (by have := hlb'.out; omega)
          obtain ⟨ac, rfl, hac, hcc2⟩ := hxc (by have := hlc'.out; omega)
          have HA := Lib.hid hca2
          have HB := Lib.hid hcb2
          have HC := Lib.hid hcc2
          clear hca2 hcb2 hcc2 hxa hxb hxc
          go_wp2_with fail
          go_loopw [10] (fun i wr => ∃ k : Nat, k ≤ n ∧ i = .int .i64 k ∧ Row wr w0.heap.size ((three n xa xb xc).take k ++ zeros (n - k)) ∧ Below w0.heap.size w0 wr) (fun i _ => n - (intOf i).toNat)
          case atStart => exact ⟨0, by omega, rfl, by simpa using hR0, hB0⟩
          case round =>
            obtain ⟨k, hk, rfl, hR, hB⟩ := hrel
            have hBW := hb1.trans (hB.mono hb1.size)
            by_cases hlt : k < n
            · have c1 := (hBW.cell (p := aa.add k) (by rw [add_block]; exact haa)).trans (HA.out k (by have := hla'.out; omega))
              have c2 := (hBW.cell (p := ab.add k) (by rw [add_block]; exact hab)).trans (HB.out k (by have := hlb'.out; omega))
              have c3 := (hBW.cell (p := ac.add k) (by rw [add_block]; exact hac)).trans (HC.out k (by have := hlc'.out; omega))
              have hlen : Hid (((three n xa xb xc).take k ++ zeros (n - k)).length = n) := Lib.hid (by rw [List.length_append, List.length_take, three_length hla'.out hlb'.out hlc'.out, zeros_length]; omega)
              have c4 := hR.cell (j := k) (by rw [hlen.out]; exact hlt)
              have f4 := hR.free k
              have hset := hR.set k ((xa[k]?.getD 0 ^^^ xb[k]?.getD 0) ^^^ xc[k]?.getD 0)
              rw [fill_set _ n k (three_length hla'.out hlb'.out hlc'.out) hlt _ (three_get hla'.out hlb'.out hlc'.out hlt)] at hset
              have x1 := bxor8 (xa[k]?.getD 0) (xb[k]?.getD 0)
              have x2 := bxor8 (xa[k]?.getD 0 ^^^ xb[k]?.getD 0) (xc[k]?.getD 0)
              generalize xa[k]?.getD 0 ^^^ xb[k]?.getD 0 = p at *
              generalize p ^^^ xc[k]?.getD 0 = q at *
              generalize xa[k]?.getD 0 = p1 at *
              generalize xb[k]?.getD 0 = p2 at *
              generalize xc[k]?.getD 0 = p3 at *
              generalize ((three n xa xb xc).take k ++ zeros (n - k))[k]?.getD 0 = p4 at *
              have hset' := Lib.hid hset
              clear hset hR
              have k1 : k < la := by omega
              have k2 : k < lb := by omega
              have k3 : k < lc := by omega
              go_wp2_with fail
              go_still_tail 17, (by kernel_rfl)
              change wpList _ _ _ _ _ wr.drew
              go_wp2
              go_roundw
              case rel => exact ⟨k + 1, by omega, by go_num, hset'.out, (hB.setCell (by simp) _).drew⟩
              case measure => simp [intOf]; omega
            · obtain rfl : k = n := by omega
              have hR' := Lib.hid hR
              clear hR
              go_wp2_with fail
              go_meet
              refine ⟨?_, hB⟩
              have e := hR'.out
              rw [List.take_of_length_le (by rw [three_length hla'.out hlb'.out hlc'.out]; omega), show k - k = 0 by omega] at e
              simpa [zeros] using e
      case rest =>
        obtain ⟨hR, hB⟩ := hcut
        have hBW := hb1.trans (hB.mono hb1.size)
        have ea := (show Byt wc w.heap.size A (xa.take n) by
          intro h
          obtain ⟨ad, e, hb, hc⟩ := hxa.below hBW (by simp at h; omega)
          exact ⟨ad, e, hb, fun j hj => by rw [hc j (by simp at hj; omega), List.getElem?_take_of_lt (by simp at hj; omega)]⟩)
        have eb := (show Byt wc w.heap.size B (xb.take n) by
          intro h
          obtain ⟨ad, e, hb, hc⟩ := hxb.below hBW (by simp at h; omega)
          exact ⟨ad, e, hb, fun j hj => by rw [hc j (by simp at hj; omega), List.getElem?_take_of_lt (by simp at hj; omega)]⟩)
        have ec := (show Byt wc w.heap.size C (xc.take n) by
          intro h
          obtain ⟨ad, e, hb, hc⟩ := hxc.below hBW (by simp at h; omega)
          exact ⟨ad, e, hb, fun j hj => by rw [hc j (by simp at hj; omega), List.getElem?_take_of_lt (by simp at hj; omega)]⟩)
        have oa : Hid (∀ W, Below wc.heap.size wc W → Calls Try.prog 12 #[.slice A n ca] W fun e w' => e = .returned (.int .u32 (crc (xa.take n) : Nat)) ∧ Below W.heap.size W w') := Lib.hid fun W h => of_any A n ca _ (Lib.hid (by rw [List.length_take]; exact Nat.min_eq_left hla'.out)) (by omega) hca W (((ea.more hBW.size).below h).more h.size)
        have ob : Hid (∀ W, Below wc.heap.size wc W → Calls Try.prog 12 #[.slice B n cb] W fun e w' => e = .returned (.int .u32 (crc (xb.take n) : Nat)) ∧ Below W.heap.size W w') := Lib.hid fun W h => of_any B n cb _ (Lib.hid (by rw [List.length_take]; exact Nat.min_eq_left hlb'.out)) (by omega) hcb W (((eb.more hBW.size).below h).more h.size)
        have oc : Hid (∀ W, Below wc.heap.size wc W → Calls Try.prog 12 #[.slice C n cc] W fun e w' => e = .returned (.int .u32 (crc (xc.take n) : Nat)) ∧ Below W.heap.size W w') := Lib.hid fun W h => of_any C n cc _ (Lib.hid (by rw [List.length_take]; exact Nat.min_eq_left hlc'.out)) (by omega) hcc W (((ec.more hBW.size).below h).more h.size)
        have ox : Hid (∀ W, Below wc.heap.size wc W → Calls Try.prog 12 #[.slice (some ⟨w0.heap.size, 0, none⟩) n n] W fun e w' => e = .returned (.int .u32 (crc (xa.take n) ^^^ crc (xb.take n) ^^^ crc (xc.take n) : Nat)) ∧ Below W.heap.size W w') := Lib.hid fun W h => by
          rw [← crc_three (xa.take n) (xb.take n) (xc.take n) (by have := hla'.out; have := hlb'.out; simp; omega) (by have := hla'.out; have := hlc'.out; simp; omega)]
          exact of_any _ n n _ (Lib.hid (three_length hla'.out hlb'.out hlc'.out)) (by omega) (by omega) W ((hR.all.below h).more h.size)
        have qa := crc_lt (xa.take n)
        have qb := crc_lt (xb.take n)
        have qc := crc_lt (xc.take n)
        clear ea eb ec hxa hxb hxc hR
        generalize crc (xa.take n) = ra at *
        generalize crc (xb.take n) = rb at *
        generalize crc (xc.take n) = rc at *
        have x1 := bxor ra rb _ _ rfl rfl qa qb
        have x2 := bxor (ra ^^^ rb) rc _ _ rfl rfl (xor_lt32 qa qb) qc
        generalize ra ^^^ rb ^^^ rc = rx at *
        generalize ra ^^^ rb = ry at *
        go_wp2_with fail
        have n1 : n ≤ ca := by omega
        have n2 : n ≤ cb := by omega
        have n3 : n ≤ cc := by omega
        refine wp_region_fx (by kernel_rfl) (fun W => Below wc.heap.size wc W) (fun _ => none) (fun i => match i with
          | 3 => some (.int .u32 rx)
          | 7 => some (.int .u32 ra)
          | 11 => some (.int .u32 rb)
          | 16 => some (.int .u32 rc)
          | _ => none) (by kernel_rfl) (Below.refl _ _).drew (fun w w' h hb => h.trans (hb.mono h.size)) (fun j φ x w w' hp => by cases hp) ?_
        repeat (first
          | (refine wpAs_skip rfl ?_; simp only [Act.put, List.setIfInBounds_toArray, List.set_cons_zero, List.set_cons_succ])
          | (refine wpAs_pure (v := ?_) rfl rfl ?_ ?_; rotate_left; (intro W hC hE; clear hE; skip; clear hC; go_simp; done); simp only [Act.put, List.setIfInBounds_toArray, List.set_cons_zero, List.set_cons_succ])
          | (refine wpAs_pure (v := ?_) rfl rfl ?_ ?_; rotate_left; (intro W hC hE; clear hE; skip; clear hC; go_simp; with_reducible rfl); simp only [Act.put, List.setIfInBounds_toArray, List.set_cons_zero, List.set_cons_succ]))
        refine wpAs_fixed rfl rfl rfl ?_ ?_
        · intro W hC hE
          refine does_enter (f := 12) (args := #[.slice (some ⟨w0.heap.size, 0, none⟩) n n]) ?_ ?_
          · go_simp
          · refine (ox.out W hC).mono ?_
            rintro e w' ⟨rfl, hg⟩
            exact ⟨_, rfl, rfl, hg⟩
        simp only [Act.put, List.setIfInBounds_toArray, List.set_cons_zero, List.set_cons_succ]
        repeat (first
          | (refine wpAs_skip rfl ?_; simp only [Act.put, List.setIfInBounds_toArray, List.set_cons_zero, List.set_cons_succ])
          | (refine wpAs_pure (v := ?_) rfl rfl ?_ ?_; rotate_left; (intro W hC hE; clear hE; skip; clear hC; go_simp; done); simp only [Act.put, List.setIfInBounds_toArray, List.set_cons_zero, List.set_cons_succ])
          | (refine wpAs_pure (v := ?_) rfl rfl ?_ ?_; rotate_left; (intro W hC hE; clear hE; skip; clear hC; go_simp; with_reducible rfl); simp only [Act.put, List.setIfInBounds_toArray, List.set_cons_zero, List.set_cons_succ]))
        refine wpAs_fixed rfl rfl rfl ?_ ?_
        · intro W hC hE
          refine does_enter (f := 12) (args := #[.slice A n ca]) ?_ ?_
          · go_simp
          · refine (oa.out W hC).mono ?_
            rintro e w' ⟨rfl, hg⟩
            exact ⟨_, rfl, rfl, hg⟩
        simp only [Act.put, List.setIfInBounds_toArray, List.set_cons_zero, List.set_cons_succ]
        repeat (first
          | (refine wpAs_skip rfl ?_; simp only [Act.put, List.setIfInBounds_toArray, List.set_cons_zero, List.set_cons_succ])
          | (refine wpAs_pure (v := ?_) rfl rfl ?_ ?_; rotate_left; (intro W hC hE; clear hE; skip; clear hC; go_simp; done); simp only [Act.put, List.setIfInBounds_toArray, List.set_cons_zero, List.set_cons_succ])
          | (refine wpAs_pure (v := ?_) rfl rfl ?_ ?_; rotate_left; (intro W hC hE; clear hE; skip; clear hC; go_simp; with_reducible rfl); simp only [Act.put, List.setIfInBounds_toArray, List.set_cons_zero, List.set_cons_succ]))
        refine wpAs_fixed rfl rfl rfl ?_ ?_
        · intro W hC hE
          refine does_enter (f := 12) (args := #[.slice B n cb]) ?_ ?_
          · go_simp
          · refine (ob.out W hC).mono ?_
            rintro e w' ⟨rfl, hg⟩
            exact ⟨_, rfl, rfl, hg⟩
        simp only [Act.put, List.setIfInBounds_toArray, List.set_cons_zero, List.set_cons_succ]
        repeat (first
          | (refine wpAs_skip rfl ?_; simp only [Act.put, List.setIfInBounds_toArray, List.set_cons_zero, List.set_cons_succ])
          | (refine wpAs_pure (v := ?_) rfl rfl ?_ ?_; rotate_left; (intro W hC hE; clear hE; skip; clear hC; go_simp; done); simp only [Act.put, List.setIfInBounds_toArray, List.set_cons_zero, List.set_cons_succ])
          | (refine wpAs_pure (v := ?_) rfl rfl ?_ ?_; rotate_left; (intro W hC hE; clear hE; skip; clear hC; go_simp; with_reducible rfl); simp only [Act.put, List.setIfInBounds_toArray, List.set_cons_zero, List.set_cons_succ]))
        refine wpAs_fixed rfl rfl rfl ?_ ?_
        · intro W hC hE
          refine does_enter (f := 12) (args := #[.slice C n cc]) ?_ ?_
          · go_simp
          · refine (oc.out W hC).mono ?_
            rintro e w' ⟨rfl, hg⟩
            exact ⟨_, rfl, rfl, hg⟩
        simp only [Act.put, List.setIfInBounds_toArray, List.set_cons_zero, List.set_cons_succ]
        repeat (first
          | (refine wpAs_skip rfl ?_; simp only [Act.put, List.setIfInBounds_toArray, List.set_cons_zero, List.set_cons_succ])
          | (refine wpAs_pure (v := ?_) rfl rfl ?_ ?_; rotate_left; (intro W hC hE; clear hE; skip; clear hC; go_simp; done); simp only [Act.put, List.setIfInBounds_toArray, List.set_cons_zero, List.set_cons_succ])
          | (refine wpAs_pure (v := ?_) rfl rfl ?_ ?_; rotate_left; (intro W hC hE; clear hE; skip; clear hC; go_simp; with_reducible rfl); simp only [Act.put, List.setIfInBounds_toArray, List.set_cons_zero, List.set_cons_succ]))
        refine wpAs_end fun W hC hE => ?_
        go_wp2
        go_ret
        exact ⟨rfl, hBW.trans (hC.mono hBW.size)⟩

/-! ### The row's step -/
set_option maxRecDepth 100000 in
theorem lifted (os : Os) (started : os.Started) (H : Type) (enc : TypeId × Value → H) :
    ReturnsInHanded {} Try.checked os 7 .any (Rows.sumThreeSpec.pre6 enc Try.prog Try.f7 Rows.sumThreeRow.domain false) (Rows.sumThreeSpec.post enc Try.prog Try.f7 false true false false) := by
  refine returnsInHanded_of_change (C := Try.checked) own started (by kernel_rfl) Try.func7
    (ChangeSpec.witness6 (enc := enc) (C := Try.checked) false ⟨#[], #[.slice none 0 0, .slice none 0 0, .slice none 0 0], []⟩ 8 (by kernel_rfl) (by kernel_rfl) (by kernel_rfl) (by kernel_rfl)) ?_
  intro W base args ds gs before hval0 hW _ _
  have hval : ∀ (j : Nat) t v, Try.f7.params[j]? = some t → args[j]? = some v → Value.okWide Try.prog W .any base t v := hval0
  have hW' := hW
  obtain ⟨p, q, hA0, hV, _, _, _⟩ := hW
  have hA : DataW.TrodAll enc Try.prog W 0 (fun _ => true) true Try.f7.params.toList args.toList ds p := hA0
  rw [Try.params7] at hA hval
  obtain ⟨v0, vs0, d0, ds0, p0, q0, hargs, rfl, _, h0, r0⟩ := trodAll_cons hA
  obtain ⟨v1, vs1, d1, ds1, p1, q1, rfl, rfl, _, h1, r1⟩ := trodAll_cons r0
  obtain ⟨v2, vs2, d2, ds2, p2, q2, rfl, rfl, _, h2, r2⟩ := trodAll_cons r1
  obtain ⟨rfl, rfl, _⟩ := trodAll_nil r2
  obtain rfl : args = #[v0, v1, v2] := by cases args; simp_all
  obtain ⟨rfl, _⟩ := trodVars_none hV
  obtain ⟨A0, n0, c0, x0, rfl, l0, m0, b0, y0⟩ := open_bytes Try.underlying22 Try.underlying5 (by kernel_rfl) (hval 0 22 v0 rfl rfl) h0
  obtain ⟨A1, n1, c1, x1, rfl, l1, m1, b1, y1⟩ := open_bytes Try.underlying22 Try.underlying5 (by kernel_rfl) (hval 1 22 v1 rfl rfl) h1
  obtain ⟨A2, n2, c2, x2, rfl, l2, m2, b2, y2⟩ := open_bytes Try.underlying22 Try.underlying5 (by kernel_rfl) (hval 2 22 v2 rfl rfl) h2
  clear hA0 hval0
  refine (walk A0 n0 c0 x0 y0 l0 m0 A1 n1 c1 x1 y1 l1 m1 A2 n2 c2 x2 y2 l2 m2 W b0 b1 b2).mono fun e W' ⟨he, hb⟩ => ?_
  subst he
  exact ⟨_, rfl, law_post laidOut (by rw [Try.params7]; decide +kernel) (by kernel_rfl) Try.underlying4 rfl ⟨rfl, by simp [Rows.sumThreeSpec], rfl⟩ hW' hb⟩

theorem over : Rows.sumThreeRow.holds Try.pinned (OpenSpec.ofChange Rows.sumThreeSpec) :=
  OpenClaim.holds_of_wide 7 Try.f7 rfl rfl rfl rfl rfl rfl rfl ⟨rfl, rfl, rfl, rfl, rfl⟩ rfl rfl rfl rfl rfl (by kernel_rfl) Try.func7 (by kernel_rfl)
    (of_decide_eq_true (by kernel_rfl)) (by unfold Func.isWrapper; first | (rw [if_pos (by decide +kernel)]; kernel_rfl) | (rw [if_neg (by decide +kernel)]; exact ⟨rfl, rfl⟩))
    (fun os started H enc _ => lifted os started H enc)

end Go.Proofs.Ytabnifphpphedaa.sumThree
namespace Go.Proofs.Ytabnifphpphedaa
theorem sumThree_proved : Rows.SumThreeSaid := sumThree.over
end Go.Proofs.Ytabnifphpphedaa
